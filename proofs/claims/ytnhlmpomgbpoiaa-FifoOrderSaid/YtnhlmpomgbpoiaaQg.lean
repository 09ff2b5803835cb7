/- FifoOrder, walked. -/
import Derived.Test.YtnhlmpomgbpoiaaQf
import Derived.Deep.QuietTactic
import Derived.BigQuiet
namespace Go.Proofs.Ytnhlmpomgbpoiaa
open Go.RowKit

/-- Between two lists of things. -/
def OrdRel (w : World) (g : Nat) (lim : Int) (M : Nat) (came kept got i : Value) (wr : World) : Prop :=
  ∃ (j : Nat) (V K G : List Int) (lost : Int) (A : Option Addr) (c : Nat) (Ak : Option Addr) (ck : Nat) (Ag : Option Addr) (cg : Nat), j ≤ M ∧ i = .int .i64 j ∧ kept = .slice Ak K.length ck ∧ got = .slice Ag G.length cg ∧ came = .int .i64 (K.length + lost) ∧
    0 ≤ lost ∧ (K.length + lost : Int) ≤ 20 * j ∧ K = G ++ V ∧ Ord w wr g lim V K G lost A c Ak ck Ag cg
/-- Between two takes. -/
def InRel (w : World) (g : Nat) (lim : Int) (K : List Int) (lost : Int) (Ak : Option Addr) (ck : Nat) (got k : Value) (wr : World) : Prop :=
  ∃ (t : Nat) (V G : List Int) (A : Option Addr) (c : Nat) (Ag : Option Addr) (cg : Nat), t ≤ 7 ∧ k = .int .i64 t ∧ got = .slice Ag G.length cg ∧ K = G ++ V ∧ Ord w wr g lim V K G lost A c Ak ck Ag cg
/-- Between two of the last takes. -/
def EndRel (w : World) (g : Nat) (lim : Int) (N : Nat) (K : List Int) (lost : Int) (Ak : Option Addr) (ck : Nat) (got k : Value) (wr : World) : Prop :=
  ∃ (t : Nat) (V G : List Int) (A : Option Addr) (c : Nat) (Ag : Option Addr) (cg : Nat), t + V.length = N ∧ k = .int .i64 t ∧ got = .slice Ag G.length cg ∧ K = G ++ V ∧ Ord w wr g lim V K G lost A c Ak ck Ag cg

/-- What Take does, in these words. -/
theorem Ord.take_no {w0 wr : World} {g c ck cg : Nat} {lim lost : Int} {K G : List Int} {A Ak Ag : Option Addr} (h : Ord w0 wr g lim [] K G lost A c Ak ck Ag cg) :
    Calls Try.prog 11 #[.pointer (some ⟨g, 0, none⟩)] wr fun e w' => e = .returned (.tuple #[.int .i64 0, .bool false]) ∧ wr = w' := take_none _ _ _ _ _ _ _ h.q
def TookOne (w0 : World) (g : Nat) (lim : Int) (V K G : List Int) (lost : Int) (Ak : Option Addr) (ck : Nat) (Ag : Option Addr) (cg : Nat) (w' : World) : Prop := ∃ A c, Ord w0 w' g lim V K G lost A c Ak ck Ag cg
theorem Ord.take_one {w0 wr : World} {g c ck cg : Nat} {lim lost v : Int} {V K G : List Int} {A Ak Ag : Option Addr} (h : Ord w0 wr g lim (v :: V) K G lost A c Ak ck Ag cg) :
    Calls Try.prog 11 #[.pointer (some ⟨g, 0, none⟩)] wr fun e w' => e = .returned (.tuple #[.int .i64 v, .bool true]) ∧ TookOne w0 g lim V K G lost Ak ck Ag cg w' := by
  refine (take_some _ _ _ _ _ _ _ _ _ _ h.q).mono ?_
  rintro e w' ⟨rfl, A', c', hq, ht, hb⟩
  exact ⟨rfl, A', c', h.called hq ht (.inl hb)⟩
def PutOne (w0 : World) (g : Nat) (lim : Int) (V K G x : List Int) (lost : Int) (X : Option Addr) (p k : Nat) (Ak : Option Addr) (ck : Nat) (Ag : Option Addr) (cg : Nat) (w' : World) : Prop :=
  (∃ A c, Ord w0 w' g lim (V ++ x.take k) K G (lost + ((p : Int) - (k : Int))) A c Ak ck Ag cg) ∧ Src w' X k (ints (x.take k))
theorem Ord.puts {w0 wr : World} {g c ck cg p cx : Nat} {lim lost : Int} {V K G x : List Int} {A Ak Ag X : Option Addr} (h : Ord w0 wr g lim V K G lost A c Ak ck Ag cg) (hx : Nums wr w0.heap.size X p cx x) (hl : 0 ≤ lost ∧ lost ≤ 1000000) (hp : p ≤ 1000) :
    Calls Try.prog 9 #[.pointer (some ⟨g, 0, none⟩), .slice X p cx] wr fun e w' => ∃ k : Nat, e = .returned (.int .i64 (k : Nat)) ∧ (k ≤ p ∧ PutOne w0 g lim V K G x lost X p k Ak ck Ag cg w') := by
  have hxl := hx.len
  refine (put_any wr g w0.heap.size V.length c p cx lim lost (ints V) (ints x) A X h.q h.bel.size (fun k hk => by rw [← List.map_take]; exact Src.of_nums hx hk) hx.cap hx.max (by omega)).mono ?_
  rintro e w' ⟨k, A', c', rfl, hk, hq, ht, hn⟩
  have hkp : k ≤ p := by omega
  have hlk : (List.take k x).length = k := by rw [List.length_take]; omega
  rw [← List.map_take, ← List.map_append] at hq
  have hq' : Que w' w0.heap.size g lim (ints (V ++ List.take k x)) (lost + ((p : Int) - (k : Int))) A' (V ++ List.take k x).length c' := by
    rw [List.length_append, hlk]; exact hq
  have hO := h.called hq' ht hn
  exact ⟨k, rfl, hkp, ⟨A', c', hO⟩, Src.of_nums (hx.below (ht.below h.bel.size h.bg fun b e => (h.q.row.lt e).1)) hkp⟩
theorem keptNext {w0 wr w' : World} {g c ck cg ck' k : Nat} {lim lost : Int} {V K G x : List Int} {A Ak Ag Ak' : Option Addr} (h : Ord w0 wr g lim V K G lost A c Ak ck Ag cg) (hk : k ≤ x.length)
    (ho : Qs w' w0.heap.size 3 Ak' (K.length + k) ck' (ints K ++ ints (x.take k))) (hg : wr.grownBy w' (blk Ak)) (hn : Nxt wr Ak Ak') : Ord w0 w' g lim V (K ++ x.take k) G lost A c Ak' ck' Ag cg :=
  h.kept (by have e : ints (K ++ x.take k) = ints K ++ ints (x.take k) := by simp
             rw [e, List.length_append, List.length_take, Nat.min_eq_left hk]; exact ho) hg hn
theorem gotNext {w0 wr w' : World} {g c ck cg cg' : Nat} {lim lost v : Int} {V K G : List Int} {A Ak Ag Ag' : Option Addr} (h : Ord w0 (wr.alloc (.cells #[.int .i64 v] 3)) g lim V K G lost A c Ak ck Ag cg)
    (ho : Qs w' w0.heap.size 3 Ag' (G.length + 1) cg' (ints G ++ List.take 1 [.int .i64 v])) (hg : (wr.alloc (.cells #[.int .i64 v] 3)).grownBy w' (blk Ag)) (hn : Nxt (wr.alloc (.cells #[.int .i64 v] 3)) Ag Ag') : Ord w0 w' g lim V K (G ++ [v]) lost A c Ak ck Ag' cg' :=
  h.got (by have e : ints (G ++ [v]) = ints G ++ List.take 1 [.int .i64 v] := by simp
            rw [e, List.length_append]; exact ho) hg hn

set_option maxRecDepth 100000 in
set_option maxHeartbeats 4000000 in
theorem fifoOrder_walk (L : Int) (A : Option Addr) (n c : Nat) (rs : Nat → RowV) (At : Option Addr) (nt ct : Nat) (tl : List Int) (w : World) (hL : 0 ≤ L ∧ L ≤ 255) (h0 : NumRows w w.heap.size A n c rs) (ht : Byt w w.heap.size At nt ct tl) :
    Calls Try.prog 4 #[.int .u8 L, .slice A n c, .slice At nt ct] w fun e w' => e = .returned (.bool true) ∧ Below w.heap.size w w' := by
  have hcap := h0.cap
  have hmax := h0.max
  have hcat := ht.cap
  have hmat := ht.max
  simp only [maxLen] at hmax hmat
  have hl41 : 0 ≤ L % 41 ∧ L % 41 ≤ 40 := by omega
  obtain ⟨M, hM⟩ : ∃ M : Nat, (M = n ∧ n ≤ 20) ∨ (M = 20 ∧ 20 < n) := by
    rcases Nat.lt_or_ge 20 n with h | h
    · exact ⟨20, .inr ⟨rfl, h⟩⟩
    · exact ⟨n, .inl ⟨rfl, h⟩⟩
  have hMn : M ≤ n ∧ M ≤ 20 := by omega
  have HR := Lib.hid h0
  have HB := Lib.hid ht
  have HM := Lib.hid hM
  clear h0 ht hM
  obtain ⟨hl1, hl2⟩ := hl41
  obtain ⟨hL1, hL2⟩ := hL
  obtain ⟨hMn1, hMn2⟩ := hMn
  go_enter Try.func4, Try.ntmps4
  go_wp2_with fail
  refine (new_any (L % 41) w (by omega)).mono ?_
  rintro e w1 ⟨rfl, hq1, hw1⟩
  have hb1 : Below w.heap.size w w1 := by rw [hw1]; exact (Below.refl _ _).alloc (Nat.le_refl _) _
  have hs1 : w.heap.size + 1 ≤ w1.heap.size := by rw [hw1]; simp
  have hcl : clampL (L % 41) = L % 41 := by unfold clampL; rw [if_neg (by omega), if_neg (by omega)]
  rw [hcl] at hq1
  clear hw1 hcl
  have hst : Ord w ((w1.alloc (.cells #[] 3)).alloc (.cells #[] 3)) w.heap.size (L % 41) [] [] [] 0 none 0 (some ⟨w1.heap.size, 0, none⟩) 0 (some ⟨w1.heap.size + 1, 0, none⟩) 0 := by
    have hbb : Below w1.heap.size w1 ((w1.alloc (.cells #[] 3)).alloc (.cells #[] 3)) := ((Below.refl _ _).alloc (Nat.le_refl _) _).alloc (by simp) _
    refine ⟨(hq1.below hbb).less (by omega), ⟨rfl, by simp, Nat.le_refl _, by simp [maxLen], .inr ⟨_, 0, #[], rfl, by omega, heap_alloc2_old w1 _ _, by simp, fun j hj => absurd hj (by simp)⟩⟩,
      ⟨rfl, by simp, Nat.le_refl _, by simp [maxLen], .inr ⟨_, 0, #[], rfl, by omega, heap_alloc2_new w1 _ _, by simp, fun j hj => absurd hj (by simp)⟩⟩, fun b e => by simp [blk] at e, fun b e => by simp [blk] at e, fun b e => by simp [blk] at e ⊢; omega, by simp [blk]; omega, by simp [blk]; omega, Nat.le_refl _, hb1.trans (hbb.mono hb1.size)⟩
  have HST := Lib.hid hst
  have hs1' : w.heap.size ≤ w1.heap.size := by omega
  clear hst hq1
  go_wp2_with fail
  go_loopw [8, 9, 10, 11] (OrdRel w w.heap.size (L % 41) M) (fun _ _ _ i _ => M - (intOf i).toNat)
  case atStart => exact ⟨0, [], [], [], 0, none, 0, _, 0, _, 0, Nat.zero_le _, rfl, rfl, rfl, rfl, Int.le_refl _, by simp, rfl, HST.out⟩
  case round =>
    obtain ⟨j, V, K, G, lost, Aq, cq, Ak, ck, Ag, cg, hj, rfl, rfl, rfl, rfl, hl0, hlK, hKGV, hO⟩ := hrel
    by_cases hlt : j < M
    · obtain ⟨b, off, rfl, hbb, hcl⟩ := HR.out.cells (by omega)
      obtain ⟨hc1, hN1⟩ := hcl j (by omega)
      generalize rs j = rv at hc1 hN1
      obtain ⟨X, m, cx, l⟩ := rv
      simp only at hc1 hN1
      have hcj : wr.cell? ⟨b, off + j, none⟩ = some (.slice X m cx) := (hO.bel.cell (p := ⟨b, off + j, none⟩) hbb).trans hc1
      have hmc := hN1.cap
      have hmm := hN1.max
      simp only [maxLen] at hmm
      obtain ⟨p, hp⟩ : ∃ p : Nat, (p = m ∧ m ≤ 20) ∨ (p = 20 ∧ 20 < m) := by
        rcases Nat.lt_or_ge 20 m with h | h
        · exact ⟨20, .inr ⟨rfl, h⟩⟩
        · exact ⟨m, .inl ⟨rfl, h⟩⟩
      have hpm : p ≤ m ∧ p ≤ 20 := by omega
      have hNp := hN1.take hpm.1
      generalize l.take p = x at hNp
      have hxl := hNp.len
      obtain ⟨hpm1, hpm2⟩ := hpm
      have hjn : (j : Int) < (n : Int) := by omega
      have hj0 : (0 : Int) ≤ (j : Int) := by omega
      have HO := Lib.hid hO
      have HN := Lib.hid hNp
      have HK := Lib.hid hKGV
      have HXL := Lib.hid hxl
      clear hcl hc1 hN1 hO hNp hKGV hxl
      rcases hp with ⟨rfl, h20⟩ | ⟨rfl, h20⟩
      · go_wp2_with fail
        go_quiet (fail)
        have hOq : Ord w (wr.drewN nq) w.heap.size (L % 41) V K G lost Aq cq Ak ck Ag cg := HO.out.step (below_drewN (Below.refl _ _) nq)
        have hput := hOq.puts (HN.out.below hOq.bel) (by omega) (by omega)
        have HPUT := Lib.hid hput
        clear hOq hput hcj
        go_wp2_with fail
        refine HPUT.out.mono ?_
        rintro e w2 ⟨k, rfl, hkp, ⟨A2, c2, hO2⟩, hsk⟩
        have hkm := hO2.k.max
        have HO2 := Lib.hid hO2
        have HSK := Lib.hid hsk
        have hkl : (k : Int) ≤ cx := by omega
        have hk0 : (0 : Int) ≤ k := by omega
        clear hO2 hsk
        have hkd : decide (((p : Nat) : Int) < (k : Int)) = false := decide_eq_false (by omega)
        go_wp2_with (refine wpList_append_q rfl (.tmp 58) (.tmp 61) 25 rfl Try.underlying25 info_el rfl rfl HO2.out.k HO2.out.bel.size rfl HSK.out (by simp only [maxLen]; omega) (by omega) ?_; intro A3 c3 w3 hq3 hg3 hn3)
        have hO3 := keptNext HO2.out (by have := HXL.out; omega) hq3 hg3 hn3
        have hlk : (K ++ x.take k).length = K.length + k := by rw [List.length_append, List.length_take, Nat.min_eq_left (by have := HXL.out; omega)]
        have HO3 := Lib.hid hO3
        have HLK := Lib.hid hlk
        have hK3 : K ++ x.take k = G ++ (V ++ x.take k) := by rw [← List.append_assoc, ← HK.out]
        have HK3 := Lib.hid hK3
        clear hO3 hlk hq3 hg3 hn3 hK3
        generalize K ++ x.take k = K3 at HO3 HLK HK3
        generalize V ++ x.take k = V3 at HO3 HK3
        go_loopw [10, 14] (InRel w w.heap.size (L % 41) K3 (lost + (((p : Nat) : Int) - (k : Int))) A3 c3) (fun _ t _ => 8 - (intOf t).toNat)
        case atStart => exact ⟨0, V3, G, A2, c2, Ag, cg, by omega, rfl, rfl, HK3.out, HO3.out⟩
        case round =>
          obtain ⟨t, V4, G4, A4, c4, Ag4, cg4, ht7, rfl, rfl, hKG4, hO4⟩ := hrel
          have HK4 := Lib.hid hKG4
          by_cases hjt : j < nt
          · obtain ⟨bt, ot, rfl, hbt, hct⟩ := HB.out.cells (by omega)
            have hcq := (hO4.bel.cell (p := ⟨bt, ot + j, none⟩) hbt).trans (hct j hjt)
            have hqr := HB.out.range j
            generalize tl.getD j 0 = q at hcq hqr
            obtain ⟨hq0, hq1⟩ := hqr
            have hjnt : (j : Int) < (nt : Int) := by omega
            clear hct hKG4
            by_cases htq : (t : Int) < q % 8
            · cases V4 with
              | nil =>
                have htk := hO4.take_no
                have HTK := Lib.hid htk
                have HO4 := Lib.hid hO4
                clear htk hO4
                go_wp2_with fail
                refine HTK.out.mono ?_
                rintro e w5 ⟨rfl, rfl⟩
                go_wp2_with fail
                go_roundw
                case rel => exact ⟨t + 1, [], G4, A4, c4, Ag4, cg4, by omega, by go_num, rfl, HK4.out, HO4.out⟩
                case measure => simp [intOf]; omega
              | cons v V5 =>
                have htk := hO4.take_one
                have hg4m := hO4.o.max
                have hgln : G4.length ≤ K3.length := by rw [HK4.out, List.length_append]; omega
                have hk3l : K3.length ≤ 1000 := by rw [HLK.out]; omega
                have HTK := Lib.hid htk
                clear htk hO4
                go_wp2_with fail
                refine HTK.out.mono ?_
                rintro e w5 ⟨rfl, A5, c5, hO5⟩
                have hO6 := hO5.step ((Below.refl _ w5).alloc (Nat.le_refl _) (.cells #[.int .i64 v] 3))
                have HO6 := Lib.hid hO6
                clear hO5 hO6
                go_wp2_with (refine wpList_append_q rfl (.tmp 85) (.tmp 87) 25 rfl Try.underlying25 info_el rfl rfl HO6.out.o HO6.out.bel.size rfl (Src.lit w5 3 [.int .i64 v] (by simp [Value.oneCell']) 1 (Nat.le_refl _)) (by simp only [maxLen]; omega) (by omega) ?_; intro A6 c6 w6 hq6 hg6 hn6)
                have hO7 := gotNext HO6.out hq6 hg6 hn6
                have HO7 := Lib.hid hO7
                clear hq6 hg6 hn6 hO7
                go_roundw
                case rel => exact ⟨t + 1, V5, G4 ++ [v], A5, c5, A6, c6, by omega, by go_num, by rw [List.length_append]; rfl, by rw [HK4.out]; simp, HO7.out⟩
                case measure => simp [intOf]; omega
            · have htq' : q % 8 ≤ (t : Int) := by omega
              have HO4 := Lib.hid hO4
              clear hO4 htq
              go_wp2_with fail
              go_roundw
              case rel => exact ⟨j + 1, V4, K3, G4, lost + (((p : Nat) : Int) - (k : Int)), A4, c4, A3, c3, Ag4, cg4, by omega, by go_num, by rw [HLK.out], rfl, by rw [HLK.out]; congr 1; push_cast; omega, by omega, by rw [HLK.out]; push_cast; omega, HK4.out, HO4.out⟩
              case measure => simp [intOf]; omega
          · have hjt' : nt ≤ j := by omega
            have HO4 := Lib.hid hO4
            clear hO4 hjt hKG4
            go_wp2_with fail
            go_roundw
            case rel => exact ⟨j + 1, V4, K3, G4, lost + (((p : Nat) : Int) - (k : Int)), A4, c4, A3, c3, Ag4, cg4, by omega, by go_num, by rw [HLK.out], rfl, by rw [HLK.out]; congr 1; push_cast; omega, by omega, by rw [HLK.out]; push_cast; omega, HK4.out, HO4.out⟩
            case measure => simp [intOf]; omega
      · go_wp2_with fail
        go_quiet (fail)
        have hOq : Ord w (wr.drewN nq) w.heap.size (L % 41) V K G lost Aq cq Ak ck Ag cg := HO.out.step (below_drewN (Below.refl _ _) nq)
        have hput := hOq.puts (HN.out.below hOq.bel) (by omega) (by omega)
        have HPUT := Lib.hid hput
        clear hOq hput hcj
        go_wp2_with fail
        refine HPUT.out.mono ?_
        rintro e w2 ⟨k, rfl, hkp, ⟨A2, c2, hO2⟩, hsk⟩
        have hkm := hO2.k.max
        have HO2 := Lib.hid hO2
        have HSK := Lib.hid hsk
        have hkl : (k : Int) ≤ cx := by omega
        have hk0 : (0 : Int) ≤ k := by omega
        clear hO2 hsk
        have hkd : decide ((20 : Int) < (k : Int)) = false := decide_eq_false (by omega)
        go_wp2_with (refine wpList_append_q rfl (.tmp 58) (.tmp 61) 25 rfl Try.underlying25 info_el rfl rfl HO2.out.k HO2.out.bel.size rfl HSK.out (by simp only [maxLen]; omega) (by omega) ?_; intro A3 c3 w3 hq3 hg3 hn3)
        have hO3 := keptNext HO2.out (by have := HXL.out; omega) hq3 hg3 hn3
        have hlk : (K ++ x.take k).length = K.length + k := by rw [List.length_append, List.length_take, Nat.min_eq_left (by have := HXL.out; omega)]
        have HO3 := Lib.hid hO3
        have HLK := Lib.hid hlk
        have hK3 : K ++ x.take k = G ++ (V ++ x.take k) := by rw [← List.append_assoc, ← HK.out]
        have HK3 := Lib.hid hK3
        clear hO3 hlk hq3 hg3 hn3 hK3
        generalize K ++ x.take k = K3 at HO3 HLK HK3
        generalize V ++ x.take k = V3 at HO3 HK3
        go_loopw [10, 14] (InRel w w.heap.size (L % 41) K3 (lost + (((20 : Nat) : Int) - (k : Int))) A3 c3) (fun _ t _ => 8 - (intOf t).toNat)
        case atStart => exact ⟨0, V3, G, A2, c2, Ag, cg, by omega, rfl, rfl, HK3.out, HO3.out⟩
        case round =>
          obtain ⟨t, V4, G4, A4, c4, Ag4, cg4, ht7, rfl, rfl, hKG4, hO4⟩ := hrel
          have HK4 := Lib.hid hKG4
          by_cases hjt : j < nt
          · obtain ⟨bt, ot, rfl, hbt, hct⟩ := HB.out.cells (by omega)
            have hcq := (hO4.bel.cell (p := ⟨bt, ot + j, none⟩) hbt).trans (hct j hjt)
            have hqr := HB.out.range j
            generalize tl.getD j 0 = q at hcq hqr
            obtain ⟨hq0, hq1⟩ := hqr
            have hjnt : (j : Int) < (nt : Int) := by omega
            clear hct hKG4
            by_cases htq : (t : Int) < q % 8
            · cases V4 with
              | nil =>
                have htk := hO4.take_no
                have HTK := Lib.hid htk
                have HO4 := Lib.hid hO4
                clear htk hO4
                go_wp2_with fail
                refine HTK.out.mono ?_
                rintro e w5 ⟨rfl, rfl⟩
                go_wp2_with fail
                go_roundw
                case rel => exact ⟨t + 1, [], G4, A4, c4, Ag4, cg4, by omega, by go_num, rfl, HK4.out, HO4.out⟩
                case measure => simp [intOf]; omega
              | cons v V5 =>
                have htk := hO4.take_one
                have hg4m := hO4.o.max
                have hgln : G4.length ≤ K3.length := by rw [HK4.out, List.length_append]; omega
                have hk3l : K3.length ≤ 1000 := by rw [HLK.out]; omega
                have HTK := Lib.hid htk
                clear htk hO4
                go_wp2_with fail
                refine HTK.out.mono ?_
                rintro e w5 ⟨rfl, A5, c5, hO5⟩
                have hO6 := hO5.step ((Below.refl _ w5).alloc (Nat.le_refl _) (.cells #[.int .i64 v] 3))
                have HO6 := Lib.hid hO6
                clear hO5 hO6
                go_wp2_with (refine wpList_append_q rfl (.tmp 85) (.tmp 87) 25 rfl Try.underlying25 info_el rfl rfl HO6.out.o HO6.out.bel.size rfl (Src.lit w5 3 [.int .i64 v] (by simp [Value.oneCell']) 1 (Nat.le_refl _)) (by simp only [maxLen]; omega) (by omega) ?_; intro A6 c6 w6 hq6 hg6 hn6)
                have hO7 := gotNext HO6.out hq6 hg6 hn6
                have HO7 := Lib.hid hO7
                clear hq6 hg6 hn6 hO7
                go_roundw
                case rel => exact ⟨t + 1, V5, G4 ++ [v], A5, c5, A6, c6, by omega, by go_num, by rw [List.length_append]; rfl, by rw [HK4.out]; simp, HO7.out⟩
                case measure => simp [intOf]; omega
            · have htq' : q % 8 ≤ (t : Int) := by omega
              have HO4 := Lib.hid hO4
              clear hO4 htq
              go_wp2_with fail
              go_roundw
              case rel => exact ⟨j + 1, V4, K3, G4, lost + (((20 : Nat) : Int) - (k : Int)), A4, c4, A3, c3, Ag4, cg4, by omega, by go_num, by rw [HLK.out], rfl, by rw [HLK.out]; congr 1; push_cast; omega, by omega, by rw [HLK.out]; push_cast; omega, HK4.out, HO4.out⟩
              case measure => simp [intOf]; omega
          · have hjt' : nt ≤ j := by omega
            have HO4 := Lib.hid hO4
            clear hO4 hjt hKG4
            go_wp2_with fail
            go_roundw
            case rel => exact ⟨j + 1, V4, K3, G4, lost + (((20 : Nat) : Int) - (k : Int)), A4, c4, A3, c3, Ag4, cg4, by omega, by go_num, by rw [HLK.out], rfl, by rw [HLK.out]; congr 1; push_cast; omega, by omega, by rw [HLK.out]; push_cast; omega, HK4.out, HO4.out⟩
            case measure => simp [intOf]; omega
    · have hV40 : V.length ≤ 40 := by have := hO.q.fits; omega
      have HO := Lib.hid hO
      have HK := Lib.hid hKGV
      clear hO hKGV
      have hcs : ((n : Int) ≤ (j : Int)) ∨ ((j : Int) < (n : Int) ∧ (20 : Int) ≤ (j : Int)) := by have := HM.out; omega
      rcases hcs with hcs | ⟨hcs, hcs2⟩
      all_goals
        go_wp2_with (go_at_call 20; refine (len_any _ _ _ _ _ _ _ _ _ HO.out.q).mono ?_; rintro e w2 ⟨rfl, rfl⟩)
        go_loopw [10, 91] (EndRel w w.heap.size (L % 41) V.length K lost Ak ck) (fun _ t _ => V.length - (intOf t).toNat)
        case atStart => exact ⟨0, V, G, Aq, cq, Ag, cg, by omega, rfl, rfl, HK.out, HO.out⟩
        case round =>
          obtain ⟨t, V4, G4, A4, c4, Ag4, cg4, htl, rfl, rfl, hKG4, hO4⟩ := hrel
          have HK4 := Lib.hid hKG4
          have hfit := hO4.q.fits
          cases V4 with
          | cons v V5 =>
            have htk := hO4.take_one
            have htN : (t : Int) < (V.length : Int) := by simp only [List.length_cons] at htl; omega
            have hgln : G4.length ≤ K.length := by rw [HK4.out, List.length_append]; omega
            have hk3l : K.length ≤ 1000 := by omega
            have htl' : t + 1 + V5.length ≤ V.length ∧ V.length ≤ t + 1 + V5.length := by simp only [List.length_cons] at htl; omega
            have HTK := Lib.hid htk
            have HTL := Lib.hid htl'
            clear htk hO4 hKG4 htl htl' hfit
            go_wp2_with fail
            refine HTK.out.mono ?_
            rintro e w5 ⟨rfl, A5, c5, hO5⟩
            have hO6 := hO5.step ((Below.refl _ w5).alloc (Nat.le_refl _) (.cells #[.int .i64 v] 3))
            have HO6 := Lib.hid hO6
            clear hO5 hO6
            go_wp2_with (refine wpList_append_q rfl (.tmp 99) (.tmp 101) 25 rfl Try.underlying25 info_el rfl rfl HO6.out.o HO6.out.bel.size rfl (Src.lit w5 3 [.int .i64 v] (by simp [Value.oneCell']) 1 (Nat.le_refl _)) (by simp only [maxLen]; omega) (by omega) ?_; intro A6 c6 w6 hq6 hg6 hn6)
            have hO7 := gotNext HO6.out hq6 hg6 hn6
            have HO7 := Lib.hid hO7
            clear hq6 hg6 hn6 hO7
            go_roundw
            case rel => exact ⟨t + 1, V5, G4 ++ [v], A5, c5, A6, c6, by have := HTL.out; omega, by go_num, by rw [List.length_append]; rfl, by rw [HK4.out]; simp, HO7.out⟩
            case measure => simp [intOf]; omega
          | nil =>
            obtain rfl : K = G4 := by simpa using hKG4
            have htN : (V.length : Int) ≤ (t : Int) := by simp only [List.length_nil] at htl; omega
            have hko := hO4.k
            have hoo := hO4.o
            have hlst := lost_any _ _ _ _ _ _ _ _ _ hO4.q
            have hbel := hO4.bel
            have HLST := Lib.hid hlst
            have HKO := Lib.hid hko
            have HOO := Lib.hid hoo
            clear hO4 hKG4 htl hfit hlst hko hoo
            go_wp2_with (go_at_call 21; refine HLST.out.mono ?_; rintro e w2 ⟨rfl, rfl⟩)
            obtain ⟨wo, rfl⟩ : ∃ wo : World, wo = wr := ⟨_, rfl⟩
            go_loopw [19] (fun i wr => ∃ t : Nat, t ≤ K.length ∧ i = .int .i64 t ∧ Below wo.heap.size wo wr) (fun i _ => K.length - (intOf i).toNat)
            case atStart => exact ⟨0, Nat.zero_le _, rfl, Below.refl _ _⟩
            case round =>
              obtain ⟨i, hi, rfl, hbi⟩ := hrel
              have hkm := HKO.out.max
              simp only [maxLen] at hkm
              have hkc := HKO.out.cap
              have hoc := HOO.out.cap
              by_cases hil : i < K.length
              · obtain ⟨b1, o1, rfl⟩ := HKO.out.addr (by omega)
                obtain ⟨b2, o2, rfl⟩ := HOO.out.addr (by omega)
                have c1 := (HKO.out.below hbi).cell rfl hil
                have c2 := (HOO.out.below hbi).cell rfl hil
                have hv : (ints K)[i]? = some (.int .i64 (K.getD i 0)) := by simp [List.getD, List.getElem?_eq_getElem hil]
                rw [hv] at c1 c2
                have hil' : (i : Int) < (K.length : Int) := by omega
                have hi0 : (0 : Int) ≤ (i : Int) := by omega
                generalize K.getD i 0 = q at c1 c2
                clear hv
                go_wp2_with fail
                go_quiet (fail)
                go_wp2_with fail
                go_roundw
                case rel => exact ⟨i + 1, by omega, by go_num, below_drewN hbi nq⟩
                case measure => simp [intOf]; omega
              · have hil' : (K.length : Int) ≤ (i : Int) := by omega
                go_wp2_with fail
                refine (live7_any _).mono ?_
                rintro e w9 ⟨rfl, hb9⟩
                go_wp2_with fail
                go_ret
                exact ⟨rfl, (hbel.trans (hbi.mono hbel.size)).trans (hb9.mono (Nat.le_trans hbel.size hbi.size))⟩
end Go.Proofs.Ytnhlmpomgbpoiaa
