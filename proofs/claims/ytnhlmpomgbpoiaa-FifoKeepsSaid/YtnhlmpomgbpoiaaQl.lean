/- FifoKeeps, walked. -/
import Derived.Test.YtnhlmpomgbpoiaaQk
namespace Go.Proofs.Ytnhlmpomgbpoiaa
open Go.RowKit Go.Shelf
attribute [local go_sem] Oper.semAt_some

theorem Que.empty {w : World} {B B' g : Nat} {lim lost : Int} (h : Que w B g lim [] lost none 0 0) : Que w B' g lim [] lost none 0 0 := ⟨h.box, Qs.nil_ _ _ _, h.lims, h.fits, h.isnt⟩
theorem clampL_id {k : Int} (h : 0 ≤ k ∧ k ≤ 65536) : clampL k = k := by unfold clampL; rw [if_neg (by omega), if_neg (by omega)]

/-- The boxes of FifoKeeps, from block h on; what was seen lies at hs. -/
structure KpB (h hs : Nat) (W : World) (A : Option Addr) (N c : Nat) (most seen : Int) (res : Bool) : Prop where
  l : W.heap[h]? = some (.cells #[.slice A N c] 25 (0, 0))
  m : W.heap[h + 1]? = some (.cells #[.int .u8 most] 5 (0, 0))
  r : W.heap[h + 1 + 1]? = some (.cells #[.bool res] 4 (0, 0))
  q : W.heap[h + 1 + 1 + 1 + 1]? = some (.cells #[.pointer (some ⟨h + 1 + 1 + 1, 0, none⟩)] 23 (0, 0))
  s : W.heap[hs]? = some (.cells #[.int .i64 seen] 3 (0, 0))
theorem KpB.keep {h hs N c : Nat} {W W' : World} {A : Option Addr} {most seen : Int} {res : Bool} (k : KpB h hs W A N c most seen res) (hl : h + 1 + 1 + 1 + 1 < W.heap.size) (he : ∀ k, k < W.heap.size → k ≤ h + 1 + 1 + 1 + 1 → k ≠ h + 1 + 1 + 1 → W'.heap[k]? = W.heap[k]?) (hs' : W'.heap[hs]? = W.heap[hs]?) : KpB h hs W' A N c most seen res :=
  ⟨(he _ (by omega) (by omega) (by omega)).trans k.l, (he _ (by omega) (by omega) (by omega)).trans k.m, (he _ (by omega) (by omega) (by omega)).trans k.r, (he _ (by omega) (by omega) (by omega)).trans k.q, hs'.trans k.s⟩
theorem KpB.below {h hs N c : Nat} {W W' : World} {A : Option Addr} {most seen : Int} {res : Bool} (k : KpB h hs W A N c most seen res) (hb : Below W.heap.size W W') : KpB h hs W' A N c most seen res :=
  ⟨(hb.block _ (Array.getElem?_eq_some_iff.1 k.l).1).trans k.l, (hb.block _ (Array.getElem?_eq_some_iff.1 k.m).1).trans k.m, (hb.block _ (Array.getElem?_eq_some_iff.1 k.r).1).trans k.r, (hb.block _ (Array.getElem?_eq_some_iff.1 k.q).1).trans k.q, (hb.block _ (Array.getElem?_eq_some_iff.1 k.s).1).trans k.s⟩
theorem KpB.own {h hs N c Bn : Nat} {W W' : World} {A : Option Addr} {most seen : Int} {res : Bool} {row : Option Nat} (k : KpB h hs W A N c most seen res) (hg : W.grownBy W' row) (hr : ∀ r, row = some r → Bn ≤ r ∧ ∃ o : Obj, W.heap[r]? = some o ∧ o.isCells = false) : KpB h hs W' A N c most seen res := by
  have key : ∀ k cs t fr, W.heap[k]? = some (Obj.cells cs t fr) → W'.heap[k]? = W.heap[k]? := fun k _ _ _ hk => hg.block k (Array.getElem?_eq_some_iff.1 hk).1 (fun e => by
    obtain ⟨_, o, ho, hc⟩ := hr k e.symm
    rw [hk] at ho; cases ho; cases hc)
  exact ⟨(key _ _ _ _ k.l).trans k.l, (key _ _ _ _ k.m).trans k.m, (key _ _ _ _ k.r).trans k.r, (key _ _ _ _ k.q).trans k.q, (key _ _ _ _ k.s).trans k.s⟩

theorem KpB.tch {h hs N c n cq : Nat} {W W' : World} {A Aq : Option Addr} {most seen lim lost : Int} {res : Bool} {V : List Value} (k : KpB h hs W A N c most seen res) (hq : Que W (h + 1 + 1 + 1 + 1 + 1) (h + 1 + 1 + 1) lim V lost Aq n cq) (ht : Tch W W' (h + 1 + 1 + 1) Aq) (hn : blk Aq ≠ some hs) (hh : h + 1 + 1 + 1 + 1 < hs) : KpB h hs W' A N c most seen res := by
  have hl := (Array.getElem?_eq_some_iff.1 k.q).1
  refine k.keep hl (fun k h1 h2 h3 => ht.block k h1 h3 (fun e => ?_)) (ht.block hs (Array.getElem?_eq_some_iff.1 k.s).1 (by omega) hn)
  have := (hq.row.lt e).1
  omega
/-- Between two rounds. -/
def KpI (w : World) (hs : Nat) (A : Option Addr) (N c : Nat) (most : Int) (pre : List Elt) (W : World) : Prop :=
  (KpB w.heap.size hs W A N c most pre.length false ∧ (∃ V Aq cq, Que W (w.heap.size + 1 + 1 + 1 + 1 + 1) (w.heap.size + 1 + 1 + 1) N V 0 Aq N cq ∧ blk Aq ≠ some hs) ∧ ∀ x ∈ pre, (x.1 : Int) ≠ most) ∧ Below w.heap.size w W
/-- A round has left. -/
def KpX (w : World) (hs : Nat) (A : Option Addr) (N c : Nat) (most : Int) (xs : List Int) (cd : Code) (pre : List Elt) (W : World) : Prop :=
  ¬ pre <+: en xs ∨ (cd = .exit 0 ∧ (∃ p x, pre = p ++ [x] ∧ (x.1 : Int) = most ∧ KpB w.heap.size hs W A N c most p.length false) ∧ Below w.heap.size w W)
theorem KpI_own (w : World) (hs : Nat) (A : Option Addr) (N c : Nat) (most : Int) (Bn : Nat) (h1 : w.heap.size ≤ Bn) : OwnFrom Bn (KpI w hs A N c most) := fun s W W' row h hg hr =>
  ⟨⟨h.1.1.own hg hr, (by obtain ⟨V, Aq, cq, hq, hn⟩ := h.1.2.1; exact ⟨V, Aq, cq, hq.own hg hr, hn⟩), h.1.2.2⟩, ownFrom_below (β := List Elt) (Nat.le_refl _) h1 s W W' row h.2 hg hr⟩
theorem KpX_own (w : World) (hs : Nat) (A : Option Addr) (N c : Nat) (most : Int) (xs : List Int) (Bn : Nat) (h1 : w.heap.size ≤ Bn) (cd : Code) : OwnFrom Bn (KpX w hs A N c most xs cd) := fun s W W' row h hg hr =>
  h.imp id fun k => ⟨k.1, (by obtain ⟨p, x, h1, h2, h3⟩ := k.2.1; exact ⟨p, x, h1, h2, h3.own hg hr⟩), ownFrom_below (β := List Elt) (Nat.le_refl _) h1 s W W' row k.2.2 hg hr⟩

/-- Behind the first range. -/
def KpJ (w : World) (hs : Nat) (A : Option Addr) (N c : Nat) (most seen : Int) (nb D : Nat) (W : World) : Prop :=
  (KpB w.heap.size hs W A N c most seen false ∧ W.heap[nb]? = some (.cells #[.int .i64 0] 3 (0, 0)) ∧ W.heap[D]? = some (.deferred (some []))) ∧ Below w.heap.size w W
theorem KpJ_own (w : World) (hs : Nat) (A : Option Addr) (N c : Nat) (most seen : Int) (nb D Bn : Nat) (h1 : w.heap.size ≤ Bn) (h2 : nb < Bn) (h3 : D < Bn) : OwnFrom Bn (fun (_ : List Elt) W => KpJ w hs A N c most seen nb D W) := fun s W W' row h hg hr =>
  ⟨⟨h.1.1.own hg hr, heap_own (β := List Elt) nb Bn (fun _ => _) h2 s W W' row h.1.2.1 hg hr, heap_own (β := List Elt) D Bn (fun _ => _) h3 s W W' row h.1.2.2 hg hr⟩, ownFrom_below (β := List Elt) (Nat.le_refl _) h1 s W W' row h.2 hg hr⟩

set_option maxRecDepth 100000 in
set_option maxHeartbeats 8000000 in
theorem fifoKeeps_in (A : Option Addr) (n c : Nat) (l : List Int) (most : Int) (w : World) (hh : Nums w w.heap.size A n c l) (hm : 0 ≤ most ∧ most ≤ 255) :
    CallsIn Fence.wide 9 Try.prog 5 #[.slice A n c, .int .u8 most] w fun e w' => e = .returned (.bool true) ∧ Below w.heap.size w w' := by
  have hcap := hh.cap
  have hmax := hh.max
  simp only [maxLen] at hmax
  obtain ⟨hm0, hm1⟩ := hm
  obtain ⟨N, hN⟩ : ∃ N : Nat, (N = n ∧ n ≤ 30) ∨ (N = 30 ∧ 30 < n) := by
    rcases Nat.lt_or_ge 30 n with h | h
    · exact ⟨30, .inr ⟨rfl, h⟩⟩
    · exact ⟨n, .inl ⟨rfl, h⟩⟩
  have hNn : N ≤ n ∧ N ≤ 30 := by omega
  have hX := hh.take hNn.1
  generalize l.take N = xs at hX
  have HX := Lib.hid hX
  clear hX hh hNn
  rcases hN with ⟨rfl, h30⟩ | ⟨rfl, h30⟩
  · refine callsIn_of_wp_marks Try.func5 rfl trivial ?_ rfl
    simp only [Try.ntmps5, List.size_toArray, List.length_cons, List.length_nil, Nat.reduceAdd, Nat.reduceSub, Array.replicate_succ, Array.replicate_zero, List.push_toArray, List.append_toArray, List.nil_append, List.cons_append]
    have a0 := Boxed.new w 25 (.slice A N c)
    have a1 := Boxed.new (w.alloc (.cells #[.slice A N c] 25)) 5 (.int .u8 most)
    have a2 := Boxed.new ((w.alloc (.cells #[.slice A N c] 25)).alloc (.cells #[.int .u8 most] 5)) 4 (.bool false)
    simp only [World.size_alloc] at a1 a2
    have b0 := (a0.alloc (.cells #[.int .u8 most] 5)).alloc (.cells #[.bool false] 4)
    have b1 := a1.alloc (.cells #[.bool false] 4)
    have hb1 : Below w.heap.size w (((w.alloc (.cells #[.slice A N c] 25)).alloc (.cells #[.int .u8 most] 5)).alloc (.cells #[.bool false] 4)) := (((Below.refl _ _).alloc (Nat.le_refl _) _).alloc (by simp) _).alloc (by simp; omega) _
    have hsz : (((w.alloc (.cells #[.slice A N c] 25)).alloc (.cells #[.int .u8 most] 5)).alloc (.cells #[.bool false] 4)).heap.size = w.heap.size + 1 + 1 + 1 := by simp
    have H0 := Lib.hid b0
    have H1 := Lib.hid b1
    have H2 := Lib.hid a2
    have HB := Lib.hid hb1
    have HSZ := Lib.hid hsz
    clear a0 a1 a2 b0 b1 hb1 hsz
    gi_wp2_with fail
    generalize ((w.alloc (.cells #[.slice A N c] 25)).alloc (.cells #[.int .u8 most] 5)).alloc (.cells #[.bool false] 4) = w0 at H0 H1 H2 HB HSZ ⊢
    refine ⟨trivial, ?_⟩
    refine (callsIn_wide.2 (new_any _ _ (by omega))).mono ?_
    rintro e w1 ⟨rfl, hq1, hw1⟩
    rw [clampL_id (by omega), HSZ.out] at hq1
    rw [HSZ.out]
    have hb1 : Below w0.heap.size w0 w1 := by rw [hw1]; exact (Below.refl _ _).alloc (Nat.le_refl _) _
    have hs1 : w1.heap.size = w.heap.size + 1 + 1 + 1 + 1 := by rw [hw1]; simp [HSZ.out]
    have hq2 : Que (w1.alloc (.cells #[.pointer (some ⟨w.heap.size + 1 + 1 + 1, 0, none⟩)] 23)) (w.heap.size + 1 + 1 + 1 + 1 + 1) (w.heap.size + 1 + 1 + 1) N [] 0 none 0 0 := (hq1.below ((Below.refl _ _).alloc (Nat.le_refl _) _)).empty
    have hb2 : Below w0.heap.size w0 (w1.alloc (.cells #[.pointer (some ⟨w.heap.size + 1 + 1 + 1, 0, none⟩)] 23)) := hb1.alloc hb1.size _
    have hs2 : (w1.alloc (.cells #[.pointer (some ⟨w.heap.size + 1 + 1 + 1, 0, none⟩)] 23)).heap.size = w.heap.size + 1 + 1 + 1 + 1 + 1 := by simp [hs1]
    have hp2 : (w1.alloc (.cells #[.pointer (some ⟨w.heap.size + 1 + 1 + 1, 0, none⟩)] 23)).heap[w.heap.size + 1 + 1 + 1 + 1]? = some (.cells #[.pointer (some ⟨w.heap.size + 1 + 1 + 1, 0, none⟩)] 23 (0, 0)) := by
      have := heap_alloc_new w1 (.cells #[.pointer (some ⟨w.heap.size + 1 + 1 + 1, 0, none⟩)] 23)
      rw [hs1] at this; exact this
    have c0 : w1.cell? ⟨w.heap.size, 0, none⟩ = some (.slice A N c) := (hb1.cell (p := ⟨w.heap.size, 0, none⟩) (by rw [HSZ.out]; show w.heap.size < _; omega)).trans H0.out.cell
    have hq5 : (w1.alloc (.cells #[.pointer (some ⟨w.heap.size + 1 + 1 + 1, 0, none⟩)] 23)).cell? ⟨w.heap.size + 1 + 1 + 1 + 1, 0, none⟩ = some (.pointer (some ⟨w.heap.size + 1 + 1 + 1, 0, none⟩)) := by rw [cell_of_row _ _ _ _ _ _ hp2]; rfl
    have HQ2 := Lib.hid hq2
    have HB2 := Lib.hid hb2
    have HS2 := Lib.hid hs2
    have HP2 := Lib.hid hp2
    clear hw1 hq1 hb1 hq2 hb2 hs2 hp2
    gi_wp2_with fail
    generalize w1.alloc (.cells #[.pointer (some ⟨w.heap.size + 1 + 1 + 1, 0, none⟩)] 23) = w2 at HQ2 HB2 HS2 HP2 hq5 ⊢
    have hb02 : Below w.heap.size w w2 := HB.out.trans (HB2.out.mono HB.out.size)
    have hX2 := HX.out.below hb02
    have hxl := hX2.len
    have htake : List.take N (ints xs) = ints xs := List.take_of_length_le (by simp; omega)
    have hput := put_any w2 (w.heap.size + 1 + 1 + 1) (w.heap.size + 1 + 1 + 1 + 1 + 1) 0 0 N c N 0 [] (ints xs) none A HQ2.out (by rw [HS2.out]; omega) (fun k hk => by rw [← List.map_take]; exact Src.of_nums hX2 hk) (by omega) (by simp only [maxLen]; omega) (by omega)
    have HPUT := Lib.hid hput
    have HTK := Lib.hid htake
    have HB02 := Lib.hid hb02
    clear hput htake hX2 hxl hb02 c0 hq5 hs1
    refine ⟨trivial, ?_⟩
    refine (callsIn_wide.2 HPUT.out).mono ?_
    rintro e w3 ⟨k, Aq, cq, rfl, hk, hq3, ht3, hn3⟩
    obtain rfl : N = k := by omega
    rw [HTK.out, List.nil_append, Nat.zero_add, Int.zero_add, Int.sub_self] at hq3
    have hk3 : ∀ k, k < w2.heap.size → k ≠ w.heap.size + 1 + 1 + 1 → w3.heap[k]? = w2.heap[k]? := fun k h1 h2 => ht3.block k h1 h2 (by simp [blk])
    have hs3 : w.heap.size + 1 + 1 + 1 + 1 + 1 ≤ w3.heap.size := by have := ht3.size; rw [HS2.out] at this; exact this
    have hb3 : Below w.heap.size w w3 := HB02.out.trans (ht3.below HB02.out.size (by omega) (fun b e => by simp [blk] at e))
    have hb5 : Below w3.heap.size w3 ((w3.alloc (.cells #[.int .i64 0] 3)).alloc (.cells #[.pointer (some ⟨w.heap.size + 1 + 1 + 1, 0, none⟩)] 23)) := ((Below.refl _ _).alloc (Nat.le_refl _) _).alloc (by simp) _
    have hkp : KpB w.heap.size w3.heap.size ((w3.alloc (.cells #[.int .i64 0] 3)).alloc (.cells #[.pointer (some ⟨w.heap.size + 1 + 1 + 1, 0, none⟩)] 23)) A N c most 0 false := by
      have hh := HB2.out
      have hz := HSZ.out
      have hz2 := HS2.out
      exact ⟨(hb5.block _ (by omega)).trans ((hk3 _ (by omega) (by omega)).trans ((hh.block _ (by omega)).trans H0.out)), (hb5.block _ (by omega)).trans ((hk3 _ (by omega) (by omega)).trans ((hh.block _ (by omega)).trans H1.out)),
        (hb5.block _ (by omega)).trans ((hk3 _ (by omega) (by omega)).trans ((hh.block _ (by omega)).trans H2.out)), (hb5.block _ (by omega)).trans ((hk3 _ (by omega) (by omega)).trans HP2.out), heap_alloc2_old w3 _ _⟩
    have c53 : (w3.alloc (.cells #[.int .i64 0] 3)).cell? ⟨w.heap.size + 1 + 1 + 1 + 1, 0, none⟩ = some (.pointer (some ⟨w.heap.size + 1 + 1 + 1, 0, none⟩)) := by
      have hz2 := HS2.out
      rw [cell_of_row _ _ _ _ _ _ ((Below.heap_alloc w3 _ _ (by omega)).trans ((hk3 (w.heap.size + 1 + 1 + 1 + 1) (by omega) (by omega)).trans HP2.out))]; rfl
    have c53' : w3.cell? ⟨w.heap.size + 1 + 1 + 1 + 1, 0, none⟩ = some (.pointer (some ⟨w.heap.size + 1 + 1 + 1, 0, none⟩)) := by
      have hz2 := HS2.out
      rw [cell_of_row _ _ _ _ _ _ ((hk3 (w.heap.size + 1 + 1 + 1 + 1) (by omega) (by omega)).trans HP2.out)]; rfl
    have HQ3 := Lib.hid (hq3.below hb5)
    have HA3 : Hid (blk Aq ≠ some w3.heap.size) := fun e => by have := (hq3.row.lt e).2; omega
    have HKP := Lib.hid hkp
    have HB5 := Lib.hid (hb3.trans (hb5.mono hb3.size))
    have hp5 := heap_alloc2_new w3 (.cells #[.int .i64 0] 3) (.cells #[.pointer (some ⟨w.heap.size + 1 + 1 + 1, 0, none⟩)] 23)
    have HP5 := Lib.hid hp5
    have HK3 := Lib.hid hk3
    have heq := eql_told
    clear hk hq3 ht3 hn3 hk3 hb3 hb5 hkp hp5 HPUT HQ2
    gi_wp2_with fail
    refine ⟨trivial, ?_⟩
    refine (callsIn_wide.2 (all_any _ _)).mono ?_
    rintro e w4 ⟨rfl, rfl⟩
    have hsz5 : ((w3.alloc (.cells #[.int .i64 0] 3)).alloc (.cells #[.pointer (some ⟨w.heap.size + 1 + 1 + 1, 0, none⟩)] 23)).heap.size = w3.heap.size + 2 := by simp
    have HS5 := Lib.hid hsz5
    clear hsz5
    gi_wp2_with fail
    generalize (w3.alloc (.cells #[.int .i64 0] 3)).alloc (.cells #[.pointer (some ⟨w.heap.size + 1 + 1 + 1, 0, none⟩)] 23) = W5 at HQ3 HKP HB5 HP5 HS5 ⊢
    have hst := all_stops 8 (by omega) (w3.heap.size + 1) (w.heap.size + 1 + 1 + 1) (w.heap.size + 1 + 1 + 1 + 1 + 1) N cq N 0 xs Aq (fun k => k = w3.heap.size ∨ k = w.heap.size + 1 + 1 + 1) (tbq (w.heap.size + 1 + 1 + 1)) W5 HP5.out HQ3.out (fun k hk => by rw [HS5.out]; omega)
      (fun W W' hW hW' => tbq_same (hW'.block _ (Nat.lt_of_lt_of_le (by rw [HS5.out]; omega) hW.size))) (fun W b hW hb => by
        have hq := HQ3.out.below hW
        rw [hq.tbq] at hb
        exact (hq.row.lt hb).2)
    have hI : KpI w w3.heap.size A N c most [] W5 := ⟨⟨HKP.out, ⟨_, Aq, cq, HQ3.out, HA3.out⟩, by simp⟩, HB5.out⟩
    refine wpIn_rangeFunc_ownG rfl (by omega) (gf := 31) (lb := #[.pointer (some ⟨w3.heap.size + 1, 0, none⟩)]) rfl trivial (enters_of Try.func31 (by kernel_rfl) rfl)
      hst kq_t (kq_b fun W l o' hl => tbq_same (Ne.symm (by have := HS5.out; omega) |> fun h => World.putObj_heap_other h)) (Below.refl _ _) (fun _ => rfl)
      (KpI w w3.heap.size A N c most) (KpX w w3.heap.size A N c most xs) (KpI_own w w3.heap.size A N c most _ (by rw [HS5.out]; omega)) (fun cd => KpX_own w w3.heap.size A N c most xs _ (by rw [HS5.out]; omega) cd) hI
      (fun x => { tmps := #[.slice A N c, .int .u8 most, .pointer (some ⟨w.heap.size, 0, none⟩), .pointer (some ⟨w.heap.size + 1, 0, none⟩), .pointer (some ⟨w.heap.size + 1 + 1, 0, none⟩), .pointer (some ⟨w.heap.size + 1 + 1 + 1 + 1, 0, none⟩), .pointer (some ⟨w3.heap.size, 0, none⟩), .func (Fn.func 31) #[] #[.pointer (some ⟨w3.heap.size + 1, 0, none⟩)], .int .i64 (x.1 : Nat), .int .i64 x.2, undef, undef, undef, undef, undef, .slice A N c, .slice A N c, .int .i64 (N : Nat), .int .i64 (N : Nat), .slice A N c, .slice A N c, .int .i64 (N : Nat), .pointer (some ⟨w.heap.size + 1 + 1 + 1, 0, none⟩), .pointer (some ⟨w.heap.size + 1 + 1 + 1, 0, none⟩), .slice A N c, .int .i64 (N : Nat), .pointer (some ⟨w.heap.size + 1 + 1 + 1, 0, none⟩), .func (Fn.func 31) #[] #[.pointer (some ⟨w3.heap.size + 1, 0, none⟩)], .func (Fn.func 31) #[] #[.pointer (some ⟨w3.heap.size + 1, 0, none⟩)], .bool false, .func (Fn.func 31) #[] #[.pointer (some ⟨w3.heap.size + 1, 0, none⟩)], .int .i64 (x.1 : Nat), .int .i64 x.2, undef, undef, undef, undef, undef, undef, undef, undef, undef, undef, undef, undef, undef, undef, undef, undef, undef, undef, undef, undef, undef, undef, undef, undef, undef, undef, undef, undef, undef, undef, undef, undef, undef, undef, undef, undef, undef, undef, undef, undef, undef, undef, undef, undef, undef, undef, undef, undef, undef, undef, undef, undef, undef, undef, undef, undef, undef, undef, undef, undef, undef, undef, undef, undef, undef, undef, undef, undef, undef, undef, undef, undef, undef, undef, undef, undef, undef, undef, undef, undef, undef], defers := [] }) ?assign ?body ?done ?stop
    case assign =>
      intro lp x W K hK
      gi_wp2
      exact hK
    case body =>
      rintro lp pre ⟨i, v⟩ W ⟨⟨hkp, ⟨V, Ar, cr, hq, hn⟩, hne⟩, hbw⟩ hpN
      have hNX := HX.out.below hbw
      have hxl := hNX.len
      have c0 : W.cell? ⟨w.heap.size, 0, none⟩ = some (.slice A N c) := by rw [cell_of_row _ _ _ _ _ _ hkp.l]; rfl
      have c1 : W.cell? ⟨w.heap.size + 1, 0, none⟩ = some (.int .u8 most) := by rw [cell_of_row _ _ _ _ _ _ hkp.m]; rfl
      have c2 : W.cell? ⟨w.heap.size + 1 + 1, 0, none⟩ = some (.bool false) := by rw [cell_of_row _ _ _ _ _ _ hkp.r]; rfl
      have f2 : W.frozen? ⟨w.heap.size + 1 + 1, 0, none⟩ = false := frozen_of_row _ _ _ _ _ hkp.r
      have c4 : W.cell? ⟨w.heap.size + 1 + 1 + 1 + 1, 0, none⟩ = some (.pointer (some ⟨w.heap.size + 1 + 1 + 1, 0, none⟩)) := by rw [cell_of_row _ _ _ _ _ _ hkp.q]; rfl
      have hmem : ∀ x ∈ pre ++ [((i, v) : Elt)], pre ++ [((i, v) : Elt)] <+: en xs → x.1 < xs.length ∧ x.2 = xs.getD x.1 0 := fun x hx hp => en_mem (hp.subset hx)
      have hbad : (¬ i < xs.length ∨ ¬ v = xs.getD i 0) → ¬ pre ++ [((i, v) : Elt)] <+: en xs := fun h hp => by
        have := hmem (i, v) (by simp) hp
        rcases h with h | h
        · exact h this.1
        · exact h this.2
      have HBAD := Lib.hid hbad
      have HKPB := Lib.hid hkp
      have HQW := Lib.hid hq
      have HN := Lib.hid hn
      have HNE := Lib.hid hne
      have HXL := Lib.hid hxl
      have k2 := fun v => (KeepsOthers.setCell W ⟨w.heap.size + 1 + 1, 0, none⟩ v).from W5.heap.size
      have K2 := Lib.hid k2
      clear hkp hq hn hne hmem hbad hxl k2
      by_cases h1 : (i : Int) = most
      · have t1 : ((i : Int) == most) = true := by simp [h1]
        have H1' := Lib.hid h1
        clear h1 hNX
        gi_wp2
        exact ⟨KeepsFrom.refl _ _, .inr ⟨rfl, ⟨pre, (i, v), rfl, H1'.out, HKPB.out⟩, hbw⟩⟩
      · have t1 : ((i : Int) == most) = false := by simp [h1]
        have H1' := Lib.hid h1
        clear h1
        by_cases h2 : i < N
        · obtain ⟨b, off, rfl, hbb, hcl⟩ := hNX.cells (by omega)
          have hcv := hcl i h2
          generalize hu : xs.getD i 0 = u at hcv
          have HU := Lib.hid hu
          have hi1 : (i : Int) < (N : Nat) := by omega
          have hi0 : (0 : Int) ≤ (i : Int) := by omega
          clear hcl hu hNX
          by_cases h3 : v = u
          · have t3 : (v != u) = false := by simp [h3]
            have H3 := Lib.hid h3
            clear h3
            have hVl := HQW.out.row.len
            obtain ⟨v0, V', hV⟩ : ∃ v0 V', V = v0 :: V' := by
              cases V with
              | nil => exfalso; simp only [List.length_nil] at hVl; omega
              | cons a b => exact ⟨a, b, rfl⟩
            subst hV
            have e1 : N - 1 + 1 = N := by omega
            have hq1 : Que W (w.heap.size + 1 + 1 + 1 + 1 + 1) (w.heap.size + 1 + 1 + 1) N (v0 :: V') 0 Ar (N - 1 + 1) cr := by rw [e1]; exact HQW.out
            have htk := take_some W (w.heap.size + 1 + 1 + 1) (w.heap.size + 1 + 1 + 1 + 1 + 1) (N - 1) cr N 0 v0 V' Ar hq1
            clear e1 hq1
            have HTAKE := Lib.hid htk
            clear hVl htk
            gi_wp2_with fail
            refine ⟨trivial, ?_⟩
            refine (CallsIn.inRound lp (callsIn_wide.2 HTAKE.out)).mono ?_
            rintro e W6 ⟨rfl, A6, c6, hq6, ht6, hA6⟩
            have hkp6 := HKPB.out.tch HQW.out ht6 HN.out (by omega)
            have hbw6 : Below w.heap.size w W6 := hbw.trans (ht6.below hbw.size (by omega) (fun b e => by have := (HQW.out.row.lt e).1; omega))
            have hn6 : Nxt W Ar A6 := .inl hA6
            have hkq6 : Kq (fun k => k = w3.heap.size ∨ k = w.heap.size + 1 + 1 + 1) (tbq (w.heap.size + 1 + 1 + 1)) W W6 := kq_tch HQW.out hq6 ht6 hn6 (.inr rfl)
            have hkf6 : KeepsFrom W5.heap.size W W6 := keeps_tch HQW.out ht6
            have hne6 : blk A6 ≠ some w3.heap.size := fun e => HN.out (hA6 ▸ e)
            have c46 : W6.cell? ⟨w.heap.size + 1 + 1 + 1 + 1, 0, none⟩ = some (.pointer (some ⟨w.heap.size + 1 + 1 + 1, 0, none⟩)) := by rw [cell_of_row _ _ _ _ _ _ hkp6.q]; rfl
            have hb7 : Below W6.heap.size W6 (W6.alloc (.cells #[.int .i64 (-1)] 3)) := (Below.refl _ _).alloc (Nat.le_refl _) _
            have hq7 := hq6.below hb7
            have hkp7 := hkp6.below hb7
            have hput7 := put_any _ _ _ _ _ 1 1 _ _ _ _ _ _ hq7 (by have := hkp6.q; have h := (Array.getElem?_eq_some_iff.1 this).1; simp; omega) (fun k hk => Src.lit W6 3 [.int .i64 (-1)] (by simp [Value.oneCell']) k hk) (Nat.le_refl _) (by simp [maxLen]) (by omega)
            have HPUT7 := Lib.hid hput7
            have HQ6 := Lib.hid hq6
            have HKP7 := Lib.hid hkp7
            have HQ7 := Lib.hid hq7
            have HB7 := Lib.hid hb7
            clear hq6 ht6 hA6 hkp6 hb7 hq7 hkp7 hput7
            gi_wp2_with fail
            refine ⟨trivial, ?_⟩
            refine (CallsIn.inRound lp (callsIn_wide.2 HPUT7.out)).mono ?_
            rintro e W8 ⟨k8, A8, c8, rfl, hk8, hq8, ht8, hn8⟩
            obtain rfl : k8 = 1 := by omega
            have hkp8 := HKP7.out.tch HQ7.out ht8 hne6 (by omega)
            have hbw7 : Below w.heap.size w (W6.alloc (.cells #[.int .i64 (-1)] 3)) := hbw6.trans (HB7.out.mono hbw6.size)
            have hbw8 : Below w.heap.size w W8 := hbw7.trans (ht8.below hbw7.size (by omega) (fun b e => by have := (HQ6.out.row.lt e).1; omega))
            have hs6 : w3.heap.size < (W6.alloc (.cells #[.int .i64 (-1)] 3)).heap.size := (Array.getElem?_eq_some_iff.1 HKP7.out.s).1
            have hne8 : blk A8 ≠ some w3.heap.size := Nxt.ne' hn8 hs6 hne6
            have hkq8 := kq_t hkq6 (kq_t (kq_below HQ6.out HB7.out) (kq_tch HQ7.out hq8 ht8 hn8 (.inr rfl)))
            have hkf8 : KeepsFrom W5.heap.size W W8 := (hkf6.trans (keeps_below HB7.out)).trans (keeps_tch HQ7.out ht8)
            have hq8' : ∃ V2, Que W8 (w.heap.size + 1 + 1 + 1 + 1 + 1) (w.heap.size + 1 + 1 + 1) N V2 0 A8 N c8 := by
              have e : N - 1 + 1 = N := by omega
              rw [e] at hq8
              exact ⟨_, hq8⟩
            have c8s : W8.cell? ⟨w3.heap.size, 0, none⟩ = some (.int .i64 pre.length) := by rw [cell_of_row _ _ _ _ _ _ hkp8.s]; rfl
            have f8s : W8.frozen? ⟨w3.heap.size, 0, none⟩ = false := frozen_of_row _ _ _ _ _ hkp8.s
            have HQ8 := Lib.hid hq8'
            have HKP8 := Lib.hid hkp8
            have HKQ8 := Lib.hid hkq8
            have HKF8 := Lib.hid hkf8
            have HNE8 := Lib.hid hne8
            clear hk8 hq8 ht8 hn8 hkp8 hbw7 hkq8 hkf8 hq8' hkq6 hkf6 hne6 hne8 hn6
            gi_wp2
            obtain ⟨V2, hq9⟩ := HQ8.out
            have hs8 := (Array.getElem?_eq_some_iff.1 HKP8.out.s).1
            have hq9' : Que (W8.setCell ⟨w3.heap.size, 0, none⟩ (.int .i64 ((pre.length : Int) + 1))) (w.heap.size + 1 + 1 + 1 + 1 + 1) (w.heap.size + 1 + 1 + 1) N V2 0 A8 N c8 :=
              hq9.keep (heap_other _ _ _ _ (by simp; omega)) (fun b hb => heap_other _ _ _ _ (fun e => HNE8.out (by rw [hb, e])))
            have hkp9 : KpB w.heap.size w3.heap.size (W8.setCell ⟨w3.heap.size, 0, none⟩ (.int .i64 ((pre.length : Int) + 1))) (some ⟨b, off, none⟩) N c most ((pre ++ [((i, v) : Elt)]).length : Int) false := by
              have k := HKP8.out
              refine ⟨(heap_other _ _ _ _ (by simp; omega)).trans k.l, (heap_other _ _ _ _ (by simp; omega)).trans k.m, (heap_other _ _ _ _ (by simp; omega)).trans k.r, (heap_other _ _ _ _ (by simp; omega)).trans k.q, ?_⟩
              have := one_set k.s (.int .i64 ((pre.length : Int) + 1))
              rw [show (((pre ++ [((i, v) : Elt)]).length : Nat) : Int) = (pre.length : Int) + 1 by simp]
              exact this
            refine ⟨HKF8.out.trans ((KeepsOthers.setCell _ _ _).from _), kq_t HKQ8.out (kq_set _ _ _ (.inl rfl) (tbq_same (heap_other _ _ _ _ (by simp; omega)))), ⟨⟨hkp9, ⟨V2, A8, c8, hq9', HNE8.out⟩, fun x hx => ?_⟩, hbw8.setCell (p := ⟨w3.heap.size, 0, none⟩) (by simp; omega) _⟩⟩
            rcases List.mem_append.1 hx with hx | hx
            · exact HNE.out x hx
            · simp at hx; subst hx; exact H1'.out
          · have t3 : (v != u) = true := by simp [h3]
            have H3 := Lib.hid h3
            clear h3
            gi_wp2
            exact ⟨K2.out _, .inl (HBAD.out (.inr (by rw [HU.out]; exact H3.out)))⟩
        · have h2' : (N : Nat) ≤ (i : Int) := by omega
          have H2' := Lib.hid h2
          clear h2 hNX
          gi_wp2
          exact ⟨K2.out _, .inl (HBAD.out (.inl (by rw [HXL.out]; exact H2'.out)))⟩
    case stop =>
      rintro D cc pre W hD hSp hX hK
      rcases hX with hX | ⟨rfl, ⟨p, x, rfl, hx, hkp⟩, hbw⟩
      · exact absurd hSp hX
      have hxl := HX.out.len
      have hfx := (en_fit xs ((List.prefix_append p [x]).trans hSp) x).1 hSp
      have hseen : (p.length : Int) = min (N : Int) most := by
        rw [← hx, hfx.2.1]; rw [hxl] at hfx; omega
      generalize (p.length : Int) = seen at hkp hseen
      clear hx hfx hSp hxl
      have c0 : W.cell? ⟨w.heap.size, 0, none⟩ = some (.slice A N c) := by rw [cell_of_row _ _ _ _ _ _ hkp.l]; rfl
      have HKPW := Lib.hid hkp
      have HSEEN := Lib.hid hseen
      have HKD := Lib.hid hK
      have hneq := neq_told
      clear hkp hseen hK
      gi_wp2_with (first
        | (refine ⟨trivial, ?_⟩; gi_at_call 16; refine (callsIn_wide.2 (clear_nil _)).mono ?_; rintro e w' ⟨rfl, rfl⟩)
        | (refine ⟨trivial, ?_⟩; gi_at_call 11; refine (callsIn_wide.2 (take_nil _)).mono ?_; rintro e w' ⟨rfl, rfl⟩))
      refine ⟨trivial, ?_⟩
      refine (drop_nil _).mono ?_
      rintro e W6 ⟨rfl, hb6⟩
      have hbw6 := hbw.trans (hb6.mono hbw.size)
      have hkp6 := HKPW.out.below hb6
      have hD6 := (hb6.block D (Array.getElem?_eq_some_iff.1 HKD.out).1).trans HKD.out
      gi_wp2_with fail
      refine ⟨trivial, ?_⟩
      refine (callsIn_wide.2 (all_any _ _)).mono ?_
      rintro e w4 ⟨rfl, rfl⟩
      have hb7 : Below W6.heap.size W6 ((W6.alloc (.cells #[.int .i64 0] 3)).alloc (.cells #[.pointer none] 23)) := ((Below.refl _ _).alloc (Nat.le_refl _) _).alloc (by simp) _
      have hD6' := (Array.getElem?_eq_some_iff.1 hD6).1
      have hI7 : KpJ w w3.heap.size A N c most seen W6.heap.size D ((W6.alloc (.cells #[.int .i64 0] 3)).alloc (.cells #[.pointer none] 23)) :=
        ⟨⟨hkp6.below hb7, heap_alloc2_old W6 _ _, (hb7.block D hD6').trans hD6⟩, hbw6.trans (hb7.mono hbw6.size)⟩
      have hbx7 := heap_alloc2_new W6 (.cells #[.int .i64 0] 3) (.cells #[.pointer none] 23)
      have hsz7 : ((W6.alloc (.cells #[.int .i64 0] 3)).alloc (.cells #[.pointer none] 23)).heap.size = W6.heap.size + 2 := by simp
      have HI7 := Lib.hid hI7
      have HBX7 := Lib.hid hbx7
      have HS7 := Lib.hid hsz7
      have hw6 := hbw6.size
      clear hb7 hI7 hbx7 hsz7 hkp6 hD6 hb6
      gi_wp2_with fail
      generalize (W6.alloc (.cells #[.int .i64 0] 3)).alloc (.cells #[.pointer none] 23) = W7 at HI7 HBX7 HS7 ⊢
      refine range_none (by omega) (gf := 31) (lb := #[.pointer (some ⟨W6.heap.size + 1, 0, none⟩)]) rfl (enters_of Try.func31 (by kernel_rfl) rfl)
        (all_none 8 (W6.heap.size + 1) W7 HBX7.out) rfl (KpJ w w3.heap.size A N c most seen W6.heap.size D) (KpJ_own w w3.heap.size A N c most seen W6.heap.size D _ (by rw [HS7.out]; omega) (by rw [HS7.out]; omega) (by rw [HS7.out]; omega)) HI7.out ?_
      rintro D2 W8 hD2 ⟨⟨hkp8, hnb8, hD8⟩, hbw8⟩ hK8
      have HKP8 := Lib.hid hkp8
      have HNB8 := Lib.hid hnb8
      have HD8 := Lib.hid hD8
      have HK8 := Lib.hid hK8
      clear hkp8 hnb8 hD8 hK8
      gi_wp2_with fail
      refine ⟨trivial, ?_⟩
      refine (callsIn_wide.2 (live7_any _)).mono ?_
      rintro e W9 ⟨rfl, hb9⟩
      have hkp9 := HKP8.out.below hb9
      have hnb9 := (hb9.block _ (Array.getElem?_eq_some_iff.1 HNB8.out).1).trans HNB8.out
      have hD9 := (hb9.block _ (Array.getElem?_eq_some_iff.1 HD8.out).1).trans HD8.out
      have hK9 := (hb9.block _ (Array.getElem?_eq_some_iff.1 HK8.out).1).trans HK8.out
      have hbw9 := hbw8.trans (hb9.mono hbw8.size)
      have hb10 : Below W9.heap.size W9 (W9.alloc (.cells #[.int .i64 1, .int .i64 2] 3)) := (Below.refl _ _).alloc (Nat.le_refl _) _
      have cs9 : W9.cell? ⟨w3.heap.size, 0, none⟩ = some (.int .i64 seen) := by rw [cell_of_row _ _ _ _ _ _ hkp9.s]; rfl
      have cl9 : W9.cell? ⟨w.heap.size, 0, none⟩ = some (.slice A N c) := by rw [cell_of_row _ _ _ _ _ _ hkp9.l]; rfl
      have cm9 : W9.cell? ⟨w.heap.size + 1, 0, none⟩ = some (.int .u8 most) := by rw [cell_of_row _ _ _ _ _ _ hkp9.m]; rfl
      have kp10 := hkp9.below hb10
      have nb10 := (hb10.block _ (Array.getElem?_eq_some_iff.1 hnb9).1).trans hnb9
      have cn10 : (W9.alloc (.cells #[.int .i64 1, .int .i64 2] 3)).cell? ⟨W6.heap.size, 0, none⟩ = some (.int .i64 0) := by rw [cell_of_row _ _ _ _ _ _ nb10]; rfl
      have cr10 : (W9.alloc (.cells #[.int .i64 1, .int .i64 2] 3)).cell? ⟨w.heap.size + 1 + 1, 0, none⟩ = some (.bool false) := by rw [cell_of_row _ _ _ _ _ _ kp10.r]; rfl
      have fr10 : (W9.alloc (.cells #[.int .i64 1, .int .i64 2] 3)).frozen? ⟨w.heap.size + 1 + 1, 0, none⟩ = false := frozen_of_row _ _ _ _ _ kp10.r
      have cn9 : W9.cell? ⟨W6.heap.size, 0, none⟩ = some (.int .i64 0) := by rw [cell_of_row _ _ _ _ _ _ hnb9]; rfl
      have cr9 : W9.cell? ⟨w.heap.size + 1 + 1, 0, none⟩ = some (.bool false) := by rw [cell_of_row _ _ _ _ _ _ hkp9.r]; rfl
      have fr9 : W9.frozen? ⟨w.heap.size + 1 + 1, 0, none⟩ = false := frozen_of_row _ _ _ _ _ hkp9.r
      have HR10 := Lib.hid kp10.r
      have HDA := Lib.hid ((hb10.block _ (Array.getElem?_eq_some_iff.1 hD9).1).trans hD9)
      have HKA := Lib.hid ((hb10.block _ (Array.getElem?_eq_some_iff.1 hK9).1).trans hK9)
      have HBA := Lib.hid (hbw9.trans (hb10.mono hbw9.size))
      have hDa : w.heap.size + 1 + 1 < D := by have := (Array.getElem?_eq_some_iff.1 HP5.out).1; have := HS5.out; omega
      have hDb : D < D2 := by have := HS7.out; omega
      clear hb9 hkp9 hnb9 hD9 hK9 hb10 kp10 nb10
      have hw9 : (W9.alloc (.cells #[.int .i64 1, .int .i64 2] 3)).heap.size = W9.heap.size + 1 := by simp
      have hKs : ((W9.alloc (.cells #[.int .i64 1, .int .i64 2] 3)).setCell ⟨w.heap.size + 1 + 1, 0, none⟩ (.bool true)).heap[D2]? = some (.deferred (some [])) := (heap_other _ _ _ _ (by simp; omega)).trans HKA.out
      have hDs : (((W9.alloc (.cells #[.int .i64 1, .int .i64 2] 3)).setCell ⟨w.heap.size + 1 + 1, 0, none⟩ (.bool true)).putObj D2 (.deferred none)).heap[D]? = some (.deferred (some [])) := (World.putObj_heap_other (by omega)).trans ((heap_other _ _ _ _ (by simp; omega)).trans HDA.out)
      have hcE : ((((W9.alloc (.cells #[.int .i64 1, .int .i64 2] 3)).setCell ⟨w.heap.size + 1 + 1, 0, none⟩ (.bool true)).putObj D2 (.deferred none)).putObj D (.deferred none)).cell? ⟨w.heap.size + 1 + 1, 0, none⟩ = some (.bool true) := by
        rw [cell_of_row _ _ _ _ _ _ ((World.putObj_heap_other (by omega)).trans ((World.putObj_heap_other (by omega)).trans (one_set HR10.out (.bool true))))]; rfl
      have hE : Below w.heap.size w ((((W9.alloc (.cells #[.int .i64 1, .int .i64 2] 3)).setCell ⟨w.heap.size + 1 + 1, 0, none⟩ (.bool true)).putObj D2 (.deferred none)).putObj D (.deferred none)) := by
        have h1 := HBA.out.setCell (p := ⟨w.heap.size + 1 + 1, 0, none⟩) (by simp; omega) (.bool true)
        have h2 := h1.grown (grownBy_putObj' _ D2 (.deferred none)) h1.size (fun k e => by cases e; omega)
        exact h2.grown (grownBy_putObj' _ D (.deferred none)) h2.size (fun k e => by cases e; omega)
      have HKS := Lib.hid hKs
      have HDS := Lib.hid hDs
      have HCE := Lib.hid hcE
      have HE := Lib.hid hE
      have hmn : min (N : Int) most = seen := HSEEN.out.symm
      clear hKs hDs hcE hE hw9
      gi_wp2_with (first
        | (refine ⟨trivial, ?_⟩; gi_at_call 9; refine (callsIn_wide.2 (put_nil _ _)).mono ?_; rintro e w' ⟨rfl, rfl⟩)
        | (refine ⟨trivial, ?_⟩; gi_at_call 20; refine (callsIn_wide.2 (len_nil _)).mono ?_; rintro e w' ⟨rfl, rfl⟩)
        | (refine ⟨trivial, ?_⟩; gi_at_call 24; refine (callsIn_wide.2 (room_nil _)).mono ?_; rintro e w' ⟨rfl, rfl⟩)
        | (refine ⟨trivial, ?_⟩; gi_at_call 21; refine (callsIn_wide.2 (lost_nil _)).mono ?_; rintro e w' ⟨rfl, rfl⟩)
        | (refine ⟨trivial, ?_⟩; gi_at_call 17; refine (callsIn_wide.2 (fork_nil _)).mono ?_; rintro e w' ⟨rfl, rfl⟩))
      all_goals
        refine ⟨by simp, .inl ⟨_, _, rfl, run_takeDeferred HKS.out, ?_⟩⟩
        refine ⟨by simp, .inl ⟨_, _, rfl, run_takeDeferred HDS.out, ?_⟩⟩
        refine ⟨.bool true, ?_, rfl, HE.out⟩
        simp [results, Try.f5, go_sem, HCE.out]
    case done =>
      rintro D ys W hD rfl ⟨⟨hkp, _, hne⟩, hbw⟩ hK
      have hxl := HX.out.len
      have hseen : ((en xs).length : Int) = min (N : Int) most := by
        rw [en_len, hxl]
        rcases Int.lt_or_le most (N : Int) with h | h
        · obtain ⟨k, rfl⟩ : ∃ k : Nat, most = k := ⟨most.toNat, by omega⟩
          exact absurd rfl (hne _ (en_has (l := xs) (i := k) (by omega)))
        · omega
      generalize ((en xs).length : Int) = seen at hkp hseen
      clear hxl hne
      have c0 : W.cell? ⟨w.heap.size, 0, none⟩ = some (.slice A N c) := by rw [cell_of_row _ _ _ _ _ _ hkp.l]; rfl
      have HKPW := Lib.hid hkp
      have HSEEN := Lib.hid hseen
      have HKD := Lib.hid hK
      have hneq := neq_told
      clear hkp hseen hK
      gi_wp2_with (first
        | (refine ⟨trivial, ?_⟩; gi_at_call 16; refine (callsIn_wide.2 (clear_nil _)).mono ?_; rintro e w' ⟨rfl, rfl⟩)
        | (refine ⟨trivial, ?_⟩; gi_at_call 11; refine (callsIn_wide.2 (take_nil _)).mono ?_; rintro e w' ⟨rfl, rfl⟩))
      refine ⟨trivial, ?_⟩
      refine (drop_nil _).mono ?_
      rintro e W6 ⟨rfl, hb6⟩
      have hbw6 := hbw.trans (hb6.mono hbw.size)
      have hkp6 := HKPW.out.below hb6
      have hD6 := (hb6.block D (Array.getElem?_eq_some_iff.1 HKD.out).1).trans HKD.out
      gi_wp2_with fail
      refine ⟨trivial, ?_⟩
      refine (callsIn_wide.2 (all_any _ _)).mono ?_
      rintro e w4 ⟨rfl, rfl⟩
      have hb7 : Below W6.heap.size W6 ((W6.alloc (.cells #[.int .i64 0] 3)).alloc (.cells #[.pointer none] 23)) := ((Below.refl _ _).alloc (Nat.le_refl _) _).alloc (by simp) _
      have hD6' := (Array.getElem?_eq_some_iff.1 hD6).1
      have hI7 : KpJ w w3.heap.size A N c most seen W6.heap.size D ((W6.alloc (.cells #[.int .i64 0] 3)).alloc (.cells #[.pointer none] 23)) :=
        ⟨⟨hkp6.below hb7, heap_alloc2_old W6 _ _, (hb7.block D hD6').trans hD6⟩, hbw6.trans (hb7.mono hbw6.size)⟩
      have hbx7 := heap_alloc2_new W6 (.cells #[.int .i64 0] 3) (.cells #[.pointer none] 23)
      have hsz7 : ((W6.alloc (.cells #[.int .i64 0] 3)).alloc (.cells #[.pointer none] 23)).heap.size = W6.heap.size + 2 := by simp
      have HI7 := Lib.hid hI7
      have HBX7 := Lib.hid hbx7
      have HS7 := Lib.hid hsz7
      have hw6 := hbw6.size
      clear hb7 hI7 hbx7 hsz7 hkp6 hD6 hb6
      gi_wp2_with fail
      generalize (W6.alloc (.cells #[.int .i64 0] 3)).alloc (.cells #[.pointer none] 23) = W7 at HI7 HBX7 HS7 ⊢
      refine range_none (by omega) (gf := 31) (lb := #[.pointer (some ⟨W6.heap.size + 1, 0, none⟩)]) rfl (enters_of Try.func31 (by kernel_rfl) rfl)
        (all_none 8 (W6.heap.size + 1) W7 HBX7.out) rfl (KpJ w w3.heap.size A N c most seen W6.heap.size D) (KpJ_own w w3.heap.size A N c most seen W6.heap.size D _ (by rw [HS7.out]; omega) (by rw [HS7.out]; omega) (by rw [HS7.out]; omega)) HI7.out ?_
      rintro D2 W8 hD2 ⟨⟨hkp8, hnb8, hD8⟩, hbw8⟩ hK8
      have HKP8 := Lib.hid hkp8
      have HNB8 := Lib.hid hnb8
      have HD8 := Lib.hid hD8
      have HK8 := Lib.hid hK8
      clear hkp8 hnb8 hD8 hK8
      gi_wp2_with fail
      refine ⟨trivial, ?_⟩
      refine (callsIn_wide.2 (live7_any _)).mono ?_
      rintro e W9 ⟨rfl, hb9⟩
      have hkp9 := HKP8.out.below hb9
      have hnb9 := (hb9.block _ (Array.getElem?_eq_some_iff.1 HNB8.out).1).trans HNB8.out
      have hD9 := (hb9.block _ (Array.getElem?_eq_some_iff.1 HD8.out).1).trans HD8.out
      have hK9 := (hb9.block _ (Array.getElem?_eq_some_iff.1 HK8.out).1).trans HK8.out
      have hbw9 := hbw8.trans (hb9.mono hbw8.size)
      have hb10 : Below W9.heap.size W9 (W9.alloc (.cells #[.int .i64 1, .int .i64 2] 3)) := (Below.refl _ _).alloc (Nat.le_refl _) _
      have cs9 : W9.cell? ⟨w3.heap.size, 0, none⟩ = some (.int .i64 seen) := by rw [cell_of_row _ _ _ _ _ _ hkp9.s]; rfl
      have cl9 : W9.cell? ⟨w.heap.size, 0, none⟩ = some (.slice A N c) := by rw [cell_of_row _ _ _ _ _ _ hkp9.l]; rfl
      have cm9 : W9.cell? ⟨w.heap.size + 1, 0, none⟩ = some (.int .u8 most) := by rw [cell_of_row _ _ _ _ _ _ hkp9.m]; rfl
      have kp10 := hkp9.below hb10
      have nb10 := (hb10.block _ (Array.getElem?_eq_some_iff.1 hnb9).1).trans hnb9
      have cn10 : (W9.alloc (.cells #[.int .i64 1, .int .i64 2] 3)).cell? ⟨W6.heap.size, 0, none⟩ = some (.int .i64 0) := by rw [cell_of_row _ _ _ _ _ _ nb10]; rfl
      have cr10 : (W9.alloc (.cells #[.int .i64 1, .int .i64 2] 3)).cell? ⟨w.heap.size + 1 + 1, 0, none⟩ = some (.bool false) := by rw [cell_of_row _ _ _ _ _ _ kp10.r]; rfl
      have fr10 : (W9.alloc (.cells #[.int .i64 1, .int .i64 2] 3)).frozen? ⟨w.heap.size + 1 + 1, 0, none⟩ = false := frozen_of_row _ _ _ _ _ kp10.r
      have cn9 : W9.cell? ⟨W6.heap.size, 0, none⟩ = some (.int .i64 0) := by rw [cell_of_row _ _ _ _ _ _ hnb9]; rfl
      have cr9 : W9.cell? ⟨w.heap.size + 1 + 1, 0, none⟩ = some (.bool false) := by rw [cell_of_row _ _ _ _ _ _ hkp9.r]; rfl
      have fr9 : W9.frozen? ⟨w.heap.size + 1 + 1, 0, none⟩ = false := frozen_of_row _ _ _ _ _ hkp9.r
      have HR10 := Lib.hid kp10.r
      have HDA := Lib.hid ((hb10.block _ (Array.getElem?_eq_some_iff.1 hD9).1).trans hD9)
      have HKA := Lib.hid ((hb10.block _ (Array.getElem?_eq_some_iff.1 hK9).1).trans hK9)
      have HBA := Lib.hid (hbw9.trans (hb10.mono hbw9.size))
      have hDa : w.heap.size + 1 + 1 < D := by have := (Array.getElem?_eq_some_iff.1 HP5.out).1; have := HS5.out; omega
      have hDb : D < D2 := by have := HS7.out; omega
      clear hb9 hkp9 hnb9 hD9 hK9 hb10 kp10 nb10
      have hw9 : (W9.alloc (.cells #[.int .i64 1, .int .i64 2] 3)).heap.size = W9.heap.size + 1 := by simp
      have hKs : ((W9.alloc (.cells #[.int .i64 1, .int .i64 2] 3)).setCell ⟨w.heap.size + 1 + 1, 0, none⟩ (.bool true)).heap[D2]? = some (.deferred (some [])) := (heap_other _ _ _ _ (by simp; omega)).trans HKA.out
      have hDs : (((W9.alloc (.cells #[.int .i64 1, .int .i64 2] 3)).setCell ⟨w.heap.size + 1 + 1, 0, none⟩ (.bool true)).putObj D2 (.deferred none)).heap[D]? = some (.deferred (some [])) := (World.putObj_heap_other (by omega)).trans ((heap_other _ _ _ _ (by simp; omega)).trans HDA.out)
      have hcE : ((((W9.alloc (.cells #[.int .i64 1, .int .i64 2] 3)).setCell ⟨w.heap.size + 1 + 1, 0, none⟩ (.bool true)).putObj D2 (.deferred none)).putObj D (.deferred none)).cell? ⟨w.heap.size + 1 + 1, 0, none⟩ = some (.bool true) := by
        rw [cell_of_row _ _ _ _ _ _ ((World.putObj_heap_other (by omega)).trans ((World.putObj_heap_other (by omega)).trans (one_set HR10.out (.bool true))))]; rfl
      have hE : Below w.heap.size w ((((W9.alloc (.cells #[.int .i64 1, .int .i64 2] 3)).setCell ⟨w.heap.size + 1 + 1, 0, none⟩ (.bool true)).putObj D2 (.deferred none)).putObj D (.deferred none)) := by
        have h1 := HBA.out.setCell (p := ⟨w.heap.size + 1 + 1, 0, none⟩) (by simp; omega) (.bool true)
        have h2 := h1.grown (grownBy_putObj' _ D2 (.deferred none)) h1.size (fun k e => by cases e; omega)
        exact h2.grown (grownBy_putObj' _ D (.deferred none)) h2.size (fun k e => by cases e; omega)
      have HKS := Lib.hid hKs
      have HDS := Lib.hid hDs
      have HCE := Lib.hid hcE
      have HE := Lib.hid hE
      have hmn : min (N : Int) most = seen := HSEEN.out.symm
      clear hKs hDs hcE hE hw9
      gi_wp2_with (first
        | (refine ⟨trivial, ?_⟩; gi_at_call 9; refine (callsIn_wide.2 (put_nil _ _)).mono ?_; rintro e w' ⟨rfl, rfl⟩)
        | (refine ⟨trivial, ?_⟩; gi_at_call 20; refine (callsIn_wide.2 (len_nil _)).mono ?_; rintro e w' ⟨rfl, rfl⟩)
        | (refine ⟨trivial, ?_⟩; gi_at_call 24; refine (callsIn_wide.2 (room_nil _)).mono ?_; rintro e w' ⟨rfl, rfl⟩)
        | (refine ⟨trivial, ?_⟩; gi_at_call 21; refine (callsIn_wide.2 (lost_nil _)).mono ?_; rintro e w' ⟨rfl, rfl⟩)
        | (refine ⟨trivial, ?_⟩; gi_at_call 17; refine (callsIn_wide.2 (fork_nil _)).mono ?_; rintro e w' ⟨rfl, rfl⟩))
      all_goals
        refine ⟨by simp, .inl ⟨_, _, rfl, run_takeDeferred HKS.out, ?_⟩⟩
        refine ⟨by simp, .inl ⟨_, _, rfl, run_takeDeferred HDS.out, ?_⟩⟩
        refine ⟨.bool true, ?_, rfl, HE.out⟩
        simp [results, Try.f5, go_sem, HCE.out]
  · refine callsIn_of_wp_marks Try.func5 rfl trivial ?_ rfl
    simp only [Try.ntmps5, List.size_toArray, List.length_cons, List.length_nil, Nat.reduceAdd, Nat.reduceSub, Array.replicate_succ, Array.replicate_zero, List.push_toArray, List.append_toArray, List.nil_append, List.cons_append]
    have a0 := Boxed.new w 25 (.slice A 30 c)
    have a1 := Boxed.new (w.alloc (.cells #[.slice A 30 c] 25)) 5 (.int .u8 most)
    have a2 := Boxed.new ((w.alloc (.cells #[.slice A 30 c] 25)).alloc (.cells #[.int .u8 most] 5)) 4 (.bool false)
    simp only [World.size_alloc] at a1 a2
    have b0 := (a0.alloc (.cells #[.int .u8 most] 5)).alloc (.cells #[.bool false] 4)
    have b1 := a1.alloc (.cells #[.bool false] 4)
    have hb1 : Below w.heap.size w (((w.alloc (.cells #[.slice A 30 c] 25)).alloc (.cells #[.int .u8 most] 5)).alloc (.cells #[.bool false] 4)) := (((Below.refl _ _).alloc (Nat.le_refl _) _).alloc (by simp) _).alloc (by simp; omega) _
    have hsz : (((w.alloc (.cells #[.slice A 30 c] 25)).alloc (.cells #[.int .u8 most] 5)).alloc (.cells #[.bool false] 4)).heap.size = w.heap.size + 1 + 1 + 1 := by simp
    have H0 := Lib.hid b0
    have H1 := Lib.hid b1
    have H2 := Lib.hid a2
    have HB := Lib.hid hb1
    have HSZ := Lib.hid hsz
    clear a0 a1 a2 b0 b1 hb1 hsz
    gi_wp2_with fail
    generalize ((w.alloc (.cells #[.slice A 30 c] 25)).alloc (.cells #[.int .u8 most] 5)).alloc (.cells #[.bool false] 4) = w0 at H0 H1 H2 HB HSZ ⊢
    refine ⟨trivial, ?_⟩
    refine (callsIn_wide.2 (new_any _ _ (by omega))).mono ?_
    rintro e w1 ⟨rfl, hq1, hw1⟩
    rw [clampL_id (by omega), HSZ.out] at hq1
    rw [HSZ.out]
    have hb1 : Below w0.heap.size w0 w1 := by rw [hw1]; exact (Below.refl _ _).alloc (Nat.le_refl _) _
    have hs1 : w1.heap.size = w.heap.size + 1 + 1 + 1 + 1 := by rw [hw1]; simp [HSZ.out]
    have hq2 : Que (w1.alloc (.cells #[.pointer (some ⟨w.heap.size + 1 + 1 + 1, 0, none⟩)] 23)) (w.heap.size + 1 + 1 + 1 + 1 + 1) (w.heap.size + 1 + 1 + 1) 30 [] 0 none 0 0 := (hq1.below ((Below.refl _ _).alloc (Nat.le_refl _) _)).empty
    have hb2 : Below w0.heap.size w0 (w1.alloc (.cells #[.pointer (some ⟨w.heap.size + 1 + 1 + 1, 0, none⟩)] 23)) := hb1.alloc hb1.size _
    have hs2 : (w1.alloc (.cells #[.pointer (some ⟨w.heap.size + 1 + 1 + 1, 0, none⟩)] 23)).heap.size = w.heap.size + 1 + 1 + 1 + 1 + 1 := by simp [hs1]
    have hp2 : (w1.alloc (.cells #[.pointer (some ⟨w.heap.size + 1 + 1 + 1, 0, none⟩)] 23)).heap[w.heap.size + 1 + 1 + 1 + 1]? = some (.cells #[.pointer (some ⟨w.heap.size + 1 + 1 + 1, 0, none⟩)] 23 (0, 0)) := by
      have := heap_alloc_new w1 (.cells #[.pointer (some ⟨w.heap.size + 1 + 1 + 1, 0, none⟩)] 23)
      rw [hs1] at this; exact this
    have c0 : w1.cell? ⟨w.heap.size, 0, none⟩ = some (.slice A 30 c) := (hb1.cell (p := ⟨w.heap.size, 0, none⟩) (by rw [HSZ.out]; show w.heap.size < _; omega)).trans H0.out.cell
    have hq5 : (w1.alloc (.cells #[.pointer (some ⟨w.heap.size + 1 + 1 + 1, 0, none⟩)] 23)).cell? ⟨w.heap.size + 1 + 1 + 1 + 1, 0, none⟩ = some (.pointer (some ⟨w.heap.size + 1 + 1 + 1, 0, none⟩)) := by rw [cell_of_row _ _ _ _ _ _ hp2]; rfl
    have HQ2 := Lib.hid hq2
    have HB2 := Lib.hid hb2
    have HS2 := Lib.hid hs2
    have HP2 := Lib.hid hp2
    clear hw1 hq1 hb1 hq2 hb2 hs2 hp2
    gi_wp2_with fail
    generalize w1.alloc (.cells #[.pointer (some ⟨w.heap.size + 1 + 1 + 1, 0, none⟩)] 23) = w2 at HQ2 HB2 HS2 HP2 hq5 ⊢
    have hb02 : Below w.heap.size w w2 := HB.out.trans (HB2.out.mono HB.out.size)
    have hX2 := HX.out.below hb02
    have hxl := hX2.len
    have htake : List.take 30 (ints xs) = ints xs := List.take_of_length_le (by simp; omega)
    have hput := put_any w2 (w.heap.size + 1 + 1 + 1) (w.heap.size + 1 + 1 + 1 + 1 + 1) 0 0 30 c 30 0 [] (ints xs) none A HQ2.out (by rw [HS2.out]; omega) (fun k hk => by rw [← List.map_take]; exact Src.of_nums hX2 hk) (by omega) (by simp only [maxLen]; omega) (by omega)
    have HPUT := Lib.hid hput
    have HTK := Lib.hid htake
    have HB02 := Lib.hid hb02
    clear hput htake hX2 hxl hb02 c0 hq5 hs1
    refine ⟨trivial, ?_⟩
    refine (callsIn_wide.2 HPUT.out).mono ?_
    rintro e w3 ⟨k, Aq, cq, rfl, hk, hq3, ht3, hn3⟩
    obtain rfl : 30 = k := by omega
    rw [HTK.out, List.nil_append, Nat.zero_add, Int.zero_add, Int.sub_self] at hq3
    have hk3 : ∀ k, k < w2.heap.size → k ≠ w.heap.size + 1 + 1 + 1 → w3.heap[k]? = w2.heap[k]? := fun k h1 h2 => ht3.block k h1 h2 (by simp [blk])
    have hs3 : w.heap.size + 1 + 1 + 1 + 1 + 1 ≤ w3.heap.size := by have := ht3.size; rw [HS2.out] at this; exact this
    have hb3 : Below w.heap.size w w3 := HB02.out.trans (ht3.below HB02.out.size (by omega) (fun b e => by simp [blk] at e))
    have hb5 : Below w3.heap.size w3 ((w3.alloc (.cells #[.int .i64 0] 3)).alloc (.cells #[.pointer (some ⟨w.heap.size + 1 + 1 + 1, 0, none⟩)] 23)) := ((Below.refl _ _).alloc (Nat.le_refl _) _).alloc (by simp) _
    have hkp : KpB w.heap.size w3.heap.size ((w3.alloc (.cells #[.int .i64 0] 3)).alloc (.cells #[.pointer (some ⟨w.heap.size + 1 + 1 + 1, 0, none⟩)] 23)) A 30 c most 0 false := by
      have hh := HB2.out
      have hz := HSZ.out
      have hz2 := HS2.out
      exact ⟨(hb5.block _ (by omega)).trans ((hk3 _ (by omega) (by omega)).trans ((hh.block _ (by omega)).trans H0.out)), (hb5.block _ (by omega)).trans ((hk3 _ (by omega) (by omega)).trans ((hh.block _ (by omega)).trans H1.out)),
        (hb5.block _ (by omega)).trans ((hk3 _ (by omega) (by omega)).trans ((hh.block _ (by omega)).trans H2.out)), (hb5.block _ (by omega)).trans ((hk3 _ (by omega) (by omega)).trans HP2.out), heap_alloc2_old w3 _ _⟩
    have c53 : (w3.alloc (.cells #[.int .i64 0] 3)).cell? ⟨w.heap.size + 1 + 1 + 1 + 1, 0, none⟩ = some (.pointer (some ⟨w.heap.size + 1 + 1 + 1, 0, none⟩)) := by
      have hz2 := HS2.out
      rw [cell_of_row _ _ _ _ _ _ ((Below.heap_alloc w3 _ _ (by omega)).trans ((hk3 (w.heap.size + 1 + 1 + 1 + 1) (by omega) (by omega)).trans HP2.out))]; rfl
    have c53' : w3.cell? ⟨w.heap.size + 1 + 1 + 1 + 1, 0, none⟩ = some (.pointer (some ⟨w.heap.size + 1 + 1 + 1, 0, none⟩)) := by
      have hz2 := HS2.out
      rw [cell_of_row _ _ _ _ _ _ ((hk3 (w.heap.size + 1 + 1 + 1 + 1) (by omega) (by omega)).trans HP2.out)]; rfl
    have HQ3 := Lib.hid (hq3.below hb5)
    have HA3 : Hid (blk Aq ≠ some w3.heap.size) := fun e => by have := (hq3.row.lt e).2; omega
    have HKP := Lib.hid hkp
    have HB5 := Lib.hid (hb3.trans (hb5.mono hb3.size))
    have hp5 := heap_alloc2_new w3 (.cells #[.int .i64 0] 3) (.cells #[.pointer (some ⟨w.heap.size + 1 + 1 + 1, 0, none⟩)] 23)
    have HP5 := Lib.hid hp5
    have HK3 := Lib.hid hk3
    have heq := eql_told
    clear hk hq3 ht3 hn3 hk3 hb3 hb5 hkp hp5 HPUT HQ2
    gi_wp2_with fail
    refine ⟨trivial, ?_⟩
    refine (callsIn_wide.2 (all_any _ _)).mono ?_
    rintro e w4 ⟨rfl, rfl⟩
    have hsz5 : ((w3.alloc (.cells #[.int .i64 0] 3)).alloc (.cells #[.pointer (some ⟨w.heap.size + 1 + 1 + 1, 0, none⟩)] 23)).heap.size = w3.heap.size + 2 := by simp
    have HS5 := Lib.hid hsz5
    clear hsz5
    gi_wp2_with fail
    generalize (w3.alloc (.cells #[.int .i64 0] 3)).alloc (.cells #[.pointer (some ⟨w.heap.size + 1 + 1 + 1, 0, none⟩)] 23) = W5 at HQ3 HKP HB5 HP5 HS5 ⊢
    have hst := all_stops 8 (by omega) (w3.heap.size + 1) (w.heap.size + 1 + 1 + 1) (w.heap.size + 1 + 1 + 1 + 1 + 1) 30 cq 30 0 xs Aq (fun k => k = w3.heap.size ∨ k = w.heap.size + 1 + 1 + 1) (tbq (w.heap.size + 1 + 1 + 1)) W5 HP5.out HQ3.out (fun k hk => by rw [HS5.out]; omega)
      (fun W W' hW hW' => tbq_same (hW'.block _ (Nat.lt_of_lt_of_le (by rw [HS5.out]; omega) hW.size))) (fun W b hW hb => by
        have hq := HQ3.out.below hW
        rw [hq.tbq] at hb
        exact (hq.row.lt hb).2)
    have hI : KpI w w3.heap.size A 30 c most [] W5 := ⟨⟨HKP.out, ⟨_, Aq, cq, HQ3.out, HA3.out⟩, by simp⟩, HB5.out⟩
    refine wpIn_rangeFunc_ownG rfl (by omega) (gf := 31) (lb := #[.pointer (some ⟨w3.heap.size + 1, 0, none⟩)]) rfl trivial (enters_of Try.func31 (by kernel_rfl) rfl)
      hst kq_t (kq_b fun W l o' hl => tbq_same (Ne.symm (by have := HS5.out; omega) |> fun h => World.putObj_heap_other h)) (Below.refl _ _) (fun _ => rfl)
      (KpI w w3.heap.size A 30 c most) (KpX w w3.heap.size A 30 c most xs) (KpI_own w w3.heap.size A 30 c most _ (by rw [HS5.out]; omega)) (fun cd => KpX_own w w3.heap.size A 30 c most xs _ (by rw [HS5.out]; omega) cd) hI
      (fun x => { tmps := #[.slice A n c, .int .u8 most, .pointer (some ⟨w.heap.size, 0, none⟩), .pointer (some ⟨w.heap.size + 1, 0, none⟩), .pointer (some ⟨w.heap.size + 1 + 1, 0, none⟩), .pointer (some ⟨w.heap.size + 1 + 1 + 1 + 1, 0, none⟩), .pointer (some ⟨w3.heap.size, 0, none⟩), .func (Fn.func 31) #[] #[.pointer (some ⟨w3.heap.size + 1, 0, none⟩)], .int .i64 (x.1 : Nat), .int .i64 x.2, undef, undef, undef, undef, undef, .slice A n c, .slice A n c, .int .i64 (n : Nat), .int .i64 30, .slice A 30 c, .slice A 30 c, .int .i64 30, .pointer (some ⟨w.heap.size + 1 + 1 + 1, 0, none⟩), .pointer (some ⟨w.heap.size + 1 + 1 + 1, 0, none⟩), .slice A 30 c, .int .i64 30, .pointer (some ⟨w.heap.size + 1 + 1 + 1, 0, none⟩), .func (Fn.func 31) #[] #[.pointer (some ⟨w3.heap.size + 1, 0, none⟩)], .func (Fn.func 31) #[] #[.pointer (some ⟨w3.heap.size + 1, 0, none⟩)], .bool false, .func (Fn.func 31) #[] #[.pointer (some ⟨w3.heap.size + 1, 0, none⟩)], .int .i64 (x.1 : Nat), .int .i64 x.2, undef, undef, undef, undef, undef, undef, undef, undef, undef, undef, undef, undef, undef, undef, undef, undef, undef, undef, undef, undef, undef, undef, undef, undef, undef, undef, undef, undef, undef, undef, undef, undef, undef, undef, undef, undef, undef, undef, undef, undef, undef, undef, undef, undef, undef, undef, undef, undef, undef, undef, undef, undef, undef, undef, undef, undef, undef, undef, undef, undef, undef, undef, undef, undef, undef, undef, undef, undef, undef, undef, undef, undef, undef, undef, undef, undef, undef, undef, undef, undef, undef], defers := [] }) ?assign ?body ?done ?stop
    case assign =>
      intro lp x W K hK
      gi_wp2
      exact hK
    case body =>
      rintro lp pre ⟨i, v⟩ W ⟨⟨hkp, ⟨V, Ar, cr, hq, hn⟩, hne⟩, hbw⟩ hpN
      have hNX := HX.out.below hbw
      have hxl := hNX.len
      have c0 : W.cell? ⟨w.heap.size, 0, none⟩ = some (.slice A 30 c) := by rw [cell_of_row _ _ _ _ _ _ hkp.l]; rfl
      have c1 : W.cell? ⟨w.heap.size + 1, 0, none⟩ = some (.int .u8 most) := by rw [cell_of_row _ _ _ _ _ _ hkp.m]; rfl
      have c2 : W.cell? ⟨w.heap.size + 1 + 1, 0, none⟩ = some (.bool false) := by rw [cell_of_row _ _ _ _ _ _ hkp.r]; rfl
      have f2 : W.frozen? ⟨w.heap.size + 1 + 1, 0, none⟩ = false := frozen_of_row _ _ _ _ _ hkp.r
      have c4 : W.cell? ⟨w.heap.size + 1 + 1 + 1 + 1, 0, none⟩ = some (.pointer (some ⟨w.heap.size + 1 + 1 + 1, 0, none⟩)) := by rw [cell_of_row _ _ _ _ _ _ hkp.q]; rfl
      have hmem : ∀ x ∈ pre ++ [((i, v) : Elt)], pre ++ [((i, v) : Elt)] <+: en xs → x.1 < xs.length ∧ x.2 = xs.getD x.1 0 := fun x hx hp => en_mem (hp.subset hx)
      have hbad : (¬ i < xs.length ∨ ¬ v = xs.getD i 0) → ¬ pre ++ [((i, v) : Elt)] <+: en xs := fun h hp => by
        have := hmem (i, v) (by simp) hp
        rcases h with h | h
        · exact h this.1
        · exact h this.2
      have HBAD := Lib.hid hbad
      have HKPB := Lib.hid hkp
      have HQW := Lib.hid hq
      have HN := Lib.hid hn
      have HNE := Lib.hid hne
      have HXL := Lib.hid hxl
      have k2 := fun v => (KeepsOthers.setCell W ⟨w.heap.size + 1 + 1, 0, none⟩ v).from W5.heap.size
      have K2 := Lib.hid k2
      clear hkp hq hn hne hmem hbad hxl k2
      by_cases h1 : (i : Int) = most
      · have t1 : ((i : Int) == most) = true := by simp [h1]
        have H1' := Lib.hid h1
        clear h1 hNX
        gi_wp2
        exact ⟨KeepsFrom.refl _ _, .inr ⟨rfl, ⟨pre, (i, v), rfl, H1'.out, HKPB.out⟩, hbw⟩⟩
      · have t1 : ((i : Int) == most) = false := by simp [h1]
        have H1' := Lib.hid h1
        clear h1
        by_cases h2 : i < 30
        · obtain ⟨b, off, rfl, hbb, hcl⟩ := hNX.cells (by omega)
          have hcv := hcl i h2
          generalize hu : xs.getD i 0 = u at hcv
          have HU := Lib.hid hu
          have hi1 : (i : Int) < 30 := by omega
          have hi0 : (0 : Int) ≤ (i : Int) := by omega
          clear hcl hu hNX
          by_cases h3 : v = u
          · have t3 : (v != u) = false := by simp [h3]
            have H3 := Lib.hid h3
            clear h3
            have hVl := HQW.out.row.len
            obtain ⟨v0, V', hV⟩ : ∃ v0 V', V = v0 :: V' := by
              cases V with
              | nil => exfalso; simp only [List.length_nil] at hVl; omega
              | cons a b => exact ⟨a, b, rfl⟩
            subst hV
            have e1 : 30 - 1 + 1 = 30 := by omega
            have hq1 : Que W (w.heap.size + 1 + 1 + 1 + 1 + 1) (w.heap.size + 1 + 1 + 1) 30 (v0 :: V') 0 Ar (30 - 1 + 1) cr := by rw [e1]; exact HQW.out
            have htk := take_some W (w.heap.size + 1 + 1 + 1) (w.heap.size + 1 + 1 + 1 + 1 + 1) (30 - 1) cr 30 0 v0 V' Ar hq1
            clear e1 hq1
            have HTAKE := Lib.hid htk
            clear hVl htk
            gi_wp2_with fail
            refine ⟨trivial, ?_⟩
            refine (CallsIn.inRound lp (callsIn_wide.2 HTAKE.out)).mono ?_
            rintro e W6 ⟨rfl, A6, c6, hq6, ht6, hA6⟩
            have hkp6 := HKPB.out.tch HQW.out ht6 HN.out (by omega)
            have hbw6 : Below w.heap.size w W6 := hbw.trans (ht6.below hbw.size (by omega) (fun b e => by have := (HQW.out.row.lt e).1; omega))
            have hn6 : Nxt W Ar A6 := .inl hA6
            have hkq6 : Kq (fun k => k = w3.heap.size ∨ k = w.heap.size + 1 + 1 + 1) (tbq (w.heap.size + 1 + 1 + 1)) W W6 := kq_tch HQW.out hq6 ht6 hn6 (.inr rfl)
            have hkf6 : KeepsFrom W5.heap.size W W6 := keeps_tch HQW.out ht6
            have hne6 : blk A6 ≠ some w3.heap.size := fun e => HN.out (hA6 ▸ e)
            have c46 : W6.cell? ⟨w.heap.size + 1 + 1 + 1 + 1, 0, none⟩ = some (.pointer (some ⟨w.heap.size + 1 + 1 + 1, 0, none⟩)) := by rw [cell_of_row _ _ _ _ _ _ hkp6.q]; rfl
            have hb7 : Below W6.heap.size W6 (W6.alloc (.cells #[.int .i64 (-1)] 3)) := (Below.refl _ _).alloc (Nat.le_refl _) _
            have hq7 := hq6.below hb7
            have hkp7 := hkp6.below hb7
            have hput7 := put_any _ _ _ _ _ 1 1 _ _ _ _ _ _ hq7 (by have := hkp6.q; have h := (Array.getElem?_eq_some_iff.1 this).1; simp; omega) (fun k hk => Src.lit W6 3 [.int .i64 (-1)] (by simp [Value.oneCell']) k hk) (Nat.le_refl _) (by simp [maxLen]) (by omega)
            have HPUT7 := Lib.hid hput7
            have HQ6 := Lib.hid hq6
            have HKP7 := Lib.hid hkp7
            have HQ7 := Lib.hid hq7
            have HB7 := Lib.hid hb7
            clear hq6 ht6 hA6 hkp6 hb7 hq7 hkp7 hput7
            gi_wp2_with fail
            refine ⟨trivial, ?_⟩
            refine (CallsIn.inRound lp (callsIn_wide.2 HPUT7.out)).mono ?_
            rintro e W8 ⟨k8, A8, c8, rfl, hk8, hq8, ht8, hn8⟩
            obtain rfl : k8 = 1 := by omega
            have hkp8 := HKP7.out.tch HQ7.out ht8 hne6 (by omega)
            have hbw7 : Below w.heap.size w (W6.alloc (.cells #[.int .i64 (-1)] 3)) := hbw6.trans (HB7.out.mono hbw6.size)
            have hbw8 : Below w.heap.size w W8 := hbw7.trans (ht8.below hbw7.size (by omega) (fun b e => by have := (HQ6.out.row.lt e).1; omega))
            have hs6 : w3.heap.size < (W6.alloc (.cells #[.int .i64 (-1)] 3)).heap.size := (Array.getElem?_eq_some_iff.1 HKP7.out.s).1
            have hne8 : blk A8 ≠ some w3.heap.size := Nxt.ne' hn8 hs6 hne6
            have hkq8 := kq_t hkq6 (kq_t (kq_below HQ6.out HB7.out) (kq_tch HQ7.out hq8 ht8 hn8 (.inr rfl)))
            have hkf8 : KeepsFrom W5.heap.size W W8 := (hkf6.trans (keeps_below HB7.out)).trans (keeps_tch HQ7.out ht8)
            have hq8' : ∃ V2, Que W8 (w.heap.size + 1 + 1 + 1 + 1 + 1) (w.heap.size + 1 + 1 + 1) 30 V2 0 A8 30 c8 := by
              have e : 30 - 1 + 1 = 30 := by omega
              rw [e] at hq8
              exact ⟨_, hq8⟩
            have c8s : W8.cell? ⟨w3.heap.size, 0, none⟩ = some (.int .i64 pre.length) := by rw [cell_of_row _ _ _ _ _ _ hkp8.s]; rfl
            have f8s : W8.frozen? ⟨w3.heap.size, 0, none⟩ = false := frozen_of_row _ _ _ _ _ hkp8.s
            have HQ8 := Lib.hid hq8'
            have HKP8 := Lib.hid hkp8
            have HKQ8 := Lib.hid hkq8
            have HKF8 := Lib.hid hkf8
            have HNE8 := Lib.hid hne8
            clear hk8 hq8 ht8 hn8 hkp8 hbw7 hkq8 hkf8 hq8' hkq6 hkf6 hne6 hne8 hn6
            gi_wp2
            obtain ⟨V2, hq9⟩ := HQ8.out
            have hs8 := (Array.getElem?_eq_some_iff.1 HKP8.out.s).1
            have hq9' : Que (W8.setCell ⟨w3.heap.size, 0, none⟩ (.int .i64 ((pre.length : Int) + 1))) (w.heap.size + 1 + 1 + 1 + 1 + 1) (w.heap.size + 1 + 1 + 1) 30 V2 0 A8 30 c8 :=
              hq9.keep (heap_other _ _ _ _ (by simp; omega)) (fun b hb => heap_other _ _ _ _ (fun e => HNE8.out (by rw [hb, e])))
            have hkp9 : KpB w.heap.size w3.heap.size (W8.setCell ⟨w3.heap.size, 0, none⟩ (.int .i64 ((pre.length : Int) + 1))) (some ⟨b, off, none⟩) 30 c most ((pre ++ [((i, v) : Elt)]).length : Int) false := by
              have k := HKP8.out
              refine ⟨(heap_other _ _ _ _ (by simp; omega)).trans k.l, (heap_other _ _ _ _ (by simp; omega)).trans k.m, (heap_other _ _ _ _ (by simp; omega)).trans k.r, (heap_other _ _ _ _ (by simp; omega)).trans k.q, ?_⟩
              have := one_set k.s (.int .i64 ((pre.length : Int) + 1))
              rw [show (((pre ++ [((i, v) : Elt)]).length : Nat) : Int) = (pre.length : Int) + 1 by simp]
              exact this
            refine ⟨HKF8.out.trans ((KeepsOthers.setCell _ _ _).from _), kq_t HKQ8.out (kq_set _ _ _ (.inl rfl) (tbq_same (heap_other _ _ _ _ (by simp; omega)))), ⟨⟨hkp9, ⟨V2, A8, c8, hq9', HNE8.out⟩, fun x hx => ?_⟩, hbw8.setCell (p := ⟨w3.heap.size, 0, none⟩) (by simp; omega) _⟩⟩
            rcases List.mem_append.1 hx with hx | hx
            · exact HNE.out x hx
            · simp at hx; subst hx; exact H1'.out
          · have t3 : (v != u) = true := by simp [h3]
            have H3 := Lib.hid h3
            clear h3
            gi_wp2
            exact ⟨K2.out _, .inl (HBAD.out (.inr (by rw [HU.out]; exact H3.out)))⟩
        · have h2' : 30 ≤ (i : Int) := by omega
          have H2' := Lib.hid h2
          clear h2 hNX
          gi_wp2
          exact ⟨K2.out _, .inl (HBAD.out (.inl (by rw [HXL.out]; exact H2'.out)))⟩
    case stop =>
      rintro D cc pre W hD hSp hX hK
      rcases hX with hX | ⟨rfl, ⟨p, x, rfl, hx, hkp⟩, hbw⟩
      · exact absurd hSp hX
      have hxl := HX.out.len
      have hfx := (en_fit xs ((List.prefix_append p [x]).trans hSp) x).1 hSp
      have hseen : (p.length : Int) = min (30 : Int) most := by
        rw [← hx, hfx.2.1]; rw [hxl] at hfx; omega
      generalize (p.length : Int) = seen at hkp hseen
      clear hx hfx hSp hxl
      have c0 : W.cell? ⟨w.heap.size, 0, none⟩ = some (.slice A 30 c) := by rw [cell_of_row _ _ _ _ _ _ hkp.l]; rfl
      have HKPW := Lib.hid hkp
      have HSEEN := Lib.hid hseen
      have HKD := Lib.hid hK
      have hneq := neq_told
      clear hkp hseen hK
      gi_wp2_with (first
        | (refine ⟨trivial, ?_⟩; gi_at_call 16; refine (callsIn_wide.2 (clear_nil _)).mono ?_; rintro e w' ⟨rfl, rfl⟩)
        | (refine ⟨trivial, ?_⟩; gi_at_call 11; refine (callsIn_wide.2 (take_nil _)).mono ?_; rintro e w' ⟨rfl, rfl⟩))
      refine ⟨trivial, ?_⟩
      refine (drop_nil _).mono ?_
      rintro e W6 ⟨rfl, hb6⟩
      have hbw6 := hbw.trans (hb6.mono hbw.size)
      have hkp6 := HKPW.out.below hb6
      have hD6 := (hb6.block D (Array.getElem?_eq_some_iff.1 HKD.out).1).trans HKD.out
      gi_wp2_with fail
      refine ⟨trivial, ?_⟩
      refine (callsIn_wide.2 (all_any _ _)).mono ?_
      rintro e w4 ⟨rfl, rfl⟩
      have hb7 : Below W6.heap.size W6 ((W6.alloc (.cells #[.int .i64 0] 3)).alloc (.cells #[.pointer none] 23)) := ((Below.refl _ _).alloc (Nat.le_refl _) _).alloc (by simp) _
      have hD6' := (Array.getElem?_eq_some_iff.1 hD6).1
      have hI7 : KpJ w w3.heap.size A 30 c most seen W6.heap.size D ((W6.alloc (.cells #[.int .i64 0] 3)).alloc (.cells #[.pointer none] 23)) :=
        ⟨⟨hkp6.below hb7, heap_alloc2_old W6 _ _, (hb7.block D hD6').trans hD6⟩, hbw6.trans (hb7.mono hbw6.size)⟩
      have hbx7 := heap_alloc2_new W6 (.cells #[.int .i64 0] 3) (.cells #[.pointer none] 23)
      have hsz7 : ((W6.alloc (.cells #[.int .i64 0] 3)).alloc (.cells #[.pointer none] 23)).heap.size = W6.heap.size + 2 := by simp
      have HI7 := Lib.hid hI7
      have HBX7 := Lib.hid hbx7
      have HS7 := Lib.hid hsz7
      have hw6 := hbw6.size
      clear hb7 hI7 hbx7 hsz7 hkp6 hD6 hb6
      gi_wp2_with fail
      generalize (W6.alloc (.cells #[.int .i64 0] 3)).alloc (.cells #[.pointer none] 23) = W7 at HI7 HBX7 HS7 ⊢
      refine range_none (by omega) (gf := 31) (lb := #[.pointer (some ⟨W6.heap.size + 1, 0, none⟩)]) rfl (enters_of Try.func31 (by kernel_rfl) rfl)
        (all_none 8 (W6.heap.size + 1) W7 HBX7.out) rfl (KpJ w w3.heap.size A 30 c most seen W6.heap.size D) (KpJ_own w w3.heap.size A 30 c most seen W6.heap.size D _ (by rw [HS7.out]; omega) (by rw [HS7.out]; omega) (by rw [HS7.out]; omega)) HI7.out ?_
      rintro D2 W8 hD2 ⟨⟨hkp8, hnb8, hD8⟩, hbw8⟩ hK8
      have HKP8 := Lib.hid hkp8
      have HNB8 := Lib.hid hnb8
      have HD8 := Lib.hid hD8
      have HK8 := Lib.hid hK8
      clear hkp8 hnb8 hD8 hK8
      gi_wp2_with fail
      refine ⟨trivial, ?_⟩
      refine (callsIn_wide.2 (live7_any _)).mono ?_
      rintro e W9 ⟨rfl, hb9⟩
      have hkp9 := HKP8.out.below hb9
      have hnb9 := (hb9.block _ (Array.getElem?_eq_some_iff.1 HNB8.out).1).trans HNB8.out
      have hD9 := (hb9.block _ (Array.getElem?_eq_some_iff.1 HD8.out).1).trans HD8.out
      have hK9 := (hb9.block _ (Array.getElem?_eq_some_iff.1 HK8.out).1).trans HK8.out
      have hbw9 := hbw8.trans (hb9.mono hbw8.size)
      have hb10 : Below W9.heap.size W9 (W9.alloc (.cells #[.int .i64 1, .int .i64 2] 3)) := (Below.refl _ _).alloc (Nat.le_refl _) _
      have cs9 : W9.cell? ⟨w3.heap.size, 0, none⟩ = some (.int .i64 seen) := by rw [cell_of_row _ _ _ _ _ _ hkp9.s]; rfl
      have cl9 : W9.cell? ⟨w.heap.size, 0, none⟩ = some (.slice A 30 c) := by rw [cell_of_row _ _ _ _ _ _ hkp9.l]; rfl
      have cm9 : W9.cell? ⟨w.heap.size + 1, 0, none⟩ = some (.int .u8 most) := by rw [cell_of_row _ _ _ _ _ _ hkp9.m]; rfl
      have kp10 := hkp9.below hb10
      have nb10 := (hb10.block _ (Array.getElem?_eq_some_iff.1 hnb9).1).trans hnb9
      have cn10 : (W9.alloc (.cells #[.int .i64 1, .int .i64 2] 3)).cell? ⟨W6.heap.size, 0, none⟩ = some (.int .i64 0) := by rw [cell_of_row _ _ _ _ _ _ nb10]; rfl
      have cr10 : (W9.alloc (.cells #[.int .i64 1, .int .i64 2] 3)).cell? ⟨w.heap.size + 1 + 1, 0, none⟩ = some (.bool false) := by rw [cell_of_row _ _ _ _ _ _ kp10.r]; rfl
      have fr10 : (W9.alloc (.cells #[.int .i64 1, .int .i64 2] 3)).frozen? ⟨w.heap.size + 1 + 1, 0, none⟩ = false := frozen_of_row _ _ _ _ _ kp10.r
      have cn9 : W9.cell? ⟨W6.heap.size, 0, none⟩ = some (.int .i64 0) := by rw [cell_of_row _ _ _ _ _ _ hnb9]; rfl
      have cr9 : W9.cell? ⟨w.heap.size + 1 + 1, 0, none⟩ = some (.bool false) := by rw [cell_of_row _ _ _ _ _ _ hkp9.r]; rfl
      have fr9 : W9.frozen? ⟨w.heap.size + 1 + 1, 0, none⟩ = false := frozen_of_row _ _ _ _ _ hkp9.r
      have HR10 := Lib.hid kp10.r
      have HDA := Lib.hid ((hb10.block _ (Array.getElem?_eq_some_iff.1 hD9).1).trans hD9)
      have HKA := Lib.hid ((hb10.block _ (Array.getElem?_eq_some_iff.1 hK9).1).trans hK9)
      have HBA := Lib.hid (hbw9.trans (hb10.mono hbw9.size))
      have hDa : w.heap.size + 1 + 1 < D := by have := (Array.getElem?_eq_some_iff.1 HP5.out).1; have := HS5.out; omega
      have hDb : D < D2 := by have := HS7.out; omega
      clear hb9 hkp9 hnb9 hD9 hK9 hb10 kp10 nb10
      have hw9 : (W9.alloc (.cells #[.int .i64 1, .int .i64 2] 3)).heap.size = W9.heap.size + 1 := by simp
      have hKs : ((W9.alloc (.cells #[.int .i64 1, .int .i64 2] 3)).setCell ⟨w.heap.size + 1 + 1, 0, none⟩ (.bool true)).heap[D2]? = some (.deferred (some [])) := (heap_other _ _ _ _ (by simp; omega)).trans HKA.out
      have hDs : (((W9.alloc (.cells #[.int .i64 1, .int .i64 2] 3)).setCell ⟨w.heap.size + 1 + 1, 0, none⟩ (.bool true)).putObj D2 (.deferred none)).heap[D]? = some (.deferred (some [])) := (World.putObj_heap_other (by omega)).trans ((heap_other _ _ _ _ (by simp; omega)).trans HDA.out)
      have hcE : ((((W9.alloc (.cells #[.int .i64 1, .int .i64 2] 3)).setCell ⟨w.heap.size + 1 + 1, 0, none⟩ (.bool true)).putObj D2 (.deferred none)).putObj D (.deferred none)).cell? ⟨w.heap.size + 1 + 1, 0, none⟩ = some (.bool true) := by
        rw [cell_of_row _ _ _ _ _ _ ((World.putObj_heap_other (by omega)).trans ((World.putObj_heap_other (by omega)).trans (one_set HR10.out (.bool true))))]; rfl
      have hE : Below w.heap.size w ((((W9.alloc (.cells #[.int .i64 1, .int .i64 2] 3)).setCell ⟨w.heap.size + 1 + 1, 0, none⟩ (.bool true)).putObj D2 (.deferred none)).putObj D (.deferred none)) := by
        have h1 := HBA.out.setCell (p := ⟨w.heap.size + 1 + 1, 0, none⟩) (by simp; omega) (.bool true)
        have h2 := h1.grown (grownBy_putObj' _ D2 (.deferred none)) h1.size (fun k e => by cases e; omega)
        exact h2.grown (grownBy_putObj' _ D (.deferred none)) h2.size (fun k e => by cases e; omega)
      have HKS := Lib.hid hKs
      have HDS := Lib.hid hDs
      have HCE := Lib.hid hcE
      have HE := Lib.hid hE
      have hmn : min (30 : Int) most = seen := HSEEN.out.symm
      clear hKs hDs hcE hE hw9
      gi_wp2_with (first
        | (refine ⟨trivial, ?_⟩; gi_at_call 9; refine (callsIn_wide.2 (put_nil _ _)).mono ?_; rintro e w' ⟨rfl, rfl⟩)
        | (refine ⟨trivial, ?_⟩; gi_at_call 20; refine (callsIn_wide.2 (len_nil _)).mono ?_; rintro e w' ⟨rfl, rfl⟩)
        | (refine ⟨trivial, ?_⟩; gi_at_call 24; refine (callsIn_wide.2 (room_nil _)).mono ?_; rintro e w' ⟨rfl, rfl⟩)
        | (refine ⟨trivial, ?_⟩; gi_at_call 21; refine (callsIn_wide.2 (lost_nil _)).mono ?_; rintro e w' ⟨rfl, rfl⟩)
        | (refine ⟨trivial, ?_⟩; gi_at_call 17; refine (callsIn_wide.2 (fork_nil _)).mono ?_; rintro e w' ⟨rfl, rfl⟩))
      all_goals
        refine ⟨by simp, .inl ⟨_, _, rfl, run_takeDeferred HKS.out, ?_⟩⟩
        refine ⟨by simp, .inl ⟨_, _, rfl, run_takeDeferred HDS.out, ?_⟩⟩
        refine ⟨.bool true, ?_, rfl, HE.out⟩
        simp [results, Try.f5, go_sem, HCE.out]
    case done =>
      rintro D ys W hD rfl ⟨⟨hkp, _, hne⟩, hbw⟩ hK
      have hxl := HX.out.len
      have hseen : ((en xs).length : Int) = min (30 : Int) most := by
        rw [en_len, hxl]
        rcases Int.lt_or_le most (30 : Int) with h | h
        · obtain ⟨k, rfl⟩ : ∃ k : Nat, most = k := ⟨most.toNat, by omega⟩
          exact absurd rfl (hne _ (en_has (l := xs) (i := k) (by omega)))
        · omega
      generalize ((en xs).length : Int) = seen at hkp hseen
      clear hxl hne
      have c0 : W.cell? ⟨w.heap.size, 0, none⟩ = some (.slice A 30 c) := by rw [cell_of_row _ _ _ _ _ _ hkp.l]; rfl
      have HKPW := Lib.hid hkp
      have HSEEN := Lib.hid hseen
      have HKD := Lib.hid hK
      have hneq := neq_told
      clear hkp hseen hK
      gi_wp2_with (first
        | (refine ⟨trivial, ?_⟩; gi_at_call 16; refine (callsIn_wide.2 (clear_nil _)).mono ?_; rintro e w' ⟨rfl, rfl⟩)
        | (refine ⟨trivial, ?_⟩; gi_at_call 11; refine (callsIn_wide.2 (take_nil _)).mono ?_; rintro e w' ⟨rfl, rfl⟩))
      refine ⟨trivial, ?_⟩
      refine (drop_nil _).mono ?_
      rintro e W6 ⟨rfl, hb6⟩
      have hbw6 := hbw.trans (hb6.mono hbw.size)
      have hkp6 := HKPW.out.below hb6
      have hD6 := (hb6.block D (Array.getElem?_eq_some_iff.1 HKD.out).1).trans HKD.out
      gi_wp2_with fail
      refine ⟨trivial, ?_⟩
      refine (callsIn_wide.2 (all_any _ _)).mono ?_
      rintro e w4 ⟨rfl, rfl⟩
      have hb7 : Below W6.heap.size W6 ((W6.alloc (.cells #[.int .i64 0] 3)).alloc (.cells #[.pointer none] 23)) := ((Below.refl _ _).alloc (Nat.le_refl _) _).alloc (by simp) _
      have hD6' := (Array.getElem?_eq_some_iff.1 hD6).1
      have hI7 : KpJ w w3.heap.size A 30 c most seen W6.heap.size D ((W6.alloc (.cells #[.int .i64 0] 3)).alloc (.cells #[.pointer none] 23)) :=
        ⟨⟨hkp6.below hb7, heap_alloc2_old W6 _ _, (hb7.block D hD6').trans hD6⟩, hbw6.trans (hb7.mono hbw6.size)⟩
      have hbx7 := heap_alloc2_new W6 (.cells #[.int .i64 0] 3) (.cells #[.pointer none] 23)
      have hsz7 : ((W6.alloc (.cells #[.int .i64 0] 3)).alloc (.cells #[.pointer none] 23)).heap.size = W6.heap.size + 2 := by simp
      have HI7 := Lib.hid hI7
      have HBX7 := Lib.hid hbx7
      have HS7 := Lib.hid hsz7
      have hw6 := hbw6.size
      clear hb7 hI7 hbx7 hsz7 hkp6 hD6 hb6
      gi_wp2_with fail
      generalize (W6.alloc (.cells #[.int .i64 0] 3)).alloc (.cells #[.pointer none] 23) = W7 at HI7 HBX7 HS7 ⊢
      refine range_none (by omega) (gf := 31) (lb := #[.pointer (some ⟨W6.heap.size + 1, 0, none⟩)]) rfl (enters_of Try.func31 (by kernel_rfl) rfl)
        (all_none 8 (W6.heap.size + 1) W7 HBX7.out) rfl (KpJ w w3.heap.size A 30 c most seen W6.heap.size D) (KpJ_own w w3.heap.size A 30 c most seen W6.heap.size D _ (by rw [HS7.out]; omega) (by rw [HS7.out]; omega) (by rw [HS7.out]; omega)) HI7.out ?_
      rintro D2 W8 hD2 ⟨⟨hkp8, hnb8, hD8⟩, hbw8⟩ hK8
      have HKP8 := Lib.hid hkp8
      have HNB8 := Lib.hid hnb8
      have HD8 := Lib.hid hD8
      have HK8 := Lib.hid hK8
      clear hkp8 hnb8 hD8 hK8
      gi_wp2_with fail
      refine ⟨trivial, ?_⟩
      refine (callsIn_wide.2 (live7_any _)).mono ?_
      rintro e W9 ⟨rfl, hb9⟩
      have hkp9 := HKP8.out.below hb9
      have hnb9 := (hb9.block _ (Array.getElem?_eq_some_iff.1 HNB8.out).1).trans HNB8.out
      have hD9 := (hb9.block _ (Array.getElem?_eq_some_iff.1 HD8.out).1).trans HD8.out
      have hK9 := (hb9.block _ (Array.getElem?_eq_some_iff.1 HK8.out).1).trans HK8.out
      have hbw9 := hbw8.trans (hb9.mono hbw8.size)
      have hb10 : Below W9.heap.size W9 (W9.alloc (.cells #[.int .i64 1, .int .i64 2] 3)) := (Below.refl _ _).alloc (Nat.le_refl _) _
      have cs9 : W9.cell? ⟨w3.heap.size, 0, none⟩ = some (.int .i64 seen) := by rw [cell_of_row _ _ _ _ _ _ hkp9.s]; rfl
      have cl9 : W9.cell? ⟨w.heap.size, 0, none⟩ = some (.slice A 30 c) := by rw [cell_of_row _ _ _ _ _ _ hkp9.l]; rfl
      have cm9 : W9.cell? ⟨w.heap.size + 1, 0, none⟩ = some (.int .u8 most) := by rw [cell_of_row _ _ _ _ _ _ hkp9.m]; rfl
      have kp10 := hkp9.below hb10
      have nb10 := (hb10.block _ (Array.getElem?_eq_some_iff.1 hnb9).1).trans hnb9
      have cn10 : (W9.alloc (.cells #[.int .i64 1, .int .i64 2] 3)).cell? ⟨W6.heap.size, 0, none⟩ = some (.int .i64 0) := by rw [cell_of_row _ _ _ _ _ _ nb10]; rfl
      have cr10 : (W9.alloc (.cells #[.int .i64 1, .int .i64 2] 3)).cell? ⟨w.heap.size + 1 + 1, 0, none⟩ = some (.bool false) := by rw [cell_of_row _ _ _ _ _ _ kp10.r]; rfl
      have fr10 : (W9.alloc (.cells #[.int .i64 1, .int .i64 2] 3)).frozen? ⟨w.heap.size + 1 + 1, 0, none⟩ = false := frozen_of_row _ _ _ _ _ kp10.r
      have cn9 : W9.cell? ⟨W6.heap.size, 0, none⟩ = some (.int .i64 0) := by rw [cell_of_row _ _ _ _ _ _ hnb9]; rfl
      have cr9 : W9.cell? ⟨w.heap.size + 1 + 1, 0, none⟩ = some (.bool false) := by rw [cell_of_row _ _ _ _ _ _ hkp9.r]; rfl
      have fr9 : W9.frozen? ⟨w.heap.size + 1 + 1, 0, none⟩ = false := frozen_of_row _ _ _ _ _ hkp9.r
      have HR10 := Lib.hid kp10.r
      have HDA := Lib.hid ((hb10.block _ (Array.getElem?_eq_some_iff.1 hD9).1).trans hD9)
      have HKA := Lib.hid ((hb10.block _ (Array.getElem?_eq_some_iff.1 hK9).1).trans hK9)
      have HBA := Lib.hid (hbw9.trans (hb10.mono hbw9.size))
      have hDa : w.heap.size + 1 + 1 < D := by have := (Array.getElem?_eq_some_iff.1 HP5.out).1; have := HS5.out; omega
      have hDb : D < D2 := by have := HS7.out; omega
      clear hb9 hkp9 hnb9 hD9 hK9 hb10 kp10 nb10
      have hw9 : (W9.alloc (.cells #[.int .i64 1, .int .i64 2] 3)).heap.size = W9.heap.size + 1 := by simp
      have hKs : ((W9.alloc (.cells #[.int .i64 1, .int .i64 2] 3)).setCell ⟨w.heap.size + 1 + 1, 0, none⟩ (.bool true)).heap[D2]? = some (.deferred (some [])) := (heap_other _ _ _ _ (by simp; omega)).trans HKA.out
      have hDs : (((W9.alloc (.cells #[.int .i64 1, .int .i64 2] 3)).setCell ⟨w.heap.size + 1 + 1, 0, none⟩ (.bool true)).putObj D2 (.deferred none)).heap[D]? = some (.deferred (some [])) := (World.putObj_heap_other (by omega)).trans ((heap_other _ _ _ _ (by simp; omega)).trans HDA.out)
      have hcE : ((((W9.alloc (.cells #[.int .i64 1, .int .i64 2] 3)).setCell ⟨w.heap.size + 1 + 1, 0, none⟩ (.bool true)).putObj D2 (.deferred none)).putObj D (.deferred none)).cell? ⟨w.heap.size + 1 + 1, 0, none⟩ = some (.bool true) := by
        rw [cell_of_row _ _ _ _ _ _ ((World.putObj_heap_other (by omega)).trans ((World.putObj_heap_other (by omega)).trans (one_set HR10.out (.bool true))))]; rfl
      have hE : Below w.heap.size w ((((W9.alloc (.cells #[.int .i64 1, .int .i64 2] 3)).setCell ⟨w.heap.size + 1 + 1, 0, none⟩ (.bool true)).putObj D2 (.deferred none)).putObj D (.deferred none)) := by
        have h1 := HBA.out.setCell (p := ⟨w.heap.size + 1 + 1, 0, none⟩) (by simp; omega) (.bool true)
        have h2 := h1.grown (grownBy_putObj' _ D2 (.deferred none)) h1.size (fun k e => by cases e; omega)
        exact h2.grown (grownBy_putObj' _ D (.deferred none)) h2.size (fun k e => by cases e; omega)
      have HKS := Lib.hid hKs
      have HDS := Lib.hid hDs
      have HCE := Lib.hid hcE
      have HE := Lib.hid hE
      have hmn : min (30 : Int) most = seen := HSEEN.out.symm
      clear hKs hDs hcE hE hw9
      gi_wp2_with (first
        | (refine ⟨trivial, ?_⟩; gi_at_call 9; refine (callsIn_wide.2 (put_nil _ _)).mono ?_; rintro e w' ⟨rfl, rfl⟩)
        | (refine ⟨trivial, ?_⟩; gi_at_call 20; refine (callsIn_wide.2 (len_nil _)).mono ?_; rintro e w' ⟨rfl, rfl⟩)
        | (refine ⟨trivial, ?_⟩; gi_at_call 24; refine (callsIn_wide.2 (room_nil _)).mono ?_; rintro e w' ⟨rfl, rfl⟩)
        | (refine ⟨trivial, ?_⟩; gi_at_call 21; refine (callsIn_wide.2 (lost_nil _)).mono ?_; rintro e w' ⟨rfl, rfl⟩)
        | (refine ⟨trivial, ?_⟩; gi_at_call 17; refine (callsIn_wide.2 (fork_nil _)).mono ?_; rintro e w' ⟨rfl, rfl⟩))
      all_goals
        refine ⟨by simp, .inl ⟨_, _, rfl, run_takeDeferred HKS.out, ?_⟩⟩
        refine ⟨by simp, .inl ⟨_, _, rfl, run_takeDeferred HDS.out, ?_⟩⟩
        refine ⟨.bool true, ?_, rfl, HE.out⟩
        simp [results, Try.f5, go_sem, HCE.out]
end Go.Proofs.Ytnhlmpomgbpoiaa
