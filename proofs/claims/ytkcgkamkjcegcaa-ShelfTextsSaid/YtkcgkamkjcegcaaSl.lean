/- A slice of texts that came in; the walk of ShelfTexts. -/
import Derived.Test.YtkcgkamkjcegcaaSk
import Derived.SliceStrings
namespace Go.Proofs.Ytkcgkamkjcegcaa
open Go.RowKit Go.ChangeShapes

/-- The slice '.slice A n c' of texts reads as ss, in a block below B. -/
structure Texts (w : World) (B : Nat) (A : Option Addr) (n c : Nat) (ss : List ByteArray) : Prop where
  len : ss.length = n
  cap : n ≤ c
  max : c ≤ maxLen
  sz : ∀ s ∈ ss, s.size ≤ maxLen
  cells : 0 < n → ∃ b off, A = some ⟨b, off, none⟩ ∧ b < B ∧ ∀ j, j < n → w.cell? ⟨b, off + j, none⟩ = some (.string (ss.getD j ByteArray.empty))
section
variable {w w' : World} {B B' n c : Nat} {A : Option Addr} {ss : List ByteArray}
theorem Texts.keep (h : Texts w B A n c ss) (hk : ∀ b o, b < B → w'.cell? ⟨b, o, none⟩ = w.cell? ⟨b, o, none⟩) : Texts w' B A n c ss :=
  ⟨h.len, h.cap, h.max, h.sz, fun hn => by
    obtain ⟨b, off, e, hb, hc⟩ := h.cells hn
    exact ⟨b, off, e, hb, fun j hj => (hk b _ hb).trans (hc j hj)⟩⟩
theorem Texts.below (h : Texts w B A n c ss) (hb : Below B w w') : Texts w' B A n c ss := h.keep fun b o hlt => hb.cell (p := ⟨b, o, none⟩) hlt
theorem Texts.take (h : Texts w B A n c ss) {k : Nat} (hk : k ≤ n) : Texts w B A k c (ss.take k) :=
  ⟨by rw [List.length_take, h.len]; omega, by have := h.cap; omega, h.max, fun x hx => h.sz x (List.mem_of_mem_take hx), fun h0 => by
    obtain ⟨b, off, e, hb, hc⟩ := h.cells (by omega)
    refine ⟨b, off, e, hb, fun j hj => ?_⟩
    rw [hc j (by omega)]
    simp [List.getD, hj]⟩
end
theorem texts_of_trod {H : Type} {enc : TypeId × Value → H} {w : World} {fuel : Nat} {A : Option Addr} {n c : Nat} {x : DataW H × List MemPlace} (h : DataW.trod enc Try.prog w 0 (fun _ => true) true fuel 48 [.slice A n c] = some x) : ∃ ss, Texts w w.heap.size A n c ss := by
  rcases open_strings Try.underlying48 Try.underlying9 (by kernel_rfl) h with ⟨hcs, _⟩ | ⟨a, len, cap, ss, hcs, _, hl, hm, hz, _, hcell, hsz⟩
  · simp at hcs
    obtain ⟨rfl, rfl, rfl⟩ := hcs
    exact ⟨[], rfl, Nat.le_refl _, by simp [maxLen], by simp, fun h0 => absurd h0 (by omega)⟩
  · simp at hcs
    obtain ⟨rfl, rfl, rfl⟩ := hcs
    simp at hz
    refine ⟨ss.take n, by rw [List.length_take]; omega, hl, hm, fun s hs => hsz s (List.mem_of_mem_take hs), fun h0 => ?_⟩
    obtain ⟨b, off, spot⟩ := a
    have h1 := hcell 0 (by omega)
    have hspot : spot = none := by simpa [Addr.add] using World.cell?_spot h1
    subst hspot
    refine ⟨b, off, rfl, ?_, fun j hj => ?_⟩
    · have h2 := block_lt_of_cell h1
      simpa [Addr.add] using h2
    · have h3 := hcell j (by omega)
      rw [add_plainR] at h3
      rw [h3]
      simp [List.getD, hj]


theorem tab_atC (w0 w : World) (g i : Nat) (ls : List (ByteArray × Int)) (x : ByteArray × Int) (h : TabAt 81 83 w0 g ls.length (fl eS eI ls) w) (hn : ls.length ≤ 1000) (hx : ls[i]? = some x) :
    Calls Try.prog 28 #[.pointer (some ⟨g, 0, none⟩), .int .i64 (i : Nat)] w fun e w' => e = .returned (.tuple #[.string x.1, .int .i64 x.2, .bool true]) ∧ TabAt 81 83 w0 g ls.length (fl eS eI ls) w' := by
  obtain ⟨v, hv⟩ := h.tab
  refine (atC w w0.heap.size g i ls v x hv hn hx).mono ?_
  rintro e w' ⟨rfl, hb⟩
  exact ⟨rfl, h.step hb⟩
/-- The table of the first j texts. -/
def TT (w : World) (S : List ByteArray) (j : Nat) (wr : World) : Prop := TabAt 81 83 w w.heap.size (tabS S j).length (fl eS eI (tabS S j)) wr
theorem ne_list {a b : ByteArray} (h : a ≠ b) : (a.toList == b.toList) = false := by rw [beq_eq_false_iff_ne]; exact fun e => h (toList_inj e)
set_option maxRecDepth 100000 in
set_option maxHeartbeats 4000000 in
theorem shelfTexts_walk (A : Option Addr) (n c : Nat) (ss : List ByteArray) (w : World) (h0 : Texts w w.heap.size A n c ss) :
    Calls Try.prog 6 #[.slice A n c] w fun e w' => e = .returned (.bool true) ∧ Below w.heap.size w w' := by
  have hcap := h0.cap
  have hmax := h0.max
  simp only [maxLen] at hmax
  obtain ⟨K, hK⟩ : ∃ K : Nat, (n ≤ 30 ∧ K = n) ∨ (30 < n ∧ K = 30) := by
    rcases Nat.lt_or_ge 30 n with h | h
    · exact ⟨30, .inr ⟨h, rfl⟩⟩
    · exact ⟨n, .inl ⟨h, rfl⟩⟩
  have hle : K ≤ n ∧ K ≤ 30 := by omega
  have h := h0.take hle.1
  generalize ss.take K = S at h
  clear h0
  have HT := Lib.hid h
  have HR := Lib.hid (fun j => tabS_rise S j)
  have hlk := fun j => tabS_len S j
  have HLK := Lib.hid hlk
  have HPU := Lib.hid (fun (W : World) (j : Nat) (hj : j < K) (h : TT w S j W) => show ∃ r, Calls Try.prog 25 #[.pointer (some ⟨w.heap.size, 0, none⟩), .string (S.getD j ByteArray.empty), .int .i64 (j : Int)] W fun e w' => e = .returned (.bool r) ∧ TT w S (j + 1) w' from
    ⟨_, (tab_putC w W w.heap.size (tabS S j) (S.getD j ByteArray.empty) (j : Int) h (by have := hlk j; omega) (tabS_rise S j)).mono fun e w' ⟨a, b, _⟩ => ⟨a, b⟩⟩)
  have HGE := Lib.hid (fun (W : World) (q : ByteArray) (j : Nat) (hm : (q, (j : Int)) ∈ tabS S K) (h : TT w S K W) => show Calls Try.prog 26 #[.pointer (some ⟨w.heap.size, 0, none⟩), .string q] W fun e w' => e = .returned (.tuple #[.int .i64 (j : Int), .bool true]) ∧ TT w S K w' from by
    have hg := tab_getC w W w.heap.size (tabS S K) q h (by have := hlk K; omega) (tabS_rise S K)
    rw [thS_of (tabS_rise S K) hm, (hasS_iff (tabS_rise S K)).2 ⟨_, hm, rfl⟩] at hg
    exact hg.mono fun e w' ⟨a, b, _⟩ => ⟨a, b⟩)
  have HAT := Lib.hid (fun (W : World) (i : Nat) (x : ByteArray × Int) (hx : (tabS S K)[i]? = some x) (h : TT w S K W) => tab_atC w W w.heap.size i (tabS S K) x h (by have := hlk K; omega) hx)
  have HLN := Lib.hid (fun (W : World) (h : TT w S K W) => tab_lenC w W w.heap.size (tabS S K).length (fl eS eI (tabS S K)) h)
  have hL : (tabS S K).length ≤ 30 := by have := hlk K; omega
  clear h hlk
  generalize hLL : (tabS S K).length = L at hL
  have HLL := Lib.hid hLL
  clear hLL
  have hsl : Hid (∀ W, TT w S K W → Calls Try.prog 27 #[.pointer (some ⟨w.heap.size, 0, none⟩)] W fun e w' => e = .returned (.int .i64 (L : Int)) ∧ w' = W) := Lib.hid (fun W h => by have := HLN.out W h; rw [HLL.out] at this; exact this)
  clear HLN
  have hKn : (min (n : Int) 30).toNat = K := by omega
  clear hK
  go_enter Try.func6, Try.ntmps6
  go_wp2_with fail
  refine (tab_newC w w (Below.refl _ _)).mono ?_
  rintro e w1 ⟨rfl, hx, _⟩
  have HX := Lib.hid (show TT w S 0 w1 from hx)
  clear hx
  go_wp2_with fail
  clear hKn
  go_loopw [4] (fun i wr => ∃ j : Nat, j ≤ K ∧ i = .int .i64 j ∧ Hid (TT w S j wr)) (fun i _ => K - (intOf i).toNat)
  case atStart => exact ⟨0, Nat.zero_le _, rfl, HX⟩
  case round =>
    obtain ⟨j, hj, rfl, HY⟩ := hrel
    by_cases hlt : j < K
    · have ht := HT.out.below HY.out.below
      obtain ⟨b, off, rfl, hbb, hc⟩ := ht.cells (by omega)
      have c0 := hc j hlt
      obtain ⟨r, hp⟩ := HPU.out _ j hlt HY.out
      generalize S.getD j ByteArray.empty = q at c0 hp
      have HP := Lib.hid hp
      clear ht hc hp
      go_wp2_with fail
      refine HP.out.mono ?_
      rintro e w2 ⟨rfl, hx⟩
      have HX2 := Lib.hid hx
      clear hx c0
      go_wp2_with fail
      exact ⟨⟨j + 1, by omega, by go_num, HX2⟩, by simp [intOf]; omega⟩
    · obtain rfl : j = K := by omega
      go_wp2_with fail
      go_loopw [5] (fun i wr => ∃ i' : Nat, i' ≤ j ∧ i = .int .i64 i' ∧ Hid (TT w S j wr)) (fun i _ => j - (intOf i).toNat)
      case atStart => exact ⟨0, Nat.zero_le _, rfl, HY⟩
      case round =>
        clear HY HX
        obtain ⟨i, hi, rfl, HY⟩ := hrel
        by_cases hli : i < j
        · have hqi := Lib.hid (show Texts wr w.heap.size A j c S from HT.out.below HY.out.below)
          go_wp2_with fail
          go_loopw [6, 7] (fun l k wr => ∃ p q : Nat, i ≤ q ∧ i ≤ p ∧ p < j ∧ q ≤ j ∧ l = .int .i64 p ∧ k = .int .i64 q ∧ Hid (S.getD p ByteArray.empty = S.getD i ByteArray.empty) ∧ Hid (∀ t, p < t → t < q → S.getD t ByteArray.empty ≠ S.getD i ByteArray.empty) ∧ Hid (TT w S j wr)) (fun _ k _ => j - (intOf k).toNat)
          case atStart => exact ⟨i, i, Nat.le_refl _, Nat.le_refl _, hli, by omega, rfl, rfl, Lib.hid rfl, Lib.hid (fun t h1 h2 => absurd h2 (by omega)), HY⟩
          case round =>
            clear HY hqi
            obtain ⟨p, q, hiq, hip, hpj, hqj, rfl, rfl, HE, HN, HY⟩ := hrel
            by_cases hlq : q < j
            · have ht := HT.out.below HY.out.below
              obtain ⟨b, off, rfl, hbb, hc⟩ := ht.cells (by omega)
              have c0 := hc q hlq
              have c1 := hc i hli
              have hst := fun (h : S.getD q ByteArray.empty ≠ S.getD i ByteArray.empty) => show ∀ t, p < t → t < q + 1 → S.getD t ByteArray.empty ≠ S.getD i ByteArray.empty from fun t h1 h2 => by
                by_cases e : t = q
                · subst e; exact h
                · exact HN.out t h1 (by omega)
              by_cases hxy : S.getD q ByteArray.empty = S.getD i ByteArray.empty
              · have HXY := Lib.hid hxy
                rw [hxy] at c0
                generalize hyy : S.getD i ByteArray.empty = y at c0 c1
                have HYY := Lib.hid hyy
                clear ht hc hst hxy hyy
                go_wp2_with fail
                go_quiet (fail)
                have HY2 := Lib.hid (HY.out.step (below_drewN (Below.refl _ _) nq))
                clear c0 c1
                go_wp2_with fail
                obtain rfl := HYY.out
                exact ⟨⟨q, q + 1, by omega, by omega, hlq, by omega, by go_num, by go_num, HXY, Lib.hid (fun t h1 h2 => absurd h2 (by omega)), HY2⟩, by simp [intOf]; omega⟩
              · have HXY := Lib.hid (hst hxy)
                have hne := ne_list hxy
                generalize hyy : S.getD i ByteArray.empty = y at c1 hne
                have HYY := Lib.hid hyy
                generalize S.getD q ByteArray.empty = x at c0 hne
                clear ht hc hst hxy hyy
                go_wp2_with fail
                go_quiet (fail)
                have HY2 := Lib.hid (HY.out.step (below_drewN (Below.refl _ _) nq))
                clear c0 c1
                go_wp2_with fail
                obtain rfl := HYY.out
                exact ⟨⟨p, q + 1, by omega, by omega, hpj, by omega, by go_num, by go_num, HE, HXY, HY2⟩, by simp [intOf]; omega⟩
            · obtain rfl : q = j := by omega
              have ht := HT.out.below HY.out.below
              obtain ⟨b, off, rfl, hbb, hc⟩ := ht.cells (by omega)
              have c1 := hc i hli
              have hg := HGE.out _ _ p (tabS_last S _ p HE.out q hpj HN.out) HY.out
              generalize S.getD i ByteArray.empty = y at c1 hg
              have HG := Lib.hid hg
              clear ht hc hg
              go_wp2_with fail
              refine HG.out.mono ?_
              rintro e w2 ⟨rfl, hx⟩
              have HX2 := Lib.hid hx
              clear hx c1
              go_wp2_with fail
              exact ⟨⟨i + 1, by omega, by go_num, HX2⟩, by simp [intOf]; omega⟩
        · go_wp2_with fail
          go_loopw [10] (fun i wr => ∃ m : Nat, i = .int .i64 ((m : Int) + 1) ∧ m ≤ L ∧ Hid (TT w S j wr)) (fun i _ => L + 1 - (intOf i).toNat)
          case atStart => exact ⟨0, rfl, Nat.zero_le _, HY⟩
          case round =>
            clear HY
            obtain ⟨m, rfl, hmL, HY⟩ := hrel
            by_cases hlm : m + 1 < L
            · obtain ⟨x, hx⟩ : ∃ x, (tabS S j)[m]? = some x := ⟨_, List.getElem?_eq_getElem (by rw [HLL.out]; omega)⟩
              obtain ⟨y, hy⟩ : ∃ y, (tabS S j)[m + 1]? = some y := ⟨_, List.getElem?_eq_getElem (by rw [HLL.out]; exact hlm)⟩
              have hxy : Op.bytesLess x.1.toList y.1.toList = true := HR.out j m (m + 1) x y (by omega) hx hy
              have ha := fun W h => HAT.out W m x hx h
              have hb := fun W h => HAT.out W (m + 1) y hy h
              simp only [Int.natCast_add, Int.natCast_one] at hb
              obtain ⟨xk, xv⟩ := x
              obtain ⟨yk, yv⟩ := y
              have HA := Lib.hid ha
              have HB := Lib.hid hb
              have hmI : (m : Int) + 1 < (L : Int) := by omega
              simp only at hxy
              clear hx hy ha hb
              go_wp2_with fail
              refine (hsl.out _ HY.out).mono ?_
              rintro e w2 ⟨rfl, rfl⟩
              go_wp2_with fail
              refine (HA.out _ HY.out).mono ?_
              rintro e w3 ⟨rfl, hx⟩
              have HX3 := Lib.hid hx
              clear hx HY
              go_wp2_with fail
              refine (HB.out _ HX3.out).mono ?_
              rintro e w4 ⟨rfl, hx⟩
              have HX4 := Lib.hid hx
              clear hx HX3
              go_wp2_with fail
              exact ⟨⟨m + 1, by go_num, by omega, HX4⟩, by simp [intOf]; omega⟩
            · have hmI : ¬ ((m : Int) + 1 < (L : Int)) := by omega
              go_wp2_with fail
              refine (hsl.out _ HY.out).mono ?_
              rintro e w2 ⟨rfl, rfl⟩
              go_wp2_with fail
              refine (live_any _).mono ?_
              rintro e w3 ⟨rfl, hb⟩
              have HBB := Lib.hid (kF hb HY.out.below)
              clear hb HY
              go_wp2_with fail
              go_ret
              exact ⟨rfl, HBB.out⟩
end Go.Proofs.Ytkcgkamkjcegcaa
