/- What Place's closure and BinarySearchFunc answer where keys are numbers and things texts. -/
import Derived.Test.YtobigmcfbkgmbaaSb
namespace Go.Proofs.Ytobigmcfbkgmbaa
open Go.RowKit

def eS (k : ByteArray) : Value := .string k
theorem place1B (w : World) (k : Int) (v : ByteArray) (q : Int) :
    Calls Try.prog 49 #[.agg #[.int .i64 k, .string v], .int .i64 q] w fun e w' => e = .returned (.int .i64 (cmpI k q)) ∧ Below w.heap.size w w' := by
  have hb : Below w.heap.size w (w.alloc (.cells #[.int .i64 k, .string v] 79)) := (Below.refl _ _).alloc (Nat.le_refl _) _
  have hx : (w.alloc (.cells #[.int .i64 k, .string v] 79)).heap[w.heap.size]? = some (.cells #[.int .i64 k, .string v] 79 (0, 0)) := heap_alloc_new w _
  have c0 : (w.alloc (.cells #[.int .i64 k, .string v] 79)).cell? ⟨w.heap.size, 0, none⟩ = some (.int .i64 k) := by rw [cell_of_row _ _ _ _ _ _ hx]; rfl
  have hc := fun w => cmp_int w k q
  have HB := Lib.hid hb
  have HC := Lib.hid hc
  clear hb hx hc
  go_enter Try.func49, Try.ntmps49
  go_wp2_with fail
  generalize w.alloc (.cells #[.int .i64 k, .string v] 79) = w0 at *
  refine (HC.out _).mono ?_
  rintro e w1 ⟨rfl, rfl⟩
  go_wp2_with fail
  go_ret
  exact ⟨rfl, HB.out⟩
set_option maxRecDepth 100000 in
set_option maxHeartbeats 2000000 in
theorem bsB (w : World) (base n : Nat) (v : Value) (ls : List (Int × ByteArray)) (q : Int) (hown : w.ownsRow base 79 2 v n (fl eI eS ls)) (hn : n ≤ 100000) (hs : Rise ls) :
    Calls Try.prog 48 #[v, .int .i64 q, .func (Fn.func 49) #[] #[]] w fun e w' => e = .returned (.tuple #[.int .i64 (plcI q ls : Nat), .bool (hasI q ls)]) ∧ Below w.heap.size w w' := by
  have hl := hown.1
  rw [fl_len] at hl
  have hln : ls.length = n := by omega
  rcases Nat.eq_zero_or_pos n with h0 | h0
  · subst h0
    obtain rfl := List.eq_nil_of_length_eq_zero hln
    have e1 : plcI q ([] : List (Int × ByteArray)) = 0 := rfl
    have e2 : hasI q ([] : List (Int × ByteArray)) = false := rfl
    rw [e1, e2]
    rcases hown.2 with ⟨rfl, _⟩ | ⟨g, cap, cur, rfl, _⟩
    all_goals
      clear hown hl hln e1 e2
      go_enter Try.func48, Try.ntmps48
      go_wp2_with fail
      go_loopw [9, 10] (fun i j wr => i = .int .i64 0 ∧ j = .int .i64 0 ∧ wr = w) (fun _ _ _ => 0)
      case atStart => exact ⟨rfl, rfl, rfl⟩
      case round =>
        obtain ⟨rfl, rfl, rfl⟩ := hrel
        go_wp2_with fail
        go_ret2
        exact ⟨rfl, Below.refl _ _⟩
  · obtain ⟨g, cap, cur, rfl, hbg, _, hnc, hm, _⟩ := own_some hown h0
    simp only [maxLen] at hm
    have hid := fun (j : Nat) (hj : j ≤ n) (h1 : ∀ i x, i < j → ls[i]? = some x → x.1 < q) (h2 : ∀ x, ls[j]? = some x → q ≤ x.1) => plcI_at q ls j (by omega) h1 (fun x hx => by have := h2 x hx; omega)
    have hR2 := fun (j : Nat) (x : Int × ByteArray) (h : plcI q ls = j) (hx : ls[j]? = some x) => hasI_some h hx
    have hR3 := fun (h : plcI q ls = n) => hasI_none (h.trans hln.symm)
    generalize hR : plcI q ls = R at *
    generalize hB : hasI q ls = B at *
    have HID := Lib.hid hid
    have HR2 := Lib.hid hR2
    have HR3 := Lib.hid hR3
    have HO := Lib.hid hown
    have HLN := Lib.hid hln
    have HS := Lib.hid hs
    have hat := Lib.hid (fun (j : Nat) (hj : j < n) => (⟨_, List.getElem?_eq_getElem (by rw [HLN.out]; exact hj)⟩ : ∃ x, ls[j]? = some x))
    clear hid hown hl hln hR hB hs hR2 hR3
    go_enter Try.func48, Try.ntmps48
    go_wp2_with fail
    go_loopw [9, 10] (fun i j wr => ∃ lo hi : Nat, i = .int .i64 lo ∧ j = .int .i64 hi ∧ lo ≤ hi ∧ hi ≤ n ∧ Hid (∀ i x, i < lo → ls[i]? = some x → x.1 < q) ∧ Hid (∀ i x, hi ≤ i → ls[i]? = some x → q ≤ x.1) ∧ Hid (Below w.heap.size w wr)) (fun i j _ => (intOf j - intOf i).toNat)
    case atStart => exact ⟨0, n, rfl, rfl, Nat.zero_le _, Nat.le_refl _, Lib.hid (fun i x h => absurd h (Nat.not_lt_zero _)), Lib.hid (fun i x h hx => by have := (List.getElem?_eq_some_iff.1 hx).1; rw [HLN.out] at this; omega), Lib.hid (Below.refl _ _)⟩
    case round =>
      obtain ⟨lo, hi, rfl, rfl, hlh, hin, H1, H2, hb⟩ := hrel
      by_cases hlt : lo < hi
      · obtain ⟨x, hx⟩ := hat.out ((lo + hi) / 2) (by omega)
        have hown2 := HO.out.kept (grown_below none hb.out) (.inr (by simp [Value.ownBlock]))
        have c0 := own_cell hown2 (k := (lo + hi) / 2 * 2) (by omega)
        have c1 := own_cell hown2 (k := (lo + hi) / 2 * 2 + 1) (by omega)
        rw [fl_key eI eS ls _ x hx] at c0
        rw [fl_val eI eS ls _ x hx] at c1
        simp only [eI, eS] at c0 c1
        have hcall := fun w => place1B w x.1 x.2 q
        have hno : x.1 < q → ∀ i y, i < (lo + hi) / 2 + 1 → ls[i]? = some y → y.1 < q := fun hq i y hii hy => by
          by_cases e : i = (lo + hi) / 2
          · subst e; rw [hx] at hy; cases hy; exact hq
          · have := HS.out i _ y x (by omega) hy hx; omega
        have hyes : q ≤ x.1 → ∀ i y, (lo + hi) / 2 ≤ i → ls[i]? = some y → q ≤ y.1 := fun hq i y hii hy => by
          by_cases e : i = (lo + hi) / 2
          · subst e; rw [hx] at hy; cases hy; exact hq
          · have := HS.out _ i x y (by omega) hx hy; omega
        have hcn := @cmpI_neg x.1 q
        generalize cmpI x.1 q = c at hcall hcn
        obtain ⟨k, u⟩ := x
        simp only at hcall hcn hno hyes c0 c1
        have HC := Lib.hid hcall
        have HN := Lib.hid hno
        have HY := Lib.hid hyes
        have HCN := Lib.hid hcn
        clear hx hown2 hcall hno hyes hcn
        have hm1 : (lo + hi) / 2 < n := by omega
        by_cases hc : c < 0
        · have HN2 := Lib.hid (HN.out (HCN.out.1 hc))
          clear HY HN
          go_wp2_with fail
          refine (HC.out _).mono ?_
          rintro e w2 ⟨rfl, hb2⟩
          have HBB := Lib.hid (hb.out.trans (hb2.mono hb.out.size))
          clear hb2 c0 c1
          go_wp2_with fail
          exact ⟨⟨(lo + hi) / 2 + 1, hi, by rw [show ((lo : Int) + (hi : Int)) / 2 + 1 = (((lo + hi) / 2 + 1 : Nat) : Int) by omega], rfl, by omega, hin, HN2, H2, HBB⟩, by simp [intOf]; omega⟩
        · have HN2 := Lib.hid (HY.out (Int.not_lt.1 fun h => hc (HCN.out.2 h)))
          clear HY HN
          go_wp2_with fail
          refine (HC.out _).mono ?_
          rintro e w2 ⟨rfl, hb2⟩
          have HBB := Lib.hid (hb.out.trans (hb2.mono hb.out.size))
          clear hb2 c0 c1
          go_wp2_with fail
          exact ⟨⟨lo, (lo + hi) / 2, rfl, by rw [show ((lo : Int) + (hi : Int)) / 2 = (((lo + hi) / 2 : Nat) : Int) by omega], by omega, by omega, H1, HN2, HBB⟩, by simp [intOf]; omega⟩
      · obtain rfl : hi = lo := by omega
        have hRe : R = hi := (HID.out hi hin H1.out (fun x hx => H2.out hi x (Nat.le_refl _) hx))
        subst hRe
        by_cases hn : R < n
        · obtain ⟨x, hx⟩ := hat.out R hn
          have hBe := HR2.out R x rfl hx
          have hown2 := HO.out.kept (grown_below none hb.out) (.inr (by simp [Value.ownBlock]))
          have c0 := own_cell hown2 (k := R * 2) (by omega)
          have c1 := own_cell hown2 (k := R * 2 + 1) (by omega)
          rw [fl_key eI eS ls _ x hx] at c0
          rw [fl_val eI eS ls _ x hx] at c1
          simp only [eI, eS] at c0 c1
          have hcall := fun w => place1B w x.1 x.2 q
          have hcz := @cmpI_zero x.1 q
          generalize cmpI x.1 q = c at hcall hcz
          obtain ⟨k, u⟩ := x
          simp only at hcall hcz hBe c0 c1
          have hBc : B = decide (c = 0) := by rw [hBe]; exact decide_eq_decide.2 hcz.symm
          have HC := Lib.hid hcall
          have HBE := Lib.hid hBc
          clear hx hown2 hcall hcz hBe hBc
          by_cases hc : c = 0
          · go_wp2_with fail
            refine (HC.out _).mono ?_
            rintro e w2 ⟨rfl, hb2⟩
            have HBB := Lib.hid (hb.out.trans (hb2.mono hb.out.size))
            clear hb2 c0 c1
            go_wp2_with fail
            go_ret2
            exact ⟨by rw [HBE.out]; simp [hc], HBB.out⟩
          · go_wp2_with fail
            refine (HC.out _).mono ?_
            rintro e w2 ⟨rfl, hb2⟩
            have HBB := Lib.hid (hb.out.trans (hb2.mono hb.out.size))
            clear hb2 c0 c1
            go_wp2_with fail
            go_ret2
            exact ⟨by rw [HBE.out]; simp [hc], HBB.out⟩
        · have hBe := HR3.out (by omega)
          subst hBe
          go_wp2_with fail
          go_ret2
          exact ⟨rfl, hb.out⟩
end Go.Proofs.Ytobigmcfbkgmbaa
