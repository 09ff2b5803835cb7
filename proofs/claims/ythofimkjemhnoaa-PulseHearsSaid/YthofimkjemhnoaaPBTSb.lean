/- Rows of a key and a thing; what BinarySearchFunc answers where both are numbers. -/
import Derived.Test.YthofimkjemhnoaaPBTSa
namespace Go.Proofs.Ythofimkjemhnoaa
open Go.RowKit
set_option linter.unusedSimpArgs false
set_option linter.unusedVariables false
section
variable {κ ν : Type} (ek : κ → Value) (ev : ν → Value)
/-- The cells of keys and things. -/
def fl (ls : List (κ × ν)) : List Value := ls.flatMap fun x => [ek x.1, ev x.2]
theorem fl_cons (x : κ × ν) (ls : List (κ × ν)) : fl ek ev (x :: ls) = ek x.1 :: ev x.2 :: fl ek ev ls := rfl
theorem fl_append (a b : List (κ × ν)) : fl ek ev (a ++ b) = fl ek ev a ++ fl ek ev b := List.flatMap_append
theorem fl_len : ∀ ls : List (κ × ν), (fl ek ev ls).length = ls.length * 2
  | [] => rfl
  | x :: ls => by rw [fl_cons, List.length_cons, List.length_cons, fl_len ls, List.length_cons]; omega
theorem fl_take : ∀ (ls : List (κ × ν)) (i : Nat), (fl ek ev ls).take (i * 2) = fl ek ev (ls.take i)
  | [], i => by simp [fl]
  | x :: ls, 0 => by simp [fl]
  | x :: ls, i + 1 => by
    rw [fl_cons, List.take_succ_cons, fl_cons, ← fl_take ls i, show (i + 1) * 2 = i * 2 + 1 + 1 by omega, List.take_succ_cons, List.take_succ_cons]
theorem fl_drop : ∀ (ls : List (κ × ν)) (i : Nat), (fl ek ev ls).drop (i * 2) = fl ek ev (ls.drop i)
  | [], i => by simp [fl]
  | x :: ls, 0 => by simp [fl]
  | x :: ls, i + 1 => by
    rw [fl_cons, List.drop_succ_cons, ← fl_drop ls i, show (i + 1) * 2 = i * 2 + 1 + 1 by omega, List.drop_succ_cons, List.drop_succ_cons]
theorem fl_key : ∀ (ls : List (κ × ν)) (i : Nat) (x : κ × ν), ls[i]? = some x → (fl ek ev ls)[i * 2]? = some (ek x.1)
  | [], i, x, h => by simp at h
  | y :: ls, 0, x, h => by
    simp only [List.getElem?_cons_zero, Option.some.injEq] at h
    subst h; rfl
  | y :: ls, i + 1, x, h => by
    rw [fl_cons, show (i + 1) * 2 = i * 2 + 1 + 1 by omega, List.getElem?_cons_succ, List.getElem?_cons_succ, fl_key ls i x (by simpa using h)]
theorem fl_val : ∀ (ls : List (κ × ν)) (i : Nat) (x : κ × ν), ls[i]? = some x → (fl ek ev ls)[i * 2 + 1]? = some (ev x.2)
  | [], i, x, h => by simp at h
  | y :: ls, 0, x, h => by
    simp only [List.getElem?_cons_zero, Option.some.injEq] at h
    subst h; rfl
  | y :: ls, i + 1, x, h => by
    rw [fl_cons, show (i + 1) * 2 + 1 = i * 2 + 1 + 1 + 1 by omega, List.getElem?_cons_succ, List.getElem?_cons_succ, fl_val ls i x (by simpa using h)]
theorem fl_one (hk : ∀ k, (ek k).oneCell' = true) (hv : ∀ k, (ev k).oneCell' = true) (ls : List (κ × ν)) : ∀ u ∈ fl ek ev ls, u.oneCell' = true := fun u hu => by
  obtain ⟨x, _, h⟩ := List.mem_flatMap.1 hu
  simp only [List.mem_cons, List.not_mem_nil, or_false] at h
  rcases h with rfl | rfl
  · exact hk _
  · exact hv _
end
def eI (k : Int) : Value := .int .i64 k
/-- The keys rise. -/
def Rise {ν : Type} (ls : List (Int × ν)) : Prop := ∀ (i j : Nat) (x y : Int × ν), i < j → ls[i]? = some x → ls[j]? = some y → x.1 < y.1
/-- How many keys at the head are less than one. -/
def plcI {ν : Type} (q : Int) : List (Int × ν) → Nat
  | [] => 0
  | x :: ls => if x.1 < q then plcI q ls + 1 else 0
theorem plcI_le {ν : Type} (q : Int) : ∀ ls : List (Int × ν), plcI q ls ≤ ls.length
  | [] => Nat.le_refl _
  | x :: ls => by unfold plcI; have := plcI_le q ls; split <;> simp <;> omega
theorem plcI_at {ν : Type} (q : Int) : ∀ (ls : List (Int × ν)) (k : Nat), k ≤ ls.length → (∀ i x, i < k → ls[i]? = some x → x.1 < q) → (∀ x, ls[k]? = some x → ¬ x.1 < q) → plcI q ls = k
  | [], k, hk, _, _ => by simp at hk; subst hk; rfl
  | x :: ls, 0, _, _, h => by unfold plcI; rw [if_neg (h x rfl)]
  | x :: ls, k + 1, hk, h1, h => by
    unfold plcI
    rw [if_pos (h1 0 x (by omega) rfl), plcI_at q ls k (by simpa using hk) (fun i y hi hy => h1 (i + 1) y (by omega) (by simpa using hy)) (fun y hy => h y (by simpa using hy))]
/-- Is a key there, at its place? -/
def hasI {ν : Type} (q : Int) (ls : List (Int × ν)) : Bool := match ls[plcI q ls]? with | some x => decide (x.1 = q) | none => false
theorem hasI_some {ν : Type} {q : Int} {ls : List (Int × ν)} {k : Nat} {x : Int × ν} (h : plcI q ls = k) (hx : ls[k]? = some x) : hasI q ls = decide (x.1 = q) := by unfold hasI; rw [h, hx]
theorem hasI_none {ν : Type} {q : Int} {ls : List (Int × ν)} (h : plcI q ls = ls.length) : hasI q ls = false := by unfold hasI; rw [h, List.getElem?_eq_none (Nat.le_refl _)]

set_option maxRecDepth 100000 in
set_option maxHeartbeats 2000000 in
theorem bsA (w : World) (base n : Nat) (v : Value) (ls : List (Int × Int)) (q : Int) (hown : w.ownsRow base 98 2 v n (fl eI eI ls)) (hn : n ≤ 100000) (hs : Rise ls) :
    Calls Try.prog 60 #[v, .int .i64 q, .func (Fn.func 61) #[] #[]] w fun e w' => e = .returned (.tuple #[.int .i64 (plcI q ls : Nat), .bool (hasI q ls)]) ∧ Below w.heap.size w w' := by
  have hl := hown.1
  rw [fl_len] at hl
  have hln : ls.length = n := by omega
  rcases Nat.eq_zero_or_pos n with h0 | h0
  · subst h0
    obtain rfl := List.eq_nil_of_length_eq_zero hln
    have e1 : plcI q ([] : List (Int × Int)) = 0 := rfl
    have e2 : hasI q ([] : List (Int × Int)) = false := rfl
    rw [e1, e2]
    rcases hown.2 with ⟨rfl, _⟩ | ⟨g, cap, cur, rfl, _⟩
    all_goals
      clear hown hl hln e1 e2
      go_enter Try.func60, Try.ntmps60
      go_wp2_with fail
      go_loopw [9, 10] (fun i j wr => i = .int .i64 0 ∧ j = .int .i64 0 ∧ wr = w) (fun _ _ _ => 0)
      case atStart => exact ⟨rfl, rfl, rfl⟩
      case round =>
        obtain ⟨rfl, rfl, rfl⟩ := hrel
        go_wp2_with fail
        go_ret2
        exact ⟨rfl, Below.refl _ _⟩
  · obtain ⟨g, cap, cur, rfl, hbg, _, hnc, hm, _⟩ := own_some hown h0
    simp only [maxLen] at hm
    have hid := fun (j : Nat) (hj : j ≤ n) (h1 : ∀ i x, i < j → ls[i]? = some x → x.1 < q) (h2 : ∀ x, ls[j]? = some x → q ≤ x.1) => plcI_at q ls j (by omega) h1 (fun x hx => by have := h2 x hx; omega)
    have hR2 := fun (j : Nat) (x : Int × Int) (h : plcI q ls = j) (hx : ls[j]? = some x) => hasI_some h hx
    have hR3 := fun (h : plcI q ls = n) => hasI_none (h.trans hln.symm)
    generalize hR : plcI q ls = R at *
    generalize hB : hasI q ls = B at *
    have HID := Lib.hid hid
    have HR2 := Lib.hid hR2
    have HR3 := Lib.hid hR3
    have HO := Lib.hid hown
    have HLN := Lib.hid hln
    have HS := Lib.hid hs
    have hat := Lib.hid (fun (j : Nat) (hj : j < n) => (⟨_, List.getElem?_eq_getElem (by rw [HLN.out]; exact hj)⟩ : ∃ x, ls[j]? = some x))
    clear hid hown hl hln hR hB hs hR2 hR3
    go_enter Try.func60, Try.ntmps60
    go_wp2_with fail
    go_loopw [9, 10] (fun i j wr => ∃ lo hi : Nat, i = .int .i64 lo ∧ j = .int .i64 hi ∧ lo ≤ hi ∧ hi ≤ n ∧ Hid (∀ i x, i < lo → ls[i]? = some x → x.1 < q) ∧ Hid (∀ i x, hi ≤ i → ls[i]? = some x → q ≤ x.1) ∧ Hid (Below w.heap.size w wr)) (fun i j _ => (intOf j - intOf i).toNat)
    case atStart => exact ⟨0, n, rfl, rfl, Nat.zero_le _, Nat.le_refl _, Lib.hid (fun i x h => absurd h (Nat.not_lt_zero _)), Lib.hid (fun i x h hx => by have := (List.getElem?_eq_some_iff.1 hx).1; rw [HLN.out] at this; omega), Lib.hid (Below.refl _ _)⟩
    case round =>
      obtain ⟨lo, hi, rfl, rfl, hlh, hin, H1, H2, hb⟩ := hrel
      by_cases hlt : lo < hi
      · obtain ⟨x, hx⟩ := hat.out ((lo + hi) / 2) (by omega)
        have hown2 := HO.out.kept (grown_below none hb.out) (.inr (by simp [Value.ownBlock]))
        have c0 := own_cell hown2 (k := (lo + hi) / 2 * 2) (by omega)
        have c1 := own_cell hown2 (k := (lo + hi) / 2 * 2 + 1) (by omega)
        rw [fl_key eI eI ls _ x hx] at c0
        rw [fl_val eI eI ls _ x hx] at c1
        simp only [eI] at c0 c1
        have hcall := fun w => place1A w x.1 x.2 q
        have hno : x.1 < q → ∀ i y, i < (lo + hi) / 2 + 1 → ls[i]? = some y → y.1 < q := fun hq i y hii hy => by
          by_cases e : i = (lo + hi) / 2
          · subst e; rw [hx] at hy; cases hy; exact hq
          · have := HS.out i _ y x (by omega) hy hx; omega
        have hyes : q ≤ x.1 → ∀ i y, (lo + hi) / 2 ≤ i → ls[i]? = some y → q ≤ y.1 := fun hq i y hii hy => by
          by_cases e : i = (lo + hi) / 2
          · subst e; rw [hx] at hy; cases hy; exact hq
          · have := HS.out _ i x y (by omega) hx hy; omega
        have hcn := @cmpI_neg x.1 q
        generalize cmpI x.1 q = c at hcall hcn
        obtain ⟨k, u⟩ := x
        simp only at hcall hcn hno hyes c0 c1
        have HC := Lib.hid hcall
        have HN := Lib.hid hno
        have HY := Lib.hid hyes
        have HCN := Lib.hid hcn
        clear hx hown2 hcall hno hyes hcn
        have hm1 : (lo + hi) / 2 < n := by omega
        by_cases hc : c < 0
        · have HN2 := Lib.hid (HN.out (HCN.out.1 hc))
          clear HY HN
          go_wp2_with fail
          refine (HC.out _).mono ?_
          rintro e w2 ⟨rfl, hb2⟩
          have HBB := Lib.hid (hb.out.trans (hb2.mono hb.out.size))
          clear hb2 c0 c1
          go_wp2_with fail
          exact ⟨⟨(lo + hi) / 2 + 1, hi, by rw [show ((lo : Int) + (hi : Int)) / 2 + 1 = (((lo + hi) / 2 + 1 : Nat) : Int) by omega], rfl, by omega, hin, HN2, H2, HBB⟩, by simp [intOf]; omega⟩
        · have HN2 := Lib.hid (HY.out (Int.not_lt.1 fun h => hc (HCN.out.2 h)))
          clear HY HN
          go_wp2_with fail
          refine (HC.out _).mono ?_
          rintro e w2 ⟨rfl, hb2⟩
          have HBB := Lib.hid (hb.out.trans (hb2.mono hb.out.size))
          clear hb2 c0 c1
          go_wp2_with fail
          exact ⟨⟨lo, (lo + hi) / 2, rfl, by rw [show ((lo : Int) + (hi : Int)) / 2 = (((lo + hi) / 2 : Nat) : Int) by omega], by omega, by omega, H1, HN2, HBB⟩, by simp [intOf]; omega⟩
      · obtain rfl : hi = lo := by omega
        have hRe : R = hi := (HID.out hi hin H1.out (fun x hx => H2.out hi x (Nat.le_refl _) hx))
        subst hRe
        by_cases hn : R < n
        · obtain ⟨x, hx⟩ := hat.out R hn
          have hBe := HR2.out R x rfl hx
          have hown2 := HO.out.kept (grown_below none hb.out) (.inr (by simp [Value.ownBlock]))
          have c0 := own_cell hown2 (k := R * 2) (by omega)
          have c1 := own_cell hown2 (k := R * 2 + 1) (by omega)
          rw [fl_key eI eI ls _ x hx] at c0
          rw [fl_val eI eI ls _ x hx] at c1
          simp only [eI] at c0 c1
          have hcall := fun w => place1A w x.1 x.2 q
          have hcz := @cmpI_zero x.1 q
          generalize cmpI x.1 q = c at hcall hcz
          obtain ⟨k, u⟩ := x
          simp only at hcall hcz hBe c0 c1
          have hBc : B = decide (c = 0) := by rw [hBe]; exact decide_eq_decide.2 hcz.symm
          have HC := Lib.hid hcall
          have HBE := Lib.hid hBc
          clear hx hown2 hcall hcz hBe hBc
          by_cases hc : c = 0
          · go_wp2_with fail
            refine (HC.out _).mono ?_
            rintro e w2 ⟨rfl, hb2⟩
            have HBB := Lib.hid (hb.out.trans (hb2.mono hb.out.size))
            clear hb2 c0 c1
            go_wp2_with fail
            go_ret2
            exact ⟨by rw [HBE.out]; simp [hc], HBB.out⟩
          · go_wp2_with fail
            refine (HC.out _).mono ?_
            rintro e w2 ⟨rfl, hb2⟩
            have HBB := Lib.hid (hb.out.trans (hb2.mono hb.out.size))
            clear hb2 c0 c1
            go_wp2_with fail
            go_ret2
            exact ⟨by rw [HBE.out]; simp [hc], HBB.out⟩
        · have hBe := HR3.out (by omega)
          subst hBe
          go_wp2_with fail
          go_ret2
          exact ⟨rfl, hb.out⟩
end Go.Proofs.Ythofimkjemhnoaa