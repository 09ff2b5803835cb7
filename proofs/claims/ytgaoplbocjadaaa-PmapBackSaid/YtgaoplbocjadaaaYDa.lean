/- Rows of a number and an entry: their cells; what BinarySearchFunc answers. -/
import Derived.Test.YtgaoplbocjadaaaYDDel
namespace Go.Proofs.Ytgaoplbocjadaaa
open Go.RowKit
set_option linter.unusedSimpArgs false
set_option linter.unusedVariables false
/-- An entry: its spec, and its bytes. -/
structure Ent where
  k : Int
  a : Int
  lo : Int
  hi : Int
  b : List Int
deriving DecidableEq
def entV (x : Ent) : Value := .agg #[.int .i64 x.k, .int .i64 x.a, .int .i64 x.lo, .int .i64 x.hi, .string (strOfNums x.b)]
def e0 : Ent := ⟨0, 0, 0, 0, []⟩
def rowE (x : Int × Ent) : List Value := [.int .i64 x.1, .int .i64 x.2.k, .int .i64 x.2.a, .int .i64 x.2.lo, .int .i64 x.2.hi, .string (strOfNums x.2.b)]
def fe (ls : List (Int × Ent)) : List Value := ls.flatMap rowE
theorem rowE_len (x : Int × Ent) : (rowE x).length = 6 := rfl
theorem fe_cons (x : Int × Ent) (ls : List (Int × Ent)) : fe (x :: ls) = rowE x ++ fe ls := rfl
theorem fe_append (a b : List (Int × Ent)) : fe (a ++ b) = fe a ++ fe b := List.flatMap_append
theorem fe_len : ∀ ls : List (Int × Ent), (fe ls).length = ls.length * 6
  | [] => rfl
  | x :: ls => by rw [fe_cons, List.length_append, fe_len ls, rowE_len, List.length_cons]; omega
theorem fe_take : ∀ (ls : List (Int × Ent)) (i : Nat), (fe ls).take (i * 6) = fe (ls.take i)
  | [], i => by simp [fe]
  | x :: ls, 0 => by simp [fe]
  | x :: ls, i + 1 => by
    rw [fe_cons, List.take_succ_cons, fe_cons, ← fe_take ls i, List.take_append, show (i + 1) * 6 - (rowE x).length = i * 6 by rw [rowE_len]; omega, List.take_of_length_le (by rw [rowE_len]; omega)]
theorem fe_drop : ∀ (ls : List (Int × Ent)) (i : Nat), (fe ls).drop (i * 6) = fe (ls.drop i)
  | [], i => by simp [fe]
  | x :: ls, 0 => by simp [fe]
  | x :: ls, i + 1 => by
    rw [fe_cons, List.drop_succ_cons, ← fe_drop ls i, List.drop_append, show (i + 1) * 6 - (rowE x).length = i * 6 by rw [rowE_len]; omega, List.drop_of_length_le (by rw [rowE_len]; omega), List.nil_append]
theorem fe_at : ∀ (ls : List (Int × Ent)) (i : Nat) (x : Int × Ent), ls[i]? = some x → ∀ k, k < 6 → (fe ls)[i * 6 + k]? = (rowE x)[k]?
  | [], i, x, h, k, _ => by simp at h
  | y :: ls, 0, x, h, k, hk => by
    simp only [List.getElem?_cons_zero, Option.some.injEq] at h
    subst h
    rw [fe_cons, List.getElem?_append_left (by rw [rowE_len]; omega), Nat.zero_mul, Nat.zero_add]
  | y :: ls, i + 1, x, h, k, hk => by
    simp only [List.getElem?_cons_succ] at h
    rw [fe_cons, List.getElem?_append_right (by rw [rowE_len]; omega), show (i + 1) * 6 + k - (rowE y).length = i * 6 + k by rw [rowE_len]; omega, fe_at ls i x h k hk]
theorem rowE_one (x : Int × Ent) : ∀ u ∈ rowE x, u.oneCell' = true := by simp [rowE, Value.oneCell']
theorem fe_one (ls : List (Int × Ent)) : ∀ u ∈ fe ls, u.oneCell' = true := fun u hu => by
  obtain ⟨x, _, h⟩ := List.mem_flatMap.1 hu
  exact rowE_one x u h
/-- The six cells of a row. -/
def Cells6 (w : World) (g o : Nat) (x : Int × Ent) : Prop := w.cell? ⟨g, o, none⟩ = some (.int .i64 x.1) ∧ w.cell? ⟨g, o + 1, none⟩ = some (.int .i64 x.2.k) ∧ w.cell? ⟨g, o + 2, none⟩ = some (.int .i64 x.2.a) ∧ w.cell? ⟨g, o + 3, none⟩ = some (.int .i64 x.2.lo) ∧ w.cell? ⟨g, o + 4, none⟩ = some (.int .i64 x.2.hi) ∧ w.cell? ⟨g, o + 5, none⟩ = some (.string (strOfNums x.2.b))
theorem cellsE {w : World} {base e n g cap p : Nat} {R : List (Int × Ent)} {x : Int × Ent} (h : w.ownsRow base e 6 (.slice (some ⟨g, 0, none⟩) n cap) n (fe R)) (hx : R[p]? = some x) : Cells6 w g (p * 6) x := by
  have hlt := (List.getElem?_eq_some_iff.1 hx).1
  have hl := h.1
  rw [fe_len] at hl
  have key : ∀ k, k < 6 → w.cell? ⟨g, p * 6 + k, none⟩ = (rowE x)[k]? := fun k hk => by rw [own_cell h (by omega), fe_at R p x hx k hk]
  exact ⟨key 0 (by omega), key 1 (by omega), key 2 (by omega), key 3 (by omega), key 4 (by omega), key 5 (by omega)⟩
theorem rowsE_at {w : World} {base e n c p : Nat} {a : Option Addr} {R : List (Int × Ent)} {x : Int × Ent} (h : w.ownsRow base e 6 (.slice a n c) n (fe R)) (hx : R[p]? = some x) :
    ∃ g, a = some ⟨g, 0, none⟩ ∧ g < w.heap.size ∧ n ≤ c ∧ c ≤ maxLen ∧ Cells6 w g (p * 6) x := by
  have hlt := (List.getElem?_eq_some_iff.1 hx).1
  have hl := h.1
  rw [fe_len] at hl
  obtain ⟨g, cap, cur, e1, _, hg, hnc, hm, _⟩ := own_some h (by omega)
  cases e1
  exact ⟨g, rfl, (Array.getElem?_eq_some_iff.1 hg).1, hnc, hm, cellsE h hx⟩
/-- What cmp.Compare answers of two numbers. -/
def cmpI (a b : Int) : Int := if a < b then -1 else if b < a then 1 else 0
theorem cmpI_neg {a b : Int} : cmpI a b < 0 ↔ a < b := by unfold cmpI; split <;> (try split) <;> omega
theorem cmpI_zero {a b : Int} : cmpI a b = 0 ↔ a = b := by unfold cmpI; split <;> (try split) <;> omega

theorem nan_int (w : World) (a : Int) :
    Calls Try.prog 141 #[.int .i64 a] w fun e w' => e = .returned (.bool false) ∧ w' = w := by
  go_enter Try.func141, Try.ntmps141
  go_wp2_with fail
  go_ret
  exact ⟨by simp, rfl⟩
theorem cmp_int (w : World) (a b : Int) :
    Calls Try.prog 135 #[.int .i64 a, .int .i64 b] w fun e w' => e = .returned (.int .i64 (cmpI a b)) ∧ w' = w := by
  have HN := Lib.hid (fun w a => nan_int w a)
  rcases Int.lt_trichotomy a b with h | h | h
  · have e : cmpI a b = -1 := by simp [cmpI, h]
    rw [e]; clear e
    go_enter Try.func135, Try.ntmps135
    go_wp2_with fail
    refine (HN.out _ _).mono ?_
    rintro e w1 ⟨rfl, rfl⟩
    go_wp2_with fail
    refine (HN.out _ _).mono ?_
    rintro e w1 ⟨rfl, rfl⟩
    go_wp2_with fail
    go_ret
    exact ⟨rfl, rfl⟩
  · subst h
    have e : cmpI a a = 0 := by simp [cmpI]
    rw [e]; clear e
    go_enter Try.func135, Try.ntmps135
    go_wp2_with fail
    refine (HN.out _ _).mono ?_
    rintro e w1 ⟨rfl, rfl⟩
    go_wp2_with fail
    refine (HN.out _ _).mono ?_
    rintro e w1 ⟨rfl, rfl⟩
    go_wp2_with fail
    go_ret
    exact ⟨rfl, rfl⟩
  · have e : cmpI a b = 1 := by unfold cmpI; rw [if_neg (by omega), if_pos h]
    have h2 : ¬ a < b := by omega
    rw [e]; clear e
    go_enter Try.func135, Try.ntmps135
    go_wp2_with fail
    refine (HN.out _ _).mono ?_
    rintro e w1 ⟨rfl, rfl⟩
    go_wp2_with fail
    refine (HN.out _ _).mono ?_
    rintro e w1 ⟨rfl, rfl⟩
    go_wp2_with fail
    go_ret
    exact ⟨rfl, rfl⟩
theorem place1E (w : World) (k xk xa xl xh q : Int) (S : ByteArray) :
    Calls Try.prog 134 #[.agg #[.int .i64 k, .int .i64 xk, .int .i64 xa, .int .i64 xl, .int .i64 xh, .string S], .int .i64 q] w fun e w' => e = .returned (.int .i64 (cmpI k q)) ∧ Below w.heap.size w w' := by
  have hb : Below w.heap.size w (w.alloc (.cells #[.int .i64 k, .int .i64 xk, .int .i64 xa, .int .i64 xl, .int .i64 xh, .string S] 202)) := (Below.refl _ _).alloc (Nat.le_refl _) _
  have hx : (w.alloc (.cells #[.int .i64 k, .int .i64 xk, .int .i64 xa, .int .i64 xl, .int .i64 xh, .string S] 202)).heap[w.heap.size]? = some (.cells #[.int .i64 k, .int .i64 xk, .int .i64 xa, .int .i64 xl, .int .i64 xh, .string S] 202 (0, 0)) := heap_alloc_new w _
  have c0 : (w.alloc (.cells #[.int .i64 k, .int .i64 xk, .int .i64 xa, .int .i64 xl, .int .i64 xh, .string S] 202)).cell? ⟨w.heap.size, 0, none⟩ = some (.int .i64 k) := by rw [cell_of_row _ _ _ _ _ _ hx]; rfl
  have hc := fun w => cmp_int w k q
  have HB := Lib.hid hb
  have HC := Lib.hid hc
  clear hb hx hc
  go_enter Try.func134, Try.ntmps134
  go_wp2_with fail
  generalize w.alloc (.cells #[.int .i64 k, .int .i64 xk, .int .i64 xa, .int .i64 xl, .int .i64 xh, .string S] 202) = w0 at *
  refine (HC.out _).mono ?_
  rintro e w1 ⟨rfl, rfl⟩
  go_wp2_with fail
  go_ret
  exact ⟨rfl, HB.out⟩
/-- The keys rise. -/
def Rise {ν : Type} (ls : List (Int × ν)) : Prop := ∀ (i j : Nat) (x y : Int × ν), i < j → ls[i]? = some x → ls[j]? = some y → x.1 < y.1
/-- How many keys at the head are less than one. -/
def plcI {ν : Type} (q : Int) : List (Int × ν) → Nat
  | [] => 0
  | x :: ls => if x.1 < q then plcI q ls + 1 else 0
theorem plcI_le {ν : Type} (q : Int) : ∀ ls : List (Int × ν), plcI q ls ≤ ls.length
  | [] => Nat.le_refl _
  | x :: ls => by unfold plcI; have := plcI_le q ls; split <;> simp <;> omega
theorem plcI_at {ν : Type} (q : Int) : ∀ (ls : List (Int × ν)) (k : Nat), k ≤ ls.length → (∀ i x, i < k → ls[i]? = some x → x.1 < q) → (∀ x, ls[k]? = some x → ¬ x.1 < q) → plcI q ls = k
  | [], k, hk, _, _ => by simp at hk; subst hk; rfl
  | x :: ls, 0, _, _, h => by unfold plcI; rw [if_neg (h x rfl)]
  | x :: ls, k + 1, hk, h1, h => by
    unfold plcI
    rw [if_pos (h1 0 x (by omega) rfl), plcI_at q ls k (by simpa using hk) (fun i y hi hy => h1 (i + 1) y (by omega) (by simpa using hy)) (fun y hy => h y (by simpa using hy))]
/-- Is a key there, at its place? -/
def hasI {ν : Type} (q : Int) (ls : List (Int × ν)) : Bool := match ls[plcI q ls]? with | some x => decide (x.1 = q) | none => false
theorem hasI_some {ν : Type} {q : Int} {ls : List (Int × ν)} {k : Nat} {x : Int × ν} (h : plcI q ls = k) (hx : ls[k]? = some x) : hasI q ls = decide (x.1 = q) := by unfold hasI; rw [h, hx]
theorem hasI_none {ν : Type} {q : Int} {ls : List (Int × ν)} (h : plcI q ls = ls.length) : hasI q ls = false := by unfold hasI; rw [h, List.getElem?_eq_none (Nat.le_refl _)]

set_option maxRecDepth 100000 in
set_option maxHeartbeats 2000000 in
theorem bsE (w : World) (base n : Nat) (v : Value) (ls : List (Int × Ent)) (q : Int) (hown : w.ownsRow base 202 6 v n (fe ls)) (hn : n ≤ 100000) (hs : Rise ls) :
    Calls Try.prog 133 #[v, .int .i64 q, .func (Fn.func 134) #[] #[]] w fun e w' => e = .returned (.tuple #[.int .i64 (plcI q ls : Nat), .bool (hasI q ls)]) ∧ Below w.heap.size w w' := by
  have hl := hown.1
  rw [fe_len] at hl
  have hln : ls.length = n := by omega
  rcases Nat.eq_zero_or_pos n with h0 | h0
  · subst h0
    obtain rfl := List.eq_nil_of_length_eq_zero hln
    have e1 : plcI q ([] : List (Int × Ent)) = 0 := rfl
    have e2 : hasI q ([] : List (Int × Ent)) = false := rfl
    rw [e1, e2]
    rcases hown.2 with ⟨rfl, _⟩ | ⟨g, cap, cur, rfl, _⟩
    all_goals
      clear hown hl hln e1 e2
      go_enter Try.func133, Try.ntmps133
      go_wp2_with fail
      go_loopw [9, 10] (fun i j wr => i = .int .i64 0 ∧ j = .int .i64 0 ∧ wr = w) (fun _ _ _ => 0)
      case atStart => exact ⟨rfl, rfl, rfl⟩
      case round =>
        obtain ⟨rfl, rfl, rfl⟩ := hrel
        go_wp2_with fail
        go_ret2
        exact ⟨rfl, Below.refl _ _⟩
  · obtain ⟨g, cap, cur, rfl, hbg, _, hnc, hm, _⟩ := own_some hown h0
    simp only [maxLen] at hm
    have hid := fun (j : Nat) (hj : j ≤ n) (h1 : ∀ i x, i < j → ls[i]? = some x → x.1 < q) (h2 : ∀ x, ls[j]? = some x → q ≤ x.1) => plcI_at q ls j (by omega) h1 (fun x hx => by have := h2 x hx; omega)
    have hR2 := fun (j : Nat) (x : Int × Ent) (h : plcI q ls = j) (hx : ls[j]? = some x) => hasI_some h hx
    have hR3 := fun (h : plcI q ls = n) => hasI_none (h.trans hln.symm)
    generalize hR : plcI q ls = R at *
    generalize hB : hasI q ls = B at *
    have HID := Lib.hid hid
    have HR2 := Lib.hid hR2
    have HR3 := Lib.hid hR3
    have HO := Lib.hid hown
    have HLN := Lib.hid hln
    have HS := Lib.hid hs
    have hat := Lib.hid (fun (j : Nat) (hj : j < n) => (⟨_, List.getElem?_eq_getElem (by rw [HLN.out]; exact hj)⟩ : ∃ x, ls[j]? = some x))
    clear hid hown hl hln hR hB hs hR2 hR3
    go_enter Try.func133, Try.ntmps133
    go_wp2_with fail
    go_loopw [9, 10] (fun i j wr => ∃ lo hi : Nat, i = .int .i64 lo ∧ j = .int .i64 hi ∧ lo ≤ hi ∧ hi ≤ n ∧ Hid (∀ i x, i < lo → ls[i]? = some x → x.1 < q) ∧ Hid (∀ i x, hi ≤ i → ls[i]? = some x → q ≤ x.1) ∧ Hid (Below w.heap.size w wr)) (fun i j _ => (intOf j - intOf i).toNat)
    case atStart => exact ⟨0, n, rfl, rfl, Nat.zero_le _, Nat.le_refl _, Lib.hid (fun i x h => absurd h (Nat.not_lt_zero _)), Lib.hid (fun i x h hx => by have := (List.getElem?_eq_some_iff.1 hx).1; rw [HLN.out] at this; omega), Lib.hid (Below.refl _ _)⟩
    case round =>
      obtain ⟨lo, hi, rfl, rfl, hlh, hin, H1, H2, hb⟩ := hrel
      by_cases hlt : lo < hi
      · obtain ⟨x, hx⟩ := hat.out ((lo + hi) / 2) (by omega)
        have hown2 := HO.out.kept (grown_below none hb.out) (.inr (by simp [Value.ownBlock]))
        obtain ⟨c0, c1, c2, c3, c4, c5⟩ := cellsE hown2 hx
        have hcall := fun w => place1E w x.1 x.2.k x.2.a x.2.lo x.2.hi q (strOfNums x.2.b)
        have hno : x.1 < q → ∀ i y, i < (lo + hi) / 2 + 1 → ls[i]? = some y → y.1 < q := fun hq i y hii hy => by
          by_cases e : i = (lo + hi) / 2
          · subst e; rw [hx] at hy; cases hy; exact hq
          · have := HS.out i _ y x (by omega) hy hx; omega
        have hyes : q ≤ x.1 → ∀ i y, (lo + hi) / 2 ≤ i → ls[i]? = some y → q ≤ y.1 := fun hq i y hii hy => by
          by_cases e : i = (lo + hi) / 2
          · subst e; rw [hx] at hy; cases hy; exact hq
          · have := HS.out _ i x y (by omega) hx hy; omega
        have hcn := @cmpI_neg x.1 q
        generalize cmpI x.1 q = c at hcall hcn
        obtain ⟨k, xk, xa, xl, xh, xb⟩ := x
        simp only at hcall hcn hno hyes c0 c1 c2 c3 c4 c5
        have HC := Lib.hid hcall
        have HN := Lib.hid hno
        have HY := Lib.hid hyes
        have HCN := Lib.hid hcn
        clear hx hown2 hcall hno hyes hcn
        have hm1 : (lo + hi) / 2 < n := by omega
        by_cases hc : c < 0
        · have HN2 := Lib.hid (HN.out (HCN.out.1 hc))
          clear HY HN
          go_wp2_with fail
          refine (HC.out _).mono ?_
          rintro e w2 ⟨rfl, hb2⟩
          have HBB := Lib.hid (hb.out.trans (hb2.mono hb.out.size))
          clear hb2 c0 c1 c2 c3 c4 c5
          go_wp2_with fail
          exact ⟨⟨(lo + hi) / 2 + 1, hi, by rw [show ((lo : Int) + (hi : Int)) / 2 + 1 = (((lo + hi) / 2 + 1 : Nat) : Int) by omega], rfl, by omega, hin, HN2, H2, HBB⟩, by simp [intOf]; omega⟩
        · have HN2 := Lib.hid (HY.out (Int.not_lt.1 fun h => hc (HCN.out.2 h)))
          clear HY HN
          go_wp2_with fail
          refine (HC.out _).mono ?_
          rintro e w2 ⟨rfl, hb2⟩
          have HBB := Lib.hid (hb.out.trans (hb2.mono hb.out.size))
          clear hb2 c0 c1 c2 c3 c4 c5
          go_wp2_with fail
          exact ⟨⟨lo, (lo + hi) / 2, rfl, by rw [show ((lo : Int) + (hi : Int)) / 2 = (((lo + hi) / 2 : Nat) : Int) by omega], by omega, by omega, H1, HN2, HBB⟩, by simp [intOf]; omega⟩
      · obtain rfl : hi = lo := by omega
        have hRe : R = hi := (HID.out hi hin H1.out (fun x hx => H2.out hi x (Nat.le_refl _) hx))
        subst hRe
        by_cases hn : R < n
        · obtain ⟨x, hx⟩ := hat.out R hn
          have hBe := HR2.out R x rfl hx
          have hown2 := HO.out.kept (grown_below none hb.out) (.inr (by simp [Value.ownBlock]))
          obtain ⟨c0, c1, c2, c3, c4, c5⟩ := cellsE hown2 hx
          have hcall := fun w => place1E w x.1 x.2.k x.2.a x.2.lo x.2.hi q (strOfNums x.2.b)
          have hcz := @cmpI_zero x.1 q
          generalize cmpI x.1 q = c at hcall hcz
          obtain ⟨k, xk, xa, xl, xh, xb⟩ := x
          simp only at hcall hcz hBe c0 c1 c2 c3 c4 c5
          have hBc : B = decide (c = 0) := by rw [hBe]; exact decide_eq_decide.2 hcz.symm
          have HC := Lib.hid hcall
          have HBE := Lib.hid hBc
          clear hx hown2 hcall hcz hBe hBc
          by_cases hc : c = 0
          · go_wp2_with fail
            refine (HC.out _).mono ?_
            rintro e w2 ⟨rfl, hb2⟩
            have HBB := Lib.hid (hb.out.trans (hb2.mono hb.out.size))
            clear hb2 c0 c1 c2 c3 c4 c5
            go_wp2_with fail
            go_ret2
            exact ⟨by rw [HBE.out]; simp [hc], HBB.out⟩
          · go_wp2_with fail
            refine (HC.out _).mono ?_
            rintro e w2 ⟨rfl, hb2⟩
            have HBB := Lib.hid (hb.out.trans (hb2.mono hb.out.size))
            clear hb2 c0 c1 c2 c3 c4 c5
            go_wp2_with fail
            go_ret2
            exact ⟨by rw [HBE.out]; simp [hc], HBB.out⟩
        · have hBe := HR3.out (by omega)
          subst hBe
          go_wp2_with fail
          go_ret2
          exact ⟨rfl, hb.out⟩
end Go.Proofs.Ytgaoplbocjadaaa