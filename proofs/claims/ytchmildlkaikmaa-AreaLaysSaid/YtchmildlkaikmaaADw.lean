/- The document's entries, rows of seven cells; where one stands. -/
import Derived.Test.YtchmildlkaikmaaADv
import Derived.BigQuiet
namespace Go.Proofs.Ytchmildlkaikmaa
open Go.RowKit
set_option linter.unusedSimpArgs false
set_option linter.unusedVariables false
def rowR (x : Int × Ent) : List Value := [.int .i64 (x.1 / 256), .int .i64 (x.1 % 256), .int .i64 x.2.k, .int .i64 x.2.a, .int .i64 x.2.lo, .int .i64 x.2.hi, .string (strOfNums x.2.b)]
def fr (ls : List (Int × Ent)) : List Value := ls.flatMap rowR
theorem rowR_len (x : Int × Ent) : (rowR x).length = 7 := rfl
theorem fr_cons (x : Int × Ent) (ls : List (Int × Ent)) : fr (x :: ls) = rowR x ++ fr ls := rfl
theorem fr_append (a b : List (Int × Ent)) : fr (a ++ b) = fr a ++ fr b := List.flatMap_append
theorem fr_len : ∀ ls : List (Int × Ent), (fr ls).length = ls.length * 7
  | [] => rfl
  | x :: ls => by rw [fr_cons, List.length_append, fr_len ls, rowR_len, List.length_cons]; omega
theorem fr_take : ∀ (ls : List (Int × Ent)) (i : Nat), (fr ls).take (i * 7) = fr (ls.take i)
  | [], i => by simp [fr]
  | x :: ls, 0 => by simp [fr]
  | x :: ls, i + 1 => by
    rw [fr_cons, List.take_succ_cons, fr_cons, ← fr_take ls i, List.take_append, show (i + 1) * 7 - (rowR x).length = i * 7 by rw [rowR_len]; omega, List.take_of_length_le (by rw [rowR_len]; omega)]
theorem fr_drop : ∀ (ls : List (Int × Ent)) (i : Nat), (fr ls).drop (i * 7) = fr (ls.drop i)
  | [], i => by simp [fr]
  | x :: ls, 0 => by simp [fr]
  | x :: ls, i + 1 => by
    rw [fr_cons, List.drop_succ_cons, ← fr_drop ls i, List.drop_append, show (i + 1) * 7 - (rowR x).length = i * 7 by rw [rowR_len]; omega, List.drop_of_length_le (by rw [rowR_len]; omega), List.nil_append]
theorem fr_at : ∀ (ls : List (Int × Ent)) (i : Nat) (x : Int × Ent), ls[i]? = some x → ∀ k, k < 7 → (fr ls)[i * 7 + k]? = (rowR x)[k]?
  | [], i, x, h, k, _ => by simp at h
  | y :: ls, 0, x, h, k, hk => by
    simp only [List.getElem?_cons_zero, Option.some.injEq] at h
    subst h
    rw [fr_cons, List.getElem?_append_left (by rw [rowR_len]; omega), Nat.zero_mul, Nat.zero_add]
  | y :: ls, i + 1, x, h, k, hk => by
    simp only [List.getElem?_cons_succ] at h
    rw [fr_cons, List.getElem?_append_right (by rw [rowR_len]; omega), show (i + 1) * 7 + k - (rowR y).length = i * 7 + k by rw [rowR_len]; omega, fr_at ls i x h k hk]
theorem rowR_one (x : Int × Ent) : ∀ u ∈ rowR x, u.oneCell' = true := by simp [rowR, Value.oneCell']
theorem fr_one (ls : List (Int × Ent)) : ∀ u ∈ fr ls, u.oneCell' = true := fun u hu => by
  obtain ⟨x, _, h⟩ := List.mem_flatMap.1 hu
  exact rowR_one x u h
/-- The seven cells of a row. -/
def Cells7 (w : World) (g o : Nat) (x : Int × Ent) : Prop := w.cell? ⟨g, o, none⟩ = some (.int .i64 (x.1 / 256)) ∧ w.cell? ⟨g, o + 1, none⟩ = some (.int .i64 (x.1 % 256)) ∧ w.cell? ⟨g, o + 2, none⟩ = some (.int .i64 x.2.k) ∧ w.cell? ⟨g, o + 3, none⟩ = some (.int .i64 x.2.a) ∧ w.cell? ⟨g, o + 4, none⟩ = some (.int .i64 x.2.lo) ∧ w.cell? ⟨g, o + 5, none⟩ = some (.int .i64 x.2.hi) ∧ w.cell? ⟨g, o + 6, none⟩ = some (.string (strOfNums x.2.b))
theorem cellsR {w : World} {base e n g cap p : Nat} {R : List (Int × Ent)} {x : Int × Ent} (h : w.ownsRow base e 7 (.slice (some ⟨g, 0, none⟩) n cap) n (fr R)) (hx : R[p]? = some x) : Cells7 w g (p * 7) x := by
  have hlt := (List.getElem?_eq_some_iff.1 hx).1
  have hl := h.1
  rw [fr_len] at hl
  have key : ∀ k, k < 7 → w.cell? ⟨g, p * 7 + k, none⟩ = (rowR x)[k]? := fun k hk => by rw [own_cell h (by omega), fr_at R p x hx k hk]
  exact ⟨key 0 (by omega), key 1 (by omega), key 2 (by omega), key 3 (by omega), key 4 (by omega), key 5 (by omega), key 6 (by omega)⟩
theorem rowsR_at {w : World} {base e n c p : Nat} {a : Option Addr} {R : List (Int × Ent)} {x : Int × Ent} (h : w.ownsRow base e 7 (.slice a n c) n (fr R)) (hx : R[p]? = some x) :
    ∃ g, a = some ⟨g, 0, none⟩ ∧ g < w.heap.size ∧ n ≤ c ∧ c ≤ maxLen ∧ Cells7 w g (p * 7) x := by
  have hlt := (List.getElem?_eq_some_iff.1 hx).1
  have hl := h.1
  rw [fr_len] at hl
  obtain ⟨g, cap, cur, e1, _, hg, hnc, hm, _⟩ := own_some h (by omega)
  cases e1
  exact ⟨g, rfl, (Array.getElem?_eq_some_iff.1 hg).1, hnc, hm, cellsR h hx⟩
/-- The document's dictionary, in its block. -/
def RBox (w : World) (g : Nat) (a : Option Addr) (n c : Nat) (ch : Int) : Prop := w.heap[g]? = some (.cells #[.slice a n c, .int .i64 ch] 32 (0, 0))
theorem RBox.below {w w' : World} {g n c : Nat} {a : Option Addr} {ch : Int} (h : RBox w g a n c ch) (hb : Below w.heap.size w w') : RBox w' g a n c ch := (hb.block g (Array.getElem?_eq_some_iff.1 h).1).trans h
theorem RBox.cells {w : World} {g n c : Nat} {a : Option Addr} {ch : Int} (h : RBox w g a n c ch) : w.cell? ⟨g, 0, none⟩ = some (.slice a n c) ∧ w.cell? ⟨g, 1, none⟩ = some (.int .i64 ch) := ⟨by rw [cell_of_row _ _ _ _ _ _ h]; rfl, by rw [cell_of_row _ _ _ _ _ _ h]; rfl⟩
theorem num_is {x i j : Int} (h0 : 256 ≤ x ∧ x ≤ 16777215) : (x / 256 = i ∧ x % 256 = j) ↔ x = numI i j := by
  constructor
  · rintro ⟨rfl, rfl⟩
    rw [numI_yes (by omega)]; omega
  · intro h
    unfold numI at h
    split at h <;> omega
def AtP (w : World) (R : List (Int × Ent)) (q : Int) (e : Ending) (w' : World) : Prop := Below w.heap.size w w' ∧ ((∃ (p : Nat) (x : Int × Ent), R[p]? = some x ∧ x.1 = q ∧ (∀ y ∈ R.take p, ¬ y.1 = q) ∧ e = .returned (.int .i64 p)) ∨ ((∀ y ∈ R, ¬ y.1 = q) ∧ e = .returned (.int .i64 (-1))))
set_option maxRecDepth 100000 in
set_option maxHeartbeats 2000000 in
theorem rat_any (w : World) (base n c : Nat) (a : Option Addr) (R : List (Int × Ent)) (ch i j : Int) (h : w.ownsRow base 39 7 (.slice a n c) R.length (fr R)) (hnl : n = R.length) (hn : R.length ≤ 1000) (hok : ∀ x ∈ R, 256 ≤ x.1 ∧ x.1 ≤ 16777215) :
    Calls Try.prog 27 #[.agg #[.slice a n c, .int .i64 ch], .agg #[.int .i64 i, .int .i64 j]] w (AtP w R (numI i j)) := by
  subst hnl
  have hb0 : Below w.heap.size w ((w.alloc (.cells #[.slice a R.length c, .int .i64 ch] 32)).alloc (.cells #[.int .i64 i, .int .i64 j] 23)) := ((Below.refl _ _).alloc (Nat.le_refl _) _).alloc (by simp) _
  have hr0 : RBox ((w.alloc (.cells #[.slice a R.length c, .int .i64 ch] 32)).alloc (.cells #[.int .i64 i, .int .i64 j] 23)) w.heap.size a R.length c ch := heap_alloc2_old w _ _
  have hk0 : Key2 ((w.alloc (.cells #[.slice a R.length c, .int .i64 ch] 32)).alloc (.cells #[.int .i64 i, .int .i64 j] 23)) (w.heap.size + 1) i j := heap_alloc2_new w _ _
  have HC := Lib.hid (fun x (hx : Below w.heap.size w x) p y (hy : R[p]? = some y) => rowsR_at (own_keep h hx) hy)
  have HX := Lib.hid (fun p (hp : p < R.length) => show ∃ x, R[p]? = some x from ⟨_, List.getElem?_eq_getElem hp⟩)
  have HP1 := Lib.hid (fun w' (p : Nat) (x : Int × Ent) (hb : Below w.heap.size w w') (hx : R[p]? = some x) (h1 : x.1 / 256 = i ∧ x.1 % 256 = j) (hno : ∀ y ∈ R.take p, ¬ y.1 = numI i j) => show AtP w R (numI i j) (.returned (.int .i64 p)) w' from ⟨hb, .inl ⟨p, x, hx, (num_is (hok x (List.mem_of_getElem? hx))).1 h1, hno, rfl⟩⟩)
  have HP2 := Lib.hid (fun w' (hb : Below w.heap.size w w') (hno : ∀ y ∈ R.take R.length, ¬ y.1 = numI i j) => show AtP w R (numI i j) (.returned (.int .i64 (-1))) w' from ⟨hb, .inr ⟨by rw [List.take_length] at hno; exact hno, rfl⟩⟩)
  have HST := Lib.hid (fun (p : Nat) (x : Int × Ent) (hx : R[p]? = some x) (h1 : ¬ (x.1 / 256 = i ∧ x.1 % 256 = j)) (hno : ∀ y ∈ R.take p, ¬ y.1 = numI i j) => show ∀ y ∈ R.take (p + 1), ¬ y.1 = numI i j from fun y hy => by
    rw [List.take_add_one, hx] at hy
    rcases List.mem_append.1 hy with hy | hy
    · exact hno y hy
    · have e0 : y = x := by simpa using hy
      rw [e0]
      exact fun e => h1 ((num_is (hok x (List.mem_of_getElem? hx))).2 e))
  have hno0 : Hid (∀ y ∈ R.take 0, ¬ y.1 = numI i j) := Lib.hid (fun y hy => by simp at hy)
  have HB0 := Lib.hid hb0
  have HR0 := Lib.hid hr0
  have HK0 := Lib.hid hk0
  generalize R.length = N at *
  clear h hok hb0 hr0 hk0
  go_enter Try.func27, Try.ntmps27
  go_wp2_with fail
  generalize (w.alloc (.cells #[.slice a N c, .int .i64 ch] 32)).alloc (.cells #[.int .i64 i, .int .i64 j] 23) = w0 at *
  have hbr : Hid (Below w0.heap.size w0 w0) := Lib.hid (Below.refl _ _)
  go_loopw [5] (fun i5 wr => ∃ p : Nat, p ≤ N ∧ i5 = .int .i64 p ∧ Hid (Below w0.heap.size w0 wr) ∧ Hid (∀ y ∈ R.take p, ¬ y.1 = numI i j)) (fun i5 _ => N - (intOf i5).toNat)
  case atStart => exact ⟨0, Nat.zero_le _, rfl, hbr, hno0⟩
  case round =>
    obtain ⟨p, hp, rfl, HB, HNO⟩ := hrel
    obtain ⟨d0, d1⟩ := (HR0.out.below HB.out).cells
    obtain ⟨c0, c1⟩ := (HK0.out.below HB.out).cells
    by_cases hlt : p < N
    · obtain ⟨x, hx⟩ := HX.out p hlt
      obtain ⟨gr, rfl, hg, hnc, hm, k0, k1, -, -, -, -, -⟩ := HC.out wr (kF HB.out HB0.out) p x hx
      simp only [maxLen] at hm
      have hpI : (p : Int) < (N : Int) := by omega
      by_cases hk : x.1 / 256 = i ∧ x.1 % 256 = j
      · have HPK := Lib.hid (fun w' (hb : Below w.heap.size w w') => HP1.out w' p x hb hx hk HNO.out)
        obtain ⟨e1, e2⟩ := hk
        generalize x.1 / 256 = xi at *
        generalize x.1 % 256 = xj at *
        subst e1 e2
        clear hx
        go_wp2_with fail
        go_quiet (fail)
        go_wp2_with fail
        go_ret
        exact HPK.out _ (kF (below_drewN HB.out nq) HB0.out)
      · have HN2 := Lib.hid (HST.out p x hx hk HNO.out)
        have hk2 : ¬ (x.1 / 256 = i) ∨ (x.1 / 256 = i ∧ ¬ x.1 % 256 = j) := by omega
        clear hx HNO
        generalize x.1 / 256 = xi at *
        generalize x.1 % 256 = xj at *
        clear hk
        rcases hk2 with e1 | ⟨e1, e2⟩
        · go_wp2_with fail
          go_quiet (fail)
          go_wp2_with fail
          exact ⟨⟨p + 1, by omega, by go_num, Lib.hid (below_drewN HB.out nq), HN2⟩, by simp [intOf]; omega⟩
        · subst e1
          go_wp2_with fail
          go_quiet (fail)
          go_wp2_with fail
          exact ⟨⟨p + 1, by omega, by go_num, Lib.hid (below_drewN HB.out nq), HN2⟩, by simp [intOf]; omega⟩
    · obtain rfl : p = N := by omega
      go_wp2_with fail
      go_ret
      exact HP2.out _ (kF HB.out HB0.out) HNO.out
end Go.Proofs.Ytchmildlkaikmaa