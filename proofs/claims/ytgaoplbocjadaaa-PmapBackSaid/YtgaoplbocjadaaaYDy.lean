/- The document's entries, rows of seven cells; where one stands. -/
import Derived.Test.YtgaoplbocjadaaaYDv
import Derived.BigQuiet
import Derived.Laws.OwnMore
import Derived.Laws.AppendOwnNone
import Derived.Deep.CutBlock
namespace Go.Proofs.Ytgaoplbocjadaaa
open Go.RowKit
set_option linter.unusedSimpArgs false
set_option linter.unusedVariables false
def rowR (x : Int × Ent) : List Value := [.int .i64 (x.1 / 256), .int .i64 (x.1 % 256), .int .i64 x.2.k, .int .i64 x.2.a, .int .i64 x.2.lo, .int .i64 x.2.hi, .string (strOfNums x.2.b)]
def fr (ls : List (Int × Ent)) : List Value := ls.flatMap rowR
theorem rowR_len (x : Int × Ent) : (rowR x).length = 7 := rfl
theorem fr_cons (x : Int × Ent) (ls : List (Int × Ent)) : fr (x :: ls) = rowR x ++ fr ls := rfl
theorem fr_append (a b : List (Int × Ent)) : fr (a ++ b) = fr a ++ fr b := List.flatMap_append
theorem fr_len : ∀ ls : List (Int × Ent), (fr ls).length = ls.length * 7
  | [] => rfl
  | x :: ls => by rw [fr_cons, List.length_append, fr_len ls, rowR_len, List.length_cons]; omega
theorem fr_take : ∀ (ls : List (Int × Ent)) (i : Nat), (fr ls).take (i * 7) = fr (ls.take i)
  | [], i => by simp [fr]
  | x :: ls, 0 => by simp [fr]
  | x :: ls, i + 1 => by
    rw [fr_cons, List.take_succ_cons, fr_cons, ← fr_take ls i, List.take_append, show (i + 1) * 7 - (rowR x).length = i * 7 by rw [rowR_len]; omega, List.take_of_length_le (by rw [rowR_len]; omega)]
theorem fr_drop : ∀ (ls : List (Int × Ent)) (i : Nat), (fr ls).drop (i * 7) = fr (ls.drop i)
  | [], i => by simp [fr]
  | x :: ls, 0 => by simp [fr]
  | x :: ls, i + 1 => by
    rw [fr_cons, List.drop_succ_cons, ← fr_drop ls i, List.drop_append, show (i + 1) * 7 - (rowR x).length = i * 7 by rw [rowR_len]; omega, List.drop_of_length_le (by rw [rowR_len]; omega), List.nil_append]
theorem fr_at : ∀ (ls : List (Int × Ent)) (i : Nat) (x : Int × Ent), ls[i]? = some x → ∀ k, k < 7 → (fr ls)[i * 7 + k]? = (rowR x)[k]?
  | [], i, x, h, k, _ => by simp at h
  | y :: ls, 0, x, h, k, hk => by
    simp only [List.getElem?_cons_zero, Option.some.injEq] at h
    subst h
    rw [fr_cons, List.getElem?_append_left (by rw [rowR_len]; omega), Nat.zero_mul, Nat.zero_add]
  | y :: ls, i + 1, x, h, k, hk => by
    simp only [List.getElem?_cons_succ] at h
    rw [fr_cons, List.getElem?_append_right (by rw [rowR_len]; omega), show (i + 1) * 7 + k - (rowR y).length = i * 7 + k by rw [rowR_len]; omega, fr_at ls i x h k hk]
theorem rowR_one (x : Int × Ent) : ∀ u ∈ rowR x, u.oneCell' = true := by simp [rowR, Value.oneCell']
theorem fr_one (ls : List (Int × Ent)) : ∀ u ∈ fr ls, u.oneCell' = true := fun u hu => by
  obtain ⟨x, _, h⟩ := List.mem_flatMap.1 hu
  exact rowR_one x u h
/-- The seven cells of a row. -/
def Cells7 (w : World) (g o : Nat) (x : Int × Ent) : Prop := w.cell? ⟨g, o, none⟩ = some (.int .i64 (x.1 / 256)) ∧ w.cell? ⟨g, o + 1, none⟩ = some (.int .i64 (x.1 % 256)) ∧ w.cell? ⟨g, o + 2, none⟩ = some (.int .i64 x.2.k) ∧ w.cell? ⟨g, o + 3, none⟩ = some (.int .i64 x.2.a) ∧ w.cell? ⟨g, o + 4, none⟩ = some (.int .i64 x.2.lo) ∧ w.cell? ⟨g, o + 5, none⟩ = some (.int .i64 x.2.hi) ∧ w.cell? ⟨g, o + 6, none⟩ = some (.string (strOfNums x.2.b))
theorem cellsR {w : World} {base e n g cap p : Nat} {R : List (Int × Ent)} {x : Int × Ent} (h : w.ownsRow base e 7 (.slice (some ⟨g, 0, none⟩) n cap) n (fr R)) (hx : R[p]? = some x) : Cells7 w g (p * 7) x := by
  have hlt := (List.getElem?_eq_some_iff.1 hx).1
  have hl := h.1
  rw [fr_len] at hl
  have key : ∀ k, k < 7 → w.cell? ⟨g, p * 7 + k, none⟩ = (rowR x)[k]? := fun k hk => by rw [own_cell h (by omega), fr_at R p x hx k hk]
  exact ⟨key 0 (by omega), key 1 (by omega), key 2 (by omega), key 3 (by omega), key 4 (by omega), key 5 (by omega), key 6 (by omega)⟩
theorem rowsR_at {w : World} {base e n c p : Nat} {a : Option Addr} {R : List (Int × Ent)} {x : Int × Ent} (h : w.ownsRow base e 7 (.slice a n c) n (fr R)) (hx : R[p]? = some x) :
    ∃ g, a = some ⟨g, 0, none⟩ ∧ g < w.heap.size ∧ n ≤ c ∧ c ≤ maxLen ∧ Cells7 w g (p * 7) x := by
  have hlt := (List.getElem?_eq_some_iff.1 hx).1
  have hl := h.1
  rw [fr_len] at hl
  obtain ⟨g, cap, cur, e1, _, hg, hnc, hm, _⟩ := own_some h (by omega)
  cases e1
  exact ⟨g, rfl, (Array.getElem?_eq_some_iff.1 hg).1, hnc, hm, cellsR h hx⟩
/-- The document's dictionary, in its block. -/
def RBox (w : World) (g : Nat) (a : Option Addr) (n c : Nat) (ch : Int) : Prop := w.heap[g]? = some (.cells #[.slice a n c, .int .i64 ch] 33 (0, 0))
theorem RBox.below {w w' : World} {g n c : Nat} {a : Option Addr} {ch : Int} (h : RBox w g a n c ch) (hb : Below w.heap.size w w') : RBox w' g a n c ch := (hb.block g (Array.getElem?_eq_some_iff.1 h).1).trans h
theorem RBox.cells {w : World} {g n c : Nat} {a : Option Addr} {ch : Int} (h : RBox w g a n c ch) : w.cell? ⟨g, 0, none⟩ = some (.slice a n c) ∧ w.cell? ⟨g, 1, none⟩ = some (.int .i64 ch) := ⟨by rw [cell_of_row _ _ _ _ _ _ h]; rfl, by rw [cell_of_row _ _ _ _ _ _ h]; rfl⟩
theorem num_is {x i j : Int} (h0 : 256 ≤ x ∧ x ≤ 16777215) : (x / 256 = i ∧ x % 256 = j) ↔ x = numI i j := by
  constructor
  · rintro ⟨rfl, rfl⟩
    rw [numI_yes (by omega)]; omega
  · intro h
    unfold numI at h
    split at h <;> omega
def AtP (w : World) (R : List (Int × Ent)) (q : Int) (e : Ending) (w' : World) : Prop := Below w.heap.size w w' ∧ ((∃ (p : Nat) (x : Int × Ent), R[p]? = some x ∧ x.1 = q ∧ (∀ y ∈ R.take p, ¬ y.1 = q) ∧ e = .returned (.int .i64 p)) ∨ ((∀ y ∈ R, ¬ y.1 = q) ∧ e = .returned (.int .i64 (-1))))
set_option maxRecDepth 100000 in
set_option maxHeartbeats 2000000 in
theorem rat_any (w : World) (base n c : Nat) (a : Option Addr) (R : List (Int × Ent)) (ch i j : Int) (h : w.ownsRow base 77 7 (.slice a n c) R.length (fr R)) (hnl : n = R.length) (hn : R.length ≤ 1000) (hok : ∀ x ∈ R, 256 ≤ x.1 ∧ x.1 ≤ 16777215) :
    Calls Try.prog 51 #[.agg #[.slice a n c, .int .i64 ch], .agg #[.int .i64 i, .int .i64 j]] w (AtP w R (numI i j)) := by
  subst hnl
  have hb0 : Below w.heap.size w ((w.alloc (.cells #[.slice a R.length c, .int .i64 ch] 33)).alloc (.cells #[.int .i64 i, .int .i64 j] 24)) := ((Below.refl _ _).alloc (Nat.le_refl _) _).alloc (by simp) _
  have hr0 : RBox ((w.alloc (.cells #[.slice a R.length c, .int .i64 ch] 33)).alloc (.cells #[.int .i64 i, .int .i64 j] 24)) w.heap.size a R.length c ch := heap_alloc2_old w _ _
  have hk0 : Key2 ((w.alloc (.cells #[.slice a R.length c, .int .i64 ch] 33)).alloc (.cells #[.int .i64 i, .int .i64 j] 24)) (w.heap.size + 1) i j := heap_alloc2_new w _ _
  have HC := Lib.hid (fun x (hx : Below w.heap.size w x) p y (hy : R[p]? = some y) => rowsR_at (own_keep h hx) hy)
  have HX := Lib.hid (fun p (hp : p < R.length) => show ∃ x, R[p]? = some x from ⟨_, List.getElem?_eq_getElem hp⟩)
  have HP1 := Lib.hid (fun w' (p : Nat) (x : Int × Ent) (hb : Below w.heap.size w w') (hx : R[p]? = some x) (h1 : x.1 / 256 = i ∧ x.1 % 256 = j) (hno : ∀ y ∈ R.take p, ¬ y.1 = numI i j) => show AtP w R (numI i j) (.returned (.int .i64 p)) w' from ⟨hb, .inl ⟨p, x, hx, (num_is (hok x (List.mem_of_getElem? hx))).1 h1, hno, rfl⟩⟩)
  have HP2 := Lib.hid (fun w' (hb : Below w.heap.size w w') (hno : ∀ y ∈ R.take R.length, ¬ y.1 = numI i j) => show AtP w R (numI i j) (.returned (.int .i64 (-1))) w' from ⟨hb, .inr ⟨by rw [List.take_length] at hno; exact hno, rfl⟩⟩)
  have HST := Lib.hid (fun (p : Nat) (x : Int × Ent) (hx : R[p]? = some x) (h1 : ¬ (x.1 / 256 = i ∧ x.1 % 256 = j)) (hno : ∀ y ∈ R.take p, ¬ y.1 = numI i j) => show ∀ y ∈ R.take (p + 1), ¬ y.1 = numI i j from fun y hy => by
    rw [List.take_add_one, hx] at hy
    rcases List.mem_append.1 hy with hy | hy
    · exact hno y hy
    · have e0 : y = x := by simpa using hy
      rw [e0]
      exact fun e => h1 ((num_is (hok x (List.mem_of_getElem? hx))).2 e))
  have hno0 : Hid (∀ y ∈ R.take 0, ¬ y.1 = numI i j) := Lib.hid (fun y hy => by simp at hy)
  have HB0 := Lib.hid hb0
  have HR0 := Lib.hid hr0
  have HK0 := Lib.hid hk0
  generalize R.length = N at *
  clear h hok hb0 hr0 hk0
  go_enter Try.func51, Try.ntmps51
  go_wp2_with fail
  generalize (w.alloc (.cells #[.slice a N c, .int .i64 ch] 33)).alloc (.cells #[.int .i64 i, .int .i64 j] 24) = w0 at *
  have hbr : Hid (Below w0.heap.size w0 w0) := Lib.hid (Below.refl _ _)
  go_loopw [5] (fun i5 wr => ∃ p : Nat, p ≤ N ∧ i5 = .int .i64 p ∧ Hid (Below w0.heap.size w0 wr) ∧ Hid (∀ y ∈ R.take p, ¬ y.1 = numI i j)) (fun i5 _ => N - (intOf i5).toNat)
  case atStart => exact ⟨0, Nat.zero_le _, rfl, hbr, hno0⟩
  case round =>
    obtain ⟨p, hp, rfl, HB, HNO⟩ := hrel
    obtain ⟨d0, d1⟩ := (HR0.out.below HB.out).cells
    obtain ⟨c0, c1⟩ := (HK0.out.below HB.out).cells
    by_cases hlt : p < N
    · obtain ⟨x, hx⟩ := HX.out p hlt
      obtain ⟨gr, rfl, hg, hnc, hm, k0, k1, -, -, -, -, -⟩ := HC.out wr (kF HB.out HB0.out) p x hx
      simp only [maxLen] at hm
      have hpI : (p : Int) < (N : Int) := by omega
      by_cases hk : x.1 / 256 = i ∧ x.1 % 256 = j
      · have HPK := Lib.hid (fun w' (hb : Below w.heap.size w w') => HP1.out w' p x hb hx hk HNO.out)
        obtain ⟨e1, e2⟩ := hk
        generalize x.1 / 256 = xi at *
        generalize x.1 % 256 = xj at *
        subst e1 e2
        clear hx
        go_wp2_with fail
        go_quiet (fail)
        go_wp2_with fail
        go_ret
        exact HPK.out _ (kF (below_drewN HB.out nq) HB0.out)
      · have HN2 := Lib.hid (HST.out p x hx hk HNO.out)
        have hk2 : ¬ (x.1 / 256 = i) ∨ (x.1 / 256 = i ∧ ¬ x.1 % 256 = j) := by omega
        clear hx HNO
        generalize x.1 / 256 = xi at *
        generalize x.1 % 256 = xj at *
        clear hk
        rcases hk2 with e1 | ⟨e1, e2⟩
        · go_wp2_with fail
          go_quiet (fail)
          go_wp2_with fail
          exact ⟨⟨p + 1, by omega, by go_num, Lib.hid (below_drewN HB.out nq), HN2⟩, by simp [intOf]; omega⟩
        · subst e1
          go_wp2_with fail
          go_quiet (fail)
          go_wp2_with fail
          exact ⟨⟨p + 1, by omega, by go_num, Lib.hid (below_drewN HB.out nq), HN2⟩, by simp [intOf]; omega⟩
    · obtain rfl : p = N := by omega
      go_wp2_with fail
      go_ret
      exact HP2.out _ (kF HB.out HB0.out) HNO.out
end Go.Proofs.Ytgaoplbocjadaaa
namespace Go.Proofs.Ytgaoplbocjadaaa
open Go.RowKit
set_option linter.unusedSimpArgs false
set_option linter.unusedVariables false
def MisP (w : World) (R : List (Int × Ent)) (i : Int) (e : Ending) (w' : World) : Prop := Below w.heap.size w w' ∧ (((∃ x ∈ R, x.1 / 256 = i) ∧ e = .returned (.int .i64 101253137)) ∨ ((∀ y ∈ R, ¬ y.1 / 256 = i) ∧ e = .returned (.int .i64 100794368)))
end Go.Proofs.Ytgaoplbocjadaaa
namespace Go.Proofs.Ytgaoplbocjadaaa
open Go.RowKit
set_option linter.unusedSimpArgs false
set_option linter.unusedVariables false
theorem info_elR : (Try.prog.info? 77).map (fun i => (i.zero, i.size, i.bytes)) = some (some (.agg #[.int .i64 0, .int .i64 0, .int .i64 0, .int .i64 0, .int .i64 0, .int .i64 0, .string ByteArray.empty]), 7, 64) := by kernel_rfl
theorem info_dct : (Try.prog.info? 33).map (·.size) = some 2 := by kernel_rfl
theorem fr_set : ∀ (R : List (Int × Ent)) (p : Nat) (x : Int × Ent) (l : List Int), R[p]? = some x → (fr R).set (p * 7 + 6) (.string (strOfNums l)) = fr (R.set p (x.1, ⟨x.2.k, x.2.a, x.2.lo, x.2.hi, l⟩))
  | [], p, x, l, h => by simp at h
  | y :: R, 0, x, l, h => by
    simp only [List.getElem?_cons_zero, Option.some.injEq] at h
    subst h
    rfl
  | y :: R, p + 1, x, l, h => by
    simp only [List.getElem?_cons_succ] at h
    rw [fr_cons, List.set_append_right _ _ (by rw [rowR_len]; omega), show (p + 1) * 7 + 6 - (rowR y).length = p * 7 + 6 by rw [rowR_len]; omega, fr_set R p x l h, List.set_cons_succ, fr_cons]
theorem RBox.two {w : World} {g : Nat} {a a' : Option Addr} {n n' c c' : Nat} {ch ch' : Int} (h : RBox w g a n c ch) : RBox ((w.setCell ⟨g, 0, none⟩ (.slice a' n' c')).setCell ⟨g, 1, none⟩ (.int .i64 ch')) g a' n' c' ch' := by
  have h' : w.heap[g]? = _ := h
  simp [RBox, World.setCell, Array.getElem?_modify, h']
theorem RBox.sl {w : World} {g : Nat} {a a' : Option Addr} {n n' c c' : Nat} {ch : Int} (h : RBox w g a n c ch) : RBox (w.setCell ⟨g, 0, none⟩ (.slice a' n' c')) g a' n' c' ch := by
  have h' : w.heap[g]? = _ := h
  simp [RBox, World.setCell, Array.getElem?_modify, h']
theorem RBox.cg {w : World} {g : Nat} {a : Option Addr} {n c : Nat} {ch ch' : Int} (h : RBox w g a n c ch) : RBox (w.setCell ⟨g, 1, none⟩ (.int .i64 ch')) g a n c ch' := by
  have h' : w.heap[g]? = _ := h
  simp [RBox, World.setCell, Array.getElem?_modify, h']
theorem RBox.off {w : World} {g : Nat} {a : Option Addr} {n c : Nat} {ch : Int} (h : RBox w g a n c ch) (x : Addr) (u : Value) (hx : ¬ g = x.block) : RBox (w.setCell x u) g a n c ch := (Below.heap_setCell w x u g hx).trans h
def HoldP (w : World) (R : List (Int × Ent)) (ch : Int) (e : Ending) (w' : World) : Prop := ∃ a c, e = .returned (.agg #[.slice a R.length c, .int .i64 ch]) ∧ w'.ownsRow w.heap.size 77 7 (.slice a R.length c) R.length (fr R) ∧ Below w.heap.size w w'
set_option maxRecDepth 100000 in
set_option maxHeartbeats 4000000 in
theorem hold_any (w : World) (base n c p : Nat) (a : Option Addr) (R : List (Int × Ent)) (ch : Int) (x : Int × Ent) (B : Option Addr) (m k : Nat) (l : List Int) (h : w.ownsRow base 77 7 (.slice a n c) n (fr R)) (hnl : n = R.length) (hn : R.length ≤ 1000) (hx : R[p]? = some x) (hc : 0 ≤ ch ∧ ch ≤ 1000000) (hB : Byt w w.heap.size B m k l) (hr : ∀ y ∈ x.2.b, 0 ≤ y ∧ y ≤ 255) :
    Calls Try.prog 81 #[.agg #[.slice a n c, .int .i64 ch], .int .i64 (p : Nat), .slice B m k] w (HoldP w (R.set p (x.1, ⟨x.2.k, x.2.a, x.2.lo, x.2.hi, l⟩)) (givC ch x.2 l)) := by
  have hpl : p < n := by rw [hnl]; exact (List.getElem?_eq_some_iff.1 hx).1
  have hb0 : Below w.heap.size w ((w.alloc (.cells #[.slice a n c, .int .i64 ch] 33)).alloc (.cells #[.slice none 0 0, .int .i64 0] 33)) := ((Below.refl _ _).alloc (Nat.le_refl _) _).alloc (by simp) _
  have hr0 : RBox ((w.alloc (.cells #[.slice a n c, .int .i64 ch] 33)).alloc (.cells #[.slice none 0 0, .int .i64 0] 33)) w.heap.size a n c ch := heap_alloc2_old w _ _
  have hz0 : RBox ((w.alloc (.cells #[.slice a n c, .int .i64 ch] 33)).alloc (.cells #[.slice none 0 0, .int .i64 0] 33)) (w.heap.size + 1) none 0 0 0 := heap_alloc2_new w _ _
  have hsz0 : ((w.alloc (.cells #[.slice a n c, .int .i64 ch] 33)).alloc (.cells #[.slice none 0 0, .int .i64 0] 33)).heap.size = w.heap.size + 2 := by simp
  obtain ⟨gs, cs, cur, e1, _, hgs, hns, hms, _⟩ := own_some h (by omega)
  cases e1
  have hlt : gs < w.heap.size := (Array.getElem?_eq_some_iff.1 hgs).1
  have hb1 : Below ((w.alloc (.cells #[.slice (some ⟨gs, 0, none⟩) n c, .int .i64 ch] 33)).alloc (.cells #[.slice none 0 0, .int .i64 0] 33)).heap.size ((w.alloc (.cells #[.slice (some ⟨gs, 0, none⟩) n c, .int .i64 ch] 33)).alloc (.cells #[.slice none 0 0, .int .i64 0] 33)) (((w.alloc (.cells #[.slice (some ⟨gs, 0, none⟩) n c, .int .i64 ch] 33)).alloc (.cells #[.slice none 0 0, .int .i64 0] 33)).alloc (.cells #[] 77)) := (Below.refl _ _).alloc (Nat.le_refl _) _
  have hfl := fr_len R
  have hsrc : Hid (∀ j u, (fr R)[j]? = some u → (((w.alloc (.cells #[.slice (some ⟨gs, 0, none⟩) n c, .int .i64 ch] 33)).alloc (.cells #[.slice none 0 0, .int .i64 0] 33)).alloc (.cells #[] 77)).cell? ((⟨gs, 0, none⟩ : Addr).add j) = some u) := Lib.hid fun j u hu => by
    rw [add_plainR, Nat.zero_add, (kF hb1 hb0).cell (p := ⟨gs, j, none⟩) hlt, own_cell h (by have := (List.getElem?_eq_some_iff.1 hu).1; omega), hu]
  obtain ⟨i0, hi, hz0', hz1', hz2'⟩ := info_parts info_elR
  have HO := Lib.hid (show (((w.alloc (.cells #[.slice (some ⟨gs, 0, none⟩) n c, .int .i64 ch] 33)).alloc (.cells #[.slice none 0 0, .int .i64 0] 33)).alloc (.cells #[] 77)).ownsRow (w.heap.size + 2) 77 7 (.slice (some ⟨((w.alloc (.cells #[.slice (some ⟨gs, 0, none⟩) n c, .int .i64 ch] 33)).alloc (.cells #[.slice none 0 0, .int .i64 0] 33)).heap.size, 0, none⟩) 0 0) 0 [] from own_made ((w.alloc (.cells #[.slice (some ⟨gs, 0, none⟩) n c, .int .i64 ch] 33)).alloc (.cells #[.slice none 0 0, .int .i64 0] 33)) (w.heap.size + 2) 77 7 (Nat.le_of_eq hsz0.symm))
  have HSZ := Lib.hid hsz0
  have HSZ1 := Lib.hid (show w.heap.size + 2 ≤ (((w.alloc (.cells #[.slice (some ⟨gs, 0, none⟩) n c, .int .i64 ch] 33)).alloc (.cells #[.slice none 0 0, .int .i64 0] 33)).alloc (.cells #[] 77)).heap.size by simp)
  clear hsz0
  have HB0 := Lib.hid hb0
  have HBZ := Lib.hid hb1
  have HI := Lib.hid hi
  have HL := Lib.hid (show (fr R).length = n * 7 by rw [fr_len, hnl])
  have HX := Lib.hid (fr_one R)
  have HR0 := Lib.hid hr0
  have HZ0 := Lib.hid hz0
  have HCV := Lib.hid (fun y (hy : Below w.heap.size w y) => conv_any (hB.step hy))
  have HFIN := Lib.hid (fun (w' : World) (g' c' : Nat) (C : Int) (hC : givC ch x.2 l = C) (ho : w'.ownsRow (w.heap.size + 2) 77 7 (.slice (some ⟨g', 0, none⟩) n c') n (fr (R.set p (x.1, ⟨x.2.k, x.2.a, x.2.lo, x.2.hi, l⟩)))) (hb : Below w.heap.size w w') =>
    show HoldP w (R.set p (x.1, ⟨x.2.k, x.2.a, x.2.lo, x.2.hi, l⟩)) (givC ch x.2 l) (.returned (.agg #[.slice (some ⟨g', 0, none⟩) n c', .int .i64 C])) w' from
      ⟨some ⟨g', 0, none⟩, c', by rw [hC, List.length_set, hnl], by rw [List.length_set, ← hnl]; exact own_less ho (by omega), hb⟩)
  have he := str_eq hr hB.rng
  have hzn : R.length ≤ 1000 := hn
  rw [← hnl] at hzn
  simp only [maxLen] at hms
  clear h hB hr hgs hfl hb0 hr0 hz0 hi hnl hn
  have hr1 := HR0.out.below HBZ.out
  obtain ⟨d0, d1⟩ := hr1.cells
  go_enter Try.func81, Try.ntmps81
  go_upto_region 1 with fail
  generalize ((w.alloc (.cells #[.slice (some ⟨gs, 0, none⟩) n c, .int .i64 ch] 33)).alloc (.cells #[.slice none 0 0, .int .i64 0] 33)) = w0 at *
  generalize hRS : R.set p (x.1, ⟨x.2.k, x.2.a, x.2.lo, x.2.hi, l⟩) = RS at *
  go_wp2_with (at_builtin; refine wpList_append_own _ rfl (.tmp 8) (.tmp 10) 31 rfl (w.heap.size + 2) 77 i0 (.agg #[.int .i64 0, .int .i64 0, .int .i64 0, .int .i64 0, .int .i64 0, .int .i64 0, .string ByteArray.empty]) 7 64 Try.underlying31 HI.out hz0' hz1' hz2' rfl (by omega) _ 0 [] rfl HO.out ⟨gs, 0, none⟩ n c (fr R) rfl HL.out hsrc.out HX.out (by simp [maxLen]; omega) (by omega) HSZ1.out ?_; intro v' w' r1 r2 _)
  rw [Nat.zero_add, List.nil_append] at r1
  obtain ⟨gr, cap', cur', rfl, hgr, hgr', hcn, hcm, -⟩ := own_some r1 (by omega)
  simp only [maxLen] at hcm
  have hgl : gr < w'.heap.size := (Array.getElem?_eq_some_iff.1 hgr').1
  have hbw : Below w0.heap.size w0 w' := HBZ.out.grown r2 HBZ.out.size (fun k e => by cases e; exact Nat.le_refl _)
  have HO2 := Lib.hid r1
  have HR2 := Lib.hid (HR0.out.below hbw)
  have HZ2 := Lib.hid (HZ0.out.below hbw)
  have HB2 := Lib.hid (kF hbw HB0.out)
  obtain ⟨-, -, -, -, -, -, k6⟩ := cellsR r1 hx
  have hcv : ∀ kk, (convert 58 9 (.slice B m k)).run Try.prog (w'.drewN kk) = .ok (.string (strOfNums l)) (w'.drewN kk) := fun kk => HCV.out _ (below_drewN HB2.out kk)
  have hpI : (p : Int) < (n : Int) := by omega
  clear r1 r2 hgr' hbw hr1 d0 d1 HO HBZ hsrc HI HX HL hz0' hz1' hz2' HR0 HZ0 HB0
  subst hRS
  by_cases hl : l = x.2.b
  · have he2 : ((strOfNums x.2.b).toList == (strOfNums l).toList) = true := by rw [he]; exact decide_eq_true hl.symm
    have CH0 := Lib.hid (show givC ch x.2 l = ch from if_pos hl)
    clear he hl
    obtain ⟨d0, d1⟩ := HR2.out.cells
    go_quiet (fail)
    clear k6 hcv d0 d1
    have HO5 := Lib.hid (own_keep HO2.out (below_drewN (Below.refl _ _) nq))
    have HR5' := Lib.hid (HR2.out.below (below_drewN (Below.refl _ _) nq))
    have HZ5 := Lib.hid (HZ2.out.below (below_drewN (Below.refl _ _) nq))
    have HB5 := Lib.hid (below_drewN HB2.out nq)
    clear HO2 HR2 HZ2 HB2
    generalize w'.drewN nq = w5 at *
    go_upto_region 4 with fail
    have HR5 : Hid (RBox w5 w.heap.size (some ⟨gs, 0, none⟩) n c ch) := HR5'
    obtain ⟨d0, d1⟩ := HR5.out.cells
    obtain ⟨-, -, -, -, -, -, k6⟩ := cellsR HO5.out hx
    have fk6 := HO5.out.frozenAt (p * 7 + 6)
    have hcv5 := HCV.out w5 HB5.out
    go_upto_region 5 with fail
    have h6 := HO5.out.stored (p * 7 + 6) (.string (strOfNums l))
    rw [fr_set R p x l hx] at h6
    have HO6 := Lib.hid h6.1
    have HR6 := Lib.hid (HR5.out.off ⟨gr, p * 7 + 6, none⟩ (.string (strOfNums l)) (by show ¬ w.heap.size = gr; omega))
    have HZ6 := Lib.hid (HZ5.out.off ⟨gr, p * 7 + 6, none⟩ (.string (strOfNums l)) (by show ¬ w.heap.size + 1 = gr; omega))
    have HB6 := Lib.hid (HB5.out.setCell (p := ⟨gr, p * 7 + 6, none⟩) (by show w.heap.size ≤ gr; omega) (.string (strOfNums l)))
    clear h6 k6 fk6 hcv5 d0 d1 HR5 HZ5 HB5 HO5
    generalize w5.setCell ⟨gr, p * 7 + 6, none⟩ (.string (strOfNums l)) = w6 at *
    obtain ⟨d0, d1⟩ := HR6.out.cells
    have fb0 : w6.frozen? ⟨w.heap.size, 0, none⟩ = false := frozen_of_row _ _ _ _ _ HR6.out
    go_upto_region 6 with fail
    have HR7 := Lib.hid (HR6.out.sl (a' := some ⟨gr, 0, none⟩) (n' := n) (c' := cap'))
    have HZ7 := Lib.hid (HZ6.out.off ⟨w.heap.size, 0, none⟩ (.slice (some ⟨gr, 0, none⟩) n cap') (by show ¬ w.heap.size + 1 = w.heap.size; omega))
    have HB7 := Lib.hid (HB6.out.setCell (p := ⟨w.heap.size, 0, none⟩) (Nat.le_refl _) (.slice (some ⟨gr, 0, none⟩) n cap'))
    have HO7 := Lib.hid (ownsRow_setCell_other HO6.out (a := ⟨w.heap.size, 0, none⟩) (fun e => by simp [Value.ownBlock] at e; omega) (.slice (some ⟨gr, 0, none⟩) n cap'))
    clear HR6 HZ6 HB6 HO6 d0 d1 fb0
    generalize w6.setCell ⟨w.heap.size, 0, none⟩ (.slice (some ⟨gr, 0, none⟩) n cap') = w7 at *
    obtain ⟨d0, d1⟩ := HR7.out.cells
    obtain ⟨z0, z1⟩ := HZ7.out.cells
    have fz0 : w7.frozen? ⟨w.heap.size + 1, 0, none⟩ = false := frozen_of_row _ _ _ _ _ HZ7.out
    have fz1 : w7.frozen? ⟨w.heap.size + 1, 1, none⟩ = false := frozen_of_row _ _ _ _ _ HZ7.out
    go_wp2_with fail
    exact bodyPost_ret (results_cell_row rfl _ _ (w.heap.size + 1) _ _ _ _ rfl HZ7.out.two Try.underlying33 rfl info_dct) rfl (HFIN.out _ gr cap' ch CH0.out (ownsRow_setCell_other (ownsRow_setCell_other HO7.out (a := ⟨w.heap.size + 1, 0, none⟩) (fun e => by simp [Value.ownBlock] at e; omega) _) (a := ⟨w.heap.size + 1, 1, none⟩) (fun e => by simp [Value.ownBlock] at e; omega) _) ((HB7.out.setCell (p := ⟨w.heap.size + 1, 0, none⟩) (by show w.heap.size ≤ w.heap.size + 1; omega) _).setCell (p := ⟨w.heap.size + 1, 1, none⟩) (by show w.heap.size ≤ w.heap.size + 1; omega) _))
  · have he2 : ((strOfNums x.2.b).toList == (strOfNums l).toList) = false := by rw [he]; exact decide_eq_false (fun e => hl e.symm)
    have CH0 := Lib.hid (show givC ch x.2 l = ch + 1 from if_neg hl)
    clear he hl
    obtain ⟨d0, d1⟩ := HR2.out.cells
    go_quiet (fail)
    clear k6 hcv d0 d1
    have HO4 := Lib.hid (own_keep HO2.out (below_drewN (Below.refl _ _) nq))
    have HR4 := Lib.hid (HR2.out.below (below_drewN (Below.refl _ _) nq))
    have HZ4 := Lib.hid (HZ2.out.below (below_drewN (Below.refl _ _) nq))
    have HB4 := Lib.hid (below_drewN HB2.out nq)
    clear HO2 HR2 HZ2 HB2
    generalize w'.drewN nq = w4 at *
    obtain ⟨d0, d1⟩ := HR4.out.cells
    have fb1 : w4.frozen? ⟨w.heap.size, 1, none⟩ = false := frozen_of_row _ _ _ _ _ HR4.out
    go_upto_region 4 with fail
    have HR5' := Lib.hid (HR4.out.cg (ch' := ch + 1))
    have HZ5 := Lib.hid (HZ4.out.off ⟨w.heap.size, 1, none⟩ (.int .i64 (ch + 1)) (by show ¬ w.heap.size + 1 = w.heap.size; omega))
    have HB5 := Lib.hid (HB4.out.setCell (p := ⟨w.heap.size, 1, none⟩) (Nat.le_refl _) (.int .i64 (ch + 1)))
    have HO5 := Lib.hid (ownsRow_setCell_other HO4.out (a := ⟨w.heap.size, 1, none⟩) (fun e => by simp [Value.ownBlock] at e; omega) (.int .i64 (ch + 1)))
    clear HR4 HZ4 HB4 HO4 d0 d1 fb1
    generalize w4.setCell ⟨w.heap.size, 1, none⟩ (.int .i64 (ch + 1)) = w5 at *
    have HR5 : Hid (RBox w5 w.heap.size (some ⟨gs, 0, none⟩) n c (ch + 1)) := HR5'
    obtain ⟨d0, d1⟩ := HR5.out.cells
    obtain ⟨-, -, -, -, -, -, k6⟩ := cellsR HO5.out hx
    have fk6 := HO5.out.frozenAt (p * 7 + 6)
    have hcv5 := HCV.out w5 HB5.out
    go_upto_region 5 with fail
    have h6 := HO5.out.stored (p * 7 + 6) (.string (strOfNums l))
    rw [fr_set R p x l hx] at h6
    have HO6 := Lib.hid h6.1
    have HR6 := Lib.hid (HR5.out.off ⟨gr, p * 7 + 6, none⟩ (.string (strOfNums l)) (by show ¬ w.heap.size = gr; omega))
    have HZ6 := Lib.hid (HZ5.out.off ⟨gr, p * 7 + 6, none⟩ (.string (strOfNums l)) (by show ¬ w.heap.size + 1 = gr; omega))
    have HB6 := Lib.hid (HB5.out.setCell (p := ⟨gr, p * 7 + 6, none⟩) (by show w.heap.size ≤ gr; omega) (.string (strOfNums l)))
    clear h6 k6 fk6 hcv5 d0 d1 HR5 HZ5 HB5 HO5
    generalize w5.setCell ⟨gr, p * 7 + 6, none⟩ (.string (strOfNums l)) = w6 at *
    obtain ⟨d0, d1⟩ := HR6.out.cells
    have fb0 : w6.frozen? ⟨w.heap.size, 0, none⟩ = false := frozen_of_row _ _ _ _ _ HR6.out
    go_upto_region 6 with fail
    have HR7 := Lib.hid (HR6.out.sl (a' := some ⟨gr, 0, none⟩) (n' := n) (c' := cap'))
    have HZ7 := Lib.hid (HZ6.out.off ⟨w.heap.size, 0, none⟩ (.slice (some ⟨gr, 0, none⟩) n cap') (by show ¬ w.heap.size + 1 = w.heap.size; omega))
    have HB7 := Lib.hid (HB6.out.setCell (p := ⟨w.heap.size, 0, none⟩) (Nat.le_refl _) (.slice (some ⟨gr, 0, none⟩) n cap'))
    have HO7 := Lib.hid (ownsRow_setCell_other HO6.out (a := ⟨w.heap.size, 0, none⟩) (fun e => by simp [Value.ownBlock] at e; omega) (.slice (some ⟨gr, 0, none⟩) n cap'))
    clear HR6 HZ6 HB6 HO6 d0 d1 fb0
    generalize w6.setCell ⟨w.heap.size, 0, none⟩ (.slice (some ⟨gr, 0, none⟩) n cap') = w7 at *
    obtain ⟨d0, d1⟩ := HR7.out.cells
    obtain ⟨z0, z1⟩ := HZ7.out.cells
    have fz0 : w7.frozen? ⟨w.heap.size + 1, 0, none⟩ = false := frozen_of_row _ _ _ _ _ HZ7.out
    have fz1 : w7.frozen? ⟨w.heap.size + 1, 1, none⟩ = false := frozen_of_row _ _ _ _ _ HZ7.out
    go_wp2_with fail
    exact bodyPost_ret (results_cell_row rfl _ _ (w.heap.size + 1) _ _ _ _ rfl HZ7.out.two Try.underlying33 rfl info_dct) rfl (HFIN.out _ gr cap' (ch + 1) CH0.out (ownsRow_setCell_other (ownsRow_setCell_other HO7.out (a := ⟨w.heap.size + 1, 0, none⟩) (fun e => by simp [Value.ownBlock] at e; omega) _) (a := ⟨w.heap.size + 1, 1, none⟩) (fun e => by simp [Value.ownBlock] at e; omega) _) ((HB7.out.setCell (p := ⟨w.heap.size + 1, 0, none⟩) (by show w.heap.size ≤ w.heap.size + 1; omega) _).setCell (p := ⟨w.heap.size + 1, 1, none⟩) (by show w.heap.size ≤ w.heap.size + 1; omega) _))
end Go.Proofs.Ytgaoplbocjadaaa
