/- The document's Read and Num. -/
import Derived.Test.YtmfjndkopkjchaaDx
import Derived.Test.YtmfjndkopkjchaaDv
namespace Go.Proofs.Ytmfjndkopkjchaa
open Go.RowKit
set_option linter.unusedSimpArgs false
set_option linter.unusedVariables false

def RdP (w : World) (R : List (Int × Ent)) (i q : Int) (e : Ending) (w' : World) : Prop := Below w.heap.size w w' ∧
  (((∀ y ∈ R, ¬ y.1 = q) ∧ (((∃ x ∈ R, x.1 / 256 = i) ∧ e = .returned (.tuple #[.string ⟨#[]⟩, .int .i64 101253137])) ∨ ((∀ y ∈ R, ¬ y.1 / 256 = i) ∧ e = .returned (.tuple #[.string ⟨#[]⟩, .int .i64 100794368])))) ∨
   ∃ (p : Nat) (x : Int × Ent), R[p]? = some x ∧ x.1 = q ∧ ((¬ readsI x.2.a = 0 ∧ e = .returned (.tuple #[.string ⟨#[]⟩, .int .i64 (readsI x.2.a)])) ∨ (readsI x.2.a = 0 ∧ e = .returned (.tuple #[.string (strOfNums x.2.b), .int .i64 0]))))
set_option maxRecDepth 100000 in
set_option maxHeartbeats 4000000 in
theorem dread_ref (w : World) (base n c : Nat) (a : Option Addr) (R : List (Int × Ent)) (ch i j : Int) (h : w.ownsRow base 57 7 (.slice a n c) n (fr R)) (hnl : n = R.length) (hn : R.length ≤ 1000) (hok : ∀ x ∈ R, okE x) :
    Calls Try.prog 12 #[.agg #[.slice a n c, .int .i64 ch], .agg #[.int .i64 i, .int .i64 j]] w (RdP w R i (numI i j)) := by
  have hb0 : Below w.heap.size w ((w.alloc (.cells #[.slice a n c, .int .i64 ch] 27)).alloc (.cells #[.int .i64 i, .int .i64 j] 31)) := ((Below.refl _ _).alloc (Nat.le_refl _) _).alloc (by simp) _
  have hr0 : RBox ((w.alloc (.cells #[.slice a n c, .int .i64 ch] 27)).alloc (.cells #[.int .i64 i, .int .i64 j] 31)) w.heap.size a n c ch := heap_alloc2_old w _ _
  have hk0 : Key2 ((w.alloc (.cells #[.slice a n c, .int .i64 ch] 27)).alloc (.cells #[.int .i64 i, .int .i64 j] 31)) (w.heap.size + 1) i j := heap_alloc2_new w _ _
  have HAT := Lib.hid (fun x (hx : Below w.heap.size w x) => rat_any x base n c a R ch i j (by rw [← hnl]; exact own_keep h hx) hnl hn (fun y hy => (hok y hy).1))
  have HMS := Lib.hid (fun x (hx : Below w.heap.size w x) => rmis_any x base n c a R ch i j (by rw [← hnl]; exact own_keep h hx) hnl hn)
  have HC := Lib.hid (fun x (hx : Below w.heap.size w x) p y (hy : R[p]? = some y) => rowsR_at (own_keep h hx) hy)
  have HLT := Lib.hid (fun (p : Nat) (y : Int × Ent) (hy : R[p]? = some y) => show p < n from by rw [hnl]; exact (List.getElem?_eq_some_iff.1 hy).1)
  have HB0 := Lib.hid hb0
  have HR0 := Lib.hid hr0
  have HK0 := Lib.hid hk0
  obtain ⟨c0, c1⟩ := hk0.cells
  obtain ⟨d0, d1⟩ := hr0.cells
  have HF1 := Lib.hid (fun w' (hb : Below w.heap.size w w') (p : Nat) (x : Int × Ent) (hx : R[p]? = some x) (hq : x.1 = numI i j) (hr : ¬ readsI x.2.a = 0) => show RdP w R i (numI i j) (.returned (.tuple #[.string ⟨#[]⟩, .int .i64 (readsI x.2.a)])) w' from ⟨hb, .inr ⟨p, x, hx, hq, .inl ⟨hr, rfl⟩⟩⟩)
  have HF2 := Lib.hid (fun w' (hb : Below w.heap.size w w') (p : Nat) (x : Int × Ent) (hx : R[p]? = some x) (hq : x.1 = numI i j) (hr : readsI x.2.a = 0) => show RdP w R i (numI i j) (.returned (.tuple #[.string (strOfNums x.2.b), .int .i64 0])) w' from ⟨hb, .inr ⟨p, x, hx, hq, .inr ⟨hr, rfl⟩⟩⟩)
  have HF3 := Lib.hid (fun w' (hb : Below w.heap.size w w') (hno : ∀ y ∈ R, ¬ y.1 = numI i j) (hy : ∃ x ∈ R, x.1 / 256 = i) => show RdP w R i (numI i j) (.returned (.tuple #[.string ⟨#[]⟩, .int .i64 101253137])) w' from ⟨hb, .inl ⟨hno, .inl ⟨hy, rfl⟩⟩⟩)
  have HF4 := Lib.hid (fun w' (hb : Below w.heap.size w w') (hno : ∀ y ∈ R, ¬ y.1 = numI i j) (hy : ∀ y ∈ R, ¬ y.1 / 256 = i) => show RdP w R i (numI i j) (.returned (.tuple #[.string ⟨#[]⟩, .int .i64 100794368])) w' from ⟨hb, .inl ⟨hno, .inr ⟨hy, rfl⟩⟩⟩)
  clear h hok hb0 hr0 hk0 hnl hn
  generalize numI i j = q at *
  go_enter Try.func12, Try.ntmps12
  go_wp2_with fail
  generalize ((w.alloc (.cells #[.slice a n c, .int .i64 ch] 27)).alloc (.cells #[.int .i64 i, .int .i64 j] 31)) = w0 at *
  refine (HAT.out w0 HB0.out).mono ?_
  rintro e w1 ⟨hb1, ⟨p, x, hx, hxq, -, rfl⟩ | ⟨hno, rfl⟩⟩
  · have HB1 := Lib.hid (kF hb1 HB0.out)
    have HR1 := Lib.hid (HR0.out.below hb1)
    obtain ⟨gr, ea, hg, hnc, hm, -, -, -, -, -, -, -⟩ := HC.out w1 HB1.out p x hx
    subst ea
    simp only [maxLen] at hm
    have hpn := HLT.out p x hx
    have hpI : (p : Int) < (n : Int) := by omega
    have hp0 : ¬ (p : Int) < 0 := by omega
    have HP := Lib.hid (And.intro hx hxq)
    have HCX := Lib.hid (fun y (hy : Below w.heap.size w y) => show Cells7 y gr (p * 7) x from by obtain ⟨g', e', _, _, _, hk⟩ := HC.out y hy p x hx; cases e'; exact hk)
    clear hb1 hxq hx HMS HAT HC c0 c1 d0 d1 hpn HLT
    obtain ⟨d0, d1⟩ := HR1.out.cells
    obtain ⟨-, -, k2, k3, k4, k5, k6⟩ := HCX.out w1 HB1.out
    go_wp2_with fail
    refine (rreads_any x.2.a w1).mono ?_
    rintro e w2 ⟨rfl, hb2⟩
    have HB2 := Lib.hid (kF hb2 HB1.out)
    have HR2 := Lib.hid (HR1.out.below hb2)
    clear hb2 d0 d1 k2 k3 k4 k5 k6
    obtain ⟨d0, d1⟩ := HR2.out.cells
    obtain ⟨-, -, -, -, -, -, k6⟩ := HCX.out w2 HB2.out
    by_cases hw : readsI x.2.a = 0
    · have HW := Lib.hid hw
      have t2 : (readsI x.2.a != 0) = false := by simp [hw]
      clear hw
      go_wp2_with fail
      go_ret2
      exact HF2.out _ HB2.out p x HP.out.1 HP.out.2 HW.out
    · have HW := Lib.hid hw
      have t2 : (readsI x.2.a != 0) = true := by simp [hw]
      clear hw
      go_wp2_with fail
      go_ret2
      exact HF1.out _ HB2.out p x HP.out.1 HP.out.2 HW.out
  · have HNO := Lib.hid hno
    have HB1 := Lib.hid (kF hb1 HB0.out)
    have HR1 := Lib.hid (HR0.out.below hb1)
    have HK1 := Lib.hid (HK0.out.below hb1)
    clear hb1 hno c0 c1 d0 d1
    obtain ⟨d0, d1⟩ := HR1.out.cells
    obtain ⟨c0, c1⟩ := HK1.out.cells
    go_wp2_with fail
    refine (HMS.out w1 HB1.out).mono ?_
    rintro e w2 ⟨hb2, ⟨hy, rfl⟩ | ⟨hy, rfl⟩⟩
    · have HY := Lib.hid hy
      have HB2 := Lib.hid (kF hb2 HB1.out)
      clear hy hb2
      go_wp2_with fail
      go_ret2
      exact HF3.out _ HB2.out HNO.out HY.out
    · have HY := Lib.hid hy
      have HB2 := Lib.hid (kF hb2 HB1.out)
      clear hy hb2
      go_wp2_with fail
      go_ret2
      exact HF4.out _ HB2.out HNO.out HY.out
end Go.Proofs.Ytmfjndkopkjchaa
namespace Go.Proofs.Ytmfjndkopkjchaa
open Go.RowKit
set_option linter.unusedSimpArgs false
set_option linter.unusedVariables false

def NmP (w : World) (R : List (Int × Ent)) (q : Int) (e : Ending) (w' : World) : Prop := Below w.heap.size w w' ∧
  (((∀ y ∈ R, ¬ y.1 = q) ∧ e = .returned (.tuple #[.int .i64 0, .bool false])) ∨
   ∃ (p : Nat) (x : Int × Ent), R[p]? = some x ∧ x.1 = q ∧ e = .returned (.tuple #[.int .i64 (numN x.2.k x.2.a x.2.lo x.2.hi x.2.b), .bool (numB x.2.k x.2.a x.2.lo x.2.hi x.2.b)]))
set_option maxRecDepth 100000 in
set_option maxHeartbeats 4000000 in
theorem dnum_ref (w : World) (base n c : Nat) (a : Option Addr) (R : List (Int × Ent)) (ch i j : Int) (h : w.ownsRow base 57 7 (.slice a n c) n (fr R)) (hnl : n = R.length) (hn : R.length ≤ 1000) (hok : ∀ x ∈ R, okE x) :
    Calls Try.prog 14 #[.agg #[.slice a n c, .int .i64 ch], .agg #[.int .i64 i, .int .i64 j]] w (NmP w R (numI i j)) := by
  have hb0 : Below w.heap.size w ((w.alloc (.cells #[.slice a n c, .int .i64 ch] 27)).alloc (.cells #[.int .i64 i, .int .i64 j] 31)) := ((Below.refl _ _).alloc (Nat.le_refl _) _).alloc (by simp) _
  have hr0 : RBox ((w.alloc (.cells #[.slice a n c, .int .i64 ch] 27)).alloc (.cells #[.int .i64 i, .int .i64 j] 31)) w.heap.size a n c ch := heap_alloc2_old w _ _
  have hk0 : Key2 ((w.alloc (.cells #[.slice a n c, .int .i64 ch] 27)).alloc (.cells #[.int .i64 i, .int .i64 j] 31)) (w.heap.size + 1) i j := heap_alloc2_new w _ _
  have HAT := Lib.hid (fun x (hx : Below w.heap.size w x) => rat_any x base n c a R ch i j (by rw [← hnl]; exact own_keep h hx) hnl hn (fun y hy => (hok y hy).1))
  have HMS := Lib.hid (fun x (hx : Below w.heap.size w x) => rmis_any x base n c a R ch i j (by rw [← hnl]; exact own_keep h hx) hnl hn)
  have HC := Lib.hid (fun x (hx : Below w.heap.size w x) p y (hy : R[p]? = some y) => rowsR_at (own_keep h hx) hy)
  have HLT := Lib.hid (fun (p : Nat) (y : Int × Ent) (hy : R[p]? = some y) => show p < n from by rw [hnl]; exact (List.getElem?_eq_some_iff.1 hy).1)
  have HTB := Lib.hid (fun x p y (hy : R[p]? = some y) => to_bytes x y.2.b (hok y (List.mem_of_getElem? hy)).2.2.1 (hok y (List.mem_of_getElem? hy)).2.2.2)
  have HB0 := Lib.hid hb0
  have HR0 := Lib.hid hr0
  have HK0 := Lib.hid hk0
  obtain ⟨c0, c1⟩ := hk0.cells
  obtain ⟨d0, d1⟩ := hr0.cells
  have HF1 := Lib.hid (fun w' (hb : Below w.heap.size w w') (p : Nat) (x : Int × Ent) (hx : R[p]? = some x) (hq : x.1 = numI i j) => show NmP w R (numI i j) (.returned (.tuple #[.int .i64 (numN x.2.k x.2.a x.2.lo x.2.hi x.2.b), .bool (numB x.2.k x.2.a x.2.lo x.2.hi x.2.b)])) w' from ⟨hb, .inr ⟨p, x, hx, hq, rfl⟩⟩)
  have HF3 := Lib.hid (fun w' (hb : Below w.heap.size w w') (hno : ∀ y ∈ R, ¬ y.1 = numI i j) => show NmP w R (numI i j) (.returned (.tuple #[.int .i64 0, .bool false])) w' from ⟨hb, .inl ⟨hno, rfl⟩⟩)
  clear h hok hb0 hr0 hk0 hnl hn
  generalize numI i j = q at *
  go_enter Try.func14, Try.ntmps14
  go_wp2_with fail
  generalize ((w.alloc (.cells #[.slice a n c, .int .i64 ch] 27)).alloc (.cells #[.int .i64 i, .int .i64 j] 31)) = w0 at *
  refine (HAT.out w0 HB0.out).mono ?_
  rintro e w1 ⟨hb1, ⟨p, x, hx, hxq, -, rfl⟩ | ⟨hno, rfl⟩⟩
  · have HB1 := Lib.hid (kF hb1 HB0.out)
    have HR1 := Lib.hid (HR0.out.below hb1)
    obtain ⟨gr, ea, hg, hnc, hm, -, -, -, -, -, -, -⟩ := HC.out w1 HB1.out p x hx
    subst ea
    simp only [maxLen] at hm
    have hpn := HLT.out p x hx
    have hpI : (p : Int) < (n : Int) := by omega
    have hp0 : ¬ (p : Int) < 0 := by omega
    have HP := Lib.hid (And.intro hx hxq)
    have HCX := Lib.hid (fun y (hy : Below w.heap.size w y) => show Cells7 y gr (p * 7) x from by obtain ⟨g', e', _, _, _, hk⟩ := HC.out y hy p x hx; cases e'; exact hk)
    obtain ⟨cc, w4, hcv, hby, hb4⟩ := HTB.out w1.drew p x hx
    clear hb1 hxq hx HTB HMS HAT HC c0 c1 d0 d1 hpn HLT
    obtain ⟨d0, d1⟩ := HR1.out.cells
    obtain ⟨-, -, k2, k3, k4, k5, k6⟩ := HCX.out w1 HB1.out
    have hS : ∀ y, Below w1.heap.size w1 y → y.cell? ⟨w.heap.size, 0, none⟩ = some (.slice (some ⟨gr, 0, none⟩) n c) ∧ y.cell? ⟨gr, p * 7 + 2, none⟩ = some (.int .i64 x.2.k) ∧ y.cell? ⟨gr, p * 7 + 3, none⟩ = some (.int .i64 x.2.a) ∧ y.cell? ⟨gr, p * 7 + 4, none⟩ = some (.int .i64 x.2.lo) ∧ y.cell? ⟨gr, p * 7 + 5, none⟩ = some (.int .i64 x.2.hi) ∧ y.cell? ⟨gr, p * 7 + 6, none⟩ = some (.string (strOfNums x.2.b)) := fun y hy => by
      obtain ⟨-, -, q2, q3, q4, q5, q6⟩ := HCX.out y (kF hy HB1.out)
      exact ⟨(HR1.out.below hy).cells.1, q2, q3, q4, q5, q6⟩
    have HS := Lib.hid hS
    have HB4 := Lib.hid (kF hb4 (kD w1))
    have hn4 := rnum_any x.2.k x.2.a x.2.lo x.2.hi w4 _ _ _ _ hby
    have HN4 := Lib.hid hn4
    have hdz : w1.drew.heap.size = w1.heap.size := rfl
    rw [hdz] at hcv
    generalize x.2.b.length = BL at *
    clear hS hb4 hby hn4 d0 d1 k2 k3 k4 k5 k6 hdz
    have HCV := Lib.hid hcv
    clear hcv
    go_wp2_with fail
    refine wp_region_last (fun w' => w'.cell? ⟨w.heap.size, 0, none⟩ = some (.slice (some ⟨gr, 0, none⟩) n c) ∧ w'.cell? ⟨gr, p * 7 + 2, none⟩ = some (.int .i64 x.2.k) ∧ w'.cell? ⟨gr, p * 7 + 3, none⟩ = some (.int .i64 x.2.a) ∧ w'.cell? ⟨gr, p * 7 + 4, none⟩ = some (.int .i64 x.2.lo) ∧ w'.cell? ⟨gr, p * 7 + 5, none⟩ = some (.int .i64 x.2.hi) ∧ w'.cell? ⟨gr, p * 7 + 6, none⟩ = some (.string (strOfNums x.2.b))) 17 (by kernel_rfl) (HS.out _ (kD _)) (fun hHeld => ?_)
    refine wpAnyL_take (i := 0) (v := ?_) rfl (by kernel_rfl) (by kernel_rfl) (by kernel_rfl) (by kernel_rfl) (by kernel_rfl) (fun _ _ _ h => h) (Or.inl ⟨by rfl, ?_⟩) (by assumption) ?_
    rotate_left
    · intro wq hSw; (try dsimp only at hSw); first | (go_simp; done) | (go_simp; with_reducible rfl) | with_reducible rfl
    try simp only [Act.put, List.setIfInBounds_toArray, List.set_cons_zero, List.set_cons_succ]
    refine wpAnyL_take (i := 1) (v := ?_) rfl (by kernel_rfl) (by kernel_rfl) (by kernel_rfl) (by kernel_rfl) (by kernel_rfl) (fun _ _ _ h => h) (Or.inl ⟨by rfl, ?_⟩) (by assumption) ?_
    rotate_left
    · intro wq hSw; (try dsimp only at hSw); first | (go_simp; done) | (go_simp; with_reducible rfl) | with_reducible rfl
    try simp only [Act.put, List.setIfInBounds_toArray, List.set_cons_zero, List.set_cons_succ]
    refine wpAnyL_take (i := 2) (v := ?_) rfl (by kernel_rfl) (by kernel_rfl) (by kernel_rfl) (by kernel_rfl) (by kernel_rfl) (fun _ _ _ h => h) (Or.inl ⟨by rfl, ?_⟩) (by assumption) ?_
    rotate_left
    · intro wq hSw; (try dsimp only at hSw); first | (go_simp; done) | (go_simp; with_reducible rfl) | with_reducible rfl
    try simp only [Act.put, List.setIfInBounds_toArray, List.set_cons_zero, List.set_cons_succ]
    refine wpAnyL_take (i := 3) (v := ?_) rfl (by kernel_rfl) (by kernel_rfl) (by kernel_rfl) (by kernel_rfl) (by kernel_rfl) (fun _ _ _ h => h) (Or.inl ⟨by rfl, ?_⟩) (by assumption) ?_
    rotate_left
    · intro wq hSw; (try dsimp only at hSw); first | (go_simp; done) | (go_simp; with_reducible rfl) | with_reducible rfl
    try simp only [Act.put, List.setIfInBounds_toArray, List.set_cons_zero, List.set_cons_succ]
    refine wpAnyL_take (i := 4) (v := ?_) rfl (by kernel_rfl) (by kernel_rfl) (by kernel_rfl) (by kernel_rfl) (by kernel_rfl) (fun _ _ _ h => h) (Or.inl ⟨by rfl, ?_⟩) (by assumption) ?_
    rotate_left
    · intro wq hSw; (try dsimp only at hSw); first | (go_simp; done) | (go_simp; with_reducible rfl) | with_reducible rfl
    try simp only [Act.put, List.setIfInBounds_toArray, List.set_cons_zero, List.set_cons_succ]
    refine wpAnyL_take (i := 5) (v := ?_) rfl (by kernel_rfl) (by kernel_rfl) (by kernel_rfl) (by kernel_rfl) (by kernel_rfl) (fun _ _ _ h => h) (Or.inl ⟨by rfl, ?_⟩) (by assumption) ?_
    rotate_left
    · intro wq hSw; (try dsimp only at hSw); first | (go_simp; done) | (go_simp; with_reducible rfl) | with_reducible rfl
    try simp only [Act.put, List.setIfInBounds_toArray, List.set_cons_zero, List.set_cons_succ]
    refine wpAnyL_take (i := 6) (v := ?_) rfl (by kernel_rfl) (by kernel_rfl) (by kernel_rfl) (by kernel_rfl) (by kernel_rfl) (fun _ _ _ h => h) (Or.inl ⟨by rfl, ?_⟩) (by assumption) ?_
    rotate_left
    · intro wq hSw; (try dsimp only at hSw); first | (go_simp; done) | (go_simp; with_reducible rfl) | with_reducible rfl
    try simp only [Act.put, List.setIfInBounds_toArray, List.set_cons_zero, List.set_cons_succ]
    refine wpAnyL_take (i := 7) (v := ?_) rfl (by kernel_rfl) (by kernel_rfl) (by kernel_rfl) (by kernel_rfl) (by kernel_rfl) (fun _ _ _ h => h) (Or.inl ⟨by rfl, ?_⟩) (by assumption) ?_
    rotate_left
    · intro wq hSw; (try dsimp only at hSw); first | (go_simp; done) | (go_simp; with_reducible rfl) | with_reducible rfl
    try simp only [Act.put, List.setIfInBounds_toArray, List.set_cons_zero, List.set_cons_succ]
    refine wpAnyL_take (i := 8) (v := ?_) rfl (by kernel_rfl) (by kernel_rfl) (by kernel_rfl) (by kernel_rfl) (by kernel_rfl) (fun _ _ _ h => h) (Or.inl ⟨by rfl, ?_⟩) (by assumption) ?_
    rotate_left
    · intro wq hSw; (try dsimp only at hSw); first | (go_simp; done) | (go_simp; with_reducible rfl) | with_reducible rfl
    try simp only [Act.put, List.setIfInBounds_toArray, List.set_cons_zero, List.set_cons_succ]
    refine wpAnyL_take (i := 9) (v := ?_) rfl (by kernel_rfl) (by kernel_rfl) (by kernel_rfl) (by kernel_rfl) (by kernel_rfl) (fun _ _ _ h => h) (Or.inl ⟨by rfl, ?_⟩) (by assumption) ?_
    rotate_left
    · intro wq hSw; (try dsimp only at hSw); first | (go_simp; done) | (go_simp; with_reducible rfl) | with_reducible rfl
    try simp only [Act.put, List.setIfInBounds_toArray, List.set_cons_zero, List.set_cons_succ]
    refine wpAnyL_take (i := 10) (v := ?_) rfl (by kernel_rfl) (by kernel_rfl) (by kernel_rfl) (by kernel_rfl) (by kernel_rfl) (fun _ _ _ h => h) (Or.inl ⟨by rfl, ?_⟩) (by assumption) ?_
    rotate_left
    · intro wq hSw; (try dsimp only at hSw); first | (go_simp; done) | (go_simp; with_reducible rfl) | with_reducible rfl
    try simp only [Act.put, List.setIfInBounds_toArray, List.set_cons_zero, List.set_cons_succ]
    refine wpAnyL_take (i := 11) (v := ?_) rfl (by kernel_rfl) (by kernel_rfl) (by kernel_rfl) (by kernel_rfl) (by kernel_rfl) (fun _ _ _ h => h) (Or.inl ⟨by rfl, ?_⟩) (by assumption) ?_
    rotate_left
    · intro wq hSw; (try dsimp only at hSw); first | (go_simp; done) | (go_simp; with_reducible rfl) | with_reducible rfl
    try simp only [Act.put, List.setIfInBounds_toArray, List.set_cons_zero, List.set_cons_succ]
    refine wpAnyL_ready (rs := [12]) (by kernel_rfl) (by simp) ?_
    refine (AllReadyL.cons rfl (fun K hK => ?_) AllReadyL.nil)
    have hcv := HCV.out
    go_simp
    refine hK.out _ _ ?_ (fun hHeld => ?_)
    · (try dsimp only); exact HS.out _ HB4.out
    clear hK K hcv
    refine wpAnyL_ready (rs := [13]) (by kernel_rfl) (by simp) ?_
    refine (AllReadyL.cons rfl (fun K hK => ?_) AllReadyL.nil)
    go_simp
    go_wp2_with (go_at_call 40; refine HN4.out.mono ?_; rintro e w5 ⟨rfl, hb5⟩)
    have HB5 := Lib.hid (kF hb5 HB4.out)
    clear hb5
    refine hK.out _ _ ?_ (fun hHeld => ?_)
    · (try dsimp only); exact HS.out _ HB5.out
    clear hK K
    refine wpAnyL_take (i := 14) (v := ?_) rfl (by kernel_rfl) (by kernel_rfl) (by kernel_rfl) (by kernel_rfl) (by kernel_rfl) (fun _ _ _ h => h) (Or.inl ⟨by rfl, ?_⟩) (by assumption) ?_
    rotate_left
    · intro wq hSw; (try dsimp only at hSw); first | (go_simp; done) | (go_simp; with_reducible rfl) | with_reducible rfl
    try simp only [Act.put, List.setIfInBounds_toArray, List.set_cons_zero, List.set_cons_succ]
    refine wpAnyL_take (i := 15) (v := ?_) rfl (by kernel_rfl) (by kernel_rfl) (by kernel_rfl) (by kernel_rfl) (by kernel_rfl) (fun _ _ _ h => h) (Or.inl ⟨by rfl, ?_⟩) (by assumption) ?_
    rotate_left
    · intro wq hSw; (try dsimp only at hSw); first | (go_simp; done) | (go_simp; with_reducible rfl) | with_reducible rfl
    try simp only [Act.put, List.setIfInBounds_toArray, List.set_cons_zero, List.set_cons_succ]
    refine wpAnyL_take (i := 16) (v := ?_) rfl (by kernel_rfl) (by kernel_rfl) (by kernel_rfl) (by kernel_rfl) (by kernel_rfl) (fun _ _ _ h => h) (Or.inl ⟨by rfl, ?_⟩) (by assumption) ?_
    rotate_left
    · intro wq hSw; (try dsimp only at hSw); first | (go_simp; done) | (go_simp; with_reducible rfl) | with_reducible rfl
    try simp only [Act.put, List.setIfInBounds_toArray, List.set_cons_zero, List.set_cons_succ]
    refine wpAnyL_ready (rs := [17]) (by kernel_rfl) (by simp) ?_
    refine AllReadyL.last rfl (fun K hK => ?_)
    go_simp
    refine hK.out _ _ ?_
    clear hK K
    refine wpAnyL_done (by kernel_rfl) ?_ _
    clear hHeld
    go_wp2_with fail
    go_ret2
    exact HF1.out _ (kF HB5.out HB1.out) p x HP.out.1 HP.out.2
  · have HNO := Lib.hid hno
    have HB1 := Lib.hid (kF hb1 HB0.out)
    clear hb1 hno c0 c1 d0 d1
    go_wp2_with fail
    go_ret2
    exact HF3.out _ HB1.out HNO.out
end Go.Proofs.Ytmfjndkopkjchaa
