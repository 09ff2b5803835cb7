/- The document's entries of a table: name, one. -/
import Derived.Test.YtgaoplbocjadaaaYArL
namespace Go.Proofs.Ytgaoplbocjadaaa
open Go.RowKit
set_option linter.unusedSimpArgs false
set_option linter.unusedVariables false
set_option maxRecDepth 100000 in
theorem rname15_any (i j : Int) (w : World) : Calls Try.prog 58 #[.int .i64 i, .int .i64 j] w fun e w' => e = .returned (.agg #[.int .i64 i, .int .i64 j]) ∧ Below w.heap.size w w' := by
  have hb : Below w.heap.size w (w.alloc (.cells #[.int .i64 0, .int .i64 0] 24)) := (Below.refl _ _).alloc (Nat.le_refl _) _
  have hk : Key2 (w.alloc (.cells #[.int .i64 0, .int .i64 0] 24)) w.heap.size 0 0 := heap_alloc_new w _
  have HB := Lib.hid hb
  have HK := Lib.hid hk
  clear hb hk
  go_enter Try.func58, Try.ntmps58
  go_wp2_with (refine wpList_store_row rfl _ (.tmp 4) (.tmp 7) rfl w.heap.size _ rfl rfl _ _ HK.out info_key rfl (one_key _ _) ?_)
  exact bodyPost_ret (results_cell_row rfl _ _ w.heap.size _ _ _ _ rfl (setRow_heap _ _ _ _ _ (0, 0) HK.out) Try.underlying24 rfl info_key) rfl ⟨rfl, below_setRow HB.out (Nat.le_refl _) _⟩
theorem info_ent7 : (Try.prog.info? 77).map (·.size) = some 7 := by kernel_rfl
def Ent7 (w : World) (g : Nat) : Prop := w.heap[g]? = some (.cells #[.int .i64 0, .int .i64 0, .int .i64 0, .int .i64 0, .int .i64 0, .int .i64 0, .string ⟨#[]⟩] 77 (0, 0))
theorem Ent7.below {w w' : World} {g : Nat} (h : Ent7 w g) (hb : Below w.heap.size w w') : Ent7 w' g := (hb.block _ (Array.getElem?_eq_some_iff.1 h).1).trans h
theorem one_ent7 (i j k a lo hi : Int) (S : ByteArray) : (#[.int .i64 i, .int .i64 j, .int .i64 k, .int .i64 a, .int .i64 lo, .int .i64 hi, .string S] : Array Value).all (·.oneCell') = true := by simp [Value.oneCell']
theorem rput_yes1 {k n : Int} (hf : fitB k n = true) (w : World) : Calls Try.prog 80 #[.int .i64 k, .int .i64 n] w fun e w' => ∃ A m c, e = .returned (.tuple #[.slice A m c, .int .i64 0]) ∧ Byt w' w'.heap.size A m c (putL k n) ∧ Below w.heap.size w w' := by
  refine (rput_any k n w).mono ?_
  rintro e w' ⟨A, c, h1, h2, h3⟩
  have e1 : putA k n = putL k n := by unfold putA; rw [if_pos hf]
  have e2 : putE k n = 0 := by unfold putE; rw [if_pos hf]
  rw [e1] at h1 h2
  rw [e2] at h1
  exact ⟨A, _, c, h1, h2, h3⟩
set_option maxRecDepth 100000 in
set_option maxHeartbeats 2000000 in
theorem one15_false (i j k lo hi : Int) (w : World) (hf : fitB k lo = true) : Calls Try.prog 87 #[.int .i64 i, .int .i64 j, .int .i64 k, .int .i64 lo, .int .i64 hi, .bool false] w fun e w' => e = .returned (.agg #[.int .i64 i, .int .i64 j, .int .i64 k, .int .i64 3, .int .i64 lo, .int .i64 hi, .string (strOfNums (putL k lo))]) ∧ Below w.heap.size w w' := by
  have hb0 : Below w.heap.size w ((w.alloc (.cells #[.int .i64 0, .int .i64 0, .int .i64 0, .int .i64 0, .int .i64 0, .int .i64 0, .string ⟨#[]⟩] 77)).alloc (.cells #[.int .i64 k, .int .i64 3, .int .i64 lo, .int .i64 hi] 75)) := ((Below.refl _ _).alloc (Nat.le_refl _) _).alloc (by simp) _
  have hp0 : Ent7 ((w.alloc (.cells #[.int .i64 0, .int .i64 0, .int .i64 0, .int .i64 0, .int .i64 0, .int .i64 0, .string ⟨#[]⟩] 77)).alloc (.cells #[.int .i64 k, .int .i64 3, .int .i64 lo, .int .i64 hi] 75)) w.heap.size := heap_alloc2_old w _ _
  have hq0 : Spec4 ((w.alloc (.cells #[.int .i64 0, .int .i64 0, .int .i64 0, .int .i64 0, .int .i64 0, .int .i64 0, .string ⟨#[]⟩] 77)).alloc (.cells #[.int .i64 k, .int .i64 3, .int .i64 lo, .int .i64 hi] 75)) (w.heap.size + 1) k 3 lo hi := heap_alloc2_new w _ _
  have HB0 := Lib.hid hb0
  have HE0 := Lib.hid hp0
  have HQ0 := Lib.hid hq0
  have HF := Lib.hid hf
  clear hb0 hp0 hq0 hf
  go_enter Try.func87, Try.ntmps87
  go_wp2_with fail
  generalize ((w.alloc (.cells #[.int .i64 0, .int .i64 0, .int .i64 0, .int .i64 0, .int .i64 0, .int .i64 0, .string ⟨#[]⟩] 77)).alloc (.cells #[.int .i64 k, .int .i64 3, .int .i64 lo, .int .i64 hi] 75)) = w0 at *
  refine (rput_yes1 HF.out _).mono ?_
  rintro e w2 ⟨A, m, c, rfl, hY, hb2⟩
  have HB2 := Lib.hid (kF hb2 HB0.out)
  have HE2 := Lib.hid (HE0.out.below hb2)
  have HQ2 := Lib.hid (HQ0.out.below hb2)
  have HY := Lib.hid hY
  clear hb2 hY HB0 HE0 HQ0
  go_wp2_with fail
  have hS : ∀ x, Below w2.heap.size w2 x → x.cell? ⟨w.heap.size + 1, 0, none⟩ = some (.int .i64 k) ∧ x.cell? ⟨w.heap.size + 1, 1, none⟩ = some (.int .i64 3) ∧ x.cell? ⟨w.heap.size + 1, 2, none⟩ = some (.int .i64 lo) ∧ x.cell? ⟨w.heap.size + 1, 3, none⟩ = some (.int .i64 hi) ∧ (convert 58 9 (.slice A m c)).run Try.prog x = .ok (.string (strOfNums (putL k lo))) x := fun x hx =>
    have h1 := (HQ2.out.below hx).cells
    ⟨h1.1, h1.2.1, h1.2.2.1, h1.2.2.2, conv_any (HY.out.step hx)⟩
  have HS := Lib.hid hS
  clear hS
  refine wp_region_last (fun x => x.cell? ⟨w.heap.size + 1, 0, none⟩ = some (.int .i64 k) ∧ x.cell? ⟨w.heap.size + 1, 1, none⟩ = some (.int .i64 3) ∧ x.cell? ⟨w.heap.size + 1, 2, none⟩ = some (.int .i64 lo) ∧ x.cell? ⟨w.heap.size + 1, 3, none⟩ = some (.int .i64 hi) ∧ (convert 58 9 (.slice A m c)).run Try.prog x = .ok (.string (strOfNums (putL k lo))) x) 7 (by kernel_rfl) (HS.out _ (kD _)) (fun hHeld => ?_)
  have HBx0 := Lib.hid (kD w2)
  generalize w2.drew = x0 at *
  refine wpAnyL_take (i := 0) (v := ?_) rfl (by kernel_rfl) (by kernel_rfl) (by kernel_rfl) (by kernel_rfl) (by kernel_rfl) (fun _ _ _ h => h) (Or.inl ⟨by rfl, ?_⟩) (by assumption) ?_
  rotate_left
  · intro wq hSw; (try dsimp only at hSw); first | (go_simp; done) | (go_simp; with_reducible rfl) | with_reducible rfl
  go_simp
  refine wpAnyL_take (i := 1) (v := ?_) rfl (by kernel_rfl) (by kernel_rfl) (by kernel_rfl) (by kernel_rfl) (by kernel_rfl) (fun _ _ _ h => h) (Or.inl ⟨by rfl, ?_⟩) (by assumption) ?_
  rotate_left
  · intro wq hSw; (try dsimp only at hSw); first | (go_simp; done) | (go_simp; with_reducible rfl) | with_reducible rfl
  go_simp
  refine wpAnyL_take (i := 3) (v := ?_) rfl (by kernel_rfl) (by kernel_rfl) (by kernel_rfl) (by kernel_rfl) (by kernel_rfl) (fun _ _ _ h => h) (Or.inl ⟨by rfl, ?_⟩) (by assumption) ?_
  rotate_left
  · intro wq hSw; (try dsimp only at hSw); first | (go_simp; done) | (go_simp; with_reducible rfl) | with_reducible rfl
  go_simp
  refine wpAnyL_take (i := 4) (v := ?_) rfl (by kernel_rfl) (by kernel_rfl) (by kernel_rfl) (by kernel_rfl) (by kernel_rfl) (fun _ _ _ h => h) (Or.inl ⟨by rfl, ?_⟩) (by assumption) ?_
  rotate_left
  · intro wq hSw; (try dsimp only at hSw); first | (go_simp; done) | (go_simp; with_reducible rfl) | with_reducible rfl
  go_simp
  refine wpAnyL_take (i := 5) (v := ?_) rfl (by kernel_rfl) (by kernel_rfl) (by kernel_rfl) (by kernel_rfl) (by kernel_rfl) (fun _ _ _ h => h) (Or.inl ⟨by rfl, ?_⟩) (by assumption) ?_
  rotate_left
  · intro wq hSw; (try dsimp only at hSw); first | (go_simp; done) | (go_simp; with_reducible rfl) | with_reducible rfl
  go_simp
  refine wpAnyL_ready (rs := [2]) (by kernel_rfl) (by simp) ?_
  refine (AllReadyL.cons rfl (fun K hK => ?_) AllReadyL.nil)
  go_simp
  go_wp2_with fail
  refine (rname15_any i j _).mono ?_
  rintro e x1 ⟨rfl, hb3⟩
  have HBx1 : Hid (Below w2.heap.size w2 x1) := Lib.hid (kF hb3 HBx0.out)
  clear hb3
  refine hK.out _ _ ?_ (fun hHeld => ?_)
  · (try dsimp only); exact HS.out _ HBx1.out
  clear hK K
  refine wpAnyL_take (i := 6) (v := ?_) rfl (by kernel_rfl) (by kernel_rfl) (by kernel_rfl) (by kernel_rfl) (by kernel_rfl) (fun _ _ _ h => h) (Or.inl ⟨by rfl, ?_⟩) (by assumption) ?_
  rotate_left
  · intro wq hSw; (try dsimp only at hSw); first | (go_simp; done) | (go_simp; with_reducible rfl) | with_reducible rfl
  go_simp
  refine wpAnyL_ready (rs := [7]) (by kernel_rfl) (by simp) ?_
  refine AllReadyL.last rfl (fun K hK => ?_)
  have HEx := Lib.hid (HE2.out.below HBx1.out)
  refine Eq.mpr (if_pos (by kernel_rfl)) ?_
  refine wp_store_row _ (.tmp 12) (.tmp 34) rfl w.heap.size _ rfl rfl _ _ HEx.out info_ent7 rfl (one_ent7 _ _ _ _ _ _ _) ?_
  refine hK.out _ _ ?_
  clear hK K
  refine wpAnyL_done (by kernel_rfl) ?_ _
  clear hHeld
  go_wp2_with fail
  exact bodyPost_ret (results_cell_row rfl _ _ w.heap.size _ _ _ _ rfl (setRow_heap _ _ _ _ _ (0, 0) HEx.out) Try.underlying77 rfl info_ent7) rfl ⟨rfl, below_setRow (kF HBx1.out HB2.out) (Nat.le_refl _) _⟩
set_option maxRecDepth 100000 in
set_option maxHeartbeats 2000000 in
theorem one15_true (i j k lo hi : Int) (w : World) (hf : fitB k lo = true) : Calls Try.prog 87 #[.int .i64 i, .int .i64 j, .int .i64 k, .int .i64 lo, .int .i64 hi, .bool true] w fun e w' => e = .returned (.agg #[.int .i64 i, .int .i64 j, .int .i64 k, .int .i64 4, .int .i64 lo, .int .i64 hi, .string (strOfNums (putL k lo))]) ∧ Below w.heap.size w w' := by
  have hb0 : Below w.heap.size w ((w.alloc (.cells #[.int .i64 0, .int .i64 0, .int .i64 0, .int .i64 0, .int .i64 0, .int .i64 0, .string ⟨#[]⟩] 77)).alloc (.cells #[.int .i64 k, .int .i64 4, .int .i64 lo, .int .i64 hi] 75)) := ((Below.refl _ _).alloc (Nat.le_refl _) _).alloc (by simp) _
  have hp0 : Ent7 ((w.alloc (.cells #[.int .i64 0, .int .i64 0, .int .i64 0, .int .i64 0, .int .i64 0, .int .i64 0, .string ⟨#[]⟩] 77)).alloc (.cells #[.int .i64 k, .int .i64 4, .int .i64 lo, .int .i64 hi] 75)) w.heap.size := heap_alloc2_old w _ _
  have hq0 : Spec4 ((w.alloc (.cells #[.int .i64 0, .int .i64 0, .int .i64 0, .int .i64 0, .int .i64 0, .int .i64 0, .string ⟨#[]⟩] 77)).alloc (.cells #[.int .i64 k, .int .i64 4, .int .i64 lo, .int .i64 hi] 75)) (w.heap.size + 1) k 4 lo hi := heap_alloc2_new w _ _
  have HB0 := Lib.hid hb0
  have HE0 := Lib.hid hp0
  have HQ0 := Lib.hid hq0
  have HF := Lib.hid hf
  clear hb0 hp0 hq0 hf
  go_enter Try.func87, Try.ntmps87
  go_wp2_with fail
  generalize ((w.alloc (.cells #[.int .i64 0, .int .i64 0, .int .i64 0, .int .i64 0, .int .i64 0, .int .i64 0, .string ⟨#[]⟩] 77)).alloc (.cells #[.int .i64 k, .int .i64 4, .int .i64 lo, .int .i64 hi] 75)) = w0 at *
  refine (rput_yes1 HF.out _).mono ?_
  rintro e w2 ⟨A, m, c, rfl, hY, hb2⟩
  have HB2 := Lib.hid (kF hb2 HB0.out)
  have HE2 := Lib.hid (HE0.out.below hb2)
  have HQ2 := Lib.hid (HQ0.out.below hb2)
  have HY := Lib.hid hY
  clear hb2 hY HB0 HE0 HQ0
  go_wp2_with fail
  have hS : ∀ x, Below w2.heap.size w2 x → x.cell? ⟨w.heap.size + 1, 0, none⟩ = some (.int .i64 k) ∧ x.cell? ⟨w.heap.size + 1, 1, none⟩ = some (.int .i64 4) ∧ x.cell? ⟨w.heap.size + 1, 2, none⟩ = some (.int .i64 lo) ∧ x.cell? ⟨w.heap.size + 1, 3, none⟩ = some (.int .i64 hi) ∧ (convert 58 9 (.slice A m c)).run Try.prog x = .ok (.string (strOfNums (putL k lo))) x := fun x hx =>
    have h1 := (HQ2.out.below hx).cells
    ⟨h1.1, h1.2.1, h1.2.2.1, h1.2.2.2, conv_any (HY.out.step hx)⟩
  have HS := Lib.hid hS
  clear hS
  refine wp_region_last (fun x => x.cell? ⟨w.heap.size + 1, 0, none⟩ = some (.int .i64 k) ∧ x.cell? ⟨w.heap.size + 1, 1, none⟩ = some (.int .i64 4) ∧ x.cell? ⟨w.heap.size + 1, 2, none⟩ = some (.int .i64 lo) ∧ x.cell? ⟨w.heap.size + 1, 3, none⟩ = some (.int .i64 hi) ∧ (convert 58 9 (.slice A m c)).run Try.prog x = .ok (.string (strOfNums (putL k lo))) x) 7 (by kernel_rfl) (HS.out _ (kD _)) (fun hHeld => ?_)
  have HBx0 := Lib.hid (kD w2)
  generalize w2.drew = x0 at *
  refine wpAnyL_take (i := 0) (v := ?_) rfl (by kernel_rfl) (by kernel_rfl) (by kernel_rfl) (by kernel_rfl) (by kernel_rfl) (fun _ _ _ h => h) (Or.inl ⟨by rfl, ?_⟩) (by assumption) ?_
  rotate_left
  · intro wq hSw; (try dsimp only at hSw); first | (go_simp; done) | (go_simp; with_reducible rfl) | with_reducible rfl
  go_simp
  refine wpAnyL_take (i := 1) (v := ?_) rfl (by kernel_rfl) (by kernel_rfl) (by kernel_rfl) (by kernel_rfl) (by kernel_rfl) (fun _ _ _ h => h) (Or.inl ⟨by rfl, ?_⟩) (by assumption) ?_
  rotate_left
  · intro wq hSw; (try dsimp only at hSw); first | (go_simp; done) | (go_simp; with_reducible rfl) | with_reducible rfl
  go_simp
  refine wpAnyL_take (i := 3) (v := ?_) rfl (by kernel_rfl) (by kernel_rfl) (by kernel_rfl) (by kernel_rfl) (by kernel_rfl) (fun _ _ _ h => h) (Or.inl ⟨by rfl, ?_⟩) (by assumption) ?_
  rotate_left
  · intro wq hSw; (try dsimp only at hSw); first | (go_simp; done) | (go_simp; with_reducible rfl) | with_reducible rfl
  go_simp
  refine wpAnyL_take (i := 4) (v := ?_) rfl (by kernel_rfl) (by kernel_rfl) (by kernel_rfl) (by kernel_rfl) (by kernel_rfl) (fun _ _ _ h => h) (Or.inl ⟨by rfl, ?_⟩) (by assumption) ?_
  rotate_left
  · intro wq hSw; (try dsimp only at hSw); first | (go_simp; done) | (go_simp; with_reducible rfl) | with_reducible rfl
  go_simp
  refine wpAnyL_take (i := 5) (v := ?_) rfl (by kernel_rfl) (by kernel_rfl) (by kernel_rfl) (by kernel_rfl) (by kernel_rfl) (fun _ _ _ h => h) (Or.inl ⟨by rfl, ?_⟩) (by assumption) ?_
  rotate_left
  · intro wq hSw; (try dsimp only at hSw); first | (go_simp; done) | (go_simp; with_reducible rfl) | with_reducible rfl
  go_simp
  refine wpAnyL_ready (rs := [2]) (by kernel_rfl) (by simp) ?_
  refine (AllReadyL.cons rfl (fun K hK => ?_) AllReadyL.nil)
  go_simp
  go_wp2_with fail
  refine (rname15_any i j _).mono ?_
  rintro e x1 ⟨rfl, hb3⟩
  have HBx1 : Hid (Below w2.heap.size w2 x1) := Lib.hid (kF hb3 HBx0.out)
  clear hb3
  refine hK.out _ _ ?_ (fun hHeld => ?_)
  · (try dsimp only); exact HS.out _ HBx1.out
  clear hK K
  refine wpAnyL_take (i := 6) (v := ?_) rfl (by kernel_rfl) (by kernel_rfl) (by kernel_rfl) (by kernel_rfl) (by kernel_rfl) (fun _ _ _ h => h) (Or.inl ⟨by rfl, ?_⟩) (by assumption) ?_
  rotate_left
  · intro wq hSw; (try dsimp only at hSw); first | (go_simp; done) | (go_simp; with_reducible rfl) | with_reducible rfl
  go_simp
  refine wpAnyL_ready (rs := [7]) (by kernel_rfl) (by simp) ?_
  refine AllReadyL.last rfl (fun K hK => ?_)
  have HEx := Lib.hid (HE2.out.below HBx1.out)
  refine Eq.mpr (if_pos (by kernel_rfl)) ?_
  refine wp_store_row _ (.tmp 12) (.tmp 34) rfl w.heap.size _ rfl rfl _ _ HEx.out info_ent7 rfl (one_ent7 _ _ _ _ _ _ _) ?_
  refine hK.out _ _ ?_
  clear hK K
  refine wpAnyL_done (by kernel_rfl) ?_ _
  clear hHeld
  go_wp2_with fail
  exact bodyPost_ret (results_cell_row rfl _ _ w.heap.size _ _ _ _ rfl (setRow_heap _ _ _ _ _ (0, 0) HEx.out) Try.underlying77 rfl info_ent7) rfl ⟨rfl, below_setRow (kF HBx1.out HB2.out) (Nat.le_refl _) _⟩
end Go.Proofs.Ytgaoplbocjadaaa