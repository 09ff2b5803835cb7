/- A deed with both dictionaries. -/
import Derived.Test.YtmfjndkopkjchaaDzl
namespace Go.Proofs.Ytmfjndkopkjchaa
open Go.RowKit
set_option linter.unusedSimpArgs false
set_option linter.unusedVariables false

set_option maxRecDepth 100000 in
set_option maxHeartbeats 8000000 in
theorem done_3 (w : World) (B g : Nat) (T : List (Int × Ent)) (ch : Int) (a : Option Addr) (c : Nat) (R : List (Int × Ent)) (i j k ac lo hi : Int) (A : Option Addr) (n m : Nat) (l : List Int) (N : Int) (h : Both B g T ch a c R w) (hT : T.length ≤ 500) (hc : 0 ≤ ch ∧ ch ≤ 900000) (hB : Byt w B A n m l) :
    Calls Try.prog 7 #[.pointer (some ⟨g, 0, none⟩), .agg #[.slice a R.length c, .int .i64 ch], .agg #[.int .i64 3, .int .i64 i, .int .i64 j, .int .i64 k, .int .i64 ac, .int .i64 lo, .int .i64 hi, .slice A n m, .int .i64 N]] w (DoneP B w T ch) := by
  have hbs : B ≤ w.heap.size := h.dict.elim fun _ h => h.elim fun _ h => h.2.2.2
  have hb0 : Below w.heap.size w (((w.alloc (.cells #[.slice a R.length c, .int .i64 ch] 27)).alloc (.cells #[.int .i64 3, .int .i64 i, .int .i64 j, .int .i64 k, .int .i64 ac, .int .i64 lo, .int .i64 hi, .slice A n m, .int .i64 N] 38)).alloc (.cells #[.slice none 0 0, .int .i64 0] 27)) := (((Below.refl _ _).alloc (Nat.le_refl _) _).alloc (by simp) _).alloc (by simp; omega) _
  have hs2 : ((w.alloc (.cells #[.slice a R.length c, .int .i64 ch] 27)).alloc (.cells #[.int .i64 3, .int .i64 i, .int .i64 j, .int .i64 k, .int .i64 ac, .int .i64 lo, .int .i64 hi, .slice A n m, .int .i64 N] 38)).heap.size = w.heap.size + 2 := by simp
  have HX0 : Hid (DnAt B w a R.length c ch 3 i j k ac lo hi A n m N (((w.alloc (.cells #[.slice a R.length c, .int .i64 ch] 27)).alloc (.cells #[.int .i64 3, .int .i64 i, .int .i64 j, .int .i64 k, .int .i64 ac, .int .i64 lo, .int .i64 hi, .slice A n m, .int .i64 N] 38)).alloc (.cells #[.slice none 0 0, .int .i64 0] 27))) := Lib.hid (by
    refine ⟨(heap_alloc_old _ _ _ (by rw [hs2]; omega)).trans (heap_alloc2_old w _ _), (heap_alloc_old _ _ _ (by rw [hs2]; omega)).trans (heap_alloc2_new w _ _), ?_, .of_below hb0 hbs, hbs⟩
    have h2 := heap_alloc_new ((w.alloc (.cells #[.slice a R.length c, .int .i64 ch] 27)).alloc (.cells #[.int .i64 3, .int .i64 i, .int .i64 j, .int .i64 k, .int .i64 ac, .int .i64 lo, .int .i64 hi, .slice A n m, .int .i64 N] 38)) (.cells #[.slice none 0 0, .int .i64 0] 27)
    rw [hs2] at h2
    exact h2)
  have hB0 : ∀ x, Below B w x → B ≤ x.heap.size → Byt x x.heap.size A n m l := fun x hx hs => (hB.below hx).more hs
  have HBY := Lib.hid hB0
  have HBO0 := Lib.hid (h.below hb0)
  have HTT := Lib.hid hT
  have hc1 := hc.1
  have hc2 := hc.2
  have hbs0 : B ≤ (((w.alloc (.cells #[.slice a R.length c, .int .i64 ch] 27)).alloc (.cells #[.int .i64 3, .int .i64 i, .int .i64 j, .int .i64 k, .int .i64 ac, .int .i64 lo, .int .i64 hi, .slice A n m, .int .i64 N] 38)).alloc (.cells #[.slice none 0 0, .int .i64 0] 27)).heap.size := Nat.le_trans hbs hb0.size
  have hby0 : Byt (((w.alloc (.cells #[.slice a R.length c, .int .i64 ch] 27)).alloc (.cells #[.int .i64 3, .int .i64 i, .int .i64 j, .int .i64 k, .int .i64 ac, .int .i64 lo, .int .i64 hi, .slice A n m, .int .i64 N] 38)).alloc (.cells #[.slice none 0 0, .int .i64 0] 27)) (((w.alloc (.cells #[.slice a R.length c, .int .i64 ch] 27)).alloc (.cells #[.int .i64 3, .int .i64 i, .int .i64 j, .int .i64 k, .int .i64 ac, .int .i64 lo, .int .i64 hi, .slice A n m, .int .i64 N] 38)).alloc (.cells #[.slice none 0 0, .int .i64 0] 27)).heap.size A n m l := hB0 _ (hb0.mono hbs) hbs0
  have hG := h.tie.good
  have hra := drset_tie (w := (((w.alloc (.cells #[.slice a R.length c, .int .i64 ch] 27)).alloc (.cells #[.int .i64 3, .int .i64 i, .int .i64 j, .int .i64 k, .int .i64 ac, .int .i64 lo, .int .i64 hi, .slice A n m, .int .i64 N] 38)).alloc (.cells #[.slice none 0 0, .int .i64 0] 27))) (base := B) (ch := ch) i j N HBO0.out.ref hbs0 HBO0.out.tie ⟨by omega, by omega⟩
  have hpa := fun x (hx : DictAt B g T ch x) => at_set i j N hx hG ⟨by omega, by omega⟩
  have hle : (newT (sE i j N T) i j (sL i j N T) T).length ≤ T.length + 1 := newT_le _ _ _ _ _
  have hch := newC_le (sE i j N T) i j (sL i j N T) T ch
  generalize sE i j N T = q at hra hpa hle hch
  generalize hT1 : newT q i j (sL i j N T) T = T1 at hra hpa hle
  generalize newC q i j (sL i j N T) T ch = C1 at hra hpa hch
  have HPA := Lib.hid hpa
  have HRA := Lib.hid hra
  clear hra hpa
  have HBS := Lib.hid hbs
  clear h hT hB hs2 hB0 hbs hbs0 hby0 hG hb0 hc
  obtain ⟨d0, d1⟩ := HX0.out.box.cells
  obtain ⟨e0_, e1_, e2_, e3_, e4_, e5_, e6_, e7_, e8_⟩ := HX0.out.deed.cells
  obtain ⟨z0, z1⟩ := HX0.out.res.cells
  have fb0 := frozen_of_row _ _ 0 _ _ HX0.out.box
  have fb1 := frozen_of_row _ _ 1 _ _ HX0.out.box
  have fz0 := frozen_of_row _ _ 0 _ _ HX0.out.res
  have fz1 := frozen_of_row _ _ 1 _ _ HX0.out.res
  go_enter Try.func7, Try.ntmps7
  go_wp2_with fail
  generalize (((w.alloc (.cells #[.slice a R.length c, .int .i64 ch] 27)).alloc (.cells #[.int .i64 3, .int .i64 i, .int .i64 j, .int .i64 k, .int .i64 ac, .int .i64 lo, .int .i64 hi, .slice A n m, .int .i64 N] 38)).alloc (.cells #[.slice none 0 0, .int .i64 0] 27)) = w0 at *
  refine HRA.out.mono ?_
  rintro e w1 ⟨R1, ⟨a1, c1, rfl, ho1, hb1⟩, ht1⟩
  have HX1 := Lib.hid (HX0.out.below hb1)
  have HDA1 := Lib.hid (HBO0.out.dict.below hb1)
  have HO1 := Lib.hid ho1
  have HTI := Lib.hid ht1
  clear hb1 ho1 ht1 HRA HBO0 d0 d1 e0_ e1_ e2_ e3_ e4_ e5_ e6_ e7_ e8_ z0 z1 fb0 fb1 fz0 fz1
  obtain ⟨d0, d1⟩ := HX1.out.box.cells
  obtain ⟨e0_, e1_, e2_, e3_, e4_, e5_, e6_, e7_, e8_⟩ := HX1.out.deed.cells
  obtain ⟨z0, z1⟩ := HX1.out.res.cells
  have fb0 := frozen_of_row _ _ 0 _ _ HX1.out.box
  have fb1 := frozen_of_row _ _ 1 _ _ HX1.out.box
  have fz0 := frozen_of_row _ _ 0 _ _ HX1.out.res
  have fz1 := frozen_of_row _ _ 1 _ _ HX1.out.res
  go_upto_region 14 with fail
  have HX2 := Lib.hid (HX1.out.put (a' := a1) (n' := R1.length) (c' := c1) (ch' := C1))
  have HDA2 := Lib.hid (HX1.out.dict_put (a' := a1) (n' := R1.length) (c' := c1) HDA1.out (.int .i64 C1))
  have HO2 := Lib.hid (HX1.out.own_put HO1.out (.slice a1 R1.length c1) (.int .i64 C1))
  clear d0 d1 e0_ e1_ e2_ e3_ e4_ e5_ e6_ e7_ e8_ z0 z1 fb0 fb1 fz0 fz1 HX0 HX1 HDA1 HO1
  generalize (w1.setCell { block := w.heap.size, off := 0 } (Value.slice a1 R1.length c1)).setCell { block := w.heap.size, off := 1 } (Value.int IntKind.i64 C1) = w2 at *
  obtain ⟨d0, d1⟩ := HX2.out.box.cells
  obtain ⟨e0_, e1_, e2_, e3_, e4_, e5_, e6_, e7_, e8_⟩ := HX2.out.deed.cells
  obtain ⟨z0, z1⟩ := HX2.out.res.cells
  have fb0 := frozen_of_row _ _ 0 _ _ HX2.out.box
  have fb1 := frozen_of_row _ _ 1 _ _ HX2.out.box
  have fz0 := frozen_of_row _ _ 0 _ _ HX2.out.res
  have fz1 := frozen_of_row _ _ 1 _ _ HX2.out.res
  go_wp2_with fail
  refine (HPA.out w2 HDA2.out).mono ?_
  rintro e w3 ⟨rfl, hd3, ho3⟩
  have HX3 := Lib.hid (HX2.out.step ho3)
  have HBO3 : Hid (Both B g T1 C1 a1 c1 R1 w3) := Lib.hid ⟨hd3, ho3.own HO2.out not3_R, HTI.out⟩
  have tq : (q == q) = true := by simp
  clear hd3 ho3 HPA HX2 HDA2 HO2 HBY d0 d1 e0_ e1_ e2_ e3_ e4_ e5_ e6_ e7_ e8_ z0 z1 fb0 fb1 fz0 fz1
  obtain ⟨d0, d1⟩ := HX3.out.box.cells
  obtain ⟨e0_, e1_, e2_, e3_, e4_, e5_, e6_, e7_, e8_⟩ := HX3.out.deed.cells
  obtain ⟨z0, z1⟩ := HX3.out.res.cells
  have fb0 := frozen_of_row _ _ 0 _ _ HX3.out.box
  have fb1 := frozen_of_row _ _ 1 _ _ HX3.out.box
  have fz0 := frozen_of_row _ _ 0 _ _ HX3.out.res
  have fz1 := frozen_of_row _ _ 1 _ _ HX3.out.res
  go_upto_region 20 with fail
  clear e0_ e1_ e2_ e3_ e4_ e5_ e6_ e7_ e8_ z0 z1
  refine wp_region_last (fun w' => w'.cell? ⟨w.heap.size, 0, none⟩ = some (.slice a1 R1.length c1) ∧ w'.cell? ⟨w.heap.size, 1, none⟩ = some (.int .i64 C1)) 12 (by kernel_rfl) ⟨(HX3.out.below (kD _)).box.cells.1, (HX3.out.below (kD _)).box.cells.2⟩ (fun hHeld => ?_)
  have HX9 := Lib.hid (HX3.out.below (kD _))
  have HBO9 := Lib.hid (HBO3.out.below (kD _))
  clear d0 d1 fb0 fb1 fz0 fz1 HX3 HBO3
  generalize w3.drew = w9 at *
  refine wpAnyL_take (i := 0) (v := ?_) rfl (by kernel_rfl) (by kernel_rfl) (by kernel_rfl) (by kernel_rfl) (by kernel_rfl) (fun _ _ _ h => h) (Or.inl ⟨by rfl, ?_⟩) (by assumption) ?_
  rotate_left
  · intro wq hSw; (try dsimp only at hSw); first | (go_simp; done) | (go_simp; with_reducible rfl) | with_reducible rfl
  go_simp
  refine wpAnyL_take (i := 2) (v := ?_) rfl (by kernel_rfl) (by kernel_rfl) (by kernel_rfl) (by kernel_rfl) (by kernel_rfl) (fun _ _ _ h => h) (Or.inl ⟨by rfl, ?_⟩) (by assumption) ?_
  rotate_left
  · intro wq hSw; (try dsimp only at hSw); first | (go_simp; done) | (go_simp; with_reducible rfl) | with_reducible rfl
  go_simp
  refine wpAnyL_take (i := 3) (v := ?_) rfl (by kernel_rfl) (by kernel_rfl) (by kernel_rfl) (by kernel_rfl) (by kernel_rfl) (fun _ _ _ h => h) (Or.inl ⟨by rfl, ?_⟩) (by assumption) ?_
  rotate_left
  · intro wq hSw; (try dsimp only at hSw); first | (go_simp; done) | (go_simp; with_reducible rfl) | with_reducible rfl
  go_simp
  refine wpAnyL_take (i := 4) (v := ?_) rfl (by kernel_rfl) (by kernel_rfl) (by kernel_rfl) (by kernel_rfl) (by kernel_rfl) (fun _ _ _ h => h) (Or.inl ⟨by rfl, ?_⟩) (by assumption) ?_
  rotate_left
  · intro wq hSw; (try dsimp only at hSw); first | (go_simp; done) | (go_simp; with_reducible rfl) | with_reducible rfl
  go_simp
  try simp only [tq]
  refine wpAnyL_take (i := 5) (v := ?_) rfl (by kernel_rfl) (by kernel_rfl) (by kernel_rfl) (by kernel_rfl) (by kernel_rfl) (fun _ _ _ h => h) (Or.inl ⟨by rfl, ?_⟩) (by assumption) ?_
  rotate_left
  · intro wq hSw; (try dsimp only at hSw); first | (go_simp; done) | (go_simp; with_reducible rfl) | with_reducible rfl
  go_simp
  refine wpAnyL_take (i := 6) (v := ?_) rfl (by kernel_rfl) (by kernel_rfl) (by kernel_rfl) (by kernel_rfl) (by kernel_rfl) (fun _ _ _ h => h) (Or.inl ⟨by rfl, ?_⟩) (by assumption) ?_
  rotate_left
  · intro wq hSw; (try dsimp only at hSw); first | (go_simp; done) | (go_simp; with_reducible rfl) | with_reducible rfl
  go_simp
  refine wpAnyL_take (i := 7) (v := ?_) rfl (by kernel_rfl) (by kernel_rfl) (by kernel_rfl) (by kernel_rfl) (by kernel_rfl) (fun _ _ _ h => h) (Or.inl ⟨by rfl, ?_⟩) (by assumption) ?_
  rotate_left
  · intro wq hSw; (try dsimp only at hSw); first | (go_simp; done) | (go_simp; with_reducible rfl) | with_reducible rfl
  go_simp
  refine wpAnyL_take (i := 8) (v := ?_) rfl (by kernel_rfl) (by kernel_rfl) (by kernel_rfl) (by kernel_rfl) (by kernel_rfl) (fun _ _ _ h => h) (Or.inl ⟨by rfl, ?_⟩) (by assumption) ?_
  rotate_left
  · intro wq hSw; (try dsimp only at hSw); first | (go_simp; done) | (go_simp; with_reducible rfl) | with_reducible rfl
  go_simp
  refine wpAnyL_take (i := 9) (v := ?_) rfl (by kernel_rfl) (by kernel_rfl) (by kernel_rfl) (by kernel_rfl) (by kernel_rfl) (fun _ _ _ h => h) (Or.inl ⟨by rfl, ?_⟩) (by assumption) ?_
  rotate_left
  · intro wq hSw; (try dsimp only at hSw); first | (go_simp; done) | (go_simp; with_reducible rfl) | with_reducible rfl
  go_simp
  refine wpAnyL_take (i := 1) (v := ?_) rfl (by kernel_rfl) (by kernel_rfl) (by kernel_rfl) (by kernel_rfl) (by kernel_rfl) (fun _ _ _ h => h) (Or.inl ⟨by rfl, ?_⟩) (by assumption) ?_
  rotate_left
  · intro wq hSw; (try dsimp only at hSw); first | (go_simp; done) | (go_simp; with_reducible rfl) | with_reducible rfl
  go_simp
  refine wpAnyL_take (i := 10) (v := ?_) rfl (by kernel_rfl) (by kernel_rfl) (by kernel_rfl) (by kernel_rfl) (by kernel_rfl) (fun _ _ _ h => h) (Or.inl ⟨by rfl, ?_⟩) (by assumption) ?_
  rotate_left
  · intro wq hSw; (try dsimp only at hSw); first | (go_simp; done) | (go_simp; with_reducible rfl) | with_reducible rfl
  go_simp
  have fz0 := frozen_of_row _ _ 0 _ _ HX9.out.res
  have fz1 := frozen_of_row _ _ 1 _ _ HX9.out.res
  obtain ⟨z0, z1⟩ := HX9.out.res.cells
  refine wpAnyL_ready (rs := [11]) (by kernel_rfl) (by simp) ?_
  refine (AllReadyL.cons rfl (fun K hK => ?_) AllReadyL.nil)
  go_simp
  refine hK.out _ _ ?_ (fun hHeld => ?_)
  · (try dsimp only); exact ⟨(two_cell (by omega)).trans HX9.out.box.cells.1, (two_cell (by omega)).trans HX9.out.box.cells.2⟩
  clear hK K
  refine wpAnyL_ready (rs := [12]) (by kernel_rfl) (by simp) ?_
  refine AllReadyL.last rfl (fun K hK => ?_)
  go_simp
  refine hK.out _ _ ?_
  clear hK K
  refine wpAnyL_done (by kernel_rfl) ?_ _
  clear hHeld z0 z1 fz0 fz1
  have HDN := Lib.hid (HX9.out.done (T := T) (chT := ch) HBO9.out hle (by omega) (by omega))
  go_wp2_with fail
  exact bodyPost_ret ((results_tmp_cell_tmp rfl _ _ (w.heap.size + 2) _ _ _ _ rfl HX9.out.res.two Try.underlying27 rfl info_dct).trans (by rfl)) rfl HDN.out
end Go.Proofs.Ytmfjndkopkjchaa
namespace Go.Proofs.Ytmfjndkopkjchaa
open Go.RowKit
set_option linter.unusedSimpArgs false
set_option linter.unusedVariables false

set_option maxRecDepth 100000 in
set_option maxHeartbeats 8000000 in
theorem done_4 (w : World) (B g : Nat) (T : List (Int × Ent)) (ch : Int) (a : Option Addr) (c : Nat) (R : List (Int × Ent)) (i j k ac lo hi : Int) (A : Option Addr) (n m : Nat) (l : List Int) (N : Int) (h : Both B g T ch a c R w) (hT : T.length ≤ 500) (hc : 0 ≤ ch ∧ ch ≤ 900000) (hB : Byt w B A n m l) :
    Calls Try.prog 7 #[.pointer (some ⟨g, 0, none⟩), .agg #[.slice a R.length c, .int .i64 ch], .agg #[.int .i64 4, .int .i64 i, .int .i64 j, .int .i64 k, .int .i64 ac, .int .i64 lo, .int .i64 hi, .slice A n m, .int .i64 N]] w (DoneP B w T ch) := by
  have hbs : B ≤ w.heap.size := h.dict.elim fun _ h => h.elim fun _ h => h.2.2.2
  have hb0 : Below w.heap.size w (((w.alloc (.cells #[.slice a R.length c, .int .i64 ch] 27)).alloc (.cells #[.int .i64 4, .int .i64 i, .int .i64 j, .int .i64 k, .int .i64 ac, .int .i64 lo, .int .i64 hi, .slice A n m, .int .i64 N] 38)).alloc (.cells #[.slice none 0 0, .int .i64 0] 27)) := (((Below.refl _ _).alloc (Nat.le_refl _) _).alloc (by simp) _).alloc (by simp; omega) _
  have hs2 : ((w.alloc (.cells #[.slice a R.length c, .int .i64 ch] 27)).alloc (.cells #[.int .i64 4, .int .i64 i, .int .i64 j, .int .i64 k, .int .i64 ac, .int .i64 lo, .int .i64 hi, .slice A n m, .int .i64 N] 38)).heap.size = w.heap.size + 2 := by simp
  have HX0 : Hid (DnAt B w a R.length c ch 4 i j k ac lo hi A n m N (((w.alloc (.cells #[.slice a R.length c, .int .i64 ch] 27)).alloc (.cells #[.int .i64 4, .int .i64 i, .int .i64 j, .int .i64 k, .int .i64 ac, .int .i64 lo, .int .i64 hi, .slice A n m, .int .i64 N] 38)).alloc (.cells #[.slice none 0 0, .int .i64 0] 27))) := Lib.hid (by
    refine ⟨(heap_alloc_old _ _ _ (by rw [hs2]; omega)).trans (heap_alloc2_old w _ _), (heap_alloc_old _ _ _ (by rw [hs2]; omega)).trans (heap_alloc2_new w _ _), ?_, .of_below hb0 hbs, hbs⟩
    have h2 := heap_alloc_new ((w.alloc (.cells #[.slice a R.length c, .int .i64 ch] 27)).alloc (.cells #[.int .i64 4, .int .i64 i, .int .i64 j, .int .i64 k, .int .i64 ac, .int .i64 lo, .int .i64 hi, .slice A n m, .int .i64 N] 38)) (.cells #[.slice none 0 0, .int .i64 0] 27)
    rw [hs2] at h2
    exact h2)
  have hB0 : ∀ x, Below B w x → B ≤ x.heap.size → Byt x x.heap.size A n m l := fun x hx hs => (hB.below hx).more hs
  have HBY := Lib.hid hB0
  have HBO0 := Lib.hid (h.below hb0)
  have HTT := Lib.hid hT
  have hc1 := hc.1
  have hc2 := hc.2
  have hbs0 : B ≤ (((w.alloc (.cells #[.slice a R.length c, .int .i64 ch] 27)).alloc (.cells #[.int .i64 4, .int .i64 i, .int .i64 j, .int .i64 k, .int .i64 ac, .int .i64 lo, .int .i64 hi, .slice A n m, .int .i64 N] 38)).alloc (.cells #[.slice none 0 0, .int .i64 0] 27)).heap.size := Nat.le_trans hbs hb0.size
  have hby0 : Byt (((w.alloc (.cells #[.slice a R.length c, .int .i64 ch] 27)).alloc (.cells #[.int .i64 4, .int .i64 i, .int .i64 j, .int .i64 k, .int .i64 ac, .int .i64 lo, .int .i64 hi, .slice A n m, .int .i64 N] 38)).alloc (.cells #[.slice none 0 0, .int .i64 0] 27)) (((w.alloc (.cells #[.slice a R.length c, .int .i64 ch] 27)).alloc (.cells #[.int .i64 4, .int .i64 i, .int .i64 j, .int .i64 k, .int .i64 ac, .int .i64 lo, .int .i64 hi, .slice A n m, .int .i64 N] 38)).alloc (.cells #[.slice none 0 0, .int .i64 0] 27)).heap.size A n m l := hB0 _ (hb0.mono hbs) hbs0
  have hG := h.tie.good
  have HFK := Lib.hid (at_fork HBO0.out.dict hG ⟨hc1, hc2⟩)
  have HGD := Lib.hid (put_good h.tie i j hB.all)
  have HTI := Lib.hid h.tie
  have hle : T.length ≤ T.length + 1 := by omega
  have HBS := Lib.hid hbs
  clear h hT hB hs2 hB0 hbs hbs0 hby0 hG hb0 hc
  obtain ⟨d0, d1⟩ := HX0.out.box.cells
  obtain ⟨e0_, e1_, e2_, e3_, e4_, e5_, e6_, e7_, e8_⟩ := HX0.out.deed.cells
  obtain ⟨z0, z1⟩ := HX0.out.res.cells
  have fb0 := frozen_of_row _ _ 0 _ _ HX0.out.box
  have fb1 := frozen_of_row _ _ 1 _ _ HX0.out.box
  have fz0 := frozen_of_row _ _ 0 _ _ HX0.out.res
  have fz1 := frozen_of_row _ _ 1 _ _ HX0.out.res
  go_enter Try.func7, Try.ntmps7
  go_wp2_with fail
  generalize (((w.alloc (.cells #[.slice a R.length c, .int .i64 ch] 27)).alloc (.cells #[.int .i64 4, .int .i64 i, .int .i64 j, .int .i64 k, .int .i64 ac, .int .i64 lo, .int .i64 hi, .slice A n m, .int .i64 N] 38)).alloc (.cells #[.slice none 0 0, .int .i64 0] 27)) = w0 at *
  refine HFK.out.mono ?_
  rintro e w1 ⟨⟨g', rfl, hd1, hold⟩, hb1⟩
  have HX1 := Lib.hid (HX0.out.below hb1)
  have HO1 := Lib.hid (own_below HBO0.out.ref hb1)
  have HPU := Lib.hid (hold i j N l A n m (HBY.out _ HX1.out.oth.1 (Nat.le_trans HBS.out HX1.out.oth.1.size)) HGD.out)
  clear hb1 hd1 hold HFK HBO0 HGD HX0 d0 d1 e0_ e1_ e2_ e3_ e4_ e5_ e6_ e7_ e8_ z0 z1 fb0 fb1 fz0 fz1
  obtain ⟨d0, d1⟩ := HX1.out.box.cells
  obtain ⟨e0_, e1_, e2_, e3_, e4_, e5_, e6_, e7_, e8_⟩ := HX1.out.deed.cells
  obtain ⟨z0, z1⟩ := HX1.out.res.cells
  have fb0 := frozen_of_row _ _ 0 _ _ HX1.out.box
  have fb1 := frozen_of_row _ _ 1 _ _ HX1.out.box
  have fz0 := frozen_of_row _ _ 0 _ _ HX1.out.res
  have fz1 := frozen_of_row _ _ 1 _ _ HX1.out.res
  go_wp2_with fail
  refine HPU.out.mono ?_
  rintro e w2 ⟨⟨x2, rfl⟩, ho2, hset⟩
  have HX2 := Lib.hid (HX1.out.step ho2)
  have HO2 := Lib.hid (ho2.own HO1.out not3_R)
  have HST := Lib.hid hset
  clear ho2 hset HPU HX1 HO1 d0 d1 e0_ e1_ e2_ e3_ e4_ e5_ e6_ e7_ e8_ z0 z1 fb0 fb1 fz0 fz1
  obtain ⟨d0, d1⟩ := HX2.out.box.cells
  obtain ⟨e0_, e1_, e2_, e3_, e4_, e5_, e6_, e7_, e8_⟩ := HX2.out.deed.cells
  obtain ⟨z0, z1⟩ := HX2.out.res.cells
  have fb0 := frozen_of_row _ _ 0 _ _ HX2.out.box
  have fb1 := frozen_of_row _ _ 1 _ _ HX2.out.box
  have fz0 := frozen_of_row _ _ 0 _ _ HX2.out.res
  have fz1 := frozen_of_row _ _ 1 _ _ HX2.out.res
  go_wp2_with fail
  refine HST.out.mono ?_
  rintro e w3 ⟨⟨x3, rfl⟩, ho3, hd3⟩
  have HX3 := Lib.hid (HX2.out.step ho3)
  have HBO3 : Hid (Both B g' T ch a c R w3) := Lib.hid ⟨hd3, ho3.own HO2.out not3_R, HTI.out⟩
  clear hd3 ho3 HST HX2 HO2 HBY d0 d1 e0_ e1_ e2_ e3_ e4_ e5_ e6_ e7_ e8_ z0 z1 fb0 fb1 fz0 fz1
  obtain ⟨d0, d1⟩ := HX3.out.box.cells
  obtain ⟨e0_, e1_, e2_, e3_, e4_, e5_, e6_, e7_, e8_⟩ := HX3.out.deed.cells
  obtain ⟨z0, z1⟩ := HX3.out.res.cells
  have fb0 := frozen_of_row _ _ 0 _ _ HX3.out.box
  have fb1 := frozen_of_row _ _ 1 _ _ HX3.out.box
  have fz0 := frozen_of_row _ _ 0 _ _ HX3.out.res
  have fz1 := frozen_of_row _ _ 1 _ _ HX3.out.res
  go_upto_region 20 with fail
  clear e0_ e1_ e2_ e3_ e4_ e5_ e6_ e7_ e8_ z0 z1
  refine wp_region_last (fun w' => w'.cell? ⟨w.heap.size, 0, none⟩ = some (.slice a R.length c) ∧ w'.cell? ⟨w.heap.size, 1, none⟩ = some (.int .i64 ch)) 12 (by kernel_rfl) ⟨(HX3.out.below (kD _)).box.cells.1, (HX3.out.below (kD _)).box.cells.2⟩ (fun hHeld => ?_)
  have HX9 := Lib.hid (HX3.out.below (kD _))
  have HBO9 := Lib.hid (HBO3.out.below (kD _))
  clear d0 d1 fb0 fb1 fz0 fz1 HX3 HBO3
  generalize w3.drew = w9 at *
  refine wpAnyL_take (i := 0) (v := ?_) rfl (by kernel_rfl) (by kernel_rfl) (by kernel_rfl) (by kernel_rfl) (by kernel_rfl) (fun _ _ _ h => h) (Or.inl ⟨by rfl, ?_⟩) (by assumption) ?_
  rotate_left
  · intro wq hSw; (try dsimp only at hSw); first | (go_simp; done) | (go_simp; with_reducible rfl) | with_reducible rfl
  go_simp
  refine wpAnyL_take (i := 2) (v := ?_) rfl (by kernel_rfl) (by kernel_rfl) (by kernel_rfl) (by kernel_rfl) (by kernel_rfl) (fun _ _ _ h => h) (Or.inl ⟨by rfl, ?_⟩) (by assumption) ?_
  rotate_left
  · intro wq hSw; (try dsimp only at hSw); first | (go_simp; done) | (go_simp; with_reducible rfl) | with_reducible rfl
  go_simp
  refine wpAnyL_take (i := 3) (v := ?_) rfl (by kernel_rfl) (by kernel_rfl) (by kernel_rfl) (by kernel_rfl) (by kernel_rfl) (fun _ _ _ h => h) (Or.inl ⟨by rfl, ?_⟩) (by assumption) ?_
  rotate_left
  · intro wq hSw; (try dsimp only at hSw); first | (go_simp; done) | (go_simp; with_reducible rfl) | with_reducible rfl
  go_simp
  refine wpAnyL_take (i := 4) (v := ?_) rfl (by kernel_rfl) (by kernel_rfl) (by kernel_rfl) (by kernel_rfl) (by kernel_rfl) (fun _ _ _ h => h) (Or.inl ⟨by rfl, ?_⟩) (by assumption) ?_
  rotate_left
  · intro wq hSw; (try dsimp only at hSw); first | (go_simp; done) | (go_simp; with_reducible rfl) | with_reducible rfl
  go_simp
  try simp only [tq]
  refine wpAnyL_take (i := 5) (v := ?_) rfl (by kernel_rfl) (by kernel_rfl) (by kernel_rfl) (by kernel_rfl) (by kernel_rfl) (fun _ _ _ h => h) (Or.inl ⟨by rfl, ?_⟩) (by assumption) ?_
  rotate_left
  · intro wq hSw; (try dsimp only at hSw); first | (go_simp; done) | (go_simp; with_reducible rfl) | with_reducible rfl
  go_simp
  refine wpAnyL_take (i := 6) (v := ?_) rfl (by kernel_rfl) (by kernel_rfl) (by kernel_rfl) (by kernel_rfl) (by kernel_rfl) (fun _ _ _ h => h) (Or.inl ⟨by rfl, ?_⟩) (by assumption) ?_
  rotate_left
  · intro wq hSw; (try dsimp only at hSw); first | (go_simp; done) | (go_simp; with_reducible rfl) | with_reducible rfl
  go_simp
  refine wpAnyL_take (i := 7) (v := ?_) rfl (by kernel_rfl) (by kernel_rfl) (by kernel_rfl) (by kernel_rfl) (by kernel_rfl) (fun _ _ _ h => h) (Or.inl ⟨by rfl, ?_⟩) (by assumption) ?_
  rotate_left
  · intro wq hSw; (try dsimp only at hSw); first | (go_simp; done) | (go_simp; with_reducible rfl) | with_reducible rfl
  go_simp
  refine wpAnyL_take (i := 8) (v := ?_) rfl (by kernel_rfl) (by kernel_rfl) (by kernel_rfl) (by kernel_rfl) (by kernel_rfl) (fun _ _ _ h => h) (Or.inl ⟨by rfl, ?_⟩) (by assumption) ?_
  rotate_left
  · intro wq hSw; (try dsimp only at hSw); first | (go_simp; done) | (go_simp; with_reducible rfl) | with_reducible rfl
  go_simp
  refine wpAnyL_take (i := 9) (v := ?_) rfl (by kernel_rfl) (by kernel_rfl) (by kernel_rfl) (by kernel_rfl) (by kernel_rfl) (fun _ _ _ h => h) (Or.inl ⟨by rfl, ?_⟩) (by assumption) ?_
  rotate_left
  · intro wq hSw; (try dsimp only at hSw); first | (go_simp; done) | (go_simp; with_reducible rfl) | with_reducible rfl
  go_simp
  refine wpAnyL_take (i := 1) (v := ?_) rfl (by kernel_rfl) (by kernel_rfl) (by kernel_rfl) (by kernel_rfl) (by kernel_rfl) (fun _ _ _ h => h) (Or.inl ⟨by rfl, ?_⟩) (by assumption) ?_
  rotate_left
  · intro wq hSw; (try dsimp only at hSw); first | (go_simp; done) | (go_simp; with_reducible rfl) | with_reducible rfl
  go_simp
  refine wpAnyL_take (i := 10) (v := ?_) rfl (by kernel_rfl) (by kernel_rfl) (by kernel_rfl) (by kernel_rfl) (by kernel_rfl) (fun _ _ _ h => h) (Or.inl ⟨by rfl, ?_⟩) (by assumption) ?_
  rotate_left
  · intro wq hSw; (try dsimp only at hSw); first | (go_simp; done) | (go_simp; with_reducible rfl) | with_reducible rfl
  go_simp
  have fz0 := frozen_of_row _ _ 0 _ _ HX9.out.res
  have fz1 := frozen_of_row _ _ 1 _ _ HX9.out.res
  obtain ⟨z0, z1⟩ := HX9.out.res.cells
  refine wpAnyL_ready (rs := [11]) (by kernel_rfl) (by simp) ?_
  refine (AllReadyL.cons rfl (fun K hK => ?_) AllReadyL.nil)
  go_simp
  refine hK.out _ _ ?_ (fun hHeld => ?_)
  · (try dsimp only); exact ⟨(two_cell (by omega)).trans HX9.out.box.cells.1, (two_cell (by omega)).trans HX9.out.box.cells.2⟩
  clear hK K
  refine wpAnyL_ready (rs := [12]) (by kernel_rfl) (by simp) ?_
  refine AllReadyL.last rfl (fun K hK => ?_)
  go_simp
  refine hK.out _ _ ?_
  clear hK K
  refine wpAnyL_done (by kernel_rfl) ?_ _
  clear hHeld z0 z1 fz0 fz1
  have HDN := Lib.hid (HX9.out.done (T := T) (chT := ch) HBO9.out hle (by omega) (by omega))
  go_wp2_with fail
  exact bodyPost_ret ((results_tmp_cell_tmp rfl _ _ (w.heap.size + 2) _ _ _ _ rfl HX9.out.res.two Try.underlying27 rfl info_dct).trans (by rfl)) rfl HDN.out
end Go.Proofs.Ytmfjndkopkjchaa
namespace Go.Proofs.Ytmfjndkopkjchaa
open Go.RowKit
set_option linter.unusedSimpArgs false
set_option linter.unusedVariables false

set_option maxRecDepth 100000 in
set_option maxHeartbeats 8000000 in
theorem done_5 (w : World) (B g : Nat) (T : List (Int × Ent)) (ch : Int) (a : Option Addr) (c : Nat) (R : List (Int × Ent)) (dd i j k ac lo hi : Int) (A : Option Addr) (n m : Nat) (l : List Int) (N : Int) (hd0 : ¬ dd = 0) (hd1 : ¬ dd = 1) (hd2 : ¬ dd = 2) (hd3 : ¬ dd = 3) (hd4 : ¬ dd = 4) (h : Both B g T ch a c R w) (hT : T.length ≤ 500) (hc : 0 ≤ ch ∧ ch ≤ 900000) (hB : Byt w B A n m l) :
    Calls Try.prog 7 #[.pointer (some ⟨g, 0, none⟩), .agg #[.slice a R.length c, .int .i64 ch], .agg #[.int .i64 dd, .int .i64 i, .int .i64 j, .int .i64 k, .int .i64 ac, .int .i64 lo, .int .i64 hi, .slice A n m, .int .i64 N]] w (DoneP B w T ch) := by
  have hbs : B ≤ w.heap.size := h.dict.elim fun _ h => h.elim fun _ h => h.2.2.2
  have hb0 : Below w.heap.size w (((w.alloc (.cells #[.slice a R.length c, .int .i64 ch] 27)).alloc (.cells #[.int .i64 dd, .int .i64 i, .int .i64 j, .int .i64 k, .int .i64 ac, .int .i64 lo, .int .i64 hi, .slice A n m, .int .i64 N] 38)).alloc (.cells #[.slice none 0 0, .int .i64 0] 27)) := (((Below.refl _ _).alloc (Nat.le_refl _) _).alloc (by simp) _).alloc (by simp; omega) _
  have hs2 : ((w.alloc (.cells #[.slice a R.length c, .int .i64 ch] 27)).alloc (.cells #[.int .i64 dd, .int .i64 i, .int .i64 j, .int .i64 k, .int .i64 ac, .int .i64 lo, .int .i64 hi, .slice A n m, .int .i64 N] 38)).heap.size = w.heap.size + 2 := by simp
  have HX0 : Hid (DnAt B w a R.length c ch dd i j k ac lo hi A n m N (((w.alloc (.cells #[.slice a R.length c, .int .i64 ch] 27)).alloc (.cells #[.int .i64 dd, .int .i64 i, .int .i64 j, .int .i64 k, .int .i64 ac, .int .i64 lo, .int .i64 hi, .slice A n m, .int .i64 N] 38)).alloc (.cells #[.slice none 0 0, .int .i64 0] 27))) := Lib.hid (by
    refine ⟨(heap_alloc_old _ _ _ (by rw [hs2]; omega)).trans (heap_alloc2_old w _ _), (heap_alloc_old _ _ _ (by rw [hs2]; omega)).trans (heap_alloc2_new w _ _), ?_, .of_below hb0 hbs, hbs⟩
    have h2 := heap_alloc_new ((w.alloc (.cells #[.slice a R.length c, .int .i64 ch] 27)).alloc (.cells #[.int .i64 dd, .int .i64 i, .int .i64 j, .int .i64 k, .int .i64 ac, .int .i64 lo, .int .i64 hi, .slice A n m, .int .i64 N] 38)) (.cells #[.slice none 0 0, .int .i64 0] 27)
    rw [hs2] at h2
    exact h2)
  have hB0 : ∀ x, Below B w x → B ≤ x.heap.size → Byt x x.heap.size A n m l := fun x hx hs => (hB.below hx).more hs
  have HBY := Lib.hid hB0
  have HBO0 := Lib.hid (h.below hb0)
  have HTT := Lib.hid hT
  have hc1 := hc.1
  have hc2 := hc.2
  have hbs0 : B ≤ (((w.alloc (.cells #[.slice a R.length c, .int .i64 ch] 27)).alloc (.cells #[.int .i64 dd, .int .i64 i, .int .i64 j, .int .i64 k, .int .i64 ac, .int .i64 lo, .int .i64 hi, .slice A n m, .int .i64 N] 38)).alloc (.cells #[.slice none 0 0, .int .i64 0] 27)).heap.size := Nat.le_trans hbs hb0.size
  have hby0 : Byt (((w.alloc (.cells #[.slice a R.length c, .int .i64 ch] 27)).alloc (.cells #[.int .i64 dd, .int .i64 i, .int .i64 j, .int .i64 k, .int .i64 ac, .int .i64 lo, .int .i64 hi, .slice A n m, .int .i64 N] 38)).alloc (.cells #[.slice none 0 0, .int .i64 0] 27)) (((w.alloc (.cells #[.slice a R.length c, .int .i64 ch] 27)).alloc (.cells #[.int .i64 dd, .int .i64 i, .int .i64 j, .int .i64 k, .int .i64 ac, .int .i64 lo, .int .i64 hi, .slice A n m, .int .i64 N] 38)).alloc (.cells #[.slice none 0 0, .int .i64 0] 27)).heap.size A n m l := hB0 _ (hb0.mono hbs) hbs0
  have hG := h.tie.good
  have hle : T.length ≤ T.length + 1 := by omega
  have HBS := Lib.hid hbs
  clear h hT hB hs2 hB0 hbs hbs0 hby0 hG hc
  obtain ⟨d0, d1⟩ := HX0.out.box.cells
  obtain ⟨e0_, e1_, e2_, e3_, e4_, e5_, e6_, e7_, e8_⟩ := HX0.out.deed.cells
  obtain ⟨z0, z1⟩ := HX0.out.res.cells
  have fb0 := frozen_of_row _ _ 0 _ _ HX0.out.box
  have fb1 := frozen_of_row _ _ 1 _ _ HX0.out.box
  have fz0 := frozen_of_row _ _ 0 _ _ HX0.out.res
  have fz1 := frozen_of_row _ _ 1 _ _ HX0.out.res
  go_enter Try.func7, Try.ntmps7
  go_upto_region 20 with fail
  generalize (((w.alloc (.cells #[.slice a R.length c, .int .i64 ch] 27)).alloc (.cells #[.int .i64 dd, .int .i64 i, .int .i64 j, .int .i64 k, .int .i64 ac, .int .i64 lo, .int .i64 hi, .slice A n m, .int .i64 N] 38)).alloc (.cells #[.slice none 0 0, .int .i64 0] 27)) = w0 at *
  obtain ⟨w3, hw3⟩ : ∃ w3, w3 = w0 := ⟨_, rfl⟩
  have HX3 := HX0
  have HBO3 := HBO0
  rw [← hw3] at *
  clear hw3 HX0 HBO0 HBY
  clear e0_ e1_ e2_ e3_ e4_ e5_ e6_ e7_ e8_ z0 z1
  refine wp_region_last (fun w' => w'.cell? ⟨w.heap.size, 0, none⟩ = some (.slice a R.length c) ∧ w'.cell? ⟨w.heap.size, 1, none⟩ = some (.int .i64 ch)) 12 (by kernel_rfl) ⟨(HX3.out.below (kD _)).box.cells.1, (HX3.out.below (kD _)).box.cells.2⟩ (fun hHeld => ?_)
  have HX9 := Lib.hid (HX3.out.below (kD _))
  have HBO9 := Lib.hid (HBO3.out.below (kD _))
  clear d0 d1 fb0 fb1 fz0 fz1 HX3 HBO3
  generalize w3.drew = w9 at *
  refine wpAnyL_take (i := 0) (v := ?_) rfl (by kernel_rfl) (by kernel_rfl) (by kernel_rfl) (by kernel_rfl) (by kernel_rfl) (fun _ _ _ h => h) (Or.inl ⟨by rfl, ?_⟩) (by assumption) ?_
  rotate_left
  · intro wq hSw; (try dsimp only at hSw); first | (go_simp; done) | (go_simp; with_reducible rfl) | with_reducible rfl
  go_simp
  refine wpAnyL_take (i := 2) (v := ?_) rfl (by kernel_rfl) (by kernel_rfl) (by kernel_rfl) (by kernel_rfl) (by kernel_rfl) (fun _ _ _ h => h) (Or.inl ⟨by rfl, ?_⟩) (by assumption) ?_
  rotate_left
  · intro wq hSw; (try dsimp only at hSw); first | (go_simp; done) | (go_simp; with_reducible rfl) | with_reducible rfl
  go_simp
  refine wpAnyL_take (i := 3) (v := ?_) rfl (by kernel_rfl) (by kernel_rfl) (by kernel_rfl) (by kernel_rfl) (by kernel_rfl) (fun _ _ _ h => h) (Or.inl ⟨by rfl, ?_⟩) (by assumption) ?_
  rotate_left
  · intro wq hSw; (try dsimp only at hSw); first | (go_simp; done) | (go_simp; with_reducible rfl) | with_reducible rfl
  go_simp
  refine wpAnyL_take (i := 4) (v := ?_) rfl (by kernel_rfl) (by kernel_rfl) (by kernel_rfl) (by kernel_rfl) (by kernel_rfl) (fun _ _ _ h => h) (Or.inl ⟨by rfl, ?_⟩) (by assumption) ?_
  rotate_left
  · intro wq hSw; (try dsimp only at hSw); first | (go_simp; done) | (go_simp; with_reducible rfl) | with_reducible rfl
  go_simp
  try simp only [tq]
  refine wpAnyL_take (i := 5) (v := ?_) rfl (by kernel_rfl) (by kernel_rfl) (by kernel_rfl) (by kernel_rfl) (by kernel_rfl) (fun _ _ _ h => h) (Or.inl ⟨by rfl, ?_⟩) (by assumption) ?_
  rotate_left
  · intro wq hSw; (try dsimp only at hSw); first | (go_simp; done) | (go_simp; with_reducible rfl) | with_reducible rfl
  go_simp
  refine wpAnyL_take (i := 6) (v := ?_) rfl (by kernel_rfl) (by kernel_rfl) (by kernel_rfl) (by kernel_rfl) (by kernel_rfl) (fun _ _ _ h => h) (Or.inl ⟨by rfl, ?_⟩) (by assumption) ?_
  rotate_left
  · intro wq hSw; (try dsimp only at hSw); first | (go_simp; done) | (go_simp; with_reducible rfl) | with_reducible rfl
  go_simp
  refine wpAnyL_take (i := 7) (v := ?_) rfl (by kernel_rfl) (by kernel_rfl) (by kernel_rfl) (by kernel_rfl) (by kernel_rfl) (fun _ _ _ h => h) (Or.inl ⟨by rfl, ?_⟩) (by assumption) ?_
  rotate_left
  · intro wq hSw; (try dsimp only at hSw); first | (go_simp; done) | (go_simp; with_reducible rfl) | with_reducible rfl
  go_simp
  refine wpAnyL_take (i := 8) (v := ?_) rfl (by kernel_rfl) (by kernel_rfl) (by kernel_rfl) (by kernel_rfl) (by kernel_rfl) (fun _ _ _ h => h) (Or.inl ⟨by rfl, ?_⟩) (by assumption) ?_
  rotate_left
  · intro wq hSw; (try dsimp only at hSw); first | (go_simp; done) | (go_simp; with_reducible rfl) | with_reducible rfl
  go_simp
  refine wpAnyL_take (i := 9) (v := ?_) rfl (by kernel_rfl) (by kernel_rfl) (by kernel_rfl) (by kernel_rfl) (by kernel_rfl) (fun _ _ _ h => h) (Or.inl ⟨by rfl, ?_⟩) (by assumption) ?_
  rotate_left
  · intro wq hSw; (try dsimp only at hSw); first | (go_simp; done) | (go_simp; with_reducible rfl) | with_reducible rfl
  go_simp
  refine wpAnyL_take (i := 1) (v := ?_) rfl (by kernel_rfl) (by kernel_rfl) (by kernel_rfl) (by kernel_rfl) (by kernel_rfl) (fun _ _ _ h => h) (Or.inl ⟨by rfl, ?_⟩) (by assumption) ?_
  rotate_left
  · intro wq hSw; (try dsimp only at hSw); first | (go_simp; done) | (go_simp; with_reducible rfl) | with_reducible rfl
  go_simp
  refine wpAnyL_take (i := 10) (v := ?_) rfl (by kernel_rfl) (by kernel_rfl) (by kernel_rfl) (by kernel_rfl) (by kernel_rfl) (fun _ _ _ h => h) (Or.inl ⟨by rfl, ?_⟩) (by assumption) ?_
  rotate_left
  · intro wq hSw; (try dsimp only at hSw); first | (go_simp; done) | (go_simp; with_reducible rfl) | with_reducible rfl
  go_simp
  have fz0 := frozen_of_row _ _ 0 _ _ HX9.out.res
  have fz1 := frozen_of_row _ _ 1 _ _ HX9.out.res
  obtain ⟨z0, z1⟩ := HX9.out.res.cells
  refine wpAnyL_ready (rs := [11]) (by kernel_rfl) (by simp) ?_
  refine (AllReadyL.cons rfl (fun K hK => ?_) AllReadyL.nil)
  go_simp
  refine hK.out _ _ ?_ (fun hHeld => ?_)
  · (try dsimp only); exact ⟨(two_cell (by omega)).trans HX9.out.box.cells.1, (two_cell (by omega)).trans HX9.out.box.cells.2⟩
  clear hK K
  refine wpAnyL_ready (rs := [12]) (by kernel_rfl) (by simp) ?_
  refine AllReadyL.last rfl (fun K hK => ?_)
  go_simp
  refine hK.out _ _ ?_
  clear hK K
  refine wpAnyL_done (by kernel_rfl) ?_ _
  clear hHeld z0 z1 fz0 fz1
  have HDN := Lib.hid (HX9.out.done (T := T) (chT := ch) HBO9.out hle (by omega) (by omega))
  go_wp2_with fail
  exact bodyPost_ret ((results_tmp_cell_tmp rfl _ _ (w.heap.size + 2) _ _ _ _ rfl HX9.out.res.two Try.underlying27 rfl info_dct).trans (by rfl)) rfl HDN.out
end Go.Proofs.Ytmfjndkopkjchaa
