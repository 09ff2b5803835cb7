/- nmt: what the document's Decode answers. -/
import Derived.Test.YtnijdcbpllmieaaNc
namespace Go.Proofs.Ytnijdcbpllmieaa
open Go.RowKit
set_option linter.unusedSimpArgs false
set_option linter.unusedVariables false

set_option maxHeartbeats 1000000 in
theorem rdec_chk (id n : Int) (r : Bool) (d : Nat → Int) (w : World) (hd : ∀ j, j < 8 → 0 ≤ d j ∧ d j ≤ 255) (h : ¬ chk id r n d = 0) :
    Calls Try.prog 11 #[.agg #[.int .i64 id, .bool r, .int .i64 n, .int .u8 (d 0), .int .u8 (d 1), .int .u8 (d 2), .int .u8 (d 3), .int .u8 (d 4), .int .u8 (d 5), .int .u8 (d 6), .int .u8 (d 7)]] w fun e w' => e = .returned (.tuple #[.agg #[.int .i64 0, .int .i64 0], .int .i64 4]) ∧ Below w.heap.size w w' := by
  have h0 := hd 0 (by omega)
  have h1 := hd 1 (by omega)
  have wv : IntKind.i64.wrap (d 0) = d 0 := IntWalk.i64_in _ (by omega)
  have wn : IntKind.i64.wrap (d 1) = d 1 := IntWalk.i64_in _ (by omega)
  have hf : FrAt (((w.alloc (.cells #[.int .i64 id, .bool r, .int .i64 n, .int .u8 (d 0), .int .u8 (d 1), .int .u8 (d 2), .int .u8 (d 3), .int .u8 (d 4), .int .u8 (d 5), .int .u8 (d 6), .int .u8 (d 7)] 27)).alloc (.cells #[.int .i64 0, .int .i64 0] 24)).alloc (.cells #[.int .i64 (d 0), .int .i64 (d 1)] 24)) w.heap.size id r n d := (heap_alloc_old _ _ _ (by simp; omega)).trans (heap_alloc2_old w _ _)
  have ho : OrAt (((w.alloc (.cells #[.int .i64 id, .bool r, .int .i64 n, .int .u8 (d 0), .int .u8 (d 1), .int .u8 (d 2), .int .u8 (d 3), .int .u8 (d 4), .int .u8 (d 5), .int .u8 (d 6), .int .u8 (d 7)] 27)).alloc (.cells #[.int .i64 0, .int .i64 0] 24)).alloc (.cells #[.int .i64 (d 0), .int .i64 (d 1)] 24)) (w.heap.size + 1) 0 0 := (heap_alloc_old _ _ _ (by simp)).trans (heap_alloc2_new w _ _)
  have hr : OrAt (((w.alloc (.cells #[.int .i64 id, .bool r, .int .i64 n, .int .u8 (d 0), .int .u8 (d 1), .int .u8 (d 2), .int .u8 (d 3), .int .u8 (d 4), .int .u8 (d 5), .int .u8 (d 6), .int .u8 (d 7)] 27)).alloc (.cells #[.int .i64 0, .int .i64 0] 24)).alloc (.cells #[.int .i64 (d 0), .int .i64 (d 1)] 24)) (w.heap.size + 1 + 1) (d 0) (d 1) := by
    have := or_new ((w.alloc (.cells #[.int .i64 id, .bool r, .int .i64 n, .int .u8 (d 0), .int .u8 (d 1), .int .u8 (d 2), .int .u8 (d 3), .int .u8 (d 4), .int .u8 (d 5), .int .u8 (d 6), .int .u8 (d 7)] 27)).alloc (.cells #[.int .i64 0, .int .i64 0] 24)) (d 0) (d 1)
    simpa using this
  have hb : Below w.heap.size w (((w.alloc (.cells #[.int .i64 id, .bool r, .int .i64 n, .int .u8 (d 0), .int .u8 (d 1), .int .u8 (d 2), .int .u8 (d 3), .int .u8 (d 4), .int .u8 (d 5), .int .u8 (d 6), .int .u8 (d 7)] 27)).alloc (.cells #[.int .i64 0, .int .i64 0] 24)).alloc (.cells #[.int .i64 (d 0), .int .i64 (d 1)] 24)) := (((Below.refl _ _).alloc (Nat.le_refl _) _).alloc (by simp) _).alloc (by simp; omega) _
  have HF1 := Lib.hid hf
  have HO1 := Lib.hid ho
  have HR1 := Lib.hid hr
  have HB1 := Lib.hid hb
  have hc := fun w => dcheck_any id n r d w
  clear hd h0 h1 hf ho hr hb
  have t0 : (chk id r n d != 0) = true := by simpa using h
  generalize chk id r n d = c at hc t0
  have HC := Lib.hid hc
  clear hc h
  go_enter Try.func11, Try.ntmps11
  go_wp2_with (first
    | (go_at_call 25; refine (HC.out _).mono ?_; rintro e w2 ⟨rfl, hb2⟩; have hf2 := FrAt.below HF1.out hb2 HF1.out.lt; have HO2 := Lib.hid (OrAt.below HO1.out hb2 HO1.out.lt); have HR2 := Lib.hid (OrAt.below HR1.out hb2 HR1.out.lt); have HB2 := Lib.hid (HB1.out.trans (hb2.mono HB1.out.size)); obtain ⟨c0, c1, c2, c3, c4, c5, c6, c7, c8, c9, c10⟩ := hf2.cells; obtain ⟨r0, r1⟩ := HR2.out.cells; clear hb2 hf2 c3 c4 c5 c6 c7 c8 c9 c10)
    | (refine wpList_store_row rfl _ (.tmp 2) (.tmp 36) rfl (w.heap.size + 1) _ rfl rfl _ _ HO2.out info_order rfl (one_order 0 0) ?_)
    | (refine wpList_store_row rfl _ (.tmp 2) (.tmp 37) rfl (w.heap.size + 1) _ rfl rfl _ _ HO2.out info_order rfl (one_order (d 0) (d 1)) ?_))
  all_goals first | (exfalso; omega) | exact bodyPost_ret (results_cell_tmp_row rfl _ _ (w.heap.size + 1) _ _ _ _ rfl (setRow_heap _ _ _ _ _ (0, 0) HO2.out) Try.underlying24 rfl info_order) rfl ⟨rfl, below_setRow HB2.out (by omega) _⟩
set_option maxHeartbeats 1000000 in
theorem rdec_id (id n : Int) (r : Bool) (d : Nat → Int) (w : World) (hd : ∀ j, j < 8 → 0 ≤ d j ∧ d j ≤ 255) (h : chk id r n d = 0) (h2 : ¬ id = 0) :
    Calls Try.prog 11 #[.agg #[.int .i64 id, .bool r, .int .i64 n, .int .u8 (d 0), .int .u8 (d 1), .int .u8 (d 2), .int .u8 (d 3), .int .u8 (d 4), .int .u8 (d 5), .int .u8 (d 6), .int .u8 (d 7)]] w fun e w' => e = .returned (.tuple #[.agg #[.int .i64 0, .int .i64 0], .int .i64 4]) ∧ Below w.heap.size w w' := by
  have h0 := hd 0 (by omega)
  have h1 := hd 1 (by omega)
  have wv : IntKind.i64.wrap (d 0) = d 0 := IntWalk.i64_in _ (by omega)
  have wn : IntKind.i64.wrap (d 1) = d 1 := IntWalk.i64_in _ (by omega)
  have hf : FrAt (((w.alloc (.cells #[.int .i64 id, .bool r, .int .i64 n, .int .u8 (d 0), .int .u8 (d 1), .int .u8 (d 2), .int .u8 (d 3), .int .u8 (d 4), .int .u8 (d 5), .int .u8 (d 6), .int .u8 (d 7)] 27)).alloc (.cells #[.int .i64 0, .int .i64 0] 24)).alloc (.cells #[.int .i64 (d 0), .int .i64 (d 1)] 24)) w.heap.size id r n d := (heap_alloc_old _ _ _ (by simp; omega)).trans (heap_alloc2_old w _ _)
  have ho : OrAt (((w.alloc (.cells #[.int .i64 id, .bool r, .int .i64 n, .int .u8 (d 0), .int .u8 (d 1), .int .u8 (d 2), .int .u8 (d 3), .int .u8 (d 4), .int .u8 (d 5), .int .u8 (d 6), .int .u8 (d 7)] 27)).alloc (.cells #[.int .i64 0, .int .i64 0] 24)).alloc (.cells #[.int .i64 (d 0), .int .i64 (d 1)] 24)) (w.heap.size + 1) 0 0 := (heap_alloc_old _ _ _ (by simp)).trans (heap_alloc2_new w _ _)
  have hr : OrAt (((w.alloc (.cells #[.int .i64 id, .bool r, .int .i64 n, .int .u8 (d 0), .int .u8 (d 1), .int .u8 (d 2), .int .u8 (d 3), .int .u8 (d 4), .int .u8 (d 5), .int .u8 (d 6), .int .u8 (d 7)] 27)).alloc (.cells #[.int .i64 0, .int .i64 0] 24)).alloc (.cells #[.int .i64 (d 0), .int .i64 (d 1)] 24)) (w.heap.size + 1 + 1) (d 0) (d 1) := by
    have := or_new ((w.alloc (.cells #[.int .i64 id, .bool r, .int .i64 n, .int .u8 (d 0), .int .u8 (d 1), .int .u8 (d 2), .int .u8 (d 3), .int .u8 (d 4), .int .u8 (d 5), .int .u8 (d 6), .int .u8 (d 7)] 27)).alloc (.cells #[.int .i64 0, .int .i64 0] 24)) (d 0) (d 1)
    simpa using this
  have hb : Below w.heap.size w (((w.alloc (.cells #[.int .i64 id, .bool r, .int .i64 n, .int .u8 (d 0), .int .u8 (d 1), .int .u8 (d 2), .int .u8 (d 3), .int .u8 (d 4), .int .u8 (d 5), .int .u8 (d 6), .int .u8 (d 7)] 27)).alloc (.cells #[.int .i64 0, .int .i64 0] 24)).alloc (.cells #[.int .i64 (d 0), .int .i64 (d 1)] 24)) := (((Below.refl _ _).alloc (Nat.le_refl _) _).alloc (by simp) _).alloc (by simp; omega) _
  have HF1 := Lib.hid hf
  have HO1 := Lib.hid ho
  have HR1 := Lib.hid hr
  have HB1 := Lib.hid hb
  have hc := fun w => dcheck_any id n r d w
  clear hd h0 h1 hf ho hr hb
  rw [h] at hc
  have HC := Lib.hid hc
  clear hc h
  have t0 : (id != 0) = true := by simpa using h2
  clear h2
  go_enter Try.func11, Try.ntmps11
  go_wp2_with (first
    | (go_at_call 25; refine (HC.out _).mono ?_; rintro e w2 ⟨rfl, hb2⟩; have hf2 := FrAt.below HF1.out hb2 HF1.out.lt; have HO2 := Lib.hid (OrAt.below HO1.out hb2 HO1.out.lt); have HR2 := Lib.hid (OrAt.below HR1.out hb2 HR1.out.lt); have HB2 := Lib.hid (HB1.out.trans (hb2.mono HB1.out.size)); obtain ⟨c0, c1, c2, c3, c4, c5, c6, c7, c8, c9, c10⟩ := hf2.cells; obtain ⟨r0, r1⟩ := HR2.out.cells; clear hb2 hf2 c3 c4 c5 c6 c7 c8 c9 c10)
    | (refine wpList_store_row rfl _ (.tmp 2) (.tmp 36) rfl (w.heap.size + 1) _ rfl rfl _ _ HO2.out info_order rfl (one_order 0 0) ?_)
    | (refine wpList_store_row rfl _ (.tmp 2) (.tmp 37) rfl (w.heap.size + 1) _ rfl rfl _ _ HO2.out info_order rfl (one_order (d 0) (d 1)) ?_))
  all_goals first | (exfalso; omega) | exact bodyPost_ret (results_cell_tmp_row rfl _ _ (w.heap.size + 1) _ _ _ _ rfl (setRow_heap _ _ _ _ _ (0, 0) HO2.out) Try.underlying24 rfl info_order) rfl ⟨rfl, below_setRow HB2.out (by omega) _⟩
set_option maxHeartbeats 1000000 in
theorem rdec_rtr (id n : Int) (r : Bool) (d : Nat → Int) (w : World) (hd : ∀ j, j < 8 → 0 ≤ d j ∧ d j ≤ 255) (h : chk id r n d = 0) (h2 : id = 0) (h3 : r = true) :
    Calls Try.prog 11 #[.agg #[.int .i64 id, .bool r, .int .i64 n, .int .u8 (d 0), .int .u8 (d 1), .int .u8 (d 2), .int .u8 (d 3), .int .u8 (d 4), .int .u8 (d 5), .int .u8 (d 6), .int .u8 (d 7)]] w fun e w' => e = .returned (.tuple #[.agg #[.int .i64 0, .int .i64 0], .int .i64 4]) ∧ Below w.heap.size w w' := by
  have h0 := hd 0 (by omega)
  have h1 := hd 1 (by omega)
  have wv : IntKind.i64.wrap (d 0) = d 0 := IntWalk.i64_in _ (by omega)
  have wn : IntKind.i64.wrap (d 1) = d 1 := IntWalk.i64_in _ (by omega)
  have hf : FrAt (((w.alloc (.cells #[.int .i64 id, .bool r, .int .i64 n, .int .u8 (d 0), .int .u8 (d 1), .int .u8 (d 2), .int .u8 (d 3), .int .u8 (d 4), .int .u8 (d 5), .int .u8 (d 6), .int .u8 (d 7)] 27)).alloc (.cells #[.int .i64 0, .int .i64 0] 24)).alloc (.cells #[.int .i64 (d 0), .int .i64 (d 1)] 24)) w.heap.size id r n d := (heap_alloc_old _ _ _ (by simp; omega)).trans (heap_alloc2_old w _ _)
  have ho : OrAt (((w.alloc (.cells #[.int .i64 id, .bool r, .int .i64 n, .int .u8 (d 0), .int .u8 (d 1), .int .u8 (d 2), .int .u8 (d 3), .int .u8 (d 4), .int .u8 (d 5), .int .u8 (d 6), .int .u8 (d 7)] 27)).alloc (.cells #[.int .i64 0, .int .i64 0] 24)).alloc (.cells #[.int .i64 (d 0), .int .i64 (d 1)] 24)) (w.heap.size + 1) 0 0 := (heap_alloc_old _ _ _ (by simp)).trans (heap_alloc2_new w _ _)
  have hr : OrAt (((w.alloc (.cells #[.int .i64 id, .bool r, .int .i64 n, .int .u8 (d 0), .int .u8 (d 1), .int .u8 (d 2), .int .u8 (d 3), .int .u8 (d 4), .int .u8 (d 5), .int .u8 (d 6), .int .u8 (d 7)] 27)).alloc (.cells #[.int .i64 0, .int .i64 0] 24)).alloc (.cells #[.int .i64 (d 0), .int .i64 (d 1)] 24)) (w.heap.size + 1 + 1) (d 0) (d 1) := by
    have := or_new ((w.alloc (.cells #[.int .i64 id, .bool r, .int .i64 n, .int .u8 (d 0), .int .u8 (d 1), .int .u8 (d 2), .int .u8 (d 3), .int .u8 (d 4), .int .u8 (d 5), .int .u8 (d 6), .int .u8 (d 7)] 27)).alloc (.cells #[.int .i64 0, .int .i64 0] 24)) (d 0) (d 1)
    simpa using this
  have hb : Below w.heap.size w (((w.alloc (.cells #[.int .i64 id, .bool r, .int .i64 n, .int .u8 (d 0), .int .u8 (d 1), .int .u8 (d 2), .int .u8 (d 3), .int .u8 (d 4), .int .u8 (d 5), .int .u8 (d 6), .int .u8 (d 7)] 27)).alloc (.cells #[.int .i64 0, .int .i64 0] 24)).alloc (.cells #[.int .i64 (d 0), .int .i64 (d 1)] 24)) := (((Below.refl _ _).alloc (Nat.le_refl _) _).alloc (by simp) _).alloc (by simp; omega) _
  have HF1 := Lib.hid hf
  have HO1 := Lib.hid ho
  have HR1 := Lib.hid hr
  have HB1 := Lib.hid hb
  have hc := fun w => dcheck_any id n r d w
  clear hd h0 h1 hf ho hr hb
  rw [h] at hc
  have HC := Lib.hid hc
  clear hc h
  subst h2
  subst h3
  go_enter Try.func11, Try.ntmps11
  go_wp2_with (first
    | (go_at_call 25; refine (HC.out _).mono ?_; rintro e w2 ⟨rfl, hb2⟩; have hf2 := FrAt.below HF1.out hb2 HF1.out.lt; have HO2 := Lib.hid (OrAt.below HO1.out hb2 HO1.out.lt); have HR2 := Lib.hid (OrAt.below HR1.out hb2 HR1.out.lt); have HB2 := Lib.hid (HB1.out.trans (hb2.mono HB1.out.size)); obtain ⟨c0, c1, c2, c3, c4, c5, c6, c7, c8, c9, c10⟩ := hf2.cells; obtain ⟨r0, r1⟩ := HR2.out.cells; clear hb2 hf2 c3 c4 c5 c6 c7 c8 c9 c10)
    | (refine wpList_store_row rfl _ (.tmp 2) (.tmp 36) rfl (w.heap.size + 1) _ rfl rfl _ _ HO2.out info_order rfl (one_order 0 0) ?_)
    | (refine wpList_store_row rfl _ (.tmp 2) (.tmp 37) rfl (w.heap.size + 1) _ rfl rfl _ _ HO2.out info_order rfl (one_order (d 0) (d 1)) ?_))
  all_goals first | (exfalso; omega) | exact bodyPost_ret (results_cell_tmp_row rfl _ _ (w.heap.size + 1) _ _ _ _ rfl (setRow_heap _ _ _ _ _ (0, 0) HO2.out) Try.underlying24 rfl info_order) rfl ⟨rfl, below_setRow HB2.out (by omega) _⟩
set_option maxHeartbeats 1000000 in
theorem rdec_len (id n : Int) (r : Bool) (d : Nat → Int) (w : World) (hd : ∀ j, j < 8 → 0 ≤ d j ∧ d j ≤ 255) (h : chk id r n d = 0) (h2 : id = 0) (h3 : r = false) (h4 : ¬ n = 2) :
    Calls Try.prog 11 #[.agg #[.int .i64 id, .bool r, .int .i64 n, .int .u8 (d 0), .int .u8 (d 1), .int .u8 (d 2), .int .u8 (d 3), .int .u8 (d 4), .int .u8 (d 5), .int .u8 (d 6), .int .u8 (d 7)]] w fun e w' => e = .returned (.tuple #[.agg #[.int .i64 0, .int .i64 0], .int .i64 4]) ∧ Below w.heap.size w w' := by
  have h0 := hd 0 (by omega)
  have h1 := hd 1 (by omega)
  have wv : IntKind.i64.wrap (d 0) = d 0 := IntWalk.i64_in _ (by omega)
  have wn : IntKind.i64.wrap (d 1) = d 1 := IntWalk.i64_in _ (by omega)
  have hf : FrAt (((w.alloc (.cells #[.int .i64 id, .bool r, .int .i64 n, .int .u8 (d 0), .int .u8 (d 1), .int .u8 (d 2), .int .u8 (d 3), .int .u8 (d 4), .int .u8 (d 5), .int .u8 (d 6), .int .u8 (d 7)] 27)).alloc (.cells #[.int .i64 0, .int .i64 0] 24)).alloc (.cells #[.int .i64 (d 0), .int .i64 (d 1)] 24)) w.heap.size id r n d := (heap_alloc_old _ _ _ (by simp; omega)).trans (heap_alloc2_old w _ _)
  have ho : OrAt (((w.alloc (.cells #[.int .i64 id, .bool r, .int .i64 n, .int .u8 (d 0), .int .u8 (d 1), .int .u8 (d 2), .int .u8 (d 3), .int .u8 (d 4), .int .u8 (d 5), .int .u8 (d 6), .int .u8 (d 7)] 27)).alloc (.cells #[.int .i64 0, .int .i64 0] 24)).alloc (.cells #[.int .i64 (d 0), .int .i64 (d 1)] 24)) (w.heap.size + 1) 0 0 := (heap_alloc_old _ _ _ (by simp)).trans (heap_alloc2_new w _ _)
  have hr : OrAt (((w.alloc (.cells #[.int .i64 id, .bool r, .int .i64 n, .int .u8 (d 0), .int .u8 (d 1), .int .u8 (d 2), .int .u8 (d 3), .int .u8 (d 4), .int .u8 (d 5), .int .u8 (d 6), .int .u8 (d 7)] 27)).alloc (.cells #[.int .i64 0, .int .i64 0] 24)).alloc (.cells #[.int .i64 (d 0), .int .i64 (d 1)] 24)) (w.heap.size + 1 + 1) (d 0) (d 1) := by
    have := or_new ((w.alloc (.cells #[.int .i64 id, .bool r, .int .i64 n, .int .u8 (d 0), .int .u8 (d 1), .int .u8 (d 2), .int .u8 (d 3), .int .u8 (d 4), .int .u8 (d 5), .int .u8 (d 6), .int .u8 (d 7)] 27)).alloc (.cells #[.int .i64 0, .int .i64 0] 24)) (d 0) (d 1)
    simpa using this
  have hb : Below w.heap.size w (((w.alloc (.cells #[.int .i64 id, .bool r, .int .i64 n, .int .u8 (d 0), .int .u8 (d 1), .int .u8 (d 2), .int .u8 (d 3), .int .u8 (d 4), .int .u8 (d 5), .int .u8 (d 6), .int .u8 (d 7)] 27)).alloc (.cells #[.int .i64 0, .int .i64 0] 24)).alloc (.cells #[.int .i64 (d 0), .int .i64 (d 1)] 24)) := (((Below.refl _ _).alloc (Nat.le_refl _) _).alloc (by simp) _).alloc (by simp; omega) _
  have HF1 := Lib.hid hf
  have HO1 := Lib.hid ho
  have HR1 := Lib.hid hr
  have HB1 := Lib.hid hb
  have hc := fun w => dcheck_any id n r d w
  clear hd h0 h1 hf ho hr hb
  rw [h] at hc
  have HC := Lib.hid hc
  clear hc h
  subst h2
  subst h3
  have t0 : (n != 2) = true := by simpa using h4
  clear h4
  go_enter Try.func11, Try.ntmps11
  go_wp2_with (first
    | (go_at_call 25; refine (HC.out _).mono ?_; rintro e w2 ⟨rfl, hb2⟩; have hf2 := FrAt.below HF1.out hb2 HF1.out.lt; have HO2 := Lib.hid (OrAt.below HO1.out hb2 HO1.out.lt); have HR2 := Lib.hid (OrAt.below HR1.out hb2 HR1.out.lt); have HB2 := Lib.hid (HB1.out.trans (hb2.mono HB1.out.size)); obtain ⟨c0, c1, c2, c3, c4, c5, c6, c7, c8, c9, c10⟩ := hf2.cells; obtain ⟨r0, r1⟩ := HR2.out.cells; clear hb2 hf2 c3 c4 c5 c6 c7 c8 c9 c10)
    | (refine wpList_store_row rfl _ (.tmp 2) (.tmp 36) rfl (w.heap.size + 1) _ rfl rfl _ _ HO2.out info_order rfl (one_order 0 0) ?_)
    | (refine wpList_store_row rfl _ (.tmp 2) (.tmp 37) rfl (w.heap.size + 1) _ rfl rfl _ _ HO2.out info_order rfl (one_order (d 0) (d 1)) ?_))
  all_goals first | (exfalso; omega) | exact bodyPost_ret (results_cell_tmp_row rfl _ _ (w.heap.size + 1) _ _ _ _ rfl (setRow_heap _ _ _ _ _ (0, 0) HO2.out) Try.underlying24 rfl info_order) rfl ⟨rfl, below_setRow HB2.out (by omega) _⟩
set_option maxHeartbeats 1000000 in
theorem rdec_no (id n : Int) (r : Bool) (d : Nat → Int) (w : World) (hd : ∀ j, j < 8 → 0 ≤ d j ∧ d j ≤ 255) (h : chk id r n d = 0) (h2 : id = 0) (h3 : r = false) (h4 : n = 2) (h5 : mayO (d 0) (d 1) = false) :
    Calls Try.prog 11 #[.agg #[.int .i64 id, .bool r, .int .i64 n, .int .u8 (d 0), .int .u8 (d 1), .int .u8 (d 2), .int .u8 (d 3), .int .u8 (d 4), .int .u8 (d 5), .int .u8 (d 6), .int .u8 (d 7)]] w fun e w' => e = .returned (.tuple #[.agg #[.int .i64 0, .int .i64 0], .int .i64 4]) ∧ Below w.heap.size w w' := by
  have h0 := hd 0 (by omega)
  have h1 := hd 1 (by omega)
  have wv : IntKind.i64.wrap (d 0) = d 0 := IntWalk.i64_in _ (by omega)
  have wn : IntKind.i64.wrap (d 1) = d 1 := IntWalk.i64_in _ (by omega)
  have hf : FrAt (((w.alloc (.cells #[.int .i64 id, .bool r, .int .i64 n, .int .u8 (d 0), .int .u8 (d 1), .int .u8 (d 2), .int .u8 (d 3), .int .u8 (d 4), .int .u8 (d 5), .int .u8 (d 6), .int .u8 (d 7)] 27)).alloc (.cells #[.int .i64 0, .int .i64 0] 24)).alloc (.cells #[.int .i64 (d 0), .int .i64 (d 1)] 24)) w.heap.size id r n d := (heap_alloc_old _ _ _ (by simp; omega)).trans (heap_alloc2_old w _ _)
  have ho : OrAt (((w.alloc (.cells #[.int .i64 id, .bool r, .int .i64 n, .int .u8 (d 0), .int .u8 (d 1), .int .u8 (d 2), .int .u8 (d 3), .int .u8 (d 4), .int .u8 (d 5), .int .u8 (d 6), .int .u8 (d 7)] 27)).alloc (.cells #[.int .i64 0, .int .i64 0] 24)).alloc (.cells #[.int .i64 (d 0), .int .i64 (d 1)] 24)) (w.heap.size + 1) 0 0 := (heap_alloc_old _ _ _ (by simp)).trans (heap_alloc2_new w _ _)
  have hr : OrAt (((w.alloc (.cells #[.int .i64 id, .bool r, .int .i64 n, .int .u8 (d 0), .int .u8 (d 1), .int .u8 (d 2), .int .u8 (d 3), .int .u8 (d 4), .int .u8 (d 5), .int .u8 (d 6), .int .u8 (d 7)] 27)).alloc (.cells #[.int .i64 0, .int .i64 0] 24)).alloc (.cells #[.int .i64 (d 0), .int .i64 (d 1)] 24)) (w.heap.size + 1 + 1) (d 0) (d 1) := by
    have := or_new ((w.alloc (.cells #[.int .i64 id, .bool r, .int .i64 n, .int .u8 (d 0), .int .u8 (d 1), .int .u8 (d 2), .int .u8 (d 3), .int .u8 (d 4), .int .u8 (d 5), .int .u8 (d 6), .int .u8 (d 7)] 27)).alloc (.cells #[.int .i64 0, .int .i64 0] 24)) (d 0) (d 1)
    simpa using this
  have hb : Below w.heap.size w (((w.alloc (.cells #[.int .i64 id, .bool r, .int .i64 n, .int .u8 (d 0), .int .u8 (d 1), .int .u8 (d 2), .int .u8 (d 3), .int .u8 (d 4), .int .u8 (d 5), .int .u8 (d 6), .int .u8 (d 7)] 27)).alloc (.cells #[.int .i64 0, .int .i64 0] 24)).alloc (.cells #[.int .i64 (d 0), .int .i64 (d 1)] 24)) := (((Below.refl _ _).alloc (Nat.le_refl _) _).alloc (by simp) _).alloc (by simp; omega) _
  have HF1 := Lib.hid hf
  have HO1 := Lib.hid ho
  have HR1 := Lib.hid hr
  have HB1 := Lib.hid hb
  have hc := fun w => dcheck_any id n r d w
  clear hd h0 h1 hf ho hr hb
  rw [h] at hc
  have HC := Lib.hid hc
  clear hc h
  subst h2
  subst h3
  subst h4
  have hm := fun w => rmay_any (d 0) (d 1) w
  rw [h5] at hm
  have HM := Lib.hid hm
  clear hm h5
  go_enter Try.func11, Try.ntmps11
  go_wp2_with (first
    | (go_at_call 25; refine (HC.out _).mono ?_; rintro e w2 ⟨rfl, hb2⟩; have hf2 := FrAt.below HF1.out hb2 HF1.out.lt; have HO2 := Lib.hid (OrAt.below HO1.out hb2 HO1.out.lt); have HR2 := Lib.hid (OrAt.below HR1.out hb2 HR1.out.lt); have HB2 := Lib.hid (HB1.out.trans (hb2.mono HB1.out.size)); obtain ⟨c0, c1, c2, c3, c4, c5, c6, c7, c8, c9, c10⟩ := hf2.cells; obtain ⟨r0, r1⟩ := HR2.out.cells; clear hb2 hf2 c3 c4 c5 c6 c7 c8 c9 c10)
    | (go_at_call 8; refine (HM.out _).mono ?_; rintro e w3 ⟨rfl, hb3⟩; have HO3 := Lib.hid (OrAt.below HO2.out hb3 HO2.out.lt); have HR3 := OrAt.below HR2.out hb3 HR2.out.lt; have HB3 := Lib.hid (HB2.out.trans (hb3.mono HB2.out.size)); obtain ⟨s0, s1⟩ := HR3.cells; clear hb3 HR3)
    | (refine wpList_store_row rfl _ (.tmp 2) (.tmp 36) rfl (w.heap.size + 1) _ rfl rfl _ _ HO3.out info_order rfl (one_order 0 0) ?_)
    | (refine wpList_store_row rfl _ (.tmp 2) (.tmp 37) rfl (w.heap.size + 1) _ rfl rfl _ _ HO3.out info_order rfl (one_order (d 0) (d 1)) ?_))
  all_goals first | (exfalso; omega) | exact bodyPost_ret (results_cell_tmp_row rfl _ _ (w.heap.size + 1) _ _ _ _ rfl (setRow_heap _ _ _ _ _ (0, 0) HO3.out) Try.underlying24 rfl info_order) rfl ⟨rfl, below_setRow HB3.out (by omega) _⟩
set_option maxHeartbeats 1000000 in
theorem rdec_yes (id n : Int) (r : Bool) (d : Nat → Int) (w : World) (hd : ∀ j, j < 8 → 0 ≤ d j ∧ d j ≤ 255) (h : chk id r n d = 0) (h2 : id = 0) (h3 : r = false) (h4 : n = 2) (h5 : mayO (d 0) (d 1) = true) :
    Calls Try.prog 11 #[.agg #[.int .i64 id, .bool r, .int .i64 n, .int .u8 (d 0), .int .u8 (d 1), .int .u8 (d 2), .int .u8 (d 3), .int .u8 (d 4), .int .u8 (d 5), .int .u8 (d 6), .int .u8 (d 7)]] w fun e w' => e = .returned (.tuple #[.agg #[.int .i64 (d 0), .int .i64 (d 1)], .int .i64 0]) ∧ Below w.heap.size w w' := by
  have h0 := hd 0 (by omega)
  have h1 := hd 1 (by omega)
  have wv : IntKind.i64.wrap (d 0) = d 0 := IntWalk.i64_in _ (by omega)
  have wn : IntKind.i64.wrap (d 1) = d 1 := IntWalk.i64_in _ (by omega)
  have hf : FrAt (((w.alloc (.cells #[.int .i64 id, .bool r, .int .i64 n, .int .u8 (d 0), .int .u8 (d 1), .int .u8 (d 2), .int .u8 (d 3), .int .u8 (d 4), .int .u8 (d 5), .int .u8 (d 6), .int .u8 (d 7)] 27)).alloc (.cells #[.int .i64 0, .int .i64 0] 24)).alloc (.cells #[.int .i64 (d 0), .int .i64 (d 1)] 24)) w.heap.size id r n d := (heap_alloc_old _ _ _ (by simp; omega)).trans (heap_alloc2_old w _ _)
  have ho : OrAt (((w.alloc (.cells #[.int .i64 id, .bool r, .int .i64 n, .int .u8 (d 0), .int .u8 (d 1), .int .u8 (d 2), .int .u8 (d 3), .int .u8 (d 4), .int .u8 (d 5), .int .u8 (d 6), .int .u8 (d 7)] 27)).alloc (.cells #[.int .i64 0, .int .i64 0] 24)).alloc (.cells #[.int .i64 (d 0), .int .i64 (d 1)] 24)) (w.heap.size + 1) 0 0 := (heap_alloc_old _ _ _ (by simp)).trans (heap_alloc2_new w _ _)
  have hr : OrAt (((w.alloc (.cells #[.int .i64 id, .bool r, .int .i64 n, .int .u8 (d 0), .int .u8 (d 1), .int .u8 (d 2), .int .u8 (d 3), .int .u8 (d 4), .int .u8 (d 5), .int .u8 (d 6), .int .u8 (d 7)] 27)).alloc (.cells #[.int .i64 0, .int .i64 0] 24)).alloc (.cells #[.int .i64 (d 0), .int .i64 (d 1)] 24)) (w.heap.size + 1 + 1) (d 0) (d 1) := by
    have := or_new ((w.alloc (.cells #[.int .i64 id, .bool r, .int .i64 n, .int .u8 (d 0), .int .u8 (d 1), .int .u8 (d 2), .int .u8 (d 3), .int .u8 (d 4), .int .u8 (d 5), .int .u8 (d 6), .int .u8 (d 7)] 27)).alloc (.cells #[.int .i64 0, .int .i64 0] 24)) (d 0) (d 1)
    simpa using this
  have hb : Below w.heap.size w (((w.alloc (.cells #[.int .i64 id, .bool r, .int .i64 n, .int .u8 (d 0), .int .u8 (d 1), .int .u8 (d 2), .int .u8 (d 3), .int .u8 (d 4), .int .u8 (d 5), .int .u8 (d 6), .int .u8 (d 7)] 27)).alloc (.cells #[.int .i64 0, .int .i64 0] 24)).alloc (.cells #[.int .i64 (d 0), .int .i64 (d 1)] 24)) := (((Below.refl _ _).alloc (Nat.le_refl _) _).alloc (by simp) _).alloc (by simp; omega) _
  have HF1 := Lib.hid hf
  have HO1 := Lib.hid ho
  have HR1 := Lib.hid hr
  have HB1 := Lib.hid hb
  have hc := fun w => dcheck_any id n r d w
  clear hd h0 h1 hf ho hr hb
  rw [h] at hc
  have HC := Lib.hid hc
  clear hc h
  subst h2
  subst h3
  subst h4
  have hm := fun w => rmay_any (d 0) (d 1) w
  rw [h5] at hm
  have HM := Lib.hid hm
  clear hm h5
  go_enter Try.func11, Try.ntmps11
  go_wp2_with (first
    | (go_at_call 25; refine (HC.out _).mono ?_; rintro e w2 ⟨rfl, hb2⟩; have hf2 := FrAt.below HF1.out hb2 HF1.out.lt; have HO2 := Lib.hid (OrAt.below HO1.out hb2 HO1.out.lt); have HR2 := Lib.hid (OrAt.below HR1.out hb2 HR1.out.lt); have HB2 := Lib.hid (HB1.out.trans (hb2.mono HB1.out.size)); obtain ⟨c0, c1, c2, c3, c4, c5, c6, c7, c8, c9, c10⟩ := hf2.cells; obtain ⟨r0, r1⟩ := HR2.out.cells; clear hb2 hf2 c3 c4 c5 c6 c7 c8 c9 c10)
    | (go_at_call 8; refine (HM.out _).mono ?_; rintro e w3 ⟨rfl, hb3⟩; have HO3 := Lib.hid (OrAt.below HO2.out hb3 HO2.out.lt); have HR3 := OrAt.below HR2.out hb3 HR2.out.lt; have HB3 := Lib.hid (HB2.out.trans (hb3.mono HB2.out.size)); obtain ⟨s0, s1⟩ := HR3.cells; clear hb3 HR3)
    | (refine wpList_store_row rfl _ (.tmp 2) (.tmp 36) rfl (w.heap.size + 1) _ rfl rfl _ _ HO3.out info_order rfl (one_order 0 0) ?_)
    | (refine wpList_store_row rfl _ (.tmp 2) (.tmp 37) rfl (w.heap.size + 1) _ rfl rfl _ _ HO3.out info_order rfl (one_order (d 0) (d 1)) ?_))
  all_goals first | (exfalso; omega) | exact bodyPost_ret (results_cell_tmp_row rfl _ _ (w.heap.size + 1) _ _ _ _ rfl (setRow_heap _ _ _ _ _ (0, 0) HO3.out) Try.underlying24 rfl info_order) rfl ⟨rfl, below_setRow HB3.out (by omega) _⟩
theorem decO_iff (id n : Int) (r : Bool) (d : Nat → Int) : decO id r n d = true ↔ chk id r n d = 0 ∧ id = 0 ∧ r = false ∧ n = 2 ∧ mayO (d 0) (d 1) = true := by
  unfold decO
  rw [Bool.and_eq_true, Bool.and_eq_true, decide_eq_true_eq, decO_chk]
  constructor
  · rintro ⟨h1, ⟨h2, h3, h4⟩, h5⟩
    subst h2; subst h3; subst h4
    exact ⟨h5, rfl, rfl, rfl, h1⟩
  · rintro ⟨h5, h2, h3, h4, h1⟩
    subst h2; subst h3; subst h4
    exact ⟨h1, ⟨rfl, rfl, rfl⟩, h5⟩
theorem rdec_any (id n : Int) (r : Bool) (d : Nat → Int) (w : World) (hd : ∀ j, j < 8 → 0 ≤ d j ∧ d j ≤ 255) :
    Calls Try.prog 11 #[.agg #[.int .i64 id, .bool r, .int .i64 n, .int .u8 (d 0), .int .u8 (d 1), .int .u8 (d 2), .int .u8 (d 3), .int .u8 (d 4), .int .u8 (d 5), .int .u8 (d 6), .int .u8 (d 7)]] w fun e w' => e = .returned (.tuple #[.agg #[.int .i64 (decV id r n d), .int .i64 (decN id r n d)], .int .i64 (decE id r n d)]) ∧ Below w.heap.size w w' := by
  unfold decV decN decE
  by_cases hq : decO id r n d = true
  · obtain ⟨h1, h2, h3, h4, h5⟩ := (decO_iff id n r d).1 hq
    rw [hq]
    exact rdec_yes id n r d w hd h1 h2 h3 h4 h5
  · rw [show decO id r n d = false by simpa using hq]
    have hn := fun h => hq ((decO_iff id n r d).2 h)
    by_cases h1 : chk id r n d = 0
    · by_cases h2 : id = 0
      · cases hr : r with
        | true => subst hr; exact rdec_rtr id n true d w hd h1 h2 rfl
        | false =>
          subst hr
          by_cases h4 : n = 2
          · exact rdec_no id n false d w hd h1 h2 rfl h4 (by
              have : ¬ mayO (d 0) (d 1) = true := fun h5 => hn ⟨h1, h2, rfl, h4, h5⟩
              simpa using this)
          · exact rdec_len id n false d w hd h1 h2 rfl h4
      · exact rdec_id id n r d w hd h1 h2
    · exact rdec_chk id n r d w hd h1
end Go.Proofs.Ytnijdcbpllmieaa
