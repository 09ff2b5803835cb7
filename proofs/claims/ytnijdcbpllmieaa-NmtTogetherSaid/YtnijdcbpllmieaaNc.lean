/- nmt: the order of a frame. -/
import Derived.Test.YtnijdcbpllmieaaNb
import Derived.Deep.CutBlock
namespace Go.Proofs.Ytnijdcbpllmieaa
open Go.RowKit
set_option linter.unusedSimpArgs false
set_option linter.unusedVariables false

def decO (id : Int) (r : Bool) (n : Int) (d : Nat → Int) : Bool := mayO (d 0) (d 1) && (decide (0 = id ∧ false = r ∧ (2 : Int) = n) && eqD (dOf [d 0, d 1]) d)
def decV (id : Int) (r : Bool) (n : Int) (d : Nat → Int) : Int := if decO id r n d = true then d 0 else 0
def decN (id : Int) (r : Bool) (n : Int) (d : Nat → Int) : Int := if decO id r n d = true then d 1 else 0
def decE (id : Int) (r : Bool) (n : Int) (d : Nat → Int) : Int := if decO id r n d = true then 0 else 4
theorem decO_chk {d : Nat → Int} : eqD (dOf [d 0, d 1]) d = true ↔ chk 0 false 2 d = 0 := by
  simp [chk, eqD, cut, kOf, dOf]
  constructor
  · rintro ⟨h2, h3, h4, h5, h6, h7⟩; exact ⟨h2.symm, h3.symm, h4.symm, h5.symm, h6.symm, h7.symm⟩
  · rintro ⟨h2, h3, h4, h5, h6, h7⟩; exact ⟨h2.symm, h3.symm, h4.symm, h5.symm, h6.symm, h7.symm⟩
theorem run_eq_own (w : World) (id n : Int) (r : Bool) (d : Nat → Int) : (Op.equalIn 10000 27 (.agg #[.int .i64 0, .bool false, .int .i64 2, .int .u8 (d 0), .int .u8 (d 1), .int .u8 0, .int .u8 0, .int .u8 0, .int .u8 0, .int .u8 0, .int .u8 0]) (.agg #[.int .i64 id, .bool r, .int .i64 n, .int .u8 (d 0), .int .u8 (d 1), .int .u8 (d 2), .int .u8 (d 3), .int .u8 (d 4), .int .u8 (d 5), .int .u8 (d 6), .int .u8 (d 7)])).run Try.prog w = .ok (decide (0 = id ∧ false = r ∧ (2 : Int) = n) && eqD (dOf [d 0, d 1]) d) w := run_eq_frames w 0 id 2 n false r (dOf [d 0, d 1]) d
set_option maxRecDepth 100000 in
set_option maxHeartbeats 2000000 in
theorem dec_any (id n : Int) (r : Bool) (d : Nat → Int) (w : World) (hd : ∀ j, j < 8 → 0 ≤ d j ∧ d j ≤ 255) :
    Calls Try.prog 9 #[.agg #[.int .i64 id, .bool r, .int .i64 n, .int .u8 (d 0), .int .u8 (d 1), .int .u8 (d 2), .int .u8 (d 3), .int .u8 (d 4), .int .u8 (d 5), .int .u8 (d 6), .int .u8 (d 7)]] w fun e w' => e = .returned (.tuple #[.agg #[.int .i64 (decV id r n d), .int .i64 (decN id r n d)], .int .i64 (decE id r n d)]) ∧ Below w.heap.size w w' := by
  have h0 := hd 0 (by omega)
  have h1 := hd 1 (by omega)
  have wv : IntKind.i64.wrap (d 0) = d 0 := IntWalk.i64_in _ (by omega)
  have wn : IntKind.i64.wrap (d 1) = d 1 := IntWalk.i64_in _ (by omega)
  have hf : FrAt ((w.alloc (.cells #[.int .i64 id, .bool r, .int .i64 n, .int .u8 (d 0), .int .u8 (d 1), .int .u8 (d 2), .int .u8 (d 3), .int .u8 (d 4), .int .u8 (d 5), .int .u8 (d 6), .int .u8 (d 7)] 27)).alloc (.cells #[.int .i64 0, .int .i64 0] 24)) w.heap.size id r n d := heap_alloc2_old w _ _
  have ho : OrAt ((w.alloc (.cells #[.int .i64 id, .bool r, .int .i64 n, .int .u8 (d 0), .int .u8 (d 1), .int .u8 (d 2), .int .u8 (d 3), .int .u8 (d 4), .int .u8 (d 5), .int .u8 (d 6), .int .u8 (d 7)] 27)).alloc (.cells #[.int .i64 0, .int .i64 0] 24)) (w.heap.size + 1) 0 0 := heap_alloc2_new w _ _
  have hb : Below w.heap.size w ((w.alloc (.cells #[.int .i64 id, .bool r, .int .i64 n, .int .u8 (d 0), .int .u8 (d 1), .int .u8 (d 2), .int .u8 (d 3), .int .u8 (d 4), .int .u8 (d 5), .int .u8 (d 6), .int .u8 (d 7)] 27)).alloc (.cells #[.int .i64 0, .int .i64 0] 24)) := ((Below.refl _ _).alloc (Nat.le_refl _) _).alloc (by simp) _
  have hq := fun w => run_eq_own w id n r d
  by_cases hm : mayO (d 0) (d 1) = true
  · have hE := fun w => encode_yes (d 0) (d 1) w hm
    have e1 : decO id r n d = (decide (0 = id ∧ false = r ∧ (2 : Int) = n) && eqD (dOf [d 0, d 1]) d) := by unfold decO; rw [hm, Bool.true_and]
    rw [← e1] at hq
    unfold decV decN decE
    generalize decO id r n d = q at hq
    clear e1
    cases q <;> simp only [if_true, if_false, Bool.false_eq_true]
    all_goals
      have hf1 : FrAt (((w.alloc (.cells #[.int .i64 id, .bool r, .int .i64 n, .int .u8 (d 0), .int .u8 (d 1), .int .u8 (d 2), .int .u8 (d 3), .int .u8 (d 4), .int .u8 (d 5), .int .u8 (d 6), .int .u8 (d 7)] 27)).alloc (.cells #[.int .i64 0, .int .i64 0] 24)).alloc (.cells #[.int .i64 (d 0), .int .i64 (d 1)] 24)) w.heap.size id r n d := (heap_alloc_old _ _ _ (by simp; omega)).trans hf
      have ho1 : OrAt (((w.alloc (.cells #[.int .i64 id, .bool r, .int .i64 n, .int .u8 (d 0), .int .u8 (d 1), .int .u8 (d 2), .int .u8 (d 3), .int .u8 (d 4), .int .u8 (d 5), .int .u8 (d 6), .int .u8 (d 7)] 27)).alloc (.cells #[.int .i64 0, .int .i64 0] 24)).alloc (.cells #[.int .i64 (d 0), .int .i64 (d 1)] 24)) (w.heap.size + 1) 0 0 := (heap_alloc_old _ _ _ (by simp)).trans ho
      have hr1 : OrAt (((w.alloc (.cells #[.int .i64 id, .bool r, .int .i64 n, .int .u8 (d 0), .int .u8 (d 1), .int .u8 (d 2), .int .u8 (d 3), .int .u8 (d 4), .int .u8 (d 5), .int .u8 (d 6), .int .u8 (d 7)] 27)).alloc (.cells #[.int .i64 0, .int .i64 0] 24)).alloc (.cells #[.int .i64 (d 0), .int .i64 (d 1)] 24)) (w.heap.size + 1 + 1) (d 0) (d 1) := by
        have := or_new ((w.alloc (.cells #[.int .i64 id, .bool r, .int .i64 n, .int .u8 (d 0), .int .u8 (d 1), .int .u8 (d 2), .int .u8 (d 3), .int .u8 (d 4), .int .u8 (d 5), .int .u8 (d 6), .int .u8 (d 7)] 27)).alloc (.cells #[.int .i64 0, .int .i64 0] 24)) (d 0) (d 1)
        simpa using this
      have hb1 : Below w.heap.size w (((w.alloc (.cells #[.int .i64 id, .bool r, .int .i64 n, .int .u8 (d 0), .int .u8 (d 1), .int .u8 (d 2), .int .u8 (d 3), .int .u8 (d 4), .int .u8 (d 5), .int .u8 (d 6), .int .u8 (d 7)] 27)).alloc (.cells #[.int .i64 0, .int .i64 0] 24)).alloc (.cells #[.int .i64 (d 0), .int .i64 (d 1)] 24)) := hb.alloc hb.size _
      have HF1 := Lib.hid hf1
      have HO1 := Lib.hid ho1
      have HR1 := Lib.hid hr1
      have HB1 := Lib.hid hb1
      have HE := Lib.hid hE
      clear hf1 ho1 hr1 hb1 hE hf ho hb hm hd h0 h1
      go_enter Try.func9, Try.ntmps9
      go_upto_region 3 with (first
        | (go_at_call 7; refine (HE.out _).mono ?_; rintro e w2 ⟨rfl, hb2⟩; have hf2 := FrAt.below HF1.out hb2 HF1.out.lt; have ho2 := OrAt.below HO1.out hb2 HO1.out.lt; have hr2 := OrAt.below HR1.out hb2 HR1.out.lt; have hbw2 := HB1.out.trans (hb2.mono HB1.out.size); have hba : Below w2.heap.size w2 (w2.alloc (.cells #[.int .i64 0, .bool false, .int .i64 0, .int .u8 0, .int .u8 0, .int .u8 0, .int .u8 0, .int .u8 0, .int .u8 0, .int .u8 0, .int .u8 0] 27)) := (Below.refl _ _).alloc (Nat.le_refl _) _; have hx3 : FrAt (w2.alloc (.cells #[.int .i64 0, .bool false, .int .i64 0, .int .u8 0, .int .u8 0, .int .u8 0, .int .u8 0, .int .u8 0, .int .u8 0, .int .u8 0, .int .u8 0] 27)) w2.heap.size 0 false 0 (fun _ => 0) := frame_new w2 0 0 false (fun _ => 0); have HX4 := Lib.hid (show FrAt ((w2.alloc (.cells #[.int .i64 0, .bool false, .int .i64 0, .int .u8 0, .int .u8 0, .int .u8 0, .int .u8 0, .int .u8 0, .int .u8 0, .int .u8 0, .int .u8 0] 27)).setRow w2.heap.size #[.int .i64 0, .bool false, .int .i64 2, .int .u8 (d 0), .int .u8 (d 1), .int .u8 0, .int .u8 0, .int .u8 0, .int .u8 0, .int .u8 0, .int .u8 0]) w2.heap.size 0 false 2 (dOf [d 0, d 1]) from hx3.row 0 2 false (dOf [d 0, d 1])); have HF4 := Lib.hid ((hf2.below hba hf2.lt).row_other (Nat.ne_of_lt hf2.lt) #[.int .i64 0, .bool false, .int .i64 2, .int .u8 (d 0), .int .u8 (d 1), .int .u8 0, .int .u8 0, .int .u8 0, .int .u8 0, .int .u8 0, .int .u8 0]); have HO4 := Lib.hid ((ho2.below hba ho2.lt).row_other (Nat.ne_of_lt ho2.lt) #[.int .i64 0, .bool false, .int .i64 2, .int .u8 (d 0), .int .u8 (d 1), .int .u8 0, .int .u8 0, .int .u8 0, .int .u8 0, .int .u8 0, .int .u8 0]); have HR4 := Lib.hid ((hr2.below hba hr2.lt).row_other (Nat.ne_of_lt hr2.lt) #[.int .i64 0, .bool false, .int .i64 2, .int .u8 (d 0), .int .u8 (d 1), .int .u8 0, .int .u8 0, .int .u8 0, .int .u8 0, .int .u8 0, .int .u8 0]); have HB4 := Lib.hid (below_setRow (hbw2.trans (hba.mono hbw2.size)) hbw2.size #[.int .i64 0, .bool false, .int .i64 2, .int .u8 (d 0), .int .u8 (d 1), .int .u8 0, .int .u8 0, .int .u8 0, .int .u8 0, .int .u8 0, .int .u8 0]); have HX3 := Lib.hid hx3; clear hb2 hf2 ho2 hr2 hbw2 hba hx3)
        | (refine wpList_store_row rfl _ (.tmp 5) (.tmp 19) rfl w2.heap.size _ rfl rfl _ _ HX3.out info_frame rfl (one_frame 0 2 false (dOf [d 0, d 1])) ?_))
      clear HE HF1 HO1 HR1 HB1 HX3
      generalize (w2.alloc (.cells #[.int .i64 0, .bool false, .int .i64 0, .int .u8 0, .int .u8 0, .int .u8 0, .int .u8 0, .int .u8 0, .int .u8 0, .int .u8 0, .int .u8 0] 27)).setRow w2.heap.size #[.int .i64 0, .bool false, .int .i64 2, .int .u8 (d 0), .int .u8 (d 1), .int .u8 0, .int .u8 0, .int .u8 0, .int .u8 0, .int .u8 0, .int .u8 0] = w3 at HX4 HF4 HO4 HR4 HB4 ⊢
      obtain ⟨c0, c1, c2, c3, c4, c5, c6, c7, c8, c9, c10⟩ := HF4.out.cells
      obtain ⟨k0, k1, k2, k3, k4, k5, k6, k7, k8, k9, k10⟩ : w3.cell? ⟨w2.heap.size, 0, none⟩ = some (.int .i64 0) ∧ w3.cell? ⟨w2.heap.size, 1, none⟩ = some (.bool false) ∧ w3.cell? ⟨w2.heap.size, 2, none⟩ = some (.int .i64 2) ∧ w3.cell? ⟨w2.heap.size, 3, none⟩ = some (.int .u8 (d 0)) ∧ w3.cell? ⟨w2.heap.size, 4, none⟩ = some (.int .u8 (d 1)) ∧ w3.cell? ⟨w2.heap.size, 5, none⟩ = some (.int .u8 0) ∧ w3.cell? ⟨w2.heap.size, 6, none⟩ = some (.int .u8 0) ∧ w3.cell? ⟨w2.heap.size, 7, none⟩ = some (.int .u8 0) ∧ w3.cell? ⟨w2.heap.size, 8, none⟩ = some (.int .u8 0) ∧ w3.cell? ⟨w2.heap.size, 9, none⟩ = some (.int .u8 0) ∧ w3.cell? ⟨w2.heap.size, 10, none⟩ = some (.int .u8 0) := HX4.out.cells
      obtain ⟨r0, r1⟩ := HR4.out.cells
      generalize w2.heap.size = g2 at *
      go_wp2_with (first
        | (refine wpList_store_row rfl _ (.tmp 2) (.tmp 28) rfl (w.heap.size + 1) _ rfl rfl _ _ HO4.out info_order rfl (one_order 0 0) ?_)
        | (refine wpList_store_row rfl _ (.tmp 2) (.tmp 29) rfl (w.heap.size + 1) _ rfl rfl _ _ HO4.out info_order rfl (one_order (d 0) (d 1)) ?_))
      all_goals first | exact bodyPost_ret (results_cell_tmp_row rfl _ _ (w.heap.size + 1) _ _ _ _ rfl (setRow_heap _ _ _ _ _ (0, 0) HO4.out) Try.underlying24 rfl info_order) rfl ⟨rfl, below_setRow HB4.out (by omega) _⟩ | (trace_state; sorry)
  · have hE := fun w => encode_no (d 0) (d 1) w (by simpa using hm)
    have e1 : decO id r n d = false := by unfold decO; rw [show mayO (d 0) (d 1) = false by simpa using hm, Bool.false_and]
    unfold decV decN decE
    rw [e1]
    simp only [if_false, Bool.false_eq_true]
    clear e1 hq
    have hf1 : FrAt (((w.alloc (.cells #[.int .i64 id, .bool r, .int .i64 n, .int .u8 (d 0), .int .u8 (d 1), .int .u8 (d 2), .int .u8 (d 3), .int .u8 (d 4), .int .u8 (d 5), .int .u8 (d 6), .int .u8 (d 7)] 27)).alloc (.cells #[.int .i64 0, .int .i64 0] 24)).alloc (.cells #[.int .i64 (d 0), .int .i64 (d 1)] 24)) w.heap.size id r n d := (heap_alloc_old _ _ _ (by simp; omega)).trans hf
    have ho1 : OrAt (((w.alloc (.cells #[.int .i64 id, .bool r, .int .i64 n, .int .u8 (d 0), .int .u8 (d 1), .int .u8 (d 2), .int .u8 (d 3), .int .u8 (d 4), .int .u8 (d 5), .int .u8 (d 6), .int .u8 (d 7)] 27)).alloc (.cells #[.int .i64 0, .int .i64 0] 24)).alloc (.cells #[.int .i64 (d 0), .int .i64 (d 1)] 24)) (w.heap.size + 1) 0 0 := (heap_alloc_old _ _ _ (by simp)).trans ho
    have hr1 : OrAt (((w.alloc (.cells #[.int .i64 id, .bool r, .int .i64 n, .int .u8 (d 0), .int .u8 (d 1), .int .u8 (d 2), .int .u8 (d 3), .int .u8 (d 4), .int .u8 (d 5), .int .u8 (d 6), .int .u8 (d 7)] 27)).alloc (.cells #[.int .i64 0, .int .i64 0] 24)).alloc (.cells #[.int .i64 (d 0), .int .i64 (d 1)] 24)) (w.heap.size + 1 + 1) (d 0) (d 1) := by
      have := or_new ((w.alloc (.cells #[.int .i64 id, .bool r, .int .i64 n, .int .u8 (d 0), .int .u8 (d 1), .int .u8 (d 2), .int .u8 (d 3), .int .u8 (d 4), .int .u8 (d 5), .int .u8 (d 6), .int .u8 (d 7)] 27)).alloc (.cells #[.int .i64 0, .int .i64 0] 24)) (d 0) (d 1)
      simpa using this
    have hb1 : Below w.heap.size w (((w.alloc (.cells #[.int .i64 id, .bool r, .int .i64 n, .int .u8 (d 0), .int .u8 (d 1), .int .u8 (d 2), .int .u8 (d 3), .int .u8 (d 4), .int .u8 (d 5), .int .u8 (d 6), .int .u8 (d 7)] 27)).alloc (.cells #[.int .i64 0, .int .i64 0] 24)).alloc (.cells #[.int .i64 (d 0), .int .i64 (d 1)] 24)) := hb.alloc hb.size _
    have HF1 := Lib.hid hf1
    have HO1 := Lib.hid ho1
    have HR1 := Lib.hid hr1
    have HB1 := Lib.hid hb1
    have HE := Lib.hid hE
    clear hf1 ho1 hr1 hb1 hE hf ho hb hm hd h0 h1
    go_enter Try.func9, Try.ntmps9
    go_upto_region 3 with (first
      | (go_at_call 7; refine (HE.out _).mono ?_; rintro e w2 ⟨rfl, hb2⟩; have hf2 := FrAt.below HF1.out hb2 HF1.out.lt; have ho2 := OrAt.below HO1.out hb2 HO1.out.lt; have hr2 := OrAt.below HR1.out hb2 HR1.out.lt; have hbw2 := HB1.out.trans (hb2.mono HB1.out.size); have hba : Below w2.heap.size w2 (w2.alloc (.cells #[.int .i64 0, .bool false, .int .i64 0, .int .u8 0, .int .u8 0, .int .u8 0, .int .u8 0, .int .u8 0, .int .u8 0, .int .u8 0, .int .u8 0] 27)) := (Below.refl _ _).alloc (Nat.le_refl _) _; have hx3 : FrAt (w2.alloc (.cells #[.int .i64 0, .bool false, .int .i64 0, .int .u8 0, .int .u8 0, .int .u8 0, .int .u8 0, .int .u8 0, .int .u8 0, .int .u8 0, .int .u8 0] 27)) w2.heap.size 0 false 0 (fun _ => 0) := frame_new w2 0 0 false (fun _ => 0); have HX4 := Lib.hid (show FrAt ((w2.alloc (.cells #[.int .i64 0, .bool false, .int .i64 0, .int .u8 0, .int .u8 0, .int .u8 0, .int .u8 0, .int .u8 0, .int .u8 0, .int .u8 0, .int .u8 0] 27)).setRow w2.heap.size #[.int .i64 0, .bool false, .int .i64 0, .int .u8 0, .int .u8 0, .int .u8 0, .int .u8 0, .int .u8 0, .int .u8 0, .int .u8 0, .int .u8 0]) w2.heap.size 0 false 0 (fun _ => 0) from hx3.row 0 0 false (fun _ => 0)); have HF4 := Lib.hid ((hf2.below hba hf2.lt).row_other (Nat.ne_of_lt hf2.lt) #[.int .i64 0, .bool false, .int .i64 0, .int .u8 0, .int .u8 0, .int .u8 0, .int .u8 0, .int .u8 0, .int .u8 0, .int .u8 0, .int .u8 0]); have HO4 := Lib.hid ((ho2.below hba ho2.lt).row_other (Nat.ne_of_lt ho2.lt) #[.int .i64 0, .bool false, .int .i64 0, .int .u8 0, .int .u8 0, .int .u8 0, .int .u8 0, .int .u8 0, .int .u8 0, .int .u8 0, .int .u8 0]); have HR4 := Lib.hid ((hr2.below hba hr2.lt).row_other (Nat.ne_of_lt hr2.lt) #[.int .i64 0, .bool false, .int .i64 0, .int .u8 0, .int .u8 0, .int .u8 0, .int .u8 0, .int .u8 0, .int .u8 0, .int .u8 0, .int .u8 0]); have HB4 := Lib.hid (below_setRow (hbw2.trans (hba.mono hbw2.size)) hbw2.size #[.int .i64 0, .bool false, .int .i64 0, .int .u8 0, .int .u8 0, .int .u8 0, .int .u8 0, .int .u8 0, .int .u8 0, .int .u8 0, .int .u8 0]); have HX3 := Lib.hid hx3; clear hb2 hf2 ho2 hr2 hbw2 hba hx3)
      | (refine wpList_store_row rfl _ (.tmp 5) (.tmp 19) rfl w2.heap.size _ rfl rfl _ _ HX3.out info_frame rfl (one_frame 0 0 false (fun _ => 0)) ?_))
    clear HE HF1 HO1 HR1 HB1 HX3
    generalize (w2.alloc (.cells #[.int .i64 0, .bool false, .int .i64 0, .int .u8 0, .int .u8 0, .int .u8 0, .int .u8 0, .int .u8 0, .int .u8 0, .int .u8 0, .int .u8 0] 27)).setRow w2.heap.size #[.int .i64 0, .bool false, .int .i64 0, .int .u8 0, .int .u8 0, .int .u8 0, .int .u8 0, .int .u8 0, .int .u8 0, .int .u8 0, .int .u8 0] = w3 at HX4 HF4 HO4 HR4 HB4 ⊢
    obtain ⟨c0, c1, c2, c3, c4, c5, c6, c7, c8, c9, c10⟩ := HF4.out.cells
    obtain ⟨k0, k1, k2, k3, k4, k5, k6, k7, k8, k9, k10⟩ : w3.cell? ⟨w2.heap.size, 0, none⟩ = some (.int .i64 0) ∧ w3.cell? ⟨w2.heap.size, 1, none⟩ = some (.bool false) ∧ w3.cell? ⟨w2.heap.size, 2, none⟩ = some (.int .i64 0) ∧ w3.cell? ⟨w2.heap.size, 3, none⟩ = some (.int .u8 0) ∧ w3.cell? ⟨w2.heap.size, 4, none⟩ = some (.int .u8 0) ∧ w3.cell? ⟨w2.heap.size, 5, none⟩ = some (.int .u8 0) ∧ w3.cell? ⟨w2.heap.size, 6, none⟩ = some (.int .u8 0) ∧ w3.cell? ⟨w2.heap.size, 7, none⟩ = some (.int .u8 0) ∧ w3.cell? ⟨w2.heap.size, 8, none⟩ = some (.int .u8 0) ∧ w3.cell? ⟨w2.heap.size, 9, none⟩ = some (.int .u8 0) ∧ w3.cell? ⟨w2.heap.size, 10, none⟩ = some (.int .u8 0) := HX4.out.cells
    obtain ⟨r0, r1⟩ := HR4.out.cells
    generalize w2.heap.size = g2 at *
    go_wp2_with (first
      | (refine wpList_store_row rfl _ (.tmp 2) (.tmp 28) rfl (w.heap.size + 1) _ rfl rfl _ _ HO4.out info_order rfl (one_order 0 0) ?_)
      | (refine wpList_store_row rfl _ (.tmp 2) (.tmp 29) rfl (w.heap.size + 1) _ rfl rfl _ _ HO4.out info_order rfl (one_order (d 0) (d 1)) ?_))
    all_goals first | exact bodyPost_ret (results_cell_tmp_row rfl _ _ (w.heap.size + 1) _ _ _ _ rfl (setRow_heap _ _ _ _ _ (0, 0) HO4.out) Try.underlying24 rfl info_order) rfl ⟨rfl, below_setRow HB4.out (by omega) _⟩ | (trace_state; sorry)
end Go.Proofs.Ytnijdcbpllmieaa
