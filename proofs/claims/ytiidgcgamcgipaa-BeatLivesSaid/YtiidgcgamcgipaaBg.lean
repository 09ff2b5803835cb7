/- beat: whose beat a frame is, both sides. -/
import Derived.Test.YtiidgcgamcgipaaBf
import Derived.OwnWalk
namespace Go.Proofs.Ytiidgcgamcgipaa
open Go.RowKit
set_option linter.unusedSimpArgs false
set_option linter.unusedVariables false

theorem and_127 (x : Int) (h0 : 0 ≤ x) (h1 : x < 65536) : bits .and .i64 x 127 = x % 128 := bits_mask .i64 16 (by decide) (fun n h0 h1 => IntWalk.i64_in n (by omega)) 7 (by decide) x h0 (by omega)
def decQ (id : Int) (r : Bool) (n : Int) (d : Nat → Int) : Bool := decide (1792 + bits .and .i64 id 127 = id ∧ false = r ∧ (1 : Int) = n) && eqD (dOf [d 0]) d
def decB (id : Int) (r : Bool) (n : Int) (d : Nat → Int) : Bool := isNI (bits .and .i64 id 127) && isMd (d 0) && decQ id r n d
theorem decQ_chk {id k : Int} {d : Nat → Int} (h0 : 1 ≤ k) (h1 : k ≤ 127) : eqD (dOf [d 0]) d = true ↔ chk (1792 + k) false 1 d = 0 := by
  unfold chk
  rw [if_neg (by omega), if_neg (by omega)]
  simp [eqD, cut, kOf, dOf]
  constructor
  · rintro ⟨h1, h2, h3, h4, h5, h6, h7⟩; exact ⟨h1.symm, h2.symm, h3.symm, h4.symm, h5.symm, h6.symm, h7.symm⟩
  · rintro ⟨h1, h2, h3, h4, h5, h6, h7⟩; exact ⟨h1.symm, h2.symm, h3.symm, h4.symm, h5.symm, h6.symm, h7.symm⟩
theorem decB_iff (id n : Int) (r : Bool) (d : Nat → Int) : decB id r n d = true ↔ chk id r n d = 0 ∧ r = false ∧ n = 1 ∧ 1793 ≤ id ∧ id ≤ 1919 ∧ isMd (d 0) = true := by
  unfold decB decQ
  rw [Bool.and_eq_true, Bool.and_eq_true, Bool.and_eq_true, decide_eq_true_eq]
  constructor
  · rintro ⟨⟨h1, h2⟩, ⟨h3, h4, h5⟩, h6⟩
    obtain ⟨a, b⟩ := isN_in h1
    generalize bits .and .i64 id 127 = k at *
    subst h3; subst h4; subst h5
    exact ⟨(decQ_chk (id := 0) a b).1 h6, rfl, rfl, by omega, by omega, h2⟩
  · rintro ⟨h1, h2, h3, h4, h5, h6⟩
    have e : bits .and .i64 id 127 = id - 1792 := by rw [and_127 id (by omega) (by omega)]; omega
    rw [e]
    subst h2; subst h3
    have h7 : eqD (dOf [d 0]) d = true := (decQ_chk (id := 0) (k := id - 1792) (by omega) (by omega)).2 (by rw [show 1792 + (id - 1792) = id by omega]; exact h1)
    exact ⟨⟨isN_yes (by omega) (by omega), h6⟩, ⟨by omega, rfl, rfl⟩, h7⟩
theorem decB_num {id n : Int} {r : Bool} {d : Nat → Int} (h : decB id r n d = true) : bits .and .i64 id 127 = id - 1792 := by
  obtain ⟨_, _, _, h4, h5, _⟩ := (decB_iff id n r d).1 h
  rw [and_127 id (by omega) (by omega)]; omega
theorem run_eq_beat (w : World) (id n k : Int) (r : Bool) (d : Nat → Int) (hk : bits .and .i64 id 127 = k) : (Op.equalIn 10000 24 (.agg #[.int .i64 (1792 + k), .bool false, .int .i64 1, .int .u8 (d 0), .int .u8 0, .int .u8 0, .int .u8 0, .int .u8 0, .int .u8 0, .int .u8 0, .int .u8 0]) (.agg #[.int .i64 id, .bool r, .int .i64 n, .int .u8 (d 0), .int .u8 (d 1), .int .u8 (d 2), .int .u8 (d 3), .int .u8 (d 4), .int .u8 (d 5), .int .u8 (d 6), .int .u8 (d 7)])).run Try.prog w = .ok (decQ id r n d) w := by
  subst hk
  exact run_eq_frames w (1792 + bits .and .i64 id 127) id 1 n false r (dOf [d 0]) d

set_option maxRecDepth 100000 in
set_option maxHeartbeats 2000000 in
theorem bdec_yes (id n k : Int) (r : Bool) (d : Nat → Int) (w : World) (hd : ∀ j, j < 8 → 0 ≤ d j ∧ d j ≤ 255) (hk : bits .and .i64 id 127 = k) (hn : isNI k = true) (hm : isMd (d 0) = true) (hq : decQ id r n d = true) :
    Calls Try.prog 9 #[.agg #[.int .i64 id, .bool r, .int .i64 n, .int .u8 (d 0), .int .u8 (d 1), .int .u8 (d 2), .int .u8 (d 3), .int .u8 (d 4), .int .u8 (d 5), .int .u8 (d 6), .int .u8 (d 7)]] w fun e w' => e = .returned (.tuple #[.int .i64 k, .int .i64 (d 0), .int .i64 0]) ∧ Below w.heap.size w w' := by
  have h0 := hd 0 (by omega)
  have wv : IntKind.i64.wrap (d 0) = d 0 := IntWalk.i64_in _ (by omega)
  have hf : FrAt (w.alloc (.cells #[.int .i64 id, .bool r, .int .i64 n, .int .u8 (d 0), .int .u8 (d 1), .int .u8 (d 2), .int .u8 (d 3), .int .u8 (d 4), .int .u8 (d 5), .int .u8 (d 6), .int .u8 (d 7)] 24)) w.heap.size id r n d := frame_new w id n r d
  have hb : Below w.heap.size w (w.alloc (.cells #[.int .i64 id, .bool r, .int .i64 n, .int .u8 (d 0), .int .u8 (d 1), .int .u8 (d 2), .int .u8 (d 3), .int .u8 (d 4), .int .u8 (d 5), .int .u8 (d 6), .int .u8 (d 7)] 24)) := (Below.refl _ _).alloc (Nat.le_refl _) _
  have hE := fun w => bencode_yes k (d 0) w hn hm
  have hcm := fun w => run_eq_beat w id n k r d hk
  rw [hq] at hcm
  clear hn hm hq
  have HF := Lib.hid hf
  have HB := Lib.hid hb
  have HE := Lib.hid hE
  clear hf hb hE hd h0
  go_enter Try.func9, Try.ntmps9
  go_wp2_with fail
  generalize (w.alloc (.cells #[.int .i64 id, .bool r, .int .i64 n, .int .u8 (d 0), .int .u8 (d 1), .int .u8 (d 2), .int .u8 (d 3), .int .u8 (d 4), .int .u8 (d 5), .int .u8 (d 6), .int .u8 (d 7)] 24)) = w0 at HF HB ⊢
  obtain ⟨c0, c1, c2, c3, c4, c5, c6, c7, c8, c9, c10⟩ := HF.out.cells
  go_quiet (fail)
  have HF1 : Hid (FrAt (w0.drewN nq) w.heap.size id r n d) := HF
  have HB1 : Hid (Below w.heap.size w (w0.drewN nq)) := Lib.hid ⟨HB.out.os, HB.out.tape, HB.out.output, HB.out.size, HB.out.block⟩
  clear c0 c1 c2 c3 c4 c5 c6 c7 c8 c9 c10 HF HB hk
  generalize w0.drewN nq = w1 at *
  go_upto_region 3 with (first
    | (go_at_call 7; refine (HE.out _).mono ?_; rintro e w2 ⟨rfl, hb2⟩; have hf2 := HF1.out.below hb2 HF1.out.lt; have hba : Below w2.heap.size w2 (w2.alloc (.cells #[.int .i64 0, .bool false, .int .i64 0, .int .u8 0, .int .u8 0, .int .u8 0, .int .u8 0, .int .u8 0, .int .u8 0, .int .u8 0, .int .u8 0] 24)) := (Below.refl _ _).alloc (Nat.le_refl _) _; have hx3 : FrAt (w2.alloc (.cells #[.int .i64 0, .bool false, .int .i64 0, .int .u8 0, .int .u8 0, .int .u8 0, .int .u8 0, .int .u8 0, .int .u8 0, .int .u8 0, .int .u8 0] 24)) w2.heap.size 0 false 0 (fun _ => 0) := frame_new w2 0 0 false (fun _ => 0); have HX3 := Lib.hid hx3; have HX4 := Lib.hid (show FrAt ((w2.alloc (.cells #[.int .i64 0, .bool false, .int .i64 0, .int .u8 0, .int .u8 0, .int .u8 0, .int .u8 0, .int .u8 0, .int .u8 0, .int .u8 0, .int .u8 0] 24)).setRow w2.heap.size #[.int .i64 (1792 + k), .bool false, .int .i64 1, .int .u8 (d 0), .int .u8 0, .int .u8 0, .int .u8 0, .int .u8 0, .int .u8 0, .int .u8 0, .int .u8 0]) w2.heap.size (1792 + k) false 1 (dOf [d 0]) from hx3.row (1792 + k) 1 false (dOf [d 0])); have HF4 := Lib.hid ((hf2.below hba hf2.lt).row_other (Nat.ne_of_lt hf2.lt) #[.int .i64 (1792 + k), .bool false, .int .i64 1, .int .u8 (d 0), .int .u8 0, .int .u8 0, .int .u8 0, .int .u8 0, .int .u8 0, .int .u8 0, .int .u8 0]); have hbw2 := HB1.out.trans (hb2.mono HB1.out.size); have HB4 := Lib.hid (below_setRow (hbw2.trans (hba.mono hbw2.size)) hbw2.size #[.int .i64 (1792 + k), .bool false, .int .i64 1, .int .u8 (d 0), .int .u8 0, .int .u8 0, .int .u8 0, .int .u8 0, .int .u8 0, .int .u8 0, .int .u8 0]); clear hf2 hba hx3 hb2 hbw2)
    | (refine wpList_store_row rfl _ (.tmp 7) (.tmp 20) rfl w2.heap.size _ rfl rfl _ _ HX3.out info_frame rfl (one_frame (1792 + k) 1 false (dOf [d 0])) ?_))
  clear HE HF1 HB1 HX3
  generalize (w2.alloc (.cells #[.int .i64 0, .bool false, .int .i64 0, .int .u8 0, .int .u8 0, .int .u8 0, .int .u8 0, .int .u8 0, .int .u8 0, .int .u8 0, .int .u8 0] 24)).setRow w2.heap.size #[.int .i64 (1792 + k), .bool false, .int .i64 1, .int .u8 (d 0), .int .u8 0, .int .u8 0, .int .u8 0, .int .u8 0, .int .u8 0, .int .u8 0, .int .u8 0] = w3 at HX4 HF4 HB4 ⊢
  generalize w2.heap.size = g2 at *
  obtain ⟨c0, c1, c2, c3, c4, c5, c6, c7, c8, c9, c10⟩ := HF4.out.cells
  obtain ⟨k0, k1, k2, k3, k4, k5, k6, k7, k8, k9, k10⟩ : w3.cell? ⟨g2, 0, none⟩ = some (.int .i64 (1792 + k)) ∧ w3.cell? ⟨g2, 1, none⟩ = some (.bool false) ∧ w3.cell? ⟨g2, 2, none⟩ = some (.int .i64 1) ∧ w3.cell? ⟨g2, 3, none⟩ = some (.int .u8 (d 0)) ∧ w3.cell? ⟨g2, 4, none⟩ = some (.int .u8 0) ∧ w3.cell? ⟨g2, 5, none⟩ = some (.int .u8 0) ∧ w3.cell? ⟨g2, 6, none⟩ = some (.int .u8 0) ∧ w3.cell? ⟨g2, 7, none⟩ = some (.int .u8 0) ∧ w3.cell? ⟨g2, 8, none⟩ = some (.int .u8 0) ∧ w3.cell? ⟨g2, 9, none⟩ = some (.int .u8 0) ∧ w3.cell? ⟨g2, 10, none⟩ = some (.int .u8 0) := HX4.out.cells
  go_wp2_with fail
  all_goals first | exact bodyPost_ret (results_tmp3 rfl _ _ _) rfl ⟨rfl, HB4.out⟩ | (trace_state; sorry)
set_option maxRecDepth 100000 in
set_option maxHeartbeats 2000000 in
theorem bdec_other (id n k : Int) (r : Bool) (d : Nat → Int) (w : World) (hd : ∀ j, j < 8 → 0 ≤ d j ∧ d j ≤ 255) (hk : bits .and .i64 id 127 = k) (hn : isNI k = true) (hm : isMd (d 0) = true) (hq : decQ id r n d = false) :
    Calls Try.prog 9 #[.agg #[.int .i64 id, .bool r, .int .i64 n, .int .u8 (d 0), .int .u8 (d 1), .int .u8 (d 2), .int .u8 (d 3), .int .u8 (d 4), .int .u8 (d 5), .int .u8 (d 6), .int .u8 (d 7)]] w fun e w' => e = .returned (.tuple #[.int .i64 0, .int .i64 0, .int .i64 4]) ∧ Below w.heap.size w w' := by
  have h0 := hd 0 (by omega)
  have wv : IntKind.i64.wrap (d 0) = d 0 := IntWalk.i64_in _ (by omega)
  have hf : FrAt (w.alloc (.cells #[.int .i64 id, .bool r, .int .i64 n, .int .u8 (d 0), .int .u8 (d 1), .int .u8 (d 2), .int .u8 (d 3), .int .u8 (d 4), .int .u8 (d 5), .int .u8 (d 6), .int .u8 (d 7)] 24)) w.heap.size id r n d := frame_new w id n r d
  have hb : Below w.heap.size w (w.alloc (.cells #[.int .i64 id, .bool r, .int .i64 n, .int .u8 (d 0), .int .u8 (d 1), .int .u8 (d 2), .int .u8 (d 3), .int .u8 (d 4), .int .u8 (d 5), .int .u8 (d 6), .int .u8 (d 7)] 24)) := (Below.refl _ _).alloc (Nat.le_refl _) _
  have hE := fun w => bencode_yes k (d 0) w hn hm
  have hcm := fun w => run_eq_beat w id n k r d hk
  rw [hq] at hcm
  clear hn hm hq
  have HF := Lib.hid hf
  have HB := Lib.hid hb
  have HE := Lib.hid hE
  clear hf hb hE hd h0
  go_enter Try.func9, Try.ntmps9
  go_wp2_with fail
  generalize (w.alloc (.cells #[.int .i64 id, .bool r, .int .i64 n, .int .u8 (d 0), .int .u8 (d 1), .int .u8 (d 2), .int .u8 (d 3), .int .u8 (d 4), .int .u8 (d 5), .int .u8 (d 6), .int .u8 (d 7)] 24)) = w0 at HF HB ⊢
  obtain ⟨c0, c1, c2, c3, c4, c5, c6, c7, c8, c9, c10⟩ := HF.out.cells
  go_quiet (fail)
  have HF1 : Hid (FrAt (w0.drewN nq) w.heap.size id r n d) := HF
  have HB1 : Hid (Below w.heap.size w (w0.drewN nq)) := Lib.hid ⟨HB.out.os, HB.out.tape, HB.out.output, HB.out.size, HB.out.block⟩
  clear c0 c1 c2 c3 c4 c5 c6 c7 c8 c9 c10 HF HB hk
  generalize w0.drewN nq = w1 at *
  go_upto_region 3 with (first
    | (go_at_call 7; refine (HE.out _).mono ?_; rintro e w2 ⟨rfl, hb2⟩; have hf2 := HF1.out.below hb2 HF1.out.lt; have hba : Below w2.heap.size w2 (w2.alloc (.cells #[.int .i64 0, .bool false, .int .i64 0, .int .u8 0, .int .u8 0, .int .u8 0, .int .u8 0, .int .u8 0, .int .u8 0, .int .u8 0, .int .u8 0] 24)) := (Below.refl _ _).alloc (Nat.le_refl _) _; have hx3 : FrAt (w2.alloc (.cells #[.int .i64 0, .bool false, .int .i64 0, .int .u8 0, .int .u8 0, .int .u8 0, .int .u8 0, .int .u8 0, .int .u8 0, .int .u8 0, .int .u8 0] 24)) w2.heap.size 0 false 0 (fun _ => 0) := frame_new w2 0 0 false (fun _ => 0); have HX3 := Lib.hid hx3; have HX4 := Lib.hid (show FrAt ((w2.alloc (.cells #[.int .i64 0, .bool false, .int .i64 0, .int .u8 0, .int .u8 0, .int .u8 0, .int .u8 0, .int .u8 0, .int .u8 0, .int .u8 0, .int .u8 0] 24)).setRow w2.heap.size #[.int .i64 (1792 + k), .bool false, .int .i64 1, .int .u8 (d 0), .int .u8 0, .int .u8 0, .int .u8 0, .int .u8 0, .int .u8 0, .int .u8 0, .int .u8 0]) w2.heap.size (1792 + k) false 1 (dOf [d 0]) from hx3.row (1792 + k) 1 false (dOf [d 0])); have HF4 := Lib.hid ((hf2.below hba hf2.lt).row_other (Nat.ne_of_lt hf2.lt) #[.int .i64 (1792 + k), .bool false, .int .i64 1, .int .u8 (d 0), .int .u8 0, .int .u8 0, .int .u8 0, .int .u8 0, .int .u8 0, .int .u8 0, .int .u8 0]); have hbw2 := HB1.out.trans (hb2.mono HB1.out.size); have HB4 := Lib.hid (below_setRow (hbw2.trans (hba.mono hbw2.size)) hbw2.size #[.int .i64 (1792 + k), .bool false, .int .i64 1, .int .u8 (d 0), .int .u8 0, .int .u8 0, .int .u8 0, .int .u8 0, .int .u8 0, .int .u8 0, .int .u8 0]); clear hf2 hba hx3 hb2 hbw2)
    | (refine wpList_store_row rfl _ (.tmp 7) (.tmp 20) rfl w2.heap.size _ rfl rfl _ _ HX3.out info_frame rfl (one_frame (1792 + k) 1 false (dOf [d 0])) ?_))
  clear HE HF1 HB1 HX3
  generalize (w2.alloc (.cells #[.int .i64 0, .bool false, .int .i64 0, .int .u8 0, .int .u8 0, .int .u8 0, .int .u8 0, .int .u8 0, .int .u8 0, .int .u8 0, .int .u8 0] 24)).setRow w2.heap.size #[.int .i64 (1792 + k), .bool false, .int .i64 1, .int .u8 (d 0), .int .u8 0, .int .u8 0, .int .u8 0, .int .u8 0, .int .u8 0, .int .u8 0, .int .u8 0] = w3 at HX4 HF4 HB4 ⊢
  generalize w2.heap.size = g2 at *
  obtain ⟨c0, c1, c2, c3, c4, c5, c6, c7, c8, c9, c10⟩ := HF4.out.cells
  obtain ⟨k0, k1, k2, k3, k4, k5, k6, k7, k8, k9, k10⟩ : w3.cell? ⟨g2, 0, none⟩ = some (.int .i64 (1792 + k)) ∧ w3.cell? ⟨g2, 1, none⟩ = some (.bool false) ∧ w3.cell? ⟨g2, 2, none⟩ = some (.int .i64 1) ∧ w3.cell? ⟨g2, 3, none⟩ = some (.int .u8 (d 0)) ∧ w3.cell? ⟨g2, 4, none⟩ = some (.int .u8 0) ∧ w3.cell? ⟨g2, 5, none⟩ = some (.int .u8 0) ∧ w3.cell? ⟨g2, 6, none⟩ = some (.int .u8 0) ∧ w3.cell? ⟨g2, 7, none⟩ = some (.int .u8 0) ∧ w3.cell? ⟨g2, 8, none⟩ = some (.int .u8 0) ∧ w3.cell? ⟨g2, 9, none⟩ = some (.int .u8 0) ∧ w3.cell? ⟨g2, 10, none⟩ = some (.int .u8 0) := HX4.out.cells
  go_wp2_with fail
  all_goals first | exact bodyPost_ret (results_tmp3 rfl _ _ _) rfl ⟨rfl, HB4.out⟩ | (trace_state; sorry)
set_option maxRecDepth 100000 in
set_option maxHeartbeats 2000000 in
theorem bdec_node (id n k : Int) (r : Bool) (d : Nat → Int) (w : World) (hd : ∀ j, j < 8 → 0 ≤ d j ∧ d j ≤ 255) (hk : bits .and .i64 id 127 = k) (hn : isNI k = false) :
    Calls Try.prog 9 #[.agg #[.int .i64 id, .bool r, .int .i64 n, .int .u8 (d 0), .int .u8 (d 1), .int .u8 (d 2), .int .u8 (d 3), .int .u8 (d 4), .int .u8 (d 5), .int .u8 (d 6), .int .u8 (d 7)]] w fun e w' => e = .returned (.tuple #[.int .i64 0, .int .i64 0, .int .i64 4]) ∧ Below w.heap.size w w' := by
  have h0 := hd 0 (by omega)
  have wv : IntKind.i64.wrap (d 0) = d 0 := IntWalk.i64_in _ (by omega)
  have hf : FrAt (w.alloc (.cells #[.int .i64 id, .bool r, .int .i64 n, .int .u8 (d 0), .int .u8 (d 1), .int .u8 (d 2), .int .u8 (d 3), .int .u8 (d 4), .int .u8 (d 5), .int .u8 (d 6), .int .u8 (d 7)] 24)) w.heap.size id r n d := frame_new w id n r d
  have hb : Below w.heap.size w (w.alloc (.cells #[.int .i64 id, .bool r, .int .i64 n, .int .u8 (d 0), .int .u8 (d 1), .int .u8 (d 2), .int .u8 (d 3), .int .u8 (d 4), .int .u8 (d 5), .int .u8 (d 6), .int .u8 (d 7)] 24)) := (Below.refl _ _).alloc (Nat.le_refl _) _
  have hE := fun w => bencode_node k (d 0) w hn
  clear hn
  have HF := Lib.hid hf
  have HB := Lib.hid hb
  have HE := Lib.hid hE
  clear hf hb hE hd h0
  go_enter Try.func9, Try.ntmps9
  go_wp2_with fail
  generalize (w.alloc (.cells #[.int .i64 id, .bool r, .int .i64 n, .int .u8 (d 0), .int .u8 (d 1), .int .u8 (d 2), .int .u8 (d 3), .int .u8 (d 4), .int .u8 (d 5), .int .u8 (d 6), .int .u8 (d 7)] 24)) = w0 at HF HB ⊢
  obtain ⟨c0, c1, c2, c3, c4, c5, c6, c7, c8, c9, c10⟩ := HF.out.cells
  go_quiet (fail)
  have HF1 : Hid (FrAt (w0.drewN nq) w.heap.size id r n d) := HF
  have HB1 : Hid (Below w.heap.size w (w0.drewN nq)) := Lib.hid ⟨HB.out.os, HB.out.tape, HB.out.output, HB.out.size, HB.out.block⟩
  clear c0 c1 c2 c3 c4 c5 c6 c7 c8 c9 c10 HF HB hk
  generalize w0.drewN nq = w1 at *
  go_upto_region 3 with (first
    | (go_at_call 7; refine (HE.out _).mono ?_; rintro e w2 ⟨rfl, hb2⟩; have hf2 := HF1.out.below hb2 HF1.out.lt; have hba : Below w2.heap.size w2 (w2.alloc (.cells #[.int .i64 0, .bool false, .int .i64 0, .int .u8 0, .int .u8 0, .int .u8 0, .int .u8 0, .int .u8 0, .int .u8 0, .int .u8 0, .int .u8 0] 24)) := (Below.refl _ _).alloc (Nat.le_refl _) _; have hx3 : FrAt (w2.alloc (.cells #[.int .i64 0, .bool false, .int .i64 0, .int .u8 0, .int .u8 0, .int .u8 0, .int .u8 0, .int .u8 0, .int .u8 0, .int .u8 0, .int .u8 0] 24)) w2.heap.size 0 false 0 (fun _ => 0) := frame_new w2 0 0 false (fun _ => 0); have HX3 := Lib.hid hx3; have HX4 := Lib.hid (show FrAt ((w2.alloc (.cells #[.int .i64 0, .bool false, .int .i64 0, .int .u8 0, .int .u8 0, .int .u8 0, .int .u8 0, .int .u8 0, .int .u8 0, .int .u8 0, .int .u8 0] 24)).setRow w2.heap.size #[.int .i64 0, .bool false, .int .i64 0, .int .u8 0, .int .u8 0, .int .u8 0, .int .u8 0, .int .u8 0, .int .u8 0, .int .u8 0, .int .u8 0]) w2.heap.size 0 false 0 (fun _ => 0) from hx3.row 0 0 false (fun _ => 0)); have HF4 := Lib.hid ((hf2.below hba hf2.lt).row_other (Nat.ne_of_lt hf2.lt) #[.int .i64 0, .bool false, .int .i64 0, .int .u8 0, .int .u8 0, .int .u8 0, .int .u8 0, .int .u8 0, .int .u8 0, .int .u8 0, .int .u8 0]); have hbw2 := HB1.out.trans (hb2.mono HB1.out.size); have HB4 := Lib.hid (below_setRow (hbw2.trans (hba.mono hbw2.size)) hbw2.size #[.int .i64 0, .bool false, .int .i64 0, .int .u8 0, .int .u8 0, .int .u8 0, .int .u8 0, .int .u8 0, .int .u8 0, .int .u8 0, .int .u8 0]); clear hf2 hba hx3 hb2 hbw2)
    | (refine wpList_store_row rfl _ (.tmp 7) (.tmp 20) rfl w2.heap.size _ rfl rfl _ _ HX3.out info_frame rfl (one_frame 0 0 false (fun _ => 0)) ?_))
  clear HE HF1 HB1 HX3
  generalize (w2.alloc (.cells #[.int .i64 0, .bool false, .int .i64 0, .int .u8 0, .int .u8 0, .int .u8 0, .int .u8 0, .int .u8 0, .int .u8 0, .int .u8 0, .int .u8 0] 24)).setRow w2.heap.size #[.int .i64 0, .bool false, .int .i64 0, .int .u8 0, .int .u8 0, .int .u8 0, .int .u8 0, .int .u8 0, .int .u8 0, .int .u8 0, .int .u8 0] = w3 at HX4 HF4 HB4 ⊢
  generalize w2.heap.size = g2 at *
  obtain ⟨c0, c1, c2, c3, c4, c5, c6, c7, c8, c9, c10⟩ := HF4.out.cells
  obtain ⟨k0, k1, k2, k3, k4, k5, k6, k7, k8, k9, k10⟩ : w3.cell? ⟨g2, 0, none⟩ = some (.int .i64 0) ∧ w3.cell? ⟨g2, 1, none⟩ = some (.bool false) ∧ w3.cell? ⟨g2, 2, none⟩ = some (.int .i64 0) ∧ w3.cell? ⟨g2, 3, none⟩ = some (.int .u8 0) ∧ w3.cell? ⟨g2, 4, none⟩ = some (.int .u8 0) ∧ w3.cell? ⟨g2, 5, none⟩ = some (.int .u8 0) ∧ w3.cell? ⟨g2, 6, none⟩ = some (.int .u8 0) ∧ w3.cell? ⟨g2, 7, none⟩ = some (.int .u8 0) ∧ w3.cell? ⟨g2, 8, none⟩ = some (.int .u8 0) ∧ w3.cell? ⟨g2, 9, none⟩ = some (.int .u8 0) ∧ w3.cell? ⟨g2, 10, none⟩ = some (.int .u8 0) := HX4.out.cells
  go_wp2_with fail
  all_goals first | exact bodyPost_ret (results_tmp3 rfl _ _ _) rfl ⟨rfl, HB4.out⟩ | (trace_state; sorry)
set_option maxRecDepth 100000 in
set_option maxHeartbeats 2000000 in
theorem bdec_mode (id n k : Int) (r : Bool) (d : Nat → Int) (w : World) (hd : ∀ j, j < 8 → 0 ≤ d j ∧ d j ≤ 255) (hk : bits .and .i64 id 127 = k) (hn : isNI k = true) (hm : isMd (d 0) = false) :
    Calls Try.prog 9 #[.agg #[.int .i64 id, .bool r, .int .i64 n, .int .u8 (d 0), .int .u8 (d 1), .int .u8 (d 2), .int .u8 (d 3), .int .u8 (d 4), .int .u8 (d 5), .int .u8 (d 6), .int .u8 (d 7)]] w fun e w' => e = .returned (.tuple #[.int .i64 0, .int .i64 0, .int .i64 4]) ∧ Below w.heap.size w w' := by
  have h0 := hd 0 (by omega)
  have wv : IntKind.i64.wrap (d 0) = d 0 := IntWalk.i64_in _ (by omega)
  have hf : FrAt (w.alloc (.cells #[.int .i64 id, .bool r, .int .i64 n, .int .u8 (d 0), .int .u8 (d 1), .int .u8 (d 2), .int .u8 (d 3), .int .u8 (d 4), .int .u8 (d 5), .int .u8 (d 6), .int .u8 (d 7)] 24)) w.heap.size id r n d := frame_new w id n r d
  have hb : Below w.heap.size w (w.alloc (.cells #[.int .i64 id, .bool r, .int .i64 n, .int .u8 (d 0), .int .u8 (d 1), .int .u8 (d 2), .int .u8 (d 3), .int .u8 (d 4), .int .u8 (d 5), .int .u8 (d 6), .int .u8 (d 7)] 24)) := (Below.refl _ _).alloc (Nat.le_refl _) _
  have hE := fun w => bencode_mode k (d 0) w hn hm
  clear hn hm
  have HF := Lib.hid hf
  have HB := Lib.hid hb
  have HE := Lib.hid hE
  clear hf hb hE hd h0
  go_enter Try.func9, Try.ntmps9
  go_wp2_with fail
  generalize (w.alloc (.cells #[.int .i64 id, .bool r, .int .i64 n, .int .u8 (d 0), .int .u8 (d 1), .int .u8 (d 2), .int .u8 (d 3), .int .u8 (d 4), .int .u8 (d 5), .int .u8 (d 6), .int .u8 (d 7)] 24)) = w0 at HF HB ⊢
  obtain ⟨c0, c1, c2, c3, c4, c5, c6, c7, c8, c9, c10⟩ := HF.out.cells
  go_quiet (fail)
  have HF1 : Hid (FrAt (w0.drewN nq) w.heap.size id r n d) := HF
  have HB1 : Hid (Below w.heap.size w (w0.drewN nq)) := Lib.hid ⟨HB.out.os, HB.out.tape, HB.out.output, HB.out.size, HB.out.block⟩
  clear c0 c1 c2 c3 c4 c5 c6 c7 c8 c9 c10 HF HB hk
  generalize w0.drewN nq = w1 at *
  go_upto_region 3 with (first
    | (go_at_call 7; refine (HE.out _).mono ?_; rintro e w2 ⟨rfl, hb2⟩; have hf2 := HF1.out.below hb2 HF1.out.lt; have hba : Below w2.heap.size w2 (w2.alloc (.cells #[.int .i64 0, .bool false, .int .i64 0, .int .u8 0, .int .u8 0, .int .u8 0, .int .u8 0, .int .u8 0, .int .u8 0, .int .u8 0, .int .u8 0] 24)) := (Below.refl _ _).alloc (Nat.le_refl _) _; have hx3 : FrAt (w2.alloc (.cells #[.int .i64 0, .bool false, .int .i64 0, .int .u8 0, .int .u8 0, .int .u8 0, .int .u8 0, .int .u8 0, .int .u8 0, .int .u8 0, .int .u8 0] 24)) w2.heap.size 0 false 0 (fun _ => 0) := frame_new w2 0 0 false (fun _ => 0); have HX3 := Lib.hid hx3; have HX4 := Lib.hid (show FrAt ((w2.alloc (.cells #[.int .i64 0, .bool false, .int .i64 0, .int .u8 0, .int .u8 0, .int .u8 0, .int .u8 0, .int .u8 0, .int .u8 0, .int .u8 0, .int .u8 0] 24)).setRow w2.heap.size #[.int .i64 0, .bool false, .int .i64 0, .int .u8 0, .int .u8 0, .int .u8 0, .int .u8 0, .int .u8 0, .int .u8 0, .int .u8 0, .int .u8 0]) w2.heap.size 0 false 0 (fun _ => 0) from hx3.row 0 0 false (fun _ => 0)); have HF4 := Lib.hid ((hf2.below hba hf2.lt).row_other (Nat.ne_of_lt hf2.lt) #[.int .i64 0, .bool false, .int .i64 0, .int .u8 0, .int .u8 0, .int .u8 0, .int .u8 0, .int .u8 0, .int .u8 0, .int .u8 0, .int .u8 0]); have hbw2 := HB1.out.trans (hb2.mono HB1.out.size); have HB4 := Lib.hid (below_setRow (hbw2.trans (hba.mono hbw2.size)) hbw2.size #[.int .i64 0, .bool false, .int .i64 0, .int .u8 0, .int .u8 0, .int .u8 0, .int .u8 0, .int .u8 0, .int .u8 0, .int .u8 0, .int .u8 0]); clear hf2 hba hx3 hb2 hbw2)
    | (refine wpList_store_row rfl _ (.tmp 7) (.tmp 20) rfl w2.heap.size _ rfl rfl _ _ HX3.out info_frame rfl (one_frame 0 0 false (fun _ => 0)) ?_))
  clear HE HF1 HB1 HX3
  generalize (w2.alloc (.cells #[.int .i64 0, .bool false, .int .i64 0, .int .u8 0, .int .u8 0, .int .u8 0, .int .u8 0, .int .u8 0, .int .u8 0, .int .u8 0, .int .u8 0] 24)).setRow w2.heap.size #[.int .i64 0, .bool false, .int .i64 0, .int .u8 0, .int .u8 0, .int .u8 0, .int .u8 0, .int .u8 0, .int .u8 0, .int .u8 0, .int .u8 0] = w3 at HX4 HF4 HB4 ⊢
  generalize w2.heap.size = g2 at *
  obtain ⟨c0, c1, c2, c3, c4, c5, c6, c7, c8, c9, c10⟩ := HF4.out.cells
  obtain ⟨k0, k1, k2, k3, k4, k5, k6, k7, k8, k9, k10⟩ : w3.cell? ⟨g2, 0, none⟩ = some (.int .i64 0) ∧ w3.cell? ⟨g2, 1, none⟩ = some (.bool false) ∧ w3.cell? ⟨g2, 2, none⟩ = some (.int .i64 0) ∧ w3.cell? ⟨g2, 3, none⟩ = some (.int .u8 0) ∧ w3.cell? ⟨g2, 4, none⟩ = some (.int .u8 0) ∧ w3.cell? ⟨g2, 5, none⟩ = some (.int .u8 0) ∧ w3.cell? ⟨g2, 6, none⟩ = some (.int .u8 0) ∧ w3.cell? ⟨g2, 7, none⟩ = some (.int .u8 0) ∧ w3.cell? ⟨g2, 8, none⟩ = some (.int .u8 0) ∧ w3.cell? ⟨g2, 9, none⟩ = some (.int .u8 0) ∧ w3.cell? ⟨g2, 10, none⟩ = some (.int .u8 0) := HX4.out.cells
  go_wp2_with fail
  all_goals first | exact bodyPost_ret (results_tmp3 rfl _ _ _) rfl ⟨rfl, HB4.out⟩ | (trace_state; sorry)
def bdN (id : Int) (r : Bool) (n : Int) (d : Nat → Int) : Int := if decB id r n d = true then id - 1792 else 0
def bdM (id : Int) (r : Bool) (n : Int) (d : Nat → Int) : Int := if decB id r n d = true then d 0 else 0
def bdE (id : Int) (r : Bool) (n : Int) (d : Nat → Int) : Int := if decB id r n d = true then 0 else 4
theorem bdec_any (id n : Int) (r : Bool) (d : Nat → Int) (w : World) (hd : ∀ j, j < 8 → 0 ≤ d j ∧ d j ≤ 255) :
    Calls Try.prog 9 #[.agg #[.int .i64 id, .bool r, .int .i64 n, .int .u8 (d 0), .int .u8 (d 1), .int .u8 (d 2), .int .u8 (d 3), .int .u8 (d 4), .int .u8 (d 5), .int .u8 (d 6), .int .u8 (d 7)]] w fun e w' => e = .returned (.tuple #[.int .i64 (bdN id r n d), .int .i64 (bdM id r n d), .int .i64 (bdE id r n d)]) ∧ Below w.heap.size w w' := by
  unfold bdN bdM bdE
  cases hq : decB id r n d with
  | true =>
    have hk := decB_num hq
    unfold decB at hq
    rw [Bool.and_eq_true, Bool.and_eq_true, hk] at hq
    exact bdec_yes id n (id - 1792) r d w hd hk hq.1.1 hq.1.2 hq.2
  | false =>
    unfold decB at hq
    obtain ⟨k, hk⟩ : ∃ k, bits .and .i64 id 127 = k := ⟨_, rfl⟩
    rw [hk] at hq
    cases hn : isNI k with
    | false => exact bdec_node id n k r d w hd hk hn
    | true =>
      cases hm : isMd (d 0) with
      | false => exact bdec_mode id n k r d w hd hk hn hm
      | true =>
        rw [hn, hm] at hq
        exact bdec_other id n k r d w hd hk hn hm (by simpa using hq)
set_option maxHeartbeats 1000000 in
theorem rbd_chk (id n : Int) (r : Bool) (d : Nat → Int) (w : World) (hd : ∀ j, j < 8 → 0 ≤ d j ∧ d j ≤ 255) (h : ¬ chk id r n d = 0) :
    Calls Try.prog 11 #[.agg #[.int .i64 id, .bool r, .int .i64 n, .int .u8 (d 0), .int .u8 (d 1), .int .u8 (d 2), .int .u8 (d 3), .int .u8 (d 4), .int .u8 (d 5), .int .u8 (d 6), .int .u8 (d 7)]] w fun e w' => e = .returned (.tuple #[.int .i64 0, .int .i64 0, .bool false]) ∧ Below w.heap.size w w' := by
  have h0 := hd 0 (by omega)
  have wv : IntKind.i64.wrap (d 0) = d 0 := IntWalk.i64_in _ (by omega)
  have hf : FrAt (w.alloc (.cells #[.int .i64 id, .bool r, .int .i64 n, .int .u8 (d 0), .int .u8 (d 1), .int .u8 (d 2), .int .u8 (d 3), .int .u8 (d 4), .int .u8 (d 5), .int .u8 (d 6), .int .u8 (d 7)] 24)) w.heap.size id r n d := frame_new w id n r d
  have hb : Below w.heap.size w (w.alloc (.cells #[.int .i64 id, .bool r, .int .i64 n, .int .u8 (d 0), .int .u8 (d 1), .int .u8 (d 2), .int .u8 (d 3), .int .u8 (d 4), .int .u8 (d 5), .int .u8 (d 6), .int .u8 (d 7)] 24)) := (Below.refl _ _).alloc (Nat.le_refl _) _
  have hc := fun w => dcheck_any id n r d w
  have HF := Lib.hid hf
  have HB := Lib.hid hb
  have hm := rmode_any (d 0)
  clear hd h0 hf hb
  have t0 : (chk id r n d != 0) = true := by simpa using h
  generalize chk id r n d = c at hc t0
  clear h

  have HC := Lib.hid hc
  have HM := Lib.hid hm
  clear hc hm
  go_enter Try.func11, Try.ntmps11
  go_wp2_with (first
    | (go_at_call 27; refine (HC.out _).mono ?_; rintro e w2 ⟨rfl, hb2⟩; have hf2 := FrAt.below HF.out hb2 HF.out.lt; have HB2 := Lib.hid (HB.out.trans (hb2.mono HB.out.size)); obtain ⟨c0, c1, c2, c3, c4, c5, c6, c7, c8, c9, c10⟩ := hf2.cells; clear hb2 hf2 c3 c4 c5 c6 c7 c8 c9 c10))
  all_goals first | (exfalso; omega) | exact bodyPost_ret (results_tmp3 rfl _ _ _) rfl ⟨rfl, HB2.out⟩ | (trace_state; sorry)
set_option maxHeartbeats 1000000 in
theorem rbd_rtr (id n : Int) (r : Bool) (d : Nat → Int) (w : World) (hd : ∀ j, j < 8 → 0 ≤ d j ∧ d j ≤ 255) (h : chk id r n d = 0) (h2 : r = true) :
    Calls Try.prog 11 #[.agg #[.int .i64 id, .bool r, .int .i64 n, .int .u8 (d 0), .int .u8 (d 1), .int .u8 (d 2), .int .u8 (d 3), .int .u8 (d 4), .int .u8 (d 5), .int .u8 (d 6), .int .u8 (d 7)]] w fun e w' => e = .returned (.tuple #[.int .i64 0, .int .i64 0, .bool false]) ∧ Below w.heap.size w w' := by
  have h0 := hd 0 (by omega)
  have wv : IntKind.i64.wrap (d 0) = d 0 := IntWalk.i64_in _ (by omega)
  have hf : FrAt (w.alloc (.cells #[.int .i64 id, .bool r, .int .i64 n, .int .u8 (d 0), .int .u8 (d 1), .int .u8 (d 2), .int .u8 (d 3), .int .u8 (d 4), .int .u8 (d 5), .int .u8 (d 6), .int .u8 (d 7)] 24)) w.heap.size id r n d := frame_new w id n r d
  have hb : Below w.heap.size w (w.alloc (.cells #[.int .i64 id, .bool r, .int .i64 n, .int .u8 (d 0), .int .u8 (d 1), .int .u8 (d 2), .int .u8 (d 3), .int .u8 (d 4), .int .u8 (d 5), .int .u8 (d 6), .int .u8 (d 7)] 24)) := (Below.refl _ _).alloc (Nat.le_refl _) _
  have hc := fun w => dcheck_any id n r d w
  have HF := Lib.hid hf
  have HB := Lib.hid hb
  have hm := rmode_any (d 0)
  clear hd h0 hf hb
  rw [h] at hc
  clear h
  subst h2

  have HC := Lib.hid hc
  have HM := Lib.hid hm
  clear hc hm
  go_enter Try.func11, Try.ntmps11
  go_wp2_with (first
    | (go_at_call 27; refine (HC.out _).mono ?_; rintro e w2 ⟨rfl, hb2⟩; have hf2 := FrAt.below HF.out hb2 HF.out.lt; have HB2 := Lib.hid (HB.out.trans (hb2.mono HB.out.size)); obtain ⟨c0, c1, c2, c3, c4, c5, c6, c7, c8, c9, c10⟩ := hf2.cells; clear hb2 hf2 c3 c4 c5 c6 c7 c8 c9 c10))
  all_goals first | (exfalso; omega) | exact bodyPost_ret (results_tmp3 rfl _ _ _) rfl ⟨rfl, HB2.out⟩ | (trace_state; sorry)
set_option maxHeartbeats 1000000 in
theorem rbd_len (id n : Int) (r : Bool) (d : Nat → Int) (w : World) (hd : ∀ j, j < 8 → 0 ≤ d j ∧ d j ≤ 255) (h : chk id r n d = 0) (h2 : r = false) (h3 : ¬ n = 1) :
    Calls Try.prog 11 #[.agg #[.int .i64 id, .bool r, .int .i64 n, .int .u8 (d 0), .int .u8 (d 1), .int .u8 (d 2), .int .u8 (d 3), .int .u8 (d 4), .int .u8 (d 5), .int .u8 (d 6), .int .u8 (d 7)]] w fun e w' => e = .returned (.tuple #[.int .i64 0, .int .i64 0, .bool false]) ∧ Below w.heap.size w w' := by
  have h0 := hd 0 (by omega)
  have wv : IntKind.i64.wrap (d 0) = d 0 := IntWalk.i64_in _ (by omega)
  have hf : FrAt (w.alloc (.cells #[.int .i64 id, .bool r, .int .i64 n, .int .u8 (d 0), .int .u8 (d 1), .int .u8 (d 2), .int .u8 (d 3), .int .u8 (d 4), .int .u8 (d 5), .int .u8 (d 6), .int .u8 (d 7)] 24)) w.heap.size id r n d := frame_new w id n r d
  have hb : Below w.heap.size w (w.alloc (.cells #[.int .i64 id, .bool r, .int .i64 n, .int .u8 (d 0), .int .u8 (d 1), .int .u8 (d 2), .int .u8 (d 3), .int .u8 (d 4), .int .u8 (d 5), .int .u8 (d 6), .int .u8 (d 7)] 24)) := (Below.refl _ _).alloc (Nat.le_refl _) _
  have hc := fun w => dcheck_any id n r d w
  have HF := Lib.hid hf
  have HB := Lib.hid hb
  have hm := rmode_any (d 0)
  clear hd h0 hf hb
  rw [h] at hc
  clear h
  subst h2
  have t0 : (n != 1) = true := by simpa using h3
  clear h3

  have HC := Lib.hid hc
  have HM := Lib.hid hm
  clear hc hm
  go_enter Try.func11, Try.ntmps11
  go_wp2_with (first
    | (go_at_call 27; refine (HC.out _).mono ?_; rintro e w2 ⟨rfl, hb2⟩; have hf2 := FrAt.below HF.out hb2 HF.out.lt; have HB2 := Lib.hid (HB.out.trans (hb2.mono HB.out.size)); obtain ⟨c0, c1, c2, c3, c4, c5, c6, c7, c8, c9, c10⟩ := hf2.cells; clear hb2 hf2 c3 c4 c5 c6 c7 c8 c9 c10))
  all_goals first | (exfalso; omega) | exact bodyPost_ret (results_tmp3 rfl _ _ _) rfl ⟨rfl, HB2.out⟩ | (trace_state; sorry)
set_option maxHeartbeats 1000000 in
theorem rbd_low (id n : Int) (r : Bool) (d : Nat → Int) (w : World) (hd : ∀ j, j < 8 → 0 ≤ d j ∧ d j ≤ 255) (h : chk id r n d = 0) (h2 : r = false) (h3 : n = 1) (h4 : id < 1793) :
    Calls Try.prog 11 #[.agg #[.int .i64 id, .bool r, .int .i64 n, .int .u8 (d 0), .int .u8 (d 1), .int .u8 (d 2), .int .u8 (d 3), .int .u8 (d 4), .int .u8 (d 5), .int .u8 (d 6), .int .u8 (d 7)]] w fun e w' => e = .returned (.tuple #[.int .i64 0, .int .i64 0, .bool false]) ∧ Below w.heap.size w w' := by
  have h0 := hd 0 (by omega)
  have wv : IntKind.i64.wrap (d 0) = d 0 := IntWalk.i64_in _ (by omega)
  have hf : FrAt (w.alloc (.cells #[.int .i64 id, .bool r, .int .i64 n, .int .u8 (d 0), .int .u8 (d 1), .int .u8 (d 2), .int .u8 (d 3), .int .u8 (d 4), .int .u8 (d 5), .int .u8 (d 6), .int .u8 (d 7)] 24)) w.heap.size id r n d := frame_new w id n r d
  have hb : Below w.heap.size w (w.alloc (.cells #[.int .i64 id, .bool r, .int .i64 n, .int .u8 (d 0), .int .u8 (d 1), .int .u8 (d 2), .int .u8 (d 3), .int .u8 (d 4), .int .u8 (d 5), .int .u8 (d 6), .int .u8 (d 7)] 24)) := (Below.refl _ _).alloc (Nat.le_refl _) _
  have hc := fun w => dcheck_any id n r d w
  have HF := Lib.hid hf
  have HB := Lib.hid hb
  have hm := rmode_any (d 0)
  clear hd h0 hf hb
  rw [h] at hc
  clear h
  subst h2
  subst h3

  have HC := Lib.hid hc
  have HM := Lib.hid hm
  clear hc hm
  go_enter Try.func11, Try.ntmps11
  go_wp2_with (first
    | (go_at_call 27; refine (HC.out _).mono ?_; rintro e w2 ⟨rfl, hb2⟩; have hf2 := FrAt.below HF.out hb2 HF.out.lt; have HB2 := Lib.hid (HB.out.trans (hb2.mono HB.out.size)); obtain ⟨c0, c1, c2, c3, c4, c5, c6, c7, c8, c9, c10⟩ := hf2.cells; clear hb2 hf2 c3 c4 c5 c6 c7 c8 c9 c10))
  all_goals first | (exfalso; omega) | exact bodyPost_ret (results_tmp3 rfl _ _ _) rfl ⟨rfl, HB2.out⟩ | (trace_state; sorry)
set_option maxHeartbeats 1000000 in
theorem rbd_high (id n : Int) (r : Bool) (d : Nat → Int) (w : World) (hd : ∀ j, j < 8 → 0 ≤ d j ∧ d j ≤ 255) (h : chk id r n d = 0) (h2 : r = false) (h3 : n = 1) (h4 : 1919 < id) :
    Calls Try.prog 11 #[.agg #[.int .i64 id, .bool r, .int .i64 n, .int .u8 (d 0), .int .u8 (d 1), .int .u8 (d 2), .int .u8 (d 3), .int .u8 (d 4), .int .u8 (d 5), .int .u8 (d 6), .int .u8 (d 7)]] w fun e w' => e = .returned (.tuple #[.int .i64 0, .int .i64 0, .bool false]) ∧ Below w.heap.size w w' := by
  have h0 := hd 0 (by omega)
  have wv : IntKind.i64.wrap (d 0) = d 0 := IntWalk.i64_in _ (by omega)
  have hf : FrAt (w.alloc (.cells #[.int .i64 id, .bool r, .int .i64 n, .int .u8 (d 0), .int .u8 (d 1), .int .u8 (d 2), .int .u8 (d 3), .int .u8 (d 4), .int .u8 (d 5), .int .u8 (d 6), .int .u8 (d 7)] 24)) w.heap.size id r n d := frame_new w id n r d
  have hb : Below w.heap.size w (w.alloc (.cells #[.int .i64 id, .bool r, .int .i64 n, .int .u8 (d 0), .int .u8 (d 1), .int .u8 (d 2), .int .u8 (d 3), .int .u8 (d 4), .int .u8 (d 5), .int .u8 (d 6), .int .u8 (d 7)] 24)) := (Below.refl _ _).alloc (Nat.le_refl _) _
  have hc := fun w => dcheck_any id n r d w
  have HF := Lib.hid hf
  have HB := Lib.hid hb
  have hm := rmode_any (d 0)
  clear hd h0 hf hb
  rw [h] at hc
  clear h
  subst h2
  subst h3
  have h5 : ¬ id < 1793 := by omega

  have HC := Lib.hid hc
  have HM := Lib.hid hm
  clear hc hm
  go_enter Try.func11, Try.ntmps11
  go_wp2_with (first
    | (go_at_call 27; refine (HC.out _).mono ?_; rintro e w2 ⟨rfl, hb2⟩; have hf2 := FrAt.below HF.out hb2 HF.out.lt; have HB2 := Lib.hid (HB.out.trans (hb2.mono HB.out.size)); obtain ⟨c0, c1, c2, c3, c4, c5, c6, c7, c8, c9, c10⟩ := hf2.cells; clear hb2 hf2 c3 c4 c5 c6 c7 c8 c9 c10))
  all_goals first | (exfalso; omega) | exact bodyPost_ret (results_tmp3 rfl _ _ _) rfl ⟨rfl, HB2.out⟩ | (trace_state; sorry)
set_option maxHeartbeats 1000000 in
theorem rbd_mode (id n : Int) (r : Bool) (d : Nat → Int) (w : World) (hd : ∀ j, j < 8 → 0 ≤ d j ∧ d j ≤ 255) (h : chk id r n d = 0) (h2 : r = false) (h3 : n = 1) (h4 : 1793 ≤ id) (h5 : id ≤ 1919) (h6 : isMd (d 0) = false) :
    Calls Try.prog 11 #[.agg #[.int .i64 id, .bool r, .int .i64 n, .int .u8 (d 0), .int .u8 (d 1), .int .u8 (d 2), .int .u8 (d 3), .int .u8 (d 4), .int .u8 (d 5), .int .u8 (d 6), .int .u8 (d 7)]] w fun e w' => e = .returned (.tuple #[.int .i64 0, .int .i64 0, .bool false]) ∧ Below w.heap.size w w' := by
  have h0 := hd 0 (by omega)
  have wv : IntKind.i64.wrap (d 0) = d 0 := IntWalk.i64_in _ (by omega)
  have hf : FrAt (w.alloc (.cells #[.int .i64 id, .bool r, .int .i64 n, .int .u8 (d 0), .int .u8 (d 1), .int .u8 (d 2), .int .u8 (d 3), .int .u8 (d 4), .int .u8 (d 5), .int .u8 (d 6), .int .u8 (d 7)] 24)) w.heap.size id r n d := frame_new w id n r d
  have hb : Below w.heap.size w (w.alloc (.cells #[.int .i64 id, .bool r, .int .i64 n, .int .u8 (d 0), .int .u8 (d 1), .int .u8 (d 2), .int .u8 (d 3), .int .u8 (d 4), .int .u8 (d 5), .int .u8 (d 6), .int .u8 (d 7)] 24)) := (Below.refl _ _).alloc (Nat.le_refl _) _
  have hc := fun w => dcheck_any id n r d w
  have HF := Lib.hid hf
  have HB := Lib.hid hb
  have hm := rmode_any (d 0)
  clear hd h0 hf hb
  rw [h] at hc
  clear h
  subst h2
  subst h3
  rw [h6] at hm
  have h7 : ¬ id < 1793 := by omega
  have h8 : ¬ 1919 < id := by omega
  clear h6

  have HC := Lib.hid hc
  have HM := Lib.hid hm
  clear hc hm
  go_enter Try.func11, Try.ntmps11
  go_wp2_with (first
    | (go_at_call 27; refine (HC.out _).mono ?_; rintro e w2 ⟨rfl, hb2⟩; have hf2 := FrAt.below HF.out hb2 HF.out.lt; have HB2 := Lib.hid (HB.out.trans (hb2.mono HB.out.size)); obtain ⟨c0, c1, c2, c3, c4, c5, c6, c7, c8, c9, c10⟩ := hf2.cells; clear hb2 hf2 c3 c4 c5 c6 c7 c8 c9 c10) | (go_at_call 8; refine (HM.out _).mono ?_; rintro e w3 ⟨rfl, rfl⟩))
  all_goals first | (exfalso; omega) | exact bodyPost_ret (results_tmp3 rfl _ _ _) rfl ⟨rfl, HB2.out⟩ | (trace_state; sorry)
set_option maxHeartbeats 1000000 in
theorem rbd_yes (id n : Int) (r : Bool) (d : Nat → Int) (w : World) (hd : ∀ j, j < 8 → 0 ≤ d j ∧ d j ≤ 255) (h : chk id r n d = 0) (h2 : r = false) (h3 : n = 1) (h4 : 1793 ≤ id) (h5 : id ≤ 1919) (h6 : isMd (d 0) = true) :
    Calls Try.prog 11 #[.agg #[.int .i64 id, .bool r, .int .i64 n, .int .u8 (d 0), .int .u8 (d 1), .int .u8 (d 2), .int .u8 (d 3), .int .u8 (d 4), .int .u8 (d 5), .int .u8 (d 6), .int .u8 (d 7)]] w fun e w' => e = .returned (.tuple #[.int .i64 (id - 1792), .int .i64 (d 0), .bool true]) ∧ Below w.heap.size w w' := by
  have h0 := hd 0 (by omega)
  have wv : IntKind.i64.wrap (d 0) = d 0 := IntWalk.i64_in _ (by omega)
  have hf : FrAt (w.alloc (.cells #[.int .i64 id, .bool r, .int .i64 n, .int .u8 (d 0), .int .u8 (d 1), .int .u8 (d 2), .int .u8 (d 3), .int .u8 (d 4), .int .u8 (d 5), .int .u8 (d 6), .int .u8 (d 7)] 24)) w.heap.size id r n d := frame_new w id n r d
  have hb : Below w.heap.size w (w.alloc (.cells #[.int .i64 id, .bool r, .int .i64 n, .int .u8 (d 0), .int .u8 (d 1), .int .u8 (d 2), .int .u8 (d 3), .int .u8 (d 4), .int .u8 (d 5), .int .u8 (d 6), .int .u8 (d 7)] 24)) := (Below.refl _ _).alloc (Nat.le_refl _) _
  have hc := fun w => dcheck_any id n r d w
  have HF := Lib.hid hf
  have HB := Lib.hid hb
  have hm := rmode_any (d 0)
  clear hd h0 hf hb
  rw [h] at hc
  clear h
  subst h2
  subst h3
  rw [h6] at hm
  have h7 : ¬ id < 1793 := by omega
  have h8 : ¬ 1919 < id := by omega
  clear h6

  have HC := Lib.hid hc
  have HM := Lib.hid hm
  clear hc hm
  go_enter Try.func11, Try.ntmps11
  go_wp2_with (first
    | (go_at_call 27; refine (HC.out _).mono ?_; rintro e w2 ⟨rfl, hb2⟩; have hf2 := FrAt.below HF.out hb2 HF.out.lt; have HB2 := Lib.hid (HB.out.trans (hb2.mono HB.out.size)); obtain ⟨c0, c1, c2, c3, c4, c5, c6, c7, c8, c9, c10⟩ := hf2.cells; clear hb2 hf2 c3 c4 c5 c6 c7 c8 c9 c10) | (go_at_call 8; refine (HM.out _).mono ?_; rintro e w3 ⟨rfl, rfl⟩))
  all_goals first | (exfalso; omega) | exact bodyPost_ret (results_tmp3 rfl _ _ _) rfl ⟨rfl, HB2.out⟩ | (trace_state; sorry)
theorem rbd_any (id n : Int) (r : Bool) (d : Nat → Int) (w : World) (hd : ∀ j, j < 8 → 0 ≤ d j ∧ d j ≤ 255) :
    Calls Try.prog 11 #[.agg #[.int .i64 id, .bool r, .int .i64 n, .int .u8 (d 0), .int .u8 (d 1), .int .u8 (d 2), .int .u8 (d 3), .int .u8 (d 4), .int .u8 (d 5), .int .u8 (d 6), .int .u8 (d 7)]] w fun e w' => e = .returned (.tuple #[.int .i64 (bdN id r n d), .int .i64 (bdM id r n d), .bool (decB id r n d)]) ∧ Below w.heap.size w w' := by
  unfold bdN bdM
  cases hq : decB id r n d with
  | true =>
    obtain ⟨h1, h2, h3, h4, h5, h6⟩ := (decB_iff id n r d).1 hq
    exact rbd_yes id n r d w hd h1 h2 h3 h4 h5 h6
  | false =>
    have hn := fun h => Bool.false_ne_true (hq.symm.trans ((decB_iff id n r d).2 h))
    by_cases h1 : chk id r n d = 0
    · cases hr : r with
      | true => subst hr; exact rbd_rtr id n true d w hd h1 rfl
      | false =>
        subst hr
        by_cases h3 : n = 1
        · by_cases h4 : 1793 ≤ id
          · by_cases h5 : id ≤ 1919
            · exact rbd_mode id n false d w hd h1 rfl h3 h4 h5 (by
                have : ¬ isMd (d 0) = true := fun h6 => hn ⟨h1, rfl, h3, h4, h5, h6⟩
                simpa using this)
            · exact rbd_high id n false d w hd h1 rfl h3 (by omega)
          · exact rbd_low id n false d w hd h1 rfl h3 (by omega)
        · exact rbd_len id n false d w hd h1 rfl h3
    · exact rbd_chk id n r d w hd h1
end Go.Proofs.Ytiidgcgamcgipaa
