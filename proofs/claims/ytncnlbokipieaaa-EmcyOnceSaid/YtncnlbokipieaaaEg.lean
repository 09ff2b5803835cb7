/- emcy: Raise and Clear. -/
import Derived.Test.YtncnlbokipieaaaEf
import Derived.Test.YtncnlbokipieaaaEKDRl
import Derived.Deep.CutBlock
namespace Go.Proofs.Ytncnlbokipieaaa
open Go.RowKit Go.Maps
set_option linter.unusedSimpArgs false
set_option linter.unusedVariables false

theorem map_nil (B : Nat) : ∀ w, (binOp .eql 76 (.map (some B)) (.map none)).run Try.prog w = .ok (.bool false) w := fun w => by kernel_rfl
set_option maxRecDepth 100000 in
set_option maxHeartbeats 4000000 in
theorem raise_nil (w : World) (code bit : Int) (Ai : Option Addr) (m ci : Nat)  : Calls Try.prog 12 #[.pointer none, .int .i64 code, .int .i64 bit, .slice Ai m ci] w fun e w' => e = .returned (.tuple #[.agg #[.int .i64 0, .bool false, .int .i64 0, .int .u8 0, .int .u8 0, .int .u8 0, .int .u8 0, .int .u8 0, .int .u8 0, .int .u8 0, .int .u8 0], .bool false]) ∧ Below w.heap.size w w' := by
  have hba : Below w.heap.size w (w.alloc (.cells #[.int .i64 0, .bool false, .int .i64 0, .int .u8 0, .int .u8 0, .int .u8 0, .int .u8 0, .int .u8 0, .int .u8 0, .int .u8 0, .int .u8 0] 27)) := (Below.refl _ _).alloc (Nat.le_refl _) _
  have HF := Lib.hid (frame_new w 0 0 false (fun _ => 0))
  have HB := Lib.hid hba
  clear hba
  
  go_enter Try.func12, Try.ntmps12
  go_wp2_with (first
    | fail
    | (refine wpList_store_row rfl _ (.tmp 8) (.tmp 24) rfl w.heap.size _ rfl rfl _ _ HF.out info_frame rfl (one_frame 0 0 false (fun _ => 0)) ?_))
  all_goals exact bodyPost_ret (results_cell_tmp_row rfl _ _ w.heap.size _ _ _ _ rfl (HF.out.row 0 0 false (fun _ => 0)) Try.underlying27 rfl info_frame) rfl ⟨rfl, below_setRow HB.out (Nat.le_refl _) _⟩
set_option maxRecDepth 100000 in
set_option maxHeartbeats 4000000 in
theorem raise_has (T : Nat → Prop) (w0 w : World) (g B q N c : Nat) (D : DataW Unit) (A : Option Addr) (lost nd td : Int) (F : List (Int × Int)) (hs : List Int) (code bit : Int) (Ai : Option Addr) (m ci : Nat) (h : LgI T w0 w g B q N D A c lost nd F hs td) (hy : (Lit.int .i64 code).wf = true) (hq : fhas F code = true) : Calls Try.prog 12 #[.pointer (some ⟨g, 0, none⟩), .int .i64 code, .int .i64 bit, .slice Ai m ci] w fun e w' => e = .returned (.tuple #[.agg #[.int .i64 0, .bool false, .int .i64 0, .int .u8 0, .int .u8 0, .int .u8 0, .int .u8 0, .int .u8 0, .int .u8 0, .int .u8 0, .int .u8 0], .bool false]) ∧ Below w.heap.size w w' := by
  have hba : Below w.heap.size w (w.alloc (.cells #[.int .i64 0, .bool false, .int .i64 0, .int .u8 0, .int .u8 0, .int .u8 0, .int .u8 0, .int .u8 0, .int .u8 0, .int .u8 0, .int .u8 0] 27)) := (Below.refl _ _).alloc (Nat.le_refl _) _
  have HF := Lib.hid (frame_new w 0 0 false (fun _ => 0))
  have HB := Lib.hid hba
  have HH := Lib.hid (has_in T w0 _ g B q N c D A lost nd td code F hs (h.below hba) hy)
  obtain ⟨c0, c1, c2, c3, c4, c5, c6, c7, c8, c9, c10, c11⟩ := (h.below hba).cells
  rw [hq] at HH
  clear h hba hq hy
  have hmq := map_nil B
  go_enter Try.func12, Try.ntmps12
  go_wp2_with (first
    | (go_at_call 15; refine (HH.out).mono ?_; rintro e w1 ⟨rfl, rfl⟩)
    | (refine wpList_store_row rfl _ (.tmp 8) (.tmp 24) rfl w.heap.size _ rfl rfl _ _ HF.out info_frame rfl (one_frame 0 0 false (fun _ => 0)) ?_))
  all_goals exact bodyPost_ret (results_cell_tmp_row rfl _ _ w.heap.size _ _ _ _ rfl (HF.out.row 0 0 false (fun _ => 0)) Try.underlying27 rfl info_frame) rfl ⟨rfl, below_setRow HB.out (Nat.le_refl _) _⟩
set_option maxRecDepth 100000 in
set_option maxHeartbeats 4000000 in
theorem raise_code (T : Nat → Prop) (w0 w : World) (g B q N c : Nat) (D : DataW Unit) (A : Option Addr) (lost nd td : Int) (F : List (Int × Int)) (hs : List Int) (code bit : Int) (Ai : Option Addr) (m ci : Nat) (h : LgI T w0 w g B q N D A c lost nd F hs td) (hy : (Lit.int .i64 code).wf = true) (hq : fhas F code = false) (hc : isCd code = false) : Calls Try.prog 12 #[.pointer (some ⟨g, 0, none⟩), .int .i64 code, .int .i64 bit, .slice Ai m ci] w fun e w' => e = .returned (.tuple #[.agg #[.int .i64 0, .bool false, .int .i64 0, .int .u8 0, .int .u8 0, .int .u8 0, .int .u8 0, .int .u8 0, .int .u8 0, .int .u8 0, .int .u8 0], .bool false]) ∧ Below w.heap.size w w' := by
  have hba : Below w.heap.size w (w.alloc (.cells #[.int .i64 0, .bool false, .int .i64 0, .int .u8 0, .int .u8 0, .int .u8 0, .int .u8 0, .int .u8 0, .int .u8 0, .int .u8 0, .int .u8 0] 27)) := (Below.refl _ _).alloc (Nat.le_refl _) _
  have HF := Lib.hid (frame_new w 0 0 false (fun _ => 0))
  have HB := Lib.hid hba
  have HH := Lib.hid (has_in T w0 _ g B q N c D A lost nd td code F hs (h.below hba) hy)
  obtain ⟨c0, c1, c2, c3, c4, c5, c6, c7, c8, c9, c10, c11⟩ := (h.below hba).cells
  rw [hq] at HH
  clear h hba hq hy
  have HC := Lib.hid (fun w => ecode_any code w)
  rw [hc] at HC
  clear hc
  have hmq := map_nil B
  go_enter Try.func12, Try.ntmps12
  go_wp2_with (first
    | (go_at_call 15; refine (HH.out).mono ?_; rintro e w1 ⟨rfl, rfl⟩)
    | (go_at_call 26; refine (HC.out _).mono ?_; rintro e w2 ⟨rfl, hb2⟩; have HF2 := Lib.hid (HF.out.below hb2 HF.out.lt); have HB2 := Lib.hid (HB.out.trans (hb2.mono HB.out.size)); clear hb2)
    | (refine wpList_store_row rfl _ (.tmp 8) (.tmp 40) rfl w.heap.size _ rfl rfl _ _ HF2.out info_frame rfl (one_frame 0 0 false (fun _ => 0)) ?_))
  all_goals exact bodyPost_ret (results_cell_tmp_row rfl _ _ w.heap.size _ _ _ _ rfl (HF2.out.row 0 0 false (fun _ => 0)) Try.underlying27 rfl info_frame) rfl ⟨rfl, below_setRow HB2.out (Nat.le_refl _) _⟩
set_option maxRecDepth 100000 in
set_option maxHeartbeats 4000000 in
theorem raise_zero (T : Nat → Prop) (w0 w : World) (g B q N c : Nat) (D : DataW Unit) (A : Option Addr) (lost nd td : Int) (F : List (Int × Int)) (hs : List Int) (code bit : Int) (Ai : Option Addr) (m ci : Nat) (h : LgI T w0 w g B q N D A c lost nd F hs td) (hy : (Lit.int .i64 code).wf = true) (hq : fhas F code = false) (hc : isCd code = true) (hz : code = 0) : Calls Try.prog 12 #[.pointer (some ⟨g, 0, none⟩), .int .i64 code, .int .i64 bit, .slice Ai m ci] w fun e w' => e = .returned (.tuple #[.agg #[.int .i64 0, .bool false, .int .i64 0, .int .u8 0, .int .u8 0, .int .u8 0, .int .u8 0, .int .u8 0, .int .u8 0, .int .u8 0, .int .u8 0], .bool false]) ∧ Below w.heap.size w w' := by
  have hba : Below w.heap.size w (w.alloc (.cells #[.int .i64 0, .bool false, .int .i64 0, .int .u8 0, .int .u8 0, .int .u8 0, .int .u8 0, .int .u8 0, .int .u8 0, .int .u8 0, .int .u8 0] 27)) := (Below.refl _ _).alloc (Nat.le_refl _) _
  have HF := Lib.hid (frame_new w 0 0 false (fun _ => 0))
  have HB := Lib.hid hba
  have HH := Lib.hid (has_in T w0 _ g B q N c D A lost nd td code F hs (h.below hba) hy)
  obtain ⟨c0, c1, c2, c3, c4, c5, c6, c7, c8, c9, c10, c11⟩ := (h.below hba).cells
  rw [hq] at HH
  clear h hba hq hy
  have HC := Lib.hid (fun w => ecode_any code w)
  rw [hc] at HC
  subst hz
  clear hc
  have hmq := map_nil B
  go_enter Try.func12, Try.ntmps12
  go_wp2_with (first
    | (go_at_call 15; refine (HH.out).mono ?_; rintro e w1 ⟨rfl, rfl⟩)
    | (go_at_call 26; refine (HC.out _).mono ?_; rintro e w2 ⟨rfl, hb2⟩; have HF2 := Lib.hid (HF.out.below hb2 HF.out.lt); have HB2 := Lib.hid (HB.out.trans (hb2.mono HB.out.size)); clear hb2)
    | (refine wpList_store_row rfl _ (.tmp 8) (.tmp 40) rfl w.heap.size _ rfl rfl _ _ HF2.out info_frame rfl (one_frame 0 0 false (fun _ => 0)) ?_))
  all_goals exact bodyPost_ret (results_cell_tmp_row rfl _ _ w.heap.size _ _ _ _ rfl (HF2.out.row 0 0 false (fun _ => 0)) Try.underlying27 rfl info_frame) rfl ⟨rfl, below_setRow HB2.out (Nat.le_refl _) _⟩
set_option maxRecDepth 100000 in
set_option maxHeartbeats 4000000 in
theorem raise_low (T : Nat → Prop) (w0 w : World) (g B q N c : Nat) (D : DataW Unit) (A : Option Addr) (lost nd td : Int) (F : List (Int × Int)) (hs : List Int) (code bit : Int) (Ai : Option Addr) (m ci : Nat) (h : LgI T w0 w g B q N D A c lost nd F hs td) (hy : (Lit.int .i64 code).wf = true) (hq : fhas F code = false) (hc : isCd code = true) (hz : ¬ code = 0) (hl : bit < 0) : Calls Try.prog 12 #[.pointer (some ⟨g, 0, none⟩), .int .i64 code, .int .i64 bit, .slice Ai m ci] w fun e w' => e = .returned (.tuple #[.agg #[.int .i64 0, .bool false, .int .i64 0, .int .u8 0, .int .u8 0, .int .u8 0, .int .u8 0, .int .u8 0, .int .u8 0, .int .u8 0, .int .u8 0], .bool false]) ∧ Below w.heap.size w w' := by
  have hba : Below w.heap.size w (w.alloc (.cells #[.int .i64 0, .bool false, .int .i64 0, .int .u8 0, .int .u8 0, .int .u8 0, .int .u8 0, .int .u8 0, .int .u8 0, .int .u8 0, .int .u8 0] 27)) := (Below.refl _ _).alloc (Nat.le_refl _) _
  have HF := Lib.hid (frame_new w 0 0 false (fun _ => 0))
  have HB := Lib.hid hba
  have HH := Lib.hid (has_in T w0 _ g B q N c D A lost nd td code F hs (h.below hba) hy)
  obtain ⟨c0, c1, c2, c3, c4, c5, c6, c7, c8, c9, c10, c11⟩ := (h.below hba).cells
  rw [hq] at HH
  clear h hba hq hy
  have HC := Lib.hid (fun w => ecode_any code w)
  rw [hc] at HC
  have tz : (code == 0) = false := by simpa using hz
  clear hc hz
  have hmq := map_nil B
  go_enter Try.func12, Try.ntmps12
  go_wp2_with (first
    | (go_at_call 15; refine (HH.out).mono ?_; rintro e w1 ⟨rfl, rfl⟩)
    | (go_at_call 26; refine (HC.out _).mono ?_; rintro e w2 ⟨rfl, hb2⟩; have HF2 := Lib.hid (HF.out.below hb2 HF.out.lt); have HB2 := Lib.hid (HB.out.trans (hb2.mono HB.out.size)); clear hb2)
    | (refine wpList_store_row rfl _ (.tmp 8) (.tmp 40) rfl w.heap.size _ rfl rfl _ _ HF2.out info_frame rfl (one_frame 0 0 false (fun _ => 0)) ?_))
  all_goals exact bodyPost_ret (results_cell_tmp_row rfl _ _ w.heap.size _ _ _ _ rfl (HF2.out.row 0 0 false (fun _ => 0)) Try.underlying27 rfl info_frame) rfl ⟨rfl, below_setRow HB2.out (Nat.le_refl _) _⟩
set_option maxRecDepth 100000 in
set_option maxHeartbeats 4000000 in
theorem raise_high (T : Nat → Prop) (w0 w : World) (g B q N c : Nat) (D : DataW Unit) (A : Option Addr) (lost nd td : Int) (F : List (Int × Int)) (hs : List Int) (code bit : Int) (Ai : Option Addr) (m ci : Nat) (h : LgI T w0 w g B q N D A c lost nd F hs td) (hy : (Lit.int .i64 code).wf = true) (hq : fhas F code = false) (hc : isCd code = true) (hz : ¬ code = 0) (hl : ¬ bit < 0) (hl2 : 8 ≤ bit) : Calls Try.prog 12 #[.pointer (some ⟨g, 0, none⟩), .int .i64 code, .int .i64 bit, .slice Ai m ci] w fun e w' => e = .returned (.tuple #[.agg #[.int .i64 0, .bool false, .int .i64 0, .int .u8 0, .int .u8 0, .int .u8 0, .int .u8 0, .int .u8 0, .int .u8 0, .int .u8 0, .int .u8 0], .bool false]) ∧ Below w.heap.size w w' := by
  have hba : Below w.heap.size w (w.alloc (.cells #[.int .i64 0, .bool false, .int .i64 0, .int .u8 0, .int .u8 0, .int .u8 0, .int .u8 0, .int .u8 0, .int .u8 0, .int .u8 0, .int .u8 0] 27)) := (Below.refl _ _).alloc (Nat.le_refl _) _
  have HF := Lib.hid (frame_new w 0 0 false (fun _ => 0))
  have HB := Lib.hid hba
  have HH := Lib.hid (has_in T w0 _ g B q N c D A lost nd td code F hs (h.below hba) hy)
  obtain ⟨c0, c1, c2, c3, c4, c5, c6, c7, c8, c9, c10, c11⟩ := (h.below hba).cells
  rw [hq] at HH
  clear h hba hq hy
  have HC := Lib.hid (fun w => ecode_any code w)
  rw [hc] at HC
  have tz : (code == 0) = false := by simpa using hz
  clear hc hz
  have hmq := map_nil B
  go_enter Try.func12, Try.ntmps12
  go_wp2_with (first
    | (go_at_call 15; refine (HH.out).mono ?_; rintro e w1 ⟨rfl, rfl⟩)
    | (go_at_call 26; refine (HC.out _).mono ?_; rintro e w2 ⟨rfl, hb2⟩; have HF2 := Lib.hid (HF.out.below hb2 HF.out.lt); have HB2 := Lib.hid (HB.out.trans (hb2.mono HB.out.size)); clear hb2)
    | (refine wpList_store_row rfl _ (.tmp 8) (.tmp 40) rfl w.heap.size _ rfl rfl _ _ HF2.out info_frame rfl (one_frame 0 0 false (fun _ => 0)) ?_))
  all_goals exact bodyPost_ret (results_cell_tmp_row rfl _ _ w.heap.size _ _ _ _ rfl (HF2.out.row 0 0 false (fun _ => 0)) Try.underlying27 rfl info_frame) rfl ⟨rfl, below_setRow HB2.out (Nat.le_refl _) _⟩
section
variable {T : Nat → Prop} {w0 w x y : World} {g B q N c : Nat} {D : DataW Unit} {A : Option Addr} {lost nd td : Int} {F : List (Int × Int)} {hs : List Int}
theorem LgI.count (h : LgI T w0 x g B q N D A c lost nd F hs td) {b : Nat} (hb : b < 8) : x.cell? ⟨g, 2 + b, none⟩ = some (.int .i64 (cnt F b)) := by
  rw [cell_of_row _ _ _ _ _ _ h.box]
  match b, hb with
  | 0, _ => rfl
  | 1, _ => rfl
  | 2, _ => rfl
  | 3, _ => rfl
  | 4, _ => rfl
  | 5, _ => rfl
  | 6, _ => rfl
  | 7, _ => rfl
/-- A map has turned, and a count: the faults are others. -/
theorem LgI.turned {F' : List (Int × Int)} {D' : DataW Unit} {N' b : Nat} {v : Int} (h : LgI T w0 x g B q N D A c lost nd F hs td) (hg : x.grownBy y (some B)) (hm : MapAt y B N' D') (hb : b < 8) (hv : ∀ k, k < 8 → cnt F' k = if k = b then v else cnt F k)
    (ht : ∀ y : Int, (Lit.int .i64 y).wf = true → Maps.has D' (.int .i64 y) = fhas F' y ∧ (fhas F' y = true → D'.atKey (.int .i64 y) (.lit (.int .i64 0)) = .lit (.int .i64 (fbit F' y)))) (hu : Uniq F') (hbt : ∀ p ∈ F', 0 ≤ p.2 ∧ p.2 ≤ 7 ∧ 1 ≤ p.1 ∧ p.1 ≤ 65535) (hN : (N' : Int) ≤ 1000000) (hl : (F'.length : Int) ≤ 1000000) :
    LgI T w0 (y.setCell ⟨g, 2 + b, none⟩ (.int .i64 v)) g B q N' D' A c lost nd F' hs td ∧ Chgd T x (y.setCell ⟨g, 2 + b, none⟩ (.int .i64 v)) := by
  have hk : ∀ k, k ≠ g → (y.setCell ⟨g, 2 + b, none⟩ (.int .i64 v)).heap[k]? = y.heap[k]? := fun k hk => Below.heap_setCell y ⟨g, 2 + b, none⟩ _ k hk
  have hbx : y.heap[g]? = some (.cells #[.int .i64 nd, .map (some B), .int .i64 (cnt F 0), .int .i64 (cnt F 1), .int .i64 (cnt F 2), .int .i64 (cnt F 3), .int .i64 (cnt F 4), .int .i64 (cnt F 5), .int .i64 (cnt F 6), .int .i64 (cnt F 7), .pointer (some ⟨q, 0, none⟩), .int .i64 td] 81 (0, 0)) := (hg.block g h.lt (fun e => h.ne_B (by injection e with e; exact e.symm))).trans h.box
  have hq := h.que.keep (w' := y) (hg.block q h.que.lt (fun e => h.ne_qB (by injection e with e; exact e.symm))) (fun b' hb' => hg.block b' (h.que.row.lt hb').2 (fun e => h.ne_AB (by rw [hb']; exact e)))
  refine ⟨⟨?_, mapAt_keep hm (hk B h.ne_B), ht, hq.keep (hk q h.ne_q) (fun b' hb' => hk b' (h.ne_A b' hb')), h.los, hN, h.tds, h.tg, h.tB, h.tq, h.tA, h.low, fun k hk' => by have := h.tlt k hk'; have := hg.size; simp; omega, hu, hbt, hl, (h.bel.grown hg h.bel.size (fun k e => by cases e; exact h.low B h.tB)).setCell (p := ⟨g, 2 + b, none⟩) (h.low g h.tg) _⟩, (Chgd.grown hg (fun k e => by cases e; exact h.tB)).trans (Chgd.set y h.tg _ _)⟩
  rw [heap_setCell_same y g (2 + b) _ _ (.int .i64 v) hbx]
  rw [hv 0 (by omega), hv 1 (by omega), hv 2 (by omega), hv 3 (by omega), hv 4 (by omega), hv 5 (by omega), hv 6 (by omega), hv 7 (by omega)]
  match b, hb with
  | 0, _ => rfl
  | 1, _ => rfl
  | 2, _ => rfl
  | 3, _ => rfl
  | 4, _ => rfl
  | 5, _ => rfl
  | 6, _ => rfl
  | 7, _ => rfl
end
theorem key_lit {y : Int} (hy : (Lit.int .i64 y).wf = true) : WideAt.IsKeyLit (.int .i64 y) := intK.key (keyOf_int_mk Try.underlying3 hy)
theorem wf_code {y : Int} (h : isCd y = true) : (Lit.int .i64 y).wf = true := WalkArith.wf_i64 (by have := isC_in h; omega)
theorem tie_put {D : DataW Unit} {F : List (Int × Int)} {code : Int} {b : Int} (hm : IsMap D) (hy : (Lit.int .i64 code).wf = true) (hq : fhas F code = false) (h : ∀ y : Int, (Lit.int .i64 y).wf = true → Maps.has D (.int .i64 y) = fhas F y ∧ (fhas F y = true → D.atKey (.int .i64 y) (.lit (.int .i64 0)) = .lit (.int .i64 (fbit F y)))) :
    ∀ y : Int, (Lit.int .i64 y).wf = true → Maps.has (D.put (.int .i64 code) (.lit (.int .i64 b))) (.int .i64 y) = fhas (F ++ [(code, b)]) y ∧ (fhas (F ++ [(code, b)]) y = true → (D.put (.int .i64 code) (.lit (.int .i64 b))).atKey (.int .i64 y) (.lit (.int .i64 0)) = .lit (.int .i64 (fbit (F ++ [(code, b)]) y))) := fun y hyy => by
  rw [fhas_app, fbit_app F code b hq y]
  by_cases e : y = code
  · subst e
    rw [has_put_same hm (key_lit hy), atKey_put_same hm (key_lit hy), if_pos rfl]
    simp
  · have hne : (Lit.int .i64 y) ≠ .int .i64 code := fun h => e (by injection h)
    rw [has_put_other hne, atKey_put_other hne, if_neg e, show (code == y) = false by simp; exact fun h => e h.symm, Bool.or_false]
    exact h y hyy
theorem tie_del {D : DataW Unit} {F : List (Int × Int)} {code : Int} (h : ∀ y : Int, (Lit.int .i64 y).wf = true → Maps.has D (.int .i64 y) = fhas F y ∧ (fhas F y = true → D.atKey (.int .i64 y) (.lit (.int .i64 0)) = .lit (.int .i64 (fbit F y)))) :
    ∀ y : Int, (Lit.int .i64 y).wf = true → Maps.has (D.del (.int .i64 code)) (.int .i64 y) = fhas (fcut F code) y ∧ (fhas (fcut F code) y = true → (D.del (.int .i64 code)).atKey (.int .i64 y) (.lit (.int .i64 0)) = .lit (.int .i64 (fbit (fcut F code) y))) := fun y hyy => by
  rw [fhas_cut]
  by_cases e : y = code
  · subst e
    rw [has_del_same]
    simp
  · have hne : (Lit.int .i64 y) ≠ .int .i64 code := fun h => e (by injection h)
    rw [has_del_other hne, atKey_del_other hne, fbit_cut F code y e, show (y == code) = false by simpa using e, Bool.not_false, Bool.and_true]
    exact h y hyy
theorem cnt_put (F : List (Int × Int)) (code : Int) (b : Nat) : ∀ k, k < 8 → cnt (F ++ [(code, (b : Int))]) k = if k = b then cnt F b + 1 else cnt F k := fun k _ => by
  rw [cnt_app]
  by_cases e : k = b
  · subst e; simp
  · rw [if_neg e, if_neg (by omega)]; omega
theorem uniq_app {F : List (Int × Int)} {code b : Int} (h : Uniq F) (hq : fhas F code = false) : Uniq (F ++ [(code, b)]) := by
  unfold Uniq at *
  rw [List.map_append, List.nodup_append]
  refine ⟨h, by simp, fun x hx y hy e => ?_⟩
  simp at hy
  subst hy e
  obtain ⟨p, hp, rfl⟩ := List.mem_map.1 hx
  simp only [fhas, List.any_eq_false] at hq
  exact hq p hp (by simp)
theorem uniq_cut {F : List (Int × Int)} (code : Int) (h : Uniq F) : Uniq (fcut F code) := by
  unfold Uniq fcut at *
  exact List.Nodup.sublist (List.filter_sublist.map _) h
def RaiseP (T : Nat → Prop) (w0 w : World) (g B q N c : Nat) (D : DataW Unit) (A : Option Addr) (lost nd td : Int) (F : List (Int × Int)) (hs : List Int) (code : Int) (b m : Nat) (li : List Int) (w' : World) : Prop := ∃ A' c' T', LgI T' w0 w' g B q (N + 1) (D.put (.int .i64 code) (.lit (.int .i64 (b : Int)))) A' c' lost nd (F ++ [(code, (b : Int))]) (hsE hs code) (td + 1) ∧ Chgd T w w' ∧ ∀ k, T' k → T k ∨ w.heap.size ≤ k
end Go.Proofs.Ytncnlbokipieaaa
