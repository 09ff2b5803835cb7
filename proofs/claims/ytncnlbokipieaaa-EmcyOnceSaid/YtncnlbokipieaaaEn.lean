/- emcy: Told, Clear. -/
import Derived.Test.YtncnlbokipieaaaEi
import Derived.Deep.CutBlock
namespace Go.Proofs.Ytncnlbokipieaaa
open Go.RowKit Go.Maps
set_option linter.unusedSimpArgs false
set_option linter.unusedVariables false

theorem told_in (T : Nat → Prop) (w0 w : World) (g B q N c : Nat) (D : DataW Unit) (A : Option Addr) (lost nd td : Int) (F : List (Int × Int)) (hs : List Int) (h : LgI T w0 w g B q N D A c lost nd F hs td) : Calls Try.prog 18 #[.pointer (some ⟨g, 0, none⟩)] w fun e w' => e = .returned (.int .i64 td) ∧ w' = w := by
  obtain ⟨c0, c1, c2, c3, c4, c5, c6, c7, c8, c9, c10, c11⟩ := h.cells
  clear h
  go_enter Try.func18, Try.ntmps18
  go_wp2_with fail
  all_goals exact bodyPost_ret (results_tmp rfl _ _ _) rfl ⟨rfl, rfl⟩
section
variable {T : Nat → Prop} {w0 w x y : World} {g B q N c : Nat} {D : DataW Unit} {A : Option Addr} {lost nd td : Int} {F : List (Int × Int)} {hs : List Int}
/-- A count has turned, and then the map: the faults are others. -/
theorem LgI.cleared {F' : List (Int × Int)} {D' : DataW Unit} {N' b : Nat} {v : Int} (h : LgI T w0 x g B q N D A c lost nd F hs td) (hg : (x.setCell ⟨g, 2 + b, none⟩ (.int .i64 v)).grownBy y (some B)) (hm : MapAt y B N' D') (hb : b < 8) (hv : ∀ k, k < 8 → cnt F' k = if k = b then v else cnt F k)
    (ht : ∀ y : Int, (Lit.int .i64 y).wf = true → Maps.has D' (.int .i64 y) = fhas F' y ∧ (fhas F' y = true → D'.atKey (.int .i64 y) (.lit (.int .i64 0)) = .lit (.int .i64 (fbit F' y)))) (hu : Uniq F') (hbt : ∀ p ∈ F', 0 ≤ p.2 ∧ p.2 ≤ 7 ∧ 1 ≤ p.1 ∧ p.1 ≤ 65535) (hN : (N' : Int) ≤ 1000000) (hl : (F'.length : Int) ≤ 1000000) :
    LgI T w0 y g B q N' D' A c lost nd F' hs td ∧ Chgd T x y := by
  have hk : ∀ k, k ≠ g → (x.setCell ⟨g, 2 + b, none⟩ (.int .i64 v)).heap[k]? = x.heap[k]? := fun k hk => Below.heap_setCell x ⟨g, 2 + b, none⟩ _ k hk
  have hs0 : (x.setCell ⟨g, 2 + b, none⟩ (.int .i64 v)).heap.size = x.heap.size := by simp
  have hy : ∀ k, k < x.heap.size → k ≠ g → k ≠ B → y.heap[k]? = x.heap[k]? := fun k h1 h2 h3 => (hg.block k (by rw [hs0]; exact h1) (fun e => h3 (by injection e))).trans (hk k h2)
  have hq := h.que.keep (w' := y) (hy q h.que.lt h.ne_q (fun e => h.ne_qB e.symm)) (fun b' hb' => hy b' (h.que.row.lt hb').2 (h.ne_A b' hb') (fun e => h.ne_AB (by rw [hb', e])))
  refine ⟨⟨?_, hm, ht, hq, h.los, hN, h.tds, h.tg, h.tB, h.tq, h.tA, h.low, fun k hk' => by have := h.tlt k hk'; have := hg.size; rw [hs0] at this; omega, hu, hbt, hl, (h.bel.setCell (p := ⟨g, 2 + b, none⟩) (h.low g h.tg) _).grown hg (by rw [hs0]; exact h.bel.size) (fun k e => by cases e; exact h.low B h.tB)⟩, (Chgd.set x h.tg _ _).trans (Chgd.grown hg (fun k e => by cases e; exact h.tB))⟩
  rw [hg.block g (by rw [hs0]; exact h.lt) (fun e => h.ne_B (by injection e with e; exact e.symm))]
  rw [heap_setCell_same x g (2 + b) _ _ (.int .i64 v) h.box]
  rw [hv 0 (by omega), hv 1 (by omega), hv 2 (by omega), hv 3 (by omega), hv 4 (by omega), hv 5 (by omega), hv 6 (by omega), hv 7 (by omega)]
  match b, hb with
  | 0, _ => rfl
  | 1, _ => rfl
  | 2, _ => rfl
  | 3, _ => rfl
  | 4, _ => rfl
  | 5, _ => rfl
  | 6, _ => rfl
  | 7, _ => rfl
theorem look_in {b code : Int} (h : LgI T w0 x g B q N D A c lost nd F hs td) (hy : (Lit.int .i64 code).wf = true) (hq : fhas F code = true) (hb : fbit F code = b) : (Instr.lookup 76 (.map (some B)) (.int .i64 code) false).run Try.prog x = .ok (.int .i64 b) x := by
  obtain ⟨c, h1, h2, _⟩ := h.map.lookup_int intK Try.underlying76 Try.underlying3 (zeroI x) (keyOf_int_mk Try.underlying3 hy)
  have h3 := (h.tie code hy).2 hq
  rw [h3] at h2
  simp only [DataW.lit.injEq, Lit.int.injEq, true_and] at h2
  rw [h1, ← h2, hb]
end
set_option maxRecDepth 100000 in
set_option maxHeartbeats 4000000 in
theorem clear_no (T : Nat → Prop) (w0 w : World) (g B q N c : Nat) (D : DataW Unit) (A : Option Addr) (lost nd td : Int) (F : List (Int × Int)) (hs : List Int) (code : Int) (h : LgI T w0 w g B q N D A c lost nd F hs td) (hy : (Lit.int .i64 code).wf = true) (hq : fhas F code = false) : Calls Try.prog 13 #[.pointer (some ⟨g, 0, none⟩), .int .i64 code] w fun e w' => e = .returned (.tuple #[.agg #[.int .i64 0, .bool false, .int .i64 0, .int .u8 0, .int .u8 0, .int .u8 0, .int .u8 0, .int .u8 0, .int .u8 0, .int .u8 0, .int .u8 0], .bool false]) ∧ Below w.heap.size w w' := by
  have hba : Below w.heap.size w (w.alloc (.cells #[.int .i64 0, .bool false, .int .i64 0, .int .u8 0, .int .u8 0, .int .u8 0, .int .u8 0, .int .u8 0, .int .u8 0, .int .u8 0, .int .u8 0] 27)) := (Below.refl _ _).alloc (Nat.le_refl _) _
  have HF := Lib.hid (frame_new w 0 0 false (fun _ => 0))
  have HB := Lib.hid hba
  have HH := Lib.hid (has_in T w0 _ g B q N c D A lost nd td code F hs (h.below hba) hy)
  rw [hq] at HH
  clear h hba hq hy
  go_enter Try.func13, Try.ntmps13
  go_wp2_with (first
    | (go_at_call 15; refine (HH.out).mono ?_; rintro e w1 ⟨rfl, rfl⟩)
    | (refine wpList_store_row rfl _ (.tmp 4) (.tmp 10) rfl w.heap.size _ rfl rfl _ _ HF.out info_frame rfl (one_frame 0 0 false (fun _ => 0)) ?_))
  all_goals exact bodyPost_ret (results_cell_tmp_row rfl _ _ w.heap.size _ _ _ _ rfl (HF.out.row 0 0 false (fun _ => 0)) Try.underlying27 rfl info_frame) rfl ⟨rfl, below_setRow HB.out (Nat.le_refl _) _⟩
end Go.Proofs.Ytncnlbokipieaaa
