/- emcy: Raise takes a fault. -/
import Derived.Test.YtncnlbokipieaaaEg
import Derived.Test.YtncnlbokipieaaaEKDRl
import Derived.Deep.CutBlock
namespace Go.Proofs.Ytncnlbokipieaaa
open Go.RowKit Go.Maps
set_option linter.unusedSimpArgs false
set_option linter.unusedVariables false

set_option maxRecDepth 100000 in
set_option maxHeartbeats 4000000 in
theorem raise_ok (T : Nat → Prop) (w0 w : World) (g B q N c : Nat) (D : DataW Unit) (A : Option Addr) (lost nd td : Int) (F : List (Int × Int)) (hs : List Int) (code : Int) (b : Nat) (Ai : Option Addr) (m ci : Nat) (li : List Int) (h : LgI T w0 w g B q N D A c lost nd F hs td) (hn : isNI nd = true) (hc : isCd code = true) (hz : ¬ code = 0) (hq : fhas F code = false) (hb : b < 8) (ht : td < 1000000) (hN : (N : Int) < 1000000) (hFl : (F.length : Int) < 1000000) (hi : Byt w w0.heap.size Ai m ci li) :
    Calls Try.prog 12 #[.pointer (some ⟨g, 0, none⟩), .int .i64 code, .int .i64 (b : Int), .slice Ai m ci] w fun e w' => e = .returned (.tuple #[.agg #[.int .i64 (128 + nd), .bool false, .int .i64 8, .int .u8 (code % 256), .int .u8 (code / 256), .int .u8 (rgN (F ++ [(code, (b : Int))]) 8), .int .u8 ((infE m li) 0), .int .u8 ((infE m li) 1), .int .u8 ((infE m li) 2), .int .u8 ((infE m li) 3), .int .u8 ((infE m li) 4)], .bool true]) ∧ RaiseP T w0 w g B q N c D A lost nd td F hs code b m li w' := by
  have hba : Below w.heap.size w (w.alloc (.cells #[.int .i64 0, .bool false, .int .i64 0, .int .u8 0, .int .u8 0, .int .u8 0, .int .u8 0, .int .u8 0, .int .u8 0, .int .u8 0, .int .u8 0] 27)) := (Below.refl _ _).alloc (Nat.le_refl _) _
  have hy := wf_code hc
  have hm := h.below hba
  have HH := Lib.hid (has_in T w0 _ g B q N c D A lost nd td code F hs hm hy)
  rw [hq] at HH
  have HC := Lib.hid (fun w => ecode_any code w)
  rw [hc] at HC
  have HM := Lib.hid hm
  have HF := Lib.hid (frame_new w 0 0 false (fun _ => 0))
  have HB := Lib.hid hba
  have HI := Lib.hid (Byt.below hi (hba.mono h.bel.size))
  have tz : (code == 0) = false := by simpa using hz
  obtain ⟨bit, hbit⟩ : ∃ bit : Int, (b : Int) = bit := ⟨_, rfl⟩
  have hb0 : ¬ bit < 0 := by omega
  have hb1 : ¬ 8 ≤ bit := by omega
  have HKY := Lib.hid (keyOf_int_mk Try.underlying3 hy)
  have HWB := Lib.hid (show (Lit.int .i64 (b : Int)).wf = true from WalkArith.wf_i64 (by omega))
  have HT := Lib.hid (tie_put (b := (b : Int)) h.map.isMap hy hq h.tie)
  have HU := Lib.hid (uniq_app (b := (b : Int)) h.uni hq)
  have hci := isC_in hc
  have HBT := Lib.hid (show ∀ p ∈ (F ++ [(code, (b : Int))]), 0 ≤ p.2 ∧ p.2 ≤ 7 ∧ 1 ≤ p.1 ∧ p.1 ≤ 65535 from fun p hp => by
    rcases List.mem_append.1 hp with h1 | h1
    · exact h.bts p h1
    · simp at h1; subst h1; simp; omega)
  have HFL := Lib.hid (show (((F ++ [(code, (b : Int))])).length : Int) ≤ 1000000 by simp; omega)
  have hcb := cnt_nonneg F b
  have HE1 := Lib.hid (show IntKind.i64.wrap (cnt F b + 1) = cnt F b + 1 from IntWalk.i64_in _ (by omega))
  have HLW := Lib.hid h.bel.size
  have HTL := Lib.hid (show ∀ k, T k → k < w.heap.size from h.tlt)
  have HCD := Lib.hid hc
  have hmq := map_nil B
  have HNN := Lib.hid (show ∀ z : Int, z = 1000000 → ((N + 1 : Nat) : Int) ≤ z from fun z hz => by push_cast; omega)
  clear h hba hm hy hc hz hq hi hci hcb hN hFl
  have HBI := Lib.hid hbit
  have HB8 := Lib.hid hb
  clear hb
  obtain ⟨c0, c1, c2, c3, c4, c5, c6, c7, c8, c9, c10, c11⟩ := HM.out.cells
  rw [hbit]
  clear hbit
  go_enter Try.func12, Try.ntmps12
  go_upto_region 5 with (first
    | (go_at_call 15; refine (HH.out).mono ?_; rintro e w1 ⟨rfl, rfl⟩)
    | (go_at_call 26; refine (HC.out _).mono ?_; rintro e w2 ⟨rfl, hb2'⟩; have HM2 := Lib.hid (HM.out.below hb2'); have HF2 := Lib.hid (HF.out.below hb2' HF.out.lt); have HB2 := Lib.hid (HB.out.trans (hb2'.mono HB.out.size)); have HI2 := Lib.hid (HI.out.below (hb2'.mono (Nat.le_trans HLW.out HB.out.size))); clear hb2' c0 c1 c2 c3 c4 c5 c6 c7 c8 c9 c10 c11))
  clear HM HF HB HI HH HC hb0 hb1
  have hbit := HBI.out
  subst hbit
  have hb := HB8.out
  have hb2 : (b : Int) < 8 := by omega
  obtain ⟨c0, c1, c2, c3, c4, c5, c6, c7, c8, c9, c10, c11⟩ := HM2.out.cells
  go_upto_region 6 with (at_mapUpdate; refine wpList_mapUpdate_own _ rfl _ _ _ 76 rfl 3 3 intK Try.underlying76 _ B N D rfl HM2.out.map (by have := HNN.out _ rfl; unfold maxLen; omega) _ _ _ rfl rfl HKY.out _ [] (plainElem_int Try.underlying3 HWB.out) ?_; intro w3 hown3 hgr3)
  have HTN := Lib.hid (fun (y : World) (hy : w3.grownBy y none ∨ True) => hown3)
  have HO3 := Lib.hid hown3
  have HG3 := Lib.hid hgr3
  have HK3 := Lib.hid (HM2.out.count hb)
  have hbx3 : w3.heap[g]? = w2.heap[g]? := hgr3.block g HM2.out.lt (fun e => HM2.out.ne_B (by injection e with e; exact e.symm))
  have HC3 := Lib.hid (show w3.cell? ⟨g, 2 + b, none⟩ = some (.int .i64 (cnt F b)) from (World.cell?_of_block (a := ⟨g, 2 + b, none⟩) hbx3).trans (HM2.out.count hb))
  have HZ3 := Lib.hid (show ∀ i, w3.frozen? ⟨g, i, none⟩ = false from fun i => (World.frozen?_of_block (a := ⟨g, i, none⟩) hbx3).trans (HM2.out.frozen i))
  clear HTN HK3 hown3 hgr3 hbx3 c0 c1 c2 c3 c4 c5 c6 c7 c8 c9 c10 c11
  have e1 := HE1.out
  refine wp_region_last (fun x => x.cell? ⟨g, 2 + b, none⟩ = some (.int .i64 (cnt F b))) 10 (by kernel_rfl) HC3.out (fun hHeld => ?_)
  have HO4 : Hid (MapAt w3.drew B (N + 1) (D.put (.int .i64 code) (.lit (.int .i64 (b : Int))))) := Lib.hid (mapAt_keep HO3.out rfl)
  have HG4 := Lib.hid (grown_then HG3.out (grown_of_below (kD w3)))
  have HZ4 : Hid (∀ i, w3.drew.frozen? ⟨g, i, none⟩ = false) := HZ3
  have HC4 : Hid (w3.drew.cell? ⟨g, 2 + b, none⟩ = some (.int .i64 (cnt F b))) := HC3
  clear HO3 HG3 HZ3 HC3
  generalize w3.drew = w4 at *
  refine wpAnyL_take (i := 0) (v := ?_) rfl (by kernel_rfl) (by kernel_rfl) (by kernel_rfl) (by kernel_rfl) (by kernel_rfl) (fun _ _ _ h => h) (Or.inl ⟨by rfl, ?_⟩) (by assumption) ?_
  rotate_left
  · intro wq hSw; (try dsimp only at hSw); first | (go_simp; done) | (go_simp; with_reducible rfl) | with_reducible rfl
  try simp only [Act.put, List.setIfInBounds_toArray, List.set_cons_zero, List.set_cons_succ, List.getElem_toArray, List.getElem_cons_zero, List.getElem_cons_succ]
  refine wpAnyL_take (i := 1) (v := ?_) rfl (by kernel_rfl) (by kernel_rfl) (by kernel_rfl) (by kernel_rfl) (by kernel_rfl) (fun _ _ _ h => h) (Or.inl ⟨by rfl, ?_⟩) (by assumption) ?_
  rotate_left
  · intro wq hSw; (try dsimp only at hSw); first | (go_simp; done) | (go_simp; with_reducible rfl) | with_reducible rfl
  try simp only [Act.put, List.setIfInBounds_toArray, List.set_cons_zero, List.set_cons_succ, List.getElem_toArray, List.getElem_cons_zero, List.getElem_cons_succ]
  refine wpAnyL_take (i := 2) (v := ?_) rfl (by kernel_rfl) (by kernel_rfl) (by kernel_rfl) (by kernel_rfl) (by kernel_rfl) (fun _ _ _ h => h) (Or.inl ⟨by rfl, ?_⟩) (by assumption) ?_
  rotate_left
  · intro wq hSw; (try dsimp only at hSw); first | (go_simp; done) | (go_simp; with_reducible rfl) | with_reducible rfl
  try simp only [Act.put, List.setIfInBounds_toArray, List.set_cons_zero, List.set_cons_succ, List.getElem_toArray, List.getElem_cons_zero, List.getElem_cons_succ]
  refine wpAnyL_take (i := 3) (v := ?_) rfl (by kernel_rfl) (by kernel_rfl) (by kernel_rfl) (by kernel_rfl) (by kernel_rfl) (fun _ _ _ h => h) (Or.inl ⟨by rfl, ?_⟩) (by assumption) ?_
  rotate_left
  · intro wq hSw; (try dsimp only at hSw); first | (go_simp; done) | (go_simp; with_reducible rfl) | with_reducible rfl
  try simp only [Act.put, List.setIfInBounds_toArray, List.set_cons_zero, List.set_cons_succ, List.getElem_toArray, List.getElem_cons_zero, List.getElem_cons_succ]
  refine wpAnyL_take (i := 4) (v := .pointer (some ⟨g, 2 + b, none⟩)) rfl (by kernel_rfl) (by kernel_rfl) (by kernel_rfl) (by kernel_rfl) (by kernel_rfl) (fun _ _ _ h => h) (Or.inl ⟨by rfl, ?_⟩) (by assumption) ?_
  · intro wq hSw; (try dsimp only at hSw); first | (go_simp; done) | (go_simp; with_reducible rfl) | with_reducible rfl
  try simp only [Act.put, List.setIfInBounds_toArray, List.set_cons_zero, List.set_cons_succ, List.getElem_toArray, List.getElem_cons_zero, List.getElem_cons_succ]
  refine wpAnyL_take (i := 5) (v := .int .i64 (cnt F b)) rfl (by kernel_rfl) (by kernel_rfl) (by kernel_rfl) (by kernel_rfl) (by kernel_rfl) (fun _ _ _ h => h) (Or.inl ⟨by rfl, ?_⟩) (by assumption) ?_
  · intro wq hSw; (try dsimp only at hSw); first | (go_simp; done) | (go_simp; with_reducible rfl) | with_reducible rfl
  try simp only [Act.put, List.setIfInBounds_toArray, List.set_cons_zero, List.set_cons_succ, List.getElem_toArray, List.getElem_cons_zero, List.getElem_cons_succ]
  refine wpAnyL_take (i := 6) (v := .int .i64 (cnt F b + 1)) rfl (by kernel_rfl) (by kernel_rfl) (by kernel_rfl) (by kernel_rfl) (by kernel_rfl) (fun _ _ _ h => h) (Or.inl ⟨by rfl, ?_⟩) (by assumption) ?_
  · intro wq hSw; (try dsimp only at hSw); first | (go_simp; done) | (go_simp; with_reducible rfl) | with_reducible rfl
  try simp only [Act.put, List.setIfInBounds_toArray, List.set_cons_zero, List.set_cons_succ, List.getElem_toArray, List.getElem_cons_zero, List.getElem_cons_succ]
  refine wpAnyL_take (i := 7) (v := ?_) rfl (by kernel_rfl) (by kernel_rfl) (by kernel_rfl) (by kernel_rfl) (by kernel_rfl) (fun _ _ _ h => h) (Or.inl ⟨by rfl, ?_⟩) (by assumption) ?_
  rotate_left
  · intro wq hSw; (try dsimp only at hSw); first | (go_simp; done) | (go_simp; with_reducible rfl) | with_reducible rfl
  try simp only [Act.put, List.setIfInBounds_toArray, List.set_cons_zero, List.set_cons_succ, List.getElem_toArray, List.getElem_cons_zero, List.getElem_cons_succ]
  refine wpAnyL_take (i := 8) (v := ?_) rfl (by kernel_rfl) (by kernel_rfl) (by kernel_rfl) (by kernel_rfl) (by kernel_rfl) (fun _ _ _ h => h) (Or.inl ⟨by rfl, ?_⟩) (by assumption) ?_
  rotate_left
  · intro wq hSw; (try dsimp only at hSw); first | (go_simp; done) | (go_simp; with_reducible rfl) | with_reducible rfl
  try simp only [Act.put, List.setIfInBounds_toArray, List.set_cons_zero, List.set_cons_succ, List.getElem_toArray, List.getElem_cons_zero, List.getElem_cons_succ]
  refine wpAnyL_take (i := 9) (v := .pointer (some ⟨g, 2 + b, none⟩)) rfl (by kernel_rfl) (by kernel_rfl) (by kernel_rfl) (by kernel_rfl) (by kernel_rfl) (fun _ _ _ h => h) (Or.inl ⟨by rfl, ?_⟩) (by assumption) ?_
  · intro wq hSw; (try dsimp only at hSw); first | (go_simp; done) | (go_simp; with_reducible rfl) | with_reducible rfl
  try simp only [Act.put, List.setIfInBounds_toArray, List.set_cons_zero, List.set_cons_succ, List.getElem_toArray, List.getElem_cons_zero, List.getElem_cons_succ]
  have hc4 := HC4.out
  have hz4 := HZ4.out (2 + b)
  obtain ⟨hm5, hch5⟩ := HM2.out.turned (F' := (F ++ [(code, (b : Int))])) (v := cnt F b + 1) HG4.out HO4.out hb (cnt_put F code b) HT.out HU.out HBT.out (HNN.out _ rfl) HFL.out
  have HM5 := Lib.hid hm5
  have HCH5 := Lib.hid ((Chgd.of_below HB2.out).trans hch5)
  have HF5 := Lib.hid (show FrAt (w4.setCell ⟨g, 2 + b, none⟩ (.int .i64 (cnt F b + 1))) w.heap.size 0 false 0 (fun _ => 0) from (hch5.block _ HF2.out.lt (fun e => by have := HTL.out _ e; omega)).trans HF2.out)
  have HI5 := Lib.hid (HI2.out.below (hch5.low HM2.out.low HM2.out.bel.size))
  clear hm5 hch5 HM2 HF2 HB2 HI2 HO4 HG4 HT HU HBT HFL HNN
  refine wpAnyL_ready (rs := [10]) (by kernel_rfl) (by simp) ?_
  refine AllReadyL.last rfl (fun K hK => ?_)
  go_simp
  refine hK.out _ _ ?_
  clear hK K hc4 hz4 HZ4 HC4
  refine wpAnyL_done (by kernel_rfl) ?_ _
  clear hHeld
  go_simp
  generalize w4.setCell ⟨g, 2 + b, none⟩ (.int .i64 (cnt F b + 1)) = w5 at *
  go_upto_region 8 with (go_at_call 36; refine (rem_in T w0 _ g B q (N + 1) c (D.put (.int .i64 code) (.lit (.int .i64 (b : Int)))) A lost nd td (F ++ [(code, (b : Int))]) hs code HM5.out).mono ?_; rintro e w6 ⟨rfl, A6, p6, T6, hm6, hc6, ht6⟩; have HM6 := Lib.hid hm6; have HCH6 := Lib.hid (HCH5.out.trans hc6); have HTT6 := Lib.hid (show ∀ k, T6 k → T k ∨ w5.heap.size ≤ k from ht6); have HF6 := Lib.hid (show FrAt w6 w.heap.size 0 false 0 (fun _ => 0) from (hc6.block _ HF5.out.lt (fun e => by have := HTL.out _ e; omega)).trans HF5.out); have HI6 := Lib.hid (HI5.out.below (hc6.low HM5.out.low HM5.out.bel.size)); have HL6 := Lib.hid (show w.heap.size < w5.heap.size from HF5.out.lt); clear hm6 hc6 ht6)
  clear HM5 HCH5 HF5 HI5
  have hle6 : w0.heap.size ≤ w6.heap.size := Nat.le_trans HLW.out HCH6.out.size
  have HLL6 := Lib.hid hle6
  clear hle6
  go_upto_region 9 with fail
  refine (tell_in T6 w0 _ g B q (N + 1) p6 (D.put (.int .i64 code) (.lit (.int .i64 (b : Int)))) A6 lost nd td (F ++ [(code, (b : Int))]) (hsE hs code) code Ai m ci li HM6.out hn HCD.out ht (HI6.out.more HLL6.out)).mono ?_
  rintro e w7 ⟨rfl, hm7, hc7⟩
  have HM7 := Lib.hid hm7
  have HCH7 := Lib.hid (HCH6.out.after2 hc7 (fun k hk => (HTT6.out k hk).imp id fun h => Nat.le_trans (Nat.le_of_lt HL6.out) h))
  have HF7 := Lib.hid (show FrAt w7 w.heap.size 0 false 0 (fun _ => 0) from (hc7.block _ HF6.out.lt (fun e => (HTT6.out _ e).elim (fun h => absurd (HTL.out _ h) (Nat.lt_irrefl _)) (fun h => absurd (Nat.lt_of_lt_of_le HL6.out h) (Nat.lt_irrefl _)))).trans HF6.out)
  clear hm7 hc7
  go_wp2_with (first
    | (refine wpList_store_row rfl _ (.tmp 8) (.tmp 63) rfl w.heap.size _ rfl rfl _ _ HF7.out info_frame rfl (one_frame (128 + nd) 8 false (dOf [code % 256, code / 256, (rgN (F ++ [(code, (b : Int))]) 8), (infE m li) 0, (infE m li) 1, (infE m li) 2, (infE m li) 3, (infE m li) 4])) ?_))
  refine bodyPost_ret (results_cell_tmp_row rfl _ _ w.heap.size _ _ _ _ rfl (HF7.out.row (128 + nd) 8 false (dOf [code % 256, code / 256, (rgN (F ++ [(code, (b : Int))]) 8), (infE m li) 0, (infE m li) 1, (infE m li) 2, (infE m li) 3, (infE m li) 4])) Try.underlying27 rfl info_frame) rfl ⟨rfl, A6, p6, T6, HM7.out.rowf HF7.out _ HLW.out, HCH7.out.rowf (Nat.le_refl _) _, fun k hk => (HTT6.out k hk).imp id fun h => Nat.le_trans (Nat.le_of_lt HL6.out) h⟩
end Go.Proofs.Ytncnlbokipieaaa
