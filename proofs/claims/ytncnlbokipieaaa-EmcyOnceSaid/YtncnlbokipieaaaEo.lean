/- emcy: Clear makes a fault none. -/
import Derived.Test.YtncnlbokipieaaaEn
import Derived.Deep.CutBlock
namespace Go.Proofs.Ytncnlbokipieaaa
open Go.RowKit Go.Maps
set_option linter.unusedSimpArgs false
set_option linter.unusedVariables false

section
variable {T : Nat → Prop} {w0 x : World} {g B q N c : Nat} {D : DataW Unit} {A : Option Addr} {lost nd td : Int} {F : List (Int × Int)} {hs : List Int}
theorem LgI.cell1_set (h : LgI T w0 x g B q N D A c lost nd F hs td) {b : Nat} (hb : b < 8) (v : Value) : (x.setCell ⟨g, 2 + b, none⟩ v).cell? ⟨g, 1, none⟩ = some (.map (some B)) := by
  rw [cell_of_row _ _ _ _ _ _ (heap_setCell_same x g (2 + b) _ _ v h.box)]
  match b, hb with
  | 0, _ => rfl
  | 1, _ => rfl
  | 2, _ => rfl
  | 3, _ => rfl
  | 4, _ => rfl
  | 5, _ => rfl
  | 6, _ => rfl
  | 7, _ => rfl
end
set_option maxRecDepth 100000 in
set_option maxHeartbeats 4000000 in
theorem clear_ok (T : Nat → Prop) (w0 w : World) (g B q N c : Nat) (D : DataW Unit) (A : Option Addr) (lost nd td : Int) (F : List (Int × Int)) (hs : List Int) (code : Int) (h : LgI T w0 w g B q N D A c lost nd F hs td) (hn : isNI nd = true) (hy : (Lit.int .i64 code).wf = true) (hq : fhas F code = true) (ht : td < 1000000) : Calls Try.prog 13 #[.pointer (some ⟨g, 0, none⟩), .int .i64 code] w fun e w' => e = .returned (.tuple #[.agg #[.int .i64 (128 + nd), .bool false, .int .i64 8, .int .u8 0, .int .u8 0, .int .u8 (rgN (fcut F code) 8), .int .u8 0, .int .u8 0, .int .u8 0, .int .u8 0, .int .u8 0], .bool true]) ∧ LgI T w0 w' g B q N (D.del (.int .i64 code)) A c lost nd (fcut F code) hs (td + 1) ∧ Chgd T w w' := by
  have hba : Below w.heap.size w (w.alloc (.cells #[.int .i64 0, .bool false, .int .i64 0, .int .u8 0, .int .u8 0, .int .u8 0, .int .u8 0, .int .u8 0, .int .u8 0, .int .u8 0, .int .u8 0] 27)) := (Below.refl _ _).alloc (Nat.le_refl _) _
  have hm := h.below hba
  have HH := Lib.hid (has_in T w0 _ g B q N c D A lost nd td code F hs hm hy)
  rw [hq] at HH
  have HM := Lib.hid hm
  have HF := Lib.hid (frame_new w 0 0 false (fun _ => 0))
  have HB := Lib.hid hba
  have hmem := fbit_mem hq
  have hbt := h.bts _ hmem
  obtain ⟨b, hbit⟩ : ∃ b : Nat, fbit F code = (b : Int) := ⟨(fbit F code).toNat, by have : 0 ≤ fbit F code := hbt.1; omega⟩
  have hb : b < 8 := by have : fbit F code ≤ 7 := hbt.2.1; omega
  have hcb := cnt_nonneg F b
  have hfl := h.fln
  have HE1 := Lib.hid (show IntKind.i64.wrap (cnt F b - 1) = cnt F b - 1 from IntWalk.i64_in _ (by omega))
  have HCV := Lib.hid (show ∀ k, k < 8 → cnt (fcut F code) k = if k = b then cnt F b - 1 else cnt F k from fun k _ => by
    rw [cnt_cut h.uni hq k, hbit]
    by_cases e : k = b
    · subst e; simp
    · rw [if_neg e, if_neg (by omega)]; omega)
  have HT := Lib.hid (tie_del (code := code) h.tie)
  have HU := Lib.hid (uniq_cut code h.uni)
  have HBT := Lib.hid (show ∀ p ∈ (fcut F code), 0 ≤ p.2 ∧ p.2 ≤ 7 ∧ 1 ≤ p.1 ∧ p.1 ≤ 65535 from fun p hp => h.bts p (List.mem_filter.1 hp).1)
  have HNN := Lib.hid (show ∀ z : Int, z = 1000000 → (N : Int) ≤ z from fun z hz => by rw [hz]; exact h.ntd)
  have HFL := Lib.hid (show ∀ z : Int, z = 1000000 → (((fcut F code)).length : Int) ≤ z from fun z hz => by have := List.length_filter_le (fun p : Int × Int => !(p.1 == code)) F; unfold fcut; omega)
  have HKY := Lib.hid (keyOf_int_mk Try.underlying3 hy)
  have HLK := Lib.hid (fun x (hx : LgI T w0 x g B q N D A c lost nd F hs td) => look_in hx hy hq hbit)
  have HLW := Lib.hid h.bel.size
  have HTL := Lib.hid (show ∀ k, T k → k < w.heap.size from h.tlt)
  have HTD := Lib.hid (show ∀ z : Int, z = 1000000 → td < z from fun z hz => by rw [hz]; exact ht)
  have HB8 := Lib.hid hb
  clear h hba hm hq hy hmem hbt hbit hb hcb hfl ht
  go_enter Try.func13, Try.ntmps13
  go_upto_region 3 with (go_at_call 15; refine (HH.out).mono ?_; rintro e w1 ⟨rfl, rfl⟩)
  clear HH
  generalize (w.alloc (.cells #[.int .i64 0, .bool false, .int .i64 0, .int .u8 0, .int .u8 0, .int .u8 0, .int .u8 0, .int .u8 0, .int .u8 0, .int .u8 0, .int .u8 0] 27)) = x0 at *
  have hb := HB8.out
  have hb2 : (b : Int) < 8 := by omega
  have e1 := HE1.out
  refine wp_region_last (fun x => x.cell? ⟨g, 1, none⟩ = some (.map (some B)) ∧ x.cell? ⟨g, 2 + b, none⟩ = some (.int .i64 (cnt F b)) ∧ (Instr.lookup 76 (.map (some B)) (.int .i64 code) false).run Try.prog x = .ok (.int .i64 (b : Int)) x) 15 (by kernel_rfl) ⟨HM.out.cells.2.1, HM.out.count hb, HLK.out _ (HM.out.below (kD x0))⟩ (fun hHeld => ?_)
  have HM1 := Lib.hid (HM.out.below (kD x0))
  have HF1 : Hid (FrAt x0.drew w.heap.size 0 false 0 (fun _ => 0)) := HF
  have HB1 := Lib.hid HB.out.drew
  clear HM HF HB HLK
  generalize x0.drew = x1 at *
  refine wpAnyL_take (i := 0) (v := ?_) rfl (by kernel_rfl) (by kernel_rfl) (by kernel_rfl) (by kernel_rfl) (by kernel_rfl) (fun _ _ _ h => h) (Or.inl ⟨by rfl, ?_⟩) (by assumption) ?_
  rotate_left
  · intro wq hSw; obtain ⟨hsa, hsb, hsc⟩ := hSw; first | (go_simp; done) | (go_simp; with_reducible rfl) | with_reducible rfl
  try simp only [Act.put, List.setIfInBounds_toArray, List.set_cons_zero, List.set_cons_succ, List.getElem_toArray, List.getElem_cons_zero, List.getElem_cons_succ]
  refine wpAnyL_take (i := 1) (v := ?_) rfl (by kernel_rfl) (by kernel_rfl) (by kernel_rfl) (by kernel_rfl) (by kernel_rfl) (fun _ _ _ h => h) (Or.inl ⟨by rfl, ?_⟩) (by assumption) ?_
  rotate_left
  · intro wq hSw; obtain ⟨hsa, hsb, hsc⟩ := hSw; first | (go_simp; done) | (go_simp; with_reducible rfl) | with_reducible rfl
  try simp only [Act.put, List.setIfInBounds_toArray, List.set_cons_zero, List.set_cons_succ, List.getElem_toArray, List.getElem_cons_zero, List.getElem_cons_succ]
  refine wpAnyL_take (i := 2) (v := ?_) rfl (by kernel_rfl) (by kernel_rfl) (by kernel_rfl) (by kernel_rfl) (by kernel_rfl) (fun _ _ _ h => h) (Or.inl ⟨by rfl, ?_⟩) (by assumption) ?_
  rotate_left
  · intro wq hSw; obtain ⟨hsa, hsb, hsc⟩ := hSw; first | (go_simp; done) | (go_simp; with_reducible rfl) | with_reducible rfl
  try simp only [Act.put, List.setIfInBounds_toArray, List.set_cons_zero, List.set_cons_succ, List.getElem_toArray, List.getElem_cons_zero, List.getElem_cons_succ]
  refine wpAnyL_take (i := 3) (v := ?_) rfl (by kernel_rfl) (by kernel_rfl) (by kernel_rfl) (by kernel_rfl) (by kernel_rfl) (fun _ _ _ h => h) (Or.inl ⟨by rfl, ?_⟩) (by assumption) ?_
  rotate_left
  · intro wq hSw; obtain ⟨hsa, hsb, hsc⟩ := hSw; first | (go_simp; done) | (go_simp; with_reducible rfl) | with_reducible rfl
  try simp only [Act.put, List.setIfInBounds_toArray, List.set_cons_zero, List.set_cons_succ, List.getElem_toArray, List.getElem_cons_zero, List.getElem_cons_succ]
  refine wpAnyL_take (i := 4) (v := .map (some B)) rfl (by kernel_rfl) (by kernel_rfl) (by kernel_rfl) (by kernel_rfl) (by kernel_rfl) (fun _ _ _ h => h) (Or.inl ⟨by rfl, ?_⟩) (by assumption) ?_
  · intro wq hSw; obtain ⟨hsa, hsb, hsc⟩ := hSw; first | (go_simp; done) | (go_simp; with_reducible rfl) | with_reducible rfl
  try simp only [Act.put, List.setIfInBounds_toArray, List.set_cons_zero, List.set_cons_succ, List.getElem_toArray, List.getElem_cons_zero, List.getElem_cons_succ]
  refine wpAnyL_take (i := 5) (v := ?_) rfl (by kernel_rfl) (by kernel_rfl) (by kernel_rfl) (by kernel_rfl) (by kernel_rfl) (fun _ _ _ h => h) (Or.inl ⟨by rfl, ?_⟩) (by assumption) ?_
  rotate_left
  · intro wq hSw; obtain ⟨hsa, hsb, hsc⟩ := hSw; first | (go_simp; done) | (go_simp; with_reducible rfl) | with_reducible rfl
  try simp only [Act.put, List.setIfInBounds_toArray, List.set_cons_zero, List.set_cons_succ, List.getElem_toArray, List.getElem_cons_zero, List.getElem_cons_succ]
  refine wpAnyL_take (i := 6) (v := .int .i64 (b : Int)) rfl (by kernel_rfl) (by kernel_rfl) (by kernel_rfl) (by kernel_rfl) (by kernel_rfl) (fun _ _ _ h => h) (Or.inl ⟨by rfl, ?_⟩) (by assumption) ?_
  · intro wq hSw; obtain ⟨hsa, hsb, hsc⟩ := hSw; first | (go_simp; done) | (go_simp; with_reducible rfl) | with_reducible rfl
  try simp only [Act.put, List.setIfInBounds_toArray, List.set_cons_zero, List.set_cons_succ, List.getElem_toArray, List.getElem_cons_zero, List.getElem_cons_succ]
  refine wpAnyL_take (i := 7) (v := ?_) rfl (by kernel_rfl) (by kernel_rfl) (by kernel_rfl) (by kernel_rfl) (by kernel_rfl) (fun _ _ _ h => h) (Or.inl ⟨by rfl, ?_⟩) (by assumption) ?_
  rotate_left
  · intro wq hSw; obtain ⟨hsa, hsb, hsc⟩ := hSw; first | (go_simp; done) | (go_simp; with_reducible rfl) | with_reducible rfl
  try simp only [Act.put, List.setIfInBounds_toArray, List.set_cons_zero, List.set_cons_succ, List.getElem_toArray, List.getElem_cons_zero, List.getElem_cons_succ]
  refine wpAnyL_take (i := 8) (v := ?_) rfl (by kernel_rfl) (by kernel_rfl) (by kernel_rfl) (by kernel_rfl) (by kernel_rfl) (fun _ _ _ h => h) (Or.inl ⟨by rfl, ?_⟩) (by assumption) ?_
  rotate_left
  · intro wq hSw; obtain ⟨hsa, hsb, hsc⟩ := hSw; first | (go_simp; done) | (go_simp; with_reducible rfl) | with_reducible rfl
  try simp only [Act.put, List.setIfInBounds_toArray, List.set_cons_zero, List.set_cons_succ, List.getElem_toArray, List.getElem_cons_zero, List.getElem_cons_succ]
  refine wpAnyL_take (i := 9) (v := .pointer (some ⟨g, 2 + b, none⟩)) rfl (by kernel_rfl) (by kernel_rfl) (by kernel_rfl) (by kernel_rfl) (by kernel_rfl) (fun _ _ _ h => h) (Or.inl ⟨by rfl, ?_⟩) (by assumption) ?_
  · intro wq hSw; obtain ⟨hsa, hsb, hsc⟩ := hSw; first | (go_simp; done) | (go_simp; with_reducible rfl) | with_reducible rfl
  try simp only [Act.put, List.setIfInBounds_toArray, List.set_cons_zero, List.set_cons_succ, List.getElem_toArray, List.getElem_cons_zero, List.getElem_cons_succ]
  refine wpAnyL_take (i := 10) (v := .int .i64 (cnt F b)) rfl (by kernel_rfl) (by kernel_rfl) (by kernel_rfl) (by kernel_rfl) (by kernel_rfl) (fun _ _ _ h => h) (Or.inl ⟨by rfl, ?_⟩) (by assumption) ?_
  · intro wq hSw; obtain ⟨hsa, hsb, hsc⟩ := hSw; first | (go_simp; done) | (go_simp; with_reducible rfl) | with_reducible rfl
  try simp only [Act.put, List.setIfInBounds_toArray, List.set_cons_zero, List.set_cons_succ, List.getElem_toArray, List.getElem_cons_zero, List.getElem_cons_succ]
  refine wpAnyL_take (i := 11) (v := .int .i64 (cnt F b - 1)) rfl (by kernel_rfl) (by kernel_rfl) (by kernel_rfl) (by kernel_rfl) (by kernel_rfl) (fun _ _ _ h => h) (Or.inl ⟨by rfl, ?_⟩) (by assumption) ?_
  · intro wq hSw; obtain ⟨hsa, hsb, hsc⟩ := hSw; first | (go_simp; done) | (go_simp; with_reducible rfl) | with_reducible rfl
  try simp only [Act.put, List.setIfInBounds_toArray, List.set_cons_zero, List.set_cons_succ, List.getElem_toArray, List.getElem_cons_zero, List.getElem_cons_succ]
  refine wpAnyL_take (i := 12) (v := ?_) rfl (by kernel_rfl) (by kernel_rfl) (by kernel_rfl) (by kernel_rfl) (by kernel_rfl) (fun _ _ _ h => h) (Or.inl ⟨by rfl, ?_⟩) (by assumption) ?_
  rotate_left
  · intro wq hSw; obtain ⟨hsa, hsb, hsc⟩ := hSw; first | (go_simp; done) | (go_simp; with_reducible rfl) | with_reducible rfl
  try simp only [Act.put, List.setIfInBounds_toArray, List.set_cons_zero, List.set_cons_succ, List.getElem_toArray, List.getElem_cons_zero, List.getElem_cons_succ]
  refine wpAnyL_take (i := 13) (v := ?_) rfl (by kernel_rfl) (by kernel_rfl) (by kernel_rfl) (by kernel_rfl) (by kernel_rfl) (fun _ _ _ h => h) (Or.inl ⟨by rfl, ?_⟩) (by assumption) ?_
  rotate_left
  · intro wq hSw; obtain ⟨hsa, hsb, hsc⟩ := hSw; first | (go_simp; done) | (go_simp; with_reducible rfl) | with_reducible rfl
  try simp only [Act.put, List.setIfInBounds_toArray, List.set_cons_zero, List.set_cons_succ, List.getElem_toArray, List.getElem_cons_zero, List.getElem_cons_succ]
  refine wpAnyL_take (i := 14) (v := .pointer (some ⟨g, 2 + b, none⟩)) rfl (by kernel_rfl) (by kernel_rfl) (by kernel_rfl) (by kernel_rfl) (by kernel_rfl) (fun _ _ _ h => h) (Or.inl ⟨by rfl, ?_⟩) (by assumption) ?_
  · intro wq hSw; obtain ⟨hsa, hsb, hsc⟩ := hSw; first | (go_simp; done) | (go_simp; with_reducible rfl) | with_reducible rfl
  try simp only [Act.put, List.setIfInBounds_toArray, List.set_cons_zero, List.set_cons_succ, List.getElem_toArray, List.getElem_cons_zero, List.getElem_cons_succ]
  have hc4 := HM1.out.count hb
  have hz4 : x1.frozen? ⟨g, 2 + b, none⟩ = false := HM1.out.frozen _
  refine wpAnyL_ready (rs := [15]) (by kernel_rfl) (by simp) ?_
  refine AllReadyL.last rfl (fun K hK => ?_)
  go_simp
  refine hK.out _ _ ?_
  clear hK K hc4 hz4
  refine wpAnyL_done (by kernel_rfl) ?_ _
  clear hHeld
  go_simp
  have c1 := HM1.out.cell1_set hb (.int .i64 (cnt F b - 1))
  have HO5 := Lib.hid (mapAt_keep (w' := (x1.setCell ⟨g, 2 + b, none⟩ (.int .i64 (cnt F b - 1)))) HM1.out.map (Below.heap_setCell x1 ⟨g, 2 + b, none⟩ _ B (fun e => HM1.out.ne_B e)))
  generalize hw5 : (x1.setCell ⟨g, 2 + b, none⟩ (.int .i64 (cnt F b - 1))) = w5 at *
  have HW5 := Lib.hid hw5
  clear hw5
  go_upto_region 5 with (at_delete; refine wpList_delete_own _ rfl _ _ 76 3 rfl 3 intK Try.underlying76 _ B N D rfl HO5.out _ _ rfl HKY.out ?_; intro w6 hown6 hturn6; have HO6 := Lib.hid hown6; have HG6 := Lib.hid hturn6.grown; clear hown6 hturn6)
  have hg6 := HG6.out
  rw [← HW5.out] at hg6
  obtain ⟨hm6, hch6⟩ := HM1.out.cleared hg6 HO6.out hb HCV.out HT.out HU.out HBT.out (HNN.out _ rfl) (HFL.out _ rfl)
  have HM6 := Lib.hid hm6
  have HCH6 := Lib.hid ((Chgd.of_below HB1.out).trans hch6)
  have HF6 := Lib.hid (show FrAt w6 w.heap.size 0 false 0 (fun _ => 0) from (hch6.block _ HF1.out.lt (fun e => absurd (HTL.out _ e) (Nat.lt_irrefl _))).trans HF1.out)
  clear hg6 hm6 hch6 HM1 HF1 HB1 HO5 HW5 HO6 HG6 c1 e1 hb2
  go_wp2_with (first
    | (go_at_call 37; refine (tell_in T w0 _ g B q N c (D.del (.int .i64 code)) A lost nd td (fcut F code) hs 0 none 0 0 [] HM6.out hn (by decide) (HTD.out _ rfl) (Byt.nil_ _ _)).mono ?_; rintro e w7 ⟨rfl, hm7, hc7⟩; have HM7 := Lib.hid hm7; have HCH7 := Lib.hid (HCH6.out.trans hc7); have HF7 := Lib.hid (show FrAt w7 w.heap.size 0 false 0 (fun _ => 0) from (hc7.block _ HF6.out.lt (fun e => absurd (HTL.out _ e) (Nat.lt_irrefl _))).trans HF6.out); clear hm7 hc7)
    | (refine wpList_store_row rfl _ (.tmp 4) (.tmp 32) rfl w.heap.size _ rfl rfl _ _ HF7.out info_frame rfl (one_frame (128 + nd) 8 false (dOf [0, 0, (rgN (fcut F code) 8), 0, 0, 0, 0, 0])) ?_))
  exact bodyPost_ret (results_cell_tmp_row rfl _ _ w.heap.size _ _ _ _ rfl (HF7.out.row (128 + nd) 8 false (dOf [0, 0, (rgN (fcut F code) 8), 0, 0, 0, 0, 0])) Try.underlying27 rfl info_frame) rfl ⟨rfl, HM7.out.rowf HF7.out _ HLW.out, HCH7.out.rowf (Nat.le_refl _) _⟩
end Go.Proofs.Ytncnlbokipieaaa
