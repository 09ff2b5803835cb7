/- emcy: what a log tells. -/
import Derived.Test.YtncnlbokipieaaaEd
import Derived.Deep.CutBlock
namespace Go.Proofs.Ytncnlbokipieaaa
open Go.RowKit Go.Maps
set_option linter.unusedSimpArgs false
set_option linter.unusedVariables false

/-- The register by which bits there are. -/
def rgO : Bool → Nat → Int → Int := fun b k r => if b = true then bits .or .u8 r (bits .or .u8 (2 ^ k) 1) else r
def rgB (b0 b1 b2 b3 b4 b5 b6 b7 : Bool) : Int := rgO b7 7 (rgO b6 6 (rgO b5 5 (rgO b4 4 (rgO b3 3 (rgO b2 2 (rgO b1 1 (rgO b0 0 0)))))))
theorem rgO_cnt (F : List (Int × Int)) (k : Nat) : rgN F (k + 1) = rgO (decide (0 < cnt F k)) k (rgN F k) := by
  unfold rgO
  by_cases h : 0 < cnt F k
  · rw [if_pos (by simpa using h)]; exact if_pos h
  · rw [if_neg (by simpa using h)]; exact if_neg h
theorem rg_bools (F : List (Int × Int)) : rgN F 8 = rgB (decide (0 < cnt F 0)) (decide (0 < cnt F 1)) (decide (0 < cnt F 2)) (decide (0 < cnt F 3)) (decide (0 < cnt F 4)) (decide (0 < cnt F 5)) (decide (0 < cnt F 6)) (decide (0 < cnt F 7)) := by
  unfold rgB
  rw [rgO_cnt F 7, rgO_cnt F 6, rgO_cnt F 5, rgO_cnt F 4, rgO_cnt F 3, rgO_cnt F 2, rgO_cnt F 1, rgO_cnt F 0]
  rfl
theorem rgB_range : ∀ b0 b1 b2 b3 b4 b5 b6 b7 : Bool, 0 ≤ rgB b0 b1 b2 b3 b4 b5 b6 b7 ∧ rgB b0 b1 b2 b3 b4 b5 b6 b7 ≤ 255 := by decide +kernel
theorem rgB_odd : ∀ b0 b1 b2 b3 b4 b5 b6 b7 : Bool, rgB b0 b1 b2 b3 b4 b5 b6 b7 % 2 = if (b0 || b1 || b2 || b3 || b4 || b5 || b6 || b7) = true then 1 else 0 := by decide +kernel
theorem rg_range (F : List (Int × Int)) : 0 ≤ rgN F 8 ∧ rgN F 8 ≤ 255 := by rw [rg_bools]; exact rgB_range _ _ _ _ _ _ _ _
theorem Qs.at0 {w : World} {base e n c : Nat} {A : Option Addr} {vs : List Value} (h : Qs w base e A n c vs) : blk A = none ∨ ∃ b cs, blk A = some b ∧ w.heap[b]? = some (.cells cs e (0, 0)) := by
  rcases h.lies with ⟨rfl, _⟩ | ⟨b, off, cur, rfl, _, hb, _⟩
  · exact .inl rfl
  · exact .inr ⟨b, cur, rfl, hb⟩
section
variable {T : Nat → Prop} {w0 x y : World} {g B q N c : Nat} {D : DataW Unit} {A : Option Addr} {lost nd td : Int} {F : List (Int × Int)} {hs : List Int}
theorem LgI.ne_B (h : LgI T w0 x g B q N D A c lost nd F hs td) : B ≠ g := fun e => by
  subst e
  obtain ⟨es, clock, hb, rest⟩ := h.map
  have := h.box
  rw [hb] at this
  cases this
theorem LgI.ne_q (h : LgI T w0 x g B q N D A c lost nd F hs td) : q ≠ g := fun e => by
  subst e
  have h1 := h.que.box
  have := h.box
  rw [h1] at this
  cases this
theorem LgI.ne_A (h : LgI T w0 x g B q N D A c lost nd F hs td) : ∀ b, blk A = some b → b ≠ g := fun b hb e => by
  subst e
  rcases h.que.row.at0 with hA | ⟨b', cs, hb', hbb⟩
  · rw [hA] at hb; cases hb
  · rw [hb'] at hb
    cases hb
    have := h.box
    rw [hbb] at this
    cases this
theorem LgI.told (h : LgI T w0 x g B q N D A c lost nd F hs td) (ht : td < 1000000) : LgI T w0 (x.setCell ⟨g, 11, none⟩ (.int .i64 (td + 1))) g B q N D A c lost nd F hs (td + 1) := by
  have hk : ∀ k, k ≠ g → (x.setCell ⟨g, 11, none⟩ (.int .i64 (td + 1))).heap[k]? = x.heap[k]? := fun k hk => Below.heap_setCell x ⟨g, 11, none⟩ _ k hk
  have h1 := h.los
  have h2 := h.ntd
  have h3 := h.tds
  have h4 := h.fln
  refine ⟨?_, mapAt_keep h.map (hk B h.ne_B), h.tie, h.que.keep (hk q h.ne_q) (fun b hb => hk b (h.ne_A b hb)), by omega, by omega, by omega, h.tg, h.tB, h.tq, h.tA, h.low, fun k hk => by have := h.tlt k hk; simpa using this, h.uni, h.bts, by omega, h.bel.setCell (p := ⟨g, 11, none⟩) (h.low g h.tg) _⟩
  exact heap_setCell_same x g 11 _ _ _ h.box
end
/-- The first five bytes; 0 behind. -/
def infE (m : Nat) (li : List Int) (k : Nat) : Int := if k < m then li.getD k 0 else 0
section
variable {T : Nat → Prop} {w0 w x y : World} {g B q N c : Nat} {D : DataW Unit} {A : Option Addr} {lost nd td : Int} {F : List (Int × Int)} {hs : List Int}
theorem LgI.row (h : LgI T w0 x g B q N D A c lost nd F hs td) {k : Nat} (h1 : g ≠ k) (h2 : B ≠ k) (h3 : q ≠ k) (h4 : ∀ b, blk A = some b → b ≠ k) (hs0 : w0.heap.size ≤ x.heap.size) (cs : Array Value) (hk : w0.heap.size ≤ k) : LgI T w0 (x.setRow k cs) g B q N D A c lost nd F hs td :=
  ⟨(setRow_other x k g cs h1).trans h.box, mapAt_keep h.map (setRow_other x k B cs h2), h.tie, h.que.keep (setRow_other x k q cs h3) (fun b hb => setRow_other x k b cs (h4 b hb)), h.los, h.ntd, h.tds, h.tg, h.tB, h.tq, h.tA, h.low, fun j hj => by have := h.tlt j hj; simpa using this, h.uni, h.bts, h.fln, below_setRow h.bel hk cs⟩
theorem LgI.apart (h : LgI T w0 x g B q N D A c lost nd F hs td) {k : Nat} {t : TypeId} {cs : Array Value} {fr : Nat × Nat} (hb : x.heap[k]? = some (.cells cs t fr)) (h1 : t ≠ 81) (h2 : t ≠ 105) (h3 : t ≠ 3) : g ≠ k ∧ B ≠ k ∧ q ≠ k ∧ ∀ b, blk A = some b → b ≠ k := by
  refine ⟨fun e => ?_, fun e => ?_, fun e => ?_, fun b hbb e => ?_⟩
  · subst e; have := h.box; rw [hb] at this; cases this; exact h1 rfl
  · subst e; obtain ⟨es, ck, h4, _⟩ := h.map; rw [hb] at h4; cases h4
  · subst e; have := h.que.box; rw [hb] at this; cases this; exact h2 rfl
  · subst e
    rcases h.que.row.at0 with hA | ⟨b', cs', hb', h4⟩
    · rw [hA] at hbb; cases hbb
    · rw [hb'] at hbb; cases hbb; rw [hb] at h4; cases h4; exact h3 rfl
theorem LgI.rowf (h : LgI T w0 x g B q N D A c lost nd F hs td) {k : Nat} {id n : Int} {r : Bool} {d : Nat → Int} (hf : FrAt x k id r n d) (cs : Array Value) (hk : w0.heap.size ≤ k) : LgI T w0 (x.setRow k cs) g B q N D A c lost nd F hs td := by
  obtain ⟨h1, h2, h3, h4⟩ := h.apart hf (by decide) (by decide) (by decide)
  exact h.row h1 h2 h3 h4 h.bel.size cs hk
theorem LgI.grown (h : LgI T w0 x g B q N D A c lost nd F hs td) {k : Nat} (hg : x.grownBy y (some k)) {a b cc : Int} {i : Nat → Int} (hf : EmAt x k a b cc i) (hk : w0.heap.size ≤ k) : LgI T w0 y g B q N D A c lost nd F hs td := by
  obtain ⟨h1, h2, h3, h4⟩ := h.apart hf (by decide) (by decide) (by decide)
  exact ⟨(hg.block g h.lt (fun e => h1 (by injection e))).trans h.box, mapAt_keep h.map (hg.block B (mapAt_lt h.map) (fun e => h2 (by injection e))), h.tie, h.que.keep (hg.block q h.que.lt (fun e => h3 (by injection e))) (fun b' hb' => hg.block b' (h.que.row.lt hb').2 (fun e => h4 b' hb' (by injection e))), h.los, h.ntd, h.tds, h.tg, h.tB, h.tq, h.tA, h.low, fun j hj => Nat.lt_of_lt_of_le (h.tlt j hj) hg.size, h.uni, h.bts, h.fln, h.bel.grown hg h.bel.size (fun j hj => by cases hj; exact hk)⟩
theorem Chgd.rowf (h : Chgd T w x) {k : Nat} (hk : w.heap.size ≤ k) (cs : Array Value) : Chgd T w (x.setRow k cs) := by
  have h1 := below_setRow (Below.refl 0 x) (Nat.zero_le k) cs
  exact ⟨h1.os.trans h.os, h1.tape.trans h.tape, h1.output.trans h.output, Nat.le_trans h.size h1.size, fun i hi ht => (setRow_other x k i cs (by omega)).trans (h.block i hi ht)⟩
end
set_option maxRecDepth 100000 in
set_option maxHeartbeats 4000000 in
theorem tell_in (T : Nat → Prop) (w0 w : World) (g B q N c : Nat) (D : DataW Unit) (A : Option Addr) (lost nd td : Int) (F : List (Int × Int)) (hs : List Int) (code : Int) (Ai : Option Addr) (m ci : Nat) (li : List Int) (h : LgI T w0 w g B q N D A c lost nd F hs td) (hn : isNI nd = true) (hc : isCd code = true) (ht : td < 1000000) (hi : Byt w w.heap.size Ai m ci li) :
    Calls Try.prog 37 #[.pointer (some ⟨g, 0, none⟩), .int .i64 code, .slice Ai m ci] w fun e w' => e = .returned (.agg #[.int .i64 (128 + nd), .bool false, .int .i64 8, .int .u8 (code % 256), .int .u8 (code / 256), .int .u8 (rgN F 8), .int .u8 ((infE m li) 0), .int .u8 ((infE m li) 1), .int .u8 ((infE m li) 2), .int .u8 ((infE m li) 3), .int .u8 ((infE m li) 4)]) ∧ LgI T w0 w' g B q N D A c lost nd F hs (td + 1) ∧ Chgd T w w' := by
  have hrg := rg_range F
  have hir : ∀ k, k < 5 → 0 ≤ infE m li k ∧ infE m li k ≤ 255 := fun k _ => by
    unfold infE
    split
    · exact hi.range k
    · omega
  have HEN := Lib.hid (fun w => enc_yes nd code (rgN F 8) (infE m li) w hn hc hrg.1 hrg.2 hir)
  have HTD := Lib.hid ht
  have HI := Lib.hid hi
  have HTG := Lib.hid h.tg
  have HGW := Lib.hid h.lt
  have HLW := Lib.hid h.bel.size
  have hba : Below w.heap.size w (w.alloc (.cells #[.int .i64 0, .bool false, .int .i64 0, .int .u8 0, .int .u8 0, .int .u8 0, .int .u8 0, .int .u8 0, .int .u8 0, .int .u8 0, .int .u8 0] 27)) := (Below.refl _ _).alloc (Nat.le_refl _) _
  have HM := Lib.hid (h.below hba)
  have HF := Lib.hid (frame_new w 0 0 false (fun _ => 0))
  have HB := Lib.hid hba
  have e1 : IntKind.i64.wrap (td + 1) = td + 1 := IntWalk.i64_in _ (by have := h.tds; omega)
  clear h hn hc ht hi hrg hir hba
  go_enter Try.func37, Try.ntmps37
  go_upto_region 1 with fail
  generalize (w.alloc (.cells #[.int .i64 0, .bool false, .int .i64 0, .int .u8 0, .int .u8 0, .int .u8 0, .int .u8 0, .int .u8 0, .int .u8 0, .int .u8 0, .int .u8 0] 27)) = x0 at *
  refine wp_region_last (fun x => x.cell? ⟨g, 0, none⟩ = some (.int .i64 nd)) 9 (by kernel_rfl) HM.out.cells.1 (fun hHeld => ?_)
  have HM1 := Lib.hid (HM.out.below (kD x0))
  have HF1 : Hid (FrAt x0.drew w.heap.size 0 false 0 (fun _ => 0)) := HF
  have HB1 := Lib.hid HB.out.drew
  clear HM HF HB
  generalize x0.drew = x1 at *
  refine wpAnyL_take (i := 0) (v := ?_) rfl (by kernel_rfl) (by kernel_rfl) (by kernel_rfl) (by kernel_rfl) (by kernel_rfl) (fun _ _ _ h => h) (Or.inl ⟨by rfl, ?_⟩) (by assumption) ?_
  rotate_left
  · intro wq hSw; (try dsimp only at hSw); first | (go_simp; done) | (go_simp; with_reducible rfl) | with_reducible rfl
  try simp only [Act.put, List.setIfInBounds_toArray, List.set_cons_zero, List.set_cons_succ, List.getElem_toArray, List.getElem_cons_zero, List.getElem_cons_succ]
  refine wpAnyL_take (i := 1) (v := ?_) rfl (by kernel_rfl) (by kernel_rfl) (by kernel_rfl) (by kernel_rfl) (by kernel_rfl) (fun _ _ _ h => h) (Or.inl ⟨by rfl, ?_⟩) (by assumption) ?_
  rotate_left
  · intro wq hSw; (try dsimp only at hSw); first | (go_simp; done) | (go_simp; with_reducible rfl) | with_reducible rfl
  try simp only [Act.put, List.setIfInBounds_toArray, List.set_cons_zero, List.set_cons_succ, List.getElem_toArray, List.getElem_cons_zero, List.getElem_cons_succ]
  refine wpAnyL_take (i := 2) (v := ?_) rfl (by kernel_rfl) (by kernel_rfl) (by kernel_rfl) (by kernel_rfl) (by kernel_rfl) (fun _ _ _ h => h) (Or.inl ⟨by rfl, ?_⟩) (by assumption) ?_
  rotate_left
  · intro wq hSw; (try dsimp only at hSw); first | (go_simp; done) | (go_simp; with_reducible rfl) | with_reducible rfl
  try simp only [Act.put, List.setIfInBounds_toArray, List.set_cons_zero, List.set_cons_succ, List.getElem_toArray, List.getElem_cons_zero, List.getElem_cons_succ]
  refine wpAnyL_take (i := 3) (v := .int .i64 nd) rfl (by kernel_rfl) (by kernel_rfl) (by kernel_rfl) (by kernel_rfl) (by kernel_rfl) (fun _ _ _ h => h) (Or.inl ⟨by rfl, ?_⟩) (by assumption) ?_
  · intro wq hSw; (try dsimp only at hSw); first | (go_simp; done) | (go_simp; with_reducible rfl) | with_reducible rfl
  try simp only [Act.put, List.setIfInBounds_toArray, List.set_cons_zero, List.set_cons_succ, List.getElem_toArray, List.getElem_cons_zero, List.getElem_cons_succ]
  refine wpAnyL_take (i := 4) (v := ?_) rfl (by kernel_rfl) (by kernel_rfl) (by kernel_rfl) (by kernel_rfl) (by kernel_rfl) (fun _ _ _ h => h) (Or.inl ⟨by rfl, ?_⟩) (by assumption) ?_
  rotate_left
  · intro wq hSw; (try dsimp only at hSw); first | (go_simp; done) | (go_simp; with_reducible rfl) | with_reducible rfl
  try simp only [Act.put, List.setIfInBounds_toArray, List.set_cons_zero, List.set_cons_succ, List.getElem_toArray, List.getElem_cons_zero, List.getElem_cons_succ]
  refine wpAnyL_take (i := 5) (v := ?_) rfl (by kernel_rfl) (by kernel_rfl) (by kernel_rfl) (by kernel_rfl) (by kernel_rfl) (fun _ _ _ h => h) (Or.inl ⟨by rfl, ?_⟩) (by assumption) ?_
  rotate_left
  · intro wq hSw; (try dsimp only at hSw); first | (go_simp; done) | (go_simp; with_reducible rfl) | with_reducible rfl
  try simp only [Act.put, List.setIfInBounds_toArray, List.set_cons_zero, List.set_cons_succ, List.getElem_toArray, List.getElem_cons_zero, List.getElem_cons_succ]
  refine wpAnyL_ready (rs := [6, 8]) (by kernel_rfl) (by simp) ?_
  refine (AllReadyL.cons rfl (fun K hK => ?_) (AllReadyL.cons rfl (fun K hK => ?_) AllReadyL.nil))
  · go_simp
    go_wp2_with fail
    refine (reg_in T w0 _ g B q N c D A lost nd td F hs HM1.out).mono ?_
    rintro e xr ⟨rfl, rfl⟩
    refine hK.out _ _ ?_ (fun hHeld => ?_)
    · (try dsimp only); exact HM1.out.cells.1
    clear hK K
    refine wpAnyL_take (i := 7) (v := .agg #[.int .i64 nd, .int .i64 code, .int .u8 (rgN F 8), .int .u8 0, .int .u8 0, .int .u8 0, .int .u8 0, .int .u8 0]) rfl (by kernel_rfl) (by kernel_rfl) (by kernel_rfl) (by kernel_rfl) (by kernel_rfl) (fun _ _ _ h => h) (Or.inl ⟨by rfl, ?_⟩) (by assumption) ?_
    · intro wq hSw; (try dsimp only at hSw); first | (go_simp; done) | (go_simp; with_reducible rfl) | with_reducible rfl
    try simp only [Act.put, List.setIfInBounds_toArray, List.set_cons_zero, List.set_cons_succ, List.getElem_toArray, List.getElem_cons_zero, List.getElem_cons_succ]
    refine wpAnyL_ready (rs := [8]) (by kernel_rfl) (by simp) ?_
    refine (AllReadyL.cons rfl (fun K hK => ?_) AllReadyL.nil)
    go_simp
    have hba : Below x1.heap.size x1 (x1.alloc (.cells #[.int .i64 0, .int .i64 0, .int .u8 0, .int .u8 0, .int .u8 0, .int .u8 0, .int .u8 0, .int .u8 0] 24)) := (Below.refl _ _).alloc (Nat.le_refl _) _
    have HM2 := Lib.hid (HM1.out.below hba)
    have HF2 := Lib.hid (HF1.out.below hba HF1.out.lt)
    have HB2 := Lib.hid (HB1.out.trans (hba.mono HB1.out.size))
    have HX := Lib.hid (show EmAt (x1.alloc (.cells #[.int .i64 0, .int .i64 0, .int .u8 0, .int .u8 0, .int .u8 0, .int .u8 0, .int .u8 0, .int .u8 0] 24)) x1.heap.size 0 0 0 (fun _ => 0) from heap_alloc_new x1 _)
    have HGX := Lib.hid (show w.heap.size < x1.heap.size from HF1.out.lt)
    clear hba
    refine hK.out _ _ ?_ (fun hHeld => ?_)
    · (try dsimp only); exact HM2.out.cells.1
    clear hK K
    generalize (x1.alloc (.cells #[.int .i64 0, .int .i64 0, .int .u8 0, .int .u8 0, .int .u8 0, .int .u8 0, .int .u8 0, .int .u8 0] 24)) = x3 at *
    generalize x1.heap.size = gx at *
    refine wpAnyL_ready (rs := [9]) (by kernel_rfl) (by simp) ?_
    refine AllReadyL.last rfl (fun K hK => ?_)
    refine Eq.mpr (if_pos (by kernel_rfl)) ?_
    refine wp_store_row 24 (.tmp 7) (.tmp 17) rfl gx #[.int .i64 nd, .int .i64 code, .int .u8 (rgN F 8), .int .u8 0, .int .u8 0, .int .u8 0, .int .u8 0, .int .u8 0] rfl rfl _ _ HX.out info_em rfl (one_em nd code (rgN F 8) (fun _ => 0)) ?_
    have HM4 := Lib.hid (by
      obtain ⟨h1, h2, h3, h4⟩ := HM2.out.apart HX.out (by decide) (by decide) (by decide)
      exact HM2.out.row h1 h2 h3 h4 HM2.out.bel.size #[.int .i64 nd, .int .i64 code, .int .u8 (rgN F 8), .int .u8 0, .int .u8 0, .int .u8 0, .int .u8 0, .int .u8 0] (by have := HGX.out; have := HLW.out; omega))
    have HF4 := Lib.hid (HF2.out.row_other (show w.heap.size ≠ gx from Nat.ne_of_lt HGX.out) #[.int .i64 nd, .int .i64 code, .int .u8 (rgN F 8), .int .u8 0, .int .u8 0, .int .u8 0, .int .u8 0, .int .u8 0])
    have HB4 := Lib.hid (below_setRow HB2.out (show w.heap.size ≤ gx by have := HGX.out; omega) #[.int .i64 nd, .int .i64 code, .int .u8 (rgN F 8), .int .u8 0, .int .u8 0, .int .u8 0, .int .u8 0, .int .u8 0])
    have HX4 := Lib.hid (show EmAt (x3.setRow gx #[.int .i64 nd, .int .i64 code, .int .u8 (rgN F 8), .int .u8 0, .int .u8 0, .int .u8 0, .int .u8 0, .int .u8 0]) gx nd code (rgN F 8) (fun _ => 0) from setRow_heap _ _ _ _ _ (0, 0) HX.out)
    refine hK.out _ _ ?_
    clear hK K HM2 HF2 HB2 HX
    refine wpAnyL_done (by kernel_rfl) ?_ _
    clear hHeld
    go_simp
    generalize x3.setRow gx #[.int .i64 nd, .int .i64 code, .int .u8 (rgN F 8), .int .u8 0, .int .u8 0, .int .u8 0, .int .u8 0, .int .u8 0] = x4 at *
    go_upto_region 3 with (refine wpList_plain (o := ⟨some 21, _, _, _, _, _⟩) rfl (fun K hK => wp_copy_row (.tmp 19) (.tmp 20) rfl rfl rfl ((HI.out).below HB4.out) HX4.out (by simp) (fun x5 cur5 h1 h2 h3 h4 => hK _ _ ?_)); have hce := em_copied (i := fun _ => 0) h2 h3; have HX5 := Lib.hid (show EmAt x5 gx nd code (rgN F 8) (infE m li) from by rw [hce] at h1; exact h1); have HM5 := Lib.hid (HM4.out.grown h4 HX4.out (by have := HGX.out; have := HLW.out; omega)); have HF5 := Lib.hid (HF4.out.grown h4 (Nat.ne_of_lt HGX.out)); have HB5 := Lib.hid (HB4.out.grown h4 HB4.out.size (fun k hk => by cases hk; have := HGX.out; omega)); clear h1 h2 h3 h4 hce)
    clear HM4 HF4 HB4 HX4 HI
    obtain ⟨c0, c1, c2, c3, c4, c5, c6, c7, c8, c9, c10, c11⟩ := HM5.out.cells
    have f11 := HM5.out.frozen 11
    go_upto_region 4 with fail
    have HM6 := Lib.hid (HM5.out.told HTD.out)
    have HF6 := Lib.hid (show FrAt (x5.setCell ⟨g, 11, none⟩ (.int .i64 (td + 1))) w.heap.size 0 false 0 (fun _ => 0) from (Below.heap_setCell x5 ⟨g, 11, none⟩ _ w.heap.size (by have := HGW.out; show w.heap.size ≠ g; omega)).trans HF5.out)
    have HX6 := Lib.hid (show EmAt (x5.setCell ⟨g, 11, none⟩ (.int .i64 (td + 1))) gx nd code (rgN F 8) (infE m li) from (Below.heap_setCell x5 ⟨g, 11, none⟩ _ gx (by have := HGW.out; have := HGX.out; show gx ≠ g; omega)).trans HX5.out)
    have HC6 := Lib.hid (show Chgd T w (x5.setCell ⟨g, 11, none⟩ (.int .i64 (td + 1))) from (Chgd.of_below HB5.out).trans (Chgd.set x5 HTG.out 11 (.int .i64 (td + 1))))
    clear HM5 HF5 HX5 HB5 c0 c1 c2 c3 c4 c5 c6 c7 c8 c9 c10 c11 f11
    generalize x5.setCell ⟨g, 11, none⟩ (.int .i64 (td + 1)) = x6 at *
    go_upto_region 5 with (first
      | (refine wpList_load_row rfl _ (.tmp 7) rfl gx rfl _ _ _ _ HX6.out Try.underlying24 rfl info_em ?_)
      | (go_at_call 6; refine (HEN.out _).mono ?_; rintro e x7 ⟨rfl, hb7⟩; have hba : Below x7.heap.size x7 (x7.alloc (.cells #[.int .i64 0, .bool false, .int .i64 0, .int .u8 0, .int .u8 0, .int .u8 0, .int .u8 0, .int .u8 0, .int .u8 0, .int .u8 0, .int .u8 0] 27)) := (Below.refl _ _).alloc (Nat.le_refl _) _; have HM7 := Lib.hid ((HM6.out.below hb7).below hba); have HF7 := Lib.hid ((HF6.out.below hb7 HF6.out.lt).below hba (HF6.out.below hb7 HF6.out.lt).lt); have HC7 := Lib.hid ((HC6.out.trans (Chgd.of_below hb7)).trans (Chgd.of_below hba)); have HO7 := Lib.hid (frame_new x7 0 0 false (fun _ => 0)); have HG7 := Lib.hid (show w.heap.size < x7.heap.size from (HF6.out.below hb7 HF6.out.lt).lt); clear hb7 hba)
      | (refine wpList_store_row rfl _ (.tmp 8) (.tmp 32) rfl x7.heap.size _ rfl rfl _ _ HO7.out info_frame rfl (one_frame (128 + nd) 8 false (dOf [code % 256, code / 256, (rgN F 8), (infE m li) 0, (infE m li) 1, (infE m li) 2, (infE m li) 3, (infE m li) 4])) ?_))
    have HO8 := Lib.hid (show FrAt ((x7.alloc (.cells #[.int .i64 0, .bool false, .int .i64 0, .int .u8 0, .int .u8 0, .int .u8 0, .int .u8 0, .int .u8 0, .int .u8 0, .int .u8 0, .int .u8 0] 27)).setRow x7.heap.size #[.int .i64 (128 + nd), .bool false, .int .i64 8, .int .u8 (code % 256), .int .u8 (code / 256), .int .u8 (rgN F 8), .int .u8 ((infE m li) 0), .int .u8 ((infE m li) 1), .int .u8 ((infE m li) 2), .int .u8 ((infE m li) 3), .int .u8 ((infE m li) 4)]) x7.heap.size (128 + nd) false 8 (dOf [code % 256, code / 256, (rgN F 8), (infE m li) 0, (infE m li) 1, (infE m li) 2, (infE m li) 3, (infE m li) 4]) from HO7.out.row (128 + nd) 8 false (dOf [code % 256, code / 256, (rgN F 8), (infE m li) 0, (infE m li) 1, (infE m li) 2, (infE m li) 3, (infE m li) 4]))
    have HF8 := Lib.hid (HF7.out.row_other (Nat.ne_of_lt HG7.out) #[.int .i64 (128 + nd), .bool false, .int .i64 8, .int .u8 (code % 256), .int .u8 (code / 256), .int .u8 (rgN F 8), .int .u8 ((infE m li) 0), .int .u8 ((infE m li) 1), .int .u8 ((infE m li) 2), .int .u8 ((infE m li) 3), .int .u8 ((infE m li) 4)])
    have HM8 := Lib.hid (HM7.out.rowf HO7.out #[.int .i64 (128 + nd), .bool false, .int .i64 8, .int .u8 (code % 256), .int .u8 (code / 256), .int .u8 (rgN F 8), .int .u8 ((infE m li) 0), .int .u8 ((infE m li) 1), .int .u8 ((infE m li) 2), .int .u8 ((infE m li) 3), .int .u8 ((infE m li) 4)] (by have := HG7.out; have := HLW.out; omega))
    have HC8 := Lib.hid (HC7.out.rowf (Nat.le_of_lt HG7.out) #[.int .i64 (128 + nd), .bool false, .int .i64 8, .int .u8 (code % 256), .int .u8 (code / 256), .int .u8 (rgN F 8), .int .u8 ((infE m li) 0), .int .u8 ((infE m li) 1), .int .u8 ((infE m li) 2), .int .u8 ((infE m li) 3), .int .u8 ((infE m li) 4)])
    clear HM6 HF6 HX6 HC6 HM7 HF7 HC7 HO7 HEN
    generalize (x7.alloc (.cells #[.int .i64 0, .bool false, .int .i64 0, .int .u8 0, .int .u8 0, .int .u8 0, .int .u8 0, .int .u8 0, .int .u8 0, .int .u8 0, .int .u8 0] 27)).setRow x7.heap.size #[.int .i64 (128 + nd), .bool false, .int .i64 8, .int .u8 (code % 256), .int .u8 (code / 256), .int .u8 (rgN F 8), .int .u8 ((infE m li) 0), .int .u8 ((infE m li) 1), .int .u8 ((infE m li) 2), .int .u8 ((infE m li) 3), .int .u8 ((infE m li) 4)] = x8 at *
    generalize x7.heap.size = g8 at *
    go_wp2_with (first
      | (refine wpList_load_row rfl _ (.tmp 8) rfl g8 rfl _ _ _ _ HO8.out Try.underlying27 rfl info_frame ?_)
      | (refine wpList_store_row rfl _ (.tmp 6) (.tmp 34) rfl w.heap.size _ rfl rfl _ _ HF8.out info_frame rfl (one_frame (128 + nd) 8 false (dOf [code % 256, code / 256, (rgN F 8), (infE m li) 0, (infE m li) 1, (infE m li) 2, (infE m li) 3, (infE m li) 4])) ?_))
    exact bodyPost_ret (results_cell_row rfl _ _ w.heap.size _ _ _ _ rfl (HF8.out.row (128 + nd) 8 false (dOf [code % 256, code / 256, (rgN F 8), (infE m li) 0, (infE m li) 1, (infE m li) 2, (infE m li) 3, (infE m li) 4])) Try.underlying27 rfl info_frame) rfl ⟨rfl, HM8.out.rowf HF8.out #[.int .i64 (128 + nd), .bool false, .int .i64 8, .int .u8 (code % 256), .int .u8 (code / 256), .int .u8 (rgN F 8), .int .u8 ((infE m li) 0), .int .u8 ((infE m li) 1), .int .u8 ((infE m li) 2), .int .u8 ((infE m li) 3), .int .u8 ((infE m li) 4)] HLW.out, HC8.out.rowf (Nat.le_refl _) #[.int .i64 (128 + nd), .bool false, .int .i64 8, .int .u8 (code % 256), .int .u8 (code / 256), .int .u8 (rgN F 8), .int .u8 ((infE m li) 0), .int .u8 ((infE m li) 1), .int .u8 ((infE m li) 2), .int .u8 ((infE m li) 3), .int .u8 ((infE m li) 4)]⟩
  · go_simp
    have hba : Below x1.heap.size x1 (x1.alloc (.cells #[.int .i64 0, .int .i64 0, .int .u8 0, .int .u8 0, .int .u8 0, .int .u8 0, .int .u8 0, .int .u8 0] 24)) := (Below.refl _ _).alloc (Nat.le_refl _) _
    have HM2 := Lib.hid (HM1.out.below hba)
    have HF2 := Lib.hid (HF1.out.below hba HF1.out.lt)
    have HB2 := Lib.hid (HB1.out.trans (hba.mono HB1.out.size))
    have HX := Lib.hid (show EmAt (x1.alloc (.cells #[.int .i64 0, .int .i64 0, .int .u8 0, .int .u8 0, .int .u8 0, .int .u8 0, .int .u8 0, .int .u8 0] 24)) x1.heap.size 0 0 0 (fun _ => 0) from heap_alloc_new x1 _)
    have HGX := Lib.hid (show w.heap.size < x1.heap.size from HF1.out.lt)
    clear hba
    refine hK.out _ _ ?_ (fun hHeld => ?_)
    · (try dsimp only); exact HM2.out.cells.1
    clear hK K
    generalize (x1.alloc (.cells #[.int .i64 0, .int .i64 0, .int .u8 0, .int .u8 0, .int .u8 0, .int .u8 0, .int .u8 0, .int .u8 0] 24)) = x3 at *
    generalize x1.heap.size = gx at *
    refine wpAnyL_ready (rs := [6]) (by kernel_rfl) (by simp) ?_
    refine (AllReadyL.cons rfl (fun K hK => ?_) AllReadyL.nil)
    go_simp
    go_wp2_with fail
    refine (reg_in T w0 _ g B q N c D A lost nd td F hs HM2.out).mono ?_
    rintro e xr ⟨rfl, rfl⟩
    refine hK.out _ _ ?_ (fun hHeld => ?_)
    · (try dsimp only); exact HM2.out.cells.1
    clear hK K
    refine wpAnyL_take (i := 7) (v := .agg #[.int .i64 nd, .int .i64 code, .int .u8 (rgN F 8), .int .u8 0, .int .u8 0, .int .u8 0, .int .u8 0, .int .u8 0]) rfl (by kernel_rfl) (by kernel_rfl) (by kernel_rfl) (by kernel_rfl) (by kernel_rfl) (fun _ _ _ h => h) (Or.inl ⟨by rfl, ?_⟩) (by assumption) ?_
    · intro wq hSw; (try dsimp only at hSw); first | (go_simp; done) | (go_simp; with_reducible rfl) | with_reducible rfl
    try simp only [Act.put, List.setIfInBounds_toArray, List.set_cons_zero, List.set_cons_succ, List.getElem_toArray, List.getElem_cons_zero, List.getElem_cons_succ]
    refine wpAnyL_ready (rs := [9]) (by kernel_rfl) (by simp) ?_
    refine AllReadyL.last rfl (fun K hK => ?_)
    refine Eq.mpr (if_pos (by kernel_rfl)) ?_
    refine wp_store_row 24 (.tmp 7) (.tmp 17) rfl gx #[.int .i64 nd, .int .i64 code, .int .u8 (rgN F 8), .int .u8 0, .int .u8 0, .int .u8 0, .int .u8 0, .int .u8 0] rfl rfl _ _ HX.out info_em rfl (one_em nd code (rgN F 8) (fun _ => 0)) ?_
    have HM4 := Lib.hid (by
      obtain ⟨h1, h2, h3, h4⟩ := HM2.out.apart HX.out (by decide) (by decide) (by decide)
      exact HM2.out.row h1 h2 h3 h4 HM2.out.bel.size #[.int .i64 nd, .int .i64 code, .int .u8 (rgN F 8), .int .u8 0, .int .u8 0, .int .u8 0, .int .u8 0, .int .u8 0] (by have := HGX.out; have := HLW.out; omega))
    have HF4 := Lib.hid (HF2.out.row_other (show w.heap.size ≠ gx from Nat.ne_of_lt HGX.out) #[.int .i64 nd, .int .i64 code, .int .u8 (rgN F 8), .int .u8 0, .int .u8 0, .int .u8 0, .int .u8 0, .int .u8 0])
    have HB4 := Lib.hid (below_setRow HB2.out (show w.heap.size ≤ gx by have := HGX.out; omega) #[.int .i64 nd, .int .i64 code, .int .u8 (rgN F 8), .int .u8 0, .int .u8 0, .int .u8 0, .int .u8 0, .int .u8 0])
    have HX4 := Lib.hid (show EmAt (x3.setRow gx #[.int .i64 nd, .int .i64 code, .int .u8 (rgN F 8), .int .u8 0, .int .u8 0, .int .u8 0, .int .u8 0, .int .u8 0]) gx nd code (rgN F 8) (fun _ => 0) from setRow_heap _ _ _ _ _ (0, 0) HX.out)
    refine hK.out _ _ ?_
    clear hK K HM2 HF2 HB2 HX
    refine wpAnyL_done (by kernel_rfl) ?_ _
    clear hHeld
    go_simp
    generalize x3.setRow gx #[.int .i64 nd, .int .i64 code, .int .u8 (rgN F 8), .int .u8 0, .int .u8 0, .int .u8 0, .int .u8 0, .int .u8 0] = x4 at *
    go_upto_region 3 with (refine wpList_plain (o := ⟨some 21, _, _, _, _, _⟩) rfl (fun K hK => wp_copy_row (.tmp 19) (.tmp 20) rfl rfl rfl ((HI.out).below HB4.out) HX4.out (by simp) (fun x5 cur5 h1 h2 h3 h4 => hK _ _ ?_)); have hce := em_copied (i := fun _ => 0) h2 h3; have HX5 := Lib.hid (show EmAt x5 gx nd code (rgN F 8) (infE m li) from by rw [hce] at h1; exact h1); have HM5 := Lib.hid (HM4.out.grown h4 HX4.out (by have := HGX.out; have := HLW.out; omega)); have HF5 := Lib.hid (HF4.out.grown h4 (Nat.ne_of_lt HGX.out)); have HB5 := Lib.hid (HB4.out.grown h4 HB4.out.size (fun k hk => by cases hk; have := HGX.out; omega)); clear h1 h2 h3 h4 hce)
    clear HM4 HF4 HB4 HX4 HI
    obtain ⟨c0, c1, c2, c3, c4, c5, c6, c7, c8, c9, c10, c11⟩ := HM5.out.cells
    have f11 := HM5.out.frozen 11
    go_upto_region 4 with fail
    have HM6 := Lib.hid (HM5.out.told HTD.out)
    have HF6 := Lib.hid (show FrAt (x5.setCell ⟨g, 11, none⟩ (.int .i64 (td + 1))) w.heap.size 0 false 0 (fun _ => 0) from (Below.heap_setCell x5 ⟨g, 11, none⟩ _ w.heap.size (by have := HGW.out; show w.heap.size ≠ g; omega)).trans HF5.out)
    have HX6 := Lib.hid (show EmAt (x5.setCell ⟨g, 11, none⟩ (.int .i64 (td + 1))) gx nd code (rgN F 8) (infE m li) from (Below.heap_setCell x5 ⟨g, 11, none⟩ _ gx (by have := HGW.out; have := HGX.out; show gx ≠ g; omega)).trans HX5.out)
    have HC6 := Lib.hid (show Chgd T w (x5.setCell ⟨g, 11, none⟩ (.int .i64 (td + 1))) from (Chgd.of_below HB5.out).trans (Chgd.set x5 HTG.out 11 (.int .i64 (td + 1))))
    clear HM5 HF5 HX5 HB5 c0 c1 c2 c3 c4 c5 c6 c7 c8 c9 c10 c11 f11
    generalize x5.setCell ⟨g, 11, none⟩ (.int .i64 (td + 1)) = x6 at *
    go_upto_region 5 with (first
      | (refine wpList_load_row rfl _ (.tmp 7) rfl gx rfl _ _ _ _ HX6.out Try.underlying24 rfl info_em ?_)
      | (go_at_call 6; refine (HEN.out _).mono ?_; rintro e x7 ⟨rfl, hb7⟩; have hba : Below x7.heap.size x7 (x7.alloc (.cells #[.int .i64 0, .bool false, .int .i64 0, .int .u8 0, .int .u8 0, .int .u8 0, .int .u8 0, .int .u8 0, .int .u8 0, .int .u8 0, .int .u8 0] 27)) := (Below.refl _ _).alloc (Nat.le_refl _) _; have HM7 := Lib.hid ((HM6.out.below hb7).below hba); have HF7 := Lib.hid ((HF6.out.below hb7 HF6.out.lt).below hba (HF6.out.below hb7 HF6.out.lt).lt); have HC7 := Lib.hid ((HC6.out.trans (Chgd.of_below hb7)).trans (Chgd.of_below hba)); have HO7 := Lib.hid (frame_new x7 0 0 false (fun _ => 0)); have HG7 := Lib.hid (show w.heap.size < x7.heap.size from (HF6.out.below hb7 HF6.out.lt).lt); clear hb7 hba)
      | (refine wpList_store_row rfl _ (.tmp 8) (.tmp 32) rfl x7.heap.size _ rfl rfl _ _ HO7.out info_frame rfl (one_frame (128 + nd) 8 false (dOf [code % 256, code / 256, (rgN F 8), (infE m li) 0, (infE m li) 1, (infE m li) 2, (infE m li) 3, (infE m li) 4])) ?_))
    have HO8 := Lib.hid (show FrAt ((x7.alloc (.cells #[.int .i64 0, .bool false, .int .i64 0, .int .u8 0, .int .u8 0, .int .u8 0, .int .u8 0, .int .u8 0, .int .u8 0, .int .u8 0, .int .u8 0] 27)).setRow x7.heap.size #[.int .i64 (128 + nd), .bool false, .int .i64 8, .int .u8 (code % 256), .int .u8 (code / 256), .int .u8 (rgN F 8), .int .u8 ((infE m li) 0), .int .u8 ((infE m li) 1), .int .u8 ((infE m li) 2), .int .u8 ((infE m li) 3), .int .u8 ((infE m li) 4)]) x7.heap.size (128 + nd) false 8 (dOf [code % 256, code / 256, (rgN F 8), (infE m li) 0, (infE m li) 1, (infE m li) 2, (infE m li) 3, (infE m li) 4]) from HO7.out.row (128 + nd) 8 false (dOf [code % 256, code / 256, (rgN F 8), (infE m li) 0, (infE m li) 1, (infE m li) 2, (infE m li) 3, (infE m li) 4]))
    have HF8 := Lib.hid (HF7.out.row_other (Nat.ne_of_lt HG7.out) #[.int .i64 (128 + nd), .bool false, .int .i64 8, .int .u8 (code % 256), .int .u8 (code / 256), .int .u8 (rgN F 8), .int .u8 ((infE m li) 0), .int .u8 ((infE m li) 1), .int .u8 ((infE m li) 2), .int .u8 ((infE m li) 3), .int .u8 ((infE m li) 4)])
    have HM8 := Lib.hid (HM7.out.rowf HO7.out #[.int .i64 (128 + nd), .bool false, .int .i64 8, .int .u8 (code % 256), .int .u8 (code / 256), .int .u8 (rgN F 8), .int .u8 ((infE m li) 0), .int .u8 ((infE m li) 1), .int .u8 ((infE m li) 2), .int .u8 ((infE m li) 3), .int .u8 ((infE m li) 4)] (by have := HG7.out; have := HLW.out; omega))
    have HC8 := Lib.hid (HC7.out.rowf (Nat.le_of_lt HG7.out) #[.int .i64 (128 + nd), .bool false, .int .i64 8, .int .u8 (code % 256), .int .u8 (code / 256), .int .u8 (rgN F 8), .int .u8 ((infE m li) 0), .int .u8 ((infE m li) 1), .int .u8 ((infE m li) 2), .int .u8 ((infE m li) 3), .int .u8 ((infE m li) 4)])
    clear HM6 HF6 HX6 HC6 HM7 HF7 HC7 HO7 HEN
    generalize (x7.alloc (.cells #[.int .i64 0, .bool false, .int .i64 0, .int .u8 0, .int .u8 0, .int .u8 0, .int .u8 0, .int .u8 0, .int .u8 0, .int .u8 0, .int .u8 0] 27)).setRow x7.heap.size #[.int .i64 (128 + nd), .bool false, .int .i64 8, .int .u8 (code % 256), .int .u8 (code / 256), .int .u8 (rgN F 8), .int .u8 ((infE m li) 0), .int .u8 ((infE m li) 1), .int .u8 ((infE m li) 2), .int .u8 ((infE m li) 3), .int .u8 ((infE m li) 4)] = x8 at *
    generalize x7.heap.size = g8 at *
    go_wp2_with (first
      | (refine wpList_load_row rfl _ (.tmp 8) rfl g8 rfl _ _ _ _ HO8.out Try.underlying27 rfl info_frame ?_)
      | (refine wpList_store_row rfl _ (.tmp 6) (.tmp 34) rfl w.heap.size _ rfl rfl _ _ HF8.out info_frame rfl (one_frame (128 + nd) 8 false (dOf [code % 256, code / 256, (rgN F 8), (infE m li) 0, (infE m li) 1, (infE m li) 2, (infE m li) 3, (infE m li) 4])) ?_))
    exact bodyPost_ret (results_cell_row rfl _ _ w.heap.size _ _ _ _ rfl (HF8.out.row (128 + nd) 8 false (dOf [code % 256, code / 256, (rgN F 8), (infE m li) 0, (infE m li) 1, (infE m li) 2, (infE m li) 3, (infE m li) 4])) Try.underlying27 rfl info_frame) rfl ⟨rfl, HM8.out.rowf HF8.out #[.int .i64 (128 + nd), .bool false, .int .i64 8, .int .u8 (code % 256), .int .u8 (code / 256), .int .u8 (rgN F 8), .int .u8 ((infE m li) 0), .int .u8 ((infE m li) 1), .int .u8 ((infE m li) 2), .int .u8 ((infE m li) 3), .int .u8 ((infE m li) 4)] HLW.out, HC8.out.rowf (Nat.le_refl _) #[.int .i64 (128 + nd), .bool false, .int .i64 8, .int .u8 (code % 256), .int .u8 (code / 256), .int .u8 (rgN F 8), .int .u8 ((infE m li) 0), .int .u8 ((infE m li) 1), .int .u8 ((infE m li) 2), .int .u8 ((infE m li) 3), .int .u8 ((infE m li) 4)]⟩
end Go.Proofs.Ytncnlbokipieaaa
