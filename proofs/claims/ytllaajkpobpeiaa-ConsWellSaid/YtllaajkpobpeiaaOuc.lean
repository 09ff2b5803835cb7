/- cons: what a frame tells; a taker hears a frame. -/
import Derived.Test.YtllaajkpobpeiaaOub
namespace Go.Proofs.Ytllaajkpobpeiaa
open Go.RowKit
set_option linter.unusedSimpArgs false
set_option linter.unusedVariables false

def frA (id : Int) (r : Bool) (n : Int) (d : Nat → Int) : Array Value := #[.int .i64 id, .bool r, .int .i64 n, .int .u8 (d 0), .int .u8 (d 1), .int .u8 (d 2), .int .u8 (d 3), .int .u8 (d 4), .int .u8 (d 5), .int .u8 (d 6), .int .u8 (d 7)]
theorem fr_range {w : World} {g : Nat} {id n : Int} {r : Bool} {d : Nat → Int} (h : FrAt w g id r n d) : w.rangeAt g 0 (frA id r n d).toList := fun j v hv => by
  rw [cell_of_row _ _ _ _ _ _ h, Nat.zero_add]; simpa [frA] using hv
theorem bel_ext {B : Nat} {w w' w'' : World} (hB : B ≤ w.heap.size) (h : Below B w w') (hb : Below w'.heap.size w' w'') : Below B w w'' := h.trans (hb.mono (Nat.le_trans hB h.size))
theorem works_q2 {w : World} {t k ck gd sz : Nat} {x : ChV} {p : Option (List Int)} {v : List Int} {S F : Int} (h : TkW w t k ck gd sz x p v S F) : Hid (∀ n, Calls Try.prog 36 #[.pointer (some ⟨t, 0, none⟩)] (w.drewN n) fun e w' => e = .returned (.bool true) ∧ ∃ m, w' = w.drewN m) := Lib.hid (fun n => (works_yes (h.below (below_drewN (Below.refl _ _) n))).mono fun e w' h => ⟨h.1, n, h.2.symm⟩)
section
variable {w : World} {t k ck gd sz : Nat} {x : ChV} {p : Option (List Int)} {v : List Int} {S F : Int}
set_option maxRecDepth 100000 in
set_option maxHeartbeats 8000000 in
theorem tell_plain (id : Int) (n : Nat) (d : Nat → Int) (h : TkW w t k ck gd sz x p v S F) (hc : chk id false n d = 0) (hd : ∀ j, j < 8 → 0 ≤ d j ∧ d j ≤ 255) (hi : id = x.plain) : Calls Try.prog 63 #[.pointer (some ⟨k, 0, none⟩), .agg (frA id false n d)] w fun e w' => e = .returned (.int .i64 (plE sz p (bL n d))) ∧ TkW w' t k ck gd sz x (plP sz p (bL n d)) (v) S F ∧ Onl ck w w' := by
  have hb0 : Below w.heap.size w (w.alloc (.cells (frA id false n d) 57)) := (Below.refl _ _).alloc (Nat.le_refl _) _
  have hf0 : FrAt (w.alloc (.cells (frA id false n d) 57)) w.heap.size id false n d := heap_alloc_new w _
  have HW0 := Lib.hid (h.below hb0)
  have HF0 := Lib.hid hf0
  have HB0 := Lib.hid hb0
  have HGL := Lib.hid (Nat.le_of_lt h.cs.lt)
  have hk8 := (chk_len hc).2
  have HBY := Lib.hid (fun w => bytes_ok id n d w hc hd)
  have HN8 := Lib.hid (show n ≤ 1000 by omega)
  have HFI : Hid ((Try.prog.info? 57).map (·.size) = some (frA id false n d).toList.length) := Lib.hid info_frame
  obtain ⟨e0, e1, e2, e3, e4, e5⟩ := HW0.out.cells
  have g0 : (w.alloc (.cells (frA id false n d) 57)).cell? ⟨w.heap.size, 0, none⟩ = some (.int .i64 id) := hf0.cells.1
  have d1 : (id == x.plain) = true := by simpa using hi
  clear hi
  have HFR := Lib.hid (fun (y : World) (hy : FrAt y w.heap.size id false n d) => fr_range hy)
  clear h hc hd hb0 hf0 hk8
  have HBZ : Hid (∀ w, Calls Try.prog 79 #[.agg (frA id false n d)] w fun e w' => ∃ g, e = .returned (.slice (some ⟨g, 0, none⟩) n n) ∧ Byt w' w'.heap.size (some ⟨g, 0, none⟩) n n (bL n d) ∧ Below w.heap.size w w') := HBY
  clear HBY
  generalize frA id false n d = FX at *
  go_enter Try.func63, Try.ntmps63
  go_upto_region 3 with fail
  generalize w.alloc (.cells FX 57) = w0 at *
  clear e0 e1 e2 e3 e4 e5 g0
  refine wp_region_last (fun w' => (∃ p v, TkW w' t k ck gd sz x p v S F) ∧ FrAt w' w.heap.size id false n d) 7 (by kernel_rfl) ⟨⟨_, _, HW0.out.below (kD w0)⟩, HF0.out.below (kD w0) HF0.out.lt⟩ (fun hHeld => ?_)
  have HW1 := Lib.hid (HW0.out.below (kD w0))
  have HF1 := Lib.hid (HF0.out.below (kD w0) HF0.out.lt)
  have HB1 := Lib.hid (kF (kD w0) HB0.out)
  generalize w0.drew = w1 at *
  refine wpAnyL_take (i := 0) (v := .pointer (some ⟨k, 0, none⟩)) rfl (by kernel_rfl) (by kernel_rfl) (by kernel_rfl) (by kernel_rfl) (by kernel_rfl) (fun _ _ _ h => h) (Or.inl ⟨by rfl, ?_⟩) (by assumption) ?_
  · intro wq hSw; (try dsimp only at hSw); first | (go_simp; done) | (go_simp; with_reducible rfl) | with_reducible rfl
  go_simp
  refine wpAnyL_take (i := 1) (v := .pointer (some ⟨k, 0, none⟩)) rfl (by kernel_rfl) (by kernel_rfl) (by kernel_rfl) (by kernel_rfl) (by kernel_rfl) (fun _ _ _ h => h) (Or.inl ⟨by rfl, ?_⟩) (by assumption) ?_
  · intro wq hSw; (try dsimp only at hSw); first | (go_simp; done) | (go_simp; with_reducible rfl) | with_reducible rfl
  go_simp
  refine wpAnyL_take (i := 2) (v := .pointer (some ⟨k, 0, none⟩)) rfl (by kernel_rfl) (by kernel_rfl) (by kernel_rfl) (by kernel_rfl) (by kernel_rfl) (fun _ _ _ h => h) (Or.inl ⟨by rfl, ?_⟩) (by assumption) ?_
  · intro wq hSw; (try dsimp only at hSw); first | (go_simp; done) | (go_simp; with_reducible rfl) | with_reducible rfl
  go_simp
  refine wpAnyL_take (i := 3) (v := .pointer (some ⟨ck, 0, none⟩)) rfl (by kernel_rfl) (by kernel_rfl) (by kernel_rfl) (by kernel_rfl) (by kernel_rfl) (fun _ _ _ h => h) (Or.inl ⟨by rfl, ?_⟩) (by assumption) ?_
  · intro wq hSw; (try dsimp only at hSw); obtain ⟨_, _, hSx⟩ := hSw.1; have c1 := hSx.cells.2.2.1; first | (go_simp; done) | (go_simp; with_reducible rfl) | with_reducible rfl
  go_simp
  refine wpAnyL_take (i := 4) rfl (by kernel_rfl) (by kernel_rfl) (by kernel_rfl) (by kernel_rfl) (by kernel_rfl) (fun _ _ _ h => h) (yieldsIf_load_mid (by kernel_rfl) _ (.tmp 3) rfl w.heap.size 0 rfl _ _ (fun w' h' => HFR.out w' h'.2) Try.underlying57 rfl HFI.out) (by assumption) ?_
  (try go_simp)
  (try simp only [Array.toArray_toList])
  refine wpAnyL_ready (rs := [5]) (by kernel_rfl) (by simp) ?_
  refine (AllReadyL.cons rfl (fun K hK => ?_) AllReadyL.nil)
  go_simp
  go_wp2_with fail
  refine (HBZ.out _).mono ?_
  rintro e w2 ⟨bg, rfl, hby, b2⟩
  have HY2 := Lib.hid hby
  have HW2 := Lib.hid (HW1.out.below b2)
  have HF2 := Lib.hid (HF1.out.below b2 HF1.out.lt)
  have HB2 := Lib.hid (kF b2 HB1.out)
  clear hby b2
  refine hK.out _ _ ?_ (fun hHeld => ?_)
  · (try dsimp only); exact ⟨⟨_, _, HW2.out⟩, HF2.out⟩
  clear hK K
  refine wpAnyL_ready (rs := [6]) (by kernel_rfl) (by simp) ?_
  refine (AllReadyL.cons rfl (fun K hK => ?_) AllReadyL.nil)
  go_simp
  go_wp2_with fail
  refine (plainU HW2.out.cs HY2.out HN8.out).mono ?_
  rintro e w3 ⟨rfl, hcs, ho⟩
  obtain ⟨cc, hcc⟩ := HW2.out.cs.ty
  have HW3 := Lib.hid (HW2.out.onc ho hcs)
  have HF3 := Lib.hid (show FrAt w3 w.heap.size id false n d from (ho.oth _ HF2.out.lt (ne_ty HF2.out hcc (by decide))).trans HF2.out)
  have HO3 := Lib.hid ((Onl.of HB2.out HGL.out).trans ho)
  clear hcs ho hcc
  refine hK.out _ _ ?_ (fun hHeld => ?_)
  · (try dsimp only); exact ⟨⟨_, _, HW3.out⟩, HF3.out⟩
  clear hK K
  refine wpAnyL_ready (rs := [7]) (by kernel_rfl) (by simp) ?_
  refine AllReadyL.last rfl (fun K hK => ?_)
  go_simp
  refine hK.out _ _ ?_
  clear hK K
  refine wpAnyL_done (by kernel_rfl) ?_ _
  clear hHeld
  go_wp2_with fail
  go_ret
  exact ⟨rfl, HW3.out, HO3.out⟩
set_option maxRecDepth 100000 in
set_option maxHeartbeats 8000000 in
theorem tell_turned (id : Int) (n : Nat) (d : Nat → Int) (h : TkW w t k ck gd sz x p v S F) (hc : chk id false n d = 0) (hd : ∀ j, j < 8 → 0 ≤ d j ∧ d j ≤ 255) (hi : id = x.turned) (hj : ¬ x.plain = x.turned) : Calls Try.prog 63 #[.pointer (some ⟨k, 0, none⟩), .agg (frA id false n d)] w fun e w' => e = .returned (.int .i64 (tuE sz p (bL n d))) ∧ TkW w' t k ck gd sz x (none) (tuV sz p (bL n d) v) S F ∧ Onl ck w w' := by
  have hb0 : Below w.heap.size w (w.alloc (.cells (frA id false n d) 57)) := (Below.refl _ _).alloc (Nat.le_refl _) _
  have hf0 : FrAt (w.alloc (.cells (frA id false n d) 57)) w.heap.size id false n d := heap_alloc_new w _
  have HW0 := Lib.hid (h.below hb0)
  have HF0 := Lib.hid hf0
  have HB0 := Lib.hid hb0
  have HGL := Lib.hid (Nat.le_of_lt h.cs.lt)
  have hk8 := (chk_len hc).2
  have HBY := Lib.hid (fun w => bytes_ok id n d w hc hd)
  have HN8 := Lib.hid (show n ≤ 1000 by omega)
  have HFI : Hid ((Try.prog.info? 57).map (·.size) = some (frA id false n d).toList.length) := Lib.hid info_frame
  obtain ⟨e0, e1, e2, e3, e4, e5⟩ := HW0.out.cells
  have g0 : (w.alloc (.cells (frA id false n d) 57)).cell? ⟨w.heap.size, 0, none⟩ = some (.int .i64 id) := hf0.cells.1
  have hij : ¬ id = x.plain := fun e => hj (e.symm.trans hi)
  have d1 : (id == x.plain) = false := by simpa using hij
  have d2 : (id == x.turned) = true := by simpa using hi
  clear hi hj hij
  have HFR := Lib.hid (fun (y : World) (hy : FrAt y w.heap.size id false n d) => fr_range hy)
  clear h hc hd hb0 hf0 hk8
  have HBZ : Hid (∀ w, Calls Try.prog 79 #[.agg (frA id false n d)] w fun e w' => ∃ g, e = .returned (.slice (some ⟨g, 0, none⟩) n n) ∧ Byt w' w'.heap.size (some ⟨g, 0, none⟩) n n (bL n d) ∧ Below w.heap.size w w') := HBY
  clear HBY
  generalize frA id false n d = FX at *
  go_enter Try.func63, Try.ntmps63
  go_upto_region 5 with fail
  generalize w.alloc (.cells FX 57) = w0 at *
  clear e0 e1 e2 e3 e4 e5 g0
  refine wp_region_last (fun w' => (∃ p v, TkW w' t k ck gd sz x p v S F) ∧ FrAt w' w.heap.size id false n d) 7 (by kernel_rfl) ⟨⟨_, _, HW0.out.below (kD w0)⟩, HF0.out.below (kD w0) HF0.out.lt⟩ (fun hHeld => ?_)
  have HW1 := Lib.hid (HW0.out.below (kD w0))
  have HF1 := Lib.hid (HF0.out.below (kD w0) HF0.out.lt)
  have HB1 := Lib.hid (kF (kD w0) HB0.out)
  generalize w0.drew = w1 at *
  refine wpAnyL_take (i := 0) (v := .pointer (some ⟨k, 0, none⟩)) rfl (by kernel_rfl) (by kernel_rfl) (by kernel_rfl) (by kernel_rfl) (by kernel_rfl) (fun _ _ _ h => h) (Or.inl ⟨by rfl, ?_⟩) (by assumption) ?_
  · intro wq hSw; (try dsimp only at hSw); first | (go_simp; done) | (go_simp; with_reducible rfl) | with_reducible rfl
  go_simp
  refine wpAnyL_take (i := 1) (v := .pointer (some ⟨k, 0, none⟩)) rfl (by kernel_rfl) (by kernel_rfl) (by kernel_rfl) (by kernel_rfl) (by kernel_rfl) (fun _ _ _ h => h) (Or.inl ⟨by rfl, ?_⟩) (by assumption) ?_
  · intro wq hSw; (try dsimp only at hSw); first | (go_simp; done) | (go_simp; with_reducible rfl) | with_reducible rfl
  go_simp
  refine wpAnyL_take (i := 2) (v := .pointer (some ⟨k, 0, none⟩)) rfl (by kernel_rfl) (by kernel_rfl) (by kernel_rfl) (by kernel_rfl) (by kernel_rfl) (fun _ _ _ h => h) (Or.inl ⟨by rfl, ?_⟩) (by assumption) ?_
  · intro wq hSw; (try dsimp only at hSw); first | (go_simp; done) | (go_simp; with_reducible rfl) | with_reducible rfl
  go_simp
  refine wpAnyL_take (i := 3) (v := .pointer (some ⟨ck, 0, none⟩)) rfl (by kernel_rfl) (by kernel_rfl) (by kernel_rfl) (by kernel_rfl) (by kernel_rfl) (fun _ _ _ h => h) (Or.inl ⟨by rfl, ?_⟩) (by assumption) ?_
  · intro wq hSw; (try dsimp only at hSw); obtain ⟨_, _, hSx⟩ := hSw.1; have c1 := hSx.cells.2.2.1; first | (go_simp; done) | (go_simp; with_reducible rfl) | with_reducible rfl
  go_simp
  refine wpAnyL_take (i := 4) rfl (by kernel_rfl) (by kernel_rfl) (by kernel_rfl) (by kernel_rfl) (by kernel_rfl) (fun _ _ _ h => h) (yieldsIf_load_mid (by kernel_rfl) _ (.tmp 3) rfl w.heap.size 0 rfl _ _ (fun w' h' => HFR.out w' h'.2) Try.underlying57 rfl HFI.out) (by assumption) ?_
  (try go_simp)
  (try simp only [Array.toArray_toList])
  refine wpAnyL_ready (rs := [5]) (by kernel_rfl) (by simp) ?_
  refine (AllReadyL.cons rfl (fun K hK => ?_) AllReadyL.nil)
  go_simp
  go_wp2_with fail
  refine (HBZ.out _).mono ?_
  rintro e w2 ⟨bg, rfl, hby, b2⟩
  have HY2 := Lib.hid hby
  have HW2 := Lib.hid (HW1.out.below b2)
  have HF2 := Lib.hid (HF1.out.below b2 HF1.out.lt)
  have HB2 := Lib.hid (kF b2 HB1.out)
  clear hby b2
  refine hK.out _ _ ?_ (fun hHeld => ?_)
  · (try dsimp only); exact ⟨⟨_, _, HW2.out⟩, HF2.out⟩
  clear hK K
  refine wpAnyL_ready (rs := [6]) (by kernel_rfl) (by simp) ?_
  refine (AllReadyL.cons rfl (fun K hK => ?_) AllReadyL.nil)
  go_simp
  go_wp2_with fail
  refine (turnedU HW2.out.cs HY2.out HN8.out).mono ?_
  rintro e w3 ⟨rfl, hcs, ho⟩
  obtain ⟨cc, hcc⟩ := HW2.out.cs.ty
  have HW3 := Lib.hid (HW2.out.onc ho hcs)
  have HF3 := Lib.hid (show FrAt w3 w.heap.size id false n d from (ho.oth _ HF2.out.lt (ne_ty HF2.out hcc (by decide))).trans HF2.out)
  have HO3 := Lib.hid ((Onl.of HB2.out HGL.out).trans ho)
  clear hcs ho hcc
  refine hK.out _ _ ?_ (fun hHeld => ?_)
  · (try dsimp only); exact ⟨⟨_, _, HW3.out⟩, HF3.out⟩
  clear hK K
  refine wpAnyL_ready (rs := [7]) (by kernel_rfl) (by simp) ?_
  refine AllReadyL.last rfl (fun K hK => ?_)
  go_simp
  refine hK.out _ _ ?_
  clear hK K
  refine wpAnyL_done (by kernel_rfl) ?_ _
  clear hHeld
  go_wp2_with fail
  go_ret
  exact ⟨rfl, HW3.out, HO3.out⟩
theorem tell_none (id : Int) (n : Nat) (d : Nat → Int) (h : TkW w t k ck gd sz x p v S F) (hi : ¬ id = x.plain) (hj : ¬ id = x.turned) : Calls Try.prog 63 #[.pointer (some ⟨k, 0, none⟩), .agg (frA id false n d)] w fun e w' => e = .returned (.int .i64 0) ∧ TkW w' t k ck gd sz x p v S F ∧ Onl ck w w' := by
  have hb0 : Below w.heap.size w (w.alloc (.cells (frA id false n d) 57)) := (Below.refl _ _).alloc (Nat.le_refl _) _
  have hf0 : FrAt (w.alloc (.cells (frA id false n d) 57)) w.heap.size id false n d := heap_alloc_new w _
  have HW0 := Lib.hid (h.below hb0)
  have HO := Lib.hid (Onl.of hb0 (Nat.le_of_lt h.cs.lt))
  obtain ⟨e0, e1, e2, e3, e4, e5⟩ := HW0.out.cells
  have g0 : (w.alloc (.cells (frA id false n d) 57)).cell? ⟨w.heap.size, 0, none⟩ = some (.int .i64 id) := hf0.cells.1
  have d1 : (id == x.plain) = false := by simpa using hi
  have d2 : (id == x.turned) = false := by simpa using hj
  clear h hb0 hf0
  generalize frA id false n d = FX at *
  go_enter Try.func63, Try.ntmps63
  go_wp2_with fail
  go_ret
  exact ⟨rfl, HW0.out, HO.out⟩
set_option maxRecDepth 100000 in
set_option maxHeartbeats 8000000 in
theorem hear_first (now : Int) (id : Int) (n : Nat) (d : Nat → Int) {p2 : Option (List Int)} {v2 : List Int} (h : TkW w t k ck gd sz x p v S F) (hc : chk id false n d = 0) (hn : 0 ≤ now ∧ now ≤ 2147483647) (hS : 0 ≤ S ∨ S = -1) 
    (hT : ∀ {y : World}, TkW y t k ck gd sz x p v S F → Calls Try.prog 63 #[.pointer (some ⟨k, 0, none⟩), .agg (frA id false n d)] y fun e w' => e = .returned (.int .i64 1) ∧ TkW w' t k ck gd sz x p2 v2 S F ∧ Onl ck y w') :
    Calls Try.prog 32 #[.pointer (some ⟨t, 0, none⟩), .int .i64 now, .agg (frA id false n d)] w fun e w' => e = .returned (.tuple #[.slice none 0 0, .int .i64 0]) ∧ TkW w' t k ck gd sz x p2 v2 S (hfF S F now) ∧ Oth3 t ck gd w w' := by
  have hb0 : Below w.heap.size w (w.alloc (.cells (frA id false n d) 57)) := (Below.refl _ _).alloc (Nat.le_refl _) _
  have hf0 : FrAt (w.alloc (.cells (frA id false n d) 57)) w.heap.size id false n d := heap_alloc_new w _
  have HTL := Lib.hid h.lt
  have HW0 := Lib.hid (h.below hb0)
  have HF0 := Lib.hid hf0
  have HB0 := Lib.hid hb0
  have HTI := Lib.hid (fun w => ctick_any now w)
  rw [show tkB now = true from decide_eq_true hn] at HTI
  have HCK : Hid (∀ w, Calls Try.prog 62 #[.agg (frA id false n d)] w fun e w' => e = .returned (.int .i64 0) ∧ Below w.heap.size w w') := Lib.hid (fun w => by have := check_any id n false d w; rw [hc] at this; exact this)
  have HFI : Hid ((Try.prog.info? 57).map (·.size) = some (frA id false n d).toList.length) := Lib.hid info_frame
  have HFR := Lib.hid (fun (y : World) (hy : FrAt y w.heap.size id false n d) => fr_range hy)
  have HTE := Lib.hid (fun (y : World) (hy : TkW y t k ck gd sz x p v S F) => hT hy)
  clear h hb0 hf0 hc hT
  generalize frA id false n d = FX at *
  go_enter Try.func32, Try.ntmps32
  go_upto_region 3 with (first
    | (go_at_call 36; refine (works_yes HW0.out).mono ?_; rintro e wz ⟨rfl, rfl⟩)
    | (go_at_call 56; refine (HTI.out _).mono ?_; rintro e wz ⟨rfl, rfl⟩)
    | (refine wpList_load_mid_want (by kernel_rfl) _ (.tmp 5) rfl w.heap.size 0 rfl FX.toList _ (HFR.out _ HF0.out) Try.underlying57 rfl HFI.out ?_; (try simp only [Array.toArray_toList]))
    | (go_at_call 62; refine (HCK.out _).mono ?_; rintro e w1 ⟨rfl, b1⟩; have HW1 := Lib.hid (HW0.out.below b1); have HF1 := Lib.hid (HF0.out.below b1 HF0.out.lt); have HB1 := Lib.hid (kF b1 HB0.out); have g1 := HF1.out.cells.2.1; clear b1))
  clear g1
  refine wp_region_last (fun w' => (∃ p v, TkW w' t k ck gd sz x p v S F) ∧ FrAt w' w.heap.size id false n d) 6 (by kernel_rfl) ⟨⟨_, _, HW1.out.below (kD w1)⟩, HF1.out.below (kD w1) HF1.out.lt⟩ (fun hHeld => ?_)
  have HW2 := Lib.hid (HW1.out.below (kD w1))
  have HF2 := Lib.hid (HF1.out.below (kD w1) HF1.out.lt)
  have HB2 := Lib.hid (kF (kD w1) HB1.out)
  generalize w1.drew = w2 at *
  refine wpAnyL_take (i := 0) (v := .pointer (some ⟨t, 0, none⟩)) rfl (by kernel_rfl) (by kernel_rfl) (by kernel_rfl) (by kernel_rfl) (by kernel_rfl) (fun _ _ _ h => h) (Or.inl ⟨by rfl, ?_⟩) (by assumption) ?_
  · intro wq hSw; (try dsimp only at hSw); first | (go_simp; done) | (go_simp; with_reducible rfl) | with_reducible rfl
  go_simp
  refine wpAnyL_take (i := 1) (v := .pointer (some ⟨t, 0, none⟩)) rfl (by kernel_rfl) (by kernel_rfl) (by kernel_rfl) (by kernel_rfl) (by kernel_rfl) (fun _ _ _ h => h) (Or.inl ⟨by rfl, ?_⟩) (by assumption) ?_
  · intro wq hSw; (try dsimp only at hSw); first | (go_simp; done) | (go_simp; with_reducible rfl) | with_reducible rfl
  go_simp
  refine wpAnyL_take (i := 2) (v := .pointer (some ⟨t, 0, none⟩)) rfl (by kernel_rfl) (by kernel_rfl) (by kernel_rfl) (by kernel_rfl) (by kernel_rfl) (fun _ _ _ h => h) (Or.inl ⟨by rfl, ?_⟩) (by assumption) ?_
  · intro wq hSw; (try dsimp only at hSw); first | (go_simp; done) | (go_simp; with_reducible rfl) | with_reducible rfl
  go_simp
  refine wpAnyL_take (i := 3) (v := .pointer (some ⟨k, 0, none⟩)) rfl (by kernel_rfl) (by kernel_rfl) (by kernel_rfl) (by kernel_rfl) (by kernel_rfl) (fun _ _ _ h => h) (Or.inl ⟨by rfl, ?_⟩) (by assumption) ?_
  · intro wq hSw; (try dsimp only at hSw); obtain ⟨_, _, hSx⟩ := hSw.1; have c1 := hSx.cells.1; first | (go_simp; done) | (go_simp; with_reducible rfl) | with_reducible rfl
  go_simp
  refine wpAnyL_take (i := 4) rfl (by kernel_rfl) (by kernel_rfl) (by kernel_rfl) (by kernel_rfl) (by kernel_rfl) (fun _ _ _ h => h) (yieldsIf_load_mid (by kernel_rfl) _ (.tmp 5) rfl w.heap.size 0 rfl _ _ (fun w' h' => HFR.out w' h'.2) Try.underlying57 rfl HFI.out) (by assumption) ?_
  (try go_simp)
  (try simp only [Array.toArray_toList])
  refine wpAnyL_ready (rs := [5]) (by kernel_rfl) (by simp) ?_
  refine (AllReadyL.cons rfl (fun K hK => ?_) AllReadyL.nil)
  go_simp
  go_wp2_with fail
  refine (HTE.out _ HW2.out).mono ?_
  rintro e w3 ⟨rfl, hw3, ho⟩
  obtain ⟨cc, hcc⟩ := HW2.out.cs.ty
  have HCL := Lib.hid (Nat.le_of_lt HW2.out.cs.lt)
  have HW3 := Lib.hid hw3
  have HF3 := Lib.hid (show FrAt w3 w.heap.size id false n d from (ho.oth _ HF2.out.lt (ne_ty HF2.out hcc (by decide))).trans HF2.out)
  have HO3 := Lib.hid ho
  clear hw3 ho hcc
  refine hK.out _ _ ?_ (fun hHeld => ?_)
  · (try dsimp only); exact ⟨⟨_, _, HW3.out⟩, HF3.out⟩
  clear hK K
  refine wpAnyL_ready (rs := [6]) (by kernel_rfl) (by simp) ?_
  refine AllReadyL.last rfl (fun K hK => ?_)
  go_simp
  refine hK.out _ _ ?_
  clear hK K
  refine wpAnyL_done (by kernel_rfl) ?_ _
  clear hHeld
  obtain ⟨e0, e1, e2, e3, e4, e5⟩ := HW3.out.cells
  go_wp2_with (first
    | (go_at_call 64; refine (halfG now HW3.out.gs hS hn.1 hn.2).mono ?_; rintro e w4 ⟨rfl, hg4, o4⟩; have HW4 := Lib.hid (HW3.out.ong o4 hg4); have HO4 := Lib.hid o4; clear hg4 o4)
    | (go_at_call 67; refine (cause_any 1 _).mono ?_; rintro e wz ⟨rfl, rfl⟩; rw [show cauE 1 = 0 from rfl])
    | (go_at_call 58; refine (fail_no _ _).mono ?_; rintro e wz ⟨rfl, rfl⟩))
  go_ret2
  exact ⟨rfl, HW4.out, ((Oth3.below HB2.out).trans (Oth3.oc HO3.out)).trans (Oth3.og HO4.out)⟩
set_option maxRecDepth 100000 in
set_option maxHeartbeats 8000000 in
theorem hear_good (now : Int) (id : Int) (n : Nat) (d : Nat → Int) {p2 : Option (List Int)} {v2 : List Int} (h : TkW w t k ck gd sz x p v S F) (hc : chk id false n d = 0) (hn : 0 ≤ now ∧ now ≤ 2147483647) (hS : 0 ≤ S ∨ S = -1) 
    (hT : ∀ {y : World}, TkW y t k ck gd sz x p v S F → Calls Try.prog 63 #[.pointer (some ⟨k, 0, none⟩), .agg (frA id false n d)] y fun e w' => e = .returned (.int .i64 2) ∧ TkW w' t k ck gd sz x p2 v2 S F ∧ Onl ck y w') :
    Calls Try.prog 32 #[.pointer (some ⟨t, 0, none⟩), .int .i64 now, .agg (frA id false n d)] w fun e w' => ∃ A c, e = .returned (.tuple #[.slice A v2.length c, .int .i64 0]) ∧ Byt w' w'.heap.size A v2.length c v2 ∧ TkW w' t k ck gd sz x p2 v2 (whS S now) (whF S F) ∧ Oth3 t ck gd w w' := by
  have hb0 : Below w.heap.size w (w.alloc (.cells (frA id false n d) 57)) := (Below.refl _ _).alloc (Nat.le_refl _) _
  have hf0 : FrAt (w.alloc (.cells (frA id false n d) 57)) w.heap.size id false n d := heap_alloc_new w _
  have HTL := Lib.hid h.lt
  have HW0 := Lib.hid (h.below hb0)
  have HF0 := Lib.hid hf0
  have HB0 := Lib.hid hb0
  have HTI := Lib.hid (fun w => ctick_any now w)
  rw [show tkB now = true from decide_eq_true hn] at HTI
  have HCK : Hid (∀ w, Calls Try.prog 62 #[.agg (frA id false n d)] w fun e w' => e = .returned (.int .i64 0) ∧ Below w.heap.size w w') := Lib.hid (fun w => by have := check_any id n false d w; rw [hc] at this; exact this)
  have HFI : Hid ((Try.prog.info? 57).map (·.size) = some (frA id false n d).toList.length) := Lib.hid info_frame
  have HFR := Lib.hid (fun (y : World) (hy : FrAt y w.heap.size id false n d) => fr_range hy)
  have HTE := Lib.hid (fun (y : World) (hy : TkW y t k ck gd sz x p v S F) => hT hy)
  clear h hb0 hf0 hc hT
  generalize frA id false n d = FX at *
  go_enter Try.func32, Try.ntmps32
  go_upto_region 3 with (first
    | (go_at_call 36; refine (works_yes HW0.out).mono ?_; rintro e wz ⟨rfl, rfl⟩)
    | (go_at_call 56; refine (HTI.out _).mono ?_; rintro e wz ⟨rfl, rfl⟩)
    | (refine wpList_load_mid_want (by kernel_rfl) _ (.tmp 5) rfl w.heap.size 0 rfl FX.toList _ (HFR.out _ HF0.out) Try.underlying57 rfl HFI.out ?_; (try simp only [Array.toArray_toList]))
    | (go_at_call 62; refine (HCK.out _).mono ?_; rintro e w1 ⟨rfl, b1⟩; have HW1 := Lib.hid (HW0.out.below b1); have HF1 := Lib.hid (HF0.out.below b1 HF0.out.lt); have HB1 := Lib.hid (kF b1 HB0.out); have g1 := HF1.out.cells.2.1; clear b1))
  clear g1
  refine wp_region_last (fun w' => (∃ p v, TkW w' t k ck gd sz x p v S F) ∧ FrAt w' w.heap.size id false n d) 6 (by kernel_rfl) ⟨⟨_, _, HW1.out.below (kD w1)⟩, HF1.out.below (kD w1) HF1.out.lt⟩ (fun hHeld => ?_)
  have HW2 := Lib.hid (HW1.out.below (kD w1))
  have HF2 := Lib.hid (HF1.out.below (kD w1) HF1.out.lt)
  have HB2 := Lib.hid (kF (kD w1) HB1.out)
  generalize w1.drew = w2 at *
  refine wpAnyL_take (i := 0) (v := .pointer (some ⟨t, 0, none⟩)) rfl (by kernel_rfl) (by kernel_rfl) (by kernel_rfl) (by kernel_rfl) (by kernel_rfl) (fun _ _ _ h => h) (Or.inl ⟨by rfl, ?_⟩) (by assumption) ?_
  · intro wq hSw; (try dsimp only at hSw); first | (go_simp; done) | (go_simp; with_reducible rfl) | with_reducible rfl
  go_simp
  refine wpAnyL_take (i := 1) (v := .pointer (some ⟨t, 0, none⟩)) rfl (by kernel_rfl) (by kernel_rfl) (by kernel_rfl) (by kernel_rfl) (by kernel_rfl) (fun _ _ _ h => h) (Or.inl ⟨by rfl, ?_⟩) (by assumption) ?_
  · intro wq hSw; (try dsimp only at hSw); first | (go_simp; done) | (go_simp; with_reducible rfl) | with_reducible rfl
  go_simp
  refine wpAnyL_take (i := 2) (v := .pointer (some ⟨t, 0, none⟩)) rfl (by kernel_rfl) (by kernel_rfl) (by kernel_rfl) (by kernel_rfl) (by kernel_rfl) (fun _ _ _ h => h) (Or.inl ⟨by rfl, ?_⟩) (by assumption) ?_
  · intro wq hSw; (try dsimp only at hSw); first | (go_simp; done) | (go_simp; with_reducible rfl) | with_reducible rfl
  go_simp
  refine wpAnyL_take (i := 3) (v := .pointer (some ⟨k, 0, none⟩)) rfl (by kernel_rfl) (by kernel_rfl) (by kernel_rfl) (by kernel_rfl) (by kernel_rfl) (fun _ _ _ h => h) (Or.inl ⟨by rfl, ?_⟩) (by assumption) ?_
  · intro wq hSw; (try dsimp only at hSw); obtain ⟨_, _, hSx⟩ := hSw.1; have c1 := hSx.cells.1; first | (go_simp; done) | (go_simp; with_reducible rfl) | with_reducible rfl
  go_simp
  refine wpAnyL_take (i := 4) rfl (by kernel_rfl) (by kernel_rfl) (by kernel_rfl) (by kernel_rfl) (by kernel_rfl) (fun _ _ _ h => h) (yieldsIf_load_mid (by kernel_rfl) _ (.tmp 5) rfl w.heap.size 0 rfl _ _ (fun w' h' => HFR.out w' h'.2) Try.underlying57 rfl HFI.out) (by assumption) ?_
  (try go_simp)
  (try simp only [Array.toArray_toList])
  refine wpAnyL_ready (rs := [5]) (by kernel_rfl) (by simp) ?_
  refine (AllReadyL.cons rfl (fun K hK => ?_) AllReadyL.nil)
  go_simp
  go_wp2_with fail
  refine (HTE.out _ HW2.out).mono ?_
  rintro e w3 ⟨rfl, hw3, ho⟩
  obtain ⟨cc, hcc⟩ := HW2.out.cs.ty
  have HCL := Lib.hid (Nat.le_of_lt HW2.out.cs.lt)
  have HW3 := Lib.hid hw3
  have HF3 := Lib.hid (show FrAt w3 w.heap.size id false n d from (ho.oth _ HF2.out.lt (ne_ty HF2.out hcc (by decide))).trans HF2.out)
  have HO3 := Lib.hid ho
  clear hw3 ho hcc
  refine hK.out _ _ ?_ (fun hHeld => ?_)
  · (try dsimp only); exact ⟨⟨_, _, HW3.out⟩, HF3.out⟩
  clear hK K
  refine wpAnyL_ready (rs := [6]) (by kernel_rfl) (by simp) ?_
  refine AllReadyL.last rfl (fun K hK => ?_)
  go_simp
  refine hK.out _ _ ?_
  clear hK K
  refine wpAnyL_done (by kernel_rfl) ?_ _
  clear hHeld
  obtain ⟨e0, e1, e2, e3, e4, e5⟩ := HW3.out.cells
  go_wp2_with (first
    | (go_at_call 65; refine (wholeG now HW3.out.gs hS hn.1 hn.2).mono ?_; rintro e w4 ⟨rfl, hg4, o4⟩; have HW4 := Lib.hid (HW3.out.ong o4 hg4); have HO4 := Lib.hid o4; clear hg4 o4 e0 e1 e2 e3 e4 e5; obtain ⟨e0, e1, e2, e3, e4, e5⟩ := HW4.out.cells)
    | (go_at_call 66; refine (valueU HW4.out.cs).mono ?_; rintro e w5 ⟨VA, vc, rfl, hy5, b5⟩; have HY5 := Lib.hid hy5; have HW5 := Lib.hid (HW4.out.below b5); have HB5 := Lib.hid b5; clear hy5 b5))
  go_ret2
  exact ⟨VA, vc, rfl, HY5.out, HW5.out, (((Oth3.below HB2.out).trans (Oth3.oc HO3.out)).trans (Oth3.og HO4.out)).trans (Oth3.below HB5.out)⟩
set_option maxRecDepth 100000 in
set_option maxHeartbeats 8000000 in
theorem hear_bad (now : Int) (id : Int) (n : Nat) (d : Nat → Int) {p2 : Option (List Int)} {v2 : List Int} (h : TkW w t k ck gd sz x p v S F) (hc : chk id false n d = 0) (hn : 0 ≤ now ∧ now ≤ 2147483647) (hS : 0 ≤ S ∨ S = -1) {c9 : Int} (hc9 : 3 ≤ c9 ∧ c9 ≤ 5)
    (hT : ∀ {y : World}, TkW y t k ck gd sz x p v S F → Calls Try.prog 63 #[.pointer (some ⟨k, 0, none⟩), .agg (frA id false n d)] y fun e w' => e = .returned (.int .i64 c9) ∧ TkW w' t k ck gd sz x p2 v2 S F ∧ Onl ck y w') :
    Calls Try.prog 32 #[.pointer (some ⟨t, 0, none⟩), .int .i64 now, .agg (frA id false n d)] w fun e w' => e = .returned (.tuple #[.slice none 0 0, .int .i64 (c9 - 2)]) ∧ TkR w' t (c9 - 2) ∧ Oth3 t ck gd w w' := by
  have hb0 : Below w.heap.size w (w.alloc (.cells (frA id false n d) 57)) := (Below.refl _ _).alloc (Nat.le_refl _) _
  have hf0 : FrAt (w.alloc (.cells (frA id false n d) 57)) w.heap.size id false n d := heap_alloc_new w _
  have HTL := Lib.hid h.lt
  have HW0 := Lib.hid (h.below hb0)
  have HF0 := Lib.hid hf0
  have HB0 := Lib.hid hb0
  have HTI := Lib.hid (fun w => ctick_any now w)
  rw [show tkB now = true from decide_eq_true hn] at HTI
  have HCK : Hid (∀ w, Calls Try.prog 62 #[.agg (frA id false n d)] w fun e w' => e = .returned (.int .i64 0) ∧ Below w.heap.size w w') := Lib.hid (fun w => by have := check_any id n false d w; rw [hc] at this; exact this)
  have HFI : Hid ((Try.prog.info? 57).map (·.size) = some (frA id false n d).toList.length) := Lib.hid info_frame
  have HFR := Lib.hid (fun (y : World) (hy : FrAt y w.heap.size id false n d) => fr_range hy)
  have HTE := Lib.hid (fun (y : World) (hy : TkW y t k ck gd sz x p v S F) => hT hy)
  clear h hb0 hf0 hc hT
  generalize frA id false n d = FX at *
  go_enter Try.func32, Try.ntmps32
  go_upto_region 3 with (first
    | (go_at_call 36; refine (works_yes HW0.out).mono ?_; rintro e wz ⟨rfl, rfl⟩)
    | (go_at_call 56; refine (HTI.out _).mono ?_; rintro e wz ⟨rfl, rfl⟩)
    | (refine wpList_load_mid_want (by kernel_rfl) _ (.tmp 5) rfl w.heap.size 0 rfl FX.toList _ (HFR.out _ HF0.out) Try.underlying57 rfl HFI.out ?_; (try simp only [Array.toArray_toList]))
    | (go_at_call 62; refine (HCK.out _).mono ?_; rintro e w1 ⟨rfl, b1⟩; have HW1 := Lib.hid (HW0.out.below b1); have HF1 := Lib.hid (HF0.out.below b1 HF0.out.lt); have HB1 := Lib.hid (kF b1 HB0.out); have g1 := HF1.out.cells.2.1; clear b1))
  clear g1
  refine wp_region_last (fun w' => (∃ p v, TkW w' t k ck gd sz x p v S F) ∧ FrAt w' w.heap.size id false n d) 6 (by kernel_rfl) ⟨⟨_, _, HW1.out.below (kD w1)⟩, HF1.out.below (kD w1) HF1.out.lt⟩ (fun hHeld => ?_)
  have HW2 := Lib.hid (HW1.out.below (kD w1))
  have HF2 := Lib.hid (HF1.out.below (kD w1) HF1.out.lt)
  have HB2 := Lib.hid (kF (kD w1) HB1.out)
  generalize w1.drew = w2 at *
  refine wpAnyL_take (i := 0) (v := .pointer (some ⟨t, 0, none⟩)) rfl (by kernel_rfl) (by kernel_rfl) (by kernel_rfl) (by kernel_rfl) (by kernel_rfl) (fun _ _ _ h => h) (Or.inl ⟨by rfl, ?_⟩) (by assumption) ?_
  · intro wq hSw; (try dsimp only at hSw); first | (go_simp; done) | (go_simp; with_reducible rfl) | with_reducible rfl
  go_simp
  refine wpAnyL_take (i := 1) (v := .pointer (some ⟨t, 0, none⟩)) rfl (by kernel_rfl) (by kernel_rfl) (by kernel_rfl) (by kernel_rfl) (by kernel_rfl) (fun _ _ _ h => h) (Or.inl ⟨by rfl, ?_⟩) (by assumption) ?_
  · intro wq hSw; (try dsimp only at hSw); first | (go_simp; done) | (go_simp; with_reducible rfl) | with_reducible rfl
  go_simp
  refine wpAnyL_take (i := 2) (v := .pointer (some ⟨t, 0, none⟩)) rfl (by kernel_rfl) (by kernel_rfl) (by kernel_rfl) (by kernel_rfl) (by kernel_rfl) (fun _ _ _ h => h) (Or.inl ⟨by rfl, ?_⟩) (by assumption) ?_
  · intro wq hSw; (try dsimp only at hSw); first | (go_simp; done) | (go_simp; with_reducible rfl) | with_reducible rfl
  go_simp
  refine wpAnyL_take (i := 3) (v := .pointer (some ⟨k, 0, none⟩)) rfl (by kernel_rfl) (by kernel_rfl) (by kernel_rfl) (by kernel_rfl) (by kernel_rfl) (fun _ _ _ h => h) (Or.inl ⟨by rfl, ?_⟩) (by assumption) ?_
  · intro wq hSw; (try dsimp only at hSw); obtain ⟨_, _, hSx⟩ := hSw.1; have c1 := hSx.cells.1; first | (go_simp; done) | (go_simp; with_reducible rfl) | with_reducible rfl
  go_simp
  refine wpAnyL_take (i := 4) rfl (by kernel_rfl) (by kernel_rfl) (by kernel_rfl) (by kernel_rfl) (by kernel_rfl) (fun _ _ _ h => h) (yieldsIf_load_mid (by kernel_rfl) _ (.tmp 5) rfl w.heap.size 0 rfl _ _ (fun w' h' => HFR.out w' h'.2) Try.underlying57 rfl HFI.out) (by assumption) ?_
  (try go_simp)
  (try simp only [Array.toArray_toList])
  refine wpAnyL_ready (rs := [5]) (by kernel_rfl) (by simp) ?_
  refine (AllReadyL.cons rfl (fun K hK => ?_) AllReadyL.nil)
  go_simp
  go_wp2_with fail
  refine (HTE.out _ HW2.out).mono ?_
  rintro e w3 ⟨rfl, hw3, ho⟩
  obtain ⟨cc, hcc⟩ := HW2.out.cs.ty
  have HCL := Lib.hid (Nat.le_of_lt HW2.out.cs.lt)
  have HW3 := Lib.hid hw3
  have HF3 := Lib.hid (show FrAt w3 w.heap.size id false n d from (ho.oth _ HF2.out.lt (ne_ty HF2.out hcc (by decide))).trans HF2.out)
  have HO3 := Lib.hid ho
  clear hw3 ho hcc
  refine hK.out _ _ ?_ (fun hHeld => ?_)
  · (try dsimp only); exact ⟨⟨_, _, HW3.out⟩, HF3.out⟩
  clear hK K
  refine wpAnyL_ready (rs := [6]) (by kernel_rfl) (by simp) ?_
  refine AllReadyL.last rfl (fun K hK => ?_)
  go_simp
  refine hK.out _ _ ?_
  clear hK K
  refine wpAnyL_done (by kernel_rfl) ?_ _
  clear hHeld
  obtain ⟨e0, e1, e2, e3, e4, e5⟩ := HW3.out.cells
  have q1 : (c9 == 1) = false := by simp; omega
  have q2 : (c9 == 2) = false := by simp; omega
  have hcz : ¬ c9 - 2 = 0 := by omega
  have hce : cauE c9 = c9 - 2 := if_pos hc9
  go_wp2_with (first
    | (go_at_call 67; refine (cause_any c9 _).mono ?_; rintro e wz ⟨rfl, rfl⟩; rw [hce])
    | (go_at_call 58; refine (fail_yes HW3.out.tb hcz).mono ?_; rintro e w5 ⟨rfl, hr5, o5⟩; have HR5 := Lib.hid hr5; have HO5 := Lib.hid o5; clear hr5 o5))
  go_ret2
  exact ⟨rfl, HR5.out, ((Oth3.below HB2.out).trans (Oth3.oc HO3.out)).trans (Oth3.ot HO5.out)⟩
end
end Go.Proofs.Ytllaajkpobpeiaa
