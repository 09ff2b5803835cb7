/- A watch's calls: Hear. -/
import Derived.Test.YtiidgcgamcgipaaBx
import Derived.Deep.CutBlock
namespace Go.Proofs.Ytiidgcgamcgipaa
open Go.RowKit
set_option linter.unusedSimpArgs false
set_option linter.unusedVariables false

def EvAt (w : World) (g : Nat) (k n m : Int) : Prop := w.heap[g]? = some (.cells #[.int .i64 k, .int .i64 n, .int .i64 m] 57 (0, 0))
theorem EvAt.lt {w : World} {g : Nat} {k n m : Int} (h : EvAt w g k n m) : g < w.heap.size := (Array.getElem?_eq_some_iff.1 h).1
theorem EvAt.cells {w : World} {g : Nat} {k n m : Int} (h : EvAt w g k n m) : w.cell? ⟨g, 0, none⟩ = some (.int .i64 k) ∧ w.cell? ⟨g, 1, none⟩ = some (.int .i64 n) ∧ w.cell? ⟨g, 2, none⟩ = some (.int .i64 m) :=
  ⟨by rw [cell_of_row _ _ _ _ _ _ h]; rfl, by rw [cell_of_row _ _ _ _ _ _ h]; rfl, by rw [cell_of_row _ _ _ _ _ _ h]; rfl⟩
theorem EvAt.below {B g : Nat} {w w' : World} {k n m : Int} (h : EvAt w g k n m) (hb : Below B w w') (hg : g < B) : EvAt w' g k n m := (hb.block g hg).trans h
theorem EvAt.oth {g : Nat} {w w' : World} {k n m : Int} (h : EvAt w g k n m) (ho : OthW w w') : EvAt w' g k n m := ((ho _ (by decide) (by decide) (by decide) (by decide) (by decide) (by decide)).2 _ _ _ h).trans h
theorem FrAt.oth {g : Nat} {w w' : World} {id n : Int} {r : Bool} {d : Nat → Int} (h : FrAt w g id r n d) (ho : OthW w w') : FrAt w' g id r n d := ((ho _ (by decide) (by decide) (by decide) (by decide) (by decide) (by decide)).2 _ _ _ h).trans h
theorem info_event : (Try.prog.info? 57).map (·.size) = some 3 := by kernel_rfl
theorem one_event (k n m : Int) : (#[.int .i64 k, .int .i64 n, .int .i64 m] : Array Value).all (·.oneCell') = true := by simp [Value.oneCell']
theorem kpt_setRow {td t : TypeId} {w : World} {g : Nat} {cs : Array Value} {fr : Nat × Nat} (hb : w.heap[g]? = some (.cells cs t fr)) (hne : t ≠ td) (cs' : Array Value) : KpT td w (w.setRow g cs') :=
  ⟨by simp, fun k cs2 fr2 hk => setRow_other w g k cs' (fun e => by subst e; rw [hb] at hk; cases hk; exact hne rfl)⟩
theorem OthW.setRow {w w' : World} {g : Nat} (h : OthW w w') (hg : w.heap.size ≤ g) (cs : Array Value) : OthW w (w'.setRow g cs) := fun td h1 h2 h3 h4 h5 h6 =>
  ⟨by simpa using (h td h1 h2 h3 h4 h5 h6).1, fun k cs2 fr2 hk => (setRow_other w' g k cs (by have := (Array.getElem?_eq_some_iff.1 hk).1; omega)).trans ((h td h1 h2 h3 h4 h5 h6).2 k cs2 fr2 hk)⟩
theorem WaG.kpt {w0 w w' : World} {g a b c s : Nat} {T M R : List (Int × Int)} (h : WaG w0 g a b c s T M R w) (hb : Below w0.heap.size w0 w') (h0 : KpT 86 w w') (h1 : KpT 95 w w') (h2 : KpT 98 w w') (h3 : KpT 103 w w') (h4 : KpT 111 w w') (h5 : KpT 106 w w') (h6 : KpT 109 w w') : WaG w0 g a b c s T M R w' := by
  obtain ⟨L, K, v1, v2, v3, v4, hw, ht⟩ := h.is
  exact ⟨⟨L, K, v1, v2, v3, v4, ⟨(h0.2 _ _ _ hw.box).trans hw.box, sh_kpt hw.ti h3 h4, sh_kpt hw.mo h5 h6, hw.tm.kpt h1 h2 h3 h4, hw.nas, hw.o14⟩, ht⟩, h.ga, h.gb, h.gc, h.gs, h.ge, hb, h.rt, h.rm⟩
theorem WaG.event {w0 w : World} {g a b c s q : Nat} {T M R : List (Int × Int)} {k n m : Int} (h : WaG w0 g a b c s T M R w) (hv : EvAt w q k n m) (hq : w0.heap.size ≤ q) (cs : Array Value) : WaG w0 g a b c s T M R (w.setRow q cs) :=
  h.kpt (below_setRow h.bel hq cs) (kpt_setRow hv (by decide) cs) (kpt_setRow hv (by decide) cs) (kpt_setRow hv (by decide) cs) (kpt_setRow hv (by decide) cs) (kpt_setRow hv (by decide) cs) (kpt_setRow hv (by decide) cs) (kpt_setRow hv (by decide) cs)
/-- What a beat tells. -/
def kindE (last : Int) (heard : Bool) (m : Int) : Int := if m = 0 then 3 else if heard = false then 2 else if m = last then 1 else 4
theorem kind_any (last : Int) (heard : Bool) (m : Int) (w : World) : Calls Try.prog 43 #[.int .i64 last, .bool heard, .int .i64 m] w fun e w' => e = .returned (.int .i64 (kindE last heard m)) ∧ w = w' := by
  by_cases h0 : m = 0
  · rw [show kindE last heard m = 3 from if_pos h0]
    subst h0
    go_enter Try.func43, Try.ntmps43; go_wp2; go_ret; exact ⟨rfl, rfl⟩
  · have t0 : (m == 0) = false := by simpa using h0
    cases heard with
    | false =>
      rw [show kindE last false m = 2 by unfold kindE; rw [if_neg h0, if_pos rfl]]
      clear h0
      go_enter Try.func43, Try.ntmps43; go_wp2; go_ret; exact ⟨rfl, rfl⟩
    | true =>
      by_cases h1 : m = last
      · rw [show kindE last true m = 1 by unfold kindE; rw [if_neg h0, if_neg (by simp), if_pos h1]]
        have t1 : (m != last) = false := by simpa using h1
        clear h0 h1
        go_enter Try.func43, Try.ntmps43; go_wp2; go_ret; exact ⟨rfl, rfl⟩
      · rw [show kindE last true m = 4 by unfold kindE; rw [if_neg h0, if_neg (by simp), if_neg h1]]
        have t1 : (m != last) = true := by simpa using h1
        clear h0 h1
        go_enter Try.func43, Try.ntmps43; go_wp2; go_ret; exact ⟨rfl, rfl⟩
set_option maxRecDepth 100000 in
set_option maxHeartbeats 2000000 in
theorem hear_nil (id n now : Int) (r : Bool) (d : Nat → Int) (w : World) (hd : ∀ j, j < 8 → 0 ≤ d j ∧ d j ≤ 255) :
    Calls Try.prog 20 #[.pointer none, .agg #[.int .i64 id, .bool r, .int .i64 n, .int .u8 (d 0), .int .u8 (d 1), .int .u8 (d 2), .int .u8 (d 3), .int .u8 (d 4), .int .u8 (d 5), .int .u8 (d 6), .int .u8 (d 7)], .int .i64 now] w fun e w' => e = .returned (.tuple #[.agg #[.int .i64 0, .int .i64 0, .int .i64 0], .bool false]) ∧ Below w.heap.size w w' := by
  have hf : FrAt ((w.alloc (.cells #[.int .i64 id, .bool r, .int .i64 n, .int .u8 (d 0), .int .u8 (d 1), .int .u8 (d 2), .int .u8 (d 3), .int .u8 (d 4), .int .u8 (d 5), .int .u8 (d 6), .int .u8 (d 7)] 24)).alloc (.cells #[.int .i64 0, .int .i64 0, .int .i64 0] 57)) w.heap.size id r n d := heap_alloc2_old w _ _
  have hev : EvAt ((w.alloc (.cells #[.int .i64 id, .bool r, .int .i64 n, .int .u8 (d 0), .int .u8 (d 1), .int .u8 (d 2), .int .u8 (d 3), .int .u8 (d 4), .int .u8 (d 5), .int .u8 (d 6), .int .u8 (d 7)] 24)).alloc (.cells #[.int .i64 0, .int .i64 0, .int .i64 0] 57)) (w.heap.size + 1) 0 0 0 := heap_alloc2_new w _ _
  have hb : Below w.heap.size w ((w.alloc (.cells #[.int .i64 id, .bool r, .int .i64 n, .int .u8 (d 0), .int .u8 (d 1), .int .u8 (d 2), .int .u8 (d 3), .int .u8 (d 4), .int .u8 (d 5), .int .u8 (d 6), .int .u8 (d 7)] 24)).alloc (.cells #[.int .i64 0, .int .i64 0, .int .i64 0] 57)) := ((Below.refl _ _).alloc (Nat.le_refl _) _).alloc (by simp) _
  have HD := Lib.hid (fun w => bdec_any id n r d w hd)

  have HF := Lib.hid hf
  have HV := Lib.hid hev
  have HB := Lib.hid hb
  clear hf hev hb hd
  go_enter Try.func20, Try.ntmps20
  go_wp2_with fail
  generalize ((w.alloc (.cells #[.int .i64 id, .bool r, .int .i64 n, .int .u8 (d 0), .int .u8 (d 1), .int .u8 (d 2), .int .u8 (d 3), .int .u8 (d 4), .int .u8 (d 5), .int .u8 (d 6), .int .u8 (d 7)] 24)).alloc (.cells #[.int .i64 0, .int .i64 0, .int .i64 0] 57)) = w1 at *
  refine (HD.out _).mono ?_
  rintro e w2 ⟨rfl, hb2⟩
  have HV2 := Lib.hid (HV.out.below hb2 HV.out.lt)
  have HB2 := Lib.hid (HB.out.trans (hb2.mono HB.out.size))
  clear hb2
  go_wp2_with (first
    | (refine wpList_store_row rfl _ (.tmp 6) (.tmp 32) rfl (w.heap.size + 1) _ rfl rfl _ _ HV2.out info_event rfl (one_event 0 0 0) ?_))
  all_goals exact bodyPost_ret (results_cell_tmp_row rfl _ _ (w.heap.size + 1) _ _ _ _ rfl (setRow_heap _ _ _ _ _ (0, 0) HV2.out) Try.underlying57 rfl info_event) rfl ⟨rfl, below_setRow HB2.out (by omega) _⟩
set_option maxRecDepth 100000 in
set_option maxHeartbeats 2000000 in
theorem hear_not (g : Nat) (id n now : Int) (r : Bool) (d : Nat → Int) (w : World) (hd : ∀ j, j < 8 → 0 ≤ d j ∧ d j ≤ 255) (hq : decB id r n d = false) :
    Calls Try.prog 20 #[.pointer (some ⟨g, 0, none⟩), .agg #[.int .i64 id, .bool r, .int .i64 n, .int .u8 (d 0), .int .u8 (d 1), .int .u8 (d 2), .int .u8 (d 3), .int .u8 (d 4), .int .u8 (d 5), .int .u8 (d 6), .int .u8 (d 7)], .int .i64 now] w fun e w' => e = .returned (.tuple #[.agg #[.int .i64 0, .int .i64 0, .int .i64 0], .bool false]) ∧ Below w.heap.size w w' := by
  have hf : FrAt ((w.alloc (.cells #[.int .i64 id, .bool r, .int .i64 n, .int .u8 (d 0), .int .u8 (d 1), .int .u8 (d 2), .int .u8 (d 3), .int .u8 (d 4), .int .u8 (d 5), .int .u8 (d 6), .int .u8 (d 7)] 24)).alloc (.cells #[.int .i64 0, .int .i64 0, .int .i64 0] 57)) w.heap.size id r n d := heap_alloc2_old w _ _
  have hev : EvAt ((w.alloc (.cells #[.int .i64 id, .bool r, .int .i64 n, .int .u8 (d 0), .int .u8 (d 1), .int .u8 (d 2), .int .u8 (d 3), .int .u8 (d 4), .int .u8 (d 5), .int .u8 (d 6), .int .u8 (d 7)] 24)).alloc (.cells #[.int .i64 0, .int .i64 0, .int .i64 0] 57)) (w.heap.size + 1) 0 0 0 := heap_alloc2_new w _ _
  have hb : Below w.heap.size w ((w.alloc (.cells #[.int .i64 id, .bool r, .int .i64 n, .int .u8 (d 0), .int .u8 (d 1), .int .u8 (d 2), .int .u8 (d 3), .int .u8 (d 4), .int .u8 (d 5), .int .u8 (d 6), .int .u8 (d 7)] 24)).alloc (.cells #[.int .i64 0, .int .i64 0, .int .i64 0] 57)) := ((Below.refl _ _).alloc (Nat.le_refl _) _).alloc (by simp) _
  have hdc := fun w => bdec_any id n r d w hd
  unfold bdN bdM bdE at hdc
  rw [hq] at hdc
  simp only [if_true, if_false, Bool.false_eq_true] at hdc
  have HD := Lib.hid hdc
  clear hdc hq

  have HF := Lib.hid hf
  have HV := Lib.hid hev
  have HB := Lib.hid hb
  clear hf hev hb hd
  go_enter Try.func20, Try.ntmps20
  go_wp2_with fail
  generalize ((w.alloc (.cells #[.int .i64 id, .bool r, .int .i64 n, .int .u8 (d 0), .int .u8 (d 1), .int .u8 (d 2), .int .u8 (d 3), .int .u8 (d 4), .int .u8 (d 5), .int .u8 (d 6), .int .u8 (d 7)] 24)).alloc (.cells #[.int .i64 0, .int .i64 0, .int .i64 0] 57)) = w1 at *
  refine (HD.out _).mono ?_
  rintro e w2 ⟨rfl, hb2⟩
  have HV2 := Lib.hid (HV.out.below hb2 HV.out.lt)
  have HB2 := Lib.hid (HB.out.trans (hb2.mono HB.out.size))
  clear hb2
  go_wp2_with (first
    | (refine wpList_store_row rfl _ (.tmp 6) (.tmp 32) rfl (w.heap.size + 1) _ rfl rfl _ _ HV2.out info_event rfl (one_event 0 0 0) ?_))
  all_goals exact bodyPost_ret (results_cell_tmp_row rfl _ _ (w.heap.size + 1) _ _ _ _ rfl (setRow_heap _ _ _ _ _ (0, 0) HV2.out) Try.underlying57 rfl info_event) rfl ⟨rfl, below_setRow HB2.out (by omega) _⟩
set_option maxRecDepth 100000 in
set_option maxHeartbeats 2000000 in
theorem hear_num (g : Nat) (id n now : Int) (r : Bool) (d : Nat → Int) (w : World) (hd : ∀ j, j < 8 → 0 ≤ d j ∧ d j ≤ 255) (hq : decB id r n d = true) (hx : isNu now = false) :
    Calls Try.prog 20 #[.pointer (some ⟨g, 0, none⟩), .agg #[.int .i64 id, .bool r, .int .i64 n, .int .u8 (d 0), .int .u8 (d 1), .int .u8 (d 2), .int .u8 (d 3), .int .u8 (d 4), .int .u8 (d 5), .int .u8 (d 6), .int .u8 (d 7)], .int .i64 now] w fun e w' => e = .returned (.tuple #[.agg #[.int .i64 0, .int .i64 0, .int .i64 0], .bool false]) ∧ Below w.heap.size w w' := by
  have hf : FrAt ((w.alloc (.cells #[.int .i64 id, .bool r, .int .i64 n, .int .u8 (d 0), .int .u8 (d 1), .int .u8 (d 2), .int .u8 (d 3), .int .u8 (d 4), .int .u8 (d 5), .int .u8 (d 6), .int .u8 (d 7)] 24)).alloc (.cells #[.int .i64 0, .int .i64 0, .int .i64 0] 57)) w.heap.size id r n d := heap_alloc2_old w _ _
  have hev : EvAt ((w.alloc (.cells #[.int .i64 id, .bool r, .int .i64 n, .int .u8 (d 0), .int .u8 (d 1), .int .u8 (d 2), .int .u8 (d 3), .int .u8 (d 4), .int .u8 (d 5), .int .u8 (d 6), .int .u8 (d 7)] 24)).alloc (.cells #[.int .i64 0, .int .i64 0, .int .i64 0] 57)) (w.heap.size + 1) 0 0 0 := heap_alloc2_new w _ _
  have hb : Below w.heap.size w ((w.alloc (.cells #[.int .i64 id, .bool r, .int .i64 n, .int .u8 (d 0), .int .u8 (d 1), .int .u8 (d 2), .int .u8 (d 3), .int .u8 (d 4), .int .u8 (d 5), .int .u8 (d 6), .int .u8 (d 7)] 24)).alloc (.cells #[.int .i64 0, .int .i64 0, .int .i64 0] 57)) := ((Below.refl _ _).alloc (Nat.le_refl _) _).alloc (by simp) _
  have hdc := fun w => bdec_any id n r d w hd
  unfold bdN bdM bdE at hdc
  rw [hq] at hdc
  simp only [if_true, if_false, Bool.false_eq_true] at hdc
  have HD := Lib.hid hdc
  clear hdc hq
  have hX := bnum_any now
  rw [hx] at hX
  have HX := Lib.hid hX
  clear hX hx

  have HF := Lib.hid hf
  have HV := Lib.hid hev
  have HB := Lib.hid hb
  clear hf hev hb hd
  go_enter Try.func20, Try.ntmps20
  go_wp2_with fail
  generalize ((w.alloc (.cells #[.int .i64 id, .bool r, .int .i64 n, .int .u8 (d 0), .int .u8 (d 1), .int .u8 (d 2), .int .u8 (d 3), .int .u8 (d 4), .int .u8 (d 5), .int .u8 (d 6), .int .u8 (d 7)] 24)).alloc (.cells #[.int .i64 0, .int .i64 0, .int .i64 0] 57)) = w1 at *
  refine (HD.out _).mono ?_
  rintro e w2 ⟨rfl, hb2⟩
  have HV2 := Lib.hid (HV.out.below hb2 HV.out.lt)
  have HB2 := Lib.hid (HB.out.trans (hb2.mono HB.out.size))
  clear hb2
  go_wp2_with (first
    | (go_at_call 29; refine (HX.out _).mono ?_; rintro e w3 ⟨rfl, rfl⟩)
    | (refine wpList_store_row rfl _ (.tmp 6) (.tmp 32) rfl (w.heap.size + 1) _ rfl rfl _ _ HV2.out info_event rfl (one_event 0 0 0) ?_))
  all_goals exact bodyPost_ret (results_cell_tmp_row rfl _ _ (w.heap.size + 1) _ _ _ _ rfl (setRow_heap _ _ _ _ _ (0, 0) HV2.out) Try.underlying57 rfl info_event) rfl ⟨rfl, below_setRow HB2.out (by omega) _⟩
set_option maxRecDepth 100000 in
set_option maxHeartbeats 2000000 in
theorem hear_unw (w0 w : World) (g a b c s : Nat) (T M R : List (Int × Int)) (id n now : Int) (r : Bool) (d : Nat → Int) (hd : ∀ j, j < 8 → 0 ≤ d j ∧ d j ≤ 255) (h : WaG w0 g a b c s T M R w) (hT : T.length ≤ 700) (hq : decB id r n d = true) (hx : isNu now = true) (hu : hasI (id - 1792) T = false) :
    Calls Try.prog 20 #[.pointer (some ⟨g, 0, none⟩), .agg #[.int .i64 id, .bool r, .int .i64 n, .int .u8 (d 0), .int .u8 (d 1), .int .u8 (d 2), .int .u8 (d 3), .int .u8 (d 4), .int .u8 (d 5), .int .u8 (d 6), .int .u8 (d 7)], .int .i64 now] w fun e w' => e = .returned (.tuple #[.agg #[.int .i64 0, .int .i64 0, .int .i64 0], .bool false]) ∧ Below w.heap.size w w' := by
  have hf : FrAt ((w.alloc (.cells #[.int .i64 id, .bool r, .int .i64 n, .int .u8 (d 0), .int .u8 (d 1), .int .u8 (d 2), .int .u8 (d 3), .int .u8 (d 4), .int .u8 (d 5), .int .u8 (d 6), .int .u8 (d 7)] 24)).alloc (.cells #[.int .i64 0, .int .i64 0, .int .i64 0] 57)) w.heap.size id r n d := heap_alloc2_old w _ _
  have hev : EvAt ((w.alloc (.cells #[.int .i64 id, .bool r, .int .i64 n, .int .u8 (d 0), .int .u8 (d 1), .int .u8 (d 2), .int .u8 (d 3), .int .u8 (d 4), .int .u8 (d 5), .int .u8 (d 6), .int .u8 (d 7)] 24)).alloc (.cells #[.int .i64 0, .int .i64 0, .int .i64 0] 57)) (w.heap.size + 1) 0 0 0 := heap_alloc2_new w _ _
  have hb : Below w.heap.size w ((w.alloc (.cells #[.int .i64 id, .bool r, .int .i64 n, .int .u8 (d 0), .int .u8 (d 1), .int .u8 (d 2), .int .u8 (d 3), .int .u8 (d 4), .int .u8 (d 5), .int .u8 (d 6), .int .u8 (d 7)] 24)).alloc (.cells #[.int .i64 0, .int .i64 0, .int .i64 0] 57)) := ((Below.refl _ _).alloc (Nat.le_refl _) _).alloc (by simp) _
  have hdc := fun w => bdec_any id n r d w hd
  unfold bdN bdM bdE at hdc
  rw [hq] at hdc
  simp only [if_true, if_false, Bool.false_eq_true] at hdc
  have HD := Lib.hid hdc
  clear hdc hq
  have hX := bnum_any now
  obtain ⟨hn0, hn1⟩ := isU_in hx
  rw [hx] at hX
  have HX := Lib.hid hX
  have HW := Lib.hid h
  have HBW := Lib.hid h.bel
  clear hX hx h

  have HF := Lib.hid hf
  have HV := Lib.hid hev
  have HB := Lib.hid hb
  clear hf hev hb hd
  go_enter Try.func20, Try.ntmps20
  go_wp2_with fail
  generalize ((w.alloc (.cells #[.int .i64 id, .bool r, .int .i64 n, .int .u8 (d 0), .int .u8 (d 1), .int .u8 (d 2), .int .u8 (d 3), .int .u8 (d 4), .int .u8 (d 5), .int .u8 (d 6), .int .u8 (d 7)] 24)).alloc (.cells #[.int .i64 0, .int .i64 0, .int .i64 0] 57)) = w1 at *
  refine (HD.out _).mono ?_
  rintro e w2 ⟨rfl, hb2⟩
  have HV2 := Lib.hid (HV.out.below hb2 HV.out.lt)
  have HB2 := Lib.hid (HB.out.trans (hb2.mono HB.out.size))
  have HW2 := Lib.hid (HW.out.below HB2.out)
  clear hb2 HV HB
  obtain ⟨c0, c1, c2⟩ := HW2.out.cells
  generalize id - 1792 = nd at *
  go_upto_region 5 with (first
    | (go_at_call 29; refine (HX.out _).mono ?_; rintro e w3 ⟨rfl, rfl⟩)
    | (go_at_call 40; refine (HW2.out.gett nd (by omega)).mono ?_; rintro e w4 ⟨rfl, hb4⟩; have HV4 := Lib.hid (HV2.out.below hb4 HV2.out.lt); have HB4 := Lib.hid (HB2.out.trans (hb4.mono HB2.out.size)); clear hb4 c0 c1 c2))
  go_wp2_with (refine wpList_store_row rfl _ (.tmp 6) (.tmp 44) rfl (w.heap.size + 1) _ rfl rfl _ _ HV4.out info_event rfl (one_event 0 0 0) ?_)
  all_goals exact bodyPost_ret (results_cell_tmp_row rfl _ _ (w.heap.size + 1) _ _ _ _ rfl (setRow_heap _ _ _ _ _ (0, 0) HV4.out) Try.underlying57 rfl info_event) rfl ⟨rfl, below_setRow HB4.out (by omega) _⟩
set_option maxRecDepth 100000 in
set_option maxHeartbeats 2000000 in
theorem hear_yes (w0 w : World) (g a b c s : Nat) (T M R : List (Int × Int)) (id n now : Int) (r : Bool) (d : Nat → Int) (hd : ∀ j, j < 8 → 0 ≤ d j ∧ d j ≤ 255) (h : WaG w0 g a b c s T M R w) (hT : T.length ≤ 700) (hq : decB id r n d = true) (hx : isNu now = true) (nd tt ke : Int) (hnd : id - 1792 = nd) (htt : thI 0 nd T = tt) (hke : kindE (thI 0 nd M) (hasI nd M) (d 0) = ke) (hu : hasI nd T = true) (hM : M.length ≤ 700) (hR : R.length ≤ 700) (ht0 : 0 ≤ tt) (ht1 : tt ≤ 2147483647) :
    Calls Try.prog 20 #[.pointer (some ⟨g, 0, none⟩), .agg #[.int .i64 id, .bool r, .int .i64 n, .int .u8 (d 0), .int .u8 (d 1), .int .u8 (d 2), .int .u8 (d 3), .int .u8 (d 4), .int .u8 (d 5), .int .u8 (d 6), .int .u8 (d 7)], .int .i64 now] w fun e w' => e = .returned (.tuple #[.agg #[.int .i64 ke, .int .i64 nd, .int .i64 (d 0)], .bool true]) ∧ WaG w0 g a b c s T (putI nd (d 0) M) (dput nd (now + tt + 1) R) w' ∧ OthW w w' := by
  have hf : FrAt ((w.alloc (.cells #[.int .i64 id, .bool r, .int .i64 n, .int .u8 (d 0), .int .u8 (d 1), .int .u8 (d 2), .int .u8 (d 3), .int .u8 (d 4), .int .u8 (d 5), .int .u8 (d 6), .int .u8 (d 7)] 24)).alloc (.cells #[.int .i64 0, .int .i64 0, .int .i64 0] 57)) w.heap.size id r n d := heap_alloc2_old w _ _
  have hev : EvAt ((w.alloc (.cells #[.int .i64 id, .bool r, .int .i64 n, .int .u8 (d 0), .int .u8 (d 1), .int .u8 (d 2), .int .u8 (d 3), .int .u8 (d 4), .int .u8 (d 5), .int .u8 (d 6), .int .u8 (d 7)] 24)).alloc (.cells #[.int .i64 0, .int .i64 0, .int .i64 0] 57)) (w.heap.size + 1) 0 0 0 := heap_alloc2_new w _ _
  have hb : Below w.heap.size w ((w.alloc (.cells #[.int .i64 id, .bool r, .int .i64 n, .int .u8 (d 0), .int .u8 (d 1), .int .u8 (d 2), .int .u8 (d 3), .int .u8 (d 4), .int .u8 (d 5), .int .u8 (d 6), .int .u8 (d 7)] 24)).alloc (.cells #[.int .i64 0, .int .i64 0, .int .i64 0] 57)) := ((Below.refl _ _).alloc (Nat.le_refl _) _).alloc (by simp) _
  have hdc := fun w => bdec_any id n r d w hd
  unfold bdN bdM bdE at hdc
  rw [hq] at hdc
  simp only [if_true, if_false, Bool.false_eq_true] at hdc
  rw [hnd] at hdc
  have HD := Lib.hid hdc
  have HTT := Lib.hid htt
  have HK := Lib.hid (fun w => hke ▸ kind_any (thI 0 nd M) (hasI nd M) (d 0) w)
  clear hnd hke htt
  clear hdc hq
  have hX := bnum_any now
  obtain ⟨hn0, hn1⟩ := isU_in hx
  rw [hx] at hX
  have HX := Lib.hid hX
  have HW := Lib.hid h
  have HBW := Lib.hid h.bel
  clear hX hx h

  have HF := Lib.hid hf
  have HV := Lib.hid hev
  have HB := Lib.hid hb
  clear hf hev hb hd
  go_enter Try.func20, Try.ntmps20
  go_wp2_with fail
  generalize ((w.alloc (.cells #[.int .i64 id, .bool r, .int .i64 n, .int .u8 (d 0), .int .u8 (d 1), .int .u8 (d 2), .int .u8 (d 3), .int .u8 (d 4), .int .u8 (d 5), .int .u8 (d 6), .int .u8 (d 7)] 24)).alloc (.cells #[.int .i64 0, .int .i64 0, .int .i64 0] 57)) = w1 at *
  refine (HD.out _).mono ?_
  rintro e w2 ⟨rfl, hb2⟩
  have HV2 := Lib.hid (HV.out.below hb2 HV.out.lt)
  have HB2 := Lib.hid (HB.out.trans (hb2.mono HB.out.size))
  have HW2 := Lib.hid (HW.out.below HB2.out)
  clear hb2 HV HB
  obtain ⟨c0, c1, c2⟩ := HW2.out.cells
  go_upto_region 5 with (first
    | (go_at_call 29; refine (HX.out _).mono ?_; rintro e w3 ⟨rfl, rfl⟩)
    | (go_at_call 40; refine (HW2.out.gett nd (by omega)).mono ?_; rw [HTT.out]; rintro e w4 ⟨rfl, hb4⟩; have HV4 := Lib.hid (HV2.out.below hb4 HV2.out.lt); have HB4 := Lib.hid (HB2.out.trans (hb4.mono HB2.out.size)); have HW4 := Lib.hid (HW2.out.below hb4); clear hb4 c0 c1 c2))
  clear HV2 HB2 HW2 hu
  obtain ⟨c0, c1, c2⟩ := HW4.out.cells
  go_wp2_with fail
  refine (HW4.out.getm nd (by omega)).mono ?_
  rintro e w5 ⟨rfl, hb5⟩
  have HV5 := Lib.hid (HV4.out.below hb5 HV4.out.lt)
  have HB5 := Lib.hid (HB4.out.trans (hb5.mono HB4.out.size))
  have HW5 := Lib.hid (HW4.out.below hb5)
  clear hb5 c0 c1 c2 HV4 HB4 HW4
  obtain ⟨c0, c1, c2⟩ := HW5.out.cells
  go_wp2_with fail
  refine (HW5.out.putm nd (d 0) (by omega)).mono ?_
  rintro e w6 ⟨rfl, h6, o6⟩
  have HV6 := Lib.hid (HV5.out.oth o6)
  have HO6 := Lib.hid ((othW_below HB5.out).trans o6)
  have HW6 := Lib.hid h6
  clear h6 o6 c0 c1 c2 HV5 HW5 HB5
  obtain ⟨c0, c1, c2⟩ := HW6.out.cells
  have wa : IntKind.i64.wrap (now + tt) = now + tt := IntWalk.i64_in _ (by omega)
  have wb : IntKind.i64.wrap (now + tt + 1) = now + tt + 1 := IntWalk.i64_in _ (by omega)
  go_wp2_with fail
  refine (HW6.out.set nd (now + tt + 1) (by omega)).mono ?_
  rintro e w7 ⟨rfl, h7, o7⟩
  have HV7 := Lib.hid (HV6.out.oth o7)
  have HO7 := Lib.hid (HO6.out.trans o7)
  have HW7 := Lib.hid h7
  clear h7 o7 c0 c1 c2 HV6 HW6 HO6
  go_wp2_with (first
    | (go_at_call 43; refine (HK.out _).mono ?_; rintro e w8 ⟨rfl, rfl⟩)
    | (refine wpList_store_row rfl _ (.tmp 6) (.tmp 77) rfl (w.heap.size + 1) _ rfl rfl _ _ HV7.out info_event rfl (one_event ke nd (d 0)) ?_))
  all_goals exact bodyPost_ret (results_cell_tmp_row rfl _ _ (w.heap.size + 1) _ _ _ _ rfl (setRow_heap _ _ _ _ _ (0, 0) HV7.out) Try.underlying57 rfl info_event) rfl ⟨rfl, HW7.out.event HV7.out (by have := HBW.out.size; omega) _, HO7.out.setRow (by omega) _⟩
end Go.Proofs.Ytiidgcgamcgipaa
