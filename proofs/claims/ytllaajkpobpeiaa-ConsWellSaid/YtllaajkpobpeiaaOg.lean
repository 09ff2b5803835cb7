/- prod: a step of a maker. -/
import Derived.Test.YtllaajkpobpeiaaOf
import Derived.Test.YtllaajkpobpeiaaOJc
namespace Go.Proofs.Ytllaajkpobpeiaa
open Go.RowKit
set_option linter.unusedSimpArgs false
set_option linter.unusedVariables false

theorem chk_good {id : Int} {l : List Int} (h0 : 0 ≤ id) (h1 : id ≤ 2047) (hl : l.length ≤ 8) : chk id false l.length (dOf l) = 0 := by
  unfold chk
  rw [if_neg (by omega), if_neg (by omega), if_pos]
  have hc : ∀ j : Nat, dOf l j = cut (dOf l) (kOf false (l.length : Int)) j := fun j => by
    unfold cut kOf dOf
    simp only [Bool.false_eq_true, if_false]
    by_cases hj : (j : Int) < (l.length : Int)
    · rw [if_pos hj]
    · rw [if_neg hj]
      simp [List.getD, List.getElem?_eq_none (show l.length ≤ j by omega)]
  unfold eqD
  exact decide_eq_true ⟨hc 0, hc 1, hc 2, hc 3, hc 4, hc 5, hc 6, hc 7⟩
theorem wpList_build_as {P : Program} {ops : Array Oper} {rest : List Oper} {o : Oper} {a : Act} {w : World} {Q : Exit → Act → World → Prop} (hg : o.guard = none) (t : TypeId) (parts : Array (Nat × Operand)) (ho : o.op = .build t parts) (vs : List (Nat × Value)) (cells : Array Value)
    (hv : (parts.map fun (i, x) => (i, a.eval x)).toList = vs) (hc : P.built t vs = some cells) (h : wpList P ops Q rest (a.put o.dst (.agg cells)) w) : wpList P ops Q (o :: rest) a w :=
  wpList_build hg t parts ho (by rw [hv, hc]; rfl) (by rw [hv, hc]; exact h)
theorem yieldsIf_build {P : Program} {ops : Array Oper} {S : World → Prop} {o : Oper} {a : Act} (hw : Region.wanted o (yielded ops a.tmps) = true) (t : TypeId) (parts : Array (Nat × Operand)) (ho : o.op = .build t parts) (vs : List (Nat × Value)) (cells : Array Value)
    (hv : (parts.map fun (i, x) => (i, a.eval x)).toList = vs) (hc : P.built t vs = some cells) : YieldsIf P ops S o (.agg cells) a :=
  .inl ⟨hw, fun w _ => by
    unfold execOp
    have hc' : P.built t (parts.map fun (i, x) => (i, a.eval x)).toList = some cells := by rw [hv]; exact hc
    simp only [ho, Sem.run_bind, run_build w t _ cells hc', Result.andThen_ok, Sem.run_pure]⟩
def noB (v : Value) : Bool := match v with | .int .u8 _ => false | _ => true
theorem mkA_noB (b : Bool) (x : ChV) (t n : Int) : (mkA b x t n).all noB = true := by simp [mkA, noB]
/-- No byte lies in a block whose cells are no bytes. -/
theorem noB_byt {w w' : World} {g : Nat} {cs : Array Value} {ty : TypeId} {fr : Nat × Nat} {A : Option Addr} {m c : Nat} {l : List Int} (h : w.heap[g]? = some (.cells cs ty fr)) (hn : cs.all noB = true) (hB : Byt w w.heap.size A m c l) (ho : Onl g w w') : Byt w' w'.heap.size A m c l := by
  refine ⟨hB.len, hB.cap, hB.max, hB.rng, fun h0 => ?_⟩
  obtain ⟨b, off, e, hb, hc⟩ := hB.cells h0
  have hbg : ¬ b = g := by
    rintro rfl
    have h1 := hc 0 h0
    rw [cell_of_row _ _ _ _ _ _ h] at h1
    have := (Array.all_eq_true_iff_forall_mem.1 hn) _ (Array.mem_of_getElem? h1)
    simp [noB] at this
  refine ⟨b, off, e, Nat.lt_of_lt_of_le hb ho.bel.size, fun j hj => ?_⟩
  have hh := ho.oth b hb hbg
  have := hc j hj
  unfold World.cell? at *
  simp only at this ⊢
  rw [hh]
  exact this
section
variable {g : Nat} {w : World} {b : Bool} {x0 : ChV} {t n : Int} {A : Option Addr} {m c : Nat} {l : List Int}
set_option maxRecDepth 100000 in
set_option maxHeartbeats 8000000 in
theorem step_off (now : Int) (on : Bool) (x : ChV) (h : MkAt w g b x0 t n) (hB : Byt w w.heap.size A m c l) (hn : 0 ≤ now ∧ now ≤ 2147483647) (ho : on = false) : Calls Try.prog 17 #[.pointer (some ⟨g, 0, none⟩), .int .i64 now, .bool on, .agg (chA x), .slice A m c] w fun e w' => e = .returned (.slice none 0 0) ∧ MkAt w' g false c0X 0 n ∧ Onl g w w' := by
  have hb0 : Below w.heap.size w (w.alloc (.cells (chA x) 29)) := (Below.refl _ _).alloc (Nat.le_refl _) _
  have hx0 : ChAt (w.alloc (.cells (chA x) 29)) w.heap.size x := heap_alloc_new w _
  have HM0 := Lib.hid (h.below hb0)
  have HGL := Lib.hid (Nat.le_of_lt h.lt)
  have HGX := Lib.hid (show ¬ w.heap.size = g from fun e => by have := h.lt; omega)
  have HBB := Lib.hid (fun w' (hb : Below w.heap.size w w') => show Byt w' w'.heap.size A m c l from hB.step hb)
  have HML := Lib.hid (show l.length = m from hB.len)
  have hm63 : m ≤ 9223372036854775807 := by have := hB.cap; have := hB.max; simp only [maxLen] at this; omega
  have HT := Lib.hid (fun w => ptick_any now w)
  rw [show tkB now = true from decide_eq_true hn] at HT
  have HSE := Lib.hid (fun w => psends_any w x)
  have HSZ := Lib.hid (fun w => xsize_any w x)
  have HB0 := Lib.hid hb0
  have HIM : Hid ((Try.prog.info? 100).map (·.size) = some (mkA false c0X 0 n).size) := Lib.hid info_mk
  have HI1 := Lib.hid (mkA_one false c0X 0 n)
  have HBL : Hid (Try.prog.built 100 [(3, .int .i64 n)] = some (mkA false c0X 0 n)) := Lib.hid (by kernel_rfl)
  have hsz := chA_size x
  have hld : Hid ((Try.prog.info? 29).map (·.size) = some (chA x).size) := Lib.hid info_chan
  have hx0 : (w.alloc (.cells (chA x) 29)).heap[w.heap.size]? = some (.cells (chA x) 29 (0, 0)) := hx0
  have HX0 := Lib.hid hx0
  clear hx0 hb0 h hB hsz
  subst ho
  generalize chA x = CX at *
  go_enter Try.func17, Try.ntmps17
  go_upto_region 4 with (go_at_call 45; refine (HT.out _).mono ?_; rintro e wz ⟨rfl, rfl⟩)
  generalize w.alloc (.cells CX 29) = w0 at *
  obtain ⟨c0, c2, c3, c4⟩ := HM0.out.cells
  have HY0 : Hid (MkAt (w0.setRow g (mkA false c0X 0 n)) g false c0X 0 n) := Lib.hid (HM0.out.row false c0X 0 n)
  have HO0 : Hid (Onl g w (w0.setRow g (mkA false c0X 0 n))) := Lib.hid ((Onl.of HB0.out HGL.out).trans (onl_mk HM0.out _))
  have HQ0 : Hid (w0.heap[g]? = some (.cells (mkA b x0 t n) 100 (0, 0))) := Lib.hid HM0.out
  have HSQ : Hid ((mkA b x0 t n).size = (mkA false c0X 0 n).size) := Lib.hid rfl
  generalize mkA false c0X 0 n = MX at *
  go_wp2_with (first
    | (refine wpList_build_as rfl _ _ rfl _ _ (by kernel_rfl) HBL.out ?_)
    | (refine wpList_store_row rfl _ (.tmp 40) (.tmp 39) rfl g _ rfl rfl _ _ HQ0.out HIM.out HSQ.out HI1.out ?_))
  go_ret
  exact ⟨rfl, HY0.out, HO0.out⟩
set_option maxRecDepth 100000 in
set_option maxHeartbeats 8000000 in
theorem step_nosend (now : Int) (on : Bool) (x : ChV) (h : MkAt w g b x0 t n) (hB : Byt w w.heap.size A m c l) (hn : 0 ≤ now ∧ now ≤ 2147483647) (ho : on = true) (hs : sendsB x = false) : Calls Try.prog 17 #[.pointer (some ⟨g, 0, none⟩), .int .i64 now, .bool on, .agg (chA x), .slice A m c] w fun e w' => e = .returned (.slice none 0 0) ∧ MkAt w' g false c0X 0 n ∧ Onl g w w' := by
  have hb0 : Below w.heap.size w (w.alloc (.cells (chA x) 29)) := (Below.refl _ _).alloc (Nat.le_refl _) _
  have hx0 : ChAt (w.alloc (.cells (chA x) 29)) w.heap.size x := heap_alloc_new w _
  have HM0 := Lib.hid (h.below hb0)
  have HGL := Lib.hid (Nat.le_of_lt h.lt)
  have HGX := Lib.hid (show ¬ w.heap.size = g from fun e => by have := h.lt; omega)
  have HBB := Lib.hid (fun w' (hb : Below w.heap.size w w') => show Byt w' w'.heap.size A m c l from hB.step hb)
  have HML := Lib.hid (show l.length = m from hB.len)
  have hm63 : m ≤ 9223372036854775807 := by have := hB.cap; have := hB.max; simp only [maxLen] at this; omega
  have HT := Lib.hid (fun w => ptick_any now w)
  rw [show tkB now = true from decide_eq_true hn] at HT
  have HSE := Lib.hid (fun w => psends_any w x)
  have HSZ := Lib.hid (fun w => xsize_any w x)
  have HB0 := Lib.hid hb0
  have HIM : Hid ((Try.prog.info? 100).map (·.size) = some (mkA false c0X 0 n).size) := Lib.hid info_mk
  have HI1 := Lib.hid (mkA_one false c0X 0 n)
  have HBL : Hid (Try.prog.built 100 [(3, .int .i64 n)] = some (mkA false c0X 0 n)) := Lib.hid (by kernel_rfl)
  have hsz := chA_size x
  have hld : Hid ((Try.prog.info? 29).map (·.size) = some (chA x).size) := Lib.hid info_chan
  have hx0 : (w.alloc (.cells (chA x) 29)).heap[w.heap.size]? = some (.cells (chA x) 29 (0, 0)) := hx0
  have HX0 := Lib.hid hx0
  clear hx0 hb0 h hB hsz
  subst ho
  rw [hs] at HSE
  clear hs
  generalize chA x = CX at *
  go_enter Try.func17, Try.ntmps17
  go_upto_region 4 with (first | (go_at_call 45; refine (HT.out _).mono ?_; rintro e wz ⟨rfl, rfl⟩) | (refine wpList_load_row_want (by kernel_rfl) _ (.tmp 8) rfl w.heap.size rfl _ _ _ _ HX0.out Try.underlying29 rfl hld.out ?_) | (go_at_call 12; (with_reducible refine (HSE.out _).mono ?_); rintro e w1 ⟨rfl, b1⟩; have HB1 := Lib.hid (kF b1 HB0.out); have HX1 := Lib.hid ((b1.block _ (Array.getElem?_eq_some_iff.1 HX0.out).1).trans HX0.out); have HM1 := Lib.hid (HM0.out.below b1); clear b1))
  obtain ⟨c0, c2, c3, c4⟩ := HM1.out.cells
  have HY1 : Hid (MkAt (w1.setRow g (mkA false c0X 0 n)) g false c0X 0 n) := Lib.hid (HM1.out.row false c0X 0 n)
  have HO1 : Hid (Onl g w (w1.setRow g (mkA false c0X 0 n))) := Lib.hid ((Onl.of HB1.out HGL.out).trans (onl_mk HM1.out _))
  have HQ1 : Hid (w1.heap[g]? = some (.cells (mkA b x0 t n) 100 (0, 0))) := Lib.hid HM1.out
  have HSQ : Hid ((mkA b x0 t n).size = (mkA false c0X 0 n).size) := Lib.hid rfl
  generalize mkA false c0X 0 n = MX at *
  go_wp2_with (first
    | (refine wpList_build_as rfl _ _ rfl _ _ (by kernel_rfl) HBL.out ?_)
    | (refine wpList_store_row rfl _ (.tmp 40) (.tmp 39) rfl g _ rfl rfl _ _ HQ1.out HIM.out HSQ.out HI1.out ?_))
  go_ret
  exact ⟨rfl, HY1.out, HO1.out⟩
set_option maxRecDepth 100000 in
set_option maxHeartbeats 8000000 in
theorem step_size (now : Int) (on : Bool) (x : ChV) (h : MkAt w g b x0 t n) (hB : Byt w w.heap.size A m c l) (hn : 0 ≤ now ∧ now ≤ 2147483647) (ho : on = true) (hs : sendsB x = true) (hz : ¬ (m : Int) = szX x) : Calls Try.prog 17 #[.pointer (some ⟨g, 0, none⟩), .int .i64 now, .bool on, .agg (chA x), .slice A m c] w fun e w' => e = .returned (.slice none 0 0) ∧ MkAt w' g false c0X 0 n ∧ Onl g w w' := by
  have hb0 : Below w.heap.size w (w.alloc (.cells (chA x) 29)) := (Below.refl _ _).alloc (Nat.le_refl _) _
  have hx0 : ChAt (w.alloc (.cells (chA x) 29)) w.heap.size x := heap_alloc_new w _
  have HM0 := Lib.hid (h.below hb0)
  have HGL := Lib.hid (Nat.le_of_lt h.lt)
  have HGX := Lib.hid (show ¬ w.heap.size = g from fun e => by have := h.lt; omega)
  have HBB := Lib.hid (fun w' (hb : Below w.heap.size w w') => show Byt w' w'.heap.size A m c l from hB.step hb)
  have HML := Lib.hid (show l.length = m from hB.len)
  have hm63 : m ≤ 9223372036854775807 := by have := hB.cap; have := hB.max; simp only [maxLen] at this; omega
  have HT := Lib.hid (fun w => ptick_any now w)
  rw [show tkB now = true from decide_eq_true hn] at HT
  have HSE := Lib.hid (fun w => psends_any w x)
  have HSZ := Lib.hid (fun w => xsize_any w x)
  have HB0 := Lib.hid hb0
  have HIM : Hid ((Try.prog.info? 100).map (·.size) = some (mkA false c0X 0 n).size) := Lib.hid info_mk
  have HI1 := Lib.hid (mkA_one false c0X 0 n)
  have HBL : Hid (Try.prog.built 100 [(3, .int .i64 n)] = some (mkA false c0X 0 n)) := Lib.hid (by kernel_rfl)
  have hsz := chA_size x
  have hld : Hid ((Try.prog.info? 29).map (·.size) = some (chA x).size) := Lib.hid info_chan
  have hx0 : (w.alloc (.cells (chA x) 29)).heap[w.heap.size]? = some (.cells (chA x) 29 (0, 0)) := hx0
  have HX0 := Lib.hid hx0
  clear hx0 hb0 h hB hsz
  subst ho
  rw [hs] at HSE
  clear hs
  have hz2 : ((m : Int) == szX x) = false := by simpa using hz
  have hz3 : ((m : Int) != szX x) = true := by simpa using hz
  generalize szX x = z at *
  generalize chA x = CX at *
  go_enter Try.func17, Try.ntmps17
  go_upto_region 4 with (first | (go_at_call 45; refine (HT.out _).mono ?_; rintro e wz ⟨rfl, rfl⟩) | (refine wpList_load_row_want (by kernel_rfl) _ (.tmp 8) rfl w.heap.size rfl _ _ _ _ HX0.out Try.underlying29 rfl hld.out ?_) | (refine wpList_load_row_want (by kernel_rfl) _ (.tmp 8) rfl w.heap.size rfl _ _ _ _ HX1.out Try.underlying29 rfl hld.out ?_) | (go_at_call 12; (with_reducible refine (HSE.out _).mono ?_); rintro e w1 ⟨rfl, b1⟩; have HB1 := Lib.hid (kF b1 HB0.out); have HX1 := Lib.hid ((b1.block _ (Array.getElem?_eq_some_iff.1 HX0.out).1).trans HX0.out); have HM1 := Lib.hid (HM0.out.below b1); clear b1) | (go_at_call 10; (with_reducible refine (HSZ.out _).mono ?_); rintro e w2 ⟨rfl, b2⟩; have HB2 := Lib.hid (kF b2 HB1.out); have HX2 := Lib.hid ((b2.block _ (Array.getElem?_eq_some_iff.1 HX1.out).1).trans HX1.out); have HM2 := Lib.hid (HM1.out.below b2); clear b2))
  obtain ⟨c0, c2, c3, c4⟩ := HM2.out.cells
  have HY2 : Hid (MkAt (w2.setRow g (mkA false c0X 0 n)) g false c0X 0 n) := Lib.hid (HM2.out.row false c0X 0 n)
  have HO2 : Hid (Onl g w (w2.setRow g (mkA false c0X 0 n))) := Lib.hid ((Onl.of HB2.out HGL.out).trans (onl_mk HM2.out _))
  have HQ2 : Hid (w2.heap[g]? = some (.cells (mkA b x0 t n) 100 (0, 0))) := Lib.hid HM2.out
  have HSQ : Hid ((mkA b x0 t n).size = (mkA false c0X 0 n).size) := Lib.hid rfl
  generalize mkA false c0X 0 n = MX at *
  go_wp2_with (first
    | (refine wpList_build_as rfl _ _ rfl _ _ (by kernel_rfl) HBL.out ?_)
    | (refine wpList_store_row rfl _ (.tmp 40) (.tmp 39) rfl g _ rfl rfl _ _ HQ2.out HIM.out HSQ.out HI1.out ?_))
  go_ret
  exact ⟨rfl, HY2.out, HO2.out⟩
theorem dueB_cases (b : Bool) (x0 x : ChV) (t now : Int) : (dueB b x0 t now x = true ∧ b = false) ∨ (dueB b x0 t now x = true ∧ b = true ∧ chB x0 x = false) ∨ (b = true ∧ chB x0 x = true ∧ dueB b x0 t now x = decide (x.time ≤ now - t)) := by
  unfold dueB
  cases b
  · exact .inl ⟨rfl, rfl⟩
  · cases chB x0 x
    · exact .inr (.inl ⟨rfl, rfl, rfl⟩)
    · exact .inr (.inr ⟨rfl, rfl, by simp⟩)
theorem due_any (now : Int) (x : ChV) (h : MkAt w g b x0 t n) (ht : b = true → 0 ≤ t ∧ t ≤ now) (hn : now ≤ 2147483647) : Calls Try.prog 46 #[.pointer (some ⟨g, 0, none⟩), .int .i64 now, .agg (chA x)] w fun e w' => e = .returned (.bool (dueB b x0 t now x)) ∧ Below w.heap.size w w' := by
  rcases dueB_cases b x0 x t now with ⟨e, hb⟩ | ⟨e, hb, hc⟩ | ⟨hb, hc, e⟩
  · rw [e]; exact due_rest now x h hb
  · rw [e]; exact due_other now x h hb hc
  · rw [e]; exact due_time now x h hb hc ⟨(ht hb).1, (ht hb).2, hn⟩
set_option maxRecDepth 100000 in
set_option maxHeartbeats 8000000 in
theorem step_wait (now : Int) (on : Bool) (x : ChV) (h : MkAt w g b x0 t n) (hB : Byt w w.heap.size A m c l) (hn : 0 ≤ now ∧ now ≤ 2147483647) (ho : on = true) (hs : sendsB x = true) (hz : (m : Int) = szX x) (ht : b = true → 0 ≤ t ∧ t ≤ now) (hd : dueB b x0 t now x = false) : Calls Try.prog 17 #[.pointer (some ⟨g, 0, none⟩), .int .i64 now, .bool on, .agg (chA x), .slice A m c] w fun e w' => e = .returned (.slice none 0 0) ∧ MkAt w' g b x0 t n ∧ Onl g w w' := by
  have hb0 : Below w.heap.size w (w.alloc (.cells (chA x) 29)) := (Below.refl _ _).alloc (Nat.le_refl _) _
  have hx0 : ChAt (w.alloc (.cells (chA x) 29)) w.heap.size x := heap_alloc_new w _
  have HM0 := Lib.hid (h.below hb0)
  have HGL := Lib.hid (Nat.le_of_lt h.lt)
  have HGX := Lib.hid (show ¬ w.heap.size = g from fun e => by have := h.lt; omega)
  have HBB := Lib.hid (fun w' (hb : Below w.heap.size w w') => show Byt w' w'.heap.size A m c l from hB.step hb)
  have HML := Lib.hid (show l.length = m from hB.len)
  have hm63 : m ≤ 9223372036854775807 := by have := hB.cap; have := hB.max; simp only [maxLen] at this; omega
  have HT := Lib.hid (fun w => ptick_any now w)
  rw [show tkB now = true from decide_eq_true hn] at HT
  have HSE := Lib.hid (fun w => psends_any w x)
  have HSZ := Lib.hid (fun w => xsize_any w x)
  have HB0 := Lib.hid hb0
  have HIM : Hid ((Try.prog.info? 100).map (·.size) = some (mkA false c0X 0 n).size) := Lib.hid info_mk
  have HI1 := Lib.hid (mkA_one false c0X 0 n)
  have HBL : Hid (Try.prog.built 100 [(3, .int .i64 n)] = some (mkA false c0X 0 n)) := Lib.hid (by kernel_rfl)
  have hsz := chA_size x
  have hld : Hid ((Try.prog.info? 29).map (·.size) = some (chA x).size) := Lib.hid info_chan
  have hx0 : (w.alloc (.cells (chA x) 29)).heap[w.heap.size]? = some (.cells (chA x) 29 (0, 0)) := hx0
  have HX0 := Lib.hid hx0
  clear hx0 hb0 h hB hsz
  subst ho
  rw [hs] at HSE
  have hz2 : ((m : Int) == szX x) = true := by simpa using hz
  have hz3 : ((m : Int) != szX x) = false := by simpa using hz
  have HDU := Lib.hid (fun w' (h' : MkAt w' g b x0 t n) => due_any now x h' ht hn.2)
  rw [hd] at HDU
  clear hs hd
  generalize szX x = z at *
  generalize chA x = CX at *
  go_enter Try.func17, Try.ntmps17
  go_wp2_with (first | (go_at_call 45; refine (HT.out _).mono ?_; rintro e wz ⟨rfl, rfl⟩) | (refine wpList_load_row_want (by kernel_rfl) _ (.tmp 8) rfl w.heap.size rfl _ _ _ _ HX0.out Try.underlying29 rfl hld.out ?_) | (refine wpList_load_row_want (by kernel_rfl) _ (.tmp 8) rfl w.heap.size rfl _ _ _ _ HX1.out Try.underlying29 rfl hld.out ?_) | (refine wpList_load_row rfl _ (.tmp 8) rfl w.heap.size rfl _ _ _ _ HX2.out Try.underlying29 rfl hld.out ?_) | (go_at_call 12; (with_reducible refine (HSE.out _).mono ?_); rintro e w1 ⟨rfl, b1⟩; have HB1 := Lib.hid (kF b1 HB0.out); have HX1 := Lib.hid ((b1.block _ (Array.getElem?_eq_some_iff.1 HX0.out).1).trans HX0.out); have HM1 := Lib.hid (HM0.out.below b1); clear b1) | (go_at_call 10; (with_reducible refine (HSZ.out _).mono ?_); rintro e w2 ⟨rfl, b2⟩; have HB2 := Lib.hid (kF b2 HB1.out); have HX2 := Lib.hid ((b2.block _ (Array.getElem?_eq_some_iff.1 HX1.out).1).trans HX1.out); have HM2 := Lib.hid (HM1.out.below b2); clear b2) | (go_at_call 46; (with_reducible refine (HDU.out _ HM2.out).mono ?_); rintro e w3 ⟨rfl, b3⟩; have HB3 := Lib.hid (kF b3 HB2.out); have HX3 := Lib.hid ((b3.block _ (Array.getElem?_eq_some_iff.1 HX2.out).1).trans HX2.out); have HM3 := Lib.hid (HM2.out.below b3); clear b3))
  go_ret
  exact ⟨rfl, HM3.out, Onl.of HB3.out HGL.out⟩
set_option maxRecDepth 100000 in
set_option maxHeartbeats 8000000 in
theorem step_due (now : Int) (on : Bool) (x : ChV) (h : MkAt w g b x0 t n) (hB : Byt w w.heap.size A m c l) (hn : 0 ≤ now ∧ now ≤ 2147483647) (ho : on = true) (hs : sendsB x = true) (hz : (m : Int) = szX x) (ht : b = true → 0 ≤ t ∧ t ≤ now) (hd : dueB b x0 t now x = true) (hnn : 0 ≤ n ∧ n ≤ 1000000) : Calls Try.prog 17 #[.pointer (some ⟨g, 0, none⟩), .int .i64 now, .bool on, .agg (chA x), .slice A m c] w fun e w' => ∃ q, w.heap.size ≤ q ∧ e = .returned (.slice (some ⟨q, 0, none⟩) 2 2) ∧ TwAt w' q x.plain x.turned m (dOf l) (dOf (flipL l)) ∧ MkAt w' g true x now (n + 1) ∧ Onl g w w' := by
  have hb0 : Below w.heap.size w (w.alloc (.cells (chA x) 29)) := (Below.refl _ _).alloc (Nat.le_refl _) _
  have hx0 : ChAt (w.alloc (.cells (chA x) 29)) w.heap.size x := heap_alloc_new w _
  have HM0 := Lib.hid (h.below hb0)
  have HGL := Lib.hid (Nat.le_of_lt h.lt)
  have HGX := Lib.hid (show ¬ w.heap.size = g from fun e => by have := h.lt; omega)
  have HBB := Lib.hid (fun w' (hb : Below w.heap.size w w') => show Byt w' w'.heap.size A m c l from hB.step hb)
  have HML := Lib.hid (show l.length = m from hB.len)
  have hm63 : m ≤ 9223372036854775807 := by have := hB.cap; have := hB.max; simp only [maxLen] at this; omega
  have HT := Lib.hid (fun w => ptick_any now w)
  rw [show tkB now = true from decide_eq_true hn] at HT
  have HSE := Lib.hid (fun w => psends_any w x)
  have HSZ := Lib.hid (fun w => xsize_any w x)
  have HB0 := Lib.hid hb0
  have HIM : Hid ((Try.prog.info? 100).map (·.size) = some (mkA false c0X 0 n).size) := Lib.hid info_mk
  have HI1 := Lib.hid (mkA_one false c0X 0 n)
  have HBL : Hid (Try.prog.built 100 [(3, .int .i64 n)] = some (mkA false c0X 0 n)) := Lib.hid (by kernel_rfl)
  have hsz := chA_size x
  have hld : Hid ((Try.prog.info? 29).map (·.size) = some (chA x).size) := Lib.hid info_chan
  have hx0 : (w.alloc (.cells (chA x) 29)).heap[w.heap.size]? = some (.cells (chA x) 29 (0, 0)) := hx0
  have HX0 := Lib.hid hx0
  clear hx0 hb0 h hB hsz
  subst ho
  rw [hs] at HSE
  have hz2 : ((m : Int) == szX x) = true := by simpa using hz
  have hz3 : ((m : Int) != szX x) = false := by simpa using hz
  have HDU := Lib.hid (fun w' (h' : MkAt w' g b x0 t n) => due_any now x h' ht hn.2)
  rw [hd] at HDU
  have hsd : idB x.plain = true ∧ idB x.turned = true ∧ 1 ≤ szX x ∧ szX x ≤ 8 := by
    have := of_decide_eq_true hs
    exact ⟨this.2.2.2.1, this.2.2.2.2, this.2.2.1.1, this.2.2.1.2⟩
  have hp1 := of_decide_eq_true hsd.1
  have hp2 := of_decide_eq_true hsd.2.1
  have hm8 : 1 ≤ m ∧ m ≤ 8 := by omega
  have HMA := Lib.hid (fun w' (hb : Byt w' w'.heap.size A m c l) => make_ok x.plain x.turned A m c l w' hb hm8 (by have := chk_good (l := l) hp1.1 hp1.2 (by have := HML.out; omega); rw [HML.out] at this; exact this) (by have := chk_good (l := flipL l) hp2.1 hp2.2 (by have := HML.out; rw [flipL_len]; omega); rw [flipL_len, HML.out] at this; exact this))
  have HIN : Hid ((Try.prog.info? 100).map (·.size) = some (mkA true x now (n + 1)).size) := Lib.hid info_mk
  have HI2 := Lib.hid (mkA_one true x now (n + 1))
  have HBN : Hid (Try.prog.built 100 [(0, .bool true), (1, .agg (chA x)), (2, .int .i64 now), (3, .int .i64 (n + 1))] = some (mkA true x now (n + 1))) := Lib.hid (by kernel_rfl)
  have hw1 : IntKind.i64.wrap (n + 1) = n + 1 := IntWalk.i64_in _ (by omega)
  have HSQ : Hid ((mkA b x0 t n).size = (mkA true x now (n + 1)).size) := Lib.hid rfl
  have HCP : Hid (∀ {w' : World} {k : Nat}, ChAt w' k x → w'.cell? ⟨k, 3, none⟩ = some (.int .i64 x.plain) ∧ w'.cell? ⟨k, 4, none⟩ = some (.int .i64 x.turned)) := Lib.hid (fun h => ⟨h.cells.2.2.2.1, h.cells.2.2.2.2.1⟩)
  have HCH : Hid (∀ {w' : World} {k : Nat}, w'.heap[k]? = some (.cells (chA x) 29 (0, 0)) → ChAt w' k x) := Lib.hid (fun h => h)
  have HLD : Hid (∀ w', MkAt w' g b x0 t n ∧ ChAt w' w.heap.size x → w'.rangeAt w.heap.size 0 (chA x).toList) := Lib.hid (fun w' h j v hv => by rw [cell_of_row _ _ _ _ _ _ h.2, Nat.zero_add]; simpa using hv)
  have HCX : Hid ((Try.prog.info? 29).map (·.size) = some (chA x).toList.length) := Lib.hid info_chan
  clear hs hd hsd hp1 hp2 hnn HML
  generalize szX x = z at *
  obtain ⟨CX, hCX⟩ : ∃ CX, chA x = CX := ⟨_, rfl⟩
  rw [hCX] at HSE HSZ HDU hld HX0 HB0 HM0 HBN HCH HLD HCX ⊢
  clear hCX
  go_enter Try.func17, Try.ntmps17
  go_upto_region 8 with (first | (go_at_call 45; refine (HT.out _).mono ?_; rintro e wz ⟨rfl, rfl⟩) | (refine wpList_load_row_want (by kernel_rfl) _ (.tmp 8) rfl w.heap.size rfl _ _ _ _ HX0.out Try.underlying29 rfl hld.out ?_) | (refine wpList_load_row_want (by kernel_rfl) _ (.tmp 8) rfl w.heap.size rfl _ _ _ _ HX1.out Try.underlying29 rfl hld.out ?_) | (refine wpList_load_row rfl _ (.tmp 8) rfl w.heap.size rfl _ _ _ _ HX2.out Try.underlying29 rfl hld.out ?_) | (go_at_call 12; (with_reducible refine (HSE.out _).mono ?_); rintro e w1 ⟨rfl, b1⟩; have HB1 := Lib.hid (kF b1 HB0.out); have HX1 := Lib.hid ((b1.block _ (Array.getElem?_eq_some_iff.1 HX0.out).1).trans HX0.out); have HM1 := Lib.hid (HM0.out.below b1); clear b1) | (go_at_call 10; (with_reducible refine (HSZ.out _).mono ?_); rintro e w2 ⟨rfl, b2⟩; have HB2 := Lib.hid (kF b2 HB1.out); have HX2 := Lib.hid ((b2.block _ (Array.getElem?_eq_some_iff.1 HX1.out).1).trans HX1.out); have HM2 := Lib.hid (HM1.out.below b2); clear b2) | (go_at_call 46; (with_reducible refine (HDU.out _ HM2.out).mono ?_); rintro e w3 ⟨rfl, b3⟩; have HB3 := Lib.hid (kF b3 HB2.out); have HX3 := Lib.hid ((b3.block _ (Array.getElem?_eq_some_iff.1 HX2.out).1).trans HX2.out); have HM3 := Lib.hid (HM2.out.below b3); clear b3))
  have HC3 := Lib.hid (HCH.out HX3.out)
  refine wp_region_last (fun w' => MkAt w' g b x0 t n ∧ ChAt w' w.heap.size x ∧ Below w.heap.size w w') 10 (by kernel_rfl) ⟨HM3.out.below (kD w3), HC3.out.below (kD w3), kF (kD w3) HB3.out⟩ (fun hHeld => ?_)
  generalize w3.drew = w4 at *
  refine wpAnyL_take (i := 0) (v := .pointer (some ⟨g, 0, none⟩)) rfl (by kernel_rfl) (by kernel_rfl) (by kernel_rfl) (by kernel_rfl) (by kernel_rfl) (fun _ _ _ h => h) (Or.inl ⟨by rfl, ?_⟩) (by assumption) ?_
  · intro wq hSw; (try dsimp only at hSw); first | (go_simp; done) | (go_simp; with_reducible rfl) | with_reducible rfl
  go_simp
  refine wpAnyL_take (i := 1) rfl (by kernel_rfl) (by kernel_rfl) (by kernel_rfl) (by kernel_rfl) (by kernel_rfl) (fun _ _ _ h => h) (yieldsIf_load_mid (by kernel_rfl) _ (.tmp 8) rfl w.heap.size 0 rfl _ _ (fun w' h' => HLD.out w' ⟨h'.1, h'.2.1⟩) Try.underlying29 rfl HCX.out) (by assumption) ?_
  (try go_simp)
  (try simp only [Array.toArray_toList])
  refine wpAnyL_take (i := 2) (v := .int .i64 now) rfl (by kernel_rfl) (by kernel_rfl) (by kernel_rfl) (by kernel_rfl) (by kernel_rfl) (fun _ _ _ h => h) (Or.inl ⟨by rfl, ?_⟩) (by assumption) ?_
  · intro wq hSw; (try dsimp only at hSw); first | (go_simp; done) | (go_simp; with_reducible rfl) | with_reducible rfl
  go_simp
  refine wpAnyL_take (i := 3) (v := .pointer (some ⟨g, 0, none⟩)) rfl (by kernel_rfl) (by kernel_rfl) (by kernel_rfl) (by kernel_rfl) (by kernel_rfl) (fun _ _ _ h => h) (Or.inl ⟨by rfl, ?_⟩) (by assumption) ?_
  · intro wq hSw; (try dsimp only at hSw); first | (go_simp; done) | (go_simp; with_reducible rfl) | with_reducible rfl
  go_simp
  refine wpAnyL_take (i := 4) (v := .pointer (some ⟨g, 0, none⟩)) rfl (by kernel_rfl) (by kernel_rfl) (by kernel_rfl) (by kernel_rfl) (by kernel_rfl) (fun _ _ _ h => h) (Or.inl ⟨by rfl, ?_⟩) (by assumption) ?_
  · intro wq hSw; (try dsimp only at hSw); first | (go_simp; done) | (go_simp; with_reducible rfl) | with_reducible rfl
  go_simp
  refine wpAnyL_take (i := 5) (v := .pointer (some ⟨g, 31 + 1, none⟩)) rfl (by kernel_rfl) (by kernel_rfl) (by kernel_rfl) (by kernel_rfl) (by kernel_rfl) (fun _ _ _ h => h) (Or.inl ⟨by rfl, ?_⟩) (by assumption) ?_
  · intro wq hSw; (try dsimp only at hSw); first | (go_simp; done) | (go_simp; with_reducible rfl) | with_reducible rfl
  go_simp
  refine wpAnyL_take (i := 6) (v := .int .i64 n) rfl (by kernel_rfl) (by kernel_rfl) (by kernel_rfl) (by kernel_rfl) (by kernel_rfl) (fun _ _ _ h => h) (Or.inl ⟨by rfl, ?_⟩) (by assumption) ?_
  · intro wq hSw; (try dsimp only at hSw); obtain ⟨c0, c2, c3, c4⟩ := hSw.1.cells; first | (go_simp; done) | (go_simp; with_reducible rfl) | with_reducible rfl
  go_simp
  refine wpAnyL_take (i := 7) (v := .int .i64 (n + 1)) rfl (by kernel_rfl) (by kernel_rfl) (by kernel_rfl) (by kernel_rfl) (by kernel_rfl) (fun _ _ _ h => h) (Or.inl ⟨by rfl, ?_⟩) (by assumption) ?_
  · intro wq hSw; (try dsimp only at hSw); first | (go_simp; done) | (go_simp; with_reducible rfl) | with_reducible rfl
  go_simp
  refine wpAnyL_take (i := 8) rfl (by kernel_rfl) (by kernel_rfl) (by kernel_rfl) (by kernel_rfl) (by kernel_rfl) (fun _ _ _ h => h) (yieldsIf_build (by kernel_rfl) _ _ rfl _ _ (by kernel_rfl) HBN.out) (by assumption) ?_
  (try go_simp)
  refine wpAnyL_take (i := 9) (v := .pointer (some ⟨g, 0, none⟩)) rfl (by kernel_rfl) (by kernel_rfl) (by kernel_rfl) (by kernel_rfl) (by kernel_rfl) (fun _ _ _ h => h) (Or.inl ⟨by rfl, ?_⟩) (by assumption) ?_
  · intro wq hSw; (try dsimp only at hSw); first | (go_simp; done) | (go_simp; with_reducible rfl) | with_reducible rfl
  go_simp
  refine wpAnyL_ready (rs := [10]) (by kernel_rfl) (by simp) ?_
  refine AllReadyL.last rfl (fun K hK => ?_)
  rw [if_pos (by kernel_rfl)]
  refine wp_store_row _ (.tmp 55) (.tmp 54) rfl g _ rfl rfl _ (mkA b x0 t n) hHeld.1 HIN.out HSQ.out HI2.out ?_
  have HY4 := Lib.hid (hHeld.1.row true x now (n + 1))
  have HO4 := Lib.hid ((Onl.of hHeld.2.2 HGL.out).trans (onl_mk hHeld.1 (mkA true x now (n + 1))))
  have HSZW := Lib.hid (show w.heap.size ≤ (w4.setRow g (mkA true x now (n + 1))).heap.size from Nat.le_trans hHeld.2.2.size (onl_mk hHeld.1 (mkA true x now (n + 1))).bel.size)
  have HC4 := Lib.hid (show ChAt (w4.setRow g (mkA true x now (n + 1))) w.heap.size x from (setRow_other w4 g w.heap.size _ HGX.out).trans hHeld.2.1)
  have HB4 := Lib.hid (show Byt (w4.setRow g (mkA true x now (n + 1))) (w4.setRow g (mkA true x now (n + 1))).heap.size A m c l from noB_byt hHeld.1 (mkA_noB _ _ _ _) (HBB.out w4 hHeld.2.2) (onl_mk hHeld.1 _))
  clear hHeld
  generalize w4.setRow g (mkA true x now (n + 1)) = w5 at *
  refine hK.out _ _ ?_
  clear hK K
  refine wpAnyL_done (by kernel_rfl) ?_ _
  obtain ⟨p3, p4⟩ := HCP.out HC4.out
  go_wp2_with (go_at_call 47; refine (HMA.out _ HB4.out).mono ?_; rintro e w6 ⟨q, hq, rfl, ht6, b6⟩; have HT6 := Lib.hid ht6; have HY6 := Lib.hid (HY4.out.below b6); have HO6 := Lib.hid (HO4.out.trans (Onl.of b6 (Nat.le_trans HGL.out HO4.out.bel.size))); have HQ6 := Lib.hid (Nat.le_trans HSZW.out hq); clear ht6 b6 hq)
  go_ret
  exact ⟨q, HQ6.out, rfl, HT6.out, HY6.out, HO6.out⟩
end
end Go.Proofs.Ytllaajkpobpeiaa
