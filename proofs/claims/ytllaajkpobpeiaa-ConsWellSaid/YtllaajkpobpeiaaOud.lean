/- cons: a taker at work is asked at a tick; the table of one byte that takes. -/
import Derived.Test.YtllaajkpobpeiaaOuc
import Derived.Test.YtllaajkpobpeiaaOk
namespace Go.Proofs.Ytllaajkpobpeiaa
open Go.RowKit
set_option linter.unusedSimpArgs false
set_option linter.unusedVariables false

section
variable {w : World} {t k ck gd sz : Nat} {xw : ChV} {p : Option (List Int)} {v : List Int} {S F : Int}
set_option maxRecDepth 100000 in
set_option maxHeartbeats 8000000 in
theorem same_no (now : Int) (x : ChV) (h : TkW w t k ck gd sz xw p v S F) (hc : chB xw x = true) (hx : takesB x = true) (hn : 0 ≤ now ∧ now ≤ 2147483647) (hz : rcE xw.time xw.gap S F now = 0) : Calls Try.prog 30 #[.pointer (some ⟨t, 0, none⟩), .int .i64 now, .bool true, .agg (chA x)] w fun e w' => e = .returned (.int .i64 0) ∧ TkW w' t k ck gd sz xw p v S F ∧ Onl t w w' := by
  have hb0 : Below w.heap.size w (w.alloc (.cells (chA x) 29)) := (Below.refl _ _).alloc (Nat.le_refl _) _
  have hx0 : ChAt (w.alloc (.cells (chA x) 29)) w.heap.size x := heap_alloc_new w _
  have HX0 : Hid ((w.alloc (.cells (chA x) 29)).heap[w.heap.size]? = some (.cells (chA x) 29 (0, 0))) := Lib.hid hx0
  have HW0 := Lib.hid (h.below hb0)
  have HB0 := Lib.hid hb0
  have HGL := Lib.hid (Nat.le_of_lt h.lt)
  have HTI := Lib.hid (fun w => ctick_any now w)
  rw [show tkB now = true from decide_eq_true hn] at HTI
  have HTA := Lib.hid (fun w => ctakes_any w x)
  rw [hx] at HTA
  have hld : Hid ((Try.prog.info? 29).map (·.size) = some (chA x).size) := Lib.hid info_chan
  have hq := fun w => run_eq_chan w xw x
  rw [hc] at hq
  have HXR := Lib.hid (fun (y : World) (hy : ChAt y w.heap.size x) => show y.rangeAt w.heap.size 0 (chA x).toList from fun j v hv => by rw [cell_of_row _ _ _ _ _ _ hy, Nat.zero_add]; simpa using hv)
  have HWR := Lib.hid (fun (y : World) (hy : TkW y t k ck gd sz xw p v S F) => hy.mid)
  have HCX : Hid ((Try.prog.info? 29).map (·.size) = some (chA x).toList.length) := Lib.hid info_chan
  have HCY : Hid ((Try.prog.info? 29).map (·.size) = some (chA xw).toList.length) := Lib.hid info_chan
  have HLT := Lib.hid (fun (y : World) (hy : TkW y t k ck gd sz xw p v S F) => late_any now hy (by omega))
  have HCHX : Hid (∀ y, y.heap[w.heap.size]? = some (.cells (chA x) 29 (0, 0)) → ChAt y w.heap.size x) := Lib.hid (fun y h => h)
  obtain ⟨e0, e1, e2, e3, e4, e5⟩ := HW0.out.cells
  have HNN := Lib.hid hn
  clear h hx hb0 hx0 hn hc
  rw [hz] at HLT
  clear hz
  generalize chA xw = CY at *
  generalize chA x = CX at *
  go_enter Try.func30, Try.ntmps30
  go_upto_region 6 with (first
    | (go_at_call 56; refine (HTI.out _).mono ?_; rintro e wz ⟨rfl, rfl⟩)
    | (have _hh := HX0.out; refine wpList_load_row_want (by kernel_rfl) _ (.tmp 7) rfl w.heap.size rfl _ _ _ _ HX0.out Try.underlying29 rfl hld.out ?_)
    | (go_at_call 26; refine (HTA.out _).mono ?_; rintro e w1 ⟨rfl, b1⟩; have HB1 := Lib.hid (kF b1 HB0.out); have HX1 : Hid (w1.heap[w.heap.size]? = some (.cells CX 29 (0, 0))) := Lib.hid ((b1.block _ (Array.getElem?_eq_some_iff.1 HX0.out).1).trans HX0.out); have HW1 := Lib.hid (HW0.out.below b1); clear b1))
  clear e0 e1 e2 e3 e4 e5
  have HWQ := works_q2 HW1.out
  obtain ⟨e0, e1, e2, e3, e4, e5⟩ := HW1.out.cells
  have HL1 : Hid (∀ y, (∃ kk, y = w1.drewN kk) → y.rangeAt k 2 CY.toList) := Lib.hid (by rintro y ⟨kk, rfl⟩; exact HWR.out _ (HW1.out.below (below_drewN (Below.refl _ _) kk)))
  have HL2 : Hid (∀ y, (∃ kk, y = w1.drewN kk) → y.rangeAt w.heap.size 0 CX.toList) := Lib.hid (by rintro y ⟨kk, rfl⟩; exact HXR.out _ (HCHX.out _ HX1.out))
  refine wp_region_quiet_lit (by kernel_rfl) (by kernel_rfl) ?_
  repeat (go_big_quiet_step ((go_at_call 36; exact HWQ.out _)))
  refine wpQuiet_load_mid (by kernel_rfl) _ (.tmp 44) rfl k 2 rfl _ _ HL1.out Try.underlying29 rfl HCY.out ?_
  refine wpQuiet_load_mid (by kernel_rfl) _ (.tmp 7) rfl w.heap.size 0 rfl _ _ HL2.out Try.underlying29 rfl HCX.out ?_
  simp only [Array.toArray_toList]
  quiet_step (fail)
  repeat (go_big_quiet_step (fail))
  refine wpQuiet_nil ?_
  intro _ hw'
  obtain ⟨nq, hw''⟩ := hw'
  subst hw''
  have hbq : Below w1.heap.size w1 (w1.drewN nq) := below_drewN (Below.refl _ _) _
  have HB2 := Lib.hid (kF hbq HB1.out)
  have HW2 := Lib.hid (HW1.out.below hbq)
  clear hbq e0 e1 e2 e3 e4 e5 hq HL1 HL2 HWQ
  generalize w1.drewN nq = w2 at *
  obtain ⟨e0, e1, e2, e3, e4, e5⟩ := HW2.out.cells
  go_wp2_with (first
    | (go_at_call 59; refine (HLT.out _ HW2.out).mono ?_; rintro e w3 ⟨rfl, b3⟩; have HB3 := Lib.hid (kF b3 HB2.out); have HW3 := Lib.hid (HW2.out.below b3); clear b3)
    | (go_at_call 58; refine (fail_no _ _).mono ?_; rintro e wz ⟨rfl, rfl⟩))
  go_ret
  exact ⟨rfl, HW3.out, Onl.of HB3.out HGL.out⟩
set_option maxRecDepth 100000 in
set_option maxHeartbeats 8000000 in
theorem same_yes (now : Int) (x : ChV) (h : TkW w t k ck gd sz xw p v S F) (hc : chB xw x = true) (hx : takesB x = true) (hn : 0 ≤ now ∧ now ≤ 2147483647) {c : Int} (hz : rcE xw.time xw.gap S F now = c) (hcc : ¬ c = 0) : Calls Try.prog 30 #[.pointer (some ⟨t, 0, none⟩), .int .i64 now, .bool true, .agg (chA x)] w fun e w' => e = .returned (.int .i64 c) ∧ TkR w' t c ∧ Onl t w w' := by
  have hb0 : Below w.heap.size w (w.alloc (.cells (chA x) 29)) := (Below.refl _ _).alloc (Nat.le_refl _) _
  have hx0 : ChAt (w.alloc (.cells (chA x) 29)) w.heap.size x := heap_alloc_new w _
  have HX0 : Hid ((w.alloc (.cells (chA x) 29)).heap[w.heap.size]? = some (.cells (chA x) 29 (0, 0))) := Lib.hid hx0
  have HW0 := Lib.hid (h.below hb0)
  have HB0 := Lib.hid hb0
  have HGL := Lib.hid (Nat.le_of_lt h.lt)
  have HTI := Lib.hid (fun w => ctick_any now w)
  rw [show tkB now = true from decide_eq_true hn] at HTI
  have HTA := Lib.hid (fun w => ctakes_any w x)
  rw [hx] at HTA
  have hld : Hid ((Try.prog.info? 29).map (·.size) = some (chA x).size) := Lib.hid info_chan
  have hq := fun w => run_eq_chan w xw x
  rw [hc] at hq
  have HXR := Lib.hid (fun (y : World) (hy : ChAt y w.heap.size x) => show y.rangeAt w.heap.size 0 (chA x).toList from fun j v hv => by rw [cell_of_row _ _ _ _ _ _ hy, Nat.zero_add]; simpa using hv)
  have HWR := Lib.hid (fun (y : World) (hy : TkW y t k ck gd sz xw p v S F) => hy.mid)
  have HCX : Hid ((Try.prog.info? 29).map (·.size) = some (chA x).toList.length) := Lib.hid info_chan
  have HCY : Hid ((Try.prog.info? 29).map (·.size) = some (chA xw).toList.length) := Lib.hid info_chan
  have HLT := Lib.hid (fun (y : World) (hy : TkW y t k ck gd sz xw p v S F) => late_any now hy (by omega))
  have HCHX : Hid (∀ y, y.heap[w.heap.size]? = some (.cells (chA x) 29 (0, 0)) → ChAt y w.heap.size x) := Lib.hid (fun y h => h)
  obtain ⟨e0, e1, e2, e3, e4, e5⟩ := HW0.out.cells
  have HNN := Lib.hid hn
  clear h hx hb0 hx0 hn hc
  rw [hz] at HLT
  clear hz
  generalize chA xw = CY at *
  generalize chA x = CX at *
  go_enter Try.func30, Try.ntmps30
  go_upto_region 6 with (first
    | (go_at_call 56; refine (HTI.out _).mono ?_; rintro e wz ⟨rfl, rfl⟩)
    | (have _hh := HX0.out; refine wpList_load_row_want (by kernel_rfl) _ (.tmp 7) rfl w.heap.size rfl _ _ _ _ HX0.out Try.underlying29 rfl hld.out ?_)
    | (go_at_call 26; refine (HTA.out _).mono ?_; rintro e w1 ⟨rfl, b1⟩; have HB1 := Lib.hid (kF b1 HB0.out); have HX1 : Hid (w1.heap[w.heap.size]? = some (.cells CX 29 (0, 0))) := Lib.hid ((b1.block _ (Array.getElem?_eq_some_iff.1 HX0.out).1).trans HX0.out); have HW1 := Lib.hid (HW0.out.below b1); clear b1))
  clear e0 e1 e2 e3 e4 e5
  have HWQ := works_q2 HW1.out
  obtain ⟨e0, e1, e2, e3, e4, e5⟩ := HW1.out.cells
  have HL1 : Hid (∀ y, (∃ kk, y = w1.drewN kk) → y.rangeAt k 2 CY.toList) := Lib.hid (by rintro y ⟨kk, rfl⟩; exact HWR.out _ (HW1.out.below (below_drewN (Below.refl _ _) kk)))
  have HL2 : Hid (∀ y, (∃ kk, y = w1.drewN kk) → y.rangeAt w.heap.size 0 CX.toList) := Lib.hid (by rintro y ⟨kk, rfl⟩; exact HXR.out _ (HCHX.out _ HX1.out))
  refine wp_region_quiet_lit (by kernel_rfl) (by kernel_rfl) ?_
  repeat (go_big_quiet_step ((go_at_call 36; exact HWQ.out _)))
  refine wpQuiet_load_mid (by kernel_rfl) _ (.tmp 44) rfl k 2 rfl _ _ HL1.out Try.underlying29 rfl HCY.out ?_
  refine wpQuiet_load_mid (by kernel_rfl) _ (.tmp 7) rfl w.heap.size 0 rfl _ _ HL2.out Try.underlying29 rfl HCX.out ?_
  simp only [Array.toArray_toList]
  quiet_step (fail)
  repeat (go_big_quiet_step (fail))
  refine wpQuiet_nil ?_
  intro _ hw'
  obtain ⟨nq, hw''⟩ := hw'
  subst hw''
  have hbq : Below w1.heap.size w1 (w1.drewN nq) := below_drewN (Below.refl _ _) _
  have HB2 := Lib.hid (kF hbq HB1.out)
  have HW2 := Lib.hid (HW1.out.below hbq)
  clear hbq e0 e1 e2 e3 e4 e5 hq HL1 HL2 HWQ
  generalize w1.drewN nq = w2 at *
  obtain ⟨e0, e1, e2, e3, e4, e5⟩ := HW2.out.cells
  go_wp2_with (first
    | (go_at_call 59; refine (HLT.out _ HW2.out).mono ?_; rintro e w3 ⟨rfl, b3⟩; have HB3 := Lib.hid (kF b3 HB2.out); have HW3 := Lib.hid (HW2.out.below b3); clear b3)
    | (go_at_call 58; refine (fail_yes HW3.out.tb hcc).mono ?_; rintro e w4 ⟨rfl, hr4, o4⟩; have HR4 := Lib.hid hr4; have HO4 := Lib.hid o4; clear hr4 o4))
  go_ret
  exact ⟨rfl, HR4.out, (Onl.of HB3.out HGL.out).trans HO4.out⟩
end
/-! ### The table of one byte that takes -/
def tabC (time gap : Int) : ChV := ⟨2, time, gap, 257, 258, 1, fun j => if j = 0 then ⟨8192, 1, 8⟩ else ⟨0, 0, 0⟩⟩
theorem tabC_size (time gap : Int) : szX (tabC time gap) = 1 := by
  unfold szX
  rw [if_neg (by simp [tabC])]
  rfl
theorem tabC_takes {time gap : Int} (h : 1 ≤ time ∧ time ≤ 65535) (h2 : 1 ≤ gap ∧ gap ≤ 65535) : takesB (tabC time gap) = true := by
  unfold takesB
  rw [tabC_size]
  exact decide_eq_true ⟨rfl, decide_eq_true h, decide_eq_true h2, by omega, rfl, rfl, by show ¬ (257 : Int) = 258; decide⟩
set_option maxRecDepth 100000 in
set_option maxHeartbeats 4000000 in
theorem tableC_any (time gap : Int) (w : World) : Calls Try.prog 39 #[.int .i64 time, .int .i64 gap] w fun e w' => e = .returned (.agg (chA (tabC time gap))) ∧ Below w.heap.size w w' := by
  have HTA := Lib.hid (fun w => table_any time w)
  have HZ0 : Hid ((w.alloc (.cells (chA c0X) 29)).heap[w.heap.size]? = some (.cells (chA c0X) 29 (0, 0))) := Lib.hid (heap_alloc_new w _)
  have hba : Below w.heap.size w (w.alloc (.cells (chA c0X) 29)) := (Below.refl _ _).alloc (Nat.le_refl _) _
  have HB0 := Lib.hid hba
  have HI := Lib.hid info_chan
  have HIX : Hid ((Try.prog.info? 29).map (·.size) = some (chA (tabX time)).size) := HI
  have HIC : Hid ((Try.prog.info? 29).map (·.size) = some (chA (tabC time gap)).size) := HI
  have H1X := Lib.hid (chA_one (tabX time))
  have H1C := Lib.hid (chA_one (tabC time gap))
  have HE0 : Hid ((chA c0X).size = (chA (tabX time)).size) := Lib.hid rfl
  have HE1 : Hid ((chA c0X).size = (chA (tabC time gap)).size) := Lib.hid rfl
  clear hba
  go_enter Try.func39, Try.ntmps39
  go_upto_region 2 with (first
    | (go_at_call 21; refine (HTA.out _).mono ?_; rintro e w1 ⟨rfl, b1⟩; have HB1 := Lib.hid (kF b1 HB0.out); have HZ1 : Hid (w1.heap[w.heap.size]? = some (.cells (chA c0X) 29 (0, 0))) := Lib.hid ((b1.block _ (Array.getElem?_eq_some_iff.1 HZ0.out).1).trans HZ0.out); have HY1 : Hid ((w1.alloc (.cells (chA c0X) 29)).heap[w1.heap.size]? = some (.cells (chA c0X) 29 (0, 0))) := Lib.hid (heap_alloc_new w1 _); clear b1)
    | (refine wpList_store_row rfl _ (.tmp 5) (.tmp 7) rfl w1.heap.size _ rfl rfl _ _ HY1.out HIX.out HE0.out H1X.out ?_))
  have hba : Below w1.heap.size w1 ((w1.alloc (.cells (chA c0X) 29)).setRow w1.heap.size (chA (tabX time))) := below_setRow ((Below.refl _ _).alloc (Nat.le_refl _) _) (Nat.le_refl _) _
  have HB2 := Lib.hid (kF hba HB1.out)
  have HZ2 : Hid (((w1.alloc (.cells (chA c0X) 29)).setRow w1.heap.size (chA (tabX time))).heap[w.heap.size]? = some (.cells (chA c0X) 29 (0, 0))) := Lib.hid ((hba.block _ (Array.getElem?_eq_some_iff.1 HZ1.out).1).trans HZ1.out)
  have HY2 : Hid (ChAt ((w1.alloc (.cells (chA c0X) 29)).setRow w1.heap.size (chA (tabX time))) w1.heap.size (tabX time)) := Lib.hid (setRow_heap _ _ _ _ _ (0, 0) HY1.out)
  have HLT := Lib.hid (show w.heap.size ≤ w1.heap.size ∧ ¬ w.heap.size = w1.heap.size from ⟨HB1.out.size, fun e => by have := (Array.getElem?_eq_some_iff.1 HZ1.out).1; omega⟩)
  clear hba HZ1 HY1 HB1 HB0 HZ0
  change Code.wp _ _ _ _ ((w1.alloc (.cells (chA c0X) 29)).setRow w1.heap.size (chA (tabX time)))
  generalize (w1.alloc (.cells (chA c0X) 29)).setRow w1.heap.size (chA (tabX time)) = w2 at *
  generalize w1.heap.size = g at *
  obtain ⟨a0, a1, a2, a3, a4, a5⟩ := HY2.out.cells
  have f0 := frozen_of_row _ _ 0 _ _ HY2.out
  have f2 := frozen_of_row _ _ 2 _ _ HY2.out
  have HY3 : Hid (ChAt ((w2.setCell ⟨g, 0, none⟩ (.int .i64 2)).setCell ⟨g, 2, none⟩ (.int .i64 gap)) g (tabC time gap)) := Lib.hid (heap_setCell_same _ g 2 _ _ _ (heap_setCell_same w2 g 0 _ _ _ HY2.out))
  have HO3 := Lib.hid ((Onl.set (g := g) w2 0 (.int .i64 2)).trans (Onl.set _ 2 (.int .i64 gap)))
  go_upto_region 4 with fail
  clear a0 a1 a2 a3 a4 a5 f0 f2
  generalize (w2.setCell ⟨g, 0, none⟩ (.int .i64 2)).setCell ⟨g, 2, none⟩ (.int .i64 gap) = w3 at *
  have HZ3 : Hid (w3.heap[w.heap.size]? = some (.cells (chA c0X) 29 (0, 0))) := Lib.hid ((HO3.out.oth _ (Array.getElem?_eq_some_iff.1 HZ2.out).1 HLT.out.2).trans HZ2.out)
  have HB3 := Lib.hid (HB2.out.trans (HO3.out.from_ HLT.out.1))
  have HPP : Hid (w3.heap[g]? = some (.cells (chA (tabC time gap)) 29 (0, 0))) := Lib.hid HY3.out
  have HD : Hid ((w3.setRow w.heap.size (chA (tabC time gap))).heap[w.heap.size]? = some (.cells (chA (tabC time gap)) 29 (0, 0))) := Lib.hid (setRow_heap _ _ _ _ _ (0, 0) HZ3.out)
  have HDB : Hid (Below w.heap.size w (w3.setRow w.heap.size (chA (tabC time gap)))) := Lib.hid (below_setRow HB3.out (Nat.le_refl _) _)
  generalize hTX : chA (tabC time gap) = TX at *
  have HTX := Lib.hid hTX
  clear hTX
  generalize chA c0X = ZX at *
  go_wp2_with (first
    | (refine wpList_load_row rfl _ (.tmp 5) rfl g rfl _ _ _ _ HPP.out Try.underlying29 rfl HIC.out ?_)
    | (refine wpList_store_row rfl _ (.tmp 4) (.tmp 11) rfl w.heap.size _ rfl rfl _ _ HZ3.out HIC.out HE1.out H1C.out ?_))
  exact bodyPost_ret (results_cell_row rfl _ _ w.heap.size _ _ _ _ rfl HD.out Try.underlying29 rfl HIC.out) rfl ⟨by rw [HTX.out], HDB.out⟩
end Go.Proofs.Ytllaajkpobpeiaa
