/- prod: a step that waits or is due, as the document says. -/
import Derived.Test.YtllaajkpobpeiaaOh
namespace Go.Proofs.Ytllaajkpobpeiaa
open Go.RowKit
set_option linter.unusedSimpArgs false
set_option linter.unusedVariables false

theorem wpList_load_mid_want {P : Program} {ops : Array Oper} {rest : List Oper} {op : Oper} {a : Act} {w : World} {Q : Exit → Act → World → Prop} (hw : Region.wanted op (yielded ops a.tmps) = true) (ty : TypeId) (x : Operand) (ho : op.op = .load ty x)
    (b o : Nat) (hx : a.eval x = .pointer (some ⟨b, o, none⟩)) (cs : List Value) (d : TypeDesc) (hc : w.rangeAt b o cs)
    (hu : P.underlying ty = some d) (hd : d.isRow = true) (hi : (P.info? ty).map (·.size) = some cs.length)
    (h : wpList P ops Q rest (a.put op.dst (.agg cs.toArray)) w) : wpList P ops Q (op :: rest) a w :=
  BigFrame.wpList_want hw fun _ hK => wp_load_mid ty x ho b o hx cs d hc hu hd hi (hK _ _ h)
section
variable {w : World} {x0 : ChV} {t n : Int} {A : Option Addr} {m c : Nat} {l : List Int}
set_option maxRecDepth 100000 in
set_option maxHeartbeats 8000000 in
theorem rstep_wait (now : Int) (on : Bool) (x : ChV) (hB : Byt w w.heap.size A m c l) (hn : 0 ≤ now ∧ now ≤ 2147483647) (ho : on = true) (hs : sendsB x = true) (hz : (m : Int) = szX x) (ht : 0 ≤ t ∧ t ≤ now) (hc : chB x0 x = true) (hd : now - t < x.time) : Calls Try.prog 15 #[.agg (rkA t x0 n), .int .i64 now, .bool on, .agg (chA x), .slice A m c] w fun e w' => e = .returned (.tuple #[.agg (rkA t x0 n), .slice none 0 0]) ∧ Below w.heap.size w w' := by
  have H0 := Lib.hid (StR.start (w := w) (t := t) (x0 := x0) (n := n) (x := x))
  have HBB := Lib.hid (fun w' (hb : Below w.heap.size w w') => show Byt w' w'.heap.size A m c l from hB.step hb)
  have HML := Lib.hid (show l.length = m from hB.len)
  have hm63 : m ≤ 9223372036854775807 := by have := hB.cap; have := hB.max; simp only [maxLen] at this; omega
  have hn1 : ¬ now < 0 := by omega
  have hn2 : ¬ 2147483647 < now := by omega
  have hn3 : decide (now < 0) = false := decide_eq_false hn1
  have hn4 : decide (2147483647 < now) = false := decide_eq_false hn2
  have HSE := Lib.hid (fun w => rsends_any w x)
  have HSZ := Lib.hid (fun w => rxsize_any w x)
  have HIM : Hid ((Try.prog.info? 36).map (·.size) = some 32) := Lib.hid info_rk
  have hld : Hid ((Try.prog.info? 29).map (·.size) = some (chA x).size) := Lib.hid info_chan
  clear hB
  subst ho
  rw [hs] at HSE
  have hz2 : ((m : Int) == szX x) = true := by simpa using hz
  have hz3 : ((m : Int) != szX x) = false := by simpa using hz
  have ht0 := ht.1
  have hw : IntKind.i64.wrap (now - t) = now - t := IntWalk.i64_in _ (by omega)
  clear hs ht
  generalize szX x = z at *
  obtain ⟨KX, hKX⟩ : ∃ KX, rkA t x0 n = KX := ⟨_, rfl⟩
  obtain ⟨CX, hCX⟩ : ∃ CX, chA x = CX := ⟨_, rfl⟩
  rw [hKX, hCX] at H0 ⊢
  rw [hCX] at HSE HSZ
  have HCX : Hid (chA x = CX) := Lib.hid hCX
  have HKX : Hid (rkA t x0 n = KX) := Lib.hid hKX
  have hld2 : Hid ((Try.prog.info? 29).map (·.size) = some CX.size) := by rw [hCX] at hld; exact hld
  clear hKX hCX hld
  go_enter Try.func15, Try.ntmps15
  go_upto_region 1 with fail
  change (Code.wp _ _ _ _ (((w.alloc (.cells KX 36)).alloc (.cells CX 29)).alloc (.cells (rkA 0 c0X 0) 36)))
  generalize ((w.alloc (.cells KX 36)).alloc (.cells CX 29)).alloc (.cells (rkA 0 c0X 0) 36) = w0 at *
  go_upto_region 6 with (first | (refine wpList_load_row_want (by kernel_rfl) _ (.tmp 8) rfl (w.heap.size + 1) rfl _ CX _ _ (by have := H0.out.c; rw [HCX.out] at this; exact this) Try.underlying29 rfl hld2.out ?_) | (refine wpList_load_row_want (by kernel_rfl) _ (.tmp 8) rfl (w.heap.size + 1) rfl _ CX _ _ (by have := H1.out.c; rw [HCX.out] at this; exact this) Try.underlying29 rfl hld2.out ?_) | (go_at_call 13; (with_reducible refine (HSE.out _).mono ?_); rintro e w1 ⟨rfl, b1⟩; have H1 := Lib.hid (H0.out.below b1); clear b1) | (go_at_call 11; (with_reducible refine (HSZ.out _).mono ?_); rintro e w2 ⟨rfl, b2⟩; have H2 := Lib.hid (H1.out.below b2); clear b2))
  have hq := fun w => run_eq_chan w x0 x
  have HMI := Lib.hid H2.out.mid
  have HIY : Hid ((Try.prog.info? 29).map (·.size) = some (chA x0).toList.length) := Lib.hid info_chan
  have HCB := Lib.hid (show w2.heap[w.heap.size + 1]? = some (.cells CX 29 (0, 0)) by have := H2.out.c; rw [HCX.out] at this; exact this)
  rw [HCX.out] at hq
  obtain ⟨CY, hCY⟩ : ∃ CY, chA x0 = CY := ⟨_, rfl⟩
  rw [hCY] at hq HMI HIY
  clear hCY
  obtain ⟨c0, c31, f0, d1, d3, d4⟩ := H2.out.cells
  rw [hc] at hq
  clear hc
  go_upto_region 7 with (first | (have _hh := HMI.out; refine wpList_load_mid_want (by kernel_rfl) _ (.tmp 41) rfl w.heap.size 1 rfl CY.toList _ HMI.out Try.underlying29 rfl HIY.out ?_; clear HMI _hh) | (have _hh := HCB.out; refine wpList_load_row_want (by kernel_rfl) _ (.tmp 8) rfl (w.heap.size + 1) rfl _ CX _ _ HCB.out Try.underlying29 rfl hld2.out ?_; clear HCB _hh) | (simp only [Array.toArray_toList]; fail))
  have HK9 : Hid (w2.heap[w.heap.size]? = some (.cells (rkA t x0 n) 36 (0, 0))) := Lib.hid H2.out.k
  have HR9 : Hid (w2.heap[w.heap.size + 1 + 1]? = some (.cells (rkA 0 c0X 0) 36 (0, 0))) := Lib.hid H2.out.r
  have HD9 := Lib.hid (H2.out.done t x0 n)
  have HE9 := Lib.hid (H2.out.doneB (rkA t x0 n))
  have H1C := Lib.hid (rkA_one t x0 n)
  have HSQ : Hid ((rkA 0 c0X 0).size = (rkA t x0 n).size) := Lib.hid rfl
  have HIX : Hid ((Try.prog.info? 36).map (·.size) = some (rkA t x0 n).size) := HIM
  clear c0 c31 f0 d1 d3 d4
  rw [HKX.out] at HK9 HD9 HE9 H1C HSQ HIX
  generalize rkA 0 c0X 0 = ZX at *
  go_wp2_with (first
    | (refine wpList_load_row rfl _ (.tmp 5) rfl w.heap.size rfl _ _ _ _ HK9.out Try.underlying36 rfl HIX.out ?_)
    | (refine wpList_store_row rfl _ (.tmp 10) (.tmp 55) rfl (w.heap.size + 1 + 1) _ rfl rfl _ _ HR9.out HIX.out HSQ.out H1C.out ?_))
  exact bodyPost_ret (results_cell_tmp_row rfl _ _ (w.heap.size + 1 + 1) _ _ _ _ rfl HD9.out Try.underlying36 rfl HIX.out) rfl ⟨rfl, HE9.out⟩
set_option maxRecDepth 100000 in
set_option maxHeartbeats 8000000 in
theorem rstep_rest (now : Int) (on : Bool) (x : ChV) (hB : Byt w w.heap.size A m c l) (hn : 0 ≤ now ∧ now ≤ 2147483647) (ho : on = true) (hs : sendsB x = true) (hz : (m : Int) = szX x) (ht : t < 0) (hnn : 0 ≤ n ∧ n ≤ 1000000) : Calls Try.prog 15 #[.agg (rkA t x0 n), .int .i64 now, .bool on, .agg (chA x), .slice A m c] w fun e w' => ∃ q, w.heap.size ≤ q ∧ e = .returned (.tuple #[.agg (rkA now x (n + 1)), .slice (some ⟨q, 0, none⟩) 2 2]) ∧ TwAt w' q x.plain x.turned m (dOf l) (dOf (flipL l)) ∧ Below w.heap.size w w' := by
  have H0 := Lib.hid (StR.start (w := w) (t := t) (x0 := x0) (n := n) (x := x))
  have HBB := Lib.hid (fun w' (hb : Below w.heap.size w w') => show Byt w' w'.heap.size A m c l from hB.step hb)
  have HML := Lib.hid (show l.length = m from hB.len)
  have hm63 : m ≤ 9223372036854775807 := by have := hB.cap; have := hB.max; simp only [maxLen] at this; omega
  have hn1 : ¬ now < 0 := by omega
  have hn2 : ¬ 2147483647 < now := by omega
  have hn3 : decide (now < 0) = false := decide_eq_false hn1
  have hn4 : decide (2147483647 < now) = false := decide_eq_false hn2
  have HSE := Lib.hid (fun w => rsends_any w x)
  have HSZ := Lib.hid (fun w => rxsize_any w x)
  have HIM : Hid ((Try.prog.info? 36).map (·.size) = some 32) := Lib.hid info_rk
  have hld : Hid ((Try.prog.info? 29).map (·.size) = some (chA x).size) := Lib.hid info_chan
  clear hB
  subst ho
  rw [hs] at HSE
  have hz2 : ((m : Int) == szX x) = true := by simpa using hz
  have hz3 : ((m : Int) != szX x) = false := by simpa using hz
  have hsd : idB x.plain = true ∧ idB x.turned = true ∧ 1 ≤ szX x ∧ szX x ≤ 8 := by
    have := of_decide_eq_true hs
    exact ⟨this.2.2.2.1, this.2.2.2.2, this.2.2.1.1, this.2.2.1.2⟩
  have hp1 := of_decide_eq_true hsd.1
  have hp2 := of_decide_eq_true hsd.2.1
  have hm8 : 1 ≤ m ∧ m ≤ 8 := by omega
  have HMA := Lib.hid (fun w' (hb : Byt w' w'.heap.size A m c l) => dmake_ok x.plain x.turned A m c l w' hb hm8 (by have := chk_good (l := l) hp1.1 hp1.2 (by have := HML.out; omega); rw [HML.out] at this; exact this) (by have := chk_good (l := flipL l) hp2.1 hp2.2 (by have := HML.out; rw [flipL_len]; omega); rw [flipL_len, HML.out] at this; exact this))
  have HBN : Hid (Try.prog.built 36 [(0, .int .i64 now), (1, .agg (chA x)), (2, .int .i64 (n + 1))] = some (rkA now x (n + 1))) := Lib.hid (by kernel_rfl)
  have hw1 : IntKind.i64.wrap (n + 1) = n + 1 := IntWalk.i64_in _ (by omega)
  have ht1 : ¬ 0 ≤ t := by omega
  clear hs hsd hp1 hp2 hnn HML
  generalize szX x = z at *
  obtain ⟨KX, hKX⟩ : ∃ KX, rkA t x0 n = KX := ⟨_, rfl⟩
  obtain ⟨CX, hCX⟩ : ∃ CX, chA x = CX := ⟨_, rfl⟩
  rw [hKX, hCX] at H0 ⊢
  rw [hCX] at HSE HSZ
  have HCX : Hid (chA x = CX) := Lib.hid hCX
  have HKX : Hid (rkA t x0 n = KX) := Lib.hid hKX
  have hld2 : Hid ((Try.prog.info? 29).map (·.size) = some CX.size) := by rw [hCX] at hld; exact hld
  clear hKX hCX hld
  go_enter Try.func15, Try.ntmps15
  rw [HCX.out] at HBN
  go_upto_region 1 with fail
  change (Code.wp _ _ _ _ (((w.alloc (.cells KX 36)).alloc (.cells CX 29)).alloc (.cells (rkA 0 c0X 0) 36)))
  generalize ((w.alloc (.cells KX 36)).alloc (.cells CX 29)).alloc (.cells (rkA 0 c0X 0) 36) = w0 at *
  go_upto_region 6 with (first | (refine wpList_load_row_want (by kernel_rfl) _ (.tmp 8) rfl (w.heap.size + 1) rfl _ CX _ _ (by have := H0.out.c; rw [HCX.out] at this; exact this) Try.underlying29 rfl hld2.out ?_) | (refine wpList_load_row_want (by kernel_rfl) _ (.tmp 8) rfl (w.heap.size + 1) rfl _ CX _ _ (by have := H1.out.c; rw [HCX.out] at this; exact this) Try.underlying29 rfl hld2.out ?_) | (go_at_call 13; (with_reducible refine (HSE.out _).mono ?_); rintro e w1 ⟨rfl, b1⟩; have H1 := Lib.hid (H0.out.below b1); clear b1) | (go_at_call 11; (with_reducible refine (HSZ.out _).mono ?_); rintro e w2 ⟨rfl, b2⟩; have H2 := Lib.hid (H1.out.below b2); clear b2))
  have hq := fun w => run_eq_chan w x0 x
  have HMI := Lib.hid H2.out.mid
  have HIY : Hid ((Try.prog.info? 29).map (·.size) = some (chA x0).toList.length) := Lib.hid info_chan
  have HCB := Lib.hid (show w2.heap[w.heap.size + 1]? = some (.cells CX 29 (0, 0)) by have := H2.out.c; rw [HCX.out] at this; exact this)
  rw [HCX.out] at hq
  obtain ⟨CY, hCY⟩ : ∃ CY, chA x0 = CY := ⟨_, rfl⟩
  rw [hCY] at hq HMI HIY
  clear hCY
  obtain ⟨c0, c31, f0, d1, d3, d4⟩ := H2.out.cells
  go_upto_region 8 with fail
  have HDX := Lib.hid (show ∀ w', StR w w' t x0 n x → w'.heap[w.heap.size + 1]? = some (.cells CX 29 (0, 0)) from fun w' h' => by have := h'.c; rw [HCX.out] at this; exact this)
  go_upto_region 9 with (go_at_call 41; refine (HMA.out _ (HBB.out _ H2.out.bel)).mono ?_; rintro e w3 ⟨q, hq3, rfl, ht3, b3⟩; have HT3 := Lib.hid ht3; have H3 := Lib.hid (H2.out.below b3); have HQ3 := Lib.hid (Nat.le_trans H2.out.bel.size hq3); have HQL := Lib.hid (show ¬ q = w.heap.size + 1 + 1 from fun e => by have := (Array.getElem?_eq_some_iff.1 H2.out.r).1; omega); clear ht3 b3 hq3)
  clear c0 c31 f0 d1 d3 d4
  obtain ⟨c0, c31, f0, d1, d3, d4⟩ := H3.out.cells
  have HC9 := Lib.hid (HDX.out _ H3.out)
  have HR9 : Hid (w3.heap[w.heap.size + 1 + 1]? = some (.cells (rkA 0 c0X 0) 36 (0, 0))) := Lib.hid H3.out.r
  have HD9 := Lib.hid (H3.out.done now x (n + 1))
  have HE9 := Lib.hid (H3.out.doneB (rkA now x (n + 1)))
  have HT9 : Hid (TwAt (w3.setRow (w.heap.size + 1 + 1) (rkA now x (n + 1))) q x.plain x.turned m (dOf l) (dOf (flipL l))) := Lib.hid ((setRow_other _ _ _ _ HQL.out).trans HT3.out)
  have H1C := Lib.hid (rkA_one now x (n + 1))
  have HSQ : Hid ((rkA 0 c0X 0).size = (rkA now x (n + 1)).size) := Lib.hid rfl
  have HIX : Hid ((Try.prog.info? 36).map (·.size) = some (rkA now x (n + 1)).size) := HIM
  generalize hRX : rkA now x (n + 1) = RX at *
  have HRX := Lib.hid hRX
  clear hRX
  generalize rkA 0 c0X 0 = ZX at *
  go_wp2_with (first
    | (refine wpList_load_row rfl _ (.tmp 8) rfl (w.heap.size + 1) rfl _ _ _ _ HC9.out Try.underlying29 rfl hld2.out ?_)
    | (refine wpList_build_as rfl _ _ rfl _ _ (by kernel_rfl) HBN.out ?_)
    | (refine wpList_store_row rfl _ (.tmp 10) (.tmp 70) rfl (w.heap.size + 1 + 1) _ rfl rfl _ _ HR9.out HIX.out HSQ.out H1C.out ?_))
  exact bodyPost_ret (results_cell_tmp_row rfl _ _ (w.heap.size + 1 + 1) _ _ _ _ rfl HD9.out Try.underlying36 rfl HIX.out) rfl ⟨q, HQ3.out, by rw [HRX.out]; rfl, HT9.out, HE9.out⟩
set_option maxRecDepth 100000 in
set_option maxHeartbeats 8000000 in
theorem rstep_other (now : Int) (on : Bool) (x : ChV) (hB : Byt w w.heap.size A m c l) (hn : 0 ≤ now ∧ now ≤ 2147483647) (ho : on = true) (hs : sendsB x = true) (hz : (m : Int) = szX x) (ht : 0 ≤ t) (hc : chB x0 x = false) (hnn : 0 ≤ n ∧ n ≤ 1000000) : Calls Try.prog 15 #[.agg (rkA t x0 n), .int .i64 now, .bool on, .agg (chA x), .slice A m c] w fun e w' => ∃ q, w.heap.size ≤ q ∧ e = .returned (.tuple #[.agg (rkA now x (n + 1)), .slice (some ⟨q, 0, none⟩) 2 2]) ∧ TwAt w' q x.plain x.turned m (dOf l) (dOf (flipL l)) ∧ Below w.heap.size w w' := by
  have H0 := Lib.hid (StR.start (w := w) (t := t) (x0 := x0) (n := n) (x := x))
  have HBB := Lib.hid (fun w' (hb : Below w.heap.size w w') => show Byt w' w'.heap.size A m c l from hB.step hb)
  have HML := Lib.hid (show l.length = m from hB.len)
  have hm63 : m ≤ 9223372036854775807 := by have := hB.cap; have := hB.max; simp only [maxLen] at this; omega
  have hn1 : ¬ now < 0 := by omega
  have hn2 : ¬ 2147483647 < now := by omega
  have hn3 : decide (now < 0) = false := decide_eq_false hn1
  have hn4 : decide (2147483647 < now) = false := decide_eq_false hn2
  have HSE := Lib.hid (fun w => rsends_any w x)
  have HSZ := Lib.hid (fun w => rxsize_any w x)
  have HIM : Hid ((Try.prog.info? 36).map (·.size) = some 32) := Lib.hid info_rk
  have hld : Hid ((Try.prog.info? 29).map (·.size) = some (chA x).size) := Lib.hid info_chan
  clear hB
  subst ho
  rw [hs] at HSE
  have hz2 : ((m : Int) == szX x) = true := by simpa using hz
  have hz3 : ((m : Int) != szX x) = false := by simpa using hz
  have hsd : idB x.plain = true ∧ idB x.turned = true ∧ 1 ≤ szX x ∧ szX x ≤ 8 := by
    have := of_decide_eq_true hs
    exact ⟨this.2.2.2.1, this.2.2.2.2, this.2.2.1.1, this.2.2.1.2⟩
  have hp1 := of_decide_eq_true hsd.1
  have hp2 := of_decide_eq_true hsd.2.1
  have hm8 : 1 ≤ m ∧ m ≤ 8 := by omega
  have HMA := Lib.hid (fun w' (hb : Byt w' w'.heap.size A m c l) => dmake_ok x.plain x.turned A m c l w' hb hm8 (by have := chk_good (l := l) hp1.1 hp1.2 (by have := HML.out; omega); rw [HML.out] at this; exact this) (by have := chk_good (l := flipL l) hp2.1 hp2.2 (by have := HML.out; rw [flipL_len]; omega); rw [flipL_len, HML.out] at this; exact this))
  have HBN : Hid (Try.prog.built 36 [(0, .int .i64 now), (1, .agg (chA x)), (2, .int .i64 (n + 1))] = some (rkA now x (n + 1))) := Lib.hid (by kernel_rfl)
  have hw1 : IntKind.i64.wrap (n + 1) = n + 1 := IntWalk.i64_in _ (by omega)
  clear hs hsd hp1 hp2 hnn HML
  generalize szX x = z at *
  obtain ⟨KX, hKX⟩ : ∃ KX, rkA t x0 n = KX := ⟨_, rfl⟩
  obtain ⟨CX, hCX⟩ : ∃ CX, chA x = CX := ⟨_, rfl⟩
  rw [hKX, hCX] at H0 ⊢
  rw [hCX] at HSE HSZ
  have HCX : Hid (chA x = CX) := Lib.hid hCX
  have HKX : Hid (rkA t x0 n = KX) := Lib.hid hKX
  have hld2 : Hid ((Try.prog.info? 29).map (·.size) = some CX.size) := by rw [hCX] at hld; exact hld
  clear hKX hCX hld
  go_enter Try.func15, Try.ntmps15
  rw [HCX.out] at HBN
  go_upto_region 1 with fail
  change (Code.wp _ _ _ _ (((w.alloc (.cells KX 36)).alloc (.cells CX 29)).alloc (.cells (rkA 0 c0X 0) 36)))
  generalize ((w.alloc (.cells KX 36)).alloc (.cells CX 29)).alloc (.cells (rkA 0 c0X 0) 36) = w0 at *
  go_upto_region 6 with (first | (refine wpList_load_row_want (by kernel_rfl) _ (.tmp 8) rfl (w.heap.size + 1) rfl _ CX _ _ (by have := H0.out.c; rw [HCX.out] at this; exact this) Try.underlying29 rfl hld2.out ?_) | (refine wpList_load_row_want (by kernel_rfl) _ (.tmp 8) rfl (w.heap.size + 1) rfl _ CX _ _ (by have := H1.out.c; rw [HCX.out] at this; exact this) Try.underlying29 rfl hld2.out ?_) | (go_at_call 13; (with_reducible refine (HSE.out _).mono ?_); rintro e w1 ⟨rfl, b1⟩; have H1 := Lib.hid (H0.out.below b1); clear b1) | (go_at_call 11; (with_reducible refine (HSZ.out _).mono ?_); rintro e w2 ⟨rfl, b2⟩; have H2 := Lib.hid (H1.out.below b2); clear b2))
  have hq := fun w => run_eq_chan w x0 x
  have HMI := Lib.hid H2.out.mid
  have HIY : Hid ((Try.prog.info? 29).map (·.size) = some (chA x0).toList.length) := Lib.hid info_chan
  have HCB := Lib.hid (show w2.heap[w.heap.size + 1]? = some (.cells CX 29 (0, 0)) by have := H2.out.c; rw [HCX.out] at this; exact this)
  rw [HCX.out] at hq
  obtain ⟨CY, hCY⟩ : ∃ CY, chA x0 = CY := ⟨_, rfl⟩
  rw [hCY] at hq HMI HIY
  clear hCY
  obtain ⟨c0, c31, f0, d1, d3, d4⟩ := H2.out.cells
  rw [hc] at hq
  clear hc
  go_upto_region 8 with (first | (have _hh := HMI.out; refine wpList_load_mid_want (by kernel_rfl) _ (.tmp 41) rfl w.heap.size 1 rfl CY.toList _ HMI.out Try.underlying29 rfl HIY.out ?_; clear HMI _hh) | (have _hh := HCB.out; refine wpList_load_row_want (by kernel_rfl) _ (.tmp 8) rfl (w.heap.size + 1) rfl _ CX _ _ HCB.out Try.underlying29 rfl hld2.out ?_; clear HCB _hh))
  have HDX := Lib.hid (show ∀ w', StR w w' t x0 n x → w'.heap[w.heap.size + 1]? = some (.cells CX 29 (0, 0)) from fun w' h' => by have := h'.c; rw [HCX.out] at this; exact this)
  go_upto_region 9 with (go_at_call 41; refine (HMA.out _ (HBB.out _ H2.out.bel)).mono ?_; rintro e w3 ⟨q, hq3, rfl, ht3, b3⟩; have HT3 := Lib.hid ht3; have H3 := Lib.hid (H2.out.below b3); have HQ3 := Lib.hid (Nat.le_trans H2.out.bel.size hq3); have HQL := Lib.hid (show ¬ q = w.heap.size + 1 + 1 from fun e => by have := (Array.getElem?_eq_some_iff.1 H2.out.r).1; omega); clear ht3 b3 hq3)
  clear c0 c31 f0 d1 d3 d4
  obtain ⟨c0, c31, f0, d1, d3, d4⟩ := H3.out.cells
  have HC9 := Lib.hid (HDX.out _ H3.out)
  have HR9 : Hid (w3.heap[w.heap.size + 1 + 1]? = some (.cells (rkA 0 c0X 0) 36 (0, 0))) := Lib.hid H3.out.r
  have HD9 := Lib.hid (H3.out.done now x (n + 1))
  have HE9 := Lib.hid (H3.out.doneB (rkA now x (n + 1)))
  have HT9 : Hid (TwAt (w3.setRow (w.heap.size + 1 + 1) (rkA now x (n + 1))) q x.plain x.turned m (dOf l) (dOf (flipL l))) := Lib.hid ((setRow_other _ _ _ _ HQL.out).trans HT3.out)
  have H1C := Lib.hid (rkA_one now x (n + 1))
  have HSQ : Hid ((rkA 0 c0X 0).size = (rkA now x (n + 1)).size) := Lib.hid rfl
  have HIX : Hid ((Try.prog.info? 36).map (·.size) = some (rkA now x (n + 1)).size) := HIM
  generalize hRX : rkA now x (n + 1) = RX at *
  have HRX := Lib.hid hRX
  clear hRX
  generalize rkA 0 c0X 0 = ZX at *
  go_wp2_with (first
    | (refine wpList_load_row rfl _ (.tmp 8) rfl (w.heap.size + 1) rfl _ _ _ _ HC9.out Try.underlying29 rfl hld2.out ?_)
    | (refine wpList_build_as rfl _ _ rfl _ _ (by kernel_rfl) HBN.out ?_)
    | (refine wpList_store_row rfl _ (.tmp 10) (.tmp 70) rfl (w.heap.size + 1 + 1) _ rfl rfl _ _ HR9.out HIX.out HSQ.out H1C.out ?_))
  exact bodyPost_ret (results_cell_tmp_row rfl _ _ (w.heap.size + 1 + 1) _ _ _ _ rfl HD9.out Try.underlying36 rfl HIX.out) rfl ⟨q, HQ3.out, by rw [HRX.out]; rfl, HT9.out, HE9.out⟩
set_option maxRecDepth 100000 in
set_option maxHeartbeats 8000000 in
theorem rstep_time (now : Int) (on : Bool) (x : ChV) (hB : Byt w w.heap.size A m c l) (hn : 0 ≤ now ∧ now ≤ 2147483647) (ho : on = true) (hs : sendsB x = true) (hz : (m : Int) = szX x) (ht : 0 ≤ t ∧ t ≤ now) (hc : chB x0 x = true) (hd : x.time ≤ now - t) (hnn : 0 ≤ n ∧ n ≤ 1000000) : Calls Try.prog 15 #[.agg (rkA t x0 n), .int .i64 now, .bool on, .agg (chA x), .slice A m c] w fun e w' => ∃ q, w.heap.size ≤ q ∧ e = .returned (.tuple #[.agg (rkA now x (n + 1)), .slice (some ⟨q, 0, none⟩) 2 2]) ∧ TwAt w' q x.plain x.turned m (dOf l) (dOf (flipL l)) ∧ Below w.heap.size w w' := by
  have H0 := Lib.hid (StR.start (w := w) (t := t) (x0 := x0) (n := n) (x := x))
  have HBB := Lib.hid (fun w' (hb : Below w.heap.size w w') => show Byt w' w'.heap.size A m c l from hB.step hb)
  have HML := Lib.hid (show l.length = m from hB.len)
  have hm63 : m ≤ 9223372036854775807 := by have := hB.cap; have := hB.max; simp only [maxLen] at this; omega
  have hn1 : ¬ now < 0 := by omega
  have hn2 : ¬ 2147483647 < now := by omega
  have hn3 : decide (now < 0) = false := decide_eq_false hn1
  have hn4 : decide (2147483647 < now) = false := decide_eq_false hn2
  have HSE := Lib.hid (fun w => rsends_any w x)
  have HSZ := Lib.hid (fun w => rxsize_any w x)
  have HIM : Hid ((Try.prog.info? 36).map (·.size) = some 32) := Lib.hid info_rk
  have hld : Hid ((Try.prog.info? 29).map (·.size) = some (chA x).size) := Lib.hid info_chan
  clear hB
  subst ho
  rw [hs] at HSE
  have hz2 : ((m : Int) == szX x) = true := by simpa using hz
  have hz3 : ((m : Int) != szX x) = false := by simpa using hz
  have hsd : idB x.plain = true ∧ idB x.turned = true ∧ 1 ≤ szX x ∧ szX x ≤ 8 := by
    have := of_decide_eq_true hs
    exact ⟨this.2.2.2.1, this.2.2.2.2, this.2.2.1.1, this.2.2.1.2⟩
  have hp1 := of_decide_eq_true hsd.1
  have hp2 := of_decide_eq_true hsd.2.1
  have hm8 : 1 ≤ m ∧ m ≤ 8 := by omega
  have HMA := Lib.hid (fun w' (hb : Byt w' w'.heap.size A m c l) => dmake_ok x.plain x.turned A m c l w' hb hm8 (by have := chk_good (l := l) hp1.1 hp1.2 (by have := HML.out; omega); rw [HML.out] at this; exact this) (by have := chk_good (l := flipL l) hp2.1 hp2.2 (by have := HML.out; rw [flipL_len]; omega); rw [flipL_len, HML.out] at this; exact this))
  have HBN : Hid (Try.prog.built 36 [(0, .int .i64 now), (1, .agg (chA x)), (2, .int .i64 (n + 1))] = some (rkA now x (n + 1))) := Lib.hid (by kernel_rfl)
  have hw1 : IntKind.i64.wrap (n + 1) = n + 1 := IntWalk.i64_in _ (by omega)
  have ht0 := ht.1
  have hw : IntKind.i64.wrap (now - t) = now - t := IntWalk.i64_in _ (by omega)
  have hd2 : ¬ now - t < x.time := by omega
  clear ht
  clear hs hsd hp1 hp2 hnn HML
  generalize szX x = z at *
  obtain ⟨KX, hKX⟩ : ∃ KX, rkA t x0 n = KX := ⟨_, rfl⟩
  obtain ⟨CX, hCX⟩ : ∃ CX, chA x = CX := ⟨_, rfl⟩
  rw [hKX, hCX] at H0 ⊢
  rw [hCX] at HSE HSZ
  have HCX : Hid (chA x = CX) := Lib.hid hCX
  have HKX : Hid (rkA t x0 n = KX) := Lib.hid hKX
  have hld2 : Hid ((Try.prog.info? 29).map (·.size) = some CX.size) := by rw [hCX] at hld; exact hld
  clear hKX hCX hld
  go_enter Try.func15, Try.ntmps15
  rw [HCX.out] at HBN
  go_upto_region 1 with fail
  change (Code.wp _ _ _ _ (((w.alloc (.cells KX 36)).alloc (.cells CX 29)).alloc (.cells (rkA 0 c0X 0) 36)))
  generalize ((w.alloc (.cells KX 36)).alloc (.cells CX 29)).alloc (.cells (rkA 0 c0X 0) 36) = w0 at *
  go_upto_region 6 with (first | (refine wpList_load_row_want (by kernel_rfl) _ (.tmp 8) rfl (w.heap.size + 1) rfl _ CX _ _ (by have := H0.out.c; rw [HCX.out] at this; exact this) Try.underlying29 rfl hld2.out ?_) | (refine wpList_load_row_want (by kernel_rfl) _ (.tmp 8) rfl (w.heap.size + 1) rfl _ CX _ _ (by have := H1.out.c; rw [HCX.out] at this; exact this) Try.underlying29 rfl hld2.out ?_) | (go_at_call 13; (with_reducible refine (HSE.out _).mono ?_); rintro e w1 ⟨rfl, b1⟩; have H1 := Lib.hid (H0.out.below b1); clear b1) | (go_at_call 11; (with_reducible refine (HSZ.out _).mono ?_); rintro e w2 ⟨rfl, b2⟩; have H2 := Lib.hid (H1.out.below b2); clear b2))
  have hq := fun w => run_eq_chan w x0 x
  have HMI := Lib.hid H2.out.mid
  have HIY : Hid ((Try.prog.info? 29).map (·.size) = some (chA x0).toList.length) := Lib.hid info_chan
  have HCB := Lib.hid (show w2.heap[w.heap.size + 1]? = some (.cells CX 29 (0, 0)) by have := H2.out.c; rw [HCX.out] at this; exact this)
  rw [HCX.out] at hq
  obtain ⟨CY, hCY⟩ : ∃ CY, chA x0 = CY := ⟨_, rfl⟩
  rw [hCY] at hq HMI HIY
  clear hCY
  obtain ⟨c0, c31, f0, d1, d3, d4⟩ := H2.out.cells
  rw [hc] at hq
  clear hc
  go_upto_region 8 with (first | (have _hh := HMI.out; refine wpList_load_mid_want (by kernel_rfl) _ (.tmp 41) rfl w.heap.size 1 rfl CY.toList _ HMI.out Try.underlying29 rfl HIY.out ?_; clear HMI _hh) | (have _hh := HCB.out; refine wpList_load_row_want (by kernel_rfl) _ (.tmp 8) rfl (w.heap.size + 1) rfl _ CX _ _ HCB.out Try.underlying29 rfl hld2.out ?_; clear HCB _hh))
  have HDX := Lib.hid (show ∀ w', StR w w' t x0 n x → w'.heap[w.heap.size + 1]? = some (.cells CX 29 (0, 0)) from fun w' h' => by have := h'.c; rw [HCX.out] at this; exact this)
  go_upto_region 9 with (go_at_call 41; refine (HMA.out _ (HBB.out _ H2.out.bel)).mono ?_; rintro e w3 ⟨q, hq3, rfl, ht3, b3⟩; have HT3 := Lib.hid ht3; have H3 := Lib.hid (H2.out.below b3); have HQ3 := Lib.hid (Nat.le_trans H2.out.bel.size hq3); have HQL := Lib.hid (show ¬ q = w.heap.size + 1 + 1 from fun e => by have := (Array.getElem?_eq_some_iff.1 H2.out.r).1; omega); clear ht3 b3 hq3)
  clear c0 c31 f0 d1 d3 d4
  obtain ⟨c0, c31, f0, d1, d3, d4⟩ := H3.out.cells
  have HC9 := Lib.hid (HDX.out _ H3.out)
  have HR9 : Hid (w3.heap[w.heap.size + 1 + 1]? = some (.cells (rkA 0 c0X 0) 36 (0, 0))) := Lib.hid H3.out.r
  have HD9 := Lib.hid (H3.out.done now x (n + 1))
  have HE9 := Lib.hid (H3.out.doneB (rkA now x (n + 1)))
  have HT9 : Hid (TwAt (w3.setRow (w.heap.size + 1 + 1) (rkA now x (n + 1))) q x.plain x.turned m (dOf l) (dOf (flipL l))) := Lib.hid ((setRow_other _ _ _ _ HQL.out).trans HT3.out)
  have H1C := Lib.hid (rkA_one now x (n + 1))
  have HSQ : Hid ((rkA 0 c0X 0).size = (rkA now x (n + 1)).size) := Lib.hid rfl
  have HIX : Hid ((Try.prog.info? 36).map (·.size) = some (rkA now x (n + 1)).size) := HIM
  generalize hRX : rkA now x (n + 1) = RX at *
  have HRX := Lib.hid hRX
  clear hRX
  generalize rkA 0 c0X 0 = ZX at *
  go_wp2_with (first
    | (refine wpList_load_row rfl _ (.tmp 8) rfl (w.heap.size + 1) rfl _ _ _ _ HC9.out Try.underlying29 rfl hld2.out ?_)
    | (refine wpList_build_as rfl _ _ rfl _ _ (by kernel_rfl) HBN.out ?_)
    | (refine wpList_store_row rfl _ (.tmp 10) (.tmp 70) rfl (w.heap.size + 1 + 1) _ rfl rfl _ _ HR9.out HIX.out HSQ.out H1C.out ?_))
  exact bodyPost_ret (results_cell_tmp_row rfl _ _ (w.heap.size + 1 + 1) _ _ _ _ rfl HD9.out Try.underlying36 rfl HIX.out) rfl ⟨q, HQ3.out, by rw [HRX.out]; rfl, HT9.out, HE9.out⟩
end
end Go.Proofs.Ytllaajkpobpeiaa
