/- prod: a step, as the document says. -/
import Derived.Test.YtllaajkpobpeiaaOg
namespace Go.Proofs.Ytllaajkpobpeiaa
open Go.RowKit
set_option linter.unusedSimpArgs false
set_option linter.unusedVariables false

def rkA (t : Int) (x : ChV) (n : Int) : Array Value := #[.int .i64 t, .int .i64 x.dir, .int .i64 x.time, .int .i64 x.gap, .int .i64 x.plain, .int .i64 x.turned, .int .i64 x.n, .int .i64 (x.s 0).i, .int .i64 (x.s 0).j, .int .i64 (x.s 0).n, .int .i64 (x.s 1).i, .int .i64 (x.s 1).j, .int .i64 (x.s 1).n, .int .i64 (x.s 2).i, .int .i64 (x.s 2).j, .int .i64 (x.s 2).n, .int .i64 (x.s 3).i, .int .i64 (x.s 3).j, .int .i64 (x.s 3).n, .int .i64 (x.s 4).i, .int .i64 (x.s 4).j, .int .i64 (x.s 4).n, .int .i64 (x.s 5).i, .int .i64 (x.s 5).j, .int .i64 (x.s 5).n, .int .i64 (x.s 6).i, .int .i64 (x.s 6).j, .int .i64 (x.s 6).n, .int .i64 (x.s 7).i, .int .i64 (x.s 7).j, .int .i64 (x.s 7).n, .int .i64 n]
theorem rkA_size (t : Int) (x : ChV) (n : Int) : (rkA t x n).size = 32 := rfl
theorem rkA_one (t : Int) (x : ChV) (n : Int) : (rkA t x n).all (·.oneCell') = true := by simp [rkA, Value.oneCell']
theorem rkA_noB (t : Int) (x : ChV) (n : Int) : (rkA t x n).all noB = true := by simp [rkA, noB]
theorem info_rk : (Try.prog.info? 36).map (·.size) = some 32 := by kernel_rfl
theorem rkA_mid (t : Int) (x : ChV) (n : Int) : ∀ (j : Nat) (v : Value), (chA x).toList[j]? = some v → (rkA t x n)[1 + j]? = some v := by
  intro j v hv
  have : j < 30 := (List.getElem?_eq_some_iff.1 hv).1
  rcases j with _|_|_|_|_|_|_|_|_|_|_|_|_|_|_|_|_|_|_|_|_|_|_|_|_|_|_|_|_|_|j
  all_goals first | exact hv | omega
/-- What stands beside while the document's Step runs. -/
structure StR (w w' : World) (t : Int) (x0 : ChV) (n : Int) (x : ChV) : Prop where
  bel : Below w.heap.size w w'
  k : w'.heap[w.heap.size]? = some (.cells (rkA t x0 n) 36 (0, 0))
  c : w'.heap[w.heap.size + 1]? = some (.cells (chA x) 29 (0, 0))
  r : w'.heap[w.heap.size + 1 + 1]? = some (.cells (rkA 0 c0X 0) 36 (0, 0))
section
variable {w w' w'' : World} {t n : Int} {x0 x : ChV}
theorem StR.below (h : StR w w' t x0 n x) (hb : Below w'.heap.size w' w'') : StR w w'' t x0 n x :=
  ⟨kF hb h.bel, (hb.block _ (Array.getElem?_eq_some_iff.1 h.k).1).trans h.k, (hb.block _ (Array.getElem?_eq_some_iff.1 h.c).1).trans h.c, (hb.block _ (Array.getElem?_eq_some_iff.1 h.r).1).trans h.r⟩
theorem StR.start : StR w (((w.alloc (.cells (rkA t x0 n) 36)).alloc (.cells (chA x) 29)).alloc (.cells (rkA 0 c0X 0) 36)) t x0 n x := by
  have h1 : (w.alloc (.cells (rkA t x0 n) 36)).heap.size = w.heap.size + 1 := by simp
  have h2 : ((w.alloc (.cells (rkA t x0 n) 36)).alloc (.cells (chA x) 29)).heap.size = w.heap.size + 1 + 1 := by simp
  refine ⟨((((Below.refl _ _).alloc (Nat.le_refl _) _).alloc (by omega) _).alloc (by omega) _), ?_, ?_, ?_⟩
  · rw [heap_alloc_old _ _ (by omega), heap_alloc_old _ _ (by omega), heap_alloc_new]
  · rw [heap_alloc_old _ _ (by omega), ← h1, heap_alloc_new]
  · rw [← h2, heap_alloc_new]
theorem StR.cells (h : StR w w' t x0 n x) : w'.cell? ⟨w.heap.size, 0, none⟩ = some (.int .i64 t) ∧ w'.cell? ⟨w.heap.size, 31, none⟩ = some (.int .i64 n) ∧ w'.frozen? ⟨w.heap.size, 0, none⟩ = false ∧ w'.cell? ⟨w.heap.size + 1, 1, none⟩ = some (.int .i64 x.time) ∧ w'.cell? ⟨w.heap.size + 1, 3, none⟩ = some (.int .i64 x.plain) ∧ w'.cell? ⟨w.heap.size + 1, 4, none⟩ = some (.int .i64 x.turned) :=
  ⟨by rw [cell_of_row _ _ _ _ _ _ h.k]; rfl, by rw [cell_of_row _ _ _ _ _ _ h.k]; rfl, frozen_of_row _ _ _ _ _ h.k, by rw [cell_of_row _ _ _ _ _ _ h.c]; rfl, by rw [cell_of_row _ _ _ _ _ _ h.c]; rfl, by rw [cell_of_row _ _ _ _ _ _ h.c]; rfl⟩
theorem StR.mid (h : StR w w' t x0 n x) : w'.rangeAt w.heap.size 1 (chA x0).toList := fun j v hv => by
  rw [cell_of_row _ _ _ _ _ _ h.k]; exact rkA_mid _ _ _ j v hv
theorem StR.low (h : StR w w' t x0 n x) : StR w (w'.setCell ⟨w.heap.size, 0, none⟩ (.int .i64 (-1))) (-1) x0 n x :=
  ⟨h.bel.setCell (p := ⟨w.heap.size, 0, none⟩) (Nat.le_refl _) _, heap_setCell_same w' w.heap.size 0 _ _ _ h.k, (Below.heap_setCell w' ⟨w.heap.size, 0, none⟩ _ _ (by show ¬ w.heap.size + 1 = w.heap.size; omega)).trans h.c, (Below.heap_setCell w' ⟨w.heap.size, 0, none⟩ _ _ (by show ¬ w.heap.size + 1 + 1 = w.heap.size; omega)).trans h.r⟩
theorem StR.done (h : StR w w' t x0 n x) (t' : Int) (x' : ChV) (n' : Int) : (w'.setRow (w.heap.size + 1 + 1) (rkA t' x' n')).heap[w.heap.size + 1 + 1]? = some (.cells (rkA t' x' n') 36 (0, 0)) := setRow_heap _ _ _ _ _ (0, 0) h.r
theorem StR.doneB (h : StR w w' t x0 n x) (cs : Array Value) : Below w.heap.size w (w'.setRow (w.heap.size + 1 + 1) cs) := below_setRow h.bel (by omega) cs
end
section
variable {w : World} {x0 : ChV} {t n : Int} {A : Option Addr} {m c : Nat} {l : List Int}
set_option maxRecDepth 100000 in
set_option maxHeartbeats 8000000 in
theorem rstep_off (now : Int) (on : Bool) (x : ChV) (hB : Byt w w.heap.size A m c l) (hn : 0 ≤ now ∧ now ≤ 2147483647) (ho : on = false) : Calls Try.prog 15 #[.agg (rkA t x0 n), .int .i64 now, .bool on, .agg (chA x), .slice A m c] w fun e w' => e = .returned (.tuple #[.agg (rkA (-1) x0 n), .slice none 0 0]) ∧ Below w.heap.size w w' := by
  have H0 := Lib.hid (StR.start (w := w) (t := t) (x0 := x0) (n := n) (x := x))
  have HBB := Lib.hid (fun w' (hb : Below w.heap.size w w') => show Byt w' w'.heap.size A m c l from hB.step hb)
  have HML := Lib.hid (show l.length = m from hB.len)
  have hm63 : m ≤ 9223372036854775807 := by have := hB.cap; have := hB.max; simp only [maxLen] at this; omega
  have hn1 : ¬ now < 0 := by omega
  have hn2 : ¬ 2147483647 < now := by omega
  have hn3 : decide (now < 0) = false := decide_eq_false hn1
  have hn4 : decide (2147483647 < now) = false := decide_eq_false hn2
  have HSE := Lib.hid (fun w => rsends_any w x)
  have HSZ := Lib.hid (fun w => rxsize_any w x)
  have HIM : Hid ((Try.prog.info? 36).map (·.size) = some 32) := Lib.hid info_rk
  have hld : Hid ((Try.prog.info? 29).map (·.size) = some (chA x).size) := Lib.hid info_chan
  clear hB
  subst ho
  obtain ⟨KX, hKX⟩ : ∃ KX, rkA t x0 n = KX := ⟨_, rfl⟩
  obtain ⟨CX, hCX⟩ : ∃ CX, chA x = CX := ⟨_, rfl⟩
  rw [hKX, hCX] at H0 ⊢
  rw [hCX] at HSE HSZ
  have HCX : Hid (chA x = CX) := Lib.hid hCX
  have HKX : Hid (rkA t x0 n = KX) := Lib.hid hKX
  have hld2 : Hid ((Try.prog.info? 29).map (·.size) = some CX.size) := by rw [hCX] at hld; exact hld
  clear hKX hCX hld
  go_enter Try.func15, Try.ntmps15
  go_upto_region 1 with fail
  change (Code.wp _ _ _ _ (((w.alloc (.cells KX 36)).alloc (.cells CX 29)).alloc (.cells (rkA 0 c0X 0) 36)))
  generalize ((w.alloc (.cells KX 36)).alloc (.cells CX 29)).alloc (.cells (rkA 0 c0X 0) 36) = w0 at *
  go_upto_region 4 with fail
  obtain ⟨c0, c31, f0, d1, d3, d4⟩ := H0.out.cells
  have H9 := Lib.hid H0.out.low
  go_upto_region 5 with fail
  clear c0 c31 f0 d1 d3 d4
  generalize w0.setCell ⟨w.heap.size, 0, none⟩ (.int .i64 (-1)) = w9 at *
  have HK9 : Hid (w9.heap[w.heap.size]? = some (.cells (rkA (-1) x0 n) 36 (0, 0))) := Lib.hid H9.out.k
  have HR9 : Hid (w9.heap[w.heap.size + 1 + 1]? = some (.cells (rkA 0 c0X 0) 36 (0, 0))) := Lib.hid H9.out.r
  have HD9 := Lib.hid (H9.out.done (-1) x0 n)
  have HE9 := Lib.hid (H9.out.doneB (rkA (-1) x0 n))
  have H1C := Lib.hid (rkA_one (-1) x0 n)
  have HSQ : Hid ((rkA 0 c0X 0).size = (rkA (-1) x0 n).size) := Lib.hid rfl
  have HIX : Hid ((Try.prog.info? 36).map (·.size) = some (rkA (-1) x0 n).size) := HIM
  generalize hRX : rkA (-1) x0 n = RX at *
  have HRX := Lib.hid hRX
  clear hRX
  generalize rkA 0 c0X 0 = ZX at *
  go_wp2_with (first
    | (refine wpList_load_row rfl _ (.tmp 5) rfl w.heap.size rfl _ _ _ _ HK9.out Try.underlying36 rfl HIX.out ?_)
    | (refine wpList_store_row rfl _ (.tmp 10) (.tmp 36) rfl (w.heap.size + 1 + 1) _ rfl rfl _ _ HR9.out HIX.out HSQ.out H1C.out ?_))
  exact bodyPost_ret (results_cell_tmp_row rfl _ _ (w.heap.size + 1 + 1) _ _ _ _ rfl HD9.out Try.underlying36 rfl HIX.out) rfl ⟨by rw [HRX.out]; rfl, HE9.out⟩
set_option maxRecDepth 100000 in
set_option maxHeartbeats 8000000 in
theorem rstep_nosend (now : Int) (on : Bool) (x : ChV) (hB : Byt w w.heap.size A m c l) (hn : 0 ≤ now ∧ now ≤ 2147483647) (ho : on = true) (hs : sendsB x = false) : Calls Try.prog 15 #[.agg (rkA t x0 n), .int .i64 now, .bool on, .agg (chA x), .slice A m c] w fun e w' => e = .returned (.tuple #[.agg (rkA (-1) x0 n), .slice none 0 0]) ∧ Below w.heap.size w w' := by
  have H0 := Lib.hid (StR.start (w := w) (t := t) (x0 := x0) (n := n) (x := x))
  have HBB := Lib.hid (fun w' (hb : Below w.heap.size w w') => show Byt w' w'.heap.size A m c l from hB.step hb)
  have HML := Lib.hid (show l.length = m from hB.len)
  have hm63 : m ≤ 9223372036854775807 := by have := hB.cap; have := hB.max; simp only [maxLen] at this; omega
  have hn1 : ¬ now < 0 := by omega
  have hn2 : ¬ 2147483647 < now := by omega
  have hn3 : decide (now < 0) = false := decide_eq_false hn1
  have hn4 : decide (2147483647 < now) = false := decide_eq_false hn2
  have HSE := Lib.hid (fun w => rsends_any w x)
  have HSZ := Lib.hid (fun w => rxsize_any w x)
  have HIM : Hid ((Try.prog.info? 36).map (·.size) = some 32) := Lib.hid info_rk
  have hld : Hid ((Try.prog.info? 29).map (·.size) = some (chA x).size) := Lib.hid info_chan
  clear hB
  subst ho
  rw [hs] at HSE
  clear hs
  obtain ⟨KX, hKX⟩ : ∃ KX, rkA t x0 n = KX := ⟨_, rfl⟩
  obtain ⟨CX, hCX⟩ : ∃ CX, chA x = CX := ⟨_, rfl⟩
  rw [hKX, hCX] at H0 ⊢
  rw [hCX] at HSE HSZ
  have HCX : Hid (chA x = CX) := Lib.hid hCX
  have HKX : Hid (rkA t x0 n = KX) := Lib.hid hKX
  have hld2 : Hid ((Try.prog.info? 29).map (·.size) = some CX.size) := by rw [hCX] at hld; exact hld
  clear hKX hCX hld
  go_enter Try.func15, Try.ntmps15
  go_upto_region 1 with fail
  change (Code.wp _ _ _ _ (((w.alloc (.cells KX 36)).alloc (.cells CX 29)).alloc (.cells (rkA 0 c0X 0) 36)))
  generalize ((w.alloc (.cells KX 36)).alloc (.cells CX 29)).alloc (.cells (rkA 0 c0X 0) 36) = w0 at *
  go_upto_region 4 with (first | (refine wpList_load_row_want (by kernel_rfl) _ (.tmp 8) rfl (w.heap.size + 1) rfl _ CX _ _ (by have := H0.out.c; rw [HCX.out] at this; exact this) Try.underlying29 rfl hld2.out ?_) | (go_at_call 13; (with_reducible refine (HSE.out _).mono ?_); rintro e w1 ⟨rfl, b1⟩; have H1 := Lib.hid (H0.out.below b1); clear b1))
  obtain ⟨c0, c31, f0, d1, d3, d4⟩ := H1.out.cells
  have H9 := Lib.hid H1.out.low
  go_upto_region 5 with fail
  clear c0 c31 f0 d1 d3 d4
  generalize w1.setCell ⟨w.heap.size, 0, none⟩ (.int .i64 (-1)) = w9 at *
  have HK9 : Hid (w9.heap[w.heap.size]? = some (.cells (rkA (-1) x0 n) 36 (0, 0))) := Lib.hid H9.out.k
  have HR9 : Hid (w9.heap[w.heap.size + 1 + 1]? = some (.cells (rkA 0 c0X 0) 36 (0, 0))) := Lib.hid H9.out.r
  have HD9 := Lib.hid (H9.out.done (-1) x0 n)
  have HE9 := Lib.hid (H9.out.doneB (rkA (-1) x0 n))
  have H1C := Lib.hid (rkA_one (-1) x0 n)
  have HSQ : Hid ((rkA 0 c0X 0).size = (rkA (-1) x0 n).size) := Lib.hid rfl
  have HIX : Hid ((Try.prog.info? 36).map (·.size) = some (rkA (-1) x0 n).size) := HIM
  generalize hRX : rkA (-1) x0 n = RX at *
  have HRX := Lib.hid hRX
  clear hRX
  generalize rkA 0 c0X 0 = ZX at *
  go_wp2_with (first
    | (refine wpList_load_row rfl _ (.tmp 5) rfl w.heap.size rfl _ _ _ _ HK9.out Try.underlying36 rfl HIX.out ?_)
    | (refine wpList_store_row rfl _ (.tmp 10) (.tmp 36) rfl (w.heap.size + 1 + 1) _ rfl rfl _ _ HR9.out HIX.out HSQ.out H1C.out ?_))
  exact bodyPost_ret (results_cell_tmp_row rfl _ _ (w.heap.size + 1 + 1) _ _ _ _ rfl HD9.out Try.underlying36 rfl HIX.out) rfl ⟨by rw [HRX.out]; rfl, HE9.out⟩
set_option maxRecDepth 100000 in
set_option maxHeartbeats 8000000 in
theorem rstep_size (now : Int) (on : Bool) (x : ChV) (hB : Byt w w.heap.size A m c l) (hn : 0 ≤ now ∧ now ≤ 2147483647) (ho : on = true) (hs : sendsB x = true) (hz : ¬ (m : Int) = szX x) : Calls Try.prog 15 #[.agg (rkA t x0 n), .int .i64 now, .bool on, .agg (chA x), .slice A m c] w fun e w' => e = .returned (.tuple #[.agg (rkA (-1) x0 n), .slice none 0 0]) ∧ Below w.heap.size w w' := by
  have H0 := Lib.hid (StR.start (w := w) (t := t) (x0 := x0) (n := n) (x := x))
  have HBB := Lib.hid (fun w' (hb : Below w.heap.size w w') => show Byt w' w'.heap.size A m c l from hB.step hb)
  have HML := Lib.hid (show l.length = m from hB.len)
  have hm63 : m ≤ 9223372036854775807 := by have := hB.cap; have := hB.max; simp only [maxLen] at this; omega
  have hn1 : ¬ now < 0 := by omega
  have hn2 : ¬ 2147483647 < now := by omega
  have hn3 : decide (now < 0) = false := decide_eq_false hn1
  have hn4 : decide (2147483647 < now) = false := decide_eq_false hn2
  have HSE := Lib.hid (fun w => rsends_any w x)
  have HSZ := Lib.hid (fun w => rxsize_any w x)
  have HIM : Hid ((Try.prog.info? 36).map (·.size) = some 32) := Lib.hid info_rk
  have hld : Hid ((Try.prog.info? 29).map (·.size) = some (chA x).size) := Lib.hid info_chan
  clear hB
  subst ho
  rw [hs] at HSE
  clear hs
  have hz2 : ((m : Int) == szX x) = false := by simpa using hz
  have hz3 : ((m : Int) != szX x) = true := by simpa using hz
  generalize szX x = z at *
  obtain ⟨KX, hKX⟩ : ∃ KX, rkA t x0 n = KX := ⟨_, rfl⟩
  obtain ⟨CX, hCX⟩ : ∃ CX, chA x = CX := ⟨_, rfl⟩
  rw [hKX, hCX] at H0 ⊢
  rw [hCX] at HSE HSZ
  have HCX : Hid (chA x = CX) := Lib.hid hCX
  have HKX : Hid (rkA t x0 n = KX) := Lib.hid hKX
  have hld2 : Hid ((Try.prog.info? 29).map (·.size) = some CX.size) := by rw [hCX] at hld; exact hld
  clear hKX hCX hld
  go_enter Try.func15, Try.ntmps15
  go_upto_region 1 with fail
  change (Code.wp _ _ _ _ (((w.alloc (.cells KX 36)).alloc (.cells CX 29)).alloc (.cells (rkA 0 c0X 0) 36)))
  generalize ((w.alloc (.cells KX 36)).alloc (.cells CX 29)).alloc (.cells (rkA 0 c0X 0) 36) = w0 at *
  go_upto_region 4 with (first | (refine wpList_load_row_want (by kernel_rfl) _ (.tmp 8) rfl (w.heap.size + 1) rfl _ CX _ _ (by have := H0.out.c; rw [HCX.out] at this; exact this) Try.underlying29 rfl hld2.out ?_) | (refine wpList_load_row_want (by kernel_rfl) _ (.tmp 8) rfl (w.heap.size + 1) rfl _ CX _ _ (by have := H1.out.c; rw [HCX.out] at this; exact this) Try.underlying29 rfl hld2.out ?_) | (go_at_call 13; (with_reducible refine (HSE.out _).mono ?_); rintro e w1 ⟨rfl, b1⟩; have H1 := Lib.hid (H0.out.below b1); clear b1) | (go_at_call 11; (with_reducible refine (HSZ.out _).mono ?_); rintro e w2 ⟨rfl, b2⟩; have H2 := Lib.hid (H1.out.below b2); clear b2))
  obtain ⟨c0, c31, f0, d1, d3, d4⟩ := H2.out.cells
  have H9 := Lib.hid H2.out.low
  go_upto_region 5 with fail
  clear c0 c31 f0 d1 d3 d4
  generalize w2.setCell ⟨w.heap.size, 0, none⟩ (.int .i64 (-1)) = w9 at *
  have HK9 : Hid (w9.heap[w.heap.size]? = some (.cells (rkA (-1) x0 n) 36 (0, 0))) := Lib.hid H9.out.k
  have HR9 : Hid (w9.heap[w.heap.size + 1 + 1]? = some (.cells (rkA 0 c0X 0) 36 (0, 0))) := Lib.hid H9.out.r
  have HD9 := Lib.hid (H9.out.done (-1) x0 n)
  have HE9 := Lib.hid (H9.out.doneB (rkA (-1) x0 n))
  have H1C := Lib.hid (rkA_one (-1) x0 n)
  have HSQ : Hid ((rkA 0 c0X 0).size = (rkA (-1) x0 n).size) := Lib.hid rfl
  have HIX : Hid ((Try.prog.info? 36).map (·.size) = some (rkA (-1) x0 n).size) := HIM
  generalize hRX : rkA (-1) x0 n = RX at *
  have HRX := Lib.hid hRX
  clear hRX
  generalize rkA 0 c0X 0 = ZX at *
  go_wp2_with (first
    | (refine wpList_load_row rfl _ (.tmp 5) rfl w.heap.size rfl _ _ _ _ HK9.out Try.underlying36 rfl HIX.out ?_)
    | (refine wpList_store_row rfl _ (.tmp 10) (.tmp 36) rfl (w.heap.size + 1 + 1) _ rfl rfl _ _ HR9.out HIX.out HSQ.out H1C.out ?_))
  exact bodyPost_ret (results_cell_tmp_row rfl _ _ (w.heap.size + 1 + 1) _ _ _ _ rfl HD9.out Try.underlying36 rfl HIX.out) rfl ⟨by rw [HRX.out]; rfl, HE9.out⟩
end
end Go.Proofs.Ytllaajkpobpeiaa
