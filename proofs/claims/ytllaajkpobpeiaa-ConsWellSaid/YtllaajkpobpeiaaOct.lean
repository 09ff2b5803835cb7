/- Tables of channels: which ones take. -/
import Derived.Test.YtllaajkpobpeiaaOc
namespace Go.Proofs.Ytllaajkpobpeiaa
open Go.RowKit
set_option linter.unusedSimpArgs false
set_option linter.unusedVariables false
set_option maxRecDepth 100000 in
set_option maxHeartbeats 8000000 in
theorem ctakes_any (w : World) (x : ChV) : Calls Try.prog 26 #[.agg (chA x)] w fun e w' => e = .returned (.bool (takesB x)) ∧ Below w.heap.size w w' := by
  have hb0 : Below w.heap.size w (w.alloc (.cells (chA x) 29)) := (Below.refl _ _).alloc (Nat.le_refl _) _
  have hx0 : ChAt (w.alloc (.cells (chA x) 29)) w.heap.size x := heap_alloc_new w _
  have HB0 := Lib.hid hb0
  have HX0 := Lib.hid hx0
  obtain ⟨a0, a1, a2, a3, a4, a5⟩ := hx0.cells
  have hsz := chA_size x
  clear hb0 hx0
  have HS := Lib.hid (fun w => xsize_any w x)
  have hz := szX_rng x
  have HIC := Lib.hid info_chan
  by_cases c0 : x.dir = 2
  · by_cases c1 : limB x.time = true
    · by_cases c2 : limB x.gap = true
      · by_cases c3 : 1 ≤ szX x
        · by_cases c4 : szX x ≤ 8
          · by_cases c5 : idB x.plain = true
            · by_cases c6 : idB x.turned = true
              · by_cases c7 : x.plain = x.turned
                · have HE : Hid (takesB x = false) := Lib.hid (decide_eq_false (by clear hsz a0 a1 a2 a3 a4 a5; simp only [idB, limB, decide_eq_true_eq] at *; omega))
                  have d1 : (x.dir == 2) = true := by simpa using c0
                  have HCT := Lib.hid (fun w => clim_any x.time w)
                  rw [c1] at HCT
                  clear c1
                  have HCG := Lib.hid (fun w => clim_any x.gap w)
                  rw [c2] at HCG
                  clear c2
                  have HCP := Lib.hid (fun w => cid_any x.plain w)
                  rw [c5] at HCP
                  clear c5
                  have HCQ := Lib.hid (fun w => cid_any x.turned w)
                  rw [c6] at HCQ
                  clear c6
                  have d3 : (x.plain != x.turned) = false := by simpa using c7
                  have d2 : (x.plain == x.turned) = true := by simpa using c7
                  obtain ⟨CX, hCX⟩ : ∃ CX, chA x = CX := ⟨_, rfl⟩
                  clear HX0
                  rw [hCX] at HB0 HS a0 a1 a2 a3 a4 a5 hsz ⊢
                  have HK0 : Hid ((w.alloc (.cells CX 29)).heap[w.heap.size]? = some (.cells CX 29 (0, 0))) := Lib.hid (heap_alloc_new w _)
                  have HA0 : Hid ((w.alloc (.cells CX 29)).cell? ⟨w.heap.size, 0, none⟩ = some (.int .i64 x.dir) ∧ (w.alloc (.cells CX 29)).cell? ⟨w.heap.size, 1, none⟩ = some (.int .i64 x.time) ∧ (w.alloc (.cells CX 29)).cell? ⟨w.heap.size, 2, none⟩ = some (.int .i64 x.gap) ∧ (w.alloc (.cells CX 29)).cell? ⟨w.heap.size, 3, none⟩ = some (.int .i64 x.plain) ∧ (w.alloc (.cells CX 29)).cell? ⟨w.heap.size, 4, none⟩ = some (.int .i64 x.turned)) := Lib.hid ⟨a0, a1, a2, a3, a4⟩
                  have HCS : Hid ((Try.prog.info? 29).map (·.size) = some CX.size) := Lib.hid (by rw [hsz]; exact HIC.out)
                  clear hCX hsz a5
                  generalize szX x = z at *
                  go_enter Try.func26, Try.ntmps26
                  go_wp2_with (first | (refine wpList_load_row rfl _ (.tmp 1) rfl w.heap.size rfl _ _ _ _ HK0.out Try.underlying29 rfl HCS.out ?_) | (go_at_call 10; (with_reducible refine (HS.out _).mono ?_); rintro e w2 ⟨rfl, b2⟩; have HB2 := Lib.hid (kF b2 HB0.out); have HK2 := Lib.hid ((b2.block _ (Array.getElem?_eq_some_iff.1 HK0.out).1).trans HK0.out); clear b2; obtain ⟨a0, a1, a2, a3, a4⟩ := keepA HK0.out HK2.out HA0.out) | (go_at_call 50; (with_reducible refine (HCT.out _).mono ?_); rintro e wz ⟨rfl, rfl⟩) | (go_at_call 50; (with_reducible refine (HCG.out _).mono ?_); rintro e wz ⟨rfl, rfl⟩) | (go_at_call 51; (with_reducible refine (HCP.out _).mono ?_); rintro e wz ⟨rfl, rfl⟩) | (go_at_call 51; (with_reducible refine (HCQ.out _).mono ?_); rintro e wz ⟨rfl, rfl⟩))
                  go_ret
                  exact ⟨by rw [HE.out]; rfl, HB2.out⟩
                · have HE : Hid (takesB x = true) := Lib.hid (decide_eq_true (by simp only [idB, limB, decide_eq_true_eq] at *; omega))
                  have d1 : (x.dir == 2) = true := by simpa using c0
                  have HCT := Lib.hid (fun w => clim_any x.time w)
                  rw [c1] at HCT
                  clear c1
                  have HCG := Lib.hid (fun w => clim_any x.gap w)
                  rw [c2] at HCG
                  clear c2
                  have HCP := Lib.hid (fun w => cid_any x.plain w)
                  rw [c5] at HCP
                  clear c5
                  have HCQ := Lib.hid (fun w => cid_any x.turned w)
                  rw [c6] at HCQ
                  clear c6
                  have d3 : (x.plain != x.turned) = true := by simpa using c7
                  have d2 : (x.plain == x.turned) = false := by simpa using c7
                  obtain ⟨CX, hCX⟩ : ∃ CX, chA x = CX := ⟨_, rfl⟩
                  clear HX0
                  rw [hCX] at HB0 HS a0 a1 a2 a3 a4 a5 hsz ⊢
                  have HK0 : Hid ((w.alloc (.cells CX 29)).heap[w.heap.size]? = some (.cells CX 29 (0, 0))) := Lib.hid (heap_alloc_new w _)
                  have HA0 : Hid ((w.alloc (.cells CX 29)).cell? ⟨w.heap.size, 0, none⟩ = some (.int .i64 x.dir) ∧ (w.alloc (.cells CX 29)).cell? ⟨w.heap.size, 1, none⟩ = some (.int .i64 x.time) ∧ (w.alloc (.cells CX 29)).cell? ⟨w.heap.size, 2, none⟩ = some (.int .i64 x.gap) ∧ (w.alloc (.cells CX 29)).cell? ⟨w.heap.size, 3, none⟩ = some (.int .i64 x.plain) ∧ (w.alloc (.cells CX 29)).cell? ⟨w.heap.size, 4, none⟩ = some (.int .i64 x.turned)) := Lib.hid ⟨a0, a1, a2, a3, a4⟩
                  have HCS : Hid ((Try.prog.info? 29).map (·.size) = some CX.size) := Lib.hid (by rw [hsz]; exact HIC.out)
                  clear hCX hsz a5
                  generalize szX x = z at *
                  go_enter Try.func26, Try.ntmps26
                  go_wp2_with (first | (refine wpList_load_row rfl _ (.tmp 1) rfl w.heap.size rfl _ _ _ _ HK0.out Try.underlying29 rfl HCS.out ?_) | (go_at_call 10; (with_reducible refine (HS.out _).mono ?_); rintro e w2 ⟨rfl, b2⟩; have HB2 := Lib.hid (kF b2 HB0.out); have HK2 := Lib.hid ((b2.block _ (Array.getElem?_eq_some_iff.1 HK0.out).1).trans HK0.out); clear b2; obtain ⟨a0, a1, a2, a3, a4⟩ := keepA HK0.out HK2.out HA0.out) | (go_at_call 50; (with_reducible refine (HCT.out _).mono ?_); rintro e wz ⟨rfl, rfl⟩) | (go_at_call 50; (with_reducible refine (HCG.out _).mono ?_); rintro e wz ⟨rfl, rfl⟩) | (go_at_call 51; (with_reducible refine (HCP.out _).mono ?_); rintro e wz ⟨rfl, rfl⟩) | (go_at_call 51; (with_reducible refine (HCQ.out _).mono ?_); rintro e wz ⟨rfl, rfl⟩))
                  go_ret
                  exact ⟨by rw [HE.out]; rfl, HB2.out⟩
              · have HE : Hid (takesB x = false) := Lib.hid (decide_eq_false (by clear hsz a0 a1 a2 a3 a4 a5; simp only [idB, limB, decide_eq_true_eq] at *; omega))
                have d1 : (x.dir == 2) = true := by simpa using c0
                have HCT := Lib.hid (fun w => clim_any x.time w)
                rw [c1] at HCT
                clear c1
                have HCG := Lib.hid (fun w => clim_any x.gap w)
                rw [c2] at HCG
                clear c2
                have HCP := Lib.hid (fun w => cid_any x.plain w)
                rw [c5] at HCP
                clear c5
                have HCQ := Lib.hid (fun w => cid_any x.turned w)
                rw [(Bool.not_eq_true _).mp c6] at HCQ
                clear c6
                obtain ⟨CX, hCX⟩ : ∃ CX, chA x = CX := ⟨_, rfl⟩
                clear HX0
                rw [hCX] at HB0 HS a0 a1 a2 a3 a4 a5 hsz ⊢
                have HK0 : Hid ((w.alloc (.cells CX 29)).heap[w.heap.size]? = some (.cells CX 29 (0, 0))) := Lib.hid (heap_alloc_new w _)
                have HA0 : Hid ((w.alloc (.cells CX 29)).cell? ⟨w.heap.size, 0, none⟩ = some (.int .i64 x.dir) ∧ (w.alloc (.cells CX 29)).cell? ⟨w.heap.size, 1, none⟩ = some (.int .i64 x.time) ∧ (w.alloc (.cells CX 29)).cell? ⟨w.heap.size, 2, none⟩ = some (.int .i64 x.gap) ∧ (w.alloc (.cells CX 29)).cell? ⟨w.heap.size, 3, none⟩ = some (.int .i64 x.plain) ∧ (w.alloc (.cells CX 29)).cell? ⟨w.heap.size, 4, none⟩ = some (.int .i64 x.turned)) := Lib.hid ⟨a0, a1, a2, a3, a4⟩
                have HCS : Hid ((Try.prog.info? 29).map (·.size) = some CX.size) := Lib.hid (by rw [hsz]; exact HIC.out)
                clear hCX hsz a5
                generalize szX x = z at *
                go_enter Try.func26, Try.ntmps26
                go_wp2_with (first | (refine wpList_load_row rfl _ (.tmp 1) rfl w.heap.size rfl _ _ _ _ HK0.out Try.underlying29 rfl HCS.out ?_) | (go_at_call 10; (with_reducible refine (HS.out _).mono ?_); rintro e w2 ⟨rfl, b2⟩; have HB2 := Lib.hid (kF b2 HB0.out); have HK2 := Lib.hid ((b2.block _ (Array.getElem?_eq_some_iff.1 HK0.out).1).trans HK0.out); clear b2; obtain ⟨a0, a1, a2, a3, a4⟩ := keepA HK0.out HK2.out HA0.out) | (go_at_call 50; (with_reducible refine (HCT.out _).mono ?_); rintro e wz ⟨rfl, rfl⟩) | (go_at_call 50; (with_reducible refine (HCG.out _).mono ?_); rintro e wz ⟨rfl, rfl⟩) | (go_at_call 51; (with_reducible refine (HCP.out _).mono ?_); rintro e wz ⟨rfl, rfl⟩) | (go_at_call 51; (with_reducible refine (HCQ.out _).mono ?_); rintro e wz ⟨rfl, rfl⟩))
                go_ret
                exact ⟨by rw [HE.out]; rfl, HB2.out⟩
            · have HE : Hid (takesB x = false) := Lib.hid (decide_eq_false (by clear hsz a0 a1 a2 a3 a4 a5; simp only [idB, limB, decide_eq_true_eq] at *; omega))
              have d1 : (x.dir == 2) = true := by simpa using c0
              have HCT := Lib.hid (fun w => clim_any x.time w)
              rw [c1] at HCT
              clear c1
              have HCG := Lib.hid (fun w => clim_any x.gap w)
              rw [c2] at HCG
              clear c2
              have HCP := Lib.hid (fun w => cid_any x.plain w)
              rw [(Bool.not_eq_true _).mp c5] at HCP
              clear c5
              obtain ⟨CX, hCX⟩ : ∃ CX, chA x = CX := ⟨_, rfl⟩
              clear HX0
              rw [hCX] at HB0 HS a0 a1 a2 a3 a4 a5 hsz ⊢
              have HK0 : Hid ((w.alloc (.cells CX 29)).heap[w.heap.size]? = some (.cells CX 29 (0, 0))) := Lib.hid (heap_alloc_new w _)
              have HA0 : Hid ((w.alloc (.cells CX 29)).cell? ⟨w.heap.size, 0, none⟩ = some (.int .i64 x.dir) ∧ (w.alloc (.cells CX 29)).cell? ⟨w.heap.size, 1, none⟩ = some (.int .i64 x.time) ∧ (w.alloc (.cells CX 29)).cell? ⟨w.heap.size, 2, none⟩ = some (.int .i64 x.gap) ∧ (w.alloc (.cells CX 29)).cell? ⟨w.heap.size, 3, none⟩ = some (.int .i64 x.plain) ∧ (w.alloc (.cells CX 29)).cell? ⟨w.heap.size, 4, none⟩ = some (.int .i64 x.turned)) := Lib.hid ⟨a0, a1, a2, a3, a4⟩
              have HCS : Hid ((Try.prog.info? 29).map (·.size) = some CX.size) := Lib.hid (by rw [hsz]; exact HIC.out)
              clear hCX hsz a5
              generalize szX x = z at *
              go_enter Try.func26, Try.ntmps26
              go_wp2_with (first | (refine wpList_load_row rfl _ (.tmp 1) rfl w.heap.size rfl _ _ _ _ HK0.out Try.underlying29 rfl HCS.out ?_) | (go_at_call 10; (with_reducible refine (HS.out _).mono ?_); rintro e w2 ⟨rfl, b2⟩; have HB2 := Lib.hid (kF b2 HB0.out); have HK2 := Lib.hid ((b2.block _ (Array.getElem?_eq_some_iff.1 HK0.out).1).trans HK0.out); clear b2; obtain ⟨a0, a1, a2, a3, a4⟩ := keepA HK0.out HK2.out HA0.out) | (go_at_call 50; (with_reducible refine (HCT.out _).mono ?_); rintro e wz ⟨rfl, rfl⟩) | (go_at_call 50; (with_reducible refine (HCG.out _).mono ?_); rintro e wz ⟨rfl, rfl⟩) | (go_at_call 51; (with_reducible refine (HCP.out _).mono ?_); rintro e wz ⟨rfl, rfl⟩))
              go_ret
              exact ⟨by rw [HE.out]; rfl, HB2.out⟩
          · have HE : Hid (takesB x = false) := Lib.hid (decide_eq_false (by clear hsz a0 a1 a2 a3 a4 a5; simp only [idB, limB, decide_eq_true_eq] at *; omega))
            have d1 : (x.dir == 2) = true := by simpa using c0
            have HCT := Lib.hid (fun w => clim_any x.time w)
            rw [c1] at HCT
            clear c1
            have HCG := Lib.hid (fun w => clim_any x.gap w)
            rw [c2] at HCG
            clear c2
            obtain ⟨CX, hCX⟩ : ∃ CX, chA x = CX := ⟨_, rfl⟩
            clear HX0
            rw [hCX] at HB0 HS a0 a1 a2 a3 a4 a5 hsz ⊢
            have HK0 : Hid ((w.alloc (.cells CX 29)).heap[w.heap.size]? = some (.cells CX 29 (0, 0))) := Lib.hid (heap_alloc_new w _)
            have HA0 : Hid ((w.alloc (.cells CX 29)).cell? ⟨w.heap.size, 0, none⟩ = some (.int .i64 x.dir) ∧ (w.alloc (.cells CX 29)).cell? ⟨w.heap.size, 1, none⟩ = some (.int .i64 x.time) ∧ (w.alloc (.cells CX 29)).cell? ⟨w.heap.size, 2, none⟩ = some (.int .i64 x.gap) ∧ (w.alloc (.cells CX 29)).cell? ⟨w.heap.size, 3, none⟩ = some (.int .i64 x.plain) ∧ (w.alloc (.cells CX 29)).cell? ⟨w.heap.size, 4, none⟩ = some (.int .i64 x.turned)) := Lib.hid ⟨a0, a1, a2, a3, a4⟩
            have HCS : Hid ((Try.prog.info? 29).map (·.size) = some CX.size) := Lib.hid (by rw [hsz]; exact HIC.out)
            clear hCX hsz a5
            generalize szX x = z at *
            go_enter Try.func26, Try.ntmps26
            go_wp2_with (first | (refine wpList_load_row rfl _ (.tmp 1) rfl w.heap.size rfl _ _ _ _ HK0.out Try.underlying29 rfl HCS.out ?_) | (go_at_call 10; (with_reducible refine (HS.out _).mono ?_); rintro e w2 ⟨rfl, b2⟩; have HB2 := Lib.hid (kF b2 HB0.out); have HK2 := Lib.hid ((b2.block _ (Array.getElem?_eq_some_iff.1 HK0.out).1).trans HK0.out); clear b2; obtain ⟨a0, a1, a2, a3, a4⟩ := keepA HK0.out HK2.out HA0.out) | (go_at_call 50; (with_reducible refine (HCT.out _).mono ?_); rintro e wz ⟨rfl, rfl⟩) | (go_at_call 50; (with_reducible refine (HCG.out _).mono ?_); rintro e wz ⟨rfl, rfl⟩))
            go_ret
            exact ⟨by rw [HE.out]; rfl, HB2.out⟩
        · have HE : Hid (takesB x = false) := Lib.hid (decide_eq_false (by clear hsz a0 a1 a2 a3 a4 a5; simp only [idB, limB, decide_eq_true_eq] at *; omega))
          have d1 : (x.dir == 2) = true := by simpa using c0
          have HCT := Lib.hid (fun w => clim_any x.time w)
          rw [c1] at HCT
          clear c1
          have HCG := Lib.hid (fun w => clim_any x.gap w)
          rw [c2] at HCG
          clear c2
          obtain ⟨CX, hCX⟩ : ∃ CX, chA x = CX := ⟨_, rfl⟩
          clear HX0
          rw [hCX] at HB0 HS a0 a1 a2 a3 a4 a5 hsz ⊢
          have HK0 : Hid ((w.alloc (.cells CX 29)).heap[w.heap.size]? = some (.cells CX 29 (0, 0))) := Lib.hid (heap_alloc_new w _)
          have HA0 : Hid ((w.alloc (.cells CX 29)).cell? ⟨w.heap.size, 0, none⟩ = some (.int .i64 x.dir) ∧ (w.alloc (.cells CX 29)).cell? ⟨w.heap.size, 1, none⟩ = some (.int .i64 x.time) ∧ (w.alloc (.cells CX 29)).cell? ⟨w.heap.size, 2, none⟩ = some (.int .i64 x.gap) ∧ (w.alloc (.cells CX 29)).cell? ⟨w.heap.size, 3, none⟩ = some (.int .i64 x.plain) ∧ (w.alloc (.cells CX 29)).cell? ⟨w.heap.size, 4, none⟩ = some (.int .i64 x.turned)) := Lib.hid ⟨a0, a1, a2, a3, a4⟩
          have HCS : Hid ((Try.prog.info? 29).map (·.size) = some CX.size) := Lib.hid (by rw [hsz]; exact HIC.out)
          clear hCX hsz a5
          generalize szX x = z at *
          go_enter Try.func26, Try.ntmps26
          go_wp2_with (first | (refine wpList_load_row rfl _ (.tmp 1) rfl w.heap.size rfl _ _ _ _ HK0.out Try.underlying29 rfl HCS.out ?_) | (go_at_call 10; (with_reducible refine (HS.out _).mono ?_); rintro e w2 ⟨rfl, b2⟩; have HB2 := Lib.hid (kF b2 HB0.out); have HK2 := Lib.hid ((b2.block _ (Array.getElem?_eq_some_iff.1 HK0.out).1).trans HK0.out); clear b2; obtain ⟨a0, a1, a2, a3, a4⟩ := keepA HK0.out HK2.out HA0.out) | (go_at_call 50; (with_reducible refine (HCT.out _).mono ?_); rintro e wz ⟨rfl, rfl⟩) | (go_at_call 50; (with_reducible refine (HCG.out _).mono ?_); rintro e wz ⟨rfl, rfl⟩))
          go_ret
          exact ⟨by rw [HE.out]; rfl, HB2.out⟩
      · have HE : Hid (takesB x = false) := Lib.hid (decide_eq_false (by clear hsz a0 a1 a2 a3 a4 a5; simp only [idB, limB, decide_eq_true_eq] at *; omega))
        have d1 : (x.dir == 2) = true := by simpa using c0
        have HCT := Lib.hid (fun w => clim_any x.time w)
        rw [c1] at HCT
        clear c1
        have HCG := Lib.hid (fun w => clim_any x.gap w)
        rw [(Bool.not_eq_true _).mp c2] at HCG
        clear c2
        obtain ⟨CX, hCX⟩ : ∃ CX, chA x = CX := ⟨_, rfl⟩
        clear HX0
        rw [hCX] at HB0 HS a0 a1 a2 a3 a4 a5 hsz ⊢
        have HK0 : Hid ((w.alloc (.cells CX 29)).heap[w.heap.size]? = some (.cells CX 29 (0, 0))) := Lib.hid (heap_alloc_new w _)
        have HA0 : Hid ((w.alloc (.cells CX 29)).cell? ⟨w.heap.size, 0, none⟩ = some (.int .i64 x.dir) ∧ (w.alloc (.cells CX 29)).cell? ⟨w.heap.size, 1, none⟩ = some (.int .i64 x.time) ∧ (w.alloc (.cells CX 29)).cell? ⟨w.heap.size, 2, none⟩ = some (.int .i64 x.gap) ∧ (w.alloc (.cells CX 29)).cell? ⟨w.heap.size, 3, none⟩ = some (.int .i64 x.plain) ∧ (w.alloc (.cells CX 29)).cell? ⟨w.heap.size, 4, none⟩ = some (.int .i64 x.turned)) := Lib.hid ⟨a0, a1, a2, a3, a4⟩
        have HCS : Hid ((Try.prog.info? 29).map (·.size) = some CX.size) := Lib.hid (by rw [hsz]; exact HIC.out)
        clear hCX hsz a5
        generalize szX x = z at *
        go_enter Try.func26, Try.ntmps26
        go_wp2_with (first | (refine wpList_load_row rfl _ (.tmp 1) rfl w.heap.size rfl _ _ _ _ HK0.out Try.underlying29 rfl HCS.out ?_) | (go_at_call 10; (with_reducible refine (HS.out _).mono ?_); rintro e w2 ⟨rfl, b2⟩; have HB2 := Lib.hid (kF b2 HB0.out); have HK2 := Lib.hid ((b2.block _ (Array.getElem?_eq_some_iff.1 HK0.out).1).trans HK0.out); clear b2; obtain ⟨a0, a1, a2, a3, a4⟩ := keepA HK0.out HK2.out HA0.out) | (go_at_call 50; (with_reducible refine (HCT.out _).mono ?_); rintro e wz ⟨rfl, rfl⟩) | (go_at_call 50; (with_reducible refine (HCG.out _).mono ?_); rintro e wz ⟨rfl, rfl⟩))
        go_ret
        exact ⟨by rw [HE.out]; rfl, HB2.out⟩
    · have HE : Hid (takesB x = false) := Lib.hid (decide_eq_false (by clear hsz a0 a1 a2 a3 a4 a5; simp only [idB, limB, decide_eq_true_eq] at *; omega))
      have d1 : (x.dir == 2) = true := by simpa using c0
      have HCT := Lib.hid (fun w => clim_any x.time w)
      rw [(Bool.not_eq_true _).mp c1] at HCT
      clear c1
      obtain ⟨CX, hCX⟩ : ∃ CX, chA x = CX := ⟨_, rfl⟩
      clear HX0
      rw [hCX] at HB0 HS a0 a1 a2 a3 a4 a5 hsz ⊢
      have HK0 : Hid ((w.alloc (.cells CX 29)).heap[w.heap.size]? = some (.cells CX 29 (0, 0))) := Lib.hid (heap_alloc_new w _)
      have HA0 : Hid ((w.alloc (.cells CX 29)).cell? ⟨w.heap.size, 0, none⟩ = some (.int .i64 x.dir) ∧ (w.alloc (.cells CX 29)).cell? ⟨w.heap.size, 1, none⟩ = some (.int .i64 x.time) ∧ (w.alloc (.cells CX 29)).cell? ⟨w.heap.size, 2, none⟩ = some (.int .i64 x.gap) ∧ (w.alloc (.cells CX 29)).cell? ⟨w.heap.size, 3, none⟩ = some (.int .i64 x.plain) ∧ (w.alloc (.cells CX 29)).cell? ⟨w.heap.size, 4, none⟩ = some (.int .i64 x.turned)) := Lib.hid ⟨a0, a1, a2, a3, a4⟩
      have HCS : Hid ((Try.prog.info? 29).map (·.size) = some CX.size) := Lib.hid (by rw [hsz]; exact HIC.out)
      clear hCX hsz a5
      generalize szX x = z at *
      go_enter Try.func26, Try.ntmps26
      go_wp2_with (first | (refine wpList_load_row rfl _ (.tmp 1) rfl w.heap.size rfl _ _ _ _ HK0.out Try.underlying29 rfl HCS.out ?_) | (go_at_call 10; (with_reducible refine (HS.out _).mono ?_); rintro e w2 ⟨rfl, b2⟩; have HB2 := Lib.hid (kF b2 HB0.out); have HK2 := Lib.hid ((b2.block _ (Array.getElem?_eq_some_iff.1 HK0.out).1).trans HK0.out); clear b2; obtain ⟨a0, a1, a2, a3, a4⟩ := keepA HK0.out HK2.out HA0.out) | (go_at_call 50; (with_reducible refine (HCT.out _).mono ?_); rintro e wz ⟨rfl, rfl⟩))
      go_ret
      exact ⟨by rw [HE.out]; rfl, HB2.out⟩
  · have HE : Hid (takesB x = false) := Lib.hid (decide_eq_false (by clear hsz a0 a1 a2 a3 a4 a5; simp only [idB, limB, decide_eq_true_eq] at *; omega))
    have d1 : (x.dir == 2) = false := by simpa using c0
    obtain ⟨CX, hCX⟩ : ∃ CX, chA x = CX := ⟨_, rfl⟩
    clear HX0
    rw [hCX] at HB0 HS a0 a1 a2 a3 a4 a5 hsz ⊢
    have HK0 : Hid ((w.alloc (.cells CX 29)).heap[w.heap.size]? = some (.cells CX 29 (0, 0))) := Lib.hid (heap_alloc_new w _)
    have HA0 : Hid ((w.alloc (.cells CX 29)).cell? ⟨w.heap.size, 0, none⟩ = some (.int .i64 x.dir) ∧ (w.alloc (.cells CX 29)).cell? ⟨w.heap.size, 1, none⟩ = some (.int .i64 x.time) ∧ (w.alloc (.cells CX 29)).cell? ⟨w.heap.size, 2, none⟩ = some (.int .i64 x.gap) ∧ (w.alloc (.cells CX 29)).cell? ⟨w.heap.size, 3, none⟩ = some (.int .i64 x.plain) ∧ (w.alloc (.cells CX 29)).cell? ⟨w.heap.size, 4, none⟩ = some (.int .i64 x.turned)) := Lib.hid ⟨a0, a1, a2, a3, a4⟩
    have HCS : Hid ((Try.prog.info? 29).map (·.size) = some CX.size) := Lib.hid (by rw [hsz]; exact HIC.out)
    clear hCX hsz a5
    generalize szX x = z at *
    go_enter Try.func26, Try.ntmps26
    go_wp2_with (first | (refine wpList_load_row rfl _ (.tmp 1) rfl w.heap.size rfl _ _ _ _ HK0.out Try.underlying29 rfl HCS.out ?_) | (go_at_call 10; (with_reducible refine (HS.out _).mono ?_); rintro e w2 ⟨rfl, b2⟩; have HB2 := Lib.hid (kF b2 HB0.out); have HK2 := Lib.hid ((b2.block _ (Array.getElem?_eq_some_iff.1 HK0.out).1).trans HK0.out); clear b2; obtain ⟨a0, a1, a2, a3, a4⟩ := keepA HK0.out HK2.out HA0.out))
    go_ret
    exact ⟨by rw [HE.out]; rfl, HB2.out⟩
set_option maxRecDepth 100000 in
set_option maxHeartbeats 8000000 in
theorem rtakes_any (w : World) (x : ChV) : Calls Try.prog 27 #[.agg (chA x)] w fun e w' => e = .returned (.bool (takesB x)) ∧ Below w.heap.size w w' := by
  have hb0 : Below w.heap.size w (w.alloc (.cells (chA x) 29)) := (Below.refl _ _).alloc (Nat.le_refl _) _
  have hx0 : ChAt (w.alloc (.cells (chA x) 29)) w.heap.size x := heap_alloc_new w _
  have HB0 := Lib.hid hb0
  have HX0 := Lib.hid hx0
  obtain ⟨a0, a1, a2, a3, a4, a5⟩ := hx0.cells
  have hsz := chA_size x
  clear hb0 hx0
  have HS := Lib.hid (fun w => rxsize_any w x)
  have hz := szX_rng x
  have HIC := Lib.hid info_chan
  by_cases c0 : x.dir = 2
  · by_cases c1 : limB x.time = true
    · by_cases c2 : limB x.gap = true
      · by_cases c3 : 1 ≤ szX x
        · by_cases c4 : szX x ≤ 8
          · by_cases c5 : x.plain = x.turned
            · have HE : Hid (takesB x = false) := Lib.hid (decide_eq_false (by clear hsz a0 a1 a2 a3 a4 a5; simp only [idB, limB, decide_eq_true_eq] at *; omega))
              have d1 : (x.dir == 2) = true := by simpa using c0
              have HCT := Lib.hid (fun w => rtime_any x.time w)
              rw [c1] at HCT
              clear c1
              have HCG := Lib.hid (fun w => rtime_any x.gap w)
              rw [c2] at HCG
              clear c2
              have d3 : (x.plain != x.turned) = false := by simpa using c5
              have d2 : (x.plain == x.turned) = true := by simpa using c5
              obtain ⟨CX, hCX⟩ : ∃ CX, chA x = CX := ⟨_, rfl⟩
              clear HX0
              rw [hCX] at HB0 HS a0 a1 a2 a3 a4 a5 hsz ⊢
              have HK0 : Hid ((w.alloc (.cells CX 29)).heap[w.heap.size]? = some (.cells CX 29 (0, 0))) := Lib.hid (heap_alloc_new w _)
              have HA0 : Hid ((w.alloc (.cells CX 29)).cell? ⟨w.heap.size, 0, none⟩ = some (.int .i64 x.dir) ∧ (w.alloc (.cells CX 29)).cell? ⟨w.heap.size, 1, none⟩ = some (.int .i64 x.time) ∧ (w.alloc (.cells CX 29)).cell? ⟨w.heap.size, 2, none⟩ = some (.int .i64 x.gap) ∧ (w.alloc (.cells CX 29)).cell? ⟨w.heap.size, 3, none⟩ = some (.int .i64 x.plain) ∧ (w.alloc (.cells CX 29)).cell? ⟨w.heap.size, 4, none⟩ = some (.int .i64 x.turned)) := Lib.hid ⟨a0, a1, a2, a3, a4⟩
              have HCS : Hid ((Try.prog.info? 29).map (·.size) = some CX.size) := Lib.hid (by rw [hsz]; exact HIC.out)
              clear hCX hsz a5
              generalize szX x = z at *
              go_enter Try.func27, Try.ntmps27
              go_wp2_with (first | (refine wpList_load_row rfl _ (.tmp 1) rfl w.heap.size rfl _ _ _ _ HK0.out Try.underlying29 rfl HCS.out ?_) | (go_at_call 11; (with_reducible refine (HS.out _).mono ?_); rintro e w2 ⟨rfl, b2⟩; have HB2 := Lib.hid (kF b2 HB0.out); have HK2 := Lib.hid ((b2.block _ (Array.getElem?_eq_some_iff.1 HK0.out).1).trans HK0.out); clear b2; obtain ⟨a0, a1, a2, a3, a4⟩ := keepA HK0.out HK2.out HA0.out) | (go_at_call 52; (with_reducible refine (HCT.out _).mono ?_); rintro e wz ⟨rfl, rfl⟩) | (go_at_call 52; (with_reducible refine (HCG.out _).mono ?_); rintro e wz ⟨rfl, rfl⟩))
              go_ret
              exact ⟨by rw [HE.out]; rfl, HB2.out⟩
            · by_cases c6 : 0 ≤ x.plain
              · by_cases c7 : x.plain ≤ 2047
                · by_cases c8 : 0 ≤ x.turned
                  · by_cases c9 : x.turned ≤ 2047
                    · have HE : Hid (takesB x = true) := Lib.hid (decide_eq_true (by simp only [idB, limB, decide_eq_true_eq] at *; omega))
                      have d1 : (x.dir == 2) = true := by simpa using c0
                      have HCT := Lib.hid (fun w => rtime_any x.time w)
                      rw [c1] at HCT
                      clear c1
                      have HCG := Lib.hid (fun w => rtime_any x.gap w)
                      rw [c2] at HCG
                      clear c2
                      have d3 : (x.plain != x.turned) = true := by simpa using c5
                      have d2 : (x.plain == x.turned) = false := by simpa using c5
                      obtain ⟨CX, hCX⟩ : ∃ CX, chA x = CX := ⟨_, rfl⟩
                      clear HX0
                      rw [hCX] at HB0 HS a0 a1 a2 a3 a4 a5 hsz ⊢
                      have HK0 : Hid ((w.alloc (.cells CX 29)).heap[w.heap.size]? = some (.cells CX 29 (0, 0))) := Lib.hid (heap_alloc_new w _)
                      have HA0 : Hid ((w.alloc (.cells CX 29)).cell? ⟨w.heap.size, 0, none⟩ = some (.int .i64 x.dir) ∧ (w.alloc (.cells CX 29)).cell? ⟨w.heap.size, 1, none⟩ = some (.int .i64 x.time) ∧ (w.alloc (.cells CX 29)).cell? ⟨w.heap.size, 2, none⟩ = some (.int .i64 x.gap) ∧ (w.alloc (.cells CX 29)).cell? ⟨w.heap.size, 3, none⟩ = some (.int .i64 x.plain) ∧ (w.alloc (.cells CX 29)).cell? ⟨w.heap.size, 4, none⟩ = some (.int .i64 x.turned)) := Lib.hid ⟨a0, a1, a2, a3, a4⟩
                      have HCS : Hid ((Try.prog.info? 29).map (·.size) = some CX.size) := Lib.hid (by rw [hsz]; exact HIC.out)
                      clear hCX hsz a5
                      generalize szX x = z at *
                      go_enter Try.func27, Try.ntmps27
                      go_wp2_with (first | (refine wpList_load_row rfl _ (.tmp 1) rfl w.heap.size rfl _ _ _ _ HK0.out Try.underlying29 rfl HCS.out ?_) | (go_at_call 11; (with_reducible refine (HS.out _).mono ?_); rintro e w2 ⟨rfl, b2⟩; have HB2 := Lib.hid (kF b2 HB0.out); have HK2 := Lib.hid ((b2.block _ (Array.getElem?_eq_some_iff.1 HK0.out).1).trans HK0.out); clear b2; obtain ⟨a0, a1, a2, a3, a4⟩ := keepA HK0.out HK2.out HA0.out) | (go_at_call 52; (with_reducible refine (HCT.out _).mono ?_); rintro e wz ⟨rfl, rfl⟩) | (go_at_call 52; (with_reducible refine (HCG.out _).mono ?_); rintro e wz ⟨rfl, rfl⟩))
                      go_ret
                      exact ⟨by rw [HE.out]; rfl, HB2.out⟩
                    · have HE : Hid (takesB x = false) := Lib.hid (decide_eq_false (by clear hsz a0 a1 a2 a3 a4 a5; simp only [idB, limB, decide_eq_true_eq] at *; omega))
                      have d1 : (x.dir == 2) = true := by simpa using c0
                      have HCT := Lib.hid (fun w => rtime_any x.time w)
                      rw [c1] at HCT
                      clear c1
                      have HCG := Lib.hid (fun w => rtime_any x.gap w)
                      rw [c2] at HCG
                      clear c2
                      have d3 : (x.plain != x.turned) = true := by simpa using c5
                      have d2 : (x.plain == x.turned) = false := by simpa using c5
                      have dl : decide (x.turned ≤ 2047) = false := decide_eq_false c9
                      obtain ⟨CX, hCX⟩ : ∃ CX, chA x = CX := ⟨_, rfl⟩
                      clear HX0
                      rw [hCX] at HB0 HS a0 a1 a2 a3 a4 a5 hsz ⊢
                      have HK0 : Hid ((w.alloc (.cells CX 29)).heap[w.heap.size]? = some (.cells CX 29 (0, 0))) := Lib.hid (heap_alloc_new w _)
                      have HA0 : Hid ((w.alloc (.cells CX 29)).cell? ⟨w.heap.size, 0, none⟩ = some (.int .i64 x.dir) ∧ (w.alloc (.cells CX 29)).cell? ⟨w.heap.size, 1, none⟩ = some (.int .i64 x.time) ∧ (w.alloc (.cells CX 29)).cell? ⟨w.heap.size, 2, none⟩ = some (.int .i64 x.gap) ∧ (w.alloc (.cells CX 29)).cell? ⟨w.heap.size, 3, none⟩ = some (.int .i64 x.plain) ∧ (w.alloc (.cells CX 29)).cell? ⟨w.heap.size, 4, none⟩ = some (.int .i64 x.turned)) := Lib.hid ⟨a0, a1, a2, a3, a4⟩
                      have HCS : Hid ((Try.prog.info? 29).map (·.size) = some CX.size) := Lib.hid (by rw [hsz]; exact HIC.out)
                      clear hCX hsz a5
                      generalize szX x = z at *
                      go_enter Try.func27, Try.ntmps27
                      go_wp2_with (first | (refine wpList_load_row rfl _ (.tmp 1) rfl w.heap.size rfl _ _ _ _ HK0.out Try.underlying29 rfl HCS.out ?_) | (go_at_call 11; (with_reducible refine (HS.out _).mono ?_); rintro e w2 ⟨rfl, b2⟩; have HB2 := Lib.hid (kF b2 HB0.out); have HK2 := Lib.hid ((b2.block _ (Array.getElem?_eq_some_iff.1 HK0.out).1).trans HK0.out); clear b2; obtain ⟨a0, a1, a2, a3, a4⟩ := keepA HK0.out HK2.out HA0.out) | (go_at_call 52; (with_reducible refine (HCT.out _).mono ?_); rintro e wz ⟨rfl, rfl⟩) | (go_at_call 52; (with_reducible refine (HCG.out _).mono ?_); rintro e wz ⟨rfl, rfl⟩))
                      go_ret
                      exact ⟨by rw [HE.out]; rfl, HB2.out⟩
                  · have HE : Hid (takesB x = false) := Lib.hid (decide_eq_false (by clear hsz a0 a1 a2 a3 a4 a5; simp only [idB, limB, decide_eq_true_eq] at *; omega))
                    have d1 : (x.dir == 2) = true := by simpa using c0
                    have HCT := Lib.hid (fun w => rtime_any x.time w)
                    rw [c1] at HCT
                    clear c1
                    have HCG := Lib.hid (fun w => rtime_any x.gap w)
                    rw [c2] at HCG
                    clear c2
                    have d3 : (x.plain != x.turned) = true := by simpa using c5
                    have d2 : (x.plain == x.turned) = false := by simpa using c5
                    obtain ⟨CX, hCX⟩ : ∃ CX, chA x = CX := ⟨_, rfl⟩
                    clear HX0
                    rw [hCX] at HB0 HS a0 a1 a2 a3 a4 a5 hsz ⊢
                    have HK0 : Hid ((w.alloc (.cells CX 29)).heap[w.heap.size]? = some (.cells CX 29 (0, 0))) := Lib.hid (heap_alloc_new w _)
                    have HA0 : Hid ((w.alloc (.cells CX 29)).cell? ⟨w.heap.size, 0, none⟩ = some (.int .i64 x.dir) ∧ (w.alloc (.cells CX 29)).cell? ⟨w.heap.size, 1, none⟩ = some (.int .i64 x.time) ∧ (w.alloc (.cells CX 29)).cell? ⟨w.heap.size, 2, none⟩ = some (.int .i64 x.gap) ∧ (w.alloc (.cells CX 29)).cell? ⟨w.heap.size, 3, none⟩ = some (.int .i64 x.plain) ∧ (w.alloc (.cells CX 29)).cell? ⟨w.heap.size, 4, none⟩ = some (.int .i64 x.turned)) := Lib.hid ⟨a0, a1, a2, a3, a4⟩
                    have HCS : Hid ((Try.prog.info? 29).map (·.size) = some CX.size) := Lib.hid (by rw [hsz]; exact HIC.out)
                    clear hCX hsz a5
                    generalize szX x = z at *
                    go_enter Try.func27, Try.ntmps27
                    go_wp2_with (first | (refine wpList_load_row rfl _ (.tmp 1) rfl w.heap.size rfl _ _ _ _ HK0.out Try.underlying29 rfl HCS.out ?_) | (go_at_call 11; (with_reducible refine (HS.out _).mono ?_); rintro e w2 ⟨rfl, b2⟩; have HB2 := Lib.hid (kF b2 HB0.out); have HK2 := Lib.hid ((b2.block _ (Array.getElem?_eq_some_iff.1 HK0.out).1).trans HK0.out); clear b2; obtain ⟨a0, a1, a2, a3, a4⟩ := keepA HK0.out HK2.out HA0.out) | (go_at_call 52; (with_reducible refine (HCT.out _).mono ?_); rintro e wz ⟨rfl, rfl⟩) | (go_at_call 52; (with_reducible refine (HCG.out _).mono ?_); rintro e wz ⟨rfl, rfl⟩))
                    go_ret
                    exact ⟨by rw [HE.out]; rfl, HB2.out⟩
                · have HE : Hid (takesB x = false) := Lib.hid (decide_eq_false (by clear hsz a0 a1 a2 a3 a4 a5; simp only [idB, limB, decide_eq_true_eq] at *; omega))
                  have d1 : (x.dir == 2) = true := by simpa using c0
                  have HCT := Lib.hid (fun w => rtime_any x.time w)
                  rw [c1] at HCT
                  clear c1
                  have HCG := Lib.hid (fun w => rtime_any x.gap w)
                  rw [c2] at HCG
                  clear c2
                  have d3 : (x.plain != x.turned) = true := by simpa using c5
                  have d2 : (x.plain == x.turned) = false := by simpa using c5
                  obtain ⟨CX, hCX⟩ : ∃ CX, chA x = CX := ⟨_, rfl⟩
                  clear HX0
                  rw [hCX] at HB0 HS a0 a1 a2 a3 a4 a5 hsz ⊢
                  have HK0 : Hid ((w.alloc (.cells CX 29)).heap[w.heap.size]? = some (.cells CX 29 (0, 0))) := Lib.hid (heap_alloc_new w _)
                  have HA0 : Hid ((w.alloc (.cells CX 29)).cell? ⟨w.heap.size, 0, none⟩ = some (.int .i64 x.dir) ∧ (w.alloc (.cells CX 29)).cell? ⟨w.heap.size, 1, none⟩ = some (.int .i64 x.time) ∧ (w.alloc (.cells CX 29)).cell? ⟨w.heap.size, 2, none⟩ = some (.int .i64 x.gap) ∧ (w.alloc (.cells CX 29)).cell? ⟨w.heap.size, 3, none⟩ = some (.int .i64 x.plain) ∧ (w.alloc (.cells CX 29)).cell? ⟨w.heap.size, 4, none⟩ = some (.int .i64 x.turned)) := Lib.hid ⟨a0, a1, a2, a3, a4⟩
                  have HCS : Hid ((Try.prog.info? 29).map (·.size) = some CX.size) := Lib.hid (by rw [hsz]; exact HIC.out)
                  clear hCX hsz a5
                  generalize szX x = z at *
                  go_enter Try.func27, Try.ntmps27
                  go_wp2_with (first | (refine wpList_load_row rfl _ (.tmp 1) rfl w.heap.size rfl _ _ _ _ HK0.out Try.underlying29 rfl HCS.out ?_) | (go_at_call 11; (with_reducible refine (HS.out _).mono ?_); rintro e w2 ⟨rfl, b2⟩; have HB2 := Lib.hid (kF b2 HB0.out); have HK2 := Lib.hid ((b2.block _ (Array.getElem?_eq_some_iff.1 HK0.out).1).trans HK0.out); clear b2; obtain ⟨a0, a1, a2, a3, a4⟩ := keepA HK0.out HK2.out HA0.out) | (go_at_call 52; (with_reducible refine (HCT.out _).mono ?_); rintro e wz ⟨rfl, rfl⟩) | (go_at_call 52; (with_reducible refine (HCG.out _).mono ?_); rintro e wz ⟨rfl, rfl⟩))
                  go_ret
                  exact ⟨by rw [HE.out]; rfl, HB2.out⟩
              · have HE : Hid (takesB x = false) := Lib.hid (decide_eq_false (by clear hsz a0 a1 a2 a3 a4 a5; simp only [idB, limB, decide_eq_true_eq] at *; omega))
                have d1 : (x.dir == 2) = true := by simpa using c0
                have HCT := Lib.hid (fun w => rtime_any x.time w)
                rw [c1] at HCT
                clear c1
                have HCG := Lib.hid (fun w => rtime_any x.gap w)
                rw [c2] at HCG
                clear c2
                have d3 : (x.plain != x.turned) = true := by simpa using c5
                have d2 : (x.plain == x.turned) = false := by simpa using c5
                obtain ⟨CX, hCX⟩ : ∃ CX, chA x = CX := ⟨_, rfl⟩
                clear HX0
                rw [hCX] at HB0 HS a0 a1 a2 a3 a4 a5 hsz ⊢
                have HK0 : Hid ((w.alloc (.cells CX 29)).heap[w.heap.size]? = some (.cells CX 29 (0, 0))) := Lib.hid (heap_alloc_new w _)
                have HA0 : Hid ((w.alloc (.cells CX 29)).cell? ⟨w.heap.size, 0, none⟩ = some (.int .i64 x.dir) ∧ (w.alloc (.cells CX 29)).cell? ⟨w.heap.size, 1, none⟩ = some (.int .i64 x.time) ∧ (w.alloc (.cells CX 29)).cell? ⟨w.heap.size, 2, none⟩ = some (.int .i64 x.gap) ∧ (w.alloc (.cells CX 29)).cell? ⟨w.heap.size, 3, none⟩ = some (.int .i64 x.plain) ∧ (w.alloc (.cells CX 29)).cell? ⟨w.heap.size, 4, none⟩ = some (.int .i64 x.turned)) := Lib.hid ⟨a0, a1, a2, a3, a4⟩
                have HCS : Hid ((Try.prog.info? 29).map (·.size) = some CX.size) := Lib.hid (by rw [hsz]; exact HIC.out)
                clear hCX hsz a5
                generalize szX x = z at *
                go_enter Try.func27, Try.ntmps27
                go_wp2_with (first | (refine wpList_load_row rfl _ (.tmp 1) rfl w.heap.size rfl _ _ _ _ HK0.out Try.underlying29 rfl HCS.out ?_) | (go_at_call 11; (with_reducible refine (HS.out _).mono ?_); rintro e w2 ⟨rfl, b2⟩; have HB2 := Lib.hid (kF b2 HB0.out); have HK2 := Lib.hid ((b2.block _ (Array.getElem?_eq_some_iff.1 HK0.out).1).trans HK0.out); clear b2; obtain ⟨a0, a1, a2, a3, a4⟩ := keepA HK0.out HK2.out HA0.out) | (go_at_call 52; (with_reducible refine (HCT.out _).mono ?_); rintro e wz ⟨rfl, rfl⟩) | (go_at_call 52; (with_reducible refine (HCG.out _).mono ?_); rintro e wz ⟨rfl, rfl⟩))
                go_ret
                exact ⟨by rw [HE.out]; rfl, HB2.out⟩
          · have HE : Hid (takesB x = false) := Lib.hid (decide_eq_false (by clear hsz a0 a1 a2 a3 a4 a5; simp only [idB, limB, decide_eq_true_eq] at *; omega))
            have d1 : (x.dir == 2) = true := by simpa using c0
            have HCT := Lib.hid (fun w => rtime_any x.time w)
            rw [c1] at HCT
            clear c1
            have HCG := Lib.hid (fun w => rtime_any x.gap w)
            rw [c2] at HCG
            clear c2
            obtain ⟨CX, hCX⟩ : ∃ CX, chA x = CX := ⟨_, rfl⟩
            clear HX0
            rw [hCX] at HB0 HS a0 a1 a2 a3 a4 a5 hsz ⊢
            have HK0 : Hid ((w.alloc (.cells CX 29)).heap[w.heap.size]? = some (.cells CX 29 (0, 0))) := Lib.hid (heap_alloc_new w _)
            have HA0 : Hid ((w.alloc (.cells CX 29)).cell? ⟨w.heap.size, 0, none⟩ = some (.int .i64 x.dir) ∧ (w.alloc (.cells CX 29)).cell? ⟨w.heap.size, 1, none⟩ = some (.int .i64 x.time) ∧ (w.alloc (.cells CX 29)).cell? ⟨w.heap.size, 2, none⟩ = some (.int .i64 x.gap) ∧ (w.alloc (.cells CX 29)).cell? ⟨w.heap.size, 3, none⟩ = some (.int .i64 x.plain) ∧ (w.alloc (.cells CX 29)).cell? ⟨w.heap.size, 4, none⟩ = some (.int .i64 x.turned)) := Lib.hid ⟨a0, a1, a2, a3, a4⟩
            have HCS : Hid ((Try.prog.info? 29).map (·.size) = some CX.size) := Lib.hid (by rw [hsz]; exact HIC.out)
            clear hCX hsz a5
            generalize szX x = z at *
            go_enter Try.func27, Try.ntmps27
            go_wp2_with (first | (refine wpList_load_row rfl _ (.tmp 1) rfl w.heap.size rfl _ _ _ _ HK0.out Try.underlying29 rfl HCS.out ?_) | (go_at_call 11; (with_reducible refine (HS.out _).mono ?_); rintro e w2 ⟨rfl, b2⟩; have HB2 := Lib.hid (kF b2 HB0.out); have HK2 := Lib.hid ((b2.block _ (Array.getElem?_eq_some_iff.1 HK0.out).1).trans HK0.out); clear b2; obtain ⟨a0, a1, a2, a3, a4⟩ := keepA HK0.out HK2.out HA0.out) | (go_at_call 52; (with_reducible refine (HCT.out _).mono ?_); rintro e wz ⟨rfl, rfl⟩) | (go_at_call 52; (with_reducible refine (HCG.out _).mono ?_); rintro e wz ⟨rfl, rfl⟩))
            go_ret
            exact ⟨by rw [HE.out]; rfl, HB2.out⟩
        · have HE : Hid (takesB x = false) := Lib.hid (decide_eq_false (by clear hsz a0 a1 a2 a3 a4 a5; simp only [idB, limB, decide_eq_true_eq] at *; omega))
          have d1 : (x.dir == 2) = true := by simpa using c0
          have HCT := Lib.hid (fun w => rtime_any x.time w)
          rw [c1] at HCT
          clear c1
          have HCG := Lib.hid (fun w => rtime_any x.gap w)
          rw [c2] at HCG
          clear c2
          obtain ⟨CX, hCX⟩ : ∃ CX, chA x = CX := ⟨_, rfl⟩
          clear HX0
          rw [hCX] at HB0 HS a0 a1 a2 a3 a4 a5 hsz ⊢
          have HK0 : Hid ((w.alloc (.cells CX 29)).heap[w.heap.size]? = some (.cells CX 29 (0, 0))) := Lib.hid (heap_alloc_new w _)
          have HA0 : Hid ((w.alloc (.cells CX 29)).cell? ⟨w.heap.size, 0, none⟩ = some (.int .i64 x.dir) ∧ (w.alloc (.cells CX 29)).cell? ⟨w.heap.size, 1, none⟩ = some (.int .i64 x.time) ∧ (w.alloc (.cells CX 29)).cell? ⟨w.heap.size, 2, none⟩ = some (.int .i64 x.gap) ∧ (w.alloc (.cells CX 29)).cell? ⟨w.heap.size, 3, none⟩ = some (.int .i64 x.plain) ∧ (w.alloc (.cells CX 29)).cell? ⟨w.heap.size, 4, none⟩ = some (.int .i64 x.turned)) := Lib.hid ⟨a0, a1, a2, a3, a4⟩
          have HCS : Hid ((Try.prog.info? 29).map (·.size) = some CX.size) := Lib.hid (by rw [hsz]; exact HIC.out)
          clear hCX hsz a5
          generalize szX x = z at *
          go_enter Try.func27, Try.ntmps27
          go_wp2_with (first | (refine wpList_load_row rfl _ (.tmp 1) rfl w.heap.size rfl _ _ _ _ HK0.out Try.underlying29 rfl HCS.out ?_) | (go_at_call 11; (with_reducible refine (HS.out _).mono ?_); rintro e w2 ⟨rfl, b2⟩; have HB2 := Lib.hid (kF b2 HB0.out); have HK2 := Lib.hid ((b2.block _ (Array.getElem?_eq_some_iff.1 HK0.out).1).trans HK0.out); clear b2; obtain ⟨a0, a1, a2, a3, a4⟩ := keepA HK0.out HK2.out HA0.out) | (go_at_call 52; (with_reducible refine (HCT.out _).mono ?_); rintro e wz ⟨rfl, rfl⟩) | (go_at_call 52; (with_reducible refine (HCG.out _).mono ?_); rintro e wz ⟨rfl, rfl⟩))
          go_ret
          exact ⟨by rw [HE.out]; rfl, HB2.out⟩
      · have HE : Hid (takesB x = false) := Lib.hid (decide_eq_false (by clear hsz a0 a1 a2 a3 a4 a5; simp only [idB, limB, decide_eq_true_eq] at *; omega))
        have d1 : (x.dir == 2) = true := by simpa using c0
        have HCT := Lib.hid (fun w => rtime_any x.time w)
        rw [c1] at HCT
        clear c1
        have HCG := Lib.hid (fun w => rtime_any x.gap w)
        rw [(Bool.not_eq_true _).mp c2] at HCG
        clear c2
        obtain ⟨CX, hCX⟩ : ∃ CX, chA x = CX := ⟨_, rfl⟩
        clear HX0
        rw [hCX] at HB0 HS a0 a1 a2 a3 a4 a5 hsz ⊢
        have HK0 : Hid ((w.alloc (.cells CX 29)).heap[w.heap.size]? = some (.cells CX 29 (0, 0))) := Lib.hid (heap_alloc_new w _)
        have HA0 : Hid ((w.alloc (.cells CX 29)).cell? ⟨w.heap.size, 0, none⟩ = some (.int .i64 x.dir) ∧ (w.alloc (.cells CX 29)).cell? ⟨w.heap.size, 1, none⟩ = some (.int .i64 x.time) ∧ (w.alloc (.cells CX 29)).cell? ⟨w.heap.size, 2, none⟩ = some (.int .i64 x.gap) ∧ (w.alloc (.cells CX 29)).cell? ⟨w.heap.size, 3, none⟩ = some (.int .i64 x.plain) ∧ (w.alloc (.cells CX 29)).cell? ⟨w.heap.size, 4, none⟩ = some (.int .i64 x.turned)) := Lib.hid ⟨a0, a1, a2, a3, a4⟩
        have HCS : Hid ((Try.prog.info? 29).map (·.size) = some CX.size) := Lib.hid (by rw [hsz]; exact HIC.out)
        clear hCX hsz a5
        generalize szX x = z at *
        go_enter Try.func27, Try.ntmps27
        go_wp2_with (first | (refine wpList_load_row rfl _ (.tmp 1) rfl w.heap.size rfl _ _ _ _ HK0.out Try.underlying29 rfl HCS.out ?_) | (go_at_call 11; (with_reducible refine (HS.out _).mono ?_); rintro e w2 ⟨rfl, b2⟩; have HB2 := Lib.hid (kF b2 HB0.out); have HK2 := Lib.hid ((b2.block _ (Array.getElem?_eq_some_iff.1 HK0.out).1).trans HK0.out); clear b2; obtain ⟨a0, a1, a2, a3, a4⟩ := keepA HK0.out HK2.out HA0.out) | (go_at_call 52; (with_reducible refine (HCT.out _).mono ?_); rintro e wz ⟨rfl, rfl⟩) | (go_at_call 52; (with_reducible refine (HCG.out _).mono ?_); rintro e wz ⟨rfl, rfl⟩))
        go_ret
        exact ⟨by rw [HE.out]; rfl, HB2.out⟩
    · have HE : Hid (takesB x = false) := Lib.hid (decide_eq_false (by clear hsz a0 a1 a2 a3 a4 a5; simp only [idB, limB, decide_eq_true_eq] at *; omega))
      have d1 : (x.dir == 2) = true := by simpa using c0
      have HCT := Lib.hid (fun w => rtime_any x.time w)
      rw [(Bool.not_eq_true _).mp c1] at HCT
      clear c1
      obtain ⟨CX, hCX⟩ : ∃ CX, chA x = CX := ⟨_, rfl⟩
      clear HX0
      rw [hCX] at HB0 HS a0 a1 a2 a3 a4 a5 hsz ⊢
      have HK0 : Hid ((w.alloc (.cells CX 29)).heap[w.heap.size]? = some (.cells CX 29 (0, 0))) := Lib.hid (heap_alloc_new w _)
      have HA0 : Hid ((w.alloc (.cells CX 29)).cell? ⟨w.heap.size, 0, none⟩ = some (.int .i64 x.dir) ∧ (w.alloc (.cells CX 29)).cell? ⟨w.heap.size, 1, none⟩ = some (.int .i64 x.time) ∧ (w.alloc (.cells CX 29)).cell? ⟨w.heap.size, 2, none⟩ = some (.int .i64 x.gap) ∧ (w.alloc (.cells CX 29)).cell? ⟨w.heap.size, 3, none⟩ = some (.int .i64 x.plain) ∧ (w.alloc (.cells CX 29)).cell? ⟨w.heap.size, 4, none⟩ = some (.int .i64 x.turned)) := Lib.hid ⟨a0, a1, a2, a3, a4⟩
      have HCS : Hid ((Try.prog.info? 29).map (·.size) = some CX.size) := Lib.hid (by rw [hsz]; exact HIC.out)
      clear hCX hsz a5
      generalize szX x = z at *
      go_enter Try.func27, Try.ntmps27
      go_wp2_with (first | (refine wpList_load_row rfl _ (.tmp 1) rfl w.heap.size rfl _ _ _ _ HK0.out Try.underlying29 rfl HCS.out ?_) | (go_at_call 11; (with_reducible refine (HS.out _).mono ?_); rintro e w2 ⟨rfl, b2⟩; have HB2 := Lib.hid (kF b2 HB0.out); have HK2 := Lib.hid ((b2.block _ (Array.getElem?_eq_some_iff.1 HK0.out).1).trans HK0.out); clear b2; obtain ⟨a0, a1, a2, a3, a4⟩ := keepA HK0.out HK2.out HA0.out) | (go_at_call 52; (with_reducible refine (HCT.out _).mono ?_); rintro e wz ⟨rfl, rfl⟩))
      go_ret
      exact ⟨by rw [HE.out]; rfl, HB2.out⟩
  · have HE : Hid (takesB x = false) := Lib.hid (decide_eq_false (by clear hsz a0 a1 a2 a3 a4 a5; simp only [idB, limB, decide_eq_true_eq] at *; omega))
    have d1 : (x.dir == 2) = false := by simpa using c0
    obtain ⟨CX, hCX⟩ : ∃ CX, chA x = CX := ⟨_, rfl⟩
    clear HX0
    rw [hCX] at HB0 HS a0 a1 a2 a3 a4 a5 hsz ⊢
    have HK0 : Hid ((w.alloc (.cells CX 29)).heap[w.heap.size]? = some (.cells CX 29 (0, 0))) := Lib.hid (heap_alloc_new w _)
    have HA0 : Hid ((w.alloc (.cells CX 29)).cell? ⟨w.heap.size, 0, none⟩ = some (.int .i64 x.dir) ∧ (w.alloc (.cells CX 29)).cell? ⟨w.heap.size, 1, none⟩ = some (.int .i64 x.time) ∧ (w.alloc (.cells CX 29)).cell? ⟨w.heap.size, 2, none⟩ = some (.int .i64 x.gap) ∧ (w.alloc (.cells CX 29)).cell? ⟨w.heap.size, 3, none⟩ = some (.int .i64 x.plain) ∧ (w.alloc (.cells CX 29)).cell? ⟨w.heap.size, 4, none⟩ = some (.int .i64 x.turned)) := Lib.hid ⟨a0, a1, a2, a3, a4⟩
    have HCS : Hid ((Try.prog.info? 29).map (·.size) = some CX.size) := Lib.hid (by rw [hsz]; exact HIC.out)
    clear hCX hsz a5
    generalize szX x = z at *
    go_enter Try.func27, Try.ntmps27
    go_wp2_with (first | (refine wpList_load_row rfl _ (.tmp 1) rfl w.heap.size rfl _ _ _ _ HK0.out Try.underlying29 rfl HCS.out ?_) | (go_at_call 11; (with_reducible refine (HS.out _).mono ?_); rintro e w2 ⟨rfl, b2⟩; have HB2 := Lib.hid (kF b2 HB0.out); have HK2 := Lib.hid ((b2.block _ (Array.getElem?_eq_some_iff.1 HK0.out).1).trans HK0.out); clear b2; obtain ⟨a0, a1, a2, a3, a4⟩ := keepA HK0.out HK2.out HA0.out))
    go_ret
    exact ⟨by rw [HE.out]; rfl, HB2.out⟩
end Go.Proofs.Ytllaajkpobpeiaa
