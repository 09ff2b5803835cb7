/- Tables of channels: which ones send, which ones take. -/
import Derived.Test.YtllaajkpobpeiaaOb
namespace Go.Proofs.Ytllaajkpobpeiaa
open Go.RowKit
set_option linter.unusedSimpArgs false
set_option linter.unusedVariables false

theorem wpList_load_row_want {P : Program} {ops : Array Oper} {rest : List Oper} {o : Oper} {a : Act} {w : World} {Q : Exit → Act → World → Prop} (hw : Region.wanted o (yielded ops a.tmps) = true) (ty : TypeId) (x : Operand) (ho : o.op = .load ty x)
    (g : Nat) (hx : a.eval x = .pointer (some ⟨g, 0, none⟩)) (t : TypeId) (cs : Array Value) (fr : Nat × Nat) (d : TypeDesc) (hg : w.heap[g]? = some (.cells cs t fr))
    (hu : P.underlying ty = some d) (hd : (match d with | .struct _ | .array _ _ => true | _ => false) = true) (hi : (P.info? ty).map (·.size) = some cs.size)
    (h : wpList P ops Q rest (a.put o.dst (.agg cs)) w) : wpList P ops Q (o :: rest) a w :=
  BigFrame.wpList_want hw fun K hK => wp_load_row ty x ho g hx t cs fr d hg hu hd hi (hK _ _ h)
def sendsB (x : ChV) : Bool := decide (x.dir = 1 ∧ (1 ≤ x.time ∧ x.time ≤ 65535) ∧ (1 ≤ szX x ∧ szX x ≤ 8) ∧ idB x.plain = true ∧ idB x.turned = true)
def takesB (x : ChV) : Bool := decide (x.dir = 2 ∧ limB x.time = true ∧ limB x.gap = true ∧ (1 ≤ szX x ∧ szX x ≤ 8) ∧ idB x.plain = true ∧ idB x.turned = true ∧ ¬ x.plain = x.turned)
theorem keepA {w w' : World} {g : Nat} {CX : Array Value} {t : TypeId} {fr : Nat × Nat} {a b c d e : Value} (h : w.heap[g]? = some (.cells CX t fr)) (h' : w'.heap[g]? = some (.cells CX t fr)) (hA : w.cell? ⟨g, 0, none⟩ = some a ∧ w.cell? ⟨g, 1, none⟩ = some b ∧ w.cell? ⟨g, 2, none⟩ = some c ∧ w.cell? ⟨g, 3, none⟩ = some d ∧ w.cell? ⟨g, 4, none⟩ = some e) : w'.cell? ⟨g, 0, none⟩ = some a ∧ w'.cell? ⟨g, 1, none⟩ = some b ∧ w'.cell? ⟨g, 2, none⟩ = some c ∧ w'.cell? ⟨g, 3, none⟩ = some d ∧ w'.cell? ⟨g, 4, none⟩ = some e := by
  simp only [cell_of_row _ _ _ _ _ _ h] at hA
  simp only [cell_of_row _ _ _ _ _ _ h']
  exact hA
set_option maxRecDepth 100000 in
set_option maxHeartbeats 8000000 in
theorem psends_any (w : World) (x : ChV) : Calls Try.prog 12 #[.agg (chA x)] w fun e w' => e = .returned (.bool (sendsB x)) ∧ Below w.heap.size w w' := by
  have hb0 : Below w.heap.size w (w.alloc (.cells (chA x) 29)) := (Below.refl _ _).alloc (Nat.le_refl _) _
  have hx0 : ChAt (w.alloc (.cells (chA x) 29)) w.heap.size x := heap_alloc_new w _
  have HB0 := Lib.hid hb0
  have HX0 := Lib.hid hx0
  obtain ⟨a0, a1, a2, a3, a4, a5⟩ := hx0.cells
  have hsz := chA_size x
  clear hb0 hx0
  have HS := Lib.hid (fun w => xsize_any w x)
  have hz := szX_rng x
  have HIC := Lib.hid info_chan
  by_cases c0 : x.dir = 1
  · by_cases c1 : 1 ≤ x.time
    · by_cases c2 : x.time ≤ 65535
      · by_cases c3 : 1 ≤ szX x
        · by_cases c4 : szX x ≤ 8
          · by_cases c5 : idB x.plain = true
            · by_cases c6 : idB x.turned = true
              · have HE : Hid (sendsB x = true) := Lib.hid (decide_eq_true (by simp only [idB, limB, decide_eq_true_eq] at *; omega))
                have d1 : (x.dir == 1) = true := by simpa using c0
                have HCP := Lib.hid (fun w => pid_any x.plain w)
                rw [c5] at HCP
                clear c5
                have HCQ := Lib.hid (fun w => pid_any x.turned w)
                rw [c6] at HCQ
                clear c6
                obtain ⟨CX, hCX⟩ : ∃ CX, chA x = CX := ⟨_, rfl⟩
                clear HX0
                rw [hCX] at HB0 HS a0 a1 a2 a3 a4 a5 hsz ⊢
                have HK0 : Hid ((w.alloc (.cells CX 29)).heap[w.heap.size]? = some (.cells CX 29 (0, 0))) := Lib.hid (heap_alloc_new w _)
                have HA0 : Hid ((w.alloc (.cells CX 29)).cell? ⟨w.heap.size, 0, none⟩ = some (.int .i64 x.dir) ∧ (w.alloc (.cells CX 29)).cell? ⟨w.heap.size, 1, none⟩ = some (.int .i64 x.time) ∧ (w.alloc (.cells CX 29)).cell? ⟨w.heap.size, 2, none⟩ = some (.int .i64 x.gap) ∧ (w.alloc (.cells CX 29)).cell? ⟨w.heap.size, 3, none⟩ = some (.int .i64 x.plain) ∧ (w.alloc (.cells CX 29)).cell? ⟨w.heap.size, 4, none⟩ = some (.int .i64 x.turned)) := Lib.hid ⟨a0, a1, a2, a3, a4⟩
                have HCS : Hid ((Try.prog.info? 29).map (·.size) = some CX.size) := Lib.hid (by rw [hsz]; exact HIC.out)
                clear hCX hsz a5
                generalize szX x = z at *
                go_enter Try.func12, Try.ntmps12
                go_wp2_with (first | (refine wpList_load_row rfl _ (.tmp 1) rfl w.heap.size rfl _ _ _ _ HK0.out Try.underlying29 rfl HCS.out ?_) | (go_at_call 10; (with_reducible refine (HS.out _).mono ?_); rintro e w2 ⟨rfl, b2⟩; have HB2 := Lib.hid (kF b2 HB0.out); have HK2 := Lib.hid ((b2.block _ (Array.getElem?_eq_some_iff.1 HK0.out).1).trans HK0.out); clear b2; obtain ⟨a0, a1, a2, a3, a4⟩ := keepA HK0.out HK2.out HA0.out) | (go_at_call 44; (with_reducible refine (HCP.out _).mono ?_); rintro e wz ⟨rfl, rfl⟩) | (go_at_call 44; (with_reducible refine (HCQ.out _).mono ?_); rintro e wz ⟨rfl, rfl⟩))
                go_ret
                exact ⟨by rw [HE.out]; rfl, HB2.out⟩
              · have HE : Hid (sendsB x = false) := Lib.hid (decide_eq_false (by clear hsz a0 a1 a2 a3 a4 a5; simp only [idB, limB, decide_eq_true_eq] at *; omega))
                have d1 : (x.dir == 1) = true := by simpa using c0
                have HCP := Lib.hid (fun w => pid_any x.plain w)
                rw [c5] at HCP
                clear c5
                have HCQ := Lib.hid (fun w => pid_any x.turned w)
                rw [(Bool.not_eq_true _).mp c6] at HCQ
                clear c6
                obtain ⟨CX, hCX⟩ : ∃ CX, chA x = CX := ⟨_, rfl⟩
                clear HX0
                rw [hCX] at HB0 HS a0 a1 a2 a3 a4 a5 hsz ⊢
                have HK0 : Hid ((w.alloc (.cells CX 29)).heap[w.heap.size]? = some (.cells CX 29 (0, 0))) := Lib.hid (heap_alloc_new w _)
                have HA0 : Hid ((w.alloc (.cells CX 29)).cell? ⟨w.heap.size, 0, none⟩ = some (.int .i64 x.dir) ∧ (w.alloc (.cells CX 29)).cell? ⟨w.heap.size, 1, none⟩ = some (.int .i64 x.time) ∧ (w.alloc (.cells CX 29)).cell? ⟨w.heap.size, 2, none⟩ = some (.int .i64 x.gap) ∧ (w.alloc (.cells CX 29)).cell? ⟨w.heap.size, 3, none⟩ = some (.int .i64 x.plain) ∧ (w.alloc (.cells CX 29)).cell? ⟨w.heap.size, 4, none⟩ = some (.int .i64 x.turned)) := Lib.hid ⟨a0, a1, a2, a3, a4⟩
                have HCS : Hid ((Try.prog.info? 29).map (·.size) = some CX.size) := Lib.hid (by rw [hsz]; exact HIC.out)
                clear hCX hsz a5
                generalize szX x = z at *
                go_enter Try.func12, Try.ntmps12
                go_wp2_with (first | (refine wpList_load_row rfl _ (.tmp 1) rfl w.heap.size rfl _ _ _ _ HK0.out Try.underlying29 rfl HCS.out ?_) | (go_at_call 10; (with_reducible refine (HS.out _).mono ?_); rintro e w2 ⟨rfl, b2⟩; have HB2 := Lib.hid (kF b2 HB0.out); have HK2 := Lib.hid ((b2.block _ (Array.getElem?_eq_some_iff.1 HK0.out).1).trans HK0.out); clear b2; obtain ⟨a0, a1, a2, a3, a4⟩ := keepA HK0.out HK2.out HA0.out) | (go_at_call 44; (with_reducible refine (HCP.out _).mono ?_); rintro e wz ⟨rfl, rfl⟩) | (go_at_call 44; (with_reducible refine (HCQ.out _).mono ?_); rintro e wz ⟨rfl, rfl⟩))
                go_ret
                exact ⟨by rw [HE.out]; rfl, HB2.out⟩
            · have HE : Hid (sendsB x = false) := Lib.hid (decide_eq_false (by clear hsz a0 a1 a2 a3 a4 a5; simp only [idB, limB, decide_eq_true_eq] at *; omega))
              have d1 : (x.dir == 1) = true := by simpa using c0
              have HCP := Lib.hid (fun w => pid_any x.plain w)
              rw [(Bool.not_eq_true _).mp c5] at HCP
              clear c5
              obtain ⟨CX, hCX⟩ : ∃ CX, chA x = CX := ⟨_, rfl⟩
              clear HX0
              rw [hCX] at HB0 HS a0 a1 a2 a3 a4 a5 hsz ⊢
              have HK0 : Hid ((w.alloc (.cells CX 29)).heap[w.heap.size]? = some (.cells CX 29 (0, 0))) := Lib.hid (heap_alloc_new w _)
              have HA0 : Hid ((w.alloc (.cells CX 29)).cell? ⟨w.heap.size, 0, none⟩ = some (.int .i64 x.dir) ∧ (w.alloc (.cells CX 29)).cell? ⟨w.heap.size, 1, none⟩ = some (.int .i64 x.time) ∧ (w.alloc (.cells CX 29)).cell? ⟨w.heap.size, 2, none⟩ = some (.int .i64 x.gap) ∧ (w.alloc (.cells CX 29)).cell? ⟨w.heap.size, 3, none⟩ = some (.int .i64 x.plain) ∧ (w.alloc (.cells CX 29)).cell? ⟨w.heap.size, 4, none⟩ = some (.int .i64 x.turned)) := Lib.hid ⟨a0, a1, a2, a3, a4⟩
              have HCS : Hid ((Try.prog.info? 29).map (·.size) = some CX.size) := Lib.hid (by rw [hsz]; exact HIC.out)
              clear hCX hsz a5
              generalize szX x = z at *
              go_enter Try.func12, Try.ntmps12
              go_wp2_with (first | (refine wpList_load_row rfl _ (.tmp 1) rfl w.heap.size rfl _ _ _ _ HK0.out Try.underlying29 rfl HCS.out ?_) | (go_at_call 10; (with_reducible refine (HS.out _).mono ?_); rintro e w2 ⟨rfl, b2⟩; have HB2 := Lib.hid (kF b2 HB0.out); have HK2 := Lib.hid ((b2.block _ (Array.getElem?_eq_some_iff.1 HK0.out).1).trans HK0.out); clear b2; obtain ⟨a0, a1, a2, a3, a4⟩ := keepA HK0.out HK2.out HA0.out) | (go_at_call 44; (with_reducible refine (HCP.out _).mono ?_); rintro e wz ⟨rfl, rfl⟩))
              go_ret
              exact ⟨by rw [HE.out]; rfl, HB2.out⟩
          · have HE : Hid (sendsB x = false) := Lib.hid (decide_eq_false (by clear hsz a0 a1 a2 a3 a4 a5; simp only [idB, limB, decide_eq_true_eq] at *; omega))
            have d1 : (x.dir == 1) = true := by simpa using c0
            obtain ⟨CX, hCX⟩ : ∃ CX, chA x = CX := ⟨_, rfl⟩
            clear HX0
            rw [hCX] at HB0 HS a0 a1 a2 a3 a4 a5 hsz ⊢
            have HK0 : Hid ((w.alloc (.cells CX 29)).heap[w.heap.size]? = some (.cells CX 29 (0, 0))) := Lib.hid (heap_alloc_new w _)
            have HA0 : Hid ((w.alloc (.cells CX 29)).cell? ⟨w.heap.size, 0, none⟩ = some (.int .i64 x.dir) ∧ (w.alloc (.cells CX 29)).cell? ⟨w.heap.size, 1, none⟩ = some (.int .i64 x.time) ∧ (w.alloc (.cells CX 29)).cell? ⟨w.heap.size, 2, none⟩ = some (.int .i64 x.gap) ∧ (w.alloc (.cells CX 29)).cell? ⟨w.heap.size, 3, none⟩ = some (.int .i64 x.plain) ∧ (w.alloc (.cells CX 29)).cell? ⟨w.heap.size, 4, none⟩ = some (.int .i64 x.turned)) := Lib.hid ⟨a0, a1, a2, a3, a4⟩
            have HCS : Hid ((Try.prog.info? 29).map (·.size) = some CX.size) := Lib.hid (by rw [hsz]; exact HIC.out)
            clear hCX hsz a5
            generalize szX x = z at *
            go_enter Try.func12, Try.ntmps12
            go_wp2_with (first | (refine wpList_load_row rfl _ (.tmp 1) rfl w.heap.size rfl _ _ _ _ HK0.out Try.underlying29 rfl HCS.out ?_) | (go_at_call 10; (with_reducible refine (HS.out _).mono ?_); rintro e w2 ⟨rfl, b2⟩; have HB2 := Lib.hid (kF b2 HB0.out); have HK2 := Lib.hid ((b2.block _ (Array.getElem?_eq_some_iff.1 HK0.out).1).trans HK0.out); clear b2; obtain ⟨a0, a1, a2, a3, a4⟩ := keepA HK0.out HK2.out HA0.out))
            go_ret
            exact ⟨by rw [HE.out]; rfl, HB2.out⟩
        · have HE : Hid (sendsB x = false) := Lib.hid (decide_eq_false (by clear hsz a0 a1 a2 a3 a4 a5; simp only [idB, limB, decide_eq_true_eq] at *; omega))
          have d1 : (x.dir == 1) = true := by simpa using c0
          obtain ⟨CX, hCX⟩ : ∃ CX, chA x = CX := ⟨_, rfl⟩
          clear HX0
          rw [hCX] at HB0 HS a0 a1 a2 a3 a4 a5 hsz ⊢
          have HK0 : Hid ((w.alloc (.cells CX 29)).heap[w.heap.size]? = some (.cells CX 29 (0, 0))) := Lib.hid (heap_alloc_new w _)
          have HA0 : Hid ((w.alloc (.cells CX 29)).cell? ⟨w.heap.size, 0, none⟩ = some (.int .i64 x.dir) ∧ (w.alloc (.cells CX 29)).cell? ⟨w.heap.size, 1, none⟩ = some (.int .i64 x.time) ∧ (w.alloc (.cells CX 29)).cell? ⟨w.heap.size, 2, none⟩ = some (.int .i64 x.gap) ∧ (w.alloc (.cells CX 29)).cell? ⟨w.heap.size, 3, none⟩ = some (.int .i64 x.plain) ∧ (w.alloc (.cells CX 29)).cell? ⟨w.heap.size, 4, none⟩ = some (.int .i64 x.turned)) := Lib.hid ⟨a0, a1, a2, a3, a4⟩
          have HCS : Hid ((Try.prog.info? 29).map (·.size) = some CX.size) := Lib.hid (by rw [hsz]; exact HIC.out)
          clear hCX hsz a5
          generalize szX x = z at *
          go_enter Try.func12, Try.ntmps12
          go_wp2_with (first | (refine wpList_load_row rfl _ (.tmp 1) rfl w.heap.size rfl _ _ _ _ HK0.out Try.underlying29 rfl HCS.out ?_) | (go_at_call 10; (with_reducible refine (HS.out _).mono ?_); rintro e w2 ⟨rfl, b2⟩; have HB2 := Lib.hid (kF b2 HB0.out); have HK2 := Lib.hid ((b2.block _ (Array.getElem?_eq_some_iff.1 HK0.out).1).trans HK0.out); clear b2; obtain ⟨a0, a1, a2, a3, a4⟩ := keepA HK0.out HK2.out HA0.out))
          go_ret
          exact ⟨by rw [HE.out]; rfl, HB2.out⟩
      · have HE : Hid (sendsB x = false) := Lib.hid (decide_eq_false (by clear hsz a0 a1 a2 a3 a4 a5; simp only [idB, limB, decide_eq_true_eq] at *; omega))
        have d1 : (x.dir == 1) = true := by simpa using c0
        obtain ⟨CX, hCX⟩ : ∃ CX, chA x = CX := ⟨_, rfl⟩
        clear HX0
        rw [hCX] at HB0 HS a0 a1 a2 a3 a4 a5 hsz ⊢
        have HK0 : Hid ((w.alloc (.cells CX 29)).heap[w.heap.size]? = some (.cells CX 29 (0, 0))) := Lib.hid (heap_alloc_new w _)
        have HA0 : Hid ((w.alloc (.cells CX 29)).cell? ⟨w.heap.size, 0, none⟩ = some (.int .i64 x.dir) ∧ (w.alloc (.cells CX 29)).cell? ⟨w.heap.size, 1, none⟩ = some (.int .i64 x.time) ∧ (w.alloc (.cells CX 29)).cell? ⟨w.heap.size, 2, none⟩ = some (.int .i64 x.gap) ∧ (w.alloc (.cells CX 29)).cell? ⟨w.heap.size, 3, none⟩ = some (.int .i64 x.plain) ∧ (w.alloc (.cells CX 29)).cell? ⟨w.heap.size, 4, none⟩ = some (.int .i64 x.turned)) := Lib.hid ⟨a0, a1, a2, a3, a4⟩
        have HCS : Hid ((Try.prog.info? 29).map (·.size) = some CX.size) := Lib.hid (by rw [hsz]; exact HIC.out)
        clear hCX hsz a5
        generalize szX x = z at *
        go_enter Try.func12, Try.ntmps12
        go_wp2_with (first | (refine wpList_load_row rfl _ (.tmp 1) rfl w.heap.size rfl _ _ _ _ HK0.out Try.underlying29 rfl HCS.out ?_) | (go_at_call 10; (with_reducible refine (HS.out _).mono ?_); rintro e w2 ⟨rfl, b2⟩; have HB2 := Lib.hid (kF b2 HB0.out); have HK2 := Lib.hid ((b2.block _ (Array.getElem?_eq_some_iff.1 HK0.out).1).trans HK0.out); clear b2; obtain ⟨a0, a1, a2, a3, a4⟩ := keepA HK0.out HK2.out HA0.out))
        go_ret
        exact ⟨by rw [HE.out]; rfl, HB2.out⟩
    · have HE : Hid (sendsB x = false) := Lib.hid (decide_eq_false (by clear hsz a0 a1 a2 a3 a4 a5; simp only [idB, limB, decide_eq_true_eq] at *; omega))
      have d1 : (x.dir == 1) = true := by simpa using c0
      obtain ⟨CX, hCX⟩ : ∃ CX, chA x = CX := ⟨_, rfl⟩
      clear HX0
      rw [hCX] at HB0 HS a0 a1 a2 a3 a4 a5 hsz ⊢
      have HK0 : Hid ((w.alloc (.cells CX 29)).heap[w.heap.size]? = some (.cells CX 29 (0, 0))) := Lib.hid (heap_alloc_new w _)
      have HA0 : Hid ((w.alloc (.cells CX 29)).cell? ⟨w.heap.size, 0, none⟩ = some (.int .i64 x.dir) ∧ (w.alloc (.cells CX 29)).cell? ⟨w.heap.size, 1, none⟩ = some (.int .i64 x.time) ∧ (w.alloc (.cells CX 29)).cell? ⟨w.heap.size, 2, none⟩ = some (.int .i64 x.gap) ∧ (w.alloc (.cells CX 29)).cell? ⟨w.heap.size, 3, none⟩ = some (.int .i64 x.plain) ∧ (w.alloc (.cells CX 29)).cell? ⟨w.heap.size, 4, none⟩ = some (.int .i64 x.turned)) := Lib.hid ⟨a0, a1, a2, a3, a4⟩
      have HCS : Hid ((Try.prog.info? 29).map (·.size) = some CX.size) := Lib.hid (by rw [hsz]; exact HIC.out)
      clear hCX hsz a5
      generalize szX x = z at *
      go_enter Try.func12, Try.ntmps12
      go_wp2_with (first | (refine wpList_load_row rfl _ (.tmp 1) rfl w.heap.size rfl _ _ _ _ HK0.out Try.underlying29 rfl HCS.out ?_) | (go_at_call 10; (with_reducible refine (HS.out _).mono ?_); rintro e w2 ⟨rfl, b2⟩; have HB2 := Lib.hid (kF b2 HB0.out); have HK2 := Lib.hid ((b2.block _ (Array.getElem?_eq_some_iff.1 HK0.out).1).trans HK0.out); clear b2; obtain ⟨a0, a1, a2, a3, a4⟩ := keepA HK0.out HK2.out HA0.out))
      go_ret
      exact ⟨by rw [HE.out]; rfl, HB2.out⟩
  · have HE : Hid (sendsB x = false) := Lib.hid (decide_eq_false (by clear hsz a0 a1 a2 a3 a4 a5; simp only [idB, limB, decide_eq_true_eq] at *; omega))
    have d1 : (x.dir == 1) = false := by simpa using c0
    obtain ⟨CX, hCX⟩ : ∃ CX, chA x = CX := ⟨_, rfl⟩
    clear HX0
    rw [hCX] at HB0 HS a0 a1 a2 a3 a4 a5 hsz ⊢
    have HK0 : Hid ((w.alloc (.cells CX 29)).heap[w.heap.size]? = some (.cells CX 29 (0, 0))) := Lib.hid (heap_alloc_new w _)
    have HA0 : Hid ((w.alloc (.cells CX 29)).cell? ⟨w.heap.size, 0, none⟩ = some (.int .i64 x.dir) ∧ (w.alloc (.cells CX 29)).cell? ⟨w.heap.size, 1, none⟩ = some (.int .i64 x.time) ∧ (w.alloc (.cells CX 29)).cell? ⟨w.heap.size, 2, none⟩ = some (.int .i64 x.gap) ∧ (w.alloc (.cells CX 29)).cell? ⟨w.heap.size, 3, none⟩ = some (.int .i64 x.plain) ∧ (w.alloc (.cells CX 29)).cell? ⟨w.heap.size, 4, none⟩ = some (.int .i64 x.turned)) := Lib.hid ⟨a0, a1, a2, a3, a4⟩
    have HCS : Hid ((Try.prog.info? 29).map (·.size) = some CX.size) := Lib.hid (by rw [hsz]; exact HIC.out)
    clear hCX hsz a5
    generalize szX x = z at *
    go_enter Try.func12, Try.ntmps12
    go_wp2_with (first | (refine wpList_load_row rfl _ (.tmp 1) rfl w.heap.size rfl _ _ _ _ HK0.out Try.underlying29 rfl HCS.out ?_) | (go_at_call 10; (with_reducible refine (HS.out _).mono ?_); rintro e w2 ⟨rfl, b2⟩; have HB2 := Lib.hid (kF b2 HB0.out); have HK2 := Lib.hid ((b2.block _ (Array.getElem?_eq_some_iff.1 HK0.out).1).trans HK0.out); clear b2; obtain ⟨a0, a1, a2, a3, a4⟩ := keepA HK0.out HK2.out HA0.out))
    go_ret
    exact ⟨by rw [HE.out]; rfl, HB2.out⟩
set_option maxRecDepth 100000 in
set_option maxHeartbeats 8000000 in
theorem rsends_any (w : World) (x : ChV) : Calls Try.prog 13 #[.agg (chA x)] w fun e w' => e = .returned (.bool (sendsB x)) ∧ Below w.heap.size w w' := by
  have hb0 : Below w.heap.size w (w.alloc (.cells (chA x) 29)) := (Below.refl _ _).alloc (Nat.le_refl _) _
  have hx0 : ChAt (w.alloc (.cells (chA x) 29)) w.heap.size x := heap_alloc_new w _
  have HB0 := Lib.hid hb0
  have HX0 := Lib.hid hx0
  obtain ⟨a0, a1, a2, a3, a4, a5⟩ := hx0.cells
  have hsz := chA_size x
  clear hb0 hx0
  have HS := Lib.hid (fun w => rxsize_any w x)
  have hz := szX_rng x
  have HIC := Lib.hid info_chan
  by_cases c0 : x.dir = 1
  · by_cases c1 : 1 ≤ x.time
    · by_cases c2 : x.time ≤ 65535
      · by_cases c3 : 1 ≤ szX x
        · by_cases c4 : szX x ≤ 8
          · by_cases c5 : 0 ≤ x.plain
            · by_cases c6 : x.plain ≤ 2047
              · by_cases c7 : 0 ≤ x.turned
                · by_cases c8 : x.turned ≤ 2047
                  · have HE : Hid (sendsB x = true) := Lib.hid (decide_eq_true (by simp only [idB, limB, decide_eq_true_eq] at *; omega))
                    have d1 : (x.dir == 1) = true := by simpa using c0
                    have q1 : decide (x.time < 1) = false := decide_eq_false (by omega)
                    have q2 : decide (65535 < x.time) = false := decide_eq_false (by omega)
                    have q3 : decide (szX x < 1) = false := decide_eq_false (by omega)
                    have q4 : decide (8 < szX x) = false := decide_eq_false (by omega)
                    obtain ⟨CX, hCX⟩ : ∃ CX, chA x = CX := ⟨_, rfl⟩
                    clear HX0
                    rw [hCX] at HB0 HS a0 a1 a2 a3 a4 a5 hsz ⊢
                    have HK0 : Hid ((w.alloc (.cells CX 29)).heap[w.heap.size]? = some (.cells CX 29 (0, 0))) := Lib.hid (heap_alloc_new w _)
                    have HA0 : Hid ((w.alloc (.cells CX 29)).cell? ⟨w.heap.size, 0, none⟩ = some (.int .i64 x.dir) ∧ (w.alloc (.cells CX 29)).cell? ⟨w.heap.size, 1, none⟩ = some (.int .i64 x.time) ∧ (w.alloc (.cells CX 29)).cell? ⟨w.heap.size, 2, none⟩ = some (.int .i64 x.gap) ∧ (w.alloc (.cells CX 29)).cell? ⟨w.heap.size, 3, none⟩ = some (.int .i64 x.plain) ∧ (w.alloc (.cells CX 29)).cell? ⟨w.heap.size, 4, none⟩ = some (.int .i64 x.turned)) := Lib.hid ⟨a0, a1, a2, a3, a4⟩
                    have HCS : Hid ((Try.prog.info? 29).map (·.size) = some CX.size) := Lib.hid (by rw [hsz]; exact HIC.out)
                    clear hCX hsz a5
                    generalize szX x = z at *
                    go_enter Try.func13, Try.ntmps13
                    go_wp2_with (first | (refine wpList_load_row_want (by kernel_rfl) _ (.tmp 1) rfl w.heap.size rfl _ _ _ _ HK0.out Try.underlying29 rfl HCS.out ?_) | (go_at_call 11; (with_reducible refine (HS.out _).mono ?_); rintro e w2 ⟨rfl, b2⟩; have HB2 := Lib.hid (kF b2 HB0.out); have HK2 := Lib.hid ((b2.block _ (Array.getElem?_eq_some_iff.1 HK0.out).1).trans HK0.out); clear b2; obtain ⟨a0, a1, a2, a3, a4⟩ := keepA HK0.out HK2.out HA0.out) | (refine wpList_load_row_want (by kernel_rfl) _ (.tmp 1) rfl w.heap.size rfl _ _ _ _ HK2.out Try.underlying29 rfl HCS.out ?_) | (go_at_call 11; (with_reducible refine (HS.out _).mono ?_); rintro e w3 ⟨rfl, b3⟩; have HB3 := Lib.hid (kF b3 HB2.out); have HK3 := Lib.hid ((b3.block _ (Array.getElem?_eq_some_iff.1 HK2.out).1).trans HK2.out); clear b3; obtain ⟨a0, a1, a2, a3, a4⟩ := keepA HK2.out HK3.out ⟨a0, a1, a2, a3, a4⟩))
                    go_ret
                    exact ⟨by rw [HE.out]; rfl, HB3.out⟩
                  · have HE : Hid (sendsB x = false) := Lib.hid (decide_eq_false (by clear hsz a0 a1 a2 a3 a4 a5; simp only [idB, limB, decide_eq_true_eq] at *; omega))
                    have d1 : (x.dir == 1) = true := by simpa using c0
                    have q1 : decide (x.time < 1) = false := decide_eq_false (by omega)
                    have q2 : decide (65535 < x.time) = false := decide_eq_false (by omega)
                    have q3 : decide (szX x < 1) = false := decide_eq_false (by omega)
                    have q4 : decide (8 < szX x) = false := decide_eq_false (by omega)
                    have dl : decide (x.turned ≤ 2047) = false := decide_eq_false c8
                    obtain ⟨CX, hCX⟩ : ∃ CX, chA x = CX := ⟨_, rfl⟩
                    clear HX0
                    rw [hCX] at HB0 HS a0 a1 a2 a3 a4 a5 hsz ⊢
                    have HK0 : Hid ((w.alloc (.cells CX 29)).heap[w.heap.size]? = some (.cells CX 29 (0, 0))) := Lib.hid (heap_alloc_new w _)
                    have HA0 : Hid ((w.alloc (.cells CX 29)).cell? ⟨w.heap.size, 0, none⟩ = some (.int .i64 x.dir) ∧ (w.alloc (.cells CX 29)).cell? ⟨w.heap.size, 1, none⟩ = some (.int .i64 x.time) ∧ (w.alloc (.cells CX 29)).cell? ⟨w.heap.size, 2, none⟩ = some (.int .i64 x.gap) ∧ (w.alloc (.cells CX 29)).cell? ⟨w.heap.size, 3, none⟩ = some (.int .i64 x.plain) ∧ (w.alloc (.cells CX 29)).cell? ⟨w.heap.size, 4, none⟩ = some (.int .i64 x.turned)) := Lib.hid ⟨a0, a1, a2, a3, a4⟩
                    have HCS : Hid ((Try.prog.info? 29).map (·.size) = some CX.size) := Lib.hid (by rw [hsz]; exact HIC.out)
                    clear hCX hsz a5
                    generalize szX x = z at *
                    go_enter Try.func13, Try.ntmps13
                    go_wp2_with (first | (refine wpList_load_row_want (by kernel_rfl) _ (.tmp 1) rfl w.heap.size rfl _ _ _ _ HK0.out Try.underlying29 rfl HCS.out ?_) | (go_at_call 11; (with_reducible refine (HS.out _).mono ?_); rintro e w2 ⟨rfl, b2⟩; have HB2 := Lib.hid (kF b2 HB0.out); have HK2 := Lib.hid ((b2.block _ (Array.getElem?_eq_some_iff.1 HK0.out).1).trans HK0.out); clear b2; obtain ⟨a0, a1, a2, a3, a4⟩ := keepA HK0.out HK2.out HA0.out) | (refine wpList_load_row_want (by kernel_rfl) _ (.tmp 1) rfl w.heap.size rfl _ _ _ _ HK2.out Try.underlying29 rfl HCS.out ?_) | (go_at_call 11; (with_reducible refine (HS.out _).mono ?_); rintro e w3 ⟨rfl, b3⟩; have HB3 := Lib.hid (kF b3 HB2.out); have HK3 := Lib.hid ((b3.block _ (Array.getElem?_eq_some_iff.1 HK2.out).1).trans HK2.out); clear b3; obtain ⟨a0, a1, a2, a3, a4⟩ := keepA HK2.out HK3.out ⟨a0, a1, a2, a3, a4⟩))
                    go_ret
                    exact ⟨by rw [HE.out]; rfl, HB3.out⟩
                · have HE : Hid (sendsB x = false) := Lib.hid (decide_eq_false (by clear hsz a0 a1 a2 a3 a4 a5; simp only [idB, limB, decide_eq_true_eq] at *; omega))
                  have d1 : (x.dir == 1) = true := by simpa using c0
                  have q1 : decide (x.time < 1) = false := decide_eq_false (by omega)
                  have q2 : decide (65535 < x.time) = false := decide_eq_false (by omega)
                  have q3 : decide (szX x < 1) = false := decide_eq_false (by omega)
                  have q4 : decide (8 < szX x) = false := decide_eq_false (by omega)
                  obtain ⟨CX, hCX⟩ : ∃ CX, chA x = CX := ⟨_, rfl⟩
                  clear HX0
                  rw [hCX] at HB0 HS a0 a1 a2 a3 a4 a5 hsz ⊢
                  have HK0 : Hid ((w.alloc (.cells CX 29)).heap[w.heap.size]? = some (.cells CX 29 (0, 0))) := Lib.hid (heap_alloc_new w _)
                  have HA0 : Hid ((w.alloc (.cells CX 29)).cell? ⟨w.heap.size, 0, none⟩ = some (.int .i64 x.dir) ∧ (w.alloc (.cells CX 29)).cell? ⟨w.heap.size, 1, none⟩ = some (.int .i64 x.time) ∧ (w.alloc (.cells CX 29)).cell? ⟨w.heap.size, 2, none⟩ = some (.int .i64 x.gap) ∧ (w.alloc (.cells CX 29)).cell? ⟨w.heap.size, 3, none⟩ = some (.int .i64 x.plain) ∧ (w.alloc (.cells CX 29)).cell? ⟨w.heap.size, 4, none⟩ = some (.int .i64 x.turned)) := Lib.hid ⟨a0, a1, a2, a3, a4⟩
                  have HCS : Hid ((Try.prog.info? 29).map (·.size) = some CX.size) := Lib.hid (by rw [hsz]; exact HIC.out)
                  clear hCX hsz a5
                  generalize szX x = z at *
                  go_enter Try.func13, Try.ntmps13
                  go_wp2_with (first | (refine wpList_load_row_want (by kernel_rfl) _ (.tmp 1) rfl w.heap.size rfl _ _ _ _ HK0.out Try.underlying29 rfl HCS.out ?_) | (go_at_call 11; (with_reducible refine (HS.out _).mono ?_); rintro e w2 ⟨rfl, b2⟩; have HB2 := Lib.hid (kF b2 HB0.out); have HK2 := Lib.hid ((b2.block _ (Array.getElem?_eq_some_iff.1 HK0.out).1).trans HK0.out); clear b2; obtain ⟨a0, a1, a2, a3, a4⟩ := keepA HK0.out HK2.out HA0.out) | (refine wpList_load_row_want (by kernel_rfl) _ (.tmp 1) rfl w.heap.size rfl _ _ _ _ HK2.out Try.underlying29 rfl HCS.out ?_) | (go_at_call 11; (with_reducible refine (HS.out _).mono ?_); rintro e w3 ⟨rfl, b3⟩; have HB3 := Lib.hid (kF b3 HB2.out); have HK3 := Lib.hid ((b3.block _ (Array.getElem?_eq_some_iff.1 HK2.out).1).trans HK2.out); clear b3; obtain ⟨a0, a1, a2, a3, a4⟩ := keepA HK2.out HK3.out ⟨a0, a1, a2, a3, a4⟩))
                  go_ret
                  exact ⟨by rw [HE.out]; rfl, HB3.out⟩
              · have HE : Hid (sendsB x = false) := Lib.hid (decide_eq_false (by clear hsz a0 a1 a2 a3 a4 a5; simp only [idB, limB, decide_eq_true_eq] at *; omega))
                have d1 : (x.dir == 1) = true := by simpa using c0
                have q1 : decide (x.time < 1) = false := decide_eq_false (by omega)
                have q2 : decide (65535 < x.time) = false := decide_eq_false (by omega)
                have q3 : decide (szX x < 1) = false := decide_eq_false (by omega)
                have q4 : decide (8 < szX x) = false := decide_eq_false (by omega)
                obtain ⟨CX, hCX⟩ : ∃ CX, chA x = CX := ⟨_, rfl⟩
                clear HX0
                rw [hCX] at HB0 HS a0 a1 a2 a3 a4 a5 hsz ⊢
                have HK0 : Hid ((w.alloc (.cells CX 29)).heap[w.heap.size]? = some (.cells CX 29 (0, 0))) := Lib.hid (heap_alloc_new w _)
                have HA0 : Hid ((w.alloc (.cells CX 29)).cell? ⟨w.heap.size, 0, none⟩ = some (.int .i64 x.dir) ∧ (w.alloc (.cells CX 29)).cell? ⟨w.heap.size, 1, none⟩ = some (.int .i64 x.time) ∧ (w.alloc (.cells CX 29)).cell? ⟨w.heap.size, 2, none⟩ = some (.int .i64 x.gap) ∧ (w.alloc (.cells CX 29)).cell? ⟨w.heap.size, 3, none⟩ = some (.int .i64 x.plain) ∧ (w.alloc (.cells CX 29)).cell? ⟨w.heap.size, 4, none⟩ = some (.int .i64 x.turned)) := Lib.hid ⟨a0, a1, a2, a3, a4⟩
                have HCS : Hid ((Try.prog.info? 29).map (·.size) = some CX.size) := Lib.hid (by rw [hsz]; exact HIC.out)
                clear hCX hsz a5
                generalize szX x = z at *
                go_enter Try.func13, Try.ntmps13
                go_wp2_with (first | (refine wpList_load_row_want (by kernel_rfl) _ (.tmp 1) rfl w.heap.size rfl _ _ _ _ HK0.out Try.underlying29 rfl HCS.out ?_) | (go_at_call 11; (with_reducible refine (HS.out _).mono ?_); rintro e w2 ⟨rfl, b2⟩; have HB2 := Lib.hid (kF b2 HB0.out); have HK2 := Lib.hid ((b2.block _ (Array.getElem?_eq_some_iff.1 HK0.out).1).trans HK0.out); clear b2; obtain ⟨a0, a1, a2, a3, a4⟩ := keepA HK0.out HK2.out HA0.out) | (refine wpList_load_row_want (by kernel_rfl) _ (.tmp 1) rfl w.heap.size rfl _ _ _ _ HK2.out Try.underlying29 rfl HCS.out ?_) | (go_at_call 11; (with_reducible refine (HS.out _).mono ?_); rintro e w3 ⟨rfl, b3⟩; have HB3 := Lib.hid (kF b3 HB2.out); have HK3 := Lib.hid ((b3.block _ (Array.getElem?_eq_some_iff.1 HK2.out).1).trans HK2.out); clear b3; obtain ⟨a0, a1, a2, a3, a4⟩ := keepA HK2.out HK3.out ⟨a0, a1, a2, a3, a4⟩))
                go_ret
                exact ⟨by rw [HE.out]; rfl, HB3.out⟩
            · have HE : Hid (sendsB x = false) := Lib.hid (decide_eq_false (by clear hsz a0 a1 a2 a3 a4 a5; simp only [idB, limB, decide_eq_true_eq] at *; omega))
              have d1 : (x.dir == 1) = true := by simpa using c0
              have q1 : decide (x.time < 1) = false := decide_eq_false (by omega)
              have q2 : decide (65535 < x.time) = false := decide_eq_false (by omega)
              have q3 : decide (szX x < 1) = false := decide_eq_false (by omega)
              have q4 : decide (8 < szX x) = false := decide_eq_false (by omega)
              obtain ⟨CX, hCX⟩ : ∃ CX, chA x = CX := ⟨_, rfl⟩
              clear HX0
              rw [hCX] at HB0 HS a0 a1 a2 a3 a4 a5 hsz ⊢
              have HK0 : Hid ((w.alloc (.cells CX 29)).heap[w.heap.size]? = some (.cells CX 29 (0, 0))) := Lib.hid (heap_alloc_new w _)
              have HA0 : Hid ((w.alloc (.cells CX 29)).cell? ⟨w.heap.size, 0, none⟩ = some (.int .i64 x.dir) ∧ (w.alloc (.cells CX 29)).cell? ⟨w.heap.size, 1, none⟩ = some (.int .i64 x.time) ∧ (w.alloc (.cells CX 29)).cell? ⟨w.heap.size, 2, none⟩ = some (.int .i64 x.gap) ∧ (w.alloc (.cells CX 29)).cell? ⟨w.heap.size, 3, none⟩ = some (.int .i64 x.plain) ∧ (w.alloc (.cells CX 29)).cell? ⟨w.heap.size, 4, none⟩ = some (.int .i64 x.turned)) := Lib.hid ⟨a0, a1, a2, a3, a4⟩
              have HCS : Hid ((Try.prog.info? 29).map (·.size) = some CX.size) := Lib.hid (by rw [hsz]; exact HIC.out)
              clear hCX hsz a5
              generalize szX x = z at *
              go_enter Try.func13, Try.ntmps13
              go_wp2_with (first | (refine wpList_load_row_want (by kernel_rfl) _ (.tmp 1) rfl w.heap.size rfl _ _ _ _ HK0.out Try.underlying29 rfl HCS.out ?_) | (go_at_call 11; (with_reducible refine (HS.out _).mono ?_); rintro e w2 ⟨rfl, b2⟩; have HB2 := Lib.hid (kF b2 HB0.out); have HK2 := Lib.hid ((b2.block _ (Array.getElem?_eq_some_iff.1 HK0.out).1).trans HK0.out); clear b2; obtain ⟨a0, a1, a2, a3, a4⟩ := keepA HK0.out HK2.out HA0.out) | (refine wpList_load_row_want (by kernel_rfl) _ (.tmp 1) rfl w.heap.size rfl _ _ _ _ HK2.out Try.underlying29 rfl HCS.out ?_) | (go_at_call 11; (with_reducible refine (HS.out _).mono ?_); rintro e w3 ⟨rfl, b3⟩; have HB3 := Lib.hid (kF b3 HB2.out); have HK3 := Lib.hid ((b3.block _ (Array.getElem?_eq_some_iff.1 HK2.out).1).trans HK2.out); clear b3; obtain ⟨a0, a1, a2, a3, a4⟩ := keepA HK2.out HK3.out ⟨a0, a1, a2, a3, a4⟩))
              go_ret
              exact ⟨by rw [HE.out]; rfl, HB3.out⟩
          · have HE : Hid (sendsB x = false) := Lib.hid (decide_eq_false (by clear hsz a0 a1 a2 a3 a4 a5; simp only [idB, limB, decide_eq_true_eq] at *; omega))
            have d1 : (x.dir == 1) = true := by simpa using c0
            have q1 : decide (x.time < 1) = false := decide_eq_false (by omega)
            have q2 : decide (65535 < x.time) = false := decide_eq_false (by omega)
            have q3 : decide (szX x < 1) = false := decide_eq_false (by omega)
            have q4 : decide (8 < szX x) = true := decide_eq_true (by omega)
            obtain ⟨CX, hCX⟩ : ∃ CX, chA x = CX := ⟨_, rfl⟩
            clear HX0
            rw [hCX] at HB0 HS a0 a1 a2 a3 a4 a5 hsz ⊢
            have HK0 : Hid ((w.alloc (.cells CX 29)).heap[w.heap.size]? = some (.cells CX 29 (0, 0))) := Lib.hid (heap_alloc_new w _)
            have HA0 : Hid ((w.alloc (.cells CX 29)).cell? ⟨w.heap.size, 0, none⟩ = some (.int .i64 x.dir) ∧ (w.alloc (.cells CX 29)).cell? ⟨w.heap.size, 1, none⟩ = some (.int .i64 x.time) ∧ (w.alloc (.cells CX 29)).cell? ⟨w.heap.size, 2, none⟩ = some (.int .i64 x.gap) ∧ (w.alloc (.cells CX 29)).cell? ⟨w.heap.size, 3, none⟩ = some (.int .i64 x.plain) ∧ (w.alloc (.cells CX 29)).cell? ⟨w.heap.size, 4, none⟩ = some (.int .i64 x.turned)) := Lib.hid ⟨a0, a1, a2, a3, a4⟩
            have HCS : Hid ((Try.prog.info? 29).map (·.size) = some CX.size) := Lib.hid (by rw [hsz]; exact HIC.out)
            clear hCX hsz a5
            generalize szX x = z at *
            go_enter Try.func13, Try.ntmps13
            go_wp2_with (first | (refine wpList_load_row_want (by kernel_rfl) _ (.tmp 1) rfl w.heap.size rfl _ _ _ _ HK0.out Try.underlying29 rfl HCS.out ?_) | (go_at_call 11; (with_reducible refine (HS.out _).mono ?_); rintro e w2 ⟨rfl, b2⟩; have HB2 := Lib.hid (kF b2 HB0.out); have HK2 := Lib.hid ((b2.block _ (Array.getElem?_eq_some_iff.1 HK0.out).1).trans HK0.out); clear b2; obtain ⟨a0, a1, a2, a3, a4⟩ := keepA HK0.out HK2.out HA0.out) | (refine wpList_load_row_want (by kernel_rfl) _ (.tmp 1) rfl w.heap.size rfl _ _ _ _ HK2.out Try.underlying29 rfl HCS.out ?_) | (go_at_call 11; (with_reducible refine (HS.out _).mono ?_); rintro e w3 ⟨rfl, b3⟩; have HB3 := Lib.hid (kF b3 HB2.out); have HK3 := Lib.hid ((b3.block _ (Array.getElem?_eq_some_iff.1 HK2.out).1).trans HK2.out); clear b3; obtain ⟨a0, a1, a2, a3, a4⟩ := keepA HK2.out HK3.out ⟨a0, a1, a2, a3, a4⟩))
            go_ret
            exact ⟨by rw [HE.out]; rfl, HB3.out⟩
        · have HE : Hid (sendsB x = false) := Lib.hid (decide_eq_false (by clear hsz a0 a1 a2 a3 a4 a5; simp only [idB, limB, decide_eq_true_eq] at *; omega))
          have d1 : (x.dir == 1) = true := by simpa using c0
          have q1 : decide (x.time < 1) = false := decide_eq_false (by omega)
          have q2 : decide (65535 < x.time) = false := decide_eq_false (by omega)
          have q3 : decide (szX x < 1) = true := decide_eq_true (by omega)
          obtain ⟨CX, hCX⟩ : ∃ CX, chA x = CX := ⟨_, rfl⟩
          clear HX0
          rw [hCX] at HB0 HS a0 a1 a2 a3 a4 a5 hsz ⊢
          have HK0 : Hid ((w.alloc (.cells CX 29)).heap[w.heap.size]? = some (.cells CX 29 (0, 0))) := Lib.hid (heap_alloc_new w _)
          have HA0 : Hid ((w.alloc (.cells CX 29)).cell? ⟨w.heap.size, 0, none⟩ = some (.int .i64 x.dir) ∧ (w.alloc (.cells CX 29)).cell? ⟨w.heap.size, 1, none⟩ = some (.int .i64 x.time) ∧ (w.alloc (.cells CX 29)).cell? ⟨w.heap.size, 2, none⟩ = some (.int .i64 x.gap) ∧ (w.alloc (.cells CX 29)).cell? ⟨w.heap.size, 3, none⟩ = some (.int .i64 x.plain) ∧ (w.alloc (.cells CX 29)).cell? ⟨w.heap.size, 4, none⟩ = some (.int .i64 x.turned)) := Lib.hid ⟨a0, a1, a2, a3, a4⟩
          have HCS : Hid ((Try.prog.info? 29).map (·.size) = some CX.size) := Lib.hid (by rw [hsz]; exact HIC.out)
          clear hCX hsz a5
          generalize szX x = z at *
          go_enter Try.func13, Try.ntmps13
          go_wp2_with (first | (refine wpList_load_row_want (by kernel_rfl) _ (.tmp 1) rfl w.heap.size rfl _ _ _ _ HK0.out Try.underlying29 rfl HCS.out ?_) | (go_at_call 11; (with_reducible refine (HS.out _).mono ?_); rintro e w2 ⟨rfl, b2⟩; have HB2 := Lib.hid (kF b2 HB0.out); have HK2 := Lib.hid ((b2.block _ (Array.getElem?_eq_some_iff.1 HK0.out).1).trans HK0.out); clear b2; obtain ⟨a0, a1, a2, a3, a4⟩ := keepA HK0.out HK2.out HA0.out))
          go_ret
          exact ⟨by rw [HE.out]; rfl, HB2.out⟩
      · have HE : Hid (sendsB x = false) := Lib.hid (decide_eq_false (by clear hsz a0 a1 a2 a3 a4 a5; simp only [idB, limB, decide_eq_true_eq] at *; omega))
        have d1 : (x.dir == 1) = true := by simpa using c0
        have q1 : decide (x.time < 1) = false := decide_eq_false (by omega)
        have q2 : decide (65535 < x.time) = true := decide_eq_true (by omega)
        obtain ⟨CX, hCX⟩ : ∃ CX, chA x = CX := ⟨_, rfl⟩
        clear HX0
        rw [hCX] at HB0 HS a0 a1 a2 a3 a4 a5 hsz ⊢
        have HK0 : Hid ((w.alloc (.cells CX 29)).heap[w.heap.size]? = some (.cells CX 29 (0, 0))) := Lib.hid (heap_alloc_new w _)
        have HA0 : Hid ((w.alloc (.cells CX 29)).cell? ⟨w.heap.size, 0, none⟩ = some (.int .i64 x.dir) ∧ (w.alloc (.cells CX 29)).cell? ⟨w.heap.size, 1, none⟩ = some (.int .i64 x.time) ∧ (w.alloc (.cells CX 29)).cell? ⟨w.heap.size, 2, none⟩ = some (.int .i64 x.gap) ∧ (w.alloc (.cells CX 29)).cell? ⟨w.heap.size, 3, none⟩ = some (.int .i64 x.plain) ∧ (w.alloc (.cells CX 29)).cell? ⟨w.heap.size, 4, none⟩ = some (.int .i64 x.turned)) := Lib.hid ⟨a0, a1, a2, a3, a4⟩
        have HCS : Hid ((Try.prog.info? 29).map (·.size) = some CX.size) := Lib.hid (by rw [hsz]; exact HIC.out)
        clear hCX hsz a5
        generalize szX x = z at *
        go_enter Try.func13, Try.ntmps13
        go_wp2_with fail
        go_ret
        exact ⟨by rw [HE.out]; rfl, HB0.out⟩
    · have HE : Hid (sendsB x = false) := Lib.hid (decide_eq_false (by clear hsz a0 a1 a2 a3 a4 a5; simp only [idB, limB, decide_eq_true_eq] at *; omega))
      have d1 : (x.dir == 1) = true := by simpa using c0
      have q1 : decide (x.time < 1) = true := decide_eq_true (by omega)
      obtain ⟨CX, hCX⟩ : ∃ CX, chA x = CX := ⟨_, rfl⟩
      clear HX0
      rw [hCX] at HB0 HS a0 a1 a2 a3 a4 a5 hsz ⊢
      have HK0 : Hid ((w.alloc (.cells CX 29)).heap[w.heap.size]? = some (.cells CX 29 (0, 0))) := Lib.hid (heap_alloc_new w _)
      have HA0 : Hid ((w.alloc (.cells CX 29)).cell? ⟨w.heap.size, 0, none⟩ = some (.int .i64 x.dir) ∧ (w.alloc (.cells CX 29)).cell? ⟨w.heap.size, 1, none⟩ = some (.int .i64 x.time) ∧ (w.alloc (.cells CX 29)).cell? ⟨w.heap.size, 2, none⟩ = some (.int .i64 x.gap) ∧ (w.alloc (.cells CX 29)).cell? ⟨w.heap.size, 3, none⟩ = some (.int .i64 x.plain) ∧ (w.alloc (.cells CX 29)).cell? ⟨w.heap.size, 4, none⟩ = some (.int .i64 x.turned)) := Lib.hid ⟨a0, a1, a2, a3, a4⟩
      have HCS : Hid ((Try.prog.info? 29).map (·.size) = some CX.size) := Lib.hid (by rw [hsz]; exact HIC.out)
      clear hCX hsz a5
      generalize szX x = z at *
      go_enter Try.func13, Try.ntmps13
      go_wp2_with fail
      go_ret
      exact ⟨by rw [HE.out]; rfl, HB0.out⟩
  · have HE : Hid (sendsB x = false) := Lib.hid (decide_eq_false (by clear hsz a0 a1 a2 a3 a4 a5; simp only [idB, limB, decide_eq_true_eq] at *; omega))
    have d1 : (x.dir == 1) = false := by simpa using c0
    obtain ⟨CX, hCX⟩ : ∃ CX, chA x = CX := ⟨_, rfl⟩
    clear HX0
    rw [hCX] at HB0 HS a0 a1 a2 a3 a4 a5 hsz ⊢
    have HK0 : Hid ((w.alloc (.cells CX 29)).heap[w.heap.size]? = some (.cells CX 29 (0, 0))) := Lib.hid (heap_alloc_new w _)
    have HA0 : Hid ((w.alloc (.cells CX 29)).cell? ⟨w.heap.size, 0, none⟩ = some (.int .i64 x.dir) ∧ (w.alloc (.cells CX 29)).cell? ⟨w.heap.size, 1, none⟩ = some (.int .i64 x.time) ∧ (w.alloc (.cells CX 29)).cell? ⟨w.heap.size, 2, none⟩ = some (.int .i64 x.gap) ∧ (w.alloc (.cells CX 29)).cell? ⟨w.heap.size, 3, none⟩ = some (.int .i64 x.plain) ∧ (w.alloc (.cells CX 29)).cell? ⟨w.heap.size, 4, none⟩ = some (.int .i64 x.turned)) := Lib.hid ⟨a0, a1, a2, a3, a4⟩
    have HCS : Hid ((Try.prog.info? 29).map (·.size) = some CX.size) := Lib.hid (by rw [hsz]; exact HIC.out)
    clear hCX hsz a5
    generalize szX x = z at *
    go_enter Try.func13, Try.ntmps13
    go_wp2_with fail
    go_ret
    exact ⟨by rw [HE.out]; rfl, HB0.out⟩
end Go.Proofs.Ytllaajkpobpeiaa
