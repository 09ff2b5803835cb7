/- nmt: verbs, orders, numbers of nodes, services. -/
import Derived.Test.YtnijdcbpllmieaaNRng
namespace Go.Proofs.Ytnijdcbpllmieaa
open Go.RowKit
set_option linter.unusedSimpArgs false
set_option linter.unusedVariables false

def isNI (n : Int) : Bool := decide (1 ≤ n ∧ n ≤ 127)
def isVb (v : Int) : Bool := decide (v = 1 ∨ v = 2 ∨ v = 128 ∨ v = 129 ∨ v = 130)
def mdOf (v : Int) : Int := if v = 1 then 5 else if v = 2 then 4 else if v = 128 then 127 else 0
def mayO (v n : Int) : Bool := isVb v && decide (0 ≤ n ∧ n ≤ 127)
theorem vb_cases (v : Int) : v = 1 ∨ v = 2 ∨ v = 128 ∨ v = 129 ∨ v = 130 ∨ (¬ v = 1 ∧ ¬ v = 2 ∧ ¬ v = 128 ∧ ¬ v = 129 ∧ ¬ v = 130) := by omega
theorem vb_other {v : Int} (h : ¬ v = 1 ∧ ¬ v = 2 ∧ ¬ v = 128 ∧ ¬ v = 129 ∧ ¬ v = 130) : isVb v = false ∧ mdOf v = 0 := by
  obtain ⟨h1, h2, h3, h4, h5⟩ := h
  simp [isVb, mdOf, h1, h2, h3, h4, h5]
theorem mayO_yes {v n : Int} (h : mayO v n = true) : (v = 1 ∨ v = 2 ∨ v = 128 ∨ v = 129 ∨ v = 130) ∧ 0 ≤ n ∧ n ≤ 127 := by
  simpa [mayO, isVb] using h
theorem mayO_mk {v n : Int} (h : isVb v = true) (h0 : 0 ≤ n) (h1 : n ≤ 127) : mayO v n = true := by simp [mayO, h, h0, h1]
theorem isN_yes {n : Int} (h0 : 1 ≤ n) (h1 : n ≤ 127) : isNI n = true := by simp [isNI, h0, h1]
theorem isN_no {n : Int} (h : n < 1 ∨ 127 < n) : isNI n = false := by unfold isNI; exact decide_eq_false (by omega)

theorem isnode_any (n : Int) (w : World) : Calls Try.prog 26 #[.int .i64 n] w fun e w' => e = .returned (.bool (isNI n)) ∧ w = w' := by
  by_cases h1 : 1 ≤ n
  · by_cases h2 : n ≤ 127
    · rw [isN_yes h1 h2]
      go_enter Try.func26, Try.ntmps26
      go_wp2
      go_ret
      exact ⟨rfl, rfl⟩
    · rw [isN_no (n := n) (by omega)]
      go_enter Try.func26, Try.ntmps26
      go_wp2
      go_ret
      exact ⟨rfl, rfl⟩
  · rw [isN_no (n := n) (by omega)]
    go_enter Try.func26, Try.ntmps26
    go_wp2
    go_ret
    exact ⟨rfl, rfl⟩
theorem behind_any (v : Int) (w : World) : Calls Try.prog 27 #[.int .i64 v] w fun e w' => e = .returned (.tuple #[.int .i64 (mdOf v), .bool (isVb v)]) ∧ w = w' := by
  rcases vb_cases v with rfl | rfl | rfl | rfl | rfl | h
  case inr.inr.inr.inr.inr =>
    rw [(vb_other h).1, (vb_other h).2]
    obtain ⟨h1, h2, h3, h4, h5⟩ := h
    go_enter Try.func27, Try.ntmps27
    go_wp2
    go_ret2
    exact ⟨rfl, rfl⟩
  all_goals
    go_enter Try.func27, Try.ntmps27
    go_wp2
    go_ret2
    exact ⟨rfl, rfl⟩
theorem may_any (v n : Int) (w : World) : Calls Try.prog 23 #[.agg #[.int .i64 v, .int .i64 n]] w fun e w' => e = .returned (.bool (mayO v n)) ∧ Below w.heap.size w w' := by
  have hB := behind_any v
  by_cases hv : isVb v = true
  · rw [hv] at hB
    by_cases h0 : n = 0
    · subst h0
      rw [mayO_mk hv (by omega) (by omega)]
      have HB := Lib.hid hB
      clear hB hv
      go_enter Try.func23, Try.ntmps23
      go_wp2_with (go_at_call 27; refine (HB.out _).mono ?_; rintro e w' ⟨rfl, rfl⟩)
      all_goals first | (exfalso; omega) | (go_ret; exact ⟨rfl, by go_grown⟩)
    · have hN := isnode_any n
      have e : mayO v n = isNI n := by
        unfold mayO isNI; rw [hv, Bool.true_and]; exact decide_eq_decide.2 (by omega)
      rw [e]
      have t : (n == 0) = false := by simpa using h0
      generalize isNI n = q at hN
      have HB := Lib.hid hB
      have HN := Lib.hid hN
      clear hB hv hN e
      go_enter Try.func23, Try.ntmps23
      go_wp2_with (first | (go_at_call 27; refine (HB.out _).mono ?_; rintro e w' ⟨rfl, rfl⟩) | (go_at_call 26; refine (HN.out _).mono ?_; rintro e w' ⟨rfl, rfl⟩))
      all_goals first | (exfalso; omega) | (go_ret; exact ⟨by simp, by go_grown⟩)
  · have hv' : isVb v = false := by simpa using hv
    rw [hv'] at hB
    have e : mayO v n = false := by simp [mayO, hv']
    rw [e]
    have HB := Lib.hid hB
    clear hB hv hv' e
    go_enter Try.func23, Try.ntmps23
    go_wp2_with (go_at_call 27; refine (HB.out _).mono ?_; rintro e w' ⟨rfl, rfl⟩)
    all_goals first | (exfalso; omega) | (go_ret; exact ⟨rfl, by go_grown⟩)
theorem rmay_any (v n : Int) (w : World) : Calls Try.prog 8 #[.agg #[.int .i64 v, .int .i64 n]] w fun e w' => e = .returned (.bool (mayO v n)) ∧ Below w.heap.size w w' := by
  by_cases hn : 0 ≤ n
  · by_cases hn2 : n ≤ 127
    · rcases vb_cases v with rfl | rfl | rfl | rfl | rfl | h
      case inr.inr.inr.inr.inr =>
        rw [show mayO v n = false by simp [mayO, (vb_other h).1]]
        obtain ⟨h1, h2, h3, h4, h5⟩ := h
        go_enter Try.func8, Try.ntmps8
        go_wp2
        all_goals first | (exfalso; omega) | (go_ret; exact ⟨rfl, by go_grown⟩)
      all_goals
        rw [mayO_mk (by decide) hn hn2]
        go_enter Try.func8, Try.ntmps8
        go_wp2
        all_goals first | (exfalso; omega) | (go_ret; exact ⟨rfl, by go_grown⟩)
    · rw [show mayO v n = false by simp [mayO, hn2]]
      go_enter Try.func8, Try.ntmps8
      go_wp2
      all_goals first | (exfalso; omega) | (go_ret; exact ⟨rfl, by go_grown⟩)
  · rw [show mayO v n = false by simp [mayO, hn]]
    go_enter Try.func8, Try.ntmps8
    go_wp2
    all_goals first | (exfalso; omega) | (go_ret; exact ⟨rfl, by go_grown⟩)

/-- What a node may do in a mode. -/
def maySv (m s : Int) : Bool := if m = 5 then decide (1 ≤ s ∧ s ≤ 5) else if m = 127 then decide (1 ≤ s ∧ s ≤ 3) else if m = 4 then decide (s = 1) else false
theorem md_cases (m : Int) : m = 5 ∨ m = 127 ∨ m = 4 ∨ (¬ m = 5 ∧ ¬ m = 127 ∧ ¬ m = 4) := by omega
theorem sv_cases (s : Int) : s < 1 ∨ 5 < s ∨ s = 1 ∨ s = 2 ∨ s = 3 ∨ s = 4 ∨ s = 5 := by omega
theorem maySv_other {m : Int} (s : Int) (h : ¬ m = 5 ∧ ¬ m = 127 ∧ ¬ m = 4) : maySv m s = false := by
  unfold maySv; rw [if_neg h.1, if_neg h.2.1, if_neg h.2.2]
theorem maySv_out (m : Int) {s : Int} (h : s < 1 ∨ 5 < s) : maySv m s = false := by
  unfold maySv; (repeat' split) <;> first | rfl | exact decide_eq_false (by omega)
theorem mayS_any (m s : Int) (w : World) : Calls Try.prog 19 #[.int .i64 m, .int .i64 s] w fun e w' => e = .returned (.bool (maySv m s)) ∧ w = w' := by
  rcases md_cases m with rfl | rfl | rfl | h
  case inr.inr.inr =>
    rw [maySv_other s h]
    obtain ⟨h1, h2, h3⟩ := h
    go_enter Try.func19, Try.ntmps19
    go_wp2
    go_ret
    exact ⟨rfl, rfl⟩
  all_goals
    rcases sv_cases s with h | h | rfl | rfl | rfl | rfl | rfl
    case inl =>
      rw [maySv_out _ (.inl h)]
      have h1 : (s == 1) = false := by simpa using (show ¬ s = 1 by omega)
      have h2 : (s == 2) = false := by simpa using (show ¬ s = 2 by omega)
      have h3 : (s == 3) = false := by simpa using (show ¬ s = 3 by omega)
      have h4 : (s == 4) = false := by simpa using (show ¬ s = 4 by omega)
      have h5 : (s == 5) = false := by simpa using (show ¬ s = 5 by omega)
      clear h
      go_enter Try.func19, Try.ntmps19
      go_wp2
      go_ret
      exact ⟨rfl, rfl⟩
    case inr.inl =>
      rw [maySv_out _ (.inr h)]
      have h1 : (s == 1) = false := by simpa using (show ¬ s = 1 by omega)
      have h2 : (s == 2) = false := by simpa using (show ¬ s = 2 by omega)
      have h3 : (s == 3) = false := by simpa using (show ¬ s = 3 by omega)
      have h4 : (s == 4) = false := by simpa using (show ¬ s = 4 by omega)
      have h5 : (s == 5) = false := by simpa using (show ¬ s = 5 by omega)
      clear h
      go_enter Try.func19, Try.ntmps19
      go_wp2
      go_ret
      exact ⟨rfl, rfl⟩
    all_goals
      go_enter Try.func19, Try.ntmps19
      go_wp2
      go_ret
      exact ⟨rfl, rfl⟩
theorem does_any (m s : Int) (w : World) : Calls Try.prog 20 #[.int .i64 m, .int .i64 s] w fun e w' => e = .returned (.bool (maySv m s)) ∧ w = w' := by
  rcases sv_cases s with h | h | hs
  case inl => rw [maySv_out m (.inl h)]; go_enter Try.func20, Try.ntmps20; go_wp2; go_ret; exact ⟨rfl, rfl⟩
  case inr.inl =>
    rw [maySv_out m (.inr h)]
    have h1 : ¬ s < 1 := by omega
    go_enter Try.func20, Try.ntmps20; go_wp2; go_ret; exact ⟨rfl, rfl⟩
  rcases md_cases m with rfl | rfl | rfl | h
  case inr.inr.inr =>
    rw [maySv_other s h]
    obtain ⟨h1, h2, h3⟩ := h
    have h4 : ¬ s < 1 := by omega
    have h5 : ¬ 5 < s := by omega
    go_enter Try.func20, Try.ntmps20
    go_wp2
    go_ret
    exact ⟨rfl, rfl⟩
  all_goals
    rcases hs with rfl | rfl | rfl | rfl | rfl
    all_goals
      go_enter Try.func20, Try.ntmps20
      go_wp2
      go_ret
      exact ⟨rfl, rfl⟩
end Go.Proofs.Ytnijdcbpllmieaa
