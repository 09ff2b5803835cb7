/- prod: when the next pair is due; what a step leaves. -/
import Derived.Test.YtllaajkpobpeiaaOl
namespace Go.Proofs.Ytllaajkpobpeiaa
open Go.RowKit
set_option linter.unusedSimpArgs false
set_option linter.unusedVariables false

theorem next_rest {w : World} {g : Nat} {x : ChV} {t n : Int} (now : Int) (h : MkAt w g false x t n) : Calls Try.prog 19 #[.pointer (some ⟨g, 0, none⟩), .int .i64 now] w fun e w' => e = .returned (.tuple #[.int .i64 0, .bool false]) ∧ Below w.heap.size w w' := by
  obtain ⟨c0, c2, c3, c4⟩ := h.cells
  clear h
  go_enter Try.func19, Try.ntmps19
  go_wp2_with fail
  go_ret2
  exact ⟨rfl, Below.refl _ _⟩
set_option maxRecDepth 100000 in
set_option maxHeartbeats 4000000 in
theorem next_on {w : World} {g : Nat} {x : ChV} {t n : Int} (now : Int) (h : MkAt w g true x t n) (hn : 0 ≤ now) (ht : 0 ≤ t ∧ t ≤ 2147483647) (hx : 0 ≤ x.time ∧ x.time ≤ 65535) : Calls Try.prog 19 #[.pointer (some ⟨g, 0, none⟩), .int .i64 now] w fun e w' => e = .returned (.tuple #[.int .i64 (if t + x.time ≤ now then 0 else t + x.time - now), .bool true]) ∧ Below w.heap.size w w' := by
  obtain ⟨c0, c2, c3, c4⟩ := h.cells
  have HP := Lib.hid (fun w => pbetween_any now (t + x.time) w hn (by omega) (by omega))
  have hw : IntKind.i64.wrap (t + x.time) = t + x.time := IntWalk.i64_in _ (by omega)
  clear h hn ht hx
  generalize (if t + x.time ≤ now then 0 else t + x.time - now) = z at *
  generalize x.time = tm at *
  go_enter Try.func19, Try.ntmps19
  go_wp2_with fail
  go_quiet ((go_at_call 48; exact Calls.quiet_of_same ((HP.out _).mono fun e w' h => ⟨h.1, h.2.symm⟩)))
  go_wp2_with fail
  go_ret2
  exact ⟨rfl, below_drewN (Below.refl _ _) _⟩
/-- What a maker's state keeps. -/
def okS (S : Option (ChV × Int)) (now : Int) : Prop := ∀ p, S = some p → 0 ≤ p.2 ∧ p.2 ≤ now ∧ 1 ≤ p.1.time ∧ p.1.time ≤ 65535
theorem sendsB_time {x : ChV} (h : sendsB x = true) : 1 ≤ x.time ∧ x.time ≤ 65535 := (of_decide_eq_true h).2.1
theorem okS.t {S : Option (ChV × Int)} {now : Int} (h : okS S now) : okT S now := fun p hp => ⟨(h p hp).1, (h p hp).2.1⟩
theorem okS.mono {S : Option (ChV × Int)} {a b : Int} (h : okS S a) (hab : a ≤ b) : okS S b := fun p hp => ⟨(h p hp).1, Int.le_trans (h p hp).2.1 hab, (h p hp).2.2⟩
theorem okS_step {S : Option (ChV × Int)} {now : Int} {on : Bool} {x : ChV} {m : Nat} (h : okS S now) (hn : 0 ≤ now) : okS (stepS S now on x m) now ∧ ∀ p, stepS S now on x m = some p → now - p.2 < p.1.time := by
  unfold stepS
  by_cases hm : mayS on x m = true
  · rw [if_pos hm]
    have hx := sendsB_time (mayS_yes hm).2.1
    by_cases hd : dueS S now x = true
    · rw [if_pos hd]
      refine ⟨fun p hp => ?_, fun p hp => ?_⟩
      · cases hp; exact ⟨hn, Int.le_refl _, hx.1, hx.2⟩
      · cases hp; show now - now < x.time; omega
    · rw [if_neg hd]
      refine ⟨h, fun p hp => ?_⟩
      subst hp
      simp only [dueS, Bool.not_eq_true, Bool.or_eq_false_iff, Bool.not_eq_false', decide_eq_false_iff_not] at hd
      have e : p.1.time = x.time := by
        have := chB_iff.1 hd.1
        simp only [chA, Array.mk.injEq, List.cons.injEq, Value.int.injEq, true_and] at this
        exact this.2.1
      rw [e]
      omega
  · rw [if_neg hm]
    exact ⟨fun p hp => (by cases hp), fun p hp => (by cases hp)⟩
/-- What Next answers. -/
def nxE (S : Option (ChV × Int)) (now : Int) : Int := match S with | none => 0 | some p => p.2 + p.1.time - now
theorem nextS {w : World} {g : Nat} {S : Option (ChV × Int)} {n : Int} (now : Int) (h : MkS w g S n) (hn : 0 ≤ now ∧ now ≤ 2147483647) (hS : okS S now) (hd : ∀ p, S = some p → now - p.2 < p.1.time) : Calls Try.prog 19 #[.pointer (some ⟨g, 0, none⟩), .int .i64 now] w fun e w' => e = .returned (.tuple #[.int .i64 (nxE S now), .bool S.isSome]) ∧ Below w.heap.size w w' := by
  cases S with
  | none => exact next_rest now h
  | some p =>
    have h1 := hS p rfl
    have h2 := hd p rfl
    refine (next_on now h hn.1 (by omega) (by omega)).mono ?_
    rintro e w' ⟨rfl, hb⟩
    exact ⟨by rw [if_neg (by omega)]; rfl, hb⟩
end Go.Proofs.Ytllaajkpobpeiaa
