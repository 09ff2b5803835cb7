/- prod: a maker's state; both Steps; frames held against each other. -/
import Derived.Test.YtllaajkpobpeiaaOi
namespace Go.Proofs.Ytllaajkpobpeiaa
open Go.RowKit
set_option linter.unusedSimpArgs false
set_option linter.unusedVariables false

def dueS (S : Option (ChV × Int)) (now : Int) (x : ChV) : Bool := match S with | none => true | some p => !(chB p.1 x) || decide (x.time ≤ now - p.2)
def mayS (on : Bool) (x : ChV) (m : Nat) : Bool := on && (sendsB x && decide ((m : Int) = szX x))
def stepS (S : Option (ChV × Int)) (now : Int) (on : Bool) (x : ChV) (m : Nat) : Option (ChV × Int) := if mayS on x m = true then (if dueS S now x = true then some (x, now) else S) else none
def sentS (S : Option (ChV × Int)) (now : Int) (on : Bool) (x : ChV) (m : Nat) : Bool := mayS on x m && dueS S now x
def okT (S : Option (ChV × Int)) (now : Int) : Prop := ∀ p, S = some p → 0 ≤ p.2 ∧ p.2 ≤ now
theorem okT_step {S : Option (ChV × Int)} {now : Int} {on : Bool} {x : ChV} {m : Nat} (h : okT S now) (hn : 0 ≤ now) : okT (stepS S now on x m) now := by
  intro p hp
  unfold stepS at hp
  split at hp
  · split at hp
    · cases hp; exact ⟨hn, Int.le_refl _⟩
    · exact h p hp
  · cases hp
theorem okT_mono {S : Option (ChV × Int)} {a b : Int} (h : okT S a) (hab : a ≤ b) : okT S b := fun p hp => ⟨(h p hp).1, Int.le_trans (h p hp).2 hab⟩
/-- A maker that stands so. -/
def MkS (w : World) (g : Nat) (S : Option (ChV × Int)) (n : Int) : Prop := match S with | none => MkAt w g false c0X 0 n | some p => MkAt w g true p.1 p.2 n
theorem MkS.lt {w : World} {g : Nat} {S : Option (ChV × Int)} {n : Int} (h : MkS w g S n) : g < w.heap.size := by cases S <;> exact MkAt.lt h
theorem MkS.below {w w' : World} {g : Nat} {S : Option (ChV × Int)} {n : Int} (h : MkS w g S n) (hb : Below w.heap.size w w') : MkS w' g S n := by cases S <;> exact MkAt.below h hb
theorem MkS.onl {w w' : World} {g q : Nat} {S : Option (ChV × Int)} {n : Int} (h : MkS w g S n) (ho : Onl q w w') (hn : ¬ g = q) : MkS w' g S n := by cases S <;> exact MkAt.onl h ho hn
theorem MkS.ex {w : World} {g : Nat} {S : Option (ChV × Int)} {n : Int} (h : MkS w g S n) : ∃ b x t, MkAt w g b x t n := by cases S <;> exact ⟨_, _, _, h⟩
theorem MkS.byt {w w' : World} {g : Nat} {S : Option (ChV × Int)} {n : Int} {A : Option Addr} {m c : Nat} {l : List Int} (h : MkS w g S n) (hB : Byt w w.heap.size A m c l) (ho : Onl g w w') : Byt w' w'.heap.size A m c l := by
  obtain ⟨b, x, t, h⟩ := h.ex
  exact noB_byt h (mkA_noB _ _ _ _) hB ho
/-- The frames of a pair, or none. -/
def FrP (w : World) (B : Nat) (s : Bool) (F : Value) (P Q : Int) (m : Nat) (l : List Int) : Prop := match s with | true => ∃ q, B ≤ q ∧ F = .slice (some ⟨q, 0, none⟩) 2 2 ∧ TwAt w q P Q m (dOf l) (dOf (flipL l)) | false => F = .slice none 0 0
theorem FrP.below {w w' : World} {B : Nat} {s : Bool} {F : Value} {P Q : Int} {m : Nat} {l : List Int} (h : FrP w B s F P Q m l) (hb : Below w.heap.size w w') : FrP w' B s F P Q m l := by
  cases s with
  | false => exact h
  | true =>
    obtain ⟨q, h1, h2, h3⟩ := h
    exact ⟨q, h1, h2, h3.below hb⟩
theorem FrP.onl {w w' : World} {B g : Nat} {s : Bool} {F : Value} {P Q : Int} {m : Nat} {l : List Int} (h : FrP w B s F P Q m l) (ho : Onl g w w') (hg : g < B) : FrP w' B s F P Q m l := by
  cases s with
  | false => exact h
  | true =>
    obtain ⟨q, h1, h2, h3⟩ := h
    exact ⟨q, h1, h2, (ho.oth q h3.lt (by omega)).trans h3⟩
def addB (n : Int) (s : Bool) : Int := if s = true then n + 1 else n
def StepP (w : World) (g : Nat) (S : Option (ChV × Int)) (n now : Int) (on : Bool) (x : ChV) (m : Nat) (l : List Int) (e : Ending) (w' : World) : Prop :=
  ∃ F, e = .returned F ∧ FrP w' w.heap.size (sentS S now on x m) F x.plain x.turned m l ∧ MkS w' g (stepS S now on x m) (addB n (sentS S now on x m)) ∧ Onl g w w'
theorem mayS_no {on : Bool} {x : ChV} {m : Nat} (h : mayS on x m = false) : on = false ∨ (on = true ∧ sendsB x = false) ∨ (on = true ∧ sendsB x = true ∧ ¬ (m : Int) = szX x) := by
  unfold mayS at h
  cases on
  · exact .inl rfl
  · cases hs : sendsB x
    · exact .inr (.inl ⟨rfl, rfl⟩)
    · refine .inr (.inr ⟨rfl, rfl, ?_⟩)
      rw [hs] at h
      simpa using h
theorem mayS_yes {on : Bool} {x : ChV} {m : Nat} (h : mayS on x m = true) : on = true ∧ sendsB x = true ∧ (m : Int) = szX x := by
  unfold mayS at h
  simp only [Bool.and_eq_true, decide_eq_true_eq] at h
  exact ⟨h.1, h.2.1, h.2.2⟩
section
variable {g : Nat} {w : World} {S : Option (ChV × Int)} {n : Int} {A : Option Addr} {m c : Nat} {l : List Int}
theorem pstepS (now : Int) (on : Bool) (x : ChV) (h : MkS w g S n) (hB : Byt w w.heap.size A m c l) (hn : 0 ≤ now ∧ now ≤ 2147483647) (hS : okT S now) (hnn : 0 ≤ n ∧ n ≤ 1000000) :
    Calls Try.prog 17 #[.pointer (some ⟨g, 0, none⟩), .int .i64 now, .bool on, .agg (chA x), .slice A m c] w (StepP w g S n now on x m l) := by
  obtain ⟨b, x0, t, h0⟩ := h.ex
  cases hm : mayS on x m with
  | false =>
    have e1 : stepS S now on x m = none := if_neg (by rw [hm]; simp)
    have e2 : sentS S now on x m = false := by unfold sentS; rw [hm]; rfl
    have key : ∀ {e : Ending} {w' : World}, (e = .returned (.slice none 0 0) ∧ MkAt w' g false c0X 0 n ∧ Onl g w w') → StepP w g S n now on x m l e w' := by
      rintro e w' ⟨rfl, h1, h2⟩
      exact ⟨_, rfl, by rw [e2]; rfl, by rw [e1, e2]; exact h1, h2⟩
    rcases mayS_no hm with ho | ⟨ho, hs⟩ | ⟨ho, hs, hz⟩
    · exact (step_off now on x h0 hB hn ho).mono fun e w' h => key h
    · exact (step_nosend now on x h0 hB hn ho hs).mono fun e w' h => key h
    · exact (step_size now on x h0 hB hn ho hs hz).mono fun e w' h => key h
  | true =>
    obtain ⟨ho, hs, hz⟩ := mayS_yes hm
    have main : ∀ {b x0 t} (h0 : MkAt w g b x0 t n) (ht : b = true → 0 ≤ t ∧ t ≤ now) (hd : dueB b x0 t now x = dueS S now x) (hk : dueS S now x = false → MkS w g S n = MkAt w g b x0 t n ∧ ∀ w', MkAt w' g b x0 t n → MkS w' g S n),
        Calls Try.prog 17 #[.pointer (some ⟨g, 0, none⟩), .int .i64 now, .bool on, .agg (chA x), .slice A m c] w (StepP w g S n now on x m l) := by
      intro b x0 t h0 ht hd hk
      cases hdd : dueS S now x with
      | true =>
        have e1 : stepS S now on x m = some (x, now) := (if_pos hm).trans (if_pos hdd)
        have e2 : sentS S now on x m = true := by unfold sentS; rw [hm, hdd]; rfl
        refine (step_due now on x h0 hB hn ho hs hz ht (hd.trans hdd) hnn).mono ?_
        rintro e w' ⟨q, h1, rfl, h2, h3, h4⟩
        exact ⟨_, rfl, by rw [e2]; exact ⟨q, h1, rfl, h2⟩, by rw [e1, e2]; exact h3, h4⟩
      | false =>
        have e1 : stepS S now on x m = S := (if_pos hm).trans (if_neg (by rw [hdd]; simp))
        have e2 : sentS S now on x m = false := by unfold sentS; rw [hm, hdd]; rfl
        refine (step_wait now on x h0 hB hn ho hs hz ht (hd.trans hdd)).mono ?_
        rintro e w' ⟨rfl, h3, h4⟩
        exact ⟨_, rfl, by rw [e2]; rfl, by rw [e1, e2]; exact (hk hdd).2 w' h3, h4⟩
    cases S with
    | none => exact main (b := false) (x0 := c0X) (t := 0) h (by simp) rfl (fun h => by cases h)
    | some p => exact main (b := true) (x0 := p.1) (t := p.2) h (fun _ => hS p rfl) rfl (fun _ => ⟨rfl, fun _ h => h⟩)
/-- The document's maker that stands so: since when, and by which table. -/
def RkS (S : Option (ChV × Int)) (T : Int) (X : ChV) : Prop := match S with | none => T = -1 | some p => T = p.2 ∧ X = p.1
def RStepP (w : World) (S : Option (ChV × Int)) (n now : Int) (on : Bool) (x : ChV) (m : Nat) (l : List Int) (e : Ending) (w' : World) : Prop :=
  ∃ F T X, e = .returned (.tuple #[.agg (rkA T X (addB n (sentS S now on x m))), F]) ∧ RkS (stepS S now on x m) T X ∧ FrP w' w.heap.size (sentS S now on x m) F x.plain x.turned m l ∧ Below w.heap.size w w'
theorem rstepS (now : Int) (on : Bool) (x X : ChV) (T : Int) (h : RkS S T X) (hB : Byt w w.heap.size A m c l) (hn : 0 ≤ now ∧ now ≤ 2147483647) (hS : okT S now) (hnn : 0 ≤ n ∧ n ≤ 1000000) :
    Calls Try.prog 15 #[.agg (rkA T X n), .int .i64 now, .bool on, .agg (chA x), .slice A m c] w (RStepP w S n now on x m l) := by
  cases hm : mayS on x m with
  | false =>
    have e1 : stepS S now on x m = none := if_neg (by rw [hm]; simp)
    have e2 : sentS S now on x m = false := by unfold sentS; rw [hm]; rfl
    have key : ∀ {e : Ending} {w' : World}, (e = .returned (.tuple #[.agg (rkA (-1) X n), .slice none 0 0]) ∧ Below w.heap.size w w') → RStepP w S n now on x m l e w' := by
      rintro e w' ⟨rfl, h2⟩
      exact ⟨_, -1, X, by rw [e2]; rfl, by rw [e1]; rfl, by rw [e2]; rfl, h2⟩
    rcases mayS_no hm with ho | ⟨ho, hs⟩ | ⟨ho, hs, hz⟩
    · exact (rstep_off now on x hB hn ho).mono fun e w' h => key h
    · exact (rstep_nosend now on x hB hn ho hs).mono fun e w' h => key h
    · exact (rstep_size now on x hB hn ho hs hz).mono fun e w' h => key h
  | true =>
    obtain ⟨ho, hs, hz⟩ := mayS_yes hm
    have yes : dueS S now x = true → ∀ {e : Ending} {w' : World}, (∃ q, w.heap.size ≤ q ∧ e = .returned (.tuple #[.agg (rkA now x (n + 1)), .slice (some ⟨q, 0, none⟩) 2 2]) ∧ TwAt w' q x.plain x.turned m (dOf l) (dOf (flipL l)) ∧ Below w.heap.size w w') → RStepP w S n now on x m l e w' := by
      intro hdd e w'
      have e1 : stepS S now on x m = some (x, now) := (if_pos hm).trans (if_pos hdd)
      have e2 : sentS S now on x m = true := by unfold sentS; rw [hm, hdd]; rfl
      rintro ⟨q, h1, rfl, h2, h3⟩
      exact ⟨_, now, x, by rw [e2]; rfl, by rw [e1]; exact ⟨rfl, rfl⟩, by rw [e2]; exact ⟨q, h1, rfl, h2⟩, h3⟩
    cases S with
    | none =>
      obtain rfl : T = -1 := h
      exact (rstep_rest now on x hB hn ho hs hz (by omega) hnn).mono fun e w' h => yes rfl h
    | some p =>
      obtain ⟨rfl, rfl⟩ : T = p.2 ∧ X = p.1 := h
      have hp := hS p rfl
      cases hc : chB p.1 x with
      | false => exact (rstep_other now on x hB hn ho hs hz hp.1 hc hnn).mono fun e w' h => yes (by simp [dueS, hc]) h
      | true =>
        by_cases hd : x.time ≤ now - p.2
        · exact (rstep_time now on x hB hn ho hs hz hp hc hd hnn).mono fun e w' h => yes (by simp [dueS, hc, hd]) h
        · have hdd : dueS (some p) now x = false := by simp [dueS, hc]; omega
          have e1 : stepS (some p) now on x m = some p := (if_pos hm).trans (if_neg (by rw [hdd]; simp))
          have e2 : sentS (some p) now on x m = false := by unfold sentS; rw [hm, hdd]; rfl
          refine (rstep_wait now on x hB hn ho hs hz hp hc (by omega)).mono ?_
          rintro e w' ⟨rfl, h2⟩
          exact ⟨_, p.2, p.1, by rw [e2]; rfl, by rw [e1]; exact ⟨rfl, rfl⟩, by rw [e2]; rfl, h2⟩
theorem sentS_any (h : MkS w g S n) : Calls Try.prog 18 #[.pointer (some ⟨g, 0, none⟩)] w fun e w' => e = .returned (.int .i64 n) ∧ w = w' := by
  cases S <;> exact sent_any h
theorem forkS_any (h : MkS w g S n) : Calls Try.prog 22 #[.pointer (some ⟨g, 0, none⟩)] w fun e w' => ∃ q, w.heap.size ≤ q ∧ e = .returned (.pointer (some ⟨q, 0, none⟩)) ∧ MkS w' q S n ∧ Below w.heap.size w w' := by
  cases S <;> exact mfork_any h
end
end Go.Proofs.Ytllaajkpobpeiaa
