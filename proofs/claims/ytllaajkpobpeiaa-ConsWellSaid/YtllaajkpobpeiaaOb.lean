/- Tables of channels: their sizes, which ones send, which ones take. -/
import Derived.Test.YtllaajkpobpeiaaOa
namespace Go.Proofs.Ytllaajkpobpeiaa
open Go.RowKit
set_option linter.unusedSimpArgs false
set_option linter.unusedVariables false

def szX (x : ChV) : Int := if x.n < 0 ∨ 8 < x.n then 0 else szE x.s x.n.toNat
theorem szF_rng (fs : Nat → SlV) : ∀ (m i : Nat) (a : Int), 0 ≤ a → 0 ≤ szF fs m i a ∧ szF fs m i a ≤ a + 4 * m
  | 0, _, a, h => ⟨h, by show a ≤ _; omega⟩
  | m + 1, i, a, h => by
    unfold szF
    by_cases e : (fs i).n = 8 ∨ (fs i).n = 16 ∨ (fs i).n = 32
    · rw [if_pos e]
      have := szF_rng fs m (i + 1) (a + (fs i).n / 8) (by omega)
      omega
    · rw [if_neg e]; omega
theorem szX_rng (x : ChV) : 0 ≤ szX x ∧ szX x ≤ 32 := by
  unfold szX
  by_cases h : x.n < 0 ∨ 8 < x.n
  · rw [if_pos h]; omega
  · rw [if_neg h]
    unfold szE
    rw [if_neg (by omega)]
    have := szF_rng x.s x.n.toNat 0 0 (by omega)
    omega
def idB (n : Int) : Bool := decide (0 ≤ n ∧ n ≤ 2047)
def limB (n : Int) : Bool := decide (1 ≤ n ∧ n ≤ 65535)
def tkB (n : Int) : Bool := decide (0 ≤ n ∧ n ≤ 2147483647)
theorem pid_any (n : Int) (w : World) : Calls Try.prog 44 #[.int .i64 n] w fun e w' => e = .returned (.bool (idB n)) ∧ w = w' := by
  by_cases h1 : 0 ≤ n
  · by_cases h2 : n ≤ 2047
    · rw [show idB n = true by simp [idB, h1, h2]]; go_enter Try.func44, Try.ntmps44; go_wp2; go_ret; exact ⟨rfl, rfl⟩
    · rw [show idB n = false by simp [idB, h2]]; go_enter Try.func44, Try.ntmps44; go_wp2; go_ret; exact ⟨rfl, rfl⟩
  · rw [show idB n = false by simp [idB, h1]]; go_enter Try.func44, Try.ntmps44; go_wp2; go_ret; exact ⟨rfl, rfl⟩
theorem ptick_any (n : Int) (w : World) : Calls Try.prog 45 #[.int .i64 n] w fun e w' => e = .returned (.bool (tkB n)) ∧ w = w' := by
  by_cases h1 : 0 ≤ n
  · by_cases h2 : n ≤ 2147483647
    · rw [show tkB n = true by simp [tkB, h1, h2]]; go_enter Try.func45, Try.ntmps45; go_wp2; go_ret; exact ⟨rfl, rfl⟩
    · rw [show tkB n = false by simp [tkB, h2]]; go_enter Try.func45, Try.ntmps45; go_wp2; go_ret; exact ⟨rfl, rfl⟩
  · rw [show tkB n = false by simp [tkB, h1]]; go_enter Try.func45, Try.ntmps45; go_wp2; go_ret; exact ⟨rfl, rfl⟩
theorem clim_any (n : Int) (w : World) : Calls Try.prog 50 #[.int .i64 n] w fun e w' => e = .returned (.bool (limB n)) ∧ w = w' := by
  by_cases h1 : 1 ≤ n
  · by_cases h2 : n ≤ 65535
    · rw [show limB n = true by simp [limB, h1, h2]]; go_enter Try.func50, Try.ntmps50; go_wp2; go_ret; exact ⟨rfl, rfl⟩
    · rw [show limB n = false by simp [limB, h2]]; go_enter Try.func50, Try.ntmps50; go_wp2; go_ret; exact ⟨rfl, rfl⟩
  · rw [show limB n = false by simp [limB, h1]]; go_enter Try.func50, Try.ntmps50; go_wp2; go_ret; exact ⟨rfl, rfl⟩
theorem cid_any (n : Int) (w : World) : Calls Try.prog 51 #[.int .i64 n] w fun e w' => e = .returned (.bool (idB n)) ∧ w = w' := by
  by_cases h1 : 0 ≤ n
  · by_cases h2 : n ≤ 2047
    · rw [show idB n = true by simp [idB, h1, h2]]; go_enter Try.func51, Try.ntmps51; go_wp2; go_ret; exact ⟨rfl, rfl⟩
    · rw [show idB n = false by simp [idB, h2]]; go_enter Try.func51, Try.ntmps51; go_wp2; go_ret; exact ⟨rfl, rfl⟩
  · rw [show idB n = false by simp [idB, h1]]; go_enter Try.func51, Try.ntmps51; go_wp2; go_ret; exact ⟨rfl, rfl⟩
theorem ctick_any (n : Int) (w : World) : Calls Try.prog 56 #[.int .i64 n] w fun e w' => e = .returned (.bool (tkB n)) ∧ w = w' := by
  by_cases h1 : 0 ≤ n
  · by_cases h2 : n ≤ 2147483647
    · rw [show tkB n = true by simp [tkB, h1, h2]]; go_enter Try.func56, Try.ntmps56; go_wp2; go_ret; exact ⟨rfl, rfl⟩
    · rw [show tkB n = false by simp [tkB, h2]]; go_enter Try.func56, Try.ntmps56; go_wp2; go_ret; exact ⟨rfl, rfl⟩
  · rw [show tkB n = false by simp [tkB, h1]]; go_enter Try.func56, Try.ntmps56; go_wp2; go_ret; exact ⟨rfl, rfl⟩
theorem rtime_any (n : Int) (w : World) : Calls Try.prog 52 #[.int .i64 n] w fun e w' => e = .returned (.bool (limB n)) ∧ w = w' := by
  by_cases h1 : 1 ≤ n
  · by_cases h2 : n ≤ 65535
    · rw [show limB n = true by simp [limB, h1, h2]]; go_enter Try.func52, Try.ntmps52; go_wp2; go_ret; exact ⟨rfl, rfl⟩
    · rw [show limB n = false by simp [limB, h2]]; go_enter Try.func52, Try.ntmps52; go_wp2; go_ret; exact ⟨rfl, rfl⟩
  · rw [show limB n = false by simp [limB, h1]]; go_enter Try.func52, Try.ntmps52; go_wp2; go_ret; exact ⟨rfl, rfl⟩
set_option maxRecDepth 100000 in
set_option maxHeartbeats 4000000 in
theorem xsize_any (w : World) (x : ChV) : Calls Try.prog 10 #[.agg (chA x)] w fun e w' => e = .returned (.int .i64 (szX x)) ∧ Below w.heap.size w w' := by
  have hb0 : Below w.heap.size w (w.alloc (.cells (chA x) 29)) := (Below.refl _ _).alloc (Nat.le_refl _) _
  have hx0 : ChAt (w.alloc (.cells (chA x) 29)) w.heap.size x := heap_alloc_new w _
  have HB0 := Lib.hid hb0
  have HX0 := Lib.hid hx0
  obtain ⟨a0, a1, a2, a3, a4, a5⟩ := hx0.cells
  have hsz := chA_size x
  clear hb0 hx0
  by_cases hn : x.n < 0
  · have HE : Hid (szX x = 0) := Lib.hid (if_pos (.inl hn))
    obtain ⟨CX, hCX⟩ : ∃ CX, chA x = CX := ⟨_, rfl⟩
    rw [hCX] at HB0 a0 a1 a2 a3 a4 a5 hsz ⊢
    clear hCX HX0
    go_enter Try.func10, Try.ntmps10
    go_wp2_with fail
    go_ret
    exact ⟨by rw [HE.out]; rfl, HB0.out⟩
  · by_cases h8 : 8 < x.n
    · have HE : Hid (szX x = 0) := Lib.hid (if_pos (.inr h8))
      obtain ⟨CX, hCX⟩ : ∃ CX, chA x = CX := ⟨_, rfl⟩
      rw [hCX] at HB0 a0 a1 a2 a3 a4 a5 hsz ⊢
      clear hCX HX0
      go_enter Try.func10, Try.ntmps10
      go_wp2_with fail
      go_ret
      exact ⟨by rw [HE.out]; rfl, HB0.out⟩
    · have HE : Hid (szX x = szE x.s x.n.toNat) := Lib.hid (if_neg (by omega))
      obtain ⟨k, hk⟩ : ∃ k : Nat, x.n = k := ⟨x.n.toNat, by omega⟩
      have hk8 : k ≤ 8 := by omega
      have hkI : (k : Int) ≤ 8 := by omega
      have hkn : ¬ (k : Int) < 0 := by omega
      have hkg : ¬ (8 : Int) < (k : Int) := by omega
      have HKE : Hid (x.n.toNat = k) := Lib.hid (by omega)
      have HP := Lib.hid (psize_any _ _ k 8 x.s (HX0.out.els hk8))
      rw [hk] at a5
      clear hn hk h8
      obtain ⟨CX, hCX⟩ : ∃ CX, chA x = CX := ⟨_, rfl⟩
      rw [hCX] at HB0 HX0 HP a0 a1 a2 a3 a4 a5 hsz ⊢
      clear hCX
      go_enter Try.func10, Try.ntmps10
      go_wp2_with (go_at_call 42; refine (HP.out).mono ?_; rintro e w2 ⟨rfl, b2⟩; have HB2 := Lib.hid (kF b2 HB0.out); clear b2)
      go_ret
      exact ⟨by rw [HE.out, HKE.out]; rfl, HB2.out⟩
set_option maxRecDepth 100000 in
set_option maxHeartbeats 4000000 in
theorem rxsize_any (w : World) (x : ChV) : Calls Try.prog 11 #[.agg (chA x)] w fun e w' => e = .returned (.int .i64 (szX x)) ∧ Below w.heap.size w w' := by
  have hb0 : Below w.heap.size w (w.alloc (.cells (chA x) 29)) := (Below.refl _ _).alloc (Nat.le_refl _) _
  have hx0 : ChAt (w.alloc (.cells (chA x) 29)) w.heap.size x := heap_alloc_new w _
  have HB0 := Lib.hid hb0
  have HX0 := Lib.hid hx0
  obtain ⟨a0, a1, a2, a3, a4, a5⟩ := hx0.cells
  have hsz := chA_size x
  clear hb0 hx0
  by_cases hn : x.n < 0
  · have HE : Hid (szX x = 0) := Lib.hid (if_pos (.inl hn))
    obtain ⟨CX, hCX⟩ : ∃ CX, chA x = CX := ⟨_, rfl⟩
    rw [hCX] at HB0 a0 a1 a2 a3 a4 a5 hsz ⊢
    clear hCX HX0
    go_enter Try.func11, Try.ntmps11
    go_wp2_with fail
    go_ret
    exact ⟨by rw [HE.out]; rfl, HB0.out⟩
  · by_cases h8 : 8 < x.n
    · have HE : Hid (szX x = 0) := Lib.hid (if_pos (.inr h8))
      obtain ⟨CX, hCX⟩ : ∃ CX, chA x = CX := ⟨_, rfl⟩
      rw [hCX] at HB0 a0 a1 a2 a3 a4 a5 hsz ⊢
      clear hCX HX0
      go_enter Try.func11, Try.ntmps11
      go_wp2_with fail
      go_ret
      exact ⟨by rw [HE.out]; rfl, HB0.out⟩
    · have HE : Hid (szX x = szE x.s x.n.toNat) := Lib.hid (if_neg (by omega))
      obtain ⟨k, hk⟩ : ∃ k : Nat, x.n = k := ⟨x.n.toNat, by omega⟩
      have hk8 : k ≤ 8 := by omega
      have hkI : (k : Int) ≤ 8 := by omega
      have hkn : ¬ (k : Int) < 0 := by omega
      have hkg : ¬ (8 : Int) < (k : Int) := by omega
      have HKE : Hid (x.n.toNat = k) := Lib.hid (by omega)
      have HP := Lib.hid (rsize25_any _ _ k 8 x.s (HX0.out.els hk8))
      rw [hk] at a5
      clear hn hk h8
      obtain ⟨CX, hCX⟩ : ∃ CX, chA x = CX := ⟨_, rfl⟩
      rw [hCX] at HB0 HX0 HP a0 a1 a2 a3 a4 a5 hsz ⊢
      clear hCX
      go_enter Try.func11, Try.ntmps11
      go_wp2_with (go_at_call 43; refine (HP.out).mono ?_; rintro e w2 ⟨rfl, b2⟩; have HB2 := Lib.hid (kF b2 HB0.out); clear b2)
      go_ret
      exact ⟨by rw [HE.out, HKE.out]; rfl, HB2.out⟩
end Go.Proofs.Ytllaajkpobpeiaa
