/- Size: how many bits are free. -/
import Derived.Test.YtjofgomnnpeepaaGr
namespace Go.Proofs.Ytjofgomnnpeepaa
open Go.RowKit Go.Sort

/-- How many of the first k bits are set. -/
def pops : Nat → Nat → Nat
  | 0, _ => 0
  | k + 1, x => x % 2 + pops k (x / 2)
def s1 (q : Int) : Int := IntKind.u64.wrap (bits .and .u64 (q / 2) 6148914691236517205 + bits .and .u64 q 6148914691236517205)
def s2 (x : Int) : Int := IntKind.u64.wrap (bits .and .u64 (x / 4) 3689348814741910323 + bits .and .u64 x 3689348814741910323)
def s3 (x : Int) : Int := bits .and .u64 (IntKind.u64.wrap (x / 16 + x)) 1085102592571150095
def s4 (x : Int) : Int := IntKind.u64.wrap (x + x / 256)
def s5 (x : Int) : Int := IntKind.u64.wrap (x + x / 65536)
def s6 (x : Int) : Int := IntKind.u64.wrap (x + x / 4294967296)
def s7 (x : Int) : Int := bits .and .i64 (wrap64 x) 127
def force (x : Int) (f : Int → Int) : Int := match x with
  | .ofNat n => (match n with | 0 => f 0 | n + 1 => f (Int.ofNat (n + 1)))
  | .negSucc n => f (.negSucc n)
theorem force_eq (x : Int) (f : Int → Int) : force x f = f x := by
  unfold force
  split
  · split <;> rfl
  · rfl
theorem ones_force : ∀ q : Nat, q < 2048 → force (s1 q) (fun a => force (s2 a) fun b => force (s3 b) fun c => force (s4 c) fun d => force (s5 d) fun e => force (s6 e) s7) = (pops 11 q : Nat) := by decide +kernel
theorem ones_eq (q : Nat) (hq : q < 2048) : s7 (s6 (s5 (s4 (s3 (s2 (s1 q)))))) = (pops 11 q : Nat) := by
  have h := ones_force q hq
  simpa only [force_eq] using h
set_option maxRecDepth 40000 in
set_option maxHeartbeats 1000000 in
theorem ones64_any (q : Nat) (hq : q < 2048) (w : World) : Calls Try.prog 33 #[.int .u64 (q : Int)] w fun e w' => e = .returned (.int .i64 (pops 11 q : Nat)) ∧ w = w' := by
  go_enter Try.func33, Try.ntmps33
  go_wp2_with fail
  refine bodyPost_ret (results_tmp rfl _ _ _) rfl ⟨?_, rfl⟩
  exact congrArg (fun n => Ending.returned (.int .i64 n)) (ones_eq q hq)
theorem ones_any (q : Nat) (hq : q < 2048) (w : World) : Calls Try.prog 24 #[.int .u64 (q : Int)] w fun e w' => e = .returned (.int .i64 (pops 11 q : Nat)) ∧ w = w' := by
  go_enter Try.func24, Try.ntmps24
  go_wp2_with fail
  refine (ones64_any q hq _).mono ?_
  rintro e w2 ⟨rfl, rfl⟩
  go_wp2_with fail
  exact bodyPost_ret (results_tmp rfl _ _ _) rfl ⟨rfl, rfl⟩
theorem pops_le : ∀ k x : Nat, pops k x ≤ k
  | 0, _ => Nat.le_refl _
  | k + 1, x => by have := pops_le k (x / 2); unfold pops; omega
theorem pow_small (k : Nat) (h : k ≤ 11) : wrap64 (2 ^ k) = ((2 ^ k : Nat) : Int) ∧ 2 ^ k ≤ 2048 := by
  have hp : 2 ^ k ≤ 2 ^ 11 := Nat.pow_le_pow_right (by omega) h
  refine ⟨?_, hp⟩
  have e : ((2 : Int) ^ k) = ((2 ^ k : Nat) : Int) := by simp
  rw [e]
  generalize 2 ^ k = z at hp ⊢
  unfold wrap64
  omega
theorem size_any (fc fm : Int) (w : World) : Calls Try.prog 14 #[.agg #[.int .i64 fc, .int .i64 fm]] w fun e w' => e = .returned (.int .i64 ((2 ^ pops 11 (2047 - low fm) : Nat) : Int)) ∧ Below w.heap.size w w' := by
  have hba : Below w.heap.size w (w.alloc (.cells #[.int .i64 fc, .int .i64 fm] 36)) := (Below.refl _ _).alloc (Nat.le_refl _) _
  have HB := Lib.hid hba
  have hp := pops_le 11 (2047 - low fm)
  have hlt : 2047 - low fm < 2048 := by omega
  have hw : IntKind.u64.wrap ((2047 - low fm : Nat) : Int) = ((2047 - low fm : Nat) : Int) := by rw [IntKind.wrap_u64]; omega
  have hones := fun w => ones_any (2047 - low fm) hlt w
  have hfree := fun w => free_b fc fm w
  generalize 2047 - low fm = x at hp hw hones hfree ⊢
  have hpw := pow_small (pops 11 x) hp
  generalize pops 11 x = k at hp hones hpw ⊢
  have HO := Lib.hid hones
  have HF := Lib.hid hfree
  have HPW := Lib.hid hpw
  clear hba hones hfree hpw
  go_enter Try.func14, Try.ntmps14
  go_wp2_with fail
  refine (HF.out _).mono ?_
  rintro e w2 ⟨rfl, hb2⟩
  go_wp2_with fail
  refine (HO.out _).mono ?_
  rintro e w3 ⟨rfl, rfl⟩
  go_wp2_with fail
  refine bodyPost_ret (results_tmp rfl _ _ _) rfl ⟨?_, HB.out.trans (hb2.mono (by simp))⟩
  obtain ⟨e1, e2⟩ := HPW.out
  exact congrArg (fun n => Ending.returned (.int .i64 n)) e1

/-! ### How many -/
/-- How many of the first n have it. -/
def cN (P : Nat → Bool) : Nat → Nat
  | 0 => 0
  | n + 1 => cN P n + (if P n then 1 else 0)
theorem cN_two (P : Nat → Bool) : ∀ n, cN P (2 * n) = cN (fun q => P (2 * q)) n + cN (fun q => P (2 * q + 1)) n
  | 0 => rfl
  | n + 1 => by
    have h := cN_two P n
    rw [show 2 * (n + 1) = 2 * n + 1 + 1 by omega]
    simp only [cN, h]
    omega
theorem cN_congr {P Q : Nat → Bool} : ∀ {n : Nat}, (∀ q, q < n → P q = Q q) → cN P n = cN Q n
  | 0, _ => rfl
  | n + 1, h => by
    simp only [cN]
    rw [cN_congr (n := n) fun q hq => h q (by omega), h n (by omega)]
theorem cN_false : ∀ n, cN (fun _ => false) n = 0
  | 0 => rfl
  | n + 1 => by simp [cN, cN_false n]
theorem cN_both (P Q : Nat → Bool) : ∀ n, cN (fun q => P q || Q q) n + cN (fun q => P q && Q q) n = cN P n + cN Q n
  | 0 => rfl
  | n + 1 => by
    have h := cN_both P Q n
    simp only [cN]
    by_cases hp : P n = true <;> by_cases hq : Q n = true <;> simp [hp, hq] <;> omega
theorem cN_pos {P : Nat → Bool} : ∀ {n : Nat}, 0 < cN P n ↔ ∃ q, q < n ∧ P q = true
  | 0 => by simp [cN]
  | n + 1 => by
    have h := cN_pos (P := P) (n := n)
    simp only [cN]
    constructor
    · intro h1
      by_cases h2 : P n = true
      · exact ⟨n, by omega, h2⟩
      · simp [h2] at h1
        obtain ⟨q, hq, hp⟩ := h.1 h1
        exact ⟨q, by omega, hp⟩
    · rintro ⟨q, hq, hp⟩
      by_cases h2 : q = n
      · subst h2; simp [hp]
      · have := h.2 ⟨q, by omega, hp⟩; omega
theorem cN_le (P : Nat → Bool) : ∀ n, cN P n ≤ n
  | 0 => Nat.le_refl _
  | n + 1 => by have := cN_le P n; simp only [cN]; split <;> omega
theorem cN_mask : ∀ (k M C : Nat), M < 2 ^ k → cN (fun q => q &&& M == C &&& M) (2 ^ k) = 2 ^ pops k (2 ^ k - 1 - M)
  | 0, M, C, h => by
    have : M = 0 := by simpa using h
    subst this
    simp [cN, pops]
  | k + 1, M, C, h => by
    have hp : 2 ^ (k + 1) = 2 * 2 ^ k := by rw [Nat.pow_succ]; omega
    have ih := cN_mask k (M / 2) (C / 2) (by omega)
    have e0 : ∀ q, ((2 * q) &&& M == C &&& M) = ((q &&& M / 2 == C / 2 &&& M / 2) && ((C % 2) * (M % 2) == 0)) := fun q => by
      rw [and_split (2 * q) M, and_split C M, Bool.eq_iff_iff]
      have h1 : 2 * q / 2 = q := by omega
      have h2 : 2 * q % 2 = 0 := by omega
      rw [h1, h2]
      simp only [beq_iff_eq, Bool.and_eq_true]
      have h3 : (C % 2) * (M % 2) ≤ 1 := by
        rcases Nat.mod_two_eq_zero_or_one C with a | a <;> rcases Nat.mod_two_eq_zero_or_one M with b | b <;> rw [a, b] <;> decide
      omega
    have e1 : ∀ q, ((2 * q + 1) &&& M == C &&& M) = ((q &&& M / 2 == C / 2 &&& M / 2) && ((C % 2) * (M % 2) == M % 2)) := fun q => by
      rw [and_split (2 * q + 1) M, and_split C M, Bool.eq_iff_iff]
      have h1 : (2 * q + 1) / 2 = q := by omega
      have h2 : (2 * q + 1) % 2 = 1 := by omega
      rw [h1, h2]
      simp only [beq_iff_eq, Bool.and_eq_true]
      have h3 : (C % 2) * (M % 2) ≤ 1 := by
        rcases Nat.mod_two_eq_zero_or_one C with a | a <;> rcases Nat.mod_two_eq_zero_or_one M with b | b <;> rw [a, b] <;> decide
      have h4 : M % 2 < 2 := by omega
      omega
    rw [hp, cN_two]
    simp only [e0, e1]
    have hx : (2 * 2 ^ k - 1 - M) / 2 = 2 ^ k - 1 - M / 2 := by omega
    have hy : (2 * 2 ^ k - 1 - M) % 2 = 1 - M % 2 := by omega
    rw [show pops (k + 1) (2 * 2 ^ k - 1 - M) = (2 * 2 ^ k - 1 - M) % 2 + pops k ((2 * 2 ^ k - 1 - M) / 2) from rfl, hx, hy]
    rcases Nat.mod_two_eq_zero_or_one M with b | b
    · simp only [b, Nat.mul_zero, beq_self_eq_true, Bool.and_true, ih]
      rw [show 1 - 0 + pops k (2 ^ k - 1 - M / 2) = pops k (2 ^ k - 1 - M / 2) + 1 by omega, Nat.pow_succ]
      omega
    · rcases Nat.mod_two_eq_zero_or_one C with a | a
      · simp only [a, b, Nat.zero_mul, beq_self_eq_true, Bool.and_true, ih]
        simp [cN_false]
      · simp only [a, b, Nat.one_mul, beq_self_eq_true, Bool.and_true, ih]
        simp [cN_false]
theorem selL_count (S : Nat → Bool) : ∀ n, (selL S n).length = cN S n
  | 0 => rfl
  | n + 1 => by
    rw [selL_succ, List.length_append, selL_count S n]
    simp only [cN]
    cases S n <;> rfl
theorem one_nat (C M q : Nat) (hq : q < 2048) : One C M (q : Nat) = (q &&& M == C &&& M) := by
  have h1 : decide (0 ≤ (q : Int)) = true := by simp
  have h2 : decide ((q : Int) < 2048) = true := by simp; omega
  unfold One
  rw [h1, h2, low_nat hq, Bool.true_and, Bool.true_and]
theorem one_size (C M : Nat) (hM : M < 2048) : cN (fun q => One C M (q : Nat)) 2048 = 2 ^ pops 11 (2047 - M) := by
  rw [cN_congr fun q hq => one_nat C M q hq]
  exact cN_mask 11 M C hM
theorem any_one (f : Int × Int) (id : Int) : anyF (fun _ => f) 1 id = One (low f.1) (low f.2) id := by
  rw [anyF_succ, anyF_zero, Bool.false_or]
theorem meets_count (C M C' M' : Nat) (hM : M < 2048) (hM' : M' < 2048) : meets C M C' M' = decide (0 < cN (fun q => One C M (q : Nat) && One C' M' (q : Nat)) 2048) := by
  rw [Bool.eq_iff_iff, meets_iff hM hM', decide_eq_true_iff, cN_pos]
  constructor
  · rintro ⟨q, hq, h1, h2⟩
    exact ⟨q, hq, by rw [one_nat C M q hq, one_nat C' M' q hq]; simp [h1, h2]⟩
  · rintro ⟨q, hq, h⟩
    rw [one_nat C M q hq, one_nat C' M' q hq] at h
    simp at h
    exact ⟨q, hq, h.1, h.2⟩
end Go.Proofs.Ytjofgomnnpeepaa
