/- The document's unlike and power. -/
import Derived.Test.YtjofgomnnpeepaaGx
import Derived.Test.YtjofgomnnpeepaaGl
namespace Go.Proofs.Ytjofgomnnpeepaa
open Go.RowKit Go.Sort

theorem bitN_small (a k : Nat) (ha : a < 2048) : bitN (a : Int) k = if a.testBit k then 1 else 0 := by unfold bitN; rw [low_nat ha]
/-- What unlike has found in the first k bits. -/
def Sofar (a b : Nat) (k : Nat) (r : Int) : Prop := (r = -1 ∧ ∀ j, j < k → a.testBit j = b.testBit j) ∨ (∃ n : Nat, r = n ∧ n < k ∧ a.testBit n ≠ b.testBit n ∧ ∀ j, j < k → j ≠ n → a.testBit j = b.testBit j)
/-- What unlike answers. -/
def Unl (a b : Nat) (r : Int) : Prop := (∃ n : Nat, r = n ∧ Diff a b n) ∨ (r = -1 ∧ ∀ n, ¬ Diff a b n)
theorem unl_end {a b : Nat} {r : Int} (h : Sofar a b 11 r) : Unl a b r := by
  rcases h with ⟨h1, h2⟩ | ⟨n, h1, h2, h3, h4⟩
  · exact .inr ⟨h1, fun n hd => (hd.2 n hd.1).1 (h2 n hd.1) rfl⟩
  · exact .inl ⟨n, h1, h2, fun j hj => ⟨fun e hn => h3 (hn ▸ e), fun hn => h4 j hj hn⟩⟩
theorem unl_two {a b n k : Nat} (hk : k < 11) (hn : n < k) (h1 : a.testBit n ≠ b.testBit n) (h2 : a.testBit k ≠ b.testBit k) : Unl a b (-1) := .inr ⟨rfl, fun m hd => by
  have e1 : n = m := Classical.byContradiction fun e => h1 ((hd.2 n (by omega)).2 e)
  have e2 : k = m := Classical.byContradiction fun e => h2 ((hd.2 k hk).2 e)
  omega⟩
theorem sofar_same {a b k : Nat} {r : Int} (h : Sofar a b k r) (e : a.testBit k = b.testBit k) : Sofar a b (k + 1) r := by
  rcases h with ⟨h1, h2⟩ | ⟨n, h1, h2, h3, h4⟩
  · exact .inl ⟨h1, fun j hj => by
      by_cases ej : j = k
      · subst ej; exact e
      · exact h2 j (by omega)⟩
  · exact .inr ⟨n, h1, by omega, h3, fun j hj hn => by
      by_cases ej : j = k
      · subst ej; exact e
      · exact h4 j (by omega) hn⟩
theorem sofar_new {a b k : Nat} (h : Sofar a b k (-1)) (e : a.testBit k ≠ b.testBit k) : Sofar a b (k + 1) (k : Nat) := by
  rcases h with ⟨_, h2⟩ | ⟨n, h1, _⟩
  · exact .inr ⟨k, rfl, by omega, e, fun j hj hn => h2 j (by omega)⟩
  · omega
theorem bit_ne (a b k : Nat) (ha : a < 2048) (hb : b < 2048) : (bitN (a : Int) k != bitN (b : Int) k) = (a.testBit k != b.testBit k) := by
  rw [bitN_ne, low_nat ha, low_nat hb]

set_option maxHeartbeats 1000000 in
theorem unlike_any (a b : Nat) (ha : a < 2048) (hb : b < 2048) (w : World) : Calls Try.prog 34 #[.int .i64 (a : Int), .int .i64 (b : Int)] w fun e w' => (∃ r, e = .returned (.int .i64 r) ∧ Unl a b r) ∧ w = w' := by
  go_enter Try.func34, Try.ntmps34
  go_wp2_with fail
  go_loop [5, 6] (fun f i => ∃ (k : Nat) (r : Int), k ≤ 11 ∧ i = .int .i64 k ∧ f = .int .i64 r ∧ -1 ≤ r ∧ r < 11 ∧ Hid (Sofar a b k r)) (fun _ i => 11 - (intOf i).toNat)
  case atStart => exact ⟨0, -1, by omega, rfl, rfl, by omega, by omega, Lib.hid (.inl ⟨rfl, fun _ h => absurd h (Nat.not_lt_zero _)⟩)⟩
  case round =>
    obtain ⟨k, r, hk, rfl, rfl, hr1, hr2, hS⟩ := hrel
    by_cases hlt : k < 11
    · have hx := fun w => bit_any (a : Int) k hlt w
      have hy := fun w => bit_any (b : Int) k hlt w
      have hne := bit_ne a b k ha hb
      generalize bitN (a : Int) k = x at hx hne
      generalize bitN (b : Int) k = y at hy hne
      have HX := Lib.hid hx
      have HY := Lib.hid hy
      clear hx hy
      cases hxy : x != y with
      | false =>
        have e : a.testBit k = b.testBit k := by rw [hxy] at hne; simpa using hne.symm
        have HN := Lib.hid (sofar_same hS.out e)
        clear hne e
        go_wp2_with fail
        refine (HX.out _).mono ?_
        rintro e w2 ⟨rfl, rfl⟩
        go_wp2_with fail
        refine (HY.out _).mono ?_
        rintro e w2 ⟨rfl, rfl⟩
        go_wp2_with fail
        go_round
        case rel => exact ⟨k + 1, r, by omega, by go_num, rfl, by omega, by omega, HN⟩
        case measure => simp [intOf]; omega
      | true =>
        have e : a.testBit k ≠ b.testBit k := by rw [hxy] at hne; simpa using hne.symm
        have HE := Lib.hid e
        clear hne e
        by_cases h0 : 0 ≤ r
        · have hU : Unl a b (-1) := by
            rcases hS.out with ⟨h1, _⟩ | ⟨n, h1, h2, h3, _⟩
            · omega
            · exact unl_two hlt h2 h3 HE.out
          have HU := Lib.hid hU
          clear hU
          go_wp2_with fail
          refine (HX.out _).mono ?_
          rintro e w2 ⟨rfl, rfl⟩
          go_wp2_with fail
          refine (HY.out _).mono ?_
          rintro e w2 ⟨rfl, rfl⟩
          go_wp2_with fail
          exact bodyPost_ret (results_tmp rfl _ _ _) rfl ⟨⟨_, rfl, HU.out⟩, rfl⟩
        · obtain rfl : r = -1 := by omega
          have HN := Lib.hid (sofar_new hS.out HE.out)
          clear h0
          go_wp2_with fail
          refine (HX.out _).mono ?_
          rintro e w2 ⟨rfl, rfl⟩
          go_wp2_with fail
          refine (HY.out _).mono ?_
          rintro e w2 ⟨rfl, rfl⟩
          go_wp2_with fail
          go_round
          case rel => exact ⟨k + 1, (k : Nat), by omega, by go_num, rfl, by omega, by omega, HN⟩
          case measure => simp [intOf]; omega
    · obtain rfl : k = 11 := by omega
      have HU := Lib.hid (unl_end hS.out)
      go_wp2_with fail
      exact bodyPost_ret (results_tmp rfl _ _ _) rfl ⟨⟨_, rfl, HU.out⟩, rfl⟩
theorem power_any : ∀ (k : Nat), k < 11 → ∀ w : World, Calls Try.prog 35 #[.int .i64 (k : Int)] w fun e w' => e = .returned (.int .i64 ((2 ^ k : Nat) : Int)) ∧ w = w'
  | 0, _, w => by
    go_enter Try.func35, Try.ntmps35
    go_wp2_with fail
    exact bodyPost_ret (results_tmp rfl _ _ _) rfl ⟨rfl, rfl⟩
  | k + 1, hk, w => by
    have ih := power_any k (by omega)
    have hp : 2 ^ k < 2 ^ 11 := Nat.pow_lt_pow_right (by omega) (by omega)
    have he : (2 : Nat) ^ (k + 1) = 2 * 2 ^ k := by rw [Nat.pow_succ]; omega
    rw [he]
    generalize 2 ^ k = p at ih hp ⊢
    have h1 : ((k + 1 : Nat) : Int) - 1 = (k : Int) := by omega
    have IH := Lib.hid ih
    clear ih he
    go_enter Try.func35, Try.ntmps35
    go_wp2_with fail
    refine (IH.out _).mono ?_
    rintro e w2 ⟨rfl, rfl⟩
    go_wp2_with fail
    exact bodyPost_ret (results_tmp rfl _ _ _) rfl ⟨by first | rfl | (show _ = Ending.returned (.int .i64 ((2 * p : Nat) : Int)); simp) , rfl⟩
end Go.Proofs.Ytjofgomnnpeepaa
