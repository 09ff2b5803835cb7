/- The flag; live. -/
import Derived.Test.YtkgopaelfmppiaaADzp
import Derived.Test.YtkgopaelfmppiaaArJ
namespace Go.Proofs.Ytkgopaelfmppiaa
open Go.RowKit
set_option linter.unusedSimpArgs false
set_option linter.unusedVariables false
set_option maxRecDepth 100000 in
theorem setflag_on (w : World) (B g : Nat) (T : List (Int × Ent)) (ch : Int) (h : DictAt B g T ch w) (hG : Good T) (hc : 0 ≤ ch ∧ ch ≤ 1000000) (hB : B ≤ w.heap.size) :
    Calls Try.prog 41 #[.pointer (some ⟨g, 0, none⟩), .bool true] w fun e w' => e = .returned (.int .i64 (sE 5118 0 165 T)) ∧ DictAt B g (newT (sE 5118 0 165 T) 5118 0 (sL 5118 0 165 T) T) (newC (sE 5118 0 165 T) 5118 0 (sL 5118 0 165 T) T ch) w' ∧ Oth B w w' := by
  go_enter Try.func41, Try.ntmps41
  go_wp2_with fail
  refine (theFlag_any _).mono ?_
  rintro e w1 ⟨rfl, hb1⟩
  go_wp2_with fail
  refine (at_set 5118 0 165 (h.below hb1) hG hc).mono ?_
  rintro e w2 ⟨rfl, hd2, ho2⟩
  go_wp2_with fail
  go_ret
  exact ⟨rfl, hd2, (Oth.of_below hb1 hB).trans ho2⟩
/-- What the flag's number is said to be. -/
def flN (T : List (Int × Ent)) : Int := numN (thI e0 (numI 5118 0) T).k (thI e0 (numI 5118 0) T).a (thI e0 (numI 5118 0) T).lo (thI e0 (numI 5118 0) T).hi (thI e0 (numI 5118 0) T).b
def flB (T : List (Int × Ent)) : Bool := numB (thI e0 (numI 5118 0) T).k (thI e0 (numI 5118 0) T).a (thI e0 (numI 5118 0) T).lo (thI e0 (numI 5118 0) T).hi (thI e0 (numI 5118 0) T).b
set_option maxRecDepth 100000 in
theorem flag_yes (w : World) (B g : Nat) (T : List (Int × Ent)) (ch : Int) (h : DictAt B g T ch w) (hG : Good T) (hN : flN T = 165) (hB : flB T = true) :
    Calls Try.prog 26 #[.pointer (some ⟨g, 0, none⟩)] w fun e w' => e = .returned (.bool true) ∧ Below w.heap.size w w' := by
  go_enter Try.func26, Try.ntmps26
  go_wp2_with fail
  refine (theFlag_any _).mono ?_
  rintro e w1 ⟨rfl, hb1⟩
  have hn := at_num 5118 0 (h.below hb1) hG
  rw [show numN _ _ _ _ _ = 165 from hN, show numB _ _ _ _ _ = true from hB] at hn
  have HB1 := Lib.hid hb1
  clear hb1 h hG hN hB
  go_wp2_with fail
  refine hn.mono ?_
  rintro e w2 ⟨rfl, hb2⟩
  have HB2 := Lib.hid (kF hb2 HB1.out)
  clear hb2 hn
  go_wp2_with fail
  go_ret
  exact ⟨rfl, HB2.out⟩
def TL : List (Int × Ent) := (layR objL []).2
theorem TL_e : (layR objL []).1 = 0 := by decide +kernel
theorem TL_good : Good TL := layR_good _ ⟨rise_nil, by simp, by simp⟩
def TF : List (Int × Ent) := newT (sE 5118 0 165 TL) 5118 0 (sL 5118 0 165 TL) TL
theorem TF_e : sE 5118 0 165 TL = 0 := by decide +kernel
theorem TF_len : TF.length = 70 := by decide +kernel
theorem TF_num : flN TF = 165 := by decide +kernel
theorem TF_is : flB TF = true := by decide +kernel
theorem TF_fit : fitsA (thI e0 (numI 5118 0) TL).k (thI e0 (numI 5118 0) TL).a (thI e0 (numI 5118 0) TL).lo (thI e0 (numI 5118 0) TL).hi (sL 5118 0 165 TL) = 0 := by decide +kernel
theorem TF_rng : (∀ y ∈ sL 5118 0 165 TL, 0 ≤ y ∧ y ≤ 255) ∧ (sL 5118 0 165 TL).length ≤ 64 := by decide +kernel
theorem fl_num : 256 ≤ numI 5118 0 ∧ numI 5118 0 ≤ 16777215 := by decide +kernel
theorem okE_mk {q k a lo hi : Int} {b : List Int} (h1 : 256 ≤ q ∧ q ≤ 16777215) (h2 : fitsA k a lo hi b = 0) (h3 : ∀ y ∈ b, 0 ≤ y ∧ y ≤ 255) (h4 : b.length ≤ 64) : okE (q, ⟨k, a, lo, hi, b⟩) := ⟨h1, h2, h3, h4⟩
theorem TF_good : Good TF := by
  refine ⟨?_, by rw [TF_len]; omega, ?_⟩
  all_goals
    unfold TF newT
    rw [TF_e, if_pos rfl]
    unfold givT
    split
  · exact TL_good.rise
  · exact rise_put _ _ _ TL_good.rise
  · exact TL_good.ok
  · intro x hx
    rcases putI_from hx with h1 | rfl
    · exact TL_good.ok x h1
    · exact okE_mk fl_num TF_fit TF_rng.1 TF_rng.2
end Go.Proofs.Ytkgopaelfmppiaa
