/- The flag; live. -/
import Derived.Test.YtgaoplbocjadaaaYDzp
import Derived.Test.YtgaoplbocjadaaaYArJ
namespace Go.Proofs.Ytgaoplbocjadaaa
open Go.RowKit
set_option linter.unusedSimpArgs false
set_option linter.unusedVariables false
set_option maxRecDepth 100000 in
theorem setflag_on (w : World) (B g : Nat) (T : List (Int × Ent)) (ch : Int) (h : DictAt B g T ch w) (hG : Good T) (hc : 0 ≤ ch ∧ ch ≤ 1000000) (hB : B ≤ w.heap.size) :
    Calls Try.prog 63 #[.pointer (some ⟨g, 0, none⟩), .bool true] w fun e w' => e = .returned (.int .i64 (sE 5118 0 165 T)) ∧ DictAt B g (newT (sE 5118 0 165 T) 5118 0 (sL 5118 0 165 T) T) (newC (sE 5118 0 165 T) 5118 0 (sL 5118 0 165 T) T ch) w' ∧ Oth B w w' := by
  go_enter Try.func63, Try.ntmps63
  go_wp2_with fail
  refine (theFlag_any _).mono ?_
  rintro e w1 ⟨rfl, hb1⟩
  go_wp2_with fail
  refine (at_set 5118 0 165 (h.below hb1) hG hc).mono ?_
  rintro e w2 ⟨rfl, hd2, ho2⟩
  go_wp2_with fail
  go_ret
  exact ⟨rfl, hd2, (Oth.of_below hb1 hB).trans ho2⟩
/-- What the flag's number is said to be. -/
def flN (T : List (Int × Ent)) : Int := numN (thI e0 (numI 5118 0) T).k (thI e0 (numI 5118 0) T).a (thI e0 (numI 5118 0) T).lo (thI e0 (numI 5118 0) T).hi (thI e0 (numI 5118 0) T).b
def flB (T : List (Int × Ent)) : Bool := numB (thI e0 (numI 5118 0) T).k (thI e0 (numI 5118 0) T).a (thI e0 (numI 5118 0) T).lo (thI e0 (numI 5118 0) T).hi (thI e0 (numI 5118 0) T).b
set_option maxRecDepth 100000 in
theorem flag_yes (w : World) (B g : Nat) (T : List (Int × Ent)) (ch : Int) (h : DictAt B g T ch w) (hG : Good T) (hN : flN T = 165) (hB : flB T = true) :
    Calls Try.prog 20 #[.pointer (some ⟨g, 0, none⟩)] w fun e w' => e = .returned (.bool true) ∧ Below w.heap.size w w' := by
  go_enter Try.func20, Try.ntmps20
  go_wp2_with fail
  refine (theFlag_any _).mono ?_
  rintro e w1 ⟨rfl, hb1⟩
  have hn := at_num 5118 0 (h.below hb1) hG
  rw [show numN _ _ _ _ _ = 165 from hN, show numB _ _ _ _ _ = true from hB] at hn
  have HB1 := Lib.hid hb1
  clear hb1 h hG hN hB
  go_wp2_with fail
  refine hn.mono ?_
  rintro e w2 ⟨rfl, hb2⟩
  have HB2 := Lib.hid (kF hb2 HB1.out)
  clear hb2 hn
  go_wp2_with fail
  go_ret
  exact ⟨rfl, HB2.out⟩
def TL : List (Int × Ent) := (layR objL []).2
theorem TL_e : (layR objL []).1 = 0 := by decide +kernel
theorem TL_good : Good TL := layR_good _ ⟨rise_nil, by simp, by simp⟩
def TF : List (Int × Ent) := newT (sE 5118 0 165 TL) 5118 0 (sL 5118 0 165 TL) TL
theorem TF_e : sE 5118 0 165 TL = 0 := by decide +kernel
theorem TF_len : TF.length = 70 := by decide +kernel
theorem TF_num : flN TF = 165 := by decide +kernel
theorem TF_is : flB TF = true := by decide +kernel
theorem TF_fit : fitsA (thI e0 (numI 5118 0) TL).k (thI e0 (numI 5118 0) TL).a (thI e0 (numI 5118 0) TL).lo (thI e0 (numI 5118 0) TL).hi (sL 5118 0 165 TL) = 0 := by decide +kernel
theorem TF_rng : (∀ y ∈ sL 5118 0 165 TL, 0 ≤ y ∧ y ≤ 255) ∧ (sL 5118 0 165 TL).length ≤ 64 := by decide +kernel
theorem fl_num : 256 ≤ numI 5118 0 ∧ numI 5118 0 ≤ 16777215 := by decide +kernel
theorem okE_mk {q k a lo hi : Int} {b : List Int} (h1 : 256 ≤ q ∧ q ≤ 16777215) (h2 : fitsA k a lo hi b = 0) (h3 : ∀ y ∈ b, 0 ≤ y ∧ y ≤ 255) (h4 : b.length ≤ 64) : okE (q, ⟨k, a, lo, hi, b⟩) := ⟨h1, h2, h3, h4⟩
theorem TF_good : Good TF := by
  refine ⟨?_, by rw [TF_len]; omega, ?_⟩
  all_goals
    unfold TF newT
    rw [TF_e, if_pos rfl]
    unfold givT
    split
  · exact TL_good.rise
  · exact rise_put _ _ _ TL_good.rise
  · exact TL_good.ok
  · intro x hx
    rcases putI_from hx with h1 | rfl
    · exact TL_good.ok x h1
    · exact okE_mk fl_num TF_fit TF_rng.1 TF_rng.2
end Go.Proofs.Ytgaoplbocjadaaa
namespace Go.Proofs.Ytgaoplbocjadaaa
open Go.RowKit
set_option linter.unusedSimpArgs false
set_option linter.unusedVariables false
theorem live_word (w : World) : Calls Try.prog 62 #[.agg #[.int .i64 8192, .int .i64 1, .int .i64 16]] w fun e w' => e = .returned (.tuple #[.int .i64 536871184, .int .i64 0]) ∧ Below w.heap.size w w' := word_any 8192 1 16 w
theorem live_lay (w : World) (B g : Nat) (h : DictAt B g [] 0 w) (hB : B ≤ w.heap.size) : Calls Try.prog 42 #[.pointer (some ⟨g, 0, none⟩)] w fun e w' => e = .returned (.int .i64 0) ∧ DictAt B g TL 0 w' ∧ Oth B w w' := by
  have h1 := lay_any w B g [] 0 h ⟨rise_nil, by simp, by simp⟩ hB
  rw [TL_e] at h1
  exact h1
def chF : Int := newC (sE 5118 0 165 TL) 5118 0 (sL 5118 0 165 TL) TL 0
theorem live_set (w : World) (B g : Nat) (h : DictAt B g TL 0 w) (hB : B ≤ w.heap.size) : Calls Try.prog 63 #[.pointer (some ⟨g, 0, none⟩), .bool true] w fun e w' => e = .returned (.int .i64 0) ∧ DictAt B g TF chF w' ∧ Oth B w w' := by
  have h1 := setflag_on w B g TL 0 h TL_good ⟨by decide, by decide⟩ hB
  refine h1.mono ?_
  rintro e w' ⟨rfl, h2, h3⟩
  exact ⟨by rw [TF_e], h2, h3⟩
theorem live_len (w : World) (B g : Nat) (h : DictAt B g TF chF w) : Calls Try.prog 48 #[.pointer (some ⟨g, 0, none⟩)] w fun e w' => e = .returned (.int .i64 70) ∧ w' = w := by
  have h1 := at_len h
  rw [TF_len] at h1
  exact h1
set_option maxRecDepth 100000 in
set_option maxHeartbeats 2000000 in
theorem live15_any (w : World) : Calls Try.prog 18 #[] w fun e w' => e = .returned (.bool true) ∧ Below w.heap.size w w' := by
  go_enter Try.func18, Try.ntmps18
  go_wp2_with fail
  refine (live_word _).mono ?_
  rintro e w1 ⟨rfl, hb1⟩
  have HB1 := Lib.hid hb1
  clear hb1
  go_wp2_with fail
  refine (dnew_any _).mono ?_
  rintro e w2 ⟨g, s, rfl, hd2, hg2, hs2, hb2⟩
  have HD2 : Hid (DictAt w1.heap.size g [] 0 w2) := Lib.hid ⟨s, _, hd2, hg2, hs2, hb2.size⟩
  have HO2 := Lib.hid (Oth.of_below hb2 (Nat.le_refl _))
  clear hd2 hg2 hs2 hb2
  go_wp2_with fail
  refine (live_lay _ w1.heap.size g HD2.out HO2.out.1.size).mono ?_
  rintro e w3 ⟨rfl, hd3, ho3⟩
  have HD3 := Lib.hid hd3
  have HO3 := Lib.hid (HO2.out.trans ho3)
  clear hd3 ho3 HD2 HO2
  go_wp2_with fail
  refine (live_set _ w1.heap.size g HD3.out HO3.out.1.size).mono ?_
  rintro e w4 ⟨rfl, hd4, ho4⟩
  have HD4 := Lib.hid hd4
  have HO4 := Lib.hid (HO3.out.trans ho4)
  clear hd4 ho4 HD3 HO3
  go_wp2_with fail
  refine (flag_yes _ w1.heap.size g TF chF HD4.out TF_good TF_num TF_is).mono ?_
  rintro e w5 ⟨rfl, hb5⟩
  have HD5 := Lib.hid (HD4.out.below hb5)
  have HB5 : Hid (Below w1.heap.size w1 w5) := Lib.hid (HO4.out.1.trans (hb5.mono HO4.out.1.size))
  clear hb5 HD4 HO4
  go_wp2_with fail
  refine (live_len _ w1.heap.size g HD5.out).mono ?_
  rintro e w6 ⟨rfl, rfl⟩
  go_wp2_with fail
  go_ret
  exact ⟨rfl, kF HB5.out HB1.out⟩
end Go.Proofs.Ytgaoplbocjadaaa