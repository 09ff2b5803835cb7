/- live. -/
import Derived.Test.YtkgopaelfmppiaaArK
namespace Go.Proofs.Ytkgopaelfmppiaa
open Go.RowKit
set_option linter.unusedSimpArgs false
set_option linter.unusedVariables false
theorem live_word (w : World) : Calls Try.prog 14 #[.agg #[.int .i64 8192, .int .i64 1, .int .i64 16]] w fun e w' => e = .returned (.tuple #[.int .i64 536871184, .int .i64 0]) ∧ Below w.heap.size w w' := word_any 8192 1 16 w
theorem live_lay (w : World) (B g : Nat) (h : DictAt B g [] 0 w) (hB : B ≤ w.heap.size) : Calls Try.prog 12 #[.pointer (some ⟨g, 0, none⟩)] w fun e w' => e = .returned (.int .i64 0) ∧ DictAt B g TL 0 w' ∧ Oth B w w' := by
  have h1 := lay_any w B g [] 0 h ⟨rise_nil, by simp, by simp⟩ hB
  rw [TL_e] at h1
  exact h1
def chF : Int := newC (sE 5118 0 165 TL) 5118 0 (sL 5118 0 165 TL) TL 0
theorem live_set (w : World) (B g : Nat) (h : DictAt B g TL 0 w) (hB : B ≤ w.heap.size) : Calls Try.prog 41 #[.pointer (some ⟨g, 0, none⟩), .bool true] w fun e w' => e = .returned (.int .i64 0) ∧ DictAt B g TF chF w' ∧ Oth B w w' := by
  have h1 := setflag_on w B g TL 0 h TL_good ⟨by decide, by decide⟩ hB
  refine h1.mono ?_
  rintro e w' ⟨rfl, h2, h3⟩
  exact ⟨by rw [TF_e], h2, h3⟩
theorem live_len (w : World) (B g : Nat) (h : DictAt B g TF chF w) : Calls Try.prog 38 #[.pointer (some ⟨g, 0, none⟩)] w fun e w' => e = .returned (.int .i64 70) ∧ w' = w := by
  have h1 := at_len h
  rw [TF_len] at h1
  exact h1
set_option maxRecDepth 100000 in
set_option maxHeartbeats 2000000 in
theorem live15_any (w : World) : Calls Try.prog 11 #[] w fun e w' => e = .returned (.bool true) ∧ Below w.heap.size w w' := by
  go_enter Try.func11, Try.ntmps11
  go_wp2_with fail
  refine (live_word _).mono ?_
  rintro e w1 ⟨rfl, hb1⟩
  have HB1 := Lib.hid hb1
  clear hb1
  go_wp2_with fail
  refine (dnew_any _).mono ?_
  rintro e w2 ⟨g, s, rfl, hd2, hg2, hs2, hb2⟩
  have HD2 : Hid (DictAt w1.heap.size g [] 0 w2) := Lib.hid ⟨s, _, hd2, hg2, hs2, hb2.size⟩
  have HO2 := Lib.hid (Oth.of_below hb2 (Nat.le_refl _))
  clear hd2 hg2 hs2 hb2
  go_wp2_with fail
  refine (live_lay _ w1.heap.size g HD2.out HO2.out.1.size).mono ?_
  rintro e w3 ⟨rfl, hd3, ho3⟩
  have HD3 := Lib.hid hd3
  have HO3 := Lib.hid (HO2.out.trans ho3)
  clear hd3 ho3 HD2 HO2
  go_wp2_with fail
  refine (live_set _ w1.heap.size g HD3.out HO3.out.1.size).mono ?_
  rintro e w4 ⟨rfl, hd4, ho4⟩
  have HD4 := Lib.hid hd4
  have HO4 := Lib.hid (HO3.out.trans ho4)
  clear hd4 ho4 HD3 HO3
  go_wp2_with fail
  refine (flag_yes _ w1.heap.size g TF chF HD4.out TF_good TF_num TF_is).mono ?_
  rintro e w5 ⟨rfl, hb5⟩
  have HD5 := Lib.hid (HD4.out.below hb5)
  have HB5 : Hid (Below w1.heap.size w1 w5) := Lib.hid (HO4.out.1.trans (hb5.mono HO4.out.1.size))
  clear hb5 HD4 HO4
  go_wp2_with fail
  refine (live_len _ w1.heap.size g HD5.out).mono ?_
  rintro e w6 ⟨rfl, rfl⟩
  go_wp2_with fail
  go_ret
  exact ⟨rfl, kF HB5.out HB1.out⟩
end Go.Proofs.Ytkgopaelfmppiaa
