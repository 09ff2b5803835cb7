/- nmt: what Obey and the document's Behind answer; live. -/
import Derived.Test.YtnijdcbpllmieaaNe2
import Derived.Test.YtnijdcbpllmieaaNe3
namespace Go.Proofs.Ytnijdcbpllmieaa
open Go.RowKit
set_option linter.unusedSimpArgs false
set_option linter.unusedVariables false

theorem nxt_stay {nd md v n : Int} (h : md = 0 ∨ mayO v n = false ∨ (¬ n = 0 ∧ ¬ n = nd)) : nxt nd md v n = md := if_pos h
theorem nxt_go {nd md v n : Int} (h0 : ¬ md = 0) (h1 : mayO v n = true) (h2 : n = 0 ∨ n = nd) : nxt nd md v n = mdOf v := if_neg (by rw [h1]; simp [h0]; omega)
theorem obey_any (w : World) (g : Nat) (nd md v n : Int) (h : MaAt w g nd md) (hm : md = 0 ∨ md = 4 ∨ md = 5 ∨ md = 127) :
    Calls Try.prog 16 #[.pointer (some ⟨g, 0, none⟩), .agg #[.int .i64 v, .int .i64 n]] w fun e w' => e = .returned (.bool (nxt nd md v n != md)) ∧ MaAt w' g nd (nxt nd md v n) ∧ w.grownBy w' (some g) := by
  have hst : nxt nd md v n = md → Calls Try.prog 16 #[.pointer (some ⟨g, 0, none⟩), .agg #[.int .i64 v, .int .i64 n]] w (fun e w' => e = .returned (.bool false) ∧ Below w.heap.size w w') → Calls Try.prog 16 #[.pointer (some ⟨g, 0, none⟩), .agg #[.int .i64 v, .int .i64 n]] w fun e w' => e = .returned (.bool (nxt nd md v n != md)) ∧ MaAt w' g nd (nxt nd md v n) ∧ w.grownBy w' (some g) := fun e hc => by
    rw [e]
    refine hc.mono ?_
    rintro e w' ⟨rfl, hb⟩
    exact ⟨by simp, h.below hb h.lt, gb_below hb _⟩
  by_cases h0 : md = 0
  · exact hst (nxt_stay (.inl h0)) (obey_boot w g nd md v n h h0)
  · have hm' : md = 4 ∨ md = 5 ∨ md = 127 := by omega
    cases h1 : mayO v n with
    | false => exact hst (nxt_stay (.inr (.inl h1))) (obey_bad w g nd md v n h hm' h1)
    | true =>
      by_cases h2 : n = 0
      · rw [nxt_go h0 h1 (.inl h2)]
        subst h2
        exact obey_all w g nd md v h hm' h1
      · by_cases h3 : n = nd
        · rw [nxt_go h0 h1 (.inr h3)]
          exact obey_own w g nd md v n h hm' h1 h2 h3
        · exact hst (nxt_stay (.inr (.inr ⟨h2, h3⟩))) (obey_else w g nd md v n h hm' h1 h2 h3)
theorem obey_nil (w : World) (v n : Int) : Calls Try.prog 16 #[.pointer none, .agg #[.int .i64 v, .int .i64 n]] w fun e w' => e = .returned (.bool false) ∧ Below w.heap.size w w' := by
  have HB := Lib.hid (show Below w.heap.size w (w.alloc (.cells #[.int .i64 v, .int .i64 n] 24)) from (Below.refl _ _).alloc (Nat.le_refl _) _)
  go_enter Try.func16, Try.ntmps16
  go_wp2_with fail
  generalize (w.alloc (.cells #[.int .i64 v, .int .i64 n] 24)) = w0 at HB ⊢
  go_quiet (fail)
  go_wp2_with fail
  go_ret
  exact ⟨rfl, ⟨HB.out.os, HB.out.tape, HB.out.output, HB.out.size, HB.out.block⟩⟩
theorem behind_boot (nd md v n : Int) (w : World) (h0 : md = 0) : Calls Try.prog 14 #[.int .i64 nd, .int .i64 md, .agg #[.int .i64 v, .int .i64 n]] w fun e w' => e = .returned (.int .i64 md) ∧ Below w.heap.size w w' := by
  have HO := Lib.hid (or_new w v n)
  have HB := Lib.hid (show Below w.heap.size w (w.alloc (.cells #[.int .i64 v, .int .i64 n] 24)) from (Below.refl _ _).alloc (Nat.le_refl _) _)
  subst h0
  go_enter Try.func14, Try.ntmps14
  go_wp2_with fail
  all_goals first | (exfalso; omega) | (go_ret; exact ⟨rfl, HB.out⟩)
theorem behind_bad (nd md v n : Int) (w : World) (h0 : ¬ md = 0) (h2 : mayO v n = false) : Calls Try.prog 14 #[.int .i64 nd, .int .i64 md, .agg #[.int .i64 v, .int .i64 n]] w fun e w' => e = .returned (.int .i64 md) ∧ Below w.heap.size w w' := by
  have HO := Lib.hid (or_new w v n)
  have HB := Lib.hid (show Below w.heap.size w (w.alloc (.cells #[.int .i64 v, .int .i64 n] 24)) from (Below.refl _ _).alloc (Nat.le_refl _) _)
  have t0 : (md == 0) = false := by simpa using h0
  clear h0
  have hm := rmay_any v n
  rw [h2] at hm
  have HM := Lib.hid hm
  clear hm
  clear h2
  go_enter Try.func14, Try.ntmps14
  go_wp2_with (go_at_call 8; refine (HM.out _).mono ?_; rintro e w1 ⟨rfl, hb1⟩; have ho1 := OrAt.below HO.out hb1 HO.out.lt; have HB1 := Lib.hid (HB.out.trans (hb1.mono HB.out.size)); obtain ⟨c0, c1⟩ := ho1.cells; clear hb1 ho1)
  all_goals first | (exfalso; omega) | (go_ret; exact ⟨rfl, HB1.out⟩)
theorem behind_else (nd md v n : Int) (w : World) (h0 : ¬ md = 0) (h2 : mayO v n = true) (h3 : ¬ n = 0) (h4 : ¬ n = nd) : Calls Try.prog 14 #[.int .i64 nd, .int .i64 md, .agg #[.int .i64 v, .int .i64 n]] w fun e w' => e = .returned (.int .i64 md) ∧ Below w.heap.size w w' := by
  have HO := Lib.hid (or_new w v n)
  have HB := Lib.hid (show Below w.heap.size w (w.alloc (.cells #[.int .i64 v, .int .i64 n] 24)) from (Below.refl _ _).alloc (Nat.le_refl _) _)
  have t0 : (md == 0) = false := by simpa using h0
  clear h0
  have hm := rmay_any v n
  rw [h2] at hm
  have HM := Lib.hid hm
  clear hm
  clear h2
  have t1 : (n != 0) = true := by simpa using h3
  have t2 : (n != nd) = true := by simpa using h4
  clear h3 h4
  go_enter Try.func14, Try.ntmps14
  go_wp2_with (go_at_call 8; refine (HM.out _).mono ?_; rintro e w1 ⟨rfl, hb1⟩; have ho1 := OrAt.below HO.out hb1 HO.out.lt; have HB1 := Lib.hid (HB.out.trans (hb1.mono HB.out.size)); obtain ⟨c0, c1⟩ := ho1.cells; clear hb1 ho1)
  all_goals first | (exfalso; omega) | (go_ret; exact ⟨rfl, HB1.out⟩)
theorem behind_all (nd md v n : Int) (w : World) (h0 : ¬ md = 0) (h2 : mayO v n = true) (h3 : n = 0) : Calls Try.prog 14 #[.int .i64 nd, .int .i64 md, .agg #[.int .i64 v, .int .i64 n]] w fun e w' => e = .returned (.int .i64 (mdOf v)) ∧ Below w.heap.size w w' := by
  have HO := Lib.hid (or_new w v n)
  have HB := Lib.hid (show Below w.heap.size w (w.alloc (.cells #[.int .i64 v, .int .i64 n] 24)) from (Below.refl _ _).alloc (Nat.le_refl _) _)
  have t0 : (md == 0) = false := by simpa using h0
  clear h0
  have hm := rmay_any v n
  rw [h2] at hm
  have HM := Lib.hid hm
  clear hm
  have t1 : (n != 0) = false := by simpa using h3
  clear h3
  rcases (mayO_yes h2).1 with rfl | rfl | rfl | rfl | rfl
  all_goals
    clear h2
    go_enter Try.func14, Try.ntmps14
    go_wp2_with (go_at_call 8; refine (HM.out _).mono ?_; rintro e w1 ⟨rfl, hb1⟩; have ho1 := OrAt.below HO.out hb1 HO.out.lt; have HB1 := Lib.hid (HB.out.trans (hb1.mono HB.out.size)); obtain ⟨c0, c1⟩ := ho1.cells; clear hb1 ho1)
    all_goals first | (exfalso; omega) | (go_ret; exact ⟨rfl, HB1.out⟩)
theorem behind_own (nd md v n : Int) (w : World) (h0 : ¬ md = 0) (h2 : mayO v n = true) (h3 : ¬ n = 0) (h4 : n = nd) : Calls Try.prog 14 #[.int .i64 nd, .int .i64 md, .agg #[.int .i64 v, .int .i64 n]] w fun e w' => e = .returned (.int .i64 (mdOf v)) ∧ Below w.heap.size w w' := by
  have HO := Lib.hid (or_new w v n)
  have HB := Lib.hid (show Below w.heap.size w (w.alloc (.cells #[.int .i64 v, .int .i64 n] 24)) from (Below.refl _ _).alloc (Nat.le_refl _) _)
  have t0 : (md == 0) = false := by simpa using h0
  clear h0
  have hm := rmay_any v n
  rw [h2] at hm
  have HM := Lib.hid hm
  clear hm
  have t1 : (n != 0) = true := by simpa using h3
  have t2 : (n != nd) = false := by simpa using h4
  clear h3 h4
  rcases (mayO_yes h2).1 with rfl | rfl | rfl | rfl | rfl
  all_goals
    clear h2
    go_enter Try.func14, Try.ntmps14
    go_wp2_with (go_at_call 8; refine (HM.out _).mono ?_; rintro e w1 ⟨rfl, hb1⟩; have ho1 := OrAt.below HO.out hb1 HO.out.lt; have HB1 := Lib.hid (HB.out.trans (hb1.mono HB.out.size)); obtain ⟨c0, c1⟩ := ho1.cells; clear hb1 ho1)
    all_goals first | (exfalso; omega) | (go_ret; exact ⟨rfl, HB1.out⟩)
theorem rbehind_any (nd md v n : Int) (w : World) : Calls Try.prog 14 #[.int .i64 nd, .int .i64 md, .agg #[.int .i64 v, .int .i64 n]] w fun e w' => e = .returned (.int .i64 (nxt nd md v n)) ∧ Below w.heap.size w w' := by
  by_cases h0 : md = 0
  · rw [nxt_stay (.inl h0)]; exact behind_boot nd md v n w h0
  · cases h1 : mayO v n with
    | false => rw [nxt_stay (.inr (.inl h1))]; exact behind_bad nd md v n w h0 h1
    | true =>
      by_cases h2 : n = 0
      · rw [nxt_go h0 h1 (.inl h2)]; exact behind_all nd md v n w h0 h1 h2
      · by_cases h3 : n = nd
        · rw [nxt_go h0 h1 (.inr h3)]; exact behind_own nd md v n w h0 h1 h2 h3
        · rw [nxt_stay (.inr (.inr ⟨h2, h3⟩))]; exact behind_else nd md v n w h0 h1 h2 h3
end Go.Proofs.Ytnijdcbpllmieaa
