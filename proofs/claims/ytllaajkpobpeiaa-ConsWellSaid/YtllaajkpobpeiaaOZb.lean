/- guard: the calls of a guard, of none, and what New makes. -/
import Derived.Test.YtllaajkpobpeiaaOZa
namespace Go.Proofs.Ytllaajkpobpeiaa
open Go.RowKit
set_option linter.unusedSimpArgs false
set_option linter.unusedVariables false
/-! ### A nil guard -/
theorem awake_nil (w : World) : Calls Try.prog 81 #[.pointer none] w fun e w' => e = .returned (.bool false) ∧ w = w' := by
  go_enter Try.func81, Try.ntmps81
  go_wp2
  go_ret
  exact ⟨rfl, rfl⟩
theorem whole_nil (w : World) : Calls Try.prog 65 #[.pointer none, .int .i64 1] w fun e w' => e = .returned (.tuple #[]) ∧ w = w' := by
  go_enter Try.func65, Try.ntmps65
  go_wp2_with (go_at_call 81; refine (awake_nil _).mono ?_; rintro e w2 ⟨rfl, rfl⟩)
  go_end0
  exact ⟨rfl, rfl⟩
theorem wake_nil (w : World) : Calls Try.prog 75 #[.pointer none, .int .i64 1] w fun e w' => e = .returned (.bool false) ∧ w = w' := by
  go_enter Try.func75, Try.ntmps75
  go_wp2_with fail
  go_ret
  exact ⟨rfl, rfl⟩
theorem check_nil (w : World) : Calls Try.prog 76 #[.pointer none, .int .i64 1] w fun e w' => e = .returned (.int .i64 0) ∧ w = w' := by
  go_enter Try.func76, Try.ntmps76
  go_wp2_with (go_at_call 81; refine (awake_nil _).mono ?_; rintro e w2 ⟨rfl, rfl⟩)
  go_ret
  exact ⟨rfl, rfl⟩
/-! ### New -/
theorem gnew_no (T G : Int) (w : World) (h : isL T = false ∨ isL G = false) : Calls Try.prog 74 #[.int .i64 T, .int .i64 G] w fun e w' => e = .returned (.tuple #[.pointer none, .int .i64 2]) ∧ w = w' := by
  have HL := Lib.hid (fun n w => limit_any n w)
  cases hT : isL T with
  | false =>
    have HT := Lib.hid hT
    clear h hT
    go_enter Try.func74, Try.ntmps74
    go_wp2_with (go_at_call 89; refine (HL.out _ _).mono ?_; rw [HT.out]; rintro e w2 ⟨rfl, rfl⟩)
    go_ret2
    exact ⟨rfl, rfl⟩
  | true =>
    have HT := Lib.hid hT
    have HG := Lib.hid (h.resolve_left (by rw [hT]; simp))
    clear h hT
    go_enter Try.func74, Try.ntmps74
    go_wp2_with (go_at_call 89; refine (HL.out _ _).mono ?_; (first | rw [HT.out] | rw [HG.out]); rintro e w2 ⟨rfl, rfl⟩)
    go_ret2
    exact ⟨rfl, rfl⟩
theorem gnew_ok (T G : Int) (w : World) (hT : isL T = true) (hG : isL G = true) : Calls Try.prog 74 #[.int .i64 T, .int .i64 G] w fun e w' => ∃ g, w.heap.size ≤ g ∧ e = .returned (.tuple #[.pointer (some ⟨g, 0, none⟩), .int .i64 0]) ∧ GdAt w' g T false 0 G false 0 ∧ Below w.heap.size w w' := by
  have HL := Lib.hid (fun n w => limit_any n w)
  have HT := Lib.hid hT
  have HG := Lib.hid hG
  have HX := Lib.hid (show GdAt (w.alloc (.cells #[.int .i64 T, .bool false, .int .i64 0, .int .i64 G, .bool false, .int .i64 0] 136)) w.heap.size T false 0 G false 0 from heap_alloc_new w _)
  have HB := Lib.hid ((Below.refl w.heap.size w).alloc (Nat.le_refl _) (.cells #[.int .i64 T, .bool false, .int .i64 0, .int .i64 G, .bool false, .int .i64 0] 136))
  clear hT hG
  go_enter Try.func74, Try.ntmps74
  go_wp2_with (go_at_call 89; refine (HL.out _ _).mono ?_; (first | rw [HT.out] | rw [HG.out]); rintro e w2 ⟨rfl, rfl⟩)
  go_ret2
  exact ⟨w.heap.size, Nat.le_refl _, rfl, HX.out, HB.out⟩
/-! ### A guard -/
section
variable {g : Nat} {w : World} {T f G k : Int} {a b : Bool}
theorem awake_any (h : GdAt w g T a f G b k) : Calls Try.prog 81 #[.pointer (some ⟨g, 0, none⟩)] w fun e w' => e = .returned (.bool a) ∧ w = w' := by
  obtain ⟨c0, c1, c2, c3, c4, c5⟩ := h.cells
  clear h
  go_enter Try.func81, Try.ntmps81
  go_wp2_with fail
  go_ret
  exact ⟨rfl, rfl⟩
theorem half_no (n : Int) (h : GdAt w g T false f G b k) : Calls Try.prog 64 #[.pointer (some ⟨g, 0, none⟩), .int .i64 n] w fun e w' => e = .returned (.tuple #[]) ∧ w = w' := by
  have HA := Lib.hid (awake_any h)
  clear h
  go_enter Try.func64, Try.ntmps64
  go_wp2_with (go_at_call 81; refine (HA.out).mono ?_; rintro e w2 ⟨rfl, rfl⟩)
  go_end0
  exact ⟨rfl, rfl⟩
theorem half_yes (n : Int) (h : GdAt w g T true f G b k) (h0 : 0 ≤ n) (h1 : n ≤ 2147483647) : Calls Try.prog 64 #[.pointer (some ⟨g, 0, none⟩), .int .i64 n] w fun e w' => e = .returned (.tuple #[]) ∧ GdAt w' g T true f G true n ∧ Onl g w w' := by
  have HA := Lib.hid (awake_any h)
  have HT := Lib.hid (tick_ok w h0 h1)
  have HX := Lib.hid h
  clear h h0 h1
  go_enter Try.func64, Try.ntmps64
  go_wp2_with (first
    | (go_at_call 81; refine (HA.out).mono ?_; rintro e w2 ⟨rfl, rfl⟩)
    | (go_at_call 82; refine (HT.out).mono ?_; rintro e w2 ⟨rfl, rfl⟩)
    | (go_at_call 83; refine (wbegin3 n HX.out).mono ?_; rintro e w3 ⟨rfl, hw3, ow3⟩; have HGw3 := Lib.hid hw3; have HOw3 := Lib.hid ow3; clear hw3 ow3))
  go_end0
  exact ⟨rfl, HGw3.out, HOw3.out⟩
theorem whole_no (n : Int) (h : GdAt w g T false f G b k) : Calls Try.prog 65 #[.pointer (some ⟨g, 0, none⟩), .int .i64 n] w fun e w' => e = .returned (.tuple #[]) ∧ w = w' := by
  have HA := Lib.hid (awake_any h)
  clear h
  go_enter Try.func65, Try.ntmps65
  go_wp2_with (go_at_call 81; refine (HA.out).mono ?_; rintro e w2 ⟨rfl, rfl⟩)
  go_end0
  exact ⟨rfl, rfl⟩
theorem whole_yes (n : Int) (h : GdAt w g T true f G b k) (h0 : 0 ≤ n) (h1 : n ≤ 2147483647) : Calls Try.prog 65 #[.pointer (some ⟨g, 0, none⟩), .int .i64 n] w fun e w' => e = .returned (.tuple #[]) ∧ GdAt w' g T true n G false k ∧ Onl g w w' := by
  have HA := Lib.hid (awake_any h)
  have HT := Lib.hid (tick_ok w h0 h1)
  have HX := Lib.hid h
  clear h h0 h1
  go_enter Try.func65, Try.ntmps65
  go_wp2_with (first
    | (go_at_call 81; refine (HA.out).mono ?_; rintro e w2 ⟨rfl, rfl⟩)
    | (go_at_call 82; refine (HT.out).mono ?_; rintro e w2 ⟨rfl, rfl⟩)
    | (go_at_call 83; refine (wbegin0 n HX.out).mono ?_; rintro e w3 ⟨rfl, hw3, ow3⟩; have HGw3 := Lib.hid hw3; have HOw3 := Lib.hid ow3; clear hw3 ow3)
    | (go_at_call 84; refine (wend3 HGw3.out).mono ?_; rintro e w4 ⟨rfl, hw4, ow4⟩; have HGw4 := Lib.hid hw4; have HOw4 := Lib.hid ow4; clear hw4 ow4))
  go_end0
  exact ⟨rfl, HGw4.out, HOw3.out.trans HOw4.out⟩
theorem wake_no (n : Int) (h : GdAt w g T true f G b k) : Calls Try.prog 75 #[.pointer (some ⟨g, 0, none⟩), .int .i64 n] w fun e w' => e = .returned (.bool false) ∧ w = w' := by
  have HA := Lib.hid (awake_any h)
  clear h
  go_enter Try.func75, Try.ntmps75
  go_wp2_with (go_at_call 81; refine (HA.out).mono ?_; rintro e w2 ⟨rfl, rfl⟩)
  go_ret
  exact ⟨rfl, rfl⟩
theorem wake_yes (n : Int) (h : GdAt w g T false f G b k) (h0 : 0 ≤ n) (h1 : n ≤ 2147483647) : Calls Try.prog 75 #[.pointer (some ⟨g, 0, none⟩), .int .i64 n] w fun e w' => e = .returned (.bool true) ∧ GdAt w' g T true n G b k ∧ Onl g w w' := by
  have HA := Lib.hid (awake_any h)
  have HT := Lib.hid (tick_ok w h0 h1)
  have HX := Lib.hid h
  clear h h0 h1
  go_enter Try.func75, Try.ntmps75
  go_wp2_with (first
    | (go_at_call 81; refine (HA.out).mono ?_; rintro e w2 ⟨rfl, rfl⟩)
    | (go_at_call 82; refine (HT.out).mono ?_; rintro e w2 ⟨rfl, rfl⟩)
    | (go_at_call 83; refine (wbegin0 n HX.out).mono ?_; rintro e w3 ⟨rfl, hw3, ow3⟩; have HGw3 := Lib.hid hw3; have HOw3 := Lib.hid ow3; clear hw3 ow3))
  go_ret
  exact ⟨rfl, HGw3.out, HOw3.out⟩
end
/-- Why it has taken too long. -/
def chE (a : Bool) (f T : Int) (b : Bool) (k G n : Int) : Int := if a then (if lastE a f T < n then 4 else if lastE b k G < n then 5 else 0) else 0
section
variable {g : Nat} {w : World} {T f G k : Int} {a b : Bool}
set_option maxHeartbeats 1000000 in
theorem gcheck_any (n : Int) (h : GdAt w g T a f G b k) (h0 : 0 ≤ f + T) (h1 : f + T ≤ 4294967296) (h2 : 0 ≤ k + G) (h3 : k + G ≤ 4294967296) : Calls Try.prog 76 #[.pointer (some ⟨g, 0, none⟩), .int .i64 n] w fun e w' => e = .returned (.int .i64 (chE a f T b k G n)) ∧ ∃ m, w' = w.drewN m := by
  have HA := Lib.hid (awake_any h)
  have H0 := Lib.hid (wover0 n h h0 h1)
  have H3 := Lib.hid (fun m => wover3 n (show GdAt (w.drewN m) g T a f G b k from h) h2 h3)
  clear h h0 h1 h2 h3
  cases a with
  | false =>
    rw [show chE false f T b k G n = 0 from rfl]
    go_enter Try.func76, Try.ntmps76
    go_wp2_with (go_at_call 81; refine (HA.out).mono ?_; rintro e w2 ⟨rfl, rfl⟩)
    go_ret
    exact ⟨rfl, 0, rfl⟩
  | true =>
    by_cases hx : lastE true f T < n
    · rw [show chE true f T b k G n = 4 from if_pos hx]
      rw [decide_eq_true hx] at H0
      clear hx
      go_enter Try.func76, Try.ntmps76
      go_wp2_with (first
        | (go_at_call 81; refine (HA.out).mono ?_; rintro e w2 ⟨rfl, rfl⟩)
        | (go_at_call 90; (with_reducible refine (H0.out).mono ?_); rintro e w3 ⟨rfl, m3, rfl⟩))
      go_ret
      exact ⟨rfl, m3, rfl⟩
    · rw [decide_eq_false hx] at H0
      by_cases hy : lastE b k G < n
      · rw [show chE true f T b k G n = 5 from (if_neg hx).trans (if_pos hy)]
        simp only [decide_eq_true hy] at H3
        clear hx hy
        go_enter Try.func76, Try.ntmps76
        go_wp2_with (first
          | (go_at_call 81; refine (HA.out).mono ?_; rintro e w2 ⟨rfl, rfl⟩)
          | (go_at_call 90; (with_reducible refine (H0.out).mono ?_); rintro e w3 ⟨rfl, m3, rfl⟩)
          | (go_at_call 90; (with_reducible refine (H3.out _).mono ?_); rintro e w4 ⟨rfl, m4, rfl⟩))
        go_ret
        exact ⟨rfl, m3 + m4, by simp only [World.drewN_drewN]⟩
      · rw [show chE true f T b k G n = 0 from (if_neg hx).trans (if_neg hy)]
        simp only [decide_eq_false hy] at H3
        clear hx hy
        go_enter Try.func76, Try.ntmps76
        go_wp2_with (first
          | (go_at_call 81; refine (HA.out).mono ?_; rintro e w2 ⟨rfl, rfl⟩)
          | (go_at_call 90; (with_reducible refine (H0.out).mono ?_); rintro e w3 ⟨rfl, m3, rfl⟩)
          | (go_at_call 90; (with_reducible refine (H3.out _).mono ?_); rintro e w4 ⟨rfl, m4, rfl⟩))
        go_ret
        exact ⟨rfl, m3 + m4, by simp only [World.drewN_drewN]⟩
end
end Go.Proofs.Ytllaajkpobpeiaa