/- What the document's own Get answers: the same as word.Get. -/
import Derived.Test.YtacfpdjpionolaaDVWordC
namespace Go.Proofs.Ytacfpdjpionolaa
open Go.RowKit
theorem rget_none (k : Int) (w : World) (A : Option Addr) (n c : Nat) (l : List Int) (hs : kSize k = 0) : Calls Try.prog 54 #[.int .i64 k, .slice A n c] w (GetPost k l w) := by
  have hsh := fun w => shape_any k w
  rw [hs] at hsh
  have HSH := Lib.hid hsh
  have HS := Lib.hid hs
  clear hsh hs
  go_enter Try.func54, Try.ntmps54
  go_wp2_with (go_at_call 53; refine (HSH.out _).mono ?_; rintro e w1 ⟨rfl, rfl⟩)
  go_ret2
  exact get_end_none HS.out (Below.refl _ _)

theorem rget_len (k : Int) (w : World) (A : Option Addr) (n c : Nat) (l : List Int) (hl : l.length = n) (hs : ¬ kSize k = 0) (hn : ¬ kSize k = l.length) : Calls Try.prog 54 #[.int .i64 k, .slice A n c] w (GetPost k l w) := by
  have HS := Lib.hid hs
  have HN := Lib.hid hn
  have d1 : (kSize k == 0) = false := by simpa using hs
  have d2 : ((n : Int) == kSize k) = false := by simp; omega
  have d3 : ((n : Int) != kSize k) = true := by simp; omega
  clear hs hn hl
  go_enter Try.func54, Try.ntmps54
  go_wp2_with (go_at_call 53; refine (shape_any _ _).mono ?_; rintro e w1 ⟨rfl, rfl⟩)
  go_ret2
  exact get_end_len HS.out HN.out (Below.refl _ _)

theorem get_end_yes2 {k n m : Int} {l : List Int} {W w' : World} (h : 0 < kSize k) (hl : kSize k = l.length) (hn : valL k l = n) (hf : fitB k n = true) (hb : Below W.heap.size W w') (e : m = n) : GetPost k l W (.returned (.tuple #[.int .i64 m, .int .i64 0])) w' := by
  subst e
  exact get_end_yes h hl hn hf hb

theorem fit_parts {k v : Int} (h0 : 0 < kSize k) : (fitB k v = true ∧ kLow k ≤ v ∧ v ≤ kHigh k) ∨ (fitB k v = false ∧ v < kLow k) ∨ (fitB k v = false ∧ kLow k ≤ v ∧ kHigh k < v) := by
  by_cases h1 : kLow k ≤ v
  · by_cases h2 : v ≤ kHigh k
    · exact .inl ⟨fit_yes ⟨h0, h1, h2⟩, h1, h2⟩
    · exact .inr (.inr ⟨fit_no (by omega), h1, by omega⟩)
  · exact .inr (.inl ⟨fit_no (by omega), by omega⟩)

theorem rget_1_0 (k : Int) (w : World) (A : Option Addr) (c : Nat) (x : Int) (h : Byt w w.heap.size A 1 c [x]) (hs : kSize k = 1) (hh : ¬ kHigh k < x) :
    Calls Try.prog 54 #[.int .i64 k, .slice A 1 c] w (GetPost k [x] w) := by
  have hsh := fun w => shape_any k w
  rw [hs] at hsh
  have HSH := Lib.hid hsh
  have hpw : ∀ w, Calls Try.prog 76 #[.int .i64 1] w fun e w' => e = .returned (.int .i64 256) ∧ w = w' := fun w => power_any 1 w (by omega)
  have HPW := Lib.hid hpw
  have HS := Lib.hid hs
  have HV : Hid (valL k [x] = x) := by
    have e : numL [x] = x := by simp only [numL]; omega
    show valL k _ = _
    unfold valL; rw [e, if_neg hh]
  obtain ⟨b, off, rfl, hb, hc⟩ := h.cells (by omega)
  have c0 : w.cell? ⟨b, off + 0, none⟩ = some (.int .u8 x) := hc 0 (by omega)
  have r0 := h.rng x (by simp)
  rw [Nat.add_zero] at c0
  have kb := k_bounds k
  have hfp := fit_parts (k := k) (v := x) (by omega)
  clear hsh hs hc h hpw
  rcases hfp with ⟨hf, hf1, hf2⟩ | ⟨hf, hf1⟩ | ⟨hf, hf1, hf2⟩
  all_goals
    have HF := Lib.hid hf
    clear hf
    go_enter Try.func54, Try.ntmps54
    go_wp2_with (go_at_call 53; refine (HSH.out _).mono ?_; rintro e w1 ⟨rfl, rfl⟩)
    all_goals refine wp_loop_rounds 2 ?_
    repeat any_goals (rw [rounds_succ]; go_wp2_with (go_at_call 76; refine (HPW.out _).mono ?_; rintro e w1 ⟨rfl, rfl⟩))
    all_goals go_ret2
    all_goals first
      | exact get_end_yes2 (by rw [HS.out]; omega) (by rw [HS.out]; rfl) HV.out HF.out (Below.refl _ _) (by omega)
      | exact get_end_no (by rw [HS.out]; omega) (by rw [HS.out]; rfl) HV.out HF.out (Below.refl _ _)

theorem rget_1_1 (k : Int) (w : World) (A : Option Addr) (c : Nat) (x : Int) (h : Byt w w.heap.size A 1 c [x]) (hs : kSize k = 1) (hh : kHigh k < x) :
    Calls Try.prog 54 #[.int .i64 k, .slice A 1 c] w (GetPost k [x] w) := by
  have hsh := fun w => shape_any k w
  rw [hs] at hsh
  have HSH := Lib.hid hsh
  have hpw : ∀ w, Calls Try.prog 76 #[.int .i64 1] w fun e w' => e = .returned (.int .i64 256) ∧ w = w' := fun w => power_any 1 w (by omega)
  have HPW := Lib.hid hpw
  have HS := Lib.hid hs
  have HV : Hid (valL k [x] = x - 256) := by
    have e : numL [x] = x := by simp only [numL]; omega
    show valL k _ = _
    unfold valL; rw [e, if_pos hh]; simp
  obtain ⟨b, off, rfl, hb, hc⟩ := h.cells (by omega)
  have c0 : w.cell? ⟨b, off + 0, none⟩ = some (.int .u8 x) := hc 0 (by omega)
  have r0 := h.rng x (by simp)
  rw [Nat.add_zero] at c0
  have kb := k_bounds k
  have hfp := fit_parts (k := k) (v := x - 256) (by omega)
  clear hsh hs hc h hpw
  rcases hfp with ⟨hf, hf1, hf2⟩ | ⟨hf, hf1⟩ | ⟨hf, hf1, hf2⟩
  all_goals
    have HF := Lib.hid hf
    clear hf
    go_enter Try.func54, Try.ntmps54
    go_wp2_with (go_at_call 53; refine (HSH.out _).mono ?_; rintro e w1 ⟨rfl, rfl⟩)
    all_goals refine wp_loop_rounds 2 ?_
    repeat any_goals (rw [rounds_succ]; go_wp2_with (go_at_call 76; refine (HPW.out _).mono ?_; rintro e w1 ⟨rfl, rfl⟩))
    all_goals go_ret2
    all_goals first
      | exact get_end_yes2 (by rw [HS.out]; omega) (by rw [HS.out]; rfl) HV.out HF.out (Below.refl _ _) (by omega)
      | exact get_end_no (by rw [HS.out]; omega) (by rw [HS.out]; rfl) HV.out HF.out (Below.refl _ _)

theorem rget_2_0 (k : Int) (w : World) (A : Option Addr) (c : Nat) (x y : Int) (h : Byt w w.heap.size A 2 c [x, y]) (hs : kSize k = 2) (hh : ¬ kHigh k < x + y * 256) :
    Calls Try.prog 54 #[.int .i64 k, .slice A 2 c] w (GetPost k [x, y] w) := by
  have hsh := fun w => shape_any k w
  rw [hs] at hsh
  have HSH := Lib.hid hsh
  have hpw : ∀ w, Calls Try.prog 76 #[.int .i64 2] w fun e w' => e = .returned (.int .i64 65536) ∧ w = w' := fun w => power_any 2 w (by omega)
  have HPW := Lib.hid hpw
  have HS := Lib.hid hs
  have HV : Hid (valL k [x, y] = x + y * 256) := by
    have e : numL [x, y] = x + y * 256 := by simp only [numL]; omega
    show valL k _ = _
    unfold valL; rw [e, if_neg hh]
  obtain ⟨b, off, rfl, hb, hc⟩ := h.cells (by omega)
  have c0 : w.cell? ⟨b, off + 0, none⟩ = some (.int .u8 x) := hc 0 (by omega)
  have r0 := h.rng x (by simp)
  have c1 : w.cell? ⟨b, off + 1, none⟩ = some (.int .u8 y) := hc 1 (by omega)
  have r1 := h.rng y (by simp)
  rw [Nat.add_zero] at c0
  have kb := k_bounds k
  have hfp := fit_parts (k := k) (v := x + y * 256) (by omega)
  clear hsh hs hc h hpw
  rcases hfp with ⟨hf, hf1, hf2⟩ | ⟨hf, hf1⟩ | ⟨hf, hf1, hf2⟩
  all_goals
    have HF := Lib.hid hf
    clear hf
    go_enter Try.func54, Try.ntmps54
    go_wp2_with (go_at_call 53; refine (HSH.out _).mono ?_; rintro e w1 ⟨rfl, rfl⟩)
    all_goals refine wp_loop_rounds 3 ?_
    repeat any_goals (rw [rounds_succ]; go_wp2_with (go_at_call 76; refine (HPW.out _).mono ?_; rintro e w1 ⟨rfl, rfl⟩))
    all_goals go_ret2
    all_goals first
      | exact get_end_yes2 (by rw [HS.out]; omega) (by rw [HS.out]; rfl) HV.out HF.out (Below.refl _ _) (by omega)
      | exact get_end_no (by rw [HS.out]; omega) (by rw [HS.out]; rfl) HV.out HF.out (Below.refl _ _)

theorem rget_2_1 (k : Int) (w : World) (A : Option Addr) (c : Nat) (x y : Int) (h : Byt w w.heap.size A 2 c [x, y]) (hs : kSize k = 2) (hh : kHigh k < x + y * 256) :
    Calls Try.prog 54 #[.int .i64 k, .slice A 2 c] w (GetPost k [x, y] w) := by
  have hsh := fun w => shape_any k w
  rw [hs] at hsh
  have HSH := Lib.hid hsh
  have hpw : ∀ w, Calls Try.prog 76 #[.int .i64 2] w fun e w' => e = .returned (.int .i64 65536) ∧ w = w' := fun w => power_any 2 w (by omega)
  have HPW := Lib.hid hpw
  have HS := Lib.hid hs
  have HV : Hid (valL k [x, y] = x + y * 256 - 65536) := by
    have e : numL [x, y] = x + y * 256 := by simp only [numL]; omega
    show valL k _ = _
    unfold valL; rw [e, if_pos hh]; simp
  obtain ⟨b, off, rfl, hb, hc⟩ := h.cells (by omega)
  have c0 : w.cell? ⟨b, off + 0, none⟩ = some (.int .u8 x) := hc 0 (by omega)
  have r0 := h.rng x (by simp)
  have c1 : w.cell? ⟨b, off + 1, none⟩ = some (.int .u8 y) := hc 1 (by omega)
  have r1 := h.rng y (by simp)
  rw [Nat.add_zero] at c0
  have kb := k_bounds k
  have hfp := fit_parts (k := k) (v := x + y * 256 - 65536) (by omega)
  clear hsh hs hc h hpw
  rcases hfp with ⟨hf, hf1, hf2⟩ | ⟨hf, hf1⟩ | ⟨hf, hf1, hf2⟩
  all_goals
    have HF := Lib.hid hf
    clear hf
    go_enter Try.func54, Try.ntmps54
    go_wp2_with (go_at_call 53; refine (HSH.out _).mono ?_; rintro e w1 ⟨rfl, rfl⟩)
    all_goals refine wp_loop_rounds 3 ?_
    repeat any_goals (rw [rounds_succ]; go_wp2_with (go_at_call 76; refine (HPW.out _).mono ?_; rintro e w1 ⟨rfl, rfl⟩))
    all_goals go_ret2
    all_goals first
      | exact get_end_yes2 (by rw [HS.out]; omega) (by rw [HS.out]; rfl) HV.out HF.out (Below.refl _ _) (by omega)
      | exact get_end_no (by rw [HS.out]; omega) (by rw [HS.out]; rfl) HV.out HF.out (Below.refl _ _)

theorem rget_4_0 (k : Int) (w : World) (A : Option Addr) (c : Nat) (x y z u : Int) (h : Byt w w.heap.size A 4 c [x, y, z, u]) (hs : kSize k = 4) (hh : ¬ kHigh k < x + y * 256 + z * 65536 + u * 16777216) :
    Calls Try.prog 54 #[.int .i64 k, .slice A 4 c] w (GetPost k [x, y, z, u] w) := by
  have hsh := fun w => shape_any k w
  rw [hs] at hsh
  have HSH := Lib.hid hsh
  have hpw : ∀ w, Calls Try.prog 76 #[.int .i64 4] w fun e w' => e = .returned (.int .i64 4294967296) ∧ w = w' := fun w => power_any 4 w (by omega)
  have HPW := Lib.hid hpw
  have HS := Lib.hid hs
  have HV : Hid (valL k [x, y, z, u] = x + y * 256 + z * 65536 + u * 16777216) := by
    have e : numL [x, y, z, u] = x + y * 256 + z * 65536 + u * 16777216 := by simp only [numL]; omega
    show valL k _ = _
    unfold valL; rw [e, if_neg hh]
  obtain ⟨b, off, rfl, hb, hc⟩ := h.cells (by omega)
  have c0 : w.cell? ⟨b, off + 0, none⟩ = some (.int .u8 x) := hc 0 (by omega)
  have r0 := h.rng x (by simp)
  have c1 : w.cell? ⟨b, off + 1, none⟩ = some (.int .u8 y) := hc 1 (by omega)
  have r1 := h.rng y (by simp)
  have c2 : w.cell? ⟨b, off + 2, none⟩ = some (.int .u8 z) := hc 2 (by omega)
  have r2 := h.rng z (by simp)
  have c3 : w.cell? ⟨b, off + 3, none⟩ = some (.int .u8 u) := hc 3 (by omega)
  have r3 := h.rng u (by simp)
  rw [Nat.add_zero] at c0
  have kb := k_bounds k
  have hfp := fit_parts (k := k) (v := x + y * 256 + z * 65536 + u * 16777216) (by omega)
  clear hsh hs hc h hpw
  rcases hfp with ⟨hf, hf1, hf2⟩ | ⟨hf, hf1⟩ | ⟨hf, hf1, hf2⟩
  all_goals
    have HF := Lib.hid hf
    clear hf
    go_enter Try.func54, Try.ntmps54
    go_wp2_with (go_at_call 53; refine (HSH.out _).mono ?_; rintro e w1 ⟨rfl, rfl⟩)
    all_goals refine wp_loop_rounds 5 ?_
    repeat any_goals (rw [rounds_succ]; go_wp2_with (go_at_call 76; refine (HPW.out _).mono ?_; rintro e w1 ⟨rfl, rfl⟩))
    all_goals go_ret2
    all_goals first
      | exact get_end_yes2 (by rw [HS.out]; omega) (by rw [HS.out]; rfl) HV.out HF.out (Below.refl _ _) (by omega)
      | exact get_end_no (by rw [HS.out]; omega) (by rw [HS.out]; rfl) HV.out HF.out (Below.refl _ _)

theorem rget_4_1 (k : Int) (w : World) (A : Option Addr) (c : Nat) (x y z u : Int) (h : Byt w w.heap.size A 4 c [x, y, z, u]) (hs : kSize k = 4) (hh : kHigh k < x + y * 256 + z * 65536 + u * 16777216) :
    Calls Try.prog 54 #[.int .i64 k, .slice A 4 c] w (GetPost k [x, y, z, u] w) := by
  have hsh := fun w => shape_any k w
  rw [hs] at hsh
  have HSH := Lib.hid hsh
  have hpw : ∀ w, Calls Try.prog 76 #[.int .i64 4] w fun e w' => e = .returned (.int .i64 4294967296) ∧ w = w' := fun w => power_any 4 w (by omega)
  have HPW := Lib.hid hpw
  have HS := Lib.hid hs
  have HV : Hid (valL k [x, y, z, u] = x + y * 256 + z * 65536 + u * 16777216 - 4294967296) := by
    have e : numL [x, y, z, u] = x + y * 256 + z * 65536 + u * 16777216 := by simp only [numL]; omega
    show valL k _ = _
    unfold valL; rw [e, if_pos hh]; simp
  obtain ⟨b, off, rfl, hb, hc⟩ := h.cells (by omega)
  have c0 : w.cell? ⟨b, off + 0, none⟩ = some (.int .u8 x) := hc 0 (by omega)
  have r0 := h.rng x (by simp)
  have c1 : w.cell? ⟨b, off + 1, none⟩ = some (.int .u8 y) := hc 1 (by omega)
  have r1 := h.rng y (by simp)
  have c2 : w.cell? ⟨b, off + 2, none⟩ = some (.int .u8 z) := hc 2 (by omega)
  have r2 := h.rng z (by simp)
  have c3 : w.cell? ⟨b, off + 3, none⟩ = some (.int .u8 u) := hc 3 (by omega)
  have r3 := h.rng u (by simp)
  rw [Nat.add_zero] at c0
  have kb := k_bounds k
  have hfp := fit_parts (k := k) (v := x + y * 256 + z * 65536 + u * 16777216 - 4294967296) (by omega)
  clear hsh hs hc h hpw
  rcases hfp with ⟨hf, hf1, hf2⟩ | ⟨hf, hf1⟩ | ⟨hf, hf1, hf2⟩
  all_goals
    have HF := Lib.hid hf
    clear hf
    go_enter Try.func54, Try.ntmps54
    go_wp2_with (go_at_call 53; refine (HSH.out _).mono ?_; rintro e w1 ⟨rfl, rfl⟩)
    all_goals refine wp_loop_rounds 5 ?_
    repeat any_goals (rw [rounds_succ]; go_wp2_with (go_at_call 76; refine (HPW.out _).mono ?_; rintro e w1 ⟨rfl, rfl⟩))
    all_goals go_ret2
    all_goals first
      | exact get_end_yes2 (by rw [HS.out]; omega) (by rw [HS.out]; rfl) HV.out HF.out (Below.refl _ _) (by omega)
      | exact get_end_no (by rw [HS.out]; omega) (by rw [HS.out]; rfl) HV.out HF.out (Below.refl _ _)

theorem rget_any (k : Int) (w : World) (A : Option Addr) (n c : Nat) (l : List Int) (h : Byt w w.heap.size A n c l) : Calls Try.prog 54 #[.int .i64 k, .slice A n c] w (GetPost k l w) := by
  by_cases h0 : kSize k = 0
  · exact rget_none k w A n c l h0
  by_cases hl : kSize k = l.length
  case neg => exact rget_len k w A n c l h.len h0 hl
  have h14 : kSize k = 1 ∨ kSize k = 2 ∨ kSize k = 4 := by
    rcases kind_cases k with rfl | rfl | rfl | rfl | rfl | rfl | rfl | hk
    all_goals first | (simp [kSize]; done) | (have := (k_other hk).1; omega)
  have hn := h.len
  rcases h14 with hs | hs | hs
  · obtain rfl : n = 1 := by omega
    obtain ⟨x, rfl⟩ : ∃ x, l = [x] := List.length_eq_one_iff.1 hn
    by_cases hh : kHigh k < x
    · exact rget_1_1 k w A c x h hs hh
    · exact rget_1_0 k w A c x h hs hh
  · obtain rfl : n = 2 := by omega
    obtain ⟨x, y, rfl⟩ : ∃ x y, l = [x, y] := by
      match l, hn with
      | [x, y], _ => exact ⟨x, y, rfl⟩
    by_cases hh : kHigh k < x + y * 256
    · exact rget_2_1 k w A c x y h hs hh
    · exact rget_2_0 k w A c x y h hs hh
  · obtain rfl : n = 4 := by omega
    obtain ⟨x, y, z, u, rfl⟩ : ∃ x y z u, l = [x, y, z, u] := by
      match l, hn with
      | [x, y, z, u], _ => exact ⟨x, y, z, u, rfl⟩
    by_cases hh : kHigh k < x + y * 256 + z * 65536 + u * 16777216
    · exact rget_4_1 k w A c x y z u h hs hh
    · exact rget_4_0 k w A c x y z u h hs hh
end Go.Proofs.Ytacfpdjpionolaa