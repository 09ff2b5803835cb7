/- What the document's Check answers. -/
import Derived.Test.YtllaajkpobpeiaaOJFrameC
namespace Go.Proofs.Ytllaajkpobpeiaa
open Go.RowKit
theorem eqD_iff (a b : Nat → Int) : eqD a b = true ↔ ∀ j, j < 8 → a j = b j := by
  unfold eqD
  simp only [decide_eq_true_eq]
  constructor
  · rintro ⟨h0, h1, h2, h3, h4, h5, h6, h7⟩ j hj
    match j, hj with
    | 0, _ => exact h0
    | 1, _ => exact h1
    | 2, _ => exact h2
    | 3, _ => exact h3
    | 4, _ => exact h4
    | 5, _ => exact h5
    | 6, _ => exact h6
    | 7, _ => exact h7
  · intro h
    exact ⟨h 0 (by omega), h 1 (by omega), h 2 (by omega), h 3 (by omega), h 4 (by omega), h 5 (by omega), h 6 (by omega), h 7 (by omega)⟩
theorem dcheck_any (id n : Int) (r : Bool) (d : Nat → Int) (w : World) :
    Calls Try.prog 40 #[.agg #[.int .i64 id, .bool r, .int .i64 n, .int .u8 (d 0), .int .u8 (d 1), .int .u8 (d 2), .int .u8 (d 3), .int .u8 (d 4), .int .u8 (d 5), .int .u8 (d 6), .int .u8 (d 7)]] w fun e w' => e = .returned (.int .i64 (chk id r n d)) ∧ Below w.heap.size w w' := by
  have hb : Below w.heap.size w (w.alloc (.cells #[.int .i64 id, .bool r, .int .i64 n, .int .u8 (d 0), .int .u8 (d 1), .int .u8 (d 2), .int .u8 (d 3), .int .u8 (d 4), .int .u8 (d 5), .int .u8 (d 6), .int .u8 (d 7)] 57)) := (Below.refl _ _).alloc (Nat.le_refl _) _
  by_cases h1 : id < 0 ∨ 2047 < id
  · have e : chk id r n d = 3 := if_pos h1
    rw [e]
    have HB := Lib.hid hb
    clear hb
    go_enter Try.func40, Try.ntmps40
    go_wp2_with fail
    all_goals first | (exfalso; omega) | exact bodyPost_ret (results_tmp rfl _ _ _) rfl ⟨rfl, HB.out⟩
  have h1a : ¬ id < 0 := by omega
  have h1b : ¬ 2047 < id := by omega
  by_cases h2 : n < 0 ∨ 8 < n
  · have e : chk id r n d = 11 := (if_neg h1).trans (if_pos h2)
    rw [e]
    have HB := Lib.hid hb
    clear hb h1
    go_enter Try.func40, Try.ntmps40
    go_wp2_with fail
    all_goals first | (exfalso; omega) | exact bodyPost_ret (results_tmp rfl _ _ _) rfl ⟨rfl, HB.out⟩
  have e : chk id r n d = if eqD d (cut d (kOf r n)) = true then 0 else 4 := (if_neg h1).trans (if_neg h2)
  have h2a : ¬ n < 0 := by omega
  have h2b : ¬ 8 < n := by omega
  obtain ⟨k, rfl⟩ : ∃ k : Nat, n = k := ⟨n.toNat, by omega⟩
  obtain ⟨R, hR⟩ : ∃ R : Int, (if eqD d (cut d (kOf r k)) = true then (0 : Int) else 4) = R := ⟨_, rfl⟩
  have hin : (∀ j, j < 8 → d j = cut d (kOf r k) j) → R = 0 := fun h => by rw [← hR, if_pos ((eqD_iff _ _).2 h)]
  have hout : ∀ j, j < 8 → ¬ d j = cut d (kOf r k) j → R = 4 := fun j hj h => by rw [← hR, if_neg fun h' => h ((eqD_iff _ _).1 h' j hj)]
  rw [e, hR]
  have hf := frame_new w id k r d
  have HB := Lib.hid hb
  have HF := Lib.hid hf
  have HI := Lib.hid hin
  have HO := Lib.hid hout
  clear hb h1 h2 e hf hR hin hout
  go_enter Try.func40, Try.ntmps40
  go_wp2_with fail
  generalize (w.alloc (Obj.cells #[Value.int IntKind.i64 id, Value.bool r, Value.int IntKind.i64 ↑k, Value.int IntKind.u8 (d 0), Value.int IntKind.u8 (d 1), Value.int IntKind.u8 (d 2), Value.int IntKind.u8 (d 3), Value.int IntKind.u8 (d 4), Value.int IntKind.u8 (d 5), Value.int IntKind.u8 (d 6), Value.int IntKind.u8 (d 7)] 57)) = w0 at HB HF
  have hcs := HF.out.cells
  obtain ⟨c0, c1, c2, c3, c4, c5, c6, c7, c8, c9, c10⟩ := hcs
  clear c0 c3 c4 c5 c6 c7 c8 c9 c10
  go_loop [3] (fun i => ∃ j : Nat, j ≤ 8 ∧ i = .int .i64 j ∧ Hid (∀ t, t < j → d t = cut d (kOf r k) t)) (fun i => 8 - (intOf i).toNat)
  case atStart => exact ⟨0, Nat.zero_le _, rfl, Lib.hid (fun t ht => absurd ht (Nat.not_lt_zero _))⟩
  case round =>
    obtain ⟨j, hj, rfl, hd⟩ := hrel
    by_cases hlt : j < 8
    · have hcj := HF.out.byte hlt
      cases r with
      | true =>
        by_cases hz : d j = 0
        · have hz' : d j = cut d (kOf true k) j := by unfold cut kOf; split <;> first | rfl | (simp_all; done) | omega
          have hd' : Hid (∀ t, t < j + 1 → d t = cut d (kOf true k) t) := Lib.hid fun t ht => by
            by_cases e : t = j
            · subst e; exact hz'
            · exact hd.out t (by omega)
          clear hz'
          go_wp2_with fail
          all_goals exact ⟨⟨j + 1, by omega, by go_num, hd'⟩, by simp [intOf]; omega⟩
        · have hr : R = 4 := HO.out j hlt (by unfold cut kOf; rw [if_neg (by first | (simp; done) | (simp; omega))]; exact hz)
          subst hr
          go_wp2_with fail
          all_goals exact bodyPost_ret (results_tmp rfl _ _ _) rfl ⟨rfl, HB.out⟩
      | false =>
        by_cases hjk : j < k
        · have hz' : d j = cut d (kOf false k) j := by unfold cut kOf; split <;> first | rfl | (simp_all; done) | omega
          have hd' : Hid (∀ t, t < j + 1 → d t = cut d (kOf false k) t) := Lib.hid fun t ht => by
            by_cases e : t = j
            · subst e; exact hz'
            · exact hd.out t (by omega)
          clear hz'
          go_wp2_with fail
          all_goals exact ⟨⟨j + 1, by omega, by go_num, hd'⟩, by simp [intOf]; omega⟩
        by_cases hz : d j = 0
        · have hz' : d j = cut d (kOf false k) j := by unfold cut kOf; split <;> first | rfl | (simp_all; done) | omega
          have hd' : Hid (∀ t, t < j + 1 → d t = cut d (kOf false k) t) := Lib.hid fun t ht => by
            by_cases e : t = j
            · subst e; exact hz'
            · exact hd.out t (by omega)
          clear hz'
          go_wp2_with fail
          all_goals exact ⟨⟨j + 1, by omega, by go_num, hd'⟩, by simp [intOf]; omega⟩
        · have hr : R = 4 := HO.out j hlt (by unfold cut kOf; rw [if_neg (by first | (simp; done) | (simp; omega))]; exact hz)
          subst hr
          go_wp2_with fail
          all_goals exact bodyPost_ret (results_tmp rfl _ _ _) rfl ⟨rfl, HB.out⟩
    · obtain rfl : j = 8 := by omega
      have hr := HI.out hd.out
      subst hr
      go_wp2_with fail
      all_goals exact bodyPost_ret (results_tmp rfl _ _ _) rfl ⟨rfl, HB.out⟩
end Go.Proofs.Ytllaajkpobpeiaa