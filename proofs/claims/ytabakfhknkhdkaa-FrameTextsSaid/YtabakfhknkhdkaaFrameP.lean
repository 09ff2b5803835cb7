/- What Cut and CutPrefix answer. -/
import Derived.Test.YtabakfhknkhdkaaFrameO
namespace Go.Proofs.Ytabakfhknkhdkaa
open Go.RowKit

theorem sindex_any (s : ByteArray) (c : UInt8) (w : World) : Calls Try.prog 37 #[.string s, .string ⟨#[c]⟩] w fun e w' => e = .returned (.int .i64 (Lib.indexByte s.data.toList c)) ∧ w' = w := by
  go_enter Try.func37, Try.ntmps37
  go_wp2_with (go_at_call 38; refine (sib_any _ _ _).mono ?_; rintro e w' ⟨rfl, rfl⟩)
  · have h : ([c] == s.toList) = true := by assumption
    go_ret
    refine ⟨?_, rfl⟩
    have e : s.data.toList = [c] := by rw [← Lib.toList_data]; exact (beq_iff_eq.1 h).symm
    rw [e]
    simp [Lib.indexByte]
  · go_ret
    exact ⟨rfl, rfl⟩
theorem scut_no (s : ByteArray) (c : UInt8) (w : World) (h : Lib.indexByte s.data.toList c = -1) : Calls Try.prog 33 #[.string s, .string ⟨#[c]⟩] w fun e w' => e = .returned (.tuple #[.string s, .string ⟨#[]⟩, .bool false]) ∧ Below w.heap.size w w' := by
  have hi := fun w => sindex_any s c w
  rw [h] at hi
  have HI := Lib.hid hi
  clear hi
  go_enter Try.func33, Try.ntmps33
  go_wp2_with (go_at_call 37; refine (HI.out _).mono ?_; rintro e w' ⟨rfl, rfl⟩)
  go_ret3
  exact ⟨rfl, Below.refl _ _⟩
theorem scut_yes (s : ByteArray) (c : UInt8) (o : Nat) (w : World) (hs : s.size ≤ 9223372036854775807) (ho : o < s.size) (h : Lib.indexByte s.data.toList c = o) : Calls Try.prog 33 #[.string s, .string ⟨#[c]⟩] w fun e w' => e = .returned (.tuple #[.string (s.extract 0 o), .string (s.extract (o + 1) s.size), .bool true]) ∧ Below w.heap.size w w' := by
  have hi := fun w => sindex_any s c w
  rw [h] at hi
  have HI := Lib.hid hi
  clear hi
  have ho2 : (o : Int) ≤ (s.size : Int) := by omega
  have ho3 : (o : Int) + 1 ≤ (s.size : Int) := by omega
  go_enter Try.func33, Try.ntmps33
  go_wp2_with (go_at_call 37; refine (HI.out _).mono ?_; rintro e w' ⟨rfl, rfl⟩)
  go_quiet (fail)
  go_wp2
  go_ret3
  exact ⟨rfl, below_drewN (Below.refl _ _) _⟩
theorem cut_no (s : ByteArray) (c : UInt8) (w : World) (h : Lib.indexByte s.data.toList c = -1) : Calls Try.prog 28 #[.string s, .string ⟨#[c]⟩] w fun e w' => e = .returned (.tuple #[.string s, .string ⟨#[]⟩, .bool false]) ∧ Below w.heap.size w w' := by
  go_enter Try.func28, Try.ntmps28
  go_wp2_with (go_at_call 33; refine (scut_no _ _ _ h).mono ?_; rintro e w1 ⟨rfl, hb1⟩)
  go_ret3
  exact ⟨rfl, hb1⟩
theorem cut_yes (s : ByteArray) (c : UInt8) (o : Nat) (w : World) (hs : s.size ≤ 9223372036854775807) (ho : o < s.size) (h : Lib.indexByte s.data.toList c = o) : Calls Try.prog 28 #[.string s, .string ⟨#[c]⟩] w fun e w' => e = .returned (.tuple #[.string (s.extract 0 o), .string (s.extract (o + 1) s.size), .bool true]) ∧ Below w.heap.size w w' := by
  go_enter Try.func28, Try.ntmps28
  go_wp2_with (go_at_call 33; refine (scut_yes _ _ _ _ hs ho h).mono ?_; rintro e w1 ⟨rfl, hb1⟩)
  go_ret3
  exact ⟨rfl, hb1⟩
/-- Does a text begin with a sign? -/
def hasP (s : ByteArray) (c : UInt8) : Bool := if 1 ≤ s.size then (s.extract 0 1).toList == [c] else false
theorem hasp_any (s : ByteArray) (c : UInt8) (w : World) (hs : s.size ≤ 9223372036854775807) : Calls Try.prog 44 #[.string s, .string ⟨#[c]⟩] w fun e w' => e = .returned (.bool (hasP s c)) ∧ w = w' := by
  by_cases h : 1 ≤ s.size
  · have e : hasP s c = ((s.extract 0 1).toList == [c]) := if_pos h
    rw [e]
    have h' : (1 : Int) ≤ (s.size : Int) := by omega
    go_enter Try.func44, Try.ntmps44
    go_wp2_with fail
    all_goals first | (exfalso; omega) | exact bodyPost_ret (results_tmp rfl _ _ _) rfl ⟨rfl, rfl⟩
  · have e : hasP s c = false := if_neg h
    rw [e]
    go_enter Try.func44, Try.ntmps44
    go_wp2_with fail
    all_goals first | (exfalso; omega) | exact bodyPost_ret (results_tmp rfl _ _ _) rfl ⟨rfl, rfl⟩
theorem scutp_any (s : ByteArray) (c : UInt8) (w : World) (hs : s.size ≤ 9223372036854775807) : Calls Try.prog 39 #[.string s, .string ⟨#[c]⟩] w fun e w' => e = .returned (.tuple #[.string (if hasP s c = true then s.extract 1 s.size else s), .bool (hasP s c)]) ∧ w = w' := by
  have hh := fun w => hasp_any s c w hs
  have h1 : hasP s c = true → 1 ≤ s.size := fun h => by
    unfold hasP at h
    by_cases e : 1 ≤ s.size
    · exact e
    · rw [if_neg e] at h; cases h
  cases hq : hasP s c with
  | true =>
    have h2 := h1 hq
    have h3 : (1 : Int) ≤ (s.size : Int) := by omega
    simp only [hq] at hh
    rw [if_pos rfl]
    have HH := Lib.hid hh
    clear hh h1 hq
    go_enter Try.func39, Try.ntmps39
    go_wp2_with (go_at_call 44; refine (HH.out _).mono ?_; rintro e w1 ⟨rfl, rfl⟩)
    all_goals first | (exfalso; omega) | exact bodyPost_ret (results_tmp2 rfl _ _ _) rfl ⟨rfl, rfl⟩
  | false =>
    simp only [hq] at hh
    rw [if_neg (by simp)]
    have HH := Lib.hid hh
    clear hh h1 hq
    go_enter Try.func39, Try.ntmps39
    go_wp2_with (go_at_call 44; refine (HH.out _).mono ?_; rintro e w1 ⟨rfl, rfl⟩)
    all_goals first | (exfalso; omega) | exact bodyPost_ret (results_tmp2 rfl _ _ _) rfl ⟨rfl, rfl⟩
theorem cutp_any (s : ByteArray) (c : UInt8) (w : World) (hs : s.size ≤ 9223372036854775807) : Calls Try.prog 35 #[.string s, .string ⟨#[c]⟩] w fun e w' => e = .returned (.tuple #[.string (if hasP s c = true then s.extract 1 s.size else s), .bool (hasP s c)]) ∧ w = w' := by
  have hh := fun w => scutp_any s c w hs
  generalize (if hasP s c = true then s.extract 1 s.size else s) = q at hh
  generalize hasP s c = p at hh
  have HH := Lib.hid hh
  clear hh
  go_enter Try.func35, Try.ntmps35
  go_wp2_with (go_at_call 39; refine (HH.out _).mono ?_; rintro e w1 ⟨rfl, rfl⟩)
  all_goals exact bodyPost_ret (results_tmp2 rfl _ _ _) rfl ⟨rfl, rfl⟩
end Go.Proofs.Ytabakfhknkhdkaa
