/- What must be whatever is asked: a dictionary of one entry. -/
import Derived.Test.YtchmildlkaikmaaADo
namespace Go.Proofs.Ytchmildlkaikmaa
open Go.RowKit
set_option linter.unusedSimpArgs false
set_option linter.unusedVariables false
theorem rname_any (i j : Int) (w : World) : Calls Try.prog 23 #[.agg #[.int .i64 i, .int .i64 j]] w fun e w' => e = .returned (.bool (okN i j)) ∧ Below w.heap.size w w' := by
  have hb0 : Below w.heap.size w (w.alloc (.cells #[.int .i64 i, .int .i64 j] 23)) := (Below.refl _ _).alloc (Nat.le_refl _) _
  have hk0 : Key2 (w.alloc (.cells #[.int .i64 i, .int .i64 j] 23)) w.heap.size i j := heap_alloc_new w _
  obtain ⟨c0, c1⟩ := hk0.cells
  have HB0 := Lib.hid hb0
  have hok : okN i j = (decide (1 ≤ i) && decide (i ≤ 65535) && decide (0 ≤ j) && decide (j ≤ 255)) := by
    unfold okN
    by_cases h1 : 1 ≤ i <;> by_cases h2 : i ≤ 65535 <;> by_cases h3 : 0 ≤ j <;> by_cases h4 : j ≤ 255 <;> simp [h1, h2, h3, h4]
  have HOK := Lib.hid hok
  clear hb0 hk0 hok
  by_cases h1 : 1 ≤ i
  · by_cases h2 : i ≤ 65535
    · by_cases h3 : 0 ≤ j
      · by_cases h4 : j ≤ 255
        · go_enter Try.func23, Try.ntmps23
          go_wp2_with fail
          go_ret
          exact ⟨by rw [HOK.out]; simp [h1, h2, h3, h4], HB0.out⟩
        · go_enter Try.func23, Try.ntmps23
          go_wp2_with fail
          go_ret
          exact ⟨by rw [HOK.out]; simp [h1, h2, h3, h4], HB0.out⟩
      · go_enter Try.func23, Try.ntmps23
        go_wp2_with fail
        go_ret
        exact ⟨(by rw [HOK.out]; simp [h1, h2, h3]; try omega), HB0.out⟩
    · go_enter Try.func23, Try.ntmps23
      go_wp2_with fail
      go_ret
      exact ⟨(by rw [HOK.out]; simp [h1, h2]; try omega), HB0.out⟩
  · go_enter Try.func23, Try.ntmps23
    go_wp2_with fail
    go_ret
    exact ⟨(by rw [HOK.out]; simp [h1]; try omega), HB0.out⟩
theorem DTch.low {w0 w w' : World} {B g s : Nat} {v : Value} (h : DTch w w' g s v) (hb : Below B w0 w) (hB : B ≤ w.heap.size) (hB0 : B ≤ w0.heap.size) (hg : B ≤ g) (hs : B ≤ s) (hv : ∀ b, v.ownBlock = some b → B ≤ b) : Below B w0 w' :=
  hb.trans ⟨h.os, h.tape, h.output, h.size, fun k hk => h.block k (by omega) (by omega) (by omega) (fun e => by have := hv k e; omega)⟩
theorem th_ok {T : List (Int × Ent)} (hG : Good T) (q : Int) : (∀ y ∈ (thI e0 q T).b, 0 ≤ y ∧ y ≤ 255) ∧ (thI e0 q T).b.length ≤ 64 := by
  cases hh : hasI q T with
  | false => rw [thI_no hh]; exact ⟨fun y hy => (by cases hy), (by simp [e0])⟩
  | true =>
    obtain ⟨x, hx, _⟩ := hasI_at hh
    rw [thI_yes hh hx]
    exact (hG.ok x (List.mem_of_getElem? hx)).2.2
def E1 : Ent := ⟨2, 3, 0, 9, [5]⟩
def T1 : List (Int × Ent) := [(2097153, E1)]
theorem good1 : Good T1 := ⟨rise_iff.2 (by simp [T1]), by simp [T1], fun x hx => by
  simp only [T1, List.mem_singleton] at hx
  subst hx
  exact ⟨by decide, by decide, by decide, by decide⟩⟩
theorem live_add (w : World) (base g s : Nat) (v : Value) (A : Option Addr) (c : Nat) (h : DiI w base g s [] 0 v) (hbase : base ≤ w.heap.size) (hB : Byt w w.heap.size A 1 c [5]) :
    Calls Try.prog 8 #[.pointer (some ⟨g, 0, none⟩), .agg #[.int .i64 8192, .int .i64 1], .agg #[.int .i64 2, .int .i64 3, .int .i64 0, .int .i64 9], .slice A 1 c] w fun e w' => e = .returned (.int .i64 0) ∧ GoD w base g s T1 0 v w' := by
  refine (add_ok w base g s [] 0 v 8192 1 2 3 0 9 [5] A 1 c [5] h hbase (by simp) rise_nil hB (by decide) (by decide) (by decide)).mono ?_
  rintro e w' ⟨h1, h2⟩
  have hn : numI 8192 1 = 2097153 := by decide
  have hf : fitsA 2 3 0 9 [5] = 0 := by decide
  rw [hf] at h1 h2
  rw [hn] at h1 h2
  rw [show hasI 2097153 ([] : List (Int × Ent)) = false from rfl] at h1 h2
  rw [if_pos ⟨rfl, rfl, by simp⟩] at h2
  refine ⟨?_, h2⟩
  rcases h1 with h | h | h | h
  · exact absurd rfl h.1
  · exact absurd h.2.1 (by simp)
  · exact absurd h.2.2.1 (by simp)
  · exact h.2.2.2
theorem live_str5 : (strOfNums [5]).toList = [5] := by rw [ByteArray.toList_eq]; decide
theorem live_w1 : wrE (thI e0 (numI 8192 1) T1) (findE 8192 1 T1) [10] = 101253169 := by decide +kernel
theorem live_w2 : wrE (thI e0 (numI 8192 2) T1) (findE 8192 2 T1) [] = 101253137 := by decide +kernel
theorem live_w3 : wrE (thI e0 (numI 8193 0) T1) (findE 8193 0 T1) [] = 100794368 := by decide +kernel
end Go.Proofs.Ytchmildlkaikmaa