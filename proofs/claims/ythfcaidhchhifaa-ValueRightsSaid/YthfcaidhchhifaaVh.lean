/- ValueFits, ValueBytes and ValueRights, walked; a spec that came in. -/
import Derived.Test.YthfcaidhchhifaaVg
import Derived.Lib.SmallJoins
import Derived.Deep.Slices
namespace Go.Proofs.Ythfcaidhchhifaa
open Go.RowKit
set_option linter.unusedSimpArgs false
set_option linter.unusedVariables false

set_option maxHeartbeats 2000000 in
theorem fits_walk (w : World) (k a lo hi : Int) (A : Option Addr) (n c : Nat) (l : List Int) (h : Byt w w.heap.size A n c l) : Calls Try.prog 4 #[.agg #[.int .i64 k, .int .i64 a, .int .i64 lo, .int .i64 hi], .slice A n c] w fun e w' => e = .returned (.bool true) ∧ Below w.heap.size w w' := by
  have HX0 := Lib.hid (Bx4.start w k a lo hi 25)
  have HN1 := Lib.hid (fun (x : World) (hb : Below w.heap.size w x) => vnum_any k a lo hi x A n c l (h.low hb))
  have HN2 := Lib.hid (fun (x : World) (hb : Below w.heap.size w x) => rnum_any k a lo hi x A n c l (h.low hb))
  have HF1 := Lib.hid (fun (x : World) (hb : Below w.heap.size w x) => vfits_any k a lo hi x A n c l (h.low hb))
  have HF2 := Lib.hid (fun (x : World) (hb : Below w.heap.size w x) => rfits_any k a lo hi x A n c l (h.low hb))
  generalize fitsA k a lo hi l = F at HF1 HF2
  generalize numN k a lo hi l = N at HN1 HN2
  generalize numB k a lo hi l = b at HN1 HN2
  clear h
  go_enter Try.func4, Try.ntmps4
  go_wp2_with (first | (go_at_call 13; refine (HN1.out _ HX0.out.blw).mono ?_; rintro e w1 ⟨rfl, hb1⟩; have HX1 := Lib.hid (HX0.out.step hb1); obtain ⟨c0, c1, c2, c3, -, -⟩ := HX1.out) | (go_at_call 14; refine (HN2.out _ HX1.out.blw).mono ?_; rintro e w2 ⟨rfl, hb2⟩; have HX2 := Lib.hid (HX1.out.step hb2); obtain ⟨c0, c1, c2, c3, -, -⟩ := HX2.out))
  have k2 := HX2.out.cells
  clear hb1 hb2
  go_region_held (fun w' => w'.cell? ⟨w.heap.size, 0, none⟩ = some (.int .i64 k) ∧ w'.cell? ⟨w.heap.size, 1, none⟩ = some (.int .i64 a) ∧ w'.cell? ⟨w.heap.size, 2, none⟩ = some (.int .i64 lo) ∧ w'.cell? ⟨w.heap.size, 3, none⟩ = some (.int .i64 hi))
    (first | exact k2 | exact k3 | exact k4 | exact k5)
    (first
      | (go_at_call 11
         (with_reducible refine (live13_any w2.drew).mono ?_)
         rintro e w3 ⟨rfl, hb3⟩
         have HX3 := Lib.hid ((HX2.out.drew 1).step hb3)
         have k3 := HX3.out.cells)
      | (go_at_call 12
         (with_reducible refine (HF1.out w3 HX3.out.blw).mono ?_)
         rintro e w4 ⟨rfl, hb4⟩
         have HX4 := Lib.hid (HX3.out.step hb4)
         have k4 := HX4.out.cells)
      | (go_at_call 15
         (with_reducible refine (HF2.out w4 HX4.out.blw).mono ?_)
         rintro e w5 ⟨rfl, hb5⟩
         have HX5 := Lib.hid (HX4.out.step hb5)
         have k5 := HX5.out.cells))
  all_goals
    go_wp2_with fail
    go_ret
    exact ⟨rfl, HX5.out.blw⟩

set_option maxHeartbeats 2000000 in
theorem bytes_walk (w : World) (k a lo hi n : Int) : Calls Try.prog 5 #[.agg #[.int .i64 k, .int .i64 a, .int .i64 lo, .int .i64 hi], .int .i64 n] w fun e w' => e = .returned (.bool true) ∧ Below w.heap.size w w' := by
  have HX0 := Lib.hid (Bx4.start w k a lo hi 25)
  have hm := fun w => rmay_any k a lo hi w
  have hy := fun w => vbytes_any k a lo hi n w
  unfold BytPost at hy
  have HLV := Lib.hid live13_any
  by_cases h0 : mayB k a lo hi = true ∧ ¬ k = 8 ∧ lo ≤ n ∧ n ≤ hi
  · obtain ⟨h0, h8, h1, h2⟩ := h0
    obtain ⟨e1, e2⟩ := byt_yes h0 h8 h1 h2
    obtain ⟨f1, f2, f3⟩ := fits_put h0 h8 h1 h2
    rw [e1] at f1 f2 f3
    have e3 : bytE k a lo hi n = 0 := by unfold bytE; rw [if_neg (by simp [h0, h8]), if_neg (by omega)]
    rw [e3] at hy
    generalize bytA k a lo hi n = L at hy f1 f2 f3
    have hnum := fun (x : World) (A : Option Addr) (c : Nat) (h : Byt x x.heap.size A L.length c L) => vnum_any k a lo hi x A L.length c L h
    have hfit := fun (x : World) (A : Option Addr) (c : Nat) (h : Byt x x.heap.size A L.length c L) => vfits_any k a lo hi x A L.length c L h
    have g1 : numN k a lo hi L = n := by unfold numN; rw [if_pos f1]; exact f2
    have g2 : numB k a lo hi L = true := decide_eq_true ⟨f1, f3⟩
    rw [g1, g2] at hnum
    rw [f1] at hfit
    rw [h0] at hm
    have hd8 : (k == 8) = false := by simp [h8]
    have HM := Lib.hid hm
    have HY := Lib.hid hy
    have HNU := Lib.hid hnum
    have HFI := Lib.hid hfit
    generalize L.length = N at *
    clear hm hy hnum hfit e1 e2 e3 f1 f2 f3 g1 g2 h0
    go_enter Try.func5, Try.ntmps5
    go_wp2_with (first
      | (go_at_call 16; refine (HY.out _).mono ?_; rintro e w1 ⟨A, c, rfl, hB, hb1⟩; have HX1 := Lib.hid (HX0.out.step hb1); have HB1 := Lib.hid hB; clear hB hb1; obtain ⟨c0, c1, c2, c3, -, -⟩ := HX1.out)
      | (go_at_call 8; refine (HM.out _).mono ?_; rintro e w2 ⟨rfl, hb2⟩; have HX2 := Lib.hid (HX1.out.step hb2); have HB2 := Lib.hid (HB1.out.step hb2); clear hb2; obtain ⟨c0, c1, c2, c3, -, -⟩ := HX2.out)
      | (go_at_call 13; refine (HNU.out _ _ _ HB2.out).mono ?_; rintro e w3 ⟨rfl, hb3⟩; have HX3 := Lib.hid (HX2.out.step hb3); have HB3 := Lib.hid (HB2.out.step hb3); clear hb3; obtain ⟨c0, c1, c2, c3, -, -⟩ := HX3.out)
      | (go_at_call 11; refine (HLV.out _).mono ?_; rintro e w4 ⟨rfl, hb4⟩; have HX4 := Lib.hid (HX3.out.step hb4); have HB4 := Lib.hid (HB3.out.step hb4); clear hb4; obtain ⟨c0, c1, c2, c3, -, -⟩ := HX4.out)
      | (go_at_call 12; refine (HFI.out _ _ _ HB4.out).mono ?_; rintro e w5 ⟨rfl, hb5⟩; have HX5 := Lib.hid (HX4.out.step hb5); clear hb5))
    go_ret
    exact ⟨rfl, HX5.out.blw⟩
  · have e1 : bytA k a lo hi n = [] := if_neg h0
    rw [e1] at hy
    by_cases h1 : mayB k a lo hi = false
    · have e2 : bytE k a lo hi n = 2 := if_pos (.inl h1)
      rw [e2] at hy
      rw [h1] at hm
      have HM := Lib.hid hm
      have HY := Lib.hid hy
      clear hm hy e1 e2 h0 h1
      go_enter Try.func5, Try.ntmps5
      go_wp2_with (first
        | (go_at_call 16; refine (HY.out _).mono ?_; rintro e w1 ⟨A, c, rfl, -, hb1⟩; have HX1 := Lib.hid (HX0.out.step hb1); clear hb1; obtain ⟨c0, c1, c2, c3, -, -⟩ := HX1.out)
        | (go_at_call 8; refine (HM.out _).mono ?_; rintro e w2 ⟨rfl, hb2⟩; have HX2 := Lib.hid (HX1.out.step hb2); clear hb2; obtain ⟨c0, c1, c2, c3, -, -⟩ := HX2.out)
        | (go_at_call 11; refine (HLV.out _).mono ?_; rintro e w4 ⟨rfl, hb4⟩; have HX4 := Lib.hid (HX2.out.step hb4); clear hb4; obtain ⟨c0, c1, c2, c3, -, -⟩ := HX4.out))
      go_ret
      exact ⟨rfl, HX4.out.blw⟩
    have h2 : mayB k a lo hi = true := by simpa using h1
    rw [h2] at hm
    have HM := Lib.hid hm
    by_cases h8 : k = 8
    · have e2 : bytE k a lo hi n = 2 := if_pos (.inr h8)
      rw [e2] at hy
      subst h8
      have HY := Lib.hid hy
      clear hm hy e1 e2 h0 h1 h2
      go_enter Try.func5, Try.ntmps5
      go_wp2_with (first
        | (go_at_call 16; refine (HY.out _).mono ?_; rintro e w1 ⟨A, c, rfl, -, hb1⟩; have HX1 := Lib.hid (HX0.out.step hb1); clear hb1; obtain ⟨c0, c1, c2, c3, -, -⟩ := HX1.out)
        | (go_at_call 8; refine (HM.out _).mono ?_; rintro e w2 ⟨rfl, hb2⟩; have HX2 := Lib.hid (HX1.out.step hb2); clear hb2; obtain ⟨c0, c1, c2, c3, -, -⟩ := HX2.out)
        | (go_at_call 11; refine (HLV.out _).mono ?_; rintro e w4 ⟨rfl, hb4⟩; have HX4 := Lib.hid (HX2.out.step hb4); clear hb4; obtain ⟨c0, c1, c2, c3, -, -⟩ := HX4.out))
      go_ret
      exact ⟨rfl, HX4.out.blw⟩
    · have h3 : n < lo ∨ (¬ n < lo ∧ hi < n) := by
        by_cases h4 : n < lo
        · exact .inl h4
        · exact .inr ⟨h4, Int.not_le.1 fun h5 => h0 ⟨h2, h8, by omega, h5⟩⟩
      have e2 : bytE k a lo hi n = 14 := by unfold bytE; rw [if_neg (by simp [h2, h8]), if_pos (by omega)]
      rw [e2] at hy
      have hd8 : (k == 8) = false := by simp [h8]
      have HY := Lib.hid hy
      clear hm hy e1 e2 h0 h1 h2
      rcases h3 with h3 | ⟨h3, h4⟩
      all_goals
        go_enter Try.func5, Try.ntmps5
        go_wp2_with (first
          | (go_at_call 16; refine (HY.out _).mono ?_; rintro e w1 ⟨A, c, rfl, -, hb1⟩; have HX1 := Lib.hid (HX0.out.step hb1); clear hb1; obtain ⟨c0, c1, c2, c3, -, -⟩ := HX1.out)
          | (go_at_call 8; refine (HM.out _).mono ?_; rintro e w2 ⟨rfl, hb2⟩; have HX2 := Lib.hid (HX1.out.step hb2); clear hb2; obtain ⟨c0, c1, c2, c3, -, -⟩ := HX2.out)
          | (go_at_call 11; refine (HLV.out _).mono ?_; rintro e w4 ⟨rfl, hb4⟩; have HX4 := Lib.hid (HX2.out.step hb4); clear hb4; obtain ⟨c0, c1, c2, c3, -, -⟩ := HX4.out))
        go_ret
        exact ⟨rfl, HX4.out.blw⟩

def reasV : List Value := reasL.map (Value.int .i64)
theorem reasons_any (w : World) : Calls Try.prog 17 #[] w fun e w' => e = .returned (.slice (some ⟨w.heap.size, 0, none⟩) 21 21) ∧ w' = w.alloc (.cells reasV.toArray 3) := by
  go_enter Try.func17, Try.ntmps17
  go_wp2
  go_ret
  exact ⟨rfl, rfl⟩
theorem reas_at (j : Nat) (hj : j < 21) : ∃ r, reasL[j]? = some r ∧ r ∈ reasL := ⟨_, List.getElem?_eq_getElem (show j < reasL.length from hj), List.getElem_mem _⟩
theorem reas_cell {w : World} {j : Nat} {r : Int} (hr : reasL[j]? = some r) : (w.alloc (.cells reasV.toArray 3)).cell? ⟨w.heap.size, j, none⟩ = some (.int .i64 r) := by
  rw [cell_of_row _ _ _ _ _ _ (heap_alloc_new w _)]
  simp [reasV, hr]
theorem reas_step {j : Nat} {r b : Int} (hr : reasL[j]? = some r) : decide (b ∈ reasL.take (j + 1)) = (decide (b ∈ reasL.take j) || (r == b)) := by
  obtain ⟨hj, e⟩ := List.getElem?_eq_some_iff.1 hr
  rw [List.take_succ_eq_append_getElem hj, e, Bool.eq_iff_iff]
  simp
  constructor
  · rintro (h | h)
    · exact .inl h
    · exact .inr h.symm
  · rintro (h | h)
    · exact .inl h
    · exact .inr h.symm
set_option maxHeartbeats 2000000 in
theorem rights_walk (w : World) (a b : Int) : Calls Try.prog 6 #[.int .i64 a, .int .i64 b] w fun e w' => e = .returned (.bool true) ∧ Below w.heap.size w w' := by
  have HRS := Lib.hid reasons_any
  have HRA := Lib.hid (fun w => reads_any a w)
  have HRB := Lib.hid (fun w => rreads_any a w)
  have HWA := Lib.hid (fun w => writes_any a w)
  have HWB := Lib.hid (fun w => rwrites_any a w)
  have HKN := Lib.hid (fun w => known_any b w)
  have HKR := Lib.hid (fun r (h : r ∈ reasL) w => show Calls Try.prog 18 #[.int .i64 r] w fun e w' => e = .returned (.bool true) ∧ w = w' from by
    have := known_any r w
    rw [decide_eq_true h] at this
    exact this)
  have HLV := Lib.hid live13_any
  generalize readsI a = p at HRA HRB
  generalize writesI a = q at HWA HWB
  go_enter Try.func6, Try.ntmps6
  go_wp2_with (go_at_call 17; refine (HRS.out _).mono ?_; rintro e w1 ⟨rfl, hw1⟩; have HW1 := Lib.hid hw1; clear hw1)
  have hw1 := HW1.out
  have HC := Lib.hid (fun j r (hr : reasL[j]? = some r) => show w1.cell? ⟨w.heap.size, j, none⟩ = some (.int .i64 r) from by rw [hw1]; exact reas_cell hr)
  have HB := Lib.hid (show Below w.heap.size w w1 from by rw [hw1]; exact (Below.refl _ _).alloc (Nat.le_refl _) _)
  clear hw1 HW1 HRS
  go_loopw [5, 7] (fun kn i wr => ∃ j : Nat, j ≤ 21 ∧ i = .int .i64 j ∧ kn = .bool (decide (b ∈ reasL.take j)) ∧ wr = w1) (fun _ i _ => 21 - (intOf i).toNat)
  case atStart => exact ⟨0, Nat.zero_le _, rfl, rfl, rfl⟩
  case round =>
    obtain ⟨j, hj, rfl, rfl, rfl⟩ := hrel
    by_cases hlt : j < 21
    · obtain ⟨r, hr, hrm⟩ := reas_at j hlt
      have hcell := HC.out j r hr
      have HST := Lib.hid (reas_step (b := b) hr)
      have HKR2 := Lib.hid (HKR.out r hrm)
      generalize decide (b ∈ reasL.take j) = t at HST ⊢
      clear hr hrm
      go_wp2_with (go_at_call 18; refine (HKR2.out _).mono ?_; rintro e w2 ⟨rfl, rfl⟩)
      all_goals
        exact ⟨⟨j + 1, by omega, by go_num, by rw [HST.out]; first | rfl | simp [*], by first | trivial | rfl⟩, by simp [intOf]; omega⟩
    · obtain rfl : j = 21 := by omega
      have e1 : decide (b ∈ reasL.take 21) = decide (b ∈ reasL) := rfl
      rw [e1]
      generalize decide (b ∈ reasL) = t at HKN ⊢
      go_wp2_with (first
        | (go_at_call 11; refine (HLV.out _).mono ?_; rintro e w2 ⟨rfl, hb2⟩; have HB2 := Lib.hid (below_trans' HB.out hb2); clear hb2)
        | (go_at_call 19; refine (HRA.out _).mono ?_; rintro e w3 ⟨rfl, rfl⟩)
        | (go_at_call 20; refine (HRB.out _).mono ?_; rintro e w4 ⟨rfl, hb4⟩; have HB4 := Lib.hid (below_trans' HB2.out hb4); clear hb4)
        | (go_at_call 21; refine (HWA.out _).mono ?_; rintro e w5 ⟨rfl, rfl⟩)
        | (go_at_call 22; refine (HWB.out _).mono ?_; rintro e w6 ⟨rfl, hb6⟩; have HB6 := Lib.hid (below_trans' HB4.out hb6); clear hb6)
        | (go_at_call 18; refine (HKN.out _).mono ?_; rintro e w7 ⟨rfl, rfl⟩))
      go_ret
      exact ⟨rfl, HB6.out⟩

/-! ### A spec that came in -/
open Go.Joins Go.ChangeShapes Go.WideShapes Go.Deep
theorem cells_spec : Try.prog.cellsOf 25 = 4 := by kernel_rfl
theorem cells_kind : Try.prog.cellsOf 22 = 1 := by kernel_rfl
theorem cells_access : Try.prog.cellsOf 23 = 1 := by kernel_rfl
theorem cells_i64 : Try.prog.cellsOf 2 = 1 := by kernel_rfl
theorem array4 {α : Type} {cs : Array α} (h : cs.size = 4) : ∃ c0 c1 c2 c3, cs = #[c0, c1, c2, c3] := by
  obtain ⟨l⟩ := cs
  match l, h with
  | [c0, c1, c2, c3], _ => exact ⟨c0, c1, c2, c3, rfl⟩
section
variable {H : Type} {enc : TypeId × Value → H} {w : World} {base : Nat} {spare : Nat → Bool} {held : Bool}
theorem open_spec {r : Reach} {b0 : Nat} {v : Value} {dd : DataW H} {p : List MemPlace} (hv : Value.okWide Try.prog w r b0 25 v) (h : DataW.Trod enc Try.prog w base spare held 25 v dd p) :
    ∃ k a lo hi : Int, v = .agg #[.int .i64 k, .int .i64 a, .int .i64 lo, .int .i64 hi] ∧ (Lit.int .i64 lo).wf = true ∧ (Lit.int .i64 hi).wf = true := by
  obtain ⟨cs, rfl, hsz⟩ := okWide_struct Try.underlying25 hv
  obtain ⟨c0, c1, c2, c3, rfl⟩ := array4 (hsz.trans cells_spec)
  obtain ⟨fuel, hf⟩ := h
  obtain ⟨y0, y1, y2, y3, m, _, _, h0, h1, h2, h3⟩ := trod_struct4 Try.underlying25 hf
  simp only [cells_kind, cells_access, cells_i64, Value.cells] at h0 h1 h2 h3
  obtain ⟨k, e0, _, w0⟩ := DataW.trod_int Try.underlying22 h0
  obtain ⟨a, e1, _, w1⟩ := DataW.trod_int Try.underlying23 h1
  obtain ⟨lo, e2, _, w2⟩ := DataW.trod_int Try.underlying2 h2
  obtain ⟨hi, e3, _, w3⟩ := DataW.trod_int Try.underlying2 h3
  simp at e0 e1 e2 e3
  subst e0 e1 e2 e3
  exact ⟨k, a, lo, hi, rfl, w2, w3⟩
end
end Go.Proofs.Ythfcaidhchhifaa
