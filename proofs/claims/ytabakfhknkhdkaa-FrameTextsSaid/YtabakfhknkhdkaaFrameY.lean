/- What the document's sign and value answer. -/
import Derived.Test.YtabakfhknkhdkaaFrameX
import Derived.Deep.RegionLaw
namespace Go.Proofs.Ytabakfhknkhdkaa
open Go.RowKit

theorem byt1 (w : World) (q : Int) (h0 : 0 ≤ q) (h1 : q ≤ 255) : Byt (w.alloc (.cells #[.int .u8 q] 5)) (w.heap.size + 1) (some ⟨w.heap.size, 0, none⟩) 1 1 [q] :=
  Byt.new w 5 [q] (fun x hx => by simp only [List.mem_cons, List.not_mem_nil, or_false] at hx; omega) (by simp [maxLen])
theorem sign_any (x : Int) (w : World) (h0 : 0 ≤ x) (h1 : x ≤ 15) :
    Calls Try.prog 31 #[.int .i64 x] w fun e w' => e = .returned (.string (strOfNums [sg x])) ∧ Below w.heap.size w w' := by
  have hsr := sg_range h0 (by omega)
  by_cases hx : x < 10
  · have e : sg x = 48 + x := by unfold sg; rw [if_pos hx]
    rw [e] at hsr ⊢
    have hw8 := IntWalk.u8_in (48 + x) (by omega)
    have hst := run_str 25 5 Try.underlying25 Try.underlying5 (byt1 w (48 + x) (by omega) (by omega)) 9 Try.underlying9
    clear e
    go_enter Try.func31, Try.ntmps31
    go_wp2
    all_goals first | (exfalso; omega) | exact bodyPost_ret (results_tmp rfl _ _ _) rfl ⟨rfl, (Below.refl _ _).alloc (Nat.le_refl _) _⟩
  · have e : sg x = 55 + x := by unfold sg; rw [if_neg hx]
    rw [e] at hsr ⊢
    have hw8 := IntWalk.u8_in (55 + x) (by omega)
    have hst := run_str 25 5 Try.underlying25 Try.underlying5 (byt1 w (55 + x) (by omega) (by omega)) 9 Try.underlying9
    clear e
    go_enter Try.func31, Try.ntmps31
    go_wp2
    all_goals first | (exfalso; omega) | exact bodyPost_ret (results_tmp rfl _ _ _) rfl ⟨rfl, (Below.refl _ _).alloc (Nat.le_refl _) _⟩
/-- A sign's number; 16: it is none. -/
def vd (c : Int) : Int := if vs c < 0 then 16 else vs c
theorem vd_range (c : Int) : 0 ≤ vd c ∧ vd c ≤ 16 := by
  have := vs_range c
  unfold vd
  split <;> omega
theorem conv_after {w0 w2 : World} {q : Int} {G : Nat} (h0 : 0 ≤ q) (h1 : q ≤ 255) (hb : Below (w0.alloc (.cells #[.int .u8 q] 5)).drew.heap.size (w0.alloc (.cells #[.int .u8 q] 5)).drew w2) (hG : w0.heap.size = G) : (convert 25 9 (.slice (some ⟨G, 0, none⟩) 1 1)).run Try.prog w2 = .ok (.string (strOfNums [q])) w2 := by
  subst hG
  have h := byt1 w0 q h0 h1
  have hB : Byt (w0.alloc (.cells #[.int .u8 q] 5)).drew (w0.heap.size + 1) (some ⟨w0.heap.size, 0, none⟩) 1 1 [q] := ⟨h.len, h.cap, h.max, h.rng, h.cells⟩
  have hsz : w0.heap.size + 1 ≤ (w0.alloc (.cells #[.int .u8 q] 5)).drew.heap.size := by simp
  exact run_str 25 5 Try.underlying25 Try.underlying5 (hB.below (hb.mono hsz)) 9 Try.underlying9
theorem strL_ne {s t : ByteArray} (h : sB s ≠ sB t) : (s.toList == t.toList) = false := by
  refine beq_false_of_ne fun e => h ?_
  rw [ByteArray.toList_eq, ByteArray.toList_eq] at e
  unfold sB
  rw [e]
theorem vd_sg {x c : Int} (h0 : 0 ≤ x) (h1 : x < 16) (h : sg x = c) : vd c = x := by
  have := vs_sg h0 h1
  rw [h] at this
  unfold vd
  rw [if_neg (by omega), this]
theorem vd_none {c : Int} (h0 : 0 ≤ c) (h1 : c ≤ 255) (h : ∀ k : Nat, k < 16 → sg k ≠ c) : vd c = 16 := by
  unfold vd
  by_cases hv : vs c < 0
  · rw [if_pos hv]
  · have := vs_range c
    have e := sg_vs h0 h1 hv
    refine absurd ?_ (h (vs c).toNat (by omega))
    rw [Int.toNat_of_nonneg (by omega)]
    exact e
set_option maxHeartbeats 2000000 in
theorem value_any (c : Int) (w : World) (h0 : 0 ≤ c) (h1 : c ≤ 255) :
    Calls Try.prog 32 #[.int .u8 c] w fun e w' => e = .returned (.int .i64 (vd c)) ∧ Below w.heap.size w w' := by
  go_enter Try.func32, Try.ntmps32
  go_wp2_with fail
  go_loopw [3] (fun x wr => ∃ j : Nat, j ≤ 16 ∧ x = .int .i64 j ∧ Hid (∀ k : Nat, k < j → sg k ≠ c) ∧ Hid (Below w.heap.size w wr)) (fun x _ => 16 - (intOf x).toNat)
  case atStart => exact ⟨0, Nat.zero_le _, rfl, Lib.hid (fun k hk => absurd hk (by omega)), Lib.hid (Below.refl _ _)⟩
  case round =>
    obtain ⟨j, hj, rfl, HK, HB⟩ := hrel
    by_cases hlt : j < 16
    · have hsr := sg_range (x := (j : Int)) (by omega) (by omega)
      have hsj := vs_sg (x := (j : Int)) (by omega) (by omega)
      have hst := fun w : World => run_str 25 5 Try.underlying25 Try.underlying5 (byt1 w c h0 h1) 9 Try.underlying9
      have hst2 := fun w : World => conv_after (w0 := w) h0 h1 (Below.refl _ _) rfl
      have hsa := fun w => sign_any (j : Int) w (by omega) (by omega)
      have HJ := Lib.hid hsj
      have HSA := Lib.hid hsa
      clear hsj hsa
      by_cases hjc : sg j = c
      · have heq : ((strOfNums [sg (j : Int)]).toList == (strOfNums [c]).toList) = true := by rw [hjc]; exact beq_self_eq_true _
        have hvd := vd_sg (by omega) (by omega) hjc
        have HVD := Lib.hid hvd
        clear hjc hvd
        go_wp2_with fail
        go_region_with (go_at_call 31; refine (HSA.out _).mono ?_; rintro e w1 ⟨rfl, hb1⟩; first | (have stb := conv_after (G := wr.heap.size) h0 h1 hb1 rfl) | skip)
        all_goals
          go_wp2
          exact bodyPost_ret (results_tmp rfl _ _ _) rfl ⟨by rw [HVD.out]; rfl, by (first | exact ((HB.out.drew.trans (hb1.mono HB.out.drew.size)).alloc (HB.out.drew.trans (hb1.mono HB.out.drew.size)).size _) | exact ((HB.out.alloc HB.out.size _).drew.trans (hb1.mono (HB.out.alloc HB.out.size _).drew.size)))⟩
      · have heq : ((strOfNums [sg (j : Int)]).toList == (strOfNums [c]).toList) = false := strL_ne (by rw [sB_str (by simp; omega), sB_str (by simp; omega)]; simpa using hjc)
        have HJC := Lib.hid hjc
        clear hjc
        go_wp2_with fail
        go_region_with (go_at_call 31; refine (HSA.out _).mono ?_; rintro e w1 ⟨rfl, hb1⟩; first | (have stb := conv_after (G := wr.heap.size) h0 h1 hb1 rfl) | skip)
        all_goals
          go_wp2
          go_roundw
          case rel =>
            refine ⟨j + 1, by omega, by go_num, Lib.hid (fun k hk => ?_), Lib.hid (by (first | exact ((HB.out.drew.trans (hb1.mono HB.out.drew.size)).alloc (HB.out.drew.trans (hb1.mono HB.out.drew.size)).size _) | exact ((HB.out.alloc HB.out.size _).drew.trans (hb1.mono (HB.out.alloc HB.out.size _).drew.size))))⟩
            by_cases hkj : k = j
            · subst hkj; exact HJC.out
            · exact HK.out k (by omega)
          case measure => simp [intOf]; omega
    · obtain rfl : j = 16 := by omega
      have hvd := vd_none h0 h1 HK.out
      have HVD := Lib.hid hvd
      clear HK hvd
      go_wp2
      all_goals first | (exfalso; omega) | exact bodyPost_ret (results_tmp rfl _ _ _) rfl ⟨by rw [HVD.out]; rfl, HB.out⟩
end Go.Proofs.Ytabakfhknkhdkaa
