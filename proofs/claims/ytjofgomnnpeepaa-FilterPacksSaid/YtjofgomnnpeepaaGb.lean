/- What Pass answers. -/
import Derived.Test.YtjofgomnnpeepaaGa
namespace Go.Proofs.Ytjofgomnnpeepaa
open Go.RowKit Go.Sort

theorem one_bits (id fc fm : Int) (h : 0 ≤ id ∧ id < 2048) : (bits .and .i64 id ((low fm : Nat) : Int) == ((low fc &&& low fm : Nat) : Int)) = One (low fc) (low fm) id := by
  rw [i64_and_low _ _ (low_lt fm), Bool.eq_iff_iff]
  simp only [One, Bool.and_eq_true, decide_eq_true_eq, beq_iff_eq]
  omega
theorem pass_any (w : World) (id : Int) (A : Option Addr) (n c : Nat) (fs : Nat → Int × Int) (h : Fils w w.heap.size A n c fs) :
    Calls Try.prog 8 #[.int .i64 id, .slice A n c] w fun e w' => e = .returned (.bool (anyF fs n id)) ∧ Below w.heap.size w w' := by
  have HF := Lib.hid h
  have hcap := h.cap
  have hmax := h.max
  simp only [maxLen] at hmax
  clear h
  by_cases hid : 0 ≤ id ∧ id < 2048
  · have hd : (decide (0 ≤ id) && decide (id < 2048)) = true := by simp [hid]
    have hlo := low_id hid.1 hid.2
    have HD := Lib.hid hid
    clear hid
    go_enter Try.func8, Try.ntmps8
    go_wp2_with (go_at_call 18; refine (is_any _ _).mono ?_; rintro e w' ⟨rfl, rfl⟩; rw [hd])
    go_loopw [12] (fun i wr => ∃ j : Nat, j ≤ n ∧ i = .int .i64 j ∧ Hid (anyF fs j id = false) ∧ Below w.heap.size w wr) (fun i _ => n - (intOf i).toNat)
    case atStart => exact ⟨0, Nat.zero_le _, rfl, Lib.hid (anyF_zero fs id), Below.refl _ _⟩
    case round =>
      obtain ⟨j, hj, rfl, hno, hb⟩ := hrel
      by_cases hlt : j < n
      · obtain ⟨b, off, rfl, hbb, hcl⟩ := (HF.out.below hb).cells (by omega)
        obtain ⟨c0, c1⟩ := hcl j hlt
        generalize hfj : fs j = f at c0 c1
        obtain ⟨fc, fm⟩ := f
        simp only at c0 c1
        have hst := anyF_succ fs j id
        rw [hfj] at hst
        have hof := anyF_of (fs := fs) (n := n) (i := j) (id := id) hlt
        rw [hfj] at hof
        simp only at hst hof
        rw [hno.out, Bool.false_or] at hst
        have HST := Lib.hid hst
        have HOF := Lib.hid hof
        clear hst hof hfj hcl hno
        have hz : wr.heap.size < (wr.alloc (.cells #[.int .i64 fc, .int .i64 fm] 36)).heap.size := by simp
        have e0 : (wr.alloc (.cells #[.int .i64 fc, .int .i64 fm] 36)).cell? ⟨wr.heap.size, 0, none⟩ = some (.int .i64 fc) := by rw [cell_of_row _ _ _ _ _ _ (heap_alloc_new wr _)]; rfl
        have e1 : (wr.alloc (.cells #[.int .i64 fc, .int .i64 fm] 36)).cell? ⟨wr.heap.size, 1, none⟩ = some (.int .i64 fm) := by rw [cell_of_row _ _ _ _ _ _ (heap_alloc_new wr _)]; rfl
        have k0 := cell_grown (a := ⟨wr.heap.size, 0, none⟩) hz e0
        have k1 := cell_grown (a := ⟨wr.heap.size, 1, none⟩) hz e1
        have hba : Below w.heap.size w (wr.alloc (.cells #[.int .i64 fc, .int .i64 fm] 36)) := hb.alloc hb.size _
        have hmix := filter_mix
        clear hz e0 e1
        go_wp2_with fail
        generalize (wr.alloc (.cells #[.int .i64 fc, .int .i64 fm] 36)) = w1 at k0 k1 hba ⊢
        go_quiet_grown (first | (go_at_call 19; refine Calls.grown_of (bound_any _ _ _)) | (go_at_call 20; refine Calls.grown_of (least_any _ _ _)))
        go_wp2_with fail
        · rename_i hh
          rw [one_bits _ _ _ HD.out] at hh
          exact bodyPost_ret (results_tmp rfl _ _ _) rfl ⟨by rw [HOF.out hh]; rfl, hba.trans ((below_gr w1 nq osq).mono hba.size)⟩
        · rename_i hh
          rw [one_bits _ _ _ HD.out] at hh
          exact ⟨⟨j + 1, by omega, by go_num, Lib.hid (HST.out.trans hh), hba.trans ((below_gr w1 nq osq).mono hba.size)⟩, by simp [intOf]; omega⟩
      · obtain rfl : j = n := by omega
        go_wp2_with fail
        exact bodyPost_ret (results_tmp rfl _ _ _) rfl ⟨by rw [hno.out]; rfl, hb⟩
  · have hd : (decide (0 ≤ id) && decide (id < 2048)) = false := by simp; omega
    have ha : anyF fs n id = false := by
      rw [anyF, List.any_eq_false]
      intro i _
      simp [One, hd]
    rw [ha]
    clear hid
    go_enter Try.func8, Try.ntmps8
    go_wp2_with (go_at_call 18; refine (is_any _ _).mono ?_; rintro e w' ⟨rfl, rfl⟩; rw [hd])
    exact bodyPost_ret (results_tmp rfl _ _ _) rfl ⟨rfl, Below.refl _ _⟩
end Go.Proofs.Ytjofgomnnpeepaa
