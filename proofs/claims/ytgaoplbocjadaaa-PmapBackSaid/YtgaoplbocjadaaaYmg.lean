/- What must be whatever is asked: pmap's live; Pack of a nil dictionary. -/
import Derived.Test.YtgaoplbocjadaaaYme
namespace Go.Proofs.Ytgaoplbocjadaaa
open Go.RowKit
set_option linter.unusedSimpArgs false
set_option linter.unusedVariables false
def T5 : List (Int × Ent) := newT (sE 8192 1 5 TLD) 8192 1 (sL 8192 1 5 TLD) TLD
def T6 : List (Int × Ent) := newT (sE 8192 2 258 T5) 8192 2 (sL 8192 2 258 T5) T5
theorem good_of {T : List (Int × Ent)} (h1 : T.Pairwise (fun x y => x.1 < y.1)) (h2 : T.length ≤ 600) (h3 : ∀ x ∈ T, okRE x = true) : Good T := ⟨rise_iff.2 h1, h2, fun x hx => of_okRE (h3 x hx)⟩
theorem TLD_good : Good TLD := good_of (by decide +kernel) (by decide +kernel) (by decide +kernel)
theorem T5_good : Good T5 := good_of (by decide +kernel) (by decide +kernel) (by decide +kernel)
theorem T6_good : Good T6 := good_of (by decide +kernel) (by decide +kernel) (by decide +kernel)
def fsL (i : Nat) : SlV := if i = 0 then ⟨8192, 1, 8⟩ else ⟨8192, 2, 16⟩
theorem live_pkE : pkE T6 fsL 2 = 0 := by decide +kernel
theorem live_pkL : pkL T6 fsL 2 = [5, 2, 1] := by decide +kernel
theorem live_str25 : (strOfNums [5, 2, 1]).toList = [5, 2, 1] := by decide +kernel
theorem els_two (w : World) (i j n i2 j2 n2 : Int) (fs : Nat → SlV) (h0 : fs 0 = ⟨i, j, n⟩) (h1 : fs 1 = ⟨i2, j2, n2⟩) (t : TypeId) : Els SlC 3 (w.alloc (.cells #[.int .i64 i, .int .i64 j, .int .i64 n, .int .i64 i2, .int .i64 j2, .int .i64 n2] t)) (w.alloc (.cells #[.int .i64 i, .int .i64 j, .int .i64 n, .int .i64 i2, .int .i64 j2, .int .i64 n2] t)).heap.size (some ⟨w.heap.size, 0, none⟩) 2 2 fs :=
  ⟨Nat.le_refl _, by simp [maxLen], fun _ => ⟨w.heap.size, 0, rfl, by simp, fun q hq => by
    have hx := heap_alloc_new w (.cells #[.int .i64 i, .int .i64 j, .int .i64 n, .int .i64 i2, .int .i64 j2, .int .i64 n2] t)
    have hq2 : q = 0 ∨ q = 1 := by omega
    rcases hq2 with rfl | rfl
    · rw [h0]
      refine ⟨?_, ?_, ?_⟩ <;> (rw [cell_of_row _ _ _ _ _ _ hx]; rfl)
    · rw [h1]
      refine ⟨?_, ?_, ?_⟩ <;> (rw [cell_of_row _ _ _ _ _ _ hx]; rfl)⟩⟩
theorem els_one (w : World) (i j n : Int) (t : TypeId) : Els SlC 3 (w.alloc (.cells #[.int .i64 i, .int .i64 j, .int .i64 n] t)) (w.alloc (.cells #[.int .i64 i, .int .i64 j, .int .i64 n] t)).heap.size (some ⟨w.heap.size, 0, none⟩) 1 1 (fun _ => ⟨i, j, n⟩) :=
  ⟨Nat.le_refl _, by simp [maxLen], fun _ => ⟨w.heap.size, 0, rfl, by simp, fun q hq => by
    have hx := heap_alloc_new w (.cells #[.int .i64 i, .int .i64 j, .int .i64 n] t)
    obtain rfl : q = 0 := by omega
    refine ⟨?_, ?_, ?_⟩ <;> (rw [cell_of_row _ _ _ _ _ _ hx]; rfl)⟩⟩
theorem nil_spec (w : World) (i j : Int) : SpecC w none i j e0 false := fun x _ => spec_any x none i j e0 false (fun y _ => get_nil y i j)
theorem nil_check (w : World) (A : Option Addr) (n c : Nat) (fs : Nat → SlV) (hL : Els SlC 3 w w.heap.size A n c fs) :
    Calls Try.prog 24 #[.pointer none, .slice A n c] w fun e w' => e = .returned (.int .i64 (chkE (fun _ => false) fs n)) ∧ Below w.heap.size w w' :=
  check_any w none A n c fs (fun _ => false) hL (fun s h => by cases h) (fun x s hx => mapped_any x none s.i s.j s.n e0 false (nil_spec x s.i s.j))
set_option maxRecDepth 100000 in
set_option maxHeartbeats 8000000 in
theorem pack_nil (w : World) (A : Option Addr) (c : Nat) (fs : Nat → SlV) (hL : Els SlC 3 w w.heap.size A 1 c fs) :
    Calls Try.prog 22 #[.pointer none, .slice A 1 c] w fun e w' => e = .returned (.tuple #[.slice none 0 0, .int .i64 14]) ∧ Below w.heap.size w w' := by
  have HCK := Lib.hid (nil_check w A 1 c fs hL)
  clear hL
  have e1 : chkE (fun _ => false) fs 1 = 100925505 := rfl
  rw [e1] at HCK
  clear e1
  go_enter Try.func22, Try.ntmps22
  go_wp2_with fail
  refine HCK.out.mono ?_
  rintro e w1 ⟨rfl, hb1⟩
  have HB1 := Lib.hid hb1
  clear hb1 HCK
  go_wp2_with fail
  go_ret2
  exact ⟨rfl, HB1.out⟩
set_option maxRecDepth 100000 in
set_option maxHeartbeats 8000000 in
theorem live25_any (w : World) : Calls Try.prog 28 #[] w fun e w' => e = .returned (.bool true) ∧ Below w.heap.size w w' := by
  go_enter Try.func28, Try.ntmps28
  go_wp2_with fail
  have hll := laid_any w
  unfold LaidP at hll
  refine hll.mono ?_
  rintro e w1 ⟨g, a, cR, R, rfl, hbo, hb1⟩
  have HB1 := Lib.hid hb1
  have HD1 := Lib.hid hbo.dict
  clear hll hbo hb1
  go_upto_region 3 with fail
  have HW3 : Hid (Below w1.heap.size w1 (((w1.alloc (.cells #[.slice a R.length cR, .int .i64 0] 33)).alloc (.cells #[.int .i64 8192, .int .i64 1] 24)).alloc (.cells #[.int .i64 8192, .int .i64 2] 24))) := Lib.hid ((((Below.refl _ _).alloc (Nat.le_refl _) _).alloc (by simp) _).alloc (by simp; omega) _)
  have hs1 : (w1.alloc (.cells #[.slice a R.length cR, .int .i64 0] 33)).heap.size = w1.heap.size + 1 := by simp
  have HK1 : Hid (Key2 (((w1.alloc (.cells #[.slice a R.length cR, .int .i64 0] 33)).alloc (.cells #[.int .i64 8192, .int .i64 1] 24)).alloc (.cells #[.int .i64 8192, .int .i64 2] 24)) (w1.heap.size + 1) 8192 1) := Lib.hid (by rw [← hs1]; exact heap_alloc2_old _ _ _)
  have HK2 : Hid (Key2 (((w1.alloc (.cells #[.slice a R.length cR, .int .i64 0] 33)).alloc (.cells #[.int .i64 8192, .int .i64 1] 24)).alloc (.cells #[.int .i64 8192, .int .i64 2] 24)) (w1.heap.size + 1 + 1) 8192 2) := Lib.hid (by have := heap_alloc2_new (w1.alloc (.cells #[.slice a R.length cR, .int .i64 0] 33)) (.cells #[.int .i64 8192, .int .i64 1] 24) (.cells #[.int .i64 8192, .int .i64 2] 24); rw [hs1] at this; exact this)
  have HD3 := Lib.hid (HD1.out.below HW3.out)
  have HB3 := Lib.hid (kF HW3.out HB1.out)
  clear hs1 HW3 HD1 HB1
  generalize (((w1.alloc (.cells #[.slice a R.length cR, .int .i64 0] 33)).alloc (.cells #[.int .i64 8192, .int .i64 1] 24)).alloc (.cells #[.int .i64 8192, .int .i64 2] 24)) = w3 at *
  generalize w1.heap.size = b1 at *
  obtain ⟨k0, k1⟩ := HK1.out.cells
  obtain ⟨j0, j1⟩ := HK2.out.cells
  go_wp2_with fail
  refine (at_set 8192 1 5 HD3.out TLD_good (by omega)).mono ?_
  rintro e w4 ⟨rfl, hd4, ho4⟩
  have HD4 : Hid (DictAt w.heap.size g T5 (newC (sE 8192 1 5 TLD) 8192 1 (sL 8192 1 5 TLD) TLD 0) w4) := Lib.hid hd4
  have hc4 := newC_le (sE 8192 1 5 TLD) 8192 1 (sL 8192 1 5 TLD) TLD 0
  have HK14 := Lib.hid (show Key2 w4 (b1 + 1) 8192 1 from ho4.2 _ _ _ _ HK1.out not3_K)
  have HK24 := Lib.hid (show Key2 w4 (b1 + 1 + 1) 8192 2 from ho4.2 _ _ _ _ HK2.out not3_K)
  have HB4 := Lib.hid (HB3.out.trans ho4.1)
  generalize newC (sE 8192 1 5 TLD) 8192 1 (sL 8192 1 5 TLD) TLD 0 = c4 at *
  have HC4 := Lib.hid hc4
  clear hd4 ho4 hc4 HD3 HK1 HK2 HB3 k0 k1 j0 j1
  obtain ⟨k0, k1⟩ := HK14.out.cells
  obtain ⟨j0, j1⟩ := HK24.out.cells
  go_wp2_with fail
  refine (at_set 8192 2 258 HD4.out T5_good (by have := HC4.out; omega)).mono ?_
  rintro e w5 ⟨rfl, hd5, ho5⟩
  have HD5 : Hid (DictAt w.heap.size g T6 (newC (sE 8192 2 258 T5) 8192 2 (sL 8192 2 258 T5) T5 c4) w5) := Lib.hid hd5
  have HK15 := Lib.hid (show Key2 w5 (b1 + 1) 8192 1 from ho5.2 _ _ _ _ HK14.out not3_K)
  have HK25 := Lib.hid (show Key2 w5 (b1 + 1 + 1) 8192 2 from ho5.2 _ _ _ _ HK24.out not3_K)
  have HB5 := Lib.hid (HB4.out.trans ho5.1)
  generalize newC (sE 8192 2 258 T5) 8192 2 (sL 8192 2 258 T5) T5 c4 = c5 at *
  clear hd5 ho5 HD4 HK14 HK24 HB4 HC4 k0 k1 j0 j1
  obtain ⟨k0, k1⟩ := HK15.out.cells
  obtain ⟨j0, j1⟩ := HK25.out.cells
  have hba : Below w5.heap.size w5 (w5.alloc (.cells #[.int .i64 8192, .int .i64 1, .int .i64 8, .int .i64 8192, .int .i64 2, .int .i64 16] 26)) := (Below.refl _ _).alloc (Nat.le_refl _) _
  have hpk := pack_any (HD5.out.below hba) T6_good (els_two w5 8192 1 8 8192 2 16 fsL rfl rfl 26)
  unfold PackP at hpk
  rw [live_pkE, live_pkL] at hpk
  have HPK := Lib.hid hpk
  have HBA := Lib.hid (kF hba HB5.out)
  clear hpk hba
  go_wp2_with fail
  refine HPK.out.mono ?_
  rintro e w6 ⟨A6, n6, c6, rfl, hy, hb6⟩
  have HB6 := Lib.hid (kF hb6 HBA.out)
  have hcv : ∀ kk, (convert 58 9 (.slice A6 n6 c6)).run Try.prog (w6.drewN kk) = .ok (.string (strOfNums [5, 2, 1])) (w6.drewN kk) := fun kk => conv_any (hy.step (below_drewN (Below.refl _ _) kk))
  have hcw : (convert 58 9 (.slice A6 n6 c6)).run Try.prog w6 = .ok (.string (strOfNums [5, 2, 1])) w6 := conv_any hy
  have hst := live_str25
  clear hb6 hy HPK k0 k1 j0 j1
  go_wp2_with fail
  go_ret
  exact ⟨by first | rfl | simp [hst], HB6.out⟩
end Go.Proofs.Ytgaoplbocjadaaa
