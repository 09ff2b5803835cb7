/- How the document ends a transfer. -/
import Derived.Deep.CutBlock
import Derived.Test.YtfccjekhdfpkoaaKme6
import Derived.Test.YtfccjekhdfpkoaaKmf
import Derived.Test.YtfccjekhdfpkoaaKo
import Derived.Test.YtfccjekhdfpkoaaKp
import Derived.Test.YtfccjekhdfpkoaaKt
namespace Go.Proofs.Ytfccjekhdfpkoaa
open Go.RowKit
set_option linter.unusedSimpArgs false
set_option linter.unusedVariables false
set_option maxHeartbeats 4000000
/-- Abort on its way. -/
structure RA (w : World) (ki ks : Int) (m : Array Value) (x : World) : Prop where
  hk : x.heap[w.heap.size]? = some (.cells #[.int .i64 ki, .int .i64 ks] 24 (0, 0))
  hz : LnAt x (w.heap.size + 1) []
  hm : x.heap[w.heap.size + 2]? = some (.cells m 28 (0, 0))
  hs : x.heap.size = w.heap.size + 3
  hb : Below w.heap.size w x
theorem ra_start {w x : World} {ki ks : Int} (hx : ((w.alloc (.cells #[.int .i64 ki, .int .i64 ks] 24)).alloc (.cells #[.int .u8 0, .int .u8 0, .int .u8 0, .int .u8 0, .int .u8 0, .int .u8 0, .int .u8 0, .int .u8 0] 30)).alloc (.cells #[.int .i64 0, .int .i64 0, .int .i64 0, .bool false, .bool false, .bool false, .bool false, .int .i64 0, .int .i64 0, .int .u8 0, .int .u8 0, .int .u8 0, .int .u8 0, .int .u8 0, .int .u8 0, .int .u8 0, .int .i64 0, .int .i64 0, .int .i64 0, .int .i64 0, .int .i64 0] 28) = x) : RA w ki ks #[.int .i64 0, .int .i64 0, .int .i64 0, .bool false, .bool false, .bool false, .bool false, .int .i64 0, .int .i64 0, .int .u8 0, .int .u8 0, .int .u8 0, .int .u8 0, .int .u8 0, .int .u8 0, .int .u8 0, .int .i64 0, .int .i64 0, .int .i64 0, .int .i64 0, .int .i64 0] x := by
  subst hx
  refine ⟨(heap_alloc_old _ _ (by simp; omega)).trans ((heap_alloc_old _ _ (by simp)).trans (heap_alloc_new w _)), ?_, ?_, by simp, (((Below.refl _ _).alloc (Nat.le_refl _) _).alloc (by simp) _).alloc (by simp; omega) _⟩
  · have := LnAt.alloc (ln_zero (w.alloc (.cells #[.int .i64 ki, .int .i64 ks] 24))) (.cells #[.int .i64 0, .int .i64 0, .int .i64 0, .bool false, .bool false, .bool false, .bool false, .int .i64 0, .int .i64 0, .int .u8 0, .int .u8 0, .int .u8 0, .int .u8 0, .int .u8 0, .int .u8 0, .int .u8 0, .int .i64 0, .int .i64 0, .int .i64 0, .int .i64 0, .int .i64 0] 28); simpa using this
  · have := heap_alloc_new ((w.alloc (.cells #[.int .i64 ki, .int .i64 ks] 24)).alloc (.cells #[.int .u8 0, .int .u8 0, .int .u8 0, .int .u8 0, .int .u8 0, .int .u8 0, .int .u8 0, .int .u8 0] 30)) (.cells #[.int .i64 0, .int .i64 0, .int .i64 0, .bool false, .bool false, .bool false, .bool false, .int .i64 0, .int .i64 0, .int .u8 0, .int .u8 0, .int .u8 0, .int .u8 0, .int .u8 0, .int .u8 0, .int .u8 0, .int .i64 0, .int .i64 0, .int .i64 0, .int .i64 0, .int .i64 0] 28); simpa using this
section
variable {w x : World} {ki ks : Int} {m : Array Value}
theorem RA.told (h : RA w ki ks m x) (m' : Array Value) : RA w ki ks m' (x.setRow (w.heap.size + 2) m') :=
  ⟨(setRow_other _ _ _ _ (by omega)).trans h.hk, (setRow_other _ _ _ _ (by omega)).trans h.hz, setRow_heap _ _ _ _ _ _ h.hm, (size_setRow _ _ _).trans h.hs, below_setRow h.hb (by omega) _⟩
theorem RA.set (h : RA w ki ks m x) (k : Nat) (v : Value) : RA w ki ks (m.setIfInBounds k v) (x.setCell ⟨w.heap.size + 2, k, none⟩ v) :=
  ⟨(set_other _ (by omega)).trans h.hk, (set_other _ (by omega)).trans h.hz, blk_set h.hm, by simpa using h.hs, h.hb.setCell (p := ⟨w.heap.size + 2, k, none⟩) (by show w.heap.size ≤ w.heap.size + 2; omega) v⟩
theorem RA.cong {m' : Array Value} (h : RA w ki ks m x) (e : m = m') : RA w ki ks m' x := e ▸ h
theorem RA.msg (h : RA w ki ks m x) (k : Nat) : x.cell? ⟨w.heap.size + 2, k, none⟩ = m[k]? := by rw [cell_of_row _ _ _ _ _ _ h.hm]
theorem RA.frz (h : RA w ki ks m x) (k : Nat) : x.frozen? ⟨w.heap.size + 2, k, none⟩ = false := frozen_of_row _ _ _ _ _ h.hm
end
theorem fitk (ki ks : Int) : (fitB 3 ki = true ∧ fitB 2 ks = true) ↔ (inB ki 0 65535 = true ∧ inB ks 0 255 = true) := by rw [fit3, fit2]
def EncQ (m : Ms) (w : World) : Prop := Calls Try.prog 7 #[.agg (mAr m)] w fun e w' => e = .returned (.tuple #[.agg (lnA (putM m).1), .int .i64 0]) ∧ Below w.heap.size w w'
theorem cmbq {m : Ms} {L : List Int} {w : World} (hp : (putM m).1 = (stM m).2) (hg : getM m.c (stM m).2 = m ∧ lnA L = lnA (stM m).2) (h : Calls Try.prog 7 #[.agg (mAr m)] w fun e w' => e = .returned (.tuple #[.agg (lnA L), .int .i64 0]) ∧ Below w.heap.size w w') : EncQ m w := by
  unfold EncQ
  rw [hp]
  rw [hg.2] at h
  exact h
theorem nilq : dataU 0 (dL 0 0 0 0 0 0 0) = true := by rw [dataU_iff]; simp
theorem rokq (ki ks co : Int) (h1 : 0 ≤ ki ∧ ki ≤ 65535) (h2 : 0 ≤ ks ∧ ks ≤ 255) (h3 : 0 ≤ co ∧ co ≤ 4294967295) (hp : (putM ⟨14, ki, ks, false, false, false, false, 0, 0, 0, 0, 0, 0, 0, 0, 0, co, 0, 0, 0, 0⟩).1 = (stM ⟨14, ki, ks, false, false, false, false, 0, 0, 0, 0, 0, 0, 0, 0, 0, co, 0, 0, 0, 0⟩).2) (w : World) : EncQ ⟨14, ki, ks, false, false, false, false, 0, 0, 0, 0, 0, 0, 0, 0, 0, co, 0, 0, 0, 0⟩ w :=
  cmbq hp (gl_14 ki ks co 0 0 0 0 0 0 0 h1 h2 h3 nilq) (ren_14 ki ks co 0 0 0 0 0 0 0 h1 h2 h3 nilq w)
theorem quit_enc (ki ks a : Int) (w : World) : EncQ (quitM ki ks a) w := by
  have hr : rngM (quitM ki ks a) = true := by
    unfold rngM quitM
    by_cases h1 : fitB 3 ki = true ∧ fitB 2 ks = true <;> by_cases h2 : fitB 4 a = true <;> simp [h1, h2, rngE, keyB, inB]
    all_goals simp [fit2, fit3, fit4, inB] at h1 h2
    all_goals omega
  have hk := rng_can (m := quitM ki ks a) (by simp [quitM]) hr
  have hp : (putM (quitM ki ks a)).1 = (stM (quitM ki ks a)).2 := by unfold putM; rw [if_pos hk]
  have h1 : rngE 14 (quitM ki ks a).ki (quitM ki ks a).ks false 0 0 (quitM ki ks a).co 0 0 0 0 = true := hr
  simp only [rngE, keyB] at h1
  have h2 : (0 ≤ (quitM ki ks a).ki ∧ (quitM ki ks a).ki ≤ 65535) ∧ (0 ≤ (quitM ki ks a).ks ∧ (quitM ki ks a).ks ≤ 255) ∧ 0 ≤ (quitM ki ks a).co ∧ (quitM ki ks a).co ≤ 4294967295 := by
    simp [inB] at h1; omega
  exact rokq (quitM ki ks a).ki (quitM ki ks a).ks (quitM ki ks a).co h2.1 h2.2.1 h2.2.2 hp w
set_option maxRecDepth 8000 in
theorem rabort_any (ki ks a : Int) (w : World) : Calls Try.prog 14 #[.agg #[.int .i64 ki, .int .i64 ks], .int .i64 a] w fun e w' => e = .returned (.agg (lnA (putM (quitM ki ks a)).1)) ∧ Below w.heap.size w w' := by
  have hen := fun w => quit_enc ki ks a w
  unfold EncQ at hen
  generalize hL : (putM (quitM ki ks a)).1 = L at *
  have hin1 := fun w => in_any ki 0 65535 w
  have hin2 := fun w => in_any ks 0 255 w
  have hin3 := fun w => in_any a 0 4294967295 w
  have hq : quitM ki ks a = ⟨14, if fitB 3 ki = true ∧ fitB 2 ks = true then ki else 0, if fitB 3 ki = true ∧ fitB 2 ks = true then ks else 0, false, false, false, false, 0, 0, 0, 0, 0, 0, 0, 0, 0, if fitB 4 a = true then a else 0, 0, 0, 0, 0⟩ := rfl
  rw [hq, fit3, fit2, fit4] at hen
  clear hq hL
  generalize inB ki 0 65535 = b1 at *
  generalize inB ks 0 255 = b2 at *
  generalize inB a 0 4294967295 = b3 at *
  have HEN := Lib.hid hen
  have HI1 := Lib.hid hin1
  have HI2 := Lib.hid hin2
  have HI3 := Lib.hid hin3
  clear hen hin1 hin2 hin3
  have HP0 := Lib.hid (ra_start (w := w) (ki := ki) (ks := ks) rfl)
  have HP1 := Lib.hid (HP0.out.told #[.int .i64 14, .int .i64 0, .int .i64 0, .bool false, .bool false, .bool false, .bool false, .int .i64 0, .int .i64 0, .int .u8 0, .int .u8 0, .int .u8 0, .int .u8 0, .int .u8 0, .int .u8 0, .int .u8 0, .int .i64 0, .int .i64 0, .int .i64 0, .int .i64 0, .int .i64 0])
  go_enter Try.func14, Try.ntmps14
  go_upto_region 2 with (refine wpList_store_row rfl 28 (.tmp 5) (.tmp 8) rfl (w.heap.size + 2) #[.int .i64 14, .int .i64 0, .int .i64 0, .bool false, .bool false, .bool false, .bool false, .int .i64 0, .int .i64 0, .int .u8 0, .int .u8 0, .int .u8 0, .int .u8 0, .int .u8 0, .int .u8 0, .int .u8 0, .int .i64 0, .int .i64 0, .int .i64 0, .int .i64 0, .int .i64 0] rfl rfl _ _ HP0.out.hm info_msg rfl (one_msg 14 0 0 false false false false 0 0 0 0 0 0 0 0 0 0 0 0 0 0) ?_)
  clear HP0
  generalize _root_.Go.World.setRow _ (w.heap.size + 2) #[.int .i64 14, .int .i64 0, .int .i64 0, .bool false, .bool false, .bool false, .bool false, .int .i64 0, .int .i64 0, .int .u8 0, .int .u8 0, .int .u8 0, .int .u8 0, .int .u8 0, .int .u8 0, .int .u8 0, .int .i64 0, .int .i64 0, .int .i64 0, .int .i64 0, .int .i64 0] = x1 at *
  have HS := HP1
  clear HP1
  cases b1 <;> cases b2 <;> cases b3
  · skip
    have HE : Hid (∀ y, Calls Try.prog 7 #[.agg #[.int .i64 14, .int .i64 0, .int .i64 0, .bool false, .bool false, .bool false, .bool false, .int .i64 0, .int .i64 0, .int .u8 0, .int .u8 0, .int .u8 0, .int .u8 0, .int .u8 0, .int .u8 0, .int .u8 0, .int .i64 0, .int .i64 0, .int .i64 0, .int .i64 0, .int .i64 0]] y fun e y' => e = .returned (.tuple #[.agg (lnA L), .int .i64 0]) ∧ Below y.heap.size y y') := Lib.hid (fun y => HEN.out y)
    clear HEN
    have k0 : x1.cell? ⟨w.heap.size, 0, none⟩ = some (.int .i64 ki) := by rw [cell_of_row _ _ _ _ _ _ HS.out.hk]; rfl
    have k1 : x1.cell? ⟨w.heap.size, 1, none⟩ = some (.int .i64 ks) := by rw [cell_of_row _ _ _ _ _ _ HS.out.hk]; rfl
    go_upto_region 4 with (first
      | (go_at_call 30; with_reducible refine (HI1.out _).mono ?_; rintro e w1 ⟨rfl, rfl⟩)
      | (go_at_call 30; with_reducible refine (HI2.out _).mono ?_; rintro e w1 ⟨rfl, rfl⟩)
      | (refine wpList_store_two rfl (x := .tmp 18) (y := .tmp 17) rfl rfl rfl HS.out.hm info_key (by simp) rfl rfl ?_))
    clear k0 k1
    have m16 : _ := (RA.msg HS.out 16).trans (show _ = some (.int .i64 0) from rfl)
    have f16 := RA.frz HS.out 16
    go_upto_region 6 with (go_at_call 30; refine (HI3.out _).mono ?_; rintro e w1 ⟨rfl, rfl⟩)
    clear m16 f16
    go_wp2_with (refine wpList_load_row rfl 28 (.tmp 5) rfl (w.heap.size + 2) rfl _ _ _ _ HS.out.hm Try.underlying28 rfl info_msg ?_)
    refine (HE.out _).mono ?_
    rintro e w5 ⟨rfl, hb5⟩
    have hs5 := hb5.size
    have hs6 := HS.out.hs
    have HZ5 := Lib.hid (ln_zero w5)
    have HR5 : Hid (LnAt (_root_.Go.World.setRow (w5.alloc (.cells #[.int .u8 0, .int .u8 0, .int .u8 0, .int .u8 0, .int .u8 0, .int .u8 0, .int .u8 0, .int .u8 0] 30)) w5.heap.size (lnA L)) w5.heap.size L) := Lib.hid (setRow_heap _ _ _ _ _ _ HZ5.out)
    have HQ5 : Hid (LnAt (_root_.Go.World.setRow (w5.alloc (.cells #[.int .u8 0, .int .u8 0, .int .u8 0, .int .u8 0, .int .u8 0, .int .u8 0, .int .u8 0, .int .u8 0] 30)) w5.heap.size (lnA L)) (w.heap.size + 1) []) := Lib.hid ((setRow_other _ _ _ _ (by omega)).trans (LnAt.alloc (HS.out.hz.below hb5 (by omega)) _))
    have HB5 : Hid (Below w.heap.size w (_root_.Go.World.setRow (w5.alloc (.cells #[.int .u8 0, .int .u8 0, .int .u8 0, .int .u8 0, .int .u8 0, .int .u8 0, .int .u8 0, .int .u8 0] 30)) w5.heap.size (lnA L))) := Lib.hid (below_setRow ((HS.out.hb.trans (hb5.mono HS.out.hb.size)).alloc (by omega) _) (by omega) _)
    clear hb5 hs5 hs6 HS
    go_upto_region 7 with (refine wpList_store_row rfl 30 (.tmp 6) (.tmp 26) rfl w5.heap.size (lnA L) rfl rfl _ _ HZ5.out info_line rfl (ln_one _) ?_)
    clear HZ5
    generalize _root_.Go.World.setRow (w5.alloc (.cells #[.int .u8 0, .int .u8 0, .int .u8 0, .int .u8 0, .int .u8 0, .int .u8 0, .int .u8 0, .int .u8 0] 30)) w5.heap.size (lnA L) = x6 at *
    generalize w5.heap.size = g6 at *
    go_wp2_with (first
      | (refine wpList_load_row rfl 30 (.tmp 6) rfl g6 rfl _ _ _ _ HR5.out Try.underlying30 rfl info_line ?_)
      | (refine wpList_store_row rfl 30 (.tmp 4) (.tmp 28) rfl (w.heap.size + 1) (lnA L) rfl rfl _ _ HQ5.out info_line rfl (ln_one _) ?_))
    exact bodyPost_ret (results_cell_row rfl _ _ (w.heap.size + 1) _ _ _ _ rfl (HQ5.out.set _) Try.underlying30 rfl info_line) rfl ⟨rfl, below_setRow HB5.out (by omega) _⟩
  · skip
    have HE : Hid (∀ y, Calls Try.prog 7 #[.agg #[.int .i64 14, .int .i64 0, .int .i64 0, .bool false, .bool false, .bool false, .bool false, .int .i64 0, .int .i64 0, .int .u8 0, .int .u8 0, .int .u8 0, .int .u8 0, .int .u8 0, .int .u8 0, .int .u8 0, .int .i64 a, .int .i64 0, .int .i64 0, .int .i64 0, .int .i64 0]] y fun e y' => e = .returned (.tuple #[.agg (lnA L), .int .i64 0]) ∧ Below y.heap.size y y') := Lib.hid (fun y => HEN.out y)
    clear HEN
    have k0 : x1.cell? ⟨w.heap.size, 0, none⟩ = some (.int .i64 ki) := by rw [cell_of_row _ _ _ _ _ _ HS.out.hk]; rfl
    have k1 : x1.cell? ⟨w.heap.size, 1, none⟩ = some (.int .i64 ks) := by rw [cell_of_row _ _ _ _ _ _ HS.out.hk]; rfl
    go_upto_region 4 with (first
      | (go_at_call 30; with_reducible refine (HI1.out _).mono ?_; rintro e w1 ⟨rfl, rfl⟩)
      | (go_at_call 30; with_reducible refine (HI2.out _).mono ?_; rintro e w1 ⟨rfl, rfl⟩)
      | (refine wpList_store_two rfl (x := .tmp 18) (y := .tmp 17) rfl rfl rfl HS.out.hm info_key (by simp) rfl rfl ?_))
    clear k0 k1
    have m16 : _ := (RA.msg HS.out 16).trans (show _ = some (.int .i64 0) from rfl)
    have f16 := RA.frz HS.out 16
    go_upto_region 6 with (go_at_call 30; refine (HI3.out _).mono ?_; rintro e w1 ⟨rfl, rfl⟩)
    clear m16 f16
    have HS1 := Lib.hid ((HS.out.set 16 (.int .i64 a)).cong (m' := #[.int .i64 14, .int .i64 0, .int .i64 0, .bool false, .bool false, .bool false, .bool false, .int .i64 0, .int .i64 0, .int .u8 0, .int .u8 0, .int .u8 0, .int .u8 0, .int .u8 0, .int .u8 0, .int .u8 0, .int .i64 a, .int .i64 0, .int .i64 0, .int .i64 0, .int .i64 0]) rfl)
    clear HS
    have HS := HS1
    clear HS1
    generalize _root_.Go.World.setCell _ ⟨w.heap.size + 2, 16, none⟩ (.int .i64 a) = x3 at *
    go_wp2_with (refine wpList_load_row rfl 28 (.tmp 5) rfl (w.heap.size + 2) rfl _ _ _ _ HS.out.hm Try.underlying28 rfl info_msg ?_)
    refine (HE.out _).mono ?_
    rintro e w5 ⟨rfl, hb5⟩
    have hs5 := hb5.size
    have hs6 := HS.out.hs
    have HZ5 := Lib.hid (ln_zero w5)
    have HR5 : Hid (LnAt (_root_.Go.World.setRow (w5.alloc (.cells #[.int .u8 0, .int .u8 0, .int .u8 0, .int .u8 0, .int .u8 0, .int .u8 0, .int .u8 0, .int .u8 0] 30)) w5.heap.size (lnA L)) w5.heap.size L) := Lib.hid (setRow_heap _ _ _ _ _ _ HZ5.out)
    have HQ5 : Hid (LnAt (_root_.Go.World.setRow (w5.alloc (.cells #[.int .u8 0, .int .u8 0, .int .u8 0, .int .u8 0, .int .u8 0, .int .u8 0, .int .u8 0, .int .u8 0] 30)) w5.heap.size (lnA L)) (w.heap.size + 1) []) := Lib.hid ((setRow_other _ _ _ _ (by omega)).trans (LnAt.alloc (HS.out.hz.below hb5 (by omega)) _))
    have HB5 : Hid (Below w.heap.size w (_root_.Go.World.setRow (w5.alloc (.cells #[.int .u8 0, .int .u8 0, .int .u8 0, .int .u8 0, .int .u8 0, .int .u8 0, .int .u8 0, .int .u8 0] 30)) w5.heap.size (lnA L))) := Lib.hid (below_setRow ((HS.out.hb.trans (hb5.mono HS.out.hb.size)).alloc (by omega) _) (by omega) _)
    clear hb5 hs5 hs6 HS
    go_upto_region 7 with (refine wpList_store_row rfl 30 (.tmp 6) (.tmp 26) rfl w5.heap.size (lnA L) rfl rfl _ _ HZ5.out info_line rfl (ln_one _) ?_)
    clear HZ5
    generalize _root_.Go.World.setRow (w5.alloc (.cells #[.int .u8 0, .int .u8 0, .int .u8 0, .int .u8 0, .int .u8 0, .int .u8 0, .int .u8 0, .int .u8 0] 30)) w5.heap.size (lnA L) = x6 at *
    generalize w5.heap.size = g6 at *
    go_wp2_with (first
      | (refine wpList_load_row rfl 30 (.tmp 6) rfl g6 rfl _ _ _ _ HR5.out Try.underlying30 rfl info_line ?_)
      | (refine wpList_store_row rfl 30 (.tmp 4) (.tmp 28) rfl (w.heap.size + 1) (lnA L) rfl rfl _ _ HQ5.out info_line rfl (ln_one _) ?_))
    exact bodyPost_ret (results_cell_row rfl _ _ (w.heap.size + 1) _ _ _ _ rfl (HQ5.out.set _) Try.underlying30 rfl info_line) rfl ⟨rfl, below_setRow HB5.out (by omega) _⟩
  · skip
    have HE : Hid (∀ y, Calls Try.prog 7 #[.agg #[.int .i64 14, .int .i64 0, .int .i64 0, .bool false, .bool false, .bool false, .bool false, .int .i64 0, .int .i64 0, .int .u8 0, .int .u8 0, .int .u8 0, .int .u8 0, .int .u8 0, .int .u8 0, .int .u8 0, .int .i64 0, .int .i64 0, .int .i64 0, .int .i64 0, .int .i64 0]] y fun e y' => e = .returned (.tuple #[.agg (lnA L), .int .i64 0]) ∧ Below y.heap.size y y') := Lib.hid (fun y => HEN.out y)
    clear HEN
    have k0 : x1.cell? ⟨w.heap.size, 0, none⟩ = some (.int .i64 ki) := by rw [cell_of_row _ _ _ _ _ _ HS.out.hk]; rfl
    have k1 : x1.cell? ⟨w.heap.size, 1, none⟩ = some (.int .i64 ks) := by rw [cell_of_row _ _ _ _ _ _ HS.out.hk]; rfl
    go_upto_region 4 with (first
      | (go_at_call 30; with_reducible refine (HI1.out _).mono ?_; rintro e w1 ⟨rfl, rfl⟩)
      | (go_at_call 30; with_reducible refine (HI2.out _).mono ?_; rintro e w1 ⟨rfl, rfl⟩)
      | (refine wpList_store_two rfl (x := .tmp 18) (y := .tmp 17) rfl rfl rfl HS.out.hm info_key (by simp) rfl rfl ?_))
    clear k0 k1
    have m16 : _ := (RA.msg HS.out 16).trans (show _ = some (.int .i64 0) from rfl)
    have f16 := RA.frz HS.out 16
    go_upto_region 6 with (go_at_call 30; refine (HI3.out _).mono ?_; rintro e w1 ⟨rfl, rfl⟩)
    clear m16 f16
    go_wp2_with (refine wpList_load_row rfl 28 (.tmp 5) rfl (w.heap.size + 2) rfl _ _ _ _ HS.out.hm Try.underlying28 rfl info_msg ?_)
    refine (HE.out _).mono ?_
    rintro e w5 ⟨rfl, hb5⟩
    have hs5 := hb5.size
    have hs6 := HS.out.hs
    have HZ5 := Lib.hid (ln_zero w5)
    have HR5 : Hid (LnAt (_root_.Go.World.setRow (w5.alloc (.cells #[.int .u8 0, .int .u8 0, .int .u8 0, .int .u8 0, .int .u8 0, .int .u8 0, .int .u8 0, .int .u8 0] 30)) w5.heap.size (lnA L)) w5.heap.size L) := Lib.hid (setRow_heap _ _ _ _ _ _ HZ5.out)
    have HQ5 : Hid (LnAt (_root_.Go.World.setRow (w5.alloc (.cells #[.int .u8 0, .int .u8 0, .int .u8 0, .int .u8 0, .int .u8 0, .int .u8 0, .int .u8 0, .int .u8 0] 30)) w5.heap.size (lnA L)) (w.heap.size + 1) []) := Lib.hid ((setRow_other _ _ _ _ (by omega)).trans (LnAt.alloc (HS.out.hz.below hb5 (by omega)) _))
    have HB5 : Hid (Below w.heap.size w (_root_.Go.World.setRow (w5.alloc (.cells #[.int .u8 0, .int .u8 0, .int .u8 0, .int .u8 0, .int .u8 0, .int .u8 0, .int .u8 0, .int .u8 0] 30)) w5.heap.size (lnA L))) := Lib.hid (below_setRow ((HS.out.hb.trans (hb5.mono HS.out.hb.size)).alloc (by omega) _) (by omega) _)
    clear hb5 hs5 hs6 HS
    go_upto_region 7 with (refine wpList_store_row rfl 30 (.tmp 6) (.tmp 26) rfl w5.heap.size (lnA L) rfl rfl _ _ HZ5.out info_line rfl (ln_one _) ?_)
    clear HZ5
    generalize _root_.Go.World.setRow (w5.alloc (.cells #[.int .u8 0, .int .u8 0, .int .u8 0, .int .u8 0, .int .u8 0, .int .u8 0, .int .u8 0, .int .u8 0] 30)) w5.heap.size (lnA L) = x6 at *
    generalize w5.heap.size = g6 at *
    go_wp2_with (first
      | (refine wpList_load_row rfl 30 (.tmp 6) rfl g6 rfl _ _ _ _ HR5.out Try.underlying30 rfl info_line ?_)
      | (refine wpList_store_row rfl 30 (.tmp 4) (.tmp 28) rfl (w.heap.size + 1) (lnA L) rfl rfl _ _ HQ5.out info_line rfl (ln_one _) ?_))
    exact bodyPost_ret (results_cell_row rfl _ _ (w.heap.size + 1) _ _ _ _ rfl (HQ5.out.set _) Try.underlying30 rfl info_line) rfl ⟨rfl, below_setRow HB5.out (by omega) _⟩
  · skip
    have HE : Hid (∀ y, Calls Try.prog 7 #[.agg #[.int .i64 14, .int .i64 0, .int .i64 0, .bool false, .bool false, .bool false, .bool false, .int .i64 0, .int .i64 0, .int .u8 0, .int .u8 0, .int .u8 0, .int .u8 0, .int .u8 0, .int .u8 0, .int .u8 0, .int .i64 a, .int .i64 0, .int .i64 0, .int .i64 0, .int .i64 0]] y fun e y' => e = .returned (.tuple #[.agg (lnA L), .int .i64 0]) ∧ Below y.heap.size y y') := Lib.hid (fun y => HEN.out y)
    clear HEN
    have k0 : x1.cell? ⟨w.heap.size, 0, none⟩ = some (.int .i64 ki) := by rw [cell_of_row _ _ _ _ _ _ HS.out.hk]; rfl
    have k1 : x1.cell? ⟨w.heap.size, 1, none⟩ = some (.int .i64 ks) := by rw [cell_of_row _ _ _ _ _ _ HS.out.hk]; rfl
    go_upto_region 4 with (first
      | (go_at_call 30; with_reducible refine (HI1.out _).mono ?_; rintro e w1 ⟨rfl, rfl⟩)
      | (go_at_call 30; with_reducible refine (HI2.out _).mono ?_; rintro e w1 ⟨rfl, rfl⟩)
      | (refine wpList_store_two rfl (x := .tmp 18) (y := .tmp 17) rfl rfl rfl HS.out.hm info_key (by simp) rfl rfl ?_))
    clear k0 k1
    have m16 : _ := (RA.msg HS.out 16).trans (show _ = some (.int .i64 0) from rfl)
    have f16 := RA.frz HS.out 16
    go_upto_region 6 with (go_at_call 30; refine (HI3.out _).mono ?_; rintro e w1 ⟨rfl, rfl⟩)
    clear m16 f16
    have HS1 := Lib.hid ((HS.out.set 16 (.int .i64 a)).cong (m' := #[.int .i64 14, .int .i64 0, .int .i64 0, .bool false, .bool false, .bool false, .bool false, .int .i64 0, .int .i64 0, .int .u8 0, .int .u8 0, .int .u8 0, .int .u8 0, .int .u8 0, .int .u8 0, .int .u8 0, .int .i64 a, .int .i64 0, .int .i64 0, .int .i64 0, .int .i64 0]) rfl)
    clear HS
    have HS := HS1
    clear HS1
    generalize _root_.Go.World.setCell _ ⟨w.heap.size + 2, 16, none⟩ (.int .i64 a) = x3 at *
    go_wp2_with (refine wpList_load_row rfl 28 (.tmp 5) rfl (w.heap.size + 2) rfl _ _ _ _ HS.out.hm Try.underlying28 rfl info_msg ?_)
    refine (HE.out _).mono ?_
    rintro e w5 ⟨rfl, hb5⟩
    have hs5 := hb5.size
    have hs6 := HS.out.hs
    have HZ5 := Lib.hid (ln_zero w5)
    have HR5 : Hid (LnAt (_root_.Go.World.setRow (w5.alloc (.cells #[.int .u8 0, .int .u8 0, .int .u8 0, .int .u8 0, .int .u8 0, .int .u8 0, .int .u8 0, .int .u8 0] 30)) w5.heap.size (lnA L)) w5.heap.size L) := Lib.hid (setRow_heap _ _ _ _ _ _ HZ5.out)
    have HQ5 : Hid (LnAt (_root_.Go.World.setRow (w5.alloc (.cells #[.int .u8 0, .int .u8 0, .int .u8 0, .int .u8 0, .int .u8 0, .int .u8 0, .int .u8 0, .int .u8 0] 30)) w5.heap.size (lnA L)) (w.heap.size + 1) []) := Lib.hid ((setRow_other _ _ _ _ (by omega)).trans (LnAt.alloc (HS.out.hz.below hb5 (by omega)) _))
    have HB5 : Hid (Below w.heap.size w (_root_.Go.World.setRow (w5.alloc (.cells #[.int .u8 0, .int .u8 0, .int .u8 0, .int .u8 0, .int .u8 0, .int .u8 0, .int .u8 0, .int .u8 0] 30)) w5.heap.size (lnA L))) := Lib.hid (below_setRow ((HS.out.hb.trans (hb5.mono HS.out.hb.size)).alloc (by omega) _) (by omega) _)
    clear hb5 hs5 hs6 HS
    go_upto_region 7 with (refine wpList_store_row rfl 30 (.tmp 6) (.tmp 26) rfl w5.heap.size (lnA L) rfl rfl _ _ HZ5.out info_line rfl (ln_one _) ?_)
    clear HZ5
    generalize _root_.Go.World.setRow (w5.alloc (.cells #[.int .u8 0, .int .u8 0, .int .u8 0, .int .u8 0, .int .u8 0, .int .u8 0, .int .u8 0, .int .u8 0] 30)) w5.heap.size (lnA L) = x6 at *
    generalize w5.heap.size = g6 at *
    go_wp2_with (first
      | (refine wpList_load_row rfl 30 (.tmp 6) rfl g6 rfl _ _ _ _ HR5.out Try.underlying30 rfl info_line ?_)
      | (refine wpList_store_row rfl 30 (.tmp 4) (.tmp 28) rfl (w.heap.size + 1) (lnA L) rfl rfl _ _ HQ5.out info_line rfl (ln_one _) ?_))
    exact bodyPost_ret (results_cell_row rfl _ _ (w.heap.size + 1) _ _ _ _ rfl (HQ5.out.set _) Try.underlying30 rfl info_line) rfl ⟨rfl, below_setRow HB5.out (by omega) _⟩
  · skip
    have HE : Hid (∀ y, Calls Try.prog 7 #[.agg #[.int .i64 14, .int .i64 0, .int .i64 0, .bool false, .bool false, .bool false, .bool false, .int .i64 0, .int .i64 0, .int .u8 0, .int .u8 0, .int .u8 0, .int .u8 0, .int .u8 0, .int .u8 0, .int .u8 0, .int .i64 0, .int .i64 0, .int .i64 0, .int .i64 0, .int .i64 0]] y fun e y' => e = .returned (.tuple #[.agg (lnA L), .int .i64 0]) ∧ Below y.heap.size y y') := Lib.hid (fun y => HEN.out y)
    clear HEN
    have k0 : x1.cell? ⟨w.heap.size, 0, none⟩ = some (.int .i64 ki) := by rw [cell_of_row _ _ _ _ _ _ HS.out.hk]; rfl
    have k1 : x1.cell? ⟨w.heap.size, 1, none⟩ = some (.int .i64 ks) := by rw [cell_of_row _ _ _ _ _ _ HS.out.hk]; rfl
    go_upto_region 4 with (first
      | (go_at_call 30; with_reducible refine (HI1.out _).mono ?_; rintro e w1 ⟨rfl, rfl⟩)
      | (go_at_call 30; with_reducible refine (HI2.out _).mono ?_; rintro e w1 ⟨rfl, rfl⟩)
      | (refine wpList_store_two rfl (x := .tmp 18) (y := .tmp 17) rfl rfl rfl HS.out.hm info_key (by simp) rfl rfl ?_))
    clear k0 k1
    have m16 : _ := (RA.msg HS.out 16).trans (show _ = some (.int .i64 0) from rfl)
    have f16 := RA.frz HS.out 16
    go_upto_region 6 with (go_at_call 30; refine (HI3.out _).mono ?_; rintro e w1 ⟨rfl, rfl⟩)
    clear m16 f16
    go_wp2_with (refine wpList_load_row rfl 28 (.tmp 5) rfl (w.heap.size + 2) rfl _ _ _ _ HS.out.hm Try.underlying28 rfl info_msg ?_)
    refine (HE.out _).mono ?_
    rintro e w5 ⟨rfl, hb5⟩
    have hs5 := hb5.size
    have hs6 := HS.out.hs
    have HZ5 := Lib.hid (ln_zero w5)
    have HR5 : Hid (LnAt (_root_.Go.World.setRow (w5.alloc (.cells #[.int .u8 0, .int .u8 0, .int .u8 0, .int .u8 0, .int .u8 0, .int .u8 0, .int .u8 0, .int .u8 0] 30)) w5.heap.size (lnA L)) w5.heap.size L) := Lib.hid (setRow_heap _ _ _ _ _ _ HZ5.out)
    have HQ5 : Hid (LnAt (_root_.Go.World.setRow (w5.alloc (.cells #[.int .u8 0, .int .u8 0, .int .u8 0, .int .u8 0, .int .u8 0, .int .u8 0, .int .u8 0, .int .u8 0] 30)) w5.heap.size (lnA L)) (w.heap.size + 1) []) := Lib.hid ((setRow_other _ _ _ _ (by omega)).trans (LnAt.alloc (HS.out.hz.below hb5 (by omega)) _))
    have HB5 : Hid (Below w.heap.size w (_root_.Go.World.setRow (w5.alloc (.cells #[.int .u8 0, .int .u8 0, .int .u8 0, .int .u8 0, .int .u8 0, .int .u8 0, .int .u8 0, .int .u8 0] 30)) w5.heap.size (lnA L))) := Lib.hid (below_setRow ((HS.out.hb.trans (hb5.mono HS.out.hb.size)).alloc (by omega) _) (by omega) _)
    clear hb5 hs5 hs6 HS
    go_upto_region 7 with (refine wpList_store_row rfl 30 (.tmp 6) (.tmp 26) rfl w5.heap.size (lnA L) rfl rfl _ _ HZ5.out info_line rfl (ln_one _) ?_)
    clear HZ5
    generalize _root_.Go.World.setRow (w5.alloc (.cells #[.int .u8 0, .int .u8 0, .int .u8 0, .int .u8 0, .int .u8 0, .int .u8 0, .int .u8 0, .int .u8 0] 30)) w5.heap.size (lnA L) = x6 at *
    generalize w5.heap.size = g6 at *
    go_wp2_with (first
      | (refine wpList_load_row rfl 30 (.tmp 6) rfl g6 rfl _ _ _ _ HR5.out Try.underlying30 rfl info_line ?_)
      | (refine wpList_store_row rfl 30 (.tmp 4) (.tmp 28) rfl (w.heap.size + 1) (lnA L) rfl rfl _ _ HQ5.out info_line rfl (ln_one _) ?_))
    exact bodyPost_ret (results_cell_row rfl _ _ (w.heap.size + 1) _ _ _ _ rfl (HQ5.out.set _) Try.underlying30 rfl info_line) rfl ⟨rfl, below_setRow HB5.out (by omega) _⟩
  · skip
    have HE : Hid (∀ y, Calls Try.prog 7 #[.agg #[.int .i64 14, .int .i64 0, .int .i64 0, .bool false, .bool false, .bool false, .bool false, .int .i64 0, .int .i64 0, .int .u8 0, .int .u8 0, .int .u8 0, .int .u8 0, .int .u8 0, .int .u8 0, .int .u8 0, .int .i64 a, .int .i64 0, .int .i64 0, .int .i64 0, .int .i64 0]] y fun e y' => e = .returned (.tuple #[.agg (lnA L), .int .i64 0]) ∧ Below y.heap.size y y') := Lib.hid (fun y => HEN.out y)
    clear HEN
    have k0 : x1.cell? ⟨w.heap.size, 0, none⟩ = some (.int .i64 ki) := by rw [cell_of_row _ _ _ _ _ _ HS.out.hk]; rfl
    have k1 : x1.cell? ⟨w.heap.size, 1, none⟩ = some (.int .i64 ks) := by rw [cell_of_row _ _ _ _ _ _ HS.out.hk]; rfl
    go_upto_region 4 with (first
      | (go_at_call 30; with_reducible refine (HI1.out _).mono ?_; rintro e w1 ⟨rfl, rfl⟩)
      | (go_at_call 30; with_reducible refine (HI2.out _).mono ?_; rintro e w1 ⟨rfl, rfl⟩)
      | (refine wpList_store_two rfl (x := .tmp 18) (y := .tmp 17) rfl rfl rfl HS.out.hm info_key (by simp) rfl rfl ?_))
    clear k0 k1
    have m16 : _ := (RA.msg HS.out 16).trans (show _ = some (.int .i64 0) from rfl)
    have f16 := RA.frz HS.out 16
    go_upto_region 6 with (go_at_call 30; refine (HI3.out _).mono ?_; rintro e w1 ⟨rfl, rfl⟩)
    clear m16 f16
    have HS1 := Lib.hid ((HS.out.set 16 (.int .i64 a)).cong (m' := #[.int .i64 14, .int .i64 0, .int .i64 0, .bool false, .bool false, .bool false, .bool false, .int .i64 0, .int .i64 0, .int .u8 0, .int .u8 0, .int .u8 0, .int .u8 0, .int .u8 0, .int .u8 0, .int .u8 0, .int .i64 a, .int .i64 0, .int .i64 0, .int .i64 0, .int .i64 0]) rfl)
    clear HS
    have HS := HS1
    clear HS1
    generalize _root_.Go.World.setCell _ ⟨w.heap.size + 2, 16, none⟩ (.int .i64 a) = x3 at *
    go_wp2_with (refine wpList_load_row rfl 28 (.tmp 5) rfl (w.heap.size + 2) rfl _ _ _ _ HS.out.hm Try.underlying28 rfl info_msg ?_)
    refine (HE.out _).mono ?_
    rintro e w5 ⟨rfl, hb5⟩
    have hs5 := hb5.size
    have hs6 := HS.out.hs
    have HZ5 := Lib.hid (ln_zero w5)
    have HR5 : Hid (LnAt (_root_.Go.World.setRow (w5.alloc (.cells #[.int .u8 0, .int .u8 0, .int .u8 0, .int .u8 0, .int .u8 0, .int .u8 0, .int .u8 0, .int .u8 0] 30)) w5.heap.size (lnA L)) w5.heap.size L) := Lib.hid (setRow_heap _ _ _ _ _ _ HZ5.out)
    have HQ5 : Hid (LnAt (_root_.Go.World.setRow (w5.alloc (.cells #[.int .u8 0, .int .u8 0, .int .u8 0, .int .u8 0, .int .u8 0, .int .u8 0, .int .u8 0, .int .u8 0] 30)) w5.heap.size (lnA L)) (w.heap.size + 1) []) := Lib.hid ((setRow_other _ _ _ _ (by omega)).trans (LnAt.alloc (HS.out.hz.below hb5 (by omega)) _))
    have HB5 : Hid (Below w.heap.size w (_root_.Go.World.setRow (w5.alloc (.cells #[.int .u8 0, .int .u8 0, .int .u8 0, .int .u8 0, .int .u8 0, .int .u8 0, .int .u8 0, .int .u8 0] 30)) w5.heap.size (lnA L))) := Lib.hid (below_setRow ((HS.out.hb.trans (hb5.mono HS.out.hb.size)).alloc (by omega) _) (by omega) _)
    clear hb5 hs5 hs6 HS
    go_upto_region 7 with (refine wpList_store_row rfl 30 (.tmp 6) (.tmp 26) rfl w5.heap.size (lnA L) rfl rfl _ _ HZ5.out info_line rfl (ln_one _) ?_)
    clear HZ5
    generalize _root_.Go.World.setRow (w5.alloc (.cells #[.int .u8 0, .int .u8 0, .int .u8 0, .int .u8 0, .int .u8 0, .int .u8 0, .int .u8 0, .int .u8 0] 30)) w5.heap.size (lnA L) = x6 at *
    generalize w5.heap.size = g6 at *
    go_wp2_with (first
      | (refine wpList_load_row rfl 30 (.tmp 6) rfl g6 rfl _ _ _ _ HR5.out Try.underlying30 rfl info_line ?_)
      | (refine wpList_store_row rfl 30 (.tmp 4) (.tmp 28) rfl (w.heap.size + 1) (lnA L) rfl rfl _ _ HQ5.out info_line rfl (ln_one _) ?_))
    exact bodyPost_ret (results_cell_row rfl _ _ (w.heap.size + 1) _ _ _ _ rfl (HQ5.out.set _) Try.underlying30 rfl info_line) rfl ⟨rfl, below_setRow HB5.out (by omega) _⟩
  · skip
    have HE : Hid (∀ y, Calls Try.prog 7 #[.agg #[.int .i64 14, .int .i64 ki, .int .i64 ks, .bool false, .bool false, .bool false, .bool false, .int .i64 0, .int .i64 0, .int .u8 0, .int .u8 0, .int .u8 0, .int .u8 0, .int .u8 0, .int .u8 0, .int .u8 0, .int .i64 0, .int .i64 0, .int .i64 0, .int .i64 0, .int .i64 0]] y fun e y' => e = .returned (.tuple #[.agg (lnA L), .int .i64 0]) ∧ Below y.heap.size y y') := Lib.hid (fun y => HEN.out y)
    clear HEN
    have k0 : x1.cell? ⟨w.heap.size, 0, none⟩ = some (.int .i64 ki) := by rw [cell_of_row _ _ _ _ _ _ HS.out.hk]; rfl
    have k1 : x1.cell? ⟨w.heap.size, 1, none⟩ = some (.int .i64 ks) := by rw [cell_of_row _ _ _ _ _ _ HS.out.hk]; rfl
    go_upto_region 4 with (first
      | (go_at_call 30; with_reducible refine (HI1.out _).mono ?_; rintro e w1 ⟨rfl, rfl⟩)
      | (go_at_call 30; with_reducible refine (HI2.out _).mono ?_; rintro e w1 ⟨rfl, rfl⟩)
      | (refine wpList_store_two rfl (x := .tmp 18) (y := .tmp 17) rfl rfl rfl HS.out.hm info_key (by simp) rfl rfl ?_))
    clear k0 k1
    have HS1 := Lib.hid (((HS.out.set 1 (.int .i64 ki)).set 2 (.int .i64 ks)).cong (m' := #[.int .i64 14, .int .i64 ki, .int .i64 ks, .bool false, .bool false, .bool false, .bool false, .int .i64 0, .int .i64 0, .int .u8 0, .int .u8 0, .int .u8 0, .int .u8 0, .int .u8 0, .int .u8 0, .int .u8 0, .int .i64 0, .int .i64 0, .int .i64 0, .int .i64 0, .int .i64 0]) rfl)
    clear HS
    have HS := HS1
    clear HS1
    generalize _root_.Go.World.setCell _ ⟨w.heap.size + 2, 1 + 1, none⟩ (.int .i64 ks) = x2 at *
    have m16 : _ := (RA.msg HS.out 16).trans (show _ = some (.int .i64 0) from rfl)
    have f16 := RA.frz HS.out 16
    go_upto_region 6 with (go_at_call 30; refine (HI3.out _).mono ?_; rintro e w1 ⟨rfl, rfl⟩)
    clear m16 f16
    go_wp2_with (refine wpList_load_row rfl 28 (.tmp 5) rfl (w.heap.size + 2) rfl _ _ _ _ HS.out.hm Try.underlying28 rfl info_msg ?_)
    refine (HE.out _).mono ?_
    rintro e w5 ⟨rfl, hb5⟩
    have hs5 := hb5.size
    have hs6 := HS.out.hs
    have HZ5 := Lib.hid (ln_zero w5)
    have HR5 : Hid (LnAt (_root_.Go.World.setRow (w5.alloc (.cells #[.int .u8 0, .int .u8 0, .int .u8 0, .int .u8 0, .int .u8 0, .int .u8 0, .int .u8 0, .int .u8 0] 30)) w5.heap.size (lnA L)) w5.heap.size L) := Lib.hid (setRow_heap _ _ _ _ _ _ HZ5.out)
    have HQ5 : Hid (LnAt (_root_.Go.World.setRow (w5.alloc (.cells #[.int .u8 0, .int .u8 0, .int .u8 0, .int .u8 0, .int .u8 0, .int .u8 0, .int .u8 0, .int .u8 0] 30)) w5.heap.size (lnA L)) (w.heap.size + 1) []) := Lib.hid ((setRow_other _ _ _ _ (by omega)).trans (LnAt.alloc (HS.out.hz.below hb5 (by omega)) _))
    have HB5 : Hid (Below w.heap.size w (_root_.Go.World.setRow (w5.alloc (.cells #[.int .u8 0, .int .u8 0, .int .u8 0, .int .u8 0, .int .u8 0, .int .u8 0, .int .u8 0, .int .u8 0] 30)) w5.heap.size (lnA L))) := Lib.hid (below_setRow ((HS.out.hb.trans (hb5.mono HS.out.hb.size)).alloc (by omega) _) (by omega) _)
    clear hb5 hs5 hs6 HS
    go_upto_region 7 with (refine wpList_store_row rfl 30 (.tmp 6) (.tmp 26) rfl w5.heap.size (lnA L) rfl rfl _ _ HZ5.out info_line rfl (ln_one _) ?_)
    clear HZ5
    generalize _root_.Go.World.setRow (w5.alloc (.cells #[.int .u8 0, .int .u8 0, .int .u8 0, .int .u8 0, .int .u8 0, .int .u8 0, .int .u8 0, .int .u8 0] 30)) w5.heap.size (lnA L) = x6 at *
    generalize w5.heap.size = g6 at *
    go_wp2_with (first
      | (refine wpList_load_row rfl 30 (.tmp 6) rfl g6 rfl _ _ _ _ HR5.out Try.underlying30 rfl info_line ?_)
      | (refine wpList_store_row rfl 30 (.tmp 4) (.tmp 28) rfl (w.heap.size + 1) (lnA L) rfl rfl _ _ HQ5.out info_line rfl (ln_one _) ?_))
    exact bodyPost_ret (results_cell_row rfl _ _ (w.heap.size + 1) _ _ _ _ rfl (HQ5.out.set _) Try.underlying30 rfl info_line) rfl ⟨rfl, below_setRow HB5.out (by omega) _⟩
  · skip
    have HE : Hid (∀ y, Calls Try.prog 7 #[.agg #[.int .i64 14, .int .i64 ki, .int .i64 ks, .bool false, .bool false, .bool false, .bool false, .int .i64 0, .int .i64 0, .int .u8 0, .int .u8 0, .int .u8 0, .int .u8 0, .int .u8 0, .int .u8 0, .int .u8 0, .int .i64 a, .int .i64 0, .int .i64 0, .int .i64 0, .int .i64 0]] y fun e y' => e = .returned (.tuple #[.agg (lnA L), .int .i64 0]) ∧ Below y.heap.size y y') := Lib.hid (fun y => HEN.out y)
    clear HEN
    have k0 : x1.cell? ⟨w.heap.size, 0, none⟩ = some (.int .i64 ki) := by rw [cell_of_row _ _ _ _ _ _ HS.out.hk]; rfl
    have k1 : x1.cell? ⟨w.heap.size, 1, none⟩ = some (.int .i64 ks) := by rw [cell_of_row _ _ _ _ _ _ HS.out.hk]; rfl
    go_upto_region 4 with (first
      | (go_at_call 30; with_reducible refine (HI1.out _).mono ?_; rintro e w1 ⟨rfl, rfl⟩)
      | (go_at_call 30; with_reducible refine (HI2.out _).mono ?_; rintro e w1 ⟨rfl, rfl⟩)
      | (refine wpList_store_two rfl (x := .tmp 18) (y := .tmp 17) rfl rfl rfl HS.out.hm info_key (by simp) rfl rfl ?_))
    clear k0 k1
    have HS1 := Lib.hid (((HS.out.set 1 (.int .i64 ki)).set 2 (.int .i64 ks)).cong (m' := #[.int .i64 14, .int .i64 ki, .int .i64 ks, .bool false, .bool false, .bool false, .bool false, .int .i64 0, .int .i64 0, .int .u8 0, .int .u8 0, .int .u8 0, .int .u8 0, .int .u8 0, .int .u8 0, .int .u8 0, .int .i64 0, .int .i64 0, .int .i64 0, .int .i64 0, .int .i64 0]) rfl)
    clear HS
    have HS := HS1
    clear HS1
    generalize _root_.Go.World.setCell _ ⟨w.heap.size + 2, 1 + 1, none⟩ (.int .i64 ks) = x2 at *
    have m16 : _ := (RA.msg HS.out 16).trans (show _ = some (.int .i64 0) from rfl)
    have f16 := RA.frz HS.out 16
    go_upto_region 6 with (go_at_call 30; refine (HI3.out _).mono ?_; rintro e w1 ⟨rfl, rfl⟩)
    clear m16 f16
    have HS1 := Lib.hid ((HS.out.set 16 (.int .i64 a)).cong (m' := #[.int .i64 14, .int .i64 ki, .int .i64 ks, .bool false, .bool false, .bool false, .bool false, .int .i64 0, .int .i64 0, .int .u8 0, .int .u8 0, .int .u8 0, .int .u8 0, .int .u8 0, .int .u8 0, .int .u8 0, .int .i64 a, .int .i64 0, .int .i64 0, .int .i64 0, .int .i64 0]) rfl)
    clear HS
    have HS := HS1
    clear HS1
    generalize _root_.Go.World.setCell _ ⟨w.heap.size + 2, 16, none⟩ (.int .i64 a) = x3 at *
    go_wp2_with (refine wpList_load_row rfl 28 (.tmp 5) rfl (w.heap.size + 2) rfl _ _ _ _ HS.out.hm Try.underlying28 rfl info_msg ?_)
    refine (HE.out _).mono ?_
    rintro e w5 ⟨rfl, hb5⟩
    have hs5 := hb5.size
    have hs6 := HS.out.hs
    have HZ5 := Lib.hid (ln_zero w5)
    have HR5 : Hid (LnAt (_root_.Go.World.setRow (w5.alloc (.cells #[.int .u8 0, .int .u8 0, .int .u8 0, .int .u8 0, .int .u8 0, .int .u8 0, .int .u8 0, .int .u8 0] 30)) w5.heap.size (lnA L)) w5.heap.size L) := Lib.hid (setRow_heap _ _ _ _ _ _ HZ5.out)
    have HQ5 : Hid (LnAt (_root_.Go.World.setRow (w5.alloc (.cells #[.int .u8 0, .int .u8 0, .int .u8 0, .int .u8 0, .int .u8 0, .int .u8 0, .int .u8 0, .int .u8 0] 30)) w5.heap.size (lnA L)) (w.heap.size + 1) []) := Lib.hid ((setRow_other _ _ _ _ (by omega)).trans (LnAt.alloc (HS.out.hz.below hb5 (by omega)) _))
    have HB5 : Hid (Below w.heap.size w (_root_.Go.World.setRow (w5.alloc (.cells #[.int .u8 0, .int .u8 0, .int .u8 0, .int .u8 0, .int .u8 0, .int .u8 0, .int .u8 0, .int .u8 0] 30)) w5.heap.size (lnA L))) := Lib.hid (below_setRow ((HS.out.hb.trans (hb5.mono HS.out.hb.size)).alloc (by omega) _) (by omega) _)
    clear hb5 hs5 hs6 HS
    go_upto_region 7 with (refine wpList_store_row rfl 30 (.tmp 6) (.tmp 26) rfl w5.heap.size (lnA L) rfl rfl _ _ HZ5.out info_line rfl (ln_one _) ?_)
    clear HZ5
    generalize _root_.Go.World.setRow (w5.alloc (.cells #[.int .u8 0, .int .u8 0, .int .u8 0, .int .u8 0, .int .u8 0, .int .u8 0, .int .u8 0, .int .u8 0] 30)) w5.heap.size (lnA L) = x6 at *
    generalize w5.heap.size = g6 at *
    go_wp2_with (first
      | (refine wpList_load_row rfl 30 (.tmp 6) rfl g6 rfl _ _ _ _ HR5.out Try.underlying30 rfl info_line ?_)
      | (refine wpList_store_row rfl 30 (.tmp 4) (.tmp 28) rfl (w.heap.size + 1) (lnA L) rfl rfl _ _ HQ5.out info_line rfl (ln_one _) ?_))
    exact bodyPost_ret (results_cell_row rfl _ _ (w.heap.size + 1) _ _ _ _ rfl (HQ5.out.set _) Try.underlying30 rfl info_line) rfl ⟨rfl, below_setRow HB5.out (by omega) _⟩
end Go.Proofs.Ytfccjekhdfpkoaa
