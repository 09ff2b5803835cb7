/- What pick, cmdOfBlocks and cmd answer; the document's Asked and Answered. -/
import Derived.Test.YtoamgdcjmkkmfaaKl2
import Derived.Test.YtoamgdcjmkkmfaaKo
set_option linter.unusedSimpArgs false
set_option linter.unusedVariables false
namespace Go.Proofs.Ytoamgdcjmkkmfaa
open Go.RowKit
set_option maxHeartbeats 4000000

def pickE (ans : Bool) (a b : Int) : Int := if ans then b else a
def blkE (h : Int) (ans : Bool) : Int := if h % 4 = 1 then 17 else if h % 4 = 2 then 15 else if h % 4 = 3 then pickE ans 7 0 else pickE ans 6 12
def cmdE (h : Int) (ans : Bool) : Int :=
  if h / 32 = 0 then pickE ans 2 11 else if h / 32 = 1 then pickE ans 1 9 else if h / 32 = 2 then pickE ans 3 10 else if h / 32 = 3 then pickE ans 4 8
  else if h / 32 = 4 then 14 else if h / 32 = 5 then blkE h ans else if h / 32 = 6 then (if h % 2 = 1 then 16 else pickE ans 5 13) else 0
theorem pick_any (ans : Bool) (a b : Int) (w : World) : Calls Try.prog 21 #[.bool ans, .int .i64 a, .int .i64 b] w fun e w' => e = .returned (.int .i64 (pickE ans a b)) ∧ w = w' := by
  go_enter Try.func21, Try.ntmps21
  cases ans
  all_goals (go_wp2_with fail; go_ret; exact ⟨rfl, rfl⟩)
theorem bU_all : ∀ h : Fin 256, bits BinOp.and IntKind.u8 (h.val : Int) 3 = h.val % 4 ∧ bits BinOp.and IntKind.u8 (h.val : Int) 1 = h.val % 2 := by decide +kernel
theorem bU {h : Int} (h0 : 0 ≤ h) (h1 : h ≤ 255) : bits BinOp.and IntKind.u8 h 3 = h % 4 ∧ bits BinOp.and IntKind.u8 h 1 = h % 2 := by
  have := bU_all ⟨h.toNat, by omega⟩
  simp only [show ((h.toNat : Nat) : Int) = h by omega] at this
  exact this
theorem blk_any (h : Int) (ans : Bool) (h0 : 0 ≤ h) (h1 : h ≤ 255) (w : World) : Calls Try.prog 22 #[.int .u8 h, .bool ans] w fun e w' => e = .returned (.int .i64 (blkE h ans)) ∧ w = w' := by
  obtain ⟨e3, _⟩ := bU h0 h1
  have E3 := Lib.hid e3
  have : h % 4 = 0 ∨ h % 4 = 1 ∨ h % 4 = 2 ∨ h % 4 = 3 := by omega
  rcases this with k | k | k | k
  all_goals
    rw [k] at e3
    go_enter Try.func22, Try.ntmps22
    go_wp2_with (go_at_call 21; refine (pick_any _ _ _ _).mono ?_; rintro e w1 ⟨rfl, rfl⟩)
    all_goals first
      | (exfalso; simp_all; done)
      | (go_ret; refine ⟨?_, rfl⟩; unfold blkE; rw [k]; rfl)
      | skip
theorem cmd_any (h : Int) (ans : Bool) (h0 : 0 ≤ h) (h1 : h ≤ 255) (w : World) : Calls Try.prog 8 #[.int .u8 h, .bool ans] w fun e w' => e = .returned (.int .i64 (cmdE h ans)) ∧ w = w' := by
  obtain ⟨_, e1⟩ := bU h0 h1
  obtain ⟨q, hq⟩ : ∃ q, h / 32 = q := ⟨_, rfl⟩
  have : q = 0 ∨ q = 1 ∨ q = 2 ∨ q = 3 ∨ q = 4 ∨ q = 5 ∨ q = 6 ∨ q = 7 := by omega
  have hp : h % 2 = 0 ∨ h % 2 = 1 := by omega
  rcases this with rfl | rfl | rfl | rfl | rfl | rfl | rfl | rfl
  all_goals
    go_enter Try.func8, Try.ntmps8
    go_wp2_with (first | (go_at_call 21; refine (pick_any _ _ _ _).mono ?_; rintro e w1 ⟨rfl, rfl⟩) | (go_at_call 22; refine (blk_any _ _ h0 h1 _).mono ?_; rintro e w1 ⟨rfl, rfl⟩))
    all_goals first
      | (exfalso; omega)
      | (go_ret; refine ⟨?_, rfl⟩; unfold cmdE; rw [hq]; rfl)
      | (go_ret; refine ⟨?_, rfl⟩; apply ret_int; unfold cmdE; rw [hq]; rw [e1] at *; simp; omega)
      | (go_ret; refine ⟨?_, rfl⟩; apply ret_int; unfold cmdE; rw [hq]; rcases hp with hp | hp <;> simp_all; done)
      | skip
theorem asked_any (c : Int) (w : World) : Calls Try.prog 12 #[.int .i64 c] w fun e w' => e = .returned (.bool (decide ((1 ≤ c ∧ c ≤ 7) ∨ 14 ≤ c))) ∧ w = w' := by
  go_enter Try.func12, Try.ntmps12
  go_wp2_with fail
  all_goals (go_ret; refine ⟨?_, rfl⟩; apply ret_bool; first | (rw [Bool.eq_iff_iff]; simp; done) | (rw [Bool.eq_iff_iff]; simp; omega) | (simp; done))
theorem answered_any (c : Int) (w : World) : Calls Try.prog 11 #[.int .i64 c] w fun e w' => e = .returned (.bool (decide (8 ≤ c ∧ c ≤ 17))) ∧ w = w' := by
  go_enter Try.func11, Try.ntmps11
  go_wp2_with fail
  all_goals (go_ret; refine ⟨?_, rfl⟩; apply ret_bool; first | (rw [Bool.eq_iff_iff]; simp; done) | (rw [Bool.eq_iff_iff]; simp; omega) | (simp; done))
end Go.Proofs.Ytoamgdcjmkkmfaa
namespace Go.Proofs.Ytoamgdcjmkkmfaa
open Go.RowKit
set_option maxHeartbeats 4000000

def Ms.d (m : Ms) : List Int := dL m.d0 m.d1 m.d2 m.d3 m.d4 m.d5 m.d6
def canM (m : Ms) : Bool := canE m.c m.fa m.n m.sq m.bl m.sp
def stM (m : Ms) : Int × List Int := stE m.c m.ki m.ks m.tg m.la m.fa m.su m.sz m.n m.d m.co m.sq m.bl m.sp m.cr
def putM (m : Ms) : List Int × Bool := if canM m = true then ((stM m).2, decide ((stM m).1 = 0)) else ([], false)
def MsB (m : Ms) : Prop := ∀ x ∈ m.d, 0 ≤ x ∧ x ≤ 255
theorem wN_range (k n : Int) (s : Int × List Int) (h : ∀ x ∈ s.2, 0 ≤ x ∧ x ≤ 255) : ∀ x ∈ (wN k n s).2, 0 ≤ x ∧ x ≤ 255 := by
  unfold wN
  split
  · intro x hx
    rcases List.mem_append.1 hx with hx | hx
    · exact h x hx
    · exact putA_range k n x hx
  · exact h
theorem wR_range {l : List Int} (hl : ∀ x ∈ l, 0 ≤ x ∧ x ≤ 255) (s : Int × List Int) (h : ∀ x ∈ s.2, 0 ≤ x ∧ x ≤ 255) : ∀ x ∈ (wR l s).2, 0 ≤ x ∧ x ≤ 255 := by
  unfold wR
  split
  · intro x hx
    rcases List.mem_append.1 hx with hx | hx
    · exact h x hx
    · exact hl x hx
  · exact h
theorem stM_range {m : Ms} (hd : MsB m) : ∀ x ∈ (stM m).2, 0 ≤ x ∧ x ≤ 255 := by
  have h0 : ∀ x ∈ ((0 : Int), ([] : List Int)).2, 0 ≤ x ∧ x ≤ 255 := by simp
  have h1 := wN_range 2 (headE m.c m.tg m.la m.fa m.su m.sz m.n m.sp) (0, []) h0
  have ht : ∀ x ∈ m.d.take m.n.toNat, 0 ≤ x ∧ x ≤ 255 := fun x hx => hd x (List.mem_of_mem_take hx)
  unfold stM stE restE wK wZ
  (repeat' split)
  all_goals first
    | exact h1
    | exact wR_range ht _ h1
    | exact wR_range ht _ (wN_range _ _ _ (wN_range _ _ _ h1))
    | exact wN_range _ _ _ h1
    | exact wN_range _ _ _ (wN_range _ _ _ h1)
    | exact wN_range _ _ _ (wN_range _ _ _ (wN_range _ _ _ h1))
theorem putM_bytes {m : Ms} (hd : MsB m) : Byte8 (putM m).1 := by
  unfold putM
  split
  · exact byte8_of (stM_range hd)
  · exact byte8_of (by simp)
theorem put_any' (m : Ms) (hc : 1 ≤ m.c ∧ m.c ≤ 17) (hd : MsB m) (w : World) : Calls Try.prog 23 #[.agg (mAr m)] w fun e w' => e = .returned (.tuple #[.agg (lnA (putM m).1), .bool (putM m).2]) ∧ Below w.heap.size w w' := by
  by_cases hk : canM m = true
  · have e : putM m = ((stM m).2, decide ((stM m).1 = 0)) := if_pos hk
    rw [e]
    exact mput_yes m.c m.ki m.ks m.tg m.la m.fa m.su m.sz m.n m.d0 m.d1 m.d2 m.d3 m.d4 m.d5 m.d6 m.co m.sq m.bl m.sp m.cr hk hd hc w
  · have e : putM m = ([], false) := if_neg hk
    rw [e]
    exact mput_no m.c m.ki m.ks m.tg m.la m.fa m.su m.sz m.n m.d0 m.d1 m.d2 m.d3 m.d4 m.d5 m.d6 m.co m.sq m.bl m.sp m.cr (show canM m = false from Bool.eq_false_iff.2 hk) hc w
def encM (m : Ms) : List Int × Int := if m.c < 1 ∨ 17 < m.c then ([], 2) else if (putM m).2 = false then ([], 3) else if eqM (getM m.c (putM m).1) m = true then ((putM m).1, 0) else ([], 4)
theorem encode_any (m : Ms) (hd : MsB m) (w : World) : Calls Try.prog 9 #[.agg (mAr m)] w fun e w' => e = .returned (.tuple #[.agg (lnA (encM m).1), .int .i64 (encM m).2]) ∧ Below w.heap.size w w' := by
  have hm : ((w.alloc (.cells (mAr m) 30)).alloc (.cells #[.int .u8 0, .int .u8 0, .int .u8 0, .int .u8 0, .int .u8 0, .int .u8 0, .int .u8 0, .int .u8 0] 23)).heap[w.heap.size]? = some (.cells (mAr m) 30 (0, 0)) := (heap_alloc_old _ _ (by simp)).trans (heap_alloc_new w _)
  have hz : LnAt ((w.alloc (.cells (mAr m) 30)).alloc (.cells #[.int .u8 0, .int .u8 0, .int .u8 0, .int .u8 0, .int .u8 0, .int .u8 0, .int .u8 0, .int .u8 0] 23)) (w.heap.size + 1) [] := by have := ln_zero (w.alloc (.cells (mAr m) 30)); simpa using this
  have hb : Below w.heap.size w ((w.alloc (.cells (mAr m) 30)).alloc (.cells #[.int .u8 0, .int .u8 0, .int .u8 0, .int .u8 0, .int .u8 0, .int .u8 0, .int .u8 0, .int .u8 0] 23)) := ((Below.refl _ _).alloc (Nat.le_refl _) _).alloc (by simp) _
  have hs : ((w.alloc (.cells (mAr m) 30)).alloc (.cells #[.int .u8 0, .int .u8 0, .int .u8 0, .int .u8 0, .int .u8 0, .int .u8 0, .int .u8 0, .int .u8 0] 23)).heap.size = w.heap.size + 2 := by simp
  have k0 : ((w.alloc (.cells (mAr m) 30)).alloc (.cells #[.int .u8 0, .int .u8 0, .int .u8 0, .int .u8 0, .int .u8 0, .int .u8 0, .int .u8 0, .int .u8 0] 23)).cell? ⟨w.heap.size, 0, none⟩ = some (.int .i64 m.c) := by rw [cell_of_row _ _ _ _ _ _ hm]; rfl
  have HM := Lib.hid hm
  have HZ := Lib.hid hz
  have HB := Lib.hid hb
  have HS := Lib.hid hs
  by_cases hc : m.c < 1 ∨ 17 < m.c
  · have e : encM m = ([], 2) := if_pos hc
    rw [e]
    generalize m.c = cc at k0 hc
    have HC := Lib.hid hc
    clear hm hz hb hs e
    go_enter Try.func9, Try.ntmps9
    go_wp2_with (refine wpList_store_row rfl _ (.tmp 2) (.tmp 14) rfl (w.heap.size + 1) (lnA []) rfl rfl _ _ HZ.out info_line rfl (ln_one _) ?_)
    all_goals first
      | (exfalso; have := HC.out; omega)
      | exact bodyPost_ret ((results_cell_tmp_row rfl _ _ (w.heap.size + 1) _ _ _ _ rfl (HZ.out.set []) Try.underlying23 rfl info_line).trans (by rfl)) rfl ⟨rfl, below_setRow HB.out (show w.heap.size ≤ w.heap.size + 1 by omega) _⟩
  have hc1 : ¬ m.c < 1 := fun h => hc (.inl h)
  have hc2 : ¬ 17 < m.c := fun h => hc (.inr h)
  have hcc : 1 ≤ m.c ∧ m.c ≤ 17 := by omega
  have hpa := put_any' m hcc hd
  have hpb := putM_bytes hd
  have e : encM m = if (putM m).2 = false then ([], 3) else if eqM (getM m.c (putM m).1) m = true then ((putM m).1, 0) else ([], 4) := if_neg hc
  rw [e]
  generalize putM m = p at hpa hpb
  obtain ⟨L, ok⟩ := p
  simp only at hpa hpb
  have HPA := Lib.hid hpa
  have HPB := Lib.hid hpb
  have HCC := Lib.hid hcc
  cases ok
  · simp only [if_pos]
    clear hm hz hb hs e hpa hpb hcc hc
    generalize m.c = cc at k0 hc1 hc2 HCC
    go_enter Try.func9, Try.ntmps9
    go_wp2_with (refine wpList_load_row rfl 30 (.tmp 1) rfl w.heap.size rfl _ _ _ _ HM.out Try.underlying30 rfl info_msg ?_)
    refine (HPA.out _).mono ?_
    rintro e w1 ⟨rfl, hb1⟩
    have hz1 := HZ.out.below hb1 (by rw [HS.out]; omega)
    have hb2 := HB.out.trans (hb1.mono (by rw [HS.out]; omega))
    have hs1 : w.heap.size + 2 ≤ w1.heap.size := by have := hb1.size; rw [HS.out] at this; exact this
    have HZ1 := Lib.hid (hz1.alloc (.cells #[.int .u8 0, .int .u8 0, .int .u8 0, .int .u8 0, .int .u8 0, .int .u8 0, .int .u8 0, .int .u8 0] 23))
    have HN1 := Lib.hid (ln_zero w1)
    have HB2 := Lib.hid (hb2.alloc (by omega) (.cells #[.int .u8 0, .int .u8 0, .int .u8 0, .int .u8 0, .int .u8 0, .int .u8 0, .int .u8 0, .int .u8 0] 23))
    have HS1 := Lib.hid hs1
    clear hz1 hb2 hb1 hs1
    go_wp2_with (first
      | (refine wpList_store_row rfl _ (.tmp 4) (.tmp 18) rfl w1.heap.size (lnA L) rfl rfl _ _ HN1.out info_line rfl (ln_one _) ?_)
      | (refine wpList_store_row rfl _ (.tmp 2) (.tmp 22) rfl (w.heap.size + 1) (lnA []) rfl rfl _ _ ((setRow_other _ _ _ _ (by have := HS1.out; omega)).trans HZ1.out) info_line rfl (ln_one _) ?_))
    exact bodyPost_ret ((results_cell_tmp_row rfl _ _ (w.heap.size + 1) _ _ _ _ rfl (setRow_heap _ _ _ (lnA []) _ _ ((setRow_other _ w1.heap.size _ (lnA L) (by have := HS1.out; omega)).trans HZ1.out)) Try.underlying23 rfl info_line).trans (by rfl)) rfl ⟨rfl, below_setRow (below_setRow HB2.out (by have := HS1.out; omega) _) (show w.heap.size ≤ w.heap.size + 1 by omega) _⟩
  rw [if_neg (by simp)]
  have hge := fun w => mget_any m.c L ⟨by omega, hcc.2⟩ hpb w
  have hcm := fun w => run_eqM (getM m.c L) m w
  obtain ⟨q, hq⟩ : ∃ q, eqM (getM m.c L) m = q := ⟨_, rfl⟩
  rw [hq] at hcm ⊢
  cases q
  · rw [if_neg (by simp)]
    generalize getM m.c L = M2 at hge hcm
    have HGE := Lib.hid hge
    have HCM := Lib.hid hcm
    clear hm hz hb hs e hpa hpb hcc hc hge hcm hq
    obtain ⟨cc, hce⟩ : ∃ cc, m.c = cc := ⟨_, rfl⟩
    rw [hce] at k0 hc1 hc2 HGE HCC
    have HCE := Lib.hid hce
    clear hce
    go_enter Try.func9, Try.ntmps9
    go_wp2_with (refine wpList_load_row rfl 30 (.tmp 1) rfl w.heap.size rfl _ _ _ _ HM.out Try.underlying30 rfl info_msg ?_)
    refine (HPA.out _).mono ?_
    rintro e w1 ⟨rfl, hb1⟩
    have hz1 := HZ.out.below hb1 (by rw [HS.out]; omega)
    have hm1 := (hb1.block w.heap.size (by rw [HS.out]; omega)).trans HM.out
    have hb2 := HB.out.trans (hb1.mono (by rw [HS.out]; omega))
    have hs1 : w.heap.size + 2 ≤ w1.heap.size := by have := hb1.size; rw [HS.out] at this; exact this
    have HZ1 := Lib.hid (hz1.alloc (.cells #[.int .u8 0, .int .u8 0, .int .u8 0, .int .u8 0, .int .u8 0, .int .u8 0, .int .u8 0, .int .u8 0] 23))
    have HM1 := Lib.hid ((heap_alloc_old w1 (.cells #[.int .u8 0, .int .u8 0, .int .u8 0, .int .u8 0, .int .u8 0, .int .u8 0, .int .u8 0, .int .u8 0] 23) (by omega)).trans hm1)
    have HN1 := Lib.hid (ln_zero w1)
    have HB2 := Lib.hid (hb2.alloc (by omega) (.cells #[.int .u8 0, .int .u8 0, .int .u8 0, .int .u8 0, .int .u8 0, .int .u8 0, .int .u8 0, .int .u8 0] 23))
    have HS1 := Lib.hid hs1
    have HSA : Hid ((w1.alloc (.cells #[.int .u8 0, .int .u8 0, .int .u8 0, .int .u8 0, .int .u8 0, .int .u8 0, .int .u8 0, .int .u8 0] 23)).heap.size = w1.heap.size + 1) := by show (w1.alloc (.cells #[.int .u8 0, .int .u8 0, .int .u8 0, .int .u8 0, .int .u8 0, .int .u8 0, .int .u8 0, .int .u8 0] 23)).heap.size = w1.heap.size + 1; simp
    clear hz1 hb2 hb1 hs1 hm1
    go_wp2_with (refine wpList_store_row rfl _ (.tmp 4) (.tmp 18) rfl w1.heap.size (lnA L) rfl rfl _ _ HN1.out info_line rfl (ln_one _) ?_)
    have HZ2 := Lib.hid (show LnAt (_root_.Go.World.setRow _ w1.heap.size (lnA L)) (w.heap.size + 1) [] from (setRow_other _ w1.heap.size (w.heap.size + 1) (lnA L) (by have := HS1.out; omega)).trans HZ1.out)
    have HN2 := Lib.hid (show LnAt (_root_.Go.World.setRow _ w1.heap.size (lnA L)) w1.heap.size L from setRow_heap _ _ _ _ _ _ HN1.out)
    have HM2 := Lib.hid ((setRow_other _ w1.heap.size w.heap.size (lnA L) (by have := HS1.out; omega)).trans HM1.out)
    have HB3 := Lib.hid (below_setRow HB2.out (by have := HS1.out; omega : w.heap.size ≤ w1.heap.size) (lnA L))
    have HS2 : Hid ((_root_.Go.World.setRow (w1.alloc (.cells #[.int .u8 0, .int .u8 0, .int .u8 0, .int .u8 0, .int .u8 0, .int .u8 0, .int .u8 0, .int .u8 0] 23)) w1.heap.size (lnA L)).heap.size = w1.heap.size + 1) := (size_setRow _ _ _).trans HSA.out
    clear HZ1 HN1 HM1 HB2 HSA
    generalize (_root_.Go.World.setRow (w1.alloc (.cells #[.int .u8 0, .int .u8 0, .int .u8 0, .int .u8 0, .int .u8 0, .int .u8 0, .int .u8 0, .int .u8 0] 23)) w1.heap.size (lnA L)) = w2 at *
    go_wp2_with fail
    have HZ3 : Hid (LnAt w2.drew (w.heap.size + 1) []) := HZ2.out
    have HN3 : Hid (LnAt w2.drew w1.heap.size L) := HN2.out
    have HM3 : Hid (w2.drew.heap[w.heap.size]? = some (.cells (mAr m) 30 (0, 0))) := HM2.out
    have HB4 := Lib.hid HB3.out.drew
    have HS3 : Hid (w2.drew.heap.size = w1.heap.size + 1) := HS2.out
    refine wp_region_last (fun w' => LnAt w' w1.heap.size L ∧ w'.heap[w.heap.size]? = some (.cells (mAr m) 30 (0, 0)) ∧ w'.cell? ⟨w.heap.size, 0, none⟩ = some (.int .i64 cc)) 5 (by kernel_rfl) ⟨HN3.out, HM3.out, by show w2.drew.cell? _ = _; rw [cell_of_row _ _ _ _ _ _ HM3.out, ← HCE.out]; rfl⟩ ?_
    intro hHeld
    refine wpAnyL_take (i := 0) (v := .agg (lnA L)) rfl (by kernel_rfl) (by kernel_rfl) (by kernel_rfl) (by kernel_rfl) (by kernel_rfl) (fun _ _ _ h => h) (Or.inl ⟨by rfl, ?_⟩) (by assumption) ?_
    · intro wq hSw
      exact run_load_row (x := .tmp 4) rfl rfl hSw.1 rfl Try.underlying23 info_line
    try simp only [Act.put, List.setIfInBounds_toArray, List.set_cons_zero, List.set_cons_succ]
    refine wpAnyL_take (i := 1) (v := ?_) rfl (by kernel_rfl) (by kernel_rfl) (by kernel_rfl) (by kernel_rfl) (by kernel_rfl) (fun _ _ _ h => h) (Or.inl ⟨by rfl, ?_⟩) (by assumption) ?_
    rotate_left
    · intro wq hSw; (try dsimp only at hSw); first | (go_simp; done) | (go_simp; with_reducible rfl) | with_reducible rfl
    try simp only [Act.put, List.setIfInBounds_toArray, List.set_cons_zero, List.set_cons_succ]
    refine wpAnyL_take (i := 2) (v := .int .i64 cc) rfl (by kernel_rfl) (by kernel_rfl) (by kernel_rfl) (by kernel_rfl) (by kernel_rfl) (fun _ _ _ h => h) (Or.inl ⟨by rfl, ?_⟩) (by assumption) ?_
    · intro wq hSw
      have hk := hSw.2.2
      clear hSw
      first | (go_simp; done) | (go_simp; with_reducible rfl) | with_reducible rfl
    try simp only [Act.put, List.setIfInBounds_toArray, List.set_cons_zero, List.set_cons_succ]
    refine wpAnyL_take (i := 4) (v := .agg (mAr m)) rfl (by kernel_rfl) (by kernel_rfl) (by kernel_rfl) (by kernel_rfl) (by kernel_rfl) (fun _ _ _ h => h) (Or.inl ⟨by rfl, ?_⟩) (by assumption) ?_
    · intro wq hSw
      exact run_load_row (x := .tmp 1) rfl rfl hSw.2.1 rfl Try.underlying30 info_msg
    try simp only [Act.put, List.setIfInBounds_toArray, List.set_cons_zero, List.set_cons_succ]
    refine wpAnyL_ready (rs := [3]) (by kernel_rfl) (by simp) ?_
    refine (AllReadyL.cons rfl (fun K hK => ?_) AllReadyL.nil)
    go_simp
    go_wp2_with fail
    refine (HGE.out _).mono ?_
    rintro e w3 ⟨rfl, hb5⟩
    have HZ4 := Lib.hid (HZ3.out.below hb5 HZ3.out.lt)
    have HN4 := Lib.hid (HN3.out.below hb5 HN3.out.lt)
    have HM4 := Lib.hid ((hb5.block w.heap.size (by rw [HS3.out]; have := HS1.out; omega)).trans HM3.out)
    have HB5 := Lib.hid (HB4.out.trans (hb5.mono HB4.out.size))
    refine hK.out _ _ ⟨HN4.out, HM4.out, by show w3.cell? _ = _; rw [cell_of_row _ _ _ _ _ _ HM4.out, ← HCE.out]; rfl⟩ (fun hHeld => ?_)
    clear hK K hb5
    refine wpAnyL_ready (rs := [5]) (by kernel_rfl) (by simp) ?_
    refine AllReadyL.last rfl (fun K hK => ?_)
    have hcm := HCM.out
    go_simp
    refine hK.out _ _ ?_
    clear hK K
    refine wpAnyL_done (by kernel_rfl) ?_ _
    clear hHeld
    go_wp2_with (refine wpList_store_row rfl _ (.tmp 2) (.tmp 29) rfl (w.heap.size + 1) (lnA []) rfl rfl _ _ HZ4.out info_line rfl (ln_one _) ?_)
    exact bodyPost_ret ((results_cell_tmp_row rfl _ _ (w.heap.size + 1) _ _ _ _ rfl (setRow_heap _ _ _ (lnA []) _ _ HZ4.out) Try.underlying23 rfl info_line).trans (by rfl)) rfl ⟨rfl, below_setRow HB5.out (show w.heap.size ≤ w.heap.size + 1 by omega) _⟩
  · rw [if_pos rfl]
    generalize getM m.c L = M2 at hge hcm
    have HGE := Lib.hid hge
    have HCM := Lib.hid hcm
    clear hm hz hb hs e hpa hpb hcc hc hge hcm hq
    obtain ⟨cc, hce⟩ : ∃ cc, m.c = cc := ⟨_, rfl⟩
    rw [hce] at k0 hc1 hc2 HGE HCC
    have HCE := Lib.hid hce
    clear hce
    go_enter Try.func9, Try.ntmps9
    go_wp2_with (refine wpList_load_row rfl 30 (.tmp 1) rfl w.heap.size rfl _ _ _ _ HM.out Try.underlying30 rfl info_msg ?_)
    refine (HPA.out _).mono ?_
    rintro e w1 ⟨rfl, hb1⟩
    have hz1 := HZ.out.below hb1 (by rw [HS.out]; omega)
    have hm1 := (hb1.block w.heap.size (by rw [HS.out]; omega)).trans HM.out
    have hb2 := HB.out.trans (hb1.mono (by rw [HS.out]; omega))
    have hs1 : w.heap.size + 2 ≤ w1.heap.size := by have := hb1.size; rw [HS.out] at this; exact this
    have HZ1 := Lib.hid (hz1.alloc (.cells #[.int .u8 0, .int .u8 0, .int .u8 0, .int .u8 0, .int .u8 0, .int .u8 0, .int .u8 0, .int .u8 0] 23))
    have HM1 := Lib.hid ((heap_alloc_old w1 (.cells #[.int .u8 0, .int .u8 0, .int .u8 0, .int .u8 0, .int .u8 0, .int .u8 0, .int .u8 0, .int .u8 0] 23) (by omega)).trans hm1)
    have HN1 := Lib.hid (ln_zero w1)
    have HB2 := Lib.hid (hb2.alloc (by omega) (.cells #[.int .u8 0, .int .u8 0, .int .u8 0, .int .u8 0, .int .u8 0, .int .u8 0, .int .u8 0, .int .u8 0] 23))
    have HS1 := Lib.hid hs1
    have HSA : Hid ((w1.alloc (.cells #[.int .u8 0, .int .u8 0, .int .u8 0, .int .u8 0, .int .u8 0, .int .u8 0, .int .u8 0, .int .u8 0] 23)).heap.size = w1.heap.size + 1) := by show (w1.alloc (.cells #[.int .u8 0, .int .u8 0, .int .u8 0, .int .u8 0, .int .u8 0, .int .u8 0, .int .u8 0, .int .u8 0] 23)).heap.size = w1.heap.size + 1; simp
    clear hz1 hb2 hb1 hs1 hm1
    go_wp2_with (refine wpList_store_row rfl _ (.tmp 4) (.tmp 18) rfl w1.heap.size (lnA L) rfl rfl _ _ HN1.out info_line rfl (ln_one _) ?_)
    have HZ2 := Lib.hid (show LnAt (_root_.Go.World.setRow _ w1.heap.size (lnA L)) (w.heap.size + 1) [] from (setRow_other _ w1.heap.size (w.heap.size + 1) (lnA L) (by have := HS1.out; omega)).trans HZ1.out)
    have HN2 := Lib.hid (show LnAt (_root_.Go.World.setRow _ w1.heap.size (lnA L)) w1.heap.size L from setRow_heap _ _ _ _ _ _ HN1.out)
    have HM2 := Lib.hid ((setRow_other _ w1.heap.size w.heap.size (lnA L) (by have := HS1.out; omega)).trans HM1.out)
    have HB3 := Lib.hid (below_setRow HB2.out (by have := HS1.out; omega : w.heap.size ≤ w1.heap.size) (lnA L))
    have HS2 : Hid ((_root_.Go.World.setRow (w1.alloc (.cells #[.int .u8 0, .int .u8 0, .int .u8 0, .int .u8 0, .int .u8 0, .int .u8 0, .int .u8 0, .int .u8 0] 23)) w1.heap.size (lnA L)).heap.size = w1.heap.size + 1) := (size_setRow _ _ _).trans HSA.out
    clear HZ1 HN1 HM1 HB2 HSA
    generalize (_root_.Go.World.setRow (w1.alloc (.cells #[.int .u8 0, .int .u8 0, .int .u8 0, .int .u8 0, .int .u8 0, .int .u8 0, .int .u8 0, .int .u8 0] 23)) w1.heap.size (lnA L)) = w2 at *
    go_wp2_with fail
    have HZ3 : Hid (LnAt w2.drew (w.heap.size + 1) []) := HZ2.out
    have HN3 : Hid (LnAt w2.drew w1.heap.size L) := HN2.out
    have HM3 : Hid (w2.drew.heap[w.heap.size]? = some (.cells (mAr m) 30 (0, 0))) := HM2.out
    have HB4 := Lib.hid HB3.out.drew
    have HS3 : Hid (w2.drew.heap.size = w1.heap.size + 1) := HS2.out
    refine wp_region_last (fun w' => LnAt w' w1.heap.size L ∧ w'.heap[w.heap.size]? = some (.cells (mAr m) 30 (0, 0)) ∧ w'.cell? ⟨w.heap.size, 0, none⟩ = some (.int .i64 cc)) 5 (by kernel_rfl) ⟨HN3.out, HM3.out, by show w2.drew.cell? _ = _; rw [cell_of_row _ _ _ _ _ _ HM3.out, ← HCE.out]; rfl⟩ ?_
    intro hHeld
    refine wpAnyL_take (i := 0) (v := .agg (lnA L)) rfl (by kernel_rfl) (by kernel_rfl) (by kernel_rfl) (by kernel_rfl) (by kernel_rfl) (fun _ _ _ h => h) (Or.inl ⟨by rfl, ?_⟩) (by assumption) ?_
    · intro wq hSw
      exact run_load_row (x := .tmp 4) rfl rfl hSw.1 rfl Try.underlying23 info_line
    try simp only [Act.put, List.setIfInBounds_toArray, List.set_cons_zero, List.set_cons_succ]
    refine wpAnyL_take (i := 1) (v := ?_) rfl (by kernel_rfl) (by kernel_rfl) (by kernel_rfl) (by kernel_rfl) (by kernel_rfl) (fun _ _ _ h => h) (Or.inl ⟨by rfl, ?_⟩) (by assumption) ?_
    rotate_left
    · intro wq hSw; (try dsimp only at hSw); first | (go_simp; done) | (go_simp; with_reducible rfl) | with_reducible rfl
    try simp only [Act.put, List.setIfInBounds_toArray, List.set_cons_zero, List.set_cons_succ]
    refine wpAnyL_take (i := 2) (v := .int .i64 cc) rfl (by kernel_rfl) (by kernel_rfl) (by kernel_rfl) (by kernel_rfl) (by kernel_rfl) (fun _ _ _ h => h) (Or.inl ⟨by rfl, ?_⟩) (by assumption) ?_
    · intro wq hSw
      have hk := hSw.2.2
      clear hSw
      first | (go_simp; done) | (go_simp; with_reducible rfl) | with_reducible rfl
    try simp only [Act.put, List.setIfInBounds_toArray, List.set_cons_zero, List.set_cons_succ]
    refine wpAnyL_take (i := 4) (v := .agg (mAr m)) rfl (by kernel_rfl) (by kernel_rfl) (by kernel_rfl) (by kernel_rfl) (by kernel_rfl) (fun _ _ _ h => h) (Or.inl ⟨by rfl, ?_⟩) (by assumption) ?_
    · intro wq hSw
      exact run_load_row (x := .tmp 1) rfl rfl hSw.2.1 rfl Try.underlying30 info_msg
    try simp only [Act.put, List.setIfInBounds_toArray, List.set_cons_zero, List.set_cons_succ]
    refine wpAnyL_ready (rs := [3]) (by kernel_rfl) (by simp) ?_
    refine (AllReadyL.cons rfl (fun K hK => ?_) AllReadyL.nil)
    go_simp
    go_wp2_with fail
    refine (HGE.out _).mono ?_
    rintro e w3 ⟨rfl, hb5⟩
    have HZ4 := Lib.hid (HZ3.out.below hb5 HZ3.out.lt)
    have HN4 := Lib.hid (HN3.out.below hb5 HN3.out.lt)
    have HM4 := Lib.hid ((hb5.block w.heap.size (by rw [HS3.out]; have := HS1.out; omega)).trans HM3.out)
    have HB5 := Lib.hid (HB4.out.trans (hb5.mono HB4.out.size))
    refine hK.out _ _ ⟨HN4.out, HM4.out, by show w3.cell? _ = _; rw [cell_of_row _ _ _ _ _ _ HM4.out, ← HCE.out]; rfl⟩ (fun hHeld => ?_)
    clear hK K hb5
    refine wpAnyL_ready (rs := [5]) (by kernel_rfl) (by simp) ?_
    refine AllReadyL.last rfl (fun K hK => ?_)
    have hcm := HCM.out
    go_simp
    refine hK.out _ _ ?_
    clear hK K
    refine wpAnyL_done (by kernel_rfl) ?_ _
    clear hHeld
    go_wp2_with (first
      | (refine wpList_load_row rfl 23 (.tmp 4) rfl w1.heap.size rfl _ _ _ _ HN4.out Try.underlying23 rfl info_line ?_)
      | (refine wpList_store_row rfl _ (.tmp 2) (.tmp 30) rfl (w.heap.size + 1) (lnA L) rfl rfl _ _ HZ4.out info_line rfl (ln_one _) ?_))
    exact bodyPost_ret ((results_cell_tmp_row rfl _ _ (w.heap.size + 1) _ _ _ _ rfl (setRow_heap _ _ _ (lnA L) _ _ HZ4.out) Try.underlying23 rfl info_line).trans (by rfl)) rfl ⟨rfl, below_setRow HB5.out (show w.heap.size ≤ w.heap.size + 1 by omega) _⟩
end Go.Proofs.Ytoamgdcjmkkmfaa
