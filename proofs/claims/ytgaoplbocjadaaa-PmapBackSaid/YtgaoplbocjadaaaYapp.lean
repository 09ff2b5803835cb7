/- The document's own entries of a node. -/
import Derived.Test.YtgaoplbocjadaaaYArT
namespace Go.Proofs.Ytgaoplbocjadaaa
open Go.RowKit
set_option linter.unusedSimpArgs false
set_option linter.unusedVariables false
def kk (q : Nat) : Int := if q = 0 then 2 else if q = 1 then 3 else if q = 2 then 4 else if q = 3 then 6 else if q = 4 then 1 else 5
theorem kk_in {q : Nat} (h : q < 6) : q = 0 ∨ q = 1 ∨ q = 2 ∨ q = 3 ∨ q = 4 ∨ q = 5 := by omega
theorem kk_size (q : Nat) : 1 ≤ kSize (kk q) ∧ kSize (kk q) ≤ 4 := by
  unfold kk
  repeat' split
  all_goals decide
def apE (q : Nat) : Int × Ent := (numI 8192 ((q : Int) + 1), ⟨kk q, 3, kLow (kk q), kHigh (kk q), List.replicate (kSize (kk q)).toNat 0⟩)
def apL (q : Nat) : List (Int × Ent) := (List.range q).map apE
theorem apL_succ (q : Nat) : apL (q + 1) = apL q ++ [apE q] := by simp [apL, List.range_succ]
theorem apL_len (q : Nat) : (apL q).length = q := by simp [apL]
def apT : Int × Ent := (numI 8192 7, ⟨8, 3, 0, 40, []⟩)
def apC : Int × Ent := (numI 8192 8, ⟨2, 4, 0, 9, [0]⟩)
def appO : List (Int × Ent) := apL 6 ++ [apT] ++ [apC]
def KdAt (w : World) (g : Nat) : Prop := w.heap[g]? = some (.cells #[.int .i64 2, .int .i64 3, .int .i64 4, .int .i64 6, .int .i64 1, .int .i64 5] 72 (0, 0))
theorem KdAt.below {w w' : World} {g : Nat} (h : KdAt w g) (hb : Below w.heap.size w w') : KdAt w' g := (hb.block _ (Array.getElem?_eq_some_iff.1 h).1).trans h
theorem KdAt.cell {w : World} {g q : Nat} (h : KdAt w g) (hq : q < 6) : w.cell? ⟨g, q, none⟩ = some (.int .i64 (kk q)) := by
  rw [cell_of_row _ _ _ _ _ _ h]
  rcases kk_in hq with rfl | rfl | rfl | rfl | rfl | rfl <;> rfl
theorem RwAt.notk {w : World} {base g : Nat} {V : Value} {L : List (Int × Ent)} (h : RwAt w base V L) (hk : KdAt w g) : V.ownBlock ≠ some g := by
  intro e
  rcases h.2 with ⟨e1, _⟩ | ⟨b', cap, cur, e1, _, hb', _⟩
  · rw [e1] at e; cases e
  · rw [e1] at e
    cases e
    unfold KdAt at hk
    rw [hk] at hb'
    cases hb'
theorem RwAt.appG {w' : World} {base : Nat} {V : Value} {L : List (Int × Ent)} {i j k a lo hi : Int} {b : List Int} (hi1 : 1 ≤ i ∧ i ≤ 65535 ∧ 0 ≤ j ∧ j ≤ 255) (h : w'.ownsRow base 77 7 V (L.length + 1) (fr L ++ [.int .i64 i, .int .i64 j, .int .i64 k, .int .i64 a, .int .i64 lo, .int .i64 hi, .string (strOfNums b)])) : RwAt w' base V (L ++ [(numI i j, ⟨k, a, lo, hi, b⟩)]) := by
  unfold RwAt
  have e : fr (L ++ [(numI i j, ⟨k, a, lo, hi, b⟩)]) = fr L ++ [.int .i64 i, .int .i64 j, .int .i64 k, .int .i64 a, .int .i64 lo, .int .i64 hi, .string (strOfNums b)] := by
    have e2 : fr [(numI i j, (⟨k, a, lo, hi, b⟩ : Ent))] = [.int .i64 i, .int .i64 j, .int .i64 k, .int .i64 a, .int .i64 lo, .int .i64 hi, .string (strOfNums b)] := by
      show rowR (numI i j, (⟨k, a, lo, hi, b⟩ : Ent)) ++ [] = _
      rw [List.append_nil]
      exact row_num hi1 _
    rw [← e2]
    simp [fr]
  rw [List.length_append, e]
  exact h
set_option maxRecDepth 100000 in
set_option maxHeartbeats 8000000 in
theorem app15_any (w : World) : Calls Try.prog 38 #[] w fun e w' => ∃ V, e = .returned V ∧ RwAt w' w.heap.size V appO ∧ Below w.heap.size w w' := by
  obtain ⟨i0, hi0, hz0', hz1', hz2'⟩ := info_parts info_ent7E
  have HI := Lib.hid hi0
  clear hi0
  go_enter Try.func38, Try.ntmps38
  go_wp2_with fail
  have HBx0 : Hid (Below w.heap.size w ((w.alloc (.cells #[] 77)).alloc (.cells #[.int .i64 2, .int .i64 3, .int .i64 4, .int .i64 6, .int .i64 1, .int .i64 5] 72))) := Lib.hid (((Below.refl _ _).alloc (Nat.le_refl _) _).alloc (by simp) _)
  have hba : Below (w.alloc (.cells #[] 77)).heap.size (w.alloc (.cells #[] 77)) ((w.alloc (.cells #[] 77)).alloc (.cells #[.int .i64 2, .int .i64 3, .int .i64 4, .int .i64 6, .int .i64 1, .int .i64 5] 72)) := (Below.refl _ _).alloc (Nat.le_refl _) _
  have HRx0 := Lib.hid ((RwAt.made w _ (Nat.le_refl _)).below hba)
  have HKx0 : Hid (KdAt ((w.alloc (.cells #[] 77)).alloc (.cells #[.int .i64 2, .int .i64 3, .int .i64 4, .int .i64 6, .int .i64 1, .int .i64 5] 72)) (w.heap.size + 1)) := Lib.hid (heap_alloc2_new w _ _)
  clear hba
  generalize ((w.alloc (.cells #[] 77)).alloc (.cells #[.int .i64 2, .int .i64 3, .int .i64 4, .int .i64 6, .int .i64 1, .int .i64 5] 72)) = x0 at *
  go_loopw [1, 3] (fun V0 i wr => ∃ (V : Value) (q : Nat), V = V0 ∧ q ≤ 6 ∧ i = .int .i64 q ∧ Hid (RwAt wr w.heap.size V (apL q)) ∧ Hid (KdAt wr (w.heap.size + 1)) ∧ Hid (Below w.heap.size w wr)) (fun _ i _ => 6 - (intOf i).toNat)
  case atStart => exact ⟨_, 0, rfl, by omega, rfl, HRx0, HKx0, HBx0⟩
  case round =>
    clear HRx0 HKx0 HBx0
    obtain ⟨V, q, rfl, hq, rfl, HRwr, HKwr, HBwr⟩ := hrel
    by_cases hlt : q < 6
    · have hql := apL_len q
      have hk0 := HKwr.out.cell hlt
      have HKC := Lib.hid (fun (y : World) (hy : Below wr.heap.size wr y) => (HKwr.out.below hy).cell hlt)
      have HKD := Lib.hid (fun (y : World) (hy : KdAt y (w.heap.size + 1)) => hy.cell hlt)
      have HES : Hid (apL (q + 1) = apL q ++ [(numI 8192 ((q : Int) + 1), ⟨kk q, 3, kLow (kk q), kHigh (kk q), List.replicate (kSize (kk q)).toNat 0⟩)]) := Lib.hid (apL_succ q)
      have hks := kk_size q
      obtain ⟨sz, hsz⟩ : ∃ sz : Nat, kSize (kk q) = sz := ⟨(kSize (kk q)).toNat, by omega⟩
      have HSH := Lib.hid (fun w => shape_any (kk q) w)
      rw [hsz] at HSH HES hks
      rw [Int.toNat_natCast] at HES
      generalize kLow (kk q) = klo at *
      generalize kHigh (kk q) = khi at *
      clear hsz
      generalize kk q = kq at *
      have HSZ : Hid (sz ≤ 4) := Lib.hid (by omega)
      have HMK := Lib.hid (fun w => make_row sz (by omega) w)
      have HBZ := Lib.hid (fun w => byt_zero w sz (by omega))
      clear hks
      go_wp2_with fail
      refine (HSH.out _).mono ?_
      rintro e wq ⟨rfl, rfl⟩
      go_upto_region 7 with fail
      have i1 : IntKind.i64.wrap ((q : Int) + 1) = (q : Int) + 1 := IntWalk.i64_in _ (by omega)
      clear hk0
      refine wp_region_last (fun x => x.cell? ⟨w.heap.size + 1, q, none⟩ = some (.int .i64 kq)) 17 (by kernel_rfl) (HKC.out _ (kD _)) (fun hHeld => ?_)
      have HBx0 := Lib.hid (kD wr)
      generalize wr.drew = x0 at *
      refine wpAnyL_take (i := 0) (v := ?_) rfl (by kernel_rfl) (by kernel_rfl) (by kernel_rfl) (by kernel_rfl) (by kernel_rfl) (fun _ _ _ h => h) (Or.inl ⟨by rfl, ?_⟩) (by assumption) ?_
      rotate_left
      · intro wq hSw; (try dsimp only at hSw); first | (go_simp; done) | (go_simp; with_reducible rfl) | with_reducible rfl
      go_simp
      refine wpAnyL_take (i := 1) (v := ?_) rfl (by kernel_rfl) (by kernel_rfl) (by kernel_rfl) (by kernel_rfl) (by kernel_rfl) (fun _ _ _ h => h) (Or.inl ⟨by rfl, ?_⟩) (by assumption) ?_
      rotate_left
      · intro wq hSw; (try dsimp only at hSw); first | (go_simp; done) | (go_simp; with_reducible rfl) | with_reducible rfl
      go_simp
      refine wpAnyL_take (i := 2) (v := ?_) rfl (by kernel_rfl) (by kernel_rfl) (by kernel_rfl) (by kernel_rfl) (by kernel_rfl) (fun _ _ _ h => h) (Or.inl ⟨by rfl, ?_⟩) (by assumption) ?_
      rotate_left
      · intro wq hSw; (try dsimp only at hSw); first | (go_simp; done) | (go_simp; with_reducible rfl) | with_reducible rfl
      go_simp
      refine wpAnyL_take (i := 4) (v := ?_) rfl (by kernel_rfl) (by kernel_rfl) (by kernel_rfl) (by kernel_rfl) (by kernel_rfl) (fun _ _ _ h => h) (Or.inl ⟨by rfl, ?_⟩) (by assumption) ?_
      rotate_left
      · intro wq hSw; (try dsimp only at hSw); first | (go_simp; done) | (go_simp; with_reducible rfl) | with_reducible rfl
      go_simp
      refine wpAnyL_take (i := 5) (v := ?_) rfl (by kernel_rfl) (by kernel_rfl) (by kernel_rfl) (by kernel_rfl) (by kernel_rfl) (fun _ _ _ h => h) (Or.inl ⟨by rfl, ?_⟩) (by assumption) ?_
      rotate_left
      · intro wq hSw; (try dsimp only at hSw); first | (go_simp; done) | (go_simp; with_reducible rfl) | with_reducible rfl
      go_simp
      refine wpAnyL_take (i := 6) (v := ?_) rfl (by kernel_rfl) (by kernel_rfl) (by kernel_rfl) (by kernel_rfl) (by kernel_rfl) (fun _ _ _ h => h) (Or.inl ⟨by rfl, ?_⟩) (by assumption) ?_
      rotate_left
      · intro wq hSw; (try dsimp only at hSw); first | (go_simp; done) | (go_simp; with_reducible rfl) | with_reducible rfl
      go_simp
      refine wpAnyL_take (i := 7) (v := ?_) rfl (by kernel_rfl) (by kernel_rfl) (by kernel_rfl) (by kernel_rfl) (by kernel_rfl) (fun _ _ _ h => h) (Or.inl ⟨by rfl, ?_⟩) (by assumption) ?_
      rotate_left
      · intro wq hSw; (try dsimp only at hSw); first | (go_simp; done) | (go_simp; with_reducible rfl) | with_reducible rfl
      go_simp
      refine wpAnyL_take (i := 8) (v := ?_) rfl (by kernel_rfl) (by kernel_rfl) (by kernel_rfl) (by kernel_rfl) (by kernel_rfl) (fun _ _ _ h => h) (Or.inl ⟨by rfl, ?_⟩) (by assumption) ?_
      rotate_left
      · intro wq hSw; (try dsimp only at hSw); first | (go_simp; done) | (go_simp; with_reducible rfl) | with_reducible rfl
      go_simp
      refine wpAnyL_take (i := 9) (v := ?_) rfl (by kernel_rfl) (by kernel_rfl) (by kernel_rfl) (by kernel_rfl) (by kernel_rfl) (fun _ _ _ h => h) (Or.inl ⟨by rfl, ?_⟩) (by assumption) ?_
      rotate_left
      · intro wq hSw; (try dsimp only at hSw); first | (go_simp; done) | (go_simp; with_reducible rfl) | with_reducible rfl
      go_simp
      refine wpAnyL_take (i := 10) (v := ?_) rfl (by kernel_rfl) (by kernel_rfl) (by kernel_rfl) (by kernel_rfl) (by kernel_rfl) (fun _ _ _ h => h) (Or.inl ⟨by rfl, ?_⟩) (by assumption) ?_
      rotate_left
      · intro wq hSw; (try dsimp only at hSw); first | (go_simp; done) | (go_simp; with_reducible rfl) | with_reducible rfl
      go_simp
      refine wpAnyL_take (i := 11) (v := ?_) rfl (by kernel_rfl) (by kernel_rfl) (by kernel_rfl) (by kernel_rfl) (by kernel_rfl) (fun _ _ _ h => h) (Or.inl ⟨by rfl, ?_⟩) (by assumption) ?_
      rotate_left
      · intro wq hSw; (try dsimp only at hSw); first | (go_simp; done) | (go_simp; with_reducible rfl) | with_reducible rfl
      go_simp
      refine wpAnyL_ready (rs := [3, 12]) (by kernel_rfl) (by simp) ?_
      refine (AllReadyL.cons rfl (fun K hK => ?_) (AllReadyL.cons rfl (fun K hK => ?_) AllReadyL.nil))
      · skip
        go_simp
        go_wp2_with fail
        refine (rname15_any 8192 ((q : Int) + 1) _).mono ?_
        rintro e x1 ⟨rfl, hba⟩
        have HBx1 : Hid (Below wr.heap.size wr x1) := Lib.hid (kF hba HBx0.out)
        clear hba
        refine hK.out _ _ ?_ (fun hHeld => ?_)
        · (try dsimp only); exact HKC.out _ HBx1.out
        clear hK K
        refine wpAnyL_ready (rs := [12]) (by kernel_rfl) (by simp) ?_
        refine (AllReadyL.cons rfl (fun K hK => ?_) AllReadyL.nil)
        have hmk := HMK.out x1
        have HY := Lib.hid (HBZ.out x1)
        have HBx2 := Lib.hid (kA HBx1.out (.cells (madeCells #[.int .u8 0] sz) 5))
        go_simp
        refine hK.out _ _ ?_ (fun hHeld => ?_)
        · (try dsimp only); exact HKC.out _ HBx2.out
        clear hK K
        clear hmk
        generalize x1.alloc (.cells (madeCells #[.int .u8 0] sz) 5) = x2 at *
        generalize x1.heap.size = b8 at *
        refine wpAnyL_ready (rs := [13]) (by kernel_rfl) (by simp) ?_
        refine (AllReadyL.cons rfl (fun K hK => ?_) AllReadyL.nil)
        have hcv : (convert 58 9 (.slice (some ⟨b8, 0, none⟩) sz sz)).run Try.prog x2 = .ok (.string (strOfNums (List.replicate sz 0))) x2 := conv_any HY.out
        go_simp
        refine hK.out _ _ ?_ (fun hHeld => ?_)
        · (try dsimp only); exact HKC.out _ HBx2.out
        clear hK K
        clear hcv
        refine wpAnyL_take (i := 14) (v := ?_) rfl (by kernel_rfl) (by kernel_rfl) (by kernel_rfl) (by kernel_rfl) (by kernel_rfl) (fun _ _ _ h => h) (Or.inl ⟨by rfl, ?_⟩) (by assumption) ?_
        rotate_left
        · intro wq hSw; (try dsimp only at hSw); first | (go_simp; done) | (go_simp; with_reducible rfl) | with_reducible rfl
        go_simp
        refine wpAnyL_ready (rs := [15]) (by kernel_rfl) (by simp) ?_
        refine (AllReadyL.cons rfl (fun K hK => ?_) AllReadyL.nil)
        go_simp
        have HBx3 := Lib.hid (kA HBx2.out (.cells #[.int .i64 8192, .int .i64 ((q : Int) + 1), .int .i64 kq, .int .i64 3, .int .i64 klo, .int .i64 khi, .string (strOfNums (List.replicate sz 0))] 77))
        refine hK.out _ _ ?_ (fun hHeld => ?_)
        · (try dsimp only); exact HKC.out _ HBx3.out
        clear hK K
        have HRW := Lib.hid (heap_alloc_new x2 (.cells #[.int .i64 8192, .int .i64 ((q : Int) + 1), .int .i64 kq, .int .i64 3, .int .i64 klo, .int .i64 khi, .string (strOfNums (List.replicate sz 0))] 77))
        generalize x2.alloc (.cells #[.int .i64 8192, .int .i64 ((q : Int) + 1), .int .i64 kq, .int .i64 3, .int .i64 klo, .int .i64 khi, .string (strOfNums (List.replicate sz 0))] 77) = x3 at *
        generalize x2.heap.size = b9 at *
        refine wpAnyL_ready (rs := [16]) (by kernel_rfl) (by simp) ?_
        refine (AllReadyL.cons rfl (fun K hK => ?_) AllReadyL.nil)
        have HRz := Lib.hid (HRwr.out.below HBx3.out)
        have HBz := Lib.hid (kF HBx3.out HBwr.out)
        refine Eq.mpr (if_pos (by kernel_rfl)) ?_
        refine wp_append_own _ (.tmp 24) (.tmp 39) 31 rfl w.heap.size 77 i0 (.agg #[.int .i64 0, .int .i64 0, .int .i64 0, .int .i64 0, .int .i64 0, .int .i64 0, .string ByteArray.empty]) 7 64 Try.underlying31 HI.out hz0' hz1' hz2' rfl (by omega) V (apL q).length (fr (apL q)) rfl HRz.out ⟨b9, 0, none⟩ 1 1 [.int .i64 8192, .int .i64 ((q : Int) + 1), .int .i64 kq, .int .i64 3, .int .i64 klo, .int .i64 khi, .string (strOfNums (List.replicate sz 0))] rfl rfl (row7_cells HRW.out) (by simp [Value.oneCell']) (by simp only [maxLen]; omega) (by omega) HBz.out.size ?_
        intro v2 x4 q2 q2g q2n
        have HR2 : Hid (RwAt x4 w.heap.size v2 (apL (q + 1))) := Lib.hid (by rw [HES.out]; exact RwAt.appG (by omega) q2)
        have HB2 : Hid (Below w.heap.size w x4) := Lib.hid (HBz.out.grown q2g HBz.out.size HRz.out.blk)
        have HK2 : Hid (KdAt x4 (w.heap.size + 1)) := Lib.hid ((q2g.block _ (Array.getElem?_eq_some_iff.1 (HKwr.out.below HBx3.out)).1 (fun e => HRz.out.notk (HKwr.out.below HBx3.out) e.symm)).trans (HKwr.out.below HBx3.out))
        clear q2 q2g q2n
        refine hK.out _ _ ?_ (fun hHeld => ?_)
        · (try dsimp only); exact HKD.out _ HK2.out
        clear hK K
        refine wpAnyL_ready (rs := [17]) (by kernel_rfl) (by simp) ?_
        refine AllReadyL.last rfl (fun K hK => ?_)
        go_simp
        refine hK.out _ _ ?_
        clear hK K
        refine wpAnyL_done (by kernel_rfl) ?_ _
        clear hHeld
        go_wp2_with fail
        exact ⟨⟨v2, q + 1, rfl, by omega, by go_num, HR2, HK2, HB2⟩, by simp [intOf]; omega⟩
      · skip
        have hmk := HMK.out x0
        have HY := Lib.hid (HBZ.out x0)
        have HBx1 := Lib.hid (kA HBx0.out (.cells (madeCells #[.int .u8 0] sz) 5))
        go_simp
        refine hK.out _ _ ?_ (fun hHeld => ?_)
        · (try dsimp only); exact HKC.out _ HBx1.out
        clear hK K
        clear hmk
        generalize x0.alloc (.cells (madeCells #[.int .u8 0] sz) 5) = x1 at *
        generalize x0.heap.size = b8 at *
        refine wpAnyL_ready (rs := [3, 13]) (by kernel_rfl) (by simp) ?_
        refine (AllReadyL.cons rfl (fun K hK => ?_) (AllReadyL.cons rfl (fun K hK => ?_) AllReadyL.nil))
        · skip
          go_simp
          go_wp2_with fail
          refine (rname15_any 8192 ((q : Int) + 1) _).mono ?_
          rintro e x2 ⟨rfl, hba⟩
          have HBx2 : Hid (Below wr.heap.size wr x2) := Lib.hid (kF hba HBx1.out)
          have HY := Lib.hid (HY.out.low hba)
          clear hba
          refine hK.out _ _ ?_ (fun hHeld => ?_)
          · (try dsimp only); exact HKC.out _ HBx2.out
          clear hK K
          refine wpAnyL_ready (rs := [13]) (by kernel_rfl) (by simp) ?_
          refine (AllReadyL.cons rfl (fun K hK => ?_) AllReadyL.nil)
          have hcv : (convert 58 9 (.slice (some ⟨b8, 0, none⟩) sz sz)).run Try.prog x2 = .ok (.string (strOfNums (List.replicate sz 0))) x2 := conv_any HY.out
          go_simp
          refine hK.out _ _ ?_ (fun hHeld => ?_)
          · (try dsimp only); exact HKC.out _ HBx2.out
          clear hK K
          clear hcv
          refine wpAnyL_take (i := 14) (v := ?_) rfl (by kernel_rfl) (by kernel_rfl) (by kernel_rfl) (by kernel_rfl) (by kernel_rfl) (fun _ _ _ h => h) (Or.inl ⟨by rfl, ?_⟩) (by assumption) ?_
          rotate_left
          · intro wq hSw; (try dsimp only at hSw); first | (go_simp; done) | (go_simp; with_reducible rfl) | with_reducible rfl
          go_simp
          refine wpAnyL_ready (rs := [15]) (by kernel_rfl) (by simp) ?_
          refine (AllReadyL.cons rfl (fun K hK => ?_) AllReadyL.nil)
          go_simp
          have HBx3 := Lib.hid (kA HBx2.out (.cells #[.int .i64 8192, .int .i64 ((q : Int) + 1), .int .i64 kq, .int .i64 3, .int .i64 klo, .int .i64 khi, .string (strOfNums (List.replicate sz 0))] 77))
          refine hK.out _ _ ?_ (fun hHeld => ?_)
          · (try dsimp only); exact HKC.out _ HBx3.out
          clear hK K
          have HRW := Lib.hid (heap_alloc_new x2 (.cells #[.int .i64 8192, .int .i64 ((q : Int) + 1), .int .i64 kq, .int .i64 3, .int .i64 klo, .int .i64 khi, .string (strOfNums (List.replicate sz 0))] 77))
          generalize x2.alloc (.cells #[.int .i64 8192, .int .i64 ((q : Int) + 1), .int .i64 kq, .int .i64 3, .int .i64 klo, .int .i64 khi, .string (strOfNums (List.replicate sz 0))] 77) = x3 at *
          generalize x2.heap.size = b9 at *
          refine wpAnyL_ready (rs := [16]) (by kernel_rfl) (by simp) ?_
          refine (AllReadyL.cons rfl (fun K hK => ?_) AllReadyL.nil)
          have HRz := Lib.hid (HRwr.out.below HBx3.out)
          have HBz := Lib.hid (kF HBx3.out HBwr.out)
          refine Eq.mpr (if_pos (by kernel_rfl)) ?_
          refine wp_append_own _ (.tmp 24) (.tmp 39) 31 rfl w.heap.size 77 i0 (.agg #[.int .i64 0, .int .i64 0, .int .i64 0, .int .i64 0, .int .i64 0, .int .i64 0, .string ByteArray.empty]) 7 64 Try.underlying31 HI.out hz0' hz1' hz2' rfl (by omega) V (apL q).length (fr (apL q)) rfl HRz.out ⟨b9, 0, none⟩ 1 1 [.int .i64 8192, .int .i64 ((q : Int) + 1), .int .i64 kq, .int .i64 3, .int .i64 klo, .int .i64 khi, .string (strOfNums (List.replicate sz 0))] rfl rfl (row7_cells HRW.out) (by simp [Value.oneCell']) (by simp only [maxLen]; omega) (by omega) HBz.out.size ?_
          intro v2 x4 q2 q2g q2n
          have HR2 : Hid (RwAt x4 w.heap.size v2 (apL (q + 1))) := Lib.hid (by rw [HES.out]; exact RwAt.appG (by omega) q2)
          have HB2 : Hid (Below w.heap.size w x4) := Lib.hid (HBz.out.grown q2g HBz.out.size HRz.out.blk)
          have HK2 : Hid (KdAt x4 (w.heap.size + 1)) := Lib.hid ((q2g.block _ (Array.getElem?_eq_some_iff.1 (HKwr.out.below HBx3.out)).1 (fun e => HRz.out.notk (HKwr.out.below HBx3.out) e.symm)).trans (HKwr.out.below HBx3.out))
          clear q2 q2g q2n
          refine hK.out _ _ ?_ (fun hHeld => ?_)
          · (try dsimp only); exact HKD.out _ HK2.out
          clear hK K
          refine wpAnyL_ready (rs := [17]) (by kernel_rfl) (by simp) ?_
          refine AllReadyL.last rfl (fun K hK => ?_)
          go_simp
          refine hK.out _ _ ?_
          clear hK K
          refine wpAnyL_done (by kernel_rfl) ?_ _
          clear hHeld
          go_wp2_with fail
          exact ⟨⟨v2, q + 1, rfl, by omega, by go_num, HR2, HK2, HB2⟩, by simp [intOf]; omega⟩
        · skip
          have hcv : (convert 58 9 (.slice (some ⟨b8, 0, none⟩) sz sz)).run Try.prog x1 = .ok (.string (strOfNums (List.replicate sz 0))) x1 := conv_any HY.out
          go_simp
          refine hK.out _ _ ?_ (fun hHeld => ?_)
          · (try dsimp only); exact HKC.out _ HBx1.out
          clear hK K
          clear hcv
          refine wpAnyL_ready (rs := [3]) (by kernel_rfl) (by simp) ?_
          refine (AllReadyL.cons rfl (fun K hK => ?_) AllReadyL.nil)
          go_simp
          go_wp2_with fail
          refine (rname15_any 8192 ((q : Int) + 1) _).mono ?_
          rintro e x2 ⟨rfl, hba⟩
          have HBx2 : Hid (Below wr.heap.size wr x2) := Lib.hid (kF hba HBx1.out)
          clear hba
          refine hK.out _ _ ?_ (fun hHeld => ?_)
          · (try dsimp only); exact HKC.out _ HBx2.out
          clear hK K
          refine wpAnyL_take (i := 14) (v := ?_) rfl (by kernel_rfl) (by kernel_rfl) (by kernel_rfl) (by kernel_rfl) (by kernel_rfl) (fun _ _ _ h => h) (Or.inl ⟨by rfl, ?_⟩) (by assumption) ?_
          rotate_left
          · intro wq hSw; (try dsimp only at hSw); first | (go_simp; done) | (go_simp; with_reducible rfl) | with_reducible rfl
          go_simp
          refine wpAnyL_ready (rs := [15]) (by kernel_rfl) (by simp) ?_
          refine (AllReadyL.cons rfl (fun K hK => ?_) AllReadyL.nil)
          go_simp
          have HBx3 := Lib.hid (kA HBx2.out (.cells #[.int .i64 8192, .int .i64 ((q : Int) + 1), .int .i64 kq, .int .i64 3, .int .i64 klo, .int .i64 khi, .string (strOfNums (List.replicate sz 0))] 77))
          refine hK.out _ _ ?_ (fun hHeld => ?_)
          · (try dsimp only); exact HKC.out _ HBx3.out
          clear hK K
          have HRW := Lib.hid (heap_alloc_new x2 (.cells #[.int .i64 8192, .int .i64 ((q : Int) + 1), .int .i64 kq, .int .i64 3, .int .i64 klo, .int .i64 khi, .string (strOfNums (List.replicate sz 0))] 77))
          generalize x2.alloc (.cells #[.int .i64 8192, .int .i64 ((q : Int) + 1), .int .i64 kq, .int .i64 3, .int .i64 klo, .int .i64 khi, .string (strOfNums (List.replicate sz 0))] 77) = x3 at *
          generalize x2.heap.size = b9 at *
          refine wpAnyL_ready (rs := [16]) (by kernel_rfl) (by simp) ?_
          refine (AllReadyL.cons rfl (fun K hK => ?_) AllReadyL.nil)
          have HRz := Lib.hid (HRwr.out.below HBx3.out)
          have HBz := Lib.hid (kF HBx3.out HBwr.out)
          refine Eq.mpr (if_pos (by kernel_rfl)) ?_
          refine wp_append_own _ (.tmp 24) (.tmp 39) 31 rfl w.heap.size 77 i0 (.agg #[.int .i64 0, .int .i64 0, .int .i64 0, .int .i64 0, .int .i64 0, .int .i64 0, .string ByteArray.empty]) 7 64 Try.underlying31 HI.out hz0' hz1' hz2' rfl (by omega) V (apL q).length (fr (apL q)) rfl HRz.out ⟨b9, 0, none⟩ 1 1 [.int .i64 8192, .int .i64 ((q : Int) + 1), .int .i64 kq, .int .i64 3, .int .i64 klo, .int .i64 khi, .string (strOfNums (List.replicate sz 0))] rfl rfl (row7_cells HRW.out) (by simp [Value.oneCell']) (by simp only [maxLen]; omega) (by omega) HBz.out.size ?_
          intro v2 x4 q2 q2g q2n
          have HR2 : Hid (RwAt x4 w.heap.size v2 (apL (q + 1))) := Lib.hid (by rw [HES.out]; exact RwAt.appG (by omega) q2)
          have HB2 : Hid (Below w.heap.size w x4) := Lib.hid (HBz.out.grown q2g HBz.out.size HRz.out.blk)
          have HK2 : Hid (KdAt x4 (w.heap.size + 1)) := Lib.hid ((q2g.block _ (Array.getElem?_eq_some_iff.1 (HKwr.out.below HBx3.out)).1 (fun e => HRz.out.notk (HKwr.out.below HBx3.out) e.symm)).trans (HKwr.out.below HBx3.out))
          clear q2 q2g q2n
          refine hK.out _ _ ?_ (fun hHeld => ?_)
          · (try dsimp only); exact HKD.out _ HK2.out
          clear hK K
          refine wpAnyL_ready (rs := [17]) (by kernel_rfl) (by simp) ?_
          refine AllReadyL.last rfl (fun K hK => ?_)
          go_simp
          refine hK.out _ _ ?_
          clear hK K
          refine wpAnyL_done (by kernel_rfl) ?_ _
          clear hHeld
          go_wp2_with fail
          exact ⟨⟨v2, q + 1, rfl, by omega, by go_num, HR2, HK2, HB2⟩, by simp [intOf]; omega⟩
    · have h6 : q = 6 := by omega
      have HE8 : Hid (appO = apL q ++ [apT] ++ [apC]) := Lib.hid (by rw [h6]; rfl)
      have hql := apL_len q
      clear h6
      go_wp2_with fail
      refine (rname15_any 8192 7 _).mono ?_
      rintro e y1 ⟨rfl, hb1⟩
      have HBy1 : Hid (Below w.heap.size w y1) := Lib.hid (kF hb1 HBwr.out)
      have HRy1 := Lib.hid (HRwr.out.below hb1)
      have HRW1 := Lib.hid (heap_alloc_new y1 (.cells #[.int .i64 8192, .int .i64 7, .int .i64 8, .int .i64 3, .int .i64 0, .int .i64 40, .string ⟨#[]⟩] 77))
      have hba : Below y1.heap.size y1 (y1.alloc (.cells #[.int .i64 8192, .int .i64 7, .int .i64 8, .int .i64 3, .int .i64 0, .int .i64 40, .string ⟨#[]⟩] 77)) := (Below.refl _ _).alloc (Nat.le_refl _) _
      have HBz := Lib.hid (kF hba HBy1.out)
      have HRz := Lib.hid (HRy1.out.below hba)
      have hl1 : (apL q).length ≤ 100 := by first | omega | (simp only [List.length_append, List.length_singleton]; omega)
      clear hb1 hba HBwr HRwr HBy1 HRy1
      go_wp2_with (at_builtin; refine wpList_append_own _ rfl (.tmp 41) (.tmp 45) 31 rfl w.heap.size 77 i0 (.agg #[.int .i64 0, .int .i64 0, .int .i64 0, .int .i64 0, .int .i64 0, .int .i64 0, .string ByteArray.empty]) 7 64 Try.underlying31 HI.out hz0' hz1' hz2' rfl (by omega) _ (apL q).length (fr (apL q)) rfl HRz.out ⟨y1.heap.size, 0, none⟩ 1 1 [.int .i64 8192, .int .i64 7, .int .i64 8, .int .i64 3, .int .i64 0, .int .i64 40, .string ⟨#[]⟩] rfl rfl (row7_cells HRW1.out) (by simp [Value.oneCell']) (by simp only [maxLen]; omega) (by omega) HBz.out.size ?_; intro v1 x1 r1 r2 r3)
      have HRx1 : Hid (RwAt x1 w.heap.size v1 (apL q ++ [apT])) := Lib.hid (RwAt.appG (by omega) r1)
      have HBx1 : Hid (Below w.heap.size w x1) := Lib.hid (HBz.out.grown r2 HBz.out.size HRz.out.blk)
      clear r1 r2 r3 hl1 HRW1 HBz HRz
      go_wp2_with fail
      refine (rname15_any 8192 8 _).mono ?_
      rintro e y2 ⟨rfl, hb1⟩
      have HBy2 : Hid (Below w.heap.size w y2) := Lib.hid (kF hb1 HBx1.out)
      have HRy2 := Lib.hid (HRx1.out.below hb1)
      have HRW1 := Lib.hid (heap_alloc_new y2 (.cells #[.int .i64 8192, .int .i64 8, .int .i64 2, .int .i64 4, .int .i64 0, .int .i64 9, .string ⟨#[0]⟩] 77))
      have hba : Below y2.heap.size y2 (y2.alloc (.cells #[.int .i64 8192, .int .i64 8, .int .i64 2, .int .i64 4, .int .i64 0, .int .i64 9, .string ⟨#[0]⟩] 77)) := (Below.refl _ _).alloc (Nat.le_refl _) _
      have HBz := Lib.hid (kF hba HBy2.out)
      have HRz := Lib.hid (HRy2.out.below hba)
      have hl1 : (apL q ++ [apT]).length ≤ 100 := by first | omega | (simp only [List.length_append, List.length_singleton]; omega)
      clear hb1 hba HBx1 HRx1 HBy2 HRy2
      go_wp2_with (at_builtin; refine wpList_append_own _ rfl (.tmp 47) (.tmp 51) 31 rfl w.heap.size 77 i0 (.agg #[.int .i64 0, .int .i64 0, .int .i64 0, .int .i64 0, .int .i64 0, .int .i64 0, .string ByteArray.empty]) 7 64 Try.underlying31 HI.out hz0' hz1' hz2' rfl (by omega) _ (apL q ++ [apT]).length (fr (apL q ++ [apT])) rfl HRz.out ⟨y2.heap.size, 0, none⟩ 1 1 [.int .i64 8192, .int .i64 8, .int .i64 2, .int .i64 4, .int .i64 0, .int .i64 9, .string ⟨#[0]⟩] rfl rfl (row7_cells HRW1.out) (by simp [Value.oneCell']) (by simp only [maxLen]; omega) (by omega) HBz.out.size ?_; intro v2 x2 r1 r2 r3)
      have HRx2 : Hid (RwAt x2 w.heap.size v2 (apL q ++ [apT] ++ [apC])) := Lib.hid (RwAt.appG (by omega) r1)
      have HBx2 : Hid (Below w.heap.size w x2) := Lib.hid (HBz.out.grown r2 HBz.out.size HRz.out.blk)
      clear r1 r2 r3 hl1 HRW1 HBz HRz
      go_wp2_with fail
      go_ret
      exact ⟨_, rfl, by rw [HE8.out]; exact HRx2.out, HBx2.out⟩
end Go.Proofs.Ytgaoplbocjadaaa
