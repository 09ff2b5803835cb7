/- emcy: an emergency's frame, both sides. -/
import Derived.Test.YtncnlbokipieaaaEBFrameS
import Derived.Test.YtncnlbokipieaaaEKWordX
import Derived.IntWalk
import Derived.Deep.CutBlock
import Derived.BigQuiet
import Derived.Deep.QuietTactic
namespace Go.Proofs.Ytncnlbokipieaaa
open Go.RowKit
set_option linter.unusedSimpArgs false
set_option linter.unusedVariables false

def isNI (n : Int) : Bool := decide (1 ≤ n ∧ n ≤ 127)
def isCd (n : Int) : Bool := decide (0 ≤ n ∧ n ≤ 65535)
theorem isN_yes {n : Int} (h0 : 1 ≤ n) (h1 : n ≤ 127) : isNI n = true := by simp [isNI, h0, h1]
theorem isN_no {n : Int} (h : n < 1 ∨ 127 < n) : isNI n = false := by unfold isNI; exact decide_eq_false (by omega)
theorem isN_in {n : Int} (h : isNI n = true) : 1 ≤ n ∧ n ≤ 127 := by simpa [isNI] using h
theorem isC_in {n : Int} (h : isCd n = true) : 0 ≤ n ∧ n ≤ 65535 := by simpa [isCd] using h
theorem isC_no {n : Int} (h : isCd n = false) : n < 0 ∨ 65535 < n := by
  have h1 : ¬ (0 ≤ n ∧ n ≤ 65535) := by simpa [isCd] using h
  omega
theorem isN_not {n : Int} (h : isNI n = false) : n < 1 ∨ 127 < n := by
  have h1 : ¬ (1 ≤ n ∧ n ≤ 127) := by simpa [isNI] using h
  omega
theorem enode_any (n : Int) (w : World) : Calls Try.prog 25 #[.int .i64 n] w fun e w' => e = .returned (.bool (isNI n)) ∧ w = w' := by
  by_cases h1 : 1 ≤ n
  · by_cases h2 : n ≤ 127
    · rw [isN_yes h1 h2]; go_enter Try.func25, Try.ntmps25; go_wp2; go_ret; exact ⟨rfl, rfl⟩
    · rw [isN_no (n := n) (by omega)]; go_enter Try.func25, Try.ntmps25; go_wp2; go_ret; exact ⟨rfl, rfl⟩
  · rw [isN_no (n := n) (by omega)]; go_enter Try.func25, Try.ntmps25; go_wp2; go_ret; exact ⟨rfl, rfl⟩
theorem kD (w : World) : Below w.heap.size w w.drew := (Below.refl _ _).drew
theorem fit_code (n : Int) : fitB 3 n = isCd n := by unfold fitB isCd; simp [kSize, kLow, kHigh]
theorem ecode_any (n : Int) (w : World) : Calls Try.prog 26 #[.int .i64 n] w fun e w' => e = .returned (.bool (isCd n)) ∧ Below w.heap.size w w' := by
  have HF := Lib.hid (fun w => fits_any 3 n w)
  go_enter Try.func26, Try.ntmps26
  go_wp2_with (go_at_call 43; refine (HF.out _).mono ?_; rintro e w1 ⟨rfl, hb⟩)
  go_ret
  exact ⟨by rw [← fit_code]; rfl, hb⟩
def EmAt (w : World) (g : Nat) (nd cd rg : Int) (i : Nat → Int) : Prop := w.heap[g]? = some (.cells #[.int .i64 nd, .int .i64 cd, .int .u8 rg, .int .u8 (i 0), .int .u8 (i 1), .int .u8 (i 2), .int .u8 (i 3), .int .u8 (i 4)] 24 (0, 0))
theorem info_em : (Try.prog.info? 24).map (·.size) = some 8 := by kernel_rfl
theorem one_em (nd cd rg : Int) (i : Nat → Int) : (#[.int .i64 nd, .int .i64 cd, .int .u8 rg, .int .u8 (i 0), .int .u8 (i 1), .int .u8 (i 2), .int .u8 (i 3), .int .u8 (i 4)] : Array Value).all (·.oneCell') = true := by simp [Value.oneCell']
section
variable {w w' : World} {g : Nat} {nd cd rg : Int} {i : Nat → Int}
theorem EmAt.lt (h : EmAt w g nd cd rg i) : g < w.heap.size := (Array.getElem?_eq_some_iff.1 h).1
theorem EmAt.frozen (h : EmAt w g nd cd rg i) (k : Nat) : w.frozen? ⟨g, k, none⟩ = false := frozen_of_row _ _ _ _ _ h
theorem EmAt.below {B : Nat} (h : EmAt w g nd cd rg i) (hb : Below B w w') (hg : g < B) : EmAt w' g nd cd rg i := (hb.block g hg).trans h
theorem EmAt.cells (h : EmAt w g nd cd rg i) : w.cell? ⟨g, 0, none⟩ = some (.int .i64 nd) ∧ w.cell? ⟨g, 1, none⟩ = some (.int .i64 cd) ∧ w.cell? ⟨g, 2, none⟩ = some (.int .u8 rg) ∧ w.cell? ⟨g, 3, none⟩ = some (.int .u8 (i 0)) ∧ w.cell? ⟨g, 4, none⟩ = some (.int .u8 (i 1)) ∧ w.cell? ⟨g, 5, none⟩ = some (.int .u8 (i 2)) ∧ w.cell? ⟨g, 6, none⟩ = some (.int .u8 (i 3)) ∧ w.cell? ⟨g, 7, none⟩ = some (.int .u8 (i 4)) := by
  refine ⟨?_, ?_, ?_, ?_, ?_, ?_, ?_, ?_⟩ <;> (rw [cell_of_row _ _ _ _ _ _ h]; rfl)
theorem EmAt.byt (h : EmAt w g nd cd rg i) (hi : ∀ k, k < 5 → 0 ≤ i k ∧ i k ≤ 255) : Byt w w.heap.size (some ⟨g, 3, none⟩) 5 5 [i 0, i 1, i 2, i 3, i 4] := by
  refine ⟨rfl, Nat.le_refl _, by simp [maxLen], fun x hx => ?_, fun _ => ⟨g, 3, rfl, h.lt, fun j hj => ?_⟩⟩
  · simp at hx
    rcases hx with rfl | rfl | rfl | rfl | rfl
    · exact hi 0 (by omega)
    · exact hi 1 (by omega)
    · exact hi 2 (by omega)
    · exact hi 3 (by omega)
    · exact hi 4 (by omega)
  · rw [cell_of_row _ _ _ _ _ _ h]
    match j, hj with
    | 0, _ => rfl
    | 1, _ => rfl
    | 2, _ => rfl
    | 3, _ => rfl
    | 4, _ => rfl
end
theorem EmAt.info {w : World} {g : Nat} {nd cd rg : Int} {i : Nat → Int} (h : EmAt w g nd cd rg i) {k : Nat} (hk : k < 5) : w.cell? ⟨g, 3 + k, none⟩ = some (.int .u8 (i k)) := by
  rw [cell_of_row _ _ _ _ _ _ h]
  match k, hk with
  | 0, _ => rfl
  | 1, _ => rfl
  | 2, _ => rfl
  | 3, _ => rfl
  | 4, _ => rfl
structure EnS (w : World) (nd cd rg : Int) (i : Nat → Int) (x : World) : Prop where
  em : EmAt x w.heap.size nd cd rg i
  fr : FrAt x (w.heap.size + 1) 0 false 0 (fun _ => 0)
  bel : Below w.heap.size w x
section
variable {w x y : World} {nd cd rg : Int} {i : Nat → Int} {g : Nat}
theorem EnS.lt (h : EnS w nd cd rg i x) : w.heap.size + 1 < x.heap.size := h.fr.lt
theorem EnS.low (h : EnS w nd cd rg i x) (hb : Below g x y) (hg : w.heap.size + 1 < g) : EnS w nd cd rg i y := ⟨h.em.below hb (by omega), h.fr.below hb hg, h.bel.trans (hb.mono (by omega))⟩
theorem EnS.below (h : EnS w nd cd rg i x) (hb : Below x.heap.size x y) : EnS w nd cd rg i y := h.low hb h.lt
theorem enS_start : EnS w nd cd rg i ((w.alloc (.cells #[.int .i64 nd, .int .i64 cd, .int .u8 rg, .int .u8 (i 0), .int .u8 (i 1), .int .u8 (i 2), .int .u8 (i 3), .int .u8 (i 4)] 24)).alloc (.cells #[.int .i64 0, .bool false, .int .i64 0, .int .u8 0, .int .u8 0, .int .u8 0, .int .u8 0, .int .u8 0, .int .u8 0, .int .u8 0, .int .u8 0] 27)) := by
  have h0 := (Below.refl w.heap.size w).alloc (Nat.le_refl _) (.cells #[.int .i64 nd, .int .i64 cd, .int .u8 rg, .int .u8 (i 0), .int .u8 (i 1), .int .u8 (i 2), .int .u8 (i 3), .int .u8 (i 4)] 24)
  have e2 : FrAt ((w.alloc (.cells #[.int .i64 nd, .int .i64 cd, .int .u8 rg, .int .u8 (i 0), .int .u8 (i 1), .int .u8 (i 2), .int .u8 (i 3), .int .u8 (i 4)] 24)).alloc (.cells #[.int .i64 0, .bool false, .int .i64 0, .int .u8 0, .int .u8 0, .int .u8 0, .int .u8 0, .int .u8 0, .int .u8 0, .int .u8 0, .int .u8 0] 27)) (w.heap.size + 1) 0 false 0 (fun _ => 0) := by
    have := frame_new (w.alloc (.cells #[.int .i64 nd, .int .i64 cd, .int .u8 rg, .int .u8 (i 0), .int .u8 (i 1), .int .u8 (i 2), .int .u8 (i 3), .int .u8 (i 4)] 24)) 0 0 false (fun _ => 0)
    have hz : (w.alloc (.cells #[.int .i64 nd, .int .i64 cd, .int .u8 rg, .int .u8 (i 0), .int .u8 (i 1), .int .u8 (i 2), .int .u8 (i 3), .int .u8 (i 4)] 24)).heap.size = w.heap.size + 1 := by simp
    rwa [hz] at this
  exact ⟨heap_alloc2_old w _ _, e2, h0.alloc (by simp) _⟩
end
theorem putA3 {cd : Int} (h : isCd cd = true) : putA 3 cd = [cd % 256, cd / 256] := by
  have h1 := isC_in h
  unfold putA
  rw [fit_code, h, if_pos rfl, putL2 (k := 3) rfl, show cd / 256 % 256 = cd / 256 by omega]
theorem putA2 {rg : Int} (h0 : 0 ≤ rg) (h1 : rg ≤ 255) : putA 2 rg = [rg] := by
  unfold putA
  rw [fit_yes (k := 2) ⟨by decide, h0, h1⟩, if_pos rfl, putL1 (k := 2) rfl, show rg % 256 = rg by omega]
theorem putE3 {cd : Int} (h : isCd cd = true) : putE 3 cd = 0 := by unfold putE; rw [fit_code, h, if_pos rfl]
theorem putE2 {rg : Int} (h0 : 0 ≤ rg) (h1 : rg ≤ 255) : putE 2 rg = 0 := by unfold putE; rw [fit_yes (k := 2) ⟨by decide, h0, h1⟩, if_pos rfl]
theorem chk_em (nd cd rg : Int) (i : Nat → Int) (h0 : 1 ≤ nd) (h1 : nd ≤ 127) : chk (128 + nd) false 8 (dOf [cd % 256, cd / 256, rg, i 0, i 1, i 2, i 3, i 4]) = 0 := by
  unfold chk
  rw [if_neg (by omega), if_neg (by omega)]
  simp [eqD, cut, kOf, dOf]
theorem new_em (nd cd rg : Int) (i : Nat → Int) (w : World) (A : Option Addr) (c : Nat) (h0 : 1 ≤ nd) (h1 : nd ≤ 127) (h : Byt w w.heap.size A 8 c [cd % 256, cd / 256, rg, i 0, i 1, i 2, i 3, i 4]) : Calls Try.prog 29 #[.int .i64 (128 + nd), .slice A 8 c] w fun e w' => e = .returned (.tuple #[.agg #[.int .i64 (128 + nd), .bool false, .int .i64 8, .int .u8 (cd % 256), .int .u8 (cd / 256), .int .u8 rg, .int .u8 (i 0), .int .u8 (i 1), .int .u8 (i 2), .int .u8 (i 3), .int .u8 (i 4)], .int .i64 0]) ∧ Below w.heap.size w w' := new_ok (128 + nd) A 8 c [cd % 256, cd / 256, rg, i 0, i 1, i 2, i 3, i 4] w h (chk_em nd cd rg i h0 h1)
theorem wr_new (w : World) : WrOwn (w.alloc (.cells #[.int .i64 0, .slice none 0 0] 65)) w.heap.size 0 [] := ⟨none, 0, heap_alloc_new w _, ⟨by simp, .inl ⟨rfl, rfl⟩⟩, by simp⟩
set_option maxRecDepth 100000 in
theorem enc_node (nd cd rg : Int) (i : Nat → Int) (w : World) (hn : isNI nd = false) : Calls Try.prog 6 #[.agg #[.int .i64 nd, .int .i64 cd, .int .u8 rg, .int .u8 (i 0), .int .u8 (i 1), .int .u8 (i 2), .int .u8 (i 3), .int .u8 (i 4)]] w fun e w' => e = .returned (.tuple #[.agg #[.int .i64 0, .bool false, .int .i64 0, .int .u8 0, .int .u8 0, .int .u8 0, .int .u8 0, .int .u8 0, .int .u8 0, .int .u8 0, .int .u8 0], .int .i64 3]) ∧ Below w.heap.size w w' := by
  have HN := Lib.hid (fun w => enode_any nd w)
  have HC := Lib.hid (fun w => ecode_any cd w)
  have HS := Lib.hid (enS_start (w := w) (nd := nd) (cd := cd) (rg := rg) (i := i))
  rw [hn] at HN
  clear hn
  obtain ⟨c0, c1, c2, c3, c4, c5, c6, c7⟩ := HS.out.em.cells
  go_enter Try.func6, Try.ntmps6
  go_wp2_with (first
    | (go_at_call 25; refine (HN.out _).mono ?_; rintro e w1 ⟨rfl, rfl⟩)
    | (go_at_call 26; refine (HC.out _).mono ?_; rintro e w1 ⟨rfl, hb1⟩; have HS1 := Lib.hid (HS.out.below hb1); clear hb1)
    | (refine wpList_store_row rfl _ (.tmp 2) (.tmp 15) rfl (w.heap.size + 1) _ rfl rfl _ _ HS.out.fr info_frame rfl (one_frame 0 0 false (fun _ => 0)) ?_))
  all_goals exact bodyPost_ret (results_cell_tmp_row rfl _ _ (w.heap.size + 1) _ _ _ _ rfl (HS.out.fr.row 0 0 false (fun _ => 0)) Try.underlying27 rfl info_frame) rfl ⟨rfl, below_setRow HS.out.bel (by omega) _⟩
set_option maxRecDepth 100000 in
theorem enc_code (nd cd rg : Int) (i : Nat → Int) (w : World) (hn : isNI nd = true) (hc : isCd cd = false) : Calls Try.prog 6 #[.agg #[.int .i64 nd, .int .i64 cd, .int .u8 rg, .int .u8 (i 0), .int .u8 (i 1), .int .u8 (i 2), .int .u8 (i 3), .int .u8 (i 4)]] w fun e w' => e = .returned (.tuple #[.agg #[.int .i64 0, .bool false, .int .i64 0, .int .u8 0, .int .u8 0, .int .u8 0, .int .u8 0, .int .u8 0, .int .u8 0, .int .u8 0, .int .u8 0], .int .i64 3]) ∧ Below w.heap.size w w' := by
  have HN := Lib.hid (fun w => enode_any nd w)
  have HC := Lib.hid (fun w => ecode_any cd w)
  have HS := Lib.hid (enS_start (w := w) (nd := nd) (cd := cd) (rg := rg) (i := i))
  rw [hn] at HN
  rw [hc] at HC
  clear hn hc
  obtain ⟨c0, c1, c2, c3, c4, c5, c6, c7⟩ := HS.out.em.cells
  go_enter Try.func6, Try.ntmps6
  go_wp2_with (first
    | (go_at_call 25; refine (HN.out _).mono ?_; rintro e w1 ⟨rfl, rfl⟩)
    | (go_at_call 26; refine (HC.out _).mono ?_; rintro e w1 ⟨rfl, hb1⟩; have HS1 := Lib.hid (HS.out.below hb1); clear hb1)
    | (refine wpList_store_row rfl _ (.tmp 2) (.tmp 15) rfl (w.heap.size + 1) _ rfl rfl _ _ HS1.out.fr info_frame rfl (one_frame 0 0 false (fun _ => 0)) ?_))
  all_goals exact bodyPost_ret (results_cell_tmp_row rfl _ _ (w.heap.size + 1) _ _ _ _ rfl (HS1.out.fr.row 0 0 false (fun _ => 0)) Try.underlying27 rfl info_frame) rfl ⟨rfl, below_setRow HS1.out.bel (by omega) _⟩
set_option maxRecDepth 100000 in
set_option maxHeartbeats 2000000 in
theorem enc_yes (nd cd rg : Int) (i : Nat → Int) (w : World) (hn : isNI nd = true) (hc : isCd cd = true) (hr0 : 0 ≤ rg) (hr1 : rg ≤ 255) (hi : ∀ k, k < 5 → 0 ≤ i k ∧ i k ≤ 255) : Calls Try.prog 6 #[.agg #[.int .i64 nd, .int .i64 cd, .int .u8 rg, .int .u8 (i 0), .int .u8 (i 1), .int .u8 (i 2), .int .u8 (i 3), .int .u8 (i 4)]] w fun e w' => e = .returned (.tuple #[.agg #[.int .i64 (128 + nd), .bool false, .int .i64 8, .int .u8 (cd % 256), .int .u8 (cd / 256), .int .u8 rg, .int .u8 (i 0), .int .u8 (i 1), .int .u8 (i 2), .int .u8 (i 3), .int .u8 (i 4)], .int .i64 0]) ∧ Below w.heap.size w w' := by
  have HN := Lib.hid (fun w => enode_any nd w)
  have HC := Lib.hid (fun w => ecode_any cd w)
  have HS := Lib.hid (enS_start (w := w) (nd := nd) (cd := cd) (rg := rg) (i := i))
  obtain ⟨hn0, hn1⟩ := isN_in hn
  have HP := Lib.hid hc
  rw [hn] at HN
  rw [hc] at HC
  have e1 : IntKind.i64.wrap (128 + nd) = 128 + nd := IntWalk.i64_in _ (by omega)
  have e2 : IntKind.i64.wrap rg = rg := IntWalk.i64_in _ (by omega)
  have HI := Lib.hid hi
  clear hn hc hi
  obtain ⟨c0, c1, c2, c3, c4, c5, c6, c7⟩ := HS.out.em.cells
  go_enter Try.func6, Try.ntmps6
  go_upto_region 3 with (first
    | (go_at_call 25; refine (HN.out _).mono ?_; rintro e w1 ⟨rfl, rfl⟩)
    | (go_at_call 26; refine (HC.out _).mono ?_; rintro e w1 ⟨rfl, hb1⟩; have HS1 := Lib.hid (HS.out.below hb1); clear hb1))
  have HO := Lib.hid (wr_new w1)
  have HG := Lib.hid (show w.heap.size + 1 < w1.heap.size from HS1.out.lt)
  have HS2 := Lib.hid (HS1.out.below ((Below.refl _ _).alloc (Nat.le_refl _) _ : Below w1.heap.size w1 (w1.alloc (.cells #[.int .i64 0, .slice none 0 0] 65))))
  clear c0 c1 c2 c3 c4 c5 c6 c7 HS HS1 HN HC
  go_upto_region 4 with fail
  generalize (w1.alloc (.cells #[.int .i64 0, .slice none 0 0] 65)) = w2 at *
  generalize w1.heap.size = gw at *
  obtain ⟨c0, c1, c2, c3, c4, c5, c6, c7⟩ := HS2.out.em.cells
  go_upto_region 5 with (go_at_call 27; refine (wnum_ok _ gw 3 cd [] HO.out (putE3 HP.out) (by simp)).mono ?_; rintro e w3 ⟨⟨v3, rfl⟩, ho3, hb3⟩; have HO3 := Lib.hid ho3; have HS3 := Lib.hid (HS2.out.low hb3 HG.out); clear ho3 hb3 c0 c1 c2 c3 c4 c5 c6 c7)
  rw [putA3 HP.out] at HO3
  clear HO HS2
  obtain ⟨c0, c1, c2, c3, c4, c5, c6, c7⟩ := HS3.out.em.cells
  go_upto_region 6 with (go_at_call 27; refine (wnum_ok _ gw 2 rg _ HO3.out (putE2 hr0 hr1) (by simp)).mono ?_; rintro e w4 ⟨⟨v4, rfl⟩, ho4, hb4⟩; have HO4 := Lib.hid ho4; have HS4 := Lib.hid (HS3.out.low hb4 HG.out); clear ho4 hb4 c0 c1 c2 c3 c4 c5 c6 c7)
  rw [putA2 hr0 hr1] at HO4
  clear HO3 HS3
  obtain ⟨c0, c1, c2, c3, c4, c5, c6, c7⟩ := HS4.out.em.cells
  go_upto_region 7 with (go_at_call 28; refine (wraw_ok _ gw _ [i 0, i 1, i 2, i 3, i 4] _ 5 5 HO4.out (HS4.out.em.byt HI.out) (by simp)).mono ?_; rintro e w5 ⟨⟨v5, rfl⟩, ho5, hb5⟩; have HO5 := Lib.hid (show WrOwn w5 gw 0 [cd % 256, cd / 256, rg, i 0, i 1, i 2, i 3, i 4] from ho5); have HS5 := Lib.hid (HS4.out.low hb5 HG.out); clear ho5 hb5 c0 c1 c2 c3 c4 c5 c6 c7)
  clear HO4 HS4
  refine wp_region_last (fun x => x.cell? ⟨w.heap.size, 0, none⟩ = some (.int .i64 nd)) 9 (by kernel_rfl) HS5.out.em.cells.1 (fun hHeld => ?_)
  have HS6 := Lib.hid (HS5.out.below (kD w5))
  have HO6 := Lib.hid (HO5.out.low (kD w5))
  generalize w5.drew = w6 at *
  clear HO5 HS5
  refine wpAnyL_take (i := 0) (v := ?_) rfl (by kernel_rfl) (by kernel_rfl) (by kernel_rfl) (by kernel_rfl) (by kernel_rfl) (fun _ _ _ h => h) (Or.inl ⟨by rfl, ?_⟩) (by assumption) ?_
  rotate_left
  · intro wq hSw; (try dsimp only at hSw); first | (go_simp; done) | (go_simp; with_reducible rfl) | with_reducible rfl
  try simp only [Act.put, List.setIfInBounds_toArray, List.set_cons_zero, List.set_cons_succ, List.getElem_toArray, List.getElem_cons_zero, List.getElem_cons_succ]
  refine wpAnyL_take (i := 1) (v := .int .i64 nd) rfl (by kernel_rfl) (by kernel_rfl) (by kernel_rfl) (by kernel_rfl) (by kernel_rfl) (fun _ _ _ h => h) (Or.inl ⟨by rfl, ?_⟩) (by assumption) ?_
  · intro wq hSw; (try dsimp only at hSw); first | (go_simp; done) | (go_simp; with_reducible rfl) | with_reducible rfl
  try simp only [Act.put, List.setIfInBounds_toArray, List.set_cons_zero, List.set_cons_succ, List.getElem_toArray, List.getElem_cons_zero, List.getElem_cons_succ]
  refine wpAnyL_take (i := 2) (v := .int .i64 (128 + nd)) rfl (by kernel_rfl) (by kernel_rfl) (by kernel_rfl) (by kernel_rfl) (by kernel_rfl) (fun _ _ _ h => h) (Or.inl ⟨by rfl, ?_⟩) (by assumption) ?_
  · intro wq hSw; (try dsimp only at hSw); first | (go_simp; done) | (go_simp; with_reducible rfl) | with_reducible rfl
  try simp only [Act.put, List.setIfInBounds_toArray, List.set_cons_zero, List.set_cons_succ, List.getElem_toArray, List.getElem_cons_zero, List.getElem_cons_succ]
  refine wpAnyL_take (i := 3) (v := ?_) rfl (by kernel_rfl) (by kernel_rfl) (by kernel_rfl) (by kernel_rfl) (by kernel_rfl) (fun _ _ _ h => h) (Or.inl ⟨by rfl, ?_⟩) (by assumption) ?_
  rotate_left
  · intro wq hSw; (try dsimp only at hSw); first | (go_simp; done) | (go_simp; with_reducible rfl) | with_reducible rfl
  try simp only [Act.put, List.setIfInBounds_toArray, List.set_cons_zero, List.set_cons_succ, List.getElem_toArray, List.getElem_cons_zero, List.getElem_cons_succ]
  obtain ⟨Aw, cw, hw1, hw2, hw3⟩ := HO6.out
  obtain ⟨Ab, cb, hab, hby, -⟩ := Byt.of_own hw2 hw3
  cases hab
  refine wpAnyL_ready (rs := [4]) (by kernel_rfl) (by simp) ?_
  refine (AllReadyL.cons rfl (fun K hK => ?_) AllReadyL.nil)
  go_simp
  go_wp2_with fail
  refine (wbytes_any _ gw 0 Aw 8 cw [cd % 256, cd / 256, rg, i 0, i 1, i 2, i 3, i 4] hw1 hby (by omega)).mono ?_
  rintro e w7 ⟨A7, c7, rfl, hb7, hl7⟩
  have HB7 := Lib.hid hb7
  have HS7 := Lib.hid (HS6.out.below hl7)
  clear hb7 hl7 hw1 hw2 hw3 hby HO6 HS6
  refine hK.out _ _ ?_ (fun hHeld => ?_)
  · (try dsimp only); exact HS7.out.em.cells.1
  clear hK K
  refine wpAnyL_ready (rs := [5]) (by kernel_rfl) (by simp) ?_
  refine (AllReadyL.cons rfl (fun K hK => ?_) AllReadyL.nil)
  go_simp
  go_wp2_with fail
  refine (new_em nd cd rg i _ A7 c7 hn0 hn1 HB7.out).mono ?_
  rintro e w8 ⟨rfl, hb8⟩
  have HS8 := Lib.hid (HS7.out.below hb8)
  clear hb8 HS7 HB7
  refine hK.out _ _ ?_ (fun hHeld => ?_)
  · (try dsimp only); exact HS8.out.em.cells.1
  clear hK K
  refine wpAnyL_take (i := 6) (v := .agg #[.int .i64 (128 + nd), .bool false, .int .i64 8, .int .u8 (cd % 256), .int .u8 (cd / 256), .int .u8 rg, .int .u8 (i 0), .int .u8 (i 1), .int .u8 (i 2), .int .u8 (i 3), .int .u8 (i 4)]) rfl (by kernel_rfl) (by kernel_rfl) (by kernel_rfl) (by kernel_rfl) (by kernel_rfl) (fun _ _ _ h => h) (Or.inl ⟨by rfl, ?_⟩) (by assumption) ?_
  · intro wq hSw; (try dsimp only at hSw); first | (go_simp; done) | (go_simp; with_reducible rfl) | with_reducible rfl
  try simp only [Act.put, List.setIfInBounds_toArray, List.set_cons_zero, List.set_cons_succ, List.getElem_toArray, List.getElem_cons_zero, List.getElem_cons_succ]
  refine wpAnyL_take (i := 7) (v := .int .i64 0) rfl (by kernel_rfl) (by kernel_rfl) (by kernel_rfl) (by kernel_rfl) (by kernel_rfl) (fun _ _ _ h => h) (Or.inl ⟨by rfl, ?_⟩) (by assumption) ?_
  · intro wq hSw; (try dsimp only at hSw); first | (go_simp; done) | (go_simp; with_reducible rfl) | with_reducible rfl
  try simp only [Act.put, List.setIfInBounds_toArray, List.set_cons_zero, List.set_cons_succ, List.getElem_toArray, List.getElem_cons_zero, List.getElem_cons_succ]
  refine wpAnyL_ready (rs := [8]) (by kernel_rfl) (by simp) ?_
  refine (AllReadyL.cons rfl (fun K hK => ?_) AllReadyL.nil)
  refine Eq.mpr (if_pos (by kernel_rfl)) ?_
  refine wp_store_row 27 (.tmp 2) (.tmp 37) rfl (w.heap.size + 1) #[.int .i64 (128 + nd), .bool false, .int .i64 8, .int .u8 (cd % 256), .int .u8 (cd / 256), .int .u8 rg, .int .u8 (i 0), .int .u8 (i 1), .int .u8 (i 2), .int .u8 (i 3), .int .u8 (i 4)] rfl rfl _ _ HS8.out.fr info_frame rfl (one_frame (128 + nd) 8 false (dOf [cd % 256, cd / 256, rg, i 0, i 1, i 2, i 3, i 4])) ?_
  have HF9 := Lib.hid (HS8.out.fr.row (128 + nd) 8 false (dOf [cd % 256, cd / 256, rg, i 0, i 1, i 2, i 3, i 4]))
  have HB9 := Lib.hid (below_setRow HS8.out.bel (show w.heap.size ≤ w.heap.size + 1 by omega) #[.int .i64 (128 + nd), .bool false, .int .i64 8, .int .u8 (cd % 256), .int .u8 (cd / 256), .int .u8 rg, .int .u8 (i 0), .int .u8 (i 1), .int .u8 (i 2), .int .u8 (i 3), .int .u8 (i 4)])
  have HE9 := Lib.hid (show (w8.setRow (w.heap.size + 1) #[.int .i64 (128 + nd), .bool false, .int .i64 8, .int .u8 (cd % 256), .int .u8 (cd / 256), .int .u8 rg, .int .u8 (i 0), .int .u8 (i 1), .int .u8 (i 2), .int .u8 (i 3), .int .u8 (i 4)]).cell? ⟨w.heap.size, 0, none⟩ = some (.int .i64 nd) from (World.cell?_of_block (a := ⟨w.heap.size, 0, none⟩) (setRow_other w8 (w.heap.size + 1) w.heap.size #[.int .i64 (128 + nd), .bool false, .int .i64 8, .int .u8 (cd % 256), .int .u8 (cd / 256), .int .u8 rg, .int .u8 (i 0), .int .u8 (i 1), .int .u8 (i 2), .int .u8 (i 3), .int .u8 (i 4)] (by omega))).trans HS8.out.em.cells.1)
  refine hK.out _ _ ?_ (fun hHeld => ?_)
  · (try dsimp only); exact HE9.out
  clear hK K
  refine wpAnyL_ready (rs := [9]) (by kernel_rfl) (by simp) ?_
  refine AllReadyL.last rfl (fun K hK => ?_)
  go_simp
  refine hK.out _ _ ?_
  clear hK K
  refine wpAnyL_done (by kernel_rfl) ?_ _
  clear hHeld
  go_simp
  go_wp2_with fail
  exact bodyPost_ret (results_cell_tmp_row rfl _ _ (w.heap.size + 1) _ _ _ _ rfl HF9.out Try.underlying27 rfl info_frame) rfl ⟨rfl, HB9.out⟩
set_option maxRecDepth 100000 in
theorem renc_n1 (nd cd rg : Int) (i : Nat → Int) (w : World) (h : nd < 1) : Calls Try.prog 7 #[.agg #[.int .i64 nd, .int .i64 cd, .int .u8 rg, .int .u8 (i 0), .int .u8 (i 1), .int .u8 (i 2), .int .u8 (i 3), .int .u8 (i 4)]] w fun e w' => e = .returned (.tuple #[.agg #[.int .i64 0, .bool false, .int .i64 0, .int .u8 0, .int .u8 0, .int .u8 0, .int .u8 0, .int .u8 0, .int .u8 0, .int .u8 0, .int .u8 0], .int .i64 3]) ∧ Below w.heap.size w w' := by
  have HS := Lib.hid (enS_start (w := w) (nd := nd) (cd := cd) (rg := rg) (i := i))
  obtain ⟨c0, c1, c2, c3, c4, c5, c6, c7⟩ := HS.out.em.cells
  go_enter Try.func7, Try.ntmps7
  go_wp2_with (refine wpList_store_row rfl _ (.tmp 2) (.tmp 24) rfl (w.heap.size + 1) _ rfl rfl _ _ HS.out.fr info_frame rfl (one_frame 0 0 false (fun _ => 0)) ?_)
  all_goals exact bodyPost_ret (results_cell_tmp_row rfl _ _ (w.heap.size + 1) _ _ _ _ rfl (HS.out.fr.row 0 0 false (fun _ => 0)) Try.underlying27 rfl info_frame) rfl ⟨rfl, below_setRow HS.out.bel (by omega) _⟩
set_option maxRecDepth 100000 in
theorem renc_n2 (nd cd rg : Int) (i : Nat → Int) (w : World) (h0 : ¬ nd < 1) (h : 127 < nd) : Calls Try.prog 7 #[.agg #[.int .i64 nd, .int .i64 cd, .int .u8 rg, .int .u8 (i 0), .int .u8 (i 1), .int .u8 (i 2), .int .u8 (i 3), .int .u8 (i 4)]] w fun e w' => e = .returned (.tuple #[.agg #[.int .i64 0, .bool false, .int .i64 0, .int .u8 0, .int .u8 0, .int .u8 0, .int .u8 0, .int .u8 0, .int .u8 0, .int .u8 0, .int .u8 0], .int .i64 3]) ∧ Below w.heap.size w w' := by
  have HS := Lib.hid (enS_start (w := w) (nd := nd) (cd := cd) (rg := rg) (i := i))
  obtain ⟨c0, c1, c2, c3, c4, c5, c6, c7⟩ := HS.out.em.cells
  go_enter Try.func7, Try.ntmps7
  go_wp2_with (refine wpList_store_row rfl _ (.tmp 2) (.tmp 24) rfl (w.heap.size + 1) _ rfl rfl _ _ HS.out.fr info_frame rfl (one_frame 0 0 false (fun _ => 0)) ?_)
  all_goals exact bodyPost_ret (results_cell_tmp_row rfl _ _ (w.heap.size + 1) _ _ _ _ rfl (HS.out.fr.row 0 0 false (fun _ => 0)) Try.underlying27 rfl info_frame) rfl ⟨rfl, below_setRow HS.out.bel (by omega) _⟩
set_option maxRecDepth 100000 in
theorem renc_c1 (nd cd rg : Int) (i : Nat → Int) (w : World) (h0 : ¬ nd < 1) (h : ¬ 127 < nd) (h2 : cd < 0) : Calls Try.prog 7 #[.agg #[.int .i64 nd, .int .i64 cd, .int .u8 rg, .int .u8 (i 0), .int .u8 (i 1), .int .u8 (i 2), .int .u8 (i 3), .int .u8 (i 4)]] w fun e w' => e = .returned (.tuple #[.agg #[.int .i64 0, .bool false, .int .i64 0, .int .u8 0, .int .u8 0, .int .u8 0, .int .u8 0, .int .u8 0, .int .u8 0, .int .u8 0, .int .u8 0], .int .i64 3]) ∧ Below w.heap.size w w' := by
  have HS := Lib.hid (enS_start (w := w) (nd := nd) (cd := cd) (rg := rg) (i := i))
  obtain ⟨c0, c1, c2, c3, c4, c5, c6, c7⟩ := HS.out.em.cells
  go_enter Try.func7, Try.ntmps7
  go_wp2_with (refine wpList_store_row rfl _ (.tmp 2) (.tmp 24) rfl (w.heap.size + 1) _ rfl rfl _ _ HS.out.fr info_frame rfl (one_frame 0 0 false (fun _ => 0)) ?_)
  all_goals exact bodyPost_ret (results_cell_tmp_row rfl _ _ (w.heap.size + 1) _ _ _ _ rfl (HS.out.fr.row 0 0 false (fun _ => 0)) Try.underlying27 rfl info_frame) rfl ⟨rfl, below_setRow HS.out.bel (by omega) _⟩
set_option maxRecDepth 100000 in
theorem renc_c2 (nd cd rg : Int) (i : Nat → Int) (w : World) (h0 : ¬ nd < 1) (h : ¬ 127 < nd) (h2 : ¬ cd < 0) (h3 : 65535 < cd) : Calls Try.prog 7 #[.agg #[.int .i64 nd, .int .i64 cd, .int .u8 rg, .int .u8 (i 0), .int .u8 (i 1), .int .u8 (i 2), .int .u8 (i 3), .int .u8 (i 4)]] w fun e w' => e = .returned (.tuple #[.agg #[.int .i64 0, .bool false, .int .i64 0, .int .u8 0, .int .u8 0, .int .u8 0, .int .u8 0, .int .u8 0, .int .u8 0, .int .u8 0, .int .u8 0], .int .i64 3]) ∧ Below w.heap.size w w' := by
  have HS := Lib.hid (enS_start (w := w) (nd := nd) (cd := cd) (rg := rg) (i := i))
  obtain ⟨c0, c1, c2, c3, c4, c5, c6, c7⟩ := HS.out.em.cells
  go_enter Try.func7, Try.ntmps7
  go_wp2_with (refine wpList_store_row rfl _ (.tmp 2) (.tmp 24) rfl (w.heap.size + 1) _ rfl rfl _ _ HS.out.fr info_frame rfl (one_frame 0 0 false (fun _ => 0)) ?_)
  all_goals exact bodyPost_ret (results_cell_tmp_row rfl _ _ (w.heap.size + 1) _ _ _ _ rfl (HS.out.fr.row 0 0 false (fun _ => 0)) Try.underlying27 rfl info_frame) rfl ⟨rfl, below_setRow HS.out.bel (by omega) _⟩
/-- What stands in the frame while the bytes are laid. -/
def fD (cd rg : Int) (i : Nat → Int) (k : Nat) (j : Nat) : Int := if j = 0 then cd % 256 else if j = 1 then cd / 256 else if j = 2 then rg else if j < 3 + k then i (j - 3) else 0
theorem fD_step (cd rg : Int) (i : Nat → Int) (k : Nat) (hk : k < 5) : ∀ j, j < 8 → (if j = k + 3 then i k else fD cd rg i k j) = fD cd rg i (k + 1) j := by
  intro j hj
  by_cases h : j = k + 3
  · subst h
    unfold fD
    rw [if_pos rfl, if_neg (by omega), if_neg (by omega), if_neg (by omega), if_pos (by omega), show k + 3 - 3 = k by omega]
  · rw [if_neg h]
    unfold fD
    by_cases h0 : j < 3 + k
    · simp only [h0, show j < 3 + (k + 1) by omega]
    · simp only [h0, show ¬ j < 3 + (k + 1) by omega]
theorem fD_end (cd rg : Int) (i : Nat → Int) : ∀ j, j < 8 → fD cd rg i 5 j = dOf [cd % 256, cd / 256, rg, i 0, i 1, i 2, i 3, i 4] j := by
  intro j hj
  match j, hj with
  | 0, _ => rfl
  | 1, _ => rfl
  | 2, _ => rfl
  | 3, _ => rfl
  | 4, _ => rfl
  | 5, _ => rfl
  | 6, _ => rfl
  | 7, _ => rfl
set_option maxRecDepth 100000 in
set_option maxHeartbeats 2000000 in
theorem renc_yes (nd cd rg : Int) (i : Nat → Int) (w : World) (hn : isNI nd = true) (hc : isCd cd = true) (hr0 : 0 ≤ rg) (hr1 : rg ≤ 255) (hi : ∀ k, k < 5 → 0 ≤ i k ∧ i k ≤ 255) : Calls Try.prog 7 #[.agg #[.int .i64 nd, .int .i64 cd, .int .u8 rg, .int .u8 (i 0), .int .u8 (i 1), .int .u8 (i 2), .int .u8 (i 3), .int .u8 (i 4)]] w fun e w' => e = .returned (.tuple #[.agg #[.int .i64 (128 + nd), .bool false, .int .i64 8, .int .u8 (cd % 256), .int .u8 (cd / 256), .int .u8 rg, .int .u8 (i 0), .int .u8 (i 1), .int .u8 (i 2), .int .u8 (i 3), .int .u8 (i 4)], .int .i64 0]) ∧ Below w.heap.size w w' := by
  have HS := Lib.hid (enS_start (w := w) (nd := nd) (cd := cd) (rg := rg) (i := i))
  obtain ⟨hn0, hn1⟩ := isN_in hn
  obtain ⟨hc0, hc1⟩ := isC_in hc
  have g1 : ¬ nd < 1 := by omega
  have g2 : ¬ 127 < nd := by omega
  have g3 : ¬ cd < 0 := by omega
  have g4 : ¬ 65535 < cd := by omega
  have e1 : IntKind.i64.wrap (128 + nd) = 128 + nd := IntWalk.i64_in _ (by omega)
  have m1 : cd.tmod 256 = cd % 256 := Int.tmod_eq_emod_of_nonneg hc0
  have m2 : cd.tdiv 256 = cd / 256 := Int.tdiv_eq_ediv_of_nonneg hc0
  have e2 : IntKind.i64.wrap (cd.tmod 256) = cd % 256 := by rw [m1]; exact IntWalk.i64_in _ (by omega)
  have e3 : IntKind.i64.wrap (cd.tdiv 256) = cd / 256 := by rw [m2]; exact IntWalk.i64_in _ (by omega)
  have e4 : IntKind.u8.wrap (cd % 256) = cd % 256 := IntWalk.u8_in _ ⟨by omega, by omega⟩
  have e5 : IntKind.u8.wrap (cd / 256) = cd / 256 := IntWalk.u8_in _ ⟨by omega, by omega⟩
  have HI := Lib.hid hi
  clear hn hc hi hc0 hc1
  obtain ⟨c0, c1, c2, c3, c4, c5, c6, c7⟩ := HS.out.em.cells
  go_enter Try.func7, Try.ntmps7
  go_upto_region 7 with fail
  have HX3 := Lib.hid (show FrAt (((w.alloc (.cells #[.int .i64 nd, .int .i64 cd, .int .u8 rg, .int .u8 (i 0), .int .u8 (i 1), .int .u8 (i 2), .int .u8 (i 3), .int .u8 (i 4)] 24)).alloc (.cells #[.int .i64 0, .bool false, .int .i64 0, .int .u8 0, .int .u8 0, .int .u8 0, .int .u8 0, .int .u8 0, .int .u8 0, .int .u8 0, .int .u8 0] 27)).alloc (.cells #[.int .i64 (128 + nd), .bool false, .int .i64 8, .int .u8 (cd % 256), .int .u8 (cd / 256), .int .u8 rg, .int .u8 0, .int .u8 0, .int .u8 0, .int .u8 0, .int .u8 0] 27)) (w.heap.size + 1 + 1) (128 + nd) false 8 (fD cd rg i 0) from by
    have := heap_alloc_new ((w.alloc (.cells #[.int .i64 nd, .int .i64 cd, .int .u8 rg, .int .u8 (i 0), .int .u8 (i 1), .int .u8 (i 2), .int .u8 (i 3), .int .u8 (i 4)] 24)).alloc (.cells #[.int .i64 0, .bool false, .int .i64 0, .int .u8 0, .int .u8 0, .int .u8 0, .int .u8 0, .int .u8 0, .int .u8 0, .int .u8 0, .int .u8 0] 27)) (.cells #[.int .i64 (128 + nd), .bool false, .int .i64 8, .int .u8 (cd % 256), .int .u8 (cd / 256), .int .u8 rg, .int .u8 0, .int .u8 0, .int .u8 0, .int .u8 0, .int .u8 0] 27)
    have hz : ((w.alloc (.cells #[.int .i64 nd, .int .i64 cd, .int .u8 rg, .int .u8 (i 0), .int .u8 (i 1), .int .u8 (i 2), .int .u8 (i 3), .int .u8 (i 4)] 24)).alloc (.cells #[.int .i64 0, .bool false, .int .i64 0, .int .u8 0, .int .u8 0, .int .u8 0, .int .u8 0, .int .u8 0, .int .u8 0, .int .u8 0, .int .u8 0] 27)).heap.size = w.heap.size + 1 + 1 := by simp
    rw [hz] at this
    exact this)
  have HS3 := Lib.hid (HS.out.below ((Below.refl _ _).alloc (Nat.le_refl _) _ : Below ((w.alloc (.cells #[.int .i64 nd, .int .i64 cd, .int .u8 rg, .int .u8 (i 0), .int .u8 (i 1), .int .u8 (i 2), .int .u8 (i 3), .int .u8 (i 4)] 24)).alloc (.cells #[.int .i64 0, .bool false, .int .i64 0, .int .u8 0, .int .u8 0, .int .u8 0, .int .u8 0, .int .u8 0, .int .u8 0, .int .u8 0, .int .u8 0] 27)).heap.size ((w.alloc (.cells #[.int .i64 nd, .int .i64 cd, .int .u8 rg, .int .u8 (i 0), .int .u8 (i 1), .int .u8 (i 2), .int .u8 (i 3), .int .u8 (i 4)] 24)).alloc (.cells #[.int .i64 0, .bool false, .int .i64 0, .int .u8 0, .int .u8 0, .int .u8 0, .int .u8 0, .int .u8 0, .int .u8 0, .int .u8 0, .int .u8 0] 27)) (((w.alloc (.cells #[.int .i64 nd, .int .i64 cd, .int .u8 rg, .int .u8 (i 0), .int .u8 (i 1), .int .u8 (i 2), .int .u8 (i 3), .int .u8 (i 4)] 24)).alloc (.cells #[.int .i64 0, .bool false, .int .i64 0, .int .u8 0, .int .u8 0, .int .u8 0, .int .u8 0, .int .u8 0, .int .u8 0, .int .u8 0, .int .u8 0] 27)).alloc (.cells #[.int .i64 (128 + nd), .bool false, .int .i64 8, .int .u8 (cd % 256), .int .u8 (cd / 256), .int .u8 rg, .int .u8 0, .int .u8 0, .int .u8 0, .int .u8 0, .int .u8 0] 27))))
  clear c0 c1 c2 c3 c4 c5 c6 c7 HS e1 m1 m2 e2 e3 e4 e5 g1 g2 g3 g4
  generalize ((w.alloc (.cells #[.int .i64 nd, .int .i64 cd, .int .u8 rg, .int .u8 (i 0), .int .u8 (i 1), .int .u8 (i 2), .int .u8 (i 3), .int .u8 (i 4)] 24)).alloc (.cells #[.int .i64 0, .bool false, .int .i64 0, .int .u8 0, .int .u8 0, .int .u8 0, .int .u8 0, .int .u8 0, .int .u8 0, .int .u8 0, .int .u8 0] 27)).alloc (.cells #[.int .i64 (128 + nd), .bool false, .int .i64 8, .int .u8 (cd % 256), .int .u8 (cd / 256), .int .u8 rg, .int .u8 0, .int .u8 0, .int .u8 0, .int .u8 0, .int .u8 0] 27) = w3 at *
  obtain ⟨gf, hgf⟩ : ∃ gf, w.heap.size + 1 + 1 = gf := ⟨_, rfl⟩
  rw [hgf] at HX3 ⊢
  have HGF := Lib.hid hgf
  clear hgf
  go_wp2_with fail
  go_loopw [5] (fun s wr => ∃ k : Nat, k ≤ 5 ∧ s = .int .i64 k ∧ Hid (EnS w nd cd rg i wr) ∧ Hid (FrAt wr gf (128 + nd) false 8 (fD cd rg i k))) (fun s _ => 5 - (intOf s).toNat)
  case atStart => exact ⟨0, by omega, rfl, HS3, HX3⟩
  case round =>
    clear HS3 HX3
    obtain ⟨k, hk, rfl, HS, HX⟩ := hrel
    by_cases hlt : k < 5
    · have hltI : (k : Int) < 5 := by omega
      have e6 : IntKind.i64.wrap (3 + (k : Int)) = ((3 + k : Nat) : Int) := by rw [show 3 + (k : Int) = ((3 + k : Nat) : Int) by omega]; exact IntWalk.i64_in _ (by omega)
      have d0 := HS.out.em.info hlt
      have d1 := HX.out.byte (show 3 + k < 8 by omega)
      have d2 := HX.out.frozen (3 + (3 + k))
      have hk8 : 3 + k < 8 := by omega
      have HX2 := Lib.hid (show FrAt (wr.setCell ⟨gf, 3 + (3 + k), none⟩ (.int .u8 (i k))) gf (128 + nd) false 8 (fD cd rg i (k + 1)) from (HX.out.set (show 3 + k < 8 by omega) (i k)).congr (fun j hj => by rw [show 3 + k = k + 3 by omega]; exact fD_step cd rg i k hlt j hj))
      have HS2 := Lib.hid (show EnS w nd cd rg i (wr.setCell ⟨gf, 3 + (3 + k), none⟩ (.int .u8 (i k))) from ⟨(Below.heap_setCell wr ⟨gf, 3 + (3 + k), none⟩ (.int .u8 (i k)) w.heap.size (by have := HGF.out; show w.heap.size ≠ gf; omega)).trans HS.out.em, (Below.heap_setCell wr ⟨gf, 3 + (3 + k), none⟩ (.int .u8 (i k)) (w.heap.size + 1) (by have := HGF.out; show w.heap.size + 1 ≠ gf; omega)).trans HS.out.fr, HS.out.bel.setCell (p := ⟨gf, 3 + (3 + k), none⟩) (by have := HGF.out; show w.heap.size ≤ gf; omega) _⟩)
      go_wp2_with fail
      go_roundw
      case rel => exact ⟨k + 1, by omega, by go_num, HS2, HX2⟩
      case measure => simp [intOf]; omega
    · obtain rfl : k = 5 := by omega
      have HX5 := Lib.hid (HX.out.congr (fD_end cd rg i))
      clear HX
      go_wp2_with (first
        | (refine wpList_load_row rfl _ (.tmp 4) rfl gf rfl _ _ _ _ HX5.out Try.underlying27 rfl info_frame ?_)
        | (refine wpList_store_row rfl _ (.tmp 2) (.tmp 57) rfl (w.heap.size + 1) _ rfl rfl _ _ HS.out.fr info_frame rfl (one_frame (128 + nd) 8 false (dOf [cd % 256, cd / 256, rg, i 0, i 1, i 2, i 3, i 4])) ?_))
      exact bodyPost_ret (results_cell_tmp_row rfl _ _ (w.heap.size + 1) _ _ _ _ rfl (HS.out.fr.row (128 + nd) 8 false (dOf [cd % 256, cd / 256, rg, i 0, i 1, i 2, i 3, i 4])) Try.underlying27 rfl info_frame) rfl ⟨rfl, below_setRow HS.out.bel (by omega) _⟩
/-- What an emergency's frame is, or that there is none. -/
def emOk (nd cd : Int) : Bool := isNI nd && isCd cd
end Go.Proofs.Ytncnlbokipieaaa
