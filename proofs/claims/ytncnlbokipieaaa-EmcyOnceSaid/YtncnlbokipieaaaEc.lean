/- emcy: the document's Decode. -/
import Derived.Test.YtncnlbokipieaaaEb
import Derived.Test.YtncnlbokipieaaaEBFrameE
namespace Go.Proofs.Ytncnlbokipieaaa
open Go.RowKit
set_option linter.unusedSimpArgs false
set_option linter.unusedVariables false

theorem EmAt.seti {w : World} {g : Nat} {nd cd rg : Int} {i : Nat → Int} (e : EmAt w g nd cd rg i) {k : Nat} (hk : k < 5) (v : Int) : EmAt (w.setCell ⟨g, 3 + k, none⟩ (.int .u8 v)) g nd cd rg (fun j => if j = k then v else i j) := by
  show (w.setCell ⟨g, 3 + k, none⟩ (.int .u8 v)).heap[g]? = _
  have this : (w.setCell ⟨g, 3 + k, none⟩ (.int .u8 v)).heap[g]? = _ := heap_setCell_same w g (3 + k) _ _ _ e
  rw [this]
  match k, hk with
  | 0, _ => rfl
  | 1, _ => rfl
  | 2, _ => rfl
  | 3, _ => rfl
  | 4, _ => rfl
theorem EmAt.congr {w : World} {g : Nat} {nd cd rg : Int} {i i' : Nat → Int} (h : EmAt w g nd cd rg i) (e : ∀ j, j < 5 → i j = i' j) : EmAt w g nd cd rg i' := by
  unfold EmAt at *
  rw [← e 0 (by omega), ← e 1 (by omega), ← e 2 (by omega), ← e 3 (by omega), ← e 4 (by omega)]
  exact h
set_option maxRecDepth 100000 in
set_option maxHeartbeats 4000000 in
theorem rdec_chk (id n : Int) (r : Bool) (d : Nat → Int) (w : World) (hk : ¬ chk id r n d = 0) :
    Calls Try.prog 9 #[.agg #[.int .i64 id, .bool r, .int .i64 n, .int .u8 (d 0), .int .u8 (d 1), .int .u8 (d 2), .int .u8 (d 3), .int .u8 (d 4), .int .u8 (d 5), .int .u8 (d 6), .int .u8 (d 7)]] w fun e w' => e = .returned (.tuple #[.agg #[.int .i64 0, .int .i64 0, .int .u8 0, .int .u8 0, .int .u8 0, .int .u8 0, .int .u8 0, .int .u8 0], .int .i64 4]) ∧ Below w.heap.size w w' := by
  have HS := Lib.hid (deS_start (w := w) (id := id) (r := r) (n := n) (d := d))
  have HC := Lib.hid (fun w => dcheck_any id n r d w)
  generalize chk id r n d = k at *
  obtain ⟨c0, c1, c2, c3, c4, c5, c6, c7, c8, c9, c10⟩ := HS.out.fr.cells
  go_enter Try.func9, Try.ntmps9
  go_wp2_with (first
    | (go_at_call 34; refine (HC.out _).mono ?_; rintro e w1 ⟨rfl, hb1⟩; have HS1 := Lib.hid (HS.out.below hb1); clear hb1 c0 c1 c2 c3 c4 c5 c6 c7 c8 c9 c10; obtain ⟨c0, c1, c2, c3, c4, c5, c6, c7, c8, c9, c10⟩ := HS1.out.fr.cells)
    | (refine wpList_store_row rfl _ (.tmp 2) (.tmp 28) rfl (w.heap.size + 1) _ rfl rfl _ _ HS1.out.em info_em rfl (one_em 0 0 0 (fun _ => 0)) ?_))
  all_goals exact bodyPost_ret (results_cell_tmp_row rfl _ _ (w.heap.size + 1) _ _ _ _ rfl (setRow_heap _ _ _ _ _ (0, 0) HS1.out.em) Try.underlying24 rfl info_em) rfl ⟨rfl, below_setRow HS1.out.bel (by omega) _⟩
set_option maxRecDepth 100000 in
set_option maxHeartbeats 4000000 in
theorem rdec_rtr (id n : Int) (r : Bool) (d : Nat → Int) (w : World) (hk : chk id r n d = 0) (hr : r = true) :
    Calls Try.prog 9 #[.agg #[.int .i64 id, .bool r, .int .i64 n, .int .u8 (d 0), .int .u8 (d 1), .int .u8 (d 2), .int .u8 (d 3), .int .u8 (d 4), .int .u8 (d 5), .int .u8 (d 6), .int .u8 (d 7)]] w fun e w' => e = .returned (.tuple #[.agg #[.int .i64 0, .int .i64 0, .int .u8 0, .int .u8 0, .int .u8 0, .int .u8 0, .int .u8 0, .int .u8 0], .int .i64 4]) ∧ Below w.heap.size w w' := by
  have HS := Lib.hid (deS_start (w := w) (id := id) (r := r) (n := n) (d := d))
  have HC := Lib.hid (fun w => dcheck_any id n r d w)
  rw [hk] at HC
  subst hr
  clear hk
  obtain ⟨c0, c1, c2, c3, c4, c5, c6, c7, c8, c9, c10⟩ := HS.out.fr.cells
  go_enter Try.func9, Try.ntmps9
  go_wp2_with (first
    | (go_at_call 34; refine (HC.out _).mono ?_; rintro e w1 ⟨rfl, hb1⟩; have HS1 := Lib.hid (HS.out.below hb1); clear hb1 c0 c1 c2 c3 c4 c5 c6 c7 c8 c9 c10; obtain ⟨c0, c1, c2, c3, c4, c5, c6, c7, c8, c9, c10⟩ := HS1.out.fr.cells)
    | (refine wpList_store_row rfl _ (.tmp 2) (.tmp 28) rfl (w.heap.size + 1) _ rfl rfl _ _ HS1.out.em info_em rfl (one_em 0 0 0 (fun _ => 0)) ?_))
  all_goals exact bodyPost_ret (results_cell_tmp_row rfl _ _ (w.heap.size + 1) _ _ _ _ rfl (setRow_heap _ _ _ _ _ (0, 0) HS1.out.em) Try.underlying24 rfl info_em) rfl ⟨rfl, below_setRow HS1.out.bel (by omega) _⟩
set_option maxRecDepth 100000 in
set_option maxHeartbeats 4000000 in
theorem rdec_len (id n : Int) (r : Bool) (d : Nat → Int) (w : World) (hk : chk id r n d = 0) (hr : r = false) (hn : ¬ n = 8) :
    Calls Try.prog 9 #[.agg #[.int .i64 id, .bool r, .int .i64 n, .int .u8 (d 0), .int .u8 (d 1), .int .u8 (d 2), .int .u8 (d 3), .int .u8 (d 4), .int .u8 (d 5), .int .u8 (d 6), .int .u8 (d 7)]] w fun e w' => e = .returned (.tuple #[.agg #[.int .i64 0, .int .i64 0, .int .u8 0, .int .u8 0, .int .u8 0, .int .u8 0, .int .u8 0, .int .u8 0], .int .i64 4]) ∧ Below w.heap.size w w' := by
  have HS := Lib.hid (deS_start (w := w) (id := id) (r := r) (n := n) (d := d))
  have HC := Lib.hid (fun w => dcheck_any id n r d w)
  rw [hk] at HC
  subst hr
  clear hk
  obtain ⟨c0, c1, c2, c3, c4, c5, c6, c7, c8, c9, c10⟩ := HS.out.fr.cells
  go_enter Try.func9, Try.ntmps9
  go_wp2_with (first
    | (go_at_call 34; refine (HC.out _).mono ?_; rintro e w1 ⟨rfl, hb1⟩; have HS1 := Lib.hid (HS.out.below hb1); clear hb1 c0 c1 c2 c3 c4 c5 c6 c7 c8 c9 c10; obtain ⟨c0, c1, c2, c3, c4, c5, c6, c7, c8, c9, c10⟩ := HS1.out.fr.cells)
    | (refine wpList_store_row rfl _ (.tmp 2) (.tmp 28) rfl (w.heap.size + 1) _ rfl rfl _ _ HS1.out.em info_em rfl (one_em 0 0 0 (fun _ => 0)) ?_))
  all_goals exact bodyPost_ret (results_cell_tmp_row rfl _ _ (w.heap.size + 1) _ _ _ _ rfl (setRow_heap _ _ _ _ _ (0, 0) HS1.out.em) Try.underlying24 rfl info_em) rfl ⟨rfl, below_setRow HS1.out.bel (by omega) _⟩
set_option maxRecDepth 100000 in
set_option maxHeartbeats 4000000 in
theorem rdec_low (id n : Int) (r : Bool) (d : Nat → Int) (w : World) (hk : chk id r n d = 0) (hr : r = false) (hn : n = 8) (hi : id < 129) :
    Calls Try.prog 9 #[.agg #[.int .i64 id, .bool r, .int .i64 n, .int .u8 (d 0), .int .u8 (d 1), .int .u8 (d 2), .int .u8 (d 3), .int .u8 (d 4), .int .u8 (d 5), .int .u8 (d 6), .int .u8 (d 7)]] w fun e w' => e = .returned (.tuple #[.agg #[.int .i64 0, .int .i64 0, .int .u8 0, .int .u8 0, .int .u8 0, .int .u8 0, .int .u8 0, .int .u8 0], .int .i64 4]) ∧ Below w.heap.size w w' := by
  have HS := Lib.hid (deS_start (w := w) (id := id) (r := r) (n := n) (d := d))
  have HC := Lib.hid (fun w => dcheck_any id n r d w)
  rw [hk] at HC
  subst hr hn
  clear hk
  obtain ⟨c0, c1, c2, c3, c4, c5, c6, c7, c8, c9, c10⟩ := HS.out.fr.cells
  go_enter Try.func9, Try.ntmps9
  go_wp2_with (first
    | (go_at_call 34; refine (HC.out _).mono ?_; rintro e w1 ⟨rfl, hb1⟩; have HS1 := Lib.hid (HS.out.below hb1); clear hb1 c0 c1 c2 c3 c4 c5 c6 c7 c8 c9 c10; obtain ⟨c0, c1, c2, c3, c4, c5, c6, c7, c8, c9, c10⟩ := HS1.out.fr.cells)
    | (refine wpList_store_row rfl _ (.tmp 2) (.tmp 28) rfl (w.heap.size + 1) _ rfl rfl _ _ HS1.out.em info_em rfl (one_em 0 0 0 (fun _ => 0)) ?_))
  all_goals exact bodyPost_ret (results_cell_tmp_row rfl _ _ (w.heap.size + 1) _ _ _ _ rfl (setRow_heap _ _ _ _ _ (0, 0) HS1.out.em) Try.underlying24 rfl info_em) rfl ⟨rfl, below_setRow HS1.out.bel (by omega) _⟩
set_option maxRecDepth 100000 in
set_option maxHeartbeats 4000000 in
theorem rdec_high (id n : Int) (r : Bool) (d : Nat → Int) (w : World) (hk : chk id r n d = 0) (hr : r = false) (hn : n = 8) (hi : ¬ id < 129) (hi2 : 255 < id) :
    Calls Try.prog 9 #[.agg #[.int .i64 id, .bool r, .int .i64 n, .int .u8 (d 0), .int .u8 (d 1), .int .u8 (d 2), .int .u8 (d 3), .int .u8 (d 4), .int .u8 (d 5), .int .u8 (d 6), .int .u8 (d 7)]] w fun e w' => e = .returned (.tuple #[.agg #[.int .i64 0, .int .i64 0, .int .u8 0, .int .u8 0, .int .u8 0, .int .u8 0, .int .u8 0, .int .u8 0], .int .i64 4]) ∧ Below w.heap.size w w' := by
  have HS := Lib.hid (deS_start (w := w) (id := id) (r := r) (n := n) (d := d))
  have HC := Lib.hid (fun w => dcheck_any id n r d w)
  rw [hk] at HC
  subst hr hn
  clear hk
  obtain ⟨c0, c1, c2, c3, c4, c5, c6, c7, c8, c9, c10⟩ := HS.out.fr.cells
  go_enter Try.func9, Try.ntmps9
  go_wp2_with (first
    | (go_at_call 34; refine (HC.out _).mono ?_; rintro e w1 ⟨rfl, hb1⟩; have HS1 := Lib.hid (HS.out.below hb1); clear hb1 c0 c1 c2 c3 c4 c5 c6 c7 c8 c9 c10; obtain ⟨c0, c1, c2, c3, c4, c5, c6, c7, c8, c9, c10⟩ := HS1.out.fr.cells)
    | (refine wpList_store_row rfl _ (.tmp 2) (.tmp 28) rfl (w.heap.size + 1) _ rfl rfl _ _ HS1.out.em info_em rfl (one_em 0 0 0 (fun _ => 0)) ?_))
  all_goals exact bodyPost_ret (results_cell_tmp_row rfl _ _ (w.heap.size + 1) _ _ _ _ rfl (setRow_heap _ _ _ _ _ (0, 0) HS1.out.em) Try.underlying24 rfl info_em) rfl ⟨rfl, below_setRow HS1.out.bel (by omega) _⟩
set_option maxRecDepth 100000 in
set_option maxHeartbeats 4000000 in
theorem rdec_yes (id n : Int) (r : Bool) (d : Nat → Int) (w : World) (hd : ∀ j, j < 8 → 0 ≤ d j ∧ d j ≤ 255) (hk : chk id r n d = 0) (hr : r = false) (hn : n = 8) (hi : ¬ id < 129) (hi2 : ¬ 255 < id) :
    Calls Try.prog 9 #[.agg #[.int .i64 id, .bool r, .int .i64 n, .int .u8 (d 0), .int .u8 (d 1), .int .u8 (d 2), .int .u8 (d 3), .int .u8 (d 4), .int .u8 (d 5), .int .u8 (d 6), .int .u8 (d 7)]] w fun e w' => e = .returned (.tuple #[.agg #[.int .i64 (id - 128), .int .i64 (d 0 + 256 * d 1), .int .u8 (d 2), .int .u8 (d 3), .int .u8 (d 4), .int .u8 (d 5), .int .u8 (d 6), .int .u8 (d 7)], .int .i64 0]) ∧ Below w.heap.size w w' := by
  have HS := Lib.hid (deS_start (w := w) (id := id) (r := r) (n := n) (d := d))
  have HC := Lib.hid (fun w => dcheck_any id n r d w)
  rw [hk] at HC
  subst hr hn
  have hd0 := hd 0 (by omega)
  have hd1 := hd 1 (by omega)
  have e1 : IntKind.i64.wrap (id - 128) = id - 128 := IntWalk.i64_in _ (by omega)
  have e2 : IntKind.i64.wrap (d 0) = d 0 := IntWalk.i64_in _ (by omega)
  have e3 : IntKind.i64.wrap (d 1) = d 1 := IntWalk.i64_in _ (by omega)
  have e4 : IntKind.i64.wrap (256 * d 1) = 256 * d 1 := IntWalk.i64_in _ (by omega)
  have e5 : IntKind.i64.wrap (d 0 + 256 * d 1) = d 0 + 256 * d 1 := IntWalk.i64_in _ (by omega)
  clear hk hd hd0 hd1
  obtain ⟨c0, c1, c2, c3, c4, c5, c6, c7, c8, c9, c10⟩ := HS.out.fr.cells
  go_enter Try.func9, Try.ntmps9
  go_upto_region 4 with (go_at_call 34; refine (HC.out _).mono ?_; rintro e w1 ⟨rfl, hb1⟩; have HS1 := Lib.hid (HS.out.below hb1); clear hb1 c0 c1 c2 c3 c4 c5 c6 c7 c8 c9 c10; obtain ⟨c0, c1, c2, c3, c4, c5, c6, c7, c8, c9, c10⟩ := HS1.out.fr.cells)
  have HX2 := Lib.hid (show EmAt (w1.alloc (.cells #[.int .i64 (id - 128), .int .i64 (d 0 + 256 * d 1), .int .u8 (d 2), .int .u8 0, .int .u8 0, .int .u8 0, .int .u8 0, .int .u8 0] 24)) w1.heap.size (id - 128) (d 0 + 256 * d 1) (d 2) (fun j => if j < 0 then d (j + 3) else 0) from (show EmAt (w1.alloc (.cells #[.int .i64 (id - 128), .int .i64 (d 0 + 256 * d 1), .int .u8 (d 2), .int .u8 0, .int .u8 0, .int .u8 0, .int .u8 0, .int .u8 0] 24)) w1.heap.size (id - 128) (d 0 + 256 * d 1) (d 2) (fun _ => 0) from heap_alloc_new w1 _).congr (fun j _ => by rw [if_neg (by omega)]))
  have HS2 := Lib.hid (HS1.out.below ((Below.refl _ _).alloc (Nat.le_refl _) _ : Below w1.heap.size w1 (w1.alloc (.cells #[.int .i64 (id - 128), .int .i64 (d 0 + 256 * d 1), .int .u8 (d 2), .int .u8 0, .int .u8 0, .int .u8 0, .int .u8 0, .int .u8 0] 24))))
  have HG := Lib.hid (show w.heap.size + 1 < w1.heap.size from HS1.out.lt)
  clear c0 c1 c2 c3 c4 c5 c6 c7 c8 c9 c10 HS HS1 HC
  generalize w1.alloc (.cells #[.int .i64 (id - 128), .int .i64 (d 0 + 256 * d 1), .int .u8 (d 2), .int .u8 0, .int .u8 0, .int .u8 0, .int .u8 0, .int .u8 0] 24) = w2 at *
  generalize w1.heap.size = gx at *
  go_wp2_with fail
  go_loopw [5] (fun s wr => ∃ k : Nat, k ≤ 5 ∧ s = .int .i64 k ∧ Hid (DeS w id false 8 d wr) ∧ Hid (EmAt wr gx (id - 128) (d 0 + 256 * d 1) (d 2) (fun j => if j < k then d (j + 3) else 0))) (fun s _ => 5 - (intOf s).toNat)
  case atStart => exact ⟨0, by omega, rfl, HS2, HX2⟩
  case round =>
    clear HS2 HX2
    obtain ⟨k, hk, rfl, HS, HX⟩ := hrel
    by_cases hlt : k < 5
    · have hltI : (k : Int) < 5 := by omega
      have e6 : IntKind.i64.wrap (3 + (k : Int)) = ((3 + k : Nat) : Int) := by rw [show 3 + (k : Int) = ((3 + k : Nat) : Int) by omega]; exact IntWalk.i64_in _ (by omega)
      have d0 := HS.out.fr.byte (show 3 + k < 8 by omega)
      have d1 := HX.out.info hlt
      have d2 := HX.out.frozen (3 + k)
      have hk8 : 3 + k < 8 := by omega
      have HX2 := Lib.hid (show EmAt (wr.setCell ⟨gx, 3 + k, none⟩ (.int .u8 (d (3 + k)))) gx (id - 128) (d 0 + 256 * d 1) (d 2) (fun j => if j < k + 1 then d (j + 3) else 0) from (HX.out.seti hlt (d (3 + k))).congr (fun j hj => by
        by_cases a : j = k
        · subst a; rw [if_pos rfl, if_pos (by omega), Nat.add_comm]
        · rw [if_neg a]
          by_cases b : j < k
          · rw [if_pos b, if_pos (by omega)]
          · rw [if_neg b, if_neg (by omega)]))
      have HS2 := Lib.hid (HS.out.setc HG.out (3 + k) (.int .u8 (d (3 + k))))
      go_wp2_with fail
      go_roundw
      case rel => exact ⟨k + 1, by omega, by go_num, HS2, HX2⟩
      case measure => simp [intOf]; omega
    · obtain rfl : k = 5 := by omega
      have HX5 := Lib.hid (HX.out.congr (i' := fun j => d (j + 3)) (fun j hj => by rw [if_pos hj]))
      clear HX
      go_wp2_with (first
        | (refine wpList_load_row rfl _ (.tmp 4) rfl gx rfl _ _ _ _ HX5.out Try.underlying24 rfl info_em ?_)
        | (refine wpList_store_row rfl _ (.tmp 2) (.tmp 58) rfl (w.heap.size + 1) _ rfl rfl _ _ HS.out.em info_em rfl (one_em (id - 128) (d 0 + 256 * d 1) (d 2) (fun j => d (j + 3))) ?_))
      exact bodyPost_ret (results_cell_tmp_row rfl _ _ (w.heap.size + 1) _ _ _ _ rfl (setRow_heap _ _ _ _ _ (0, 0) HS.out.em) Try.underlying24 rfl info_em) rfl ⟨rfl, below_setRow HS.out.bel (by omega) _⟩
theorem decF_chk {id n : Int} {r : Bool} {d : Nat → Int} (h : decF id r n = true) : chk id r n d = 0 ∧ r = false ∧ n = 8 ∧ 129 ≤ id ∧ id ≤ 255 := by
  have h1 : r = false ∧ n = 8 ∧ 129 ≤ id ∧ id ≤ 255 := by simpa [decF] using h
  obtain ⟨rfl, rfl, h2, h3⟩ := h1
  refine ⟨?_, rfl, rfl, h2, h3⟩
  unfold chk
  rw [if_neg (by omega), if_neg (by omega)]
  simp [eqD, cut, kOf]
/-- What a frame's emergency is. -/
def dN (id : Int) (r : Bool) (n : Int) : Int := if decF id r n = true then id - 128 else 0
def dC (id : Int) (r : Bool) (n : Int) (d : Nat → Int) : Int := if decF id r n = true then d 0 + 256 * d 1 else 0
def dR (id : Int) (r : Bool) (n : Int) (d : Nat → Int) : Int := if decF id r n = true then d 2 else 0
def dI (id : Int) (r : Bool) (n : Int) (d : Nat → Int) (j : Nat) : Int := if decF id r n = true then d (j + 3) else 0
def dE (id : Int) (r : Bool) (n : Int) : Int := if decF id r n = true then 0 else 4
theorem dec_any (id n : Int) (r : Bool) (d : Nat → Int) (w : World) (hd : ∀ j, j < 8 → 0 ≤ d j ∧ d j ≤ 255) : Calls Try.prog 8 #[.agg #[.int .i64 id, .bool r, .int .i64 n, .int .u8 (d 0), .int .u8 (d 1), .int .u8 (d 2), .int .u8 (d 3), .int .u8 (d 4), .int .u8 (d 5), .int .u8 (d 6), .int .u8 (d 7)]] w fun e w' => e = .returned (.tuple #[.agg #[.int .i64 (dN id r n), .int .i64 (dC id r n d), .int .u8 (dR id r n d), .int .u8 (dI id r n d 0), .int .u8 (dI id r n d 1), .int .u8 (dI id r n d 2), .int .u8 (dI id r n d 3), .int .u8 (dI id r n d 4)], .int .i64 (dE id r n)]) ∧ Below w.heap.size w w' := by
  unfold dN dC dR dI dE
  obtain ⟨k, hk, h⟩ := dec_split id r n
  rcases h with ⟨h1, h2⟩ | ⟨h1, h2, h3⟩ | ⟨h1, h2, h3, h4⟩
  · rw [h2]; simpa using dec_node id n k r d w hd hk h1
  · rw [h2]; simpa using dec_other id n k r d w hd hk h1 h3
  · rw [h2]
    have := dec_yes id n k r d w hd hk h1 h4
    rw [h3] at this
    simpa using this
theorem rdec_any (id n : Int) (r : Bool) (d : Nat → Int) (w : World) (hd : ∀ j, j < 8 → 0 ≤ d j ∧ d j ≤ 255) : Calls Try.prog 9 #[.agg #[.int .i64 id, .bool r, .int .i64 n, .int .u8 (d 0), .int .u8 (d 1), .int .u8 (d 2), .int .u8 (d 3), .int .u8 (d 4), .int .u8 (d 5), .int .u8 (d 6), .int .u8 (d 7)]] w fun e w' => e = .returned (.tuple #[.agg #[.int .i64 (dN id r n), .int .i64 (dC id r n d), .int .u8 (dR id r n d), .int .u8 (dI id r n d 0), .int .u8 (dI id r n d 1), .int .u8 (dI id r n d 2), .int .u8 (dI id r n d 3), .int .u8 (dI id r n d 4)], .int .i64 (dE id r n)]) ∧ Below w.heap.size w w' := by
  unfold dN dC dR dI dE
  cases hq : decF id r n with
  | true =>
    obtain ⟨h0, h1, h2, h3, h4⟩ := decF_chk (d := d) hq
    simpa using rdec_yes id n r d w hd h0 h1 h2 (by omega) (by omega)
  | false =>
    by_cases h0 : chk id r n d = 0
    · cases hr : r with
      | true => subst hr; simpa using rdec_rtr id n true d w h0 rfl
      | false =>
        subst hr
        by_cases hn : n = 8
        · by_cases h1 : id < 129
          · simpa using rdec_low id n false d w h0 rfl hn h1
          · by_cases h2 : 255 < id
            · simpa using rdec_high id n false d w h0 rfl hn h1 h2
            · exfalso
              rw [show decF id false n = true by unfold decF; exact decide_eq_true ⟨rfl, hn, by omega, by omega⟩] at hq
              cases hq
        · simpa using rdec_len id n false d w h0 rfl hn
    · simpa using rdec_chk id n r d w h0
end Go.Proofs.Ytncnlbokipieaaa
