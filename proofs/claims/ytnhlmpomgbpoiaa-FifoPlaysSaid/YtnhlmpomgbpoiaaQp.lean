/- The document's own Drop. -/
import Derived.Test.YtnhlmpomgbpoiaaQo
namespace Go.Proofs.Ytnhlmpomgbpoiaa
open Go.RowKit

/-- What the document's Drop answers. -/
def DDrop (w : World) (n : Nat) (lim lost : Int) (L : List Int) (e : Ending) (w' : World) : Prop := ∃ A c, e = .returned (.tuple #[.agg #[.slice A L.length c, .int .i64 lim, .int .i64 lost], .int .i64 ((n : Int) - (L.length : Int))]) ∧ Nums w' w'.heap.size A L.length c L ∧ Below w.heap.size w w' ∧ ∀ b, blk A = some b → w.heap.size ≤ b
/-- Between two rounds of Drop. -/
def DdR (w : World) (Ar : Option Addr) (n cr : Nat) (lim lost k : Int) (V : List Int) (lv i : Value) (wr : World) : Prop :=
  ∃ (j : Nat) (A : Option Addr) (c : Nat), j ≤ n ∧ i = .int .i64 j ∧ lv = .slice A (dropL k (V.take j)).length c ∧ DqAt wr w.heap.size Ar n cr lim lost ∧ DqAt wr (w.heap.size + 1) none 0 0 0 0 ∧ Qs wr (w.heap.size + 1 + 1) 3 A (dropL k (V.take j)).length c (ints (dropL k (V.take j))) ∧ Below w.heap.size w wr ∧ w.heap.size + 1 + 1 ≤ wr.heap.size
theorem dropL_snoc (k : Int) (V : List Int) (j : Nat) (hj : j < V.length) : dropL k (V.take (j + 1)) = dropL k (V.take j) ++ (if ((V.getD j 0).tmod k == 0) = true then [] else [V.getD j 0]) := by
  rw [take_succ_getD hj]
  simp only [dropL, List.filter_append]
  congr 1
  generalize V.getD j 0 = v
  by_cases h : (v.tmod k == 0) = true
  · rw [if_pos h]; simp only [List.filter, h]; rfl
  · have h' : (v.tmod k == 0) = false := by simpa using h
    rw [if_neg h]; simp only [List.filter, h']; rfl

set_option maxHeartbeats 2000000 in
theorem ddrop_any (w : World) (Ar : Option Addr) (n cr : Nat) (lim lost k : Int) (V : List Int) (h : Nums w w.heap.size Ar n cr V) (hk : 1 ≤ k ∧ k ≤ 4) (hn : n ≤ 65536) :
    Calls Try.prog 15 #[.agg #[.slice Ar n cr, .int .i64 lim, .int .i64 lost], .int .i64 k] w (DDrop w n lim lost (dropL k V)) := by
  have hb0 : Below w.heap.size w (((w.alloc (.cells #[.slice Ar n cr, .int .i64 lim, .int .i64 lost] 27)).alloc (.cells #[.slice none 0 0, .int .i64 0, .int .i64 0] 27)).alloc (.cells #[] 3)) := (((Below.refl _ _).alloc (Nat.le_refl _) _).alloc (by simp) _).alloc (by simp; omega) _
  have h1 := heap_alloc2_old w (.cells #[.slice Ar n cr, .int .i64 lim, .int .i64 lost] 27) (.cells #[.slice none 0 0, .int .i64 0, .int .i64 0] 27)
  have h2 := heap_alloc2_new w (.cells #[.slice Ar n cr, .int .i64 lim, .int .i64 lost] 27) (.cells #[.slice none 0 0, .int .i64 0, .int .i64 0] 27)
  have h3 := Qs.made ((w.alloc (.cells #[.slice Ar n cr, .int .i64 lim, .int .i64 lost] 27)).alloc (.cells #[.slice none 0 0, .int .i64 0, .int .i64 0] 27)) (w.heap.size + 1 + 1) 3 (by simp)
  simp only [World.size_alloc] at h3
  have hst : DdR w Ar n cr lim lost k V (.slice (some ⟨w.heap.size + 1 + 1, 0, none⟩) 0 0) (.int .i64 0) (((w.alloc (.cells #[.slice Ar n cr, .int .i64 lim, .int .i64 lost] 27)).alloc (.cells #[.slice none 0 0, .int .i64 0, .int .i64 0] 27)).alloc (.cells #[] 3)) := by
    refine ⟨0, _, _, Nat.zero_le _, rfl, rfl, ?_, ?_, by simpa [dropL] using h3, hb0, by simp⟩
    · exact (Below.heap_alloc _ _ _ (by simp; omega)).trans h1
    · exact (Below.heap_alloc _ _ _ (by simp)).trans h2
  have HST := Lib.hid hst
  have HV := Lib.hid h
  have hvl := h.len
  have hcr := h.cap
  have hmr := h.max
  simp only [maxLen] at hmr
  have hk0 : (k == 0) = false := by simp; omega
  obtain ⟨hk1, hk2⟩ := hk
  have HVL := Lib.hid hvl
  clear hb0 h1 h2 h3 hst h hvl
  go_enter Try.func15, Try.ntmps15
  go_wp2_with fail
  go_loopw [6, 7] (DdR w Ar n cr lim lost k V) (fun _ i _ => n - (intOf i).toNat)
  case atStart => exact HST.out
  case round =>
    obtain ⟨j, A, c, hj, rfl, rfl, hdq, hdr, hq, hbw, hsz⟩ := hrel
    obtain ⟨d0, d1, d2⟩ := hdq.cells
    have f0 := hdq.frozen 0
    have hqm := hq.max
    have hqc := hq.cap
    simp only [maxLen] at hqm
    have hll : (dropL k (V.take j)).length ≤ j := Nat.le_trans (dropL_len _ _) (by rw [List.length_take]; omega)
    by_cases hlt : j < n
    · obtain ⟨b, off, rfl, hbb, hcl⟩ := HV.out.cells (by omega)
      have hcj := (hbw.cell (p := ⟨b, off + j, none⟩) hbb).trans (hcl j hlt)
      have hsn := dropL_snoc k V j (by have := HVL.out; omega)
      generalize V.getD j 0 = v at hcj hsn
      have hj0 : (0 : Int) ≤ (j : Int) := by omega
      have hj1 : (j : Int) < (n : Int) := by omega
      have HDQ := Lib.hid hdq
      have HDR := Lib.hid hdr
      have HQ := Lib.hid hq
      have HSN := Lib.hid hsn
      clear hdq hdr hq hsn hcl
      generalize dropL k (V.take j) = L at HQ HSN hll hqc
      by_cases hd : (v.tmod k == 0) = true
      · have hd' : (v.tmod k != 0) = false := by simp [bne, hd]
        have HD := Lib.hid hd
        clear hd
        go_wp2_with fail
        go_roundw
        case rel =>
          refine ⟨j + 1, A, c, by omega, by go_num, ?_, HDQ.out, HDR.out, ?_, hbw, hsz⟩
          · rw [HSN.out, if_pos HD.out, List.append_nil]
          · rw [HSN.out, if_pos HD.out, List.append_nil]; exact HQ.out
        case measure => simp [intOf]; omega
      · have hd' : (v.tmod k != 0) = true := by simp only [bne]; simpa using hd
        have HD := Lib.hid hd
        have hal : Below wr.heap.size wr (wr.alloc (.cells #[.int .i64 v] 3)) := (Below.refl _ _).alloc (Nat.le_refl _) _
        have HQ1 := Lib.hid (HQ.out.below hal)
        have HAL := Lib.hid hal
        clear hd hal
        go_wp2_with (refine wpList_append_q rfl (.tmp 25) (.tmp 31) 25 rfl Try.underlying25 info_el rfl rfl HQ1.out (by simp; omega) rfl (Src.lit wr 3 [.int .i64 v] (by simp [Value.oneCell']) 1 (Nat.le_refl _)) (by simp only [maxLen]; omega) (by omega) ?_; intro A6 c6 w6 hq6 hg6 hn6)
        have hb6 : Below (w.heap.size + 1 + 1) wr w6 := (HAL.out.mono hsz).grown hg6 (by simp; omega) (fun b' e => (HQ.out.lt e).1)
        have HQ6 := Lib.hid hq6
        have HB6 := Lib.hid hb6
        clear hq6 hg6 hn6 hb6
        go_roundw
        case rel =>
          refine ⟨j + 1, A6, c6, by omega, by go_num, ?_, HDQ.out.keep (HB6.out.block _ (by omega)), HDR.out.keep (HB6.out.block _ (by omega)), ?_, hbw.trans (HB6.out.mono (by omega)), Nat.le_trans hsz HB6.out.size⟩
          · rw [HSN.out, if_neg HD.out, List.length_append]; rfl
          · rw [HSN.out, if_neg HD.out, List.length_append]
            have e : ints (L ++ [v]) = ints L ++ List.take 1 [.int .i64 v] := by simp
            rw [e]; exact HQ6.out
        case measure => simp [intOf]; omega
    · obtain rfl : j = n := by omega
      have htk : V.take j = V := List.take_of_length_le (by have := HVL.out; omega)
      rw [htk] at hq hll hqc
      have hcc : dropL k (V.take j) = dropL k V := by rw [htk]
      rw [hcc]
      have hr1 := hdq.row A (dropL k V).length c
      have hd1 : DqAt (wr.setCell ⟨w.heap.size, 0, none⟩ (.slice A (dropL k V).length c)) (w.heap.size + 1) none 0 0 0 0 := hdr.keep (Below.heap_setCell _ _ _ _ (by simp))
      have hN := Nums.of_qs hq (fun x hx => HV.out.rng x (by have := List.mem_filter.1 hx; exact this.1))
      have hge : ∀ b, blk A = some b → w.heap.size + 1 + 1 ≤ b := fun b hb => (hq.lt hb).1
      have HR1 := Lib.hid hr1
      have HD1 := Lib.hid hd1
      have HN := Lib.hid hN
      have HGE := Lib.hid hge
      clear hr1 hd1 hN hge hdq hdr hq htk hcc
      go_wp2_with (first
        | (refine wpList_load_row rfl _ (.tmp 2) rfl w.heap.size rfl _ _ _ _ HR1.out Try.underlying27 rfl info_dq ?_)
        | (refine wpList_store_row rfl _ (.tmp 4) (.tmp 41) rfl (w.heap.size + 1) _ rfl rfl _ _ HD1.out info_dq rfl (one_dq _ _ _ _ _) ?_))
      have hrow := setRow_heap (wr.setCell ⟨w.heap.size, 0, none⟩ (.slice A (dropL k V).length c)) (w.heap.size + 1) _ #[.slice A (dropL k V).length c, .int .i64 lim, .int .i64 lost] _ (0, 0) HD1.out
      have hB := below_setRow (hbw.setCell (p := ⟨w.heap.size, 0, none⟩) (Nat.le_refl _) (.slice A (dropL k V).length c)) (show w.heap.size ≤ w.heap.size + 1 by omega) #[.slice A (dropL k V).length c, .int .i64 lim, .int .i64 lost]
      have hN' : Nums ((wr.setCell ⟨w.heap.size, 0, none⟩ (.slice A (dropL k V).length c)).setRow (w.heap.size + 1) #[.slice A (dropL k V).length c, .int .i64 lim, .int .i64 lost]) ((wr.setCell ⟨w.heap.size, 0, none⟩ (.slice A (dropL k V).length c)).setRow (w.heap.size + 1) #[.slice A (dropL k V).length c, .int .i64 lim, .int .i64 lost]).heap.size A (dropL k V).length c (dropL k V) := by
        have h := HN.out
        refine ⟨h.len, h.cap, h.max, h.rng, fun h0 => ?_⟩
        obtain ⟨b, off, rfl, hb, hc⟩ := h.cells h0
        have hg := HGE.out b rfl
        refine ⟨b, off, rfl, by simp; exact hb, fun j' hj' => ?_⟩
        refine (World.cell?_of_block (a := ⟨b, off + j', none⟩) (setRow_other _ (w.heap.size + 1) b _ (by omega))).trans ((World.cell?_setCell_far _ _ _ _ (by simp; omega)).trans (hc j' hj'))
      exact bodyPost_ret (results_cell_tmp_row (p := 4) (u := 5) rfl _ _ (w.heap.size + 1) _ _ _ _ rfl hrow Try.underlying27 rfl info_dq) rfl ⟨A, c, rfl, hN', hB, fun b hb => by have := HGE.out b hb; omega⟩
end Go.Proofs.Ytnhlmpomgbpoiaa
