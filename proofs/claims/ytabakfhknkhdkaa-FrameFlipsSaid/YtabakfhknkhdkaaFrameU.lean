/- What Flip answers. -/
import Derived.Test.YtabakfhknkhdkaaFrameT
import Derived.Deep.RegionLaw
namespace Go.Proofs.Ytabakfhknkhdkaa
open Go.RowKit

def flipL (l : List Int) : List Int := l.map fun x => 255 - x
theorem flipL_len (l : List Int) : (flipL l).length = l.length := by simp [flipL]
theorem flipL_range {l : List Int} (h : ∀ x ∈ l, 0 ≤ x ∧ x ≤ 255) : ∀ x ∈ flipL l, 0 ≤ x ∧ x ≤ 255 := by
  intro x hx
  simp only [flipL, List.mem_map] at hx
  obtain ⟨y, hy, rfl⟩ := hx
  have := h y hy
  omega
def FlipPost (l : List Int) (W : World) (e : Ending) (w' : World) : Prop := ∃ A c, e = .returned (.slice A l.length c) ∧ Byt w' w'.heap.size A l.length c (flipL l) ∧ Below W.heap.size W w'

theorem not_nat : ∀ n : Fin 256, 255 ^^^ n.val = 255 - n.val := by decide +kernel
theorem not_u8 (x : Int) (h0 : 0 ≤ x) (h1 : x ≤ 255) : bits .xor .u8 (if IntKind.u8.signed = true then -1 else IntKind.u8.max) x = 255 - x := by
  obtain ⟨n, rfl⟩ := Int.eq_ofNat_of_zero_le h0
  show bits .xor .u8 ((255 : Nat) : Int) (n : Int) = _
  rw [u8_xor_nat _ _ (by omega) (by omega), not_nat ⟨n, by omega⟩]
  simp only
  omega

theorem flip_any (w : World) (A : Option Addr) (n c : Nat) (l : List Int) (h : Byt w w.heap.size A n c l) (hn : n ≤ 140737488351232) : Calls Try.prog 26 #[.slice A n c] w (FlipPost l w) := by
  have hmk := make_row n (by omega)
  go_enter Try.func26, Try.ntmps26
  go_wp2_with fail
  go_loopw [11] (fun i wr => ∃ j : Nat, j ≤ n ∧ i = .int .i64 j ∧ wr.rowIs w.heap.size 5 n (upto (flipL l) j) ∧ Below w.heap.size w wr) (fun i _ => n - (intOf i).toNat)
  case atStart => exact ⟨0, Nat.zero_le _, rfl, upto_zero _, (Below.refl _ _).alloc (Nat.le_refl _) _⟩
  case round =>
    obtain ⟨j, hj, rfl, hrow, hbel⟩ := hrel
    by_cases hlt : j < n
    · obtain ⟨b, off, rfl, hb, hc⟩ := h.cells (by omega)
      have hrange := h.range j
      have hcj := hc j hlt
      have hget : (flipL l).getD j 0 = 255 - l.getD j 0 := getD_map (by rw [h.len]; exact hlt)
      generalize l.getD j 0 = q at hrange hcj hget
      have hcell : wr.cell? ⟨b, off + j, none⟩ = some (.int .u8 q) := (hbel.cell (p := ⟨b, off + j, none⟩) hb).trans hcj
      have hgc := hrow.cell hlt
      have hgf := hrow.frozen j
      have HG := Lib.hid hget
      have HC := Lib.hid hc
      have HH := Lib.hid h
      obtain ⟨hq0, hq1⟩ := hrange
      clear hcj hget hc h
      go_wp2
      go_roundw
      case rel => exact ⟨j + 1, by omega, by go_num, upto_step hrow (by rw [HG.out]; exact not_u8 q hq0 hq1), hbel.setCell (Nat.le_refl _) _⟩
      case measure => simp [intOf]; omega
    · obtain rfl : j = n := by omega
      have hl := h.len
      have hrow2 := upto_done hrow
      go_wp2
      go_ret
      subst hl
      exact ⟨_, _, rfl, Byt.of_row hrow2 (flipL_len l) (by simp only [maxLen]; omega) (flipL_range h.rng), hbel⟩


theorem step_fill {wr : World} {ops : Array Oper} {o : Oper} {a : Act} {K : Act → World → Prop} {Q : Exit → Act → World → Prop} {E : Prop} {g m c B : Nat} {id n : Int} {r : Bool} {d : Nat → Int} {A : Option Addr} {l : List Int} (hgd : o.guard = none) (s t : Operand)
    (ho : o.op = .call { callee := .builtin .copy, args := #[s, t], argTypes := #[25, 25] }) (hs : a.eval s = .slice (some ⟨g, 3, none⟩) 8 8) (ht : a.eval t = .slice A m c) (hB : Byt wr B A m c l) (h : FrAt wr g id r n d)
    (hK : ∀ w', FrAt w' g id r n (fun j => if j < m then l.getD j 0 else d j) → wr.grownBy w' (some g) → K (a.put o.dst (goInt ((min m 8 : Nat) : Int))) w') :
    if Region.wanted o (yielded ops a.tmps) = true then Oper.wp Try.prog o a wr K Q else E := by
  have hw : Region.wanted o (yielded ops a.tmps) = true := by simp [Region.wanted, hgd]
  rw [if_pos hw]
  by_cases hm : m = 0
  · subst hm
    have hrun := run_copy_none (P := Try.prog) wr 25 25 o.type 5 (some ⟨g, 3, none⟩) A 8 8 0 c Try.underlying25 info_byte (by simp)
    unfold Oper.wp
    simp [execOp, ho, resolve, invoke, builtin, hs, ht, hrun, Result.andThen]
    have := hK wr (h.congr fun j _ => by rw [if_neg (by omega)]) (World.grownBy.refl wr _)
    simp at this
    exact this
  · obtain ⟨b, off, rfl, hb, hcell⟩ := hB.cells (by omega)
    have hlen := hB.len
    have hl8 : ((l.take 8).map (Value.int .u8)).length = Nat.min m 8 := by simp [hlen, Nat.min_comm]
    have hrun := run_copy_cells (P := Try.prog) wr 25 25 o.type 5 g 3 8 8 ⟨b, off, none⟩ m c ((l.take 8).map (Value.int .u8)) Try.underlying25 info_byte hl8
      (fun j v hv => by
        have hj : j < Nat.min m 8 := by rw [← hl8]; exact (List.getElem?_eq_some_iff.1 hv).1
        have hj1 : j < m := Nat.lt_of_lt_of_le hj (Nat.min_le_left _ _)
        have hj2 : j < 8 := Nat.lt_of_lt_of_le hj (Nat.min_le_right _ _)
        have : (⟨b, off, none⟩ : Addr).add j = ⟨b, off + j, none⟩ := by simp [Addr.add]
        rw [this, hcell j hj1, ← hv]
        simp [hj2, List.getElem?_eq_getElem (show j < l.length by omega), List.getD])
      (fun j hj => by rw [h.byte (i := j) (by rw [hl8] at hj; exact Nat.lt_of_lt_of_le hj (Nat.min_le_right _ _))]; rfl) (fun j _ => h.frozen _)
      (fun v hv => by simp only [List.mem_map] at hv; obtain ⟨x, _, rfl⟩ := hv; rfl)
    have hf := (h.sets (l.take 8) 0 (by simp; omega)).congr (d' := fun j => if j < m then l.getD j 0 else d j) fun j hj => by
      simp only [List.length_take, hlen]
      by_cases h1 : j < m
      · rw [if_pos (by omega), if_pos h1]
        simp [List.getD, hj]
      · rw [if_neg (by omega), if_neg h1]
    have hg := setCells_grown ((l.take 8).map (Value.int .u8)) g 3 (World.grownBy.refl wr (some g))
    rw [hl8] at hrun
    have e : Nat.min m 8 = min m 8 := rfl
    rw [e] at hrun
    rw [Nat.add_zero] at hf
    generalize (l.take 8).map (Value.int .u8) = cs at hrun hf hg
    unfold Oper.wp
    simp [execOp, ho, resolve, invoke, builtin, hs, ht, hrun, Result.andThen]
    exact hK _ hf hg

/-- A frame's bytes, where some bytes, turned, were laid over the first ones. -/
def flp (lb : List Int) (d : Nat → Int) (j : Nat) : Int := if j < lb.length then (flipL lb).getD j 0 else d j
theorem bOf_len (id n : Int) (r : Bool) (d : Nat → Int) : (bOf id r n d).length ≤ 8 := by
  unfold bOf
  split
  · rename_i h
    have := chk_len h.2
    rw [bL_len]; omega
  · simp
set_option maxHeartbeats 1000000 in
theorem fflip_any (id n : Int) (r : Bool) (d : Nat → Int) (w : World) (hd : ∀ j, j < 8 → 0 ≤ d j ∧ d j ≤ 255) :
    Calls Try.prog 18 #[.agg #[.int .i64 id, .bool r, .int .i64 n, .int .u8 (d 0), .int .u8 (d 1), .int .u8 (d 2), .int .u8 (d 3), .int .u8 (d 4), .int .u8 (d 5), .int .u8 (d 6), .int .u8 (d 7)]] w fun e w' => e = .returned (.agg #[.int .i64 id, .bool r, .int .i64 n, .int .u8 (flp (bOf id r n d) d 0), .int .u8 (flp (bOf id r n d) d 1), .int .u8 (flp (bOf id r n d) d 2), .int .u8 (flp (bOf id r n d) d 3), .int .u8 (flp (bOf id r n d) d 4), .int .u8 (flp (bOf id r n d) d 5), .int .u8 (flp (bOf id r n d) d 6), .int .u8 (flp (bOf id r n d) d 7)]) ∧ Below w.heap.size w w' := by
  have hf : FrAt ((w.alloc (.cells #[.int .i64 id, .bool r, .int .i64 n, .int .u8 (d 0), .int .u8 (d 1), .int .u8 (d 2), .int .u8 (d 3), .int .u8 (d 4), .int .u8 (d 5), .int .u8 (d 6), .int .u8 (d 7)] 24)).alloc (.cells #[.int .i64 0, .bool false, .int .i64 0, .int .u8 0, .int .u8 0, .int .u8 0, .int .u8 0, .int .u8 0, .int .u8 0, .int .u8 0, .int .u8 0] 24)) w.heap.size id r n d := heap_alloc2_old w _ _
  have hz : FrAt ((w.alloc (.cells #[.int .i64 id, .bool r, .int .i64 n, .int .u8 (d 0), .int .u8 (d 1), .int .u8 (d 2), .int .u8 (d 3), .int .u8 (d 4), .int .u8 (d 5), .int .u8 (d 6), .int .u8 (d 7)] 24)).alloc (.cells #[.int .i64 0, .bool false, .int .i64 0, .int .u8 0, .int .u8 0, .int .u8 0, .int .u8 0, .int .u8 0, .int .u8 0, .int .u8 0, .int .u8 0] 24)) (w.heap.size + 1) 0 false 0 (fun _ => 0) := heap_alloc2_new w _ _
  have hb : Below w.heap.size w ((w.alloc (.cells #[.int .i64 id, .bool r, .int .i64 n, .int .u8 (d 0), .int .u8 (d 1), .int .u8 (d 2), .int .u8 (d 3), .int .u8 (d 4), .int .u8 (d 5), .int .u8 (d 6), .int .u8 (d 7)] 24)).alloc (.cells #[.int .i64 0, .bool false, .int .i64 0, .int .u8 0, .int .u8 0, .int .u8 0, .int .u8 0, .int .u8 0, .int .u8 0, .int .u8 0, .int .u8 0] 24)) := ((Below.refl _ _).alloc (Nat.le_refl _) _).alloc (by simp) _
  have hs : w.heap.size + 1 < ((w.alloc (.cells #[.int .i64 id, .bool r, .int .i64 n, .int .u8 (d 0), .int .u8 (d 1), .int .u8 (d 2), .int .u8 (d 3), .int .u8 (d 4), .int .u8 (d 5), .int .u8 (d 6), .int .u8 (d 7)] 24)).alloc (.cells #[.int .i64 0, .bool false, .int .i64 0, .int .u8 0, .int .u8 0, .int .u8 0, .int .u8 0, .int .u8 0, .int .u8 0, .int .u8 0, .int .u8 0] 24)).heap.size := by simp
  have hby := fun w => bytes_any id n r d w hd
  have hl8 := bOf_len id n r d
  have hfl := fun (w : World) (A : Option Addr) (c : Nat) (h : Byt w w.heap.size A (bOf id r n d).length c (bOf id r n d)) => flip_any w A _ c _ h (by omega)
  generalize bOf id r n d = lb at hby hl8 hfl ⊢
  have HB := Lib.hid hb
  have HF := Lib.hid hf
  have HZ := Lib.hid hz
  have HS := Lib.hid hs
  have HBY := Lib.hid hby
  have HFL := Lib.hid hfl
  have HL := Lib.hid hl8
  clear hb hf hz hs hby hfl hl8 hd
  go_enter Try.func18, Try.ntmps18
  go_wp2_with fail
  generalize ((w.alloc _).alloc _) = w0 at HB HF HZ HS ⊢
  obtain ⟨c0, c1, c2, c3, c4, c5, c6, c7, c8, c9, c10⟩ := HF.out.cells
  have hf0 : FrAt w0.drew w.heap.size id r n d := HF.out
  have hz0 : FrAt w0.drew (w.heap.size + 1) 0 false 0 (fun _ => 0) := HZ.out
  have hb0 : Below w.heap.size w w0.drew := HB.out.drew
  have hs0 : w.heap.size + 1 < w0.drew.heap.size := HS.out
  have HF0 := Lib.hid hf0
  have HZ0 := Lib.hid hz0
  have HB0 := Lib.hid hb0
  have HS0 := Lib.hid hs0
  clear hf0 hz0 hb0 hs0 HF HZ HB HS
  go_region_law (first
    | (go_simp; go_at_call 12; refine (HBY.out _).mono ?_; rintro e w1 ⟨A1, k1, rfl, hB1, hb1⟩; have hf1 := FrAt.below HF0.out hb1 (Nat.lt_of_succ_lt HS0.out); have hz1 := FrAt.below HZ0.out hb1 HS0.out; have hbw1 := HB0.out.trans (hb1.mono HB0.out.size); have HF1 := Lib.hid hf1; have HZ1 := Lib.hid hz1; have HB1 := Lib.hid hB1; have HW1 := Lib.hid hbw1; clear hb1 hf1 hz1 hB1 hbw1)
    | (go_simp; go_at_call 26; refine (HFL.out _ _ _ HB1.out).mono ?_; rintro e w2 ⟨A2, k2, rfl, hB2, hb2⟩; have hf2 := FrAt.below HF1.out hb2 HF1.out.lt; have hz2 := FrAt.below HZ1.out hb2 HZ1.out.lt; have hbw2 := HW1.out.trans (hb2.mono HW1.out.size); have HF2 := Lib.hid hf2; have HZ2 := Lib.hid hz2; have HB2 := Lib.hid hB2; have HW2 := Lib.hid hbw2; clear hb2 hf2 hz2 hB2 hbw2)
    | (refine step_fill rfl (.tmp 4) (.tmp 7) rfl (by simp [Act.eval]) (by simp [Act.eval]) HB2.out HF2.out ?_; intro w3 hf3 hg3; have hz3 := HZ2.out.grown hg3 (by omega); have hbw3 := below_grown HW2.out hg3 (Nat.le_refl _) (Nat.le_of_lt HF2.out.lt); have HF3 : Hid (FrAt w3 w.heap.size id r n (flp lb d)) := Lib.hid hf3; have HZ3 := Lib.hid hz3; have HW3 := Lib.hid hbw3; clear hf3 hz3 hbw3 hg3))
  clear c0 c1 c2 c3 c4 c5 c6 c7 c8 c9 c10
  go_wp2_with (first
    | (refine wpList_load_row rfl _ (.tmp 1) rfl w.heap.size rfl _ _ _ _ HF3.out Try.underlying24 rfl info_frame ?_)
    | (refine wpList_store_row rfl _ (.tmp 2) (.tmp 9) rfl (w.heap.size + 1) _ rfl rfl _ _ HZ3.out info_frame rfl (one_frame id n r (flp lb d)) ?_; have hf4 := HZ3.out.row id n r (flp lb d); have hbw4 := below_setRow HW3.out (show w.heap.size ≤ w.heap.size + 1 by omega) #[.int .i64 id, .bool r, .int .i64 n, .int .u8 (flp lb d 0), .int .u8 (flp lb d 1), .int .u8 (flp lb d 2), .int .u8 (flp lb d 3), .int .u8 (flp lb d 4), .int .u8 (flp lb d 5), .int .u8 (flp lb d 6), .int .u8 (flp lb d 7)]))
  all_goals exact bodyPost_ret (results_cell_row rfl _ _ (w.heap.size + 1) _ _ _ _ rfl hf4 Try.underlying24 rfl info_frame) rfl ⟨rfl, hbw4⟩
end Go.Proofs.Ytabakfhknkhdkaa
