/- What Crc15, ofBytes, Crc16 and Seal answer. -/
import Derived.Test.YtmcpaficeaphlaaPolyC
import Derived.Lib.SlBytesConst
namespace Go.Proofs.Ytmcpaficeaphlaa
open Go.RowKit

theorem crc15_any (A : Option Addr) (n c : Nat) (l : List Int) (w : World) (h : Byt w w.heap.size A n c l) :
    Calls Try.prog 19 #[.slice A n c] w fun e w' => e = .returned (.int .i64 ((remN 15 17817 0 l : Nat) : Int)) ∧ Below w.heap.size w w' := by
  have hr := fun (w : World) (h : Byt w w.heap.size A n c l) => rem_yes 15 17817 0 A n c l w (by omega) (by omega) (by omega) (by omega) h
  have hlt := rem_lt (W := 15) (L := 17817) (by omega) 0 l
  generalize remN 15 17817 0 l = q at hr hlt
  have HR := Lib.hid hr
  clear hr
  go_enter Try.func19, Try.ntmps19
  go_wp2_with fail
  refine (HR.out _ h).mono ?_
  rintro e w1 ⟨rfl, hb1⟩
  go_wp2
  go_ret
  exact ⟨rfl, hb1⟩

/-- Bytes' bits. -/
def bitsB (l : List Int) : List Int := l.flatMap fun x => ofL x 8
theorem bitsB_snoc (l : List Int) (x : Int) : bitsB (l ++ [x]) = bitsB l ++ ofL x 8 := by simp [bitsB]
theorem bitsB_len (l : List Int) : (bitsB l).length = 8 * l.length := by
  refine snoc_ind (P := fun l => (bitsB l).length = 8 * l.length) rfl (fun l x ih => ?_) l
  rw [bitsB_snoc, List.length_append, ih, ofL_len]; simp; omega
theorem bitsB_bits (l : List Int) : ∀ x ∈ bitsB l, x = 0 ∨ x = 1 := by
  intro x hx
  simp only [bitsB, List.mem_flatMap] at hx
  obtain ⟨y, _, hy⟩ := hx
  exact ofL_bits y 8 x hy

theorem ofbytes_any (A : Option Addr) (n c : Nat) (l : List Int) (w : World) (h : Byt w w.heap.size A n c l) :
    Calls Try.prog 32 #[.func (Fn.func 12) #[.agg #[.int .i64 16, .int .u32 4129]] #[], .slice A n c] w fun e w' => e = .returned (.int .u32 ((remN 16 4129 0 (bitsB l) : Nat) : Int)) ∧ Below w.heap.size w w' := by
  have hcap := h.cap
  have hmx := h.max
  simp only [maxLen] at hmx
  go_enter Try.func32, Try.ntmps32
  go_wp2_with fail
  go_loopw [10, 5] (fun i v wr => ∃ j : Nat, j ≤ n ∧ i = .int .i64 j ∧ v = .int .u32 ((remN 16 4129 0 (bitsB (l.take j)) : Nat) : Int) ∧ Below w.heap.size w wr) (fun i _ _ => n - (intOf i).toNat)
  case atStart => exact ⟨0, Nat.zero_le _, rfl, rfl, Below.refl _ _⟩
  case round =>
    obtain ⟨j, hj, rfl, rfl, hbel⟩ := hrel
    by_cases hlt : j < n
    · obtain ⟨b, off, rfl, hb, hc⟩ := h.cells (by omega)
      have hrange := h.range j
      have hcj := hc j hlt
      have hget : remN 16 4129 0 (bitsB (l.take (j + 1))) = remN 16 4129 (remN 16 4129 0 (bitsB (l.take j))) (ofL (l.getD j 0) 8) := by
        rw [take_succ_getD (by rw [h.len]; exact hlt), bitsB_snoc, rem_pieces (by omega)]
      have hlt2 := rem_lt (W := 16) (L := 4129) (by omega) 0 (bitsB (l.take j))
      generalize remN 16 4129 0 (bitsB (l.take j)) = N at hget hlt2
      generalize l.getD j 0 = q at hrange hcj hget
      have hof := fun w => of_any q 8 w (by omega)
      rw [show clampW 8 = 8 from rfl] at hof
      have hr := fun (w : World) (A : Option Addr) (c : Nat) (h : Byt w w.heap.size A 8 c (ofL q 8)) => rem_yes 16 4129 N A 8 c (ofL q 8) w (by omega) (by omega) (by omega) (by omega) h
      have hcell : wr.cell? ⟨b, off + j, none⟩ = some (.int .u8 q) := (hbel.cell (p := ⟨b, off + j, none⟩) hb).trans hcj
      have HOF := Lib.hid hof
      have HR := Lib.hid hr
      have HG := Lib.hid hget
      have HC := Lib.hid hc
      have HH := Lib.hid h
      obtain ⟨hq0, hq1⟩ := hrange
      clear hr hget hof hc h hcj
      go_wp2_with fail
      refine (HOF.out _).mono ?_
      rintro e w1 ⟨A1, c1, rfl, hB1, hb1⟩
      have hbel1 := hbel.trans (hb1.mono hbel.size)
      go_wp2_with fail
      refine (HR.out _ _ _ hB1).mono ?_
      rintro e w2 ⟨rfl, hb2⟩
      have hbel2 := hbel1.trans (hb2.mono hbel1.size)
      clear hB1
      go_wp2_with fail
      go_roundw
      case rel => exact ⟨j + 1, by omega, by go_num, by rw [HG.out], hbel2⟩
      case measure => simp [intOf]; omega
    · obtain rfl : j = n := by omega
      have hl := h.len
      rw [List.take_of_length_le (by omega)]
      clear hl h
      go_wp2
      go_ret
      exact ⟨rfl, hbel⟩

theorem crc16_any (A : Option Addr) (n c : Nat) (l : List Int) (w : World) (h : Byt w w.heap.size A n c l) :
    Calls Try.prog 21 #[.slice A n c] w fun e w' => e = .returned (.int .i64 ((remN 16 4129 0 (bitsB l) : Nat) : Int)) ∧ Below w.heap.size w w' := by
  have hr := fun (w : World) (h : Byt w w.heap.size A n c l) => ofbytes_any A n c l w h
  have hlt := rem_lt (W := 16) (L := 4129) (by omega) 0 (bitsB l)
  generalize remN 16 4129 0 (bitsB l) = q at hr hlt
  have HR := Lib.hid hr
  clear hr
  go_enter Try.func21, Try.ntmps21
  go_wp2_with fail
  refine (HR.out _ h).mono ?_
  rintro e w1 ⟨rfl, hb1⟩
  go_wp2
  go_ret
  exact ⟨rfl, hb1⟩

theorem byt_marked (w : World) (t : TypeId) (fr : Nat × Nat) (l : List Int) (hr : ∀ x ∈ l, 0 ≤ x ∧ x ≤ 255) (hm : l.length ≤ maxLen) :
    Byt (w.alloc (.cells (l.map (Value.int .u8)).toArray t fr)) (w.heap.size + 1) (some ⟨w.heap.size, 0, none⟩) l.length l.length l :=
  ⟨rfl, Nat.le_refl _, hm, hr, fun _ => ⟨w.heap.size, 0, rfl, by omega, fun j hj => by
    rw [cell_of_row _ _ _ _ t fr (heap_alloc_new w _)]
    simp [List.getD, hj]⟩⟩

theorem live_crc : remN 16 4129 0 (bitsB [49, 50, 51, 52, 53, 54, 55, 56, 57]) = 12739 ∧ remN 3 3 0 [1] = 3 ∧ remN 15 17817 0 [1] = 17817 := by decide +kernel

theorem live3_any (w : World) : Calls Try.prog 8 #[] w fun e w' => e = .returned (.bool true) ∧ Below w.heap.size w w' := by
  have h1 := fun (w : World) (A : Option Addr) (c : Nat) (h : Byt w w.heap.size A 9 c [49, 50, 51, 52, 53, 54, 55, 56, 57]) => crc16_any A 9 c _ w h
  rw [live_crc.1] at h1
  have h2 := fun (w : World) (A : Option Addr) (c : Nat) (h : Byt w w.heap.size A 1 c [1]) => rem_yes 3 3 0 A 1 c [1] w (by omega) (by omega) (by omega) (by omega) h
  rw [live_crc.2.1] at h2
  have h3 := fun (w : World) (A : Option Addr) (c : Nat) (h : Byt w w.heap.size A 1 c [1]) => crc15_any A 1 c _ w h
  rw [live_crc.2.2] at h3
  have H1 := Lib.hid h1
  have H2 := Lib.hid h2
  have H3 := Lib.hid h3
  clear h1 h2 h3
  have hcv := fun (w : World) (C : Array Value) (n c : Nat) => Lib.run_convert_bytes_const (P := Try.prog) w 23 5 C n c Try.underlying23 Try.underlying5
  go_enter Try.func8, Try.ntmps8
  go_wp2_with fail
  refine (H1.out _ _ _ ((byt_marked w 5 (9, 10) [49, 50, 51, 52, 53, 54, 55, 56, 57] (by simp) (by simp [maxLen])).more (by simp))).mono ?_
  rintro e w1 ⟨rfl, hb1⟩
  have hs1 : Below w.heap.size w w1 := ((Below.refl _ _).alloc (Nat.le_refl _) _).trans (hb1.mono (by simp))
  clear hcv
  go_wp2_with fail
  refine (H2.out _ _ _ ((Byt.new w1 5 [1] (by simp) (by simp [maxLen])).more (by simp))).mono ?_
  rintro e w2 ⟨rfl, hb2⟩
  have hs2 : Below w1.heap.size w1 w2 := ((Below.refl _ _).alloc (Nat.le_refl _) _).trans (hb2.mono (by simp))
  go_wp2_with fail
  refine (H3.out _ _ _ ((Byt.new w2 5 [1] (by simp) (by simp [maxLen])).more (by simp))).mono ?_
  rintro e w3 ⟨rfl, hb3⟩
  have hs3 : Below w2.heap.size w2 w3 := ((Below.refl _ _).alloc (Nat.le_refl _) _).trans (hb3.mono (by simp))
  go_wp2
  go_ret
  exact ⟨rfl, below_trans' (below_trans' hs1 hs2) hs3⟩
end Go.Proofs.Ytmcpaficeaphlaa
