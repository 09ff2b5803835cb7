/- What Crc15, ofBytes, Crc16 and Seal answer. -/
import Derived.Lib.SlBytesConst
import Derived.Test.YtkgnhmddnfmhjaaWPolyC
namespace Go.Proofs.Ytkgnhmddnfmhjaa
open Go.RowKit
theorem crc15_any (A : Option Addr) (n c : Nat) (l : List Int) (w : World) (h : Byt w w.heap.size A n c l) :
    Calls Try.prog 28 #[.slice A n c] w fun e w' => e = .returned (.int .i64 ((remN 15 17817 0 l : Nat) : Int)) ∧ Below w.heap.size w w' := by
  have hr := fun (w : World) (h : Byt w w.heap.size A n c l) => rem_yes 15 17817 0 A n c l w (by omega) (by omega) (by omega) (by omega) h
  have hlt := rem_lt (W := 15) (L := 17817) (by omega) 0 l
  generalize remN 15 17817 0 l = q at hr hlt
  have HR := Lib.hid hr
  clear hr
  go_enter Try.func28, Try.ntmps28
  go_wp2_with fail
  refine (HR.out _ h).mono ?_
  rintro e w1 ⟨rfl, hb1⟩
  go_wp2
  go_ret
  exact ⟨rfl, hb1⟩

/-- Bytes' bits. -/
def bitsB (l : List Int) : List Int := l.flatMap fun x => ofL x 8
theorem bitsB_snoc (l : List Int) (x : Int) : bitsB (l ++ [x]) = bitsB l ++ ofL x 8 := by simp [bitsB]
theorem bitsB_len (l : List Int) : (bitsB l).length = 8 * l.length := by
  refine snoc_ind (P := fun l => (bitsB l).length = 8 * l.length) rfl (fun l x ih => ?_) l
  rw [bitsB_snoc, List.length_append, ih, ofL_len]; simp; omega
theorem bitsB_bits (l : List Int) : ∀ x ∈ bitsB l, x = 0 ∨ x = 1 := by
  intro x hx
  simp only [bitsB, List.mem_flatMap] at hx
  obtain ⟨y, _, hy⟩ := hx
  exact ofL_bits y 8 x hy

theorem byt_marked (w : World) (t : TypeId) (fr : Nat × Nat) (l : List Int) (hr : ∀ x ∈ l, 0 ≤ x ∧ x ≤ 255) (hm : l.length ≤ maxLen) :
    Byt (w.alloc (.cells (l.map (Value.int .u8)).toArray t fr)) (w.heap.size + 1) (some ⟨w.heap.size, 0, none⟩) l.length l.length l :=
  ⟨rfl, Nat.le_refl _, hm, hr, fun _ => ⟨w.heap.size, 0, rfl, by omega, fun j hj => by
    rw [cell_of_row _ _ _ _ t fr (heap_alloc_new w _)]
    simp [List.getD, hj]⟩⟩

theorem live_crc : remN 16 4129 0 (bitsB [49, 50, 51, 52, 53, 54, 55, 56, 57]) = 12739 ∧ remN 3 3 0 [1] = 3 ∧ remN 15 17817 0 [1] = 17817 := by decide +kernel

end Go.Proofs.Ytkgnhmddnfmhjaa