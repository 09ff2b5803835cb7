/- What hex answers. -/
import Derived.Test.YtabakfhknkhdkaaFrameL
namespace Go.Proofs.Ytabakfhknkhdkaa
open Go.RowKit

/-- A number below 16 as a sign. -/
def sg (x : Int) : Int := if x < 10 then 48 + x else 55 + x
def hexL (W : Nat) (n : Int) : List Int := (List.range W).map fun i => sg (n / 16 ^ (W - 1 - i) % 16)
theorem hexL_len (W : Nat) (n : Int) : (hexL W n).length = W := by simp [hexL]
theorem hexL_get (W : Nat) (n : Int) {i : Nat} (h : i < W) : (hexL W n).getD i 0 = sg (n / 16 ^ (W - 1 - i) % 16) := by simp [hexL, List.getD, h]
theorem sg_range {x : Int} (h0 : 0 ≤ x) (h1 : x < 16) : 48 ≤ sg x ∧ sg x ≤ 70 := by unfold sg; split <;> omega
theorem hexL_range (W : Nat) (n : Int) : ∀ x ∈ hexL W n, 0 ≤ x ∧ x ≤ 255 := by
  intro x hx
  simp only [hexL, List.mem_map] at hx
  obtain ⟨i, _, rfl⟩ := hx
  have := sg_range (x := n / 16 ^ (W - 1 - i) % 16) (by omega) (by omega)
  omega
def dn (l : List Int) (W j : Nat) (i : Nat) : Value := .int .u8 (if W ≤ i + j then l.getD i 0 else 0)
theorem dn_zero {w : World} {n : Nat} {t : TypeId} (l : List Int) : (w.alloc (.cells (madeCells #[.int .u8 0] n) t)).rowIs w.heap.size t n (dn l n 0) :=
  (World.rowIs_made w (.int .u8 0) n t).congr fun i hi => by simp [dn]; omega
theorem dn_step {w : World} {g W j : Nat} {t : TypeId} {l : List Int} {q : Int} (h : w.rowIs g t W (dn l W j)) (hj : j < W) (hq : q = l.getD (W - 1 - j) 0) : (w.setCell ⟨g, W - 1 - j, none⟩ (.int .u8 q)).rowIs g t W (dn l W (j + 1)) :=
  (h.set (W - 1 - j) (.int .u8 q)).congr fun i hi => by
    unfold dn
    by_cases e : i = W - 1 - j
    · subst e; simp [hq]; omega
    · by_cases e2 : W ≤ i + j
      · simp [e, e2]; omega
      · simp [e, e2]; omega
theorem dn_done {w : World} {g W : Nat} {t : TypeId} {l : List Int} (h : w.rowIs g t W (dn l W W)) : w.rowIs g t W (fun j => .int .u8 (l.getD j 0)) :=
  h.congr fun i hi => by unfold dn; rw [if_pos (by omega)]

theorem and_15 (x : Int) (h0 : 0 ≤ x) (h1 : x < 65536) : bits .and .i64 x 15 = x % 16 := bits_mask .i64 16 (by decide) (fun n h0 h1 => IntWalk.i64_in n (by omega)) 4 (by decide) x h0 (by omega)
theorem sign_at : ∀ (x : Nat) (h : x < 16), (((⟨#[48, 49, 50, 51, 52, 53, 54, 55, 56, 57, 65, 66, 67, 68, 69, 70]⟩ : ByteArray)[x]'h).toNat : Int) = sg x := by decide
theorem shr_and (n : Int) (j : Nat) (h0 : 0 ≤ n) (h1 : n ≤ 4095) : bits .and .i64 (n / 2 ^ (4 * j)) 15 = n / 16 ^ j % 16 := by
  have e : (2 : Int) ^ (4 * j) = 16 ^ j := by rw [Int.pow_mul]; rfl
  have hp : (0 : Int) < 16 ^ j := Int.pow_pos (by omega)
  rw [e, and_15 _ (Int.ediv_nonneg h0 (by omega)) (Int.lt_of_le_of_lt (Int.ediv_le_self _ h0) (by omega))]
theorem hex_any (W : Nat) (n : Int) (w : World) (hW : W ≤ 3) (h0 : 0 ≤ n) (h1 : n ≤ 4095) :
    Calls Try.prog 27 #[.int .i64 n, .int .i64 (W : Int)] w fun e w' => e = .returned (.string (strOfNums (hexL W n))) ∧ Below w.heap.size w w' := by
  have hmk := make_row W (by omega)
  go_enter Try.func27, Try.ntmps27
  go_wp2_with fail
  go_loopw [10, 6] (fun i u wr => ∃ j : Nat, j ≤ W ∧ i = .int .i64 j ∧ wr.rowIs w.heap.size 5 W (dn (hexL W n) W j) ∧ Below w.heap.size w wr) (fun i _ _ => W - (intOf i).toNat)
  case atStart => exact ⟨0, Nat.zero_le _, rfl, dn_zero _, (Below.refl _ _).alloc (Nat.le_refl _) _⟩
  case round =>
    obtain ⟨j, hj, rfl, hrow, hbel⟩ := hrel
    by_cases hlt : j < W
    · have hget := hexL_get W n (i := W - 1 - j) (by omega)
      rw [show W - 1 - (W - 1 - j) = j by omega] at hget
      have hgc := hrow.cell (i := W - 1 - j) (by omega)
      have hgf := hrow.frozen (W - 1 - j)
      have hsh : ((W : Int) - 1 - (j : Int)).toNat = W - 1 - j := by omega
      have hle : (j : Int) ≤ (W : Int) - 1 := by omega
      have hand := shr_and n j h0 h1
      have hx0 : 0 ≤ n / 16 ^ j % 16 := by omega
      have hx1 : n / 16 ^ j % 16 < 16 := by omega
      obtain ⟨x, hx⟩ : ∃ x : Nat, n / 16 ^ j % 16 = x := ⟨(n / 16 ^ j % 16).toNat, by omega⟩
      rw [hx] at hand hget hx0 hx1
      have HG := Lib.hid hget
      have hx2 : x < 16 := by omega
      clear hget hx
      go_wp2_with fail
      all_goals first
        | (exfalso; omega)
        | (refine ⟨⟨j + 1, by omega, by go_num, dn_step hrow hlt ?_, hbel.setCell (Nat.le_refl _) _⟩, by simp [intOf]; omega⟩
           rw [HG.out]
           exact sign_at x hx2)
        | done
    · obtain rfl : j = W := by omega
      have hB : Byt wr wr.heap.size (some ⟨w.heap.size, 0, none⟩) j j (hexL j n) := Byt.of_row (dn_done hrow) (hexL_len _ _) (by simp only [maxLen]; omega) (hexL_range _ _)
      have hst := run_str 25 5 Try.underlying25 Try.underlying5 hB 9 Try.underlying9
      clear hB hrow
      go_wp2
      go_ret
      exact ⟨rfl, hbel⟩
end Go.Proofs.Ytabakfhknkhdkaa
