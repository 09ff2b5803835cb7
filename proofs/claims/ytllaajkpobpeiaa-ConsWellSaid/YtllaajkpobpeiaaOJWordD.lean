/- What the two Flips answer: each byte taken from 255. -/
import Derived.Test.YtllaajkpobpeiaaOJBase2
import Derived.Test.YtllaajkpobpeiaaOJRefB
namespace Go.Proofs.Ytllaajkpobpeiaa
open Go.RowKit
def flipL (l : List Int) : List Int := l.map fun x => 255 - x
theorem flipL_len (l : List Int) : (flipL l).length = l.length := by simp [flipL]
theorem flipL_range {l : List Int} (h : ∀ x ∈ l, 0 ≤ x ∧ x ≤ 255) : ∀ x ∈ flipL l, 0 ≤ x ∧ x ≤ 255 := by
  intro x hx
  simp only [flipL, List.mem_map] at hx
  obtain ⟨y, hy, rfl⟩ := hx
  have := h y hy
  omega
def FlipPost (l : List Int) (W : World) (e : Ending) (w' : World) : Prop := ∃ A c, e = .returned (.slice A l.length c) ∧ Byt w' w'.heap.size A l.length c (flipL l) ∧ Below W.heap.size W w'

theorem not_nat : ∀ n : Fin 256, 255 ^^^ n.val = 255 - n.val := by decide +kernel
theorem not_u8 (x : Int) (h0 : 0 ≤ x) (h1 : x ≤ 255) : bits .xor .u8 (if IntKind.u8.signed = true then -1 else IntKind.u8.max) x = 255 - x := by
  obtain ⟨n, rfl⟩ := Int.eq_ofNat_of_zero_le h0
  show bits .xor .u8 ((255 : Nat) : Int) (n : Int) = _
  rw [u8_xor_nat _ _ (by omega) (by omega), not_nat ⟨n, by omega⟩]
  simp only
  omega

theorem make_row (n : Nat) (hn : n ≤ 281474976710656) (w : World) : (Instr.makeSlice 43 (.int .i64 (n : Int)) (.int .i64 (n : Int))).run Try.prog w = .ok (.slice (some ⟨w.heap.size, 0, none⟩) n n) (w.alloc (.cells (madeCells #[.int .u8 0] n) 5)) :=
  run_make_row' _ _ _ _ Try.underlying43 byte_info rfl .i64 .i64 n (by omega) (by omega) w

theorem flip_any (w : World) (A : Option Addr) (n c : Nat) (l : List Int) (h : Byt w w.heap.size A n c l) (hn : n ≤ 140737488351232) : Calls Try.prog 72 #[.slice A n c] w (FlipPost l w) := by
  have hmk := make_row n (by omega)
  go_enter Try.func72, Try.ntmps72
  go_wp2_with fail
  go_loopw [11] (fun i wr => ∃ j : Nat, j ≤ n ∧ i = .int .i64 j ∧ wr.rowIs w.heap.size 5 n (upto (flipL l) j) ∧ Below w.heap.size w wr) (fun i _ => n - (intOf i).toNat)
  case atStart => exact ⟨0, Nat.zero_le _, rfl, upto_zero _, (Below.refl _ _).alloc (Nat.le_refl _) _⟩
  case round =>
    obtain ⟨j, hj, rfl, hrow, hbel⟩ := hrel
    by_cases hlt : j < n
    · obtain ⟨b, off, rfl, hb, hc⟩ := h.cells (by omega)
      have hrange := h.range j
      have hcj := hc j hlt
      have hget : (flipL l).getD j 0 = 255 - l.getD j 0 := getD_map (by rw [h.len]; exact hlt)
      generalize l.getD j 0 = q at hrange hcj hget
      have hcell : wr.cell? ⟨b, off + j, none⟩ = some (.int .u8 q) := (hbel.cell (p := ⟨b, off + j, none⟩) hb).trans hcj
      have hgc := hrow.cell hlt
      have hgf := hrow.frozen j
      have HG := Lib.hid hget
      have HC := Lib.hid hc
      have HH := Lib.hid h
      obtain ⟨hq0, hq1⟩ := hrange
      clear hcj hget hc h
      go_wp2
      go_roundw
      case rel => exact ⟨j + 1, by omega, by go_num, upto_step hrow (by rw [HG.out]; exact not_u8 q hq0 hq1), hbel.setCell (Nat.le_refl _) _⟩
      case measure => simp [intOf]; omega
    · obtain rfl : j = n := by omega
      have hl := h.len
      have hrow2 := upto_done hrow
      go_wp2
      go_ret
      subst hl
      exact ⟨_, _, rfl, Byt.of_row hrow2 (flipL_len l) (by simp only [maxLen]; omega) (flipL_range h.rng), hbel⟩

theorem rflip_any (w : World) (A : Option Addr) (n c : Nat) (l : List Int) (h : Byt w w.heap.size A n c l) (hn : n ≤ 140737488351232) : Calls Try.prog 24 #[.slice A n c] w (FlipPost l w) := by
  go_enter Try.func24, Try.ntmps24
  go_wp2_with fail
  go_loopw [4, 3] (fun i v wr => ∃ j : Nat, j ≤ n ∧ i = .int .i64 j ∧ wr.ownsRow w.heap.size 5 1 v j ((flipL (l.take j)).map (Value.int .u8)) ∧ Below w.heap.size w wr) (fun i _ _ => n - (intOf i).toNat)
  case atStart => exact ⟨0, Nat.zero_le _, rfl, World.ownsRow_lit w #[] 0 (Nat.le_refl _) (by simp [maxLen]) rfl, (Below.refl _ _).alloc (Nat.le_refl _) _⟩
  case round =>
    obtain ⟨j, hj, rfl, hown, hbel⟩ := hrel
    by_cases hlt : j < n
    · obtain ⟨b, off, rfl, hb, hc⟩ := h.cells (by omega)
      have hrange := h.range j
      have hcj := hc j hlt
      have hget : flipL (l.take (j + 1)) = flipL (l.take j) ++ [255 - l.getD j 0] := by
        rw [take_succ_getD (by rw [h.len]; exact hlt)]; simp [flipL]
      generalize l.getD j 0 = q at hrange hcj hget
      have hcell : wr.cell? ⟨b, off + j, none⟩ = some (.int .u8 q) := (hbel.cell (p := ⟨b, off + j, none⟩) hb).trans hcj
      have HG := Lib.hid hget
      have HC := Lib.hid hc
      have HH := Lib.hid h
      obtain ⟨hq0, hq1⟩ := hrange
      clear hcj hget hc h
      go_wp2_with (at_builtin; refine wpList_byte rfl (.tmp 12) (.tmp 18) rfl Try.underlying43 byte_info rfl hown rfl (by omega) hbel.size ?_; intro v' w' hown' hbel')
      go_roundw
      case rel => exact ⟨j + 1, by omega, by go_num, by rw [HG.out]; exact hown', hbel.trans hbel'⟩
      case measure => simp [intOf]; omega
    · obtain rfl : j = n := by omega
      have hl := h.len
      go_wp2
      go_ret
      subst hl
      rw [List.take_length] at hown
      obtain ⟨A', c', rfl, hB, _⟩ := Byt.of_own hown (flipL_range h.rng)
      exact ⟨_, _, rfl, hB, hbel⟩
end Go.Proofs.Ytllaajkpobpeiaa