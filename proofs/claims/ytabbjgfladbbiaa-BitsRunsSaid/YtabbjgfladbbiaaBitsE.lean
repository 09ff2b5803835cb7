/- What Num and Text answer. -/
import Derived.Test.YtabbjgfladbbiaaBitsB
import Derived.ShutString
namespace Go.Proofs.Ytabbjgfladbbiaa
open Go.RowKit

def numB (l : List Int) : Int := l.foldl (fun n x => n * 2 + x % 2) 0
theorem numB_snoc (l : List Int) (x : Int) : numB (l ++ [x]) = numB l * 2 + x % 2 := by simp [numB, List.foldl_append]
theorem numB_bounds (l : List Int) : 0 ≤ numB l ∧ numB l < 2 ^ l.length := by
  refine snoc_cases (P := fun l => 0 ≤ numB l ∧ numB l < 2 ^ l.length) (by simp [numB]) ?_ l
  intro l x ⟨h1, h2⟩
  rw [numB_snoc, List.length_append]
  simp only [List.length_cons, List.length_nil, Nat.zero_add, Int.pow_succ]
  omega
theorem pow_le32 {j : Nat} (h : j ≤ 31) : (2 : Int) ^ j ≤ 2147483648 := by
  have : (2 : Nat) ^ j ≤ 2 ^ 31 := Nat.pow_le_pow_right (by omega) h
  have h2 : ((2 ^ j : Nat) : Int) ≤ ((2 ^ 31 : Nat) : Int) := by exact_mod_cast this
  simpa using h2
def numN (l : List Int) : Int := if 32 < l.length then 0 else numB l
def numE (l : List Int) : Int := if 32 < l.length then 13 else 0

theorem or_bit (n b : Int) (h0 : 0 ≤ n) (h1 : n < 2147483648) (hb : 0 ≤ b ∧ b ≤ 1) : bits .or .u32 (n * 2) b = n * 2 + b :=
  bits_join .u32 32 (by decide) (fun m m0 m1 => by rw [IntKind.wrap_u32]; omega) 1 (n * 2) b (by omega) (by omega) (by omega) hb.1 (by omega) (by omega)

theorem num_any (w : World) (A : Option Addr) (n c : Nat) (l : List Int) (h : Byt w w.heap.size A n c l) :
    Calls Try.prog 11 #[.slice A n c] w fun e w' => e = .returned (.tuple #[.int .u32 (numN l), .int .i64 (numE l)]) ∧ Below w.heap.size w w' := by
  have hl := h.len
  by_cases h32 : 32 < n
  · have e1 : numN l = 0 := by unfold numN; rw [if_pos (by omega)]
    have e2 : numE l = 13 := by unfold numE; rw [if_pos (by omega)]
    rw [e1, e2]
    clear e1 e2 hl h
    go_enter Try.func11, Try.ntmps11
    go_wp2
    go_ret2
    exact ⟨rfl, Below.refl _ _⟩
  · have e1 : numN l = numB l := by unfold numN; rw [if_neg (by omega)]
    have e2 : numE l = 0 := by unfold numE; rw [if_neg (by omega)]
    rw [e1, e2]
    clear e1 e2 hl
    go_enter Try.func11, Try.ntmps11
    go_wp2_with fail
    go_loop [12, 4] (fun i v => ∃ j : Nat, j ≤ n ∧ i = .int .i64 j ∧ v = .int .u32 (numB (l.take j))) (fun i _ => n - (intOf i).toNat)
    case atStart => exact ⟨0, Nat.zero_le _, rfl, rfl⟩
    case round =>
      obtain ⟨j, hj, rfl, rfl⟩ := hrel
      by_cases hlt : j < n
      · obtain ⟨b, off, rfl, hb, hc⟩ := h.cells (by omega)
        have hrange := h.range j
        have hcj := hc j hlt
        have hget : numB (l.take (j + 1)) = numB (l.take j) * 2 + l.getD j 0 % 2 := by rw [take_succ_getD (by rw [h.len]; exact hlt), numB_snoc]
        have hbd := numB_bounds (l.take j)
        have hln : (l.take j).length = j := by rw [List.length_take, h.len]; omega
        rw [hln] at hbd
        have hp := pow_le32 (j := j) (by omega)
        generalize l.getD j 0 = q at hrange hcj hget
        generalize hN : numB (l.take j) = N at hget hbd
        obtain ⟨hN0, hN1⟩ := hbd
        have hN2 : N < 2147483648 := by omega
        have hor := or_bit N (q % 2) hN0 hN2 (by omega)
        have HG := Lib.hid hget
        have HH := Lib.hid h
        obtain ⟨hq0, hq1⟩ := hrange
        clear hget hc h hln hp hN1 hN
        go_wp2_with (go_at_call 25; refine (low_any _ _ (by omega) (by omega)).mono ?_; rintro e w1 ⟨rfl, rfl⟩)
        go_round
        case rel => exact ⟨j + 1, by omega, by go_num, by rw [HG.out]⟩
        case measure => simp [intOf]; omega
      · obtain rfl : j = n := by omega
        have hl := h.len
        rw [List.take_of_length_le (by omega)]
        clear hl
        go_wp2
        go_ret2
        exact ⟨rfl, Below.refl _ _⟩

/-- A row as text. -/
def textL (l : List Int) : List Int := l.map fun x => 48 + x % 2
theorem textL_len (l : List Int) : (textL l).length = l.length := by simp [textL]
theorem textL_range (l : List Int) : ∀ x ∈ textL l, 0 ≤ x ∧ x ≤ 255 := by
  intro x hx
  simp only [textL, List.mem_map] at hx
  obtain ⟨y, _, rfl⟩ := hx
  omega

theorem text_any (w : World) (A : Option Addr) (n c : Nat) (l : List Int) (h : Byt w w.heap.size A n c l) (hn : n ≤ 281474976710656) :
    Calls Try.prog 23 #[.slice A n c] w fun e w' => e = .returned (.string (strOfNums (textL l))) ∧ Below w.heap.size w w' := by
  have hmk := make_row n hn
  go_enter Try.func23, Try.ntmps23
  go_wp2_with fail
  go_loopw [11] (fun i wr => ∃ j : Nat, j ≤ n ∧ i = .int .i64 j ∧ wr.rowIs w.heap.size 5 n (upto (textL l) j) ∧ Below w.heap.size w wr) (fun i _ => n - (intOf i).toNat)
  case atStart => exact ⟨0, Nat.zero_le _, rfl, upto_zero _, (Below.refl _ _).alloc (Nat.le_refl _) _⟩
  case round =>
    obtain ⟨j, hj, rfl, hrow, hbel⟩ := hrel
    by_cases hlt : j < n
    · obtain ⟨b, off, rfl, hb, hc⟩ := h.cells (by omega)
      have hrange := h.range j
      have hcj := hc j hlt
      have hget : (textL l).getD j 0 = 48 + l.getD j 0 % 2 := getD_map (f := fun x => 48 + x % 2) (by rw [h.len]; exact hlt)
      generalize l.getD j 0 = q at hrange hcj hget
      have hcell : wr.cell? ⟨b, off + j, none⟩ = some (.int .u8 q) := (hbel.cell (p := ⟨b, off + j, none⟩) hb).trans hcj
      have hgc := hrow.cell hlt
      have hgf := hrow.frozen j
      have HG := Lib.hid hget
      have HH := Lib.hid h
      obtain ⟨hq0, hq1⟩ := hrange
      clear hcj hget hc h
      go_wp2_with (go_at_call 25; refine (low_any _ _ (by omega) (by omega)).mono ?_; rintro e w1 ⟨rfl, rfl⟩)
      go_roundw
      case rel => exact ⟨j + 1, by omega, by go_num, upto_step hrow (by rw [HG.out]), hbel.setCell (Nat.le_refl _) _⟩
      case measure => simp [intOf]; omega
    · obtain rfl : j = n := by omega
      have hl := h.len
      have hB : Byt wr wr.heap.size (some ⟨w.heap.size, 0, none⟩) j j (textL l) := Byt.of_row (upto_done hrow) (by rw [textL_len]; exact hl) (by simp only [maxLen]; omega) (textL_range l)
      have hst := run_str 23 5 Try.underlying23 Try.underlying5 hB 9 Try.underlying9
      clear hB hl hrow h
      go_wp2
      go_ret
      exact ⟨rfl, hbel⟩

theorem live_num : numN [1, 0, 1] = 5 ∧ numE [1, 0, 1] = 0 := by decide
theorem live_stuff : stuffL [1, 1, 1, 1, 1, 0, 0, 0, 0, 1] = [1, 1, 1, 1, 1, 0, 0, 0, 0, 0, 1, 1] := by decide
theorem live_text : (strOfNums (textL [1, 1, 1, 1, 1, 0, 0, 0, 0, 0, 1, 1])).toList = [49, 49, 49, 49, 49, 48, 48, 48, 48, 48, 49, 49] := by rw [ByteArray.toList_eq]; decide

theorem live1_any (w : World) : Calls Try.prog 9 #[] w fun e w' => e = .returned (.bool true) ∧ Below w.heap.size w w' := by
  have hn := fun (w : World) (A : Option Addr) (c : Nat) (h : Byt w w.heap.size A 3 c [1, 0, 1]) => num_any w A 3 c _ h
  rw [live_num.1, live_num.2] at hn
  have hs := fun (w : World) (A : Option Addr) (c : Nat) (h : Byt w w.heap.size A 10 c [1, 1, 1, 1, 1, 0, 0, 0, 0, 1]) => stuff_any w A 10 c _ h (by omega)
  rw [live_stuff] at hs
  have ht := fun (w : World) (A : Option Addr) (c : Nat) (h : Byt w w.heap.size A 12 c [1, 1, 1, 1, 1, 0, 0, 0, 0, 0, 1, 1]) => text_any w A 12 c _ h (by omega)
  have HN := Lib.hid hn
  have HS := Lib.hid hs
  have HT := Lib.hid ht
  have HL := live_text
  clear hn hs ht
  go_enter Try.func9, Try.ntmps9
  go_wp2_with fail
  refine (HN.out _ _ _ ((Byt.new w 5 [1, 0, 1] (by simp) (by simp [maxLen])).more (by simp))).mono ?_
  rintro e w1 ⟨rfl, hb1⟩
  have hb1' : Below w.heap.size w w1 := ((Below.refl _ _).alloc (Nat.le_refl _) _).trans (hb1.mono (by simp))
  go_wp2_with fail
  refine (HS.out _ _ _ ((Byt.new w1 5 [1, 1, 1, 1, 1, 0, 0, 0, 0, 1] (by simp) (by simp [maxLen])).more (by simp))).mono ?_
  rintro e w2 ⟨A2, c2, rfl, hB2, hb2⟩
  have hb2' : Below w1.heap.size w1 w2 := ((Below.refl _ _).alloc (Nat.le_refl _) _).trans (hb2.mono (by simp))
  go_wp2_with fail
  refine (HT.out _ _ _ hB2).mono ?_
  rintro e w3 ⟨rfl, hb3⟩
  clear hB2
  go_wp2
  go_ret
  exact ⟨rfl, below_trans' (below_trans' hb1' hb2') hb3⟩
end Go.Proofs.Ytabbjgfladbbiaa
