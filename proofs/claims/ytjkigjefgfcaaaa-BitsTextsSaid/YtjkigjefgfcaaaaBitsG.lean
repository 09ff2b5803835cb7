/- What Parse answers, and the document's own Text. -/
import Derived.Test.YtjkigjefgfcaaaaBitsE
namespace Go.Proofs.Ytjkigjefgfcaaaa
open Go.RowKit

/-- A text's bytes as numbers. -/
def sB (s : ByteArray) : List Int := s.data.toList.map fun u => (u.toNat : Int)
theorem sB_len (s : ByteArray) : (sB s).length = s.size := by
  unfold sB; rw [List.length_map, Array.length_toList]; rfl
theorem sB_range (s : ByteArray) : ∀ x ∈ sB s, 0 ≤ x ∧ x ≤ 255 := by
  intro x hx
  simp only [sB, List.mem_map] at hx
  obtain ⟨u, _, rfl⟩ := hx
  have := u.toNat_lt
  omega
theorem sB_getD (s : ByteArray) {j : Nat} (hj : j < s.size) : (sB s).getD j 0 = (s[j].toNat : Int) := by
  unfold sB
  have h : j < s.data.toList.length := by rw [Array.length_toList]; exact hj
  simp only [List.getD, List.getElem?_map, List.getElem?_eq_getElem h]
  simp [ByteArray.getElem_eq_getElem_data]
theorem str_sB (s : ByteArray) : strOfNums (sB s) = s := by
  obtain ⟨⟨l⟩⟩ := s
  have e : l.map ((fun n : Int => UInt8.ofNat n.toNat) ∘ fun u : UInt8 => (u.toNat : Int)) = l := (List.map_congr_left (g := id) fun u _ => by simp).trans (List.map_id l)
  simp only [strOfNums, sB, List.map_map, e]
theorem sB_str {l : List Int} (h : ∀ x ∈ l, 0 ≤ x ∧ x ≤ 255) : sB (strOfNums l) = l := by
  unfold sB
  rw [strOfNums_data, List.map_map]
  refine (List.map_congr_left (g := id) fun x hx => ?_).trans (List.map_id l)
  have := h x hx
  simp only [Function.comp, id]
  have e : (UInt8.ofNat x.toNat).toNat = x.toNat % 256 := by simp
  rw [e]
  omega

def digB (l : List Int) : Bool := l.all fun x => x == 48 || x == 49
def parL (l : List Int) : List Int := l.map (· - 48)
/-- What Parse answers of a text's bytes. -/
def parA (l : List Int) : List Int := if digB l = true then parL l else []
def parE (l : List Int) : Int := if digB l = true then 0 else 4
theorem digB_snoc (l : List Int) (x : Int) : digB (l ++ [x]) = (digB l && (x == 48 || x == 49)) := by simp [digB]
theorem digB_take {l : List Int} {j : Nat} (h : digB (l.take j) = false) : digB l = false := by
  rw [← List.take_append_drop j l]
  unfold digB at h ⊢
  rw [List.all_append, h]; rfl
theorem digB_mem {l : List Int} (h : digB l = true) : ∀ x ∈ l, x = 48 ∨ x = 49 := by
  intro x hx
  have := List.all_eq_true.1 h x hx
  simpa using this
theorem parA_bits (l : List Int) : ∀ x ∈ parA l, x = 0 ∨ x = 1 := by
  intro x hx
  unfold parA at hx
  split at hx
  · rename_i h
    simp only [parL, List.mem_map] at hx
    obtain ⟨y, hy, rfl⟩ := hx
    have := digB_mem h y hy
    omega
  · simp at hx
theorem parA_range (l : List Int) : ∀ x ∈ parA l, 0 ≤ x ∧ x ≤ 255 := fun x hx => by have := parA_bits l x hx; omega

theorem parse_any (s : ByteArray) (w : World) (hs : s.size ≤ 281474976710656) :
    Calls Try.prog 22 #[.string s] w fun e w' => ∃ A c, e = .returned (.tuple #[.slice A (parA (sB s)).length c, .int .i64 (parE (sB s))]) ∧ Byt w' w'.heap.size A (parA (sB s)).length c (parA (sB s)) ∧ Below w.heap.size w w' := by
  have hmk := make_row s.size hs
  have hPA : Hid (parA (sB s) = if digB (sB s) = true then parL (sB s) else []) := rfl
  have hPE : Hid (parE (sB s) = if digB (sB s) = true then 0 else 4) := rfl
  have hPR := Lib.hid (parA_range (sB s))
  have HGD := Lib.hid (fun j => sB_getD s (j := j))
  have HLN := Lib.hid (sB_len s)
  go_enter Try.func22, Try.ntmps22
  go_wp2_with fail
  go_loopw [11] (fun i wr => ∃ j : Nat, j ≤ s.size ∧ i = .int .i64 j ∧ Hid (digB ((sB s).take j) = true) ∧ wr.rowIs w.heap.size 5 s.size (upto (parL (sB s)) j) ∧ Below w.heap.size w wr) (fun i _ => s.size - (intOf i).toNat)
  case atStart => exact ⟨0, Nat.zero_le _, rfl, rfl, upto_zero _, (Below.refl _ _).alloc (Nat.le_refl _) _⟩
  case round =>
    obtain ⟨j, hj, rfl, hdig, hrow, hbel⟩ := hrel
    by_cases hlt : j < s.size
    · have hget := HGD.out j hlt
      have htake : (sB s).take (j + 1) = (sB s).take j ++ [(s[j].toNat : Int)] := by rw [← hget]; exact take_succ_getD (by rw [HLN.out]; exact hlt)
      have hpar : (parL (sB s)).getD j 0 = (s[j].toNat : Int) - 48 := by rw [← hget]; exact getD_map (f := (· - 48)) (by rw [HLN.out]; exact hlt)
      have hgc := hrow.cell hlt
      have hgf := hrow.frozen j
      have HT := Lib.hid htake
      have HP := Lib.hid hpar
      clear hget htake hpar
      by_cases h48 : (s[j].toNat : Int) = 48 ∨ (s[j].toNat : Int) = 49
      · have hd2 : Hid (digB ((sB s).take (j + 1)) = true) := by
          rw [HT.out, digB_snoc, hdig.out]
          rcases h48 with h | h <;> rw [h] <;> rfl
        rcases h48 with h | h
        · have t1 : ((s[j].toNat : Int) == 48) = true := by simp [h]
          have t2 : ((s[j].toNat : Int) != 48) = false := by simp [h]
          have HH := Lib.hid h
          clear h
          go_wp2
          go_roundw
          case rel => exact ⟨j + 1, by omega, by go_num, hd2, upto_step hrow (by rw [HP.out]; have := HH.out; omega), hbel.setCell (Nat.le_refl _) _⟩
          case measure => simp [intOf]; omega
        · have t1 : ((s[j].toNat : Int) == 48) = false := by simp [h]
          have t2 : ((s[j].toNat : Int) != 48) = true := by simp [h]
          have t3 : ((s[j].toNat : Int) == 49) = true := by simp [h]
          have t4 : ((s[j].toNat : Int) != 49) = false := by simp [h]
          have HH := Lib.hid h
          clear h
          go_wp2
          go_roundw
          case rel => exact ⟨j + 1, by omega, by go_num, hd2, upto_step hrow (by rw [HP.out]; have := HH.out; omega), hbel.setCell (Nat.le_refl _) _⟩
          case measure => simp [intOf]; omega
      · have hno : digB (sB s) = false := digB_take (j := j + 1) (by
          rw [HT.out, digB_snoc]
          have a1 : ((s[j].toNat : Int) == 48) = false := by simp; omega
          have a2 : ((s[j].toNat : Int) == 49) = false := by simp; omega
          rw [a1, a2]; simp)
        have t1 : ((s[j].toNat : Int) == 48) = false := by simp; omega
        have t2 : ((s[j].toNat : Int) != 48) = true := by simp; omega
        have t3 : ((s[j].toNat : Int) == 49) = false := by simp; omega
        have t4 : ((s[j].toNat : Int) != 49) = true := by simp; omega
        have HN := Lib.hid hno
        clear h48 hno
        go_wp2
        go_ret2
        have e1 : parA (sB s) = [] := by rw [hPA.out, HN.out]; rfl
        have e2 : parE (sB s) = 4 := by rw [hPE.out, HN.out]; rfl
        exact ⟨none, 0, by rw [e1, e2]; rfl, by rw [e1]; exact Byt.nil_ _ _, hbel⟩
    · obtain rfl : j = s.size := by omega
      have hd := hdig.out
      rw [List.take_of_length_le (by rw [HLN.out]; exact Nat.le_refl _)] at hd
      have e1 : parA (sB s) = parL (sB s) := by rw [hPA.out, if_pos hd]
      have e2 : parE (sB s) = 0 := by rw [hPE.out, if_pos hd]
      have E1 := Lib.hid e1
      have E2 := Lib.hid e2
      have hrow2 := upto_done hrow
      clear e1 e2 hd hrow
      go_wp2
      go_ret2
      have hlen : (parA (sB s)).length = s.size := by rw [E1.out]; simp [parL, HLN.out]
      refine ⟨_, _, by rw [hlen, E2.out]; rfl, ?_, hbel⟩
      rw [hlen]
      exact Byt.of_row (by rw [E1.out]; exact hrow2) hlen (by simp only [maxLen]; omega) hPR.out

theorem str_snoc (l : List Int) (x : Int) : strOfNums (l ++ [x]) = strOfNums l ++ ⟨#[UInt8.ofNat x.toNat]⟩ := by
  have h := ByteArray.mk_append_mk (l.map fun n => UInt8.ofNat n.toNat) [UInt8.ofNat x.toNat]
  unfold strOfNums
  rw [List.map_append]
  exact h.symm
theorem rtext_any (w : World) (A : Option Addr) (n c : Nat) (l : List Int) (h : Byt w w.heap.size A n c l) :
    Calls Try.prog 24 #[.slice A n c] w fun e w' => e = .returned (.string (strOfNums (textL l))) ∧ w = w' := by
  have hmx := h.max
  have hcp := h.cap
  simp only [maxLen] at hmx
  go_enter Try.func24, Try.ntmps24
  go_wp2_with fail
  go_loop [3, 4] (fun v i => ∃ j : Nat, j ≤ n ∧ i = .int .i64 j ∧ v = .string (strOfNums (textL (l.take j)))) (fun _ i => n - (intOf i).toNat)
  case atStart => exact ⟨0, Nat.zero_le _, rfl, rfl⟩
  case round =>
    obtain ⟨j, hj, rfl, rfl⟩ := hrel
    by_cases hlt : j < n
    · obtain ⟨b, off, rfl, hb, hc⟩ := h.cells (by omega)
      have hrange := h.range j
      have hcj := hc j hlt
      have hget : textL (l.take (j + 1)) = textL (l.take j) ++ [48 + l.getD j 0 % 2] := by rw [take_succ_getD (by rw [h.len]; exact hlt)]; simp [textL]
      generalize l.getD j 0 = q at hrange hcj hget
      have hsz : (strOfNums (textL (l.take j))).size + 1 ≤ 9223372036854775807 := by rw [strOfNums_size, textL_len, List.length_take, h.len]; omega
      have HG := Lib.hid hget
      have HH := Lib.hid h
      obtain ⟨hq0, hq1⟩ := hrange
      clear hget hc h
      by_cases h1 : q % 2 = 1
      · have t1 : (q % 2 == 1) = true := by simp [h1]
        have H1 := Lib.hid h1
        clear h1
        go_wp2
        go_round
        case rel => exact ⟨j + 1, by omega, by go_num, by rw [HG.out, str_snoc, H1.out]; rfl⟩
        case measure => simp [intOf]; omega
      · have h0 : q % 2 = 0 := by omega
        have t1 : (q % 2 == 1) = false := by simp [h0]
        have H0 := Lib.hid h0
        clear h0 h1
        go_wp2
        go_round
        case rel => exact ⟨j + 1, by omega, by go_num, by rw [HG.out, str_snoc, H0.out]; rfl⟩
        case measure => simp [intOf]; omega
    · obtain rfl : j = n := by omega
      have hl := h.len
      rw [List.take_of_length_le (by omega)]
      clear hl h
      go_wp2
      go_ret
      exact ⟨rfl, rfl⟩
end Go.Proofs.Ytjkigjefgfcaaaa
