/- What the document's Stuff and the two Unstuffs answer. -/
import Derived.Test.YtkgnhmddnfmhjaaWBitsB
namespace Go.Proofs.Ytkgnhmddnfmhjaa
open Go.RowKit
theorem rstuff_any (w : World) (A : Option Addr) (n c : Nat) (l : List Int) (h : Byt w w.heap.size A n c l) (hn : n ≤ 1000000) :
    Calls Try.prog 19 #[.slice A n c] w fun e w' => ∃ A' c', e = .returned (.slice A' (stuffL l).length c') ∧ Byt w' w'.heap.size A' (stuffL l).length c' (stuffL l) ∧ Below w.heap.size w w' := by
  go_enter Try.func19, Try.ntmps19
  go_wp2_with fail
  go_loopw [4, 3] (fun i v wr => ∃ (j : Nat) (out : List Int), j ≤ n ∧ i = .int .i64 j ∧ Hid (out = stuffL (l.take j)) ∧ wr.ownsRow w.heap.size 5 1 v out.length (out.map (Value.int .u8)) ∧ Below w.heap.size w wr) (fun i _ _ => n - (intOf i).toNat)
  case atStart => exact ⟨0, [], Nat.zero_le _, rfl, rfl, World.ownsRow_lit w #[] 0 (Nat.le_refl _) (by simp [maxLen]) rfl, (Below.refl _ _).alloc (Nat.le_refl _) _⟩
  case round =>
    obtain ⟨j, out, hj, rfl, hout, hown, hbel⟩ := hrel
    by_cases hlt : j < n
    · obtain ⟨b, off, rfl, hb, hc⟩ := h.cells (by omega)
      have hrange := h.range j
      have hcj := hc j hlt
      have hget : l.take (j + 1) = l.take j ++ [l.getD j 0] := take_succ_getD (by rw [h.len]; exact hlt)
      generalize l.getD j 0 = q at hrange hcj hget
      have hcell : wr.cell? ⟨b, off + j, none⟩ = some (.int .u8 q) := (hbel.cell (p := ⟨b, off + j, none⟩) hb).trans hcj
      have hstep : stuffL (l.take (j + 1)) = stuffStep out q := by rw [hget, stuffL_snoc, ← hout.out]
      have hsz := stuff_size (l.take j)
      have hln : (l.take j).length = j := by rw [List.length_take, h.len]; omega
      rw [hln, ← hout.out] at hsz
      have hol : out.length ≤ 2000000 := by omega
      have hob : ∀ y ∈ out, y = 0 ∨ y = 1 := by rw [hout.out]; exact stuff_bits _
      have hr1 : ∀ y ∈ out ++ [q % 2], 0 ≤ y ∧ y ≤ 255 := fun y hy => by
        simp only [List.mem_append, List.mem_singleton] at hy
        rcases hy with hy | hy
        · have := hob y hy; omega
        · omega
      have hr2 : ∀ y ∈ out ++ [q % 2] ++ [1 - q % 2], 0 ≤ y ∧ y ≤ 255 := fun y hy => by
        rw [List.mem_append] at hy
        rcases hy with hy | hy
        · exact hr1 y hy
        · simp only [List.mem_singleton] at hy; omega
      have HST := Lib.hid hstep
      have HH := Lib.hid h
      have HR1 := Lib.hid hr1
      have HR2 := Lib.hid hr2
      obtain ⟨hq0, hq1⟩ := hrange
      by_cases h5 : tailN (out ++ [q % 2]) = 5
      · have H5 := Lib.hid h5
        clear hcj hget hc h hstep hsz hln h5 hob hr1 hr2
        go_wp2_with (at_builtin; refine wpList_byteS rfl (.tmp 12) (.tmp 18) rfl Try.underlying25 byte_info rfl hown rfl (by omega) hbel.size HR1.out ?_; intro A1 c1 w1 hown1 hB1 hbel1)
        refine (tail_any _ _ _ _ _ hB1).mono ?_
        rintro e w2 ⟨he, hb2⟩
        rw [show ((tailN (out ++ [q % 2]) : Nat) : Int) = 5 by rw [H5.out]; rfl] at he
        subst he
        have hbel2 := (hbel.trans hbel1).trans (hb2.mono (Nat.le_trans hbel.size hbel1.size))
        have hcell2 : w2.cell? ⟨b, off + j, none⟩ = some (.int .u8 q) := (((hbel1.trans (hb2.mono (Nat.le_trans hbel.size hbel1.size))).cell (p := ⟨b, off + j, none⟩) hb)).trans hcell
        have hown2 := own_below hown1 hb2
        have hlen2 : out.length + 1 = (out ++ [q % 2]).length := by simp
        have HL2 := Lib.hid hlen2
        clear hlen2 hcell
        go_wp2_with (at_builtin; refine wpList_byteS rfl (.tmp 23) (.tmp 30) rfl Try.underlying25 byte_info rfl hown2 rfl (by omega) hbel2.size HR2.out ?_; intro A3 c3 w3 hown3 hB3 hbel3)
        go_roundw
        case rel =>
          have e1 : stuffStep out q = out ++ [q % 2] ++ [1 - q % 2] := by unfold stuffStep; rw [if_pos H5.out]
          have e2 : (stuffStep out q).length = out.length + 1 + 1 := by rw [e1]; simp
          exact ⟨j + 1, stuffStep out q, by omega, by go_num, HST.out.symm, by rw [e2, e1]; exact hown3, hbel2.trans hbel3⟩
        case measure => simp [intOf]; omega
      · have H5 := Lib.hid h5
        have hd : ((tailN (out ++ [q % 2]) : Int) == 5) = false := by simp; omega
        clear hcj hget hc h hstep hsz hln h5 hob hr1 hr2
        go_wp2_with (at_builtin; refine wpList_byteS rfl (.tmp 12) (.tmp 18) rfl Try.underlying25 byte_info rfl hown rfl (by omega) hbel.size HR1.out ?_; intro A1 c1 w1 hown1 hB1 hbel1)
        refine (tail_any _ _ _ _ _ hB1).mono ?_
        rintro e w2 ⟨rfl, hb2⟩
        have hbel2 := (hbel.trans hbel1).trans (hb2.mono (Nat.le_trans hbel.size hbel1.size))
        have hown2 := own_below hown1 hb2
        go_wp2
        go_roundw
        case rel =>
          have e1 : stuffStep out q = out ++ [q % 2] := by unfold stuffStep; rw [if_neg H5.out]
          have e2 : (stuffStep out q).length = out.length + 1 := by rw [e1]; simp
          exact ⟨j + 1, stuffStep out q, by omega, by go_num, HST.out.symm, by rw [e2, e1]; exact hown2, hbel2⟩
        case measure => simp [intOf]; omega
    · obtain rfl : j = n := by omega
      have hl := h.len
      have e := hout.out
      rw [List.take_of_length_le (by omega)] at e
      subst e
      clear hl hout
      go_wp2
      go_ret
      obtain ⟨A', c', rfl, hB, _⟩ := Byt.of_own hown (stuff_range l)
      exact ⟨_, _, rfl, hB, hbel⟩

end Go.Proofs.Ytkgnhmddnfmhjaa