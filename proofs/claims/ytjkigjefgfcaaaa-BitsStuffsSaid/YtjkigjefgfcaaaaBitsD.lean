/- What the document's Unstuff answers: the same as that of package bits. -/
import Derived.Test.YtjkigjefgfcaaaaBitsC
namespace Go.Proofs.Ytjkigjefgfcaaaa
open Go.RowKit

theorem own_drewN {w : World} {base e size n : Nat} {v : Value} {xs : List Value} (h : w.ownsRow base e size v n xs) (k : Nat) : (w.drewN k).ownsRow base e size v n xs := h

theorem runstuff_any (w : World) (A : Option Addr) (n c : Nat) (l : List Int) (h : Byt w w.heap.size A n c l) (hn : n ≤ 1000000) :
    Calls Try.prog 16 #[.slice A n c] w fun e w' => ∃ A' c', e = .returned (.tuple #[.slice A' (unA l).length c', .int .i64 (unE l)]) ∧ Byt w' w'.heap.size A' (unA l).length c' (unA l) ∧ Below w.heap.size w w' := by
  have hbits := pl_bits l
  have HU : Hid (unA l = (match unO (pl l) with | none => [] | some out => if tailN (pl l) = 5 then [] else out)) := rfl
  have HE : Hid (unE l = (match unO (pl l) with | none => 9 | some _ => if tailN (pl l) = 5 then 5 else 0)) := rfl
  have HR := Lib.hid (unA_range l)
  have HB := Lib.hid hbits
  clear hbits
  go_enter Try.func16, Try.ntmps16
  go_wp2_with fail
  refine (plain_any _ _ _ _ _ h (by omega)).mono ?_
  rintro e w1 ⟨AP, cP, rfl, hP, hbP⟩
  clear h
  generalize pl l = P at hP HU HE HB
  go_wp2_with fail
  go_loopw [6, 5] (fun i v wr => ∃ (j : Nat) (out : List Int), j ≤ n ∧ i = .int .i64 j ∧ Hid (unO (P.take j) = some out) ∧ wr.ownsRow w1.heap.size 5 1 v out.length (out.map (Value.int .u8)) ∧ Below w1.heap.size w1 wr) (fun i _ _ => n - (intOf i).toNat)
  case atStart => exact ⟨0, [], Nat.zero_le _, rfl, rfl, World.ownsRow_lit w1 #[] 0 (Nat.le_refl _) (by simp [maxLen]) rfl, (Below.refl _ _).alloc (Nat.le_refl _) _⟩
  case round =>
    obtain ⟨j, out, hj, rfl, hout, hown, hbel⟩ := hrel
    by_cases hlt : j < n
    · have hPb := hP.below hbel
      obtain ⟨b, off, rfl, hb, hc⟩ := hPb.cells (by omega)
      have hcap := hP.cap
      have hcj := hc j hlt
      have hget : P.take (j + 1) = P.take j ++ [P.getD j 0] := take_succ_getD (by rw [hP.len]; exact hlt)
      have hln : (P.take j).length = j := by rw [List.length_take, hP.len]; omega
      have hol : out.length ≤ j := by have := (unO_sub _ _ hout.out).1; omega
      have hor : ∀ y ∈ out ++ [P.getD j 0], 0 ≤ y ∧ y ≤ 255 := fun y hy => by
        simp only [List.mem_append, List.mem_singleton] at hy
        rcases hy with hy | rfl
        · have := HB.out y (List.mem_of_mem_take ((unO_sub _ _ hout.out).2 y hy)); omega
        · have := hP.range j; omega
      have hpre : Byt wr wr.heap.size (some ⟨b, off, none⟩) j cP (P.take j) := by
        refine ⟨hln, by omega, hP.max, fun x hx => hP.rng x (List.mem_of_mem_take hx), fun _ => ⟨b, off, rfl, Nat.lt_of_lt_of_le hb hbel.size, fun t ht => ?_⟩⟩
        rw [hc t (by omega)]
        simp [List.getD, ht]
      have hlast : 0 < j → P.getD (j - 1) 0 = lastB (P.take j) := fun h0 => by
        obtain ⟨j', rfl⟩ : ∃ j', j = j' + 1 := ⟨j - 1, by omega⟩
        rw [take_succ_getD (by rw [hP.len]; omega), lastB_snoc]; rfl
      have hcprev : 0 < j → wr.cell? ⟨b, off + (j - 1), none⟩ = some (.int .u8 (P.getD (j - 1) 0)) := fun h0 => hc (j - 1) (by omega)
      have hr := hP.range j
      have ht5 : tailN (P.take j) ≤ 5 := (stuff_un _ (fun x hx => HB.out x (List.mem_of_mem_take hx)) out hout.out).1
      have htl := tailN_le (P.take j)
      have hbw : b < wr.heap.size := Nat.lt_of_lt_of_le hb hbel.size
      generalize hq : P.getD j 0 = q at hcj hget hor hr
      generalize hm : tailN (P.take j) = m at ht5 htl
      have HP := Lib.hid hP
      have HC := Lib.hid hc
      have HG := Lib.hid hget
      have HO := Lib.hid hor
      have HPR := Lib.hid hpre
      have HM := Lib.hid hm
      have hta := tail_any wr (some ⟨b, off, none⟩) j cP (P.take j) hpre
      rw [hm] at hta
      have HTA := Lib.hid hta
      obtain ⟨hq0, hq1⟩ := hr
      have j1 : ((j : Int) - 1).toNat = j - 1 := by omega
      by_cases h5 : m = 5
      · have hj0 : 0 < j := by omega
        have hcr := hcprev hj0
        rw [hlast hj0] at hcr
        have hrr : 0 ≤ lastB (P.take j) ∧ lastB (P.take j) ≤ 255 := by rw [← hlast hj0]; exact hP.range _
        generalize hr : lastB (P.take j) = r at hcr hrr
        have HRR := Lib.hid hr
        have hd : ((m : Int) == 5) = true := by simp; omega
        have hlt5 : ¬ (m : Int) < 5 := by omega
        have H5 := Lib.hid h5
        have hne : ¬ P.take j = [] := fun e => by rw [e, tailN_nil] at hm; omega
        by_cases hqr : q = r
        · have hnone : unO P = none := unO_take_none (j := j + 1) (by rw [hget]; exact unO_snoc_bad hout.out (by rw [hm, h5]) (by rw [hr, hqr]))
          have HN := Lib.hid hnone
          have he : (q == r) = true := by simp [hqr]
          clear hP hPb hc hget hor hpre hta hm hq hlast hcprev hln hnone hqr hr htl ht5 hout h5 hne
          go_wp2_with fail
          refine HTA.out.mono ?_
          rintro e w2 ⟨rfl, hb2⟩
          have hcq2 : w2.cell? ⟨b, off + j, none⟩ = some (.int .u8 q) := (hb2.cell (p := ⟨b, off + j, none⟩) hbw).trans hcj
          have hcr2 : w2.cell? ⟨b, off + (j - 1), none⟩ = some (.int .u8 r) := (hb2.cell (p := ⟨b, off + (j - 1), none⟩) hbw).trans hcr
          have hbel2 := hbel.trans (hb2.mono hbel.size)
          clear hcj hcr
          go_wp2_with fail
          go_quiet (fail)
          go_wp2
          go_ret2
          have e1 : unA l = [] := by rw [HU.out, HN.out]
          have e2 : unE l = 9 := by rw [HE.out, HN.out]
          exact ⟨none, 0, by rw [e1, e2]; rfl, by rw [e1]; exact Byt.nil_ _ _, below_drewN (below_trans' hbP hbel2) _⟩
        · have hskip : unO (P.take (j + 1)) = some out := by rw [hget]; exact unO_snoc_skip hout.out (by rw [hm, h5]) (fun e => hqr (by rw [← e, hr]))
          have HK := Lib.hid hskip
          have he : (q == r) = false := by simp [hqr]
          clear hP hPb hc hget hor hpre hta hm hq hlast hcprev hln hskip hqr hr htl ht5 hout h5 hne
          go_wp2_with fail
          refine HTA.out.mono ?_
          rintro e w2 ⟨rfl, hb2⟩
          have hcq2 : w2.cell? ⟨b, off + j, none⟩ = some (.int .u8 q) := (hb2.cell (p := ⟨b, off + j, none⟩) hbw).trans hcj
          have hcr2 : w2.cell? ⟨b, off + (j - 1), none⟩ = some (.int .u8 r) := (hb2.cell (p := ⟨b, off + (j - 1), none⟩) hbw).trans hcr
          have hbel2 := hbel.trans (hb2.mono hbel.size)
          have hown2 := own_below hown hb2
          clear hcj hcr
          go_wp2_with fail
          go_quiet (fail)
          go_wp2
          go_roundw
          case rel => exact ⟨j + 1, out, by omega, by go_num, HK.out, hown2, below_drewN hbel2 _⟩
          case measure => simp [intOf]; omega
      · have hkeep : unO (P.take (j + 1)) = some (out ++ [q]) := by rw [hget]; exact unO_snoc_keep hout.out (by rw [hm]; exact h5)
        have HK := Lib.hid hkeep
        have hd : ((m : Int) == 5) = false := by simp; omega
        have hlt5 : (m : Int) < 5 := by omega
        clear hP hPb hc hget hor hpre hta hm hq hlast hcprev hln hkeep htl ht5 hout h5
        go_wp2_with fail
        refine HTA.out.mono ?_
        rintro e w2 ⟨rfl, hb2⟩
        have hcq2 : w2.cell? ⟨b, off + j, none⟩ = some (.int .u8 q) := (hb2.cell (p := ⟨b, off + j, none⟩) hbw).trans hcj
        have hbel2 := hbel.trans (hb2.mono hbel.size)
        have hown2 := own_below hown hb2
        clear hcj
        go_wp2_with fail
        go_quiet (fail)
        go_wp2_with (at_builtin; refine wpList_byte rfl (.tmp 37) (.tmp 42) rfl Try.underlying23 byte_info rfl (own_drewN hown2 _) rfl (by omega) (below_drewN hbel2 _).size ?_; intro v' w' hown' hbel')
        go_roundw
        case rel =>
          have e2 : (out ++ [q]).length = out.length + 1 := by simp
          exact ⟨j + 1, out ++ [q], by omega, by go_num, HK.out, by rw [e2]; exact hown', (below_drewN hbel2 _).trans hbel'⟩
        case measure => simp [intOf]; omega
    · obtain rfl : j = n := by omega
      have ho := hout.out
      rw [List.take_of_length_le (by rw [hP.len]; exact Nat.le_refl _)] at ho
      have HO := Lib.hid ho
      have hPb := hP.below hbel
      have hPw : Byt wr wr.heap.size AP j cP P := hPb.more hbel.size
      have hta := tail_any wr AP j cP P hPw
      generalize hm : tailN P = m at hta
      have HTA := Lib.hid hta
      have HM := Lib.hid hm
      by_cases h5 : m = 5
      · have hd : ((m : Int) == 5) = true := by simp; omega
        have H5 := Lib.hid h5
        clear hP hPb hPw ho hout hta hm h5
        go_wp2_with fail
        refine HTA.out.mono ?_
        rintro e w2 ⟨rfl, hb2⟩
        have hbel2 := hbel.trans (hb2.mono hbel.size)
        go_wp2
        go_ret2
        have e1 : unA l = [] := by rw [HU.out, HO.out]; simp only; rw [if_pos (by rw [HM.out]; exact H5.out)]
        have e2 : unE l = 5 := by rw [HE.out, HO.out]; simp only; rw [if_pos (by rw [HM.out]; exact H5.out)]
        exact ⟨none, 0, by rw [e1, e2]; rfl, by rw [e1]; exact Byt.nil_ _ _, below_trans' hbP hbel2⟩
      · have hd : ((m : Int) == 5) = false := by simp; omega
        have H5 := Lib.hid h5
        clear hP hPb hPw ho hout hta hm h5
        go_wp2_with fail
        refine HTA.out.mono ?_
        rintro e w2 ⟨rfl, hb2⟩
        have hbel2 := hbel.trans (hb2.mono hbel.size)
        have hown2 := own_below hown hb2
        go_wp2
        go_ret2
        have e1 : unA l = out := by rw [HU.out, HO.out]; simp only; rw [if_neg (by rw [HM.out]; exact H5.out)]
        have e2 : unE l = 0 := by rw [HE.out, HO.out]; simp only; rw [if_neg (by rw [HM.out]; exact H5.out)]
        obtain ⟨A', c', rfl, hB, _⟩ := Byt.of_own hown2 (by rw [← e1]; exact HR.out)
        exact ⟨_, _, by rw [e1, e2]; rfl, by rw [e1]; exact hB, below_trans' hbP hbel2⟩
end Go.Proofs.Ytjkigjefgfcaaaa
