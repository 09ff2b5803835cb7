/- What Pack answers: what its steps come to at last. -/
import Derived.Test.YtjofgomnnpeepaaGg
namespace Go.Proofs.Ytjofgomnnpeepaa
open Go.RowKit Go.Sort

theorem i64_andNot_sub {k i : Nat} (hk : k < 2048) (hi : i < 11) (h : k.testBit i = true) : bits .andNot .i64 (k : Int) ((2 ^ i : Nat) : Int) = ((k - 2 ^ i : Nat) : Int) := by
  have hs2 := sub_testBit hk hi h
  have key : (BitVec.ofInt 64 (k : Int) &&& ~~~ (BitVec.ofInt 64 ((2 ^ i : Nat) : Int))).toNat = k - 2 ^ i := by
    rw [BitVec.ofInt_natCast, BitVec.ofInt_natCast]
    have e : (BitVec.ofNat 64 k &&& ~~~ (BitVec.ofNat 64 (2 ^ i))) = BitVec.ofNat 64 (k - 2 ^ i) := by
      apply BitVec.eq_of_getLsbD_eq
      intro j hj
      have hd : decide (j < 64) = true := decide_eq_true hj
      simp only [BitVec.getLsbD_and, BitVec.getLsbD_not, BitVec.getLsbD_ofNat, Nat.testBit_two_pow, hd, hs2, Bool.true_and]
      by_cases e : i = j
      · subst e; simp
      · have e' : ¬ j = i := fun h => e h.symm
        simp [e, e']
    rw [e, BitVec.toNat_ofNat, Nat.mod_eq_of_lt (Nat.lt_of_le_of_lt (Nat.sub_le _ _) (by omega))]
  have hs : bits .andNot .i64 (k : Int) ((2 ^ i : Nat) : Int) = IntKind.i64.wrap ((BitVec.ofInt 64 (k : Int) &&& ~~~ (BitVec.ofInt 64 ((2 ^ i : Nat) : Int))).toNat : Nat) := rfl
  rw [hs, key, IntKind.wrap_i64]
  generalize k - 2 ^ i = z at key ⊢
  have : z ≤ 2048 := by
    rw [← key]
    exact Nat.le_of_lt (Nat.lt_of_le_of_lt (show _ ≤ k by rw [BitVec.toNat_and, BitVec.toNat_ofInt, show ((k : Int) % ((2 ^ 64 : Nat) : Int)).toNat = k by omega]; exact Nat.and_le_left) hk)
  omega
/-- How many cells of an array hold something else than -1. -/
def cnt (w : World) (g : Nat) : Nat := ((List.range 2048).filter fun q => match w.cell? ⟨g, q, none⟩ with | some (.int .i64 z) => z != -1 | _ => true).length
set_option maxRecDepth 40000 in
theorem cnt_mk {w : World} {g : Nat} {M : Nat → Int} (h : Mk w g M) : cnt w g = (codes M 2048).length := by
  unfold cnt codes
  exact congrArg List.length (List.filter_congr fun q hq => by rw [h.cell (List.mem_range.1 hq)])
theorem cnt_drew (w : World) (g : Nat) : cnt w.drew g = cnt w g := rfl
attribute [irreducible] cnt
/-- What Pack hands back. -/
def Packed (l : List Int) (n : Nat) (w : World) (e : Ending) (w' : World) : Prop := ∃ M, Reach (m0 l n) M ∧ NoPair M ∧ Fit M ∧ Listed M e w' ∧ Below w.heap.size w w'
theorem mk_nxt {w : World} {g : Nat} {M : Nat → Int} {a i k : Nat} (h : Mk w g M) (hF : First M a i) (hk : M a = k) :
    Mk ((w.setCell ⟨g, a ||| 2 ^ i, none⟩ (.int .i64 (-1))).setCell ⟨g, a, none⟩ (.int .i64 ((k - 2 ^ i : Nat) : Int))) g (nxt M a i) := by
  obtain ⟨ha, hi, ⟨k2, hk2, hb, hab, hr⟩, _⟩ := hF
  have e2 : k2 = k := by rw [hk] at hk2; omega
  subst e2
  have hp := pow_le_of_bit hb
  have hne := second_ne hab
  refine ((h.set (a ||| 2 ^ i) (.int .i64 (-1))).set a (.int .i64 ((k2 - 2 ^ i : Nat) : Int))).congr fun q _ => ?_
  unfold nxt
  by_cases e : q = a
  · rw [if_pos e, if_pos e, hk]; congr 1; omega
  · rw [if_neg e, if_neg e]
    by_cases e2 : q = a ||| 2 ^ i
    · rw [if_pos e2, if_pos e2]
    · rw [if_neg e2, if_neg e2]

set_option maxRecDepth 40000 in
set_option maxHeartbeats 1000000 in
theorem pack_any (w : World) (A : Option Addr) (n c : Nat) (l : List Int) (h : Nums w w.heap.size A n c l) :
    Calls Try.prog 16 #[.slice A n c] w (Packed l n w) := by
  have HH := Lib.hid h
  clear h
  go_enter Try.func16, Try.ntmps16
  go_wp2_with (go_at_call 26; refine (single_any _ _ _ _ _ HH.out).mono ?_; rintro e w1 ⟨rfl, hM, hb⟩)
  have HM : Hid (Mk w1 w.heap.size (m0 l n) ∧ Fit (m0 l n)) := ⟨hM, (inv_start l n).fit⟩
  clear hM
  go_loopw [4] (fun _ wr => ∃ M, Reach (m0 l n) M ∧ Hid (Mk wr w.heap.size M ∧ Fit M) ∧ Below w.heap.size w wr) (fun _ wr => cnt wr w.heap.size)
  case atStart => exact ⟨_, .start, HM, hb⟩
  case round =>
    obtain ⟨M, hR, hMF, hb⟩ := hrel
    clear HM
    go_wp2_with fail
    refine (pair_any _ _ M hMF.out.1 hMF.out.2).mono ?_
    rintro e w2 ⟨(⟨a, i, ha, hi, hg, hfst, he⟩ | ⟨hno, x, y, rfl⟩), hb2⟩
    · have hF1 : First M a i := ⟨ha, hi, hg, hfst⟩
      obtain ⟨k, hk, hbk, hab, hr⟩ := hg
      have hks := good_small hMF.out.2 ha hk
      have hp := pow_le_of_bit hbk
      have hM2 : Mk w2 w.heap.size M := hMF.out.1.below hb2 hMF.out.1.lt
      have hpl : 2 ^ i < 2048 := Nat.pow_lt_pow_right (m := i) (n := 11) (by omega) hi
      have hY : bits .or .i64 (a : Int) ((2 ^ i : Nat) : Int) = ((a ||| 2 ^ i : Nat) : Int) := i64_or_low _ _ ha hpl
      have hrl := second_lt ha hi
      have hne := second_ne hab
      have hc : w2.cell? ⟨w.heap.size, (bits .or .i64 (a : Int) ((2 ^ i : Nat) : Int)).toNat, none⟩ = some (.int .i64 (M (a ||| 2 ^ i))) := by rw [hY]; exact hM2.cell hrl
      have hf : w2.frozen? ⟨w.heap.size, (bits .or .i64 (a : Int) ((2 ^ i : Nat) : Int)).toNat, none⟩ = false := hM2.fr _
      have hy0 : 0 ≤ bits .or .i64 (a : Int) ((2 ^ i : Nat) : Int) := by rw [hY]; omega
      have hy1 : bits .or .i64 (a : Int) ((2 ^ i : Nat) : Int) < 2048 := by rw [hY]; omega
      have hM3 := hM2.set (a ||| 2 ^ i) (.int .i64 (-1))
      have hc3 : (w2.setCell ⟨w.heap.size, (bits .or .i64 (a : Int) ((2 ^ i : Nat) : Int)).toNat, none⟩ (.int .i64 (-1))).cell? ⟨w.heap.size, a, none⟩ = some (.int .i64 (k : Int)) := by
        rw [hY]
        have := hM3.cell ha
        rw [if_neg (fun e => hne e.symm), hk] at this
        exact this
      have hf3 : (w2.setCell ⟨w.heap.size, (bits .or .i64 (a : Int) ((2 ^ i : Nat) : Int)).toNat, none⟩ (.int .i64 (-1))).frozen? ⟨w.heap.size, a, none⟩ = false := by
        rw [hY]; exact hM3.fr a
      have hX := i64_andNot_sub hks hi hbk
      have hlast : Hid (∀ w4, w4 = (w2.setCell ⟨w.heap.size, (bits .or .i64 (a : Int) ((2 ^ i : Nat) : Int)).toNat, none⟩ (.int .i64 (-1))).setCell ⟨w.heap.size, a, none⟩ (.int .i64 (bits .andNot .i64 (k : Int) ((2 ^ i : Nat) : Int))) →
          Mk w4 w.heap.size (nxt M a i) ∧ Below w.heap.size w w4 ∧ cnt w4 w.heap.size < cnt wr w.heap.size) := by
        rintro w4 rfl
        have h4 : Mk _ w.heap.size (nxt M a i) := mk_nxt hM2 hF1 hk
        rw [hX, hY, Int.toNat_natCast]
        refine ⟨h4, ((hb.trans (hb2.mono hb.size)).setCell (Nat.le_refl _) _).setCell (Nat.le_refl _) _, ?_⟩
        rw [cnt_mk hMF.out.1, cnt_mk h4]
        exact codes_less hF1
      have HF1 := Lib.hid hF1
      have HNF := Lib.hid (nxt_fit hMF.out.2 hF1)
      clear hX hM3 hM2 hY hrl hne hpl hp hk hr hfst hF1 hbk hab
      generalize 2 ^ i = p at he hc hf hy0 hy1 hc3 hf3 hlast
      subst he
      go_wp2_with fail
      go_region
      go_wp2_with fail
      obtain ⟨h1, h2, h3⟩ := hlast.out _ rfl
      exact ⟨⟨_, hR.step HF1.out, ⟨h1, HNF.out⟩, h2.drew⟩, by rw [cnt_drew]; exact h3⟩
    · go_wp2_with (go_at_call 28; refine (filters_any _ _ M (hMF.out.1.below hb2 hMF.out.1.lt)).mono ?_; rintro e w3 ⟨⟨A', c', rfl, hF⟩, hb3⟩)
      exact bodyPost_ret (results_tmp rfl _ _ _) rfl ⟨M, hR, hno, hMF.out.2, ⟨A', c', rfl, hF⟩, (hb.trans (hb2.mono hb.size)).trans (hb3.mono (hb.trans (hb2.mono hb.size)).size)⟩
end Go.Proofs.Ytjofgomnnpeepaa
