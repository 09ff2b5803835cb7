/- What a Reader's Num and Raw answer, and what they leave. -/
import Derived.Test.YtbbkobfibobfcaaKWordG
import Derived.StillTailTactics
import Derived.Deep.RegionHeld3
import Derived.Deep.RegionLaw
import Derived.Deep.RegionWith
import Derived.Deep.DeepMust
namespace Go.Proofs.Ytbbkobfibobfcaa
open Go.RowKit
theorem Byt.take {w : World} {B n c : Nat} {A : Option Addr} {l : List Int} (h : Byt w B A n c l) {k : Nat} (hk : k ≤ n) : Byt w B A k c (l.take k) :=
  ⟨by rw [List.length_take, h.len]; omega, by have := h.cap; omega, h.max, fun x hx => h.rng x (List.mem_of_mem_take hx), fun h0 => by
    obtain ⟨b, off, e, hb, hc⟩ := h.cells (by omega)
    refine ⟨b, off, e, hb, fun j hj => ?_⟩
    rw [hc j (by omega)]
    simp [List.getD, hj]⟩
theorem Byt.cut {w : World} {B n c : Nat} {A : Option Addr} {l : List Int} (h : Byt w B A n c l) {s : Nat} (hs : s ≤ n) : Byt w B (if c = s then A else A.map (fun x => x.add s)) (n - s) (c - s) (l.drop s) :=
  ⟨by rw [List.length_drop, h.len], by have := h.cap; omega, by have := h.max; omega, fun x hx => h.rng x (List.mem_of_mem_drop hx), fun h0 => by
    obtain ⟨b, off, rfl, hb, hc⟩ := h.cells (by omega)
    have := h.cap
    rw [if_neg (by omega)]
    refine ⟨b, off + s, ?_, hb, fun j hj => ?_⟩
    · show some ((⟨b, off, none⟩ : Addr).add s) = _
      have e : (⟨b, off, none⟩ : Addr).add s = ⟨b, off + s, none⟩ := by unfold Addr.add; split <;> simp_all
      rw [e]
    · rw [Nat.add_assoc, hc (s + j) (by omega)]
      simp [List.getD, List.getElem?_drop]⟩
/-- What stands there as a number of a kind, and the error. -/
def nextN (k : Int) (l : List Int) : Int := if kSize k = 0 ∨ (l.length : Int) < kSize k then 0 else getN k (l.take (kSize k).toNat)
def nextE (k : Int) (l : List Int) : Int := if kSize k = 0 then 2 else if (l.length : Int) < kSize k then 5 else getE k (l.take (kSize k).toNat)

theorem next_any (w : World) (g : Nat) (er k : Int) (A : Option Addr) (n c : Nat) (l : List Int) (h : RdAt w g er A n c) (hB : Byt w w.heap.size A n c l) :
    Calls Try.prog 56 #[.pointer (some ⟨g, 0, none⟩), .int .i64 k] w fun e w' => e = .returned (.tuple #[.int .i64 (nextN k l), .int .i64 (nextE k l)]) ∧ Below w.heap.size w w' := by
  have hl := h.lt
  have hkb := k_bounds k
  have hln := hB.len
  by_cases h0 : kSize k = 0
  · have e1 : nextN k l = 0 := by unfold nextN; rw [if_pos (.inl h0)]
    have e2 : nextE k l = 2 := by unfold nextE; rw [if_pos h0]
    rw [e1, e2]
    have hsz := fun w => size_any k w
    rw [h0] at hsz
    have HSZ := Lib.hid hsz
    clear hsz h0 e1 e2 hB hln h
    go_enter Try.func56, Try.ntmps56
    go_wp2_with (go_at_call 57; refine (HSZ.out _).mono ?_; rintro e w1 ⟨rfl, hb1⟩)
    go_ret2
    exact ⟨rfl, hb1⟩
  · obtain ⟨s, hs⟩ : ∃ s : Nat, kSize k = s := ⟨(kSize k).toNat, by omega⟩
    have hsz := fun w => size_any k w
    rw [hs] at hsz
    have HSZ := Lib.hid hsz
    have hz : ((s : Int) == 0) = false := by simp; omega
    by_cases h1 : (n : Int) < s
    · have e1 : nextN k l = 0 := by unfold nextN; rw [if_pos (.inr (by omega))]
      have e2 : nextE k l = 5 := by unfold nextE; rw [if_neg h0, if_pos (by omega)]
      have e3 : lackE n s = 5 := by unfold lackE; rw [if_neg (by omega), if_pos h1]
      have hlk := fun w (h : RdAt w g er A n c) => lacks_any w g er s A n c h
      rw [e3] at hlk
      rw [e1, e2]
      have HLK := Lib.hid hlk
      clear hsz h0 e1 e2 e3 hB hln hs hlk
      go_enter Try.func56, Try.ntmps56
      go_wp2_with (go_at_call 57; refine (HSZ.out _).mono ?_; rintro e w1 ⟨rfl, hb1⟩)
      refine (HLK.out _ (h.below hb1 hl)).mono ?_
      rintro e w2 ⟨rfl, rfl⟩
      go_wp2
      go_ret2
      exact ⟨rfl, hb1⟩
    · have e1 : nextN k l = getN k (l.take s) := by unfold nextN; rw [if_neg (by omega), hs]; rfl
      have e2 : nextE k l = getE k (l.take s) := by unfold nextE; rw [if_neg h0, if_neg (by omega), hs]; rfl
      have e3 : lackE n s = 0 := by unfold lackE; rw [if_neg (by omega), if_neg h1]
      have hlk := fun w (h : RdAt w g er A n c) => lacks_any w g er s A n c h
      rw [e3] at hlk
      rw [e1, e2]
      have HLK := Lib.hid hlk
      have hcp := hB.cap
      have hmx := hB.max
      simp only [maxLen] at hmx
      have hT := hB.take (k := s) (by omega)
      have HT := Lib.hid hT
      clear hsz h0 e1 e2 e3 hln hs hlk hT hB
      go_enter Try.func56, Try.ntmps56
      go_wp2_with (go_at_call 57; refine (HSZ.out _).mono ?_; rintro e w1 ⟨rfl, hb1⟩)
      have h1' := h.below hb1 hl
      refine (HLK.out _ h1').mono ?_
      rintro e w2 ⟨rfl, rfl⟩
      have c1 := h1'.c1
      go_wp2_with fail
      refine (get_any _ _ _ _ _ _ (HT.out.step hb1)).mono ?_
      rintro e w2 ⟨rfl, hb2⟩
      go_wp2
      go_ret2
      exact ⟨rfl, below_trans' hb1 hb2⟩

/-- A Reader's answer and what it leaves. -/
def rnE (er k : Int) (l : List Int) : Int := fe er (nextE k l)
def rnN (er k : Int) (l : List Int) : Int := if rnE er k l = 0 then nextN k l else 0
def rnL (er k : Int) (l : List Int) : List Int := if rnE er k l = 0 then l.drop (kSize k).toNat else l
theorem next_ok {k : Int} {l : List Int} (h : nextE k l = 0) : 0 < kSize k ∧ kSize k ≤ l.length := by
  have hk := k_bounds k
  unfold nextE at h
  split at h
  · omega
  · split at h
    · omega
    · exact ⟨by omega, by omega⟩

def RnPost (W : World) (g : Nat) (er k : Int) (l : List Int) (A : Option Addr) (e : Ending) (w' : World) : Prop :=
  ∃ A' c', e = .returned (.int .i64 (rnN er k l)) ∧ RdAt w' g (rnE er k l) A' (rnL er k l).length c' ∧ Byt w' g A' (rnL er k l).length c' (rnL er k l) ∧ W.grownBy w' (some g) ∧ ∀ b o s, A' = some ⟨b, o, s⟩ → ∃ o' s', A = some ⟨b, o', s'⟩
theorem rnum2_any (w : World) (g : Nat) (er k : Int) (A : Option Addr) (n c : Nat) (l : List Int) (h : RdAt w g er A n c) (hB : Byt w g A n c l) :
    Calls Try.prog 40 #[.pointer (some ⟨g, 0, none⟩), .int .i64 k] w (RnPost w g er k l A) := by
  have hl := h.lt
  have hB1 := hB.more (Nat.le_of_lt hl)
  have hln := hB.len
  have HRN : Hid (rnN er k l = if rnE er k l = 0 then nextN k l else 0) := rfl
  have HRL : Hid (rnL er k l = if rnE er k l = 0 then l.drop (kSize k).toNat else l) := rfl
  have HRE : Hid (rnE er k l = fe er (nextE k l)) := rfl
  by_cases h0 : rnE er k l = 0
  · have hd : decide (¬ fe er (nextE k l) = 0) = false := decide_eq_false (by rw [← HRE.out, h0]; simp)
    have hne : nextE k l = 0 := by
      rw [HRE.out] at h0
      unfold fe at h0
      split at h0
      · exact h0
      · rename_i h; exact absurd h0 h
    obtain ⟨hk1, hk2⟩ := next_ok hne
    obtain ⟨s, hs⟩ : ∃ s : Nat, kSize k = s := ⟨(kSize k).toNat, by omega⟩
    have hsz := fun w => size_any k w
    rw [hs] at hsz
    have HSZ := Lib.hid hsz
    have HS := Lib.hid hs
    have HD := Lib.hid hd
    have H0 := Lib.hid h0
    have HLN := Lib.hid hln
    have hsn : s ≤ n := by omega
    have hs0 : 0 < s := by omega
    have hcp := hB.cap
    have hmx := hB.max
    simp only [maxLen] at hmx
    clear hd h0 hln hsz hs hne hk1 hk2
    go_enter Try.func40, Try.ntmps40
    go_wp2_with fail
    refine (next_any _ _ _ _ _ _ _ _ h hB1).mono ?_
    rintro e w1 ⟨rfl, hb1⟩
    have h1 := h.below hb1 hl
    go_wp2_with fail
    refine (fails_rd _ _ _ _ _ _ _ h1).mono ?_
    rintro e w2 ⟨he, h2, hg2⟩
    rw [HD.out] at he
    subst he
    have hgl := h2.lt
    have c1 := h2.c1
    have f1 := h2.f 1
    have HH2 := Lib.hid h2
    have HH1 := Lib.hid h1
    have HHB := Lib.hid hB
    have HHB1 := Lib.hid hB1
    have HHh := Lib.hid h
    clear h h1 h2 hB hB1
    go_wp2_with fail
    go_region_law ((go_simp; go_at_call 57; refine (HSZ.out _).mono ?_; rintro e w3 ⟨rfl, hb3⟩; have c3 := (hb3.cell (p := ⟨g, 1, none⟩) hgl).trans c1; have f3 := (hb3.frozen (p := ⟨g, 1, none⟩) hgl).trans f1))
    all_goals go_wp2
    all_goals go_ret
    all_goals
      have e1 : rnN er k l = nextN k l := by rw [HRN.out, if_pos H0.out]
      have e2 : rnL er k l = l.drop s := by rw [HRL.out, if_pos H0.out, HS.out]; rfl
      have e3 : (rnL er k l).length = n - s := by rw [e2, List.length_drop, HLN.out]
      have hb3' : Below w2.heap.size w2 w3 := ⟨hb3.os, hb3.tape, hb3.output, hb3.size, hb3.block⟩
      have hg3 : w2.grownBy w3 (some g) := grownw_below hb3'
      have h3 : RdAt w3 g (fe er (nextE k l)) A n c := HH2.out.below hb3' hgl
      have hgf := grownw_trans (grownw_trans (grownw_below (row := some g) hb1) hg2) hg3
      have hB3 := HHB.out.keep (w' := w3) (fun b o hlt => World.cell?_of_block (a := ⟨b, o, none⟩) (hgf.block b (Nat.lt_trans hlt hl) (fun e => by cases e; omega)))
      have hcut := (hB3.cut hsn).keep (w' := w3.setCell ⟨g, 1, none⟩ (.slice (if c = s then A else A.map (fun x => x.add s)) (n - s) (c - s))) (fun b o hlt => World.cell?_setCell_other _ _ _ _ (fun e => by cases e; omega))
      first
        | (have hcs : c = s := by assumption
           rw [if_pos hcs, show c - s = 0 by omega] at hcut
           exact ⟨_, _, by rw [e1]; rfl, by rw [e3, HRE.out]; exact h3.set1, by rw [e3, e2]; exact hcut, grownw_trans hgf (grown_set _ _ _ _), fun b o s hx => ⟨o, s, hx⟩⟩)
        | (have hcs : ¬ c = s := by assumption
           rw [if_neg hcs] at hcut
           exact ⟨_, _, by rw [e1]; rfl, by rw [e3, HRE.out]; exact h3.set1, by rw [e3, e2]; exact hcut, grownw_trans hgf (grown_set _ _ _ _), fun b o s hx => by
             cases A with
             | none => cases hx
             | some y =>
               obtain ⟨yb, yo, ys⟩ := y
               simp [Addr.add] at hx
               split at hx <;> (injection hx with h1 h2; exact ⟨yo, ys, by rw [h1]⟩)⟩)
  · have hd : decide (¬ fe er (nextE k l) = 0) = true := decide_eq_true (by rw [← HRE.out]; exact h0)
    have HD := Lib.hid hd
    have H0 := Lib.hid h0
    have HLN := Lib.hid hln
    clear hd h0 hln
    go_enter Try.func40, Try.ntmps40
    go_wp2_with fail
    refine (next_any _ _ _ _ _ _ _ _ h hB1).mono ?_
    rintro e w1 ⟨rfl, hb1⟩
    have h1 := h.below hb1 hl
    go_wp2_with fail
    refine (fails_rd _ _ _ _ _ _ _ h1).mono ?_
    rintro e w2 ⟨he, h2, hg2⟩
    rw [HD.out] at he
    subst he
    go_wp2
    go_ret
    have e1 : rnN er k l = 0 := by rw [HRN.out, if_neg H0.out]
    have e2 : rnL er k l = l := by rw [HRL.out, if_neg H0.out]
    refine ⟨A, c, by rw [e1]; rfl, ?_, ?_, grownw_trans (grownw_below hb1) hg2, fun b o s hx => ⟨o, s, hx⟩⟩
    · rw [e2, HLN.out, HRE.out]; exact h2
    · rw [e2, HLN.out]
      exact (hB.below (hb1.mono (Nat.le_of_lt hl))).keep (fun b o hlt => World.cell?_of_block (a := ⟨b, o, none⟩) (hg2.block b (Nat.lt_of_lt_of_le hlt (Nat.le_trans (Nat.le_of_lt hl) hb1.size)) (fun e => by cases e; omega)))

/-- What Raw answers and leaves. -/
def rrE (er k : Int) (l : List Int) : Int := fe er (lackE l.length k)
def rrA (er k : Int) (l : List Int) : List Int := if rrE er k l = 0 then l.take k.toNat else []
def rrL (er k : Int) (l : List Int) : List Int := if rrE er k l = 0 then l.drop k.toNat else l
theorem lack_ok {n : Nat} {k : Int} (h : lackE n k = 0) : 0 ≤ k ∧ k ≤ n := by
  unfold lackE at h
  split at h
  · omega
  · split at h
    · omega
    · exact ⟨by omega, by omega⟩

def RrPost (W : World) (g : Nat) (er k : Int) (l : List Int) (e : Ending) (w' : World) : Prop :=
  ∃ A' c' A2 c2, e = .returned (.slice A2 (rrA er k l).length c2) ∧ Byt w' w'.heap.size A2 (rrA er k l).length c2 (rrA er k l) ∧ RdAt w' g (rrE er k l) A' (rrL er k l).length c' ∧ Byt w' g A' (rrL er k l).length c' (rrL er k l) ∧ W.grownBy w' (some g)
set_option maxRecDepth 4000 in
theorem rraw_any (w : World) (g : Nat) (er k : Int) (A : Option Addr) (n c : Nat) (l : List Int) (h : RdAt w g er A n c) (hB : Byt w g A n c l) (hn : n ≤ 140737488351232) :
    Calls Try.prog 39 #[.pointer (some ⟨g, 0, none⟩), .int .i64 k] w (RrPost w g er k l) := by
  have hl := h.lt
  have hln := hB.len
  have HRA : Hid (rrA er k l = if rrE er k l = 0 then l.take k.toNat else []) := rfl
  have HRL : Hid (rrL er k l = if rrE er k l = 0 then l.drop k.toNat else l) := rfl
  have HRE : Hid (rrE er k l = fe er (lackE l.length k)) := rfl
  by_cases h0 : rrE er k l = 0
  · have hd : decide (¬ fe er (lackE n k) = 0) = false := decide_eq_false (by rw [← hln, ← HRE.out, h0]; simp)
    have hlk0 : lackE n k = 0 := by
      rw [HRE.out, hln] at h0
      unfold fe at h0
      split at h0
      · exact h0
      · rename_i hx; exact absurd h0 hx
    have hk := lack_ok hlk0
    obtain ⟨s, rfl⟩ : ∃ s : Nat, k = s := ⟨k.toNat, by omega⟩
    have hsn : s ≤ n := by omega
    have hcp := hB.cap
    have hmx := hB.max
    simp only [maxLen] at hmx
    have HD := Lib.hid hd
    have H0 := Lib.hid h0
    have HLN := Lib.hid hln
    have HH := Lib.hid h
    have HHB := Lib.hid hB
    have hlk : Calls Try.prog 55 #[.pointer (some ⟨g, 0, none⟩), .int .i64 s] w.drew fun e w'' => e = .returned (.int .i64 (lackE n s)) ∧ w'' = w.drew := (lacks_any w.drew g er s A n c h).mono fun _ _ ⟨h1, h2⟩ => ⟨h1, h2.symm⟩
    have HLK := Lib.hid hlk
    clear hd h0 hln h hB hlk hlk0 hk
    go_enter Try.func39, Try.ntmps39
    go_wp2_with fail
    refine wp_region_still_tail 9 (by kernel_rfl) (by kernel_rfl) ?_
    simp only [List.take_succ_cons, List.take_zero, List.drop_succ_cons, List.drop_zero]
    repeat still_step
    still_call (HLK.out)
    refine wpStill_nil ?_
    change wpList _ _ _ _ _ w.drew
    have HHd : RdAt w.drew g er A n c := HH.out
    go_wp2_with fail
    refine (fails_rd _ g er _ A n c HHd).mono ?_
    rintro e w2 ⟨he, h2, hg2⟩
    rw [HD.out] at he
    subst he
    have c1 := h2.c1
    have f1 := h2.f 1
    have hgl := h2.lt
    have hgw : w.grownBy w2 (some g) := ⟨hg2.os, hg2.tape, hg2.output, hg2.size, hg2.block⟩
    have hB2 := HHB.out.keep (w' := w2) (fun b o hlt => World.cell?_of_block (a := ⟨b, o, none⟩) (hgw.block b (Nat.lt_trans hlt hl) (fun e => by cases e; omega)))
    have H2 := Lib.hid h2
    have HB2 := Lib.hid hB2
    clear HHd h2 hB2
    go_wp2_with fail
    refine (clone_any _ _ _ _ _ ((HB2.out.take hsn).more (Nat.le_of_lt hgl)) (by omega)).mono ?_
    rintro e w3 ⟨A3, c3, rfl, hB3, hb3, hA3⟩
    have HA3 := Lib.hid hA3
    clear hA3
    have h3 := H2.out.below hb3 hgl
    have c13 := h3.c1
    have f13 := h3.f 1
    have H3 := Lib.hid h3
    have HB3 := Lib.hid hB3
    clear h3 hB3
    go_wp2
    all_goals go_ret
    all_goals
      have e1 : rrA er s l = l.take s := by rw [HRA.out, if_pos H0.out]; rfl
      have e2 : rrL er s l = l.drop s := by rw [HRL.out, if_pos H0.out]; rfl
      have e3 : (rrL er s l).length = n - s := by rw [e2, List.length_drop, HLN.out]
      have e4 : (rrA er s l).length = s := by rw [e1, List.length_take, HLN.out]; omega
      have hg3 : w2.grownBy w3 (some g) := grownw_below hb3
      have hgf := grownw_trans hgw hg3
      have hBc := (HB2.out.below (hb3.mono (Nat.le_of_lt hgl)))
      have hcut := (hBc.cut hsn).keep (w' := w3.setCell ⟨g, 1, none⟩ (.slice (if c = s then A else A.map (fun x => x.add s)) (n - s) (c - s))) (fun b o hlt => World.cell?_setCell_other _ _ _ _ (fun e => by cases e; omega))
      have hres : ∀ u : Value, Byt (w3.setCell ⟨g, 1, none⟩ u) (w3.setCell ⟨g, 1, none⟩ u).heap.size A3 s c3 (l.take s) := fun u =>
        ⟨HB3.out.len, HB3.out.cap, HB3.out.max, HB3.out.rng, fun h0 => by
          obtain ⟨b, o, e, hb, hc⟩ := HB3.out.cells h0
          have hbg := HA3.out b o e
          exact ⟨b, o, e, by simpa [World.setCell] using hb, fun j hj => (World.cell?_setCell_other _ _ _ _ (fun e' => by have h1 := congrArg Addr.block e'; simp at h1; omega)).trans (hc j hj)⟩⟩
      first
        | (have hcs : c = s := by assumption
           rw [if_pos hcs, show c - s = 0 by omega] at hcut
           exact ⟨_, _, A3, c3, by rw [e4]; rfl, by rw [e4, e1]; exact hres _, by rw [e3, HRE.out, HLN.out]; exact H3.out.set1, by rw [e3, e2]; exact hcut, grownw_trans hgf (grown_set _ _ _ _)⟩)
        | (have hcs : ¬ c = s := by assumption
           rw [if_neg hcs] at hcut
           exact ⟨_, _, A3, c3, by rw [e4]; rfl, by rw [e4, e1]; exact hres _, by rw [e3, HRE.out, HLN.out]; exact H3.out.set1, by rw [e3, e2]; exact hcut, grownw_trans hgf (grown_set _ _ _ _)⟩)
  · have hd : decide (¬ fe er (lackE n k) = 0) = true := decide_eq_true (by rw [← hln, ← HRE.out]; exact h0)
    have HD := Lib.hid hd
    have H0 := Lib.hid h0
    have HLN := Lib.hid hln
    have HH := Lib.hid h
    have HHB := Lib.hid hB
    have hlk : Calls Try.prog 55 #[.pointer (some ⟨g, 0, none⟩), .int .i64 k] w.drew fun e w'' => e = .returned (.int .i64 (lackE n k)) ∧ w'' = w.drew := (lacks_any w.drew g er k A n c h).mono fun _ _ ⟨h1, h2⟩ => ⟨h1, h2.symm⟩
    have HLK := Lib.hid hlk
    clear hd h0 hln h hB hlk
    go_enter Try.func39, Try.ntmps39
    go_wp2_with fail
    refine wp_region_still_tail 9 (by kernel_rfl) (by kernel_rfl) ?_
    simp only [List.take_succ_cons, List.take_zero, List.drop_succ_cons, List.drop_zero]
    repeat still_step
    still_call (HLK.out)
    refine wpStill_nil ?_
    change wpList _ _ _ _ _ w.drew
    have HHd : RdAt w.drew g er A n c := HH.out
    go_wp2_with fail
    refine (fails_rd _ g er _ A n c HHd).mono ?_
    rintro e w2 ⟨he, h2, hg2⟩
    rw [HD.out] at he
    subst he
    clear HHd
    go_wp2
    go_ret
    have e1 : rrA er k l = [] := by rw [HRA.out, if_neg H0.out]
    have e2 : rrL er k l = l := by rw [HRL.out, if_neg H0.out]
    have hgw : w.grownBy w2 (some g) := ⟨hg2.os, hg2.tape, hg2.output, hg2.size, hg2.block⟩
    refine ⟨A, c, none, 0, by rw [e1]; rfl, by rw [e1]; exact Byt.nil_ _ _, ?_, ?_, hgw⟩
    · rw [e2, HLN.out, HRE.out, HLN.out]; exact h2
    · rw [e2, HLN.out]
      exact HHB.out.keep (fun b o hlt => World.cell?_of_block (a := ⟨b, o, none⟩) (hgw.block b (Nat.lt_trans hlt hl) (fun e => by cases e; omega)))
end Go.Proofs.Ytbbkobfibobfcaa