/- The walk of PairTells. -/
import Derived.Test.YtbefejieinfdlaaJu
import Derived.StillTailTactics
namespace Go.Proofs.Ytbefejieinfdlaa
open Go.RowKit
set_option linter.unusedSimpArgs false
set_option linter.unusedVariables false

theorem kA {a w : World} (h : Below a.heap.size a w) (o : Obj) : Below a.heap.size a (w.alloc o) := kF ((Below.refl _ _).alloc (Nat.le_refl _) o) h
theorem row_cells {X : World} {g t : Nat} {cs : List Value} (hg : X.heap[g]? = some (.cells cs.toArray t (0, 0))) : ∀ jj u, cs[jj]? = some u → X.cell? ((⟨g, 0, none⟩ : Addr).add jj) = some u := fun jj u h => by
  rw [add_plainR, Nat.zero_add, cell_of_row _ _ _ _ _ _ hg]
  simpa using h
theorem info_came : (Try.prog.info? 49).map (fun i => (i.zero, i.size, i.bytes)) = some (some (.agg #[.bool false, .string ByteArray.empty]), 2, 24) := by kernel_rfl
/-- An append to a row changes no block of another type. -/
theorem keep_app {w w' : World} {base n : Nat} {v : Value} {xs : List Value} (h : w.ownsRow base 49 2 v n xs) (hg : w.grownBy w' v.ownBlock) : ∀ (k : Nat) cs (t : TypeId) fr, w.heap[k]? = some (Obj.cells cs t fr) → ¬ t = 49 → w'.heap[k]? = w.heap[k]? := fun k cs t fr hk ht =>
  hg.block k (Array.getElem?_eq_some_iff.1 hk).1 (fun e => by
    rcases h.2 with ⟨rfl, _⟩ | ⟨b, cap, cur, rfl, _, hb, _⟩
    · simp [Value.ownBlock] at e
    · simp [Value.ownBlock] at e
      subst e
      rw [hb] at hk
      cases hk
      exact ht rfl)
theorem CkU.app {w w' : World} {g sz base n : Nat} {p : Option (List Int)} {u : List Int} {v : Value} {xs : List Value} (hc : CkU w g sz p u) (h : w.ownsRow base 49 2 v n xs) (hg : w.grownBy w' v.ownBlock) : CkU w' g sz p u := by
  obtain ⟨cs, hcs⟩ := hc.ty
  exact hc.keep (keep_app h hg _ _ _ _ hcs (by decide)) ⟨hg.size, fun k cs fr hk => (keep_app h hg _ _ _ _ hk (by decide)).trans hk⟩
theorem CkU.own {w w' : World} {g sz base n : Nat} {p : Option (List Int)} {u : List Int} {v : Value} {xs : List Value} (hc : CkU w g sz p u) (h : w.ownsRow base 49 2 v n xs) (ho : Onl g w w') : w'.ownsRow base 49 2 v n xs := by
  obtain ⟨cs, hcs⟩ := hc.ty
  exact own_onl h hcs (by decide) ho
theorem rhalf_any (w : World) (base sz : Nat) (R : List (Bool × List Int)) (v : Value) (hrow : w.ownsRow base 49 2 v R.length (cmv R)) (hR : ∀ x ∈ R, Bok x.2) (hN : R.length ≤ 40) (hsz : sz ≤ 8) :
    Calls Try.prog 23 #[.int .i64 (sz : Int), v] w fun e w' => e = .returned (.bool ((tlF sz R).t == 1)) ∧ Below w.heap.size w w' := by
  have HT := Lib.hid (tell_any w base sz R v hrow hR hN hsz)
  obtain ⟨va, vc, rfl⟩ := own_slice hrow
  clear hrow hR
  generalize tlF sz R = S at *
  obtain ⟨st, sh, sf, sv, ss⟩ := S
  simp only at HT ⊢
  go_enter Try.func23, Try.ntmps23
  go_wp2_with (go_at_call 22; refine (HT.out).mono ?_; rintro e w2 ⟨rfl, b2⟩; have HB := Lib.hid b2; clear b2)
  go_ret
  exact ⟨rfl, HB.out⟩
/-- A deed's cells and bytes, in a later world. -/
theorem CaC.open_ {w : World} {b o : Nat} {x : CaV} (h : CaC w b o x) (hlt : b < w.heap.size) : ∀ y, Below w.heap.size w y → y.cell? ⟨b, o, none⟩ = some (.bool x.t) ∧ y.cell? ⟨b, o + 1, none⟩ = some (.bool x.cl) ∧ y.cell? ⟨b, o + 2, none⟩ = some (.bool x.fk) ∧ y.cell? ⟨b, o + 3, none⟩ = some (.slice x.A x.n x.c) :=
  fun y hb => ⟨(h.below hlt hb).c0, (h.below hlt hb).c1, (h.below hlt hb).c2, (h.below hlt hb).c3⟩
def pOf (s : TlV) : Option (List Int) := if s.h then some s.f else none
theorem pOf_some (s : TlV) : (pOf s).isSome = s.h := by unfold pOf; cases s.h <;> rfl
/-- What the program tells of one more frame is what the document tells. -/
theorem tie_plain {sz : Nat} {s : TlV} {m : List Int} : plE sz (pOf s) m = (tlS sz s (false, m)).t ∧ plP sz (pOf s) m = pOf (tlS sz s (false, m)) ∧ ((tlS sz s (false, m)).t == 2) = false := by
  unfold plP plE tlS pOf
  by_cases h1 : m.length = sz
  · simp only [h1, not_true_eq_false, if_false]
    cases s.h <;> simp
  · simp only [h1, not_false_eq_true, if_true]
    simp
theorem tie_turned {sz : Nat} {s : TlV} {m v : List Int} : tuE sz (pOf s) m = (tlS sz s (true, m)).t ∧ none = pOf (tlS sz s (true, m)) ∧ tuV sz (pOf s) m v = (if (tlS sz s (true, m)).t = 2 then (tlS sz s (true, m)).v else v) ∧ ((tlS sz s (true, m)).t = 2 → (tlS sz s (true, m)).s = true) := by
  unfold tuV tuE tlS pOf
  by_cases h1 : m.length = sz
  · simp only [h1, not_true_eq_false, if_false]
    cases hh : s.h with
    | false => simp
    | true =>
      by_cases hf : flipL s.f = m
      · simp [lkB, hf]
      · have hf2 : ¬ m = flipL s.f := fun e => hf e.symm
        simp [lkB, hf, hf2]
  · simp only [h1, not_false_eq_true, if_true]
    simp
set_option maxRecDepth 100000 in
set_option maxHeartbeats 4000000 in
theorem tells_no (sz : Int) (A : Option Addr) (n c : Nat) (w : World) (h : sz < 1 ∨ (¬ sz < 1 ∧ 8 < sz)) :
    Calls Try.prog 4 #[.int .i64 sz, .slice A n c] w fun e w' => e = .returned (.bool true) ∧ Below w.heap.size w w' := by
  have HN := Lib.hid (cnew_no sz w (decide_eq_false (by omega)))
  rcases h with h1 | ⟨h1, h2⟩
  all_goals
    go_enter Try.func4, Try.ntmps4
    go_wp2_with (first
      | (go_at_call 14; refine (HN.out).mono ?_; rintro e w1 ⟨rfl, rfl⟩)
      | (go_at_call 7; refine (live27_any _).mono ?_; rintro e w9 ⟨rfl, b9⟩; have HB9 := Lib.hid b9; clear b9)
      | (go_at_call 15; refine (clear_nil _).mono ?_; rintro e w5 ⟨rfl, rfl⟩)
      | (go_at_call 16; refine (plain_nil _ _ _ _).mono ?_; rintro e w5 ⟨rfl, rfl⟩)
      | (go_at_call 17; refine (turned_nil _ _ _ _).mono ?_; rintro e w5 ⟨rfl, rfl⟩)
      | (go_at_call 18; refine (half_nil _).mono ?_; rintro e w5 ⟨rfl, rfl⟩)
      | (go_at_call 19; refine (value_nil _).mono ?_; rintro e w5 ⟨rfl, rfl⟩)
      | (go_at_call 20; refine (fork_nil _).mono ?_; rintro e w5 ⟨rfl, rfl⟩))
    go_ret
    exact ⟨rfl, HB9.out⟩
set_option maxRecDepth 100000 in
set_option maxHeartbeats 24000000 in
theorem tells_yes (sz : Nat) (A : Option Addr) (n c : Nat) (fs : Nat → CaV) (w : World) (hs1 : 1 ≤ sz) (hs8 : sz ≤ 8) (h : CasP w w.heap.size A n c fs) :
    Calls Try.prog 4 #[.int .i64 (sz : Int), .slice A n c] w fun e w' => e = .returned (.bool true) ∧ Below w.heap.size w w' := by
  have hcap := h.cap
  have hmax := h.max
  simp only [maxLen] at hmax
  obtain ⟨K, hKn, hK40, hK⟩ := upto_of n 40
  have HDS := Lib.hid h
  have HK := Lib.hid hK
  clear h hK
  have HN := Lib.hid (cnewU sz w ⟨hs1, hs8⟩)
  have hz1 : ¬ (sz : Int) < 1 := by omega
  have hz2 : ¬ 8 < (sz : Int) := by omega
  go_enter Try.func4, Try.ntmps4
  go_wp2_with (go_at_call 14; refine (HN.out).mono ?_; rintro e w1 ⟨g, hg, rfl, x1, b1⟩; have hal : Below w1.heap.size w1 (w1.alloc (.cells #[] 49)) := (Below.refl _ _).alloc (Nat.le_refl _) _; have HK1 := Lib.hid (x1.below hal); have HB1 := Lib.hid (kF hal b1); have HG := Lib.hid hg; have HR1 := Lib.hid (own_made w1 w.heap.size 49 2 b1.size); clear x1 b1 hg hal)
  clear HN
  go_loopw [5, 7, 8, 9] (fun cp cv gd i wr => ∃ (j g : Nat) (R : List (Bool × List Int)) (v : List Int), j ≤ K ∧ cp = .pointer (some ⟨g, 0, none⟩) ∧ gd = .string (strOfNums v) ∧ i = .int .i64 j ∧ R.length ≤ j ∧ Hid (CkU wr g sz (pOf (tlF sz R)) v) ∧ Hid (wr.ownsRow w.heap.size 49 2 cv R.length (cmv R)) ∧ Hid (∀ x ∈ R, Bok x.2) ∧ Hid (Below w.heap.size w wr) ∧ Hid (w.heap.size ≤ g)) (fun _ _ _ i _ => 50 - (intOf i).toNat)
  case atStart => exact ⟨0, g, [], [], by omega, rfl, rfl, rfl, by simp, HK1, HR1, Lib.hid (by simp), HB1, HG⟩
  case round =>
    clear HK1 HB1 HG HR1
    obtain ⟨j, g, R, v, hj, rfl, rfl, rfl, hRj, HCK, HRW, HRB, HB, HG⟩ := hrel
    obtain ⟨va, vc, rfl⟩ := own_slice HRW.out
    by_cases hlt : j < K
    · have hlt' : j < n := by omega
      obtain ⟨b, off, rfl, hbb, hcl⟩ := HDS.out.cells (by omega)
      have hf := hcl j hlt'
      generalize fs j = x at hf
      obtain ⟨xt, xc, xf, A', q, mm, l⟩ := x
      have HC := Lib.hid (hf.open_ hbb)
      simp only at HC
      have hby := hf.byt
      have hq1 := hby.cap
      have hq2 := hby.max
      simp only [maxLen] at hq1 hq2
      obtain ⟨M, hM⟩ : ∃ M : Nat, min q 12 = M := ⟨_, rfl⟩
      have hM1 : M ≤ q := by omega
      have hM2 : M ≤ 12 := by omega
      have hM3 : M ≤ mm := by omega
      have hMi : (if (12 : Int) < (q : Int) then (12 : Int) else (q : Int)) = (M : Int) := by split <;> omega
      have hMk : min (q : Int) 12 = (M : Int) := by omega
      have hMt : (min (q : Int) 12).toNat = M := by omega
      have hMj : (if 12 < q then (12 : Int) else (q : Int)) = (M : Int) := by split <;> omega
      have hBM := hby.take hM1
      obtain ⟨m, hm⟩ : ∃ m, l.take M = m := ⟨_, rfl⟩
      rw [hm] at hBM
      simp only at hBM
      have HYB := Lib.hid (fun (y : World) (hy : Below w.heap.size w y) => hBM.step hy)
      have hmn := hBM.len
      have HMK := Lib.hid (show Bok m from ⟨hBM.rng, by omega⟩)
      have hml : m.length ≤ 12 := by omega
      have HMN := Lib.hid hmn
      have hjn : (j : Int) < (n : Int) := by omega
      have hj40 : (j : Int) < 40 := by omega
      obtain ⟨c0, c1, c2, c3⟩ := HC.out _ HB.out
      clear hcl hf hby hBM hm hM hbb hmn
      go_wp2_with fail
      go_quiet (fail)
      have HB2 := Lib.hid (below_drewN HB.out nq)
      have HK2 := Lib.hid (HCK.out.below (below_drewN (Below.refl _ _) nq))
      have HRW2 := Lib.hid (own_belowU HRW.out (below_drewN (Below.refl _ _) nq))
      clear HB HCK HRW hMi hMj c0 c1 c2 c3
      generalize wr.drewN nq = w2 at *
      obtain ⟨c0, c1, c2, c3⟩ := HC.out _ HB2.out
      (try simp only [hMt])
      (try simp only [hMk])
      clear hMk hMt
      go_upto_block 2 with fail
      go_cut [5, 7, 8, 11, 12, 13, 14, 15] from 84 to 145 (fun s5 s7 s8 s11 s12 s13 s14 s15 wx => ∃ (g : Nat) (R : List (Bool × List Int)) (v : List Int), s5 = .pointer (some ⟨g, 0, none⟩) ∧ s8 = .string (strOfNums v) ∧ R.length ≤ j + 1 ∧ Hid (CkU wx g sz (pOf (tlF sz R)) v) ∧ Hid (wx.ownsRow w.heap.size 49 2 s7 R.length (cmv R)) ∧ Hid (∀ x ∈ R, Bok x.2) ∧ Hid (Below w.heap.size w wx) ∧ Hid (w.heap.size ≤ g))
      case first =>
        have hw : xc = true ∨ (xc = false ∧ xf = true) ∨ (xc = false ∧ xf = false) := by cases xc <;> cases xf <;> simp
        rcases hw with rfl | ⟨rfl, rfl⟩ | ⟨rfl, rfl⟩
        · go_wp2_with (go_at_call 15; refine (clearU HK2.out).mono ?_; rintro e w3 ⟨rfl, x3, o3⟩; have HK3 := Lib.hid x3; have HB3 := Lib.hid (HB2.out.trans (o3.from_ HG.out)); clear x3 o3)
          go_meet
          exact ⟨g, [], v, rfl, rfl, by simp, HK3, Lib.hid ⟨rfl, .inl ⟨rfl, rfl⟩⟩, Lib.hid (by simp), HB3, HG⟩
        · go_wp2_with (first
            | (go_at_call 20; refine (forkU HK2.out).mono ?_; rintro e w3 ⟨q3, hq3, rfl, x3, b3⟩; have HN3 := Lib.hid x3; have HK3 := Lib.hid (HK2.out.below b3); have HB3 := Lib.hid (kF b3 HB2.out); have HR3 := Lib.hid (own_belowU HRW2.out b3); have HQ3 := Lib.hid (show w.heap.size ≤ q3 ∧ ¬ q3 = g from ⟨Nat.le_trans HB2.out.size hq3, fun e => by have := HK2.out.lt; omega⟩); clear x3 b3 hq3)
            | (go_at_call 16; refine (plainU HK3.out (HYB.out _ HB3.out) (by omega)).mono ?_; rintro e w4 ⟨rfl, x4, o4⟩; have HK4 := Lib.hid x4; have HN4 := Lib.hid (HN3.out.onlT HK3.out o4 HQ3.out.2); have HB4 := Lib.hid (HB3.out.trans (o4.from_ HG.out)); have HR4 := Lib.hid (HK3.out.own HR3.out o4); clear x4 o4)
            | (go_at_call 21; refine (rflip_any _ _ _ _ _ (by have := HYB.out _ HB4.out; exact this) (by omega)).mono ?_; rintro e w5 ⟨A5, c5, rfl, y5, b5⟩; have HY5 := Lib.hid y5; have HK5 := Lib.hid (HK4.out.below b5); have HN5 := Lib.hid (HN4.out.below b5); have HB5 := Lib.hid (kF b5 HB4.out); have HR5 := Lib.hid (own_belowU HR4.out b5); clear y5 b5)
            | (go_at_call 17; refine (turnedU HK5.out HY5.out (by omega)).mono ?_; rintro e w6 ⟨rfl, x6, o6⟩; have HN6 := Lib.hid (HN5.out.onlT HK5.out o6 HQ3.out.2); have HB6 := Lib.hid (HB5.out.trans (o6.from_ HG.out)); have HR6 := Lib.hid (HK5.out.own HR5.out o6); clear x6 o6))
          go_meet
          exact ⟨q3, R, v, rfl, rfl, by omega, HN6, HR6, HRB, HB6, Lib.hid HQ3.out.1⟩
        · have HRD := Lib.hid (own_belowU HRW2.out (kD w2))
          have HKD := Lib.hid (HK2.out.below (kD w2))
          have HBD := Lib.hid (kF (kD w2) HB2.out)
          have hst := run_str 22 5 Try.underlying22 Try.underlying5 (HYB.out _ HB2.out) 9 Try.underlying9
          have hstd := run_str 22 5 Try.underlying22 Try.underlying5 (HYB.out _ HBD.out) 9 Try.underlying9
          obtain ⟨SM, hSM⟩ : ∃ q, strOfNums m = q := ⟨_, rfl⟩
          rw [hSM] at hst hstd
          have HSM := Lib.hid hSM
          clear hSM
          have d0 : w2.drew.cell? ⟨b, off + j * 4, none⟩ = some (.bool xt) := c0
          have d1 : World.cell? { heap := w2.heap, tape := w2.tape, drawn := w2.drawn + 1, os := w2.os, output := w2.output } ⟨b, off + j * 4, none⟩ = some (.bool xt) := c0
          have d2 : (convert 22 9 (.slice A' M mm)).run Try.prog { heap := w2.heap, tape := w2.tape, drawn := w2.drawn + 1, os := w2.os, output := w2.output } = .ok (.string SM) { heap := w2.heap, tape := w2.tape, drawn := w2.drawn + 1, os := w2.os, output := w2.output } := hstd
          go_upto_region 11 with fail
          refine wp_region_last (fun y => y.cell? ⟨b, off + j * 4, none⟩ = some (.bool xt)) 11 (by kernel_rfl) d0 (fun hHeld => ?_)
          obtain ⟨i0, hi0, hz0', hz1', hz2'⟩ := info_parts info_came
          have HI := Lib.hid hi0
          clear hi0
          refine wpAnyL_take (i := 0) (v := ?_) rfl (by kernel_rfl) (by kernel_rfl) (by kernel_rfl) (by kernel_rfl) (by kernel_rfl) (fun _ _ _ h => h) (Or.inl ⟨by rfl, ?_⟩) (by assumption) ?_
          rotate_left
          · intro wq hSw; (try dsimp only at hSw); first | (go_simp; done) | (go_simp; with_reducible rfl) | with_reducible rfl
          go_simp
          refine wpAnyL_take (i := 1) (v := ?_) rfl (by kernel_rfl) (by kernel_rfl) (by kernel_rfl) (by kernel_rfl) (by kernel_rfl) (fun _ _ _ h => h) (Or.inl ⟨by rfl, ?_⟩) (by assumption) ?_
          rotate_left
          · intro wq hSw; (try dsimp only at hSw); first | (go_simp; done) | (go_simp; with_reducible rfl) | with_reducible rfl
          go_simp
          refine wpAnyL_take (i := 2) (v := ?_) rfl (by kernel_rfl) (by kernel_rfl) (by kernel_rfl) (by kernel_rfl) (by kernel_rfl) (fun _ _ _ h => h) (Or.inl ⟨by rfl, ?_⟩) (by assumption) ?_
          rotate_left
          · intro wq hSw; (try dsimp only at hSw); first | (go_simp; done) | (go_simp; with_reducible rfl) | with_reducible rfl
          go_simp
          refine wpAnyL_take (i := 3) (v := ?_) rfl (by kernel_rfl) (by kernel_rfl) (by kernel_rfl) (by kernel_rfl) (by kernel_rfl) (fun _ _ _ h => h) (Or.inl ⟨by rfl, ?_⟩) (by assumption) ?_
          rotate_left
          · intro wq hSw; (try dsimp only at hSw); first | (go_simp; done) | (go_simp; with_reducible rfl) | with_reducible rfl
          go_simp
          refine wpAnyL_take (i := 4) (v := ?_) rfl (by kernel_rfl) (by kernel_rfl) (by kernel_rfl) (by kernel_rfl) (by kernel_rfl) (fun _ _ _ h => h) (Or.inl ⟨by rfl, ?_⟩) (by assumption) ?_
          rotate_left
          · intro wq hSw; (try dsimp only at hSw); first | (go_simp; done) | (go_simp; with_reducible rfl) | with_reducible rfl
          go_simp
          refine wpAnyL_take (i := 5) (v := ?_) rfl (by kernel_rfl) (by kernel_rfl) (by kernel_rfl) (by kernel_rfl) (by kernel_rfl) (fun _ _ _ h => h) (Or.inl ⟨by rfl, ?_⟩) (by assumption) ?_
          rotate_left
          · intro wq hSw; (try dsimp only at hSw); first | (go_simp; done) | (go_simp; with_reducible rfl) | with_reducible rfl
          go_simp
          refine wpAnyL_take (i := 6) (v := ?_) rfl (by kernel_rfl) (by kernel_rfl) (by kernel_rfl) (by kernel_rfl) (by kernel_rfl) (fun _ _ _ h => h) (Or.inl ⟨by rfl, ?_⟩) (by assumption) ?_
          rotate_left
          · intro wq hSw; (try dsimp only at hSw); first | (go_simp; done) | (go_simp; with_reducible rfl) | with_reducible rfl
          go_simp
          refine wpAnyL_ready (rs := [7]) (by kernel_rfl) (by simp) ?_
          refine (AllReadyL.cons rfl (fun K hK => ?_) AllReadyL.nil)
          go_simp
          refine hK.out _ _ ?_ (fun hHeld => ?_)
          · (try dsimp only); exact d0
          clear hK K
          refine wpAnyL_take (i := 8) (v := ?_) rfl (by kernel_rfl) (by kernel_rfl) (by kernel_rfl) (by kernel_rfl) (by kernel_rfl) (fun _ _ _ h => h) (Or.inl ⟨by rfl, ?_⟩) (by assumption) ?_
          rotate_left
          · intro wq hSw; (try dsimp only at hSw); first | (go_simp; done) | (go_simp; with_reducible rfl) | with_reducible rfl
          go_simp
          refine wpAnyL_ready (rs := [9]) (by kernel_rfl) (by simp) ?_
          refine (AllReadyL.cons rfl (fun K hK => ?_) AllReadyL.nil)
          go_simp
          have HBE := Lib.hid (kF (kD _) (kA HB2.out (.cells #[.bool xt, .string SM] 49)))
          refine hK.out _ _ ?_ (fun hHeld => ?_)
          · (try dsimp only); exact (HC.out _ HBE.out).1
          clear hK K
          have HRE := Lib.hid (own_belowU HRW2.out (kF (kD _) (kA (Below.refl _ w2) (.cells #[.bool xt, .string SM] 49))))
          have HKE := Lib.hid (HK2.out.below (kF (kD _) (kA (Below.refl _ w2) (.cells #[.bool xt, .string SM] 49))))
          have HRW : Hid ((w2.alloc (.cells #[.bool xt, .string SM] 49)).drew.heap[w2.heap.size]? = some (.cells #[.bool xt, .string SM] 49 (0, 0))) := Lib.hid (heap_alloc_new w2 (.cells #[.bool xt, .string SM] 49))
          generalize (w2.alloc (.cells #[.bool xt, .string SM] 49)).drew = w4 at *
          generalize w2.heap.size = b9 at *
          refine wpAnyL_ready (rs := [10]) (by kernel_rfl) (by simp) ?_
          refine (AllReadyL.cons rfl (fun K hK => ?_) AllReadyL.nil)
          refine Eq.mpr (if_pos (by kernel_rfl)) ?_
          refine wp_append_own _ (.tmp 84) (.tmp 93) 44 rfl w.heap.size 49 i0 (.agg #[.bool false, .string ByteArray.empty]) 2 24 Try.underlying44 HI.out hz0' hz1' hz2' rfl (by omega) _ R.length (cmv R) rfl HRE.out ⟨b9, 0, none⟩ 1 1 [.bool xt, .string SM] rfl rfl (row_cells HRW.out) (by simp [Value.oneCell']) (by simp only [maxLen]; omega) (by omega) HBE.out.size ?_
          intro v5 w5 q5 q5g q5n
          have HO5 := Lib.hid q5
          have HK5 := Lib.hid (HKE.out.app HRE.out q5g)
          have HB5 := Lib.hid (HBE.out.grown q5g HBE.out.size (fun k hk => (HRE.out.lt k hk).1))
          clear q5 q5g q5n
          refine hK.out _ _ ?_ (fun hHeld => ?_)
          · (try dsimp only); exact (HC.out _ HB5.out).1
          clear hK K
          refine wpAnyL_ready (rs := [11]) (by kernel_rfl) (by simp) ?_
          refine AllReadyL.last rfl (fun K hK => ?_)
          go_simp
          refine hK.out _ _ ?_
          clear hK K
          refine wpAnyL_done (by kernel_rfl) ?_ _
          clear hHeld
          have hR5l : (R ++ [(xt, m)]).length = R.length + 1 := by simp
          obtain ⟨R5, hR5⟩ : ∃ q, R ++ [(xt, m)] = q := ⟨_, rfl⟩
          rw [hR5] at hR5l
          have HR5 := Lib.hid (show w5.ownsRow w.heap.size 49 2 v5 R5.length (cmv R5) by rw [hR5l, ← hR5, cmv_snoc, HSM.out]; exact HO5.out)
          have HRB5 := Lib.hid (show ∀ x ∈ R5, Bok x.2 from fun x hx => by
            rw [← hR5] at hx
            rcases List.mem_append.1 hx with hx | hx
            · exact HRB.out x hx
            · simp only [List.mem_singleton] at hx; subst hx; exact HMK.out)
          have hln5 : R5.length ≤ j + 1 := by omega
          have HT5 := Lib.hid (tell_any w5 _ sz _ _ HR5.out HRB5.out (by omega) hs8)
          have HSN := Lib.hid (show tlF sz R5 = tlS sz (tlF sz R) (xt, m) by rw [← hR5]; exact tlF_snoc sz R (xt, m))
          obtain ⟨a5, c5, rfl⟩ := own_slice HR5.out
          clear hst hstd d0 d1 d2 c0 c1 c2 c3 hR5 hR5l HSM HO5
          cases xt with
          | false =>
            have htie := tie_plain (sz := sz) (s := tlF sz R) (m := m)
            rw [← HSN.out] at htie
            obtain ⟨te1, te2, te3⟩ := htie
            generalize hS5 : tlF sz (R5) = S5 at *
            obtain ⟨t5, h5, f5, q5, z5⟩ := S5
            simp only at te1 te2 te3 HT5
            have HE1 := Lib.hid te1
            have HE2 := Lib.hid te2
            have HS5 := Lib.hid hS5
            have htt : (t5 == t5) = true := by simp
            clear te1 te2 hS5
            go_upto_region 13 with (go_at_call 22; refine (HT5.out).mono ?_; rintro e w6 ⟨rfl, b6⟩; have HK6 := Lib.hid (HK5.out.below b6); have HB6 := Lib.hid (kF b6 HB5.out); have HR6 := Lib.hid (own_belowU HR5.out b6); clear b6)
            obtain ⟨c0, c1, c2, c3⟩ := HC.out _ HB6.out
            have HPL := Lib.hid (plainU HK6.out (HYB.out _ HB6.out) (by omega))
            rw [HE1.out, HE2.out] at HPL
            cases z5
            all_goals
              go_wp2_with (go_at_call 16; refine (HPL.out).mono ?_; rintro e w7 ⟨rfl, x7, o7⟩; have HK7 := Lib.hid x7; have HB7 := Lib.hid (HB6.out.trans (o7.from_ HG.out)); have HR7 := Lib.hid (HK6.out.own HR6.out o7); clear x7 o7)
              go_meet
              exact ⟨g, R5, v, rfl, rfl, hln5, by rw [HS5.out]; exact HK7, HR7, HRB5, HB7, HG⟩
          | true =>
            have htie := tie_turned (sz := sz) (s := tlF sz R) (m := m) (v := v)
            rw [← HSN.out] at htie
            obtain ⟨te1, te2, te3, te4⟩ := htie
            generalize hS5 : tlF sz (R5) = S5 at *
            obtain ⟨t5, h5, f5, q5, z5⟩ := S5
            simp only at te1 te2 te3 te4 HT5
            have HE1 := Lib.hid te1
            have HE2 := Lib.hid te2
            have HE3 := Lib.hid te3
            have HE4 := Lib.hid te4
            have HS5 := Lib.hid hS5
            have htt : (t5 == t5) = true := by simp
            clear te1 te2 te3 te4 hS5
            go_upto_region 13 with (go_at_call 22; refine (HT5.out).mono ?_; rintro e w6 ⟨rfl, b6⟩; have HK6 := Lib.hid (HK5.out.below b6); have HB6 := Lib.hid (kF b6 HB5.out); have HR6 := Lib.hid (own_belowU HR5.out b6); clear b6)
            obtain ⟨c0, c1, c2, c3⟩ := HC.out _ HB6.out
            have HTU := Lib.hid (turnedU HK6.out (HYB.out _ HB6.out) (by omega))
            rw [HE1.out, HE2.out, HE3.out] at HTU
            by_cases h2 : t5 = 2
            · have hz5 : z5 = true := HE4.out h2
              subst hz5
              rw [if_pos h2] at HTU
              have h2b : (t5 == 2) = true := by simpa using h2
              clear h2
              go_wp2_with (go_at_call 17; refine (HTU.out).mono ?_; rintro e w7 ⟨rfl, x7, o7⟩; have HK7 := Lib.hid x7; have HB7 := Lib.hid (HB6.out.trans (o7.from_ HG.out)); have HR7 := Lib.hid (HK6.out.own HR6.out o7); clear x7 o7)
              go_meet
              exact ⟨g, R5, q5, rfl, rfl, hln5, by rw [HS5.out]; exact HK7, HR7, HRB5, HB7, HG⟩
            · rw [if_neg h2] at HTU
              have h2b : (t5 == 2) = false := by simpa using h2
              clear h2
              cases z5
              all_goals
                go_wp2_with (go_at_call 17; refine (HTU.out).mono ?_; rintro e w7 ⟨rfl, x7, o7⟩; have HK7 := Lib.hid x7; have HB7 := Lib.hid (HB6.out.trans (o7.from_ HG.out)); have HR7 := Lib.hid (HK6.out.own HR6.out o7); clear x7 o7)
                go_meet
                exact ⟨g, R5, v, rfl, rfl, hln5, by rw [HS5.out]; exact HK7, HR7, HRB5, HB7, HG⟩
      case rest =>
        clear HK2 HRW2 HRB HB2 HG c0 c1 c2 c3
        obtain ⟨g, R, v, rfl, rfl, hRl, HCK, HRW, HRB, HB, HG⟩ := hcut
        obtain ⟨va, vc, rfl⟩ := own_slice HRW.out
        have HHF := Lib.hid (halfU HCK.out)
        have HRH := Lib.hid (fun (x : World) (hx : Below wc.heap.size wc x) => rhalf_any x _ sz R _ (own_belowU HRW.out hx) HRB.out (by omega) hs8)
        rw [pOf_some, tlF_half] at HHF
        obtain ⟨HH, hHH⟩ : ∃ q : Bool, ((tlF sz R).t == 1) = q := ⟨_, rfl⟩
        rw [hHH] at HHF
        simp only [hHH] at HRH
        have hhh : (HH == HH) = true := by simp
        have hsv : ((strOfNums v).toList == (strOfNums v).toList) = true := by simp
        clear hHH
        go_wp2_with (first
          | (go_at_call 18; refine (HHF.out).mono ?_; rintro e w3 ⟨rfl, rfl⟩)
          | (go_at_call 23; refine (HRH.out _ (Below.refl _ _)).mono ?_; rintro e w4 ⟨rfl, b4⟩; have HK4 := Lib.hid (HCK.out.below b4); have HB4 := Lib.hid (kF b4 HB.out); have HR4 := Lib.hid (own_belowU HRW.out b4); clear b4)
          | (go_at_call 19; refine (valueU HK4.out).mono ?_; rintro e w5 ⟨A5, c5, rfl, y5, b5⟩; have hst5 := run_str 22 5 Try.underlying22 Try.underlying5 y5 9 Try.underlying9; have HK5 := Lib.hid (HK4.out.below b5); have HB5 := Lib.hid (kF b5 HB4.out); have HR5 := Lib.hid (own_belowU HR4.out b5); clear y5 b5))
        exact ⟨⟨j + 1, g, R, v, by omega, rfl, rfl, by go_num, hRl, HK5, HR5, HRB, HB5, HG⟩, by simp [intOf]; omega⟩
    · obtain rfl : j = K := by omega
      have hcs : ((n : Int) ≤ (j : Int)) ∨ ((j : Int) < (n : Int) ∧ (40 : Int) ≤ (j : Int)) := by have := HK.out; omega
      have HLV := Lib.hid (fun w => live27_any w)
      rcases hcs with hcs | ⟨hcs, hcs2⟩
      all_goals
        go_wp2_with (go_at_call 7; refine (HLV.out _).mono ?_; rintro e w9 ⟨rfl, b9⟩; have HB9 := Lib.hid (kF b9 HB.out); clear b9)
        go_ret
        exact ⟨rfl, HB9.out⟩
theorem tells_walk (sz : Int) (A : Option Addr) (n c : Nat) (fs : Nat → CaV) (w : World) (h : CasP w w.heap.size A n c fs) :
    Calls Try.prog 4 #[.int .i64 sz, .slice A n c] w fun e w' => e = .returned (.bool true) ∧ Below w.heap.size w w' := by
  by_cases h1 : 1 ≤ sz ∧ sz ≤ 8
  · obtain ⟨k, rfl⟩ := Int.eq_ofNat_of_zero_le (show 0 ≤ sz by omega)
    exact tells_yes k A n c fs w (by omega) (by omega) h
  · exact tells_no sz A n c w (by omega)
end Go.Proofs.Ytbefejieinfdlaa
