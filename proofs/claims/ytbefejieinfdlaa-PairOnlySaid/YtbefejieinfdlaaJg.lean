/- The walk of PairOnly. -/
import Derived.Test.YtbefejieinfdlaaJf
import Derived.Deep.CutBlock
namespace Go.Proofs.Ytbefejieinfdlaa
open Go.RowKit
set_option linter.unusedSimpArgs false
set_option linter.unusedVariables false

theorem str_len (l : List Int) : (strOfNums l).size = l.length := by simp [strOfNums, ByteArray.size]
theorem plE_ne (sz : Nat) (p : Option (List Int)) (l : List Int) : (plE sz p l == 2) = false := by unfold plE; (repeat' split) <;> rfl
theorem tuE_none (sz : Nat) (l : List Int) : (tuE sz none l == 2) = false := by unfold tuE; split <;> rfl
theorem plP_or (l : List Int) (p : Option (List Int)) (sz : Nat) : plP sz p l = none ∨ (plP sz p l = some l ∧ l.length = sz) := by
  unfold plP
  by_cases h : plE sz p l = 1
  · rw [if_pos h]
    refine .inr ⟨rfl, ?_⟩
    unfold plE at h
    by_cases hl : l.length = sz
    · exact hl
    · rw [if_pos hl] at h; omega
  · rw [if_neg h]; exact .inl rfl
theorem tuE_two {sz : Nat} {q l : List Int} (h : tuE sz (some q) l = 2) : l = flipL q := by
  unfold tuE at h
  by_cases hl : l.length = sz
  · rw [if_neg (by simpa using hl)] at h
    simp only at h
    by_cases hk : lkB q l = true
    · exact of_decide_eq_true hk
    · rw [if_neg hk] at h; omega
  · rw [if_pos hl] at h; omega
/-- A deed's cells and bytes, in a later world. -/
theorem CaC.open_ {w : World} {b o : Nat} {x : CaV} (h : CaC w b o x) (hlt : b < w.heap.size) : ∀ y, Below w.heap.size w y → y.cell? ⟨b, o, none⟩ = some (.bool x.t) ∧ y.cell? ⟨b, o + 1, none⟩ = some (.bool x.cl) ∧ y.cell? ⟨b, o + 2, none⟩ = some (.bool x.fk) ∧ y.cell? ⟨b, o + 3, none⟩ = some (.slice x.A x.n x.c) :=
  fun y hb => ⟨(h.below hlt hb).c0, (h.below hlt hb).c1, (h.below hlt hb).c2, (h.below hlt hb).c3⟩
set_option maxRecDepth 100000 in
set_option maxHeartbeats 16000000 in
theorem only_walk (A : Option Addr) (n c : Nat) (fs : Nat → CaV) (w : World) (h : CasP w w.heap.size A n c fs) :
    Calls Try.prog 6 #[.slice A n c] w fun e w' => e = .returned (.bool true) ∧ Below w.heap.size w w' := by
  have hcap := h.cap
  have hmax := h.max
  simp only [maxLen] at hmax
  obtain ⟨K, hKn, hK40, hK⟩ := upto_of n 40
  have HDS := Lib.hid h
  have HK := Lib.hid hK
  clear h hK
  have HN := Lib.hid (cnew_ok 2 w (by omega))
  go_enter Try.func6, Try.ntmps6
  go_wp2_with (go_at_call 14; refine (HN.out).mono ?_; rintro e w1 ⟨g, hg, rfl, x1, b1⟩; have HK1 := Lib.hid x1; have HB1 := Lib.hid b1; have HG := Lib.hid hg; clear x1 b1 hg)
  clear HN
  go_loopw [5, 6, 7] (fun last pl i wr => ∃ (j : Nat) (L : List Int) (B : Bool) (p : Option (List Int)) (v : List Int), j ≤ K ∧ last = .string (strOfNums L) ∧ pl = .bool B ∧ i = .int .i64 j ∧ Hid (CkT wr g 2 p v) ∧ Hid (p = none ∨ (B = true ∧ p = some L ∧ L.length = 2)) ∧ Hid (∀ x ∈ L, 0 ≤ x ∧ x ≤ 255) ∧ L.length ≤ 12 ∧ Hid (Below w.heap.size w wr)) (fun _ _ i _ => 50 - (intOf i).toNat)
  case atStart => exact ⟨0, [], false, none, [], by omega, rfl, rfl, rfl, HK1, Lib.hid (.inl rfl), Lib.hid (by simp), by simp, HB1⟩
  case round =>
    clear HK1 HB1
    obtain ⟨j, L, B, p, v, hj, rfl, rfl, rfl, HCK, HP, HLR, hll, HB⟩ := hrel
    by_cases hlt : j < K
    · have hlt' : j < n := by omega
      obtain ⟨b, off, rfl, hbb, hcl⟩ := HDS.out.cells (by omega)
      have hf := hcl j hlt'
      generalize fs j = x at hf
      obtain ⟨xt, xc, xf, A', q, mm, l⟩ := x
      have HC := Lib.hid (hf.open_ hbb)
      simp only at HC
      have hby := (hf.below hbb HB.out).byt
      have hq1 := hby.cap
      have hq2 := hby.max
      simp only [maxLen] at hq1 hq2
      obtain ⟨M, hM⟩ : ∃ M : Nat, min q 12 = M := ⟨_, rfl⟩
      have hM1 : M ≤ q := by omega
      have hM2 : M ≤ 12 := by omega
      have hM3 : M ≤ mm := by omega
      have hMi : (if (12 : Int) < (q : Int) then (12 : Int) else (q : Int)) = (M : Int) := by split <;> omega
      have hMj : (if 12 < q then (12 : Int) else (q : Int)) = (M : Int) := by split <;> omega
      have hBM := hby.take hM1
      obtain ⟨m, hm⟩ : ∃ m, l.take M = m := ⟨_, rfl⟩
      rw [hm] at hBM
      simp only at hBM
      have hst : ∀ k, (convert 22 9 (.slice A' M mm)).run Try.prog (wr.drewN k) = .ok (.string (strOfNums m)) (wr.drewN k) := fun k => run_str 22 5 Try.underlying22 Try.underlying5 (hBM.drewN k) 9 Try.underlying9
      have hmn := hBM.len
      have HMR := Lib.hid hBM.rng
      have hml : m.length ≤ 12 := by omega
      have HMN := Lib.hid hmn
      have hjn : (j : Int) < (n : Int) := by omega
      have hj40 : (j : Int) < 40 := by omega
      obtain ⟨c0, c1, c2, c3⟩ := HC.out _ HB.out
      clear hcl hf hby hBM hm hM hbb hmn
      go_wp2_with fail
      go_quiet (fail)
      have HB2 := Lib.hid (below_drewN HB.out nq)
      have HK2 := Lib.hid (HCK.out.below (below_drewN (Below.refl _ _) nq))
      clear HB HCK hMi hMj hst c0 c1 c2 c3
      generalize wr.drewN nq = w2 at *
      obtain ⟨c0, c1, c2, c3⟩ := HC.out _ HB2.out
      obtain ⟨cc, w3, hrun, hB3, hb3⟩ := to_bytes w2 m HMR.out (by omega)
      have HK3 := Lib.hid (HK2.out.below hb3)
      have HB3 := Lib.hid (kF hb3 HB2.out)
      have HY3 := Lib.hid hB3
      clear hB3 hb3
      cases xt with
      | false =>
        have HPL := Lib.hid (plainT HK3.out HY3.out (by omega))
        have hE := plE_ne 2 p m
        have HPO := Lib.hid (plP_or m p 2)
        generalize plE 2 p m = E at *
        generalize plP 2 p m = p' at *
        go_upto_region 11 with (go_at_call 16; refine (HPL.out).mono ?_; rintro e w8 ⟨rfl, x8, o8⟩; have HK8 := Lib.hid x8; have HB8 := Lib.hid (HB3.out.trans (o8.from_ HG.out)); clear x8 o8)
        clear c0 c1 c2 c3
        obtain ⟨c0, c1, c2, c3⟩ := HC.out _ HB8.out
        go_wp2_with fail
        go_quiet (fail)
        go_wp2_with fail
        exact ⟨⟨j + 1, m, true, _, _, by omega, rfl, rfl, by go_num, Lib.hid (HK8.out.below (below_drewN (Below.refl _ _) nq)), Lib.hid (HPO.out.elim .inl (fun h => .inr ⟨rfl, h.1, h.2⟩)), HMR, hml, Lib.hid (below_drewN HB8.out nq)⟩, by simp [intOf]; omega⟩
      | true =>
        have HTU := Lib.hid (turnedT HK3.out HY3.out (by omega))
        by_cases hfl : B = true ∧ L.length = 2
        · obtain ⟨rfl, hl2⟩ := hfl
          have hl2i : (((strOfNums L).size : Int) == 2) = true := by rw [str_len]; simp; omega
          have HE2 := Lib.hid (fun (h2 : tuE 2 p m = 2) => show m = flipL L ∧ tuV 2 p m v = L from by
            rcases HP.out with rfl | ⟨_, rfl, _⟩
            · have := tuE_none 2 m; rw [h2] at this; cases this
            · exact ⟨tuE_two h2, if_pos h2⟩)
          generalize tuE 2 p m = E at *
          generalize tuV 2 p m v = v' at *
          clear hl2
          go_upto_region 11 with (go_at_call 17; refine (HTU.out).mono ?_; rintro e w4 ⟨rfl, x4, o4⟩; have HK4 := Lib.hid x4; have HB4 := Lib.hid (HB3.out.trans (o4.from_ HG.out)); clear x4 o4)
          clear c0 c1 c2 c3 hrun
          obtain ⟨c0, c1, c2, c3⟩ := HC.out _ HB4.out
          obtain ⟨cc5, w5, hrun5, hB5, hb5⟩ := to_bytes w4 L HLR.out (by omega)
          have HK5 := Lib.hid (HK4.out.below hb5)
          have HB5 := Lib.hid (kF hb5 HB4.out)
          have HFL := Lib.hid (rflip_any w5 _ _ _ _ hB5 (by omega))
          obtain ⟨FL, hFL⟩ : ∃ f, flipL L = f := ⟨_, rfl⟩
          have HFR := Lib.hid (flipL_range HLR.out)
          unfold FlipPost at HFL
          rw [hFL] at HFL HFR HE2
          have hse := str_eq HFR.out HMR.out
          clear hFL hB5 hb5
          obtain ⟨G, hG⟩ : ∃ G : Bool, decide (FL = m) = G := ⟨_, rfl⟩
          rw [hG] at hse
          have HGG := Lib.hid hG
          clear hG
          go_upto_region 12 with (go_at_call 21; refine (HFL.out).mono ?_; rintro e w6 ⟨A6, c6, rfl, y6, b6⟩; have hst6 := run_str 22 5 Try.underlying22 Try.underlying5 y6 9 Try.underlying9; have HK6 := Lib.hid (HK5.out.below b6); have HB6 := Lib.hid (kF b6 HB5.out); clear y6 b6)
          by_cases h2 : E = 2
          · subst h2
            obtain ⟨he1, he2⟩ := HE2.out rfl
            have hGt : G = true := by rw [← HGG.out]; exact decide_eq_true he1.symm
            subst hGt
            subst he2
            have HVA := Lib.hid (valueT HK6.out)
            have hsl : ((strOfNums v').toList == (strOfNums v').toList) = true := by simp
            go_upto_region 14 with (go_at_call 19; refine (HVA.out).mono ?_; rintro e w8 ⟨A8, c8, rfl, y8, b8⟩; have hst8 := run_str 22 5 Try.underlying22 Try.underlying5 y8 9 Try.underlying9; have HK8 := Lib.hid (HK6.out.below b8); have HB8 := Lib.hid (kF b8 HB6.out); clear y8 b8)
            clear c0 c1 c2 c3
            obtain ⟨c0, c1, c2, c3⟩ := HC.out _ HB8.out
            go_wp2_with fail
            go_quiet (fail)
            go_wp2_with fail
            exact ⟨⟨j + 1, m, false, _, _, by omega, by first | rfl | rw [he1], rfl, by go_num, Lib.hid (HK8.out.below (below_drewN (Below.refl _ _) nq)), Lib.hid (.inl rfl), HMR, hml, Lib.hid (below_drewN HB8.out nq)⟩, by simp [intOf]; omega⟩
          · have h2e : (E == 2) = false := by simpa using h2
            have HK8 := HK6
            have HB8 := HB6
            clear h2
            go_upto_region 14 with fail
            clear c0 c1 c2 c3
            obtain ⟨c0, c1, c2, c3⟩ := HC.out _ HB8.out
            go_wp2_with fail
            go_quiet (fail)
            go_wp2_with fail
            exact ⟨⟨j + 1, m, false, _, _, by omega, rfl, rfl, by go_num, Lib.hid (HK8.out.below (below_drewN (Below.refl _ _) nq)), Lib.hid (.inl rfl), HMR, hml, Lib.hid (below_drewN HB8.out nq)⟩, by simp [intOf]; omega⟩
        · have hpn : p = none := by
            rcases HP.out with h | ⟨h1, _, h2⟩
            · exact h
            · exact absurd ⟨h1, h2⟩ hfl
          subst hpn
          have hE := tuE_none 2 m
          generalize tuE 2 none m = E at *
          generalize tuV 2 none m v = v' at *
          have hcs : B = false ∨ (B = true ∧ (((strOfNums L).size : Int) == 2) = false) := by
            cases B with
            | false => exact .inl rfl
            | true => refine .inr ⟨rfl, ?_⟩; rw [str_len]; simp; intro e; exact hfl ⟨rfl, by omega⟩
          clear hfl
          rcases hcs with rfl | ⟨rfl, hl2i⟩
          all_goals
            go_upto_region 11 with (go_at_call 17; refine (HTU.out).mono ?_; rintro e w8 ⟨rfl, x8, o8⟩; have HK8 := Lib.hid x8; have HB8 := Lib.hid (HB3.out.trans (o8.from_ HG.out)); clear x8 o8)
            clear c0 c1 c2 c3
            obtain ⟨c0, c1, c2, c3⟩ := HC.out _ HB8.out
            go_wp2_with fail
            go_quiet (fail)
            go_wp2_with fail
            exact ⟨⟨j + 1, m, false, _, _, by omega, rfl, rfl, by go_num, Lib.hid (HK8.out.below (below_drewN (Below.refl _ _) nq)), Lib.hid (.inl rfl), HMR, hml, Lib.hid (below_drewN HB8.out nq)⟩, by simp [intOf]; omega⟩
    · obtain rfl : j = K := by omega
      have hcs : ((n : Int) ≤ (j : Int)) ∨ ((j : Int) < (n : Int) ∧ (40 : Int) ≤ (j : Int)) := by have := HK.out; omega
      have HLV := Lib.hid (fun w => live27_any w)
      rcases hcs with hcs | ⟨hcs, hcs2⟩
      all_goals
        go_wp2_with (go_at_call 7; refine (HLV.out _).mono ?_; rintro e w9 ⟨rfl, b9⟩; have HB9 := Lib.hid (kF b9 HB.out); clear b9)
        go_ret
        exact ⟨rfl, HB9.out⟩
end Go.Proofs.Ytbefejieinfdlaa
