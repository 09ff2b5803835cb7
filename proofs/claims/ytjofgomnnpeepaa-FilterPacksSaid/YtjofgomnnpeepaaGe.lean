/- What pair answers. -/
import Derived.Test.YtjofgomnnpeepaaGd
import Derived.WalkMore
namespace Go.Proofs.Ytjofgomnnpeepaa
open Go.RowKit Go.Sort

set_option maxRecDepth 40000 in
set_option maxHeartbeats 2000000 in
theorem pair_any (w : World) (g : Nat) (M : Nat → Int) (h : Mk w g M) (hF : Fit M) :
    Calls Try.prog 27 #[.pointer (some ⟨g, 0, none⟩)] w fun e w' => Paired M e ∧ Below w.heap.size w w' := by
  have HM := Lib.hid h
  have HF := Lib.hid hF
  clear h hF
  go_enter Try.func27, Try.ntmps27
  go_wp2_with fail
  go_step3
  go_wp2_with fail
  go_step3
  go_wp2_with fail
  go_loopw [2, 3, 4, 9] (fun f b o i wr => ∃ j : Nat, j ≤ 2048 ∧ i = .int .i64 j ∧ (∃ x, f = .int .i64 x) ∧ (∃ z, b = .int .i64 z) ∧ o = .bool false ∧ Hid (∀ b k, b < j → k < 11 → ¬ Good M b k) ∧ Below w.heap.size w wr) (fun _ _ _ i _ => 2048 - (intOf i).toNat)
  case atStart => exact ⟨0, by omega, rfl, ⟨_, rfl⟩, ⟨_, rfl⟩, rfl, Lib.hid (fun _ _ h => absurd h (Nat.not_lt_zero _)), Below.refl _ _⟩
  case round =>
    obtain ⟨j, hj, rfl, ⟨x, rfl⟩, ⟨z, rfl⟩, rfl, hno, hb⟩ := hrel
    by_cases hlt : j < 2048
    · have hM := HM.out.below hb HM.out.lt
      have hc := hM.cell hlt
      go_wp2_with fail
      go_quiet (fail)
      clear hc hM
      have HB := Lib.hid (below_drewN hb nq)
      go_wp2_with fail
      generalize wr.drewN nq = w2 at HB ⊢
      clear hb
      have hdj : decide ((j : Int) < 2048) = true := decide_eq_true (by omega)
      rw [hdj]
      clear hdj
      go_hide hQ
      go_loopw [2, 3, 4, 15] (fun f b o i wr => ∃ q : Nat, q ≤ 11 ∧ i = .int .i64 q ∧ (∃ x, f = .int .i64 x) ∧ (∃ z, b = .int .i64 z) ∧ o = .bool false ∧ Hid (∀ k, k < q → ¬ Good M j k) ∧ Below w.heap.size w wr) (fun _ _ _ i _ => 11 - (intOf i).toNat)
      case atStart => exact ⟨0, by omega, rfl, ⟨_, rfl⟩, ⟨_, rfl⟩, rfl, Lib.hid (fun _ h => absurd h (Nat.not_lt_zero _)), HB.out⟩
      case round =>
        obtain ⟨q, hq, rfl, ⟨x2, rfl⟩, ⟨y, rfl⟩, rfl, hno2, hb⟩ := hrel
        by_cases hlq : q < 11
        · rcases HF.out j hlt with hm | ⟨k, hk, hm⟩
          · have hn : ¬ Good M j q := fun ⟨k, h1, _⟩ => by rw [hm] at h1; omega
            have HN := Lib.hid hn
            rw [hm]
            clear hm hn HB
            go_wp2_with fail
            refine ⟨⟨q + 1, by omega, by go_num, ⟨_, rfl⟩, ⟨_, rfl⟩, rfl, Lib.hid (fun c hc' => ?_), hb⟩, by simp [intOf]; omega⟩
            by_cases e : c = q
            · subst e; exact HN.out
            · exact hno2.out c (by omega)
          · obtain ⟨p, hp, hp0, hpl, hw⟩ := bit_facts q hlq
            have hY : bits .or .i64 (j : Int) (wrap64 (2 ^ q)) = ((j ||| p : Nat) : Int) := by rw [hw]; exact i64_or_low _ _ hlt hpl
            have hX : bits .andNot .i64 (bits .and .i64 (k : Int) (wrap64 (2 ^ q))) (j : Int) = 0 ↔ ¬ (k.testBit q = true ∧ j.testBit q = false) := by
              rw [hw, i64_and_low _ _ hpl, low_nat hk, ← hp, and_bit]
              cases tb : k.testBit q with
              | false => simp [i64_andNot_zero]
              | true =>
                rw [if_pos rfl, i64_andNot_bit j q hlq]
                cases jb : j.testBit q with
                | true => simp
                | false =>
                  have h2 := Nat.two_pow_pos q
                  have h3 : ¬ ((2 ^ q : Nat) : Int) = 0 := by omega
                  exact ⟨fun h => absurd h h3, fun h => absurd ⟨rfl, rfl⟩ h⟩
            have hr : j ||| p < 2048 := Nat.or_lt_two_pow (n := 11) hlt hpl
            have hc : wr.cell? ⟨g, (bits .or .i64 (j : Int) (wrap64 (2 ^ q))).toNat, none⟩ = some (.int .i64 (M (j ||| p))) := by rw [hY]; exact (HM.out.below hb HM.out.lt).cell hr
            have hy0 : 0 ≤ bits .or .i64 (j : Int) (wrap64 (2 ^ q)) := by rw [hY]; omega
            have hy1 : bits .or .i64 (j : Int) (wrap64 (2 ^ q)) < 2048 := by rw [hY]; omega
            have hgd : ¬ bits .andNot .i64 (bits .and .i64 (k : Int) (wrap64 (2 ^ q))) (j : Int) = 0 → M (j ||| p) = k → Good M j q := fun h h2 => by
              have h3 := Classical.not_not.1 (fun h4 => h (hX.2 h4))
              exact ⟨k, hm, h3.1, h3.2, by rw [hp]; exact h2⟩
            have hn1 : bits .andNot .i64 (bits .and .i64 (k : Int) (wrap64 (2 ^ q))) (j : Int) = 0 → ¬ Good M j q := fun h ⟨k', g1, g2, g3, _⟩ => hX.1 h (by
              have : k' = k := by rw [hm] at g1; omega
              subst this; exact ⟨g2, g3⟩)
            have hn2 : ¬ M (j ||| p) = k → ¬ Good M j q := fun h ⟨k', g1, _, _, g4⟩ => h (by rw [← hp, g4, ← g1, hm])
            have HG := Lib.hid hgd
            have HN1 := Lib.hid hn1
            have HN2 := Lib.hid hn2
            generalize M (j ||| p) = v at hc HG HN2
            have hk1 : ((k : Int) == -1) = false := by simp
            rw [hm]
            clear hm hp hw hX hY hgd hn1 hn2 hr hp0 hpl hk HB
            go_wp2_with fail
            · rename_i hz
              refine ⟨⟨q + 1, by omega, by go_num, ⟨_, rfl⟩, ⟨_, rfl⟩, rfl, Lib.hid (fun c hc' => ?_), hb⟩, by simp [intOf]; omega⟩
              by_cases e : c = q
              · subst e; exact HN1.out hz
              · exact hno2.out c (by omega)
            · rename_i hz hv
              have hvk : v = (k : Int) := by have := hv.2; simpa using this
              have hgood := HG.out hz hvk
              subst hQ
              go_wp2_with fail
              rw [Exit.noGoto_ret]
              obtain ⟨p', hp', _, _, hw'⟩ := bit_facts q hlq
              refine bodyPost_ret (results_tmp3 rfl _ _ _) rfl ⟨.inl ⟨j, q, hlt, hlq, hgood, fun b c hb' hc' hg' => ?_, ?_⟩, hb⟩
              · rcases Nat.lt_trichotomy b j with h1 | h1 | h1
                · exact absurd hg' (hno.out b c h1 hc')
                · subst h1
                  by_cases h2 : c < q
                  · exact absurd hg' (hno2.out c h2)
                  · exact .inr ⟨rfl, by omega⟩
                · exact .inl h1
              · show Ending.returned (.tuple #[.int .i64 (j : Int), .int .i64 (wrap64 (2 ^ q)), .bool true]) = _
                rw [hw', hp']
            · rename_i hz hv
              refine ⟨⟨q + 1, by omega, by go_num, ⟨_, rfl⟩, ⟨_, rfl⟩, rfl, Lib.hid (fun c hc' => ?_), hb⟩, by simp [intOf]; omega⟩
              by_cases e : c = q
              · subst e; exact HN2.out fun h => by subst h; simp_all
              · exact hno2.out c (by omega)
        · subst hQ
          go_wp2_with fail
          exact ⟨⟨j + 1, by omega, by go_num, ⟨_, rfl⟩, ⟨_, rfl⟩, rfl, Lib.hid (fun b c hb' hc' => by
            by_cases e : b = j
            · subst e; exact hno2.out c (by omega)
            · exact hno.out b c (by omega) hc'), hb⟩, by simp [intOf]; omega⟩
    · go_wp2_with fail
      rw [Exit.noGoto_ret]
      exact bodyPost_ret (results_tmp3 rfl _ _ _) rfl ⟨.inr ⟨fun b c hb' hc' => hno.out b c (by omega) hc', _, _, rfl⟩, hb⟩
end Go.Proofs.Ytjofgomnnpeepaa
