/- The walk of FilterPacks. -/
import Derived.Test.YtjofgomnnpeepaaGzb
import Derived.Test.YtjofgomnnpeepaaGn
import Derived.Test.YtjofgomnnpeepaaGj
namespace Go.Proofs.Ytjofgomnnpeepaa
open Go.RowKit Go.Sort

theorem reach_on {M0 M M' : Nat → Int} (h : Reach M0 M) (h' : Reach M0 M') (hn' : NoPair M') : Reach M M' := by
  induction h with
  | start => exact h'
  | step _ h2 ih => exact reach_at h2 ih hn'
theorem reach_unique {M0 M M' : Nat → Int} (h : Reach M0 M) (hn : NoPair M) (h' : Reach M0 M') (hn' : NoPair M') : M' = M := reach_end hn (reach_on h h' hn')
theorem filter_card (p : Nat → Bool) (L : List Int) : ∀ n, (∀ q, q < n → p q = true → (q : Int) ∈ L) → ((List.range n).filter p).length ≤ L.length := by
  intro n
  induction n generalizing L with
  | zero => intro _; simp
  | succ n ih =>
    intro h
    rw [List.range_succ, List.filter_append, List.length_append]
    cases hp : p n with
    | false =>
      have := ih L fun q hq hpq => h q (by omega) hpq
      simp [hp]; exact this
    | true =>
      have hm := h n (by omega) hp
      have := ih (L.erase (n : Int)) fun q hq hpq => (List.mem_erase_of_ne (by omega)).2 (h q (by omega) hpq)
      rw [List.length_erase_of_mem hm] at this
      have hpos : 0 < L.length := List.length_pos_of_mem hm
      simp [hp]; omega
theorem cntS_few (L : List Int) (j : Nat) : cntS L j ≤ L.length := filter_card _ L j fun q _ h => by simpa using h
set_option maxRecDepth 100000 in
set_option maxHeartbeats 4000000 in
theorem filterPacks_walk (A : Option Addr) (n c : Nat) (l : List Int) (w : World) (h : Nums w w.heap.size A n c l) :
    Calls Try.prog 5 #[.slice A n c] w fun e w' => e = .returned (.bool true) ∧ Below w.heap.size w w' := by
  have HH := Lib.hid h
  have hcap := h.cap
  have hmax := h.max
  simp only [maxLen] at hmax
  clear h
  by_cases hn : n ≤ 24
  · go_enter Try.func5, Try.ntmps5
    go_wp2_with fail
    refine (pack_any w A n c (l.take n) (HH.out.take (by omega))).mono ?_
    rintro e w1 ⟨M, hR, hNP, hF, ⟨A1, c1, rfl, hfil⟩, hb⟩
    have hkl : (filL M 2048).length ≤ n ∧ (filL M 2048).length ≤ 24 := by
      have hI : Inv (fun q => (q : Int) ∈ (l.take n).take n) M := inv_reach (inv_start (l.take n) n) hR
      have h1 := pack_few hI
      have h2 := cntS_few ((l.take n).take n) 2048
      have h3 : ((l.take n).take n).length ≤ n := List.length_take_le _ _
      omega
    have HR := Lib.hid hR
    have HNP := Lib.hid hNP
    have HFIT := Lib.hid hF
    have HL : Hid (Nums w1 w1.heap.size A n c (l.take n)) := Lib.hid ((HH.out.take (by omega)).step hb)
    have HF := Lib.hid hfil
    have HB := Lib.hid hb
    have hk1 := hkl.2
    clear hfil hR hNP hF hb hkl
    go_wp2_with fail
    refine (plain_any _ _ _ _ _ HF.out (by omega)).mono ?_
    rintro e w2 ⟨⟨A2, c2, rfl, hP⟩, hb2⟩
    have hL2 := HL.out.step hb2
    have hB2 := HB.out.trans (hb2.mono HB.out.size)
    have HP := Lib.hid hP
    have HL2 := Lib.hid hL2
    have HB2 := Lib.hid hB2
    clear hP hb2 hL2 hB2
    go_wp2_with fail
    refine (refpack_any _ _ _ _ _ HL2.out).mono ?_
    rintro e w3 ⟨M', hR, hNP, hF, ⟨A3, c3, rfl, hfil⟩, hb3⟩
    obtain rfl := reach_unique HR.out HNP.out hR hNP
    have hP3 := HP.out.step hb3
    have hB3 := HB2.out.trans (hb3.mono HB2.out.size)
    have hc2 := hP3.cap
    have hm2 := hP3.max
    have hc3 := hfil.cap
    have hm3 := hfil.max
    simp only [maxLen] at hm2 hm3
    have HP3 := Lib.hid hP3
    have HF3 := Lib.hid hfil
    have HB3 := Lib.hid hB3
    clear hP3 hfil hB3 hR hNP hF hb3 HR HNP HFIT HF HL HL2 HP
    generalize (filL M' 2048) = F at *
    generalize F.length = K at *
    go_wp2_with fail
    go_loopw [5] (fun i wr => ∃ j : Nat, j ≤ K ∧ i = .int .i64 j ∧ Below w3.heap.size w3 wr) (fun i _ => K - (intOf i).toNat)
    case atStart => exact ⟨0, Nat.zero_le _, rfl, Below.refl _ _⟩
    case round =>
      obtain ⟨j, hj, rfl, hb⟩ := hrel
      by_cases hlt : j < K
      · obtain ⟨b, off, rfl, hbb, hcc⟩ := (HP3.out.below hb).cells (by omega)
        obtain ⟨b', off', rfl, hbb', hcc'⟩ := (HF3.out.below hb).cells (by omega)
        obtain ⟨c0, c1⟩ := hcc j hlt
        obtain ⟨d0, d1⟩ := hcc' j hlt
        try simp only at c0 c1 d0 d1
        generalize (F.getD j (0, 0)).1 = x at c0 d0
        generalize (F.getD j (0, 0)).2 = y at c1 d1
        have hjI : (j : Int) < (K : Int) := by omega
        clear hcc hcc'
        go_wp2_with fail
        go_quiet (fail)
        have hb2 := below_drewN hb nq
        generalize wr.drewN nq = wq at hb2 ⊢
        clear hb c0 c1 d0 d1
        go_wp2_with fail
        exact ⟨⟨j + 1, by omega, by go_num, hb2⟩, by simp [intOf]; omega⟩
      · obtain rfl : j = K := by omega
        go_wp2_with fail
        refine (live_any _).mono ?_
        rintro e w5 ⟨rfl, hb5⟩
        go_wp2_with fail
        exact bodyPost_ret (results_tmp rfl _ _ _) rfl ⟨rfl, HB3.out.trans ((hb.trans (hb5.mono hb.size)).mono HB3.out.size)⟩
  · go_enter Try.func5, Try.ntmps5
    go_wp2_with fail
    refine (pack_any w A 24 c (l.take 24) (HH.out.take (by omega))).mono ?_
    rintro e w1 ⟨M, hR, hNP, hF, ⟨A1, c1, rfl, hfil⟩, hb⟩
    have hkl : (filL M 2048).length ≤ 24 ∧ (filL M 2048).length ≤ 24 := by
      have hI : Inv (fun q => (q : Int) ∈ (l.take 24).take 24) M := inv_reach (inv_start (l.take 24) 24) hR
      have h1 := pack_few hI
      have h2 := cntS_few ((l.take 24).take 24) 2048
      have h3 : ((l.take 24).take 24).length ≤ 24 := List.length_take_le _ _
      omega
    have HR := Lib.hid hR
    have HNP := Lib.hid hNP
    have HFIT := Lib.hid hF
    have HL : Hid (Nums w1 w1.heap.size A 24 c (l.take 24)) := Lib.hid ((HH.out.take (by omega)).step hb)
    have HF := Lib.hid hfil
    have HB := Lib.hid hb
    have hk1 := hkl.2
    clear hfil hR hNP hF hb hkl
    go_wp2_with fail
    refine (plain_any _ _ _ _ _ HF.out (by omega)).mono ?_
    rintro e w2 ⟨⟨A2, c2, rfl, hP⟩, hb2⟩
    have hL2 := HL.out.step hb2
    have hB2 := HB.out.trans (hb2.mono HB.out.size)
    have HP := Lib.hid hP
    have HL2 := Lib.hid hL2
    have HB2 := Lib.hid hB2
    clear hP hb2 hL2 hB2
    go_wp2_with fail
    refine (refpack_any _ _ _ _ _ HL2.out).mono ?_
    rintro e w3 ⟨M', hR, hNP, hF, ⟨A3, c3, rfl, hfil⟩, hb3⟩
    obtain rfl := reach_unique HR.out HNP.out hR hNP
    have hP3 := HP.out.step hb3
    have hB3 := HB2.out.trans (hb3.mono HB2.out.size)
    have hc2 := hP3.cap
    have hm2 := hP3.max
    have hc3 := hfil.cap
    have hm3 := hfil.max
    simp only [maxLen] at hm2 hm3
    have HP3 := Lib.hid hP3
    have HF3 := Lib.hid hfil
    have HB3 := Lib.hid hB3
    clear hP3 hfil hB3 hR hNP hF hb3 HR HNP HFIT HF HL HL2 HP
    generalize (filL M' 2048) = F at *
    generalize F.length = K at *
    go_wp2_with fail
    go_loopw [5] (fun i wr => ∃ j : Nat, j ≤ K ∧ i = .int .i64 j ∧ Below w3.heap.size w3 wr) (fun i _ => K - (intOf i).toNat)
    case atStart => exact ⟨0, Nat.zero_le _, rfl, Below.refl _ _⟩
    case round =>
      obtain ⟨j, hj, rfl, hb⟩ := hrel
      by_cases hlt : j < K
      · obtain ⟨b, off, rfl, hbb, hcc⟩ := (HP3.out.below hb).cells (by omega)
        obtain ⟨b', off', rfl, hbb', hcc'⟩ := (HF3.out.below hb).cells (by omega)
        obtain ⟨c0, c1⟩ := hcc j hlt
        obtain ⟨d0, d1⟩ := hcc' j hlt
        try simp only at c0 c1 d0 d1
        generalize (F.getD j (0, 0)).1 = x at c0 d0
        generalize (F.getD j (0, 0)).2 = y at c1 d1
        have hjI : (j : Int) < (K : Int) := by omega
        clear hcc hcc'
        go_wp2_with fail
        go_quiet (fail)
        have hb2 := below_drewN hb nq
        generalize wr.drewN nq = wq at hb2 ⊢
        clear hb c0 c1 d0 d1
        go_wp2_with fail
        exact ⟨⟨j + 1, by omega, by go_num, hb2⟩, by simp [intOf]; omega⟩
      · obtain rfl : j = K := by omega
        go_wp2_with fail
        refine (live_any _).mono ?_
        rintro e w5 ⟨rfl, hb5⟩
        go_wp2_with fail
        exact bodyPost_ret (results_tmp rfl _ _ _) rfl ⟨rfl, HB3.out.trans ((hb.trans (hb5.mono hb.size)).mono HB3.out.size)⟩
end Go.Proofs.Ytjofgomnnpeepaa
