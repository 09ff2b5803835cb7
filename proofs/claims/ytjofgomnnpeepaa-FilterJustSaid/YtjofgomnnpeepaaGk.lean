/- The walk of FilterJust. -/
import Derived.Test.YtjofgomnnpeepaaGj
namespace Go.Proofs.Ytjofgomnnpeepaa
open Go.RowKit Go.Sort

set_option maxRecDepth 100000 in
set_option maxHeartbeats 4000000 in
theorem filterJust_walk (A : Option Addr) (n c : Nat) (l : List Int) (w : World) (h : Nums w w.heap.size A n c l) :
    Calls Try.prog 6 #[.slice A n c] w fun e w' => e = .returned (.bool true) ∧ Below w.heap.size w w' := by
  have HH := Lib.hid h
  have hcap := h.cap
  have hmax := h.max
  simp only [maxLen] at hmax
  clear h
  by_cases hn : n ≤ 40
  · go_enter Try.func6, Try.ntmps6
    go_wp2_with fail
    refine (pack_any w A n c (l.take n) (HH.out.take (by omega))).mono ?_
    rintro e w1 ⟨M, hR, _, hF, ⟨A1, c1, rfl, hfil⟩, hb⟩
    have hI : Inv (fun q => (q : Int) ∈ l.take n) M := by
      have := inv_reach (inv_start (l.take n) n) hR
      rwa [List.take_take, Nat.min_self] at this
    have hP : Hid (∀ id : Nat, id < 2048 → anyF (fun i => (filL M 2048).getD i (0, 0)) (filL M 2048).length id = decide ((id : Int) ∈ l.take n)) := fun id hid => by
      rw [Bool.eq_iff_iff, pack_pass hI hid, decide_eq_true_iff]
    have hMt : Hid (∀ (i j : Nat) (ca ma cb mb : Int), i < (filL M 2048).length → j < i → (filL M 2048).getD i (0, 0) = (ca, ma) → (filL M 2048).getD j (0, 0) = (cb, mb) → meets (low ca) (low ma) (low cb) (low mb) = false) := fun i j ca ma cb mb hi hj ea eb => pack_meet hI hi hj ea eb
    have hfew : ((filL M 2048).length : Int) ≤ ((cntS (l.take n) 2048 : Nat) : Int) := by have := pack_few hI; omega
    have HL : Hid (Nums w1 w1.heap.size A n c (l.take n)) := Lib.hid ((HH.out.take (by omega)).step hb)
    have hcf := hfil.cap
    have hmf := hfil.max
    simp only [maxLen] at hmf
    have HF := Lib.hid hfil
    have HB := Lib.hid hb
    clear hfil hI hR hF hb
    generalize filL M 2048 = F at *
    generalize hK : F.length = K at *
    generalize l.take n = L at *
    clear hK
    go_wp2_with fail
    go_loopw [4, 5] (fun n i wr => ∃ j : Nat, j ≤ 2048 ∧ i = .int .i64 j ∧ n = .int .i64 (cntS L j : Nat) ∧ Below w1.heap.size w1 wr) (fun _ i _ => 2048 - (intOf i).toNat)
    case atStart => exact ⟨0, by omega, rfl, rfl, Below.refl _ _⟩
    case round =>
      obtain ⟨j, hj, rfl, rfl, hb⟩ := hrel
      have hcl := cntS_le L j
      by_cases hlt : j < 2048
      · go_wp2_with fail
        go_loop [6, 7] (fun b i => ∃ p : Nat, p ≤ n ∧ i = .int .i64 p ∧ b = .bool (decide ((j : Int) ∈ L.take p))) (fun _ i => n - (intOf i).toNat)
        case atStart => exact ⟨0, Nat.zero_le _, rfl, by simp⟩
        case round =>
          obtain ⟨p, hp, rfl, rfl⟩ := hrel
          have hLl := HL.out.len
          by_cases hlp : p < n
          · obtain ⟨b, off, rfl, hbb, hcc⟩ := (HL.out.step hb).cells (by omega)
            have hcp := hcc p hlp
            have hms : decide ((j : Int) ∈ L.take (p + 1)) = (decide ((j : Int) ∈ L.take p) || (L.getD p 0 == (j : Int))) := by
              rw [take_succ_getD (by omega), Bool.eq_iff_iff]
              simp only [List.mem_append, List.mem_singleton, Bool.or_eq_true, decide_eq_true_eq, beq_iff_eq]
              constructor
              · rintro (h | h)
                · exact .inl h
                · exact .inr h.symm
              · rintro (h | h)
                · exact .inl h
                · exact .inr h.symm
            generalize L.getD p 0 = x at hcp hms
            generalize decide ((j : Int) ∈ L.take p) = d at hms ⊢
            have HMS := Lib.hid hms
            clear hms hcc hLl
            cases d with
            | true =>
              go_wp2_with fail
              go_round
              case rel => exact ⟨p + 1, by omega, by go_num, by rw [HMS.out]; rfl⟩
              case measure => simp [intOf]; omega
            | false =>
              go_wp2_with fail
              go_round
              case rel => exact ⟨p + 1, by omega, by go_num, by rw [HMS.out, Bool.false_or]⟩
              case measure => simp [intOf]; omega
          · obtain rfl : p = n := by omega
            have hpass := hP.out j hlt
            rw [List.take_of_length_le (by omega)]
            have h1 := @cntS_in L j
            have h2 := @cntS_out L j
            generalize hd : decide ((j : Int) ∈ L) = d at hpass h1 h2 ⊢
            have H1 := Lib.hid h1
            have H2 := Lib.hid h2
            have HPS := Lib.hid hpass
            have hfl := HF.out.step hb
            have HFL := Lib.hid hfl
            clear h1 h2 hpass hfl hd hLl
            have hBB := Lib.hid hb
            cases d with
            | true =>
              go_wp2_with fail
              refine (pass_any _ _ _ _ _ _ HFL.out).mono ?_
              rintro e w3 ⟨rfl, hb3⟩
              rw [HPS.out]
              have hb4 := hb.trans (hb3.mono hb.size)
              clear hb3
              go_wp2_with fail
              exact ⟨⟨j + 1, by omega, by go_num, by rw [H1.out (by first | trivial | rfl)]; go_num, hb4⟩, by simp [intOf]; omega⟩
            | false =>
              go_wp2_with fail
              refine (pass_any _ _ _ _ _ _ HFL.out).mono ?_
              rintro e w3 ⟨rfl, hb3⟩
              rw [HPS.out]
              have hb4 := hb.trans (hb3.mono hb.size)
              clear hb3
              go_wp2_with fail
              exact ⟨⟨j + 1, by omega, by go_num, by rw [H2.out (by first | trivial | rfl)], hb4⟩, by simp [intOf]; omega⟩
      · have ej : j = 2048 := by omega
        rw [← ej] at hfew
        have hnl : ¬ (j : Int) < 2048 := by omega
        clear hP HL ej hlt
        generalize cntS L j = Z at *
        go_wp2_with fail
        go_loopw [8] (fun i wr => ∃ j : Nat, j ≤ K ∧ i = .int .i64 j ∧ Below w1.heap.size w1 wr) (fun i _ => K - (intOf i).toNat)
        case atStart => exact ⟨0, Nat.zero_le _, rfl, hb⟩
        case round =>
          obtain ⟨j, hj, rfl, hb⟩ := hrel
          by_cases hlt : j < K
          · go_wp2_with fail
            go_loopw [9] (fun i wr => ∃ p : Nat, p ≤ j ∧ i = .int .i64 p ∧ Below w1.heap.size w1 wr) (fun i _ => j - (intOf i).toNat)
            case atStart => exact ⟨0, Nat.zero_le _, rfl, hb⟩
            case round =>
              obtain ⟨p, hp, rfl, hb⟩ := hrel
              by_cases hlp : p < j
              · obtain ⟨b, off, rfl, hbb, hcc⟩ := (HF.out.step hb).cells (by omega)
                obtain ⟨c0, c1⟩ := hcc j (by omega)
                obtain ⟨c2, c3⟩ := hcc p (by omega)
                have hmm := hMt.out j p
                generalize F.getD j (0, 0) = f at c0 c1 hmm
                generalize F.getD p (0, 0) = g at c2 c3 hmm
                obtain ⟨ca, ma⟩ := f
                obtain ⟨cb, mb⟩ := g
                have hme := hmm ca ma cb mb hlt hlp rfl rfl
                simp only at c0 c1 c2 c3
                have k0 := cell_grown (a := ⟨b, off + j * 2, none⟩) hbb c0
                have k1 := cell_grown (a := ⟨b, off + j * 2 + 1, none⟩) hbb c1
                have k2 := cell_grown (a := ⟨b, off + p * 2, none⟩) hbb c2
                have k3 := cell_grown (a := ⟨b, off + p * 2 + 1, none⟩) hbb c3
                have hmix := filter_mix
                have hpK : p < K := by omega
                have hpK2 : (p : Int) < (K : Int) := by omega
                clear c0 c1 c2 c3 hcc hmm
                go_wp2_with fail
                go_quiet_grown (first | (go_at_call 15; refine Calls.grown_of (meet_no _ _ _ _ _ hme)))
                go_wp2_with fail
                go_roundw
                case rel => exact ⟨p + 1, by omega, by go_num, hb.trans ((below_gr _ nq osq).mono hb.size)⟩
                case measure => simp [intOf]; omega
              · obtain rfl : p = j := by omega
                go_wp2_with fail
                exact ⟨⟨p + 1, by omega, by go_num, hb⟩, by simp [intOf]; omega⟩
          · obtain rfl : j = K := by omega
            go_wp2_with fail
            refine (live_any _).mono ?_
            rintro e w5 ⟨rfl, hb5⟩
            go_wp2_with fail
            exact bodyPost_ret (results_tmp rfl _ _ _) rfl ⟨rfl, HB.out.trans ((hb.trans (hb5.mono hb.size)).mono HB.out.size)⟩
  · go_enter Try.func6, Try.ntmps6
    go_wp2_with fail
    refine (pack_any w A 40 c (l.take 40) (HH.out.take (by omega))).mono ?_
    rintro e w1 ⟨M, hR, _, hF, ⟨A1, c1, rfl, hfil⟩, hb⟩
    have hI : Inv (fun q => (q : Int) ∈ l.take 40) M := by
      have := inv_reach (inv_start (l.take 40) 40) hR
      rwa [List.take_take, Nat.min_self] at this
    have hP : Hid (∀ id : Nat, id < 2048 → anyF (fun i => (filL M 2048).getD i (0, 0)) (filL M 2048).length id = decide ((id : Int) ∈ l.take 40)) := fun id hid => by
      rw [Bool.eq_iff_iff, pack_pass hI hid, decide_eq_true_iff]
    have hMt : Hid (∀ (i j : Nat) (ca ma cb mb : Int), i < (filL M 2048).length → j < i → (filL M 2048).getD i (0, 0) = (ca, ma) → (filL M 2048).getD j (0, 0) = (cb, mb) → meets (low ca) (low ma) (low cb) (low mb) = false) := fun i j ca ma cb mb hi hj ea eb => pack_meet hI hi hj ea eb
    have hfew : ((filL M 2048).length : Int) ≤ ((cntS (l.take 40) 2048 : Nat) : Int) := by have := pack_few hI; omega
    have HL : Hid (Nums w1 w1.heap.size A 40 c (l.take 40)) := Lib.hid ((HH.out.take (by omega)).step hb)
    have hcf := hfil.cap
    have hmf := hfil.max
    simp only [maxLen] at hmf
    have HF := Lib.hid hfil
    have HB := Lib.hid hb
    clear hfil hI hR hF hb
    generalize filL M 2048 = F at *
    generalize hK : F.length = K at *
    generalize l.take 40 = L at *
    clear hK
    go_wp2_with fail
    go_loopw [4, 5] (fun n i wr => ∃ j : Nat, j ≤ 2048 ∧ i = .int .i64 j ∧ n = .int .i64 (cntS L j : Nat) ∧ Below w1.heap.size w1 wr) (fun _ i _ => 2048 - (intOf i).toNat)
    case atStart => exact ⟨0, by omega, rfl, rfl, Below.refl _ _⟩
    case round =>
      obtain ⟨j, hj, rfl, rfl, hb⟩ := hrel
      have hcl := cntS_le L j
      by_cases hlt : j < 2048
      · go_wp2_with fail
        go_loop [6, 7] (fun b i => ∃ p : Nat, p ≤ 40 ∧ i = .int .i64 p ∧ b = .bool (decide ((j : Int) ∈ L.take p))) (fun _ i => 40 - (intOf i).toNat)
        case atStart => exact ⟨0, Nat.zero_le _, rfl, by simp⟩
        case round =>
          obtain ⟨p, hp, rfl, rfl⟩ := hrel
          have hLl := HL.out.len
          by_cases hlp : p < 40
          · obtain ⟨b, off, rfl, hbb, hcc⟩ := (HL.out.step hb).cells (by omega)
            have hcp := hcc p hlp
            have hms : decide ((j : Int) ∈ L.take (p + 1)) = (decide ((j : Int) ∈ L.take p) || (L.getD p 0 == (j : Int))) := by
              rw [take_succ_getD (by omega), Bool.eq_iff_iff]
              simp only [List.mem_append, List.mem_singleton, Bool.or_eq_true, decide_eq_true_eq, beq_iff_eq]
              constructor
              · rintro (h | h)
                · exact .inl h
                · exact .inr h.symm
              · rintro (h | h)
                · exact .inl h
                · exact .inr h.symm
            generalize L.getD p 0 = x at hcp hms
            generalize decide ((j : Int) ∈ L.take p) = d at hms ⊢
            have HMS := Lib.hid hms
            clear hms hcc hLl
            cases d with
            | true =>
              go_wp2_with fail
              go_round
              case rel => exact ⟨p + 1, by omega, by go_num, by rw [HMS.out]; rfl⟩
              case measure => simp [intOf]; omega
            | false =>
              go_wp2_with fail
              go_round
              case rel => exact ⟨p + 1, by omega, by go_num, by rw [HMS.out, Bool.false_or]⟩
              case measure => simp [intOf]; omega
          · obtain rfl : p = 40 := by omega
            have hpass := hP.out j hlt
            rw [List.take_of_length_le (by omega)]
            have h1 := @cntS_in L j
            have h2 := @cntS_out L j
            generalize hd : decide ((j : Int) ∈ L) = d at hpass h1 h2 ⊢
            have H1 := Lib.hid h1
            have H2 := Lib.hid h2
            have HPS := Lib.hid hpass
            have hfl := HF.out.step hb
            have HFL := Lib.hid hfl
            clear h1 h2 hpass hfl hd hLl
            have hBB := Lib.hid hb
            cases d with
            | true =>
              go_wp2_with fail
              refine (pass_any _ _ _ _ _ _ HFL.out).mono ?_
              rintro e w3 ⟨rfl, hb3⟩
              rw [HPS.out]
              have hb4 := hb.trans (hb3.mono hb.size)
              clear hb3
              go_wp2_with fail
              exact ⟨⟨j + 1, by omega, by go_num, by rw [H1.out (by first | trivial | rfl)]; go_num, hb4⟩, by simp [intOf]; omega⟩
            | false =>
              go_wp2_with fail
              refine (pass_any _ _ _ _ _ _ HFL.out).mono ?_
              rintro e w3 ⟨rfl, hb3⟩
              rw [HPS.out]
              have hb4 := hb.trans (hb3.mono hb.size)
              clear hb3
              go_wp2_with fail
              exact ⟨⟨j + 1, by omega, by go_num, by rw [H2.out (by first | trivial | rfl)], hb4⟩, by simp [intOf]; omega⟩
      · have ej : j = 2048 := by omega
        rw [← ej] at hfew
        have hnl : ¬ (j : Int) < 2048 := by omega
        clear hP HL ej hlt
        generalize cntS L j = Z at *
        go_wp2_with fail
        go_loopw [8] (fun i wr => ∃ j : Nat, j ≤ K ∧ i = .int .i64 j ∧ Below w1.heap.size w1 wr) (fun i _ => K - (intOf i).toNat)
        case atStart => exact ⟨0, Nat.zero_le _, rfl, hb⟩
        case round =>
          obtain ⟨j, hj, rfl, hb⟩ := hrel
          by_cases hlt : j < K
          · go_wp2_with fail
            go_loopw [9] (fun i wr => ∃ p : Nat, p ≤ j ∧ i = .int .i64 p ∧ Below w1.heap.size w1 wr) (fun i _ => j - (intOf i).toNat)
            case atStart => exact ⟨0, Nat.zero_le _, rfl, hb⟩
            case round =>
              obtain ⟨p, hp, rfl, hb⟩ := hrel
              by_cases hlp : p < j
              · obtain ⟨b, off, rfl, hbb, hcc⟩ := (HF.out.step hb).cells (by omega)
                obtain ⟨c0, c1⟩ := hcc j (by omega)
                obtain ⟨c2, c3⟩ := hcc p (by omega)
                have hmm := hMt.out j p
                generalize F.getD j (0, 0) = f at c0 c1 hmm
                generalize F.getD p (0, 0) = g at c2 c3 hmm
                obtain ⟨ca, ma⟩ := f
                obtain ⟨cb, mb⟩ := g
                have hme := hmm ca ma cb mb hlt hlp rfl rfl
                simp only at c0 c1 c2 c3
                have k0 := cell_grown (a := ⟨b, off + j * 2, none⟩) hbb c0
                have k1 := cell_grown (a := ⟨b, off + j * 2 + 1, none⟩) hbb c1
                have k2 := cell_grown (a := ⟨b, off + p * 2, none⟩) hbb c2
                have k3 := cell_grown (a := ⟨b, off + p * 2 + 1, none⟩) hbb c3
                have hmix := filter_mix
                have hpK : p < K := by omega
                have hpK2 : (p : Int) < (K : Int) := by omega
                clear c0 c1 c2 c3 hcc hmm
                go_wp2_with fail
                go_quiet_grown (first | (go_at_call 15; refine Calls.grown_of (meet_no _ _ _ _ _ hme)))
                go_wp2_with fail
                go_roundw
                case rel => exact ⟨p + 1, by omega, by go_num, hb.trans ((below_gr _ nq osq).mono hb.size)⟩
                case measure => simp [intOf]; omega
              · obtain rfl : p = j := by omega
                go_wp2_with fail
                exact ⟨⟨p + 1, by omega, by go_num, hb⟩, by simp [intOf]; omega⟩
          · obtain rfl : j = K := by omega
            go_wp2_with fail
            refine (live_any _).mono ?_
            rintro e w5 ⟨rfl, hb5⟩
            go_wp2_with fail
            exact bodyPost_ret (results_tmp rfl _ _ _) rfl ⟨rfl, HB.out.trans ((hb.trans (hb5.mono hb.size)).mono HB.out.size)⟩
end Go.Proofs.Ytjofgomnnpeepaa
