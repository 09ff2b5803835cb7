/- The statement BitsBack: what was stuffed is unstuffed as it was, has no six equal bits behind each other, and is at most a fourth longer; what is unstuffed, stuffed again, is the row: every row. No conditions. -/
import Derived.Test.YtjkigjefgfcaaaaBitsC
import Derived.Test.YtjkigjefgfcaaaaBitsE
import Derived.Test.YtjkigjefgfcaaaaRows
import Derived.ChangeOld
import Derived.ShutString
import Derived.SizedLaws
namespace Go.Proofs.Ytjkigjefgfcaaaa.bitsBack
open Go.ChangeShapes Go.WideShapes Go.ChangeAt Go.RowKit
set_option linter.unusedVariables false

/-- Nowhere in a stuffed row are there six equal bits behind each other. -/
theorem no_six (l : List Int) : ∀ k, tailN ((stuffL l).take k) ≤ 5 := by
  refine snoc_cases (P := fun l => ∀ k, tailN ((stuffL l).take k) ≤ 5) (fun k => by simp [stuffL, tailN_nil]) ?_ l
  intro l x ih k
  have h4 := (stuff_size l).1
  have h1 := tailN_snoc_le (stuffL l) (x % 2)
  rcases Nat.lt_or_ge (stuffL l).length k with hk | hk
  case inr =>
    have e : (stuffL (l ++ [x])).take k = (stuffL l).take k := by
      rw [stuffL_snoc]
      unfold stuffStep
      split
      · rw [List.append_assoc, List.take_append_of_le_length hk]
      · rw [List.take_append_of_le_length hk]
    rw [e]; exact ih k
  case inl =>
    rw [stuffL_snoc]
    unfold stuffStep
    split
    · rename_i h5
      rcases Nat.lt_or_ge k ((stuffL l).length + 2) with hk2 | hk2
      · rw [List.take_append_of_le_length (by simp; omega), List.take_of_length_le (by simp; omega)]
        omega
      · rw [List.take_of_length_le (by simp; omega), tailN_snoc, if_neg (by simp), lastB_snoc, if_neg (by omega)]
        omega
    · rw [List.take_of_length_le (by simp; omega)]
      omega

theorem unA_len (l : List Int) : (unA l).length ≤ l.length := by
  unfold unA
  cases h : unO (pl l) with
  | none => simp
  | some o =>
    simp only
    split
    · simp
    · have := (unO_sub _ o h).1; rw [pl_len] at this; exact this

theorem walk (A : Option Addr) (n c : Nat) (l : List Int) (w : World) (h : Byt w w.heap.size A n c l) (hc : c * 1 ≤ 140737488351232) :
    Calls Try.prog 5 #[.slice A n c] w fun e w' => e = .returned (.bool true) ∧ Below w.heap.size w w' := by
  have hcap := h.cap
  have hsz := stuff_size l
  have hl := h.len
  rw [hl] at hsz
  have hback := un_back l
  have hS1 := hsz.2.1
  have hS2 : (stuffL l).length ≤ 175921860439040 := by omega
  have hS3 : 4 * (stuffL l).length ≤ 5 * n := by omega
  go_enter Try.func5, Try.ntmps5
  go_wp2_with fail
  refine (stuff_any _ _ _ _ _ h (by omega)).mono ?_
  rintro e w1 ⟨A1, c1, rfl, hB1, hb1⟩
  have HN := Lib.hid (no_six l)
  have HSB := Lib.hid (stuff_bits l)
  generalize hSS : stuffL l = S at *
  have HSS := Lib.hid hSS
  have hun := fun (w : World) (h : Byt w w.heap.size A1 S.length c1 S) => unstuff_any w A1 S.length c1 S h (by omega)
  rw [hback.1, hback.2, pl_len, hl] at hun
  have HUN := Lib.hid hun
  have HL := Lib.hid hl
  have HH := Lib.hid h
  clear hun hback hSS hl
  go_wp2_with fail
  refine (HUN.out _ hB1).mono ?_
  rintro e w2 ⟨A2, c2, rfl, hB2, hb2⟩
  have hs2 := below_trans' hb1 hb2
  have hS := hB1.step hb2
  clear hsz hB1 h
  have hn0 : n ≤ 140737488351232 := by omega
  have hd1 : (S.length : Int) - (n : Int) ≤ (n : Int) / 4 := by omega
  have hd2 : ¬ (S.length : Int) < (n : Int) := by omega
  go_wp2_with fail
  refine (plain_any _ _ _ _ _ (HH.out.step hs2) (by omega)).mono ?_
  rintro e w3 ⟨A3, c3, rfl, hB3, hb3⟩
  have hs3 := below_trans' hs2 hb3
  go_wp2_with fail
  refine (same_any _ _ _ _ _ _ _ _ _ (hB2.step hb3) hB3).mono ?_
  rintro e w4 ⟨he, hb4⟩
  rw [decide_eq_true rfl] at he
  subst he
  have hs4 := below_trans' hs3 hb4
  have hS4 := (hS.step hb3).step hb4
  clear hB2 hB3 hS
  have hSc := hS4.cap
  have hSm := hS4.max
  simp only [maxLen] at hSm
  go_wp2_with fail
  go_loopw [6, 7] (fun v i wr => ∃ j m : Nat, j ≤ S.length ∧ i = .int .i64 j ∧ v = .int .i64 m ∧ Hid (m = tailN (S.take j)) ∧ Below w4.heap.size w4 wr) (fun _ i _ => S.length - (intOf i).toNat)
  case atStart => exact ⟨0, 0, Nat.zero_le _, rfl, rfl, rfl, Below.refl _ _⟩
  case round =>
    obtain ⟨j, m, hj, rfl, rfl, hm, hbel⟩ := hrel
    by_cases hlt : j < S.length
    · have hSb := hS4.below hbel
      obtain ⟨b, off, rfl, hb, hc4⟩ := hSb.cells (by omega)
      have hcj := hc4 j hlt
      have hm5 := HN.out j
      have hm6 := HN.out (j + 1)
      have hget : S.take (j + 1) = S.take j ++ [S.getD j 0] := take_succ_getD hlt
      have htn := tailN_snoc (S.take j) (S.getD j 0)
      rw [← hget, ← hm.out] at htn
      rw [← hm.out] at hm5
      by_cases hj0 : j = 0
      · subst hj0
        have hm0 : m = 0 := hm.out
        have ht1 : tailN (S.take 1) = 1 := by rw [htn, if_pos (by simp)]
        subst hm0
        have HT := Lib.hid ht1
        have hd : decide ((0 : Int) < ((0 : Nat) : Int)) = false := by decide
        clear hSb hc4 hm5 hm6 hget htn ht1 hcj
        go_wp2_with fail
        go_quiet (fail)
        go_wp2
        go_roundw
        case rel => exact ⟨1, 1, by omega, by go_num, by go_num, HT.out.symm, below_drewN hbel _⟩
        case measure => simp [intOf]; omega
      · have hlast : S.getD (j - 1) 0 = lastB (S.take j) := by
          obtain ⟨j', rfl⟩ : ∃ j', j = j' + 1 := ⟨j - 1, by omega⟩
          rw [take_succ_getD (by omega), lastB_snoc]; rfl
        have hcr := hc4 (j - 1) (by omega)
        have hne : ¬ S.take j = [] := fun e => by
          have := congrArg List.length e
          rw [List.length_take, List.length_nil] at this
          omega
        rw [if_neg hne, ← hlast] at htn
        have j1 : ((j : Int) - 1).toNat = j - 1 := by omega
        have hd : decide ((0 : Int) < (j : Int)) = true := by simp; omega
        have hdn : decide (0 < j) = true := by simp; omega
        generalize S.getD j 0 = q at hcj hget htn
        generalize S.getD (j - 1) 0 = r at hcr hlast htn
        by_cases hqr : r = q
        · rw [if_pos hqr] at htn
          have hnb : (q != r) = false := by simp [hqr]
          have hnb2 : (q == r) = true := by simp [hqr]
          have hm7 : m + 1 ≤ 5 := by omega
          have HT := Lib.hid htn
          clear hSb hc4 hm5 hm6 hget htn hlast hqr hm
          go_wp2_with fail
          go_quiet (fail)
          go_wp2
          go_roundw
          case rel => exact ⟨j + 1, m + 1, by omega, by go_num, by go_num, HT.out.symm, below_drewN hbel _⟩
          case measure => simp [intOf]; omega
        · rw [if_neg hqr] at htn
          have hnb : (q != r) = true := by simp; exact fun e => hqr e.symm
          have hnb2 : (q == r) = false := by simp; exact fun e => hqr e.symm
          have HT := Lib.hid htn
          clear hSb hc4 hm5 hm6 hget htn hlast hqr hm
          go_wp2_with fail
          go_quiet (fail)
          go_wp2
          go_roundw
          case rel => exact ⟨j + 1, 1, by omega, by go_num, by go_num, HT.out.symm, below_drewN hbel _⟩
          case measure => simp [intOf]; omega
    · have hs5 := hs4.trans (hbel.mono hs4.size)
      clear hS4 hm
      go_wp2_with fail
      refine (unstuff_any _ _ _ _ _ (HH.out.step hs5) (by omega)).mono ?_
      rintro e w6 ⟨A6, c6, rfl, hB6, hb6⟩
      have hs6 := below_trans' hs5 hb6
      by_cases he : unE l = 0
      · have hag := un_again he
        have hul := unA_len l
        rw [HL.out] at hul
        have hst := fun (w : World) (h : Byt w w.heap.size A6 (unA l).length c6 (unA l)) => stuff_any w A6 _ c6 _ h (by omega)
        rw [hag] at hst
        have HST := Lib.hid hst
        rw [he]
        clear hag hst he
        go_wp2_with fail
        refine (live1_any _).mono ?_
        rintro e w7 ⟨rfl, hb7⟩
        have hs7 := below_trans' hs6 hb7
        go_wp2_with fail
        refine (HST.out _ (hB6.step hb7)).mono ?_
        rintro e w8 ⟨A8, c8, rfl, hB8, hb8⟩
        have hs8 := below_trans' hs7 hb8
        go_wp2_with fail
        refine (plain_any _ _ _ _ _ (HH.out.step hs8) (by omega)).mono ?_
        rintro e w9 ⟨A9, c9, rfl, hB9, hb9⟩
        have hs9 := below_trans' hs8 hb9
        go_wp2_with fail
        refine (same_any _ _ _ _ _ _ _ _ _ (hB8.step hb9) hB9).mono ?_
        rintro e w10 ⟨rfl, hb10⟩
        have hs10 := below_trans' hs9 hb10
        go_wp2
        go_ret
        exact ⟨by simp, hs10⟩
      · have hd : (unE l == 0) = false := by simp [he]
        have hd3 : (unE l != 0) = true := by simp [he]
        clear he
        go_wp2_with fail
        refine (live1_any _).mono ?_
        rintro e w7 ⟨rfl, hb7⟩
        have hs7 := below_trans' hs6 hb7
        go_wp2
        go_ret
        exact ⟨by simp, hs7⟩

theorem own : ownKnob Try.prog.godebug = none := by kernel_rfl
theorem laidOut : laidOutB Try.prog = true := by kernel_rfl

theorem bytes1 : Try.prog.bytesOf 5 = 1 := by kernel_rfl


set_option maxRecDepth 100000 in
theorem lifted (os : Os) (started : os.Started) (H : Type) (enc : TypeId × Value → H) :
    ReturnsInHanded {} Try.checked os 5 .any (Rows.bitsBackSpec.pre6 enc Try.prog Try.f5 Rows.bitsBackRow.domain false) (Rows.bitsBackSpec.post enc Try.prog Try.f5 false true false false) := by
  refine returnsInHanded_of_change_sized (C := Try.checked) own started (by kernel_rfl) Try.func5
    (ChangeSpec.witness6 (enc := enc) (C := Try.checked) false ⟨#[], #[.slice none 0 0], []⟩ 8 (by kernel_rfl) (by kernel_rfl) (by kernel_rfl) (by kernel_rfl)) ?_
  intro W base args ds gs before hval0 hW hcnd hsz0 _
  have hval : ∀ (j : Nat) t v, Try.f5.params[j]? = some t → args[j]? = some v → Value.okWide Try.prog W .any base t v := hval0
  have hsz : (DataW.weightsEach Try.prog (Try.f5.params.toList ++ Rows.bitsBackSpec.plain.varTypes Try.prog) (ds ++ gs)).all (· ≤ reachBytes) = true := hsz0
  have hW' := hW
  obtain ⟨p, q, hA0, hV, rfl, hfz, hnd⟩ := hW
  have hA : DataW.TrodAll enc Try.prog W 0 (fun _ => true) true Try.f5.params.toList args.toList ds p := hA0
  rw [Try.params5] at hA hval hsz
  obtain ⟨v0, vs0, d0, ds0, p0, q0, hargs, rfl, rfl, h0, r0⟩ := trodAll_cons hA
  obtain ⟨rfl, rfl, rfl⟩ := trodAll_nil r0
  obtain rfl : args = #[v0] := by cases args; simp_all
  obtain ⟨rfl, rfl⟩ := trodVars_none hV
  obtain ⟨a0, len0, cap0, rfl⟩ := okWide_slice Try.underlying23 (hval 0 23 v0 rfl rfl)
  have k0 := h0
  have lt0 : ∀ x ∈ p0, x.block < W.heap.size := by obtain ⟨m, hm⟩ := k0; exact DataW.trod_lt m _ _ _ hm
  obtain ⟨z0, w0, y0⟩ : ∃ zs, Byt W W.heap.size a0 len0 cap0 zs ∧ cap0 * 1 ≤ 140737488351232 := by
    obtain ⟨fuel, hf⟩ := h0
    rcases open_ints Try.underlying23 Try.underlying5 (by kernel_rfl) hf with ⟨hcs, _⟩ | ⟨x, l, c, zs, hcs, _, hl, hm, hz, hx, hcell, hwz⟩
    · simp [Value.cells] at hcs
      obtain ⟨rfl, rfl, rfl⟩ := hcs
      exact ⟨[], Byt.nil_ _ _, by omega⟩
    · simp [Value.cells] at hcs
      obtain ⟨rfl, rfl, rfl⟩ := hcs
      have hs := hsz
      obtain ⟨rfl, rfl⟩ := hx
      have hs := sized_slice hs (j := 0) (t := 23) (e := 5) rfl rfl Try.underlying23
      rw [bytes1] at hs
      simp only [lits, List.length_map, List.length_take, List.length_drop, reachBytes] at hs
      exact ⟨_, byt_of_row hl hm (by simpa using hz) hcell hwz, by simp at hz; omega⟩
  clear hA0 hval0
  refine (walk a0 len0 cap0 z0 W w0 y0).mono fun e W' ⟨he, bel⟩ => ?_
  subst he
  exact ⟨_, rfl, _, _, _, [], _, [], hW', trodAll_mk1 (shut_bool Try.underlying4 _), (trodAll_cons_mk (Below.trod laidOut (by kernel_rfl) (of_decide_eq_true (by kernel_rfl)) k0 bel lt0) trodAll_mk0), rfl, bel.frame _, fun h => by cases h⟩

theorem over : Rows.bitsBackRow.holds Try.pinned (OpenSpec.ofChange Rows.bitsBackSpec) :=
  OpenClaim.holds_of_wide 5 Try.f5 rfl rfl rfl rfl rfl rfl rfl ⟨rfl, rfl, rfl, rfl, rfl⟩ rfl rfl rfl rfl rfl (by kernel_rfl) Try.func5 (by kernel_rfl)
    (of_decide_eq_true (by kernel_rfl)) (by unfold Func.isWrapper; first | (rw [if_pos (by decide +kernel)]; kernel_rfl) | (rw [if_neg (by decide +kernel)]; exact ⟨rfl, rfl⟩))
    (fun os started H enc _ => lifted os started H enc)

theorem proved : Rows.BitsBackSaid := over
end Go.Proofs.Ytjkigjefgfcaaaa.bitsBack
