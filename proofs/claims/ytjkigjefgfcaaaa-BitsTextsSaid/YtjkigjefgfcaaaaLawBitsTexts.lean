/- The statement BitsTexts: a row as text, and the row of any text, go there and back: every row, and text (of up to 300 of either). No conditions. -/
import Derived.Test.YtjkigjefgfcaaaaBitsG
import Derived.Test.YtjkigjefgfcaaaaRows
import Derived.ChangeOld
import Derived.ShutString
namespace Go.Proofs.Ytjkigjefgfcaaaa.bitsTexts
open Go.ChangeShapes Go.WideShapes Go.ChangeAt Go.RowKit
open Go.ChangeMaps (open_string shut_string)
set_option linter.unusedVariables false

theorem text_back (l : List Int) : sB (strOfNums (textL l)) = textL l := sB_str (textL_range l)
theorem dig_text (l : List Int) : digB (textL l) = true := by
  unfold digB textL
  rw [List.all_eq_true]
  intro x hx
  simp only [List.mem_map] at hx
  obtain ⟨y, _, rfl⟩ := hx
  rcases (show y % 2 = 0 ∨ y % 2 = 1 by omega) with h | h <;> simp [h]
theorem par_text (l : List Int) : parA (textL l) = pl l ∧ parE (textL l) = 0 := by
  unfold parA parE
  rw [if_pos (dig_text l), if_pos (dig_text l)]
  refine ⟨?_, rfl⟩
  unfold parL textL pl
  rw [List.map_map]
  exact List.map_congr_left (fun x _ => by simp only [Function.comp]; omega)
theorem text_par {l : List Int} (h : digB l = true) : textL (parA l) = l := by
  unfold parA
  rw [if_pos h]
  unfold parL textL
  rw [List.map_map]
  refine (List.map_congr_left (g := id) fun x hx => ?_).trans (List.map_id l)
  have := digB_mem h x hx
  simp only [Function.comp, id]
  omega

theorem walk (A : Option Addr) (n c : Nat) (l : List Int) (s : ByteArray) (w : World) (h : Byt w w.heap.size A n c l) (hs : s.size ≤ maxLen) :
    Calls Try.prog 8 #[.slice A n c, .string s] w fun e w' => e = .returned (.bool true) ∧ Below w.heap.size w w' := by
  simp only [maxLen] at hs
  have hmx := h.max
  have hcp := h.cap
  simp only [maxLen] at hmx
  by_cases h300 : 300 < n
  · go_enter Try.func8, Try.ntmps8
    go_wp2_with fail
    refine (live1_any _).mono ?_
    rintro e w1 ⟨rfl, hb⟩
    go_wp2
    go_ret
    exact ⟨rfl, hb⟩
  by_cases h301 : 300 < s.size
  · go_enter Try.func8, Try.ntmps8
    go_wp2_with fail
    refine (live1_any _).mono ?_
    rintro e w1 ⟨rfl, hb⟩
    go_wp2
    go_ret
    exact ⟨rfl, hb⟩
  have hl := h.len
  have hpar := fun (w : World) => parse_any (strOfNums (textL l)) w (by rw [strOfNums_size, textL_len]; omega)
  rw [text_back, (par_text l).1, (par_text l).2, pl_len, hl] at hpar
  have HPAR := Lib.hid hpar
  have HLN := Lib.hid (sB_len s)
  have HGD := Lib.hid (fun j => sB_getD s (j := j))
  have HSB := Lib.hid (str_sB s)
  clear hpar hl
  go_enter Try.func8, Try.ntmps8
  go_wp2_with fail
  refine (text_any _ _ _ _ _ h (by omega)).mono ?_
  rintro e w1 ⟨rfl, hb1⟩
  go_wp2_with fail
  refine (HPAR.out _).mono ?_
  rintro e w2 ⟨A2, c2, rfl, hB2, hb2⟩
  have hs2 := below_trans' hb1 hb2
  go_wp2_with fail
  refine (parse_any s _ (by omega)).mono ?_
  rintro e w3 ⟨A3, c3, rfl, hB3, hb3⟩
  have hs3 := below_trans' hs2 hb3
  go_wp2_with fail
  go_loop [9, 10] (fun m i => ∃ j : Nat, j ≤ s.size ∧ i = .int .i64 j ∧ m = .bool (digB ((sB s).take j))) (fun _ i => s.size - (intOf i).toNat)
  case atStart => exact ⟨0, Nat.zero_le _, rfl, rfl⟩
  case round =>
    obtain ⟨j, hj, rfl, rfl⟩ := hrel
    by_cases hlt : j < s.size
    · have hget := HGD.out j hlt
      have htake : digB ((sB s).take (j + 1)) = (digB ((sB s).take j) && ((s[j].toNat : Int) == 48 || (s[j].toNat : Int) == 49)) := by
        rw [← hget, ← digB_snoc, take_succ_getD (by rw [HLN.out]; exact hlt)]
      generalize digB ((sB s).take j) = m at htake
      have HT := Lib.hid htake
      clear hget htake h hB2 hB3
      cases m
      · go_wp2
        go_round
        case rel => exact ⟨j + 1, by omega, by go_num, by rw [HT.out]; rfl⟩
        case measure => simp [intOf]; omega
      · by_cases h48 : (s[j].toNat : Int) = 48
        · have t1 : ((s[j].toNat : Int) == 48) = true := by simp [h48]
          have HH := Lib.hid h48
          clear h48
          go_wp2
          go_round
          case rel => exact ⟨j + 1, by omega, by go_num, by rw [HT.out, t1]; rfl⟩
          case measure => simp [intOf]; omega
        · have t1 : ((s[j].toNat : Int) == 48) = false := by simp; omega
          by_cases h49 : (s[j].toNat : Int) = 49
          · have t2 : ((s[j].toNat : Int) == 49) = true := by simp [h49]
            have HH := Lib.hid h49
            have HH2 := Lib.hid h48
            clear h48 h49
            go_wp2
            go_round
            case rel => exact ⟨j + 1, by omega, by go_num, by rw [HT.out, t1, t2]; rfl⟩
            case measure => simp [intOf]; omega
          · have t2 : ((s[j].toNat : Int) == 49) = false := by simp; omega
            have HH := Lib.hid h49
            have HH2 := Lib.hid h48
            clear h48 h49
            go_wp2
            go_round
            case rel => exact ⟨j + 1, by omega, by go_num, by rw [HT.out, t1, t2]; rfl⟩
            case measure => simp [intOf]; omega
    · obtain rfl : j = s.size := by omega
      rw [List.take_of_length_le (by rw [HLN.out]; exact Nat.le_refl _)]
      go_wp2_with fail
      refine (text_any _ _ _ _ _ (h.step hs3) (by omega)).mono ?_
      rintro e w4 ⟨rfl, hb4⟩
      have hs4 := below_trans' hs3 hb4
      go_wp2_with fail
      refine (rtext_any _ _ _ _ _ (h.step hs4)).mono ?_
      rintro e w5 ⟨rfl, rfl⟩
      go_wp2_with fail
      refine (plain_any _ _ _ _ _ (h.step hs4) (by omega)).mono ?_
      rintro e w6 ⟨A6, c6, rfl, hB6, hb6⟩
      have hs6 := below_trans' hs4 hb6
      go_wp2_with fail
      refine (same_any _ _ _ _ _ _ _ _ _ (((hB2.step hb3).step hb4).step hb6) hB6).mono ?_
      rintro e w7 ⟨he, hb7⟩
      rw [decide_eq_true rfl] at he
      subst he
      have hs7 := below_trans' hs6 hb7
      have hB3' := ((hB3.step hb4).step hb6).step hb7
      clear hB2 hB3 hB6 h
      rcases Bool.eq_false_or_eq_true (digB (sB s)) with hd | hd
      · have e2 : parE (sB s) = 0 := by unfold parE; rw [if_pos hd]
        have htx := fun (w : World) (A : Option Addr) (c : Nat) (h : Byt w w.heap.size A (parA (sB s)).length c (parA (sB s))) => text_any w A _ c _ h (by
          have : (parA (sB s)).length = s.size := by unfold parA; rw [if_pos hd]; simp [parL, HLN.out]
          omega)
        rw [text_par hd, HSB.out] at htx
        have HTX := Lib.hid htx
        rw [hd, e2]
        clear htx e2 hd
        go_wp2_with fail
        refine (live1_any _).mono ?_
        rintro e w8 ⟨rfl, hb8⟩
        have hs8 := below_trans' hs7 hb8
        go_wp2_with fail
        refine (HTX.out _ _ _ (hB3'.step hb8)).mono ?_
        rintro e w9 ⟨rfl, hb9⟩
        have hs9 := below_trans' hs8 hb9
        clear hB3'
        go_wp2
        go_ret
        exact ⟨by simp, hs9⟩
      · have e2 : parE (sB s) = 4 := by unfold parE; rw [if_neg (by rw [hd]; decide)]
        have e1 : parA (sB s) = [] := by unfold parA; rw [if_neg (by rw [hd]; decide)]
        rw [hd, e2, e1]
        clear e1 e2 hd hB3'
        go_wp2_with fail
        refine (live1_any _).mono ?_
        rintro e w8 ⟨rfl, hb8⟩
        have hs8 := below_trans' hs7 hb8
        go_wp2
        go_ret
        exact ⟨by simp, hs8⟩

theorem own : ownKnob Try.prog.godebug = none := by kernel_rfl
theorem laidOut : laidOutB Try.prog = true := by kernel_rfl


set_option maxRecDepth 100000 in
theorem lifted (os : Os) (started : os.Started) (H : Type) (enc : TypeId × Value → H) :
    ReturnsInHanded {} Try.checked os 8 .any (Rows.bitsTextsSpec.pre6 enc Try.prog Try.f8 Rows.bitsTextsRow.domain false) (Rows.bitsTextsSpec.post enc Try.prog Try.f8 false true false false) := by
  refine returnsInHanded_of_change (C := Try.checked) own started (by kernel_rfl) Try.func8
    (ChangeSpec.witness6 (enc := enc) (C := Try.checked) false ⟨#[], #[.slice none 0 0, .string ByteArray.empty], []⟩ 8 (by kernel_rfl) (by kernel_rfl) (by kernel_rfl) (by kernel_rfl)) ?_
  intro W base args ds gs before hval0 hW hcnd _
  have hval : ∀ (j : Nat) t v, Try.f8.params[j]? = some t → args[j]? = some v → Value.okWide Try.prog W .any base t v := hval0
  have hW' := hW
  obtain ⟨p, q, hA0, hV, rfl, hfz, hnd⟩ := hW
  have hA : DataW.TrodAll enc Try.prog W 0 (fun _ => true) true Try.f8.params.toList args.toList ds p := hA0
  rw [Try.params8] at hA hval
  obtain ⟨v0, vs0, d0, ds0, p0, q0, hargs, rfl, rfl, h0, r0⟩ := trodAll_cons hA
  obtain ⟨v1, vs1, d1, ds1, p1, q1, rfl, rfl, rfl, h1, r1⟩ := trodAll_cons r0
  obtain ⟨rfl, rfl, rfl⟩ := trodAll_nil r1
  obtain rfl : args = #[v0, v1] := by cases args; simp_all
  obtain ⟨rfl, rfl⟩ := trodVars_none hV
  obtain ⟨a0, len0, cap0, rfl⟩ := okWide_slice Try.underlying23 (hval 0 23 v0 rfl rfl)
  have k0 := h0
  have lt0 : ∀ x ∈ p0, x.block < W.heap.size := by obtain ⟨m, hm⟩ := k0; exact DataW.trod_lt m _ _ _ hm
  obtain ⟨z0, w0⟩ : ∃ zs, Byt W W.heap.size a0 len0 cap0 zs := by
    obtain ⟨fuel, hf⟩ := h0
    rcases open_ints Try.underlying23 Try.underlying5 (by kernel_rfl) hf with ⟨hcs, _⟩ | ⟨x, l, c, zs, hcs, _, hl, hm, hz, _, hcell, hwz⟩
    · simp [Value.cells] at hcs
      obtain ⟨rfl, rfl, rfl⟩ := hcs
      exact ⟨[], Byt.nil_ _ _⟩
    · simp [Value.cells] at hcs
      obtain ⟨rfl, rfl, rfl⟩ := hcs
      exact ⟨_, byt_of_row hl hm (by simpa using hz) hcell hwz⟩
  obtain ⟨s1, rfl, rfl, rfl, w1⟩ := open_string Try.underlying9 (hval 1 9 v1 rfl rfl) h1
  clear hA0 hval0
  refine (walk a0 len0 cap0 z0 s1 W w0 w1).mono fun e W' ⟨he, bel⟩ => ?_
  subst he
  exact ⟨_, rfl, _, _, _, [], _, [], hW', trodAll_mk1 (shut_bool Try.underlying4 _), (trodAll_cons_mk (Below.trod laidOut (by kernel_rfl) (of_decide_eq_true (by kernel_rfl)) k0 bel lt0) (trodAll_cons_mk (shut_string Try.underlying9 w1) trodAll_mk0)), rfl, bel.frame _, fun h => by cases h⟩

theorem over : Rows.bitsTextsRow.holds Try.pinned (OpenSpec.ofChange Rows.bitsTextsSpec) :=
  OpenClaim.holds_of_wide 8 Try.f8 rfl rfl rfl rfl rfl rfl rfl ⟨rfl, rfl, rfl, rfl, rfl⟩ rfl rfl rfl rfl rfl (by kernel_rfl) Try.func8 (by kernel_rfl)
    (of_decide_eq_true (by kernel_rfl)) (by unfold Func.isWrapper; first | (rw [if_pos (by decide +kernel)]; kernel_rfl) | (rw [if_neg (by decide +kernel)]; exact ⟨rfl, rfl⟩))
    (fun os started H enc _ => lifted os started H enc)

theorem proved : Rows.BitsTextsSaid := over
end Go.Proofs.Ytjkigjefgfcaaaa.bitsTexts
