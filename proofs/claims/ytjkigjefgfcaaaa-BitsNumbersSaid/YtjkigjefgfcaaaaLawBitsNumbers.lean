/- The statement BitsNumbers: a number's bits, highest first, and the number of any bits, are the document's; a number of up to 32 bits is told by its bits: every number, width, and row (of up to 200 bits). No conditions. -/
import Derived.Test.YtjkigjefgfcaaaaBitsF
import Derived.Test.YtjkigjefgfcaaaaRows
import Derived.ChangeOld
import Derived.ShutString
namespace Go.Proofs.Ytjkigjefgfcaaaa.bitsNumbers
open Go.ChangeShapes Go.WideShapes Go.ChangeAt Go.RowKit
set_option linter.unusedVariables false

theorem ofL_succ (n : Int) (W : Nat) : ofL n (W + 1) = ofL (n / 2) W ++ [n % 2] := by
  unfold ofL
  rw [List.range_succ, List.map_append]
  congr 1
  · refine List.map_congr_left fun i hi => ?_
    rw [List.mem_range] at hi
    rw [show W + 1 - 1 - i = (W - 1 - i) + 1 by omega, Int.pow_succ, Int.mul_comm, ← Int.ediv_ediv_of_nonneg (by omega)]
  · simp
theorem num_of (W : Nat) : ∀ n : Int, 0 ≤ n → n < 2 ^ W → numB (ofL n W) = n := by
  induction W with
  | zero => intro n h0 h1; simp at h1; obtain rfl : n = 0 := by omega
            rfl
  | succ W ih =>
    intro n h0 h1
    rw [Int.pow_succ] at h1
    rw [ofL_succ, numB_snoc, ih (n / 2) (by omega) (by omega)]
    omega
theorem back (n : Int) (h : 0 ≤ n ∧ n ≤ 4294967295) : numN (ofL n 32) = n ∧ numE (ofL n 32) = 0 := by
  unfold numN numE
  rw [ofL_len, if_neg (by omega), if_neg (by omega)]
  exact ⟨num_of 32 n h.1 (by omega), rfl⟩

theorem walk (a v : Int) (A : Option Addr) (n c : Nat) (l : List Int) (w : World) (wa : (Lit.int .u32 a).wf = true) (_ : (Lit.int .i64 v).wf = true) (h : Byt w w.heap.size A n c l) :
    Calls Try.prog 3 #[.int .u32 a, .int .i64 v, .slice A n c] w fun e w' => e = .returned (.bool true) ∧ Below w.heap.size w w' := by
  have ha := bounds_u32 wa
  have ha2 : 0 ≤ a ∧ a ≤ 4294967295 := ⟨by omega, by omega⟩
  by_cases h200 : 200 < n
  · go_enter Try.func3, Try.ntmps3
    go_wp2_with fail
    refine (live1_any _).mono ?_
    rintro e w1 ⟨rfl, hb⟩
    go_wp2
    go_ret
    exact ⟨rfl, hb⟩
  · by_cases h32 : 32 < n
    · have e1 : numN l = 0 := by unfold numN; rw [if_pos (by rw [h.len]; exact h32)]
      have e2 : numE l = 13 := by unfold numE; rw [if_pos (by rw [h.len]; exact h32)]
      have hnum := fun (w : World) (h : Byt w w.heap.size A n c l) => num_any w A n c l h
      rw [e1, e2] at hnum
      have HNUM := Lib.hid hnum
      clear hnum e1 e2
      go_enter Try.func3, Try.ntmps3
      go_wp2_with fail
      refine (of_any _ _ _ ha2).mono ?_
      rintro e w1 ⟨A1, c1, rfl, hB1, hb1⟩
      go_wp2_with fail
      refine (HNUM.out _ (h.step hb1)).mono ?_
      rintro e w2 ⟨rfl, hb2⟩
      have hs2 := below_trans' hb1 hb2
      go_wp2_with fail
      refine (rof_any _ _ _ ha2).mono ?_
      rintro e w3 ⟨A3, c3, rfl, hB3, hb3⟩
      have hs3 := below_trans' hs2 hb3
      go_wp2_with fail
      refine (same_any _ _ _ _ _ _ _ _ _ ((hB1.step hb2).step hb3) hB3).mono ?_
      rintro e w4 ⟨he, hb4⟩
      rw [decide_eq_true rfl] at he
      subst he
      have hs4 := below_trans' hs3 hb4
      clear hB1 hB3
      go_wp2_with fail
      refine (live1_any _).mono ?_
      rintro e w5 ⟨rfl, hb5⟩
      go_wp2
      go_ret
      exact ⟨rfl, below_trans' hs4 hb5⟩
    · have e1 : numN l = numB l := by unfold numN; rw [if_neg (by rw [h.len]; exact h32)]
      have e2 : numE l = 0 := by unfold numE; rw [if_neg (by rw [h.len]; exact h32)]
      have hnum := fun (w : World) (h : Byt w w.heap.size A n c l) => num_any w A n c l h
      rw [e1, e2] at hnum
      have HNUM := Lib.hid hnum
      have hof := fun (w : World) => of_any a 32 w ha2
      rw [show clampW 32 = 32 from rfl] at hof
      have HOF := Lib.hid hof
      have hbk := fun (w : World) (A : Option Addr) (c : Nat) (h : Byt w w.heap.size A 32 c (ofL a 32)) => num_any w A 32 c _ h
      rw [(back a ha2).1, (back a ha2).2] at hbk
      have HBK := Lib.hid hbk
      clear hnum e1 e2 hof hbk
      go_enter Try.func3, Try.ntmps3
      go_wp2_with fail
      refine (of_any _ _ _ ha2).mono ?_
      rintro e w1 ⟨A1, c1, rfl, hB1, hb1⟩
      go_wp2_with fail
      refine (HNUM.out _ (h.step hb1)).mono ?_
      rintro e w2 ⟨rfl, hb2⟩
      have hs2 := below_trans' hb1 hb2
      go_wp2_with fail
      refine (rof_any _ _ _ ha2).mono ?_
      rintro e w3 ⟨A3, c3, rfl, hB3, hb3⟩
      have hs3 := below_trans' hs2 hb3
      go_wp2_with fail
      refine (same_any _ _ _ _ _ _ _ _ _ ((hB1.step hb2).step hb3) hB3).mono ?_
      rintro e w4 ⟨he, hb4⟩
      rw [decide_eq_true rfl] at he
      subst he
      have hs4 := below_trans' hs3 hb4
      clear hB1 hB3
      go_wp2_with fail
      refine (HOF.out _).mono ?_
      rintro e w5 ⟨A5, c5, rfl, hB5, hb5⟩
      have hs5 := below_trans' hs4 hb5
      go_wp2_with fail
      refine (HBK.out _ _ _ hB5).mono ?_
      rintro e w6 ⟨rfl, hb6⟩
      have hs6 := below_trans' hs5 hb6
      clear hB5
      go_wp2_with fail
      refine (live1_any _).mono ?_
      rintro e w7 ⟨rfl, hb7⟩
      have hs7 := below_trans' hs6 hb7
      go_wp2_with fail
      refine (rnum_any _ _ _ _ _ (h.step hs7) (by omega)).mono ?_
      rintro e w8 ⟨rfl, hb8⟩
      have hs8 := below_trans' hs7 hb8
      go_wp2
      go_ret
      exact ⟨by simp, hs8⟩

theorem own : ownKnob Try.prog.godebug = none := by kernel_rfl
theorem laidOut : laidOutB Try.prog = true := by kernel_rfl


set_option maxRecDepth 100000 in
theorem lifted (os : Os) (started : os.Started) (H : Type) (enc : TypeId × Value → H) :
    ReturnsInHanded {} Try.checked os 3 .any (Rows.bitsNumbersSpec.pre6 enc Try.prog Try.f3 Rows.bitsNumbersRow.domain false) (Rows.bitsNumbersSpec.post enc Try.prog Try.f3 false true false false) := by
  refine returnsInHanded_of_change (C := Try.checked) own started (by kernel_rfl) Try.func3
    (ChangeSpec.witness6 (enc := enc) (C := Try.checked) false ⟨#[], #[.int .u32 0, .int .i64 0, .slice none 0 0], []⟩ 8 (by kernel_rfl) (by kernel_rfl) (by kernel_rfl) (by kernel_rfl)) ?_
  intro W base args ds gs before hval0 hW hcnd _
  have hval : ∀ (j : Nat) t v, Try.f3.params[j]? = some t → args[j]? = some v → Value.okWide Try.prog W .any base t v := hval0
  have hW' := hW
  obtain ⟨p, q, hA0, hV, rfl, hfz, hnd⟩ := hW
  have hA : DataW.TrodAll enc Try.prog W 0 (fun _ => true) true Try.f3.params.toList args.toList ds p := hA0
  rw [Try.params3] at hA hval
  obtain ⟨v0, vs0, d0, ds0, p0, q0, hargs, rfl, rfl, h0, r0⟩ := trodAll_cons hA
  obtain ⟨v1, vs1, d1, ds1, p1, q1, rfl, rfl, rfl, h1, r1⟩ := trodAll_cons r0
  obtain ⟨v2, vs2, d2, ds2, p2, q2, rfl, rfl, rfl, h2, r2⟩ := trodAll_cons r1
  obtain ⟨rfl, rfl, rfl⟩ := trodAll_nil r2
  obtain rfl : args = #[v0, v1, v2] := by cases args; simp_all
  obtain ⟨rfl, rfl⟩ := trodVars_none hV
  obtain ⟨a0, rfl, rfl, rfl, w0⟩ := open_int Try.underlying22 (hval 0 22 v0 rfl rfl) h0
  obtain ⟨a1, rfl, rfl, rfl, w1⟩ := open_int Try.underlying3 (hval 1 3 v1 rfl rfl) h1
  obtain ⟨a2, len2, cap2, rfl⟩ := okWide_slice Try.underlying23 (hval 2 23 v2 rfl rfl)
  have k2 := h2
  have lt2 : ∀ x ∈ p2, x.block < W.heap.size := by obtain ⟨m, hm⟩ := k2; exact DataW.trod_lt m _ _ _ hm
  obtain ⟨z2, w2⟩ : ∃ zs, Byt W W.heap.size a2 len2 cap2 zs := by
    obtain ⟨fuel, hf⟩ := h2
    rcases open_ints Try.underlying23 Try.underlying5 (by kernel_rfl) hf with ⟨hcs, _⟩ | ⟨x, l, c, zs, hcs, _, hl, hm, hz, _, hcell, hwz⟩
    · simp [Value.cells] at hcs
      obtain ⟨rfl, rfl, rfl⟩ := hcs
      exact ⟨[], Byt.nil_ _ _⟩
    · simp [Value.cells] at hcs
      obtain ⟨rfl, rfl, rfl⟩ := hcs
      exact ⟨_, byt_of_row hl hm (by simpa using hz) hcell hwz⟩
  clear hA0 hval0
  refine (walk a0 a1 a2 len2 cap2 z2 W w0 w1 w2).mono fun e W' ⟨he, bel⟩ => ?_
  subst he
  exact ⟨_, rfl, _, _, _, [], _, [], hW', trodAll_mk1 (shut_bool Try.underlying4 _), (trodAll_cons_mk (shut_int Try.underlying22 w0) (trodAll_cons_mk (shut_int Try.underlying3 w1) (trodAll_cons_mk (Below.trod laidOut (by kernel_rfl) (of_decide_eq_true (by kernel_rfl)) k2 bel lt2) trodAll_mk0))), rfl, bel.frame _, fun h => by cases h⟩

theorem over : Rows.bitsNumbersRow.holds Try.pinned (OpenSpec.ofChange Rows.bitsNumbersSpec) :=
  OpenClaim.holds_of_wide 3 Try.f3 rfl rfl rfl rfl rfl rfl rfl ⟨rfl, rfl, rfl, rfl, rfl⟩ rfl rfl rfl rfl rfl (by kernel_rfl) Try.func3 (by kernel_rfl)
    (of_decide_eq_true (by kernel_rfl)) (by unfold Func.isWrapper; first | (rw [if_pos (by decide +kernel)]; kernel_rfl) | (rw [if_neg (by decide +kernel)]; exact ⟨rfl, rfl⟩))
    (fun os started H enc _ => lifted os started H enc)

theorem proved : Rows.BitsNumbersSaid := over
end Go.Proofs.Ytjkigjefgfcaaaa.bitsNumbers
