/- The statement WordFlips: each bit of any bytes (of up to 300) is turned, turned again they are as they were, and no byte stays. No conditions. -/
import Derived.Test.YtjkigjefgfcaaabLive2
import Derived.Test.YtjkigjefgfcaaabWordD
import Derived.Test.YtjkigjefgfcaaabRows
import Derived.ChangeOld
import Derived.ShutString
namespace Go.Proofs.Ytjkigjefgfcaaab.wordFlips
open Go.ChangeShapes Go.WideShapes Go.ChangeAt Go.RowKit
set_option linter.unusedVariables false

theorem flip_flip (l : List Int) : flipL (flipL l) = l := by
  unfold flipL
  rw [List.map_map]
  exact (List.map_congr_left (g := id) (fun x _ => by simp only [Function.comp, id]; omega)).trans (List.map_id l)

theorem walk (A : Option Addr) (n c : Nat) (l : List Int) (w : World) (h : Byt w w.heap.size A n c l) :
    Calls Try.prog 6 #[.slice A n c] w fun e w' => e = .returned (.bool true) ∧ Below w.heap.size w w' := by
  by_cases hn : 300 < n
  · go_enter Try.func6, Try.ntmps6
    go_wp2_with fail
    refine (live2_any _).mono ?_
    rintro e w1 ⟨rfl, hb⟩
    go_wp2
    go_ret
    exact ⟨rfl, hb⟩
  · have hl := h.len
    subst hl
    go_enter Try.func6, Try.ntmps6
    go_wp2_with fail
    refine (flip_any _ _ _ _ _ h (by omega)).mono ?_
    rintro e w1 ⟨A1, c1, rfl, hB1, hb1⟩
    go_wp2_with fail
    refine (rflip_any _ _ _ _ _ (h.step hb1) (by omega)).mono ?_
    rintro e w2 ⟨A2, c2, rfl, hB2, hb2⟩
    go_wp2_with fail
    refine (same_any (hB1.step hb2) hB2).mono ?_
    rintro e w3 ⟨rfl, rfl⟩
    have hs := below_trans' hb1 hb2
    go_wp2_with fail
    refine (flip_any _ _ _ _ (flipL l) (hB1.step hb2) (by omega)).mono ?_
    rintro e w4 ⟨A4, c4, rfl, hB4, hb4⟩
    have hs2 := below_trans' hs hb4
    rw [flip_flip] at hB4
    go_wp2_with fail
    have hs3 := below_trans' hs2 (Below.refl _ _)
    refine (same_any hB4 (h.step hs2)).mono ?_
    rintro e w5 ⟨rfl, rfl⟩
    have hX := ((hB1.step hb2).step hb4)
    have hY := h.step hs2
    clear hB1 hB2 hB4 hb1 hb2 hb4 hs hs3
    go_wp2_with fail
    go_loopw [4] (fun i wr => ∃ j : Nat, j ≤ l.length ∧ i = .int .i64 j ∧ Byt wr wr.heap.size A1 l.length c1 (flipL l) ∧ Byt wr wr.heap.size A l.length c l ∧ Below w.heap.size w wr) (fun i _ => l.length - (intOf i).toNat)
    case atStart => exact ⟨0, Nat.zero_le _, rfl, hX, hY, hs2⟩
    case round =>
      obtain ⟨j, hj, rfl, hX2, hY2, hbel⟩ := hrel
      by_cases hlt : j < l.length
      · obtain ⟨b, off, rfl, hb, hc⟩ := hY2.cells (by omega)
        obtain ⟨b1, off1, rfl, hb1, hc1⟩ := hX2.cells (by omega)
        have hrange := h.range j
        have hcj := hc j hlt
        have hcj1 := hc1 j hlt
        rw [show (flipL l).getD j 0 = 255 - l.getD j 0 from getD_map hlt] at hcj1
        generalize l.getD j 0 = q at hrange hcj hcj1
        have hxor := xor_flip q hrange.1 hrange.2
        have hne : ((255 - q : Int) == q) = false := by simp; omega
        have HX := Lib.hid hX2
        have HY := Lib.hid hY2
        obtain ⟨hq0, hq1⟩ := hrange
        clear hc hc1 hX2 hY2 hX hY h
        go_wp2_with fail
        go_quiet (fail)
        go_wp2
        go_roundw
        case rel => exact ⟨j + 1, by omega, by go_num, HX.out.drewN _, HY.out.drewN _, below_drewN hbel _⟩
        case measure => simp [intOf]; omega
      · obtain rfl : j = l.length := by omega
        clear hX hY h hX2 hY2
        go_wp2_with fail
        refine (live2_any _).mono ?_
        rintro e w6 ⟨rfl, hb6⟩
        go_wp2
        go_ret
        exact ⟨rfl, below_trans' hbel hb6⟩

theorem own : ownKnob Try.prog.godebug = none := by kernel_rfl
theorem laidOut : laidOutB Try.prog = true := by kernel_rfl


set_option maxRecDepth 100000 in
theorem lifted (os : Os) (started : os.Started) (H : Type) (enc : TypeId × Value → H) :
    ReturnsInHanded {} Try.checked os 6 .any (Rows.wordFlipsSpec.pre6 enc Try.prog Try.f6 Rows.wordFlipsRow.domain false) (Rows.wordFlipsSpec.post enc Try.prog Try.f6 false true false false) := by
  refine returnsInHanded_of_change (C := Try.checked) own started (by kernel_rfl) Try.func6
    (ChangeSpec.witness6 (enc := enc) (C := Try.checked) false ⟨#[], #[.slice none 0 0], []⟩ 8 (by kernel_rfl) (by kernel_rfl) (by kernel_rfl) (by kernel_rfl)) ?_
  intro W base args ds gs before hval0 hW hcnd _
  have hval : ∀ (j : Nat) t v, Try.f6.params[j]? = some t → args[j]? = some v → Value.okWide Try.prog W .any base t v := hval0
  have hW' := hW
  obtain ⟨p, q, hA0, hV, rfl, hfz, hnd⟩ := hW
  have hA : DataW.TrodAll enc Try.prog W 0 (fun _ => true) true Try.f6.params.toList args.toList ds p := hA0
  rw [Try.params6] at hA hval
  obtain ⟨v0, vs0, d0, ds0, p0, q0, hargs, rfl, rfl, h0, r0⟩ := trodAll_cons hA
  obtain ⟨rfl, rfl, rfl⟩ := trodAll_nil r0
  obtain rfl : args = #[v0] := by cases args; simp_all
  obtain ⟨rfl, rfl⟩ := trodVars_none hV
  obtain ⟨a0, len0, cap0, rfl⟩ := okWide_slice Try.underlying22 (hval 0 22 v0 rfl rfl)
  have k0 := h0
  have lt0 : ∀ x ∈ p0, x.block < W.heap.size := by obtain ⟨m, hm⟩ := k0; exact DataW.trod_lt m _ _ _ hm
  obtain ⟨z0, w0⟩ : ∃ zs, Byt W W.heap.size a0 len0 cap0 zs := by
    obtain ⟨fuel, hf⟩ := h0
    rcases open_ints Try.underlying22 Try.underlying5 (by kernel_rfl) hf with ⟨hcs, _⟩ | ⟨x, l, c, zs, hcs, _, hl, hm, hz, _, hcell, hwz⟩
    · simp [Value.cells] at hcs
      obtain ⟨rfl, rfl, rfl⟩ := hcs
      exact ⟨[], Byt.nil_ _ _⟩
    · simp [Value.cells] at hcs
      obtain ⟨rfl, rfl, rfl⟩ := hcs
      exact ⟨_, byt_of_row hl hm (by simpa using hz) hcell hwz⟩
  clear hA0 hval0
  refine (walk a0 len0 cap0 z0 W w0).mono fun e W' ⟨he, bel⟩ => ?_
  subst he
  exact ⟨_, rfl, _, _, _, [], _, [], hW', trodAll_mk1 (shut_bool Try.underlying4 _), (trodAll_cons_mk (Below.trod laidOut (by kernel_rfl) (of_decide_eq_true (by kernel_rfl)) k0 bel lt0) trodAll_mk0), rfl, bel.frame _, fun h => by cases h⟩

theorem over : Rows.wordFlipsRow.holds Try.pinned (OpenSpec.ofChange Rows.wordFlipsSpec) :=
  OpenClaim.holds_of_wide 6 Try.f6 rfl rfl rfl rfl rfl rfl rfl ⟨rfl, rfl, rfl, rfl, rfl⟩ rfl rfl rfl rfl rfl (by kernel_rfl) Try.func6 (by kernel_rfl)
    (of_decide_eq_true (by kernel_rfl)) (by unfold Func.isWrapper; first | (rw [if_pos (by decide +kernel)]; kernel_rfl) | (rw [if_neg (by decide +kernel)]; exact ⟨rfl, rfl⟩))
    (fun os started H enc _ => lifted os started H enc)

theorem proved : Rows.WordFlipsSaid := over
end Go.Proofs.Ytjkigjefgfcaaab.wordFlips
