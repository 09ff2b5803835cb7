/- The statement PolyPieces: a row is reckoned in one go, or in pieces: every width, powers, start, row, and place. No conditions. -/
import Derived.Test.YtmcpaficeaphlaaPolyF
import Derived.Test.YtmcpaficeaphlaaRows
import Derived.ChangeOld
import Derived.ShutString
namespace Go.Proofs.Ytmcpaficeaphlaa.polyPieces
open Go.ChangeShapes Go.WideShapes Go.ChangeAt Go.RowKit
set_option linter.unusedVariables false

theorem start (W : Int) (L : Nat) (w : World) : Below w.heap.size w (w.alloc (Obj.cells #[Value.int IntKind.i64 W, Value.int IntKind.u32 ↑L] 26)) ∧ (w.alloc (Obj.cells #[Value.int IntKind.i64 W, Value.int IntKind.u32 ↑L] 26)).cell? ⟨w.heap.size, 0, none⟩ = some (.int .i64 W) ∧ (w.alloc (Obj.cells #[Value.int IntKind.i64 W, Value.int IntKind.u32 ↑L] 26)).cell? ⟨w.heap.size, 1, none⟩ = some (.int .u32 L) ∧ w.heap.size < (w.alloc (Obj.cells #[Value.int IntKind.i64 W, Value.int IntKind.u32 ↑L] 26)).heap.size :=
  ⟨(Below.refl _ _).alloc (Nat.le_refl _) _, by rw [cell_of_row _ _ _ _ _ _ (heap_alloc_new w _)]; rfl, by rw [cell_of_row _ _ _ _ _ _ (heap_alloc_new w _)]; rfl, by simp⟩

theorem none_ (W : Int) (L s a : Nat) (A : Option Addr) (n c : Nat) (l : List Int) (w : World) (hL : L < 4294967296) (hs : s < 4294967296) (ha : a ≤ 255) (h : Byt w w.heap.size A n c l) (hW : W < 1 ∨ 31 < W) :
    Calls Try.prog 5 #[.int .i64 W, .int .u32 L, .int .u32 s, .slice A n c, .int .u8 a] w fun e w' => e = .returned (.bool true) ∧ Below w.heap.size w w' := by
  have hcap := h.cap
  have hmx := h.max
  simp only [maxLen] at hmx
  obtain ⟨hb0, hc0, hc1, hlt⟩ := start W L w
  have hr := fun (w : World) (h : Byt w w.heap.size A n c l) => rem_any W L s A n c l w hs h
  rw [remV_none W L s l hW] at hr
  have HB := Lib.hid hb0
  have HC0 := Lib.hid hc0
  have HC1 := Lib.hid hc1
  have HLT := Lib.hid hlt
  have HR := Lib.hid hr
  have HH := Lib.hid h
  clear hb0 hc0 hc1 hlt hr h
  rcases hW with hW | hW <;> by_cases hna : n < a
  all_goals
    go_enter Try.func5, Try.ntmps5
    go_wp2_with fail
    generalize (w.alloc (Obj.cells #[Value.int IntKind.i64 W, Value.int IntKind.u32 ↑L] 26)) = w0 at HB HC0 HC1 HLT
    refine (live3_any _).mono ?_
    rintro e w1 ⟨rfl, hb1⟩
    have k0 := (hb1.cell (p := ⟨w.heap.size, 0, none⟩) HLT.out).trans HC0.out
    have k1 := (hb1.cell (p := ⟨w.heap.size, 1, none⟩) HLT.out).trans HC1.out
    have hbw := HB.out.trans (hb1.mono HB.out.size)
    go_wp2_with fail
    refine (HR.out _ (HH.out.step hbw)).mono ?_
    rintro e w2 ⟨rfl, hb2⟩
    go_wp2
    go_ret
    exact ⟨rfl, hbw.trans (hb2.mono hbw.size)⟩

set_option maxHeartbeats 1000000 in
theorem some_ (W : Int) (L s a : Nat) (A : Option Addr) (n c : Nat) (l : List Int) (w : World) (hL : L < 4294967296) (hs : s < 4294967296) (ha : a ≤ 255) (h : Byt w w.heap.size A n c l) (hW1 : 1 ≤ W) (hW2 : W ≤ 31) :
    Calls Try.prog 5 #[.int .i64 W, .int .u32 L, .int .u32 s, .slice A n c, .int .u8 a] w fun e w' => e = .returned (.bool true) ∧ Below w.heap.size w w' := by
  have hcap := h.cap
  have hmx := h.max
  simp only [maxLen] at hmx
  obtain ⟨hb0, hc0, hc1, hlt⟩ := start W L w
  have HB := Lib.hid hb0
  have HLT := Lib.hid hlt
  have HC0 := Lib.hid hc0
  have HC1 := Lib.hid hc1
  have h1 := fun (w : World) (h : Byt w w.heap.size A n c l) => rem_any W L s A n c l w hs h
  have H1 := Lib.hid h1
  clear hb0 hlt hc0 hc1 h1
  by_cases hna : n < a
  · have hk : n ≤ n := by omega
    have ht := h.take hk
    have hd := h.cut hk
    obtain ⟨A', hA'⟩ : ∃ A', (if c = n then A else Option.map (fun x => x.add n) A) = A' := ⟨_, rfl⟩
    rw [hA', Nat.sub_self] at hd
    have h2 := fun (w : World) (h : Byt w w.heap.size A n c (l.take n)) => rem_any W L s A n c (l.take n) w hs h
    have h3 := fun (w : World) (h : Byt w w.heap.size A' 0 (c - n) (l.drop n)) => rem_any W L (remV W L s (l.take n)) _ 0 (c - n) (l.drop n) w (remV_lt _ _ _ _) h
    rw [remV_pieces] at h3
    generalize remV W L s (l.take n) = q at h2 h3
    generalize remV W L s l = r at H1 h3
    have H2 := Lib.hid h2
    have H3 := Lib.hid h3
    have HH := Lib.hid h
    have HT := Lib.hid ht
    have HD := Lib.hid hd
    have hkc : (n : Int) ≤ (c : Int) := by omega
    have hkc2 : n ≤ c := by omega
    clear h2 h3 h ht hd
    go_enter Try.func5, Try.ntmps5
    go_wp2_with fail
    generalize (w.alloc (Obj.cells #[Value.int IntKind.i64 W, Value.int IntKind.u32 ↑L] 26)) = w0 at HB HC0 HC1 HLT
    have hc0 := HC0.out
    have hc1 := HC1.out
    go_region_held3 (fun w' => w'.cell? ⟨w.heap.size, 0, none⟩ = some (.int .i64 W) ∧ w'.cell? ⟨w.heap.size, 1, none⟩ = some (.int .u32 L))
      (first | exact ⟨hc0, hc1⟩ | exact k1 | exact k2 | exact k3 | exact k4)
      (first
        | (go_at_call 8
           refine (live3_any _).mono ?_
           rintro e w1 ⟨rfl, hb1⟩
           have k1 : w1.cell? ⟨w.heap.size, 0, none⟩ = some (.int .i64 W) ∧ w1.cell? ⟨w.heap.size, 1, none⟩ = some (.int .u32 L) := ⟨(hb1.cell (p := ⟨w.heap.size, 0, none⟩) HLT.out).trans hc0, (hb1.cell (p := ⟨w.heap.size, 1, none⟩) HLT.out).trans hc1⟩
           have hbw1 := HB.out.drew.trans (hb1.mono HB.out.size)
           have hl1 := Nat.lt_of_lt_of_le HLT.out hb1.size)
        | (go_at_call 12
           (with_reducible refine (H1.out w1 (HH.out.step hbw1)).mono ?_)
           rintro e w2 ⟨rfl, hb2⟩
           have k2 : w2.cell? ⟨w.heap.size, 0, none⟩ = some (.int .i64 W) ∧ w2.cell? ⟨w.heap.size, 1, none⟩ = some (.int .u32 L) := ⟨(hb2.cell (p := ⟨w.heap.size, 0, none⟩) hl1).trans k1.1, (hb2.cell (p := ⟨w.heap.size, 1, none⟩) hl1).trans k1.2⟩
           have hbw2 := hbw1.trans (hb2.mono hbw1.size)
           have hl2 := Nat.lt_of_lt_of_le hl1 hb2.size)
        | (go_at_call 12
           (with_reducible refine (H2.out w2 (HT.out.step hbw2)).mono ?_)
           rintro e w3 ⟨rfl, hb3⟩
           have k3 : w3.cell? ⟨w.heap.size, 0, none⟩ = some (.int .i64 W) ∧ w3.cell? ⟨w.heap.size, 1, none⟩ = some (.int .u32 L) := ⟨(hb3.cell (p := ⟨w.heap.size, 0, none⟩) hl2).trans k2.1, (hb3.cell (p := ⟨w.heap.size, 1, none⟩) hl2).trans k2.2⟩
           have hbw3 := hbw2.trans (hb3.mono hbw2.size)
           have hl3 := Nat.lt_of_lt_of_le hl2 hb3.size)
        | (go_at_call 12
           (with_reducible refine (H3.out w3 (HD.out.step hbw3)).mono ?_)
           rintro e w4 ⟨rfl, hb4⟩
           have k4 : w4.cell? ⟨w.heap.size, 0, none⟩ = some (.int .i64 W) ∧ w4.cell? ⟨w.heap.size, 1, none⟩ = some (.int .u32 L) := ⟨(hb4.cell (p := ⟨w.heap.size, 0, none⟩) hl3).trans k3.1, (hb4.cell (p := ⟨w.heap.size, 1, none⟩) hl3).trans k3.2⟩
           have hbw4 := hbw3.trans (hb4.mono hbw3.size)))
    go_wp2
    go_ret
    exact ⟨by simp, hbw4⟩

  · have hk : a ≤ n := by omega
    have ht := h.take hk
    have hd := h.cut hk
    obtain ⟨A', hA'⟩ : ∃ A', (if c = a then A else Option.map (fun x => x.add a) A) = A' := ⟨_, rfl⟩
    rw [hA'] at hd
    have h2 := fun (w : World) (h : Byt w w.heap.size A a c (l.take a)) => rem_any W L s A a c (l.take a) w hs h
    have h3 := fun (w : World) (h : Byt w w.heap.size A' (n - a) (c - a) (l.drop a)) => rem_any W L (remV W L s (l.take a)) _ (n - a) (c - a) (l.drop a) w (remV_lt _ _ _ _) h
    rw [remV_pieces] at h3
    generalize remV W L s (l.take a) = q at h2 h3
    generalize remV W L s l = r at H1 h3
    have H2 := Lib.hid h2
    have H3 := Lib.hid h3
    have HH := Lib.hid h
    have HT := Lib.hid ht
    have HD := Lib.hid hd
    have hkc : (a : Int) ≤ (c : Int) := by omega
    have hkc2 : a ≤ c := by omega
    clear h2 h3 h ht hd
    go_enter Try.func5, Try.ntmps5
    go_wp2_with fail
    generalize (w.alloc (Obj.cells #[Value.int IntKind.i64 W, Value.int IntKind.u32 ↑L] 26)) = w0 at HB HC0 HC1 HLT
    have hc0 := HC0.out
    have hc1 := HC1.out
    go_region_held3 (fun w' => w'.cell? ⟨w.heap.size, 0, none⟩ = some (.int .i64 W) ∧ w'.cell? ⟨w.heap.size, 1, none⟩ = some (.int .u32 L))
      (first | exact ⟨hc0, hc1⟩ | exact k1 | exact k2 | exact k3 | exact k4)
      (first
        | (go_at_call 8
           refine (live3_any _).mono ?_
           rintro e w1 ⟨rfl, hb1⟩
           have k1 : w1.cell? ⟨w.heap.size, 0, none⟩ = some (.int .i64 W) ∧ w1.cell? ⟨w.heap.size, 1, none⟩ = some (.int .u32 L) := ⟨(hb1.cell (p := ⟨w.heap.size, 0, none⟩) HLT.out).trans hc0, (hb1.cell (p := ⟨w.heap.size, 1, none⟩) HLT.out).trans hc1⟩
           have hbw1 := HB.out.drew.trans (hb1.mono HB.out.size)
           have hl1 := Nat.lt_of_lt_of_le HLT.out hb1.size)
        | (go_at_call 12
           (with_reducible refine (H1.out w1 (HH.out.step hbw1)).mono ?_)
           rintro e w2 ⟨rfl, hb2⟩
           have k2 : w2.cell? ⟨w.heap.size, 0, none⟩ = some (.int .i64 W) ∧ w2.cell? ⟨w.heap.size, 1, none⟩ = some (.int .u32 L) := ⟨(hb2.cell (p := ⟨w.heap.size, 0, none⟩) hl1).trans k1.1, (hb2.cell (p := ⟨w.heap.size, 1, none⟩) hl1).trans k1.2⟩
           have hbw2 := hbw1.trans (hb2.mono hbw1.size)
           have hl2 := Nat.lt_of_lt_of_le hl1 hb2.size)
        | (go_at_call 12
           (with_reducible refine (H2.out w2 (HT.out.step hbw2)).mono ?_)
           rintro e w3 ⟨rfl, hb3⟩
           have k3 : w3.cell? ⟨w.heap.size, 0, none⟩ = some (.int .i64 W) ∧ w3.cell? ⟨w.heap.size, 1, none⟩ = some (.int .u32 L) := ⟨(hb3.cell (p := ⟨w.heap.size, 0, none⟩) hl2).trans k2.1, (hb3.cell (p := ⟨w.heap.size, 1, none⟩) hl2).trans k2.2⟩
           have hbw3 := hbw2.trans (hb3.mono hbw2.size)
           have hl3 := Nat.lt_of_lt_of_le hl2 hb3.size)
        | (go_at_call 12
           (with_reducible refine (H3.out w3 (HD.out.step hbw3)).mono ?_)
           rintro e w4 ⟨rfl, hb4⟩
           have k4 : w4.cell? ⟨w.heap.size, 0, none⟩ = some (.int .i64 W) ∧ w4.cell? ⟨w.heap.size, 1, none⟩ = some (.int .u32 L) := ⟨(hb4.cell (p := ⟨w.heap.size, 0, none⟩) hl3).trans k3.1, (hb4.cell (p := ⟨w.heap.size, 1, none⟩) hl3).trans k3.2⟩
           have hbw4 := hbw3.trans (hb4.mono hbw3.size)))
    go_wp2
    go_ret
    exact ⟨by simp, hbw4⟩


theorem walk (W L s : Int) (A : Option Addr) (n c : Nat) (l : List Int) (at_ : Int) (w : World) (hW : (Lit.int .i64 W).wf = true) (hL : (Lit.int .u32 L).wf = true) (hs : (Lit.int .u32 s).wf = true) (h : Byt w w.heap.size A n c l) (hat : (Lit.int .u8 at_).wf = true) :
    Calls Try.prog 5 #[.int .i64 W, .int .u32 L, .int .u32 s, .slice A n c, .int .u8 at_] w fun e w' => e = .returned (.bool true) ∧ Below w.heap.size w w' := by
  have hL' := bounds_u32 hL
  have hs' := bounds_u32 hs
  have ha' := bounds_u8 hat
  obtain ⟨L, rfl⟩ := Int.eq_ofNat_of_zero_le (show 0 ≤ L by omega)
  obtain ⟨s, rfl⟩ := Int.eq_ofNat_of_zero_le (show 0 ≤ s by omega)
  obtain ⟨a, rfl⟩ := Int.eq_ofNat_of_zero_le (show 0 ≤ at_ by omega)
  by_cases hr : W < 1 ∨ 31 < W
  · exact none_ W L s a A n c l w (by omega) (by omega) (by omega) h hr
  · exact some_ W L s a A n c l w (by omega) (by omega) (by omega) h (by omega) (by omega)

theorem own : ownKnob Try.prog.godebug = none := by kernel_rfl
theorem laidOut : laidOutB Try.prog = true := by kernel_rfl


set_option maxRecDepth 100000 in
theorem lifted (os : Os) (started : os.Started) (H : Type) (enc : TypeId × Value → H) :
    ReturnsInHanded {} Try.checked os 5 .any (Rows.polyPiecesSpec.pre6 enc Try.prog Try.f5 Rows.polyPiecesRow.domain false) (Rows.polyPiecesSpec.post enc Try.prog Try.f5 false true false false) := by
  refine returnsInHanded_of_change (C := Try.checked) own started (by kernel_rfl) Try.func5
    (ChangeSpec.witness6 (enc := enc) (C := Try.checked) false ⟨#[], #[.int .i64 0, .int .u32 0, .int .u32 0, .slice none 0 0, .int .u8 0], []⟩ 8 (by kernel_rfl) (by kernel_rfl) (by kernel_rfl) (by kernel_rfl)) ?_
  intro W base args ds gs before hval0 hW hcnd _
  have hval : ∀ (j : Nat) t v, Try.f5.params[j]? = some t → args[j]? = some v → Value.okWide Try.prog W .any base t v := hval0
  have hW' := hW
  obtain ⟨p, q, hA0, hV, rfl, hfz, hnd⟩ := hW
  have hA : DataW.TrodAll enc Try.prog W 0 (fun _ => true) true Try.f5.params.toList args.toList ds p := hA0
  rw [Try.params5] at hA hval
  obtain ⟨v0, vs0, d0, ds0, p0, q0, hargs, rfl, rfl, h0, r0⟩ := trodAll_cons hA
  obtain ⟨v1, vs1, d1, ds1, p1, q1, rfl, rfl, rfl, h1, r1⟩ := trodAll_cons r0
  obtain ⟨v2, vs2, d2, ds2, p2, q2, rfl, rfl, rfl, h2, r2⟩ := trodAll_cons r1
  obtain ⟨v3, vs3, d3, ds3, p3, q3, rfl, rfl, rfl, h3, r3⟩ := trodAll_cons r2
  obtain ⟨v4, vs4, d4, ds4, p4, q4, rfl, rfl, rfl, h4, r4⟩ := trodAll_cons r3
  obtain ⟨rfl, rfl, rfl⟩ := trodAll_nil r4
  obtain rfl : args = #[v0, v1, v2, v3, v4] := by cases args; simp_all
  obtain ⟨rfl, rfl⟩ := trodVars_none hV
  obtain ⟨a0, rfl, rfl, rfl, w0⟩ := open_int Try.underlying3 (hval 0 3 v0 rfl rfl) h0
  obtain ⟨a1, rfl, rfl, rfl, w1⟩ := open_int Try.underlying22 (hval 1 22 v1 rfl rfl) h1
  obtain ⟨a2, rfl, rfl, rfl, w2⟩ := open_int Try.underlying22 (hval 2 22 v2 rfl rfl) h2
  obtain ⟨a3, len3, cap3, rfl⟩ := okWide_slice Try.underlying23 (hval 3 23 v3 rfl rfl)
  have k3 := h3
  have lt3 : ∀ x ∈ p3, x.block < W.heap.size := by obtain ⟨m, hm⟩ := k3; exact DataW.trod_lt m _ _ _ hm
  obtain ⟨z3, w3⟩ : ∃ zs, Byt W W.heap.size a3 len3 cap3 zs := by
    obtain ⟨fuel, hf⟩ := h3
    rcases open_ints Try.underlying23 Try.underlying5 (by kernel_rfl) hf with ⟨hcs, _⟩ | ⟨x, l, c, zs, hcs, _, hl, hm, hz, _, hcell, hwz⟩
    · simp [Value.cells] at hcs
      obtain ⟨rfl, rfl, rfl⟩ := hcs
      exact ⟨[], Byt.nil_ _ _⟩
    · simp [Value.cells] at hcs
      obtain ⟨rfl, rfl, rfl⟩ := hcs
      exact ⟨_, byt_of_row hl hm (by simpa using hz) hcell hwz⟩
  obtain ⟨a4, rfl, rfl, rfl, w4⟩ := open_int Try.underlying5 (hval 4 5 v4 rfl rfl) h4
  clear hA0 hval0
  refine (walk a0 a1 a2 a3 len3 cap3 z3 a4 W w0 w1 w2 w3 w4).mono fun e W' ⟨he, bel⟩ => ?_
  subst he
  exact ⟨_, rfl, _, _, _, [], _, [], hW', trodAll_mk1 (shut_bool Try.underlying4 _), (trodAll_cons_mk (shut_int Try.underlying3 w0) (trodAll_cons_mk (shut_int Try.underlying22 w1) (trodAll_cons_mk (shut_int Try.underlying22 w2) (trodAll_cons_mk (Below.trod laidOut (by kernel_rfl) (of_decide_eq_true (by kernel_rfl)) k3 bel lt3) (trodAll_cons_mk (shut_int Try.underlying5 w4) trodAll_mk0))))), rfl, bel.frame _, fun h => by cases h⟩

theorem over : Rows.polyPiecesRow.holds Try.pinned (OpenSpec.ofChange Rows.polyPiecesSpec) :=
  OpenClaim.holds_of_wide 5 Try.f5 rfl rfl rfl rfl rfl rfl rfl ⟨rfl, rfl, rfl, rfl, rfl⟩ rfl rfl rfl rfl rfl (by kernel_rfl) Try.func5 (by kernel_rfl)
    (of_decide_eq_true (by kernel_rfl)) (by unfold Func.isWrapper; first | (rw [if_pos (by decide +kernel)]; kernel_rfl) | (rw [if_neg (by decide +kernel)]; exact ⟨rfl, rfl⟩))
    (fun os started H enc _ => lifted os started H enc)

theorem proved : Rows.PolyPiecesSaid := over
end Go.Proofs.Ytmcpaficeaphlaa.polyPieces
