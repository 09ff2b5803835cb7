/- The statement PolyDivides: the remainder of any row by any divisor is that of a long division: every width, powers, start, and row (of up to 200 bits). No conditions. -/
import Derived.Test.YtmcpaficeaphlaaPolyK
import Derived.Test.YtmcpaficeaphlaaRows
import Derived.ChangeOld
import Derived.ShutString
namespace Go.Proofs.Ytmcpaficeaphlaa.polyDivides
open Go.ChangeShapes Go.WideShapes Go.ChangeAt Go.RowKit
set_option linter.unusedVariables false

theorem start (W : Int) (L : Nat) (w : World) : Below w.heap.size w (w.alloc (Obj.cells #[Value.int IntKind.i64 W, Value.int IntKind.u32 ↑L] 26)) ∧ (w.alloc (Obj.cells #[Value.int IntKind.i64 W, Value.int IntKind.u32 ↑L] 26)).cell? ⟨w.heap.size, 0, none⟩ = some (.int .i64 W) ∧ (w.alloc (Obj.cells #[Value.int IntKind.i64 W, Value.int IntKind.u32 ↑L] 26)).cell? ⟨w.heap.size, 1, none⟩ = some (.int .u32 L) ∧ w.heap.size < (w.alloc (Obj.cells #[Value.int IntKind.i64 W, Value.int IntKind.u32 ↑L] 26)).heap.size :=
  ⟨(Below.refl _ _).alloc (Nat.le_refl _) _, by rw [cell_of_row _ _ _ _ _ _ (heap_alloc_new w _)]; rfl, by rw [cell_of_row _ _ _ _ _ _ (heap_alloc_new w _)]; rfl, by simp⟩

theorem none_ (W : Int) (L s : Nat) (A : Option Addr) (n c : Nat) (l : List Int) (w : World) (hW : -9223372036854775808 ≤ W ∧ W ≤ 9223372036854775807) (hok : ¬ okV W L = true) (h : Byt w w.heap.size A n c l) (hn : ¬ 200 < n) :
    Calls Try.prog 3 #[.int .i64 W, .int .u32 L, .int .u32 s, .slice A n c] w fun e w' => e = .returned (.bool true) ∧ Below w.heap.size w w' := by
  have hr := fun w => rmay_any W L w hW
  rw [show okV W L = false by simpa using hok] at hr
  have hm := fun w => may_no W L w (okV_false hok)
  have hwh := fun w => whole_no W L A n c w (okV_false hok)
  have hre := fun w => rem_no W L s A n c w (okV_false hok)
  have hse := fun w => seal_no W L A n c w (okV_false hok)
  have HR := Lib.hid hr
  have HM := Lib.hid hm
  have HWH := Lib.hid hwh
  have HRE := Lib.hid hre
  have HSE := Lib.hid hse
  obtain ⟨hb0, hc0, hc1, hlt⟩ := start W L w
  have HB := Lib.hid hb0
  have HC0 := Lib.hid hc0
  have HC1 := Lib.hid hc1
  have HLT := Lib.hid hlt
  clear hr hm hwh hre hse hok h hb0 hc0 hc1 hlt
  go_enter Try.func3, Try.ntmps3
  go_wp2_with fail
  generalize (w.alloc (Obj.cells #[Value.int IntKind.i64 W, Value.int IntKind.u32 ↑L] 26)) = w0 at HB HC0 HC1 HLT
  refine (HR.out _).mono ?_
  rintro e w1 ⟨rfl, rfl⟩
  have hs0 := HB.out
  have hl0 := HLT.out
  have c0_0 := HC0.out
  have c1_0 := HC1.out
  go_wp2_with fail
  refine (live3_any _).mono ?_
  rintro e w2 ⟨rfl, hb2⟩
  have hs2 := hs0.trans (hb2.mono hs0.size)
  have c0_2 : w2.cell? ⟨w.heap.size, 0, none⟩ = some (.int .i64 W) := (hb2.cell (p := ⟨w.heap.size, 0, none⟩) hl0).trans c0_0
  have c1_2 : w2.cell? ⟨w.heap.size, 1, none⟩ = some (.int .u32 L) := (hb2.cell (p := ⟨w.heap.size, 1, none⟩) hl0).trans c1_0
  have hl2 := Nat.lt_of_lt_of_le hl0 hb2.size
  clear c0_0 c1_0
  go_wp2_with fail
  refine (HM.out _).mono ?_
  rintro e w3 ⟨rfl, hb3⟩
  have hs3 := hs2.trans (hb3.mono hs2.size)
  have c0_3 : w3.cell? ⟨w.heap.size, 0, none⟩ = some (.int .i64 W) := (hb3.cell (p := ⟨w.heap.size, 0, none⟩) hl2).trans c0_2
  have c1_3 : w3.cell? ⟨w.heap.size, 1, none⟩ = some (.int .u32 L) := (hb3.cell (p := ⟨w.heap.size, 1, none⟩) hl2).trans c1_2
  have hl3 := Nat.lt_of_lt_of_le hl2 hb3.size
  clear c0_2 c1_2
  go_wp2_with fail
  refine (HWH.out _).mono ?_
  rintro e w4 ⟨rfl, hb4⟩
  have hs4 := hs3.trans (hb4.mono hs3.size)
  have c0_4 : w4.cell? ⟨w.heap.size, 0, none⟩ = some (.int .i64 W) := (hb4.cell (p := ⟨w.heap.size, 0, none⟩) hl3).trans c0_3
  have c1_4 : w4.cell? ⟨w.heap.size, 1, none⟩ = some (.int .u32 L) := (hb4.cell (p := ⟨w.heap.size, 1, none⟩) hl3).trans c1_3
  have hl4 := Nat.lt_of_lt_of_le hl3 hb4.size
  clear c0_3 c1_3
  go_wp2_with fail
  refine (HRE.out _).mono ?_
  rintro e w5 ⟨rfl, hb5⟩
  have hs5 := hs4.trans (hb5.mono hs4.size)
  have c0_5 : w5.cell? ⟨w.heap.size, 0, none⟩ = some (.int .i64 W) := (hb5.cell (p := ⟨w.heap.size, 0, none⟩) hl4).trans c0_4
  have c1_5 : w5.cell? ⟨w.heap.size, 1, none⟩ = some (.int .u32 L) := (hb5.cell (p := ⟨w.heap.size, 1, none⟩) hl4).trans c1_4
  have hl5 := Nat.lt_of_lt_of_le hl4 hb5.size
  clear c0_4 c1_4
  go_wp2_with fail
  refine (HSE.out _).mono ?_
  rintro e w6 ⟨rfl, hb6⟩
  have hs6 := hs5.trans (hb6.mono hs5.size)
  go_wp2
  go_ret
  exact ⟨rfl, hs6⟩

theorem some_ (V L s : Nat) (A : Option Addr) (n c : Nat) (l : List Int) (w : World) (hV1 : 1 ≤ V) (hV2 : V ≤ 31) (hL : L < 2 ^ V) (hs : s < 4294967296) (h : Byt w w.heap.size A n c l) (hn : ¬ 200 < n) :
    Calls Try.prog 3 #[.int .i64 V, .int .u32 L, .int .u32 s, .slice A n c] w fun e w' => e = .returned (.bool true) ∧ Below w.heap.size w w' := by
  have hp := pow32 hV2
  have hok : okV (V : Int) L = true := decide_eq_true ⟨by omega, by omega, by rw [Int.toNat_natCast]; exact hL⟩
  have hr := fun w => rmay_any V L w (by omega)
  rw [hok] at hr
  have hm := fun w => may_yes V L w hV1 hV2 hL
  have hwh := fun (w : World) (h : Byt w w.heap.size A n c l) => whole_yes V L A n c l w hV1 hV2 hL h
  have hre := fun (w : World) (h : Byt w w.heap.size A n c l) => rem_yes V L s A n c l w hV1 hV2 hL hs h
  have hse := fun (w : World) (h : Byt w w.heap.size A n c l) => seal_yes V L A n c l w hV1 hV2 hL h (by omega)
  have hrr0 : ∀ w : World, Byt w w.heap.size A n c l → Calls Try.prog 14 #[.int .i64 V, .int .u32 L, .int .u32 0, .slice A n c] w fun e w' => e = .returned (.int .u32 ((remN V L 0 l : Nat) : Int)) ∧ Below w.heap.size w w' := fun w h => rrem_any V L 0 A n c l w hV1 hV2 hL (by omega) h (by omega)
  have hrr := fun (w : World) (h : Byt w w.heap.size A n c l) => rrem_any V L s A n c l w hV1 hV2 hL hs h (by omega)
  have hdi := fun (w : World) (h : Byt w w.heap.size A n c l) => rdivide_any V L A n c l w hV1 hV2 hL h (by omega)
  have hsl : sealL V L l = pl l ++ ofL ((remN V L 0 l : Nat) : Int) V := rfl
  have hlt0 := rem_lt (W := V) (L := L) hL 0 l
  have hpl := fun (w : World) (h : Byt w w.heap.size A n c l) => plain_own w A n c l h (by omega)
  have hsr : ∀ x ∈ sealL V L l, 0 ≤ x ∧ x ≤ 255 := fun x hx => by
    rw [hsl, List.mem_append] at hx
    rcases hx with hx | hx
    · exact pl_range l x hx
    · exact ofL_range _ _ x hx
  generalize sealL V L l = S at hse hsl hsr
  generalize remN V L 0 l = q0 at hrr0 hsl hlt0
  generalize remN V L s l = q at hre hrr
  generalize wholeN V L l = p at hwh hdi
  have hof := fun w => rof_any (q0 : Int) (V : Int) w (by omega)
  rw [clamp_of (by omega)] at hof
  have HR := Lib.hid hr
  have HM := Lib.hid hm
  have HWH := Lib.hid hwh
  have HRE := Lib.hid hre
  have HSE := Lib.hid hse
  have HRR0 := Lib.hid hrr0
  have HRR := Lib.hid hrr
  have HDI := Lib.hid hdi
  have HSL := Lib.hid hsl
  have HSR := Lib.hid hsr
  have HPL := Lib.hid hpl
  have HOF := Lib.hid hof
  have HH := Lib.hid h
  obtain ⟨hb0, hc0, hc1, hlt⟩ := start V L w
  have HB := Lib.hid hb0
  have HC0 := Lib.hid hc0
  have HC1 := Lib.hid hc1
  have HLT := Lib.hid hlt
  clear hr hm hwh hre hse hrr0 hrr hdi hsl hsr hpl hof h hok hL hb0 hc0 hc1 hlt
  go_enter Try.func3, Try.ntmps3
  go_wp2_with fail
  generalize (w.alloc (Obj.cells #[Value.int IntKind.i64 ↑V, Value.int IntKind.u32 ↑L] 26)) = w0 at HB HC0 HC1 HLT
  refine (HR.out _).mono ?_
  rintro e w1 ⟨rfl, rfl⟩
  have hs0 := HB.out
  have hl0 := HLT.out
  have c0_0 := HC0.out
  have c1_0 := HC1.out
  go_wp2_with fail
  refine (HRR0.out _ (HH.out.step hs0)).mono ?_
  rintro e w2 ⟨rfl, hb2⟩
  have hs2 := hs0.trans (hb2.mono hs0.size)
  have c0_2 : w2.cell? ⟨w.heap.size, 0, none⟩ = some (.int .i64 V) := (hb2.cell (p := ⟨w.heap.size, 0, none⟩) hl0).trans c0_0
  have c1_2 : w2.cell? ⟨w.heap.size, 1, none⟩ = some (.int .u32 L) := (hb2.cell (p := ⟨w.heap.size, 1, none⟩) hl0).trans c1_0
  have hl2 := Nat.lt_of_lt_of_le hl0 hb2.size
  clear c0_0 c1_0
  go_wp2_with fail
  refine (HPL.out _ (HH.out.step hs2)).mono ?_
  rintro e w3 ⟨v3, rfl, hown3, hb3⟩
  go_wp2_with fail
  refine (HOF.out _).mono ?_
  rintro e w4 ⟨A4, c4, rfl, hB4, hb4⟩
  have hown4 := own_below hown3 hb4
  have hb34 := below_trans' hb3 hb4
  go_wp2_with (at_builtin; refine wpList_bytes rfl (.tmp 54) (.tmp 57) rfl Try.underlying23 byte_info rfl hown4 rfl hB4 (by omega) hb34.size ?_; intro v5 w5 hown5 hb5)
  rw [← HSL.out] at hown5
  obtain ⟨A5, c5, rfl, hB5, _⟩ := Byt.of_own hown5 HSR.out
  have hb25 := hb34.trans hb5
  have hs5 := hs2.trans (hb25.mono hs2.size)
  have c0_5 : w5.cell? ⟨w.heap.size, 0, none⟩ = some (.int .i64 V) := (hb25.cell (p := ⟨w.heap.size, 0, none⟩) hl2).trans c0_2
  have c1_5 : w5.cell? ⟨w.heap.size, 1, none⟩ = some (.int .u32 L) := (hb25.cell (p := ⟨w.heap.size, 1, none⟩) hl2).trans c1_2
  have hl5 := Nat.lt_of_lt_of_le hl2 hb25.size
  have HB5 := Lib.hid hB5
  clear hB4 hown3 hown4 hown5 hB5 c0_2 c1_2 hb5
  go_wp2_with fail
  refine (live3_any _).mono ?_
  rintro e w6 ⟨rfl, hb6⟩
  have hs6 := hs5.trans (hb6.mono hs5.size)
  have c0_6 : w6.cell? ⟨w.heap.size, 0, none⟩ = some (.int .i64 V) := (hb6.cell (p := ⟨w.heap.size, 0, none⟩) hl5).trans c0_5
  have c1_6 : w6.cell? ⟨w.heap.size, 1, none⟩ = some (.int .u32 L) := (hb6.cell (p := ⟨w.heap.size, 1, none⟩) hl5).trans c1_5
  have hl6 := Nat.lt_of_lt_of_le hl5 hb6.size
  clear c0_5 c1_5
  go_wp2_with fail
  refine (HM.out _).mono ?_
  rintro e w7 ⟨rfl, hb7⟩
  have hs7 := hs6.trans (hb7.mono hs6.size)
  have c0_7 : w7.cell? ⟨w.heap.size, 0, none⟩ = some (.int .i64 V) := (hb7.cell (p := ⟨w.heap.size, 0, none⟩) hl6).trans c0_6
  have c1_7 : w7.cell? ⟨w.heap.size, 1, none⟩ = some (.int .u32 L) := (hb7.cell (p := ⟨w.heap.size, 1, none⟩) hl6).trans c1_6
  have hl7 := Nat.lt_of_lt_of_le hl6 hb7.size
  clear c0_6 c1_6
  go_wp2_with fail
  refine (HWH.out _ (HH.out.step hs7)).mono ?_
  rintro e w8 ⟨rfl, hb8⟩
  have hs8 := hs7.trans (hb8.mono hs7.size)
  have c0_8 : w8.cell? ⟨w.heap.size, 0, none⟩ = some (.int .i64 V) := (hb8.cell (p := ⟨w.heap.size, 0, none⟩) hl7).trans c0_7
  have c1_8 : w8.cell? ⟨w.heap.size, 1, none⟩ = some (.int .u32 L) := (hb8.cell (p := ⟨w.heap.size, 1, none⟩) hl7).trans c1_7
  have hl8 := Nat.lt_of_lt_of_le hl7 hb8.size
  clear c0_7 c1_7
  go_wp2_with fail
  refine (HDI.out _ (HH.out.step hs8)).mono ?_
  rintro e w9 ⟨rfl, hb9⟩
  have hs9 := hs8.trans (hb9.mono hs8.size)
  have c0_9 : w9.cell? ⟨w.heap.size, 0, none⟩ = some (.int .i64 V) := (hb9.cell (p := ⟨w.heap.size, 0, none⟩) hl8).trans c0_8
  have c1_9 : w9.cell? ⟨w.heap.size, 1, none⟩ = some (.int .u32 L) := (hb9.cell (p := ⟨w.heap.size, 1, none⟩) hl8).trans c1_8
  have hl9 := Nat.lt_of_lt_of_le hl8 hb9.size
  clear c0_8 c1_8
  go_wp2_with fail
  refine (HRE.out _ (HH.out.step hs9)).mono ?_
  rintro e w10 ⟨rfl, hb10⟩
  have hs10 := hs9.trans (hb10.mono hs9.size)
  have c0_10 : w10.cell? ⟨w.heap.size, 0, none⟩ = some (.int .i64 V) := (hb10.cell (p := ⟨w.heap.size, 0, none⟩) hl9).trans c0_9
  have c1_10 : w10.cell? ⟨w.heap.size, 1, none⟩ = some (.int .u32 L) := (hb10.cell (p := ⟨w.heap.size, 1, none⟩) hl9).trans c1_9
  have hl10 := Nat.lt_of_lt_of_le hl9 hb10.size
  clear c0_9 c1_9
  go_wp2_with fail
  refine (HRR.out _ (HH.out.step hs10)).mono ?_
  rintro e w11 ⟨rfl, hb11⟩
  have hs11 := hs10.trans (hb11.mono hs10.size)
  have c0_11 : w11.cell? ⟨w.heap.size, 0, none⟩ = some (.int .i64 V) := (hb11.cell (p := ⟨w.heap.size, 0, none⟩) hl10).trans c0_10
  have c1_11 : w11.cell? ⟨w.heap.size, 1, none⟩ = some (.int .u32 L) := (hb11.cell (p := ⟨w.heap.size, 1, none⟩) hl10).trans c1_10
  have hl11 := Nat.lt_of_lt_of_le hl10 hb11.size
  clear c0_10 c1_10
  go_wp2_with fail
  refine (HSE.out _ (HH.out.step hs11)).mono ?_
  rintro e w12 ⟨A12, c12, rfl, hB12, hb12⟩
  have hs12 := hs11.trans (hb12.mono hs11.size)
  have hb512 := below_trans' (below_trans' (below_trans' (below_trans' (below_trans' (below_trans' hb6 hb7) hb8) hb9) hb10) hb11) hb12
  have hsame := same_any w12 A12 A5 (n + V) (n + V) c12 c5 S S hB12 (HB5.out.step hb512)
  rw [decide_eq_true rfl] at hsame
  have HSAME := Lib.hid hsame
  clear hB12 hsame
  go_wp2_with fail
  refine HSAME.out.mono ?_
  rintro e w13 ⟨rfl, hb13⟩
  go_wp2
  go_ret
  exact ⟨by simp, hs12.trans (hb13.mono hs12.size)⟩

theorem walk (W L s : Int) (A : Option Addr) (n c : Nat) (l : List Int) (w : World) (hW : (Lit.int .i64 W).wf = true) (hL : (Lit.int .u32 L).wf = true) (hs : (Lit.int .u32 s).wf = true) (h : Byt w w.heap.size A n c l) :
    Calls Try.prog 3 #[.int .i64 W, .int .u32 L, .int .u32 s, .slice A n c] w fun e w' => e = .returned (.bool true) ∧ Below w.heap.size w w' := by
  have hW' := bounds_i64 hW
  have hL' := bounds_u32 hL
  have hs' := bounds_u32 hs
  by_cases hn : 200 < n
  · clear hW hL hs
    go_enter Try.func3, Try.ntmps3
    go_wp2_with fail
    refine (live3_any _).mono ?_
    rintro e w1 ⟨rfl, hb1⟩
    go_wp2
    go_ret
    exact ⟨rfl, hb1⟩
  · obtain ⟨L, rfl⟩ := Int.eq_ofNat_of_zero_le (show 0 ≤ L by omega)
    obtain ⟨s, rfl⟩ := Int.eq_ofNat_of_zero_le (show 0 ≤ s by omega)
    by_cases hok : okV W L = true
    · have hk := okV_true hok
      obtain ⟨V, rfl⟩ : ∃ V : Nat, W = V := ⟨W.toNat, by omega⟩
      rw [Int.toNat_natCast] at hk
      exact some_ V L s A n c l w (by omega) (by omega) hk.2.2 (by omega) h hn
    · exact none_ W L s A n c l w (by omega) hok h hn

theorem own : ownKnob Try.prog.godebug = none := by kernel_rfl
theorem laidOut : laidOutB Try.prog = true := by kernel_rfl


set_option maxRecDepth 100000 in
theorem lifted (os : Os) (started : os.Started) (H : Type) (enc : TypeId × Value → H) :
    ReturnsInHanded {} Try.checked os 3 .any (Rows.polyDividesSpec.pre6 enc Try.prog Try.f3 Rows.polyDividesRow.domain false) (Rows.polyDividesSpec.post enc Try.prog Try.f3 false true false false) := by
  refine returnsInHanded_of_change (C := Try.checked) own started (by kernel_rfl) Try.func3
    (ChangeSpec.witness6 (enc := enc) (C := Try.checked) false ⟨#[], #[.int .i64 0, .int .u32 0, .int .u32 0, .slice none 0 0], []⟩ 8 (by kernel_rfl) (by kernel_rfl) (by kernel_rfl) (by kernel_rfl)) ?_
  intro W base args ds gs before hval0 hW hcnd _
  have hval : ∀ (j : Nat) t v, Try.f3.params[j]? = some t → args[j]? = some v → Value.okWide Try.prog W .any base t v := hval0
  have hW' := hW
  obtain ⟨p, q, hA0, hV, rfl, hfz, hnd⟩ := hW
  have hA : DataW.TrodAll enc Try.prog W 0 (fun _ => true) true Try.f3.params.toList args.toList ds p := hA0
  rw [Try.params3] at hA hval
  obtain ⟨v0, vs0, d0, ds0, p0, q0, hargs, rfl, rfl, h0, r0⟩ := trodAll_cons hA
  obtain ⟨v1, vs1, d1, ds1, p1, q1, rfl, rfl, rfl, h1, r1⟩ := trodAll_cons r0
  obtain ⟨v2, vs2, d2, ds2, p2, q2, rfl, rfl, rfl, h2, r2⟩ := trodAll_cons r1
  obtain ⟨v3, vs3, d3, ds3, p3, q3, rfl, rfl, rfl, h3, r3⟩ := trodAll_cons r2
  obtain ⟨rfl, rfl, rfl⟩ := trodAll_nil r3
  obtain rfl : args = #[v0, v1, v2, v3] := by cases args; simp_all
  obtain ⟨rfl, rfl⟩ := trodVars_none hV
  obtain ⟨a0, rfl, rfl, rfl, w0⟩ := open_int Try.underlying3 (hval 0 3 v0 rfl rfl) h0
  obtain ⟨a1, rfl, rfl, rfl, w1⟩ := open_int Try.underlying22 (hval 1 22 v1 rfl rfl) h1
  obtain ⟨a2, rfl, rfl, rfl, w2⟩ := open_int Try.underlying22 (hval 2 22 v2 rfl rfl) h2
  obtain ⟨a3, len3, cap3, rfl⟩ := okWide_slice Try.underlying23 (hval 3 23 v3 rfl rfl)
  have k3 := h3
  have lt3 : ∀ x ∈ p3, x.block < W.heap.size := by obtain ⟨m, hm⟩ := k3; exact DataW.trod_lt m _ _ _ hm
  obtain ⟨z3, w3⟩ : ∃ zs, Byt W W.heap.size a3 len3 cap3 zs := by
    obtain ⟨fuel, hf⟩ := h3
    rcases open_ints Try.underlying23 Try.underlying5 (by kernel_rfl) hf with ⟨hcs, _⟩ | ⟨x, l, c, zs, hcs, _, hl, hm, hz, _, hcell, hwz⟩
    · simp [Value.cells] at hcs
      obtain ⟨rfl, rfl, rfl⟩ := hcs
      exact ⟨[], Byt.nil_ _ _⟩
    · simp [Value.cells] at hcs
      obtain ⟨rfl, rfl, rfl⟩ := hcs
      exact ⟨_, byt_of_row hl hm (by simpa using hz) hcell hwz⟩
  clear hA0 hval0
  refine (walk a0 a1 a2 a3 len3 cap3 z3 W w0 w1 w2 w3).mono fun e W' ⟨he, bel⟩ => ?_
  subst he
  exact ⟨_, rfl, _, _, _, [], _, [], hW', trodAll_mk1 (shut_bool Try.underlying4 _), (trodAll_cons_mk (shut_int Try.underlying3 w0) (trodAll_cons_mk (shut_int Try.underlying22 w1) (trodAll_cons_mk (shut_int Try.underlying22 w2) (trodAll_cons_mk (Below.trod laidOut (by kernel_rfl) (of_decide_eq_true (by kernel_rfl)) k3 bel lt3) trodAll_mk0)))), rfl, bel.frame _, fun h => by cases h⟩

theorem over : Rows.polyDividesRow.holds Try.pinned (OpenSpec.ofChange Rows.polyDividesSpec) :=
  OpenClaim.holds_of_wide 3 Try.f3 rfl rfl rfl rfl rfl rfl rfl ⟨rfl, rfl, rfl, rfl, rfl⟩ rfl rfl rfl rfl rfl (by kernel_rfl) Try.func3 (by kernel_rfl)
    (of_decide_eq_true (by kernel_rfl)) (by unfold Func.isWrapper; first | (rw [if_pos (by decide +kernel)]; kernel_rfl) | (rw [if_neg (by decide +kernel)]; exact ⟨rfl, rfl⟩))
    (fun os started H enc _ => lifted os started H enc)

theorem proved : Rows.PolyDividesSaid := over
end Go.Proofs.Ytmcpaficeaphlaa.polyDivides
