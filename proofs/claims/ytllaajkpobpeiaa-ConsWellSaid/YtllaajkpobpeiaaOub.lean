/- cons: a taker begins to work, and is asked at a tick. -/
import Derived.Test.YtllaajkpobpeiaaOua
import Derived.Test.YtllaajkpobpeiaaOg
namespace Go.Proofs.Ytllaajkpobpeiaa
open Go.RowKit
set_option linter.unusedSimpArgs false
set_option linter.unusedVariables false

set_option maxRecDepth 100000 in
set_option maxHeartbeats 8000000 in
theorem begin_any (now : Int) (x : ChV) (w : World) (hx : takesB x = true) (hn : 0 ≤ now ∧ now ≤ 2147483647) : Calls Try.prog 57 #[.int .i64 now, .agg (chA x)] w fun e w' => ∃ k ck gd, (w.heap.size ≤ k ∧ w.heap.size ≤ ck ∧ w.heap.size ≤ gd) ∧ e = .returned (.pointer (some ⟨k, 0, none⟩)) ∧ w'.heap[k]? = some (.cells (wkA ck gd x) 113 (0, 0)) ∧ CkU w' ck (szX x).toNat none [] ∧ GdT w' gd x.time x.gap now (-1) ∧ Below w.heap.size w w' := by
  have hT := of_decide_eq_true hx
  have ht := of_decide_eq_true hT.2.1
  have hg := of_decide_eq_true hT.2.2.1
  have hz := hT.2.2.2.1
  have hb0 : Below w.heap.size w (w.alloc (.cells (chA x) 29)) := (Below.refl _ _).alloc (Nat.le_refl _) _
  have hx0 : ChAt (w.alloc (.cells (chA x) 29)) w.heap.size x := heap_alloc_new w _
  have HX0 := Lib.hid hx0
  have HB0 := Lib.hid hb0
  have HSZ := Lib.hid (fun w => xsize_any w x)
  have hld : Hid ((Try.prog.info? 29).map (·.size) = some (chA x).size) := Lib.hid info_chan
  obtain ⟨z, hzz⟩ : ∃ z : Nat, szX x = (z : Int) := ⟨(szX x).toNat, by omega⟩
  have hz8 : 1 ≤ z ∧ z ≤ 8 := by omega
  have HZN : Hid ((szX x).toNat = z) := Lib.hid (by omega)
  rw [hzz] at HSZ
  have HCN := Lib.hid (fun w => cnewU z w hz8)
  have HGN := Lib.hid (fun w => newG x.time x.gap w ht hg)
  have HBL := Lib.hid (fun (ck gd : Nat) => show Try.prog.built 113 [(0, .pointer (some ⟨ck, 0, none⟩)), (1, .pointer (some ⟨gd, 0, none⟩)), (2, .agg (chA x))] = some (wkA ck gd x) by kernel_rfl)
  clear hT ht hg hz hzz hz8 hb0 hx0 hx
  rw [HZN.out]
  clear HZN
  go_enter Try.func57, Try.ntmps57
  go_upto_region 2 with (first
    | (refine wpList_load_row rfl _ (.tmp 3) rfl w.heap.size rfl _ _ _ _ HX0.out Try.underlying29 rfl hld.out ?_)
    | (go_at_call 10; (with_reducible refine (HSZ.out _).mono ?_); rintro e w1 ⟨rfl, b1⟩; have HB1 := Lib.hid (kF b1 HB0.out); have HX1 := Lib.hid (HX0.out.below b1); clear b1)
    | (go_at_call 73; (with_reducible refine (HCN.out _).mono ?_); rintro e w2 ⟨ck, hck, rfl, hcs, b2⟩; have HB2 := Lib.hid (kF b2 HB1.out); have HX2 := Lib.hid (HX1.out.below b2); have HC2 := Lib.hid hcs; have HCD := Lib.hid (Nat.le_trans HB1.out.size hck); clear b2 hck hcs))
  obtain ⟨a0, a1, a2, a3, a4, a5⟩ := HX2.out.cells
  go_upto_region 3 with (go_at_call 74; (with_reducible refine (HGN.out _).mono ?_); rintro e w3 ⟨gd, hgd, rfl, hgs, b3⟩; have HB3 := Lib.hid (kF b3 HB2.out); have HX3 := Lib.hid (HX2.out.below b3); have HC3 := Lib.hid (HC2.out.below b3); have HG3 := Lib.hid hgs; have HGD := Lib.hid (Nat.le_trans HB2.out.size hgd); clear b3 hgd hgs)
  clear a0 a1 a2 a3 a4 a5
  have hba : Below w3.heap.size w3 (w3.alloc (.cells (wkA ck gd x) 113)) := (Below.refl _ _).alloc (Nat.le_refl _) _
  have HB4 := Lib.hid (kF hba HB3.out)
  have HC4 := Lib.hid (HC3.out.below hba)
  have HG4 := Lib.hid (HG3.out.below hba)
  have HK4 : Hid ((w3.alloc (.cells (wkA ck gd x) 113)).heap[w3.heap.size]? = some (.cells (wkA ck gd x) 113 (0, 0))) := Lib.hid (heap_alloc_new w3 _)
  have HLE := Lib.hid HB3.out.size
  have HBK := Lib.hid (HBL.out ck gd)
  have q1 : (w3.alloc (.cells (wkA ck gd x) 113)).cell? ⟨w3.heap.size, 1, none⟩ = some (.pointer (some ⟨gd, 0, none⟩)) := by rw [cell_of_row _ _ _ _ _ _ HK4.out]; rfl
  clear hba
  generalize hWX : wkA ck gd x = WX at *
  have HWX := Lib.hid hWX
  clear hWX
  go_upto_region 4 with (first
    | (refine wpList_load_row rfl _ (.tmp 3) rfl w.heap.size rfl _ _ _ _ HX3.out Try.underlying29 rfl hld.out ?_)
    | (refine wpList_build_as rfl _ _ rfl _ _ (by kernel_rfl) HBK.out ?_))
  generalize w3.alloc (.cells WX 113) = w4 at *
  generalize w3.heap.size = k at *
  go_wp2_with (go_at_call 75; refine (wakeG now HG4.out (.inr rfl) hn.1 hn.2).mono ?_; rintro e w5 ⟨rfl, x5, o5⟩; have HG5 := Lib.hid (show GdT w5 gd x.time x.gap now (-1) from x5); have HO5 := Lib.hid o5; clear x5 o5)
  go_ret
  obtain ⟨gc, hgc⟩ := HG4.out.ty
  obtain ⟨cc, hcc⟩ := HC4.out.ty
  refine ⟨k, ck, gd, ⟨HLE.out, HCD.out, HGD.out⟩, rfl, ?_, ?_, HG5.out, ?_⟩
  · rw [HWX.out]
    exact (HO5.out.oth _ (Array.getElem?_eq_some_iff.1 HK4.out).1 (ne_ty HK4.out hgc (by decide))).trans HK4.out
  · exact HC4.out.keep (HO5.out.oth _ HC4.out.lt (ne_ty hcc hgc (by decide))) (keepU_onl HO5.out hgc (by decide))
  · exact HB4.out.trans (HO5.out.from_ HGD.out)

theorem works_q (w : World) (t : Nat) (c : Int) (h : TkR w t c) : Hid (∀ n, Calls Try.prog 36 #[.pointer (some ⟨t, 0, none⟩)] (w.drewN n) fun e w' => e = .returned (.bool false) ∧ ∃ m, w' = w.drewN m) := Lib.hid (fun n => (works_rest (w := w.drewN n) h).mono fun e w' h => ⟨h.1, n, h.2.symm⟩)
set_option maxRecDepth 100000 in
set_option maxHeartbeats 8000000 in
theorem bg_new {w : World} {t : Nat} (now : Int) (x : ChV) (h : TkR w t 0) (hx : takesB x = true) (hn : 0 ≤ now ∧ now ≤ 2147483647) : Calls Try.prog 30 #[.pointer (some ⟨t, 0, none⟩), .int .i64 now, .bool true, .agg (chA x)] w fun e w' => ∃ k ck gd, (w.heap.size ≤ ck ∧ w.heap.size ≤ gd) ∧ e = .returned (.int .i64 0) ∧ TkW w' t k ck gd (szX x).toNat x none [] now (-1) ∧ Onl t w w' := by
  have hb0 : Below w.heap.size w (w.alloc (.cells (chA x) 29)) := (Below.refl _ _).alloc (Nat.le_refl _) _
  have hx0 : ChAt (w.alloc (.cells (chA x) 29)) w.heap.size x := heap_alloc_new w _
  have HX0 : Hid ((w.alloc (.cells (chA x) 29)).heap[w.heap.size]? = some (.cells (chA x) 29 (0, 0))) := Lib.hid hx0
  have HT0 := Lib.hid (h.below hb0)
  have HB0 := Lib.hid hb0
  have HGL := Lib.hid (Nat.le_of_lt h.lt)
  have HTI := Lib.hid (fun w => ctick_any now w)
  rw [show tkB now = true from decide_eq_true hn] at HTI
  have HTA := Lib.hid (fun w => ctakes_any w x)
  rw [hx] at HTA
  have HBE := Lib.hid (fun w => begin_any now x w hx hn)
  have hld : Hid ((Try.prog.info? 29).map (·.size) = some (chA x).size) := Lib.hid info_chan
  obtain ⟨c0, c1⟩ := HT0.out.cells
  clear h hx hb0 hx0 hn
  generalize chA x = CX at *
  go_enter Try.func30, Try.ntmps30
  go_upto_region 6 with (first
    | (go_at_call 56; refine (HTI.out _).mono ?_; rintro e wz ⟨rfl, rfl⟩)
    | (have _hh := HX0.out; refine wpList_load_row_want (by kernel_rfl) _ (.tmp 7) rfl w.heap.size rfl _ _ _ _ HX0.out Try.underlying29 rfl hld.out ?_)
    | (go_at_call 26; refine (HTA.out _).mono ?_; rintro e w1 ⟨rfl, b1⟩; have HB1 := Lib.hid (kF b1 HB0.out); have HX1 : Hid (w1.heap[w.heap.size]? = some (.cells CX 29 (0, 0))) := Lib.hid ((b1.block _ (Array.getElem?_eq_some_iff.1 HX0.out).1).trans HX0.out); have HT1 := Lib.hid (HT0.out.below b1); clear b1))
  clear c0 c1
  have HWQ := works_q w1 t 0 HT1.out
  go_quiet ((go_at_call 36; exact HWQ.out _))
  have hbq : Below w1.heap.size w1 (w1.drewN nq) := below_drewN (Below.refl _ _) _
  have HB2 := Lib.hid (kF hbq HB1.out)
  have HX2 : Hid ((w1.drewN nq).heap[w.heap.size]? = some (.cells CX 29 (0, 0))) := Lib.hid ((hbq.block _ (Array.getElem?_eq_some_iff.1 HX1.out).1).trans HX1.out)
  have HT2 := Lib.hid (HT1.out.below hbq)
  clear hbq
  generalize w1.drewN nq = w2 at *
  go_upto_region 8 with (first
    | (refine wpList_load_row rfl _ (.tmp 7) rfl w.heap.size rfl _ _ _ _ HX2.out Try.underlying29 rfl hld.out ?_)
    | (go_at_call 57; refine (HBE.out _).mono ?_; rintro e w3 ⟨k, ck, gd, hk, rfl, hkb, hcs, hgs, b3⟩; have HB3 := Lib.hid (kF b3 HB2.out); have HT3 := Lib.hid (HT2.out.below b3); have HKB := Lib.hid hkb; have HCS := Lib.hid hcs; have HGS := Lib.hid hgs; have HKD := Lib.hid (show w.heap.size ≤ ck ∧ w.heap.size ≤ gd from ⟨Nat.le_trans HB2.out.size hk.2.1, Nat.le_trans HB2.out.size hk.2.2⟩); obtain ⟨c0, c1⟩ := HT3.out.cells; have f0 := frozen_of_row _ _ 0 _ _ HT3.out; clear b3 hk hkb hcs hgs))
  have HO4 := Lib.hid (Onl.set (g := t) w3 0 (.pointer (some ⟨k, 0, none⟩)))
  have HT4 : Hid ((w3.setCell ⟨t, 0, none⟩ (.pointer (some ⟨k, 0, none⟩))).heap[t]? = some (.cells #[.pointer (some ⟨k, 0, none⟩), .int .i64 0] 105 (0, 0))) := Lib.hid (heap_setCell_same w3 t 0 _ _ _ HT3.out)
  clear c0 c1 f0
  generalize w3.setCell ⟨t, 0, none⟩ (.pointer (some ⟨k, 0, none⟩)) = w4 at *
  go_wp2_with fail
  go_ret
  obtain ⟨gc, hgc⟩ := HGS.out.ty
  obtain ⟨cc, hcc⟩ := HCS.out.ty
  refine ⟨k, ck, gd, HKD.out, rfl, ⟨HT4.out, ?_, ?_, ?_⟩, (Onl.of HB3.out HGL.out).trans HO4.out⟩
  · exact (HO4.out.oth _ (Array.getElem?_eq_some_iff.1 HKB.out).1 (ne_ty HKB.out HT3.out (by decide))).trans HKB.out
  · exact HCS.out.keep (HO4.out.oth _ HCS.out.lt (ne_ty hcc HT3.out (by decide))) (keepU_onl HO4.out HT3.out (by decide))
  · exact HGS.out.onl HO4.out (ne_ty hgc HT3.out (by decide))
end Go.Proofs.Ytllaajkpobpeiaa
