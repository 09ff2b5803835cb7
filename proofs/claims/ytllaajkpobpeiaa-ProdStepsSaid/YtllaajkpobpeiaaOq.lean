/- prod: the walk of ProdSteps. -/
import Derived.Test.YtllaajkpobpeiaaOo
import Derived.Test.YtllaajkpobpeiaaOp
namespace Go.Proofs.Ytllaajkpobpeiaa
open Go.RowKit
set_option linter.unusedSimpArgs false
set_option linter.unusedVariables false

/-- What stands beside: two tables, a maker, the document's maker. -/
structure PbS (w w' : World) (a b : ChV) (g r : Nat) (S : Option (ChV × Int)) (N T : Int) (Xr : ChV) (Nr : Int) : Prop where
  bel : Below w.heap.size w w'
  ca : ChAt w' w.heap.size a
  cb : ChAt w' (w.heap.size + 1) b
  mg : MkS w' g S N
  rr : w'.heap[r]? = some (.cells (rkA T Xr Nr) 36 (0, 0))
  lt : w.heap.size + 1 < g ∧ g < r
section
variable {w w' w'' : World} {a b Xr Y : ChV} {g r : Nat} {S S' : Option (ChV × Int)} {N N' T Nr T' : Int}
theorem PbS.below (h : PbS w w' a b g r S N T Xr Nr) (hb : Below w'.heap.size w' w'') : PbS w w'' a b g r S N T Xr Nr :=
  ⟨kF hb h.bel, h.ca.below hb, h.cb.below hb, h.mg.below hb, (hb.block _ (Array.getElem?_eq_some_iff.1 h.rr).1).trans h.rr, h.lt⟩
theorem PbS.ong (h : PbS w w' a b g r S N T Xr Nr) (ho : Onl g w' w'') (hm : MkS w'' g S' N') : PbS w w'' a b g r S' N' T Xr Nr :=
  ⟨h.bel.trans (ho.from_ (by have := h.lt; omega)), (ho.oth _ (Array.getElem?_eq_some_iff.1 h.ca).1 (by have := h.lt; omega)).trans h.ca, (ho.oth _ (Array.getElem?_eq_some_iff.1 h.cb).1 (by have := h.lt; omega)).trans h.cb, hm, (ho.oth r (Array.getElem?_eq_some_iff.1 h.rr).1 (by have := h.lt; omega)).trans h.rr, h.lt⟩
theorem PbS.onr (h : PbS w w' a b g r S N T Xr Nr) (T' : Int) (Y : ChV) (N' : Int) : PbS w (w'.setRow r (rkA T' Y N')) a b g r S N T' Y N' := by
  have ho : Onl r w' (w'.setRow r (rkA T' Y N')) := ⟨below_setRow (Below.refl _ w') (Nat.le_refl _) _, fun k _ hn => setRow_other w' r k _ hn⟩
  exact ⟨h.bel.trans (ho.from_ (by have := h.lt; omega)), (ho.oth _ (Array.getElem?_eq_some_iff.1 h.ca).1 (by have := h.lt; omega)).trans h.ca, (ho.oth _ (Array.getElem?_eq_some_iff.1 h.cb).1 (by have := h.lt; omega)).trans h.cb, h.mg.onl ho (by have := h.lt; omega), setRow_heap _ _ _ _ _ (0, 0) h.rr, h.lt⟩
end
/-- .. and the table of a step, and the step. -/
structure PcS (w w' : World) (a b : ChV) (g r xb : Nat) (S : Option (ChV × Int)) (N T : Int) (Xr : ChV) (Nr : Int) (x : ChV) (bk o : Nat) (tk : TkV) : Prop where
  b : PbS w w' a b g r S N T Xr Nr
  cx : ChAt w' xb x
  tk : TkC w' bk o tk
  lx : bk < w.heap.size ∧ r < xb
section
variable {w w' w'' : World} {a b Xr Y x : ChV} {g r xb bk o : Nat} {S S' : Option (ChV × Int)} {N N' T Nr T' : Int} {tk : TkV}
theorem PcS.below (h : PcS w w' a b g r xb S N T Xr Nr x bk o tk) (hb : Below w'.heap.size w' w'') : PcS w w'' a b g r xb S N T Xr Nr x bk o tk :=
  ⟨h.b.below hb, h.cx.below hb, h.tk.below h.lx.1 (hb.mono h.b.bel.size), h.lx⟩
theorem PcS.ong (h : PcS w w' a b g r xb S N T Xr Nr x bk o tk) (ho : Onl g w' w'') (hm : MkS w'' g S' N') : PcS w w'' a b g r xb S' N' T Xr Nr x bk o tk :=
  ⟨h.b.ong ho hm, (ho.oth _ (Array.getElem?_eq_some_iff.1 h.cx).1 (by have := h.lx; have := h.b.lt; omega)).trans h.cx, h.tk.below h.lx.1 (ho.from_ (by have := h.b.lt; omega)), h.lx⟩
theorem PcS.onr (h : PcS w w' a b g r xb S N T Xr Nr x bk o tk) (T' : Int) (Y : ChV) (N' : Int) : PcS w (w'.setRow r (rkA T' Y N')) a b g r xb S N T' Y N' x bk o tk := by
  have ho : Onl r w' (w'.setRow r (rkA T' Y N')) := ⟨below_setRow (Below.refl _ w') (Nat.le_refl _) _, fun k _ hn => setRow_other w' r k _ hn⟩
  exact ⟨h.b.onr T' Y N', (ho.oth _ (Array.getElem?_eq_some_iff.1 h.cx).1 (by have := h.lx; omega)).trans h.cx, h.tk.below h.lx.1 (ho.from_ (by have := h.b.lt; omega)), h.lx⟩
end
theorem PcS.onx {w w' : World} {a b Xr x : ChV} {g r xb bk o : Nat} {S : Option (ChV × Int)} {N T Nr : Int} {tk : TkV} (h : PcS w w' a b g r xb S N T Xr Nr x bk o tk) (y : ChV) : PcS w (w'.setRow xb (chA y)) a b g r xb S N T Xr Nr y bk o tk := by
  have ho : Onl xb w' (w'.setRow xb (chA y)) := ⟨below_setRow (Below.refl _ w') (Nat.le_refl _) _, fun k _ hn => setRow_other w' xb k _ hn⟩
  have hl := h.lx
  have hq := h.b.lt
  exact ⟨⟨h.b.bel.trans (ho.from_ (by omega)), (ho.oth _ (Array.getElem?_eq_some_iff.1 h.b.ca).1 (by omega)).trans h.b.ca, (ho.oth _ (Array.getElem?_eq_some_iff.1 h.b.cb).1 (by omega)).trans h.b.cb, h.b.mg.onl ho (by omega), (ho.oth r (Array.getElem?_eq_some_iff.1 h.b.rr).1 (by omega)).trans h.b.rr, h.b.lt⟩, setRow_heap _ _ _ _ _ (0, 0) h.cx, h.tk.below hl.1 (ho.from_ (by omega)), h.lx⟩
theorem ch_range {w : World} {k : Nat} {x : ChV} (h : ChAt w k x) : w.rangeAt k 0 (chA x).toList := fun j v hv => by rw [cell_of_row _ _ _ _ _ _ h, Nat.zero_add]; simpa using hv
set_option maxRecDepth 100000 in
set_option maxHeartbeats 16000000 in
theorem steps_walk (a b : ChV) (A : Option Addr) (n c : Nat) (fs : Nat → TkV) (w : World) (h : TksP w w.heap.size A n c fs) :
    Calls Try.prog 3 #[.agg (chA a), .agg (chA b), .slice A n c] w fun e w' => e = .returned (.bool true) ∧ Below w.heap.size w w' := by
  have hcap := h.cap
  have hmax := h.max
  simp only [maxLen] at hmax
  have HC := Lib.hid (fun (x : World) (hx : Below w.heap.size w x) (h0 : 0 < n) => show ∃ b off, A = some ⟨b, off, none⟩ ∧ b < w.heap.size ∧ ∀ i, i < n → TkC x b (off + i * 12) (fs i) from by
    obtain ⟨b, off, e, hb, hh⟩ := h.cells h0
    exact ⟨b, off, e, hb, fun i hi => (hh i hi).below hb hx⟩)
  have hs1 : (w.alloc (.cells (chA a) 29)).heap.size = w.heap.size + 1 := by simp
  have HA0 : Hid (ChAt ((w.alloc (.cells (chA a) 29)).alloc (.cells (chA b) 29)) w.heap.size a ∧ ChAt ((w.alloc (.cells (chA a) 29)).alloc (.cells (chA b) 29)) (w.heap.size + 1) b ∧ Below w.heap.size w ((w.alloc (.cells (chA a) 29)).alloc (.cells (chA b) 29))) := Lib.hid ⟨by unfold ChAt; rw [heap_alloc_old _ _ (by omega), heap_alloc_new], by unfold ChAt; rw [← hs1, heap_alloc_new], ((Below.refl _ _).alloc (Nat.le_refl _) _).alloc (by omega) _⟩
  have HSZ := Lib.hid (fun w => xsize_any w a)
  have HRZ := Lib.hid (fun w => rxsize_any w a)
  have HSD := Lib.hid (fun w => psends_any w a)
  have HRD := Lib.hid (fun w => rsends_any w a)
  have HCX : Hid ((Try.prog.info? 29).map (·.size) = some (chA a).toList.length) := Lib.hid info_chan
  have HLV := Lib.hid (fun w => live29_any w)
  clear h hs1
  go_enter Try.func3, Try.ntmps3
  go_upto_region 1 with fail
  change Code.wp _ _ _ _ ((w.alloc (.cells (chA a) 29)).alloc (.cells (chA b) 29))
  generalize (w.alloc (.cells (chA a) 29)).alloc (.cells (chA b) 29) = w0 at *
  obtain ⟨za, hza⟩ : ∃ t, szX a = t := ⟨_, rfl⟩
  obtain ⟨sa, hsa⟩ : ∃ t, sendsB a = t := ⟨_, rfl⟩
  rw [hza] at HSZ HRZ
  rw [hsa] at HSD HRD
  clear hza hsa
  refine wp_region_last (fun w' => ChAt w' w.heap.size a ∧ ChAt w' (w.heap.size + 1) b ∧ Below w.heap.size w w') 11 (by kernel_rfl) ⟨HA0.out.1.below (kD w0), HA0.out.2.1.below (kD w0), kF (kD w0) HA0.out.2.2⟩ (fun hHeld => ?_)
  replace HA0 := Lib.hid hHeld
  generalize w0.drew = w00 at *
  refine wpAnyL_take (i := 0) rfl (by kernel_rfl) (by kernel_rfl) (by kernel_rfl) (by kernel_rfl) (by kernel_rfl) (fun _ _ _ h => h) (yieldsIf_load_mid (by kernel_rfl) _ (.tmp 3) rfl w.heap.size 0 rfl _ _ (fun w' h' => ch_range h'.1) Try.underlying29 rfl HCX.out) (by assumption) ?_
  (try go_simp)
  (try simp only [Array.toArray_toList])
  refine wpAnyL_take (i := 2) rfl (by kernel_rfl) (by kernel_rfl) (by kernel_rfl) (by kernel_rfl) (by kernel_rfl) (fun _ _ _ h => h) (yieldsIf_load_mid (by kernel_rfl) _ (.tmp 3) rfl w.heap.size 0 rfl _ _ (fun w' h' => ch_range h'.1) Try.underlying29 rfl HCX.out) (by assumption) ?_
  (try go_simp)
  (try simp only [Array.toArray_toList])
  refine wpAnyL_ready (rs := [1]) (by kernel_rfl) (by simp) ?_
  refine (AllReadyL.cons rfl (fun K hK => ?_) AllReadyL.nil)
  go_simp
  go_wp2_with fail
  refine (HSZ.out _).mono ?_
  rintro e w1 ⟨rfl, b1⟩
  have HA1 := Lib.hid (And.intro (HA0.out.1.below b1) (And.intro (HA0.out.2.1.below b1) (kF b1 HA0.out.2.2)))
  clear b1
  refine hK.out _ _ ?_ (fun hHeld => ?_)
  · (try dsimp only); exact HA1.out
  clear hK K
  refine wpAnyL_ready (rs := [3]) (by kernel_rfl) (by simp) ?_
  refine (AllReadyL.cons rfl (fun K hK => ?_) AllReadyL.nil)
  go_simp
  go_wp2_with fail
  refine (HRZ.out _).mono ?_
  rintro e w2 ⟨rfl, b2⟩
  have HA2 := Lib.hid (And.intro (HA1.out.1.below b2) (And.intro (HA1.out.2.1.below b2) (kF b2 HA1.out.2.2)))
  clear b2
  refine hK.out _ _ ?_ (fun hHeld => ?_)
  · (try dsimp only); exact HA2.out
  clear hK K
  refine wpAnyL_take (i := 4) (v := .bool false) rfl (by kernel_rfl) (by kernel_rfl) (by kernel_rfl) (by kernel_rfl) (by kernel_rfl) (fun _ _ _ h => h) (Or.inl ⟨by rfl, ?_⟩) (by assumption) ?_
  · intro wq hSw; (try dsimp only at hSw); first | (go_simp; done) | (go_simp; with_reducible rfl) | with_reducible rfl
  go_simp
  refine wpAnyL_take (i := 5) (v := .bool false) rfl (by kernel_rfl) (by kernel_rfl) (by kernel_rfl) (by kernel_rfl) (by kernel_rfl) (fun _ _ _ h => h) (Or.inl ⟨by rfl, ?_⟩) (by assumption) ?_
  · intro wq hSw; (try dsimp only at hSw); first | (go_simp; done) | (go_simp; with_reducible rfl) | with_reducible rfl
  go_simp
  refine wpAnyL_take (i := 6) rfl (by kernel_rfl) (by kernel_rfl) (by kernel_rfl) (by kernel_rfl) (by kernel_rfl) (fun _ _ _ h => h) (yieldsIf_load_mid (by kernel_rfl) _ (.tmp 3) rfl w.heap.size 0 rfl _ _ (fun w' h' => ch_range h'.1) Try.underlying29 rfl HCX.out) (by assumption) ?_
  (try go_simp)
  (try simp only [Array.toArray_toList])
  refine wpAnyL_take (i := 8) rfl (by kernel_rfl) (by kernel_rfl) (by kernel_rfl) (by kernel_rfl) (by kernel_rfl) (fun _ _ _ h => h) (yieldsIf_load_mid (by kernel_rfl) _ (.tmp 3) rfl w.heap.size 0 rfl _ _ (fun w' h' => ch_range h'.1) Try.underlying29 rfl HCX.out) (by assumption) ?_
  (try go_simp)
  (try simp only [Array.toArray_toList])
  refine wpAnyL_ready (rs := [7]) (by kernel_rfl) (by simp) ?_
  refine (AllReadyL.cons rfl (fun K hK => ?_) AllReadyL.nil)
  go_simp
  go_wp2_with fail
  refine (HSD.out _).mono ?_
  rintro e w3 ⟨rfl, b3⟩
  have HA3 := Lib.hid (And.intro (HA2.out.1.below b3) (And.intro (HA2.out.2.1.below b3) (kF b3 HA2.out.2.2)))
  clear b3
  refine hK.out _ _ ?_ (fun hHeld => ?_)
  · (try dsimp only); exact HA3.out
  clear hK K
  refine wpAnyL_ready (rs := [9]) (by kernel_rfl) (by simp) ?_
  refine (AllReadyL.cons rfl (fun K hK => ?_) AllReadyL.nil)
  go_simp
  go_wp2_with fail
  refine (HRD.out _).mono ?_
  rintro e w4 ⟨rfl, b4⟩
  have HA4 := Lib.hid (And.intro (HA3.out.1.below b4) (And.intro (HA3.out.2.1.below b4) (kF b4 HA3.out.2.2)))
  clear b4
  refine hK.out _ _ ?_ (fun hHeld => ?_)
  · (try dsimp only); exact HA4.out
  clear hK K
  refine wpAnyL_take (i := 10) (v := .bool false) rfl (by kernel_rfl) (by kernel_rfl) (by kernel_rfl) (by kernel_rfl) (by kernel_rfl) (fun _ _ _ h => h) (Or.inl ⟨by rfl, ?_⟩) (by assumption) ?_
  · intro wq hSw; (try dsimp only at hSw); first | (go_simp; done) | (go_simp; with_reducible rfl) | with_reducible rfl
  go_simp
  refine wpAnyL_ready (rs := [11]) (by kernel_rfl) (by simp) ?_
  refine AllReadyL.last rfl (fun K hK => ?_)
  go_simp
  refine hK.out _ _ ?_
  clear hK K
  refine wpAnyL_done (by kernel_rfl) ?_ _
  clear hHeld
  clear HSZ HRZ HSD HRD HA0 HA1 HA2 HA3
  have HBR : Hid (Try.prog.built 36 [(0, .int .i64 (-1))] = some (rkA (-1) c0X 0)) := Lib.hid (by kernel_rfl)
  have HR1 := Lib.hid (rkA_one (-1) c0X 0)
  have HIR : Hid ((Try.prog.info? 36).map (·.size) = some (rkA (-1) c0X 0).size) := Lib.hid info_rk
  have HE0 : Hid ((rkA 0 c0X 0).size = (rkA (-1) c0X 0).size) := Lib.hid rfl
  go_upto_region 4 with (go_at_call 14; refine (pnew_any w4).mono ?_; rintro e w5 ⟨g, hg, rfl, h5, b5⟩; have HM5 := Lib.hid (show MkS w5 g none 0 from h5); have HA5 := Lib.hid (And.intro (HA4.out.1.below b5) (And.intro (HA4.out.2.1.below b5) (kF b5 HA4.out.2.2))); have HG := Lib.hid (show w.heap.size + 1 < g from Nat.lt_of_lt_of_le (Array.getElem?_eq_some_iff.1 HA4.out.2.1).1 hg); have HG5 := Lib.hid (show g < w5.heap.size from MkS.lt (S := none) h5); clear h5 b5 hg)
  have HZ5 : Hid ((w5.alloc (.cells (rkA 0 c0X 0) 36)).heap[w5.heap.size]? = some (.cells (rkA 0 c0X 0) 36 (0, 0))) := Lib.hid (heap_alloc_new w5 _)
  go_upto_region 5 with (first
    | (refine wpList_build_as rfl _ _ rfl _ _ (by kernel_rfl) HBR.out ?_)
    | (refine wpList_store_row rfl _ (.tmp 8) (.tmp 32) rfl w5.heap.size _ rfl rfl _ _ HZ5.out HIR.out HE0.out HR1.out ?_))
  have hba : Below w5.heap.size w5 ((w5.alloc (.cells (rkA 0 c0X 0) 36)).setRow w5.heap.size (rkA (-1) c0X 0)) := below_setRow ((Below.refl _ _).alloc (Nat.le_refl _) _) (Nat.le_refl _) _
  have HP6 : Hid (PbS w ((w5.alloc (.cells (rkA 0 c0X 0) 36)).setRow w5.heap.size (rkA (-1) c0X 0)) a b g w5.heap.size none 0 (-1) c0X 0) := Lib.hid ⟨kF hba HA5.out.2.2, HA5.out.1.below hba, HA5.out.2.1.below hba, HM5.out.below hba, setRow_heap _ _ _ _ _ (0, 0) HZ5.out, HG.out, HG5.out⟩
  clear hba HZ5 HA5 HM5 HA4 HBR HR1 HIR HE0
  change Code.wp _ _ _ _ ((w5.alloc (.cells (rkA 0 c0X 0) 36)).setRow w5.heap.size (rkA (-1) c0X 0))
  generalize (w5.alloc (.cells (rkA 0 c0X 0) 36)).setRow w5.heap.size (rkA (-1) c0X 0) = w6 at *
  generalize w5.heap.size = r at *
  go_wp2_with fail
  go_loopw [9, 10] (fun t9 t10 wr => ∃ (j : Nat) (now N T : Int) (S : Option (ChV × Int)) (Xr : ChV), j ≤ 60 ∧ t9 = .int .i64 now ∧ t10 = .int .i64 j ∧ Hid (0 ≤ now ∧ now ≤ 255 * (j : Int)) ∧ Hid (0 ≤ N ∧ N ≤ (j : Int)) ∧ Hid (okS S now) ∧ Hid (RkS S T Xr) ∧ Hid (PbS w wr a b g r S N T Xr N)) (fun _ t10 _ => 100 - (intOf t10).toNat)
  case atStart => exact ⟨0, 0, 0, -1, none, c0X, by omega, rfl, rfl, Lib.hid (by omega), Lib.hid (by omega), Lib.hid (fun p h => by cases h), Lib.hid rfl, HP6⟩
  case round =>
    clear HP6
    obtain ⟨j, now, N, T, S, Xr, hj, rfl, rfl, HN, HNN, HS, HRK, HP⟩ := hrel
    by_cases hlt : j < n ∧ j < 60
    · obtain ⟨hjn, hj60⟩ := hlt
      have hjI : (j : Int) < (n : Int) := by omega
      have hj6I : (j : Int) < 60 := by omega
      obtain ⟨bk, off, rfl, hbk, hcs⟩ := HC.out wr HP.out.bel (by omega)
      have htk := hcs j hjn
      have hyr := htk.ry
      have hy0 := htk.y
      have HTK := Lib.hid htk
      have hn0 := HN.out
      have d1 : IntKind.i64.wrap (fs j).y = (fs j).y := IntWalk.i64_in _ (by omega)
      obtain ⟨now2, hnow2⟩ : ∃ t, now + (fs j).y = t := ⟨_, rfl⟩
      have d3 : IntKind.i64.wrap (now + (fs j).y) = now2 := by rw [hnow2]; exact IntWalk.i64_in _ (by omega)
      have HN2 := Lib.hid (show 0 ≤ now2 ∧ now2 ≤ 255 * ((j : Int) + 1) ∧ now ≤ now2 by omega)
      clear hcs htk hyr hn0 hnow2
      have HIA : Hid ((Try.prog.info? 29).map (·.size) = some (chA a).size) := Lib.hid info_chan
      have HIB : Hid ((Try.prog.info? 29).map (·.size) = some (chA b).size) := Lib.hid info_chan
      have H1A := Lib.hid (chA_one a)
      have H1B := Lib.hid (chA_one b)
      have HE1 : Hid ((chA c0X).size = (chA a).size) := Lib.hid rfl
      have HE2 : Hid ((chA a).size = (chA b).size) := Lib.hid rfl
      have hba : Below wr.heap.size wr ((wr.alloc (.cells (chA c0X) 29)).setRow wr.heap.size (chA a)) := below_setRow ((Below.refl _ _).alloc (Nat.le_refl _) _) (Nat.le_refl _) _
      have HZ7 : Hid ((wr.alloc (.cells (chA c0X) 29)).heap[wr.heap.size]? = some (.cells (chA c0X) 29 (0, 0))) := Lib.hid (heap_alloc_new wr _)
      have HP7 : Hid (PcS w ((wr.alloc (.cells (chA c0X) 29)).setRow wr.heap.size (chA a)) a b g r wr.heap.size S N T Xr N a bk (off + j * 12) (fs j)) := Lib.hid ⟨HP.out.below hba, setRow_heap _ _ _ _ _ (0, 0) HZ7.out, HTK.out.below hbk (hba.mono HP.out.bel.size), hbk, (Array.getElem?_eq_some_iff.1 HP.out.rr).1⟩
      clear hba
      go_upto_region 11 with (first
        | (refine wpList_load_row rfl _ (.tmp 3) rfl w.heap.size rfl _ _ _ _ HP.out.ca Try.underlying29 rfl HIA.out ?_)
        | (refine wpList_store_row rfl _ (.tmp 11) (.tmp 51) rfl wr.heap.size _ rfl rfl _ _ HZ7.out HIA.out HE1.out H1A.out ?_))
      clear hy0 d1 d3 HZ7 HE1 H1A
      change Code.wp _ _ _ _ ((wr.alloc (.cells (chA c0X) 29)).setRow wr.heap.size (chA a))
      generalize (wr.alloc (.cells (chA c0X) 29)).setRow wr.heap.size (chA a) = w7 at *
      generalize wr.heap.size = xb at *
      have hot := HP7.out.tk.ot
      obtain ⟨OT, hOT⟩ : ∃ t, (fs j).ot = t := ⟨_, rfl⟩
      rw [hOT] at hot
      clear hOT
      go_upto_if 56 with fail
      go_cut [57] from 57 to 57 (fun s57 wx => ∃ x : ChV, Hid (PcS w wx a b g r xb S N T Xr N x bk (off + j * 12) (fs j)))
      case first =>
        cases OT with
        | false =>
          go_wp2_with fail
          go_meet
          exact ⟨a, HP7⟩
        | true =>
          have HP8 : Hid (PcS w (w7.setRow xb (chA b)) a b g r xb S N T Xr N b bk (off + j * 12) (fs j)) := Lib.hid (HP7.out.onx b)
          go_wp2_with (first
            | (refine wpList_load_row rfl _ (.tmp 4) rfl (w.heap.size + 1) rfl _ _ _ _ HP7.out.b.cb Try.underlying29 rfl HIB.out ?_)
            | (refine wpList_store_row rfl _ (.tmp 11) (.tmp 57) rfl xb _ rfl rfl _ _ HP7.out.cx HIB.out HE2.out H1B.out ?_))
          go_meet
          exact ⟨b, HP8⟩
      case rest =>
      clear HP7 hot HIA HIB H1B HE2 HTK HP
      obtain ⟨x, HP9⟩ := hcut
      have HZZ := Lib.hid (fun w => rxsize_any w x)
      have hz := szX_rng x
      obtain ⟨z, hzz⟩ : ∃ t, szX x = t := ⟨_, rfl⟩
      have HZX := Lib.hid hzz
      rw [hzz] at HZZ hz
      clear hzz
      obtain ⟨k0, hk0⟩ : ∃ k0 : Nat, (if 8 < z then 8 else z) = (k0 : Int) := ⟨(if 8 < z then 8 else z).toNat, by split <;> omega⟩
      have hk8 : k0 ≤ 8 := by split at hk0 <;> omega
      have hk1 : min z 8 = (k0 : Int) := by rw [← hk0]; split <;> omega
      have HIX : Hid ((Try.prog.info? 29).map (·.size) = some (chA x).size) := Lib.hid info_chan
      go_upto_region 14 with (first
        | (refine wpList_load_row rfl _ (.tmp 11) rfl xb rfl _ _ _ _ HP9.out.cx Try.underlying29 rfl HIX.out ?_)
        | (go_at_call 11; refine (HZZ.out _).mono ?_; rintro e w9 ⟨rfl, b9⟩; have HPa := Lib.hid (HP9.out.below b9); clear b9))
      clear HP9 HZZ hk0 hk1 hz
      have hsh := HPa.out.tk.sh
      obtain ⟨SH, hSH⟩ : ∃ t, (fs j).sh = t := ⟨_, rfl⟩
      rw [hSH] at hsh
      clear hSH
      go_cut [69] from 61 to 69 (fun s69 wx => ∃ bb : Bool, s69 = .bool bb ∧ (bb = true → 0 < k0) ∧ Hid (PcS w wx a b g r xb S N T Xr N x bk (off + j * 12) (fs j)))
      case first =>
        cases SH with
        | false =>
          go_wp2_with fail
          go_meet
          exact ⟨false, rfl, by simp, HPa⟩
        | true =>
          by_cases hp : 0 < k0
          · have hpI : (0 : Int) < (k0 : Int) := by omega
            go_wp2_with fail
            go_meet
            exact ⟨true, rfl, fun _ => hp, HPa⟩
          · have hpI : ¬ (0 : Int) < (k0 : Int) := by omega
            go_wp2_with fail
            go_meet
            exact ⟨false, rfl, by simp, HPa⟩
      case rest =>
      clear hsh HPa
      obtain ⟨bb, rfl, hbb, HPa⟩ := hcut
      go_upto_if 69 with fail
      go_cut [12] from 70 to 71 (fun s12 wx => ∃ m : Nat, s12 = .int .i64 (m : Int) ∧ m ≤ 8 ∧ Hid (PcS w wx a b g r xb S N T Xr N x bk (off + j * 12) (fs j)))
      case first =>
        cases bb with
        | false =>
          go_wp2_with fail
          go_meet
          exact ⟨k0, rfl, hk8, HPa⟩
        | true =>
          have hp := hbb rfl
          have hw : IntKind.i64.wrap ((k0 : Int) - 1) = ((k0 - 1 : Nat) : Int) := by rw [IntWalk.i64_in _ (by omega)]; omega
          clear hbb
          go_wp2_with fail
          go_meet
          exact ⟨k0 - 1, rfl, by omega, HPa⟩
      case rest =>
      clear HPa hbb hk8
      obtain ⟨m, rfl, hm8, HPb⟩ := hcut
      obtain ⟨ONV, hON⟩ : ∃ t, (fs j).on = t := ⟨_, rfl⟩
      have HONV := Lib.hid hON
      have hmI : (m : Int) ≤ 8 := by omega
      have hmn : ¬ (m : Int) < 0 := by omega
      have hmg : ¬ (8 : Int) < (m : Int) := by omega
      clear hON
      have HRS := Lib.hid (fun (y : World) (hy : PcS w y a b g r xb S N T Xr N x bk (off + j * 12) (fs j)) (hm : m ≤ 8) => rstepS (n := N) (l := tkL (fs j) m) now2 ONV x Xr T HRK.out (hy.tk.byt (Nat.lt_of_lt_of_le hy.lx.1 hy.b.bel.size) hm) (by have := HN2.out; omega) (HS.out.mono HN2.out.2.2).t (by have := HNN.out; omega))
      have HPS := Lib.hid (fun (y : World) {T1 : Int} {X1 : ChV} {N1 : Int} (hy : PcS w y a b g r xb S N T1 X1 N1 x bk (off + j * 12) (fs j)) (hm : m ≤ 8) => pstepS (l := tkL (fs j) m) now2 ONV x hy.b.mg (hy.tk.byt (Nat.lt_of_lt_of_le hy.lx.1 hy.b.bel.size) hm) (by have := HN2.out; omega) (HS.out.mono HN2.out.2.2).t (by have := HNN.out; omega))
      have HOS := Lib.hid (okS_step (on := ONV) (x := x) (m := m) (HS.out.mono HN2.out.2.2) HN2.out.1)
      have HAB : Hid (0 ≤ addB N (sentS S now2 ONV x m) ∧ addB N (sentS S now2 ONV x m) ≤ (j : Int) + 1) := Lib.hid (by have := HNN.out; unfold addB; split <;> omega)
      have HCXX : Hid ((Try.prog.info? 29).map (·.size) = some (chA x).toList.length) := Lib.hid info_chan
      have HIR : Hid ((Try.prog.info? 36).map (·.size) = some (rkA T Xr N).size) := Lib.hid info_rk
      clear HN HNN HS HRK
      obtain ⟨s9, hs9⟩ : ∃ t, sentS S now2 ONV x m = t := ⟨_, rfl⟩
      obtain ⟨S9, hS9⟩ : ∃ t, stepS S now2 ONV x m = t := ⟨_, rfl⟩
      unfold RStepP at HRS
      unfold StepP at HPS
      rw [hS9] at HOS HRS HPS
      rw [hs9] at HAB HRS HPS
      clear hs9 hS9
      obtain ⟨N9, hN9⟩ : ∃ t, addB N s9 = t := ⟨_, rfl⟩
      rw [hN9] at HAB HRS HPS
      clear hN9
      go_upto_region 17 with fail
      have hst : PcS w wc.drew a b g r xb S N T Xr N x bk (off + j * 12) (fs j) := HPb.out.below (kD wc)
      refine wp_region_last (fun w' => ∃ T1 X1 N1, PcS w w' a b g r xb S N T1 X1 N1 x bk (off + j * 12) (fs j)) 19 (by kernel_rfl) ⟨_, _, _, hst⟩ (fun hHeld => ?_)
      have HPc := Lib.hid hst
      clear hst
      generalize wc.drew = wd at *
      have HGB : Hid (g < wd.heap.size) := Lib.hid HPc.out.b.mg.lt
      refine wpAnyL_take (i := 1) (v := .int .i64 now2) rfl (by kernel_rfl) (by kernel_rfl) (by kernel_rfl) (by kernel_rfl) (by kernel_rfl) (fun _ _ _ h => h) (Or.inl ⟨by rfl, ?_⟩) (by assumption) ?_
      · intro wq hSw; (try dsimp only at hSw); first | (go_simp; done) | (go_simp; with_reducible rfl) | with_reducible rfl
      go_simp
      refine wpAnyL_take (i := 2) (v := .slice (some ⟨bk, off, none⟩) n c) rfl (by kernel_rfl) (by kernel_rfl) (by kernel_rfl) (by kernel_rfl) (by kernel_rfl) (fun _ _ _ h => h) (Or.inl ⟨by rfl, ?_⟩) (by assumption) ?_
      · intro wq hSw; (try dsimp only at hSw); first | (go_simp; done) | (go_simp; with_reducible rfl) | with_reducible rfl
      go_simp
      refine wpAnyL_take (i := 3) (v := .int .i64 (j : Int)) rfl (by kernel_rfl) (by kernel_rfl) (by kernel_rfl) (by kernel_rfl) (by kernel_rfl) (fun _ _ _ h => h) (Or.inl ⟨by rfl, ?_⟩) (by assumption) ?_
      · intro wq hSw; (try dsimp only at hSw); first | (go_simp; done) | (go_simp; with_reducible rfl) | with_reducible rfl
      go_simp
      refine wpAnyL_take (i := 4) (v := .pointer (some ⟨bk, off + j * 12, none⟩)) rfl (by kernel_rfl) (by kernel_rfl) (by kernel_rfl) (by kernel_rfl) (by kernel_rfl) (fun _ _ _ h => h) (Or.inl ⟨by rfl, ?_⟩) (by assumption) ?_
      · intro wq hSw; (try dsimp only at hSw); first | (go_simp; done) | (go_simp; with_reducible rfl) | with_reducible rfl
      go_simp
      refine wpAnyL_take (i := 5) (v := .pointer (some ⟨bk, off + j * 12 + 1, none⟩)) rfl (by kernel_rfl) (by kernel_rfl) (by kernel_rfl) (by kernel_rfl) (by kernel_rfl) (fun _ _ _ h => h) (Or.inl ⟨by rfl, ?_⟩) (by assumption) ?_
      · intro wq hSw; (try dsimp only at hSw); first | (go_simp; done) | (go_simp; with_reducible rfl) | with_reducible rfl
      go_simp
      refine wpAnyL_take (i := 6) (v := .bool ONV) rfl (by kernel_rfl) (by kernel_rfl) (by kernel_rfl) (by kernel_rfl) (by kernel_rfl) (fun _ _ _ h => h) (Or.inl ⟨by rfl, ?_⟩) (by assumption) ?_
      · intro wq hSw; (try dsimp only at hSw); obtain ⟨_, _, _, hSx⟩ := hSw; have c1 := hSx.tk.on; rw [HONV.out] at c1; first | (go_simp; done) | (go_simp; with_reducible rfl) | with_reducible rfl
      go_simp
      refine wpAnyL_take (i := 7) rfl (by kernel_rfl) (by kernel_rfl) (by kernel_rfl) (by kernel_rfl) (by kernel_rfl) (fun _ _ _ h => h) (yieldsIf_load_mid (by kernel_rfl) _ (.tmp 11) rfl xb 0 rfl _ _ (fun w' h' => by obtain ⟨_, _, _, hSx⟩ := h'; exact ch_range hSx.cx) Try.underlying29 rfl HCXX.out) (by assumption) ?_
      (try go_simp)
      (try simp only [Array.toArray_toList])
      refine wpAnyL_take (i := 8) (v := .slice (some ⟨bk, off, none⟩) n c) rfl (by kernel_rfl) (by kernel_rfl) (by kernel_rfl) (by kernel_rfl) (by kernel_rfl) (fun _ _ _ h => h) (Or.inl ⟨by rfl, ?_⟩) (by assumption) ?_
      · intro wq hSw; (try dsimp only at hSw); first | (go_simp; done) | (go_simp; with_reducible rfl) | with_reducible rfl
      go_simp
      refine wpAnyL_take (i := 9) (v := .int .i64 (j : Int)) rfl (by kernel_rfl) (by kernel_rfl) (by kernel_rfl) (by kernel_rfl) (by kernel_rfl) (fun _ _ _ h => h) (Or.inl ⟨by rfl, ?_⟩) (by assumption) ?_
      · intro wq hSw; (try dsimp only at hSw); first | (go_simp; done) | (go_simp; with_reducible rfl) | with_reducible rfl
      go_simp
      refine wpAnyL_take (i := 10) (v := .pointer (some ⟨bk, off + j * 12, none⟩)) rfl (by kernel_rfl) (by kernel_rfl) (by kernel_rfl) (by kernel_rfl) (by kernel_rfl) (fun _ _ _ h => h) (Or.inl ⟨by rfl, ?_⟩) (by assumption) ?_
      · intro wq hSw; (try dsimp only at hSw); first | (go_simp; done) | (go_simp; with_reducible rfl) | with_reducible rfl
      go_simp
      refine wpAnyL_take (i := 11) (v := .pointer (some ⟨bk, off + j * 12 + 3, none⟩)) rfl (by kernel_rfl) (by kernel_rfl) (by kernel_rfl) (by kernel_rfl) (by kernel_rfl) (fun _ _ _ h => h) (Or.inl ⟨by rfl, ?_⟩) (by assumption) ?_
      · intro wq hSw; (try dsimp only at hSw); first | (go_simp; done) | (go_simp; with_reducible rfl) | with_reducible rfl
      go_simp
      refine wpAnyL_take (i := 12) (v := .int .i64 (m : Int)) rfl (by kernel_rfl) (by kernel_rfl) (by kernel_rfl) (by kernel_rfl) (by kernel_rfl) (fun _ _ _ h => h) (Or.inl ⟨by rfl, ?_⟩) (by assumption) ?_
      · intro wq hSw; (try dsimp only at hSw); first | (go_simp; done) | (go_simp; with_reducible rfl) | with_reducible rfl
      go_simp
      refine wpAnyL_take (i := 13) (v := .slice (some ⟨bk, off + j * 12 + 3, none⟩) m 8) rfl (by kernel_rfl) (by kernel_rfl) (by kernel_rfl) (by kernel_rfl) (by kernel_rfl) (fun _ _ _ h => h) (Or.inl ⟨by rfl, ?_⟩) (by assumption) ?_
      · intro wq hSw; (try dsimp only at hSw); first | (go_simp; done) | (go_simp; with_reducible rfl) | with_reducible rfl
      go_simp
      refine wpAnyL_ready (rs := [0]) (by kernel_rfl) (by simp) ?_
      refine (AllReadyL.cons rfl (fun K hK => ?_) AllReadyL.nil)
      rw [if_pos (by kernel_rfl)]
      refine wp_load_row _ (.tmp 8) rfl r rfl _ _ _ _ HPc.out.b.rr Try.underlying36 rfl HIR.out ?_
      refine hK.out _ _ ?_ (fun hHeld => ?_)
      · (try dsimp only); exact ⟨_, _, _, HPc.out⟩
      clear hK K
      refine wpAnyL_ready (rs := [14]) (by kernel_rfl) (by simp) ?_
      refine (AllReadyL.cons rfl (fun K hK => ?_) AllReadyL.nil)
      go_simp
      go_wp2_with fail
      refine (HRS.out _ HPc.out hm8).mono ?_
      rintro e w17 ⟨F1, T9, X9, rfl, hrk, hf, hb⟩
      have HRK9 := Lib.hid hrk
      have HF1 := Lib.hid hf
      have HPd := Lib.hid (HPc.out.below hb)
      have HRB := Lib.hid (Array.getElem?_eq_some_iff.1 HPc.out.b.rr).1
      clear hrk hf hb
      refine hK.out _ _ ?_ (fun hHeld => ?_)
      · (try dsimp only); exact ⟨_, _, _, HPd.out⟩
      clear hK K
      refine wpAnyL_take (i := 15) (v := .tuple #[.agg (rkA T9 X9 N9), F1]) rfl (by kernel_rfl) (by kernel_rfl) (by kernel_rfl) (by kernel_rfl) (by kernel_rfl) (fun _ _ _ h => h) (Or.inl ⟨by rfl, ?_⟩) (by assumption) ?_
      · intro wq hSw; (try dsimp only at hSw); first | (go_simp; done) | (go_simp; with_reducible rfl) | with_reducible rfl
      go_simp
      refine wpAnyL_take (i := 16) (v := .agg (rkA T9 X9 N9)) rfl (by kernel_rfl) (by kernel_rfl) (by kernel_rfl) (by kernel_rfl) (by kernel_rfl) (fun _ _ _ h => h) (Or.inl ⟨by rfl, ?_⟩) (by assumption) ?_
      · intro wq hSw; (try dsimp only at hSw); first | (go_simp; done) | (go_simp; with_reducible rfl) | with_reducible rfl
      go_simp
      refine wpAnyL_take (i := 17) (v := F1) rfl (by kernel_rfl) (by kernel_rfl) (by kernel_rfl) (by kernel_rfl) (by kernel_rfl) (fun _ _ _ h => h) (Or.inl ⟨by rfl, ?_⟩) (by assumption) ?_
      · intro wq hSw; (try dsimp only at hSw); first | (go_simp; done) | (go_simp; with_reducible rfl) | with_reducible rfl
      go_simp
      refine wpAnyL_ready (rs := [18]) (by kernel_rfl) (by simp) ?_
      refine (AllReadyL.cons rfl (fun K hK => ?_) AllReadyL.nil)
      rw [if_pos (by kernel_rfl)]
      refine wp_store_row _ (.tmp 8) (.tmp 88) rfl r _ rfl rfl _ (rkA T Xr N) HPd.out.b.rr (show (Try.prog.info? 36).map (·.size) = some (rkA T9 X9 N9).size from HIR.out) rfl (rkA_one T9 X9 N9) ?_
      have HPe := Lib.hid (HPd.out.onr T9 X9 N9)
      have HFe := Lib.hid (HF1.out.onl (g := r) (w' := w17.setRow r (rkA T9 X9 N9)) ⟨below_setRow (Below.refl _ w17) (Nat.le_refl _) _, fun k _ hn => setRow_other w17 r k _ hn⟩ HRB.out)
      clear HPd HF1 HRB
      generalize w17.setRow r (rkA T9 X9 N9) = we at *
      refine hK.out _ _ ?_ (fun hHeld => ?_)
      · (try dsimp only); exact ⟨_, _, _, HPe.out⟩
      clear hK K
      refine wpAnyL_ready (rs := [19]) (by kernel_rfl) (by simp) ?_
      refine AllReadyL.last rfl (fun K hK => ?_)
      go_simp
      refine hK.out _ _ ?_
      clear hK K
      refine wpAnyL_done (by kernel_rfl) ?_ _
      clear hHeld
      go_upto_region 18 with fail
      have hst : PcS w we.drew a b g r xb S N T9 X9 N9 x bk (off + j * 12) (fs j) := HPe.out.below (kD we)
      have HFd := Lib.hid (HFe.out.below (kD we))
      refine wp_region_last (fun w' => ∃ S1 N1, PcS w w' a b g r xb S1 N1 T9 X9 N9 x bk (off + j * 12) (fs j)) 24 (by kernel_rfl) ⟨_, _, hst⟩ (fun hHeld => ?_)
      have HPf := Lib.hid hst
      clear hst
      generalize we.drew = wf at *
      refine wpAnyL_take (i := 0) (v := .pointer (some ⟨g, 0, none⟩)) rfl (by kernel_rfl) (by kernel_rfl) (by kernel_rfl) (by kernel_rfl) (by kernel_rfl) (fun _ _ _ h => h) (Or.inl ⟨by rfl, ?_⟩) (by assumption) ?_
      · intro wq hSw; (try dsimp only at hSw); first | (go_simp; done) | (go_simp; with_reducible rfl) | with_reducible rfl
      go_simp
      refine wpAnyL_take (i := 1) (v := .int .i64 now2) rfl (by kernel_rfl) (by kernel_rfl) (by kernel_rfl) (by kernel_rfl) (by kernel_rfl) (fun _ _ _ h => h) (Or.inl ⟨by rfl, ?_⟩) (by assumption) ?_
      · intro wq hSw; (try dsimp only at hSw); first | (go_simp; done) | (go_simp; with_reducible rfl) | with_reducible rfl
      go_simp
      refine wpAnyL_take (i := 2) (v := .slice (some ⟨bk, off, none⟩) n c) rfl (by kernel_rfl) (by kernel_rfl) (by kernel_rfl) (by kernel_rfl) (by kernel_rfl) (fun _ _ _ h => h) (Or.inl ⟨by rfl, ?_⟩) (by assumption) ?_
      · intro wq hSw; (try dsimp only at hSw); first | (go_simp; done) | (go_simp; with_reducible rfl) | with_reducible rfl
      go_simp
      refine wpAnyL_take (i := 3) (v := .int .i64 (j : Int)) rfl (by kernel_rfl) (by kernel_rfl) (by kernel_rfl) (by kernel_rfl) (by kernel_rfl) (fun _ _ _ h => h) (Or.inl ⟨by rfl, ?_⟩) (by assumption) ?_
      · intro wq hSw; (try dsimp only at hSw); first | (go_simp; done) | (go_simp; with_reducible rfl) | with_reducible rfl
      go_simp
      refine wpAnyL_take (i := 4) (v := .pointer (some ⟨bk, off + j * 12, none⟩)) rfl (by kernel_rfl) (by kernel_rfl) (by kernel_rfl) (by kernel_rfl) (by kernel_rfl) (fun _ _ _ h => h) (Or.inl ⟨by rfl, ?_⟩) (by assumption) ?_
      · intro wq hSw; (try dsimp only at hSw); first | (go_simp; done) | (go_simp; with_reducible rfl) | with_reducible rfl
      go_simp
      refine wpAnyL_take (i := 5) (v := .pointer (some ⟨bk, off + j * 12 + 1, none⟩)) rfl (by kernel_rfl) (by kernel_rfl) (by kernel_rfl) (by kernel_rfl) (by kernel_rfl) (fun _ _ _ h => h) (Or.inl ⟨by rfl, ?_⟩) (by assumption) ?_
      · intro wq hSw; (try dsimp only at hSw); first | (go_simp; done) | (go_simp; with_reducible rfl) | with_reducible rfl
      go_simp
      refine wpAnyL_take (i := 6) (v := .bool ONV) rfl (by kernel_rfl) (by kernel_rfl) (by kernel_rfl) (by kernel_rfl) (by kernel_rfl) (fun _ _ _ h => h) (Or.inl ⟨by rfl, ?_⟩) (by assumption) ?_
      · intro wq hSw; (try dsimp only at hSw); obtain ⟨_, _, hSx⟩ := hSw; have c1 := hSx.tk.on; rw [HONV.out] at c1; first | (go_simp; done) | (go_simp; with_reducible rfl) | with_reducible rfl
      go_simp
      refine wpAnyL_take (i := 7) rfl (by kernel_rfl) (by kernel_rfl) (by kernel_rfl) (by kernel_rfl) (by kernel_rfl) (fun _ _ _ h => h) (yieldsIf_load_mid (by kernel_rfl) _ (.tmp 11) rfl xb 0 rfl _ _ (fun w' h' => by obtain ⟨_, _, hSx⟩ := h'; exact ch_range hSx.cx) Try.underlying29 rfl HCXX.out) (by assumption) ?_
      (try go_simp)
      (try simp only [Array.toArray_toList])
      refine wpAnyL_take (i := 8) (v := .slice (some ⟨bk, off, none⟩) n c) rfl (by kernel_rfl) (by kernel_rfl) (by kernel_rfl) (by kernel_rfl) (by kernel_rfl) (fun _ _ _ h => h) (Or.inl ⟨by rfl, ?_⟩) (by assumption) ?_
      · intro wq hSw; (try dsimp only at hSw); first | (go_simp; done) | (go_simp; with_reducible rfl) | with_reducible rfl
      go_simp
      refine wpAnyL_take (i := 9) (v := .int .i64 (j : Int)) rfl (by kernel_rfl) (by kernel_rfl) (by kernel_rfl) (by kernel_rfl) (by kernel_rfl) (fun _ _ _ h => h) (Or.inl ⟨by rfl, ?_⟩) (by assumption) ?_
      · intro wq hSw; (try dsimp only at hSw); first | (go_simp; done) | (go_simp; with_reducible rfl) | with_reducible rfl
      go_simp
      refine wpAnyL_take (i := 10) (v := .pointer (some ⟨bk, off + j * 12, none⟩)) rfl (by kernel_rfl) (by kernel_rfl) (by kernel_rfl) (by kernel_rfl) (by kernel_rfl) (fun _ _ _ h => h) (Or.inl ⟨by rfl, ?_⟩) (by assumption) ?_
      · intro wq hSw; (try dsimp only at hSw); first | (go_simp; done) | (go_simp; with_reducible rfl) | with_reducible rfl
      go_simp
      refine wpAnyL_take (i := 11) (v := .pointer (some ⟨bk, off + j * 12 + 3, none⟩)) rfl (by kernel_rfl) (by kernel_rfl) (by kernel_rfl) (by kernel_rfl) (by kernel_rfl) (fun _ _ _ h => h) (Or.inl ⟨by rfl, ?_⟩) (by assumption) ?_
      · intro wq hSw; (try dsimp only at hSw); first | (go_simp; done) | (go_simp; with_reducible rfl) | with_reducible rfl
      go_simp
      refine wpAnyL_take (i := 12) (v := .int .i64 (m : Int)) rfl (by kernel_rfl) (by kernel_rfl) (by kernel_rfl) (by kernel_rfl) (by kernel_rfl) (fun _ _ _ h => h) (Or.inl ⟨by rfl, ?_⟩) (by assumption) ?_
      · intro wq hSw; (try dsimp only at hSw); first | (go_simp; done) | (go_simp; with_reducible rfl) | with_reducible rfl
      go_simp
      refine wpAnyL_take (i := 13) (v := .slice (some ⟨bk, off + j * 12 + 3, none⟩) m 8) rfl (by kernel_rfl) (by kernel_rfl) (by kernel_rfl) (by kernel_rfl) (by kernel_rfl) (fun _ _ _ h => h) (Or.inl ⟨by rfl, ?_⟩) (by assumption) ?_
      · intro wq hSw; (try dsimp only at hSw); first | (go_simp; done) | (go_simp; with_reducible rfl) | with_reducible rfl
      go_simp
      refine wpAnyL_take (i := 15) (v := F1) rfl (by kernel_rfl) (by kernel_rfl) (by kernel_rfl) (by kernel_rfl) (by kernel_rfl) (fun _ _ _ h => h) (Or.inl ⟨by rfl, ?_⟩) (by assumption) ?_
      · intro wq hSw; (try dsimp only at hSw); first | (go_simp; done) | (go_simp; with_reducible rfl) | with_reducible rfl
      go_simp
      refine wpAnyL_ready (rs := [14]) (by kernel_rfl) (by simp) ?_
      refine (AllReadyL.cons rfl (fun K hK => ?_) AllReadyL.nil)
      go_simp
      go_wp2_with fail
      refine (HPS.out _ HPf.out hm8).mono ?_
      rintro e wg ⟨F2, rfl, hf2, hm2, ho2⟩
      have HPg := Lib.hid (HPf.out.ong ho2 hm2)
      have HF2 := Lib.hid hf2
      have HFg := Lib.hid (HFd.out.onl ho2 HGB.out)
      clear hf2 hm2 ho2
      refine hK.out _ _ ?_ (fun hHeld => ?_)
      · (try dsimp only); exact ⟨_, _, HPg.out⟩
      clear hK K
      refine wpAnyL_ready (rs := [16]) (by kernel_rfl) (by simp) ?_
      refine (AllReadyL.cons rfl (fun K hK => ?_) AllReadyL.nil)
      go_simp
      go_wp2_with fail
      refine (same_any _ _ _ _ _ _ _ _ _ _ HF2.out HFg.out).mono ?_
      rintro e wh ⟨rfl, bh⟩
      have HPh := Lib.hid (HPg.out.below bh)
      clear bh
      refine hK.out _ _ ?_ (fun hHeld => ?_)
      · (try dsimp only); exact ⟨_, _, HPh.out⟩
      clear hK K
      refine wpAnyL_take (i := 17) (v := .bool false) rfl (by kernel_rfl) (by kernel_rfl) (by kernel_rfl) (by kernel_rfl) (by kernel_rfl) (fun _ _ _ h => h) (Or.inl ⟨by rfl, ?_⟩) (by assumption) ?_
      · intro wq hSw; (try dsimp only at hSw); first | (go_simp; done) | (go_simp; with_reducible rfl) | with_reducible rfl
      go_simp
      refine wpAnyL_take (i := 18) (v := .bool false) rfl (by kernel_rfl) (by kernel_rfl) (by kernel_rfl) (by kernel_rfl) (by kernel_rfl) (fun _ _ _ h => h) (Or.inl ⟨by rfl, ?_⟩) (by assumption) ?_
      · intro wq hSw; (try dsimp only at hSw); first | (go_simp; done) | (go_simp; with_reducible rfl) | with_reducible rfl
      go_simp
      refine wpAnyL_take (i := 19) (v := .pointer (some ⟨g, 0, none⟩)) rfl (by kernel_rfl) (by kernel_rfl) (by kernel_rfl) (by kernel_rfl) (by kernel_rfl) (fun _ _ _ h => h) (Or.inl ⟨by rfl, ?_⟩) (by assumption) ?_
      · intro wq hSw; (try dsimp only at hSw); first | (go_simp; done) | (go_simp; with_reducible rfl) | with_reducible rfl
      go_simp
      refine wpAnyL_take (i := 21) (v := .pointer (some ⟨r, 31, none⟩)) rfl (by kernel_rfl) (by kernel_rfl) (by kernel_rfl) (by kernel_rfl) (by kernel_rfl) (fun _ _ _ h => h) (Or.inl ⟨by rfl, ?_⟩) (by assumption) ?_
      · intro wq hSw; (try dsimp only at hSw); first | (go_simp; done) | (go_simp; with_reducible rfl) | with_reducible rfl
      go_simp
      refine wpAnyL_take (i := 22) (v := .int .i64 N9) rfl (by kernel_rfl) (by kernel_rfl) (by kernel_rfl) (by kernel_rfl) (by kernel_rfl) (fun _ _ _ h => h) (Or.inl ⟨by rfl, ?_⟩) (by assumption) ?_
      · intro wq hSw; (try dsimp only at hSw); obtain ⟨_, _, hSx⟩ := hSw; have c1 : wq.cell? ⟨r, 31, none⟩ = some (.int .i64 N9) := by { rw [cell_of_row _ _ _ _ _ _ hSx.b.rr]; rfl }; first | (go_simp; done) | (go_simp; with_reducible rfl) | with_reducible rfl
      go_simp
      refine wpAnyL_ready (rs := [20]) (by kernel_rfl) (by simp) ?_
      refine (AllReadyL.cons rfl (fun K hK => ?_) AllReadyL.nil)
      go_simp
      go_wp2_with fail
      refine (sentS_any HPh.out.b.mg).mono ?_
      rintro e wi ⟨rfl, rfl⟩
      refine hK.out _ _ ?_ (fun hHeld => ?_)
      · (try dsimp only); exact ⟨_, _, HPh.out⟩
      clear hK K
      refine wpAnyL_take (i := 23) (v := .bool false) rfl (by kernel_rfl) (by kernel_rfl) (by kernel_rfl) (by kernel_rfl) (by kernel_rfl) (fun _ _ _ h => h) (Or.inl ⟨by rfl, ?_⟩) (by assumption) ?_
      · intro wq hSw; (try dsimp only at hSw); first | (go_simp; done) | (go_simp; with_reducible rfl) | with_reducible rfl
      go_simp
      refine wpAnyL_ready (rs := [24]) (by kernel_rfl) (by simp) ?_
      refine AllReadyL.last rfl (fun K hK => ?_)
      go_simp
      refine hK.out _ _ ?_
      clear hK K
      refine wpAnyL_done (by kernel_rfl) ?_ _
      clear hHeld
      have HNX := Lib.hid (fun (y : World) (hy : MkS y g S9 N9) => nextS now2 hy (by have := HN2.out; omega) HOS.out.1 HOS.out.2)
      have HRW := Lib.hid HPh.out.b.rr
      go_upto_region 21 with (go_at_call 19; refine (HNX.out _ HPh.out.b.mg).mono ?_; rintro e wk ⟨rfl, bk9⟩; have HPk := Lib.hid (HPh.out.below bk9); clear bk9)
      cases S9 with
      | none =>
        have hT9 : T9 = -1 := HRK9.out
        subst hT9
        have q0 : wk.cell? ⟨r, 0, none⟩ = some (.int .i64 (-1)) := by rw [cell_of_row _ _ _ _ _ _ HPk.out.b.rr]; rfl
        go_wp2_with fail
        exact ⟨⟨j + 1, now2, N9, -1, none, X9, by omega, rfl, by go_num, Lib.hid (by have := HN2.out; omega), Lib.hid (by have := HAB.out; omega), Lib.hid HOS.out.1, HRK9, Lib.hid HPk.out.b⟩, by simp [intOf]; omega⟩
      | some p =>
        obtain ⟨px, pt⟩ := p
        obtain ⟨hT9, hX9⟩ : T9 = pt ∧ X9 = px := HRK9.out
        subst hT9 hX9
        have hp0 := HOS.out.1 _ rfl
        have hp1 := HOS.out.2 _ rfl
        simp only at hp0 hp1
        have q0 : wk.cell? ⟨r, 0, none⟩ = some (.int .i64 T9) := by rw [cell_of_row _ _ _ _ _ _ HPk.out.b.rr]; rfl
        have q2 : wk.cell? ⟨r, 1 + 1, none⟩ = some (.int .i64 X9.time) := by rw [cell_of_row _ _ _ _ _ _ HPk.out.b.rr]; rfl
        have HN20 := HN2.out
        obtain ⟨dd, hdd⟩ : ∃ t, now2 - T9 = t := ⟨_, rfl⟩
        have e1 : IntKind.i64.wrap (now2 - T9) = dd := by rw [hdd]; exact IntWalk.i64_in _ (by omega)
        obtain ⟨nx, hnx⟩ : ∃ t, T9 + X9.time - now2 = t := ⟨_, rfl⟩
        have e2 : IntKind.i64.wrap (X9.time - dd) = nx := by rw [show X9.time - dd = nx by omega]; exact IntWalk.i64_in _ (by omega)
        have e3 : nxE (some (X9, T9)) now2 = nx := hnx
        have hT0 : 0 ≤ T9 := hp0.1
        clear hp0 hp1 HN20 hdd hnx
        generalize nxE (some (X9, T9)) now2 = ny at *
        subst e3
        generalize X9.time = tm at *
        go_wp2_with fail
        exact ⟨⟨j + 1, now2, N9, T9, some (X9, T9), X9, by omega, rfl, by go_num, Lib.hid (by have := HN2.out; omega), Lib.hid (by have := HAB.out; omega), Lib.hid HOS.out.1, HRK9, Lib.hid HPk.out.b⟩, by simp [intOf]; omega⟩
    · have HB9 := Lib.hid HP.out.bel
      by_cases hjn : j < n
      · have hjI : (j : Int) < (n : Int) := by omega
        have hj8I : ¬ (j : Int) < 60 := by omega
        go_wp2_with (first
          | (go_at_call 19; refine (next_nil 0 _).mono ?_; rintro e w9 ⟨rfl, rfl⟩)
          | (go_at_call 20; refine (HLV.out _).mono ?_; rintro e w10 ⟨rfl, b10⟩; have HB10 := Lib.hid (kF b10 HB9.out); clear b10)
          | (go_at_call 21; refine (table_any 1 _).mono ?_; rintro e w11 ⟨rfl, b11⟩; have HB11 := Lib.hid (kF b11 HB10.out); have hba := (Below.refl w11.heap.size w11).alloc (Nat.le_refl _) (.cells #[.int .u8 1] 5); have HB12 := Lib.hid (kF hba HB11.out); clear b11 hba)
          | (go_at_call 17; refine (step_nil 0 true _ _ _).mono ?_; rintro e w12 ⟨rfl, b12⟩; have HB13 := Lib.hid (kF b12 HB12.out); clear b12)
          | (go_at_call 18; refine (sent_nil _).mono ?_; rintro e w13 ⟨rfl, rfl⟩)
          | (go_at_call 22; refine (fork_nil _).mono ?_; rintro e w14 ⟨rfl, rfl⟩))
        go_ret
        exact ⟨rfl, HB13.out⟩
      · have hjI : ¬ (j : Int) < (n : Int) := by omega
        go_wp2_with (first
          | (go_at_call 19; refine (next_nil 0 _).mono ?_; rintro e w9 ⟨rfl, rfl⟩)
          | (go_at_call 20; refine (HLV.out _).mono ?_; rintro e w10 ⟨rfl, b10⟩; have HB10 := Lib.hid (kF b10 HB9.out); clear b10)
          | (go_at_call 21; refine (table_any 1 _).mono ?_; rintro e w11 ⟨rfl, b11⟩; have HB11 := Lib.hid (kF b11 HB10.out); have hba := (Below.refl w11.heap.size w11).alloc (Nat.le_refl _) (.cells #[.int .u8 1] 5); have HB12 := Lib.hid (kF hba HB11.out); clear b11 hba)
          | (go_at_call 17; refine (step_nil 0 true _ _ _).mono ?_; rintro e w12 ⟨rfl, b12⟩; have HB13 := Lib.hid (kF b12 HB12.out); clear b12)
          | (go_at_call 18; refine (sent_nil _).mono ?_; rintro e w13 ⟨rfl, rfl⟩)
          | (go_at_call 22; refine (fork_nil _).mono ?_; rintro e w14 ⟨rfl, rfl⟩))
        go_ret
        exact ⟨rfl, HB13.out⟩
end Go.Proofs.Ytllaajkpobpeiaa
