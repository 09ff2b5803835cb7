/- FilterPasses, walked. -/
import Derived.Test.YtjofgomnnpeepaaGr
import Derived.Deep.RegionWith
namespace Go.Proofs.Ytjofgomnnpeepaa
open Go.RowKit Go.Sort Go.Shelf
attribute [local go_sem] Oper.semAt_some

theorem Fils.take {w : World} {B n c : Nat} {A : Option Addr} {fs : Nat → Int × Int} (h : Fils w B A n c fs) {k : Nat} (hk : k ≤ n) : Fils w B A k c fs :=
  ⟨Nat.le_trans hk h.cap, h.max, fun h0 => by
    obtain ⟨b, off, ha, hlt, hc⟩ := h.cells (by omega)
    exact ⟨b, off, ha, hlt, fun i hi => hc i (by omega)⟩⟩
theorem run_equalIn_func_nil {P : Program} (w : World) (d : Nat) (t : TypeId) {x1 x2 : Array TypeId} {x3 : Bool} (h : P.underlying t = some (.func x1 x2 x3)) (f : Fn) (cap lb : Array Value) : (Op.equalIn (d + 1) t (.func f cap lb) .nilFunc).run P w = .ok false w := by
  simp [Op.equalIn, run_underlying h]
theorem run_eql_func_nil {P : Program} (w : World) (t : TypeId) {x1 x2 : Array TypeId} {x3 : Bool} (h : P.underlying t = some (.func x1 x2 x3)) (f : Fn) (cap lb : Array Value) : (binOp .eql t (.func f cap lb) .nilFunc).run P w = .ok (.bool false) w := by
  simp only [binOp]
  simp [Op.equal, Op.maxDepth, run_equalIn_func_nil w 9999 t h f cap lb]
theorem eql_told (w : World) (g : Nat) : (binOp .eql 30 (.func (Fn.func 23) #[] #[.pointer (some ⟨g, 0, none⟩)]) .nilFunc).run Try.prog w = .ok (.bool false) w := run_eql_func_nil w _ Try.underlying30 _ _ _
/-- Between two rounds; w4: the world that knew the list. -/
def PsI (w4 : World) (PL : List Nat) (A2 : Option Addr) (c2 : Nat) (pre : List Nat) (W : World) : Prop :=
  ((Boxed W w4.heap.size 27 (.slice A2 PL.length c2) ∧ Boxed W (w4.heap.size + 1) 3 (.int .i64 (pre.length : Nat))) ∧ pre <+: PL) ∧ Below w4.heap.size w4 W
def PsX (PL : List Nat) (_ : Code) (pre : List Nat) (_ : World) : Prop := ¬ pre <+: PL
theorem PsI_own (w4 : World) (PL : List Nat) (A2 : Option Addr) (c2 Bn : Nat) (h : w4.heap.size + 1 < Bn) : OwnFrom Bn (PsI w4 PL A2 c2) := fun s W W' row hs hg hr =>
  ⟨⟨⟨heap_own (β := List Nat) w4.heap.size Bn (fun _ => .cells #[.slice A2 PL.length c2] 27 (0, 0)) (by omega) s W W' row hs.1.1.1 hg hr, heap_own (β := List Nat) (w4.heap.size + 1) Bn (fun s => .cells #[.int .i64 (s.length : Nat)] 3 (0, 0)) h s W W' row hs.1.1.2 hg hr⟩, hs.1.2⟩, ownFrom_below (β := List Nat) (Nat.le_refl _) (by omega) s W W' row hs.2 hg hr⟩
theorem PsX_own (PL : List Nat) (c : Code) (Bn : Nat) : OwnFrom Bn (PsX PL c) := ownFrom_pure _ _
theorem prefix_snoc {l pre : List Nat} {x : Nat} (h : pre <+: l) : pre ++ [x] <+: l ↔ (pre.length < l.length ∧ l.getD pre.length 0 = x) := by
  obtain ⟨t, rfl⟩ := h
  constructor
  · rintro ⟨u, hu⟩
    rw [List.append_assoc] at hu
    have := List.append_cancel_left hu
    subst this
    simp [List.getD]
  · rintro ⟨h1, h2⟩
    cases t with
    | nil => simp at h1
    | cons y t =>
      have : y = x := by simpa [List.getD] using h2
      subst this
      exact ⟨t, by simp⟩

set_option maxRecDepth 100000 in
set_option maxHeartbeats 8000000 in
theorem filterPasses_in (id : Int) (A : Option Addr) (n c : Nat) (fs : Nat → Int × Int) (w : World) (h : Fils w w.heap.size A n c fs) :
    CallsIn Fence.wide 9 Try.prog 3 #[.int .i64 id, .slice A n c] w fun e w' => e = .returned (.bool true) ∧ Below w.heap.size w w' := by
  have hcap := h.cap
  have hmax := h.max
  simp only [maxLen] at hmax
  have HH := Lib.hid h
  clear h
  refine callsIn_of_wp_marks Try.func3 rfl trivial ?_ rfl
  simp only [Try.ntmps3, List.size_toArray, List.length_cons, List.length_nil, Nat.reduceAdd, Nat.reduceSub, Array.replicate_succ, Array.replicate_zero, List.push_toArray, List.append_toArray, List.nil_append, List.cons_append]
  by_cases hn6 : n ≤ 6
  · have hX := HH.out.take (k := n) (by omega)
    have hXc := hX.cap
    have hXm := hX.max
    simp only [maxLen] at hXm
    have hB0 : Below w.heap.size w (w.alloc (.cells #[.bool false] 4)) := (Below.refl _ _).alloc (Nat.le_refl _) _
    have hR0 : Boxed (w.alloc (.cells #[.bool false] 4)) w.heap.size 4 (.bool false) := Boxed.new w _ _
    have hX0 := hX.step hB0
    have HX := Lib.hid hX0
    have HB0 := Lib.hid hB0
    have HR0 := Lib.hid hR0
    clear hX hB0 hR0 hX0
    gi_wp2_with fail
    generalize w.alloc (.cells #[.bool false] 4) = w0 at HX HB0 HR0 ⊢
    refine ⟨trivial, ?_⟩
    refine (callsIn_wide.2 (plain_any w0 A n c fs HX.out (by omega))).mono ?_
    rintro e w1 ⟨⟨A1, c1, rfl, hm1⟩, hb1⟩
    have hX1 := HX.out.step hb1
    have hB1 := HB0.out.trans (hb1.mono HB0.out.size)
    have hR1 : Boxed w1 w.heap.size 4 (.bool false) := (hb1.block _ HR0.out.lt).trans HR0.out
    have hm1c := hm1.cap
    have hm1m := hm1.max
    simp only [maxLen] at hm1m
    have HM1 := Lib.hid hm1
    have HX1 := Lib.hid hX1
    have HB1 := Lib.hid hB1
    have HR1 := Lib.hid hR1
    clear hm1 hX1 hB1 hR1 hb1 HX HB0 HR0
    gi_wp2_with fail
    refine ⟨trivial, ?_⟩
    refine (callsIn_wide.2 (pass_any w1 id A n c fs HX1.out)).mono ?_
    rintro e w2 ⟨rfl, hb2⟩
    have HB2 := Lib.hid hb2
    clear hb2
    gi_wp2_with fail
    refine ⟨trivial, ?_⟩
    refine (callsIn_wide.2 (refpass_any w2 id A1 n c1 fs (HM1.out.step HB2.out))).mono ?_
    rintro e w3 ⟨rfl, hb3⟩
    have hb23 : Below w1.heap.size w1 w3 := HB2.out.trans (hb3.mono HB2.out.size)
    have hX3 := HX1.out.step hb23
    have hM3 := HM1.out.step hb23
    have hB3 := HB1.out.trans (hb23.mono HB1.out.size)
    have hR3 : Boxed w3 w.heap.size 4 (.bool false) := (hb23.block _ HR1.out.lt).trans HR1.out
    have HX3 := Lib.hid hX3
    have HM3 := Lib.hid hM3
    have HB3 := Lib.hid hB3
    have HR3 := Lib.hid hR3
    clear hX3 hM3 hB3 hR3 hb3 hb23 HX1 HM1 HB1 HR1 HB2
    generalize anyF fs n id = o
    have ho : (o != o) = false := by simp
    gi_wp2_with fail
    refine ⟨trivial, ?_⟩
    refine (callsIn_wide.2 (refids_any w3 A1 n c1 fs HM3.out)).mono ?_
    rintro e w4 ⟨⟨A2, c2, rfl, hn4⟩, hb4⟩
    have hKl : (passL fs n 2048).length ≤ 2048 := passL_len fs n 2048
    have hX4 := HX3.out.step hb4
    have hB4 := HB3.out.trans (hb4.mono HB3.out.size)
    have hR4 : Boxed w4 w.heap.size 4 (.bool false) := (hb4.block _ HR3.out.lt).trans HR3.out
    have hn4c := hn4.cap
    have hn4m := hn4.max
    simp only [maxLen] at hn4m
    have HN4 := Lib.hid hn4
    have HX4 := Lib.hid hX4
    have HB4 := Lib.hid hB4
    have HR4 := Lib.hid hR4
    clear hn4 hX4 hB4 hR4 hb4 HX3 HM3 HB3 HR3 ho
    have hb45 : Below w4.heap.size w4 ((w4.alloc (.cells #[.slice A2 (passL fs n 2048).length c2] 27)).alloc (.cells #[.int .i64 0] 3)) := ((Below.refl _ _).alloc (Nat.le_refl _) _).alloc (by simp) _
    have hW4 : Boxed ((w4.alloc (.cells #[.slice A2 (passL fs n 2048).length c2] 27)).alloc (.cells #[.int .i64 0] 3)) w4.heap.size 27 (.slice A2 (passL fs n 2048).length c2) := (Boxed.new w4 _ _).alloc _
    have hC4 : Boxed ((w4.alloc (.cells #[.slice A2 (passL fs n 2048).length c2] 27)).alloc (.cells #[.int .i64 0] 3)) (w4.heap.size + 1) 3 (.int .i64 0) := by
      have := Boxed.new (w4.alloc (.cells #[.slice A2 (passL fs n 2048).length c2] 27)) 3 (.int .i64 0)
      simpa using this
    have HB45 := Lib.hid hb45
    have HW4 := Lib.hid hW4
    have HC4 := Lib.hid hC4
    clear hb45 hW4 hC4
    gi_wp2_with fail
    generalize (w4.alloc (.cells #[.slice A2 (passL fs n 2048).length c2] 27)).alloc (.cells #[.int .i64 0] 3) = w5 at HB45 HW4 HC4 ⊢
    refine ⟨trivial, ?_⟩
    refine (callsIn_wide.2 (ids_any w5 A n c fs (HX4.out.step HB45.out))).mono ?_
    rintro e w6 ⟨⟨rfl, hs6⟩, hb6⟩
    have hb46 : Below w4.heap.size w4 w6 := HB45.out.trans (hb6.mono HB45.out.size)
    have hX6 := HX4.out.step hb46
    have hN6 := HN4.out.step hb46
    have hB6 := HB4.out.trans (hb46.mono HB4.out.size)
    have hR6 : Boxed w6 w.heap.size 4 (.bool false) := (hb46.block _ HR4.out.lt).trans HR4.out
    have hW6 : Boxed w6 w4.heap.size 27 (.slice A2 (passL fs n 2048).length c2) := (hb6.block _ HW4.out.lt).trans HW4.out
    have hC6 : Boxed w6 (w4.heap.size + 1) 3 (.int .i64 0) := (hb6.block _ HC4.out.lt).trans HC4.out
    have hw4 : w.heap.size < w4.heap.size := HR4.out.lt
    generalize w5.heap.size = g at hs6
    have heq := eql_told
    have HS6 := Lib.hid hs6
    have hI6 : PsI w4 (passL fs n 2048) A2 c2 [] w6 := ⟨⟨⟨hW6, hC6⟩, List.nil_prefix⟩, hb46⟩
    have hX6' : Below w4.heap.size w4 w6 := hb46
    have hs46 : w4.heap.size + 1 < w6.heap.size := hC6.lt
    have HI6 := Lib.hid hI6
    clear hX6 hN6 hB6 hR6 hW6 hC6 hs6 hb46 hI6 hX6' hb6 HB45 HW4 HC4
    generalize hPL : passL fs n 2048 = PL at hKl HN4 HI6 ⊢
    have HPL := Lib.hid hPL
    clear hPL
    gi_wp2_with fail
    refine wpIn_rangeFunc_ownG rfl (by omega) (gf := 23) (lb := #[.pointer (some ⟨g, 0, none⟩)]) rfl trivial (enters_of Try.func23 (by kernel_rfl) rfl)
      (ids_stops 8 (by omega) g _ w6 HS6.out) (fun _ _ => trivial) (fun _ _ _ _ _ _ _ _ => trivial) (Below.refl _ _) (fun _ => rfl)
      (PsI w4 PL A2 c2) (PsX PL) (PsI_own w4 PL A2 c2 _ hs46) (fun c => PsX_own PL c _) HI6.out
      (fun x => { tmps := #[.int .i64 id, .slice A n c, undef, undef, .pointer (some ⟨w.heap.size, 0, none⟩), .slice A1 n c1, .pointer (some ⟨w4.heap.size, 0, none⟩), .pointer (some ⟨w4.heap.size + 1, 0, none⟩), .func (Fn.func 23) #[] #[.pointer (some ⟨g, 0, none⟩)], .int .i64 (x : Nat), .slice A n c, .slice A n c, .int .i64 n, .int .i64 n, .slice A n c, .slice A n c, .slice A1 n c1, .int .i64 id, .slice A n c, .bool o, .int .i64 id, .slice A1 n c1, .bool o, .bool false, .slice A1 n c1, .slice A2 PL.length c2, .slice A n c, .func (Fn.func 23) #[] #[.pointer (some ⟨g, 0, none⟩)], .func (Fn.func 23) #[] #[.pointer (some ⟨g, 0, none⟩)], .bool false, .func (Fn.func 23) #[] #[.pointer (some ⟨g, 0, none⟩)], .int .i64 (x : Nat), undef, undef, undef, undef, undef, undef, undef, undef, undef, undef, undef, undef, undef, undef, undef, undef, undef, undef, undef, undef, undef, undef, undef, undef, undef, undef, undef], defers := [] }) ?assign ?body ?done ?stop
    case assign =>
      intro lp x W K hK
      gi_wp2
      exact hK
    case body =>
      rintro lp pre x W ⟨⟨⟨hbw, hbc⟩, hpre⟩, hbel⟩ hlen
      have hR : Boxed W w.heap.size 4 (.bool false) := (hbel.block _ HR4.out.lt).trans HR4.out
      have c0 := hbw.cell
      have c1 := hbc.cell
      have c2' := hR.cell
      have f2 := hR.frozen
      have f1 := hbc.frozen
      have hiff := prefix_snoc (x := x) hpre
      have hpl := hpre.length_le
      have hln : ((pre ++ [x]).length : Int) = (pre.length : Int) + 1 := by simp
      have k2 := fun v => (KeepsOthers.setCell W ⟨w.heap.size, 0, none⟩ v).from w6.heap.size
      have k1 := fun v => (KeepsOthers.setCell W ⟨w4.heap.size + 1, 0, none⟩ v).from w6.heap.size
      have HLN := Lib.hid hln
      have HBC := Lib.hid hbc
      have HBW := Lib.hid hbw
      have HBEL := Lib.hid hbel
      have HIFF := Lib.hid hiff
      have K1 := Lib.hid k1
      have K2 := Lib.hid k2
      clear hbw hbc hbel hiff k1 k2 hln hR hlen hpre
      by_cases hlt : pre.length < PL.length
      · obtain ⟨b, off, rfl, hbb, hcc⟩ := (HN4.out.below HBEL.out).cells (by omega)
        have hcell := hcc pre.length hlt
        have hv : (PL.map fun q : Nat => (q : Int)).getD pre.length 0 = ((PL.getD pre.length 0 : Nat) : Int) := by simp [List.getD, List.getElem?_eq_getElem hlt]
        rw [hv] at hcell
        clear hcc hv
        have HIFF2 := Lib.hid (show pre ++ [x] <+: PL ↔ PL.getD pre.length 0 = x from HIFF.out.trans ⟨fun h => h.2, fun h => ⟨hlt, h⟩⟩)
        generalize PL.getD pre.length 0 = y at hcell HIFF2
        have hp0 : (0 : Int) ≤ (pre.length : Int) := by omega
        have hp1 : (pre.length : Int) < (PL.length : Int) := by omega
        by_cases hxy : y = x
        · subst hxy
          have t1 : ((y : Int) != (y : Int)) = false := by simp
          gi_wp2_with fail
          refine ⟨K1.out _, trivial, ⟨⟨?_, ?_⟩, HIFF2.out.2 (by first | trivial | rfl)⟩, HBEL.out.setCell (by simp) _⟩
          · exact HBW.out.other (by omega) _
          · rw [HLN.out]; exact HBC.out.set _
        · have t1 : ((x : Int) != (y : Int)) = true := by simp; omega
          gi_wp2_with fail
          exact ⟨K2.out _, fun hh => hxy (HIFF2.out.1 hh)⟩
      · gi_wp2_with fail
        exact ⟨K2.out _, fun hh => hlt (HIFF.out.1 hh).1⟩
    case stop =>
      rintro D cc pre W hD hSp hX hK
      have hSp2 : pre <+: PL := by have e := HPL.out; subst e; exact hSp
      exact absurd hSp2 hX
    case done =>
      rintro D ys W hD hys ⟨⟨⟨hbw, hbc⟩, _⟩, hbel⟩ hK
      have hys2 : ys = PL := by have e := HPL.out; subst e; exact hys
      subst hys2
      have hR : Boxed W w.heap.size 4 (.bool false) := (hbel.block _ HR4.out.lt).trans HR4.out
      have hXW := HX4.out.step hbel
      have hBW := HB4.out.trans (hbel.mono HB4.out.size)
      have hcnt := fun v (hv : Fils v v.heap.size A n c fs) => count_any v A n c fs hv
      have hsel : (selL (fun q => anyF fs n (q : Nat)) 2048).length = ys.length := by rw [← HPL.out]; rfl
      rw [hsel] at hcnt
      have c0 := hbw.cell
      have c1 := hbc.cell
      have c2' := hR.cell
      have f2 := hR.frozen
      have hD2 : w6.heap.size ≤ D := hD
      have HK := Lib.hid hK
      have HBW := Lib.hid hbw
      have HBC := Lib.hid hbc
      have HR := Lib.hid hR
      have HXW := Lib.hid hXW
      have HBL := Lib.hid hBW
      have HCN := Lib.hid hcnt
      have hd : ∀ wa, Below W.heap.size W wa → wa.cell? ⟨w4.heap.size, 0, none⟩ = some (.slice A2 ys.length c2) ∧ wa.cell? ⟨w4.heap.size + 1, 0, none⟩ = some (.int .i64 (ys.length : Nat)) ∧ wa.cell? ⟨w.heap.size, 0, none⟩ = some (.bool false) ∧ wa.frozen? ⟨w.heap.size, 0, none⟩ = false := fun wa hb =>
        ⟨(show Boxed wa w4.heap.size 27 (.slice A2 ys.length c2) from (hb.block _ hbw.lt).trans hbw).cell, (show Boxed wa (w4.heap.size + 1) 3 (.int .i64 (ys.length : Nat)) from (hb.block _ hbc.lt).trans hbc).cell,
          (show Boxed wa w.heap.size 4 (.bool false) from (hb.block _ hR.lt).trans hR).cell, (show Boxed wa w.heap.size 4 (.bool false) from (hb.block _ hR.lt).trans hR).frozen⟩
      have HDD := Lib.hid hd
      have hlv := fun wx (e : wx.heap = W.heap ∧ wx.os = W.os ∧ wx.tape = W.tape ∧ wx.output = W.output) => live_any wx
      clear hd hlv hbw hbc hK hR hXW hBW hcnt hsel hbel hys c0 c1 c2' f2
      gi_wp2_with fail
      refine wpIn_wide.2 ?_
      refine wp_region_noPanic ?_
      go_region_with (first
        | (go_at_call 12; refine (live_any _).mono ?_; rintro e wa ⟨rfl, hba⟩
           have hba' : Below W.heap.size W wa := ⟨hba.os, hba.tape, hba.output, hba.size, hba.block⟩
           obtain ⟨d0, d1, d2, d3⟩ := HDD.out wa hba'
           clear hba)
        | (go_at_call 13; refine (HCN.out _ (HXW.out.step hba')).mono ?_; rintro e wb ⟨rfl, hbb⟩
           obtain ⟨e0, e1, e2, e3⟩ := HDD.out wb (hba'.trans (hbb.mono hba'.size))))
      all_goals
        refine NoPanic.normal ?_
        have hbw1 : Below w.heap.size w (wb.setCell ⟨w.heap.size, 0, none⟩ (.bool true)) := (HBL.out.trans ((hba'.trans (hbb.mono hba'.size)).mono HBL.out.size)).setCell (by simp) _
        have hK1 : (wb.setCell ⟨w.heap.size, 0, none⟩ (.bool true)).heap[D]? = some (.deferred (some [])) := (Below.heap_setCell _ _ _ _ (by simp; omega)).trans (((hba'.trans (hbb.mono hba'.size)).block D (Array.getElem?_eq_some_iff.1 HK.out).1).trans HK.out)
        have hR1 : Boxed (wb.setCell ⟨w.heap.size, 0, none⟩ (.bool true)) w.heap.size 4 (.bool true) := Boxed.set _ (((hba'.trans (hbb.mono hba'.size)).block _ HR.out.lt).trans HR.out)
        have g1 := grownBy_putObj' (wb.setCell ⟨w.heap.size, 0, none⟩ (.bool true)) D (.deferred none)
        have c6 := (hR1.kept g1 (by simp; omega)).cell
        have hbw6 := hbw1.grown g1 hbw1.size (fun k e => by cases e; omega)
        have HK1 := Lib.hid hK1
        have C6 := Lib.hid c6
        have HB6 := Lib.hid hbw6
        clear hbw1 hK1 hR1 g1 c6 hbw6 hba' hbb e0 e1 e2 e3 d0 d1 d2 d3
        gi_wp2_with fail
        refine ⟨by simp, .inl ⟨_, _, rfl, run_takeDeferred HK1.out, ?_⟩⟩
        refine ⟨.bool true, ?_, rfl, HB6.out⟩
        have c6 := C6.out
        simp [results, Try.f3, go_sem, c6]
  · have hX := HH.out.take (k := 6) (by omega)
    have hXc := hX.cap
    have hXm := hX.max
    simp only [maxLen] at hXm
    have hB0 : Below w.heap.size w (w.alloc (.cells #[.bool false] 4)) := (Below.refl _ _).alloc (Nat.le_refl _) _
    have hR0 : Boxed (w.alloc (.cells #[.bool false] 4)) w.heap.size 4 (.bool false) := Boxed.new w _ _
    have hX0 := hX.step hB0
    have HX := Lib.hid hX0
    have HB0 := Lib.hid hB0
    have HR0 := Lib.hid hR0
    clear hX hB0 hR0 hX0
    gi_wp2_with fail
    generalize w.alloc (.cells #[.bool false] 4) = w0 at HX HB0 HR0 ⊢
    refine ⟨trivial, ?_⟩
    refine (callsIn_wide.2 (plain_any w0 A 6 c fs HX.out (by omega))).mono ?_
    rintro e w1 ⟨⟨A1, c1, rfl, hm1⟩, hb1⟩
    have hX1 := HX.out.step hb1
    have hB1 := HB0.out.trans (hb1.mono HB0.out.size)
    have hR1 : Boxed w1 w.heap.size 4 (.bool false) := (hb1.block _ HR0.out.lt).trans HR0.out
    have hm1c := hm1.cap
    have hm1m := hm1.max
    simp only [maxLen] at hm1m
    have HM1 := Lib.hid hm1
    have HX1 := Lib.hid hX1
    have HB1 := Lib.hid hB1
    have HR1 := Lib.hid hR1
    clear hm1 hX1 hB1 hR1 hb1 HX HB0 HR0
    gi_wp2_with fail
    refine ⟨trivial, ?_⟩
    refine (callsIn_wide.2 (pass_any w1 id A 6 c fs HX1.out)).mono ?_
    rintro e w2 ⟨rfl, hb2⟩
    have HB2 := Lib.hid hb2
    clear hb2
    gi_wp2_with fail
    refine ⟨trivial, ?_⟩
    refine (callsIn_wide.2 (refpass_any w2 id A1 6 c1 fs (HM1.out.step HB2.out))).mono ?_
    rintro e w3 ⟨rfl, hb3⟩
    have hb23 : Below w1.heap.size w1 w3 := HB2.out.trans (hb3.mono HB2.out.size)
    have hX3 := HX1.out.step hb23
    have hM3 := HM1.out.step hb23
    have hB3 := HB1.out.trans (hb23.mono HB1.out.size)
    have hR3 : Boxed w3 w.heap.size 4 (.bool false) := (hb23.block _ HR1.out.lt).trans HR1.out
    have HX3 := Lib.hid hX3
    have HM3 := Lib.hid hM3
    have HB3 := Lib.hid hB3
    have HR3 := Lib.hid hR3
    clear hX3 hM3 hB3 hR3 hb3 hb23 HX1 HM1 HB1 HR1 HB2
    generalize anyF fs 6 id = o
    have ho : (o != o) = false := by simp
    gi_wp2_with fail
    refine ⟨trivial, ?_⟩
    refine (callsIn_wide.2 (refids_any w3 A1 6 c1 fs HM3.out)).mono ?_
    rintro e w4 ⟨⟨A2, c2, rfl, hn4⟩, hb4⟩
    have hKl : (passL fs 6 2048).length ≤ 2048 := passL_len fs 6 2048
    have hX4 := HX3.out.step hb4
    have hB4 := HB3.out.trans (hb4.mono HB3.out.size)
    have hR4 : Boxed w4 w.heap.size 4 (.bool false) := (hb4.block _ HR3.out.lt).trans HR3.out
    have hn4c := hn4.cap
    have hn4m := hn4.max
    simp only [maxLen] at hn4m
    have HN4 := Lib.hid hn4
    have HX4 := Lib.hid hX4
    have HB4 := Lib.hid hB4
    have HR4 := Lib.hid hR4
    clear hn4 hX4 hB4 hR4 hb4 HX3 HM3 HB3 HR3 ho
    have hb45 : Below w4.heap.size w4 ((w4.alloc (.cells #[.slice A2 (passL fs 6 2048).length c2] 27)).alloc (.cells #[.int .i64 0] 3)) := ((Below.refl _ _).alloc (Nat.le_refl _) _).alloc (by simp) _
    have hW4 : Boxed ((w4.alloc (.cells #[.slice A2 (passL fs 6 2048).length c2] 27)).alloc (.cells #[.int .i64 0] 3)) w4.heap.size 27 (.slice A2 (passL fs 6 2048).length c2) := (Boxed.new w4 _ _).alloc _
    have hC4 : Boxed ((w4.alloc (.cells #[.slice A2 (passL fs 6 2048).length c2] 27)).alloc (.cells #[.int .i64 0] 3)) (w4.heap.size + 1) 3 (.int .i64 0) := by
      have := Boxed.new (w4.alloc (.cells #[.slice A2 (passL fs 6 2048).length c2] 27)) 3 (.int .i64 0)
      simpa using this
    have HB45 := Lib.hid hb45
    have HW4 := Lib.hid hW4
    have HC4 := Lib.hid hC4
    clear hb45 hW4 hC4
    gi_wp2_with fail
    generalize (w4.alloc (.cells #[.slice A2 (passL fs 6 2048).length c2] 27)).alloc (.cells #[.int .i64 0] 3) = w5 at HB45 HW4 HC4 ⊢
    refine ⟨trivial, ?_⟩
    refine (callsIn_wide.2 (ids_any w5 A 6 c fs (HX4.out.step HB45.out))).mono ?_
    rintro e w6 ⟨⟨rfl, hs6⟩, hb6⟩
    have hb46 : Below w4.heap.size w4 w6 := HB45.out.trans (hb6.mono HB45.out.size)
    have hX6 := HX4.out.step hb46
    have hN6 := HN4.out.step hb46
    have hB6 := HB4.out.trans (hb46.mono HB4.out.size)
    have hR6 : Boxed w6 w.heap.size 4 (.bool false) := (hb46.block _ HR4.out.lt).trans HR4.out
    have hW6 : Boxed w6 w4.heap.size 27 (.slice A2 (passL fs 6 2048).length c2) := (hb6.block _ HW4.out.lt).trans HW4.out
    have hC6 : Boxed w6 (w4.heap.size + 1) 3 (.int .i64 0) := (hb6.block _ HC4.out.lt).trans HC4.out
    have hw4 : w.heap.size < w4.heap.size := HR4.out.lt
    generalize w5.heap.size = g at hs6
    have heq := eql_told
    have HS6 := Lib.hid hs6
    have hI6 : PsI w4 (passL fs 6 2048) A2 c2 [] w6 := ⟨⟨⟨hW6, hC6⟩, List.nil_prefix⟩, hb46⟩
    have hX6' : Below w4.heap.size w4 w6 := hb46
    have hs46 : w4.heap.size + 1 < w6.heap.size := hC6.lt
    have HI6 := Lib.hid hI6
    clear hX6 hN6 hB6 hR6 hW6 hC6 hs6 hb46 hI6 hX6' hb6 HB45 HW4 HC4
    generalize hPL : passL fs 6 2048 = PL at hKl HN4 HI6 ⊢
    have HPL := Lib.hid hPL
    clear hPL
    gi_wp2_with fail
    refine wpIn_rangeFunc_ownG rfl (by omega) (gf := 23) (lb := #[.pointer (some ⟨g, 0, none⟩)]) rfl trivial (enters_of Try.func23 (by kernel_rfl) rfl)
      (ids_stops 8 (by omega) g _ w6 HS6.out) (fun _ _ => trivial) (fun _ _ _ _ _ _ _ _ => trivial) (Below.refl _ _) (fun _ => rfl)
      (PsI w4 PL A2 c2) (PsX PL) (PsI_own w4 PL A2 c2 _ hs46) (fun c => PsX_own PL c _) HI6.out
      (fun x => { tmps := #[.int .i64 id, .slice A 6 c, undef, undef, .pointer (some ⟨w.heap.size, 0, none⟩), .slice A1 6 c1, .pointer (some ⟨w4.heap.size, 0, none⟩), .pointer (some ⟨w4.heap.size + 1, 0, none⟩), .func (Fn.func 23) #[] #[.pointer (some ⟨g, 0, none⟩)], .int .i64 (x : Nat), .slice A n c, .slice A n c, .int .i64 n, .int .i64 6, .slice A 6 c, .slice A 6 c, .slice A1 6 c1, .int .i64 id, .slice A 6 c, .bool o, .int .i64 id, .slice A1 6 c1, .bool o, .bool false, .slice A1 6 c1, .slice A2 PL.length c2, .slice A 6 c, .func (Fn.func 23) #[] #[.pointer (some ⟨g, 0, none⟩)], .func (Fn.func 23) #[] #[.pointer (some ⟨g, 0, none⟩)], .bool false, .func (Fn.func 23) #[] #[.pointer (some ⟨g, 0, none⟩)], .int .i64 (x : Nat), undef, undef, undef, undef, undef, undef, undef, undef, undef, undef, undef, undef, undef, undef, undef, undef, undef, undef, undef, undef, undef, undef, undef, undef, undef, undef, undef], defers := [] }) ?assign ?body ?done ?stop
    case assign =>
      intro lp x W K hK
      gi_wp2
      exact hK
    case body =>
      rintro lp pre x W ⟨⟨⟨hbw, hbc⟩, hpre⟩, hbel⟩ hlen
      have hR : Boxed W w.heap.size 4 (.bool false) := (hbel.block _ HR4.out.lt).trans HR4.out
      have c0 := hbw.cell
      have c1 := hbc.cell
      have c2' := hR.cell
      have f2 := hR.frozen
      have f1 := hbc.frozen
      have hiff := prefix_snoc (x := x) hpre
      have hpl := hpre.length_le
      have hln : ((pre ++ [x]).length : Int) = (pre.length : Int) + 1 := by simp
      have k2 := fun v => (KeepsOthers.setCell W ⟨w.heap.size, 0, none⟩ v).from w6.heap.size
      have k1 := fun v => (KeepsOthers.setCell W ⟨w4.heap.size + 1, 0, none⟩ v).from w6.heap.size
      have HLN := Lib.hid hln
      have HBC := Lib.hid hbc
      have HBW := Lib.hid hbw
      have HBEL := Lib.hid hbel
      have HIFF := Lib.hid hiff
      have K1 := Lib.hid k1
      have K2 := Lib.hid k2
      clear hbw hbc hbel hiff k1 k2 hln hR hlen hpre
      by_cases hlt : pre.length < PL.length
      · obtain ⟨b, off, rfl, hbb, hcc⟩ := (HN4.out.below HBEL.out).cells (by omega)
        have hcell := hcc pre.length hlt
        have hv : (PL.map fun q : Nat => (q : Int)).getD pre.length 0 = ((PL.getD pre.length 0 : Nat) : Int) := by simp [List.getD, List.getElem?_eq_getElem hlt]
        rw [hv] at hcell
        clear hcc hv
        have HIFF2 := Lib.hid (show pre ++ [x] <+: PL ↔ PL.getD pre.length 0 = x from HIFF.out.trans ⟨fun h => h.2, fun h => ⟨hlt, h⟩⟩)
        generalize PL.getD pre.length 0 = y at hcell HIFF2
        have hp0 : (0 : Int) ≤ (pre.length : Int) := by omega
        have hp1 : (pre.length : Int) < (PL.length : Int) := by omega
        by_cases hxy : y = x
        · subst hxy
          have t1 : ((y : Int) != (y : Int)) = false := by simp
          gi_wp2_with fail
          refine ⟨K1.out _, trivial, ⟨⟨?_, ?_⟩, HIFF2.out.2 (by first | trivial | rfl)⟩, HBEL.out.setCell (by simp) _⟩
          · exact HBW.out.other (by omega) _
          · rw [HLN.out]; exact HBC.out.set _
        · have t1 : ((x : Int) != (y : Int)) = true := by simp; omega
          gi_wp2_with fail
          exact ⟨K2.out _, fun hh => hxy (HIFF2.out.1 hh)⟩
      · gi_wp2_with fail
        exact ⟨K2.out _, fun hh => hlt (HIFF.out.1 hh).1⟩
    case stop =>
      rintro D cc pre W hD hSp hX hK
      have hSp2 : pre <+: PL := by have e := HPL.out; subst e; exact hSp
      exact absurd hSp2 hX
    case done =>
      rintro D ys W hD hys ⟨⟨⟨hbw, hbc⟩, _⟩, hbel⟩ hK
      have hys2 : ys = PL := by have e := HPL.out; subst e; exact hys
      subst hys2
      have hR : Boxed W w.heap.size 4 (.bool false) := (hbel.block _ HR4.out.lt).trans HR4.out
      have hXW := HX4.out.step hbel
      have hBW := HB4.out.trans (hbel.mono HB4.out.size)
      have hcnt := fun v (hv : Fils v v.heap.size A 6 c fs) => count_any v A 6 c fs hv
      have hsel : (selL (fun q => anyF fs 6 (q : Nat)) 2048).length = ys.length := by rw [← HPL.out]; rfl
      rw [hsel] at hcnt
      have c0 := hbw.cell
      have c1 := hbc.cell
      have c2' := hR.cell
      have f2 := hR.frozen
      have hD2 : w6.heap.size ≤ D := hD
      have HK := Lib.hid hK
      have HBW := Lib.hid hbw
      have HBC := Lib.hid hbc
      have HR := Lib.hid hR
      have HXW := Lib.hid hXW
      have HBL := Lib.hid hBW
      have HCN := Lib.hid hcnt
      have hd : ∀ wa, Below W.heap.size W wa → wa.cell? ⟨w4.heap.size, 0, none⟩ = some (.slice A2 ys.length c2) ∧ wa.cell? ⟨w4.heap.size + 1, 0, none⟩ = some (.int .i64 (ys.length : Nat)) ∧ wa.cell? ⟨w.heap.size, 0, none⟩ = some (.bool false) ∧ wa.frozen? ⟨w.heap.size, 0, none⟩ = false := fun wa hb =>
        ⟨(show Boxed wa w4.heap.size 27 (.slice A2 ys.length c2) from (hb.block _ hbw.lt).trans hbw).cell, (show Boxed wa (w4.heap.size + 1) 3 (.int .i64 (ys.length : Nat)) from (hb.block _ hbc.lt).trans hbc).cell,
          (show Boxed wa w.heap.size 4 (.bool false) from (hb.block _ hR.lt).trans hR).cell, (show Boxed wa w.heap.size 4 (.bool false) from (hb.block _ hR.lt).trans hR).frozen⟩
      have HDD := Lib.hid hd
      have hlv := fun wx (e : wx.heap = W.heap ∧ wx.os = W.os ∧ wx.tape = W.tape ∧ wx.output = W.output) => live_any wx
      clear hd hlv hbw hbc hK hR hXW hBW hcnt hsel hbel hys c0 c1 c2' f2
      gi_wp2_with fail
      refine wpIn_wide.2 ?_
      refine wp_region_noPanic ?_
      go_region_with (first
        | (go_at_call 12; refine (live_any _).mono ?_; rintro e wa ⟨rfl, hba⟩
           have hba' : Below W.heap.size W wa := ⟨hba.os, hba.tape, hba.output, hba.size, hba.block⟩
           obtain ⟨d0, d1, d2, d3⟩ := HDD.out wa hba'
           clear hba)
        | (go_at_call 13; refine (HCN.out _ (HXW.out.step hba')).mono ?_; rintro e wb ⟨rfl, hbb⟩
           obtain ⟨e0, e1, e2, e3⟩ := HDD.out wb (hba'.trans (hbb.mono hba'.size))))
      all_goals
        refine NoPanic.normal ?_
        have hbw1 : Below w.heap.size w (wb.setCell ⟨w.heap.size, 0, none⟩ (.bool true)) := (HBL.out.trans ((hba'.trans (hbb.mono hba'.size)).mono HBL.out.size)).setCell (by simp) _
        have hK1 : (wb.setCell ⟨w.heap.size, 0, none⟩ (.bool true)).heap[D]? = some (.deferred (some [])) := (Below.heap_setCell _ _ _ _ (by simp; omega)).trans (((hba'.trans (hbb.mono hba'.size)).block D (Array.getElem?_eq_some_iff.1 HK.out).1).trans HK.out)
        have hR1 : Boxed (wb.setCell ⟨w.heap.size, 0, none⟩ (.bool true)) w.heap.size 4 (.bool true) := Boxed.set _ (((hba'.trans (hbb.mono hba'.size)).block _ HR.out.lt).trans HR.out)
        have g1 := grownBy_putObj' (wb.setCell ⟨w.heap.size, 0, none⟩ (.bool true)) D (.deferred none)
        have c6 := (hR1.kept g1 (by simp; omega)).cell
        have hbw6 := hbw1.grown g1 hbw1.size (fun k e => by cases e; omega)
        have HK1 := Lib.hid hK1
        have C6 := Lib.hid c6
        have HB6 := Lib.hid hbw6
        clear hbw1 hK1 hR1 g1 c6 hbw6 hba' hbb e0 e1 e2 e3 d0 d1 d2 d3
        gi_wp2_with fail
        refine ⟨by simp, .inl ⟨_, _, rfl, run_takeDeferred HK1.out, ?_⟩⟩
        refine ⟨.bool true, ?_, rfl, HB6.out⟩
        have c6 := C6.out
        simp [results, Try.f3, go_sem, c6]
end Go.Proofs.Ytjofgomnnpeepaa
