/- The statement BitsRuns: the runs are together the row, and no two neighbours have the same bit; who stops has seen the first ones: every row, and number. No conditions. -/
import Derived.Test.YtabbjgfladbbiaaBitsR
import Derived.Test.YtabbjgfladbbiaaBitsE
import Derived.Test.YtabbjgfladbbiaaRows
import Derived.RangeFuncBox
import Derived.ChangeOld
import Derived.ShutString
namespace Go.Proofs.Ytabbjgfladbbiaa.bitsRuns
open Go.ChangeShapes Go.WideShapes Go.ChangeAt Go.RowKit Go.Shelf
attribute [local go_sem] Oper.semAt_some
set_option linter.unusedVariables false

/-- The six boxes of the statement's own variables, from block B on. -/
structure Bx (B : Nat) (W : World) (S : Value) (most at_ last seen : Int) (rb : Bool) : Prop where
  b0 : Boxed W B 23 S
  b1 : Boxed W (B + 1) 5 (.int .u8 most)
  b2 : Boxed W (B + 1 + 1) 4 (.bool rb)
  b3 : Boxed W (B + 1 + 1 + 1) 3 (.int .i64 at_)
  b4 : Boxed W (B + 1 + 1 + 1 + 1) 5 (.int .u8 last)
  b5 : Boxed W (B + 1 + 1 + 1 + 1 + 1) 3 (.int .i64 seen)
theorem bx_own {β : Type} (B : Nat) (S : Value) (most : Int) (rb : Bool) (at_ last seen : β → Int) : Own (fun (s : β) W => Bx B W S most (at_ s) (last s) (seen s) rb) := fun s X Y row h hg hr =>
  ⟨boxed_own B _ (fun _ : β => S) s X Y row h.b0 hg hr, boxed_own _ _ (fun _ : β => Value.int .u8 most) s X Y row h.b1 hg hr, boxed_own _ _ (fun _ : β => Value.bool rb) s X Y row h.b2 hg hr, boxed_own _ _ (fun s : β => Value.int .i64 (at_ s)) s X Y row h.b3 hg hr, boxed_own _ _ (fun s : β => Value.int .u8 (last s)) s X Y row h.b4 hg hr, boxed_own _ _ (fun s : β => Value.int .i64 (seen s)) s X Y row h.b5 hg hr⟩
theorem Bx.below {B : Nat} {W W' : World} {S : Value} {most at_ last seen : Int} {rb : Bool} (h : Bx B W S most at_ last seen rb) (hb : Below W.heap.size W W') : Bx B W' S most at_ last seen rb :=
  ⟨(hb.block _ h.b0.lt).trans h.b0, (hb.block _ h.b1.lt).trans h.b1, (hb.block _ h.b2.lt).trans h.b2, (hb.block _ h.b3.lt).trans h.b3, (hb.block _ h.b4.lt).trans h.b4, (hb.block _ h.b5.lt).trans h.b5⟩
theorem bx_start (w : World) (S : Value) (most : Int) :
    Bx w.heap.size ((((((w.alloc (Obj.cells #[S] 23)).alloc (Obj.cells #[Value.int IntKind.u8 most] 5)).alloc (Obj.cells #[Value.bool false] 4)).alloc (Obj.cells #[Value.int IntKind.i64 0] 3)).alloc (Obj.cells #[Value.int IntKind.u8 2] 5)).alloc (Obj.cells #[Value.int IntKind.i64 0] 3)) S most 0 2 0 false := by
  have a0 := Boxed.new w 23 S
  have a1 := Boxed.new (w.alloc (Obj.cells #[S] 23)) 5 (.int .u8 most)
  have a2 := Boxed.new ((w.alloc (Obj.cells #[S] 23)).alloc (Obj.cells #[Value.int IntKind.u8 most] 5)) 4 (.bool false)
  have a3 := Boxed.new (((w.alloc (Obj.cells #[S] 23)).alloc (Obj.cells #[Value.int IntKind.u8 most] 5)).alloc (Obj.cells #[Value.bool false] 4)) 3 (.int .i64 0)
  have a4 := Boxed.new ((((w.alloc (Obj.cells #[S] 23)).alloc (Obj.cells #[Value.int IntKind.u8 most] 5)).alloc (Obj.cells #[Value.bool false] 4)).alloc (Obj.cells #[Value.int IntKind.i64 0] 3)) 5 (.int .u8 2)
  have a5 := Boxed.new (((((w.alloc (Obj.cells #[S] 23)).alloc (Obj.cells #[Value.int IntKind.u8 most] 5)).alloc (Obj.cells #[Value.bool false] 4)).alloc (Obj.cells #[Value.int IntKind.i64 0] 3)).alloc (Obj.cells #[Value.int IntKind.u8 2] 5)) 3 (.int .i64 0)
  simp only [World.size_alloc] at a1 a2 a3 a4 a5
  exact ⟨((((a0.alloc _).alloc _).alloc _).alloc _).alloc _, (((a1.alloc _).alloc _).alloc _).alloc _, ((a2.alloc _).alloc _).alloc _, (a3.alloc _).alloc _, a4.alloc _, a5⟩
/-- A store into one block leaves the others. -/
theorem heap_other (W : World) (a : Addr) (v : Value) (k : Nat) (h : ¬ k = a.block) : (W.setCell a v).heap[k]? = W.heap[k]? := Below.heap_setCell W a v k h
theorem keepR_set {gb gr : Nat} (W : World) (k : Nat) (v : Value) (h1 : ¬ gb = k) (h2 : ¬ gr = k) : KeepR gb gr W (W.setCell ⟨k, 0, none⟩ v) := ⟨heap_other _ _ _ _ h1, heap_other _ _ _ _ h2, by simp⟩
theorem keepR_refl {gb gr : Nat} (W : World) : KeepR gb gr W W := ⟨rfl, rfl, Nat.le_refl _⟩
theorem def_own {β : Type} (D Bn : Nat) (o : Obj) (h : D < Bn) : OwnFrom Bn (fun (_ : β) W => W.heap[D]? = some o) := fun s W W' row hs hg hr => (hg.block D (Array.getElem?_eq_some_iff.1 hs).1 (fun e => by have := (hr D e.symm).1; omega)).trans hs

theorem run_equalIn_func_nil {P : Program} (w : World) (d : Nat) (t : TypeId) {x1 x2 : Array TypeId} {x3 : Bool} (h : P.underlying t = some (.func x1 x2 x3)) (f : Fn) (cap lb : Array Value) : (Op.equalIn (d + 1) t (.func f cap lb) .nilFunc).run P w = .ok false w := by
  simp [Op.equalIn, run_underlying h]
theorem run_eql_func_nil {P : Program} (w : World) (t : TypeId) {x1 x2 : Array TypeId} {x3 : Bool} (h : P.underlying t = some (.func x1 x2 x3)) (f : Fn) (cap lb : Array Value) : (binOp .eql t (.func f cap lb) .nilFunc).run P w = .ok (.bool false) w := by
  simp only [binOp]
  simp [Op.equal, Op.maxDepth, run_equalIn_func_nil w 9999 t h f cap lb]
theorem eql_told (w : World) (g : Nat) : (binOp .eql 37 (.func (Fn.func 30) #[] #[.pointer (some ⟨g, 0, none⟩)]) .nilFunc).run Try.prog w = .ok (.bool false) w := run_eql_func_nil w _ Try.underlying37 _ _ _

/-- Between two runs. -/
def I1 (w : World) (S : Value) (most : Int) (R : List Int) (pre : List Elt) (W : World) : Prop := (Bx w.heap.size W S most (posOf pre) (lastOf pre) 0 false ∧ Fit R pre) ∧ Below w.heap.size w W
def X1 (R : List Int) (c : Code) (pre : List Elt) (_ : World) : Prop := ¬ Fit R pre
theorem I1_own (w : World) (S : Value) (most : Int) (R : List Int) (Bn : Nat) (h : w.heap.size ≤ Bn) : OwnFrom Bn (I1 w S most R) :=
  OwnFrom.and (OwnFrom.and ((bx_own w.heap.size S most false posOf lastOf (fun _ => 0)).from _) (ownFrom_pure _ _)) (ownFrom_below (Nat.le_refl _) h)
def I2 (w : World) (S : Value) (most at_ last : Int) (D : Nat) (pre : List Elt) (W : World) : Prop := ((Bx w.heap.size W S most at_ last pre.length false ∧ (pre.length : Int) ≤ most) ∧ W.heap[D]? = some (.deferred (some []))) ∧ Below w.heap.size w W
def X2 (w : World) (S : Value) (most at_ last : Int) (D : Nat) (c : Code) (pre : List Elt) (W : World) : Prop := ((Bx w.heap.size W S most at_ last most false ∧ c = .exit 4) ∧ W.heap[D]? = some (.deferred (some []))) ∧ Below w.heap.size w W
theorem I2_own (w : World) (S : Value) (most at_ last : Int) (D Bn : Nat) (h : w.heap.size ≤ Bn) (hD : D < Bn) : OwnFrom Bn (I2 w S most at_ last D) :=
  OwnFrom.and (OwnFrom.and (OwnFrom.and ((bx_own w.heap.size S most false (fun _ => at_) (fun _ => last) (fun p : List Elt => (p.length : Int))).from _) (ownFrom_pure _ _)) (def_own D _ _ hD)) (ownFrom_below (Nat.le_refl _) h)
theorem X2_own (w : World) (S : Value) (most at_ last : Int) (D Bn : Nat) (h : w.heap.size ≤ Bn) (hD : D < Bn) (c : Code) : OwnFrom Bn (X2 w S most at_ last D c) :=
  OwnFrom.and (OwnFrom.and (OwnFrom.and ((bx_own w.heap.size S most false (fun _ => at_) (fun _ => last) (fun _ : List Elt => most)).from _) (ownFrom_pure _ _)) (def_own D _ _ hD)) (ownFrom_below (Nat.le_refl _) h)

set_option maxRecDepth 100000 in
set_option maxHeartbeats 8000000 in
theorem core (A : Option Addr) (len c : Nat) (l : List Int) (most : Int) (w : World) (h : Byt w w.heap.size A len c l) (hm : 0 ≤ most ∧ most ≤ 255) (hlen : len ≤ 140737488351232) :
    CallsIn Fence.wide 9 Try.prog 6 #[.slice A len c, .int .u8 most] w fun e w' => e = .returned (.bool true) ∧ Below w.heap.size w w' := by
  have hR : (pl l).length = len := by rw [pl_len, h.len]
  have hbits := pl_bits l
  have hget : ∀ j, j < len → (pl l).getD j 0 = l.getD j 0 % 2 := fun j hj => getD_map (f := (· % 2)) (by rw [h.len]; exact hj)
  have hruns := fun (v : World) (h : Byt v v.heap.size A len c l) => runs_any v A len c l h (by omega)
  have hbx0 := bx_start w (.slice A len c) most
  have hb0 : Below w.heap.size w ((((((w.alloc (Obj.cells #[Value.slice A len c] 23)).alloc (Obj.cells #[Value.int IntKind.u8 most] 5)).alloc (Obj.cells #[Value.bool false] 4)).alloc (Obj.cells #[Value.int IntKind.i64 0] 3)).alloc (Obj.cells #[Value.int IntKind.u8 2] 5)).alloc (Obj.cells #[Value.int IntKind.i64 0] 3)) := ((((((Below.refl _ _).alloc (Nat.le_refl _) _).alloc (by simp) _).alloc (by simp; omega) _).alloc (by simp; omega) _).alloc (by simp; omega) _).alloc (by simp; omega) _
  have hsz : ((((((w.alloc (Obj.cells #[Value.slice A len c] 23)).alloc (Obj.cells #[Value.int IntKind.u8 most] 5)).alloc (Obj.cells #[Value.bool false] 4)).alloc (Obj.cells #[Value.int IntKind.i64 0] 3)).alloc (Obj.cells #[Value.int IntKind.u8 2] 5)).alloc (Obj.cells #[Value.int IntKind.i64 0] 3)).heap.size = w.heap.size + 6 := by simp
  generalize pl l = R at hR hbits hget hruns
  have HR := Lib.hid hR
  have HBITS := Lib.hid hbits
  have HGET := Lib.hid hget
  have HRUNS := Lib.hid hruns
  have HBX0 := Lib.hid hbx0
  have HB0 := Lib.hid hb0
  have HSZ := Lib.hid hsz
  have HH := Lib.hid h
  have hcap := h.cap
  have hmax := h.max
  simp only [maxLen] at hmax
  obtain ⟨hm0, hm1⟩ := hm
  clear hR hbits hget hruns hbx0 hb0 hsz h
  refine callsIn_of_wp_marks Try.func6 rfl trivial ?_ rfl
  simp only [Try.ntmps6, List.size_toArray, List.length_cons, List.length_nil, Nat.reduceAdd, Nat.reduceSub, Array.replicate_succ, Array.replicate_zero, List.push_toArray, List.append_toArray, List.nil_append, List.cons_append]
  gi_wp2_with fail
  generalize ((((((w.alloc (Obj.cells #[Value.slice A len c] 23)).alloc (Obj.cells #[Value.int IntKind.u8 most] 5)).alloc (Obj.cells #[Value.bool false] 4)).alloc (Obj.cells #[Value.int IntKind.i64 0] 3)).alloc (Obj.cells #[Value.int IntKind.u8 2] 5)).alloc (Obj.cells #[Value.int IntKind.i64 0] 3)) = w0 at HBX0 HB0 HSZ
  refine ⟨trivial, ?_⟩
  refine (callsIn_wide.2 (HRUNS.out _ (HH.out.step HB0.out))).mono ?_
  rintro e w1 ⟨gb, gr, rfl, hgb0, hgr0, hgb, hgr, hA, hb1⟩
  have hbx1 := HBX0.out.below hb1
  have hs1 := HB0.out.trans (hb1.mono HB0.out.size)
  have hgb6 : w.heap.size + 6 ≤ gb := by rw [← HSZ.out]; exact hgb0
  have hgr6 : w.heap.size + 6 ≤ gr := by rw [← HSZ.out]; exact hgr0
  have hI : I1 w (.slice A len c) most R [] w1 := ⟨⟨hbx1, .nil⟩, hs1⟩
  have HA := Lib.hid hA
  clear hA hbx1
  have heq := eql_told
  gi_wp2_with fail
  refine wpIn_rangeFunc_ownG rfl (by omega) (gf := 30) (lb := #[.pointer (some ⟨gb, 0, none⟩)]) rfl trivial (enters_of Try.func30 (by kernel_rfl) rfl)
    (iter_stops 8 (by omega) gb gr len R HR.out HBITS.out (by omega) w1 hgb hgr HA.out) keepR_t (keepR_b hgb hgr) (Below.refl _ _) (fun _ => rfl)
    (I1 w (.slice A len c) most R) (X1 R) (I1_own w _ _ _ _ hs1.size) (fun _ => ownFrom_pure _ _) hI
    (fun x => { tmps := #[.slice A len c, .int .u8 most, .pointer (some ⟨w.heap.size, 0, none⟩), .pointer (some ⟨w.heap.size + 1, 0, none⟩), .pointer (some ⟨w.heap.size + 1 + 1, 0, none⟩), .pointer (some ⟨w.heap.size + 1 + 1 + 1, 0, none⟩), .pointer (some ⟨w.heap.size + 1 + 1 + 1 + 1, 0, none⟩), .pointer (some ⟨w.heap.size + 1 + 1 + 1 + 1 + 1, 0, none⟩), .func (Fn.func 30) #[] #[.pointer (some ⟨gb, 0, none⟩)], .int .u8 x.1, .int .i64 x.2, undef, undef, .slice A len c, .func (Fn.func 30) #[] #[.pointer (some ⟨gb, 0, none⟩)], .func (Fn.func 30) #[] #[.pointer (some ⟨gb, 0, none⟩)], .bool false, .func (Fn.func 30) #[] #[.pointer (some ⟨gb, 0, none⟩)], .int .u8 x.1, .int .i64 x.2, undef, undef, undef, undef, undef, undef, undef, undef, undef, undef, undef, undef, undef, undef, undef, undef, undef, undef, undef, undef, undef, undef, undef, undef, undef, undef, undef, undef, undef, undef, undef, undef, undef, undef, undef, undef, undef, undef, undef, undef, undef, undef, undef, undef, undef, undef, undef, undef, undef, undef, undef, undef, undef, undef, undef, undef, undef, undef, undef, undef, undef, undef, undef], defers := [] }) ?assign ?body ?done ?stop
  case assign =>
    intro lp x W K hK
    gi_wp2
    exact hK
  case body =>
    rintro lp pre ⟨q, m⟩ W ⟨⟨hbx, hfit⟩, hbw⟩ _
    have hp := hfit.pos
    have hlast : okx R (posOf pre) (lastOf pre) (q, m) ∨ ¬ okx R (posOf pre) (lastOf pre) (q, m) := Classical.em _
    have hno : ¬ okx R (posOf pre) (lastOf pre) (q, m) → ¬ Fit R (pre ++ [(q, m)]) := fun h1 h2 => h1 h2.last.1
    have hpos1 := posOf_snoc pre (q, m)
    have hlast1 := lastOf_snoc pre (q, m)
    have hyes : okx R (posOf pre) (lastOf pre) (q, m) → Fit R (pre ++ [(q, m)]) := fun h => .snoc pre _ hfit h
    have hlR := HR.out
    obtain ⟨p, hpp⟩ : ∃ p : Nat, posOf pre = p := ⟨(posOf pre).toNat, by omega⟩
    rw [hpp] at hp hbx hno hyes hpos1
    simp only at hpos1 hlast1
    have hokdef : okx R p (lastOf pre) (q, m) ↔ (1 ≤ m ∧ m ≤ len - p ∧ ¬ q = lastOf pre ∧ q ≤ 1 ∧ ∀ i : Nat, (i : Int) < m → R.getD (p + i) 0 = q) := by
      unfold okx; rw [hlR, Int.toNat_natCast]
    rw [hokdef] at hno hyes
    generalize lastOf pre = z at hbx hno hyes
    have hpl : p ≤ len := by omega
    have c0 := hbx.b0.cell
    have c3 := hbx.b3.cell
    have c4 := hbx.b4.cell
    have c2 := hbx.b2.cell
    have f2 := hbx.b2.frozen
    have f3 := hbx.b3.frozen
    have f4 := hbx.b4.frozen
    have HBX := Lib.hid hbx
    have HNO := Lib.hid hno
    have HYES := Lib.hid hyes
    have HP1 := Lib.hid hpos1
    have HL1 := Lib.hid hlast1
    have k2 := fun v => (KeepsOthers.setCell W ⟨w.heap.size + 1 + 1, 0, none⟩ v).from w1.heap.size
    have K2 := Lib.hid k2
    clear hlast hno hyes hfit hpos1 hlast1 hokdef hp hpp hbx hlR k2
    by_cases h1 : m < 1
    · gi_wp2
      exact ⟨K2.out _, HNO.out (fun h => by omega)⟩
    · by_cases h2 : (len : Int) - (p : Int) < m
      · gi_wp2
        exact ⟨K2.out _, HNO.out (fun h => by omega)⟩
      · by_cases h3 : q = z
        · have t3 : (q == z) = true := by simp [h3]
          have H3 := Lib.hid h3
          clear h3
          gi_wp2
          exact ⟨K2.out _, HNO.out (fun h => h.2.2.1 H3.out)⟩
        · have t3 : (q == z) = false := by simp [h3]
          have H3 := Lib.hid h3
          clear h3
          by_cases h4 : 1 < q
          · gi_wp2
            exact ⟨K2.out _, HNO.out (fun h => by have := h.2.2.2.1; omega)⟩
          · obtain ⟨M, rfl⟩ : ∃ M : Nat, m = M := ⟨m.toNat, by omega⟩
            have hMl : p + M ≤ len := by omega
            have hM1 : 1 ≤ M := by omega
            have hBW := HH.out.below hbw
            obtain ⟨b, off, rfl, hbb, hcb⟩ := hBW.cells (by omega)
            have HCB := Lib.hid hcb
            clear hBW hcb
            gi_wp2_with fail
            gi_loop [11] (fun i => ∃ j : Nat, j ≤ M ∧ i = .int .i64 j ∧ Hid (∀ t : Nat, t < j → R.getD (p + t) 0 = q)) (fun i => M - (intOf i).toNat)
            case atStart => exact ⟨0, Nat.zero_le _, rfl, fun t ht => absurd ht (by omega)⟩
            case round =>
              obtain ⟨j, hj, rfl, hall⟩ := hrel
              by_cases hlt : j < M
              · have hcell := HCB.out (p + j) (by omega)
                have hrg := HH.out.range (p + j)
                have hgj := HGET.out (p + j) (by omega)
                generalize l.getD (p + j) 0 = u at hcell hrg hgj
                obtain ⟨hu0, hu1⟩ := hrg
                have g2 : ((p : Int) + (j : Int)).toNat = p + j := by omega
                have g3 : p + j < len := by omega
                by_cases hq : u % 2 = q
                · have t1 : (u % 2 != q) = false := by simp [hq]
                  have HQ := Lib.hid hq
                  have HGJ := Lib.hid hgj
                  clear hq hgj
                  gi_wp2
                  go_round
                  case rel =>
                    refine ⟨j + 1, by omega, by go_num, fun t ht => ?_⟩
                    rcases Nat.lt_or_ge t j with h5 | h5
                    · exact hall.out t h5
                    · obtain rfl : t = j := by omega
                      exact HGJ.out.trans HQ.out
                  case measure => simp [intOf]; omega
                · have t1 : (u % 2 != q) = true := by simp [hq]
                  have HQ := Lib.hid hq
                  have HGJ := Lib.hid hgj
                  clear hq hgj
                  gi_wp2
                  exact ⟨K2.out _, HNO.out (fun h => HQ.out (by rw [← HGJ.out]; exact h.2.2.2.2 j (by omega)))⟩
              · obtain rfl : M = j := by omega
                have hF := HYES.out ⟨by omega, by omega, H3.out, by omega, fun i hi => hall.out i (by omega)⟩
                have HF := Lib.hid hF
                clear hF
                gi_wp2
                refine ⟨((KeepsOthers.setCell _ _ _).trans (KeepsOthers.setCell _ _ _)).from _, keepR_t (keepR_set _ _ _ (by omega) (by omega)) (keepR_set _ _ _ (by omega) (by omega)), ⟨⟨?_, HF.out⟩, (hbw.setCell (p := ⟨w.heap.size + 1 + 1 + 1, 0, none⟩) (by simp; omega) _).setCell (p := ⟨w.heap.size + 1 + 1 + 1 + 1, 0, none⟩) (by simp; omega) _⟩⟩
                rw [HP1.out, HL1.out]
                have hbx := HBX.out
                exact ⟨(hbx.b0.other (by omega) _).other (by omega) _, (hbx.b1.other (by omega) _).other (by omega) _, (hbx.b2.other (by omega) _).other (by omega) _, (hbx.b3.set _).other (by omega) _, (hbx.b4.other (by omega) _).set _, (hbx.b5.other (by omega) _).other (by omega) _⟩
  case stop =>
    rintro D cc pre W hD hSp hX hK
    exact absurd hSp hX
  case done =>
    rintro D ys W hD ⟨hfit, hpos⟩ ⟨⟨hbx, _⟩, hbw⟩ hK
    rw [hpos] at hbx
    generalize lastOf ys = z at hbx
    have c0 := hbx.b0.cell
    have HBX := Lib.hid hbx
    have HK := Lib.hid hK
    have hDlt : D < W.heap.size := (Array.getElem?_eq_some_iff.1 hK).1
    clear hbx hK hfit hpos
    gi_wp2_with fail
    refine ⟨trivial, ?_⟩
    refine (callsIn_wide.2 (HRUNS.out _ (HH.out.step hbw))).mono ?_
    rintro e W2 ⟨gb2, gr2, rfl, hgb20, hgr20, hgb2, hgr2, hA2, hb2⟩
    have hs2 := hbw.trans (hb2.mono hbw.size)
    have hI2 : I2 w (.slice A len c) most len z D [] W2 := ⟨⟨⟨HBX.out.below hb2, by simp; omega⟩, (hb2.block D hDlt).trans HK.out⟩, hs2⟩
    have HA2 := Lib.hid hA2
    have hDl : D < W2.heap.size := Nat.lt_of_lt_of_le hDlt hb2.size
    have hw6 : w.heap.size + 6 ≤ W.heap.size := HBX.out.b5.lt
    clear hA2 c0
    gi_wp2_with fail
    refine wpIn_rangeFunc_ownG rfl (by omega) (gf := 30) (lb := #[.pointer (some ⟨gb2, 0, none⟩)]) rfl trivial (enters_of Try.func30 (by kernel_rfl) rfl)
      (iter_stops 8 (by omega) gb2 gr2 len R HR.out HBITS.out (by omega) W2 hgb2 hgr2 HA2.out) keepR_t (keepR_b hgb2 hgr2) (Below.refl _ _) (fun _ => rfl)
      (I2 w (.slice A len c) most len z D) (X2 w (.slice A len c) most len z D) (I2_own w _ _ _ _ D _ hs2.size hDl) (X2_own w _ _ _ _ D _ hs2.size hDl) hI2
      (fun x => { tmps := #[.slice A len c, .int .u8 most, .pointer (some ⟨w.heap.size, 0, none⟩), .pointer (some ⟨w.heap.size + 1, 0, none⟩), .pointer (some ⟨w.heap.size + 1 + 1, 0, none⟩), .pointer (some ⟨w.heap.size + 1 + 1 + 1, 0, none⟩), .pointer (some ⟨w.heap.size + 1 + 1 + 1 + 1, 0, none⟩), .pointer (some ⟨w.heap.size + 1 + 1 + 1 + 1 + 1, 0, none⟩), .func (Fn.func 30) #[] #[.pointer (some ⟨gb, 0, none⟩)], undef, undef, undef, .func (Fn.func 30) #[] #[.pointer (some ⟨gb2, 0, none⟩)], .slice A len c, .func (Fn.func 30) #[] #[.pointer (some ⟨gb, 0, none⟩)], .func (Fn.func 30) #[] #[.pointer (some ⟨gb, 0, none⟩)], .bool false, .func (Fn.func 30) #[] #[.pointer (some ⟨gb, 0, none⟩)], undef, undef, undef, undef, undef, undef, undef, undef, undef, undef, undef, undef, undef, undef, undef, undef, undef, undef, undef, undef, undef, undef, undef, undef, undef, undef, undef, undef, undef, undef, undef, undef, undef, undef, undef, undef, undef, undef, undef, .slice A len c, .func (Fn.func 30) #[] #[.pointer (some ⟨gb2, 0, none⟩)], .func (Fn.func 30) #[] #[.pointer (some ⟨gb2, 0, none⟩)], .bool false, .func (Fn.func 30) #[] #[.pointer (some ⟨gb2, 0, none⟩)], .int .u8 x.1, .int .i64 x.2, undef, undef, undef, undef, undef, undef, undef, undef, undef, undef, undef, undef, undef, undef, undef, undef, undef, undef, undef], defers := [] }) ?assign ?body ?done ?stop
    case assign =>
      intro lp x W K hK
      gi_wp2
      exact hK
    case body =>
      rintro lp pre ⟨q, m⟩ W3 ⟨⟨⟨hbx, hle⟩, hKD⟩, hbw3⟩ _
      have c5 := hbx.b5.cell
      have f5 := hbx.b5.frozen
      have c1 := hbx.b1.cell
      have hln : (pre ++ [((q, m) : Elt)]).length = pre.length + 1 := by simp
      have HLN := Lib.hid hln
      have HBX := Lib.hid hbx
      have HKD := Lib.hid hKD
      clear hbx hln hKD
      by_cases hs : (pre.length : Int) = most
      · have t1 : ((pre.length : Int) == most) = true := by simp [hs]
        have HS := Lib.hid hs
        clear hs
        gi_wp2
        exact ⟨KeepsFrom.refl _ _, ⟨⟨by have := HBX.out; rw [HS.out] at this; exact this, rfl⟩, HKD.out⟩, hbw3⟩
      · have t1 : ((pre.length : Int) == most) = false := by simp [hs]
        have hlt : (pre.length : Int) < most := by omega
        clear hs
        gi_wp2
        refine ⟨(KeepsOthers.setCell _ _ _).from _, keepR_set _ _ _ (by omega) (by omega), ⟨⟨?_, by rw [HLN.out]; omega⟩, (heap_other _ _ _ _ (by simp; omega)).trans HKD.out⟩, hbw3.setCell (p := ⟨w.heap.size + 1 + 1 + 1 + 1 + 1, 0, none⟩) (by simp; omega) _⟩
        rw [HLN.out]
        have hbx := HBX.out
        exact ⟨hbx.b0.other (by omega) _, hbx.b1.other (by omega) _, hbx.b2.other (by omega) _, hbx.b3.other (by omega) _, hbx.b4.other (by omega) _, by
          have := hbx.b5.set (.int .i64 ((pre.length : Int) + 1))
          rw [show (((pre.length + 1 : Nat)) : Int) = (pre.length : Int) + 1 by omega]; exact this⟩
    case stop =>
      rintro D2 cc pre W3 hD2 _ ⟨⟨⟨hbx', rfl⟩, hKD⟩, hbw3'⟩ hK2
      have hIW : ((Bx w.heap.size W3 (.slice A len c) most len z most false ∧ True) ∧ W3.heap[D]? = some (.deferred (some []))) ∧ Below w.heap.size w W3 := ⟨⟨⟨hbx', trivial⟩, hKD⟩, hbw3'⟩
      clear hbx' hKD hbw3'
      have hbx3 := hIW.1.1.1
      have hK1 := hIW.1.2
      have hbw3 := hIW.2
      have c53 := hbx3.b5.cell
      have c33 := hbx3.b3.cell
      have c03 := hbx3.b0.cell
      have c13 := hbx3.b1.cell
      have HBX3 := Lib.hid hbx3
      have HK1 := Lib.hid hK1
      have HK2 := Lib.hid hK2
      have hD1 : D < W2.heap.size := hDl
      have hle : most ≤ most := Int.le_refl _
      clear hbx3 hK1 hK2 hIW c53 c33 c03 c13
      gi_wp2_with fail
      refine ⟨trivial, ?_⟩
      refine (callsIn_wide.2 (live1_any _)).mono ?_
      rintro e W4 ⟨rfl, hb4⟩
      have hbx4 := HBX3.out.below hb4
      have hK14 := (hb4.block D (Array.getElem?_eq_some_iff.1 HK1.out).1).trans HK1.out
      have hK24 := (hb4.block D2 (Array.getElem?_eq_some_iff.1 HK2.out).1).trans HK2.out
      have hbw4 := hbw3.trans (hb4.mono hbw3.size)
      have c54 := hbx4.b5.cell
      have c34 := hbx4.b3.cell
      have c04 := hbx4.b0.cell
      have c14 := hbx4.b1.cell
      have c24 := hbx4.b2.cell
      have f24 := hbx4.b2.frozen
      have hb2s := hbx4.b2.set (.bool true)
      have hbw5 := hbw4.setCell (p := ⟨w.heap.size + 1 + 1, 0, none⟩) (by simp; omega) (.bool true)
      have hK15 := (heap_other W4 ⟨w.heap.size + 1 + 1, 0, none⟩ (.bool true) D (by simp; omega)).trans hK14
      have hK25 := (heap_other W4 ⟨w.heap.size + 1 + 1, 0, none⟩ (.bool true) D2 (by simp; omega)).trans hK24
      have HB2S := Lib.hid hb2s
      have HK15 := Lib.hid hK15
      have HK25 := Lib.hid hK25
      have HBW5 := Lib.hid hbw5
      clear hbx4 hK14 hK24 hb2s hK15 hK25 hbw5 hbw4
      gi_wp2
      have g2 := grownBy_putObj' (W4.setCell ⟨w.heap.size + 1 + 1, 0, none⟩ (.bool true)) D2 (.deferred none)
      have hK16 := (g2.block D (Array.getElem?_eq_some_iff.1 HK15.out).1 (by simp; omega)).trans HK15.out
      have g1 := grownBy_putObj' ((W4.setCell ⟨w.heap.size + 1 + 1, 0, none⟩ (.bool true)).putObj D2 (.deferred none)) D (.deferred none)
      have b6 := (HB2S.out.kept g2 (by simp; omega)).kept g1 (by simp; omega)
      have c6 := b6.cell
      have hbw6 := (HBW5.out.grown g2 HBW5.out.size (fun k e => by cases e; omega)).grown g1 (Nat.le_trans HBW5.out.size g2.size) (fun k e => by cases e; omega)
      refine ⟨by simp, .inl ⟨_, _, rfl, run_takeDeferred HK25.out, ?_⟩⟩
      refine ⟨by simp, .inl ⟨_, _, rfl, run_takeDeferred hK16, ?_⟩⟩
      refine ⟨.bool true, ?_, rfl, hbw6⟩
      simp [results, Try.f6, go_sem, c6]
    case done =>
      rintro D2 ys2 W3 hD2 _ hIW hK2
      have hys := hIW.1.1.2
      generalize ys2.length = N at hys
      have hIW2 := hIW
      unfold I2 at hIW2
      clear hIW
      have hIW : ∃ N : Nat, (N : Int) ≤ most ∧ ((Bx w.heap.size W3 (.slice A len c) most len z N false ∧ True) ∧ W3.heap[D]? = some (.deferred (some []))) ∧ Below w.heap.size w W3 := ⟨ys2.length, hIW2.1.1.2, ⟨⟨hIW2.1.1.1, trivial⟩, hIW2.1.2⟩, hIW2.2⟩
      clear hIW2 hys
      obtain ⟨N, hys, hIW⟩ := hIW
      have hbx3 := hIW.1.1.1
      have hK1 := hIW.1.2
      have hbw3 := hIW.2
      have c53 := hbx3.b5.cell
      have c33 := hbx3.b3.cell
      have c03 := hbx3.b0.cell
      have c13 := hbx3.b1.cell
      have HBX3 := Lib.hid hbx3
      have HK1 := Lib.hid hK1
      have HK2 := Lib.hid hK2
      have hD1 : D < W2.heap.size := hDl
      have hle : (N : Int) ≤ most := hys
      clear hbx3 hK1 hK2 hIW c53 c33 c03 c13
      gi_wp2_with fail
      refine ⟨trivial, ?_⟩
      refine (callsIn_wide.2 (live1_any _)).mono ?_
      rintro e W4 ⟨rfl, hb4⟩
      have hbx4 := HBX3.out.below hb4
      have hK14 := (hb4.block D (Array.getElem?_eq_some_iff.1 HK1.out).1).trans HK1.out
      have hK24 := (hb4.block D2 (Array.getElem?_eq_some_iff.1 HK2.out).1).trans HK2.out
      have hbw4 := hbw3.trans (hb4.mono hbw3.size)
      have c54 := hbx4.b5.cell
      have c34 := hbx4.b3.cell
      have c04 := hbx4.b0.cell
      have c14 := hbx4.b1.cell
      have c24 := hbx4.b2.cell
      have f24 := hbx4.b2.frozen
      have hb2s := hbx4.b2.set (.bool true)
      have hbw5 := hbw4.setCell (p := ⟨w.heap.size + 1 + 1, 0, none⟩) (by simp; omega) (.bool true)
      have hK15 := (heap_other W4 ⟨w.heap.size + 1 + 1, 0, none⟩ (.bool true) D (by simp; omega)).trans hK14
      have hK25 := (heap_other W4 ⟨w.heap.size + 1 + 1, 0, none⟩ (.bool true) D2 (by simp; omega)).trans hK24
      have HB2S := Lib.hid hb2s
      have HK15 := Lib.hid hK15
      have HK25 := Lib.hid hK25
      have HBW5 := Lib.hid hbw5
      clear hbx4 hK14 hK24 hb2s hK15 hK25 hbw5 hbw4
      gi_wp2
      have g2 := grownBy_putObj' (W4.setCell ⟨w.heap.size + 1 + 1, 0, none⟩ (.bool true)) D2 (.deferred none)
      have hK16 := (g2.block D (Array.getElem?_eq_some_iff.1 HK15.out).1 (by simp; omega)).trans HK15.out
      have g1 := grownBy_putObj' ((W4.setCell ⟨w.heap.size + 1 + 1, 0, none⟩ (.bool true)).putObj D2 (.deferred none)) D (.deferred none)
      have b6 := (HB2S.out.kept g2 (by simp; omega)).kept g1 (by simp; omega)
      have c6 := b6.cell
      have hbw6 := (HBW5.out.grown g2 HBW5.out.size (fun k e => by cases e; omega)).grown g1 (Nat.le_trans HBW5.out.size g2.size) (fun k e => by cases e; omega)
      refine ⟨by simp, .inl ⟨_, _, rfl, run_takeDeferred HK25.out, ?_⟩⟩
      refine ⟨by simp, .inl ⟨_, _, rfl, run_takeDeferred hK16, ?_⟩⟩
      refine ⟨.bool true, ?_, rfl, hbw6⟩
      simp [results, Try.f6, go_sem, c6]

theorem walk (A : Option Addr) (len c : Nat) (l : List Int) (most : Int) (w : World) (h : Byt w w.heap.size A len c l) (hz : c * 1 ≤ 140737488351232) (hm : (Lit.int .u8 most).wf = true) :
    Calls Try.prog 6 #[.slice A len c, .int .u8 most] w fun e w' => e = .returned (.bool true) ∧ Below w.heap.size w w' := by
  have hm' := bounds_u8 hm
  have hcap := h.cap
  exact callsIn_wide.1 (core A len c l most w h ⟨by omega, by omega⟩ (by omega))

theorem own : ownKnob Try.prog.godebug = none := by kernel_rfl
theorem laidOut : laidOutB Try.prog = true := by kernel_rfl

theorem bytes1 : Try.prog.bytesOf 5 = 1 := by kernel_rfl


set_option maxRecDepth 100000 in
theorem lifted (os : Os) (started : os.Started) (H : Type) (enc : TypeId × Value → H) :
    ReturnsInHanded {} Try.checked os 6 .any (Rows.bitsRunsSpec.pre6 enc Try.prog Try.f6 Rows.bitsRunsRow.domain false) (Rows.bitsRunsSpec.post enc Try.prog Try.f6 false true false false) := by
  refine returnsInHanded_of_change_sized (C := Try.checked) own started (by kernel_rfl) Try.func6
    (ChangeSpec.witness6 (enc := enc) (C := Try.checked) false ⟨#[], #[.slice none 0 0, .int .u8 0], []⟩ 8 (by kernel_rfl) (by kernel_rfl) (by kernel_rfl) (by kernel_rfl)) ?_
  intro W base args ds gs before hval0 hW hcnd hsz0 _
  have hval : ∀ (j : Nat) t v, Try.f6.params[j]? = some t → args[j]? = some v → Value.okWide Try.prog W .any base t v := hval0
  have hsz : (DataW.weightsEach Try.prog (Try.f6.params.toList ++ Rows.bitsRunsSpec.plain.varTypes Try.prog) (ds ++ gs)).all (· ≤ reachBytes) = true := hsz0
  have hW' := hW
  obtain ⟨p, q, hA0, hV, rfl, hfz, hnd⟩ := hW
  have hA : DataW.TrodAll enc Try.prog W 0 (fun _ => true) true Try.f6.params.toList args.toList ds p := hA0
  rw [Try.params6] at hA hval hsz
  obtain ⟨v0, vs0, d0, ds0, p0, q0, hargs, rfl, rfl, h0, r0⟩ := trodAll_cons hA
  obtain ⟨v1, vs1, d1, ds1, p1, q1, rfl, rfl, rfl, h1, r1⟩ := trodAll_cons r0
  obtain ⟨rfl, rfl, rfl⟩ := trodAll_nil r1
  obtain rfl : args = #[v0, v1] := by cases args; simp_all
  obtain ⟨rfl, rfl⟩ := trodVars_none hV
  obtain ⟨a0, len0, cap0, rfl⟩ := okWide_slice Try.underlying23 (hval 0 23 v0 rfl rfl)
  have k0 := h0
  have lt0 : ∀ x ∈ p0, x.block < W.heap.size := by obtain ⟨m, hm⟩ := k0; exact DataW.trod_lt m _ _ _ hm
  obtain ⟨z0, w0, y0⟩ : ∃ zs, Byt W W.heap.size a0 len0 cap0 zs ∧ cap0 * 1 ≤ 140737488351232 := by
    obtain ⟨fuel, hf⟩ := h0
    rcases open_ints Try.underlying23 Try.underlying5 (by kernel_rfl) hf with ⟨hcs, _⟩ | ⟨x, l, c, zs, hcs, _, hl, hm, hz, hx, hcell, hwz⟩
    · simp [Value.cells] at hcs
      obtain ⟨rfl, rfl, rfl⟩ := hcs
      exact ⟨[], Byt.nil_ _ _, by omega⟩
    · simp [Value.cells] at hcs
      obtain ⟨rfl, rfl, rfl⟩ := hcs
      have hs := hsz
      obtain ⟨rfl, rfl⟩ := hx
      have hs := sized_slice hs (j := 0) (t := 23) (e := 5) rfl rfl Try.underlying23
      rw [bytes1] at hs
      simp only [lits, List.length_map, List.length_take, List.length_drop, reachBytes] at hs
      exact ⟨_, byt_of_row hl hm (by simpa using hz) hcell hwz, by simp at hz; omega⟩
  obtain ⟨a1, rfl, rfl, rfl, w1⟩ := open_int Try.underlying5 (hval 1 5 v1 rfl rfl) h1
  clear hA0 hval0
  refine (walk a0 len0 cap0 z0 a1 W w0 y0 w1).mono fun e W' ⟨he, bel⟩ => ?_
  subst he
  exact ⟨_, rfl, _, _, _, [], _, [], hW', trodAll_mk1 (shut_bool Try.underlying4 _), (trodAll_cons_mk (Below.trod laidOut (by kernel_rfl) (of_decide_eq_true (by kernel_rfl)) k0 bel lt0) (trodAll_cons_mk (shut_int Try.underlying5 w1) trodAll_mk0)), rfl, bel.frame _, fun h => by cases h⟩

theorem over : Rows.bitsRunsRow.holds Try.pinned (OpenSpec.ofChange Rows.bitsRunsSpec) :=
  OpenClaim.holds_of_wide 6 Try.f6 rfl rfl rfl rfl rfl rfl rfl ⟨rfl, rfl, rfl, rfl, rfl⟩ rfl rfl rfl rfl rfl (by kernel_rfl) Try.func6 (by kernel_rfl)
    (of_decide_eq_true (by kernel_rfl)) (by unfold Func.isWrapper; first | (rw [if_pos (by decide +kernel)]; kernel_rfl) | (rw [if_neg (by decide +kernel)]; exact ⟨rfl, rfl⟩))
    (fun os started H enc _ => lifted os started H enc)

theorem proved : Rows.BitsRunsSaid := over
end Go.Proofs.Ytabbjgfladbbiaa.bitsRuns
