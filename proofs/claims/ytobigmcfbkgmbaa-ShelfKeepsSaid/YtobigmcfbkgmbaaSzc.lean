/- ShelfKeeps, walked. -/
import Derived.Test.YtobigmcfbkgmbaaSzb
namespace Go.Proofs.Ytobigmcfbkgmbaa
open Go.RowKit Go.Shelf
attribute [local go_sem] Oper.semAt_some

theorem run_equalIn_func_nil {P : Program} (w : World) (d : Nat) (t : TypeId) {x1 x2 : Array TypeId} {x3 : Bool} (h : P.underlying t = some (.func x1 x2 x3)) (f : Fn) (cap lb : Array Value) : (Op.equalIn (d + 1) t (.func f cap lb) .nilFunc).run P w = .ok false w := by
  simp [Op.equalIn, run_underlying h]
theorem run_eql_func_nil {P : Program} (w : World) (t : TypeId) {x1 x2 : Array TypeId} {x3 : Bool} (h : P.underlying t = some (.func x1 x2 x3)) (f : Fn) (cap lb : Array Value) : (binOp .eql t (.func f cap lb) .nilFunc).run P w = .ok (.bool false) w := by
  simp only [binOp]
  simp [Op.equal, Op.maxDepth, run_equalIn_func_nil w 9999 t h f cap lb]
theorem Deeds.step {w w' : World} {A : Option Addr} {n c : Nat} {fs : Nat → D3} (h : Deeds w w.heap.size A n c fs) (hb : Below w.heap.size w w') : Deeds w' w'.heap.size A n c fs :=
  ⟨h.cap, h.max, fun h0 => by
    obtain ⟨b, off, e, hlt, hc⟩ := h.cells h0
    exact ⟨b, off, e, Nat.lt_of_lt_of_le hlt hb.size, fun i hi => (hc i hi).below hlt hb⟩⟩
/-- The boxes of ShelfKeeps. -/
structure KeB (S p5 p8 p9 g : Nat) (st : Int) (vw : Value) (n : Int) (X : World) : Prop where
  b3 : X.heap[S]? = some (.cells #[.int .u8 st] 5 (0, 0))
  b4 : X.heap[S + 1]? = some (.cells #[.bool false] 4 (0, 0))
  b5 : X.heap[p5]? = some (.cells #[.pointer (some ⟨g, 0, none⟩)] 23 (0, 0))
  b8 : X.heap[p8]? = some (.cells #[vw] 24 (0, 0))
  b9 : X.heap[p9]? = some (.cells #[.int .i64 n] 3 (0, 0))
section
variable {S p5 p8 p9 g : Nat} {st n : Int} {vw : Value} {X X' : World}
theorem KeB.keep (h : KeB S p5 p8 p9 g st vw n X) (hk : ∀ (k : Nat) cs t fr, X.heap[k]? = some (Obj.cells cs t fr) → t ≠ 59 → k ≠ g → X'.heap[k]? = X.heap[k]?) (hS : S + 1 < g) (h5 : p5 ≠ g) (h8 : p8 ≠ g) (h9 : p9 ≠ g) : KeB S p5 p8 p9 g st vw n X' :=
  ⟨(hk _ _ _ _ h.b3 (by decide) (by omega)).trans h.b3, (hk _ _ _ _ h.b4 (by decide) (by omega)).trans h.b4, (hk _ _ _ _ h.b5 (by decide) h5).trans h.b5, (hk _ _ _ _ h.b8 (by decide) h8).trans h.b8, (hk _ _ _ _ h.b9 (by decide) h9).trans h.b9⟩
theorem KeB.same (h : KeB S p5 p8 p9 g st vw n X) (hk : ∀ (k : Nat) cs t fr, X.heap[k]? = some (Obj.cells cs t fr) → X'.heap[k]? = X.heap[k]?) : KeB S p5 p8 p9 g st vw n X' :=
  ⟨(hk _ _ _ _ h.b3).trans h.b3, (hk _ _ _ _ h.b4).trans h.b4, (hk _ _ _ _ h.b5).trans h.b5, (hk _ _ _ _ h.b8).trans h.b8, (hk _ _ _ _ h.b9).trans h.b9⟩
theorem KeB.below (h : KeB S p5 p8 p9 g st vw n X) (hb : Below X.heap.size X X') : KeB S p5 p8 p9 g st vw n X' := h.same fun k _ _ _ hk => hb.block k (Array.getElem?_eq_some_iff.1 hk).1
theorem KeB.cells (h : KeB S p5 p8 p9 g st vw n X) : X.cell? ⟨S, 0, none⟩ = some (.int .u8 st) ∧ X.cell? ⟨S + 1, 0, none⟩ = some (.bool false) ∧ X.cell? ⟨p5, 0, none⟩ = some (.pointer (some ⟨g, 0, none⟩)) ∧ X.cell? ⟨p8, 0, none⟩ = some vw ∧ X.cell? ⟨p9, 0, none⟩ = some (.int .i64 n) := by
  refine ⟨?_, ?_, ?_, ?_, ?_⟩
  · rw [cell_of_row _ _ _ _ _ _ h.b3]; rfl
  · rw [cell_of_row _ _ _ _ _ _ h.b4]; rfl
  · rw [cell_of_row _ _ _ _ _ _ h.b5]; rfl
  · rw [cell_of_row _ _ _ _ _ _ h.b8]; rfl
  · rw [cell_of_row _ _ _ _ _ _ h.b9]; rfl
theorem noncell {B : Nat} {row : Option Nat} (hg : X.grownBy X' row) (hr : ∀ r, row = some r → B ≤ r ∧ ∃ o : Obj, X.heap[r]? = some o ∧ o.isCells = false) : ∀ (k : Nat) cs t fr, X.heap[k]? = some (Obj.cells cs t fr) → X'.heap[k]? = X.heap[k]? := fun k _ _ _ hk =>
  hg.block k (Array.getElem?_eq_some_iff.1 hk).1 fun e => by
    obtain ⟨_, o, ho, hc⟩ := hr k e.symm
    rw [hk] at ho; cases ho; cases hc
end
/-- The block of a table's rows, told by the table. -/
def tbS (g : Nat) (X : World) : Option Nat := match X.heap[g]? with
  | some (.cells cs _ _) => (cs.getD 0 undef).ownBlock
  | _ => none
theorem tbS_loc (g : Nat) : Loc (g + 1) (tbS g) := fun X Y h => by unfold tbS; rw [h g (by omega)]
section
variable {tb tr : Nat} {w w' : World} {base g n n' : Nat} {cs cs' : List Value} {v v' : Value}
theorem Sh.tbS (h : Sh tb tr w base g n cs v) : tbS g w = v.ownBlock := by unfold Go.Proofs.Ytobigmcfbkgmbaa.tbS; rw [h.box]; rfl
theorem kq_tch {Fx : Nat → Prop} (h : Sh tb tr w base g n cs v) (h' : Sh tb tr w' base g n' cs' v') (ht : Tch w w' g v) (hn : v'.ownBlock = v.ownBlock ∨ ∃ b, v'.ownBlock = some b ∧ w.heap.size ≤ b) (hF : Fx g) : Kq Fx (tbS g) w w' :=
  ⟨ht.size, fun k _ _ _ hk hf htb => ht.block k (Array.getElem?_eq_some_iff.1 hk).1 (fun e => hf (e ▸ hF)) (by rw [← h.tbS]; exact htb), by rw [h.tbS, h'.tbS]; exact hn⟩
theorem keeps_tch {Bn : Nat} (h : Sh tb tr w base g n cs v) (ht : Tch w w' g v) : KeepsFrom Bn w w' := by
  refine ⟨ht.size, fun k o _ hk hc => (ht.block k (Array.getElem?_eq_some_iff.1 hk).1 (fun e => ?_) (fun e => ?_)).trans hk⟩
  · subst e; rw [h.box] at hk; cases hk; cases hc
  · rcases h.row.2 with ⟨rfl, _⟩ | ⟨b, cap, cur, rfl, _, hb, _⟩
    · cases e
    · cases e; rw [hb] at hk; cases hk; cases hc
end
/-- Between two rounds. -/
structure KeI (w : World) (p5 p8 p9 g : Nat) (st : Int) (vw : Value) (T : List (Int × Int)) (pre : List (Int × Int)) (X : World) : Prop where
  ke : KeB w.heap.size p5 p8 p9 g st vw pre.length X
  row : X.ownsRow (w.heap.size + 2) 44 2 vw T.length (fl eI eI T)
  tab : ∃ T' v', Sh 53 59 X (w.heap.size + 2) g T'.length (fl eI eI T') v' ∧ Rise T' ∧ T'.length ≤ 50 + pre.length
  fit : pre <+: T
  few : (pre.length : Int) ≤ st
  bel : Below w.heap.size w X
/-- A round has left. -/
def KeX (w : World) (p5 p8 p9 g : Nat) (st : Int) (vw : Value) (T : List (Int × Int)) (cd : Code) (pre : List (Int × Int)) (X : World) : Prop :=
  ¬ pre <+: T ∨ (cd = .exit 0 ∧ ∃ p x, pre = p ++ [x] ∧ (p.length : Int) = st ∧ KeB w.heap.size p5 p8 p9 g st vw p.length X ∧ X.ownsRow (w.heap.size + 2) 44 2 vw T.length (fl eI eI T) ∧ Below w.heap.size w X)
theorem own_non {X Y : World} {B base e s n : Nat} {v : Value} {xs : List Value} {row : Option Nat} (h : X.ownsRow base e s v n xs) (hg : X.grownBy Y row) (hr : ∀ r, row = some r → B ≤ r ∧ ∃ o : Obj, X.heap[r]? = some o ∧ o.isCells = false) : Y.ownsRow base e s v n xs := by
  refine ⟨h.1, ?_⟩
  rcases h.2 with hn | ⟨b, cap, cur, rfl, hb, hgg, rest⟩
  · exact .inl hn
  · exact .inr ⟨b, cap, cur, rfl, hb, (noncell hg hr _ _ _ _ hgg).trans hgg, rest⟩
theorem Sh.non {tb tr : Nat} {X Y : World} {B base g n : Nat} {cs : List Value} {v : Value} {row : Option Nat} (h : Sh tb tr X base g n cs v) (hg : X.grownBy Y row) (hr : ∀ r, row = some r → B ≤ r ∧ ∃ o : Obj, X.heap[r]? = some o ∧ o.isCells = false) : Sh tb tr Y base g n cs v :=
  ⟨(noncell hg hr _ _ _ _ h.box).trans h.box, own_non h.row hg hr, h.isnt⟩
theorem KeI_own (w : World) (p5 p8 p9 g : Nat) (st : Int) (vw : Value) (T : List (Int × Int)) (Bn : Nat) (h1 : w.heap.size ≤ Bn) : OwnFrom Bn (KeI w p5 p8 p9 g st vw T) := fun s X Y row h hg hr =>
  ⟨h.ke.same (noncell hg hr), own_non h.row hg hr, (by obtain ⟨T', v', hs, r⟩ := h.tab; exact ⟨T', v', hs.non hg hr, r⟩), h.fit, h.few, ownFrom_below (β := List Elt) (Nat.le_refl _) h1 [] X Y row h.bel hg hr⟩
theorem KeX_own (w : World) (p5 p8 p9 g : Nat) (st : Int) (vw : Value) (T : List (Int × Int)) (Bn : Nat) (h1 : w.heap.size ≤ Bn) (cd : Code) : OwnFrom Bn (KeX w p5 p8 p9 g st vw T cd) := fun s X Y row h hg hr =>
  h.imp id fun ⟨k1, p, x, k2, k3, k4, k5, k6⟩ => ⟨k1, p, x, k2, k3, k4.same (noncell hg hr), own_non k5 hg hr, ownFrom_below (β := List Elt) (Nat.le_refl _) h1 [] X Y row k6 hg hr⟩
def KeA (A0 : Option Addr) (n c0 : Nat) (st : Int) (S p5 p8 g : Nat) (vr vw : Value) (x : Int × Int) : Act := { tmps := #[.slice A0 n c0, .int .u8 st, undef, .pointer (some ⟨S, 0, none⟩), .pointer (some ⟨S + 1, 0, none⟩), .pointer (some ⟨p5, 0, none⟩), vr, .bool true, .pointer (some ⟨p8, 0, none⟩), .pointer (some ⟨p8 + 1, 0, none⟩), .func (Fn.func 26) #[] #[.pointer (some ⟨p8 + 2, 0, none⟩)], .int .i64 x.1, .int .i64 x.2, undef, undef, undef, undef, undef, undef, undef, undef, undef, undef, .tuple #[.pointer (some ⟨g, 0, none⟩), vr, .bool true], .slice A0 n c0, .tuple #[.pointer (some ⟨g, 0, none⟩), vr, .bool true], .pointer (some ⟨g, 0, none⟩), vr, .bool true, vr, vw, .pointer (some ⟨g, 0, none⟩), .func (Fn.func 26) #[] #[.pointer (some ⟨p8 + 2, 0, none⟩)], .func (Fn.func 26) #[] #[.pointer (some ⟨p8 + 2, 0, none⟩)], .bool false, .func (Fn.func 26) #[] #[.pointer (some ⟨p8 + 2, 0, none⟩)], .int .i64 x.1, .int .i64 x.2, undef, undef, undef, undef, undef, undef, undef, undef, undef, undef, undef, undef, undef, undef, undef, undef, undef, undef, undef, undef, undef, undef, undef, undef, undef, undef, undef, undef, undef, undef, undef, undef, undef, undef, undef, undef, undef, undef, undef, undef, undef, undef, undef, undef, undef, undef, undef, undef, undef, undef, undef, undef, undef, undef, undef, undef, undef, undef, undef, undef, undef, undef, undef, undef, undef, undef, undef, undef, undef, undef, undef, undef, undef, undef, undef, undef, undef, undef, undef, undef, undef, undef, undef, undef, undef, undef, undef, undef, undef, undef, undef, undef, undef, undef, undef, undef, undef, undef, undef, undef, undef, undef, undef, undef, undef, undef, undef, undef, undef], defers := [] }
theorem own_ne {X : World} {base e s n g : Nat} {v : Value} {xs : List Value} {cs : Array Value} {t : TypeId} {fr : Nat × Nat} (h : X.ownsRow base e s v n xs) (hg : X.heap[g]? = some (.cells cs t fr)) (hte : e ≠ t) : v.ownBlock ≠ some g := fun eq => by
  rcases h.2 with ⟨rfl, _⟩ | ⟨b, cap, cur, rfl, hb, hgg, rest⟩
  · cases eq
  · cases eq; rw [hg] at hgg; cases hgg; exact hte rfl
theorem kq_store {Fx : Nat → Prop} {g : Nat} (X : World) (k : Nat) (u : Value) (hF : Fx k) (hk : k ≠ g) : Kq Fx (tbS g) X (X.setCell ⟨k, 0, none⟩ u) :=
  ⟨by simp, fun i cs t fr hi hf _ => heap_other _ _ _ _ (fun e => hf (by simp at e; rw [e]; exact hF)), .inl (by unfold tbS; rw [heap_other _ _ _ _ (by simp; omega)])⟩
theorem KeB.store {S p5 p8 p9 g : Nat} {st m : Int} {vw : Value} {X : World} (h : KeB S p5 p8 p9 g st vw m X) (m' : Int) (h1 : S + 1 < p9) (h2 : p5 ≠ p9) (h3 : p8 ≠ p9) : KeB S p5 p8 p9 g st vw m' (X.setCell ⟨p9, 0, none⟩ (.int .i64 m')) :=
  ⟨(heap_other _ _ _ _ (by simp; omega)).trans h.b3, (heap_other _ _ _ _ (by simp; omega)).trans h.b4, (heap_other _ _ _ _ (by simp; omega)).trans h.b5, (heap_other _ _ _ _ (by simp; omega)).trans h.b8, one_set h.b9 _⟩

set_option maxRecDepth 100000 in
set_option maxHeartbeats 4000000 in
theorem shelfKeeps_in (A0 : Option Addr) (n c0 : Nat) (ds : Nat → D3) (st : Int) (w : World) (h : Deeds w w.heap.size A0 n c0 ds) (hst : 0 ≤ st ∧ st ≤ 255) :
    CallsIn Fence.wide 9 Try.prog 5 #[.slice A0 n c0, .int .u8 st] w fun e w' => e = .returned (.bool true) ∧ Below w.heap.size w w' := by
  have hb0 : Below w.heap.size w ((w.alloc (.cells #[.int .u8 st] 5)).alloc (.cells #[.bool false] 4)) := ((Below.refl _ _).alloc (Nat.le_refl _) _).alloc (by simp) _
  have hs0 : ((w.alloc (.cells #[.int .u8 st] 5)).alloc (.cells #[.bool false] 4)).heap.size = w.heap.size + 2 := by simp
  have h30 := heap_alloc2_old w (.cells #[.int .u8 st] 5) (.cells #[.bool false] 4)
  have h40 := heap_alloc2_new w (.cells #[.int .u8 st] 5) (.cells #[.bool false] 4)
  have HPL := Lib.hid (played_any A0 n c0 ds _ (h.step hb0))
  have HB0 := Lib.hid hb0
  have HS0 := Lib.hid hs0
  have H3 := Lib.hid h30
  have H4 := Lib.hid h40
  obtain ⟨hst0, hst1⟩ := hst
  clear h hb0 hs0 h30 h40
  refine callsIn_of_wp_marks Try.func5 rfl trivial ?_ rfl
  simp only [Try.ntmps5, List.size_toArray, List.length_cons, List.length_nil, Nat.reduceAdd, Nat.reduceSub, Array.replicate_succ, Array.replicate_zero, List.push_toArray, List.append_toArray, List.nil_append, List.cons_append]
  gi_wp2_with fail
  generalize (w.alloc (.cells #[.int .u8 st] 5)).alloc (.cells #[.bool false] 4) = w0 at HPL HB0 HS0 H3 H4 ⊢
  refine ⟨trivial, ?_⟩
  refine (callsIn_wide.2 HPL.out).mono ?_
  rintro e w1 ⟨T, R, g, vr, hT, rfl, hP⟩
  obtain ⟨ra, rc, rfl⟩ := own_slice hP.row
  have hb1 := hP.tab.below
  have hb2 : Below w1.heap.size w1 (w1.alloc (.cells #[.pointer (some ⟨g, 0, none⟩)] 23)) := (Below.refl _ _).alloc (Nat.le_refl _) _
  have hP2 := hP.step hb2
  have h5 := heap_alloc_new w1 (.cells #[.pointer (some ⟨g, 0, none⟩)] 23)
  have hgw := hP.tab.lt
  have hgs := hP.tab.at_
  have hbt := dbtw_any _ _ _ R (-9223372036854775808) 9223372036854775807 hP2.row (by have := hP.tie.len; omega)
  rw [btw_all hP.tie hP.rng] at hbt
  have HBT := Lib.hid hbt
  have HP2 := Lib.hid hP2
  have HB2 := Lib.hid (HB0.out.trans ((kF hb2 hb1).mono HB0.out.size))
  have H32 := Lib.hid (((kF hb2 hb1).block _ (by have := HS0.out; omega)).trans H3.out)
  have H42 := Lib.hid (((kF hb2 hb1).block _ (by have := HS0.out; omega)).trans H4.out)
  have H5 := Lib.hid h5
  have HSZ := Lib.hid (show (w1.alloc (.cells #[.pointer (some ⟨g, 0, none⟩)] 23)).heap.size = w1.heap.size + 1 from by simp)
  have HG := Lib.hid (And.intro hgw hgs)
  clear hP hb1 hb2 hP2 h5 hgw hgs hbt HPL
  gi_wp2_with fail
  generalize w1.alloc (.cells #[.pointer (some ⟨g, 0, none⟩)] 23) = w2 at HBT HP2 HB2 H32 H42 H5 HSZ ⊢
  refine ⟨trivial, ?_⟩
  refine (callsIn_wide.2 HBT.out).mono ?_
  rintro e w3 ⟨vw, rfl, hrw, hb3⟩
  obtain ⟨wa, wc, rfl⟩ := own_slice hrw
  have hb4 : Below w3.heap.size w3 ((w3.alloc (.cells #[.slice wa T.length wc] 24)).alloc (.cells #[.int .i64 0] 3)) := ((Below.refl _ _).alloc (Nat.le_refl _) _).alloc (by simp) _
  have hz3 := hb3.size
  have hg1 := HG.out.1
  have hg2 := HG.out.2
  have hs0' := HS0.out
  have hsz' := HSZ.out
  have hke : KeB w.heap.size w1.heap.size w3.heap.size (w3.heap.size + 1) g st (.slice wa T.length wc) 0 ((w3.alloc (.cells #[.slice wa T.length wc] 24)).alloc (.cells #[.int .i64 0] 3)) :=
    ⟨((kF hb4 hb3).block _ (by omega)).trans H32.out, ((kF hb4 hb3).block _ (by omega)).trans H42.out, ((kF hb4 hb3).block _ (by omega)).trans H5.out, heap_alloc2_old w3 _ _, heap_alloc2_new w3 _ _⟩
  obtain ⟨v, hv⟩ := HP2.out.tab.tab
  have hv4 := hv.below (kF hb4 hb3)
  rw [HS0.out] at hv4
  have hrow4 := own_below (own_less hrw (show w.heap.size + 2 ≤ w2.heap.size by omega)) hb4
  have HKE := Lib.hid hke
  have HV4 := Lib.hid hv4
  have HR4 := Lib.hid hrow4
  have HB4 := Lib.hid (HB2.out.trans ((kF hb4 hb3).mono HB2.out.size))
  have HRI := Lib.hid HP2.out.tie.rise
  have HS4 := Lib.hid (show ((w3.alloc (.cells #[.slice wa T.length wc] 24)).alloc (.cells #[.int .i64 0] 3)).heap.size = w3.heap.size + 2 from by simp)
  have k5 : ((w3.alloc (.cells #[.slice wa T.length wc] 24)).alloc (.cells #[.int .i64 0] 3)).cell? ⟨w1.heap.size, 0, none⟩ = some (.pointer (some ⟨g, 0, none⟩)) := hke.cells.2.2.1
  clear hrw hb3 hb4 hke hv hv4 hrow4 HBT HP2 HB2 H32 H42 H5 HB0 H3 H4
  gi_wp2_with fail
  refine ⟨trivial, ?_⟩
  refine (callsIn_wide.2 (all_any _ _)).mono ?_
  rintro e w5 ⟨rfl, rfl⟩
  generalize (w3.alloc (.cells #[.slice wa T.length wc] 24)).alloc (.cells #[.int .i64 0] 3) = w4 at HKE HV4 HR4 HB4 HS4 k5 ⊢
  have hb5 : Below w4.heap.size w4 (w4.alloc (.cells #[.pointer (some ⟨g, 0, none⟩)] 23)) := (Below.refl _ _).alloc (Nat.le_refl _) _
  have hbox := heap_alloc_new w4 (.cells #[.pointer (some ⟨g, 0, none⟩)] 23)
  have heq := fun (w : World) (f : Fn) cap lb => run_eql_func_nil (P := Try.prog) w 30 Try.underlying30 f cap lb
  have hs4' := HS4.out
  have hz5 : (w4.alloc (.cells #[.pointer (some ⟨g, 0, none⟩)] 23)).heap.size = w4.heap.size + 1 := by simp
  have hI : KeI w w1.heap.size w3.heap.size (w3.heap.size + 1) g st (.slice wa T.length wc) T [] (w4.alloc (.cells #[.pointer (some ⟨g, 0, none⟩)] 23)) :=
    ⟨HKE.out.below hb5, own_below HR4.out hb5, ⟨T, v, HV4.out.below hb5, HRI.out, by omega⟩, List.nil_prefix, by simpa using hst0, kF hb5 HB4.out⟩
  have hseq := all1_L 8 (by omega) w4.heap.size g (w.heap.size + 2) v T (fun k => k = w3.heap.size + 1 ∨ k = g) (tbS g) (g + 1) (tbS_loc g) _ (by omega) hbox (HV4.out.below hb5) (by omega) (fun k hk => by omega) (fun k hk => by
    rw [(HV4.out.below hb5).tbS] at hk; exact ((HV4.out.below hb5).row.lt k hk).2)
  have HI := Lib.hid hI
  have HSQ := Lib.hid hseq
  have HZ5 := Lib.hid hz5
  clear hb5 hbox hI hseq HKE HV4 HR4 HB4 k5 hz5
  gi_wp2_with fail
  generalize w4.alloc (.cells #[.pointer (some ⟨g, 0, none⟩)] 23) = V at HI HSQ HZ5 ⊢
  have hz5 := HZ5.out
  have HSV := Lib.hid (show w.heap.size + 2 < V.heap.size by omega)
  have hp5 : w1.heap.size ≠ g := by omega
  have hp8 : w3.heap.size ≠ g := by omega
  have hp9 : w3.heap.size + 1 ≠ g := by omega
  have hSg : w.heap.size + 1 < g := by omega
  have HP59 := Lib.hid (show w1.heap.size ≠ w3.heap.size + 1 by omega)
  have HSV2 := Lib.hid (show w.heap.size + 1 < w3.heap.size + 1 by omega)
  have hVs : g < V.heap.size ∧ w3.heap.size + 1 < V.heap.size := by omega
  obtain ⟨N, hN⟩ : ∃ N, T.length = N := ⟨_, rfl⟩
  rw [hN] at HSQ HI hT ⊢
  have HN := Lib.hid hN
  rw [hs4'] at HSQ
  generalize w1.heap.size = p5 at *
  generalize w3.heap.size = p8 at *
  clear hN HS4 HZ5 hz5 hs4' hg1 hg2 hs0' hsz' HS0 HSZ HG hz3 HRI
  have hp59 : p5 ≠ p8 + 1 := HP59.out
  refine range_L (by omega) (gf := 26) (lb := #[.pointer (some ⟨p8 + 2, 0, none⟩)]) rfl (enters_of Try.func26 (by kernel_rfl) rfl) HSQ.out kq_t (fun X k o o' hk ho hc _ => kq_put (tbS_loc g) (by omega) ho hc) (Below.refl _ _) (fun _ => rfl)
    (KeI w p5 p8 (p8 + 1) g st (.slice wa N wc) T) (KeX w p5 p8 (p8 + 1) g st (.slice wa N wc) T) (KeI_own _ _ _ _ _ _ _ _ _ (by have := HSV.out; omega)) (fun cd => KeX_own _ _ _ _ _ _ _ _ _ (by have := HSV.out; omega) cd) HI.out (KeA A0 n c0 st w.heap.size p5 p8 g (.slice ra R.length rc) (.slice wa N wc)) ?assign ?body ?done ?stop
  case assign =>
    rintro lp ⟨xk, xv⟩ X K hK
    dsimp only [encP, KeA] at hK ⊢
    gi_wp2
    exact hK
  case body =>
    rintro lp pre ⟨xk, xv⟩ X ⟨hke, hrow, ⟨T', v', hsh, hri, hT'⟩, hfit, hfew, hbw⟩ hpN
    have hfx := pre_fit hfit (xk, xv)
    obtain ⟨⟨yk, yv⟩, hy⟩ : ∃ y, T[pre.length]? = some y := ⟨_, List.getElem?_eq_getElem (by rw [HN.out]; exact hpN)⟩
    have hrw2 := hrow
    rw [HN.out] at hrw2
    obtain ⟨gg, rfl, hg, hnc, hm, d0, d1⟩ := rows_at hrw2 hy
    simp only [maxLen] at hm
    rw [hy] at hfx
    simp only at d0 d1
    obtain ⟨c3, c4, c5, c8, c9⟩ := hke.cells
    have f4 : X.frozen? ⟨w.heap.size + 1, 0, none⟩ = false := frozen_of_row _ _ _ _ _ hke.b4
    have k4 := fun v => (KeepsOthers.setCell X ⟨w.heap.size + 1, 0, none⟩ v).from V.heap.size
    have K4 := Lib.hid k4
    have HFX := Lib.hid hfx
    have HKE := Lib.hid hke
    have HROW := Lib.hid hrow
    have HSH := Lib.hid hsh
    have HRI := Lib.hid hri
    have HBW := Lib.hid hbw
    have hpI : (pre.length : Int) < (N : Int) := by omega
    have hpn : ¬ ((N : Int) ≤ (pre.length : Int)) := by omega
    clear hfx k4 hy hbw hke hrow hrw2 hsh hri
    dsimp only [KeA]
    by_cases h1 : (pre.length : Int) = st
    · have H1 := Lib.hid h1
      have t1 : ((pre.length : Int) == st) = true := by simp [h1]
      clear h1
      gi_wp2
      exact ⟨KeepsFrom.refl _ _, .inr ⟨rfl, pre, (xk, xv), rfl, H1.out, HKE.out, HROW.out, HBW.out⟩⟩
    · have H1 := Lib.hid h1
      have t1 : ((pre.length : Int) == st) = false := by simp [h1]
      clear h1
      by_cases h2 : yk = xk
      · subst h2
        by_cases h3 : yv = xv
        · subst h3
          have hcut := cutA X (w.heap.size + 2) g T' v' yk HSH.out (by omega) HRI.out
          have hcl : (cutI yk T').length ≤ T'.length := by rw [cut_filter HRI.out]; exact dcut_le _ _
          have HCUT := Lib.hid hcut
          clear hcut
          gi_wp2_with fail
          refine ⟨trivial, ?_⟩
          refine (CallsIn.inRound lp (callsIn_wide.2 HCUT.out)).mono ?_
          rintro e X6 ⟨rfl, ⟨v6, hs6, ho6⟩, ht6⟩
          have hke6 := HKE.out.keep (ht6.kept HSH.out).2 hSg hp5 hp8 hp9
          have hbw6 := HBW.out.trans (ht6.below HBW.out.size (by omega) fun b hb => by have := (HSH.out.row.lt b hb).1; omega)
          have hrow6 := own_kept HROW.out (ht6.kept HSH.out) (by decide) (own_ne HROW.out HSH.out.box (by decide))
          have hkq6 := kq_tch (Fx := fun k => k = p8 + 1 ∨ k = g) HSH.out hs6 ht6 ho6 (.inr rfl)
          have hkf6 : KeepsFrom V.heap.size X X6 := keeps_tch HSH.out ht6
          have hput := putA X6 (w.heap.size + 2) g (cutI yk T') v6 yv yk hs6 (by have := hs6.lt; omega) (by omega) (rise_cut yk T' HRI.out)
          have z5 := hke6.cells.2.2.1
          have hpl := putI_le yv yk (cutI yk T')
          have hr8 := rise_put yv yk _ (rise_cut yk T' HRI.out)
          have HPUT := Lib.hid hput
          have HKE6 := Lib.hid hke6
          have HBW6 := Lib.hid hbw6
          have HROW6 := Lib.hid hrow6
          have HKQ6 := Lib.hid hkq6
          have HKF6 := Lib.hid hkf6
          have HS6 := Lib.hid hs6
          have HR8 := Lib.hid hr8
          have HPLE := Lib.hid (show (putI yv yk (cutI yk T')).length ≤ 50 + (pre.length + 1) by omega)
          clear hs6 ho6 ht6 hke6 hbw6 hrow6 hkq6 hkf6 hput hr8 hpl hcl hT' c3 c4 c5 c8 c9 f4 d0 d1 HCUT
          gi_wp2_with fail
          refine ⟨trivial, ?_⟩
          refine (CallsIn.inRound lp (callsIn_wide.2 HPUT.out)).mono ?_
          rintro e X8 ⟨rfl, ⟨v8, hs8, ho8⟩, ht8⟩
          have hke8 := HKE6.out.keep (ht8.kept HS6.out).2 hSg hp5 hp8 hp9
          have hbw8 := HBW6.out.trans (ht8.below HBW6.out.size (by omega) fun b hb => by have := (HS6.out.row.lt b hb).1; omega)
          have hrow8 := own_kept HROW6.out (ht8.kept HS6.out) (by decide) (own_ne HROW6.out HS6.out.box (by decide))
          have hkq8 := kq_t HKQ6.out (kq_tch (Fx := fun k => k = p8 + 1 ∨ k = g) HS6.out hs8 ht8 ho8 (.inr rfl))
          have hkf8 : KeepsFrom V.heap.size X X8 := HKF6.out.trans (keeps_tch HS6.out ht8)
          have y9 := hke8.cells.2.2.2.2
          have y9f : X8.frozen? ⟨p8 + 1, 0, none⟩ = false := frozen_of_row _ _ _ _ _ hke8.b9
          have HKE8 := Lib.hid hke8
          have HBW8 := Lib.hid hbw8
          have HROW8 := Lib.hid hrow8
          have HKQ8 := Lib.hid hkq8
          have HKF8 := Lib.hid hkf8
          have HS8 := Lib.hid hs8
          clear hs8 ho8 ht8 hke8 hbw8 hrow8 hkq8 hkf8 z5
          gi_wp2
          have hln : ((pre ++ [((yk, yv) : Int × Int)]).length : Int) = (pre.length : Int) + 1 := by simp
          refine ⟨HKF8.out.trans ((KeepsOthers.setCell _ _ _).from _), kq_t HKQ8.out (kq_store _ _ _ (.inl rfl) hp9), ⟨?_, ?_, ?_, HFX.out.2 (by first | trivial | rfl), ?_, ?_⟩⟩
          · rw [hln]
            exact HKE8.out.store _ (by have := HSV2.out; omega) hp59 (by omega)
          · exact HROW8.out.kept (grown_set _ _ _ _) (.inr (own_ne HROW8.out HKE8.out.b9 (by decide)))
          · exact ⟨_, v8, HS8.out.keep (grown_set _ _ _ _) (fun e => hp9 (by simpa using e)) (fun k e => by cases e; exact own_ne HS8.out.row HKE8.out.b9 (by decide)), HR8.out, by have := HPLE.out; simp; omega⟩
          · have := H1.out; rw [hln]; omega
          · exact HBW8.out.setCell (p := ⟨p8 + 1, 0, none⟩) (by have := HSV2.out; show w.heap.size ≤ p8 + 1; omega) _
        · have H3 := Lib.hid h3
          have t3 : (yv == xv) = false := by simpa using h3
          clear h3
          gi_wp2
          exact ⟨K4.out _, .inl fun h => H3.out (by have := HFX.out.1 h; simp at this; exact this)⟩
      · have H2 := Lib.hid h2
        have t2 : (yk == xk) = false := by simpa using h2
        clear h2
        gi_wp2
        exact ⟨K4.out _, .inl fun h => H2.out (by have := HFX.out.1 h; simp at this; exact this.1)⟩
  case stop =>
    rintro D cc pre X hD hSp hX hK
    rcases hX with hX | ⟨rfl, p, x, rfl, hps, hke, hrow, hbw⟩
    · exact absurd hSp hX
    have hlt : p.length < N := by
      have := hSp.length_le
      rw [HN.out] at this
      simp at this; omega
    rw [hps] at hke
    have HKE := Lib.hid hke
    have HBW := Lib.hid hbw
    have HSEEN : Hid (st = min (N : Int) st) := Lib.hid (by omega)
    clear hke hrow hbw hps hSp
    have c9 := HKE.out.cells.2.2.2.2
    have HDK := Lib.hid hK
    clear hK c9
    gi_wp2_with (first
      | (refine ⟨trivial, ?_⟩; gi_at_call 14; refine (callsIn_wide.2 (getN _ _)).mono ?_; rintro e w' ⟨rfl, hw'⟩; rw [hw']; clear hw' w')
      | (refine ⟨trivial, ?_⟩; gi_at_call 20; refine (callsIn_wide.2 (cutN _ _)).mono ?_; rintro e w' ⟨rfl, hw'⟩; rw [hw']; clear hw' w'))
    refine ⟨trivial, ?_⟩
    refine (callsIn_wide.2 (atN _)).mono ?_
    rintro e X1 ⟨rfl, hb1⟩
    have HKE1 := Lib.hid (HKE.out.below hb1)
    have HD1 := Lib.hid ((hb1.block D (Array.getElem?_eq_some_iff.1 HDK.out).1).trans HDK.out)
    have HW1 := Lib.hid (kF hb1 HBW.out)
    clear HKE HDK HBW hb1
    gi_wp2_with (first
      | (refine ⟨trivial, ?_⟩; gi_at_call 16; refine (callsIn_wide.2 (placeN _ _)).mono ?_; rintro e w' ⟨rfl, hw'⟩; rw [hw']; clear hw' w'))
    refine ⟨trivial, ?_⟩
    refine (callsIn_wide.2 (live_any _)).mono ?_
    rintro e X2 ⟨rfl, hb2⟩
    have HKE2 := Lib.hid (HKE1.out.below hb2)
    have HD2 := Lib.hid ((hb2.block D (Array.getElem?_eq_some_iff.1 HD1.out).1).trans HD1.out)
    have HW2 := Lib.hid (kF hb2 HW1.out)
    obtain ⟨z3, z4, z5, z8, z9⟩ := HKE2.out.cells
    have hmn : min (N : Int) st = st := HSEEN.out.symm
    clear HKE1 HD1 HW1 hb2
    gi_wp2_with (first
      | (refine ⟨trivial, ?_⟩; gi_at_call 21; refine (callsIn_wide.2 (putN _ _ _)).mono ?_; rintro e w' ⟨rfl, hw'⟩; rw [hw']; clear hw' w')
      | (refine ⟨trivial, ?_⟩; gi_at_call 7; refine (callsIn_wide.2 (lenN _)).mono ?_; rintro e w' ⟨rfl, hw'⟩; rw [hw']; clear hw' w')
      | (refine ⟨trivial, ?_⟩; gi_at_call 22; refine (callsIn_wide.2 (forkN _)).mono ?_; rintro e w' ⟨rfl, hw'⟩; rw [hw']; clear hw' w'))
    refine ⟨trivial, ?_⟩
    refine (callsIn_wide.2 (all_any _ _)).mono ?_
    rintro e X3 ⟨rfl, rfl⟩
    have hb3 : Below X2.heap.size X2 (X2.alloc (.cells #[.pointer none] 23)) := (Below.refl _ _).alloc (Nat.le_refl _) _
    have HT3 := Lib.hid (tolAN (X2.alloc (.cells #[.pointer none] 23)) X2.heap.size (heap_alloc_new X2 _))
    have HKE3 := Lib.hid (HKE2.out.below hb3)
    have HD3 := Lib.hid ((hb3.block D (Array.getElem?_eq_some_iff.1 HD2.out).1).trans HD2.out)
    have HW3 := Lib.hid (kF hb3 HW2.out)
    clear HKE2 HD2 HW2 hb3 z3 z4 z5 z8 z9 hmn
    gi_wp2_with fail
    generalize X2.alloc (.cells #[.pointer none] 23) = X3 at HT3 HKE3 HD3 HW3 ⊢
    refine ⟨trivial, ?_⟩
    refine (callsIn_wide.2 HT3.out).mono ?_
    rintro e X4 ⟨rfl, hb4⟩
    have HKE4 := Lib.hid (HKE3.out.below hb4)
    have HD4 := Lib.hid ((hb4.block D (Array.getElem?_eq_some_iff.1 HD3.out).1).trans HD3.out)
    have HW4 := Lib.hid (kF hb4 HW3.out)
    clear HKE3 HD3 HW3 HT3 hb4
    gi_wp2_with fail
    refine ⟨trivial, ?_⟩
    refine (callsIn_wide.2 (from_any _ _ _)).mono ?_
    rintro e X5 ⟨rfl, rfl⟩
    have htb := two_boxes X4 none 1
    have HT5 := Lib.hid (tolFN _ X4.heap.size (X4.heap.size + 1) 1 htb.2.1 htb.2.2)
    have HKE5 := Lib.hid (HKE4.out.below htb.1)
    have HD5 := Lib.hid ((htb.1.block D (Array.getElem?_eq_some_iff.1 HD4.out).1).trans HD4.out)
    have HW5 := Lib.hid (kF htb.1 HW4.out)
    clear HKE4 HD4 HW4 htb
    gi_wp2_with fail
    generalize (X4.alloc (.cells #[.pointer none] 23)).alloc (.cells #[.int .i64 1] 3) = X5 at HT5 HKE5 HD5 HW5 ⊢
    refine ⟨trivial, ?_⟩
    refine (callsIn_wide.2 HT5.out).mono ?_
    rintro e X6 ⟨rfl, hb6⟩
    have HKE6 := Lib.hid (HKE5.out.below hb6)
    have HD6 := Lib.hid ((hb6.block D (Array.getElem?_eq_some_iff.1 HD5.out).1).trans HD5.out)
    have HW6 := Lib.hid (kF hb6 HW5.out)
    clear HKE5 HD5 HW5 HT5 hb6
    gi_wp2_with fail
    refine ⟨trivial, ?_⟩
    refine (callsIn_wide.2 (back1_any _ _ _)).mono ?_
    rintro e X7 ⟨rfl, rfl⟩
    have htb := two_boxes X6 none 1
    have HT7 := Lib.hid (tolBN _ X6.heap.size (X6.heap.size + 1) 1 htb.2.1 htb.2.2)
    have HKE7 := Lib.hid (HKE6.out.below htb.1)
    have HD7 := Lib.hid ((htb.1.block D (Array.getElem?_eq_some_iff.1 HD6.out).1).trans HD6.out)
    have HW7 := Lib.hid (kF htb.1 HW6.out)
    clear HKE6 HD6 HW6 htb
    gi_wp2_with fail
    generalize (X6.alloc (.cells #[.pointer none] 23)).alloc (.cells #[.int .i64 1] 3) = X7 at HT7 HKE7 HD7 HW7 ⊢
    refine ⟨trivial, ?_⟩
    refine (callsIn_wide.2 HT7.out).mono ?_
    rintro e X8 ⟨rfl, hb8⟩
    have HKE8 := Lib.hid (HKE7.out.below hb8)
    have HD8 := Lib.hid ((hb8.block D (Array.getElem?_eq_some_iff.1 HD7.out).1).trans HD7.out)
    have HW8 := Lib.hid (kF hb8 HW7.out)
    obtain ⟨z3, z4, z5, z8, z9⟩ := HKE8.out.cells
    have z4f : X8.frozen? ⟨w.heap.size + 1, 0, none⟩ = false := frozen_of_row _ _ _ _ _ HKE8.out.b4
    have hDw : w.heap.size + 1 < D := by have := HSV.out; omega
    have hKS : (X8.setCell ⟨w.heap.size + 1, 0, none⟩ (.bool true)).heap[D]? = some (.deferred (some [])) := (heap_other _ _ _ _ (by simp; omega)).trans HD8.out
    have hcE : ((X8.setCell ⟨w.heap.size + 1, 0, none⟩ (.bool true)).putObj D (.deferred none)).cell? ⟨w.heap.size + 1, 0, none⟩ = some (.bool true) := by
      rw [cell_of_row _ _ _ _ _ _ ((World.putObj_heap_other (by omega)).trans (one_set HKE8.out.b4 (.bool true)))]; rfl
    have hE : Below w.heap.size w ((X8.setCell ⟨w.heap.size + 1, 0, none⟩ (.bool true)).putObj D (.deferred none)) := by
      have h1 := HW8.out.setCell (p := ⟨w.heap.size + 1, 0, none⟩) (by simp) (.bool true)
      exact h1.grown (grownBy_putObj' _ D (.deferred none)) h1.size (fun k e => by cases e; omega)
    have HKS := Lib.hid hKS
    have HCE := Lib.hid hcE
    have HE := Lib.hid hE
    clear HKE7 HD7 HW7 HT7 hb8 hKS hcE hE
    gi_wp2
    refine ⟨by simp, .inl ⟨_, _, rfl, run_takeDeferred HKS.out, ?_⟩⟩
    refine ⟨.bool true, ?_, rfl, HE.out⟩
    simp [results, Try.f5, go_sem, HCE.out]
  case done =>
    rintro D ys X hD rfl hKI hK
    have hke := hKI.ke
    have hfew := hKI.few
    rw [HN.out] at hke hfew
    have HKE := Lib.hid hke
    have HBW := Lib.hid hKI.bel
    have HSEEN : Hid ((N : Int) = min (N : Int) st) := Lib.hid (by omega)
    clear hke hKI
    have c9 := HKE.out.cells.2.2.2.2
    have HDK := Lib.hid hK
    clear hK c9
    gi_wp2_with (first
      | (refine ⟨trivial, ?_⟩; gi_at_call 14; refine (callsIn_wide.2 (getN _ _)).mono ?_; rintro e w' ⟨rfl, hw'⟩; rw [hw']; clear hw' w')
      | (refine ⟨trivial, ?_⟩; gi_at_call 20; refine (callsIn_wide.2 (cutN _ _)).mono ?_; rintro e w' ⟨rfl, hw'⟩; rw [hw']; clear hw' w'))
    refine ⟨trivial, ?_⟩
    refine (callsIn_wide.2 (atN _)).mono ?_
    rintro e X1 ⟨rfl, hb1⟩
    have HKE1 := Lib.hid (HKE.out.below hb1)
    have HD1 := Lib.hid ((hb1.block D (Array.getElem?_eq_some_iff.1 HDK.out).1).trans HDK.out)
    have HW1 := Lib.hid (kF hb1 HBW.out)
    clear HKE HDK HBW hb1
    gi_wp2_with (first
      | (refine ⟨trivial, ?_⟩; gi_at_call 16; refine (callsIn_wide.2 (placeN _ _)).mono ?_; rintro e w' ⟨rfl, hw'⟩; rw [hw']; clear hw' w'))
    refine ⟨trivial, ?_⟩
    refine (callsIn_wide.2 (live_any _)).mono ?_
    rintro e X2 ⟨rfl, hb2⟩
    have HKE2 := Lib.hid (HKE1.out.below hb2)
    have HD2 := Lib.hid ((hb2.block D (Array.getElem?_eq_some_iff.1 HD1.out).1).trans HD1.out)
    have HW2 := Lib.hid (kF hb2 HW1.out)
    obtain ⟨z3, z4, z5, z8, z9⟩ := HKE2.out.cells
    have hmn : min (N : Int) st = (N : Int) := HSEEN.out.symm
    clear HKE1 HD1 HW1 hb2
    gi_wp2_with (first
      | (refine ⟨trivial, ?_⟩; gi_at_call 21; refine (callsIn_wide.2 (putN _ _ _)).mono ?_; rintro e w' ⟨rfl, hw'⟩; rw [hw']; clear hw' w')
      | (refine ⟨trivial, ?_⟩; gi_at_call 7; refine (callsIn_wide.2 (lenN _)).mono ?_; rintro e w' ⟨rfl, hw'⟩; rw [hw']; clear hw' w')
      | (refine ⟨trivial, ?_⟩; gi_at_call 22; refine (callsIn_wide.2 (forkN _)).mono ?_; rintro e w' ⟨rfl, hw'⟩; rw [hw']; clear hw' w'))
    refine ⟨trivial, ?_⟩
    refine (callsIn_wide.2 (all_any _ _)).mono ?_
    rintro e X3 ⟨rfl, rfl⟩
    have hb3 : Below X2.heap.size X2 (X2.alloc (.cells #[.pointer none] 23)) := (Below.refl _ _).alloc (Nat.le_refl _) _
    have HT3 := Lib.hid (tolAN (X2.alloc (.cells #[.pointer none] 23)) X2.heap.size (heap_alloc_new X2 _))
    have HKE3 := Lib.hid (HKE2.out.below hb3)
    have HD3 := Lib.hid ((hb3.block D (Array.getElem?_eq_some_iff.1 HD2.out).1).trans HD2.out)
    have HW3 := Lib.hid (kF hb3 HW2.out)
    clear HKE2 HD2 HW2 hb3 z3 z4 z5 z8 z9 hmn
    gi_wp2_with fail
    generalize X2.alloc (.cells #[.pointer none] 23) = X3 at HT3 HKE3 HD3 HW3 ⊢
    refine ⟨trivial, ?_⟩
    refine (callsIn_wide.2 HT3.out).mono ?_
    rintro e X4 ⟨rfl, hb4⟩
    have HKE4 := Lib.hid (HKE3.out.below hb4)
    have HD4 := Lib.hid ((hb4.block D (Array.getElem?_eq_some_iff.1 HD3.out).1).trans HD3.out)
    have HW4 := Lib.hid (kF hb4 HW3.out)
    clear HKE3 HD3 HW3 HT3 hb4
    gi_wp2_with fail
    refine ⟨trivial, ?_⟩
    refine (callsIn_wide.2 (from_any _ _ _)).mono ?_
    rintro e X5 ⟨rfl, rfl⟩
    have htb := two_boxes X4 none 1
    have HT5 := Lib.hid (tolFN _ X4.heap.size (X4.heap.size + 1) 1 htb.2.1 htb.2.2)
    have HKE5 := Lib.hid (HKE4.out.below htb.1)
    have HD5 := Lib.hid ((htb.1.block D (Array.getElem?_eq_some_iff.1 HD4.out).1).trans HD4.out)
    have HW5 := Lib.hid (kF htb.1 HW4.out)
    clear HKE4 HD4 HW4 htb
    gi_wp2_with fail
    generalize (X4.alloc (.cells #[.pointer none] 23)).alloc (.cells #[.int .i64 1] 3) = X5 at HT5 HKE5 HD5 HW5 ⊢
    refine ⟨trivial, ?_⟩
    refine (callsIn_wide.2 HT5.out).mono ?_
    rintro e X6 ⟨rfl, hb6⟩
    have HKE6 := Lib.hid (HKE5.out.below hb6)
    have HD6 := Lib.hid ((hb6.block D (Array.getElem?_eq_some_iff.1 HD5.out).1).trans HD5.out)
    have HW6 := Lib.hid (kF hb6 HW5.out)
    clear HKE5 HD5 HW5 HT5 hb6
    gi_wp2_with fail
    refine ⟨trivial, ?_⟩
    refine (callsIn_wide.2 (back1_any _ _ _)).mono ?_
    rintro e X7 ⟨rfl, rfl⟩
    have htb := two_boxes X6 none 1
    have HT7 := Lib.hid (tolBN _ X6.heap.size (X6.heap.size + 1) 1 htb.2.1 htb.2.2)
    have HKE7 := Lib.hid (HKE6.out.below htb.1)
    have HD7 := Lib.hid ((htb.1.block D (Array.getElem?_eq_some_iff.1 HD6.out).1).trans HD6.out)
    have HW7 := Lib.hid (kF htb.1 HW6.out)
    clear HKE6 HD6 HW6 htb
    gi_wp2_with fail
    generalize (X6.alloc (.cells #[.pointer none] 23)).alloc (.cells #[.int .i64 1] 3) = X7 at HT7 HKE7 HD7 HW7 ⊢
    refine ⟨trivial, ?_⟩
    refine (callsIn_wide.2 HT7.out).mono ?_
    rintro e X8 ⟨rfl, hb8⟩
    have HKE8 := Lib.hid (HKE7.out.below hb8)
    have HD8 := Lib.hid ((hb8.block D (Array.getElem?_eq_some_iff.1 HD7.out).1).trans HD7.out)
    have HW8 := Lib.hid (kF hb8 HW7.out)
    obtain ⟨z3, z4, z5, z8, z9⟩ := HKE8.out.cells
    have z4f : X8.frozen? ⟨w.heap.size + 1, 0, none⟩ = false := frozen_of_row _ _ _ _ _ HKE8.out.b4
    have hDw : w.heap.size + 1 < D := by have := HSV.out; omega
    have hKS : (X8.setCell ⟨w.heap.size + 1, 0, none⟩ (.bool true)).heap[D]? = some (.deferred (some [])) := (heap_other _ _ _ _ (by simp; omega)).trans HD8.out
    have hcE : ((X8.setCell ⟨w.heap.size + 1, 0, none⟩ (.bool true)).putObj D (.deferred none)).cell? ⟨w.heap.size + 1, 0, none⟩ = some (.bool true) := by
      rw [cell_of_row _ _ _ _ _ _ ((World.putObj_heap_other (by omega)).trans (one_set HKE8.out.b4 (.bool true)))]; rfl
    have hE : Below w.heap.size w ((X8.setCell ⟨w.heap.size + 1, 0, none⟩ (.bool true)).putObj D (.deferred none)) := by
      have h1 := HW8.out.setCell (p := ⟨w.heap.size + 1, 0, none⟩) (by simp) (.bool true)
      exact h1.grown (grownBy_putObj' _ D (.deferred none)) h1.size (fun k e => by cases e; omega)
    have HKS := Lib.hid hKS
    have HCE := Lib.hid hcE
    have HE := Lib.hid hE
    clear HKE7 HD7 HW7 HT7 hb8 hKS hcE hE
    gi_wp2
    refine ⟨by simp, .inl ⟨_, _, rfl, run_takeDeferred HKS.out, ?_⟩⟩
    refine ⟨.bool true, ?_, rfl, HE.out⟩
    simp [results, Try.f5, go_sem, HCE.out]
end Go.Proofs.Ytobigmcfbkgmbaa
