/- Laid: a dictionary with a node's own entries and the safety section, and the document's. -/
import Derived.Test.YtgaoplbocjadaaaYapp
import Derived.Deep.CutBlock
namespace Go.Proofs.Ytgaoplbocjadaaa
open Go.RowKit
set_option linter.unusedSimpArgs false
set_option linter.unusedVariables false

def l78 : List (Int × Ent) := appO ++ rowsO
theorem l78_len : l78.length = 78 := by decide +kernel
theorem appO_len : appO.length = 8 := by decide +kernel
theorem l78_ok : ∀ x ∈ l78, okR x = true := by decide +kernel
def okRE (x : Int × Ent) : Bool := decide ((256 ≤ x.1 ∧ x.1 ≤ 16777215) ∧ fitsA x.2.k x.2.a x.2.lo x.2.hi x.2.b = 0 ∧ (∀ y ∈ x.2.b, 0 ≤ y ∧ y ≤ 255) ∧ x.2.b.length ≤ 64)
theorem of_okRE {x : Int × Ent} (h : okRE x = true) : okE x := by
  unfold okE
  exact of_decide_eq_true (p := (256 ≤ x.1 ∧ x.1 ≤ 16777215) ∧ fitsA x.2.k x.2.a x.2.lo x.2.hi x.2.b = 0 ∧ (∀ y ∈ x.2.b, 0 ≤ y ∧ y ≤ 255) ∧ x.2.b.length ≤ 64) h
def uq (q : Nat) : List (Int × Ent) := (l78.take q).foldl (fun T x => stT x T) []
theorem uq_succ {q : Nat} {x : Int × Ent} (h : l78[q]? = some x) : uq (q + 1) = stT x (uq q) := by
  unfold uq
  rw [List.take_add_one, h]
  simp
theorem fold_512 : ∀ (l T : List (Int × Ent)), T.length ≤ 512 → (l.foldl (fun T x => stT x T) T).length ≤ 512
  | [], T, h => h
  | x :: l, T, h => fold_512 l _ (addT_512 h)
theorem uq_512 (q : Nat) : (uq q).length ≤ 512 := fold_512 _ _ (by simp)
theorem uq8_good : Good (uq 8) := ⟨rise_iff.2 (by decide +kernel), by decide +kernel, fun x hx => by
  have h : okRE x = true := (show ∀ x ∈ uq 8, okRE x = true by decide +kernel) x hx
  exact of_okRE h⟩
def TLD : List (Int × Ent) := uq 78
theorem lay_uq : layR objL (uq 8) = (0, TLD) := by decide +kernel
theorem TLD_len : TLD.length = 78 := by decide +kernel
theorem RwAt.cells {w : World} {base g n c : Nat} {L : List (Int × Ent)} (h : RwAt w base (.slice (some ⟨g, 0, none⟩) n c) L) : ∀ j u, (fr L)[j]? = some u → w.cell? ((⟨g, 0, none⟩ : Addr).add j) = some u := fun j u hu => by
  have hj : j < L.length * 7 := by rw [← fr_len]; exact (List.getElem?_eq_some_iff.1 hu).1
  rcases h.2 with ⟨ev, _⟩ | ⟨b, cap, cur, ev, hb, hg, h1, h2, h3, h4⟩
  · cases ev
  · cases ev
    rw [add_plainR, Nat.zero_add]
    have := own_cell h hj
    rw [this]; exact hu
theorem DictAt.less {B B' g : Nat} {T : List (Int × Ent)} {ch : Int} {w : World} (h : DictAt B g T ch w) (hb : B' ≤ B) : DictAt B' g T ch w := by
  obtain ⟨s, v, h1, h2, h3, h4⟩ := h
  exact ⟨s, v, ⟨h1.box, h1.sh.lessE hb⟩, by omega, by omega, by omega⟩
/-- What stands beside the two dictionaries. -/
structure LdX (w0 : World) (gr g1 : Nat) (a : Option Addr) (n c : Nat) (x : World) : Prop where
  box : RBox x gr a n c 0
  res : RBox x g1 none 0 0 0
  gt : w0.heap.size ≤ gr ∧ w0.heap.size ≤ g1 ∧ g1 ≠ gr
  blw : Below w0.heap.size w0 x
section
variable {w0 x y : World} {gr g1 : Nat} {a a' : Option Addr} {n c n' c' : Nat}
theorem LdX.step (h : LdX w0 gr g1 a n c x) (ho : Oth w0.heap.size x y) : LdX w0 gr g1 a n c y := ⟨ho.2 _ _ _ _ h.box not3_D, ho.2 _ _ _ _ h.res not3_D, h.gt, h.blw.trans ho.1⟩
theorem LdX.below (h : LdX w0 gr g1 a n c x) (hb : Below x.heap.size x y) : LdX w0 gr g1 a n c y := h.step (.of_below hb h.blw.size)
theorem LdX.put (h : LdX w0 gr g1 a n c x) : LdX w0 gr g1 a' n' c' ((x.setCell ⟨gr, 0, none⟩ (.slice a' n' c')).setCell ⟨gr, 1, none⟩ (.int .i64 0)) :=
  ⟨h.box.two, (heap_other _ _ _ _ (by have := h.gt; simp; omega)).trans ((heap_other _ _ _ _ (by have := h.gt; simp; omega)).trans h.res), h.gt, Below.setCell (p := ⟨gr, 1, none⟩) (Below.setCell (p := ⟨gr, 0, none⟩) h.blw h.gt.1 _) h.gt.1 _⟩
end
theorem own_apart {w : World} {base n k : Nat} {V : Value} {xs : List Value} {cs : Array Value} {t : TypeId} {fr : Nat × Nat} (ho : w.ownsRow base 77 7 V n xs) (hk : w.heap[k]? = some (Obj.cells cs t fr)) (ht : ¬ t = 77) : V.ownBlock ≠ some k := by
  intro e
  rcases ho.2 with ⟨e1, _⟩ | ⟨b', cap, cur, e1, _, hb', _⟩
  · rw [e1] at e; cases e
  · rw [e1] at e
    cases e
    rw [hk] at hb'
    cases hb'
    exact ht rfl
theorem DictAt.grownR {B g base n ch0 : Nat} {T : List (Int × Ent)} {ch : Int} {w w' : World} {V : Value} {xs : List Value} (h : DictAt B g T ch w) (ho : w.ownsRow base 77 7 V n xs) (hg : w.grownBy w' V.ownBlock) : DictAt B g T ch w' := by
  obtain ⟨s, v, h1, h2, h3, h4⟩ := h
  refine ⟨s, v, h1.keep (fun k cs t fr hk ht _ => hg.block k (Array.getElem?_eq_some_iff.1 hk).1 (fun e => ?_)), h2, h3, by have := hg.size; omega⟩
  refine own_apart ho hk ?_ e.symm
  rintro rfl
  exact not3_R ht
theorem RBox.grownR {base n m c gr : Nat} {a : Option Addr} {ch : Int} {w w' : World} {V : Value} {xs : List Value} (h : RBox w gr a m c ch) (ho : w.ownsRow base 77 7 V n xs) (hg : w.grownBy w' V.ownBlock) : RBox w' gr a m c ch :=
  (hg.block _ (Array.getElem?_eq_some_iff.1 h).1 (fun e => own_apart ho h (by decide) e.symm)).trans h
def LaidP (w : World) (e : Ending) (w' : World) : Prop := ∃ (g : Nat) (a : Option Addr) (c : Nat) (R : List (Int × Ent)), e = .returned (.tuple #[.pointer (some ⟨g, 0, none⟩), .agg #[.slice a R.length c, .int .i64 0]]) ∧ Both w.heap.size g TLD 0 a c R w' ∧ Below w.heap.size w w'
theorem results_tc {fn : Func} {q p : Tmp} {ty : TypeId} (h : fn.results = #[.tmp q, .cell p ty]) (tmps : Array Value) (P : Program) (w : World) :
    (results fn tmps).run P w =
      ((asAddr (tmps.getD p undef)).run P w).andThen fun a w₁ => ((loadVar ty a).run P w₁).andThen fun v w₂ => .ok (.tuple #[tmps.getD q undef, v]) w₂ := by
  simp only [results, h]
  simp [Sem.run_bind, Result.andThen]
theorem results_tmp_cell {P : Program} {fn : Func} {q p : Tmp} {ty : TypeId} (h : fn.results = #[.tmp q, .cell p ty]) (tmps : Array Value) (w : World) (g : Nat) (t : TypeId) (cs : Array Value) (fr : Nat × Nat) (d : TypeDesc)
    (hp : tmps.getD p undef = .pointer (some ⟨g, 0, none⟩)) (hg : w.heap[g]? = some (.cells cs t fr))
    (hu : P.underlying ty = some d) (hd : (match d with | .struct _ | .array _ _ => true | _ => false) = true) (hi : (P.info? ty).map (·.size) = some cs.size) :
    (results fn tmps).run P w = .ok (.tuple #[tmps.getD q undef, .agg cs]) w := by
  rw [results_tc h, hp]
  simp [asAddr, run_loadVar_row w g t ty cs fr d hg hu hd hi]
set_option maxRecDepth 100000 in
set_option maxHeartbeats 8000000 in
theorem laid_any (w : World) : Calls Try.prog 9 #[] w (LaidP w) := by
  obtain ⟨i0, hi0, hz0', hz1', hz2'⟩ := info_parts info_ent7E
  have HI := Lib.hid hi0
  clear hi0
  unfold LaidP
  go_enter Try.func9, Try.ntmps9
  go_wp2_with fail
  refine (dnew_any _).mono ?_
  rintro e w1 ⟨g, s, rfl, hd1, hg1, hs1, hb1⟩
  have hba : Below w.heap.size w (w.alloc (.cells #[.slice none 0 0, .int .i64 0] 33)) := (Below.refl _ _).alloc (Nat.le_refl _) _
  have hrs : RBox w1 w.heap.size none 0 0 0 := RBox.below (heap_alloc_new w _) hb1
  have hsz : w.heap.size < w1.heap.size := by have := hb1.size; simp at this; omega
  have hB1 : Below w.heap.size w w1 := kF hb1 hba
  have hD1 : DictAt w.heap.size g [] 0 w1 := DictAt.less ⟨s, _, hd1, hg1, hs1, hb1.size⟩ (by simp)
  have hal : Below w1.heap.size w1 (w1.alloc (.cells #[.slice none 0 0, .int .i64 0] 33)) := (Below.refl _ _).alloc (Nat.le_refl _) _
  have HSw : Hid (w.heap.size ≤ (w1.alloc (.cells #[.slice none 0 0, .int .i64 0] 33)).heap.size) := Lib.hid (by simp; omega)
  have HX2 : Hid (LdX w w1.heap.size w.heap.size none 0 0 (w1.alloc (.cells #[.slice none 0 0, .int .i64 0] 33))) := Lib.hid ⟨heap_alloc_new w1 _, hrs.below hal, ⟨by omega, Nat.le_refl _, by omega⟩, kF hal hB1⟩
  have HD2 := Lib.hid (hD1.below hal)
  clear hd1 hg1 hs1 hb1 hba hrs hB1 hD1 hal hsz
  go_wp2_with fail
  generalize w1.alloc (.cells #[.slice none 0 0, .int .i64 0] 33) = w2 at *
  generalize w1.heap.size = gr at *
  refine (app15_any _).mono ?_
  rintro e w3 ⟨V1, rfl, hv1, hb3⟩
  have HX3 := Lib.hid (HX2.out.below hb3)
  have HD3 := Lib.hid (HD2.out.below hb3)
  have HV3 := Lib.hid hv1
  have HS3 := Lib.hid hb3.size
  clear hv1 hb3 HX2 HD2
  go_wp2_with fail
  refine (rows15_any _).mono ?_
  rintro e w4 ⟨V2, rfl, hv2, hb4⟩
  have HX4 := Lib.hid (HX3.out.below hb4)
  have HD4 := Lib.hid (HD3.out.below hb4)
  have HV4 := Lib.hid (HV3.out.below hb4)
  have HS4 := Lib.hid (Nat.le_trans HS3.out hb4.size)
  obtain ⟨gb, cap, cur, rfl, -, -, -, -, -⟩ := own_some hv2 (by rw [rowsO_len]; omega)
  have HW4 := Lib.hid hv2
  have hal8 := appO_len
  have hfl : (fr rowsO).length = 70 * 7 := by rw [fr_len, rowsO_len]
  clear hv2 hb4 HX3 HD3 HV3 HS3
  have hrl := rowsO_len
  go_wp2_with (at_builtin; refine wpList_append_own _ rfl (.tmp 7) (.tmp 8) 31 rfl w2.heap.size 77 i0 (.agg #[.int .i64 0, .int .i64 0, .int .i64 0, .int .i64 0, .int .i64 0, .int .i64 0, .string ByteArray.empty]) 7 64 Try.underlying31 HI.out hz0' hz1' hz2' rfl (by omega) _ appO.length (fr appO) rfl HV4.out ⟨gb, 0, none⟩ rowsO.length cap (fr rowsO) rfl (by rw [hfl, hrl]) HW4.out.cells (fr_one _) (by simp only [maxLen]; omega) (by omega) HS4.out ?_; intro vl wl r1 r2 r3)
  have hL78 : appO.length + rowsO.length = 78 := by rw [hal8, hrl]
  have HVl : Hid (wl.ownsRow w2.heap.size 77 7 vl 78 (fr l78)) := Lib.hid (by rw [← hL78]; show wl.ownsRow _ _ _ _ _ (fr (appO ++ rowsO)); rw [fr_append]; exact r1)
  have HXl : Hid (LdX w gr w.heap.size none 0 0 wl) := Lib.hid ⟨HX4.out.box.grownR HV4.out r2, HX4.out.res.grownR HV4.out r2, HX4.out.gt, HX4.out.blw.grown r2 HX4.out.blw.size (fun k e => Nat.le_trans HSw.out (HV4.out.blk k e))⟩
  have HDl : Hid (DictAt w.heap.size g [] 0 wl) := Lib.hid (DictAt.grownR (ch0 := 0) HD4.out HV4.out r2)
  clear r1 r2 r3 HX4 HD4 HV4 HS4 HW4 hal8 hfl hrl hL78
  obtain ⟨gl, cap3, cur3, rfl, -, -, -, -, -⟩ := own_some HVl.out (by omega)
  have HEX := Lib.hid (fun (q : Nat) (hq : q < 78) => show ∃ x, l78[q]? = some x ∧ okR x = true from by
    have h2 : q < l78.length := by rw [l78_len]; exact hq
    exact ⟨l78[q], List.getElem?_eq_getElem h2, l78_ok _ (List.getElem_mem h2)⟩)
  have HUS := Lib.hid (fun (q : Nat) (x : Int × Ent) (h : l78[q]? = some x) => uq_succ h)
  generalize w2.heap.size = b2 at *
  generalize l78 = RS at *
  go_wp2_with fail
  go_loopw [5] (fun t5 wr => ∃ (q : Nat) (R : List (Int × Ent)) (a : Option Addr) (c : Nat), q ≤ 78 ∧ t5 = .int .i64 q ∧ Hid (LdX w gr w.heap.size a R.length c wr) ∧ Hid (DictAt w.heap.size g (uq (min q 8)) 0 wr) ∧ Hid (wr.ownsRow w.heap.size 77 7 (.slice a R.length c) R.length (fr R)) ∧ Hid (TieD (uq q) R) ∧ Hid (wr.ownsRow b2 77 7 (.slice (some ⟨gl, 0, none⟩) 78 cap3) 78 (fr RS))) (fun t _ => 78 - (intOf t).toNat)
  case atStart => exact ⟨0, [], none, 0, by omega, rfl, HXl, HDl, Lib.hid ⟨rfl, .inl ⟨rfl, rfl⟩⟩, Lib.hid tieD_nil, HVl⟩
  case round =>
    clear HXl HDl HVl
    obtain ⟨q, R, a, c, hq, rfl, HX, HD, HO, HT, HRW⟩ := hrel
    by_cases hlt : q < 78
    · obtain ⟨x, hx, hxo⟩ := HEX.out q hlt
      have HSC := Lib.hid (fun (y : World) (hy : Below wr.heap.size wr y) => show y.cell? ⟨gr, 0, none⟩ = some (.slice a R.length c) ∧ y.cell? ⟨gr, 1, none⟩ = some (.int .i64 0) ∧ y.cell? ⟨gl, q * 7, none⟩ = some (.int .i64 (x.1 / 256)) ∧ y.cell? ⟨gl, q * 7 + 1, none⟩ = some (.int .i64 (x.1 % 256)) ∧ y.cell? ⟨gl, q * 7 + 2, none⟩ = some (.int .i64 x.2.k) ∧ y.cell? ⟨gl, q * 7 + 3, none⟩ = some (.int .i64 x.2.a) ∧ y.cell? ⟨gl, q * 7 + 4, none⟩ = some (.int .i64 x.2.lo) ∧ y.cell? ⟨gl, q * 7 + 5, none⟩ = some (.int .i64 x.2.hi) ∧ y.cell? ⟨gl, q * 7 + 6, none⟩ = some (.string (strOfNums x.2.b)) from by
        obtain ⟨d0, d1⟩ := (HX.out.below hy).box.cells
        obtain ⟨gr', e', -, -, -, q0, q1, q2, q3, q4, q5, q6⟩ := rowsR_at (own_below HRW.out hy) hx
        cases e'
        exact ⟨d0, d1, q0, q1, q2, q3, q4, q5, q6⟩)
      have HSV := Lib.hid (fun (y : World) (hy : y.ownsRow b2 77 7 (.slice (some ⟨gl, 0, none⟩) 78 cap3) 78 (fr RS)) => show y.cell? ⟨gl, q * 7, none⟩ = some (.int .i64 (x.1 / 256)) ∧ y.cell? ⟨gl, q * 7 + 1, none⟩ = some (.int .i64 (x.1 % 256)) ∧ y.cell? ⟨gl, q * 7 + 2, none⟩ = some (.int .i64 x.2.k) ∧ y.cell? ⟨gl, q * 7 + 3, none⟩ = some (.int .i64 x.2.a) ∧ y.cell? ⟨gl, q * 7 + 4, none⟩ = some (.int .i64 x.2.lo) ∧ y.cell? ⟨gl, q * 7 + 5, none⟩ = some (.int .i64 x.2.hi) ∧ y.cell? ⟨gl, q * 7 + 6, none⟩ = some (.string (strOfNums x.2.b)) from by
        obtain ⟨gr', e', -, -, -, q0, q1, q2, q3, q4, q5, q6⟩ := rowsR_at hy hx
        cases e'
        exact ⟨q0, q1, q2, q3, q4, q5, q6⟩)
      have HGT : Hid (Good (uq q)) := Lib.hid HT.out.good
      have hxb := of_decide_eq_true hxo
      have HTB := Lib.hid (fun (y : World) => to_bytes y x.2.b hxb.2.2 hxb.2.1)
      have HCT := Lib.hid (fun (y : World) (hy : Below wr.heap.size wr y) (A : Option Addr) (n m : Nat) (hB : Byt y y.heap.size A n m x.2.b) => dradd_tie (w := y) (base := w.heap.size) (ch := 0) (x.1 / 256) (x.1 % 256) x.2.k x.2.a x.2.lo x.2.hi x.2.b A n m (own_below HO.out hy) (Nat.le_trans HX.out.blw.size hy.size) HT.out (uq_512 q) hB)
      have HCD := Lib.hid (fun (y : World) (U : List (Int × Ent)) (hd : DictAt w.heap.size g U 0 y) (hG : Good U) (A : Option Addr) (n m : Nat) (hB : Byt y y.heap.size A n m x.2.b) => at_add (x.1 / 256) (x.1 % 256) x.2.k x.2.a x.2.lo x.2.hi x.2.b A n m hd hG hB)
      have HSE : Hid (addT (x.1 / 256) (x.1 % 256) x.2.k x.2.a x.2.lo x.2.hi x.2.b (uq q) = uq (q + 1)) := Lib.hid (HUS.out q x hx).symm
      rw [HSE.out] at HCT
      generalize addE (x.1 / 256) (x.1 % 256) x.2.k x.2.a x.2.lo x.2.hi x.2.b (uq q) = E at HCT
      clear hx hxo hxb
      generalize x.1 / 256 = xi at *
      generalize x.1 % 256 = xj at *
      obtain ⟨xq, xk, xa, xlo, xhi, M⟩ := x
      dsimp only at HSC HTB HCT HCD HSV HSE
      have hqI : (q : Int) < 78 := by omega
      go_wp2_with fail
      have hrg : ∀ y, Below wr.heap.size wr y → y.ownsRow b2 77 7 (.slice (some ⟨gl, 0, none⟩) 78 cap3) 78 (fr RS) := fun y hy => own_below HRW.out hy
      have HRG := Lib.hid hrg
      clear hrg
      refine wp_region_last (fun y => y.ownsRow b2 77 7 (.slice (some ⟨gl, 0, none⟩) 78 cap3) 78 (fr RS)) 21 (by kernel_rfl) (HRG.out _ (kD _)) (fun hHeld => ?_)
      have HBv0 := Lib.hid (kD wr)
      generalize wr.drew = v0 at *
      refine wpAnyL_take (i := 1) (v := ?_) rfl (by kernel_rfl) (by kernel_rfl) (by kernel_rfl) (by kernel_rfl) (by kernel_rfl) (fun _ _ _ h => h) (Or.inl ⟨by rfl, ?_⟩) (by assumption) ?_
      rotate_left
      · intro wq hSw; (try dsimp only at hSw); (try obtain ⟨q0, q1, q2, q3, q4, q5, q6⟩ := HSV.out wq hSw); first | (go_simp; done) | (go_simp; with_reducible rfl) | with_reducible rfl
      go_simp
      refine wpAnyL_take (i := 2) (v := ?_) rfl (by kernel_rfl) (by kernel_rfl) (by kernel_rfl) (by kernel_rfl) (by kernel_rfl) (fun _ _ _ h => h) (Or.inl ⟨by rfl, ?_⟩) (by assumption) ?_
      rotate_left
      · intro wq hSw; (try dsimp only at hSw); (try obtain ⟨q0, q1, q2, q3, q4, q5, q6⟩ := HSV.out wq hSw); first | (go_simp; done) | (go_simp; with_reducible rfl) | with_reducible rfl
      go_simp
      refine wpAnyL_take (i := 3) (v := ?_) rfl (by kernel_rfl) (by kernel_rfl) (by kernel_rfl) (by kernel_rfl) (by kernel_rfl) (fun _ _ _ h => h) (Or.inl ⟨by rfl, ?_⟩) (by assumption) ?_
      rotate_left
      · intro wq hSw; (try dsimp only at hSw); (try obtain ⟨q0, q1, q2, q3, q4, q5, q6⟩ := HSV.out wq hSw); first | (go_simp; done) | (go_simp; with_reducible rfl) | with_reducible rfl
      go_simp
      refine wpAnyL_take (i := 4) (v := ?_) rfl (by kernel_rfl) (by kernel_rfl) (by kernel_rfl) (by kernel_rfl) (by kernel_rfl) (fun _ _ _ h => h) (Or.inl ⟨by rfl, ?_⟩) (by assumption) ?_
      rotate_left
      · intro wq hSw; (try dsimp only at hSw); (try obtain ⟨q0, q1, q2, q3, q4, q5, q6⟩ := HSV.out wq hSw); first | (go_simp; done) | (go_simp; with_reducible rfl) | with_reducible rfl
      go_simp
      refine wpAnyL_take (i := 5) (v := ?_) rfl (by kernel_rfl) (by kernel_rfl) (by kernel_rfl) (by kernel_rfl) (by kernel_rfl) (fun _ _ _ h => h) (Or.inl ⟨by rfl, ?_⟩) (by assumption) ?_
      rotate_left
      · intro wq hSw; (try dsimp only at hSw); (try obtain ⟨q0, q1, q2, q3, q4, q5, q6⟩ := HSV.out wq hSw); first | (go_simp; done) | (go_simp; with_reducible rfl) | with_reducible rfl
      go_simp
      refine wpAnyL_take (i := 6) (v := ?_) rfl (by kernel_rfl) (by kernel_rfl) (by kernel_rfl) (by kernel_rfl) (by kernel_rfl) (fun _ _ _ h => h) (Or.inl ⟨by rfl, ?_⟩) (by assumption) ?_
      rotate_left
      · intro wq hSw; (try dsimp only at hSw); (try obtain ⟨q0, q1, q2, q3, q4, q5, q6⟩ := HSV.out wq hSw); first | (go_simp; done) | (go_simp; with_reducible rfl) | with_reducible rfl
      go_simp
      refine wpAnyL_take (i := 7) (v := ?_) rfl (by kernel_rfl) (by kernel_rfl) (by kernel_rfl) (by kernel_rfl) (by kernel_rfl) (fun _ _ _ h => h) (Or.inl ⟨by rfl, ?_⟩) (by assumption) ?_
      rotate_left
      · intro wq hSw; (try dsimp only at hSw); (try obtain ⟨q0, q1, q2, q3, q4, q5, q6⟩ := HSV.out wq hSw); first | (go_simp; done) | (go_simp; with_reducible rfl) | with_reducible rfl
      go_simp
      refine wpAnyL_take (i := 8) (v := ?_) rfl (by kernel_rfl) (by kernel_rfl) (by kernel_rfl) (by kernel_rfl) (by kernel_rfl) (fun _ _ _ h => h) (Or.inl ⟨by rfl, ?_⟩) (by assumption) ?_
      rotate_left
      · intro wq hSw; (try dsimp only at hSw); (try obtain ⟨q0, q1, q2, q3, q4, q5, q6⟩ := HSV.out wq hSw); first | (go_simp; done) | (go_simp; with_reducible rfl) | with_reducible rfl
      go_simp
      refine wpAnyL_take (i := 9) (v := ?_) rfl (by kernel_rfl) (by kernel_rfl) (by kernel_rfl) (by kernel_rfl) (by kernel_rfl) (fun _ _ _ h => h) (Or.inl ⟨by rfl, ?_⟩) (by assumption) ?_
      rotate_left
      · intro wq hSw; (try dsimp only at hSw); (try obtain ⟨q0, q1, q2, q3, q4, q5, q6⟩ := HSV.out wq hSw); first | (go_simp; done) | (go_simp; with_reducible rfl) | with_reducible rfl
      go_simp
      refine wpAnyL_take (i := 10) (v := ?_) rfl (by kernel_rfl) (by kernel_rfl) (by kernel_rfl) (by kernel_rfl) (by kernel_rfl) (fun _ _ _ h => h) (Or.inl ⟨by rfl, ?_⟩) (by assumption) ?_
      rotate_left
      · intro wq hSw; (try dsimp only at hSw); (try obtain ⟨q0, q1, q2, q3, q4, q5, q6⟩ := HSV.out wq hSw); first | (go_simp; done) | (go_simp; with_reducible rfl) | with_reducible rfl
      go_simp
      refine wpAnyL_take (i := 11) (v := ?_) rfl (by kernel_rfl) (by kernel_rfl) (by kernel_rfl) (by kernel_rfl) (by kernel_rfl) (fun _ _ _ h => h) (Or.inl ⟨by rfl, ?_⟩) (by assumption) ?_
      rotate_left
      · intro wq hSw; (try dsimp only at hSw); (try obtain ⟨q0, q1, q2, q3, q4, q5, q6⟩ := HSV.out wq hSw); first | (go_simp; done) | (go_simp; with_reducible rfl) | with_reducible rfl
      go_simp
      refine wpAnyL_take (i := 12) (v := ?_) rfl (by kernel_rfl) (by kernel_rfl) (by kernel_rfl) (by kernel_rfl) (by kernel_rfl) (fun _ _ _ h => h) (Or.inl ⟨by rfl, ?_⟩) (by assumption) ?_
      rotate_left
      · intro wq hSw; (try dsimp only at hSw); (try obtain ⟨q0, q1, q2, q3, q4, q5, q6⟩ := HSV.out wq hSw); first | (go_simp; done) | (go_simp; with_reducible rfl) | with_reducible rfl
      go_simp
      refine wpAnyL_take (i := 13) (v := ?_) rfl (by kernel_rfl) (by kernel_rfl) (by kernel_rfl) (by kernel_rfl) (by kernel_rfl) (fun _ _ _ h => h) (Or.inl ⟨by rfl, ?_⟩) (by assumption) ?_
      rotate_left
      · intro wq hSw; (try dsimp only at hSw); (try obtain ⟨q0, q1, q2, q3, q4, q5, q6⟩ := HSV.out wq hSw); first | (go_simp; done) | (go_simp; with_reducible rfl) | with_reducible rfl
      go_simp
      refine wpAnyL_take (i := 14) (v := ?_) rfl (by kernel_rfl) (by kernel_rfl) (by kernel_rfl) (by kernel_rfl) (by kernel_rfl) (fun _ _ _ h => h) (Or.inl ⟨by rfl, ?_⟩) (by assumption) ?_
      rotate_left
      · intro wq hSw; (try dsimp only at hSw); (try obtain ⟨q0, q1, q2, q3, q4, q5, q6⟩ := HSV.out wq hSw); first | (go_simp; done) | (go_simp; with_reducible rfl) | with_reducible rfl
      go_simp
      refine wpAnyL_take (i := 15) (v := ?_) rfl (by kernel_rfl) (by kernel_rfl) (by kernel_rfl) (by kernel_rfl) (by kernel_rfl) (fun _ _ _ h => h) (Or.inl ⟨by rfl, ?_⟩) (by assumption) ?_
      rotate_left
      · intro wq hSw; (try dsimp only at hSw); (try obtain ⟨q0, q1, q2, q3, q4, q5, q6⟩ := HSV.out wq hSw); first | (go_simp; done) | (go_simp; with_reducible rfl) | with_reducible rfl
      go_simp
      refine wpAnyL_ready (rs := [0, 16]) (by kernel_rfl) (by simp) ?_
      refine (AllReadyL.cons rfl (fun K hK => ?_) (AllReadyL.cons rfl (fun K hK => ?_) AllReadyL.nil))
      · skip
        obtain ⟨d0, d1, -⟩ := HSC.out v0 HBv0.out
        go_simp
        refine hK.out _ _ ?_ (fun hHeld => ?_)
        · (try dsimp only); exact HRG.out _ HBv0.out
        clear hK K
        clear d0 d1
        refine wpAnyL_ready (rs := [16]) (by kernel_rfl) (by simp) ?_
        refine (AllReadyL.cons rfl (fun K hK => ?_) AllReadyL.nil)
        obtain ⟨cm, v1, hcv, hby, hbz⟩ := HTB.out v0
        go_simp
        have HBv1 := Lib.hid (kF hbz HBv0.out)
        have HY := Lib.hid hby
        clear hby hcv hbz
        refine hK.out _ _ ?_ (fun hHeld => ?_)
        · (try dsimp only); exact HRG.out _ HBv1.out
        clear hK K
        generalize v0.heap.size = bc at *
        refine wpAnyL_ready (rs := [17]) (by kernel_rfl) (by simp) ?_
        refine (AllReadyL.cons rfl (fun K hK => ?_) AllReadyL.nil)
        go_simp
        go_wp2_with fail
        refine (HCT.out v1 HBv1.out _ _ _ HY.out).mono ?_
        rintro e v2 ⟨R', ⟨a', c', rfl, ho', hbz⟩, ht'⟩
        have HBv2 := Lib.hid (kF hbz HBv1.out)
        have HO' := Lib.hid ho'
        have HT' := Lib.hid ht'
        clear ho' ht' hbz HY
        refine hK.out _ _ ?_ (fun hHeld => ?_)
        · (try dsimp only); exact HRG.out _ HBv2.out
        clear hK K
        refine wpAnyL_take (i := 18) (v := ?_) rfl (by kernel_rfl) (by kernel_rfl) (by kernel_rfl) (by kernel_rfl) (by kernel_rfl) (fun _ _ _ h => h) (Or.inl ⟨by rfl, ?_⟩) (by assumption) ?_
        rotate_left
        · intro wq hSw; (try dsimp only at hSw); (try obtain ⟨q0, q1, q2, q3, q4, q5, q6⟩ := HSV.out wq hSw); first | (go_simp; done) | (go_simp; with_reducible rfl) | with_reducible rfl
        go_simp
        refine wpAnyL_take (i := 19) (v := ?_) rfl (by kernel_rfl) (by kernel_rfl) (by kernel_rfl) (by kernel_rfl) (by kernel_rfl) (fun _ _ _ h => h) (Or.inl ⟨by rfl, ?_⟩) (by assumption) ?_
        rotate_left
        · intro wq hSw; (try dsimp only at hSw); (try obtain ⟨q0, q1, q2, q3, q4, q5, q6⟩ := HSV.out wq hSw); first | (go_simp; done) | (go_simp; with_reducible rfl) | with_reducible rfl
        go_simp
        refine wpAnyL_ready (rs := [20, 21]) (by kernel_rfl) (by simp) ?_
        refine (AllReadyL.cons rfl (fun K hK => ?_) (AllReadyL.cons rfl (fun K hK => ?_) AllReadyL.nil))
        · skip
          go_simp
          refine hK.out _ _ ?_ (fun hHeld => ?_)
          · (try dsimp only); exact HRG.out _ HBv2.out
          clear hK K
          refine wpAnyL_ready (rs := [21]) (by kernel_rfl) (by simp) ?_
          refine (AllReadyL.cons rfl (fun K hK => ?_) AllReadyL.nil)
          have HXv := Lib.hid (HX.out.below HBv2.out)
          have HDv := Lib.hid (HD.out.below HBv2.out)
          have HWv := Lib.hid (own_below HRW.out HBv2.out)
          obtain ⟨z0, z1⟩ := HXv.out.box.cells
          have fz0 := frozen_of_row _ _ 0 _ _ HXv.out.box
          have fz1 := frozen_of_row _ _ 1 _ _ HXv.out.box
          have HX9 := Lib.hid (HXv.out.put (a' := a') (n' := R'.length) (c' := c'))
          have HD9 := Lib.hid (dict_put2 HXv.out.box HDv.out a' R'.length c' (.int .i64 0))
          have HN9 := Lib.hid (own_put2 HXv.out.box HO'.out (.slice a' R'.length c') (.int .i64 0))
          have HW9 := Lib.hid (own_put2 HXv.out.box HWv.out (.slice a' R'.length c') (.int .i64 0))
          go_simp
          refine hK.out _ _ ?_ (fun hHeld => ?_)
          · (try dsimp only); exact HW9.out
          clear hK K
          clear z0 z1 fz0 fz1 HXv HDv HWv HO'
          generalize ((v2.setCell ⟨gr, 0, none⟩ (.slice a' R'.length c')).setCell ⟨gr, 1, none⟩ (.int .i64 0)) = v3 at *
          refine wpAnyL_done (by kernel_rfl) ?_ _
          clear hHeld
          go_wp2_with fail
          refine (app15_any _).mono ?_
          rintro e vA ⟨V, rfl, hv, hb10⟩
          obtain ⟨ga, capa, cura, rfl, -, -, -, -, -⟩ := own_some hv (by rw [appO_len]; omega)
          have HXa := Lib.hid (HX9.out.below hb10)
          have HDa := Lib.hid (HD9.out.below hb10)
          have HNa := Lib.hid (own_below HN9.out hb10)
          have HWa := Lib.hid (own_below HW9.out hb10)
          rw [appO_len]
          clear hv hb10 HX9 HD9 HN9 HW9
          by_cases h8 : q < 8
          · have h8I : (q : Int) < 8 := by omega
            have HDq : Hid (DictAt w.heap.size g (uq q) 0 vA) := Lib.hid (by have := HDa.out; rwa [show min q 8 = q by omega] at this)
            have HGq : Hid (min (q + 1) 8 = q + 1) := Lib.hid (by omega)
            clear HDa
            go_wp2_with fail
            refine wp_region_last (fun y => Below vA.heap.size vA y) 17 (by kernel_rfl) (kD _) (fun hHeld => ?_)
            have HBv0 := Lib.hid (kD vA)
            have HSC := Lib.hid (fun (y : World) (hy : Below vA.heap.size vA y) => HSV.out y (own_below HWa.out hy))
            generalize vA.drew = v0 at *
            refine wpAnyL_take (i := 0) (v := ?_) rfl (by kernel_rfl) (by kernel_rfl) (by kernel_rfl) (by kernel_rfl) (by kernel_rfl) (fun _ _ _ h => h) (Or.inl ⟨by rfl, ?_⟩) (by assumption) ?_
            rotate_left
            · intro wq hSw; (try dsimp only at hSw); (try obtain ⟨q0, q1, q2, q3, q4, q5, q6⟩ := HSC.out wq hSw); first | (go_simp; done) | (go_simp; with_reducible rfl) | with_reducible rfl
            go_simp
            refine wpAnyL_take (i := 1) (v := ?_) rfl (by kernel_rfl) (by kernel_rfl) (by kernel_rfl) (by kernel_rfl) (by kernel_rfl) (fun _ _ _ h => h) (Or.inl ⟨by rfl, ?_⟩) (by assumption) ?_
            rotate_left
            · intro wq hSw; (try dsimp only at hSw); (try obtain ⟨q0, q1, q2, q3, q4, q5, q6⟩ := HSC.out wq hSw); first | (go_simp; done) | (go_simp; with_reducible rfl) | with_reducible rfl
            go_simp
            refine wpAnyL_take (i := 2) (v := ?_) rfl (by kernel_rfl) (by kernel_rfl) (by kernel_rfl) (by kernel_rfl) (by kernel_rfl) (fun _ _ _ h => h) (Or.inl ⟨by rfl, ?_⟩) (by assumption) ?_
            rotate_left
            · intro wq hSw; (try dsimp only at hSw); (try obtain ⟨q0, q1, q2, q3, q4, q5, q6⟩ := HSC.out wq hSw); first | (go_simp; done) | (go_simp; with_reducible rfl) | with_reducible rfl
            go_simp
            refine wpAnyL_take (i := 3) (v := ?_) rfl (by kernel_rfl) (by kernel_rfl) (by kernel_rfl) (by kernel_rfl) (by kernel_rfl) (fun _ _ _ h => h) (Or.inl ⟨by rfl, ?_⟩) (by assumption) ?_
            rotate_left
            · intro wq hSw; (try dsimp only at hSw); (try obtain ⟨q0, q1, q2, q3, q4, q5, q6⟩ := HSC.out wq hSw); first | (go_simp; done) | (go_simp; with_reducible rfl) | with_reducible rfl
            go_simp
            refine wpAnyL_take (i := 4) (v := ?_) rfl (by kernel_rfl) (by kernel_rfl) (by kernel_rfl) (by kernel_rfl) (by kernel_rfl) (fun _ _ _ h => h) (Or.inl ⟨by rfl, ?_⟩) (by assumption) ?_
            rotate_left
            · intro wq hSw; (try dsimp only at hSw); (try obtain ⟨q0, q1, q2, q3, q4, q5, q6⟩ := HSC.out wq hSw); first | (go_simp; done) | (go_simp; with_reducible rfl) | with_reducible rfl
            go_simp
            refine wpAnyL_take (i := 5) (v := ?_) rfl (by kernel_rfl) (by kernel_rfl) (by kernel_rfl) (by kernel_rfl) (by kernel_rfl) (fun _ _ _ h => h) (Or.inl ⟨by rfl, ?_⟩) (by assumption) ?_
            rotate_left
            · intro wq hSw; (try dsimp only at hSw); (try obtain ⟨q0, q1, q2, q3, q4, q5, q6⟩ := HSC.out wq hSw); first | (go_simp; done) | (go_simp; with_reducible rfl) | with_reducible rfl
            go_simp
            refine wpAnyL_take (i := 6) (v := ?_) rfl (by kernel_rfl) (by kernel_rfl) (by kernel_rfl) (by kernel_rfl) (by kernel_rfl) (fun _ _ _ h => h) (Or.inl ⟨by rfl, ?_⟩) (by assumption) ?_
            rotate_left
            · intro wq hSw; (try dsimp only at hSw); (try obtain ⟨q0, q1, q2, q3, q4, q5, q6⟩ := HSC.out wq hSw); first | (go_simp; done) | (go_simp; with_reducible rfl) | with_reducible rfl
            go_simp
            refine wpAnyL_take (i := 7) (v := ?_) rfl (by kernel_rfl) (by kernel_rfl) (by kernel_rfl) (by kernel_rfl) (by kernel_rfl) (fun _ _ _ h => h) (Or.inl ⟨by rfl, ?_⟩) (by assumption) ?_
            rotate_left
            · intro wq hSw; (try dsimp only at hSw); (try obtain ⟨q0, q1, q2, q3, q4, q5, q6⟩ := HSC.out wq hSw); first | (go_simp; done) | (go_simp; with_reducible rfl) | with_reducible rfl
            go_simp
            refine wpAnyL_take (i := 8) (v := ?_) rfl (by kernel_rfl) (by kernel_rfl) (by kernel_rfl) (by kernel_rfl) (by kernel_rfl) (fun _ _ _ h => h) (Or.inl ⟨by rfl, ?_⟩) (by assumption) ?_
            rotate_left
            · intro wq hSw; (try dsimp only at hSw); (try obtain ⟨q0, q1, q2, q3, q4, q5, q6⟩ := HSC.out wq hSw); first | (go_simp; done) | (go_simp; with_reducible rfl) | with_reducible rfl
            go_simp
            refine wpAnyL_take (i := 9) (v := ?_) rfl (by kernel_rfl) (by kernel_rfl) (by kernel_rfl) (by kernel_rfl) (by kernel_rfl) (fun _ _ _ h => h) (Or.inl ⟨by rfl, ?_⟩) (by assumption) ?_
            rotate_left
            · intro wq hSw; (try dsimp only at hSw); (try obtain ⟨q0, q1, q2, q3, q4, q5, q6⟩ := HSC.out wq hSw); first | (go_simp; done) | (go_simp; with_reducible rfl) | with_reducible rfl
            go_simp
            refine wpAnyL_take (i := 10) (v := ?_) rfl (by kernel_rfl) (by kernel_rfl) (by kernel_rfl) (by kernel_rfl) (by kernel_rfl) (fun _ _ _ h => h) (Or.inl ⟨by rfl, ?_⟩) (by assumption) ?_
            rotate_left
            · intro wq hSw; (try dsimp only at hSw); (try obtain ⟨q0, q1, q2, q3, q4, q5, q6⟩ := HSC.out wq hSw); first | (go_simp; done) | (go_simp; with_reducible rfl) | with_reducible rfl
            go_simp
            refine wpAnyL_take (i := 11) (v := ?_) rfl (by kernel_rfl) (by kernel_rfl) (by kernel_rfl) (by kernel_rfl) (by kernel_rfl) (fun _ _ _ h => h) (Or.inl ⟨by rfl, ?_⟩) (by assumption) ?_
            rotate_left
            · intro wq hSw; (try dsimp only at hSw); (try obtain ⟨q0, q1, q2, q3, q4, q5, q6⟩ := HSC.out wq hSw); first | (go_simp; done) | (go_simp; with_reducible rfl) | with_reducible rfl
            go_simp
            refine wpAnyL_take (i := 12) (v := ?_) rfl (by kernel_rfl) (by kernel_rfl) (by kernel_rfl) (by kernel_rfl) (by kernel_rfl) (fun _ _ _ h => h) (Or.inl ⟨by rfl, ?_⟩) (by assumption) ?_
            rotate_left
            · intro wq hSw; (try dsimp only at hSw); (try obtain ⟨q0, q1, q2, q3, q4, q5, q6⟩ := HSC.out wq hSw); first | (go_simp; done) | (go_simp; with_reducible rfl) | with_reducible rfl
            go_simp
            refine wpAnyL_take (i := 13) (v := ?_) rfl (by kernel_rfl) (by kernel_rfl) (by kernel_rfl) (by kernel_rfl) (by kernel_rfl) (fun _ _ _ h => h) (Or.inl ⟨by rfl, ?_⟩) (by assumption) ?_
            rotate_left
            · intro wq hSw; (try dsimp only at hSw); (try obtain ⟨q0, q1, q2, q3, q4, q5, q6⟩ := HSC.out wq hSw); first | (go_simp; done) | (go_simp; with_reducible rfl) | with_reducible rfl
            go_simp
            refine wpAnyL_take (i := 14) (v := ?_) rfl (by kernel_rfl) (by kernel_rfl) (by kernel_rfl) (by kernel_rfl) (by kernel_rfl) (fun _ _ _ h => h) (Or.inl ⟨by rfl, ?_⟩) (by assumption) ?_
            rotate_left
            · intro wq hSw; (try dsimp only at hSw); (try obtain ⟨q0, q1, q2, q3, q4, q5, q6⟩ := HSC.out wq hSw); first | (go_simp; done) | (go_simp; with_reducible rfl) | with_reducible rfl
            go_simp
            refine wpAnyL_take (i := 15) (v := ?_) rfl (by kernel_rfl) (by kernel_rfl) (by kernel_rfl) (by kernel_rfl) (by kernel_rfl) (fun _ _ _ h => h) (Or.inl ⟨by rfl, ?_⟩) (by assumption) ?_
            rotate_left
            · intro wq hSw; (try dsimp only at hSw); (try obtain ⟨q0, q1, q2, q3, q4, q5, q6⟩ := HSC.out wq hSw); first | (go_simp; done) | (go_simp; with_reducible rfl) | with_reducible rfl
            go_simp
            refine wpAnyL_ready (rs := [16]) (by kernel_rfl) (by simp) ?_
            refine (AllReadyL.cons rfl (fun K hK => ?_) AllReadyL.nil)
            obtain ⟨cm, v1, hcv, hby, hbz⟩ := HTB.out v0
            go_simp
            have HBv1 := Lib.hid (kF hbz HBv0.out)
            have HY := Lib.hid hby
            clear hby hcv
            refine hK.out _ _ ?_ (fun hHeld => ?_)
            · (try dsimp only); exact HBv1.out
            clear hK K
            clear hbz
            generalize v0.heap.size = bc at *
            refine wpAnyL_ready (rs := [17]) (by kernel_rfl) (by simp) ?_
            refine AllReadyL.last rfl (fun K hK => ?_)
            go_simp
            go_wp2_with fail
            refine (HCD.out v1 (uq q) (HDq.out.below HBv1.out) HGT.out _ _ _ HY.out).mono ?_
            rintro e v2 ⟨rfl, hd2, ho2⟩
            rw [HSE.out] at hd2
            have HDz : Hid (DictAt w.heap.size g (uq (min (q + 1) 8)) 0 v2) := Lib.hid (by rw [HGq.out]; exact hd2)
            have HXz := Lib.hid ((HXa.out.below HBv1.out).step ho2)
            have HNz := Lib.hid (ho2.own (own_below HNa.out HBv1.out) not3_R)
            have HWz := Lib.hid (ho2.own (own_below HWa.out HBv1.out) not3_R)
            clear hd2 ho2 HXa HNa HWa HDq
            refine hK.out _ _ ?_
            clear hK K
            refine wpAnyL_done (by kernel_rfl) ?_ _
            clear hHeld
            go_wp2_with fail
            exact ⟨⟨q + 1, R', a', c', by omega, by go_num, HXz, HDz, HNz, HT', HWz⟩, by simp [intOf]; omega⟩
          · have h8I : ¬ (q : Int) < 8 := by omega
            have HDz : Hid (DictAt w.heap.size g (uq (min (q + 1) 8)) 0 vA) := Lib.hid (by have := HDa.out; rwa [show min q 8 = min (q + 1) 8 by omega] at this)
            clear HDa
            go_wp2_with fail
            exact ⟨⟨q + 1, R', a', c', by omega, by go_num, HXa, HDz, HNa, HT', HWa⟩, by simp [intOf]; omega⟩
        · skip
          have HXv := Lib.hid (HX.out.below HBv2.out)
          have HDv := Lib.hid (HD.out.below HBv2.out)
          have HWv := Lib.hid (own_below HRW.out HBv2.out)
          obtain ⟨z0, z1⟩ := HXv.out.box.cells
          have fz0 := frozen_of_row _ _ 0 _ _ HXv.out.box
          have fz1 := frozen_of_row _ _ 1 _ _ HXv.out.box
          have HX9 := Lib.hid (HXv.out.put (a' := a') (n' := R'.length) (c' := c'))
          have HD9 := Lib.hid (dict_put2 HXv.out.box HDv.out a' R'.length c' (.int .i64 0))
          have HN9 := Lib.hid (own_put2 HXv.out.box HO'.out (.slice a' R'.length c') (.int .i64 0))
          have HW9 := Lib.hid (own_put2 HXv.out.box HWv.out (.slice a' R'.length c') (.int .i64 0))
          go_simp
          refine hK.out _ _ ?_ (fun hHeld => ?_)
          · (try dsimp only); exact HW9.out
          clear hK K
          clear z0 z1 fz0 fz1 HXv HDv HWv HO'
          generalize ((v2.setCell ⟨gr, 0, none⟩ (.slice a' R'.length c')).setCell ⟨gr, 1, none⟩ (.int .i64 0)) = v3 at *
          refine wpAnyL_ready (rs := [20]) (by kernel_rfl) (by simp) ?_
          refine (AllReadyL.cons rfl (fun K hK => ?_) AllReadyL.nil)
          go_simp
          refine hK.out _ _ ?_ (fun hHeld => ?_)
          · (try dsimp only); exact HW9.out
          clear hK K
          refine wpAnyL_done (by kernel_rfl) ?_ _
          clear hHeld
          go_wp2_with fail
          refine (app15_any _).mono ?_
          rintro e vA ⟨V, rfl, hv, hb10⟩
          obtain ⟨ga, capa, cura, rfl, -, -, -, -, -⟩ := own_some hv (by rw [appO_len]; omega)
          have HXa := Lib.hid (HX9.out.below hb10)
          have HDa := Lib.hid (HD9.out.below hb10)
          have HNa := Lib.hid (own_below HN9.out hb10)
          have HWa := Lib.hid (own_below HW9.out hb10)
          rw [appO_len]
          clear hv hb10 HX9 HD9 HN9 HW9
          by_cases h8 : q < 8
          · have h8I : (q : Int) < 8 := by omega
            have HDq : Hid (DictAt w.heap.size g (uq q) 0 vA) := Lib.hid (by have := HDa.out; rwa [show min q 8 = q by omega] at this)
            have HGq : Hid (min (q + 1) 8 = q + 1) := Lib.hid (by omega)
            clear HDa
            go_wp2_with fail
            refine wp_region_last (fun y => Below vA.heap.size vA y) 17 (by kernel_rfl) (kD _) (fun hHeld => ?_)
            have HBv0 := Lib.hid (kD vA)
            have HSC := Lib.hid (fun (y : World) (hy : Below vA.heap.size vA y) => HSV.out y (own_below HWa.out hy))
            generalize vA.drew = v0 at *
            refine wpAnyL_take (i := 0) (v := ?_) rfl (by kernel_rfl) (by kernel_rfl) (by kernel_rfl) (by kernel_rfl) (by kernel_rfl) (fun _ _ _ h => h) (Or.inl ⟨by rfl, ?_⟩) (by assumption) ?_
            rotate_left
            · intro wq hSw; (try dsimp only at hSw); (try obtain ⟨q0, q1, q2, q3, q4, q5, q6⟩ := HSC.out wq hSw); first | (go_simp; done) | (go_simp; with_reducible rfl) | with_reducible rfl
            go_simp
            refine wpAnyL_take (i := 1) (v := ?_) rfl (by kernel_rfl) (by kernel_rfl) (by kernel_rfl) (by kernel_rfl) (by kernel_rfl) (fun _ _ _ h => h) (Or.inl ⟨by rfl, ?_⟩) (by assumption) ?_
            rotate_left
            · intro wq hSw; (try dsimp only at hSw); (try obtain ⟨q0, q1, q2, q3, q4, q5, q6⟩ := HSC.out wq hSw); first | (go_simp; done) | (go_simp; with_reducible rfl) | with_reducible rfl
            go_simp
            refine wpAnyL_take (i := 2) (v := ?_) rfl (by kernel_rfl) (by kernel_rfl) (by kernel_rfl) (by kernel_rfl) (by kernel_rfl) (fun _ _ _ h => h) (Or.inl ⟨by rfl, ?_⟩) (by assumption) ?_
            rotate_left
            · intro wq hSw; (try dsimp only at hSw); (try obtain ⟨q0, q1, q2, q3, q4, q5, q6⟩ := HSC.out wq hSw); first | (go_simp; done) | (go_simp; with_reducible rfl) | with_reducible rfl
            go_simp
            refine wpAnyL_take (i := 3) (v := ?_) rfl (by kernel_rfl) (by kernel_rfl) (by kernel_rfl) (by kernel_rfl) (by kernel_rfl) (fun _ _ _ h => h) (Or.inl ⟨by rfl, ?_⟩) (by assumption) ?_
            rotate_left
            · intro wq hSw; (try dsimp only at hSw); (try obtain ⟨q0, q1, q2, q3, q4, q5, q6⟩ := HSC.out wq hSw); first | (go_simp; done) | (go_simp; with_reducible rfl) | with_reducible rfl
            go_simp
            refine wpAnyL_take (i := 4) (v := ?_) rfl (by kernel_rfl) (by kernel_rfl) (by kernel_rfl) (by kernel_rfl) (by kernel_rfl) (fun _ _ _ h => h) (Or.inl ⟨by rfl, ?_⟩) (by assumption) ?_
            rotate_left
            · intro wq hSw; (try dsimp only at hSw); (try obtain ⟨q0, q1, q2, q3, q4, q5, q6⟩ := HSC.out wq hSw); first | (go_simp; done) | (go_simp; with_reducible rfl) | with_reducible rfl
            go_simp
            refine wpAnyL_take (i := 5) (v := ?_) rfl (by kernel_rfl) (by kernel_rfl) (by kernel_rfl) (by kernel_rfl) (by kernel_rfl) (fun _ _ _ h => h) (Or.inl ⟨by rfl, ?_⟩) (by assumption) ?_
            rotate_left
            · intro wq hSw; (try dsimp only at hSw); (try obtain ⟨q0, q1, q2, q3, q4, q5, q6⟩ := HSC.out wq hSw); first | (go_simp; done) | (go_simp; with_reducible rfl) | with_reducible rfl
            go_simp
            refine wpAnyL_take (i := 6) (v := ?_) rfl (by kernel_rfl) (by kernel_rfl) (by kernel_rfl) (by kernel_rfl) (by kernel_rfl) (fun _ _ _ h => h) (Or.inl ⟨by rfl, ?_⟩) (by assumption) ?_
            rotate_left
            · intro wq hSw; (try dsimp only at hSw); (try obtain ⟨q0, q1, q2, q3, q4, q5, q6⟩ := HSC.out wq hSw); first | (go_simp; done) | (go_simp; with_reducible rfl) | with_reducible rfl
            go_simp
            refine wpAnyL_take (i := 7) (v := ?_) rfl (by kernel_rfl) (by kernel_rfl) (by kernel_rfl) (by kernel_rfl) (by kernel_rfl) (fun _ _ _ h => h) (Or.inl ⟨by rfl, ?_⟩) (by assumption) ?_
            rotate_left
            · intro wq hSw; (try dsimp only at hSw); (try obtain ⟨q0, q1, q2, q3, q4, q5, q6⟩ := HSC.out wq hSw); first | (go_simp; done) | (go_simp; with_reducible rfl) | with_reducible rfl
            go_simp
            refine wpAnyL_take (i := 8) (v := ?_) rfl (by kernel_rfl) (by kernel_rfl) (by kernel_rfl) (by kernel_rfl) (by kernel_rfl) (fun _ _ _ h => h) (Or.inl ⟨by rfl, ?_⟩) (by assumption) ?_
            rotate_left
            · intro wq hSw; (try dsimp only at hSw); (try obtain ⟨q0, q1, q2, q3, q4, q5, q6⟩ := HSC.out wq hSw); first | (go_simp; done) | (go_simp; with_reducible rfl) | with_reducible rfl
            go_simp
            refine wpAnyL_take (i := 9) (v := ?_) rfl (by kernel_rfl) (by kernel_rfl) (by kernel_rfl) (by kernel_rfl) (by kernel_rfl) (fun _ _ _ h => h) (Or.inl ⟨by rfl, ?_⟩) (by assumption) ?_
            rotate_left
            · intro wq hSw; (try dsimp only at hSw); (try obtain ⟨q0, q1, q2, q3, q4, q5, q6⟩ := HSC.out wq hSw); first | (go_simp; done) | (go_simp; with_reducible rfl) | with_reducible rfl
            go_simp
            refine wpAnyL_take (i := 10) (v := ?_) rfl (by kernel_rfl) (by kernel_rfl) (by kernel_rfl) (by kernel_rfl) (by kernel_rfl) (fun _ _ _ h => h) (Or.inl ⟨by rfl, ?_⟩) (by assumption) ?_
            rotate_left
            · intro wq hSw; (try dsimp only at hSw); (try obtain ⟨q0, q1, q2, q3, q4, q5, q6⟩ := HSC.out wq hSw); first | (go_simp; done) | (go_simp; with_reducible rfl) | with_reducible rfl
            go_simp
            refine wpAnyL_take (i := 11) (v := ?_) rfl (by kernel_rfl) (by kernel_rfl) (by kernel_rfl) (by kernel_rfl) (by kernel_rfl) (fun _ _ _ h => h) (Or.inl ⟨by rfl, ?_⟩) (by assumption) ?_
            rotate_left
            · intro wq hSw; (try dsimp only at hSw); (try obtain ⟨q0, q1, q2, q3, q4, q5, q6⟩ := HSC.out wq hSw); first | (go_simp; done) | (go_simp; with_reducible rfl) | with_reducible rfl
            go_simp
            refine wpAnyL_take (i := 12) (v := ?_) rfl (by kernel_rfl) (by kernel_rfl) (by kernel_rfl) (by kernel_rfl) (by kernel_rfl) (fun _ _ _ h => h) (Or.inl ⟨by rfl, ?_⟩) (by assumption) ?_
            rotate_left
            · intro wq hSw; (try dsimp only at hSw); (try obtain ⟨q0, q1, q2, q3, q4, q5, q6⟩ := HSC.out wq hSw); first | (go_simp; done) | (go_simp; with_reducible rfl) | with_reducible rfl
            go_simp
            refine wpAnyL_take (i := 13) (v := ?_) rfl (by kernel_rfl) (by kernel_rfl) (by kernel_rfl) (by kernel_rfl) (by kernel_rfl) (fun _ _ _ h => h) (Or.inl ⟨by rfl, ?_⟩) (by assumption) ?_
            rotate_left
            · intro wq hSw; (try dsimp only at hSw); (try obtain ⟨q0, q1, q2, q3, q4, q5, q6⟩ := HSC.out wq hSw); first | (go_simp; done) | (go_simp; with_reducible rfl) | with_reducible rfl
            go_simp
            refine wpAnyL_take (i := 14) (v := ?_) rfl (by kernel_rfl) (by kernel_rfl) (by kernel_rfl) (by kernel_rfl) (by kernel_rfl) (fun _ _ _ h => h) (Or.inl ⟨by rfl, ?_⟩) (by assumption) ?_
            rotate_left
            · intro wq hSw; (try dsimp only at hSw); (try obtain ⟨q0, q1, q2, q3, q4, q5, q6⟩ := HSC.out wq hSw); first | (go_simp; done) | (go_simp; with_reducible rfl) | with_reducible rfl
            go_simp
            refine wpAnyL_take (i := 15) (v := ?_) rfl (by kernel_rfl) (by kernel_rfl) (by kernel_rfl) (by kernel_rfl) (by kernel_rfl) (fun _ _ _ h => h) (Or.inl ⟨by rfl, ?_⟩) (by assumption) ?_
            rotate_left
            · intro wq hSw; (try dsimp only at hSw); (try obtain ⟨q0, q1, q2, q3, q4, q5, q6⟩ := HSC.out wq hSw); first | (go_simp; done) | (go_simp; with_reducible rfl) | with_reducible rfl
            go_simp
            refine wpAnyL_ready (rs := [16]) (by kernel_rfl) (by simp) ?_
            refine (AllReadyL.cons rfl (fun K hK => ?_) AllReadyL.nil)
            obtain ⟨cm, v1, hcv, hby, hbz⟩ := HTB.out v0
            go_simp
            have HBv1 := Lib.hid (kF hbz HBv0.out)
            have HY := Lib.hid hby
            clear hby hcv
            refine hK.out _ _ ?_ (fun hHeld => ?_)
            · (try dsimp only); exact HBv1.out
            clear hK K
            clear hbz
            generalize v0.heap.size = bc at *
            refine wpAnyL_ready (rs := [17]) (by kernel_rfl) (by simp) ?_
            refine AllReadyL.last rfl (fun K hK => ?_)
            go_simp
            go_wp2_with fail
            refine (HCD.out v1 (uq q) (HDq.out.below HBv1.out) HGT.out _ _ _ HY.out).mono ?_
            rintro e v2 ⟨rfl, hd2, ho2⟩
            rw [HSE.out] at hd2
            have HDz : Hid (DictAt w.heap.size g (uq (min (q + 1) 8)) 0 v2) := Lib.hid (by rw [HGq.out]; exact hd2)
            have HXz := Lib.hid ((HXa.out.below HBv1.out).step ho2)
            have HNz := Lib.hid (ho2.own (own_below HNa.out HBv1.out) not3_R)
            have HWz := Lib.hid (ho2.own (own_below HWa.out HBv1.out) not3_R)
            clear hd2 ho2 HXa HNa HWa HDq
            refine hK.out _ _ ?_
            clear hK K
            refine wpAnyL_done (by kernel_rfl) ?_ _
            clear hHeld
            go_wp2_with fail
            exact ⟨⟨q + 1, R', a', c', by omega, by go_num, HXz, HDz, HNz, HT', HWz⟩, by simp [intOf]; omega⟩
          · have h8I : ¬ (q : Int) < 8 := by omega
            have HDz : Hid (DictAt w.heap.size g (uq (min (q + 1) 8)) 0 vA) := Lib.hid (by have := HDa.out; rwa [show min q 8 = min (q + 1) 8 by omega] at this)
            clear HDa
            go_wp2_with fail
            exact ⟨⟨q + 1, R', a', c', by omega, by go_num, HXa, HDz, HNa, HT', HWa⟩, by simp [intOf]; omega⟩
      · skip
        obtain ⟨cm, v1, hcv, hby, hbz⟩ := HTB.out v0
        go_simp
        have HBv1 := Lib.hid (kF hbz HBv0.out)
        have HY := Lib.hid hby
        clear hby hcv hbz
        refine hK.out _ _ ?_ (fun hHeld => ?_)
        · (try dsimp only); exact HRG.out _ HBv1.out
        clear hK K
        generalize v0.heap.size = bc at *
        refine wpAnyL_ready (rs := [0]) (by kernel_rfl) (by simp) ?_
        refine (AllReadyL.cons rfl (fun K hK => ?_) AllReadyL.nil)
        obtain ⟨d0, d1, -⟩ := HSC.out v1 HBv1.out
        go_simp
        refine hK.out _ _ ?_ (fun hHeld => ?_)
        · (try dsimp only); exact HRG.out _ HBv1.out
        clear hK K
        clear d0 d1
        refine wpAnyL_ready (rs := [17]) (by kernel_rfl) (by simp) ?_
        refine (AllReadyL.cons rfl (fun K hK => ?_) AllReadyL.nil)
        go_simp
        go_wp2_with fail
        refine (HCT.out v1 HBv1.out _ _ _ HY.out).mono ?_
        rintro e v2 ⟨R', ⟨a', c', rfl, ho', hbz⟩, ht'⟩
        have HBv2 := Lib.hid (kF hbz HBv1.out)
        have HO' := Lib.hid ho'
        have HT' := Lib.hid ht'
        clear ho' ht' hbz HY
        refine hK.out _ _ ?_ (fun hHeld => ?_)
        · (try dsimp only); exact HRG.out _ HBv2.out
        clear hK K
        refine wpAnyL_take (i := 18) (v := ?_) rfl (by kernel_rfl) (by kernel_rfl) (by kernel_rfl) (by kernel_rfl) (by kernel_rfl) (fun _ _ _ h => h) (Or.inl ⟨by rfl, ?_⟩) (by assumption) ?_
        rotate_left
        · intro wq hSw; (try dsimp only at hSw); (try obtain ⟨q0, q1, q2, q3, q4, q5, q6⟩ := HSV.out wq hSw); first | (go_simp; done) | (go_simp; with_reducible rfl) | with_reducible rfl
        go_simp
        refine wpAnyL_take (i := 19) (v := ?_) rfl (by kernel_rfl) (by kernel_rfl) (by kernel_rfl) (by kernel_rfl) (by kernel_rfl) (fun _ _ _ h => h) (Or.inl ⟨by rfl, ?_⟩) (by assumption) ?_
        rotate_left
        · intro wq hSw; (try dsimp only at hSw); (try obtain ⟨q0, q1, q2, q3, q4, q5, q6⟩ := HSV.out wq hSw); first | (go_simp; done) | (go_simp; with_reducible rfl) | with_reducible rfl
        go_simp
        refine wpAnyL_ready (rs := [20, 21]) (by kernel_rfl) (by simp) ?_
        refine (AllReadyL.cons rfl (fun K hK => ?_) (AllReadyL.cons rfl (fun K hK => ?_) AllReadyL.nil))
        · skip
          go_simp
          refine hK.out _ _ ?_ (fun hHeld => ?_)
          · (try dsimp only); exact HRG.out _ HBv2.out
          clear hK K
          refine wpAnyL_ready (rs := [21]) (by kernel_rfl) (by simp) ?_
          refine (AllReadyL.cons rfl (fun K hK => ?_) AllReadyL.nil)
          have HXv := Lib.hid (HX.out.below HBv2.out)
          have HDv := Lib.hid (HD.out.below HBv2.out)
          have HWv := Lib.hid (own_below HRW.out HBv2.out)
          obtain ⟨z0, z1⟩ := HXv.out.box.cells
          have fz0 := frozen_of_row _ _ 0 _ _ HXv.out.box
          have fz1 := frozen_of_row _ _ 1 _ _ HXv.out.box
          have HX9 := Lib.hid (HXv.out.put (a' := a') (n' := R'.length) (c' := c'))
          have HD9 := Lib.hid (dict_put2 HXv.out.box HDv.out a' R'.length c' (.int .i64 0))
          have HN9 := Lib.hid (own_put2 HXv.out.box HO'.out (.slice a' R'.length c') (.int .i64 0))
          have HW9 := Lib.hid (own_put2 HXv.out.box HWv.out (.slice a' R'.length c') (.int .i64 0))
          go_simp
          refine hK.out _ _ ?_ (fun hHeld => ?_)
          · (try dsimp only); exact HW9.out
          clear hK K
          clear z0 z1 fz0 fz1 HXv HDv HWv HO'
          generalize ((v2.setCell ⟨gr, 0, none⟩ (.slice a' R'.length c')).setCell ⟨gr, 1, none⟩ (.int .i64 0)) = v3 at *
          refine wpAnyL_done (by kernel_rfl) ?_ _
          clear hHeld
          go_wp2_with fail
          refine (app15_any _).mono ?_
          rintro e vA ⟨V, rfl, hv, hb10⟩
          obtain ⟨ga, capa, cura, rfl, -, -, -, -, -⟩ := own_some hv (by rw [appO_len]; omega)
          have HXa := Lib.hid (HX9.out.below hb10)
          have HDa := Lib.hid (HD9.out.below hb10)
          have HNa := Lib.hid (own_below HN9.out hb10)
          have HWa := Lib.hid (own_below HW9.out hb10)
          rw [appO_len]
          clear hv hb10 HX9 HD9 HN9 HW9
          by_cases h8 : q < 8
          · have h8I : (q : Int) < 8 := by omega
            have HDq : Hid (DictAt w.heap.size g (uq q) 0 vA) := Lib.hid (by have := HDa.out; rwa [show min q 8 = q by omega] at this)
            have HGq : Hid (min (q + 1) 8 = q + 1) := Lib.hid (by omega)
            clear HDa
            go_wp2_with fail
            refine wp_region_last (fun y => Below vA.heap.size vA y) 17 (by kernel_rfl) (kD _) (fun hHeld => ?_)
            have HBv0 := Lib.hid (kD vA)
            have HSC := Lib.hid (fun (y : World) (hy : Below vA.heap.size vA y) => HSV.out y (own_below HWa.out hy))
            generalize vA.drew = v0 at *
            refine wpAnyL_take (i := 0) (v := ?_) rfl (by kernel_rfl) (by kernel_rfl) (by kernel_rfl) (by kernel_rfl) (by kernel_rfl) (fun _ _ _ h => h) (Or.inl ⟨by rfl, ?_⟩) (by assumption) ?_
            rotate_left
            · intro wq hSw; (try dsimp only at hSw); (try obtain ⟨q0, q1, q2, q3, q4, q5, q6⟩ := HSC.out wq hSw); first | (go_simp; done) | (go_simp; with_reducible rfl) | with_reducible rfl
            go_simp
            refine wpAnyL_take (i := 1) (v := ?_) rfl (by kernel_rfl) (by kernel_rfl) (by kernel_rfl) (by kernel_rfl) (by kernel_rfl) (fun _ _ _ h => h) (Or.inl ⟨by rfl, ?_⟩) (by assumption) ?_
            rotate_left
            · intro wq hSw; (try dsimp only at hSw); (try obtain ⟨q0, q1, q2, q3, q4, q5, q6⟩ := HSC.out wq hSw); first | (go_simp; done) | (go_simp; with_reducible rfl) | with_reducible rfl
            go_simp
            refine wpAnyL_take (i := 2) (v := ?_) rfl (by kernel_rfl) (by kernel_rfl) (by kernel_rfl) (by kernel_rfl) (by kernel_rfl) (fun _ _ _ h => h) (Or.inl ⟨by rfl, ?_⟩) (by assumption) ?_
            rotate_left
            · intro wq hSw; (try dsimp only at hSw); (try obtain ⟨q0, q1, q2, q3, q4, q5, q6⟩ := HSC.out wq hSw); first | (go_simp; done) | (go_simp; with_reducible rfl) | with_reducible rfl
            go_simp
            refine wpAnyL_take (i := 3) (v := ?_) rfl (by kernel_rfl) (by kernel_rfl) (by kernel_rfl) (by kernel_rfl) (by kernel_rfl) (fun _ _ _ h => h) (Or.inl ⟨by rfl, ?_⟩) (by assumption) ?_
            rotate_left
            · intro wq hSw; (try dsimp only at hSw); (try obtain ⟨q0, q1, q2, q3, q4, q5, q6⟩ := HSC.out wq hSw); first | (go_simp; done) | (go_simp; with_reducible rfl) | with_reducible rfl
            go_simp
            refine wpAnyL_take (i := 4) (v := ?_) rfl (by kernel_rfl) (by kernel_rfl) (by kernel_rfl) (by kernel_rfl) (by kernel_rfl) (fun _ _ _ h => h) (Or.inl ⟨by rfl, ?_⟩) (by assumption) ?_
            rotate_left
            · intro wq hSw; (try dsimp only at hSw); (try obtain ⟨q0, q1, q2, q3, q4, q5, q6⟩ := HSC.out wq hSw); first | (go_simp; done) | (go_simp; with_reducible rfl) | with_reducible rfl
            go_simp
            refine wpAnyL_take (i := 5) (v := ?_) rfl (by kernel_rfl) (by kernel_rfl) (by kernel_rfl) (by kernel_rfl) (by kernel_rfl) (fun _ _ _ h => h) (Or.inl ⟨by rfl, ?_⟩) (by assumption) ?_
            rotate_left
            · intro wq hSw; (try dsimp only at hSw); (try obtain ⟨q0, q1, q2, q3, q4, q5, q6⟩ := HSC.out wq hSw); first | (go_simp; done) | (go_simp; with_reducible rfl) | with_reducible rfl
            go_simp
            refine wpAnyL_take (i := 6) (v := ?_) rfl (by kernel_rfl) (by kernel_rfl) (by kernel_rfl) (by kernel_rfl) (by kernel_rfl) (fun _ _ _ h => h) (Or.inl ⟨by rfl, ?_⟩) (by assumption) ?_
            rotate_left
            · intro wq hSw; (try dsimp only at hSw); (try obtain ⟨q0, q1, q2, q3, q4, q5, q6⟩ := HSC.out wq hSw); first | (go_simp; done) | (go_simp; with_reducible rfl) | with_reducible rfl
            go_simp
            refine wpAnyL_take (i := 7) (v := ?_) rfl (by kernel_rfl) (by kernel_rfl) (by kernel_rfl) (by kernel_rfl) (by kernel_rfl) (fun _ _ _ h => h) (Or.inl ⟨by rfl, ?_⟩) (by assumption) ?_
            rotate_left
            · intro wq hSw; (try dsimp only at hSw); (try obtain ⟨q0, q1, q2, q3, q4, q5, q6⟩ := HSC.out wq hSw); first | (go_simp; done) | (go_simp; with_reducible rfl) | with_reducible rfl
            go_simp
            refine wpAnyL_take (i := 8) (v := ?_) rfl (by kernel_rfl) (by kernel_rfl) (by kernel_rfl) (by kernel_rfl) (by kernel_rfl) (fun _ _ _ h => h) (Or.inl ⟨by rfl, ?_⟩) (by assumption) ?_
            rotate_left
            · intro wq hSw; (try dsimp only at hSw); (try obtain ⟨q0, q1, q2, q3, q4, q5, q6⟩ := HSC.out wq hSw); first | (go_simp; done) | (go_simp; with_reducible rfl) | with_reducible rfl
            go_simp
            refine wpAnyL_take (i := 9) (v := ?_) rfl (by kernel_rfl) (by kernel_rfl) (by kernel_rfl) (by kernel_rfl) (by kernel_rfl) (fun _ _ _ h => h) (Or.inl ⟨by rfl, ?_⟩) (by assumption) ?_
            rotate_left
            · intro wq hSw; (try dsimp only at hSw); (try obtain ⟨q0, q1, q2, q3, q4, q5, q6⟩ := HSC.out wq hSw); first | (go_simp; done) | (go_simp; with_reducible rfl) | with_reducible rfl
            go_simp
            refine wpAnyL_take (i := 10) (v := ?_) rfl (by kernel_rfl) (by kernel_rfl) (by kernel_rfl) (by kernel_rfl) (by kernel_rfl) (fun _ _ _ h => h) (Or.inl ⟨by rfl, ?_⟩) (by assumption) ?_
            rotate_left
            · intro wq hSw; (try dsimp only at hSw); (try obtain ⟨q0, q1, q2, q3, q4, q5, q6⟩ := HSC.out wq hSw); first | (go_simp; done) | (go_simp; with_reducible rfl) | with_reducible rfl
            go_simp
            refine wpAnyL_take (i := 11) (v := ?_) rfl (by kernel_rfl) (by kernel_rfl) (by kernel_rfl) (by kernel_rfl) (by kernel_rfl) (fun _ _ _ h => h) (Or.inl ⟨by rfl, ?_⟩) (by assumption) ?_
            rotate_left
            · intro wq hSw; (try dsimp only at hSw); (try obtain ⟨q0, q1, q2, q3, q4, q5, q6⟩ := HSC.out wq hSw); first | (go_simp; done) | (go_simp; with_reducible rfl) | with_reducible rfl
            go_simp
            refine wpAnyL_take (i := 12) (v := ?_) rfl (by kernel_rfl) (by kernel_rfl) (by kernel_rfl) (by kernel_rfl) (by kernel_rfl) (fun _ _ _ h => h) (Or.inl ⟨by rfl, ?_⟩) (by assumption) ?_
            rotate_left
            · intro wq hSw; (try dsimp only at hSw); (try obtain ⟨q0, q1, q2, q3, q4, q5, q6⟩ := HSC.out wq hSw); first | (go_simp; done) | (go_simp; with_reducible rfl) | with_reducible rfl
            go_simp
            refine wpAnyL_take (i := 13) (v := ?_) rfl (by kernel_rfl) (by kernel_rfl) (by kernel_rfl) (by kernel_rfl) (by kernel_rfl) (fun _ _ _ h => h) (Or.inl ⟨by rfl, ?_⟩) (by assumption) ?_
            rotate_left
            · intro wq hSw; (try dsimp only at hSw); (try obtain ⟨q0, q1, q2, q3, q4, q5, q6⟩ := HSC.out wq hSw); first | (go_simp; done) | (go_simp; with_reducible rfl) | with_reducible rfl
            go_simp
            refine wpAnyL_take (i := 14) (v := ?_) rfl (by kernel_rfl) (by kernel_rfl) (by kernel_rfl) (by kernel_rfl) (by kernel_rfl) (fun _ _ _ h => h) (Or.inl ⟨by rfl, ?_⟩) (by assumption) ?_
            rotate_left
            · intro wq hSw; (try dsimp only at hSw); (try obtain ⟨q0, q1, q2, q3, q4, q5, q6⟩ := HSC.out wq hSw); first | (go_simp; done) | (go_simp; with_reducible rfl) | with_reducible rfl
            go_simp
            refine wpAnyL_take (i := 15) (v := ?_) rfl (by kernel_rfl) (by kernel_rfl) (by kernel_rfl) (by kernel_rfl) (by kernel_rfl) (fun _ _ _ h => h) (Or.inl ⟨by rfl, ?_⟩) (by assumption) ?_
            rotate_left
            · intro wq hSw; (try dsimp only at hSw); (try obtain ⟨q0, q1, q2, q3, q4, q5, q6⟩ := HSC.out wq hSw); first | (go_simp; done) | (go_simp; with_reducible rfl) | with_reducible rfl
            go_simp
            refine wpAnyL_ready (rs := [16]) (by kernel_rfl) (by simp) ?_
            refine (AllReadyL.cons rfl (fun K hK => ?_) AllReadyL.nil)
            obtain ⟨cm, v1, hcv, hby, hbz⟩ := HTB.out v0
            go_simp
            have HBv1 := Lib.hid (kF hbz HBv0.out)
            have HY := Lib.hid hby
            clear hby hcv
            refine hK.out _ _ ?_ (fun hHeld => ?_)
            · (try dsimp only); exact HBv1.out
            clear hK K
            clear hbz
            generalize v0.heap.size = bc at *
            refine wpAnyL_ready (rs := [17]) (by kernel_rfl) (by simp) ?_
            refine AllReadyL.last rfl (fun K hK => ?_)
            go_simp
            go_wp2_with fail
            refine (HCD.out v1 (uq q) (HDq.out.below HBv1.out) HGT.out _ _ _ HY.out).mono ?_
            rintro e v2 ⟨rfl, hd2, ho2⟩
            rw [HSE.out] at hd2
            have HDz : Hid (DictAt w.heap.size g (uq (min (q + 1) 8)) 0 v2) := Lib.hid (by rw [HGq.out]; exact hd2)
            have HXz := Lib.hid ((HXa.out.below HBv1.out).step ho2)
            have HNz := Lib.hid (ho2.own (own_below HNa.out HBv1.out) not3_R)
            have HWz := Lib.hid (ho2.own (own_below HWa.out HBv1.out) not3_R)
            clear hd2 ho2 HXa HNa HWa HDq
            refine hK.out _ _ ?_
            clear hK K
            refine wpAnyL_done (by kernel_rfl) ?_ _
            clear hHeld
            go_wp2_with fail
            exact ⟨⟨q + 1, R', a', c', by omega, by go_num, HXz, HDz, HNz, HT', HWz⟩, by simp [intOf]; omega⟩
          · have h8I : ¬ (q : Int) < 8 := by omega
            have HDz : Hid (DictAt w.heap.size g (uq (min (q + 1) 8)) 0 vA) := Lib.hid (by have := HDa.out; rwa [show min q 8 = min (q + 1) 8 by omega] at this)
            clear HDa
            go_wp2_with fail
            exact ⟨⟨q + 1, R', a', c', by omega, by go_num, HXa, HDz, HNa, HT', HWa⟩, by simp [intOf]; omega⟩
        · skip
          have HXv := Lib.hid (HX.out.below HBv2.out)
          have HDv := Lib.hid (HD.out.below HBv2.out)
          have HWv := Lib.hid (own_below HRW.out HBv2.out)
          obtain ⟨z0, z1⟩ := HXv.out.box.cells
          have fz0 := frozen_of_row _ _ 0 _ _ HXv.out.box
          have fz1 := frozen_of_row _ _ 1 _ _ HXv.out.box
          have HX9 := Lib.hid (HXv.out.put (a' := a') (n' := R'.length) (c' := c'))
          have HD9 := Lib.hid (dict_put2 HXv.out.box HDv.out a' R'.length c' (.int .i64 0))
          have HN9 := Lib.hid (own_put2 HXv.out.box HO'.out (.slice a' R'.length c') (.int .i64 0))
          have HW9 := Lib.hid (own_put2 HXv.out.box HWv.out (.slice a' R'.length c') (.int .i64 0))
          go_simp
          refine hK.out _ _ ?_ (fun hHeld => ?_)
          · (try dsimp only); exact HW9.out
          clear hK K
          clear z0 z1 fz0 fz1 HXv HDv HWv HO'
          generalize ((v2.setCell ⟨gr, 0, none⟩ (.slice a' R'.length c')).setCell ⟨gr, 1, none⟩ (.int .i64 0)) = v3 at *
          refine wpAnyL_ready (rs := [20]) (by kernel_rfl) (by simp) ?_
          refine (AllReadyL.cons rfl (fun K hK => ?_) AllReadyL.nil)
          go_simp
          refine hK.out _ _ ?_ (fun hHeld => ?_)
          · (try dsimp only); exact HW9.out
          clear hK K
          refine wpAnyL_done (by kernel_rfl) ?_ _
          clear hHeld
          go_wp2_with fail
          refine (app15_any _).mono ?_
          rintro e vA ⟨V, rfl, hv, hb10⟩
          obtain ⟨ga, capa, cura, rfl, -, -, -, -, -⟩ := own_some hv (by rw [appO_len]; omega)
          have HXa := Lib.hid (HX9.out.below hb10)
          have HDa := Lib.hid (HD9.out.below hb10)
          have HNa := Lib.hid (own_below HN9.out hb10)
          have HWa := Lib.hid (own_below HW9.out hb10)
          rw [appO_len]
          clear hv hb10 HX9 HD9 HN9 HW9
          by_cases h8 : q < 8
          · have h8I : (q : Int) < 8 := by omega
            have HDq : Hid (DictAt w.heap.size g (uq q) 0 vA) := Lib.hid (by have := HDa.out; rwa [show min q 8 = q by omega] at this)
            have HGq : Hid (min (q + 1) 8 = q + 1) := Lib.hid (by omega)
            clear HDa
            go_wp2_with fail
            refine wp_region_last (fun y => Below vA.heap.size vA y) 17 (by kernel_rfl) (kD _) (fun hHeld => ?_)
            have HBv0 := Lib.hid (kD vA)
            have HSC := Lib.hid (fun (y : World) (hy : Below vA.heap.size vA y) => HSV.out y (own_below HWa.out hy))
            generalize vA.drew = v0 at *
            refine wpAnyL_take (i := 0) (v := ?_) rfl (by kernel_rfl) (by kernel_rfl) (by kernel_rfl) (by kernel_rfl) (by kernel_rfl) (fun _ _ _ h => h) (Or.inl ⟨by rfl, ?_⟩) (by assumption) ?_
            rotate_left
            · intro wq hSw; (try dsimp only at hSw); (try obtain ⟨q0, q1, q2, q3, q4, q5, q6⟩ := HSC.out wq hSw); first | (go_simp; done) | (go_simp; with_reducible rfl) | with_reducible rfl
            go_simp
            refine wpAnyL_take (i := 1) (v := ?_) rfl (by kernel_rfl) (by kernel_rfl) (by kernel_rfl) (by kernel_rfl) (by kernel_rfl) (fun _ _ _ h => h) (Or.inl ⟨by rfl, ?_⟩) (by assumption) ?_
            rotate_left
            · intro wq hSw; (try dsimp only at hSw); (try obtain ⟨q0, q1, q2, q3, q4, q5, q6⟩ := HSC.out wq hSw); first | (go_simp; done) | (go_simp; with_reducible rfl) | with_reducible rfl
            go_simp
            refine wpAnyL_take (i := 2) (v := ?_) rfl (by kernel_rfl) (by kernel_rfl) (by kernel_rfl) (by kernel_rfl) (by kernel_rfl) (fun _ _ _ h => h) (Or.inl ⟨by rfl, ?_⟩) (by assumption) ?_
            rotate_left
            · intro wq hSw; (try dsimp only at hSw); (try obtain ⟨q0, q1, q2, q3, q4, q5, q6⟩ := HSC.out wq hSw); first | (go_simp; done) | (go_simp; with_reducible rfl) | with_reducible rfl
            go_simp
            refine wpAnyL_take (i := 3) (v := ?_) rfl (by kernel_rfl) (by kernel_rfl) (by kernel_rfl) (by kernel_rfl) (by kernel_rfl) (fun _ _ _ h => h) (Or.inl ⟨by rfl, ?_⟩) (by assumption) ?_
            rotate_left
            · intro wq hSw; (try dsimp only at hSw); (try obtain ⟨q0, q1, q2, q3, q4, q5, q6⟩ := HSC.out wq hSw); first | (go_simp; done) | (go_simp; with_reducible rfl) | with_reducible rfl
            go_simp
            refine wpAnyL_take (i := 4) (v := ?_) rfl (by kernel_rfl) (by kernel_rfl) (by kernel_rfl) (by kernel_rfl) (by kernel_rfl) (fun _ _ _ h => h) (Or.inl ⟨by rfl, ?_⟩) (by assumption) ?_
            rotate_left
            · intro wq hSw; (try dsimp only at hSw); (try obtain ⟨q0, q1, q2, q3, q4, q5, q6⟩ := HSC.out wq hSw); first | (go_simp; done) | (go_simp; with_reducible rfl) | with_reducible rfl
            go_simp
            refine wpAnyL_take (i := 5) (v := ?_) rfl (by kernel_rfl) (by kernel_rfl) (by kernel_rfl) (by kernel_rfl) (by kernel_rfl) (fun _ _ _ h => h) (Or.inl ⟨by rfl, ?_⟩) (by assumption) ?_
            rotate_left
            · intro wq hSw; (try dsimp only at hSw); (try obtain ⟨q0, q1, q2, q3, q4, q5, q6⟩ := HSC.out wq hSw); first | (go_simp; done) | (go_simp; with_reducible rfl) | with_reducible rfl
            go_simp
            refine wpAnyL_take (i := 6) (v := ?_) rfl (by kernel_rfl) (by kernel_rfl) (by kernel_rfl) (by kernel_rfl) (by kernel_rfl) (fun _ _ _ h => h) (Or.inl ⟨by rfl, ?_⟩) (by assumption) ?_
            rotate_left
            · intro wq hSw; (try dsimp only at hSw); (try obtain ⟨q0, q1, q2, q3, q4, q5, q6⟩ := HSC.out wq hSw); first | (go_simp; done) | (go_simp; with_reducible rfl) | with_reducible rfl
            go_simp
            refine wpAnyL_take (i := 7) (v := ?_) rfl (by kernel_rfl) (by kernel_rfl) (by kernel_rfl) (by kernel_rfl) (by kernel_rfl) (fun _ _ _ h => h) (Or.inl ⟨by rfl, ?_⟩) (by assumption) ?_
            rotate_left
            · intro wq hSw; (try dsimp only at hSw); (try obtain ⟨q0, q1, q2, q3, q4, q5, q6⟩ := HSC.out wq hSw); first | (go_simp; done) | (go_simp; with_reducible rfl) | with_reducible rfl
            go_simp
            refine wpAnyL_take (i := 8) (v := ?_) rfl (by kernel_rfl) (by kernel_rfl) (by kernel_rfl) (by kernel_rfl) (by kernel_rfl) (fun _ _ _ h => h) (Or.inl ⟨by rfl, ?_⟩) (by assumption) ?_
            rotate_left
            · intro wq hSw; (try dsimp only at hSw); (try obtain ⟨q0, q1, q2, q3, q4, q5, q6⟩ := HSC.out wq hSw); first | (go_simp; done) | (go_simp; with_reducible rfl) | with_reducible rfl
            go_simp
            refine wpAnyL_take (i := 9) (v := ?_) rfl (by kernel_rfl) (by kernel_rfl) (by kernel_rfl) (by kernel_rfl) (by kernel_rfl) (fun _ _ _ h => h) (Or.inl ⟨by rfl, ?_⟩) (by assumption) ?_
            rotate_left
            · intro wq hSw; (try dsimp only at hSw); (try obtain ⟨q0, q1, q2, q3, q4, q5, q6⟩ := HSC.out wq hSw); first | (go_simp; done) | (go_simp; with_reducible rfl) | with_reducible rfl
            go_simp
            refine wpAnyL_take (i := 10) (v := ?_) rfl (by kernel_rfl) (by kernel_rfl) (by kernel_rfl) (by kernel_rfl) (by kernel_rfl) (fun _ _ _ h => h) (Or.inl ⟨by rfl, ?_⟩) (by assumption) ?_
            rotate_left
            · intro wq hSw; (try dsimp only at hSw); (try obtain ⟨q0, q1, q2, q3, q4, q5, q6⟩ := HSC.out wq hSw); first | (go_simp; done) | (go_simp; with_reducible rfl) | with_reducible rfl
            go_simp
            refine wpAnyL_take (i := 11) (v := ?_) rfl (by kernel_rfl) (by kernel_rfl) (by kernel_rfl) (by kernel_rfl) (by kernel_rfl) (fun _ _ _ h => h) (Or.inl ⟨by rfl, ?_⟩) (by assumption) ?_
            rotate_left
            · intro wq hSw; (try dsimp only at hSw); (try obtain ⟨q0, q1, q2, q3, q4, q5, q6⟩ := HSC.out wq hSw); first | (go_simp; done) | (go_simp; with_reducible rfl) | with_reducible rfl
            go_simp
            refine wpAnyL_take (i := 12) (v := ?_) rfl (by kernel_rfl) (by kernel_rfl) (by kernel_rfl) (by kernel_rfl) (by kernel_rfl) (fun _ _ _ h => h) (Or.inl ⟨by rfl, ?_⟩) (by assumption) ?_
            rotate_left
            · intro wq hSw; (try dsimp only at hSw); (try obtain ⟨q0, q1, q2, q3, q4, q5, q6⟩ := HSC.out wq hSw); first | (go_simp; done) | (go_simp; with_reducible rfl) | with_reducible rfl
            go_simp
            refine wpAnyL_take (i := 13) (v := ?_) rfl (by kernel_rfl) (by kernel_rfl) (by kernel_rfl) (by kernel_rfl) (by kernel_rfl) (fun _ _ _ h => h) (Or.inl ⟨by rfl, ?_⟩) (by assumption) ?_
            rotate_left
            · intro wq hSw; (try dsimp only at hSw); (try obtain ⟨q0, q1, q2, q3, q4, q5, q6⟩ := HSC.out wq hSw); first | (go_simp; done) | (go_simp; with_reducible rfl) | with_reducible rfl
            go_simp
            refine wpAnyL_take (i := 14) (v := ?_) rfl (by kernel_rfl) (by kernel_rfl) (by kernel_rfl) (by kernel_rfl) (by kernel_rfl) (fun _ _ _ h => h) (Or.inl ⟨by rfl, ?_⟩) (by assumption) ?_
            rotate_left
            · intro wq hSw; (try dsimp only at hSw); (try obtain ⟨q0, q1, q2, q3, q4, q5, q6⟩ := HSC.out wq hSw); first | (go_simp; done) | (go_simp; with_reducible rfl) | with_reducible rfl
            go_simp
            refine wpAnyL_take (i := 15) (v := ?_) rfl (by kernel_rfl) (by kernel_rfl) (by kernel_rfl) (by kernel_rfl) (by kernel_rfl) (fun _ _ _ h => h) (Or.inl ⟨by rfl, ?_⟩) (by assumption) ?_
            rotate_left
            · intro wq hSw; (try dsimp only at hSw); (try obtain ⟨q0, q1, q2, q3, q4, q5, q6⟩ := HSC.out wq hSw); first | (go_simp; done) | (go_simp; with_reducible rfl) | with_reducible rfl
            go_simp
            refine wpAnyL_ready (rs := [16]) (by kernel_rfl) (by simp) ?_
            refine (AllReadyL.cons rfl (fun K hK => ?_) AllReadyL.nil)
            obtain ⟨cm, v1, hcv, hby, hbz⟩ := HTB.out v0
            go_simp
            have HBv1 := Lib.hid (kF hbz HBv0.out)
            have HY := Lib.hid hby
            clear hby hcv
            refine hK.out _ _ ?_ (fun hHeld => ?_)
            · (try dsimp only); exact HBv1.out
            clear hK K
            clear hbz
            generalize v0.heap.size = bc at *
            refine wpAnyL_ready (rs := [17]) (by kernel_rfl) (by simp) ?_
            refine AllReadyL.last rfl (fun K hK => ?_)
            go_simp
            go_wp2_with fail
            refine (HCD.out v1 (uq q) (HDq.out.below HBv1.out) HGT.out _ _ _ HY.out).mono ?_
            rintro e v2 ⟨rfl, hd2, ho2⟩
            rw [HSE.out] at hd2
            have HDz : Hid (DictAt w.heap.size g (uq (min (q + 1) 8)) 0 v2) := Lib.hid (by rw [HGq.out]; exact hd2)
            have HXz := Lib.hid ((HXa.out.below HBv1.out).step ho2)
            have HNz := Lib.hid (ho2.own (own_below HNa.out HBv1.out) not3_R)
            have HWz := Lib.hid (ho2.own (own_below HWa.out HBv1.out) not3_R)
            clear hd2 ho2 HXa HNa HWa HDq
            refine hK.out _ _ ?_
            clear hK K
            refine wpAnyL_done (by kernel_rfl) ?_ _
            clear hHeld
            go_wp2_with fail
            exact ⟨⟨q + 1, R', a', c', by omega, by go_num, HXz, HDz, HNz, HT', HWz⟩, by simp [intOf]; omega⟩
          · have h8I : ¬ (q : Int) < 8 := by omega
            have HDz : Hid (DictAt w.heap.size g (uq (min (q + 1) 8)) 0 vA) := Lib.hid (by have := HDa.out; rwa [show min q 8 = min (q + 1) 8 by omega] at this)
            clear HDa
            go_wp2_with fail
            exact ⟨⟨q + 1, R', a', c', by omega, by go_num, HXa, HDz, HNa, HT', HWa⟩, by simp [intOf]; omega⟩
    · have HT2 : Hid (TieD TLD R) := Lib.hid (by have := HT.out; rwa [show q = 78 by omega] at this)
      have HD2 : Hid (DictAt w.heap.size g (uq 8) 0 wr) := Lib.hid (by have := HD.out; rwa [show min q 8 = 8 by omega] at this)
      have HG8 : Hid (Good (uq 8)) := Lib.hid uq8_good
      go_wp2_with fail
      have hlay := lay_any wr w.heap.size g (uq 8) 0 HD2.out HG8.out HX.out.blw.size
      rw [lay_uq] at hlay
      refine hlay.mono ?_
      rintro e2 y2 ⟨rfl, hd2, ho2⟩
      have HXy := Lib.hid (HX.out.step ho2)
      have HDy := Lib.hid hd2
      have HOy := Lib.hid (ho2.own HO.out not3_R)
      clear hd2 ho2 hlay HX HD HO HRW HT HD2
      obtain ⟨z0, z1⟩ := HXy.out.box.cells
      obtain ⟨u0, u1⟩ := HXy.out.res.cells
      have fz0 := frozen_of_row _ _ 0 _ _ HXy.out.res
      have fz1 := frozen_of_row _ _ 1 _ _ HXy.out.res
      have HZo : Hid (RBox (((y2.setCell ⟨w.heap.size, 0, none⟩ (.slice a R.length c)).setCell ⟨w.heap.size, 1, none⟩ (.int .i64 0))).drew w.heap.size a R.length c 0) := Lib.hid (RBox.below HXy.out.res.two (kD _))
      have HBo : Hid (Both w.heap.size g TLD 0 a c R (((y2.setCell ⟨w.heap.size, 0, none⟩ (.slice a R.length c)).setCell ⟨w.heap.size, 1, none⟩ (.int .i64 0))).drew) := Lib.hid (Both.below ⟨dict_put2 HXy.out.res HDy.out a R.length c (.int .i64 0), own_put2 HXy.out.res HOy.out _ _, HT2.out⟩ (kD _))
      have HBe : Hid (Below w.heap.size w (((y2.setCell ⟨w.heap.size, 0, none⟩ (.slice a R.length c)).setCell ⟨w.heap.size, 1, none⟩ (.int .i64 0))).drew) := Lib.hid (kF (kD _) (Below.setCell (p := ⟨w.heap.size, 1, none⟩) (Below.setCell (p := ⟨w.heap.size, 0, none⟩) HXy.out.blw (Nat.le_refl _) _) (Nat.le_refl _) _))
      clear HT2 HG8 HXy HDy HOy
      go_wp2_with fail
      go_region
      go_wp2_with fail
      exact bodyPost_ret ((results_tmp_cell rfl _ _ w.heap.size _ _ _ _ rfl HZo.out Try.underlying33 rfl info_dct).trans (by rfl)) rfl ⟨g, a, c, R, rfl, HBo.out, HBe.out⟩
end Go.Proofs.Ytgaoplbocjadaaa
