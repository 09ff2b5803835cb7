/- What getKey and getSize answer; get up to its switch. -/
import Derived.Test.YtfccjekhdfpkoaaKi
namespace Go.Proofs.Ytfccjekhdfpkoaa
open Go.RowKit
set_option linter.unusedSimpArgs false
set_option linter.unusedVariables false
set_option maxHeartbeats 4000000

theorem blk_set {w : World} {g k : Nat} {cs : Array Value} {t : TypeId} {v : Value} (h : w.heap[g]? = some (.cells cs t (0, 0))) : (w.setCell ⟨g, k, none⟩ v).heap[g]? = some (.cells (cs.setIfInBounds k v) t (0, 0)) := by
  simp [World.setCell, Array.getElem?_modify, h]
theorem grown_alloc {w w' : World} {r : Option Nat} (h : w.grownBy w' r) (x : Obj) : w.grownBy (w'.alloc x) r :=
  grownw_trans h (grownw_below ((Below.refl _ _).alloc (Nat.le_refl _) _))
theorem one_two (a b : Int) : (#[.int .i64 a, .int .i64 b] : Array Value).all (·.oneCell') = true := by simp [Value.oneCell']
/-- A struct is stored into a part of a block: two cells. -/
theorem wp_store_two {o : Oper} {a : Act} {w : World} {K : Act → World → Prop} {Q : Exit → Act → World → Prop} {ty : TypeId} {x y : Operand} (ho : o.op = .store ty x y)
    {g off t : Nat} {u v : Value} {cs : Array Value} (hx : a.eval x = .pointer (some ⟨g, off, none⟩)) (hy : a.eval y = .agg #[u, v]) (hg : w.heap[g]? = some (.cells cs t (0, 0))) (hi : (Try.prog.info? ty).map (·.size) = some 2)
    (hfit : off + 2 ≤ cs.size) (h1 : u.oneCell' = true) (h2 : v.oneCell' = true) (h : K (a.put o.dst undef) ((w.setCell ⟨g, off, none⟩ u).setCell ⟨g, off + 1, none⟩ v)) : o.wp Try.prog a w K Q := by
  have hst := run_stores (P := Try.prog) (o := off) hg [u, v] (by simpa using hfit) (fun z hz => by simp at hz; rcases hz with rfl | rfl <;> assumption)
  cases hq : Try.prog.info? ty with
  | none => simp [hq] at hi
  | some i =>
    have hs : i.size = 2 := by simpa [hq] using hi
    have hr : (storeVar ty ⟨g, off, none⟩ (.agg #[u, v])).run Try.prog w = .ok () ((w.setCell ⟨g, off, none⟩ u).setCell ⟨g, off + 1, none⟩ v) := by
      simp [storeVar, sizeOf, typeInfo, hq, Value.cells, hs, hst]
      rfl
    unfold Oper.wp execOp
    simp only [ho, hx, hy, Instr.storeAt, Instr.sureAddr, Sem.run_bind, Sem.run_pure, Result.andThen_ok, hr]
    exact h
theorem wpList_store_two {ops : Array Oper} {rest : List Oper} {o : Oper} {a : Act} {w : World} {Q : Exit → Act → World → Prop} (hgd : o.guard = none) {ty : TypeId} {x y : Operand} (ho : o.op = .store ty x y)
    {g off t : Nat} {u v : Value} {cs : Array Value} (hx : a.eval x = .pointer (some ⟨g, off, none⟩)) (hy : a.eval y = .agg #[u, v]) (hg : w.heap[g]? = some (.cells cs t (0, 0))) (hi : (Try.prog.info? ty).map (·.size) = some 2)
    (hfit : off + 2 ≤ cs.size) (h1 : u.oneCell' = true) (h2 : v.oneCell' = true) (h : wpList Try.prog ops Q rest (a.put o.dst undef) ((w.setCell ⟨g, off, none⟩ u).setCell ⟨g, off + 1, none⟩ v)) : wpList Try.prog ops Q (o :: rest) a w :=
  wpList_plain hgd fun _ hK => wp_store_two ho hx hy hg hi hfit h1 h2 (hK _ _ h)
/-- A Reader as it is: what is left of its bytes, in a row from block lo on. -/
def RB (lo : Nat) (w : World) (g : Nat) (er : Int) (l : List Int) : Prop := ∃ A c, RdAt w g er A l.length c ∧ Byt w g A l.length c l ∧ ∀ b o s, A = some ⟨b, o, s⟩ → lo ≤ b
theorem RB.num {lo : Nat} {w : World} {g : Nat} {er : Int} {l : List Int} (h : RB lo w g er l) (k : Int) : Calls Try.prog 39 #[.pointer (some ⟨g, 0, none⟩), .int .i64 k] w fun e w' => e = .returned (.int .i64 (rnN er k l)) ∧ RB lo w' g (rnE er k l) (rnL er k l) ∧ w.grownBy w' (some g) := by
  obtain ⟨A, c, h1, h2, h0⟩ := h
  exact (rnum2_any w g er k A _ c l h1 h2).mono fun e w' ⟨A', c', h3, h4, h5, h6, h7⟩ => ⟨h3, ⟨A', c', h4, h5, fun b o s hx => by obtain ⟨o', s', ho⟩ := h7 b o s hx; exact h0 b o' s' ho⟩, h6⟩
theorem RB.raw {lo : Nat} {w : World} {g : Nat} {er : Int} {l : List Int} (h : RB lo w g er l) (hl : l.length ≤ 1000) (k : Int) : Calls Try.prog 38 #[.pointer (some ⟨g, 0, none⟩), .int .i64 k] w fun e w' => ∃ A2 c2, e = .returned (.slice A2 (rrA er k l).length c2) ∧ Byt w' w'.heap.size A2 (rrA er k l).length c2 (rrA er k l) ∧ w.grownBy w' (some g) := by
  obtain ⟨A, c, h1, h2, h0⟩ := h
  exact (rraw_any w g er k A _ c l h1 h2 (by omega)).mono fun e w' ⟨A', c', A2, c2, h3, h4, h5, h6, h7⟩ => ⟨A2, c2, h3, h4, h7⟩
theorem RB.below {lo : Nat} {w w' : World} {g : Nat} {er : Int} {l : List Int} {B : Nat} (h : RB lo w g er l) (hb : Below B w w') (hg : g < B) : RB lo w' g er l := by
  obtain ⟨A, c, h1, h2, h0⟩ := h
  exact ⟨A, c, h1.below hb hg, h2.keep fun b o hlt => hb.cell (p := ⟨b, o, none⟩) (Nat.lt_trans hlt hg), h0⟩
/-- Another block changes. -/
theorem RB.other {lo : Nat} {w w' : World} {g b : Nat} {er : Int} {l : List Int} (h : RB lo w g er l) (hw : ∀ k, k ≠ b → w'.heap[k]? = w.heap[k]?) (hb : b < lo) (hg : lo ≤ g) : RB lo w' g er l := by
  obtain ⟨A, c, h1, h2, h0⟩ := h
  refine ⟨A, c, (hw g (by omega)).trans h1, ⟨h2.len, h2.cap, h2.max, h2.rng, fun hn => ?_⟩, h0⟩
  obtain ⟨b', off, e, hlt, hc⟩ := h2.cells hn
  refine ⟨b', off, e, hlt, fun j hj => ?_⟩
  have := h0 _ _ _ e
  rw [← hc j hj]
  exact World.cell?_of_block (a := ⟨b', off + j, none⟩) (hw b' (by show b' ≠ b; omega))
theorem set_other {w : World} {b k : Nat} {v : Value} : ∀ j, j ≠ b → (w.setCell ⟨b, k, none⟩ v).heap[j]? = w.heap[j]? := fun j hj => by simp [World.setCell, Array.getElem?_modify, Ne.symm hj]
/-- The Key that stands there. -/
def gkI (er : Int) (l : List Int) : Int := rnN er 3 l
def gkS (er : Int) (l : List Int) : Int := rnN (rnE er 3 l) 2 (rnL er 3 l)
def gkE (er : Int) (l : List Int) : Int := rnE (rnE er 3 l) 2 (rnL er 3 l)
def gkL (er : Int) (l : List Int) : List Int := rnL (rnE er 3 l) 2 (rnL er 3 l)
theorem getkey_any {lo : Nat} {w : World} {g : Nat} {er : Int} {l : List Int} (h : RB lo w g er l) (hg : g < w.heap.size) : Calls Try.prog 40 #[.pointer (some ⟨g, 0, none⟩)] w fun e w' => e = .returned (.agg #[.int .i64 (gkI er l), .int .i64 (gkS er l)]) ∧ RB lo w' g (gkE er l) (gkL er l) ∧ w.grownBy w' (some g) := by
  have h1 : RB lo (w.alloc (.cells #[.int .i64 0, .int .i64 0] 24)) g er l := h.below (B := w.heap.size) ((Below.refl _ _).alloc (Nat.le_refl _) _) hg
  have hk : (w.alloc (.cells #[.int .i64 0, .int .i64 0] 24)).heap[w.heap.size]? = some (.cells #[.int .i64 0, .int .i64 0] 24 (0, 0)) := heap_alloc_new w _
  have hgr : w.grownBy (w.alloc (.cells #[.int .i64 0, .int .i64 0] 24)) (some g) := grown_alloc (World.grownBy.refl w _) _
  have hs : w.heap.size < (w.alloc (.cells #[.int .i64 0, .int .i64 0] 24)).heap.size := by simp
  have H1 := Lib.hid h1
  have HK := Lib.hid hk
  have HGR := Lib.hid hgr
  have HS := Lib.hid hs
  have HG := Lib.hid hg
  clear h h1 hk hgr hs hg
  go_enter Try.func40, Try.ntmps40
  go_wp2_with fail
  refine (H1.out.num _).mono ?_
  rintro e w1 ⟨rfl, h2, hg2⟩
  have hk2 := (hg2.block _ HS.out (by have := HG.out; simp; omega)).trans HK.out
  have hs2 := Nat.lt_of_lt_of_le HS.out hg2.size
  have HK2 := Lib.hid hk2
  have H2 := Lib.hid h2
  have HG2 := Lib.hid (grownw_trans HGR.out hg2)
  have HS2 := Lib.hid hs2
  clear hk2 h2 hg2 hs2
  go_wp2_with fail
  refine (H2.out.num _).mono ?_
  rintro e w2 ⟨rfl, h3, hg3⟩
  have hk3 := (hg3.block _ HS2.out (by have := HG.out; simp; omega)).trans HK2.out
  have HK3 := Lib.hid hk3
  have HG3 := Lib.hid (grownw_trans HG2.out hg3)
  have H3 := Lib.hid h3
  clear hk3 hg3 h3
  go_wp2_with (refine wpList_store_row rfl 24 (.tmp 2) (.tmp 9) rfl w.heap.size #[.int .i64 (gkI er l), .int .i64 (gkS er l)] rfl rfl _ _ HK3.out info_key rfl (one_two _ _) ?_)
  have hf := setRow_heap w2 w.heap.size _ #[.int .i64 (gkI er l), .int .i64 (gkS er l)] _ _ HK3.out
  have hA : RB lo (w2.setRow w.heap.size #[.int .i64 (gkI er l), .int .i64 (gkS er l)]) g (gkE er l) (gkL er l) := by
    obtain ⟨A, c, k1, k2, k3⟩ := H3.out
    exact ⟨A, c, (setRow_other _ _ _ _ (by have := HG.out; omega)).trans k1, k2.keep fun b o hlt => cell_setRow_other _ _ _ _ (by have := HG.out; show b ≠ w.heap.size; omega), k3⟩
  have hB : w.grownBy (w2.setRow w.heap.size #[.int .i64 (gkI er l), .int .i64 (gkS er l)]) (some g) := by
    have hq := HG3.out
    exact ⟨hq.os, hq.tape, hq.output, by simpa using hq.size, fun k hk hne => (setRow_other _ _ _ _ (by omega)).trans (hq.block k hk hne)⟩
  exact bodyPost_ret (results_cell_row rfl _ _ w.heap.size _ _ _ _ rfl hf Try.underlying24 rfl info_key) rfl ⟨rfl, hA, hB⟩
/-- A Size that is told, or not. -/
def gsN (told : Bool) (er : Int) (l : List Int) : Int := if told then rnN er 4 l else -1
theorem getsize_any {lo : Nat} {w : World} {g : Nat} {er : Int} {l : List Int} (h : RB lo w g er l) (told : Bool) : Calls Try.prog 41 #[.pointer (some ⟨g, 0, none⟩), .bool told] w fun e w' => e = .returned (.int .i64 (gsN told er l)) ∧ w.grownBy w' (some g) := by
  have H1 := Lib.hid h
  clear h
  cases told
  · go_enter Try.func41, Try.ntmps41
    go_wp2_with fail
    go_ret
    exact ⟨rfl, World.grownBy.refl w _⟩
  · go_enter Try.func41, Try.ntmps41
    go_wp2_with fail
    refine (H1.out.num _).mono ?_
    rintro e w1 ⟨rfl, h2, hg2⟩
    go_wp2_with fail
    go_ret
    exact ⟨rfl, hg2⟩
end Go.Proofs.Ytfccjekhdfpkoaa
