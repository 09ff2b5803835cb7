/- Get on its way. -/
import Derived.Test.YtfccjekhdfpkoaaKk
namespace Go.Proofs.Ytfccjekhdfpkoaa
open Go.RowKit
set_option linter.unusedSimpArgs false
set_option linter.unusedVariables false
set_option maxHeartbeats 4000000
theorem one_msg (c ki ks : Int) (tg la fa su : Bool) (sz n d0 d1 d2 d3 d4 d5 d6 co sq bl sp cr : Int) : (#[.int .i64 c, .int .i64 ki, .int .i64 ks, .bool tg, .bool la, .bool fa, .bool su, .int .i64 sz, .int .i64 n, .int .u8 d0, .int .u8 d1, .int .u8 d2, .int .u8 d3, .int .u8 d4, .int .u8 d5, .int .u8 d6, .int .i64 co, .int .i64 sq, .int .i64 bl, .int .i64 sp, .int .i64 cr] : Array Value).all (·.oneCell') = true := by simp [Value.oneCell']

/-- get on its way: its line, its result's block, its message m, its Reader in block gr. -/
structure GS (w0 : World) (gr : Nat) (bl : List Int) (m : Array Value) (er : Int) (L : List Int) (w : World) : Prop where
  hb : Below w0.heap.size w0 w
  hl : LnAt w w0.heap.size bl
  hr : w.heap[w0.heap.size + 1]? = some (.cells #[.int .i64 0, .int .i64 0, .int .i64 0, .bool false, .bool false, .bool false, .bool false, .int .i64 0, .int .i64 0, .int .u8 0, .int .u8 0, .int .u8 0, .int .u8 0, .int .u8 0, .int .u8 0, .int .u8 0, .int .i64 0, .int .i64 0, .int .i64 0, .int .i64 0, .int .i64 0] 28 (0, 0))
  hm : w.heap[w0.heap.size + 1 + 1]? = some (.cells m 28 (0, 0))
  hq : RB (w0.heap.size + 3) w gr er L
  hg : w0.heap.size + 3 ≤ gr ∧ gr < w.heap.size
section
variable {w0 w w' : World} {gr : Nat} {bl L L' : List Int} {m m' : Array Value} {er er' : Int}
theorem GS.cong (h : GS w0 gr bl m er L w) (e : m = m') : GS w0 gr bl m' er L w := e ▸ h
theorem GS.set (h : GS w0 gr bl m er L w) (k : Nat) (v : Value) : GS w0 gr bl (m.setIfInBounds k v) er L (w.setCell ⟨w0.heap.size + 1 + 1, k, none⟩ v) :=
  ⟨h.hb.setCell (p := ⟨w0.heap.size + 1 + 1, k, none⟩) (show w0.heap.size ≤ w0.heap.size + 1 + 1 by omega) v, (set_other _ (by omega)).trans h.hl, (set_other _ (by omega)).trans h.hr, blk_set h.hm,
   h.hq.other (b := w0.heap.size + 1 + 1) set_other (by omega) h.hg.1, h.hg.1, by simpa using h.hg.2⟩
theorem GS.drew (h : GS w0 gr bl m er L w) : GS w0 gr bl m er L w.drew := by
  obtain ⟨A, c, k1, k2, k3⟩ := h.hq
  exact ⟨h.hb.drew, h.hl, h.hr, h.hm, ⟨A, c, k1, ⟨k2.len, k2.cap, k2.max, k2.rng, k2.cells⟩, k3⟩, h.hg⟩
theorem GS.step (h : GS w0 gr bl m er L w) (hq : RB (w0.heap.size + 3) w' gr er' L') (hg : w.grownBy w' (some gr)) : GS w0 gr bl m er' L' w' := by
  have h1 := h.hg
  have hs : w0.heap.size + 3 ≤ w.heap.size := by omega
  refine ⟨h.hb.grown hg (Nat.le_trans (Nat.le_add_right _ _) hs) (fun k e => by cases e; omega), (hg.block _ (by omega) (by simp; omega)).trans h.hl, (hg.block _ (by omega) (by simp; omega)).trans h.hr, (hg.block _ (by omega) (by simp; omega)).trans h.hm, hq, h1.1, Nat.lt_of_lt_of_le h1.2 hg.size⟩
theorem GS.keep (h : GS w0 gr bl m er L w) (hg : w.grownBy w' (some (w0.heap.size + 1 + 1))) (hm : w'.heap[w0.heap.size + 1 + 1]? = some (.cells m' 28 (0, 0))) : GS w0 gr bl m' er L w' := by
  have h1 := h.hg
  have hs : w0.heap.size + 3 ≤ w.heap.size := by omega
  obtain ⟨A, c, k1, k2, k3⟩ := h.hq
  refine ⟨h.hb.grown hg (Nat.le_trans (Nat.le_add_right _ _) hs) (fun k e => by cases e; omega), (hg.block _ (by omega) (fun e => by injection e with e; omega)).trans h.hl, (hg.block _ (by omega) (fun e => by injection e with e; omega)).trans h.hr, hm, ⟨A, c, (hg.block _ h1.2 (by simp; omega)).trans k1, ⟨k2.len, k2.cap, k2.max, k2.rng, fun hn => ?_⟩, k3⟩, h1.1, Nat.lt_of_lt_of_le h1.2 hg.size⟩
  obtain ⟨b', off, e, hlt, hc⟩ := k2.cells hn
  refine ⟨b', off, e, hlt, fun j hj => ?_⟩
  have := k3 _ _ _ e
  rw [← hc j hj]
  exact World.cell?_of_block (a := ⟨b', off + j, none⟩) (hg.block b' (by show b' < w.heap.size; omega) (by simp; omega))
/-- A step that leaves the Reader anyhow: it is not looked at any more. -/
structure GT (w0 : World) (bl : List Int) (m : Array Value) (w : World) : Prop where
  hb : Below w0.heap.size w0 w
  hl : LnAt w w0.heap.size bl
  hr : w.heap[w0.heap.size + 1]? = some (.cells #[.int .i64 0, .int .i64 0, .int .i64 0, .bool false, .bool false, .bool false, .bool false, .int .i64 0, .int .i64 0, .int .u8 0, .int .u8 0, .int .u8 0, .int .u8 0, .int .u8 0, .int .u8 0, .int .u8 0, .int .i64 0, .int .i64 0, .int .i64 0, .int .i64 0, .int .i64 0] 28 (0, 0))
  hm : w.heap[w0.heap.size + 1 + 1]? = some (.cells m 28 (0, 0))
theorem GS.off (h : GS w0 gr bl m er L w) : GT w0 bl m w := ⟨h.hb, h.hl, h.hr, h.hm⟩
theorem GS.goes (h : GS w0 gr bl m er L w) (hg : w.grownBy w' (some gr)) : GT w0 bl m w' := by
  have h1 := h.hg
  have hs : w0.heap.size + 3 ≤ w.heap.size := by omega
  exact ⟨h.hb.grown hg (Nat.le_trans (Nat.le_add_right _ _) hs) (fun k e => by cases e; omega), (hg.block _ (by omega) (by simp; omega)).trans h.hl, (hg.block _ (by omega) (by simp; omega)).trans h.hr, (hg.block _ (by omega) (by simp; omega)).trans h.hm⟩
theorem GT.cong (h : GT w0 bl m w) (e : m = m') : GT w0 bl m' w := e ▸ h
theorem GT.set (h : GT w0 bl m w) (k : Nat) (v : Value) : GT w0 bl (m.setIfInBounds k v) (w.setCell ⟨w0.heap.size + 1 + 1, k, none⟩ v) :=
  ⟨h.hb.setCell (p := ⟨w0.heap.size + 1 + 1, k, none⟩) (show w0.heap.size ≤ w0.heap.size + 1 + 1 by omega) v, (set_other _ (by omega)).trans h.hl, (set_other _ (by omega)).trans h.hr, blk_set h.hm⟩
theorem GT.keep (h : GT w0 bl m w) (hs : w0.heap.size + 1 + 1 < w.heap.size) (hg : w.grownBy w' (some (w0.heap.size + 1 + 1))) (hm : w'.heap[w0.heap.size + 1 + 1]? = some (.cells m' 28 (0, 0))) : GT w0 bl m' w' :=
  ⟨h.hb.grown hg (by omega) (fun k e => by cases e; omega), (hg.block _ (by omega) (fun e => by injection e with e; omega)).trans h.hl, (hg.block _ (by omega) (fun e => by injection e with e; omega)).trans h.hr, hm⟩
theorem GT.cell (h : GT w0 bl m w) (k : Nat) : w.cell? ⟨w0.heap.size + 1 + 1, k, none⟩ = m[k]? := by rw [cell_of_row _ _ _ _ _ _ h.hm]
theorem GT.frozen (h : GT w0 bl m w) (k : Nat) : w.frozen? ⟨w0.heap.size + 1 + 1, k, none⟩ = false := frozen_of_row _ _ _ _ _ h.hm
theorem GT.line (h : GT w0 bl m w) (k : Nat) : w.cell? ⟨w0.heap.size, k, none⟩ = (lnA bl)[k]? := by rw [cell_of_row _ _ _ _ _ _ h.hl]
theorem GT.lt (h : GT w0 bl m w) : w0.heap.size + 1 + 1 < w.heap.size := (Array.getElem?_eq_some_iff.1 h.hm).1
end
/-- One cell is stored into a block. -/
theorem wp_store_cell {o : Oper} {a : Act} {w : World} {K : Act → World → Prop} {Q : Exit → Act → World → Prop} {ty : TypeId} {x y : Operand} (ho : o.op = .store ty x y)
    {g off t : Nat} {v : Value} {cs : Array Value} (hx : a.eval x = .pointer (some ⟨g, off, none⟩)) (hy : a.eval y = v) (hg : w.heap[g]? = some (.cells cs t (0, 0))) (hi : (Try.prog.info? ty).map (·.size) = some 1)
    (hfit : off + 1 ≤ cs.size) (h1 : v.oneCell' = true) (h : K (a.put o.dst undef) (w.setCell ⟨g, off, none⟩ v)) : o.wp Try.prog a w K Q := by
  have hst := run_stores (P := Try.prog) (o := off) hg [v] (by simpa using hfit) (fun z hz => by simp at hz; subst hz; assumption)
  have hc : v.cells = #[v] := by cases v <;> first | rfl | cases h1
  cases hq : Try.prog.info? ty with
  | none => simp [hq] at hi
  | some i =>
    have hs : i.size = 1 := by simpa [hq] using hi
    have hr : (storeVar ty ⟨g, off, none⟩ v).run Try.prog w = .ok () (w.setCell ⟨g, off, none⟩ v) := by
      simp [storeVar, sizeOf, typeInfo, hq, hc, hs, hst]
      rfl
    unfold Oper.wp execOp
    simp only [ho, hx, hy, Instr.storeAt, Instr.sureAddr, Sem.run_bind, Sem.run_pure, Result.andThen_ok, hr]
    exact h
theorem info_bool : (Try.prog.info? 4).map (·.size) = some 1 := by kernel_rfl
theorem info_int : (Try.prog.info? 3).map (·.size) = some 1 := by kernel_rfl
theorem wrap_u8 {b : Int} (h : 0 ≤ b ∧ b ≤ 255) : IntKind.i64.wrap b = b := by
  have : ((2 : Int) ^ IntKind.i64.bits) = 18446744073709551616 := by decide
  have h2 : ((2 : Int) ^ (IntKind.i64.bits - 1)) = 9223372036854775808 := by decide
  unfold IntKind.wrap
  simp only [this, h2]
  have e : b % 18446744073709551616 = b := by omega
  rw [e, if_neg]
  simp
  intro _
  omega
/-- A message into whose Data bytes were copied. -/
theorem ms_copied (c ki ks : Int) (tg la fa su : Bool) (sz n co sq bl sp cr : Int) {l : List Int} {cur' : Array Value} (h2 : cur'.size = 21)
    (h3 : ∀ i, cur'[i]? = if 9 ≤ i ∧ i < 9 + min l.length 7 then some (.int .u8 (l.getD (i - 9) 0)) else (#[.int .i64 c, .int .i64 ki, .int .i64 ks, .bool tg, .bool la, .bool fa, .bool su, .int .i64 sz, .int .i64 n, .int .u8 0, .int .u8 0, .int .u8 0, .int .u8 0, .int .u8 0, .int .u8 0, .int .u8 0, .int .i64 co, .int .i64 sq, .int .i64 bl, .int .i64 sp, .int .i64 cr] : Array Value)[i]?) : cur' = #[.int .i64 c, .int .i64 ki, .int .i64 ks, .bool tg, .bool la, .bool fa, .bool su, .int .i64 sz, .int .i64 n, .int .u8 (l.getD 0 0), .int .u8 (l.getD 1 0), .int .u8 (l.getD 2 0), .int .u8 (l.getD 3 0), .int .u8 (l.getD 4 0), .int .u8 (l.getD 5 0), .int .u8 (l.getD 6 0), .int .i64 co, .int .i64 sq, .int .i64 bl, .int .i64 sp, .int .i64 cr] := by
  apply Array.ext_getElem?
  intro i
  rw [h3]
  by_cases hi : i < 9
  · rw [if_neg (by omega)]
    have : i = 0 ∨ i = 1 ∨ i = 2 ∨ i = 3 ∨ i = 4 ∨ i = 5 ∨ i = 6 ∨ i = 7 ∨ i = 8 := by omega
    rcases this with rfl | rfl | rfl | rfl | rfl | rfl | rfl | rfl | rfl <;> rfl
  by_cases hj : i < 16
  · by_cases hl : i - 9 < l.length
    · rw [if_pos (by omega)]
      have : i = 9 ∨ i = 10 ∨ i = 11 ∨ i = 12 ∨ i = 13 ∨ i = 14 ∨ i = 15 := by omega
      rcases this with rfl | rfl | rfl | rfl | rfl | rfl | rfl <;> rfl
    · rw [if_neg (by omega)]
      have e : l.getD (i - 9) 0 = 0 := by simp [List.getD, List.getElem?_eq_none (show l.length ≤ i - 9 by omega)]
      have : i = 9 ∨ i = 10 ∨ i = 11 ∨ i = 12 ∨ i = 13 ∨ i = 14 ∨ i = 15 := by omega
      rcases this with rfl | rfl | rfl | rfl | rfl | rfl | rfl
      all_goals (simp only [Nat.reduceSub] at e; simp only [e]; rfl)
  · rw [if_neg (by omega)]
    by_cases hk : i < 21
    · have : i = 16 ∨ i = 17 ∨ i = 18 ∨ i = 19 ∨ i = 20 := by omega
      rcases this with rfl | rfl | rfl | rfl | rfl <;> rfl
    · rw [Array.getElem?_eq_none (by simp; omega), Array.getElem?_eq_none (by simp; omega)]
/-- A message's Data of which the first bytes are told. -/
def dA (l : List Int) (i : Nat) : Int := l.getD i 0
end Go.Proofs.Ytfccjekhdfpkoaa
