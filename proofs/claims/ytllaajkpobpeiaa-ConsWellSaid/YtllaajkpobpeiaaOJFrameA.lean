/- Frames as they lie in memory; what cleared and both Checks answer. -/
import Derived.Test.YtllaajkpobpeiaaOJBase3
import Derived.Test.YtllaajkpobpeiaaOJWordG
import Derived.Test.YtllaajkpobpeiaaProg
import Derived.Laws.IdiomCopy
import Derived.Lib.SliceRun
import Derived.Laws.StructEq
import Derived.Deep.RegionHeld3
import Derived.IntWalk
import Derived.Laws.CopyOwn
namespace Go.Proofs.Ytllaajkpobpeiaa
open Go.RowKit
/-- Block g is one frame. -/
def FrAt (w : World) (g : Nat) (id : Int) (r : Bool) (n : Int) (d : Nat → Int) : Prop := w.heap[g]? = some (.cells #[.int .i64 id, .bool r, .int .i64 n, .int .u8 (d 0), .int .u8 (d 1), .int .u8 (d 2), .int .u8 (d 3), .int .u8 (d 4), .int .u8 (d 5), .int .u8 (d 6), .int .u8 (d 7)] 57 (0, 0))
section
variable {w w' : World} {g : Nat} {id n : Int} {r : Bool} {d : Nat → Int}
theorem FrAt.lt (h : FrAt w g id r n d) : g < w.heap.size := (Array.getElem?_eq_some_iff.1 h).1
theorem FrAt.cell (h : FrAt w g id r n d) (k : Nat) : w.cell? ⟨g, k, none⟩ = (#[.int .i64 id, .bool r, .int .i64 n, .int .u8 (d 0), .int .u8 (d 1), .int .u8 (d 2), .int .u8 (d 3), .int .u8 (d 4), .int .u8 (d 5), .int .u8 (d 6), .int .u8 (d 7)] : Array Value)[k]? := by rw [cell_of_row _ _ _ _ _ _ h]
theorem FrAt.frozen (h : FrAt w g id r n d) (i : Nat) : w.frozen? ⟨g, i, none⟩ = false := frozen_of_row _ _ _ _ _ h
theorem FrAt.below {B : Nat} (h : FrAt w g id r n d) (hb : Below B w w') (hg : g < B) : FrAt w' g id r n d := (hb.block g hg).trans h
theorem FrAt.cells (h : FrAt w g id r n d) : w.cell? ⟨g, 0, none⟩ = some (.int .i64 id) ∧ w.cell? ⟨g, 1, none⟩ = some (.bool r) ∧ w.cell? ⟨g, 2, none⟩ = some (.int .i64 n) ∧ w.cell? ⟨g, 3, none⟩ = some (.int .u8 (d 0)) ∧ w.cell? ⟨g, 4, none⟩ = some (.int .u8 (d 1)) ∧ w.cell? ⟨g, 5, none⟩ = some (.int .u8 (d 2)) ∧ w.cell? ⟨g, 6, none⟩ = some (.int .u8 (d 3)) ∧ w.cell? ⟨g, 7, none⟩ = some (.int .u8 (d 4)) ∧ w.cell? ⟨g, 8, none⟩ = some (.int .u8 (d 5)) ∧ w.cell? ⟨g, 9, none⟩ = some (.int .u8 (d 6)) ∧ w.cell? ⟨g, 10, none⟩ = some (.int .u8 (d 7)) :=
  ⟨h.cell 0, h.cell 1, h.cell 2, h.cell 3, h.cell 4, h.cell 5, h.cell 6, h.cell 7, h.cell 8, h.cell 9, h.cell 10⟩
theorem FrAt.byte (h : FrAt w g id r n d) {i : Nat} (hi : i < 8) : w.cell? ⟨g, 3 + i, none⟩ = some (.int .u8 (d i)) := by
  rw [h.cell]
  match i, hi with
  | 0, _ => rfl
  | 1, _ => rfl
  | 2, _ => rfl
  | 3, _ => rfl
  | 4, _ => rfl
  | 5, _ => rfl
  | 6, _ => rfl
  | 7, _ => rfl
theorem FrAt.set (h : FrAt w g id r n d) {i : Nat} (hi : i < 8) (v : Int) : FrAt (w.setCell ⟨g, 3 + i, none⟩ (.int .u8 v)) g id r n (fun j => if j = i then v else d j) := by
  unfold FrAt at h ⊢
  match i, hi with
  | 0, _ => simp [World.setCell, Array.getElem?_modify, h]
  | 1, _ => simp [World.setCell, Array.getElem?_modify, h]
  | 2, _ => simp [World.setCell, Array.getElem?_modify, h]
  | 3, _ => simp [World.setCell, Array.getElem?_modify, h]
  | 4, _ => simp [World.setCell, Array.getElem?_modify, h]
  | 5, _ => simp [World.setCell, Array.getElem?_modify, h]
  | 6, _ => simp [World.setCell, Array.getElem?_modify, h]
  | 7, _ => simp [World.setCell, Array.getElem?_modify, h]
theorem FrAt.congr {d' : Nat → Int} (h : FrAt w g id r n d) (e : ∀ j, j < 8 → d j = d' j) : FrAt w g id r n d' := by
  unfold FrAt at h ⊢
  rw [h, e 0 (by omega), e 1 (by omega), e 2 (by omega), e 3 (by omega), e 4 (by omega), e 5 (by omega), e 6 (by omega), e 7 (by omega)]
end
/-- Some bytes are stored, one behind the other. -/
theorem FrAt.sets {g : Nat} {id n : Int} {r : Bool} : ∀ (l : List Int) {w : World} {d : Nat → Int} (k : Nat), k + l.length ≤ 8 → FrAt w g id r n d → FrAt (w.setCells g (3 + k) (l.map (Value.int .u8))) g id r n (fun j => if k ≤ j ∧ j < k + l.length then l.getD (j - k) 0 else d j)
  | [], w, d, k, _, h => h.congr fun j _ => by rw [if_neg (by simp only [List.length_nil]; omega)]
  | x :: l, w, d, k, hk, h => by
    simp only [List.length_cons] at hk
    have h1 := FrAt.sets l (k + 1) (by omega) (h.set (i := k) (by omega) x)
    show FrAt ((w.setCell ⟨g, 3 + k, none⟩ (.int .u8 x)).setCells g (3 + k + 1) (l.map (Value.int .u8))) g id r n _
    rw [show 3 + k + 1 = 3 + (k + 1) by omega]
    refine h1.congr fun j _ => ?_
    simp only [List.length_cons]
    by_cases e : j = k
    · subst e
      rw [if_neg (by omega), if_pos rfl, if_pos (by omega), Nat.sub_self]
      first | done | rfl
    · by_cases h2 : k + 1 ≤ j ∧ j < k + 1 + l.length
      · rw [if_pos h2, if_pos (by omega)]
        obtain ⟨m, hm⟩ : ∃ m, j - k = m + 1 := ⟨j - k - 1, by omega⟩
        rw [hm, show j - (k + 1) = m by omega, List.getD_cons_succ]
      · rw [if_neg h2, if_neg e, if_neg (by omega)]
theorem setCells_below {B : Nat} : ∀ (l : List Value) {w0 w : World} (g o : Nat), B ≤ g → Below B w0 w → Below B w0 (w.setCells g o l)
  | [], _, _, _, _, _, h => h
  | x :: l, _, _, g, o, hg, h => setCells_below l g (o + 1) hg (h.setCell (p := ⟨g, o, none⟩) hg x)
theorem setCells_heap : ∀ (l : List Value) (w : World) (g o : Nat), (w.setCells g o l).heap.size = w.heap.size
  | [], _, _, _ => rfl
  | x :: l, w, g, o => by
    show ((w.setCell ⟨g, o, none⟩ x).setCells g (o + 1) l).heap.size = _
    rw [setCells_heap l]; simp
theorem setCells_grown : ∀ (l : List Value) {w0 w : World} (g o : Nat), w0.grownBy w (some g) → w0.grownBy (w.setCells g o l) (some g)
  | [], _, _, _, _, h => h
  | x :: l, _, w, g, o, h => setCells_grown l g (o + 1) ⟨h.os, h.tape, h.output, by simp; exact h.size, fun k hk hne => by
      rw [← h.block k hk hne]
      have : k ≠ g := fun e => hne (by rw [e])
      simp [World.setCell, Array.getElem?_modify, Ne.symm this]⟩
theorem FrAt.grown {w w' : World} {g g' : Nat} {id n : Int} {r : Bool} {d : Nat → Int} (h : FrAt w g id r n d) (hb : w.grownBy w' (some g')) (hne : g ≠ g') : FrAt w' g id r n d := (hb.block g h.lt (by simpa using hne)).trans h
theorem FrAt.row {w : World} {g : Nat} {id n : Int} {r : Bool} {d : Nat → Int} (h : FrAt w g id r n d) (id' n' : Int) (r' : Bool) (d' : Nat → Int) : FrAt (w.setRow g #[.int .i64 id', .bool r', .int .i64 n', .int .u8 (d' 0), .int .u8 (d' 1), .int .u8 (d' 2), .int .u8 (d' 3), .int .u8 (d' 4), .int .u8 (d' 5), .int .u8 (d' 6), .int .u8 (d' 7)]) g id' r' n' d' := setRow_heap w g _ _ _ (0, 0) h
theorem FrAt.row_other {w : World} {g g' : Nat} {id n : Int} {r : Bool} {d : Nat → Int} (h : FrAt w g id r n d) (hne : g ≠ g') (cs : Array Value) : FrAt (w.setRow g' cs) g id r n d := (setRow_other w g' g cs hne).trans h
theorem below_grown {B g : Nat} {w0 w w' : World} (hb : Below B w0 w) (hg : w.grownBy w' (some g)) (h : B ≤ g) (h2 : B ≤ w.heap.size) : Below B w0 w' := hb.grown hg h2 fun k e => by cases e; exact h
theorem one_frame (id n : Int) (r : Bool) (d : Nat → Int) : (#[.int .i64 id, .bool r, .int .i64 n, .int .u8 (d 0), .int .u8 (d 1), .int .u8 (d 2), .int .u8 (d 3), .int .u8 (d 4), .int .u8 (d 5), .int .u8 (d 6), .int .u8 (d 7)] : Array Value).all (·.oneCell') = true := by simp [Value.oneCell']
theorem info_frame : (Try.prog.info? 57).map (·.size) = some 11 := by kernel_rfl
theorem frame_new (w : World) (id n : Int) (r : Bool) (d : Nat → Int) : FrAt (w.alloc (.cells #[.int .i64 id, .bool r, .int .i64 n, .int .u8 (d 0), .int .u8 (d 1), .int .u8 (d 2), .int .u8 (d 3), .int .u8 (d 4), .int .u8 (d 5), .int .u8 (d 6), .int .u8 (d 7)] 57)) w.heap.size id r n d := heap_alloc_new w _

/-- What is left of a frame's bytes where k of them count. -/
def cut (d : Nat → Int) (k : Int) (j : Nat) : Int := if (j : Int) < k then d j else 0
theorem zero_byte (w : World) : (zeroValue 5).run Try.prog w = .ok (.int .u8 0) w := by kernel_rfl

/-- clear over the last bytes of a frame. -/
theorem wpList_clear {wr : World} {ops : Array Oper} {rest : List Oper} {o : Oper} {a : Act} {Q : Exit → Act → World → Prop} {g k c : Nat} {id n : Int} {r : Bool} {d : Nat → Int} (hgd : o.guard = none) (s : Operand)
    (ho : o.op = .call { callee := .builtin .clear, args := #[s], argTypes := #[43] }) {off m : Nat} (hs : a.eval s = .slice (some ⟨g, off, none⟩) m c) (hoff : off = 3 + k) (hm : m = 8 - k) (hk : k < 8) (h : FrAt wr g id r n d)
    (hK : ∀ w', FrAt w' g id r n (cut d k) → wr.grownBy w' (some g) → wpList Try.prog ops Q rest (a.put o.dst (.tuple #[])) w') :
    wpList Try.prog ops Q (o :: rest) a wr := by
  subst hoff hm
  refine wpList_plain hgd fun K hKK => ?_
  have hrun := Lib.run_clear_slice (P := Try.prog) wr 43 5 o.type (.int .u8 0) Try.underlying43 zero_byte rfl rfl g (3 + k) (8 - k) c (by omega)
    (fun j hj => by rw [show 3 + k + j = 3 + (k + j) by omega, h.byte (i := k + j) (by omega)]; rfl) (fun j _ => h.frozen _)
  have e : List.replicate (8 - k) (Value.int .u8 0) = (List.replicate (8 - k) (0 : Int)).map (Value.int .u8) := by simp
  have hf := (h.sets (List.replicate (8 - k) (0 : Int)) k (by simp; omega)).congr (d' := cut d k) fun j hj => by
    unfold cut
    simp only [List.length_replicate]
    by_cases h1 : k ≤ j ∧ j < k + (8 - k)
    · rw [if_pos h1, if_neg (by omega)]
      simp [List.getD, show j - k < 8 - k by omega]
    · rw [if_neg h1, if_pos (by omega)]
  have hb := setCells_grown ((List.replicate (8 - k) (0 : Int)).map (Value.int .u8)) g (3 + k) (World.grownBy.refl wr (some g))
  rw [e] at hrun
  unfold Oper.wp
  simp [execOp, ho, resolve, invoke, builtin, hs, hrun, Result.andThen]
  simp at hf hb
  exact hKK _ _ (hK _ hf hb)
theorem run_clear_none (w : World) (ty : TypeId) (a : Option Addr) (c : Nat) : (Builtin.clear_ #[43] ty #[.slice a 0 c]).run Try.prog w = .ok (.tuple #[]) w := by
  cases a <;> simp [Builtin.clear_, run_underlying Try.underlying43]
theorem wpList_clear_none {wr : World} {ops : Array Oper} {rest : List Oper} {o : Oper} {a : Act} {Q : Exit → Act → World → Prop} {c : Nat} {ad : Option Addr} (hgd : o.guard = none) (s : Operand)
    (ho : o.op = .call { callee := .builtin .clear, args := #[s], argTypes := #[43] }) (hs : a.eval s = .slice ad 0 c) (hK : wpList Try.prog ops Q rest (a.put o.dst (.tuple #[])) wr) : wpList Try.prog ops Q (o :: rest) a wr := by
  refine wpList_plain hgd fun K hKK => ?_
  have hrun := run_clear_none wr o.type ad c
  unfold Oper.wp
  simp [execOp, ho, resolve, invoke, builtin, hs, hrun, Result.andThen]
  exact hKK _ _ hK
end Go.Proofs.Ytllaajkpobpeiaa