/- The document's Add: what it answers. -/
import Derived.Test.YtgaoplbocjadaaaYDz
import Derived.Test.YtgaoplbocjadaaaYDzd
import Derived.Deep.CutBlock
namespace Go.Proofs.Ytgaoplbocjadaaa
open Go.RowKit
set_option linter.unusedSimpArgs false
set_option linter.unusedVariables false
def refB (k a lo hi : Int) (l : List Int) : List Int := if l = [] ∧ ¬ fitsA k a lo hi l = 0 then firL k a lo hi else l
/-- What lies in Add's own blocks. -/
structure AddAt (w : World) (a : Option Addr) (n c : Nat) (ch i j k ac lo hi : Int) (x : World) : Prop where
  dict : RBox x w.heap.size a n c ch
  key : Key2 x (w.heap.size + 1) i j
  spc : Spc x (w.heap.size + 2) k ac lo hi
  zero : RBox x (w.heap.size + 3) none 0 0 0
  bel : Below w.heap.size w x
theorem AddAt.below {w x y : World} {a : Option Addr} {n c : Nat} {ch i j k ac lo hi : Int} (h : AddAt w a n c ch i j k ac lo hi x) (hb : Below x.heap.size x y) : AddAt w a n c ch i j k ac lo hi y :=
  ⟨h.dict.below hb, h.key.below hb, h.spc.below hb, h.zero.below hb, kF hb h.bel⟩
theorem wp_append_none {P : Program} {w : World} {o : Oper} {a : Act} {K : Act → World → Prop} {Q : Exit → Act → World → Prop} (s x : Operand) (t : TypeId)
    (ho : o.op = .call { callee := .builtin .append, args := #[s, x], argTypes := #[t, t] })
    (base : Nat) (e : TypeId) (i : TypeInfo) (size : Nat) (ht : P.underlying t = some (.slice e)) (hi : P.info? e = some i)
    (v : Value) (n : Nat) (xs : List Value) (hs : a.eval s = v) (hown : w.ownsRow base e size v n xs) (hx : a.eval x = .slice none 0 0) (h : K (a.put o.dst v) w) : o.wp P a w K Q := by
  have hrun := run_append_owned_none (P := P) (w := w) base t o.type e i size ht hi v n xs hown
  unfold Oper.wp
  simp [execOp, ho, resolve, invoke, builtin, hs, hx, hrun, Result.andThen]
  exact h
theorem row_cells {X : World} {g : Nat} {i j k a lo hi : Int} {S : ByteArray} (hg : X.heap[g]? = some (.cells #[.int .i64 i, .int .i64 j, .int .i64 k, .int .i64 a, .int .i64 lo, .int .i64 hi, .string S] 77 (0, 0))) : ∀ jj u, ([.int .i64 i, .int .i64 j, .int .i64 k, .int .i64 a, .int .i64 lo, .int .i64 hi, .string S] : List Value)[jj]? = some u → X.cell? ((⟨g, 0, none⟩ : Addr).add jj) = some u := fun jj u h => by
  rw [add_plainR, Nat.zero_add, cell_of_row _ _ _ _ _ _ hg]
  simpa using h
theorem row_num {i j : Int} (h : 1 ≤ i ∧ i ≤ 65535 ∧ 0 ≤ j ∧ j ≤ 255) (E : Ent) : rowR (numI i j, E) = [.int .i64 i, .int .i64 j, .int .i64 E.k, .int .i64 E.a, .int .i64 E.lo, .int .i64 E.hi, .string (strOfNums E.b)] := by
  unfold rowR
  rw [numI_yes h, show (i * 256 + j) / 256 = i by omega, show (i * 256 + j) % 256 = j by omega]
theorem add_end {w x : World} {base n c c2 g2 : Nat} {a : Option Addr} {ch i j k ac lo hi q : Int} {R : List (Int × Ent)} {E : Ent} (h : AddAt w a n c ch i j k ac lo hi x) (hR : n = R.length) (hbase : base ≤ w.heap.size) (ho : x.ownsRow w.heap.size 77 7 (.slice (some ⟨g2, 0, none⟩) (n + 1) c2) (n + 1) (fr R ++ rowR (q, E))) :
    AddAt w (some ⟨g2, 0, none⟩) (n + 1) c2 ch i j k ac lo hi (x.setCell ⟨w.heap.size, 0, none⟩ (.slice (some ⟨g2, 0, none⟩) (n + 1) c2)) ∧
    RefP w base (R ++ [(q, E)]) ch 0 (.returned (.tuple #[.agg #[.slice (some ⟨g2, 0, none⟩) (n + 1) c2, .int .i64 ch], .int .i64 0])) (((x.setCell ⟨w.heap.size, 0, none⟩ (.slice (some ⟨g2, 0, none⟩) (n + 1) c2)).setCell ⟨w.heap.size + 3, 0, none⟩ (.slice (some ⟨g2, 0, none⟩) (n + 1) c2)).setCell ⟨w.heap.size + 3, 1, none⟩ (.int .i64 ch)) := by
  have hA : AddAt w (some ⟨g2, 0, none⟩) (n + 1) c2 ch i j k ac lo hi (x.setCell ⟨w.heap.size, 0, none⟩ (.slice (some ⟨g2, 0, none⟩) (n + 1) c2)) :=
    ⟨h.dict.sl, (heap_other _ _ _ _ (by simp)).trans h.key, (heap_other _ _ _ _ (by simp)).trans h.spc, h.zero.off _ _ (by simp), h.bel.setCell (p := ⟨w.heap.size, 0, none⟩) (Nat.le_refl _) _⟩
  refine ⟨hA, RefP.of_hold (w1 := w) (base := base) (by rw [List.length_append, hR]; rfl) ?_ hA.zero hA.bel hbase (by omega)⟩
  have hs : fr (R ++ [(q, E)]) = fr R ++ rowR (q, E) := by rw [fr_append]; simp [fr]
  rw [hs]
  exact ownsRow_setCell_other ho (a := ⟨w.heap.size, 0, none⟩) (own_ne (w' := x) ho h.dict) _
def AddR (w : World) (base : Nat) (R : List (Int × Ent)) (ch i j k a lo hi : Int) (l : List Int) (e : Ending) (w' : World) : Prop :=
  ((okN i j = false ∨ mayB k a lo hi = false) ∧ RefP w base R ch 2 e w') ∨ (okN i j = true ∧ mayB k a lo hi = true ∧
    ((¬ fitsA k a lo hi (refB k a lo hi l) = 0 ∧ RefP w base R ch 14 e w') ∨ (fitsA k a lo hi (refB k a lo hi l) = 0 ∧
      (((∃ x ∈ R, x.1 = numI i j) ∧ RefP w base R ch 8 e w') ∨ ((∀ x ∈ R, ¬ x.1 = numI i j) ∧
        ((R.length = 512 ∧ RefP w base R ch 6 e w') ∨ (¬ R.length = 512 ∧ RefP w base (R ++ [(numI i j, ⟨k, a, lo, hi, refB k a lo hi l⟩)]) ch 0 e w')))))))
end Go.Proofs.Ytgaoplbocjadaaa