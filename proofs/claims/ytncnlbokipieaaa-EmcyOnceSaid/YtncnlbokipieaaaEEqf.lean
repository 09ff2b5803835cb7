/- A slice of rows of numbers that came in; a queue with two rows beside it. -/
import Derived.Test.YtncnlbokipieaaaEEqc
import Derived.Deep.Slices
import Derived.Lib.SmallJoins
namespace Go.Proofs.Ytncnlbokipieaaa
open Go.RowKit Go.ChangeShapes Go.WideShapes Go.Deep Go.Joins
/-- One row as it lies. -/
structure RowV where
  A : Option Addr
  m : Nat
  c : Nat
  l : List Int
/-- The slice '.slice A n c' of rows of numbers reads as rs. -/
structure NumRows (w : World) (B : Nat) (A : Option Addr) (n c : Nat) (rs : Nat → RowV) : Prop where
  cap : n ≤ c
  max : c ≤ maxLen
  cells : 0 < n → ∃ b off, A = some ⟨b, off, none⟩ ∧ b < B ∧ ∀ i, i < n → w.cell? ⟨b, off + i, none⟩ = some (.slice (rs i).A (rs i).m (rs i).c) ∧ Nums w B (rs i).A (rs i).m (rs i).c (rs i).l
section
variable {w w' : World} {B n c : Nat} {A : Option Addr} {rs : Nat → RowV}
theorem NumRows.below (h : NumRows w B A n c rs) (hb : Below B w w') : NumRows w' B A n c rs :=
  ⟨h.cap, h.max, fun hn => by
    obtain ⟨b, off, e, hlt, hc⟩ := h.cells hn
    exact ⟨b, off, e, hlt, fun i hi => ⟨(hb.cell (p := ⟨b, off + i, none⟩) hlt).trans (hc i hi).1, (hc i hi).2.below hb⟩⟩⟩
end
theorem numRow_one : Try.prog.cellsOf 44 = 1 := by kernel_rfl
theorem nums_of_trod {H : Type} {enc : TypeId × Value → H} {w : World} {fuel : Nat} {A : Option Addr} {m c : Nat} {y : DataW H × List MemPlace} (h : DataW.trod enc Try.prog w 0 (fun _ => true) true fuel 44 [.slice A m c] = some y) : ∃ l, Nums w w.heap.size A m c l := by
  rcases open_ints Try.underlying44 Try.underlying3 (by kernel_rfl) h with ⟨hcs, _⟩ | ⟨x, l, c', zs, hcs, _, hl, hm, hz, _, hcell, hwz⟩
  · simp at hcs
    obtain ⟨rfl, rfl, rfl⟩ := hcs
    exact ⟨[], Nums.nil_ _ _⟩
  · simp at hcs
    obtain ⟨rfl, rfl, rfl⟩ := hcs
    exact ⟨_, nums_of_row hl hm (by simpa using hz) hcell hwz⟩
abbrev ints (l : List Int) : List Value := l.map (Value.int .i64)
theorem ints_one (l : List Int) : ∀ u ∈ ints l, u.oneCell' = true := ints_oneCell _ _

/-- A queue at g, and two rows beside it: what was kept, and what was got. -/
structure Ord (w0 wr : World) (g : Nat) (lim : Int) (V K G : List Int) (lost : Int) (A : Option Addr) (c : Nat) (Ak : Option Addr) (ck : Nat) (Ag : Option Addr) (cg : Nat) : Prop where
  q : Que wr w0.heap.size g lim (ints V) lost A V.length c
  k : Qs wr w0.heap.size 3 Ak K.length ck (ints K)
  o : Qs wr w0.heap.size 3 Ag G.length cg (ints G)
  ak : ∀ b, blk A = some b → blk Ak ≠ some b
  ag : ∀ b, blk A = some b → blk Ag ≠ some b
  kg : ∀ b, blk Ak = some b → blk Ag ≠ some b
  gk : blk Ak ≠ some g
  gg : blk Ag ≠ some g
  bg : w0.heap.size ≤ g
  bel : Below w0.heap.size w0 wr
section
variable {w0 wr w' : World} {g c c' ck cg : Nat} {lim lost lost' : Int} {V V' K K' G G' : List Int} {A A' Ak Ak' Ag Ag' : Option Addr}
/-- Where a new address may lie. -/
def Nxt (wr : World) (A A' : Option Addr) : Prop := blk A' = blk A ∨ ∃ b, blk A' = some b ∧ wr.heap.size ≤ b
theorem Nxt.ne {w : World} {base e n c : Nat} {vs : List Value} {A A' X : Option Addr} (h : Nxt w A A') (hX : Qs w base e X n c vs) (hs : ∀ b, blk A = some b → blk X ≠ some b) : ∀ b, blk A' = some b → blk X ≠ some b := by
  intro b hb hx
  rcases h with h | ⟨b', h, hl⟩
  · exact hs b (h ▸ hb) hx
  · rw [h] at hb; cases hb
    have := (hX.lt hx).2
    omega
theorem Nxt.ne' {w : World} {g : Nat} {A A' : Option Addr} (h : Nxt w A A') (hg : g < w.heap.size) (hs : blk A ≠ some g) : blk A' ≠ some g := by
  intro hb
  rcases h with h | ⟨b', h, hl⟩
  · exact hs (h ▸ hb)
  · rw [h] at hb; cases hb; omega
theorem Ord.called (h : Ord w0 wr g lim V K G lost A c Ak ck Ag cg) (hq : Que w' w0.heap.size g lim (ints V') lost' A' V'.length c') (ht : Tch wr w' g A) (hn : Nxt wr A A') : Ord w0 w' g lim V' K G lost' A' c' Ak ck Ag cg := by
  have kk : ∀ b, blk Ak = some b → w'.heap[b]? = wr.heap[b]? := fun b hb => ht.block b (h.k.lt hb).2 (fun e => h.gk (e ▸ hb)) (fun e => h.ak b e hb)
  have ko : ∀ b, blk Ag = some b → w'.heap[b]? = wr.heap[b]? := fun b hb => ht.block b (h.o.lt hb).2 (fun e => h.gg (e ▸ hb)) (fun e => h.ag b e hb)
  exact ⟨hq, h.k.keep kk, h.o.keep ko, hn.ne h.k h.ak, hn.ne h.o h.ag, h.kg, h.gk, h.gg, h.bg, h.bel.trans (ht.below h.bel.size h.bg fun _ e => (h.q.row.lt e).1)⟩
theorem Ord.kept (h : Ord w0 wr g lim V K G lost A c Ak ck Ag cg) {ck' : Nat} (hk : Qs w' w0.heap.size 3 Ak' K'.length ck' (ints K')) (hg : wr.grownBy w' (blk Ak)) (hn : Nxt wr Ak Ak') : Ord w0 w' g lim V K' G lost A c Ak' ck' Ag cg := by
  have hq : Que w' w0.heap.size g lim (ints V) lost A V.length c := h.q.keep (hg.block g h.q.lt (fun e => h.gk e.symm)) fun b hb => hg.block b (h.q.row.lt hb).2 (fun e => h.ak b hb e.symm)
  have ho := h.o.grown hg (by
    cases e : blk Ag with
    | none => exact .inl rfl
    | some b => exact .inr (fun e2 => h.kg b e2.symm e))
  exact ⟨hq, hk, ho, fun b hb e => hn.ne h.q.row (fun b h1 h2 => h.ak b h2 h1) b e hb, h.ag, hn.ne h.o h.kg, hn.ne' h.q.lt h.gk, h.gg, h.bg, h.bel.grown hg h.bel.size fun _ e => (h.k.lt e).1⟩
theorem Ord.got (h : Ord w0 wr g lim V K G lost A c Ak ck Ag cg) {cg' : Nat} (ho : Qs w' w0.heap.size 3 Ag' G'.length cg' (ints G')) (hg : wr.grownBy w' (blk Ag)) (hn : Nxt wr Ag Ag') : Ord w0 w' g lim V K G' lost A c Ak ck Ag' cg' := by
  have hq : Que w' w0.heap.size g lim (ints V) lost A V.length c := h.q.keep (hg.block g h.q.lt (fun e => h.gg e.symm)) fun b hb => hg.block b (h.q.row.lt hb).2 (fun e => h.ag b hb e.symm)
  have hk := h.k.grown hg (by
    cases e : blk Ak with
    | none => exact .inl rfl
    | some b => exact .inr (fun e2 => h.kg b e e2.symm))
  exact ⟨hq, hk, ho, h.ak, fun b hb e => hn.ne h.q.row (fun b h1 h2 => h.ag b h2 h1) b e hb, fun b hb e => hn.ne h.k (fun b h1 h2 => h.kg b h2 h1) b e hb, h.gk, hn.ne' h.q.lt h.gg, h.bg, h.bel.grown hg h.bel.size fun _ e => (h.o.lt e).1⟩
theorem Ord.step (h : Ord w0 wr g lim V K G lost A c Ak ck Ag cg) (hb : Below wr.heap.size wr w') : Ord w0 w' g lim V K G lost A c Ak ck Ag cg :=
  ⟨h.q.below hb, h.k.below hb, h.o.below hb, h.ak, h.ag, h.kg, h.gk, h.gg, h.bg, h.bel.trans (hb.mono h.bel.size)⟩
end
end Go.Proofs.Ytncnlbokipieaaa