/- A slice of Fields (a kind, a number, bytes) that came in, opened to its cells. -/
import Derived.Test.YtabbjgfladbbiabBase3
import Derived.Test.YtabbjgfladbbiabProg
import Derived.Deep.Slices
import Derived.Deep.Fields
import Derived.Lib.SmallJoins
import Derived.ChangeSame
namespace Go.Proofs.Ytabbjgfladbbiab
open Go.RowKit Go.ChangeShapes Go.WideShapes Go.Deep Go.Joins

/-- One field as it lies. -/
structure FieldV where
  k : Int
  n : Int
  A : Option Addr
  m : Nat
  c : Nat
  l : List Int
/-- Place i of a row of fields at ⟨b, off⟩. -/
structure FieldAt (w : World) (B b off i : Nat) (f : FieldV) : Prop where
  ck : w.cell? ⟨b, off + 3 * i, none⟩ = some (.int .i64 f.k)
  cn : w.cell? ⟨b, off + 3 * i + 1, none⟩ = some (.int .i64 f.n)
  cb : w.cell? ⟨b, off + 3 * i + 2, none⟩ = some (.slice f.A f.m f.c)
  rk : -9223372036854775808 ≤ f.k ∧ f.k ≤ 9223372036854775807
  rn : -9223372036854775808 ≤ f.n ∧ f.n ≤ 9223372036854775807
  byt : Byt w B f.A f.m f.c f.l
/-- The slice '.slice A n c' of fields reads as fs. -/
structure Flds (w : World) (B : Nat) (A : Option Addr) (n c : Nat) (fs : Nat → FieldV) : Prop where
  cap : n ≤ c
  max : c ≤ maxLen
  cells : 0 < n → ∃ b off, A = some ⟨b, off, none⟩ ∧ b < B ∧ ∀ i, i < n → FieldAt w B b off i (fs i)
section
variable {w w' : World} {B B' n c b off i : Nat} {A : Option Addr} {fs : Nat → FieldV} {f : FieldV}
theorem FieldAt.keep (h : FieldAt w B b off i f) (hb : b < B) (hk : ∀ b o, b < B → w'.cell? ⟨b, o, none⟩ = w.cell? ⟨b, o, none⟩) : FieldAt w' B b off i f :=
  ⟨(hk b _ hb).trans h.ck, (hk b _ hb).trans h.cn, (hk b _ hb).trans h.cb, h.rk, h.rn, h.byt.keep hk⟩
theorem Flds.keep (h : Flds w B A n c fs) (hk : ∀ b o, b < B → w'.cell? ⟨b, o, none⟩ = w.cell? ⟨b, o, none⟩) : Flds w' B A n c fs :=
  ⟨h.cap, h.max, fun hn => by
    obtain ⟨b, off, e, hb, hc⟩ := h.cells hn
    exact ⟨b, off, e, hb, fun i hi => (hc i hi).keep hb hk⟩⟩
theorem Flds.below (h : Flds w B A n c fs) (hb : Below B w w') : Flds w' B A n c fs := h.keep fun b o hlt => hb.cell (p := ⟨b, o, none⟩) hlt
theorem Flds.take (h : Flds w B A n c fs) {k : Nat} (hk : k ≤ n) : Flds w B A k c fs :=
  ⟨by have := h.cap; omega, h.max, fun h0 => by
    obtain ⟨b, off, e, hb, hc⟩ := h.cells (by omega)
    exact ⟨b, off, e, hb, fun i hi => hc i (by omega)⟩⟩
end

theorem fld_one : oneCellFields Try.prog (Try.prog.fieldsOf 48) = true := by kernel_rfl
theorem fld_under : Try.prog.underlying 48 = some (.struct (Try.prog.fieldsOf 48)) := by kernel_rfl
theorem fld_cells : Try.prog.cellsOf 48 = 3 := by kernel_rfl
theorem fld0 : ((Try.prog.fieldsOf 48)[0]?).map (·.type) = some 26 := by kernel_rfl
theorem fld1 : ((Try.prog.fieldsOf 48)[1]?).map (·.type) = some 2 := by kernel_rfl
theorem fld2 : ((Try.prog.fieldsOf 48)[2]?).map (·.type) = some 22 := by kernel_rfl

theorem add_plain (b off j : Nat) : (⟨b, off, none⟩ : Addr).add j = ⟨b, off + j, none⟩ := by unfold Addr.add; split <;> simp_all

section
variable {H : Type} {enc : TypeId × Value → H} {w : World}
/-- Bytes that a field holds. -/
theorem byt_of_trod {fuel : Nat} {A : Option Addr} {m c : Nat} {y : DataW H × List MemPlace} (h : DataW.trod enc Try.prog w 0 (fun _ => true) true fuel 22 [.slice A m c] = some y) : ∃ l, Byt w w.heap.size A m c l := by
  rcases open_ints Try.underlying22 Try.underlying5 (by kernel_rfl) h with ⟨hcs, _⟩ | ⟨x, l, c', zs, hcs, _, hl, hm, hz, _, hcell, hwz⟩
  · simp at hcs
    obtain ⟨rfl, rfl, rfl⟩ := hcs
    exact ⟨[], Byt.nil_ _ _⟩
  · simp at hcs
    obtain ⟨rfl, rfl, rfl⟩ := hcs
    exact ⟨_, byt_of_row hl hm (by simpa using hz) hcell hwz⟩

/-- One field of a struct whose cells were read. -/
theorem cell_of_fields {fuel i j T : Nat} {a : Addr} {cs : List Value} {x : DataW H × List MemPlace} (hc : w.cells? 0 (a.add (i * 3)) 3 = some cs) (ht : DataW.trod enc Try.prog w 0 (fun _ => true) true fuel 48 cs = some x)
    (hj : j < 3) (hf : ((Try.prog.fieldsOf 48)[j]?).map (·.type) = some T) :
    ∃ v y n, w.cell? (a.add (i * 3 + j)) = some v ∧ DataW.trod enc Try.prog w 0 (fun _ => true) true n T [v] = some y := by
  obtain ⟨f, hff, rfl⟩ := Option.map_eq_some_iff.1 hf
  obtain ⟨ys, n, _, _, _, hlen, hg⟩ := DataW.trod_struct fld_under ht
  obtain ⟨_, hcl, hat⟩ := World.cells?_some hc
  obtain ⟨ho, hk⟩ := hone_of fld_one j f hff
  have hjl : j < (Try.prog.fieldsOf 48).size := (Array.getElem?_eq_some_iff.1 hff).1
  have h1 := hg j f hff
  rw [ho, hk] at h1
  have hone' : (cs.drop j).take 1 = [cs[j]'(by omega)] := by
    rw [List.drop_eq_getElem_cons (by omega)]
    rfl
  rw [hone', List.getElem?_eq_getElem (by omega)] at h1
  refine ⟨_, _, n, ?_, h1⟩
  rw [← Go.Deep.add_add, hat j hj, List.getElem?_eq_getElem]

theorem field_of {fuel i : Nat} {a : Addr} {b off : Nat} {cs : List Value} {x : DataW H × List MemPlace} (ha : a = ⟨b, off, none⟩) (hc : w.cells? 0 (a.add (i * 3)) 3 = some cs) (ht : DataW.trod enc Try.prog w 0 (fun _ => true) true fuel 48 cs = some x) :
    ∃ f, FieldAt w w.heap.size b off i f := by
  subst ha
  obtain ⟨v0, y0, n0, c0, t0⟩ := cell_of_fields hc ht (j := 0) (by omega) fld0
  obtain ⟨v1, y1, n1, c1, t1⟩ := cell_of_fields hc ht (j := 1) (by omega) fld1
  obtain ⟨v2, y2, n2, c2, t2⟩ := cell_of_fields hc ht (j := 2) (by omega) fld2
  obtain ⟨k, e0, _, w0⟩ := DataW.trod_int Try.underlying26 t0
  obtain ⟨n, e1, _, w1⟩ := DataW.trod_int Try.underlying2 t1
  obtain ⟨A, m, c, e2⟩ := slice_form Try.underlying22 t2
  simp only [List.cons.injEq, and_true] at e0 e1 e2
  subst e0 e1 e2
  obtain ⟨l, hB⟩ := byt_of_trod t2
  rw [add_plain] at c0 c1 c2
  have hk := bounds_i64 w0
  have hn := bounds_i64 w1
  refine ⟨⟨k, n, A, m, c, l⟩, ?_, ?_, ?_, ⟨hk.1, hk.2⟩, ⟨hn.1, hn.2⟩, hB⟩
  · rw [← c0]; congr 2; omega
  · rw [← c1]; congr 2; omega
  · rw [← c2]; congr 2; omega

theorem flds_of_trod {fuel : Nat} {A : Option Addr} {n c : Nat} {x : DataW H × List MemPlace} (h : DataW.trod enc Try.prog w 0 (fun _ => true) true fuel 41 [.slice A n c] = some x) : ∃ fs, Flds w w.heap.size A n c fs := by
  rcases open_slice Try.underlying41 h with ⟨hcs, _⟩ | ⟨a, len, cap, m, n', D, Pl, hcs, _, hl, hm, hmm, _, hi⟩
  · simp at hcs
    obtain ⟨rfl, rfl, rfl⟩ := hcs
    exact ⟨fun _ => ⟨0, 0, none, 0, 0, []⟩, Nat.le_refl _, by simp [maxLen], fun h => absurd h (by omega)⟩
  · simp at hcs
    obtain ⟨rfl, rfl, rfl⟩ := hcs
    simp at hmm
    subst hmm
    rw [fld_cells] at hi
    rcases Nat.eq_zero_or_pos n with h0 | h0
    · subst h0
      exact ⟨fun _ => ⟨0, 0, none, 0, 0, []⟩, hl, hm, fun h => absurd h (by omega)⟩
    · obtain ⟨b, off, spot⟩ := a
      obtain ⟨cs0, hc0, ht0⟩ := hi 0 (by omega)
      obtain ⟨v0, y0, n0, c0, _⟩ := cell_of_fields hc0 ht0 (j := 0) (by omega) fld0
      have hspot : spot = none := by simpa [Addr.add] using World.cell?_spot c0
      subst hspot
      have hb : b < w.heap.size := by have := block_lt_of_cell c0; simpa [Addr.add] using this
      have hex : ∀ i, ∃ f, i < n → FieldAt w w.heap.size b off i f := fun i => by
        by_cases hin : i < n
        · obtain ⟨cs, hc, ht⟩ := hi i (by omega)
          obtain ⟨f, hf⟩ := field_of rfl hc ht
          exact ⟨f, fun _ => hf⟩
        · exact ⟨⟨0, 0, none, 0, 0, []⟩, fun h => absurd h hin⟩
      exact ⟨fun i => Classical.choose (hex i), hl, hm, fun _ => ⟨b, off, rfl, hb, fun i hi => Classical.choose_spec (hex i) hi⟩⟩
end
end Go.Proofs.Ytabbjgfladbbiab
