/- A slice of Fields (a kind, a number, bytes) that came in, opened to its cells. -/
import Derived.Test.YtbbkobfibobfcaaKDVRefC
import Derived.Test.YtbbkobfibobfcaaProg
import Derived.Deep.Slices
import Derived.Deep.Fields
import Derived.Lib.SmallJoins
import Derived.ChangeSame
namespace Go.Proofs.Ytbbkobfibobfcaa
open Go.RowKit Go.ChangeShapes Go.WideShapes Go.Deep Go.Joins
/-- One field as it lies. -/
structure FieldV where
  k : Int
  n : Int
  A : Option Addr
  m : Nat
  c : Nat
  l : List Int
/-- Place i of a row of fields at ⟨b, off⟩. -/
structure FieldAt (w : World) (B b off i : Nat) (f : FieldV) : Prop where
  ck : w.cell? ⟨b, off + 3 * i, none⟩ = some (.int .i64 f.k)
  cn : w.cell? ⟨b, off + 3 * i + 1, none⟩ = some (.int .i64 f.n)
  cb : w.cell? ⟨b, off + 3 * i + 2, none⟩ = some (.slice f.A f.m f.c)
  rk : -9223372036854775808 ≤ f.k ∧ f.k ≤ 9223372036854775807
  rn : -9223372036854775808 ≤ f.n ∧ f.n ≤ 9223372036854775807
  byt : Byt w B f.A f.m f.c f.l
/-- The slice '.slice A n c' of fields reads as fs. -/
structure Flds (w : World) (B : Nat) (A : Option Addr) (n c : Nat) (fs : Nat → FieldV) : Prop where
  cap : n ≤ c
  max : c ≤ maxLen
  cells : 0 < n → ∃ b off, A = some ⟨b, off, none⟩ ∧ b < B ∧ ∀ i, i < n → FieldAt w B b off i (fs i)
section
variable {w w' : World} {B B' n c b off i : Nat} {A : Option Addr} {fs : Nat → FieldV} {f : FieldV}
theorem FieldAt.keep (h : FieldAt w B b off i f) (hb : b < B) (hk : ∀ b o, b < B → w'.cell? ⟨b, o, none⟩ = w.cell? ⟨b, o, none⟩) : FieldAt w' B b off i f :=
  ⟨(hk b _ hb).trans h.ck, (hk b _ hb).trans h.cn, (hk b _ hb).trans h.cb, h.rk, h.rn, h.byt.keep hk⟩
theorem Flds.keep (h : Flds w B A n c fs) (hk : ∀ b o, b < B → w'.cell? ⟨b, o, none⟩ = w.cell? ⟨b, o, none⟩) : Flds w' B A n c fs :=
  ⟨h.cap, h.max, fun hn => by
    obtain ⟨b, off, e, hb, hc⟩ := h.cells hn
    exact ⟨b, off, e, hb, fun i hi => (hc i hi).keep hb hk⟩⟩
theorem Flds.below (h : Flds w B A n c fs) (hb : Below B w w') : Flds w' B A n c fs := h.keep fun b o hlt => hb.cell (p := ⟨b, o, none⟩) hlt
theorem Flds.take (h : Flds w B A n c fs) {k : Nat} (hk : k ≤ n) : Flds w B A k c fs :=
  ⟨by have := h.cap; omega, h.max, fun h0 => by
    obtain ⟨b, off, e, hb, hc⟩ := h.cells (by omega)
    exact ⟨b, off, e, hb, fun i hi => hc i (by omega)⟩⟩
end
theorem add_plain (b off j : Nat) : (⟨b, off, none⟩ : Addr).add j = ⟨b, off + j, none⟩ := by unfold Addr.add; split <;> simp_all

section
variable {H : Type} {enc : TypeId × Value → H} {w : World}
/-- Bytes that a field holds. -/
theorem byt_of_trod {fuel : Nat} {A : Option Addr} {m c : Nat} {y : DataW H × List MemPlace} (h : DataW.trod enc Try.prog w 0 (fun _ => true) true fuel 41 [.slice A m c] = some y) : ∃ l, Byt w w.heap.size A m c l := by
  rcases open_ints Try.underlying41 Try.underlying5 (by kernel_rfl) h with ⟨hcs, _⟩ | ⟨x, l, c', zs, hcs, _, hl, hm, hz, _, hcell, hwz⟩
  · simp at hcs
    obtain ⟨rfl, rfl, rfl⟩ := hcs
    exact ⟨[], Byt.nil_ _ _⟩
  · simp at hcs
    obtain ⟨rfl, rfl, rfl⟩ := hcs
    exact ⟨_, byt_of_row hl hm (by simpa using hz) hcell hwz⟩

end
end Go.Proofs.Ytbbkobfibobfcaa