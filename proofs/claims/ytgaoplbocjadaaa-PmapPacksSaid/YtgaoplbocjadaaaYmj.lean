/- Slots and bytes that came in. -/
import Derived.Test.YtgaoplbocjadaaaYmf
import Derived.Lib.SmallJoins
import Derived.Deep.Slices
namespace Go.Proofs.Ytgaoplbocjadaaa
open Go.RowKit Go.Joins Go.ChangeShapes Go.WideShapes Go.Deep
set_option linter.unusedSimpArgs false
set_option linter.unusedVariables false
theorem cells_keyM : Try.prog.cellsOf 24 = 2 := by kernel_rfl
theorem cells_intM : Try.prog.cellsOf 3 = 1 := by kernel_rfl
theorem cells_slotM : Try.prog.cellsOf 26 = 3 := by kernel_rfl
theorem cells_bytesM : Try.prog.cellsOf 58 = 1 := by kernel_rfl
theorem list3M {α : Type} {l : List α} (h : l.length = 3) : ∃ c0 c1 c2, l = [c0, c1, c2] := by
  match l, h with
  | [c0, c1, c2], _ => exact ⟨c0, c1, c2, rfl⟩
theorem list1M {α : Type} {l : List α} (h : l.length = 1) : ∃ c0, l = [c0] := by
  match l, h with
  | [c0], _ => exact ⟨c0, rfl⟩
def SlsP (w : World) (B : Nat) (A : Option Addr) (n c : Nat) (fs : Nat → SlV) : Prop := Els SlC 3 w B A n c fs
def BssP (w : World) (B : Nat) (A : Option Addr) (n c : Nat) (fs : Nat → BsV) : Prop := Els BsC 1 w B A n c fs
section
variable {H : Type} {enc : TypeId × Value → H} {w : World}
theorem bytesM_of_trod {fuel : Nat} {A : Option Addr} {n c : Nat} {x : DataW H × List MemPlace} (hf : DataW.trod enc Try.prog w 0 (fun _ => true) true fuel 58 [.slice A n c] = some x) : ∃ l, Byt w w.heap.size A n c l := by
  rcases open_ints Try.underlying58 Try.underlying5 (by kernel_rfl) hf with ⟨hcs, _⟩ | ⟨x, l, c, zs, hcs, _, hl, hm, hz, _, hcell, hwz⟩
  · simp at hcs
    obtain ⟨rfl, rfl, rfl⟩ := hcs
    exact ⟨[], Byt.nil_ _ _⟩
  · simp at hcs
    obtain ⟨rfl, rfl, rfl⟩ := hcs
    exact ⟨_, byt_of_row hl hm (by simpa using hz) hcell hwz⟩
theorem sls_of_trod {fuel : Nat} {A : Option Addr} {n c : Nat} {x : DataW H × List MemPlace} (h : DataW.trod enc Try.prog w 0 (fun _ => true) true fuel 56 [.slice A n c] = some x) : ∃ fs, SlsP w w.heap.size A n c fs :=
  els_of_trod Try.underlying56 cells_slotM (by omega) (⟨0, 0, 0⟩ : SlV) SlC (fun fuel cs x b o ht hl hat => by
    obtain ⟨c0, c1, c2, rfl⟩ := list3M hl
    obtain ⟨y0, y1, m, _, _, h0, h1⟩ := trod_struct2 Try.underlying26 ht
    obtain ⟨z0, z1, m2, _, _, g0, g1⟩ := trod_struct2 Try.underlying24 h0
    simp only [cells_keyM, cells_intM] at h1 g0 g1
    obtain ⟨i, e0, _, w0⟩ := DataW.trod_int Try.underlying3 g0
    obtain ⟨j, e1, _, w1⟩ := DataW.trod_int Try.underlying3 g1
    obtain ⟨b2, e2, _, w2⟩ := DataW.trod_int Try.underlying3 h1
    simp at e0 e1 e2
    subst e0 e1 e2
    exact ⟨⟨i, j, b2⟩, hat 0 (by omega), hat 1 (by omega), hat 2 (by omega)⟩) h
theorem bss_of_trod {fuel : Nat} {A : Option Addr} {n c : Nat} {x : DataW H × List MemPlace} (h : DataW.trod enc Try.prog w 0 (fun _ => true) true fuel 55 [.slice A n c] = some x) : ∃ fs, BssP w w.heap.size A n c fs :=
  els_of_trod Try.underlying55 cells_bytesM (by omega) (⟨none, 0, 0, []⟩ : BsV) BsC (fun fuel cs x b o ht hl hat => by
    obtain ⟨c0, rfl⟩ := list1M hl
    obtain ⟨A, q, mm, e⟩ := slice_form Try.underlying58 ht
    simp at e
    subst e
    obtain ⟨l, hl2⟩ := bytesM_of_trod ht
    exact ⟨⟨A, q, mm, l⟩, hat 0 (by omega), hl2⟩) h
end
end Go.Proofs.Ytgaoplbocjadaaa
