/- nmt: arguments opened: an order, verbs, deeds. Els: a slice of anything. -/
import Derived.Test.YtnijdcbpllmieaaNg
import Derived.Lib.SmallJoins
import Derived.Deep.Slices
namespace Go.Proofs.Ytnijdcbpllmieaa
open Go.RowKit Go.Joins Go.ChangeShapes Go.WideShapes Go.Deep
set_option linter.unusedSimpArgs false
set_option linter.unusedVariables false

theorem add_plainE (b o i : Nat) : (⟨b, o, none⟩ : Addr).add i = ⟨b, o + i, none⟩ := by unfold Addr.add; split <;> simp_all
/-- The slice '.slice A n c' of things of k cells reads as fs; C tells what a thing's cells are. -/
structure Els {D : Type} (C : World → Nat → Nat → D → Prop) (k : Nat) (w : World) (B : Nat) (A : Option Addr) (n c : Nat) (fs : Nat → D) : Prop where
  cap : n ≤ c
  max : c ≤ maxLen
  cells : 0 < n → ∃ b off, A = some ⟨b, off, none⟩ ∧ b < B ∧ ∀ i, i < n → C w b (off + i * k) (fs i)
theorem Els.below {D : Type} {C : World → Nat → Nat → D → Prop} {k : Nat} {w w' : World} {B : Nat} {A : Option Addr} {n c : Nat} {fs : Nat → D} (h : Els C k w B A n c fs)
    (hC : ∀ b o x, b < B → C w b o x → C w' b o x) : Els C k w' B A n c fs :=
  ⟨h.cap, h.max, fun hn => by
    obtain ⟨b, off, e, hlt, hc⟩ := h.cells hn
    exact ⟨b, off, e, hlt, fun i hi => hC _ _ _ hlt (hc i hi)⟩⟩
theorem els_of_trod {H : Type} {enc : TypeId × Value → H} {P : Program} {w : World} {T E : TypeId} (hT : P.underlying T = some (.slice E)) {k : Nat} (hk : P.cellsOf E = k) (hk0 : 0 < k)
    {D : Type} (x0 : D) (C : World → Nat → Nat → D → Prop)
    (hC : ∀ fuel cs (x : DataW H × List MemPlace) b o, DataW.trod enc P w 0 (fun _ => true) true fuel E cs = some x → cs.length = k → (∀ j, j < k → w.cell? ⟨b, o + j, none⟩ = cs[j]?) → ∃ f, C w b o f)
    {fuel : Nat} {A : Option Addr} {n c : Nat} {x : DataW H × List MemPlace} (h : DataW.trod enc P w 0 (fun _ => true) true fuel T [.slice A n c] = some x) : ∃ fs, Els C k w w.heap.size A n c fs := by
  rcases open_slice hT h with ⟨hcs, _⟩ | ⟨a, len, cap, m, n', D, Pl, hcs, _, hl, hm, hmm, _, hi⟩
  · simp at hcs
    obtain ⟨rfl, rfl, rfl⟩ := hcs
    exact ⟨fun _ => x0, Nat.le_refl _, by simp [maxLen], fun h => absurd h (by omega)⟩
  · simp at hcs
    obtain ⟨rfl, rfl, rfl⟩ := hcs
    simp at hmm
    subst hmm
    rw [hk] at hi
    rcases Nat.eq_zero_or_pos n with h0 | h0
    · subst h0
      exact ⟨fun _ => x0, hl, hm, fun h => absurd h (by omega)⟩
    · obtain ⟨b, off, spot⟩ := a
      obtain ⟨cs0, hc0, ht0⟩ := hi 0 (by omega)
      obtain ⟨_, hcl0, hat0⟩ := World.cells?_some hc0
      have k0 := hat0 0 (by omega)
      rw [List.getElem?_eq_getElem (by omega)] at k0
      have hspot : spot = none := by simpa [Addr.add] using World.cell?_spot k0
      subst hspot
      have hb : b < w.heap.size := by have := block_lt_of_cell k0; simpa [Addr.add] using this
      have hex : ∀ i, ∃ f, i < n → C w b (off + i * k) f := fun i => by
        by_cases hin : i < n
        · obtain ⟨cs, hc, ht⟩ := hi i (by omega)
          obtain ⟨_, hcl, hat⟩ := World.cells?_some hc
          obtain ⟨f, hf⟩ := hC _ cs _ b (off + i * k) ht hcl (fun j hj => by
            have := hat j hj
            rw [add_plainE, add_plainE] at this
            exact this)
          exact ⟨f, fun _ => hf⟩
        · exact ⟨x0, fun h => absurd h hin⟩
      exact ⟨fun i => Classical.choose (hex i), hl, hm, fun _ => ⟨b, off, rfl, hb, fun i hi => Classical.choose_spec (hex i) hi⟩⟩
theorem cells_orderO : Try.prog.cellsOf 24 = 2 := by kernel_rfl
theorem cells_verbO : Try.prog.cellsOf 22 = 1 := by kernel_rfl
theorem cells_intO : Try.prog.cellsOf 3 = 1 := by kernel_rfl
theorem cells_boolO : Try.prog.cellsOf 4 = 1 := by kernel_rfl
theorem cells_deedO : Try.prog.cellsOf 44 = 3 := by kernel_rfl
theorem array2O {α : Type} {cs : Array α} (h : cs.size = 2) : ∃ c0 c1, cs = #[c0, c1] := by
  obtain ⟨l⟩ := cs
  match l, h with
  | [c0, c1], _ => exact ⟨c0, c1, rfl⟩
section
variable {H : Type} {enc : TypeId × Value → H} {w : World} {base : Nat} {spare : Nat → Bool} {held : Bool}
theorem open_order {r : Reach} {b0 : Nat} {v : Value} {dd : DataW H} {p : List MemPlace} (hv : Value.okWide Try.prog w r b0 24 v) (h : DataW.Trod enc Try.prog w base spare held 24 v dd p) :
    ∃ i j : Int, v = .agg #[.int .i64 i, .int .i64 j] ∧ (Lit.int .i64 i).wf = true ∧ (Lit.int .i64 j).wf = true := by
  obtain ⟨cs, rfl, hsz⟩ := okWide_struct Try.underlying24 hv
  obtain ⟨c0, c1, rfl⟩ := array2O (hsz.trans cells_orderO)
  obtain ⟨fuel, hf⟩ := h
  obtain ⟨y0, y1, m, _, _, h0, h1⟩ := trod_struct2 Try.underlying24 hf
  simp only [cells_verbO, cells_intO, Value.cells] at h0 h1
  obtain ⟨i, e0, _, w0⟩ := DataW.trod_int Try.underlying22 h0
  obtain ⟨j, e1, _, w1⟩ := DataW.trod_int Try.underlying3 h1
  simp at e0 e1
  subst e0 e1
  exact ⟨i, j, rfl, w0, w1⟩
theorem verbs_of_trod {fuel : Nat} {A : Option Addr} {n c : Nat} {x : DataW H × List MemPlace} (hf : DataW.trod enc Try.prog w 0 (fun _ => true) true fuel 54 [.slice A n c] = some x) : ∃ l, Nums w w.heap.size A n c l := by
  rcases open_ints Try.underlying54 Try.underlying22 (by kernel_rfl) hf with ⟨hcs, _⟩ | ⟨x, l, c, zs, hcs, _, hl, hm, hz, _, hcell, hwz⟩
  · simp at hcs
    obtain ⟨rfl, rfl, rfl⟩ := hcs
    exact ⟨[], Nums.nil_ _ _⟩
  · simp at hcs
    obtain ⟨rfl, rfl, rfl⟩ := hcs
    exact ⟨_, nums_of_row hl hm (by simpa using hz) hcell hwz⟩
/-- A deed: whether it boots; an order. -/
def DeN (w : World) (b o : Nat) (x : Bool × Int × Int) : Prop := w.cell? ⟨b, o, none⟩ = some (.bool x.1) ∧ w.cell? ⟨b, o + 1, none⟩ = some (.int .i64 x.2.1) ∧ w.cell? ⟨b, o + 2, none⟩ = some (.int .i64 x.2.2)
theorem DeN.below {w w' : World} {B b o : Nat} {x : Bool × Int × Int} (h : DeN w b o x) (hlt : b < B) (hb : Below B w w') : DeN w' b o x :=
  ⟨(hb.cell (p := ⟨b, _, none⟩) hlt).trans h.1, (hb.cell (p := ⟨b, _, none⟩) hlt).trans h.2.1, (hb.cell (p := ⟨b, _, none⟩) hlt).trans h.2.2⟩
theorem list3O {α : Type} {l : List α} (h : l.length = 3) : ∃ c0 c1 c2, l = [c0, c1, c2] := by
  match l, h with
  | [c0, c1, c2], _ => exact ⟨c0, c1, c2, rfl⟩
theorem deeds_of_trod {fuel : Nat} {A : Option Addr} {n c : Nat} {x : DataW H × List MemPlace} (h : DataW.trod enc Try.prog w 0 (fun _ => true) true fuel 37 [.slice A n c] = some x) : ∃ fs, Els DeN 3 w w.heap.size A n c fs :=
  els_of_trod Try.underlying37 cells_deedO (by omega) (false, 0, 0) DeN (fun fuel cs x b o hf hl hc => by
    obtain ⟨c0, c1, c2, rfl⟩ := list3O hl
    obtain ⟨y0, y1, m, _, _, h0, h1⟩ := trod_struct2 Try.underlying44 hf
    simp only [cells_boolO, cells_orderO] at h0 h1
    obtain ⟨z0, z1, m1, _, _, k0, k1⟩ := trod_struct2 Try.underlying24 h1
    simp only [cells_verbO, cells_intO] at k0 k1
    obtain ⟨q, e0, _⟩ := DataW.trod_bool Try.underlying4 h0
    obtain ⟨i, e1, _, _⟩ := DataW.trod_int Try.underlying22 k0
    obtain ⟨j, e2, _, _⟩ := DataW.trod_int Try.underlying3 k1
    simp at e0 e1 e2
    subst e0 e1 e2
    exact ⟨(q, i, j), hc 0 (by omega), hc 1 (by omega), hc 2 (by omega)⟩) h
end
end Go.Proofs.Ytnijdcbpllmieaa
