/- guard: deeds and pairs of bytes that came in. -/
import Derived.Test.YtphjdgapfcflgaaZe
import Derived.OpenShut
import Derived.Lib.SmallJoins
import Derived.Deep.Slices
namespace Go.Proofs.Ytphjdgapfcflgaa
open Go.RowKit Go.Joins Go.ChangeShapes Go.WideShapes Go.Deep
set_option linter.unusedSimpArgs false
set_option linter.unusedVariables false

theorem add_plainE (b o i : Nat) : (⟨b, o, none⟩ : Addr).add i = ⟨b, o + i, none⟩ := by unfold Addr.add; split <;> simp_all
/-- The slice '.slice A n c' of things of k cells reads as fs; C tells what a thing's cells are. -/
structure Els {D : Type} (C : World → Nat → Nat → D → Prop) (k : Nat) (w : World) (B : Nat) (A : Option Addr) (n c : Nat) (fs : Nat → D) : Prop where
  cap : n ≤ c
  max : c ≤ maxLen
  cells : 0 < n → ∃ b off, A = some ⟨b, off, none⟩ ∧ b < B ∧ ∀ i, i < n → C w b (off + i * k) (fs i)
theorem Els.below {D : Type} {C : World → Nat → Nat → D → Prop} {k : Nat} {w w' : World} {B : Nat} {A : Option Addr} {n c : Nat} {fs : Nat → D} (h : Els C k w B A n c fs)
    (hC : ∀ b o x, b < B → C w b o x → C w' b o x) : Els C k w' B A n c fs :=
  ⟨h.cap, h.max, fun hn => by
    obtain ⟨b, off, e, hlt, hc⟩ := h.cells hn
    exact ⟨b, off, e, hlt, fun i hi => hC _ _ _ hlt (hc i hi)⟩⟩
theorem els_of_trod {H : Type} {enc : TypeId × Value → H} {P : Program} {w : World} {T E : TypeId} (hT : P.underlying T = some (.slice E)) {k : Nat} (hk : P.cellsOf E = k) (hk0 : 0 < k)
    {D : Type} (x0 : D) (C : World → Nat → Nat → D → Prop)
    (hC : ∀ fuel cs (x : DataW H × List MemPlace) b o, DataW.trod enc P w 0 (fun _ => true) true fuel E cs = some x → cs.length = k → (∀ j, j < k → w.cell? ⟨b, o + j, none⟩ = cs[j]?) → ∃ f, C w b o f)
    {fuel : Nat} {A : Option Addr} {n c : Nat} {x : DataW H × List MemPlace} (h : DataW.trod enc P w 0 (fun _ => true) true fuel T [.slice A n c] = some x) : ∃ fs, Els C k w w.heap.size A n c fs := by
  rcases open_slice hT h with ⟨hcs, _⟩ | ⟨a, len, cap, m, n', D, Pl, hcs, _, hl, hm, hmm, _, hi⟩
  · simp at hcs
    obtain ⟨rfl, rfl, rfl⟩ := hcs
    exact ⟨fun _ => x0, Nat.le_refl _, by simp [maxLen], fun h => absurd h (by omega)⟩
  · simp at hcs
    obtain ⟨rfl, rfl, rfl⟩ := hcs
    simp at hmm
    subst hmm
    rw [hk] at hi
    rcases Nat.eq_zero_or_pos n with h0 | h0
    · subst h0
      exact ⟨fun _ => x0, hl, hm, fun h => absurd h (by omega)⟩
    · obtain ⟨b, off, spot⟩ := a
      obtain ⟨cs0, hc0, ht0⟩ := hi 0 (by omega)
      obtain ⟨_, hcl0, hat0⟩ := World.cells?_some hc0
      have k0 := hat0 0 (by omega)
      rw [List.getElem?_eq_getElem (by omega)] at k0
      have hspot : spot = none := by simpa [Addr.add] using World.cell?_spot k0
      subst hspot
      have hb : b < w.heap.size := by have := block_lt_of_cell k0; simpa [Addr.add] using this
      have hex : ∀ i, ∃ f, i < n → C w b (off + i * k) f := fun i => by
        by_cases hin : i < n
        · obtain ⟨cs, hc, ht⟩ := hi i (by omega)
          obtain ⟨_, hcl, hat⟩ := World.cells?_some hc
          obtain ⟨f, hf⟩ := hC _ cs _ b (off + i * k) ht hcl (fun j hj => by
            have := hat j hj
            rw [add_plainE, add_plainE] at this
            exact this)
          exact ⟨f, fun _ => hf⟩
        · exact ⟨x0, fun h => absurd h hin⟩
      exact ⟨fun i => Classical.choose (hex i), hl, hm, fun _ => ⟨b, off, rfl, hb, fun i hi => Classical.choose_spec (hex i) hi⟩⟩
theorem cells_u8G : Try.prog.cellsOf 5 = 1 := by kernel_rfl
theorem cells_intG : Try.prog.cellsOf 3 = 1 := by kernel_rfl
theorem cells_deedG : Try.prog.cellsOf 40 = 2 := by kernel_rfl
theorem cells_twoG : Try.prog.cellsOf 50 = 2 := by kernel_rfl
theorem list2G {α : Type} {l : List α} (h : l.length = 2) : ∃ c0 c1, l = [c0, c1] := by
  match l, h with
  | [c0, c1], _ => exact ⟨c0, c1, rfl⟩
/-- A deed: what is done, and how many ticks behind. -/
def DeG (w : World) (b o : Nat) (x : Int × Int) : Prop := w.cell? ⟨b, o, none⟩ = some (.int .i64 x.1) ∧ w.cell? ⟨b, o + 1, none⟩ = some (.int .u8 x.2) ∧ 0 ≤ x.2 ∧ x.2 ≤ 255
theorem DeG.below {w w' : World} {B b o : Nat} {x : Int × Int} (h : DeG w b o x) (hlt : b < B) (hb : Below B w w') : DeG w' b o x :=
  ⟨(hb.cell (p := ⟨b, _, none⟩) hlt).trans h.1, (hb.cell (p := ⟨b, _, none⟩) hlt).trans h.2.1, h.2.2⟩
/-- Two bytes. -/
def TwG (w : World) (b o : Nat) (x : Int × Int) : Prop := w.cell? ⟨b, o, none⟩ = some (.int .u8 x.1) ∧ w.cell? ⟨b, o + 1, none⟩ = some (.int .u8 x.2) ∧ 0 ≤ x.1 ∧ x.1 ≤ 255 ∧ 0 ≤ x.2 ∧ x.2 ≤ 255
theorem TwG.below {w w' : World} {B b o : Nat} {x : Int × Int} (h : TwG w b o x) (hlt : b < B) (hb : Below B w w') : TwG w' b o x :=
  ⟨(hb.cell (p := ⟨b, _, none⟩) hlt).trans h.1, (hb.cell (p := ⟨b, _, none⟩) hlt).trans h.2.1, h.2.2⟩
abbrev DesG (w : World) (B : Nat) (A : Option Addr) (n c : Nat) (fs : Nat → Int × Int) : Prop := Els DeG 2 w B A n c fs
abbrev TwsG (w : World) (B : Nat) (A : Option Addr) (n c : Nat) (fs : Nat → Int × Int) : Prop := Els TwG 2 w B A n c fs
section
variable {H : Type} {enc : TypeId × Value → H} {w : World}
theorem desG_of_trod {fuel : Nat} {A : Option Addr} {n c : Nat} {x : DataW H × List MemPlace} (h : DataW.trod enc Try.prog w 0 (fun _ => true) true fuel 22 [.slice A n c] = some x) : ∃ fs, DesG w w.heap.size A n c fs :=
  els_of_trod Try.underlying22 cells_deedG (by omega) ((0 : Int), (0 : Int)) DeG (fun fuel cs x b o hf hl hc => by
    obtain ⟨c0, c1, rfl⟩ := list2G hl
    obtain ⟨y0, y1, m, _, _, h0, h1⟩ := trod_struct2 Try.underlying40 hf
    simp only [cells_intG, cells_u8G] at h0 h1
    obtain ⟨i, e0, _, _⟩ := DataW.trod_int Try.underlying3 h0
    obtain ⟨j, e1, _, w1⟩ := DataW.trod_int Try.underlying5 h1
    have := bounds_u8 w1
    simp at e0 e1
    subst e0 e1
    exact ⟨(i, j), hc 0 (by omega), hc 1 (by omega), this.1, this.2⟩) h
theorem twsG_of_trod {fuel : Nat} {A : Option Addr} {n c : Nat} {x : DataW H × List MemPlace} (h : DataW.trod enc Try.prog w 0 (fun _ => true) true fuel 49 [.slice A n c] = some x) : ∃ fs, TwsG w w.heap.size A n c fs :=
  els_of_trod Try.underlying49 cells_twoG (by omega) ((0 : Int), (0 : Int)) TwG (fun fuel cs x b o hf hl hc => by
    obtain ⟨c0, c1, rfl⟩ := list2G hl
    obtain ⟨xs, m3, _, _, _, hlen, hall⟩ := DataW.trod_array Try.underlying50 hf
    simp only [cells_u8G] at hall
    have hb : ∀ i, i < 2 → ∃ b, ((([c0, c1] : List Value).drop i).take 1) = [.int .u8 b] ∧ 0 ≤ b ∧ b ≤ 255 := fun i hi => by
      have h := hall i hi
      rw [List.getElem?_eq_getElem (show i < xs.length by omega)] at h
      obtain ⟨b, e, _, wb⟩ := DataW.trod_int Try.underlying5 h
      have := bounds_u8 wb
      exact ⟨b, by simpa using e, by omega, by omega⟩
    obtain ⟨b0, g0, i0⟩ := hb 0 (by omega)
    obtain ⟨b1, g1, i1⟩ := hb 1 (by omega)
    simp at g0 g1
    subst g0 g1
    exact ⟨(b0, b1), hc 0 (by omega), hc 1 (by omega), i0.1, i0.2, i1.1, i1.2⟩) h
end
/-- How many rounds there are. -/
theorem upto_of (n M : Nat) : ∃ K : Nat, K ≤ n ∧ K ≤ M ∧ ((K = n ∧ n ≤ M) ∨ (K = M ∧ M < n)) := by
  rcases Nat.lt_or_ge M n with h | h
  · exact ⟨M, by omega, by omega, .inr ⟨rfl, h⟩⟩
  · exact ⟨n, by omega, by omega, .inl ⟨rfl, h⟩⟩
end Go.Proofs.Ytphjdgapfcflgaa
