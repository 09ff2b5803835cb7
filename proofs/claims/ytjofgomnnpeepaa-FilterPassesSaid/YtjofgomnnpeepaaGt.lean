/- Filters that came in. -/
import Derived.Test.YtjofgomnnpeepaaGs
import Derived.ChangeOld
import Derived.ShutString
import Derived.Deep.Slices
namespace Go.Proofs.Ytjofgomnnpeepaa
open Go.RowKit Go.ChangeShapes Go.WideShapes Go.Deep Go.Joins

theorem fil_one : oneCellFields Try.prog (Try.prog.fieldsOf 36) = true := by kernel_rfl
theorem fil_under : Try.prog.underlying 36 = some (.struct (Try.prog.fieldsOf 36)) := by kernel_rfl
theorem fil_cells : Try.prog.cellsOf 36 = 2 := by kernel_rfl
theorem fil0 : ((Try.prog.fieldsOf 36)[0]?).map (·.type) = some 3 := by kernel_rfl
theorem fil1 : ((Try.prog.fieldsOf 36)[1]?).map (·.type) = some 3 := by kernel_rfl
theorem add_plain2 (b off k : Nat) : (⟨b, off, none⟩ : Addr).add k = ⟨b, off + k, none⟩ := by unfold Addr.add; split <;> simp_all
section
variable {H : Type} {enc : TypeId × Value → H} {w : World}
/-- One field of a struct whose cells were read. -/
theorem cell_of_fil {fuel i j T : Nat} {a : Addr} {cs : List Value} {x : DataW H × List MemPlace} (hc : w.cells? 0 (a.add (i * 2)) 2 = some cs) (ht : DataW.trod enc Try.prog w 0 (fun _ => true) true fuel 36 cs = some x)
    (hj : j < 2) (hf : ((Try.prog.fieldsOf 36)[j]?).map (·.type) = some T) :
    ∃ v y n, w.cell? (a.add (i * 2 + j)) = some v ∧ DataW.trod enc Try.prog w 0 (fun _ => true) true n T [v] = some y := by
  obtain ⟨f, hff, rfl⟩ := Option.map_eq_some_iff.1 hf
  obtain ⟨ys, n, _, _, _, hlen, hg⟩ := DataW.trod_struct fil_under ht
  obtain ⟨_, hcl, hat⟩ := World.cells?_some hc
  obtain ⟨ho, hk⟩ := hone_of fil_one j f hff
  have hjl : j < (Try.prog.fieldsOf 36).size := (Array.getElem?_eq_some_iff.1 hff).1
  have h1 := hg j f hff
  rw [ho, hk] at h1
  have hone' : (cs.drop j).take 1 = [cs[j]'(by omega)] := by
    rw [List.drop_eq_getElem_cons (by omega)]
    rfl
  rw [hone', List.getElem?_eq_getElem (by omega)] at h1
  refine ⟨_, _, n, ?_, h1⟩
  rw [← Go.Deep.add_add, hat j hj, List.getElem?_eq_getElem]

theorem fil_of {fuel i : Nat} {a : Addr} {b off : Nat} {cs : List Value} {x : DataW H × List MemPlace} (ha : a = ⟨b, off, none⟩) (hc : w.cells? 0 (a.add (i * 2)) 2 = some cs) (ht : DataW.trod enc Try.prog w 0 (fun _ => true) true fuel 36 cs = some x) :
    ∃ f : Int × Int, w.cell? ⟨b, off + i * 2, none⟩ = some (.int .i64 f.1) ∧ w.cell? ⟨b, off + i * 2 + 1, none⟩ = some (.int .i64 f.2) := by
  subst ha
  obtain ⟨v0, y0, n0, c0, t0⟩ := cell_of_fil hc ht (j := 0) (by omega) fil0
  obtain ⟨v1, y1, n1, c1, t1⟩ := cell_of_fil hc ht (j := 1) (by omega) fil1
  obtain ⟨k, e0, _, w0⟩ := DataW.trod_int Try.underlying3 t0
  obtain ⟨n, e1, _, w1⟩ := DataW.trod_int Try.underlying3 t1
  simp only [List.cons.injEq, and_true] at e0 e1
  subst e0 e1
  rw [add_plain2] at c0 c1
  exact ⟨(k, n), c0, c1⟩
theorem fils_of_trod {fuel : Nat} {A : Option Addr} {n c : Nat} {x : DataW H × List MemPlace} (h : DataW.trod enc Try.prog w 0 (fun _ => true) true fuel 22 [.slice A n c] = some x) : ∃ fs, Fils w w.heap.size A n c fs := by
  rcases open_slice Try.underlying22 h with ⟨hcs, _⟩ | ⟨a, len, cap, m, n', D, Pl, hcs, _, hl, hm, hmm, _, hi⟩
  · simp at hcs
    obtain ⟨rfl, rfl, rfl⟩ := hcs
    exact ⟨fun _ => (0, 0), Nat.le_refl _, by simp [maxLen], fun h => absurd h (by omega)⟩
  · simp at hcs
    obtain ⟨rfl, rfl, rfl⟩ := hcs
    simp at hmm
    subst hmm
    rw [fil_cells] at hi
    rcases Nat.eq_zero_or_pos n with h0 | h0
    · subst h0
      exact ⟨fun _ => (0, 0), hl, hm, fun h => absurd h (by omega)⟩
    · obtain ⟨b, off, spot⟩ := a
      obtain ⟨cs0, hc0, ht0⟩ := hi 0 (by omega)
      obtain ⟨v0, y0, n0, c0, _⟩ := cell_of_fil hc0 ht0 (j := 0) (by omega) fil0
      have hspot : spot = none := by simpa [Addr.add] using World.cell?_spot c0
      subst hspot
      have hb : b < w.heap.size := by have := block_lt_of_cell c0; simpa [Addr.add] using this
      have hex : ∀ i, ∃ f : Int × Int, i < n → (w.cell? ⟨b, off + i * 2, none⟩ = some (.int .i64 f.1) ∧ w.cell? ⟨b, off + i * 2 + 1, none⟩ = some (.int .i64 f.2)) := fun i => by
        by_cases hin : i < n
        · obtain ⟨cs, hc, ht⟩ := hi i (by omega)
          obtain ⟨f, hf⟩ := fil_of rfl hc ht
          exact ⟨f, fun _ => hf⟩
        · exact ⟨(0, 0), fun h => absurd h hin⟩
      exact ⟨fun i => Classical.choose (hex i), hl, hm, fun _ => ⟨b, off, rfl, hb, fun i hi => Classical.choose_spec (hex i) hi⟩⟩
end
end Go.Proofs.Ytjofgomnnpeepaa
