/- Deeds that came in. -/
import Derived.Test.YtbabohioeeandaaUc
import Derived.Lib.SmallJoins
import Derived.Deep.Slices
namespace Go.Proofs.Ytbabohioeeandaa
open Go.RowKit Go.ChangeShapes Go.WideShapes Go.Deep Go.Joins
set_option linter.unusedSimpArgs false
set_option linter.unusedVariables false

/-- One deed as it lies. -/
structure D3 where
  k : Int
  n : Int
  u : Int
structure DeedAt (w : World) (b off i : Nat) (f : D3) : Prop where
  ck : w.cell? ⟨b, off + 3 * i, none⟩ = some (.int .i64 f.k)
  cn : w.cell? ⟨b, off + 3 * i + 1, none⟩ = some (.int .i64 f.n)
  cu : w.cell? ⟨b, off + 3 * i + 2, none⟩ = some (.int .i64 f.u)
  rk : -9223372036854775808 ≤ f.k ∧ f.k ≤ 9223372036854775807
  rn : -9223372036854775808 ≤ f.n ∧ f.n ≤ 9223372036854775807
  ru : -9223372036854775808 ≤ f.u ∧ f.u ≤ 9223372036854775807
structure Deeds (w : World) (B : Nat) (A : Option Addr) (n c : Nat) (fs : Nat → D3) : Prop where
  cap : n ≤ c
  max : c ≤ maxLen
  cells : 0 < n → ∃ b off, A = some ⟨b, off, none⟩ ∧ b < B ∧ ∀ i, i < n → DeedAt w b off i (fs i)
theorem DeedAt.below {w w' : World} {B b off i : Nat} {f : D3} (h : DeedAt w b off i f) (hb : b < B) (hk : Below B w w') : DeedAt w' b off i f :=
  ⟨(hk.cell (p := ⟨b, _, none⟩) hb).trans h.ck, (hk.cell (p := ⟨b, _, none⟩) hb).trans h.cn, (hk.cell (p := ⟨b, _, none⟩) hb).trans h.cu, h.rk, h.rn, h.ru⟩
theorem deed_one : oneCellFields Try.prog (Try.prog.fieldsOf 27) = true := by kernel_rfl
theorem deed_under : Try.prog.underlying 27 = some (.struct (Try.prog.fieldsOf 27)) := by kernel_rfl
theorem deed_cells : Try.prog.cellsOf 27 = 3 := by kernel_rfl
theorem deed0 : ((Try.prog.fieldsOf 27)[0]?).map (·.type) = some 3 := by kernel_rfl
theorem deed1 : ((Try.prog.fieldsOf 27)[1]?).map (·.type) = some 3 := by kernel_rfl
theorem deed2 : ((Try.prog.fieldsOf 27)[2]?).map (·.type) = some 3 := by kernel_rfl
section
variable {H : Type} {enc : TypeId × Value → H} {w : World}
/-- One field of a struct whose cells were read. -/
theorem cell_of_deed {fuel i j T : Nat} {a : Addr} {cs : List Value} {x : DataW H × List MemPlace} (hc : w.cells? 0 (a.add (i * 3)) 3 = some cs) (ht : DataW.trod enc Try.prog w 0 (fun _ => true) true fuel 27 cs = some x)
    (hj : j < 3) (hf : ((Try.prog.fieldsOf 27)[j]?).map (·.type) = some T) :
    ∃ v y n, w.cell? (a.add (i * 3 + j)) = some v ∧ DataW.trod enc Try.prog w 0 (fun _ => true) true n T [v] = some y := by
  obtain ⟨f, hff, rfl⟩ := Option.map_eq_some_iff.1 hf
  obtain ⟨ys, n, _, _, _, hlen, hg⟩ := DataW.trod_struct deed_under ht
  obtain ⟨_, hcl, hat⟩ := World.cells?_some hc
  obtain ⟨ho, hk⟩ := hone_of deed_one j f hff
  have hjl : j < (Try.prog.fieldsOf 27).size := (Array.getElem?_eq_some_iff.1 hff).1
  have h1 := hg j f hff
  rw [ho, hk] at h1
  have hone' : (cs.drop j).take 1 = [cs[j]'(by omega)] := by
    rw [List.drop_eq_getElem_cons (by omega)]
    rfl
  rw [hone', List.getElem?_eq_getElem (by omega)] at h1
  refine ⟨_, _, n, ?_, h1⟩
  rw [← Go.Deep.add_add, hat j hj, List.getElem?_eq_getElem]
theorem deed_of {fuel i : Nat} {a : Addr} {b off : Nat} {cs : List Value} {x : DataW H × List MemPlace} (ha : a = ⟨b, off, none⟩) (hc : w.cells? 0 (a.add (i * 3)) 3 = some cs) (ht : DataW.trod enc Try.prog w 0 (fun _ => true) true fuel 27 cs = some x) :
    ∃ f, DeedAt w b off i f := by
  subst ha
  obtain ⟨v0, y0, n0, c0, t0⟩ := cell_of_deed hc ht (j := 0) (by omega) deed0
  obtain ⟨v1, y1, n1, c1, t1⟩ := cell_of_deed hc ht (j := 1) (by omega) deed1
  obtain ⟨v2, y2, n2, c2, t2⟩ := cell_of_deed hc ht (j := 2) (by omega) deed2
  obtain ⟨k, e0, _, w0⟩ := DataW.trod_int Try.underlying3 t0
  obtain ⟨n, e1, _, w1⟩ := DataW.trod_int Try.underlying3 t1
  obtain ⟨u, e2, _, w2⟩ := DataW.trod_int Try.underlying3 t2
  simp only [List.cons.injEq, and_true] at e0 e1 e2
  subst e0 e1 e2
  rw [add_plainR] at c0 c1 c2
  have hk := bounds_i64 w0
  have hn := bounds_i64 w1
  have hu := bounds_i64 w2
  refine ⟨⟨k, n, u⟩, ?_, ?_, ?_, ⟨hk.1, hk.2⟩, ⟨hn.1, hn.2⟩, ⟨hu.1, hu.2⟩⟩
  · rw [← c0]; congr 2; omega
  · rw [← c1]; congr 2; omega
  · rw [← c2]; congr 2; omega
theorem deeds_of_trod {fuel : Nat} {A : Option Addr} {n c : Nat} {x : DataW H × List MemPlace} (h : DataW.trod enc Try.prog w 0 (fun _ => true) true fuel 22 [.slice A n c] = some x) : ∃ fs, Deeds w w.heap.size A n c fs := by
  rcases open_slice Try.underlying22 h with ⟨hcs, _⟩ | ⟨a, len, cap, m, n', D, Pl, hcs, _, hl, hm, hmm, _, hi⟩
  · simp at hcs
    obtain ⟨rfl, rfl, rfl⟩ := hcs
    exact ⟨fun _ => ⟨0, 0, 0⟩, Nat.le_refl _, by simp [maxLen], fun h => absurd h (by omega)⟩
  · simp at hcs
    obtain ⟨rfl, rfl, rfl⟩ := hcs
    simp at hmm
    subst hmm
    rw [deed_cells] at hi
    rcases Nat.eq_zero_or_pos n with h0 | h0
    · subst h0
      exact ⟨fun _ => ⟨0, 0, 0⟩, hl, hm, fun h => absurd h (by omega)⟩
    · obtain ⟨b, off, spot⟩ := a
      obtain ⟨cs0, hc0, ht0⟩ := hi 0 (by omega)
      obtain ⟨v0, y0, n0, c0, _⟩ := cell_of_deed hc0 ht0 (j := 0) (by omega) deed0
      have hspot : spot = none := by simpa [Addr.add] using World.cell?_spot c0
      subst hspot
      have hb : b < w.heap.size := by have := block_lt_of_cell c0; simpa [Addr.add] using this
      have hex : ∀ i, ∃ f, i < n → DeedAt w b off i f := fun i => by
        by_cases hin : i < n
        · obtain ⟨cs, hc, ht⟩ := hi i (by omega)
          obtain ⟨f, hf⟩ := deed_of rfl hc ht
          exact ⟨f, fun _ => hf⟩
        · exact ⟨⟨0, 0, 0⟩, fun h => absurd h hin⟩
      exact ⟨fun i => Classical.choose (hex i), hl, hm, fun _ => ⟨b, off, rfl, hb, fun i hi => Classical.choose_spec (hex i) hi⟩⟩
end
end Go.Proofs.Ytbabohioeeandaa
