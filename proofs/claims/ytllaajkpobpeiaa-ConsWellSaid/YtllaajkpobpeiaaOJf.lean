/- pair: frames that came in; a text's bytes. -/
import Derived.Test.YtllaajkpobpeiaaOJd
import Derived.OpenShut
import Derived.Lib.SmallJoins
import Derived.Deep.Slices
import Derived.Deep.LoopGhost
namespace Go.Proofs.Ytllaajkpobpeiaa
open Go.RowKit Go.Joins Go.ChangeShapes Go.WideShapes Go.Deep
set_option linter.unusedSimpArgs false
set_option linter.unusedVariables false
theorem add_plainJ (b o i : Nat) : (⟨b, o, none⟩ : Addr).add i = ⟨b, o + i, none⟩ := by unfold Addr.add; split <;> simp_all
/-- The slice '.slice A n c' of things of k cells reads as fs; C tells what a thing's cells are. -/
structure ElsJ {D : Type} (C : World → Nat → Nat → D → Prop) (k : Nat) (w : World) (B : Nat) (A : Option Addr) (n c : Nat) (fs : Nat → D) : Prop where
  cap : n ≤ c
  max : c ≤ maxLen
  cells : 0 < n → ∃ b off, A = some ⟨b, off, none⟩ ∧ b < B ∧ ∀ i, i < n → C w b (off + i * k) (fs i)
theorem ElsJ.below {D : Type} {C : World → Nat → Nat → D → Prop} {k : Nat} {w w' : World} {B : Nat} {A : Option Addr} {n c : Nat} {fs : Nat → D} (h : ElsJ C k w B A n c fs)
    (hC : ∀ b o x, b < B → C w b o x → C w' b o x) : ElsJ C k w' B A n c fs :=
  ⟨h.cap, h.max, fun hn => by
    obtain ⟨b, off, e, hlt, hc⟩ := h.cells hn
    exact ⟨b, off, e, hlt, fun i hi => hC _ _ _ hlt (hc i hi)⟩⟩
theorem els_of_trodJ {H : Type} {enc : TypeId × Value → H} {P : Program} {w : World} {T E : TypeId} (hT : P.underlying T = some (.slice E)) {k : Nat} (hk : P.cellsOf E = k) (hk0 : 0 < k)
    {D : Type} (x0 : D) (C : World → Nat → Nat → D → Prop)
    (hC : ∀ fuel cs (x : DataW H × List MemPlace) b o, DataW.trod enc P w 0 (fun _ => true) true fuel E cs = some x → cs.length = k → (∀ j, j < k → w.cell? ⟨b, o + j, none⟩ = cs[j]?) → ∃ f, C w b o f)
    {fuel : Nat} {A : Option Addr} {n c : Nat} {x : DataW H × List MemPlace} (h : DataW.trod enc P w 0 (fun _ => true) true fuel T [.slice A n c] = some x) : ∃ fs, ElsJ C k w w.heap.size A n c fs := by
  rcases open_slice hT h with ⟨hcs, _⟩ | ⟨a, len, cap, m, n', D, Pl, hcs, _, hl, hm, hmm, _, hi⟩
  · simp at hcs
    obtain ⟨rfl, rfl, rfl⟩ := hcs
    exact ⟨fun _ => x0, Nat.le_refl _, by simp [maxLen], fun h => absurd h (by omega)⟩
  · simp at hcs
    obtain ⟨rfl, rfl, rfl⟩ := hcs
    simp at hmm
    subst hmm
    rw [hk] at hi
    rcases Nat.eq_zero_or_pos n with h0 | h0
    · subst h0
      exact ⟨fun _ => x0, hl, hm, fun h => absurd h (by omega)⟩
    · obtain ⟨b, off, spot⟩ := a
      obtain ⟨cs0, hc0, ht0⟩ := hi 0 (by omega)
      obtain ⟨_, hcl0, hat0⟩ := World.cells?_some hc0
      have k0 := hat0 0 (by omega)
      rw [List.getElem?_eq_getElem (by omega)] at k0
      have hspot : spot = none := by simpa [Addr.add] using World.cell?_spot k0
      subst hspot
      have hb : b < w.heap.size := by have := block_lt_of_cell k0; simpa [Addr.add] using this
      have hex : ∀ i, ∃ f, i < n → C w b (off + i * k) f := fun i => by
        by_cases hin : i < n
        · obtain ⟨cs, hc, ht⟩ := hi i (by omega)
          obtain ⟨_, hcl, hat⟩ := World.cells?_some hc
          obtain ⟨f, hf⟩ := hC _ cs _ b (off + i * k) ht hcl (fun j hj => by
            have := hat j hj
            rw [add_plainJ, add_plainJ] at this
            exact this)
          exact ⟨f, fun _ => hf⟩
        · exact ⟨x0, fun h => absurd h hin⟩
      exact ⟨fun i => Classical.choose (hex i), hl, hm, fun _ => ⟨b, off, rfl, hb, fun i hi => Classical.choose_spec (hex i) hi⟩⟩
theorem to_bytes (w : World) (l : List Int) (hr : ∀ x ∈ l, 0 ≤ x ∧ x ≤ 255) (hl : l.length ≤ 64) :
    ∃ c w', (convert 9 43 (.string (strOfNums l))).run Try.prog w = .ok (.slice (some ⟨w.heap.size, 0, none⟩) l.length c) w' ∧ Byt w' w'.heap.size (some ⟨w.heap.size, 0, none⟩) l.length c l ∧ Below w.heap.size w w' := by
  have hz : (strOfNums l).size = l.length := by simp [strOfNums, ByteArray.size]
  have hrun := Lib.run_convert_string_bytes (P := Try.prog) w 9 43 5 (strOfNums l) Try.underlying9 Try.underlying43 Try.underlying5
  rw [hz] at hrun
  refine ⟨_, _, hrun, ⟨rfl, grownCap_ge _ _ _ _, grownCap_le_maxLen _ _ _ _ (by simp only [maxLen]; omega), hr, fun hn => ⟨_, 0, rfl, by rw [Lib.bytesWorld_size]; omega, fun j hj => ?_⟩⟩, Joins.below_bytesWorld _ _ _ _ (Nat.le_refl _)⟩
  rw [Nat.zero_add, Lib.bytesWorld_cell _ _ _ _ (by omega)]
  have hb := hr _ (List.getElem_mem hj)
  rw [strOfNums_data, List.getD_eq_getElem?_getD, List.getD_eq_getElem?_getD, List.getElem?_map, List.getElem?_eq_getElem hj]
  simp only [Option.map_some, Option.getD_some]
  have e : (((UInt8.ofNat (l[j]).toNat).toNat : Nat) : Int) = l[j] := by rw [UInt8.toNat_ofNat']; omega
  rw [e]
theorem cells_boolP : Try.prog.cellsOf 4 = 1 := by kernel_rfl
theorem cells_bytesP : Try.prog.cellsOf 43 = 1 := by kernel_rfl
theorem list4P {α : Type} {l : List α} (h : l.length = 4) : ∃ c0 c1 c2 c3, l = [c0, c1, c2, c3] := by
  match l, h with
  | [c0, c1, c2, c3], _ => exact ⟨c0, c1, c2, c3, rfl⟩
/-- A frame that comes: turned, clear, fork, and its bytes. -/
structure CaV where
  t : Bool
  cl : Bool
  fk : Bool
  A : Option Addr
  n : Nat
  c : Nat
  l : List Int
structure CaC (w : World) (b o : Nat) (x : CaV) : Prop where
  c0 : w.cell? ⟨b, o, none⟩ = some (.bool x.t)
  c1 : w.cell? ⟨b, o + 1, none⟩ = some (.bool x.cl)
  c2 : w.cell? ⟨b, o + 2, none⟩ = some (.bool x.fk)
  c3 : w.cell? ⟨b, o + 3, none⟩ = some (.slice x.A x.n x.c)
  byt : Byt w w.heap.size x.A x.n x.c x.l
theorem CaC.below {w w' : World} {b o : Nat} {x : CaV} (h : CaC w b o x) (hlt : b < w.heap.size) (hb : Below w.heap.size w w') : CaC w' b o x :=
  ⟨(hb.cell (p := ⟨b, _, none⟩) hlt).trans h.c0, (hb.cell (p := ⟨b, _, none⟩) hlt).trans h.c1, (hb.cell (p := ⟨b, _, none⟩) hlt).trans h.c2, (hb.cell (p := ⟨b, _, none⟩) hlt).trans h.c3, h.byt.step hb⟩
abbrev CasP (w : World) (B : Nat) (A : Option Addr) (n c : Nat) (fs : Nat → CaV) : Prop := ElsJ CaC 4 w B A n c fs
theorem trod_struct4P {H : Type} {enc : TypeId × Value → H} {P : Program} {w : World} {base : Nat} {spare : Nat → Bool} {held : Bool} {t : TypeId} {f0 f1 f2 f3 : Field} {fuel : Nat} {cs : List Value} {x : DataW H × List MemPlace} (ht : P.underlying t = some (.struct #[f0, f1, f2, f3])) (h : DataW.trod enc P w base spare held fuel t cs = some x) :
    ∃ y0 y1 y2 y3 n, cs.length = P.cellsOf t ∧ DataW.trod enc P w base spare held n f0.type ((cs.drop f0.offset).take (P.cellsOf f0.type)) = some y0 ∧
      DataW.trod enc P w base spare held n f1.type ((cs.drop f1.offset).take (P.cellsOf f1.type)) = some y1 ∧ DataW.trod enc P w base spare held n f2.type ((cs.drop f2.offset).take (P.cellsOf f2.type)) = some y2 ∧
      DataW.trod enc P w base spare held n f3.type ((cs.drop f3.offset).take (P.cellsOf f3.type)) = some y3 := by
  obtain ⟨xs, n, _, rfl, hl, hlen, hf⟩ := DataW.trod_struct ht h
  match xs, hlen with
  | [y0, y1, y2, y3], _ => exact ⟨y0, y1, y2, y3, n, hl, by simpa using hf 0 f0 rfl, by simpa using hf 1 f1 rfl, by simpa using hf 2 f2 rfl, by simpa using hf 3 f3 rfl⟩
section
variable {H : Type} {enc : TypeId × Value → H} {w : World}
theorem bytesP_of_trod {fuel : Nat} {A : Option Addr} {n c : Nat} {x : DataW H × List MemPlace} (hf : DataW.trod enc Try.prog w 0 (fun _ => true) true fuel 43 [.slice A n c] = some x) : ∃ l, Byt w w.heap.size A n c l := by
  rcases open_ints Try.underlying43 Try.underlying5 (by kernel_rfl) hf with ⟨hcs, _⟩ | ⟨x, l, c, zs, hcs, _, hl, hm, hz, _, hcell, hwz⟩
  · simp at hcs
    obtain ⟨rfl, rfl, rfl⟩ := hcs
    exact ⟨[], Byt.nil_ _ _⟩
  · simp at hcs
    obtain ⟨rfl, rfl, rfl⟩ := hcs
    exact ⟨_, byt_of_row hl hm (by simpa using hz) hcell hwz⟩
end
theorem upto_of (n M : Nat) : ∃ K : Nat, K ≤ n ∧ K ≤ M ∧ ((K = n ∧ n ≤ M) ∨ (K = M ∧ M < n)) := by
  rcases Nat.lt_or_ge M n with h | h
  · exact ⟨M, by omega, by omega, .inr ⟨rfl, h⟩⟩
  · exact ⟨n, by omega, by omega, .inl ⟨rfl, h⟩⟩
theorem Byt.take {w : World} {B : Nat} {A : Option Addr} {n c : Nat} {l : List Int} (h : Byt w B A n c l) {m : Nat} (hm : m ≤ n) : Byt w B A m c (l.take m) :=
  ⟨by rw [List.length_take, h.len]; omega, Nat.le_trans hm h.cap, h.max, fun x hx => h.rng x (List.mem_of_mem_take hx), fun h0 => by
    obtain ⟨b, off, e, hb, hc⟩ := h.cells (by omega)
    refine ⟨b, off, e, hb, fun j hj => ?_⟩
    rw [hc j (by omega)]
    simp [List.getD, hj]⟩
end Go.Proofs.Ytllaajkpobpeiaa