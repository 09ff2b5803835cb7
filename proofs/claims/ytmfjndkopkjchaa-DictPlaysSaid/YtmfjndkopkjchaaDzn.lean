/- Deeds that came in. -/
import Derived.Test.YtmfjndkopkjchaaDzl
import Derived.Test.YtmfjndkopkjchaaDt
import Derived.Lib.SmallJoins
import Derived.Deep.Slices
namespace Go.Proofs.Ytmfjndkopkjchaa
open Go.RowKit Go.Joins Go.ChangeShapes Go.WideShapes Go.Deep
set_option linter.unusedSimpArgs false
set_option linter.unusedVariables false

structure DeedV where
  d : Int
  i : Int
  j : Int
  k : Int
  ac : Int
  lo : Int
  hi : Int
  A : Option Addr
  q : Nat
  m : Nat
  l : List Int
  N : Int
/-- The cells of deed i of a slice. -/
structure DeedC (w : World) (B b o : Nat) (x : DeedV) : Prop where
  c0 : w.cell? ⟨b, o, none⟩ = some (.int .i64 x.d)
  c1 : w.cell? ⟨b, o + 1, none⟩ = some (.int .i64 x.i)
  c2 : w.cell? ⟨b, o + 2, none⟩ = some (.int .i64 x.j)
  c3 : w.cell? ⟨b, o + 3, none⟩ = some (.int .i64 x.k)
  c4 : w.cell? ⟨b, o + 4, none⟩ = some (.int .i64 x.ac)
  c5 : w.cell? ⟨b, o + 5, none⟩ = some (.int .i64 x.lo)
  c6 : w.cell? ⟨b, o + 6, none⟩ = some (.int .i64 x.hi)
  c7 : w.cell? ⟨b, o + 7, none⟩ = some (.slice x.A x.q x.m)
  c8 : w.cell? ⟨b, o + 8, none⟩ = some (.int .i64 x.N)
  byt : Byt w B x.A x.q x.m x.l
/-- The slice '.slice A n c' of deeds reads as fs. -/
structure Dds (w : World) (B : Nat) (A : Option Addr) (n c : Nat) (fs : Nat → DeedV) : Prop where
  cap : n ≤ c
  max : c ≤ maxLen
  cells : 0 < n → ∃ b off, A = some ⟨b, off, none⟩ ∧ b < B ∧ ∀ i, i < n → DeedC w B b (off + i * 9) (fs i)
section
variable {w w' : World} {B b o n c : Nat} {x : DeedV} {A : Option Addr} {fs : Nat → DeedV}
theorem DeedC.below (h : DeedC w B b o x) (hlt : b < B) (hb : Below B w w') : DeedC w' B b o x :=
  ⟨(hb.cell (p := ⟨b, _, none⟩) hlt).trans h.c0, (hb.cell (p := ⟨b, _, none⟩) hlt).trans h.c1, (hb.cell (p := ⟨b, _, none⟩) hlt).trans h.c2, (hb.cell (p := ⟨b, _, none⟩) hlt).trans h.c3, (hb.cell (p := ⟨b, _, none⟩) hlt).trans h.c4, (hb.cell (p := ⟨b, _, none⟩) hlt).trans h.c5, (hb.cell (p := ⟨b, _, none⟩) hlt).trans h.c6, (hb.cell (p := ⟨b, _, none⟩) hlt).trans h.c7, (hb.cell (p := ⟨b, _, none⟩) hlt).trans h.c8, h.byt.below hb⟩
theorem Dds.below (h : Dds w B A n c fs) (hb : Below B w w') : Dds w' B A n c fs :=
  ⟨h.cap, h.max, fun hn => by
    obtain ⟨b, off, e, hlt, hc⟩ := h.cells hn
    exact ⟨b, off, e, hlt, fun i hi => (hc i hi).below hlt hb⟩⟩
end
theorem trod_struct5 {H : Type} {enc : TypeId × Value → H} {P : Program} {w : World} {base : Nat} {spare : Nat → Bool} {held : Bool} {t : TypeId} {f0 f1 f2 f3 f4 : Field} {fuel : Nat} {cs : List Value} {x : DataW H × List MemPlace} (ht : P.underlying t = some (.struct #[f0, f1, f2, f3, f4])) (h : DataW.trod enc P w base spare held fuel t cs = some x) :
    ∃ y0 y1 y2 y3 y4 n, cs.length = P.cellsOf t ∧ DataW.trod enc P w base spare held n f0.type ((cs.drop f0.offset).take (P.cellsOf f0.type)) = some y0 ∧
      DataW.trod enc P w base spare held n f1.type ((cs.drop f1.offset).take (P.cellsOf f1.type)) = some y1 ∧ DataW.trod enc P w base spare held n f2.type ((cs.drop f2.offset).take (P.cellsOf f2.type)) = some y2 ∧
      DataW.trod enc P w base spare held n f3.type ((cs.drop f3.offset).take (P.cellsOf f3.type)) = some y3 ∧ DataW.trod enc P w base spare held n f4.type ((cs.drop f4.offset).take (P.cellsOf f4.type)) = some y4 := by
  obtain ⟨xs, n, _, rfl, hl, hlen, hf⟩ := DataW.trod_struct ht h
  match xs, hlen with
  | [y0, y1, y2, y3, y4], _ => exact ⟨y0, y1, y2, y3, y4, n, hl, by simpa using hf 0 f0 rfl, by simpa using hf 1 f1 rfl, by simpa using hf 2 f2 rfl, by simpa using hf 3 f3 rfl, by simpa using hf 4 f4 rfl⟩
theorem cells_deed : Try.prog.cellsOf 38 = 9 := by kernel_rfl
theorem cells_specD : Try.prog.cellsOf 35 = 4 := by kernel_rfl
theorem cells_kindD : Try.prog.cellsOf 32 = 1 := by kernel_rfl
theorem cells_accessD : Try.prog.cellsOf 33 = 1 := by kernel_rfl
theorem cells_i64D : Try.prog.cellsOf 2 = 1 := by kernel_rfl
theorem cells_bytesD : Try.prog.cellsOf 36 = 1 := by kernel_rfl
theorem list9 {α : Type} {l : List α} (h : l.length = 9) : ∃ c0 c1 c2 c3 c4 c5 c6 c7 c8, l = [c0, c1, c2, c3, c4, c5, c6, c7, c8] := by
  match l, h with
  | [c0, c1, c2, c3, c4, c5, c6, c7, c8], _ => exact ⟨c0, c1, c2, c3, c4, c5, c6, c7, c8, rfl⟩
section
variable {H : Type} {enc : TypeId × Value → H} {w : World}
theorem bytes_of_trod {fuel : Nat} {A : Option Addr} {n c : Nat} {x : DataW H × List MemPlace} (hf : DataW.trod enc Try.prog w 0 (fun _ => true) true fuel 36 [.slice A n c] = some x) : ∃ l, Byt w w.heap.size A n c l := by
  rcases open_ints Try.underlying36 Try.underlying5 (by kernel_rfl) hf with ⟨hcs, _⟩ | ⟨x, l, c, zs, hcs, _, hl, hm, hz, _, hcell, hwz⟩
  · simp at hcs
    obtain ⟨rfl, rfl, rfl⟩ := hcs
    exact ⟨[], Byt.nil_ _ _⟩
  · simp at hcs
    obtain ⟨rfl, rfl, rfl⟩ := hcs
    exact ⟨_, byt_of_row hl hm (by simpa using hz) hcell hwz⟩
theorem deed_of_cells {fuel : Nat} {c0 c1 c2 c3 c4 c5 c6 c7 c8 : Value} {x : DataW H × List MemPlace} (hf : DataW.trod enc Try.prog w 0 (fun _ => true) true fuel 38 [c0, c1, c2, c3, c4, c5, c6, c7, c8] = some x) :
    ∃ f : DeedV, (c0 = .int .i64 f.d ∧ c1 = .int .i64 f.i ∧ c2 = .int .i64 f.j ∧ c3 = .int .i64 f.k ∧ c4 = .int .i64 f.ac ∧ c5 = .int .i64 f.lo ∧ c6 = .int .i64 f.hi ∧ c7 = .slice f.A f.q f.m ∧ c8 = .int .i64 f.N) ∧ Byt w w.heap.size f.A f.q f.m f.l := by
  obtain ⟨y0, y1, y2, y3, y4, m, _, h0, h1, h2, h3, h4⟩ := trod_struct5 Try.underlying38 hf
  simp only [cells_keyD, cells_intD, cells_specD, cells_i64D, cells_bytesD] at h0 h1 h2 h3 h4
  obtain ⟨z0, z1, m1, _, _, k0, k1⟩ := trod_struct2 Try.underlying31 h1
  obtain ⟨s0, s1, s2, s3, m2, _, _, t0, t1, t2, t3⟩ := trod_struct4 Try.underlying35 h2
  simp only [cells_intD, cells_kindD, cells_accessD, cells_i64D] at k0 k1 t0 t1 t2 t3
  obtain ⟨d, e0, _, _⟩ := DataW.trod_int Try.underlying3 h0
  obtain ⟨i, e1, _, _⟩ := DataW.trod_int Try.underlying3 k0
  obtain ⟨j, e2, _, _⟩ := DataW.trod_int Try.underlying3 k1
  obtain ⟨k, e3, _, _⟩ := DataW.trod_int Try.underlying32 t0
  obtain ⟨ac, e4, _, _⟩ := DataW.trod_int Try.underlying33 t1
  obtain ⟨lo, e5, _, _⟩ := DataW.trod_int Try.underlying2 t2
  obtain ⟨hi, e6, _, _⟩ := DataW.trod_int Try.underlying2 t3
  obtain ⟨A, q, mm, e7⟩ := slice_form Try.underlying36 h3
  obtain ⟨N, e8, _, _⟩ := DataW.trod_int Try.underlying2 h4
  simp at e0 e1 e2 e3 e4 e5 e6 e7 e8
  subst e0 e1 e2 e3 e4 e5 e6 e7 e8
  obtain ⟨l, hl⟩ := bytes_of_trod (by simpa using h3)
  exact ⟨⟨d, i, j, k, ac, lo, hi, A, q, mm, l, N⟩, ⟨rfl, rfl, rfl, rfl, rfl, rfl, rfl, rfl, rfl⟩, hl⟩
def deed0 : DeedV := ⟨0, 0, 0, 0, 0, 0, 0, none, 0, 0, [], 0⟩
theorem dds_of_trod {fuel : Nat} {A : Option Addr} {n c : Nat} {x : DataW H × List MemPlace} (h : DataW.trod enc Try.prog w 0 (fun _ => true) true fuel 22 [.slice A n c] = some x) : ∃ fs, Dds w w.heap.size A n c fs := by
  rcases open_slice Try.underlying22 h with ⟨hcs, _⟩ | ⟨a, len, cap, m, n', D, Pl, hcs, _, hl, hm, hmm, _, hi⟩
  · simp at hcs
    obtain ⟨rfl, rfl, rfl⟩ := hcs
    exact ⟨fun _ => deed0, Nat.le_refl _, by simp [maxLen], fun h => absurd h (by omega)⟩
  · simp at hcs
    obtain ⟨rfl, rfl, rfl⟩ := hcs
    simp at hmm
    subst hmm
    rw [cells_deed] at hi
    rcases Nat.eq_zero_or_pos n with h0 | h0
    · subst h0
      exact ⟨fun _ => deed0, hl, hm, fun h => absurd h (by omega)⟩
    · obtain ⟨b, off, spot⟩ := a
      obtain ⟨cs0, hc0, ht0⟩ := hi 0 (by omega)
      obtain ⟨_, hcl0, hat0⟩ := World.cells?_some hc0
      have k0 := hat0 0 (by omega)
      rw [List.getElem?_eq_getElem (by omega)] at k0
      have hspot : spot = none := by simpa [Addr.add] using World.cell?_spot k0
      subst hspot
      have hb : b < w.heap.size := by have := block_lt_of_cell k0; simpa [Addr.add] using this
      have hex : ∀ i, ∃ f, i < n → DeedC w w.heap.size b (off + i * 9) f := fun i => by
        by_cases hin : i < n
        · obtain ⟨cs, hc, ht⟩ := hi i (by omega)
          obtain ⟨_, hcl, hat⟩ := World.cells?_some hc
          obtain ⟨c0, c1, c2, c3, c4, c5, c6, c7, c8, rfl⟩ := list9 hcl
          obtain ⟨f, ⟨rfl, rfl, rfl, rfl, rfl, rfl, rfl, rfl, rfl⟩, hB⟩ := deed_of_cells ht
          have hk := fun j hj => by
            have := hat j hj
            rw [add_plainR, add_plainR] at this
            exact this
          exact ⟨f, fun _ => ⟨hk 0 (by omega), hk 1 (by omega), hk 2 (by omega), hk 3 (by omega), hk 4 (by omega), hk 5 (by omega), hk 6 (by omega), hk 7 (by omega), hk 8 (by omega), hB⟩⟩
        · exact ⟨deed0, fun h => absurd h hin⟩
      exact ⟨fun i => Classical.choose (hex i), hl, hm, fun _ => ⟨b, off, rfl, hb, fun i hi => Classical.choose_spec (hex i) hi⟩⟩
end
end Go.Proofs.Ytmfjndkopkjchaa
