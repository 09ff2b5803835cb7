/- pair: a checker in memory, and its calls. -/
import Derived.Test.YtllaajkpobpeiaaOJa
namespace Go.Proofs.Ytllaajkpobpeiaa
open Go.RowKit
set_option linter.unusedSimpArgs false
set_option linter.unusedVariables false
/-- Nothing but the block g is another one. -/
structure Onl (g : Nat) (w w' : World) : Prop where
  bel : Below g w w'
  oth : ∀ k, k < w.heap.size → ¬ k = g → w'.heap[k]? = w.heap[k]?
section
variable {g : Nat} {w w' x : World}
theorem Onl.of (h : Below w.heap.size w w') (hg : g ≤ w.heap.size) : Onl g w w' := ⟨h.mono hg, fun k hk _ => h.block k hk⟩
theorem Onl.refl (w : World) (hg : g ≤ w.heap.size) : Onl g w w := Onl.of (Below.refl _ _) hg
theorem Onl.trans (h : Onl g w w') (h2 : Onl g w' x) : Onl g w x := ⟨h.bel.trans h2.bel, fun k hk hn => (h2.oth k (Nat.lt_of_lt_of_le hk h.bel.size) hn).trans (h.oth k hk hn)⟩
theorem Onl.set (w : World) (i : Nat) (v : Value) : Onl g w (w.setCell ⟨g, i, none⟩ v) :=
  ⟨(Below.refl _ w).setCell (p := ⟨g, i, none⟩) (Nat.le_refl _) _, fun k _ hn => Below.heap_setCell w ⟨g, i, none⟩ v k hn⟩
theorem Onl.from_ (h : Onl g w w') {B : Nat} (hB : B ≤ g) : Below B w w' := h.bel.mono hB
end
/-- A checker's block. -/
def CkAt (w : World) (g : Nat) (sz : Int) (PA : Option Addr) (Pn Pc : Nat) (VA : Option Addr) (Vn Vc : Nat) : Prop :=
  w.heap[g]? = some (.cells #[.int .i64 sz, .slice PA Pn Pc, .slice VA Vn Vc] 138 (0, 0))
section
variable {g : Nat} {w w' x : World} {sz : Int} {PA VA A : Option Addr} {Pn Pc Vn Vc n c : Nat} {l : List Int}
theorem CkAt.lt (h : CkAt w g sz PA Pn Pc VA Vn Vc) : g < w.heap.size := (Array.getElem?_eq_some_iff.1 h).1
theorem CkAt.cells (h : CkAt w g sz PA Pn Pc VA Vn Vc) : w.cell? ⟨g, 0, none⟩ = some (.int .i64 sz) ∧ w.cell? ⟨g, 1, none⟩ = some (.slice PA Pn Pc) ∧ w.cell? ⟨g, 2, none⟩ = some (.slice VA Vn Vc) :=
  ⟨by rw [cell_of_row _ _ _ _ _ _ h]; rfl, by rw [cell_of_row _ _ _ _ _ _ h]; rfl, by rw [cell_of_row _ _ _ _ _ _ h]; rfl⟩
theorem CkAt.frozen (h : CkAt w g sz PA Pn Pc VA Vn Vc) (i : Nat) : w.frozen? ⟨g, i, none⟩ = false := frozen_of_row _ _ _ _ _ h
theorem CkAt.below (h : CkAt w g sz PA Pn Pc VA Vn Vc) (hb : Below w.heap.size w w') : CkAt w' g sz PA Pn Pc VA Vn Vc := (hb.block g h.lt).trans h
theorem CkAt.onl (h : CkAt w g sz PA Pn Pc VA Vn Vc) {q : Nat} (ho : Onl q w w') (hn : ¬ g = q) : CkAt w' g sz PA Pn Pc VA Vn Vc := (ho.oth g h.lt hn).trans h
theorem CkAt.set1 (h : CkAt w g sz PA Pn Pc VA Vn Vc) (A : Option Addr) (n c : Nat) : CkAt (w.setCell ⟨g, 1, none⟩ (.slice A n c)) g sz A n c VA Vn Vc := heap_setCell_same w g 1 _ _ _ h
theorem CkAt.set2 (h : CkAt w g sz PA Pn Pc VA Vn Vc) (A : Option Addr) (n c : Nat) : CkAt (w.setCell ⟨g, 2, none⟩ (.slice A n c)) g sz PA Pn Pc A n c := heap_setCell_same w g 2 _ _ _ h
/-- No byte lies in a checker's block. -/
theorem CkAt.byt (h : CkAt w g sz PA Pn Pc VA Vn Vc) (hB : Byt w w.heap.size A n c l) (ho : Onl g w w') : Byt w' w'.heap.size A n c l := by
  refine ⟨hB.len, hB.cap, hB.max, hB.rng, fun hn => ?_⟩
  obtain ⟨b, off, e, hb, hc⟩ := hB.cells hn
  have hbg : ¬ b = g := by
    rintro rfl
    have h0 := hc 0 hn
    rw [cell_of_row _ _ _ _ _ _ h] at h0
    match ho0 : off + 0 with
    | 0 => rw [ho0] at h0; simp at h0
    | 1 => rw [ho0] at h0; simp at h0
    | 2 => rw [ho0] at h0; simp at h0
    | k + 3 => rw [ho0] at h0; simp at h0
  refine ⟨b, off, e, Nat.lt_of_lt_of_le hb ho.bel.size, fun j hj => ?_⟩
  have hh := ho.oth b hb hbg
  have := hc j hj
  unfold World.cell? at *
  simp only at this ⊢
  rw [hh]
  exact this
end
/-- The plain frame's bytes, while it waits for the turned one. -/
def PlP (w : World) (sz : Nat) : Option (List Int) → Option Addr → Nat → Nat → Prop
  | none, A, n, c => A = none ∧ n = 0 ∧ c = 0
  | some l, A, n, c => (∃ a, A = some a) ∧ Byt w w.heap.size A n c l ∧ l.length = sz
/-- A checker of a size, what it waits behind, and its value. -/
structure CkT (w : World) (g sz : Nat) (p : Option (List Int)) (v : List Int) : Prop where
  is : ∃ PA Pn Pc VA Vn Vc, CkAt w g sz PA Pn Pc VA Vn Vc ∧ PlP w sz p PA Pn Pc ∧ Byt w w.heap.size VA Vn Vc v
  sz : 1 ≤ sz ∧ sz ≤ 8
  vl : v.length ≤ 8
section
variable {g sz : Nat} {w w' : World} {p : Option (List Int)} {v : List Int}
theorem PlP.below {PA : Option Addr} {Pn Pc : Nat} (h : PlP w sz p PA Pn Pc) (hb : Below w.heap.size w w') : PlP w' sz p PA Pn Pc := by
  cases p with
  | none => exact h
  | some l => exact ⟨h.1, h.2.1.step hb, h.2.2⟩
theorem CkT.lt (h : CkT w g sz p v) : g < w.heap.size := by obtain ⟨PA, Pn, Pc, VA, Vn, Vc, h1, _⟩ := h.is; exact h1.lt
theorem CkT.below (h : CkT w g sz p v) (hb : Below w.heap.size w w') : CkT w' g sz p v := by
  obtain ⟨PA, Pn, Pc, VA, Vn, Vc, h1, h2, h3⟩ := h.is
  exact ⟨⟨PA, Pn, Pc, VA, Vn, Vc, h1.below hb, h2.below hb, h3.step hb⟩, h.sz, h.vl⟩
theorem CkT.drew (h : CkT w g sz p v) : CkT w.drew g sz p v := h.below (kD w)
/-- Another checker's block may change. -/
theorem CkT.onl {q : Nat} {sz' : Int} {PA' VA' : Option Addr} {Pn' Pc' Vn' Vc' : Nat} (h : CkT w g sz p v) (hq : CkAt w q sz' PA' Pn' Pc' VA' Vn' Vc') (ho : Onl q w w') (hn : ¬ g = q) : CkT w' g sz p v := by
  obtain ⟨PA, Pn, Pc, VA, Vn, Vc, h1, h2, h3⟩ := h.is
  refine ⟨⟨PA, Pn, Pc, VA, Vn, Vc, h1.onl ho hn, ?_, hq.byt h3 ho⟩, h.sz, h.vl⟩
  cases p with
  | none => exact h2
  | some l => exact ⟨h2.1, hq.byt h2.2.1 ho, h2.2.2⟩
theorem CkT.onlT {q sz2 : Nat} {p2 : Option (List Int)} {v2 : List Int} (h : CkT w g sz p v) (hq : CkT w q sz2 p2 v2) (ho : Onl q w w') (hn : ¬ g = q) : CkT w' g sz p v := by
  obtain ⟨PA, Pn, Pc, VA, Vn, Vc, h1, h2, h3⟩ := hq.is
  exact h.onl h1 ho hn
theorem CkT.byt {A : Option Addr} {n c : Nat} {l : List Int} (h : CkT w g sz p v) (hB : Byt w w.heap.size A n c l) (ho : Onl g w w') : Byt w' w'.heap.size A n c l := by
  obtain ⟨PA, Pn, Pc, VA, Vn, Vc, h1, _⟩ := h.is
  exact h1.byt hB ho
end
/-! ### A nil checker -/
/-! ### New -/
def isZ (n : Int) : Bool := decide (1 ≤ n ∧ n ≤ 8)
theorem size_any (n : Int) (w : World) : Calls Try.prog 70 #[.int .i64 n] w fun e w' => e = .returned (.bool (isZ n)) ∧ w = w' := by
  by_cases h1 : 1 ≤ n
  · by_cases h2 : n ≤ 8
    · rw [show isZ n = true by simp [isZ, h1, h2]]; go_enter Try.func70, Try.ntmps70; go_wp2; go_ret; exact ⟨rfl, rfl⟩
    · rw [show isZ n = false by simp [isZ, h2]]; go_enter Try.func70, Try.ntmps70; go_wp2; go_ret; exact ⟨rfl, rfl⟩
  · rw [show isZ n = false by simp [isZ, h1]]; go_enter Try.func70, Try.ntmps70; go_wp2; go_ret; exact ⟨rfl, rfl⟩
theorem cnew_no (n : Int) (w : World) (h : isZ n = false) : Calls Try.prog 73 #[.int .i64 n] w fun e w' => e = .returned (.tuple #[.pointer none, .int .i64 2]) ∧ w = w' := by
  have HL := Lib.hid (size_any n w)
  rw [h] at HL
  clear h
  go_enter Try.func73, Try.ntmps73
  go_wp2_with (go_at_call 70; refine (HL.out).mono ?_; rintro e w2 ⟨rfl, rfl⟩)
  go_ret2
  exact ⟨rfl, rfl⟩
theorem cnew_ok (n : Nat) (w : World) (h : 1 ≤ n ∧ n ≤ 8) : Calls Try.prog 73 #[.int .i64 (n : Int)] w fun e w' => ∃ g, w.heap.size ≤ g ∧ e = .returned (.tuple #[.pointer (some ⟨g, 0, none⟩), .int .i64 0]) ∧ CkT w' g n none [] ∧ Below w.heap.size w w' := by
  have HL := Lib.hid (size_any n w)
  rw [show isZ (n : Int) = true from decide_eq_true (by omega)] at HL
  have HX := Lib.hid (show CkT (w.alloc (.cells #[.int .i64 (n : Int), .slice none 0 0, .slice none 0 0] 138)) w.heap.size n none [] from ⟨⟨none, 0, 0, none, 0, 0, heap_alloc_new w _, ⟨rfl, rfl, rfl⟩, Byt.nil_ _ _⟩, h, by simp⟩)
  have HB := Lib.hid ((Below.refl w.heap.size w).alloc (Nat.le_refl _) (.cells #[.int .i64 (n : Int), .slice none 0 0, .slice none 0 0] 138))
  clear h
  go_enter Try.func73, Try.ntmps73
  go_wp2_with (go_at_call 70; refine (HL.out).mono ?_; rintro e w2 ⟨rfl, rfl⟩)
  go_ret2
  exact ⟨w.heap.size, Nat.le_refl _, rfl, HX.out, HB.out⟩
/-! ### A checker -/
section
variable {g sz : Nat} {w : World} {p : Option (List Int)} {v : List Int}
end
/-- What a plain frame tells, and what it waits behind then. -/
def plE (sz : Nat) (p : Option (List Int)) (l : List Int) : Int := if ¬ l.length = sz then 4 else if p.isSome then 3 else 1
def plP (sz : Nat) (p : Option (List Int)) (l : List Int) : Option (List Int) := if plE sz p l = 1 then some l else none
/-- What a turned frame tells, and the value behind it. -/
def tuE (sz : Nat) (p : Option (List Int)) (l : List Int) : Int := if ¬ l.length = sz then 4 else match p with | none => 3 | some q => if lkB q l then 2 else 5
def tuV (sz : Nat) (p : Option (List Int)) (l v : List Int) : List Int := if tuE sz p l = 2 then p.getD [] else v
section
variable {g sz : Nat} {w : World} {p : Option (List Int)} {v : List Int} {A : Option Addr} {n c : Nat} {l : List Int}
end
end Go.Proofs.Ytllaajkpobpeiaa