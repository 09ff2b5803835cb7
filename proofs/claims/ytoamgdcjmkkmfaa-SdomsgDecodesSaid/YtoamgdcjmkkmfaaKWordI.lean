/- A slice of Fields (a kind, a number, bytes) that came in, opened to its cells. -/
import Derived.Test.YtoamgdcjmkkmfaaKDVRefC
import Derived.Test.YtoamgdcjmkkmfaaProg
import Derived.Deep.Slices
import Derived.Deep.Fields
import Derived.Lib.SmallJoins
import Derived.ChangeSame
import Derived.StillTailTactics
import Derived.Deep.RegionHeld3
import Derived.Deep.RegionLaw
import Derived.Deep.RegionWith
import Derived.Deep.DeepMust
namespace Go.Proofs.Ytoamgdcjmkkmfaa
open Go.RowKit Go.ChangeShapes Go.WideShapes Go.Deep Go.Joins
set_option linter.unusedSimpArgs false
set_option linter.unusedVariables false
/-- One field as it lies. -/
structure FieldV where
  k : Int
  n : Int
  A : Option Addr
  m : Nat
  c : Nat
  l : List Int
/-- Place i of a row of fields at ⟨b, off⟩. -/
structure FieldAt (w : World) (B b off i : Nat) (f : FieldV) : Prop where
  ck : w.cell? ⟨b, off + 3 * i, none⟩ = some (.int .i64 f.k)
  cn : w.cell? ⟨b, off + 3 * i + 1, none⟩ = some (.int .i64 f.n)
  cb : w.cell? ⟨b, off + 3 * i + 2, none⟩ = some (.slice f.A f.m f.c)
  rk : -9223372036854775808 ≤ f.k ∧ f.k ≤ 9223372036854775807
  rn : -9223372036854775808 ≤ f.n ∧ f.n ≤ 9223372036854775807
  byt : Byt w B f.A f.m f.c f.l
/-- The slice '.slice A n c' of fields reads as fs. -/
structure Flds (w : World) (B : Nat) (A : Option Addr) (n c : Nat) (fs : Nat → FieldV) : Prop where
  cap : n ≤ c
  max : c ≤ maxLen
  cells : 0 < n → ∃ b off, A = some ⟨b, off, none⟩ ∧ b < B ∧ ∀ i, i < n → FieldAt w B b off i (fs i)
section
variable {w w' : World} {B B' n c b off i : Nat} {A : Option Addr} {fs : Nat → FieldV} {f : FieldV}
theorem FieldAt.keep (h : FieldAt w B b off i f) (hb : b < B) (hk : ∀ b o, b < B → w'.cell? ⟨b, o, none⟩ = w.cell? ⟨b, o, none⟩) : FieldAt w' B b off i f :=
  ⟨(hk b _ hb).trans h.ck, (hk b _ hb).trans h.cn, (hk b _ hb).trans h.cb, h.rk, h.rn, h.byt.keep hk⟩
theorem Flds.keep (h : Flds w B A n c fs) (hk : ∀ b o, b < B → w'.cell? ⟨b, o, none⟩ = w.cell? ⟨b, o, none⟩) : Flds w' B A n c fs :=
  ⟨h.cap, h.max, fun hn => by
    obtain ⟨b, off, e, hb, hc⟩ := h.cells hn
    exact ⟨b, off, e, hb, fun i hi => (hc i hi).keep hb hk⟩⟩
theorem Flds.below (h : Flds w B A n c fs) (hb : Below B w w') : Flds w' B A n c fs := h.keep fun b o hlt => hb.cell (p := ⟨b, o, none⟩) hlt
theorem Flds.take (h : Flds w B A n c fs) {k : Nat} (hk : k ≤ n) : Flds w B A k c fs :=
  ⟨by have := h.cap; omega, h.max, fun h0 => by
    obtain ⟨b, off, e, hb, hc⟩ := h.cells (by omega)
    exact ⟨b, off, e, hb, fun i hi => hc i (by omega)⟩⟩
end
theorem add_plain (b off j : Nat) : (⟨b, off, none⟩ : Addr).add j = ⟨b, off + j, none⟩ := by unfold Addr.add; split <;> simp_all

section
variable {H : Type} {enc : TypeId × Value → H} {w : World}
/-- Bytes that a field holds. -/
theorem byt_of_trod {fuel : Nat} {A : Option Addr} {m c : Nat} {y : DataW H × List MemPlace} (h : DataW.trod enc Try.prog w 0 (fun _ => true) true fuel 49 [.slice A m c] = some y) : ∃ l, Byt w w.heap.size A m c l := by
  rcases open_ints Try.underlying49 Try.underlying5 (by kernel_rfl) h with ⟨hcs, _⟩ | ⟨x, l, c', zs, hcs, _, hl, hm, hz, _, hcell, hwz⟩
  · simp at hcs
    obtain ⟨rfl, rfl, rfl⟩ := hcs
    exact ⟨[], Byt.nil_ _ _⟩
  · simp at hcs
    obtain ⟨rfl, rfl, rfl⟩ := hcs
    exact ⟨_, byt_of_row hl hm (by simpa using hz) hcell hwz⟩

end
end Go.Proofs.Ytoamgdcjmkkmfaa
namespace Go.Proofs.Ytoamgdcjmkkmfaa
open Go.RowKit
set_option linter.unusedSimpArgs false
set_option linter.unusedVariables false
theorem own_lit (w : World) : (w.alloc (.cells #[] 5)).ownsRow w.heap.size 5 1 (.slice (some ⟨w.heap.size, 0, none⟩) 0 0) 0 (([] : List Int).map (Value.int .u8)) := World.ownsRow_lit w #[] 0 (Nat.le_refl _) (by simp [maxLen]) rfl

theorem clone_any (w : World) (A : Option Addr) (n c : Nat) (l : List Int) (h : Byt w w.heap.size A n c l) (hn : n ≤ 140737488351232) :
    Calls Try.prog 30 #[.slice A n c] w fun e w' => ∃ A' c', e = .returned (.slice A' n c') ∧ Byt w' w'.heap.size A' n c' l ∧ Below w.heap.size w w' ∧ ∀ b o, A' = some ⟨b, o, none⟩ → w.heap.size ≤ b := by
  cases A with
  | none =>
    have h0 : n = 0 := by
      rcases Nat.eq_zero_or_pos n with h0 | h0
      · exact h0
      · obtain ⟨b, off, e', _⟩ := h.cells h0
        cases e'
    subst h0
    obtain rfl := List.eq_nil_of_length_eq_zero h.len
    clear h
    have he := fun w : World => Lib.run_eql_slice_nil (P := Try.prog) w 49 5 none 0 c 0 0 Try.underlying49
    go_enter Try.func30, Try.ntmps30
    go_wp2
    go_ret
    exact ⟨_, _, rfl, Byt.nil_ _ _, Below.refl _ _, fun _ _ h => by cases h⟩
  | some ad =>
    have he := fun w : World => Lib.run_eql_slice_nil (P := Try.prog) w 49 5 (some ad) n c 0 0 Try.underlying49
    go_enter Try.func30, Try.ntmps30
    go_wp2_with (at_builtin; refine wpList_bytes rfl (.tmp 5) (.tmp 6) rfl Try.underlying49 byte_info rfl (l := []) (own_lit w) rfl (h.keep (B := w.heap.size) (fun b o hlt => ((Below.refl w.heap.size w).alloc (Nat.le_refl _) _).cell (p := ⟨b, o, none⟩) hlt)) (by omega) (by simp) ?_; intro v1 w1 hown1 hbel1)
    go_ret
    rw [List.nil_append] at hown1
    obtain ⟨A', c', rfl, hB, hA⟩ := Byt.of_own hown1 h.rng
    exact ⟨_, _, by rw [Nat.zero_add]; rfl, by rw [Nat.zero_add] at hB; exact hB, ((Below.refl _ _).alloc (Nat.le_refl _) _).trans hbel1, fun b o e => by
      rcases hA with ⟨h1, _⟩ | ⟨g, h1, h2⟩
      · rw [h1] at e; cases e
      · rw [h1] at e; cases e; exact h2⟩

/-- A Reader in block g: its first error, and what is left. -/
def RdAt (w : World) (g : Nat) (er : Int) (A : Option Addr) (n c : Nat) : Prop := w.heap[g]? = some (.cells #[.int .i64 er, .slice A n c] 68 (0, 0))
section
variable {w w' : World} {g n c : Nat} {er : Int} {A : Option Addr}
theorem RdAt.lt (h : RdAt w g er A n c) : g < w.heap.size := (Array.getElem?_eq_some_iff.1 h).1
theorem RdAt.c0 (h : RdAt w g er A n c) : w.cell? ⟨g, 0, none⟩ = some (.int .i64 er) := by rw [cell_of_row _ _ _ _ _ _ h]; rfl
theorem RdAt.c1 (h : RdAt w g er A n c) : w.cell? ⟨g, 1, none⟩ = some (.slice A n c) := by rw [cell_of_row _ _ _ _ _ _ h]; rfl
theorem RdAt.f (h : RdAt w g er A n c) (i : Nat) : w.frozen? ⟨g, i, none⟩ = false := frozen_of_row _ _ _ _ _ h
theorem RdAt.below {B : Nat} (h : RdAt w g er A n c) (hb : Below B w w') (hg : g < B) : RdAt w' g er A n c := (hb.block g hg).trans h
theorem RdAt.set0 {x : Int} (h : RdAt w g er A n c) : RdAt (w.setCell ⟨g, 0, none⟩ (.int .i64 x)) g x A n c := by
  unfold RdAt at h ⊢
  simp [World.setCell, Array.getElem?_modify, h]
theorem RdAt.set1 {A2 : Option Addr} {n2 c2 : Nat} (h : RdAt w g er A n c) : RdAt (w.setCell ⟨g, 1, none⟩ (.slice A2 n2 c2)) g er A2 n2 c2 := by
  unfold RdAt at h ⊢
  simp [World.setCell, Array.getElem?_modify, h]
end
theorem grown_set (w : World) (g i : Nat) (u : Value) : w.grownBy (w.setCell ⟨g, i, none⟩ u) (some g) :=
  ⟨rfl, rfl, rfl, by simp [World.setCell], fun k _ hne => Below.heap_setCell _ _ _ _ (fun e => hne (by rw [e]))⟩
theorem grownw_trans {a b c : World} {row : Option Nat} (h : a.grownBy b row) (k : b.grownBy c row) : a.grownBy c row :=
  ⟨k.os.trans h.os, k.tape.trans h.tape, k.output.trans h.output, Nat.le_trans h.size k.size, fun i hi hne => (k.block i (Nat.lt_of_lt_of_le hi h.size) hne).trans (h.block i hi hne)⟩
theorem grownw_below {a b : World} {row : Option Nat} (h : Below a.heap.size a b) : a.grownBy b row := ⟨h.os, h.tape, h.output, h.size, fun i hi _ => h.block i hi⟩
theorem grown_drewN {a b : World} {row : Option Nat} (h : a.grownBy b row) (n : Nat) : a.grownBy (b.drewN n) row := ⟨h.os, h.tape, h.output, h.size, h.block⟩

theorem new_any (w : World) (A : Option Addr) (n c : Nat) (l : List Int) (h : Byt w w.heap.size A n c l) (hn : n ≤ 140737488351232) :
    Calls Try.prog 16 #[.slice A n c] w fun e w' => ∃ g A' c', e = .returned (.pointer (some ⟨g, 0, none⟩)) ∧ w.heap.size ≤ g ∧ RdAt w' g 0 A' n c' ∧ Byt w' g A' n c' l ∧ Below w.heap.size w w' ∧ ∀ b o, A' = some ⟨b, o, none⟩ → w.heap.size ≤ b := by
  go_enter Try.func16, Try.ntmps16
  go_wp2_with fail
  refine (clone_any _ _ _ _ _ h hn).mono ?_
  rintro e w1 ⟨A1, c1, rfl, hB, hb, hA⟩
  go_wp2
  go_ret
  exact ⟨w1.heap.size, A1, c1, rfl, hb.size, heap_alloc_new w1 _, hB.below ((Below.refl _ _).alloc (Nat.le_refl _) _), hb.alloc hb.size _, hA⟩

/-- The first error, behind a step that answered x. -/
def fe (er x : Int) : Int := if er = 0 then x else er
theorem fails_rd (w : World) (g : Nat) (er x : Int) (A : Option Addr) (n c : Nat) (h : RdAt w g er A n c) :
    Calls Try.prog 31 #[.pointer (some ⟨g, 0, none⟩), .int .i64 x] w fun e w' => e = .returned (.bool (decide (¬ fe er x = 0))) ∧ RdAt w' g (fe er x) A n c ∧ w.grownBy w' (some g) := by
  have c0 := h.c0
  have f0 := h.f 0
  by_cases h0 : er = 0
  · have e1 : fe er x = x := by unfold fe; rw [if_pos h0]
    subst h0
    have hs := h.set0 (x := x)
    have cs := hs.c0
    rw [e1]
    have HS := Lib.hid hs
    clear h hs e1
    go_enter Try.func31, Try.ntmps31
    go_wp2
    go_ret
    refine ⟨ret_bool ?_, HS.out, grown_set _ _ _ _⟩
    rw [Bool.eq_iff_iff]; simp
  · have e1 : fe er x = er := by unfold fe; rw [if_neg h0]
    have hd : (er == 0) = false := by simp [h0]
    have hd2 : (er != 0) = true := by simp [h0]
    rw [e1]
    have H0 := Lib.hid h0
    have HH := Lib.hid h
    clear e1 h0 h
    go_enter Try.func31, Try.ntmps31
    go_wp2
    go_ret
    exact ⟨ret_bool (decide_eq_true H0.out).symm, HH.out, World.grownBy.refl _ _⟩
theorem told_any (w : World) (g : Nat) (er : Int) (hc : w.cell? ⟨g, 0, none⟩ = some (.int .i64 er)) : Calls Try.prog 51 #[.pointer (some ⟨g, 0, none⟩)] w fun e w' => e = .returned (.int .i64 er) ∧ w = w' := by
  go_enter Try.func51, Try.ntmps51
  go_wp2
  go_ret
  exact ⟨rfl, rfl⟩
def lackE (n : Nat) (k : Int) : Int := if k < 0 then 2 else if (n : Int) < k then 5 else 0
theorem lacks_any (w : World) (g : Nat) (er k : Int) (A : Option Addr) (n c : Nat) (h : RdAt w g er A n c) : Calls Try.prog 32 #[.pointer (some ⟨g, 0, none⟩), .int .i64 k] w fun e w' => e = .returned (.int .i64 (lackE n k)) ∧ w = w' := by
  have c1 := h.c1
  by_cases h1 : k < 0
  · have e1 : lackE n k = 2 := by unfold lackE; rw [if_pos h1]
    rw [e1]
    clear e1 h
    go_enter Try.func32, Try.ntmps32
    go_wp2
    go_ret
    exact ⟨rfl, rfl⟩
  · by_cases h2 : (n : Int) < k
    · have e1 : lackE n k = 5 := by unfold lackE; rw [if_neg h1, if_pos h2]
      rw [e1]
      clear e1 h
      go_enter Try.func32, Try.ntmps32
      go_wp2
      go_ret
      exact ⟨rfl, rfl⟩
    · have e1 : lackE n k = 0 := by unfold lackE; rw [if_neg h1, if_neg h2]
      rw [e1]
      clear e1 h
      go_enter Try.func32, Try.ntmps32
      go_wp2
      go_ret
      exact ⟨rfl, rfl⟩
end Go.Proofs.Ytoamgdcjmkkmfaa
namespace Go.Proofs.Ytoamgdcjmkkmfaa
open Go.RowKit
set_option linter.unusedSimpArgs false
set_option linter.unusedVariables false
theorem Byt.take {w : World} {B n c : Nat} {A : Option Addr} {l : List Int} (h : Byt w B A n c l) {k : Nat} (hk : k ≤ n) : Byt w B A k c (l.take k) :=
  ⟨by rw [List.length_take, h.len]; omega, by have := h.cap; omega, h.max, fun x hx => h.rng x (List.mem_of_mem_take hx), fun h0 => by
    obtain ⟨b, off, e, hb, hc⟩ := h.cells (by omega)
    refine ⟨b, off, e, hb, fun j hj => ?_⟩
    rw [hc j (by omega)]
    simp [List.getD, hj]⟩
theorem Byt.cut {w : World} {B n c : Nat} {A : Option Addr} {l : List Int} (h : Byt w B A n c l) {s : Nat} (hs : s ≤ n) : Byt w B (if c = s then A else A.map (fun x => x.add s)) (n - s) (c - s) (l.drop s) :=
  ⟨by rw [List.length_drop, h.len], by have := h.cap; omega, by have := h.max; omega, fun x hx => h.rng x (List.mem_of_mem_drop hx), fun h0 => by
    obtain ⟨b, off, rfl, hb, hc⟩ := h.cells (by omega)
    have := h.cap
    rw [if_neg (by omega)]
    refine ⟨b, off + s, ?_, hb, fun j hj => ?_⟩
    · show some ((⟨b, off, none⟩ : Addr).add s) = _
      have e : (⟨b, off, none⟩ : Addr).add s = ⟨b, off + s, none⟩ := by unfold Addr.add; split <;> simp_all
      rw [e]
    · rw [Nat.add_assoc, hc (s + j) (by omega)]
      simp [List.getD, List.getElem?_drop]⟩
/-- What stands there as a number of a kind, and the error. -/
def nextN (k : Int) (l : List Int) : Int := if kSize k = 0 ∨ (l.length : Int) < kSize k then 0 else getN k (l.take (kSize k).toNat)
def nextE (k : Int) (l : List Int) : Int := if kSize k = 0 then 2 else if (l.length : Int) < kSize k then 5 else getE k (l.take (kSize k).toNat)

theorem next_any (w : World) (g : Nat) (er k : Int) (A : Option Addr) (n c : Nat) (l : List Int) (h : RdAt w g er A n c) (hB : Byt w w.heap.size A n c l) :
    Calls Try.prog 33 #[.pointer (some ⟨g, 0, none⟩), .int .i64 k] w fun e w' => e = .returned (.tuple #[.int .i64 (nextN k l), .int .i64 (nextE k l)]) ∧ Below w.heap.size w w' := by
  have hl := h.lt
  have hkb := k_bounds k
  have hln := hB.len
  by_cases h0 : kSize k = 0
  · have e1 : nextN k l = 0 := by unfold nextN; rw [if_pos (.inl h0)]
    have e2 : nextE k l = 2 := by unfold nextE; rw [if_pos h0]
    rw [e1, e2]
    have hsz := fun w => size_any k w
    rw [h0] at hsz
    have HSZ := Lib.hid hsz
    clear hsz h0 e1 e2 hB hln h
    go_enter Try.func33, Try.ntmps33
    go_wp2_with (go_at_call 34; refine (HSZ.out _).mono ?_; rintro e w1 ⟨rfl, hb1⟩)
    go_ret2
    exact ⟨rfl, hb1⟩
  · obtain ⟨s, hs⟩ : ∃ s : Nat, kSize k = s := ⟨(kSize k).toNat, by omega⟩
    have hsz := fun w => size_any k w
    rw [hs] at hsz
    have HSZ := Lib.hid hsz
    have hz : ((s : Int) == 0) = false := by simp; omega
    by_cases h1 : (n : Int) < s
    · have e1 : nextN k l = 0 := by unfold nextN; rw [if_pos (.inr (by omega))]
      have e2 : nextE k l = 5 := by unfold nextE; rw [if_neg h0, if_pos (by omega)]
      have e3 : lackE n s = 5 := by unfold lackE; rw [if_neg (by omega), if_pos h1]
      have hlk := fun w (h : RdAt w g er A n c) => lacks_any w g er s A n c h
      rw [e3] at hlk
      rw [e1, e2]
      have HLK := Lib.hid hlk
      clear hsz h0 e1 e2 e3 hB hln hs hlk
      go_enter Try.func33, Try.ntmps33
      go_wp2_with (go_at_call 34; refine (HSZ.out _).mono ?_; rintro e w1 ⟨rfl, hb1⟩)
      refine (HLK.out _ (h.below hb1 hl)).mono ?_
      rintro e w2 ⟨rfl, rfl⟩
      go_wp2
      go_ret2
      exact ⟨rfl, hb1⟩
    · have e1 : nextN k l = getN k (l.take s) := by unfold nextN; rw [if_neg (by omega), hs]; rfl
      have e2 : nextE k l = getE k (l.take s) := by unfold nextE; rw [if_neg h0, if_neg (by omega), hs]; rfl
      have e3 : lackE n s = 0 := by unfold lackE; rw [if_neg (by omega), if_neg h1]
      have hlk := fun w (h : RdAt w g er A n c) => lacks_any w g er s A n c h
      rw [e3] at hlk
      rw [e1, e2]
      have HLK := Lib.hid hlk
      have hcp := hB.cap
      have hmx := hB.max
      simp only [maxLen] at hmx
      have hT := hB.take (k := s) (by omega)
      have HT := Lib.hid hT
      clear hsz h0 e1 e2 e3 hln hs hlk hT hB
      go_enter Try.func33, Try.ntmps33
      go_wp2_with (go_at_call 34; refine (HSZ.out _).mono ?_; rintro e w1 ⟨rfl, hb1⟩)
      have h1' := h.below hb1 hl
      refine (HLK.out _ h1').mono ?_
      rintro e w2 ⟨rfl, rfl⟩
      have c1 := h1'.c1
      go_wp2_with fail
      refine (get_any _ _ _ _ _ _ (HT.out.step hb1)).mono ?_
      rintro e w2 ⟨rfl, hb2⟩
      go_wp2
      go_ret2
      exact ⟨rfl, below_trans' hb1 hb2⟩

/-- A Reader's answer and what it leaves. -/
def rnE (er k : Int) (l : List Int) : Int := fe er (nextE k l)
def rnN (er k : Int) (l : List Int) : Int := if rnE er k l = 0 then nextN k l else 0
def rnL (er k : Int) (l : List Int) : List Int := if rnE er k l = 0 then l.drop (kSize k).toNat else l
theorem next_ok {k : Int} {l : List Int} (h : nextE k l = 0) : 0 < kSize k ∧ kSize k ≤ l.length := by
  have hk := k_bounds k
  unfold nextE at h
  split at h
  · omega
  · split at h
    · omega
    · exact ⟨by omega, by omega⟩

def RnPost (W : World) (g : Nat) (er k : Int) (l : List Int) (A : Option Addr) (e : Ending) (w' : World) : Prop :=
  ∃ A' c', e = .returned (.int .i64 (rnN er k l)) ∧ RdAt w' g (rnE er k l) A' (rnL er k l).length c' ∧ Byt w' g A' (rnL er k l).length c' (rnL er k l) ∧ W.grownBy w' (some g) ∧ ∀ b o s, A' = some ⟨b, o, s⟩ → ∃ o' s', A = some ⟨b, o', s'⟩
theorem rnum2_any (w : World) (g : Nat) (er k : Int) (A : Option Addr) (n c : Nat) (l : List Int) (h : RdAt w g er A n c) (hB : Byt w g A n c l) :
    Calls Try.prog 18 #[.pointer (some ⟨g, 0, none⟩), .int .i64 k] w (RnPost w g er k l A) := by
  have hl := h.lt
  have hB1 := hB.more (Nat.le_of_lt hl)
  have hln := hB.len
  have HRN : Hid (rnN er k l = if rnE er k l = 0 then nextN k l else 0) := rfl
  have HRL : Hid (rnL er k l = if rnE er k l = 0 then l.drop (kSize k).toNat else l) := rfl
  have HRE : Hid (rnE er k l = fe er (nextE k l)) := rfl
  by_cases h0 : rnE er k l = 0
  · have hd : decide (¬ fe er (nextE k l) = 0) = false := decide_eq_false (by rw [← HRE.out, h0]; simp)
    have hne : nextE k l = 0 := by
      rw [HRE.out] at h0
      unfold fe at h0
      split at h0
      · exact h0
      · rename_i h; exact absurd h0 h
    obtain ⟨hk1, hk2⟩ := next_ok hne
    obtain ⟨s, hs⟩ : ∃ s : Nat, kSize k = s := ⟨(kSize k).toNat, by omega⟩
    have hsz := fun w => size_any k w
    rw [hs] at hsz
    have HSZ := Lib.hid hsz
    have HS := Lib.hid hs
    have HD := Lib.hid hd
    have H0 := Lib.hid h0
    have HLN := Lib.hid hln
    have hsn : s ≤ n := by omega
    have hs0 : 0 < s := by omega
    have hcp := hB.cap
    have hmx := hB.max
    simp only [maxLen] at hmx
    clear hd h0 hln hsz hs hne hk1 hk2
    go_enter Try.func18, Try.ntmps18
    go_wp2_with fail
    refine (next_any _ _ _ _ _ _ _ _ h hB1).mono ?_
    rintro e w1 ⟨rfl, hb1⟩
    have h1 := h.below hb1 hl
    go_wp2_with fail
    refine (fails_rd _ _ _ _ _ _ _ h1).mono ?_
    rintro e w2 ⟨he, h2, hg2⟩
    rw [HD.out] at he
    subst he
    have hgl := h2.lt
    have c1 := h2.c1
    have f1 := h2.f 1
    have HH2 := Lib.hid h2
    have HH1 := Lib.hid h1
    have HHB := Lib.hid hB
    have HHB1 := Lib.hid hB1
    have HHh := Lib.hid h
    clear h h1 h2 hB hB1
    go_wp2_with fail
    go_region_law ((go_simp; go_at_call 34; refine (HSZ.out _).mono ?_; rintro e w3 ⟨rfl, hb3⟩; have c3 := (hb3.cell (p := ⟨g, 1, none⟩) hgl).trans c1; have f3 := (hb3.frozen (p := ⟨g, 1, none⟩) hgl).trans f1))
    all_goals go_wp2
    all_goals go_ret
    all_goals
      have e1 : rnN er k l = nextN k l := by rw [HRN.out, if_pos H0.out]
      have e2 : rnL er k l = l.drop s := by rw [HRL.out, if_pos H0.out, HS.out]; rfl
      have e3 : (rnL er k l).length = n - s := by rw [e2, List.length_drop, HLN.out]
      have hb3' : Below w2.heap.size w2 w3 := ⟨hb3.os, hb3.tape, hb3.output, hb3.size, hb3.block⟩
      have hg3 : w2.grownBy w3 (some g) := grownw_below hb3'
      have h3 : RdAt w3 g (fe er (nextE k l)) A n c := HH2.out.below hb3' hgl
      have hgf := grownw_trans (grownw_trans (grownw_below (row := some g) hb1) hg2) hg3
      have hB3 := HHB.out.keep (w' := w3) (fun b o hlt => World.cell?_of_block (a := ⟨b, o, none⟩) (hgf.block b (Nat.lt_trans hlt hl) (fun e => by cases e; omega)))
      have hcut := (hB3.cut hsn).keep (w' := w3.setCell ⟨g, 1, none⟩ (.slice (if c = s then A else A.map (fun x => x.add s)) (n - s) (c - s))) (fun b o hlt => World.cell?_setCell_other _ _ _ _ (fun e => by cases e; omega))
      first
        | (have hcs : c = s := by assumption
           rw [if_pos hcs, show c - s = 0 by omega] at hcut
           exact ⟨_, _, by rw [e1]; rfl, by rw [e3, HRE.out]; exact h3.set1, by rw [e3, e2]; exact hcut, grownw_trans hgf (grown_set _ _ _ _), fun b o s hx => ⟨o, s, hx⟩⟩)
        | (have hcs : ¬ c = s := by assumption
           rw [if_neg hcs] at hcut
           exact ⟨_, _, by rw [e1]; rfl, by rw [e3, HRE.out]; exact h3.set1, by rw [e3, e2]; exact hcut, grownw_trans hgf (grown_set _ _ _ _), fun b o s hx => by
             cases A with
             | none => cases hx
             | some y =>
               obtain ⟨yb, yo, ys⟩ := y
               simp [Addr.add] at hx
               split at hx <;> (injection hx with h1 h2; exact ⟨yo, ys, by rw [h1]⟩)⟩)
  · have hd : decide (¬ fe er (nextE k l) = 0) = true := decide_eq_true (by rw [← HRE.out]; exact h0)
    have HD := Lib.hid hd
    have H0 := Lib.hid h0
    have HLN := Lib.hid hln
    clear hd h0 hln
    go_enter Try.func18, Try.ntmps18
    go_wp2_with fail
    refine (next_any _ _ _ _ _ _ _ _ h hB1).mono ?_
    rintro e w1 ⟨rfl, hb1⟩
    have h1 := h.below hb1 hl
    go_wp2_with fail
    refine (fails_rd _ _ _ _ _ _ _ h1).mono ?_
    rintro e w2 ⟨he, h2, hg2⟩
    rw [HD.out] at he
    subst he
    go_wp2
    go_ret
    have e1 : rnN er k l = 0 := by rw [HRN.out, if_neg H0.out]
    have e2 : rnL er k l = l := by rw [HRL.out, if_neg H0.out]
    refine ⟨A, c, by rw [e1]; rfl, ?_, ?_, grownw_trans (grownw_below hb1) hg2, fun b o s hx => ⟨o, s, hx⟩⟩
    · rw [e2, HLN.out, HRE.out]; exact h2
    · rw [e2, HLN.out]
      exact (hB.below (hb1.mono (Nat.le_of_lt hl))).keep (fun b o hlt => World.cell?_of_block (a := ⟨b, o, none⟩) (hg2.block b (Nat.lt_of_lt_of_le hlt (Nat.le_trans (Nat.le_of_lt hl) hb1.size)) (fun e => by cases e; omega)))

/-- What Raw answers and leaves. -/
def rrE (er k : Int) (l : List Int) : Int := fe er (lackE l.length k)
def rrA (er k : Int) (l : List Int) : List Int := if rrE er k l = 0 then l.take k.toNat else []
def rrL (er k : Int) (l : List Int) : List Int := if rrE er k l = 0 then l.drop k.toNat else l
theorem lack_ok {n : Nat} {k : Int} (h : lackE n k = 0) : 0 ≤ k ∧ k ≤ n := by
  unfold lackE at h
  split at h
  · omega
  · split at h
    · omega
    · exact ⟨by omega, by omega⟩

def RrPost (W : World) (g : Nat) (er k : Int) (l : List Int) (e : Ending) (w' : World) : Prop :=
  ∃ A' c' A2 c2, e = .returned (.slice A2 (rrA er k l).length c2) ∧ Byt w' w'.heap.size A2 (rrA er k l).length c2 (rrA er k l) ∧ RdAt w' g (rrE er k l) A' (rrL er k l).length c' ∧ Byt w' g A' (rrL er k l).length c' (rrL er k l) ∧ W.grownBy w' (some g)
set_option maxRecDepth 4000 in
theorem rraw_any (w : World) (g : Nat) (er k : Int) (A : Option Addr) (n c : Nat) (l : List Int) (h : RdAt w g er A n c) (hB : Byt w g A n c l) (hn : n ≤ 140737488351232) :
    Calls Try.prog 17 #[.pointer (some ⟨g, 0, none⟩), .int .i64 k] w (RrPost w g er k l) := by
  have hl := h.lt
  have hln := hB.len
  have HRA : Hid (rrA er k l = if rrE er k l = 0 then l.take k.toNat else []) := rfl
  have HRL : Hid (rrL er k l = if rrE er k l = 0 then l.drop k.toNat else l) := rfl
  have HRE : Hid (rrE er k l = fe er (lackE l.length k)) := rfl
  by_cases h0 : rrE er k l = 0
  · have hd : decide (¬ fe er (lackE n k) = 0) = false := decide_eq_false (by rw [← hln, ← HRE.out, h0]; simp)
    have hlk0 : lackE n k = 0 := by
      rw [HRE.out, hln] at h0
      unfold fe at h0
      split at h0
      · exact h0
      · rename_i hx; exact absurd h0 hx
    have hk := lack_ok hlk0
    obtain ⟨s, rfl⟩ : ∃ s : Nat, k = s := ⟨k.toNat, by omega⟩
    have hsn : s ≤ n := by omega
    have hcp := hB.cap
    have hmx := hB.max
    simp only [maxLen] at hmx
    have HD := Lib.hid hd
    have H0 := Lib.hid h0
    have HLN := Lib.hid hln
    have HH := Lib.hid h
    have HHB := Lib.hid hB
    have hlk : Calls Try.prog 32 #[.pointer (some ⟨g, 0, none⟩), .int .i64 s] w.drew fun e w'' => e = .returned (.int .i64 (lackE n s)) ∧ w'' = w.drew := (lacks_any w.drew g er s A n c h).mono fun _ _ ⟨h1, h2⟩ => ⟨h1, h2.symm⟩
    have HLK := Lib.hid hlk
    clear hd h0 hln h hB hlk hlk0 hk
    go_enter Try.func17, Try.ntmps17
    go_wp2_with fail
    refine wp_region_still_tail 9 (by kernel_rfl) (by kernel_rfl) ?_
    simp only [List.take_succ_cons, List.take_zero, List.drop_succ_cons, List.drop_zero]
    repeat still_step
    still_call (HLK.out)
    refine wpStill_nil ?_
    change wpList _ _ _ _ _ w.drew
    have HHd : RdAt w.drew g er A n c := HH.out
    go_wp2_with fail
    refine (fails_rd _ g er _ A n c HHd).mono ?_
    rintro e w2 ⟨he, h2, hg2⟩
    rw [HD.out] at he
    subst he
    have c1 := h2.c1
    have f1 := h2.f 1
    have hgl := h2.lt
    have hgw : w.grownBy w2 (some g) := ⟨hg2.os, hg2.tape, hg2.output, hg2.size, hg2.block⟩
    have hB2 := HHB.out.keep (w' := w2) (fun b o hlt => World.cell?_of_block (a := ⟨b, o, none⟩) (hgw.block b (Nat.lt_trans hlt hl) (fun e => by cases e; omega)))
    have H2 := Lib.hid h2
    have HB2 := Lib.hid hB2
    clear HHd h2 hB2
    go_wp2_with fail
    refine (clone_any _ _ _ _ _ ((HB2.out.take hsn).more (Nat.le_of_lt hgl)) (by omega)).mono ?_
    rintro e w3 ⟨A3, c3, rfl, hB3, hb3, hA3⟩
    have HA3 := Lib.hid hA3
    clear hA3
    have h3 := H2.out.below hb3 hgl
    have c13 := h3.c1
    have f13 := h3.f 1
    have H3 := Lib.hid h3
    have HB3 := Lib.hid hB3
    clear h3 hB3
    go_wp2
    all_goals go_ret
    all_goals
      have e1 : rrA er s l = l.take s := by rw [HRA.out, if_pos H0.out]; rfl
      have e2 : rrL er s l = l.drop s := by rw [HRL.out, if_pos H0.out]; rfl
      have e3 : (rrL er s l).length = n - s := by rw [e2, List.length_drop, HLN.out]
      have e4 : (rrA er s l).length = s := by rw [e1, List.length_take, HLN.out]; omega
      have hg3 : w2.grownBy w3 (some g) := grownw_below hb3
      have hgf := grownw_trans hgw hg3
      have hBc := (HB2.out.below (hb3.mono (Nat.le_of_lt hgl)))
      have hcut := (hBc.cut hsn).keep (w' := w3.setCell ⟨g, 1, none⟩ (.slice (if c = s then A else A.map (fun x => x.add s)) (n - s) (c - s))) (fun b o hlt => World.cell?_setCell_other _ _ _ _ (fun e => by cases e; omega))
      have hres : ∀ u : Value, Byt (w3.setCell ⟨g, 1, none⟩ u) (w3.setCell ⟨g, 1, none⟩ u).heap.size A3 s c3 (l.take s) := fun u =>
        ⟨HB3.out.len, HB3.out.cap, HB3.out.max, HB3.out.rng, fun h0 => by
          obtain ⟨b, o, e, hb, hc⟩ := HB3.out.cells h0
          have hbg := HA3.out b o e
          exact ⟨b, o, e, by simpa [World.setCell] using hb, fun j hj => (World.cell?_setCell_other _ _ _ _ (fun e' => by have h1 := congrArg Addr.block e'; simp at h1; omega)).trans (hc j hj)⟩⟩
      first
        | (have hcs : c = s := by assumption
           rw [if_pos hcs, show c - s = 0 by omega] at hcut
           exact ⟨_, _, A3, c3, by rw [e4]; rfl, by rw [e4, e1]; exact hres _, by rw [e3, HRE.out, HLN.out]; exact H3.out.set1, by rw [e3, e2]; exact hcut, grownw_trans hgf (grown_set _ _ _ _)⟩)
        | (have hcs : ¬ c = s := by assumption
           rw [if_neg hcs] at hcut
           exact ⟨_, _, A3, c3, by rw [e4]; rfl, by rw [e4, e1]; exact hres _, by rw [e3, HRE.out, HLN.out]; exact H3.out.set1, by rw [e3, e2]; exact hcut, grownw_trans hgf (grown_set _ _ _ _)⟩)
  · have hd : decide (¬ fe er (lackE n k) = 0) = true := decide_eq_true (by rw [← hln, ← HRE.out]; exact h0)
    have HD := Lib.hid hd
    have H0 := Lib.hid h0
    have HLN := Lib.hid hln
    have HH := Lib.hid h
    have HHB := Lib.hid hB
    have hlk : Calls Try.prog 32 #[.pointer (some ⟨g, 0, none⟩), .int .i64 k] w.drew fun e w'' => e = .returned (.int .i64 (lackE n k)) ∧ w'' = w.drew := (lacks_any w.drew g er k A n c h).mono fun _ _ ⟨h1, h2⟩ => ⟨h1, h2.symm⟩
    have HLK := Lib.hid hlk
    clear hd h0 hln h hB hlk
    go_enter Try.func17, Try.ntmps17
    go_wp2_with fail
    refine wp_region_still_tail 9 (by kernel_rfl) (by kernel_rfl) ?_
    simp only [List.take_succ_cons, List.take_zero, List.drop_succ_cons, List.drop_zero]
    repeat still_step
    still_call (HLK.out)
    refine wpStill_nil ?_
    change wpList _ _ _ _ _ w.drew
    have HHd : RdAt w.drew g er A n c := HH.out
    go_wp2_with fail
    refine (fails_rd _ g er _ A n c HHd).mono ?_
    rintro e w2 ⟨he, h2, hg2⟩
    rw [HD.out] at he
    subst he
    clear HHd
    go_wp2
    go_ret
    have e1 : rrA er k l = [] := by rw [HRA.out, if_neg H0.out]
    have e2 : rrL er k l = l := by rw [HRL.out, if_neg H0.out]
    have hgw : w.grownBy w2 (some g) := ⟨hg2.os, hg2.tape, hg2.output, hg2.size, hg2.block⟩
    refine ⟨A, c, none, 0, by rw [e1]; rfl, by rw [e1]; exact Byt.nil_ _ _, ?_, ?_, hgw⟩
    · rw [e2, HLN.out, HRE.out, HLN.out]; exact h2
    · rw [e2, HLN.out]
      exact HHB.out.keep (fun b o hlt => World.cell?_of_block (a := ⟨b, o, none⟩) (hgw.block b (Nat.lt_trans hlt hl) (fun e => by cases e; omega)))
end Go.Proofs.Ytoamgdcjmkkmfaa
namespace Go.Proofs.Ytoamgdcjmkkmfaa
open Go.RowKit
set_option linter.unusedSimpArgs false
set_option linter.unusedVariables false
theorem rnum_nil (k : Int) (w : World) : Calls Try.prog 18 #[.pointer none, .int .i64 k] w fun e w' => e = .returned (.int .i64 0) ∧ Below w.heap.size w w' := by
  go_enter Try.func18, Try.ntmps18
  go_wp2_with fail
  go_ret
  exact ⟨rfl, Below.refl _ _⟩
theorem rraw_nil (k : Int) (w : World) : Calls Try.prog 17 #[.pointer none, .int .i64 k] w fun e w' => e = .returned (.slice none 0 0) ∧ Below w.heap.size w w' := by
  go_enter Try.func17, Try.ntmps17
  go_wp2_with fail
  go_quiet (fail)
  go_wp2
  go_ret
  exact ⟨rfl, below_drewN (Below.refl _ _) _⟩
end Go.Proofs.Ytoamgdcjmkkmfaa
