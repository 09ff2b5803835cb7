/- An array of 2048 cells that lies by itself; single. -/
import Derived.Test.YtjofgomnnpeepaaGb
namespace Go.Proofs.Ytjofgomnnpeepaa
open Go.RowKit Go.Sort

/-- The cells of an array. -/
def rowN (N : Nat) (f : Nat → Value) : Array Value := ⟨(List.range N).map f⟩
theorem rowN_at (N : Nat) (f : Nat → Value) {j : Nat} (h : j < N) : (rowN N f)[j]? = some (f j) := by simp [rowN, h]
theorem rowN_set (N : Nat) (f : Nat → Value) (j : Nat) (v : Value) : (rowN N f).setIfInBounds j v = rowN N (fun q => if q = j then v else f q) := by
  apply Array.ext
  · simp [rowN]
  · intro i h1 h2
    simp only [rowN, List.setIfInBounds_toArray, List.getElem_toArray, List.getElem_set, List.getElem_map, List.getElem_range]
    by_cases e : j = i
    · simp [e]
    · have e' : ¬ i = j := fun h => e h.symm
      simp [e, e']
theorem rowN_congr {N : Nat} {f f' : Nat → Value} (h : ∀ j, j < N → f j = f' j) : rowN N f = rowN N f' := by
  unfold rowN
  congr 1
  exact List.map_congr_left fun j hj => h j (List.mem_range.1 hj)
theorem rowN_rep (N : Nat) (v : Value) : Array.replicate N v = rowN N fun _ => v := by
  unfold rowN
  apply Array.ext
  · simp
  · intro i h1 h2
    simp
def arow (f : Nat → Value) : Array Value := rowN 2048 f
theorem arow_at (f : Nat → Value) {j : Nat} (h : j < 2048) : (arow f)[j]? = some (f j) := rowN_at 2048 f h
theorem arow_set (f : Nat → Value) (j : Nat) (v : Value) : (arow f).setIfInBounds j v = arow (fun q => if q = j then v else f q) := rowN_set 2048 f j v
theorem arow_congr {f f' : Nat → Value} (h : ∀ j, j < 2048 → f j = f' j) : arow f = arow f' := rowN_congr h
theorem arow_rep (v : Value) : Array.replicate 2048 v = arow fun _ => v := rowN_rep 2048 v
attribute [irreducible] arow

/-- An array at g. -/
def Arr (t : TypeId) (w : World) (g : Nat) (f : Nat → Value) : Prop := w.heap[g]? = some (.cells (arow f) t (0, 0))
section
variable {t : TypeId} {w w' : World} {g : Nat} {f f' : Nat → Value}
theorem Arr.lt (h : Arr t w g f) : g < w.heap.size := (Array.getElem?_eq_some_iff.1 h).1
theorem Arr.cell (h : Arr t w g f) {j : Nat} (hj : j < 2048) : w.cell? ⟨g, j, none⟩ = some (f j) := by rw [cell_of_row _ _ _ _ _ _ h, arow_at f hj]
theorem Arr.fr (h : Arr t w g f) (j : Nat) : w.frozen? ⟨g, j, none⟩ = false := frozen_of_row _ _ _ _ _ h
theorem Arr.below {B : Nat} (h : Arr t w g f) (hb : Below B w w') (hg : g < B) : Arr t w' g f := (hb.block g hg).trans h
theorem Arr.set (h : Arr t w g f) (j : Nat) (v : Value) : Arr t (w.setCell ⟨g, j, none⟩ v) g (fun q => if q = j then v else f q) := by
  unfold Arr at h ⊢
  rw [← arow_set]
  simp [World.setCell, Array.getElem?_modify, h]
theorem Arr.congr (h : Arr t w g f) (e : ∀ j, j < 2048 → f j = f' j) : Arr t w g f' := by
  unfold Arr at h ⊢
  rw [h, arow_congr e]
end
/-- Masks. -/
abbrev Mk (w : World) (g : Nat) (M : Nat → Int) : Prop := Arr 66 w g fun j => .int .i64 (M j)
theorem zero_masks (w : World) : Sem.run Try.prog (zeroValue 66) w = .ok (.agg (arow fun _ => .int .i64 0)) w := by
  have h : Sem.run Try.prog (zeroValue 66) w = .ok (.agg (Array.replicate 2048 (.int .i64 0))) w := by kernel_rfl
  rw [h, arow_rep]
def m0 (l : List Int) (j q : Nat) : Int := if (q : Int) ∈ l.take j then 2047 else -1
theorem m0_in {l : List Int} {j : Nat} {x : Int} (hx : l[j]? = some x) (q : Nat) (hq : (q : Int) = x) (p : Nat) : (if p = q then 2047 else m0 l j p) = m0 l (j + 1) p := by
  obtain ⟨h, e⟩ := List.getElem?_eq_some_iff.1 hx
  unfold m0
  rw [List.take_add_one, hx]
  simp only [List.mem_append, Option.toList_some, List.mem_singleton]
  by_cases h1 : p = q
  · subst h1; simp [hq]
  · have : ¬ (p : Int) = x := by omega
    simp [h1, this]
theorem m0_out {l : List Int} {j : Nat} {x : Int} (hx : l[j]? = some x) (hq : ¬ (0 ≤ x ∧ x < 2048)) (p : Nat) (hp : p < 2048) : m0 l j p = m0 l (j + 1) p := by
  unfold m0
  rw [List.take_add_one, hx]
  have : ¬ (p : Int) = x := by omega
  simp [this]
set_option maxRecDepth 40000 in
theorem single_any (w : World) (A : Option Addr) (n c : Nat) (l : List Int) (h : Nums w w.heap.size A n c l) :
    Calls Try.prog 26 #[.slice A n c] w fun e w' => e = .returned (.pointer (some ⟨w.heap.size, 0, none⟩)) ∧ Mk w' w.heap.size (m0 l n) ∧ Below w.heap.size w w' := by
  have hz := zero_masks
  have HL := Lib.hid h
  have hcap := h.cap
  have hmax := h.max
  simp only [maxLen] at hmax
  have hM : Mk (w.alloc (.cells (arow fun _ => .int .i64 0) 66)) w.heap.size fun _ => 0 := heap_alloc_new w _
  have hb : Below w.heap.size w (w.alloc (.cells (arow fun _ => .int .i64 0) 66)) := (Below.refl _ _).alloc (Nat.le_refl _) _
  clear h
  go_enter Try.func26, Try.ntmps26
  go_wp2_with fail
  generalize w.alloc (.cells (arow fun _ => .int .i64 0) 66) = w0 at hM hb ⊢
  have HM := Lib.hid hM
  have HB := Lib.hid hb
  clear hM hb hz
  go_loopw [8] (fun i wr => ∃ j : Nat, j ≤ 2048 ∧ i = .int .i64 j ∧ Hid (Mk wr w.heap.size fun q => if q < j then -1 else 0) ∧ Below w.heap.size w wr) (fun i _ => 2048 - (intOf i).toNat)
  case atStart => exact ⟨0, by omega, rfl, Lib.hid (HM.out.congr fun q _ => by simp), HB.out⟩
  case round =>
    obtain ⟨j, hj, rfl, hM, hb⟩ := hrel
    by_cases hlt : j < 2048
    · have hc := hM.out.cell hlt
      have hf := hM.out.fr j
      have hM1 := hM.out.set j (.int .i64 (-1))
      have hM2 : Mk (wr.setCell ⟨w.heap.size, j, none⟩ (.int .i64 (-1))) w.heap.size fun q => if q < j + 1 then -1 else 0 := hM1.congr fun q _ => by
        by_cases e : q = j
        · subst e; simp
        · have : (q < j + 1) = (q < j) := by apply propext; omega
          simp [e, this]
      have hb2 : Below w.heap.size w (wr.setCell ⟨w.heap.size, j, none⟩ (.int .i64 (-1))) := hb.setCell (Nat.le_refl _) _
      have HM2 := Lib.hid hM2
      clear hM1 hM2 hM
      go_wp2_with fail
      exact ⟨⟨j + 1, by omega, by go_num, HM2, hb2⟩, by simp [intOf]; omega⟩
    · have hM2 : Mk wr w.heap.size (m0 l 0) := hM.out.congr fun q hq => by
        have : q < j := by omega
        simp [this, m0]
      have HM2 := Lib.hid hM2
      have HB2 := Lib.hid hb
      have hj2 : ¬ (j : Int) < 2048 := by omega
      clear hM2 hM hb
      go_wp2_with fail
      go_loopw [18] (fun i wr => ∃ j : Nat, j ≤ n ∧ i = .int .i64 j ∧ Hid (Mk wr w.heap.size (m0 l j)) ∧ Below w.heap.size w wr) (fun i _ => n - (intOf i).toNat)
      case atStart => exact ⟨0, by omega, rfl, HM2, HB2.out⟩
      case round =>
        obtain ⟨j, hj, rfl, hM, hb⟩ := hrel
        by_cases hlt : j < n
        · have hx := (HL.out.below hb)
          obtain ⟨b, off, rfl, hbb, hcl⟩ := hx.cells (by omega)
          have hcj := hcl j hlt
          have hlj : l[j]? = some (l.getD j 0) := by
            have := HL.out.len
            rw [List.getD_eq_getElem?_getD, List.getElem?_eq_getElem (by omega)]; rfl
          have hr := HL.out.rng _ (List.mem_of_getElem? hlj)
          generalize l.getD j 0 = x at hcj hlj hr
          by_cases hin : 0 ≤ x ∧ x < 2048
          · clear HM2
            obtain ⟨q, rfl⟩ : ∃ q : Nat, x = q := ⟨x.toNat, by omega⟩
            have hd : (decide (0 ≤ (q : Int)) && decide ((q : Int) < 2048)) = true := by simp [hin]
            have hq : q < 2048 := by omega
            have hc := hM.out.cell hq
            have hf := hM.out.fr q
            have hM2 : Mk (wr.setCell ⟨w.heap.size, q, none⟩ (.int .i64 2047)) w.heap.size (m0 l (j + 1)) := (hM.out.set q (.int .i64 2047)).congr fun p _ => by
              have := m0_in hlj q rfl p
              by_cases e : p = q
              · simp [e] at this ⊢; exact this
              · simp [e] at this ⊢; exact this
            have hb2 : Below w.heap.size w (wr.setCell ⟨w.heap.size, q, none⟩ (.int .i64 2047)) := hb.setCell (Nat.le_refl _) _
            have HM2 := Lib.hid hM2
            generalize m0 l j q = z at hc
            clear hM2 hM hx hcl HB2
            go_wp2_with (go_at_call 18; refine (is_any _ _).mono ?_; rintro e w' ⟨rfl, rfl⟩; rw [hd])
            exact ⟨⟨j + 1, by omega, by go_num, HM2, hb2⟩, by simp [intOf]; omega⟩
          · clear HM2
            have hd : (decide (0 ≤ x) && decide (x < 2048)) = false := by simp; omega
            have hM2 : Mk wr w.heap.size (m0 l (j + 1)) := hM.out.congr fun p hp => by rw [m0_out hlj hin p hp]
            have HM2 := Lib.hid hM2
            clear hM2 hM hx hcl hin
            go_wp2_with (go_at_call 18; refine (is_any _ _).mono ?_; rintro e w' ⟨rfl, rfl⟩; rw [hd])
            exact ⟨⟨j + 1, by omega, by go_num, HM2, hb⟩, by simp [intOf]; omega⟩
        · obtain rfl : j = n := by omega
          go_wp2_with fail
          exact bodyPost_ret (results_tmp rfl _ _ _) rfl ⟨rfl, hM.out, hb⟩
end Go.Proofs.Ytjofgomnnpeepaa
