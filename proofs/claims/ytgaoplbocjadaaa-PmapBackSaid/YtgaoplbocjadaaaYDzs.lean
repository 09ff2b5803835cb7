/- What the document tells of an entry, and of an object's subs, is what the program's dictionary does. -/
import Derived.Test.YtgaoplbocjadaaaYDzp
import Derived.Test.YtgaoplbocjadaaaYDzr
import Derived.Test.YtgaoplbocjadaaaYDo
namespace Go.Proofs.Ytgaoplbocjadaaa
open Go.RowKit
set_option linter.unusedSimpArgs false
set_option linter.unusedVariables false
/-- The subs of an Index in the order of the list. -/
def wantL (idx : Int) (T : List (Int × Ent)) : List Int := (T.filter (fun x => decide (x.1 / 256 = idx))).map (fun x => x.1 % 256)
theorem tw_filter (idx : Int) : ∀ (D : List (Int × Ent)), Rise D → (∀ x ∈ D, idx ≤ x.1 / 256) → D.takeWhile (fun x => decide (x.1 / 256 = idx)) = D.filter (fun x => decide (x.1 / 256 = idx))
  | [], _, _ => rfl
  | x :: D, hr, h => by
    have hr2 : Rise D := fun i j a b hij ha hb => hr (i + 1) (j + 1) a b (by omega) (by simpa using ha) (by simpa using hb)
    by_cases hx : x.1 / 256 = idx
    · rw [List.takeWhile_cons, List.filter_cons, if_pos (decide_eq_true hx), if_pos (decide_eq_true hx), tw_filter idx D hr2 (fun y hy => h y (by simp [hy]))]
    · have h1 := h x (by simp)
      have h2 : ∀ y ∈ D, ¬ y.1 / 256 = idx := fun y hy => by
        obtain ⟨i, hi⟩ := List.mem_iff_getElem?.1 hy
        have := hr 0 (i + 1) x y (by omega) rfl (by simpa using hi)
        omega
      rw [List.takeWhile_cons, List.filter_cons, if_neg (by simp [hx]), if_neg (by simp [hx])]
      exact (List.filter_eq_nil_iff.2 (fun y hy => by simp [h2 y hy])).symm
theorem tw_congr {p q : Int × Ent → Bool} : ∀ (D : List (Int × Ent)), (∀ x ∈ D, p x = q x) → D.takeWhile p = D.takeWhile q
  | [], _ => rfl
  | x :: D, h => by rw [List.takeWhile_cons, List.takeWhile_cons, h x (by simp), tw_congr D (fun y hy => h y (by simp [hy]))]
theorem rise_drop {D : List (Int × Ent)} (h : Rise D) (k : Nat) : Rise (D.drop k) := fun i j a b hij ha hb => h (k + i) (k + j) a b (by omega) (by rw [List.getElem?_drop] at ha; exact ha) (by rw [List.getElem?_drop] at hb; exact hb)
theorem subs_eq {T : List (Int × Ent)} (hG : Good T) (idx : Int) : subsL idx T = wantL idx T := by
  have hP := plcI_le (numI idx 0) T
  have hlow : ∀ x ∈ T.take (plcI (numI idx 0) T), x.1 < numI idx 0 := fun x hx => by
    obtain ⟨i, hi⟩ := List.mem_iff_getElem?.1 hx
    have hil : i < plcI (numI idx 0) T := by have := (List.getElem?_eq_some_iff.1 hi).1; rw [List.length_take] at this; omega
    rw [List.getElem?_take_of_lt hil] at hi
    exact plcI_lt _ T i x hil hi
  have hhigh : ∀ x ∈ T.drop (plcI (numI idx 0) T), numI idx 0 ≤ x.1 := fun x hx => by
    obtain ⟨i, hi⟩ := List.mem_iff_getElem?.1 hx
    rw [List.getElem?_drop] at hi
    cases hq : T[plcI (numI idx 0) T]? with
    | none => rw [List.getElem?_eq_none_iff] at hq; have := (List.getElem?_eq_some_iff.1 hi).1; omega
    | some y =>
      have h1 := plcI_ge _ T y hq
      rcases Nat.eq_zero_or_pos i with rfl | hi0
      · rw [Nat.add_zero, hq] at hi; cases hi; omega
      · have := hG.rise _ _ y x (by omega : plcI (numI idx 0) T < plcI (numI idx 0) T + i) hq hi; omega
  have e1 : T.filter (fun x => decide (x.1 / 256 = idx)) = (T.drop (plcI (numI idx 0) T)).filter (fun x => decide (x.1 / 256 = idx)) := by
    conv => lhs; rw [← List.take_append_drop (plcI (numI idx 0) T) T]
    rw [List.filter_append, List.filter_eq_nil_iff.2, List.nil_append]
    intro x hx
    have h1 := hlow x hx
    have h2 := (hG.ok x (List.mem_of_mem_take hx)).1
    by_cases hi : 1 ≤ idx ∧ idx ≤ 65535
    · rw [numI_yes (by omega)] at h1; simp; omega
    · simp; omega
  have e2 : (T.drop (plcI (numI idx 0) T)).takeWhile (inIx idx) = (T.drop (plcI (numI idx 0) T)).takeWhile (fun x => decide (x.1 / 256 = idx)) := tw_congr _ fun x hx => by
    have h2 := (hG.ok x (List.mem_of_mem_drop hx)).1
    unfold inIx
    rw [aN_eq (by omega) (by omega)]
  have e3 : (T.drop (plcI (numI idx 0) T)).takeWhile (fun x => decide (x.1 / 256 = idx)) = (T.drop (plcI (numI idx 0) T)).filter (fun x => decide (x.1 / 256 = idx)) := by
    by_cases hi : 1 ≤ idx ∧ idx ≤ 65535
    · refine tw_filter idx _ (rise_drop hG.rise _) fun x hx => ?_
      have := hhigh x hx
      rw [numI_yes (by omega)] at this
      omega
    · have hno : ∀ x ∈ T.drop (plcI (numI idx 0) T), ¬ x.1 / 256 = idx := fun x hx => by
        have h2 := (hG.ok x (List.mem_of_mem_drop hx)).1
        omega
      rw [List.filter_eq_nil_iff.2 (fun x hx => by simp [hno x hx])]
      cases hD : T.drop (plcI (numI idx 0) T) with
      | nil => rfl
      | cons y D => rw [List.takeWhile_cons, if_neg (by have := hno y (by rw [hD]; simp); simp [this])]
  unfold subsL rowsX wantL
  rw [e2, e3, ← e1]
  refine List.map_congr_left fun x hx => ?_
  have h2 := (hG.ok x ((List.mem_filter.1 hx).1)).1
  unfold subI
  rw [bN_eq (by omega)]
theorem wantL_snoc (idx : Int) (T : List (Int × Ent)) (x : Int × Ent) : wantL idx (T ++ [x]) = if x.1 / 256 = idx then wantL idx T ++ [x.1 % 256] else wantL idx T := by
  unfold wantL
  rw [List.filter_append]
  by_cases h : x.1 / 256 = idx
  · rw [if_pos h]; simp [h]
  · rw [if_neg h]; simp [h]
section
variable {w : World} {base c : Nat} {a : Option Addr} {R T : List (Int × Ent)} {ch : Int}
/-- At's place is one exactly where the entry is there. -/
def AtT (w : World) (b : Bool) (e : Ending) (w' : World) : Prop := ∃ v : Int, e = .returned (.int .i64 v) ∧ decide (0 ≤ v) = b ∧ Below w.heap.size w w'
theorem atref_tie (i j : Int) (h : w.ownsRow base 77 7 (.slice a R.length c) R.length (fr R)) (ht : TieD T R) :
    Calls Try.prog 51 #[.agg #[.slice a R.length c, .int .i64 ch], .agg #[.int .i64 i, .int .i64 j]] w (AtT w (hasI (numI i j) T)) := by
  refine (rat_any w base R.length c a R ch i j h rfl (by have := ht.len; have := ht.good.few; omega) (fun x hx => (ht.ok x hx).1)).mono ?_
  rintro e w' ⟨hb, hp⟩
  rcases hp with ⟨p, x, hx, hq, _, rfl⟩ | ⟨hno, rfl⟩
  · refine ⟨p, rfl, ?_, hb⟩
    rw [← hq, (ht.at_ hx).1]
    exact decide_eq_true (by omega)
  · refine ⟨-1, rfl, ?_, hb⟩
    rw [ht.hasnt hno]
    decide
end
end Go.Proofs.Ytgaoplbocjadaaa