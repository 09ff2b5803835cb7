/- The document's rows as lists, and the line and the table beside them. -/
import Derived.Test.YthofimkjemhnoaaPBTu
namespace Go.Proofs.Ythofimkjemhnoaa
open Go.RowKit
set_option linter.unusedSimpArgs false
set_option linter.unusedVariables false
theorem thI_of {z : Int} {ls : List (Int × Int)} {i : Nat} {x : Int × Int} (h : Rise ls) (hx : ls[i]? = some x) : plcI x.1 ls = i ∧ hasI x.1 ls = true ∧ thI z x.1 ls = x.2 := by
  have hi := (List.getElem?_eq_some_iff.1 hx).1
  have hp : plcI x.1 ls = i := plcI_at x.1 ls i (by omega) (fun j y hj hy => h j i y x hj hy hx) (fun y hy => by rw [hx] at hy; cases hy; omega)
  have hh : hasI x.1 ls = true := by rw [hasI_some hp hx]; simp
  exact ⟨hp, hh, thI_yes hh (by rw [hp]; exact hx)⟩
/-! ### The document's rows, in no order -/
def dhas (k : Int) (R : List (Int × Int)) : Bool := R.any fun x => decide (x.1 = k)
def dgetI (k : Int) : List (Int × Int) → Int
  | [] => 0
  | x :: R => if x.1 = k then x.2 else dgetI k R
def dcut (k : Int) (R : List (Int × Int)) : List (Int × Int) := R.filter fun x => decide (x.1 ≠ k)
def dplc (k : Int) (R : List (Int × Int)) : Nat := R.countP fun x => decide (x.1 < k)
def dput (k v : Int) (R : List (Int × Int)) : List (Int × Int) := dcut k R ++ [(k, v)]
/-- Rows in no order are those of a table. -/
structure Tie (R T : List (Int × Int)) : Prop where
  perm : R.Perm T
  rise : Rise T
theorem rise_key {T : List (Int × Int)} (h : Rise T) {x y : Int × Int} (hx : x ∈ T) (hy : y ∈ T) (e : x.1 = y.1) : x = y := by
  obtain ⟨i, hi, rfl⟩ := List.mem_iff_getElem.1 hx
  obtain ⟨j, hj, rfl⟩ := List.mem_iff_getElem.1 hy
  have h1 := List.getElem?_eq_getElem hi
  have h2 := List.getElem?_eq_getElem hj
  rcases Nat.lt_trichotomy i j with h3 | h3 | h3
  · have := h i j _ _ h3 h1 h2; omega
  · subst h3; rfl
  · have := h j i _ _ h3 h2 h1; omega
theorem hasI_mem {T : List (Int × Int)} (h : Rise T) (k : Int) : hasI k T = true ↔ ∃ x ∈ T, x.1 = k := by
  constructor
  · intro hh
    obtain ⟨x, hx, e⟩ := hasI_at hh
    exact ⟨x, List.mem_of_getElem? hx, e⟩
  · rintro ⟨x, hx, rfl⟩
    obtain ⟨i, hi, rfl⟩ := List.mem_iff_getElem.1 hx
    exact (thI_of (z := 0) h (List.getElem?_eq_getElem hi)).2.1
theorem dhas_mem (k : Int) (R : List (Int × Int)) : dhas k R = true ↔ ∃ x ∈ R, x.1 = k := by
  simp [dhas]
theorem dget_mem {k : Int} : ∀ {R : List (Int × Int)}, dhas k R = true → (k, dgetI k R) ∈ R
  | [], h => by simp [dhas] at h
  | x :: R, h => by
    unfold dgetI
    by_cases e : x.1 = k
    · rw [if_pos e]; obtain ⟨a, b⟩ := x; simp only at e; subst e; simp
    · rw [if_neg e]
      refine List.mem_cons_of_mem _ (dget_mem ?_)
      simpa [dhas, e] using h
theorem dget_no {k : Int} : ∀ {R : List (Int × Int)}, dhas k R = false → dgetI k R = 0
  | [], _ => rfl
  | x :: R, h => by
    have h' : ¬ x.1 = k ∧ dhas k R = false := by simpa [dhas] using h
    unfold dgetI
    rw [if_neg h'.1, dget_no h'.2]
theorem Tie.has {R T : List (Int × Int)} (h : Tie R T) (k : Int) : hasI k T = dhas k R := by
  rw [Bool.eq_iff_iff, hasI_mem h.rise, dhas_mem]
  simp only [h.perm.mem_iff]
theorem Tie.get {R T : List (Int × Int)} (h : Tie R T) (k : Int) : thI 0 k T = dgetI k R := by
  cases hh : dhas k R with
  | false => rw [dget_no hh, thI_no ((h.has k).trans hh)]
  | true =>
    have hm := h.perm.mem_iff.1 (dget_mem hh)
    obtain ⟨i, hi, e⟩ := List.mem_iff_getElem.1 hm
    have := (thI_of (z := 0) h.rise (List.getElem?_eq_getElem hi)).2.2
    rw [e] at this
    exact this
theorem plc_parts {T : List (Int × Int)} (h : Rise T) (k : Int) : (∀ x ∈ T.take (plcI k T), x.1 < k) ∧ (∀ x ∈ T.drop (plcI k T), k ≤ x.1) := by
  refine ⟨fun x hx => ?_, fun x hx => ?_⟩
  · obtain ⟨i, hi, e⟩ := List.mem_iff_getElem.1 hx
    rw [List.getElem_take] at e
    exact plcI_lt k T i x (by simp at hi; omega) (by rw [← e]; exact List.getElem?_eq_getElem _)
  · obtain ⟨i, hi, e⟩ := List.mem_iff_getElem.1 hx
    rw [List.getElem_drop] at e
    have hx2 : T[plcI k T + i]? = some x := by rw [← e]; exact List.getElem?_eq_getElem _
    have hlt : plcI k T < T.length := by have := (List.getElem?_eq_some_iff.1 hx2).1; omega
    have hq := plcI_stop k T _ (List.getElem?_eq_getElem hlt)
    rcases Nat.eq_zero_or_pos i with h0 | h0
    · subst h0
      rw [Nat.add_zero, List.getElem?_eq_getElem hlt] at hx2
      rw [← Option.some.inj hx2]; exact hq
    · have := h (plcI k T) (plcI k T + i) _ x (by omega) (List.getElem?_eq_getElem hlt) hx2
      omega
theorem drop_has {T : List (Int × Int)} {k : Int} (hh : hasI k T = true) : ∃ v, T.drop (plcI k T) = (k, v) :: T.drop (plcI k T + 1) := by
  obtain ⟨x, hx, e⟩ := hasI_at hh
  obtain ⟨hi, ex⟩ := List.getElem?_eq_some_iff.1 hx
  refine ⟨x.2, ?_⟩
  rw [List.drop_eq_getElem_cons hi, ex, ← e]
theorem drop_gt {T : List (Int × Int)} (h : Rise T) {k : Int} (hh : hasI k T = true) : ∀ x ∈ T.drop (plcI k T + 1), k < x.1 := fun x hx => by
  obtain ⟨y, hy, e⟩ := hasI_at hh
  obtain ⟨i, hi, e2⟩ := List.mem_iff_getElem.1 hx
  rw [List.getElem_drop] at e2
  have hx2 : T[plcI k T + 1 + i]? = some x := by rw [← e2]; exact List.getElem?_eq_getElem _
  have := h (plcI k T) (plcI k T + 1 + i) y x (by omega) hy hx2
  omega
theorem cut_filter {T : List (Int × Int)} (h : Rise T) (k : Int) : cutI k T = dcut k T := by
  cases hh : hasI k T with
  | false =>
    rw [cutI_no hh]
    refine (List.filter_eq_self.2 fun x hx => ?_).symm
    have : ¬ hasI k T = true := by simp [hh]
    rw [hasI_mem h] at this
    simp only [ne_eq, decide_eq_true_eq]
    exact fun e => this ⟨x, hx, e⟩
  | true =>
    obtain ⟨v, hv⟩ := drop_has hh
    have e0 : cutI k T = T.take (plcI k T) ++ T.drop (plcI k T + 1) := by unfold cutI; rw [hh]; rfl
    rw [e0]
    have e1 : T = T.take (plcI k T) ++ (k, v) :: T.drop (plcI k T + 1) := by rw [← hv, List.take_append_drop]
    have h1 : (T.take (plcI k T)).filter (fun x => decide (x.1 ≠ k)) = T.take (plcI k T) := List.filter_eq_self.2 fun x hx => by
      have := (plc_parts h k).1 x hx
      simp; omega
    have h2 : (T.drop (plcI k T + 1)).filter (fun x => decide (x.1 ≠ k)) = T.drop (plcI k T + 1) := List.filter_eq_self.2 fun x hx => by
      have := drop_gt h hh x hx
      simp; omega
    have e2 : dcut k T = dcut k (T.take (plcI k T) ++ (k, v) :: T.drop (plcI k T + 1)) := by rw [← e1]
    rw [e2]
    unfold dcut
    rw [List.filter_append, h1, List.filter_cons, h2]
    simp
theorem Tie.cut {R T : List (Int × Int)} (h : Tie R T) (k : Int) : Tie (dcut k R) (cutI k T) :=
  ⟨by rw [cut_filter h.rise]; exact h.perm.filter _, rise_cut k T h.rise⟩
theorem put_perm {T : List (Int × Int)} (h : Rise T) (k v : Int) : (putI k v T).Perm (dcut k T ++ [(k, v)]) := by
  rw [← cut_filter h]
  cases hh : hasI k T with
  | false =>
    have e : putI k v T = T.take (plcI k T) ++ [(k, v)] ++ T.drop (plcI k T) := by unfold putI; rw [hh]; rfl
    rw [e, cutI_no hh, List.append_assoc]
    refine (List.perm_append_comm_assoc _ _ _).trans ?_
    rw [List.take_append_drop]
    exact List.perm_append_comm
  | true =>
    have e : putI k v T = T.set (plcI k T) (k, v) := by unfold putI; rw [hh]; rfl
    have e0 : cutI k T = T.take (plcI k T) ++ T.drop (plcI k T + 1) := by unfold cutI; rw [hh]; rfl
    obtain ⟨x, hx, _⟩ := hasI_at hh
    have hlt := (List.getElem?_eq_some_iff.1 hx).1
    rw [e, e0, List.set_eq_take_append_cons_drop, if_pos hlt, List.append_assoc]
    exact List.Perm.append_left _ (List.perm_append_singleton _ _).symm
theorem Tie.put {R T : List (Int × Int)} (h : Tie R T) (k v : Int) : Tie (dput k v R) (putI k v T) :=
  ⟨((h.perm.filter _).append_right _).trans (put_perm h.rise k v).symm, rise_put k v T h.rise⟩
theorem plc_count {T : List (Int × Int)} (h : Rise T) (k : Int) : plcI k T = dplc k T := by
  obtain ⟨h1, h2⟩ := plc_parts h k
  have e : dplc k T = dplc k (T.take (plcI k T) ++ T.drop (plcI k T)) := by rw [List.take_append_drop]
  rw [e]
  unfold dplc
  rw [List.countP_append, List.countP_eq_length.2 (fun x hx => by simpa using h1 x hx), List.countP_eq_zero.2 (fun x hx => by have := h2 x hx; simp; omega)]
  have := plcI_le k T
  simp; omega
theorem Tie.plc {R T : List (Int × Int)} (h : Tie R T) (k : Int) : plcI k T = dplc k R := by
  rw [plc_count h.rise]
  exact (h.perm.countP_eq _).symm
theorem tie_nil : Tie [] [] := ⟨List.Perm.refl _, rise_nil⟩
theorem Tie.len {R T : List (Int × Int)} (h : Tie R T) : R.length = T.length := h.perm.length_eq
theorem dcut_le (k : Int) (R : List (Int × Int)) : (dcut k R).length ≤ R.length := List.length_filter_le _ _
theorem dput_le (k v : Int) (R : List (Int × Int)) : (dput k v R).length ≤ R.length + 1 := by
  have := dcut_le k R
  simp [dput]; omega
/-- The rows from one key up to another one, rising. -/
def inB (a b : Int) (x : Int × Int) : Bool := decide (a ≤ x.1) && decide (x.1 ≤ b)
def dbtw (R : List (Int × Int)) (a b : Int) : List (Int × Int) := (List.range R.length).flatMap fun n => R.filter fun x => decide (dplc x.1 R = n) && inB a b x
theorem Tie.one {R T : List (Int × Int)} (h : Tie R T) {n : Nat} {x : Int × Int} (hx : T[n]? = some x) : (R.filter fun x => decide (dplc x.1 R = n)) = [x] := by
  have e : (fun x : Int × Int => decide (dplc x.1 R = n)) = fun x => decide (plcI x.1 T = n) := by funext y; rw [h.plc]
  rw [e]
  have hp : (R.filter fun x => decide (plcI x.1 T = n)).Perm [x] := by
    refine (h.perm.filter _).trans ?_
    obtain ⟨hn, ex⟩ := List.getElem?_eq_some_iff.1 hx
    have e1 : T = T.take n ++ x :: T.drop (n + 1) := by rw [← ex, ← List.drop_eq_getElem_cons hn, List.take_append_drop]
    have key : ∀ i y, T[i]? = some y → plcI y.1 T = i := fun i y hy => (thI_of (z := 0) h.rise hy).1
    have h1 : (T.take n).filter (fun x => decide (plcI x.1 T = n)) = [] := by
      rw [List.filter_eq_nil_iff]
      intro y hy
      obtain ⟨i, hi, e⟩ := List.mem_iff_getElem.1 hy
      rw [List.getElem_take] at e
      have := key i y (by rw [← e]; exact List.getElem?_eq_getElem _)
      simp at hi; simp; omega
    have h2 : (T.drop (n + 1)).filter (fun x => decide (plcI x.1 T = n)) = [] := by
      rw [List.filter_eq_nil_iff]
      intro y hy
      obtain ⟨i, hi, e⟩ := List.mem_iff_getElem.1 hy
      rw [List.getElem_drop] at e
      have := key (n + 1 + i) y (by rw [← e]; exact List.getElem?_eq_getElem _)
      simp; omega
    have e2 : T.filter (fun x => decide (plcI x.1 T = n)) = (T.take n ++ x :: T.drop (n + 1)).filter (fun x => decide (plcI x.1 T = n)) := by rw [← e1]
    rw [e2, List.filter_append, h1, List.filter_cons, h2, key n x hx]
    simp
  exact List.perm_singleton.1 hp
theorem flat_filter (p : Int × Int → Bool) (T : List (Int × Int)) (g : Nat → List (Int × Int)) (h : ∀ n x, T[n]? = some x → g n = [x].filter p) : ∀ m, m ≤ T.length → (List.range m).flatMap g = (T.take m).filter p
  | 0, _ => by simp
  | m + 1, hm => by
    rw [List.range_succ, List.flatMap_append, flat_filter p T g h m (by omega), List.take_succ_eq_append_getElem (by omega), List.filter_append, List.flatMap_singleton, h m _ (List.getElem?_eq_getElem (by omega))]
theorem Tie.btw {R T : List (Int × Int)} (h : Tie R T) (a b : Int) : dbtw R a b = T.filter (inB a b) := by
  have e := flat_filter (inB a b) T (fun n => R.filter fun x => decide (dplc x.1 R = n) && inB a b x) (fun n x hx => ?_) R.length (by rw [h.len]; exact Nat.le_refl _)
  · rw [dbtw, e, h.len, List.take_length]
  · rw [← h.one hx, List.filter_filter]
    congr 1
    funext y
    rw [Bool.and_comm]

/-! ### Line, table, and the document's rows -/
structure TieT (L T R : List (Int × Int)) : Prop where
  rl : RiseT tlI L
  tie : Tie R T
  lp : L.Perm R
theorem tieT_nil : TieT [] [] [] := ⟨List.Pairwise.nil, tie_nil, List.Perm.refl _⟩
theorem TieT.len {L T R : List (Int × Int)} (h : TieT L T R) : L.length = R.length ∧ T.length = R.length := ⟨h.lp.length_eq, h.tie.len.symm⟩
theorem TieT.key {L T R : List (Int × Int)} (h : TieT L T R) {x y : Int × Int} (hx : x ∈ L) (hy : y ∈ L) (e : x.1 = y.1) : x = y :=
  rise_key h.tie.rise (h.tie.perm.mem_iff.1 (h.lp.mem_iff.1 hx)) (h.tie.perm.mem_iff.1 (h.lp.mem_iff.1 hy)) e
theorem dcut_none {k : Int} {R : List (Int × Int)} (h : dhas k R = false) : dcut k R = R := List.filter_eq_self.2 fun x hx => by
  have : ¬ dhas k R = true := by simp [h]
  rw [dhas_mem] at this
  simp only [ne_eq, decide_eq_true_eq]
  exact fun e => this ⟨x, hx, e⟩
theorem dcut_has (k : Int) (R : List (Int × Int)) : dhas k (dcut k R) = false := by
  cases h : dhas k (dcut k R) with
  | false => rfl
  | true =>
    obtain ⟨x, hx, e⟩ := (dhas_mem k _).1 h
    have := (List.mem_filter.1 hx).2
    simp [e] at this
theorem dcut_twice (k : Int) (R : List (Int × Int)) : dcut k (dcut k R) = dcut k R := dcut_none (dcut_has k R)
/-- The place of a key in the line, and the line without it. -/
theorem TieT.line_cut {L T R : List (Int × Int)} (h : TieT L T R) {i : Nat} {x : Int × Int} (hx : L[i]? = some x) : dcut x.1 L = L.take i ++ L.drop (i + 1) := by
  obtain ⟨hi, e⟩ := List.getElem?_eq_some_iff.1 hx
  have e1 : L = L.take i ++ x :: L.drop (i + 1) := by rw [← e, ← List.drop_eq_getElem_cons hi, List.take_append_drop]
  have hxm : x ∈ L := by rw [← e]; exact List.getElem_mem hi
  have h1 : ∀ y ∈ L.take i, ¬ y.1 = x.1 := fun y hy e2 => by
    have := h.key (List.mem_of_mem_take hy) hxm e2
    subst this
    obtain ⟨j, hj, e3⟩ := List.mem_iff_getElem.1 hy
    rw [List.getElem_take] at e3
    have h2 := h.rl.at (show j < i by simp at hj; omega) (show L[j]? = some y from by rw [← e3]; exact List.getElem?_eq_getElem _) hx
    rw [tlI_lin.irr] at h2; cases h2
  have h2 : ∀ y ∈ L.drop (i + 1), ¬ y.1 = x.1 := fun y hy e2 => by
    have := h.key (List.mem_of_mem_drop hy) hxm e2
    subst this
    obtain ⟨j, hj, e3⟩ := List.mem_iff_getElem.1 hy
    rw [List.getElem_drop] at e3
    have h2 := h.rl.at (show i < i + 1 + j by omega) hx (show L[i + 1 + j]? = some y from by rw [← e3]; exact List.getElem?_eq_getElem _)
    rw [tlI_lin.irr] at h2; cases h2
  have e2 : dcut x.1 L = dcut x.1 (L.take i ++ x :: L.drop (i + 1)) := by rw [← e1]
  rw [e2]
  unfold dcut
  rw [List.filter_append, List.filter_cons, List.filter_eq_self.2 (fun y hy => by simpa using h1 y hy), List.filter_eq_self.2 (fun y hy => by simpa using h2 y hy)]
  simp
theorem TieT.cut_at {L T R : List (Int × Int)} (h : TieT L T R) {i : Nat} {x : Int × Int} (hx : L[i]? = some x) : TieT (L.take i ++ L.drop (i + 1)) (cutI x.1 T) (dcut x.1 R) := by
  refine ⟨?_, h.tie.cut x.1, ?_⟩
  · rw [← h.line_cut hx]
    exact h.rl.sub List.filter_sublist
  · rw [← h.line_cut hx]
    exact h.lp.filter _
/-- A key that is there stands in the line, at its place. -/
theorem TieT.find {L T R : List (Int × Int)} (h : TieT L T R) {k : Int} (hh : dhas k R = true) : ∃ i, L[i]? = some (k, dgetI k R) ∧ plcT tlI (k, dgetI k R) L = i ∧ thI 0 k T = dgetI k R := by
  have hm := h.lp.mem_iff.2 (dget_mem hh)
  obtain ⟨i, hi, e⟩ := List.mem_iff_getElem.1 hm
  have hx : L[i]? = some (k, dgetI k R) := by rw [← e]; exact List.getElem?_eq_getElem hi
  exact ⟨i, hx, plcT_mem tlI_lin h.rl hx, h.tie.get k⟩
theorem TieT.ins {L T R : List (Int × Int)} (k v : Int) (h : TieT L T (dcut k R)) : TieT (insT tlI (k, v) L) (putI k v T) (dput k v R) := by
  have hn : (k, v) ∉ L := fun hm => by
    have := h.lp.mem_iff.1 hm
    have h1 := (dhas_mem k (dcut k R)).2 ⟨_, this, rfl⟩
    rw [dcut_has] at h1; cases h1
  have ht := h.tie.put k v
  have e : dput k v (dcut k R) = dput k v R := by unfold dput; rw [dcut_twice]
  rw [e] at ht
  exact ⟨insT_rise tlI_lin h.rl hn, ht, (insT_perm _ _).trans (h.lp.append_right _)⟩
/-- The document's rows when the keys of some have gone, one by one. -/
def dcuts (l R : List (Int × Int)) : List (Int × Int) := l.foldl (fun r x => dcut x.1 r) R
theorem dcuts_snoc (l R : List (Int × Int)) (x : Int × Int) : dcuts (l ++ [x]) R = dcut x.1 (dcuts l R) := by simp [dcuts]
theorem TieT.takes {L T R : List (Int × Int)} (h : TieT L T R) : ∀ m, m ≤ L.length → TieT (L.drop m) (cutsI (L.take m) T) (dcuts (L.take m) R)
  | 0, _ => by simpa [cutsI, dcuts] using h
  | m + 1, hm => by
    have ih := h.takes m (by omega)
    have hd : L.drop m = L[m] :: L.drop (m + 1) := List.drop_eq_getElem_cons (by omega)
    have hx : (L.drop m)[0]? = some L[m] := by rw [hd]; rfl
    have h2 := ih.cut_at hx
    rw [hd] at h2
    rw [List.take_succ_eq_append_getElem (by omega), cuts_snocI, dcuts_snoc]
    simpa using h2
theorem TieT.head {L T R : List (Int × Int)} (h : TieT L T R) {x : Int × Int} {m : Nat} (hx : L[m]? = some x) (hm : m ≤ L.length) : dhas x.1 (dcuts (L.take m) R) = true ∧ dgetI x.1 (dcuts (L.take m) R) = x.2 := by
  have ht := h.takes m hm
  have hd : (L.drop m)[0]? = some x := by rw [List.getElem?_drop]; exact hx
  have hmem : x ∈ dcuts (L.take m) R := ht.lp.mem_iff.1 (List.mem_of_getElem? hd)
  have h1 : dhas x.1 (dcuts (L.take m) R) = true := (dhas_mem _ _).2 ⟨x, hmem, rfl⟩
  refine ⟨h1, ?_⟩
  have h2 := dget_mem h1
  have := ht.key (ht.lp.mem_iff.2 h2) (ht.lp.mem_iff.2 hmem) rfl
  rw [← this]
end Go.Proofs.Ythofimkjemhnoaa