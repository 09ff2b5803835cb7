/- Tables as a statement holds them; what must be whatever is asked. -/
import Derived.Test.YthofimkjemhnoaaPBTSe
namespace Go.Proofs.Ythofimkjemhnoaa
open Go.RowKit
set_option linter.unusedSimpArgs false
set_option linter.unusedVariables false
theorem plcI_lt {ν : Type} (q : Int) : ∀ (ls : List (Int × ν)) (i : Nat) (x : Int × ν), i < plcI q ls → ls[i]? = some x → x.1 < q
  | [], i, x, _, h => by simp at h
  | y :: ls, i, x, hi, h => by
    unfold plcI at hi
    by_cases hy : y.1 < q
    · rw [if_pos hy] at hi
      cases i with
      | zero => simp only [List.getElem?_cons_zero, Option.some.injEq] at h; subst h; exact hy
      | succ i => exact plcI_lt q ls i x (by omega) (by simpa using h)
    · rw [if_neg hy] at hi; omega
theorem plcI_stop {ν : Type} (q : Int) : ∀ (ls : List (Int × ν)) (x : Int × ν), ls[plcI q ls]? = some x → q ≤ x.1
  | [], x, h => by simp at h
  | y :: ls, x, h => by
    unfold plcI at h
    by_cases hy : y.1 < q
    · rw [if_pos hy] at h; exact plcI_stop q ls x (by simpa using h)
    · rw [if_neg hy] at h; simp only [List.getElem?_cons_zero, Option.some.injEq] at h; subst h; omega
theorem rise_iff {ν : Type} {ls : List (Int × ν)} : Rise ls ↔ ls.Pairwise (fun x y => x.1 < y.1) := by
  rw [List.pairwise_iff_getElem]
  refine ⟨fun h i j hi hj hij => h i j _ _ hij (List.getElem?_eq_getElem hi) (List.getElem?_eq_getElem hj), fun h i j x y hij hx hy => ?_⟩
  obtain ⟨hi, rfl⟩ := List.getElem?_eq_some_iff.1 hx
  obtain ⟨hj, rfl⟩ := List.getElem?_eq_some_iff.1 hy
  exact h i j hi hj hij
theorem rise_nil {ν : Type} : Rise ([] : List (Int × ν)) := rise_iff.2 .nil
theorem rise_put {ν : Type} (k : Int) (v : ν) (ls : List (Int × ν)) (h : Rise ls) : Rise (putI k v ls) := by
  unfold putI
  split
  · rename_i hh
    obtain ⟨x, hx, hk⟩ := hasI_at hh
    intro i j a b hij ha hb
    rw [List.getElem?_set] at ha hb
    have key : ∀ i a, (if plcI k ls = i then if plcI k ls < ls.length then some (k, v) else none else ls[i]?) = some a → ∃ c, ls[i]? = some c ∧ c.1 = a.1 := fun i a ha => by
      by_cases e : plcI k ls = i
      · rw [if_pos e] at ha
        split at ha
        · cases ha; exact ⟨x, by rw [← e]; exact hx, hk⟩
        · cases ha
      · rw [if_neg e] at ha; exact ⟨a, ha, rfl⟩
    obtain ⟨c, hc, e1⟩ := key i a ha
    obtain ⟨c', hc', e2⟩ := key j b hb
    have := h i j c c' hij hc hc'
    omega
  · rename_i hh
    have hp := rise_iff.1 h
    have h1 : ∀ x ∈ ls.take (plcI k ls), x.1 < k := fun x hx => by
      obtain ⟨i, hi, e⟩ := List.mem_iff_getElem.1 hx
      rw [List.getElem_take] at e
      exact plcI_lt k ls i x (by simp at hi; omega) (by rw [← e]; exact List.getElem?_eq_getElem _)
    have h2 : ∀ x ∈ ls.drop (plcI k ls), k < x.1 := fun x hx => by
      obtain ⟨i, hi, e⟩ := List.mem_iff_getElem.1 hx
      rw [List.getElem_drop] at e
      have hx2 : ls[plcI k ls + i]? = some x := by rw [← e]; exact List.getElem?_eq_getElem _
      have hlt : plcI k ls < ls.length := by have := (List.getElem?_eq_some_iff.1 hx2).1; omega
      have hq := plcI_stop k ls _ (List.getElem?_eq_getElem hlt)
      have hne : ls[plcI k ls].1 ≠ k := fun e => hh (by rw [hasI_some rfl (List.getElem?_eq_getElem hlt)]; simpa using e)
      rcases Nat.eq_zero_or_pos i with h0 | h0
      · subst h0
        have : ls[plcI k ls] = x := e
        rw [← this]; omega
      · have := h (plcI k ls) (plcI k ls + i) _ x (by omega) (List.getElem?_eq_getElem hlt) hx2
        omega
    rw [rise_iff, List.pairwise_append, List.pairwise_append]
    refine ⟨⟨hp.sublist (List.take_sublist _ _), List.pairwise_singleton _ _, fun a ha b hb => ?_⟩, hp.sublist (List.drop_sublist _ _), fun a ha b hb => ?_⟩
    · simp only [List.mem_singleton] at hb; subst hb; exact h1 a ha
    · have := h2 b hb
      rcases List.mem_append.1 ha with ha | ha
      · have := h1 a ha; omega
      · simp only [List.mem_singleton] at ha; subst ha; exact this
theorem putI_le {ν : Type} (k : Int) (v : ν) (ls : List (Int × ν)) : (putI k v ls).length ≤ ls.length + 1 := by
  have := plcI_le k ls
  unfold putI; split <;> simp <;> omega
theorem own_less {w : World} {base base' e s n : Nat} {v : Value} {xs : List Value} (h : w.ownsRow base e s v n xs) (hb : base' ≤ base) : w.ownsRow base' e s v n xs :=
  ⟨h.1, h.2.imp (fun h => h) fun ⟨g, cap, cur, e1, h1, h2⟩ => ⟨g, cap, cur, e1, Nat.le_trans hb h1, h2⟩⟩
/-- A table that was made behind w0; nothing that was there has turned. -/
structure TabAt (tb tr : Nat) (w0 : World) (g n : Nat) (cs : List Value) (w : World) : Prop where
  tab : ∃ v, Sh tb tr w w0.heap.size g n cs v
  at_ : w0.heap.size ≤ g
  below : Below w0.heap.size w0 w
theorem TabAt.step {tb tr : Nat} {w0 w w' : World} {g n : Nat} {cs : List Value} (h : TabAt tb tr w0 g n cs w) (hb : Below w.heap.size w w') : TabAt tb tr w0 g n cs w' := by
  obtain ⟨⟨v, hv⟩, h1, h2⟩ := h
  exact ⟨⟨v, hv.below hb⟩, h1, kF hb h2⟩
/-- What is no row of this kind, and not the table itself, is as it was. -/
def Kept (tr : Nat) (w w' : World) (g : Nat) : Prop := w.heap.size ≤ w'.heap.size ∧ ∀ k cs t fr, w.heap[k]? = some (.cells cs t fr) → t ≠ tr → k ≠ g → w'.heap[k]? = w.heap[k]?
theorem Tch.kept {tb tr : Nat} {w w' : World} {base g n : Nat} {cs : List Value} {v : Value} (h : Tch w w' g v) (hv : Sh tb tr w base g n cs v) : Kept tr w w' g := ⟨h.size, fun k cs t fr hk ht hg => by
  refine h.block k (Array.getElem?_eq_some_iff.1 hk).1 hg fun e => ?_
  rcases hv.row.2 with ⟨rfl, _⟩ | ⟨b, cap, cur, rfl, _, hb, _⟩
  · cases e
  · cases e; rw [hk] at hb; cases hb; exact ht rfl⟩
theorem Kept.of_below {tr : Nat} {w w' : World} {g : Nat} (h : Below w.heap.size w w') : Kept tr w w' g := ⟨h.size, fun k _ _ _ hk _ _ => h.block k (Array.getElem?_eq_some_iff.1 hk).1⟩
theorem tab_putA (w0 w : World) (g : Nat) (ls : List (Int × Int)) (k : Int) (u : Int) (h : TabAt 90 98 w0 g ls.length (fl eI eI ls) w) (hn : ls.length ≤ 1000) (hs : Rise ls) :
    Calls Try.prog 47 #[.pointer (some ⟨g, 0, none⟩), .int .i64 k, .int .i64 u] w fun e w' => e = .returned (.bool (hasI k ls)) ∧ TabAt 90 98 w0 g (putI k u ls).length (fl eI eI (putI k u ls)) w' ∧ Kept 98 w w' g := by
  obtain ⟨⟨v, hv⟩, h1, h2⟩ := h
  refine (putA w w0.heap.size g ls v k u hv h2.size hn hs).mono ?_
  rintro e w' ⟨rfl, ⟨v', hx, hob⟩, ht⟩
  exact ⟨rfl, ⟨⟨v', hx⟩, h1, h2.trans (ht.below h2.size h1 fun b hb => (hv.row.lt b hb).1)⟩, ht.kept hv⟩
theorem tab_placeA (w0 w : World) (g : Nat) (ls : List (Int × Int)) (k : Int) (h : TabAt 90 98 w0 g ls.length (fl eI eI ls) w) (hn : ls.length ≤ 1000) (hs : Rise ls) :
    Calls Try.prog 51 #[.pointer (some ⟨g, 0, none⟩), .int .i64 k] w fun e w' => e = .returned (.tuple #[.int .i64 (plcI k ls : Nat), .bool (hasI k ls)]) ∧ TabAt 90 98 w0 g ls.length (fl eI eI ls) w' ∧ Kept 98 w w' g := by
  obtain ⟨v, hv⟩ := h.tab
  refine (placeA w w0.heap.size g ls v k hv (by omega) hs).mono ?_
  rintro e w' ⟨rfl, hb⟩
  exact ⟨rfl, h.step hb, .of_below hb⟩
theorem tab_getA (w0 w : World) (g : Nat) (ls : List (Int × Int)) (k : Int) (h : TabAt 90 98 w0 g ls.length (fl eI eI ls) w) (hn : ls.length ≤ 1000) (hs : Rise ls) :
    Calls Try.prog 49 #[.pointer (some ⟨g, 0, none⟩), .int .i64 k] w fun e w' => e = .returned (.tuple #[.int .i64 (thI 0 k ls), .bool (hasI k ls)]) ∧ TabAt 90 98 w0 g ls.length (fl eI eI ls) w' ∧ Kept 98 w w' g := by
  obtain ⟨v, hv⟩ := h.tab
  refine (getA w w0.heap.size g ls v k hv (by omega) hs).mono ?_
  rintro e w' ⟨rfl, hb⟩
  exact ⟨rfl, h.step hb, .of_below hb⟩
theorem tab_newA (w0 w : World) (h : Below w0.heap.size w0 w) : Calls Try.prog 38 #[] w fun e w' => e = .returned (.pointer (some ⟨w.heap.size, 0, none⟩)) ∧ TabAt 90 98 w0 w.heap.size 0 [] w' ∧ Below w.heap.size w w' := by
  refine (newA w).mono ?_
  rintro e w' ⟨rfl, hx, hb⟩
  exact ⟨rfl, ⟨⟨_, ⟨hx.box, own_less hx.row (by have := h.size; omega), hx.isnt⟩⟩, h.size, kF hb h⟩, hb⟩
end Go.Proofs.Ythofimkjemhnoaa