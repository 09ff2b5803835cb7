/- Words for rows of elements of any width: what copy, append and clear do with a whole block; nothing of the program is named here. -/
import Derived.ArgAppend
import Derived.Lib.SliceRun
import Derived.Laws.IdiomCopy
import Derived.Laws.Externs
import Derived.Lib.AppendZerosOnto
import Derived.Lib.Overlaps
import Derived.Maps.AppendAt
import Derived.Shelf.Spec.SlicesInsert
namespace Go.Proofs.Ytllaajkpobpeiaa
open Go.RowKit
theorem setCells_blockR : ∀ (l : List Value) (w : World) (b o e : Nat) (fr : Nat × Nat) (cur : Array Value), w.heap[b]? = some (.cells cur e fr) → o + l.length ≤ cur.size →
    ∃ cur', (w.setCells b o l).heap[b]? = some (.cells cur' e fr) ∧ cur'.size = cur.size ∧ ∀ k, cur'[k]? = if o ≤ k ∧ k < o + l.length then l[k - o]? else cur[k]?
  | [], w, b, o, e, fr, cur, h, _ => ⟨cur, h, rfl, fun k => by rw [if_neg (by simp)]⟩
  | x :: l, w, b, o, e, fr, cur, h, hl => by
    simp only [List.length_cons] at hl
    have hh : (w.setCell ⟨b, o, none⟩ x).heap[b]? = some (.cells (cur.setIfInBounds o x) e fr) := by
      simp [World.setCell, Array.getElem?_modify, h]
    obtain ⟨cur', h1, h2, h3⟩ := setCells_blockR l _ b (o + 1) e fr _ hh (by simp; omega)
    refine ⟨cur', h1, by rw [h2]; simp, fun k => ?_⟩
    rw [h3 k]
    simp only [List.length_cons]
    by_cases hk : k = o
    · subst hk
      rw [if_neg (by omega), if_pos (by omega), Nat.sub_self, Array.getElem?_setIfInBounds_self]
      simp; omega
    · by_cases hk2 : o + 1 ≤ k ∧ k < o + 1 + l.length
      · rw [if_pos hk2, if_pos (by omega)]
        obtain ⟨j, hj⟩ : ∃ j, k - o = j + 1 := ⟨k - o - 1, by omega⟩
        rw [hj, show k - (o + 1) = j by omega, List.getElem?_cons_succ]
      · rw [if_neg hk2, if_neg (by omega), Array.getElem?_setIfInBounds_ne (by omega)]
theorem setCells_grownR : ∀ (l : List Value) {w0 w : World} (g o : Nat), w0.grownBy w (some g) → w0.grownBy (w.setCells g o l) (some g)
  | [], _, _, _, _, h => h
  | x :: l, _, w, g, o, h => setCells_grownR l g (o + 1) ⟨h.os, h.tape, h.output, by simp; exact h.size, fun k hk hne => by
      rw [← h.block k hk hne]
      have : k ≠ g := fun e => hne (by rw [e])
      simp [World.setCell, Array.getElem?_modify, Ne.symm this]⟩
theorem setCells_sizeR : ∀ (l : List Value) (w : World) (g o : Nat), (w.setCells g o l).heap.size = w.heap.size
  | [], _, _, _ => rfl
  | x :: l, w, g, o => by
    show ((w.setCell ⟨g, o, none⟩ x).setCells g (o + 1) l).heap.size = _
    rw [setCells_sizeR l]; simp
theorem add_plainR (b off j : Nat) : (⟨b, off, none⟩ : Addr).add j = ⟨b, off + j, none⟩ := by unfold Addr.add; split <;> simp_all
theorem grownr_refl (w : World) (r : Option Nat) : w.grownBy w r := ⟨rfl, rfl, rfl, Nat.le_refl _, fun _ _ _ => rfl⟩
theorem grownr_trans {a b c : World} {r : Option Nat} (h : a.grownBy b r) (k : b.grownBy c r) : a.grownBy c r :=
  ⟨k.os.trans h.os, k.tape.trans h.tape, k.output.trans h.output, Nat.le_trans h.size k.size, fun i hi hne => (k.block i (Nat.lt_of_lt_of_le hi h.size) hne).trans (h.block i hi hne)⟩
theorem grownr_undrew {w w' : World} {r : Option Nat} (h : w.drew.grownBy w' r) : w.grownBy w' r := ⟨h.os, h.tape, h.output, h.size, h.block⟩
theorem grownr_below {a b : World} (r : Option Nat) (h : Below a.heap.size a b) : a.grownBy b r := ⟨h.os, h.tape, h.output, h.size, fun k hk _ => h.block k hk⟩
theorem cells_sure {w : World} {b e o n : Nat} {cur : Array Value} (h : w.heap[b]? = some (.cells cur e (0, 0))) (hn : o + n ≤ cur.size) : ∀ j, j < n → (w.cell? ⟨b, o + j, none⟩).isSome = true := fun j hj => by
  rw [cell_of_row _ _ _ _ _ _ h, Array.getElem?_eq_getElem (by omega)]; rfl
/-- What the walk's laws on one store, with the cells of a block, come to. -/
theorem run_stores {P : Program} {w : World} {b e o : Nat} {cur : Array Value} (h : w.heap[b]? = some (.cells cur e (0, 0))) (l : List Value) (hl : o + l.length ≤ cur.size) (h1 : ∀ v ∈ l, v.oneCell' = true) :
    (storeCells ⟨b, o, none⟩ l 0).run P w = .ok () (w.setCells b o l) := by
  have := run_storeCells_cells (P := P) b o l 0 w (by rw [Nat.add_zero]; exact cells_sure h hl) (fun j _ => frozen_of_row _ _ _ _ _ h) h1
  rwa [Nat.add_zero] at this

/-- ALL IS READ BEFORE ANYTHING IS WRITTEN: copy over a part of a block. -/
theorem run_copy_rows {P : Program} (w : World) (dT sT ty elem s : Nat) (b o dLen dCap : Nat) (sp : Option Addr) (sLen sCap m e : Nat) (cs : List Value) (cur : Array Value)
    (hu : P.underlying dT = some (.slice elem)) (hs : (P.info? elem).map (·.size) = some s) (hm : Nat.min sLen dLen = m) (hn : cs.length = m * s) (hb : w.heap[b]? = some (.cells cur e (0, 0))) (hfit : o + cs.length ≤ cur.size)
    (hsrc : ∃ a, sp = some a ∧ ∀ j v, cs[j]? = some v → w.cell? (a.add j) = some v) (h1 : ∀ v ∈ cs, v.oneCell' = true) :
    (Builtin.copy_ #[dT, sT] ty #[.slice (some ⟨b, o, none⟩) dLen dCap, .slice sp sLen sCap]).run P w = .ok (goInt m) (w.setCells b o cs) := by
  obtain ⟨a, rfl, hsrc⟩ := hsrc
  have hl := run_loadCells_list (P := P) w a cs hsrc
  have hst := run_stores (P := P) hb cs hfit h1
  rw [hn] at hl
  cases hq : P.info? elem with
  | none => simp [hq] at hs
  | some i =>
    have hi : i.size = s := by simpa [hq] using hs
    simp [Builtin.copy_, run_underlying hu, Builtin.lenOf, Builtin.firstCells, sizeOf, typeInfo, hq, hi, hm, hl, hst]
/-- append in place, at the k'th element, where there is room: all is read before anything is written. -/
theorem run_append_room {P : Program} (w : World) (t ty elem s : Nat) (b k cap : Nat) (sp : Option Addr) (m c e : Nat) (cs : List Value) (cur : Array Value) (ht : P.underlying t = some (.slice elem)) (hs : (P.info? elem).map (·.size) = some s)
    (hk : k + m ≤ cap) (hn : cs.length = m * s) (hb : w.heap[b]? = some (.cells cur e (0, 0))) (hfit : k * s + cs.length ≤ cur.size)
    (hsrc : 0 < m → ∃ a, sp = some a ∧ ∀ j v, cs[j]? = some v → w.cell? (a.add j) = some v) (h1 : ∀ v ∈ cs, v.oneCell' = true) :
    (Builtin.append_ #[t, t] ty #[.slice (some ⟨b, 0, none⟩) k cap, .slice sp m c]).run P w = .ok (.slice (some ⟨b, 0, none⟩) (k + m) cap) (w.setCells b (k * s) cs) := by
  have hst := run_stores (P := P) (o := k * s) hb cs hfit h1
  cases hq : P.info? elem with
  | none => simp [hq] at hs
  | some i =>
    have hi : i.size = s := by simpa [hq] using hs
    rcases Nat.eq_zero_or_pos m with h0 | h0
    · subst h0
      obtain rfl : cs = [] := List.eq_nil_of_length_eq_zero (by omega)
      have hl : ∀ (x : Addr), (loadCells x 0).run P w = .ok #[] w := fun x => by simpa using run_loadCells_list (P := P) w x [] (by simp)
      have hk' : k ≤ cap := by omega
      cases sp <;> simp [Builtin.append_, run_underlying ht, sizeOf, typeInfo, hq, hi, Builtin.lenOf, Builtin.firstCells, hk', storeCells, World.setCells, hl]
    · obtain ⟨a, rfl, hsrc2⟩ := hsrc h0
      have hl := run_loadCells_list (P := P) w a cs hsrc2
      rw [hn] at hl
      simp [Builtin.append_, run_underlying ht, sizeOf, typeInfo, hq, hi, Builtin.lenOf, Builtin.firstCells, hk, hl, add_plainR, hst]
theorem zero_one (z : Array Value) : (Builtin.zeroCells z 1).toList = z.toList := by
  simp only [Builtin.zeroCells, Nat.one_mul]
  apply List.ext_getElem?
  intro i
  by_cases hi : i < z.size
  · simp [hi, Nat.mod_eq_of_lt hi, getElem!_pos]
  · have h1 : z.toList[i]? = none := List.getElem?_eq_none (by simp; omega)
    rw [h1]; simp; omega
theorem zero_size (z : Array Value) (n : Nat) : (Builtin.zeroCells z n).size = n * z.size := by simp [Builtin.zeroCells]
/-- One element is cleared. -/
theorem run_clear_one {P : Program} (w : World) (t ty elem : Nat) (z : Value) (b o c e : Nat) (cur : Array Value) (ht : P.underlying t = some (.slice elem)) (hv : ∀ w, (zeroValue elem).run P w = .ok z w) (hb : w.heap[b]? = some (.cells cur e (0, 0)))
    (hfit : o + z.cells.size ≤ cur.size) (h1 : ∀ v ∈ z.cells.toList, v.oneCell' = true) :
    (Builtin.clear_ #[t] ty #[.slice (some ⟨b, o, none⟩) 1 c]).run P w = .ok (.tuple #[]) (w.setCells b o z.cells.toList) := by
  have hst := run_stores (P := P) (o := o) hb z.cells.toList (by simpa using hfit) h1
  simp [Builtin.clear_, run_underlying ht, hv, zero_one, hst]

/-! ### The rows behind it -/
theorem own_some {w : World} {base e s n : Nat} {v : Value} {xs : List Value} (h : w.ownsRow base e s v n xs) (hn : 0 < n) :
    ∃ g cap cur, v = .slice (some ⟨g, 0, none⟩) n cap ∧ base ≤ g ∧ w.heap[g]? = some (.cells cur e (0, 0)) ∧ n ≤ cap ∧ cap ≤ maxLen ∧ cur.size = cap * s ∧ xs.length = n * s ∧ ∀ k, k < n * s → cur[k]? = xs[k]? := by
  rcases h.2 with ⟨_, h0⟩ | ⟨g, cap, cur, rfl, hb, hg, hnc, hm, hs, ht⟩
  · omega
  · refine ⟨g, cap, cur, rfl, hb, hg, hnc, hm, hs, h.1, fun k hk => ?_⟩
    rw [← ht, List.getElem?_take, if_pos hk]; simp
theorem own_mk {w : World} {base e s n g cap : Nat} {cur : Array Value} {xs : List Value} (hb : base ≤ g) (hg : w.heap[g]? = some (.cells cur e (0, 0))) (hnc : n ≤ cap) (hm : cap ≤ maxLen) (hs : cur.size = cap * s) (hl : xs.length = n * s) (hx : ∀ k, k < n * s → cur[k]? = xs[k]?) :
    w.ownsRow base e s (.slice (some ⟨g, 0, none⟩) n cap) n xs := by
  refine ⟨hl, .inr ⟨g, cap, cur, rfl, hb, hg, hnc, hm, hs, ?_⟩⟩
  apply List.ext_getElem?
  intro k
  rw [List.getElem?_take]
  split
  · rw [← hx k (by assumption)]; simp
  · rw [List.getElem?_eq_none (by omega)]
/-- The list behind an insertion: its k'th. -/
theorem ins_at (xs news : List Value) (a : Nat) (ha : a ≤ xs.length) (k : Nat) : (xs.take a ++ news ++ xs.drop a)[k]? = if k < a then xs[k]? else if k < a + news.length then news[k - a]? else xs[k - news.length]? := by
  have hta : (xs.take a).length = a := by rw [List.length_take]; omega
  by_cases h1 : k < a
  · rw [if_pos h1, List.append_assoc, List.getElem?_append_left (by omega), List.getElem?_take, if_pos h1]
  · rw [if_neg h1]
    by_cases h2 : k < a + news.length
    · rw [if_pos h2, List.getElem?_append_left (by simp; omega), List.getElem?_append_right (by omega), hta]
    · rw [if_neg h2, List.getElem?_append_right (by simp; omega), List.getElem?_drop]
      congr 1
      simp [hta]; omega
theorem ins_len (xs news : List Value) (a : Nat) : (xs.take a ++ news ++ xs.drop a).length = xs.length + news.length := by
  simp; omega
/-- Room, and not at the end: in place. -/
theorem own_shift {w : World} {base e s n i g cap : Nat} {cur : Array Value} {xs news : List Value} (hb : base ≤ g) (hg : w.heap[g]? = some (.cells cur e (0, 0))) (hnc : n + 1 ≤ cap) (hm : cap ≤ maxLen) (hs : cur.size = cap * s) (hl : xs.length = n * s) (hx : ∀ k, k < n * s → cur[k]? = xs[k]?)
    (hi : i ≤ n) (hn : news.length = s) :
    ((w.setCells g ((i + 1) * s) (xs.drop (i * s))).setCells g (i * s) news).ownsRow base e s (.slice (some ⟨g, 0, none⟩) (n + 1) cap) (n + 1) (xs.take (i * s) ++ news ++ xs.drop (i * s)) ∧
    w.grownBy ((w.setCells g ((i + 1) * s) (xs.drop (i * s))).setCells g (i * s) news) (some g) := by
  refine ⟨?_, setCells_grownR _ _ _ (setCells_grownR _ _ _ (grownr_refl w _))⟩
  have hcap : (n + 1) * s ≤ cap * s := Nat.mul_le_mul_right s hnc
  have hin : i * s ≤ n * s := Nat.mul_le_mul_right s hi
  have e1 : (i + 1) * s = i * s + s := Nat.succ_mul i s
  have e2 : (n + 1) * s = n * s + s := Nat.succ_mul n s
  have hd : (xs.drop (i * s)).length = n * s - i * s := by rw [List.length_drop, hl]
  obtain ⟨c1, k1, k2, k3⟩ := setCells_blockR (xs.drop (i * s)) w g ((i + 1) * s) e (0, 0) cur hg (by rw [hd]; omega)
  obtain ⟨c2, l1, l2, l3⟩ := setCells_blockR news _ g (i * s) e (0, 0) c1 k1 (by omega)
  refine own_mk hb l1 hnc hm (by omega) (by rw [ins_len]; omega) fun k hk => ?_
  rw [l3, k3, ins_at _ _ _ (by omega), hd, hn]
  by_cases h1 : k < i * s
  · rw [if_pos h1, if_neg (by omega), if_neg (by omega), hx k (by omega)]
  · rw [if_neg h1]
    by_cases h2 : k < i * s + s
    · rw [if_pos h2, if_pos (by omega)]
    · rw [if_neg h2, if_neg (by omega), if_pos (by omega), List.getElem?_drop]
      congr 1; omega
/-- No room, and not at the end: a new row. -/
theorem own_moved {w : World} {base e s n i H cap : Nat} {row : Array Value} {xs news : List Value} (hb : base ≤ H) (hg : w.heap[H]? = some (.cells row e (0, 0))) (hnc : n + 1 ≤ cap) (hm : cap ≤ maxLen) (hs : row.size = cap * s) (hl : xs.length = n * s) (hx : ∀ k, k < i * s → row[k]? = xs[k]?)
    (hi : i ≤ n) (hn : news.length = s) :
    ((w.setCells H (i * s) news).setCells H ((i + 1) * s) (xs.drop (i * s))).ownsRow base e s (.slice (some ⟨H, 0, none⟩) (n + 1) cap) (n + 1) (xs.take (i * s) ++ news ++ xs.drop (i * s)) := by
  have hcap : (n + 1) * s ≤ cap * s := Nat.mul_le_mul_right s hnc
  have hin : i * s ≤ n * s := Nat.mul_le_mul_right s hi
  have e1 : (i + 1) * s = i * s + s := Nat.succ_mul i s
  have e2 : (n + 1) * s = n * s + s := Nat.succ_mul n s
  have hd : (xs.drop (i * s)).length = n * s - i * s := by rw [List.length_drop, hl]
  obtain ⟨c1, k1, k2, k3⟩ := setCells_blockR news w H (i * s) e (0, 0) row hg (by omega)
  obtain ⟨c2, l1, l2, l3⟩ := setCells_blockR (xs.drop (i * s)) _ H ((i + 1) * s) e (0, 0) c1 k1 (by rw [hd]; omega)
  refine own_mk hb l1 hnc hm (by omega) (by rw [ins_len]; omega) fun k hk => ?_
  rw [l3, k3, ins_at _ _ _ (by omega), hd, hn]
  by_cases h1 : k < i * s
  · rw [if_pos h1, if_neg (by omega), if_neg (by omega), hx k h1]
  · rw [if_neg h1]
    by_cases h2 : k < i * s + s
    · rw [if_pos h2, if_neg (by omega), if_pos (by omega)]
    · rw [if_neg h2, if_pos (by omega), List.getElem?_drop]
      congr 1; omega
/-- One element goes: what was behind it moves up, and the last place is cleared. -/
theorem own_gone {w : World} {base e s n i g cap : Nat} {cur : Array Value} {xs zs : List Value} (hb : base ≤ g) (hg : w.heap[g]? = some (.cells cur e (0, 0))) (hnc : n + 1 ≤ cap) (hm : cap ≤ maxLen) (hs : cur.size = cap * s) (hl : xs.length = (n + 1) * s) (hx : ∀ k, k < (n + 1) * s → cur[k]? = xs[k]?)
    (hi : i ≤ n) (hz : zs.length = s) :
    ((w.setCells g (i * s) (xs.drop ((i + 1) * s))).setCells g (n * s) zs).ownsRow base e s (.slice (some ⟨g, 0, none⟩) n cap) n (xs.take (i * s) ++ xs.drop ((i + 1) * s)) ∧
    w.grownBy ((w.setCells g (i * s) (xs.drop ((i + 1) * s))).setCells g (n * s) zs) (some g) := by
  refine ⟨?_, setCells_grownR _ _ _ (setCells_grownR _ _ _ (grownr_refl w _))⟩
  have hcap : (n + 1) * s ≤ cap * s := Nat.mul_le_mul_right s hnc
  have hin : i * s ≤ n * s := Nat.mul_le_mul_right s hi
  have e1 : (i + 1) * s = i * s + s := Nat.succ_mul i s
  have e2 : (n + 1) * s = n * s + s := Nat.succ_mul n s
  have hd : (xs.drop ((i + 1) * s)).length = n * s - i * s := by rw [List.length_drop, hl]; omega
  have hta : (xs.take (i * s)).length = i * s := by rw [List.length_take]; omega
  obtain ⟨c1, k1, k2, k3⟩ := setCells_blockR (xs.drop ((i + 1) * s)) w g (i * s) e (0, 0) cur hg (by rw [hd]; omega)
  obtain ⟨c2, l1, l2, l3⟩ := setCells_blockR zs _ g (n * s) e (0, 0) c1 k1 (by omega)
  refine own_mk hb l1 (by omega) hm (by omega) (by rw [List.length_append, hta, hd]; omega) fun k hk => ?_
  rw [l3, k3, hd, hz]
  by_cases h1 : k < i * s
  · rw [if_neg (by omega), if_neg (by omega), hx k (by omega), List.getElem?_append_left (by omega), List.getElem?_take, if_pos h1]
  · rw [if_neg (by omega), if_pos (by omega), List.getElem?_append_right (by omega), hta]
/-- A cell of a row. -/
theorem own_cell {w : World} {base e s n g cap : Nat} {xs : List Value} (h : w.ownsRow base e s (.slice (some ⟨g, 0, none⟩) n cap) n xs) {k : Nat} (hk : k < n * s) : w.cell? ⟨g, k, none⟩ = xs[k]? := by
  have h1 := h.1
  rw [World.ownsRow.cellAt h k (by omega)]
end Go.Proofs.Ytllaajkpobpeiaa