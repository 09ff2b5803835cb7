/- Words for rows that grow at their end and lose their first cell: nothing of the program is named here. -/
import Derived.Test.YtncnlbokipieaaaEKDRl
import Derived.ArgAppend
import Derived.Lib.SliceRun
namespace Go.Proofs.Ytncnlbokipieaaa
open Go.RowKit
theorem grown_of_below {w w' : World} {row : Option Nat} (h : Below w.heap.size w w') : w.grownBy w' row := ⟨h.os, h.tape, h.output, h.size, fun k hk _ => h.block k hk⟩
theorem grown_then {a b c : World} {row : Option Nat} (h : a.grownBy b row) (k : b.grownBy c row) : a.grownBy c row :=
  ⟨k.os.trans h.os, k.tape.trans h.tape, k.output.trans h.output, Nat.le_trans h.size k.size, fun i hi h1 => (k.block i (Nat.lt_of_lt_of_le hi h.size) h1).trans (h.block i hi h1)⟩
theorem grown_any {a b : World} {row : Option Nat} (h : a.grownBy b none) : a.grownBy b row := ⟨h.os, h.tape, h.output, h.size, fun k hk _ => h.block k hk (by simp)⟩

def blk (A : Option Addr) : Option Nat := A.map (·.block)
theorem blk_own (A : Option Addr) (n c : Nat) : (Value.slice A n c).ownBlock = blk A := by cases A <;> rfl

/-- The slice '.slice A n c' holds vs in a block of the call's own, from base on; it may begin within that block. -/
structure Qs (w : World) (base e : Nat) (A : Option Addr) (n c : Nat) (vs : List Value) : Prop where
  len : vs.length = n
  one : ∀ v ∈ vs, v.oneCell' = true
  cap : n ≤ c
  max : c ≤ maxLen
  lies : (A = none ∧ c = 0) ∨ ∃ b off cur, A = some ⟨b, off, none⟩ ∧ base ≤ b ∧ w.heap[b]? = some (.cells cur e (0, 0)) ∧ off + c ≤ cur.size ∧ ∀ j, j < n → cur[off + j]? = vs[j]?
section
variable {w w' : World} {base base' e n c : Nat} {A : Option Addr} {vs : List Value}
theorem Qs.keep (h : Qs w base e A n c vs) (hk : ∀ b, blk A = some b → w'.heap[b]? = w.heap[b]?) : Qs w' base e A n c vs :=
  ⟨h.len, h.one, h.cap, h.max, h.lies.imp id fun ⟨b, off, cur, e1, h1, h2, h3, h4⟩ => ⟨b, off, cur, e1, h1, (hk b (by rw [e1]; rfl)).trans h2, h3, h4⟩⟩
theorem Qs.less (h : Qs w base e A n c vs) (hb : base' ≤ base) : Qs w base' e A n c vs :=
  ⟨h.len, h.one, h.cap, h.max, h.lies.imp id fun ⟨b, off, cur, e1, h1, h2, h3, h4⟩ => ⟨b, off, cur, e1, Nat.le_trans hb h1, h2, h3, h4⟩⟩
theorem Qs.lt (h : Qs w base e A n c vs) {b : Nat} (hb : blk A = some b) : base ≤ b ∧ b < w.heap.size := by
  rcases h.lies with ⟨rfl, _⟩ | ⟨b', off, cur, rfl, h1, h2, _⟩
  · cases hb
  · cases hb; exact ⟨h1, (Array.getElem?_eq_some_iff.1 h2).1⟩
theorem Qs.below (h : Qs w base e A n c vs) (hb : Below w.heap.size w w') : Qs w' base e A n c vs := h.keep fun b hb' => hb.block b (h.lt hb').2
theorem Qs.grown {row : Option Nat} (h : Qs w base e A n c vs) (hg : w.grownBy w' row) (hne : blk A = none ∨ blk A ≠ row) : Qs w' base e A n c vs :=
  h.keep fun b hb => hg.block b (h.lt hb).2 (fun e1 => by rcases hne with h1 | h1; · rw [h1] at hb; cases hb
                                                          · exact h1 (hb.trans e1))
theorem Qs.nil_ (w : World) (base e : Nat) : Qs w base e none 0 0 [] := ⟨rfl, by simp, Nat.le_refl _, by simp [maxLen], .inl ⟨rfl, rfl⟩⟩
theorem Qs.cell (h : Qs w base e A n c vs) {b off : Nat} (hA : A = some ⟨b, off, none⟩) {j : Nat} (hj : j < n) : w.cell? ⟨b, off + j, none⟩ = vs[j]? := by
  rcases h.lies with ⟨rfl, _⟩ | ⟨b', off', cur, rfl, h1, h2, h3, h4⟩
  · cases hA
  · cases hA
    rw [cell_of_row _ _ _ _ _ _ h2, h4 j hj]
theorem Qs.frozen (h : Qs w base e A n c vs) {b off : Nat} (hA : A = some ⟨b, off, none⟩) (o : Nat) : w.frozen? ⟨b, o, none⟩ = false := by
  rcases h.lies with ⟨rfl, _⟩ | ⟨b', off', cur, rfl, h1, h2, h3, h4⟩
  · cases hA
  · cases hA
    exact frozen_of_row _ _ _ _ _ h2
/-- Where something stands there is an address. -/
theorem Qs.addr (h : Qs w base e A n c vs) (hn : 0 < c) : ∃ b off, A = some ⟨b, off, none⟩ := by
  rcases h.lies with ⟨_, h0⟩ | ⟨b, off, cur, rfl, _⟩
  · omega
  · exact ⟨b, off, rfl⟩
theorem Qs.at_ (h : Qs w base e A n c vs) (hn : 0 < n) : ∃ b, blk A = some b ∧ base ≤ b := by
  obtain ⟨b, off, rfl⟩ := h.addr (by have := h.cap; omega)
  exact ⟨b, rfl, (h.lt rfl).1⟩
theorem Qs.of_own {v : Value} {xs : List Value} (h : w.ownsRow base e 1 v n xs) (h1 : ∀ u ∈ xs, u.oneCell' = true) : ∃ A c, v = .slice A n c ∧ Qs w base e A n c xs := by
  have hl : xs.length = n := by have := h.1; omega
  rcases h.2 with ⟨rfl, h0⟩ | ⟨g, cap, cur, rfl, hb, hg, hnc, hm, hs, ht⟩
  · subst h0
    obtain rfl := List.eq_nil_of_length_eq_zero hl
    exact ⟨none, 0, rfl, Qs.nil_ _ _ _⟩
  · refine ⟨_, _, rfl, hl, h1, hnc, hm, .inr ⟨g, 0, cur, rfl, hb, hg, by omega, fun j hj => ?_⟩⟩
    rw [← ht, Nat.zero_add, List.getElem?_take, if_pos (by omega)]
    simp

/-- The first cell goes: it is cleared, and the slice begins behind it. -/
theorem Qs.tail {v : Value} {b off : Nat} (h : Qs w base e (some ⟨b, off, none⟩) (n + 1) c (v :: vs)) (z : Value) :
    Qs (w.setCell ⟨b, off, none⟩ z) base e (if c = 1 then some ⟨b, off, none⟩ else some ⟨b, off + 1, none⟩) n (c - 1) vs := by
  have hc := h.cap
  have hm := h.max
  have hl := h.len
  simp only [List.length_cons] at hl
  refine ⟨by omega, fun u hu => h.one u (by simp [hu]), by omega, by omega, ?_⟩
  rcases h.lies with ⟨h0, _⟩ | ⟨b', off', cur, e1, h1, h2, h3, h4⟩
  · cases h0
  · cases e1
    have hh : (w.setCell ⟨b, off, none⟩ z).heap[b]? = some (.cells (cur.setIfInBounds off z) e (0, 0)) := by
      simp [World.setCell, Array.getElem?_modify, h2]
    by_cases hc1 : c = 1
    · rw [if_pos hc1]
      exact .inr ⟨b, off, _, rfl, h1, hh, by simp; omega, fun j hj => by omega⟩
    · rw [if_neg hc1]
      refine .inr ⟨b, off + 1, _, rfl, h1, hh, by simp; omega, fun j hj => ?_⟩
      have := h4 (j + 1) (by omega)
      simp only [List.getElem?_cons_succ] at this
      rw [← this, Array.getElem?_setIfInBounds_ne (by omega)]
      congr 1; omega
end
/-- What is read to be appended: m cells from X on. -/
def Src (w : World) (X : Option Addr) (m : Nat) (news : List Value) : Prop :=
  news.length = m ∧ (∀ u ∈ news, u.oneCell' = true) ∧ (0 < m → ∃ ad : Addr, X = some ad ∧ ∀ j u, news[j]? = some u → w.cell? (ad.add j) = some u)
theorem add_plain' (b off j : Nat) : (⟨b, off, none⟩ : Addr).add j = ⟨b, off + j, none⟩ := by unfold Addr.add; split <;> simp_all
theorem Src.of_nums {w : World} {B n c m : Nat} {X : Option Addr} {l : List Int} (h : Nums w B X n c l) (hm : m ≤ n) : Src w X m ((l.take m).map (Value.int .i64)) := by
  have hl := h.len
  refine ⟨by simp; omega, ints_oneCell _ _, fun h0 => ?_⟩
  obtain ⟨b, off, rfl, _, hc⟩ := h.cells (by omega)
  refine ⟨_, rfl, fun j u hu => ?_⟩
  have hj : j < m := by
    rcases Nat.lt_or_ge j m with h1 | h1
    · exact h1
    · rw [List.getElem?_eq_none (by simp; omega)] at hu; cases hu
  rw [add_plain', hc j (by omega)]
  rw [List.getElem?_map, List.getElem?_take, if_pos hj, List.getElem?_eq_getElem (by omega)] at hu
  simp only [Option.map_some, Option.some.injEq] at hu
  subst hu
  simp [List.getD, List.getElem?_eq_getElem (show j < l.length by omega)]
theorem Src.of_qs {w : World} {base e n c : Nat} {A : Option Addr} {vs : List Value} (h : Qs w base e A n c vs) : Src w A n vs := by
  refine ⟨h.len, h.one, fun h0 => ?_⟩
  obtain ⟨b, off, rfl⟩ := h.addr (by have := h.cap; omega)
  refine ⟨_, rfl, fun j u hu => ?_⟩
  have hj : j < n := by
    rcases Nat.lt_or_ge j n with h1 | h1
    · exact h1
    · rw [List.getElem?_eq_none (by rw [h.len]; omega)] at hu; cases hu
  rw [add_plain', h.cell rfl hj, hu]

theorem setCells_grown' : ∀ (l : List Value) {w0 w : World} (g o : Nat), w0.grownBy w (some g) → w0.grownBy (w.setCells g o l) (some g)
  | [], _, _, _, _, h => h
  | x :: l, _, w, g, o, h => setCells_grown' l g (o + 1) ⟨h.os, h.tape, h.output, by simp; exact h.size, fun k hk hne => by
      rw [← h.block k hk hne]
      have : k ≠ g := fun e => hne (by rw [e])
      simp [World.setCell, Array.getElem?_modify, Ne.symm this]⟩
/-- What a block holds behind some stores. -/
theorem setCells_block : ∀ (l : List Value) (w : World) (b o e : Nat) (fr : Nat × Nat) (cur : Array Value), w.heap[b]? = some (.cells cur e fr) → o + l.length ≤ cur.size →
    ∃ cur', (w.setCells b o l).heap[b]? = some (.cells cur' e fr) ∧ cur'.size = cur.size ∧ ∀ k, cur'[k]? = if o ≤ k ∧ k < o + l.length then l[k - o]? else cur[k]?
  | [], w, b, o, e, fr, cur, h, _ => ⟨cur, h, rfl, fun k => by rw [if_neg (by simp)]⟩
  | x :: l, w, b, o, e, fr, cur, h, hl => by
    simp only [List.length_cons] at hl
    have hh : (w.setCell ⟨b, o, none⟩ x).heap[b]? = some (.cells (cur.setIfInBounds o x) e fr) := by
      simp [World.setCell, Array.getElem?_modify, h]
    obtain ⟨cur', h1, h2, h3⟩ := setCells_block l _ b (o + 1) e fr _ hh (by simp; omega)
    refine ⟨cur', h1, by rw [h2]; simp, fun k => ?_⟩
    rw [h3 k]
    simp only [List.length_cons]
    by_cases hk : k = o
    · subst hk
      rw [if_neg (by omega), if_pos (by omega), Nat.sub_self, Array.getElem?_setIfInBounds_self]
      simp; omega
    · by_cases hk2 : o + 1 ≤ k ∧ k < o + 1 + l.length
      · rw [if_pos hk2, if_pos (by omega)]
        obtain ⟨j, hj⟩ : ∃ j, k - o = j + 1 := ⟨k - o - 1, by omega⟩
        rw [hj, show k - (o + 1) = j by omega, List.getElem?_cons_succ]
      · rw [if_neg hk2, if_neg (by omega), Array.getElem?_setIfInBounds_ne (by omega)]

theorem run_append_q {P : Program} (w : World) (t ty e : TypeId) (i : TypeInfo) (z : Value) (bytes : Nat) (ht : P.underlying t = some (.slice e)) (hi : P.info? e = some i) (hz : i.zero = some z) (hsize : i.size = 1) (hby : i.bytes = bytes) (hzs : z.cells.size = 1)
    {base n c : Nat} {A : Option Addr} {vs : List Value} (h : Qs w base e A n c vs) (hb : base ≤ w.heap.size) {X : Option Addr} {m : Nat} (cx : Nat) {news : List Value} (hX : Src w X m news) (b1 : n + m ≤ maxLen) (b2 : (n + m) * bytes ≤ 140737488355328) :
    ∃ A' c' w', (Builtin.append_ #[t, t] ty #[.slice A n c, .slice X m cx]).run P w = .ok (.slice A' (n + m) c') w' ∧ Qs w' base e A' (n + m) c' (vs ++ news) ∧ w.grownBy w' (blk A) ∧ (blk A' = blk A ∨ ∃ b, blk A' = some b ∧ w.heap.size ≤ b) := by
  obtain ⟨hl, h1c, hsrc⟩ := hX
  have hcap := h.cap
  have hmax := h.max
  rcases Nat.eq_zero_or_pos m with h0 | h0
  · subst h0
    obtain rfl := List.eq_nil_of_length_eq_zero hl
    refine ⟨A, c, w, ?_, by simpa using h, World.grownBy.refl _ _, .inl rfl⟩
    cases X with
    | none =>
      rcases h.lies with ⟨rfl, _⟩ | ⟨b, off, cur, rfl, _⟩ <;>
      simp [Builtin.append_, run_underlying ht, sizeOf, typeInfo, hi, Builtin.lenOf, Builtin.firstCells, hcap, storeCells]
    | some ad =>
      have hfc := run_firstCells_some (P := P) w i.size 0 ad 0 cx [] (by simp) (by simp)
      rcases h.lies with ⟨rfl, _⟩ | ⟨b, off, cur, rfl, _⟩ <;>
      simp [Builtin.append_, run_underlying ht, sizeOf, typeInfo, hi, Builtin.lenOf, hcap, hfc, storeCells]
  · obtain ⟨ad, rfl, hnews⟩ := hsrc h0
    by_cases hroom : n + m ≤ c
    · rcases h.lies with ⟨_, hc0⟩ | ⟨b, off, cur, rfl, h1, h2, h3, h4⟩
      · omega
      · have hrun := run_append_room_cells (P := P) w t ty e i ht hi b off n c ad m cx news (by rw [hsize]; omega) hnews h1c hroom
          (fun j hj => by rw [cell_of_row _ _ _ _ _ _ h2, hsize]; simp; omega) (fun j _ => frozen_of_row _ _ _ _ _ h2)
        rw [hsize, Nat.mul_one] at hrun
        obtain ⟨cur', k1, k2, k3⟩ := setCells_block news w b (off + n) e (0, 0) cur h2 (by omega)
        refine ⟨_, _, _, hrun, ⟨by rw [List.length_append, h.len]; omega, fun u hu => ?_, hroom, hmax, .inr ⟨b, off, cur', rfl, h1, k1, by omega, fun j hj => ?_⟩⟩, setCells_grown' _ _ _ (World.grownBy.refl _ _), .inl rfl⟩
        · rcases List.mem_append.1 hu with hu | hu
          · exact h.one u hu
          · exact h1c u hu
        · rw [k3]
          by_cases hjn : j < n
          · rw [if_neg (by omega), h4 j hjn, List.getElem?_append_left (by rw [h.len]; exact hjn)]
          · rw [if_pos (by omega), List.getElem?_append_right (by rw [h.len]; omega), h.len]
            congr 1; omega
    · have hone : ∀ u ∈ vs ++ news, u.oneCell' = true := fun u hu => by
        rcases List.mem_append.1 hu with hu | hu
        · exact h.one u hu
        · exact h1c u hu
      rcases h.lies with ⟨rfl, hc0⟩ | ⟨b, off, cur, rfl, h1, h2, h3, h4⟩
      · subst hc0
        obtain rfl : n = 0 := by omega
        obtain rfl := List.eq_nil_of_length_eq_zero h.len
        obtain ⟨v', w', hrun, r1, r2, _⟩ := run_append_own (P := P) w w.heap.size t ty e i z 1 bytes ht hi hz hsize hby hzs (by omega) (.slice none 0 0) 0 [] (World.ownsRow_nil w _ e 1) ad m cx news (by omega) hnews h1c b1 b2 (Nat.le_refl _)
        obtain ⟨A', c', rfl, hq⟩ := Qs.of_own r1 hone
        exact ⟨A', c', w', hrun, hq.less hb, r2, .inr (hq.at_ (by omega))⟩
      · obtain ⟨v', w', hrun, r1, r2⟩ := run_append_arg_grows (P := P) w t ty e i z 1 bytes ht hi hz hsize hby hzs (by omega) ⟨b, off, none⟩ n c vs (by rw [h.len]; omega)
          (fun j u hu => by
            have hj : j < n := by
              rcases Nat.lt_or_ge j n with g | g
              · exact g
              · rw [List.getElem?_eq_none (by rw [h.len]; omega)] at hu; cases hu
            rw [add_plain', h.cell rfl hj, hu]) ad m cx news (by omega) hnews (by omega) b1 b2
        obtain ⟨A', c', rfl, hq⟩ := Qs.of_own r1 hone
        exact ⟨A', c', w', hrun, hq.less hb, grown_any r2, .inr (hq.at_ (by omega))⟩

/-- append onto such a row, as one step of a walk. -/
theorem wpList_append_q {P : Program} {w : World} {ops : Array Oper} {rest : List Oper} {o : Oper} {a : Act} {Q : Exit → Act → World → Prop} (hgd : o.guard = none) (s x : Operand) (t : TypeId)
    (ho : o.op = .call { callee := .builtin .append, args := #[s, x], argTypes := #[t, t] }) {e : TypeId} {z : Value} {bytes : Nat} (ht : P.underlying t = some (.slice e))
    (hinfo : (P.info? e).map (fun i => (i.zero, i.size, i.bytes)) = some (some z, 1, bytes)) (hzs : z.cells.size = 1)
    {base n c : Nat} {A : Option Addr} {vs : List Value} (hs : a.eval s = .slice A n c) (h : Qs w base e A n c vs) (hb : base ≤ w.heap.size) {X : Option Addr} {m cx : Nat} {news : List Value} (hx : a.eval x = .slice X m cx) (hX : Src w X m news)
    (b1 : n + m ≤ maxLen) (b2 : (n + m) * bytes ≤ 140737488355328)
    (hK : ∀ A' c' w', Qs w' base e A' (n + m) c' (vs ++ news) → w.grownBy w' (blk A) → (blk A' = blk A ∨ ∃ b, blk A' = some b ∧ w.heap.size ≤ b) → wpList P ops Q rest (a.put o.dst (.slice A' (n + m) c')) w') :
    wpList P ops Q (o :: rest) a w := by
  obtain ⟨i0, hi, hz0, hz1, hz2⟩ := info_parts hinfo
  refine wpList_plain hgd fun K hK' => ?_
  obtain ⟨A', c', w', hrun, r1, r2, r3⟩ := run_append_q (P := P) w t o.type e i0 z bytes ht hi hz0 hz1 hz2 hzs h hb cx hX b1 b2
  unfold Oper.wp
  simp [execOp, ho, resolve, invoke, builtin, hs, hx, hrun, Result.andThen]
  exact hK' _ _ (hK A' c' w' r1 r2 r3)
/-- The same, as one step of a region that draws its order. -/
theorem step_append_q {P : Program} {ops : Array Oper} {o : Oper} {a : Act} {w : World} {K : Act → World → Prop} {Q : Exit → Act → World → Prop} {E : Prop} (hgd : o.guard = none) (s x : Operand) (t : TypeId)
    (ho : o.op = .call { callee := .builtin .append, args := #[s, x], argTypes := #[t, t] }) {e : TypeId} {z : Value} {bytes : Nat} (ht : P.underlying t = some (.slice e))
    (hinfo : (P.info? e).map (fun i => (i.zero, i.size, i.bytes)) = some (some z, 1, bytes)) (hzs : z.cells.size = 1)
    {base n c : Nat} {A : Option Addr} {vs : List Value} (hs : a.eval s = .slice A n c) (h : Qs w base e A n c vs) (hb : base ≤ w.heap.size) {X : Option Addr} {m cx : Nat} {news : List Value} (hx : a.eval x = .slice X m cx) (hX : Src w X m news)
    (b1 : n + m ≤ maxLen) (b2 : (n + m) * bytes ≤ 140737488355328)
    (hK : ∀ A' c' w', Qs w' base e A' (n + m) c' (vs ++ news) → w.grownBy w' (blk A) → (blk A' = blk A ∨ ∃ b, blk A' = some b ∧ w.heap.size ≤ b) → K (a.put o.dst (.slice A' (n + m) c')) w') :
    if Region.wanted o (yielded ops a.tmps) = true then Oper.wp P o a w K Q else E := by
  obtain ⟨i0, hi, hz0, hz1, hz2⟩ := info_parts hinfo
  have hw : Region.wanted o (yielded ops a.tmps) = true := by simp [Region.wanted, hgd]
  rw [if_pos hw]
  obtain ⟨A', c', w', hrun, r1, r2, r3⟩ := run_append_q (P := P) w t o.type e i0 z bytes ht hi hz0 hz1 hz2 hzs h hb cx hX b1 b2
  unfold Oper.wp
  simp [execOp, ho, resolve, invoke, builtin, hs, hx, hrun, Result.andThen]
  exact hK A' c' w' r1 r2 r3

/-- clear over one cell. -/
theorem wpList_clear1 {P : Program} {wr : World} {ops : Array Oper} {rest : List Oper} {o : Oper} {a : Act} {Q : Exit → Act → World → Prop} (hgd : o.guard = none) (s : Operand) (t : TypeId)
    (ho : o.op = .call { callee := .builtin .clear, args := #[s], argTypes := #[t] }) {e : TypeId} {z : Value} (ht : P.underlying t = some (.slice e)) (hv : ∀ w, (zeroValue e).run P w = .ok z w) (hz : z.cells = #[z]) (h1 : z.oneCell' = true) {b off c : Nat}
    (hs : a.eval s = .slice (some ⟨b, off, none⟩) 1 c) (hc : (wr.cell? ⟨b, off, none⟩).isSome = true) (hf : wr.frozen? ⟨b, off, none⟩ = false)
    (hK : wpList P ops Q rest (a.put o.dst (.tuple #[])) (wr.setCell ⟨b, off, none⟩ z)) :
    wpList P ops Q (o :: rest) a wr := by
  refine wpList_plain hgd fun K hKK => ?_
  have hc' : ∀ j, j < 1 → (wr.cell? ⟨b, off + j, none⟩).isSome = true := fun j hj => by
    obtain rfl : j = 0 := by omega
    exact hc
  have hf' : ∀ j, j < 1 → wr.frozen? ⟨b, off + j, none⟩ = false := fun j hj => by
    obtain rfl : j = 0 := by omega
    exact hf
  have hrun := Lib.run_clear_slice (P := P) wr t e o.type z ht hv hz h1 b off 1 c (by omega) hc' hf'
  have e2 : wr.setCells b off (List.replicate 1 z) = wr.setCell ⟨b, off, none⟩ z := rfl
  rw [e2] at hrun
  unfold Oper.wp
  simp [execOp, ho, resolve, invoke, builtin, hs, hrun, Result.andThen]
  exact hKK _ _ hK
end Go.Proofs.Ytncnlbokipieaaa