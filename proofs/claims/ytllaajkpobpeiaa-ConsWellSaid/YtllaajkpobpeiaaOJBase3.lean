/- More words that the proofs of this seat share: a slice of numbers; many bytes that are appended at once. Nothing of the program is named here. -/
import Derived.Test.YtllaajkpobpeiaaOJBase2
namespace Go.Proofs.Ytllaajkpobpeiaa
open Go.RowKit
/-- The slice '.slice A n c' of numbers reads as l, in a block below B. -/
structure Nums (w : World) (B : Nat) (A : Option Addr) (n c : Nat) (l : List Int) : Prop where
  len : l.length = n
  cap : n ≤ c
  max : c ≤ maxLen
  rng : ∀ x ∈ l, -9223372036854775808 ≤ x ∧ x ≤ 9223372036854775807
  cells : 0 < n → ∃ b off, A = some ⟨b, off, none⟩ ∧ b < B ∧ ∀ j, j < n → w.cell? ⟨b, off + j, none⟩ = some (.int .i64 (l.getD j 0))
section
variable {w w' : World} {B B' n c : Nat} {A : Option Addr} {l : List Int}
theorem Nums.keep (h : Nums w B A n c l) (hk : ∀ b o, b < B → w'.cell? ⟨b, o, none⟩ = w.cell? ⟨b, o, none⟩) : Nums w' B A n c l :=
  ⟨h.len, h.cap, h.max, h.rng, fun hn => by
    obtain ⟨b, off, e, hb, hc⟩ := h.cells hn
    exact ⟨b, off, e, hb, fun j hj => (hk b _ hb).trans (hc j hj)⟩⟩
theorem Nums.below (h : Nums w B A n c l) (hb : Below B w w') : Nums w' B A n c l := h.keep fun b o hlt => hb.cell (p := ⟨b, o, none⟩) hlt
theorem Nums.more (h : Nums w B A n c l) (hB : B ≤ B') : Nums w B' A n c l :=
  ⟨h.len, h.cap, h.max, h.rng, fun hn => by
    obtain ⟨b, off, e, hb, hc⟩ := h.cells hn
    exact ⟨b, off, e, by omega, hc⟩⟩
theorem Nums.step (h : Nums w w.heap.size A n c l) (hb : Below w.heap.size w w') : Nums w' w'.heap.size A n c l := (h.below hb).more hb.size
theorem Nums.nil_ (w : World) (B : Nat) : Nums w B none 0 0 [] := ⟨rfl, Nat.le_refl _, by simp [maxLen], by simp, fun h => absurd h (by omega)⟩
theorem Nums.range (h : Nums w B A n c l) (j : Nat) : -9223372036854775808 ≤ l.getD j 0 ∧ l.getD j 0 ≤ 9223372036854775807 := by
  by_cases hj : j < l.length
  · have := h.rng l[j] (List.getElem_mem hj)
    simp only [List.getD, List.getElem?_eq_getElem hj, Option.getD_some]
    exact this
  · simp [List.getD, List.getElem?_eq_none (Nat.le_of_not_lt hj)]
theorem Nums.take (h : Nums w B A n c l) {k : Nat} (hk : k ≤ n) : Nums w B A k c (l.take k) :=
  ⟨by rw [List.length_take, h.len]; omega, by have := h.cap; omega, h.max, fun x hx => h.rng x (List.mem_of_mem_take hx), fun h0 => by
    obtain ⟨b, off, e, hb, hc⟩ := h.cells (by omega)
    refine ⟨b, off, e, hb, fun j hj => ?_⟩
    rw [hc j (by omega)]
    simp [List.getD, hj]⟩
end
theorem nums_of_row {W : World} {x : Addr} {len cap : Nat} {zs : List Int} (hl : len ≤ cap) (hm : cap ≤ maxLen) (hz : zs.length = cap) (hcell : ∀ i, i < zs.length → W.cell? (x.add i) = some (.int .i64 (zs.getD i 0)))
    (hwz : ∀ n ∈ zs, (Lit.int .i64 n).wf = true) : Nums W W.heap.size (some x) len cap (zs.take len) := by
  refine ⟨by rw [List.length_take]; omega, hl, hm, fun n hn => ?_, fun h0 => ?_⟩
  · have := bounds_i64 (hwz n (List.mem_of_mem_take hn)); omega
  · obtain ⟨b, off, spot⟩ := x
    have h1 := hcell 0 (by omega)
    have hspot : spot = none := by simpa [Addr.add] using World.cell?_spot h1
    subst hspot
    refine ⟨b, off, rfl, ?_, fun j hj => ?_⟩
    · have h2 := block_lt_of_cell h1
      simpa [Addr.add] using h2
    · have h3 := hcell j (by omega)
      have hplain : (⟨b, off, none⟩ : Addr).add j = ⟨b, off + j, none⟩ := by unfold Addr.add; split <;> simp_all
      rw [hplain] at h3
      rw [h3]
      simp [List.getD, hj]

theorem run_bytes_nil {P : Program} {w : World} {base t ty e n c : Nat} {i : TypeInfo} {v : Value} {xs : List Value} (ht : P.underlying t = some (.slice e)) (hi : P.info? e = some i) (hown : w.ownsRow base e 1 v n xs) :
    (Builtin.append_ #[t, t] ty #[v, .slice none 0 c]).run P w = .ok v w := by
  rcases hown.2 with ⟨rfl, _⟩ | ⟨g, cap, cur, rfl, _, _, hnc, _⟩
  · simp [Builtin.append_, run_underlying ht, sizeOf, typeInfo, hi, Builtin.lenOf, Builtin.firstCells]
  · simp [Builtin.append_, run_underlying ht, sizeOf, typeInfo, hi, Builtin.lenOf, Builtin.firstCells, hnc, storeCells]

/-- Many bytes behind a row of the call's own: nil, none, or some. -/
theorem wpList_bytes {P : Program} {wr : World} {ops : Array Oper} {rest : List Oper} {o : Oper} {a : Act} {Q : Exit → Act → World → Prop} {base t e n m B c : Nat} {A : Option Addr} {l l2 : List Int} {v : Value} (hgd : o.guard = none) (s x : Operand)
    (ho : o.op = .call { callee := .builtin .append, args := #[s, x], argTypes := #[t, t] }) (ht : P.underlying t = some (.slice e))
    (hinfo : (P.info? e).map (fun i => (i.zero, i.size, i.bytes)) = some (some (.int .u8 0), 1, 1)) (hs : a.eval s = v) (hown : wr.ownsRow base e 1 v n (l.map (Value.int .u8)))
    (hx : a.eval x = .slice A m c) (hB : Byt wr B A m c l2) (hn : n + m ≤ 140737488355328) (hb : base ≤ wr.heap.size)
    (h : ∀ v' w', w'.ownsRow base e 1 v' (n + m) ((l ++ l2).map (Value.int .u8)) → Below base wr w' → wpList P ops Q rest (a.put o.dst v') w') :
    wpList P ops Q (o :: rest) a wr := by
  obtain ⟨i0, hi, hz0, hz1, hz2⟩ := info_parts hinfo
  cases A with
  | none =>
    have hm : m = 0 := by
      rcases Nat.eq_zero_or_pos m with h0 | h0
      · exact h0
      · obtain ⟨b, off, e', _⟩ := hB.cells h0
        cases e'
    subst hm
    obtain rfl := List.eq_nil_of_length_eq_zero hB.len
    refine wpList_plain hgd fun K hK => ?_
    have hrun := run_bytes_nil (P := P) (w := wr) (ty := o.type) (c := c) ht hi hown
    unfold Oper.wp
    simp [execOp, ho, resolve, invoke, builtin, hs, hx, hrun, Result.andThen]
    exact hK _ _ (h v wr (by simpa using hown) (Below.refl _ _))
  | some ad =>
    refine wpList_append_own _ hgd s x t ho base e i0 (.int .u8 0) 1 1 ht hi hz0 hz1 hz2 rfl (by omega) v n (l.map (Value.int .u8)) hs hown ad m c (l2.map (Value.int .u8)) hx (by simp [hB.len]) ?_ (ints_oneCell _ _) (by simp only [maxLen]; omega) (by omega) hb ?_
    · intro j u hu
      have hj : j < m := by
        rcases Nat.lt_or_ge j m with h1 | h1
        · exact h1
        · rw [List.getElem?_eq_none (by simp [hB.len]; omega)] at hu; cases hu
      obtain ⟨b, off, e', _, hc⟩ := hB.cells (by omega)
      cases e'
      have hplain : (⟨b, off, none⟩ : Addr).add j = ⟨b, off + j, none⟩ := by unfold Addr.add; split <;> simp_all
      rw [hplain, hc j hj]
      rw [List.getElem?_map, List.getElem?_eq_getElem (by rw [hB.len]; exact hj)] at hu
      simp only [Option.map_some, Option.some.injEq] at hu
      subst hu
      simp [List.getD, List.getElem?_eq_getElem (show j < l2.length by rw [hB.len]; exact hj)]
    · intro v' w' h1 h2 _
      exact h v' w' (by simpa using h1) ((Below.refl _ wr).grown h2 hb fun k hk => (hown.lt k hk).1)
end Go.Proofs.Ytllaajkpobpeiaa