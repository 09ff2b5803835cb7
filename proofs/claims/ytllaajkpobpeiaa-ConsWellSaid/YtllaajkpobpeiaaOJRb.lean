/- Rows of structs: one more at the end. -/
import Derived.Test.YtllaajkpobpeiaaOJRa
import Derived.Test.YtllaajkpobpeiaaOJf
namespace Go.Proofs.Ytllaajkpobpeiaa
open Go.RowKit
set_option linter.unusedSimpArgs false
set_option linter.unusedVariables false
/-- One element is appended to a row of the call's own. -/
theorem wpList_elem {P : Program} {wr : World} {ops : Array Oper} {rest : List Oper} {o : Oper} {a : Act} {Q : Exit → Act → World → Prop} {base t e n s by_ : Nat} {z : Value} {xs news : List Value} {v : Value} (hgd : o.guard = none) (p x : Operand)
    (ho : o.op = .call { callee := .builtin .append, args := #[p, x], argTypes := #[t, t] }) (ht : P.underlying t = some (.slice e))
    (hinfo : (P.info? e).map (fun i => (i.zero, i.size, i.bytes)) = some (some z, s, by_)) (hzs : z.cells.size = s) (hs0 : 0 < s) (hby : by_ ≤ 1000) (hs : a.eval p = v) (hown : wr.ownsRow base e s v n xs)
    {H : Nat} (hx : a.eval x = .slice (some ⟨H, 0, none⟩) 1 1) (hH : wr.heap.size = H) (hl : news.length = s) (h1 : ∀ u ∈ news, u.oneCell' = true) (hn : n ≤ 1000000) (hb : base ≤ wr.heap.size)
    (h : ∀ v' w', w'.ownsRow base e s v' (n + 1) (xs ++ news) → wr.grownBy w' v.ownBlock → (v'.ownBlock = v.ownBlock ∨ v'.ownBlock = some (wr.heap.size + 1)) → wpList P ops Q rest (a.put o.dst v') w') :
    wpList P ops Q (o :: rest) a (wr.alloc (.cells news.toArray e)) := by
  subst hH
  obtain ⟨i0, hi, hz0, hz1, hz2⟩ := info_parts hinfo
  refine wpList_append_own_at _ hgd p x t ho base e i0 z s by_ ht hi hz0 hz1 hz2 hzs hs0 v n xs hs (hown.alloc _) ⟨wr.heap.size, 0, none⟩ 1 1 news hx (by omega) ?_ h1 (by simp only [maxLen]; omega) (Nat.le_trans (Nat.mul_le_mul (show n + 1 ≤ 1000001 by omega) hby) (by omega)) (by simp; omega) ?_
  · intro j u hu
    rw [add_plainR, Nat.zero_add, cell_of_row _ _ _ _ e (0, 0) (heap_alloc_new wr _)]
    simpa using hu
  · intro v' w' h1 h2 _ h4
    have hg := World.grownBy_alloc wr (.cells news.toArray e) v.ownBlock
    exact h v' w' h1 (grownr_trans hg h2) (by simpa using h4)
theorem own_made (w : World) (base e s : Nat) (hb : base ≤ w.heap.size) : (w.alloc (.cells #[] e)).ownsRow base e s (.slice (some ⟨w.heap.size, 0, none⟩) 0 0) 0 [] :=
  own_mk hb (heap_alloc_new w _) (Nat.le_refl _) (by simp [maxLen]) (by simp) (by simp) (fun k hk => absurd hk (by simp))
end Go.Proofs.Ytllaajkpobpeiaa