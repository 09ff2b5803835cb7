/- What slices.Delete and Clone do with a row of the call's own: elements of 6 cells. -/
import Derived.Test.YtmfjndkopkjchaaDIns
import Derived.WalkSpells
namespace Go.Proofs.Ytmfjndkopkjchaa
open Go.RowKit

theorem step_append_runE {P : Program} {ops : Array Oper} {o : Oper} {a : Act} {w : World} {K : Act → World → Prop} {Q : Exit → Act → World → Prop} {E : Prop}
    (hg : o.guard = none) (s x : Operand) (t t' : TypeId) (hop : o.op = Op.call { callee := Callee.builtin Builtin.append, args := #[s, x], argTypes := #[t, t'] })
    (v u : Value) (hd : a.eval s = v) (hx : a.eval x = u) {v' : Value} {w' : World} (hr : (Builtin.append_ #[t, t'] o.type #[v, u]).run P w = .ok v' w') (hK : K (a.put o.dst v') w') :
    if Region.wanted o (yielded ops a.tmps) = true then Oper.wp P o a w K Q else E := by
  have hw : Region.wanted o (yielded ops a.tmps) = true := by simp [Region.wanted, hg]
  rw [if_pos hw]
  exact Lib.wp_append_run w s x t t' hop _ _ hd hx _ _ hr hK
theorem wpList_clear_runE {P : Program} {wr w' : World} {ops : Array Oper} {rest : List Oper} {o : Oper} {a : Act} {Q : Exit → Act → World → Prop} (hgd : o.guard = none) (s : Operand) (t : TypeId)
    (ho : o.op = .call { callee := .builtin .clear, args := #[s], argTypes := #[t] }) (v : Value) (hs : a.eval s = v) (hrun : (Builtin.clear_ #[t] o.type #[v]).run P wr = .ok (.tuple #[]) w')
    (hK : wpList P ops Q rest (a.put o.dst (.tuple #[])) w') : wpList P ops Q (o :: rest) a wr := by
  refine wpList_plain hgd fun K hKK => ?_
  unfold Oper.wp
  simp [execOp, ho, resolve, invoke, builtin, hs, hrun, Result.andThen]
  exact hKK _ _ hK
/-- What slices.Clone has made: nothing else has turned. -/
def ClonedE (w : World) (n : Nat) (xs : List Value) (e : Ending) (w' : World) : Prop := ∃ v', e = .returned v' ∧ w'.ownsRow w.heap.size 129 6 v' n xs ∧ Below w.heap.size w w'
set_option maxRecDepth 100000 in
set_option maxHeartbeats 2000000 in
theorem clone_anyE (w : World) (base n : Nat) (v : Value) (xs : List Value) (hown : w.ownsRow base 129 6 v n xs) (hn : n ≤ 100000) (hx1 : ∀ u ∈ xs, u.oneCell' = true) :
    Calls Try.prog 85 #[v] w (ClonedE w n xs) := by
  have heq := fun (w : World) (a : Option Addr) (l c : Nat) => Lib.run_eql_slice_nil (P := Try.prog) w 107 129 a l c 0 0 Try.underlying107
  rcases hown.2 with ⟨rfl, rfl⟩ | ⟨g, cap, cur, rfl, hbg, hg, hnc, hm, hs, ht⟩
  · obtain rfl : xs = [] := List.eq_nil_of_length_eq_zero (by have := hown.1; omega)
    clear hown
    go_enter Try.func85, Try.ntmps85
    go_wp2_with fail
    go_ret
    exact ⟨_, rfl, ⟨rfl, .inl ⟨rfl, rfl⟩⟩, Below.refl _ _⟩
  · obtain ⟨i0, hi, hz0, hz1, hz2⟩ := info_parts info_elE
    have hl := hown.1
    have hbe : Below w.heap.size w (w.alloc (.cells #[] 129)) := (Below.refl _ _).alloc (Nat.le_refl _) _
    have hown0 : (w.alloc (.cells #[] 129)).ownsRow w.heap.size 129 6 (.slice (some ⟨w.heap.size, 0, none⟩) 0 0) 0 [] := ⟨rfl, .inr ⟨_, 0, #[], rfl, Nat.le_refl _, heap_alloc_new w _, Nat.le_refl _, by simp [maxLen], by simp, rfl⟩⟩
    have hsrc : Hid (∀ j u, xs[j]? = some u → (w.alloc (.cells #[] 129)).cell? ((⟨g, 0, none⟩ : Addr).add j) = some u) := fun j u hu => by
      have hj : j < n * 6 := by rw [← hl]; exact (List.getElem?_eq_some_iff.1 hu).1
      rw [add_plainR, Nat.zero_add, hbe.cell (p := ⟨g, j, none⟩) (Array.getElem?_eq_some_iff.1 hg).1, own_cell hown hj, hu]
    have HO := Lib.hid hown0
    have HB := Lib.hid hbe
    have HI := Lib.hid hi
    have HL := Lib.hid hl
    have HX := Lib.hid hx1
    simp only [maxLen] at hm
    clear hown hown0 hbe hg hs ht hi hl hx1
    go_enter Try.func85, Try.ntmps85
    go_wp2_with (at_builtin; refine wpList_append_own _ rfl (.tmp 5) (.tmp 6) 107 rfl w.heap.size 129 i0 (.agg #[.int .i64 0, .int .i64 0, .int .i64 0, .int .i64 0, .int .i64 0, .string ByteArray.empty]) 6 56 Try.underlying107 HI.out hz0 hz1 hz2 rfl (by omega) _ 0 [] rfl HO.out ⟨g, 0, none⟩ n cap xs rfl HL.out hsrc.out HX.out (by simp [maxLen]; omega) (by omega) HB.out.size ?_; intro v' w' r1 r2 _)
    go_ret
    rw [Nat.zero_add, List.nil_append] at r1
    exact ⟨_, rfl, r1, HB.out.grown r2 (by simp) (fun k e => by cases e; exact Nat.le_refl _)⟩
end Go.Proofs.Ytmfjndkopkjchaa
