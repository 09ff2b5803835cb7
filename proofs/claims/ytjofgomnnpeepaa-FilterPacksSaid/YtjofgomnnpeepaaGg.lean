/- What filters answers: a row of structs of two numbers that grows. -/
import Derived.Test.YtjofgomnnpeepaaGf
namespace Go.Proofs.Ytjofgomnnpeepaa
open Go.RowKit Go.Sort

def two (p : Int × Int) : List Value := [.int .i64 p.1, .int .i64 p.2]
theorem flat_len : ∀ l : List (Int × Int), (l.flatMap two).length = l.length * 2
  | [] => rfl
  | p :: l => by rw [List.flatMap_cons, List.length_append, flat_len l]; simp [two]; omega
theorem flat_at : ∀ (l : List (Int × Int)) (i : Nat), i < l.length → (l.flatMap two)[i * 2]? = some (.int .i64 (l.getD i (0, 0)).1) ∧ (l.flatMap two)[i * 2 + 1]? = some (.int .i64 (l.getD i (0, 0)).2)
  | [], i, h => absurd h (Nat.not_lt_zero _)
  | p :: l, 0, _ => by simp [two]
  | p :: l, i + 1, h => by
    have hl : i < l.length := by simpa using h
    obtain ⟨h1, h2⟩ := flat_at l i hl
    have e : ((p :: l).flatMap two) = [Value.int .i64 p.1, Value.int .i64 p.2] ++ l.flatMap two := rfl
    have e2 : (p :: l).getD (i + 1) (0, 0) = l.getD i (0, 0) := by simp [List.getD]
    rw [e, e2, List.getElem?_append_right (by simp; omega), List.getElem?_append_right (by simp; omega)]
    simp only [List.length_cons, List.length_nil]
    rw [show (i + 1) * 2 - (0 + 1 + 1) = i * 2 by omega, show (i + 1) * 2 + 1 - (0 + 1 + 1) = i * 2 + 1 by omega]
    exact ⟨h1, h2⟩
theorem Fils.of_own {w : World} {base e n : Nat} {v : Value} {l : List (Int × Int)} (h : w.ownsRow base e 2 v n (l.flatMap two)) :
    ∃ A c, v = .slice A n c ∧ n = l.length ∧ Fils w w.heap.size A n c (fun i => l.getD i (0, 0)) := by
  have hl : n = l.length := by have := h.1; rw [flat_len] at this; omega
  rcases h.2 with ⟨rfl, h0⟩ | ⟨g, cap, cur, rfl, hb, hg, hnc, hm, hs, ht⟩
  · subst h0
    exact ⟨none, 0, rfl, hl, Nat.le_refl _, by simp [maxLen], fun h => absurd h (Nat.lt_irrefl _)⟩
  · refine ⟨_, _, rfl, hl, hnc, hm, fun _ => ⟨g, 0, rfl, (Array.getElem?_eq_some_iff.1 hg).1, fun i hi => ?_⟩⟩
    obtain ⟨h1, h2⟩ := flat_at l i (by omega)
    rw [Nat.zero_add, World.ownsRow.cellAt h (i * 2) (by omega), World.ownsRow.cellAt h (i * 2 + 1) (by omega)]
    exact ⟨h1, h2⟩
/-- One struct of two numbers is appended to a row of the call's own. -/
theorem wpList_two {P : Program} {wr : World} {ops : Array Oper} {rest : List Oper} {o : Oper} {a : Act} {Q : Exit → Act → World → Prop} {base t e n : Nat} {p q : Int} {xs : List Value} {v : Value} (hgd : o.guard = none) (s x : Operand)
    (ho : o.op = .call { callee := .builtin .append, args := #[s, x], argTypes := #[t, t] }) (ht : P.underlying t = some (.slice e))
    (hinfo : (P.info? e).map (fun i => (i.zero, i.size, i.bytes)) = some (some (.agg #[.int .i64 0, .int .i64 0]), 2, 16)) (hs : a.eval s = v) (hown : wr.ownsRow base e 2 v n xs)
    (hx : a.eval x = .slice (some ⟨wr.heap.size, 0, none⟩) 1 1) (hn : n ≤ 1000000) (hb : base ≤ wr.heap.size)
    (h : ∀ v' w', w'.ownsRow base e 2 v' (n + 1) (xs ++ [.int .i64 p, .int .i64 q]) → Below base wr w' → wpList P ops Q rest (a.put o.dst v') w') :
    wpList P ops Q (o :: rest) a (wr.alloc (.cells #[.int .i64 p, .int .i64 q] e)) := by
  obtain ⟨i0, hi, hz0, hz1, hz2⟩ := info_parts hinfo
  refine wpList_append_own _ hgd s x t ho base e i0 (.agg #[.int .i64 0, .int .i64 0]) 2 16 ht hi hz0 hz1 hz2 rfl (by omega) v n xs hs (hown.alloc _) ⟨wr.heap.size, 0, none⟩ 1 1 [.int .i64 p, .int .i64 q] hx rfl ?_ (by simp [Value.oneCell']) (by simp only [maxLen]; omega) (by omega) (by simp; omega) ?_
  · intro j u hu
    have hc : ∀ k, (wr.alloc (.cells #[.int .i64 p, .int .i64 q] e)).cell? ⟨wr.heap.size, k, none⟩ = (#[Value.int .i64 p, Value.int .i64 q] : Array Value)[k]? := fun k => by rw [cell_of_row _ _ _ _ e (0, 0) (heap_alloc_new wr _)]
    have hplain : (⟨wr.heap.size, 0, none⟩ : Addr).add j = ⟨wr.heap.size, j, none⟩ := by unfold Addr.add; split <;> simp_all
    rw [hplain, hc j, ← hu]
    match j with
    | 0 => rfl
    | 1 => rfl
    | j + 2 => simp
  · intro v' w' h1 h2 _
    exact h v' w' h1 (((Below.refl _ wr).alloc hb _).grown h2 (by simp; omega) fun k hk => (hown.lt k hk).1)

def filL (M : Nat → Int) (j : Nat) : List (Int × Int) := (codes M j).map fun q : Nat => ((q : Int), M q)
theorem filL_len (M : Nat → Int) (j : Nat) : (filL M j).length = (codes M j).length := by simp [filL]
theorem filL_in {M : Nat → Int} {j : Nat} {v : Int} (hv : M j = v) (h : (v != -1) = true) : (filL M (j + 1)).flatMap two = (filL M j).flatMap two ++ [.int .i64 (j : Int), .int .i64 v] ∧ (codes M (j + 1)).length = (codes M j).length + 1 := by
  have e : codes M (j + 1) = codes M j ++ [j] := by rw [codes_succ, hv, h]; rfl
  constructor
  · unfold filL; rw [e, List.map_append, List.flatMap_append]; simp [two, hv]
  · rw [e]; simp
theorem filL_out {M : Nat → Int} {j : Nat} {v : Int} (hv : M j = v) (h : (v != -1) = false) : filL M (j + 1) = filL M j ∧ codes M (j + 1) = codes M j := by
  have e : codes M (j + 1) = codes M j := by rw [codes_succ, hv, h]; simp
  exact ⟨by unfold filL; rw [e], e⟩
theorem own_drewN {w : World} {base e size n : Nat} {v : Value} {xs : List Value} (h : w.ownsRow base e size v n xs) (k : Nat) : (w.drewN k).ownsRow base e size v n xs := h
theorem info_fil : (Try.prog.info? 36).map (fun i => (i.zero, i.size, i.bytes)) = some (some (.agg #[.int .i64 0, .int .i64 0]), 2, 16) := by kernel_rfl
def Listed (M : Nat → Int) (e : Ending) (w' : World) : Prop := ∃ A c, e = .returned (.slice A (filL M 2048).length c) ∧ Fils w' w'.heap.size A (filL M 2048).length c (fun i => (filL M 2048).getD i (0, 0))

set_option maxRecDepth 40000 in
set_option maxHeartbeats 1000000 in
theorem filters_any (w : World) (g : Nat) (M : Nat → Int) (h : Mk w g M) :
    Calls Try.prog 28 #[.pointer (some ⟨g, 0, none⟩)] w fun e w' => Listed M e w' ∧ Below w.heap.size w w' := by
  have HM := Lib.hid h
  clear h
  go_enter Try.func28, Try.ntmps28
  go_wp2_with fail
  go_loopw [3, 7] (fun v i wr => ∃ j : Nat, j ≤ 2048 ∧ i = .int .i64 j ∧ wr.ownsRow w.heap.size 36 2 v (codes M j).length ((filL M j).flatMap two) ∧ Below w.heap.size w wr) (fun _ i _ => 2048 - (intOf i).toNat)
  case atStart => exact ⟨0, by omega, rfl, by exact World.ownsRow_nil _ _ _ _, Below.refl _ _⟩
  case round =>
    obtain ⟨j, hj, rfl, hown, hb⟩ := hrel
    by_cases hlt : j < 2048
    · have hM := HM.out.below hb HM.out.lt
      have hc := hM.cell hlt
      have hcl := codes_len M j
      generalize hv : M j = mv at hc
      clear hM
      go_wp2_with fail
      go_quiet (fail)
      have hown2 := own_drewN hown nq
      have hb2 := below_drewN hb nq
      generalize wr.drewN nq = w2 at hown2 hb2 ⊢
      clear hown hb hc
      cases ht : mv != -1 with
      | false =>
        obtain ⟨e1, e2⟩ := filL_out hv ht
        have E1 := Lib.hid e1
        have E2 := Lib.hid e2
        clear e1 e2 hv
        go_wp2_with fail
        exact ⟨⟨j + 1, by omega, by go_num, by rw [E1.out, E2.out]; exact hown2, hb2⟩, by simp [intOf]; omega⟩
      | true =>
        obtain ⟨e1, e2⟩ := filL_in hv ht
        have E1 := Lib.hid e1
        have E2 := Lib.hid e2
        clear e1 e2 hv
        go_wp2_with (at_builtin; refine wpList_two rfl (.tmp 15) (.tmp 19) rfl Try.underlying22 info_fil rfl hown2 rfl (by omega) hb2.size ?_; intro v' w' hown' hbel')
        exact ⟨⟨j + 1, by omega, by go_num, by rw [E1.out, E2.out]; exact hown', hb2.trans hbel'⟩, by simp [intOf]; omega⟩
    · obtain rfl : j = 2048 := by omega
      obtain ⟨A, c, rfl, hl, hf⟩ := Fils.of_own hown
      have HF := Lib.hid hf
      have HL := Lib.hid hl
      have hcap := hf.cap
      clear hf hown hl
      go_wp2_with fail
      refine bodyPost_ret (results_tmp rfl _ _ _) rfl ⟨⟨A, c, ?_, ?_⟩, hb⟩
      · rw [← HL.out]; rfl
      · rw [← HL.out]; exact HF.out
end Go.Proofs.Ytjofgomnnpeepaa
