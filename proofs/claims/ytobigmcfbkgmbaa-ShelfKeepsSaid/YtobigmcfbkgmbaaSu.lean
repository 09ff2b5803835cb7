/- What a round keeps; what slices.All and slices.Backward, and the functions that they hand back, do. -/
import Derived.RangeFuncNested
import Derived.RangeFuncBound
import Derived.RangeFuncCalls
import Derived.RangeFuncLeaves
import Derived.RangeFuncWrites
import Derived.RangeFuncBox
import Derived.Shelf.Abstract
import Derived.Shelf.RegionOpen
import Derived.OwnWalkIn
import Derived.TacticsInMore
import Derived.LoopNIn
import Derived.LoopIn
import Derived.Sort.QuietIn
import Derived.Test.YtobigmcfbkgmbaaRng
import Derived.Test.YtobigmcfbkgmbaaSt
namespace Go.Proofs.Ytobigmcfbkgmbaa
open Go.RowKit Go.Shelf
attribute [local go_sem] Oper.semAt_some

/-- What a round keeps: all cells that were there, but for some blocks, and one that the world itself tells. -/
structure Kq (Fx : Nat → Prop) (tb : World → Option Nat) (W W' : World) : Prop where
  size : W.heap.size ≤ W'.heap.size
  cells : ∀ k cs t fr, W.heap[k]? = some (.cells cs t fr) → ¬ Fx k → tb W ≠ some k → W'.heap[k]? = W.heap[k]?
  next : tb W' = tb W ∨ ∃ b, tb W' = some b ∧ W.heap.size ≤ b
theorem kq_t {Fx : Nat → Prop} {tb : World → Option Nat} {A B C : World} (h : Kq Fx tb A B) (k : Kq Fx tb B C) : Kq Fx tb A C := by
  refine ⟨Nat.le_trans h.size k.size, fun i cs t fr hi hF ht => ?_, ?_⟩
  · have h1 := h.cells i cs t fr hi hF ht
    refine (k.cells i cs t fr (h1.trans hi) hF ?_).trans h1
    intro e
    rcases h.next with h2 | ⟨b, h2, h3⟩
    · exact ht (h2 ▸ e)
    · rw [h2] at e; cases e
      have := (Array.getElem?_eq_some_iff.1 hi).1
      omega
  · rcases k.next with h2 | ⟨b, h2, h3⟩
    · rw [h2]; exact h.next
    · exact .inr ⟨b, h2, Nat.le_trans h.size h3⟩
theorem kq_refl {Fx : Nat → Prop} {tb : World → Option Nat} (W : World) : Kq Fx tb W W := ⟨Nat.le_refl _, fun _ _ _ _ _ _ _ => rfl, .inl rfl⟩
/-- What the world tells hangs on the blocks below B0 alone. -/
def Loc (B0 : Nat) (tb : World → Option Nat) : Prop := ∀ X Y : World, (∀ k, k < B0 → Y.heap[k]? = X.heap[k]?) → tb Y = tb X
section
variable {Fx : Nat → Prop} {tb : World → Option Nat} {B0 : Nat} {W W' : World}
theorem kq_below (hl : Loc B0 tb) (hB : B0 ≤ W.heap.size) (h : Below W.heap.size W W') : Kq Fx tb W W' :=
  ⟨h.size, fun k _ _ _ hk _ _ => h.block k (Array.getElem?_eq_some_iff.1 hk).1, .inl (hl _ _ fun k hk => h.block k (by omega))⟩
theorem kq_put (hl : Loc B0 tb) {l : Nat} {o o' : Obj} (hB : B0 ≤ l) (ho : W.heap[l]? = some o) (hc : o.isCells = false) : Kq Fx tb W (W.putObj l o') :=
  ⟨by simp, fun k cs t fr hk _ _ => World.putObj_heap_other (fun e => by subst e; rw [hk] at ho; cases ho; cases hc), .inl (hl _ _ fun k hk => World.putObj_heap_other (by omega))⟩
/-- A cell of a block that is kept. -/
theorem Kq.heap (h : Kq Fx tb W W') {k : Nat} {cs : Array Value} {t : TypeId} {fr : Nat × Nat} (hk : W.heap[k]? = some (.cells cs t fr)) (hF : ¬ Fx k) (ht : tb W ≠ some k) : W'.heap[k]? = some (.cells cs t fr) := (h.cells k cs t fr hk hF ht).trans hk
theorem Kq.own (h : Kq Fx tb W W') {base e s n : Nat} {v : Value} {xs : List Value} (ho : W.ownsRow base e s v n xs) (hF : ∀ b, v.ownBlock = some b → ¬ Fx b) (ht : ∀ b, v.ownBlock = some b → tb W ≠ some b) : W'.ownsRow base e s v n xs := by
  refine ⟨ho.1, ?_⟩
  rcases ho.2 with hn | ⟨b, cap, cur, rfl, hb, hg, rest⟩
  · exact .inl hn
  · exact .inr ⟨b, cap, cur, rfl, hb, h.heap hg (hF b rfl) (ht b rfl), rest⟩
theorem Kq.not (h : Kq Fx tb W W') {k : Nat} (hk : k < W.heap.size) (ht : tb W ≠ some k) : tb W' ≠ some k := fun e => by
  rcases h.next with h2 | ⟨b, h2, h3⟩
  · exact ht (h2 ▸ e)
  · rw [h2] at e; cases e; omega
end

/-! ### What comes of rows, with the places -/
abbrev Elt := Nat × (Int × Int)
def en (R : List (Int × Int)) : List Elt := (List.range R.length).map fun i : Nat => (i, R.getD i (0, 0))
theorem en_len (R : List (Int × Int)) : (en R).length = R.length := by simp [en]
theorem en_get {R : List (Int × Int)} {i : Nat} {x : Int × Int} (h : R[i]? = some x) : (en R)[i]? = some (i, x) := by
  obtain ⟨hl, e⟩ := List.getElem?_eq_some_iff.1 h
  simp [en, hl]
  exact e
theorem en_take {R : List (Int × Int)} {i : Nat} {x : Int × Int} (h : R[i]? = some x) : (en R).take i ++ [(i, x)] = (en R).take (i + 1) := by
  have hl := (List.getElem?_eq_some_iff.1 (en_get h)).1
  rw [List.take_succ_eq_append_getElem hl]
  have := en_get h
  rw [List.getElem?_eq_getElem hl] at this
  rw [Option.some.inj this]
theorem en_snd (R : List (Int × Int)) : (en R).map (·.2) = R := by
  apply List.ext_getElem?
  intro i
  rw [List.getElem?_map]
  by_cases h : i < R.length
  · rw [en_get (List.getElem?_eq_getElem h), List.getElem?_eq_getElem h]; rfl
  · rw [List.getElem?_eq_none (by rw [en_len]; omega), List.getElem?_eq_none (by omega)]; rfl
def encs (x : Elt) : Array Value := #[.int .i64 (x.1 : Nat), .agg #[.int .i64 x.2.1, .int .i64 x.2.2]]

theorem sall_any (w : World) (a : Option Addr) (n c : Nat) :
    Calls Try.prog 28 #[.slice a n c] w fun e w' => e = .returned (.func (Fn.func 43) #[] #[.pointer (some ⟨w.heap.size, 0, none⟩)]) ∧ w' = w.alloc (.cells #[.slice a n c] 51) := by
  go_enter Try.func28, Try.ntmps28
  go_wp2_with fail
  go_ret
  exact ⟨rfl, rfl⟩

set_option maxRecDepth 100000 in
set_option maxHeartbeats 2000000 in
theorem sall_in (n : Nat) (hn : 1 ≤ n) (l gb base : Nat) (v : Value) (R : List (Int × Int)) (Fx : Nat → Prop) (tb : World → Option Nat) (B0 : Nat) (hloc : Loc B0 tb) (J Jx : List Elt → World → Prop) (W : World) (hB0 : B0 ≤ W.heap.size) (hab : AbidesFrom W.heap.size J)
    (hY : ∀ pre x W, J pre W → pre.length < R.length → YieldAt Fence.wide (n - 1) Try.prog l (encs x) W fun e W' =>
      (e = .returned (.bool true) ∧ J (pre ++ [x]) W' ∧ Kq Fx tb W W') ∨ (e = .returned (.bool false) ∧ Jx (pre ++ [x]) W'))
    (hbox : W.heap[gb]? = some (.cells #[v] 51 (0, 0))) (hown : W.ownsRow base 59 2 v R.length (fl eI eI R))
    (hF : ∀ b, v.ownBlock = some b → ¬ Fx b) (htb : ∀ b, v.ownBlock = some b → tb W ≠ some b) (h0 : J [] W) :
    CallsIn Fence.wide n Try.prog 43 #[.func (.yield l) #[] #[], .pointer (some ⟨gb, 0, none⟩)] W fun e W' => (∃ v, e = .returned v) ∧
      ((∃ ys, ys = en R ∧ J ys W') ∨ (∃ pre, pre <+: en R ∧ Jx pre W')) := by
  have cb : W.cell? ⟨gb, 0, none⟩ = some v := by rw [cell_of_row _ _ _ _ _ _ hbox]; rfl
  have hgl : gb < W.heap.size := (Array.getElem?_eq_some_iff.1 hbox).1
  obtain ⟨a, c, rfl⟩ := own_slice hown
  have HX := Lib.hid (fun p (hp : p < R.length) => show ∃ x, R[p]? = some x from ⟨_, List.getElem?_eq_getElem hp⟩)
  have HRL : Hid ((en R).take R.length = en R) := Lib.hid (List.take_of_length_le (by rw [en_len]; exact Nat.le_refl _))
  have HF := Lib.hid hF
  have HS : Hid (W.ownsRow base 59 2 (.slice a R.length c) R.length (fl eI eI R) ∧ (∀ b, (Value.slice a R.length c).ownBlock = some b → tb W ≠ some b) ∧ W.heap.size ≤ W.heap.size) := Lib.hid ⟨hown, htb, Nat.le_refl _⟩
  have HAB := Lib.hid hab
  have HY := Lib.hid hY
  have HLOC := Lib.hid hloc
  have HLN : Hid (∀ p, p < R.length → ((en R).take p).length < R.length) := Lib.hid (fun p hp => by rw [List.length_take, en_len]; omega)
  generalize hRN : R.length = N at *
  have HRN := Lib.hid hRN
  clear hown hF htb hab hY hbox hRN hloc
  refine callsIn_of_wp Try.func43 rfl trivial ?_ rfl
  simp only [Try.ntmps43, List.size_toArray, List.length_cons, List.length_nil, Nat.reduceAdd, Nat.reduceSub, Array.replicate_succ, Array.replicate_zero, List.push_toArray, List.append_toArray, List.nil_append, List.cons_append]
  gi_wp2_with fail
  gi_loopw [7] (fun i wr => ∃ p : Nat, p ≤ N ∧ i = .int .i64 p ∧ J ((en R).take p) wr ∧ Hid (wr.ownsRow base 59 2 (.slice a N c) N (fl eI eI R) ∧ (∀ b, (Value.slice a N c).ownBlock = some b → tb wr ≠ some b) ∧ W.heap.size ≤ wr.heap.size))
    (fun i _ => N - (intOf i).toNat)
  case atStart => exact ⟨0, Nat.zero_le _, rfl, h0, HS⟩
  case round =>
    clear HS h0 cb
    obtain ⟨p, hp, rfl, hJs, HS⟩ := hrel
    by_cases hlt : p < N
    · obtain ⟨x, hx⟩ := HX.out p hlt
      obtain ⟨g, rfl, hg, hnc, hm, c0, c1⟩ := rows_at HS.out.1 hx
      simp only [maxLen] at hm
      have htk := en_take hx
      have hlen := HLN.out p hlt
      have hpre : (en R).take (p + 1) <+: en R := List.take_prefix _ _
      obtain ⟨xk, xv⟩ := x
      simp only at c0 c1
      have hba : Below wr.heap.size wr (wr.alloc (.cells #[.int .i64 xk, .int .i64 xv] 59)) := (Below.refl _ _).alloc (Nat.le_refl _) _
      have hJ1 : J ((en R).take p) (wr.alloc (.cells #[.int .i64 xk, .int .i64 xv] 59)) := HAB.out _ wr _ none hJs (grown_below none hba) (fun r e => by cases e)
      have how1 := own_below HS.out.1 hba
      have htb1 : tb (wr.alloc (.cells #[.int .i64 xk, .int .i64 xv] 59)) = tb wr := HLOC.out _ _ (fun k hk => hba.block k (by have := HS.out.2.2; omega))
      obtain ⟨fn, tmps, assign, body, hy, hRd⟩ := HY.out _ (p, (xk, xv)) _ hJ1 hlen
      rw [htk] at hRd
      dsimp only [encs] at hy
      have HRD := Lib.hid hRd
      have HP := Lib.hid hpre
      have HO1 := Lib.hid how1
      have HT1 := Lib.hid htb1
      have HBA := Lib.hid hba.size
      have hpi : (p : Int) < (N : Int) := by omega
      have hp0 : (0 : Int) ≤ (p : Int) := by omega
      clear htk hlen hRd hpre hJ1 hx hba how1 htb1 hJs
      gi_wp2_with fail
      refine HRD.out.mono ?_
      rintro e W3 (⟨rfl, hJ3, hk3⟩ | ⟨rfl, hJx3⟩)
      · have HS3 : Hid (W3.ownsRow base 59 2 (.slice (some ⟨g, 0, none⟩) N c) N (fl eI eI R) ∧ (∀ b, (Value.slice (some ⟨g, 0, none⟩) N c).ownBlock = some b → tb W3 ≠ some b) ∧ W.heap.size ≤ W3.heap.size) := by
          have ht2 : ∀ b, (Value.slice (some ⟨g, 0, none⟩) N c).ownBlock = some b → tb (wr.alloc (.cells #[.int .i64 xk, .int .i64 xv] 59)) ≠ some b := fun b hb => by rw [HT1.out]; exact HS.out.2.1 b hb
          exact Lib.hid ⟨hk3.own HO1.out HF.out ht2, fun b hb => hk3.not (HO1.out.lt b hb).2 (ht2 b hb), Nat.le_trans HS.out.2.2 (Nat.le_trans HBA.out hk3.size)⟩
        clear hk3
        gi_wp2
        go_roundw
        case rel => exact ⟨p + 1, by omega, by go_num, hJ3, HS3⟩
        case measure => simp [intOf]; omega
      · gi_wp2
        refine bodyPost_ret (results_none rfl _ _ _) rfl ?_
        exact ⟨⟨_, rfl⟩, .inr ⟨_, HP.out, hJx3⟩⟩
    · obtain rfl : p = N := by omega
      rw [HRL.out] at hJs
      gi_wp2
      go_end0
      exact ⟨⟨_, rfl⟩, .inl ⟨_, rfl, hJs⟩⟩
/-- The function that slices.All hands back, as a loop wants it. -/
theorem sall_stops (n : Nat) (hn : 1 ≤ n) (gb base : Nat) (v : Value) (R : List (Int × Int)) (Fx : Nat → Prop) (tb : World → Option Nat) (B0 : Nat) (hloc : Loc B0 tb) (w : World) (hB0 : B0 ≤ w.heap.size)
    (hbox : w.heap[gb]? = some (.cells #[v] 51 (0, 0))) (hown : w.ownsRow base 59 2 v R.length (fl eI eI R))
    (hF : ∀ b, v.ownBlock = some b → ¬ Fx b) (htb : ∀ b, v.ownBlock = some b → tb w ≠ some b) :
    SeqStopsK Fence.wide n Try.prog 43 #[.pointer (some ⟨gb, 0, none⟩)] encs (Kq Fx tb) (fun ys => ys = en R) (fun pre => pre <+: en R) R.length w := fun l J Jx W hW hJ _ hY h0 =>
  sall_in n hn l gb base v R Fx tb B0 hloc J Jx W (Nat.le_trans hB0 hW.size) hJ hY ((hW.block gb (Array.getElem?_eq_some_iff.1 hbox).1).trans hbox) (own_below hown hW) hF (fun b hb => by rw [hloc _ _ (fun k hk => hW.block k (by omega))]; exact htb b hb) h0
end Go.Proofs.Ytobigmcfbkgmbaa
