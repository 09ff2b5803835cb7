/- place; All, and the function that All hands back. -/
import Derived.RangeFuncNested
import Derived.RangeFuncBound
import Derived.RangeFuncCalls
import Derived.RangeFuncLeaves
import Derived.RangeFuncWrites
import Derived.RangeFuncBox
import Derived.Shelf.Abstract
import Derived.Shelf.RegionOpen
import Derived.WalkKit
import Derived.OwnWalkIn
import Derived.TacticsInMore
import Derived.LoopNIn
import Derived.LoopIn
import Derived.Test.YtgnfohncgfgecaaMb
namespace Go.Proofs.Ytgnfohncgfgecaa
open Go.RowKit Go.Shelf
attribute [local go_sem] Oper.semAt_some

set_option maxRecDepth 100000 in
set_option maxHeartbeats 1000000 in
theorem place_any (w : World) (base g : Nat) (ls : List Ltr) (lost : Int) (v : Value) (id n : Int) (r : Bool) (d : Nat → Int) (h : Bx w base g ls lost v) :
    Calls Try.prog 29 #[.pointer (some ⟨g, 0, none⟩), .agg #[.int .i64 id, .bool r, .int .i64 n, .int .u8 (d 0), .int .u8 (d 1), .int .u8 (d 2), .int .u8 (d 3), .int .u8 (d 4), .int .u8 (d 5), .int .u8 (d 6), .int .u8 (d 7)]] w fun e w' => e = .returned (.int .i64 (plc (rk id r n d) ls : Nat)) ∧ Below w.heap.size w w' := by
  have hb : Below w.heap.size w (w.alloc (.cells #[.int .i64 id, .bool r, .int .i64 n, .int .u8 (d 0), .int .u8 (d 1), .int .u8 (d 2), .int .u8 (d 3), .int .u8 (d 4), .int .u8 (d 5), .int .u8 (d 6), .int .u8 (d 7)] 30)) := (Below.refl _ _).alloc (Nat.le_refl _) _
  have hf := frame_new w id n r d
  have hbx := h.below hb
  have hix := index_any _ base ls.length v ls w.heap.size id n r d hf hbx.row (by have := h.few; omega)
  obtain ⟨c0, _⟩ := hbx.cells
  have hple := plc_le (rk id r n d) ls
  have hfew := h.few
  have HB := Lib.hid hb
  have HX := Lib.hid hix
  have HBX := Lib.hid hbx
  clear hb hf hix h hbx
  by_cases hp : plc (rk id r n d) ls < ls.length
  · have e : idx (rk id r n d) ls = (plc (rk id r n d) ls : Nat) := if_pos hp
    rw [e] at HX
    generalize plc (rk id r n d) ls = P at *
    clear e hp
    go_enter Try.func29, Try.ntmps29
    go_wp2_with fail
    generalize w.alloc (.cells #[.int .i64 id, .bool r, .int .i64 n, .int .u8 (d 0), .int .u8 (d 1), .int .u8 (d 2), .int .u8 (d 3), .int .u8 (d 4), .int .u8 (d 5), .int .u8 (d 6), .int .u8 (d 7)] 30) = w0 at *
    refine HX.out.mono ?_
    rintro e w1 ⟨rfl, hb1⟩
    have hbb := HB.out.trans (hb1.mono HB.out.size)
    clear c0
    go_wp2_with fail
    go_ret
    exact ⟨rfl, hbb⟩
  · have e : idx (rk id r n d) ls = -1 := if_neg hp
    have e2 : plc (rk id r n d) ls = ls.length := by omega
    rw [e] at HX
    rw [e2]
    clear e hp e2 hple
    have hlen : ∃ a c, v = .slice a ls.length c := by
      rcases HBX.out.row.2 with ⟨rfl, h0⟩ | ⟨g', cap, cur, rfl, _⟩
      · exact ⟨none, 0, by rw [h0]⟩
      · exact ⟨_, _, rfl⟩
    obtain ⟨a, c, rfl⟩ := hlen
    generalize hN : ls.length = N at *
    have HNL := Lib.hid hN
    clear hN
    go_enter Try.func29, Try.ntmps29
    go_wp2_with fail
    generalize w.alloc (.cells #[.int .i64 id, .bool r, .int .i64 n, .int .u8 (d 0), .int .u8 (d 1), .int .u8 (d 2), .int .u8 (d 3), .int .u8 (d 4), .int .u8 (d 5), .int .u8 (d 6), .int .u8 (d 7)] 30) = w0 at *
    refine HX.out.mono ?_
    rintro e w1 ⟨rfl, hb1⟩
    have hbb := HB.out.trans (hb1.mono HB.out.size)
    have hbx1 := HBX.out.below hb1
    obtain ⟨k0, _⟩ := hbx1.cells
    clear c0 hbx1
    go_wp2_with fail
    go_ret
    exact ⟨rfl, hbb⟩
theorem all_any (w : World) (p : Option Addr) :
    Calls Try.prog 25 #[.pointer p] w fun e w' => e = .returned (.func (Fn.func 36) #[] #[.pointer (some ⟨w.heap.size, 0, none⟩)]) ∧ w' = w.alloc (.cells #[.pointer p] 23) := by
  go_enter Try.func25, Try.ntmps25
  go_wp2_with fail
  go_ret
  exact ⟨rfl, rfl⟩

/-- What a round keeps: all cells that were there, but for some blocks, and one that the world itself tells. -/
structure Kq (Fx : Nat → Prop) (tb : World → Option Nat) (W W' : World) : Prop where
  size : W.heap.size ≤ W'.heap.size
  cells : ∀ k cs t fr, W.heap[k]? = some (.cells cs t fr) → ¬ Fx k → tb W ≠ some k → W'.heap[k]? = W.heap[k]?
  next : tb W' = tb W ∨ ∃ b, tb W' = some b ∧ W.heap.size ≤ b
theorem kq_t {Fx : Nat → Prop} {tb : World → Option Nat} {A B C : World} (h : Kq Fx tb A B) (k : Kq Fx tb B C) : Kq Fx tb A C := by
  refine ⟨Nat.le_trans h.size k.size, fun i cs t fr hi hF ht => ?_, ?_⟩
  · have h1 := h.cells i cs t fr hi hF ht
    refine (k.cells i cs t fr (h1.trans hi) hF ?_).trans h1
    intro e
    rcases h.next with h2 | ⟨b, h2, h3⟩
    · exact ht (h2 ▸ e)
    · rw [h2] at e; cases e
      have := (Array.getElem?_eq_some_iff.1 hi).1
      omega
  · rcases k.next with h2 | ⟨b, h2, h3⟩
    · rw [h2]; exact h.next
    · exact .inr ⟨b, h2, Nat.le_trans h.size h3⟩
theorem own_kq {Fx : Nat → Prop} {tb : World → Option Nat} {w w' : World} {base e s n : Nat} {v : Value} {xs : List Value} (h : w.ownsRow base e s v n xs) (hk : Kq Fx tb w w') (hF : ∀ b, v.ownBlock = some b → ¬ Fx b) (ht : ∀ b, v.ownBlock = some b → tb w ≠ some b) : w'.ownsRow base e s v n xs := by
  refine ⟨h.1, ?_⟩
  rcases h.2 with hn | ⟨g, cap, cur, rfl, hb, hgg, rest⟩
  · exact .inl hn
  · exact .inr ⟨g, cap, cur, rfl, hb, (hk.cells g _ _ _ hgg (hF g rfl) (ht g rfl)).trans hgg, rest⟩
theorem kq_below {Fx : Nat → Prop} {tb : World → Option Nat} {w w' : World} (h : Below w.heap.size w w') (ht : tb w' = tb w) : Kq Fx tb w w' :=
  ⟨h.size, fun k _ _ _ hk _ _ => h.block k (Array.getElem?_eq_some_iff.1 hk).1, .inl ht⟩
theorem take_snoc' {ls : List Ltr} {p : Nat} {x : Ltr} (h : ls[p]? = some x) : ls.take p ++ [x] = ls.take (p + 1) := by
  obtain ⟨hl, e⟩ := List.getElem?_eq_some_iff.1 h
  rw [List.take_succ_eq_append_getElem hl, e]

set_option maxRecDepth 100000 in
set_option maxHeartbeats 2000000 in
/-- The function that All hands back, for every loop body that keeps what the clone holds. -/
theorem all_in (n : Nat) (hn : 1 ≤ n) (l gb g base : Nat) (ls : List Ltr) (lost : Int) (v : Value) (Fx : Nat → Prop) (tb : World → Option Nat) (J Jx : List Ltr → World → Prop) (W : World) (hab : AbidesFrom W.heap.size J)
    (hY : ∀ pre x W, J pre W → pre.length < ls.length → YieldAt Fence.wide (n - 1) Try.prog l #[.agg #[.int .i64 x.id, .bool x.r, .int .i64 x.n, .int .u8 (x.d 0), .int .u8 (x.d 1), .int .u8 (x.d 2), .int .u8 (x.d 3), .int .u8 (x.d 4), .int .u8 (x.d 5), .int .u8 (x.d 6), .int .u8 (x.d 7)], .bool x.s] W fun e W' =>
      (e = .returned (.bool true) ∧ J (pre ++ [x]) W' ∧ Kq Fx tb W W') ∨ (e = .returned (.bool false) ∧ Jx (pre ++ [x]) W'))
    (hbox : W.heap[gb]? = some (.cells #[.pointer (some ⟨g, 0, none⟩)] 23 (0, 0))) (hq : Bx W base g ls lost v)
    (hF : ∀ k, Fx k → k < W.heap.size) (htb : ∀ W1 W2, W.heap.size ≤ W1.heap.size → Below W1.heap.size W1 W2 → tb W2 = tb W1) (htl : ∀ b, tb W = some b → b < W.heap.size) (h0 : J [] W) :
    CallsIn Fence.wide n Try.prog 36 #[.func (.yield l) #[] #[], .pointer (some ⟨gb, 0, none⟩)] W fun e W' => (∃ v, e = .returned v) ∧
      ((∃ ys, ys = ls ∧ J ys W') ∨ (∃ pre, pre <+: ls ∧ Jx pre W')) := by
  have hN := hq.few
  have cb : W.cell? ⟨gb, 0, none⟩ = some (.pointer (some ⟨g, 0, none⟩)) := by rw [cell_of_row _ _ _ _ _ _ hbox]; rfl
  obtain ⟨c1, _⟩ := hq.cells
  have hcl := clone_any W base ls.length v (flat ls) hq.row (by omega) (flat_one ls)
  have HCL := Lib.hid hcl
  clear hcl hq hbox
  refine callsIn_of_wp Try.func36 rfl trivial ?_ rfl
  simp only [Try.ntmps36, List.size_toArray, List.length_cons, List.length_nil, Nat.reduceAdd, Nat.reduceSub, Array.replicate_succ, Array.replicate_zero, List.push_toArray, List.append_toArray, List.nil_append, List.cons_append]
  gi_wp2_with fail
  refine ⟨trivial, ?_⟩
  refine (callsIn_wide.2 HCL.out).mono ?_
  rintro e w1 ⟨v1, rfl, hown, hb1⟩
  have hlen : ∃ a c, v1 = .slice a ls.length c := by
    rcases hown.2 with ⟨rfl, h0⟩ | ⟨g', cap, cur, rfl, _⟩
    · exact ⟨none, 0, by rw [h0]⟩
    · exact ⟨_, _, rfl⟩
  obtain ⟨Ac, cc, rfl⟩ := hlen
  have hJ1 : J [] w1 := hab [] W w1 none h0 (grown_below none hb1) (fun r e => by cases e)
  have hF1 : ∀ b, (Value.slice Ac ls.length cc).ownBlock = some b → ¬ Fx b := fun b hb hf => by have := (hown.lt b hb).1; have := hF b hf; omega
  have ht1 : ∀ b, (Value.slice Ac ls.length cc).ownBlock = some b → tb w1 ≠ some b := fun b hb he => by
    rw [htb W w1 (Nat.le_refl _) hb1] at he
    have := (hown.lt b hb).1; have := htl b he; omega
  have HF := Lib.hid hF1
  have HST : Hid ((w1.ownsRow W.heap.size 66 12 (.slice Ac ls.length cc) ls.length (flat ls)) ∧ (∀ b, (Value.slice Ac ls.length cc).ownBlock = some b → tb w1 ≠ some b) ∧ W.heap.size ≤ w1.heap.size) := ⟨hown, ht1, hb1.size⟩
  have HB1 := Lib.hid hb1
  have HAB := Lib.hid hab
  have HY := Lib.hid hY
  have HTB := Lib.hid htb
  clear hown hF1 ht1 hab hY htb htl hF h0 c1 cb HCL hb1
  generalize hNN : ls.length = N at *
  have HNN := Lib.hid hNN
  clear hNN
  gi_wp2_with fail
  gi_loopw [13] (fun i wr => ∃ p : Nat, p ≤ N ∧ i = .int .i64 p ∧ J (ls.take p) wr ∧ Hid ((wr.ownsRow W.heap.size 66 12 (.slice Ac N cc) N (flat ls)) ∧ (∀ b, (Value.slice Ac N cc).ownBlock = some b → tb wr ≠ some b) ∧ W.heap.size ≤ wr.heap.size))
    (fun i _ => N - (intOf i).toNat)
  case atStart => exact ⟨0, Nat.zero_le _, rfl, hJ1, HST⟩
  case round =>
    obtain ⟨p, hp, rfl, hJs, HS⟩ := hrel
    by_cases hlt : p < N
    · obtain ⟨b, cap, cur, e0, _⟩ := own_some HS.out.1 (by omega)
      obtain ⟨rfl, _, rfl⟩ : Ac = some ⟨b, 0, none⟩ ∧ N = N ∧ cc = cap := by cases e0; exact ⟨rfl, rfl, rfl⟩
      clear e0
      obtain ⟨x, hx⟩ : ∃ x, ls[p]? = some x := ⟨_, List.getElem?_eq_getElem (by rw [HNN.out]; exact hlt)⟩
      obtain ⟨c0, c1, c2, c3, c4, c5, c6, c7, c8, c9, c10, c11⟩ := ltr_cells HS.out.1 hx
      have hxt := take_snoc' hx
      have hlen : (ls.take p).length < N := by rw [List.length_take]; omega
      have hpre : ls.take (p + 1) <+: ls := List.take_prefix _ _
      have hJ2 : J (ls.take p) (wr.alloc (.cells #[.int .i64 x.id, .bool x.r, .int .i64 x.n, .int .u8 (x.d 0), .int .u8 (x.d 1), .int .u8 (x.d 2), .int .u8 (x.d 3), .int .u8 (x.d 4), .int .u8 (x.d 5), .int .u8 (x.d 6), .int .u8 (x.d 7), .bool x.s] 66)) := HAB.out _ wr _ none hJs (World.grownBy_alloc _ _ _) (fun r e => by cases e)
      have hba : Below wr.heap.size wr (wr.alloc (.cells #[.int .i64 x.id, .bool x.r, .int .i64 x.n, .int .u8 (x.d 0), .int .u8 (x.d 1), .int .u8 (x.d 2), .int .u8 (x.d 3), .int .u8 (x.d 4), .int .u8 (x.d 5), .int .u8 (x.d 6), .int .u8 (x.d 7), .bool x.s] 66)) := (Below.refl _ _).alloc (Nat.le_refl _) _
      obtain ⟨fn, tmps, assign, body, hy, hRd⟩ := HY.out _ x (wr.alloc (.cells #[.int .i64 x.id, .bool x.r, .int .i64 x.n, .int .u8 (x.d 0), .int .u8 (x.d 1), .int .u8 (x.d 2), .int .u8 (x.d 3), .int .u8 (x.d 4), .int .u8 (x.d 5), .int .u8 (x.d 6), .int .u8 (x.d 7), .bool x.s] 66)) hJ2 hlen
      rw [hxt] at hRd
      try dsimp only at hy
      have hS2 : (World.ownsRow (wr.alloc (.cells #[.int .i64 x.id, .bool x.r, .int .i64 x.n, .int .u8 (x.d 0), .int .u8 (x.d 1), .int .u8 (x.d 2), .int .u8 (x.d 3), .int .u8 (x.d 4), .int .u8 (x.d 5), .int .u8 (x.d 6), .int .u8 (x.d 7), .bool x.s] 66)) W.heap.size 66 12 (.slice (some ⟨b, 0, none⟩) N cc) N (flat ls)) ∧ (∀ b', (Value.slice (some ⟨b, 0, none⟩) N cc).ownBlock = some b' → tb (wr.alloc (.cells #[.int .i64 x.id, .bool x.r, .int .i64 x.n, .int .u8 (x.d 0), .int .u8 (x.d 1), .int .u8 (x.d 2), .int .u8 (x.d 3), .int .u8 (x.d 4), .int .u8 (x.d 5), .int .u8 (x.d 6), .int .u8 (x.d 7), .bool x.s] 66)) ≠ some b') ∧ W.heap.size ≤ (World.heap (wr.alloc (.cells #[.int .i64 x.id, .bool x.r, .int .i64 x.n, .int .u8 (x.d 0), .int .u8 (x.d 1), .int .u8 (x.d 2), .int .u8 (x.d 3), .int .u8 (x.d 4), .int .u8 (x.d 5), .int .u8 (x.d 6), .int .u8 (x.d 7), .bool x.s] 66))).size := ⟨HS.out.1.alloc _, fun b' hb' => by rw [HTB.out wr _ HS.out.2.2 hba]; exact HS.out.2.1 b' hb', Nat.le_trans HS.out.2.2 hba.size⟩
      have HS2 := Lib.hid hS2
      have HRD := Lib.hid hRd
      have HP := Lib.hid hpre
      clear hx hxt hlen hpre hJs hJ2 hba hRd hS2
      have hpi : (p : Int) < (N : Int) := by omega
      have hp0 : (0 : Int) ≤ (p : Int) := by omega
      gi_wp2_with fail
      generalize (wr.alloc (.cells #[.int .i64 x.id, .bool x.r, .int .i64 x.n, .int .u8 (x.d 0), .int .u8 (x.d 1), .int .u8 (x.d 2), .int .u8 (x.d 3), .int .u8 (x.d 4), .int .u8 (x.d 5), .int .u8 (x.d 6), .int .u8 (x.d 7), .bool x.s] 66)) = wa at *
      refine HRD.out.mono ?_
      clear c0 c1 c2 c3 c4 c5 c6 c7 c8 c9 c10 c11
      rintro e W3 (⟨rfl, hJ3, hk3⟩ | ⟨rfl, hJx3⟩)
      · have HS3 : Hid ((W3.ownsRow W.heap.size 66 12 (.slice (some ⟨b, 0, none⟩) N cc) N (flat ls)) ∧ (∀ b', (Value.slice (some ⟨b, 0, none⟩) N cc).ownBlock = some b' → tb W3 ≠ some b') ∧ W.heap.size ≤ W3.heap.size) := by
          refine ⟨own_kq HS2.out.1 hk3 HF.out HS2.out.2.1, fun b' hb' e => ?_, Nat.le_trans HS2.out.2.2 hk3.size⟩
          rcases hk3.next with h2 | ⟨b2, h2, h3⟩
          · exact HS2.out.2.1 b' hb' (h2 ▸ e)
          · rw [h2] at e; cases e
            have := (HS2.out.1.lt b' hb').2
            omega
        clear hk3
        gi_wp2
        go_roundw
        case rel => exact ⟨p + 1, by omega, by go_num, hJ3, HS3⟩
        case measure => simp [intOf]; omega
      · gi_wp2
        refine bodyPost_ret (results_none rfl _ _ _) rfl ?_
        exact ⟨⟨_, rfl⟩, .inr ⟨_, HP.out, hJx3⟩⟩
    · obtain rfl : p = N := by omega
      have hx : ls.take p = ls := List.take_of_length_le (by rw [HNN.out]; exact Nat.le_refl _)
      rw [hx] at hJs
      clear hx
      gi_wp2
      go_end0
      exact ⟨⟨_, rfl⟩, .inl ⟨_, rfl, hJs⟩⟩
theorem all_stops (n : Nat) (hn : 1 ≤ n) (gb g base : Nat) (ls : List Ltr) (lost : Int) (v : Value) (Fx : Nat → Prop) (tb : World → Option Nat) (w : World)
    (hbox : w.heap[gb]? = some (.cells #[.pointer (some ⟨g, 0, none⟩)] 23 (0, 0))) (hq : Bx w base g ls lost v)
    (hF : ∀ k, Fx k → k < w.heap.size) (htb : ∀ W1 W2, w.heap.size ≤ W1.heap.size → Below W1.heap.size W1 W2 → tb W2 = tb W1) (htl : ∀ W b, Below w.heap.size w W → tb W = some b → b < W.heap.size) :
    SeqStopsK Fence.wide n Try.prog 36 #[.pointer (some ⟨gb, 0, none⟩)] (fun x : Ltr => #[.agg #[.int .i64 x.id, .bool x.r, .int .i64 x.n, .int .u8 (x.d 0), .int .u8 (x.d 1), .int .u8 (x.d 2), .int .u8 (x.d 3), .int .u8 (x.d 4), .int .u8 (x.d 5), .int .u8 (x.d 6), .int .u8 (x.d 7)], .bool x.s]) (Kq Fx tb) (fun ys => ys = ls) (fun pre => pre <+: ls) ls.length w := fun l J Jx W hW hJ _ hY h0 =>
  all_in n hn l gb g base ls lost v Fx tb J Jx W hJ hY ((hW.block gb (Array.getElem?_eq_some_iff.1 hbox).1).trans hbox) (hq.below hW) (fun k hk => Nat.lt_of_lt_of_le (hF k hk) hW.size) (fun W1 W2 h hb => htb W1 W2 (Nat.le_trans hW.size h) hb) (fun b hb => htl W b hW hb) h0
theorem kq_b {Fx : Nat → Prop} {tb : World → Option Nat} {w : World} (htp : ∀ (W : World) l o', w.heap.size ≤ l → tb (W.putObj l o') = tb W) (W : World) (l : Nat) (o o' : Obj) (hl : w.heap.size ≤ l) (h : W.heap[l]? = some o) (h1 : o.isCells = false) (_ : o.isWalk = false) : Kq Fx tb W (W.putObj l o') := by
  have hg := grownBy_putObj' W l o'
  refine ⟨hg.size, fun k cs t fr hk _ _ => hg.block k (Array.getElem?_eq_some_iff.1 hk).1 (fun e => ?_), .inl (htp W l o' hl)⟩
  cases e
  rw [hk] at h
  cases h
  cases h1
theorem kq_set {Fx : Nat → Prop} {tb : World → Option Nat} (W : World) (a : Addr) (v : Value) (hF : Fx a.block) (ht : tb (W.setCell a v) = tb W) : Kq Fx tb W (W.setCell a v) :=
  ⟨by simp, fun k cs t fr hk hn _ => Below.heap_setCell _ _ _ _ (fun e => hn (e ▸ hF)), .inl ht⟩
theorem kq_refl {Fx : Nat → Prop} {tb : World → Option Nat} (W : World) : Kq Fx tb W W := ⟨Nat.le_refl _, fun _ _ _ _ _ _ _ => rfl, .inl rfl⟩
end Go.Proofs.Ytgnfohncgfgecaa
