/- Next, All, the function that All hands back, and Take. -/
import Derived.RangeFuncNested
import Derived.RangeFuncBound
import Derived.RangeFuncCalls
import Derived.RangeFuncLeaves
import Derived.RangeFuncWrites
import Derived.RangeFuncBox
import Derived.Shelf.Abstract
import Derived.Shelf.RegionOpen
import Derived.OwnWalkIn
import Derived.TacticsInMore
import Derived.LoopNIn
import Derived.LoopIn
import Derived.Sort.QuietIn
import Derived.Test.YtiidgcgamcgipaaBTq
namespace Go.Proofs.Ytiidgcgamcgipaa
open Go.RowKit Go.Shelf
set_option linter.unusedSimpArgs false
set_option linter.unusedVariables false
attribute [local go_sem] Oper.semAt_some

/-- What a round keeps: all blocks of one type. -/
def KpT (td : TypeId) (W W' : World) : Prop := W.heap.size ≤ W'.heap.size ∧ ∀ (k : Nat) cs fr, W.heap[k]? = some (Obj.cells cs td fr) → W'.heap[k]? = W.heap[k]?
theorem kpt_t {td : TypeId} {A B C : World} (h : KpT td A B) (k : KpT td B C) : KpT td A C := ⟨Nat.le_trans h.1 k.1, fun i cs fr hi => (k.2 i cs fr ((h.2 i cs fr hi).trans hi)).trans (h.2 i cs fr hi)⟩
theorem kpt_below {td : TypeId} {W W' : World} (h : Below W.heap.size W W') : KpT td W W' := ⟨h.size, fun k _ _ hk => h.block k (Array.getElem?_eq_some_iff.1 hk).1⟩
theorem kpt_put {td : TypeId} {W : World} {l : Nat} {o o' : Obj} (ho : W.heap[l]? = some o) (hc : o.isCells = false) : KpT td W (W.putObj l o') :=
  ⟨by simp, fun k cs fr hk => World.putObj_heap_other (fun e => by subst e; rw [hk] at ho; cases ho; cases hc)⟩
theorem kpt_own {td : TypeId} {W W' : World} (h : KpT td W W') {base s n : Nat} {v : Value} {xs : List Value} (ho : W.ownsRow base td s v n xs) : W'.ownsRow base td s v n xs := by
  refine ⟨ho.1, ?_⟩
  rcases ho.2 with hn | ⟨b, cap, cur, e, hb, hg, rest⟩
  · exact .inl hn
  · exact .inr ⟨b, cap, cur, e, hb, (h.2 b _ _ hg).trans hg, rest⟩
theorem pair_at {κ : Type} {ek : κ → Value} {w : World} {base e n c p : Nat} {a : Option Addr} {R : List (κ × Int)} {x : κ × Int} (h : w.ownsRow base e 2 (.slice a n c) n (fl ek eI R)) (hx : R[p]? = some x) :
    ∃ g, a = some ⟨g, 0, none⟩ ∧ g < w.heap.size ∧ n ≤ c ∧ c ≤ maxLen ∧ w.cell? ⟨g, p * 2, none⟩ = some (ek x.1) ∧ w.cell? ⟨g, p * 2 + 1, none⟩ = some (.int .i64 x.2) := by
  have hlt := (List.getElem?_eq_some_iff.1 hx).1
  have hl := h.1
  rw [fl_len] at hl
  obtain ⟨g, cap, cur, e1, _, hg, hnc, hm, _⟩ := own_some h (by omega)
  cases e1
  refine ⟨g, rfl, (Array.getElem?_eq_some_iff.1 hg).1, hnc, hm, ?_, ?_⟩
  · rw [own_cell h (by omega), fl_key ek eI R p x hx]
  · rw [own_cell h (by omega), fl_val ek eI R p x hx]; rfl
theorem take_at' {κ : Type} {R : List (κ × Int)} {p : Nat} {x : κ × Int} (hx : R[p]? = some x) : R.take p ++ [x] = R.take (p + 1) := by
  obtain ⟨hi, e⟩ := List.getElem?_eq_some_iff.1 hx
  rw [List.take_succ_eq_append_getElem hi, e]

theorem next_noI (w : World) (base g s : Nat) (T : List (Int × Int)) (v u : Value) (h : TmI w base g s [] T v u) :
    Calls Try.prog 59 #[.pointer (some ⟨g, 0, none⟩)] w fun e w' => e = .returned (.tuple #[.int .i64 0, .bool false]) ∧ w' = w := by
  have HL := Lib.hid (tlenI w base g s [] T v u h)
  clear h
  go_enter Try.func59, Try.ntmps59
  go_wp2_with fail
  refine HL.out.mono ?_
  rintro e w1 ⟨rfl, rfl⟩
  go_wp2_with fail
  go_ret2
  exact ⟨rfl, rfl⟩
theorem next_yesI (w : World) (base g s : Nat) (x : Int × Int) (L T : List (Int × Int)) (v u : Value) (h : TmI w base g s (x :: L) T v u) :
    Calls Try.prog 59 #[.pointer (some ⟨g, 0, none⟩)] w fun e w' => e = .returned (.tuple #[.int .i64 x.2, .bool true]) ∧ w' = w := by
  have HL := Lib.hid (tlenI w base g s (x :: L) T v u h)
  obtain ⟨a, c, rfl⟩ := own_slice h.row
  obtain ⟨b, rfl, hg, hnc, hm, d0, d1⟩ := pair_at (p := 0) h.row rfl
  obtain ⟨c0, c1⟩ := h.cells
  have hl := h.lt
  simp only [maxLen] at hm
  obtain ⟨xk, xa⟩ := x
  have hN : ((xk, xa) :: L).length = L.length + 1 := rfl
  rw [hN] at HL c1 hnc
  have hne : (((L.length + 1 : Nat) : Int) == 0) = false := beq_eq_false_iff_ne.2 (by omega)
  have hpos : (0 : Int) < ((L.length + 1 : Nat) : Int) := by omega
  generalize L.length + 1 = N at *
  simp only [Nat.zero_mul, Nat.zero_add] at d0 d1
  clear h hN
  go_enter Try.func59, Try.ntmps59
  go_wp2_with fail
  refine HL.out.mono ?_
  rintro e w1 ⟨rfl, rfl⟩
  go_wp2_with fail
  go_ret2
  exact ⟨rfl, rfl⟩
theorem tall_anyI (w : World) (p : Option Addr) :
    Calls Try.prog 60 #[.pointer p] w fun e w' => e = .returned (.func (Fn.func 84) #[] #[.pointer (some ⟨w.heap.size, 0, none⟩)]) ∧ w' = w.alloc (.cells #[.pointer p] 72) := by
  go_enter Try.func60, Try.ntmps60
  go_wp2_with fail
  go_ret
  exact ⟨rfl, rfl⟩
def encTI (x : Int × Int) : Array Value := #[.int .i64 x.1, .int .i64 x.2]
set_option maxRecDepth 100000 in
set_option maxHeartbeats 2000000 in
theorem tall_inI (n : Nat) (hn : 1 ≤ n) (l gb base g s : Nat) (L T : List (Int × Int)) (v u : Value) (J Jx : List (Int × Int) → World → Prop) (W : World) (hab : AbidesFrom W.heap.size J)
    (hY : ∀ pre x W, J pre W → pre.length < L.length → YieldAt Fence.wide (n - 1) Try.prog l (encTI x) W fun e W' =>
      (e = .returned (.bool true) ∧ J (pre ++ [x]) W' ∧ KpT 98 W W') ∨ (e = .returned (.bool false) ∧ Jx (pre ++ [x]) W'))
    (hbox : W.heap[gb]? = some (.cells #[.pointer (some ⟨g, 0, none⟩)] 72 (0, 0))) (h : TmI W base g s L T v u) (hL : L.length ≤ 1000) (h0 : J [] W) :
    CallsIn Fence.wide n Try.prog 84 #[.func (.yield l) #[] #[], .pointer (some ⟨gb, 0, none⟩)] W fun e W' => (∃ v, e = .returned v) ∧
      ((∃ ys, ys = L ∧ J ys W') ∨ (∃ pre, pre <+: L ∧ Jx pre W')) := by
  have cb : W.cell? ⟨gb, 0, none⟩ = some (.pointer (some ⟨g, 0, none⟩)) := by rw [cell_of_row _ _ _ _ _ _ hbox]; rfl
  have hgl : gb < W.heap.size := (Array.getElem?_eq_some_iff.1 hbox).1
  obtain ⟨c0, c1⟩ := h.cells
  have hl := h.lt
  obtain ⟨a, c, rfl⟩ := own_slice h.row
  have HCL := Lib.hid (clone_anyT W base L.length (.slice a L.length c) (fl eI eI L) h.row (by omega) (fl_one eI eI (fun _ => rfl) (fun _ => rfl) L))
  have HX := Lib.hid (fun p (hp : p < L.length) => show ∃ x, L[p]? = some x from ⟨_, List.getElem?_eq_getElem hp⟩)
  have HRL : Hid (L.take L.length = L) := Lib.hid List.take_length
  have HAB := Lib.hid hab
  have HY := Lib.hid hY
  have HLN : Hid (∀ p, p < L.length → (L.take p).length < L.length) := Lib.hid (fun p hp => by rw [List.length_take]; omega)
  generalize hRN : L.length = N at *
  clear h hab hY hbox hRN
  refine callsIn_of_wp Try.func84 rfl trivial ?_ rfl
  simp only [Try.ntmps84, List.size_toArray, List.length_cons, List.length_nil, Nat.reduceAdd, Nat.reduceSub, Array.replicate_succ, Array.replicate_zero, List.push_toArray, List.append_toArray, List.nil_append, List.cons_append]
  gi_wp2_with fail
  refine ⟨trivial, ?_⟩
  refine (callsIn_wide.2 HCL.out).mono ?_
  rintro e w1 ⟨v1, rfl, hown, hb1⟩
  obtain ⟨a1, cc1, rfl⟩ := own_slice hown
  have hJ1 : J [] w1 := HAB.out [] W w1 none h0 (grown_below none hb1) (fun r e => by cases e)
  have HS : Hid (w1.ownsRow W.heap.size 98 2 (.slice a1 N cc1) N (fl eI eI L)) := Lib.hid hown
  clear hown hb1 c0 c1 cb h0 HCL
  gi_wp2_with fail
  gi_loopw [13] (fun i wr => ∃ p : Nat, p ≤ N ∧ i = .int .i64 p ∧ J (L.take p) wr ∧ Hid (wr.ownsRow W.heap.size 98 2 (.slice a1 N cc1) N (fl eI eI L)))
    (fun i _ => N - (intOf i).toNat)
  case atStart => exact ⟨0, Nat.zero_le _, rfl, hJ1, HS⟩
  case round =>
    clear HS hJ1
    obtain ⟨p, hp, rfl, hJs, HS⟩ := hrel
    by_cases hlt : p < N
    · obtain ⟨x, hx⟩ := HX.out p hlt
      obtain ⟨g2, rfl, hg, hnc, hm, c0, c1⟩ := pair_at HS.out hx
      simp only [maxLen] at hm
      have htk := take_at' hx
      have hlen := HLN.out p hlt
      have hpre : L.take (p + 1) <+: L := List.take_prefix _ _
      obtain ⟨xk, xv⟩ := x
      simp only [eI] at c0 c1
      have hba : Below wr.heap.size wr (wr.alloc (.cells #[.int .i64 xk, .int .i64 xv] 98)) := (Below.refl _ _).alloc (Nat.le_refl _) _
      have hJ1 : J (L.take p) (wr.alloc (.cells #[.int .i64 xk, .int .i64 xv] 98)) := HAB.out _ wr _ none hJs (grown_below none hba) (fun r e => by cases e)
      have how1 := own_below HS.out hba
      obtain ⟨fn, tmps, assign, body, hy, hRd⟩ := HY.out _ (xk, xv) _ hJ1 hlen
      rw [htk] at hRd
      dsimp only [encTI] at hy
      have HRD := Lib.hid hRd
      have HP := Lib.hid hpre
      have HO1 := Lib.hid how1
      have hpi : (p : Int) < (N : Int) := by omega
      have hp0 : (0 : Int) ≤ (p : Int) := by omega
      clear htk hlen hRd hpre hJ1 hx hba how1 hJs
      gi_wp2_with fail
      refine HRD.out.mono ?_
      rintro e W3 (⟨rfl, hJ3, hk3⟩ | ⟨rfl, hJx3⟩)
      · have HS3 : Hid (W3.ownsRow W.heap.size 98 2 (.slice (some ⟨g2, 0, none⟩) N cc1) N (fl eI eI L)) := Lib.hid (kpt_own hk3 HO1.out)
        clear hk3
        gi_wp2
        go_roundw
        case rel => exact ⟨p + 1, by omega, by go_num, hJ3, HS3⟩
        case measure => simp [intOf]; omega
      · gi_wp2
        refine bodyPost_ret (results_none rfl _ _ _) rfl ?_
        exact ⟨⟨_, rfl⟩, .inr ⟨_, HP.out, hJx3⟩⟩
    · obtain rfl : p = N := by omega
      rw [HRL.out] at hJs
      gi_wp2
      go_end0
      exact ⟨⟨_, rfl⟩, .inl ⟨_, rfl, hJs⟩⟩
theorem tall_stopsI (n : Nat) (hn : 1 ≤ n) (gb base g s : Nat) (L T : List (Int × Int)) (v u : Value) (w : World)
    (hbox : w.heap[gb]? = some (.cells #[.pointer (some ⟨g, 0, none⟩)] 72 (0, 0))) (h : TmI w base g s L T v u) (hL : L.length ≤ 1000) :
    SeqStopsK Fence.wide n Try.prog 84 #[.pointer (some ⟨gb, 0, none⟩)] encTI (KpT 98) (fun ys => ys = L) (fun pre => pre <+: L) L.length w := fun l J Jx W hW hJ _ hY h0 =>
  tall_inI n hn l gb base g s L T v u J Jx W hJ hY ((hW.block gb (Array.getElem?_eq_some_iff.1 hbox).1).trans hbox) (h.below hW) hL h0

def encTS (x : ByteArray × Int) : Array Value := #[.string x.1, .int .i64 x.2]
end Go.Proofs.Ytiidgcgamcgipaa