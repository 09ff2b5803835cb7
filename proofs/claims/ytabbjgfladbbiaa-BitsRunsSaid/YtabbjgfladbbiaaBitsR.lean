/- The runs of a row: what run, Runs and the function that Runs hands back do. -/
import Derived.RangeFuncNested
import Derived.RangeFuncBound
import Derived.RangeFuncCalls
import Derived.RangeFuncLeaves
import Derived.RangeFuncWrites
import Derived.Shelf.Abstract
import Derived.Shelf.RegionOpen
import Derived.WalkKit
import Derived.OwnWalkIn
import Derived.TacticsInMore
import Derived.LoopNIn
import Derived.LoopIn
import Derived.Test.YtabbjgfladbbiaaBitsT
namespace Go.Proofs.Ytabbjgfladbbiaa
open Go.RowKit Go.Shelf
attribute [local go_sem] Oper.semAt_some

/-- How many equal bits a row begins with. -/
def headN : List Int → Nat
  | [] => 0
  | x :: l => runW x l + 1
theorem headN_pos {l : List Int} (h : 0 < l.length) : 1 ≤ headN l := by
  cases l with
  | nil => simp at h
  | cons x l => simp [headN]
theorem headN_le (l : List Int) : headN l ≤ l.length := by
  cases l with
  | nil => exact Nat.le_refl _
  | cons x l => have := runW_le x l; simp only [headN, List.length_cons]; omega
theorem runW_all (c : Int) : ∀ (l : List Int) (i : Nat), i < runW c l → l.getD i 0 = c
  | [], i, h => by simp [runW] at h
  | x :: l, i, h => by
    unfold runW at h
    split at h
    · rename_i hx
      cases i with
      | zero => simpa using hx
      | succ i => have := runW_all c l i (by omega); simpa using this
    · omega
theorem runW_stop (c : Int) : ∀ (l : List Int), runW c l < l.length → ¬ l.getD (runW c l) 0 = c
  | [], h => by simp at h
  | x :: l, h => by
    unfold runW at h ⊢
    by_cases hx : x = c
    · rw [if_pos hx] at h ⊢
      have := runW_stop c l (by simpa using h)
      simpa using this
    · rw [if_neg hx]
      simpa using hx
theorem headN_all {l : List Int} {i : Nat} (h : i < headN l) : l.getD i 0 = l.getD 0 0 := by
  cases l with
  | nil => simp [headN] at h
  | cons x l =>
    cases i with
    | zero => rfl
    | succ i => have := runW_all x l i (by simp only [headN] at h; omega); simpa using this
theorem headN_stop {l : List Int} (h : headN l < l.length) : ¬ l.getD (headN l) 0 = l.getD 0 0 := by
  cases l with
  | nil => simp at h
  | cons x l =>
    have := runW_stop x l (by simp only [headN, List.length_cons] at h; omega)
    simpa [headN] using this
/-- Told by a walk. -/
theorem headN_walk {l : List Int} {m : Nat} (hm : m ≤ l.length) (ha : ∀ j, j < m → l.getD j 0 = l.getD 0 0) (hs : m = l.length ∨ ¬ l.getD m 0 = l.getD 0 0) : headN l = m := by
  rcases Nat.lt_trichotomy (headN l) m with h | h | h
  · exact absurd (ha (headN l) h) (headN_stop (by omega))
  · exact h
  · rcases hs with h1 | h1
    · have := headN_le l; omega
    · exact absurd (headN_all h) h1

theorem run_any (w : World) (A : Option Addr) (n c : Nat) (l : List Int) (h : Byt w w.heap.size A n c l) :
    Calls Try.prog 31 #[.slice A n c] w fun e w' => e = .returned (.int .i64 (headN l : Nat)) ∧ w = w' := by
  have hmn := h.max
  have hcn := h.cap
  have hln := h.len
  simp only [maxLen] at hmn
  rcases Nat.eq_zero_or_pos n with h0 | h0
  · subst h0
    obtain rfl := List.eq_nil_of_length_eq_zero hln
    clear h hln
    go_enter Try.func31, Try.ntmps31
    go_wp2_with fail
    refine wp_loop_rounds 1 ?_
    rw [rounds_succ]
    go_wp2
    go_ret
    exact ⟨rfl, rfl⟩
  · obtain ⟨b, off, rfl, hb, hc⟩ := h.cells h0
    have hc0 := hc 0 h0
    rw [Nat.add_zero] at hc0
    generalize hq0 : l.getD 0 0 = q0 at hc0
    have HQ0 := Lib.hid hq0
    have HL := Lib.hid hln
    have HC := Lib.hid hc
    clear hq0 hln hc h
    go_enter Try.func31, Try.ntmps31
    go_wp2_with fail
    go_loop [7] (fun i => ∃ j : Nat, j ≤ n ∧ i = .int .i64 j ∧ Hid (∀ t, t < j → l.getD t 0 = q0)) (fun i => n - (intOf i).toNat)
    case atStart => exact ⟨0, Nat.zero_le _, rfl, fun t ht => absurd ht (by omega)⟩
    case round =>
      obtain ⟨j, hj, rfl, hall⟩ := hrel
      by_cases hlt : j < n
      · have hcj := HC.out j hlt
        generalize hq : l.getD j 0 = q at hcj
        have HQ := Lib.hid hq
        clear hq
        by_cases hqq : q = q0
        · have t1 : (q != q0) = false := by simp [hqq]
          have HE := Lib.hid hqq
          clear hqq
          go_wp2
          go_round
          case rel =>
            refine ⟨j + 1, by omega, by go_num, fun t ht => ?_⟩
            rcases Nat.lt_or_ge t j with h1 | h1
            · exact hall.out t h1
            · obtain rfl : t = j := by omega
              exact HQ.out.trans HE.out
          case measure => simp [intOf]; omega
        · have t1 : (q != q0) = true := by simp [hqq]
          have HE := Lib.hid hqq
          clear hqq
          go_wp2
          go_ret
          have hl := HL.out
          have e := headN_walk (l := l) (m := j) (by omega) (fun t ht => by rw [HQ0.out]; exact hall.out t ht) (.inr (by rw [HQ.out, HQ0.out]; exact HE.out))
          exact ⟨ret_int (by rw [e]), rfl⟩
      · obtain rfl : n = j := by omega
        go_wp2
        go_ret
        have hl := HL.out
        have e := headN_walk (l := l) (m := n) (by omega) (fun t ht => by rw [HQ0.out]; exact hall.out t ht) (.inl hl.symm)
        exact ⟨ret_int (by rw [e]), rfl⟩

/-- Block gb holds the row that lies in block gr. -/
structure RunsAt (w : World) (gb gr n : Nat) (R : List Int) : Prop where
  box : w.heap[gb]? = some (.cells #[.slice (some ⟨gr, 0, none⟩) n n] 23 (0, 0))
  row : w.rowIs gr 5 n (fun j => .int .u8 (R.getD j 0))
theorem row_keep {w w' : World} {g n : Nat} {t : TypeId} {f : Nat → Value} (h : w.rowIs g t n f) (hb : w'.heap[g]? = w.heap[g]?) : w'.rowIs g t n f := by
  obtain ⟨c, h1, h2⟩ := h
  exact ⟨c, hb.trans h1, h2⟩
theorem runs_any (w : World) (A : Option Addr) (n c : Nat) (l : List Int) (h : Byt w w.heap.size A n c l) (hn : n ≤ 281474976710656) :
    Calls Try.prog 20 #[.slice A n c] w fun e w' => ∃ gb gr, e = .returned (.func (Fn.func 30) #[] #[.pointer (some ⟨gb, 0, none⟩)]) ∧ w.heap.size ≤ gb ∧ w.heap.size ≤ gr ∧ gb < w'.heap.size ∧ gr < w'.heap.size ∧ RunsAt w' gb gr n (pl l) ∧ Below w.heap.size w w' := by
  go_enter Try.func20, Try.ntmps20
  go_wp2_with fail
  refine (clean_any _ _ _ _ _ h hn).mono ?_
  rintro e w1 ⟨g, rfl, hg, hrow, hb1⟩
  have hgl := hrow.lt
  have HROW := Lib.hid hrow
  have hbx := ((Below.refl w1.heap.size w1).alloc (Nat.le_refl _) (.cells #[.slice (some ⟨g, 0, none⟩) n n] 23 (0, 0)))
  have hnew := heap_alloc_new w1 (.cells #[.slice (some ⟨g, 0, none⟩) n n] 23 (0, 0))
  have HX := Lib.hid hbx
  have HN := Lib.hid hnew
  clear h hrow hbx hnew
  go_wp2
  go_ret
  refine ⟨w1.heap.size, g, rfl, hb1.size, hg, by simp, by simp; omega, ⟨HN.out, row_keep HROW.out (HX.out.block g hgl)⟩, hb1.trans (HX.out.mono hb1.size)⟩

theorem Byt.cut' {w : World} {B n c : Nat} {A : Option Addr} {l : List Int} (h : Byt w B A n c l) {s : Nat} (hs : s ≤ n) : Byt w B (if c = s then A else A.map (fun x => x.add s)) (n - s) (c - s) (l.drop s) :=
  ⟨by rw [List.length_drop, h.len], by have := h.cap; omega, by have := h.max; omega, fun x hx => h.rng x (List.mem_of_mem_drop hx), fun h0 => by
    obtain ⟨b, off, rfl, hb, hc⟩ := h.cells (by omega)
    have := h.cap
    rw [if_neg (by omega)]
    refine ⟨b, off + s, ?_, hb, fun j hj => ?_⟩
    · show some ((⟨b, off, none⟩ : Addr).add s) = _
      have e : (⟨b, off, none⟩ : Addr).add s = ⟨b, off + s, none⟩ := by unfold Addr.add; split <;> simp_all
      rw [e]
    · rw [Nat.add_assoc, hc (s + j) (by omega)]
      simp [List.getD, List.getElem?_drop]⟩
theorem addr_at (g n : Nat) : Option.map (fun x : Addr => x.add n) (some ⟨g, 0, none⟩) = some ⟨g, n, none⟩ := by
  show some ((⟨g, 0, none⟩ : Addr).add n) = _
  unfold Addr.add
  split <;> simp_all

/-! ### What has come of a row -/
abbrev Elt := Int × Int
def posOf : List Elt → Int := List.foldl (fun s x => s + x.2) 0
def lastOf (pre : List Elt) : Int := (pre.getLast?.map (·.1)).getD 2
theorem posOf_snoc (pre : List Elt) (x : Elt) : posOf (pre ++ [x]) = posOf pre + x.2 := by simp [posOf]
theorem lastOf_snoc (pre : List Elt) (x : Elt) : lastOf (pre ++ [x]) = x.1 := by simp [lastOf]
/-- One more run fits where the row stands. -/
def okx (R : List Int) (p last : Int) (x : Elt) : Prop := 1 ≤ x.2 ∧ x.2 ≤ R.length - p ∧ ¬ x.1 = last ∧ x.1 ≤ 1 ∧ ∀ i : Nat, (i : Int) < x.2 → R.getD (p.toNat + i) 0 = x.1
/-- All of them fit. -/
inductive Fit (R : List Int) : List Elt → Prop
  | nil : Fit R []
  | snoc (pre : List Elt) (x : Elt) (h : Fit R pre) (hx : okx R (posOf pre) (lastOf pre) x) : Fit R (pre ++ [x])
theorem Fit.pos {R : List Int} {pre : List Elt} (h : Fit R pre) : 0 ≤ posOf pre ∧ posOf pre ≤ R.length ∧ (pre.length : Int) ≤ posOf pre := by
  induction h with
  | nil => exact ⟨Int.le_refl _, by simp [posOf], by simp [posOf]⟩
  | snoc pre x h hx ih =>
    rw [posOf_snoc]
    obtain ⟨h1, h2, _⟩ := hx
    simp only [List.length_append, List.length_cons, List.length_nil]
    omega
theorem Fit.last {R : List Int} {pre : List Elt} {x : Elt} (h : Fit R (pre ++ [x])) : okx R (posOf pre) (lastOf pre) x ∧ Fit R pre := by
  generalize e : pre ++ [x] = l at h
  cases h with
  | nil => simp at e
  | snoc pre' x' h' hx =>
    obtain ⟨rfl, e2⟩ := List.append_inj' e rfl
    obtain rfl : x = x' := by simpa using e2
    exact ⟨hx, h'⟩

/-- What a round keeps: the row, and the block that holds it. -/
def KeepR (gb gr : Nat) (W W' : World) : Prop := W'.heap[gb]? = W.heap[gb]? ∧ W'.heap[gr]? = W.heap[gr]? ∧ W.heap.size ≤ W'.heap.size
theorem keepR_t {gb gr : Nat} {A B C : World} (h : KeepR gb gr A B) (k : KeepR gb gr B C) : KeepR gb gr A C := ⟨k.1.trans h.1, k.2.1.trans h.2.1, Nat.le_trans h.2.2 k.2.2⟩
theorem RunsAt.keep {w w' : World} {gb gr n : Nat} {R : List Int} (h : RunsAt w gb gr n R) (hk : KeepR gb gr w w') : RunsAt w' gb gr n R := ⟨hk.1.trans h.box, row_keep h.row hk.2.1⟩

set_option maxRecDepth 100000 in
set_option maxHeartbeats 2000000 in
/-- The function that Runs hands back, for every loop body that keeps the row. -/
theorem iter_in (n : Nat) (hn : 1 ≤ n) (l gb gr len : Nat) (R : List Int) (hR : R.length = len) (hbits : ∀ x ∈ R, x = 0 ∨ x = 1) (hlen : len ≤ 281474976710656) (J Jx : List Elt → World → Prop)
    (hY : ∀ pre x W, J pre W → pre.length < len → YieldAt Fence.wide (n - 1) Try.prog l #[.int .u8 x.1, .int .i64 x.2] W fun e W' =>
      (e = .returned (.bool true) ∧ J (pre ++ [x]) W' ∧ KeepR gb gr W W') ∨ (e = .returned (.bool false) ∧ Jx (pre ++ [x]) W'))
    (W : World) (hgb : gb < W.heap.size) (hgr : gr < W.heap.size) (hA : RunsAt W gb gr len R) (h0 : J [] W) :
    CallsIn Fence.wide n Try.prog 30 #[.func (.yield l) #[] #[], .pointer (some ⟨gb, 0, none⟩)] W fun e W' => (∃ v, e = .returned v) ∧
      ((∃ ys, (Fit R ys ∧ posOf ys = len) ∧ J ys W') ∨ (∃ pre, Fit R pre ∧ Jx pre W')) := by
  refine callsIn_of_wp Try.func30 rfl trivial ?_ rfl
  simp only [Try.ntmps30, List.size_toArray, List.length_cons, List.length_nil, Nat.reduceAdd, Nat.reduceSub, Array.replicate_succ, Array.replicate_zero, List.push_toArray, List.append_toArray, List.nil_append, List.cons_append]
  gi_wp2
  gi_loopw [3] (fun i wr => ∃ (pre : List Elt) (p : Nat), p ≤ len ∧ i = .int .i64 p ∧ posOf pre = (p : Int) ∧ Fit R pre ∧ (p < len → ¬ R.getD p 0 = lastOf pre) ∧ J pre wr ∧ RunsAt wr gb gr len R ∧ gb < wr.heap.size ∧ gr < wr.heap.size)
    (fun i _ => len - (intOf i).toNat)
  case atStart =>
    refine ⟨[], 0, Nat.zero_le _, rfl, rfl, .nil, fun h => ?_, h0, hA, hgb, hgr⟩
    have : R.getD 0 0 = 0 ∨ R.getD 0 0 = 1 := by
      have e : R.getD 0 0 = R[0]'(by omega) := by simp [List.getD, show 0 < R.length by omega]
      rw [e]; exact hbits _ (List.getElem_mem _)
    intro e
    rw [e] at this
    simp [lastOf] at this
  case round =>
    obtain ⟨pre, p, hp, rfl, hpos, hfit, hnew, hJs, hAr, hgb', hgr'⟩ := hrel
    have hbox : wr.cell? ⟨gb, 0, none⟩ = some (.slice (some ⟨gr, 0, none⟩) len len) := by rw [cell_of_row _ _ _ _ _ _ hAr.box]; rfl
    by_cases hlt : p < len
    · have hBR : Byt wr wr.heap.size (some ⟨gr, 0, none⟩) len len R := Byt.of_row hAr.row hR (by simp only [maxLen]; omega) (fun x hx => by have := hbits x hx; omega)
      have hcut := hBR.cut' (s := p) (by omega)
      rw [if_neg (by omega), addr_at] at hcut
      have hrun := run_any wr _ _ _ _ hcut
      have hcp := hAr.row.cell hlt
      have hmlen : (R.drop p).length = len - p := by rw [List.length_drop, hR]
      have hm1 := headN_pos (l := R.drop p) (by omega)
      have hm2 := headN_le (R.drop p)
      have hmall : ∀ i, i < headN (R.drop p) → R.getD (p + i) 0 = R.getD p 0 := fun i hi => by
        have := headN_all (l := R.drop p) hi
        simpa [List.getD, List.getElem?_drop] using this
      have hmstop : headN (R.drop p) < len - p → ¬ R.getD (p + headN (R.drop p)) 0 = R.getD p 0 := fun h => by
        have := headN_stop (l := R.drop p) (by omega)
        simpa [List.getD, List.getElem?_drop] using this
      have hqb : R.getD p 0 = 0 ∨ R.getD p 0 = 1 := by
        have e : R.getD p 0 = R[p]'(by omega) := by simp [List.getD, show p < R.length by omega]
        rw [e]; exact hbits _ (List.getElem_mem _)
      have hnw := hnew hlt
      generalize headN (R.drop p) = m at hrun hm1 hm2 hmall hmstop
      generalize R.getD p 0 = q at hcp hmall hmstop hqb hnw
      have hfx : Fit R (pre ++ [(q, (m : Int))]) := .snoc pre _ hfit ⟨by show (1 : Int) ≤ (m : Int); omega, by show (m : Int) ≤ _; rw [hpos]; omega, hnw, by show q ≤ 1; omega, fun i hi => by
        rw [hpos, Int.toNat_natCast]; exact hmall i (by have : (i : Int) < (m : Int) := hi; omega)⟩
      have hpx : posOf (pre ++ [(q, (m : Int))]) = ((p + m : Nat) : Int) := by rw [posOf_snoc, hpos]; show (p : Int) + (m : Int) = _; omega
      have hnx : p + m < len → ¬ R.getD (p + m) 0 = lastOf (pre ++ [(q, (m : Int))]) := fun h => by rw [lastOf_snoc]; exact hmstop (by omega)
      have hpl := hfit.pos
      obtain ⟨fn, tmps, assign, body, hy, hRd⟩ := hY pre (q, (m : Int)) wr hJs (by omega)
      dsimp only at hy
      have HRUN := Lib.hid hrun
      have HFX := Lib.hid hfx
      have HPX := Lib.hid hpx
      have HNX := Lib.hid hnx
      have HAR := Lib.hid hAr
      have HRD := Lib.hid hRd
      have hpl1 : (p : Int) ≤ (len : Int) := by omega
      have hml : p + m ≤ len := by omega
      have hnep : ¬ len = p := by omega
      clear hBR hcut hrun hmlen hm2 hmall hmstop hqb hnw hfx hpx hnx hfit hpos hnew hpl hAr hRd
      gi_wp2_with fail
      refine ⟨trivial, ?_⟩
      refine (callsIn_wide.2 HRUN.out).mono ?_
      rintro e w1 ⟨rfl, rfl⟩
      gi_wp2_with fail
      refine HRD.out.mono ?_
      rintro e W3 (⟨rfl, hJ3, hk3⟩ | ⟨rfl, hJx3⟩)
      · have HK3 := Lib.hid hk3
        clear hk3
        gi_wp2
        go_roundw
        case rel => exact ⟨_, p + m, hml, by go_num, HPX.out, HFX.out, HNX.out, hJ3, HAR.out.keep HK3.out, Nat.lt_of_lt_of_le hgb' HK3.out.2.2, Nat.lt_of_lt_of_le hgr' HK3.out.2.2⟩
        case measure => simp [intOf]; omega
      · gi_wp2
        refine bodyPost_ret (results_none rfl _ _ _) rfl ?_
        exact ⟨⟨_, rfl⟩, .inr ⟨_, HFX.out, hJx3⟩⟩
    · obtain rfl : len = p := by omega
      have hx : Fit R pre ∧ posOf pre = (len : Int) := ⟨hfit, hpos⟩
      have HX := Lib.hid hx
      clear hx hpos hfit hnew hAr
      gi_wp2
      go_end0
      exact ⟨⟨_, rfl⟩, .inl ⟨_, HX.out, hJs⟩⟩

theorem iter_stops (n : Nat) (hn : 1 ≤ n) (gb gr len : Nat) (R : List Int) (hR : R.length = len) (hbits : ∀ x ∈ R, x = 0 ∨ x = 1) (hlen : len ≤ 281474976710656) (w : World) (hgb : gb < w.heap.size) (hgr : gr < w.heap.size) (hA : RunsAt w gb gr len R) :
    SeqStopsK Fence.wide n Try.prog 30 #[.pointer (some ⟨gb, 0, none⟩)] (fun x : Elt => #[Value.int .u8 x.1, Value.int .i64 x.2]) (KeepR gb gr) (fun ys => Fit R ys ∧ posOf ys = len) (fun pre => Fit R pre) len w := fun l J Jx W hW _ _ hY h0 =>
  iter_in n hn l gb gr len R hR hbits hlen J Jx hY W (Nat.lt_of_lt_of_le hgb hW.size) (Nat.lt_of_lt_of_le hgr hW.size) (hA.keep ⟨hW.block gb hgb, hW.block gr hgr, hW.size⟩) h0
theorem keepR_b {gb gr : Nat} {w : World} (hgb : gb < w.heap.size) (hgr : gr < w.heap.size) (W : World) (l : Nat) (o o' : Obj) (hl : w.heap.size ≤ l) (h : W.heap[l]? = some o) (h1 : o.isCells = false) (h2 : o.isWalk = false) : KeepR gb gr W (W.putObj l o') := by
  have hb := belowK_b (n₀ := w.heap.size) (Nat.le_refl _) W l o o' hl h h1 h2
  exact ⟨hb.block gb hgb, hb.block gr hgr, hb.size⟩
end Go.Proofs.Ytabbjgfladbbiaa
