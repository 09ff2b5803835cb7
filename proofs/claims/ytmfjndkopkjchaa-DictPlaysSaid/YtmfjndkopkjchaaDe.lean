/- A part of a table, its fork; what slices.All's function does. -/
import Derived.RangeFuncNested
import Derived.RangeFuncBound
import Derived.RangeFuncCalls
import Derived.RangeFuncLeaves
import Derived.RangeFuncWrites
import Derived.RangeFuncBox
import Derived.Shelf.Abstract
import Derived.Shelf.RegionOpen
import Derived.OwnWalkIn
import Derived.TacticsInMore
import Derived.LoopNIn
import Derived.LoopIn
import Derived.Sort.QuietIn
import Derived.Test.YtmfjndkopkjchaaDRa
import Derived.Test.YtmfjndkopkjchaaDd
namespace Go.Proofs.Ytmfjndkopkjchaa
open Go.RowKit Go.Shelf
attribute [local go_sem] Oper.semAt_some
set_option linter.unusedSimpArgs false
set_option linter.unusedVariables false

theorem own_below {w w' : World} {base e s n : Nat} {v : Value} {xs : List Value} (h : w.ownsRow base e s v n xs) (hb : Below w.heap.size w w') : w'.ownsRow base e s v n xs :=
  h.kept (grown_below none hb) (by cases hv : v.ownBlock with | none => exact .inl rfl | some k => exact .inr (by simp))
set_option maxRecDepth 100000 in
set_option maxHeartbeats 2000000 in
theorem partE (w : World) (base g n : Nat) (xs : List Value) (v : Value) (h : Sh 109 129 w base g n xs v) (hn : n ≤ 1000) (hx1 : ∀ u ∈ xs, u.oneCell' = true) :
    Calls Try.prog 72 #[.pointer (some ⟨g, 0, none⟩), .int .i64 0, .int .i64 (n : Nat)] w (ClonedE w n xs) := by
  have HC := Lib.hid (clone_anyE w base n v xs h.row (by omega) hx1)
  have c0 := h.cell
  have hl := h.lt
  rcases h.row.2 with ⟨rfl, h0⟩ | ⟨b, cap, cur, rfl, hb, hg, hnc, hm, hs, _⟩
  · subst h0
    clear h
    go_enter Try.func72, Try.ntmps72
    go_wp2_with fail
    refine HC.out.mono ?_
    rintro e w2 ⟨v', rfl, hrow, hb⟩
    obtain ⟨qa, qc, rfl⟩ := own_slice hrow
    clear c0
    go_wp2_with fail
    go_ret
    exact ⟨_, rfl, hrow, hb⟩
  · simp only [maxLen] at hm
    clear h hg hs
    go_enter Try.func72, Try.ntmps72
    go_wp2_with fail
    refine HC.out.mono ?_
    rintro e w2 ⟨v', rfl, hrow, hb⟩
    obtain ⟨qa, qc, rfl⟩ := own_slice hrow
    clear c0
    go_wp2_with fail
    go_ret
    exact ⟨_, rfl, hrow, hb⟩
/-- What Fork has made. -/
def ShFork (tb tr : Nat) (w : World) (n : Nat) (xs : List Value) (e : Ending) (w' : World) : Prop := ∃ g' v', e = .returned (.pointer (some ⟨g', 0, none⟩)) ∧ Sh tb tr w' w.heap.size g' n xs v' ∧ w.heap.size ≤ g' ∧ Below w.heap.size w w'
set_option maxRecDepth 100000 in
set_option maxHeartbeats 2000000 in
theorem forkE (w : World) (base g n : Nat) (xs : List Value) (v : Value) (h : Sh 109 129 w base g n xs v) (hn : n ≤ 1000) (hx1 : ∀ u ∈ xs, u.oneCell' = true) :
    Calls Try.prog 46 #[.pointer (some ⟨g, 0, none⟩)] w (ShFork 109 129 w n xs) := by
  have HL := Lib.hid (lenE w base g n xs v h)
  have HP := Lib.hid (partE w base g n xs v h hn hx1)
  clear h
  go_enter Try.func46, Try.ntmps46
  go_wp2_with fail
  refine HL.out.mono ?_
  rintro e w2 ⟨rfl, rfl⟩
  go_wp2_with fail
  refine HP.out.mono ?_
  rintro e w3 ⟨v', rfl, hrow, hb⟩
  obtain ⟨qa, qc, rfl⟩ := own_slice hrow
  have hal : Below w3.heap.size w3 (w3.alloc (.cells #[.slice qa n qc] 109)) := (Below.refl _ _).alloc (Nat.le_refl _) _
  have hx : Sh 109 129 (w3.alloc (.cells #[.slice qa n qc] 109)) w2.heap.size w3.heap.size n xs (.slice qa n qc) := ⟨heap_alloc_new w3 _, hrow.alloc _, fun e => by have := (hrow.lt _ e).2; omega⟩
  have HX := Lib.hid hx
  have HB := Lib.hid (kF hal hb)
  have HS := Lib.hid hb.size
  clear hrow hal hx hb
  go_wp2_with fail
  go_ret
  exact ⟨_, _, rfl, HX.out, HS.out, HB.out⟩
theorem own_made (w : World) (base e s : Nat) (hb : base ≤ w.heap.size) : (w.alloc (.cells #[] e)).ownsRow base e s (.slice (some ⟨w.heap.size, 0, none⟩) 0 0) 0 [] :=
  own_mk hb (heap_alloc_new w _) (Nat.le_refl _) (by simp [maxLen]) (by simp) (by simp) (fun k hk => absurd hk (by simp))
theorem clone_src (w : World) (b off m c : Nat) (xs : List Value) (hl : xs.length = m * 6) (hmc : m ≤ c) (hm : c ≤ maxLen) (hb : b < w.heap.size) (hsr : ∀ j u, xs[j]? = some u → w.cell? ⟨b, off + j, none⟩ = some u) (hn : m ≤ 100000) (hx1 : ∀ u ∈ xs, u.oneCell' = true) :
    Calls Try.prog 85 #[.slice (some ⟨b, off, none⟩) m c] w (ClonedE w m xs) := by
  have heq := fun (w : World) (a : Option Addr) (l c : Nat) => Lib.run_eql_slice_nil (P := Try.prog) w 107 129 a l c 0 0 Try.underlying107
  obtain ⟨i0, hi, hz0, hz1, hz2⟩ := info_parts info_elE
  have hbe : Below w.heap.size w (w.alloc (.cells #[] 129)) := (Below.refl _ _).alloc (Nat.le_refl _) _
  have hown0 := own_made w w.heap.size 129 6 (Nat.le_refl _)
  have hsrc : Hid (∀ j u, xs[j]? = some u → (w.alloc (.cells #[] 129)).cell? ((⟨b, off, none⟩ : Addr).add j) = some u) := Lib.hid fun j u hu => by
    rw [add_plainR, hbe.cell (p := ⟨b, off + j, none⟩) hb, hsr j u hu]
  have HO := Lib.hid hown0
  have HB := Lib.hid hbe
  have HI := Lib.hid hi
  have HL := Lib.hid hl
  have HX := Lib.hid hx1
  simp only [maxLen] at hm
  clear hown0 hbe hi hl hx1 hsr
  go_enter Try.func85, Try.ntmps85
  go_wp2_with (at_builtin; refine wpList_append_own _ rfl (.tmp 5) (.tmp 6) 107 rfl w.heap.size 129 i0 (.agg #[.int .i64 0, .int .i64 0, .int .i64 0, .int .i64 0, .int .i64 0, .string ByteArray.empty]) 6 56 Try.underlying107 HI.out hz0 hz1 hz2 rfl (by omega) _ 0 [] rfl HO.out ⟨b, off, none⟩ m c xs rfl HL.out hsrc.out HX.out (by simp [maxLen]; omega) (by omega) HB.out.size ?_; intro v' w' r1 r2 _)
  go_ret
  rw [Nat.zero_add, List.nil_append] at r1
  exact ⟨_, rfl, r1, HB.out.grown r2 (by simp) (fun k e => by cases e; exact Nat.le_refl _)⟩
set_option maxRecDepth 100000 in
set_option maxHeartbeats 2000000 in
theorem partG (w : World) (base g n f t : Nat) (xs : List Value) (v : Value) (h : Sh 109 129 w base g n xs v) (hn : n ≤ 1000) (hx1 : ∀ u ∈ xs, u.oneCell' = true) (hft : f ≤ t) (htn : t ≤ n) :
    Calls Try.prog 72 #[.pointer (some ⟨g, 0, none⟩), .int .i64 (f : Nat), .int .i64 (t : Nat)] w (ClonedE w (t - f) ((xs.drop (f * 6)).take ((t - f) * 6))) := by
  have c0 := h.cell
  have hl := h.lt
  have hxl := h.row.1
  have hx2 : ∀ u ∈ (xs.drop (f * 6)).take ((t - f) * 6), u.oneCell' = true := fun u hu => hx1 u (List.mem_of_mem_drop (List.mem_of_mem_take hu))
  rcases h.row.2 with ⟨rfl, h0⟩ | ⟨b, cap, cur, rfl, hb, hg, hnc, hm, hs, _⟩
  · subst h0
    obtain rfl : t = 0 := by omega
    obtain rfl : f = 0 := by omega
    have HC := Lib.hid (clone_anyE w base 0 (.slice none 0 0) ((xs.drop (0 * 6)).take ((0 - 0) * 6)) ⟨by simp, .inl ⟨rfl, rfl⟩⟩ (by omega) hx2)
    clear h hxl hx2 hx1
    go_enter Try.func72, Try.ntmps72
    go_wp2_with fail
    refine HC.out.mono ?_
    rintro e w2 ⟨v', rfl, hrow, hb⟩
    obtain ⟨qa, qc, rfl⟩ := own_slice hrow
    clear c0
    go_wp2_with fail
    go_ret
    exact ⟨_, rfl, hrow, hb⟩
  · have hc : ∀ off c, ((off = f * 6) ∨ t = f) → t - f ≤ c → c ≤ maxLen → Calls Try.prog 85 #[.slice (some ⟨b, off, none⟩) (t - f) c] w (ClonedE w (t - f) ((xs.drop (f * 6)).take ((t - f) * 6))) := fun off c ho h1 h2 =>
      clone_src w b off (t - f) c _ (by rw [List.length_take, List.length_drop, hxl]; omega) h1 h2 (Array.getElem?_eq_some_iff.1 hg).1 (fun j u hu => by
        have hj := (List.getElem?_eq_some_iff.1 hu).1
        rw [List.length_take] at hj
        rcases ho with rfl | e
        · rw [List.getElem?_take, if_pos (by omega), List.getElem?_drop] at hu
          rw [own_cell h.row (by omega), hu]
        · omega) (by omega) hx2
    have HC := Lib.hid hc
    simp only [maxLen] at hm
    clear h hg hs hc hx1 hx2 hxl
    obtain ⟨d, rfl⟩ : ∃ d, t = f + d := ⟨t - f, by omega⟩
    have e1 : f + d - f = d := by omega
    rw [e1] at HC ⊢
    generalize (xs.drop (f * 6)).take (d * 6) = X at HC ⊢
    by_cases hcf : cap = f
    · subst hcf
      obtain rfl : d = 0 := by omega
      go_enter Try.func72, Try.ntmps72
      go_wp2_with fail
      refine (HC.out _ _ (by omega) (by omega) (by simp only [maxLen]; omega)).mono ?_
      rintro e w2 ⟨v', rfl, hrow, hb⟩
      obtain ⟨qa, qc, rfl⟩ := own_slice hrow
      clear c0
      go_wp2_with fail
      go_ret
      exact ⟨_, rfl, hrow, hb⟩
    · go_enter Try.func72, Try.ntmps72
      go_wp2_with fail
      refine (HC.out _ _ (by omega) (by omega) (by simp only [maxLen]; omega)).mono ?_
      rintro e w2 ⟨v', rfl, hrow, hb⟩
      obtain ⟨qa, qc, rfl⟩ := own_slice hrow
      clear c0
      go_wp2_with fail
      go_ret
      exact ⟨_, rfl, hrow, hb⟩

/-- What a round keeps: all cells that were there, but for some blocks, and one that the world itself tells. -/
structure Kq (Fx : Nat → Prop) (tb : World → Option Nat) (W W' : World) : Prop where
  size : W.heap.size ≤ W'.heap.size
  cells : ∀ k cs t fr, W.heap[k]? = some (.cells cs t fr) → ¬ Fx k → tb W ≠ some k → W'.heap[k]? = W.heap[k]?
  next : tb W' = tb W ∨ ∃ b, tb W' = some b ∧ W.heap.size ≤ b
theorem kq_t {Fx : Nat → Prop} {tb : World → Option Nat} {A B C : World} (h : Kq Fx tb A B) (k : Kq Fx tb B C) : Kq Fx tb A C := by
  refine ⟨Nat.le_trans h.size k.size, fun i cs t fr hi hF ht => ?_, ?_⟩
  · have h1 := h.cells i cs t fr hi hF ht
    refine (k.cells i cs t fr (h1.trans hi) hF ?_).trans h1
    intro e
    rcases h.next with h2 | ⟨b, h2, h3⟩
    · exact ht (h2 ▸ e)
    · rw [h2] at e; cases e
      have := (Array.getElem?_eq_some_iff.1 hi).1
      omega
  · rcases k.next with h2 | ⟨b, h2, h3⟩
    · rw [h2]; exact h.next
    · exact .inr ⟨b, h2, Nat.le_trans h.size h3⟩
theorem kq_refl {Fx : Nat → Prop} {tb : World → Option Nat} (W : World) : Kq Fx tb W W := ⟨Nat.le_refl _, fun _ _ _ _ _ _ _ => rfl, .inl rfl⟩
/-- What the world tells hangs on the blocks below B0 alone. -/
def Loc (B0 : Nat) (tb : World → Option Nat) : Prop := ∀ X Y : World, (∀ k, k < B0 → Y.heap[k]? = X.heap[k]?) → tb Y = tb X
section
variable {Fx : Nat → Prop} {tb : World → Option Nat} {B0 : Nat} {W W' : World}
theorem kq_below (hl : Loc B0 tb) (hB : B0 ≤ W.heap.size) (h : Below W.heap.size W W') : Kq Fx tb W W' :=
  ⟨h.size, fun k _ _ _ hk _ _ => h.block k (Array.getElem?_eq_some_iff.1 hk).1, .inl (hl _ _ fun k hk => h.block k (by omega))⟩
theorem kq_put (hl : Loc B0 tb) {l : Nat} {o o' : Obj} (hB : B0 ≤ l) (ho : W.heap[l]? = some o) (hc : o.isCells = false) : Kq Fx tb W (W.putObj l o') :=
  ⟨by simp, fun k cs t fr hk _ _ => World.putObj_heap_other (fun e => by subst e; rw [hk] at ho; cases ho; cases hc), .inl (hl _ _ fun k hk => World.putObj_heap_other (by omega))⟩
/-- A cell of a block that is kept. -/
theorem Kq.heap (h : Kq Fx tb W W') {k : Nat} {cs : Array Value} {t : TypeId} {fr : Nat × Nat} (hk : W.heap[k]? = some (.cells cs t fr)) (hF : ¬ Fx k) (ht : tb W ≠ some k) : W'.heap[k]? = some (.cells cs t fr) := (h.cells k cs t fr hk hF ht).trans hk
theorem Kq.own (h : Kq Fx tb W W') {base e s n : Nat} {v : Value} {xs : List Value} (ho : W.ownsRow base e s v n xs) (hF : ∀ b, v.ownBlock = some b → ¬ Fx b) (ht : ∀ b, v.ownBlock = some b → tb W ≠ some b) : W'.ownsRow base e s v n xs := by
  refine ⟨ho.1, ?_⟩
  rcases ho.2 with hn | ⟨b, cap, cur, rfl, hb, hg, rest⟩
  · exact .inl hn
  · exact .inr ⟨b, cap, cur, rfl, hb, h.heap hg (hF b rfl) (ht b rfl), rest⟩
theorem Kq.not (h : Kq Fx tb W W') {k : Nat} (hk : k < W.heap.size) (ht : tb W ≠ some k) : tb W' ≠ some k := fun e => by
  rcases h.next with h2 | ⟨b, h2, h3⟩
  · exact ht (h2 ▸ e)
  · rw [h2] at e; cases e; omega
end
abbrev Elt := Nat × (Int × Ent)
def en (R : List (Int × Ent)) : List Elt := (List.range R.length).map fun i : Nat => (i, R.getD i (0, e0))
theorem en_len (R : List (Int × Ent)) : (en R).length = R.length := by simp [en]
theorem en_get {R : List (Int × Ent)} {i : Nat} {x : Int × Ent} (h : R[i]? = some x) : (en R)[i]? = some (i, x) := by
  obtain ⟨hl, e⟩ := List.getElem?_eq_some_iff.1 h
  simp [en, hl]
  exact e
theorem en_take {R : List (Int × Ent)} {i : Nat} {x : Int × Ent} (h : R[i]? = some x) : (en R).take i ++ [(i, x)] = (en R).take (i + 1) := by
  have hl := (List.getElem?_eq_some_iff.1 (en_get h)).1
  rw [List.take_succ_eq_append_getElem hl]
  have := en_get h
  rw [List.getElem?_eq_getElem hl] at this
  rw [Option.some.inj this]
theorem en_snd (R : List (Int × Ent)) : (en R).map (·.2) = R := by
  apply List.ext_getElem?
  intro i
  rw [List.getElem?_map]
  by_cases h : i < R.length
  · rw [en_get (List.getElem?_eq_getElem h), List.getElem?_eq_getElem h]; rfl
  · rw [List.getElem?_eq_none (by rw [en_len]; omega), List.getElem?_eq_none (by omega)]; rfl
def encs (x : Elt) : Array Value := #[.int .i64 (x.1 : Nat), .agg #[.int .i64 x.2.1, .int .i64 x.2.2.k, .int .i64 x.2.2.a, .int .i64 x.2.2.lo, .int .i64 x.2.2.hi, .string (strOfNums x.2.2.b)]]

theorem sall_any (w : World) (a : Option Addr) (n c : Nat) :
    Calls Try.prog 71 #[.slice a n c] w fun e w' => e = .returned (.func (Fn.func 84) #[] #[.pointer (some ⟨w.heap.size, 0, none⟩)]) ∧ w' = w.alloc (.cells #[.slice a n c] 107) := by
  go_enter Try.func71, Try.ntmps71
  go_wp2_with fail
  go_ret
  exact ⟨rfl, rfl⟩

set_option maxRecDepth 100000 in
set_option maxHeartbeats 2000000 in
theorem sall_in (n : Nat) (hn : 1 ≤ n) (l gb base : Nat) (v : Value) (R : List (Int × Ent)) (Fx : Nat → Prop) (tb : World → Option Nat) (B0 : Nat) (hloc : Loc B0 tb) (J Jx : List Elt → World → Prop) (W : World) (hB0 : B0 ≤ W.heap.size) (hab : AbidesFrom W.heap.size J)
    (hY : ∀ pre x W, J pre W → pre.length < R.length → YieldAt Fence.wide (n - 1) Try.prog l (encs x) W fun e W' =>
      (e = .returned (.bool true) ∧ J (pre ++ [x]) W' ∧ Kq Fx tb W W') ∨ (e = .returned (.bool false) ∧ Jx (pre ++ [x]) W'))
    (hbox : W.heap[gb]? = some (.cells #[v] 107 (0, 0))) (hown : W.ownsRow base 129 6 v R.length (fe R))
    (hF : ∀ b, v.ownBlock = some b → ¬ Fx b) (htb : ∀ b, v.ownBlock = some b → tb W ≠ some b) (h0 : J [] W) :
    CallsIn Fence.wide n Try.prog 84 #[.func (.yield l) #[] #[], .pointer (some ⟨gb, 0, none⟩)] W fun e W' => (∃ v, e = .returned v) ∧
      ((∃ ys, ys = en R ∧ J ys W') ∨ (∃ pre, pre <+: en R ∧ Jx pre W')) := by
  have cb : W.cell? ⟨gb, 0, none⟩ = some v := by rw [cell_of_row _ _ _ _ _ _ hbox]; rfl
  have hgl : gb < W.heap.size := (Array.getElem?_eq_some_iff.1 hbox).1
  obtain ⟨a, c, rfl⟩ := own_slice hown
  have HX := Lib.hid (fun p (hp : p < R.length) => show ∃ x, R[p]? = some x from ⟨_, List.getElem?_eq_getElem hp⟩)
  have HRL : Hid ((en R).take R.length = en R) := Lib.hid (List.take_of_length_le (by rw [en_len]; exact Nat.le_refl _))
  have HF := Lib.hid hF
  have HS : Hid (W.ownsRow base 129 6 (.slice a R.length c) R.length (fe R) ∧ (∀ b, (Value.slice a R.length c).ownBlock = some b → tb W ≠ some b) ∧ W.heap.size ≤ W.heap.size) := Lib.hid ⟨hown, htb, Nat.le_refl _⟩
  have HAB := Lib.hid hab
  have HY := Lib.hid hY
  have HLOC := Lib.hid hloc
  have HLN : Hid (∀ p, p < R.length → ((en R).take p).length < R.length) := Lib.hid (fun p hp => by rw [List.length_take, en_len]; omega)
  generalize hRN : R.length = N at *
  have HRN := Lib.hid hRN
  clear hown hF htb hab hY hbox hRN hloc
  refine callsIn_of_wp Try.func84 rfl trivial ?_ rfl
  simp only [Try.ntmps84, List.size_toArray, List.length_cons, List.length_nil, Nat.reduceAdd, Nat.reduceSub, Array.replicate_succ, Array.replicate_zero, List.push_toArray, List.append_toArray, List.nil_append, List.cons_append]
  gi_wp2_with fail
  gi_loopw [7] (fun i wr => ∃ p : Nat, p ≤ N ∧ i = .int .i64 p ∧ J ((en R).take p) wr ∧ Hid (wr.ownsRow base 129 6 (.slice a N c) N (fe R) ∧ (∀ b, (Value.slice a N c).ownBlock = some b → tb wr ≠ some b) ∧ W.heap.size ≤ wr.heap.size))
    (fun i _ => N - (intOf i).toNat)
  case atStart => exact ⟨0, Nat.zero_le _, rfl, h0, HS⟩
  case round =>
    clear HS h0 cb
    obtain ⟨p, hp, rfl, hJs, HS⟩ := hrel
    by_cases hlt : p < N
    · obtain ⟨x, hx⟩ := HX.out p hlt
      obtain ⟨g, rfl, hg, hnc, hm, c0, c1, c2, c3, c4, c5⟩ := rowsE_at HS.out.1 hx
      simp only [maxLen] at hm
      have htk := en_take hx
      have hlen := HLN.out p hlt
      have hpre : (en R).take (p + 1) <+: en R := List.take_prefix _ _
      obtain ⟨xn, xk, xa, xl, xh, xb⟩ := x
      simp only at c0 c1 c2 c3 c4 c5
      have hba : Below wr.heap.size wr (wr.alloc (.cells #[.int .i64 xn, .int .i64 xk, .int .i64 xa, .int .i64 xl, .int .i64 xh, .string (strOfNums xb)] 129)) := (Below.refl _ _).alloc (Nat.le_refl _) _
      have hJ1 : J ((en R).take p) (wr.alloc (.cells #[.int .i64 xn, .int .i64 xk, .int .i64 xa, .int .i64 xl, .int .i64 xh, .string (strOfNums xb)] 129)) := HAB.out _ wr _ none hJs (grown_below none hba) (fun r e => by cases e)
      have how1 := own_below HS.out.1 hba
      have htb1 : tb (wr.alloc (.cells #[.int .i64 xn, .int .i64 xk, .int .i64 xa, .int .i64 xl, .int .i64 xh, .string (strOfNums xb)] 129)) = tb wr := HLOC.out _ _ (fun k hk => hba.block k (by have := HS.out.2.2; omega))
      obtain ⟨fn, tmps, assign, body, hy, hRd⟩ := HY.out _ (p, (xn, ⟨xk, xa, xl, xh, xb⟩)) _ hJ1 hlen
      rw [htk] at hRd
      dsimp only [encs] at hy
      have HRD := Lib.hid hRd
      have HP := Lib.hid hpre
      have HO1 := Lib.hid how1
      have HT1 := Lib.hid htb1
      have HBA := Lib.hid hba.size
      have hpi : (p : Int) < (N : Int) := by omega
      have hp0 : (0 : Int) ≤ (p : Int) := by omega
      clear htk hlen hRd hpre hJ1 hx hba how1 htb1 hJs
      gi_wp2_with fail
      refine HRD.out.mono ?_
      rintro e W3 (⟨rfl, hJ3, hk3⟩ | ⟨rfl, hJx3⟩)
      · have HS3 : Hid (W3.ownsRow base 129 6 (.slice (some ⟨g, 0, none⟩) N c) N (fe R) ∧ (∀ b, (Value.slice (some ⟨g, 0, none⟩) N c).ownBlock = some b → tb W3 ≠ some b) ∧ W.heap.size ≤ W3.heap.size) := by
          have ht2 : ∀ b, (Value.slice (some ⟨g, 0, none⟩) N c).ownBlock = some b → tb (wr.alloc (.cells #[.int .i64 xn, .int .i64 xk, .int .i64 xa, .int .i64 xl, .int .i64 xh, .string (strOfNums xb)] 129)) ≠ some b := fun b hb => by rw [HT1.out]; exact HS.out.2.1 b hb
          exact Lib.hid ⟨hk3.own HO1.out HF.out ht2, fun b hb => hk3.not (HO1.out.lt b hb).2 (ht2 b hb), Nat.le_trans HS.out.2.2 (Nat.le_trans HBA.out hk3.size)⟩
        clear hk3
        gi_wp2
        go_roundw
        case rel => exact ⟨p + 1, by omega, by go_num, hJ3, HS3⟩
        case measure => simp [intOf]; omega
      · gi_wp2
        refine bodyPost_ret (results_none rfl _ _ _) rfl ?_
        exact ⟨⟨_, rfl⟩, .inr ⟨_, HP.out, hJx3⟩⟩
    · obtain rfl : p = N := by omega
      rw [HRL.out] at hJs
      gi_wp2
      go_end0
      exact ⟨⟨_, rfl⟩, .inl ⟨_, rfl, hJs⟩⟩
/-- The function that slices.All hands back, as a loop wants it. -/
theorem sall_stops (n : Nat) (hn : 1 ≤ n) (gb base : Nat) (v : Value) (R : List (Int × Ent)) (Fx : Nat → Prop) (tb : World → Option Nat) (B0 : Nat) (hloc : Loc B0 tb) (w : World) (hB0 : B0 ≤ w.heap.size)
    (hbox : w.heap[gb]? = some (.cells #[v] 107 (0, 0))) (hown : w.ownsRow base 129 6 v R.length (fe R))
    (hF : ∀ b, v.ownBlock = some b → ¬ Fx b) (htb : ∀ b, v.ownBlock = some b → tb w ≠ some b) :
    SeqStopsK Fence.wide n Try.prog 84 #[.pointer (some ⟨gb, 0, none⟩)] encs (Kq Fx tb) (fun ys => ys = en R) (fun pre => pre <+: en R) R.length w := fun l J Jx W hW hJ _ hY h0 =>
  sall_in n hn l gb base v R Fx tb B0 hloc J Jx W (Nat.le_trans hB0 hW.size) hJ hY ((hW.block gb (Array.getElem?_eq_some_iff.1 hbox).1).trans hbox) (own_below hown hW) hF (fun b hb => by rw [hloc _ _ (fun k hk => hW.block k (by omega))]; exact htb b hb) h0
end Go.Proofs.Ytmfjndkopkjchaa
