/- A Writer on its way; putKey, putSize. -/
import Derived.Test.YtoamgdcjmkkmfaaKa
namespace Go.Proofs.Ytoamgdcjmkkmfaa
open Go.RowKit
set_option linter.unusedSimpArgs false
set_option linter.unusedVariables false
set_option maxHeartbeats 4000000

/-- A Writer in block g that has put l (error er), since world W, in which its row was A0. -/
def WS (W : World) (g : Nat) (A0 : Option Addr) (er : Int) (l : List Int) (w : World) : Prop :=
  ∃ A c, WrIn w g er l A c ∧ Chg W w g (rowOf A0) ∧ (rowOf A = rowOf A0 ∨ ∃ k, rowOf A = some k ∧ W.heap.size ≤ k)
/-- What a number, and bytes, do to what a Writer has. -/
def wN (k n : Int) (s : Int × List Int) : Int × List Int := if fe s.1 (putE k n) = 0 then (0, s.2 ++ putA k n) else (fe s.1 (putE k n), s.2)
def wR (x : List Int) (s : Int × List Int) : Int × List Int := if s.1 = 0 then (0, s.2 ++ x) else s
theorem WS.start {w : World} {g c : Nat} {er : Int} {l : List Int} {A : Option Addr} (h : WrIn w g er l A c) : WS w g A er l w :=
  ⟨A, c, h, Chg.of_below (Below.refl _ _), .inl rfl⟩
theorem WS.step {W w w' : World} {g : Nat} {A0 A : Option Addr} {er' : Int} {l' : List Int} {e : Ending} (hc : Chg W w g (rowOf A0)) (hA : rowOf A = rowOf A0 ∨ ∃ k, rowOf A = some k ∧ W.heap.size ≤ k)
    (h : WStep2 w g A er' l' e w') : (∃ v, e = .returned v) ∧ WS W g A0 er' l' w' := by
  obtain ⟨hv, A', c', h1, h2, h3⟩ := h
  refine ⟨hv, A', c', h1, ?_, ?_⟩
  · refine ⟨h2.os.trans hc.os, h2.tape.trans hc.tape, h2.output.trans hc.output, Nat.le_trans hc.size h2.size, fun k hk hg hR => ?_⟩
    refine (h2.block k (Nat.lt_of_lt_of_le hk hc.size) hg ?_).trans (hc.block k hk hg hR)
    rcases hA with hA | ⟨j, hj, hs⟩
    · rw [hA]; exact hR
    · rw [hj]
      intro e
      injection e with e
      omega
  · rcases h3 with h3 | ⟨k, hk, hs⟩
    · rw [h3]; exact hA
    · exact .inr ⟨k, hk, Nat.le_trans hc.size hs⟩
theorem putE_cases (k n : Int) : putE k n = 0 ∨ putE k n = 2 := by
  unfold putE
  split
  · exact .inl rfl
  · exact .inr rfl
theorem WS.num {W w : World} {g : Nat} {A0 : Option Addr} {s : Int × List Int} (h : WS W g A0 s.1 s.2 w) (hn : s.2.length ≤ 1000000) (k n : Int) :
    Calls Try.prog 36 #[.pointer (some ⟨g, 0, none⟩), .int .i64 k, .int .i64 n] w fun e w' => (∃ v, e = .returned v) ∧ WS W g A0 (wN k n s).1 (wN k n s).2 w' := by
  obtain ⟨A, c, h1, h2, h3⟩ := h
  by_cases he : fe s.1 (putE k n) = 0
  · have h0 : s.1 = 0 := by
      unfold fe at he
      split at he
      · assumption
      · exact he
    have hp : putE k n = 0 := by rw [h0] at he; simpa [fe] using he
    have e : wN k n s = (0, s.2 ++ putA k n) := if_pos he
    rw [h0] at h1
    rw [e]
    exact (wnum_ok2 w g k n s.2 A c h1 hp hn).mono fun e w' h => WS.step h2 h3 h
  · have e : wN k n s = (fe s.1 (putE k n), s.2) := if_neg he
    rw [e]
    exact (wnum_no2 w g s.1 k n s.2 A c h1 he).mono fun e w' h => WS.step h2 h3 h
theorem WS.raw {W w : World} {g : Nat} {A0 : Option Addr} {s : Int × List Int} (h : WS W g A0 s.1 s.2 w) {A : Option Addr} {n c : Nat} {x : List Int} (hx : Byt w w.heap.size A n c x) (hn : s.2.length + n ≤ 1000000) :
    Calls Try.prog 48 #[.pointer (some ⟨g, 0, none⟩), .slice A n c] w fun e w' => (∃ v, e = .returned v) ∧ WS W g A0 (wR x s).1 (wR x s).2 w' := by
  obtain ⟨A1, c1, h1, h2, h3⟩ := h
  by_cases he : s.1 = 0
  · have e : wR x s = (0, s.2 ++ x) := if_pos he
    rw [he] at h1
    rw [e]
    exact (wraw_ok2 w g s.2 x A1 c1 A n c h1 hx hn).mono fun e w' h => WS.step h2 h3 h
  · have e : wR x s = s := if_neg he
    rw [e]
    exact (wraw_no2 w g s.1 s.2 A1 c1 A n c h1 he).mono fun e w' h => WS.step h2 h3 h
theorem wN_len (k n : Int) (s : Int × List Int) : (wN k n s).2.length ≤ s.2.length + 4 := by
  unfold wN putA
  split
  · simp only [List.length_append]
    split
    · rename_i h
      rw [putL_len]
      have := size_cases h
      omega
    · simp
  · simp
theorem wR_len (x : List Int) (s : Int × List Int) : (wR x s).2.length ≤ s.2.length + x.length := by
  unfold wR
  split
  · simp
  · simp
/-- What stood there before, but for the Writer and its row, stands there yet. -/
theorem WS.block {W w : World} {g : Nat} {A0 : Option Addr} {er : Int} {l : List Int} (h : WS W g A0 er l w) {b : Nat} (hb : b < W.heap.size) (h1 : b ≠ g) (h2 : rowOf A0 ≠ some b) : w.heap[b]? = W.heap[b]? := by
  obtain ⟨A, c, _, hc, _⟩ := h
  exact hc.block b hb h1 (fun e => h2 e.symm)
/-- A block is laid behind. -/
theorem WrIn.alloc {w : World} {g c : Nat} {er : Int} {l : List Int} {A : Option Addr} (h : WrIn w g er l A c) (x : Obj) : WrIn (w.alloc x) g er l A c :=
  ⟨(heap_alloc_old w x h.1.lt).trans h.1, h.2.1.alloc _, h.2.2⟩
theorem WS.alloc {W w : World} {g : Nat} {A0 : Option Addr} {er : Int} {l : List Int} (h : WS W g A0 er l w) (x : Obj) : WS W g A0 er l (w.alloc x) := by
  obtain ⟨A, c, h1, h2, h3⟩ := h
  exact ⟨A, c, h1.alloc x, h2.trans (Chg.of_below ((Below.refl _ _).alloc (Nat.le_refl _) _)), h3⟩

theorem WrIn.row {w : World} {g c : Nat} {er : Int} {l : List Int} {A : Option Addr} (h : WrIn w g er l A c) : ∀ k, rowOf A = some k → g + 1 ≤ k ∧ k < w.heap.size := fun k hk => h.2.1.lt k (by rw [rowOf_own]; exact hk)
/-- It is looked at from a later world on. -/
theorem WS.re {W w : World} {g : Nat} {A0 : Option Addr} {er : Int} {l : List Int} (h : WS W g A0 er l w) :
    ∃ A, WS w g A er l w ∧ (∀ b, w.heap.size ≤ b → rowOf A ≠ some b) ∧ g < w.heap.size ∧ ∀ er' l' w', WS w g A er' l' w' → WS W g A0 er' l' w' := by
  obtain ⟨A, c, h1, h2, h3⟩ := h
  refine ⟨A, WS.start h1, fun b hb e => by have := (h1.row b e).2; omega, h1.1.lt, ?_⟩
  rintro er' l' w' ⟨A', c', k1, k2, k3⟩
  obtain ⟨_, A'', c'', m1, m2, m3⟩ := WS.step (e := .returned (.int .i64 0)) h2 h3 ⟨⟨_, rfl⟩, A', c', k1, k2, k3⟩
  exact ⟨A'', c'', m1, m2, m3⟩
/-- A block of the call's own, laid ahead of what is put. -/
theorem WS.own {W w : World} {g : Nat} {A0 : Option Addr} {er : Int} {l : List Int} {x : Obj} (h : WS (W.alloc x) g A0 er l w) (hg : g < W.heap.size) (hA : rowOf A0 ≠ some W.heap.size) : w.heap[W.heap.size]? = some x := by
  rw [h.block (by simp) (by omega) hA]
  exact heap_alloc_new W x

/-- A block is laid behind: from there on. -/
theorem WS.box {W w : World} {g : Nat} {A0 : Option Addr} {er : Int} {l : List Int} (h : WS W g A0 er l w) (x : Obj) :
    ∃ A, WS (w.alloc x) g A er l (w.alloc x) ∧ rowOf A ≠ some w.heap.size ∧ g < w.heap.size ∧ ∀ er' l' w', WS (w.alloc x) g A er' l' w' → WS W g A0 er' l' w' ∧ w'.heap[w.heap.size]? = some x := by
  obtain ⟨A, c, h1, h2, h3⟩ := h
  have hne : rowOf A ≠ some w.heap.size := fun e => by have := (h1.row _ e).2; omega
  refine ⟨A, WS.start (h1.alloc x), hne, h1.1.lt, ?_⟩
  intro er' l' w' hk
  refine ⟨?_, hk.own h1.1.lt hne⟩
  obtain ⟨A', c', k1, k2, k3⟩ := hk
  have h2' : Chg W (w.alloc x) g (rowOf A0) := h2.trans (Chg.of_below ((Below.refl _ _).alloc (Nat.le_refl _) _))
  obtain ⟨_, A'', c'', m1, m2, m3⟩ := WS.step (e := .returned (.int .i64 0)) h2' h3 ⟨⟨_, rfl⟩, A', c', k1, k2, k3⟩
  exact ⟨A'', c'', m1, m2, m3⟩

def wK (ki ks : Int) (s : Int × List Int) : Int × List Int := wN 2 ks (wN 3 ki s)
def wZ (sz : Int) (s : Int × List Int) : Int × List Int := wN 4 (if sz = -1 then 0 else sz) s
theorem putkey_any {W w : World} {g : Nat} {A0 : Option Addr} {s : Int × List Int} (h : WS W g A0 s.1 s.2 w) (hn : s.2.length ≤ 100) (ki ks : Int) :
    Calls Try.prog 49 #[.pointer (some ⟨g, 0, none⟩), .agg #[.int .i64 ki, .int .i64 ks]] w fun e w' => (∃ v, e = .returned v) ∧ WS W g A0 (wK ki ks s).1 (wK ki ks s).2 w' := by
  obtain ⟨A1, h1, hA, hg, hK⟩ := h.box (.cells #[.int .i64 ki, .int .i64 ks] 26)
  have hn2 := wN_len 3 ki s
  have hn3 : s.2.length ≤ 1000000 := by omega
  have hn4 : (wN 3 ki s).2.length ≤ 1000000 := by omega
  have H1 := Lib.hid h1
  have HK := Lib.hid hK
  have HN3 := Lib.hid hn3
  have HN4 := Lib.hid hn4
  clear hn h1 hK hA hg h hn2 hn3 hn4
  go_enter Try.func49, Try.ntmps49
  go_wp2_with fail
  refine (WS.num H1.out HN3.out _ _).mono ?_
  rintro e w1 ⟨⟨v1, rfl⟩, h2⟩
  have c1 : w1.cell? ⟨w.heap.size, 1, none⟩ = some (.int .i64 ks) := by rw [cell_of_row _ _ _ _ _ _ (HK.out _ _ _ h2).2]; rfl
  have H2 := Lib.hid h2
  clear h2
  go_wp2_with fail
  refine (WS.num H2.out HN4.out _ _).mono ?_
  rintro e w2 ⟨⟨v2, rfl⟩, h3⟩
  go_wp2_with fail
  go_returns
  exact ⟨⟨_, rfl⟩, (HK.out _ _ _ h3).1⟩
theorem putsize_any {W w : World} {g : Nat} {A0 : Option Addr} {s : Int × List Int} (h : WS W g A0 s.1 s.2 w) (hn : s.2.length ≤ 100) (sz : Int) :
    Calls Try.prog 50 #[.pointer (some ⟨g, 0, none⟩), .int .i64 sz] w fun e w' => (∃ v, e = .returned v) ∧ WS W g A0 (wZ sz s).1 (wZ sz s).2 w' := by
  have hn3 : s.2.length ≤ 1000000 := by omega
  by_cases hz : sz = -1
  · have e : wZ sz s = wN 4 0 s := by unfold wZ; rw [if_pos hz]
    rw [e]
    have H1 := Lib.hid h
    have HN3 := Lib.hid hn3
    clear hn h hn3 e
    go_enter Try.func50, Try.ntmps50
    go_wp2_with fail
    refine (WS.num H1.out HN3.out _ _).mono ?_
    rintro e w2 ⟨⟨v2, rfl⟩, h3⟩
    go_wp2_with fail
    go_returns
    exact ⟨⟨_, rfl⟩, h3⟩
  · have e : wZ sz s = wN 4 sz s := by unfold wZ; rw [if_neg hz]
    rw [e]
    have H1 := Lib.hid h
    have HN3 := Lib.hid hn3
    clear hn h hn3 e
    go_enter Try.func50, Try.ntmps50
    go_wp2_with fail
    refine (WS.num H1.out HN3.out _ _).mono ?_
    rintro e w2 ⟨⟨v2, rfl⟩, h3⟩
    go_wp2_with fail
    go_returns
    exact ⟨⟨_, rfl⟩, h3⟩
end Go.Proofs.Ytoamgdcjmkkmfaa
