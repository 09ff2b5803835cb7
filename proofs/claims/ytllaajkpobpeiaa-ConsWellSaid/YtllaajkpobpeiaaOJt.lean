/- pair: a checker whose bytes lie in blocks of bytes. -/
import Derived.Test.YtllaajkpobpeiaaOJRb
namespace Go.Proofs.Ytllaajkpobpeiaa
open Go.RowKit
set_option linter.unusedSimpArgs false
set_option linter.unusedVariables false
theorem clone_ty (w : World) (A : Option Addr) (n c : Nat) (l : List Int) (h : Byt w w.heap.size A n c l) (hn : n ≤ 140737488351232) :
    Calls Try.prog 85 #[.slice A n c] w fun e w' => ∃ A' c', e = .returned (.slice A' n c') ∧ Byt w' w'.heap.size A' n c' l ∧ Below w.heap.size w w' ∧ ∀ b o, A' = some ⟨b, o, none⟩ → w.heap.size ≤ b ∧ ∃ cs fr, w'.heap[b]? = some (.cells cs 5 fr) := by
  cases A with
  | none =>
    have h0 : n = 0 := by
      rcases Nat.eq_zero_or_pos n with h0 | h0
      · exact h0
      · obtain ⟨b, off, e', _⟩ := h.cells h0
        cases e'
    subst h0
    obtain rfl := List.eq_nil_of_length_eq_zero h.len
    clear h
    have he := fun w : World => Lib.run_eql_slice_nil (P := Try.prog) w 43 5 none 0 c 0 0 Try.underlying43
    go_enter Try.func85, Try.ntmps85
    go_wp2
    go_ret
    exact ⟨_, _, rfl, Byt.nil_ _ _, Below.refl _ _, fun _ _ h => by cases h⟩
  | some ad =>
    have he := fun w : World => Lib.run_eql_slice_nil (P := Try.prog) w 43 5 (some ad) n c 0 0 Try.underlying43
    go_enter Try.func85, Try.ntmps85
    go_wp2_with (at_builtin; refine wpList_bytes rfl (.tmp 5) (.tmp 6) rfl Try.underlying43 byte_info rfl (l := []) (own_lit w) rfl (h.keep (B := w.heap.size) (fun b o hlt => ((Below.refl w.heap.size w).alloc (Nat.le_refl _) _).cell (p := ⟨b, o, none⟩) hlt)) (by omega) (by simp) ?_; intro v1 w1 hown1 hbel1)
    go_ret
    rw [List.nil_append] at hown1
    obtain ⟨A', c', rfl, hB, hA⟩ := Byt.of_own hown1 h.rng
    exact ⟨_, _, by rw [Nat.zero_add]; rfl, by rw [Nat.zero_add] at hB; exact hB, ((Below.refl _ _).alloc (Nat.le_refl _) _).trans hbel1, fun b o e => by
      rcases hA with ⟨h1, _⟩ | ⟨g, h1, h2⟩
      · rw [h1] at e; cases e
      · rw [h1] at e; cases e; exact ⟨h2, by
        rcases hown1.2 with ⟨e1, _⟩ | ⟨b', cap', cur', e1, _, hb', _⟩
        · rw [h1] at e1; cases e1
        · rw [h1] at e1; cases e1; exact ⟨_, _, hb'⟩⟩⟩

/-- Bytes in a block of bytes. -/
def BytU (w : World) (A : Option Addr) (n c : Nat) (l : List Int) : Prop := Byt w w.heap.size A n c l ∧ ∀ b o, A = some ⟨b, o, none⟩ → ∃ cs fr, w.heap[b]? = some (.cells cs 5 fr)
/-- All blocks of bytes stay. -/
def KeepU (w w' : World) : Prop := w.heap.size ≤ w'.heap.size ∧ ∀ (k : Nat) cs fr, w.heap[k]? = some (Obj.cells cs 5 fr) → w'.heap[k]? = some (Obj.cells cs 5 fr)
theorem KeepU.below {w w' : World} (h : Below w.heap.size w w') : KeepU w w' := ⟨h.size, fun k cs fr hk => (h.block k (Array.getElem?_eq_some_iff.1 hk).1).trans hk⟩
theorem KeepU.grown {w w' : World} {g : Nat} {cs : Array Value} {t : TypeId} {fr : Nat × Nat} (h : w.grownBy w' (some g)) (hg : w.heap[g]? = some (.cells cs t fr)) (ht : ¬ t = 5) : KeepU w w' :=
  ⟨h.size, fun k cs' fr' hk => (h.block k (Array.getElem?_eq_some_iff.1 hk).1 (fun e => by cases e; rw [hg] at hk; cases hk; exact ht rfl)).trans hk⟩
theorem KeepU.set {w : World} {g o : Nat} {v : Value} {cs : Array Value} {t : TypeId} {fr : Nat × Nat} (hg : w.heap[g]? = some (.cells cs t fr)) (ht : ¬ t = 5) : KeepU w (w.setCell ⟨g, o, none⟩ v) :=
  ⟨by simp, fun k cs' fr' hk => (Below.heap_setCell _ _ _ _ (by
    show ¬ k = g
    rintro rfl
    rw [hg] at hk
    cases hk
    exact ht rfl)).trans hk⟩
theorem KeepU.trans {a b c : World} (h : KeepU a b) (k : KeepU b c) : KeepU a c := ⟨Nat.le_trans h.1 k.1, fun q cs fr hq => k.2 q cs fr (h.2 q cs fr hq)⟩
theorem BytU.keep {w w' : World} {A : Option Addr} {n c : Nat} {l : List Int} (h : BytU w A n c l) (hk : KeepU w w') : BytU w' A n c l := by
  obtain ⟨hB, hT⟩ := h
  refine ⟨⟨hB.len, hB.cap, hB.max, hB.rng, fun h0 => ?_⟩, fun b o e => ?_⟩
  · obtain ⟨b, o, e, hb, hc⟩ := hB.cells h0
    obtain ⟨cs, fr, ht⟩ := hT b o e
    exact ⟨b, o, e, Nat.lt_of_lt_of_le hb hk.1, fun j hj => (World.cell?_of_block (a := ⟨b, o + j, none⟩) ((hk.2 b cs fr ht).trans ht.symm)).trans (hc j hj)⟩
  · obtain ⟨cs, fr, ht⟩ := hT b o e
    exact ⟨cs, fr, hk.2 b cs fr ht⟩
theorem BytU.nil_ (w : World) : BytU w none 0 0 [] := ⟨Byt.nil_ _ _, fun b o e => by cases e⟩
theorem CkAt.keepU {g : Nat} {w w' : World} {sz : Int} {PA VA : Option Addr} {Pn Pc Vn Vc : Nat} (h : CkAt w g sz PA Pn Pc VA Vn Vc) (ho : Onl g w w') : KeepU w w' :=
  ⟨ho.bel.size, fun k cs fr hk => (ho.oth k (Array.getElem?_eq_some_iff.1 hk).1 (fun e => by subst e; rw [h] at hk; cases hk)).trans hk⟩
/-- The plain frame's bytes, while it waits for the turned one. -/
def PlU (w : World) (sz : Nat) : Option (List Int) → Option Addr → Nat → Nat → Prop
  | none, A, n, c => A = none ∧ n = 0 ∧ c = 0
  | some l, A, n, c => (∃ a, A = some a) ∧ BytU w A n c l ∧ l.length = sz
/-- A checker of a size, what it waits behind, and its value. -/
structure CkU (w : World) (g sz : Nat) (p : Option (List Int)) (v : List Int) : Prop where
  is : ∃ PA Pn Pc VA Vn Vc, CkAt w g sz PA Pn Pc VA Vn Vc ∧ PlU w sz p PA Pn Pc ∧ BytU w VA Vn Vc v
  sz : 1 ≤ sz ∧ sz ≤ 8
  vl : v.length ≤ 8
section
variable {g sz : Nat} {w w' : World} {p : Option (List Int)} {v : List Int}
theorem PlU.below {PA : Option Addr} {Pn Pc : Nat} (h : PlU w sz p PA Pn Pc) (hb : Below w.heap.size w w') : PlU w' sz p PA Pn Pc := by
  cases p with
  | none => exact h
  | some l => exact ⟨h.1, h.2.1.keep (.below hb), h.2.2⟩
theorem CkU.lt (h : CkU w g sz p v) : g < w.heap.size := by obtain ⟨PA, Pn, Pc, VA, Vn, Vc, h1, _⟩ := h.is; exact h1.lt
theorem CkU.below (h : CkU w g sz p v) (hb : Below w.heap.size w w') : CkU w' g sz p v := by
  obtain ⟨PA, Pn, Pc, VA, Vn, Vc, h1, h2, h3⟩ := h.is
  exact ⟨⟨PA, Pn, Pc, VA, Vn, Vc, h1.below hb, h2.below hb, h3.keep (.below hb)⟩, h.sz, h.vl⟩
theorem CkU.drew (h : CkU w g sz p v) : CkU w.drew g sz p v := h.below (kD w)
/-- Another checker's block may change. -/
theorem CkU.onl {q : Nat} {sz' : Int} {PA' VA' : Option Addr} {Pn' Pc' Vn' Vc' : Nat} (h : CkU w g sz p v) (hq : CkAt w q sz' PA' Pn' Pc' VA' Vn' Vc') (ho : Onl q w w') (hn : ¬ g = q) : CkU w' g sz p v := by
  obtain ⟨PA, Pn, Pc, VA, Vn, Vc, h1, h2, h3⟩ := h.is
  refine ⟨⟨PA, Pn, Pc, VA, Vn, Vc, h1.onl ho hn, ?_, h3.keep (hq.keepU ho)⟩, h.sz, h.vl⟩
  cases p with
  | none => exact h2
  | some l => exact ⟨h2.1, h2.2.1.keep (hq.keepU ho), h2.2.2⟩
theorem CkU.onlT {q sz2 : Nat} {p2 : Option (List Int)} {v2 : List Int} (h : CkU w g sz p v) (hq : CkU w q sz2 p2 v2) (ho : Onl q w w') (hn : ¬ g = q) : CkU w' g sz p v := by
  obtain ⟨PA, Pn, Pc, VA, Vn, Vc, h1, h2, h3⟩ := hq.is
  exact h.onl h1 ho hn
theorem CkU.keepU (h : CkU w g sz p v) (ho : Onl g w w') : KeepU w w' := by
  obtain ⟨PA, Pn, Pc, VA, Vn, Vc, h1, _⟩ := h.is
  exact h1.keepU ho
/-- Blocks that hold no bytes may change, if the checker's own does not. -/
theorem CkU.keep (h : CkU w g sz p v) (hg : w'.heap[g]? = w.heap[g]?) (hk : KeepU w w') : CkU w' g sz p v := by
  obtain ⟨PA, Pn, Pc, VA, Vn, Vc, h1, h2, h3⟩ := h.is
  refine ⟨⟨PA, Pn, Pc, VA, Vn, Vc, hg.trans h1, ?_, h3.keep hk⟩, h.sz, h.vl⟩
  cases p with
  | none => exact h2
  | some l => exact ⟨h2.1, h2.2.1.keep hk, h2.2.2⟩
theorem CkU.ty (h : CkU w g sz p v) : ∃ cs, w.heap[g]? = some (.cells cs 138 (0, 0)) := by
  obtain ⟨PA, Pn, Pc, VA, Vn, Vc, h1, _⟩ := h.is
  exact ⟨_, h1⟩
theorem CkU.byt {A : Option Addr} {n c : Nat} {l : List Int} (h : CkU w g sz p v) (hB : Byt w w.heap.size A n c l) (ho : Onl g w w') : Byt w' w'.heap.size A n c l := by
  obtain ⟨PA, Pn, Pc, VA, Vn, Vc, h1, _⟩ := h.is
  exact h1.byt hB ho
end
theorem cnewU (n : Nat) (w : World) (h : 1 ≤ n ∧ n ≤ 8) : Calls Try.prog 73 #[.int .i64 (n : Int)] w fun e w' => ∃ g, w.heap.size ≤ g ∧ e = .returned (.tuple #[.pointer (some ⟨g, 0, none⟩), .int .i64 0]) ∧ CkU w' g n none [] ∧ Below w.heap.size w w' := by
  have HL := Lib.hid (size_any n w)
  rw [show isZ (n : Int) = true from decide_eq_true (by omega)] at HL
  have HX := Lib.hid (show CkU (w.alloc (.cells #[.int .i64 (n : Int), .slice none 0 0, .slice none 0 0] 138)) w.heap.size n none [] from ⟨⟨none, 0, 0, none, 0, 0, heap_alloc_new w _, ⟨rfl, rfl, rfl⟩, BytU.nil_ _⟩, h, by simp⟩)
  have HB := Lib.hid ((Below.refl w.heap.size w).alloc (Nat.le_refl _) (.cells #[.int .i64 (n : Int), .slice none 0 0, .slice none 0 0] 138))
  clear h
  go_enter Try.func73, Try.ntmps73
  go_wp2_with (go_at_call 70; refine (HL.out).mono ?_; rintro e w2 ⟨rfl, rfl⟩)
  go_ret2
  exact ⟨w.heap.size, Nat.le_refl _, rfl, HX.out, HB.out⟩
/-! ### A checker -/
section
variable {g sz : Nat} {w : World} {p : Option (List Int)} {v : List Int}
theorem clearU (h : CkU w g sz p v) : Calls Try.prog 92 #[.pointer (some ⟨g, 0, none⟩)] w fun e w' => e = .returned (.tuple #[]) ∧ CkU w' g sz none v ∧ Onl g w w' := by
  obtain ⟨PA, Pn, Pc, VA, Vn, Vc, h1, h2, h3⟩ := h.is
  obtain ⟨c0, c1, c2⟩ := h1.cells
  have f1 := h1.frozen 1
  have HO := Lib.hid (Onl.set (g := g) w 1 (.slice none 0 0))
  have HX := Lib.hid (show CkU (w.setCell ⟨g, 1, none⟩ (.slice none 0 0)) g sz none v from ⟨⟨none, 0, 0, VA, Vn, Vc, h1.set1 none 0 0, ⟨rfl, rfl, rfl⟩, h3.keep (h1.keepU HO.out)⟩, h.sz, h.vl⟩)
  clear h h1 h2 h3
  go_enter Try.func92, Try.ntmps92
  go_wp2_with fail
  go_end0
  exact ⟨rfl, HX.out, HO.out⟩
theorem halfU (h : CkU w g sz p v) : Calls Try.prog 91 #[.pointer (some ⟨g, 0, none⟩)] w fun e w' => e = .returned (.bool p.isSome) ∧ w = w' := by
  obtain ⟨PA, Pn, Pc, VA, Vn, Vc, h1, h2, h3⟩ := h.is
  obtain ⟨c0, c1, c2⟩ := h1.cells
  cases p with
  | none =>
    obtain ⟨rfl, rfl, rfl⟩ := h2
    clear h h1 h3
    go_enter Try.func91, Try.ntmps91
    go_wp2_with fail
    go_ret
    exact ⟨rfl, rfl⟩
  | some l =>
    obtain ⟨⟨a, rfl⟩, _, _⟩ := h2
    clear h h1 h3
    go_enter Try.func91, Try.ntmps91
    go_wp2_with fail
    go_ret
    exact ⟨rfl, rfl⟩
theorem valueU (h : CkU w g sz p v) : Calls Try.prog 66 #[.pointer (some ⟨g, 0, none⟩)] w fun e w' => ∃ A c, e = .returned (.slice A v.length c) ∧ Byt w' w'.heap.size A v.length c v ∧ Below w.heap.size w w' := by
  obtain ⟨PA, Pn, Pc, VA, Vn, Vc, h1, h2, h3⟩ := h.is
  obtain ⟨c0, c1, c2⟩ := h1.cells
  have hv := h.vl
  have hvl := h3.1.len
  have HC := Lib.hid (clone_any w VA Vn Vc v h3.1 (by omega))
  have HV := Lib.hid hvl
  clear h h1 h2 h3 hv hvl
  go_enter Try.func66, Try.ntmps66
  go_wp2_with (go_at_call 85; refine (HC.out).mono ?_; rintro e w2 ⟨A', c', rfl, hB, hb, _⟩; have HBY := Lib.hid hB; have HB := Lib.hid hb; clear hB hb)
  go_ret
  exact ⟨A', c', by rw [HV.out]; rfl, by rw [HV.out]; exact HBY.out, HB.out⟩
theorem forkU (h : CkU w g sz p v) : Calls Try.prog 86 #[.pointer (some ⟨g, 0, none⟩)] w fun e w' => ∃ q, w.heap.size ≤ q ∧ e = .returned (.pointer (some ⟨q, 0, none⟩)) ∧ CkU w' q sz p v ∧ Below w.heap.size w w' := by
  obtain ⟨PA, Pn, Pc, VA, Vn, Vc, h1, h2, h3⟩ := h.is
  obtain ⟨c0, c1, c2⟩ := h1.cells
  have HB := Lib.hid ((Below.refl w.heap.size w).alloc (Nat.le_refl _) (.cells #[.int .i64 (sz : Int), .slice PA Pn Pc, .slice VA Vn Vc] 138))
  have HX := Lib.hid (show CkU (w.alloc (.cells #[.int .i64 (sz : Int), .slice PA Pn Pc, .slice VA Vn Vc] 138)) w.heap.size sz p v from ⟨⟨PA, Pn, Pc, VA, Vn, Vc, heap_alloc_new w _, h2.below HB.out, h3.keep (.below HB.out)⟩, h.sz, h.vl⟩)
  clear h h1 h2 h3
  go_enter Try.func86, Try.ntmps86
  go_wp2_with fail
  go_ret
  exact ⟨w.heap.size, Nat.le_refl _, rfl, HX.out, HB.out⟩
end
section
variable {g sz : Nat} {w : World} {p : Option (List Int)} {v : List Int} {A : Option Addr} {n c : Nat} {l : List Int}
set_option maxHeartbeats 1000000 in
theorem plainU (h : CkU w g sz p v) (hB : Byt w w.heap.size A n c l) (hn : n ≤ 1000) : Calls Try.prog 78 #[.pointer (some ⟨g, 0, none⟩), .slice A n c] w fun e w' => e = .returned (.int .i64 (plE sz p l)) ∧ CkU w' g sz (plP sz p l) v ∧ Onl g w w' := by
  have HH := Lib.hid (halfU h)
  have HCL := Lib.hid (clearU h)
  have HB := Lib.hid (fun w' (ho : Onl g w w') => h.byt hB ho)
  have hsz := h.sz
  have hl := hB.len
  have HGL := Lib.hid (Nat.le_of_lt h.lt)
  by_cases hne : n = sz
  · have hne1 : ((n : Int) == (sz : Int)) = true := by simp; omega
    have hls : ¬ ¬ l.length = sz := by omega
    cases p with
    | some q =>
      have e1 : plE sz (some q) l = 3 := (if_neg hls).trans (if_pos rfl)
      have e2 : plP sz (some q) l = none := by unfold plP; rw [e1]; rfl
      rw [e1, e2]
      clear h hB e1 e2 hls hne
      go_enter Try.func78, Try.ntmps78
      go_upto_block 0 with (first
        | (go_at_call 91; refine (HH.out).mono ?_; rintro e w2 ⟨rfl, rfl⟩)
        | (go_at_call 92; refine (HCL.out).mono ?_; rintro e w3 ⟨rfl, x3, o3⟩; have HX3 := Lib.hid x3; have HO3 := Lib.hid o3; clear x3 o3))
      obtain ⟨PA, Pn, Pc, VA, Vn, Vc, h1, h2, h3⟩ := HX3.out.is
      obtain ⟨c0, c1, c2⟩ := h1.cells
      clear h1 h2 h3
      go_wp2_with fail
      go_ret
      exact ⟨rfl, HX3.out, HO3.out⟩
    | none =>
      have e1 : plE sz none l = 1 := (if_neg hls).trans (if_neg (by simp))
      have e2 : plP sz none l = some l := by unfold plP; rw [e1]; rfl
      rw [e1, e2]
      have hn0 : 0 < n := by omega
      have HL := Lib.hid (show l.length = sz by omega)
      clear h hB e1 e2 hls hne hl
      go_enter Try.func78, Try.ntmps78
      go_upto_block 0 with (first
        | (go_at_call 91; refine (HH.out).mono ?_; rintro e w2 ⟨rfl, rfl⟩)
        | (go_at_call 92; refine (HCL.out).mono ?_; rintro e w3 ⟨rfl, x3, o3⟩; have HX3 := Lib.hid x3; have HO3 := Lib.hid o3; clear x3 o3))
      have HB3 := Lib.hid (HB.out _ HO3.out)
      have HC := Lib.hid (clone_ty w3 A n c l HB3.out (by omega))
      obtain ⟨PA, Pn, Pc, VA, Vn, Vc, h1, h2, h3⟩ := HX3.out.is
      obtain ⟨c0, c1, c2⟩ := h1.cells
      have H1 := Lib.hid h1
      have H3 := Lib.hid h3
      clear h1 h2 h3
      go_upto_region 9 with fail
      clear c0 c1 c2
      go_upto_region 10 with (go_at_call 85; refine (HC.out).mono ?_; rintro e w4 ⟨A', c', rfl, hB4, hb4, ht4⟩; have HBY := Lib.hid (show BytU w4 A' n c' l from ⟨hB4, fun b o e => (ht4 b o e).2⟩); have HB4 := Lib.hid hb4; have H14 := Lib.hid (H1.out.below hb4); have H34 := Lib.hid (H3.out.keep (.below hb4)); clear hB4 hb4 ht4; obtain ⟨c0, c1, c2⟩ := H14.out.cells; have f1 := H14.out.frozen 1)
      have HO4 := Lib.hid (Onl.set (g := g) w4 1 (.slice A' n c'))
      have HX4 := Lib.hid (show CkU (w4.setCell ⟨g, 1, none⟩ (.slice A' n c')) g sz (some l) v from ⟨⟨A', n, c', VA, Vn, Vc, H14.out.set1 A' n c', ⟨by obtain ⟨b, off, e, _⟩ := HBY.out.1.cells hn0; exact ⟨_, e⟩, HBY.out.keep (H14.out.keepU HO4.out), HL.out⟩, H34.out.keep (H14.out.keepU HO4.out)⟩, HX3.out.sz, HX3.out.vl⟩)
      have HO5 := Lib.hid ((HO3.out.trans (Onl.of HB4.out (Nat.le_of_lt HX3.out.lt))).trans HO4.out)
      clear c0 c1 c2 f1
      generalize w4.setCell ⟨g, 1, none⟩ (.slice A' n c') = w5 at *
      go_wp2_with fail
      go_ret
      exact ⟨rfl, HX4.out, HO5.out⟩
  · have hne1 : ((n : Int) == (sz : Int)) = false := by simp; omega
    have e1 : plE sz p l = 4 := if_pos (by omega)
    have e2 : plP sz p l = none := by unfold plP; rw [e1]; rfl
    rw [e1, e2]
    clear h hB e1 e2 hne
    go_enter Try.func78, Try.ntmps78
    go_upto_block 0 with (first
      | (go_at_call 91; refine (HH.out).mono ?_; rintro e w2 ⟨rfl, rfl⟩)
      | (go_at_call 92; refine (HCL.out).mono ?_; rintro e w3 ⟨rfl, x3, o3⟩; have HX3 := Lib.hid x3; have HO3 := Lib.hid o3; clear x3 o3))
    obtain ⟨PA, Pn, Pc, VA, Vn, Vc, h1, h2, h3⟩ := HX3.out.is
    obtain ⟨c0, c1, c2⟩ := h1.cells
    clear h1 h2 h3
    go_wp2_with fail
    go_ret
    exact ⟨rfl, HX3.out, HO3.out⟩
set_option maxHeartbeats 1000000 in
theorem turnedU (h : CkU w g sz p v) (hB : Byt w w.heap.size A n c l) (hn : n ≤ 1000) : Calls Try.prog 80 #[.pointer (some ⟨g, 0, none⟩), .slice A n c] w fun e w' => e = .returned (.int .i64 (tuE sz p l)) ∧ CkU w' g sz none (tuV sz p l v) ∧ Onl g w w' := by
  have HCL := Lib.hid (clearU h)
  have HB := Lib.hid (fun w' (ho : Onl g w w') => h.byt hB ho)
  have HPB := Lib.hid (fun w' A n c l (hx : BytU w A n c l) (ho : Onl g w w') => hx.keep (h.keepU ho))
  have hsz := h.sz
  have hl := hB.len
  obtain ⟨PA, Pn, Pc, VA, Vn, Vc, h1, h2, h3⟩ := h.is
  obtain ⟨p0, p1, p2⟩ := h1.cells
  clear h1 h3
  by_cases hne : n = sz
  · have hne1 : ((n : Int) == (sz : Int)) = true := by simp; omega
    have hls : ¬ ¬ l.length = sz := by omega
    cases p with
    | none =>
      obtain ⟨rfl, rfl, rfl⟩ := h2
      have he := fun w : World => Lib.run_eql_slice_nil (P := Try.prog) w 43 5 none 0 0 0 0 Try.underlying43
      have e1 : tuE sz none l = 3 := if_neg hls
      have e2 : tuV sz none l v = v := if_neg (by rw [e1]; decide)
      rw [e1, e2]
      clear h hB e1 e2 hls hne
      go_enter Try.func80, Try.ntmps80
      go_upto_block 0 with (go_at_call 92; refine (HCL.out).mono ?_; rintro e w3 ⟨rfl, x3, o3⟩; have HX3 := Lib.hid x3; have HO3 := Lib.hid o3; clear x3 o3)
      clear p0 p1 p2
      obtain ⟨PA, Pn, Pc, VA, Vn, Vc, h1, h2, h3⟩ := HX3.out.is
      obtain ⟨c0, c1, c2⟩ := h1.cells
      clear h1 h2 h3
      go_wp2_with fail
      go_ret
      exact ⟨rfl, HX3.out, HO3.out⟩
    | some q =>
      obtain ⟨⟨a, rfl⟩, hq, hql⟩ := h2
      have he := fun w : World => Lib.run_eql_slice_nil (P := Try.prog) w 43 5 (some a) Pn Pc 0 0 Try.underlying43
      have hqn := hq.1.len
      have HQ := Lib.hid hq
      cases hk : lkB q l with
      | true =>
        have e1 : tuE sz (some q) l = 2 := (if_neg hls).trans (if_pos hk)
        have e2 : tuV sz (some q) l v = q := if_pos e1
        rw [e1, e2]
        have HK := Lib.hid hk
        have HQL := Lib.hid hql
        clear h hB e1 e2 hls hne hk hq hql
        go_enter Try.func80, Try.ntmps80
        go_upto_block 0 with (go_at_call 92; refine (HCL.out).mono ?_; rintro e w3 ⟨rfl, x3, o3⟩; have HX3 := Lib.hid x3; have HO3 := Lib.hid o3; clear x3 o3)
        clear p0 p1 p2
        have HB3 := Lib.hid (HB.out _ HO3.out)
        have HQ3 := Lib.hid (HPB.out _ _ _ _ _ HQ.out HO3.out)
        have HLK := Lib.hid (like_any w3 _ _ _ _ _ _ _ _ HQ3.out.1 HB3.out (by have := HQL.out; omega) (by omega))
        rw [HK.out] at HLK
        obtain ⟨PA1, Pn1, Pc1, VA, Vn, Vc, h1, h2, h3⟩ := HX3.out.is
        obtain ⟨c0, c1, c2⟩ := h1.cells
        have H1 := Lib.hid h1
        have HPN := Lib.hid (show PlU (w3.setCell ⟨g, 2, none⟩ (.slice none 0 0)) sz none PA1 Pn1 Pc1 from h2)
        clear h1 h2 h3
        go_upto_region 11 with (go_at_call 93; refine (HLK.out).mono ?_; rintro e w4 ⟨rfl, b4⟩; have HB4 := Lib.hid b4; have H14 := Lib.hid (H1.out.below b4); have HQ4 := Lib.hid (HQ3.out.keep (.below b4)); clear b4)
        clear c0 c1 c2
        obtain ⟨c0, c1, c2⟩ := H14.out.cells
        have f2 := H14.out.frozen 2
        have HO4 := Lib.hid (Onl.set (g := g) w4 2 (.slice (some a) Pn Pc))
        go_upto_region 12 with fail
        have HX4 := Lib.hid (show CkU (w4.setCell ⟨g, 2, none⟩ (.slice (some a) Pn Pc)) g sz none q from ⟨⟨_, _, _, _, _, _, H14.out.set2 _ _ _, HPN.out, HQ4.out.keep (H14.out.keepU HO4.out)⟩, hsz, by have := HQL.out; omega⟩)
        have HO5 := Lib.hid ((HO3.out.trans (Onl.of HB4.out (Nat.le_of_lt HX3.out.lt))).trans HO4.out)
        clear c0 c1 c2 f2
        generalize w4.setCell ⟨g, 2, none⟩ (.slice (some a) Pn Pc) = w5 at *
        go_wp2_with fail
        go_ret
        exact ⟨rfl, HX4.out, HO5.out⟩
      | false =>
        have e1 : tuE sz (some q) l = 5 := (if_neg hls).trans (if_neg (by rw [hk]; simp))
        have e2 : tuV sz (some q) l v = v := if_neg (by rw [e1]; decide)
        rw [e1, e2]
        have HK := Lib.hid hk
        have HQL := Lib.hid hql
        clear h hB e1 e2 hls hne hk hq hql
        go_enter Try.func80, Try.ntmps80
        go_upto_block 0 with (go_at_call 92; refine (HCL.out).mono ?_; rintro e w3 ⟨rfl, x3, o3⟩; have HX3 := Lib.hid x3; have HO3 := Lib.hid o3; clear x3 o3)
        clear p0 p1 p2
        have HB3 := Lib.hid (HB.out _ HO3.out)
        have HQ3 := Lib.hid (HPB.out _ _ _ _ _ HQ.out HO3.out)
        have HLK := Lib.hid (like_any w3 _ _ _ _ _ _ _ _ HQ3.out.1 HB3.out (by have := HQL.out; omega) (by omega))
        rw [HK.out] at HLK
        obtain ⟨PA1, Pn1, Pc1, VA, Vn, Vc, h1, h2, h3⟩ := HX3.out.is
        obtain ⟨c0, c1, c2⟩ := h1.cells
        clear h1 h2 h3
        go_wp2_with (go_at_call 93; refine (HLK.out).mono ?_; rintro e w4 ⟨rfl, b4⟩; have HX4 := Lib.hid (HX3.out.below b4); have HO4 := Lib.hid (HO3.out.trans (Onl.of b4 (Nat.le_of_lt HX3.out.lt))); clear b4)
        go_ret
        exact ⟨rfl, HX4.out, HO4.out⟩
  · have hne1 : ((n : Int) == (sz : Int)) = false := by simp; omega
    have e1 : tuE sz p l = 4 := if_pos (by omega)
    have e2 : tuV sz p l v = v := if_neg (by rw [e1]; decide)
    rw [e1, e2]
    clear h hB e1 e2 hne h2
    go_enter Try.func80, Try.ntmps80
    go_upto_block 0 with (go_at_call 92; refine (HCL.out).mono ?_; rintro e w3 ⟨rfl, x3, o3⟩; have HX3 := Lib.hid x3; have HO3 := Lib.hid o3; clear x3 o3)
    clear p0 p1 p2
    obtain ⟨PA, Pn, Pc, VA, Vn, Vc, h1, h2, h3⟩ := HX3.out.is
    obtain ⟨c0, c1, c2⟩ := h1.cells
    clear h1 h2 h3
    go_wp2_with fail
    go_ret
    exact ⟨rfl, HX3.out, HO3.out⟩
end
end Go.Proofs.Ytllaajkpobpeiaa