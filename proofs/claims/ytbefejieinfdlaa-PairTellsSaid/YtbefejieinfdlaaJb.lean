/- pair: a checker in memory, and its calls. -/
import Derived.Test.YtbefejieinfdlaaJa
namespace Go.Proofs.Ytbefejieinfdlaa
open Go.RowKit
set_option linter.unusedSimpArgs false
set_option linter.unusedVariables false

/-- Nothing but the block g is another one. -/
structure Onl (g : Nat) (w w' : World) : Prop where
  bel : Below g w w'
  oth : ∀ k, k < w.heap.size → ¬ k = g → w'.heap[k]? = w.heap[k]?
section
variable {g : Nat} {w w' x : World}
theorem Onl.of (h : Below w.heap.size w w') (hg : g ≤ w.heap.size) : Onl g w w' := ⟨h.mono hg, fun k hk _ => h.block k hk⟩
theorem Onl.refl (w : World) (hg : g ≤ w.heap.size) : Onl g w w := Onl.of (Below.refl _ _) hg
theorem Onl.trans (h : Onl g w w') (h2 : Onl g w' x) : Onl g w x := ⟨h.bel.trans h2.bel, fun k hk hn => (h2.oth k (Nat.lt_of_lt_of_le hk h.bel.size) hn).trans (h.oth k hk hn)⟩
theorem Onl.set (w : World) (i : Nat) (v : Value) : Onl g w (w.setCell ⟨g, i, none⟩ v) :=
  ⟨(Below.refl _ w).setCell (p := ⟨g, i, none⟩) (Nat.le_refl _) _, fun k _ hn => Below.heap_setCell w ⟨g, i, none⟩ v k hn⟩
theorem Onl.from_ (h : Onl g w w') {B : Nat} (hB : B ≤ g) : Below B w w' := h.bel.mono hB
end
/-- A checker's block. -/
def CkAt (w : World) (g : Nat) (sz : Int) (PA : Option Addr) (Pn Pc : Nat) (VA : Option Addr) (Vn Vc : Nat) : Prop :=
  w.heap[g]? = some (.cells #[.int .i64 sz, .slice PA Pn Pc, .slice VA Vn Vc] 66 (0, 0))
section
variable {g : Nat} {w w' x : World} {sz : Int} {PA VA A : Option Addr} {Pn Pc Vn Vc n c : Nat} {l : List Int}
theorem CkAt.lt (h : CkAt w g sz PA Pn Pc VA Vn Vc) : g < w.heap.size := (Array.getElem?_eq_some_iff.1 h).1
theorem CkAt.cells (h : CkAt w g sz PA Pn Pc VA Vn Vc) : w.cell? ⟨g, 0, none⟩ = some (.int .i64 sz) ∧ w.cell? ⟨g, 1, none⟩ = some (.slice PA Pn Pc) ∧ w.cell? ⟨g, 2, none⟩ = some (.slice VA Vn Vc) :=
  ⟨by rw [cell_of_row _ _ _ _ _ _ h]; rfl, by rw [cell_of_row _ _ _ _ _ _ h]; rfl, by rw [cell_of_row _ _ _ _ _ _ h]; rfl⟩
theorem CkAt.frozen (h : CkAt w g sz PA Pn Pc VA Vn Vc) (i : Nat) : w.frozen? ⟨g, i, none⟩ = false := frozen_of_row _ _ _ _ _ h
theorem CkAt.below (h : CkAt w g sz PA Pn Pc VA Vn Vc) (hb : Below w.heap.size w w') : CkAt w' g sz PA Pn Pc VA Vn Vc := (hb.block g h.lt).trans h
theorem CkAt.onl (h : CkAt w g sz PA Pn Pc VA Vn Vc) {q : Nat} (ho : Onl q w w') (hn : ¬ g = q) : CkAt w' g sz PA Pn Pc VA Vn Vc := (ho.oth g h.lt hn).trans h
theorem CkAt.set1 (h : CkAt w g sz PA Pn Pc VA Vn Vc) (A : Option Addr) (n c : Nat) : CkAt (w.setCell ⟨g, 1, none⟩ (.slice A n c)) g sz A n c VA Vn Vc := heap_setCell_same w g 1 _ _ _ h
theorem CkAt.set2 (h : CkAt w g sz PA Pn Pc VA Vn Vc) (A : Option Addr) (n c : Nat) : CkAt (w.setCell ⟨g, 2, none⟩ (.slice A n c)) g sz PA Pn Pc A n c := heap_setCell_same w g 2 _ _ _ h
/-- No byte lies in a checker's block. -/
theorem CkAt.byt (h : CkAt w g sz PA Pn Pc VA Vn Vc) (hB : Byt w w.heap.size A n c l) (ho : Onl g w w') : Byt w' w'.heap.size A n c l := by
  refine ⟨hB.len, hB.cap, hB.max, hB.rng, fun hn => ?_⟩
  obtain ⟨b, off, e, hb, hc⟩ := hB.cells hn
  have hbg : ¬ b = g := by
    rintro rfl
    have h0 := hc 0 hn
    rw [cell_of_row _ _ _ _ _ _ h] at h0
    match ho0 : off + 0 with
    | 0 => rw [ho0] at h0; simp at h0
    | 1 => rw [ho0] at h0; simp at h0
    | 2 => rw [ho0] at h0; simp at h0
    | k + 3 => rw [ho0] at h0; simp at h0
  refine ⟨b, off, e, Nat.lt_of_lt_of_le hb ho.bel.size, fun j hj => ?_⟩
  have hh := ho.oth b hb hbg
  have := hc j hj
  unfold World.cell? at *
  simp only at this ⊢
  rw [hh]
  exact this
end
/-- The plain frame's bytes, while it waits for the turned one. -/
def PlP (w : World) (sz : Nat) : Option (List Int) → Option Addr → Nat → Nat → Prop
  | none, A, n, c => A = none ∧ n = 0 ∧ c = 0
  | some l, A, n, c => (∃ a, A = some a) ∧ Byt w w.heap.size A n c l ∧ l.length = sz
/-- A checker of a size, what it waits behind, and its value. -/
structure CkT (w : World) (g sz : Nat) (p : Option (List Int)) (v : List Int) : Prop where
  is : ∃ PA Pn Pc VA Vn Vc, CkAt w g sz PA Pn Pc VA Vn Vc ∧ PlP w sz p PA Pn Pc ∧ Byt w w.heap.size VA Vn Vc v
  sz : 1 ≤ sz ∧ sz ≤ 8
  vl : v.length ≤ 8
section
variable {g sz : Nat} {w w' : World} {p : Option (List Int)} {v : List Int}
theorem PlP.below {PA : Option Addr} {Pn Pc : Nat} (h : PlP w sz p PA Pn Pc) (hb : Below w.heap.size w w') : PlP w' sz p PA Pn Pc := by
  cases p with
  | none => exact h
  | some l => exact ⟨h.1, h.2.1.step hb, h.2.2⟩
theorem CkT.lt (h : CkT w g sz p v) : g < w.heap.size := by obtain ⟨PA, Pn, Pc, VA, Vn, Vc, h1, _⟩ := h.is; exact h1.lt
theorem CkT.below (h : CkT w g sz p v) (hb : Below w.heap.size w w') : CkT w' g sz p v := by
  obtain ⟨PA, Pn, Pc, VA, Vn, Vc, h1, h2, h3⟩ := h.is
  exact ⟨⟨PA, Pn, Pc, VA, Vn, Vc, h1.below hb, h2.below hb, h3.step hb⟩, h.sz, h.vl⟩
theorem CkT.drew (h : CkT w g sz p v) : CkT w.drew g sz p v := h.below (kD w)
/-- Another checker's block may change. -/
theorem CkT.onl {q : Nat} {sz' : Int} {PA' VA' : Option Addr} {Pn' Pc' Vn' Vc' : Nat} (h : CkT w g sz p v) (hq : CkAt w q sz' PA' Pn' Pc' VA' Vn' Vc') (ho : Onl q w w') (hn : ¬ g = q) : CkT w' g sz p v := by
  obtain ⟨PA, Pn, Pc, VA, Vn, Vc, h1, h2, h3⟩ := h.is
  refine ⟨⟨PA, Pn, Pc, VA, Vn, Vc, h1.onl ho hn, ?_, hq.byt h3 ho⟩, h.sz, h.vl⟩
  cases p with
  | none => exact h2
  | some l => exact ⟨h2.1, hq.byt h2.2.1 ho, h2.2.2⟩
theorem CkT.onlT {q sz2 : Nat} {p2 : Option (List Int)} {v2 : List Int} (h : CkT w g sz p v) (hq : CkT w q sz2 p2 v2) (ho : Onl q w w') (hn : ¬ g = q) : CkT w' g sz p v := by
  obtain ⟨PA, Pn, Pc, VA, Vn, Vc, h1, h2, h3⟩ := hq.is
  exact h.onl h1 ho hn
theorem CkT.byt {A : Option Addr} {n c : Nat} {l : List Int} (h : CkT w g sz p v) (hB : Byt w w.heap.size A n c l) (ho : Onl g w w') : Byt w' w'.heap.size A n c l := by
  obtain ⟨PA, Pn, Pc, VA, Vn, Vc, h1, _⟩ := h.is
  exact h1.byt hB ho
end
/-! ### A nil checker -/
theorem clear_nil (w : World) : Calls Try.prog 15 #[.pointer none] w fun e w' => e = .returned (.tuple #[]) ∧ w = w' := by
  go_enter Try.func15, Try.ntmps15
  go_wp2
  go_end0
  exact ⟨rfl, rfl⟩
theorem half_nil (w : World) : Calls Try.prog 18 #[.pointer none] w fun e w' => e = .returned (.bool false) ∧ w = w' := by
  go_enter Try.func18, Try.ntmps18
  go_wp2
  go_ret
  exact ⟨rfl, rfl⟩
theorem value_nil (w : World) : Calls Try.prog 19 #[.pointer none] w fun e w' => e = .returned (.slice none 0 0) ∧ w = w' := by
  go_enter Try.func19, Try.ntmps19
  go_wp2
  go_ret
  exact ⟨rfl, rfl⟩
theorem fork_nil (w : World) : Calls Try.prog 20 #[.pointer none] w fun e w' => e = .returned (.pointer none) ∧ w = w' := by
  go_enter Try.func20, Try.ntmps20
  go_wp2
  go_ret
  exact ⟨rfl, rfl⟩
theorem plain_nil (A : Option Addr) (n c : Nat) (w : World) : Calls Try.prog 16 #[.pointer none, .slice A n c] w fun e w' => e = .returned (.int .i64 0) ∧ w = w' := by
  go_enter Try.func16, Try.ntmps16
  go_wp2
  go_ret
  exact ⟨rfl, rfl⟩
theorem turned_nil (A : Option Addr) (n c : Nat) (w : World) : Calls Try.prog 17 #[.pointer none, .slice A n c] w fun e w' => e = .returned (.int .i64 0) ∧ w = w' := by
  go_enter Try.func17, Try.ntmps17
  go_wp2
  go_ret
  exact ⟨rfl, rfl⟩
/-! ### New -/
def isZ (n : Int) : Bool := decide (1 ≤ n ∧ n ≤ 8)
theorem size_any (n : Int) (w : World) : Calls Try.prog 25 #[.int .i64 n] w fun e w' => e = .returned (.bool (isZ n)) ∧ w = w' := by
  by_cases h1 : 1 ≤ n
  · by_cases h2 : n ≤ 8
    · rw [show isZ n = true by simp [isZ, h1, h2]]; go_enter Try.func25, Try.ntmps25; go_wp2; go_ret; exact ⟨rfl, rfl⟩
    · rw [show isZ n = false by simp [isZ, h2]]; go_enter Try.func25, Try.ntmps25; go_wp2; go_ret; exact ⟨rfl, rfl⟩
  · rw [show isZ n = false by simp [isZ, h1]]; go_enter Try.func25, Try.ntmps25; go_wp2; go_ret; exact ⟨rfl, rfl⟩
theorem cnew_no (n : Int) (w : World) (h : isZ n = false) : Calls Try.prog 14 #[.int .i64 n] w fun e w' => e = .returned (.tuple #[.pointer none, .int .i64 2]) ∧ w = w' := by
  have HL := Lib.hid (size_any n w)
  rw [h] at HL
  clear h
  go_enter Try.func14, Try.ntmps14
  go_wp2_with (go_at_call 25; refine (HL.out).mono ?_; rintro e w2 ⟨rfl, rfl⟩)
  go_ret2
  exact ⟨rfl, rfl⟩
theorem cnew_ok (n : Nat) (w : World) (h : 1 ≤ n ∧ n ≤ 8) : Calls Try.prog 14 #[.int .i64 (n : Int)] w fun e w' => ∃ g, w.heap.size ≤ g ∧ e = .returned (.tuple #[.pointer (some ⟨g, 0, none⟩), .int .i64 0]) ∧ CkT w' g n none [] ∧ Below w.heap.size w w' := by
  have HL := Lib.hid (size_any n w)
  rw [show isZ (n : Int) = true from decide_eq_true (by omega)] at HL
  have HX := Lib.hid (show CkT (w.alloc (.cells #[.int .i64 (n : Int), .slice none 0 0, .slice none 0 0] 66)) w.heap.size n none [] from ⟨⟨none, 0, 0, none, 0, 0, heap_alloc_new w _, ⟨rfl, rfl, rfl⟩, Byt.nil_ _ _⟩, h, by simp⟩)
  have HB := Lib.hid ((Below.refl w.heap.size w).alloc (Nat.le_refl _) (.cells #[.int .i64 (n : Int), .slice none 0 0, .slice none 0 0] 66))
  clear h
  go_enter Try.func14, Try.ntmps14
  go_wp2_with (go_at_call 25; refine (HL.out).mono ?_; rintro e w2 ⟨rfl, rfl⟩)
  go_ret2
  exact ⟨w.heap.size, Nat.le_refl _, rfl, HX.out, HB.out⟩
/-! ### A checker -/
section
variable {g sz : Nat} {w : World} {p : Option (List Int)} {v : List Int}
theorem clearT (h : CkT w g sz p v) : Calls Try.prog 15 #[.pointer (some ⟨g, 0, none⟩)] w fun e w' => e = .returned (.tuple #[]) ∧ CkT w' g sz none v ∧ Onl g w w' := by
  obtain ⟨PA, Pn, Pc, VA, Vn, Vc, h1, h2, h3⟩ := h.is
  obtain ⟨c0, c1, c2⟩ := h1.cells
  have f1 := h1.frozen 1
  have HO := Lib.hid (Onl.set (g := g) w 1 (.slice none 0 0))
  have HX := Lib.hid (show CkT (w.setCell ⟨g, 1, none⟩ (.slice none 0 0)) g sz none v from ⟨⟨none, 0, 0, VA, Vn, Vc, h1.set1 none 0 0, ⟨rfl, rfl, rfl⟩, h1.byt h3 HO.out⟩, h.sz, h.vl⟩)
  clear h h1 h2 h3
  go_enter Try.func15, Try.ntmps15
  go_wp2_with fail
  go_end0
  exact ⟨rfl, HX.out, HO.out⟩
theorem halfT (h : CkT w g sz p v) : Calls Try.prog 18 #[.pointer (some ⟨g, 0, none⟩)] w fun e w' => e = .returned (.bool p.isSome) ∧ w = w' := by
  obtain ⟨PA, Pn, Pc, VA, Vn, Vc, h1, h2, h3⟩ := h.is
  obtain ⟨c0, c1, c2⟩ := h1.cells
  cases p with
  | none =>
    obtain ⟨rfl, rfl, rfl⟩ := h2
    clear h h1 h3
    go_enter Try.func18, Try.ntmps18
    go_wp2_with fail
    go_ret
    exact ⟨rfl, rfl⟩
  | some l =>
    obtain ⟨⟨a, rfl⟩, _, _⟩ := h2
    clear h h1 h3
    go_enter Try.func18, Try.ntmps18
    go_wp2_with fail
    go_ret
    exact ⟨rfl, rfl⟩
theorem valueT (h : CkT w g sz p v) : Calls Try.prog 19 #[.pointer (some ⟨g, 0, none⟩)] w fun e w' => ∃ A c, e = .returned (.slice A v.length c) ∧ Byt w' w'.heap.size A v.length c v ∧ Below w.heap.size w w' := by
  obtain ⟨PA, Pn, Pc, VA, Vn, Vc, h1, h2, h3⟩ := h.is
  obtain ⟨c0, c1, c2⟩ := h1.cells
  have hv := h.vl
  have hvl := h3.len
  have HC := Lib.hid (clone_any w VA Vn Vc v h3 (by omega))
  have HV := Lib.hid hvl
  clear h h1 h2 h3 hv hvl
  go_enter Try.func19, Try.ntmps19
  go_wp2_with (go_at_call 32; refine (HC.out).mono ?_; rintro e w2 ⟨A', c', rfl, hB, hb, _⟩; have HBY := Lib.hid hB; have HB := Lib.hid hb; clear hB hb)
  go_ret
  exact ⟨A', c', by rw [HV.out]; rfl, by rw [HV.out]; exact HBY.out, HB.out⟩
theorem forkT (h : CkT w g sz p v) : Calls Try.prog 20 #[.pointer (some ⟨g, 0, none⟩)] w fun e w' => ∃ q, w.heap.size ≤ q ∧ e = .returned (.pointer (some ⟨q, 0, none⟩)) ∧ CkT w' q sz p v ∧ Below w.heap.size w w' := by
  obtain ⟨PA, Pn, Pc, VA, Vn, Vc, h1, h2, h3⟩ := h.is
  obtain ⟨c0, c1, c2⟩ := h1.cells
  have HB := Lib.hid ((Below.refl w.heap.size w).alloc (Nat.le_refl _) (.cells #[.int .i64 (sz : Int), .slice PA Pn Pc, .slice VA Vn Vc] 66))
  have HX := Lib.hid (show CkT (w.alloc (.cells #[.int .i64 (sz : Int), .slice PA Pn Pc, .slice VA Vn Vc] 66)) w.heap.size sz p v from ⟨⟨PA, Pn, Pc, VA, Vn, Vc, heap_alloc_new w _, h2.below HB.out, h3.step HB.out⟩, h.sz, h.vl⟩)
  clear h h1 h2 h3
  go_enter Try.func20, Try.ntmps20
  go_wp2_with fail
  go_ret
  exact ⟨w.heap.size, Nat.le_refl _, rfl, HX.out, HB.out⟩
end
/-- What a plain frame tells, and what it waits behind then. -/
def plE (sz : Nat) (p : Option (List Int)) (l : List Int) : Int := if ¬ l.length = sz then 4 else if p.isSome then 3 else 1
def plP (sz : Nat) (p : Option (List Int)) (l : List Int) : Option (List Int) := if plE sz p l = 1 then some l else none
/-- What a turned frame tells, and the value behind it. -/
def tuE (sz : Nat) (p : Option (List Int)) (l : List Int) : Int := if ¬ l.length = sz then 4 else match p with | none => 3 | some q => if lkB q l then 2 else 5
def tuV (sz : Nat) (p : Option (List Int)) (l v : List Int) : List Int := if tuE sz p l = 2 then p.getD [] else v
section
variable {g sz : Nat} {w : World} {p : Option (List Int)} {v : List Int} {A : Option Addr} {n c : Nat} {l : List Int}
set_option maxHeartbeats 1000000 in
theorem plainT (h : CkT w g sz p v) (hB : Byt w w.heap.size A n c l) (hn : n ≤ 1000) : Calls Try.prog 16 #[.pointer (some ⟨g, 0, none⟩), .slice A n c] w fun e w' => e = .returned (.int .i64 (plE sz p l)) ∧ CkT w' g sz (plP sz p l) v ∧ Onl g w w' := by
  have HH := Lib.hid (halfT h)
  have HCL := Lib.hid (clearT h)
  have HB := Lib.hid (fun w' (ho : Onl g w w') => h.byt hB ho)
  have hsz := h.sz
  have hl := hB.len
  have HGL := Lib.hid (Nat.le_of_lt h.lt)
  by_cases hne : n = sz
  · have hne1 : ((n : Int) == (sz : Int)) = true := by simp; omega
    have hls : ¬ ¬ l.length = sz := by omega
    cases p with
    | some q =>
      have e1 : plE sz (some q) l = 3 := (if_neg hls).trans (if_pos rfl)
      have e2 : plP sz (some q) l = none := by unfold plP; rw [e1]; rfl
      rw [e1, e2]
      clear h hB e1 e2 hls hne
      go_enter Try.func16, Try.ntmps16
      go_upto_block 0 with (first
        | (go_at_call 18; refine (HH.out).mono ?_; rintro e w2 ⟨rfl, rfl⟩)
        | (go_at_call 15; refine (HCL.out).mono ?_; rintro e w3 ⟨rfl, x3, o3⟩; have HX3 := Lib.hid x3; have HO3 := Lib.hid o3; clear x3 o3))
      obtain ⟨PA, Pn, Pc, VA, Vn, Vc, h1, h2, h3⟩ := HX3.out.is
      obtain ⟨c0, c1, c2⟩ := h1.cells
      clear h1 h2 h3
      go_wp2_with fail
      go_ret
      exact ⟨rfl, HX3.out, HO3.out⟩
    | none =>
      have e1 : plE sz none l = 1 := (if_neg hls).trans (if_neg (by simp))
      have e2 : plP sz none l = some l := by unfold plP; rw [e1]; rfl
      rw [e1, e2]
      have hn0 : 0 < n := by omega
      have HL := Lib.hid (show l.length = sz by omega)
      clear h hB e1 e2 hls hne hl
      go_enter Try.func16, Try.ntmps16
      go_upto_block 0 with (first
        | (go_at_call 18; refine (HH.out).mono ?_; rintro e w2 ⟨rfl, rfl⟩)
        | (go_at_call 15; refine (HCL.out).mono ?_; rintro e w3 ⟨rfl, x3, o3⟩; have HX3 := Lib.hid x3; have HO3 := Lib.hid o3; clear x3 o3))
      have HB3 := Lib.hid (HB.out _ HO3.out)
      have HC := Lib.hid (clone_any w3 A n c l HB3.out (by omega))
      obtain ⟨PA, Pn, Pc, VA, Vn, Vc, h1, h2, h3⟩ := HX3.out.is
      obtain ⟨c0, c1, c2⟩ := h1.cells
      have H1 := Lib.hid h1
      have H3 := Lib.hid h3
      clear h1 h2 h3
      go_upto_region 9 with fail
      clear c0 c1 c2
      go_upto_region 10 with (go_at_call 32; refine (HC.out).mono ?_; rintro e w4 ⟨A', c', rfl, hB4, hb4, _⟩; have HBY := Lib.hid hB4; have HB4 := Lib.hid hb4; have H14 := Lib.hid (H1.out.below hb4); have H34 := Lib.hid (H3.out.step hb4); clear hB4 hb4; obtain ⟨c0, c1, c2⟩ := H14.out.cells; have f1 := H14.out.frozen 1)
      have HO4 := Lib.hid (Onl.set (g := g) w4 1 (.slice A' n c'))
      have HX4 := Lib.hid (show CkT (w4.setCell ⟨g, 1, none⟩ (.slice A' n c')) g sz (some l) v from ⟨⟨A', n, c', VA, Vn, Vc, H14.out.set1 A' n c', ⟨by obtain ⟨b, off, e, _⟩ := HBY.out.cells hn0; exact ⟨_, e⟩, H14.out.byt HBY.out HO4.out, HL.out⟩, H14.out.byt H34.out HO4.out⟩, HX3.out.sz, HX3.out.vl⟩)
      have HO5 := Lib.hid ((HO3.out.trans (Onl.of HB4.out (Nat.le_of_lt HX3.out.lt))).trans HO4.out)
      clear c0 c1 c2 f1
      generalize w4.setCell ⟨g, 1, none⟩ (.slice A' n c') = w5 at *
      go_wp2_with fail
      go_ret
      exact ⟨rfl, HX4.out, HO5.out⟩
  · have hne1 : ((n : Int) == (sz : Int)) = false := by simp; omega
    have e1 : plE sz p l = 4 := if_pos (by omega)
    have e2 : plP sz p l = none := by unfold plP; rw [e1]; rfl
    rw [e1, e2]
    clear h hB e1 e2 hne
    go_enter Try.func16, Try.ntmps16
    go_upto_block 0 with (first
      | (go_at_call 18; refine (HH.out).mono ?_; rintro e w2 ⟨rfl, rfl⟩)
      | (go_at_call 15; refine (HCL.out).mono ?_; rintro e w3 ⟨rfl, x3, o3⟩; have HX3 := Lib.hid x3; have HO3 := Lib.hid o3; clear x3 o3))
    obtain ⟨PA, Pn, Pc, VA, Vn, Vc, h1, h2, h3⟩ := HX3.out.is
    obtain ⟨c0, c1, c2⟩ := h1.cells
    clear h1 h2 h3
    go_wp2_with fail
    go_ret
    exact ⟨rfl, HX3.out, HO3.out⟩
set_option maxHeartbeats 1000000 in
theorem turnedT (h : CkT w g sz p v) (hB : Byt w w.heap.size A n c l) (hn : n ≤ 1000) : Calls Try.prog 17 #[.pointer (some ⟨g, 0, none⟩), .slice A n c] w fun e w' => e = .returned (.int .i64 (tuE sz p l)) ∧ CkT w' g sz none (tuV sz p l v) ∧ Onl g w w' := by
  have HCL := Lib.hid (clearT h)
  have HB := Lib.hid (fun w' (ho : Onl g w w') => h.byt hB ho)
  have HPB := Lib.hid (fun w' A n c l (hx : Byt w w.heap.size A n c l) (ho : Onl g w w') => h.byt hx ho)
  have hsz := h.sz
  have hl := hB.len
  obtain ⟨PA, Pn, Pc, VA, Vn, Vc, h1, h2, h3⟩ := h.is
  obtain ⟨p0, p1, p2⟩ := h1.cells
  clear h1 h3
  by_cases hne : n = sz
  · have hne1 : ((n : Int) == (sz : Int)) = true := by simp; omega
    have hls : ¬ ¬ l.length = sz := by omega
    cases p with
    | none =>
      obtain ⟨rfl, rfl, rfl⟩ := h2
      have he := fun w : World => Lib.run_eql_slice_nil (P := Try.prog) w 22 5 none 0 0 0 0 Try.underlying22
      have e1 : tuE sz none l = 3 := if_neg hls
      have e2 : tuV sz none l v = v := if_neg (by rw [e1]; decide)
      rw [e1, e2]
      clear h hB e1 e2 hls hne
      go_enter Try.func17, Try.ntmps17
      go_upto_block 0 with (go_at_call 15; refine (HCL.out).mono ?_; rintro e w3 ⟨rfl, x3, o3⟩; have HX3 := Lib.hid x3; have HO3 := Lib.hid o3; clear x3 o3)
      clear p0 p1 p2
      obtain ⟨PA, Pn, Pc, VA, Vn, Vc, h1, h2, h3⟩ := HX3.out.is
      obtain ⟨c0, c1, c2⟩ := h1.cells
      clear h1 h2 h3
      go_wp2_with fail
      go_ret
      exact ⟨rfl, HX3.out, HO3.out⟩
    | some q =>
      obtain ⟨⟨a, rfl⟩, hq, hql⟩ := h2
      have he := fun w : World => Lib.run_eql_slice_nil (P := Try.prog) w 22 5 (some a) Pn Pc 0 0 Try.underlying22
      have hqn := hq.len
      have HQ := Lib.hid hq
      cases hk : lkB q l with
      | true =>
        have e1 : tuE sz (some q) l = 2 := (if_neg hls).trans (if_pos hk)
        have e2 : tuV sz (some q) l v = q := if_pos e1
        rw [e1, e2]
        have HK := Lib.hid hk
        have HQL := Lib.hid hql
        clear h hB e1 e2 hls hne hk hq hql
        go_enter Try.func17, Try.ntmps17
        go_upto_block 0 with (go_at_call 15; refine (HCL.out).mono ?_; rintro e w3 ⟨rfl, x3, o3⟩; have HX3 := Lib.hid x3; have HO3 := Lib.hid o3; clear x3 o3)
        clear p0 p1 p2
        have HB3 := Lib.hid (HB.out _ HO3.out)
        have HQ3 := Lib.hid (HPB.out _ _ _ _ _ HQ.out HO3.out)
        have HLK := Lib.hid (like_any w3 _ _ _ _ _ _ _ _ HQ3.out HB3.out (by have := HQL.out; omega) (by omega))
        rw [HK.out] at HLK
        obtain ⟨PA1, Pn1, Pc1, VA, Vn, Vc, h1, h2, h3⟩ := HX3.out.is
        obtain ⟨c0, c1, c2⟩ := h1.cells
        have H1 := Lib.hid h1
        have HPN := Lib.hid (show PlP (w3.setCell ⟨g, 2, none⟩ (.slice none 0 0)) sz none PA1 Pn1 Pc1 from h2)
        clear h1 h2 h3
        go_upto_region 11 with (go_at_call 11; refine (HLK.out).mono ?_; rintro e w4 ⟨rfl, b4⟩; have HB4 := Lib.hid b4; have H14 := Lib.hid (H1.out.below b4); have HQ4 := Lib.hid (HQ3.out.step b4); clear b4)
        clear c0 c1 c2
        obtain ⟨c0, c1, c2⟩ := H14.out.cells
        have f2 := H14.out.frozen 2
        have HO4 := Lib.hid (Onl.set (g := g) w4 2 (.slice (some a) Pn Pc))
        go_upto_region 12 with fail
        have HX4 := Lib.hid (show CkT (w4.setCell ⟨g, 2, none⟩ (.slice (some a) Pn Pc)) g sz none q from ⟨⟨_, _, _, _, _, _, H14.out.set2 _ _ _, HPN.out, H14.out.byt HQ4.out HO4.out⟩, hsz, by have := HQL.out; omega⟩)
        have HO5 := Lib.hid ((HO3.out.trans (Onl.of HB4.out (Nat.le_of_lt HX3.out.lt))).trans HO4.out)
        clear c0 c1 c2 f2
        generalize w4.setCell ⟨g, 2, none⟩ (.slice (some a) Pn Pc) = w5 at *
        go_wp2_with fail
        go_ret
        exact ⟨rfl, HX4.out, HO5.out⟩
      | false =>
        have e1 : tuE sz (some q) l = 5 := (if_neg hls).trans (if_neg (by rw [hk]; simp))
        have e2 : tuV sz (some q) l v = v := if_neg (by rw [e1]; decide)
        rw [e1, e2]
        have HK := Lib.hid hk
        have HQL := Lib.hid hql
        clear h hB e1 e2 hls hne hk hq hql
        go_enter Try.func17, Try.ntmps17
        go_upto_block 0 with (go_at_call 15; refine (HCL.out).mono ?_; rintro e w3 ⟨rfl, x3, o3⟩; have HX3 := Lib.hid x3; have HO3 := Lib.hid o3; clear x3 o3)
        clear p0 p1 p2
        have HB3 := Lib.hid (HB.out _ HO3.out)
        have HQ3 := Lib.hid (HPB.out _ _ _ _ _ HQ.out HO3.out)
        have HLK := Lib.hid (like_any w3 _ _ _ _ _ _ _ _ HQ3.out HB3.out (by have := HQL.out; omega) (by omega))
        rw [HK.out] at HLK
        obtain ⟨PA1, Pn1, Pc1, VA, Vn, Vc, h1, h2, h3⟩ := HX3.out.is
        obtain ⟨c0, c1, c2⟩ := h1.cells
        clear h1 h2 h3
        go_wp2_with (go_at_call 11; refine (HLK.out).mono ?_; rintro e w4 ⟨rfl, b4⟩; have HX4 := Lib.hid (HX3.out.below b4); have HO4 := Lib.hid (HO3.out.trans (Onl.of b4 (Nat.le_of_lt HX3.out.lt))); clear b4)
        go_ret
        exact ⟨rfl, HX4.out, HO4.out⟩
  · have hne1 : ((n : Int) == (sz : Int)) = false := by simp; omega
    have e1 : tuE sz p l = 4 := if_pos (by omega)
    have e2 : tuV sz p l v = v := if_neg (by rw [e1]; decide)
    rw [e1, e2]
    clear h hB e1 e2 hne h2
    go_enter Try.func17, Try.ntmps17
    go_upto_block 0 with (go_at_call 15; refine (HCL.out).mono ?_; rintro e w3 ⟨rfl, x3, o3⟩; have HX3 := Lib.hid x3; have HO3 := Lib.hid o3; clear x3 o3)
    clear p0 p1 p2
    obtain ⟨PA, Pn, Pc, VA, Vn, Vc, h1, h2, h3⟩ := HX3.out.is
    obtain ⟨c0, c1, c2⟩ := h1.cells
    clear h1 h2 h3
    go_wp2_with fail
    go_ret
    exact ⟨rfl, HX3.out, HO3.out⟩
end
end Go.Proofs.Ytbefejieinfdlaa
