/- cons: a taker in memory, and its plain calls. -/
import Derived.Test.YtllaajkpobpeiaaOct
import Derived.Test.YtllaajkpobpeiaaOj
import Derived.Test.YtllaajkpobpeiaaOJu
import Derived.Test.YtllaajkpobpeiaaOZd
namespace Go.Proofs.Ytllaajkpobpeiaa
open Go.RowKit
set_option linter.unusedSimpArgs false
set_option linter.unusedVariables false

def wkA (ck gd : Nat) (x : ChV) : Array Value := #[.pointer (some ⟨ck, 0, none⟩), .pointer (some ⟨gd, 0, none⟩), .int .i64 x.dir, .int .i64 x.time, .int .i64 x.gap, .int .i64 x.plain, .int .i64 x.turned, .int .i64 x.n, .int .i64 (x.s 0).i, .int .i64 (x.s 0).j, .int .i64 (x.s 0).n, .int .i64 (x.s 1).i, .int .i64 (x.s 1).j, .int .i64 (x.s 1).n, .int .i64 (x.s 2).i, .int .i64 (x.s 2).j, .int .i64 (x.s 2).n, .int .i64 (x.s 3).i, .int .i64 (x.s 3).j, .int .i64 (x.s 3).n, .int .i64 (x.s 4).i, .int .i64 (x.s 4).j, .int .i64 (x.s 4).n, .int .i64 (x.s 5).i, .int .i64 (x.s 5).j, .int .i64 (x.s 5).n, .int .i64 (x.s 6).i, .int .i64 (x.s 6).j, .int .i64 (x.s 6).n, .int .i64 (x.s 7).i, .int .i64 (x.s 7).j, .int .i64 (x.s 7).n]
theorem wkA_size (ck gd : Nat) (x : ChV) : (wkA ck gd x).size = 32 := rfl
theorem wkA_mid (ck gd : Nat) (x : ChV) : ∀ (j : Nat) (v : Value), (chA x).toList[j]? = some v → (wkA ck gd x)[2 + j]? = some v := by
  intro j v hv
  have : j < 30 := (List.getElem?_eq_some_iff.1 hv).1
  rcases j with _|_|_|_|_|_|_|_|_|_|_|_|_|_|_|_|_|_|_|_|_|_|_|_|_|_|_|_|_|_|j
  all_goals first | exact hv | omega
theorem info_wk : (Try.prog.info? 113).map (·.size) = some 32 := by kernel_rfl
theorem info_tk : (Try.prog.info? 105).map (·.size) = some 2 := by kernel_rfl
/-- A taker at rest (c = 0), or that has failed with the cause c. -/
def TkR (w : World) (t : Nat) (c : Int) : Prop := w.heap[t]? = some (.cells #[.pointer none, .int .i64 c] 105 (0, 0))
/-- A taker at work. -/
structure TkW (w : World) (t k ck gd sz : Nat) (x : ChV) (p : Option (List Int)) (v : List Int) (S F : Int) : Prop where
  tb : w.heap[t]? = some (.cells #[.pointer (some ⟨k, 0, none⟩), .int .i64 0] 105 (0, 0))
  kb : w.heap[k]? = some (.cells (wkA ck gd x) 113 (0, 0))
  cs : CkU w ck sz p v
  gs : GdT w gd x.time x.gap S F
theorem GdT.ty {w : World} {g : Nat} {T G S F : Int} (h : GdT w g T G S F) : ∃ cs, w.heap[g]? = some (.cells cs 136 (0, 0)) := by
  obtain ⟨a, f, b, k, h1, _⟩ := h.is
  exact ⟨_, h1⟩
theorem ne_ty {w : World} {a b : Nat} {c d : Array Value} {s t : TypeId} {f g : Nat × Nat} (h1 : w.heap[a]? = some (.cells c s f)) (h2 : w.heap[b]? = some (.cells d t g)) (hn : ¬ s = t) : ¬ a = b := by
  rintro rfl
  rw [h1] at h2
  simp only [Option.some.injEq, Obj.cells.injEq] at h2
  exact hn h2.2.1
theorem keepU_onl {w w' : World} {q : Nat} {cs : Array Value} {t : TypeId} {fr : Nat × Nat} (ho : Onl q w w') (hq : w.heap[q]? = some (.cells cs t fr)) (ht : ¬ t = 5) : KeepU w w' :=
  ⟨ho.bel.size, fun k cs' fr' hk => (ho.oth k (Array.getElem?_eq_some_iff.1 hk).1 (fun e => ne_ty hq hk ht e.symm)).trans hk⟩
section
variable {w w' : World} {t k ck gd sz : Nat} {x : ChV} {p p' : Option (List Int)} {v v' : List Int} {S F S' F' c : Int}
theorem TkR.lt (h : TkR w t c) : t < w.heap.size := (Array.getElem?_eq_some_iff.1 h).1
theorem TkR.below (h : TkR w t c) (hb : Below w.heap.size w w') : TkR w' t c := (hb.block _ h.lt).trans h
theorem TkR.cells (h : TkR w t c) : w.cell? ⟨t, 0, none⟩ = some (.pointer none) ∧ w.cell? ⟨t, 1, none⟩ = some (.int .i64 c) := by
  refine ⟨?_, ?_⟩ <;> (rw [cell_of_row _ _ _ _ _ _ h]; rfl)
theorem TkW.lt (h : TkW w t k ck gd sz x p v S F) : t < w.heap.size := (Array.getElem?_eq_some_iff.1 h.tb).1
theorem TkW.below (h : TkW w t k ck gd sz x p v S F) (hb : Below w.heap.size w w') : TkW w' t k ck gd sz x p v S F :=
  ⟨(hb.block _ h.lt).trans h.tb, (hb.block _ (Array.getElem?_eq_some_iff.1 h.kb).1).trans h.kb, h.cs.below hb, h.gs.below hb⟩
theorem TkW.onc (h : TkW w t k ck gd sz x p v S F) (ho : Onl ck w w') (hc : CkU w' ck sz p' v') : TkW w' t k ck gd sz x p' v' S F := by
  obtain ⟨cc, hcc⟩ := h.cs.ty
  obtain ⟨gc, hgc⟩ := h.gs.ty
  exact ⟨(ho.oth _ h.lt (ne_ty h.tb hcc (by decide))).trans h.tb, (ho.oth _ (Array.getElem?_eq_some_iff.1 h.kb).1 (ne_ty h.kb hcc (by decide))).trans h.kb, hc, h.gs.onl ho (ne_ty hgc hcc (by decide))⟩
theorem TkW.ong (h : TkW w t k ck gd sz x p v S F) (ho : Onl gd w w') (hg : GdT w' gd x.time x.gap S' F') : TkW w' t k ck gd sz x p v S' F' := by
  obtain ⟨cc, hcc⟩ := h.cs.ty
  obtain ⟨gc, hgc⟩ := h.gs.ty
  exact ⟨(ho.oth _ h.lt (ne_ty h.tb hgc (by decide))).trans h.tb, (ho.oth _ (Array.getElem?_eq_some_iff.1 h.kb).1 (ne_ty h.kb hgc (by decide))).trans h.kb, h.cs.keep (ho.oth _ h.cs.lt (ne_ty hcc hgc (by decide))) (keepU_onl ho hgc (by decide)), hg⟩
theorem TkW.cells (h : TkW w t k ck gd sz x p v S F) : w.cell? ⟨t, 0, none⟩ = some (.pointer (some ⟨k, 0, none⟩)) ∧ w.cell? ⟨t, 1, none⟩ = some (.int .i64 0) ∧ w.cell? ⟨k, 0, none⟩ = some (.pointer (some ⟨ck, 0, none⟩)) ∧ w.cell? ⟨k, 1, none⟩ = some (.pointer (some ⟨gd, 0, none⟩)) ∧ w.cell? ⟨k, 2 + 3, none⟩ = some (.int .i64 x.plain) ∧ w.cell? ⟨k, 2 + 4, none⟩ = some (.int .i64 x.turned) := by
  refine ⟨?_, ?_, ?_, ?_, ?_, ?_⟩
  · rw [cell_of_row _ _ _ _ _ _ h.tb]; rfl
  · rw [cell_of_row _ _ _ _ _ _ h.tb]; rfl
  · rw [cell_of_row _ _ _ _ _ _ h.kb]; rfl
  · rw [cell_of_row _ _ _ _ _ _ h.kb]; rfl
  · rw [cell_of_row _ _ _ _ _ _ h.kb]; rfl
  · rw [cell_of_row _ _ _ _ _ _ h.kb]; rfl
theorem TkW.mid (h : TkW w t k ck gd sz x p v S F) : w.rangeAt k 2 (chA x).toList := fun j v hv => by
  rw [cell_of_row _ _ _ _ _ _ h.kb]; exact wkA_mid _ _ _ j v hv
end
/-- Nothing but three blocks is another one. -/
structure Oth3 (t ck gd : Nat) (w w' : World) : Prop where
  size : w.heap.size ≤ w'.heap.size
  oth : ∀ j, j < w.heap.size → ¬ j = t → ¬ j = ck → ¬ j = gd → w'.heap[j]? = w.heap[j]?
  bel : ∀ B, B ≤ t → B ≤ ck → B ≤ gd → B ≤ w.heap.size → Below B w w'
section
variable {w w' w'' : World} {t ck gd : Nat}
theorem Oth3.below (h : Below w.heap.size w w') : Oth3 t ck gd w w' := ⟨h.size, fun j hj _ _ _ => h.block j hj, fun B _ _ _ hB => h.mono hB⟩
theorem Oth3.ot (h : Onl t w w') : Oth3 t ck gd w w' := ⟨h.bel.size, fun j hj h1 _ _ => h.oth j hj h1, fun B hB _ _ _ => h.from_ hB⟩
theorem Oth3.oc (h : Onl ck w w') : Oth3 t ck gd w w' := ⟨h.bel.size, fun j hj _ h1 _ => h.oth j hj h1, fun B _ hB _ _ => h.from_ hB⟩
theorem Oth3.og (h : Onl gd w w') : Oth3 t ck gd w w' := ⟨h.bel.size, fun j hj _ _ h1 => h.oth j hj h1, fun B _ _ hB _ => h.from_ hB⟩
theorem Oth3.trans (h : Oth3 t ck gd w w') (h2 : Oth3 t ck gd w' w'') : Oth3 t ck gd w w'' :=
  ⟨Nat.le_trans h.size h2.size, fun j hj a b c => (h2.oth j (Nat.lt_of_lt_of_le hj h.size) a b c).trans (h.oth j hj a b c), fun B a b c d => (h.bel B a b c d).trans (h2.bel B a b c (Nat.le_trans d h.size))⟩
end
section
variable {w w' : World} {t k ck gd sz : Nat} {x : ChV} {p p' : Option (List Int)} {v v' : List Int} {S F S' F' c : Int}
theorem TkW.chan {tb : Nat} {y : ChV} (h : TkW w t k ck gd sz x p v S F) (ho : Oth3 t ck gd w w') (hy : ChAt w tb y) : ChAt w' tb y := by
  obtain ⟨cc, hcc⟩ := h.cs.ty
  obtain ⟨gc, hgc⟩ := h.gs.ty
  exact (ho.oth _ (Array.getElem?_eq_some_iff.1 hy).1 (ne_ty hy h.tb (by decide)) (ne_ty hy hcc (by decide)) (ne_ty hy hgc (by decide))).trans hy
/-! ### New, Works, Failed -/
theorem cnewT (w : World) : Calls Try.prog 28 #[] w fun e w' => ∃ t, w.heap.size ≤ t ∧ e = .returned (.pointer (some ⟨t, 0, none⟩)) ∧ TkR w' t 0 ∧ Below w.heap.size w w' := by
  have HX := Lib.hid (show TkR (w.alloc (.cells #[.pointer none, .int .i64 0] 105)) w.heap.size 0 from heap_alloc_new w _)
  have HB := Lib.hid ((Below.refl w.heap.size w).alloc (Nat.le_refl _) (.cells #[.pointer none, .int .i64 0] 105))
  go_enter Try.func28, Try.ntmps28
  go_wp2_with fail
  go_ret
  exact ⟨w.heap.size, Nat.le_refl _, rfl, HX.out, HB.out⟩
theorem works_rest (h : TkR w t c) : Calls Try.prog 36 #[.pointer (some ⟨t, 0, none⟩)] w fun e w' => e = .returned (.bool false) ∧ w = w' := by
  obtain ⟨c0, c1⟩ := h.cells
  clear h
  go_enter Try.func36, Try.ntmps36
  go_wp2_with fail
  go_ret
  exact ⟨rfl, rfl⟩
theorem works_yes (h : TkW w t k ck gd sz x p v S F) : Calls Try.prog 36 #[.pointer (some ⟨t, 0, none⟩)] w fun e w' => e = .returned (.bool true) ∧ w = w' := by
  obtain ⟨c0, c1, c2, c3, c4, c5⟩ := h.cells
  clear h
  go_enter Try.func36, Try.ntmps36
  go_wp2_with fail
  go_ret
  exact ⟨rfl, rfl⟩
theorem failed_rest (h : TkR w t c) : Calls Try.prog 37 #[.pointer (some ⟨t, 0, none⟩)] w fun e w' => e = .returned (.int .i64 c) ∧ w = w' := by
  obtain ⟨c0, c1⟩ := h.cells
  clear h
  go_enter Try.func37, Try.ntmps37
  go_wp2_with fail
  go_ret
  exact ⟨rfl, rfl⟩
theorem failed_no (h : TkW w t k ck gd sz x p v S F) : Calls Try.prog 37 #[.pointer (some ⟨t, 0, none⟩)] w fun e w' => e = .returned (.int .i64 0) ∧ w = w' := by
  obtain ⟨c0, c1, c2, c3, c4, c5⟩ := h.cells
  clear h
  go_enter Try.func37, Try.ntmps37
  go_wp2_with fail
  go_ret
  exact ⟨rfl, rfl⟩
/-! ### fail, Reset -/
theorem fail_no (P : Value) (w : World) : Calls Try.prog 58 #[P, .int .i64 0] w fun e w' => e = .returned (.int .i64 0) ∧ w = w' := by
  go_enter Try.func58, Try.ntmps58
  go_wp2_with fail
  go_ret
  exact ⟨rfl, rfl⟩
set_option maxRecDepth 100000 in
theorem fail_yes {q : Option Addr} {d : Int} (h : w.heap[t]? = some (.cells #[.pointer q, .int .i64 d] 105 (0, 0))) (hc : ¬ c = 0) : Calls Try.prog 58 #[.pointer (some ⟨t, 0, none⟩), .int .i64 c] w fun e w' => e = .returned (.int .i64 c) ∧ TkR w' t c ∧ Onl t w w' := by
  have HT := Lib.hid h
  have HX := Lib.hid (show TkR (w.setRow t #[.pointer none, .int .i64 c]) t c from setRow_heap _ _ _ _ _ (0, 0) h)
  have HO := Lib.hid (show Onl t w (w.setRow t #[.pointer none, .int .i64 c]) from ⟨below_setRow (Below.refl _ w) (Nat.le_refl _) _, fun j _ hn => setRow_other w t j _ hn⟩)
  have hc2 : (c == 0) = false := by simpa using hc
  have hc3 : (c != 0) = true := by simpa using hc
  have HI := Lib.hid info_tk
  clear h
  go_enter Try.func58, Try.ntmps58
  go_wp2_with (refine wpList_store_row rfl _ (.tmp 10) (.tmp 9) rfl t _ rfl rfl _ _ HT.out HI.out rfl (by simp [Value.oneCell']) ?_)
  go_ret
  exact ⟨rfl, HX.out, HO.out⟩
set_option maxRecDepth 100000 in
theorem reset_any {q : Option Addr} {d : Int} (h : w.heap[t]? = some (.cells #[.pointer q, .int .i64 d] 105 (0, 0))) : Calls Try.prog 33 #[.pointer (some ⟨t, 0, none⟩)] w fun e w' => e = .returned (.tuple #[]) ∧ TkR w' t 0 ∧ Onl t w w' := by
  have HT := Lib.hid h
  have HX := Lib.hid (show TkR (w.setRow t #[.pointer none, .int .i64 0]) t 0 from setRow_heap _ _ _ _ _ (0, 0) h)
  have HO := Lib.hid (show Onl t w (w.setRow t #[.pointer none, .int .i64 0]) from ⟨below_setRow (Below.refl _ w) (Nat.le_refl _) _, fun j _ hn => setRow_other w t j _ hn⟩)
  have HI := Lib.hid info_tk
  clear h
  go_enter Try.func33, Try.ntmps33
  go_wp2_with (refine wpList_store_row rfl _ (.tmp 6) (.tmp 5) rfl t _ rfl rfl _ _ HT.out HI.out rfl (by simp [Value.oneCell']) ?_)
  go_end0
  exact ⟨rfl, HX.out, HO.out⟩
theorem late_any (n : Int) (h : TkW w t k ck gd sz x p v S F) (hn : n ≤ 4294967296) : Calls Try.prog 59 #[.pointer (some ⟨k, 0, none⟩), .int .i64 n] w fun e w' => e = .returned (.int .i64 (rcE x.time x.gap S F n)) ∧ Below w.heap.size w w' := by
  obtain ⟨c0, c1, c2, c3, c4, c5⟩ := h.cells
  have HG := Lib.hid (checkG n h.gs hn)
  clear h
  generalize rcE x.time x.gap S F n = z at *
  go_enter Try.func59, Try.ntmps59
  go_wp2_with (go_at_call 76; refine (HG.out).mono ?_; rintro e w2 ⟨rfl, b2⟩; have HB2 := Lib.hid b2; clear b2)
  go_ret
  exact ⟨rfl, HB2.out⟩
end
end Go.Proofs.Ytllaajkpobpeiaa
