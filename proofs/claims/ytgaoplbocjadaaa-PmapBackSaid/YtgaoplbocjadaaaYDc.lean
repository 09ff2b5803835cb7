/- Put, at a number and an entry. -/
import Derived.Test.YtgaoplbocjadaaaYDb
import Derived.Test.YtgaoplbocjadaaaYDRl
namespace Go.Proofs.Ytgaoplbocjadaaa
open Go.RowKit
set_option linter.unusedSimpArgs false
set_option linter.unusedVariables false
theorem kD (w : World) : Below w.heap.size w w.drew := ⟨rfl, rfl, rfl, Nat.le_refl _, fun _ _ => rfl⟩
theorem kA {a w : World} (h : Below a.heap.size a w) (o : Obj) : Below a.heap.size a (w.alloc o) := h.alloc h.size o
theorem kE {B : Nat} {a w : World} (h : Below B a w) : Below B a w.drew := ⟨h.os, h.tape, h.output, h.size, h.block⟩
def Box5 (w : World) (g : Nat) (uk ua ul uh : Int) (S : ByteArray) : Prop := w.heap[g]? = some (.cells #[.int .i64 uk, .int .i64 ua, .int .i64 ul, .int .i64 uh, .string S] 132 (0, 0))
theorem Box5.cells {w : World} {g : Nat} {uk ua ul uh : Int} {S : ByteArray} (h : Box5 w g uk ua ul uh S) : w.cell? ⟨g, 0, none⟩ = some (.int .i64 uk) ∧ w.cell? ⟨g, 1, none⟩ = some (.int .i64 ua) ∧ w.cell? ⟨g, 2, none⟩ = some (.int .i64 ul) ∧ w.cell? ⟨g, 3, none⟩ = some (.int .i64 uh) ∧ w.cell? ⟨g, 4, none⟩ = some (.string S) := by
  have k : ∀ i, w.cell? ⟨g, i, none⟩ = (#[.int .i64 uk, .int .i64 ua, .int .i64 ul, .int .i64 uh, .string S] : Array Value)[i]? := fun i => by rw [cell_of_row _ _ _ _ _ _ h]
  exact ⟨k 0, k 1, k 2, k 3, k 4⟩
theorem setE (ls : List (Int × Ent)) : ∀ (i : Nat) (x : Int × Ent) (u : Ent), ls[i]? = some x → (((((fe ls).set (i * 6 + 1) (.int .i64 u.k)).set (i * 6 + 2) (.int .i64 u.a)).set (i * 6 + 3) (.int .i64 u.lo)).set (i * 6 + 4) (.int .i64 u.hi)).set (i * 6 + 5) (.string (strOfNums u.b)) = fe (ls.set i (x.1, u)) := by
  induction ls with
  | nil => intro i x u h; simp at h
  | cons y ls ih =>
    intro i x u h
    cases i with
    | zero =>
      simp only [List.getElem?_cons_zero, Option.some.injEq] at h
      subst h; rfl
    | succ i =>
      have h' : ls[i]? = some x := by simpa using h
      rw [show (y :: ls).set (i + 1) (x.1, u) = y :: ls.set i (x.1, u) from rfl, fe_cons, fe_cons, ← ih i x u h']
      rw [show (i + 1) * 6 + 1 = i * 6 + 1 + 6 by omega, show (i + 1) * 6 + 2 = i * 6 + 2 + 6 by omega, show (i + 1) * 6 + 3 = i * 6 + 3 + 6 by omega, show (i + 1) * 6 + 4 = i * 6 + 4 + 6 by omega, show (i + 1) * 6 + 5 = i * 6 + 5 + 6 by omega]
      rfl
set_option maxRecDepth 100000 in
set_option maxHeartbeats 4000000 in
theorem putE_new (w : World) (base g : Nat) (ls : List (Int × Ent)) (v : Value) (k : Int) (uk ua ul uh : Int) (ub : List Int) (h : Sh 184 202 w base g ls.length (fe ls) v) (hbase : base ≤ w.heap.size) (hn : ls.length ≤ 1000) (hs : Rise ls) (hh : hasI k ls = false) :
    Calls Try.prog 94 #[.pointer (some ⟨g, 0, none⟩), .int .i64 k, entV ⟨uk, ua, ul, uh, ub⟩] w (ShPut 184 202 w base g (putI k ⟨uk, ua, ul, uh, ub⟩ ls).length (fe (putI k ⟨uk, ua, ul, uh, ub⟩ ls)) false v) := by
  obtain ⟨e1, e2⟩ := putE_ins k ⟨uk, ua, ul, uh, ub⟩ ls hh
  have hple := plcI_le k ls
  have hins := fun (w : World) hb (h : Sh 184 202 w base g ls.length (fe ls) v) (hbase : base ≤ w.heap.size) hnew hne => insert_anyE w base ls.length (plcI k ls) hb v (fe ls) (rowE (k, ⟨uk, ua, ul, uh, ub⟩)) h.row hbase hple (by omega) hnew rfl (rowE_one _) (fe_one ls) hne
  simp only [e1] at hins
  rw [← e2] at hins
  dsimp only [entV, rowE] at hins ⊢
  generalize strOfNums ub = S at hins ⊢
  have hal : Below w.heap.size w (w.alloc (.cells #[.int .i64 uk, .int .i64 ua, .int .i64 ul, .int .i64 uh, .string S] 132)) := (Below.refl _ _).alloc (Nat.le_refl _) _
  have hx0 : Box5 (w.alloc (.cells #[.int .i64 uk, .int .i64 ua, .int .i64 ul, .int .i64 uh, .string S] 132)) w.heap.size uk ua ul uh S := heap_alloc_new w _
  have hpl := placeE _ base g ls v k (h.below hal) (by omega) hs
  rw [hh] at hpl
  have hlw : w.heap.size < (w.alloc (.cells #[.int .i64 uk, .int .i64 ua, .int .i64 ul, .int .i64 uh, .string S] 132)).heap.size := by simp
  have hown := fun k hk => (h.row.lt k hk).2
  have HX := Lib.hid h
  have HA := Lib.hid hal
  have HX0 := Lib.hid hx0
  have HPL := Lib.hid hpl
  have HLW := Lib.hid hlw
  have HIN := Lib.hid hins
  have HOW := Lib.hid hown
  have hgw := h.lt
  clear h hh hal hx0 hpl hlw hins hown e1 e2 hs
  generalize putI k ⟨uk, ua, ul, uh, ub⟩ ls = ls' at *
  generalize plcI k ls = P at *
  go_enter Try.func94, Try.ntmps94
  go_wp2_with fail
  generalize (w.alloc (.cells #[.int .i64 uk, .int .i64 ua, .int .i64 ul, .int .i64 uh, .string S] 132)) = w0 at HA HX0 HPL HLW ⊢
  refine HPL.out.mono ?_
  rintro e w2 ⟨rfl, hb2⟩
  have HB2 := Lib.hid (kF hb2 HA.out)
  have HX2 := Lib.hid (HX.out.below HB2.out)
  have HE2 : Hid (Box5 w2 w.heap.size uk ua ul uh S) := Lib.hid ((hb2.block _ HLW.out).trans HX0.out)
  have hS : ∀ x, Below w2.heap.size w2 x → x.cell? ⟨g, 0, none⟩ = some v ∧ x.cell? ⟨w.heap.size, 0, none⟩ = some (.int .i64 uk) ∧ x.cell? ⟨w.heap.size, 1, none⟩ = some (.int .i64 ua) ∧ x.cell? ⟨w.heap.size, 2, none⟩ = some (.int .i64 ul) ∧ x.cell? ⟨w.heap.size, 3, none⟩ = some (.int .i64 uh) ∧ x.cell? ⟨w.heap.size, 4, none⟩ = some (.string S) := fun x hx => ⟨(HX2.out.below hx).cell, Box5.cells ((hx.block _ (Array.getElem?_eq_some_iff.1 HE2.out).1).trans HE2.out)⟩
  have HS := Lib.hid hS
  have hIc := fun x k (hx : Below w2.heap.size w2 x) (hk : w2.heap.size ≤ k) hnew => HIN.out x k (HX2.out.below hx) (by have := HB2.out.size; have := hx.size; omega) hnew (fun e => by have := HOW.out k e; have := HB2.out.size; omega)
  have HIC := Lib.hid hIc
  have hSI : ∀ x y, Below w2.heap.size w2 x → x.grownBy y v.ownBlock → y.frozen? ⟨g, 0, none⟩ = false ∧ y.heap[g]? = w2.heap[g]? ∧ y.cell? ⟨g, 0, none⟩ = some v ∧ y.cell? ⟨w.heap.size, 0, none⟩ = some (.int .i64 uk) ∧ y.cell? ⟨w.heap.size, 1, none⟩ = some (.int .i64 ua) ∧ y.cell? ⟨w.heap.size, 2, none⟩ = some (.int .i64 ul) ∧ y.cell? ⟨w.heap.size, 3, none⟩ = some (.int .i64 uh) ∧ y.cell? ⟨w.heap.size, 4, none⟩ = some (.string S) := fun x y hx hg => by
    have hgl := HX2.out.lt
    have e1 : y.heap[g]? = x.heap[g]? := hg.block g (Nat.lt_of_lt_of_le hgl hx.size) (fun e => HX2.out.isnt e.symm)
    have hxb := HX2.out.below hx
    have hwl : w.heap.size < w2.heap.size := (Array.getElem?_eq_some_iff.1 HE2.out).1
    have hfb : Box5 y w.heap.size uk ua ul uh S := (hg.block _ (Nat.lt_of_lt_of_le hwl hx.size) (fun e => by have := HOW.out _ e.symm; omega)).trans ((hx.block _ hwl).trans HE2.out)
    exact ⟨frozen_of_row _ _ _ _ _ (e1.trans hxb.box), e1.trans (hx.block g hgl), by rw [cell_of_row _ _ _ _ _ _ (e1.trans hxb.box)]; rfl, hfb.cells⟩
  have HSI := Lib.hid hSI
  clear hb2 hS hIc hSI HIN HPL
  go_wp2_with fail
  refine wp_region_last (fun w' => w'.cell? ⟨g, 0, none⟩ = some v ∧ w'.cell? ⟨w.heap.size, 0, none⟩ = some (.int .i64 uk) ∧ w'.cell? ⟨w.heap.size, 1, none⟩ = some (.int .i64 ua) ∧ w'.cell? ⟨w.heap.size, 2, none⟩ = some (.int .i64 ul) ∧ w'.cell? ⟨w.heap.size, 3, none⟩ = some (.int .i64 uh) ∧ w'.cell? ⟨w.heap.size, 4, none⟩ = some (.string S)) 13 (by kernel_rfl) (HS.out _ (kD _)) (fun hHeld => ?_)
  refine wpAnyL_take (i := 0) (v := ?_) rfl (by kernel_rfl) (by kernel_rfl) (by kernel_rfl) (by kernel_rfl) (by kernel_rfl) (fun _ _ _ h => h) (Or.inl ⟨by rfl, ?_⟩) (by assumption) ?_
  rotate_left
  · intro wq hSw; (try dsimp only at hSw); first | (go_simp; done) | (go_simp; with_reducible rfl) | with_reducible rfl
  try simp only [Act.put, List.setIfInBounds_toArray, List.set_cons_zero, List.set_cons_succ]
  refine wpAnyL_take (i := 1) (v := ?_) rfl (by kernel_rfl) (by kernel_rfl) (by kernel_rfl) (by kernel_rfl) (by kernel_rfl) (fun _ _ _ h => h) (Or.inl ⟨by rfl, ?_⟩) (by assumption) ?_
  rotate_left
  · intro wq hSw; (try dsimp only at hSw); first | (go_simp; done) | (go_simp; with_reducible rfl) | with_reducible rfl
  try simp only [Act.put, List.setIfInBounds_toArray, List.set_cons_zero, List.set_cons_succ]
  refine wpAnyL_take (i := 2) (v := ?_) rfl (by kernel_rfl) (by kernel_rfl) (by kernel_rfl) (by kernel_rfl) (by kernel_rfl) (fun _ _ _ h => h) (Or.inl ⟨by rfl, ?_⟩) (by assumption) ?_
  rotate_left
  · intro wq hSw; (try dsimp only at hSw); first | (go_simp; done) | (go_simp; with_reducible rfl) | with_reducible rfl
  try simp only [Act.put, List.setIfInBounds_toArray, List.set_cons_zero, List.set_cons_succ]
  refine wpAnyL_take (i := 3) (v := ?_) rfl (by kernel_rfl) (by kernel_rfl) (by kernel_rfl) (by kernel_rfl) (by kernel_rfl) (fun _ _ _ h => h) (Or.inl ⟨by rfl, ?_⟩) (by assumption) ?_
  rotate_left
  · intro wq hSw; (try dsimp only at hSw); first | (go_simp; done) | (go_simp; with_reducible rfl) | with_reducible rfl
  try simp only [Act.put, List.setIfInBounds_toArray, List.set_cons_zero, List.set_cons_succ]
  refine wpAnyL_take (i := 4) (v := ?_) rfl (by kernel_rfl) (by kernel_rfl) (by kernel_rfl) (by kernel_rfl) (by kernel_rfl) (fun _ _ _ h => h) (Or.inl ⟨by rfl, ?_⟩) (by assumption) ?_
  rotate_left
  · intro wq hSw; (try dsimp only at hSw); first | (go_simp; done) | (go_simp; with_reducible rfl) | with_reducible rfl
  try simp only [Act.put, List.setIfInBounds_toArray, List.set_cons_zero, List.set_cons_succ]
  refine wpAnyL_take (i := 5) (v := ?_) rfl (by kernel_rfl) (by kernel_rfl) (by kernel_rfl) (by kernel_rfl) (by kernel_rfl) (fun _ _ _ h => h) (Or.inl ⟨by rfl, ?_⟩) (by assumption) ?_
  rotate_left
  · intro wq hSw; (try dsimp only at hSw); first | (go_simp; done) | (go_simp; with_reducible rfl) | with_reducible rfl
  try simp only [Act.put, List.setIfInBounds_toArray, List.set_cons_zero, List.set_cons_succ]
  refine wpAnyL_take (i := 6) (v := ?_) rfl (by kernel_rfl) (by kernel_rfl) (by kernel_rfl) (by kernel_rfl) (by kernel_rfl) (fun _ _ _ h => h) (Or.inl ⟨by rfl, ?_⟩) (by assumption) ?_
  rotate_left
  · intro wq hSw; (try dsimp only at hSw); first | (go_simp; done) | (go_simp; with_reducible rfl) | with_reducible rfl
  try simp only [Act.put, List.setIfInBounds_toArray, List.set_cons_zero, List.set_cons_succ]
  refine wpAnyL_take (i := 7) (v := ?_) rfl (by kernel_rfl) (by kernel_rfl) (by kernel_rfl) (by kernel_rfl) (by kernel_rfl) (fun _ _ _ h => h) (Or.inl ⟨by rfl, ?_⟩) (by assumption) ?_
  rotate_left
  · intro wq hSw; (try dsimp only at hSw); first | (go_simp; done) | (go_simp; with_reducible rfl) | with_reducible rfl
  try simp only [Act.put, List.setIfInBounds_toArray, List.set_cons_zero, List.set_cons_succ]
  refine wpAnyL_take (i := 8) (v := ?_) rfl (by kernel_rfl) (by kernel_rfl) (by kernel_rfl) (by kernel_rfl) (by kernel_rfl) (fun _ _ _ h => h) (Or.inl ⟨by rfl, ?_⟩) (by assumption) ?_
  rotate_left
  · intro wq hSw; (try dsimp only at hSw); first | (go_simp; done) | (go_simp; with_reducible rfl) | with_reducible rfl
  try simp only [Act.put, List.setIfInBounds_toArray, List.set_cons_zero, List.set_cons_succ]
  refine wpAnyL_ready (rs := [9]) (by kernel_rfl) (by simp) ?_
  refine (AllReadyL.cons rfl (fun K hK => ?_) AllReadyL.nil)
  go_simp
  refine hK.out _ _ ?_ (fun hHeld => ?_)
  · (try dsimp only); exact HS.out _ (kA (kD _) _)
  clear hK K
  refine wpAnyL_ready (rs := [10]) (by kernel_rfl) (by simp) ?_
  refine (AllReadyL.cons rfl (fun K hK => ?_) AllReadyL.nil)
  go_simp
  go_wp2_with (go_at_call 124; refine (HIC.out _ _ (kA (kD _) _) (Nat.le_refl _) (heap_alloc_new w2.drew _)).mono ?_; rintro e w5 ⟨v', rfl, hown', hgr', hob'⟩; obtain ⟨a5, c5, rfl⟩ := own_slice hown'; have hq5 := HSI.out _ w5 (kA (kD _) _) hgr'; have hk5 := hq5.2.2; have hf5 := hq5.1; have he5 := hq5.2.1)
  refine hK.out _ _ ?_ (fun hHeld => ?_)
  · (try dsimp only); exact hk5
  clear hK K
  refine wpAnyL_take (i := 11) (v := ?_) rfl (by kernel_rfl) (by kernel_rfl) (by kernel_rfl) (by kernel_rfl) (by kernel_rfl) (fun _ _ _ h => h) (Or.inl ⟨by rfl, ?_⟩) (by assumption) ?_
  rotate_left
  · intro wq hSw; (try dsimp only at hSw); first | (go_simp; done) | (go_simp; with_reducible rfl) | with_reducible rfl
  try simp only [Act.put, List.setIfInBounds_toArray, List.set_cons_zero, List.set_cons_succ]
  refine wpAnyL_take (i := 12) (v := ?_) rfl (by kernel_rfl) (by kernel_rfl) (by kernel_rfl) (by kernel_rfl) (by kernel_rfl) (fun _ _ _ h => h) (Or.inl ⟨by rfl, ?_⟩) (by assumption) ?_
  rotate_left
  · intro wq hSw; (try dsimp only at hSw); first | (go_simp; done) | (go_simp; with_reducible rfl) | with_reducible rfl
  try simp only [Act.put, List.setIfInBounds_toArray, List.set_cons_zero, List.set_cons_succ]
  refine wpAnyL_ready (rs := [13]) (by kernel_rfl) (by simp) ?_
  refine AllReadyL.last rfl (fun K hK => ?_)
  go_simp
  refine hK.out _ _ ?_
  clear hK K
  refine wpAnyL_done (by kernel_rfl) ?_ _
  clear hHeld
  go_wp2_with fail
  go_ret
  have hx6 : Sh 184 202 (w5.setCell ⟨g, 0, none⟩ (.slice a5 ls'.length c5)) base g ls'.length (fe ls') (.slice a5 ls'.length c5) := HX2.out.put hown' he5 (fun e => by
    rcases hob' with h | ⟨b, h, h2⟩
    · exact HX2.out.isnt (h ▸ e)
    · rw [h] at e; cases e; have := HX2.out.lt; (try simp at h2); omega)
  refine ⟨rfl, ⟨_, hx6, hob'.imp (fun h => h) fun ⟨b, h, h2⟩ => ⟨b, h, by have := HB2.out.size; (try simp at h2); omega⟩⟩, ?_⟩
  exact (((Tch.of_below (kF (kA (kD w2) _) HB2.out)).grown hgr').set _ _)
end Go.Proofs.Ytgaoplbocjadaaa