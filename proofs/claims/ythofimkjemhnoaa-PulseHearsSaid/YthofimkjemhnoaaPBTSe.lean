/- Put where keys are numbers. -/
import Derived.Test.YthofimkjemhnoaaPBTSd
namespace Go.Proofs.Ythofimkjemhnoaa
open Go.RowKit
set_option linter.unusedSimpArgs false
set_option linter.unusedVariables false
theorem kF {a w w' : World} (k : Below w.heap.size w w') (h : Below a.heap.size a w) : Below a.heap.size a w' := h.trans (k.mono h.size)
theorem one_set {W : World} {k : Nat} {t : TypeId} {u : Value} (h : W.heap[k]? = some (.cells #[u] t (0, 0))) (v : Value) : (W.setCell ⟨k, 0, none⟩ v).heap[k]? = some (.cells #[v] t (0, 0)) := by
  simp [World.setCell, Array.getElem?_modify, h]
/-- A call on the table g whose rows lie at v has turned nothing else. -/
structure Tch (w w' : World) (g : Nat) (v : Value) : Prop where
  os : w'.os = w.os
  tape : w'.tape = w.tape
  output : w'.output = w.output
  size : w.heap.size ≤ w'.heap.size
  block : ∀ k, k < w.heap.size → k ≠ g → v.ownBlock ≠ some k → w'.heap[k]? = w.heap[k]?
theorem Tch.below {w w' : World} {g B : Nat} {v : Value} (h : Tch w w' g v) (hB : B ≤ w.heap.size) (hg : B ≤ g) (hA : ∀ b, v.ownBlock = some b → B ≤ b) : Below B w w' :=
  ⟨h.os, h.tape, h.output, h.size, fun k hk => h.block k (by omega) (by omega) (fun e => by have := hA k e; omega)⟩
theorem Tch.of_below {w w' : World} {g : Nat} {v : Value} (h : Below w.heap.size w w') : Tch w w' g v := ⟨h.os, h.tape, h.output, h.size, fun k hk _ _ => h.block k hk⟩
theorem Tch.grown {w w1 w2 : World} {g : Nat} {v : Value} (h : Tch w w1 g v) (hg : w1.grownBy w2 v.ownBlock) : Tch w w2 g v :=
  ⟨hg.os.trans h.os, hg.tape.trans h.tape, hg.output.trans h.output, Nat.le_trans h.size hg.size, fun k hk h1 h2 => (hg.block k (Nat.lt_of_lt_of_le hk h.size) (fun e => h2 e.symm)).trans (h.block k hk h1 h2)⟩
theorem Tch.set {w w1 : World} {g : Nat} {v : Value} (h : Tch w w1 g v) (o : Nat) (x : Value) : Tch w (w1.setCell ⟨g, o, none⟩ x) g v :=
  ⟨h.os, h.tape, h.output, by simp; exact h.size, fun k hk h1 h2 => (Below.heap_setCell _ _ _ _ h1).trans (h.block k hk h1 h2)⟩
theorem grown_set (w : World) (g o : Nat) (x : Value) : w.grownBy (w.setCell ⟨g, o, none⟩ x) (some g) := ⟨rfl, rfl, rfl, by simp, fun k _ hne => Below.heap_setCell _ _ _ _ (fun e => hne (by rw [e]))⟩
section
variable {tb tr : Nat} {w w' : World} {base g n n' : Nat} {cs cs' : List Value} {v v' : Value}
theorem Sh.put (h : Sh tb tr w base g n cs v) (hr : w'.ownsRow base tr 2 v' n' cs') (hg : w'.heap[g]? = w.heap[g]?) (hi : v'.ownBlock ≠ some g) : Sh tb tr (w'.setCell ⟨g, 0, none⟩ v') base g n' cs' v' :=
  ⟨one_set (hg.trans h.box) v', hr.kept (grown_set w' g 0 v') (.inr hi), hi⟩
theorem Sh.thing {b c : Nat} (h : Sh tb tr w base g n cs (.slice (some ⟨b, 0, none⟩) n c)) (j : Nat) (u : Value) : Sh tb tr (w.setCell ⟨b, j, none⟩ u) base g n (cs.set j u) (.slice (some ⟨b, 0, none⟩) n c) :=
  ⟨(Below.heap_setCell _ _ _ _ (fun e => h.isnt (by simp [Value.ownBlock, e]))).trans h.box, (h.row.stored j u).1, h.isnt⟩
end
/-- What Put makes of a table. -/
structure ShPut (tb tr : Nat) (w : World) (base g n : Nat) (cs : List Value) (r : Bool) (v : Value) (e : Ending) (w' : World) : Prop where
  code : e = .returned (.bool r)
  goes : ∃ v', Sh tb tr w' base g n cs v' ∧ (v'.ownBlock = v.ownBlock ∨ ∃ b, v'.ownBlock = some b ∧ w.heap.size ≤ b)
  touch : Tch w w' g v
theorem fl_set {κ ν : Type} (ek : κ → Value) (ev : ν → Value) : ∀ (ls : List (κ × ν)) (i : Nat) (x : κ × ν) (v : ν), ls[i]? = some x → (fl ek ev ls).set (i * 2 + 1) (ev v) = fl ek ev (ls.set i (x.1, v))
  | [], i, x, v, h => by simp at h
  | y :: ls, 0, x, v, h => by
    simp only [List.getElem?_cons_zero, Option.some.injEq] at h
    subst h; rfl
  | y :: ls, i + 1, x, v, h => by
    rw [fl_cons, show (y :: ls).set (i + 1) (x.1, v) = y :: ls.set i (x.1, v) from rfl, fl_cons, ← fl_set ek ev ls i x v (by simpa using h), show (i + 1) * 2 + 1 = i * 2 + 1 + 1 + 1 by omega]
    rfl
/-- The rows behind a Put. -/
def putI {ν : Type} (k : Int) (v : ν) (ls : List (Int × ν)) : List (Int × ν) := if hasI k ls then ls.set (plcI k ls) (k, v) else ls.take (plcI k ls) ++ [(k, v)] ++ ls.drop (plcI k ls)
theorem putI_ins {ν : Type} (ev : ν → Value) (k : Int) (v : ν) (ls : List (Int × ν)) (h : hasI k ls = false) : (fl eI ev ls).take (plcI k ls * 2) ++ [.int .i64 k, ev v] ++ (fl eI ev ls).drop (plcI k ls * 2) = fl eI ev (putI k v ls) ∧ (putI k v ls).length = ls.length + 1 := by
  have := plcI_le k ls
  have e : putI k v ls = ls.take (plcI k ls) ++ [(k, v)] ++ ls.drop (plcI k ls) := by unfold putI; rw [h]; rfl
  refine ⟨?_, by rw [e]; simp; omega⟩
  rw [e, fl_take, fl_drop, fl_append, fl_append]
  rfl
theorem putI_set {ν : Type} (ev : ν → Value) (k : Int) (v : ν) (ls : List (Int × ν)) (h : hasI k ls = true) : (fl eI ev ls).set (plcI k ls * 2 + 1) (ev v) = fl eI ev (putI k v ls) ∧ (putI k v ls).length = ls.length := by
  obtain ⟨x, hx, hk⟩ := hasI_at h
  have e : putI k v ls = ls.set (plcI k ls) (k, v) := by unfold putI; rw [h]; rfl
  rw [e, fl_set eI ev ls _ x v hx, hk]
  exact ⟨rfl, by simp⟩
set_option maxRecDepth 100000 in
set_option maxHeartbeats 2000000 in
theorem putA (w : World) (base g : Nat) (ls : List (Int × Int)) (v : Value) (k : Int) (u : Int) (h : Sh 90 98 w base g ls.length (fl eI eI ls) v) (hbase : base ≤ w.heap.size) (hn : ls.length ≤ 1000) (hs : Rise ls) :
    Calls Try.prog 47 #[.pointer (some ⟨g, 0, none⟩), .int .i64 k, .int .i64 u] w (ShPut 90 98 w base g (putI k u ls).length (fl eI eI (putI k u ls)) (hasI k ls) v) := by
  have hc := placeA w base g ls v k h (by omega) hs
  have HC := Lib.hid hc
  have HX := Lib.hid h
  have hple := plcI_le k ls
  cases hh : hasI k ls with
  | true =>
    obtain ⟨e1, e2⟩ := putI_set eI k u ls hh
    rw [← e1, e2]
    rw [hh] at HC
    obtain ⟨x, hx, _⟩ := hasI_at hh
    have hlt := (List.getElem?_eq_some_iff.1 hx).1
    have hlen := fl_len eI eI ls
    have hfv := fl_val eI eI ls (plcI k ls) _ hx
    clear hc h hs hh e1 e2 hx hple
    generalize plcI k ls = P at *
    obtain ⟨b, cap, cur, rfl, hbb, _, hnc, hm, _⟩ := own_some HX.out.row (by omega)
    simp only [maxLen] at hm
    have HFV := Lib.hid hfv
    generalize fl eI eI ls = cs at *
    generalize ls.length = N at *
    clear hfv hlen
    go_enter Try.func47, Try.ntmps47
    go_wp2_with fail
    refine HC.out.mono ?_
    rintro e w2 ⟨rfl, hb⟩
    have HX2 := Lib.hid (HX.out.below hb)
    have c0 := HX2.out.cell
    have hl := HX2.out.lt
    have d1 := own_cell HX2.out.row (k := P * 2 + 1) (by omega)
    have f1 := HX2.out.row.frozenAt (P * 2 + 1)
    rw [HFV.out] at d1
    have hPI : (P : Int) < (N : Int) := by omega
    have HB := Lib.hid hb
    clear hb
    go_wp2_with fail
    go_ret
    exact ⟨rfl, ⟨_, HX2.out.thing (P * 2 + 1) _, .inl rfl⟩, (Tch.of_below HB.out).grown (grown_set _ _ _ _)⟩
  | false =>
    obtain ⟨e1, e2⟩ := putI_ins eI k u ls hh
    have hlen := fl_len eI eI ls
    have hins := fun (w : World) hb (h : Sh 90 98 w base g ls.length (fl eI eI ls) v) (hbase : base ≤ w.heap.size) hnew hne => insert_any w base ls.length (plcI k ls) hb v (fl eI eI ls) [.int .i64 k, eI u] h.row hbase hple (by omega) hnew rfl (by simp [eI, Value.oneCell']) (fl_one eI eI (fun _ => rfl) (fun _ => rfl) ls) hne
    simp only [e1] at hins
    rw [← e2] at hins
    rw [hh] at HC
    have hown := fun k hk => (HX.out.row.lt k hk).2
    have HIN := Lib.hid hins
    have HOW := Lib.hid hown
    have hbg := HX.out.lt
    clear hc h hs hh e1 e2 hlen hins hown
    generalize (putI k u ls) = ls' at *
    generalize plcI k ls = P at *
    go_enter Try.func47, Try.ntmps47
    go_wp2_with fail
    refine HC.out.mono ?_
    rintro e w2 ⟨rfl, hb⟩
    have HX2 := Lib.hid (HX.out.below hb)
    have c0 := HX2.out.cell
    have hl := HX2.out.lt
    have hsz := hb.size
    have hb3 : Below w2.heap.size w2 (w2.alloc (.cells #[.int .i64 k, eI u] 98)) := (Below.refl _ _).alloc (Nat.le_refl _) _
    have hn3 : (w2.alloc (.cells #[.int .i64 k, eI u] 98)).heap[w2.heap.size]? = some (.cells #[.int .i64 k, eI u] 98 (0, 0)) := heap_alloc_new w2 _
    have HB := Lib.hid (kF hb3 hb)
    have HI := Lib.hid (HIN.out _ _ (HX2.out.below hb3) (by have := hb3.size; omega) hn3 (fun e => by have := HOW.out _ e; omega))
    have HX3 := Lib.hid (HX2.out.below hb3)
    have c3 := HX3.out.cell
    simp only [eI] at HI HX3 HB c3
    clear hb hb3 hn3
    go_wp2_with fail
    generalize (w2.alloc (.cells #[.int .i64 k, .int .i64 u] 98)) = w3 at *
    refine HI.out.mono ?_
    rintro e w4 ⟨v', rfl, hrow, hgr, hob⟩
    obtain ⟨a', c', rfl⟩ := own_slice hrow
    generalize hvv : Value.slice a' ls'.length c' = v' at hrow hob
    have hl3 := HX3.out.lt
    have e1 : w4.heap[g]? = w3.heap[g]? := hgr.block g hl3 (fun e => HX3.out.isnt e.symm)
    have c4 : w4.cell? ⟨g, 0, none⟩ = some v := by rw [cell_of_row _ _ _ _ _ _ (e1.trans HX3.out.box)]; rfl
    have f4 : w4.frozen? ⟨g, 0, none⟩ = false := frozen_of_row _ _ _ _ _ (e1.trans HX3.out.box)
    have hi : v'.ownBlock ≠ some g := by
      rcases hob with h | ⟨b, h, hb⟩
      · rw [h]; exact HX3.out.isnt
      · rw [h]; intro e; cases e; omega
    have HR := Lib.hid (HX3.out.put hrow e1 hi)
    have HT := Lib.hid (((Tch.of_below HB.out : Tch w w3 g v).grown hgr).set 0 v')
    have HO := Lib.hid (show v'.ownBlock = v.ownBlock ∨ ∃ b, v'.ownBlock = some b ∧ w.heap.size ≤ b from hob.imp id fun ⟨b, h, hb⟩ => ⟨b, h, Nat.le_trans HB.out.size hb⟩)
    clear hrow hgr hob e1 hi c3 c0
    subst hvv
    go_wp2_with fail
    go_ret
    exact ⟨rfl, ⟨_, HR.out, HO.out⟩, HT.out⟩
end Go.Proofs.Ythofimkjemhnoaa