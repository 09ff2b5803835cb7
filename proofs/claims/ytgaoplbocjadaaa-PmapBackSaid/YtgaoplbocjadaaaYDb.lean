/- Tables of a number and an entry as they lie; New, Place, Len, Get, Put. -/
import Derived.Test.YtgaoplbocjadaaaYDa
import Derived.Laws.Tables
import Derived.Laws.CopyOwn
import Derived.Deep.RegionHeld3
namespace Go.Proofs.Ytgaoplbocjadaaa
open Go.RowKit
set_option linter.unusedSimpArgs false
set_option linter.unusedVariables false
theorem own_slice {w : World} {base e s n : Nat} {v : Value} {xs : List Value} (h : w.ownsRow base e s v n xs) : ∃ a c, v = .slice a n c := by
  rcases h.2 with ⟨rfl, h0⟩ | ⟨g', cap, cur, rfl, _⟩
  · exact ⟨none, 0, by rw [h0]⟩
  · exact ⟨_, _, rfl⟩
/-- Block g is a table whose n rows, of these cells, lie at v. -/
structure Sh (tb tr : Nat) (w : World) (base g n : Nat) (cs : List Value) (v : Value) : Prop where
  box : w.heap[g]? = some (.cells #[v] tb (0, 0))
  row : w.ownsRow base tr 6 v n cs
  isnt : v.ownBlock ≠ some g
section
variable {tb tr : Nat} {w w' : World} {base g n : Nat} {cs : List Value} {v : Value}
theorem Sh.lt (h : Sh tb tr w base g n cs v) : g < w.heap.size := (Array.getElem?_eq_some_iff.1 h.box).1
theorem Sh.cell (h : Sh tb tr w base g n cs v) : w.cell? ⟨g, 0, none⟩ = some v := by rw [cell_of_row _ _ _ _ _ _ h.box]; rfl
theorem Sh.keep (h : Sh tb tr w base g n cs v) {r : Option Nat} (hg : w.grownBy w' r) (h1 : r ≠ some g) (h2 : ∀ k, r = some k → v.ownBlock ≠ some k) : Sh tb tr w' base g n cs v :=
  ⟨(hg.block g h.lt (fun e => h1 e.symm)).trans h.box, h.row.kept hg (by
    cases hv : v.ownBlock with
    | none => exact .inl rfl
    | some k => exact .inr fun e => h2 k e.symm hv), h.isnt⟩
theorem Sh.below (h : Sh tb tr w base g n cs v) (hb : Below w.heap.size w w') : Sh tb tr w' base g n cs v := h.keep (grown_below none hb) (by simp) (by simp)
end
theorem hasI_at {ν : Type} {q : Int} {ls : List (Int × ν)} (h : hasI q ls = true) : ∃ x, ls[plcI q ls]? = some x ∧ x.1 = q := by
  unfold hasI at h
  split at h
  · exact ⟨_, by assumption, by simpa using h⟩
  · simp at h
/-- The thing at a place. -/
def thI {ν : Type} (z : ν) (q : Int) (ls : List (Int × ν)) : ν := if hasI q ls then match ls[plcI q ls]? with | some x => x.2 | none => z else z
theorem thI_no {ν : Type} {z : ν} {q : Int} {ls : List (Int × ν)} (h : hasI q ls = false) : thI z q ls = z := by unfold thI; rw [h]; rfl
theorem thI_yes {ν : Type} {z : ν} {q : Int} {ls : List (Int × ν)} {x : Int × ν} (h : hasI q ls = true) (hx : ls[plcI q ls]? = some x) : thI z q ls = x.2 := by unfold thI; rw [h, if_pos rfl, hx]
theorem newE (w : World) : Calls Try.prog 61 #[] w fun e w' => e = .returned (.pointer (some ⟨w.heap.size, 0, none⟩)) ∧ Sh 184 202 w' (w.heap.size + 1) w.heap.size 0 [] (.slice none 0 0) ∧ Below w.heap.size w w' := by
  have hbx : Sh 184 202 (w.alloc (.cells #[.slice none 0 0] 184)) (w.heap.size + 1) w.heap.size 0 [] (.slice none 0 0) := ⟨heap_alloc_new w _, ⟨rfl, .inl ⟨rfl, rfl⟩⟩, by simp [Value.ownBlock]⟩
  have hb : Below w.heap.size w (w.alloc (.cells #[.slice none 0 0] 184)) := (Below.refl _ _).alloc (Nat.le_refl _) _
  have HBX := Lib.hid hbx
  have HB := Lib.hid hb
  clear hbx hb
  go_enter Try.func61, Try.ntmps61
  go_wp2_with fail
  go_ret
  exact ⟨rfl, HBX.out, HB.out⟩
set_option maxRecDepth 100000 in
theorem placeE (w : World) (base g : Nat) (ls : List (Int × Ent)) (v : Value) (q : Int) (h : Sh 184 202 w base g ls.length (fe ls) v) (hn : ls.length ≤ 100000) (hs : Rise ls) :
    Calls Try.prog 123 #[.pointer (some ⟨g, 0, none⟩), .int .i64 q] w fun e w' => e = .returned (.tuple #[.int .i64 (plcI q ls : Nat), .bool (hasI q ls)]) ∧ Below w.heap.size w w' := by
  have hc := bsE w base ls.length v ls q h.row hn hs
  have c0 := h.cell
  have hl := h.lt
  have HC := Lib.hid hc
  clear hc h hn hs
  go_enter Try.func123, Try.ntmps123
  go_wp2_with fail
  refine HC.out.mono ?_
  rintro e w2 ⟨rfl, hb⟩
  clear c0
  go_wp2_with fail
  go_ret2
  exact ⟨rfl, hb⟩
theorem lenE (w : World) (base g n : Nat) (cs : List Value) (v : Value) (h : Sh 184 202 w base g n cs v) :
    Calls Try.prog 99 #[.pointer (some ⟨g, 0, none⟩)] w fun e w' => e = .returned (.int .i64 (n : Nat)) ∧ w' = w := by
  obtain ⟨a, c, rfl⟩ := own_slice h.row
  have c0 := h.cell
  have hl := h.lt
  clear h
  go_enter Try.func99, Try.ntmps99
  go_wp2_with fail
  go_ret
  exact ⟨rfl, rfl⟩
theorem str0 : strOfNums [] = ⟨#[]⟩ := rfl
theorem results_cell_tmp_row {P : Program} {fn : Func} {p u : Tmp} {ty : TypeId} (h : fn.results = #[.cell p ty, .tmp u]) (tmps : Array Value) (w : World) (g : Nat) (t : TypeId) (cs : Array Value) (fr : Nat × Nat) (d : TypeDesc)
    (hp : tmps.getD p undef = .pointer (some ⟨g, 0, none⟩)) (hg : w.heap[g]? = some (.cells cs t fr))
    (hu : P.underlying ty = some d) (hd : (match d with | .struct _ | .array _ _ => true | _ => false) = true) (hi : (P.info? ty).map (·.size) = some cs.size) :
    (results fn tmps).run P w = .ok (.tuple #[.agg cs, tmps.getD u undef]) w := by
  rw [results_cell_tmp h, hp]
  simp [asAddr, run_loadVar_row w g t ty cs fr d hg hu hd hi]
theorem info_ent : (Try.prog.info? 132).map (·.size) = some 5 := by kernel_rfl
def entC (x : Ent) : Array Value := #[.int .i64 x.k, .int .i64 x.a, .int .i64 x.lo, .int .i64 x.hi, .string (strOfNums x.b)]
theorem one_ent (k a lo hi : Int) (S : ByteArray) : (#[.int .i64 k, .int .i64 a, .int .i64 lo, .int .i64 hi, .string S] : Array Value).all (·.oneCell') = true := by simp [Value.oneCell']
theorem kF {a w w' : World} (k : Below w.heap.size w w') (h : Below a.heap.size a w) : Below a.heap.size a w' := h.trans (k.mono h.size)
set_option maxRecDepth 100000 in
set_option maxHeartbeats 1000000 in
theorem tgetE (w : World) (base g : Nat) (ls : List (Int × Ent)) (v : Value) (q : Int) (h : Sh 184 202 w base g ls.length (fe ls) v) (hn : ls.length ≤ 100000) (hs : Rise ls) :
    Calls Try.prog 112 #[.pointer (some ⟨g, 0, none⟩), .int .i64 q] w fun e w' => e = .returned (.tuple #[entV (thI e0 q ls), .bool (hasI q ls)]) ∧ Below w.heap.size w w' := by
  have hal : Below w.heap.size w (w.alloc (.cells #[.int .i64 0, .int .i64 0, .int .i64 0, .int .i64 0, .string ⟨#[]⟩] 132)) := (Below.refl _ _).alloc (Nat.le_refl _) _
  have hnw := heap_alloc_new w (.cells #[.int .i64 0, .int .i64 0, .int .i64 0, .int .i64 0, .string ⟨#[]⟩] 132)
  have hlw : w.heap.size < (w.alloc (.cells #[.int .i64 0, .int .i64 0, .int .i64 0, .int .i64 0, .string ⟨#[]⟩] 132)).heap.size := by simp
  have hc := placeE _ base g ls v q (h.below hal) hn hs
  have HC := Lib.hid hc
  have HX := Lib.hid (fun w2 (hb : Below w.heap.size w w2) => h.below hb)
  have HA := Lib.hid hal
  have HN := Lib.hid hnw
  have HL := Lib.hid hlw
  cases hh : hasI q ls with
  | false =>
    rw [thI_no hh]
    dsimp only [entV, e0]
    rw [str0]
    rw [hh] at HC
    clear hc h HX hh hn hs hal hnw hlw
    go_enter Try.func112, Try.ntmps112
    go_wp2_with fail
    generalize (w.alloc (.cells #[.int .i64 0, .int .i64 0, .int .i64 0, .int .i64 0, .string ⟨#[]⟩] 132)) = w0 at HA HN HC HL ⊢
    refine HC.out.mono ?_
    rintro e w2 ⟨rfl, hb⟩
    have hb3 : Below w2.heap.size w2 (w2.alloc (.cells #[.int .i64 0, .int .i64 0, .int .i64 0, .int .i64 0, .string ⟨#[]⟩] 132)) := (Below.refl _ _).alloc (Nat.le_refl _) _
    have hx := (hb3.block _ (Nat.lt_of_lt_of_le HL.out hb.size)).trans ((hb.block _ HL.out).trans HN.out)
    have hx5 := heap_alloc_new w2 (.cells #[.int .i64 0, .int .i64 0, .int .i64 0, .int .i64 0, .string ⟨#[]⟩] 132)
    have HB := Lib.hid (kF hb3 (kF hb HA.out))
    have HX := Lib.hid hx
    have HX5 := Lib.hid hx5
    clear hx hx5 hb hb3
    go_wp2_with (first
      | (refine wpList_load_row rfl _ (.tmp 8) rfl w2.heap.size rfl _ _ _ _ HX5.out Try.underlying132 rfl info_ent ?_)
      | (refine wpList_store_row rfl _ (.tmp 4) (.tmp 17) rfl w.heap.size _ rfl rfl _ _ HX.out info_ent rfl (one_ent _ _ _ _ _) ?_))
    exact bodyPost_ret (results_cell_tmp_row rfl _ _ w.heap.size _ _ _ _ rfl (setRow_heap _ _ _ _ _ (0, 0) HX.out) Try.underlying132 rfl info_ent) rfl ⟨rfl, below_setRow HB.out (Nat.le_refl _) _⟩
  | true =>
    obtain ⟨x, hx, _⟩ := hasI_at hh
    rw [thI_yes hh hx]
    rw [hh] at HC
    have hlt := (List.getElem?_eq_some_iff.1 hx).1
    obtain ⟨k, xk, xa, xl, xh, xb⟩ := x
    dsimp only [entV]
    generalize plcI q ls = P at *
    have hlen := fe_len ls
    have HFV := Lib.hid hx
    obtain ⟨b, cap, cur, rfl, hbb, _, hnc, hm, _⟩ := own_some h.row (by omega)
    simp only [maxLen] at hm
    generalize ls.length = N at *
    clear hc h hh hs hx hlen hal hnw hlw
    go_enter Try.func112, Try.ntmps112
    go_wp2_with fail
    generalize (w.alloc (.cells #[.int .i64 0, .int .i64 0, .int .i64 0, .int .i64 0, .string ⟨#[]⟩] 132)) = w0 at HA HN HC HL ⊢
    refine HC.out.mono ?_
    rintro e w2 ⟨rfl, hb⟩
    have HB := Lib.hid (kF hb HA.out)
    have hx2 := HX.out w2 HB.out
    have c0 := hx2.cell
    have hl := hx2.lt
    obtain ⟨d0, d1, d2, d3, d4, d5⟩ := cellsE hx2.row HFV.out
    have hPI : (P : Int) < (N : Int) := by omega
    simp only at d0 d1 d2 d3 d4 d5
    have HY := Lib.hid ((hb.block _ HL.out).trans HN.out)
    clear hx2 hb
    go_wp2_with (refine wpList_store_row rfl _ (.tmp 4) (.tmp 25) rfl w.heap.size _ rfl rfl _ _ HY.out info_ent rfl (one_ent _ _ _ _ _) ?_)
    exact bodyPost_ret (results_cell_tmp_row rfl _ _ w.heap.size _ _ _ _ rfl (setRow_heap _ _ _ _ _ (0, 0) HY.out) Try.underlying132 rfl info_ent) rfl ⟨rfl, below_setRow HB.out (Nat.le_refl _) _⟩

theorem one_set {W : World} {k : Nat} {t : TypeId} {u : Value} (h : W.heap[k]? = some (.cells #[u] t (0, 0))) (v : Value) : (W.setCell ⟨k, 0, none⟩ v).heap[k]? = some (.cells #[v] t (0, 0)) := by
  simp [World.setCell, Array.getElem?_modify, h]
/-- A call on the table g whose rows lie at v has turned nothing else. -/
structure Tch (w w' : World) (g : Nat) (v : Value) : Prop where
  os : w'.os = w.os
  tape : w'.tape = w.tape
  output : w'.output = w.output
  size : w.heap.size ≤ w'.heap.size
  block : ∀ k, k < w.heap.size → k ≠ g → v.ownBlock ≠ some k → w'.heap[k]? = w.heap[k]?
theorem Tch.below {w w' : World} {g B : Nat} {v : Value} (h : Tch w w' g v) (hB : B ≤ w.heap.size) (hg : B ≤ g) (hA : ∀ b, v.ownBlock = some b → B ≤ b) : Below B w w' :=
  ⟨h.os, h.tape, h.output, h.size, fun k hk => h.block k (by omega) (by omega) (fun e => by have := hA k e; omega)⟩
theorem Tch.of_below {w w' : World} {g : Nat} {v : Value} (h : Below w.heap.size w w') : Tch w w' g v := ⟨h.os, h.tape, h.output, h.size, fun k hk _ _ => h.block k hk⟩
theorem Tch.grown {w w1 w2 : World} {g : Nat} {v : Value} (h : Tch w w1 g v) (hg : w1.grownBy w2 v.ownBlock) : Tch w w2 g v :=
  ⟨hg.os.trans h.os, hg.tape.trans h.tape, hg.output.trans h.output, Nat.le_trans h.size hg.size, fun k hk h1 h2 => (hg.block k (Nat.lt_of_lt_of_le hk h.size) (fun e => h2 e.symm)).trans (h.block k hk h1 h2)⟩
theorem Tch.set {w w1 : World} {g : Nat} {v : Value} (h : Tch w w1 g v) (o : Nat) (x : Value) : Tch w (w1.setCell ⟨g, o, none⟩ x) g v :=
  ⟨h.os, h.tape, h.output, by simp; exact h.size, fun k hk h1 h2 => (Below.heap_setCell _ _ _ _ h1).trans (h.block k hk h1 h2)⟩
theorem grown_set (w : World) (g o : Nat) (x : Value) : w.grownBy (w.setCell ⟨g, o, none⟩ x) (some g) := ⟨rfl, rfl, rfl, by simp, fun k _ hne => Below.heap_setCell _ _ _ _ (fun e => hne (by rw [e]))⟩
section
variable {tb tr : Nat} {w w' : World} {base g n n' : Nat} {cs cs' : List Value} {v v' : Value}
theorem Sh.put (h : Sh tb tr w base g n cs v) (hr : w'.ownsRow base tr 6 v' n' cs') (hg : w'.heap[g]? = w.heap[g]?) (hi : v'.ownBlock ≠ some g) : Sh tb tr (w'.setCell ⟨g, 0, none⟩ v') base g n' cs' v' :=
  ⟨one_set (hg.trans h.box) v', hr.kept (grown_set w' g 0 v') (.inr hi), hi⟩
end
/-- What Put makes of a table. -/
structure ShPut (tb tr : Nat) (w : World) (base g n : Nat) (cs : List Value) (r : Bool) (v : Value) (e : Ending) (w' : World) : Prop where
  code : e = .returned (.bool r)
  goes : ∃ v', Sh tb tr w' base g n cs v' ∧ (v'.ownBlock = v.ownBlock ∨ ∃ b, v'.ownBlock = some b ∧ w.heap.size ≤ b)
  touch : Tch w w' g v
/-- The rows behind a Put. -/
def putI {ν : Type} (k : Int) (v : ν) (ls : List (Int × ν)) : List (Int × ν) := if hasI k ls then ls.set (plcI k ls) (k, v) else ls.take (plcI k ls) ++ [(k, v)] ++ ls.drop (plcI k ls)
theorem putE_ins (k : Int) (v : Ent) (ls : List (Int × Ent)) (h : hasI k ls = false) : (fe ls).take (plcI k ls * 6) ++ rowE (k, v) ++ (fe ls).drop (plcI k ls * 6) = fe (putI k v ls) ∧ (putI k v ls).length = ls.length + 1 := by
  have := plcI_le k ls
  have e : putI k v ls = ls.take (plcI k ls) ++ [(k, v)] ++ ls.drop (plcI k ls) := by unfold putI; rw [h]; rfl
  refine ⟨?_, by rw [e]; simp; omega⟩
  rw [e, fe_take, fe_drop, fe_append, fe_append]
  simp [fe]
theorem plcI_lt {ν : Type} (q : Int) : ∀ (ls : List (Int × ν)) (i : Nat) (x : Int × ν), i < plcI q ls → ls[i]? = some x → x.1 < q
  | [], i, x, _, h => by simp at h
  | y :: ls, i, x, hi, h => by
    unfold plcI at hi
    by_cases hy : y.1 < q
    · rw [if_pos hy] at hi
      cases i with
      | zero => simp only [List.getElem?_cons_zero, Option.some.injEq] at h; subst h; exact hy
      | succ i => exact plcI_lt q ls i x (by omega) (by simpa using h)
    · rw [if_neg hy] at hi; omega
theorem plcI_stop {ν : Type} (q : Int) : ∀ (ls : List (Int × ν)) (x : Int × ν), ls[plcI q ls]? = some x → q ≤ x.1
  | [], x, h => by simp at h
  | y :: ls, x, h => by
    unfold plcI at h
    by_cases hy : y.1 < q
    · rw [if_pos hy] at h; exact plcI_stop q ls x (by simpa using h)
    · rw [if_neg hy] at h; simp only [List.getElem?_cons_zero, Option.some.injEq] at h; subst h; omega
theorem rise_iff {ν : Type} {ls : List (Int × ν)} : Rise ls ↔ ls.Pairwise (fun x y => x.1 < y.1) := by
  rw [List.pairwise_iff_getElem]
  refine ⟨fun h i j hi hj hij => h i j _ _ hij (List.getElem?_eq_getElem hi) (List.getElem?_eq_getElem hj), fun h i j x y hij hx hy => ?_⟩
  obtain ⟨hi, rfl⟩ := List.getElem?_eq_some_iff.1 hx
  obtain ⟨hj, rfl⟩ := List.getElem?_eq_some_iff.1 hy
  exact h i j hi hj hij
theorem rise_nil {ν : Type} : Rise ([] : List (Int × ν)) := rise_iff.2 .nil
theorem rise_put {ν : Type} (k : Int) (v : ν) (ls : List (Int × ν)) (h : Rise ls) : Rise (putI k v ls) := by
  unfold putI
  split
  · rename_i hh
    obtain ⟨x, hx, hk⟩ := hasI_at hh
    intro i j a b hij ha hb
    rw [List.getElem?_set] at ha hb
    have key : ∀ i a, (if plcI k ls = i then if plcI k ls < ls.length then some (k, v) else none else ls[i]?) = some a → ∃ c, ls[i]? = some c ∧ c.1 = a.1 := fun i a ha => by
      by_cases e : plcI k ls = i
      · rw [if_pos e] at ha
        split at ha
        · cases ha; exact ⟨x, by rw [← e]; exact hx, hk⟩
        · cases ha
      · rw [if_neg e] at ha; exact ⟨a, ha, rfl⟩
    obtain ⟨c, hc, e1⟩ := key i a ha
    obtain ⟨c', hc', e2⟩ := key j b hb
    have := h i j c c' hij hc hc'
    omega
  · rename_i hh
    have hp := rise_iff.1 h
    have h1 : ∀ x ∈ ls.take (plcI k ls), x.1 < k := fun x hx => by
      obtain ⟨i, hi, e⟩ := List.mem_iff_getElem.1 hx
      rw [List.getElem_take] at e
      exact plcI_lt k ls i x (by simp at hi; omega) (by rw [← e]; exact List.getElem?_eq_getElem _)
    have h2 : ∀ x ∈ ls.drop (plcI k ls), k < x.1 := fun x hx => by
      obtain ⟨i, hi, e⟩ := List.mem_iff_getElem.1 hx
      rw [List.getElem_drop] at e
      have hx2 : ls[plcI k ls + i]? = some x := by rw [← e]; exact List.getElem?_eq_getElem _
      have hlt : plcI k ls < ls.length := by have := (List.getElem?_eq_some_iff.1 hx2).1; omega
      have hq := plcI_stop k ls _ (List.getElem?_eq_getElem hlt)
      have hne : ls[plcI k ls].1 ≠ k := fun e => hh (by rw [hasI_some rfl (List.getElem?_eq_getElem hlt)]; simpa using e)
      rcases Nat.eq_zero_or_pos i with h0 | h0
      · subst h0
        have : ls[plcI k ls] = x := e
        rw [← this]; omega
      · have := h (plcI k ls) (plcI k ls + i) _ x (by omega) (List.getElem?_eq_getElem hlt) hx2
        omega
    rw [rise_iff, List.pairwise_append, List.pairwise_append]
    refine ⟨⟨hp.sublist (List.take_sublist _ _), List.pairwise_singleton _ _, fun a ha b hb => ?_⟩, hp.sublist (List.drop_sublist _ _), fun a ha b hb => ?_⟩
    · simp only [List.mem_singleton] at hb; subst hb; exact h1 a ha
    · have := h2 b hb
      rcases List.mem_append.1 ha with ha | ha
      · have := h1 a ha; omega
      · simp only [List.mem_singleton] at ha; subst ha; exact this
theorem putI_le {ν : Type} (k : Int) (v : ν) (ls : List (Int × ν)) : (putI k v ls).length ≤ ls.length + 1 := by
  have := plcI_le k ls
  unfold putI; split <;> simp <;> omega
theorem own_less {w : World} {base base' e s n : Nat} {v : Value} {xs : List Value} (h : w.ownsRow base e s v n xs) (hb : base' ≤ base) : w.ownsRow base' e s v n xs :=
  ⟨h.1, h.2.imp (fun h => h) fun ⟨g, cap, cur, e1, h1, h2⟩ => ⟨g, cap, cur, e1, Nat.le_trans hb h1, h2⟩⟩
end Go.Proofs.Ytgaoplbocjadaaa