/- New, Place, Len, Get, Put where keys are texts; such tables as a statement holds them. -/
import Derived.Test.YtbabohioeeandaaTSi
namespace Go.Proofs.Ytbabohioeeandaa
open Go.RowKit
theorem hasS_at {ν : Type} {q : ByteArray} {ls : List (ByteArray × ν)} (h : hasS q ls = true) : ∃ x, ls[plcS q ls]? = some x ∧ x.1 = q := by
  unfold hasS at h
  split at h
  · exact ⟨_, by assumption, by simpa using h⟩
  · simp at h
/-- The thing at a place. -/
def thS {ν : Type} (z : ν) (q : ByteArray) (ls : List (ByteArray × ν)) : ν := if hasS q ls then match ls[plcS q ls]? with | some x => x.2 | none => z else z
theorem thS_no {ν : Type} {z : ν} {q : ByteArray} {ls : List (ByteArray × ν)} (h : hasS q ls = false) : thS z q ls = z := by unfold thS; rw [h]; rfl
theorem thS_yes {ν : Type} {z : ν} {q : ByteArray} {ls : List (ByteArray × ν)} {x : ByteArray × ν} (h : hasS q ls = true) (hx : ls[plcS q ls]? = some x) : thS z q ls = x.2 := by unfold thS; rw [h, if_pos rfl, hx]
theorem newC (w : World) : Calls Try.prog 52 #[] w fun e w' => e = .returned (.pointer (some ⟨w.heap.size, 0, none⟩)) ∧ Sh 113 115 w' (w.heap.size + 1) w.heap.size 0 [] (.slice none 0 0) ∧ Below w.heap.size w w' := by
  have hbx : Sh 113 115 (w.alloc (.cells #[.slice none 0 0] 113)) (w.heap.size + 1) w.heap.size 0 [] (.slice none 0 0) := ⟨heap_alloc_new w _, ⟨rfl, .inl ⟨rfl, rfl⟩⟩, by simp [Value.ownBlock]⟩
  have hb : Below w.heap.size w (w.alloc (.cells #[.slice none 0 0] 113)) := (Below.refl _ _).alloc (Nat.le_refl _) _
  have HBX := Lib.hid hbx
  have HB := Lib.hid hb
  clear hbx hb
  go_enter Try.func52, Try.ntmps52
  go_wp2_with fail
  go_ret
  exact ⟨rfl, HBX.out, HB.out⟩
set_option maxRecDepth 100000 in
theorem placeC (w : World) (base g : Nat) (ls : List (ByteArray × Int)) (v : Value) (q : ByteArray) (h : Sh 113 115 w base g ls.length (fl eS eI ls) v) (hn : ls.length ≤ 100000) (hs : RiseS ls) :
    Calls Try.prog 69 #[.pointer (some ⟨g, 0, none⟩), .string q] w fun e w' => e = .returned (.tuple #[.int .i64 (plcS q ls : Nat), .bool (hasS q ls)]) ∧ Below w.heap.size w w' := by
  have hc := bsC w base ls.length v ls q h.row hn hs
  have c0 := h.cell
  have hl := h.lt
  have HC := Lib.hid hc
  clear hc h hn hs
  go_enter Try.func69, Try.ntmps69
  go_wp2_with fail
  refine HC.out.mono ?_
  rintro e w2 ⟨rfl, hb⟩
  clear c0
  go_wp2_with fail
  go_ret2
  exact ⟨rfl, hb⟩
set_option maxRecDepth 100000 in
set_option maxHeartbeats 1000000 in
theorem getC (w : World) (base g : Nat) (ls : List (ByteArray × Int)) (v : Value) (q : ByteArray) (h : Sh 113 115 w base g ls.length (fl eS eI ls) v) (hn : ls.length ≤ 100000) (hs : RiseS ls) :
    Calls Try.prog 79 #[.pointer (some ⟨g, 0, none⟩), .string q] w fun e w' => e = .returned (.tuple #[.int .i64 (thS 0 q ls), .bool (hasS q ls)]) ∧ Below w.heap.size w w' := by
  have hc := placeC w base g ls v q h hn hs
  have hid := fun w2 (hb : Below w.heap.size w w2) => h.below hb
  have HC := Lib.hid hc
  have HX := Lib.hid hid
  cases hh : hasS q ls with
  | false =>
    rw [thS_no hh]
    rw [hh] at HC
    clear hc h hid HX hh hn hs
    go_enter Try.func79, Try.ntmps79
    go_wp2_with fail
    refine HC.out.mono ?_
    rintro e w2 ⟨rfl, hb⟩
    go_wp2_with fail
    go_ret2
    exact ⟨rfl, hb⟩
  | true =>
    obtain ⟨x, hx, _⟩ := hasS_at hh
    rw [thS_yes hh hx]
    rw [hh] at HC
    have hlt := (List.getElem?_eq_some_iff.1 hx).1
    obtain ⟨k, u⟩ := x
    generalize plcS q ls = P at *
    have hlen := fl_len eS eI ls
    have hfv := fl_val eS eI ls P _ hx
    obtain ⟨b, cap, cur, rfl, hbb, _, hnc, hm, _⟩ := own_some h.row (by omega)
    simp only [maxLen] at hm
    have HFV := Lib.hid hfv
    generalize ls.length = N at *
    clear hc h hid hh hs hx hfv hlen
    go_enter Try.func79, Try.ntmps79
    go_wp2_with fail
    refine HC.out.mono ?_
    rintro e w2 ⟨rfl, hb⟩
    have hx2 := HX.out w2 hb
    have c0 := hx2.cell
    have hl := hx2.lt
    have d1 := own_cell hx2.row (k := P * 2 + 1) (by omega)
    rw [HFV.out] at d1
    have hPI : (P : Int) < (N : Int) := by omega
    simp only [eI] at d1
    clear hx2
    go_wp2_with fail
    go_ret2
    exact ⟨rfl, hb⟩
/-- The rows behind a Put. -/
def putS {ν : Type} (k : ByteArray) (v : ν) (ls : List (ByteArray × ν)) : List (ByteArray × ν) := if hasS k ls then ls.set (plcS k ls) (k, v) else ls.take (plcS k ls) ++ [(k, v)] ++ ls.drop (plcS k ls)
theorem putS_ins {ν : Type} (ev : ν → Value) (k : ByteArray) (v : ν) (ls : List (ByteArray × ν)) (h : hasS k ls = false) : (fl eS ev ls).take (plcS k ls * 2) ++ [.string k, ev v] ++ (fl eS ev ls).drop (plcS k ls * 2) = fl eS ev (putS k v ls) ∧ (putS k v ls).length = ls.length + 1 := by
  have := plcS_le k ls
  have e : putS k v ls = ls.take (plcS k ls) ++ [(k, v)] ++ ls.drop (plcS k ls) := by unfold putS; rw [h]; rfl
  refine ⟨?_, by rw [e]; simp; omega⟩
  rw [e, fl_take, fl_drop, fl_append, fl_append]
  rfl
theorem putS_set {ν : Type} (ev : ν → Value) (k : ByteArray) (v : ν) (ls : List (ByteArray × ν)) (h : hasS k ls = true) : (fl eS ev ls).set (plcS k ls * 2 + 1) (ev v) = fl eS ev (putS k v ls) ∧ (putS k v ls).length = ls.length := by
  obtain ⟨x, hx, hk⟩ := hasS_at h
  have e : putS k v ls = ls.set (plcS k ls) (k, v) := by unfold putS; rw [h]; rfl
  rw [e, fl_set eS ev ls _ x v hx, hk]
  exact ⟨rfl, by simp⟩
set_option maxRecDepth 100000 in
set_option maxHeartbeats 2000000 in
theorem putC (w : World) (base g : Nat) (ls : List (ByteArray × Int)) (v : Value) (k : ByteArray) (u : Int) (h : Sh 113 115 w base g ls.length (fl eS eI ls) v) (hbase : base ≤ w.heap.size) (hn : ls.length ≤ 1000) (hs : RiseS ls) :
    Calls Try.prog 54 #[.pointer (some ⟨g, 0, none⟩), .string k, .int .i64 u] w (ShPut 113 115 w base g (putS k u ls).length (fl eS eI (putS k u ls)) (hasS k ls) v) := by
  have hc := placeC w base g ls v k h (by omega) hs
  have HC := Lib.hid hc
  have HX := Lib.hid h
  have hple := plcS_le k ls
  cases hh : hasS k ls with
  | true =>
    obtain ⟨e1, e2⟩ := putS_set eI k u ls hh
    rw [← e1, e2]
    rw [hh] at HC
    obtain ⟨x, hx, _⟩ := hasS_at hh
    have hlt := (List.getElem?_eq_some_iff.1 hx).1
    have hlen := fl_len eS eI ls
    have hfv := fl_val eS eI ls (plcS k ls) _ hx
    clear hc h hs hh e1 e2 hx hple
    generalize plcS k ls = P at *
    obtain ⟨b, cap, cur, rfl, hbb, _, hnc, hm, _⟩ := own_some HX.out.row (by omega)
    simp only [maxLen] at hm
    have HFV := Lib.hid hfv
    generalize fl eS eI ls = cs at *
    generalize ls.length = N at *
    clear hfv hlen
    go_enter Try.func54, Try.ntmps54
    go_wp2_with fail
    refine HC.out.mono ?_
    rintro e w2 ⟨rfl, hb⟩
    have HX2 := Lib.hid (HX.out.below hb)
    have c0 := HX2.out.cell
    have hl := HX2.out.lt
    have d1 := own_cell HX2.out.row (k := P * 2 + 1) (by omega)
    have f1 := HX2.out.row.frozenAt (P * 2 + 1)
    rw [HFV.out] at d1
    have hPI : (P : Int) < (N : Int) := by omega
    have HB := Lib.hid hb
    clear hb
    go_wp2_with fail
    go_ret
    exact ⟨rfl, ⟨_, HX2.out.thing (P * 2 + 1) _, .inl rfl⟩, (Tch.of_below HB.out).grown (grown_set _ _ _ _)⟩
  | false =>
    obtain ⟨e1, e2⟩ := putS_ins eI k u ls hh
    have hlen := fl_len eS eI ls
    have hins := fun (w : World) hb (h : Sh 113 115 w base g ls.length (fl eS eI ls) v) (hbase : base ≤ w.heap.size) hnew hne => insert_anyC w base ls.length (plcS k ls) hb v (fl eS eI ls) [.string k, eI u] h.row hbase hple (by omega) hnew rfl (by simp [eI, Value.oneCell']) (fl_one eS eI (fun _ => rfl) (fun _ => rfl) ls) hne
    simp only [e1] at hins
    rw [← e2] at hins
    rw [hh] at HC
    have hown := fun k hk => (HX.out.row.lt k hk).2
    have HIN := Lib.hid hins
    have HOW := Lib.hid hown
    have hbg := HX.out.lt
    clear hc h hs hh e1 e2 hlen hins hown
    generalize (putS k u ls) = ls' at *
    generalize plcS k ls = P at *
    go_enter Try.func54, Try.ntmps54
    go_wp2_with fail
    refine HC.out.mono ?_
    rintro e w2 ⟨rfl, hb⟩
    have HX2 := Lib.hid (HX.out.below hb)
    have c0 := HX2.out.cell
    have hl := HX2.out.lt
    have hsz := hb.size
    have hb3 : Below w2.heap.size w2 (w2.alloc (.cells #[.string k, eI u] 115)) := (Below.refl _ _).alloc (Nat.le_refl _) _
    have hn3 : (w2.alloc (.cells #[.string k, eI u] 115)).heap[w2.heap.size]? = some (.cells #[.string k, eI u] 115 (0, 0)) := heap_alloc_new w2 _
    have HB := Lib.hid (kF hb3 hb)
    have HI := Lib.hid (HIN.out _ _ (HX2.out.below hb3) (by have := hb3.size; omega) hn3 (fun e => by have := HOW.out _ e; omega))
    have HX3 := Lib.hid (HX2.out.below hb3)
    have c3 := HX3.out.cell
    simp only [eI] at HI HX3 HB c3
    clear hb hb3 hn3
    go_wp2_with fail
    generalize (w2.alloc (.cells #[.string k, .int .i64 u] 115)) = w3 at *
    refine HI.out.mono ?_
    rintro e w4 ⟨v', rfl, hrow, hgr, hob⟩
    obtain ⟨a', c', rfl⟩ := own_slice hrow
    generalize hvv : Value.slice a' ls'.length c' = v' at hrow hob
    have hl3 := HX3.out.lt
    have e1 : w4.heap[g]? = w3.heap[g]? := hgr.block g hl3 (fun e => HX3.out.isnt e.symm)
    have c4 : w4.cell? ⟨g, 0, none⟩ = some v := by rw [cell_of_row _ _ _ _ _ _ (e1.trans HX3.out.box)]; rfl
    have f4 : w4.frozen? ⟨g, 0, none⟩ = false := frozen_of_row _ _ _ _ _ (e1.trans HX3.out.box)
    have hi : v'.ownBlock ≠ some g := by
      rcases hob with h | ⟨b, h, hb⟩
      · rw [h]; exact HX3.out.isnt
      · rw [h]; intro e; cases e; omega
    have HR := Lib.hid (HX3.out.put hrow e1 hi)
    have HT := Lib.hid (((Tch.of_below HB.out : Tch w w3 g v).grown hgr).set 0 v')
    have HO := Lib.hid (show v'.ownBlock = v.ownBlock ∨ ∃ b, v'.ownBlock = some b ∧ w.heap.size ≤ b from hob.imp id fun ⟨b, h, hb⟩ => ⟨b, h, Nat.le_trans HB.out.size hb⟩)
    clear hrow hgr hob e1 hi c3 c0
    subst hvv
    go_wp2_with fail
    go_ret
    exact ⟨rfl, ⟨_, HR.out, HO.out⟩, HT.out⟩
theorem plcS_lt {ν : Type} (q : ByteArray) : ∀ (ls : List (ByteArray × ν)) (i : Nat) (x : ByteArray × ν), i < plcS q ls → ls[i]? = some x → sl x.1 q = true
  | [], i, x, _, h => by simp at h
  | y :: ls, i, x, hi, h => by
    unfold plcS at hi
    by_cases hy : sl y.1 q = true
    · rw [if_pos hy] at hi
      cases i with
      | zero => simp only [List.getElem?_cons_zero, Option.some.injEq] at h; subst h; exact hy
      | succ i => exact plcS_lt q ls i x (by omega) (by simpa using h)
    · rw [if_neg hy] at hi; omega
theorem plcS_stop {ν : Type} (q : ByteArray) : ∀ (ls : List (ByteArray × ν)) (x : ByteArray × ν), ls[plcS q ls]? = some x → sl x.1 q = false
  | [], x, h => by simp at h
  | y :: ls, x, h => by
    unfold plcS at h
    by_cases hy : sl y.1 q = true
    · rw [if_pos hy] at h; exact plcS_stop q ls x (by simpa using h)
    · rw [if_neg hy] at h; simp only [List.getElem?_cons_zero, Option.some.injEq] at h; subst h; simpa using hy
theorem riseS_iff {ν : Type} {ls : List (ByteArray × ν)} : RiseS ls ↔ ls.Pairwise (fun x y => sl x.1 y.1 = true) := by
  rw [List.pairwise_iff_getElem]
  refine ⟨fun h i j hi hj hij => h i j _ _ hij (List.getElem?_eq_getElem hi) (List.getElem?_eq_getElem hj), fun h i j x y hij hx hy => ?_⟩
  obtain ⟨hi, rfl⟩ := List.getElem?_eq_some_iff.1 hx
  obtain ⟨hj, rfl⟩ := List.getElem?_eq_some_iff.1 hy
  exact h i j hi hj hij
theorem riseS_nil {ν : Type} : RiseS ([] : List (ByteArray × ν)) := riseS_iff.2 .nil
theorem riseS_put {ν : Type} (k : ByteArray) (v : ν) (ls : List (ByteArray × ν)) (h : RiseS ls) : RiseS (putS k v ls) := by
  unfold putS
  split
  · rename_i hh
    obtain ⟨x, hx, hk⟩ := hasS_at hh
    intro i j a b hij ha hb
    rw [List.getElem?_set] at ha hb
    have key : ∀ i a, (if plcS k ls = i then if plcS k ls < ls.length then some (k, v) else none else ls[i]?) = some a → ∃ c, ls[i]? = some c ∧ c.1 = a.1 := fun i a ha => by
      by_cases e : plcS k ls = i
      · rw [if_pos e] at ha
        split at ha
        · cases ha; exact ⟨x, by rw [← e]; exact hx, hk⟩
        · cases ha
      · rw [if_neg e] at ha; exact ⟨a, ha, rfl⟩
    obtain ⟨c, hc, e1⟩ := key i a ha
    obtain ⟨c', hc', e2⟩ := key j b hb
    have := h i j c c' hij hc hc'
    rw [e1, e2] at this; exact this
  · rename_i hh
    have hp := riseS_iff.1 h
    have h1 : ∀ x ∈ ls.take (plcS k ls), sl x.1 k = true := fun x hx => by
      obtain ⟨i, hi, e⟩ := List.mem_iff_getElem.1 hx
      rw [List.getElem_take] at e
      exact plcS_lt k ls i x (by simp at hi; omega) (by rw [← e]; exact List.getElem?_eq_getElem _)
    have h2 : ∀ x ∈ ls.drop (plcS k ls), sl k x.1 = true := fun x hx => by
      obtain ⟨i, hi, e⟩ := List.mem_iff_getElem.1 hx
      rw [List.getElem_drop] at e
      have hx2 : ls[plcS k ls + i]? = some x := by rw [← e]; exact List.getElem?_eq_getElem _
      have hlt : plcS k ls < ls.length := by have := (List.getElem?_eq_some_iff.1 hx2).1; omega
      have hq := plcS_stop k ls _ (List.getElem?_eq_getElem hlt)
      have hne : ls[plcS k ls].1 ≠ k := fun e => hh (by rw [hasS_some rfl (List.getElem?_eq_getElem hlt)]; simpa using e)
      rcases Nat.eq_zero_or_pos i with h0 | h0
      · subst h0
        have : ls[plcS k ls] = x := e
        rw [← this]
        cases h3 : sl k ls[plcS k ls].1 with
        | true => rfl
        | false => exact absurd (sl_tri hq h3) hne
      · have h4 := h (plcS k ls) (plcS k ls + i) _ x (by omega) (List.getElem?_eq_getElem hlt) hx2
        cases h3 : sl k ls[plcS k ls].1 with
        | true => exact sl_trans h3 h4
        | false => exact absurd (sl_tri hq h3) hne
    rw [riseS_iff, List.pairwise_append, List.pairwise_append]
    refine ⟨⟨hp.sublist (List.take_sublist _ _), List.pairwise_singleton _ _, fun a ha b hb => ?_⟩, hp.sublist (List.drop_sublist _ _), fun a ha b hb => ?_⟩
    · simp only [List.mem_singleton] at hb; subst hb; exact h1 a ha
    · have := h2 b hb
      rcases List.mem_append.1 ha with ha | ha
      · exact sl_trans (h1 a ha) this
      · simp only [List.mem_singleton] at ha; subst ha; exact this
theorem putS_le {ν : Type} (k : ByteArray) (v : ν) (ls : List (ByteArray × ν)) : (putS k v ls).length ≤ ls.length + 1 := by
  have := plcS_le k ls
  unfold putS; split <;> simp <;> omega
theorem tab_putC (w0 w : World) (g : Nat) (ls : List (ByteArray × Int)) (k : ByteArray) (u : Int) (h : TabAt 113 115 w0 g ls.length (fl eS eI ls) w) (hn : ls.length ≤ 1000) (hs : RiseS ls) :
    Calls Try.prog 54 #[.pointer (some ⟨g, 0, none⟩), .string k, .int .i64 u] w fun e w' => e = .returned (.bool (hasS k ls)) ∧ TabAt 113 115 w0 g (putS k u ls).length (fl eS eI (putS k u ls)) w' ∧ Kept 115 w w' g := by
  obtain ⟨⟨v, hv⟩, h1, h2⟩ := h
  refine (putC w w0.heap.size g ls v k u hv h2.size hn hs).mono ?_
  rintro e w' ⟨rfl, ⟨v', hx, hob⟩, ht⟩
  exact ⟨rfl, ⟨⟨v', hx⟩, h1, h2.trans (ht.below h2.size h1 fun b hb => (hv.row.lt b hb).1)⟩, ht.kept hv⟩
theorem tab_placeC (w0 w : World) (g : Nat) (ls : List (ByteArray × Int)) (k : ByteArray) (h : TabAt 113 115 w0 g ls.length (fl eS eI ls) w) (hn : ls.length ≤ 1000) (hs : RiseS ls) :
    Calls Try.prog 69 #[.pointer (some ⟨g, 0, none⟩), .string k] w fun e w' => e = .returned (.tuple #[.int .i64 (plcS k ls : Nat), .bool (hasS k ls)]) ∧ TabAt 113 115 w0 g ls.length (fl eS eI ls) w' ∧ Kept 115 w w' g := by
  obtain ⟨v, hv⟩ := h.tab
  refine (placeC w w0.heap.size g ls v k hv (by omega) hs).mono ?_
  rintro e w' ⟨rfl, hb⟩
  exact ⟨rfl, h.step hb, .of_below hb⟩
theorem tab_getC (w0 w : World) (g : Nat) (ls : List (ByteArray × Int)) (k : ByteArray) (h : TabAt 113 115 w0 g ls.length (fl eS eI ls) w) (hn : ls.length ≤ 1000) (hs : RiseS ls) :
    Calls Try.prog 79 #[.pointer (some ⟨g, 0, none⟩), .string k] w fun e w' => e = .returned (.tuple #[.int .i64 (thS 0 k ls), .bool (hasS k ls)]) ∧ TabAt 113 115 w0 g ls.length (fl eS eI ls) w' ∧ Kept 115 w w' g := by
  obtain ⟨v, hv⟩ := h.tab
  refine (getC w w0.heap.size g ls v k hv (by omega) hs).mono ?_
  rintro e w' ⟨rfl, hb⟩
  exact ⟨rfl, h.step hb, .of_below hb⟩
theorem tab_newC (w0 w : World) (h : Below w0.heap.size w0 w) : Calls Try.prog 52 #[] w fun e w' => e = .returned (.pointer (some ⟨w.heap.size, 0, none⟩)) ∧ TabAt 113 115 w0 w.heap.size 0 [] w' ∧ Below w.heap.size w w' := by
  refine (newC w).mono ?_
  rintro e w' ⟨rfl, hx, hb⟩
  exact ⟨rfl, ⟨⟨_, ⟨hx.box, own_less hx.row (by have := h.size; omega), hx.isnt⟩⟩, h.size, kF hb h⟩, hb⟩
end Go.Proofs.Ytbabohioeeandaa