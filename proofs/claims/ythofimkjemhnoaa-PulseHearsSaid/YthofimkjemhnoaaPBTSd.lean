/- What a table is as it lies; New, Place, Len and Get where keys are numbers. -/
import Derived.Test.YthofimkjemhnoaaPBTSc
namespace Go.Proofs.Ythofimkjemhnoaa
open Go.RowKit
set_option linter.unusedSimpArgs false
set_option linter.unusedVariables false
theorem own_slice {w : World} {base e s n : Nat} {v : Value} {xs : List Value} (h : w.ownsRow base e s v n xs) : ∃ a c, v = .slice a n c := by
  rcases h.2 with ⟨rfl, h0⟩ | ⟨g', cap, cur, rfl, _⟩
  · exact ⟨none, 0, by rw [h0]⟩
  · exact ⟨_, _, rfl⟩
/-- Block g is a table whose n rows, of these cells, lie at v. -/
structure Sh (tb tr : Nat) (w : World) (base g n : Nat) (cs : List Value) (v : Value) : Prop where
  box : w.heap[g]? = some (.cells #[v] tb (0, 0))
  row : w.ownsRow base tr 2 v n cs
  isnt : v.ownBlock ≠ some g
section
variable {tb tr : Nat} {w w' : World} {base g n : Nat} {cs : List Value} {v : Value}
theorem Sh.lt (h : Sh tb tr w base g n cs v) : g < w.heap.size := (Array.getElem?_eq_some_iff.1 h.box).1
theorem Sh.cell (h : Sh tb tr w base g n cs v) : w.cell? ⟨g, 0, none⟩ = some v := by rw [cell_of_row _ _ _ _ _ _ h.box]; rfl
theorem Sh.keep (h : Sh tb tr w base g n cs v) {r : Option Nat} (hg : w.grownBy w' r) (h1 : r ≠ some g) (h2 : ∀ k, r = some k → v.ownBlock ≠ some k) : Sh tb tr w' base g n cs v :=
  ⟨(hg.block g h.lt (fun e => h1 e.symm)).trans h.box, h.row.kept hg (by
    cases hv : v.ownBlock with
    | none => exact .inl rfl
    | some k => exact .inr fun e => h2 k e.symm hv), h.isnt⟩
theorem Sh.below (h : Sh tb tr w base g n cs v) (hb : Below w.heap.size w w') : Sh tb tr w' base g n cs v := h.keep (grown_below none hb) (by simp) (by simp)
end
theorem hasI_at {ν : Type} {q : Int} {ls : List (Int × ν)} (h : hasI q ls = true) : ∃ x, ls[plcI q ls]? = some x ∧ x.1 = q := by
  unfold hasI at h
  split at h
  · exact ⟨_, by assumption, by simpa using h⟩
  · simp at h
/-- The thing at a place. -/
def thI {ν : Type} (z : ν) (q : Int) (ls : List (Int × ν)) : ν := if hasI q ls then match ls[plcI q ls]? with | some x => x.2 | none => z else z
theorem thI_no {ν : Type} {z : ν} {q : Int} {ls : List (Int × ν)} (h : hasI q ls = false) : thI z q ls = z := by unfold thI; rw [h]; rfl
theorem thI_yes {ν : Type} {z : ν} {q : Int} {ls : List (Int × ν)} {x : Int × ν} (h : hasI q ls = true) (hx : ls[plcI q ls]? = some x) : thI z q ls = x.2 := by unfold thI; rw [h, if_pos rfl, hx]
theorem newA (w : World) : Calls Try.prog 38 #[] w fun e w' => e = .returned (.pointer (some ⟨w.heap.size, 0, none⟩)) ∧ Sh 90 98 w' (w.heap.size + 1) w.heap.size 0 [] (.slice none 0 0) ∧ Below w.heap.size w w' := by
  have hbx : Sh 90 98 (w.alloc (.cells #[.slice none 0 0] 90)) (w.heap.size + 1) w.heap.size 0 [] (.slice none 0 0) := ⟨heap_alloc_new w _, ⟨rfl, .inl ⟨rfl, rfl⟩⟩, by simp [Value.ownBlock]⟩
  have hb : Below w.heap.size w (w.alloc (.cells #[.slice none 0 0] 90)) := (Below.refl _ _).alloc (Nat.le_refl _) _
  have HBX := Lib.hid hbx
  have HB := Lib.hid hb
  clear hbx hb
  go_enter Try.func38, Try.ntmps38
  go_wp2_with fail
  go_ret
  exact ⟨rfl, HBX.out, HB.out⟩
set_option maxRecDepth 100000 in
theorem placeA (w : World) (base g : Nat) (ls : List (Int × Int)) (v : Value) (q : Int) (h : Sh 90 98 w base g ls.length (fl eI eI ls) v) (hn : ls.length ≤ 100000) (hs : Rise ls) :
    Calls Try.prog 51 #[.pointer (some ⟨g, 0, none⟩), .int .i64 q] w fun e w' => e = .returned (.tuple #[.int .i64 (plcI q ls : Nat), .bool (hasI q ls)]) ∧ Below w.heap.size w w' := by
  have hc := bsA w base ls.length v ls q h.row hn hs
  have c0 := h.cell
  have hl := h.lt
  have HC := Lib.hid hc
  clear hc h hn hs
  go_enter Try.func51, Try.ntmps51
  go_wp2_with fail
  refine HC.out.mono ?_
  rintro e w2 ⟨rfl, hb⟩
  clear c0
  go_wp2_with fail
  go_ret2
  exact ⟨rfl, hb⟩
set_option maxRecDepth 100000 in
set_option maxHeartbeats 1000000 in
theorem getA (w : World) (base g : Nat) (ls : List (Int × Int)) (v : Value) (q : Int) (h : Sh 90 98 w base g ls.length (fl eI eI ls) v) (hn : ls.length ≤ 100000) (hs : Rise ls) :
    Calls Try.prog 49 #[.pointer (some ⟨g, 0, none⟩), .int .i64 q] w fun e w' => e = .returned (.tuple #[.int .i64 (thI 0 q ls), .bool (hasI q ls)]) ∧ Below w.heap.size w w' := by
  have hc := placeA w base g ls v q h hn hs
  have hid := fun w2 (hb : Below w.heap.size w w2) => h.below hb
  have HC := Lib.hid hc
  have HX := Lib.hid hid
  cases hh : hasI q ls with
  | false =>
    rw [thI_no hh]
    rw [hh] at HC
    clear hc h hid HX hh hn hs
    go_enter Try.func49, Try.ntmps49
    go_wp2_with fail
    refine HC.out.mono ?_
    rintro e w2 ⟨rfl, hb⟩
    go_wp2_with fail
    go_ret2
    exact ⟨rfl, hb⟩
  | true =>
    obtain ⟨x, hx, _⟩ := hasI_at hh
    rw [thI_yes hh hx]
    rw [hh] at HC
    have hlt := (List.getElem?_eq_some_iff.1 hx).1
    obtain ⟨k, u⟩ := x
    generalize plcI q ls = P at *
    have hlen := fl_len eI eI ls
    have hfv := fl_val eI eI ls P _ hx
    obtain ⟨b, cap, cur, rfl, hbb, _, hnc, hm, _⟩ := own_some h.row (by omega)
    simp only [maxLen] at hm
    have HFV := Lib.hid hfv
    generalize ls.length = N at *
    clear hc h hid hh hs hx hfv hlen
    go_enter Try.func49, Try.ntmps49
    go_wp2_with fail
    refine HC.out.mono ?_
    rintro e w2 ⟨rfl, hb⟩
    have hx2 := HX.out w2 hb
    have c0 := hx2.cell
    have hl := hx2.lt
    have d1 := own_cell hx2.row (k := P * 2 + 1) (by omega)
    rw [HFV.out] at d1
    have hPI : (P : Int) < (N : Int) := by omega
    simp only [eI] at d1
    clear hx2
    go_wp2_with fail
    go_ret2
    exact ⟨rfl, hb⟩
end Go.Proofs.Ythofimkjemhnoaa