/- emcy: a node's log in memory. -/
import Derived.Test.YtncnlbokipieaaaEc
import Derived.Test.YtncnlbokipieaaaEEqi
import Derived.Maps.OwnSet
import Derived.Deep.CutBlock
namespace Go.Proofs.Ytncnlbokipieaaa
open Go.RowKit Go.Maps
set_option linter.unusedSimpArgs false
set_option linter.unusedVariables false

theorem intK : Keyed Try.prog 3 := int_keyed Try.underlying3
theorem zeroI (w : World) : (zeroValue 3).run Try.prog w = .ok (.int .i64 0) w := by kernel_rfl
abbrev MapAt (w : World) (B N : Nat) (D : DataW Unit) : Prop := w.ownsMap Try.prog 3 (plainElem Try.prog 3) B N D
theorem mapAt_keep {w w' : World} {B N : Nat} {D : DataW Unit} (h : MapAt w B N D) (he : w'.heap[B]? = w.heap[B]?) : MapAt w' B N D := by
  obtain ⟨es, clock, hb, rest⟩ := h
  exact ⟨es, clock, he.trans hb, rest⟩
theorem mapAt_lt {w : World} {B N : Nat} {D : DataW Unit} (h : MapAt w B N D) : B < w.heap.size := by
  obtain ⟨es, clock, hb, rest⟩ := h
  exact (Array.getElem?_eq_some_iff.1 hb).1
/-- The faults: codes with their bits. -/
def fhas (F : List (Int × Int)) (c : Int) : Bool := F.any fun p => p.1 == c
def fbit (F : List (Int × Int)) (c : Int) : Int := match F.find? (fun p => p.1 == c) with | some p => p.2 | none => 0
def cnt (F : List (Int × Int)) (b : Nat) : Int := ((F.filter fun p => p.2 == (b : Int)).length : Int)
def fcut (F : List (Int × Int)) (c : Int) : List (Int × Int) := F.filter fun p => !(p.1 == c)
theorem cnt_nonneg (F : List (Int × Int)) (b : Nat) : 0 ≤ cnt F b ∧ cnt F b ≤ F.length := by
  unfold cnt
  have := List.length_filter_le (fun p : Int × Int => p.2 == (b : Int)) F
  omega
theorem cnt_app (F : List (Int × Int)) (c bt : Int) (b : Nat) : cnt (F ++ [(c, bt)]) b = cnt F b + (if bt = (b : Int) then 1 else 0) := by
  unfold cnt
  rw [List.filter_append, List.length_append]
  by_cases h : bt = (b : Int)
  · simp [h]
  · simp [h]
theorem fhas_app (F : List (Int × Int)) (c bt y : Int) : fhas (F ++ [(c, bt)]) y = (fhas F y || (c == y)) := by simp [fhas]
theorem fbit_app (F : List (Int × Int)) (c bt : Int) (h : fhas F c = false) (y : Int) : fbit (F ++ [(c, bt)]) y = if y = c then bt else fbit F y := by
  unfold fbit
  rw [List.find?_append]
  by_cases e : y = c
  · subst e
    have : F.find? (fun p => p.1 == y) = none := by
      rw [List.find?_eq_none]
      intro p hp
      simp only [fhas, List.any_eq_false] at h
      exact h p hp
    rw [this]; simp
  · rw [if_neg e]
    cases hf : F.find? (fun p => p.1 == y) with
    | some p => simp
    | none => simp [show (c == y) = false by simp; exact fun h => e h.symm]
theorem fhas_cut (F : List (Int × Int)) (c y : Int) : fhas (fcut F c) y = (fhas F y && !(y == c)) := by
  unfold fhas fcut
  induction F with
  | nil => rfl
  | cons p F ih =>
    rw [List.filter_cons]
    by_cases e : p.1 = c
    · rw [if_neg (by simp [e]), ih, List.any_cons]
      by_cases e2 : p.1 = y
      · have h1 : (y == c) = true := by rw [← e2, e]; simp
        rw [h1]; simp
      · have h1 : (p.1 == y) = false := by simpa using e2
        rw [h1]; rfl
    · rw [if_pos (by simp [e]), List.any_cons, ih, List.any_cons]
      by_cases e2 : p.1 = y
      · have h1 : (y == c) = false := by rw [← e2]; simpa using e
        have h2 : (p.1 == y) = true := by simpa using e2
        rw [h1, h2]; simp
      · have h1 : (p.1 == y) = false := by simpa using e2
        rw [h1]; rfl
theorem fbit_cut (F : List (Int × Int)) (c y : Int) (h : ¬ y = c) : fbit (fcut F c) y = fbit F y := by
  unfold fbit fcut
  have : (F.filter fun p => !(p.1 == c)).find? (fun p => p.1 == y) = F.find? (fun p => p.1 == y) := by
    induction F with
    | nil => rfl
    | cons p F ih =>
      rw [List.filter_cons]
      by_cases e : p.1 = c
      · rw [if_neg (by simp [e]), ih, List.find?_cons, show (p.1 == y) = false by simp [e]; exact fun h2 => h h2.symm]
      · rw [if_pos (by simp [e]), List.find?_cons, List.find?_cons, ih]
  rw [this]
/-- No code twice. -/
def Uniq (F : List (Int × Int)) : Prop := (F.map (·.1)).Nodup
theorem fbit_mem {F : List (Int × Int)} {c : Int} (h : fhas F c = true) : (c, fbit F c) ∈ F := by
  unfold fbit
  cases hf : F.find? (fun p => p.1 == c) with
  | some p =>
    have h1 := List.mem_of_find?_eq_some hf
    have h2 := List.find?_some hf
    simp at h2
    obtain ⟨a, b⟩ := p
    simp at h2
    subst h2
    exact h1
  | none =>
    rw [List.find?_eq_none] at hf
    simp only [fhas, List.any_eq_true] at h
    obtain ⟨p, hp, he⟩ := h
    exact absurd he (hf p hp)
theorem fcut_not {F : List (Int × Int)} {c : Int} (h : c ∉ F.map (·.1)) : fcut F c = F := by
  unfold fcut
  rw [List.filter_eq_self]
  intro p hp
  simp
  intro e
  exact h (e ▸ List.mem_map_of_mem (f := (·.1)) hp)
theorem cnt_cut {F : List (Int × Int)} {c : Int} (hu : Uniq F) (h : fhas F c = true) (b : Nat) : cnt (fcut F c) b = cnt F b - (if fbit F c = (b : Int) then 1 else 0) := by
  induction F with
  | nil => simp [fhas] at h
  | cons p F ih =>
    have hu' : p.1 ∉ F.map (·.1) ∧ (F.map (·.1)).Nodup := by
      have := hu
      unfold Uniq at this
      rw [List.map_cons, List.nodup_cons] at this
      exact this
    by_cases e : p.1 = c
    · have hb : fbit (p :: F) c = p.2 := by simp [fbit, e]
      have hc : fcut (p :: F) c = F := by
        have h1 : fcut (p :: F) c = fcut F c := by unfold fcut; rw [List.filter_cons, if_neg (by simp [e])]
        rw [h1]; exact fcut_not (e ▸ hu'.1)
      rw [hb, hc]
      unfold cnt
      rw [List.filter_cons]
      by_cases e2 : p.2 = (b : Int)
      · simp [e2]
      · simp [e2]
    · have hb : fbit (p :: F) c = fbit F c := by simp [fbit, e]
      have hc : fcut (p :: F) c = p :: fcut F c := by unfold fcut; rw [List.filter_cons, if_pos (by simp [e])]
      have hh : fhas F c = true := by simpa [fhas, e] using h
      have := ih hu'.2 hh
      rw [hb, hc]
      unfold cnt at *
      rw [List.filter_cons, List.filter_cons]
      by_cases e2 : p.2 = (b : Int)
      · simp only [e2, beq_self_eq_true, if_true, List.length_cons]; omega
      · simp only [show (p.2 == (b : Int)) = false by simp [e2], Bool.false_eq_true, if_false]; exact this
/-- All blocks but T's are as they were. -/
structure Chgd (T : Nat → Prop) (w w' : World) : Prop where
  os : w'.os = w.os
  tape : w'.tape = w.tape
  output : w'.output = w.output
  size : w.heap.size ≤ w'.heap.size
  block : ∀ k, k < w.heap.size → ¬ T k → w'.heap[k]? = w.heap[k]?
section
variable {T : Nat → Prop} {w w' w2 : World}
theorem Chgd.of_below (h : Below w.heap.size w w') : Chgd T w w' := ⟨h.os, h.tape, h.output, h.size, fun k hk _ => h.block k hk⟩
theorem Chgd.refl (w : World) : Chgd T w w := Chgd.of_below (Below.refl _ _)
theorem Chgd.trans (h : Chgd T w w') (k : Chgd T w' w2) : Chgd T w w2 := ⟨k.os.trans h.os, k.tape.trans h.tape, k.output.trans h.output, Nat.le_trans h.size k.size, fun i hi ht => (k.block i (Nat.lt_of_lt_of_le hi h.size) ht).trans (h.block i hi ht)⟩
theorem Chgd.more {T2 : Nat → Prop} (h : Chgd T w w') (hT : ∀ k, T k → T2 k) : Chgd T2 w w' := ⟨h.os, h.tape, h.output, h.size, fun k hk ht => h.block k hk (fun e => ht (hT k e))⟩
/-- What is new may turn as well. -/
theorem Chgd.after {B : Nat} (h : Chgd T w w') (k : Chgd (fun i => T i ∨ B ≤ i) w' w2) (hB : w.heap.size ≤ B) : Chgd T w w2 := ⟨k.os.trans h.os, k.tape.trans h.tape, k.output.trans h.output, Nat.le_trans h.size k.size, fun i hi ht => (k.block i (Nat.lt_of_lt_of_le hi h.size) (fun e => e.elim ht (fun e => by omega))).trans (h.block i hi ht)⟩
theorem Chgd.grown {r : Option Nat} (h : w.grownBy w' r) (hr : ∀ k, r = some k → T k) : Chgd T w w' := ⟨h.os, h.tape, h.output, h.size, fun k hk ht => h.block k hk (fun e => ht (hr k e.symm))⟩
theorem Chgd.tch {g : Nat} {A : Option Addr} (h : Tch w w' g A) (hg : T g) (hA : ∀ b, blk A = some b → T b) : Chgd T w w' := ⟨h.os, h.tape, h.output, h.size, fun k hk ht => h.block k hk (fun e => ht (e ▸ hg)) (fun e => ht (hA k e))⟩
theorem Chgd.set (w : World) {g : Nat} (hg : T g) (i : Nat) (v : Value) : Chgd T w (w.setCell ⟨g, i, none⟩ v) := by
  have h := (Below.refl 0 w).setCell (p := ⟨g, i, none⟩) (Nat.zero_le _) v
  exact ⟨h.os, h.tape, h.output, h.size, fun k hk ht => Below.heap_setCell w ⟨g, i, none⟩ v k (fun e => ht (by have e' : k = g := e; rw [e']; exact hg))⟩
theorem Chgd.low {B : Nat} (h : Chgd T w w') (hT : ∀ k, T k → B ≤ k) (hB : B ≤ w.heap.size) : Below B w w' := ⟨h.os, h.tape, h.output, h.size, fun k hk => h.block k (by omega) (fun e => by have := hT k e; omega)⟩
end
structure LgI (T : Nat → Prop) (w0 x : World) (g B q N : Nat) (D : DataW Unit) (A : Option Addr) (c : Nat) (lost nd : Int) (F : List (Int × Int)) (hs : List Int) (td : Int) : Prop where
  box : x.heap[g]? = some (.cells #[.int .i64 nd, .map (some B), .int .i64 (cnt F 0), .int .i64 (cnt F 1), .int .i64 (cnt F 2), .int .i64 (cnt F 3), .int .i64 (cnt F 4), .int .i64 (cnt F 5), .int .i64 (cnt F 6), .int .i64 (cnt F 7), .pointer (some ⟨q, 0, none⟩), .int .i64 td] 81 (0, 0))
  map : MapAt x B N D
  tie : ∀ y : Int, (Lit.int .i64 y).wf = true → Maps.has D (.int .i64 y) = fhas F y ∧ (fhas F y = true → D.atKey (.int .i64 y) (.lit (.int .i64 0)) = .lit (.int .i64 (fbit F y)))
  que : Que x w0.heap.size q 8 (ints hs) lost A hs.length c
  los : 0 ≤ lost ∧ lost ≤ 1000000
  ntd : (N : Int) ≤ 1000000
  tds : 0 ≤ td ∧ td ≤ 1000000
  tg : T g
  tB : T B
  tq : T q
  tA : ∀ b, blk A = some b → T b
  low : ∀ k, T k → w0.heap.size ≤ k
  tlt : ∀ k, T k → k < x.heap.size
  uni : Uniq F
  bts : ∀ p ∈ F, 0 ≤ p.2 ∧ p.2 ≤ 7 ∧ 1 ≤ p.1 ∧ p.1 ≤ 65535
  fln : (F.length : Int) ≤ 1000000
  bel : Below w0.heap.size w0 x
section
variable {T : Nat → Prop} {w0 x y : World} {g B q N c : Nat} {D : DataW Unit} {A : Option Addr} {lost nd td : Int} {F : List (Int × Int)} {hs : List Int}
theorem LgI.lt (h : LgI T w0 x g B q N D A c lost nd F hs td) : g < x.heap.size := (Array.getElem?_eq_some_iff.1 h.box).1
theorem LgI.frozen (h : LgI T w0 x g B q N D A c lost nd F hs td) (i : Nat) : x.frozen? ⟨g, i, none⟩ = false := frozen_of_row _ _ _ _ _ h.box
theorem LgI.below (h : LgI T w0 x g B q N D A c lost nd F hs td) (hb : Below x.heap.size x y) : LgI T w0 y g B q N D A c lost nd F hs td :=
  ⟨(hb.block g h.lt).trans h.box, mapAt_keep h.map (hb.block B (mapAt_lt h.map)), h.tie, h.que.below hb, h.los, h.ntd, h.tds, h.tg, h.tB, h.tq, h.tA, h.low, fun k hk => Nat.lt_of_lt_of_le (h.tlt k hk) hb.size, h.uni, h.bts, h.fln, h.bel.trans (hb.mono h.bel.size)⟩
theorem LgI.cells (h : LgI T w0 x g B q N D A c lost nd F hs td) : x.cell? ⟨g, 0, none⟩ = some (.int .i64 nd) ∧ x.cell? ⟨g, 1, none⟩ = some (.map (some B)) ∧ x.cell? ⟨g, 2, none⟩ = some (.int .i64 (cnt F 0)) ∧ x.cell? ⟨g, 3, none⟩ = some (.int .i64 (cnt F 1)) ∧ x.cell? ⟨g, 4, none⟩ = some (.int .i64 (cnt F 2)) ∧ x.cell? ⟨g, 5, none⟩ = some (.int .i64 (cnt F 3)) ∧ x.cell? ⟨g, 6, none⟩ = some (.int .i64 (cnt F 4)) ∧ x.cell? ⟨g, 7, none⟩ = some (.int .i64 (cnt F 5)) ∧ x.cell? ⟨g, 8, none⟩ = some (.int .i64 (cnt F 6)) ∧ x.cell? ⟨g, 9, none⟩ = some (.int .i64 (cnt F 7)) ∧ x.cell? ⟨g, 10, none⟩ = some (.pointer (some ⟨q, 0, none⟩)) ∧ x.cell? ⟨g, 11, none⟩ = some (.int .i64 td) := by
  refine ⟨?_, ?_, ?_, ?_, ?_, ?_, ?_, ?_, ?_, ?_, ?_, ?_⟩ <;> (rw [cell_of_row _ _ _ _ _ _ h.box]; rfl)
end
set_option maxRecDepth 100000 in
theorem has_in (T : Nat → Prop) (w0 w : World) (g B q N c : Nat) (D : DataW Unit) (A : Option Addr) (lost nd td y : Int) (F : List (Int × Int)) (hs : List Int) (h : LgI T w0 w g B q N D A c lost nd F hs td) (hy : (Lit.int .i64 y).wf = true) :
    Calls Try.prog 15 #[.pointer (some ⟨g, 0, none⟩), .int .i64 y] w fun e w' => e = .returned (.bool (fhas F y)) ∧ w = w' := by
  have hkey := keyOf_int_mk Try.underlying3 hy
  have ht := (h.tie y hy).1
  have HM := Lib.hid h.map
  obtain ⟨c0, c1, c2, c3, c4, c5, c6, c7, c8, c9, c10, c11⟩ := h.cells
  clear h hy
  go_enter Try.func15, Try.ntmps15
  go_wp2_with (at_lookup; refine wpList_lookup_own_ok_int _ rfl _ _ 76 rfl 3 3 .i64 intK Try.underlying76 Try.underlying3 (zeroI _) B N D rfl HM.out _ _ rfl hkey ?_; intro cc hat hwc)
  go_ret
  exact ⟨by first | rfl | (rw [ht]; rfl), rfl⟩
theorem has_nil (y : Int) (w : World) : Calls Try.prog 15 #[.pointer none, .int .i64 y] w fun e w' => e = .returned (.bool false) ∧ w = w' := by
  go_enter Try.func15, Try.ntmps15; go_wp2; go_ret; exact ⟨rfl, rfl⟩
/-- The register: the bits of all faults, and the bit 0. -/
def rgN (F : List (Int × Int)) : Nat → Int | 0 => 0 | k + 1 => if 0 < cnt F k then bits .or .u8 (rgN F k) (bits .or .u8 (2 ^ k) 1) else rgN F k
theorem ty_int (h : 3 < Try.prog.types.size) : (Try.prog.types[3]'h).size = 1 := by kernel_rfl
set_option maxRecDepth 100000 in
set_option maxHeartbeats 4000000 in
theorem reg_in (T : Nat → Prop) (w0 w : World) (g B q N c : Nat) (D : DataW Unit) (A : Option Addr) (lost nd td : Int) (F : List (Int × Int)) (hs : List Int) (h : LgI T w0 w g B q N D A c lost nd F hs td) :
    Calls Try.prog 16 #[.pointer (some ⟨g, 0, none⟩)] w fun e w' => e = .returned (.int .u8 (rgN F 8)) ∧ w = w' := by
  obtain ⟨c0, c1, c2, c3, c4, c5, c6, c7, c8, c9, c10, c11⟩ := h.cells
  have hr : ∀ k, rgN F (k + 1) = if 0 < cnt F k then bits .or .u8 (rgN F k) (bits .or .u8 (2 ^ k) 1) else rgN F k := fun k => rfl
  have HR := Lib.hid hr
  have H0 := Lib.hid (show rgN F 0 = 0 from rfl)
  have hts : ∀ h, (Try.prog.types[3]'h).size = 1 := ty_int
  clear h hr
  
  go_enter Try.func16, Try.ntmps16
  go_wp2_with fail
  go_loopw [3, 12] (fun r i wr => wr = w ∧ ∃ (z : Nat) (zi : Int), z ≤ 8 ∧ r = .int .u8 (rgN F z) ∧ i = .int .i64 zi ∧ zi = (z : Int)) (fun _ i _ => 8 - (intOf i).toNat)
  case atStart => exact ⟨rfl, 0, 0, by omega, by rw [H0.out], rfl, rfl⟩
  case round =>
    obtain ⟨rfl, z, zi, hz, rfl, rfl, hzi⟩ := hrel
    have hz' : (z = 0 ∧ zi = 0) ∨ (z = 1 ∧ zi = 1) ∨ (z = 2 ∧ zi = 2) ∨ (z = 3 ∧ zi = 3) ∨ (z = 4 ∧ zi = 4) ∨ (z = 5 ∧ zi = 5) ∨ (z = 6 ∧ zi = 6) ∨ (z = 7 ∧ zi = 7) ∨ (z = 8 ∧ zi = 8) := by omega
    clear hz hzi
    rcases hz' with ⟨rfl, rfl⟩ | ⟨rfl, rfl⟩ | ⟨rfl, rfl⟩ | ⟨rfl, rfl⟩ | ⟨rfl, rfl⟩ | ⟨rfl, rfl⟩ | ⟨rfl, rfl⟩ | ⟨rfl, rfl⟩ | ⟨rfl, rfl⟩
    · by_cases hc : 0 < cnt F 0
      · have HE := Lib.hid (HR.out 0)
        rw [if_pos hc] at HE
        go_wp2_with fail
        rename_i K hK
        refine hK _ _ ?_
        generalize hV : (getElem (coll := Array Value) (#[.int .i64 (cnt F 0), .int .i64 (cnt F 1), .int .i64 (cnt F 2), .int .i64 (cnt F 3), .int .i64 (cnt F 4), .int .i64 (cnt F 5), .int .i64 (cnt F 6), .int .i64 (cnt F 7)] : Array Value) (Int.toNat 0 * _) _ : Value) = V
        obtain rfl : V = .int .i64 (cnt F 0) := hV.symm.trans rfl
        clear hV
        go_simp
        go_wp2_with fail
        go_roundw
        case rel => exact ⟨by first | trivial | rfl, 1, 1, by omega, by rw [HE.out]; rfl, by go_num, rfl⟩
        case measure => simp [intOf]
      · have HE := Lib.hid (HR.out 0)
        rw [if_neg hc] at HE
        go_wp2_with fail
        rename_i K hK
        refine hK _ _ ?_
        generalize hV : (getElem (coll := Array Value) (#[.int .i64 (cnt F 0), .int .i64 (cnt F 1), .int .i64 (cnt F 2), .int .i64 (cnt F 3), .int .i64 (cnt F 4), .int .i64 (cnt F 5), .int .i64 (cnt F 6), .int .i64 (cnt F 7)] : Array Value) (Int.toNat 0 * _) _ : Value) = V
        obtain rfl : V = .int .i64 (cnt F 0) := hV.symm.trans rfl
        clear hV
        go_simp
        go_wp2_with fail
        go_roundw
        case rel => exact ⟨by first | trivial | rfl, 1, 1, by omega, by rw [HE.out], by go_num, rfl⟩
        case measure => simp [intOf]
    · by_cases hc : 0 < cnt F 1
      · have HE := Lib.hid (HR.out 1)
        rw [if_pos hc] at HE
        go_wp2_with fail
        rename_i K hK
        refine hK _ _ ?_
        generalize hV : (getElem (coll := Array Value) (#[.int .i64 (cnt F 0), .int .i64 (cnt F 1), .int .i64 (cnt F 2), .int .i64 (cnt F 3), .int .i64 (cnt F 4), .int .i64 (cnt F 5), .int .i64 (cnt F 6), .int .i64 (cnt F 7)] : Array Value) (Int.toNat 1 * _) _ : Value) = V
        obtain rfl : V = .int .i64 (cnt F 1) := hV.symm.trans rfl
        clear hV
        go_simp
        go_wp2_with fail
        go_roundw
        case rel => exact ⟨by first | trivial | rfl, 2, 2, by omega, by rw [HE.out]; rfl, by go_num, rfl⟩
        case measure => simp [intOf]
      · have HE := Lib.hid (HR.out 1)
        rw [if_neg hc] at HE
        go_wp2_with fail
        rename_i K hK
        refine hK _ _ ?_
        generalize hV : (getElem (coll := Array Value) (#[.int .i64 (cnt F 0), .int .i64 (cnt F 1), .int .i64 (cnt F 2), .int .i64 (cnt F 3), .int .i64 (cnt F 4), .int .i64 (cnt F 5), .int .i64 (cnt F 6), .int .i64 (cnt F 7)] : Array Value) (Int.toNat 1 * _) _ : Value) = V
        obtain rfl : V = .int .i64 (cnt F 1) := hV.symm.trans rfl
        clear hV
        go_simp
        go_wp2_with fail
        go_roundw
        case rel => exact ⟨by first | trivial | rfl, 2, 2, by omega, by rw [HE.out], by go_num, rfl⟩
        case measure => simp [intOf]
    · by_cases hc : 0 < cnt F 2
      · have HE := Lib.hid (HR.out 2)
        rw [if_pos hc] at HE
        go_wp2_with fail
        rename_i K hK
        refine hK _ _ ?_
        generalize hV : (getElem (coll := Array Value) (#[.int .i64 (cnt F 0), .int .i64 (cnt F 1), .int .i64 (cnt F 2), .int .i64 (cnt F 3), .int .i64 (cnt F 4), .int .i64 (cnt F 5), .int .i64 (cnt F 6), .int .i64 (cnt F 7)] : Array Value) (Int.toNat 2 * _) _ : Value) = V
        obtain rfl : V = .int .i64 (cnt F 2) := hV.symm.trans rfl
        clear hV
        go_simp
        go_wp2_with fail
        go_roundw
        case rel => exact ⟨by first | trivial | rfl, 3, 3, by omega, by rw [HE.out]; rfl, by go_num, rfl⟩
        case measure => simp [intOf]
      · have HE := Lib.hid (HR.out 2)
        rw [if_neg hc] at HE
        go_wp2_with fail
        rename_i K hK
        refine hK _ _ ?_
        generalize hV : (getElem (coll := Array Value) (#[.int .i64 (cnt F 0), .int .i64 (cnt F 1), .int .i64 (cnt F 2), .int .i64 (cnt F 3), .int .i64 (cnt F 4), .int .i64 (cnt F 5), .int .i64 (cnt F 6), .int .i64 (cnt F 7)] : Array Value) (Int.toNat 2 * _) _ : Value) = V
        obtain rfl : V = .int .i64 (cnt F 2) := hV.symm.trans rfl
        clear hV
        go_simp
        go_wp2_with fail
        go_roundw
        case rel => exact ⟨by first | trivial | rfl, 3, 3, by omega, by rw [HE.out], by go_num, rfl⟩
        case measure => simp [intOf]
    · by_cases hc : 0 < cnt F 3
      · have HE := Lib.hid (HR.out 3)
        rw [if_pos hc] at HE
        go_wp2_with fail
        rename_i K hK
        refine hK _ _ ?_
        generalize hV : (getElem (coll := Array Value) (#[.int .i64 (cnt F 0), .int .i64 (cnt F 1), .int .i64 (cnt F 2), .int .i64 (cnt F 3), .int .i64 (cnt F 4), .int .i64 (cnt F 5), .int .i64 (cnt F 6), .int .i64 (cnt F 7)] : Array Value) (Int.toNat 3 * _) _ : Value) = V
        obtain rfl : V = .int .i64 (cnt F 3) := hV.symm.trans rfl
        clear hV
        go_simp
        go_wp2_with fail
        go_roundw
        case rel => exact ⟨by first | trivial | rfl, 4, 4, by omega, by rw [HE.out]; rfl, by go_num, rfl⟩
        case measure => simp [intOf]
      · have HE := Lib.hid (HR.out 3)
        rw [if_neg hc] at HE
        go_wp2_with fail
        rename_i K hK
        refine hK _ _ ?_
        generalize hV : (getElem (coll := Array Value) (#[.int .i64 (cnt F 0), .int .i64 (cnt F 1), .int .i64 (cnt F 2), .int .i64 (cnt F 3), .int .i64 (cnt F 4), .int .i64 (cnt F 5), .int .i64 (cnt F 6), .int .i64 (cnt F 7)] : Array Value) (Int.toNat 3 * _) _ : Value) = V
        obtain rfl : V = .int .i64 (cnt F 3) := hV.symm.trans rfl
        clear hV
        go_simp
        go_wp2_with fail
        go_roundw
        case rel => exact ⟨by first | trivial | rfl, 4, 4, by omega, by rw [HE.out], by go_num, rfl⟩
        case measure => simp [intOf]
    · by_cases hc : 0 < cnt F 4
      · have HE := Lib.hid (HR.out 4)
        rw [if_pos hc] at HE
        go_wp2_with fail
        rename_i K hK
        refine hK _ _ ?_
        generalize hV : (getElem (coll := Array Value) (#[.int .i64 (cnt F 0), .int .i64 (cnt F 1), .int .i64 (cnt F 2), .int .i64 (cnt F 3), .int .i64 (cnt F 4), .int .i64 (cnt F 5), .int .i64 (cnt F 6), .int .i64 (cnt F 7)] : Array Value) (Int.toNat 4 * _) _ : Value) = V
        obtain rfl : V = .int .i64 (cnt F 4) := hV.symm.trans rfl
        clear hV
        go_simp
        go_wp2_with fail
        go_roundw
        case rel => exact ⟨by first | trivial | rfl, 5, 5, by omega, by rw [HE.out]; rfl, by go_num, rfl⟩
        case measure => simp [intOf]
      · have HE := Lib.hid (HR.out 4)
        rw [if_neg hc] at HE
        go_wp2_with fail
        rename_i K hK
        refine hK _ _ ?_
        generalize hV : (getElem (coll := Array Value) (#[.int .i64 (cnt F 0), .int .i64 (cnt F 1), .int .i64 (cnt F 2), .int .i64 (cnt F 3), .int .i64 (cnt F 4), .int .i64 (cnt F 5), .int .i64 (cnt F 6), .int .i64 (cnt F 7)] : Array Value) (Int.toNat 4 * _) _ : Value) = V
        obtain rfl : V = .int .i64 (cnt F 4) := hV.symm.trans rfl
        clear hV
        go_simp
        go_wp2_with fail
        go_roundw
        case rel => exact ⟨by first | trivial | rfl, 5, 5, by omega, by rw [HE.out], by go_num, rfl⟩
        case measure => simp [intOf]
    · by_cases hc : 0 < cnt F 5
      · have HE := Lib.hid (HR.out 5)
        rw [if_pos hc] at HE
        go_wp2_with fail
        rename_i K hK
        refine hK _ _ ?_
        generalize hV : (getElem (coll := Array Value) (#[.int .i64 (cnt F 0), .int .i64 (cnt F 1), .int .i64 (cnt F 2), .int .i64 (cnt F 3), .int .i64 (cnt F 4), .int .i64 (cnt F 5), .int .i64 (cnt F 6), .int .i64 (cnt F 7)] : Array Value) (Int.toNat 5 * _) _ : Value) = V
        obtain rfl : V = .int .i64 (cnt F 5) := hV.symm.trans rfl
        clear hV
        go_simp
        go_wp2_with fail
        go_roundw
        case rel => exact ⟨by first | trivial | rfl, 6, 6, by omega, by rw [HE.out]; rfl, by go_num, rfl⟩
        case measure => simp [intOf]
      · have HE := Lib.hid (HR.out 5)
        rw [if_neg hc] at HE
        go_wp2_with fail
        rename_i K hK
        refine hK _ _ ?_
        generalize hV : (getElem (coll := Array Value) (#[.int .i64 (cnt F 0), .int .i64 (cnt F 1), .int .i64 (cnt F 2), .int .i64 (cnt F 3), .int .i64 (cnt F 4), .int .i64 (cnt F 5), .int .i64 (cnt F 6), .int .i64 (cnt F 7)] : Array Value) (Int.toNat 5 * _) _ : Value) = V
        obtain rfl : V = .int .i64 (cnt F 5) := hV.symm.trans rfl
        clear hV
        go_simp
        go_wp2_with fail
        go_roundw
        case rel => exact ⟨by first | trivial | rfl, 6, 6, by omega, by rw [HE.out], by go_num, rfl⟩
        case measure => simp [intOf]
    · by_cases hc : 0 < cnt F 6
      · have HE := Lib.hid (HR.out 6)
        rw [if_pos hc] at HE
        go_wp2_with fail
        rename_i K hK
        refine hK _ _ ?_
        generalize hV : (getElem (coll := Array Value) (#[.int .i64 (cnt F 0), .int .i64 (cnt F 1), .int .i64 (cnt F 2), .int .i64 (cnt F 3), .int .i64 (cnt F 4), .int .i64 (cnt F 5), .int .i64 (cnt F 6), .int .i64 (cnt F 7)] : Array Value) (Int.toNat 6 * _) _ : Value) = V
        obtain rfl : V = .int .i64 (cnt F 6) := hV.symm.trans rfl
        clear hV
        go_simp
        go_wp2_with fail
        go_roundw
        case rel => exact ⟨by first | trivial | rfl, 7, 7, by omega, by rw [HE.out]; rfl, by go_num, rfl⟩
        case measure => simp [intOf]
      · have HE := Lib.hid (HR.out 6)
        rw [if_neg hc] at HE
        go_wp2_with fail
        rename_i K hK
        refine hK _ _ ?_
        generalize hV : (getElem (coll := Array Value) (#[.int .i64 (cnt F 0), .int .i64 (cnt F 1), .int .i64 (cnt F 2), .int .i64 (cnt F 3), .int .i64 (cnt F 4), .int .i64 (cnt F 5), .int .i64 (cnt F 6), .int .i64 (cnt F 7)] : Array Value) (Int.toNat 6 * _) _ : Value) = V
        obtain rfl : V = .int .i64 (cnt F 6) := hV.symm.trans rfl
        clear hV
        go_simp
        go_wp2_with fail
        go_roundw
        case rel => exact ⟨by first | trivial | rfl, 7, 7, by omega, by rw [HE.out], by go_num, rfl⟩
        case measure => simp [intOf]
    · by_cases hc : 0 < cnt F 7
      · have HE := Lib.hid (HR.out 7)
        rw [if_pos hc] at HE
        go_wp2_with fail
        rename_i K hK
        refine hK _ _ ?_
        generalize hV : (getElem (coll := Array Value) (#[.int .i64 (cnt F 0), .int .i64 (cnt F 1), .int .i64 (cnt F 2), .int .i64 (cnt F 3), .int .i64 (cnt F 4), .int .i64 (cnt F 5), .int .i64 (cnt F 6), .int .i64 (cnt F 7)] : Array Value) (Int.toNat 7 * _) _ : Value) = V
        obtain rfl : V = .int .i64 (cnt F 7) := hV.symm.trans rfl
        clear hV
        go_simp
        go_wp2_with fail
        go_roundw
        case rel => exact ⟨by first | trivial | rfl, 8, 8, by omega, by rw [HE.out]; rfl, by go_num, rfl⟩
        case measure => simp [intOf]
      · have HE := Lib.hid (HR.out 7)
        rw [if_neg hc] at HE
        go_wp2_with fail
        rename_i K hK
        refine hK _ _ ?_
        generalize hV : (getElem (coll := Array Value) (#[.int .i64 (cnt F 0), .int .i64 (cnt F 1), .int .i64 (cnt F 2), .int .i64 (cnt F 3), .int .i64 (cnt F 4), .int .i64 (cnt F 5), .int .i64 (cnt F 6), .int .i64 (cnt F 7)] : Array Value) (Int.toNat 7 * _) _ : Value) = V
        obtain rfl : V = .int .i64 (cnt F 7) := hV.symm.trans rfl
        clear hV
        go_simp
        go_wp2_with fail
        go_roundw
        case rel => exact ⟨by first | trivial | rfl, 8, 8, by omega, by rw [HE.out], by go_num, rfl⟩
        case measure => simp [intOf]
    · go_wp2_with fail
      go_ret
      exact ⟨rfl, rfl⟩
end Go.Proofs.Ytncnlbokipieaaa
