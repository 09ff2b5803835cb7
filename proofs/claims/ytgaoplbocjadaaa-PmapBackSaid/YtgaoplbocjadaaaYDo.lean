/- What the function that Subs hands back does. -/
import Derived.Test.YtgaoplbocjadaaaYDk
import Derived.Lib.ConvBytes
import Derived.Lib.SmallJoins
namespace Go.Proofs.Ytgaoplbocjadaaa
open Go.RowKit Go.Shelf
attribute [local go_sem] Oper.semAt_some
set_option linter.unusedSimpArgs false
set_option linter.unusedVariables false
theorem wp_nopanic {P : Program} {c : Code} {next : Act → World → Prop} {Q : Exit → Act → World → Prop} {a : Act} {w : World} (h : c.wp P (Exit.then next (fun _ _ _ => False)) a w) : c.wp P (Exit.then next Q) a w :=
  wp_mono h (fun e a w hh => by cases e with | normal => exact hh | _ => exact absurd hh id)
def subI (x : Int × Ent) : Int := bN x.1
/-- The rows of one Index, from a place on. -/
def inIx (idx : Int) (x : Int × Ent) : Bool := decide (aN x.1 = idx)
def rowsX (idx : Int) (T : List (Int × Ent)) : List (Int × Ent) := (T.drop (plcI (numI idx 0) T)).takeWhile (inIx idx)
def subsL (idx : Int) (T : List (Int × Ent)) : List Int := (rowsX idx T).map subI
theorem tw_all {p : Int × Ent → Bool} : ∀ {T : List (Int × Ent)}, (∀ x ∈ T, p x = true) → T.takeWhile p = T
  | [], _ => rfl
  | x :: T, h => by rw [List.takeWhile_cons, if_pos (h x (by simp)), tw_all fun y hy => h y (by simp [hy])]
theorem tw_stop {p : Int × Ent → Bool} : ∀ {q r : List (Int × Ent)} {x : Int × Ent}, (∀ y ∈ q, p y = true) → p x = false → (q ++ x :: r).takeWhile p = q
  | [], r, x, _, hx => by simp [hx]
  | y :: q, r, x, h, hx => by rw [List.cons_append, List.takeWhile_cons, if_pos (h y (by simp)), tw_stop (fun z hz => h z (by simp [hz])) hx]
theorem tw_pre {p : Int × Ent → Bool} : ∀ {q T : List (Int × Ent)}, q <+: T → (∀ y ∈ q, p y = true) → q <+: T.takeWhile p
  | [], _, _, _ => List.nil_prefix
  | y :: q, [], h, _ => by obtain ⟨r, hr⟩ := h; cases hr
  | y :: q, z :: T, h, hq => by
    obtain ⟨rfl, h2⟩ := List.cons_prefix_cons.1 h
    rw [List.takeWhile_cons, if_pos (hq y (by simp))]
    exact List.cons_prefix_cons.2 ⟨rfl, tw_pre h2 fun z hz => hq z (by simp [hz])⟩
def encS (y : Int) : Array Value := #[.int .i64 y]
def SubI (J : List Int → World → Prop) (l Y V kb : Nat) (idx : Int) (tb : World → Option Nat) (pre : List (Int × Ent)) (X : World) : Prop :=
  J (pre.map subI) X ∧ (∀ x ∈ pre, inIx idx x = true) ∧ X.heap[Y]? = some (.cells #[.func (.yield l) #[] #[]] 196 (0, 0)) ∧ X.heap[kb]? = some (.cells #[.int .i64 idx] 3 (0, 0)) ∧ tb X ≠ some Y ∧ tb X ≠ some kb ∧ V ≤ X.heap.size
def SubX (J Jx : List Int → World → Prop) (idx : Int) (c : Code) (pre : List (Int × Ent)) (X : World) : Prop :=
  c = .ret ∧ ((∃ q x, pre = q ++ [x] ∧ (∀ y ∈ q, inIx idx y = true) ∧ inIx idx x = false ∧ J (q.map subI) X) ∨ ((∀ y ∈ pre, inIx idx y = true) ∧ Jx (pre.map subI) X))
theorem part_drop {T : List (Int × Ent)} {at_ : Nat} (h : at_ ≤ T.length) : T.length - at_ = (T.drop at_).length ∧ ((fe T).drop (at_ * 6)).take ((T.length - at_) * 6) = fe (T.drop at_) := by
  refine ⟨by simp, ?_⟩
  rw [fe_drop, List.take_of_length_le (by rw [fe_len]; simp)]
end Go.Proofs.Ytgaoplbocjadaaa
namespace Go.Proofs.Ytgaoplbocjadaaa
open Go.RowKit Go.Shelf
attribute [local go_sem] Oper.semAt_some
set_option linter.unusedSimpArgs false
set_option linter.unusedVariables false
def AbAt (w : World) (g : Nat) (a : Int) : Prop := w.heap[g]? = some (.cells #[.int .i64 a] 63 (0, 0))
theorem AbAt.below {w w' : World} {g : Nat} {a : Int} (h : AbAt w g a) (hb : Below w.heap.size w w') : AbAt w' g a := (hb.block g (Array.getElem?_eq_some_iff.1 h).1).trans h
theorem AbAt.cell {w : World} {g : Nat} {a : Int} (h : AbAt w g a) : w.cell? ⟨g, 0, none⟩ = some (.int .i64 a) := by rw [cell_of_row _ _ _ _ _ _ h]; rfl
theorem loc_none : Loc 0 (fun _ => none) := fun _ _ _ => rfl
theorem heap_other (W : World) (a : Addr) (v : Value) (k : Nat) (h : ¬ k = a.block) : (W.setCell a v).heap[k]? = W.heap[k]? := Below.heap_setCell W a v k h
theorem results_row_cell {P : Program} {fn : Func} {p u : Tmp} {ty ty2 : TypeId} (h : fn.results = #[.cell p ty, .cell u ty2]) (tmps : Array Value) (w : World) (g g2 : Nat) (t : TypeId) (cs : Array Value) (fr : Nat × Nat) (d : TypeDesc) (x : Value)
    (hp : tmps.getD p undef = .pointer (some ⟨g, 0, none⟩)) (hg : w.heap[g]? = some (.cells cs t fr))
    (hu : P.underlying ty = some d) (hd : (match d with | .struct _ | .array _ _ => true | _ => false) = true) (hi : (P.info? ty).map (·.size) = some cs.size)
    (hp2 : tmps.getD u undef = .pointer (some ⟨g2, 0, none⟩)) (hl : (loadVar ty2 ⟨g2, 0, none⟩).run P w = .ok x w) :
    (results fn tmps).run P w = .ok (.tuple #[.agg cs, x]) w := by
  have hp' := hp
  have hp2' := hp2
  simp only [Array.getD_eq_getD_getElem?] at hp' hp2'
  simp [results, h, hp', hp2', asAddr, run_loadVar_row w g t ty cs fr d hg hu hd hi, hl]
theorem load_abort (w : World) (g : Nat) (a : Int) (h : AbAt w g a) : (loadVar 63 ⟨g, 0, none⟩).run Try.prog w = .ok (.int .i64 a) w := by
  have hc := h.cell
  simp [go_sem, hc]
theorem fi_set {B g : Nat} {w0 X : World} {k a lo hi k' a' lo' hi' c c' : Int} {S S' : ByteArray} (hz : EntAt X g k a lo hi S) (ha : AbAt X (g + 1) c) (hb : Below B w0 X) (hg : B ≤ g) :
    EntAt ((((((X.setCell ⟨g, 0, none⟩ (.int .i64 k')).setCell ⟨g, 1, none⟩ (.int .i64 a')).setCell ⟨g, 2, none⟩ (.int .i64 lo')).setCell ⟨g, 3, none⟩ (.int .i64 hi')).setCell ⟨g, 4, none⟩ (.string S')).setCell ⟨g + 1, 0, none⟩ (.int .i64 c')) g k' a' lo' hi' S' ∧ AbAt ((((((X.setCell ⟨g, 0, none⟩ (.int .i64 k')).setCell ⟨g, 1, none⟩ (.int .i64 a')).setCell ⟨g, 2, none⟩ (.int .i64 lo')).setCell ⟨g, 3, none⟩ (.int .i64 hi')).setCell ⟨g, 4, none⟩ (.string S')).setCell ⟨g + 1, 0, none⟩ (.int .i64 c')) (g + 1) c' ∧ Below B w0 ((((((X.setCell ⟨g, 0, none⟩ (.int .i64 k')).setCell ⟨g, 1, none⟩ (.int .i64 a')).setCell ⟨g, 2, none⟩ (.int .i64 lo')).setCell ⟨g, 3, none⟩ (.int .i64 hi')).setCell ⟨g, 4, none⟩ (.string S')).setCell ⟨g + 1, 0, none⟩ (.int .i64 c')) := by
  have h5 : (((((X.setCell ⟨g, 0, none⟩ (.int .i64 k')).setCell ⟨g, 1, none⟩ (.int .i64 a')).setCell ⟨g, 2, none⟩ (.int .i64 lo')).setCell ⟨g, 3, none⟩ (.int .i64 hi')).setCell ⟨g, 4, none⟩ (.string S')).heap[g + 1]? = X.heap[g + 1]? := by
    rw [heap_other _ _ _ _ (by simp), heap_other _ _ _ _ (by simp), heap_other _ _ _ _ (by simp), heap_other _ _ _ _ (by simp), heap_other _ _ _ _ (by simp)]
  refine ⟨(heap_other _ _ _ _ (by simp)).trans hz.five, one_set (h5.trans ha) _, ?_⟩
  exact (five_below hb hg).setCell (p := ⟨g + 1, 0, none⟩) (by show B ≤ g + 1; omega) _
def findE (i j : Int) (T : List (Int × Ent)) : Int := if hasI (numI i j) T = true then 0 else if subsL i T = [] then 100794368 else 101253137
/-- What a round of find's loop finds, and leaves. -/
def FiB (w : World) (X : World) (a : Int) : Prop := EntAt X (w.heap.size + 1) 0 0 0 0 ⟨#[]⟩ ∧ AbAt X (w.heap.size + 2) a ∧ Below w.heap.size w X
def FiI (w : World) (pre : List Int) (X : World) : Prop := pre = [] ∧ FiB w X 0
def FiX (w : World) (c : Code) (pre : List Int) (X : World) : Prop := c = .ret ∧ pre.length = 1 ∧ FiB w X 101253137
theorem FiB_own (w : World) (Bn : Nat) (h : w.heap.size + 2 < Bn) (a : Int) : OwnFrom Bn (fun (_ : Unit) X => FiB w X a) := fun s X Y row ⟨h1, h2, h3⟩ hg hr =>
  ⟨own_heap (β := Unit) (w.heap.size + 1) Bn _ (by omega) () X Y row h1 hg hr, own_heap (β := Unit) (w.heap.size + 2) Bn _ (by omega) () X Y row h2 hg hr, h3.grown hg h3.size (fun k e => by have := (hr k e).1; omega)⟩
def FindP (w : World) (T : List (Int × Ent)) (i j : Int) (e : Ending) (w' : World) : Prop := e = .returned (.tuple #[entV (thI e0 (numI i j) T), .int .i64 (findE i j T)]) ∧ Below w.heap.size w w'
end Go.Proofs.Ytgaoplbocjadaaa
namespace Go.Proofs.Ytgaoplbocjadaaa
open Go.RowKit
set_option linter.unusedSimpArgs false
set_option linter.unusedVariables false
/-- The bytes of a text, made a slice. -/
theorem to_bytes (w : World) (l : List Int) (hr : ∀ x ∈ l, 0 ≤ x ∧ x ≤ 255) (hl : l.length ≤ 64) :
    ∃ c w', (convert 9 58 (.string (strOfNums l))).run Try.prog w = .ok (.slice (some ⟨w.heap.size, 0, none⟩) l.length c) w' ∧ Byt w' w'.heap.size (some ⟨w.heap.size, 0, none⟩) l.length c l ∧ Below w.heap.size w w' := by
  have hz : (strOfNums l).size = l.length := by simp [strOfNums, ByteArray.size]
  have hrun := Lib.run_convert_string_bytes (P := Try.prog) w 9 58 5 (strOfNums l) Try.underlying9 Try.underlying58 Try.underlying5
  rw [hz] at hrun
  refine ⟨_, _, hrun, ⟨rfl, grownCap_ge _ _ _ _, grownCap_le_maxLen _ _ _ _ (by simp only [maxLen]; omega), hr, fun hn => ⟨_, 0, rfl, by rw [Lib.bytesWorld_size]; omega, fun j hj => ?_⟩⟩, Joins.below_bytesWorld _ _ _ _ (Nat.le_refl _)⟩
  rw [Nat.zero_add, Lib.bytesWorld_cell _ _ _ _ (by omega)]
  have hb := hr _ (List.getElem_mem hj)
  rw [strOfNums_data, List.getD_eq_getElem?_getD, List.getD_eq_getElem?_getD, List.getElem?_map, List.getElem?_eq_getElem hj]
  simp only [Option.map_some, Option.getD_some]
  have e : (((UInt8.ofNat (l[j]).toNat).toNat : Nat) : Int) = l[j] := by rw [UInt8.toNat_ofNat']; omega
  rw [e]
def rdE (x : Ent) (q : Int) : Int := if q = 0 then readsI x.a else q
def ReadP (w : World) (E : Ent) (q : Int) (e : Ending) (w' : World) : Prop := ∃ A n c L, e = .returned (.tuple #[.slice A n c, .int .i64 (rdE E q)]) ∧ Byt w' w'.heap.size A n c L ∧ L = (if rdE E q = 0 then E.b else []) ∧ Below w.heap.size w w'
theorem readp_bad {w w' : World} {E : Ent} {q r : Int} (hr : rdE E q = r) (h0 : ¬ r = 0) (hb : Below w.heap.size w w') : ReadP w E q (.returned (.tuple #[.slice none 0 0, .int .i64 r])) w' := by
  refine ⟨none, 0, 0, [], by rw [hr], Byt.nil_ _ _, by rw [hr, if_neg h0], hb⟩
def wrE (x : Ent) (q : Int) (l : List Int) : Int := if q = 0 then (if writesI x.a = 0 then fitsA x.k x.a x.lo x.hi l else writesI x.a) else q
end Go.Proofs.Ytgaoplbocjadaaa
namespace Go.Proofs.Ytgaoplbocjadaaa
open Go.RowKit Go.Shelf
attribute [local go_sem] Oper.semAt_some
set_option linter.unusedSimpArgs false
set_option linter.unusedVariables false
theorem len_nil (w : World) : Calls Try.prog 48 #[.pointer none] w fun e w' => e = .returned (.int .i64 0) ∧ w = w' := by
  go_enter Try.func48, Try.ntmps48
  go_wp2_with fail
  go_ret
  exact ⟨rfl, rfl⟩
theorem add_nil (w : World) (i j k a lo hi : Int) (A : Option Addr) (n c : Nat) : Calls Try.prog 41 #[.pointer none, .agg #[.int .i64 i, .int .i64 j], .agg #[.int .i64 k, .int .i64 a, .int .i64 lo, .int .i64 hi], .slice A n c] w fun e w' => e = .returned (.int .i64 1) ∧ Below w.heap.size w w' := by
  have hb0 : Below w.heap.size w ((w.alloc (.cells #[.int .i64 i, .int .i64 j] 24)).alloc (.cells #[.int .i64 k, .int .i64 a, .int .i64 lo, .int .i64 hi] 75)) := ((Below.refl _ _).alloc (Nat.le_refl _) _).alloc (by simp) _
  have HB0 := Lib.hid hb0
  clear hb0
  go_enter Try.func41, Try.ntmps41
  go_wp2_with fail
  go_ret
  exact ⟨rfl, HB0.out⟩
theorem get_nil (w : World) (i j : Int) :
    Calls Try.prog 76 #[.pointer none, .agg #[.int .i64 i, .int .i64 j]] w fun e w' => e = .returned (.tuple #[entV e0, .bool false]) ∧ Below w.heap.size w w' := by
  have hb0 : Below w.heap.size w ((w.alloc (.cells #[.int .i64 i, .int .i64 j] 24)).alloc (.cells #[.int .i64 0, .int .i64 0, .int .i64 0, .int .i64 0, .string ⟨#[]⟩] 132)) := ((Below.refl _ _).alloc (Nat.le_refl _) _).alloc (by simp) _
  have hz0 : EntAt ((w.alloc (.cells #[.int .i64 i, .int .i64 j] 24)).alloc (.cells #[.int .i64 0, .int .i64 0, .int .i64 0, .int .i64 0, .string ⟨#[]⟩] 132)) (w.heap.size + 1) 0 0 0 0 ⟨#[]⟩ := heap_alloc2_new w _ _
  have HB0 := Lib.hid hb0
  have HZ0 := Lib.hid hz0
  clear hb0 hz0
  dsimp only [entV, e0]
  rw [str0]
  go_enter Try.func76, Try.ntmps76
  go_wp2_with (refine wpList_store_row rfl _ (.tmp 4) (.tmp 8) rfl (w.heap.size + 1) _ rfl rfl _ _ HZ0.out info_ent rfl (one_ent _ _ _ _ _) ?_)
  exact bodyPost_ret (results_cell_tmp_row rfl _ _ (w.heap.size + 1) _ _ _ _ rfl (setRow_heap _ _ _ _ _ (0, 0) HZ0.out) Try.underlying132 rfl info_ent) rfl ⟨rfl, below_setRow HB0.out (by omega) _⟩
theorem own_nilD (w : World) (i j : Int) :
    Calls Try.prog 77 #[.pointer none, .agg #[.int .i64 i, .int .i64 j]] w fun e w' => e = .returned (.tuple #[entV e0, .int .i64 1]) ∧ Below w.heap.size w w' := by
  have hb0 : Below w.heap.size w ((w.alloc (.cells #[.int .i64 i, .int .i64 j] 24)).alloc (.cells #[.int .i64 0, .int .i64 0, .int .i64 0, .int .i64 0, .string ⟨#[]⟩] 132)) := ((Below.refl _ _).alloc (Nat.le_refl _) _).alloc (by simp) _
  have hz0 : EntAt ((w.alloc (.cells #[.int .i64 i, .int .i64 j] 24)).alloc (.cells #[.int .i64 0, .int .i64 0, .int .i64 0, .int .i64 0, .string ⟨#[]⟩] 132)) (w.heap.size + 1) 0 0 0 0 ⟨#[]⟩ := heap_alloc2_new w _ _
  have HB0 := Lib.hid hb0
  have HZ0 := Lib.hid hz0
  clear hb0 hz0
  dsimp only [entV, e0]
  rw [str0]
  go_enter Try.func77, Try.ntmps77
  go_wp2_with (refine wpList_store_row rfl _ (.tmp 4) (.tmp 10) rfl (w.heap.size + 1) _ rfl rfl _ _ HZ0.out info_ent rfl (one_ent _ _ _ _ _) ?_)
  exact bodyPost_ret (results_cell_tmp_row rfl _ _ (w.heap.size + 1) _ _ _ _ rfl (setRow_heap _ _ _ _ _ (0, 0) HZ0.out) Try.underlying132 rfl info_ent) rfl ⟨rfl, below_setRow HB0.out (by omega) _⟩
theorem put_nilD (w : World) (i j : Int) (A : Option Addr) (n c : Nat) :
    Calls Try.prog 67 #[.pointer none, .agg #[.int .i64 i, .int .i64 j], .slice A n c] w fun e w' => e = .returned (.int .i64 1) ∧ Below w.heap.size w w' := by
  have hb0 : Below w.heap.size w (w.alloc (.cells #[.int .i64 i, .int .i64 j] 24)) := (Below.refl _ _).alloc (Nat.le_refl _) _
  have hk0 : Key2 (w.alloc (.cells #[.int .i64 i, .int .i64 j] 24)) w.heap.size i j := heap_alloc_new w _
  have ho := own_nilD (w.alloc (.cells #[.int .i64 i, .int .i64 j] 24)) i j
  dsimp only [entV, e0] at ho
  rw [str0] at ho
  have HO := Lib.hid ho
  have HB0 := Lib.hid hb0
  obtain ⟨c0, c1⟩ := hk0.cells
  clear hb0 hk0 ho
  go_enter Try.func67, Try.ntmps67
  go_wp2_with fail
  refine HO.out.mono ?_
  rintro e w1 ⟨rfl, hb1⟩
  have HB1 := Lib.hid (kF (kA hb1 (.cells #[.int .i64 0, .int .i64 0, .int .i64 0, .int .i64 0, .string ⟨#[]⟩] 132)) HB0.out)
  clear hb1 c0 c1
  go_wp2_with fail
  go_ret
  exact ⟨rfl, HB1.out⟩
theorem set_nilD (w : World) (i j n : Int) :
    Calls Try.prog 32 #[.pointer none, .agg #[.int .i64 i, .int .i64 j], .int .i64 n] w fun e w' => e = .returned (.int .i64 1) ∧ Below w.heap.size w w' := by
  have hb0 : Below w.heap.size w (w.alloc (.cells #[.int .i64 i, .int .i64 j] 24)) := (Below.refl _ _).alloc (Nat.le_refl _) _
  have hk0 : Key2 (w.alloc (.cells #[.int .i64 i, .int .i64 j] 24)) w.heap.size i j := heap_alloc_new w _
  have ho := own_nilD (w.alloc (.cells #[.int .i64 i, .int .i64 j] 24)) i j
  dsimp only [entV, e0] at ho
  rw [str0] at ho
  have HO := Lib.hid ho
  have HB0 := Lib.hid hb0
  obtain ⟨c0, c1⟩ := hk0.cells
  clear hb0 hk0 ho
  go_enter Try.func32, Try.ntmps32
  go_wp2_with fail
  refine HO.out.mono ?_
  rintro e w1 ⟨rfl, hb1⟩
  have HB1 := Lib.hid (kF (kA hb1 (.cells #[.int .i64 0, .int .i64 0, .int .i64 0, .int .i64 0, .string ⟨#[]⟩] 132)) HB0.out)
  clear hb1 c0 c1
  go_wp2_with fail
  go_ret
  exact ⟨rfl, HB1.out⟩
def encK (x : Int × Int) : Array Value := #[.agg #[.int .i64 x.1, .int .i64 x.2]]
def FindNil (w : World) (e : Ending) (w' : World) : Prop := e = .returned (.tuple #[entV e0, .int .i64 100794368]) ∧ Below w.heap.size w w'
end Go.Proofs.Ytgaoplbocjadaaa
