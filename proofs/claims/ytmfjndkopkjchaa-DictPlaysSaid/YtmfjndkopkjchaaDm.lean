/- What find answers: the entry, or why there is none. -/
import Derived.Test.YtmfjndkopkjchaaDl
namespace Go.Proofs.Ytmfjndkopkjchaa
open Go.RowKit Go.Shelf
attribute [local go_sem] Oper.semAt_some
set_option linter.unusedSimpArgs false
set_option linter.unusedVariables false

def AbAt (w : World) (g : Nat) (a : Int) : Prop := w.heap[g]? = some (.cells #[.int .i64 a] 43 (0, 0))
theorem AbAt.below {w w' : World} {g : Nat} {a : Int} (h : AbAt w g a) (hb : Below w.heap.size w w') : AbAt w' g a := (hb.block g (Array.getElem?_eq_some_iff.1 h).1).trans h
theorem AbAt.cell {w : World} {g : Nat} {a : Int} (h : AbAt w g a) : w.cell? ⟨g, 0, none⟩ = some (.int .i64 a) := by rw [cell_of_row _ _ _ _ _ _ h]; rfl
theorem loc_none : Loc 0 (fun _ => none) := fun _ _ _ => rfl
theorem heap_other (W : World) (a : Addr) (v : Value) (k : Nat) (h : ¬ k = a.block) : (W.setCell a v).heap[k]? = W.heap[k]? := Below.heap_setCell W a v k h
theorem results_row_cell {P : Program} {fn : Func} {p u : Tmp} {ty ty2 : TypeId} (h : fn.results = #[.cell p ty, .cell u ty2]) (tmps : Array Value) (w : World) (g g2 : Nat) (t : TypeId) (cs : Array Value) (fr : Nat × Nat) (d : TypeDesc) (x : Value)
    (hp : tmps.getD p undef = .pointer (some ⟨g, 0, none⟩)) (hg : w.heap[g]? = some (.cells cs t fr))
    (hu : P.underlying ty = some d) (hd : (match d with | .struct _ | .array _ _ => true | _ => false) = true) (hi : (P.info? ty).map (·.size) = some cs.size)
    (hp2 : tmps.getD u undef = .pointer (some ⟨g2, 0, none⟩)) (hl : (loadVar ty2 ⟨g2, 0, none⟩).run P w = .ok x w) :
    (results fn tmps).run P w = .ok (.tuple #[.agg cs, x]) w := by
  have hp' := hp
  have hp2' := hp2
  simp only [Array.getD_eq_getD_getElem?] at hp' hp2'
  simp [results, h, hp', hp2', asAddr, run_loadVar_row w g t ty cs fr d hg hu hd hi, hl]
theorem load_abort (w : World) (g : Nat) (a : Int) (h : AbAt w g a) : (loadVar 43 ⟨g, 0, none⟩).run Try.prog w = .ok (.int .i64 a) w := by
  have hc := h.cell
  simp [go_sem, hc]
theorem dsubs_any (w : World) (p : Option Addr) (i : Int) :
    Calls Try.prog 18 #[.pointer p, .int .i64 i] w fun e w' => e = .returned (.func (Fn.func 42) #[] #[.pointer (some ⟨w.heap.size, 0, none⟩), .pointer (some ⟨w.heap.size + 1, 0, none⟩)]) ∧ w' = (w.alloc (.cells #[.pointer p] 23)).alloc (.cells #[.int .i64 i] 3) := by
  go_enter Try.func18, Try.ntmps18
  go_wp2_with fail
  go_ret
  exact ⟨rfl, rfl⟩
theorem fi_set {B g : Nat} {w0 X : World} {k a lo hi k' a' lo' hi' c c' : Int} {S S' : ByteArray} (hz : EntAt X g k a lo hi S) (ha : AbAt X (g + 1) c) (hb : Below B w0 X) (hg : B ≤ g) :
    EntAt ((((((X.setCell ⟨g, 0, none⟩ (.int .i64 k')).setCell ⟨g, 1, none⟩ (.int .i64 a')).setCell ⟨g, 2, none⟩ (.int .i64 lo')).setCell ⟨g, 3, none⟩ (.int .i64 hi')).setCell ⟨g, 4, none⟩ (.string S')).setCell ⟨g + 1, 0, none⟩ (.int .i64 c')) g k' a' lo' hi' S' ∧ AbAt ((((((X.setCell ⟨g, 0, none⟩ (.int .i64 k')).setCell ⟨g, 1, none⟩ (.int .i64 a')).setCell ⟨g, 2, none⟩ (.int .i64 lo')).setCell ⟨g, 3, none⟩ (.int .i64 hi')).setCell ⟨g, 4, none⟩ (.string S')).setCell ⟨g + 1, 0, none⟩ (.int .i64 c')) (g + 1) c' ∧ Below B w0 ((((((X.setCell ⟨g, 0, none⟩ (.int .i64 k')).setCell ⟨g, 1, none⟩ (.int .i64 a')).setCell ⟨g, 2, none⟩ (.int .i64 lo')).setCell ⟨g, 3, none⟩ (.int .i64 hi')).setCell ⟨g, 4, none⟩ (.string S')).setCell ⟨g + 1, 0, none⟩ (.int .i64 c')) := by
  have h5 : (((((X.setCell ⟨g, 0, none⟩ (.int .i64 k')).setCell ⟨g, 1, none⟩ (.int .i64 a')).setCell ⟨g, 2, none⟩ (.int .i64 lo')).setCell ⟨g, 3, none⟩ (.int .i64 hi')).setCell ⟨g, 4, none⟩ (.string S')).heap[g + 1]? = X.heap[g + 1]? := by
    rw [heap_other _ _ _ _ (by simp), heap_other _ _ _ _ (by simp), heap_other _ _ _ _ (by simp), heap_other _ _ _ _ (by simp), heap_other _ _ _ _ (by simp)]
  refine ⟨(heap_other _ _ _ _ (by simp)).trans hz.five, one_set (h5.trans ha) _, ?_⟩
  exact (five_below hb hg).setCell (p := ⟨g + 1, 0, none⟩) (by show B ≤ g + 1; omega) _
def findE (i j : Int) (T : List (Int × Ent)) : Int := if hasI (numI i j) T = true then 0 else if subsL i T = [] then 100794368 else 101253137
/-- What a round of find's loop finds, and leaves. -/
def FiB (w : World) (X : World) (a : Int) : Prop := EntAt X (w.heap.size + 1) 0 0 0 0 ⟨#[]⟩ ∧ AbAt X (w.heap.size + 2) a ∧ Below w.heap.size w X
def FiI (w : World) (pre : List Int) (X : World) : Prop := pre = [] ∧ FiB w X 0
def FiX (w : World) (c : Code) (pre : List Int) (X : World) : Prop := c = .ret ∧ pre.length = 1 ∧ FiB w X 101253137
theorem FiB_own (w : World) (Bn : Nat) (h : w.heap.size + 2 < Bn) (a : Int) : OwnFrom Bn (fun (_ : Unit) X => FiB w X a) := fun s X Y row ⟨h1, h2, h3⟩ hg hr =>
  ⟨own_heap (β := Unit) (w.heap.size + 1) Bn _ (by omega) () X Y row h1 hg hr, own_heap (β := Unit) (w.heap.size + 2) Bn _ (by omega) () X Y row h2 hg hr, h3.grown hg h3.size (fun k e => by have := (hr k e).1; omega)⟩
def FindP (w : World) (T : List (Int × Ent)) (i j : Int) (e : Ending) (w' : World) : Prop := e = .returned (.tuple #[entV (thI e0 (numI i j) T), .int .i64 (findE i j T)]) ∧ Below w.heap.size w w'
set_option maxRecDepth 100000 in
set_option maxHeartbeats 4000000 in
theorem find_has (w : World) (base g s : Nat) (T : List (Int × Ent)) (ch : Int) (v : Value) (i j : Int) (h : DiI w base g s T ch v) (hT : T.length ≤ 900) (hs : Rise T) (hh : hasI (numI i j) T = true) :
    CallsIn Fence.wide 9 Try.prog 34 #[.pointer (some ⟨g, 0, none⟩), .agg #[.int .i64 i, .int .i64 j]] w (FindP w T i j) := by
  have hb0 : Below w.heap.size w (((w.alloc (.cells #[.int .i64 i, .int .i64 j] 31)).alloc (.cells #[.int .i64 0, .int .i64 0, .int .i64 0, .int .i64 0, .string ⟨#[]⟩] 69)).alloc (.cells #[.int .i64 0] 43)) := (((Below.refl _ _).alloc (Nat.le_refl _) _).alloc (by simp) _).alloc (by simp; omega) _
  have hk0 : Key2 (((w.alloc (.cells #[.int .i64 i, .int .i64 j] 31)).alloc (.cells #[.int .i64 0, .int .i64 0, .int .i64 0, .int .i64 0, .string ⟨#[]⟩] 69)).alloc (.cells #[.int .i64 0] 43)) w.heap.size i j := (heap_alloc_old _ _ _ (by simp; omega)).trans (heap_alloc2_old w _ _)
  have hz0 : EntAt (((w.alloc (.cells #[.int .i64 i, .int .i64 j] 31)).alloc (.cells #[.int .i64 0, .int .i64 0, .int .i64 0, .int .i64 0, .string ⟨#[]⟩] 69)).alloc (.cells #[.int .i64 0] 43)) (w.heap.size + 1) 0 0 0 0 ⟨#[]⟩ := (heap_alloc_old _ _ _ (by simp)).trans (heap_alloc2_new w _ _)
  have ha0 : AbAt (((w.alloc (.cells #[.int .i64 i, .int .i64 j] 31)).alloc (.cells #[.int .i64 0, .int .i64 0, .int .i64 0, .int .i64 0, .string ⟨#[]⟩] 69)).alloc (.cells #[.int .i64 0] 43)) (w.heap.size + 2) 0 := by
    have h2 := heap_alloc_new ((w.alloc (.cells #[.int .i64 i, .int .i64 j] 31)).alloc (.cells #[.int .i64 0, .int .i64 0, .int .i64 0, .int .i64 0, .string ⟨#[]⟩] 69)) (.cells #[.int .i64 0] 43)
    rw [show ((w.alloc (.cells #[.int .i64 i, .int .i64 j] 31)).alloc (.cells #[.int .i64 0, .int .i64 0, .int .i64 0, .int .i64 0, .string ⟨#[]⟩] 69)).heap.size = w.heap.size + 2 by simp] at h2
    exact h2
  have hgt := dget_any (((w.alloc (.cells #[.int .i64 i, .int .i64 j] 31)).alloc (.cells #[.int .i64 0, .int .i64 0, .int .i64 0, .int .i64 0, .string ⟨#[]⟩] 69)).alloc (.cells #[.int .i64 0] 43)) base g s T ch v i j (h.below hb0) (by omega) hs
  have hf : findE i j T = 0 := if_pos hh
  unfold FindP
  rw [hh] at hgt
  rw [hf]
  generalize thI e0 (numI i j) T = E at hgt ⊢
  obtain ⟨ek, ea, el, eh, eb⟩ := E
  dsimp only [entV] at hgt ⊢
  generalize strOfNums eb = ES at hgt ⊢
  have HB0 := Lib.hid hb0
  have HZ0 := Lib.hid hz0
  have HA0 := Lib.hid ha0
  have HGT := Lib.hid hgt
  obtain ⟨c0, c1⟩ := hk0.cells
  clear h hs hh hf hb0 hk0 hz0 ha0 hgt
  refine callsIn_of_wp_marks Try.func34 rfl trivial ?_ rfl
  simp only [Try.ntmps34, List.size_toArray, List.length_cons, List.length_nil, Nat.reduceAdd, Nat.reduceSub, Array.replicate_succ, Array.replicate_zero, List.push_toArray, List.append_toArray, List.nil_append, List.cons_append]
  gi_wp2_with fail
  refine ⟨trivial, ?_⟩
  generalize (((w.alloc (.cells #[.int .i64 i, .int .i64 j] 31)).alloc (.cells #[.int .i64 0, .int .i64 0, .int .i64 0, .int .i64 0, .string ⟨#[]⟩] 69)).alloc (.cells #[.int .i64 0] 43)) = w0 at HB0 HZ0 HA0 HGT c0 c1 ⊢
  refine (callsIn_wide.2 HGT.out).mono ?_
  rintro e w1 ⟨rfl, hb1⟩
  have hb2 : Below w0.heap.size w0 (w1.alloc (.cells #[.int .i64 ek, .int .i64 ea, .int .i64 el, .int .i64 eh, .string ES] 69)) := kA hb1 _
  have hx2 : EntAt (w1.alloc (.cells #[.int .i64 ek, .int .i64 ea, .int .i64 el, .int .i64 eh, .string ES] 69)) w1.heap.size ek ea el eh ES := heap_alloc_new w1 _
  have hz2 := HZ0.out.below hb2
  have ha2 := HA0.out.below hb2
  have HB2 := Lib.hid (kF hb2 HB0.out)
  clear c0 c1 hb1 hb2
  obtain ⟨x0, x1, x2, x3, x4⟩ := hx2.cells
  obtain ⟨d0, d1, d2, d3, d4⟩ := hz2.cells
  obtain ⟨f0, f1, f2, f3, f4⟩ := hz2.froz
  have c5 := ha2.cell
  have f5 : (w1.alloc (.cells #[.int .i64 ek, .int .i64 ea, .int .i64 el, .int .i64 eh, .string ES] 69)).frozen? ⟨w.heap.size + 2, 0, none⟩ = false := frozen_of_row _ _ _ _ _ ha2
  have HZ2 := Lib.hid hz2
  have HA2 := Lib.hid ha2
  clear hx2 hz2 ha2
  have HFS := Lib.hid (fi_set (k' := ek) (a' := ea) (lo' := el) (hi' := eh) (S' := ES) (c' := 0) HZ2.out HA2.out HB2.out (by omega))
  gi_wp2_with fail
  exact ⟨_, results_row_cell rfl _ _ (w.heap.size + 1) (w.heap.size + 2) _ _ _ _ _ rfl HFS.out.1 Try.underlying69 rfl info_ent rfl (load_abort _ _ _ HFS.out.2.1), rfl, HFS.out.2.2⟩
set_option maxRecDepth 100000 in
set_option maxHeartbeats 4000000 in
theorem find_not (w : World) (base g s : Nat) (T : List (Int × Ent)) (ch : Int) (v : Value) (i j : Int) (h : DiI w base g s T ch v) (hT : T.length ≤ 900) (hs : Rise T) (hok : ∀ x ∈ T, 0 ≤ x.1 ∧ x.1 ≤ 16777215) (hh : hasI (numI i j) T = false) :
    CallsIn Fence.wide 9 Try.prog 34 #[.pointer (some ⟨g, 0, none⟩), .agg #[.int .i64 i, .int .i64 j]] w (FindP w T i j) := by
  have hb0 : Below w.heap.size w (((w.alloc (.cells #[.int .i64 i, .int .i64 j] 31)).alloc (.cells #[.int .i64 0, .int .i64 0, .int .i64 0, .int .i64 0, .string ⟨#[]⟩] 69)).alloc (.cells #[.int .i64 0] 43)) := (((Below.refl _ _).alloc (Nat.le_refl _) _).alloc (by simp) _).alloc (by simp; omega) _
  have hk0 : Key2 (((w.alloc (.cells #[.int .i64 i, .int .i64 j] 31)).alloc (.cells #[.int .i64 0, .int .i64 0, .int .i64 0, .int .i64 0, .string ⟨#[]⟩] 69)).alloc (.cells #[.int .i64 0] 43)) w.heap.size i j := (heap_alloc_old _ _ _ (by simp; omega)).trans (heap_alloc2_old w _ _)
  have hz0 : EntAt (((w.alloc (.cells #[.int .i64 i, .int .i64 j] 31)).alloc (.cells #[.int .i64 0, .int .i64 0, .int .i64 0, .int .i64 0, .string ⟨#[]⟩] 69)).alloc (.cells #[.int .i64 0] 43)) (w.heap.size + 1) 0 0 0 0 ⟨#[]⟩ := (heap_alloc_old _ _ _ (by simp)).trans (heap_alloc2_new w _ _)
  have ha0 : AbAt (((w.alloc (.cells #[.int .i64 i, .int .i64 j] 31)).alloc (.cells #[.int .i64 0, .int .i64 0, .int .i64 0, .int .i64 0, .string ⟨#[]⟩] 69)).alloc (.cells #[.int .i64 0] 43)) (w.heap.size + 2) 0 := by
    have h2 := heap_alloc_new ((w.alloc (.cells #[.int .i64 i, .int .i64 j] 31)).alloc (.cells #[.int .i64 0, .int .i64 0, .int .i64 0, .int .i64 0, .string ⟨#[]⟩] 69)) (.cells #[.int .i64 0] 43)
    rw [show ((w.alloc (.cells #[.int .i64 i, .int .i64 j] 31)).alloc (.cells #[.int .i64 0, .int .i64 0, .int .i64 0, .int .i64 0, .string ⟨#[]⟩] 69)).heap.size = w.heap.size + 2 by simp] at h2
    exact h2
  have hgt := dget_any (((w.alloc (.cells #[.int .i64 i, .int .i64 j] 31)).alloc (.cells #[.int .i64 0, .int .i64 0, .int .i64 0, .int .i64 0, .string ⟨#[]⟩] 69)).alloc (.cells #[.int .i64 0] 43)) base g s T ch v i j (h.below hb0) (by omega) hs
  have hf : findE i j T = if subsL i T = [] then 100794368 else 101253137 := if_neg (by simp [hh])
  unfold FindP
  have hth := thI_no (z := e0) hh
  rw [hth, hh] at hgt
  rw [hf, hth]
  have HSUB := Lib.hid (fun gb kb x (hx : Below w.heap.size w x) h1 h2 hF hFk => subs1_L 8 (by omega) gb kb g s base T ch v i (fun k => k = w.heap.size + 1 ∨ k = w.heap.size + 2) (fun _ => none) 0 loc_none x (Nat.zero_le _) h1 h2 (h.below hx) hT hs hok hF (fun k hk => by cases hk) hFk (by simp))
  generalize subsL i T = U at HSUB ⊢
  generalize (T.drop (plcI (numI i 0) T)).length = UN at HSUB
  dsimp only [entV, e0] at hgt ⊢
  rw [str0] at hgt ⊢
  have HB0 := Lib.hid hb0
  have HZ0 := Lib.hid hz0
  have HA0 := Lib.hid ha0
  have HK0 := Lib.hid hk0
  have HGT := Lib.hid hgt
  obtain ⟨c0, c1⟩ := hk0.cells
  clear h hs hh hf hb0 hk0 hz0 ha0 hgt hth hok
  refine callsIn_of_wp_marks Try.func34 rfl trivial ?_ rfl
  simp only [Try.ntmps34, List.size_toArray, List.length_cons, List.length_nil, Nat.reduceAdd, Nat.reduceSub, Array.replicate_succ, Array.replicate_zero, List.push_toArray, List.append_toArray, List.nil_append, List.cons_append]
  gi_wp2_with fail
  refine ⟨trivial, ?_⟩
  generalize (((w.alloc (.cells #[.int .i64 i, .int .i64 j] 31)).alloc (.cells #[.int .i64 0, .int .i64 0, .int .i64 0, .int .i64 0, .string ⟨#[]⟩] 69)).alloc (.cells #[.int .i64 0] 43)) = w0 at HB0 HZ0 HA0 HK0 HGT c0 c1 ⊢
  refine (callsIn_wide.2 HGT.out).mono ?_
  rintro e w1 ⟨rfl, hb1⟩
  have hb2 : Below w0.heap.size w0 (w1.alloc (.cells #[.int .i64 0, .int .i64 0, .int .i64 0, .int .i64 0, .string ⟨#[]⟩] 69)) := kA hb1 _
  have hk2 := HK0.out.below hb2
  have HB2 := Lib.hid hb2
  clear c0 c1 hb1 hb2
  obtain ⟨c0, c1⟩ := hk2.cells
  have HS2 := Lib.hid (show w.heap.size + 3 ≤ (w1.alloc (.cells #[.int .i64 0, .int .i64 0, .int .i64 0, .int .i64 0, .string ⟨#[]⟩] 69)).heap.size from by have := HB2.out.size; have := (Array.getElem?_eq_some_iff.1 HA0.out).1; omega)
  clear hk2
  gi_wp2_with fail
  refine ⟨trivial, ?_⟩
  generalize w1.alloc (.cells #[.int .i64 0, .int .i64 0, .int .i64 0, .int .i64 0, .string ⟨#[]⟩] 69) = w2 at HB2 HS2 c0 c1 ⊢
  refine (callsIn_wide.2 (dsubs_any _ _ _)).mono ?_
  rintro e w3 ⟨rfl, rfl⟩
  have hb3 : Below w2.heap.size w2 ((w2.alloc (.cells #[.pointer (some ⟨g, 0, none⟩)] 23)).alloc (.cells #[.int .i64 i] 3)) := kA ((Below.refl _ _).alloc (Nat.le_refl _) _) _
  have HB3 := Lib.hid (kF hb3 HB2.out)
  have HX1 := Lib.hid (heap_alloc2_old w2 (.cells #[.pointer (some ⟨g, 0, none⟩)] 23) (.cells #[.int .i64 i] 3))
  have HX2 := Lib.hid (heap_alloc2_new w2 (.cells #[.pointer (some ⟨g, 0, none⟩)] 23) (.cells #[.int .i64 i] 3))
  have HS3 := Lib.hid (show w2.heap.size + 2 ≤ ((w2.alloc (.cells #[.pointer (some ⟨g, 0, none⟩)] 23)).alloc (.cells #[.int .i64 i] 3)).heap.size from by simp)
  clear hb3 c0 c1
  gi_wp2_with fail
  generalize (w2.alloc (.cells #[.pointer (some ⟨g, 0, none⟩)] 23)).alloc (.cells #[.int .i64 i] 3) = w3 at HB3 HX1 HX2 HS3 ⊢
  generalize w2.heap.size = B1 at HX1 HX2 HS2 HS3 ⊢
  have hs2 := HS2.out
  have hs3 := HS3.out
  have hst := HSUB.out B1 (B1 + 1) w3 (kF HB3.out HB0.out) HX1.out HX2.out (fun k hk => by omega) (by omega)
  have hI : FiI w [] w3 := ⟨rfl, HZ0.out.below HB3.out, HA0.out.below HB3.out, kF HB3.out HB0.out⟩
  refine range_L (by omega) (gf := 42) (lb := #[.pointer (some ⟨B1, 0, none⟩), .pointer (some ⟨B1 + 1, 0, none⟩)]) rfl (enters_of Try.func42 (by kernel_rfl) rfl) hst kq_t (fun X k o o' hk ho hc _ => kq_put loc_none (Nat.zero_le _) ho hc) (Below.refl _ _) (fun _ => rfl)
    (FiI w) (FiX w) (fun s X Y row ⟨h1, h2⟩ hg hr => ⟨h1, FiB_own w _ (by omega) 0 () X Y row h2 hg hr⟩) (fun c s X Y row ⟨h1, h2, h3⟩ hg hr => ⟨h1, h2, FiB_own w _ (by omega) 101253137 () X Y row h3 hg hr⟩) hI
    (fun y => { tmps := #[.pointer (some ⟨g, 0, none⟩), .agg #[.int .i64 i, .int .i64 j], undef, .pointer (some ⟨w.heap.size, 0, none⟩), .pointer (some ⟨w.heap.size + 1, 0, none⟩), .pointer (some ⟨w.heap.size + 1 + 1, 0, none⟩), .pointer (some ⟨w1.heap.size, 0, none⟩), .bool false, .tuple #[.agg #[.int .i64 0, .int .i64 0, .int .i64 0, .int .i64 0, .string ⟨#[]⟩], .bool false], .pointer (some ⟨g, 0, none⟩), .agg #[.int .i64 i, .int .i64 j], .tuple #[.agg #[.int .i64 0, .int .i64 0, .int .i64 0, .int .i64 0, .string ⟨#[]⟩], .bool false], .agg #[.int .i64 0, .int .i64 0, .int .i64 0, .int .i64 0, .string ⟨#[]⟩], .bool false, .bool false, undef, .pointer (some ⟨g, 0, none⟩), .pointer (some ⟨w.heap.size, 0, none⟩), .int .i64 i, .func (Fn.func 42) #[] #[.pointer (some ⟨B1, 0, none⟩), .pointer (some ⟨B1 + 1, 0, none⟩)], .int .i64 y, undef, undef], defers := [] }) ?assign ?body ?done ?stop
  case assign =>
    intro lp y X K hK
    dsimp only [encS]
    gi_wp2
    simpa using hK
  case body =>
    rintro lp pre y X ⟨rfl, hE, hA, hB⟩ hlen
    obtain ⟨d0, d1, d2, d3, d4⟩ := hE.cells
    obtain ⟨f0, f1, f2, f3, f4⟩ := hE.froz
    have c5 := hA.cell
    have f5 : X.frozen? ⟨w.heap.size + 2, 0, none⟩ = false := frozen_of_row _ _ _ _ _ hA
    have hfs := fi_set (k' := 0) (a' := 0) (lo' := 0) (hi' := 0) (S' := ⟨#[]⟩) (c' := 101253137) hE hA hB (by omega)
    have HFS := Lib.hid hfs
    have HK := Lib.hid (fun (x5 x0 x1 x2 x3 x4 : Value) => show KeepsFrom w3.heap.size X ((((((X.setCell ⟨w.heap.size + 1, 0, none⟩ x0).setCell ⟨w.heap.size + 1, 1, none⟩ x1).setCell ⟨w.heap.size + 1, 2, none⟩ x2).setCell ⟨w.heap.size + 1, 3, none⟩ x3).setCell ⟨w.heap.size + 1, 4, none⟩ x4).setCell ⟨w.heap.size + 1 + 1, 0, none⟩ x5) from
      ⟨by simp, fun k o h1 h2 _ => by rw [heap_other _ _ _ _ (by simp; omega), heap_other _ _ _ _ (by simp; omega), heap_other _ _ _ _ (by simp; omega), heap_other _ _ _ _ (by simp; omega), heap_other _ _ _ _ (by simp; omega), heap_other _ _ _ _ (by simp; omega)]; exact h2⟩)
    clear hE hA hB hfs
    gi_wp2
    exact ⟨HK.out _ _ _ _ _ _, rfl, rfl, HFS.out⟩
  case stop =>
    rintro D cc pre X hD hSp ⟨rfl, hl, hE, hA, hB⟩ hK
    have hU : ¬ U = [] := fun e => by
      subst e
      have := List.prefix_nil.1 hSp
      subst this; cases hl
    have HU := Lib.hid hU
    have hE2 : EntAt (X.putObj D (.deferred none)) (w.heap.size + 1) 0 0 0 0 ⟨#[]⟩ := (World.putObj_heap_other (by omega)).trans hE
    have hA2 : AbAt (X.putObj D (.deferred none)) (w.heap.size + 2) 101253137 := (World.putObj_heap_other (by omega)).trans hA
    have hB2 := hB.grown (grownBy_putObj' X D (.deferred none)) hB.size (fun k e => by cases e; omega)
    have HE2 := Lib.hid hE2
    have HA2 := Lib.hid hA2
    have HB2 := Lib.hid hB2
    have HKD := Lib.hid hK
    clear hE2 hA2 hB2 hE hA hB hU
    gi_wp2
    refine ⟨by simp, .inl ⟨_, _, rfl, run_takeDeferred HKD.out, ?_⟩⟩
    exact ⟨_, results_row_cell rfl _ _ (w.heap.size + 1) (w.heap.size + 2) _ _ _ _ _ rfl HE2.out Try.underlying69 rfl info_ent rfl (load_abort _ _ _ HA2.out), by first | rfl | rw [if_neg HU.out], HB2.out⟩
  case done =>
    rintro D ys X hD rfl ⟨rfl, hE, hA, hB⟩ hK
    obtain ⟨d0, d1, d2, d3, d4⟩ := hE.cells
    obtain ⟨f0, f1, f2, f3, f4⟩ := hE.froz
    have c5 := hA.cell
    have f5 : X.frozen? ⟨w.heap.size + 2, 0, none⟩ = false := frozen_of_row _ _ _ _ _ hA
    have hfs := fi_set (k' := 0) (a' := 0) (lo' := 0) (hi' := 0) (S' := ⟨#[]⟩) (c' := 100794368) hE hA hB (by omega)
    have HFS := Lib.hid hfs
    have HKD := Lib.hid (fun (x5 x0 x1 x2 x3 x4 : Value) => show ((((((X.setCell ⟨w.heap.size + 1, 0, none⟩ x0).setCell ⟨w.heap.size + 1, 1, none⟩ x1).setCell ⟨w.heap.size + 1, 2, none⟩ x2).setCell ⟨w.heap.size + 1, 3, none⟩ x3).setCell ⟨w.heap.size + 1, 4, none⟩ x4).setCell ⟨w.heap.size + 1 + 1, 0, none⟩ x5).heap[D]? = some (.deferred (some [])) from by
      rw [heap_other _ _ _ _ (by simp; omega), heap_other _ _ _ _ (by simp; omega), heap_other _ _ _ _ (by simp; omega), heap_other _ _ _ _ (by simp; omega), heap_other _ _ _ _ (by simp; omega), heap_other _ _ _ _ (by simp; omega)]; exact hK)
    clear hE hA hB hfs hK
    gi_wp2
    refine ⟨by simp, .inl ⟨_, _, rfl, run_takeDeferred (HKD.out _ _ _ _ _ _), ?_⟩⟩
    refine ⟨_, results_row_cell rfl _ _ (w.heap.size + 1) (w.heap.size + 2) _ _ _ _ _ rfl ((World.putObj_heap_other (by omega)).trans HFS.out.1) Try.underlying69 rfl info_ent rfl (load_abort _ _ _ ((World.putObj_heap_other (by omega)).trans HFS.out.2.1)), by first | rfl | rw [if_pos rfl], ?_⟩
    exact HFS.out.2.2.grown (grownBy_putObj' _ D (.deferred none)) HFS.out.2.2.size (fun k e => by cases e; omega)
theorem find_any (w : World) (base g s : Nat) (T : List (Int × Ent)) (ch : Int) (v : Value) (i j : Int) (h : DiI w base g s T ch v) (hT : T.length ≤ 900) (hs : Rise T) (hok : ∀ x ∈ T, 0 ≤ x.1 ∧ x.1 ≤ 16777215) :
    Calls Try.prog 34 #[.pointer (some ⟨g, 0, none⟩), .agg #[.int .i64 i, .int .i64 j]] w (FindP w T i j) := by
  cases hh : hasI (numI i j) T with
  | true => exact callsIn_wide.1 (find_has w base g s T ch v i j h hT hs hh)
  | false => exact callsIn_wide.1 (find_not w base g s T ch v i j h hT hs hok hh)
end Go.Proofs.Ytmfjndkopkjchaa
