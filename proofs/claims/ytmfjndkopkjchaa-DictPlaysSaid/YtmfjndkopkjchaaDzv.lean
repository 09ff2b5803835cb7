/- Is the dictionary the document's? What same answers. -/
import Derived.Test.YtmfjndkopkjchaaDzt
import Derived.Test.YtmfjndkopkjchaaDzu
import Derived.Test.YtmfjndkopkjchaaDRm
namespace Go.Proofs.Ytmfjndkopkjchaa
open Go.RowKit Go.Shelf
attribute [local go_sem] Oper.semAt_some
set_option linter.unusedSimpArgs false
set_option linter.unusedVariables false

def PBox (w : World) (g b : Nat) : Prop := w.heap[g]? = some (.cells #[.pointer (some ⟨b, 0, none⟩)] 23 (0, 0))
def EBox (w : World) (g : Nat) (v : Value) : Prop := w.heap[g]? = some (.cells #[v] 25 (0, 0))
theorem PBox.cell {w : World} {g b : Nat} (h : PBox w g b) : w.cell? ⟨g, 0, none⟩ = some (.pointer (some ⟨b, 0, none⟩)) := by rw [cell_of_row _ _ _ _ _ _ h]; rfl
theorem EBox.cell {w : World} {g : Nat} {v : Value} (h : EBox w g v) : w.cell? ⟨g, 0, none⟩ = some v := by rw [cell_of_row _ _ _ _ _ _ h]; rfl
theorem heap_same {X Y : World} {B : Nat} {row : Option Nat} (hg : X.grownBy Y row) (hr : ∀ r, row = some r → B ≤ r ∧ ∃ o : Obj, X.heap[r]? = some o ∧ o.isCells = false) {k : Nat} {cs : Array Value} {t : TypeId} {fr : Nat × Nat} (hk : X.heap[k]? = some (.cells cs t fr)) : Y.heap[k]? = X.heap[k]? :=
  hg.block k (Array.getElem?_eq_some_iff.1 hk).1 fun e => by
    obtain ⟨_, o, ho, hc⟩ := hr k e.symm
    rw [hk] at ho; cases ho; cases hc
/-- What the range over the names keeps. -/
structure SaI (w : World) (B g : Nat) (T : List (Int × Ent)) (ch : Int) (a : Option Addr) (N c : Nat) (sa : Option Addr) (M sc S5 : Nat) (pre : List (Int × Int)) (X : World) : Prop where
  dic : DictAt B g T ch X
  ptr : PBox X w.heap.size g
  doc : RBox X (w.heap.size + 1) a N c ch
  res : BBox X (w.heap.size + 2) false
  srt : X.ownsRow (w.heap.size + 3) 57 7 (.slice sa M sc) M (fr T)
  sbx : EBox X S5 (.slice sa M sc)
  at_ : IBox X (S5 + 1) pre.length
  fit : pre <+: T.map keyI
  bel : Below w.heap.size w X
def SaX (T : List (Int × Ent)) (cd : Code) (pre : List (Int × Int)) (X : World) : Prop := ¬ pre <+: T.map keyI
theorem SaI_own (w : World) (B g : Nat) (T : List (Int × Ent)) (ch : Int) (a : Option Addr) (N c : Nat) (sa : Option Addr) (M sc S5 Bn : Nat) (hB : w.heap.size ≤ Bn) : OwnFrom Bn (SaI w B g T ch a N c sa M sc S5) := fun s X Y row h hg hr =>
  ⟨by obtain ⟨s_, v_, h1, h2, h3, h4⟩ := h.dic; exact ⟨s_, v_, h1.keep fun k cs t fr hk _ _ => heap_same hg hr hk, h2, h3, Nat.le_trans h4 hg.size⟩,
    (heap_same hg hr h.ptr).trans h.ptr, (heap_same hg hr h.doc).trans h.doc, (heap_same hg hr h.res).trans h.res, own_nonD h.srt hg hr, (heap_same hg hr h.sbx).trans h.sbx, (heap_same hg hr h.at_).trans h.at_, h.fit,
    h.bel.grown hg h.bel.size (fun k e => by have := (hr k e).1; omega)⟩
theorem SaI.step {w : World} {B g : Nat} {T : List (Int × Ent)} {ch : Int} {a : Option Addr} {N c : Nat} {sa : Option Addr} {M sc S5 : Nat} {pre : List (Int × Int)} {X Y : World} (h : SaI w B g T ch a N c sa M sc S5 pre X) (hb : Below X.heap.size X Y) : SaI w B g T ch a N c sa M sc S5 pre Y :=
  SaI_own w B g T ch a N c sa M sc S5 (Y.heap.size + 1 + w.heap.size) (by omega) pre X Y none h (grown_below none hb) (fun r e => by cases e)
theorem not3_int : ¬ own3 3 := by unfold own3; decide
theorem pre_snocA {α : Type} {L pre : List α} {y : α} (h : pre <+: L) : (pre ++ [y] <+: L) ↔ L[pre.length]? = some y := by
  obtain ⟨r, rfl⟩ := h
  constructor
  · rintro ⟨s, hs⟩
    have : r = y :: s := by simpa using hs.symm
    rw [this]; simp
  · intro h
    rw [List.getElem?_append_right (Nat.le_refl _), Nat.sub_self] at h
    cases r with
    | nil => simp at h
    | cons z r => simp at h; subst h; exact ⟨r, by simp⟩
theorem keyI_eq {x : Int × Ent} (h : 256 ≤ x.1 ∧ x.1 ≤ 16777215) : keyI x = (x.1 / 256, x.1 % 256) := by
  unfold keyI; rw [aN_eq (by omega) (by omega), bN_eq (by omega)]
def SaF (w g : Nat) (a : Option Addr) (N c : Nat) (ch : Int) (S5 s4 : Nat) (sa : Option Addr) (M sc : Nat) (y : Int × Int) (kb : Nat) : Act := { tmps := #[.pointer (some ⟨g, 0, none⟩), .agg #[.slice a N c, .int .i64 ch], .pointer (some ⟨w, 0, none⟩), .pointer (some ⟨w + 1, 0, none⟩), .pointer (some ⟨w + 1 + 1, 0, none⟩), .pointer (some ⟨S5, 0, none⟩), .pointer (some ⟨S5 + 1, 0, none⟩), .func (Fn.func 63) #[] #[.pointer (some ⟨s4, 0, none⟩)], .pointer (some ⟨kb, 0, none⟩), undef, undef, undef, undef, .agg #[.slice a N c, .int .i64 ch], .slice sa M sc, .pointer (some ⟨g, 0, none⟩), .func (Fn.func 63) #[] #[.pointer (some ⟨s4, 0, none⟩)], .func (Fn.func 63) #[] #[.pointer (some ⟨s4, 0, none⟩)], .bool false, .func (Fn.func 63) #[] #[.pointer (some ⟨s4, 0, none⟩)], .agg #[.int .i64 y.1, .int .i64 y.2], undef, undef, undef, undef, undef, undef, undef, undef, undef, undef, undef, undef, undef, undef, undef, undef, undef, undef, undef, undef, undef, undef, undef, undef, undef, undef, undef, undef, undef, undef, undef, undef, undef, undef, undef, undef, undef, undef, undef, undef, undef, undef, undef, undef, undef, undef, undef, undef, undef, undef, undef, undef, undef, undef, undef, undef, undef, undef, undef, undef, undef, undef, undef, undef, undef, undef, undef, undef, undef], defers := [] }
def SaS (w g : Nat) (a : Option Addr) (N c : Nat) (ch : Int) (S5 s4 : Nat) (sa : Option Addr) (M sc : Nat) (y : Int × Int) (a1 : Act) (X : World) : Prop := ∃ kb, a1 = SaF w g a N c ch S5 s4 sa M sc y kb ∧ Key2 X kb y.1 y.2
theorem SaI.store {w : World} {B g : Nat} {T : List (Int × Ent)} {ch : Int} {a : Option Addr} {N c : Nat} {sa : Option Addr} {M sc S5 : Nat} {pre : List (Int × Int)} {y : Int × Int} {X : World} (h : SaI w B g T ch a N c sa M sc S5 pre X) (hy : pre ++ [y] <+: T.map keyI) (h5 : w.heap.size + 3 ≤ S5) :
    SaI w B g T ch a N c sa M sc S5 (pre ++ [y]) (X.setCell ⟨S5 + 1, 0, none⟩ (.int .i64 ((pre.length : Int) + 1))) :=
  ⟨h.dic.set h.at_ not3_int _ _, (heap_other _ _ _ _ (by simp; omega)).trans h.ptr, (heap_other _ _ _ _ (by simp; omega)).trans h.doc, (heap_other _ _ _ _ (by simp; omega)).trans h.res, own_grown h.srt (grown_set _ _ _ _) h.at_ (by decide), (heap_other _ _ _ _ (by simp)).trans h.sbx,
    by rw [show (((pre ++ [y]).length : Nat) : Int) = (pre.length : Int) + 1 by simp]; exact one_set h.at_ _, hy, h.bel.setCell (p := ⟨S5 + 1, 0, none⟩) (by show w.heap.size ≤ S5 + 1; omega) _⟩
set_option maxRecDepth 100000 in
set_option maxHeartbeats 20000000 in
theorem same_in (w : World) (B g : Nat) (T : List (Int × Ent)) (ch : Int) (a : Option Addr) (c : Nat) (R : List (Int × Ent)) (h : Both B g T ch a c R w) (hT : T.length ≤ 500) :
    CallsIn Fence.wide 9 Try.prog 8 #[.pointer (some ⟨g, 0, none⟩), .agg #[.slice a R.length c, .int .i64 ch]] w fun e w' => e = .returned (.bool true) ∧ Below w.heap.size w w' := by
  have hb0 : Below w.heap.size w (((w.alloc (.cells #[.pointer (some ⟨g, 0, none⟩)] 23)).alloc (.cells #[.slice a R.length c, .int .i64 ch] 27)).alloc (.cells #[.bool false] 4)) := (((Below.refl _ _).alloc (Nat.le_refl _) _).alloc (by simp) _).alloc (by simp; omega) _
  have hs2 : ((w.alloc (.cells #[.pointer (some ⟨g, 0, none⟩)] 23)).alloc (.cells #[.slice a R.length c, .int .i64 ch] 27)).heap.size = w.heap.size + 2 := by simp
  have hp0 : PBox (((w.alloc (.cells #[.pointer (some ⟨g, 0, none⟩)] 23)).alloc (.cells #[.slice a R.length c, .int .i64 ch] 27)).alloc (.cells #[.bool false] 4)) w.heap.size g := (heap_alloc_old _ _ _ (by rw [hs2]; omega)).trans (heap_alloc2_old w _ _)
  have hr0 : RBox (((w.alloc (.cells #[.pointer (some ⟨g, 0, none⟩)] 23)).alloc (.cells #[.slice a R.length c, .int .i64 ch] 27)).alloc (.cells #[.bool false] 4)) (w.heap.size + 1) a R.length c ch := (heap_alloc_old _ _ _ (by rw [hs2]; omega)).trans (heap_alloc2_new w _ _)
  have hz0 : BBox (((w.alloc (.cells #[.pointer (some ⟨g, 0, none⟩)] 23)).alloc (.cells #[.slice a R.length c, .int .i64 ch] 27)).alloc (.cells #[.bool false] 4)) (w.heap.size + 2) false := by
    have h2 := heap_alloc_new ((w.alloc (.cells #[.pointer (some ⟨g, 0, none⟩)] 23)).alloc (.cells #[.slice a R.length c, .int .i64 ch] 27)) (.cells #[.bool false] 4)
    rw [hs2] at h2
    exact h2
  have hs0 : (((w.alloc (.cells #[.pointer (some ⟨g, 0, none⟩)] 23)).alloc (.cells #[.slice a R.length c, .int .i64 ch] 27)).alloc (.cells #[.bool false] 4)).heap.size = w.heap.size + 3 := by simp
  have hso := sorted_any (((w.alloc (.cells #[.pointer (some ⟨g, 0, none⟩)] 23)).alloc (.cells #[.slice a R.length c, .int .i64 ch] 27)).alloc (.cells #[.bool false] 4)) B c a R T ch (own_below h.ref hb0) h.tie
  have HSO := Lib.hid hso
  have HD0 := Lib.hid (h.dict.below hb0)
  have HG := Lib.hid h.tie.good
  have HTL := Lib.hid h.tie.len
  have HP0 := Lib.hid hp0
  have HR0 := Lib.hid hr0
  have HZ0 := Lib.hid hz0
  have HB0 := Lib.hid hb0
  have HS0 := Lib.hid hs0
  have HQ1 := eql_keys
  obtain ⟨r0, r1⟩ := hr0.cells
  generalize R.length = N at *
  clear h hb0 hp0 hz0 hs0 hs2 hso hr0
  refine callsIn_of_wp_marks Try.func8 rfl trivial ?_ rfl
  simp only [Try.ntmps8, List.size_toArray, List.length_cons, List.length_nil, Nat.reduceAdd, Nat.reduceSub, Array.replicate_succ, Array.replicate_zero, List.push_toArray, List.append_toArray, List.nil_append, List.cons_append]
  refine wpIn_wide.2 ?_
  go_wp2_with fail
  generalize (((w.alloc (.cells #[.pointer (some ⟨g, 0, none⟩)] 23)).alloc (.cells #[.slice a N c, .int .i64 ch] 27)).alloc (.cells #[.bool false] 4)) = w0 at *
  refine HSO.out.mono ?_
  rintro e w1 ⟨sa, sc, rfl, hsr, hb1⟩
  obtain ⟨M, hM⟩ : ∃ M, T.length = M := ⟨_, rfl⟩
  rw [hM] at hsr hT HTL ⊢
  have HM := Lib.hid hM
  clear hM
  have hba : Below w1.heap.size w1 ((w1.alloc (.cells #[.slice sa M sc] 25)).alloc (.cells #[.int .i64 0] 3)) := ((Below.refl _ _).alloc (Nat.le_refl _) _).alloc (by simp) _
  have hbz := kF hba hb1
  have hs0 := HS0.out
  have HIZ : Hid (SaI w B g T ch a N c sa M sc w1.heap.size [] ((w1.alloc (.cells #[.slice sa M sc] 25)).alloc (.cells #[.int .i64 0] 3))) := Lib.hid
    ⟨HD0.out.below hbz, (hbz.block _ (by omega)).trans HP0.out, (hbz.block _ (by omega)).trans HR0.out, (hbz.block _ (by omega)).trans HZ0.out, own_below (by rw [← hs0]; exact hsr) hba, heap_alloc2_old w1 _ _, heap_alloc2_new w1 _ _, List.nil_prefix, kF hbz HB0.out⟩
  have HSZ := Lib.hid (show w0.heap.size ≤ w1.heap.size from hb1.size)
  have hk0 := HIZ.out.ptr.cell
  have HS4 := Lib.hid (show ((w1.alloc (.cells #[.slice sa M sc] 25)).alloc (.cells #[.int .i64 0] 3)).heap.size = w1.heap.size + 2 by simp)
  clear hsr hb1 hba hbz HD0 HP0 HR0 HZ0 HB0 r0 r1
  go_upto_region 3 with fail
  generalize (w1.alloc (.cells #[.slice sa M sc] 25)).alloc (.cells #[.int .i64 0] 3) = w4 at *
  generalize w1.heap.size = S5 at *
  go_wp2_with fail
  refine (keys_any w4 (some ⟨g, 0, none⟩)).mono ?_
  rintro e w5 ⟨rfl, rfl⟩
  have hb5 : Below w4.heap.size w4 (w4.alloc (.cells #[.pointer (some ⟨g, 0, none⟩)] 23)) := (Below.refl _ _).alloc (Nat.le_refl _) _
  have hx5 := heap_alloc_new w4 (.cells #[.pointer (some ⟨g, 0, none⟩)] 23)
  obtain ⟨s_, v_, hdi, _, _, _⟩ := HIZ.out.dic.below hb5
  have hs4 := HS4.out
  have hst := keys1_L 8 (by omega) w4.heap.size g s_ _ T ch v_ (fun k => k = S5 + 1) (fun _ => none) 0 loc_none _ (Nat.zero_le _) hx5 hdi (by have := HG.out.few; omega) HG.out.rise (fun x hx => by have := (HG.out.ok x hx).1; omega) (fun k hk => by simp; omega) (fun k hk => by cases hk)
  rw [HM.out] at hst
  have HST := Lib.hid hst
  have HI5 := Lib.hid (HIZ.out.step hb5)
  have HS5 := Lib.hid (show w4.heap.size + 1 = (w4.alloc (.cells #[.pointer (some ⟨g, 0, none⟩)] 23)).heap.size by simp)
  clear hb5 hx5 hdi hst HIZ hk0 hs4
  go_wp2_with fail
  generalize w4.alloc (.cells #[.pointer (some ⟨g, 0, none⟩)] 23) = w5 at *
  have HTX := Lib.hid (fun p (hp : p < M) => show ∃ x, T[p]? = some x from ⟨_, List.getElem?_eq_getElem (by rw [HM.out]; exact hp)⟩)
  refine (wpIn_wide (n := 9)).1 ?_
  refine range_M (by omega) (gf := 63) (lb := #[.pointer (some ⟨w4.heap.size, 0, none⟩)]) rfl (enters_of Try.func63 (by kernel_rfl) rfl) HST.out kq_t (fun X k o o' hk ho hc _ => kq_put loc_none (Nat.zero_le _) ho hc) (Below.refl _ _) (fun _ => rfl)
    (SaI w B g T ch a N c sa M sc S5) (SaX T) (SaI_own w B g T ch a N c sa M sc S5 _ (by have := HI5.out.bel.size; omega)) (fun _ => fun _ _ _ _ h _ _ => h) HI5.out (SaS w.heap.size g a N c ch S5 w4.heap.size sa M sc)
    (fun x a1 => fun _ X Y row ⟨kb, e, hk⟩ hg hr => ⟨kb, e, (heap_same hg hr hk).trans hk⟩) (fun W W' hW hb => kq_below loc_none (Nat.zero_le _) hb) ?assign ?body ?done ?stop
  case assign =>
    rintro lp ⟨y1, y2⟩ X K hK
    dsimp only [encK]
    gi_wp2
    exact hK _ _ ((Below.refl _ _).alloc (Nat.le_refl _) _) ⟨X.heap.size, rfl, heap_alloc_new X _⟩
  case body =>
    rintro lp pre ⟨y1, y2⟩ a1 X hI hlen ⟨kb, rfl, hk2⟩
    obtain ⟨x, hx⟩ := HTX.out pre.length hlen
    have hxT := List.mem_of_getElem? hx
    have hok := HG.out.ok x hxT
    obtain ⟨gs, rfl, hgs, hsc1, hsc2, hc7⟩ := rowsR_at hI.srt hx
    simp only [maxLen] at hsc2
    have hpn : ¬ ((M : Int) ≤ (pre.length : Int)) := by omega
    have hpI : (pre.length : Int) < (M : Int) := by omega
    have tge : decide (M ≤ pre.length) = false := decide_eq_false (by omega)
    have hfit : (pre ++ [(y1, y2)] <+: T.map keyI) ↔ (x.1 / 256 = y1 ∧ x.1 % 256 = y2) := by
      rw [pre_snocA hI.fit, List.getElem?_map, hx]
      simp [keyI_eq hok.1]
    have HFT := Lib.hid hfit
    have HIX := Lib.hid hI
    have HK2 := Lib.hid hk2
    have HS := Lib.hid (fun z (hz : Below X.heap.size X z) => show z.cell? ⟨S5 + 1, 0, none⟩ = some (.int .i64 pre.length) ∧ z.cell? ⟨S5, 0, none⟩ = some (.slice (some ⟨gs, 0, none⟩) M sc) ∧ z.cell? ⟨gs, pre.length * 7, none⟩ = some (.int .i64 (x.1 / 256)) ∧ z.cell? ⟨gs, pre.length * 7 + 1, none⟩ = some (.int .i64 (x.1 % 256)) ∧ z.cell? ⟨kb, 0, none⟩ = some (.int .i64 y1) ∧ z.cell? ⟨kb, 1, none⟩ = some (.int .i64 y2) from ⟨((HIX.out.step hz).at_).cell, ((HIX.out.step hz).sbx).cell, (cellsR (HIX.out.step hz).srt hx).1, (cellsR (HIX.out.step hz).srt hx).2.1, (HK2.out.below hz).cells.1, (HK2.out.below hz).cells.2⟩)
    have HC5 := Lib.hid (fun z (hz : Below X.heap.size X z) => show z.cell? ⟨gs, pre.length * 7 + 2, none⟩ = some (.int .i64 x.2.k) ∧ z.cell? ⟨gs, pre.length * 7 + 3, none⟩ = some (.int .i64 x.2.a) ∧ z.cell? ⟨gs, pre.length * 7 + 4, none⟩ = some (.int .i64 x.2.lo) ∧ z.cell? ⟨gs, pre.length * 7 + 5, none⟩ = some (.int .i64 x.2.hi) ∧ z.cell? ⟨gs, pre.length * 7 + 6, none⟩ = some (.string (strOfNums x.2.b)) from ⟨(cellsR (HIX.out.step hz).srt hx).2.2.1, (cellsR (HIX.out.step hz).srt hx).2.2.2.1, (cellsR (HIX.out.step hz).srt hx).2.2.2.2.1, (cellsR (HIX.out.step hz).srt hx).2.2.2.2.2.1, (cellsR (HIX.out.step hz).srt hx).2.2.2.2.2.2⟩)
    have hrw := fun z (hz : Below X.heap.size X z) => at_rawl (x := x.1) (L := x.2.b) (HIX.out.step hz).dic HG.out hok.1 ((hasI_iff HG.out.rise).2 ⟨x, hxT, rfl⟩) (by rw [thI_of HG.out.rise hxT])
    have hsp := fun z (hz : Below X.heap.size X z) => at_spec (x.1 / 256) (x.1 % 256) (HIX.out.step hz).dic HG.out
    rw [num_self hok.1, (hasI_iff HG.out.rise).2 ⟨x, hxT, rfl⟩, thI_of HG.out.rise hxT] at hsp
    have HRW := Lib.hid hrw
    have HSP := Lib.hid hsp
    have HKF := Lib.hid (fun z (hz : Below X.heap.size X z) => show KeepsFrom w5.heap.size X z from ⟨hz.size, fun k o _ hk _ => (hz.block k (Array.getElem?_eq_some_iff.1 hk).1).trans hk⟩)
    clear hI hk2 hx hxT hok hfit hrw hsp hc7 hgs
    generalize x.1 / 256 = xi at *
    generalize x.1 % 256 = xj at *
    dsimp only [SaF]
    by_cases hxy : xi = y1 ∧ xj = y2
    · obtain ⟨rfl, rfl⟩ := hxy
      have HY := Lib.hid (HFT.out.2 ⟨rfl, rfl⟩)
      clear HFT
      gi_wp2_with fail
      refine wpIn_region_last (fun w' => w'.cell? ⟨S5 + 1, 0, none⟩ = some (.int .i64 pre.length) ∧ w'.cell? ⟨S5, 0, none⟩ = some (.slice (some ⟨gs, 0, none⟩) M sc) ∧ w'.cell? ⟨gs, pre.length * 7, none⟩ = some (.int .i64 xi) ∧ w'.cell? ⟨gs, pre.length * 7 + 1, none⟩ = some (.int .i64 xj) ∧ w'.cell? ⟨kb, 0, none⟩ = some (.int .i64 xi) ∧ w'.cell? ⟨kb, 1, none⟩ = some (.int .i64 xj)) 12 (by kernel_rfl) (by kernel_rfl) (HS.out _ (kD _)) (fun hHeld => ?_)
      have HB0 := Lib.hid (kD X)
      generalize X.drew = x0 at *
      refine wpAnyL_take (i := 0) (v := ?_) rfl (by kernel_rfl) (by kernel_rfl) (by kernel_rfl) (by kernel_rfl) (by kernel_rfl) (fun _ _ _ h => h) (Or.inl ⟨by rfl, ?_⟩) (by assumption) ?_
      rotate_left
      · intro wq hSw; (try dsimp only at hSw); first | (go_simp; done) | (go_simp; with_reducible rfl) | with_reducible rfl
      go_simp
      refine wpAnyL_take (i := 1) (v := ?_) rfl (by kernel_rfl) (by kernel_rfl) (by kernel_rfl) (by kernel_rfl) (by kernel_rfl) (fun _ _ _ h => h) (Or.inl ⟨by rfl, ?_⟩) (by assumption) ?_
      rotate_left
      · intro wq hSw; (try dsimp only at hSw); first | (go_simp; done) | (go_simp; with_reducible rfl) | with_reducible rfl
      go_simp
      refine wpAnyL_take (i := 2) (v := ?_) rfl (by kernel_rfl) (by kernel_rfl) (by kernel_rfl) (by kernel_rfl) (by kernel_rfl) (fun _ _ _ h => h) (Or.inl ⟨by rfl, ?_⟩) (by assumption) ?_
      rotate_left
      · intro wq hSw; (try dsimp only at hSw); first | (go_simp; done) | (go_simp; with_reducible rfl) | with_reducible rfl
      go_simp
      refine wpAnyL_take (i := 3) (v := ?_) rfl (by kernel_rfl) (by kernel_rfl) (by kernel_rfl) (by kernel_rfl) (by kernel_rfl) (fun _ _ _ h => h) (Or.inl ⟨by rfl, ?_⟩) (by assumption) ?_
      rotate_left
      · intro wq hSw; (try dsimp only at hSw); first | (go_simp; done) | (go_simp; with_reducible rfl) | with_reducible rfl
      go_simp
      refine wpAnyL_take (i := 4) (v := ?_) rfl (by kernel_rfl) (by kernel_rfl) (by kernel_rfl) (by kernel_rfl) (by kernel_rfl) (fun _ _ _ h => h) (Or.inl ⟨by rfl, ?_⟩) (by assumption) ?_
      rotate_left
      · intro wq hSw; (try dsimp only at hSw); first | (go_simp; done) | (go_simp; with_reducible rfl) | with_reducible rfl
      go_simp
      try simp only [tge]
      refine wpAnyL_take (i := 5) (v := ?_) rfl (by kernel_rfl) (by kernel_rfl) (by kernel_rfl) (by kernel_rfl) (by kernel_rfl) (fun _ _ _ h => h) (Or.inl ⟨by rfl, ?_⟩) (by assumption) ?_
      rotate_left
      · intro wq hSw; (try dsimp only at hSw); first | (go_simp; done) | (go_simp; with_reducible rfl) | with_reducible rfl
      go_simp
      refine wpAnyL_take (i := 6) (v := ?_) rfl (by kernel_rfl) (by kernel_rfl) (by kernel_rfl) (by kernel_rfl) (by kernel_rfl) (fun _ _ _ h => h) (Or.inl ⟨by rfl, ?_⟩) (by assumption) ?_
      rotate_left
      · intro wq hSw; (try dsimp only at hSw); first | (go_simp; done) | (go_simp; with_reducible rfl) | with_reducible rfl
      go_simp
      refine wpAnyL_take (i := 7) (v := ?_) rfl (by kernel_rfl) (by kernel_rfl) (by kernel_rfl) (by kernel_rfl) (by kernel_rfl) (fun _ _ _ h => h) (Or.inl ⟨by rfl, ?_⟩) (by assumption) ?_
      rotate_left
      · intro wq hSw; (try dsimp only at hSw); first | (go_simp; done) | (go_simp; with_reducible rfl) | with_reducible rfl
      go_simp
      refine wpAnyL_take (i := 8) (v := ?_) rfl (by kernel_rfl) (by kernel_rfl) (by kernel_rfl) (by kernel_rfl) (by kernel_rfl) (fun _ _ _ h => h) (Or.inl ⟨by rfl, ?_⟩) (by assumption) ?_
      rotate_left
      · intro wq hSw; (try dsimp only at hSw); first | (go_simp; done) | (go_simp; with_reducible rfl) | with_reducible rfl
      go_simp
      refine wpAnyL_take (i := 9) (v := ?_) rfl (by kernel_rfl) (by kernel_rfl) (by kernel_rfl) (by kernel_rfl) (by kernel_rfl) (fun _ _ _ h => h) (Or.inl ⟨by rfl, ?_⟩) (by assumption) ?_
      rotate_left
      · intro wq hSw; (try dsimp only at hSw); first | (go_simp; done) | (go_simp; with_reducible rfl) | with_reducible rfl
      go_simp
      refine wpAnyL_take (i := 10) (v := ?_) rfl (by kernel_rfl) (by kernel_rfl) (by kernel_rfl) (by kernel_rfl) (by kernel_rfl) (fun _ _ _ h => h) (Or.inl ⟨by rfl, ?_⟩) (by assumption) ?_
      rotate_left
      · intro wq hSw; (try dsimp only at hSw); first | (go_simp; done) | (go_simp; with_reducible rfl) | with_reducible rfl
      go_simp
      refine wpAnyL_take (i := 11) (v := ?_) rfl (by kernel_rfl) (by kernel_rfl) (by kernel_rfl) (by kernel_rfl) (by kernel_rfl) (fun _ _ _ h => h) (Or.inl ⟨by rfl, ?_⟩) (by assumption) ?_
      rotate_left
      · intro wq hSw; (try dsimp only at hSw); first | (go_simp; done) | (go_simp; with_reducible rfl) | with_reducible rfl
      go_simp
      refine wpAnyL_ready (rs := [12]) (by kernel_rfl) (by simp) ?_
      refine AllReadyL.last rfl (fun K hK => ?_)
      go_simp
      refine hK.out _ _ ?_
      clear hK K
      refine wpAnyL_done (by kernel_rfl) ?_ _
      simp only [noQ]
      clear hHeld
      have cp0 := (HIX.out.step HB0.out).ptr.cell
      obtain ⟨-, -, -, -, q0, q1⟩ := HS.out _ HB0.out
      gi_wp2_with fail
      refine ⟨trivial, ?_⟩
      refine (CallsIn.inRound lp (callsIn_wide.2 (HRW.out x0 HB0.out))).mono ?_
      rintro e X2 ⟨A1, n1, c1, rfl, hy1, hb2⟩
      have HB2 := Lib.hid (kF hb2 HB0.out)
      have HY1 := Lib.hid hy1
      have cp2 := (HIX.out.step HB2.out).ptr.cell
      obtain ⟨-, -, -, -, k0, k1⟩ := HS.out _ HB2.out
      clear hb2 hy1 HB0 cp0 q0 q1
      gi_wp2_with fail
      refine ⟨trivial, ?_⟩
      refine (CallsIn.inRound lp (callsIn_wide.2 (HSP.out X2 HB2.out))).mono ?_
      rintro e X3 ⟨rfl, hb3⟩
      have hba : Below X3.heap.size X3 (X3.alloc (.cells #[.int .i64 x.2.k, .int .i64 x.2.a, .int .i64 x.2.lo, .int .i64 x.2.hi] 35)) := (Below.refl _ _).alloc (Nat.le_refl _) _
      have HB4 := Lib.hid (kF hba (kF hb3 HB2.out))
      have HSQ : Hid (Spc (X3.alloc (.cells #[.int .i64 x.2.k, .int .i64 x.2.a, .int .i64 x.2.lo, .int .i64 x.2.hi] 35)) X3.heap.size x.2.k x.2.a x.2.lo x.2.hi) := Lib.hid (heap_alloc_new X3 _)
      have HY4 := Lib.hid ((HY1.out.step hb3).step hba)
      clear hb3 hba HB2 HY1 cp2 k0 k1
      gi_wp2_with fail
      generalize X3.alloc (.cells #[.int .i64 x.2.k, .int .i64 x.2.a, .int .i64 x.2.lo, .int .i64 x.2.hi] 35) = X4 at *
      generalize X3.heap.size = qb at *
      have HS2 := Lib.hid (fun z (hz : Below X4.heap.size X4 z) => show (convert 36 9 (.slice A1 n1 c1)).run Try.prog z = .ok (.string (strOfNums x.2.b)) z ∧ z.cell? ⟨S5 + 1, 0, none⟩ = some (.int .i64 pre.length) ∧ z.cell? ⟨S5, 0, none⟩ = some (.slice (some ⟨gs, 0, none⟩) M sc) ∧ (z.cell? ⟨gs, pre.length * 7 + 2, none⟩ = some (.int .i64 x.2.k) ∧ z.cell? ⟨gs, pre.length * 7 + 3, none⟩ = some (.int .i64 x.2.a) ∧ z.cell? ⟨gs, pre.length * 7 + 4, none⟩ = some (.int .i64 x.2.lo) ∧ z.cell? ⟨gs, pre.length * 7 + 5, none⟩ = some (.int .i64 x.2.hi) ∧ z.cell? ⟨gs, pre.length * 7 + 6, none⟩ = some (.string (strOfNums x.2.b))) ∧ z.cell? ⟨qb, 0, none⟩ = some (.int .i64 x.2.k) ∧ z.cell? ⟨qb, 1, none⟩ = some (.int .i64 x.2.a) ∧ z.cell? ⟨qb, 2, none⟩ = some (.int .i64 x.2.lo) ∧ z.cell? ⟨qb, 3, none⟩ = some (.int .i64 x.2.hi) from ⟨conv_any (HY4.out.step hz), (HS.out z (kF hz HB4.out)).1, (HS.out z (kF hz HB4.out)).2.1, HC5.out z (kF hz HB4.out), (HSQ.out.below hz).cells⟩)
      have he : ((strOfNums x.2.b).toList == (strOfNums x.2.b).toList) = true := by simp
      generalize x.2.k = xk at *
      generalize x.2.a = xa at *
      generalize x.2.lo = xl at *
      generalize x.2.hi = xh at *
      generalize x.2.b = xb at *
      refine wpIn_region_last (fun w' => (convert 36 9 (.slice A1 n1 c1)).run Try.prog w' = .ok (.string (strOfNums xb)) w' ∧ w'.cell? ⟨S5 + 1, 0, none⟩ = some (.int .i64 pre.length) ∧ w'.cell? ⟨S5, 0, none⟩ = some (.slice (some ⟨gs, 0, none⟩) M sc) ∧ (w'.cell? ⟨gs, pre.length * 7 + 2, none⟩ = some (.int .i64 xk) ∧ w'.cell? ⟨gs, pre.length * 7 + 3, none⟩ = some (.int .i64 xa) ∧ w'.cell? ⟨gs, pre.length * 7 + 4, none⟩ = some (.int .i64 xl) ∧ w'.cell? ⟨gs, pre.length * 7 + 5, none⟩ = some (.int .i64 xh) ∧ w'.cell? ⟨gs, pre.length * 7 + 6, none⟩ = some (.string (strOfNums xb))) ∧ w'.cell? ⟨qb, 0, none⟩ = some (.int .i64 xk) ∧ w'.cell? ⟨qb, 1, none⟩ = some (.int .i64 xa) ∧ w'.cell? ⟨qb, 2, none⟩ = some (.int .i64 xl) ∧ w'.cell? ⟨qb, 3, none⟩ = some (.int .i64 xh)) 24 (by kernel_rfl) (by kernel_rfl) (HS2.out _ (kD _)) (fun hHeld => ?_)
      have HB9 := Lib.hid (kF (kD X4) HB4.out)
      generalize X4.drew = x9 at *
      refine wpAnyL_take (i := 0) (v := ?_) rfl (by kernel_rfl) (by kernel_rfl) (by kernel_rfl) (by kernel_rfl) (by kernel_rfl) (fun _ _ _ h => h) (Or.inl ⟨by rfl, ?_⟩) (by assumption) ?_
      rotate_left
      · intro wq hSw; (try dsimp only at hSw); first | (go_simp; done) | (go_simp; with_reducible rfl) | with_reducible rfl
      go_simp
      refine wpAnyL_take (i := 1) (v := ?_) rfl (by kernel_rfl) (by kernel_rfl) (by kernel_rfl) (by kernel_rfl) (by kernel_rfl) (fun _ _ _ h => h) (Or.inl ⟨by rfl, ?_⟩) (by assumption) ?_
      rotate_left
      · intro wq hSw; (try dsimp only at hSw); first | (go_simp; done) | (go_simp; with_reducible rfl) | with_reducible rfl
      go_simp
      refine wpAnyL_take (i := 2) (v := ?_) rfl (by kernel_rfl) (by kernel_rfl) (by kernel_rfl) (by kernel_rfl) (by kernel_rfl) (fun _ _ _ h => h) (Or.inl ⟨by rfl, ?_⟩) (by assumption) ?_
      rotate_left
      · intro wq hSw; (try dsimp only at hSw); first | (go_simp; done) | (go_simp; with_reducible rfl) | with_reducible rfl
      go_simp
      refine wpAnyL_take (i := 3) (v := ?_) rfl (by kernel_rfl) (by kernel_rfl) (by kernel_rfl) (by kernel_rfl) (by kernel_rfl) (fun _ _ _ h => h) (Or.inl ⟨by rfl, ?_⟩) (by assumption) ?_
      rotate_left
      · intro wq hSw; (try dsimp only at hSw); first | (go_simp; done) | (go_simp; with_reducible rfl) | with_reducible rfl
      go_simp
      refine wpAnyL_take (i := 4) (v := ?_) rfl (by kernel_rfl) (by kernel_rfl) (by kernel_rfl) (by kernel_rfl) (by kernel_rfl) (fun _ _ _ h => h) (Or.inl ⟨by rfl, ?_⟩) (by assumption) ?_
      rotate_left
      · intro wq hSw; (try dsimp only at hSw); first | (go_simp; done) | (go_simp; with_reducible rfl) | with_reducible rfl
      go_simp
      refine wpAnyL_take (i := 5) (v := ?_) rfl (by kernel_rfl) (by kernel_rfl) (by kernel_rfl) (by kernel_rfl) (by kernel_rfl) (fun _ _ _ h => h) (Or.inl ⟨by rfl, ?_⟩) (by assumption) ?_
      rotate_left
      · intro wq hSw; (try dsimp only at hSw); first | (go_simp; done) | (go_simp; with_reducible rfl) | with_reducible rfl
      go_simp
      refine wpAnyL_take (i := 6) (v := ?_) rfl (by kernel_rfl) (by kernel_rfl) (by kernel_rfl) (by kernel_rfl) (by kernel_rfl) (fun _ _ _ h => h) (Or.inl ⟨by rfl, ?_⟩) (by assumption) ?_
      rotate_left
      · intro wq hSw; (try dsimp only at hSw); first | (go_simp; done) | (go_simp; with_reducible rfl) | with_reducible rfl
      go_simp
      refine wpAnyL_take (i := 7) (v := ?_) rfl (by kernel_rfl) (by kernel_rfl) (by kernel_rfl) (by kernel_rfl) (by kernel_rfl) (fun _ _ _ h => h) (Or.inl ⟨by rfl, ?_⟩) (by assumption) ?_
      rotate_left
      · intro wq hSw; (try dsimp only at hSw); first | (go_simp; done) | (go_simp; with_reducible rfl) | with_reducible rfl
      go_simp
      refine wpAnyL_take (i := 8) (v := ?_) rfl (by kernel_rfl) (by kernel_rfl) (by kernel_rfl) (by kernel_rfl) (by kernel_rfl) (fun _ _ _ h => h) (Or.inl ⟨by rfl, ?_⟩) (by assumption) ?_
      rotate_left
      · intro wq hSw; (try dsimp only at hSw); first | (go_simp; done) | (go_simp; with_reducible rfl) | with_reducible rfl
      go_simp
      refine wpAnyL_take (i := 9) (v := ?_) rfl (by kernel_rfl) (by kernel_rfl) (by kernel_rfl) (by kernel_rfl) (by kernel_rfl) (fun _ _ _ h => h) (Or.inl ⟨by rfl, ?_⟩) (by assumption) ?_
      rotate_left
      · intro wq hSw; (try dsimp only at hSw); first | (go_simp; done) | (go_simp; with_reducible rfl) | with_reducible rfl
      go_simp
      refine wpAnyL_take (i := 10) (v := ?_) rfl (by kernel_rfl) (by kernel_rfl) (by kernel_rfl) (by kernel_rfl) (by kernel_rfl) (fun _ _ _ h => h) (Or.inl ⟨by rfl, ?_⟩) (by assumption) ?_
      rotate_left
      · intro wq hSw; (try dsimp only at hSw); first | (go_simp; done) | (go_simp; with_reducible rfl) | with_reducible rfl
      go_simp
      refine wpAnyL_take (i := 11) (v := ?_) rfl (by kernel_rfl) (by kernel_rfl) (by kernel_rfl) (by kernel_rfl) (by kernel_rfl) (fun _ _ _ h => h) (Or.inl ⟨by rfl, ?_⟩) (by assumption) ?_
      rotate_left
      · intro wq hSw; (try dsimp only at hSw); first | (go_simp; done) | (go_simp; with_reducible rfl) | with_reducible rfl
      go_simp
      refine wpAnyL_take (i := 12) (v := ?_) rfl (by kernel_rfl) (by kernel_rfl) (by kernel_rfl) (by kernel_rfl) (by kernel_rfl) (fun _ _ _ h => h) (Or.inl ⟨by rfl, ?_⟩) (by assumption) ?_
      rotate_left
      · intro wq hSw; (try dsimp only at hSw); first | (go_simp; done) | (go_simp; with_reducible rfl) | with_reducible rfl
      go_simp
      refine wpAnyL_take (i := 13) (v := ?_) rfl (by kernel_rfl) (by kernel_rfl) (by kernel_rfl) (by kernel_rfl) (by kernel_rfl) (fun _ _ _ h => h) (Or.inl ⟨by rfl, ?_⟩) (by assumption) ?_
      rotate_left
      · intro wq hSw; (try dsimp only at hSw); first | (go_simp; done) | (go_simp; with_reducible rfl) | with_reducible rfl
      go_simp
      refine wpAnyL_take (i := 14) (v := ?_) rfl (by kernel_rfl) (by kernel_rfl) (by kernel_rfl) (by kernel_rfl) (by kernel_rfl) (fun _ _ _ h => h) (Or.inl ⟨by rfl, ?_⟩) (by assumption) ?_
      rotate_left
      · intro wq hSw; (try dsimp only at hSw); first | (go_simp; done) | (go_simp; with_reducible rfl) | with_reducible rfl
      go_simp
      refine wpAnyL_take (i := 15) (v := ?_) rfl (by kernel_rfl) (by kernel_rfl) (by kernel_rfl) (by kernel_rfl) (by kernel_rfl) (fun _ _ _ h => h) (Or.inl ⟨by rfl, ?_⟩) (by assumption) ?_
      rotate_left
      · intro wq hSw; (try dsimp only at hSw); first | (go_simp; done) | (go_simp; with_reducible rfl) | with_reducible rfl
      go_simp
      refine wpAnyL_take (i := 16) (v := ?_) rfl (by kernel_rfl) (by kernel_rfl) (by kernel_rfl) (by kernel_rfl) (by kernel_rfl) (fun _ _ _ h => h) (Or.inl ⟨by rfl, ?_⟩) (by assumption) ?_
      rotate_left
      · intro wq hSw; (try dsimp only at hSw); first | (go_simp; done) | (go_simp; with_reducible rfl) | with_reducible rfl
      go_simp
      refine wpAnyL_take (i := 17) (v := ?_) rfl (by kernel_rfl) (by kernel_rfl) (by kernel_rfl) (by kernel_rfl) (by kernel_rfl) (fun _ _ _ h => h) (Or.inl ⟨by rfl, ?_⟩) (by assumption) ?_
      rotate_left
      · intro wq hSw; (try dsimp only at hSw); first | (go_simp; done) | (go_simp; with_reducible rfl) | with_reducible rfl
      go_simp
      refine wpAnyL_take (i := 18) (v := ?_) rfl (by kernel_rfl) (by kernel_rfl) (by kernel_rfl) (by kernel_rfl) (by kernel_rfl) (fun _ _ _ h => h) (Or.inl ⟨by rfl, ?_⟩) (by assumption) ?_
      rotate_left
      · intro wq hSw; (try dsimp only at hSw); first | (go_simp; done) | (go_simp; with_reducible rfl) | with_reducible rfl
      go_simp
      refine wpAnyL_take (i := 19) (v := ?_) rfl (by kernel_rfl) (by kernel_rfl) (by kernel_rfl) (by kernel_rfl) (by kernel_rfl) (fun _ _ _ h => h) (Or.inl ⟨by rfl, ?_⟩) (by assumption) ?_
      rotate_left
      · intro wq hSw; (try dsimp only at hSw); first | (go_simp; done) | (go_simp; with_reducible rfl) | with_reducible rfl
      go_simp
      refine wpAnyL_take (i := 20) (v := ?_) rfl (by kernel_rfl) (by kernel_rfl) (by kernel_rfl) (by kernel_rfl) (by kernel_rfl) (fun _ _ _ h => h) (Or.inl ⟨by rfl, ?_⟩) (by assumption) ?_
      rotate_left
      · intro wq hSw; (try dsimp only at hSw); first | (go_simp; done) | (go_simp; with_reducible rfl) | with_reducible rfl
      go_simp
      refine wpAnyL_take (i := 21) (v := ?_) rfl (by kernel_rfl) (by kernel_rfl) (by kernel_rfl) (by kernel_rfl) (by kernel_rfl) (fun _ _ _ h => h) (Or.inl ⟨by rfl, ?_⟩) (by assumption) ?_
      rotate_left
      · intro wq hSw; (try dsimp only at hSw); first | (go_simp; done) | (go_simp; with_reducible rfl) | with_reducible rfl
      go_simp
      refine wpAnyL_take (i := 22) (v := ?_) rfl (by kernel_rfl) (by kernel_rfl) (by kernel_rfl) (by kernel_rfl) (by kernel_rfl) (fun _ _ _ h => h) (Or.inl ⟨by rfl, ?_⟩) (by assumption) ?_
      rotate_left
      · intro wq hSw; (try dsimp only at hSw); first | (go_simp; done) | (go_simp; with_reducible rfl) | with_reducible rfl
      go_simp
      refine wpAnyL_take (i := 23) (v := ?_) rfl (by kernel_rfl) (by kernel_rfl) (by kernel_rfl) (by kernel_rfl) (by kernel_rfl) (fun _ _ _ h => h) (Or.inl ⟨by rfl, ?_⟩) (by assumption) ?_
      rotate_left
      · intro wq hSw; (try dsimp only at hSw); first | (go_simp; done) | (go_simp; with_reducible rfl) | with_reducible rfl
      go_simp
      refine wpAnyL_ready (rs := [24]) (by kernel_rfl) (by simp) ?_
      refine AllReadyL.last rfl (fun K hK => ?_)
      go_simp
      refine hK.out _ _ ?_
      clear hK K
      refine wpAnyL_done (by kernel_rfl) ?_ _
      simp only [noQ]
      clear hHeld
      have HI9 := Lib.hid (HIX.out.step HB9.out)
      have c6 := HI9.out.at_.cell
      have f6 : x9.frozen? ⟨S5 + 1, 0, none⟩ = false := frozen_of_row _ _ 0 _ _ HI9.out.at_
      have HKF9 := Lib.hid (HKF.out _ HB9.out)
      have HKQ9 : Hid (Kq (fun k => k = S5 + 1) (fun _ => none) X x9) := Lib.hid (kq_below loc_none (Nat.zero_le _) HB9.out)
      gi_wp2
      refine ⟨HKF9.out.trans ((KeepsOthers.setCell _ _ _).from _), kq_t HKQ9.out ⟨by simp, fun k cs t fr hk hf _ => heap_other _ _ _ _ (by simpa using hf), .inl rfl⟩, HI9.out.store HY.out (by have := HSZ.out; have := HS0.out; omega)⟩
    · have HN := Lib.hid (fun h => hxy (HFT.out.1 h))
      have hxy2 : ¬ xi = y1 ∨ (xi = y1 ∧ ¬ xj = y2) := by omega
      clear hxy HFT
      rcases hxy2 with hxy | ⟨rfl, hxy⟩
      · gi_wp2_with fail
        refine wpIn_region_last (fun w' => w'.cell? ⟨S5 + 1, 0, none⟩ = some (.int .i64 pre.length) ∧ w'.cell? ⟨S5, 0, none⟩ = some (.slice (some ⟨gs, 0, none⟩) M sc) ∧ w'.cell? ⟨gs, pre.length * 7, none⟩ = some (.int .i64 xi) ∧ w'.cell? ⟨gs, pre.length * 7 + 1, none⟩ = some (.int .i64 xj) ∧ w'.cell? ⟨kb, 0, none⟩ = some (.int .i64 y1) ∧ w'.cell? ⟨kb, 1, none⟩ = some (.int .i64 y2)) 12 (by kernel_rfl) (by kernel_rfl) (HS.out _ (kD _)) (fun hHeld => ?_)
        have HB0 := Lib.hid (kD X)
        generalize X.drew = x0 at *
        refine wpAnyL_take (i := 0) (v := ?_) rfl (by kernel_rfl) (by kernel_rfl) (by kernel_rfl) (by kernel_rfl) (by kernel_rfl) (fun _ _ _ h => h) (Or.inl ⟨by rfl, ?_⟩) (by assumption) ?_
        rotate_left
        · intro wq hSw; (try dsimp only at hSw); first | (go_simp; done) | (go_simp; with_reducible rfl) | with_reducible rfl
        go_simp
        refine wpAnyL_take (i := 1) (v := ?_) rfl (by kernel_rfl) (by kernel_rfl) (by kernel_rfl) (by kernel_rfl) (by kernel_rfl) (fun _ _ _ h => h) (Or.inl ⟨by rfl, ?_⟩) (by assumption) ?_
        rotate_left
        · intro wq hSw; (try dsimp only at hSw); first | (go_simp; done) | (go_simp; with_reducible rfl) | with_reducible rfl
        go_simp
        refine wpAnyL_take (i := 2) (v := ?_) rfl (by kernel_rfl) (by kernel_rfl) (by kernel_rfl) (by kernel_rfl) (by kernel_rfl) (fun _ _ _ h => h) (Or.inl ⟨by rfl, ?_⟩) (by assumption) ?_
        rotate_left
        · intro wq hSw; (try dsimp only at hSw); first | (go_simp; done) | (go_simp; with_reducible rfl) | with_reducible rfl
        go_simp
        refine wpAnyL_take (i := 3) (v := ?_) rfl (by kernel_rfl) (by kernel_rfl) (by kernel_rfl) (by kernel_rfl) (by kernel_rfl) (fun _ _ _ h => h) (Or.inl ⟨by rfl, ?_⟩) (by assumption) ?_
        rotate_left
        · intro wq hSw; (try dsimp only at hSw); first | (go_simp; done) | (go_simp; with_reducible rfl) | with_reducible rfl
        go_simp
        refine wpAnyL_take (i := 4) (v := ?_) rfl (by kernel_rfl) (by kernel_rfl) (by kernel_rfl) (by kernel_rfl) (by kernel_rfl) (fun _ _ _ h => h) (Or.inl ⟨by rfl, ?_⟩) (by assumption) ?_
        rotate_left
        · intro wq hSw; (try dsimp only at hSw); first | (go_simp; done) | (go_simp; with_reducible rfl) | with_reducible rfl
        go_simp
        try simp only [tge]
        refine wpAnyL_take (i := 5) (v := ?_) rfl (by kernel_rfl) (by kernel_rfl) (by kernel_rfl) (by kernel_rfl) (by kernel_rfl) (fun _ _ _ h => h) (Or.inl ⟨by rfl, ?_⟩) (by assumption) ?_
        rotate_left
        · intro wq hSw; (try dsimp only at hSw); first | (go_simp; done) | (go_simp; with_reducible rfl) | with_reducible rfl
        go_simp
        refine wpAnyL_take (i := 6) (v := ?_) rfl (by kernel_rfl) (by kernel_rfl) (by kernel_rfl) (by kernel_rfl) (by kernel_rfl) (fun _ _ _ h => h) (Or.inl ⟨by rfl, ?_⟩) (by assumption) ?_
        rotate_left
        · intro wq hSw; (try dsimp only at hSw); first | (go_simp; done) | (go_simp; with_reducible rfl) | with_reducible rfl
        go_simp
        refine wpAnyL_take (i := 7) (v := ?_) rfl (by kernel_rfl) (by kernel_rfl) (by kernel_rfl) (by kernel_rfl) (by kernel_rfl) (fun _ _ _ h => h) (Or.inl ⟨by rfl, ?_⟩) (by assumption) ?_
        rotate_left
        · intro wq hSw; (try dsimp only at hSw); first | (go_simp; done) | (go_simp; with_reducible rfl) | with_reducible rfl
        go_simp
        refine wpAnyL_take (i := 8) (v := ?_) rfl (by kernel_rfl) (by kernel_rfl) (by kernel_rfl) (by kernel_rfl) (by kernel_rfl) (fun _ _ _ h => h) (Or.inl ⟨by rfl, ?_⟩) (by assumption) ?_
        rotate_left
        · intro wq hSw; (try dsimp only at hSw); first | (go_simp; done) | (go_simp; with_reducible rfl) | with_reducible rfl
        go_simp
        refine wpAnyL_take (i := 9) (v := ?_) rfl (by kernel_rfl) (by kernel_rfl) (by kernel_rfl) (by kernel_rfl) (by kernel_rfl) (fun _ _ _ h => h) (Or.inl ⟨by rfl, ?_⟩) (by assumption) ?_
        rotate_left
        · intro wq hSw; (try dsimp only at hSw); first | (go_simp; done) | (go_simp; with_reducible rfl) | with_reducible rfl
        go_simp
        refine wpAnyL_take (i := 10) (v := ?_) rfl (by kernel_rfl) (by kernel_rfl) (by kernel_rfl) (by kernel_rfl) (by kernel_rfl) (fun _ _ _ h => h) (Or.inl ⟨by rfl, ?_⟩) (by assumption) ?_
        rotate_left
        · intro wq hSw; (try dsimp only at hSw); first | (go_simp; done) | (go_simp; with_reducible rfl) | with_reducible rfl
        go_simp
        refine wpAnyL_take (i := 11) (v := ?_) rfl (by kernel_rfl) (by kernel_rfl) (by kernel_rfl) (by kernel_rfl) (by kernel_rfl) (fun _ _ _ h => h) (Or.inl ⟨by rfl, ?_⟩) (by assumption) ?_
        rotate_left
        · intro wq hSw; (try dsimp only at hSw); first | (go_simp; done) | (go_simp; with_reducible rfl) | with_reducible rfl
        go_simp
        refine wpAnyL_ready (rs := [12]) (by kernel_rfl) (by simp) ?_
        refine AllReadyL.last rfl (fun K hK => ?_)
        go_simp
        refine hK.out _ _ ?_
        clear hK K
        refine wpAnyL_done (by kernel_rfl) ?_ _
        simp only [noQ]
        clear hHeld
        have c4 := (HIX.out.step HB0.out).res.cell
        have f4 : x0.frozen? ⟨w.heap.size + 2, 0, none⟩ = false := frozen_of_row _ _ 0 _ _ (HIX.out.step HB0.out).res
        have HKF0 := Lib.hid (HKF.out _ HB0.out)
        gi_wp2
        exact ⟨HKF0.out.trans ((KeepsOthers.setCell _ _ _).from _), HN.out⟩
      · gi_wp2_with fail
        refine wpIn_region_last (fun w' => w'.cell? ⟨S5 + 1, 0, none⟩ = some (.int .i64 pre.length) ∧ w'.cell? ⟨S5, 0, none⟩ = some (.slice (some ⟨gs, 0, none⟩) M sc) ∧ w'.cell? ⟨gs, pre.length * 7, none⟩ = some (.int .i64 xi) ∧ w'.cell? ⟨gs, pre.length * 7 + 1, none⟩ = some (.int .i64 xj) ∧ w'.cell? ⟨kb, 0, none⟩ = some (.int .i64 xi) ∧ w'.cell? ⟨kb, 1, none⟩ = some (.int .i64 y2)) 12 (by kernel_rfl) (by kernel_rfl) (HS.out _ (kD _)) (fun hHeld => ?_)
        have HB0 := Lib.hid (kD X)
        generalize X.drew = x0 at *
        refine wpAnyL_take (i := 0) (v := ?_) rfl (by kernel_rfl) (by kernel_rfl) (by kernel_rfl) (by kernel_rfl) (by kernel_rfl) (fun _ _ _ h => h) (Or.inl ⟨by rfl, ?_⟩) (by assumption) ?_
        rotate_left
        · intro wq hSw; (try dsimp only at hSw); first | (go_simp; done) | (go_simp; with_reducible rfl) | with_reducible rfl
        go_simp
        refine wpAnyL_take (i := 1) (v := ?_) rfl (by kernel_rfl) (by kernel_rfl) (by kernel_rfl) (by kernel_rfl) (by kernel_rfl) (fun _ _ _ h => h) (Or.inl ⟨by rfl, ?_⟩) (by assumption) ?_
        rotate_left
        · intro wq hSw; (try dsimp only at hSw); first | (go_simp; done) | (go_simp; with_reducible rfl) | with_reducible rfl
        go_simp
        refine wpAnyL_take (i := 2) (v := ?_) rfl (by kernel_rfl) (by kernel_rfl) (by kernel_rfl) (by kernel_rfl) (by kernel_rfl) (fun _ _ _ h => h) (Or.inl ⟨by rfl, ?_⟩) (by assumption) ?_
        rotate_left
        · intro wq hSw; (try dsimp only at hSw); first | (go_simp; done) | (go_simp; with_reducible rfl) | with_reducible rfl
        go_simp
        refine wpAnyL_take (i := 3) (v := ?_) rfl (by kernel_rfl) (by kernel_rfl) (by kernel_rfl) (by kernel_rfl) (by kernel_rfl) (fun _ _ _ h => h) (Or.inl ⟨by rfl, ?_⟩) (by assumption) ?_
        rotate_left
        · intro wq hSw; (try dsimp only at hSw); first | (go_simp; done) | (go_simp; with_reducible rfl) | with_reducible rfl
        go_simp
        refine wpAnyL_take (i := 4) (v := ?_) rfl (by kernel_rfl) (by kernel_rfl) (by kernel_rfl) (by kernel_rfl) (by kernel_rfl) (fun _ _ _ h => h) (Or.inl ⟨by rfl, ?_⟩) (by assumption) ?_
        rotate_left
        · intro wq hSw; (try dsimp only at hSw); first | (go_simp; done) | (go_simp; with_reducible rfl) | with_reducible rfl
        go_simp
        try simp only [tge]
        refine wpAnyL_take (i := 5) (v := ?_) rfl (by kernel_rfl) (by kernel_rfl) (by kernel_rfl) (by kernel_rfl) (by kernel_rfl) (fun _ _ _ h => h) (Or.inl ⟨by rfl, ?_⟩) (by assumption) ?_
        rotate_left
        · intro wq hSw; (try dsimp only at hSw); first | (go_simp; done) | (go_simp; with_reducible rfl) | with_reducible rfl
        go_simp
        refine wpAnyL_take (i := 6) (v := ?_) rfl (by kernel_rfl) (by kernel_rfl) (by kernel_rfl) (by kernel_rfl) (by kernel_rfl) (fun _ _ _ h => h) (Or.inl ⟨by rfl, ?_⟩) (by assumption) ?_
        rotate_left
        · intro wq hSw; (try dsimp only at hSw); first | (go_simp; done) | (go_simp; with_reducible rfl) | with_reducible rfl
        go_simp
        refine wpAnyL_take (i := 7) (v := ?_) rfl (by kernel_rfl) (by kernel_rfl) (by kernel_rfl) (by kernel_rfl) (by kernel_rfl) (fun _ _ _ h => h) (Or.inl ⟨by rfl, ?_⟩) (by assumption) ?_
        rotate_left
        · intro wq hSw; (try dsimp only at hSw); first | (go_simp; done) | (go_simp; with_reducible rfl) | with_reducible rfl
        go_simp
        refine wpAnyL_take (i := 8) (v := ?_) rfl (by kernel_rfl) (by kernel_rfl) (by kernel_rfl) (by kernel_rfl) (by kernel_rfl) (fun _ _ _ h => h) (Or.inl ⟨by rfl, ?_⟩) (by assumption) ?_
        rotate_left
        · intro wq hSw; (try dsimp only at hSw); first | (go_simp; done) | (go_simp; with_reducible rfl) | with_reducible rfl
        go_simp
        refine wpAnyL_take (i := 9) (v := ?_) rfl (by kernel_rfl) (by kernel_rfl) (by kernel_rfl) (by kernel_rfl) (by kernel_rfl) (fun _ _ _ h => h) (Or.inl ⟨by rfl, ?_⟩) (by assumption) ?_
        rotate_left
        · intro wq hSw; (try dsimp only at hSw); first | (go_simp; done) | (go_simp; with_reducible rfl) | with_reducible rfl
        go_simp
        refine wpAnyL_take (i := 10) (v := ?_) rfl (by kernel_rfl) (by kernel_rfl) (by kernel_rfl) (by kernel_rfl) (by kernel_rfl) (fun _ _ _ h => h) (Or.inl ⟨by rfl, ?_⟩) (by assumption) ?_
        rotate_left
        · intro wq hSw; (try dsimp only at hSw); first | (go_simp; done) | (go_simp; with_reducible rfl) | with_reducible rfl
        go_simp
        refine wpAnyL_take (i := 11) (v := ?_) rfl (by kernel_rfl) (by kernel_rfl) (by kernel_rfl) (by kernel_rfl) (by kernel_rfl) (fun _ _ _ h => h) (Or.inl ⟨by rfl, ?_⟩) (by assumption) ?_
        rotate_left
        · intro wq hSw; (try dsimp only at hSw); first | (go_simp; done) | (go_simp; with_reducible rfl) | with_reducible rfl
        go_simp
        refine wpAnyL_ready (rs := [12]) (by kernel_rfl) (by simp) ?_
        refine AllReadyL.last rfl (fun K hK => ?_)
        go_simp
        refine hK.out _ _ ?_
        clear hK K
        refine wpAnyL_done (by kernel_rfl) ?_ _
        simp only [noQ]
        clear hHeld
        have c4 := (HIX.out.step HB0.out).res.cell
        have f4 : x0.frozen? ⟨w.heap.size + 2, 0, none⟩ = false := frozen_of_row _ _ 0 _ _ (HIX.out.step HB0.out).res
        have HKF0 := Lib.hid (HKF.out _ HB0.out)
        gi_wp2
        exact ⟨HKF0.out.trans ((KeepsOthers.setCell _ _ _).from _), HN.out⟩
  case stop =>
    rintro D cc pre X hD hSp hX hK
    exact absurd hSp hX
  case done =>
    rintro D ys X hD hS hI hK
    subst hS
    have hml : (T.map keyI).length = M := by rw [List.length_map]; exact HM.out
    have HIX := Lib.hid hI
    have HKD := Lib.hid hK
    have HDD := Lib.hid (show w.heap.size + 2 < D ∧ w.heap.size ≤ D by have h1 := HI5.out.bel.size; have h2 := (Array.getElem?_eq_some_iff.1 HI5.out.res).1; omega)
    have HS := Lib.hid (fun z (hz : Below X.heap.size X z) => show z.cell? ⟨S5 + 1, 0, none⟩ = some (.int .i64 M) ∧ z.cell? ⟨S5, 0, none⟩ = some (.slice sa M sc) ∧ z.cell? ⟨w.heap.size, 0, none⟩ = some (.pointer (some ⟨g, 0, none⟩)) ∧ z.cell? ⟨w.heap.size + 1, 1, none⟩ = some (.int .i64 ch) from
      ⟨by have h1 := (HIX.out.step hz).at_.cell; rw [hml] at h1; exact h1, (HIX.out.step hz).sbx.cell, (HIX.out.step hz).ptr.cell, (HIX.out.step hz).doc.cells.2⟩)
    have HLN := Lib.hid (fun z (hz : Below X.heap.size X z) => show Calls Try.prog 33 #[.pointer (some ⟨g, 0, none⟩)] z fun e w' => e = .returned (.int .i64 M) ∧ w' = z from by have h1 := at_len (HIX.out.step hz).dic; rw [HM.out] at h1; exact h1)
    have HCG := Lib.hid (fun z (hz : Below X.heap.size X z) => at_chg (HIX.out.step hz).dic)
    clear hI hK hml
    go_wp2_with fail
    refine wp_noQ (wp_region_last (fun w' => w'.cell? ⟨S5 + 1, 0, none⟩ = some (.int .i64 M) ∧ w'.cell? ⟨S5, 0, none⟩ = some (.slice sa M sc) ∧ w'.cell? ⟨w.heap.size, 0, none⟩ = some (.pointer (some ⟨g, 0, none⟩)) ∧ w'.cell? ⟨w.heap.size + 1, 1, none⟩ = some (.int .i64 ch)) 17 (by kernel_rfl) (HS.out _ (kD _)) (fun hHeld => ?_))
    have HB0 := Lib.hid (kD X)
    generalize X.drew = x0 at *
    refine wpAnyL_take (i := 0) (v := ?_) rfl (by kernel_rfl) (by kernel_rfl) (by kernel_rfl) (by kernel_rfl) (by kernel_rfl) (fun _ _ _ h => h) (Or.inl ⟨by rfl, ?_⟩) (by assumption) ?_
    rotate_left
    · intro wq hSw; (try dsimp only at hSw); first | (go_simp; done) | (go_simp; with_reducible rfl) | with_reducible rfl
    go_simp
    refine wpAnyL_take (i := 1) (v := ?_) rfl (by kernel_rfl) (by kernel_rfl) (by kernel_rfl) (by kernel_rfl) (by kernel_rfl) (fun _ _ _ h => h) (Or.inl ⟨by rfl, ?_⟩) (by assumption) ?_
    rotate_left
    · intro wq hSw; (try dsimp only at hSw); first | (go_simp; done) | (go_simp; with_reducible rfl) | with_reducible rfl
    go_simp
    refine wpAnyL_take (i := 2) (v := ?_) rfl (by kernel_rfl) (by kernel_rfl) (by kernel_rfl) (by kernel_rfl) (by kernel_rfl) (fun _ _ _ h => h) (Or.inl ⟨by rfl, ?_⟩) (by assumption) ?_
    rotate_left
    · intro wq hSw; (try dsimp only at hSw); first | (go_simp; done) | (go_simp; with_reducible rfl) | with_reducible rfl
    go_simp
    refine wpAnyL_take (i := 3) (v := ?_) rfl (by kernel_rfl) (by kernel_rfl) (by kernel_rfl) (by kernel_rfl) (by kernel_rfl) (fun _ _ _ h => h) (Or.inl ⟨by rfl, ?_⟩) (by assumption) ?_
    rotate_left
    · intro wq hSw; (try dsimp only at hSw); first | (go_simp; done) | (go_simp; with_reducible rfl) | with_reducible rfl
    go_simp
    refine wpAnyL_take (i := 4) (v := ?_) rfl (by kernel_rfl) (by kernel_rfl) (by kernel_rfl) (by kernel_rfl) (by kernel_rfl) (fun _ _ _ h => h) (Or.inl ⟨by rfl, ?_⟩) (by assumption) ?_
    rotate_left
    · intro wq hSw; (try dsimp only at hSw); first | (go_simp; done) | (go_simp; with_reducible rfl) | with_reducible rfl
    go_simp
    refine wpAnyL_take (i := 5) (v := ?_) rfl (by kernel_rfl) (by kernel_rfl) (by kernel_rfl) (by kernel_rfl) (by kernel_rfl) (fun _ _ _ h => h) (Or.inl ⟨by rfl, ?_⟩) (by assumption) ?_
    rotate_left
    · intro wq hSw; (try dsimp only at hSw); first | (go_simp; done) | (go_simp; with_reducible rfl) | with_reducible rfl
    go_simp
    refine wpAnyL_take (i := 7) (v := ?_) rfl (by kernel_rfl) (by kernel_rfl) (by kernel_rfl) (by kernel_rfl) (by kernel_rfl) (fun _ _ _ h => h) (Or.inl ⟨by rfl, ?_⟩) (by assumption) ?_
    rotate_left
    · intro wq hSw; (try dsimp only at hSw); first | (go_simp; done) | (go_simp; with_reducible rfl) | with_reducible rfl
    go_simp
    refine wpAnyL_ready (rs := [6]) (by kernel_rfl) (by simp) ?_
    refine (AllReadyL.cons rfl (fun K hK => ?_) AllReadyL.nil)
    go_simp
    go_wp2_with (go_at_call 33; refine (HLN.out _ HB0.out).mono ?_; rintro e x1 ⟨rfl, hx1⟩; rw [hx1]; clear hx1 x1)
    refine hK.out _ _ ?_ (fun hHeld => ?_)
    · (try dsimp only); exact HS.out _ HB0.out
    clear hK K
    refine wpAnyL_take (i := 8) (v := ?_) rfl (by kernel_rfl) (by kernel_rfl) (by kernel_rfl) (by kernel_rfl) (by kernel_rfl) (fun _ _ _ h => h) (Or.inl ⟨by rfl, ?_⟩) (by assumption) ?_
    rotate_left
    · intro wq hSw; (try dsimp only at hSw); first | (go_simp; done) | (go_simp; with_reducible rfl) | with_reducible rfl
    go_simp
    refine wpAnyL_take (i := 9) (v := ?_) rfl (by kernel_rfl) (by kernel_rfl) (by kernel_rfl) (by kernel_rfl) (by kernel_rfl) (fun _ _ _ h => h) (Or.inl ⟨by rfl, ?_⟩) (by assumption) ?_
    rotate_left
    · intro wq hSw; (try dsimp only at hSw); first | (go_simp; done) | (go_simp; with_reducible rfl) | with_reducible rfl
    go_simp
    refine wpAnyL_take (i := 10) (v := ?_) rfl (by kernel_rfl) (by kernel_rfl) (by kernel_rfl) (by kernel_rfl) (by kernel_rfl) (fun _ _ _ h => h) (Or.inl ⟨by rfl, ?_⟩) (by assumption) ?_
    rotate_left
    · intro wq hSw; (try dsimp only at hSw); first | (go_simp; done) | (go_simp; with_reducible rfl) | with_reducible rfl
    go_simp
    refine wpAnyL_take (i := 11) (v := ?_) rfl (by kernel_rfl) (by kernel_rfl) (by kernel_rfl) (by kernel_rfl) (by kernel_rfl) (fun _ _ _ h => h) (Or.inl ⟨by rfl, ?_⟩) (by assumption) ?_
    rotate_left
    · intro wq hSw; (try dsimp only at hSw); first | (go_simp; done) | (go_simp; with_reducible rfl) | with_reducible rfl
    go_simp
    refine wpAnyL_take (i := 13) (v := ?_) rfl (by kernel_rfl) (by kernel_rfl) (by kernel_rfl) (by kernel_rfl) (by kernel_rfl) (fun _ _ _ h => h) (Or.inl ⟨by rfl, ?_⟩) (by assumption) ?_
    rotate_left
    · intro wq hSw; (try dsimp only at hSw); first | (go_simp; done) | (go_simp; with_reducible rfl) | with_reducible rfl
    go_simp
    refine wpAnyL_take (i := 14) (v := ?_) rfl (by kernel_rfl) (by kernel_rfl) (by kernel_rfl) (by kernel_rfl) (by kernel_rfl) (fun _ _ _ h => h) (Or.inl ⟨by rfl, ?_⟩) (by assumption) ?_
    rotate_left
    · intro wq hSw; (try dsimp only at hSw); first | (go_simp; done) | (go_simp; with_reducible rfl) | with_reducible rfl
    go_simp
    refine wpAnyL_ready (rs := [12]) (by kernel_rfl) (by simp) ?_
    refine (AllReadyL.cons rfl (fun K hK => ?_) AllReadyL.nil)
    go_simp
    go_wp2_with (go_at_call 20; refine (HCG.out _ HB0.out).mono ?_; rintro e x1 ⟨rfl, hx1⟩; rw [hx1]; clear hx1 x1)
    refine hK.out _ _ ?_ (fun hHeld => ?_)
    · (try dsimp only); exact HS.out _ HB0.out
    clear hK K
    refine wpAnyL_take (i := 15) (v := ?_) rfl (by kernel_rfl) (by kernel_rfl) (by kernel_rfl) (by kernel_rfl) (by kernel_rfl) (fun _ _ _ h => h) (Or.inl ⟨by rfl, ?_⟩) (by assumption) ?_
    rotate_left
    · intro wq hSw; (try dsimp only at hSw); first | (go_simp; done) | (go_simp; with_reducible rfl) | with_reducible rfl
    go_simp
    refine wpAnyL_take (i := 16) (v := ?_) rfl (by kernel_rfl) (by kernel_rfl) (by kernel_rfl) (by kernel_rfl) (by kernel_rfl) (fun _ _ _ h => h) (Or.inl ⟨by rfl, ?_⟩) (by assumption) ?_
    rotate_left
    · intro wq hSw; (try dsimp only at hSw); first | (go_simp; done) | (go_simp; with_reducible rfl) | with_reducible rfl
    go_simp
    have hz2 : BBox x0 (w.heap.size + 2) false := (HIX.out.step HB0.out).res
    have c4 := hz2.cell
    have f4 : x0.frozen? ⟨w.heap.size + 2, 0, none⟩ = false := frozen_of_row _ _ 0 _ _ hz2
    have hd2 : x0.heap[D]? = some (.deferred (some [])) := (HB0.out.block _ (Array.getElem?_eq_some_iff.1 HKD.out).1).trans HKD.out
    have hw2 := kF HB0.out HIX.out.bel
    have hdd := HDD.out
    have hKS : (x0.setCell ⟨w.heap.size + 2, 0, none⟩ (.bool true)).heap[D]? = some (.deferred (some [])) := (heap_other _ _ _ _ (by simp; omega)).trans hd2
    have hcE : ((x0.setCell ⟨w.heap.size + 2, 0, none⟩ (.bool true)).putObj D (.deferred none)).cell? ⟨w.heap.size + 2, 0, none⟩ = some (.bool true) := by
      rw [cell_of_row _ _ _ _ _ _ ((World.putObj_heap_other (by omega)).trans (one_set hz2 (.bool true)))]; rfl
    have hE : Below w.heap.size w ((x0.setCell ⟨w.heap.size + 2, 0, none⟩ (.bool true)).putObj D (.deferred none)) := by
      have h1 := hw2.setCell (p := ⟨w.heap.size + 2, 0, none⟩) (by simp) (.bool true)
      exact h1.grown (grownBy_putObj' _ D (.deferred none)) h1.size (fun k e => by cases e; omega)
    have HKS := Lib.hid hKS
    have HCE := Lib.hid hcE
    have HE := Lib.hid hE
    clear hz2 hd2 hw2 hdd hKS hcE hE
    refine wpAnyL_ready (rs := [17]) (by kernel_rfl) (by simp) ?_
    refine AllReadyL.last rfl (fun K hK => ?_)
    go_simp
    refine hK.out _ _ ?_
    clear hK K
    refine wpAnyL_done (by kernel_rfl) ?_ _
    simp only [noQ]
    clear hHeld
    go_wp2_with fail
    refine ⟨by simp, .inl ⟨_, _, rfl, run_takeDeferred HKS.out, ?_⟩⟩
    refine ⟨.bool true, ?_, rfl, HE.out⟩
    simp [results, Try.f8, go_sem, HCE.out]
theorem same_any (w : World) (B g : Nat) (T : List (Int × Ent)) (ch : Int) (a : Option Addr) (c : Nat) (R : List (Int × Ent)) (h : Both B g T ch a c R w) (hT : T.length ≤ 500) :
    Calls Try.prog 8 #[.pointer (some ⟨g, 0, none⟩), .agg #[.slice a R.length c, .int .i64 ch]] w fun e w' => e = .returned (.bool true) ∧ Below w.heap.size w w' := callsIn_wide.1 (same_in w B g T ch a c R h hT)
end Go.Proofs.Ytmfjndkopkjchaa
