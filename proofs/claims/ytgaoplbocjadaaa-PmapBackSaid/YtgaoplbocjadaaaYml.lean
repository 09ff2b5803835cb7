/- Mappings: what entries get, in plain terms. -/
import Derived.Test.YtgaoplbocjadaaaYmf
import Derived.Lib.SmallJoins
import Derived.Deep.Slices
import Derived.StillTailTactics
import Derived.Deep.RegionHeld3
import Derived.Deep.RegionLaw
import Derived.Deep.RegionWith
import Derived.Deep.DeepMust
namespace Go.Proofs.Ytgaoplbocjadaaa
open Go.RowKit
set_option linter.unusedSimpArgs false
set_option linter.unusedVariables false
def bys (s : SlV) : Nat := (s.n / 8).toNat
/-- The part of a slot in the bytes of all. -/
def prt (l : List Int) (off : Nat) (s : SlV) : List Int := (l.drop off).take (bys s)
def fitF (T : List (Int × Ent)) (fs : Nat → SlV) (l : List Int) : Nat → Nat → Nat → Bool
  | 0, _, _ => true
  | m + 1, i, off => if fitsA (entS T (fs i)).k (entS T (fs i)).a (entS T (fs i)).lo (entS T (fs i)).hi (prt l off (fs i)) = 0 then fitF T fs l m (i + 1) (off + bys (fs i)) else false
def upT (fs : Nat → SlV) (l : List Int) : Nat → Nat → Nat → List (Int × Ent) → List (Int × Ent)
  | 0, _, _, U => U
  | m + 1, i, off, U => upT fs l m (i + 1) (off + bys (fs i)) (newT (pE (fs i).i (fs i).j (prt l off (fs i)) U) (fs i).i (fs i).j (prt l off (fs i)) U)
def unE (T : List (Int × Ent)) (fs : Nat → SlV) (n : Nat) (l : List Int) : Int := if ¬ chkE (mapB T) fs n = 0 then 14 else if ¬ (l.length : Int) = szE fs n then 11 else if fitF T fs l n 0 0 = true then 0 else 4
def unT (T : List (Int × Ent)) (fs : Nat → SlV) (n : Nat) (l : List Int) : List (Int × Ent) := if unE T fs n l = 0 then upT fs l n 0 0 T else T
/-- How many bytes the slots have together from one on. -/
def sumB (fs : Nat → SlV) : Nat → Nat → Nat
  | 0, _ => 0
  | m + 1, i => bys (fs i) + sumB fs m (i + 1)
theorem prt_len {l : List Int} {off : Nat} {s : SlV} (h : off + bys s ≤ l.length) : (prt l off s).length = bys s := by
  unfold prt
  rw [List.length_take, List.length_drop]
  omega
theorem prt_rng {l : List Int} {off : Nat} {s : SlV} (h : ∀ y ∈ l, 0 ≤ y ∧ y ≤ 255) : ∀ y ∈ prt l off s, 0 ≤ y ∧ y ≤ 255 := fun y hy => h y (List.mem_of_mem_drop (List.mem_of_mem_take hy))
theorem sumB_pk {T : List (Int × Ent)} (hG : Good T) (fs : Nat → SlV) : ∀ (m i : Nat), (∀ j, i ≤ j → j < i + m → mapB T (fs j) = true) → sumB fs m i = (pkF T fs m i).length
  | 0, i, _ => rfl
  | m + 1, i, h => by
    have hl := mapB_len hG (h i (by omega) (by omega))
    show bys (fs i) + sumB fs m (i + 1) = _
    rw [sumB_pk hG fs m (i + 1) (fun j h1 h2 => h j (by omega) (by omega))]
    simp only [pkF, List.length_append]
    unfold bys
    omega
theorem SameS.map {T U : List (Int × Ent)} (h : SameS T U) (s : SlV) : mapB T s = mapB U s := by
  obtain ⟨h1, h2, h3, _⟩ := h s.q
  unfold mapB entS
  rw [h1, h2, h3]
theorem SameS.mapf {T U : List (Int × Ent)} (h : SameS T U) : mapB T = mapB U := funext h.map
theorem bys_in {T : List (Int × Ent)} {s : SlV} (h : mapB T s = true) : (s.n = 8 ∧ bys s = 1) ∨ (s.n = 16 ∧ bys s = 2) ∨ (s.n = 32 ∧ bys s = 4) := by
  rcases mapB_bits h with e | e | e <;> (unfold bys; rw [e]; simp)
end Go.Proofs.Ytgaoplbocjadaaa
namespace Go.Proofs.Ytgaoplbocjadaaa
open Go.RowKit Go.Joins Go.ChangeShapes Go.WideShapes Go.Deep
set_option linter.unusedSimpArgs false
set_option linter.unusedVariables false
theorem cells_keyM : Try.prog.cellsOf 24 = 2 := by kernel_rfl
theorem cells_intM : Try.prog.cellsOf 3 = 1 := by kernel_rfl
theorem cells_slotM : Try.prog.cellsOf 26 = 3 := by kernel_rfl
theorem cells_bytesM : Try.prog.cellsOf 58 = 1 := by kernel_rfl
theorem list3M {α : Type} {l : List α} (h : l.length = 3) : ∃ c0 c1 c2, l = [c0, c1, c2] := by
  match l, h with
  | [c0, c1, c2], _ => exact ⟨c0, c1, c2, rfl⟩
theorem list1M {α : Type} {l : List α} (h : l.length = 1) : ∃ c0, l = [c0] := by
  match l, h with
  | [c0], _ => exact ⟨c0, rfl⟩
def SlsP (w : World) (B : Nat) (A : Option Addr) (n c : Nat) (fs : Nat → SlV) : Prop := Els SlC 3 w B A n c fs
def BssP (w : World) (B : Nat) (A : Option Addr) (n c : Nat) (fs : Nat → BsV) : Prop := Els BsC 1 w B A n c fs
section
variable {H : Type} {enc : TypeId × Value → H} {w : World}
theorem bytesM_of_trod {fuel : Nat} {A : Option Addr} {n c : Nat} {x : DataW H × List MemPlace} (hf : DataW.trod enc Try.prog w 0 (fun _ => true) true fuel 58 [.slice A n c] = some x) : ∃ l, Byt w w.heap.size A n c l := by
  rcases open_ints Try.underlying58 Try.underlying5 (by kernel_rfl) hf with ⟨hcs, _⟩ | ⟨x, l, c, zs, hcs, _, hl, hm, hz, _, hcell, hwz⟩
  · simp at hcs
    obtain ⟨rfl, rfl, rfl⟩ := hcs
    exact ⟨[], Byt.nil_ _ _⟩
  · simp at hcs
    obtain ⟨rfl, rfl, rfl⟩ := hcs
    exact ⟨_, byt_of_row hl hm (by simpa using hz) hcell hwz⟩
theorem sls_of_trod {fuel : Nat} {A : Option Addr} {n c : Nat} {x : DataW H × List MemPlace} (h : DataW.trod enc Try.prog w 0 (fun _ => true) true fuel 56 [.slice A n c] = some x) : ∃ fs, SlsP w w.heap.size A n c fs :=
  els_of_trod Try.underlying56 cells_slotM (by omega) (⟨0, 0, 0⟩ : SlV) SlC (fun fuel cs x b o ht hl hat => by
    obtain ⟨c0, c1, c2, rfl⟩ := list3M hl
    obtain ⟨y0, y1, m, _, _, h0, h1⟩ := trod_struct2 Try.underlying26 ht
    obtain ⟨z0, z1, m2, _, _, g0, g1⟩ := trod_struct2 Try.underlying24 h0
    simp only [cells_keyM, cells_intM] at h1 g0 g1
    obtain ⟨i, e0, _, w0⟩ := DataW.trod_int Try.underlying3 g0
    obtain ⟨j, e1, _, w1⟩ := DataW.trod_int Try.underlying3 g1
    obtain ⟨b2, e2, _, w2⟩ := DataW.trod_int Try.underlying3 h1
    simp at e0 e1 e2
    subst e0 e1 e2
    exact ⟨⟨i, j, b2⟩, hat 0 (by omega), hat 1 (by omega), hat 2 (by omega)⟩) h
theorem bss_of_trod {fuel : Nat} {A : Option Addr} {n c : Nat} {x : DataW H × List MemPlace} (h : DataW.trod enc Try.prog w 0 (fun _ => true) true fuel 55 [.slice A n c] = some x) : ∃ fs, BssP w w.heap.size A n c fs :=
  els_of_trod Try.underlying55 cells_bytesM (by omega) (⟨none, 0, 0, []⟩ : BsV) BsC (fun fuel cs x b o ht hl hat => by
    obtain ⟨c0, rfl⟩ := list1M hl
    obtain ⟨A, q, mm, e⟩ := slice_form Try.underlying58 ht
    simp at e
    subst e
    obtain ⟨l, hl2⟩ := bytesM_of_trod ht
    exact ⟨⟨A, q, mm, l⟩, hat 0 (by omega), hl2⟩) h
end
end Go.Proofs.Ytgaoplbocjadaaa
namespace Go.Proofs.Ytgaoplbocjadaaa
open Go.RowKit
set_option linter.unusedSimpArgs false
set_option linter.unusedVariables false
theorem clone_ty (w : World) (A : Option Addr) (n c : Nat) (l : List Int) (h : Byt w w.heap.size A n c l) (hn : n ≤ 140737488351232) :
    Calls Try.prog 69 #[.slice A n c] w fun e w' => ∃ A' c', e = .returned (.slice A' n c') ∧ Byt w' w'.heap.size A' n c' l ∧ Below w.heap.size w w' ∧ ∀ b o, A' = some ⟨b, o, none⟩ → w.heap.size ≤ b ∧ ∃ cs fr, w'.heap[b]? = some (.cells cs 5 fr) := by
  cases A with
  | none =>
    have h0 : n = 0 := by
      rcases Nat.eq_zero_or_pos n with h0 | h0
      · exact h0
      · obtain ⟨b, off, e', _⟩ := h.cells h0
        cases e'
    subst h0
    obtain rfl := List.eq_nil_of_length_eq_zero h.len
    clear h
    have he := fun w : World => Lib.run_eql_slice_nil (P := Try.prog) w 58 5 none 0 c 0 0 Try.underlying58
    go_enter Try.func69, Try.ntmps69
    go_wp2
    go_ret
    exact ⟨_, _, rfl, Byt.nil_ _ _, Below.refl _ _, fun _ _ h => by cases h⟩
  | some ad =>
    have he := fun w : World => Lib.run_eql_slice_nil (P := Try.prog) w 58 5 (some ad) n c 0 0 Try.underlying58
    go_enter Try.func69, Try.ntmps69
    go_wp2_with (at_builtin; refine wpList_bytes rfl (.tmp 5) (.tmp 6) rfl Try.underlying58 byte_info rfl (l := []) (own_lit w) rfl (h.keep (B := w.heap.size) (fun b o hlt => ((Below.refl w.heap.size w).alloc (Nat.le_refl _) _).cell (p := ⟨b, o, none⟩) hlt)) (by omega) (by simp) ?_; intro v1 w1 hown1 hbel1)
    go_ret
    rw [List.nil_append] at hown1
    obtain ⟨A', c', rfl, hB, hA⟩ := Byt.of_own hown1 h.rng
    exact ⟨_, _, by rw [Nat.zero_add]; rfl, by rw [Nat.zero_add] at hB; exact hB, ((Below.refl _ _).alloc (Nat.le_refl _) _).trans hbel1, fun b o e => by
      rcases hA with ⟨h1, _⟩ | ⟨g, h1, h2⟩
      · rw [h1] at e; cases e
      · rw [h1] at e; cases e; exact ⟨h2, by
        rcases hown1.2 with ⟨e1, _⟩ | ⟨b', cap', cur', e1, _, hb', _⟩
        · rw [h1] at e1; cases e1
        · rw [h1] at e1; cases e1; exact ⟨_, _, hb'⟩⟩⟩

/-- Bytes in a block of bytes. -/
def BytU (w : World) (A : Option Addr) (n c : Nat) (l : List Int) : Prop := Byt w w.heap.size A n c l ∧ ∀ b o, A = some ⟨b, o, none⟩ → ∃ cs fr, w.heap[b]? = some (.cells cs 5 fr)
/-- All blocks of bytes stay. -/
def KeepU (w w' : World) : Prop := w.heap.size ≤ w'.heap.size ∧ ∀ (k : Nat) cs fr, w.heap[k]? = some (Obj.cells cs 5 fr) → w'.heap[k]? = some (Obj.cells cs 5 fr)
theorem KeepU.below {w w' : World} (h : Below w.heap.size w w') : KeepU w w' := ⟨h.size, fun k cs fr hk => (h.block k (Array.getElem?_eq_some_iff.1 hk).1).trans hk⟩
theorem KeepU.oth {B : Nat} {w w' : World} (h : Oth B w w') : KeepU w w' := ⟨h.1.size, fun k cs fr hk => h.2 k cs _ fr hk (by unfold own3; decide)⟩
theorem KeepU.grown {w w' : World} {g : Nat} {cs : Array Value} {t : TypeId} {fr : Nat × Nat} (h : w.grownBy w' (some g)) (hg : w.heap[g]? = some (.cells cs t fr)) (ht : ¬ t = 5) : KeepU w w' :=
  ⟨h.size, fun k cs' fr' hk => (h.block k (Array.getElem?_eq_some_iff.1 hk).1 (fun e => by cases e; rw [hg] at hk; cases hk; exact ht rfl)).trans hk⟩
theorem KeepU.set {w : World} {g o : Nat} {v : Value} {cs : Array Value} {t : TypeId} {fr : Nat × Nat} (hg : w.heap[g]? = some (.cells cs t fr)) (ht : ¬ t = 5) : KeepU w (w.setCell ⟨g, o, none⟩ v) :=
  ⟨by simp, fun k cs' fr' hk => (Below.heap_setCell _ _ _ _ (by
    show ¬ k = g
    rintro rfl
    rw [hg] at hk
    cases hk
    exact ht rfl)).trans hk⟩
theorem KeepU.trans {a b c : World} (h : KeepU a b) (k : KeepU b c) : KeepU a c := ⟨Nat.le_trans h.1 k.1, fun q cs fr hq => k.2 q cs fr (h.2 q cs fr hq)⟩
theorem BytU.keep {w w' : World} {A : Option Addr} {n c : Nat} {l : List Int} (h : BytU w A n c l) (hk : KeepU w w') : BytU w' A n c l := by
  obtain ⟨hB, hT⟩ := h
  refine ⟨⟨hB.len, hB.cap, hB.max, hB.rng, fun h0 => ?_⟩, fun b o e => ?_⟩
  · obtain ⟨b, o, e, hb, hc⟩ := hB.cells h0
    obtain ⟨cs, fr, ht⟩ := hT b o e
    exact ⟨b, o, e, Nat.lt_of_lt_of_le hb hk.1, fun j hj => (World.cell?_of_block (a := ⟨b, o + j, none⟩) ((hk.2 b cs fr ht).trans ht.symm)).trans (hc j hj)⟩
  · obtain ⟨cs, fr, ht⟩ := hT b o e
    exact ⟨cs, fr, hk.2 b cs fr ht⟩
def RawK (w : World) (g s : Nat) (n : Nat) (l : List Int) (e : Ending) (w' : World) : Prop := ∃ A' c' A2 c2, e = .returned (.slice A2 s c2) ∧ BytU w' A2 s c2 (l.take s) ∧ RdAt w' g 0 A' (n - s) c' ∧ Byt w' g A' (n - s) c' (l.drop s) ∧ w.grownBy w' (some g)
set_option maxRecDepth 4000 in
theorem rraw_ty (w : World) (g s : Nat) (A : Option Addr) (n c : Nat) (l : List Int) (h : RdAt w g 0 A n c) (hB : Byt w g A n c l) (hn : n ≤ 140737488351232) (hsn : s ≤ n) :
    Calls Try.prog 109 #[.pointer (some ⟨g, 0, none⟩), .int .i64 s] w (RawK w g s n l) := by
  have hl := h.lt
  have hcp := hB.cap
  have hmx := hB.max
  simp only [maxLen] at hmx
  have HD : Hid (decide (¬ fer 0 (lackE n (s : Int)) = 0) = false) := Lib.hid (decide_eq_false (by simp [fer, lackE]; omega))
  have HLN := Lib.hid hB.len
  have HH := Lib.hid h
  have HHB := Lib.hid hB
  have hlk0 : lackE n (s : Int) = 0 := by simp [lackE]; omega
  have hlk : Calls Try.prog 130 #[.pointer (some ⟨g, 0, none⟩), .int .i64 s] w.drew fun e w'' => e = .returned (.int .i64 (lackE n s)) ∧ w'' = w.drew := (lacks_any w.drew g 0 s A n c h).mono fun _ _ ⟨h1, h2⟩ => ⟨h1, h2.symm⟩
  have HLK := Lib.hid hlk
  clear h hB hlk hlk0
  go_enter Try.func109, Try.ntmps109
  go_wp2_with fail
  refine wp_region_still_tail 9 (by kernel_rfl) (by kernel_rfl) ?_
  simp only [List.take_succ_cons, List.take_zero, List.drop_succ_cons, List.drop_zero]
  repeat still_step
  still_call (HLK.out)
  refine wpStill_nil ?_
  change wpList _ _ _ _ _ w.drew
  have HHd : RdAt w.drew g 0 A n c := HH.out
  go_wp2_with fail
  refine (fails_rd _ g 0 _ A n c HHd).mono ?_
  rintro e w2 ⟨he, h2, hg2⟩
  rw [HD.out] at he
  rw [show fer 0 (lackE n (s : Int)) = 0 from by simp [fer, lackE]; omega] at h2
  subst he
  have c1 := h2.c1
  have f1 := h2.f 1
  have hgl := h2.lt
  have hgw : w.grownBy w2 (some g) := ⟨hg2.os, hg2.tape, hg2.output, hg2.size, hg2.block⟩
  have hB2 := HHB.out.keep (w' := w2) (fun b o hlt => World.cell?_of_block (a := ⟨b, o, none⟩) (hgw.block b (Nat.lt_trans hlt hl) (fun e => by cases e; omega)))
  have H2 := Lib.hid h2
  have HB2 := Lib.hid hB2
  clear HHd h2 hB2
  go_wp2_with fail
  refine (clone_ty _ _ _ _ _ ((HB2.out.take hsn).more (Nat.le_of_lt hgl)) (by omega)).mono ?_
  rintro e w3 ⟨A3, c3, rfl, hB3, hb3, hA3⟩
  have HA3 := Lib.hid hA3
  clear hA3
  have h3 := H2.out.below hb3 hgl
  have c13 := h3.c1
  have f13 := h3.f 1
  have H3 := Lib.hid h3
  have HB3 := Lib.hid hB3
  clear h3 hB3
  go_wp2
  all_goals go_ret
  all_goals
    have hg3 : w2.grownBy w3 (some g) := grownw_below hb3
    have hgf := grownw_trans hgw hg3
    have hBc := (HB2.out.below (hb3.mono (Nat.le_of_lt hgl)))
    have hcut := (hBc.cut hsn).keep (w' := w3.setCell ⟨g, 1, none⟩ (.slice (if c = s then A else A.map (fun x => x.add s)) (n - s) (c - s))) (fun b o hlt => World.cell?_setCell_other _ _ _ _ (fun e => by cases e; omega))
    have hres : ∀ u : Value, Byt (w3.setCell ⟨g, 1, none⟩ u) (w3.setCell ⟨g, 1, none⟩ u).heap.size A3 s c3 (l.take s) := fun u =>
      ⟨HB3.out.len, HB3.out.cap, HB3.out.max, HB3.out.rng, fun h0 => by
        obtain ⟨b, o, e, hb, hc⟩ := HB3.out.cells h0
        have hbg := (HA3.out b o e).1
        exact ⟨b, o, e, by simpa [World.setCell] using hb, fun j hj => (World.cell?_setCell_other _ _ _ _ (fun e' => by have h1 := congrArg Addr.block e'; simp at h1; omega)).trans (hc j hj)⟩⟩
    have hty : ∀ (u : Value) b o, A3 = some ⟨b, o, none⟩ → ∃ cs fr, (w3.setCell ⟨g, 1, none⟩ u).heap[b]? = some (.cells cs 5 fr) := fun u b o e => by
      obtain ⟨hbg, cs, fr, hc⟩ := HA3.out b o e
      exact ⟨cs, fr, (Below.heap_setCell _ _ _ _ (by show ¬ b = g; omega)).trans hc⟩
    first
      | (have hcs : c = s := by assumption
         rw [if_pos hcs, show c - s = 0 by omega] at hcut
         exact ⟨_, _, A3, c3, rfl, ⟨hres _, hty _⟩, H3.out.set1, hcut, grownw_trans hgf (growns_set _ _ _ _)⟩)
      | (have hcs : ¬ c = s := by assumption
         rw [if_neg hcs] at hcut
         exact ⟨_, _, A3, c3, rfl, ⟨hres _, hty _⟩, H3.out.set1, hcut, grownw_trans hgf (growns_set _ _ _ _)⟩)
end Go.Proofs.Ytgaoplbocjadaaa
namespace Go.Proofs.Ytgaoplbocjadaaa
open Go.RowKit
set_option linter.unusedSimpArgs false
set_option linter.unusedVariables false
theorem info_bytesM : (Try.prog.info? 58).map (fun i => (i.zero, i.size, i.bytes)) = some (some (.slice none 0 0), 1, 24) := by kernel_rfl
theorem make_slices (n : Nat) (hn : n ≤ 1000) (w : World) : (Instr.makeSlice 55 (.int .i64 (n : Int)) (.int .i64 (n : Int))).run Try.prog w = .ok (.slice (some ⟨w.heap.size, 0, none⟩) n n) (w.alloc (.cells (madeCells #[.slice none 0 0] n) 58)) :=
  run_make_row' _ _ _ _ Try.underlying55 info_bytesM rfl .i64 .i64 n (by omega) (by omega) w
theorem made_slices (n : Nat) : madeCells #[Value.slice none 0 0] n = (List.replicate n (Value.slice none 0 0)).toArray := by
  apply Array.ext'
  have e : (fun x : Nat => [Value.slice none 0 0][x % 1]?.getD default) = fun _ => Value.slice none 0 0 := by funext x; simp [Nat.mod_one]
  simp [madeCells]
  rw [e, List.map_const', List.length_range]
structure Pts (w : World) (gp n i : Nat) (vs : Nat → BsV) : Prop where
  blk : ∃ cs, w.heap[gp]? = some (.cells cs 58 (0, 0)) ∧ cs.size = n ∧ (∀ j, j < i → cs[j]? = some (.slice (vs j).A (vs j).n (vs j).c)) ∧ ∀ j, i ≤ j → j < n → cs[j]? = some (.slice none 0 0)
  byt : ∀ j, j < i → BytU w (vs j).A (vs j).n (vs j).c (vs j).l
section
variable {w w' : World} {gp n i : Nat} {vs : Nat → BsV}
theorem Pts.lt (h : Pts w gp n i vs) : gp < w.heap.size := by
  obtain ⟨cs, hc, _⟩ := h.blk
  exact (Array.getElem?_eq_some_iff.1 hc).1
theorem Pts.keep (h : Pts w gp n i vs) (hb : w'.heap[gp]? = w.heap[gp]?) (hk : KeepU w w') : Pts w' gp n i vs := by
  obtain ⟨cs, hc, h1, h2, h3⟩ := h.blk
  exact ⟨⟨cs, hb.trans hc, h1, h2, h3⟩, fun j hj => (h.byt j hj).keep hk⟩
theorem Pts.below (h : Pts w gp n i vs) (hb : Below w.heap.size w w') : Pts w' gp n i vs := h.keep (hb.block _ h.lt) (.below hb)
theorem Pts.oth {B : Nat} (h : Pts w gp n i vs) (ho : Oth B w w') : Pts w' gp n i vs := by
  obtain ⟨cs, hc, _⟩ := h.blk
  exact h.keep ((ho.2 _ _ _ _ hc (by unfold own3; decide)).trans hc.symm) (.oth ho)
theorem Pts.cell (h : Pts w gp n i vs) {j : Nat} (hj : j < i) : w.cell? ⟨gp, j, none⟩ = some (.slice (vs j).A (vs j).n (vs j).c) := by
  obtain ⟨cs, hc, _, h2, _⟩ := h.blk
  rw [cell_of_row _ _ _ _ _ _ hc]
  exact h2 j hj
theorem Pts.nextc (h : Pts w gp n i vs) (hi : i < n) : w.cell? ⟨gp, i, none⟩ = some (.slice none 0 0) ∧ w.frozen? ⟨gp, i, none⟩ = false := by
  obtain ⟨cs, hc, _, _, h3⟩ := h.blk
  exact ⟨by rw [cell_of_row _ _ _ _ _ _ hc]; exact h3 i (Nat.le_refl _) hi, frozen_of_row _ _ _ _ _ hc⟩
theorem Pts.next (h : Pts w gp n i vs) (hi : i < n) (v : BsV) (hv : BytU w v.A v.n v.c v.l) : Pts (w.setCell ⟨gp, i, none⟩ (.slice v.A v.n v.c)) gp n (i + 1) (fun j => if j = i then v else vs j) := by
  obtain ⟨cs, hc, h1, h2, h3⟩ := h.blk
  have hk : KeepU w (w.setCell ⟨gp, i, none⟩ (.slice v.A v.n v.c)) := KeepU.set hc (by decide)
  refine ⟨⟨cs.setIfInBounds i (.slice v.A v.n v.c), ?_, by simp [h1], fun j hj => ?_, fun j hj1 hj2 => ?_⟩, fun j hj => ?_⟩
  · have h' : w.heap[gp]? = _ := hc
    simp [World.setCell, Array.getElem?_modify, h', Array.set!]
  · by_cases e : j = i
    · subst e
      simp [Array.getElem?_setIfInBounds, show j < cs.size by omega]
    · rw [Array.getElem?_setIfInBounds_ne (by omega), if_neg e]
      exact h2 j (by omega)
  · rw [Array.getElem?_setIfInBounds_ne (by omega)]
    exact h3 j (by omega) hj2
  · by_cases e : j = i
    · simp only [if_pos e]
      exact hv.keep hk
    · simp only [if_neg e]
      exact (h.byt j (by omega)).keep hk
theorem Pts.congr {us : Nat → BsV} (h : Pts w gp n i vs) (he : ∀ j, j < i → us j = vs j) : Pts w gp n i us := by
  obtain ⟨cs, hc, h1, h2, h3⟩ := h.blk
  exact ⟨⟨cs, hc, h1, fun j hj => by rw [he j hj]; exact h2 j hj, h3⟩, fun j hj => by rw [he j hj]; exact h.byt j hj⟩
end
theorem Pts.made (w : World) (n : Nat) (vs : Nat → BsV) : Pts (w.alloc (.cells (madeCells #[.slice none 0 0] n) 58)) w.heap.size n 0 vs :=
  ⟨⟨_, heap_alloc_new w _, by rw [made_slices]; simp, fun j hj => by omega, fun j _ hj => by rw [made_slices]; simp [hj]⟩, fun j hj => by omega⟩
theorem sumB_snoc (fs : Nat → SlV) : ∀ (m i : Nat), sumB fs (m + 1) i = sumB fs m i + bys (fs (i + m))
  | 0, i => by simp [sumB]
  | m + 1, i => by
    show bys (fs i) + sumB fs (m + 1) (i + 1) = bys (fs i) + sumB fs m (i + 1) + _
    rw [sumB_snoc fs m (i + 1), show i + 1 + m = i + (m + 1) by omega]
    omega
theorem sumB_le (fs : Nat → SlV) (l : List Int) {n i : Nat} (h : l.length = sumB fs n 0) (hi : i ≤ n) : sumB fs i 0 ≤ l.length := by
  rw [h]
  obtain ⟨k, rfl⟩ : ∃ k, n = i + k := ⟨n - i, by omega⟩
  clear hi h
  induction k with
  | zero => exact Nat.le_refl _
  | succ k ih => rw [← Nat.add_assoc, sumB_snoc]; omega
def PartsP (w : World) (fs : Nat → SlV) (n : Nat) (l : List Int) (e : Ending) (w' : World) : Prop := ∃ gp vs, e = .returned (.slice (some ⟨gp, 0, none⟩) n n) ∧ Pts w' gp n n vs ∧ (∀ i, i < n → (vs i).l = prt l (sumB fs i 0) (fs i)) ∧ Below w.heap.size w w' ∧ w.heap.size ≤ gp
set_option maxRecDepth 100000 in
set_option maxHeartbeats 8000000 in
theorem parts_any (w : World) (A A2 : Option Addr) (m c n c2 : Nat) (l : List Int) (fs : Nat → SlV) (hB : Byt w w.heap.size A m c l) (hL : Els SlC 3 w w.heap.size A2 n c2 fs) (h8 : n ≤ 8) (hbits : ∀ i, i < n → ((fs i).n = 8 ∧ bys (fs i) = 1) ∨ ((fs i).n = 16 ∧ bys (fs i) = 2) ∨ ((fs i).n = 32 ∧ bys (fs i) = 4)) (hlen : l.length = sumB fs n 0) :
    Calls Try.prog 73 #[.slice A m c, .slice A2 n c2] w (PartsP w fs n l) := by
  have hcap := hL.cap
  have hmax := hL.max
  simp only [maxLen] at hmax
  have HC := Lib.hid (fun (x : World) (hx : Below w.heap.size w x) (h0 : 0 < n) => show ∃ b off, A2 = some ⟨b, off, none⟩ ∧ b < w.heap.size ∧ ∀ i, i < n → SlC x b (off + i * 3) (fs i) from by
    obtain ⟨b, off, e, hb, h⟩ := hL.cells h0
    exact ⟨b, off, e, hb, fun i hi => (h i hi).below hb hx⟩)
  have HBT := Lib.hid hbits
  have HLE := Lib.hid (fun i (hi : i ≤ n) => sumB_le fs l hlen hi)
  have HML := Lib.hid hB.len
  have hm64 : m ≤ 64 := by
    have hs : ∀ k, k ≤ n → sumB fs k 0 ≤ 4 * k := by
      intro k hk
      induction k with
      | zero => simp [sumB]
      | succ k ih =>
        rw [sumB_snoc, Nat.zero_add]
        have := ih (by omega)
        have := hbits k (by omega)
        omega
    have := hs n (Nat.le_refl _)
    have := hB.len
    omega
  have HM64 := Lib.hid hm64
  have hnw := new_any w A m c l hB (by omega)
  have HNW := Lib.hid hnw
  have HSN := Lib.hid (fun i => (sumB_snoc fs i 0).trans (by rw [Nat.zero_add]))
  unfold PartsP
  clear hL hbits hlen hB hm64 hnw
  go_enter Try.func73, Try.ntmps73
  go_wp2_with fail
  refine HNW.out.mono ?_
  rintro e w1 ⟨gr, A', c', rfl, hg1, hr1, hy1, hb1, -⟩
  have hmk := make_slices n (by omega) w1
  have HPa := Lib.hid (fun vs => Pts.made w1 n vs)
  have hba : Below w1.heap.size w1 (w1.alloc (.cells (madeCells #[.slice none 0 0] n) 58)) := (Below.refl _ _).alloc (Nat.le_refl _) _
  have HBa := Lib.hid (kF hba hb1)
  have HGR : Hid (w.heap.size ≤ gr ∧ gr < w1.heap.size ∧ w.heap.size ≤ w1.heap.size) := Lib.hid ⟨hg1, hr1.lt, hb1.size⟩
  have HRa := Lib.hid (hr1.below hba hr1.lt)
  have HYa := Lib.hid (hy1.below (hba.mono (Nat.le_of_lt hr1.lt)))
  clear hba hg1 hr1 hy1 hb1 HNW
  go_wp2_with fail
  clear hmk
  generalize w1.alloc (.cells (madeCells #[.slice none 0 0] n) 58) = wa at *
  generalize w1.heap.size = gp at *
  go_loopw [16] (fun t wr => ∃ (i : Nat) (vs : Nat → BsV) (Ar : Option Addr) (cr : Nat), i ≤ n ∧ t = .int .i64 i ∧ Hid (Pts wr gp n i vs) ∧ Hid (∀ j, j < i → (vs j).l = prt l (sumB fs j 0) (fs j)) ∧ Hid (RdAt wr gr 0 Ar (m - sumB fs i 0) cr) ∧ Hid (Byt wr gr Ar (m - sumB fs i 0) cr (l.drop (sumB fs i 0))) ∧ Hid (Below w.heap.size w wr)) (fun t _ => n - (intOf t).toNat)
  case atStart => exact ⟨0, fun _ => ⟨none, 0, 0, []⟩, A', c', by omega, rfl, Lib.hid (HPa.out _), Lib.hid (fun j hj => by omega), HRa, HYa, HBa⟩
  case round =>
    clear HPa HRa HYa HBa
    obtain ⟨i, vs, Ar, cr, hi, rfl, HP, HV, HR, HY, HW⟩ := hrel
    by_cases hlt : i < n
    · have hiI : (i : Int) < (n : Int) := by omega
      obtain ⟨bk, off, rfl, hbk, hcs⟩ := HC.out wr HW.out (by omega)
      obtain ⟨c0, c1, c2'⟩ := hcs i hlt
      have hbi := HBT.out i hlt
      have HSI : Hid (sumB fs (i + 1) 0 = sumB fs i 0 + bys (fs i)) := Lib.hid (HSN.out i)
      have hle := HLE.out (i + 1) hlt
      rw [HSI.out] at hle
      have HPR : Hid ((l.drop (sumB fs i 0)).take (bys (fs i)) = prt l (sumB fs i 0) (fs i)) := Lib.hid rfl
      have HDR : Hid ((l.drop (sumB fs i 0)).drop (bys (fs i)) = l.drop (sumB fs (i + 1) 0)) := Lib.hid (by rw [HSI.out, List.drop_drop])
      have HMS : Hid (m - sumB fs i 0 - bys (fs i) = m - sumB fs (i + 1) 0) := Lib.hid (by rw [HSI.out]; omega)
      have HKL : Hid (bys (fs i) ≤ m - sumB fs i 0) := Lib.hid (by have := HML.out; omega)
      obtain ⟨K, hK⟩ : ∃ K, bys (fs i) = K := ⟨_, rfl⟩
      rw [hK] at hbi HPR HDR HMS HKL
      have HX : Hid (∀ (v : BsV), v.l = prt l (sumB fs i 0) (fs i) → ∀ j, j < i + 1 → ((fun j => if j = i then v else vs j) j).l = prt l (sumB fs j 0) (fs j)) := Lib.hid (fun v hv j hj => by
        by_cases e : j = i
        · simp only [if_pos e]; rw [hv, e]
        · simp only [if_neg e]; exact HV.out j (by omega))
      have HQ : Hid ((fs i).n.tdiv 8 = (K : Int)) := Lib.hid (by rcases hbi with ⟨e, e2⟩ | ⟨e, e2⟩ | ⟨e, e2⟩ <;> (rw [e, e2]; rfl))
      have hKs : K ≤ 4 := by omega
      clear hbi hle hK HV hcs HSI
      generalize prt l (sumB fs i 0) (fs i) = PI at *
      generalize fs i = s at *
      obtain ⟨si, sj, sn⟩ := s
      dsimp only at c0 c1 c2' HQ
      have hba : Below wr.heap.size wr (wr.alloc (.cells #[.int .i64 si, .int .i64 sj, .int .i64 sn] 26)) := (Below.refl _ _).alloc (Nat.le_refl _) _
      have HPA := Lib.hid (HP.out.below hba)
      have HRA := Lib.hid (HR.out.below hba HR.out.lt)
      have HYA := Lib.hid (HY.out.below (hba.mono (Nat.le_of_lt HR.out.lt)))
      have HWA := Lib.hid (kF hba HW.out)
      clear hba HP HR HY HW
      have iq : sn.tdiv 8 = (K : Int) := HQ.out
      have iw : IntKind.i64.wrap (K : Int) = (K : Int) := IntWalk.i64_in _ (by omega)
      go_wp2_with fail
      generalize wr.alloc (.cells #[.int .i64 si, .int .i64 sj, .int .i64 sn] 26) = wx at *
      have hrk := rraw_ty wx gr K Ar _ cr _ HRA.out HYA.out (by have := HM64.out; omega) HKL.out
      unfold RawK at hrk
      refine hrk.mono ?_
      rintro e w2 ⟨A3, c3, A4, c4, rfl, hu, hr, hy, hg⟩
      have HK2 := Lib.hid (KeepU.grown hg HRA.out (by decide))
      have HP2 := Lib.hid (HPA.out.keep (hg.block _ HPA.out.lt (fun e => by cases e; have := HGR.out; omega)) HK2.out)
      have HW2 := Lib.hid (HWA.out.grown hg HWA.out.size (fun k e => by cases e; exact HGR.out.1))
      have HR2 := Lib.hid hr
      have HY2 := Lib.hid hy
      rw [HPR.out] at hu
      rw [HDR.out] at hy
      have HU2 := Lib.hid hu
      have HN2 := Lib.hid (HP2.out.next hlt ⟨A4, K, c4, PI⟩ HU2.out)
      obtain ⟨n0, n1⟩ := HP2.out.nextc hlt
      obtain ⟨cs, hcs2, -⟩ := HP2.out.blk
      have HR3 := Lib.hid (show RdAt (w2.setCell ⟨gp, i, none⟩ (.slice A4 K c4)) gr 0 A3 (m - sumB fs (i + 1) 0) c3 from by rw [← HMS.out]; exact (Below.heap_setCell _ _ _ _ (by show ¬ gr = gp; have := HGR.out; omega)).trans hr)
      have HY3 := Lib.hid (show Byt (w2.setCell ⟨gp, i, none⟩ (.slice A4 K c4)) gr A3 (m - sumB fs (i + 1) 0) c3 (l.drop (sumB fs (i + 1) 0)) from by rw [← HMS.out]; exact hy.keep (fun b o hb => World.cell?_setCell_other _ _ _ _ (fun e' => by have h1 := congrArg Addr.block e'; simp at h1; have := HGR.out; omega)))
      have HW3 := Lib.hid (Below.setCell (p := ⟨gp, i, none⟩) HW2.out HGR.out.2.2 (.slice A4 K c4))
      have HV3 := Lib.hid (HX.out ⟨A4, K, c4, PI⟩ rfl)
      clear hrk hu hr hy hg hcs2 HK2 HP2 HW2 HR2 HY2 HU2 HPA HRA HYA HWA c0 c1 c2' iq iw
      go_wp2_with fail
      exact ⟨⟨i + 1, _, A3, c3, by omega, by go_num, HN2, HV3, HR3, HY3, HW3⟩, by simp [intOf]; omega⟩
    · have HIN : Hid (i = n) := Lib.hid (by omega)
      have HPn := Lib.hid (show Pts wr gp n n vs from by have := HP.out; rw [HIN.out] at this; exact this)
      have HVn := Lib.hid (show ∀ j, j < n → (vs j).l = prt l (sumB fs j 0) (fs j) from by have := HV.out; rw [HIN.out] at this; exact this)
      go_wp2_with fail
      go_ret
      exact ⟨gp, vs, rfl, HPn.out, HVn.out, HW.out, HGR.out.2.2⟩
end Go.Proofs.Ytgaoplbocjadaaa
