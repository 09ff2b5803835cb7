/- filled: both dictionaries with some bytes put. -/
import Derived.Test.YtgaoplbocjadaaaYme
namespace Go.Proofs.Ytgaoplbocjadaaa
open Go.RowKit
set_option linter.unusedSimpArgs false
set_option linter.unusedVariables false
/-- Two tables have the same names and specs. -/
def SameS (T U : List (Int × Ent)) : Prop := ∀ q, hasI q T = hasI q U ∧ (thI e0 q T).k = (thI e0 q U).k ∧ (thI e0 q T).a = (thI e0 q U).a ∧ (thI e0 q T).lo = (thI e0 q U).lo ∧ (thI e0 q T).hi = (thI e0 q U).hi
theorem SameS.refl (T : List (Int × Ent)) : SameS T T := fun _ => ⟨rfl, rfl, rfl, rfl, rfl⟩
theorem SameS.trans {T U V : List (Int × Ent)} (h : SameS T U) (k : SameS U V) : SameS T V := fun q =>
  ⟨(h q).1.trans (k q).1, (h q).2.1.trans (k q).2.1, (h q).2.2.1.trans (k q).2.2.1, (h q).2.2.2.1.trans (k q).2.2.2.1, (h q).2.2.2.2.trans (k q).2.2.2.2⟩
theorem pE_zero {i j : Int} {l : List Int} {T : List (Int × Ent)} (h : pE i j l T = 0) : hasI (numI i j) T = true ∧ ¬ (thI e0 (numI i j) T).a = 4 ∧ fitsA (thI e0 (numI i j) T).k (thI e0 (numI i j) T).a (thI e0 (numI i j) T).lo (thI e0 (numI i j) T).hi l = 0 := by
  unfold pE at h
  split at h
  · rename_i h1; exact absurd h h1
  · rename_i h1
    split at h
    · cases h
    · rename_i h2
      refine ⟨?_, ?_, by simpa using h2⟩
      · cases hh : hasI (numI i j) T with
        | true => rfl
        | false => exact absurd (by rw [hh]; simp [ownE]) h1
      · intro h4
        apply h1
        intro e
        unfold ownE at e
        split at e
        · exact absurd e (by decide)
        · first
            | exact absurd e (by decide)
            | (rw [if_pos h4] at e; exact absurd e (by decide))
theorem SameS.put {T : List (Int × Ent)} (hr : Rise T) (i j : Int) (l : List Int) : SameS (newT (pE i j l T) i j l T) T := by
  unfold newT
  split
  · rename_i h0
    obtain ⟨h1, _, _⟩ := pE_zero h0
    unfold givT
    split
    · exact SameS.refl T
    · intro q
      by_cases hq : q = numI i j
      · subst hq
        obtain ⟨e1, e2⟩ := thI_new (T := T) (k := numI i j) (E := ⟨(thI e0 (numI i j) T).k, (thI e0 (numI i j) T).a, (thI e0 (numI i j) T).lo, (thI e0 (numI i j) T).hi, l⟩) hr
        rw [e1, e2, h1]
        exact ⟨rfl, rfl, rfl, rfl, rfl⟩
      · obtain ⟨e1, e2⟩ := thI_old (T := T) (k := numI i j) (q := q) (E := ⟨(thI e0 (numI i j) T).k, (thI e0 (numI i j) T).a, (thI e0 (numI i j) T).lo, (thI e0 (numI i j) T).hi, l⟩) hr hq
        rw [e1, e2]
        exact ⟨rfl, rfl, rfl, rfl, rfl⟩
  · exact SameS.refl T
structure BsV where
  A : Option Addr
  n : Nat
  c : Nat
  l : List Int
structure BsC (w : World) (b o : Nat) (x : BsV) : Prop where
  c0 : w.cell? ⟨b, o, none⟩ = some (.slice x.A x.n x.c)
  byt : Byt w w.heap.size x.A x.n x.c x.l
theorem BsC.below {w w' : World} {b o : Nat} {x : BsV} (h : BsC w b o x) (hlt : b < w.heap.size) (hb : Below w.heap.size w w') : BsC w' b o x := ⟨(hb.cell (p := ⟨b, o, none⟩) hlt).trans h.c0, h.byt.step hb⟩
/-- What stands beside the two dictionaries. -/
structure FlX (w0 : World) (gr g1 : Nat) (a : Option Addr) (n c : Nat) (ch : Int) (x : World) : Prop where
  box : RBox x gr a n c ch
  res : RBox x g1 none 0 0 0
  gt : w0.heap.size ≤ gr ∧ w0.heap.size ≤ g1 ∧ g1 ≠ gr
  blw : Below w0.heap.size w0 x
section
variable {w0 x y : World} {B gr g1 : Nat} {a a' : Option Addr} {n c n' c' : Nat} {ch ch' : Int}
theorem FlX.step (h : FlX w0 gr g1 a n c ch x) (ho : Oth B x y) (hB : w0.heap.size ≤ B) : FlX w0 gr g1 a n c ch y := ⟨ho.2 _ _ _ _ h.box not3_D, ho.2 _ _ _ _ h.res not3_D, h.gt, h.blw.trans (ho.1.mono hB)⟩
theorem FlX.below (h : FlX w0 gr g1 a n c ch x) (hb : Below x.heap.size x y) : FlX w0 gr g1 a n c ch y := ⟨h.box.below hb, h.res.below hb, h.gt, kF hb h.blw⟩
theorem FlX.put (h : FlX w0 gr g1 a n c ch x) : FlX w0 gr g1 a' n' c' ch' ((x.setCell ⟨gr, 0, none⟩ (.slice a' n' c')).setCell ⟨gr, 1, none⟩ (.int .i64 ch')) :=
  ⟨h.box.two, (heap_other _ _ _ _ (by have := h.gt; simp; omega)).trans ((heap_other _ _ _ _ (by have := h.gt; simp; omega)).trans h.res), h.gt, Below.setCell (p := ⟨gr, 1, none⟩) (Below.setCell (p := ⟨gr, 0, none⟩) h.blw h.gt.1 _) h.gt.1 _⟩
end
theorem dict_put2G {B g gx : Nat} {T : List (Int × Ent)} {a : Option Addr} {n c : Nat} {ch chd : Int} {x : World} (h : RBox x gx a n c ch) (hd : DictAt B g T chd x) (a' : Option Addr) (n' c' : Nat) (v : Value) : DictAt B g T chd ((x.setCell ⟨gx, 0, none⟩ (.slice a' n' c')).setCell ⟨gx, 1, none⟩ v) :=
  (hd.set h not3_D 0 _).set (h.sl (a' := a') (n' := n') (c' := c')) not3_D 1 v
def FillP (w : World) (e : Ending) (w' : World) : Prop := ∃ (B g : Nat) (T R : List (Int × Ent)) (ch ch2 : Int) (a : Option Addr) (c : Nat), e = .returned (.tuple #[.pointer (some ⟨g, 0, none⟩), .agg #[.slice a R.length c, .int .i64 ch2]]) ∧
  w.heap.size ≤ B ∧ Both B g T ch a c R w' ∧ (0 ≤ ch ∧ ch ≤ 8) ∧ (0 ≤ ch2 ∧ ch2 ≤ 8) ∧ SameS T TLD ∧ Below w.heap.size w w'
set_option maxRecDepth 100000 in
set_option maxHeartbeats 8000000 in
theorem filled_any (w : World) (A : Option Addr) (n c : Nat) (fs : Nat → BsV) (hL : Els BsC 1 w w.heap.size A n c fs) : Calls Try.prog 21 #[.slice A n c] w (FillP w) := by
  have hcap := hL.cap
  have hmax := hL.max
  simp only [maxLen] at hmax
  have HC := Lib.hid (fun (x : World) (hx : Below w.heap.size w x) (h0 : 0 < n) => show ∃ b off, A = some ⟨b, off, none⟩ ∧ b < w.heap.size ∧ ∀ i, i < n → BsC x b (off + i) (fs i) from by
    obtain ⟨b, off, e, hb, h⟩ := hL.cells h0
    exact ⟨b, off, e, hb, fun i hi => by have := (h i hi).below hb hx; rwa [Nat.mul_one] at this⟩)
  clear hL
  unfold FillP
  go_enter Try.func21, Try.ntmps21
  go_wp2_with fail
  have hll := laid_any (w.alloc (.cells #[.slice none 0 0, .int .i64 0] 33))
  unfold LaidP at hll
  refine hll.mono ?_
  rintro e w1 ⟨g, a, cR, R, rfl, hbo, hb1⟩
  have hba : Below w.heap.size w (w.alloc (.cells #[.slice none 0 0, .int .i64 0] 33)) := (Below.refl _ _).alloc (Nat.le_refl _) _
  have hrs : RBox w1 w.heap.size none 0 0 0 := RBox.below (heap_alloc_new w _) hb1
  have hsz : w.heap.size < w1.heap.size := by have := hb1.size; simp at this; omega
  have hB1 : Below w.heap.size w w1 := kF hb1 hba
  have hal : Below w1.heap.size w1 (w1.alloc (.cells #[.slice a R.length cR, .int .i64 0] 33)) := (Below.refl _ _).alloc (Nat.le_refl _) _
  have HX2 : Hid (FlX w w1.heap.size w.heap.size a R.length cR 0 (w1.alloc (.cells #[.slice a R.length cR, .int .i64 0] 33))) := Lib.hid ⟨heap_alloc_new w1 _, hrs.below hal, ⟨by omega, Nat.le_refl _, by omega⟩, kF hal hB1⟩
  have HBS : Hid (w.heap.size ≤ (w.alloc (.cells #[.slice none 0 0, .int .i64 0] 33)).heap.size) := Lib.hid hba.size
  have hbo2 := hbo.below hal
  have HD2 := Lib.hid hbo2.dict
  have HO2 := Lib.hid hbo2.ref
  have HT2 := Lib.hid hbo2.tie
  have HBW := Lib.hid (Nat.le_trans hb1.size hal.size)
  clear hll hbo hb1 hba hrs hsz hB1 hal hbo2
  generalize (w.alloc (.cells #[.slice none 0 0, .int .i64 0] 33)).heap.size = B at *
  go_wp2_with fail
  generalize w1.alloc (.cells #[.slice a R.length cR, .int .i64 0] 33) = w2 at *
  generalize w1.heap.size = gr at *
  go_loopw [6] (fun t6 wr => ∃ (i : Nat) (T R : List (Int × Ent)) (ch ch2 : Int) (a : Option Addr) (cR : Nat), i ≤ n ∧ i ≤ 8 ∧ t6 = .int .i64 i ∧ Hid (FlX w gr w.heap.size a R.length cR ch2 wr) ∧ Hid (DictAt B g T ch wr) ∧ Hid (wr.ownsRow B 77 7 (.slice a R.length cR) R.length (fr R)) ∧ Hid (TieD T R) ∧ Hid (0 ≤ ch ∧ ch ≤ i ∧ 0 ≤ ch2 ∧ ch2 ≤ i) ∧ Hid (SameS T TLD) ∧ Hid (B ≤ wr.heap.size)) (fun t _ => n - (intOf t).toNat)
  case atStart => exact ⟨0, TLD, R, 0, 0, a, cR, by omega, by omega, rfl, HX2, HD2, HO2, HT2, Lib.hid (by omega), Lib.hid (SameS.refl _), HBW⟩
  case round =>
    clear HX2 HD2 HO2 HT2 HBW
    obtain ⟨i, T, R, ch, ch2, a, cR, hi, hi8, rfl, HX, HD, HO, HT, HCH, HSS, HBW⟩ := hrel
    by_cases hlt : i < n ∧ i < 8
    · obtain ⟨hin, hi2⟩ := hlt
      have hiI : (i : Int) < (n : Int) := by omega
      have hi8I : (i : Int) < 8 := by omega
      have iw : IntKind.i64.wrap ((i : Int) + 1) = (i : Int) + 1 := IntWalk.i64_in _ (by omega)
      obtain ⟨bk, off, rfl, hbk, hcs⟩ := HC.out wr HX.out.blw (by omega)
      clear hcs
      have HCX := Lib.hid (fun (x : World) (hx : Below w.heap.size w x) => show BsC x bk (off + i) (fs i) from by
        obtain ⟨b', o', e', -, hh⟩ := HC.out x hx (by omega)
        cases e'
        exact hh i hin)
      generalize fs i = s at *
      obtain ⟨sA, sn, sc, sl⟩ := s
      go_upto_region 6 with fail
      have hba : Below wr.heap.size wr (wr.alloc (.cells #[.int .i64 8192, .int .i64 ((i : Int) + 1)] 24)) := (Below.refl _ _).alloc (Nat.le_refl _) _
      have HK3 : Hid (Key2 (wr.alloc (.cells #[.int .i64 8192, .int .i64 ((i : Int) + 1)] 24)) wr.heap.size 8192 ((i : Int) + 1)) := Lib.hid (heap_alloc_new wr _)
      have HX3 := Lib.hid (HX.out.below hba)
      have HD3 := Lib.hid (HD.out.below hba)
      have HO3 := Lib.hid (own_below HO.out hba)
      have HBW3 := Lib.hid (Nat.le_trans HBW.out hba.size)
      have HNE : Hid (gr < wr.heap.size) := Lib.hid (Array.getElem?_eq_some_iff.1 HX.out.box).1
      have HGK : Hid (w.heap.size ≤ wr.heap.size) := Lib.hid HX.out.blw.size
      clear hba HX HD HO HBW
      generalize wr.alloc (.cells #[.int .i64 8192, .int .i64 ((i : Int) + 1)] 24) = w3 at *
      generalize wr.heap.size = gk at *
      refine wp_region_last (fun y => Below w3.heap.size w3 y) 6 (by kernel_rfl) (kD _) (fun hHeld => ?_)
      have HBv0 := Lib.hid (kD w3)
      have HSC := Lib.hid (fun (x : World) (hx : Below w3.heap.size w3 x) => show (x.cell? ⟨gk, 0, none⟩ = some (.int .i64 8192) ∧ x.cell? ⟨gk, 1, none⟩ = some (.int .i64 ((i : Int) + 1))) ∧ x.cell? ⟨bk, off + i, none⟩ = some (.slice sA sn sc) from ⟨(HK3.out.below hx).cells, (HCX.out x (kF hx HX3.out.blw)).c0⟩)
      generalize w3.drew = v0 at *
      refine wpAnyL_take (i := 0) (v := ?_) rfl (by kernel_rfl) (by kernel_rfl) (by kernel_rfl) (by kernel_rfl) (by kernel_rfl) (fun _ _ _ h => h) (Or.inl ⟨by rfl, ?_⟩) (by assumption) ?_
      rotate_left
      · intro wq hSw; (try dsimp only at hSw); (try obtain ⟨⟨q0, q1⟩, q2⟩ := HSC.out wq hSw); first | (go_simp; done) | (go_simp; with_reducible rfl) | with_reducible rfl
      go_simp
      refine wpAnyL_take (i := 1) (v := ?_) rfl (by kernel_rfl) (by kernel_rfl) (by kernel_rfl) (by kernel_rfl) (by kernel_rfl) (fun _ _ _ h => h) (Or.inl ⟨by rfl, ?_⟩) (by assumption) ?_
      rotate_left
      · intro wq hSw; (try dsimp only at hSw); (try obtain ⟨⟨q0, q1⟩, q2⟩ := HSC.out wq hSw); first | (go_simp; done) | (go_simp; with_reducible rfl) | with_reducible rfl
      go_simp
      refine wpAnyL_take (i := 2) (v := ?_) rfl (by kernel_rfl) (by kernel_rfl) (by kernel_rfl) (by kernel_rfl) (by kernel_rfl) (fun _ _ _ h => h) (Or.inl ⟨by rfl, ?_⟩) (by assumption) ?_
      rotate_left
      · intro wq hSw; (try dsimp only at hSw); (try obtain ⟨⟨q0, q1⟩, q2⟩ := HSC.out wq hSw); first | (go_simp; done) | (go_simp; with_reducible rfl) | with_reducible rfl
      go_simp
      refine wpAnyL_take (i := 3) (v := ?_) rfl (by kernel_rfl) (by kernel_rfl) (by kernel_rfl) (by kernel_rfl) (by kernel_rfl) (fun _ _ _ h => h) (Or.inl ⟨by rfl, ?_⟩) (by assumption) ?_
      rotate_left
      · intro wq hSw; (try dsimp only at hSw); (try obtain ⟨⟨q0, q1⟩, q2⟩ := HSC.out wq hSw); first | (go_simp; done) | (go_simp; with_reducible rfl) | with_reducible rfl
      go_simp
      refine wpAnyL_take (i := 4) (v := ?_) rfl (by kernel_rfl) (by kernel_rfl) (by kernel_rfl) (by kernel_rfl) (by kernel_rfl) (fun _ _ _ h => h) (Or.inl ⟨by rfl, ?_⟩) (by assumption) ?_
      rotate_left
      · intro wq hSw; (try dsimp only at hSw); (try obtain ⟨⟨q0, q1⟩, q2⟩ := HSC.out wq hSw); first | (go_simp; done) | (go_simp; with_reducible rfl) | with_reducible rfl
      go_simp
      refine wpAnyL_take (i := 5) (v := ?_) rfl (by kernel_rfl) (by kernel_rfl) (by kernel_rfl) (by kernel_rfl) (by kernel_rfl) (fun _ _ _ h => h) (Or.inl ⟨by rfl, ?_⟩) (by assumption) ?_
      rotate_left
      · intro wq hSw; (try dsimp only at hSw); (try obtain ⟨⟨q0, q1⟩, q2⟩ := HSC.out wq hSw); first | (go_simp; done) | (go_simp; with_reducible rfl) | with_reducible rfl
      go_simp
      refine wpAnyL_ready (rs := [6]) (by kernel_rfl) (by simp) ?_
      refine AllReadyL.last rfl (fun K hK => ?_)
      go_simp
      go_wp2_with fail
      refine (at_put 8192 ((i : Int) + 1) sl sA sn sc (HD3.out.below HBv0.out) HT.out.good (by have := HCH.out; omega) (HCX.out v0 (kF HBv0.out HX3.out.blw)).byt).mono ?_
      rintro e w4 ⟨rfl, hd4, ho4⟩
      have HD4 := Lib.hid hd4
      have HX4 := Lib.hid ((HX3.out.below HBv0.out).step ho4 HBS.out)
      have HO4 := Lib.hid (ho4.own (own_below HO3.out HBv0.out) not3_R)
      have HK4 : Hid (Key2 w4 gk 8192 ((i : Int) + 1)) := Lib.hid (ho4.2 _ _ _ _ (HK3.out.below HBv0.out) not3_K)
      have HBW4 := Lib.hid (Nat.le_trans HBW3.out (Nat.le_trans HBv0.out.size ho4.1.size))
      clear hd4 ho4 HD3 HX3 HO3 HK3 HBW3
      refine hK.out _ _ ?_
      clear hK K
      refine wpAnyL_done (by kernel_rfl) ?_ _
      clear hHeld HBv0 HSC
      have HT5 := Lib.hid (fun (y : World) (hy : y.ownsRow B 77 7 (.slice a R.length cR) R.length (fr R)) (hB : B ≤ y.heap.size) (hb : Byt y y.heap.size sA sn sc sl) => drput_tie (ch := ch2) 8192 ((i : Int) + 1) sl sA sn sc hy hB HT.out (by have := HCH.out; omega) hb)
      have HSS5 : Hid (SameS (newT (pE 8192 ((i : Int) + 1) sl T) 8192 ((i : Int) + 1) sl T) TLD) := Lib.hid ((SameS.put HT.out.good.rise _ _ _).trans HSS.out)
      have hc1 := newC_le (pE 8192 ((i : Int) + 1) sl T) 8192 ((i : Int) + 1) sl T ch
      have hc2 := newC_le (pE 8192 ((i : Int) + 1) sl T) 8192 ((i : Int) + 1) sl T ch2
      have HCH5 : Hid (0 ≤ newC (pE 8192 ((i : Int) + 1) sl T) 8192 ((i : Int) + 1) sl T ch ∧ newC (pE 8192 ((i : Int) + 1) sl T) 8192 ((i : Int) + 1) sl T ch ≤ ((i + 1 : Nat) : Int) ∧ 0 ≤ newC (pE 8192 ((i : Int) + 1) sl T) 8192 ((i : Int) + 1) sl T ch2 ∧ newC (pE 8192 ((i : Int) + 1) sl T) 8192 ((i : Int) + 1) sl T ch2 ≤ ((i + 1 : Nat) : Int)) := Lib.hid (by have := HCH.out; omega)
      clear hc1 hc2 HSS HCH HT
      generalize newC (pE 8192 ((i : Int) + 1) sl T) 8192 ((i : Int) + 1) sl T ch = nch at *
      generalize newC (pE 8192 ((i : Int) + 1) sl T) 8192 ((i : Int) + 1) sl T ch2 = nch2 at *
      generalize newT (pE 8192 ((i : Int) + 1) sl T) 8192 ((i : Int) + 1) sl T = U at *
      generalize pE 8192 ((i : Int) + 1) sl T = PE at *
      go_upto_region 7 with fail
      refine wp_region_last (fun y => Below w.heap.size w y ∧ Key2 y gk 8192 ((i : Int) + 1)) 10 (by kernel_rfl) ⟨kF (kD _) HX4.out.blw, HK4.out.below (kD _)⟩ (fun hHeld => ?_)
      have HBv0 := Lib.hid (kD w4)
      have HSC := Lib.hid (fun (x : World) (hx : Below w.heap.size w x ∧ Key2 x gk 8192 ((i : Int) + 1)) => show (x.cell? ⟨gk, 0, none⟩ = some (.int .i64 8192) ∧ x.cell? ⟨gk, 1, none⟩ = some (.int .i64 ((i : Int) + 1))) ∧ x.cell? ⟨bk, off + i, none⟩ = some (.slice sA sn sc) from ⟨hx.2.cells, (HCX.out x hx.1).c0⟩)
      have HSO := Lib.hid (fun (x : World) (hx : Below w4.heap.size w4 x) => show Below w.heap.size w x ∧ Key2 x gk 8192 ((i : Int) + 1) from ⟨kF hx HX4.out.blw, HK4.out.below hx⟩)
      generalize w4.drew = v0 at *
      refine wpAnyL_take (i := 1) (v := ?_) rfl (by kernel_rfl) (by kernel_rfl) (by kernel_rfl) (by kernel_rfl) (by kernel_rfl) (fun _ _ _ h => h) (Or.inl ⟨by rfl, ?_⟩) (by assumption) ?_
      rotate_left
      · intro wq hSw; (try dsimp only at hSw); (try obtain ⟨⟨q0, q1⟩, q2⟩ := HSC.out wq hSw); first | (go_simp; done) | (go_simp; with_reducible rfl) | with_reducible rfl
      go_simp
      refine wpAnyL_take (i := 2) (v := ?_) rfl (by kernel_rfl) (by kernel_rfl) (by kernel_rfl) (by kernel_rfl) (by kernel_rfl) (fun _ _ _ h => h) (Or.inl ⟨by rfl, ?_⟩) (by assumption) ?_
      rotate_left
      · intro wq hSw; (try dsimp only at hSw); (try obtain ⟨⟨q0, q1⟩, q2⟩ := HSC.out wq hSw); first | (go_simp; done) | (go_simp; with_reducible rfl) | with_reducible rfl
      go_simp
      refine wpAnyL_take (i := 3) (v := ?_) rfl (by kernel_rfl) (by kernel_rfl) (by kernel_rfl) (by kernel_rfl) (by kernel_rfl) (fun _ _ _ h => h) (Or.inl ⟨by rfl, ?_⟩) (by assumption) ?_
      rotate_left
      · intro wq hSw; (try dsimp only at hSw); (try obtain ⟨⟨q0, q1⟩, q2⟩ := HSC.out wq hSw); first | (go_simp; done) | (go_simp; with_reducible rfl) | with_reducible rfl
      go_simp
      refine wpAnyL_take (i := 4) (v := ?_) rfl (by kernel_rfl) (by kernel_rfl) (by kernel_rfl) (by kernel_rfl) (by kernel_rfl) (fun _ _ _ h => h) (Or.inl ⟨by rfl, ?_⟩) (by assumption) ?_
      rotate_left
      · intro wq hSw; (try dsimp only at hSw); (try obtain ⟨⟨q0, q1⟩, q2⟩ := HSC.out wq hSw); first | (go_simp; done) | (go_simp; with_reducible rfl) | with_reducible rfl
      go_simp
      refine wpAnyL_take (i := 5) (v := ?_) rfl (by kernel_rfl) (by kernel_rfl) (by kernel_rfl) (by kernel_rfl) (by kernel_rfl) (fun _ _ _ h => h) (Or.inl ⟨by rfl, ?_⟩) (by assumption) ?_
      rotate_left
      · intro wq hSw; (try dsimp only at hSw); (try obtain ⟨⟨q0, q1⟩, q2⟩ := HSC.out wq hSw); first | (go_simp; done) | (go_simp; with_reducible rfl) | with_reducible rfl
      go_simp
      refine wpAnyL_ready (rs := [0]) (by kernel_rfl) (by simp) ?_
      refine (AllReadyL.cons rfl (fun K hK => ?_) AllReadyL.nil)
      obtain ⟨d0, d1⟩ := (HX4.out.below HBv0.out).box.cells
      go_simp
      refine hK.out _ _ ?_ (fun hHeld => ?_)
      · (try dsimp only); exact HSO.out _ HBv0.out
      clear hK K
      clear d0 d1
      refine wpAnyL_ready (rs := [6]) (by kernel_rfl) (by simp) ?_
      refine (AllReadyL.cons rfl (fun K hK => ?_) AllReadyL.nil)
      go_simp
      go_wp2_with fail
      refine (HT5.out v0 (own_below HO4.out HBv0.out) (Nat.le_trans HBW4.out HBv0.out.size) (HCX.out v0 (kF HBv0.out HX4.out.blw)).byt).mono ?_
      rintro e v1 ⟨R', ⟨a', c', rfl, ho', hbz⟩, ht'⟩
      have HBv1 := Lib.hid (kF hbz HBv0.out)
      have HO' := Lib.hid ho'
      have HT' := Lib.hid ht'
      clear ho' ht' hbz
      refine hK.out _ _ ?_ (fun hHeld => ?_)
      · (try dsimp only); exact HSO.out _ HBv1.out
      clear hK K
      refine wpAnyL_take (i := 7) (v := ?_) rfl (by kernel_rfl) (by kernel_rfl) (by kernel_rfl) (by kernel_rfl) (by kernel_rfl) (fun _ _ _ h => h) (Or.inl ⟨by rfl, ?_⟩) (by assumption) ?_
      rotate_left
      · intro wq hSw; (try dsimp only at hSw); (try obtain ⟨⟨q0, q1⟩, q2⟩ := HSC.out wq hSw); first | (go_simp; done) | (go_simp; with_reducible rfl) | with_reducible rfl
      go_simp
      refine wpAnyL_take (i := 8) (v := ?_) rfl (by kernel_rfl) (by kernel_rfl) (by kernel_rfl) (by kernel_rfl) (by kernel_rfl) (fun _ _ _ h => h) (Or.inl ⟨by rfl, ?_⟩) (by assumption) ?_
      rotate_left
      · intro wq hSw; (try dsimp only at hSw); (try obtain ⟨⟨q0, q1⟩, q2⟩ := HSC.out wq hSw); first | (go_simp; done) | (go_simp; with_reducible rfl) | with_reducible rfl
      go_simp
      refine wpAnyL_ready (rs := [9, 10]) (by kernel_rfl) (by simp) ?_
      refine (AllReadyL.cons rfl (fun K hK => ?_) (AllReadyL.cons rfl (fun K hK => ?_) AllReadyL.nil))
      · skip
        go_simp
        refine hK.out _ _ ?_ (fun hHeld => ?_)
        · (try dsimp only); exact HSO.out _ HBv1.out
        clear hK K
        refine wpAnyL_ready (rs := [10]) (by kernel_rfl) (by simp) ?_
        refine (AllReadyL.cons rfl (fun K hK => ?_) AllReadyL.nil)
        have HXv := Lib.hid (HX4.out.below HBv1.out)
        obtain ⟨z0, z1⟩ := HXv.out.box.cells
        have fz0 := frozen_of_row _ _ 0 _ _ HXv.out.box
        have fz1 := frozen_of_row _ _ 1 _ _ HXv.out.box
        have HX9 := Lib.hid (HXv.out.put (a' := a') (n' := R'.length) (c' := c') (ch' := nch2))
        have HD9 := Lib.hid (dict_put2G HXv.out.box (HD4.out.below HBv1.out) a' R'.length c' (.int .i64 nch2))
        have HN9 := Lib.hid (own_put2 HXv.out.box HO'.out (.slice a' R'.length c') (.int .i64 nch2))
        have HK9 : Hid (Key2 ((v1.setCell ⟨gr, 0, none⟩ (.slice a' R'.length c')).setCell ⟨gr, 1, none⟩ (.int .i64 nch2)) gk 8192 ((i : Int) + 1)) := Lib.hid ((heap_other _ _ _ _ (by have := HNE.out; simp; omega)).trans ((heap_other _ _ _ _ (by have := HNE.out; simp; omega)).trans (HK4.out.below HBv1.out)))
        have HW9 : Hid (B ≤ ((v1.setCell ⟨gr, 0, none⟩ (.slice a' R'.length c')).setCell ⟨gr, 1, none⟩ (.int .i64 nch2)).heap.size) := Lib.hid (by simp; exact Nat.le_trans HBW4.out HBv1.out.size)
        go_simp
        refine hK.out _ _ ?_ (fun hHeld => ?_)
        · (try dsimp only); exact ⟨HX9.out.blw, HK9.out⟩
        clear hK K
        clear z0 z1 fz0 fz1 HXv
        generalize ((v1.setCell ⟨gr, 0, none⟩ (.slice a' R'.length c')).setCell ⟨gr, 1, none⟩ (.int .i64 nch2)) = v9 at *
        refine wpAnyL_done (by kernel_rfl) ?_ _
        clear hHeld
        go_wp2_with fail
        exact ⟨⟨i + 1, U, R', nch, nch2, a', c', by omega, by omega, by go_num, HX9, HD9, HN9, HT', HCH5, HSS5, HW9⟩, by simp [intOf]; omega⟩
      · skip
        have HXv := Lib.hid (HX4.out.below HBv1.out)
        obtain ⟨z0, z1⟩ := HXv.out.box.cells
        have fz0 := frozen_of_row _ _ 0 _ _ HXv.out.box
        have fz1 := frozen_of_row _ _ 1 _ _ HXv.out.box
        have HX9 := Lib.hid (HXv.out.put (a' := a') (n' := R'.length) (c' := c') (ch' := nch2))
        have HD9 := Lib.hid (dict_put2G HXv.out.box (HD4.out.below HBv1.out) a' R'.length c' (.int .i64 nch2))
        have HN9 := Lib.hid (own_put2 HXv.out.box HO'.out (.slice a' R'.length c') (.int .i64 nch2))
        have HK9 : Hid (Key2 ((v1.setCell ⟨gr, 0, none⟩ (.slice a' R'.length c')).setCell ⟨gr, 1, none⟩ (.int .i64 nch2)) gk 8192 ((i : Int) + 1)) := Lib.hid ((heap_other _ _ _ _ (by have := HNE.out; simp; omega)).trans ((heap_other _ _ _ _ (by have := HNE.out; simp; omega)).trans (HK4.out.below HBv1.out)))
        have HW9 : Hid (B ≤ ((v1.setCell ⟨gr, 0, none⟩ (.slice a' R'.length c')).setCell ⟨gr, 1, none⟩ (.int .i64 nch2)).heap.size) := Lib.hid (by simp; exact Nat.le_trans HBW4.out HBv1.out.size)
        go_simp
        refine hK.out _ _ ?_ (fun hHeld => ?_)
        · (try dsimp only); exact ⟨HX9.out.blw, HK9.out⟩
        clear hK K
        clear z0 z1 fz0 fz1 HXv
        generalize ((v1.setCell ⟨gr, 0, none⟩ (.slice a' R'.length c')).setCell ⟨gr, 1, none⟩ (.int .i64 nch2)) = v9 at *
        refine wpAnyL_ready (rs := [9]) (by kernel_rfl) (by simp) ?_
        refine (AllReadyL.cons rfl (fun K hK => ?_) AllReadyL.nil)
        go_simp
        refine hK.out _ _ ?_ (fun hHeld => ?_)
        · (try dsimp only); exact ⟨HX9.out.blw, HK9.out⟩
        clear hK K
        refine wpAnyL_done (by kernel_rfl) ?_ _
        clear hHeld
        go_wp2_with fail
        exact ⟨⟨i + 1, U, R', nch, nch2, a', c', by omega, by omega, by go_num, HX9, HD9, HN9, HT', HCH5, HSS5, HW9⟩, by simp [intOf]; omega⟩
    · have HZo : Hid (RBox (((wr.setCell ⟨w.heap.size, 0, none⟩ (.slice a R.length cR)).setCell ⟨w.heap.size, 1, none⟩ (.int .i64 ch2))).drew w.heap.size a R.length cR ch2) := Lib.hid (RBox.below HX.out.res.two (kD _))
      have HBo : Hid (Both B g T ch a cR R (((wr.setCell ⟨w.heap.size, 0, none⟩ (.slice a R.length cR)).setCell ⟨w.heap.size, 1, none⟩ (.int .i64 ch2))).drew) := Lib.hid (Both.below ⟨dict_put2G HX.out.res HD.out a R.length cR (.int .i64 ch2), own_put2 HX.out.res HO.out _ _, HT.out⟩ (kD _))
      have HBe : Hid (Below w.heap.size w (((wr.setCell ⟨w.heap.size, 0, none⟩ (.slice a R.length cR)).setCell ⟨w.heap.size, 1, none⟩ (.int .i64 ch2))).drew) := Lib.hid (kF (kD _) (Below.setCell (p := ⟨w.heap.size, 1, none⟩) (Below.setCell (p := ⟨w.heap.size, 0, none⟩) HX.out.blw (Nat.le_refl _) _) (Nat.le_refl _) _))
      have HCE : Hid ((0 ≤ ch ∧ ch ≤ 8) ∧ 0 ≤ ch2 ∧ ch2 ≤ 8) := Lib.hid (by have := HCH.out; omega)
      obtain ⟨z0, z1⟩ := HX.out.box.cells
      obtain ⟨u0, u1⟩ := HX.out.res.cells
      have fz0 := frozen_of_row _ _ 0 _ _ HX.out.res
      have fz1 := frozen_of_row _ _ 1 _ _ HX.out.res
      clear HX HD HO HT HCH
      by_cases hin : i < n
      · have hiI : (i : Int) < (n : Int) := by omega
        have hi8I : ¬ (i : Int) < 8 := by omega
        go_wp2_with fail
        go_region
        go_wp2_with fail
        exact bodyPost_ret ((results_tmp_cell rfl _ _ w.heap.size _ _ _ _ rfl HZo.out Try.underlying33 rfl info_dct).trans (by rfl)) rfl ⟨B, g, T, R, ch, ch2, a, cR, rfl, HBS.out, HBo.out, HCE.out.1, HCE.out.2, HSS.out, HBe.out⟩
      · have hiI : ¬ (i : Int) < (n : Int) := by omega
        go_wp2_with fail
        go_region
        go_wp2_with fail
        exact bodyPost_ret ((results_tmp_cell rfl _ _ w.heap.size _ _ _ _ rfl HZo.out Try.underlying33 rfl info_dct).trans (by rfl)) rfl ⟨B, g, T, R, ch, ch2, a, cR, rfl, HBS.out, HBo.out, HCE.out.1, HCE.out.2, HSS.out, HBe.out⟩
end Go.Proofs.Ytgaoplbocjadaaa
