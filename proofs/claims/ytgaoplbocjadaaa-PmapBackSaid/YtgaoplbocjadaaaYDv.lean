/- What the bytes of an entry become, from outside and from within. -/
import Derived.Test.YtgaoplbocjadaaaYDq
namespace Go.Proofs.Ytgaoplbocjadaaa
open Go.RowKit
set_option linter.unusedSimpArgs false
set_option linter.unusedVariables false
def givT (q : Int) (x : Ent) (l : List Int) (T : List (Int × Ent)) : List (Int × Ent) := if l = x.b then T else putI q ⟨x.k, x.a, x.lo, x.hi, l⟩ T
def givC (ch : Int) (x : Ent) (l : List Int) : Int := if l = x.b then ch else ch + 1
theorem give_any (w : World) (base g s : Nat) (T : List (Int × Ent)) (ch : Int) (v : Value) (i j : Int) (x : Ent) (l : List Int) (A : Option Addr) (n c : Nat) (h : DiI w base g s T ch v) (hbase : base ≤ w.heap.size) (hT : T.length ≤ 1000) (hs : Rise T) (hc : 0 ≤ ch ∧ ch ≤ 1000000)
    (hB : Byt w w.heap.size A n c l) (hx : ∀ y ∈ x.b, 0 ≤ y ∧ y ≤ 255) :
    Calls Try.prog 79 #[.pointer (some ⟨g, 0, none⟩), .agg #[.int .i64 i, .int .i64 j], entV x, .slice A n c] w fun e w' => e = .returned (.tuple #[]) ∧ GoD w base g s (givT (numI i j) x l T) (givC ch x l) v w' := by
  have he := str_eq hB.rng hx
  unfold givT givC
  by_cases hl : l = x.b
  · rw [decide_eq_true hl] at he
    rw [if_pos hl, if_pos hl]
    exact (give_same w _ i j x.k x.a x.lo x.hi x.b l A n c hB he).mono fun e w' ⟨h1, h2⟩ => ⟨h1, GoD.of_below h h2⟩
  · rw [decide_eq_false hl] at he
    rw [if_neg hl, if_neg hl]
    exact give_other w base g s T ch v i j x.k x.a x.lo x.hi x.b l A n c h hbase hT hs hc hB he
theorem GoD.from {w y w' : World} {base g s : Nat} {T : List (Int × Ent)} {ch : Int} {v : Value} (hb : Below w.heap.size w y) (h : GoD y base g s T ch v w') : GoD w base g s T ch v w' := by
  obtain ⟨v', hd, hn, ht⟩ := h
  exact ⟨v', hd, hn.back hb.size, ⟨ht.os.trans hb.os, ht.tape.trans hb.tape, ht.output.trans hb.output, by have := ht.size; have := hb.size; omega, fun k hk h1 h2 h3 => (ht.block k (by have := hb.size; omega) h1 h2 h3).trans (hb.block k hk)⟩⟩
/-- give does K, wherever it is called. -/
def GivK (w : World) (P : Option Addr) (i j : Int) (E : Ent) (l : List Int) (K : World → Prop) : Prop := ∀ (y : World) (A : Option Addr) (n c : Nat), Below w.heap.size w y → Byt y y.heap.size A n c l →
  Calls Try.prog 79 #[.pointer P, .agg #[.int .i64 i, .int .i64 j], entV E, .slice A n c] y fun e w' => e = .returned (.tuple #[]) ∧ K w'
def ownE (x : Ent) (b : Bool) : Int := if b = false then 7 else if x.a = 4 then 12 else 0
def ownX (x : Ent) (b : Bool) : Ent := if ownE x b = 0 then x else e0
def OwnC (w : World) (P : Option Addr) (i j : Int) (E : Ent) (o : Int) : Prop := ∀ x, Below w.heap.size w x → Calls Try.prog 77 #[.pointer P, .agg #[.int .i64 i, .int .i64 j]] x fun e w' => e = .returned (.tuple #[entV E, .int .i64 o]) ∧ Below x.heap.size x w'
set_option maxRecDepth 100000 in
set_option maxHeartbeats 2000000 in
theorem own_any (w : World) (base g s : Nat) (T : List (Int × Ent)) (ch : Int) (v : Value) (i j : Int) (h : DiI w base g s T ch v) (hT : T.length ≤ 1000) (hs : Rise T) :
    Calls Try.prog 77 #[.pointer (some ⟨g, 0, none⟩), .agg #[.int .i64 i, .int .i64 j]] w fun e w' => e = .returned (.tuple #[entV (ownX (thI e0 (numI i j) T) (hasI (numI i j) T)), .int .i64 (ownE (thI e0 (numI i j) T) (hasI (numI i j) T))]) ∧ Below w.heap.size w w' := by
  have hb0 : Below w.heap.size w ((w.alloc (.cells #[.int .i64 i, .int .i64 j] 24)).alloc (.cells #[.int .i64 0, .int .i64 0, .int .i64 0, .int .i64 0, .string ⟨#[]⟩] 132)) := ((Below.refl _ _).alloc (Nat.le_refl _) _).alloc (by simp) _
  have hk0 : Key2 ((w.alloc (.cells #[.int .i64 i, .int .i64 j] 24)).alloc (.cells #[.int .i64 0, .int .i64 0, .int .i64 0, .int .i64 0, .string ⟨#[]⟩] 132)) w.heap.size i j := heap_alloc2_old w _ _
  have hz0 : EntAt ((w.alloc (.cells #[.int .i64 i, .int .i64 j] 24)).alloc (.cells #[.int .i64 0, .int .i64 0, .int .i64 0, .int .i64 0, .string ⟨#[]⟩] 132)) (w.heap.size + 1) 0 0 0 0 ⟨#[]⟩ := heap_alloc2_new w _ _
  have hgt := dget_any _ base g s T ch v i j (h.below hb0) hT hs
  generalize hasI (numI i j) T = B at hgt ⊢
  generalize thI e0 (numI i j) T = E at hgt ⊢
  have hX : ownE E B = 7 ∧ B = false ∨ ownE E B = 12 ∧ B = true ∧ E.a = 4 ∨ ownE E B = 0 ∧ B = true ∧ ¬ E.a = 4 := by
    unfold ownE
    cases B
    · exact .inl ⟨if_pos rfl, rfl⟩
    · rw [if_neg (by simp)]
      by_cases h4 : E.a = 4
      · exact .inr (.inl ⟨if_pos h4, rfl, h4⟩)
      · exact .inr (.inr ⟨if_neg h4, rfl, h4⟩)
  unfold ownX
  obtain ⟨c0, c1⟩ := hk0.cells
  have HB0 := Lib.hid hb0
  have HZ0 := Lib.hid hz0
  have hgl := h.lt
  clear h hs hk0 hb0 hz0
  rcases hX with ⟨e1, rfl⟩ | ⟨e1, rfl, e2⟩ | ⟨e1, rfl, e2⟩
  · rw [e1, if_neg (by simp)]
    obtain ⟨ek, ea, el, eh, eb⟩ := E
    dsimp only [entV, e0] at hgt ⊢
    rw [str0]
    generalize strOfNums eb = ES at hgt
    have HGT := Lib.hid hgt
    clear hgt e1
    go_enter Try.func77, Try.ntmps77
    go_wp2_with fail
    generalize ((w.alloc (.cells #[.int .i64 i, .int .i64 j] 24)).alloc (.cells #[.int .i64 0, .int .i64 0, .int .i64 0, .int .i64 0, .string ⟨#[]⟩] 132)) = w0 at *
    refine HGT.out.mono ?_
    rintro e w1 ⟨rfl, hb1⟩
    have hb2 : Below w0.heap.size w0 (w1.alloc (.cells #[.int .i64 ek, .int .i64 ea, .int .i64 el, .int .i64 eh, .string ES] 132)) := kA hb1 _
    have HB2 := Lib.hid (kF hb2 HB0.out)
    have HZ2 := Lib.hid (HZ0.out.below hb2)
    have HX2 := Lib.hid (show EntAt (w1.alloc (.cells #[.int .i64 ek, .int .i64 ea, .int .i64 el, .int .i64 eh, .string ES] 132)) w1.heap.size ek ea el eh ES from heap_alloc_new w1 _)
    obtain ⟨d0, d1, d2, d3, d4⟩ := HZ2.out.cells
    obtain ⟨f0, f1, f2, f3, f4⟩ := HZ2.out.froz
    obtain ⟨x0, x1, x2, x3, x4⟩ := HX2.out.cells
    clear hb1 hb2 c0 c1 HGT
    go_wp2_with fail
    exact bodyPost_ret (results_cell_tmp_row rfl _ _ (w.heap.size + 1) _ _ _ _ rfl HZ2.out.five Try.underlying132 rfl info_ent) rfl ⟨rfl, five_below HB2.out (by omega)⟩
  · rw [e1, if_neg (by simp)]
    obtain ⟨ek, ea, el, eh, eb⟩ := E
    dsimp only [entV, e0] at hgt e2 ⊢
    rw [str0]
    generalize strOfNums eb = ES at hgt
    subst e2
    have HGT := Lib.hid hgt
    clear hgt e1
    go_enter Try.func77, Try.ntmps77
    go_wp2_with fail
    generalize ((w.alloc (.cells #[.int .i64 i, .int .i64 j] 24)).alloc (.cells #[.int .i64 0, .int .i64 0, .int .i64 0, .int .i64 0, .string ⟨#[]⟩] 132)) = w0 at *
    refine HGT.out.mono ?_
    rintro e w1 ⟨rfl, hb1⟩
    have hb2 : Below w0.heap.size w0 (w1.alloc (.cells #[.int .i64 ek, .int .i64 4, .int .i64 el, .int .i64 eh, .string ES] 132)) := kA hb1 _
    have HB2 := Lib.hid (kF hb2 HB0.out)
    have HZ2 := Lib.hid (HZ0.out.below hb2)
    have HX2 := Lib.hid (show EntAt (w1.alloc (.cells #[.int .i64 ek, .int .i64 4, .int .i64 el, .int .i64 eh, .string ES] 132)) w1.heap.size ek 4 el eh ES from heap_alloc_new w1 _)
    obtain ⟨d0, d1, d2, d3, d4⟩ := HZ2.out.cells
    obtain ⟨f0, f1, f2, f3, f4⟩ := HZ2.out.froz
    obtain ⟨x0, x1, x2, x3, x4⟩ := HX2.out.cells
    clear hb1 hb2 c0 c1 HGT
    go_wp2_with fail
    exact bodyPost_ret (results_cell_tmp_row rfl _ _ (w.heap.size + 1) _ _ _ _ rfl HZ2.out.five Try.underlying132 rfl info_ent) rfl ⟨rfl, five_below HB2.out (by omega)⟩
  · rw [e1, if_pos rfl]
    obtain ⟨ek, ea, el, eh, eb⟩ := E
    dsimp only [entV, e0] at hgt e2 ⊢
    generalize strOfNums eb = ES at hgt ⊢
    have HGT := Lib.hid hgt
    clear hgt e1
    go_enter Try.func77, Try.ntmps77
    go_wp2_with fail
    generalize ((w.alloc (.cells #[.int .i64 i, .int .i64 j] 24)).alloc (.cells #[.int .i64 0, .int .i64 0, .int .i64 0, .int .i64 0, .string ⟨#[]⟩] 132)) = w0 at *
    refine HGT.out.mono ?_
    rintro e w1 ⟨rfl, hb1⟩
    have hb2 : Below w0.heap.size w0 (w1.alloc (.cells #[.int .i64 ek, .int .i64 ea, .int .i64 el, .int .i64 eh, .string ES] 132)) := kA hb1 _
    have HB2 := Lib.hid (kF hb2 HB0.out)
    have HZ2 := Lib.hid (HZ0.out.below hb2)
    have HX2 := Lib.hid (show EntAt (w1.alloc (.cells #[.int .i64 ek, .int .i64 ea, .int .i64 el, .int .i64 eh, .string ES] 132)) w1.heap.size ek ea el eh ES from heap_alloc_new w1 _)
    obtain ⟨d0, d1, d2, d3, d4⟩ := HZ2.out.cells
    obtain ⟨f0, f1, f2, f3, f4⟩ := HZ2.out.froz
    obtain ⟨x0, x1, x2, x3, x4⟩ := HX2.out.cells
    clear hb1 hb2 c0 c1 HGT
    go_wp2_with fail
    exact bodyPost_ret (results_cell_tmp_row rfl _ _ (w.heap.size + 1) _ _ _ _ rfl HZ2.out.five Try.underlying132 rfl info_ent) rfl ⟨rfl, five_below HB2.out (by omega)⟩
end Go.Proofs.Ytgaoplbocjadaaa
namespace Go.Proofs.Ytgaoplbocjadaaa
open Go.RowKit
set_option linter.unusedSimpArgs false
set_option linter.unusedVariables false
set_option maxRecDepth 100000 in
set_option maxHeartbeats 2000000 in
theorem put_out (w : World) (P : Option Addr) (i j : Int) (E : Ent) (o : Int) (A : Option Addr) (n c : Nat) (hF : OwnC w P i j E o) (h0 : ¬ o = 0) :
    Calls Try.prog 67 #[.pointer P, .agg #[.int .i64 i, .int .i64 j], .slice A n c] w fun e w' => e = .returned (.int .i64 o) ∧ Below w.heap.size w w' := by
  have hb0 : Below w.heap.size w (w.alloc (.cells #[.int .i64 i, .int .i64 j] 24)) := (Below.refl _ _).alloc (Nat.le_refl _) _
  have hk0 : Key2 (w.alloc (.cells #[.int .i64 i, .int .i64 j] 24)) w.heap.size i j := heap_alloc_new w _
  have hf := hF _ hb0
  obtain ⟨ek, ea, el, eh, eb⟩ := E
  dsimp only [entV] at hf
  generalize strOfNums eb = ES at hf
  have HF := Lib.hid hf
  have HK0 := Lib.hid hk0
  obtain ⟨c0, c1⟩ := hk0.cells
  have HB0 := Lib.hid hb0
  clear hF hf hb0 hk0
  have t0 : (o != 0) = true := by simp [h0]
  clear h0
  go_enter Try.func67, Try.ntmps67
  go_wp2_with fail
  refine HF.out.mono ?_
  rintro e w1 ⟨rfl, hb1⟩
  have HB1 := Lib.hid (kF (kA hb1 (.cells #[.int .i64 ek, .int .i64 ea, .int .i64 el, .int .i64 eh, .string ES] 132)) HB0.out)
  have hx2 : EntAt (w1.alloc (.cells #[.int .i64 ek, .int .i64 ea, .int .i64 el, .int .i64 eh, .string ES] 132)) w1.heap.size ek ea el eh ES := heap_alloc_new w1 _
  have HE2 := Lib.hid hx2
  have HK2 := Lib.hid (HK0.out.below (kA hb1 (.cells #[.int .i64 ek, .int .i64 ea, .int .i64 el, .int .i64 eh, .string ES] 132)))
  obtain ⟨x0, x1, x2, x3, x4⟩ := hx2.cells
  clear hb1 c0 c1 hx2 HF
  go_wp2_with fail
  go_ret
  exact ⟨rfl, HB1.out⟩
set_option maxRecDepth 100000 in
set_option maxHeartbeats 2000000 in
theorem put_unfit (w : World) (P : Option Addr) (i j : Int) (E : Ent) (A : Option Addr) (n c : Nat) (l : List Int) (hF : OwnC w P i j E 0) (hB : Byt w w.heap.size A n c l) (hf0 : ¬ fitsA E.k E.a E.lo E.hi l = 0) :
    Calls Try.prog 67 #[.pointer P, .agg #[.int .i64 i, .int .i64 j], .slice A n c] w fun e w' => e = .returned (.int .i64 14) ∧ Below w.heap.size w w' := by
  have hb0 : Below w.heap.size w (w.alloc (.cells #[.int .i64 i, .int .i64 j] 24)) := (Below.refl _ _).alloc (Nat.le_refl _) _
  have hk0 : Key2 (w.alloc (.cells #[.int .i64 i, .int .i64 j] 24)) w.heap.size i j := heap_alloc_new w _
  have hf := hF _ hb0
  obtain ⟨ek, ea, el, eh, eb⟩ := E
  dsimp only [entV] at hf
  have hft := fun x (hx : Below w.heap.size w x) => vfits_any ek ea el eh x A n c l (hB.step hx)
  dsimp only at hf0
  generalize fitsA ek ea el eh l = q at hft hf0
  have tf : (q != 0) = true := by simp [hf0]
  have HFT := Lib.hid hft
  clear hft hf0 hB
  generalize strOfNums eb = ES at hf
  have HF := Lib.hid hf
  have HK0 := Lib.hid hk0
  obtain ⟨c0, c1⟩ := hk0.cells
  have HB0 := Lib.hid hb0
  clear hF hf hb0 hk0
  go_enter Try.func67, Try.ntmps67
  go_wp2_with fail
  refine HF.out.mono ?_
  rintro e w1 ⟨rfl, hb1⟩
  have HB1 := Lib.hid (kF (kA hb1 (.cells #[.int .i64 ek, .int .i64 ea, .int .i64 el, .int .i64 eh, .string ES] 132)) HB0.out)
  have hx2 : EntAt (w1.alloc (.cells #[.int .i64 ek, .int .i64 ea, .int .i64 el, .int .i64 eh, .string ES] 132)) w1.heap.size ek ea el eh ES := heap_alloc_new w1 _
  have HE2 := Lib.hid hx2
  have HK2 := Lib.hid (HK0.out.below (kA hb1 (.cells #[.int .i64 ek, .int .i64 ea, .int .i64 el, .int .i64 eh, .string ES] 132)))
  obtain ⟨x0, x1, x2, x3, x4⟩ := hx2.cells
  clear hb1 c0 c1 hx2 HF
  go_wp2_with fail
  generalize w1.alloc (.cells #[.int .i64 ek, .int .i64 ea, .int .i64 el, .int .i64 eh, .string ES] 132) = w2 at *
  refine (HFT.out w2 HB1.out).mono ?_
  rintro e w4 ⟨rfl, hb4⟩
  have HB4 := Lib.hid (kF hb4 HB1.out)
  clear hb4 x0 x1 x2 x3 x4
  go_wp2_with fail
  go_ret
  exact ⟨rfl, HB4.out⟩
set_option maxRecDepth 100000 in
set_option maxHeartbeats 2000000 in
theorem put_fit (w : World) (P : Option Addr) (i j : Int) (E : Ent) (A : Option Addr) (n c : Nat) (l : List Int) (K : World → Prop) (hF : OwnC w P i j E 0) (hG : GivK w P i j E l K) (hB : Byt w w.heap.size A n c l) (hf0 : fitsA E.k E.a E.lo E.hi l = 0) :
    Calls Try.prog 67 #[.pointer P, .agg #[.int .i64 i, .int .i64 j], .slice A n c] w fun e w' => e = .returned (.int .i64 0) ∧ K w' := by
  have hb0 : Below w.heap.size w (w.alloc (.cells #[.int .i64 i, .int .i64 j] 24)) := (Below.refl _ _).alloc (Nat.le_refl _) _
  have hk0 : Key2 (w.alloc (.cells #[.int .i64 i, .int .i64 j] 24)) w.heap.size i j := heap_alloc_new w _
  have hf := hF _ hb0
  have hgv := fun y (hy : Below w.heap.size w y) => hG y A n c hy (hB.step hy)
  obtain ⟨ek, ea, el, eh, eb⟩ := E
  dsimp only [entV] at hf hgv
  have hft := fun x (hx : Below w.heap.size w x) => vfits_any ek ea el eh x A n c l (hB.step hx)
  dsimp only at hf0
  rw [hf0] at hft
  have HFT := Lib.hid hft
  clear hft hf0 hB hG
  generalize strOfNums eb = ES at hf hgv
  have HF := Lib.hid hf
  have HK0 := Lib.hid hk0
  obtain ⟨c0, c1⟩ := hk0.cells
  have HB0 := Lib.hid hb0
  clear hF hf hb0 hk0
  have HGV := Lib.hid hgv
  clear hgv
  go_enter Try.func67, Try.ntmps67
  go_wp2_with fail
  refine HF.out.mono ?_
  rintro e w1 ⟨rfl, hb1⟩
  have HB1 := Lib.hid (kF (kA hb1 (.cells #[.int .i64 ek, .int .i64 ea, .int .i64 el, .int .i64 eh, .string ES] 132)) HB0.out)
  have hx2 : EntAt (w1.alloc (.cells #[.int .i64 ek, .int .i64 ea, .int .i64 el, .int .i64 eh, .string ES] 132)) w1.heap.size ek ea el eh ES := heap_alloc_new w1 _
  have HE2 := Lib.hid hx2
  have HK2 := Lib.hid (HK0.out.below (kA hb1 (.cells #[.int .i64 ek, .int .i64 ea, .int .i64 el, .int .i64 eh, .string ES] 132)))
  obtain ⟨x0, x1, x2, x3, x4⟩ := hx2.cells
  clear hb1 c0 c1 hx2 HF
  go_wp2_with fail
  generalize w1.alloc (.cells #[.int .i64 ek, .int .i64 ea, .int .i64 el, .int .i64 eh, .string ES] 132) = w2 at *
  refine (HFT.out w2 HB1.out).mono ?_
  rintro e w4 ⟨rfl, hb4⟩
  have HB4 := Lib.hid (kF hb4 HB1.out)
  have HE4 := Lib.hid (HE2.out.below hb4)
  have HK4 := Lib.hid (HK2.out.below hb4)
  clear hb4 x0 x1 x2 x3 x4
  obtain ⟨x0, x1, x2, x3, x4⟩ := HE4.out.cells
  obtain ⟨c0, c1⟩ := HK4.out.cells
  go_wp2_with fail
  refine (HGV.out w4 HB4.out).mono ?_
  rintro e w5 ⟨rfl, hk⟩
  have HK5 := Lib.hid hk
  clear hk x0 x1 x2 x3 x4 c0 c1
  go_wp2_with fail
  go_ret
  exact ⟨rfl, HK5.out⟩
set_option maxRecDepth 100000 in
set_option maxHeartbeats 2000000 in
theorem set_out (w : World) (P : Option Addr) (i j : Int) (E : Ent) (o m : Int) (hF : OwnC w P i j E o) (h0 : ¬ o = 0) :
    Calls Try.prog 32 #[.pointer P, .agg #[.int .i64 i, .int .i64 j], .int .i64 m] w fun e w' => e = .returned (.int .i64 o) ∧ Below w.heap.size w w' := by
  have hb0 : Below w.heap.size w (w.alloc (.cells #[.int .i64 i, .int .i64 j] 24)) := (Below.refl _ _).alloc (Nat.le_refl _) _
  have hk0 : Key2 (w.alloc (.cells #[.int .i64 i, .int .i64 j] 24)) w.heap.size i j := heap_alloc_new w _
  have hf := hF _ hb0
  obtain ⟨ek, ea, el, eh, eb⟩ := E
  dsimp only [entV] at hf
  generalize strOfNums eb = ES at hf
  have HF := Lib.hid hf
  have HK0 := Lib.hid hk0
  obtain ⟨c0, c1⟩ := hk0.cells
  have HB0 := Lib.hid hb0
  clear hF hf hb0 hk0
  have t0 : (o != 0) = true := by simp [h0]
  clear h0
  go_enter Try.func32, Try.ntmps32
  go_wp2_with fail
  refine HF.out.mono ?_
  rintro e w1 ⟨rfl, hb1⟩
  have HB1 := Lib.hid (kF (kA hb1 (.cells #[.int .i64 ek, .int .i64 ea, .int .i64 el, .int .i64 eh, .string ES] 132)) HB0.out)
  have hx2 : EntAt (w1.alloc (.cells #[.int .i64 ek, .int .i64 ea, .int .i64 el, .int .i64 eh, .string ES] 132)) w1.heap.size ek ea el eh ES := heap_alloc_new w1 _
  have HE2 := Lib.hid hx2
  have HK2 := Lib.hid (HK0.out.below (kA hb1 (.cells #[.int .i64 ek, .int .i64 ea, .int .i64 el, .int .i64 eh, .string ES] 132)))
  obtain ⟨x0, x1, x2, x3, x4⟩ := hx2.cells
  clear hb1 c0 c1 hx2 HF
  go_wp2_with fail
  go_ret
  exact ⟨rfl, HB1.out⟩
set_option maxRecDepth 100000 in
set_option maxHeartbeats 2000000 in
theorem set_unfit (w : World) (P : Option Addr) (i j : Int) (E : Ent) (m : Int) (hF : OwnC w P i j E 0) (hf0 : ¬ bytE E.k E.a E.lo E.hi m = 0) :
    Calls Try.prog 32 #[.pointer P, .agg #[.int .i64 i, .int .i64 j], .int .i64 m] w fun e w' => e = .returned (.int .i64 (bytE E.k E.a E.lo E.hi m)) ∧ Below w.heap.size w w' := by
  have hb0 : Below w.heap.size w (w.alloc (.cells #[.int .i64 i, .int .i64 j] 24)) := (Below.refl _ _).alloc (Nat.le_refl _) _
  have hk0 : Key2 (w.alloc (.cells #[.int .i64 i, .int .i64 j] 24)) w.heap.size i j := heap_alloc_new w _
  have hf := hF _ hb0
  obtain ⟨ek, ea, el, eh, eb⟩ := E
  dsimp only [entV] at hf
  have hvb := fun x => vbytes_any ek ea el eh m x
  unfold BytPost at hvb
  dsimp only at hf0 ⊢
  generalize bytE ek ea el eh m = q at hvb hf0 ⊢
  generalize bytA ek ea el eh m = L at hvb
  generalize L.length = LN at hvb
  have HVB := Lib.hid hvb
  clear hvb
  generalize strOfNums eb = ES at hf
  have HF := Lib.hid hf
  have HK0 := Lib.hid hk0
  obtain ⟨c0, c1⟩ := hk0.cells
  have HB0 := Lib.hid hb0
  clear hF hf hb0 hk0
  have tf : (q != 0) = true := by simp [hf0]
  clear hf0
  go_enter Try.func32, Try.ntmps32
  go_wp2_with fail
  refine HF.out.mono ?_
  rintro e w1 ⟨rfl, hb1⟩
  have HB1 := Lib.hid (kF (kA hb1 (.cells #[.int .i64 ek, .int .i64 ea, .int .i64 el, .int .i64 eh, .string ES] 132)) HB0.out)
  have hx2 : EntAt (w1.alloc (.cells #[.int .i64 ek, .int .i64 ea, .int .i64 el, .int .i64 eh, .string ES] 132)) w1.heap.size ek ea el eh ES := heap_alloc_new w1 _
  have HE2 := Lib.hid hx2
  have HK2 := Lib.hid (HK0.out.below (kA hb1 (.cells #[.int .i64 ek, .int .i64 ea, .int .i64 el, .int .i64 eh, .string ES] 132)))
  obtain ⟨x0, x1, x2, x3, x4⟩ := hx2.cells
  clear hb1 c0 c1 hx2 HF
  go_wp2_with fail
  generalize w1.alloc (.cells #[.int .i64 ek, .int .i64 ea, .int .i64 el, .int .i64 eh, .string ES] 132) = w2 at *
  refine (HVB.out w2).mono ?_
  rintro e w4 ⟨A, c, rfl, hy, hb4⟩
  have HB4 := Lib.hid (kF hb4 HB1.out)
  clear hb4 hy x0 x1 x2 x3 x4
  go_wp2_with fail
  go_ret
  exact ⟨rfl, HB4.out⟩
set_option maxRecDepth 100000 in
set_option maxHeartbeats 2000000 in
theorem set_fit (w : World) (P : Option Addr) (i j : Int) (E : Ent) (m : Int) (K : World → Prop) (hF : OwnC w P i j E 0) (hG : GivK w P i j E (bytA E.k E.a E.lo E.hi m) K) (hf0 : bytE E.k E.a E.lo E.hi m = 0) :
    Calls Try.prog 32 #[.pointer P, .agg #[.int .i64 i, .int .i64 j], .int .i64 m] w fun e w' => e = .returned (.int .i64 0) ∧ K w' := by
  have hb0 : Below w.heap.size w (w.alloc (.cells #[.int .i64 i, .int .i64 j] 24)) := (Below.refl _ _).alloc (Nat.le_refl _) _
  have hk0 : Key2 (w.alloc (.cells #[.int .i64 i, .int .i64 j] 24)) w.heap.size i j := heap_alloc_new w _
  have hf := hF _ hb0
  unfold GivK at hG
  obtain ⟨ek, ea, el, eh, eb⟩ := E
  dsimp only [entV] at hf
  have hvb := fun x => vbytes_any ek ea el eh m x
  unfold BytPost at hvb
  dsimp only at hf0
  generalize bytE ek ea el eh m = q at hvb hf0
  dsimp only [entV] at hG
  generalize bytA ek ea el eh m = L at hvb hG
  have HVB := Lib.hid hvb
  clear hvb
  generalize strOfNums eb = ES at hf hG
  have HF := Lib.hid hf
  have HK0 := Lib.hid hk0
  obtain ⟨c0, c1⟩ := hk0.cells
  have HB0 := Lib.hid hb0
  clear hF hf hb0 hk0
  have HGV := Lib.hid hG
  clear hG
  subst hf0
  go_enter Try.func32, Try.ntmps32
  go_wp2_with fail
  refine HF.out.mono ?_
  rintro e w1 ⟨rfl, hb1⟩
  have HB1 := Lib.hid (kF (kA hb1 (.cells #[.int .i64 ek, .int .i64 ea, .int .i64 el, .int .i64 eh, .string ES] 132)) HB0.out)
  have hx2 : EntAt (w1.alloc (.cells #[.int .i64 ek, .int .i64 ea, .int .i64 el, .int .i64 eh, .string ES] 132)) w1.heap.size ek ea el eh ES := heap_alloc_new w1 _
  have HE2 := Lib.hid hx2
  have HK2 := Lib.hid (HK0.out.below (kA hb1 (.cells #[.int .i64 ek, .int .i64 ea, .int .i64 el, .int .i64 eh, .string ES] 132)))
  obtain ⟨x0, x1, x2, x3, x4⟩ := hx2.cells
  clear hb1 c0 c1 hx2 HF
  go_wp2_with fail
  generalize w1.alloc (.cells #[.int .i64 ek, .int .i64 ea, .int .i64 el, .int .i64 eh, .string ES] 132) = w2 at *
  refine (HVB.out w2).mono ?_
  rintro e w4 ⟨A, c, rfl, hy, hb4⟩
  have HG4 := Lib.hid (HGV.out w4 A _ c (kF hb4 HB1.out) hy)
  have HE4 := Lib.hid (HE2.out.below hb4)
  have HK4 := Lib.hid (HK2.out.below hb4)
  clear hb4 hy x0 x1 x2 x3 x4
  obtain ⟨x0, x1, x2, x3, x4⟩ := HE4.out.cells
  obtain ⟨c0, c1⟩ := HK4.out.cells
  generalize L.length = LN at *
  go_wp2_with fail
  refine HG4.out.mono ?_
  rintro e w5 ⟨rfl, hk⟩
  have HK5 := Lib.hid hk
  clear hk x0 x1 x2 x3 x4 c0 c1
  go_wp2_with fail
  go_ret
  exact ⟨rfl, HK5.out⟩
theorem info_spc : (Try.prog.info? 75).map (·.size) = some 4 := by kernel_rfl
theorem Spc.froz {w : World} {g : Nat} {k a lo hi : Int} (h : Spc w g k a lo hi) : w.frozen? ⟨g, 0, none⟩ = false ∧ w.frozen? ⟨g, 1, none⟩ = false ∧ w.frozen? ⟨g, 2, none⟩ = false ∧ w.frozen? ⟨g, 3, none⟩ = false :=
  ⟨frozen_of_row _ _ _ _ _ h, frozen_of_row _ _ _ _ _ h, frozen_of_row _ _ _ _ _ h, frozen_of_row _ _ _ _ _ h⟩
theorem Spc.four {w : World} {g : Nat} {k a lo hi k' a' lo' hi' : Int} (h : Spc w g k a lo hi) : Spc ((((w.setCell ⟨g, 0, none⟩ (.int .i64 k')).setCell ⟨g, 1, none⟩ (.int .i64 a')).setCell ⟨g, 2, none⟩ (.int .i64 lo')).setCell ⟨g, 3, none⟩ (.int .i64 hi')) g k' a' lo' hi' := by
  have h' : w.heap[g]? = _ := h
  simp [Spc, World.setCell, Array.getElem?_modify, h']
theorem four_below {B g : Nat} {w0 w : World} {a b c d : Value} (h : Below B w0 w) (hg : B ≤ g) : Below B w0 ((((w.setCell ⟨g, 0, none⟩ a).setCell ⟨g, 1, none⟩ b).setCell ⟨g, 2, none⟩ c).setCell ⟨g, 3, none⟩ d) :=
  (((h.setCell (p := ⟨g, 0, none⟩) hg _).setCell (p := ⟨g, 1, none⟩) hg _).setCell (p := ⟨g, 2, none⟩) hg _).setCell (p := ⟨g, 3, none⟩) hg _
def GetC (w : World) (P : Option Addr) (i j : Int) (E : Ent) (b : Bool) : Prop := ∀ x, Below w.heap.size w x → Calls Try.prog 76 #[.pointer P, .agg #[.int .i64 i, .int .i64 j]] x fun e w' => e = .returned (.tuple #[entV E, .bool b]) ∧ Below x.heap.size x w'
theorem getc_any {w : World} {base g s : Nat} {T : List (Int × Ent)} {ch : Int} {v : Value} (i j : Int) (h : DiI w base g s T ch v) (hG : Good T) : GetC w (some ⟨g, 0, none⟩) i j (thI e0 (numI i j) T) (hasI (numI i j) T) := fun x hx =>
  dget_any x base g s T ch v i j (h.below hx) (by have := hG.few; omega) hG.rise
theorem ownc_any {w : World} {base g s : Nat} {T : List (Int × Ent)} {ch : Int} {v : Value} (i j : Int) (h : DiI w base g s T ch v) (hG : Good T) : OwnC w (some ⟨g, 0, none⟩) i j (ownX (thI e0 (numI i j) T) (hasI (numI i j) T)) (ownE (thI e0 (numI i j) T) (hasI (numI i j) T)) := fun x hx =>
  own_any x base g s T ch v i j (h.below hx) (by have := hG.few; omega) hG.rise
theorem givk_any {w : World} {base g s : Nat} {T : List (Int × Ent)} {ch : Int} {v : Value} (i j : Int) (E : Ent) (l : List Int) (h : DiI w base g s T ch v) (hbase : base ≤ w.heap.size) (hG : Good T) (hc : 0 ≤ ch ∧ ch ≤ 1000000) (hx : ∀ y ∈ E.b, 0 ≤ y ∧ y ≤ 255) :
    GivK w (some ⟨g, 0, none⟩) i j E l (GoD w base g s (givT (numI i j) E l T) (givC ch E l) v) := fun y A n c hy hB =>
  (give_any y base g s T ch v i j E l A n c (h.below hy) (by have := hy.size; omega) (by have := hG.few; omega) hG.rise hc hB hx).mono fun e w' ⟨h1, h2⟩ => ⟨h1, h2.from hy⟩
def RawP (w : World) (E : Ent) (b : Bool) (e : Ending) (w' : World) : Prop := ∃ A n c L, e = .returned (.tuple #[.slice A n c, .bool b]) ∧ Byt w' w'.heap.size A n c L ∧ L = (if b = true then E.b else []) ∧ Below w.heap.size w w'
set_option maxRecDepth 100000 in
set_option maxHeartbeats 2000000 in
theorem raw_any (w : World) (P : Option Addr) (i j : Int) (E : Ent) (b : Bool) (hF : GetC w P i j E b) (hE : (∀ x ∈ E.b, 0 ≤ x ∧ x ≤ 255) ∧ E.b.length ≤ 64) :
    Calls Try.prog 31 #[.pointer P, .agg #[.int .i64 i, .int .i64 j]] w (RawP w E b) := by
  have HPF := Lib.hid (fun (w' : World) (hb : Below w.heap.size w w') => show RawP w E false (.returned (.tuple #[.slice none 0 0, .bool false])) w' from ⟨none, 0, 0, [], rfl, Byt.nil_ _ _, rfl, hb⟩)
  have HPT := Lib.hid (fun (w' : World) (A : Option Addr) (n c : Nat) (hY : Byt w' w'.heap.size A n c E.b) (hb : Below w.heap.size w w') => show RawP w E true (.returned (.tuple #[.slice A n c, .bool true])) w' from ⟨A, n, c, E.b, rfl, hY, rfl, hb⟩)
  have HTB0 := fun x => to_bytes x E.b hE.1 hE.2
  have hb0 : Below w.heap.size w (w.alloc (.cells #[.int .i64 i, .int .i64 j] 24)) := (Below.refl _ _).alloc (Nat.le_refl _) _
  have hk0 : Key2 (w.alloc (.cells #[.int .i64 i, .int .i64 j] 24)) w.heap.size i j := heap_alloc_new w _
  have hf := hF _ hb0
  obtain ⟨ek, ea, el, eh, eb⟩ := E
  dsimp only [entV] at hf
  dsimp only at HTB0
  generalize strOfNums eb = ES at hf HTB0
  have HF := Lib.hid hf
  have HK0 := Lib.hid hk0
  obtain ⟨c0, c1⟩ := hk0.cells
  have HB0 := Lib.hid hb0
  clear hF hf hb0 hk0
  have HTB := Lib.hid HTB0
  have HLL := Lib.hid (show eb = eb from rfl)
  clear HTB0 hE
  cases b
  · go_enter Try.func31, Try.ntmps31
    go_wp2_with fail
    refine HF.out.mono ?_
    rintro e w1 ⟨rfl, hb1⟩
    have HB1 := Lib.hid (kF (kA hb1 (.cells #[.int .i64 ek, .int .i64 ea, .int .i64 el, .int .i64 eh, .string ES] 132)) HB0.out)
    have hx2 : EntAt (w1.alloc (.cells #[.int .i64 ek, .int .i64 ea, .int .i64 el, .int .i64 eh, .string ES] 132)) w1.heap.size ek ea el eh ES := heap_alloc_new w1 _
    have HE2 := Lib.hid hx2
    have HK2 := Lib.hid (HK0.out.below (kA hb1 (.cells #[.int .i64 ek, .int .i64 ea, .int .i64 el, .int .i64 eh, .string ES] 132)))
    obtain ⟨x0, x1, x2, x3, x4⟩ := hx2.cells
    clear hb1 c0 c1 hx2 HF
    go_wp2_with fail
    go_ret2
    exact HPF.out _ HB1.out
  · generalize eb.length = EL at HTB
    go_enter Try.func31, Try.ntmps31
    go_wp2_with fail
    refine HF.out.mono ?_
    rintro e w1 ⟨rfl, hb1⟩
    have HB1 := Lib.hid (kF (kA hb1 (.cells #[.int .i64 ek, .int .i64 ea, .int .i64 el, .int .i64 eh, .string ES] 132)) HB0.out)
    have hx2 : EntAt (w1.alloc (.cells #[.int .i64 ek, .int .i64 ea, .int .i64 el, .int .i64 eh, .string ES] 132)) w1.heap.size ek ea el eh ES := heap_alloc_new w1 _
    have HE2 := Lib.hid hx2
    have HK2 := Lib.hid (HK0.out.below (kA hb1 (.cells #[.int .i64 ek, .int .i64 ea, .int .i64 el, .int .i64 eh, .string ES] 132)))
    obtain ⟨x0, x1, x2, x3, x4⟩ := hx2.cells
    clear hb1 c0 c1 hx2 HF
    obtain ⟨cc, w4, hcv, hby, hb4⟩ := HTB.out (w1.alloc (.cells #[.int .i64 ek, .int .i64 ea, .int .i64 el, .int .i64 eh, .string ES] 132))
    rw [show (w1.alloc (.cells #[.int .i64 ek, .int .i64 ea, .int .i64 el, .int .i64 eh, .string ES] 132)).heap.size = w1.heap.size + 1 by simp] at hcv hby
    have HY := Lib.hid hby
    have HB4 := Lib.hid (kF hb4 HB1.out)
    clear hby hb4
    go_wp2_with fail
    go_ret2
    exact HPT.out _ _ _ _ HY.out HB4.out
set_option maxRecDepth 100000 in
set_option maxHeartbeats 2000000 in
theorem spec_any (w : World) (P : Option Addr) (i j : Int) (E : Ent) (b : Bool) (hF : GetC w P i j E b) :
    Calls Try.prog 74 #[.pointer P, .agg #[.int .i64 i, .int .i64 j]] w fun e w' => e = .returned (.tuple #[.agg #[.int .i64 E.k, .int .i64 E.a, .int .i64 E.lo, .int .i64 E.hi], .bool b]) ∧ Below w.heap.size w w' := by
  have hb0 : Below w.heap.size w ((w.alloc (.cells #[.int .i64 i, .int .i64 j] 24)).alloc (.cells #[.int .i64 0, .int .i64 0, .int .i64 0, .int .i64 0] 75)) := ((Below.refl _ _).alloc (Nat.le_refl _) _).alloc (by simp) _
  have hk0 : Key2 ((w.alloc (.cells #[.int .i64 i, .int .i64 j] 24)).alloc (.cells #[.int .i64 0, .int .i64 0, .int .i64 0, .int .i64 0] 75)) w.heap.size i j := heap_alloc2_old w _ _
  have hz0 : Spc ((w.alloc (.cells #[.int .i64 i, .int .i64 j] 24)).alloc (.cells #[.int .i64 0, .int .i64 0, .int .i64 0, .int .i64 0] 75)) (w.heap.size + 1) 0 0 0 0 := heap_alloc2_new w _ _
  have hf := hF _ hb0
  obtain ⟨ek, ea, el, eh, eb⟩ := E
  dsimp only [entV] at hf ⊢
  generalize strOfNums eb = ES at hf
  have HF := Lib.hid hf
  obtain ⟨c0, c1⟩ := hk0.cells
  have HB0 := Lib.hid hb0
  have HZ0 := Lib.hid hz0
  clear hF hf hb0 hk0 hz0
  go_enter Try.func74, Try.ntmps74
  go_wp2_with fail
  generalize ((w.alloc (.cells #[.int .i64 i, .int .i64 j] 24)).alloc (.cells #[.int .i64 0, .int .i64 0, .int .i64 0, .int .i64 0] 75)) = w0 at *
  refine HF.out.mono ?_
  rintro e w1 ⟨rfl, hb1⟩
  have hb2 : Below w0.heap.size w0 (w1.alloc (.cells #[.int .i64 ek, .int .i64 ea, .int .i64 el, .int .i64 eh, .string ES] 132)) := kA hb1 _
  have HB2 := Lib.hid (kF hb2 HB0.out)
  have HZ2 := Lib.hid (HZ0.out.below hb2)
  have hx2 : EntAt (w1.alloc (.cells #[.int .i64 ek, .int .i64 ea, .int .i64 el, .int .i64 eh, .string ES] 132)) w1.heap.size ek ea el eh ES := heap_alloc_new w1 _
  obtain ⟨x0, x1, x2, x3, x4⟩ := hx2.cells
  obtain ⟨d0, d1, d2, d3⟩ := HZ2.out.cells
  obtain ⟨f0, f1, f2, f3⟩ := HZ2.out.froz
  clear hb1 hb2 hx2 c0 c1 HF
  go_wp2_with fail
  exact bodyPost_ret (results_cell_tmp_row rfl _ _ (w.heap.size + 1) _ _ _ _ rfl HZ2.out.four Try.underlying75 rfl info_spc) rfl ⟨rfl, four_below HB2.out (by omega)⟩
set_option maxRecDepth 100000 in
set_option maxHeartbeats 2000000 in
theorem num_any (w : World) (P : Option Addr) (i j : Int) (E : Ent) (b : Bool) (hF : GetC w P i j E b) (hE : (∀ x ∈ E.b, 0 ≤ x ∧ x ≤ 255) ∧ E.b.length ≤ 64) :
    Calls Try.prog 65 #[.pointer P, .agg #[.int .i64 i, .int .i64 j]] w fun e w' => e = .returned (.tuple #[.int .i64 (numN E.k E.a E.lo E.hi E.b), .bool (numB E.k E.a E.lo E.hi E.b)]) ∧ Below w.heap.size w w' := by
  have HTB0 := fun x => to_bytes x E.b hE.1 hE.2
  have HNB0 := fun (x : World) (A : Option Addr) (n c : Nat) (h : Byt x x.heap.size A n c E.b) => vnum_any E.k E.a E.lo E.hi x A n c E.b h
  have hb0 : Below w.heap.size w (w.alloc (.cells #[.int .i64 i, .int .i64 j] 24)) := (Below.refl _ _).alloc (Nat.le_refl _) _
  have hk0 : Key2 (w.alloc (.cells #[.int .i64 i, .int .i64 j] 24)) w.heap.size i j := heap_alloc_new w _
  have hf := hF _ hb0
  obtain ⟨ek, ea, el, eh, eb⟩ := E
  dsimp only [entV] at hf
  dsimp only at HTB0 HNB0 ⊢
  generalize strOfNums eb = ES at hf HTB0
  have HF := Lib.hid hf
  have HK0 := Lib.hid hk0
  obtain ⟨c0, c1⟩ := hk0.cells
  have HB0 := Lib.hid hb0
  clear hF hf hb0 hk0
  have HTB := Lib.hid HTB0
  clear HTB0 hE
  generalize numN ek ea el eh eb = NN at *
  generalize numB ek ea el eh eb = NB at *
  have HNB := Lib.hid HNB0
  clear HNB0
  generalize eb.length = EL at HTB
  go_enter Try.func65, Try.ntmps65
  go_wp2_with fail
  refine HF.out.mono ?_
  rintro e w1 ⟨rfl, hb1⟩
  have HB1 := Lib.hid (kF (kA hb1 (.cells #[.int .i64 ek, .int .i64 ea, .int .i64 el, .int .i64 eh, .string ES] 132)) HB0.out)
  have hx2 : EntAt (w1.alloc (.cells #[.int .i64 ek, .int .i64 ea, .int .i64 el, .int .i64 eh, .string ES] 132)) w1.heap.size ek ea el eh ES := heap_alloc_new w1 _
  have HE2 := Lib.hid hx2
  have HK2 := Lib.hid (HK0.out.below (kA hb1 (.cells #[.int .i64 ek, .int .i64 ea, .int .i64 el, .int .i64 eh, .string ES] 132)))
  obtain ⟨x0, x1, x2, x3, x4⟩ := hx2.cells
  clear hb1 c0 c1 hx2 HF
  obtain ⟨cc, w4, hcv, hby, hb4⟩ := HTB.out (w1.alloc (.cells #[.int .i64 ek, .int .i64 ea, .int .i64 el, .int .i64 eh, .string ES] 132))
  rw [show (w1.alloc (.cells #[.int .i64 ek, .int .i64 ea, .int .i64 el, .int .i64 eh, .string ES] 132)).heap.size = w1.heap.size + 1 by simp] at hcv hby
  have hby' : Byt w4 w4.heap.size (some ⟨w1.heap.size + 1, 0, none⟩) EL cc eb := hby
  have HN4 := Lib.hid (HNB.out _ _ _ _ hby')
  have HB4 := Lib.hid (kF hb4 HB1.out)
  clear hby hby' hb4
  go_wp2_with fail
  refine HN4.out.mono ?_
  rintro e w5 ⟨rfl, hb5⟩
  have HB5 := Lib.hid (kF hb5 HB4.out)
  clear hb5
  go_wp2_with fail
  go_ret2
  exact ⟨rfl, HB5.out⟩
end Go.Proofs.Ytgaoplbocjadaaa
