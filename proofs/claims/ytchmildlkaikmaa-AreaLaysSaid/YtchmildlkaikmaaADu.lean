/- What the bytes of an entry become, from outside and from within. -/
import Derived.Test.YtchmildlkaikmaaADp
namespace Go.Proofs.Ytchmildlkaikmaa
open Go.RowKit
set_option linter.unusedSimpArgs false
set_option linter.unusedVariables false
def givT (q : Int) (x : Ent) (l : List Int) (T : List (Int × Ent)) : List (Int × Ent) := if l = x.b then T else putI q ⟨x.k, x.a, x.lo, x.hi, l⟩ T
def givC (ch : Int) (x : Ent) (l : List Int) : Int := if l = x.b then ch else ch + 1
theorem give_any (w : World) (base g s : Nat) (T : List (Int × Ent)) (ch : Int) (v : Value) (i j : Int) (x : Ent) (l : List Int) (A : Option Addr) (n c : Nat) (h : DiI w base g s T ch v) (hbase : base ≤ w.heap.size) (hT : T.length ≤ 1000) (hs : Rise T) (hc : 0 ≤ ch ∧ ch ≤ 1000000)
    (hB : Byt w w.heap.size A n c l) (hx : ∀ y ∈ x.b, 0 ≤ y ∧ y ≤ 255) :
    Calls Try.prog 95 #[.pointer (some ⟨g, 0, none⟩), .agg #[.int .i64 i, .int .i64 j], entV x, .slice A n c] w fun e w' => e = .returned (.tuple #[]) ∧ GoD w base g s (givT (numI i j) x l T) (givC ch x l) v w' := by
  have he := str_eq hB.rng hx
  unfold givT givC
  by_cases hl : l = x.b
  · rw [decide_eq_true hl] at he
    rw [if_pos hl, if_pos hl]
    exact (give_same w _ i j x.k x.a x.lo x.hi x.b l A n c hB he).mono fun e w' ⟨h1, h2⟩ => ⟨h1, GoD.of_below h h2⟩
  · rw [decide_eq_false hl] at he
    rw [if_neg hl, if_neg hl]
    exact give_other w base g s T ch v i j x.k x.a x.lo x.hi x.b l A n c h hbase hT hs hc hB he
theorem GoD.from {w y w' : World} {base g s : Nat} {T : List (Int × Ent)} {ch : Int} {v : Value} (hb : Below w.heap.size w y) (h : GoD y base g s T ch v w') : GoD w base g s T ch v w' := by
  obtain ⟨v', hd, hn, ht⟩ := h
  exact ⟨v', hd, hn.back hb.size, ⟨ht.os.trans hb.os, ht.tape.trans hb.tape, ht.output.trans hb.output, by have := ht.size; have := hb.size; omega, fun k hk h1 h2 h3 => (ht.block k (by have := hb.size; omega) h1 h2 h3).trans (hb.block k hk)⟩⟩
/-- give does K, wherever it is called. -/
def GivK (w : World) (P : Option Addr) (i j : Int) (E : Ent) (l : List Int) (K : World → Prop) : Prop := ∀ (y : World) (A : Option Addr) (n c : Nat), Below w.heap.size w y → Byt y y.heap.size A n c l →
  Calls Try.prog 95 #[.pointer P, .agg #[.int .i64 i, .int .i64 j], entV E, .slice A n c] y fun e w' => e = .returned (.tuple #[]) ∧ K w'
def ownE (x : Ent) (b : Bool) : Int := if b = false then 7 else if x.a = 4 then 12 else 0
def ownX (x : Ent) (b : Bool) : Ent := if ownE x b = 0 then x else e0
def OwnC (w : World) (P : Option Addr) (i j : Int) (E : Ent) (o : Int) : Prop := ∀ x, Below w.heap.size w x → Calls Try.prog 94 #[.pointer P, .agg #[.int .i64 i, .int .i64 j]] x fun e w' => e = .returned (.tuple #[entV E, .int .i64 o]) ∧ Below x.heap.size x w'
set_option maxRecDepth 100000 in
set_option maxHeartbeats 2000000 in
theorem own_any (w : World) (base g s : Nat) (T : List (Int × Ent)) (ch : Int) (v : Value) (i j : Int) (h : DiI w base g s T ch v) (hT : T.length ≤ 1000) (hs : Rise T) :
    Calls Try.prog 94 #[.pointer (some ⟨g, 0, none⟩), .agg #[.int .i64 i, .int .i64 j]] w fun e w' => e = .returned (.tuple #[entV (ownX (thI e0 (numI i j) T) (hasI (numI i j) T)), .int .i64 (ownE (thI e0 (numI i j) T) (hasI (numI i j) T))]) ∧ Below w.heap.size w w' := by
  have hb0 : Below w.heap.size w ((w.alloc (.cells #[.int .i64 i, .int .i64 j] 23)).alloc (.cells #[.int .i64 0, .int .i64 0, .int .i64 0, .int .i64 0, .string ⟨#[]⟩] 70)) := ((Below.refl _ _).alloc (Nat.le_refl _) _).alloc (by simp) _
  have hk0 : Key2 ((w.alloc (.cells #[.int .i64 i, .int .i64 j] 23)).alloc (.cells #[.int .i64 0, .int .i64 0, .int .i64 0, .int .i64 0, .string ⟨#[]⟩] 70)) w.heap.size i j := heap_alloc2_old w _ _
  have hz0 : EntAt ((w.alloc (.cells #[.int .i64 i, .int .i64 j] 23)).alloc (.cells #[.int .i64 0, .int .i64 0, .int .i64 0, .int .i64 0, .string ⟨#[]⟩] 70)) (w.heap.size + 1) 0 0 0 0 ⟨#[]⟩ := heap_alloc2_new w _ _
  have hgt := dget_any _ base g s T ch v i j (h.below hb0) hT hs
  generalize hasI (numI i j) T = B at hgt ⊢
  generalize thI e0 (numI i j) T = E at hgt ⊢
  have hX : ownE E B = 7 ∧ B = false ∨ ownE E B = 12 ∧ B = true ∧ E.a = 4 ∨ ownE E B = 0 ∧ B = true ∧ ¬ E.a = 4 := by
    unfold ownE
    cases B
    · exact .inl ⟨if_pos rfl, rfl⟩
    · rw [if_neg (by simp)]
      by_cases h4 : E.a = 4
      · exact .inr (.inl ⟨if_pos h4, rfl, h4⟩)
      · exact .inr (.inr ⟨if_neg h4, rfl, h4⟩)
  unfold ownX
  obtain ⟨c0, c1⟩ := hk0.cells
  have HB0 := Lib.hid hb0
  have HZ0 := Lib.hid hz0
  have hgl := h.lt
  clear h hs hk0 hb0 hz0
  rcases hX with ⟨e1, rfl⟩ | ⟨e1, rfl, e2⟩ | ⟨e1, rfl, e2⟩
  · rw [e1, if_neg (by simp)]
    obtain ⟨ek, ea, el, eh, eb⟩ := E
    dsimp only [entV, e0] at hgt ⊢
    rw [str0]
    generalize strOfNums eb = ES at hgt
    have HGT := Lib.hid hgt
    clear hgt e1
    go_enter Try.func94, Try.ntmps94
    go_wp2_with fail
    generalize ((w.alloc (.cells #[.int .i64 i, .int .i64 j] 23)).alloc (.cells #[.int .i64 0, .int .i64 0, .int .i64 0, .int .i64 0, .string ⟨#[]⟩] 70)) = w0 at *
    refine HGT.out.mono ?_
    rintro e w1 ⟨rfl, hb1⟩
    have hb2 : Below w0.heap.size w0 (w1.alloc (.cells #[.int .i64 ek, .int .i64 ea, .int .i64 el, .int .i64 eh, .string ES] 70)) := kA hb1 _
    have HB2 := Lib.hid (kF hb2 HB0.out)
    have HZ2 := Lib.hid (HZ0.out.below hb2)
    have HX2 := Lib.hid (show EntAt (w1.alloc (.cells #[.int .i64 ek, .int .i64 ea, .int .i64 el, .int .i64 eh, .string ES] 70)) w1.heap.size ek ea el eh ES from heap_alloc_new w1 _)
    obtain ⟨d0, d1, d2, d3, d4⟩ := HZ2.out.cells
    obtain ⟨f0, f1, f2, f3, f4⟩ := HZ2.out.froz
    obtain ⟨x0, x1, x2, x3, x4⟩ := HX2.out.cells
    clear hb1 hb2 c0 c1 HGT
    go_wp2_with fail
    exact bodyPost_ret (results_cell_tmp_row rfl _ _ (w.heap.size + 1) _ _ _ _ rfl HZ2.out.five Try.underlying70 rfl info_ent) rfl ⟨rfl, five_below HB2.out (by omega)⟩
  · rw [e1, if_neg (by simp)]
    obtain ⟨ek, ea, el, eh, eb⟩ := E
    dsimp only [entV, e0] at hgt e2 ⊢
    rw [str0]
    generalize strOfNums eb = ES at hgt
    subst e2
    have HGT := Lib.hid hgt
    clear hgt e1
    go_enter Try.func94, Try.ntmps94
    go_wp2_with fail
    generalize ((w.alloc (.cells #[.int .i64 i, .int .i64 j] 23)).alloc (.cells #[.int .i64 0, .int .i64 0, .int .i64 0, .int .i64 0, .string ⟨#[]⟩] 70)) = w0 at *
    refine HGT.out.mono ?_
    rintro e w1 ⟨rfl, hb1⟩
    have hb2 : Below w0.heap.size w0 (w1.alloc (.cells #[.int .i64 ek, .int .i64 4, .int .i64 el, .int .i64 eh, .string ES] 70)) := kA hb1 _
    have HB2 := Lib.hid (kF hb2 HB0.out)
    have HZ2 := Lib.hid (HZ0.out.below hb2)
    have HX2 := Lib.hid (show EntAt (w1.alloc (.cells #[.int .i64 ek, .int .i64 4, .int .i64 el, .int .i64 eh, .string ES] 70)) w1.heap.size ek 4 el eh ES from heap_alloc_new w1 _)
    obtain ⟨d0, d1, d2, d3, d4⟩ := HZ2.out.cells
    obtain ⟨f0, f1, f2, f3, f4⟩ := HZ2.out.froz
    obtain ⟨x0, x1, x2, x3, x4⟩ := HX2.out.cells
    clear hb1 hb2 c0 c1 HGT
    go_wp2_with fail
    exact bodyPost_ret (results_cell_tmp_row rfl _ _ (w.heap.size + 1) _ _ _ _ rfl HZ2.out.five Try.underlying70 rfl info_ent) rfl ⟨rfl, five_below HB2.out (by omega)⟩
  · rw [e1, if_pos rfl]
    obtain ⟨ek, ea, el, eh, eb⟩ := E
    dsimp only [entV, e0] at hgt e2 ⊢
    generalize strOfNums eb = ES at hgt ⊢
    have HGT := Lib.hid hgt
    clear hgt e1
    go_enter Try.func94, Try.ntmps94
    go_wp2_with fail
    generalize ((w.alloc (.cells #[.int .i64 i, .int .i64 j] 23)).alloc (.cells #[.int .i64 0, .int .i64 0, .int .i64 0, .int .i64 0, .string ⟨#[]⟩] 70)) = w0 at *
    refine HGT.out.mono ?_
    rintro e w1 ⟨rfl, hb1⟩
    have hb2 : Below w0.heap.size w0 (w1.alloc (.cells #[.int .i64 ek, .int .i64 ea, .int .i64 el, .int .i64 eh, .string ES] 70)) := kA hb1 _
    have HB2 := Lib.hid (kF hb2 HB0.out)
    have HZ2 := Lib.hid (HZ0.out.below hb2)
    have HX2 := Lib.hid (show EntAt (w1.alloc (.cells #[.int .i64 ek, .int .i64 ea, .int .i64 el, .int .i64 eh, .string ES] 70)) w1.heap.size ek ea el eh ES from heap_alloc_new w1 _)
    obtain ⟨d0, d1, d2, d3, d4⟩ := HZ2.out.cells
    obtain ⟨f0, f1, f2, f3, f4⟩ := HZ2.out.froz
    obtain ⟨x0, x1, x2, x3, x4⟩ := HX2.out.cells
    clear hb1 hb2 c0 c1 HGT
    go_wp2_with fail
    exact bodyPost_ret (results_cell_tmp_row rfl _ _ (w.heap.size + 1) _ _ _ _ rfl HZ2.out.five Try.underlying70 rfl info_ent) rfl ⟨rfl, five_below HB2.out (by omega)⟩
end Go.Proofs.Ytchmildlkaikmaa