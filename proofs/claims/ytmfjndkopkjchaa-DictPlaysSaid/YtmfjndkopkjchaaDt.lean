/- What must be whatever is asked, walked. -/
import Derived.Test.YtmfjndkopkjchaaDp
import Derived.Lib.SmallJoins
import Derived.Deep.Slices
namespace Go.Proofs.Ytmfjndkopkjchaa
open Go.RowKit
set_option linter.unusedSimpArgs false
set_option linter.unusedVariables false

set_option maxRecDepth 100000 in
set_option maxHeartbeats 2000000 in
theorem live14_any (w : World) : Calls Try.prog 9 #[] w fun e w' => e = .returned (.bool true) ∧ Below w.heap.size w w' := by
  have HN := Lib.hid (dnew_any w)
  have HL := live_str5
  go_enter Try.func9, Try.ntmps9
  go_wp2_with fail
  refine HN.out.mono ?_
  rintro e w1 ⟨g, s, rfl, hd, hg, hs, hb1⟩
  have hk1 : Key2 (w1.alloc (.cells #[.int .i64 8192, .int .i64 1] 31)) w1.heap.size 8192 1 := heap_alloc_new w1 _
  obtain ⟨c0, c1⟩ := hk1.cells
  have hb2 : Below w1.heap.size w1 (w1.alloc (.cells #[.int .i64 8192, .int .i64 1] 31)) := (Below.refl _ _).alloc (Nat.le_refl _) _
  have HB2 := Lib.hid (kF hb2 hb1)
  have HK2 := Lib.hid hk1
  have HD2 := Lib.hid (hd.below hb2)
  have HGL := Lib.hid (And.intro hd.lt (Array.getElem?_eq_some_iff.1 hd.sh.box).1)
  have HG := Lib.hid hg
  have HS := Lib.hid hs
  have HZ := Lib.hid hb1.size
  have HZ2 := Lib.hid (show (w1.alloc (.cells #[.int .i64 8192, .int .i64 1] 31)).heap.size = w1.heap.size + 1 by simp)
  clear hk1 hb2 hd hg hs hb1 HN
  go_wp2_with fail
  generalize w1.alloc (.cells #[.int .i64 8192, .int .i64 1] 31) = w2 at *
  have hb3 : Below w2.heap.size w2 (w2.alloc (.cells #[.int .u8 5] 5)) := (Below.refl _ _).alloc (Nat.le_refl _) _
  have hB3 : Byt (w2.alloc (.cells #[.int .u8 5] 5)) (w2.alloc (.cells #[.int .u8 5] 5)).heap.size (some ⟨w2.heap.size, 0, none⟩) 1 1 [5] := (Byt.new w2 5 [5] (by simp) (by simp [maxLen])).more (by simp)
  have hsz3 : (w2.alloc (.cells #[.int .u8 5] 5)).heap.size = w2.heap.size + 1 := by simp
  have hd2 := HD2.out.below hb3
  rw [HZ2.out] at hB3
  generalize w2.alloc (.cells #[.int .u8 5] 5) = w2b at *
  have hadd := live_add w2b w.heap.size g s (.slice none 0 0) _ 1 hd2 (by have := HZ.out; have := HZ2.out; omega) hB3
  refine hadd.mono ?_
  rintro e w3 ⟨rfl, v3, hd3, hn3, ht3⟩
  have hb4 : Below w.heap.size w w3 := ht3.low (kF hb3 HB2.out) (by have := HB2.out.size; omega) (Nat.le_refl _) HG.out HS.out (fun b e => by cases e)
  have hk4 : Key2 w3 w1.heap.size 8192 1 := by
    have h1 := (hb3.block w1.heap.size (by have := HZ2.out; omega)).trans HK2.out
    exact (ht3.block w1.heap.size (by have := HZ2.out; omega) (by have := HGL.out; omega) (by have := HGL.out; omega) (fun e => by cases e)).trans h1
  have HB4 := Lib.hid hb4
  have HD4 := Lib.hid hd3
  have HK4 := Lib.hid hk4
  clear hb3 hd3 hn3 ht3 hb4 hk4 c0 c1 hsz3 hB3 hd2 hadd
  obtain ⟨c0, c1⟩ := HK4.out.cells
  go_wp2_with fail
  refine (live_read _ _ _ _ _ HD4.out).mono ?_
  rintro e w4 ⟨A, c, rfl, hy, hb5⟩
  have hst := conv_any hy
  have HB5 := Lib.hid (kF hb5 HB4.out)
  have HD5 := Lib.hid (HD4.out.below hb5)
  have HK5 := Lib.hid (HK4.out.below hb5)
  clear hy hb5 c0 c1
  obtain ⟨c0, c1⟩ := HK5.out.cells
  go_wp2_with fail
  have hb6 : Below w4.heap.size w4 (w4.alloc (.cells #[.int .u8 10] 5)) := (Below.refl _ _).alloc (Nat.le_refl _) _
  refine (live_write _ _ _ _ _ (HD5.out.below hb6) 8192 1 _ _ _ _ _ ((Byt.new w4 5 [10] (by simp) (by simp [maxLen])).more (by simp)) live_w1 (by decide)).mono ?_
  rintro e w5 ⟨rfl, hb7⟩
  have HB7 := Lib.hid (kF (kF hb7 hb6) HB5.out)
  have HD7 := Lib.hid ((HD5.out.below hb6).below hb7)
  clear hb6 hb7 c0 c1 hst
  go_wp2_with fail
  refine (live_write _ _ _ _ _ HD7.out 8192 2 _ _ _ _ _ (Byt.nil_ _ _) live_w2 (by decide)).mono ?_
  rintro e w6 ⟨rfl, hb8⟩
  have HB8 := Lib.hid (kF hb8 HB7.out)
  have HD8 := Lib.hid (HD7.out.below hb8)
  clear hb8
  go_wp2_with fail
  refine (live_write _ _ _ _ _ HD8.out 8193 0 _ _ _ _ _ (Byt.nil_ _ _) live_w3 (by decide)).mono ?_
  rintro e w7 ⟨rfl, hb9⟩
  have HB9 := Lib.hid (kF hb9 HB8.out)
  clear hb9
  go_wp2_with fail
  go_ret
  exact ⟨rfl, HB9.out⟩
end Go.Proofs.Ytmfjndkopkjchaa
namespace Go.Proofs.Ytmfjndkopkjchaa
open Go.RowKit Go.Joins Go.ChangeShapes Go.WideShapes Go.Deep
set_option linter.unusedSimpArgs false
set_option linter.unusedVariables false

theorem cells_keyD : Try.prog.cellsOf 31 = 2 := by kernel_rfl
theorem cells_intD : Try.prog.cellsOf 3 = 1 := by kernel_rfl
theorem array2D {α : Type} {cs : Array α} (h : cs.size = 2) : ∃ c0 c1, cs = #[c0, c1] := by
  obtain ⟨l⟩ := cs
  match l, h with
  | [c0, c1], _ => exact ⟨c0, c1, rfl⟩
section
variable {H : Type} {enc : TypeId × Value → H} {w : World} {base : Nat} {spare : Nat → Bool} {held : Bool}
set_option maxRecDepth 100000 in
theorem open_key {r : Reach} {b0 : Nat} {v : Value} {dd : DataW H} {p : List MemPlace} (hv : Value.okWide Try.prog w r b0 31 v) (h : DataW.Trod enc Try.prog w base spare held 31 v dd p) :
    ∃ i j : Int, v = .agg #[.int .i64 i, .int .i64 j] ∧ (Lit.int .i64 i).wf = true ∧ (Lit.int .i64 j).wf = true := by
  obtain ⟨cs, rfl, hsz⟩ := okWide_struct Try.underlying31 hv
  obtain ⟨c0, c1, rfl⟩ := array2D (hsz.trans cells_keyD)
  obtain ⟨fuel, hf⟩ := h
  obtain ⟨y0, y1, m, _, _, h0, h1⟩ := trod_struct2 Try.underlying31 hf
  simp only [cells_intD, Value.cells] at h0 h1
  obtain ⟨i, e0, _, w0⟩ := DataW.trod_int Try.underlying3 h0
  obtain ⟨j, e1, _, w1⟩ := DataW.trod_int Try.underlying3 h1
  simp at e0 e1
  subst e0 e1
  exact ⟨i, j, rfl, w0, w1⟩
end
end Go.Proofs.Ytmfjndkopkjchaa
