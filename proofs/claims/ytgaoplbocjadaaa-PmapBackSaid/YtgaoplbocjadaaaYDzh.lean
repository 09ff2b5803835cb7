/- The document's Add, whole. -/
import Derived.Test.YtgaoplbocjadaaaYDzgA
import Derived.Test.YtgaoplbocjadaaaYDzgB
import Derived.Test.YtgaoplbocjadaaaYDzgC
namespace Go.Proofs.Ytgaoplbocjadaaa
open Go.RowKit
set_option linter.unusedSimpArgs false
set_option linter.unusedVariables false
set_option maxRecDepth 100000 in
set_option maxHeartbeats 60000000 in
theorem dradd_bad (w : World) (base n c : Nat) (a : Option Addr) (R : List (Int × Ent)) (ch i j k ac lo hi : Int) (B : Option Addr) (m mc : Nat) (l : List Int) (h : w.ownsRow base 77 7 (.slice a n c) n (fr R)) (hnl : n = R.length) (hn : R.length ≤ 1000) (hbase : base ≤ w.heap.size) (hok : ∀ x ∈ R, okE x) (hB : Byt w w.heap.size B m mc l) (hbad : ¬ (okN i j = true ∧ mayB k ac lo hi = true)) :
    Calls Try.prog 40 #[.agg #[.slice a n c, .int .i64 ch], .agg #[.int .i64 i, .int .i64 j], .agg #[.int .i64 k, .int .i64 ac, .int .i64 lo, .int .i64 hi], .slice B m mc] w (AddR w base R ch i j k ac lo hi l) := by
  have hb0 : Below w.heap.size w ((((w.alloc (.cells #[.slice a n c, .int .i64 ch] 33)).alloc (.cells #[.int .i64 i, .int .i64 j] 24)).alloc (.cells #[.int .i64 k, .int .i64 ac, .int .i64 lo, .int .i64 hi] 75)).alloc (.cells #[.slice none 0 0, .int .i64 0] 33)) := ((((Below.refl _ _).alloc (Nat.le_refl _) _).alloc (by simp) _).alloc (by simp; omega) _).alloc (by simp; omega) _
  have hs2 : ((w.alloc (.cells #[.slice a n c, .int .i64 ch] 33)).alloc (.cells #[.int .i64 i, .int .i64 j] 24)).heap.size = w.heap.size + 2 := by simp
  have hs3 : (((w.alloc (.cells #[.slice a n c, .int .i64 ch] 33)).alloc (.cells #[.int .i64 i, .int .i64 j] 24)).alloc (.cells #[.int .i64 k, .int .i64 ac, .int .i64 lo, .int .i64 hi] 75)).heap.size = w.heap.size + 3 := by simp
  have ha0 : AddAt w a n c ch i j k ac lo hi ((((w.alloc (.cells #[.slice a n c, .int .i64 ch] 33)).alloc (.cells #[.int .i64 i, .int .i64 j] 24)).alloc (.cells #[.int .i64 k, .int .i64 ac, .int .i64 lo, .int .i64 hi] 75)).alloc (.cells #[.slice none 0 0, .int .i64 0] 33)) := by
    refine ⟨(heap_alloc_old _ _ _ (by rw [hs3]; omega)).trans ((heap_alloc_old _ _ _ (by rw [hs2]; omega)).trans (heap_alloc2_old w _ _)), (heap_alloc_old _ _ _ (by rw [hs3]; omega)).trans ((heap_alloc_old _ _ _ (by rw [hs2]; omega)).trans (heap_alloc2_new w _ _)), ?_, ?_, hb0⟩
    · have h2 := heap_alloc_new ((w.alloc (.cells #[.slice a n c, .int .i64 ch] 33)).alloc (.cells #[.int .i64 i, .int .i64 j] 24)) (.cells #[.int .i64 k, .int .i64 ac, .int .i64 lo, .int .i64 hi] 75)
      rw [hs2] at h2
      exact (heap_alloc_old _ _ _ (by rw [hs3]; omega)).trans h2
    · have h2 := heap_alloc_new (((w.alloc (.cells #[.slice a n c, .int .i64 ch] 33)).alloc (.cells #[.int .i64 i, .int .i64 j] 24)).alloc (.cells #[.int .i64 k, .int .i64 ac, .int .i64 lo, .int .i64 hi] 75)) (.cells #[.slice none 0 0, .int .i64 0] 33)
      rw [hs3] at h2
      exact h2
  have HAT := Lib.hid (fun x (hx : Below w.heap.size w x) => rat_any x base n c a R ch i j (by rw [← hnl]; exact own_keep h hx) hnl hn (fun y hy => (hok y hy).1))
  have HSM := Lib.hid (fun (code : Int) (w3 : World) (hz : RBox w3 (w.heap.size + 3) none 0 0 0) (hb : Below w.heap.size w w3) => RefP.same (ch := ch) (code := code) hnl h hz hb (by omega))
  have HNM := Lib.hid (fun x => rname_any i j x)
  have HMA := Lib.hid (fun x => rmay_any k ac lo hi x)
  have HFT := Lib.hid (fun (x : World) (A : Option Addr) (q r : Nat) (L : List Int) (hy : Byt x x.heap.size A q r L) => rfits_any k ac lo hi x A q r L hy)
  have hfr := fun x => rfirst_any k ac lo hi x
  unfold FirPost at hfr
  have HFR := Lib.hid hfr
  have HBY := Lib.hid (fun x (hx : Below w.heap.size w x) => hB.step hx)
  have hln := hB.len
  have hbm := byt_max hB
  have HA0 := Lib.hid ha0
  have HRB := Lib.hid (show l = [] → ¬ fitsA k ac lo hi l = 0 → refB k ac lo hi l = firL k ac lo hi from fun h1 h2 => if_pos ⟨h1, h2⟩)
  have HRC := Lib.hid (show ¬ l = [] ∨ fitsA k ac lo hi l = 0 → refB k ac lo hi l = l from fun h1 => if_neg (fun h2 => h1.elim (fun h => h h2.1) (fun h => h2.2 h)))
  have HOWN := Lib.hid h
  have HNL := Lib.hid hnl
  have HNN := Lib.hid hn
  unfold AddR
  have hzn : n ≤ 1000 := by omega
  have HBS := Lib.hid hbase
  clear h hok hB hb0 ha0 hbase hs2 hs3 hfr hnl hn
  obtain ⟨d0, d1⟩ := HA0.out.dict.cells
  obtain ⟨c0, c1⟩ := HA0.out.key.cells
  obtain ⟨p0, p1, p2, p3⟩ := HA0.out.spc.cells
  obtain ⟨z0, z1⟩ := HA0.out.zero.cells
  have fz0 := frozen_of_row _ _ 0 _ _ HA0.out.zero
  have fz1 := frozen_of_row _ _ 1 _ _ HA0.out.zero
  cases hk1 : okN i j with
  | false =>
    have HN0 := Lib.hid hk1
    have hnm := HNM.out
    rw [hk1] at hnm
    clear HNM
    have HNM := Lib.hid hnm
    clear hnm hk1
    go_enter Try.func40, Try.ntmps40
    go_wp2_with fail
    generalize ((((w.alloc (.cells #[.slice a n c, .int .i64 ch] 33)).alloc (.cells #[.int .i64 i, .int .i64 j] 24)).alloc (.cells #[.int .i64 k, .int .i64 ac, .int .i64 lo, .int .i64 hi] 75)).alloc (.cells #[.slice none 0 0, .int .i64 0] 33)) = w0 at *
    refine (HNM.out _).mono ?_
    rintro e w1 ⟨rfl, hb1⟩
    have HA1 := Lib.hid (HA0.out.below hb1)
    clear hb1 d0 d1 c0 c1 p0 p1 p2 p3 z0 z1 fz0 fz1
    obtain ⟨d0, d1⟩ := HA1.out.dict.cells
    obtain ⟨c0, c1⟩ := HA1.out.key.cells
    obtain ⟨p0, p1, p2, p3⟩ := HA1.out.spc.cells
    obtain ⟨z0, z1⟩ := HA1.out.zero.cells
    have fz0 := frozen_of_row _ _ 0 _ _ HA1.out.zero
    have fz1 := frozen_of_row _ _ 1 _ _ HA1.out.zero
    go_wp2_with fail
    exact bodyPost_ret ((results_cell_tmp_row rfl _ _ (w.heap.size + 3) _ _ _ _ rfl HA1.out.zero.two Try.underlying33 rfl info_dct).trans (by rfl)) rfl (.inl ⟨.inl (by first | rfl | trivial), HSM.out 2 _ HA1.out.zero HA1.out.bel⟩)
  | true =>
    cases hm1 : mayB k ac lo hi with
    | false =>
      have hnm := HNM.out
      rw [hk1] at hnm
      have hma := HMA.out
      rw [hm1] at hma
      have HNM2 := Lib.hid hnm
      have HMA2 := Lib.hid hma
      clear hnm hma hk1 hm1 HNM HMA
      go_enter Try.func40, Try.ntmps40
      go_wp2_with fail
      generalize ((((w.alloc (.cells #[.slice a n c, .int .i64 ch] 33)).alloc (.cells #[.int .i64 i, .int .i64 j] 24)).alloc (.cells #[.int .i64 k, .int .i64 ac, .int .i64 lo, .int .i64 hi] 75)).alloc (.cells #[.slice none 0 0, .int .i64 0] 33)) = w0 at *
      refine (HNM2.out _).mono ?_
      rintro e w1 ⟨rfl, hb1⟩
      have HA1 := Lib.hid (HA0.out.below hb1)
      clear hb1 d0 d1 c0 c1 p0 p1 p2 p3 z0 z1 fz0 fz1
      obtain ⟨d0, d1⟩ := HA1.out.dict.cells
      obtain ⟨c0, c1⟩ := HA1.out.key.cells
      obtain ⟨p0, p1, p2, p3⟩ := HA1.out.spc.cells
      obtain ⟨z0, z1⟩ := HA1.out.zero.cells
      have fz0 := frozen_of_row _ _ 0 _ _ HA1.out.zero
      have fz1 := frozen_of_row _ _ 1 _ _ HA1.out.zero
      go_wp2_with fail
      refine (HMA2.out _).mono ?_
      rintro e w2 ⟨rfl, hb2⟩
      have HA2 := Lib.hid (HA1.out.below hb2)
      clear hb2 d0 d1 c0 c1 p0 p1 p2 p3 z0 z1 fz0 fz1
      obtain ⟨d0, d1⟩ := HA2.out.dict.cells
      obtain ⟨c0, c1⟩ := HA2.out.key.cells
      obtain ⟨p0, p1, p2, p3⟩ := HA2.out.spc.cells
      obtain ⟨z0, z1⟩ := HA2.out.zero.cells
      have fz0 := frozen_of_row _ _ 0 _ _ HA2.out.zero
      have fz1 := frozen_of_row _ _ 1 _ _ HA2.out.zero
      go_wp2_with fail
      exact bodyPost_ret ((results_cell_tmp_row rfl _ _ (w.heap.size + 3) _ _ _ _ rfl HA2.out.zero.two Try.underlying33 rfl info_dct).trans (by rfl)) rfl (.inl ⟨.inr (by first | rfl | trivial), HSM.out 2 _ HA2.out.zero HA2.out.bel⟩)
    | true =>
      exact absurd ⟨hk1, hm1⟩ hbad
theorem dradd_any (w : World) (base n c : Nat) (a : Option Addr) (R : List (Int × Ent)) (ch i j k ac lo hi : Int) (B : Option Addr) (m mc : Nat) (l : List Int) (h : w.ownsRow base 77 7 (.slice a n c) n (fr R)) (hnl : n = R.length) (hn : R.length ≤ 1000) (hbase : base ≤ w.heap.size) (hok : ∀ x ∈ R, okE x) (hB : Byt w w.heap.size B m mc l) :
    Calls Try.prog 40 #[.agg #[.slice a n c, .int .i64 ch], .agg #[.int .i64 i, .int .i64 j], .agg #[.int .i64 k, .int .i64 ac, .int .i64 lo, .int .i64 hi], .slice B m mc] w (AddR w base R ch i j k ac lo hi l) := by
  by_cases hg : okN i j = true ∧ mayB k ac lo hi = true
  · by_cases hm0 : m = 0
    · by_cases hf0 : fitsA k ac lo hi l = 0
      · exact dradd_b w base n c a R ch i j k ac lo hi B m mc l h hnl hn hbase hok hB hg.1 hg.2 hm0 hf0
      · exact dradd_c w base n c a R ch i j k ac lo hi B m mc l h hnl hn hbase hok hB hg.1 hg.2 hm0 hf0
    · exact dradd_a w base n c a R ch i j k ac lo hi B m mc l h hnl hn hbase hok hB hg.1 hg.2 hm0
  · exact dradd_bad w base n c a R ch i j k ac lo hi B m mc l h hnl hn hbase hok hB hg
end Go.Proofs.Ytgaoplbocjadaaa