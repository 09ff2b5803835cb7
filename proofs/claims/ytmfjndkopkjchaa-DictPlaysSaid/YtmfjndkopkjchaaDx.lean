/- Why there is no such entry. -/
import Derived.Test.YtmfjndkopkjchaaDw
namespace Go.Proofs.Ytmfjndkopkjchaa
open Go.RowKit
set_option linter.unusedSimpArgs false
set_option linter.unusedVariables false

def MisP (w : World) (R : List (Int × Ent)) (i : Int) (e : Ending) (w' : World) : Prop := Below w.heap.size w w' ∧ (((∃ x ∈ R, x.1 / 256 = i) ∧ e = .returned (.int .i64 101253137)) ∨ ((∀ y ∈ R, ¬ y.1 / 256 = i) ∧ e = .returned (.int .i64 100794368)))
set_option maxRecDepth 100000 in
set_option maxHeartbeats 2000000 in
theorem rmis_any (w : World) (base n c : Nat) (a : Option Addr) (R : List (Int × Ent)) (ch i j : Int) (h : w.ownsRow base 57 7 (.slice a n c) R.length (fr R)) (hnl : n = R.length) (hn : R.length ≤ 1000)  :
    Calls Try.prog 36 #[.agg #[.slice a n c, .int .i64 ch], .agg #[.int .i64 i, .int .i64 j]] w (MisP w R i) := by
  subst hnl
  have hb0 : Below w.heap.size w ((w.alloc (.cells #[.slice a R.length c, .int .i64 ch] 27)).alloc (.cells #[.int .i64 i, .int .i64 j] 31)) := ((Below.refl _ _).alloc (Nat.le_refl _) _).alloc (by simp) _
  have hr0 : RBox ((w.alloc (.cells #[.slice a R.length c, .int .i64 ch] 27)).alloc (.cells #[.int .i64 i, .int .i64 j] 31)) w.heap.size a R.length c ch := heap_alloc2_old w _ _
  have hk0 : Key2 ((w.alloc (.cells #[.slice a R.length c, .int .i64 ch] 27)).alloc (.cells #[.int .i64 i, .int .i64 j] 31)) (w.heap.size + 1) i j := heap_alloc2_new w _ _
  have HC := Lib.hid (fun x (hx : Below w.heap.size w x) p y (hy : R[p]? = some y) => rowsR_at (own_keep h hx) hy)
  have HX := Lib.hid (fun p (hp : p < R.length) => show ∃ x, R[p]? = some x from ⟨_, List.getElem?_eq_getElem hp⟩)
  have HP1 := Lib.hid (fun w' (p : Nat) (x : Int × Ent) (hb : Below w.heap.size w w') (hx : R[p]? = some x) (h1 : x.1 / 256 = i) (hno : ∀ y ∈ R.take p, ¬ y.1 / 256 = i) => show MisP w R i (.returned (.int .i64 101253137)) w' from ⟨hb, .inl ⟨⟨x, List.mem_of_getElem? hx, h1⟩, rfl⟩⟩)
  have HP2 := Lib.hid (fun w' (hb : Below w.heap.size w w') (hno : ∀ y ∈ R.take R.length, ¬ y.1 / 256 = i) => show MisP w R i (.returned (.int .i64 100794368)) w' from ⟨hb, .inr ⟨by rw [List.take_length] at hno; exact hno, rfl⟩⟩)
  have HST := Lib.hid (fun (p : Nat) (x : Int × Ent) (hx : R[p]? = some x) (h1 : ¬ x.1 / 256 = i) (hno : ∀ y ∈ R.take p, ¬ y.1 / 256 = i) => show ∀ y ∈ R.take (p + 1), ¬ y.1 / 256 = i from fun y hy => by
    rw [List.take_add_one, hx] at hy
    rcases List.mem_append.1 hy with hy | hy
    · exact hno y hy
    · have e0 : y = x := by simpa using hy
      rw [e0]
      exact h1)
  have hno0 : Hid (∀ y ∈ R.take 0, ¬ y.1 / 256 = i) := Lib.hid (fun y hy => by simp at hy)
  have HB0 := Lib.hid hb0
  have HR0 := Lib.hid hr0
  have HK0 := Lib.hid hk0
  generalize R.length = N at *
  clear h hb0 hr0 hk0
  go_enter Try.func36, Try.ntmps36
  go_wp2_with fail
  generalize (w.alloc (.cells #[.slice a N c, .int .i64 ch] 27)).alloc (.cells #[.int .i64 i, .int .i64 j] 31) = w0 at *
  have hbr : Hid (Below w0.heap.size w0 w0) := Lib.hid (Below.refl _ _)
  go_loopw [5] (fun i5 wr => ∃ p : Nat, p ≤ N ∧ i5 = .int .i64 p ∧ Hid (Below w0.heap.size w0 wr) ∧ Hid (∀ y ∈ R.take p, ¬ y.1 / 256 = i)) (fun i5 _ => N - (intOf i5).toNat)
  case atStart => exact ⟨0, Nat.zero_le _, rfl, hbr, hno0⟩
  case round =>
    obtain ⟨p, hp, rfl, HB, HNO⟩ := hrel
    obtain ⟨d0, d1⟩ := (HR0.out.below HB.out).cells
    obtain ⟨c0, c1⟩ := (HK0.out.below HB.out).cells
    by_cases hlt : p < N
    · obtain ⟨x, hx⟩ := HX.out p hlt
      obtain ⟨gr, rfl, hg, hnc, hm, k0, k1, -, -, -, -, -⟩ := HC.out wr (kF HB.out HB0.out) p x hx
      simp only [maxLen] at hm
      have hpI : (p : Int) < (N : Int) := by omega
      by_cases hk : x.1 / 256 = i
      · have HPK := Lib.hid (fun w' (hb : Below w.heap.size w w') => HP1.out w' p x hb hx hk HNO.out)
        generalize x.1 / 256 = xi at *
        subst hk
        clear hx
        go_wp2_with fail
        go_quiet (fail)
        go_wp2_with fail
        go_ret
        exact HPK.out _ (kF (below_drewN HB.out nq) HB0.out)
      · have HN2 := Lib.hid (HST.out p x hx hk HNO.out)
        clear hx HNO
        generalize x.1 / 256 = xi at *
        go_wp2_with fail
        go_quiet (fail)
        go_wp2_with fail
        exact ⟨⟨p + 1, by omega, by go_num, Lib.hid (below_drewN HB.out nq), HN2⟩, by simp [intOf]; omega⟩
    · obtain rfl : p = N := by omega
      go_wp2_with fail
      go_ret
      exact HP2.out _ (kF HB.out HB0.out) HNO.out
end Go.Proofs.Ytmfjndkopkjchaa
