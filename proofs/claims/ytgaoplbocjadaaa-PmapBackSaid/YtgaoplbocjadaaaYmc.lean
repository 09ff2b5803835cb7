/- Mappings: the document's one, Check and Size. -/
import Derived.Test.YtgaoplbocjadaaaYmb
import Derived.Test.YtgaoplbocjadaaaYDzs
import Derived.Test.YtgaoplbocjadaaaYlaid
namespace Go.Proofs.Ytgaoplbocjadaaa
open Go.RowKit
set_option linter.unusedSimpArgs false
set_option linter.unusedVariables false
set_option maxRecDepth 100000 in
set_option maxHeartbeats 8000000 in
theorem rone_any (w : World) (base c : Nat) (a : Option Addr) (T R : List (Int × Ent)) (ch si sj sn : Int) (h : w.ownsRow base 77 7 (.slice a R.length c) R.length (fr R)) (ht : TieD T R) :
    Calls Try.prog 71 #[.agg #[.slice a R.length c, .int .i64 ch], .agg #[.int .i64 si, .int .i64 sj, .int .i64 sn]] w fun e w' => e = .returned (.bool (mapB T ⟨si, sj, sn⟩)) ∧ Below w.heap.size w w' := by
  have hb0 : Below w.heap.size w ((w.alloc (.cells #[.slice a R.length c, .int .i64 ch] 33)).alloc (.cells #[.int .i64 si, .int .i64 sj, .int .i64 sn] 26)) := ((Below.refl _ _).alloc (Nat.le_refl _) _).alloc (by simp) _
  have hr0 : RBox ((w.alloc (.cells #[.slice a R.length c, .int .i64 ch] 33)).alloc (.cells #[.int .i64 si, .int .i64 sj, .int .i64 sn] 26)) w.heap.size a R.length c ch := heap_alloc2_old w _ _
  have hx0 : Sl3 ((w.alloc (.cells #[.slice a R.length c, .int .i64 ch] 33)).alloc (.cells #[.int .i64 si, .int .i64 sj, .int .i64 sn] 26)) (w.heap.size + 1) si sj sn := heap_alloc2_new w _ _
  have hfew := ht.good.few
  have HAT := Lib.hid (fun x (hx : Below w.heap.size w x) => rat_any x base R.length c a R ch si sj (own_below h hx) rfl (by rw [← ht.len]; omega) (fun y hy => (ht.ok y hy).1))
  have HCR := Lib.hid (fun x (hx : Below w.heap.size w x) (p : Nat) (y : Int × Ent) (hy : R[p]? = some y) => rowsR_at (own_below h hx) hy)
  have HNO := Lib.hid (fun (hn : ∀ y ∈ R, ¬ y.1 = numI si sj) => show mapB T ⟨si, sj, sn⟩ = false from decide_eq_false (fun hh => by
    have := ht.hasnt hn
    rw [show (⟨si, sj, sn⟩ : SlV).q = numI si sj from rfl, this] at hh
    cases hh.1))
  have HYE := Lib.hid (fun (p : Nat) (y : Int × Ent) (hy : R[p]? = some y) (hq : y.1 = numI si sj) => show mapB T ⟨si, sj, sn⟩ = decide (0 < kSize y.2.k ∧ kSize y.2.k * 8 = sn ∧ ¬ y.2.a = 4) from by
    obtain ⟨h1, h2⟩ := ht.at_ hy
    unfold mapB entS
    rw [show (⟨si, sj, sn⟩ : SlV).q = y.1 from hq.symm, h1, h2]
    simp)
  have HLT := Lib.hid (fun (p : Nat) (y : Int × Ent) (hy : R[p]? = some y) => show p < R.length from (List.getElem?_eq_some_iff.1 hy).1)
  have hRl : R.length ≤ 600 := by rw [← ht.len]; exact hfew
  have HB0 := Lib.hid hb0
  have HR0 := Lib.hid hr0
  have HX0 := Lib.hid hx0
  obtain ⟨d0, d1⟩ := hr0.cells
  obtain ⟨s0, s1, s2⟩ := hx0.cells
  clear hb0 hr0 hx0 h ht hfew
  generalize mapB T ⟨si, sj, sn⟩ = v at *
  generalize R.length = N at *
  go_enter Try.func71, Try.ntmps71
  go_wp2_with fail
  generalize ((w.alloc (.cells #[.slice a N c, .int .i64 ch] 33)).alloc (.cells #[.int .i64 si, .int .i64 sj, .int .i64 sn] 26)) = w0 at *
  have hat := HAT.out w0 HB0.out
  unfold AtP at hat
  refine hat.mono ?_
  rintro e w1 ⟨hb1, hcase⟩
  have HB1 := Lib.hid (kF hb1 HB0.out)
  have HR1 := Lib.hid (HR0.out.below hb1)
  have HX1 := Lib.hid (HX0.out.below hb1)
  clear hb1 d0 d1 s0 s1 s2 hat HAT
  obtain ⟨d0, d1⟩ := HR1.out.cells
  obtain ⟨s0, s1, s2⟩ := HX1.out.cells
  rcases hcase with ⟨p, y, hy, hq, -, rfl⟩ | ⟨hn, rfl⟩
  · obtain ⟨gr, rfl, hg, hnc, hm, hcs⟩ := HCR.out w1 HB1.out p y hy
    have HPL := HLT.out p y hy
    have HV := Lib.hid (HYE.out p y hy hq)
    simp only [maxLen] at hm
    have hpI : (p : Int) < (N : Int) := by omega
    have HCX := Lib.hid (fun x (hx : Below w.heap.size w x) => show x.cell? ⟨gr, p * 7 + 2, none⟩ = some (.int .i64 y.2.k) ∧ x.cell? ⟨gr, p * 7 + 3, none⟩ = some (.int .i64 y.2.a) from by
      obtain ⟨g', e', _, _, _, hc7⟩ := HCR.out x hx p y hy
      cases e'
      obtain ⟨q0, q1, q2, q3, q4, q5, q6⟩ := hc7
      exact ⟨q2, q3⟩)
    have HSI := Lib.hid (size_in y.2.k)
    have HSH := Lib.hid (fun w => shape_any y.2.k w)
    clear hy hq hg hcs HNO HYE HLT HCR
    generalize y.2.a = ya at *
    generalize y.2.k = yk at *
    generalize kSize yk = KS at *
    obtain ⟨k2, k3⟩ := HCX.out w1 HB1.out
    have n0 : ¬ (p : Int) < 0 := by omega
    by_cases h4 : ya = 4
    · have e4 : (ya == 4) = true := by simp [h4]
      have HVv : Hid (v = false) := Lib.hid (by rw [HV.out]; exact decide_eq_false (fun h => h.2.2 h4))
      go_wp2_with fail
      go_ret
      exact ⟨by rw [HVv.out]; rfl, HB1.out⟩
    · have e4 : (ya == 4) = false := by simp [h4]
      go_wp2_with fail
      refine (HSH.out w1).mono ?_
      rintro e w2 ⟨rfl, rfl⟩
      have iw : IntKind.i64.wrap (8 * KS) = 8 * KS := IntWalk.i64_in _ (by have := HSI.out; omega)
      by_cases h0 : 0 < KS
      · by_cases h1 : sn = 8 * KS
        · have e1 : (sn == 8 * KS) = true := by simp [h1]
          have HVv : Hid (v = true) := Lib.hid (by rw [HV.out]; exact decide_eq_true ⟨h0, by omega, h4⟩)
          clear h1
          go_wp2_with fail
          go_ret
          exact ⟨by rw [HVv.out]; rfl, HB1.out⟩
        · have e1 : (sn == 8 * KS) = false := by simp [h1]
          have HVv : Hid (v = false) := Lib.hid (by rw [HV.out]; exact decide_eq_false (fun h => h1 (by have := h.2.1; omega)))
          go_wp2_with fail
          go_ret
          exact ⟨by rw [HVv.out]; rfl, HB1.out⟩
      · have HVv : Hid (v = false) := Lib.hid (by rw [HV.out]; exact decide_eq_false (fun h => h0 h.1))
        go_wp2_with fail
        go_ret
        exact ⟨by rw [HVv.out]; rfl, HB1.out⟩
  · have HVv : Hid (v = false) := Lib.hid (HNO.out hn)
    clear hn HNO HYE
    go_wp2_with fail
    go_ret
    exact ⟨by rw [HVv.out]; rfl, HB1.out⟩
set_option maxRecDepth 100000 in
set_option maxHeartbeats 8000000 in
theorem rcheck_any (w : World) (base c nc m : Nat) (a A : Option Addr) (T R : List (Int × Ent)) (ch : Int) (fs : Nat → SlV) (n : Nat) (h : w.ownsRow base 77 7 (.slice a R.length c) R.length (fr R)) (ht : TieD T R) (hL : Els SlC 3 w w.heap.size A n nc fs) :
    Calls Try.prog 25 #[.agg #[.slice a R.length c, .int .i64 ch], .slice A n nc] w fun e w' => e = .returned (.int .i64 (chkE (mapB T) fs n)) ∧ Below w.heap.size w w' := by
  have hb0 : Below w.heap.size w (w.alloc (.cells #[.slice a R.length c, .int .i64 ch] 33)) := (Below.refl _ _).alloc (Nat.le_refl _) _
  have hr0 : RBox (w.alloc (.cells #[.slice a R.length c, .int .i64 ch] 33)) w.heap.size a R.length c ch := heap_alloc_new w _
  have hcap := hL.cap
  have hmax := hL.max
  simp only [maxLen] at hmax
  have HC := Lib.hid (fun (x : World) (hx : Below w.heap.size w x) (h0 : 0 < n) => show ∃ b off, A = some ⟨b, off, none⟩ ∧ b < w.heap.size ∧ ∀ i, i < n → SlC x b (off + i * 3) (fs i) from by
    obtain ⟨b, off, e, hb, h⟩ := hL.cells h0
    exact ⟨b, off, e, hb, fun i hi => (h i hi).below hb hx⟩)
  have HM := Lib.hid (fun (x : World) (s : SlV) (hx : Below w.heap.size w x) => rone_any x base c a T R ch s.i s.j s.n (own_below h hx) ht)
  have HB0 := Lib.hid hb0
  have HRX := Lib.hid (fun (x : World) (hx : Below (w.alloc (.cells #[.slice a R.length c, .int .i64 ch] 33)).heap.size (w.alloc (.cells #[.slice a R.length c, .int .i64 ch] 33)) x) => RBox.below hr0 hx)
  have HMP := Lib.hid (fun s => mapB_bits (T := T) (s := s))
  have HMA := Lib.hid (fun (s : SlV) => show mapB T ⟨s.i, s.j, s.n⟩ = mapB T s from rfl)
  clear hL h ht hb0 hr0
  generalize R.length = N at *
  have HMM := Lib.hid (fun (x : World) (s : SlV) (hx : Below w.heap.size w x) => show Calls Try.prog 71 #[.agg #[.slice a N c, .int .i64 ch], .agg #[.int .i64 s.i, .int .i64 s.j, .int .i64 s.n]] x fun e w' => e = .returned (.bool (mapB T s)) ∧ Below x.heap.size x w' from HM.out x s hx)
  clear HM HMA
  generalize mapB T = mp at *
  by_cases h8 : 8 < n
  · have h8I : (8 : Int) < (n : Int) := by omega
    have HE : Hid (chkE mp fs n = 100925506) := Lib.hid (if_pos h8)
    go_enter Try.func25, Try.ntmps25
    go_wp2_with fail
    go_ret
    exact ⟨by rw [HE.out]; rfl, HB0.out⟩
  · have h8I : ¬ (8 : Int) < (n : Int) := by omega
    have HE : Hid (chkE mp fs n = chkG mp fs n 0 0) := Lib.hid (if_neg h8)
    go_enter Try.func25, Try.ntmps25
    go_wp2_with fail
    generalize (w.alloc (.cells #[.slice a N c, .int .i64 ch] 33)) = w0 at *
    go_loopw [5, 6] (fun t5 t6 wr => ∃ (i : Nat) (b : Int), i ≤ n ∧ t5 = .int .i64 b ∧ t6 = .int .i64 i ∧ Hid (chkE mp fs n = chkG mp fs (n - i) i b) ∧ Hid (0 ≤ b ∧ b ≤ 64) ∧ Hid (Below w0.heap.size w0 wr)) (fun _ t _ => n - (intOf t).toNat)
    case atStart => exact ⟨0, 0, by omega, rfl, rfl, Lib.hid HE.out, Lib.hid (by omega), Lib.hid (Below.refl _ _)⟩
    case round =>
      clear HE
      obtain ⟨i, b, hi, rfl, rfl, HR, HB, HW⟩ := hrel
      by_cases hlt : i < n
      · have hiI : (i : Int) < (n : Int) := by omega
        have HWW := Lib.hid (kF HW.out HB0.out)
        obtain ⟨bk, off, rfl, hbk, -⟩ := HC.out wr HWW.out (by omega)
        have HCX := Lib.hid (fun (x : World) (hx : Below wr.heap.size wr x) => show (x.cell? ⟨bk, off + i * 3, none⟩ = some (.int .i64 (fs i).i) ∧ x.cell? ⟨bk, off + i * 3 + 1, none⟩ = some (.int .i64 (fs i).j) ∧ x.cell? ⟨bk, off + i * 3 + 2, none⟩ = some (.int .i64 (fs i).n)) ∧ x.cell? ⟨w.heap.size, 0, none⟩ = some (.slice a N c) ∧ x.cell? ⟨w.heap.size, 1, none⟩ = some (.int .i64 ch) from by
          obtain ⟨b', o', e', -, hh⟩ := HC.out x (kF hx HWW.out) (by omega)
          cases e'
          obtain ⟨c0, c1, c2⟩ := hh i hlt
          exact ⟨⟨c0, c1, c2⟩, (HRX.out x (kF hx HW.out)).cells⟩)
        have HRS : Hid (chkE mp fs n = if mp (fs i) = false then 100925505 else if 64 < b + (fs i).n then 100925506 else chkG mp fs (n - (i + 1)) (i + 1) (b + (fs i).n)) := Lib.hid (by rw [HR.out, show n - i = (n - (i + 1)) + 1 by omega]; rfl)
        have HMB := Lib.hid (HMP.out (fs i))
        have HMs := Lib.hid (fun x hx => HMM.out x (fs i) hx)
        generalize fs i = s at *
        generalize mp s = ms at *
        obtain ⟨si, sj, sn⟩ := s
        dsimp only at HMs HRS HMB HCX
        clear HR
        go_wp2_with fail
        refine wp_region_last (fun y => Below wr.heap.size wr y) 6 (by kernel_rfl) (kD _) (fun hHeld => ?_)
        have HBv0 := Lib.hid (kD wr)
        generalize wr.drew = v0 at *
        refine wpAnyL_take (i := 0) (v := ?_) rfl (by kernel_rfl) (by kernel_rfl) (by kernel_rfl) (by kernel_rfl) (by kernel_rfl) (fun _ _ _ h => h) (Or.inl ⟨by rfl, ?_⟩) (by assumption) ?_
        rotate_left
        · intro wq hSw; (try dsimp only at hSw); (try obtain ⟨⟨q0, q1, q2⟩, q3, q4⟩ := HCX.out wq hSw); first | (go_simp; done) | (go_simp; with_reducible rfl) | with_reducible rfl
        go_simp
        refine wpAnyL_take (i := 1) (v := ?_) rfl (by kernel_rfl) (by kernel_rfl) (by kernel_rfl) (by kernel_rfl) (by kernel_rfl) (fun _ _ _ h => h) (Or.inl ⟨by rfl, ?_⟩) (by assumption) ?_
        rotate_left
        · intro wq hSw; (try dsimp only at hSw); (try obtain ⟨⟨q0, q1, q2⟩, q3, q4⟩ := HCX.out wq hSw); first | (go_simp; done) | (go_simp; with_reducible rfl) | with_reducible rfl
        go_simp
        refine wpAnyL_take (i := 2) (v := ?_) rfl (by kernel_rfl) (by kernel_rfl) (by kernel_rfl) (by kernel_rfl) (by kernel_rfl) (fun _ _ _ h => h) (Or.inl ⟨by rfl, ?_⟩) (by assumption) ?_
        rotate_left
        · intro wq hSw; (try dsimp only at hSw); (try obtain ⟨⟨q0, q1, q2⟩, q3, q4⟩ := HCX.out wq hSw); first | (go_simp; done) | (go_simp; with_reducible rfl) | with_reducible rfl
        go_simp
        refine wpAnyL_take (i := 3) (v := ?_) rfl (by kernel_rfl) (by kernel_rfl) (by kernel_rfl) (by kernel_rfl) (by kernel_rfl) (fun _ _ _ h => h) (Or.inl ⟨by rfl, ?_⟩) (by assumption) ?_
        rotate_left
        · intro wq hSw; (try dsimp only at hSw); (try obtain ⟨⟨q0, q1, q2⟩, q3, q4⟩ := HCX.out wq hSw); first | (go_simp; done) | (go_simp; with_reducible rfl) | with_reducible rfl
        go_simp
        refine wpAnyL_take (i := 4) (v := ?_) rfl (by kernel_rfl) (by kernel_rfl) (by kernel_rfl) (by kernel_rfl) (by kernel_rfl) (fun _ _ _ h => h) (Or.inl ⟨by rfl, ?_⟩) (by assumption) ?_
        rotate_left
        · intro wq hSw; (try dsimp only at hSw); (try obtain ⟨⟨q0, q1, q2⟩, q3, q4⟩ := HCX.out wq hSw); first | (go_simp; done) | (go_simp; with_reducible rfl) | with_reducible rfl
        go_simp
        refine wpAnyL_ready (rs := [5]) (by kernel_rfl) (by simp) ?_
        refine (AllReadyL.cons rfl (fun K hK => ?_) AllReadyL.nil)
        go_simp
        go_wp2_with fail
        refine (HMs.out v0 (kF HBv0.out HWW.out)).mono ?_
        rintro e v1 ⟨rfl, hbz⟩
        have HBv1 := Lib.hid (kF hbz HBv0.out)
        clear hbz
        refine hK.out _ _ ?_ (fun hHeld => ?_)
        · (try dsimp only); exact HBv1.out
        clear hK K
        refine wpAnyL_ready (rs := [6]) (by kernel_rfl) (by simp) ?_
        refine AllReadyL.last rfl (fun K hK => ?_)
        go_simp
        refine hK.out _ _ ?_
        clear hK K
        refine wpAnyL_done (by kernel_rfl) ?_ _
        clear hHeld
        have HW1 := Lib.hid (kF HBv1.out HW.out)
        obtain ⟨⟨c0, c1, c2⟩, -⟩ := HCX.out v1 HBv1.out
        have HE1 := Lib.hid (kF HBv1.out HWW.out)
        cases ms with
        | false =>
          have HV : Hid (chkE mp fs n = 100925505) := Lib.hid (by rw [HRS.out, if_pos rfl])
          go_wp2_with fail
          go_ret
          exact ⟨by rw [HV.out]; rfl, HE1.out⟩
        | true =>
          have h32 := HMB.out rfl
          have hb0 := HB.out
          have iw : IntKind.i64.wrap (b + sn) = b + sn := IntWalk.i64_in _ (by omega)
          by_cases h64 : 64 < b + sn
          · have HV : Hid (chkE mp fs n = 100925506) := Lib.hid (by rw [HRS.out, if_neg (by simp), if_pos h64])
            clear h32 hb0
            go_wp2_with fail
            go_ret
            exact ⟨by rw [HV.out]; rfl, HE1.out⟩
          · have HV : Hid (chkE mp fs n = chkG mp fs (n - (i + 1)) (i + 1) (b + sn)) := Lib.hid (by rw [HRS.out, if_neg (by simp), if_neg h64])
            have HN : Hid (0 ≤ b + sn ∧ b + sn ≤ 64) := Lib.hid (by omega)
            clear h32 hb0
            go_wp2_with fail
            exact ⟨⟨i + 1, b + sn, by omega, rfl, by go_num, HV, HN, HW1⟩, by simp [intOf]; omega⟩
      · have HV : Hid (chkE mp fs n = 0) := Lib.hid (by rw [HR.out, show n - i = 0 by omega]; rfl)
        have HE1 := Lib.hid (kF HW.out HB0.out)
        go_wp2_with fail
        go_ret
        exact ⟨by rw [HV.out]; rfl, HE1.out⟩
set_option maxRecDepth 100000 in
set_option maxHeartbeats 8000000 in
theorem rsize25_any (w : World) (A : Option Addr) (n c : Nat) (fs : Nat → SlV) (hL : Els SlC 3 w w.heap.size A n c fs) :
    Calls Try.prog 27 #[.slice A n c] w fun e w' => e = .returned (.int .i64 (szE fs n)) ∧ Below w.heap.size w w' := by
  have hcap := hL.cap
  have hmax := hL.max
  simp only [maxLen] at hmax
  have HC := Lib.hid (fun (h0 : 0 < n) => show ∃ b off, A = some ⟨b, off, none⟩ ∧ b < w.heap.size ∧ ∀ i, i < n → SlC w b (off + i * 3) (fs i) from hL.cells h0)
  clear hL
  have HE : Hid (n ≤ 8 → szE fs n = szF fs n 0 0) := Lib.hid (fun h => if_neg (by omega))
  have HE8 : Hid (8 < n → szE fs n = 0) := Lib.hid (fun h => if_pos h)
  go_enter Try.func27, Try.ntmps27
  go_wp2_with fail
  go_loopw [3, 4] (fun t3 t4 wr => ∃ (i : Nat) (b : Int), i ≤ n ∧ t3 = .int .i64 b ∧ t4 = .int .i64 i ∧ Hid (n ≤ 8 → szE fs n = szF fs (n - i) i b) ∧ Hid (0 < i → n ≤ 8) ∧ Hid (0 ≤ b ∧ b ≤ 4 * i) ∧ wr = w) (fun _ t _ => n - (intOf t).toNat)
  case atStart => exact ⟨0, 0, by omega, rfl, rfl, HE, Lib.hid (by omega), Lib.hid (by omega), rfl⟩
  case round =>
    clear HE
    obtain ⟨i, b, hi, rfl, rfl, HR, HP, HB, rfl⟩ := hrel
    by_cases hlt : i < n
    · have hiI : (i : Int) < (n : Int) := by omega
      obtain ⟨bk, off, rfl, hbk, hcs⟩ := HC.out (by omega)
      have hc := hcs i hlt
      have hb0 := HB.out
      by_cases h8 : 8 < n
      · have h8I : (8 : Int) < (n : Int) := by omega
        have HV : Hid (szE fs n = 0) := Lib.hid (HE8.out h8)
        clear hcs hc hb0
        go_wp2_with fail
        go_ret
        exact ⟨by rw [HV.out]; rfl, Below.refl _ _⟩
      · have h8I : ¬ (8 : Int) < (n : Int) := by omega
        have HRS : Hid (szE fs n = if (fs i).n = 8 ∨ (fs i).n = 16 ∨ (fs i).n = 32 then szF fs (n - (i + 1)) (i + 1) (b + (fs i).n / 8) else 0) := Lib.hid (by rw [HR.out (by omega), show n - i = (n - (i + 1)) + 1 by omega]; rfl)
        have HP2 : Hid (0 < i + 1 → n ≤ 8) := Lib.hid (fun _ => by omega)
        obtain ⟨c0, c1, c2⟩ := hc
        generalize fs i = s at *
        obtain ⟨si, sj, sn⟩ := s
        dsimp only at c0 c1 c2 HRS
        clear hcs HR
        have e8 : sn = 8 ∨ sn = 16 ∨ sn = 32 ∨ (¬ sn = 8 ∧ ¬ sn = 16 ∧ ¬ sn = 32) := by omega
        rcases e8 with rfl | rfl | rfl | ⟨n1, n2, n3⟩
        · have HV : Hid (n ≤ 8 → szE fs n = szF fs (n - (i + 1)) (i + 1) (b + 1)) := Lib.hid (fun _ => by rw [HRS.out, if_pos (by simp)]; rfl)
          have HN : Hid (0 ≤ b + 1 ∧ b + 1 ≤ 4 * ((i + 1 : Nat) : Int)) := Lib.hid (by omega)
          have iw : IntKind.i64.wrap (b + 1) = b + 1 := IntWalk.i64_in _ (by omega)
          have i1 : IntKind.i64.wrap (1 : Int) = 1 := IntWalk.i64_in _ (by omega)
          clear hb0
          go_wp2_with fail
          exact ⟨⟨i + 1, b + 1, by omega, rfl, by go_num, HV, HP2, HN, trivial⟩, by simp [intOf]; omega⟩
        · have HV : Hid (n ≤ 8 → szE fs n = szF fs (n - (i + 1)) (i + 1) (b + 2)) := Lib.hid (fun _ => by rw [HRS.out, if_pos (by simp)]; rfl)
          have HN : Hid (0 ≤ b + 2 ∧ b + 2 ≤ 4 * ((i + 1 : Nat) : Int)) := Lib.hid (by omega)
          have iw : IntKind.i64.wrap (b + 2) = b + 2 := IntWalk.i64_in _ (by omega)
          have i1 : IntKind.i64.wrap (2 : Int) = 2 := IntWalk.i64_in _ (by omega)
          clear hb0
          go_wp2_with fail
          exact ⟨⟨i + 1, b + 2, by omega, rfl, by go_num, HV, HP2, HN, trivial⟩, by simp [intOf]; omega⟩
        · have HV : Hid (n ≤ 8 → szE fs n = szF fs (n - (i + 1)) (i + 1) (b + 4)) := Lib.hid (fun _ => by rw [HRS.out, if_pos (by simp)]; rfl)
          have HN : Hid (0 ≤ b + 4 ∧ b + 4 ≤ 4 * ((i + 1 : Nat) : Int)) := Lib.hid (by omega)
          have iw : IntKind.i64.wrap (b + 4) = b + 4 := IntWalk.i64_in _ (by omega)
          have i1 : IntKind.i64.wrap (4 : Int) = 4 := IntWalk.i64_in _ (by omega)
          clear hb0
          go_wp2_with fail
          exact ⟨⟨i + 1, b + 4, by omega, rfl, by go_num, HV, HP2, HN, trivial⟩, by simp [intOf]; omega⟩
        · have HV : Hid (szE fs n = 0) := Lib.hid (by rw [HRS.out, if_neg (by omega)])
          have m1 : (sn != 8) = true := by simp [n1]
          have m2 : (sn != 16) = true := by simp [n2]
          have m3 : (sn != 32) = true := by simp [n3]
          clear hb0
          go_wp2_with fail
          go_ret
          exact ⟨by rw [HV.out]; rfl, Below.refl _ _⟩
    · have HV : Hid (szE fs n = b) := Lib.hid (by
        by_cases h8 : n ≤ 8
        · rw [HR.out h8, show n - i = 0 by omega]; rfl
        · have := HP.out; omega)
      go_wp2_with fail
      go_ret
      exact ⟨by rw [HV.out]; rfl, Below.refl _ _⟩
end Go.Proofs.Ytgaoplbocjadaaa
