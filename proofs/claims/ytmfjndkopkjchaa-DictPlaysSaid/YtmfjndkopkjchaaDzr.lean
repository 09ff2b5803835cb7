/- The document's Sorted: the entries in order. -/
import Derived.Test.YtmfjndkopkjchaaDz
import Derived.Test.YtmfjndkopkjchaaDzd
import Derived.Deep.CutBlock
namespace Go.Proofs.Ytmfjndkopkjchaa
open Go.RowKit
set_option linter.unusedSimpArgs false
set_option linter.unusedVariables false

theorem less_any (i j p q : Int) (w : World) : Calls Try.prog 41 #[.agg #[.int .i64 i, .int .i64 j], .agg #[.int .i64 p, .int .i64 q]] w fun e w' => e = .returned (.bool (decide (i < p ∨ (i = p ∧ j < q)))) ∧ Below w.heap.size w w' := by
  have hb0 : Below w.heap.size w ((w.alloc (.cells #[.int .i64 i, .int .i64 j] 31)).alloc (.cells #[.int .i64 p, .int .i64 q] 31)) := ((Below.refl _ _).alloc (Nat.le_refl _) _).alloc (by simp) _
  have h1 : Key2 ((w.alloc (.cells #[.int .i64 i, .int .i64 j] 31)).alloc (.cells #[.int .i64 p, .int .i64 q] 31)) w.heap.size i j := heap_alloc2_old w _ _
  have h2 : Key2 ((w.alloc (.cells #[.int .i64 i, .int .i64 j] 31)).alloc (.cells #[.int .i64 p, .int .i64 q] 31)) (w.heap.size + 1) p q := heap_alloc2_new w _ _
  have H1 := Lib.hid h1
  have H2 := Lib.hid h2
  have HB := Lib.hid hb0
  clear h1 h2 hb0
  have hcs : i < p ∨ (i = p ∧ j < q) ∨ (i = p ∧ ¬ j < q) ∨ (¬ i < p ∧ ¬ i = p) := by omega
  obtain ⟨b, hb⟩ : ∃ b, b = decide (i < p ∨ (i = p ∧ j < q)) := ⟨_, rfl⟩
  rw [← hb]
  have HBB := Lib.hid hb
  clear hb
  obtain ⟨c0, c1⟩ := H1.out.cells
  obtain ⟨k0, k1⟩ := H2.out.cells
  go_enter Try.func41, Try.ntmps41
  rcases hcs with h | ⟨h, h2⟩ | ⟨h, h2⟩ | ⟨h, h2⟩
  · go_wp2_with fail
    go_ret
    exact ⟨by rw [HBB.out]; simp [h], HB.out⟩
  · subst h
    go_wp2_with fail
    go_ret
    exact ⟨by rw [HBB.out]; simp [h2], HB.out⟩
  · subst h
    go_wp2_with fail
    go_ret
    exact ⟨by rw [HBB.out]; simp; omega, HB.out⟩
  · go_wp2_with fail
    go_ret
    exact ⟨by rw [HBB.out]; simp; omega, HB.out⟩
theorem less_key {x y : Int} : (x / 256 < y / 256 ∨ (x / 256 = y / 256 ∧ x % 256 < y % 256)) ↔ x < y := by omega
theorem rise_ext {A B : List (Int × Ent)} (ha : Rise A) (hb : Rise B) (h : ∀ x, x ∈ A ↔ x ∈ B) (hl : A.length = B.length) : A = B := by
  induction A generalizing B with
  | nil => exact (List.eq_nil_of_length_eq_zero (by simpa using hl.symm)).symm
  | cons x A ih =>
    match B, hl with
    | y :: B, hl =>
      have hx : x ∈ y :: B := (h x).1 (by simp)
      have hy : y ∈ x :: A := (h y).2 (by simp)
      have hA : ∀ z ∈ A, x.1 < z.1 := fun z hz => by
        obtain ⟨i, hi⟩ := List.mem_iff_getElem?.1 hz
        exact ha 0 (i + 1) x z (by omega) rfl (by simpa using hi)
      have hB : ∀ z ∈ B, y.1 < z.1 := fun z hz => by
        obtain ⟨i, hi⟩ := List.mem_iff_getElem?.1 hz
        exact hb 0 (i + 1) y z (by omega) rfl (by simpa using hi)
      have e : x = y := by
        rcases List.mem_cons.1 hx with e | hx'
        · exact e
        · rcases List.mem_cons.1 hy with e | hy'
          · exact e.symm
          · have h1 := hB x hx'; have h2 := hA y hy'; omega
      subst e
      congr 1
      refine ih (fun i j a b hij hia hjb => ha (i + 1) (j + 1) a b (by omega) (by simpa using hia) (by simpa using hjb)) (fun i j a b hij hia hjb => hb (i + 1) (j + 1) a b (by omega) (by simpa using hia) (by simpa using hjb)) (fun z => ?_) (by simpa using hl)
      constructor
      · intro hz
        rcases List.mem_cons.1 ((h z).1 (by simp [hz])) with e | hz'
        · subst e; have := hA z hz; omega
        · exact hz'
      · intro hz
        rcases List.mem_cons.1 ((h z).2 (by simp [hz])) with e | hz'
        · subst e; have := hB z hz; omega
        · exact hz'
theorem TieD.uniq {A B R : List (Int × Ent)} (h : TieD A R) (k : TieD B R) : A = B := rise_ext h.good.rise k.good.rise (fun x => (h.mem x).trans (k.mem x).symm) (h.len.trans k.len.symm)
theorem ins_end {w : World} {base m P c : Nat} {a : Option Addr} {O : List (Int × Ent)} {x : Int × Ent} (hP : plcI x.1 O = P) (hh : hasI x.1 O = false) (hm : m = O.length + 1) (ho : w.ownsRow base 57 7 (.slice a m c) m (fr (O.take P) ++ rowR x ++ fr (O.drop P))) :
    w.ownsRow base 57 7 (.slice a (putI x.1 x.2 O).length c) (putI x.1 x.2 O).length (fr (putI x.1 x.2 O)) := by
  have e1 := putI_len_new (v := x.2) hh
  have e2 : fr (putI x.1 x.2 O) = fr (O.take P) ++ rowR x ++ fr (O.drop P) := by
    unfold putI
    rw [hh, hP]
    simp [fr_append, fr]
  rw [e1, e2, ← hm]
  exact ho
theorem plcI_ge (q : Int) : ∀ (ls : List (Int × Ent)) (x : Int × Ent), ls[plcI q ls]? = some x → ¬ x.1 < q
  | [], x, h => by simp at h
  | y :: ls, x, h => by
    unfold plcI at h
    by_cases hy : y.1 < q
    · rw [if_pos hy, List.getElem?_cons_succ] at h
      exact plcI_ge q ls x h
    · rw [if_neg hy, List.getElem?_cons_zero] at h
      cases h
      exact hy
theorem row_cells2 {X : World} {g t : Nat} {cs : List Value} (hg : X.heap[g]? = some (.cells cs.toArray t (0, 0))) : ∀ jj u, cs[jj]? = some u → X.cell? ((⟨g, 0, none⟩ : Addr).add jj) = some u := fun jj u h => by
  rw [add_plainR, Nat.zero_add, cell_of_row _ _ _ _ _ _ hg]
  simpa using h
/-- The entries in order. -/
def SortP (w : World) (T : List (Int × Ent)) (e : Ending) (w' : World) : Prop := ∃ a c, e = .returned (.slice a T.length c) ∧ w'.ownsRow w.heap.size 57 7 (.slice a T.length c) T.length (fr T) ∧ Below w.heap.size w w'
set_option maxRecDepth 100000 in
set_option maxHeartbeats 20000000 in
theorem sorted_any (w : World) (base c : Nat) (a : Option Addr) (R T : List (Int × Ent)) (ch : Int) (h : w.ownsRow base 57 7 (.slice a R.length c) R.length (fr R)) (ht : TieD T R) :
    Calls Try.prog 17 #[.agg #[.slice a R.length c, .int .i64 ch]] w (SortP w T) := by
  have hn : R.length ≤ 600 := by have := ht.len; have := ht.good.few; omega
  have hb0 : Below w.heap.size w (w.alloc (.cells #[.slice a R.length c, .int .i64 ch] 27)) := (Below.refl _ _).alloc (Nat.le_refl _) _
  have hr0 : RBox (w.alloc (.cells #[.slice a R.length c, .int .i64 ch] 27)) w.heap.size a R.length c ch := heap_alloc_new w _
  have HC := Lib.hid (fun x (hx : Below w.heap.size w x) p y (hy : R[p]? = some y) => rowsR_at (own_keep h hx) hy)
  have HX := Lib.hid (fun p (hp : p < R.length) => show ∃ x, R[p]? = some x from ⟨_, List.getElem?_eq_getElem hp⟩)
  have HOK := Lib.hid ht.ok
  have HNX := Lib.hid (fun p x (hx : R[p]? = some x) O (ho : TieD O (R.take p)) => show hasI x.1 O = false ∧ TieD (putI x.1 x.2 O) (R.take (p + 1)) from by
    have hp := (List.getElem?_eq_some_iff.1 hx).1
    have hno : hasI x.1 O = false := ho.hasnt fun y hy e => by
      obtain ⟨i, hi⟩ := List.mem_iff_getElem?.1 hy
      have hil : i < p := by have := (List.getElem?_eq_some_iff.1 hi).1; rw [List.length_take] at this; omega
      rw [List.getElem?_take_of_lt hil] at hi
      have := ht.dis i p y x hi hx e
      omega
    refine ⟨hno, ?_⟩
    have h2 := ho.add hno (ht.ok x (List.mem_of_getElem? hx)) (by have := ho.len; rw [List.length_take] at this; omega)
    rw [List.take_add_one, hx]
    exact h2)
  have HFIN := Lib.hid (fun (w' : World) (O : List (Int × Ent)) (g' c' : Nat) (ho : TieD O (R.take R.length)) (hr : w'.ownsRow w.heap.size 57 7 (.slice (some ⟨g', 0, none⟩) O.length c') O.length (fr O)) (hb : Below w.heap.size w w') => show SortP w T (.returned (.slice (some ⟨g', 0, none⟩) O.length c')) w' from by
    rw [List.take_length] at ho
    obtain rfl := ho.uniq ht
    exact ⟨some ⟨g', 0, none⟩, c', rfl, hr, hb⟩)
  have HB0 := Lib.hid hb0
  have HR0 := Lib.hid hr0
  have hT0 : Hid (TieD [] (R.take 0)) := Lib.hid (by rw [List.take_zero]; exact tieD_nil)
  obtain ⟨i0, hi0, hz0', hz1', hz2'⟩ := info_parts info_elR
  have HI := Lib.hid hi0
  generalize R.length = N at *
  clear h ht hb0 hr0 hi0
  go_enter Try.func17, Try.ntmps17
  go_upto_region 1 with fail
  generalize w.alloc (.cells #[.slice a N c, .int .i64 ch] 27) = w0 at *
  go_wp2_with fail
  have HOE := Lib.hid (own_made w0 w.heap.size 57 7 HB0.out.size)
  have HBA : Hid (Below w0.heap.size w0 (w0.alloc (.cells #[] 57))) := Lib.hid ((Below.refl _ _).alloc (Nat.le_refl _) _)
  go_loopg [3, 4, 5, 6] N (fun k s3 s4 s5 s6 wr => ∃ (j g cO : Nat) (O : List (Int × Ent)), j + k = N ∧ s3 = .slice (some ⟨g, 0, none⟩) O.length cO ∧ s4 = .int .i64 j ∧ Hid (TieD O (R.take j)) ∧ Hid (wr.ownsRow w.heap.size 57 7 (.slice (some ⟨g, 0, none⟩) O.length cO) O.length (fr O)) ∧ Hid (Below w0.heap.size w0 wr))
  case atStart => exact ⟨0, w0.heap.size, 0, [], by omega, rfl, rfl, hT0, HOE, HBA⟩
  case round =>
    clear HOE HBA hT0
    obtain ⟨j, g, cO, O, hj, rfl, rfl, HTI, HO, HB⟩ := hrel
    obtain ⟨d0, d1⟩ := (HR0.out.below HB.out).cells
    by_cases hlt : j < N
    · obtain ⟨x, hx⟩ := HX.out j hlt
      obtain ⟨gr, rfl, hg, hnc, hm, -⟩ := HC.out wr (kF HB.out HB0.out) j x hx
      simp only [maxLen] at hm
      have hpI : (j : Int) < (N : Int) := by omega
      obtain ⟨hno, htn⟩ := HNX.out j x hx O HTI.out
      have HNO := Lib.hid hno
      have HTN := Lib.hid htn
      have HCX := Lib.hid (fun y (hy : Below w0.heap.size w0 y) => show y.cell? ⟨gr, j * 7, none⟩ = some (.int .i64 (x.1 / 256)) ∧ y.cell? ⟨gr, j * 7 + 1, none⟩ = some (.int .i64 (x.1 % 256)) ∧ y.cell? ⟨gr, j * 7 + 2, none⟩ = some (.int .i64 x.2.k) ∧ y.cell? ⟨gr, j * 7 + 3, none⟩ = some (.int .i64 x.2.a) ∧ y.cell? ⟨gr, j * 7 + 4, none⟩ = some (.int .i64 x.2.lo) ∧ y.cell? ⟨gr, j * 7 + 5, none⟩ = some (.int .i64 x.2.hi) ∧ y.cell? ⟨gr, j * 7 + 6, none⟩ = some (.string (strOfNums x.2.b)) from by obtain ⟨g1, e1, _, _, _, hk⟩ := HC.out y (kF hy HB0.out) j x hx; cases e1; exact hk)
      have hol : O.length ≤ 600 := by have := HTI.out.len; have := HTI.out.good.few; omega
      clear hno htn hg HTI
      obtain ⟨wo, hwo⟩ : ∃ wo, wo = wr := ⟨_, rfl⟩
      subst hwo
      obtain ⟨P, hP⟩ : ∃ P, plcI x.1 O = P := ⟨_, rfl⟩
      have hPle : P ≤ O.length := hP ▸ plcI_le x.1 O
      have HLT := Lib.hid (fun q y (hq : q < P) (hy : O[q]? = some y) => show y.1 < x.1 from plcI_lt x.1 O q y (by omega) hy)
      have HGE := Lib.hid (fun y (hy : O[P]? = some y) => show ¬ y.1 < x.1 from plcI_ge x.1 O y (by rw [hP]; exact hy))
      have HOX := Lib.hid (fun q (hq : q < O.length) => show ∃ y, O[q]? = some y from ⟨_, List.getElem?_eq_getElem hq⟩)
      have HOC := Lib.hid (fun z (hz : Below wo.heap.size wo z) q y (hy : O[q]? = some y) => show z.cell? ⟨g, q * 7, none⟩ = some (.int .i64 (y.1 / 256)) ∧ z.cell? ⟨g, q * 7 + 1, none⟩ = some (.int .i64 (y.1 % 256)) from ⟨(cellsR (own_below HO.out hz) hy).1, (cellsR (own_below HO.out hz) hy).2.1⟩)
      have HPP := Lib.hid hP
      have hOb : O.length ≤ cO ∧ cO ≤ maxLen ∧ g < wo.heap.size := by
        rcases HO.out.2 with ⟨e, _⟩ | ⟨b, cap, cur, e, _, hb, hl, hm', _⟩
        · cases e
        · cases e; exact ⟨hl, hm', (Array.getElem?_eq_some_iff.1 hb).1⟩
      obtain ⟨hO1, hO2, hO3⟩ := hOb
      simp only [maxLen] at hO2
      obtain ⟨M, hM⟩ : ∃ M, O.length = M := ⟨_, rfl⟩
      rw [hM] at hPle HOX hO1 hol HO
      have HM := Lib.hid hM
      clear hP
      rw [hM]
      clear hM
      have HDX := Lib.hid (fun z (hz : Below w0.heap.size w0 z) => (HR0.out.below hz).cells.1)
      clear d0 d1
      have d0 := HDX.out wo HB.out
      go_upto_block 2 with fail
      go_cut [5] from 15 to 34 (fun s5 wx => s5 = .int .i64 P ∧ Hid (Below wo.heap.size wo wx))
      case first =>
        have HRF := Lib.hid (Below.refl wo.heap.size wo)
        go_wp2_with fail
        go_loopw [5] (fun s5 wi => ∃ q : Nat, q ≤ P ∧ s5 = .int .i64 q ∧ Hid (Below wo.heap.size wo wi)) (fun s5 _ => P - (intOf s5).toNat)
        case atStart => exact ⟨0, Nat.zero_le _, rfl, HRF⟩
        case round =>
          clear d0
          obtain ⟨q, hq, rfl, HBI⟩ := hrel
          have HDI := Lib.hid (fun z (hz : Below wo.heap.size wo z) => HDX.out z (kF hz HB.out))
          have HXI := Lib.hid (fun z (hz : Below wo.heap.size wo z) => HCX.out z (kF hz HB.out))
          by_cases hqP : q < P
          · obtain ⟨y, hy⟩ := HOX.out q (by omega)
            have e0 : decide (y.1 / 256 < x.1 / 256 ∨ (y.1 / 256 = x.1 / 256 ∧ y.1 % 256 < x.1 % 256)) = true := decide_eq_true (less_key.2 (HLT.out q y hqP hy))
            have hqI : (q : Int) < (M : Int) := by omega
            have hls := fun z => less_any (y.1 / 256) (y.1 % 256) (x.1 / 256) (x.1 % 256) z
            rw [e0] at hls
            have HLS := Lib.hid hls
            have HS := Lib.hid (fun z (hz : Below wo.heap.size wo z) => show z.cell? ⟨w.heap.size, 0, none⟩ = some (.slice (some ⟨gr, 0, none⟩) N c) ∧ z.cell? ⟨g, q * 7, none⟩ = some (.int .i64 (y.1 / 256)) ∧ z.cell? ⟨g, q * 7 + 1, none⟩ = some (.int .i64 (y.1 % 256)) ∧ z.cell? ⟨gr, j * 7, none⟩ = some (.int .i64 (x.1 / 256)) ∧ z.cell? ⟨gr, j * 7 + 1, none⟩ = some (.int .i64 (x.1 % 256)) from ⟨HDI.out z hz, (HOC.out z hz q y hy).1, (HOC.out z hz q y hy).2, (HXI.out z hz).1, (HXI.out z hz).2.1⟩)
            clear hls e0 hy
            generalize y.1 / 256 = yi at *
            generalize y.1 % 256 = yj at *
            generalize x.1 / 256 = xi at *
            generalize x.1 % 256 = xj at *
            go_wp2_with fail
            have HK9 := Lib.hid (kF (kD wr) HBI.out)
            refine wp_region_last (fun w' => w'.cell? ⟨w.heap.size, 0, none⟩ = some (.slice (some ⟨gr, 0, none⟩) N c) ∧ w'.cell? ⟨g, q * 7, none⟩ = some (.int .i64 (yi)) ∧ w'.cell? ⟨g, q * 7 + 1, none⟩ = some (.int .i64 (yj)) ∧ w'.cell? ⟨gr, j * 7, none⟩ = some (.int .i64 (xi)) ∧ w'.cell? ⟨gr, j * 7 + 1, none⟩ = some (.int .i64 (xj))) 17 (by kernel_rfl) (HS.out _ HK9.out) (fun hHeld => ?_)
            generalize wr.drew = x0 at *
            refine wpAnyL_take (i := 0) (v := ?_) rfl (by kernel_rfl) (by kernel_rfl) (by kernel_rfl) (by kernel_rfl) (by kernel_rfl) (fun _ _ _ h => h) (Or.inl ⟨by rfl, ?_⟩) (by assumption) ?_
            rotate_left
            · intro wq hSw; (try dsimp only at hSw); first | (go_simp; done) | (go_simp; with_reducible rfl) | with_reducible rfl
            go_simp
            refine wpAnyL_take (i := 1) (v := ?_) rfl (by kernel_rfl) (by kernel_rfl) (by kernel_rfl) (by kernel_rfl) (by kernel_rfl) (fun _ _ _ h => h) (Or.inl ⟨by rfl, ?_⟩) (by assumption) ?_
            rotate_left
            · intro wq hSw; (try dsimp only at hSw); first | (go_simp; done) | (go_simp; with_reducible rfl) | with_reducible rfl
            go_simp
            refine wpAnyL_take (i := 2) (v := ?_) rfl (by kernel_rfl) (by kernel_rfl) (by kernel_rfl) (by kernel_rfl) (by kernel_rfl) (fun _ _ _ h => h) (Or.inl ⟨by rfl, ?_⟩) (by assumption) ?_
            rotate_left
            · intro wq hSw; (try dsimp only at hSw); first | (go_simp; done) | (go_simp; with_reducible rfl) | with_reducible rfl
            go_simp
            refine wpAnyL_take (i := 3) (v := ?_) rfl (by kernel_rfl) (by kernel_rfl) (by kernel_rfl) (by kernel_rfl) (by kernel_rfl) (fun _ _ _ h => h) (Or.inl ⟨by rfl, ?_⟩) (by assumption) ?_
            rotate_left
            · intro wq hSw; (try dsimp only at hSw); first | (go_simp; done) | (go_simp; with_reducible rfl) | with_reducible rfl
            go_simp
            refine wpAnyL_take (i := 4) (v := ?_) rfl (by kernel_rfl) (by kernel_rfl) (by kernel_rfl) (by kernel_rfl) (by kernel_rfl) (fun _ _ _ h => h) (Or.inl ⟨by rfl, ?_⟩) (by assumption) ?_
            rotate_left
            · intro wq hSw; (try dsimp only at hSw); first | (go_simp; done) | (go_simp; with_reducible rfl) | with_reducible rfl
            go_simp
            refine wpAnyL_take (i := 5) (v := ?_) rfl (by kernel_rfl) (by kernel_rfl) (by kernel_rfl) (by kernel_rfl) (by kernel_rfl) (fun _ _ _ h => h) (Or.inl ⟨by rfl, ?_⟩) (by assumption) ?_
            rotate_left
            · intro wq hSw; (try dsimp only at hSw); first | (go_simp; done) | (go_simp; with_reducible rfl) | with_reducible rfl
            go_simp
            refine wpAnyL_take (i := 6) (v := ?_) rfl (by kernel_rfl) (by kernel_rfl) (by kernel_rfl) (by kernel_rfl) (by kernel_rfl) (fun _ _ _ h => h) (Or.inl ⟨by rfl, ?_⟩) (by assumption) ?_
            rotate_left
            · intro wq hSw; (try dsimp only at hSw); first | (go_simp; done) | (go_simp; with_reducible rfl) | with_reducible rfl
            go_simp
            refine wpAnyL_take (i := 7) (v := ?_) rfl (by kernel_rfl) (by kernel_rfl) (by kernel_rfl) (by kernel_rfl) (by kernel_rfl) (fun _ _ _ h => h) (Or.inl ⟨by rfl, ?_⟩) (by assumption) ?_
            rotate_left
            · intro wq hSw; (try dsimp only at hSw); first | (go_simp; done) | (go_simp; with_reducible rfl) | with_reducible rfl
            go_simp
            refine wpAnyL_take (i := 8) (v := ?_) rfl (by kernel_rfl) (by kernel_rfl) (by kernel_rfl) (by kernel_rfl) (by kernel_rfl) (fun _ _ _ h => h) (Or.inl ⟨by rfl, ?_⟩) (by assumption) ?_
            rotate_left
            · intro wq hSw; (try dsimp only at hSw); first | (go_simp; done) | (go_simp; with_reducible rfl) | with_reducible rfl
            go_simp
            refine wpAnyL_take (i := 9) (v := ?_) rfl (by kernel_rfl) (by kernel_rfl) (by kernel_rfl) (by kernel_rfl) (by kernel_rfl) (fun _ _ _ h => h) (Or.inl ⟨by rfl, ?_⟩) (by assumption) ?_
            rotate_left
            · intro wq hSw; (try dsimp only at hSw); first | (go_simp; done) | (go_simp; with_reducible rfl) | with_reducible rfl
            go_simp
            refine wpAnyL_take (i := 10) (v := ?_) rfl (by kernel_rfl) (by kernel_rfl) (by kernel_rfl) (by kernel_rfl) (by kernel_rfl) (fun _ _ _ h => h) (Or.inl ⟨by rfl, ?_⟩) (by assumption) ?_
            rotate_left
            · intro wq hSw; (try dsimp only at hSw); first | (go_simp; done) | (go_simp; with_reducible rfl) | with_reducible rfl
            go_simp
            refine wpAnyL_take (i := 11) (v := ?_) rfl (by kernel_rfl) (by kernel_rfl) (by kernel_rfl) (by kernel_rfl) (by kernel_rfl) (fun _ _ _ h => h) (Or.inl ⟨by rfl, ?_⟩) (by assumption) ?_
            rotate_left
            · intro wq hSw; (try dsimp only at hSw); first | (go_simp; done) | (go_simp; with_reducible rfl) | with_reducible rfl
            go_simp
            refine wpAnyL_take (i := 12) (v := ?_) rfl (by kernel_rfl) (by kernel_rfl) (by kernel_rfl) (by kernel_rfl) (by kernel_rfl) (fun _ _ _ h => h) (Or.inl ⟨by rfl, ?_⟩) (by assumption) ?_
            rotate_left
            · intro wq hSw; (try dsimp only at hSw); first | (go_simp; done) | (go_simp; with_reducible rfl) | with_reducible rfl
            go_simp
            refine wpAnyL_take (i := 13) (v := ?_) rfl (by kernel_rfl) (by kernel_rfl) (by kernel_rfl) (by kernel_rfl) (by kernel_rfl) (fun _ _ _ h => h) (Or.inl ⟨by rfl, ?_⟩) (by assumption) ?_
            rotate_left
            · intro wq hSw; (try dsimp only at hSw); first | (go_simp; done) | (go_simp; with_reducible rfl) | with_reducible rfl
            go_simp
            refine wpAnyL_take (i := 14) (v := ?_) rfl (by kernel_rfl) (by kernel_rfl) (by kernel_rfl) (by kernel_rfl) (by kernel_rfl) (fun _ _ _ h => h) (Or.inl ⟨by rfl, ?_⟩) (by assumption) ?_
            rotate_left
            · intro wq hSw; (try dsimp only at hSw); first | (go_simp; done) | (go_simp; with_reducible rfl) | with_reducible rfl
            go_simp
            refine wpAnyL_take (i := 15) (v := ?_) rfl (by kernel_rfl) (by kernel_rfl) (by kernel_rfl) (by kernel_rfl) (by kernel_rfl) (fun _ _ _ h => h) (Or.inl ⟨by rfl, ?_⟩) (by assumption) ?_
            rotate_left
            · intro wq hSw; (try dsimp only at hSw); first | (go_simp; done) | (go_simp; with_reducible rfl) | with_reducible rfl
            go_simp
            refine wpAnyL_ready (rs := [16]) (by kernel_rfl) (by simp) ?_
            refine (AllReadyL.cons rfl (fun K' hK' => ?_) AllReadyL.nil)
            go_simp
            go_wp2_with (go_at_call 41; refine (HLS.out _).mono ?_; rintro e w3 ⟨rfl, hb3⟩)
            have HBE := Lib.hid (kF hb3 HK9.out)
            clear hb3
            refine hK'.out _ _ ?_ (fun hHeld => ?_)
            · (try dsimp only); exact HS.out _ HBE.out
            clear hK' K'
            refine wpAnyL_ready (rs := [17]) (by kernel_rfl) (by simp) ?_
            refine AllReadyL.last rfl (fun K' hK' => ?_)
            go_simp
            refine hK'.out _ _ ?_
            clear hK' K'
            refine wpAnyL_done (by kernel_rfl) ?_ _
            clear hHeld
            go_wp2_with fail
            exact ⟨⟨q + 1, by omega, by go_num, Lib.hid HBE.out⟩, by simp [intOf]; omega⟩
          · obtain rfl : q = P := by omega
            by_cases hqM : q < M
            · obtain ⟨y, hy⟩ := HOX.out q hqM
              have e0 : decide (y.1 / 256 < x.1 / 256 ∨ (y.1 / 256 = x.1 / 256 ∧ y.1 % 256 < x.1 % 256)) = false := decide_eq_false (fun h => by have h1 := HGE.out y hy; have h2 := less_key.1 h; omega)
              have hqI : (q : Int) < (M : Int) := by omega
              have hls := fun z => less_any (y.1 / 256) (y.1 % 256) (x.1 / 256) (x.1 % 256) z
              rw [e0] at hls
              have HLS := Lib.hid hls
              have HS := Lib.hid (fun z (hz : Below wo.heap.size wo z) => show z.cell? ⟨w.heap.size, 0, none⟩ = some (.slice (some ⟨gr, 0, none⟩) N c) ∧ z.cell? ⟨g, q * 7, none⟩ = some (.int .i64 (y.1 / 256)) ∧ z.cell? ⟨g, q * 7 + 1, none⟩ = some (.int .i64 (y.1 % 256)) ∧ z.cell? ⟨gr, j * 7, none⟩ = some (.int .i64 (x.1 / 256)) ∧ z.cell? ⟨gr, j * 7 + 1, none⟩ = some (.int .i64 (x.1 % 256)) from ⟨HDI.out z hz, (HOC.out z hz q y hy).1, (HOC.out z hz q y hy).2, (HXI.out z hz).1, (HXI.out z hz).2.1⟩)
              clear hls e0 hy
              generalize y.1 / 256 = yi at *
              generalize y.1 % 256 = yj at *
              generalize x.1 / 256 = xi at *
              generalize x.1 % 256 = xj at *
              go_wp2_with fail
              have HK9 := Lib.hid (kF (kD wr) HBI.out)
              refine wp_region_last (fun w' => w'.cell? ⟨w.heap.size, 0, none⟩ = some (.slice (some ⟨gr, 0, none⟩) N c) ∧ w'.cell? ⟨g, q * 7, none⟩ = some (.int .i64 (yi)) ∧ w'.cell? ⟨g, q * 7 + 1, none⟩ = some (.int .i64 (yj)) ∧ w'.cell? ⟨gr, j * 7, none⟩ = some (.int .i64 (xi)) ∧ w'.cell? ⟨gr, j * 7 + 1, none⟩ = some (.int .i64 (xj))) 17 (by kernel_rfl) (HS.out _ HK9.out) (fun hHeld => ?_)
              generalize wr.drew = x0 at *
              refine wpAnyL_take (i := 0) (v := ?_) rfl (by kernel_rfl) (by kernel_rfl) (by kernel_rfl) (by kernel_rfl) (by kernel_rfl) (fun _ _ _ h => h) (Or.inl ⟨by rfl, ?_⟩) (by assumption) ?_
              rotate_left
              · intro wq hSw; (try dsimp only at hSw); first | (go_simp; done) | (go_simp; with_reducible rfl) | with_reducible rfl
              go_simp
              refine wpAnyL_take (i := 1) (v := ?_) rfl (by kernel_rfl) (by kernel_rfl) (by kernel_rfl) (by kernel_rfl) (by kernel_rfl) (fun _ _ _ h => h) (Or.inl ⟨by rfl, ?_⟩) (by assumption) ?_
              rotate_left
              · intro wq hSw; (try dsimp only at hSw); first | (go_simp; done) | (go_simp; with_reducible rfl) | with_reducible rfl
              go_simp
              refine wpAnyL_take (i := 2) (v := ?_) rfl (by kernel_rfl) (by kernel_rfl) (by kernel_rfl) (by kernel_rfl) (by kernel_rfl) (fun _ _ _ h => h) (Or.inl ⟨by rfl, ?_⟩) (by assumption) ?_
              rotate_left
              · intro wq hSw; (try dsimp only at hSw); first | (go_simp; done) | (go_simp; with_reducible rfl) | with_reducible rfl
              go_simp
              refine wpAnyL_take (i := 3) (v := ?_) rfl (by kernel_rfl) (by kernel_rfl) (by kernel_rfl) (by kernel_rfl) (by kernel_rfl) (fun _ _ _ h => h) (Or.inl ⟨by rfl, ?_⟩) (by assumption) ?_
              rotate_left
              · intro wq hSw; (try dsimp only at hSw); first | (go_simp; done) | (go_simp; with_reducible rfl) | with_reducible rfl
              go_simp
              refine wpAnyL_take (i := 4) (v := ?_) rfl (by kernel_rfl) (by kernel_rfl) (by kernel_rfl) (by kernel_rfl) (by kernel_rfl) (fun _ _ _ h => h) (Or.inl ⟨by rfl, ?_⟩) (by assumption) ?_
              rotate_left
              · intro wq hSw; (try dsimp only at hSw); first | (go_simp; done) | (go_simp; with_reducible rfl) | with_reducible rfl
              go_simp
              refine wpAnyL_take (i := 5) (v := ?_) rfl (by kernel_rfl) (by kernel_rfl) (by kernel_rfl) (by kernel_rfl) (by kernel_rfl) (fun _ _ _ h => h) (Or.inl ⟨by rfl, ?_⟩) (by assumption) ?_
              rotate_left
              · intro wq hSw; (try dsimp only at hSw); first | (go_simp; done) | (go_simp; with_reducible rfl) | with_reducible rfl
              go_simp
              refine wpAnyL_take (i := 6) (v := ?_) rfl (by kernel_rfl) (by kernel_rfl) (by kernel_rfl) (by kernel_rfl) (by kernel_rfl) (fun _ _ _ h => h) (Or.inl ⟨by rfl, ?_⟩) (by assumption) ?_
              rotate_left
              · intro wq hSw; (try dsimp only at hSw); first | (go_simp; done) | (go_simp; with_reducible rfl) | with_reducible rfl
              go_simp
              refine wpAnyL_take (i := 7) (v := ?_) rfl (by kernel_rfl) (by kernel_rfl) (by kernel_rfl) (by kernel_rfl) (by kernel_rfl) (fun _ _ _ h => h) (Or.inl ⟨by rfl, ?_⟩) (by assumption) ?_
              rotate_left
              · intro wq hSw; (try dsimp only at hSw); first | (go_simp; done) | (go_simp; with_reducible rfl) | with_reducible rfl
              go_simp
              refine wpAnyL_take (i := 8) (v := ?_) rfl (by kernel_rfl) (by kernel_rfl) (by kernel_rfl) (by kernel_rfl) (by kernel_rfl) (fun _ _ _ h => h) (Or.inl ⟨by rfl, ?_⟩) (by assumption) ?_
              rotate_left
              · intro wq hSw; (try dsimp only at hSw); first | (go_simp; done) | (go_simp; with_reducible rfl) | with_reducible rfl
              go_simp
              refine wpAnyL_take (i := 9) (v := ?_) rfl (by kernel_rfl) (by kernel_rfl) (by kernel_rfl) (by kernel_rfl) (by kernel_rfl) (fun _ _ _ h => h) (Or.inl ⟨by rfl, ?_⟩) (by assumption) ?_
              rotate_left
              · intro wq hSw; (try dsimp only at hSw); first | (go_simp; done) | (go_simp; with_reducible rfl) | with_reducible rfl
              go_simp
              refine wpAnyL_take (i := 10) (v := ?_) rfl (by kernel_rfl) (by kernel_rfl) (by kernel_rfl) (by kernel_rfl) (by kernel_rfl) (fun _ _ _ h => h) (Or.inl ⟨by rfl, ?_⟩) (by assumption) ?_
              rotate_left
              · intro wq hSw; (try dsimp only at hSw); first | (go_simp; done) | (go_simp; with_reducible rfl) | with_reducible rfl
              go_simp
              refine wpAnyL_take (i := 11) (v := ?_) rfl (by kernel_rfl) (by kernel_rfl) (by kernel_rfl) (by kernel_rfl) (by kernel_rfl) (fun _ _ _ h => h) (Or.inl ⟨by rfl, ?_⟩) (by assumption) ?_
              rotate_left
              · intro wq hSw; (try dsimp only at hSw); first | (go_simp; done) | (go_simp; with_reducible rfl) | with_reducible rfl
              go_simp
              refine wpAnyL_take (i := 12) (v := ?_) rfl (by kernel_rfl) (by kernel_rfl) (by kernel_rfl) (by kernel_rfl) (by kernel_rfl) (fun _ _ _ h => h) (Or.inl ⟨by rfl, ?_⟩) (by assumption) ?_
              rotate_left
              · intro wq hSw; (try dsimp only at hSw); first | (go_simp; done) | (go_simp; with_reducible rfl) | with_reducible rfl
              go_simp
              refine wpAnyL_take (i := 13) (v := ?_) rfl (by kernel_rfl) (by kernel_rfl) (by kernel_rfl) (by kernel_rfl) (by kernel_rfl) (fun _ _ _ h => h) (Or.inl ⟨by rfl, ?_⟩) (by assumption) ?_
              rotate_left
              · intro wq hSw; (try dsimp only at hSw); first | (go_simp; done) | (go_simp; with_reducible rfl) | with_reducible rfl
              go_simp
              refine wpAnyL_take (i := 14) (v := ?_) rfl (by kernel_rfl) (by kernel_rfl) (by kernel_rfl) (by kernel_rfl) (by kernel_rfl) (fun _ _ _ h => h) (Or.inl ⟨by rfl, ?_⟩) (by assumption) ?_
              rotate_left
              · intro wq hSw; (try dsimp only at hSw); first | (go_simp; done) | (go_simp; with_reducible rfl) | with_reducible rfl
              go_simp
              refine wpAnyL_take (i := 15) (v := ?_) rfl (by kernel_rfl) (by kernel_rfl) (by kernel_rfl) (by kernel_rfl) (by kernel_rfl) (fun _ _ _ h => h) (Or.inl ⟨by rfl, ?_⟩) (by assumption) ?_
              rotate_left
              · intro wq hSw; (try dsimp only at hSw); first | (go_simp; done) | (go_simp; with_reducible rfl) | with_reducible rfl
              go_simp
              refine wpAnyL_ready (rs := [16]) (by kernel_rfl) (by simp) ?_
              refine (AllReadyL.cons rfl (fun K' hK' => ?_) AllReadyL.nil)
              go_simp
              go_wp2_with (go_at_call 41; refine (HLS.out _).mono ?_; rintro e w3 ⟨rfl, hb3⟩)
              have HBE := Lib.hid (kF hb3 HK9.out)
              clear hb3
              refine hK'.out _ _ ?_ (fun hHeld => ?_)
              · (try dsimp only); exact HS.out _ HBE.out
              clear hK' K'
              refine wpAnyL_ready (rs := [17]) (by kernel_rfl) (by simp) ?_
              refine AllReadyL.last rfl (fun K' hK' => ?_)
              go_simp
              refine hK'.out _ _ ?_
              clear hK' K'
              refine wpAnyL_done (by kernel_rfl) ?_ _
              clear hHeld
              go_wp2_with fail
              go_meet
              exact ⟨rfl, HBE⟩
            · obtain rfl : q = M := by omega
              go_wp2_with fail
              go_quiet (fail)
              go_wp2_with fail
              go_meet
              exact ⟨rfl, Lib.hid (below_drewN HBI.out nq)⟩
      case rest =>
        obtain ⟨rfl, HBC⟩ := hcut
        obtain ⟨w5, hw5⟩ : ∃ w5, w5 = wc := ⟨_, rfl⟩
        subst hw5
        clear d0
        have HBW := Lib.hid (kF HBC.out HB.out)
        have HOW := Lib.hid (own_below HO.out HBC.out)
        have d0 := HDX.out w5 HBW.out
        have HOE := Lib.hid (own_made w5 w5.heap.size 57 7 (Nat.le_refl _))
        have hgc := Nat.lt_of_lt_of_le hO3 HBC.out.size
        have hfl := fr_len O
        rw [HM.out] at hfl
        have HSD := Lib.hid (fun z (hz : Below w5.heap.size w5 z) jj u (hu : (fr (O.drop P))[jj]? = some u) => show z.cell? ((⟨g, P * 7, none⟩ : Addr).add jj) = some u from by
          rw [← fr_drop, List.getElem?_drop] at hu
          have hlt := (List.getElem?_eq_some_iff.1 hu).1
          rw [add_plainR, hz.cell (p := ⟨g, _, none⟩) hgc, own_cell HOW.out (by omega), hu])
        have HST := Lib.hid (fun z (hz : Below w5.heap.size w5 z) jj u (hu : (fr (O.take P))[jj]? = some u) => show z.cell? ((⟨g, 0, none⟩ : Addr).add jj) = some u from by
          have hlt := (List.getElem?_eq_some_iff.1 hu).1
          rw [fr_len, List.length_take] at hlt
          have hm' := HM.out
          rw [← fr_take, List.getElem?_take_of_lt (by omega)] at hu
          rw [add_plainR, Nat.zero_add, hz.cell (p := ⟨g, _, none⟩) hgc, own_cell HOW.out (by omega), hu])
        have HDL := Lib.hid (show (fr (O.drop P)).length = (M - P) * 7 by rw [fr_len, List.length_drop, HM.out])
        have HTL := Lib.hid (show (fr (O.take P)).length = P * 7 by rw [fr_len, List.length_take, HM.out, Nat.min_eq_left hPle])
        have HDO := Lib.hid (fr_one (O.drop P))
        have HTO := Lib.hid (fr_one (O.take P))
        have hbe : Below w5.heap.size w5 (w5.alloc (.cells #[] 57)) := (Below.refl _ _).alloc (Nat.le_refl _) _
        have HBE := Lib.hid hbe
        have d0' := HDX.out _ (kF hbe HBW.out)
        clear HO HBC HOX HLT HGE HOC hbe hfl
        go_upto_region 8 with fail
        go_cut [6] from 35 to 39 (fun s6 wx => ∃ gq cq : Nat, s6 = .slice (some ⟨gq, 0, none⟩) (M - P) cq ∧ Hid (wx.ownsRow w5.heap.size 57 7 (.slice (some ⟨gq, 0, none⟩) (M - P) cq) (M - P) (fr (O.drop P))) ∧ Hid (Below w5.heap.size w5 wx))
        case first =>
          have HBR := Lib.hid (Below.refl w5.heap.size w5)
          have hcs : (M = P ∧ cO = P) ∨ (M = P ∧ P < cO) ∨ (P < M ∧ P < cO) := by omega
          rcases hcs with ⟨h1, h2⟩ | ⟨h1, h2⟩ | ⟨h1, h2⟩
          · subst h1
            subst h2
            have e0 : fr (O.drop cO) = [] := List.eq_nil_of_length_eq_zero (by rw [HDL.out]; omega)
            have HE0 := Lib.hid e0
            clear e0
            go_wp2_with (at_builtin; refine wpList_append_own _ rfl (.tmp 35) (.tmp 38) 25 rfl w5.heap.size 57 i0 (.agg #[.int .i64 0, .int .i64 0, .int .i64 0, .int .i64 0, .int .i64 0, .int .i64 0, .string ByteArray.empty]) 7 64 Try.underlying25 HI.out hz0' hz1' hz2' rfl (by omega) (.slice (some ⟨w5.heap.size, 0, none⟩) 0 0) 0 [] rfl HOE.out ⟨g, 0, none⟩ 0 0 [] rfl rfl (fun jj u hu => by simp at hu) (fun u hu => by simp at hu) (by simp [maxLen]) (by omega) HBE.out.size ?_; intro v1 w6 r1 r2 r3)
            rw [Nat.zero_add, List.nil_append] at r1
            have hbw : Below w5.heap.size w5 w6 := HBE.out.grown r2 HBE.out.size (fun k e => by cases e; exact Nat.le_refl _)
            rcases r1.2 with ⟨ev, _⟩ | ⟨g1, cap1, cur1, rfl, _⟩
            · exact absurd (r3.1 ev).1 (by simp)
            have HR1 := Lib.hid r1
            have HW1 := Lib.hid hbw
            clear r1 r2 r3 hbw
            go_wp2_with fail
            go_meet
            exact ⟨g1, cap1, by rw [Nat.sub_self], Lib.hid (by rw [Nat.sub_self, HE0.out]; exact HR1.out), HW1⟩
          · subst h1
            have e0 : fr (O.drop M) = [] := List.eq_nil_of_length_eq_zero (by rw [HDL.out]; omega)
            have HE0 := Lib.hid e0
            have hc0 : ¬ cO = M := by omega
            clear e0
            go_wp2_with (at_builtin; refine wpList_append_own _ rfl (.tmp 35) (.tmp 38) 25 rfl w5.heap.size 57 i0 (.agg #[.int .i64 0, .int .i64 0, .int .i64 0, .int .i64 0, .int .i64 0, .int .i64 0, .string ByteArray.empty]) 7 64 Try.underlying25 HI.out hz0' hz1' hz2' rfl (by omega) (.slice (some ⟨w5.heap.size, 0, none⟩) 0 0) 0 [] rfl HOE.out ⟨g, M * 7, none⟩ 0 (cO - M) [] rfl rfl (fun jj u hu => by simp at hu) (fun u hu => by simp at hu) (by simp [maxLen]) (by omega) HBE.out.size ?_; intro v1 w6 r1 r2 r3)
            rw [Nat.zero_add, List.nil_append] at r1
            have hbw : Below w5.heap.size w5 w6 := HBE.out.grown r2 HBE.out.size (fun k e => by cases e; exact Nat.le_refl _)
            rcases r1.2 with ⟨ev, _⟩ | ⟨g1, cap1, cur1, rfl, _⟩
            · exact absurd (r3.1 ev).1 (by simp)
            have HR1 := Lib.hid r1
            have HW1 := Lib.hid hbw
            clear r1 r2 r3 hbw
            go_wp2_with fail
            go_meet
            exact ⟨g1, cap1, by rw [Nat.sub_self], Lib.hid (by rw [Nat.sub_self, HE0.out]; exact HR1.out), HW1⟩
          · have hc0 : ¬ cO = P := by omega
            have hc1 : ¬ M = P := by omega
            go_wp2_with (at_builtin; refine wpList_append_own _ rfl (.tmp 35) (.tmp 38) 25 rfl w5.heap.size 57 i0 (.agg #[.int .i64 0, .int .i64 0, .int .i64 0, .int .i64 0, .int .i64 0, .int .i64 0, .string ByteArray.empty]) 7 64 Try.underlying25 HI.out hz0' hz1' hz2' rfl (by omega) (.slice (some ⟨w5.heap.size, 0, none⟩) 0 0) 0 [] rfl HOE.out ⟨g, P * 7, none⟩ (M - P) (cO - P) (fr (O.drop P)) rfl HDL.out (HSD.out _ HBE.out) HDO.out (by simp [maxLen]; omega) (by omega) HBE.out.size ?_; intro v1 w6 r1 r2 r3)
            rw [Nat.zero_add, List.nil_append] at r1
            have hbw : Below w5.heap.size w5 w6 := HBE.out.grown r2 HBE.out.size (fun k e => by cases e; exact Nat.le_refl _)
            rcases r1.2 with ⟨ev, _⟩ | ⟨g1, cap1, cur1, rfl, _⟩
            · exact absurd (r3.1 ev).1 (by simp)
            have HR1 := Lib.hid r1
            have HW1 := Lib.hid hbw
            clear r1 r2 r3 hbw
            go_wp2_with fail
            go_meet
            exact ⟨g1, cap1, rfl, Lib.hid HR1.out, HW1⟩
        case rest =>
          obtain ⟨gq, cq, rfl, HQ, HBQ⟩ := hcut
          have hPc : P ≤ cO := by omega
          have HS := Lib.hid (fun z (hz : Below wc.heap.size wc z) => show z.cell? ⟨w.heap.size, 0, none⟩ = some (.slice (some ⟨gr, 0, none⟩) N c) ∧ z.cell? ⟨gr, j * 7, none⟩ = some (.int .i64 (x.1 / 256)) ∧ z.cell? ⟨gr, j * 7 + 1, none⟩ = some (.int .i64 (x.1 % 256)) ∧ z.cell? ⟨gr, j * 7 + 2, none⟩ = some (.int .i64 x.2.k) ∧ z.cell? ⟨gr, j * 7 + 3, none⟩ = some (.int .i64 x.2.a) ∧ z.cell? ⟨gr, j * 7 + 4, none⟩ = some (.int .i64 x.2.lo) ∧ z.cell? ⟨gr, j * 7 + 5, none⟩ = some (.int .i64 x.2.hi) ∧ z.cell? ⟨gr, j * 7 + 6, none⟩ = some (.string (strOfNums x.2.b)) from ⟨HDX.out z (kF (kF hz HBQ.out) HBW.out), HCX.out z (kF (kF hz HBQ.out) HBW.out)⟩)
          have hgq : gq < wc.heap.size := by
            rcases HQ.out.2 with ⟨e, _⟩ | ⟨b, cap, cur, e, _, hb, _⟩
            · cases e
            · cases e; exact (Array.getElem?_eq_some_iff.1 hb).1
          have HSQ := Lib.hid (fun z (hz : Below wc.heap.size wc z) jj u (hu : (fr (O.drop P))[jj]? = some u) => show z.cell? ((⟨gq, 0, none⟩ : Addr).add jj) = some u from by
            have hlt := (List.getElem?_eq_some_iff.1 hu).1
            rw [HDL.out] at hlt
            rw [add_plainR, Nat.zero_add, hz.cell (p := ⟨gq, _, none⟩) hgq, own_cell HQ.out hlt, hu])
          have HSU := Lib.hid (fun z (hz : Below wc.heap.size wc z) => HST.out z (kF hz HBQ.out))
          have HEND := Lib.hid (fun (z : World) (g3 c3 : Nat) (hz : Below wc.heap.size wc z) (ho : z.ownsRow wc.heap.size 57 7 (.slice (some ⟨g3, 0, none⟩) (P + 1 + (M - P)) c3) (P + 1 + (M - P)) (fr (O.take P) ++ rowR x ++ fr (O.drop P))) =>
            show z.ownsRow w.heap.size 57 7 (.slice (some ⟨g3, 0, none⟩) (putI x.1 x.2 O).length c3) (putI x.1 x.2 O).length (fr (putI x.1 x.2 O)) ∧ P + 1 + (M - P) = (putI x.1 x.2 O).length ∧ Below w0.heap.size w0 z from
              ⟨own_less (ins_end HPP.out HNO.out (by rw [HM.out]; omega) ho) (kF HBQ.out (kF HBW.out HB0.out)).size, by rw [putI_len_new HNO.out, HM.out]; omega, kF (kF hz HBQ.out) HBW.out⟩)
          have HRR := Lib.hid (show rowR x = [.int .i64 (x.1 / 256), .int .i64 (x.1 % 256), .int .i64 x.2.k, .int .i64 x.2.a, .int .i64 x.2.lo, .int .i64 x.2.hi, .string (strOfNums x.2.b)] from rfl)
          clear d0 HST HSD HBE HOE d0'
          go_wp2_with fail
          refine wp_region_last (fun w' => w'.cell? ⟨w.heap.size, 0, none⟩ = some (.slice (some ⟨gr, 0, none⟩) N c) ∧ w'.cell? ⟨gr, j * 7, none⟩ = some (.int .i64 (x.1 / 256)) ∧ w'.cell? ⟨gr, j * 7 + 1, none⟩ = some (.int .i64 (x.1 % 256)) ∧ w'.cell? ⟨gr, j * 7 + 2, none⟩ = some (.int .i64 x.2.k) ∧ w'.cell? ⟨gr, j * 7 + 3, none⟩ = some (.int .i64 x.2.a) ∧ w'.cell? ⟨gr, j * 7 + 4, none⟩ = some (.int .i64 x.2.lo) ∧ w'.cell? ⟨gr, j * 7 + 5, none⟩ = some (.int .i64 x.2.hi) ∧ w'.cell? ⟨gr, j * 7 + 6, none⟩ = some (.string (strOfNums x.2.b))) 14 (by kernel_rfl) (HS.out _ (kD _)) (fun hHeld => ?_)
          have HBx0 := Lib.hid (kD wc)
          generalize wc.drew = x0 at *
          refine wpAnyL_take (i := 1) (v := ?_) rfl (by kernel_rfl) (by kernel_rfl) (by kernel_rfl) (by kernel_rfl) (by kernel_rfl) (fun _ _ _ h => h) (Or.inl ⟨by rfl, ?_⟩) (by assumption) ?_
          rotate_left
          · intro wq hSw; (try dsimp only at hSw); first | (go_simp; done) | (go_simp; with_reducible rfl) | with_reducible rfl
          go_simp
          refine wpAnyL_take (i := 2) (v := ?_) rfl (by kernel_rfl) (by kernel_rfl) (by kernel_rfl) (by kernel_rfl) (by kernel_rfl) (fun _ _ _ h => h) (Or.inl ⟨by rfl, ?_⟩) (by assumption) ?_
          rotate_left
          · intro wq hSw; (try dsimp only at hSw); first | (go_simp; done) | (go_simp; with_reducible rfl) | with_reducible rfl
          go_simp
          refine wpAnyL_take (i := 3) (v := ?_) rfl (by kernel_rfl) (by kernel_rfl) (by kernel_rfl) (by kernel_rfl) (by kernel_rfl) (fun _ _ _ h => h) (Or.inl ⟨by rfl, ?_⟩) (by assumption) ?_
          rotate_left
          · intro wq hSw; (try dsimp only at hSw); first | (go_simp; done) | (go_simp; with_reducible rfl) | with_reducible rfl
          go_simp
          refine wpAnyL_take (i := 5) (v := ?_) rfl (by kernel_rfl) (by kernel_rfl) (by kernel_rfl) (by kernel_rfl) (by kernel_rfl) (fun _ _ _ h => h) (Or.inl ⟨by rfl, ?_⟩) (by assumption) ?_
          rotate_left
          · intro wq hSw; (try dsimp only at hSw); first | (go_simp; done) | (go_simp; with_reducible rfl) | with_reducible rfl
          go_simp
          refine wpAnyL_take (i := 6) (v := ?_) rfl (by kernel_rfl) (by kernel_rfl) (by kernel_rfl) (by kernel_rfl) (by kernel_rfl) (fun _ _ _ h => h) (Or.inl ⟨by rfl, ?_⟩) (by assumption) ?_
          rotate_left
          · intro wq hSw; (try dsimp only at hSw); first | (go_simp; done) | (go_simp; with_reducible rfl) | with_reducible rfl
          go_simp
          refine wpAnyL_take (i := 7) (v := ?_) rfl (by kernel_rfl) (by kernel_rfl) (by kernel_rfl) (by kernel_rfl) (by kernel_rfl) (fun _ _ _ h => h) (Or.inl ⟨by rfl, ?_⟩) (by assumption) ?_
          rotate_left
          · intro wq hSw; (try dsimp only at hSw); first | (go_simp; done) | (go_simp; with_reducible rfl) | with_reducible rfl
          go_simp
          refine wpAnyL_take (i := 8) (v := ?_) rfl (by kernel_rfl) (by kernel_rfl) (by kernel_rfl) (by kernel_rfl) (by kernel_rfl) (fun _ _ _ h => h) (Or.inl ⟨by rfl, ?_⟩) (by assumption) ?_
          rotate_left
          · intro wq hSw; (try dsimp only at hSw); first | (go_simp; done) | (go_simp; with_reducible rfl) | with_reducible rfl
          go_simp
          refine wpAnyL_take (i := 9) (v := ?_) rfl (by kernel_rfl) (by kernel_rfl) (by kernel_rfl) (by kernel_rfl) (by kernel_rfl) (fun _ _ _ h => h) (Or.inl ⟨by rfl, ?_⟩) (by assumption) ?_
          rotate_left
          · intro wq hSw; (try dsimp only at hSw); first | (go_simp; done) | (go_simp; with_reducible rfl) | with_reducible rfl
          go_simp
          refine wpAnyL_take (i := 12) (v := ?_) rfl (by kernel_rfl) (by kernel_rfl) (by kernel_rfl) (by kernel_rfl) (by kernel_rfl) (fun _ _ _ h => h) (Or.inl ⟨by rfl, ?_⟩) (by assumption) ?_
          rotate_left
          · intro wq hSw; (try dsimp only at hSw); first | (go_simp; done) | (go_simp; with_reducible rfl) | with_reducible rfl
          go_simp
          refine wpAnyL_ready (rs := [0, 10]) (by kernel_rfl) (by simp) ?_
          refine (AllReadyL.cons rfl (fun K hK => ?_) (AllReadyL.cons rfl (fun K hK => ?_) AllReadyL.nil))
          · go_simp
            have HBx1 := Lib.hid (kA HBx0.out (.cells #[] 57))
            refine hK.out _ _ ?_ (fun hHeld => ?_)
            · (try dsimp only); exact HS.out _ HBx1.out
            clear hK K
            have HOE := Lib.hid (own_made x0 wc.heap.size 57 7 HBx0.out.size)
            have HEB := Lib.hid HBx0.out.size
            have HLT := Lib.hid (show x0.heap.size < (x0.alloc (.cells #[] 57)).heap.size by simp)
            generalize x0.alloc (.cells #[] 57) = x1 at *
            generalize x0.heap.size = eb at *
            refine wpAnyL_ready (rs := [4, 10]) (by kernel_rfl) (by simp) ?_
            refine (AllReadyL.cons rfl (fun K hK => ?_) (AllReadyL.cons rfl (fun K hK => ?_) AllReadyL.nil))
            · refine Eq.mpr (if_pos (by kernel_rfl)) ?_
              refine wp_append_own _ (.tmp 40) (.tmp 43) 25 rfl wc.heap.size 57 i0 (.agg #[.int .i64 0, .int .i64 0, .int .i64 0, .int .i64 0, .int .i64 0, .int .i64 0, .string ByteArray.empty]) 7 64 Try.underlying25 HI.out hz0' hz1' hz2' rfl (by omega) (.slice (some ⟨eb, 0, none⟩) 0 0) 0 [] rfl HOE.out ⟨g, 0, none⟩ P cO (fr (O.take P)) rfl HTL.out (HSU.out x1 HBx1.out) HTO.out (by simp [maxLen]; omega) (by omega) HBx1.out.size ?_
              intro v1 x2 q1 q1g q1n
              rw [Nat.zero_add, List.nil_append] at q1
              rcases q1.2 with ⟨ev, _⟩ | ⟨g1, cap1, cur1, rfl, hg1, _⟩
              · exact absurd (q1n.1 ev).1 (by simp)
              have HBx2 := Lib.hid (HBx1.out.grown q1g HBx1.out.size (fun k e => by cases e; exact HEB.out))
              have HO1 := Lib.hid q1
              have HG1 := Lib.hid hg1
              clear q1 q1g q1n hg1
              refine hK.out _ _ ?_ (fun hHeld => ?_)
              · (try dsimp only); exact HS.out _ HBx2.out
              clear hK K
              refine wpAnyL_ready (rs := [10]) (by kernel_rfl) (by simp) ?_
              refine (AllReadyL.cons rfl (fun K hK => ?_) AllReadyL.nil)
              go_simp
              have HBx3 := Lib.hid (kA HBx2.out (.cells #[.int .i64 (x.1 / 256), .int .i64 (x.1 % 256), .int .i64 x.2.k, .int .i64 x.2.a, .int .i64 x.2.lo, .int .i64 x.2.hi, .string (strOfNums x.2.b)] 57))
              refine hK.out _ _ ?_ (fun hHeld => ?_)
              · (try dsimp only); exact HS.out _ HBx3.out
              clear hK K
              have HRW := Lib.hid (heap_alloc_new x2 (.cells #[.int .i64 (x.1 / 256), .int .i64 (x.1 % 256), .int .i64 x.2.k, .int .i64 x.2.a, .int .i64 x.2.lo, .int .i64 x.2.hi, .string (strOfNums x.2.b)] 57))
              have hba : Below x2.heap.size x2 (x2.alloc (.cells #[.int .i64 (x.1 / 256), .int .i64 (x.1 % 256), .int .i64 x.2.k, .int .i64 x.2.a, .int .i64 x.2.lo, .int .i64 x.2.hi, .string (strOfNums x.2.b)] 57)) := (Below.refl _ _).alloc (Nat.le_refl _) _
              have HO1 := Lib.hid (own_keep HO1.out hba)
              clear hba
              generalize x2.alloc (.cells #[.int .i64 (x.1 / 256), .int .i64 (x.1 % 256), .int .i64 x.2.k, .int .i64 x.2.a, .int .i64 x.2.lo, .int .i64 x.2.hi, .string (strOfNums x.2.b)] 57) = x3 at *
              generalize x2.heap.size = rb at *
              refine wpAnyL_ready (rs := [11]) (by kernel_rfl) (by simp) ?_
              refine (AllReadyL.cons rfl (fun K hK => ?_) AllReadyL.nil)
              refine Eq.mpr (if_pos (by kernel_rfl)) ?_
              refine wp_append_own _ (.tmp 44) (.tmp 50) 25 rfl wc.heap.size 57 i0 (.agg #[.int .i64 0, .int .i64 0, .int .i64 0, .int .i64 0, .int .i64 0, .int .i64 0, .string ByteArray.empty]) 7 64 Try.underlying25 HI.out hz0' hz1' hz2' rfl (by omega) (.slice (some ⟨g1, 0, none⟩) P cap1) P (fr (O.take P)) rfl HO1.out ⟨rb, 0, none⟩ 1 1 [.int .i64 (x.1 / 256), .int .i64 (x.1 % 256), .int .i64 x.2.k, .int .i64 x.2.a, .int .i64 x.2.lo, .int .i64 x.2.hi, .string (strOfNums x.2.b)] rfl rfl (row_cells2 HRW.out) (by simp [Value.oneCell']) (by simp [maxLen]; omega) (by omega) HBx3.out.size ?_
              intro v2 x4 q2 q2g q2n
              rcases q2.2 with ⟨ev, _⟩ | ⟨g2, c2, cur2, rfl, hg2, _⟩
              · exact absurd (q2n.1 ev).1 (by simp)
              have HBx4 := Lib.hid (HBx3.out.grown q2g HBx3.out.size (fun k e => by cases e; exact HG1.out))
              have HO2 := Lib.hid q2
              have HG2 := Lib.hid hg2
              clear q2 q2g q2n hg2
              refine hK.out _ _ ?_ (fun hHeld => ?_)
              · (try dsimp only); exact HS.out _ HBx4.out
              clear hK K
              refine wpAnyL_ready (rs := [13]) (by kernel_rfl) (by simp) ?_
              refine (AllReadyL.cons rfl (fun K hK => ?_) AllReadyL.nil)
              refine Eq.mpr (if_pos (by kernel_rfl)) ?_
              refine wp_append_own _ (.tmp 51) (.tmp 52) 25 rfl wc.heap.size 57 i0 (.agg #[.int .i64 0, .int .i64 0, .int .i64 0, .int .i64 0, .int .i64 0, .int .i64 0, .string ByteArray.empty]) 7 64 Try.underlying25 HI.out hz0' hz1' hz2' rfl (by omega) (.slice (some ⟨g2, 0, none⟩) (P + 1) c2) (P + 1) (fr (O.take P) ++ [.int .i64 (x.1 / 256), .int .i64 (x.1 % 256), .int .i64 x.2.k, .int .i64 x.2.a, .int .i64 x.2.lo, .int .i64 x.2.hi, .string (strOfNums x.2.b)]) rfl HO2.out ⟨gq, 0, none⟩ (M - P) cq (fr (O.drop P)) rfl HDL.out (HSQ.out x4 HBx4.out) HDO.out (by simp [maxLen]; omega) (by omega) HBx4.out.size ?_
              intro v3 x5 q3 q3g q3n
              rcases q3.2 with ⟨ev, _⟩ | ⟨g3, c3, cur3, rfl, hg3, _⟩
              · exact absurd (q3n.1 ev).1 (by simp)
              have HBx5 := Lib.hid (HBx4.out.grown q3g HBx4.out.size (fun k e => by cases e; exact HG2.out))
              obtain ⟨ho3, hl3, hb3⟩ := HEND.out x5 g3 c3 HBx5.out (by rw [HRR.out]; exact q3)
              have HO3 := Lib.hid ho3
              have HL3 := Lib.hid hl3
              have HBF := Lib.hid hb3
              clear q3 q3g q3n hg3 ho3 hl3 hb3
              refine hK.out _ _ ?_ (fun hHeld => ?_)
              · (try dsimp only); exact HS.out _ HBx5.out
              clear hK K
              refine wpAnyL_ready (rs := [14]) (by kernel_rfl) (by simp) ?_
              refine AllReadyL.last rfl (fun K hK => ?_)
              go_simp
              refine hK.out _ _ ?_
              clear hK K
              refine wpAnyL_done (by kernel_rfl) ?_ _
              clear hHeld
              go_wp2_with fail
              go_roundg (gk - 1)
              case measure => omega
              case rel => exact ⟨j + 1, g3, c3, putI x.1 x.2 O, by omega, by rw [← HL3.out], by go_num, HTN, HO3, HBF⟩
            · go_simp
              have HBx2 := Lib.hid (kA HBx1.out (.cells #[.int .i64 (x.1 / 256), .int .i64 (x.1 % 256), .int .i64 x.2.k, .int .i64 x.2.a, .int .i64 x.2.lo, .int .i64 x.2.hi, .string (strOfNums x.2.b)] 57))
              refine hK.out _ _ ?_ (fun hHeld => ?_)
              · (try dsimp only); exact HS.out _ HBx2.out
              clear hK K
              have HRW := Lib.hid (heap_alloc_new x1 (.cells #[.int .i64 (x.1 / 256), .int .i64 (x.1 % 256), .int .i64 x.2.k, .int .i64 x.2.a, .int .i64 x.2.lo, .int .i64 x.2.hi, .string (strOfNums x.2.b)] 57))
              have hba : Below x1.heap.size x1 (x1.alloc (.cells #[.int .i64 (x.1 / 256), .int .i64 (x.1 % 256), .int .i64 x.2.k, .int .i64 x.2.a, .int .i64 x.2.lo, .int .i64 x.2.hi, .string (strOfNums x.2.b)] 57)) := (Below.refl _ _).alloc (Nat.le_refl _) _
              have HOE := Lib.hid (own_keep HOE.out hba)
              have HNE := Lib.hid (show ¬ x1.heap.size = eb by have := HLT.out; omega)
              clear hba
              generalize x1.alloc (.cells #[.int .i64 (x.1 / 256), .int .i64 (x.1 % 256), .int .i64 x.2.k, .int .i64 x.2.a, .int .i64 x.2.lo, .int .i64 x.2.hi, .string (strOfNums x.2.b)] 57) = x2 at *
              generalize x1.heap.size = rb at *
              refine wpAnyL_ready (rs := [4]) (by kernel_rfl) (by simp) ?_
              refine (AllReadyL.cons rfl (fun K hK => ?_) AllReadyL.nil)
              refine Eq.mpr (if_pos (by kernel_rfl)) ?_
              refine wp_append_own _ (.tmp 40) (.tmp 43) 25 rfl wc.heap.size 57 i0 (.agg #[.int .i64 0, .int .i64 0, .int .i64 0, .int .i64 0, .int .i64 0, .int .i64 0, .string ByteArray.empty]) 7 64 Try.underlying25 HI.out hz0' hz1' hz2' rfl (by omega) (.slice (some ⟨eb, 0, none⟩) 0 0) 0 [] rfl HOE.out ⟨g, 0, none⟩ P cO (fr (O.take P)) rfl HTL.out (HSU.out x2 HBx2.out) HTO.out (by simp [maxLen]; omega) (by omega) HBx2.out.size ?_
              intro v1 x3 q1 q1g q1n
              rw [Nat.zero_add, List.nil_append] at q1
              rcases q1.2 with ⟨ev, _⟩ | ⟨g1, cap1, cur1, rfl, hg1, _⟩
              · exact absurd (q1n.1 ev).1 (by simp)
              have HBx3 := Lib.hid (HBx2.out.grown q1g HBx2.out.size (fun k e => by cases e; exact HEB.out))
              have HO1 := Lib.hid q1
              have HG1 := Lib.hid hg1
              have HRW := Lib.hid ((q1g.block rb (Array.getElem?_eq_some_iff.1 HRW.out).1 (fun e => by cases e; exact HNE.out rfl)).trans HRW.out)
              clear q1 q1g q1n hg1
              refine hK.out _ _ ?_ (fun hHeld => ?_)
              · (try dsimp only); exact HS.out _ HBx3.out
              clear hK K
              refine wpAnyL_ready (rs := [11]) (by kernel_rfl) (by simp) ?_
              refine (AllReadyL.cons rfl (fun K hK => ?_) AllReadyL.nil)
              refine Eq.mpr (if_pos (by kernel_rfl)) ?_
              refine wp_append_own _ (.tmp 44) (.tmp 50) 25 rfl wc.heap.size 57 i0 (.agg #[.int .i64 0, .int .i64 0, .int .i64 0, .int .i64 0, .int .i64 0, .int .i64 0, .string ByteArray.empty]) 7 64 Try.underlying25 HI.out hz0' hz1' hz2' rfl (by omega) (.slice (some ⟨g1, 0, none⟩) P cap1) P (fr (O.take P)) rfl HO1.out ⟨rb, 0, none⟩ 1 1 [.int .i64 (x.1 / 256), .int .i64 (x.1 % 256), .int .i64 x.2.k, .int .i64 x.2.a, .int .i64 x.2.lo, .int .i64 x.2.hi, .string (strOfNums x.2.b)] rfl rfl (row_cells2 HRW.out) (by simp [Value.oneCell']) (by simp [maxLen]; omega) (by omega) HBx3.out.size ?_
              intro v2 x4 q2 q2g q2n
              rcases q2.2 with ⟨ev, _⟩ | ⟨g2, c2, cur2, rfl, hg2, _⟩
              · exact absurd (q2n.1 ev).1 (by simp)
              have HBx4 := Lib.hid (HBx3.out.grown q2g HBx3.out.size (fun k e => by cases e; exact HG1.out))
              have HO2 := Lib.hid q2
              have HG2 := Lib.hid hg2
              clear q2 q2g q2n hg2
              refine hK.out _ _ ?_ (fun hHeld => ?_)
              · (try dsimp only); exact HS.out _ HBx4.out
              clear hK K
              refine wpAnyL_ready (rs := [13]) (by kernel_rfl) (by simp) ?_
              refine (AllReadyL.cons rfl (fun K hK => ?_) AllReadyL.nil)
              refine Eq.mpr (if_pos (by kernel_rfl)) ?_
              refine wp_append_own _ (.tmp 51) (.tmp 52) 25 rfl wc.heap.size 57 i0 (.agg #[.int .i64 0, .int .i64 0, .int .i64 0, .int .i64 0, .int .i64 0, .int .i64 0, .string ByteArray.empty]) 7 64 Try.underlying25 HI.out hz0' hz1' hz2' rfl (by omega) (.slice (some ⟨g2, 0, none⟩) (P + 1) c2) (P + 1) (fr (O.take P) ++ [.int .i64 (x.1 / 256), .int .i64 (x.1 % 256), .int .i64 x.2.k, .int .i64 x.2.a, .int .i64 x.2.lo, .int .i64 x.2.hi, .string (strOfNums x.2.b)]) rfl HO2.out ⟨gq, 0, none⟩ (M - P) cq (fr (O.drop P)) rfl HDL.out (HSQ.out x4 HBx4.out) HDO.out (by simp [maxLen]; omega) (by omega) HBx4.out.size ?_
              intro v3 x5 q3 q3g q3n
              rcases q3.2 with ⟨ev, _⟩ | ⟨g3, c3, cur3, rfl, hg3, _⟩
              · exact absurd (q3n.1 ev).1 (by simp)
              have HBx5 := Lib.hid (HBx4.out.grown q3g HBx4.out.size (fun k e => by cases e; exact HG2.out))
              obtain ⟨ho3, hl3, hb3⟩ := HEND.out x5 g3 c3 HBx5.out (by rw [HRR.out]; exact q3)
              have HO3 := Lib.hid ho3
              have HL3 := Lib.hid hl3
              have HBF := Lib.hid hb3
              clear q3 q3g q3n hg3 ho3 hl3 hb3
              refine hK.out _ _ ?_ (fun hHeld => ?_)
              · (try dsimp only); exact HS.out _ HBx5.out
              clear hK K
              refine wpAnyL_ready (rs := [14]) (by kernel_rfl) (by simp) ?_
              refine AllReadyL.last rfl (fun K hK => ?_)
              go_simp
              refine hK.out _ _ ?_
              clear hK K
              refine wpAnyL_done (by kernel_rfl) ?_ _
              clear hHeld
              go_wp2_with fail
              go_roundg (gk - 1)
              case measure => omega
              case rel => exact ⟨j + 1, g3, c3, putI x.1 x.2 O, by omega, by rw [← HL3.out], by go_num, HTN, HO3, HBF⟩
          · go_simp
            have HBx1 := Lib.hid (kA HBx0.out (.cells #[.int .i64 (x.1 / 256), .int .i64 (x.1 % 256), .int .i64 x.2.k, .int .i64 x.2.a, .int .i64 x.2.lo, .int .i64 x.2.hi, .string (strOfNums x.2.b)] 57))
            refine hK.out _ _ ?_ (fun hHeld => ?_)
            · (try dsimp only); exact HS.out _ HBx1.out
            clear hK K
            have HRW := Lib.hid (heap_alloc_new x0 (.cells #[.int .i64 (x.1 / 256), .int .i64 (x.1 % 256), .int .i64 x.2.k, .int .i64 x.2.a, .int .i64 x.2.lo, .int .i64 x.2.hi, .string (strOfNums x.2.b)] 57))
            have hba : Below x0.heap.size x0 (x0.alloc (.cells #[.int .i64 (x.1 / 256), .int .i64 (x.1 % 256), .int .i64 x.2.k, .int .i64 x.2.a, .int .i64 x.2.lo, .int .i64 x.2.hi, .string (strOfNums x.2.b)] 57)) := (Below.refl _ _).alloc (Nat.le_refl _) _
            clear hba
            generalize x0.alloc (.cells #[.int .i64 (x.1 / 256), .int .i64 (x.1 % 256), .int .i64 x.2.k, .int .i64 x.2.a, .int .i64 x.2.lo, .int .i64 x.2.hi, .string (strOfNums x.2.b)] 57) = x1 at *
            generalize x0.heap.size = rb at *
            refine wpAnyL_ready (rs := [0]) (by kernel_rfl) (by simp) ?_
            refine (AllReadyL.cons rfl (fun K hK => ?_) AllReadyL.nil)
            go_simp
            have HBx2 := Lib.hid (kA HBx1.out (.cells #[] 57))
            refine hK.out _ _ ?_ (fun hHeld => ?_)
            · (try dsimp only); exact HS.out _ HBx2.out
            clear hK K
            have HOE := Lib.hid (own_made x1 wc.heap.size 57 7 HBx1.out.size)
            have HEB := Lib.hid HBx1.out.size
            have HLT := Lib.hid (show x1.heap.size < (x1.alloc (.cells #[] 57)).heap.size by simp)
            have HNE := Lib.hid (show ¬ rb = x1.heap.size by have := (Array.getElem?_eq_some_iff.1 HRW.out).1; omega)
            have HRW := Lib.hid ((heap_alloc_old x1 (.cells #[] 57) _ (Array.getElem?_eq_some_iff.1 HRW.out).1).trans HRW.out)
            generalize x1.alloc (.cells #[] 57) = x2 at *
            generalize x1.heap.size = eb at *
            refine wpAnyL_ready (rs := [4]) (by kernel_rfl) (by simp) ?_
            refine (AllReadyL.cons rfl (fun K hK => ?_) AllReadyL.nil)
            refine Eq.mpr (if_pos (by kernel_rfl)) ?_
            refine wp_append_own _ (.tmp 40) (.tmp 43) 25 rfl wc.heap.size 57 i0 (.agg #[.int .i64 0, .int .i64 0, .int .i64 0, .int .i64 0, .int .i64 0, .int .i64 0, .string ByteArray.empty]) 7 64 Try.underlying25 HI.out hz0' hz1' hz2' rfl (by omega) (.slice (some ⟨eb, 0, none⟩) 0 0) 0 [] rfl HOE.out ⟨g, 0, none⟩ P cO (fr (O.take P)) rfl HTL.out (HSU.out x2 HBx2.out) HTO.out (by simp [maxLen]; omega) (by omega) HBx2.out.size ?_
            intro v1 x3 q1 q1g q1n
            rw [Nat.zero_add, List.nil_append] at q1
            rcases q1.2 with ⟨ev, _⟩ | ⟨g1, cap1, cur1, rfl, hg1, _⟩
            · exact absurd (q1n.1 ev).1 (by simp)
            have HBx3 := Lib.hid (HBx2.out.grown q1g HBx2.out.size (fun k e => by cases e; exact HEB.out))
            have HO1 := Lib.hid q1
            have HG1 := Lib.hid hg1
            have HRW := Lib.hid ((q1g.block rb (Array.getElem?_eq_some_iff.1 HRW.out).1 (fun e => by cases e; exact HNE.out rfl)).trans HRW.out)
            clear q1 q1g q1n hg1
            refine hK.out _ _ ?_ (fun hHeld => ?_)
            · (try dsimp only); exact HS.out _ HBx3.out
            clear hK K
            refine wpAnyL_ready (rs := [11]) (by kernel_rfl) (by simp) ?_
            refine (AllReadyL.cons rfl (fun K hK => ?_) AllReadyL.nil)
            refine Eq.mpr (if_pos (by kernel_rfl)) ?_
            refine wp_append_own _ (.tmp 44) (.tmp 50) 25 rfl wc.heap.size 57 i0 (.agg #[.int .i64 0, .int .i64 0, .int .i64 0, .int .i64 0, .int .i64 0, .int .i64 0, .string ByteArray.empty]) 7 64 Try.underlying25 HI.out hz0' hz1' hz2' rfl (by omega) (.slice (some ⟨g1, 0, none⟩) P cap1) P (fr (O.take P)) rfl HO1.out ⟨rb, 0, none⟩ 1 1 [.int .i64 (x.1 / 256), .int .i64 (x.1 % 256), .int .i64 x.2.k, .int .i64 x.2.a, .int .i64 x.2.lo, .int .i64 x.2.hi, .string (strOfNums x.2.b)] rfl rfl (row_cells2 HRW.out) (by simp [Value.oneCell']) (by simp [maxLen]; omega) (by omega) HBx3.out.size ?_
            intro v2 x4 q2 q2g q2n
            rcases q2.2 with ⟨ev, _⟩ | ⟨g2, c2, cur2, rfl, hg2, _⟩
            · exact absurd (q2n.1 ev).1 (by simp)
            have HBx4 := Lib.hid (HBx3.out.grown q2g HBx3.out.size (fun k e => by cases e; exact HG1.out))
            have HO2 := Lib.hid q2
            have HG2 := Lib.hid hg2
            clear q2 q2g q2n hg2
            refine hK.out _ _ ?_ (fun hHeld => ?_)
            · (try dsimp only); exact HS.out _ HBx4.out
            clear hK K
            refine wpAnyL_ready (rs := [13]) (by kernel_rfl) (by simp) ?_
            refine (AllReadyL.cons rfl (fun K hK => ?_) AllReadyL.nil)
            refine Eq.mpr (if_pos (by kernel_rfl)) ?_
            refine wp_append_own _ (.tmp 51) (.tmp 52) 25 rfl wc.heap.size 57 i0 (.agg #[.int .i64 0, .int .i64 0, .int .i64 0, .int .i64 0, .int .i64 0, .int .i64 0, .string ByteArray.empty]) 7 64 Try.underlying25 HI.out hz0' hz1' hz2' rfl (by omega) (.slice (some ⟨g2, 0, none⟩) (P + 1) c2) (P + 1) (fr (O.take P) ++ [.int .i64 (x.1 / 256), .int .i64 (x.1 % 256), .int .i64 x.2.k, .int .i64 x.2.a, .int .i64 x.2.lo, .int .i64 x.2.hi, .string (strOfNums x.2.b)]) rfl HO2.out ⟨gq, 0, none⟩ (M - P) cq (fr (O.drop P)) rfl HDL.out (HSQ.out x4 HBx4.out) HDO.out (by simp [maxLen]; omega) (by omega) HBx4.out.size ?_
            intro v3 x5 q3 q3g q3n
            rcases q3.2 with ⟨ev, _⟩ | ⟨g3, c3, cur3, rfl, hg3, _⟩
            · exact absurd (q3n.1 ev).1 (by simp)
            have HBx5 := Lib.hid (HBx4.out.grown q3g HBx4.out.size (fun k e => by cases e; exact HG2.out))
            obtain ⟨ho3, hl3, hb3⟩ := HEND.out x5 g3 c3 HBx5.out (by rw [HRR.out]; exact q3)
            have HO3 := Lib.hid ho3
            have HL3 := Lib.hid hl3
            have HBF := Lib.hid hb3
            clear q3 q3g q3n hg3 ho3 hl3 hb3
            refine hK.out _ _ ?_ (fun hHeld => ?_)
            · (try dsimp only); exact HS.out _ HBx5.out
            clear hK K
            refine wpAnyL_ready (rs := [14]) (by kernel_rfl) (by simp) ?_
            refine AllReadyL.last rfl (fun K hK => ?_)
            go_simp
            refine hK.out _ _ ?_
            clear hK K
            refine wpAnyL_done (by kernel_rfl) ?_ _
            clear hHeld
            go_wp2_with fail
            go_roundg (gk - 1)
            case measure => omega
            case rel => exact ⟨j + 1, g3, c3, putI x.1 x.2 O, by omega, by rw [← HL3.out], by go_num, HTN, HO3, HBF⟩
    · obtain rfl : j = N := by omega
      go_wp2_with fail
      go_ret
      exact HFIN.out _ _ _ _ HTI.out HO.out (kF HB.out HB0.out)
end Go.Proofs.Ytmfjndkopkjchaa
