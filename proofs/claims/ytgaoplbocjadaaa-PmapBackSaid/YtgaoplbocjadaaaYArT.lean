/- Lay of no dictionary. -/
import Derived.Test.YtgaoplbocjadaaaYArO
import Derived.Deep.CutBlock
import Derived.Lib.SmallJoins
import Derived.Deep.Slices
namespace Go.Proofs.Ytgaoplbocjadaaa
open Go.RowKit
set_option linter.unusedSimpArgs false
set_option linter.unusedVariables false
set_option maxRecDepth 100000 in
set_option maxHeartbeats 4000000 in
theorem arAdd_nil (w : World) (B gb n c : Nat) (i : Int) (l : List Sp) (hn : n = l.length) (hl : 0 < l.length ∧ l.length ≤ 100) (hnc : n ≤ c ∧ c ≤ maxLen) (hs : SpAt w B (.slice (some ⟨gb, 0, none⟩) n c) l) :
    Calls Try.prog 96 #[.pointer none, .int .i64 i, .slice (some ⟨gb, 0, none⟩) n c] w fun e w' => e = .returned (.int .i64 1) ∧ Below w.heap.size w w' := by
  have HSP := Lib.hid hs
  obtain ⟨⟨k, a, lo, hi⟩, hx⟩ : ∃ x, l[0]? = some x := ⟨_, List.getElem?_eq_getElem hl.1⟩
  have HX := Lib.hid hx
  have hn0 : 0 < n := by omega
  have hmx : n ≤ 100 := by omega
  have hcx : n ≤ c := hnc.1
  clear hs hnc hn hl hx
  go_enter Try.func96, Try.ntmps96
  go_wp2_with fail
  go_loopw [12] (fun t wr => t = .int .i64 0 ∧ Hid (Below w.heap.size w wr)) (fun _ _ => 0)
  case atStart => exact ⟨rfl, Lib.hid (Below.refl _ _)⟩
  case round =>
    obtain ⟨rfl, HO⟩ := hrel
    have HSQ := Lib.hid (HSP.out.below HO.out)
    obtain ⟨c0, c1, c2, c3⟩ := HSQ.out.at_ HX.out
    dsimp only at c0 c1 c2 c3
    simp only [Nat.zero_mul, Nat.zero_add] at c0 c1 c2 c3
    clear HSQ
    go_wp2_with fail
    have hba : Below wr.heap.size wr (wr.alloc (.cells #[.int .i64 k, .int .i64 a, .int .i64 lo, .int .i64 hi] 75)) := (Below.refl _ _).alloc (Nat.le_refl _) _
    refine (add_nil _ i _ k a lo hi none 0 0).mono ?_
    rintro e w1 ⟨rfl, hb1⟩
    have HB1 := Lib.hid (kF (kF hb1 hba) HO.out)
    clear hb1 hba c0 c1 c2 c3
    go_wp2_with fail
    go_ret
    exact ⟨rfl, HB1.out⟩
set_option maxRecDepth 100000 in
set_option maxHeartbeats 4000000 in
theorem lay_nil (w : World) :
    Calls Try.prog 42 #[.pointer none] w fun e w' => e = .returned (.int .i64 1) ∧ Below w.heap.size w w' := by
  go_enter Try.func42, Try.ntmps42
  go_wp2_with fail
  refine (objects_any _).mono ?_
  rintro e w1 ⟨V, M, rfl, hk, hob, hb1⟩
  have hml : M.length = 10 := by
    have := congrArg List.length hk
    rw [objL_len] at this
    simpa [obK] using this
  obtain ⟨gb, cap, cur, e1, hgb, hcur, hcap, hmx, -⟩ := own_some hob.row (by omega)
  rw [hml] at e1 hcap
  subst e1
  have HB1 := Lib.hid hb1
  have HOB := Lib.hid hob
  obtain ⟨⟨i, v, l⟩, hx, hy⟩ : ∃ x, M[0]? = some x ∧ objL[0]? = some (x.1, x.2.2) := by
    have hq2 : 0 < M.length := by omega
    refine ⟨M[0], List.getElem?_eq_getElem hq2, ?_⟩
    rw [← hk, obK, List.getElem?_map, List.getElem?_eq_getElem hq2]; rfl
  dsimp only at hy
  have HX := Lib.hid hx
  have HL := Lib.hid (objL_ok _ (List.mem_of_getElem? hy))
  clear hk hob hb1 hml hcur hgb hx hy
  go_wp2_with fail
  go_loopw [8] (fun t wr => t = .int .i64 0 ∧ Hid (Below w1.heap.size w1 wr)) (fun _ _ => 0)
  case atStart => exact ⟨rfl, Lib.hid (Below.refl _ _)⟩
  case round =>
    obtain ⟨rfl, HO⟩ := hrel
    have HSQ := Lib.hid (HOB.out.below HO.out)
    obtain ⟨c0, c1, hsp⟩ := HSQ.out.at_ HX.out
    dsimp only at c0 c1 hsp
    simp only [Nat.zero_mul, Nat.zero_add] at c0 c1
    obtain ⟨g2, cap2, cur2, rfl, -, -, hnc, hmx2, -⟩ := own_some hsp HL.out.1
    have HSP := Lib.hid hsp
    have HNC := Lib.hid (show l.length ≤ cap2 ∧ cap2 ≤ maxLen from ⟨hnc, hmx2⟩)
    clear HSQ hsp hnc hmx2
    generalize hn2 : l.length = n2 at *
    have HN2 := Lib.hid hn2
    clear hn2
    go_wp2_with fail
    have hba : Below wr.heap.size wr (wr.alloc (.cells #[.int .i64 i, .slice (some ⟨g2, 0, none⟩) n2 cap2] 174)) := (Below.refl _ _).alloc (Nat.le_refl _) _
    refine (arAdd_nil _ w.heap.size g2 n2 cap2 i l HN2.out.symm (by have := HL.out; (try dsimp only at this); (try rw [HN2.out] at this); rw [HN2.out]; exact this) HNC.out (HSP.out.below hba)).mono ?_
    rintro e w3 ⟨rfl, hb3⟩
    have HB3 := Lib.hid (kF (kF (kF hb3 hba) HO.out) HB1.out)
    clear hb3 hba c0 c1
    go_wp2_with fail
    go_ret
    exact ⟨rfl, HB3.out⟩
end Go.Proofs.Ytgaoplbocjadaaa
namespace Go.Proofs.Ytgaoplbocjadaaa
open Go.RowKit
set_option linter.unusedSimpArgs false
set_option linter.unusedVariables false
set_option maxRecDepth 100000 in
set_option maxHeartbeats 4000000 in
theorem same15_any (w : World) (B B2 g c : Nat) (T R : List (Int × Ent)) (ch ch2 : Int) (a : Option Addr) (h : DictAt B g T ch w) (ht : TieD T R) (ho : w.ownsRow B2 77 7 (.slice a R.length c) R.length (fr R)) :
    Calls Try.prog 12 #[.pointer (some ⟨g, 0, none⟩), .agg #[.slice a R.length c, .int .i64 ch2]] w fun e w' => e = .returned (.bool true) ∧ Below w.heap.size w w' := by
  have hb0 : Below w.heap.size w (w.alloc (.cells #[.slice a R.length c, .int .i64 ch2] 33)) := (Below.refl _ _).alloc (Nat.le_refl _) _
  have hx0 : RBox (w.alloc (.cells #[.slice a R.length c, .int .i64 ch2] 33)) w.heap.size a R.length c ch2 := heap_alloc_new w _
  have HB0 := Lib.hid hb0
  have HR2 := Lib.hid (fun y (hy : Below w.heap.size w y) x (hx : x ∈ R) => at_rawl (x := x.1) (L := x.2.b) (h.below hy) ht.good (ht.ok x hx).1 ((hasI_iff ht.good.rise).2 ⟨x, (ht.mem x).2 hx, rfl⟩) (by rw [thI_of ht.good.rise ((ht.mem x).2 hx)]))
  have HLN := Lib.hid (fun y (hy : Below w.heap.size w y) => show Calls Try.prog 48 #[.pointer (some ⟨g, 0, none⟩)] y fun e w' => e = .returned (.int .i64 (R.length : Nat)) ∧ w' = y from by rw [← ht.len]; exact at_len (h.below hy))
  have HC := Lib.hid (fun y (hy : Below w.heap.size w y) p x (hx : R[p]? = some x) => rowsR_at (own_below ho hy) hx)
  have HX := Lib.hid (fun p (hp : p < R.length) => show ∃ x, R[p]? = some x from ⟨_, List.getElem?_eq_getElem hp⟩)
  have hzn : R.length ≤ 1000 := by have := ht.len; have := ht.good.few; omega
  have HFB := Lib.hid (fun y (hy : Below (w.alloc (.cells #[.slice a R.length c, .int .i64 ch2] 33)).heap.size (w.alloc (.cells #[.slice a R.length c, .int .i64 ch2] 33)) y) => RBox.below hx0 hy)
  obtain ⟨d0, d1⟩ := hx0.cells
  clear hb0 hx0 h ht ho
  generalize R.length = N at *
  go_enter Try.func12, Try.ntmps12
  go_wp2_with fail
  generalize (w.alloc (.cells #[.slice a N c, .int .i64 ch2] 33)) = w0 at *
  clear d0 d1
  refine wp_region_last (fun x => x.cell? ⟨w.heap.size, 0, none⟩ = some (.slice a N c)) 5 (by kernel_rfl) (HFB.out _ (kD _)).cells.1 (fun hHeld => ?_)
  have HBq := Lib.hid (kD w0)
  generalize w0.drew = w1 at *
  refine wpAnyL_take (i := 0) (v := ?_) rfl (by kernel_rfl) (by kernel_rfl) (by kernel_rfl) (by kernel_rfl) (by kernel_rfl) (fun _ _ _ h => h) (Or.inl ⟨by rfl, ?_⟩) (by assumption) ?_
  rotate_left
  · intro wq hSw; (try dsimp only at hSw); first | (go_simp; done) | (go_simp; with_reducible rfl) | with_reducible rfl
  go_simp
  refine wpAnyL_take (i := 2) (v := ?_) rfl (by kernel_rfl) (by kernel_rfl) (by kernel_rfl) (by kernel_rfl) (by kernel_rfl) (fun _ _ _ h => h) (Or.inl ⟨by rfl, ?_⟩) (by assumption) ?_
  rotate_left
  · intro wq hSw; (try dsimp only at hSw); first | (go_simp; done) | (go_simp; with_reducible rfl) | with_reducible rfl
  go_simp
  refine wpAnyL_take (i := 3) (v := ?_) rfl (by kernel_rfl) (by kernel_rfl) (by kernel_rfl) (by kernel_rfl) (by kernel_rfl) (fun _ _ _ h => h) (Or.inl ⟨by rfl, ?_⟩) (by assumption) ?_
  rotate_left
  · intro wq hSw; (try dsimp only at hSw); first | (go_simp; done) | (go_simp; with_reducible rfl) | with_reducible rfl
  go_simp
  refine wpAnyL_take (i := 4) (v := ?_) rfl (by kernel_rfl) (by kernel_rfl) (by kernel_rfl) (by kernel_rfl) (by kernel_rfl) (fun _ _ _ h => h) (Or.inl ⟨by rfl, ?_⟩) (by assumption) ?_
  rotate_left
  · intro wq hSw; (try dsimp only at hSw); first | (go_simp; done) | (go_simp; with_reducible rfl) | with_reducible rfl
  go_simp
  refine wpAnyL_ready (rs := [1]) (by kernel_rfl) (by simp) ?_
  refine (AllReadyL.cons rfl (fun K hK => ?_) AllReadyL.nil)
  go_simp
  go_wp2_with fail
  refine (HLN.out _ (kF HBq.out HB0.out)).mono ?_
  rintro e y ⟨rfl, rfl⟩
  refine hK.out _ _ ?_ (fun hHeld => ?_)
  · (try dsimp only); exact hHeld
  clear hK K
  refine wpAnyL_ready (rs := [5]) (by kernel_rfl) (by simp) ?_
  refine AllReadyL.last rfl (fun K hK => ?_)
  go_simp
  refine hK.out _ _ ?_
  clear hK K
  refine wpAnyL_done (by kernel_rfl) ?_ _
  clear hHeld
  go_wp2_with fail
  go_loopw [5] (fun t wr => ∃ p : Nat, p ≤ N ∧ t = .int .i64 p ∧ Hid (Below w0.heap.size w0 wr)) (fun t _ => N - (intOf t).toNat)
  case atStart => exact ⟨0, by omega, rfl, HBq⟩
  case round =>
    clear HBq
    obtain ⟨p, hp, rfl, HB⟩ := hrel
    obtain ⟨d0, d1⟩ := (HFB.out _ HB.out).cells
    by_cases hlt : p < N
    · obtain ⟨x, hx⟩ := HX.out p hlt
      have HBw := Lib.hid (kF HB.out HB0.out)
      obtain ⟨gr, rfl, hg, hnc, hm, -⟩ := HC.out wr HBw.out p x hx
      simp only [maxLen] at hm
      have hpI : (p : Int) < (N : Int) := by omega
      have hxm := List.mem_of_getElem? hx
      have HCX := Lib.hid (fun y (hy : Below w.heap.size w y) => show y.cell? ⟨gr, p * 7, none⟩ = some (.int .i64 (x.1 / 256)) ∧ y.cell? ⟨gr, p * 7 + 1, none⟩ = some (.int .i64 (x.1 % 256)) ∧ y.cell? ⟨gr, p * 7 + 6, none⟩ = some (.string (strOfNums x.2.b)) from by
        obtain ⟨g', e', _, _, _, hc7⟩ := HC.out y hy p x hx
        cases e'
        obtain ⟨q0, q1, q2, q3, q4, q5, q6⟩ := hc7
        exact ⟨q0, q1, q6⟩)
      have HRA := Lib.hid (HR2.out wr HBw.out x hxm)
      clear hx hxm hg
      generalize x.1 / 256 = xi at *
      generalize x.1 % 256 = xj at *
      generalize x.2.b = M at *
      have he : ((strOfNums M).toList == (strOfNums M).toList) = true := by simp
      obtain ⟨k0, k1, k6⟩ := HCX.out wr HBw.out
      go_wp2_with fail
      refine HRA.out.mono ?_
      rintro e w5 ⟨A1, n1, c1, rfl, hy1, hb5⟩
      have HB5 := Lib.hid (kF hb5 HB.out)
      have HY1 := Lib.hid hy1
      have HBw5 := Lib.hid (kF hb5 HBw.out)
      clear hy1 hb5 HB HBw HRA d0 d1 k0 k1 k6
      obtain ⟨d0, d1⟩ := (HFB.out _ HB5.out).cells
      obtain ⟨k0, k1, k6⟩ := HCX.out w5 HBw5.out
      have hcv : ∀ kk, (convert 58 9 (.slice A1 n1 c1)).run Try.prog (w5.drewN kk) = .ok (.string (strOfNums M)) (w5.drewN kk) := fun kk => conv_any (HY1.out.step (below_drewN (Below.refl _ _) kk))
      go_wp2_with fail
      go_quiet (fail)
      have HB8 := Lib.hid (below_drewN HB5.out nq)
      clear HB5 HY1 HBw5 hcv d0 d1 k0 k1 k6
      go_wp2_with fail
      exact ⟨⟨p + 1, by omega, by go_num, HB8⟩, by simp [intOf]; omega⟩
    · go_wp2_with fail
      go_ret
      exact ⟨rfl, kF HB.out HB0.out⟩
end Go.Proofs.Ytgaoplbocjadaaa
namespace Go.Proofs.Ytgaoplbocjadaaa
open Go.RowKit
set_option linter.unusedSimpArgs false
set_option linter.unusedVariables false
def stE (x : Int × Ent) (T : List (Int × Ent)) : Int := addE (x.1 / 256) (x.1 % 256) x.2.k x.2.a x.2.lo x.2.hi x.2.b T
def stT (x : Int × Ent) (T : List (Int × Ent)) : List (Int × Ent) := addT (x.1 / 256) (x.1 % 256) x.2.k x.2.a x.2.lo x.2.hi x.2.b T
/-- All are added, up to the first that is not. -/
def foldO : List (Int × Ent) → List (Int × Ent) → Int × List (Int × Ent)
  | [], T => (0, T)
  | x :: l, T => if stE x T = 0 then foldO l (stT x T) else (stE x T, T)
theorem foldO_cons (x : Int × Ent) (l T : List (Int × Ent)) : foldO (x :: l) T = if stE x T = 0 then foldO l (stT x T) else (stE x T, T) := rfl
theorem foldO_app : ∀ (l m : List (Int × Ent)) (T : List (Int × Ent)), foldO (l ++ m) T = if (foldO l T).1 = 0 then foldO m (foldO l T).2 else foldO l T
  | [], m, T => by simp [foldO]
  | x :: l, m, T => by
    rw [List.cons_append, foldO_cons, foldO_cons]
    by_cases h : stE x T = 0
    · rw [if_pos h, if_pos h]; exact foldO_app l m _
    · rw [if_neg h, if_neg h, if_neg h]
def flatO (i : Int) : Nat → List Sp → List (Int × Nat × Sp)
  | _, [] => []
  | s, x :: l => (i, s, x) :: flatO i (s + 1) l
def flatL : List (Int × List Sp) → List (Int × Nat × Sp)
  | [] => []
  | x :: r => flatO x.1 0 x.2 ++ flatL r
def ent3 (y : Int × Nat × Sp) : Int × Ent := entO y.1 (y.2.1 : Int) y.2.2.1 y.2.2.2.1 y.2.2.2.2.1 y.2.2.2.2.2
def okY (y : Int × Nat × Sp) : Bool := decide ((ent3 y).1 / 256 = y.1 ∧ (ent3 y).1 % 256 = (y.2.1 : Int) ∧ ¬ (ent3 y).2.b = [] ∧ firL y.2.2.1 y.2.2.2.1 y.2.2.2.2.1 y.2.2.2.2.2 = (ent3 y).2.b)
theorem step_eq {y : Int × Nat × Sp} (h : okY y = true) (T : List (Int × Ent)) : addE y.1 (y.2.1 : Int) y.2.2.1 y.2.2.2.1 y.2.2.2.2.1 y.2.2.2.2.2 [] T = stE (ent3 y) T ∧ addT y.1 (y.2.1 : Int) y.2.2.1 y.2.2.2.1 y.2.2.2.2.1 y.2.2.2.2.2 [] T = stT (ent3 y) T := by
  obtain ⟨h1, h2, h3, h4⟩ := of_decide_eq_true h
  have hf : firA y.2.2.1 y.2.2.2.1 y.2.2.2.2.1 y.2.2.2.2.2 [] = firA y.2.2.1 y.2.2.2.1 y.2.2.2.2.1 y.2.2.2.2.2 (ent3 y).2.b := by
    unfold firA
    rw [if_pos rfl, if_neg h3, h4]
  have e1 : addE y.1 (y.2.1 : Int) y.2.2.1 y.2.2.2.1 y.2.2.2.2.1 y.2.2.2.2.2 [] T = stE (ent3 y) T := by
    unfold stE
    rw [h1, h2]
    unfold addE
    rw [hf]; rfl
  refine ⟨e1, ?_⟩
  unfold stE at e1
  unfold stT
  rw [h1, h2] at e1 ⊢
  unfold addT
  rw [e1, hf]; rfl
theorem addsR_fold (i : Int) : ∀ (l : List Sp) (s : Nat) (T : List (Int × Ent)), (∀ y ∈ flatO i s l, okY y = true) → addsR i s l T = foldO ((flatO i s l).map ent3) T
  | [], _, _, _ => rfl
  | x :: l, s, T, h => by
    obtain ⟨e1, e2⟩ := step_eq (h (i, s, x) (List.mem_cons_self ..)) T
    dsimp only at e1 e2
    show addsR i s (x :: l) T = foldO (ent3 (i, s, x) :: (flatO i (s + 1) l).map ent3) T
    rw [foldO_cons]
    unfold addsR
    rw [e1, e2, addsR_fold i l (s + 1) _ (fun y hy => h y (List.mem_cons_of_mem _ hy))]
theorem layR_fold : ∀ (L : List (Int × List Sp)) (T : List (Int × Ent)), (∀ y ∈ flatL L, okY y = true) → layR L T = foldO ((flatL L).map ent3) T
  | [], _, _ => rfl
  | x :: r, T, h => by
    show layR (x :: r) T = foldO ((flatO x.1 0 x.2 ++ flatL r).map ent3) T
    rw [List.map_append, foldO_app, ← addsR_fold x.1 x.2 0 T (fun y hy => h y (List.mem_append.2 (.inl hy)))]
    unfold layR
    rw [layR_fold r _ (fun y hy => h y (List.mem_append.2 (.inr hy)))]
set_option maxRecDepth 100000 in
theorem flat_ok : ∀ y ∈ flatL objL, okY y = true := by decide +kernel
set_option maxRecDepth 100000 in
theorem flat_rows : (flatL objL).map ent3 = rowsO := by decide +kernel
theorem lay_rows (T : List (Int × Ent)) : layR objL T = foldO rowsO T := by rw [layR_fold objL T flat_ok, flat_rows]
theorem rowsO_len : rowsO.length = 70 := by decide +kernel
theorem foldO_drop {q : Nat} {x : Int × Ent} (h : rowsO[q]? = some x) (T : List (Int × Ent)) : foldO (rowsO.drop q) T = if stE x T = 0 then foldO (rowsO.drop (q + 1)) (stT x T) else (stE x T, T) := by
  rw [drop_at h]; rfl
/-- What an entry of the section is. -/
def okR (x : Int × Ent) : Bool := decide ((256 ≤ x.1 ∧ x.1 ≤ 16777215) ∧ x.2.b.length ≤ 64 ∧ ∀ y ∈ x.2.b, 0 ≤ y ∧ y ≤ 255)
theorem rowsO_ok : ∀ x ∈ rowsO, okR x = true := by decide +kernel
theorem stT_bad {x : Int × Ent} {T : List (Int × Ent)} (h : ¬ stE x T = 0) : stT x T = T := by
  unfold stT addT; exact if_neg h
end Go.Proofs.Ytgaoplbocjadaaa
namespace Go.Proofs.Ytgaoplbocjadaaa
open Go.RowKit
set_option linter.unusedSimpArgs false
set_option linter.unusedVariables false
/-- What stands beside the dictionaries. -/
structure LyX (w0 : World) (gk gs gr : Nat) (i j k ac lo hi : Int) (a : Option Addr) (n c : Nat) (x : World) : Prop where
  key : Key2 x gk i j
  spc : Spc x gs k ac lo hi
  box : RBox x gr a n c 0
  gt : gk < w0.heap.size ∧ gs < w0.heap.size ∧ w0.heap.size ≤ gr
  oth : Oth w0.heap.size w0 x
theorem addT_512 {i j k a lo hi : Int} {l : List Int} {T : List (Int × Ent)} (h : T.length ≤ 512) : (addT i j k a lo hi l T).length ≤ 512 := by
  unfold addT
  split
  · rename_i h0
    have hlt : ¬ 512 ≤ T.length := by
      intro h5
      unfold addE at h0
      split at h0
      · cases h0
      split at h0
      · cases h0
      split at h0
      · cases h0
      first
        | cases h0
        | (rw [if_pos h5] at h0; cases h0)
    have := putI_le (numI i j) ⟨k, a, lo, hi, firA k a lo hi l⟩ T
    omega
  · exact h
theorem end70 {e : Int} {U : List (Int × Ent)} {F Y : Int × List (Int × Ent)} (h : if e = 0 then F = Y else F = (e, U)) (hY : Y = (0, U)) : F = (e, U) := by
  split at h
  · rename_i h0
    rw [h0, h, hY]
  · exact h
section
variable {w0 x y : World} {gk gs gr : Nat} {i j k ac lo hi : Int} {a a' : Option Addr} {n c n' c' : Nat}
theorem LyX.step (h : LyX w0 gk gs gr i j k ac lo hi a n c x) (ho : Oth w0.heap.size x y) : LyX w0 gk gs gr i j k ac lo hi a n c y := ⟨ho.2 _ _ _ _ h.key not3_K, ho.2 _ _ _ _ h.spc not3_S, ho.2 _ _ _ _ h.box not3_D, h.gt, h.oth.trans ho⟩
theorem LyX.below (h : LyX w0 gk gs gr i j k ac lo hi a n c x) (hb : Below x.heap.size x y) : LyX w0 gk gs gr i j k ac lo hi a n c y := h.step (.of_below hb h.oth.1.size)
theorem LyX.put (h : LyX w0 gk gs gr i j k ac lo hi a n c x) : LyX w0 gk gs gr i j k ac lo hi a' n' c' ((x.setCell ⟨gr, 0, none⟩ (.slice a' n' c')).setCell ⟨gr, 1, none⟩ (.int .i64 0)) :=
  ⟨(heap_other _ _ _ _ (by have := h.gt; simp; omega)).trans ((heap_other _ _ _ _ (by have := h.gt; simp; omega)).trans h.key), (heap_other _ _ _ _ (by have := h.gt; simp; omega)).trans ((heap_other _ _ _ _ (by have := h.gt; simp; omega)).trans h.spc), h.box.two, h.gt, (h.oth.set h.gt.2.2 h.gt.2.2 0 _).set h.gt.2.2 h.gt.2.2 1 _⟩
theorem LyX.other {g : Nat} {u u' : Value} (h : LyX w0 gk gs gr i j k ac lo hi a n c x) (hg : w0.heap.size ≤ g) (hne : g ≠ gr) : LyX w0 gk gs gr i j k ac lo hi a n c ((x.setCell ⟨g, 0, none⟩ u).setCell ⟨g, 1, none⟩ u') :=
  ⟨(heap_other _ _ _ _ (by have := h.gt; simp; omega)).trans ((heap_other _ _ _ _ (by have := h.gt; simp; omega)).trans h.key), (heap_other _ _ _ _ (by have := h.gt; simp; omega)).trans ((heap_other _ _ _ _ (by have := h.gt; simp; omega)).trans h.spc), (heap_other _ _ _ _ (by simp; omega)).trans ((heap_other _ _ _ _ (by simp; omega)).trans h.box), h.gt, (h.oth.set hg hg 0 _).set hg hg 1 _⟩
theorem LyX.blt (h : LyX w0 gk gs gr i j k ac lo hi a n c x) : gr < x.heap.size := (Array.getElem?_eq_some_iff.1 h.box).1
theorem dict_put2 {B g gx : Nat} {T : List (Int × Ent)} {a : Option Addr} {n c : Nat} {ch : Int} (h : RBox x gx a n c ch) (hd : DictAt B g T 0 x) (a' : Option Addr) (n' c' : Nat) (v : Value) : DictAt B g T 0 ((x.setCell ⟨gx, 0, none⟩ (.slice a' n' c')).setCell ⟨gx, 1, none⟩ v) :=
  (hd.set h not3_D 0 _).set (h.sl (a' := a') (n' := n') (c' := c')) not3_D 1 v
theorem own_put2 {gx : Nat} {a : Option Addr} {n c : Nat} {ch : Int} {base r : Nat} {u : Value} {xs : List Value} (h : RBox x gx a n c ch) (ho : x.ownsRow base 77 7 u r xs) (v v' : Value) : ((x.setCell ⟨gx, 0, none⟩ v).setCell ⟨gx, 1, none⟩ v').ownsRow base 77 7 u r xs := by
  have h1 : u.ownBlock ≠ some gx := by
    intro e
    rcases ho.2 with ⟨e1, _⟩ | ⟨b', cap, cur, e1, _, hb', _⟩
    · rw [e1] at e; cases e
    · rw [e1] at e; cases e; rw [h] at hb'; cases hb'
  exact ownsRow_setCell_other (a := ⟨gx, 1, none⟩) (ownsRow_setCell_other (a := ⟨gx, 0, none⟩) ho h1 _) h1 _
theorem LyX.dict_put {g : Nat} {T : List (Int × Ent)} (h : LyX w0 gk gs gr i j k ac lo hi a n c x) (hd : DictAt w0.heap.size g T 0 x) (v : Value) : DictAt w0.heap.size g T 0 ((x.setCell ⟨gr, 0, none⟩ (.slice a' n' c')).setCell ⟨gr, 1, none⟩ v) :=
  (hd.set h.box not3_D 0 _).set (h.box.sl (a' := a') (n' := n') (c' := c')) not3_D 1 v
theorem LyX.own_put {base r : Nat} {u : Value} {xs : List Value} (h : LyX w0 gk gs gr i j k ac lo hi a n c x) (ho : x.ownsRow base 77 7 u r xs) (v v' : Value) : ((x.setCell ⟨gr, 0, none⟩ v).setCell ⟨gr, 1, none⟩ v').ownsRow base 77 7 u r xs := by
  have hne : ∀ y : World, y.ownsRow base 77 7 u r xs → (∃ cs, y.heap[gr]? = some (.cells cs 33 (0, 0))) → u.ownBlock ≠ some gr := by
    intro y ho ⟨cs, hc⟩ e
    rcases ho.2 with ⟨e1, _⟩ | ⟨b', cap, cur, e1, _, hb', _⟩
    · rw [e1] at e; cases e
    · rw [e1] at e; cases e; rw [hc] at hb'; cases hb'
  have h1 : u.ownBlock ≠ some gr := hne x ho ⟨_, h.box⟩
  exact ownsRow_setCell_other (a := ⟨gr, 1, none⟩) (ownsRow_setCell_other (a := ⟨gr, 0, none⟩) ho h1 _) h1 _
end
end Go.Proofs.Ytgaoplbocjadaaa
namespace Go.Proofs.Ytgaoplbocjadaaa
open Go.RowKit Go.Joins Go.ChangeShapes Go.WideShapes Go.Deep
set_option linter.unusedSimpArgs false
set_option linter.unusedVariables false
theorem cells_keyD : Try.prog.cellsOf 24 = 2 := by kernel_rfl
theorem cells_intD : Try.prog.cellsOf 3 = 1 := by kernel_rfl
theorem array2D {α : Type} {cs : Array α} (h : cs.size = 2) : ∃ c0 c1, cs = #[c0, c1] := by
  obtain ⟨l⟩ := cs
  match l, h with
  | [c0, c1], _ => exact ⟨c0, c1, rfl⟩
section
variable {H : Type} {enc : TypeId × Value → H} {w : World} {base : Nat} {spare : Nat → Bool} {held : Bool}
set_option maxRecDepth 100000 in
theorem open_key {r : Reach} {b0 : Nat} {v : Value} {dd : DataW H} {p : List MemPlace} (hv : Value.okWide Try.prog w r b0 24 v) (h : DataW.Trod enc Try.prog w base spare held 24 v dd p) :
    ∃ i j : Int, v = .agg #[.int .i64 i, .int .i64 j] ∧ (Lit.int .i64 i).wf = true ∧ (Lit.int .i64 j).wf = true := by
  obtain ⟨cs, rfl, hsz⟩ := okWide_struct Try.underlying24 hv
  obtain ⟨c0, c1, rfl⟩ := array2D (hsz.trans cells_keyD)
  obtain ⟨fuel, hf⟩ := h
  obtain ⟨y0, y1, m, _, _, h0, h1⟩ := trod_struct2 Try.underlying24 hf
  simp only [cells_intD, Value.cells] at h0 h1
  obtain ⟨i, e0, _, w0⟩ := DataW.trod_int Try.underlying3 h0
  obtain ⟨j, e1, _, w1⟩ := DataW.trod_int Try.underlying3 h1
  simp at e0 e1
  subst e0 e1
  exact ⟨i, j, rfl, w0, w1⟩
end
theorem cells_spec : Try.prog.cellsOf 75 = 4 := by kernel_rfl
theorem cells_kind : Try.prog.cellsOf 72 = 1 := by kernel_rfl
theorem cells_access : Try.prog.cellsOf 73 = 1 := by kernel_rfl
theorem cells_i64 : Try.prog.cellsOf 2 = 1 := by kernel_rfl
theorem array4 {α : Type} {cs : Array α} (h : cs.size = 4) : ∃ c0 c1 c2 c3, cs = #[c0, c1, c2, c3] := by
  obtain ⟨l⟩ := cs
  match l, h with
  | [c0, c1, c2, c3], _ => exact ⟨c0, c1, c2, c3, rfl⟩
section
variable {H : Type} {enc : TypeId × Value → H} {w : World} {base : Nat} {spare : Nat → Bool} {held : Bool}
set_option maxRecDepth 100000 in
theorem open_spec {r : Reach} {b0 : Nat} {v : Value} {dd : DataW H} {p : List MemPlace} (hv : Value.okWide Try.prog w r b0 75 v) (h : DataW.Trod enc Try.prog w base spare held 75 v dd p) :
    ∃ k a lo hi : Int, v = .agg #[.int .i64 k, .int .i64 a, .int .i64 lo, .int .i64 hi] ∧ (Lit.int .i64 lo).wf = true ∧ (Lit.int .i64 hi).wf = true := by
  obtain ⟨cs, rfl, hsz⟩ := okWide_struct Try.underlying75 hv
  obtain ⟨c0, c1, c2, c3, rfl⟩ := array4 (hsz.trans cells_spec)
  obtain ⟨fuel, hf⟩ := h
  obtain ⟨y0, y1, y2, y3, m, _, _, h0, h1, h2, h3⟩ := trod_struct4 Try.underlying75 hf
  simp only [cells_kind, cells_access, cells_i64, Value.cells] at h0 h1 h2 h3
  obtain ⟨k, e0, _, w0⟩ := DataW.trod_int Try.underlying72 h0
  obtain ⟨a, e1, _, w1⟩ := DataW.trod_int Try.underlying73 h1
  obtain ⟨lo, e2, _, w2⟩ := DataW.trod_int Try.underlying2 h2
  obtain ⟨hi, e3, _, w3⟩ := DataW.trod_int Try.underlying2 h3
  simp at e0 e1 e2 e3
  subst e0 e1 e2 e3
  exact ⟨k, a, lo, hi, rfl, w2, w3⟩
end
end Go.Proofs.Ytgaoplbocjadaaa
