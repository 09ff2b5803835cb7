/- AreaLays: the walk. -/
import Derived.Test.YtchmildlkaikmaaArR
import Derived.Deep.CutBlock
import Derived.Lib.SmallJoins
import Derived.Deep.Slices
namespace Go.Proofs.Ytchmildlkaikmaa
open Go.RowKit
set_option linter.unusedSimpArgs false
set_option linter.unusedVariables false
/-- What stands beside the dictionaries. -/
structure LyX (w0 : World) (gk gs gr : Nat) (i j k ac lo hi : Int) (a : Option Addr) (n c : Nat) (x : World) : Prop where
  key : Key2 x gk i j
  spc : Spc x gs k ac lo hi
  box : RBox x gr a n c 0
  gt : gk < w0.heap.size ∧ gs < w0.heap.size ∧ w0.heap.size ≤ gr
  oth : Oth w0.heap.size w0 x
theorem addT_512 {i j k a lo hi : Int} {l : List Int} {T : List (Int × Ent)} (h : T.length ≤ 512) : (addT i j k a lo hi l T).length ≤ 512 := by
  unfold addT
  split
  · rename_i h0
    have hlt : ¬ 512 ≤ T.length := by
      intro h5
      unfold addE at h0
      split at h0
      · cases h0
      split at h0
      · cases h0
      split at h0
      · cases h0
      first
        | cases h0
        | (rw [if_pos h5] at h0; cases h0)
    have := putI_le (numI i j) ⟨k, a, lo, hi, firA k a lo hi l⟩ T
    omega
  · exact h
theorem end70 {e : Int} {U : List (Int × Ent)} {F Y : Int × List (Int × Ent)} (h : if e = 0 then F = Y else F = (e, U)) (hY : Y = (0, U)) : F = (e, U) := by
  split at h
  · rename_i h0
    rw [h0, h, hY]
  · exact h
section
variable {w0 x y : World} {gk gs gr : Nat} {i j k ac lo hi : Int} {a a' : Option Addr} {n c n' c' : Nat}
theorem LyX.step (h : LyX w0 gk gs gr i j k ac lo hi a n c x) (ho : Oth w0.heap.size x y) : LyX w0 gk gs gr i j k ac lo hi a n c y := ⟨ho.2 _ _ _ _ h.key not3_K, ho.2 _ _ _ _ h.spc not3_S, ho.2 _ _ _ _ h.box not3_D, h.gt, h.oth.trans ho⟩
theorem LyX.below (h : LyX w0 gk gs gr i j k ac lo hi a n c x) (hb : Below x.heap.size x y) : LyX w0 gk gs gr i j k ac lo hi a n c y := h.step (.of_below hb h.oth.1.size)
theorem LyX.put (h : LyX w0 gk gs gr i j k ac lo hi a n c x) : LyX w0 gk gs gr i j k ac lo hi a' n' c' ((x.setCell ⟨gr, 0, none⟩ (.slice a' n' c')).setCell ⟨gr, 1, none⟩ (.int .i64 0)) :=
  ⟨(heap_other _ _ _ _ (by have := h.gt; simp; omega)).trans ((heap_other _ _ _ _ (by have := h.gt; simp; omega)).trans h.key), (heap_other _ _ _ _ (by have := h.gt; simp; omega)).trans ((heap_other _ _ _ _ (by have := h.gt; simp; omega)).trans h.spc), h.box.two, h.gt, (h.oth.set h.gt.2.2 h.gt.2.2 0 _).set h.gt.2.2 h.gt.2.2 1 _⟩
theorem LyX.other {g : Nat} {u u' : Value} (h : LyX w0 gk gs gr i j k ac lo hi a n c x) (hg : w0.heap.size ≤ g) (hne : g ≠ gr) : LyX w0 gk gs gr i j k ac lo hi a n c ((x.setCell ⟨g, 0, none⟩ u).setCell ⟨g, 1, none⟩ u') :=
  ⟨(heap_other _ _ _ _ (by have := h.gt; simp; omega)).trans ((heap_other _ _ _ _ (by have := h.gt; simp; omega)).trans h.key), (heap_other _ _ _ _ (by have := h.gt; simp; omega)).trans ((heap_other _ _ _ _ (by have := h.gt; simp; omega)).trans h.spc), (heap_other _ _ _ _ (by simp; omega)).trans ((heap_other _ _ _ _ (by simp; omega)).trans h.box), h.gt, (h.oth.set hg hg 0 _).set hg hg 1 _⟩
theorem LyX.blt (h : LyX w0 gk gs gr i j k ac lo hi a n c x) : gr < x.heap.size := (Array.getElem?_eq_some_iff.1 h.box).1
theorem dict_put2 {B g gx : Nat} {T : List (Int × Ent)} {a : Option Addr} {n c : Nat} {ch : Int} (h : RBox x gx a n c ch) (hd : DictAt B g T 0 x) (a' : Option Addr) (n' c' : Nat) (v : Value) : DictAt B g T 0 ((x.setCell ⟨gx, 0, none⟩ (.slice a' n' c')).setCell ⟨gx, 1, none⟩ v) :=
  (hd.set h not3_D 0 _).set (h.sl (a' := a') (n' := n') (c' := c')) not3_D 1 v
theorem own_put2 {gx : Nat} {a : Option Addr} {n c : Nat} {ch : Int} {base r : Nat} {u : Value} {xs : List Value} (h : RBox x gx a n c ch) (ho : x.ownsRow base 39 7 u r xs) (v v' : Value) : ((x.setCell ⟨gx, 0, none⟩ v).setCell ⟨gx, 1, none⟩ v').ownsRow base 39 7 u r xs := by
  have h1 : u.ownBlock ≠ some gx := by
    intro e
    rcases ho.2 with ⟨e1, _⟩ | ⟨b', cap, cur, e1, _, hb', _⟩
    · rw [e1] at e; cases e
    · rw [e1] at e; cases e; rw [h] at hb'; cases hb'
  exact ownsRow_setCell_other (a := ⟨gx, 1, none⟩) (ownsRow_setCell_other (a := ⟨gx, 0, none⟩) ho h1 _) h1 _
theorem LyX.dict_put {g : Nat} {T : List (Int × Ent)} (h : LyX w0 gk gs gr i j k ac lo hi a n c x) (hd : DictAt w0.heap.size g T 0 x) (v : Value) : DictAt w0.heap.size g T 0 ((x.setCell ⟨gr, 0, none⟩ (.slice a' n' c')).setCell ⟨gr, 1, none⟩ v) :=
  (hd.set h.box not3_D 0 _).set (h.box.sl (a' := a') (n' := n') (c' := c')) not3_D 1 v
theorem LyX.own_put {base r : Nat} {u : Value} {xs : List Value} (h : LyX w0 gk gs gr i j k ac lo hi a n c x) (ho : x.ownsRow base 39 7 u r xs) (v v' : Value) : ((x.setCell ⟨gr, 0, none⟩ v).setCell ⟨gr, 1, none⟩ v').ownsRow base 39 7 u r xs := by
  have hne : ∀ y : World, y.ownsRow base 39 7 u r xs → (∃ cs, y.heap[gr]? = some (.cells cs 32 (0, 0))) → u.ownBlock ≠ some gr := by
    intro y ho ⟨cs, hc⟩ e
    rcases ho.2 with ⟨e1, _⟩ | ⟨b', cap, cur, e1, _, hb', _⟩
    · rw [e1] at e; cases e
    · rw [e1] at e; cases e; rw [hc] at hb'; cases hb'
  have h1 : u.ownBlock ≠ some gr := hne x ho ⟨_, h.box⟩
  exact ownsRow_setCell_other (a := ⟨gr, 1, none⟩) (ownsRow_setCell_other (a := ⟨gr, 0, none⟩) ho h1 _) h1 _
end
set_option maxRecDepth 100000 in
set_option maxHeartbeats 4000000 in
theorem lays_walk (w : World) (i j k ac lo hi : Int) :
    Calls Try.prog 3 #[.agg #[.int .i64 i, .int .i64 j], .agg #[.int .i64 k, .int .i64 ac, .int .i64 lo, .int .i64 hi]] w fun e w' => e = .returned (.bool true) ∧ Below w.heap.size w w' := by
  have hb0 : Below w.heap.size w ((w.alloc (.cells #[.int .i64 i, .int .i64 j] 23)).alloc (.cells #[.int .i64 k, .int .i64 ac, .int .i64 lo, .int .i64 hi] 27)) := ((Below.refl _ _).alloc (Nat.le_refl _) _).alloc (by simp) _
  have hk0 : Key2 ((w.alloc (.cells #[.int .i64 i, .int .i64 j] 23)).alloc (.cells #[.int .i64 k, .int .i64 ac, .int .i64 lo, .int .i64 hi] 27)) w.heap.size i j := heap_alloc2_old w _ _
  have hp0 : Spc ((w.alloc (.cells #[.int .i64 i, .int .i64 j] 23)).alloc (.cells #[.int .i64 k, .int .i64 ac, .int .i64 lo, .int .i64 hi] 27)) (w.heap.size + 1) k ac lo hi := heap_alloc2_new w _ _
  have hs0 : ((w.alloc (.cells #[.int .i64 i, .int .i64 j] 23)).alloc (.cells #[.int .i64 k, .int .i64 ac, .int .i64 lo, .int .i64 hi] 27)).heap.size = w.heap.size + 2 := by simp
  have HB0 := Lib.hid hb0
  have HK0 := Lib.hid hk0
  have HP0 := Lib.hid hp0
  have HS0 := Lib.hid hs0
  have hG1 : Good (addT i j k ac lo hi [] []) := addT_good ⟨rise_nil, by simp, by simp⟩
  have hra := fun (w : World) (base : Nat) (hbase : base ≤ w.heap.size) => dradd_tie (w := w) (base := base) (ch := 0) (a := none) (c := 0) (R := []) (T := []) i j k ac lo hi [] none 0 0 ⟨rfl, .inl ⟨rfl, rfl⟩⟩ hbase tieD_nil (by simp) (Byt.nil_ _ _)
  have hpa := fun (B g : Nat) (x : World) (hx : DictAt B g [] 0 x) => at_add i j k ac lo hi [] none 0 0 hx ⟨rise_nil, by simp, by simp⟩ (Byt.nil_ _ _)
  have hL1 : (addT i j k ac lo hi [] []).length ≤ 512 := addT_512 (by simp)
  generalize addE i j k ac lo hi [] [] = E1 at hra hpa
  generalize addT i j k ac lo hi [] [] = T1 at hra hpa hG1 hL1
  have HL1 := Lib.hid hL1
  have HRA := Lib.hid hra
  have HPA := Lib.hid hpa
  have HG1 := Lib.hid hG1
  clear hra hpa hG1 hb0 hk0 hp0 hs0 hL1
  go_enter Try.func3, Try.ntmps3
  go_wp2_with fail
  generalize ((w.alloc (.cells #[.int .i64 i, .int .i64 j] 23)).alloc (.cells #[.int .i64 k, .int .i64 ac, .int .i64 lo, .int .i64 hi] 27)) = w0 at *
  refine (dnew_any _).mono ?_
  rintro e w1 ⟨g, s, rfl, hd1, hg1, hs1, hb1⟩
  have HX1 : Hid (LyX w0 w.heap.size (w.heap.size + 1) w1.heap.size i j k ac lo hi none 0 0 (w1.alloc (.cells #[.slice none 0 0, .int .i64 0] 32))) := Lib.hid ⟨Key2.below (Key2.below HK0.out hb1) ((Below.refl _ _).alloc (Nat.le_refl _) _), Spc.below (Spc.below HP0.out hb1) ((Below.refl _ _).alloc (Nat.le_refl _) _), heap_alloc_new w1 _, ⟨by rw [HS0.out]; omega, by rw [HS0.out]; omega, hb1.size⟩, (Oth.of_below hb1 (Nat.le_refl _)).trans (Oth.of_below ((Below.refl _ _).alloc (Nat.le_refl _) _) hb1.size)⟩
  have HD1 : Hid (DictAt w0.heap.size g [] 0 (w1.alloc (.cells #[.slice none 0 0, .int .i64 0] 32))) := Lib.hid (DictAt.below ⟨s, _, hd1, hg1, hs1, hb1.size⟩ ((Below.refl _ _).alloc (Nat.le_refl _) _))
  clear hd1 hg1 hs1 hb1 HK0 HP0
  obtain ⟨k0, k1⟩ := HX1.out.key.cells
  obtain ⟨p0, p1, p2, p3⟩ := HX1.out.spc.cells
  obtain ⟨r0, r1⟩ := HX1.out.box.cells
  have f0 := frozen_of_row _ _ 0 _ _ HX1.out.box
  have f1 := frozen_of_row _ _ 1 _ _ HX1.out.box
  generalize hgr : w1.heap.size = gr at *
  go_wp2_with fail
  (try simp only [hgr])
  clear hgr
  generalize w1.alloc (.cells #[.slice none 0 0, .int .i64 0] 32) = w2 at *
  refine (HRA.out w2 w0.heap.size HX1.out.oth.1.size).mono ?_
  rintro e w3 ⟨R1, ⟨a1, c1, rfl, ho1, hb3⟩, ht1⟩
  have HX3 := Lib.hid (HX1.out.below hb3)
  have HD3 := Lib.hid (HD1.out.below hb3)
  have HO3 := Lib.hid ho1
  have HT1 := Lib.hid ht1
  clear hb3 ho1 ht1 HRA HX1 HD1 k0 k1 p0 p1 p2 p3 r0 r1 f0 f1
  obtain ⟨r0, r1⟩ := HX3.out.box.cells
  have f0 := frozen_of_row _ _ 0 _ _ HX3.out.box
  have f1 := frozen_of_row _ _ 1 _ _ HX3.out.box
  go_upto_region 4 with fail
  have HX4 := Lib.hid (HX3.out.put (a' := a1) (n' := R1.length) (c' := c1))
  have HD4 := Lib.hid (HX3.out.dict_put (a' := a1) (n' := R1.length) (c' := c1) HD3.out (.int .i64 0))
  have HO4 := Lib.hid (HX3.out.own_put HO3.out (.slice a1 R1.length c1) (.int .i64 0))
  clear r0 r1 f0 f1 HX3 HD3 HO3
  generalize (w3.setCell { block := gr, off := 0 } (Value.slice a1 R1.length c1)).setCell { block := gr, off := 1 } (Value.int IntKind.i64 0) = w4 at *
  obtain ⟨k0, k1⟩ := HX4.out.key.cells
  obtain ⟨p0, p1, p2, p3⟩ := HX4.out.spc.cells
  go_wp2_with fail
  refine (HPA.out w0.heap.size g w4 HD4.out).mono ?_
  rintro e w5 ⟨rfl, hd5, ho5⟩
  have HX5 := Lib.hid (HX4.out.step ho5)
  have HD5 := Lib.hid hd5
  have HO5 := Lib.hid (ho5.own HO4.out not3_R)
  clear hd5 ho5 HPA HX4 HD4 HO4 k0 k1 p0 p1 p2 p3
  go_wp2_with fail
  refine (rows15_any _).mono ?_
  rintro e w6 ⟨V, rfl, hrw, hb6⟩
  have HX6 := Lib.hid (HX5.out.below hb6)
  have HD6 := Lib.hid (HD5.out.below hb6)
  have HO6 := Lib.hid (own_below HO5.out hb6)
  have HRW := Lib.hid hrw
  unfold RwAt at hrw
  obtain ⟨gb, cap, cur, rfl, -, -, -, -, -⟩ := own_some hrw (by rw [rowsO_len]; omega)
  rw [rowsO_len] at HRW
  have HRW6 := Lib.hid (show w6.ownsRow w5.heap.size 39 7 (.slice (some ⟨gb, 0, none⟩) 70 cap) 70 (fr rowsO) from by have := HRW.out; unfold RwAt at this; rw [rowsO_len] at this; exact this)
  rw [rowsO_len]
  clear hrw hb6 HX5 HD5 HO5 HRW
  have HFD := Lib.hid (fun (q : Nat) (x : Int × Ent) (h : rowsO[q]? = some x) (T : List (Int × Ent)) => foldO_drop h T)
  have HEX := Lib.hid (fun (q : Nat) (hq : q < 70) => show ∃ x, rowsO[q]? = some x ∧ okR x = true from by
    have h2 : q < rowsO.length := by rw [rowsO_len]; exact hq
    exact ⟨rowsO[q], List.getElem?_eq_getElem h2, rowsO_ok _ (List.getElem_mem h2)⟩)
  have HEN := Lib.hid (fun (U : List (Int × Ent)) => show foldO (rowsO.drop 70) U = (0, U) from by rw [List.drop_of_length_le (by rw [rowsO_len]; omega)]; rfl)
  have HLY := Lib.hid (fun (U : List (Int × Ent)) => lay_rows U)
  have HF0 : Hid (foldO rowsO T1 = foldO (rowsO.drop 0) T1) := Lib.hid rfl
  generalize rowsO = RS at *
  generalize hF : foldO RS T1 = F at *
  have HFE := Lib.hid hF
  clear hF
  generalize w5.heap.size = b5 at *
  have tE : (E1 == E1) = true := by simp
  go_wp2_with fail
  go_loopw [9, 11] (fun t9 t11 wr => ∃ (q : Nat) (e : Int) (U R : List (Int × Ent)) (a : Option Addr) (c : Nat), q ≤ 70 ∧ t9 = .int .i64 e ∧ t11 = .int .i64 q ∧ Hid (if e = 0 then F = foldO (RS.drop q) U else F = (e, U)) ∧ Hid (LyX w0 w.heap.size (w.heap.size + 1) gr i j k ac lo hi a R.length c wr) ∧ Hid (DictAt w0.heap.size g T1 0 wr) ∧ Hid (wr.ownsRow w0.heap.size 39 7 (.slice a R.length c) R.length (fr R)) ∧ Hid (TieD U R ∧ U.length ≤ 512) ∧ Hid (wr.ownsRow b5 39 7 (.slice (some ⟨gb, 0, none⟩) 70 cap) 70 (fr RS))) (fun _ t _ => 70 - (intOf t).toNat)
  case atStart => exact ⟨0, 0, T1, R1, a1, c1, by omega, rfl, rfl, Lib.hid (by rw [if_pos rfl]; exact HF0.out), HX6, HD6, HO6, Lib.hid ⟨HT1.out, HL1.out⟩, HRW6⟩
  case round =>
    clear HX6 HD6 HO6 HT1 HRW6 HF0
    obtain ⟨q, e, U, R, a, c, hq, rfl, rfl, HF, HX, HD, HO, HT, HRW⟩ := hrel
    have HXB := HX
    by_cases hlt : q < 70
    · by_cases he : e = 0
      · subst he
        obtain ⟨x, hx, hxo⟩ := HEX.out q hlt
        have HFQ := Lib.hid (show F = if stE x U = 0 then foldO (RS.drop (q + 1)) (stT x U) else (stE x U, U) from by rw [← HFD.out q x hx U]; have := HF.out; rw [if_pos rfl] at this; exact this)
        have HSC := Lib.hid (fun (y : World) (hy : Below wr.heap.size wr y) => show y.cell? ⟨gr, 0, none⟩ = some (.slice a R.length c) ∧ y.cell? ⟨gr, 1, none⟩ = some (.int .i64 0) ∧ y.cell? ⟨gb, q * 7, none⟩ = some (.int .i64 (x.1 / 256)) ∧ y.cell? ⟨gb, q * 7 + 1, none⟩ = some (.int .i64 (x.1 % 256)) ∧ y.cell? ⟨gb, q * 7 + 2, none⟩ = some (.int .i64 x.2.k) ∧ y.cell? ⟨gb, q * 7 + 3, none⟩ = some (.int .i64 x.2.a) ∧ y.cell? ⟨gb, q * 7 + 4, none⟩ = some (.int .i64 x.2.lo) ∧ y.cell? ⟨gb, q * 7 + 5, none⟩ = some (.int .i64 x.2.hi) ∧ y.cell? ⟨gb, q * 7 + 6, none⟩ = some (.string (strOfNums x.2.b)) from by
          obtain ⟨d0, d1⟩ := (HX.out.below hy).box.cells
          obtain ⟨gr', e', -, -, -, q0, q1, q2, q3, q4, q5, q6⟩ := rowsR_at (own_below HRW.out hy) hx
          cases e'
          exact ⟨d0, d1, q0, q1, q2, q3, q4, q5, q6⟩)
        have hxb := of_decide_eq_true hxo
        have HTB := Lib.hid (fun (y : World) => to_bytes y x.2.b hxb.2.2 hxb.2.1)
        have HXL : Hid ((stT x U).length ≤ 512) := Lib.hid (addT_512 HT.out.2)
        have HCT := Lib.hid (fun (y : World) (hy : Below wr.heap.size wr y) (A : Option Addr) (n m : Nat) (hB : Byt y y.heap.size A n m x.2.b) => dradd_tie (w := y) (base := w0.heap.size) (ch := 0) (x.1 / 256) (x.1 % 256) x.2.k x.2.a x.2.lo x.2.hi x.2.b A n m (own_below HO.out hy) (Nat.le_trans HX.out.oth.1.size hy.size) HT.out.1 HT.out.2 hB)
        have HST : Hid (¬ stE x U = 0 → stT x U = U) := Lib.hid stT_bad
        have HSE : Hid (addE (x.1 / 256) (x.1 % 256) x.2.k x.2.a x.2.lo x.2.hi x.2.b U = stE x U ∧ addT (x.1 / 256) (x.1 % 256) x.2.k x.2.a x.2.lo x.2.hi x.2.b U = stT x U) := Lib.hid ⟨rfl, rfl⟩
        rw [HSE.out.1, HSE.out.2] at HCT
        clear hx hxo hxb HSE
        generalize stE x U = E at *
        generalize stT x U = U' at *
        generalize x.1 / 256 = xi at *
        generalize x.1 % 256 = xj at *
        obtain ⟨xq, xk, xa, xlo, xhi, M⟩ := x
        dsimp only at HSC HTB HXL HCT
        have hqI : (q : Int) < 70 := by omega
        go_wp2_with fail
        refine wp_region_last (fun y => Below wr.heap.size wr y) 23 (by kernel_rfl) (kD _) (fun hHeld => ?_)
        have HBv0 := Lib.hid (kD wr)
        generalize wr.drew = v0 at *
        refine wpAnyL_take (i := 0) (v := ?_) rfl (by kernel_rfl) (by kernel_rfl) (by kernel_rfl) (by kernel_rfl) (by kernel_rfl) (fun _ _ _ h => h) (Or.inl ⟨by rfl, ?_⟩) (by assumption) ?_
        rotate_left
        · intro wq hSw; (try dsimp only at hSw); (try obtain ⟨q0, q1, q2, q3, q4, q5, q6, q7, q8⟩ := HSC.out wq hSw); first | (go_simp; done) | (go_simp; with_reducible rfl) | with_reducible rfl
        go_simp
        refine wpAnyL_take (i := 1) (v := ?_) rfl (by kernel_rfl) (by kernel_rfl) (by kernel_rfl) (by kernel_rfl) (by kernel_rfl) (fun _ _ _ h => h) (Or.inl ⟨by rfl, ?_⟩) (by assumption) ?_
        rotate_left
        · intro wq hSw; (try dsimp only at hSw); (try obtain ⟨q0, q1, q2, q3, q4, q5, q6, q7, q8⟩ := HSC.out wq hSw); first | (go_simp; done) | (go_simp; with_reducible rfl) | with_reducible rfl
        go_simp
        refine wpAnyL_take (i := 2) (v := ?_) rfl (by kernel_rfl) (by kernel_rfl) (by kernel_rfl) (by kernel_rfl) (by kernel_rfl) (fun _ _ _ h => h) (Or.inl ⟨by rfl, ?_⟩) (by assumption) ?_
        rotate_left
        · intro wq hSw; (try dsimp only at hSw); (try obtain ⟨q0, q1, q2, q3, q4, q5, q6, q7, q8⟩ := HSC.out wq hSw); first | (go_simp; done) | (go_simp; with_reducible rfl) | with_reducible rfl
        go_simp
        refine wpAnyL_take (i := 3) (v := ?_) rfl (by kernel_rfl) (by kernel_rfl) (by kernel_rfl) (by kernel_rfl) (by kernel_rfl) (fun _ _ _ h => h) (Or.inl ⟨by rfl, ?_⟩) (by assumption) ?_
        rotate_left
        · intro wq hSw; (try dsimp only at hSw); (try obtain ⟨q0, q1, q2, q3, q4, q5, q6, q7, q8⟩ := HSC.out wq hSw); first | (go_simp; done) | (go_simp; with_reducible rfl) | with_reducible rfl
        go_simp
        refine wpAnyL_take (i := 4) (v := ?_) rfl (by kernel_rfl) (by kernel_rfl) (by kernel_rfl) (by kernel_rfl) (by kernel_rfl) (fun _ _ _ h => h) (Or.inl ⟨by rfl, ?_⟩) (by assumption) ?_
        rotate_left
        · intro wq hSw; (try dsimp only at hSw); (try obtain ⟨q0, q1, q2, q3, q4, q5, q6, q7, q8⟩ := HSC.out wq hSw); first | (go_simp; done) | (go_simp; with_reducible rfl) | with_reducible rfl
        go_simp
        refine wpAnyL_take (i := 5) (v := ?_) rfl (by kernel_rfl) (by kernel_rfl) (by kernel_rfl) (by kernel_rfl) (by kernel_rfl) (fun _ _ _ h => h) (Or.inl ⟨by rfl, ?_⟩) (by assumption) ?_
        rotate_left
        · intro wq hSw; (try dsimp only at hSw); (try obtain ⟨q0, q1, q2, q3, q4, q5, q6, q7, q8⟩ := HSC.out wq hSw); first | (go_simp; done) | (go_simp; with_reducible rfl) | with_reducible rfl
        go_simp
        refine wpAnyL_take (i := 6) (v := ?_) rfl (by kernel_rfl) (by kernel_rfl) (by kernel_rfl) (by kernel_rfl) (by kernel_rfl) (fun _ _ _ h => h) (Or.inl ⟨by rfl, ?_⟩) (by assumption) ?_
        rotate_left
        · intro wq hSw; (try dsimp only at hSw); (try obtain ⟨q0, q1, q2, q3, q4, q5, q6, q7, q8⟩ := HSC.out wq hSw); first | (go_simp; done) | (go_simp; with_reducible rfl) | with_reducible rfl
        go_simp
        refine wpAnyL_take (i := 7) (v := ?_) rfl (by kernel_rfl) (by kernel_rfl) (by kernel_rfl) (by kernel_rfl) (by kernel_rfl) (fun _ _ _ h => h) (Or.inl ⟨by rfl, ?_⟩) (by assumption) ?_
        rotate_left
        · intro wq hSw; (try dsimp only at hSw); (try obtain ⟨q0, q1, q2, q3, q4, q5, q6, q7, q8⟩ := HSC.out wq hSw); first | (go_simp; done) | (go_simp; with_reducible rfl) | with_reducible rfl
        go_simp
        refine wpAnyL_take (i := 8) (v := ?_) rfl (by kernel_rfl) (by kernel_rfl) (by kernel_rfl) (by kernel_rfl) (by kernel_rfl) (fun _ _ _ h => h) (Or.inl ⟨by rfl, ?_⟩) (by assumption) ?_
        rotate_left
        · intro wq hSw; (try dsimp only at hSw); (try obtain ⟨q0, q1, q2, q3, q4, q5, q6, q7, q8⟩ := HSC.out wq hSw); first | (go_simp; done) | (go_simp; with_reducible rfl) | with_reducible rfl
        go_simp
        refine wpAnyL_take (i := 9) (v := ?_) rfl (by kernel_rfl) (by kernel_rfl) (by kernel_rfl) (by kernel_rfl) (by kernel_rfl) (fun _ _ _ h => h) (Or.inl ⟨by rfl, ?_⟩) (by assumption) ?_
        rotate_left
        · intro wq hSw; (try dsimp only at hSw); (try obtain ⟨q0, q1, q2, q3, q4, q5, q6, q7, q8⟩ := HSC.out wq hSw); first | (go_simp; done) | (go_simp; with_reducible rfl) | with_reducible rfl
        go_simp
        refine wpAnyL_take (i := 10) (v := ?_) rfl (by kernel_rfl) (by kernel_rfl) (by kernel_rfl) (by kernel_rfl) (by kernel_rfl) (fun _ _ _ h => h) (Or.inl ⟨by rfl, ?_⟩) (by assumption) ?_
        rotate_left
        · intro wq hSw; (try dsimp only at hSw); (try obtain ⟨q0, q1, q2, q3, q4, q5, q6, q7, q8⟩ := HSC.out wq hSw); first | (go_simp; done) | (go_simp; with_reducible rfl) | with_reducible rfl
        go_simp
        refine wpAnyL_take (i := 11) (v := ?_) rfl (by kernel_rfl) (by kernel_rfl) (by kernel_rfl) (by kernel_rfl) (by kernel_rfl) (fun _ _ _ h => h) (Or.inl ⟨by rfl, ?_⟩) (by assumption) ?_
        rotate_left
        · intro wq hSw; (try dsimp only at hSw); (try obtain ⟨q0, q1, q2, q3, q4, q5, q6, q7, q8⟩ := HSC.out wq hSw); first | (go_simp; done) | (go_simp; with_reducible rfl) | with_reducible rfl
        go_simp
        refine wpAnyL_take (i := 12) (v := ?_) rfl (by kernel_rfl) (by kernel_rfl) (by kernel_rfl) (by kernel_rfl) (by kernel_rfl) (fun _ _ _ h => h) (Or.inl ⟨by rfl, ?_⟩) (by assumption) ?_
        rotate_left
        · intro wq hSw; (try dsimp only at hSw); (try obtain ⟨q0, q1, q2, q3, q4, q5, q6, q7, q8⟩ := HSC.out wq hSw); first | (go_simp; done) | (go_simp; with_reducible rfl) | with_reducible rfl
        go_simp
        refine wpAnyL_take (i := 13) (v := ?_) rfl (by kernel_rfl) (by kernel_rfl) (by kernel_rfl) (by kernel_rfl) (by kernel_rfl) (fun _ _ _ h => h) (Or.inl ⟨by rfl, ?_⟩) (by assumption) ?_
        rotate_left
        · intro wq hSw; (try dsimp only at hSw); (try obtain ⟨q0, q1, q2, q3, q4, q5, q6, q7, q8⟩ := HSC.out wq hSw); first | (go_simp; done) | (go_simp; with_reducible rfl) | with_reducible rfl
        go_simp
        refine wpAnyL_take (i := 14) (v := ?_) rfl (by kernel_rfl) (by kernel_rfl) (by kernel_rfl) (by kernel_rfl) (by kernel_rfl) (fun _ _ _ h => h) (Or.inl ⟨by rfl, ?_⟩) (by assumption) ?_
        rotate_left
        · intro wq hSw; (try dsimp only at hSw); (try obtain ⟨q0, q1, q2, q3, q4, q5, q6, q7, q8⟩ := HSC.out wq hSw); first | (go_simp; done) | (go_simp; with_reducible rfl) | with_reducible rfl
        go_simp
        refine wpAnyL_take (i := 15) (v := ?_) rfl (by kernel_rfl) (by kernel_rfl) (by kernel_rfl) (by kernel_rfl) (by kernel_rfl) (fun _ _ _ h => h) (Or.inl ⟨by rfl, ?_⟩) (by assumption) ?_
        rotate_left
        · intro wq hSw; (try dsimp only at hSw); (try obtain ⟨q0, q1, q2, q3, q4, q5, q6, q7, q8⟩ := HSC.out wq hSw); first | (go_simp; done) | (go_simp; with_reducible rfl) | with_reducible rfl
        go_simp
        refine wpAnyL_ready (rs := [16, 21]) (by kernel_rfl) (by simp) ?_
        refine (AllReadyL.cons rfl (fun K hK => ?_) (AllReadyL.cons rfl (fun K hK => ?_) AllReadyL.nil))
        · skip
          obtain ⟨cm, v1, hcv, hby, hbz⟩ := HTB.out v0
          go_simp
          have HBv1 := Lib.hid (kF hbz HBv0.out)
          have HY := Lib.hid hby
          clear hby hcv
          refine hK.out _ _ ?_ (fun hHeld => ?_)
          · (try dsimp only); exact HBv1.out
          clear hK K
          clear hbz
          generalize v0.heap.size = bc at *
          refine wpAnyL_ready (rs := [17, 21]) (by kernel_rfl) (by simp) ?_
          refine (AllReadyL.cons rfl (fun K hK => ?_) (AllReadyL.cons rfl (fun K hK => ?_) AllReadyL.nil))
          · skip
            go_simp
            go_wp2_with fail
            refine (HCT.out v1 HBv1.out _ _ _ HY.out).mono ?_
            rintro e v2 ⟨R', ⟨a', c', rfl, ho', hbz⟩, ht'⟩
            have HBv2 := Lib.hid (kF hbz HBv1.out)
            have HO' := Lib.hid ho'
            have HT' := Lib.hid ht'
            clear ho' ht' hbz HY
            refine hK.out _ _ ?_ (fun hHeld => ?_)
            · (try dsimp only); exact HBv2.out
            clear hK K
            refine wpAnyL_take (i := 18) (v := ?_) rfl (by kernel_rfl) (by kernel_rfl) (by kernel_rfl) (by kernel_rfl) (by kernel_rfl) (fun _ _ _ h => h) (Or.inl ⟨by rfl, ?_⟩) (by assumption) ?_
            rotate_left
            · intro wq hSw; (try dsimp only at hSw); (try obtain ⟨q0, q1, q2, q3, q4, q5, q6, q7, q8⟩ := HSC.out wq hSw); first | (go_simp; done) | (go_simp; with_reducible rfl) | with_reducible rfl
            go_simp
            refine wpAnyL_take (i := 19) (v := ?_) rfl (by kernel_rfl) (by kernel_rfl) (by kernel_rfl) (by kernel_rfl) (by kernel_rfl) (fun _ _ _ h => h) (Or.inl ⟨by rfl, ?_⟩) (by assumption) ?_
            rotate_left
            · intro wq hSw; (try dsimp only at hSw); (try obtain ⟨q0, q1, q2, q3, q4, q5, q6, q7, q8⟩ := HSC.out wq hSw); first | (go_simp; done) | (go_simp; with_reducible rfl) | with_reducible rfl
            go_simp
            refine wpAnyL_take (i := 20) (v := ?_) rfl (by kernel_rfl) (by kernel_rfl) (by kernel_rfl) (by kernel_rfl) (by kernel_rfl) (fun _ _ _ h => h) (Or.inl ⟨by rfl, ?_⟩) (by assumption) ?_
            rotate_left
            · intro wq hSw; (try dsimp only at hSw); (try obtain ⟨q0, q1, q2, q3, q4, q5, q6, q7, q8⟩ := HSC.out wq hSw); first | (go_simp; done) | (go_simp; with_reducible rfl) | with_reducible rfl
            go_simp
            refine wpAnyL_ready (rs := [21]) (by kernel_rfl) (by simp) ?_
            refine (AllReadyL.cons rfl (fun K hK => ?_) AllReadyL.nil)
            go_simp
            have hba : Below v2.heap.size v2 (v2.alloc (.cells #[.slice none 0 0, .int .i64 0] 32)) := (Below.refl _ _).alloc (Nat.le_refl _) _
            have HZX : Hid (RBox (v2.alloc (.cells #[.slice none 0 0, .int .i64 0] 32)) v2.heap.size none 0 0 0) := Lib.hid (heap_alloc_new v2 _)
            have HGX : Hid (wr.heap.size ≤ v2.heap.size) := Lib.hid HBv2.out.size
            have HBv3 := Lib.hid (kF hba HBv2.out)
            replace HO' := Lib.hid (own_below HO'.out hba)
            refine hK.out _ _ ?_ (fun hHeld => ?_)
            · (try dsimp only); exact HBv3.out
            clear hK K
            clear hba
            generalize v2.alloc (.cells #[.slice none 0 0, .int .i64 0] 32) = v3 at *
            generalize v2.heap.size = gx at *
            obtain ⟨z0, z1⟩ := HZX.out.cells
            have fz0 := frozen_of_row _ _ 0 _ _ HZX.out
            have fz1 := frozen_of_row _ _ 1 _ _ HZX.out
            have HXv3 := Lib.hid (HX.out.below HBv3.out)
            have HX9 := Lib.hid (HXv3.out.other (u := .slice a' R'.length c') (u' := .int .i64 0) (g := gx) (Nat.le_trans HX.out.oth.1.size HGX.out) (by have := HX.out.blt; have := HGX.out; omega))
            have HD9 := Lib.hid (dict_put2 HZX.out (HD.out.below HBv3.out) a' R'.length c' (.int .i64 0))
            have HO9 := Lib.hid (own_put2 HZX.out (own_below HO.out HBv3.out) (.slice a' R'.length c') (.int .i64 0))
            have HN9 := Lib.hid (own_put2 HZX.out HO'.out (.slice a' R'.length c') (.int .i64 0))
            have HRW9 := Lib.hid (own_put2 HZX.out (own_below HRW.out HBv3.out) (.slice a' R'.length c') (.int .i64 0))
            have HZ9 := Lib.hid (HZX.out.two (a' := a') (n' := R'.length) (c' := c') (ch' := 0))
            have HB9 : Hid (Below wr.heap.size wr ((v3.setCell ⟨gx, 0, none⟩ (.slice a' R'.length c')).setCell ⟨gx, 1, none⟩ (.int .i64 0))) := Lib.hid (Below.setCell (p := ⟨gx, 1, none⟩) (Below.setCell (p := ⟨gx, 0, none⟩) HBv3.out HGX.out _) HGX.out _)
            refine wpAnyL_ready (rs := [22]) (by kernel_rfl) (by simp) ?_
            refine (AllReadyL.cons rfl (fun K hK => ?_) AllReadyL.nil)
            go_simp
            refine hK.out _ _ ?_ (fun hHeld => ?_)
            · (try dsimp only); exact HB9.out
            clear hK K z0 z1 fz0 fz1 HXv3 HZX HO'
            generalize ((v3.setCell ⟨gx, 0, none⟩ (.slice a' R'.length c')).setCell ⟨gx, 1, none⟩ (.int .i64 0)) = v9 at *
            refine wpAnyL_ready (rs := [23]) (by kernel_rfl) (by simp) ?_
            refine AllReadyL.last rfl (fun K hK => ?_)
            go_simp
            refine hK.out _ _ ?_
            clear hK K
            refine wpAnyL_done (by kernel_rfl) ?_ _
            clear hHeld HX HD HO HRW HF HXB
            by_cases hE : E = 0
            · subst hE
              obtain ⟨z0, z1⟩ := HZ9.out.cells
              obtain ⟨r0, r1⟩ := HX9.out.box.cells
              have f0 := frozen_of_row _ _ 0 _ _ HX9.out.box
              have f1 := frozen_of_row _ _ 1 _ _ HX9.out.box
              have HXA := Lib.hid (HX9.out.put (a' := a') (n' := R'.length) (c' := c'))
              have HDA := Lib.hid (HX9.out.dict_put (a' := a') (n' := R'.length) (c' := c') HD9.out (.int .i64 0))
              have HNA := Lib.hid (HX9.out.own_put HN9.out (.slice a' R'.length c') (.int .i64 0))
              have HRA := Lib.hid (HX9.out.own_put HRW9.out (.slice a' R'.length c') (.int .i64 0))
              go_wp2_with fail
              exact ⟨⟨q + 1, 0, U', R', a', c', by omega, rfl, by go_num, Lib.hid (by rw [if_pos rfl]; have := HFQ.out; rwa [if_pos rfl] at this), HXA, HDA, HNA, Lib.hid ⟨HT'.out, HXL.out⟩, HRA⟩, by simp [intOf]; omega⟩
            · go_wp2_with fail
              exact ⟨⟨q + 1, E, U, R, a, c, by omega, rfl, by go_num, Lib.hid (by rw [if_neg hE]; have := HFQ.out; rwa [if_neg hE] at this), HX9, HD9, HO9, HT, HRW9⟩, by simp [intOf]; omega⟩
          · skip
            go_simp
            have hba : Below v1.heap.size v1 (v1.alloc (.cells #[.slice none 0 0, .int .i64 0] 32)) := (Below.refl _ _).alloc (Nat.le_refl _) _
            have HZX : Hid (RBox (v1.alloc (.cells #[.slice none 0 0, .int .i64 0] 32)) v1.heap.size none 0 0 0) := Lib.hid (heap_alloc_new v1 _)
            have HGX : Hid (wr.heap.size ≤ v1.heap.size) := Lib.hid HBv1.out.size
            have HBv2 := Lib.hid (kF hba HBv1.out)
            replace HY := Lib.hid ((HY.out.below hba).more hba.size)
            refine hK.out _ _ ?_ (fun hHeld => ?_)
            · (try dsimp only); exact HBv2.out
            clear hK K
            clear hba
            generalize v1.alloc (.cells #[.slice none 0 0, .int .i64 0] 32) = v2 at *
            generalize v1.heap.size = gx at *
            refine wpAnyL_ready (rs := [17]) (by kernel_rfl) (by simp) ?_
            refine (AllReadyL.cons rfl (fun K hK => ?_) AllReadyL.nil)
            go_simp
            go_wp2_with fail
            refine (HCT.out v2 HBv2.out _ _ _ HY.out).mono ?_
            rintro e v3 ⟨R', ⟨a', c', rfl, ho', hbz⟩, ht'⟩
            have HBv3 := Lib.hid (kF hbz HBv2.out)
            have HO' := Lib.hid ho'
            have HT' := Lib.hid ht'
            replace HZX := Lib.hid (HZX.out.below hbz)
            clear ho' ht' hbz HY
            refine hK.out _ _ ?_ (fun hHeld => ?_)
            · (try dsimp only); exact HBv3.out
            clear hK K
            refine wpAnyL_take (i := 18) (v := ?_) rfl (by kernel_rfl) (by kernel_rfl) (by kernel_rfl) (by kernel_rfl) (by kernel_rfl) (fun _ _ _ h => h) (Or.inl ⟨by rfl, ?_⟩) (by assumption) ?_
            rotate_left
            · intro wq hSw; (try dsimp only at hSw); (try obtain ⟨q0, q1, q2, q3, q4, q5, q6, q7, q8⟩ := HSC.out wq hSw); first | (go_simp; done) | (go_simp; with_reducible rfl) | with_reducible rfl
            go_simp
            refine wpAnyL_take (i := 19) (v := ?_) rfl (by kernel_rfl) (by kernel_rfl) (by kernel_rfl) (by kernel_rfl) (by kernel_rfl) (fun _ _ _ h => h) (Or.inl ⟨by rfl, ?_⟩) (by assumption) ?_
            rotate_left
            · intro wq hSw; (try dsimp only at hSw); (try obtain ⟨q0, q1, q2, q3, q4, q5, q6, q7, q8⟩ := HSC.out wq hSw); first | (go_simp; done) | (go_simp; with_reducible rfl) | with_reducible rfl
            go_simp
            refine wpAnyL_take (i := 20) (v := ?_) rfl (by kernel_rfl) (by kernel_rfl) (by kernel_rfl) (by kernel_rfl) (by kernel_rfl) (fun _ _ _ h => h) (Or.inl ⟨by rfl, ?_⟩) (by assumption) ?_
            rotate_left
            · intro wq hSw; (try dsimp only at hSw); (try obtain ⟨q0, q1, q2, q3, q4, q5, q6, q7, q8⟩ := HSC.out wq hSw); first | (go_simp; done) | (go_simp; with_reducible rfl) | with_reducible rfl
            go_simp
            obtain ⟨z0, z1⟩ := HZX.out.cells
            have fz0 := frozen_of_row _ _ 0 _ _ HZX.out
            have fz1 := frozen_of_row _ _ 1 _ _ HZX.out
            have HXv3 := Lib.hid (HX.out.below HBv3.out)
            have HX9 := Lib.hid (HXv3.out.other (u := .slice a' R'.length c') (u' := .int .i64 0) (g := gx) (Nat.le_trans HX.out.oth.1.size HGX.out) (by have := HX.out.blt; have := HGX.out; omega))
            have HD9 := Lib.hid (dict_put2 HZX.out (HD.out.below HBv3.out) a' R'.length c' (.int .i64 0))
            have HO9 := Lib.hid (own_put2 HZX.out (own_below HO.out HBv3.out) (.slice a' R'.length c') (.int .i64 0))
            have HN9 := Lib.hid (own_put2 HZX.out HO'.out (.slice a' R'.length c') (.int .i64 0))
            have HRW9 := Lib.hid (own_put2 HZX.out (own_below HRW.out HBv3.out) (.slice a' R'.length c') (.int .i64 0))
            have HZ9 := Lib.hid (HZX.out.two (a' := a') (n' := R'.length) (c' := c') (ch' := 0))
            have HB9 : Hid (Below wr.heap.size wr ((v3.setCell ⟨gx, 0, none⟩ (.slice a' R'.length c')).setCell ⟨gx, 1, none⟩ (.int .i64 0))) := Lib.hid (Below.setCell (p := ⟨gx, 1, none⟩) (Below.setCell (p := ⟨gx, 0, none⟩) HBv3.out HGX.out _) HGX.out _)
            refine wpAnyL_ready (rs := [22]) (by kernel_rfl) (by simp) ?_
            refine (AllReadyL.cons rfl (fun K hK => ?_) AllReadyL.nil)
            go_simp
            refine hK.out _ _ ?_ (fun hHeld => ?_)
            · (try dsimp only); exact HB9.out
            clear hK K z0 z1 fz0 fz1 HXv3 HZX HO'
            generalize ((v3.setCell ⟨gx, 0, none⟩ (.slice a' R'.length c')).setCell ⟨gx, 1, none⟩ (.int .i64 0)) = v9 at *
            refine wpAnyL_ready (rs := [23]) (by kernel_rfl) (by simp) ?_
            refine AllReadyL.last rfl (fun K hK => ?_)
            go_simp
            refine hK.out _ _ ?_
            clear hK K
            refine wpAnyL_done (by kernel_rfl) ?_ _
            clear hHeld HX HD HO HRW HF HXB
            by_cases hE : E = 0
            · subst hE
              obtain ⟨z0, z1⟩ := HZ9.out.cells
              obtain ⟨r0, r1⟩ := HX9.out.box.cells
              have f0 := frozen_of_row _ _ 0 _ _ HX9.out.box
              have f1 := frozen_of_row _ _ 1 _ _ HX9.out.box
              have HXA := Lib.hid (HX9.out.put (a' := a') (n' := R'.length) (c' := c'))
              have HDA := Lib.hid (HX9.out.dict_put (a' := a') (n' := R'.length) (c' := c') HD9.out (.int .i64 0))
              have HNA := Lib.hid (HX9.out.own_put HN9.out (.slice a' R'.length c') (.int .i64 0))
              have HRA := Lib.hid (HX9.out.own_put HRW9.out (.slice a' R'.length c') (.int .i64 0))
              go_wp2_with fail
              exact ⟨⟨q + 1, 0, U', R', a', c', by omega, rfl, by go_num, Lib.hid (by rw [if_pos rfl]; have := HFQ.out; rwa [if_pos rfl] at this), HXA, HDA, HNA, Lib.hid ⟨HT'.out, HXL.out⟩, HRA⟩, by simp [intOf]; omega⟩
            · go_wp2_with fail
              exact ⟨⟨q + 1, E, U, R, a, c, by omega, rfl, by go_num, Lib.hid (by rw [if_neg hE]; have := HFQ.out; rwa [if_neg hE] at this), HX9, HD9, HO9, HT, HRW9⟩, by simp [intOf]; omega⟩
        · skip
          go_simp
          have hba : Below v0.heap.size v0 (v0.alloc (.cells #[.slice none 0 0, .int .i64 0] 32)) := (Below.refl _ _).alloc (Nat.le_refl _) _
          have HZX : Hid (RBox (v0.alloc (.cells #[.slice none 0 0, .int .i64 0] 32)) v0.heap.size none 0 0 0) := Lib.hid (heap_alloc_new v0 _)
          have HGX : Hid (wr.heap.size ≤ v0.heap.size) := Lib.hid HBv0.out.size
          have HBv1 := Lib.hid (kF hba HBv0.out)
          refine hK.out _ _ ?_ (fun hHeld => ?_)
          · (try dsimp only); exact HBv1.out
          clear hK K
          clear hba
          generalize v0.alloc (.cells #[.slice none 0 0, .int .i64 0] 32) = v1 at *
          generalize v0.heap.size = gx at *
          refine wpAnyL_ready (rs := [16]) (by kernel_rfl) (by simp) ?_
          refine (AllReadyL.cons rfl (fun K hK => ?_) AllReadyL.nil)
          obtain ⟨cm, v2, hcv, hby, hbz⟩ := HTB.out v1
          go_simp
          have HBv2 := Lib.hid (kF hbz HBv1.out)
          have HY := Lib.hid hby
          replace HZX := Lib.hid (HZX.out.below hbz)
          clear hby hcv
          refine hK.out _ _ ?_ (fun hHeld => ?_)
          · (try dsimp only); exact HBv2.out
          clear hK K
          clear hbz
          generalize v1.heap.size = bc at *
          refine wpAnyL_ready (rs := [17]) (by kernel_rfl) (by simp) ?_
          refine (AllReadyL.cons rfl (fun K hK => ?_) AllReadyL.nil)
          go_simp
          go_wp2_with fail
          refine (HCT.out v2 HBv2.out _ _ _ HY.out).mono ?_
          rintro e v3 ⟨R', ⟨a', c', rfl, ho', hbz⟩, ht'⟩
          have HBv3 := Lib.hid (kF hbz HBv2.out)
          have HO' := Lib.hid ho'
          have HT' := Lib.hid ht'
          replace HZX := Lib.hid (HZX.out.below hbz)
          clear ho' ht' hbz HY
          refine hK.out _ _ ?_ (fun hHeld => ?_)
          · (try dsimp only); exact HBv3.out
          clear hK K
          refine wpAnyL_take (i := 18) (v := ?_) rfl (by kernel_rfl) (by kernel_rfl) (by kernel_rfl) (by kernel_rfl) (by kernel_rfl) (fun _ _ _ h => h) (Or.inl ⟨by rfl, ?_⟩) (by assumption) ?_
          rotate_left
          · intro wq hSw; (try dsimp only at hSw); (try obtain ⟨q0, q1, q2, q3, q4, q5, q6, q7, q8⟩ := HSC.out wq hSw); first | (go_simp; done) | (go_simp; with_reducible rfl) | with_reducible rfl
          go_simp
          refine wpAnyL_take (i := 19) (v := ?_) rfl (by kernel_rfl) (by kernel_rfl) (by kernel_rfl) (by kernel_rfl) (by kernel_rfl) (fun _ _ _ h => h) (Or.inl ⟨by rfl, ?_⟩) (by assumption) ?_
          rotate_left
          · intro wq hSw; (try dsimp only at hSw); (try obtain ⟨q0, q1, q2, q3, q4, q5, q6, q7, q8⟩ := HSC.out wq hSw); first | (go_simp; done) | (go_simp; with_reducible rfl) | with_reducible rfl
          go_simp
          refine wpAnyL_take (i := 20) (v := ?_) rfl (by kernel_rfl) (by kernel_rfl) (by kernel_rfl) (by kernel_rfl) (by kernel_rfl) (fun _ _ _ h => h) (Or.inl ⟨by rfl, ?_⟩) (by assumption) ?_
          rotate_left
          · intro wq hSw; (try dsimp only at hSw); (try obtain ⟨q0, q1, q2, q3, q4, q5, q6, q7, q8⟩ := HSC.out wq hSw); first | (go_simp; done) | (go_simp; with_reducible rfl) | with_reducible rfl
          go_simp
          obtain ⟨z0, z1⟩ := HZX.out.cells
          have fz0 := frozen_of_row _ _ 0 _ _ HZX.out
          have fz1 := frozen_of_row _ _ 1 _ _ HZX.out
          have HXv3 := Lib.hid (HX.out.below HBv3.out)
          have HX9 := Lib.hid (HXv3.out.other (u := .slice a' R'.length c') (u' := .int .i64 0) (g := gx) (Nat.le_trans HX.out.oth.1.size HGX.out) (by have := HX.out.blt; have := HGX.out; omega))
          have HD9 := Lib.hid (dict_put2 HZX.out (HD.out.below HBv3.out) a' R'.length c' (.int .i64 0))
          have HO9 := Lib.hid (own_put2 HZX.out (own_below HO.out HBv3.out) (.slice a' R'.length c') (.int .i64 0))
          have HN9 := Lib.hid (own_put2 HZX.out HO'.out (.slice a' R'.length c') (.int .i64 0))
          have HRW9 := Lib.hid (own_put2 HZX.out (own_below HRW.out HBv3.out) (.slice a' R'.length c') (.int .i64 0))
          have HZ9 := Lib.hid (HZX.out.two (a' := a') (n' := R'.length) (c' := c') (ch' := 0))
          have HB9 : Hid (Below wr.heap.size wr ((v3.setCell ⟨gx, 0, none⟩ (.slice a' R'.length c')).setCell ⟨gx, 1, none⟩ (.int .i64 0))) := Lib.hid (Below.setCell (p := ⟨gx, 1, none⟩) (Below.setCell (p := ⟨gx, 0, none⟩) HBv3.out HGX.out _) HGX.out _)
          refine wpAnyL_ready (rs := [22]) (by kernel_rfl) (by simp) ?_
          refine (AllReadyL.cons rfl (fun K hK => ?_) AllReadyL.nil)
          go_simp
          refine hK.out _ _ ?_ (fun hHeld => ?_)
          · (try dsimp only); exact HB9.out
          clear hK K z0 z1 fz0 fz1 HXv3 HZX HO'
          generalize ((v3.setCell ⟨gx, 0, none⟩ (.slice a' R'.length c')).setCell ⟨gx, 1, none⟩ (.int .i64 0)) = v9 at *
          refine wpAnyL_ready (rs := [23]) (by kernel_rfl) (by simp) ?_
          refine AllReadyL.last rfl (fun K hK => ?_)
          go_simp
          refine hK.out _ _ ?_
          clear hK K
          refine wpAnyL_done (by kernel_rfl) ?_ _
          clear hHeld HX HD HO HRW HF HXB
          by_cases hE : E = 0
          · subst hE
            obtain ⟨z0, z1⟩ := HZ9.out.cells
            obtain ⟨r0, r1⟩ := HX9.out.box.cells
            have f0 := frozen_of_row _ _ 0 _ _ HX9.out.box
            have f1 := frozen_of_row _ _ 1 _ _ HX9.out.box
            have HXA := Lib.hid (HX9.out.put (a' := a') (n' := R'.length) (c' := c'))
            have HDA := Lib.hid (HX9.out.dict_put (a' := a') (n' := R'.length) (c' := c') HD9.out (.int .i64 0))
            have HNA := Lib.hid (HX9.out.own_put HN9.out (.slice a' R'.length c') (.int .i64 0))
            have HRA := Lib.hid (HX9.out.own_put HRW9.out (.slice a' R'.length c') (.int .i64 0))
            go_wp2_with fail
            exact ⟨⟨q + 1, 0, U', R', a', c', by omega, rfl, by go_num, Lib.hid (by rw [if_pos rfl]; have := HFQ.out; rwa [if_pos rfl] at this), HXA, HDA, HNA, Lib.hid ⟨HT'.out, HXL.out⟩, HRA⟩, by simp [intOf]; omega⟩
          · go_wp2_with fail
            exact ⟨⟨q + 1, E, U, R, a, c, by omega, rfl, by go_num, Lib.hid (by rw [if_neg hE]; have := HFQ.out; rwa [if_neg hE] at this), HX9, HD9, HO9, HT, HRW9⟩, by simp [intOf]; omega⟩
      · skip
        have HEND : Hid (F = (e, U)) := Lib.hid (by have := HF.out; rwa [if_neg he] at this)
        have te : (e == e) = true := by simp
        go_wp2_with fail
        refine (live15_any _).mono ?_
        rintro e1 y1 ⟨rfl, hb1⟩
        have HX1 := Lib.hid (HX.out.below hb1)
        have HD1 := Lib.hid (HD.out.below hb1)
        have HO1 := Lib.hid (own_below HO.out hb1)
        clear hb1 HX HD HO HRW HF HXB
        obtain ⟨r0, r1⟩ := HX1.out.box.cells
        go_wp2_with fail
        have hlay := lay_any y1 w0.heap.size g T1 0 HD1.out HG1.out HX1.out.oth.1.size
        rw [HLY.out, HFE.out, HEND.out] at hlay
        refine hlay.mono ?_
        rintro e2 y2 ⟨rfl, hd2, ho2⟩
        have HX2 := Lib.hid (HX1.out.step ho2)
        have HD2 := Lib.hid hd2
        have HO2 := Lib.hid (ho2.own HO1.out not3_R)
        clear hd2 ho2 hlay HX1 HD1 HO1 r0 r1
        obtain ⟨r0, r1⟩ := HX2.out.box.cells
        go_wp2_with fail
        refine (same15_any _ w0.heap.size w0.heap.size g c U R 0 0 a HD2.out HT.out.1 HO2.out).mono ?_
        rintro e3 y3 ⟨rfl, hb3⟩
        have HX3 := Lib.hid (HX2.out.below hb3)
        clear hb3 HX2 HD2 HO2 r0 r1
        go_wp2_with fail
        refine (lay_nil _).mono ?_
        rintro e4 y4 ⟨rfl, hb4⟩
        have HX4 := Lib.hid (HX3.out.below hb4)
        clear hb4 HX3
        go_wp2_with fail
        go_ret
        exact ⟨rfl, kF HX4.out.oth.1 HB0.out⟩
    · skip
      have HEND : Hid (F = (e, U)) := Lib.hid (by exact end70 HF.out (by rw [show q = 70 by omega]; exact HEN.out U))
      have te : (e == e) = true := by simp
      go_wp2_with fail
      refine (live15_any _).mono ?_
      rintro e1 y1 ⟨rfl, hb1⟩
      have HX1 := Lib.hid (HX.out.below hb1)
      have HD1 := Lib.hid (HD.out.below hb1)
      have HO1 := Lib.hid (own_below HO.out hb1)
      clear hb1 HX HD HO HRW HF HXB
      obtain ⟨r0, r1⟩ := HX1.out.box.cells
      go_wp2_with fail
      have hlay := lay_any y1 w0.heap.size g T1 0 HD1.out HG1.out HX1.out.oth.1.size
      rw [HLY.out, HFE.out, HEND.out] at hlay
      refine hlay.mono ?_
      rintro e2 y2 ⟨rfl, hd2, ho2⟩
      have HX2 := Lib.hid (HX1.out.step ho2)
      have HD2 := Lib.hid hd2
      have HO2 := Lib.hid (ho2.own HO1.out not3_R)
      clear hd2 ho2 hlay HX1 HD1 HO1 r0 r1
      obtain ⟨r0, r1⟩ := HX2.out.box.cells
      go_wp2_with fail
      refine (same15_any _ w0.heap.size w0.heap.size g c U R 0 0 a HD2.out HT.out.1 HO2.out).mono ?_
      rintro e3 y3 ⟨rfl, hb3⟩
      have HX3 := Lib.hid (HX2.out.below hb3)
      clear hb3 HX2 HD2 HO2 r0 r1
      go_wp2_with fail
      refine (lay_nil _).mono ?_
      rintro e4 y4 ⟨rfl, hb4⟩
      have HX4 := Lib.hid (HX3.out.below hb4)
      clear hb4 HX3
      go_wp2_with fail
      go_ret
      exact ⟨rfl, kF HX4.out.oth.1 HB0.out⟩
end Go.Proofs.Ytchmildlkaikmaa
namespace Go.Proofs.Ytchmildlkaikmaa
open Go.RowKit Go.Joins Go.ChangeShapes Go.WideShapes Go.Deep
set_option linter.unusedSimpArgs false
set_option linter.unusedVariables false

theorem cells_keyD : Try.prog.cellsOf 23 = 2 := by kernel_rfl
theorem cells_intD : Try.prog.cellsOf 3 = 1 := by kernel_rfl
theorem array2D {α : Type} {cs : Array α} (h : cs.size = 2) : ∃ c0 c1, cs = #[c0, c1] := by
  obtain ⟨l⟩ := cs
  match l, h with
  | [c0, c1], _ => exact ⟨c0, c1, rfl⟩
section
variable {H : Type} {enc : TypeId × Value → H} {w : World} {base : Nat} {spare : Nat → Bool} {held : Bool}
set_option maxRecDepth 100000 in
theorem open_key {r : Reach} {b0 : Nat} {v : Value} {dd : DataW H} {p : List MemPlace} (hv : Value.okWide Try.prog w r b0 23 v) (h : DataW.Trod enc Try.prog w base spare held 23 v dd p) :
    ∃ i j : Int, v = .agg #[.int .i64 i, .int .i64 j] ∧ (Lit.int .i64 i).wf = true ∧ (Lit.int .i64 j).wf = true := by
  obtain ⟨cs, rfl, hsz⟩ := okWide_struct Try.underlying23 hv
  obtain ⟨c0, c1, rfl⟩ := array2D (hsz.trans cells_keyD)
  obtain ⟨fuel, hf⟩ := h
  obtain ⟨y0, y1, m, _, _, h0, h1⟩ := trod_struct2 Try.underlying23 hf
  simp only [cells_intD, Value.cells] at h0 h1
  obtain ⟨i, e0, _, w0⟩ := DataW.trod_int Try.underlying3 h0
  obtain ⟨j, e1, _, w1⟩ := DataW.trod_int Try.underlying3 h1
  simp at e0 e1
  subst e0 e1
  exact ⟨i, j, rfl, w0, w1⟩
end
theorem cells_spec : Try.prog.cellsOf 27 = 4 := by kernel_rfl
theorem cells_kind : Try.prog.cellsOf 24 = 1 := by kernel_rfl
theorem cells_access : Try.prog.cellsOf 25 = 1 := by kernel_rfl
theorem cells_i64 : Try.prog.cellsOf 2 = 1 := by kernel_rfl
theorem array4 {α : Type} {cs : Array α} (h : cs.size = 4) : ∃ c0 c1 c2 c3, cs = #[c0, c1, c2, c3] := by
  obtain ⟨l⟩ := cs
  match l, h with
  | [c0, c1, c2, c3], _ => exact ⟨c0, c1, c2, c3, rfl⟩
section
variable {H : Type} {enc : TypeId × Value → H} {w : World} {base : Nat} {spare : Nat → Bool} {held : Bool}
set_option maxRecDepth 100000 in
theorem open_spec {r : Reach} {b0 : Nat} {v : Value} {dd : DataW H} {p : List MemPlace} (hv : Value.okWide Try.prog w r b0 27 v) (h : DataW.Trod enc Try.prog w base spare held 27 v dd p) :
    ∃ k a lo hi : Int, v = .agg #[.int .i64 k, .int .i64 a, .int .i64 lo, .int .i64 hi] ∧ (Lit.int .i64 lo).wf = true ∧ (Lit.int .i64 hi).wf = true := by
  obtain ⟨cs, rfl, hsz⟩ := okWide_struct Try.underlying27 hv
  obtain ⟨c0, c1, c2, c3, rfl⟩ := array4 (hsz.trans cells_spec)
  obtain ⟨fuel, hf⟩ := h
  obtain ⟨y0, y1, y2, y3, m, _, _, h0, h1, h2, h3⟩ := trod_struct4 Try.underlying27 hf
  simp only [cells_kind, cells_access, cells_i64, Value.cells] at h0 h1 h2 h3
  obtain ⟨k, e0, _, w0⟩ := DataW.trod_int Try.underlying24 h0
  obtain ⟨a, e1, _, w1⟩ := DataW.trod_int Try.underlying25 h1
  obtain ⟨lo, e2, _, w2⟩ := DataW.trod_int Try.underlying2 h2
  obtain ⟨hi, e3, _, w3⟩ := DataW.trod_int Try.underlying2 h3
  simp at e0 e1 e2 e3
  subst e0 e1 e2 e3
  exact ⟨k, a, lo, hi, rfl, w2, w3⟩
end
end Go.Proofs.Ytchmildlkaikmaa
