/- Each entry holds what fits it: the statement's walk. -/
import Derived.Test.YtmfjndkopkjchaaDzp
import Derived.Test.YtmfjndkopkjchaaDt
import Derived.BigQuiet
namespace Go.Proofs.Ytmfjndkopkjchaa
open Go.RowKit
set_option linter.unusedSimpArgs false
set_option linter.unusedVariables false

theorem Dds.step {w w' : World} {A : Option Addr} {n c : Nat} {fs : Nat → DeedV} (h : Dds w w.heap.size A n c fs) (hb : Below w.heap.size w w') : Dds w' w'.heap.size A n c fs :=
  ⟨h.cap, h.max, fun hn => by
    obtain ⟨b, off, e, hlt, hc⟩ := (h.below hb).cells hn
    exact ⟨b, off, e, Nat.lt_of_lt_of_le hlt hb.size, fun i hi => { hc i hi with byt := (hc i hi).byt.more hb.size }⟩⟩
theorem writes_yes {a : Int} (h : writesI a = 0) : ¬ a = 1 ∧ ¬ a = 4 := by
  constructor <;> (rintro rfl; cases h)
set_option maxRecDepth 100000 in
set_option maxHeartbeats 8000000 in
theorem holds_walk (A0 : Option Addr) (n0 c0 : Nat) (fs : Nat → DeedV) (i j : Int) (A : Option Addr) (n m : Nat) (l : List Int) (w : World) (h : Dds w w.heap.size A0 n0 c0 fs) (hB : Byt w w.heap.size A n m l) :
    Calls Try.prog 5 #[.slice A0 n0 c0, .agg #[.int .i64 i, .int .i64 j], .slice A n m] w fun e w' => e = .returned (.bool true) ∧ Below w.heap.size w w' := by
  have hal : Below w.heap.size w (w.alloc (.cells #[.int .i64 i, .int .i64 j] 31)) := (Below.refl _ _).alloc (Nat.le_refl _) _
  have HK0 : Hid (Key2 (w.alloc (.cells #[.int .i64 i, .int .i64 j] 31)) w.heap.size i j) := Lib.hid (heap_alloc_new w _)
  have HDS := Lib.hid (h.step hal)
  have HBY := Lib.hid (hB.step hal)
  have hrg := hB.rng
  have HRG := Lib.hid hrg
  have HA0 := Lib.hid hal
  clear h hB hal hrg
  go_enter Try.func5, Try.ntmps5
  go_wp2_with fail
  generalize w.alloc (.cells #[.int .i64 i, .int .i64 j] 31) = w0 at *
  refine (played_any w0 A0 n0 c0 fs HDS.out).mono ?_
  rintro e w1 ⟨g, T, ch, a, c, R, rfl, hbo, hT, hc1, hc2, hb1⟩
  have HX2 : Hid (RBox (w1.alloc (.cells #[.slice a R.length c, .int .i64 ch] 27)) w1.heap.size a R.length c ch) := Lib.hid (heap_alloc_new w1 _)
  have hb2 : Below w1.heap.size w1 (w1.alloc (.cells #[.slice a R.length c, .int .i64 ch] 27)) := (Below.refl _ _).alloc (Nat.le_refl _) _
  have HBO2 := Lib.hid (hbo.below hb2)
  have HK2 := Lib.hid ((HK0.out.below hb1).below hb2)
  have HW2 := Lib.hid (kF hb2 (kF hb1 HA0.out))
  have HL2 := Lib.hid (hb1.trans (hb2.mono hb1.size))
  have hw0 := HA0.out.size
  clear hbo hb1 hb2 HK0 HDS HA0
  go_upto_region 2 with fail
  generalize (w1.alloc (.cells #[.slice a R.length c, .int .i64 ch] 27)) = w2 at *
  generalize w1.heap.size = G at *
  have HFK := Lib.hid (at_forkw HBO2.out.dict HBO2.out.tie.good ⟨hc1, by omega⟩)
  obtain ⟨k0, k1⟩ := HK2.out.cells
  go_wp2_with fail
  refine HFK.out.mono ?_
  rintro e w3 ⟨g', rfl, hb3, hwr⟩
  have HBO3 := Lib.hid (HBO2.out.below hb3)
  have HX3 := Lib.hid (HX2.out.below hb3)
  have HK3 := Lib.hid (HK2.out.below hb3)
  have HL3 := Lib.hid (HL2.out.trans (hb3.mono HL2.out.size))
  have HW3 := Lib.hid (kF hb3 HW2.out)
  have HCH := Lib.hid (at_chg HBO3.out.dict)
  have HWR := Lib.hid (hwr i j l A n m ((HBY.out.below HL3.out).more HL3.out.size))
  clear hb3 hwr HBO2 HX2 HK2 HL2 HW2 HFK k0 k1
  obtain ⟨k0, k1⟩ := HK3.out.cells
  go_wp2_with fail
  refine HCH.out.mono ?_
  rintro e w3' ⟨rfl, rfl⟩
  go_wp2_with fail
  refine HWR.out.mono ?_
  rintro e w4 ⟨rfl, hd4, hf4, ho4⟩
  have hO4 : w4.ownsRow w0.heap.size 57 7 (.slice a R.length c) R.length (fr R) := ho4.own HBO3.out.ref not3_R
  have hX4 : RBox w4 G a R.length c ch := ho4.2 _ _ _ _ HX3.out not3_D
  have hK4 : Key2 w4 w.heap.size i j := ho4.2 _ _ _ _ HK3.out not3_K
  have HW4 := Lib.hid (HW3.out.trans (ho4.1.mono hw0))
  have hL4 := HL3.out.trans ho4.1
  have hBY4 : Byt w4 w4.heap.size A n m l := (HBY.out.below hL4).more hL4.size
  have hGT := write_good (i := i) (j := j) (l := l) HBO3.out.tie HRG.out
  have hHO := fun x (hx : x ∈ R) => holds_pure (i := i) (j := j) (l := l) HBO3.out.tie hx HRG.out
  have hti := HBO3.out.tie
  have hchq : ¬ wE i j l T = 0 → newC (wE i j l T) i j l T ch = ch := fun h => if_neg h
  clear ho4 HBO3 HX3 HK3 HL3 HW3 HBY HWR HCH k0 k1 HRG
  generalize newC (wE i j l T) i j l T ch = ch' at hd4 hchq
  generalize newT (wE i j l T) i j l T = T' at hd4 hGT hHO
  generalize wE i j l T = q at hHO hchq ⊢
  have HR1 := Lib.hid (fun y (hy : Below w4.heap.size w4 y) x L (hx : x ∈ R) (hL : HoldsE q i j l T' x L) => at_rawl (x := x.1) (L := L) (hd4.below hy) hGT (hti.ok x hx).1 hL.1 (by rw [hL.2.1]))
  have HR2 := Lib.hid (fun y (hy : Below w4.heap.size w4 y) x (hx : x ∈ R) => at_rawl (x := x.1) (L := x.2.b) (hf4.below hy) hti.good (hti.ok x hx).1 ((hasI_iff hti.good.rise).2 ⟨x, (hti.mem x).2 hx, rfl⟩) (by rw [thI_of hti.good.rise ((hti.mem x).2 hx)]))
  have HC := Lib.hid (fun y (hy : Below w4.heap.size w4 y) p x (hx : R[p]? = some x) => rowsR_at (own_below hO4 hy) hx)
  have HFB := Lib.hid (fun y (hy : Below w4.heap.size w4 y) => show RBox y G a R.length c ch ∧ Key2 y w.heap.size i j ∧ Byt y y.heap.size A n m l from ⟨hX4.below hy, hK4.below hy, hBY4.step hy⟩)
  have HX := Lib.hid (fun p (hp : p < R.length) => show ∃ x, R[p]? = some x from ⟨_, List.getElem?_eq_getElem hp⟩)
  have HOK := Lib.hid (fun x (hx : x ∈ R) => (hti.ok x hx).1)
  have HHO := Lib.hid hHO
  have HCHG := Lib.hid (at_chg hd4)
  have hzn : R.length ≤ 1000 := by have := hti.len; omega
  clear hO4 hX4 hK4 hL4 hBY4 hGT hHO hti hd4 hf4
  generalize R.length = N at *
  by_cases hq0 : q = 0
  · subst hq0
    clear hchq HCHG
    go_upto_region 7 with fail
    go_loopg [13, 14, 15, 16, 17] N (fun k s13 s14 s15 s16 s17 wr => ∃ p : Nat, p + k = N ∧ s13 = .int .i64 p ∧ Hid (Below w4.heap.size w4 wr))
    case atStart => exact ⟨0, by omega, rfl, Lib.hid (Below.refl _ _)⟩
    case round =>
      obtain ⟨p, hj, rfl, HB⟩ := hrel
      by_cases hlt : p < N
      · obtain ⟨x, hx⟩ := HX.out p hlt
        obtain ⟨gr, rfl, hg, hnc, hm, -⟩ := HC.out wr HB.out p x hx
        simp only [maxLen] at hm
        have hpI : (p : Int) < (N : Int) := by omega
        have hxm := List.mem_of_getElem? hx
        have HCX := Lib.hid (fun y (hy : Below w4.heap.size w4 y) => show y.cell? ⟨gr, p * 7, none⟩ = some (.int .i64 (x.1 / 256)) ∧ y.cell? ⟨gr, p * 7 + 1, none⟩ = some (.int .i64 (x.1 % 256)) ∧ y.cell? ⟨gr, p * 7 + 2, none⟩ = some (.int .i64 x.2.k) ∧ y.cell? ⟨gr, p * 7 + 3, none⟩ = some (.int .i64 x.2.a) ∧ y.cell? ⟨gr, p * 7 + 4, none⟩ = some (.int .i64 x.2.lo) ∧ y.cell? ⟨gr, p * 7 + 5, none⟩ = some (.int .i64 x.2.hi) ∧ y.cell? ⟨gr, p * 7 + 6, none⟩ = some (.string (strOfNums x.2.b)) from by obtain ⟨g1, e1, _, _, _, hk⟩ := HC.out y hy p x hx; cases e1; exact hk)
        obtain ⟨L, hL⟩ := HHO.out x hxm
        have HRA := Lib.hid (fun y (hy : Below w4.heap.size w4 y) => HR1.out y hy x L hxm hL)
        have HRB := Lib.hid (fun y (hy : Below w4.heap.size w4 y) => HR2.out y hy x hxm)
        have HFZ := Lib.hid hL.2.2.1
        have hLn := hL.2.2.2.2.2.1
        have hLy := hL.2.2.2.2.2.2
        clear hL hxm hx hg
        obtain ⟨M, hM⟩ : ∃ M, x.2.b = M := ⟨_, rfl⟩
        rw [hM] at HRB hLn
        clear hM
        generalize x.1 / 256 = xi at *
        generalize x.1 % 256 = xj at *
        have he : ((strOfNums L).toList == (strOfNums L).toList) = true := by simp
        by_cases hki : xi = i ∧ xj = j
        · obtain ⟨rfl, hwx⟩ := hLy ⟨rfl, hki⟩
          obtain ⟨rfl, rfl⟩ := hki
          obtain ⟨ha1, ha4⟩ := writes_yes hwx
          clear hLn hLy hwx
          obtain ⟨hx_, hk_, hb_⟩ := HFB.out wr HB.out
          obtain ⟨d0, d1⟩ := hx_.cells
          obtain ⟨q0, q1⟩ := hk_.cells
          obtain ⟨k0, k1, k2, k3, k4, k5, k6⟩ := HCX.out wr HB.out
          clear hx_ hk_ hb_
          go_wp2_with fail
          refine (HRA.out wr HB.out).mono ?_
          rintro e w5 ⟨A1, n1, c1, rfl, hy1, hb5⟩
          have HB5 := Lib.hid (kF hb5 HB.out)
          have HY1 := Lib.hid hy1
          clear hy1 hb5 HB d0 d1 q0 q1 k0 k1 k2 k3 k4 k5 k6
          obtain ⟨hx_, hk_, hb_⟩ := HFB.out w5 HB5.out
          obtain ⟨d0, d1⟩ := hx_.cells
          obtain ⟨q0, q1⟩ := hk_.cells
          obtain ⟨k0, k1, k2, k3, k4, k5, k6⟩ := HCX.out w5 HB5.out
          clear hx_ hk_ hb_
          go_wp2_with fail
          refine (HRB.out w5 HB5.out).mono ?_
          rintro e w6 ⟨A2, n2, c2, rfl, hy2, hb6⟩
          have HB6 := Lib.hid (kF hb6 HB5.out)
          have HY1' := Lib.hid (HY1.out.step hb6)
          have HY2 := Lib.hid hy2
          have HFT := Lib.hid (rfits_any x.2.k x.2.a x.2.lo x.2.hi w6 A1 n1 c1 L HY1'.out)
          clear hy2 hb6 HB5 HY1 d0 d1 q0 q1 k0 k1 k2 k3 k4 k5 k6
          obtain ⟨hx_, hk_, hb_⟩ := HFB.out w6 HB6.out
          obtain ⟨d0, d1⟩ := hx_.cells
          obtain ⟨q0, q1⟩ := hk_.cells
          obtain ⟨k0, k1, k2, k3, k4, k5, k6⟩ := HCX.out w6 HB6.out
          clear hx_ hk_ hb_
          go_wp2_with fail
          refine HFT.out.mono ?_
          rintro e w7 ⟨rfl, hb7⟩
          rw [HFZ.out]
          have HB7 := Lib.hid (kF hb7 HB6.out)
          have HY17 := Lib.hid (HY1'.out.step hb7)
          have HY27 := Lib.hid (HY2.out.step hb7)
          clear hb7 HB6 HY1' HY2 HFT d0 d1 q0 q1 k0 k1 k2 k3 k4 k5 k6
          obtain ⟨hx_, hk_, hb_⟩ := HFB.out w7 HB7.out
          obtain ⟨d0, d1⟩ := hx_.cells
          obtain ⟨q0, q1⟩ := hk_.cells
          obtain ⟨k0, k1, k2, k3, k4, k5, k6⟩ := HCX.out w7 HB7.out
          clear hx_ hk_ hb_
          have hcv1 : ∀ kk, (convert 36 9 (.slice A1 n1 c1)).run Try.prog (w7.drewN kk) = .ok (.string (strOfNums L)) (w7.drewN kk) := fun kk => conv_any (HY17.out.step (below_drewN (Below.refl _ _) kk))
          have hcv2 : ∀ kk, (convert 36 9 (.slice A2 n2 c2)).run Try.prog (w7.drewN kk) = .ok (.string (strOfNums M)) (w7.drewN kk) := fun kk => conv_any (HY27.out.step (below_drewN (Below.refl _ _) kk))
          go_wp2_with fail
          go_quiet (fail)
          have HB8 := Lib.hid (below_drewN HB7.out nq)
          have HY18 := Lib.hid (HY17.out.step (below_drewN (Below.refl _ _) nq))
          clear HB7 HY17 HY27 hcv1 hcv2 d0 d1 q0 q1 k0 k1 k2 k3 k4 k5 k6
          generalize w7.drewN nq = w8 at *
          obtain ⟨hx_, hk_, hb_⟩ := HFB.out w8 HB8.out
          obtain ⟨d0, d1⟩ := hx_.cells
          obtain ⟨q0, q1⟩ := hk_.cells
          obtain ⟨k0, k1, k2, k3, k4, k5, k6⟩ := HCX.out w8 HB8.out
          clear hx_ hk_ hb_
          have hcv3 : ∀ kk, (convert 36 9 (.slice A1 n1 c1)).run Try.prog (w8.drewN kk) = .ok (.string (strOfNums L)) (w8.drewN kk) := fun kk => conv_any (HY18.out.step (below_drewN (Below.refl _ _) kk))
          have hcv4 : ∀ kk, (convert 36 9 (.slice A n m)).run Try.prog (w8.drewN kk) = .ok (.string (strOfNums L)) (w8.drewN kk) := fun kk => conv_any (HFB.out _ (below_drewN HB8.out kk)).2.2
          go_wp2_with fail
          rename_i nq0
          go_quiet (fail)
          go_wp2_with fail
          go_roundg (gk - 1)
          case measure => omega
          case rel => exact ⟨p + 1, by omega, by go_num, Lib.hid (below_drewN HB8.out nq)⟩
        · obtain rfl := hLn (fun h => hki h.2)
          have hk2 : ¬ (xi = i) ∨ (xi = i ∧ ¬ xj = j) := by omega
          clear hLn hLy hki
          rcases hk2 with e1 | ⟨rfl, e2⟩
          · obtain ⟨hx_, hk_, hb_⟩ := HFB.out wr HB.out
            obtain ⟨d0, d1⟩ := hx_.cells
            obtain ⟨q0, q1⟩ := hk_.cells
            obtain ⟨k0, k1, k2, k3, k4, k5, k6⟩ := HCX.out wr HB.out
            clear hx_ hk_ hb_
            go_wp2_with fail
            refine (HRA.out wr HB.out).mono ?_
            rintro e w5 ⟨A1, n1, c1, rfl, hy1, hb5⟩
            have HB5 := Lib.hid (kF hb5 HB.out)
            have HY1 := Lib.hid hy1
            clear hy1 hb5 HB d0 d1 q0 q1 k0 k1 k2 k3 k4 k5 k6
            obtain ⟨hx_, hk_, hb_⟩ := HFB.out w5 HB5.out
            obtain ⟨d0, d1⟩ := hx_.cells
            obtain ⟨q0, q1⟩ := hk_.cells
            obtain ⟨k0, k1, k2, k3, k4, k5, k6⟩ := HCX.out w5 HB5.out
            clear hx_ hk_ hb_
            go_wp2_with fail
            refine (HRB.out w5 HB5.out).mono ?_
            rintro e w6 ⟨A2, n2, c2, rfl, hy2, hb6⟩
            have HB6 := Lib.hid (kF hb6 HB5.out)
            have HY1' := Lib.hid (HY1.out.step hb6)
            have HY2 := Lib.hid hy2
            have HFT := Lib.hid (rfits_any x.2.k x.2.a x.2.lo x.2.hi w6 A1 n1 c1 L HY1'.out)
            clear hy2 hb6 HB5 HY1 d0 d1 q0 q1 k0 k1 k2 k3 k4 k5 k6
            obtain ⟨hx_, hk_, hb_⟩ := HFB.out w6 HB6.out
            obtain ⟨d0, d1⟩ := hx_.cells
            obtain ⟨q0, q1⟩ := hk_.cells
            obtain ⟨k0, k1, k2, k3, k4, k5, k6⟩ := HCX.out w6 HB6.out
            clear hx_ hk_ hb_
            go_wp2_with fail
            refine HFT.out.mono ?_
            rintro e w7 ⟨rfl, hb7⟩
            rw [HFZ.out]
            have HB7 := Lib.hid (kF hb7 HB6.out)
            have HY17 := Lib.hid (HY1'.out.step hb7)
            have HY27 := Lib.hid (HY2.out.step hb7)
            clear hb7 HB6 HY1' HY2 HFT d0 d1 q0 q1 k0 k1 k2 k3 k4 k5 k6
            obtain ⟨hx_, hk_, hb_⟩ := HFB.out w7 HB7.out
            obtain ⟨d0, d1⟩ := hx_.cells
            obtain ⟨q0, q1⟩ := hk_.cells
            obtain ⟨k0, k1, k2, k3, k4, k5, k6⟩ := HCX.out w7 HB7.out
            clear hx_ hk_ hb_
            have hcv1 : ∀ kk, (convert 36 9 (.slice A1 n1 c1)).run Try.prog (w7.drewN kk) = .ok (.string (strOfNums L)) (w7.drewN kk) := fun kk => conv_any (HY17.out.step (below_drewN (Below.refl _ _) kk))
            have hcv2 : ∀ kk, (convert 36 9 (.slice A2 n2 c2)).run Try.prog (w7.drewN kk) = .ok (.string (strOfNums L)) (w7.drewN kk) := fun kk => conv_any (HY27.out.step (below_drewN (Below.refl _ _) kk))
            go_wp2_with fail
            go_quiet (fail)
            have HB8 := Lib.hid (below_drewN HB7.out nq)
            have HY18 := Lib.hid (HY17.out.step (below_drewN (Below.refl _ _) nq))
            clear HB7 HY17 HY27 hcv1 hcv2 d0 d1 q0 q1 k0 k1 k2 k3 k4 k5 k6
            generalize w7.drewN nq = w8 at *
            obtain ⟨hx_, hk_, hb_⟩ := HFB.out w8 HB8.out
            obtain ⟨d0, d1⟩ := hx_.cells
            obtain ⟨q0, q1⟩ := hk_.cells
            obtain ⟨k0, k1, k2, k3, k4, k5, k6⟩ := HCX.out w8 HB8.out
            clear hx_ hk_ hb_
            have hcv3 : ∀ kk, (convert 36 9 (.slice A1 n1 c1)).run Try.prog (w8.drewN kk) = .ok (.string (strOfNums L)) (w8.drewN kk) := fun kk => conv_any (HY18.out.step (below_drewN (Below.refl _ _) kk))
            have hcv4 : ∀ kk, (convert 36 9 (.slice A n m)).run Try.prog (w8.drewN kk) = .ok (.string (strOfNums l)) (w8.drewN kk) := fun kk => conv_any (HFB.out _ (below_drewN HB8.out kk)).2.2
            go_wp2_with fail
            rename_i nq0
            go_quiet (fail)
            go_wp2_with fail
            go_roundg (gk - 1)
            case measure => omega
            case rel => exact ⟨p + 1, by omega, by go_num, Lib.hid (below_drewN HB8.out nq)⟩
          · obtain ⟨hx_, hk_, hb_⟩ := HFB.out wr HB.out
            obtain ⟨d0, d1⟩ := hx_.cells
            obtain ⟨q0, q1⟩ := hk_.cells
            obtain ⟨k0, k1, k2, k3, k4, k5, k6⟩ := HCX.out wr HB.out
            clear hx_ hk_ hb_
            go_wp2_with fail
            refine (HRA.out wr HB.out).mono ?_
            rintro e w5 ⟨A1, n1, c1, rfl, hy1, hb5⟩
            have HB5 := Lib.hid (kF hb5 HB.out)
            have HY1 := Lib.hid hy1
            clear hy1 hb5 HB d0 d1 q0 q1 k0 k1 k2 k3 k4 k5 k6
            obtain ⟨hx_, hk_, hb_⟩ := HFB.out w5 HB5.out
            obtain ⟨d0, d1⟩ := hx_.cells
            obtain ⟨q0, q1⟩ := hk_.cells
            obtain ⟨k0, k1, k2, k3, k4, k5, k6⟩ := HCX.out w5 HB5.out
            clear hx_ hk_ hb_
            go_wp2_with fail
            refine (HRB.out w5 HB5.out).mono ?_
            rintro e w6 ⟨A2, n2, c2, rfl, hy2, hb6⟩
            have HB6 := Lib.hid (kF hb6 HB5.out)
            have HY1' := Lib.hid (HY1.out.step hb6)
            have HY2 := Lib.hid hy2
            have HFT := Lib.hid (rfits_any x.2.k x.2.a x.2.lo x.2.hi w6 A1 n1 c1 L HY1'.out)
            clear hy2 hb6 HB5 HY1 d0 d1 q0 q1 k0 k1 k2 k3 k4 k5 k6
            obtain ⟨hx_, hk_, hb_⟩ := HFB.out w6 HB6.out
            obtain ⟨d0, d1⟩ := hx_.cells
            obtain ⟨q0, q1⟩ := hk_.cells
            obtain ⟨k0, k1, k2, k3, k4, k5, k6⟩ := HCX.out w6 HB6.out
            clear hx_ hk_ hb_
            go_wp2_with fail
            refine HFT.out.mono ?_
            rintro e w7 ⟨rfl, hb7⟩
            rw [HFZ.out]
            have HB7 := Lib.hid (kF hb7 HB6.out)
            have HY17 := Lib.hid (HY1'.out.step hb7)
            have HY27 := Lib.hid (HY2.out.step hb7)
            clear hb7 HB6 HY1' HY2 HFT d0 d1 q0 q1 k0 k1 k2 k3 k4 k5 k6
            obtain ⟨hx_, hk_, hb_⟩ := HFB.out w7 HB7.out
            obtain ⟨d0, d1⟩ := hx_.cells
            obtain ⟨q0, q1⟩ := hk_.cells
            obtain ⟨k0, k1, k2, k3, k4, k5, k6⟩ := HCX.out w7 HB7.out
            clear hx_ hk_ hb_
            have hcv1 : ∀ kk, (convert 36 9 (.slice A1 n1 c1)).run Try.prog (w7.drewN kk) = .ok (.string (strOfNums L)) (w7.drewN kk) := fun kk => conv_any (HY17.out.step (below_drewN (Below.refl _ _) kk))
            have hcv2 : ∀ kk, (convert 36 9 (.slice A2 n2 c2)).run Try.prog (w7.drewN kk) = .ok (.string (strOfNums L)) (w7.drewN kk) := fun kk => conv_any (HY27.out.step (below_drewN (Below.refl _ _) kk))
            go_wp2_with fail
            go_quiet (fail)
            have HB8 := Lib.hid (below_drewN HB7.out nq)
            have HY18 := Lib.hid (HY17.out.step (below_drewN (Below.refl _ _) nq))
            clear HB7 HY17 HY27 hcv1 hcv2 d0 d1 q0 q1 k0 k1 k2 k3 k4 k5 k6
            generalize w7.drewN nq = w8 at *
            obtain ⟨hx_, hk_, hb_⟩ := HFB.out w8 HB8.out
            obtain ⟨d0, d1⟩ := hx_.cells
            obtain ⟨q0, q1⟩ := hk_.cells
            obtain ⟨k0, k1, k2, k3, k4, k5, k6⟩ := HCX.out w8 HB8.out
            clear hx_ hk_ hb_
            have hcv3 : ∀ kk, (convert 36 9 (.slice A1 n1 c1)).run Try.prog (w8.drewN kk) = .ok (.string (strOfNums L)) (w8.drewN kk) := fun kk => conv_any (HY18.out.step (below_drewN (Below.refl _ _) kk))
            have hcv4 : ∀ kk, (convert 36 9 (.slice A n m)).run Try.prog (w8.drewN kk) = .ok (.string (strOfNums l)) (w8.drewN kk) := fun kk => conv_any (HFB.out _ (below_drewN HB8.out kk)).2.2
            go_wp2_with fail
            rename_i nq0
            go_quiet (fail)
            go_wp2_with fail
            go_roundg (gk - 1)
            case measure => omega
            case rel => exact ⟨p + 1, by omega, by go_num, Lib.hid (below_drewN HB8.out nq)⟩
      · obtain rfl : p = N := by omega
        obtain ⟨d0, d1⟩ := (HFB.out wr HB.out).1.cells
        go_wp2_with fail
        refine (live14_any _).mono ?_
        rintro e w9 ⟨rfl, hb9⟩
        go_wp2_with fail
        go_ret
        exact ⟨rfl, kF (kF hb9 HB.out) HW4.out⟩
  · have tq : (q != 0) = true := by simp [hq0]
    have tq2 : (q == 0) = false := by simp [hq0]
    obtain rfl := hchq hq0
    have tch : (ch' != ch') = false := by simp
    go_wp2_with fail
    refine HCHG.out.mono ?_
    rintro e w5 ⟨rfl, hw5⟩
    subst w5
    clear HCHG
    go_upto_region 7 with fail
    go_loopg [13, 14, 15, 16, 17] N (fun k s13 s14 s15 s16 s17 wr => ∃ p : Nat, p + k = N ∧ s13 = .int .i64 p ∧ Hid (Below w4.heap.size w4 wr))
    case atStart => exact ⟨0, by omega, rfl, Lib.hid (Below.refl _ _)⟩
    case round =>
      obtain ⟨p, hj, rfl, HB⟩ := hrel
      by_cases hlt : p < N
      · obtain ⟨x, hx⟩ := HX.out p hlt
        obtain ⟨gr, rfl, hg, hnc, hm, -⟩ := HC.out wr HB.out p x hx
        simp only [maxLen] at hm
        have hpI : (p : Int) < (N : Int) := by omega
        have hxm := List.mem_of_getElem? hx
        have HCX := Lib.hid (fun y (hy : Below w4.heap.size w4 y) => show y.cell? ⟨gr, p * 7, none⟩ = some (.int .i64 (x.1 / 256)) ∧ y.cell? ⟨gr, p * 7 + 1, none⟩ = some (.int .i64 (x.1 % 256)) ∧ y.cell? ⟨gr, p * 7 + 2, none⟩ = some (.int .i64 x.2.k) ∧ y.cell? ⟨gr, p * 7 + 3, none⟩ = some (.int .i64 x.2.a) ∧ y.cell? ⟨gr, p * 7 + 4, none⟩ = some (.int .i64 x.2.lo) ∧ y.cell? ⟨gr, p * 7 + 5, none⟩ = some (.int .i64 x.2.hi) ∧ y.cell? ⟨gr, p * 7 + 6, none⟩ = some (.string (strOfNums x.2.b)) from by obtain ⟨g1, e1, _, _, _, hk⟩ := HC.out y hy p x hx; cases e1; exact hk)
        obtain ⟨L, hL⟩ := HHO.out x hxm
        have HRA := Lib.hid (fun y (hy : Below w4.heap.size w4 y) => HR1.out y hy x L hxm hL)
        have HRB := Lib.hid (fun y (hy : Below w4.heap.size w4 y) => HR2.out y hy x hxm)
        have HFZ := Lib.hid hL.2.2.1
        have hLn := hL.2.2.2.2.2.1
        have hLy := hL.2.2.2.2.2.2
        clear hL hxm hx hg
        obtain ⟨M, hM⟩ : ∃ M, x.2.b = M := ⟨_, rfl⟩
        rw [hM] at HRB hLn
        clear hM
        generalize x.1 / 256 = xi at *
        generalize x.1 % 256 = xj at *
        have he : ((strOfNums L).toList == (strOfNums L).toList) = true := by simp
        obtain rfl := hLn (fun h => hq0 h.1)
        clear hLn hLy
        obtain ⟨hx_, hk_, hb_⟩ := HFB.out wr HB.out
        obtain ⟨d0, d1⟩ := hx_.cells
        obtain ⟨q0, q1⟩ := hk_.cells
        obtain ⟨k0, k1, k2, k3, k4, k5, k6⟩ := HCX.out wr HB.out
        clear hx_ hk_ hb_
        go_wp2_with fail
        refine (HRA.out wr HB.out).mono ?_
        rintro e w5 ⟨A1, n1, c1, rfl, hy1, hb5⟩
        have HB5 := Lib.hid (kF hb5 HB.out)
        have HY1 := Lib.hid hy1
        clear hy1 hb5 HB d0 d1 q0 q1 k0 k1 k2 k3 k4 k5 k6
        obtain ⟨hx_, hk_, hb_⟩ := HFB.out w5 HB5.out
        obtain ⟨d0, d1⟩ := hx_.cells
        obtain ⟨q0, q1⟩ := hk_.cells
        obtain ⟨k0, k1, k2, k3, k4, k5, k6⟩ := HCX.out w5 HB5.out
        clear hx_ hk_ hb_
        go_wp2_with fail
        refine (HRB.out w5 HB5.out).mono ?_
        rintro e w6 ⟨A2, n2, c2, rfl, hy2, hb6⟩
        have HB6 := Lib.hid (kF hb6 HB5.out)
        have HY1' := Lib.hid (HY1.out.step hb6)
        have HY2 := Lib.hid hy2
        have HFT := Lib.hid (rfits_any x.2.k x.2.a x.2.lo x.2.hi w6 A1 n1 c1 L HY1'.out)
        clear hy2 hb6 HB5 HY1 d0 d1 q0 q1 k0 k1 k2 k3 k4 k5 k6
        obtain ⟨hx_, hk_, hb_⟩ := HFB.out w6 HB6.out
        obtain ⟨d0, d1⟩ := hx_.cells
        obtain ⟨q0, q1⟩ := hk_.cells
        obtain ⟨k0, k1, k2, k3, k4, k5, k6⟩ := HCX.out w6 HB6.out
        clear hx_ hk_ hb_
        go_wp2_with fail
        refine HFT.out.mono ?_
        rintro e w7 ⟨rfl, hb7⟩
        rw [HFZ.out]
        have HB7 := Lib.hid (kF hb7 HB6.out)
        have HY17 := Lib.hid (HY1'.out.step hb7)
        have HY27 := Lib.hid (HY2.out.step hb7)
        clear hb7 HB6 HY1' HY2 HFT d0 d1 q0 q1 k0 k1 k2 k3 k4 k5 k6
        obtain ⟨hx_, hk_, hb_⟩ := HFB.out w7 HB7.out
        obtain ⟨d0, d1⟩ := hx_.cells
        obtain ⟨q0, q1⟩ := hk_.cells
        obtain ⟨k0, k1, k2, k3, k4, k5, k6⟩ := HCX.out w7 HB7.out
        clear hx_ hk_ hb_
        have hcv1 : ∀ kk, (convert 36 9 (.slice A1 n1 c1)).run Try.prog (w7.drewN kk) = .ok (.string (strOfNums L)) (w7.drewN kk) := fun kk => conv_any (HY17.out.step (below_drewN (Below.refl _ _) kk))
        have hcv2 : ∀ kk, (convert 36 9 (.slice A2 n2 c2)).run Try.prog (w7.drewN kk) = .ok (.string (strOfNums L)) (w7.drewN kk) := fun kk => conv_any (HY27.out.step (below_drewN (Below.refl _ _) kk))
        go_wp2_with fail
        go_quiet (fail)
        have HB8 := Lib.hid (below_drewN HB7.out nq)
        have HY18 := Lib.hid (HY17.out.step (below_drewN (Below.refl _ _) nq))
        clear HB7 HY17 HY27 hcv1 hcv2 d0 d1 q0 q1 k0 k1 k2 k3 k4 k5 k6
        generalize w7.drewN nq = w8 at *
        obtain ⟨hx_, hk_, hb_⟩ := HFB.out w8 HB8.out
        obtain ⟨d0, d1⟩ := hx_.cells
        obtain ⟨q0, q1⟩ := hk_.cells
        obtain ⟨k0, k1, k2, k3, k4, k5, k6⟩ := HCX.out w8 HB8.out
        clear hx_ hk_ hb_
        have hcv3 : ∀ kk, (convert 36 9 (.slice A1 n1 c1)).run Try.prog (w8.drewN kk) = .ok (.string (strOfNums L)) (w8.drewN kk) := fun kk => conv_any (HY18.out.step (below_drewN (Below.refl _ _) kk))
        have hcv4 : ∀ kk, (convert 36 9 (.slice A n m)).run Try.prog (w8.drewN kk) = .ok (.string (strOfNums l)) (w8.drewN kk) := fun kk => conv_any (HFB.out _ (below_drewN HB8.out kk)).2.2
        go_wp2_with fail
        rename_i nq0
        go_quiet (fail)
        go_wp2_with fail
        go_roundg (gk - 1)
        case measure => omega
        case rel => exact ⟨p + 1, by omega, by go_num, Lib.hid (below_drewN HB8.out nq)⟩
      · obtain rfl : p = N := by omega
        obtain ⟨d0, d1⟩ := (HFB.out wr HB.out).1.cells
        go_wp2_with fail
        refine (live14_any _).mono ?_
        rintro e w9 ⟨rfl, hb9⟩
        go_wp2_with fail
        go_ret
        exact ⟨rfl, kF (kF hb9 HB.out) HW4.out⟩
end Go.Proofs.Ytmfjndkopkjchaa
