/- What the document's Divide answers: the remainder of a row. -/
import Derived.Test.YtkgnhmddnfmhjaaWPolyMath3
namespace Go.Proofs.Ytkgnhmddnfmhjaa
open Go.RowKit
theorem numB_cast (l : List Int) : numB l = ((numN' l : Nat) : Int) := by
  refine snoc_ind (P := fun l => numB l = ((numN' l : Nat) : Int)) rfl (fun l x ih => ?_) l
  rw [numB_snoc, numN'_snoc, ih]
  have := b2_cast x
  omega
theorem numB_btL {W L : Nat} (hW : 1 ≤ W) (v : Nat) (hv : v < 2 ^ W) : numB (btL v W) = (v : Int) := by
  rw [numB_cast, ← whole_short (W := W) (L := L) hW _ (by rw [btL_len]; exact Nat.le_refl _), whole_bits v hv]

theorem whole_pl' (W L : Nat) (l : List Int) : wholeN W L (pl l) = wholeN W L l := by
  refine snoc_ind (P := fun l => wholeN W L (pl l) = wholeN W L l) rfl (fun l x ih => ?_) l
  have e : pl (l ++ [x]) = pl l ++ [x % 2] := by simp [pl]
  rw [e, whole_snoc, whole_snoc, ih]
  congr 1
  unfold b2; omega

theorem addr_at (g n : Nat) : Option.map (fun x : Addr => x.add n) (some ⟨g, 0, none⟩) = some ⟨g, n, none⟩ := by
  show some ((⟨g, 0, none⟩ : Addr).add n) = _
  unfold Addr.add
  split <;> simp_all

set_option maxHeartbeats 1000000 in
theorem rdivide_any (W L : Nat) (A : Option Addr) (n c : Nat) (l : List Int) (w : World) (hW1 : 1 ≤ W) (hW : W ≤ 31) (hL : L < 2 ^ W) (h : Byt w w.heap.size A n c l) (hn : n ≤ 1000000) :
    Calls Try.prog 51 #[.int .i64 W, .int .u32 L, .slice A n c] w fun e w' => e = .returned (.int .u32 ((wholeN W L l : Nat) : Int)) ∧ Below w.heap.size w w' := by
  have hp := pow32 hW
  have hvl := whole_lt hW1 hL (pl l)
  have hbits := pl_bits l
  have hRl : (pl l).length = n := by rw [pl_len, h.len]
  have hpl := fun (w : World) (h : Byt w w.heap.size A n c l) => plain_any w A n c l h (by omega)
  have hdv := fun w => divisor_any W L w hW (by omega)
  rw [← whole_pl' W L l]
  generalize pl l = R at hvl hbits hRl hpl
  have hz := divL_zero (W := W) (L := L) (R := R)
  have hLr := fun i => divL_bits (W := W) (L := L) hbits i
  have hMr := fun i k => divM_bits (W := W) (L := L) hbits i k
  have hM0 := fun i => divM_zero (W := W) (L := L) (R := R) i
  have hMs := fun i k => divM_step (W := W) (L := L) (R := R) i k
  have hMh := fun i k (hk : i + k < n + W) => divM_here (W := W) (L := L) (R := R) i k (by rw [hRl]; exact hk)
  have hMe := fun i (hi : i < n) (h1 : divC W L R i i = 1) => divM_end (W := W) (L := L) (R := R) hW1 hbits i (by rw [hRl]; exact hi) h1
  have hLs := fun i (hi : i < n) (h1 : ¬ divC W L R i i = 1) => divL_skip (W := W) (L := L) (R := R) hW1 hbits i (by rw [hRl]; exact hi) h1
  have hLt := divL_tail (W := W) (L := L) (R := R)
  rw [hRl] at hLt
  have hcb := fun i j => divC_bits (W := W) (L := L) hbits i j
  have hgl := fun i j (hj : j < n + W) => divL_getD (W := W) (L := L) (R := R) i (j := j) (by rw [hRl]; exact hj)
  have hnum := numB_btL (W := W) (L := L) hW1 _ hvl
  have HZ := Lib.hid hz
  have HLR := Lib.hid hLr
  have HMR := Lib.hid hMr
  have HM0 := Lib.hid hM0
  have HMS := Lib.hid hMs
  have HMH := Lib.hid hMh
  have HME := Lib.hid hMe
  have HLS := Lib.hid hLs
  have HLT := Lib.hid hLt
  have HCB := Lib.hid hcb
  have HGL := Lib.hid hgl
  have HNUM := Lib.hid hnum
  have HPL := Lib.hid hpl
  have HDV := Lib.hid hdv
  have HRL := Lib.hid hRl
  have HB := Lib.hid hbits
  have HH := Lib.hid h
  clear hz hLr hMr hM0 hMs hMh hMe hLs hLt hcb hgl hnum hpl hdv hRl hbits h hL
  go_enter Try.func51, Try.ntmps51
  go_wp2_with fail
  refine (HDV.out _).mono ?_
  rintro e w1 ⟨AD, cD, rfl, hD, hb1⟩
  have hs1 : Below w.heap.size w w1 := hb1
  have HD := Lib.hid hD
  clear hD
  go_wp2_with fail
  go_loopw [9, 8] (fun i v wr => ∃ j : Nat, j ≤ W ∧ i = .int .i64 j ∧ wr.ownsRow w1.heap.size 5 1 v j ((List.replicate j (0 : Int)).map (Value.int .u8)) ∧ Below w1.heap.size w1 wr) (fun i _ _ => W - (intOf i).toNat)
  case atStart => exact ⟨0, Nat.zero_le _, rfl, World.ownsRow_lit w1 #[] 0 (Nat.le_refl _) (by simp [maxLen]) rfl, (Below.refl _ _).alloc (Nat.le_refl _) _⟩
  case round =>
    obtain ⟨j, hj, rfl, hown, hbel⟩ := hrel
    by_cases hlt : j < W
    · have hget : List.replicate (j + 1) (0 : Int) = List.replicate j 0 ++ [0] := List.replicate_succ'
      have HG := Lib.hid hget
      clear hget
      go_wp2_with (at_builtin; refine wpList_byte rfl (.tmp 21) (.tmp 22) rfl Try.underlying25 byte_info rfl hown rfl (by omega) hbel.size ?_; intro v' w' hown' hbel')
      go_roundw
      case rel => exact ⟨j + 1, by omega, by go_num, by rw [HG.out]; exact hown', hbel.trans hbel'⟩
      case measure => simp [intOf]; omega
    · obtain rfl : W = j := by omega
      have hs2 := hs1.trans (hbel.mono hs1.size)
      go_wp2_with fail
      refine (HPL.out _ (HH.out.step hs2)).mono ?_
      rintro e w2 ⟨AP, cP, rfl, hP, hb2⟩
      have hown2 := own_below hown hb2
      have hbel2 := hbel.trans (hb2.mono hbel.size)
      go_wp2_with (at_builtin; refine wpList_bytes rfl (.tmp 24) (.tmp 26) rfl Try.underlying25 byte_info rfl hown2 rfl hP (by omega) hbel2.size ?_; intro v3 w3 hown3 hb3)
      have hbel3 := hbel2.trans hb3
      rw [← HZ.out] at hown3
      obtain ⟨g, cap, rfl⟩ := Go.Joins.ownsRow_form hown3 (by omega)
      obtain ⟨hgb, hcap, hcapm⟩ := own_caps hown3
      clear hown hown2 hP hb3 hb2 hbel
      have hWp : (W : Int) ≤ 31 := by omega
      go_wp2_with fail
      go_loopw [10] (fun x wr => ∃ i : Nat, i ≤ n ∧ x = .int .i64 i ∧ wr.ownsRow w1.heap.size 5 1 (.slice (some ⟨g, 0, none⟩) (W + n) cap) (W + n) ((divL W L R i).map (Value.int .u8)) ∧ Below w1.heap.size w1 wr) (fun x _ => n - (intOf x).toNat)
      case atStart => exact ⟨0, Nat.zero_le _, rfl, hown3, hbel3⟩
      case round =>
        obtain ⟨i, hi, rfl, hown, hbel⟩ := hrel
        by_cases hlt : i < n
        · have hgc := own_get hown (show i < W + n by omega)
          rw [HGL.out i i (by omega)] at hgc
          by_cases htop : divC W L R i i = 1
          · rw [htop] at hgc
            have hown0 : wr.ownsRow w1.heap.size 5 1 (.slice (some ⟨g, 0, none⟩) (W + n) cap) (W + n) ((divM W L R i 0).map (Value.int .u8)) := by rw [HM0.out]; exact hown
            have hend := HME.out i hlt htop
            have HEND := Lib.hid hend
            clear hend htop hown hown3
            go_wp2_with fail
            obtain ⟨wo, hwo⟩ : ∃ wo : World, wo = wr := ⟨_, rfl⟩
            go_loopw [11] (fun x wr => ∃ k : Nat, k ≤ W + 1 ∧ x = .int .i64 k ∧ wr.ownsRow w1.heap.size 5 1 (.slice (some ⟨g, 0, none⟩) (W + n) cap) (W + n) ((divM W L R i k).map (Value.int .u8)) ∧ Below w1.heap.size w1 wr) (fun x _ => W + 1 - (intOf x).toNat)
            case atStart => exact ⟨0, Nat.zero_le _, rfl, hown0, hbel⟩
            case round =>
              obtain ⟨k, hk, rfl, hownk, hbelk⟩ := hrel
              by_cases hlt2 : k < W + 1
              · have hck := own_get hownk (show i + k < W + n by omega)
                have hfk := World.ownsRow.frozenAt hownk (i + k)
                rw [HMH.out i k (by omega)] at hck
                have hDr := HD.out.below hbelk
                obtain ⟨bd, od, rfl, hbd, hcd⟩ := hDr.cells (by omega)
                have hdk := hcd k (by omega)
                have hset := own_set hownk (i + k) ((divC W L R i (i + k) + dvs W L k) % 2)
                rw [← HMS.out i k] at hset
                have hu := HCB.out i (i + k)
                have hv := dvs_bits (W := W) (L := L) k
                have hdd : ((1 : Int) :: btL L W).getD k 0 = dvs W L k := rfl
                rw [hdd] at hdk
                generalize divC W L R i (i + k) = u at hck hset hu
                generalize dvs W L k = v at hdk hset hv
                have hu0 : 0 ≤ u := by omega
                have hu1 : u ≤ 1 := by omega
                have hv0 : 0 ≤ v := by omega
                have hv1 : v ≤ 1 := by omega
                have HSET := Lib.hid hset
                have hki : (k : Int) ≤ (W : Int) := by omega
                have g1 : IntKind.i64.wrap ((i : Int) + (k : Int)) = (i : Int) + (k : Int) := IntWalk.i64_in _ (by omega)
                have g2 : ((i : Int) + (k : Int)).toNat = i + k := by omega
                have g3 : i + k < W + n := by omega
                have g4 : k < 1 + W := by omega
                have g5 : (0 : Int) ≤ (i : Int) + (k : Int) := by omega
                clear hDr hcd hset hownk hown0 hu hv hdd
                go_wp2_with fail
                go_region
                go_wp2
                go_roundw
                case rel => exact ⟨k + 1, by omega, by go_num, HSET.out, (hbelk.setCell hgb _).drew⟩
                case measure => simp [intOf]; omega
              · obtain hkW : k = W + 1 := by omega
                rw [hkW, HEND.out] at hownk
                have hki : ¬ (k : Int) ≤ (W : Int) := by omega
                clear hown0 hgc
                go_wp2_with fail
                go_roundw
                case rel => exact ⟨i + 1, by omega, by go_num, hownk, hbelk⟩
                case measure => simp [intOf]; omega
          · have hz := HCB.out i i
            rw [show divC W L R i i = 0 by omega] at hgc
            have hskip := HLS.out i hlt htop
            have HSK := Lib.hid hskip
            clear hskip htop hz hown3
            go_wp2_with fail
            go_roundw
            case rel => exact ⟨i + 1, by omega, by go_num, by rw [← HSK.out]; exact hown, hbel⟩
            case measure => simp [intOf]; omega
        · obtain rfl : n = i := by omega
          have hfin : Byt wr wr.heap.size (some ⟨g, 0, none⟩) (W + n) cap (divL W L R n) := by
            obtain ⟨A', c', hv, hB, _⟩ := Byt.of_own hown (HLR.out n)
            cases hv
            exact hB
          have hcut := hfin.cut (s := n) (by omega)
          rw [if_neg (by omega), HLT.out, show W + n - n = W by omega] at hcut
          have eadd : Option.map (fun x : Addr => x.add n) (some ⟨g, 0, none⟩) = some ⟨g, n, none⟩ := addr_at g n
          rw [eadd] at hcut
          have HCUT := Lib.hid hcut
          clear eadd
          have hne : ¬ cap = n := by omega
          have hs4 := hs1.trans (hbel.mono hs1.size)
          have g1 : n ≤ cap := by omega
          clear hfin hcut hown hown3
          go_wp2_with fail
          refine (rnum_any _ _ _ _ _ HCUT.out (by omega)).mono ?_
          rintro e w5 ⟨rfl, hb5⟩
          go_wp2
          go_ret
          exact ⟨ret_int HNUM.out, hs4.trans (hb5.mono hs4.size)⟩
end Go.Proofs.Ytkgnhmddnfmhjaa