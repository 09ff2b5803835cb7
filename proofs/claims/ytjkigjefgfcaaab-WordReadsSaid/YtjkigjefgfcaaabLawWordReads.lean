/- The statement WordReads: what is read of any bytes (of up to 100), up to the first error, is the document's: whatever bytes and deeds (of which the first 20 count). No conditions. -/
import Derived.Test.YtjkigjefgfcaaabLive2
import Derived.Test.YtjkigjefgfcaaabWordF
import Derived.Test.YtjkigjefgfcaaabWordI
import Derived.Test.YtjkigjefgfcaaabRefE
import Derived.Test.YtjkigjefgfcaaabRows
import Derived.ChangeOld
import Derived.ShutString
namespace Go.Proofs.Ytjkigjefgfcaaab.wordReads
open Go.ChangeShapes Go.WideShapes Go.ChangeAt Go.RowKit
set_option linter.unusedVariables false

/-- Between two deeds: the Reader and the statement have the same error, and the same bytes left. -/
def Rel (w : World) (g K : Nat) (i bad left : Value) (wr : World) : Prop :=
  ∃ (j : Nat) (er : Int) (L : List Int) (A1 A2 : Option Addr) (c1 c2 : Nat), j ≤ K ∧ L.length ≤ 100 ∧ i = .int .i64 j ∧ bad = .int .i64 er ∧ left = .slice A1 L.length c1 ∧
    Byt w w.heap.size A1 L.length c1 L ∧ RdAt wr g er A2 L.length c2 ∧ Byt wr g A2 L.length c2 L ∧ Below w.heap.size w wr

theorem get_bad {k : Int} {l : List Int} (h : ¬ getE k l = 0) : getN k l = 0 := by
  unfold getN
  split
  · rename_i hc
    exact absurd (by unfold getE; rw [if_neg (by omega), if_neg (by omega), if_pos hc.2.2]) h
  · rfl
theorem rr_bad {er q : Int} {L : List Int} {x : Int} (h : rrE er q L = x) (hx : ¬ x = 0) : rrA er q L = [] ∧ rrL er q L = L := by
  unfold rrA rrL; rw [h, if_neg hx, if_neg hx]; exact ⟨rfl, rfl⟩
theorem rn_bad {er k : Int} {L : List Int} {x : Int} (h : rnE er k L = x) (hx : ¬ x = 0) : rnN er k L = 0 ∧ rnL er k L = L := by
  unfold rnN rnL; rw [h, if_neg hx, if_neg hx]; exact ⟨rfl, rfl⟩

set_option maxHeartbeats 2000000 in
set_option maxRecDepth 100000 in
theorem rest (A : Option Addr) (n c : Nat) (l : List Int) (AF : Option Addr) (m cF : Nat) (fs : Nat → FieldV) (w : World) (h : Byt w w.heap.size A n c l) (hF0 : Flds w w.heap.size AF m cF fs) (hn : ¬ 100 < n)
    (K : Nat) (hK : (K = m ∧ m ≤ 20) ∨ (K = 20 ∧ 20 < m)) :
    Calls Try.prog 8 #[.slice A n c, .slice AF m cF] w fun e w' => e = .returned (.bool true) ∧ Below w.heap.size w w' := by
  have hmx := hF0.max
  have hcx := hF0.cap
  simp only [maxLen] at hmx
  have hKm : K ≤ m ∧ K ≤ 20 := by omega
  have hF := hF0.take hKm.1
  have HF0 := Lib.hid hF0
  clear hF0
  rcases hK with ⟨rfl, h20⟩ | ⟨rfl, h20⟩
  · have hl := h.len
    subst hl
    go_enter Try.func8, Try.ntmps8
    go_wp2_with fail
    refine (new_any _ _ _ _ _ h (by omega)).mono ?_
    rintro e w1 ⟨g, A1, c1, rfl, hg, hR, hB, hb1⟩
    go_wp2_with fail
    go_loopw [8, 7, 6] (Rel w g K) (fun i _ _ _ => K - (intOf i).toNat)
    case atStart => exact ⟨0, 0, l, A, A1, c, c1, Nat.zero_le _, by omega, rfl, rfl, rfl, h, hR, hB, hb1⟩
    case round =>
      obtain ⟨j, er, L, A3, A4, c3, c4, hj, hL, rfl, rfl, rfl, hB3, hR4, hB4, hbel⟩ := hrel
      have hcap3 := hB3.cap
      have hmax3 := hB3.max
      simp only [maxLen] at hmax3
      by_cases hlt : j < K
      · obtain ⟨bF, oF, rfl, hbF, hcF⟩ := hF.cells (by omega)
        have hf := (hcF j hlt).keep hbF (fun b o hb => hbel.cell (p := ⟨b, o, none⟩) hb)
        have ck := hf.ck
        have cb := hf.cb
        have rk := hf.rk
        have hfb := hf.byt.cap
        have hfm := hf.byt.max
        simp only [maxLen] at hfm
        generalize fs j = f at hf ck cb rk hfb hfm
        obtain ⟨k, nn, fA, fm, fc, fl⟩ := f
        simp only at ck cb rk hfb hfm
        rw [Nat.mul_comm] at ck cb
        have HFF := Lib.hid hf
        have HCF := Lib.hid hcF
        clear hf hcF h hB hR
        by_cases hk : k = 8
        · subst hk
          by_cases he : er = 0
          · subst he
            by_cases hq0 : fm = 0
            · subst hq0
              have hE : rrE 0 (((0 : Nat) : Int) - 1) L = 2 := by unfold rrE fe lackE; rw [if_pos rfl, if_pos (by omega)]
              have hra := rr_bad hE (by omega)
              have hraw := rraw_any wr g 0 (((0 : Nat) : Int) - 1) A4 L.length c4 L hR4 hB4 (by omega)
              unfold RrPost at hraw
              rw [hE, hra.1, hra.2] at hraw
              have HRAW := Lib.hid hraw
              have HR4 := Lib.hid hR4
              have HB4 := Lib.hid hB4
              clear hE hra hraw hR4 hB4
              go_wp2_with fail
              refine HRAW.out.mono ?_
              rintro e w2 ⟨A5, c5, Ax, cx, rfl, hx, hR2, hB2, hg2⟩
              have HR2 := Lib.hid hR2
              have HB2 := Lib.hid hB2
              clear hx hR2 hB2
              go_wp2_with (first | (go_at_call 30; refine (rerr_any _ g _ _ _ _ (by exact HR2.out)).mono ?_; rintro e wx ⟨rfl, rfl⟩) | (go_at_call 29; refine (rleft_any _ g _ _ _ _ (by exact HR2.out)).mono ?_; rintro e wx ⟨rfl, rfl⟩))
              go_roundw
              case rel => exact ⟨j + 1, 2, L, A3, A5, c3, c5, by omega, hL, by go_num, rfl, rfl, hB3, HR2.out, HB2.out, hbel.grown hg2 hbel.size (fun t ht => by cases ht; exact hg)⟩
              case measure => simp [intOf]; omega
              
            · obtain ⟨q, rfl⟩ : ∃ q : Nat, fm = q + 1 := ⟨fm - 1, by omega⟩
              by_cases hqL : L.length < q
              · have hE : rrE 0 (q : Int) L = 5 := by unfold rrE fe lackE; rw [if_pos rfl, if_neg (by omega), if_pos (by omega)]
                have hra := rr_bad hE (by omega)
                have hraw := rraw_any wr g 0 (q : Int) A4 L.length c4 L hR4 hB4 (by omega)
                unfold RrPost at hraw
                rw [hE, hra.1, hra.2] at hraw
                have HRAW := Lib.hid hraw
                have HR4 := Lib.hid hR4
                have HB4 := Lib.hid hB4
                clear hE hra hraw hR4 hB4
                go_wp2_with fail
                refine HRAW.out.mono ?_
                rintro e w2 ⟨A5, c5, Ax, cx, rfl, hx, hR2, hB2, hg2⟩
                have HR2 := Lib.hid hR2
                have HB2 := Lib.hid hB2
                clear hx hR2 hB2
                go_wp2_with (first | (go_at_call 30; refine (rerr_any _ g _ _ _ _ (by exact HR2.out)).mono ?_; rintro e wx ⟨rfl, rfl⟩) | (go_at_call 29; refine (rleft_any _ g _ _ _ _ (by exact HR2.out)).mono ?_; rintro e wx ⟨rfl, rfl⟩))
                go_roundw
                case rel => exact ⟨j + 1, 5, L, A3, A5, c3, c5, by omega, hL, by go_num, rfl, rfl, hB3, HR2.out, HB2.out, hbel.grown hg2 hbel.size (fun t ht => by cases ht; exact hg)⟩
                case measure => simp [intOf]; omega
                
              · have hE : rrE 0 (q : Int) L = 0 := by unfold rrE fe lackE; rw [if_pos rfl, if_neg (by omega), if_neg (by omega)]
                have e1 : rrA 0 (q : Int) L = L.take q := by unfold rrA; rw [if_pos hE]; rfl
                have e2 : rrL 0 (q : Int) L = L.drop q := by unfold rrL; rw [if_pos hE]; rfl
                have hraw := rraw_any wr g 0 (q : Int) A4 L.length c4 L hR4 hB4 (by omega)
                unfold RrPost at hraw
                rw [hE, e1, e2, List.length_take, Nat.min_eq_left (by omega), List.length_drop] at hraw
                have HRAW := Lib.hid hraw
                have HR4 := Lib.hid hR4
                have HB4 := Lib.hid hB4
                have hqL2 : q ≤ L.length := by omega
                have hcut := hB3.cut hqL2
                have HCUT := Lib.hid hcut
                have HB3 := Lib.hid hB3
                clear hE e1 e2 hraw hR4 hB4 hB3 hcut
                go_wp2_with fail
                refine HRAW.out.mono ?_
                rintro e w2 ⟨A5, c5, Ax, cx, rfl, hx, hR2, hB2, hg2⟩
                have hbel2 := hbel.grown hg2 hbel.size (fun t ht => by cases ht; exact hg)
                have hleft : Byt w2 w2.heap.size A3 q c3 (L.take q) := ((HB3.out.take hqL2).below hbel2).more hbel2.size
                have hsm := same_any hx hleft
                rw [decide_eq_true rfl] at hsm
                have HSM := Lib.hid hsm
                have HR2 := Lib.hid hR2
                have HB2 := Lib.hid hB2
                clear hx hR2 hB2 hleft hsm
                go_wp2_with fail
                refine HSM.out.mono ?_
                rintro e w3 ⟨rfl, rfl⟩
                go_wp2_with (first | (go_at_call 30; refine (rerr_any _ g _ _ _ _ (by exact HR2.out)).mono ?_; rintro e wx ⟨rfl, rfl⟩) | (go_at_call 29; refine (rleft_any _ g _ _ _ _ (by exact HR2.out)).mono ?_; rintro e wx ⟨rfl, rfl⟩))
                go_roundw
                case rel => exact ⟨j + 1, 0, L.drop q, if c3 = q then A3 else Option.map (fun x => x.add q) A3, A5, c3 - q, c5, by omega, by rw [List.length_drop]; omega, by go_num, rfl, by rw [List.length_drop], by rw [List.length_drop]; exact HCUT.out, by rw [List.length_drop]; exact HR2.out, by rw [List.length_drop]; exact HB2.out, hbel2⟩
                case measure => simp [intOf]; omega
                
          · have he1 : (er == 0) = false := by simp [he]
            have he2 : (er != 0) = true := by simp [he]
            have hE : rrE er ((fm : Int) - 1) L = er := by unfold rrE fe; rw [if_neg he]
            have hra := rr_bad hE (by omega)
            have hraw := rraw_any wr g er ((fm : Int) - 1) A4 L.length c4 L hR4 hB4 (by omega)
            unfold RrPost at hraw
            rw [hE, hra.1, hra.2] at hraw
            have HRAW := Lib.hid hraw
            have HR4 := Lib.hid hR4
            have HB4 := Lib.hid hB4
            clear hE hra hraw hR4 hB4
            go_wp2_with fail
            refine HRAW.out.mono ?_
            rintro e w2 ⟨A5, c5, Ax, cx, rfl, hx, hR2, hB2, hg2⟩
            have HR2 := Lib.hid hR2
            have HB2 := Lib.hid hB2
            clear hx hR2 hB2
            go_wp2_with (first | (go_at_call 30; refine (rerr_any _ g _ _ _ _ (by exact HR2.out)).mono ?_; rintro e wx ⟨rfl, rfl⟩) | (go_at_call 29; refine (rleft_any _ g _ _ _ _ (by exact HR2.out)).mono ?_; rintro e wx ⟨rfl, rfl⟩))
            go_roundw
            case rel => exact ⟨j + 1, er, L, A3, A5, c3, c5, by omega, hL, by go_num, rfl, rfl, hB3, HR2.out, HB2.out, hbel.grown hg2 hbel.size (fun t ht => by cases ht; exact hg)⟩
            case measure => simp [intOf]; omega
            
        · have hk8 : (k == 8) = false := by simp [hk]
          by_cases he : er = 0
          · subst he
            have hkb := k_bounds k
            by_cases hk0 : kSize k = 0
            · have hE : rnE 0 k L = 2 := by unfold rnE fe nextE; rw [if_pos rfl, if_pos hk0]
              have hra := rn_bad hE (by omega)
              have hraw := rnum2_any wr g 0 k A4 L.length c4 L hR4 hB4
              unfold RnPost at hraw
              rw [hE, hra.1, hra.2] at hraw
              have HRAW := Lib.hid hraw
              have hsh := fun w => shape_any k w
              rw [hk0] at hsh
              have HSH := Lib.hid hsh
              have HR4 := Lib.hid hR4
              have HB4 := Lib.hid hB4
              clear hE hra hraw hR4 hB4 hsh
              go_wp2_with fail
              refine HRAW.out.mono ?_
              rintro e w2 ⟨A5, c5, rfl, hR2, hB2, hg2⟩
              have hbel2 := hbel.grown hg2 hbel.size (fun t ht => by cases ht; exact hg)
              have ck2 : w2.cell? ⟨bF, oF + j * 3, none⟩ = some (.int .i64 k) := (World.cell?_of_block (a := ⟨bF, oF + j * 3, none⟩) (hg2.block bF (Nat.lt_of_lt_of_le hbF hbel.size) (fun e => by cases e; omega))).trans ck
              have HR2 := Lib.hid hR2
              have HB2 := Lib.hid hB2
              clear hR2 hB2
              go_wp2_with (go_at_call 11; refine (HSH.out _).mono ?_; rintro e wy ⟨rfl, rfl⟩)
              go_wp2_with (first | (go_at_call 30; refine (rerr_any _ g _ _ _ _ (by exact HR2.out)).mono ?_; rintro e wx ⟨rfl, rfl⟩) | (go_at_call 29; refine (rleft_any _ g _ _ _ _ (by exact HR2.out)).mono ?_; rintro e wx ⟨rfl, rfl⟩))
              go_roundw
              case rel => exact ⟨j + 1, 2, L, A3, A5, c3, c5, by omega, hL, by go_num, rfl, rfl, hB3, HR2.out, HB2.out, hbel2⟩
              case measure => simp [intOf]; omega
              
            · obtain ⟨s, hs⟩ : ∃ s : Nat, kSize k = s := ⟨(kSize k).toNat, by omega⟩
              have hs0 : ((s : Int) == 0) = false := by simp; omega
              by_cases hsL : L.length < s
              · have hE : rnE 0 k L = 5 := by unfold rnE fe nextE; rw [if_pos rfl, if_neg hk0, if_pos (by omega)]
                have hra := rn_bad hE (by omega)
                have hraw := rnum2_any wr g 0 k A4 L.length c4 L hR4 hB4
                unfold RnPost at hraw
                rw [hE, hra.1, hra.2] at hraw
                have HRAW := Lib.hid hraw
                have hsh := fun w => shape_any k w
                rw [hs] at hsh
                have HSH := Lib.hid hsh
                have HR4 := Lib.hid hR4
                have HB4 := Lib.hid hB4
                clear hE hra hraw hR4 hB4 hsh
                go_wp2_with fail
                refine HRAW.out.mono ?_
                rintro e w2 ⟨A5, c5, rfl, hR2, hB2, hg2⟩
                have hbel2 := hbel.grown hg2 hbel.size (fun t ht => by cases ht; exact hg)
                have ck2 : w2.cell? ⟨bF, oF + j * 3, none⟩ = some (.int .i64 k) := (World.cell?_of_block (a := ⟨bF, oF + j * 3, none⟩) (hg2.block bF (Nat.lt_of_lt_of_le hbF hbel.size) (fun e => by cases e; omega))).trans ck
                have HR2 := Lib.hid hR2
                have HB2 := Lib.hid hB2
                clear hR2 hB2
                go_wp2_with (go_at_call 11; refine (HSH.out _).mono ?_; rintro e wy ⟨rfl, rfl⟩)
                go_wp2_with (first | (go_at_call 30; refine (rerr_any _ g _ _ _ _ (by exact HR2.out)).mono ?_; rintro e wx ⟨rfl, rfl⟩) | (go_at_call 29; refine (rleft_any _ g _ _ _ _ (by exact HR2.out)).mono ?_; rintro e wx ⟨rfl, rfl⟩))
                go_roundw
                case rel => exact ⟨j + 1, 5, L, A3, A5, c3, c5, by omega, hL, by go_num, rfl, rfl, hB3, HR2.out, HB2.out, hbel2⟩
                case measure => simp [intOf]; omega
                
              · have hnE : nextE k L = getE k (L.take s) := by unfold nextE; rw [if_neg hk0, if_neg (by omega), hs]; rfl
                have hnN : nextN k L = getN k (L.take s) := by unfold nextN; rw [if_neg (by omega), hs]; rfl
                have hsL2 : s ≤ L.length := by omega
                have hE : rnE 0 k L = getE k (L.take s) := by unfold rnE fe; rw [if_pos rfl, hnE]
                have hsh := fun w => shape_any k w
                rw [hs] at hsh
                have HSH := Lib.hid hsh
                have hcut := hB3.cut hsL2
                have HCUT := Lib.hid hcut
                have HBT := Lib.hid (hB3.take hsL2)
                have HB3 := Lib.hid hB3
                by_cases hge : getE k (L.take s) = 0
                · rw [hge] at hE hnE
                  have e1 : rnN 0 k L = getN k (L.take s) := by unfold rnN; rw [if_pos hE, hnN]
                  have e2 : rnL 0 k L = L.drop s := by unfold rnL; rw [if_pos hE, hs]; rfl
                  have hraw := rnum2_any wr g 0 k A4 L.length c4 L hR4 hB4
                  unfold RnPost at hraw
                  rw [hE, e1, e2, List.length_drop] at hraw
                  have HRAW := Lib.hid hraw
                  have HGE := Lib.hid hge
                  have HR4 := Lib.hid hR4
                  have HB4 := Lib.hid hB4
                  clear hE e1 e2 hraw hR4 hB4 hB3 hcut hnE hnN hge hsh hs
                  go_wp2_with fail
                  refine HRAW.out.mono ?_
                  rintro e w2 ⟨A5, c5, rfl, hR2, hB2, hg2⟩
                  have hbel2 := hbel.grown hg2 hbel.size (fun t ht => by cases ht; exact hg)
                  have ck2 : w2.cell? ⟨bF, oF + j * 3, none⟩ = some (.int .i64 k) := (World.cell?_of_block (a := ⟨bF, oF + j * 3, none⟩) (hg2.block bF (Nat.lt_of_lt_of_le hbF hbel.size) (fun e => by cases e; omega))).trans ck
                  have HR2 := Lib.hid hR2
                  have HB2 := Lib.hid hB2
                  clear hR2 hB2
                  go_wp2_with (go_at_call 11; refine (HSH.out _).mono ?_; rintro e wy ⟨rfl, rfl⟩)
                  have hleft : Byt w2 w2.heap.size A3 s c3 (L.take s) := (HBT.out.below hbel2).more hbel2.size
                  have hgt : ∀ mm, Calls Try.prog 19 #[.int .i64 k, .slice A3 s c3] (w2.drewN mm) fun e w' => e = .returned (.tuple #[.int .i64 (getN k (L.take s)), .int .i64 (getE k (L.take s))]) ∧ w' = w2.drewN mm := fun mm => (sget_any k (w2.drewN mm) A3 s c3 (L.take s) (hleft.drewN mm)).mono fun _ _ h => ⟨h.1.1, h.2⟩
                  rw [HGE.out] at hgt
                  have HGT := Lib.hid hgt
                  have hsc : s ≤ c3 := by omega
                  have hsc2 : (s : Int) ≤ (c3 : Int) := by omega
                  have hgl : g < w2.heap.size := HR2.out.lt
                  clear hleft hgt
                  go_quiet ((go_at_call 19; exact Calls.quiet_of_same (HGT.out _)))
                  have HR3 : Hid (RdAt (w2.drewN nq) g _ A5 _ c5) := HR2.out
                  have HB3n := Lib.hid (HB2.out.drewN nq)
                  have hbel3 := below_drewN hbel2 nq
                  go_wp2_with (first | (go_at_call 30; refine (rerr_any _ g _ _ _ _ (by exact HR3.out)).mono ?_; rintro e wx ⟨rfl, rfl⟩) | (go_at_call 29; refine (rleft_any _ g _ _ _ _ (by exact HR3.out)).mono ?_; rintro e wx ⟨rfl, rfl⟩))
                  go_roundw
                  case rel => exact ⟨j + 1, 0, L.drop s, if c3 = s then A3 else Option.map (fun x => x.add s) A3, A5, c3 - s, c5, by omega, by rw [List.length_drop]; omega, by go_num, rfl, by rw [List.length_drop], by rw [List.length_drop]; exact HCUT.out, by rw [List.length_drop]; exact HR3.out, by rw [List.length_drop]; exact HB3n.out, hbel3⟩
                  case measure => simp [intOf]; omega
                · have hra := rn_bad hE hge
                  have hraw := rnum2_any wr g 0 k A4 L.length c4 L hR4 hB4
                  unfold RnPost at hraw
                  rw [hE, hra.1, hra.2] at hraw
                  have hd1 : (getE k (L.take s) == 0) = false := by simp [hge]
                  have HRAW := Lib.hid hraw
                  have HGE := Lib.hid hge
                  have HR4 := Lib.hid hR4
                  have HB4 := Lib.hid hB4
                  clear hE hra hraw hR4 hB4 hB3 hcut hnE hnN hge hsh hs
                  go_wp2_with fail
                  refine HRAW.out.mono ?_
                  rintro e w2 ⟨A5, c5, rfl, hR2, hB2, hg2⟩
                  have hbel2 := hbel.grown hg2 hbel.size (fun t ht => by cases ht; exact hg)
                  have ck2 : w2.cell? ⟨bF, oF + j * 3, none⟩ = some (.int .i64 k) := (World.cell?_of_block (a := ⟨bF, oF + j * 3, none⟩) (hg2.block bF (Nat.lt_of_lt_of_le hbF hbel.size) (fun e => by cases e; omega))).trans ck
                  have HR2 := Lib.hid hR2
                  have HB2 := Lib.hid hB2
                  clear hR2 hB2
                  go_wp2_with (go_at_call 11; refine (HSH.out _).mono ?_; rintro e wy ⟨rfl, rfl⟩)
                  have hleft : Byt w2 w2.heap.size A3 s c3 (L.take s) := (HBT.out.below hbel2).more hbel2.size
                  have hgt : ∀ mm, Calls Try.prog 19 #[.int .i64 k, .slice A3 s c3] (w2.drewN mm) fun e w' => e = .returned (.tuple #[.int .i64 (getN k (L.take s)), .int .i64 (getE k (L.take s))]) ∧ w' = w2.drewN mm := fun mm => (sget_any k (w2.drewN mm) A3 s c3 (L.take s) (hleft.drewN mm)).mono fun _ _ h => ⟨h.1.1, h.2⟩
                  rw [get_bad HGE.out] at hgt
                  have HGT := Lib.hid hgt
                  have hsc : s ≤ c3 := by omega
                  have hsc2 : (s : Int) ≤ (c3 : Int) := by omega
                  have hgl : g < w2.heap.size := HR2.out.lt
                  clear hleft hgt
                  go_quiet ((go_at_call 19; exact Calls.quiet_of_same (HGT.out _)))
                  have HR3 : Hid (RdAt (w2.drewN nq) g _ A5 _ c5) := HR2.out
                  have HB3n := Lib.hid (HB2.out.drewN nq)
                  have hbel3 := below_drewN hbel2 nq
                  go_wp2_with (first | (go_at_call 30; refine (rerr_any _ g _ _ _ _ (by exact HR3.out)).mono ?_; rintro e wx ⟨rfl, rfl⟩) | (go_at_call 29; refine (rleft_any _ g _ _ _ _ (by exact HR3.out)).mono ?_; rintro e wx ⟨rfl, rfl⟩))
                  go_roundw
                  case rel => exact ⟨j + 1, getE k (L.take s), L, A3, A5, c3, c5, by omega, hL, by go_num, rfl, rfl, HB3.out, HR3.out, HB3n.out, hbel3⟩
                  case measure => simp [intOf]; omega
                
          · have he1 : (er == 0) = false := by simp [he]
            have he2 : (er != 0) = true := by simp [he]
            have hss : kSize k = kSize k := rfl
            have hE : rnE er k L = er := by unfold rnE fe; rw [if_neg he]
            have hra := rn_bad hE (by omega)
            have hraw := rnum2_any wr g er k A4 L.length c4 L hR4 hB4
            unfold RnPost at hraw
            rw [hE, hra.1, hra.2] at hraw
            have HRAW := Lib.hid hraw
            have hsh := fun w => shape_any k w
            rw [← hss] at hsh
            have HSH := Lib.hid hsh
            have HR4 := Lib.hid hR4
            have HB4 := Lib.hid hB4
            clear hE hra hraw hR4 hB4 hsh
            go_wp2_with fail
            refine HRAW.out.mono ?_
            rintro e w2 ⟨A5, c5, rfl, hR2, hB2, hg2⟩
            have hbel2 := hbel.grown hg2 hbel.size (fun t ht => by cases ht; exact hg)
            have ck2 : w2.cell? ⟨bF, oF + j * 3, none⟩ = some (.int .i64 k) := (World.cell?_of_block (a := ⟨bF, oF + j * 3, none⟩) (hg2.block bF (Nat.lt_of_lt_of_le hbF hbel.size) (fun e => by cases e; omega))).trans ck
            have HR2 := Lib.hid hR2
            have HB2 := Lib.hid hB2
            clear hR2 hB2
            go_wp2_with (go_at_call 11; refine (HSH.out _).mono ?_; rintro e wy ⟨rfl, rfl⟩)
            go_wp2_with (first | (go_at_call 30; refine (rerr_any _ g _ _ _ _ (by exact HR2.out)).mono ?_; rintro e wx ⟨rfl, rfl⟩) | (go_at_call 29; refine (rleft_any _ g _ _ _ _ (by exact HR2.out)).mono ?_; rintro e wx ⟨rfl, rfl⟩))
            go_roundw
            case rel => exact ⟨j + 1, er, L, A3, A5, c3, c5, by omega, hL, by go_num, rfl, rfl, hB3, HR2.out, HB2.out, hbel2⟩
            case measure => simp [intOf]; omega
            
      · clear h hB hR hR4 hB4 hB3 hF hcap3 hmax3
        go_wp2_with fail
        refine (live2_any _).mono ?_
        rintro e w2 ⟨rfl, hb2⟩
        have hs2 := hbel.trans (hb2.mono hbel.size)
        go_wp2_with fail
        refine (rnum_nil _ _).mono ?_
        rintro e w3 ⟨rfl, hb3⟩
        have hs3 := below_trans' hs2 hb3
        go_wp2_with fail
        refine (rraw_nil _ _).mono ?_
        rintro e w4 ⟨rfl, hb4⟩
        have hs4 := below_trans' hs3 hb4
        go_wp2_with fail
        refine (rleft_nil _).mono ?_
        rintro e w5 ⟨rfl, hb5⟩
        have hs5 := below_trans' hs4 hb5
        go_wp2_with fail
        refine (rerr_nil _).mono ?_
        rintro e w6 ⟨rfl, hb6⟩
        have hs6 := below_trans' hs5 hb6
        go_wp2
        go_ret
        exact ⟨rfl, hs6⟩
  · have hl := h.len
    subst hl
    go_enter Try.func8, Try.ntmps8
    go_wp2_with fail
    refine (new_any _ _ _ _ _ h (by omega)).mono ?_
    rintro e w1 ⟨g, A1, c1, rfl, hg, hR, hB, hb1⟩
    go_wp2_with fail
    go_loopw [8, 7, 6] (Rel w g 20) (fun i _ _ _ => 20 - (intOf i).toNat)
    case atStart => exact ⟨0, 0, l, A, A1, c, c1, Nat.zero_le _, by omega, rfl, rfl, rfl, h, hR, hB, hb1⟩
    case round =>
      obtain ⟨j, er, L, A3, A4, c3, c4, hj, hL, rfl, rfl, rfl, hB3, hR4, hB4, hbel⟩ := hrel
      have hcap3 := hB3.cap
      have hmax3 := hB3.max
      simp only [maxLen] at hmax3
      by_cases hlt : j < 20
      · obtain ⟨bF, oF, rfl, hbF, hcF⟩ := hF.cells (by omega)
        have hf := (hcF j hlt).keep hbF (fun b o hb => hbel.cell (p := ⟨b, o, none⟩) hb)
        have ck := hf.ck
        have cb := hf.cb
        have rk := hf.rk
        have hfb := hf.byt.cap
        have hfm := hf.byt.max
        simp only [maxLen] at hfm
        generalize fs j = f at hf ck cb rk hfb hfm
        obtain ⟨k, nn, fA, fm, fc, fl⟩ := f
        simp only at ck cb rk hfb hfm
        rw [Nat.mul_comm] at ck cb
        have HFF := Lib.hid hf
        have HCF := Lib.hid hcF
        clear hf hcF h hB hR
        by_cases hk : k = 8
        · subst hk
          by_cases he : er = 0
          · subst he
            by_cases hq0 : fm = 0
            · subst hq0
              have hE : rrE 0 (((0 : Nat) : Int) - 1) L = 2 := by unfold rrE fe lackE; rw [if_pos rfl, if_pos (by omega)]
              have hra := rr_bad hE (by omega)
              have hraw := rraw_any wr g 0 (((0 : Nat) : Int) - 1) A4 L.length c4 L hR4 hB4 (by omega)
              unfold RrPost at hraw
              rw [hE, hra.1, hra.2] at hraw
              have HRAW := Lib.hid hraw
              have HR4 := Lib.hid hR4
              have HB4 := Lib.hid hB4
              clear hE hra hraw hR4 hB4
              go_wp2_with fail
              refine HRAW.out.mono ?_
              rintro e w2 ⟨A5, c5, Ax, cx, rfl, hx, hR2, hB2, hg2⟩
              have HR2 := Lib.hid hR2
              have HB2 := Lib.hid hB2
              clear hx hR2 hB2
              go_wp2_with (first | (go_at_call 30; refine (rerr_any _ g _ _ _ _ (by exact HR2.out)).mono ?_; rintro e wx ⟨rfl, rfl⟩) | (go_at_call 29; refine (rleft_any _ g _ _ _ _ (by exact HR2.out)).mono ?_; rintro e wx ⟨rfl, rfl⟩))
              go_roundw
              case rel => exact ⟨j + 1, 2, L, A3, A5, c3, c5, by omega, hL, by go_num, rfl, rfl, hB3, HR2.out, HB2.out, hbel.grown hg2 hbel.size (fun t ht => by cases ht; exact hg)⟩
              case measure => simp [intOf]; omega
              
            · obtain ⟨q, rfl⟩ : ∃ q : Nat, fm = q + 1 := ⟨fm - 1, by omega⟩
              by_cases hqL : L.length < q
              · have hE : rrE 0 (q : Int) L = 5 := by unfold rrE fe lackE; rw [if_pos rfl, if_neg (by omega), if_pos (by omega)]
                have hra := rr_bad hE (by omega)
                have hraw := rraw_any wr g 0 (q : Int) A4 L.length c4 L hR4 hB4 (by omega)
                unfold RrPost at hraw
                rw [hE, hra.1, hra.2] at hraw
                have HRAW := Lib.hid hraw
                have HR4 := Lib.hid hR4
                have HB4 := Lib.hid hB4
                clear hE hra hraw hR4 hB4
                go_wp2_with fail
                refine HRAW.out.mono ?_
                rintro e w2 ⟨A5, c5, Ax, cx, rfl, hx, hR2, hB2, hg2⟩
                have HR2 := Lib.hid hR2
                have HB2 := Lib.hid hB2
                clear hx hR2 hB2
                go_wp2_with (first | (go_at_call 30; refine (rerr_any _ g _ _ _ _ (by exact HR2.out)).mono ?_; rintro e wx ⟨rfl, rfl⟩) | (go_at_call 29; refine (rleft_any _ g _ _ _ _ (by exact HR2.out)).mono ?_; rintro e wx ⟨rfl, rfl⟩))
                go_roundw
                case rel => exact ⟨j + 1, 5, L, A3, A5, c3, c5, by omega, hL, by go_num, rfl, rfl, hB3, HR2.out, HB2.out, hbel.grown hg2 hbel.size (fun t ht => by cases ht; exact hg)⟩
                case measure => simp [intOf]; omega
                
              · have hE : rrE 0 (q : Int) L = 0 := by unfold rrE fe lackE; rw [if_pos rfl, if_neg (by omega), if_neg (by omega)]
                have e1 : rrA 0 (q : Int) L = L.take q := by unfold rrA; rw [if_pos hE]; rfl
                have e2 : rrL 0 (q : Int) L = L.drop q := by unfold rrL; rw [if_pos hE]; rfl
                have hraw := rraw_any wr g 0 (q : Int) A4 L.length c4 L hR4 hB4 (by omega)
                unfold RrPost at hraw
                rw [hE, e1, e2, List.length_take, Nat.min_eq_left (by omega), List.length_drop] at hraw
                have HRAW := Lib.hid hraw
                have HR4 := Lib.hid hR4
                have HB4 := Lib.hid hB4
                have hqL2 : q ≤ L.length := by omega
                have hcut := hB3.cut hqL2
                have HCUT := Lib.hid hcut
                have HB3 := Lib.hid hB3
                clear hE e1 e2 hraw hR4 hB4 hB3 hcut
                go_wp2_with fail
                refine HRAW.out.mono ?_
                rintro e w2 ⟨A5, c5, Ax, cx, rfl, hx, hR2, hB2, hg2⟩
                have hbel2 := hbel.grown hg2 hbel.size (fun t ht => by cases ht; exact hg)
                have hleft : Byt w2 w2.heap.size A3 q c3 (L.take q) := ((HB3.out.take hqL2).below hbel2).more hbel2.size
                have hsm := same_any hx hleft
                rw [decide_eq_true rfl] at hsm
                have HSM := Lib.hid hsm
                have HR2 := Lib.hid hR2
                have HB2 := Lib.hid hB2
                clear hx hR2 hB2 hleft hsm
                go_wp2_with fail
                refine HSM.out.mono ?_
                rintro e w3 ⟨rfl, rfl⟩
                go_wp2_with (first | (go_at_call 30; refine (rerr_any _ g _ _ _ _ (by exact HR2.out)).mono ?_; rintro e wx ⟨rfl, rfl⟩) | (go_at_call 29; refine (rleft_any _ g _ _ _ _ (by exact HR2.out)).mono ?_; rintro e wx ⟨rfl, rfl⟩))
                go_roundw
                case rel => exact ⟨j + 1, 0, L.drop q, if c3 = q then A3 else Option.map (fun x => x.add q) A3, A5, c3 - q, c5, by omega, by rw [List.length_drop]; omega, by go_num, rfl, by rw [List.length_drop], by rw [List.length_drop]; exact HCUT.out, by rw [List.length_drop]; exact HR2.out, by rw [List.length_drop]; exact HB2.out, hbel2⟩
                case measure => simp [intOf]; omega
                
          · have he1 : (er == 0) = false := by simp [he]
            have he2 : (er != 0) = true := by simp [he]
            have hE : rrE er ((fm : Int) - 1) L = er := by unfold rrE fe; rw [if_neg he]
            have hra := rr_bad hE (by omega)
            have hraw := rraw_any wr g er ((fm : Int) - 1) A4 L.length c4 L hR4 hB4 (by omega)
            unfold RrPost at hraw
            rw [hE, hra.1, hra.2] at hraw
            have HRAW := Lib.hid hraw
            have HR4 := Lib.hid hR4
            have HB4 := Lib.hid hB4
            clear hE hra hraw hR4 hB4
            go_wp2_with fail
            refine HRAW.out.mono ?_
            rintro e w2 ⟨A5, c5, Ax, cx, rfl, hx, hR2, hB2, hg2⟩
            have HR2 := Lib.hid hR2
            have HB2 := Lib.hid hB2
            clear hx hR2 hB2
            go_wp2_with (first | (go_at_call 30; refine (rerr_any _ g _ _ _ _ (by exact HR2.out)).mono ?_; rintro e wx ⟨rfl, rfl⟩) | (go_at_call 29; refine (rleft_any _ g _ _ _ _ (by exact HR2.out)).mono ?_; rintro e wx ⟨rfl, rfl⟩))
            go_roundw
            case rel => exact ⟨j + 1, er, L, A3, A5, c3, c5, by omega, hL, by go_num, rfl, rfl, hB3, HR2.out, HB2.out, hbel.grown hg2 hbel.size (fun t ht => by cases ht; exact hg)⟩
            case measure => simp [intOf]; omega
            
        · have hk8 : (k == 8) = false := by simp [hk]
          by_cases he : er = 0
          · subst he
            have hkb := k_bounds k
            by_cases hk0 : kSize k = 0
            · have hE : rnE 0 k L = 2 := by unfold rnE fe nextE; rw [if_pos rfl, if_pos hk0]
              have hra := rn_bad hE (by omega)
              have hraw := rnum2_any wr g 0 k A4 L.length c4 L hR4 hB4
              unfold RnPost at hraw
              rw [hE, hra.1, hra.2] at hraw
              have HRAW := Lib.hid hraw
              have hsh := fun w => shape_any k w
              rw [hk0] at hsh
              have HSH := Lib.hid hsh
              have HR4 := Lib.hid hR4
              have HB4 := Lib.hid hB4
              clear hE hra hraw hR4 hB4 hsh
              go_wp2_with fail
              refine HRAW.out.mono ?_
              rintro e w2 ⟨A5, c5, rfl, hR2, hB2, hg2⟩
              have hbel2 := hbel.grown hg2 hbel.size (fun t ht => by cases ht; exact hg)
              have ck2 : w2.cell? ⟨bF, oF + j * 3, none⟩ = some (.int .i64 k) := (World.cell?_of_block (a := ⟨bF, oF + j * 3, none⟩) (hg2.block bF (Nat.lt_of_lt_of_le hbF hbel.size) (fun e => by cases e; omega))).trans ck
              have HR2 := Lib.hid hR2
              have HB2 := Lib.hid hB2
              clear hR2 hB2
              go_wp2_with (go_at_call 11; refine (HSH.out _).mono ?_; rintro e wy ⟨rfl, rfl⟩)
              go_wp2_with (first | (go_at_call 30; refine (rerr_any _ g _ _ _ _ (by exact HR2.out)).mono ?_; rintro e wx ⟨rfl, rfl⟩) | (go_at_call 29; refine (rleft_any _ g _ _ _ _ (by exact HR2.out)).mono ?_; rintro e wx ⟨rfl, rfl⟩))
              go_roundw
              case rel => exact ⟨j + 1, 2, L, A3, A5, c3, c5, by omega, hL, by go_num, rfl, rfl, hB3, HR2.out, HB2.out, hbel2⟩
              case measure => simp [intOf]; omega
              
            · obtain ⟨s, hs⟩ : ∃ s : Nat, kSize k = s := ⟨(kSize k).toNat, by omega⟩
              have hs0 : ((s : Int) == 0) = false := by simp; omega
              by_cases hsL : L.length < s
              · have hE : rnE 0 k L = 5 := by unfold rnE fe nextE; rw [if_pos rfl, if_neg hk0, if_pos (by omega)]
                have hra := rn_bad hE (by omega)
                have hraw := rnum2_any wr g 0 k A4 L.length c4 L hR4 hB4
                unfold RnPost at hraw
                rw [hE, hra.1, hra.2] at hraw
                have HRAW := Lib.hid hraw
                have hsh := fun w => shape_any k w
                rw [hs] at hsh
                have HSH := Lib.hid hsh
                have HR4 := Lib.hid hR4
                have HB4 := Lib.hid hB4
                clear hE hra hraw hR4 hB4 hsh
                go_wp2_with fail
                refine HRAW.out.mono ?_
                rintro e w2 ⟨A5, c5, rfl, hR2, hB2, hg2⟩
                have hbel2 := hbel.grown hg2 hbel.size (fun t ht => by cases ht; exact hg)
                have ck2 : w2.cell? ⟨bF, oF + j * 3, none⟩ = some (.int .i64 k) := (World.cell?_of_block (a := ⟨bF, oF + j * 3, none⟩) (hg2.block bF (Nat.lt_of_lt_of_le hbF hbel.size) (fun e => by cases e; omega))).trans ck
                have HR2 := Lib.hid hR2
                have HB2 := Lib.hid hB2
                clear hR2 hB2
                go_wp2_with (go_at_call 11; refine (HSH.out _).mono ?_; rintro e wy ⟨rfl, rfl⟩)
                go_wp2_with (first | (go_at_call 30; refine (rerr_any _ g _ _ _ _ (by exact HR2.out)).mono ?_; rintro e wx ⟨rfl, rfl⟩) | (go_at_call 29; refine (rleft_any _ g _ _ _ _ (by exact HR2.out)).mono ?_; rintro e wx ⟨rfl, rfl⟩))
                go_roundw
                case rel => exact ⟨j + 1, 5, L, A3, A5, c3, c5, by omega, hL, by go_num, rfl, rfl, hB3, HR2.out, HB2.out, hbel2⟩
                case measure => simp [intOf]; omega
                
              · have hnE : nextE k L = getE k (L.take s) := by unfold nextE; rw [if_neg hk0, if_neg (by omega), hs]; rfl
                have hnN : nextN k L = getN k (L.take s) := by unfold nextN; rw [if_neg (by omega), hs]; rfl
                have hsL2 : s ≤ L.length := by omega
                have hE : rnE 0 k L = getE k (L.take s) := by unfold rnE fe; rw [if_pos rfl, hnE]
                have hsh := fun w => shape_any k w
                rw [hs] at hsh
                have HSH := Lib.hid hsh
                have hcut := hB3.cut hsL2
                have HCUT := Lib.hid hcut
                have HBT := Lib.hid (hB3.take hsL2)
                have HB3 := Lib.hid hB3
                by_cases hge : getE k (L.take s) = 0
                · rw [hge] at hE hnE
                  have e1 : rnN 0 k L = getN k (L.take s) := by unfold rnN; rw [if_pos hE, hnN]
                  have e2 : rnL 0 k L = L.drop s := by unfold rnL; rw [if_pos hE, hs]; rfl
                  have hraw := rnum2_any wr g 0 k A4 L.length c4 L hR4 hB4
                  unfold RnPost at hraw
                  rw [hE, e1, e2, List.length_drop] at hraw
                  have HRAW := Lib.hid hraw
                  have HGE := Lib.hid hge
                  have HR4 := Lib.hid hR4
                  have HB4 := Lib.hid hB4
                  clear hE e1 e2 hraw hR4 hB4 hB3 hcut hnE hnN hge hsh hs
                  go_wp2_with fail
                  refine HRAW.out.mono ?_
                  rintro e w2 ⟨A5, c5, rfl, hR2, hB2, hg2⟩
                  have hbel2 := hbel.grown hg2 hbel.size (fun t ht => by cases ht; exact hg)
                  have ck2 : w2.cell? ⟨bF, oF + j * 3, none⟩ = some (.int .i64 k) := (World.cell?_of_block (a := ⟨bF, oF + j * 3, none⟩) (hg2.block bF (Nat.lt_of_lt_of_le hbF hbel.size) (fun e => by cases e; omega))).trans ck
                  have HR2 := Lib.hid hR2
                  have HB2 := Lib.hid hB2
                  clear hR2 hB2
                  go_wp2_with (go_at_call 11; refine (HSH.out _).mono ?_; rintro e wy ⟨rfl, rfl⟩)
                  have hleft : Byt w2 w2.heap.size A3 s c3 (L.take s) := (HBT.out.below hbel2).more hbel2.size
                  have hgt : ∀ mm, Calls Try.prog 19 #[.int .i64 k, .slice A3 s c3] (w2.drewN mm) fun e w' => e = .returned (.tuple #[.int .i64 (getN k (L.take s)), .int .i64 (getE k (L.take s))]) ∧ w' = w2.drewN mm := fun mm => (sget_any k (w2.drewN mm) A3 s c3 (L.take s) (hleft.drewN mm)).mono fun _ _ h => ⟨h.1.1, h.2⟩
                  rw [HGE.out] at hgt
                  have HGT := Lib.hid hgt
                  have hsc : s ≤ c3 := by omega
                  have hsc2 : (s : Int) ≤ (c3 : Int) := by omega
                  have hgl : g < w2.heap.size := HR2.out.lt
                  clear hleft hgt
                  go_quiet ((go_at_call 19; exact Calls.quiet_of_same (HGT.out _)))
                  have HR3 : Hid (RdAt (w2.drewN nq) g _ A5 _ c5) := HR2.out
                  have HB3n := Lib.hid (HB2.out.drewN nq)
                  have hbel3 := below_drewN hbel2 nq
                  go_wp2_with (first | (go_at_call 30; refine (rerr_any _ g _ _ _ _ (by exact HR3.out)).mono ?_; rintro e wx ⟨rfl, rfl⟩) | (go_at_call 29; refine (rleft_any _ g _ _ _ _ (by exact HR3.out)).mono ?_; rintro e wx ⟨rfl, rfl⟩))
                  go_roundw
                  case rel => exact ⟨j + 1, 0, L.drop s, if c3 = s then A3 else Option.map (fun x => x.add s) A3, A5, c3 - s, c5, by omega, by rw [List.length_drop]; omega, by go_num, rfl, by rw [List.length_drop], by rw [List.length_drop]; exact HCUT.out, by rw [List.length_drop]; exact HR3.out, by rw [List.length_drop]; exact HB3n.out, hbel3⟩
                  case measure => simp [intOf]; omega
                · have hra := rn_bad hE hge
                  have hraw := rnum2_any wr g 0 k A4 L.length c4 L hR4 hB4
                  unfold RnPost at hraw
                  rw [hE, hra.1, hra.2] at hraw
                  have hd1 : (getE k (L.take s) == 0) = false := by simp [hge]
                  have HRAW := Lib.hid hraw
                  have HGE := Lib.hid hge
                  have HR4 := Lib.hid hR4
                  have HB4 := Lib.hid hB4
                  clear hE hra hraw hR4 hB4 hB3 hcut hnE hnN hge hsh hs
                  go_wp2_with fail
                  refine HRAW.out.mono ?_
                  rintro e w2 ⟨A5, c5, rfl, hR2, hB2, hg2⟩
                  have hbel2 := hbel.grown hg2 hbel.size (fun t ht => by cases ht; exact hg)
                  have ck2 : w2.cell? ⟨bF, oF + j * 3, none⟩ = some (.int .i64 k) := (World.cell?_of_block (a := ⟨bF, oF + j * 3, none⟩) (hg2.block bF (Nat.lt_of_lt_of_le hbF hbel.size) (fun e => by cases e; omega))).trans ck
                  have HR2 := Lib.hid hR2
                  have HB2 := Lib.hid hB2
                  clear hR2 hB2
                  go_wp2_with (go_at_call 11; refine (HSH.out _).mono ?_; rintro e wy ⟨rfl, rfl⟩)
                  have hleft : Byt w2 w2.heap.size A3 s c3 (L.take s) := (HBT.out.below hbel2).more hbel2.size
                  have hgt : ∀ mm, Calls Try.prog 19 #[.int .i64 k, .slice A3 s c3] (w2.drewN mm) fun e w' => e = .returned (.tuple #[.int .i64 (getN k (L.take s)), .int .i64 (getE k (L.take s))]) ∧ w' = w2.drewN mm := fun mm => (sget_any k (w2.drewN mm) A3 s c3 (L.take s) (hleft.drewN mm)).mono fun _ _ h => ⟨h.1.1, h.2⟩
                  rw [get_bad HGE.out] at hgt
                  have HGT := Lib.hid hgt
                  have hsc : s ≤ c3 := by omega
                  have hsc2 : (s : Int) ≤ (c3 : Int) := by omega
                  have hgl : g < w2.heap.size := HR2.out.lt
                  clear hleft hgt
                  go_quiet ((go_at_call 19; exact Calls.quiet_of_same (HGT.out _)))
                  have HR3 : Hid (RdAt (w2.drewN nq) g _ A5 _ c5) := HR2.out
                  have HB3n := Lib.hid (HB2.out.drewN nq)
                  have hbel3 := below_drewN hbel2 nq
                  go_wp2_with (first | (go_at_call 30; refine (rerr_any _ g _ _ _ _ (by exact HR3.out)).mono ?_; rintro e wx ⟨rfl, rfl⟩) | (go_at_call 29; refine (rleft_any _ g _ _ _ _ (by exact HR3.out)).mono ?_; rintro e wx ⟨rfl, rfl⟩))
                  go_roundw
                  case rel => exact ⟨j + 1, getE k (L.take s), L, A3, A5, c3, c5, by omega, hL, by go_num, rfl, rfl, HB3.out, HR3.out, HB3n.out, hbel3⟩
                  case measure => simp [intOf]; omega
                
          · have he1 : (er == 0) = false := by simp [he]
            have he2 : (er != 0) = true := by simp [he]
            have hss : kSize k = kSize k := rfl
            have hE : rnE er k L = er := by unfold rnE fe; rw [if_neg he]
            have hra := rn_bad hE (by omega)
            have hraw := rnum2_any wr g er k A4 L.length c4 L hR4 hB4
            unfold RnPost at hraw
            rw [hE, hra.1, hra.2] at hraw
            have HRAW := Lib.hid hraw
            have hsh := fun w => shape_any k w
            rw [← hss] at hsh
            have HSH := Lib.hid hsh
            have HR4 := Lib.hid hR4
            have HB4 := Lib.hid hB4
            clear hE hra hraw hR4 hB4 hsh
            go_wp2_with fail
            refine HRAW.out.mono ?_
            rintro e w2 ⟨A5, c5, rfl, hR2, hB2, hg2⟩
            have hbel2 := hbel.grown hg2 hbel.size (fun t ht => by cases ht; exact hg)
            have ck2 : w2.cell? ⟨bF, oF + j * 3, none⟩ = some (.int .i64 k) := (World.cell?_of_block (a := ⟨bF, oF + j * 3, none⟩) (hg2.block bF (Nat.lt_of_lt_of_le hbF hbel.size) (fun e => by cases e; omega))).trans ck
            have HR2 := Lib.hid hR2
            have HB2 := Lib.hid hB2
            clear hR2 hB2
            go_wp2_with (go_at_call 11; refine (HSH.out _).mono ?_; rintro e wy ⟨rfl, rfl⟩)
            go_wp2_with (first | (go_at_call 30; refine (rerr_any _ g _ _ _ _ (by exact HR2.out)).mono ?_; rintro e wx ⟨rfl, rfl⟩) | (go_at_call 29; refine (rleft_any _ g _ _ _ _ (by exact HR2.out)).mono ?_; rintro e wx ⟨rfl, rfl⟩))
            go_roundw
            case rel => exact ⟨j + 1, er, L, A3, A5, c3, c5, by omega, hL, by go_num, rfl, rfl, hB3, HR2.out, HB2.out, hbel2⟩
            case measure => simp [intOf]; omega
            
      · clear h hB hR hR4 hB4 hB3 hF hcap3 hmax3
        go_wp2_with fail
        refine (live2_any _).mono ?_
        rintro e w2 ⟨rfl, hb2⟩
        have hs2 := hbel.trans (hb2.mono hbel.size)
        go_wp2_with fail
        refine (rnum_nil _ _).mono ?_
        rintro e w3 ⟨rfl, hb3⟩
        have hs3 := below_trans' hs2 hb3
        go_wp2_with fail
        refine (rraw_nil _ _).mono ?_
        rintro e w4 ⟨rfl, hb4⟩
        have hs4 := below_trans' hs3 hb4
        go_wp2_with fail
        refine (rleft_nil _).mono ?_
        rintro e w5 ⟨rfl, hb5⟩
        have hs5 := below_trans' hs4 hb5
        go_wp2_with fail
        refine (rerr_nil _).mono ?_
        rintro e w6 ⟨rfl, hb6⟩
        have hs6 := below_trans' hs5 hb6
        go_wp2
        go_ret
        exact ⟨rfl, hs6⟩

theorem walk (A : Option Addr) (n c : Nat) (l : List Int) (AF : Option Addr) (m cF : Nat) (fs : Nat → FieldV) (w : World) (h : Byt w w.heap.size A n c l) (hF : Flds w w.heap.size AF m cF fs) :
    Calls Try.prog 8 #[.slice A n c, .slice AF m cF] w fun e w' => e = .returned (.bool true) ∧ Below w.heap.size w w' := by
  by_cases hn : 100 < n
  · go_enter Try.func8, Try.ntmps8
    go_wp2_with fail
    refine (live2_any _).mono ?_
    rintro e w1 ⟨rfl, hb⟩
    go_wp2
    go_ret
    exact ⟨rfl, hb⟩
  · by_cases h20 : m ≤ 20
    · exact rest A n c l AF m cF fs w h hF hn m (.inl ⟨rfl, h20⟩)
    · exact rest A n c l AF m cF fs w h hF hn 20 (.inr ⟨rfl, by omega⟩)

theorem own : ownKnob Try.prog.godebug = none := by kernel_rfl
theorem laidOut : laidOutB Try.prog = true := by kernel_rfl


set_option maxRecDepth 100000 in
theorem lifted (os : Os) (started : os.Started) (H : Type) (enc : TypeId × Value → H) :
    ReturnsInHanded {} Try.checked os 8 .any (Rows.wordReadsSpec.pre6 enc Try.prog Try.f8 Rows.wordReadsRow.domain false) (Rows.wordReadsSpec.post enc Try.prog Try.f8 false true false false) := by
  refine returnsInHanded_of_change (C := Try.checked) own started (by kernel_rfl) Try.func8
    (ChangeSpec.witness6 (enc := enc) (C := Try.checked) false ⟨#[], #[.slice none 0 0, .slice none 0 0], []⟩ 8 (by kernel_rfl) (by kernel_rfl) (by kernel_rfl) (by kernel_rfl)) ?_
  intro W base args ds gs before hval0 hW hcnd _
  have hval : ∀ (j : Nat) t v, Try.f8.params[j]? = some t → args[j]? = some v → Value.okWide Try.prog W .any base t v := hval0
  have hW' := hW
  obtain ⟨p, q, hA0, hV, rfl, hfz, hnd⟩ := hW
  have hA : DataW.TrodAll enc Try.prog W 0 (fun _ => true) true Try.f8.params.toList args.toList ds p := hA0
  rw [Try.params8] at hA hval
  obtain ⟨v0, vs0, d0, ds0, p0, q0, hargs, rfl, rfl, h0, r0⟩ := trodAll_cons hA
  obtain ⟨v1, vs1, d1, ds1, p1, q1, rfl, rfl, rfl, h1, r1⟩ := trodAll_cons r0
  obtain ⟨rfl, rfl, rfl⟩ := trodAll_nil r1
  obtain rfl : args = #[v0, v1] := by cases args; simp_all
  obtain ⟨rfl, rfl⟩ := trodVars_none hV
  obtain ⟨a0, len0, cap0, rfl⟩ := okWide_slice Try.underlying22 (hval 0 22 v0 rfl rfl)
  have k0 := h0
  have lt0 : ∀ x ∈ p0, x.block < W.heap.size := by obtain ⟨m, hm⟩ := k0; exact DataW.trod_lt m _ _ _ hm
  obtain ⟨z0, w0⟩ : ∃ zs, Byt W W.heap.size a0 len0 cap0 zs := by
    obtain ⟨fuel, hf⟩ := h0
    rcases open_ints Try.underlying22 Try.underlying5 (by kernel_rfl) hf with ⟨hcs, _⟩ | ⟨x, l, c, zs, hcs, _, hl, hm, hz, _, hcell, hwz⟩
    · simp [Value.cells] at hcs
      obtain ⟨rfl, rfl, rfl⟩ := hcs
      exact ⟨[], Byt.nil_ _ _⟩
    · simp [Value.cells] at hcs
      obtain ⟨rfl, rfl, rfl⟩ := hcs
      exact ⟨_, byt_of_row hl hm (by simpa using hz) hcell hwz⟩
  obtain ⟨a1, len1, cap1, rfl⟩ := okWide_slice Try.underlying41 (hval 1 41 v1 rfl rfl)
  have k1 := h1
  have lt1 : ∀ x ∈ p1, x.block < W.heap.size := by obtain ⟨m, hm⟩ := k1; exact DataW.trod_lt m _ _ _ hm
  obtain ⟨z1, w1⟩ : ∃ fs, Flds W W.heap.size a1 len1 cap1 fs := by
    obtain ⟨fuel, hf⟩ := h1
    exact flds_of_trod (by simpa [Value.cells] using hf)
  clear hA0 hval0
  refine (walk a0 len0 cap0 z0 a1 len1 cap1 z1 W w0 w1).mono fun e W' ⟨he, bel⟩ => ?_
  subst he
  exact ⟨_, rfl, _, _, _, [], _, [], hW', trodAll_mk1 (shut_bool Try.underlying4 _), (trodAll_cons_mk (Below.trod laidOut (by kernel_rfl) (of_decide_eq_true (by kernel_rfl)) k0 bel lt0) (trodAll_cons_mk (Below.trod laidOut (by kernel_rfl) (of_decide_eq_true (by kernel_rfl)) k1 bel lt1) trodAll_mk0)), rfl, bel.frame _, fun h => by cases h⟩

theorem over : Rows.wordReadsRow.holds Try.pinned (OpenSpec.ofChange Rows.wordReadsSpec) :=
  OpenClaim.holds_of_wide 8 Try.f8 rfl rfl rfl rfl rfl rfl rfl ⟨rfl, rfl, rfl, rfl, rfl⟩ rfl rfl rfl rfl rfl (by kernel_rfl) Try.func8 (by kernel_rfl)
    (of_decide_eq_true (by kernel_rfl)) (by unfold Func.isWrapper; first | (rw [if_pos (by decide +kernel)]; kernel_rfl) | (rw [if_neg (by decide +kernel)]; exact ⟨rfl, rfl⟩))
    (fun os started H enc _ => lifted os started H enc)

theorem proved : Rows.WordReadsSaid := over
end Go.Proofs.Ytjkigjefgfcaaab.wordReads
