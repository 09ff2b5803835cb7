/- What the reader's frame answers. -/
import Derived.Test.YtkgnhmddnfmhjaaWireH
namespace Go.Proofs.Ytkgnhmddnfmhjaa
open Go.RowKit

theorem head_len' {b : List Int} {s u : RS} {i r nn : Int} (h : HeadR b s i r nn u) : u.co.length = s.co.length + 19 := by
  obtain ⟨s1, s2, s3, s5, hb1, hb2, _, hb3, hb4, hb5, _, _⟩ := h
  have hl1 := bitO_len hb1
  have hl2 := bitsO_len hb2
  have hl3 := bitO_len hb3
  have hl5 := zO_len 2 hb4
  have hl6 := bitsO_len hb5
  omega
theorem head_nn {b : List Int} {s u : RS} {i r nn : Int} (h : HeadR b s i r nn u) : 0 ≤ nn ∧ nn ≤ 8 := by
  obtain ⟨s1, s2, s3, s5, hb1, hb2, _, hb3, hb4, hb5, rfl, h8⟩ := h
  exact ⟨(numV_bounds hb5).1, h8⟩
section
variable {B g n c : Nat} {A : Option Addr} {b : List Int} {v : Value} {s u1 u2 u3 u4 : RS} {w0 : World} {i nn : Int} {l : List Int}
set_option maxHeartbeats 4000000 in
theorem frame_rtr (h : Rd B g A n c b v s w0) (hh : HeadR b s i 1 nn u1) (hb3 : bitsO b 15 u1 = some u3) (hcr : numV u1 u3 = ((remN 15 17817 0 u1.co : Nat) : Int)) (hb4 : betO b u3 = some u4)
    (ht : ∀ k, k < 10 → u4.at_ + k < n ∧ (k ≠ 1 → b.getD (u4.at_ + k) 0 % 2 = 1)) (hk : s.co.length ≤ 100) :
    Calls Try.prog 22 #[.pointer (some ⟨g, 0, none⟩)] w0 fun e w' => e = .returned (.agg #[.int .i64 i, .bool true, .int .i64 nn, .int .u8 0, .int .u8 0, .int .u8 0, .int .u8 0, .int .u8 0, .int .u8 0, .int .u8 0, .int .u8 0]) ∧ ∃ v', Rd B g A n c b v' ⟨u4.at_ + 10, u4.co, u4.la, u4.sm⟩ w' ∧ Mv g v v' w0 w' := by
  have hl1 := head_len' hh
  have hrd := h.step (w' := w0.alloc (.cells #[.int .i64 0, .bool false, .int .i64 0, .int .u8 0, .int .u8 0, .int .u8 0, .int .u8 0, .int .u8 0, .int .u8 0, .int .u8 0, .int .u8 0] 24)) ((Below.refl _ _).alloc (Nat.le_refl _) _)
  have hmv : Mv g v v w0 (w0.alloc (.cells #[.int .i64 0, .bool false, .int .i64 0, .int .u8 0, .int .u8 0, .int .u8 0, .int .u8 0, .int .u8 0, .int .u8 0, .int .u8 0, .int .u8 0] 24)) := Mv.of_below ((Below.refl _ _).alloc (Nat.le_refl _) _)
  have hf := Hf.new h
  have HG := Lib.hid h.glt
  have HR := Lib.hid hrd
  have HM := Lib.hid hmv
  have HF := Lib.hid hf
  have HB3 := Lib.hid hb3
  have HB4 := Lib.hid hb4
  have HCR := Lib.hid hcr
  have HT := Lib.hid ht
  have HH := Lib.hid hh
  clear h hrd hmv hf hb3 hb4 hcr ht hh
  go_enter Try.func22, Try.ntmps22
  go_wp2_with (first
    | (go_at_call 33; refine (head_yes HR.out HH.out (by omega)).mono ?_; rintro e w1 ⟨rfl, v1, h1, hm1⟩; have HN := Lib.hid h1; have HK := Lib.hid (HM.out.trans hm1); have HQ := Lib.hid (HF.out.mv hm1); clear HR HM HF h1 hm1; have HR := HN; have HM := HK; have HF := HQ; clear HN HK HQ; have hne := Hf.new HR.out; have hro : Rd B g A n c b v1 u1 ((w1.alloc (.cells #[.int .i64 0, .bool false, .int .i64 0, .int .u8 0, .int .u8 0, .int .u8 0, .int .u8 0, .int .u8 0, .int .u8 0, .int .u8 0, .int .u8 0] 24)).setRow w1.heap.size #[.int .i64 i, .bool true, .int .i64 nn, .int .u8 0, .int .u8 0, .int .u8 0, .int .u8 0, .int .u8 0, .int .u8 0, .int .u8 0, .int .u8 0]) := (HR.out.step ((Below.refl w1.heap.size w1).alloc (Nat.le_refl _) (.cells #[.int .i64 0, .bool false, .int .i64 0, .int .u8 0, .int .u8 0, .int .u8 0, .int .u8 0, .int .u8 0, .int .u8 0, .int .u8 0, .int .u8 0] 24))).other (grown_setRow _ _ _) HR.out.glt hne.nv; have hmo : Mv g v v1 w0 ((w1.alloc (.cells #[.int .i64 0, .bool false, .int .i64 0, .int .u8 0, .int .u8 0, .int .u8 0, .int .u8 0, .int .u8 0, .int .u8 0, .int .u8 0, .int .u8 0] 24)).setRow w1.heap.size #[.int .i64 i, .bool true, .int .i64 nn, .int .u8 0, .int .u8 0, .int .u8 0, .int .u8 0, .int .u8 0, .int .u8 0, .int .u8 0, .int .u8 0]) := (HM.out.trans (Mv.of_below ((Below.refl w1.heap.size w1).alloc (Nat.le_refl _) (.cells #[.int .i64 0, .bool false, .int .i64 0, .int .u8 0, .int .u8 0, .int .u8 0, .int .u8 0, .int .u8 0, .int .u8 0, .int .u8 0, .int .u8 0] 24)))).other (grown_setRow _ _ _) HM.out.chg.size; have hf3 : Hf w1.heap.size g i nn true (fun _ => 0) v1 ((w1.alloc (.cells #[.int .i64 0, .bool false, .int .i64 0, .int .u8 0, .int .u8 0, .int .u8 0, .int .u8 0, .int .u8 0, .int .u8 0, .int .u8 0, .int .u8 0] 24)).setRow w1.heap.size #[.int .i64 i, .bool true, .int .i64 nn, .int .u8 0, .int .u8 0, .int .u8 0, .int .u8 0, .int .u8 0, .int .u8 0, .int .u8 0, .int .u8 0]) := ⟨hne.fr.row i nn true (fun _ => 0), hne.ne, hne.nv⟩; have hf2 : Hf w0.heap.size g 0 0 false (fun _ => 0) v1 ((w1.alloc (.cells #[.int .i64 0, .bool false, .int .i64 0, .int .u8 0, .int .u8 0, .int .u8 0, .int .u8 0, .int .u8 0, .int .u8 0, .int .u8 0, .int .u8 0] 24)).setRow w1.heap.size #[.int .i64 i, .bool true, .int .i64 nn, .int .u8 0, .int .u8 0, .int .u8 0, .int .u8 0, .int .u8 0, .int .u8 0, .int .u8 0, .int .u8 0]) := ⟨(HF.out.fr.below ((Below.refl w1.heap.size w1).alloc (Nat.le_refl _) (.cells #[.int .i64 0, .bool false, .int .i64 0, .int .u8 0, .int .u8 0, .int .u8 0, .int .u8 0, .int .u8 0, .int .u8 0, .int .u8 0, .int .u8 0] 24)) HF.out.fr.lt).row_other (Nat.ne_of_lt HF.out.fr.lt) _, HF.out.ne, HF.out.nv⟩; have hg3 := HR.out.glt; have hs3 := HM.out.chg.size; have hlt3 := HF.out.fr.lt; have HNE := Lib.hid hne; clear HR HM HF hne; have HR := Lib.hid hro; have HM := Lib.hid hmo; have HF := Lib.hid hf2; have HF3 := Lib.hid hf3; clear hro hmo hf2 hf3)
    | (refine wpList_store_row rfl _ (.tmp 3) (.tmp 6) rfl w1.heap.size _ rfl rfl _ _ HNE.out.fr info_frame rfl (one_frame i nn true (fun _ => 0)) ?_; obtain ⟨c0, c1, c2, c3, c4, c5, c6, c7, c8, c9, c10⟩ := HF3.out.fr.cells; clear HNE c0 c3 c4 c5 c6 c7 c8 c9 c10; generalize World.setRow (World.alloc w1 _) w1.heap.size _ = w3 at HR HM HF HF3 c1 c2 ⊢; generalize w1.heap.size = h3 at HF3 hg3 hs3 hlt3 c1 c2 ⊢)
    | (go_at_call 35; refine (check_yes HR.out HB3.out HB4.out HCR.out (by omega)).mono ?_; rintro e w1 ⟨rfl, v1, h1, hm1⟩; have HN := Lib.hid h1; have HK := Lib.hid (HM.out.trans hm1); have HQ := Lib.hid (HF.out.mv hm1); have HQ3 := Lib.hid (HF3.out.mv hm1); clear HR HM HF HF3 h1 hm1; have HR := HN; have HM := HK; have HF := HQ; have HF3 := HQ3; clear HN HK HQ HQ3)
    | (go_at_call 36; refine (tail_yes HR.out HT.out).mono ?_; rintro e w1 ⟨rfl, h1, hm1⟩; have HN := Lib.hid h1; have HK := Lib.hid (HM.out.trans hm1); have HQ := Lib.hid (HF.out.mv hm1); have HQ3 := Lib.hid (HF3.out.mv hm1); clear HR HM HF HF3 h1 hm1; have HR := HN; have HM := HK; have HF := HQ; have HF3 := HQ3; clear HN HK HQ HQ3)
    | (refine wpList_load_row rfl _ (.tmp 3) rfl h3 rfl _ _ _ _ HF3.out.fr Try.underlying24 rfl info_frame ?_)
    | (refine wpList_store_row rfl _ (.tmp 2) (.tmp 26) rfl w0.heap.size _ rfl rfl _ _ HF.out.fr info_frame rfl (one_frame i nn true (fun _ => 0)) ?_))
  exact bodyPost_ret (results_cell_row rfl _ _ _ _ _ _ _ rfl (HF.out.fr.row i nn true (fun _ => 0)) Try.underlying24 rfl info_frame) rfl ⟨rfl, _, HR.out.other (grown_setRow _ _ _) HG.out HF.out.nv, HM.out.other (grown_setRow _ _ _) (Nat.le_refl _)⟩
theorem dW_snoc (l : List Int) (x : Int) (j : Nat) : (if j = l.length then x else dW l j) = dW (l ++ [x]) j := by
  unfold dW
  by_cases h : j = l.length
  · subst h; simp
  · rw [if_neg h]
    rcases Nat.lt_or_ge j l.length with h1 | h1
    · simp [List.getD, List.getElem?_append_left h1]
    · simp [List.getD, List.getElem?_eq_none h1, List.getElem?_eq_none (show (l ++ [x]).length ≤ j by simp; omega)]
set_option maxHeartbeats 4000000 in
theorem frame_data {k : Nat} (h : Rd B g A n c b v s w0) (hh : HeadR b s i 0 (k : Int) u1) (hd : dO b k u1 = some (l, u2)) (hb3 : bitsO b 15 u2 = some u3) (hcr : numV u2 u3 = ((remN 15 17817 0 u2.co : Nat) : Int)) (hb4 : betO b u3 = some u4)
    (ht : ∀ k, k < 10 → u4.at_ + k < n ∧ (k ≠ 1 → b.getD (u4.at_ + k) 0 % 2 = 1)) (hk : s.co.length ≤ 100) :
    Calls Try.prog 22 #[.pointer (some ⟨g, 0, none⟩)] w0 fun e w' => e = .returned (.agg #[.int .i64 i, .bool false, .int .i64 (k : Int), .int .u8 (dW l 0), .int .u8 (dW l 1), .int .u8 (dW l 2), .int .u8 (dW l 3), .int .u8 (dW l 4), .int .u8 (dW l 5), .int .u8 (dW l 6), .int .u8 (dW l 7)]) ∧ ∃ v', Rd B g A n c b v' ⟨u4.at_ + 10, u4.co, u4.la, u4.sm⟩ w' ∧ Mv g v v' w0 w' := by
  have hl1 := head_len' hh
  have hk8 := (head_nn hh).2
  have hdl := dO_len k hd
  have hrd := h.step (w' := w0.alloc (.cells #[.int .i64 0, .bool false, .int .i64 0, .int .u8 0, .int .u8 0, .int .u8 0, .int .u8 0, .int .u8 0, .int .u8 0, .int .u8 0, .int .u8 0] 24)) ((Below.refl _ _).alloc (Nat.le_refl _) _)
  have hmv : Mv g v v w0 (w0.alloc (.cells #[.int .i64 0, .bool false, .int .i64 0, .int .u8 0, .int .u8 0, .int .u8 0, .int .u8 0, .int .u8 0, .int .u8 0, .int .u8 0, .int .u8 0] 24)) := Mv.of_below ((Below.refl _ _).alloc (Nat.le_refl _) _)
  have hf := Hf.new h
  have HG := Lib.hid h.glt
  have HR := Lib.hid hrd
  have HM := Lib.hid hmv
  have HF := Lib.hid hf
  have HB3 := Lib.hid hb3
  have HB4 := Lib.hid hb4
  have HCR := Lib.hid hcr
  have HT := Lib.hid ht
  have HH := Lib.hid hh
  have HD := Lib.hid hd
  clear h hrd hmv hf hb3 hb4 hcr ht hh hd
  go_enter Try.func22, Try.ntmps22
  go_wp2_with (first
    | (go_at_call 33; refine (head_yes HR.out HH.out (by omega)).mono ?_; rintro e w1 ⟨rfl, v1, h1, hm1⟩; have HN := Lib.hid h1; have HK := Lib.hid (HM.out.trans hm1); have HQ := Lib.hid (HF.out.mv hm1); clear HR HM HF h1 hm1; have HR := HN; have HM := HK; have HF := HQ; clear HN HK HQ; have hne := Hf.new HR.out; have hro : Rd B g A n c b v1 u1 ((w1.alloc (.cells #[.int .i64 0, .bool false, .int .i64 0, .int .u8 0, .int .u8 0, .int .u8 0, .int .u8 0, .int .u8 0, .int .u8 0, .int .u8 0, .int .u8 0] 24)).setRow w1.heap.size #[.int .i64 i, .bool false, .int .i64 (k : Int), .int .u8 0, .int .u8 0, .int .u8 0, .int .u8 0, .int .u8 0, .int .u8 0, .int .u8 0, .int .u8 0]) := (HR.out.step ((Below.refl w1.heap.size w1).alloc (Nat.le_refl _) (.cells #[.int .i64 0, .bool false, .int .i64 0, .int .u8 0, .int .u8 0, .int .u8 0, .int .u8 0, .int .u8 0, .int .u8 0, .int .u8 0, .int .u8 0] 24))).other (grown_setRow _ _ _) HR.out.glt hne.nv; have hmo : Mv g v v1 w0 ((w1.alloc (.cells #[.int .i64 0, .bool false, .int .i64 0, .int .u8 0, .int .u8 0, .int .u8 0, .int .u8 0, .int .u8 0, .int .u8 0, .int .u8 0, .int .u8 0] 24)).setRow w1.heap.size #[.int .i64 i, .bool false, .int .i64 (k : Int), .int .u8 0, .int .u8 0, .int .u8 0, .int .u8 0, .int .u8 0, .int .u8 0, .int .u8 0, .int .u8 0]) := (HM.out.trans (Mv.of_below ((Below.refl w1.heap.size w1).alloc (Nat.le_refl _) (.cells #[.int .i64 0, .bool false, .int .i64 0, .int .u8 0, .int .u8 0, .int .u8 0, .int .u8 0, .int .u8 0, .int .u8 0, .int .u8 0, .int .u8 0] 24)))).other (grown_setRow _ _ _) HM.out.chg.size; have hf3 : Hf w1.heap.size g i (k : Int) false (fun _ => 0) v1 ((w1.alloc (.cells #[.int .i64 0, .bool false, .int .i64 0, .int .u8 0, .int .u8 0, .int .u8 0, .int .u8 0, .int .u8 0, .int .u8 0, .int .u8 0, .int .u8 0] 24)).setRow w1.heap.size #[.int .i64 i, .bool false, .int .i64 (k : Int), .int .u8 0, .int .u8 0, .int .u8 0, .int .u8 0, .int .u8 0, .int .u8 0, .int .u8 0, .int .u8 0]) := ⟨hne.fr.row i (k : Int) false (fun _ => 0), hne.ne, hne.nv⟩; have hf2 : Hf w0.heap.size g 0 0 false (fun _ => 0) v1 ((w1.alloc (.cells #[.int .i64 0, .bool false, .int .i64 0, .int .u8 0, .int .u8 0, .int .u8 0, .int .u8 0, .int .u8 0, .int .u8 0, .int .u8 0, .int .u8 0] 24)).setRow w1.heap.size #[.int .i64 i, .bool false, .int .i64 (k : Int), .int .u8 0, .int .u8 0, .int .u8 0, .int .u8 0, .int .u8 0, .int .u8 0, .int .u8 0, .int .u8 0]) := ⟨(HF.out.fr.below ((Below.refl w1.heap.size w1).alloc (Nat.le_refl _) (.cells #[.int .i64 0, .bool false, .int .i64 0, .int .u8 0, .int .u8 0, .int .u8 0, .int .u8 0, .int .u8 0, .int .u8 0, .int .u8 0, .int .u8 0] 24)) HF.out.fr.lt).row_other (Nat.ne_of_lt HF.out.fr.lt) _, HF.out.ne, HF.out.nv⟩; have hg3 := HR.out.glt; have hs3 := HM.out.chg.size; have hlt3 := HF.out.fr.lt; have HNE := Lib.hid hne; clear HR HM HF hne; have HR := Lib.hid hro; have HM := Lib.hid hmo; have HF := Lib.hid hf2; have HF3 := Lib.hid hf3; clear hro hmo hf2 hf3)
    | (refine wpList_store_row rfl _ (.tmp 3) (.tmp 6) rfl w1.heap.size _ rfl rfl _ _ HNE.out.fr info_frame rfl (one_frame i (k : Int) false (fun _ => 0)) ?_; obtain ⟨c0, c1, c2, c3, c4, c5, c6, c7, c8, c9, c10⟩ := HF3.out.fr.cells; clear HNE c0 c3 c4 c5 c6 c7 c8 c9 c10; generalize World.setRow (World.alloc w1 _) w1.heap.size _ = w3 at HR HM HF HF3 c1 c2 ⊢; generalize w1.heap.size = h3 at HF3 hg3 hs3 hlt3 c1 c2 ⊢))
  clear c1 c2
  go_loopw [12] (fun x w4 => ∃ (j : Nat) (m : List Int) (t : RS) (v1 : Value), j ≤ k ∧ x = .int .i64 j ∧ Hid (dO b j u1 = some (m, t)) ∧ Hid (Rd B g A n c b v1 t w4) ∧ Hid (Mv g v v1 w0 w4) ∧ Hid (Hf w0.heap.size g 0 0 false (fun _ => 0) v1 w4) ∧ Hid (Hf h3 g i (k : Int) false (dW m) v1 w4)) (fun x _ => k - (intOf x).toNat)
  case atStart => exact ⟨0, [], u1, _, Nat.zero_le _, rfl, rfl, HR, HM, HF, HF3⟩
  case round =>
    clear HR HM HF HF3
    obtain ⟨j, m, t, v0, hj, rfl, HJ, HR, HM, HF, HF3⟩ := hrel
    by_cases hlt : j < k
    · obtain ⟨t2, hbit, hnext⟩ := dO_next HD.out hlt HJ.out
      have hlen := dO_len j HJ.out
      have hml := hlen.1
      have hbd := numV_bounds hbit
      have hq1 : numV t t2 < 256 := by have := hbd.2; simpa using this
      have hq0 := hbd.1
      have HBT := Lib.hid hbit
      have HNX := Lib.hid hnext
      have hw8 := IntWalk.u8_in (numV t t2) (by omega)
      have HML := Lib.hid hml
      clear hbit hnext hbd hml
      go_wp2_with (go_at_call 34; refine (num_yes HR.out HBT.out ⟨by omega, by omega⟩ (by omega)).mono ?_; rintro e w1 ⟨rfl, v1, h1, hm1⟩; have HN := Lib.hid h1; have HK := Lib.hid (HM.out.trans hm1); have HQ := Lib.hid (HF.out.mv hm1); have HQ3 := Lib.hid (HF3.out.mv hm1); clear HR HM HF HF3 h1 hm1; have HR := HN; have HM := HK; have HF := HQ; have HF3 := HQ3; clear HN HK HQ HQ3; have c5 := HF3.out.fr.byte (i := j) (by omega); have f5 := HF3.out.fr.frozen (3 + j))
      go_roundw
      case rel =>
        have hst := fun w => grown_set w h3 (3 + j) (.int .u8 (numV t t2))
        refine ⟨j + 1, _, t2, _, by omega, by go_num, HNX, Lib.hid (HR.out.other (hst _) hg3 HF3.out.nv), Lib.hid (HM.out.other (hst _) hs3), Lib.hid ⟨((hst _).block _ HF.out.fr.lt (fun e => by cases e; omega)).trans HF.out.fr, HF.out.ne, HF.out.nv⟩, Lib.hid ⟨(HF3.out.fr.set (i := j) (by omega) (numV t t2)).congr fun j' _ => ?_, HF3.out.ne, HF3.out.nv⟩⟩
        rw [← dW_snoc, HML.out]
      case measure => simp [intOf]; omega
    · obtain rfl : j = k := by omega
      have he := Option.some.inj (HJ.out.symm.trans HD.out)
      cases he
      go_wp2_with (first
        | (go_at_call 35; refine (check_yes HR.out HB3.out HB4.out HCR.out (by omega)).mono ?_; rintro e w1 ⟨rfl, v1, h1, hm1⟩; have HN := Lib.hid h1; have HK := Lib.hid (HM.out.trans hm1); have HQ := Lib.hid (HF.out.mv hm1); have HQ3 := Lib.hid (HF3.out.mv hm1); clear HR HM HF HF3 h1 hm1; have HR := HN; have HM := HK; have HF := HQ; have HF3 := HQ3; clear HN HK HQ HQ3)
        | (go_at_call 36; refine (tail_yes HR.out HT.out).mono ?_; rintro e w1 ⟨rfl, h1, hm1⟩; have HN := Lib.hid h1; have HK := Lib.hid (HM.out.trans hm1); have HQ := Lib.hid (HF.out.mv hm1); have HQ3 := Lib.hid (HF3.out.mv hm1); clear HR HM HF HF3 h1 hm1; have HR := HN; have HM := HK; have HF := HQ; have HF3 := HQ3; clear HN HK HQ HQ3)
        | (refine wpList_load_row rfl _ (.tmp 3) rfl h3 rfl _ _ _ _ HF3.out.fr Try.underlying24 rfl info_frame ?_)
        | (refine wpList_store_row rfl _ (.tmp 2) (.tmp 26) rfl w0.heap.size _ rfl rfl _ _ HF.out.fr info_frame rfl (one_frame i (j : Int) false (dW l)) ?_))
      exact bodyPost_ret (results_cell_row rfl _ _ _ _ _ _ _ rfl (HF.out.fr.row i (j : Int) false (dW l)) Try.underlying24 rfl info_frame) rfl ⟨rfl, _, HR.out.other (grown_setRow _ _ _) HG.out HF.out.nv, HM.out.other (grown_setRow _ _ _) (Nat.le_refl _)⟩
end
end Go.Proofs.Ytkgnhmddnfmhjaa
