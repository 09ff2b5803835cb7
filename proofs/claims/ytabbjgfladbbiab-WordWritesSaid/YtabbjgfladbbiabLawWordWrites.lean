/- The statement WordWrites: what is written, up to the first number that does not fit, is the document's, and is read as it was: every fields (of which the first 20 count, of up to 50 bytes). No conditions. -/
import Derived.Test.YtabbjgfladbbiabWriteA
import Derived.Test.YtabbjgfladbbiabRows
import Derived.ChangeOld
import Derived.ShutString
namespace Go.Proofs.Ytabbjgfladbbiab.wordWrites
open Go.ChangeShapes Go.WideShapes Go.ChangeAt Go.RowKit
set_option linter.unusedVariables false

/-- Between two fields: what the Writer and the statement have. -/
def Rel1 (w : World) (K : Nat) (fs : Nat → FieldV) (i want bad n : Value) (wr : World) : Prop :=
  ∃ (j c : Nat) (A : Option Addr), j ≤ K ∧ i = .int .i64 j ∧ bad = .int .i64 (errL fs j) ∧ n = .int .i64 (cntL fs j) ∧ WrIn wr w.heap.size (errL fs j) (outL fs (cntL fs j)) A c ∧
    wr.ownsRow (w.heap.size + 1) 5 1 want (outL fs (cntL fs j)).length ((outL fs (cntL fs j)).map (Value.int .u8)) ∧ Apart want A ∧ Below w.heap.size w wr

theorem start1 (w : World) (o1 o2 : Obj) (h1 : o1 = .cells #[.int .i64 0, .slice none 0 0] 46 (0, 0)) (h2 : o2 = .cells #[] 5 (0, 0)) (K : Nat) (fs : Nat → FieldV) :
    Rel1 w K fs (.int .i64 0) (.slice (some ⟨w.heap.size + 1, 0, none⟩) 0 0) (.int .i64 0) (.int .i64 0) ((w.alloc o1).alloc o2) := by
  have hsz : (w.alloc o1).heap.size = w.heap.size + 1 := by simp
  refine ⟨0, 0, none, Nat.zero_le _, rfl, rfl, rfl, ⟨?_, ?_, by intro x hx; cases hx⟩, ?_, ?_, ((Below.refl _ _).alloc (Nat.le_refl _) _).alloc (by simp) _⟩
  · show ((w.alloc o1).alloc o2).heap[w.heap.size]? = _
    have e1 := ((Below.refl (w.heap.size + 1) (w.alloc o1)).alloc (by simp) o2).block w.heap.size (Nat.lt_succ_self _)
    rw [e1, heap_alloc_new w o1, h1]; rfl
  · exact ⟨rfl, .inl ⟨rfl, rfl⟩⟩
  · subst h2
    have := World.ownsRow_lit (w.alloc o1) #[] 0 (base := w.heap.size + 1) (e := 5) (size := 1) (by simp) (by simp [maxLen]) rfl
    rw [hsz] at this
    exact this
  · intro k _ e; cases e

theorem get_put {k n : Int} (h : fitB k n = true) : getN k (putA k n) = n ∧ getE k (putA k n) = 0 := by
  have ha : putA k n = putL k n := by simp [putA, h]
  have hl : kSize k = (putL k n).length := by rw [putL_len]; have := k_bounds k; omega
  have hf := h
  simp only [fitB, decide_eq_true_eq] at hf
  have hv : valL k (putL k n) = n := by
    unfold valL
    rw [← Int.toNat_natCast (putL k n).length, ← hl]
    rcases kind_cases k with rfl | rfl | rfl | rfl | rfl | rfl | rfl | hk
    case inr.inr.inr.inr.inr.inr.inr => have := (k_other hk).1; omega
    all_goals
      first | rw [putL1 rfl] | rw [putL2 rfl] | rw [putL4 rfl]
      simp only [numL, kSize, kLow, kHigh] at hf ⊢
      simp at hf ⊢
      split <;> omega
  rw [ha]
  unfold getN getE
  rw [hv, if_pos ⟨hf.1, hl, h⟩, if_neg (by omega), if_neg (by omega), if_pos h]
  exact ⟨rfl, rfl⟩
theorem fit_of {k n : Int} (h : putE k n = 0) : fitB k n = true := by
  unfold putE at h
  split at h
  · assumption
  · omega
theorem num_back {k n : Int} (h : putE k n = 0) (R : List Int) : rnE 0 k (putA k n ++ R) = 0 ∧ rnN 0 k (putA k n ++ R) = n ∧ rnL 0 k (putA k n ++ R) = R := by
  have hf := fit_of h
  obtain ⟨g1, g2⟩ := get_put hf
  have ha : putA k n = putL k n := by simp [putA, hf]
  have hkb := k_bounds k
  have hfd := hf
  simp only [fitB, decide_eq_true_eq] at hfd
  have hl : (putA k n).length = (kSize k).toNat := by rw [ha, putL_len]
  have htk : (putA k n ++ R).take (kSize k).toNat = putA k n := by rw [← hl, List.take_left]
  have hdr : (putA k n ++ R).drop (kSize k).toNat = R := by rw [← hl, List.drop_left]
  have hlen : ¬ (((putA k n ++ R).length : Nat) : Int) < kSize k := by rw [List.length_append]; omega
  have hE : rnE 0 k (putA k n ++ R) = 0 := by
    unfold rnE fe nextE
    rw [if_pos rfl, if_neg (by omega), if_neg hlen, htk, g2]
  refine ⟨hE, ?_, ?_⟩
  · unfold rnN
    rw [if_pos hE]
    unfold nextN
    rw [if_neg (by omega), htk, g1]
  · unfold rnL
    rw [if_pos hE, hdr]
theorem raw_back (x R : List Int) (q : Int) (hq : q = x.length) : rrE 0 q (x ++ R) = 0 ∧ rrA 0 q (x ++ R) = x ∧ rrL 0 q (x ++ R) = R := by
  subst hq
  have hE : rrE 0 (x.length : Int) (x ++ R) = 0 := by
    unfold rrE fe lackE
    rw [if_pos rfl, if_neg (by omega), if_neg (by rw [List.length_append]; omega)]
  refine ⟨hE, ?_, ?_⟩
  · unfold rrA; rw [if_pos hE, Int.toNat_natCast, List.take_left]
  · unfold rrL; rw [if_pos hE, Int.toNat_natCast, List.drop_left]
/-- Between two fields that are read back. -/
def Rel2 (w : World) (g N : Nat) (fs : Nat → FieldV) (i : Value) (wr : World) : Prop :=
  ∃ (j c : Nat) (A : Option Addr), j ≤ N ∧ i = .int .i64 j ∧ RdAt wr g 0 A (outF fs j (N - j)).length c ∧ Byt wr g A (outF fs j (N - j)).length c (outF fs j (N - j)) ∧ Below w.heap.size w wr

set_option maxHeartbeats 4000000 in
set_option maxRecDepth 100000 in
theorem rest (AF : Option Addr) (m cF : Nat) (fs : Nat → FieldV) (w : World) (hF0 : Flds w w.heap.size AF m cF fs)
    (K : Nat) (hK : (K = m ∧ m ≤ 20) ∨ (K = 20 ∧ 20 < m)) :
    Calls Try.prog 7 #[.slice AF m cF] w fun e w' => e = .returned (.bool true) ∧ Below w.heap.size w w' := by
  have hmx := hF0.max
  have hcx := hF0.cap
  simp only [maxLen] at hmx
  have hKm : K ≤ m ∧ K ≤ 20 := by omega
  have hF := hF0.take hKm.1
  have HF0 := Lib.hid hF0
  clear hF0
  rcases hK with ⟨rfl, h20⟩ | ⟨rfl, h20⟩
  · go_enter Try.func7, Try.ntmps7
    go_wp2_with fail
    go_loopw [7, 4, 5, 6] (Rel1 w K fs) (fun i _ _ _ _ => K - (intOf i).toNat)
    case atStart => exact start1 w _ _ rfl rfl K fs
    case round =>
      obtain ⟨j, cW, AW, hj, rfl, rfl, rfl, hWr, hown, hap, hbel⟩ := hrel
      by_cases hlt : j < K
      · obtain ⟨bF, oF, rfl, hbF, hcF⟩ := hF.cells (by omega)
        have hf0 := hcF j hlt
        have ckw := hf0.ck
        have cnw := hf0.cn
        have cbw := hf0.cb
        rw [Nat.mul_comm] at ckw cnw cbw
        have ck := (hbel.cell (p := ⟨bF, oF + j * 3, none⟩) hbF).trans ckw
        have cn := (hbel.cell (p := ⟨bF, oF + j * 3 + 1, none⟩) hbF).trans cnw
        have cb := (hbel.cell (p := ⟨bF, oF + j * 3 + 2, none⟩) hbF).trans cbw
        have rk := hf0.rk
        have rn := hf0.rn
        have hfx := hf0.byt
        have hfb := hf0.byt.cap
        have hfm := hf0.byt.max
        simp only [maxLen] at hfm
        have sok := step_ok fs j
        have sbad := step_bad fs j
        have sno := step_no fs j
        have hLn := outL_len fs (cntL fs j)
        have hcnt := cnt_le fs j
        have hgv : gv (fs j) = if (fs j).k = 8 then (fs j).l.take 50 else putA (fs j).k (fs j).n := rfl
        have hge : ge (fs j) = if (fs j).k = 8 then 0 else putE (fs j).k (fs j).n := rfl
        generalize gv (fs j) = gvj at sok hgv
        generalize ge (fs j) = gej at sok sbad hge
        generalize fs j = f at ck cn cb ckw cnw cbw rk rn hfx hfb hfm hgv hge
        obtain ⟨k, nn, fA, fm, fc, fl⟩ := f
        simp only at ck cn cb ckw cnw cbw rk rn hfx hfb hfm hgv hge
        generalize errL fs j = er at hWr sok sbad sno
        generalize hcc : cntL fs j = cn0 at hWr hown sok sbad sno hLn hcnt
        generalize hLL : outL fs cn0 = L at hWr hown sok hLn
        have HLL := Lib.hid hLL
        clear hLL
        have hLm : L.length ≤ 1000 := by omega
        have hcn20 : cn0 ≤ 20 := by omega
        have hgsz : w.heap.size + 1 ≤ wr.heap.size := hWr.1.lt
        have CKW := Lib.hid ckw
        have CNW := Lib.hid cnw
        have HFX := Lib.hid hfx
        have HCF := Lib.hid hcF
        have HF1 := Lib.hid hF
        clear ckw cnw cbw hfx hcF hf0 hF hcc
        by_cases hk : k = 8
        · subst hk
          by_cases he : er = 0
          · subst he
            by_cases h50 : 50 < fm
            · have hq : 50 ≤ fm := by omega
              have hxb := HFX.out.take hq
              rw [if_pos rfl] at hgv
              rw [if_pos rfl] at hge
              have hqc : ((50 : Nat) : Int) ≤ (fc : Int) := by omega
              have hqc2 : 50 ≤ fc := by omega
              have hlx := hxb.len
              obtain ⟨s1, s2, s3⟩ := sok rfl hge
              rw [hgv] at s3
              generalize fl.take 50 = x at hxb s3 hlx
              have S1 := Lib.hid s1
              have S2 := Lib.hid s2
              have S3 := Lib.hid s3
              have HXB := Lib.hid hxb
              have HWR := Lib.hid hWr
              have HOWN := Lib.hid hown
              have HAP := Lib.hid hap
              have HLX := Lib.hid hlx
              clear s1 s2 s3 hxb hlx sok sbad sno hgv hge hWr hown hap cn
              go_wp2_with fail
              go_quiet (fail)
              go_wp2_with fail
              have hbq := below_drewN hbel nq
              have hWq : WrIn (wr.drewN nq) w.heap.size 0 L AW cW := HWR.out
              have hownq : (wr.drewN nq).ownsRow (w.heap.size + 1) 5 1 u4 L.length (L.map (Value.int .u8)) := HOWN.out
              have hxq : Byt (wr.drewN nq) (wr.drewN nq).heap.size fA 50 fc x := (HXB.out.below hbq).more hbq.size
              have hcontract := wraw_ok2 (wr.drewN nq) w.heap.size L x AW cW fA 50 fc hWq hxq (by omega)
              refine hcontract.mono ?_
              rintro e w2 ⟨⟨v2, rfl⟩, A2, c2, hW2, hc2, hA2⟩
              have hb2 := hbq.trans (below_step hWq hc2 (Nat.le_refl _))
              have hown2 := own_chg hownq hc2 (fun k hk => HAP.out k hk)
              have hap2 := apart_step HAP.out hownq hA2
              have hx2 := HXB.out.below hb2
              have hgs2 : w.heap.size + 1 ≤ w2.heap.size := hW2.1.lt
              have HW2 := Lib.hid hW2
              have HAP2 := Lib.hid hap2
              clear hcontract hc2 hA2 hap2 hW2 hWq hownq hxq
              go_wp2_with (at_builtin; refine wpList_bytes_at rfl (.tmp 53) (.tmp 54) rfl Try.underlying22 byte_info rfl hown2 rfl hx2 (by omega) hgs2 ?_; intro v3 w3 hown3 hg3 hat3)
              have hW3 := HW2.out.grown hg3 (fun e => by have := hown2.lt _ e; omega) (fun k hk e => HAP2.out k e hk)
              have hap3 : Apart v3 A2 := fun k hk e => by
                rcases hat3 with h3 | h3
                · exact HAP2.out k (h3.symm.trans hk) e
                · rw [h3] at hk
                  injection hk with hk
                  have := (HW2.out.row k e).2
                  omega
              have hb3 := hb2.grown hg3 hb2.size (fun k hk => by have := hown2.lt k hk; omega)
              have hown3' : w3.ownsRow (w.heap.size + 1) 5 1 v3 (L ++ x).length ((L ++ x).map (Value.int .u8)) := by rw [List.length_append, HLX.out]; exact hown3
              go_wp2
              go_roundw
              case rel => exact ⟨j + 1, c2, A2, by omega, by go_num, by rw [S1.out], by first | (rw [S2.out]; done) | (rw [S2.out]; go_num), by rw [S1.out, S2.out, S3.out]; exact hW3, by rw [S2.out, S3.out]; exact hown3', hap3, hb3⟩
              case measure => simp [intOf]; omega
            · have hq : fm ≤ fm := by omega
              have hqx : fl.take 50 = fl.take fm := by rw [List.take_of_length_le (by rw [HFX.out.len]; omega), List.take_of_length_le (by rw [HFX.out.len]; exact Nat.le_refl _)]
              have hxb := HFX.out.take hq
              rw [if_pos rfl, hqx] at hgv
              rw [if_pos rfl] at hge
              have hqc : ((fm : Nat) : Int) ≤ (fc : Int) := by omega
              have hqc2 : fm ≤ fc := by omega
              have hlx := hxb.len
              clear hqx
              obtain ⟨s1, s2, s3⟩ := sok rfl hge
              rw [hgv] at s3
              generalize fl.take fm = x at hxb s3 hlx
              have S1 := Lib.hid s1
              have S2 := Lib.hid s2
              have S3 := Lib.hid s3
              have HXB := Lib.hid hxb
              have HWR := Lib.hid hWr
              have HOWN := Lib.hid hown
              have HAP := Lib.hid hap
              have HLX := Lib.hid hlx
              clear s1 s2 s3 hxb hlx sok sbad sno hgv hge hWr hown hap cn
              go_wp2_with fail
              go_quiet (fail)
              go_wp2_with fail
              have hbq := below_drewN hbel nq
              have hWq : WrIn (wr.drewN nq) w.heap.size 0 L AW cW := HWR.out
              have hownq : (wr.drewN nq).ownsRow (w.heap.size + 1) 5 1 u4 L.length (L.map (Value.int .u8)) := HOWN.out
              have hxq : Byt (wr.drewN nq) (wr.drewN nq).heap.size fA fm fc x := (HXB.out.below hbq).more hbq.size
              have hcontract := wraw_ok2 (wr.drewN nq) w.heap.size L x AW cW fA fm fc hWq hxq (by omega)
              refine hcontract.mono ?_
              rintro e w2 ⟨⟨v2, rfl⟩, A2, c2, hW2, hc2, hA2⟩
              have hb2 := hbq.trans (below_step hWq hc2 (Nat.le_refl _))
              have hown2 := own_chg hownq hc2 (fun k hk => HAP.out k hk)
              have hap2 := apart_step HAP.out hownq hA2
              have hx2 := HXB.out.below hb2
              have hgs2 : w.heap.size + 1 ≤ w2.heap.size := hW2.1.lt
              have HW2 := Lib.hid hW2
              have HAP2 := Lib.hid hap2
              clear hcontract hc2 hA2 hap2 hW2 hWq hownq hxq
              go_wp2_with (at_builtin; refine wpList_bytes_at rfl (.tmp 53) (.tmp 54) rfl Try.underlying22 byte_info rfl hown2 rfl hx2 (by omega) hgs2 ?_; intro v3 w3 hown3 hg3 hat3)
              have hW3 := HW2.out.grown hg3 (fun e => by have := hown2.lt _ e; omega) (fun k hk e => HAP2.out k e hk)
              have hap3 : Apart v3 A2 := fun k hk e => by
                rcases hat3 with h3 | h3
                · exact HAP2.out k (h3.symm.trans hk) e
                · rw [h3] at hk
                  injection hk with hk
                  have := (HW2.out.row k e).2
                  omega
              have hb3 := hb2.grown hg3 hb2.size (fun k hk => by have := hown2.lt k hk; omega)
              have hown3' : w3.ownsRow (w.heap.size + 1) 5 1 v3 (L ++ x).length ((L ++ x).map (Value.int .u8)) := by rw [List.length_append, HLX.out]; exact hown3
              go_wp2
              go_roundw
              case rel => exact ⟨j + 1, c2, A2, by omega, by go_num, by rw [S1.out], by first | (rw [S2.out]; done) | (rw [S2.out]; go_num), by rw [S1.out, S2.out, S3.out]; exact hW3, by rw [S2.out, S3.out]; exact hown3', hap3, hb3⟩
              case measure => simp [intOf]; omega
          · have he1 : (er == 0) = false := by simp [he]
            by_cases h50 : 50 < fm
            · have hq : 50 ≤ fm := by omega
              have hxb := HFX.out.take hq
              rw [if_pos rfl] at hgv
              rw [if_pos rfl] at hge
              have hqc : ((50 : Nat) : Int) ≤ (fc : Int) := by omega
              have hqc2 : 50 ≤ fc := by omega
              have hlx := hxb.len
              obtain ⟨s1, s2⟩ := sno he
              have S1 := Lib.hid s1
              have S2 := Lib.hid s2
              have HWR := Lib.hid hWr
              have HOWN := Lib.hid hown
              have HAP := Lib.hid hap
              have HE := Lib.hid he
              clear s1 s2 hxb hlx sok sbad sno hgv hge hWr hown hap cn he
              go_wp2_with fail
              go_quiet (fail)
              go_wp2_with fail
              have hbq := below_drewN hbel nq
              have hWq : WrIn (wr.drewN nq) w.heap.size er L AW cW := HWR.out
              have hownq : (wr.drewN nq).ownsRow (w.heap.size + 1) 5 1 u4 L.length (L.map (Value.int .u8)) := HOWN.out
              have hcontract := wraw_no2 (wr.drewN nq) w.heap.size er L AW cW fA 50 fc hWq HE.out
              refine hcontract.mono ?_
              rintro e w2 ⟨⟨v2, rfl⟩, A2, c2, hW2, hc2, hA2⟩
              have hb2 := hbq.trans (below_step hWq hc2 (Nat.le_refl _))
              have hown2 := own_chg hownq hc2 (fun k hk => HAP.out k hk)
              have hap2 := apart_step HAP.out hownq hA2
              have HW2 := Lib.hid hW2
              have HAP2 := Lib.hid hap2
              clear hcontract hc2 hA2 hap2 hW2 hWq hownq
              go_wp2
              go_roundw
              case rel => exact ⟨j + 1, c2, A2, by omega, by go_num, by rw [S1.out], by first | (rw [S2.out]; done) | (rw [S2.out]; go_num), by rw [S1.out, S2.out, HLL.out]; exact HW2.out, by rw [S2.out, HLL.out]; exact hown2, HAP2.out, hb2⟩
              case measure => simp [intOf]; omega
            · have hq : fm ≤ fm := by omega
              have hqx : fl.take 50 = fl.take fm := by rw [List.take_of_length_le (by rw [HFX.out.len]; omega), List.take_of_length_le (by rw [HFX.out.len]; exact Nat.le_refl _)]
              have hxb := HFX.out.take hq
              rw [if_pos rfl, hqx] at hgv
              rw [if_pos rfl] at hge
              have hqc : ((fm : Nat) : Int) ≤ (fc : Int) := by omega
              have hqc2 : fm ≤ fc := by omega
              have hlx := hxb.len
              clear hqx
              obtain ⟨s1, s2⟩ := sno he
              have S1 := Lib.hid s1
              have S2 := Lib.hid s2
              have HWR := Lib.hid hWr
              have HOWN := Lib.hid hown
              have HAP := Lib.hid hap
              have HE := Lib.hid he
              clear s1 s2 hxb hlx sok sbad sno hgv hge hWr hown hap cn he
              go_wp2_with fail
              go_quiet (fail)
              go_wp2_with fail
              have hbq := below_drewN hbel nq
              have hWq : WrIn (wr.drewN nq) w.heap.size er L AW cW := HWR.out
              have hownq : (wr.drewN nq).ownsRow (w.heap.size + 1) 5 1 u4 L.length (L.map (Value.int .u8)) := HOWN.out
              have hcontract := wraw_no2 (wr.drewN nq) w.heap.size er L AW cW fA fm fc hWq HE.out
              refine hcontract.mono ?_
              rintro e w2 ⟨⟨v2, rfl⟩, A2, c2, hW2, hc2, hA2⟩
              have hb2 := hbq.trans (below_step hWq hc2 (Nat.le_refl _))
              have hown2 := own_chg hownq hc2 (fun k hk => HAP.out k hk)
              have hap2 := apart_step HAP.out hownq hA2
              have HW2 := Lib.hid hW2
              have HAP2 := Lib.hid hap2
              clear hcontract hc2 hA2 hap2 hW2 hWq hownq
              go_wp2
              go_roundw
              case rel => exact ⟨j + 1, c2, A2, by omega, by go_num, by rw [S1.out], by first | (rw [S2.out]; done) | (rw [S2.out]; go_num), by rw [S1.out, S2.out, HLL.out]; exact HW2.out, by rw [S2.out, HLL.out]; exact hown2, HAP2.out, hb2⟩
              case measure => simp [intOf]; omega
        · have hk8 : (k == 8) = false := by simp [hk]
          by_cases he : er = 0
          · subst he
            by_cases hp : putE k nn = 0
            · rw [if_neg hk] at hgv hge
              obtain ⟨s1, s2, s3⟩ := sok rfl (by rw [hge]; exact hp)
              rw [hgv] at s3
              have S3 := Lib.hid s3
              have hnum := fun (v : World) (h : WrIn v w.heap.size 0 L AW cW) => wnum_ok2 v w.heap.size k nn L AW cW h hp (by omega)
              clear s3
              have hput := fun v => rput_any k nn v
              unfold PutPost at hput
              rw [hp] at hput
              have hpl := putA_len k nn
              generalize putA k nn = x at hput hnum hpl S3
              have S1 := Lib.hid s1
              have S2 := Lib.hid s2
              have HNUM := Lib.hid hnum
              have HPUT := Lib.hid hput
              have HWR := Lib.hid hWr
              have HOWN := Lib.hid hown
              have HAP := Lib.hid hap
              have hWd : WrIn wr.drew w.heap.size 0 L AW cW := HWR.out
              have HWRD := Lib.hid hWd
              clear s1 s2 sok sbad sno hgv hge hWr hWd hown hap cb hnum hput hp
              go_wp2_with fail
              go_region_held3 (fun w' => w'.cell? ⟨bF, oF + j * 3, none⟩ = some (.int .i64 k) ∧ w'.cell? ⟨bF, oF + j * 3 + 1, none⟩ = some (.int .i64 nn))
                (first | exact ⟨ck, cn⟩ | exact k2)
                (first
                  | (go_at_call 23
                     (with_reducible refine (HNUM.out wr.drew HWRD.out).mono ?_)
                     rintro e w2 ⟨⟨v2, rfl⟩, A2, c2, hW2, hc2, hA2⟩
                     have hb2 := hbel.drew.trans (below_step (show WrIn wr.drew w.heap.size 0 L AW cW from HWR.out) hc2 (Nat.le_refl _))
                     have k2 : w2.cell? ⟨bF, oF + j * 3, none⟩ = some (.int .i64 k) ∧ w2.cell? ⟨bF, oF + j * 3 + 1, none⟩ = some (.int .i64 nn) := ⟨(hb2.cell (p := ⟨bF, oF + j * 3, none⟩) hbF).trans CKW.out, (hb2.cell (p := ⟨bF, oF + j * 3 + 1, none⟩) hbF).trans CNW.out⟩
                     have hown2 := own_chg (show wr.drew.ownsRow (w.heap.size + 1) 5 1 u4 L.length (L.map (Value.int .u8)) from HOWN.out) hc2 (fun k hk => HAP.out k hk)
                     have hap2 := apart_step HAP.out (show wr.drew.ownsRow (w.heap.size + 1) 5 1 u4 L.length (L.map (Value.int .u8)) from HOWN.out) hA2
                     have HW2 := Lib.hid hW2
                     have HAP2 := Lib.hid hap2
                     have hgs2 : w.heap.size + 1 ≤ w2.heap.size := hW2.1.lt
                     have HOWN2 := Lib.hid hown2
                     clear hW2 hap2 hc2 hA2 hown2))
              obtain ⟨ck2, cn2⟩ := k2
              clear ck cn
              go_wp2_with fail
              go_region_held3 (fun w' => w'.cell? ⟨bF, oF + j * 3, none⟩ = some (.int .i64 k) ∧ w'.cell? ⟨bF, oF + j * 3 + 1, none⟩ = some (.int .i64 nn))
                (first | exact ⟨ck2, cn2⟩ | exact k3)
                (first
                  | (go_at_call 10
                     (with_reducible refine (HPUT.out w2.drew).mono ?_)
                     rintro e w3 ⟨A3, c3, rfl, hB3, hb3⟩
                     have hb23 : Below w.heap.size w w3 := hb2.drew.trans (hb3.mono hb2.size)
                     have k3 : w3.cell? ⟨bF, oF + j * 3, none⟩ = some (.int .i64 k) ∧ w3.cell? ⟨bF, oF + j * 3 + 1, none⟩ = some (.int .i64 nn) := ⟨(hb23.cell (p := ⟨bF, oF + j * 3, none⟩) hbF).trans CKW.out, (hb23.cell (p := ⟨bF, oF + j * 3 + 1, none⟩) hbF).trans CNW.out⟩
                     have hW3 := HW2.out.grown (R := none) ⟨hb3.os, hb3.tape, hb3.output, hb3.size, fun i hi _ => hb3.block i hi⟩ (by simp) (by simp)
                     have hown3 := own_low (show w2.drew.ownsRow (w.heap.size + 1) 5 1 u4 L.length (L.map (Value.int .u8)) from HOWN2.out) hb3
                     have hgs3 : w.heap.size + 1 ≤ w3.heap.size := hW3.1.lt
                     have HW3 := Lib.hid hW3
                     have HB3 := Lib.hid hB3
                     clear hW3 hB3))
              clear ck2 cn2 k3
              go_wp2_with (at_builtin; refine wpList_bytes_at rfl (.tmp 85) (.tmp 86) rfl Try.underlying22 byte_info rfl hown3 rfl HB3.out (by omega) hgs3 ?_; intro v4 w4 hown4 hg4 hat4)
              have hW4 := HW3.out.grown hg4 (fun e => by have := hown3.lt _ e; omega) (fun k hk e => HAP2.out k e hk)
              have hap4 : Apart v4 A2 := fun k hk e => by
                rcases hat4 with h3 | h3
                · exact HAP2.out k (h3.symm.trans hk) e
                · rw [h3] at hk
                  injection hk with hk
                  have := (HW3.out.row k e).2
                  omega
              have hb4 := hb23.grown hg4 hb23.size (fun k hk => by have := hown3.lt k hk; omega)
              have hown4' : w4.ownsRow (w.heap.size + 1) 5 1 v4 (L ++ x).length ((L ++ x).map (Value.int .u8)) := by rw [List.length_append]; exact hown4
              go_wp2
              go_roundw
              case rel => exact ⟨j + 1, c2, A2, by omega, by go_num, by rw [S1.out], by first | (rw [S2.out]; done) | (rw [S2.out]; go_num), by rw [S1.out, S2.out, S3.out]; exact hW4, by rw [S2.out, S3.out]; exact hown4', hap4, hb4⟩
              case measure => simp [intOf]; omega
            · rw [if_neg hk] at hgv hge
              obtain ⟨s1, s2⟩ := sbad rfl (by rw [hge]; exact hp)
              rw [hge] at s1
              have hfe : fe 0 (putE k nn) = putE k nn := by unfold fe; rw [if_pos rfl]
              have hpa : putA k nn = [] := by
                unfold putE at hp
                split at hp
                · exact absurd rfl hp
                · rename_i hfit; unfold putA; rw [if_neg hfit]
              have hnum := fun (v : World) (h : WrIn v w.heap.size 0 L AW cW) => wnum_no2 v w.heap.size 0 k nn L AW cW h (by rw [hfe]; exact hp)
              rw [hfe] at hnum
              have hpe1 : (putE k nn == 0) = false := by simp [hp]
              have hput := fun v => rput_any k nn v
              unfold PutPost at hput
              rw [hpa] at hput
              generalize putE k nn = pe at hput hnum hpe1 s1
              have hpl := putA_len k nn
              have S1 := Lib.hid s1
              have S2 := Lib.hid s2
              have HNUM := Lib.hid hnum
              have HPUT := Lib.hid hput
              have HWR := Lib.hid hWr
              have HOWN := Lib.hid hown
              have HAP := Lib.hid hap
              have hWd : WrIn wr.drew w.heap.size 0 L AW cW := HWR.out
              have HWRD := Lib.hid hWd
              clear s1 s2 sok sbad sno hgv hge hWr hWd hown hap cb hnum hput hp hfe hpa
              go_wp2_with fail
              go_region_held3 (fun w' => w'.cell? ⟨bF, oF + j * 3, none⟩ = some (.int .i64 k) ∧ w'.cell? ⟨bF, oF + j * 3 + 1, none⟩ = some (.int .i64 nn))
                (first | exact ⟨ck, cn⟩ | exact k2)
                (first
                  | (go_at_call 23
                     (with_reducible refine (HNUM.out wr.drew HWRD.out).mono ?_)
                     rintro e w2 ⟨⟨v2, rfl⟩, A2, c2, hW2, hc2, hA2⟩
                     have hb2 := hbel.drew.trans (below_step (show WrIn wr.drew w.heap.size 0 L AW cW from HWR.out) hc2 (Nat.le_refl _))
                     have k2 : w2.cell? ⟨bF, oF + j * 3, none⟩ = some (.int .i64 k) ∧ w2.cell? ⟨bF, oF + j * 3 + 1, none⟩ = some (.int .i64 nn) := ⟨(hb2.cell (p := ⟨bF, oF + j * 3, none⟩) hbF).trans CKW.out, (hb2.cell (p := ⟨bF, oF + j * 3 + 1, none⟩) hbF).trans CNW.out⟩
                     have hown2 := own_chg (show wr.drew.ownsRow (w.heap.size + 1) 5 1 u4 L.length (L.map (Value.int .u8)) from HOWN.out) hc2 (fun k hk => HAP.out k hk)
                     have hap2 := apart_step HAP.out (show wr.drew.ownsRow (w.heap.size + 1) 5 1 u4 L.length (L.map (Value.int .u8)) from HOWN.out) hA2
                     have HW2 := Lib.hid hW2
                     have HAP2 := Lib.hid hap2
                     have hgs2 : w.heap.size + 1 ≤ w2.heap.size := hW2.1.lt
                     have HOWN2 := Lib.hid hown2
                     clear hW2 hap2 hc2 hA2 hown2))
              obtain ⟨ck2, cn2⟩ := k2
              clear ck cn
              go_wp2_with fail
              go_region_held3 (fun w' => w'.cell? ⟨bF, oF + j * 3, none⟩ = some (.int .i64 k) ∧ w'.cell? ⟨bF, oF + j * 3 + 1, none⟩ = some (.int .i64 nn))
                (first | exact ⟨ck2, cn2⟩ | exact k3)
                (first
                  | (go_at_call 10
                     (with_reducible refine (HPUT.out w2.drew).mono ?_)
                     rintro e w3 ⟨A3, c3, rfl, hB3, hb3⟩
                     have hb23 : Below w.heap.size w w3 := hb2.drew.trans (hb3.mono hb2.size)
                     have k3 : w3.cell? ⟨bF, oF + j * 3, none⟩ = some (.int .i64 k) ∧ w3.cell? ⟨bF, oF + j * 3 + 1, none⟩ = some (.int .i64 nn) := ⟨(hb23.cell (p := ⟨bF, oF + j * 3, none⟩) hbF).trans CKW.out, (hb23.cell (p := ⟨bF, oF + j * 3 + 1, none⟩) hbF).trans CNW.out⟩
                     have hW3 := HW2.out.grown (R := none) ⟨hb3.os, hb3.tape, hb3.output, hb3.size, fun i hi _ => hb3.block i hi⟩ (by simp) (by simp)
                     have hown3 := own_low (show w2.drew.ownsRow (w.heap.size + 1) 5 1 u4 L.length (L.map (Value.int .u8)) from HOWN2.out) hb3
                     have hgs3 : w.heap.size + 1 ≤ w3.heap.size := hW3.1.lt
                     have HW3 := Lib.hid hW3
                     have HB3 := Lib.hid hB3
                     clear hW3 hB3))
              clear ck2 cn2 k3
              go_wp2_with (at_builtin; refine wpList_bytes_at rfl (.tmp 85) (.tmp 86) rfl Try.underlying22 byte_info rfl hown3 rfl HB3.out (by simp; omega) hgs3 ?_; intro v4 w4 hown4 hg4 hat4)
              have hW4 := HW3.out.grown hg4 (fun e => by have := hown3.lt _ e; omega) (fun k hk e => HAP2.out k e hk)
              have hap4 : Apart v4 A2 := fun k hk e => by
                rcases hat4 with h3 | h3
                · exact HAP2.out k (h3.symm.trans hk) e
                · rw [h3] at hk
                  injection hk with hk
                  have := (HW3.out.row k e).2
                  omega
              have hb4 := hb23.grown hg4 hb23.size (fun k hk => by have := hown3.lt k hk; omega)
              have hown4' : w4.ownsRow (w.heap.size + 1) 5 1 v4 (L ++ []).length ((L ++ []).map (Value.int .u8)) := by rw [List.length_append]; exact hown4
              rw [List.append_nil] at hown4'
              go_wp2
              go_roundw
              case rel => exact ⟨j + 1, c2, A2, by omega, by go_num, by rw [S1.out], by first | (rw [S2.out]; done) | (rw [S2.out]; go_num), by rw [S1.out, S2.out, HLL.out]; exact hW4, by rw [S2.out, HLL.out]; exact hown4', hap4, hb4⟩
              case measure => simp [intOf]; omega
          · have he1 : (er == 0) = false := by simp [he]
            rw [if_neg hk] at hgv hge
            obtain ⟨s1, s2⟩ := sno he
            have hfe : fe er (putE k nn) = er := by unfold fe; rw [if_neg he]
            have hnum := fun (v : World) (h : WrIn v w.heap.size er L AW cW) => wnum_no2 v w.heap.size er k nn L AW cW h (by rw [hfe]; exact he)
            rw [hfe] at hnum
            have hput := fun v => rput_any k nn v
            unfold PutPost at hput
            have hpl := putA_len k nn
            generalize putA k nn = x at hput hpl
            have S1 := Lib.hid s1
            have S2 := Lib.hid s2
            have HNUM := Lib.hid hnum
            have HPUT := Lib.hid hput
            have HWR := Lib.hid hWr
            have HOWN := Lib.hid hown
            have HAP := Lib.hid hap
            have hWd : WrIn wr.drew w.heap.size er L AW cW := HWR.out
            have HWRD := Lib.hid hWd
            clear s1 s2 sok sbad sno hgv hge hWr hWd hown hap cb hnum hput he hfe
            go_wp2_with fail
            go_region_held3 (fun w' => w'.cell? ⟨bF, oF + j * 3, none⟩ = some (.int .i64 k) ∧ w'.cell? ⟨bF, oF + j * 3 + 1, none⟩ = some (.int .i64 nn))
              (first | exact ⟨ck, cn⟩ | exact k2)
              (first
                | (go_at_call 23
                   (with_reducible refine (HNUM.out wr.drew HWRD.out).mono ?_)
                   rintro e w2 ⟨⟨v2, rfl⟩, A2, c2, hW2, hc2, hA2⟩
                   have hb2 := hbel.drew.trans (below_step (show WrIn wr.drew w.heap.size er L AW cW from HWR.out) hc2 (Nat.le_refl _))
                   have k2 : w2.cell? ⟨bF, oF + j * 3, none⟩ = some (.int .i64 k) ∧ w2.cell? ⟨bF, oF + j * 3 + 1, none⟩ = some (.int .i64 nn) := ⟨(hb2.cell (p := ⟨bF, oF + j * 3, none⟩) hbF).trans CKW.out, (hb2.cell (p := ⟨bF, oF + j * 3 + 1, none⟩) hbF).trans CNW.out⟩
                   have hown2 := own_chg (show wr.drew.ownsRow (w.heap.size + 1) 5 1 u4 L.length (L.map (Value.int .u8)) from HOWN.out) hc2 (fun k hk => HAP.out k hk)
                   have hap2 := apart_step HAP.out (show wr.drew.ownsRow (w.heap.size + 1) 5 1 u4 L.length (L.map (Value.int .u8)) from HOWN.out) hA2
                   have HW2 := Lib.hid hW2
                   have HAP2 := Lib.hid hap2
                   have hgs2 : w.heap.size + 1 ≤ w2.heap.size := hW2.1.lt
                   have HOWN2 := Lib.hid hown2
                   clear hW2 hap2 hc2 hA2 hown2))
            obtain ⟨ck2, cn2⟩ := k2
            clear ck cn
            go_wp2_with fail
            go_region_held3 (fun w' => w'.cell? ⟨bF, oF + j * 3, none⟩ = some (.int .i64 k) ∧ w'.cell? ⟨bF, oF + j * 3 + 1, none⟩ = some (.int .i64 nn))
              (first | exact ⟨ck2, cn2⟩ | exact k3)
              (first
                | (go_at_call 10
                   (with_reducible refine (HPUT.out w2.drew).mono ?_)
                   rintro e w3 ⟨A3, c3, rfl, hB3, hb3⟩
                   have hb23 : Below w.heap.size w w3 := hb2.drew.trans (hb3.mono hb2.size)
                   have k3 : w3.cell? ⟨bF, oF + j * 3, none⟩ = some (.int .i64 k) ∧ w3.cell? ⟨bF, oF + j * 3 + 1, none⟩ = some (.int .i64 nn) := ⟨(hb23.cell (p := ⟨bF, oF + j * 3, none⟩) hbF).trans CKW.out, (hb23.cell (p := ⟨bF, oF + j * 3 + 1, none⟩) hbF).trans CNW.out⟩
                   have hW3 := HW2.out.grown (R := none) ⟨hb3.os, hb3.tape, hb3.output, hb3.size, fun i hi _ => hb3.block i hi⟩ (by simp) (by simp)
                   have hown3 := own_low (show w2.drew.ownsRow (w.heap.size + 1) 5 1 u4 L.length (L.map (Value.int .u8)) from HOWN2.out) hb3
                   have hgs3 : w.heap.size + 1 ≤ w3.heap.size := hW3.1.lt
                   have HW3 := Lib.hid hW3
                   have HB3 := Lib.hid hB3
                   clear hW3 hB3))
            clear ck2 cn2 k3
            go_wp2
            go_roundw
            case rel => exact ⟨j + 1, c2, A2, by omega, by go_num, by rw [S1.out], by first | (rw [S2.out]; done) | (rw [S2.out]; go_num), by rw [S1.out, S2.out, HLL.out]; exact HW3.out, by rw [S2.out, HLL.out]; exact hown3, HAP2.out, hb23⟩
            case measure => simp [intOf]; omega
      · have hLn := outL_len fs (cntL fs j)
        have hNK := cnt_le fs j
        have hless := err_less fs j
        have hout := outF_out fs (cntL fs j)
        generalize errL fs j = er at hWr
        generalize cntL fs j = N at hWr hown hLn hNK hless hout
        rw [← hout] at hWr hown hLn
        have hL1 : (outF fs 0 N).length ≤ 1000 := by omega
        obtain ⟨AV, cV, rfl, hBV, _⟩ := Byt.of_own hown hWr.2.2
        have hBW := hWr.byt
        generalize hLL : outF fs 0 N = L at hWr hown hLn hBV hBW hL1
        have HOUT := Lib.hid hLL
        clear hLL
        have hwb := wbytes_any wr w.heap.size er AW L.length cW L hWr.1 hBW (by omega)
        have hwe := fun (v : World) (h : WrAt v w.heap.size er (.slice AW L.length cW)) => werr_any v w.heap.size er _ h
        have HWB := Lib.hid hwb
        have HWE := Lib.hid hwe
        have HWR := Lib.hid hWr
        have HBV := Lib.hid hBV
        have HLESS := Lib.hid hless
        clear hwb hwe hWr hBV hBW hless hout hown hap hLn
        go_wp2_with fail
        refine HWB.out.mono ?_
        rintro e w1 ⟨A1, c1, rfl, hB1, hb1⟩
        have hBV1 := HBV.out.step hb1
        have hsame := same_any hB1 hBV1
        rw [decide_eq_true rfl] at hsame
        have HSAME := Lib.hid hsame
        have HBV1 := Lib.hid hBV1
        have hbw1 := hbel.trans (hb1.mono hbel.size)
        have hne : (er != er) = false := by simp
        clear hB1 hBV1 hsame
        go_wp2_with fail
        refine HSAME.out.mono ?_
        rintro e w2 ⟨rfl, rfl⟩
        go_wp2_with fail
        refine (HWE.out _ (HWR.out.1.below hb1 HWR.out.1.lt)).mono ?_
        rintro e w2 ⟨rfl, rfl⟩
        have hnew := new_any w1 AV L.length cV L HBV1.out (by omega)
        have HNEW := Lib.hid hnew
        clear hnew hne
        go_wp2_with fail
        refine HNEW.out.mono ?_
        rintro e w2 ⟨g2, A2, c2, rfl, hg20, hRd, hRb, hb2⟩
        have hg2 : w.heap.size ≤ g2 := Nat.le_trans hbw1.size hg20
        have hbw2 := hbw1.trans (hb2.mono hbw1.size)
        have hstart : Rel2 w g2 N fs (.int .i64 0) w2 := ⟨0, c2, A2, Nat.zero_le _, rfl, by show RdAt w2 g2 0 A2 (outF fs 0 N).length c2; rw [HOUT.out]; exact hRd, by show Byt w2 g2 A2 (outF fs 0 N).length c2 (outF fs 0 N); rw [HOUT.out]; exact hRb, hbw2⟩
        clear hRd hRb hL1 HOUT
        go_wp2_with fail
        go_loopw [12] (Rel2 w g2 N fs) (fun i _ => N - (intOf i).toNat)
        case atStart => exact hstart
        case round =>
          have hN20 : N ≤ 20 := by omega
          obtain ⟨j2, c2, A2, hj2, rfl, hRd, hRb, hbel⟩ := hrel
          by_cases hlt2 : j2 < N
          · obtain ⟨bF, oF, rfl, hbF, hcF⟩ := hF.cells (by omega)
            have hf0 := hcF j2 (by omega)
            have ckw := hf0.ck
            have cnw := hf0.cn
            have cbw := hf0.cb
            rw [Nat.mul_comm] at ckw cnw cbw
            have ck := (hbel.cell (p := ⟨bF, oF + j2 * 3, none⟩) hbF).trans ckw
            have cn := (hbel.cell (p := ⟨bF, oF + j2 * 3 + 1, none⟩) hbF).trans cnw
            have cb := (hbel.cell (p := ⟨bF, oF + j2 * 3 + 2, none⟩) hbF).trans cbw
            have rk := hf0.rk
            have rn := hf0.rn
            have hfx := hf0.byt
            have hfb := hf0.byt.cap
            have hfm := hf0.byt.max
            simp only [maxLen] at hfm
            have hjK : (j2 : Int) < (K : Int) := by omega
            have hjK2 : j2 < K := by omega
            have hg0 : ge (fs j2) = 0 := HLESS.out j2 hlt2
            have hstep : outF fs j2 (N - j2) = gv (fs j2) ++ outF fs (j2 + 1) (N - (j2 + 1)) := by rw [show N - j2 = (N - (j2 + 1)) + 1 by omega]; rfl
            have hRl := outF_len fs (N - j2) j2
            have hgv : gv (fs j2) = if (fs j2).k = 8 then (fs j2).l.take 50 else putA (fs j2).k (fs j2).n := rfl
            have hge : ge (fs j2) = if (fs j2).k = 8 then 0 else putE (fs j2).k (fs j2).n := rfl
            generalize gv (fs j2) = gvj at hstep hgv
            generalize ge (fs j2) = gej at hg0 hge
            generalize fs j2 = f at ck cn cb ckw cnw cbw rk rn hfx hfb hfm hgv hge
            obtain ⟨k, nn, fA, fm, fc, fl⟩ := f
            simp only at ck cn cb ckw cnw cbw rk rn hfx hfb hfm hgv hge
            generalize outF fs j2 (N - j2) = R at hRd hRb hstep hRl
            generalize hRR : outF fs (j2 + 1) (N - (j2 + 1)) = R' at hstep
            have hRm : R.length ≤ 1000 := by omega
            have HHRR := Lib.hid hRR
            have CKW := Lib.hid ckw
            have CNW := Lib.hid cnw
            have HFX := Lib.hid hfx
            have HCF := Lib.hid hcF
            clear ckw cnw cbw hfx hcF hf0 hRR
            by_cases hk : k = 8
            · subst hk
              by_cases h50 : 50 < fm
              · have hq : 50 ≤ fm := by omega
                have hxb := HFX.out.take hq
                rw [if_pos rfl] at hgv
                have hlx := hxb.len
                rw [hgv] at hstep
                generalize fl.take 50 = x at hxb hstep hlx
                obtain ⟨r1, r2, r3⟩ := raw_back x R' 50 (by first | (rw [hlx]; done) | (rw [hlx]; rfl))
                have hqc : ((50 : Nat) : Int) ≤ (fc : Int) := by omega
                have hqc2 : 50 ≤ fc := by omega
                have hraw := fun (v : World) (h : RdAt v g2 0 A2 R.length c2) (hB : Byt v g2 A2 R.length c2 R) => rraw_any v g2 0 50 A2 R.length c2 R h hB (by omega)
                unfold RrPost at hraw
                rw [hstep, r1, r2, r3, hlx] at hraw
                rw [hstep] at hRd hRb
                have HRAW := Lib.hid hraw
                have HXB := Lib.hid hxb
                have HRD := Lib.hid hRd
                have HRB := Lib.hid hRb
                clear hraw r1 r2 r3 hxb hRd hRb hgv hge cn hlx hstep
                go_wp2_with fail
                go_quiet (fail)
                have hbq := below_drewN hbel nq
                have hRdq : RdAt (wr.drewN nq) g2 0 A2 (x ++ R').length c2 := HRD.out
                have hRbq : Byt (wr.drewN nq) g2 A2 (x ++ R').length c2 (x ++ R') := HRB.out.drewN nq
                have hcontract := HRAW.out (wr.drewN nq) hRdq hRbq
                have HCON := Lib.hid hcontract
                clear hcontract hRdq hRbq
                go_wp2_with fail
                refine HCON.out.mono ?_
                rintro e w2 ⟨A3, c3, A4, c4, rfl, hres, hRd3, hRb3, hg3⟩
                have hb2 := hbq.grown hg3 hbq.size (fun k hk => by cases hk; exact hg2)
                have hx2 := (HXB.out.below hb2).more hb2.size
                have hsame := same_any hres hx2
                rw [decide_eq_true rfl] at hsame
                have HSAME := Lib.hid hsame
                have HRD3 := Lib.hid hRd3
                have HRB3 := Lib.hid hRb3
                clear hres hx2 hsame hRd3 hRb3
                go_wp2_with fail
                refine HSAME.out.mono ?_
                rintro e w3 ⟨rfl, rfl⟩
                go_wp2
                go_roundw
                case rel => exact ⟨j2 + 1, c3, A3, by omega, by go_num, by rw [HHRR.out]; exact HRD3.out, by rw [HHRR.out]; exact HRB3.out, hb2⟩
                case measure => simp [intOf]; omega
              · have hq : fm ≤ fm := by omega
                have hxb := HFX.out.take hq
                have hqx : fl.take 50 = fl.take fm := by rw [List.take_of_length_le (by rw [HFX.out.len]; omega), List.take_of_length_le (by rw [HFX.out.len]; exact Nat.le_refl _)]
                rw [if_pos rfl, hqx] at hgv
                clear hqx
                have hlx := hxb.len
                rw [hgv] at hstep
                generalize fl.take fm = x at hxb hstep hlx
                obtain ⟨r1, r2, r3⟩ := raw_back x R' (fm : Int) (by first | (rw [hlx]; done) | (rw [hlx]; rfl))
                have hqc : ((fm : Nat) : Int) ≤ (fc : Int) := by omega
                have hqc2 : fm ≤ fc := by omega
                have hraw := fun (v : World) (h : RdAt v g2 0 A2 R.length c2) (hB : Byt v g2 A2 R.length c2 R) => rraw_any v g2 0 (fm : Int) A2 R.length c2 R h hB (by omega)
                unfold RrPost at hraw
                rw [hstep, r1, r2, r3, hlx] at hraw
                rw [hstep] at hRd hRb
                have HRAW := Lib.hid hraw
                have HXB := Lib.hid hxb
                have HRD := Lib.hid hRd
                have HRB := Lib.hid hRb
                clear hraw r1 r2 r3 hxb hRd hRb hgv hge cn hlx hstep
                go_wp2_with fail
                go_quiet (fail)
                have hbq := below_drewN hbel nq
                have hRdq : RdAt (wr.drewN nq) g2 0 A2 (x ++ R').length c2 := HRD.out
                have hRbq : Byt (wr.drewN nq) g2 A2 (x ++ R').length c2 (x ++ R') := HRB.out.drewN nq
                have hcontract := HRAW.out (wr.drewN nq) hRdq hRbq
                have HCON := Lib.hid hcontract
                clear hcontract hRdq hRbq
                go_wp2_with fail
                refine HCON.out.mono ?_
                rintro e w2 ⟨A3, c3, A4, c4, rfl, hres, hRd3, hRb3, hg3⟩
                have hb2 := hbq.grown hg3 hbq.size (fun k hk => by cases hk; exact hg2)
                have hx2 := (HXB.out.below hb2).more hb2.size
                have hsame := same_any hres hx2
                rw [decide_eq_true rfl] at hsame
                have HSAME := Lib.hid hsame
                have HRD3 := Lib.hid hRd3
                have HRB3 := Lib.hid hRb3
                clear hres hx2 hsame hRd3 hRb3
                go_wp2_with fail
                refine HSAME.out.mono ?_
                rintro e w3 ⟨rfl, rfl⟩
                go_wp2
                go_roundw
                case rel => exact ⟨j2 + 1, c3, A3, by omega, by go_num, by rw [HHRR.out]; exact HRD3.out, by rw [HHRR.out]; exact HRB3.out, hb2⟩
                case measure => simp [intOf]; omega
            · have hk8 : (k == 8) = false := by simp [hk]
              rw [if_neg hk] at hgv hge
              rw [hgv] at hstep
              have hp : putE k nn = 0 := by rw [← hge]; exact hg0
              obtain ⟨r1, r2, r3⟩ := num_back hp R'
              have hnum := fun (v : World) (h : RdAt v g2 0 A2 R.length c2) (hB : Byt v g2 A2 R.length c2 R) => rnum2_any v g2 0 k A2 R.length c2 R h hB
              unfold RnPost at hnum
              rw [hstep, r1, r2, r3] at hnum
              rw [hstep] at hRd hRb
              have hRdd : RdAt wr.drew g2 0 A2 (putA k nn ++ R').length c2 := hRd
              have hRbd : Byt wr.drew g2 A2 (putA k nn ++ R').length c2 (putA k nn ++ R') := ⟨hRb.len, hRb.cap, hRb.max, hRb.rng, hRb.cells⟩
              have hnumd := hnum wr.drew hRdd hRbd
              have HNUM := Lib.hid hnumd
              have hne : (nn != nn) = false := by simp
              clear hnum hnumd r1 r2 r3 hRd hRb hRdd hRbd hgv hge cb hstep hp
              go_wp2_with fail
              go_region_held3 (fun w' => w'.cell? ⟨bF, oF + j2 * 3, none⟩ = some (.int .i64 k) ∧ w'.cell? ⟨bF, oF + j2 * 3 + 1, none⟩ = some (.int .i64 nn))
                (first | exact ⟨ck, cn⟩ | exact k2)
                (first
                  | (go_at_call 28
                     (with_reducible refine HNUM.out.mono ?_)
                     rintro e w2 ⟨A3, c3, rfl, hRd3, hRb3, hg3⟩
                     have hb2 : Below w.heap.size w w2 := hbel.drew.grown hg3 hbel.size (fun k hk => by cases hk; exact hg2)
                     have k2 : w2.cell? ⟨bF, oF + j2 * 3, none⟩ = some (.int .i64 k) ∧ w2.cell? ⟨bF, oF + j2 * 3 + 1, none⟩ = some (.int .i64 nn) := ⟨(hb2.cell (p := ⟨bF, oF + j2 * 3, none⟩) hbF).trans CKW.out, (hb2.cell (p := ⟨bF, oF + j2 * 3 + 1, none⟩) hbF).trans CNW.out⟩
                     have HRD3 := Lib.hid hRd3
                     have HRB3 := Lib.hid hRb3
                     clear hRd3 hRb3))
              clear ck cn k2
              go_wp2
              go_roundw
              case rel => exact ⟨j2 + 1, c3, A3, by omega, by go_num, by rw [HHRR.out]; exact HRD3.out, by rw [HHRR.out]; exact HRB3.out, hb2⟩
              case measure => simp [intOf]; omega
          · obtain rfl : N = j2 := by omega
            rw [Nat.sub_self] at hRd hRb
            have hRd0 : RdAt wr g2 0 A2 0 c2 := hRd
            have hle := fun (v : World) (h : RdAt v g2 0 A2 0 c2) => rleft_any v g2 0 A2 0 c2 h
            have her := fun (v : World) (h : RdAt v g2 0 A2 0 c2) => rerr_any v g2 0 A2 0 c2 h
            have HRD := Lib.hid hRd0
            have HLE := Lib.hid hle
            have HER := Lib.hid her
            clear hRd hRb hRd0 hle her hstart
            go_wp2_with fail
            refine (wnum_nil _ _ _).mono ?_
            rintro e w3 ⟨⟨v3, rfl⟩, hb3⟩
            have hd3 := HRD.out.below hb3 HRD.out.lt
            have hs3 := hbel.trans (hb3.mono hbel.size)
            have HD3 := Lib.hid hd3
            clear hd3
            go_wp2_with fail
            refine (wraw_nil _ _ _ _).mono ?_
            rintro e w4 ⟨⟨v4, rfl⟩, hb4⟩
            have hb4' : Below w3.heap.size w3 w4 := ((Below.refl _ _).alloc (Nat.le_refl _) _).trans (hb4.mono (by simp))
            have hd4 := HD3.out.below hb4' HD3.out.lt
            have hs4 := hs3.trans (hb4'.mono hs3.size)
            have HD4 := Lib.hid hd4
            clear hd4
            go_wp2_with fail
            refine (live2_any _).mono ?_
            rintro e w5 ⟨rfl, hb5⟩
            have hd5 := HD4.out.below hb5 HD4.out.lt
            have hs5 := hs4.trans (hb5.mono hs4.size)
            have HD5 := Lib.hid hd5
            clear hd5
            go_wp2_with fail
            refine (HLE.out _ HD5.out).mono ?_
            rintro e w6 ⟨rfl, rfl⟩
            go_wp2_with fail
            refine (HER.out _ HD5.out).mono ?_
            rintro e w6 ⟨rfl, rfl⟩
            go_wp2_with fail
            refine (wbytes_nil _).mono ?_
            rintro e w7 ⟨rfl, hb7⟩
            have hs7 := hs5.trans (hb7.mono hs5.size)
            go_wp2_with fail
            refine (werr_nil _).mono ?_
            rintro e w8 ⟨rfl, hb8⟩
            go_wp2
            go_ret
            exact ⟨rfl, hs7.trans (hb8.mono hs7.size)⟩
  · go_enter Try.func7, Try.ntmps7
    go_wp2_with fail
    go_loopw [7, 4, 5, 6] (Rel1 w 20 fs) (fun i _ _ _ _ => 20 - (intOf i).toNat)
    case atStart => exact start1 w _ _ rfl rfl 20 fs
    case round =>
      obtain ⟨j, cW, AW, hj, rfl, rfl, rfl, hWr, hown, hap, hbel⟩ := hrel
      by_cases hlt : j < 20
      · obtain ⟨bF, oF, rfl, hbF, hcF⟩ := hF.cells (by omega)
        have hf0 := hcF j hlt
        have ckw := hf0.ck
        have cnw := hf0.cn
        have cbw := hf0.cb
        rw [Nat.mul_comm] at ckw cnw cbw
        have ck := (hbel.cell (p := ⟨bF, oF + j * 3, none⟩) hbF).trans ckw
        have cn := (hbel.cell (p := ⟨bF, oF + j * 3 + 1, none⟩) hbF).trans cnw
        have cb := (hbel.cell (p := ⟨bF, oF + j * 3 + 2, none⟩) hbF).trans cbw
        have rk := hf0.rk
        have rn := hf0.rn
        have hfx := hf0.byt
        have hfb := hf0.byt.cap
        have hfm := hf0.byt.max
        simp only [maxLen] at hfm
        have sok := step_ok fs j
        have sbad := step_bad fs j
        have sno := step_no fs j
        have hLn := outL_len fs (cntL fs j)
        have hcnt := cnt_le fs j
        have hgv : gv (fs j) = if (fs j).k = 8 then (fs j).l.take 50 else putA (fs j).k (fs j).n := rfl
        have hge : ge (fs j) = if (fs j).k = 8 then 0 else putE (fs j).k (fs j).n := rfl
        generalize gv (fs j) = gvj at sok hgv
        generalize ge (fs j) = gej at sok sbad hge
        generalize fs j = f at ck cn cb ckw cnw cbw rk rn hfx hfb hfm hgv hge
        obtain ⟨k, nn, fA, fm, fc, fl⟩ := f
        simp only at ck cn cb ckw cnw cbw rk rn hfx hfb hfm hgv hge
        generalize errL fs j = er at hWr sok sbad sno
        generalize hcc : cntL fs j = cn0 at hWr hown sok sbad sno hLn hcnt
        generalize hLL : outL fs cn0 = L at hWr hown sok hLn
        have HLL := Lib.hid hLL
        clear hLL
        have hLm : L.length ≤ 1000 := by omega
        have hcn20 : cn0 ≤ 20 := by omega
        have hgsz : w.heap.size + 1 ≤ wr.heap.size := hWr.1.lt
        have CKW := Lib.hid ckw
        have CNW := Lib.hid cnw
        have HFX := Lib.hid hfx
        have HCF := Lib.hid hcF
        have HF1 := Lib.hid hF
        clear ckw cnw cbw hfx hcF hf0 hF hcc
        by_cases hk : k = 8
        · subst hk
          by_cases he : er = 0
          · subst he
            by_cases h50 : 50 < fm
            · have hq : 50 ≤ fm := by omega
              have hxb := HFX.out.take hq
              rw [if_pos rfl] at hgv
              rw [if_pos rfl] at hge
              have hqc : ((50 : Nat) : Int) ≤ (fc : Int) := by omega
              have hqc2 : 50 ≤ fc := by omega
              have hlx := hxb.len
              obtain ⟨s1, s2, s3⟩ := sok rfl hge
              rw [hgv] at s3
              generalize fl.take 50 = x at hxb s3 hlx
              have S1 := Lib.hid s1
              have S2 := Lib.hid s2
              have S3 := Lib.hid s3
              have HXB := Lib.hid hxb
              have HWR := Lib.hid hWr
              have HOWN := Lib.hid hown
              have HAP := Lib.hid hap
              have HLX := Lib.hid hlx
              clear s1 s2 s3 hxb hlx sok sbad sno hgv hge hWr hown hap cn
              go_wp2_with fail
              go_quiet (fail)
              go_wp2_with fail
              have hbq := below_drewN hbel nq
              have hWq : WrIn (wr.drewN nq) w.heap.size 0 L AW cW := HWR.out
              have hownq : (wr.drewN nq).ownsRow (w.heap.size + 1) 5 1 u4 L.length (L.map (Value.int .u8)) := HOWN.out
              have hxq : Byt (wr.drewN nq) (wr.drewN nq).heap.size fA 50 fc x := (HXB.out.below hbq).more hbq.size
              have hcontract := wraw_ok2 (wr.drewN nq) w.heap.size L x AW cW fA 50 fc hWq hxq (by omega)
              refine hcontract.mono ?_
              rintro e w2 ⟨⟨v2, rfl⟩, A2, c2, hW2, hc2, hA2⟩
              have hb2 := hbq.trans (below_step hWq hc2 (Nat.le_refl _))
              have hown2 := own_chg hownq hc2 (fun k hk => HAP.out k hk)
              have hap2 := apart_step HAP.out hownq hA2
              have hx2 := HXB.out.below hb2
              have hgs2 : w.heap.size + 1 ≤ w2.heap.size := hW2.1.lt
              have HW2 := Lib.hid hW2
              have HAP2 := Lib.hid hap2
              clear hcontract hc2 hA2 hap2 hW2 hWq hownq hxq
              go_wp2_with (at_builtin; refine wpList_bytes_at rfl (.tmp 53) (.tmp 54) rfl Try.underlying22 byte_info rfl hown2 rfl hx2 (by omega) hgs2 ?_; intro v3 w3 hown3 hg3 hat3)
              have hW3 := HW2.out.grown hg3 (fun e => by have := hown2.lt _ e; omega) (fun k hk e => HAP2.out k e hk)
              have hap3 : Apart v3 A2 := fun k hk e => by
                rcases hat3 with h3 | h3
                · exact HAP2.out k (h3.symm.trans hk) e
                · rw [h3] at hk
                  injection hk with hk
                  have := (HW2.out.row k e).2
                  omega
              have hb3 := hb2.grown hg3 hb2.size (fun k hk => by have := hown2.lt k hk; omega)
              have hown3' : w3.ownsRow (w.heap.size + 1) 5 1 v3 (L ++ x).length ((L ++ x).map (Value.int .u8)) := by rw [List.length_append, HLX.out]; exact hown3
              go_wp2
              go_roundw
              case rel => exact ⟨j + 1, c2, A2, by omega, by go_num, by rw [S1.out], by first | (rw [S2.out]; done) | (rw [S2.out]; go_num), by rw [S1.out, S2.out, S3.out]; exact hW3, by rw [S2.out, S3.out]; exact hown3', hap3, hb3⟩
              case measure => simp [intOf]; omega
            · have hq : fm ≤ fm := by omega
              have hqx : fl.take 50 = fl.take fm := by rw [List.take_of_length_le (by rw [HFX.out.len]; omega), List.take_of_length_le (by rw [HFX.out.len]; exact Nat.le_refl _)]
              have hxb := HFX.out.take hq
              rw [if_pos rfl, hqx] at hgv
              rw [if_pos rfl] at hge
              have hqc : ((fm : Nat) : Int) ≤ (fc : Int) := by omega
              have hqc2 : fm ≤ fc := by omega
              have hlx := hxb.len
              clear hqx
              obtain ⟨s1, s2, s3⟩ := sok rfl hge
              rw [hgv] at s3
              generalize fl.take fm = x at hxb s3 hlx
              have S1 := Lib.hid s1
              have S2 := Lib.hid s2
              have S3 := Lib.hid s3
              have HXB := Lib.hid hxb
              have HWR := Lib.hid hWr
              have HOWN := Lib.hid hown
              have HAP := Lib.hid hap
              have HLX := Lib.hid hlx
              clear s1 s2 s3 hxb hlx sok sbad sno hgv hge hWr hown hap cn
              go_wp2_with fail
              go_quiet (fail)
              go_wp2_with fail
              have hbq := below_drewN hbel nq
              have hWq : WrIn (wr.drewN nq) w.heap.size 0 L AW cW := HWR.out
              have hownq : (wr.drewN nq).ownsRow (w.heap.size + 1) 5 1 u4 L.length (L.map (Value.int .u8)) := HOWN.out
              have hxq : Byt (wr.drewN nq) (wr.drewN nq).heap.size fA fm fc x := (HXB.out.below hbq).more hbq.size
              have hcontract := wraw_ok2 (wr.drewN nq) w.heap.size L x AW cW fA fm fc hWq hxq (by omega)
              refine hcontract.mono ?_
              rintro e w2 ⟨⟨v2, rfl⟩, A2, c2, hW2, hc2, hA2⟩
              have hb2 := hbq.trans (below_step hWq hc2 (Nat.le_refl _))
              have hown2 := own_chg hownq hc2 (fun k hk => HAP.out k hk)
              have hap2 := apart_step HAP.out hownq hA2
              have hx2 := HXB.out.below hb2
              have hgs2 : w.heap.size + 1 ≤ w2.heap.size := hW2.1.lt
              have HW2 := Lib.hid hW2
              have HAP2 := Lib.hid hap2
              clear hcontract hc2 hA2 hap2 hW2 hWq hownq hxq
              go_wp2_with (at_builtin; refine wpList_bytes_at rfl (.tmp 53) (.tmp 54) rfl Try.underlying22 byte_info rfl hown2 rfl hx2 (by omega) hgs2 ?_; intro v3 w3 hown3 hg3 hat3)
              have hW3 := HW2.out.grown hg3 (fun e => by have := hown2.lt _ e; omega) (fun k hk e => HAP2.out k e hk)
              have hap3 : Apart v3 A2 := fun k hk e => by
                rcases hat3 with h3 | h3
                · exact HAP2.out k (h3.symm.trans hk) e
                · rw [h3] at hk
                  injection hk with hk
                  have := (HW2.out.row k e).2
                  omega
              have hb3 := hb2.grown hg3 hb2.size (fun k hk => by have := hown2.lt k hk; omega)
              have hown3' : w3.ownsRow (w.heap.size + 1) 5 1 v3 (L ++ x).length ((L ++ x).map (Value.int .u8)) := by rw [List.length_append, HLX.out]; exact hown3
              go_wp2
              go_roundw
              case rel => exact ⟨j + 1, c2, A2, by omega, by go_num, by rw [S1.out], by first | (rw [S2.out]; done) | (rw [S2.out]; go_num), by rw [S1.out, S2.out, S3.out]; exact hW3, by rw [S2.out, S3.out]; exact hown3', hap3, hb3⟩
              case measure => simp [intOf]; omega
          · have he1 : (er == 0) = false := by simp [he]
            by_cases h50 : 50 < fm
            · have hq : 50 ≤ fm := by omega
              have hxb := HFX.out.take hq
              rw [if_pos rfl] at hgv
              rw [if_pos rfl] at hge
              have hqc : ((50 : Nat) : Int) ≤ (fc : Int) := by omega
              have hqc2 : 50 ≤ fc := by omega
              have hlx := hxb.len
              obtain ⟨s1, s2⟩ := sno he
              have S1 := Lib.hid s1
              have S2 := Lib.hid s2
              have HWR := Lib.hid hWr
              have HOWN := Lib.hid hown
              have HAP := Lib.hid hap
              have HE := Lib.hid he
              clear s1 s2 hxb hlx sok sbad sno hgv hge hWr hown hap cn he
              go_wp2_with fail
              go_quiet (fail)
              go_wp2_with fail
              have hbq := below_drewN hbel nq
              have hWq : WrIn (wr.drewN nq) w.heap.size er L AW cW := HWR.out
              have hownq : (wr.drewN nq).ownsRow (w.heap.size + 1) 5 1 u4 L.length (L.map (Value.int .u8)) := HOWN.out
              have hcontract := wraw_no2 (wr.drewN nq) w.heap.size er L AW cW fA 50 fc hWq HE.out
              refine hcontract.mono ?_
              rintro e w2 ⟨⟨v2, rfl⟩, A2, c2, hW2, hc2, hA2⟩
              have hb2 := hbq.trans (below_step hWq hc2 (Nat.le_refl _))
              have hown2 := own_chg hownq hc2 (fun k hk => HAP.out k hk)
              have hap2 := apart_step HAP.out hownq hA2
              have HW2 := Lib.hid hW2
              have HAP2 := Lib.hid hap2
              clear hcontract hc2 hA2 hap2 hW2 hWq hownq
              go_wp2
              go_roundw
              case rel => exact ⟨j + 1, c2, A2, by omega, by go_num, by rw [S1.out], by first | (rw [S2.out]; done) | (rw [S2.out]; go_num), by rw [S1.out, S2.out, HLL.out]; exact HW2.out, by rw [S2.out, HLL.out]; exact hown2, HAP2.out, hb2⟩
              case measure => simp [intOf]; omega
            · have hq : fm ≤ fm := by omega
              have hqx : fl.take 50 = fl.take fm := by rw [List.take_of_length_le (by rw [HFX.out.len]; omega), List.take_of_length_le (by rw [HFX.out.len]; exact Nat.le_refl _)]
              have hxb := HFX.out.take hq
              rw [if_pos rfl, hqx] at hgv
              rw [if_pos rfl] at hge
              have hqc : ((fm : Nat) : Int) ≤ (fc : Int) := by omega
              have hqc2 : fm ≤ fc := by omega
              have hlx := hxb.len
              clear hqx
              obtain ⟨s1, s2⟩ := sno he
              have S1 := Lib.hid s1
              have S2 := Lib.hid s2
              have HWR := Lib.hid hWr
              have HOWN := Lib.hid hown
              have HAP := Lib.hid hap
              have HE := Lib.hid he
              clear s1 s2 hxb hlx sok sbad sno hgv hge hWr hown hap cn he
              go_wp2_with fail
              go_quiet (fail)
              go_wp2_with fail
              have hbq := below_drewN hbel nq
              have hWq : WrIn (wr.drewN nq) w.heap.size er L AW cW := HWR.out
              have hownq : (wr.drewN nq).ownsRow (w.heap.size + 1) 5 1 u4 L.length (L.map (Value.int .u8)) := HOWN.out
              have hcontract := wraw_no2 (wr.drewN nq) w.heap.size er L AW cW fA fm fc hWq HE.out
              refine hcontract.mono ?_
              rintro e w2 ⟨⟨v2, rfl⟩, A2, c2, hW2, hc2, hA2⟩
              have hb2 := hbq.trans (below_step hWq hc2 (Nat.le_refl _))
              have hown2 := own_chg hownq hc2 (fun k hk => HAP.out k hk)
              have hap2 := apart_step HAP.out hownq hA2
              have HW2 := Lib.hid hW2
              have HAP2 := Lib.hid hap2
              clear hcontract hc2 hA2 hap2 hW2 hWq hownq
              go_wp2
              go_roundw
              case rel => exact ⟨j + 1, c2, A2, by omega, by go_num, by rw [S1.out], by first | (rw [S2.out]; done) | (rw [S2.out]; go_num), by rw [S1.out, S2.out, HLL.out]; exact HW2.out, by rw [S2.out, HLL.out]; exact hown2, HAP2.out, hb2⟩
              case measure => simp [intOf]; omega
        · have hk8 : (k == 8) = false := by simp [hk]
          by_cases he : er = 0
          · subst he
            by_cases hp : putE k nn = 0
            · rw [if_neg hk] at hgv hge
              obtain ⟨s1, s2, s3⟩ := sok rfl (by rw [hge]; exact hp)
              rw [hgv] at s3
              have S3 := Lib.hid s3
              have hnum := fun (v : World) (h : WrIn v w.heap.size 0 L AW cW) => wnum_ok2 v w.heap.size k nn L AW cW h hp (by omega)
              clear s3
              have hput := fun v => rput_any k nn v
              unfold PutPost at hput
              rw [hp] at hput
              have hpl := putA_len k nn
              generalize putA k nn = x at hput hnum hpl S3
              have S1 := Lib.hid s1
              have S2 := Lib.hid s2
              have HNUM := Lib.hid hnum
              have HPUT := Lib.hid hput
              have HWR := Lib.hid hWr
              have HOWN := Lib.hid hown
              have HAP := Lib.hid hap
              have hWd : WrIn wr.drew w.heap.size 0 L AW cW := HWR.out
              have HWRD := Lib.hid hWd
              clear s1 s2 sok sbad sno hgv hge hWr hWd hown hap cb hnum hput hp
              go_wp2_with fail
              go_region_held3 (fun w' => w'.cell? ⟨bF, oF + j * 3, none⟩ = some (.int .i64 k) ∧ w'.cell? ⟨bF, oF + j * 3 + 1, none⟩ = some (.int .i64 nn))
                (first | exact ⟨ck, cn⟩ | exact k2)
                (first
                  | (go_at_call 23
                     (with_reducible refine (HNUM.out wr.drew HWRD.out).mono ?_)
                     rintro e w2 ⟨⟨v2, rfl⟩, A2, c2, hW2, hc2, hA2⟩
                     have hb2 := hbel.drew.trans (below_step (show WrIn wr.drew w.heap.size 0 L AW cW from HWR.out) hc2 (Nat.le_refl _))
                     have k2 : w2.cell? ⟨bF, oF + j * 3, none⟩ = some (.int .i64 k) ∧ w2.cell? ⟨bF, oF + j * 3 + 1, none⟩ = some (.int .i64 nn) := ⟨(hb2.cell (p := ⟨bF, oF + j * 3, none⟩) hbF).trans CKW.out, (hb2.cell (p := ⟨bF, oF + j * 3 + 1, none⟩) hbF).trans CNW.out⟩
                     have hown2 := own_chg (show wr.drew.ownsRow (w.heap.size + 1) 5 1 u4 L.length (L.map (Value.int .u8)) from HOWN.out) hc2 (fun k hk => HAP.out k hk)
                     have hap2 := apart_step HAP.out (show wr.drew.ownsRow (w.heap.size + 1) 5 1 u4 L.length (L.map (Value.int .u8)) from HOWN.out) hA2
                     have HW2 := Lib.hid hW2
                     have HAP2 := Lib.hid hap2
                     have hgs2 : w.heap.size + 1 ≤ w2.heap.size := hW2.1.lt
                     have HOWN2 := Lib.hid hown2
                     clear hW2 hap2 hc2 hA2 hown2))
              obtain ⟨ck2, cn2⟩ := k2
              clear ck cn
              go_wp2_with fail
              go_region_held3 (fun w' => w'.cell? ⟨bF, oF + j * 3, none⟩ = some (.int .i64 k) ∧ w'.cell? ⟨bF, oF + j * 3 + 1, none⟩ = some (.int .i64 nn))
                (first | exact ⟨ck2, cn2⟩ | exact k3)
                (first
                  | (go_at_call 10
                     (with_reducible refine (HPUT.out w2.drew).mono ?_)
                     rintro e w3 ⟨A3, c3, rfl, hB3, hb3⟩
                     have hb23 : Below w.heap.size w w3 := hb2.drew.trans (hb3.mono hb2.size)
                     have k3 : w3.cell? ⟨bF, oF + j * 3, none⟩ = some (.int .i64 k) ∧ w3.cell? ⟨bF, oF + j * 3 + 1, none⟩ = some (.int .i64 nn) := ⟨(hb23.cell (p := ⟨bF, oF + j * 3, none⟩) hbF).trans CKW.out, (hb23.cell (p := ⟨bF, oF + j * 3 + 1, none⟩) hbF).trans CNW.out⟩
                     have hW3 := HW2.out.grown (R := none) ⟨hb3.os, hb3.tape, hb3.output, hb3.size, fun i hi _ => hb3.block i hi⟩ (by simp) (by simp)
                     have hown3 := own_low (show w2.drew.ownsRow (w.heap.size + 1) 5 1 u4 L.length (L.map (Value.int .u8)) from HOWN2.out) hb3
                     have hgs3 : w.heap.size + 1 ≤ w3.heap.size := hW3.1.lt
                     have HW3 := Lib.hid hW3
                     have HB3 := Lib.hid hB3
                     clear hW3 hB3))
              clear ck2 cn2 k3
              go_wp2_with (at_builtin; refine wpList_bytes_at rfl (.tmp 85) (.tmp 86) rfl Try.underlying22 byte_info rfl hown3 rfl HB3.out (by omega) hgs3 ?_; intro v4 w4 hown4 hg4 hat4)
              have hW4 := HW3.out.grown hg4 (fun e => by have := hown3.lt _ e; omega) (fun k hk e => HAP2.out k e hk)
              have hap4 : Apart v4 A2 := fun k hk e => by
                rcases hat4 with h3 | h3
                · exact HAP2.out k (h3.symm.trans hk) e
                · rw [h3] at hk
                  injection hk with hk
                  have := (HW3.out.row k e).2
                  omega
              have hb4 := hb23.grown hg4 hb23.size (fun k hk => by have := hown3.lt k hk; omega)
              have hown4' : w4.ownsRow (w.heap.size + 1) 5 1 v4 (L ++ x).length ((L ++ x).map (Value.int .u8)) := by rw [List.length_append]; exact hown4
              go_wp2
              go_roundw
              case rel => exact ⟨j + 1, c2, A2, by omega, by go_num, by rw [S1.out], by first | (rw [S2.out]; done) | (rw [S2.out]; go_num), by rw [S1.out, S2.out, S3.out]; exact hW4, by rw [S2.out, S3.out]; exact hown4', hap4, hb4⟩
              case measure => simp [intOf]; omega
            · rw [if_neg hk] at hgv hge
              obtain ⟨s1, s2⟩ := sbad rfl (by rw [hge]; exact hp)
              rw [hge] at s1
              have hfe : fe 0 (putE k nn) = putE k nn := by unfold fe; rw [if_pos rfl]
              have hpa : putA k nn = [] := by
                unfold putE at hp
                split at hp
                · exact absurd rfl hp
                · rename_i hfit; unfold putA; rw [if_neg hfit]
              have hnum := fun (v : World) (h : WrIn v w.heap.size 0 L AW cW) => wnum_no2 v w.heap.size 0 k nn L AW cW h (by rw [hfe]; exact hp)
              rw [hfe] at hnum
              have hpe1 : (putE k nn == 0) = false := by simp [hp]
              have hput := fun v => rput_any k nn v
              unfold PutPost at hput
              rw [hpa] at hput
              generalize putE k nn = pe at hput hnum hpe1 s1
              have hpl := putA_len k nn
              have S1 := Lib.hid s1
              have S2 := Lib.hid s2
              have HNUM := Lib.hid hnum
              have HPUT := Lib.hid hput
              have HWR := Lib.hid hWr
              have HOWN := Lib.hid hown
              have HAP := Lib.hid hap
              have hWd : WrIn wr.drew w.heap.size 0 L AW cW := HWR.out
              have HWRD := Lib.hid hWd
              clear s1 s2 sok sbad sno hgv hge hWr hWd hown hap cb hnum hput hp hfe hpa
              go_wp2_with fail
              go_region_held3 (fun w' => w'.cell? ⟨bF, oF + j * 3, none⟩ = some (.int .i64 k) ∧ w'.cell? ⟨bF, oF + j * 3 + 1, none⟩ = some (.int .i64 nn))
                (first | exact ⟨ck, cn⟩ | exact k2)
                (first
                  | (go_at_call 23
                     (with_reducible refine (HNUM.out wr.drew HWRD.out).mono ?_)
                     rintro e w2 ⟨⟨v2, rfl⟩, A2, c2, hW2, hc2, hA2⟩
                     have hb2 := hbel.drew.trans (below_step (show WrIn wr.drew w.heap.size 0 L AW cW from HWR.out) hc2 (Nat.le_refl _))
                     have k2 : w2.cell? ⟨bF, oF + j * 3, none⟩ = some (.int .i64 k) ∧ w2.cell? ⟨bF, oF + j * 3 + 1, none⟩ = some (.int .i64 nn) := ⟨(hb2.cell (p := ⟨bF, oF + j * 3, none⟩) hbF).trans CKW.out, (hb2.cell (p := ⟨bF, oF + j * 3 + 1, none⟩) hbF).trans CNW.out⟩
                     have hown2 := own_chg (show wr.drew.ownsRow (w.heap.size + 1) 5 1 u4 L.length (L.map (Value.int .u8)) from HOWN.out) hc2 (fun k hk => HAP.out k hk)
                     have hap2 := apart_step HAP.out (show wr.drew.ownsRow (w.heap.size + 1) 5 1 u4 L.length (L.map (Value.int .u8)) from HOWN.out) hA2
                     have HW2 := Lib.hid hW2
                     have HAP2 := Lib.hid hap2
                     have hgs2 : w.heap.size + 1 ≤ w2.heap.size := hW2.1.lt
                     have HOWN2 := Lib.hid hown2
                     clear hW2 hap2 hc2 hA2 hown2))
              obtain ⟨ck2, cn2⟩ := k2
              clear ck cn
              go_wp2_with fail
              go_region_held3 (fun w' => w'.cell? ⟨bF, oF + j * 3, none⟩ = some (.int .i64 k) ∧ w'.cell? ⟨bF, oF + j * 3 + 1, none⟩ = some (.int .i64 nn))
                (first | exact ⟨ck2, cn2⟩ | exact k3)
                (first
                  | (go_at_call 10
                     (with_reducible refine (HPUT.out w2.drew).mono ?_)
                     rintro e w3 ⟨A3, c3, rfl, hB3, hb3⟩
                     have hb23 : Below w.heap.size w w3 := hb2.drew.trans (hb3.mono hb2.size)
                     have k3 : w3.cell? ⟨bF, oF + j * 3, none⟩ = some (.int .i64 k) ∧ w3.cell? ⟨bF, oF + j * 3 + 1, none⟩ = some (.int .i64 nn) := ⟨(hb23.cell (p := ⟨bF, oF + j * 3, none⟩) hbF).trans CKW.out, (hb23.cell (p := ⟨bF, oF + j * 3 + 1, none⟩) hbF).trans CNW.out⟩
                     have hW3 := HW2.out.grown (R := none) ⟨hb3.os, hb3.tape, hb3.output, hb3.size, fun i hi _ => hb3.block i hi⟩ (by simp) (by simp)
                     have hown3 := own_low (show w2.drew.ownsRow (w.heap.size + 1) 5 1 u4 L.length (L.map (Value.int .u8)) from HOWN2.out) hb3
                     have hgs3 : w.heap.size + 1 ≤ w3.heap.size := hW3.1.lt
                     have HW3 := Lib.hid hW3
                     have HB3 := Lib.hid hB3
                     clear hW3 hB3))
              clear ck2 cn2 k3
              go_wp2_with (at_builtin; refine wpList_bytes_at rfl (.tmp 85) (.tmp 86) rfl Try.underlying22 byte_info rfl hown3 rfl HB3.out (by simp; omega) hgs3 ?_; intro v4 w4 hown4 hg4 hat4)
              have hW4 := HW3.out.grown hg4 (fun e => by have := hown3.lt _ e; omega) (fun k hk e => HAP2.out k e hk)
              have hap4 : Apart v4 A2 := fun k hk e => by
                rcases hat4 with h3 | h3
                · exact HAP2.out k (h3.symm.trans hk) e
                · rw [h3] at hk
                  injection hk with hk
                  have := (HW3.out.row k e).2
                  omega
              have hb4 := hb23.grown hg4 hb23.size (fun k hk => by have := hown3.lt k hk; omega)
              have hown4' : w4.ownsRow (w.heap.size + 1) 5 1 v4 (L ++ []).length ((L ++ []).map (Value.int .u8)) := by rw [List.length_append]; exact hown4
              rw [List.append_nil] at hown4'
              go_wp2
              go_roundw
              case rel => exact ⟨j + 1, c2, A2, by omega, by go_num, by rw [S1.out], by first | (rw [S2.out]; done) | (rw [S2.out]; go_num), by rw [S1.out, S2.out, HLL.out]; exact hW4, by rw [S2.out, HLL.out]; exact hown4', hap4, hb4⟩
              case measure => simp [intOf]; omega
          · have he1 : (er == 0) = false := by simp [he]
            rw [if_neg hk] at hgv hge
            obtain ⟨s1, s2⟩ := sno he
            have hfe : fe er (putE k nn) = er := by unfold fe; rw [if_neg he]
            have hnum := fun (v : World) (h : WrIn v w.heap.size er L AW cW) => wnum_no2 v w.heap.size er k nn L AW cW h (by rw [hfe]; exact he)
            rw [hfe] at hnum
            have hput := fun v => rput_any k nn v
            unfold PutPost at hput
            have hpl := putA_len k nn
            generalize putA k nn = x at hput hpl
            have S1 := Lib.hid s1
            have S2 := Lib.hid s2
            have HNUM := Lib.hid hnum
            have HPUT := Lib.hid hput
            have HWR := Lib.hid hWr
            have HOWN := Lib.hid hown
            have HAP := Lib.hid hap
            have hWd : WrIn wr.drew w.heap.size er L AW cW := HWR.out
            have HWRD := Lib.hid hWd
            clear s1 s2 sok sbad sno hgv hge hWr hWd hown hap cb hnum hput he hfe
            go_wp2_with fail
            go_region_held3 (fun w' => w'.cell? ⟨bF, oF + j * 3, none⟩ = some (.int .i64 k) ∧ w'.cell? ⟨bF, oF + j * 3 + 1, none⟩ = some (.int .i64 nn))
              (first | exact ⟨ck, cn⟩ | exact k2)
              (first
                | (go_at_call 23
                   (with_reducible refine (HNUM.out wr.drew HWRD.out).mono ?_)
                   rintro e w2 ⟨⟨v2, rfl⟩, A2, c2, hW2, hc2, hA2⟩
                   have hb2 := hbel.drew.trans (below_step (show WrIn wr.drew w.heap.size er L AW cW from HWR.out) hc2 (Nat.le_refl _))
                   have k2 : w2.cell? ⟨bF, oF + j * 3, none⟩ = some (.int .i64 k) ∧ w2.cell? ⟨bF, oF + j * 3 + 1, none⟩ = some (.int .i64 nn) := ⟨(hb2.cell (p := ⟨bF, oF + j * 3, none⟩) hbF).trans CKW.out, (hb2.cell (p := ⟨bF, oF + j * 3 + 1, none⟩) hbF).trans CNW.out⟩
                   have hown2 := own_chg (show wr.drew.ownsRow (w.heap.size + 1) 5 1 u4 L.length (L.map (Value.int .u8)) from HOWN.out) hc2 (fun k hk => HAP.out k hk)
                   have hap2 := apart_step HAP.out (show wr.drew.ownsRow (w.heap.size + 1) 5 1 u4 L.length (L.map (Value.int .u8)) from HOWN.out) hA2
                   have HW2 := Lib.hid hW2
                   have HAP2 := Lib.hid hap2
                   have hgs2 : w.heap.size + 1 ≤ w2.heap.size := hW2.1.lt
                   have HOWN2 := Lib.hid hown2
                   clear hW2 hap2 hc2 hA2 hown2))
            obtain ⟨ck2, cn2⟩ := k2
            clear ck cn
            go_wp2_with fail
            go_region_held3 (fun w' => w'.cell? ⟨bF, oF + j * 3, none⟩ = some (.int .i64 k) ∧ w'.cell? ⟨bF, oF + j * 3 + 1, none⟩ = some (.int .i64 nn))
              (first | exact ⟨ck2, cn2⟩ | exact k3)
              (first
                | (go_at_call 10
                   (with_reducible refine (HPUT.out w2.drew).mono ?_)
                   rintro e w3 ⟨A3, c3, rfl, hB3, hb3⟩
                   have hb23 : Below w.heap.size w w3 := hb2.drew.trans (hb3.mono hb2.size)
                   have k3 : w3.cell? ⟨bF, oF + j * 3, none⟩ = some (.int .i64 k) ∧ w3.cell? ⟨bF, oF + j * 3 + 1, none⟩ = some (.int .i64 nn) := ⟨(hb23.cell (p := ⟨bF, oF + j * 3, none⟩) hbF).trans CKW.out, (hb23.cell (p := ⟨bF, oF + j * 3 + 1, none⟩) hbF).trans CNW.out⟩
                   have hW3 := HW2.out.grown (R := none) ⟨hb3.os, hb3.tape, hb3.output, hb3.size, fun i hi _ => hb3.block i hi⟩ (by simp) (by simp)
                   have hown3 := own_low (show w2.drew.ownsRow (w.heap.size + 1) 5 1 u4 L.length (L.map (Value.int .u8)) from HOWN2.out) hb3
                   have hgs3 : w.heap.size + 1 ≤ w3.heap.size := hW3.1.lt
                   have HW3 := Lib.hid hW3
                   have HB3 := Lib.hid hB3
                   clear hW3 hB3))
            clear ck2 cn2 k3
            go_wp2
            go_roundw
            case rel => exact ⟨j + 1, c2, A2, by omega, by go_num, by rw [S1.out], by first | (rw [S2.out]; done) | (rw [S2.out]; go_num), by rw [S1.out, S2.out, HLL.out]; exact HW3.out, by rw [S2.out, HLL.out]; exact hown3, HAP2.out, hb23⟩
            case measure => simp [intOf]; omega
      · have hLn := outL_len fs (cntL fs j)
        have hNK := cnt_le fs j
        have hless := err_less fs j
        have hout := outF_out fs (cntL fs j)
        generalize errL fs j = er at hWr
        generalize cntL fs j = N at hWr hown hLn hNK hless hout
        rw [← hout] at hWr hown hLn
        have hL1 : (outF fs 0 N).length ≤ 1000 := by omega
        obtain ⟨AV, cV, rfl, hBV, _⟩ := Byt.of_own hown hWr.2.2
        have hBW := hWr.byt
        generalize hLL : outF fs 0 N = L at hWr hown hLn hBV hBW hL1
        have HOUT := Lib.hid hLL
        clear hLL
        have hwb := wbytes_any wr w.heap.size er AW L.length cW L hWr.1 hBW (by omega)
        have hwe := fun (v : World) (h : WrAt v w.heap.size er (.slice AW L.length cW)) => werr_any v w.heap.size er _ h
        have HWB := Lib.hid hwb
        have HWE := Lib.hid hwe
        have HWR := Lib.hid hWr
        have HBV := Lib.hid hBV
        have HLESS := Lib.hid hless
        clear hwb hwe hWr hBV hBW hless hout hown hap hLn
        go_wp2_with fail
        refine HWB.out.mono ?_
        rintro e w1 ⟨A1, c1, rfl, hB1, hb1⟩
        have hBV1 := HBV.out.step hb1
        have hsame := same_any hB1 hBV1
        rw [decide_eq_true rfl] at hsame
        have HSAME := Lib.hid hsame
        have HBV1 := Lib.hid hBV1
        have hbw1 := hbel.trans (hb1.mono hbel.size)
        have hne : (er != er) = false := by simp
        clear hB1 hBV1 hsame
        go_wp2_with fail
        refine HSAME.out.mono ?_
        rintro e w2 ⟨rfl, rfl⟩
        go_wp2_with fail
        refine (HWE.out _ (HWR.out.1.below hb1 HWR.out.1.lt)).mono ?_
        rintro e w2 ⟨rfl, rfl⟩
        have hnew := new_any w1 AV L.length cV L HBV1.out (by omega)
        have HNEW := Lib.hid hnew
        clear hnew hne
        go_wp2_with fail
        refine HNEW.out.mono ?_
        rintro e w2 ⟨g2, A2, c2, rfl, hg20, hRd, hRb, hb2⟩
        have hg2 : w.heap.size ≤ g2 := Nat.le_trans hbw1.size hg20
        have hbw2 := hbw1.trans (hb2.mono hbw1.size)
        have hstart : Rel2 w g2 N fs (.int .i64 0) w2 := ⟨0, c2, A2, Nat.zero_le _, rfl, by show RdAt w2 g2 0 A2 (outF fs 0 N).length c2; rw [HOUT.out]; exact hRd, by show Byt w2 g2 A2 (outF fs 0 N).length c2 (outF fs 0 N); rw [HOUT.out]; exact hRb, hbw2⟩
        clear hRd hRb hL1 HOUT
        go_wp2_with fail
        go_loopw [12] (Rel2 w g2 N fs) (fun i _ => N - (intOf i).toNat)
        case atStart => exact hstart
        case round =>
          have hN20 : N ≤ 20 := by omega
          obtain ⟨j2, c2, A2, hj2, rfl, hRd, hRb, hbel⟩ := hrel
          by_cases hlt2 : j2 < N
          · obtain ⟨bF, oF, rfl, hbF, hcF⟩ := hF.cells (by omega)
            have hf0 := hcF j2 (by omega)
            have ckw := hf0.ck
            have cnw := hf0.cn
            have cbw := hf0.cb
            rw [Nat.mul_comm] at ckw cnw cbw
            have ck := (hbel.cell (p := ⟨bF, oF + j2 * 3, none⟩) hbF).trans ckw
            have cn := (hbel.cell (p := ⟨bF, oF + j2 * 3 + 1, none⟩) hbF).trans cnw
            have cb := (hbel.cell (p := ⟨bF, oF + j2 * 3 + 2, none⟩) hbF).trans cbw
            have rk := hf0.rk
            have rn := hf0.rn
            have hfx := hf0.byt
            have hfb := hf0.byt.cap
            have hfm := hf0.byt.max
            simp only [maxLen] at hfm
            have hjK : (j2 : Int) < (20 : Int) := by omega
            have hjK2 : j2 < 20 := by omega
            have hg0 : ge (fs j2) = 0 := HLESS.out j2 hlt2
            have hstep : outF fs j2 (N - j2) = gv (fs j2) ++ outF fs (j2 + 1) (N - (j2 + 1)) := by rw [show N - j2 = (N - (j2 + 1)) + 1 by omega]; rfl
            have hRl := outF_len fs (N - j2) j2
            have hgv : gv (fs j2) = if (fs j2).k = 8 then (fs j2).l.take 50 else putA (fs j2).k (fs j2).n := rfl
            have hge : ge (fs j2) = if (fs j2).k = 8 then 0 else putE (fs j2).k (fs j2).n := rfl
            generalize gv (fs j2) = gvj at hstep hgv
            generalize ge (fs j2) = gej at hg0 hge
            generalize fs j2 = f at ck cn cb ckw cnw cbw rk rn hfx hfb hfm hgv hge
            obtain ⟨k, nn, fA, fm, fc, fl⟩ := f
            simp only at ck cn cb ckw cnw cbw rk rn hfx hfb hfm hgv hge
            generalize outF fs j2 (N - j2) = R at hRd hRb hstep hRl
            generalize hRR : outF fs (j2 + 1) (N - (j2 + 1)) = R' at hstep
            have hRm : R.length ≤ 1000 := by omega
            have HHRR := Lib.hid hRR
            have CKW := Lib.hid ckw
            have CNW := Lib.hid cnw
            have HFX := Lib.hid hfx
            have HCF := Lib.hid hcF
            clear ckw cnw cbw hfx hcF hf0 hRR
            by_cases hk : k = 8
            · subst hk
              by_cases h50 : 50 < fm
              · have hq : 50 ≤ fm := by omega
                have hxb := HFX.out.take hq
                rw [if_pos rfl] at hgv
                have hlx := hxb.len
                rw [hgv] at hstep
                generalize fl.take 50 = x at hxb hstep hlx
                obtain ⟨r1, r2, r3⟩ := raw_back x R' 50 (by first | (rw [hlx]; done) | (rw [hlx]; rfl))
                have hqc : ((50 : Nat) : Int) ≤ (fc : Int) := by omega
                have hqc2 : 50 ≤ fc := by omega
                have hraw := fun (v : World) (h : RdAt v g2 0 A2 R.length c2) (hB : Byt v g2 A2 R.length c2 R) => rraw_any v g2 0 50 A2 R.length c2 R h hB (by omega)
                unfold RrPost at hraw
                rw [hstep, r1, r2, r3, hlx] at hraw
                rw [hstep] at hRd hRb
                have HRAW := Lib.hid hraw
                have HXB := Lib.hid hxb
                have HRD := Lib.hid hRd
                have HRB := Lib.hid hRb
                clear hraw r1 r2 r3 hxb hRd hRb hgv hge cn hlx hstep
                go_wp2_with fail
                go_quiet (fail)
                have hbq := below_drewN hbel nq
                have hRdq : RdAt (wr.drewN nq) g2 0 A2 (x ++ R').length c2 := HRD.out
                have hRbq : Byt (wr.drewN nq) g2 A2 (x ++ R').length c2 (x ++ R') := HRB.out.drewN nq
                have hcontract := HRAW.out (wr.drewN nq) hRdq hRbq
                have HCON := Lib.hid hcontract
                clear hcontract hRdq hRbq
                go_wp2_with fail
                refine HCON.out.mono ?_
                rintro e w2 ⟨A3, c3, A4, c4, rfl, hres, hRd3, hRb3, hg3⟩
                have hb2 := hbq.grown hg3 hbq.size (fun k hk => by cases hk; exact hg2)
                have hx2 := (HXB.out.below hb2).more hb2.size
                have hsame := same_any hres hx2
                rw [decide_eq_true rfl] at hsame
                have HSAME := Lib.hid hsame
                have HRD3 := Lib.hid hRd3
                have HRB3 := Lib.hid hRb3
                clear hres hx2 hsame hRd3 hRb3
                go_wp2_with fail
                refine HSAME.out.mono ?_
                rintro e w3 ⟨rfl, rfl⟩
                go_wp2
                go_roundw
                case rel => exact ⟨j2 + 1, c3, A3, by omega, by go_num, by rw [HHRR.out]; exact HRD3.out, by rw [HHRR.out]; exact HRB3.out, hb2⟩
                case measure => simp [intOf]; omega
              · have hq : fm ≤ fm := by omega
                have hxb := HFX.out.take hq
                have hqx : fl.take 50 = fl.take fm := by rw [List.take_of_length_le (by rw [HFX.out.len]; omega), List.take_of_length_le (by rw [HFX.out.len]; exact Nat.le_refl _)]
                rw [if_pos rfl, hqx] at hgv
                clear hqx
                have hlx := hxb.len
                rw [hgv] at hstep
                generalize fl.take fm = x at hxb hstep hlx
                obtain ⟨r1, r2, r3⟩ := raw_back x R' (fm : Int) (by first | (rw [hlx]; done) | (rw [hlx]; rfl))
                have hqc : ((fm : Nat) : Int) ≤ (fc : Int) := by omega
                have hqc2 : fm ≤ fc := by omega
                have hraw := fun (v : World) (h : RdAt v g2 0 A2 R.length c2) (hB : Byt v g2 A2 R.length c2 R) => rraw_any v g2 0 (fm : Int) A2 R.length c2 R h hB (by omega)
                unfold RrPost at hraw
                rw [hstep, r1, r2, r3, hlx] at hraw
                rw [hstep] at hRd hRb
                have HRAW := Lib.hid hraw
                have HXB := Lib.hid hxb
                have HRD := Lib.hid hRd
                have HRB := Lib.hid hRb
                clear hraw r1 r2 r3 hxb hRd hRb hgv hge cn hlx hstep
                go_wp2_with fail
                go_quiet (fail)
                have hbq := below_drewN hbel nq
                have hRdq : RdAt (wr.drewN nq) g2 0 A2 (x ++ R').length c2 := HRD.out
                have hRbq : Byt (wr.drewN nq) g2 A2 (x ++ R').length c2 (x ++ R') := HRB.out.drewN nq
                have hcontract := HRAW.out (wr.drewN nq) hRdq hRbq
                have HCON := Lib.hid hcontract
                clear hcontract hRdq hRbq
                go_wp2_with fail
                refine HCON.out.mono ?_
                rintro e w2 ⟨A3, c3, A4, c4, rfl, hres, hRd3, hRb3, hg3⟩
                have hb2 := hbq.grown hg3 hbq.size (fun k hk => by cases hk; exact hg2)
                have hx2 := (HXB.out.below hb2).more hb2.size
                have hsame := same_any hres hx2
                rw [decide_eq_true rfl] at hsame
                have HSAME := Lib.hid hsame
                have HRD3 := Lib.hid hRd3
                have HRB3 := Lib.hid hRb3
                clear hres hx2 hsame hRd3 hRb3
                go_wp2_with fail
                refine HSAME.out.mono ?_
                rintro e w3 ⟨rfl, rfl⟩
                go_wp2
                go_roundw
                case rel => exact ⟨j2 + 1, c3, A3, by omega, by go_num, by rw [HHRR.out]; exact HRD3.out, by rw [HHRR.out]; exact HRB3.out, hb2⟩
                case measure => simp [intOf]; omega
            · have hk8 : (k == 8) = false := by simp [hk]
              rw [if_neg hk] at hgv hge
              rw [hgv] at hstep
              have hp : putE k nn = 0 := by rw [← hge]; exact hg0
              obtain ⟨r1, r2, r3⟩ := num_back hp R'
              have hnum := fun (v : World) (h : RdAt v g2 0 A2 R.length c2) (hB : Byt v g2 A2 R.length c2 R) => rnum2_any v g2 0 k A2 R.length c2 R h hB
              unfold RnPost at hnum
              rw [hstep, r1, r2, r3] at hnum
              rw [hstep] at hRd hRb
              have hRdd : RdAt wr.drew g2 0 A2 (putA k nn ++ R').length c2 := hRd
              have hRbd : Byt wr.drew g2 A2 (putA k nn ++ R').length c2 (putA k nn ++ R') := ⟨hRb.len, hRb.cap, hRb.max, hRb.rng, hRb.cells⟩
              have hnumd := hnum wr.drew hRdd hRbd
              have HNUM := Lib.hid hnumd
              have hne : (nn != nn) = false := by simp
              clear hnum hnumd r1 r2 r3 hRd hRb hRdd hRbd hgv hge cb hstep hp
              go_wp2_with fail
              go_region_held3 (fun w' => w'.cell? ⟨bF, oF + j2 * 3, none⟩ = some (.int .i64 k) ∧ w'.cell? ⟨bF, oF + j2 * 3 + 1, none⟩ = some (.int .i64 nn))
                (first | exact ⟨ck, cn⟩ | exact k2)
                (first
                  | (go_at_call 28
                     (with_reducible refine HNUM.out.mono ?_)
                     rintro e w2 ⟨A3, c3, rfl, hRd3, hRb3, hg3⟩
                     have hb2 : Below w.heap.size w w2 := hbel.drew.grown hg3 hbel.size (fun k hk => by cases hk; exact hg2)
                     have k2 : w2.cell? ⟨bF, oF + j2 * 3, none⟩ = some (.int .i64 k) ∧ w2.cell? ⟨bF, oF + j2 * 3 + 1, none⟩ = some (.int .i64 nn) := ⟨(hb2.cell (p := ⟨bF, oF + j2 * 3, none⟩) hbF).trans CKW.out, (hb2.cell (p := ⟨bF, oF + j2 * 3 + 1, none⟩) hbF).trans CNW.out⟩
                     have HRD3 := Lib.hid hRd3
                     have HRB3 := Lib.hid hRb3
                     clear hRd3 hRb3))
              clear ck cn k2
              go_wp2
              go_roundw
              case rel => exact ⟨j2 + 1, c3, A3, by omega, by go_num, by rw [HHRR.out]; exact HRD3.out, by rw [HHRR.out]; exact HRB3.out, hb2⟩
              case measure => simp [intOf]; omega
          · obtain rfl : N = j2 := by omega
            rw [Nat.sub_self] at hRd hRb
            have hRd0 : RdAt wr g2 0 A2 0 c2 := hRd
            have hle := fun (v : World) (h : RdAt v g2 0 A2 0 c2) => rleft_any v g2 0 A2 0 c2 h
            have her := fun (v : World) (h : RdAt v g2 0 A2 0 c2) => rerr_any v g2 0 A2 0 c2 h
            have HRD := Lib.hid hRd0
            have HLE := Lib.hid hle
            have HER := Lib.hid her
            clear hRd hRb hRd0 hle her hstart
            go_wp2_with fail
            refine (wnum_nil _ _ _).mono ?_
            rintro e w3 ⟨⟨v3, rfl⟩, hb3⟩
            have hd3 := HRD.out.below hb3 HRD.out.lt
            have hs3 := hbel.trans (hb3.mono hbel.size)
            have HD3 := Lib.hid hd3
            clear hd3
            go_wp2_with fail
            refine (wraw_nil _ _ _ _).mono ?_
            rintro e w4 ⟨⟨v4, rfl⟩, hb4⟩
            have hb4' : Below w3.heap.size w3 w4 := ((Below.refl _ _).alloc (Nat.le_refl _) _).trans (hb4.mono (by simp))
            have hd4 := HD3.out.below hb4' HD3.out.lt
            have hs4 := hs3.trans (hb4'.mono hs3.size)
            have HD4 := Lib.hid hd4
            clear hd4
            go_wp2_with fail
            refine (live2_any _).mono ?_
            rintro e w5 ⟨rfl, hb5⟩
            have hd5 := HD4.out.below hb5 HD4.out.lt
            have hs5 := hs4.trans (hb5.mono hs4.size)
            have HD5 := Lib.hid hd5
            clear hd5
            go_wp2_with fail
            refine (HLE.out _ HD5.out).mono ?_
            rintro e w6 ⟨rfl, rfl⟩
            go_wp2_with fail
            refine (HER.out _ HD5.out).mono ?_
            rintro e w6 ⟨rfl, rfl⟩
            go_wp2_with fail
            refine (wbytes_nil _).mono ?_
            rintro e w7 ⟨rfl, hb7⟩
            have hs7 := hs5.trans (hb7.mono hs5.size)
            go_wp2_with fail
            refine (werr_nil _).mono ?_
            rintro e w8 ⟨rfl, hb8⟩
            go_wp2
            go_ret
            exact ⟨rfl, hs7.trans (hb8.mono hs7.size)⟩

theorem walk (AF : Option Addr) (m cF : Nat) (fs : Nat → FieldV) (w : World) (hF : Flds w w.heap.size AF m cF fs) :
    Calls Try.prog 7 #[.slice AF m cF] w fun e w' => e = .returned (.bool true) ∧ Below w.heap.size w w' := by
  by_cases h20 : m ≤ 20
  · exact rest AF m cF fs w hF m (.inl ⟨rfl, h20⟩)
  · exact rest AF m cF fs w hF 20 (.inr ⟨rfl, by omega⟩)

theorem own : ownKnob Try.prog.godebug = none := by kernel_rfl
theorem laidOut : laidOutB Try.prog = true := by kernel_rfl


set_option maxRecDepth 100000 in
theorem lifted (os : Os) (started : os.Started) (H : Type) (enc : TypeId × Value → H) :
    ReturnsInHanded {} Try.checked os 7 .any (Rows.wordWritesSpec.pre6 enc Try.prog Try.f7 Rows.wordWritesRow.domain false) (Rows.wordWritesSpec.post enc Try.prog Try.f7 false true false false) := by
  refine returnsInHanded_of_change (C := Try.checked) own started (by kernel_rfl) Try.func7
    (ChangeSpec.witness6 (enc := enc) (C := Try.checked) false ⟨#[], #[.slice none 0 0], []⟩ 8 (by kernel_rfl) (by kernel_rfl) (by kernel_rfl) (by kernel_rfl)) ?_
  intro W base args ds gs before hval0 hW hcnd _
  have hval : ∀ (j : Nat) t v, Try.f7.params[j]? = some t → args[j]? = some v → Value.okWide Try.prog W .any base t v := hval0
  have hW' := hW
  obtain ⟨p, q, hA0, hV, rfl, hfz, hnd⟩ := hW
  have hA : DataW.TrodAll enc Try.prog W 0 (fun _ => true) true Try.f7.params.toList args.toList ds p := hA0
  rw [Try.params7] at hA hval
  obtain ⟨v0, vs0, d0, ds0, p0, q0, hargs, rfl, rfl, h0, r0⟩ := trodAll_cons hA
  obtain ⟨rfl, rfl, rfl⟩ := trodAll_nil r0
  obtain rfl : args = #[v0] := by cases args; simp_all
  obtain ⟨rfl, rfl⟩ := trodVars_none hV
  obtain ⟨a0, len0, cap0, rfl⟩ := okWide_slice Try.underlying41 (hval 0 41 v0 rfl rfl)
  have k0 := h0
  have lt0 : ∀ x ∈ p0, x.block < W.heap.size := by obtain ⟨m, hm⟩ := k0; exact DataW.trod_lt m _ _ _ hm
  obtain ⟨z0, w0⟩ : ∃ fs, Flds W W.heap.size a0 len0 cap0 fs := by
    obtain ⟨fuel, hf⟩ := h0
    exact flds_of_trod (by simpa [Value.cells] using hf)
  clear hA0 hval0
  refine (walk a0 len0 cap0 z0 W w0).mono fun e W' ⟨he, bel⟩ => ?_
  subst he
  exact ⟨_, rfl, _, _, _, [], _, [], hW', trodAll_mk1 (shut_bool Try.underlying4 _), (trodAll_cons_mk (Below.trod laidOut (by kernel_rfl) (of_decide_eq_true (by kernel_rfl)) k0 bel lt0) trodAll_mk0), rfl, bel.frame _, fun h => by cases h⟩

theorem over : Rows.wordWritesRow.holds Try.pinned (OpenSpec.ofChange Rows.wordWritesSpec) :=
  OpenClaim.holds_of_wide 7 Try.f7 rfl rfl rfl rfl rfl rfl rfl ⟨rfl, rfl, rfl, rfl, rfl⟩ rfl rfl rfl rfl rfl (by kernel_rfl) Try.func7 (by kernel_rfl)
    (of_decide_eq_true (by kernel_rfl)) (by unfold Func.isWrapper; first | (rw [if_pos (by decide +kernel)]; kernel_rfl) | (rw [if_neg (by decide +kernel)]; exact ⟨rfl, rfl⟩))
    (fun os started H enc _ => lifted os started H enc)

theorem proved : Rows.WordWritesSaid := over
end Go.Proofs.Ytabbjgfladbbiab.wordWrites
