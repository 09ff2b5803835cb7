/- Mappings: the document's Pack. -/
import Derived.Test.YtgaoplbocjadaaaYmd
namespace Go.Proofs.Ytgaoplbocjadaaa
open Go.RowKit
set_option linter.unusedSimpArgs false
set_option linter.unusedVariables false
theorem dict_rcheck {w : World} {base c nc : Nat} {a A : Option Addr} {T R : List (Int × Ent)} {ch : Int} {fs : Nat → SlV} {n : Nat} (h : w.ownsRow base 77 7 (.slice a R.length c) R.length (fr R)) (ht : TieD T R) (hL : Els SlC 3 w w.heap.size A n nc fs) (x : World) (hx : Below w.heap.size w x) :
    Calls Try.prog 25 #[.agg #[.slice a R.length c, .int .i64 ch], .slice A n nc] x fun e w' => e = .returned (.int .i64 (chkE (mapB T) fs n)) ∧ Below x.heap.size x w' :=
  rcheck_any x base c nc 0 a A T R ch fs n (own_below h hx) ht (hL.lowS hx)
set_option maxRecDepth 100000 in
set_option maxHeartbeats 8000000 in
theorem rpack_any (w : World) (base c nc : Nat) (a A : Option Addr) (T R : List (Int × Ent)) (ch : Int) (fs : Nat → SlV) (n : Nat) (h : w.ownsRow base 77 7 (.slice a R.length c) R.length (fr R)) (ht : TieD T R) (hL : Els SlC 3 w w.heap.size A n nc fs) :
    Calls Try.prog 23 #[.agg #[.slice a R.length c, .int .i64 ch], .slice A n nc] w fun e w' => e = .returned (.tuple #[.string (strOfNums (pkL T fs n)), .int .i64 (pkE T fs n)]) ∧ Below w.heap.size w w' := by
  have hb0 : Below w.heap.size w (w.alloc (.cells #[.slice a R.length c, .int .i64 ch] 33)) := (Below.refl _ _).alloc (Nat.le_refl _) _
  have hr0 : RBox (w.alloc (.cells #[.slice a R.length c, .int .i64 ch] 33)) w.heap.size a R.length c ch := heap_alloc_new w _
  have hcap := hL.cap
  have hmax := hL.max
  simp only [maxLen] at hmax
  have HC := Lib.hid (fun (x : World) (hx : Below w.heap.size w x) (h0 : 0 < n) => show ∃ b off, A = some ⟨b, off, none⟩ ∧ b < w.heap.size ∧ ∀ i, i < n → SlC x b (off + i * 3) (fs i) from by
    obtain ⟨b, off, e, hb, h⟩ := hL.cells h0
    exact ⟨b, off, e, hb, fun i hi => (h i hi).below hb hx⟩)
  have HCK := Lib.hid (fun x hx => dict_rcheck (ch := ch) h ht hL x hx)
  have hfew := ht.good.few
  have HAT := Lib.hid (fun x (hx : Below w.heap.size w x) (si sj : Int) => rat_any x base R.length c a R ch si sj (own_below h hx) rfl (by rw [← ht.len]; omega) (fun y hy => (ht.ok y hy).1))
  have HCR := Lib.hid (fun x (hx : Below w.heap.size w x) (p : Nat) (y : Int × Ent) (hy : R[p]? = some y) => rowsR_at (own_below h hx) hy)
  have HTH := Lib.hid (fun (p : Nat) (y : Int × Ent) (hy : R[p]? = some y) => (ht.at_ hy).2)
  have HHS := Lib.hid (fun (q : Int) (hq : hasI q T = true) (hn : ∀ y ∈ R, ¬ y.1 = q) => show False from by rw [ht.hasnt hn] at hq; cases hq)
  have HLT := Lib.hid (fun (p : Nat) (y : Int × Ent) (hy : R[p]? = some y) => show p < R.length from (List.getElem?_eq_some_iff.1 hy).1)
  have HLN := Lib.hid (fun (h0 : chkE (mapB T) fs n = 0) => (chkE_sz ht.good h0).2)
  have HIN := Lib.hid (fun (h0 : chkE (mapB T) fs n = 0) i (hi : i < n) => (mapB_iff.1 (chkG_in T fs n 0 0 (chkE_zero h0).2 i (by omega) (by omega))).1)
  have HRX := Lib.hid (fun (x : World) (hx : Below (w.alloc (.cells #[.slice a R.length c, .int .i64 ch] 33)).heap.size (w.alloc (.cells #[.slice a R.length c, .int .i64 ch] 33)) x) => RBox.below hr0 hx)
  have hRl : R.length ≤ 600 := by rw [← ht.len]; exact hfew
  have HB0 := Lib.hid hb0
  obtain ⟨d0, d1⟩ := hr0.cells
  clear h ht hL hb0 hr0 hfew
  unfold pkE pkL
  generalize R.length = N at *
  by_cases hz : chkE (mapB T) fs n = 0
  · rw [hz] at HCK
    have HL8 := Lib.hid (HLN.out hz)
    have HI := Lib.hid (HIN.out hz)
    rw [if_pos hz, if_pos hz]
    clear hz HLN HIN
    obtain ⟨PK, hPK⟩ : ∃ PK, pkF T fs n 0 = PK := ⟨_, rfl⟩
    rw [hPK] at HL8 ⊢
    have HPK := Lib.hid hPK
    clear hPK
    go_enter Try.func23, Try.ntmps23
    go_wp2_with fail
    generalize (w.alloc (.cells #[.slice a N c, .int .i64 ch] 33)) = w0 at *
    refine (HCK.out w0 HB0.out).mono ?_
    rintro e w1 ⟨rfl, hb1⟩
    have HB1 := Lib.hid hb1
    clear hb1 HCK d0 d1
    go_wp2_with fail
    go_loopw [6, 7] (fun t6 t7 wr => ∃ (i : Nat) (L : List Int) (S : ByteArray), i ≤ n ∧ t6 = .string S ∧ t7 = .int .i64 i ∧ Hid (S = strOfNums L) ∧ Hid (PK = L ++ pkF T fs (n - i) i) ∧ Hid (Below w0.heap.size w0 wr)) (fun _ t _ => n - (intOf t).toNat)
    case atStart => exact ⟨0, [], ⟨#[]⟩, by omega, rfl, rfl, Lib.hid rfl, Lib.hid HPK.out.symm, HB1⟩
    case round =>
      clear HB1
      obtain ⟨i, L, S, hi, rfl, rfl, HS, HP, HW⟩ := hrel
      by_cases hlt : i < n
      · have hiI : (i : Int) < (n : Int) := by omega
        have HWW := Lib.hid (kF HW.out HB0.out)
        obtain ⟨bk, off, rfl, hbk, -⟩ := HC.out wr HWW.out (by omega)
        have HCX := Lib.hid (fun (x : World) (hx : Below wr.heap.size wr x) => show (x.cell? ⟨bk, off + i * 3, none⟩ = some (.int .i64 (fs i).i) ∧ x.cell? ⟨bk, off + i * 3 + 1, none⟩ = some (.int .i64 (fs i).j) ∧ x.cell? ⟨bk, off + i * 3 + 2, none⟩ = some (.int .i64 (fs i).n)) ∧ x.cell? ⟨w.heap.size, 0, none⟩ = some (.slice a N c) ∧ x.cell? ⟨w.heap.size, 1, none⟩ = some (.int .i64 ch) from by
          obtain ⟨b', o', e', -, hh⟩ := HC.out x (kF hx HWW.out) (by omega)
          cases e'
          obtain ⟨c0, c1, c2⟩ := hh i hlt
          exact ⟨⟨c0, c1, c2⟩, (HRX.out x (kF hx HW.out)).cells⟩)
        have HPS : Hid (PK = (L ++ (entS T (fs i)).b) ++ pkF T fs (n - (i + 1)) (i + 1)) := Lib.hid (by rw [HP.out, show n - i = (n - (i + 1)) + 1 by omega, List.append_assoc]; rfl)
        have HH := Lib.hid (HI.out i hlt)
        have HEN : Hid (entS T (fs i) = thI e0 (numI (fs i).i (fs i).j) T) := Lib.hid rfl
        have HQ : Hid ((fs i).q = numI (fs i).i (fs i).j) := Lib.hid rfl
        rw [HQ.out] at HH
        clear HQ HP
        generalize entS T (fs i) = E at *
        generalize fs i = s at *
        obtain ⟨si, sj, sn⟩ := s
        dsimp only at HCX HEN HH
        go_wp2_with fail
        refine wp_region_last (fun y => Below wr.heap.size wr y) 14 (by kernel_rfl) (kD _) (fun hHeld => ?_)
        have HBv0 := Lib.hid (kD wr)
        generalize wr.drew = v0 at *
        refine wpAnyL_take (i := 0) (v := ?_) rfl (by kernel_rfl) (by kernel_rfl) (by kernel_rfl) (by kernel_rfl) (by kernel_rfl) (fun _ _ _ h => h) (Or.inl ⟨by rfl, ?_⟩) (by assumption) ?_
        rotate_left
        · intro wq hSw; (try dsimp only at hSw); (try obtain ⟨⟨q0, q1, q2⟩, q3, q4⟩ := HCX.out wq hSw); first | (go_simp; done) | (go_simp; with_reducible rfl) | with_reducible rfl
        go_simp
        refine wpAnyL_take (i := 1) (v := ?_) rfl (by kernel_rfl) (by kernel_rfl) (by kernel_rfl) (by kernel_rfl) (by kernel_rfl) (fun _ _ _ h => h) (Or.inl ⟨by rfl, ?_⟩) (by assumption) ?_
        rotate_left
        · intro wq hSw; (try dsimp only at hSw); (try obtain ⟨⟨q0, q1, q2⟩, q3, q4⟩ := HCX.out wq hSw); first | (go_simp; done) | (go_simp; with_reducible rfl) | with_reducible rfl
        go_simp
        refine wpAnyL_take (i := 2) (v := ?_) rfl (by kernel_rfl) (by kernel_rfl) (by kernel_rfl) (by kernel_rfl) (by kernel_rfl) (fun _ _ _ h => h) (Or.inl ⟨by rfl, ?_⟩) (by assumption) ?_
        rotate_left
        · intro wq hSw; (try dsimp only at hSw); (try obtain ⟨⟨q0, q1, q2⟩, q3, q4⟩ := HCX.out wq hSw); first | (go_simp; done) | (go_simp; with_reducible rfl) | with_reducible rfl
        go_simp
        refine wpAnyL_take (i := 3) (v := ?_) rfl (by kernel_rfl) (by kernel_rfl) (by kernel_rfl) (by kernel_rfl) (by kernel_rfl) (fun _ _ _ h => h) (Or.inl ⟨by rfl, ?_⟩) (by assumption) ?_
        rotate_left
        · intro wq hSw; (try dsimp only at hSw); (try obtain ⟨⟨q0, q1, q2⟩, q3, q4⟩ := HCX.out wq hSw); first | (go_simp; done) | (go_simp; with_reducible rfl) | with_reducible rfl
        go_simp
        refine wpAnyL_take (i := 4) (v := ?_) rfl (by kernel_rfl) (by kernel_rfl) (by kernel_rfl) (by kernel_rfl) (by kernel_rfl) (fun _ _ _ h => h) (Or.inl ⟨by rfl, ?_⟩) (by assumption) ?_
        rotate_left
        · intro wq hSw; (try dsimp only at hSw); (try obtain ⟨⟨q0, q1, q2⟩, q3, q4⟩ := HCX.out wq hSw); first | (go_simp; done) | (go_simp; with_reducible rfl) | with_reducible rfl
        go_simp
        refine wpAnyL_take (i := 5) (v := ?_) rfl (by kernel_rfl) (by kernel_rfl) (by kernel_rfl) (by kernel_rfl) (by kernel_rfl) (fun _ _ _ h => h) (Or.inl ⟨by rfl, ?_⟩) (by assumption) ?_
        rotate_left
        · intro wq hSw; (try dsimp only at hSw); (try obtain ⟨⟨q0, q1, q2⟩, q3, q4⟩ := HCX.out wq hSw); first | (go_simp; done) | (go_simp; with_reducible rfl) | with_reducible rfl
        go_simp
        refine wpAnyL_take (i := 6) (v := ?_) rfl (by kernel_rfl) (by kernel_rfl) (by kernel_rfl) (by kernel_rfl) (by kernel_rfl) (fun _ _ _ h => h) (Or.inl ⟨by rfl, ?_⟩) (by assumption) ?_
        rotate_left
        · intro wq hSw; (try dsimp only at hSw); (try obtain ⟨⟨q0, q1, q2⟩, q3, q4⟩ := HCX.out wq hSw); first | (go_simp; done) | (go_simp; with_reducible rfl) | with_reducible rfl
        go_simp
        refine wpAnyL_take (i := 7) (v := ?_) rfl (by kernel_rfl) (by kernel_rfl) (by kernel_rfl) (by kernel_rfl) (by kernel_rfl) (fun _ _ _ h => h) (Or.inl ⟨by rfl, ?_⟩) (by assumption) ?_
        rotate_left
        · intro wq hSw; (try dsimp only at hSw); (try obtain ⟨⟨q0, q1, q2⟩, q3, q4⟩ := HCX.out wq hSw); first | (go_simp; done) | (go_simp; with_reducible rfl) | with_reducible rfl
        go_simp
        refine wpAnyL_take (i := 8) (v := ?_) rfl (by kernel_rfl) (by kernel_rfl) (by kernel_rfl) (by kernel_rfl) (by kernel_rfl) (fun _ _ _ h => h) (Or.inl ⟨by rfl, ?_⟩) (by assumption) ?_
        rotate_left
        · intro wq hSw; (try dsimp only at hSw); (try obtain ⟨⟨q0, q1, q2⟩, q3, q4⟩ := HCX.out wq hSw); first | (go_simp; done) | (go_simp; with_reducible rfl) | with_reducible rfl
        go_simp
        refine wpAnyL_ready (rs := [9]) (by kernel_rfl) (by simp) ?_
        refine (AllReadyL.cons rfl (fun K hK => ?_) AllReadyL.nil)
        go_simp
        go_wp2_with fail
        have hat := HAT.out v0 (kF HBv0.out HWW.out) si sj
        unfold AtP at hat
        refine hat.mono ?_
        rintro e v1 ⟨hbz, hcase⟩
        have HBv1 := Lib.hid (kF hbz HBv0.out)
        clear hbz hat
        rcases hcase with ⟨p, y, hy, hq, -, rfl⟩ | ⟨hn, rfl⟩
        · obtain ⟨gr, rfl, hg, hnc, hm, -⟩ := HCR.out v1 (kF HBv1.out HWW.out) p y hy
          have HC6 := Lib.hid (fun x (hx : Below wr.heap.size wr x) => show x.cell? ⟨gr, p * 7 + 6, none⟩ = some (.string (strOfNums y.2.b)) from by
            obtain ⟨g', e', _, _, _, hc7⟩ := HCR.out x (kF hx HWW.out) p y hy
            cases e'
            exact hc7.2.2.2.2.2.2)
          have hpN := HLT.out p y hy
          have hpI : (p : Int) < (N : Int) := by omega
          simp only [maxLen] at hm
          have HYE : Hid (y.2.b = E.b) := Lib.hid (by rw [HEN.out, ← hq, HTH.out p y hy])
          have hsz : (L ++ E.b).length ≤ 8 := by have := HL8.out; rw [HPS.out, List.length_append] at this; omega
          rw [HYE.out] at HC6
          have hq0 : ¬ (9223372036854775807 < S.size + (strOfNums E.b).size) := by rw [HS.out, strOfNums_size, strOfNums_size]; rw [List.length_append] at hsz; omega
          have HSE : Hid (S ++ strOfNums E.b = strOfNums (L ++ E.b)) := Lib.hid (by rw [HS.out, str_app])
          clear hy hq hg HYE hsz
          generalize strOfNums E.b = S2 at *
          refine hK.out _ _ ?_ (fun hHeld => ?_)
          · (try dsimp only); exact HBv1.out
          clear hK K
          refine wpAnyL_take (i := 10) (v := ?_) rfl (by kernel_rfl) (by kernel_rfl) (by kernel_rfl) (by kernel_rfl) (by kernel_rfl) (fun _ _ _ h => h) (Or.inl ⟨by rfl, ?_⟩) (by assumption) ?_
          rotate_left
          · intro wq hSw; (try dsimp only at hSw); (try have k6 := HC6.out wq hSw); first | (go_simp; done) | (go_simp; with_reducible rfl) | with_reducible rfl
          go_simp
          refine wpAnyL_take (i := 11) (v := ?_) rfl (by kernel_rfl) (by kernel_rfl) (by kernel_rfl) (by kernel_rfl) (by kernel_rfl) (fun _ _ _ h => h) (Or.inl ⟨by rfl, ?_⟩) (by assumption) ?_
          rotate_left
          · intro wq hSw; (try dsimp only at hSw); (try have k6 := HC6.out wq hSw); first | (go_simp; done) | (go_simp; with_reducible rfl) | with_reducible rfl
          go_simp
          refine wpAnyL_take (i := 12) (v := ?_) rfl (by kernel_rfl) (by kernel_rfl) (by kernel_rfl) (by kernel_rfl) (by kernel_rfl) (fun _ _ _ h => h) (Or.inl ⟨by rfl, ?_⟩) (by assumption) ?_
          rotate_left
          · intro wq hSw; (try dsimp only at hSw); (try have k6 := HC6.out wq hSw); first | (go_simp; done) | (go_simp; with_reducible rfl) | with_reducible rfl
          go_simp
          refine wpAnyL_take (i := 13) (v := ?_) rfl (by kernel_rfl) (by kernel_rfl) (by kernel_rfl) (by kernel_rfl) (by kernel_rfl) (fun _ _ _ h => h) (Or.inl ⟨by rfl, ?_⟩) (by assumption) ?_
          rotate_left
          · intro wq hSw; (try dsimp only at hSw); (try have k6 := HC6.out wq hSw); first | (go_simp; done) | (go_simp; with_reducible rfl) | with_reducible rfl
          go_simp
          refine wpAnyL_ready (rs := [14]) (by kernel_rfl) (by simp) ?_
          refine AllReadyL.last rfl (fun K hK => ?_)
          go_simp
          refine hK.out _ _ ?_
          clear hK K
          refine wpAnyL_done (by kernel_rfl) ?_ _
          clear hHeld
          have HW1 := Lib.hid (kF HBv1.out HW.out)
          go_wp2_with fail
          exact ⟨⟨i + 1, L ++ E.b, S ++ S2, by omega, rfl, by go_num, HSE, HPS, HW1⟩, by simp [intOf]; omega⟩
        · exact absurd (HHS.out _ HH.out hn) id
      · have HPE : Hid (PK = L) := Lib.hid (by rw [HP.out, show n - i = 0 by omega]; simp [pkF])
        have HE1 := Lib.hid (kF HW.out HB0.out)
        go_wp2_with fail
        go_ret2
        exact ⟨by rw [HPE.out, ← HS.out]; rfl, HE1.out⟩
  · rw [if_neg hz, if_neg hz]
    have hzb : ¬ chkE (mapB T) fs n = 0 := hz
    generalize chkE (mapB T) fs n = CE at *
    have e0 : (CE != 0) = true := by simp [hzb]
    go_enter Try.func23, Try.ntmps23
    go_wp2_with fail
    generalize (w.alloc (.cells #[.slice a N c, .int .i64 ch] 33)) = w0 at *
    refine (HCK.out w0 HB0.out).mono ?_
    rintro e w1 ⟨rfl, hb1⟩
    have HB1 := Lib.hid (kF hb1 HB0.out)
    clear hb1 HCK d0 d1
    go_wp2_with fail
    go_ret2
    exact ⟨rfl, HB1.out⟩
end Go.Proofs.Ytgaoplbocjadaaa
