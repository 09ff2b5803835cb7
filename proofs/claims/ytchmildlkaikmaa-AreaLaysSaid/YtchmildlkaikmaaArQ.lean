/- Lay of no dictionary. -/
import Derived.Test.YtchmildlkaikmaaArO
namespace Go.Proofs.Ytchmildlkaikmaa
open Go.RowKit
set_option linter.unusedSimpArgs false
set_option linter.unusedVariables false
set_option maxRecDepth 100000 in
set_option maxHeartbeats 4000000 in
theorem arAdd_nil (w : World) (B gb n c : Nat) (i : Int) (l : List Sp) (hn : n = l.length) (hl : 0 < l.length ∧ l.length ≤ 100) (hnc : n ≤ c ∧ c ≤ maxLen) (hs : SpAt w B (.slice (some ⟨gb, 0, none⟩) n c) l) :
    Calls Try.prog 39 #[.pointer none, .int .i64 i, .slice (some ⟨gb, 0, none⟩) n c] w fun e w' => e = .returned (.int .i64 1) ∧ Below w.heap.size w w' := by
  have HSP := Lib.hid hs
  obtain ⟨⟨k, a, lo, hi⟩, hx⟩ : ∃ x, l[0]? = some x := ⟨_, List.getElem?_eq_getElem hl.1⟩
  have HX := Lib.hid hx
  have hn0 : 0 < n := by omega
  have hmx : n ≤ 100 := by omega
  have hcx : n ≤ c := hnc.1
  clear hs hnc hn hl hx
  go_enter Try.func39, Try.ntmps39
  go_wp2_with fail
  go_loopw [12] (fun t wr => t = .int .i64 0 ∧ Hid (Below w.heap.size w wr)) (fun _ _ => 0)
  case atStart => exact ⟨rfl, Lib.hid (Below.refl _ _)⟩
  case round =>
    obtain ⟨rfl, HO⟩ := hrel
    have HSQ := Lib.hid (HSP.out.below HO.out)
    obtain ⟨c0, c1, c2, c3⟩ := HSQ.out.at_ HX.out
    dsimp only at c0 c1 c2 c3
    simp only [Nat.zero_mul, Nat.zero_add] at c0 c1 c2 c3
    clear HSQ
    go_wp2_with fail
    have hba : Below wr.heap.size wr (wr.alloc (.cells #[.int .i64 k, .int .i64 a, .int .i64 lo, .int .i64 hi] 27)) := (Below.refl _ _).alloc (Nat.le_refl _) _
    refine (add_nil _ i _ k a lo hi none 0 0).mono ?_
    rintro e w1 ⟨rfl, hb1⟩
    have HB1 := Lib.hid (kF (kF hb1 hba) HO.out)
    clear hb1 hba c0 c1 c2 c3
    go_wp2_with fail
    go_ret
    exact ⟨rfl, HB1.out⟩
set_option maxRecDepth 100000 in
set_option maxHeartbeats 4000000 in
theorem lay_nil (w : World) :
    Calls Try.prog 11 #[.pointer none] w fun e w' => e = .returned (.int .i64 1) ∧ Below w.heap.size w w' := by
  go_enter Try.func11, Try.ntmps11
  go_wp2_with fail
  refine (objects_any _).mono ?_
  rintro e w1 ⟨V, M, rfl, hk, hob, hb1⟩
  have hml : M.length = 10 := by
    have := congrArg List.length hk
    rw [objL_len] at this
    simpa [obK] using this
  obtain ⟨gb, cap, cur, e1, hgb, hcur, hcap, hmx, -⟩ := own_some hob.row (by omega)
  rw [hml] at e1 hcap
  subst e1
  have HB1 := Lib.hid hb1
  have HOB := Lib.hid hob
  obtain ⟨⟨i, v, l⟩, hx, hy⟩ : ∃ x, M[0]? = some x ∧ objL[0]? = some (x.1, x.2.2) := by
    have hq2 : 0 < M.length := by omega
    refine ⟨M[0], List.getElem?_eq_getElem hq2, ?_⟩
    rw [← hk, obK, List.getElem?_map, List.getElem?_eq_getElem hq2]; rfl
  dsimp only at hy
  have HX := Lib.hid hx
  have HL := Lib.hid (objL_ok _ (List.mem_of_getElem? hy))
  clear hk hob hb1 hml hcur hgb hx hy
  go_wp2_with fail
  go_loopw [8] (fun t wr => t = .int .i64 0 ∧ Hid (Below w1.heap.size w1 wr)) (fun _ _ => 0)
  case atStart => exact ⟨rfl, Lib.hid (Below.refl _ _)⟩
  case round =>
    obtain ⟨rfl, HO⟩ := hrel
    have HSQ := Lib.hid (HOB.out.below HO.out)
    obtain ⟨c0, c1, hsp⟩ := HSQ.out.at_ HX.out
    dsimp only at c0 c1 hsp
    simp only [Nat.zero_mul, Nat.zero_add] at c0 c1
    obtain ⟨g2, cap2, cur2, rfl, -, -, hnc, hmx2, -⟩ := own_some hsp HL.out.1
    have HSP := Lib.hid hsp
    have HNC := Lib.hid (show l.length ≤ cap2 ∧ cap2 ≤ maxLen from ⟨hnc, hmx2⟩)
    clear HSQ hsp hnc hmx2
    generalize hn2 : l.length = n2 at *
    have HN2 := Lib.hid hn2
    clear hn2
    go_wp2_with fail
    have hba : Below wr.heap.size wr (wr.alloc (.cells #[.int .i64 i, .slice (some ⟨g2, 0, none⟩) n2 cap2] 92)) := (Below.refl _ _).alloc (Nat.le_refl _) _
    refine (arAdd_nil _ w.heap.size g2 n2 cap2 i l HN2.out.symm (by have := HL.out; (try dsimp only at this); (try rw [HN2.out] at this); rw [HN2.out]; exact this) HNC.out (HSP.out.below hba)).mono ?_
    rintro e w3 ⟨rfl, hb3⟩
    have HB3 := Lib.hid (kF (kF (kF hb3 hba) HO.out) HB1.out)
    clear hb3 hba c0 c1
    go_wp2_with fail
    go_ret
    exact ⟨rfl, HB3.out⟩
end Go.Proofs.Ytchmildlkaikmaa
namespace Go.Proofs.Ytchmildlkaikmaa
open Go.RowKit
set_option linter.unusedSimpArgs false
set_option linter.unusedVariables false
set_option maxRecDepth 100000 in
set_option maxHeartbeats 4000000 in
theorem same15_any (w : World) (B B2 g c : Nat) (T R : List (Int × Ent)) (ch ch2 : Int) (a : Option Addr) (h : DictAt B g T ch w) (ht : TieD T R) (ho : w.ownsRow B2 39 7 (.slice a R.length c) R.length (fr R)) :
    Calls Try.prog 12 #[.pointer (some ⟨g, 0, none⟩), .agg #[.slice a R.length c, .int .i64 ch2]] w fun e w' => e = .returned (.bool true) ∧ Below w.heap.size w w' := by
  have hb0 : Below w.heap.size w (w.alloc (.cells #[.slice a R.length c, .int .i64 ch2] 32)) := (Below.refl _ _).alloc (Nat.le_refl _) _
  have hx0 : RBox (w.alloc (.cells #[.slice a R.length c, .int .i64 ch2] 32)) w.heap.size a R.length c ch2 := heap_alloc_new w _
  have HB0 := Lib.hid hb0
  have HR2 := Lib.hid (fun y (hy : Below w.heap.size w y) x (hx : x ∈ R) => at_rawl (x := x.1) (L := x.2.b) (h.below hy) ht.good (ht.ok x hx).1 ((hasI_iff ht.good.rise).2 ⟨x, (ht.mem x).2 hx, rfl⟩) (by rw [thI_of ht.good.rise ((ht.mem x).2 hx)]))
  have HLN := Lib.hid (fun y (hy : Below w.heap.size w y) => show Calls Try.prog 33 #[.pointer (some ⟨g, 0, none⟩)] y fun e w' => e = .returned (.int .i64 (R.length : Nat)) ∧ w' = y from by rw [← ht.len]; exact at_len (h.below hy))
  have HC := Lib.hid (fun y (hy : Below w.heap.size w y) p x (hx : R[p]? = some x) => rowsR_at (own_below ho hy) hx)
  have HX := Lib.hid (fun p (hp : p < R.length) => show ∃ x, R[p]? = some x from ⟨_, List.getElem?_eq_getElem hp⟩)
  have hzn : R.length ≤ 1000 := by have := ht.len; have := ht.good.few; omega
  have HFB := Lib.hid (fun y (hy : Below (w.alloc (.cells #[.slice a R.length c, .int .i64 ch2] 32)).heap.size (w.alloc (.cells #[.slice a R.length c, .int .i64 ch2] 32)) y) => RBox.below hx0 hy)
  obtain ⟨d0, d1⟩ := hx0.cells
  clear hb0 hx0 h ht ho
  generalize R.length = N at *
  go_enter Try.func12, Try.ntmps12
  go_wp2_with fail
  generalize (w.alloc (.cells #[.slice a N c, .int .i64 ch2] 32)) = w0 at *
  clear d0 d1
  refine wp_region_last (fun x => x.cell? ⟨w.heap.size, 0, none⟩ = some (.slice a N c)) 5 (by kernel_rfl) (HFB.out _ (kD _)).cells.1 (fun hHeld => ?_)
  have HBq := Lib.hid (kD w0)
  generalize w0.drew = w1 at *
  refine wpAnyL_take (i := 0) (v := ?_) rfl (by kernel_rfl) (by kernel_rfl) (by kernel_rfl) (by kernel_rfl) (by kernel_rfl) (fun _ _ _ h => h) (Or.inl ⟨by rfl, ?_⟩) (by assumption) ?_
  rotate_left
  · intro wq hSw; (try dsimp only at hSw); first | (go_simp; done) | (go_simp; with_reducible rfl) | with_reducible rfl
  go_simp
  refine wpAnyL_take (i := 2) (v := ?_) rfl (by kernel_rfl) (by kernel_rfl) (by kernel_rfl) (by kernel_rfl) (by kernel_rfl) (fun _ _ _ h => h) (Or.inl ⟨by rfl, ?_⟩) (by assumption) ?_
  rotate_left
  · intro wq hSw; (try dsimp only at hSw); first | (go_simp; done) | (go_simp; with_reducible rfl) | with_reducible rfl
  go_simp
  refine wpAnyL_take (i := 3) (v := ?_) rfl (by kernel_rfl) (by kernel_rfl) (by kernel_rfl) (by kernel_rfl) (by kernel_rfl) (fun _ _ _ h => h) (Or.inl ⟨by rfl, ?_⟩) (by assumption) ?_
  rotate_left
  · intro wq hSw; (try dsimp only at hSw); first | (go_simp; done) | (go_simp; with_reducible rfl) | with_reducible rfl
  go_simp
  refine wpAnyL_take (i := 4) (v := ?_) rfl (by kernel_rfl) (by kernel_rfl) (by kernel_rfl) (by kernel_rfl) (by kernel_rfl) (fun _ _ _ h => h) (Or.inl ⟨by rfl, ?_⟩) (by assumption) ?_
  rotate_left
  · intro wq hSw; (try dsimp only at hSw); first | (go_simp; done) | (go_simp; with_reducible rfl) | with_reducible rfl
  go_simp
  refine wpAnyL_ready (rs := [1]) (by kernel_rfl) (by simp) ?_
  refine (AllReadyL.cons rfl (fun K hK => ?_) AllReadyL.nil)
  go_simp
  go_wp2_with fail
  refine (HLN.out _ (kF HBq.out HB0.out)).mono ?_
  rintro e y ⟨rfl, rfl⟩
  refine hK.out _ _ ?_ (fun hHeld => ?_)
  · (try dsimp only); exact hHeld
  clear hK K
  refine wpAnyL_ready (rs := [5]) (by kernel_rfl) (by simp) ?_
  refine AllReadyL.last rfl (fun K hK => ?_)
  go_simp
  refine hK.out _ _ ?_
  clear hK K
  refine wpAnyL_done (by kernel_rfl) ?_ _
  clear hHeld
  go_wp2_with fail
  go_loopw [5] (fun t wr => ∃ p : Nat, p ≤ N ∧ t = .int .i64 p ∧ Hid (Below w0.heap.size w0 wr)) (fun t _ => N - (intOf t).toNat)
  case atStart => exact ⟨0, by omega, rfl, HBq⟩
  case round =>
    clear HBq
    obtain ⟨p, hp, rfl, HB⟩ := hrel
    obtain ⟨d0, d1⟩ := (HFB.out _ HB.out).cells
    by_cases hlt : p < N
    · obtain ⟨x, hx⟩ := HX.out p hlt
      have HBw := Lib.hid (kF HB.out HB0.out)
      obtain ⟨gr, rfl, hg, hnc, hm, -⟩ := HC.out wr HBw.out p x hx
      simp only [maxLen] at hm
      have hpI : (p : Int) < (N : Int) := by omega
      have hxm := List.mem_of_getElem? hx
      have HCX := Lib.hid (fun y (hy : Below w.heap.size w y) => show y.cell? ⟨gr, p * 7, none⟩ = some (.int .i64 (x.1 / 256)) ∧ y.cell? ⟨gr, p * 7 + 1, none⟩ = some (.int .i64 (x.1 % 256)) ∧ y.cell? ⟨gr, p * 7 + 6, none⟩ = some (.string (strOfNums x.2.b)) from by
        obtain ⟨g', e', _, _, _, hc7⟩ := HC.out y hy p x hx
        cases e'
        obtain ⟨q0, q1, q2, q3, q4, q5, q6⟩ := hc7
        exact ⟨q0, q1, q6⟩)
      have HRA := Lib.hid (HR2.out wr HBw.out x hxm)
      clear hx hxm hg
      generalize x.1 / 256 = xi at *
      generalize x.1 % 256 = xj at *
      generalize x.2.b = M at *
      have he : ((strOfNums M).toList == (strOfNums M).toList) = true := by simp
      obtain ⟨k0, k1, k6⟩ := HCX.out wr HBw.out
      go_wp2_with fail
      refine HRA.out.mono ?_
      rintro e w5 ⟨A1, n1, c1, rfl, hy1, hb5⟩
      have HB5 := Lib.hid (kF hb5 HB.out)
      have HY1 := Lib.hid hy1
      have HBw5 := Lib.hid (kF hb5 HBw.out)
      clear hy1 hb5 HB HBw HRA d0 d1 k0 k1 k6
      obtain ⟨d0, d1⟩ := (HFB.out _ HB5.out).cells
      obtain ⟨k0, k1, k6⟩ := HCX.out w5 HBw5.out
      have hcv : ∀ kk, (convert 40 9 (.slice A1 n1 c1)).run Try.prog (w5.drewN kk) = .ok (.string (strOfNums M)) (w5.drewN kk) := fun kk => conv_any (HY1.out.step (below_drewN (Below.refl _ _) kk))
      go_wp2_with fail
      go_quiet (fail)
      have HB8 := Lib.hid (below_drewN HB5.out nq)
      clear HB5 HY1 HBw5 hcv d0 d1 k0 k1 k6
      go_wp2_with fail
      exact ⟨⟨p + 1, by omega, by go_num, HB8⟩, by simp [intOf]; omega⟩
    · go_wp2_with fail
      go_ret
      exact ⟨rfl, kF HB.out HB0.out⟩
end Go.Proofs.Ytchmildlkaikmaa
