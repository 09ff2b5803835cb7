/- What the document's less, All and Take answer. -/
import Derived.Test.YtbabohioeeandaaUd
import Derived.StillTailTactics
namespace Go.Proofs.Ytbabohioeeandaa
open Go.RowKit
set_option linter.unusedSimpArgs false
set_option linter.unusedVariables false

theorem less_any (ak aa bk ba : Int) (w : World) : Calls Try.prog 34 #[.agg #[.int .i64 ak, .int .i64 aa], .agg #[.int .i64 bk, .int .i64 ba]] w fun e w' => e = .returned (.bool (tlI (ak, aa) (bk, ba))) ∧ Below w.heap.size w w' := by
  have e1 : tlI (ak, aa) (bk, ba) = (decide (aa < ba) || (decide (aa = ba) && decide (ak < bk))) := rfl
  rw [e1]
  clear e1
  by_cases h1 : aa < ba
  · have e : (decide (aa < ba) || (decide (aa = ba) && decide (ak < bk))) = true := by simp [h1]
    rw [e]
    clear e
    go_enter Try.func34, Try.ntmps34
    go_wp2_with fail
    go_ret
    exact ⟨rfl, by go_grown⟩
  · by_cases h2 : aa = ba
    · subst h2
      have e : (decide (aa < aa) || (decide (aa = aa) && decide (ak < bk))) = decide (ak < bk) := by simp
      rw [e]
      clear e
      go_enter Try.func34, Try.ntmps34
      go_wp2_with fail
      go_ret
      exact ⟨rfl, by go_grown⟩
    · have e : (decide (aa < ba) || (decide (aa = ba) && decide (ak < bk))) = false := by simp [h1, h2]
      have t : (aa == ba) = false := by simp [h2]
      rw [e]
      clear e
      go_enter Try.func34, Try.ntmps34
      go_wp2_with fail
      go_ret
      exact ⟨rfl, by go_grown⟩

def aheadN (x : Int × Int) (R : List (Int × Int)) : Nat := R.countP fun y => tlI y x
def allAt (R : List (Int × Int)) (n : Nat) (x : Int × Int) : Bool := decide (aheadN x R = n)
def allAcc (R : List (Int × Int)) (p : Nat) : List (Int × Int) := (List.range p).flatMap fun n => R.filter (allAt R n)
theorem ahead_step {R : List (Int × Int)} {y : Nat} {z x : Int × Int} (hz : R[y]? = some z) : aheadN x (R.take (y + 1)) = aheadN x (R.take y) + if tlI z x = true then 1 else 0 := by
  rw [take_at hz]
  unfold aheadN
  rw [List.countP_append]
  cases h : tlI z x <;> simp [h]
theorem ahead_le (x : Int × Int) (R : List (Int × Int)) (y : Nat) : aheadN x (R.take y) ≤ y := Nat.le_trans List.countP_le_length (by rw [List.length_take]; omega)
theorem allAcc_succ (R : List (Int × Int)) (p : Nat) : allAcc R (p + 1) = allAcc R p ++ R.filter (allAt R p) := by
  unfold allAcc
  rw [List.range_succ, List.flatMap_append, List.flatMap_singleton]
theorem allAcc_le (R : List (Int × Int)) : ∀ p, (allAcc R p).length ≤ p * R.length
  | 0 => by simp [allAcc]
  | p + 1 => by
    rw [allAcc_succ, List.length_append, Nat.succ_mul]
    have := allAcc_le R p
    have := List.length_filter_le (allAt R p) R
    omega
theorem all_step {R : List (Int × Int)} {p i : Nat} {x : Int × Int} (hx : R[i]? = some x) : (R.take (i + 1)).filter (allAt R p) = (R.take i).filter (allAt R p) ++ if allAt R p x = true then [x] else [] := by
  rw [take_at hx, List.filter_append]
  congr 1
  cases h : allAt R p x <;> simp [h]
/-- In a line, as many stand ahead of one as its place says. -/
theorem ahead_line {L : List (Int × Int)} (h : RiseT tlI L) {i : Nat} {x : Int × Int} (hx : L[i]? = some x) : aheadN x L = i := by
  obtain ⟨hi, e⟩ := List.getElem?_eq_some_iff.1 hx
  have e1 : L = L.take i ++ L.drop i := (List.take_append_drop _ _).symm
  have h1 : (L.take i).countP (fun y => tlI y x) = i := by
    rw [List.countP_eq_length.2]
    · rw [List.length_take]; omega
    · intro y hy
      obtain ⟨j, hj, e3⟩ := List.mem_iff_getElem.1 hy
      rw [List.getElem_take] at e3
      exact h.at (show j < i by simp at hj; omega) (show L[j]? = some y from by rw [← e3]; exact List.getElem?_eq_getElem _) hx
  have h2 : (L.drop i).countP (fun y => tlI y x) = 0 := by
    rw [List.countP_eq_zero]
    intro y hy
    obtain ⟨j, hj, e3⟩ := List.mem_iff_getElem.1 hy
    rw [List.getElem_drop] at e3
    have hy2 : L[i + j]? = some y := by rw [← e3]; exact List.getElem?_eq_getElem _
    rcases Nat.eq_zero_or_pos j with h0 | h0
    · subst h0
      rw [Nat.add_zero, hx] at hy2
      cases hy2
      simp [tlI_lin.irr]
    · have h3 := h.at (show i < i + j by omega) hx hy2
      cases h4 : tlI y x with
      | false => simp
      | true => have := tlI_lin.tr h3 h4; rw [tlI_lin.irr] at this; cases this
  have e2 : aheadN x L = aheadN x (L.take i ++ L.drop i) := by rw [← e1]
  rw [e2]
  unfold aheadN
  rw [List.countP_append, h1, h2]
  omega
theorem allAt_eq {L R : List (Int × Int)} (hp : L.Perm R) (n : Nat) : allAt R n = fun x => decide (aheadN x L = n) := by
  funext x
  unfold allAt aheadN
  rw [hp.countP_eq]
theorem all_one {L R : List (Int × Int)} (h : RiseT tlI L) (hp : L.Perm R) {n : Nat} {x : Int × Int} (hx : L[n]? = some x) : R.filter (allAt R n) = [x] := by
  rw [allAt_eq hp]
  have hq : (R.filter fun x => decide (aheadN x L = n)).Perm [x] := by
    refine (hp.symm.filter _).trans ?_
    obtain ⟨hn, ex⟩ := List.getElem?_eq_some_iff.1 hx
    have e1 : L = L.take n ++ x :: L.drop (n + 1) := by rw [← ex, ← List.drop_eq_getElem_cons hn, List.take_append_drop]
    have h1 : (L.take n).filter (fun x => decide (aheadN x L = n)) = [] := by
      rw [List.filter_eq_nil_iff]
      intro y hy
      obtain ⟨i, hi, e⟩ := List.mem_iff_getElem.1 hy
      rw [List.getElem_take] at e
      have := ahead_line h (show L[i]? = some y from by rw [← e]; exact List.getElem?_eq_getElem _)
      simp at hi; simp; omega
    have h2 : (L.drop (n + 1)).filter (fun x => decide (aheadN x L = n)) = [] := by
      rw [List.filter_eq_nil_iff]
      intro y hy
      obtain ⟨i, hi, e⟩ := List.mem_iff_getElem.1 hy
      rw [List.getElem_drop] at e
      have := ahead_line h (show L[n + 1 + i]? = some y from by rw [← e]; exact List.getElem?_eq_getElem _)
      simp; omega
    have e2 : L.filter (fun x => decide (aheadN x L = n)) = (L.take n ++ x :: L.drop (n + 1)).filter (fun x => decide (aheadN x L = n)) := by rw [← e1]
    rw [e2, List.filter_append, h1, List.filter_cons, h2, ahead_line h hx]
    simp
  exact List.perm_singleton.1 hq
theorem all_line {L R : List (Int × Int)} (h : RiseT tlI L) (hp : L.Perm R) : ∀ m, m ≤ L.length → allAcc R m = L.take m
  | 0, _ => by simp [allAcc]
  | m + 1, hm => by
    rw [allAcc_succ, all_line h hp m (by omega), all_one h hp (List.getElem?_eq_getElem (show m < L.length by omega)), List.take_succ_eq_append_getElem (by omega)]
theorem TieT.all {L T R : List (Int × Int)} (h : TieT L T R) : allAcc R R.length = L := by
  have e := all_line h.rl h.lp L.length (Nat.le_refl _)
  rw [List.take_length, h.len.1] at e
  exact e

set_option maxRecDepth 100000 in
set_option maxHeartbeats 8000000 in
theorem dall_any (w : World) (base : Nat) (v : Value) (R : List (Int × Int)) (h : w.ownsRow base 44 2 v R.length (fl eI eI R)) (hn : R.length ≤ 100) :
    Calls Try.prog 16 #[v] w (Rows_ w (allAcc R R.length)) := by
  obtain ⟨va, vc, rfl⟩ := own_slice h
  have HO := Lib.hid (fun w' (hb : Below w.heap.size w w') => own_below h hb)
  have HX := Lib.hid (fun p (hp : p < R.length) => show ∃ x, R[p]? = some x from ⟨_, List.getElem?_eq_getElem hp⟩)
  have hl0 : ∀ p i, p < R.length → (allAcc R p ++ (R.take i).filter (allAt R p)).length ≤ 10100 := fun p i hp => by
    have h1 := allAcc_le R p
    have h2 := List.length_filter_le (allAt R p) (R.take i)
    have h3 : (R.take i).length ≤ R.length := by rw [List.length_take]; omega
    have h4 : p * R.length ≤ 100 * 100 := Nat.mul_le_mul (by omega) hn
    rw [List.length_append]; omega
  have HL := Lib.hid hl0
  have HS : Hid (∀ p, allAcc R (p + 1) = allAcc R p ++ R.filter (allAt R p)) := Lib.hid (allAcc_succ R)
  have HT : Hid (R.take R.length = R) := Lib.hid List.take_length
  have HAL := Lib.hid (fun x y => ahead_le x R y)
  have hm0 := own_made w w.heap.size 44 2 (Nat.le_refl _)
  have hb0 : Below w.heap.size w (w.alloc (.cells #[] 44)) := (Below.refl _ _).alloc (Nat.le_refl _) _
  have HM := Lib.hid hm0
  have HB := Lib.hid hb0
  generalize R.length = N at *
  clear h hl0 hm0 hb0
  go_enter Try.func16, Try.ntmps16
  go_wp2_with fail
  go_loopw [3, 4] (fun q i wr => ∃ (p : Nat) (C : List (Int × Int)), p ≤ N ∧ i = .int .i64 p ∧ Hid (C = allAcc R p) ∧ Hid (wr.ownsRow w.heap.size 44 2 q C.length (fl eI eI C)) ∧ Hid (Below w.heap.size w wr)) (fun _ i _ => N - (intOf i).toNat)
  case atStart => exact ⟨0, [], Nat.zero_le _, rfl, Lib.hid rfl, HM, HB⟩
  case round =>
    clear HM HB
    obtain ⟨p, C, hp, rfl, HC, HM, HB⟩ := hrel
    by_cases hlt : p < N
    · have hpI : (p : Int) < (N : Int) := by omega
      have HC0 : Hid (C = allAcc R p ++ (R.take 0).filter (allAt R p)) := Lib.hid (by simpa using HC.out)
      have hown := HM.out
      obtain ⟨qa, qc, rfl⟩ := own_slice hown
      clear hown
      go_wp2_with fail
      go_loopw [3, 5] (fun q i wr => ∃ (j : Nat) (C : List (Int × Int)), j ≤ N ∧ i = .int .i64 j ∧ Hid (C = allAcc R p ++ (R.take j).filter (allAt R p)) ∧ Hid (wr.ownsRow w.heap.size 44 2 q C.length (fl eI eI C)) ∧ Hid (Below w.heap.size w wr)) (fun _ i _ => N - (intOf i).toNat)
      case atStart => exact ⟨0, C, Nat.zero_le _, rfl, HC0, HM, HB⟩
      case round =>
        clear HM HB HC HC0
        obtain ⟨j, C, hj, rfl, HC, HM, HB⟩ := hrel
        obtain ⟨wA, hwA⟩ : ∃ x, x = wr := ⟨wr, rfl⟩
        subst hwA
        by_cases hlj : j < N
        · obtain ⟨x, hx⟩ := HX.out j hlj
          have hst := all_step (p := p) hx
          have hjI : (j : Int) < (N : Int) := by omega
          have hlp : C.length ≤ 10100 := by rw [HC.out]; exact HL.out p j hlt
          have HS1 := Lib.hid hst
          have HXJ := Lib.hid hx
          have HB0 := Lib.hid (Below.refl wA.heap.size wA)
          have hown := HM.out
          obtain ⟨qa, qc, rfl⟩ := own_slice hown
          obtain ⟨xk, xv⟩ := x
          have h00 : aheadN (xk, xv) (R.take 0) = 0 := rfl
          have H00 := Lib.hid h00
          clear hx hst hown h00
          go_wp2_with fail
          go_loopw [6, 7] (fun ah i wr => ∃ (y a : Nat), y ≤ N ∧ i = .int .i64 y ∧ ah = .int .i64 a ∧ a ≤ y ∧ Hid (aheadN (xk, xv) (R.take y) = a) ∧ Hid (Below wA.heap.size wA wr)) (fun _ i _ => N - (intOf i).toNat)
          case atStart => exact ⟨0, 0, Nat.zero_le _, rfl, rfl, Nat.le_refl _, H00, HB0⟩
          case round =>
            clear HB0 H00
            obtain ⟨y, a, hy, rfl, rfl, hay, HA, HBW⟩ := hrel
            obtain ⟨wC, hwC⟩ : ∃ x, x = wr := ⟨wr, rfl⟩
            subst hwC
            by_cases hly : y < N
            · obtain ⟨z, hz⟩ := HX.out y hly
              have hbC := kF HBW.out HB.out
              obtain ⟨g, rfl, hg, hnc, hm, c0, c1⟩ := rows_at (HO.out _ hbC) hz
              obtain ⟨g', e', _, _, _, d0, d1⟩ := rows_at (HO.out _ hbC) HXJ.out
              cases e'
              simp only [maxLen] at hm
              have hst := ahead_step (x := (xk, xv)) hz
              have hyI : (y : Int) < (N : Int) := by omega
              obtain ⟨zk, zv⟩ := z
              simp only at c0 c1 d0 d1
              have hle := less_any zk zv xk xv wC.drew
              rw [HA.out] at hst
              generalize tlI (zk, zv) (xk, xv) = t at hst hle
              have HLE := Lib.hid hle
              have HST := Lib.hid hst
              clear hz hst hle hbC
              go_wp2_with fail
              go_still_tail 8, (by kernel_rfl)
              change wpList _ _ _ _ _ wC.drew
              go_wp2_with fail
              refine HLE.out.mono ?_
              rintro e w5 ⟨rfl, hb5⟩
              have HB5 := Lib.hid (below_trans' HBW.out ((below_drewN (Below.refl _ _) 1).trans hb5))
              clear hb5 c0 c1 d0 d1
              cases t
              · have HA2 : Hid (aheadN (xk, xv) (R.take (y + 1)) = a) := Lib.hid (by rw [HST.out]; rfl)
                go_wp2_with fail
                exact ⟨⟨y + 1, a, by omega, by go_num, by go_num, by omega, HA2, HB5⟩, by simp [intOf]; omega⟩
              · have HA2 : Hid (aheadN (xk, xv) (R.take (y + 1)) = a + 1) := Lib.hid (by rw [HST.out]; rfl)
                go_wp2_with fail
                exact ⟨⟨y + 1, a + 1, by omega, by go_num, by go_num, by omega, HA2, HB5⟩, by simp [intOf]; omega⟩
            · obtain rfl : y = N := by omega
              have hA := HA.out
              rw [HT.out] at hA
              have hcond : allAt R p (xk, xv) = true ↔ a = p := by unfold allAt; rw [hA]; simp
              have HCO := Lib.hid hcond
              have HB5 := Lib.hid (kF HBW.out HB.out)
              have HM5 := Lib.hid (own_below HM.out HBW.out)
              have hsz := HB5.out.size
              have hown := HM5.out
              obtain ⟨g, rfl, hg, hnc, hm, c0, c1⟩ := rows_at (HO.out _ HB5.out) HXJ.out
              simp only [maxLen] at hm
              simp only at c0 c1
              clear hA hcond HA HBW
              by_cases hap : a = p
              · have HC3 : Hid (C ++ [(xk, xv)] = allAcc R p ++ (R.take (j + 1)).filter (allAt R p)) := Lib.hid (by rw [HS1.out, if_pos (HCO.out.2 hap), ← List.append_assoc, ← HC.out])
                subst hap
                clear HS1 HCO
                go_wp2_with (at_builtin; refine wpList_elem rfl (.tmp 41) (.tmp 46) rfl Try.underlying25 info_row rfl (by omega) (by omega) rfl hown rfl rfl rfl (pair_one xk xv) (by omega) hsz ?_; intro v' w3 hown3 hgr3 hob3)
                have HB3 := Lib.hid (below_own HB5.out hown (Nat.le_refl _) hsz hgr3)
                have HM3 : Hid (w3.ownsRow w.heap.size 44 2 v' (C ++ [(xk, xv)]).length (fl eI eI (C ++ [(xk, xv)]))) := by
                  rw [fl_append, List.length_append]
                  exact Lib.hid hown3
                exact ⟨⟨j + 1, C ++ [(xk, xv)], by omega, by go_num, HC3, HM3, HB3⟩, by simp [intOf]; omega⟩
              · have HC3 : Hid (C = allAcc R p ++ (R.take (j + 1)).filter (allAt R p)) := Lib.hid (by rw [HS1.out, if_neg (fun e => hap (HCO.out.1 e)), List.append_nil, ← HC.out])
                have t1 : ((a : Int) == (p : Int)) = false := by simp; omega
                clear HS1 HCO hown hap
                go_wp2_with fail
                exact ⟨⟨j + 1, C, by omega, by go_num, HC3, HM5, HB5⟩, by simp [intOf]; omega⟩
        · obtain rfl : j = N := by omega
          have HC3 : Hid (C = allAcc R (p + 1)) := Lib.hid (by rw [HS.out, HC.out, HT.out])
          have hown := HM.out
          obtain ⟨qa, qc, rfl⟩ := own_slice hown
          clear hown
          go_wp2_with fail
          exact ⟨⟨p + 1, C, by omega, by go_num, HC3, HM, HB⟩, by simp [intOf]; omega⟩
    · obtain rfl : p = N := by omega
      have hm := HM.out
      rw [HC.out] at hm
      have HM2 := Lib.hid hm
      obtain ⟨qa, qc, e⟩ := own_slice hm
      subst e
      clear hm HM
      go_wp2_with fail
      go_ret
      exact ⟨_, rfl, HM2.out, HB.out⟩
end Go.Proofs.Ytbabohioeeandaa
