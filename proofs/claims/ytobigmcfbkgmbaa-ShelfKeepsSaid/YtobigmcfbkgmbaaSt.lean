/- What the document's Between, and the statements' own back, answer. -/
import Derived.Test.YtobigmcfbkgmbaaSs
namespace Go.Proofs.Ytobigmcfbkgmbaa
open Go.RowKit

def btwAt (R : List (Int × Int)) (a b : Int) (n : Nat) (x : Int × Int) : Bool := decide (dplc x.1 R = n) && inB a b x
def btwAcc (R : List (Int × Int)) (a b : Int) (p : Nat) : List (Int × Int) := (List.range p).flatMap fun n => R.filter (btwAt R a b n)
theorem btwAcc_succ (R : List (Int × Int)) (a b : Int) (p : Nat) : btwAcc R a b (p + 1) = btwAcc R a b p ++ R.filter (btwAt R a b p) := by
  unfold btwAcc
  rw [List.range_succ, List.flatMap_append, List.flatMap_singleton]
theorem btwAcc_le (R : List (Int × Int)) (a b : Int) : ∀ p, (btwAcc R a b p).length ≤ p * R.length
  | 0 => by simp [btwAcc]
  | p + 1 => by
    rw [btwAcc_succ, List.length_append, Nat.succ_mul]
    have := btwAcc_le R a b p
    have := List.length_filter_le (btwAt R a b p) R
    omega
theorem btw_step {R : List (Int × Int)} {a b : Int} {p i : Nat} {x : Int × Int} (hx : R[i]? = some x) : (R.take (i + 1)).filter (btwAt R a b p) = (R.take i).filter (btwAt R a b p) ++ if btwAt R a b p x = true then [x] else [] := by
  rw [take_at hx, List.filter_append]
  congr 1
  cases h : btwAt R a b p x <;> simp [h]
set_option maxRecDepth 100000 in
set_option maxHeartbeats 4000000 in
theorem dbtw_any (w : World) (base : Nat) (v : Value) (R : List (Int × Int)) (a b : Int) (h : w.ownsRow base 44 2 v R.length (fl eI eI R)) (hn : R.length ≤ 100) :
    Calls Try.prog 10 #[v, .int .i64 a, .int .i64 b] w (Rows_ w (dbtw R a b)) := by
  have hpl := fun w' (hb : Below w.heap.size w w') k => dplc_any w' base v R k (own_below h hb) (by omega)
  obtain ⟨va, vc, rfl⟩ := own_slice h
  have HPL := Lib.hid hpl
  have HO := Lib.hid (fun w' (hb : Below w.heap.size w w') => own_below h hb)
  have HX := Lib.hid (fun p (hp : p < R.length) => show ∃ x, R[p]? = some x from ⟨_, List.getElem?_eq_getElem hp⟩)
  have HE : Hid (btwAcc R a b R.length = dbtw R a b) := Lib.hid rfl
  have hl0 : ∀ p i, p < R.length → (btwAcc R a b p ++ (R.take i).filter (btwAt R a b p)).length ≤ 10100 := fun p i hp => by
    have h1 := btwAcc_le R a b p
    have h2 := List.length_filter_le (btwAt R a b p) (R.take i)
    have h3 : (R.take i).length ≤ R.length := by rw [List.length_take]; omega
    have h4 : p * R.length ≤ 100 * 100 := Nat.mul_le_mul (by omega) hn
    rw [List.length_append]; omega
  have HL := Lib.hid hl0
  have HS : Hid (∀ p, btwAcc R a b (p + 1) = btwAcc R a b p ++ R.filter (btwAt R a b p)) := Lib.hid (btwAcc_succ R a b)
  have HT : Hid (R.take R.length = R) := Lib.hid List.take_length
  have hm0 := own_made w w.heap.size 44 2 (Nat.le_refl _)
  have hb0 : Below w.heap.size w (w.alloc (.cells #[] 44)) := (Below.refl _ _).alloc (Nat.le_refl _) _
  have HM := Lib.hid hm0
  have HB := Lib.hid hb0
  generalize R.length = N at *
  clear h hpl hl0 hm0 hb0
  go_enter Try.func10, Try.ntmps10
  go_wp2_with fail
  go_loopw [7, 8] (fun q i wr => ∃ (p : Nat) (C : List (Int × Int)), p ≤ N ∧ i = .int .i64 p ∧ Hid (C = btwAcc R a b p) ∧ Hid (wr.ownsRow w.heap.size 44 2 q C.length (fl eI eI C)) ∧ Hid (Below w.heap.size w wr)) (fun _ i _ => N - (intOf i).toNat)
  case atStart => exact ⟨0, [], Nat.zero_le _, rfl, Lib.hid rfl, HM, HB⟩
  case round =>
    clear HM HB
    obtain ⟨p, C, hp, rfl, HC, HM, HB⟩ := hrel
    by_cases hlt : p < N
    · have hpI : (p : Int) < (N : Int) := by omega
      have HC0 : Hid (C = btwAcc R a b p ++ (R.take 0).filter (btwAt R a b p)) := Lib.hid (by simpa using HC.out)
      have hown := HM.out
      obtain ⟨qa, qc, rfl⟩ := own_slice hown
      clear hown
      go_wp2_with fail
      go_loopw [7, 9] (fun q i wr => ∃ (j : Nat) (C : List (Int × Int)), j ≤ N ∧ i = .int .i64 j ∧ Hid (C = btwAcc R a b p ++ (R.take j).filter (btwAt R a b p)) ∧ Hid (wr.ownsRow w.heap.size 44 2 q C.length (fl eI eI C)) ∧ Hid (Below w.heap.size w wr)) (fun _ i _ => N - (intOf i).toNat)
      case atStart => exact ⟨0, C, Nat.zero_le _, rfl, HC0, HM, HB⟩
      case round =>
        clear HM HB HC HC0
        obtain ⟨j, C, hj, rfl, HC, HM, HB⟩ := hrel
        by_cases hlj : j < N
        · obtain ⟨x, hx⟩ := HX.out j hlj
          obtain ⟨g, rfl, hg, hnc, hm, c0, c1⟩ := rows_at (HO.out _ HB.out) hx
          simp only [maxLen] at hm
          have hst := btw_step (a := a) (b := b) (p := p) hx
          have hjI : (j : Int) < (N : Int) := by omega
          have hlp : C.length ≤ 10100 := by rw [HC.out]; exact HL.out p j hlt
          have hsz := HB.out.size
          obtain ⟨xk, xv⟩ := x
          simp only at c0 c1
          have hpx := HPL.out _ HB.out xk
          have hcond : btwAt R a b p (xk, xv) = true ↔ dplc xk R = p ∧ a ≤ xk ∧ xk ≤ b := by simp [btwAt, inB]
          generalize dplc xk R = d at hpx hcond
          have HPX := Lib.hid hpx
          have HS1 := Lib.hid hst
          have HCO := Lib.hid hcond
          have hown := HM.out
          obtain ⟨qa, qc, rfl⟩ := own_slice hown
          clear hx hst hpx hcond
          by_cases hok : d = p ∧ a ≤ xk ∧ xk ≤ b
          · have HC3 : Hid (C ++ [(xk, xv)] = btwAcc R a b p ++ (R.take (j + 1)).filter (btwAt R a b p)) := Lib.hid (by rw [HS1.out, if_pos (HCO.out.2 hok), ← List.append_assoc, ← HC.out])
            obtain ⟨rfl, ha, hb⟩ := hok
            clear HS1 HCO
            go_wp2_with fail
            refine HPX.out.mono ?_
            rintro e w2 ⟨rfl, rfl⟩
            go_wp2_with (at_builtin; refine wpList_elem rfl (.tmp 50) (.tmp 55) rfl Try.underlying24 info_row rfl (by omega) (by omega) rfl hown rfl rfl rfl (pair_one xk xv) (by omega) hsz ?_; intro v' w3 hown3 hgr3 hob3)
            have HB3 := Lib.hid (below_own HB.out hown (Nat.le_refl _) hsz hgr3)
            have HM3 : Hid (w3.ownsRow w.heap.size 44 2 v' (C ++ [(xk, xv)]).length (fl eI eI (C ++ [(xk, xv)]))) := by
              rw [fl_append, List.length_append]
              exact Lib.hid hown3
            exact ⟨⟨j + 1, C ++ [(xk, xv)], by omega, by go_num, HC3, HM3, HB3⟩, by simp [intOf]; omega⟩
          · have HC3 : Hid (C = btwAcc R a b p ++ (R.take (j + 1)).filter (btwAt R a b p)) := Lib.hid (by rw [HS1.out, if_neg (fun e => hok (HCO.out.1 e)), List.append_nil, ← HC.out])
            clear HS1 HCO hown
            have hcs : d ≠ p ∨ (d = p ∧ xk < a) ∨ (d = p ∧ a ≤ xk ∧ b < xk) := by omega
            clear hok
            rcases hcs with h1 | ⟨rfl, h2⟩ | ⟨rfl, h2, h3⟩
            · have t1 : ((d : Int) == (p : Int)) = false := by simp; omega
              clear h1
              go_wp2_with fail
              refine HPX.out.mono ?_
              rintro e w2 ⟨rfl, rfl⟩
              go_wp2_with fail
              exact ⟨⟨j + 1, C, by omega, by go_num, HC3, HM, HB⟩, by simp [intOf]; omega⟩
            · have h4 : ¬ a ≤ xk := by omega
              go_wp2_with fail
              refine HPX.out.mono ?_
              rintro e w2 ⟨rfl, rfl⟩
              go_wp2_with fail
              exact ⟨⟨j + 1, C, by omega, by go_num, HC3, HM, HB⟩, by simp [intOf]; omega⟩
            · have h4 : ¬ xk ≤ b := by omega
              go_wp2_with fail
              refine HPX.out.mono ?_
              rintro e w2 ⟨rfl, rfl⟩
              go_wp2_with fail
              exact ⟨⟨j + 1, C, by omega, by go_num, HC3, HM, HB⟩, by simp [intOf]; omega⟩
        · obtain rfl : j = N := by omega
          have HC3 : Hid (C = btwAcc R a b (p + 1)) := Lib.hid (by rw [HC.out, HT.out, HS.out])
          have hown := HM.out
          obtain ⟨qa, qc, rfl⟩ := own_slice hown
          clear hown
          go_wp2_with fail
          exact ⟨⟨p + 1, C, by omega, by go_num, HC3, HM, HB⟩, by simp [intOf]; omega⟩
    · obtain rfl : p = N := by omega
      have hm := HM.out
      have HC3 := Lib.hid (HC.out.trans HE.out)
      obtain ⟨qa, qc, rfl⟩ := own_slice hm
      clear hm HC
      go_wp2_with fail
      go_ret
      exact ⟨_, rfl, HC3.out ▸ HM.out, HB.out⟩
theorem rev_step {R : List (Int × Int)} {p : Nat} {x : Int × Int} (hx : R[p]? = some x) : (R.drop p).reverse = (R.drop (p + 1)).reverse ++ [x] := by
  rw [drop_at hx, List.reverse_cons]
set_option maxRecDepth 100000 in
set_option maxHeartbeats 2000000 in
theorem back_any (w : World) (base : Nat) (v : Value) (R : List (Int × Int)) (h : w.ownsRow base 44 2 v R.length (fl eI eI R)) (hn : R.length ≤ 1000) :
    Calls Try.prog 13 #[v] w (Rows_ w R.reverse) := by
  obtain ⟨va, vc, rfl⟩ := own_slice h
  have HO := Lib.hid (fun w' (hb : Below w.heap.size w w') => own_below h hb)
  have HX := Lib.hid (fun p (hp : p < R.length) => show ∃ x, R[p]? = some x from ⟨_, List.getElem?_eq_getElem hp⟩)
  have HE : Hid ((R.drop 0).reverse = R.reverse) := Lib.hid rfl
  have HZ : Hid ([] = (R.drop R.length).reverse) := Lib.hid (by simp)
  have HL := Lib.hid (fun p => show ((R.drop p).reverse).length ≤ R.length from by simp)
  have hm0 := own_made w w.heap.size 44 2 (Nat.le_refl _)
  have hb0 : Below w.heap.size w (w.alloc (.cells #[] 44)) := (Below.refl _ _).alloc (Nat.le_refl _) _
  have HB := Lib.hid hb0
  have HM := Lib.hid hm0
  generalize R.length = N at *
  clear h hm0 hb0
  go_enter Try.func13, Try.ntmps13
  go_wp2_with fail
  go_loopw [3, 4] (fun q i wr => ∃ (p : Nat) (C : List (Int × Int)), p ≤ N ∧ i = .int .i64 ((p : Int) - 1) ∧ Hid (C = (R.drop p).reverse) ∧ Hid (wr.ownsRow w.heap.size 44 2 q C.length (fl eI eI C)) ∧ Hid (Below w.heap.size w wr)) (fun _ i _ => (intOf i + 1).toNat)
  case atStart => exact ⟨N, [], Nat.le_refl _, by go_num, HZ, HM, HB⟩
  case round =>
    clear HM HB
    obtain ⟨p, C, hp, rfl, HC, HM, HB⟩ := hrel
    rcases Nat.eq_zero_or_pos p with h0 | h0
    · subst h0
      have hm := HM.out
      have HC3 := Lib.hid (HC.out.trans HE.out)
      obtain ⟨qa, qc, rfl⟩ := own_slice hm
      clear hm HC
      go_wp2_with fail
      go_ret
      exact ⟨_, rfl, HC3.out ▸ HM.out, HB.out⟩
    · obtain ⟨q, rfl⟩ : ∃ q, p = q + 1 := ⟨p - 1, by omega⟩
      have eq : ((q + 1 : Nat) : Int) - 1 = (q : Int) := by omega
      rw [eq]
      obtain ⟨x, hx⟩ := HX.out q (by omega)
      obtain ⟨g, rfl, hg, hnc, hm, c0, c1⟩ := rows_at (HO.out _ HB.out) hx
      simp only [maxLen] at hm
      have hst := rev_step hx
      have hqI : (q : Int) < (N : Int) := by omega
      have hlp : C.length ≤ N := by rw [HC.out]; exact HL.out (q + 1)
      have hsz := HB.out.size
      obtain ⟨xk, xv⟩ := x
      simp only at c0 c1
      have HS := Lib.hid hst
      have hown := HM.out
      obtain ⟨qa, qc, rfl⟩ := own_slice hown
      clear hx hst eq
      go_wp2_with (at_builtin; refine wpList_elem rfl (.tmp 13) (.tmp 18) rfl Try.underlying24 info_row rfl (by omega) (by omega) rfl hown rfl rfl rfl (pair_one xk xv) (by omega) hsz ?_; intro v' w3 hown3 hgr3 hob3)
      have HB3 := Lib.hid (below_own HB.out hown (Nat.le_refl _) hsz hgr3)
      have HM3 : Hid (w3.ownsRow w.heap.size 44 2 v' (C ++ [(xk, xv)]).length (fl eI eI (C ++ [(xk, xv)]))) := by
        rw [fl_append, List.length_append]
        exact Lib.hid hown3
      have HC3 : Hid (C ++ [(xk, xv)] = (R.drop q).reverse) := Lib.hid (by rw [HC.out, ← HS.out])
      exact ⟨⟨q, C ++ [(xk, xv)], by omega, by first | rfl | go_num, HC3, HM3, HB3⟩, by simp [intOf]⟩
end Go.Proofs.Ytobigmcfbkgmbaa
