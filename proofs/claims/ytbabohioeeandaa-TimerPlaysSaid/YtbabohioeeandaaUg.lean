/- What the document's Take answers; two lists of numbers; the timers' Next, When, Fork by one predicate. -/
import Derived.Test.YtbabohioeeandaaUf
import Derived.Deep.RegionHeld3
namespace Go.Proofs.Ytbabohioeeandaa
open Go.RowKit
set_option linter.unusedSimpArgs false
set_option linter.unusedVariables false

theorem own_made_int (w : World) (base : Nat) (hb : base ≤ w.heap.size) : (w.alloc (.cells #[] 3)).ownsRow base 3 1 (.slice (some ⟨w.heap.size, 0, none⟩) 0 0) 0 [] := own_made w base 3 1 hb
def keysV (l : List (Int × Int)) : List Value := l.map fun x => .int .i64 x.1
theorem keysV_len (l : List (Int × Int)) : (keysV l).length = l.length := by simp [keysV]
theorem keysV_snoc (l : List (Int × Int)) (x : Int × Int) : keysV (l ++ [x]) = keysV l ++ [.int .i64 x.1] := by simp [keysV]
theorem int_one (x : Int) : ∀ u ∈ [Value.int .i64 x], u.oneCell' = true := by simp [Value.oneCell']
/-- What Take of the document's answers: what is not due, and the keys of what is. -/
def DTook (w : World) (now : Int) (L : List (Int × Int)) (e : Ending) (w' : World) : Prop := ∃ m a c b d, m ≤ L.length ∧ (∀ x ∈ L.take m, x.2 ≤ now) ∧ (∀ x, L[m]? = some x → now < x.2) ∧ e = .returned (.tuple #[.slice a (L.length - m) c, .slice b m d]) ∧ w'.ownsRow w.heap.size 44 2 (.slice a (L.length - m) c) (L.length - m) (fl eI eI (L.drop m)) ∧ w'.ownsRow w.heap.size 3 1 (.slice b m d) m (keysV (L.take m)) ∧ Below w.heap.size w w'
/-- How many at the head are due. -/
def dueN (now : Int) : List (Int × Int) → Nat
  | [] => 0
  | x :: L => if x.2 ≤ now then dueN now L + 1 else 0
theorem dueN_le (now : Int) : ∀ L : List (Int × Int), dueN now L ≤ L.length
  | [] => Nat.le_refl _
  | x :: L => by unfold dueN; have := dueN_le now L; split <;> simp <;> omega
theorem dueN_lt (now : Int) : ∀ (L : List (Int × Int)) (i : Nat) (x : Int × Int), i < dueN now L → L[i]? = some x → x.2 ≤ now
  | [], i, x, _, h => by simp at h
  | y :: L, i, x, hi, h => by
    unfold dueN at hi
    by_cases hy : y.2 ≤ now
    · rw [if_pos hy] at hi
      cases i with
      | zero => simp only [List.getElem?_cons_zero, Option.some.injEq] at h; subst h; exact hy
      | succ i => exact dueN_lt now L i x (by omega) (by simpa using h)
    · rw [if_neg hy] at hi; omega
theorem dueN_stop (now : Int) : ∀ (L : List (Int × Int)) (x : Int × Int), L[dueN now L]? = some x → now < x.2
  | [], x, h => by simp at h
  | y :: L, x, h => by
    unfold dueN at h
    by_cases hy : y.2 ≤ now
    · rw [if_pos hy] at h; exact dueN_stop now L x (by simpa using h)
    · rw [if_neg hy] at h; simp only [List.getElem?_cons_zero, Option.some.injEq] at h; subst h; omega
theorem due_take {now : Int} {L : List (Int × Int)} : ∀ x ∈ L.take (dueN now L), x.2 ≤ now := fun x hx => by
  obtain ⟨i, hi, e⟩ := List.mem_iff_getElem.1 hx
  rw [List.getElem_take] at e
  exact dueN_lt now L i x (by simp at hi; omega) (by rw [← e]; exact List.getElem?_eq_getElem _)
theorem due_at {now : Int} {L : List (Int × Int)} (hr : RiseT tlI L) {i : Nat} {x : Int × Int} (hx : L[i]? = some x) : x.2 ≤ now ↔ i < dueN now L := by
  constructor
  · intro h
    rcases Nat.lt_or_ge i (dueN now L) with h1 | h1
    · exact h1
    · have h2 := rise_after hr (dueN_stop now L) x (List.mem_iff_getElem?.2 ⟨i - dueN now L, by rw [List.getElem?_drop, show dueN now L + (i - dueN now L) = i by omega]; exact hx⟩)
      omega
  · exact fun h => dueN_lt now L i x h hx
theorem due_uniq {now : Int} {L : List (Int × Int)} (hr : RiseT tlI L) {m : Nat} (hm : m ≤ L.length) (h1 : ∀ x ∈ L.take m, x.2 ≤ now) (h2 : ∀ x, L[m]? = some x → now < x.2) : m = dueN now L := by
  rcases Nat.lt_trichotomy m (dueN now L) with h | h | h
  · have hl := dueN_le now L
    have hx := List.getElem?_eq_getElem (show m < L.length by omega)
    have := h2 _ hx
    have := dueN_lt now L m _ h hx
    omega
  · exact h
  · have hx := List.getElem?_eq_getElem (show dueN now L < L.length by omega)
    have := dueN_stop now L _ hx
    have := h1 _ (List.mem_iff_getElem?.2 ⟨dueN now L, by rw [List.getElem?_take, if_pos h]; exact hx⟩)
    omega

set_option maxRecDepth 100000 in
set_option maxHeartbeats 4000000 in
theorem dtake_any (w : World) (base : Nat) (v : Value) (L R : List (Int × Int)) (now : Int) (h : w.ownsRow base 44 2 v R.length (fl eI eI R)) (hn : R.length ≤ 100) (ha : allAcc R R.length = L) (hr : RiseT tlI L) (hl : L.length ≤ 100) :
    Calls Try.prog 12 #[v, .int .i64 now] w fun e w' => ∃ a c b d, e = .returned (.tuple #[.slice a (L.drop (dueN now L)).length c, .slice b (dueN now L) d]) ∧ w'.ownsRow w.heap.size 44 2 (.slice a (L.drop (dueN now L)).length c) (L.drop (dueN now L)).length (fl eI eI (L.drop (dueN now L))) ∧ w'.ownsRow w.heap.size 3 1 (.slice b (dueN now L) d) (dueN now L) (keysV (L.take (dueN now L))) ∧ Below w.heap.size w w' := by
  have hal1 : Below w.heap.size w (w.alloc (.cells #[] 44)) := (Below.refl _ _).alloc (Nat.le_refl _) _
  have hal2 : Below w.heap.size w ((w.alloc (.cells #[] 44)).alloc (.cells #[] 3)) := hal1.alloc hal1.size _
  have hda := dall_any ((w.alloc (.cells #[] 44)).alloc (.cells #[] 3)) base v R (own_below h hal2) hn
  rw [ha] at hda
  have ho1 := (own_made w w.heap.size 44 2 (Nat.le_refl _)).alloc (.cells #[] 3)
  have ho2 := own_made_int (w.alloc (.cells #[] 44)) w.heap.size (by simp)
  have hz : (w.alloc (.cells #[] 44)).heap.size = w.heap.size + 1 := by simp
  rw [hz] at ho2
  obtain ⟨va, vc, rfl⟩ := own_slice h
  have HDA := Lib.hid hda
  have HO1 := Lib.hid ho1
  have HO2 := Lib.hid ho2
  have HAL := Lib.hid hal2
  have HX := Lib.hid (fun p (hp : p < L.length) => show ∃ x, L[p]? = some x from ⟨_, List.getElem?_eq_getElem hp⟩)
  have HDU := Lib.hid (fun p x (hx : L[p]? = some x) => due_at (now := now) hr hx)
  have HRS := Lib.hid (dueN_le now L)
  have HST := Lib.hid (fun p x (hx : L[p]? = some x) => take_at hx)
  have hD : ∀ p, ((L.take p).drop (dueN now L)).length ≤ 100 := fun p => by simp; omega
  have HD := Lib.hid hD
  generalize hNL : L.length = N at *
  generalize hm : dueN now L = m at *
  have HFIN := Lib.hid (show L.take N = L by rw [← hNL, List.take_length])
  have HNL := Lib.hid hNL
  clear h hda ho1 ho2 hal1 hal2 hz hm hNL hD
  go_enter Try.func12, Try.ntmps12
  go_wp2_with fail
  refine HDA.out.mono ?_
  rintro e w2 ⟨v2, rfl, hro, hb2⟩
  rw [HNL.out] at hro
  obtain ⟨xa, xc, rfl⟩ := own_slice hro
  have HRO := Lib.hid hro
  have HB2 := Lib.hid (kF hb2 HAL.out)
  have H10 : Hid (w2.ownsRow w.heap.size 44 2 (.slice (some ⟨w.heap.size, 0, none⟩) 0 0) ([] : List (Int × Int)).length (fl eI eI ([] : List (Int × Int)))) := Lib.hid (own_below HO1.out hb2)
  have H20 : Hid (w2.ownsRow w.heap.size 3 1 (.slice (some ⟨w.heap.size + 1, 0, none⟩) 0 0) 0 []) := Lib.hid (own_below HO2.out hb2)
  clear hro hb2 HO1 HO2 HAL HDA
  go_wp2_with fail
  have HSEP0 : Hid (∀ b, (Value.slice xa N xc).ownBlock = some b → (Value.slice (some ⟨w.heap.size, 0, none⟩) 0 0).ownBlock ≠ some b) := Lib.hid (fun b hb e => by
    have := (HRO.out.lt b hb).1
    simp [Value.ownBlock] at e
    have hz : ((w.alloc (.cells #[] 44)).alloc (.cells #[] 3)).heap.size = w.heap.size + 2 := by simp
    omega)
  have HRO2 := Lib.hid (show w2.ownsRow w.heap.size 44 2 (.slice xa N xc) N (fl eI eI L) from own_less HRO.out (by simp; omega))
  clear HRO
  go_loopw [6, 7, 9] (fun q k i wr => ∃ (p nk : Nat) (C : List (Int × Int)) (KV : List Value), p ≤ N ∧ i = .int .i64 p ∧ C.length ≤ 100 ∧ nk ≤ 1000 ∧ Hid (C = (L.take p).drop m) ∧ Hid (nk = min p m) ∧ Hid (KV = keysV (L.take (min p m))) ∧ Hid (wr.ownsRow w.heap.size 44 2 q C.length (fl eI eI C)) ∧ Hid (wr.ownsRow w.heap.size 3 1 k nk KV) ∧ Hid (Below w.heap.size w wr) ∧ Hid (wr.ownsRow w.heap.size 44 2 (.slice xa N xc) N (fl eI eI L)) ∧ Hid (∀ b, (Value.slice xa N xc).ownBlock = some b → q.ownBlock ≠ some b)) (fun _ _ i _ => N - (intOf i).toNat)
  case atStart => exact ⟨0, 0, [], [], Nat.zero_le _, rfl, by simp, by omega, Lib.hid (by rw [List.take_zero, List.drop_nil]), Lib.hid (by omega), Lib.hid (by rw [Nat.zero_min, List.take_zero]; rfl), H10, H20, HB2, HRO2, HSEP0⟩
  case round =>
    clear H10 H20 HB2 HRO2 HSEP0
    obtain ⟨p, nk, C, KV, hp, rfl, hCl, hnk, HCE, HNK, HKV, HQ, HK, HB, HA, HSEP⟩ := hrel
    by_cases hlt : p < N
    · obtain ⟨x, hx⟩ := HX.out p hlt
      obtain ⟨g, rfl, hg, hnc, hm, c0, c1⟩ := rows_at HA.out hx
      simp only [maxLen] at hm
      have hdu := HDU.out p x hx
      have hst := HST.out p x hx
      have hpI : (p : Int) < (N : Int) := by omega
      have hsz := HB.out.size
      obtain ⟨xk, xv⟩ := x
      simp only at c0 c1 hdu
      have HST1 := Lib.hid hst
      have hkown := HK.out
      have hqown := HQ.out
      obtain ⟨ka, kc, rfl⟩ := own_slice hkown
      obtain ⟨qa, qc, rfl⟩ := own_slice hqown
      clear hx hst
      by_cases hpm : p < m
      · have hle : xv ≤ now := hdu.2 hpm
        have HE1 : Hid (C = (L.take (p + 1)).drop m) := Lib.hid (by rw [HCE.out, List.drop_eq_nil_of_le (by rw [List.length_take]; omega), List.drop_eq_nil_of_le (by rw [List.length_take]; omega)])
        have HE2 : Hid (nk + 1 = min (p + 1) m) := Lib.hid (by rw [HNK.out]; omega)
        have HE3 : Hid (KV ++ [.int .i64 xk] = keysV (L.take (min (p + 1) m))) := Lib.hid (by rw [HKV.out, show min (p + 1) m = p + 1 by omega, show min p m = p by omega, HST1.out, keysV_snoc])
        have hnk1 : nk + 1 ≤ 1000 := by have := HE2.out; omega
        clear hdu HST1
        go_wp2_with (at_builtin; refine wpList_elem rfl (.tmp 27) (.tmp 33) rfl Try.underlying33 infoI rfl (by omega) (by omega) rfl hkown rfl rfl rfl (int_one xk) (by omega) hsz ?_; intro v' w3 hown3 hgr3 hob3)
        have HB3 := Lib.hid (below_own HB.out hkown (Nat.le_refl _) hsz hgr3)
        have HQ3 : Hid (w3.ownsRow w.heap.size 44 2 (.slice qa C.length qc) C.length (fl eI eI C)) := by
          refine Lib.hid (HQ.out.kept hgr3 ?_)
          cases hq : (Value.slice qa C.length qc).ownBlock with
          | none => exact .inl rfl
          | some b =>
            refine .inr fun e => ?_
            obtain ⟨cs, hc⟩ := own_ty HQ.out hq
            exact own_ne HK.out hc (by decide) e.symm
        have HA3 : Hid (w3.ownsRow w.heap.size 44 2 (.slice (some ⟨g, 0, none⟩) N xc) N (fl eI eI L)) := by
          refine Lib.hid (HA.out.kept hgr3 ?_)
          cases hq : (Value.slice (some ⟨g, 0, none⟩) N xc).ownBlock with
          | none => exact .inl rfl
          | some b =>
            refine .inr fun e => ?_
            obtain ⟨cs, hc⟩ := own_ty HA.out hq
            exact own_ne HK.out hc (by decide) e.symm
        have HK3 := Lib.hid hown3
        clear hown3 hgr3 hob3
        exact ⟨⟨p + 1, nk + 1, C, _, by omega, by go_num, hCl, hnk1, HE1, HE2, HE3, HQ3, HK3, HB3, HA3, HSEP⟩, by simp [intOf]; omega⟩
      · have hle : ¬ xv ≤ now := fun e => hpm (hdu.1 e)
        have HE1 : Hid (C ++ [(xk, xv)] = (L.take (p + 1)).drop m) := Lib.hid (by rw [HCE.out, HST1.out, List.drop_append_of_le_length (by rw [List.length_take, HNL.out]; omega)])
        have HE2 : Hid (nk = min (p + 1) m) := Lib.hid (by rw [HNK.out]; omega)
        have HE3 : Hid (KV = keysV (L.take (min (p + 1) m))) := Lib.hid (by rw [HKV.out, show min (p + 1) m = min p m by omega])
        have hCl2 : (C ++ [(xk, xv)]).length ≤ 100 := by rw [HE1.out]; exact HD.out (p + 1)
        clear hdu HST1
        go_wp2_with (at_builtin; refine wpList_elem rfl (.tmp 35) (.tmp 40) rfl Try.underlying25 info_row rfl (by omega) (by omega) rfl hqown rfl rfl rfl (pair_one xk xv) (by omega) hsz ?_; intro v' w3 hown3 hgr3 hob3)
        have HB3 := Lib.hid (below_own HB.out hqown (Nat.le_refl _) hsz hgr3)
        have HQ3 : Hid (w3.ownsRow w.heap.size 44 2 v' (C ++ [(xk, xv)]).length (fl eI eI (C ++ [(xk, xv)]))) := by
          rw [fl_append, List.length_append]
          exact Lib.hid hown3
        have HA3 : Hid (w3.ownsRow w.heap.size 44 2 (.slice (some ⟨g, 0, none⟩) N xc) N (fl eI eI L)) := by
          refine Lib.hid (HA.out.kept hgr3 (.inr fun e => HSEP.out g rfl e.symm))
        have HK3 : Hid (w3.ownsRow w.heap.size 3 1 (.slice ka nk kc) nk KV) := by
          refine Lib.hid (HK.out.kept hgr3 ?_)
          cases hq : (Value.slice ka nk kc).ownBlock with
          | none => exact .inl rfl
          | some b =>
            refine .inr fun e => ?_
            obtain ⟨cs, hc⟩ := own_ty HK.out hq
            exact own_ne HQ.out hc (by decide) e.symm
        have HSEP3 : Hid (∀ b, (Value.slice (some ⟨g, 0, none⟩) N xc).ownBlock = some b → v'.ownBlock ≠ some b) := Lib.hid (fun b hb e => by
          rcases hob3 with h3 | h3
          · exact HSEP.out b hb (h3.symm.trans e)
          · rw [h3] at e
            have := (HA.out.lt b hb).2
            cases e; omega)
        clear hown3 hgr3 hob3
        exact ⟨⟨p + 1, nk, _, KV, by omega, by go_num, hCl2, hnk, HE1, HE2, HE3, HQ3, HK3, HB3, HA3, HSEP3⟩, by simp [intOf]; omega⟩
    · obtain rfl : p = N := by omega
      have hq := HQ.out
      have hk := HK.out
      have e1 := HCE.out
      rw [HFIN.out] at e1
      have e2 := HNK.out
      have e3 := HKV.out
      rw [Nat.min_eq_right HRS.out] at e2 e3
      rw [e1] at hq
      rw [e2, e3] at hk
      clear e1 e2 e3
      have HQ2 := Lib.hid hq
      have HK2 := Lib.hid hk
      obtain ⟨qa, qc, rfl⟩ := own_slice hq
      obtain ⟨ka, kc, rfl⟩ := own_slice hk
      clear hq hk HQ HK HSEP
      go_wp2_with fail
      go_ret2
      exact ⟨_, _, _, _, rfl, HQ2.out, HK2.out, HB.out⟩
end Go.Proofs.Ytbabohioeeandaa
