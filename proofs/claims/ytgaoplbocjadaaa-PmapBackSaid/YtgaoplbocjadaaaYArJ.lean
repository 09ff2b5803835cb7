/- An object's entries are added. -/
import Derived.Test.YtgaoplbocjadaaaYDzl
import Derived.Test.YtgaoplbocjadaaaYArH
namespace Go.Proofs.Ytgaoplbocjadaaa
open Go.RowKit
set_option linter.unusedSimpArgs false
set_option linter.unusedVariables false
theorem addE_zero {i j k a lo hi : Int} {T : List (Int × Ent)} (h : addE i j k a lo hi [] T = 0) : okN i j = true ∧ fitsA k a lo hi (firA k a lo hi []) = 0 ∧ hasI (numI i j) T = false ∧ T.length < 512 := by
  unfold addE at h
  by_cases h1 : okN i j = false ∨ mayB k a lo hi = false
  · rw [if_pos h1] at h; cases h
  · rw [if_neg h1] at h
    have ho : okN i j = true := by
      cases hh : okN i j with
      | true => rfl
      | false => exact absurd (.inl hh) h1
    by_cases h2 : fitsA k a lo hi (firA k a lo hi []) = 0
    · rw [if_neg (fun h => h h2)] at h
      cases hh : hasI (numI i j) T with
      | true => rw [hh] at h; cases h
      | false =>
        rw [hh] at h
        by_cases h3 : 512 ≤ T.length
        · rw [if_neg (by simp), if_pos h3] at h; cases h
        · exact ⟨ho, h2, rfl, by omega⟩
    · rw [if_pos h2] at h; cases h
theorem addT_good {i j k a lo hi : Int} {T : List (Int × Ent)} (hG : Good T) : Good (addT i j k a lo hi [] T) := by
  unfold addT
  by_cases h0 : addE i j k a lo hi [] T = 0
  · rw [if_pos h0]
    obtain ⟨ho, hf, hh, hl⟩ := addE_zero h0
    have hk := of_decide_eq_true ho
    have hn := numI_yes hk
    refine ⟨rise_put _ _ _ hG.rise, by rw [putI_len_new hh]; omega, fun x hx => ?_⟩
    rcases putI_from hx with h1 | rfl
    · exact hG.ok x h1
    · exact ⟨by rw [hn]; omega, hf, firA_range (l := []) (fun y hy => by cases hy), (fits_len hf).1⟩
  · rw [if_neg h0]; exact hG
/-- What comes of an object's entries, from a Sub on; of all objects. -/
def addsR (i : Int) : Nat → List Sp → List (Int × Ent) → Int × List (Int × Ent)
  | _, [], T => (0, T)
  | s, x :: l, T => if addE i s x.1 x.2.1 x.2.2.1 x.2.2.2 [] T = 0 then addsR i (s + 1) l (addT i s x.1 x.2.1 x.2.2.1 x.2.2.2 [] T) else (addE i s x.1 x.2.1 x.2.2.1 x.2.2.2 [] T, T)
def layR : List (Int × List Sp) → List (Int × Ent) → Int × List (Int × Ent)
  | [], T => (0, T)
  | x :: r, T => if (addsR x.1 0 x.2 T).1 = 0 then layR r (addsR x.1 0 x.2 T).2 else addsR x.1 0 x.2 T
theorem addsR_good {i : Int} : ∀ (l : List Sp) (s : Nat) {T : List (Int × Ent)}, Good T → Good (addsR i s l T).2
  | [], _, _, h => h
  | x :: l, s, T, h => by
    unfold addsR
    split
    · exact addsR_good l (s + 1) (addT_good h)
    · exact h
theorem layR_good : ∀ (l : List (Int × List Sp)) {T : List (Int × Ent)}, Good T → Good (layR l T).2
  | [], _, h => h
  | x :: l, T, h => by
    unfold layR
    split
    · exact layR_good l (addsR_good _ _ h)
    · exact addsR_good _ _ h
theorem not3_S : ¬ own3 75 := by unfold own3; decide
theorem not3_O : ¬ own3 174 := by unfold own3; decide
theorem SpAt.oth {B : Nat} {w w' : World} {base : Nat} {v : Value} {l : List Sp} (h : SpAt w base v l) (ho : Oth B w w') : SpAt w' base v l := ho.own h not3_S
theorem ObAt.oth {B : Nat} {w w' : World} {base : Nat} {V : Value} {M : List Ob} (h : ObAt w base V M) (ho : Oth B w w') : ObAt w' base V M := ⟨ho.own h.row not3_O, fun m hm => (h.subs m hm).oth ho⟩
theorem spF_at : ∀ (l : List Sp) (q : Nat) (x : Sp), l[q]? = some x → ∀ j, j < 4 → (spF l)[q * 4 + j]? = (spC x)[j]?
  | [], q, x, h, _, _ => by simp at h
  | y :: l, 0, x, h, j, hj => by
    have e : y = x := by simpa using h
    subst e
    show (spC y ++ spF l)[0 * 4 + j]? = _
    rw [List.getElem?_append_left (by rw [spC_len]; omega)]; congr 1; omega
  | y :: l, q + 1, x, h, j, hj => by
    show (spC y ++ spF l)[(q + 1) * 4 + j]? = _
    rw [List.getElem?_append_right (by rw [spC_len]; omega), spC_len, show (q + 1) * 4 + j - 4 = q * 4 + j by omega]
    exact spF_at l q x (by simpa using h) j hj
/-- A row's cells. -/
theorem SpAt.at_ {w : World} {base g n c : Nat} {l : List Sp} {q : Nat} {x : Sp} (h : SpAt w base (.slice (some ⟨g, 0, none⟩) n c) l) (hx : l[q]? = some x) :
    w.cell? ⟨g, q * 4, none⟩ = some (.int .i64 x.1) ∧ w.cell? ⟨g, q * 4 + 1, none⟩ = some (.int .i64 x.2.1) ∧ w.cell? ⟨g, q * 4 + 2, none⟩ = some (.int .i64 x.2.2.1) ∧ w.cell? ⟨g, q * 4 + 3, none⟩ = some (.int .i64 x.2.2.2) := by
  have hc := SpAt.cells h
  have key : ∀ j v, j < 4 → (spC x)[j]? = some v → w.cell? ⟨g, q * 4 + j, none⟩ = some v := fun j v hj hv => by
    have := hc (q * 4 + j) v ((spF_at l q x hx j hj).trans hv)
    rwa [add_plainR, Nat.zero_add] at this
  exact ⟨key 0 _ (by omega) rfl, key 1 _ (by omega) rfl, key 2 _ (by omega) rfl, key 3 _ (by omega) rfl⟩
theorem drop_at {α : Type} {l : List α} {q : Nat} {x : α} (h : l[q]? = some x) : l.drop q = x :: l.drop (q + 1) := by
  obtain ⟨hq, rfl⟩ := List.getElem?_eq_some_iff.1 h
  exact List.drop_eq_getElem_cons hq
set_option maxRecDepth 100000 in
set_option maxHeartbeats 4000000 in
theorem arAdd_any (w : World) (B g gb n c : Nat) (T : List (Int × Ent)) (ch i : Int) (l : List Sp) (h : DictAt B g T ch w) (hG : Good T) (hB : B ≤ w.heap.size) (hn : n = l.length) (hl : l.length ≤ 100) (hnc : n ≤ c ∧ c ≤ maxLen) (hs : SpAt w B (.slice (some ⟨gb, 0, none⟩) n c) l) :
    Calls Try.prog 96 #[.pointer (some ⟨g, 0, none⟩), .int .i64 i, .slice (some ⟨gb, 0, none⟩) n c] w fun e w' => e = .returned (.int .i64 (addsR i 0 l T).1) ∧ DictAt B g (addsR i 0 l T).2 ch w' ∧ Oth B w w' := by
  have HD := Lib.hid h
  have HG := Lib.hid hG
  have HB := Lib.hid hB
  have HSP := Lib.hid hs
  have HNL := Lib.hid hn
  have HX := Lib.hid (fun q (hq : q < l.length) => show ∃ x, l[q]? = some x from ⟨_, List.getElem?_eq_getElem hq⟩)
  have hmx : n ≤ 100 := by omega
  have hcx : n ≤ c := hnc.1
  clear h hG hB hs hnc hn hl
  go_enter Try.func96, Try.ntmps96
  go_wp2_with fail
  go_loopw [12] (fun t wr => ∃ (q : Nat) (U : List (Int × Ent)), q ≤ n ∧ t = .int .i64 q ∧ Hid (addsR i 0 l T = addsR i q (l.drop q) U) ∧ Hid (Good U) ∧ Hid (DictAt B g U ch wr) ∧ Hid (Oth B w wr)) (fun t _ => n - (intOf t).toNat)
  case atStart => exact ⟨0, T, by omega, rfl, Lib.hid rfl, HG, HD, Lib.hid (Oth.of_below (Below.refl _ _) HB.out)⟩
  case round =>
    clear HD HG
    obtain ⟨q, U, hq, rfl, HR, HGU, HDU, HO⟩ := hrel
    by_cases hlt : q < n
    · obtain ⟨⟨k, a, lo, hi⟩, hx⟩ := HX.out q (by rw [← HNL.out]; exact hlt)
      have HSQ := Lib.hid (HSP.out.oth HO.out)
      obtain ⟨c0, c1, c2, c3⟩ := HSQ.out.at_ hx
      have HRQ : Hid (addsR i 0 l T = if addE i q k a lo hi [] U = 0 then addsR i (q + 1) (l.drop (q + 1)) (addT i q k a lo hi [] U) else (addE i q k a lo hi [] U, U)) := Lib.hid (by rw [HR.out, drop_at hx]; rfl)
      dsimp only at c0 c1 c2 c3
      clear HR hx HSQ
      have HNX : Hid (q + 1 ≤ n) := Lib.hid (by omega)
      go_wp2_with fail
      have hba : Below wr.heap.size wr (wr.alloc (.cells #[.int .i64 k, .int .i64 a, .int .i64 lo, .int .i64 hi] 75)) := (Below.refl _ _).alloc (Nat.le_refl _) _
      refine (at_add i q k a lo hi [] none 0 0 (HDU.out.below hba) HGU.out (Byt.nil_ _ _)).mono ?_
      rintro e w1 ⟨rfl, hd1, ho1⟩
      have HD1 := Lib.hid hd1
      have HG1 : Hid (Good (addT i q k a lo hi [] U)) := Lib.hid (addT_good HGU.out)
      have HO1 : Hid (Oth B w w1) := Lib.hid (HO.out.trans ((Oth.of_below hba (Nat.le_trans HB.out HO.out.1.size)).trans ho1))
      have HU : Hid (¬ addE i q k a lo hi [] U = 0 → addT i q k a lo hi [] U = U) := Lib.hid (fun h => by unfold addT; rw [if_neg h])
      clear hba hd1 ho1 c0 c1 c2 c3 HO HDU HGU
      generalize addT i q k a lo hi [] U = U1 at *
      generalize addE i q k a lo hi [] U = E at *
      by_cases h0 : E = 0
      · subst h0
        have HR1 : Hid (addsR i 0 l T = addsR i (q + 1) (l.drop (q + 1)) U1) := Lib.hid (by rw [HRQ.out, if_pos rfl])
        go_wp2_with fail
        exact ⟨⟨q + 1, U1, HNX.out, by go_num, HR1, HG1, HD1, HO1⟩, by simp [intOf]; omega⟩
      · have HR1 : Hid (addsR i 0 l T = (E, U1)) := Lib.hid (by rw [HRQ.out, if_neg h0, HU.out h0])
        go_wp2_with fail
        go_ret
        rw [HR1.out]
        exact ⟨rfl, HD1.out, HO1.out⟩
    · have HQ : Hid (q = l.length) := Lib.hid (by rw [← HNL.out]; omega)
      have HR2 : Hid (addsR i 0 l T = (0, U)) := Lib.hid (by rw [HR.out, HQ.out, List.drop_length]; rfl)
      go_wp2_with fail
      go_ret
      rw [HR2.out]
      exact ⟨rfl, HDU.out, HO.out⟩
end Go.Proofs.Ytgaoplbocjadaaa
namespace Go.Proofs.Ytgaoplbocjadaaa
open Go.RowKit
set_option linter.unusedSimpArgs false
set_option linter.unusedVariables false
theorem obF_at : ∀ (M : List Ob) (q : Nat) (x : Ob), M[q]? = some x → ∀ j, j < 2 → (obF M)[q * 2 + j]? = ([Value.int .i64 x.1, x.2.1] : List Value)[j]?
  | [], q, x, h, _, _ => by simp at h
  | y :: l, 0, x, h, j, hj => by
    have e : y = x := by simpa using h
    subst e
    show (([Value.int .i64 y.1, y.2.1] : List Value) ++ obF l)[0 * 2 + j]? = _
    rw [List.getElem?_append_left (by simp; omega)]; congr 1; omega
  | y :: l, q + 1, x, h, j, hj => by
    show (([Value.int .i64 y.1, y.2.1] : List Value) ++ obF l)[(q + 1) * 2 + j]? = _
    rw [List.getElem?_append_right (by simp; omega)]
    simp only [List.length_cons, List.length_nil]
    rw [show (q + 1) * 2 + j - (0 + 1 + 1) = q * 2 + j by omega]
    exact obF_at l q x (by simpa using h) j hj
theorem ObAt.at_ {w : World} {base g n c : Nat} {M : List Ob} {q : Nat} {x : Ob} (h : ObAt w base (.slice (some ⟨g, 0, none⟩) n c) M) (hx : M[q]? = some x) :
    w.cell? ⟨g, q * 2, none⟩ = some (.int .i64 x.1) ∧ w.cell? ⟨g, q * 2 + 1, none⟩ = some x.2.1 ∧ SpAt w base x.2.1 x.2.2 := by
  have hq := (List.getElem?_eq_some_iff.1 hx).1
  have hr := h.row
  rcases hr.2 with ⟨ev, _⟩ | ⟨b, cap, cur, ev, _⟩
  · cases ev
  · cases ev
    have key : ∀ j, j < 2 → w.cell? ⟨g, q * 2 + j, none⟩ = ([Value.int .i64 x.1, x.2.1] : List Value)[j]? := fun j hj => by
      rw [own_cell hr (by omega), obF_at M q x hx j hj]
    exact ⟨key 0 (by omega), key 1 (by omega), h.subs x (List.mem_of_getElem? hx)⟩
theorem objL_len : objL.length = 10 := by decide
theorem objL_ok : ∀ x ∈ objL, 0 < x.2.length ∧ x.2.length ≤ 100 := by decide
set_option maxRecDepth 100000 in
set_option maxHeartbeats 4000000 in
theorem lay_any (w : World) (B g : Nat) (T : List (Int × Ent)) (ch : Int) (h : DictAt B g T ch w) (hG : Good T) (hB : B ≤ w.heap.size) :
    Calls Try.prog 42 #[.pointer (some ⟨g, 0, none⟩)] w fun e w' => e = .returned (.int .i64 (layR objL T).1) ∧ DictAt B g (layR objL T).2 ch w' ∧ Oth B w w' := by
  have HD := Lib.hid h
  have HG := Lib.hid hG
  have HB := Lib.hid hB
  clear h hG hB
  go_enter Try.func42, Try.ntmps42
  go_wp2_with fail
  refine (objects_any _).mono ?_
  rintro e w1 ⟨V, M, rfl, hk, hob, hb1⟩
  have hml : M.length = 10 := by
    have := congrArg List.length hk
    rw [objL_len] at this
    simpa [obK] using this
  obtain ⟨gb, cap, cur, e1, hgb, hcur, hcap, hmx, -⟩ := own_some hob.row (by omega)
  rw [hml] at e1 hcap
  subst e1
  have HO0 := Lib.hid (Oth.of_below hb1 HB.out)
  have HD1 := Lib.hid (HD.out.below hb1)
  have HS1 : Hid (B ≤ w1.heap.size) := Lib.hid (Nat.le_trans HB.out hb1.size)
  have HOB : Hid (ObAt w1 B (.slice (some ⟨gb, 0, none⟩) 10 cap) M) := Lib.hid ⟨own_less hob.row HB.out, fun m hm => (hob.subs m hm).mono HB.out⟩
  have HX := Lib.hid (fun q (hq : q < 10) => show ∃ x, M[q]? = some x ∧ objL[q]? = some (x.1, x.2.2) from by
    have hq2 : q < M.length := by omega
    refine ⟨M[q], List.getElem?_eq_getElem hq2, ?_⟩
    rw [← hk, obK, List.getElem?_map, List.getElem?_eq_getElem hq2]; rfl)
  clear hk hob hb1 hml hcur hgb HB HD
  go_wp2_with fail
  go_loopw [8] (fun t wr => ∃ (q : Nat) (U : List (Int × Ent)), q ≤ 10 ∧ t = .int .i64 q ∧ Hid (layR objL T = layR (objL.drop q) U) ∧ Hid (Good U) ∧ Hid (DictAt B g U ch wr) ∧ Hid (Oth B w1 wr)) (fun t _ => 10 - (intOf t).toNat)
  case atStart => exact ⟨0, T, by omega, rfl, Lib.hid rfl, HG, HD1, Lib.hid (Oth.of_below (Below.refl _ _) HS1.out)⟩
  case round =>
    clear HD1 HG
    obtain ⟨q, U, hq, rfl, HR, HGU, HDU, HO⟩ := hrel
    by_cases hlt : q < 10
    · obtain ⟨⟨i, v, l⟩, hx, hy⟩ := HX.out q hlt
      dsimp only at hy
      have HSQ := Lib.hid (HOB.out.oth HO.out)
      obtain ⟨c0, c1, hsp⟩ := HSQ.out.at_ hx
      dsimp only at c0 c1 hsp
      have hok := objL_ok _ (List.mem_of_getElem? hy)
      dsimp only at hok
      obtain ⟨g2, cap2, cur2, rfl, -, -, hnc, hmx2, -⟩ := own_some hsp hok.1
      have HSP := Lib.hid hsp
      have HNC := Lib.hid (show l.length ≤ cap2 ∧ cap2 ≤ maxLen from ⟨hnc, hmx2⟩)
      have HRQ : Hid (layR objL T = if (addsR i 0 l U).1 = 0 then layR (objL.drop (q + 1)) (addsR i 0 l U).2 else addsR i 0 l U) := Lib.hid (by rw [HR.out, drop_at hy]; rfl)
      have HNX : Hid (q + 1 ≤ 10) := Lib.hid (by omega)
      have HL : Hid (l.length ≤ 100) := Lib.hid hok.2
      clear HR hx hy HSQ hsp hnc hmx2 hok
      generalize hn2 : l.length = n2 at *
      have HN2 := Lib.hid hn2
      clear hn2
      go_wp2_with fail
      have hba : Below wr.heap.size wr (wr.alloc (.cells #[.int .i64 i, .slice (some ⟨g2, 0, none⟩) n2 cap2] 174)) := (Below.refl _ _).alloc (Nat.le_refl _) _
      have hsb : B ≤ (wr.alloc (.cells #[.int .i64 i, .slice (some ⟨g2, 0, none⟩) n2 cap2] 174)).heap.size := Nat.le_trans (Nat.le_trans HS1.out HO.out.1.size) hba.size
      refine (arAdd_any _ B g g2 n2 cap2 U ch i l (HDU.out.below hba) HGU.out hsb HN2.out.symm (by rw [HN2.out]; exact HL.out) HNC.out (HSP.out.below hba)).mono ?_
      rintro e w3 ⟨rfl, hd3, ho3⟩
      have HD3 := Lib.hid hd3
      have HG3 : Hid (Good (addsR i 0 l U).2) := Lib.hid (addsR_good _ _ HGU.out)
      have HO3 : Hid (Oth B w1 w3) := Lib.hid (HO.out.trans ((Oth.of_below hba (Nat.le_trans HS1.out HO.out.1.size)).trans ho3))
      clear hba hsb hd3 ho3 c0 c1 HO HDU HGU
      generalize addsR i 0 l U = EU at *
      obtain ⟨E, U1⟩ := EU
      dsimp only at HRQ HD3 HG3
      by_cases h0 : E = 0
      · subst h0
        have HR1 : Hid (layR objL T = layR (objL.drop (q + 1)) U1) := Lib.hid (by rw [HRQ.out, if_pos rfl])
        go_wp2_with fail
        exact ⟨⟨q + 1, U1, HNX.out, by go_num, HR1, HG3, HD3, HO3⟩, by simp [intOf]; omega⟩
      · have HR1 : Hid (layR objL T = (E, U1)) := Lib.hid (by rw [HRQ.out, if_neg h0])
        go_wp2_with fail
        go_ret
        rw [HR1.out]
        exact ⟨rfl, HD3.out, HO0.out.trans HO3.out⟩
    · have HQ : Hid (q = 10) := Lib.hid (by omega)
      have HR2 : Hid (layR objL T = (0, U)) := Lib.hid (by rw [HR.out, HQ.out]; rfl)
      go_wp2_with fail
      go_ret
      rw [HR2.out]
      exact ⟨rfl, HDU.out, HO0.out.trans HO.out⟩
end Go.Proofs.Ytgaoplbocjadaaa
