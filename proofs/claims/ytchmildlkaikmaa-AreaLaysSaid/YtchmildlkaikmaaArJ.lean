/- Lay. -/
import Derived.Test.YtchmildlkaikmaaArI
namespace Go.Proofs.Ytchmildlkaikmaa
open Go.RowKit
set_option linter.unusedSimpArgs false
set_option linter.unusedVariables false
theorem obF_at : ∀ (M : List Ob) (q : Nat) (x : Ob), M[q]? = some x → ∀ j, j < 2 → (obF M)[q * 2 + j]? = ([Value.int .i64 x.1, x.2.1] : List Value)[j]?
  | [], q, x, h, _, _ => by simp at h
  | y :: l, 0, x, h, j, hj => by
    have e : y = x := by simpa using h
    subst e
    show (([Value.int .i64 y.1, y.2.1] : List Value) ++ obF l)[0 * 2 + j]? = _
    rw [List.getElem?_append_left (by simp; omega)]; congr 1; omega
  | y :: l, q + 1, x, h, j, hj => by
    show (([Value.int .i64 y.1, y.2.1] : List Value) ++ obF l)[(q + 1) * 2 + j]? = _
    rw [List.getElem?_append_right (by simp; omega)]
    simp only [List.length_cons, List.length_nil]
    rw [show (q + 1) * 2 + j - (0 + 1 + 1) = q * 2 + j by omega]
    exact obF_at l q x (by simpa using h) j hj
theorem ObAt.at_ {w : World} {base g n c : Nat} {M : List Ob} {q : Nat} {x : Ob} (h : ObAt w base (.slice (some ⟨g, 0, none⟩) n c) M) (hx : M[q]? = some x) :
    w.cell? ⟨g, q * 2, none⟩ = some (.int .i64 x.1) ∧ w.cell? ⟨g, q * 2 + 1, none⟩ = some x.2.1 ∧ SpAt w base x.2.1 x.2.2 := by
  have hq := (List.getElem?_eq_some_iff.1 hx).1
  have hr := h.row
  rcases hr.2 with ⟨ev, _⟩ | ⟨b, cap, cur, ev, _⟩
  · cases ev
  · cases ev
    have key : ∀ j, j < 2 → w.cell? ⟨g, q * 2 + j, none⟩ = ([Value.int .i64 x.1, x.2.1] : List Value)[j]? := fun j hj => by
      rw [own_cell hr (by omega), obF_at M q x hx j hj]
    exact ⟨key 0 (by omega), key 1 (by omega), h.subs x (List.mem_of_getElem? hx)⟩
theorem objL_len : objL.length = 10 := by decide
theorem objL_ok : ∀ x ∈ objL, 0 < x.2.length ∧ x.2.length ≤ 100 := by decide
set_option maxRecDepth 100000 in
set_option maxHeartbeats 4000000 in
theorem lay_any (w : World) (B g : Nat) (T : List (Int × Ent)) (ch : Int) (h : DictAt B g T ch w) (hG : Good T) (hB : B ≤ w.heap.size) :
    Calls Try.prog 11 #[.pointer (some ⟨g, 0, none⟩)] w fun e w' => e = .returned (.int .i64 (layR objL T).1) ∧ DictAt B g (layR objL T).2 ch w' ∧ Oth B w w' := by
  have HD := Lib.hid h
  have HG := Lib.hid hG
  have HB := Lib.hid hB
  clear h hG hB
  go_enter Try.func11, Try.ntmps11
  go_wp2_with fail
  refine (objects_any _).mono ?_
  rintro e w1 ⟨V, M, rfl, hk, hob, hb1⟩
  have hml : M.length = 10 := by
    have := congrArg List.length hk
    rw [objL_len] at this
    simpa [obK] using this
  obtain ⟨gb, cap, cur, e1, hgb, hcur, hcap, hmx, -⟩ := own_some hob.row (by omega)
  rw [hml] at e1 hcap
  subst e1
  have HO0 := Lib.hid (Oth.of_below hb1 HB.out)
  have HD1 := Lib.hid (HD.out.below hb1)
  have HS1 : Hid (B ≤ w1.heap.size) := Lib.hid (Nat.le_trans HB.out hb1.size)
  have HOB : Hid (ObAt w1 B (.slice (some ⟨gb, 0, none⟩) 10 cap) M) := Lib.hid ⟨own_less hob.row HB.out, fun m hm => (hob.subs m hm).mono HB.out⟩
  have HX := Lib.hid (fun q (hq : q < 10) => show ∃ x, M[q]? = some x ∧ objL[q]? = some (x.1, x.2.2) from by
    have hq2 : q < M.length := by omega
    refine ⟨M[q], List.getElem?_eq_getElem hq2, ?_⟩
    rw [← hk, obK, List.getElem?_map, List.getElem?_eq_getElem hq2]; rfl)
  clear hk hob hb1 hml hcur hgb HB HD
  go_wp2_with fail
  go_loopw [8] (fun t wr => ∃ (q : Nat) (U : List (Int × Ent)), q ≤ 10 ∧ t = .int .i64 q ∧ Hid (layR objL T = layR (objL.drop q) U) ∧ Hid (Good U) ∧ Hid (DictAt B g U ch wr) ∧ Hid (Oth B w1 wr)) (fun t _ => 10 - (intOf t).toNat)
  case atStart => exact ⟨0, T, by omega, rfl, Lib.hid rfl, HG, HD1, Lib.hid (Oth.of_below (Below.refl _ _) HS1.out)⟩
  case round =>
    clear HD1 HG
    obtain ⟨q, U, hq, rfl, HR, HGU, HDU, HO⟩ := hrel
    by_cases hlt : q < 10
    · obtain ⟨⟨i, v, l⟩, hx, hy⟩ := HX.out q hlt
      dsimp only at hy
      have HSQ := Lib.hid (HOB.out.oth HO.out)
      obtain ⟨c0, c1, hsp⟩ := HSQ.out.at_ hx
      dsimp only at c0 c1 hsp
      have hok := objL_ok _ (List.mem_of_getElem? hy)
      dsimp only at hok
      obtain ⟨g2, cap2, cur2, rfl, -, -, hnc, hmx2, -⟩ := own_some hsp hok.1
      have HSP := Lib.hid hsp
      have HNC := Lib.hid (show l.length ≤ cap2 ∧ cap2 ≤ maxLen from ⟨hnc, hmx2⟩)
      have HRQ : Hid (layR objL T = if (addsR i 0 l U).1 = 0 then layR (objL.drop (q + 1)) (addsR i 0 l U).2 else addsR i 0 l U) := Lib.hid (by rw [HR.out, drop_at hy]; rfl)
      have HNX : Hid (q + 1 ≤ 10) := Lib.hid (by omega)
      have HL : Hid (l.length ≤ 100) := Lib.hid hok.2
      clear HR hx hy HSQ hsp hnc hmx2 hok
      generalize hn2 : l.length = n2 at *
      have HN2 := Lib.hid hn2
      clear hn2
      go_wp2_with fail
      have hba : Below wr.heap.size wr (wr.alloc (.cells #[.int .i64 i, .slice (some ⟨g2, 0, none⟩) n2 cap2] 92)) := (Below.refl _ _).alloc (Nat.le_refl _) _
      have hsb : B ≤ (wr.alloc (.cells #[.int .i64 i, .slice (some ⟨g2, 0, none⟩) n2 cap2] 92)).heap.size := Nat.le_trans (Nat.le_trans HS1.out HO.out.1.size) hba.size
      refine (arAdd_any _ B g g2 n2 cap2 U ch i l (HDU.out.below hba) HGU.out hsb HN2.out.symm (by rw [HN2.out]; exact HL.out) HNC.out (HSP.out.below hba)).mono ?_
      rintro e w3 ⟨rfl, hd3, ho3⟩
      have HD3 := Lib.hid hd3
      have HG3 : Hid (Good (addsR i 0 l U).2) := Lib.hid (addsR_good _ _ HGU.out)
      have HO3 : Hid (Oth B w1 w3) := Lib.hid (HO.out.trans ((Oth.of_below hba (Nat.le_trans HS1.out HO.out.1.size)).trans ho3))
      clear hba hsb hd3 ho3 c0 c1 HO HDU HGU
      generalize addsR i 0 l U = EU at *
      obtain ⟨E, U1⟩ := EU
      dsimp only at HRQ HD3 HG3
      by_cases h0 : E = 0
      · subst h0
        have HR1 : Hid (layR objL T = layR (objL.drop (q + 1)) U1) := Lib.hid (by rw [HRQ.out, if_pos rfl])
        go_wp2_with fail
        exact ⟨⟨q + 1, U1, HNX.out, by go_num, HR1, HG3, HD3, HO3⟩, by simp [intOf]; omega⟩
      · have HR1 : Hid (layR objL T = (E, U1)) := Lib.hid (by rw [HRQ.out, if_neg h0])
        go_wp2_with fail
        go_ret
        rw [HR1.out]
        exact ⟨rfl, HD3.out, HO0.out.trans HO3.out⟩
    · have HQ : Hid (q = 10) := Lib.hid (by omega)
      have HR2 : Hid (layR objL T = (0, U)) := Lib.hid (by rw [HR.out, HQ.out]; rfl)
      go_wp2_with fail
      go_ret
      rw [HR2.out]
      exact ⟨rfl, HDU.out, HO0.out.trans HO.out⟩
end Go.Proofs.Ytchmildlkaikmaa
