/- Cut where keys are texts. -/
import Derived.Test.YtbabohioeeandaaTSm
namespace Go.Proofs.Ytbabohioeeandaa
open Go.RowKit

/-- The rows behind a Cut. -/
def cutS {ν : Type} (k : ByteArray) (ls : List (ByteArray × ν)) : List (ByteArray × ν) := if hasS k ls then ls.take (plcS k ls) ++ ls.drop (plcS k ls + 1) else ls
theorem cutS_no {ν : Type} {k : ByteArray} {ls : List (ByteArray × ν)} (h : hasS k ls = false) : cutS k ls = ls := by unfold cutS; rw [h]; rfl
theorem cutS_yes {ν : Type} (ev : ν → Value) {k : ByteArray} {ls : List (ByteArray × ν)} (h : hasS k ls = true) : (fl eS ev ls).take (plcS k ls * 2) ++ (fl eS ev ls).drop ((plcS k ls + 1) * 2) = fl eS ev (cutS k ls) ∧ (cutS k ls).length + 1 = ls.length := by
  obtain ⟨x, hx, _⟩ := hasS_at h
  have hlt := (List.getElem?_eq_some_iff.1 hx).1
  have e : cutS k ls = ls.take (plcS k ls) ++ ls.drop (plcS k ls + 1) := by unfold cutS; rw [h]; rfl
  rw [e, fl_take, fl_drop, fl_append]
  exact ⟨rfl, by simp; omega⟩
theorem riseS_cut {ν : Type} (k : ByteArray) (ls : List (ByteArray × ν)) (h : RiseS ls) : RiseS (cutS k ls) := by
  unfold cutS
  split
  · refine riseS_iff.2 ((riseS_iff.1 h).sublist ?_)
    rw [← List.eraseIdx_eq_take_drop_succ]
    exact List.eraseIdx_sublist _ _
  · exact h
set_option maxRecDepth 100000 in
set_option maxHeartbeats 2000000 in
theorem cutC (w : World) (base g : Nat) (ls : List (ByteArray × Int)) (v : Value) (k : ByteArray) (h : Sh 113 115 w base g ls.length (fl eS eI ls) v) (hn : ls.length ≤ 1000) (hs : RiseS ls) :
    Calls Try.prog 59 #[.pointer (some ⟨g, 0, none⟩), .string k] w (ShCut 113 115 w base g (cutS k ls).length (fl eS eI (cutS k ls)) (.int .i64 (thS 0 k ls)) (hasS k ls) v) := by
  have HG := Lib.hid (getC w base g ls v k h (by omega) hs)
  have HP := Lib.hid (fun W h => placeC W base g ls v k h (by omega) hs)
  have HX := Lib.hid h
  cases hh : hasS k ls with
  | false =>
    rw [cutS_no hh]
    rw [hh] at HG
    generalize thS 0 k ls = T at *
    clear h hs hh HP
    go_enter Try.func59, Try.ntmps59
    go_wp2_with fail
    refine HG.out.mono ?_
    rintro e w2 ⟨rfl, hb⟩
    have HX2 := Lib.hid (HX.out.below hb)
    have HB := Lib.hid hb
    clear hb
    go_wp2_with fail
    go_ret2
    exact ⟨rfl, ⟨_, HX2.out, .inl rfl⟩, Tch.of_below HB.out⟩
  | true =>
    obtain ⟨e1, e2⟩ := cutS_yes eI hh
    obtain ⟨x, hx, _⟩ := hasS_at hh
    have hlt := (List.getElem?_eq_some_iff.1 hx).1
    have hdel := fun (w : World) (h : Sh 113 115 w base g ls.length (fl eS eI ls) v) => delete_anyC w base (cutS k ls).length (plcS k ls) v (fl eS eI ls) (by rw [e2]; exact h.row) (by omega) (by omega) (fl_one eS eI (fun _ => rfl) (fun _ => rfl) ls)
    rw [e1] at hdel
    rw [hh] at HG HP
    have HD := Lib.hid hdel
    clear h hs hh hx hdel e1
    generalize thS 0 k ls = T at *
    generalize cutS k ls = ls' at *
    generalize plcS k ls = P at *
    go_enter Try.func59, Try.ntmps59
    go_wp2_with fail
    refine HG.out.mono ?_
    rintro e w2 ⟨rfl, hb⟩
    have HX2 := Lib.hid (HX.out.below hb)
    have HB := Lib.hid hb
    clear hb
    go_wp2_with fail
    refine (HP.out _ HX2.out).mono ?_
    rintro e w3 ⟨rfl, hb⟩
    have HX3 := Lib.hid (HX2.out.below hb)
    have HB3 := Lib.hid (kF hb HB.out)
    have c0 := HX3.out.cell
    have hl := HX3.out.lt
    clear hb
    go_wp2_with fail
    refine (HD.out _ HX3.out).mono ?_
    rintro e w4 ⟨v', rfl, hrow, hgr, hob⟩
    obtain ⟨a', c', rfl⟩ := own_slice hrow
    generalize hvv : Value.slice a' ls'.length c' = v' at hrow hob
    have e1 : w4.heap[g]? = w3.heap[g]? := hgr.block g hl (fun e => HX3.out.isnt e.symm)
    have c4 : w4.cell? ⟨g, 0, none⟩ = some v := by rw [cell_of_row _ _ _ _ _ _ (e1.trans HX3.out.box)]; rfl
    have f4 : w4.frozen? ⟨g, 0, none⟩ = false := frozen_of_row _ _ _ _ _ (e1.trans HX3.out.box)
    have hi : v'.ownBlock ≠ some g := by
      rcases hob with h | ⟨b, h, hb⟩
      · rw [h]; exact HX3.out.isnt
      · rw [h]; intro e; cases e; omega
    have HR := Lib.hid (HX3.out.put hrow e1 hi)
    have HT := Lib.hid (((Tch.of_below HB3.out : Tch w w3 g v).grown hgr).set 0 v')
    have HO := Lib.hid (show v'.ownBlock = v.ownBlock ∨ ∃ b, v'.ownBlock = some b ∧ w.heap.size ≤ b from hob.imp id fun ⟨b, h, hb⟩ => ⟨b, h, Nat.le_trans HB3.out.size hb⟩)
    clear hrow hgr hob e1 hi c0
    subst hvv
    go_wp2_with fail
    go_ret2
    exact ⟨rfl, ⟨_, HR.out, HO.out⟩, HT.out⟩
end Go.Proofs.Ytbabohioeeandaa
