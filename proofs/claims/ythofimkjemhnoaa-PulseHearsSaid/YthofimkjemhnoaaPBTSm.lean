/- Cut and At where keys and things are numbers. -/
import Derived.Test.YthofimkjemhnoaaPBTSf
namespace Go.Proofs.Ythofimkjemhnoaa
open Go.RowKit
set_option linter.unusedSimpArgs false
set_option linter.unusedVariables false
/-- The rows behind a Cut. -/
def cutI {ν : Type} (k : Int) (ls : List (Int × ν)) : List (Int × ν) := if hasI k ls then ls.take (plcI k ls) ++ ls.drop (plcI k ls + 1) else ls
theorem cutI_no {ν : Type} {k : Int} {ls : List (Int × ν)} (h : hasI k ls = false) : cutI k ls = ls := by unfold cutI; rw [h]; rfl
theorem cutI_yes {ν : Type} (ev : ν → Value) {k : Int} {ls : List (Int × ν)} (h : hasI k ls = true) : (fl eI ev ls).take (plcI k ls * 2) ++ (fl eI ev ls).drop ((plcI k ls + 1) * 2) = fl eI ev (cutI k ls) ∧ (cutI k ls).length + 1 = ls.length := by
  obtain ⟨x, hx, _⟩ := hasI_at h
  have hlt := (List.getElem?_eq_some_iff.1 hx).1
  have e : cutI k ls = ls.take (plcI k ls) ++ ls.drop (plcI k ls + 1) := by unfold cutI; rw [h]; rfl
  rw [e, fl_take, fl_drop, fl_append]
  exact ⟨rfl, by simp; omega⟩
theorem rise_cut {ν : Type} (k : Int) (ls : List (Int × ν)) (h : Rise ls) : Rise (cutI k ls) := by
  unfold cutI
  split
  · refine rise_iff.2 ((rise_iff.1 h).sublist ?_)
    rw [← List.eraseIdx_eq_take_drop_succ]
    exact List.eraseIdx_sublist _ _
  · exact h
/-- What Cut makes of a table. -/
structure ShCut (tb tr : Nat) (w : World) (base g n : Nat) (cs : List Value) (th : Value) (r : Bool) (v : Value) (e : Ending) (w' : World) : Prop where
  code : e = .returned (.tuple #[th, .bool r])
  goes : ∃ v', Sh tb tr w' base g n cs v' ∧ (v'.ownBlock = v.ownBlock ∨ ∃ b, v'.ownBlock = some b ∧ w.heap.size ≤ b)
  touch : Tch w w' g v
set_option maxRecDepth 100000 in
set_option maxHeartbeats 2000000 in
theorem cutA (w : World) (base g : Nat) (ls : List (Int × Int)) (v : Value) (k : Int) (h : Sh 90 98 w base g ls.length (fl eI eI ls) v) (hn : ls.length ≤ 1000) (hs : Rise ls) :
    Calls Try.prog 44 #[.pointer (some ⟨g, 0, none⟩), .int .i64 k] w (ShCut 90 98 w base g (cutI k ls).length (fl eI eI (cutI k ls)) (.int .i64 (thI 0 k ls)) (hasI k ls) v) := by
  have HG := Lib.hid (getA w base g ls v k h (by omega) hs)
  have HP := Lib.hid (fun W h => placeA W base g ls v k h (by omega) hs)
  have HX := Lib.hid h
  cases hh : hasI k ls with
  | false =>
    rw [cutI_no hh]
    rw [hh] at HG
    generalize thI 0 k ls = T at *
    clear h hs hh HP
    go_enter Try.func44, Try.ntmps44
    go_wp2_with fail
    refine HG.out.mono ?_
    rintro e w2 ⟨rfl, hb⟩
    have HX2 := Lib.hid (HX.out.below hb)
    have HB := Lib.hid hb
    clear hb
    go_wp2_with fail
    go_ret2
    exact ⟨rfl, ⟨_, HX2.out, .inl rfl⟩, Tch.of_below HB.out⟩
  | true =>
    obtain ⟨e1, e2⟩ := cutI_yes eI hh
    obtain ⟨x, hx, _⟩ := hasI_at hh
    have hlt := (List.getElem?_eq_some_iff.1 hx).1
    have hdel := fun (w : World) (h : Sh 90 98 w base g ls.length (fl eI eI ls) v) => delete_any w base (cutI k ls).length (plcI k ls) v (fl eI eI ls) (by rw [e2]; exact h.row) (by omega) (by omega) (fl_one eI eI (fun _ => rfl) (fun _ => rfl) ls)
    rw [e1] at hdel
    rw [hh] at HG HP
    have HD := Lib.hid hdel
    clear h hs hh hx hdel e1
    generalize thI 0 k ls = T at *
    generalize cutI k ls = ls' at *
    generalize plcI k ls = P at *
    go_enter Try.func44, Try.ntmps44
    go_wp2_with fail
    refine HG.out.mono ?_
    rintro e w2 ⟨rfl, hb⟩
    have HX2 := Lib.hid (HX.out.below hb)
    have HB := Lib.hid hb
    clear hb
    go_wp2_with fail
    refine (HP.out _ HX2.out).mono ?_
    rintro e w3 ⟨rfl, hb⟩
    have HX3 := Lib.hid (HX2.out.below hb)
    have HB3 := Lib.hid (kF hb HB.out)
    have c0 := HX3.out.cell
    have hl := HX3.out.lt
    clear hb
    go_wp2_with fail
    refine (HD.out _ HX3.out).mono ?_
    rintro e w4 ⟨v', rfl, hrow, hgr, hob⟩
    obtain ⟨a', c', rfl⟩ := own_slice hrow
    generalize hvv : Value.slice a' ls'.length c' = v' at hrow hob
    have e1 : w4.heap[g]? = w3.heap[g]? := hgr.block g hl (fun e => HX3.out.isnt e.symm)
    have c4 : w4.cell? ⟨g, 0, none⟩ = some v := by rw [cell_of_row _ _ _ _ _ _ (e1.trans HX3.out.box)]; rfl
    have f4 : w4.frozen? ⟨g, 0, none⟩ = false := frozen_of_row _ _ _ _ _ (e1.trans HX3.out.box)
    have hi : v'.ownBlock ≠ some g := by
      rcases hob with h | ⟨b, h, hb⟩
      · rw [h]; exact HX3.out.isnt
      · rw [h]; intro e; cases e; omega
    have HR := Lib.hid (HX3.out.put hrow e1 hi)
    have HT := Lib.hid (((Tch.of_below HB3.out : Tch w w3 g v).grown hgr).set 0 v')
    have HO := Lib.hid (show v'.ownBlock = v.ownBlock ∨ ∃ b, v'.ownBlock = some b ∧ w.heap.size ≤ b from hob.imp id fun ⟨b, h, hb⟩ => ⟨b, h, Nat.le_trans HB3.out.size hb⟩)
    clear hrow hgr hob e1 hi c0
    subst hvv
    go_wp2_with fail
    go_ret2
    exact ⟨rfl, ⟨_, HR.out, HO.out⟩, HT.out⟩
end Go.Proofs.Ythofimkjemhnoaa