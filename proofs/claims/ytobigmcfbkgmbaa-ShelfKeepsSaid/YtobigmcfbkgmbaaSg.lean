/- What must be whatever is asked of tables. -/
import Derived.Test.YtobigmcfbkgmbaaSf
namespace Go.Proofs.Ytobigmcfbkgmbaa
open Go.RowKit

def tA : ByteArray := ⟨#[97]⟩
def tB : ByteArray := ⟨#[98]⟩
def tC : ByteArray := ⟨#[99]⟩
set_option maxRecDepth 100000 in
set_option maxHeartbeats 4000000 in
theorem live_any (w : World) : Calls Try.prog 17 #[] w fun e w' => e = .returned (.bool true) ∧ Below w.heap.size w w' := by
  have r1 : Rise [((5 : Int), tA)] := rise_put 5 tA [] rise_nil
  have r2 : Rise [((3 : Int), tB), (5, tA)] := rise_put 3 tB _ r1
  have r3 : Rise [((3 : Int), tB), (5, tC)] := rise_put 5 tC _ r2
  have hp1 := fun (W : World) g (h : TabAt 77 79 w g 0 [] W) => tab_putB w W g [] 5 tA h (by simp) rise_nil
  have hp2 := fun (W : World) g h => tab_putB w W g [(5, tA)] 3 tB h (by simp) r1
  have hp3 := fun (W : World) g h => tab_putB w W g [(3, tB), (5, tA)] 5 tC h (by simp) r2
  have hpl := fun (W : World) g h => tab_placeB w W g [(3, tB), (5, tC)] 4 h (by simp) r3
  have hgt := fun (W : World) g h => tab_getB w W g [(3, tB), (5, tC)] 5 h (by simp) r3
  have hln := fun (W : World) g h => tab_lenB w W g 2 (fl eI eS [(3, tB), (5, tC)]) h
  have e1 : putI 5 tA ([] : List (Int × ByteArray)) = [(5, tA)] := rfl
  have e2 : putI 3 tB [((5 : Int), tA)] = [(3, tB), (5, tA)] := rfl
  have e3 : putI 5 tC [((3 : Int), tB), (5, tA)] = [(3, tB), (5, tC)] := rfl
  have b1 : hasI 5 ([] : List (Int × ByteArray)) = false := rfl
  have b2 : hasI 3 [((5 : Int), tA)] = false := rfl
  have b3 : hasI 5 [((3 : Int), tB), (5, tA)] = true := rfl
  have b4 : hasI 4 [((3 : Int), tB), (5, tC)] = false := rfl
  have b5 : hasI 5 [((3 : Int), tB), (5, tC)] = true := rfl
  have p4 : plcI 4 [((3 : Int), tB), (5, tC)] = 1 := rfl
  have t5 : thI ByteArray.empty 5 [((3 : Int), tB), (5, tC)] = tC := rfl
  rw [e1, b1] at hp1
  rw [e2, b2] at hp2
  rw [e3, b3] at hp3
  rw [b4, p4] at hpl
  rw [b5, t5] at hgt
  simp only [List.length_cons, List.length_nil, Nat.zero_add, Nat.reduceAdd] at hp1 hp2 hp3 hpl hgt hln
  generalize fl eI eS [(5, tA)] = c1 at *
  generalize fl eI eS [(3, tB), (5, tA)] = c2 at *
  generalize fl eI eS [(3, tB), (5, tC)] = c3 at *
  have HP1 := Lib.hid hp1
  have HP2 := Lib.hid hp2
  have HP3 := Lib.hid hp3
  have HPL := Lib.hid hpl
  have HGT := Lib.hid hgt
  have HLN := Lib.hid hln
  simp only [tA, tB, tC] at HP1 HP2 HP3 HGT
  clear hp1 hp2 hp3 hpl hgt hln e1 e2 e3 b1 b2 b3 b4 b5 p4 t5 r1 r2 r3
  go_enter Try.func17, Try.ntmps17
  go_wp2_with fail
  refine (tab_newB w w (Below.refl _ _)).mono ?_
  rintro e w1 ⟨rfl, hx, _⟩
  have HX := Lib.hid hx
  clear hx
  go_wp2_with fail
  refine (HP1.out _ _ HX.out).mono ?_
  rintro e w2 ⟨rfl, hx, hk⟩
  clear HX
  have HX := Lib.hid hx
  clear hx hk
  go_wp2_with fail
  refine (HP2.out _ _ HX.out).mono ?_
  rintro e w3 ⟨rfl, hx, hk⟩
  clear HX
  have HX := Lib.hid hx
  clear hx hk
  go_wp2_with fail
  refine (HP3.out _ _ HX.out).mono ?_
  rintro e w4 ⟨rfl, hx, hk⟩
  clear HX
  have HX := Lib.hid hx
  clear hx hk
  go_wp2_with fail
  refine (HPL.out _ _ HX.out).mono ?_
  rintro e w5 ⟨rfl, hx, hk⟩
  clear HX
  have HX := Lib.hid hx
  clear hx hk
  go_wp2_with fail
  refine (HGT.out _ _ HX.out).mono ?_
  rintro e w6 ⟨rfl, hx, hk⟩
  clear HX
  have HX := Lib.hid hx
  clear hx hk
  go_wp2_with fail
  refine (HLN.out _ _ HX.out).mono ?_
  rintro e w7 ⟨rfl, rfl⟩
  go_wp2_with fail
  go_ret
  exact ⟨rfl, HX.out.below⟩
end Go.Proofs.Ytobigmcfbkgmbaa
