/- ShelfPlaces, walked. -/
import Derived.Test.YtobigmcfbkgmbaaSr
namespace Go.Proofs.Ytobigmcfbkgmbaa
open Go.RowKit

theorem wf_int {a : Int} (h : (Lit.int .i64 a).wf = true) : -9223372036854775808 ≤ a ∧ a ≤ 9223372036854775807 := by have := bounds_i64 h; omega
/-- A table as a loop holds it. -/
def TA (w : World) (T : List (Int × Int)) (g : Nat) (wr : World) : Prop := TabAt 53 59 w g T.length (fl eI eI T) wr
set_option maxRecDepth 100000 in
set_option maxHeartbeats 2000000 in
theorem shelfPlaces_walk (A0 : Option Addr) (n c0 : Nat) (ds : Nat → D3) (i : Int) (w : World) (h : Deeds w w.heap.size A0 n c0 ds) (hi : -9223372036854775808 ≤ i ∧ i ≤ 9223372036854775807) :
    Calls Try.prog 4 #[.slice A0 n c0, .int .i64 i] w fun e w' => e = .returned (.bool true) ∧ Below w.heap.size w w' := by
  have HPL := Lib.hid (played_any A0 n c0 ds w h)
  clear h
  go_enter Try.func4, Try.ntmps4
  go_wp2_with fail
  refine HPL.out.mono ?_
  rintro e w1 ⟨T, R, g, vr, hT, rfl, hP⟩
  obtain ⟨ra, rc, rfl⟩ := own_slice hP.row
  have HX := Lib.hid (show TA w T g w1 from hP.tab)
  have HR := Lib.hid hP.tie.rise
  clear hP HPL
  have hsl := fun (W : World) (h : TA w T g W) => tab_lenA w W g T.length (fl eI eI T) h
  have hat := fun (W : World) (p : Nat) (x : Int × Int) (h : TA w T g W) (hx : T[p]? = some x) => show Calls Try.prog 19 #[.pointer (some ⟨g, 0, none⟩), .int .i64 (p : Nat)] W fun e w' => e = .returned (.tuple #[.int .i64 x.1, .int .i64 x.2, .bool true]) ∧ TA w T g w' from tab_atA w W g p T x h (by omega) hx
  have hno := fun (W : World) (q : Int) (h : TA w T g W) (hq : q < 0 ∨ (T.length : Int) ≤ q) => show Calls Try.prog 19 #[.pointer (some ⟨g, 0, none⟩), .int .i64 q] W fun e w' => e = .returned (.tuple #[.int .i64 0, .int .i64 0, .bool false]) ∧ TA w T g w' from tab_atA_no w W g T.length q (fl eI eI T) h hq
  have hge := fun (W : World) (p : Nat) (x : Int × Int) (h : TA w T g W) (hx : T[p]? = some x) => show Calls Try.prog 14 #[.pointer (some ⟨g, 0, none⟩), .int .i64 x.1] W fun e w' => e = .returned (.tuple #[.int .i64 x.2, .bool true]) ∧ TA w T g w' from by
    have ht := thI_of (z := 0) HR.out hx
    have hg := tab_getA w W g T x.1 h (by omega) HR.out
    rw [ht.2.1, ht.2.2] at hg
    exact hg.mono fun e w' ⟨a, b, _⟩ => ⟨a, b⟩
  have hpl := fun (W : World) (p : Nat) (x : Int × Int) (h : TA w T g W) (hx : T[p]? = some x) => show Calls Try.prog 16 #[.pointer (some ⟨g, 0, none⟩), .int .i64 x.1] W fun e w' => e = .returned (.tuple #[.int .i64 (p : Nat), .bool true]) ∧ TA w T g w' from by
    have ht := thI_of (z := 0) HR.out hx
    have hg := tab_placeA w W g T x.1 h (by omega) HR.out
    rw [ht.2.1, ht.1] at hg
    exact hg.mono fun e w' ⟨a, b, _⟩ => ⟨a, b⟩
  have hxs := fun p (hp : p < T.length) => show ∃ x, T[p]? = some x from ⟨_, List.getElem?_eq_getElem hp⟩
  generalize T.length = L at *
  have HSL := Lib.hid hsl
  have HAT := Lib.hid hat
  have HNO := Lib.hid hno
  have HGE := Lib.hid hge
  have HPP := Lib.hid hpl
  have HXS := Lib.hid hxs
  clear hsl hat hno hge hpl hxs
  go_wp2_with fail
  go_loopw [8] (fun i wr => ∃ p : Nat, p ≤ L ∧ i = .int .i64 p ∧ Hid (TA w T g wr)) (fun i _ => L - (intOf i).toNat)
  case atStart => exact ⟨0, Nat.zero_le _, rfl, HX⟩
  case round =>
    clear HX
    obtain ⟨p, hp, rfl, HX⟩ := hrel
    by_cases hlt : p < L
    · obtain ⟨x, hx⟩ := HXS.out p hlt
      have hA := fun W h => HAT.out W p x h hx
      have hG := fun W h => HGE.out W p x h hx
      have hP := fun W h => HPP.out W p x h hx
      have hpI : (p : Int) < (L : Int) := by omega
      have hlast : p = 0 ∨ ∃ q y, p = q + 1 ∧ T[q]? = some y ∧ y.1 < x.1 := by
        rcases Nat.eq_zero_or_pos p with h0 | h0
        · exact .inl h0
        · obtain ⟨y, hy⟩ := HXS.out (p - 1) (by omega)
          exact .inr ⟨p - 1, y, by omega, hy, HR.out (p - 1) p y x (by omega) hy hx⟩
      have HLA := Lib.hid hlast
      obtain ⟨xk, xv⟩ := x
      have HA := Lib.hid hA
      have HG := Lib.hid hG
      have HP := Lib.hid hP
      clear hx hA hG hP hlast
      go_wp2_with fail
      refine (HSL.out _ HX.out).mono ?_
      rintro e w2 ⟨rfl, rfl⟩
      go_wp2_with fail
      refine (HA.out _ HX.out).mono ?_
      rintro e w3 ⟨rfl, hx⟩
      have HX3 := Lib.hid (show TA w T g w3 from hx)
      clear hx HX
      go_wp2_with fail
      refine (HG.out _ HX3.out).mono ?_
      rintro e w4 ⟨rfl, hx⟩
      have HX4 := Lib.hid (show TA w T g w4 from hx)
      clear hx HX3
      go_wp2_with fail
      refine (HP.out _ HX4.out).mono ?_
      rintro e w5 ⟨rfl, hx⟩
      have HX5 := Lib.hid (show TA w T g w5 from hx)
      clear hx HX4
      rcases HLA.out with h0 | ⟨q, y, h0, hy, hlty⟩
      · have hN := HNO.out _ ((p : Int) - 1) HX5.out (.inl (by omega))
        have HN := Lib.hid hN
        clear hN h0
        go_wp2_with fail
        refine HN.out.mono ?_
        rintro e w6 ⟨rfl, hx⟩
        have HX6 := Lib.hid (show TA w T g w6 from hx)
        clear hx HX5
        go_wp2_with fail
        exact ⟨⟨p + 1, by omega, by go_num, HX6⟩, by simp [intOf]; omega⟩
      · have hN := HAT.out _ q y HX5.out hy
        have hq : (q : Int) = (p : Int) - 1 := by omega
        rw [hq] at hN
        obtain ⟨yk, yv⟩ := y
        have hnl : ¬ xk ≤ yk := by simp only at hlty; omega
        have HN := Lib.hid hN
        clear hN h0 hq hy hlty
        go_wp2_with fail
        refine HN.out.mono ?_
        rintro e w6 ⟨rfl, hx⟩
        have HX6 := Lib.hid (show TA w T g w6 from hx)
        clear hx HX5
        go_wp2_with fail
        exact ⟨⟨p + 1, by omega, by go_num, HX6⟩, by simp [intOf]; omega⟩
    · have hpI : ¬ ((p : Int) < (L : Int)) := by omega
      obtain rfl : p = L := by omega
      by_cases hr : 0 ≤ i ∧ i < (p : Int)
      · obtain ⟨q, rfl⟩ := Int.eq_ofNat_of_zero_le hr.1
        obtain ⟨x, hx⟩ := HXS.out q (by omega)
        have HA := Lib.hid (fun W h => HAT.out W q x h hx)
        obtain ⟨xk, xv⟩ := x
        have hqI : (q : Int) < (p : Int) := hr.2
        clear hx hr
        go_wp2_with fail
        refine (HSL.out _ HX.out).mono ?_
        rintro e w2 ⟨rfl, rfl⟩
        go_wp2_with fail
        refine (HA.out _ HX.out).mono ?_
        rintro e w3 ⟨rfl, hx⟩
        have HX3 := Lib.hid (show TA w T g w3 from hx)
        clear hx HX
        go_wp2_with fail
        refine (live_any _).mono ?_
        rintro e w4 ⟨rfl, hb⟩
        have HX4 := Lib.hid (show TA w T g w4 from HX3.out.step hb)
        clear hb HX3
        go_wp2_with fail
        refine (HSL.out _ HX4.out).mono ?_
        rintro e w5 ⟨rfl, rfl⟩
        go_wp2_with fail
        go_ret
        exact ⟨rfl, HX4.out.below⟩
      · have HN := Lib.hid (fun W h => HNO.out W i h (by omega))
        rcases Int.lt_or_le i 0 with h0 | h0
        · have h1 : ¬ 0 ≤ i := by omega
          clear hr
          go_wp2_with fail
          refine (HSL.out _ HX.out).mono ?_
          rintro e w2 ⟨rfl, rfl⟩
          go_wp2_with fail
          refine (HN.out _ HX.out).mono ?_
          rintro e w3 ⟨rfl, hx⟩
          have HX3 := Lib.hid (show TA w T g w3 from hx)
          clear hx HX
          go_wp2_with fail
          refine (live_any _).mono ?_
          rintro e w4 ⟨rfl, hb⟩
          have HX4 := Lib.hid (show TA w T g w4 from HX3.out.step hb)
          clear hb HX3
          go_wp2_with fail
          go_ret
          exact ⟨rfl, HX4.out.below⟩
        · have h1 : ¬ i < (p : Int) := by omega
          clear hr
          go_wp2_with fail
          refine (HSL.out _ HX.out).mono ?_
          rintro e w2 ⟨rfl, rfl⟩
          go_wp2_with fail
          refine (HN.out _ HX.out).mono ?_
          rintro e w3 ⟨rfl, hx⟩
          have HX3 := Lib.hid (show TA w T g w3 from hx)
          clear hx HX
          go_wp2_with fail
          refine (live_any _).mono ?_
          rintro e w4 ⟨rfl, hb⟩
          have HX4 := Lib.hid (show TA w T g w4 from HX3.out.step hb)
          clear hb HX3
          go_wp2_with fail
          refine (HSL.out _ HX4.out).mono ?_
          rintro e w5 ⟨rfl, rfl⟩
          go_wp2_with fail
          go_ret
          refine ⟨?_, HX4.out.below⟩
          have HH := Lib.hid h1
          clear h1
          have h1 : decide (i < (p : Int)) = false := by simpa using HH.out
          simp [h1]
end Go.Proofs.Ytobigmcfbkgmbaa
