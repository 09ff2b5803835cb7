/- At and Cut of tables of numbers as a statement holds them. -/
import Derived.Test.YtobigmcfbkgmbaaSm
namespace Go.Proofs.Ytobigmcfbkgmbaa
open Go.RowKit

set_option maxRecDepth 100000 in
set_option maxHeartbeats 2000000 in
theorem atA (w : World) (base g i : Nat) (ls : List (Int × Int)) (v : Value) (x : Int × Int) (h : Sh 53 59 w base g ls.length (fl eI eI ls) v) (hn : ls.length ≤ 1000) (hx : ls[i]? = some x) :
    Calls Try.prog 19 #[.pointer (some ⟨g, 0, none⟩), .int .i64 (i : Nat)] w fun e w' => e = .returned (.tuple #[.int .i64 x.1, .int .i64 x.2, .bool true]) ∧ Below w.heap.size w w' := by
  have hlt := (List.getElem?_eq_some_iff.1 hx).1
  have hk := fl_key eI eI ls i x hx
  have hv := fl_val eI eI ls i x hx
  obtain ⟨b, cap, cur, rfl, hbb, _, hnc, hm, _⟩ := own_some h.row (by omega)
  simp only [maxLen] at hm
  have c0 := h.cell
  have hl := h.lt
  have d0 := own_cell h.row (k := i * 2) (by omega)
  have d1 := own_cell h.row (k := i * 2 + 1) (by omega)
  rw [hk] at d0
  rw [hv] at d1
  simp only [eI] at d0 d1
  have hlen := lenA w base g ls.length _ _ h
  have hiI : (i : Int) < (ls.length : Int) := by omega
  have hi0 : ¬ ((i : Int) < 0) := by omega
  have HL := Lib.hid hlen
  obtain ⟨k, u⟩ := x
  generalize ls.length = N at *
  clear h hx hk hv hlen
  go_enter Try.func19, Try.ntmps19
  go_wp2_with fail
  refine HL.out.mono ?_
  rintro e w2 ⟨rfl, rfl⟩
  go_wp2_with fail
  go_quiet (fail)
  go_wp2_with fail
  go_ret3
  exact ⟨rfl, below_drewN (Below.refl _ _) nq⟩
theorem tab_cutA (w0 w : World) (g : Nat) (ls : List (Int × Int)) (k : Int) (h : TabAt 53 59 w0 g ls.length (fl eI eI ls) w) (hn : ls.length ≤ 1000) (hs : Rise ls) :
    Calls Try.prog 20 #[.pointer (some ⟨g, 0, none⟩), .int .i64 k] w fun e w' => e = .returned (.tuple #[.int .i64 (thI 0 k ls), .bool (hasI k ls)]) ∧ TabAt 53 59 w0 g (cutI k ls).length (fl eI eI (cutI k ls)) w' ∧ Kept 59 w w' g := by
  obtain ⟨⟨v, hv⟩, h1, h2⟩ := h
  refine (cutA w w0.heap.size g ls v k hv hn hs).mono ?_
  rintro e w' ⟨rfl, ⟨v', hx, hob⟩, ht⟩
  exact ⟨rfl, ⟨⟨v', hx⟩, h1, h2.trans (ht.below h2.size h1 fun b hb => (hv.row.lt b hb).1)⟩, ht.kept hv⟩
theorem tab_atA (w0 w : World) (g i : Nat) (ls : List (Int × Int)) (x : Int × Int) (h : TabAt 53 59 w0 g ls.length (fl eI eI ls) w) (hn : ls.length ≤ 1000) (hx : ls[i]? = some x) :
    Calls Try.prog 19 #[.pointer (some ⟨g, 0, none⟩), .int .i64 (i : Nat)] w fun e w' => e = .returned (.tuple #[.int .i64 x.1, .int .i64 x.2, .bool true]) ∧ TabAt 53 59 w0 g ls.length (fl eI eI ls) w' := by
  obtain ⟨v, hv⟩ := h.tab
  refine (atA w w0.heap.size g i ls v x hv hn hx).mono ?_
  rintro e w' ⟨rfl, hb⟩
  exact ⟨rfl, h.step hb⟩
theorem thI_of {z : Int} {ls : List (Int × Int)} {i : Nat} {x : Int × Int} (h : Rise ls) (hx : ls[i]? = some x) : plcI x.1 ls = i ∧ hasI x.1 ls = true ∧ thI z x.1 ls = x.2 := by
  have hi := (List.getElem?_eq_some_iff.1 hx).1
  have hp : plcI x.1 ls = i := plcI_at x.1 ls i (by omega) (fun j y hj hy => h j i y x hj hy hx) (fun y hy => by rw [hx] at hy; cases hy; omega)
  have hh : hasI x.1 ls = true := by rw [hasI_some hp hx]; simp
  exact ⟨hp, hh, thI_yes hh (by rw [hp]; exact hx)⟩
end Go.Proofs.Ytobigmcfbkgmbaa
