/- What Seal answers. -/
import Derived.Deep.RegionLawGrows
import Derived.Test.YtkgnhmddnfmhjaaWPolyD
namespace Go.Proofs.Ytkgnhmddnfmhjaa
open Go.RowKit
theorem Byt.drew {w : World} {B n c : Nat} {A : Option Addr} {l : List Int} (h : Byt w B A n c l) : Byt w.drew B A n c l := ⟨h.len, h.cap, h.max, h.rng, h.cells⟩

theorem Byt.none_ {w : World} {B n c : Nat} {A : Option Addr} {l : List Int} (h : Byt w B A n c l) (e : A = none) : n = 0 := by
  rcases Nat.eq_zero_or_pos n with h0 | h0
  · exact h0
  · obtain ⟨b, off, e', _⟩ := h.cells h0
    rw [e] at e'; cases e'
theorem Byt.news {w : World} {B n c : Nat} {A : Option Addr} {l : List Int} (h : Byt w B A n c l) : ∀ b, A = some b → ∀ j u, (l.map (Value.int .u8))[j]? = some u → w.cell? (b.add j) = some u := by
  intro b e j u hu
  have hj : j < n := by
    rcases Nat.lt_or_ge j n with h1 | h1
    · exact h1
    · rw [List.getElem?_eq_none (by simp [h.len]; omega)] at hu; cases hu
  obtain ⟨b0, off, e', _, hc⟩ := h.cells (by omega)
  rw [e] at e'
  cases e'
  have hplain : (⟨b0, off, none⟩ : Addr).add j = ⟨b0, off + j, none⟩ := by unfold Addr.add; split <;> simp_all
  rw [hplain, hc j hj]
  rw [List.getElem?_map, List.getElem?_eq_getElem (by rw [h.len]; exact hj)] at hu
  simp only [Option.map_some, Option.some.injEq] at hu
  subst hu
  simp [List.getD, List.getElem?_eq_getElem (show j < l.length by rw [h.len]; exact hj)]
theorem ints_cell (l : List Int) : ∀ u ∈ l.map (Value.int .u8), u.oneCell' = true := by
  intro u hu
  simp only [List.mem_map] at hu
  obtain ⟨x, _, rfl⟩ := hu
  rfl

theorem tL_nil (l : List Int) : tL l [] = pl l := by
  unfold tL pl
  apply List.ext_getElem
  · simp
  · intro i h1 h2
    simp [tb, cnt, List.getD]
    rw [List.getElem?_eq_getElem (by simpa using h1)]
    rfl
theorem ofL_bt (n W : Nat) : ofL (n : Int) W = btL n W := by
  unfold ofL btL
  exact List.map_congr_left fun i _ => bt_eq n _
theorem clamp_of {W : Nat} (h : W ≤ 32) : clampW (W : Int) = W := by unfold clampW; omega

/-- A row with its remainder behind. -/
def sealL (W L : Nat) (l : List Int) : List Int := pl l ++ ofL ((remN W L 0 l : Nat) : Int) W

end Go.Proofs.Ytkgnhmddnfmhjaa