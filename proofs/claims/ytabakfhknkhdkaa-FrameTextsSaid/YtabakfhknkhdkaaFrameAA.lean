/- What stands where in a frame's text. -/
import Derived.Test.YtabakfhknkhdkaaFrameZ
namespace Go.Proofs.Ytabakfhknkhdkaa
open Go.RowKit

theorem FrAt.setId {w : World} {g : Nat} {id n : Int} {r : Bool} {d : Nat → Int} (h : FrAt w g id r n d) (x : Int) : FrAt (w.setCell ⟨g, 0, none⟩ (.int .i64 x)) g x r n d := by
  unfold FrAt at h ⊢
  simp [World.setCell, Array.getElem?_modify, h]
theorem FrAt.setRtr {w : World} {g : Nat} {id n : Int} {r : Bool} {d : Nat → Int} (h : FrAt w g id r n d) (x : Bool) : FrAt (w.setCell ⟨g, 1, none⟩ (.bool x)) g id x n d := by
  unfold FrAt at h ⊢
  simp [World.setCell, Array.getElem?_modify, h]
theorem FrAt.setLen {w : World} {g : Nat} {id n : Int} {r : Bool} {d : Nat → Int} (h : FrAt w g id r n d) (x : Int) : FrAt (w.setCell ⟨g, 2, none⟩ (.int .i64 x)) g id r x d := by
  unfold FrAt at h ⊢
  simp [World.setCell, Array.getElem?_modify, h]
theorem tx_congr {id n : Int} {r : Bool} {d d' : Nat → Int} (hn : n ≤ 8) (h : ∀ j, j < 8 → d j = d' j) : txL id r n d = txL id r n d' := by
  rw [tx_body, tx_body]
  unfold bodyL
  have e : bL n.toNat d = bL n.toNat d' := by
    unfold bL
    refine List.map_congr_left fun j hj => h j ?_
    have := List.mem_range.1 hj
    omega
  rw [e]
/-- The identifier that three signs make. -/
def cI (l : List Int) : Int := 256 * vd (l.getD 0 0) + 16 * vd (l.getD 1 0) + vd (l.getD 2 0)
/-- The bytes that the signs behind the # make. -/
def cD (l : List Int) (j : Nat) : Int := if j < (l.length - 4) / 2 then (16 * vd (l.getD (4 + 2 * j) 0) + vd (l.getD (5 + 2 * j) 0)) % 256 else 0
theorem tx_list {id n : Int} {r : Bool} {d : Nat → Int} (_ : Val id r n d) : txL id r n d = [sg (id / 256 % 16), sg (id / 16 % 16), sg (id % 16), 35] ++ bodyL r n d := by
  rw [tx_body]; unfold headL; rw [hex3]; rfl
theorem tx_cI {id n : Int} {r : Bool} {d : Nat → Int} (h : Val id r n d) : cI (txL id r n d) = id := by
  have hi := chk_id h.1
  rw [tx_list h]
  unfold cI
  have a := vd_sg (x := id / 256 % 16) (by omega) (by omega) rfl
  have b := vd_sg (x := id / 16 % 16) (by omega) (by omega) rfl
  have c := vd_sg (x := id % 16) (by omega) (by omega) rfl
  simp [List.getD, a, b, c]
  omega
theorem body_len {id n : Int} {r : Bool} {d : Nat → Int} (_ : Val id r n d) : (bodyL r n d).length = if r = true then 2 else 2 * n.toNat := by
  unfold bodyL
  split
  · simp [hexL_len]
  · rw [tailL_len, bL_len]
theorem tx_len {id n : Int} {r : Bool} {d : Nat → Int} (h : Val id r n d) : (txL id r n d).length = 4 + (if r = true then 2 else 2 * n.toNat) := by
  rw [tx_body, List.length_append, head_len, body_len h]
theorem tx_R {id n : Int} {r : Bool} {d : Nat → Int} (h : Val id r n d) : (txL id r n d).length = 6 ∧ (txL id r n d).getD 4 0 = 82 ↔ r = true := by
  have hl := chk_len h.1
  constructor
  · rintro ⟨h6, h4⟩
    cases r with
    | true => rfl
    | false =>
      rw [tx_list h] at h4
      have e : bodyL false n d = tailL (bL n.toNat d) := rfl
      rw [e] at h4
      have hn := tail_no_R (bL n.toNat d) (bL_range _ _ (by omega) h.2)
      rw [tx_len h] at h6
      rw [if_neg (by simp)] at h6
      rcases ht : tailL (bL n.toNat d) with _ | ⟨x, l⟩
      · have := congrArg List.length ht
        rw [tailL_len, bL_len] at this
        simp at this; omega
      · rw [ht] at h4
        simp [List.getD] at h4
        subst h4
        exact absurd ht (hn l)
  · rintro rfl
    refine ⟨by rw [tx_len h]; rfl, ?_⟩
    rw [tx_list h]; rfl
theorem tx_n {id n : Int} {d : Nat → Int} (h : Val id true n d) : vd ((txL id true n d).getD 5 0) = n ∧ ∀ j, j < 8 → d j = 0 := by
  have hl := chk_len h.1
  refine ⟨?_, fun j hj => ?_⟩
  · rw [tx_list h]
    have e : bodyL true n d = [82, sg (n % 16)] := by show 82 :: hexL 1 n = _; rw [hex1]
    rw [e]
    have a := vd_sg (x := n % 16) (by omega) (by omega) rfl
    simp [List.getD, a]
    omega
  · have := chk_cut h.1 j hj
    unfold cut kOf at this
    rw [if_neg (by simp)] at this
    exact this
theorem tx_D {id n : Int} {d : Nat → Int} (h : Val id false n d) : (((txL id false n d).length - 4) / 2 : Nat) = n.toNat ∧ ∀ j, j < 8 → d j = cD (txL id false n d) j := by
  have hl := chk_len h.1
  have hlen := tx_len h
  rw [if_neg (by simp)] at hlen
  have hk : ((txL id false n d).length - 4) / 2 = n.toNat := by omega
  refine ⟨hk, fun j hj => ?_⟩
  unfold cD
  rw [hk]
  by_cases hjn : j < n.toNat
  · rw [if_pos hjn]
    have hr := h.2 j hj
    have hp := tail_pair (bL n.toNat d) j (by rw [bL_len]; exact hjn)
    rw [bL_get _ _ _ hjn, hex2] at hp
    have e1 : ((txL id false n d).drop (4 + 2 * j)).take 2 = [sg (d j / 16 % 16), sg (d j % 16)] := by
      rw [← List.drop_drop, tx_body, List.drop_left' (head_len id)]
      exact hp
    have g : ∀ i, i < 2 → (txL id false n d).getD (4 + 2 * j + i) 0 = [sg (d j / 16 % 16), sg (d j % 16)].getD i 0 := fun i hi => by
      rw [← e1]
      simp [List.getD, hi, List.getElem?_drop]
    have g0 := g 0 (by omega)
    have g1 := g 1 (by omega)
    rw [Nat.add_zero] at g0
    rw [show 5 + 2 * j = 4 + 2 * j + 1 by omega, g0, g1]
    have a := vd_sg (x := d j / 16 % 16) (by omega) (by omega) rfl
    have b := vd_sg (x := d j % 16) (by omega) (by omega) rfl
    simp [List.getD, a, b]
    omega
  · rw [if_neg hjn]
    have hc := chk_cut h.1 j hj
    unfold cut kOf at hc
    simp only [Bool.false_eq_true, if_false] at hc
    rw [if_neg (by omega)] at hc
    exact hc
theorem cD_range (l : List Int) (j : Nat) : 0 ≤ cD l j ∧ cD l j ≤ 255 := by
  unfold cD
  split <;> omega
theorem value_u (u : UInt8) (w : World) : Calls Try.prog 32 #[.int .u8 (u.toNat : Int)] w fun e w' => e = .returned (.int .i64 (vd (u.toNat : Int))) ∧ Below w.heap.size w w' :=
  value_any _ _ (by omega) (by have := u.toNat_lt; omega)
end Go.Proofs.Ytabakfhknkhdkaa
