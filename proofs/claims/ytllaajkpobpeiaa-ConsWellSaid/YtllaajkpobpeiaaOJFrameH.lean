/- What Ask answers; bytes that are copied into a frame. -/
import Derived.Test.YtllaajkpobpeiaaOJFrameG
namespace Go.Proofs.Ytllaajkpobpeiaa
open Go.RowKit
theorem info_byte : (Try.prog.info? 5).map (·.size) = some 1 := by kernel_rfl
/-- Bytes are copied into a frame. -/
theorem wpList_fill {wr : World} {ops : Array Oper} {rest : List Oper} {o : Oper} {a : Act} {Q : Exit → Act → World → Prop} {g m c B : Nat} {id n : Int} {r : Bool} {d : Nat → Int} {A : Option Addr} {l : List Int} (hgd : o.guard = none) (s t : Operand)
    (ho : o.op = .call { callee := .builtin .copy, args := #[s, t], argTypes := #[43, 43] }) (hs : a.eval s = .slice (some ⟨g, 3, none⟩) 8 8) (ht : a.eval t = .slice A m c) (hB : Byt wr B A m c l) (h : FrAt wr g id r n d)
    (hK : ∀ w', FrAt w' g id r n (fun j => if j < m then l.getD j 0 else d j) → wr.grownBy w' (some g) → wpList Try.prog ops Q rest (a.put o.dst (goInt ((min m 8 : Nat) : Int))) w') :
    wpList Try.prog ops Q (o :: rest) a wr := by
  refine wpList_plain hgd fun K hKK => ?_
  by_cases hm : m = 0
  · subst hm
    have hrun := run_copy_none (P := Try.prog) wr 43 43 o.type 5 (some ⟨g, 3, none⟩) A 8 8 0 c Try.underlying43 info_byte (by simp)
    unfold Oper.wp
    simp [execOp, ho, resolve, invoke, builtin, hs, ht, hrun, Result.andThen]
    have := hK wr (h.congr fun j _ => by rw [if_neg (by omega)]) (World.grownBy.refl wr _)
    exact hKK _ _ (by simpa using this)
  · obtain ⟨b, off, rfl, hb, hcell⟩ := hB.cells (by omega)
    have hlen := hB.len
    have hl8 : ((l.take 8).map (Value.int .u8)).length = Nat.min m 8 := by simp [hlen, Nat.min_comm]
    have hrun := run_copy_cells (P := Try.prog) wr 43 43 o.type 5 g 3 8 8 ⟨b, off, none⟩ m c ((l.take 8).map (Value.int .u8)) Try.underlying43 info_byte hl8
      (fun j v hv => by
        have hj : j < Nat.min m 8 := by rw [← hl8]; exact (List.getElem?_eq_some_iff.1 hv).1
        have hj1 : j < m := Nat.lt_of_lt_of_le hj (Nat.min_le_left _ _)
        have hj2 : j < 8 := Nat.lt_of_lt_of_le hj (Nat.min_le_right _ _)
        have : (⟨b, off, none⟩ : Addr).add j = ⟨b, off + j, none⟩ := by simp [Addr.add]
        rw [this, hcell j hj1, ← hv]
        simp [hj2, List.getElem?_eq_getElem (show j < l.length by omega), List.getD])
      (fun j hj => by rw [h.byte (i := j) (by rw [hl8] at hj; exact Nat.lt_of_lt_of_le hj (Nat.min_le_right _ _))]; rfl) (fun j _ => h.frozen _)
      (fun v hv => by simp only [List.mem_map] at hv; obtain ⟨x, _, rfl⟩ := hv; rfl)
    have hf := (h.sets (l.take 8) 0 (by simp; omega)).congr (d' := fun j => if j < m then l.getD j 0 else d j) fun j hj => by
      simp only [List.length_take, hlen]
      by_cases h1 : j < m
      · rw [if_pos (by omega), if_pos h1]
        simp [List.getD, hj]
      · rw [if_neg (by omega), if_neg h1]
    have hg := setCells_grown ((l.take 8).map (Value.int .u8)) g 3 (World.grownBy.refl wr (some g))
    rw [hl8] at hrun
    have e : Nat.min m 8 = min m 8 := rfl
    rw [e] at hrun
    rw [Nat.add_zero] at hf
    generalize (l.take 8).map (Value.int .u8) = cs at hrun hf hg
    unfold Oper.wp
    simp [execOp, ho, resolve, invoke, builtin, hs, ht, hrun, Result.andThen]
    exact hKK _ _ (by simpa using hK _ hf hg)
end Go.Proofs.Ytllaajkpobpeiaa