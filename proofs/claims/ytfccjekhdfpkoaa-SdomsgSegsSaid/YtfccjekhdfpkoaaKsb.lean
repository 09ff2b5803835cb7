/- What a segment tells; how a transfer ends; SdomsgSegs. -/
import Derived.Deep.CutBlock
import Derived.Test.YtfccjekhdfpkoaaKsa
import Derived.Test.YtfccjekhdfpkoaaKo
namespace Go.Proofs.Ytfccjekhdfpkoaa
open Go.RowKit
set_option linter.unusedSimpArgs false
set_option linter.unusedVariables false
set_option maxHeartbeats 4000000
theorem low7 {h : Int} (h0 : 0 ≤ h) (h1 : h ≤ 255) : bits .andNot .u8 h 128 = h % 128 := by
  have key : ∀ k : Fin 256, bits .andNot .u8 ((k.val : Nat) : Int) 128 = ((k.val : Nat) : Int) % 128 := by decide +kernel
  have := key ⟨h.toNat, by omega⟩
  simp only [] at this
  rw [show ((h.toNat : Nat) : Int) = h by omega] at this
  exact this
theorem top1 {h : Int} (h0 : 0 ≤ h) (h1 : h ≤ 255) : bits .and .u8 h 128 = if 128 ≤ h then 128 else 0 := by
  have key : ∀ k : Fin 256, bits .and .u8 ((k.val : Nat) : Int) 128 = if 128 ≤ ((k.val : Nat) : Int) then 128 else 0 := by decide +kernel
  have := key ⟨h.toNat, by omega⟩
  simp only [] at this
  rw [show ((h.toNat : Nat) : Int) = h by omega] at this
  exact this
/-- The bytes behind the first. -/
def restL (b : List Int) : List Int := [b.getD 1 0, b.getD 2 0, b.getD 3 0, b.getD 4 0, b.getD 5 0, b.getD 6 0, b.getD 7 0]
def UnP (w : World) (b : List Int) (e : Ending) (w' : World) : Prop := ∃ A c, e = .returned (.tuple #[.int .i64 (b.getD 0 0 % 128), .bool (decide (128 ≤ b.getD 0 0)), .slice A 7 c]) ∧ Byt w' w'.heap.size A 7 c (restL b) ∧ Below w.heap.size w w'
theorem rest_byt {w : World} {g : Nat} {b : List Int} (h : LnAt w g b) (hb : Byte8 b) : Byt w w.heap.size (some ⟨g, 1, none⟩) 7 7 (restL b) := by
  refine ⟨rfl, Nat.le_refl _, by simp [maxLen], fun x hx => ?_, fun _ => ⟨g, 1, rfl, h.lt, fun j hj => ?_⟩⟩
  · simp only [restL, List.mem_cons, List.not_mem_nil, or_false] at hx
    rcases hx with rfl | rfl | rfl | rfl | rfl | rfl | rfl <;> exact hb _
  · rw [cell_of_row _ _ _ _ _ _ h]
    have : j = 0 ∨ j = 1 ∨ j = 2 ∨ j = 3 ∨ j = 4 ∨ j = 5 ∨ j = 6 := by omega
    rcases this with rfl | rfl | rfl | rfl | rfl | rfl | rfl <;> rfl
theorem make7 (w : World) : (Instr.makeSlice 39 (.int .i64 7) (.int .i64 7)).run Try.prog w = .ok (.slice (some ⟨w.heap.size, 0, none⟩) 7 7) (w.alloc (.cells #[.int .u8 0, .int .u8 0, .int .u8 0, .int .u8 0, .int .u8 0, .int .u8 0, .int .u8 0] 5)) := by
  kernel_rfl
set_option maxRecDepth 8000 in
theorem unseg_any (b : List Int) (hb : Byte8 b) (w : World) : Calls Try.prog 15 #[.agg (lnA b)] w (UnP w b) := by
  have hl0 : LnAt (w.alloc (.cells (lnA b) 30)) w.heap.size b := heap_alloc_new w _
  have hb0 : Below w.heap.size w (w.alloc (.cells (lnA b) 30)) := (Below.refl _ _).alloc (Nat.le_refl _) _
  have HL0 := Lib.hid hl0
  have HB0 := Lib.hid hb0
  have HBB := Lib.hid hb
  have h00 := (hb 0).1
  have h01 := (hb 0).2
  have e1 := low7 h00 h01
  have e2 := top1 h00 h01
  clear hl0 hb0 hb
  go_enter Try.func15, Try.ntmps15
  generalize hLA : lnA b = LA at *
  go_upto_region 1 with fail
  subst hLA
  generalize w.alloc (.cells (lnA b) 30) = w0 at *
  have hmk := make7 w0
  go_upto_region 2 with fail
  have HL1 : Hid (LnAt (w0.alloc (.cells #[.int .u8 0, .int .u8 0, .int .u8 0, .int .u8 0, .int .u8 0, .int .u8 0, .int .u8 0] 5)) w.heap.size b) := Lib.hid (LnAt.alloc HL0.out _)
  have HB1 := Lib.hid (HB0.out.alloc HB0.out.size (.cells #[.int .u8 0, .int .u8 0, .int .u8 0, .int .u8 0, .int .u8 0, .int .u8 0, .int .u8 0] 5))
  have HC1 : Hid ((w0.alloc (.cells #[.int .u8 0, .int .u8 0, .int .u8 0, .int .u8 0, .int .u8 0, .int .u8 0, .int .u8 0] 5)).heap[w0.heap.size]? = some (.cells #[.int .u8 0, .int .u8 0, .int .u8 0, .int .u8 0, .int .u8 0, .int .u8 0, .int .u8 0] 5 (0, 0))) := Lib.hid (heap_alloc_new w0 _)
  have HG : Hid (w.heap.size < w0.heap.size) := Lib.hid HL0.out.lt
  have HG1 : Hid (w0.heap.size < (w0.alloc (.cells #[.int .u8 0, .int .u8 0, .int .u8 0, .int .u8 0, .int .u8 0, .int .u8 0, .int .u8 0] 5)).heap.size) := Lib.hid (by simp)
  clear HL0 HB0 hmk
  generalize w0.alloc (.cells #[.int .u8 0, .int .u8 0, .int .u8 0, .int .u8 0, .int .u8 0, .int .u8 0, .int .u8 0] 5) = w1 at *
  generalize w0.heap.size = g at *
  have HS1 := Lib.hid (rest_byt HL1.out HBB.out)
  go_upto_region 3 with (refine wpList_plain rfl (fun K hK => wp_copy_row (cur := #[.int .u8 0, .int .u8 0, .int .u8 0, .int .u8 0, .int .u8 0, .int .u8 0, .int .u8 0]) (T := 5) (.tmp 7) (.tmp 8) rfl rfl rfl HS1.out HC1.out (by simp) (fun w7 cur7 h7 hsz7 hc7 hg7 => hK _ _ ?_)))
  have hlt7 : g < w7.heap.size := Nat.lt_of_lt_of_le HG1.out hg7.size
  have HY7 : Hid (Byt w7 w7.heap.size (some ⟨g, 0, none⟩) 7 7 (restL b)) := Lib.hid ⟨rfl, Nat.le_refl _, by simp [maxLen], HS1.out.rng, fun _ => ⟨g, 0, rfl, hlt7, fun j hj => by
    rw [cell_of_row _ _ _ _ _ _ h7]
    have := hc7 (0 + j)
    rw [if_pos (by omega)] at this
    simpa using this⟩⟩
  have HL7 : Hid (LnAt w7 w.heap.size b) := Lib.hid ((hg7.block _ HL1.out.lt (by have := HG.out; simp; omega)).trans HL1.out)
  have HB7 : Hid (Below w.heap.size w w7) := Lib.hid (HB1.out.grown hg7 HB1.out.size (fun k e => by cases e; have := HG.out; omega))
  clear h7 hsz7 hc7 hg7 HL1 HB1 HC1 HS1
  have c0 := HL7.out.cell 0 (by omega)
  have HH0 : ∃ h, b.getD 0 0 = h := ⟨_, rfl⟩
  obtain ⟨h, hbh⟩ := HH0
  rw [hbh] at h00 h01 e1 e2 c0
  have HH := Lib.hid hbh
  clear hbh
  have hwr : IntKind.i64.wrap (h % 128) = h % 128 := IntWalk.i64_in _ (by omega)
  by_cases hh : 128 ≤ h
  · rw [if_pos hh] at e2
    have HD : Hid (decide (128 ≤ h) = true) := Lib.hid (decide_eq_true hh)
    go_quiet (fail)
    have HB8 := Lib.hid (below_drewN HB7.out nq)
    have HY8 : Hid (Byt (w7.drewN nq) (w7.drewN nq).heap.size (some ⟨g, 0, none⟩) 7 7 (restL b)) := Lib.hid (HY7.out.drewN nq)
    clear HB7 HY7 HL7
    go_wp2_with fail
    go_ret3
    exact ⟨_, 7, by rw [HH.out, HD.out]; rfl, HY8.out, HB8.out⟩
  · rw [if_neg hh] at e2
    have HD : Hid (decide (128 ≤ h) = false) := Lib.hid (decide_eq_false hh)
    go_quiet (fail)
    have HB8 := Lib.hid (below_drewN HB7.out nq)
    have HY8 : Hid (Byt (w7.drewN nq) (w7.drewN nq).heap.size (some ⟨g, 0, none⟩) 7 7 (restL b)) := Lib.hid (HY7.out.drewN nq)
    clear HB7 HY7 HL7
    go_wp2_with fail
    go_ret3
    exact ⟨_, 7, by rw [HH.out, HD.out]; rfl, HY8.out, HB8.out⟩
end Go.Proofs.Ytfccjekhdfpkoaa
