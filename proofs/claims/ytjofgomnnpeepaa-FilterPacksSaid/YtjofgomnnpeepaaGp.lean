/- Ids: the set. -/
import Derived.Test.YtjofgomnnpeepaaGo
namespace Go.Proofs.Ytjofgomnnpeepaa
open Go.RowKit Go.Sort

theorem zero_set (w : World) : Sem.run Try.prog (zeroValue 47) w = .ok (.agg (arow fun _ => .bool false)) w := by
  have h : Sem.run Try.prog (zeroValue 47) w = .ok (.agg (Array.replicate 2048 (.bool false))) w := by kernel_rfl
  rw [h, arow_rep]
def IdsP (w : World) (fs : Nat → Int × Int) (n : Nat) (e : Ending) (w' : World) : Prop :=
  e = .returned (.func (Fn.func 23) #[] #[.pointer (some ⟨w.heap.size, 0, none⟩)]) ∧ Sets w' w.heap.size (fun q => anyF fs n (q : Nat))
set_option maxRecDepth 40000 in
set_option maxHeartbeats 1000000 in
theorem ids_any (w : World) (A : Option Addr) (n c : Nat) (fs : Nat → Int × Int) (h : Fils w w.heap.size A n c fs) :
    Calls Try.prog 11 #[.slice A n c] w fun e w' => IdsP w fs n e w' ∧ Below w.heap.size w w' := by
  have HF := Lib.hid h
  have hcap := h.cap
  have hmax := h.max
  simp only [maxLen] at hmax
  have hz := zero_set
  have hM : Sets (w.alloc (.cells (arow fun _ => .bool false) 47)) w.heap.size fun q => anyF fs 0 (q : Nat) := heap_alloc_new w _
  have hb : Below w.heap.size w (w.alloc (.cells (arow fun _ => .bool false) 47)) := (Below.refl _ _).alloc (Nat.le_refl _) _
  clear h
  go_enter Try.func11, Try.ntmps11
  go_wp2_with fail
  generalize w.alloc (.cells (arow fun _ => .bool false) 47) = w0 at hM hb ⊢
  have HM := Lib.hid hM
  have HB := Lib.hid hb
  clear hM hb hz
  go_loopw [8] (fun i wr => ∃ j : Nat, j ≤ n ∧ i = .int .i64 j ∧ Hid (Sets wr w.heap.size fun q => anyF fs j (q : Nat)) ∧ Hid (Below w.heap.size w wr)) (fun i _ => n - (intOf i).toNat)
  case atStart => exact ⟨0, by omega, rfl, HM, HB⟩
  case round =>
    obtain ⟨j, hj, rfl, hM, hb⟩ := hrel
    clear HM HB
    by_cases hlt : j < n
    · obtain ⟨b, off, rfl, hbb, hcl⟩ := (HF.out.below hb.out).cells (by omega)
      obtain ⟨c0, c1⟩ := hcl j hlt
      have hst : ∀ q : Nat, (anyF fs j (q : Nat) || One (low (fs j).1) (low (fs j).2) (q : Nat)) = anyF fs (j + 1) (q : Nat) := fun q => (anyF_succ fs j q).symm
      generalize fs j = f at c0 c1 hst
      obtain ⟨fc, fm⟩ := f
      simp only at c0 c1 hst
      have hba : Below w.heap.size w (wr.alloc (.cells #[.int .i64 fc, .int .i64 fm] 36)) := hb.out.alloc hb.out.size _
      have hsa : Sets (wr.alloc (.cells #[.int .i64 fc, .int .i64 fm] 36)) w.heap.size fun q => anyF fs j (q : Nat) := hM.out.below ((Below.refl wr.heap.size _).alloc (Nat.le_refl _) _) hM.out.lt
      have hadd := add_any _ _ w.heap.size _ fc fm hsa (Nat.le_refl _)
      have HA := Lib.hid hadd
      have HBA := Lib.hid hba
      have HST := Lib.hid hst
      clear hba hsa hadd hst hcl hM hb
      go_wp2_with fail
      refine HA.out.mono ?_
      rintro e w2 ⟨rfl, hs2, hb2⟩
      have HS2 := Lib.hid (hs2.congr (f' := fun q => .bool (anyF fs (j + 1) (q : Nat))) fun q _ => congrArg Value.bool (HST.out q))
      have HB2 := Lib.hid (HBA.out.trans hb2)
      clear hs2 hb2
      go_wp2_with fail
      exact ⟨⟨j + 1, by omega, by go_num, HS2, HB2⟩, by simp [intOf]; omega⟩
    · obtain rfl : j = n := by omega
      go_wp2_with fail
      exact bodyPost_ret (results_tmp rfl _ _ _) rfl ⟨⟨rfl, hM.out⟩, hb.out⟩
end Go.Proofs.Ytjofgomnnpeepaa
