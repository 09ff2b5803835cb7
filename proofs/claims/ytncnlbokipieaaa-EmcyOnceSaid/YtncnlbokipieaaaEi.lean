/- emcy: New. -/
import Derived.Test.YtncnlbokipieaaaEh
import Derived.Deep.CutBlock
namespace Go.Proofs.Ytncnlbokipieaaa
open Go.RowKit Go.Maps
set_option linter.unusedSimpArgs false
set_option linter.unusedVariables false

theorem lgi_new (w0 w : World) (nd : Int) (hb : Below w0.heap.size w0 w) : LgI (fun k => k = w.heap.size + 2 ∨ k = w.heap.size ∨ k = w.heap.size + 1) w0 (((w.alloc (.map #[] 0)).alloc (.cells #[.int .i64 8, .slice none 0 0, .int .i64 0] 105)).alloc (.cells #[.int .i64 nd, .map (some w.heap.size), .int .i64 0, .int .i64 0, .int .i64 0, .int .i64 0, .int .i64 0, .int .i64 0, .int .i64 0, .int .i64 0, .pointer (some ⟨w.heap.size + 1, 0, none⟩), .int .i64 0] 81)) (w.heap.size + 2) w.heap.size (w.heap.size + 1) 0 (.map []) none 0 0 nd [] [] 0 := by
  have h1 := hb.size
  have hs1 : (w.alloc (.map #[] 0)).heap.size = w.heap.size + 1 := by simp
  have hs2 : ((w.alloc (.map #[] 0)).alloc (.cells #[.int .i64 8, .slice none 0 0, .int .i64 0] 105)).heap.size = w.heap.size + 2 := by simp
  have hs3 : (((w.alloc (.map #[] 0)).alloc (.cells #[.int .i64 8, .slice none 0 0, .int .i64 0] 105)).alloc (.cells #[.int .i64 nd, .map (some w.heap.size), .int .i64 0, .int .i64 0, .int .i64 0, .int .i64 0, .int .i64 0, .int .i64 0, .int .i64 0, .int .i64 0, .pointer (some ⟨w.heap.size + 1, 0, none⟩), .int .i64 0] 81)).heap.size = w.heap.size + 3 := by simp
  have hq : Que ((w.alloc (.map #[] 0)).alloc (.cells #[.int .i64 8, .slice none 0 0, .int .i64 0] 105)) w0.heap.size (w.heap.size + 1) 8 [] 0 none 0 0 := ⟨by have := heap_alloc_new (w.alloc (.map #[] 0)) (.cells #[.int .i64 8, .slice none 0 0, .int .i64 0] 105); rw [hs1] at this; exact this, Qs.nil_ _ _ _, by omega, by omega, by simp [blk]⟩
  refine ⟨?_, ((World.ownsMap_made w Try.prog 3 (plainElem Try.prog 3)).alloc _).alloc _, fun y _ => ⟨rfl, fun h => by simp [fhas] at h⟩, ?_, by omega, by simp, by omega, Or.inl rfl, Or.inr (Or.inl rfl), Or.inr (Or.inr rfl), fun b h => by simp [blk] at h, fun k hk => by omega, fun k hk => by rw [hs3]; omega, by simp [Uniq], by simp, by simp, ((hb.alloc h1 _).alloc (by rw [hs1]; omega) _).alloc (by rw [hs2]; omega) _⟩
  · have := heap_alloc_new ((w.alloc (.map #[] 0)).alloc (.cells #[.int .i64 8, .slice none 0 0, .int .i64 0] 105)) (.cells #[.int .i64 nd, .map (some w.heap.size), .int .i64 0, .int .i64 0, .int .i64 0, .int .i64 0, .int .i64 0, .int .i64 0, .int .i64 0, .int .i64 0, .pointer (some ⟨w.heap.size + 1, 0, none⟩), .int .i64 0] 81)
    rw [hs2] at this
    exact this
  · exact hq.below ((Below.refl _ _).alloc (Nat.le_refl _) _)
set_option maxRecDepth 100000 in
set_option maxHeartbeats 4000000 in
theorem emnew_no (w : World) (nd : Int) (hn : isNI nd = false) : Calls Try.prog 11 #[.int .i64 nd] w fun e w' => e = .returned (.tuple #[.pointer none, .int .i64 3]) ∧ Below w.heap.size w w' := by
  have HN := Lib.hid (fun w => enode_any nd w)
  rw [hn] at HN
  clear hn
  go_enter Try.func11, Try.ntmps11
  go_wp2_with (go_at_call 25; refine (HN.out _).mono ?_; rintro e w1 ⟨rfl, rfl⟩)
  exact bodyPost_ret (results_tmp2 rfl _ _ _) rfl ⟨rfl, Below.refl _ _⟩
set_option maxRecDepth 100000 in
set_option maxHeartbeats 4000000 in
theorem emnew_ok (w0 w : World) (nd : Int) (hn : isNI nd = true) (hb : Below w0.heap.size w0 w) : Calls Try.prog 11 #[.int .i64 nd] w fun e w' => ∃ g B q, e = .returned (.tuple #[.pointer (some ⟨g, 0, none⟩), .int .i64 0]) ∧ LgI (fun k => k = g ∨ k = B ∨ k = q) w0 w' g B q 0 (.map []) none 0 0 nd [] [] 0 ∧ Below w.heap.size w w' := by
  have HN := Lib.hid (fun w => enode_any nd w)
  rw [hn] at HN
  have HB := Lib.hid hb
  have HNN := Lib.hid hn
  clear hn hb
  have hmm := @run_makeMap Try.prog
  have e8 : clampL 8 = 8 := by decide
  go_enter Try.func11, Try.ntmps11
  go_upto_region 4 with (first | (go_at_call 25; refine (HN.out _).mono ?_; rintro e w1 ⟨rfl, rfl⟩))
  have HLI := Lib.hid (lgi_new w0 w nd HB.out)
  have HBB := Lib.hid ((((Below.refl w.heap.size w).alloc (Nat.le_refl _) (.map #[] 0)).alloc (by simp) (.cells #[.int .i64 8, .slice none 0 0, .int .i64 0] 105)).alloc (by simp; omega) (.cells #[.int .i64 nd, .map (some w.heap.size), .int .i64 0, .int .i64 0, .int .i64 0, .int .i64 0, .int .i64 0, .int .i64 0, .int .i64 0, .int .i64 0, .pointer (some ⟨w.heap.size + 1, 0, none⟩), .int .i64 0] 81))
  have hs1 : (w.alloc (.map #[] 0)).heap.size = w.heap.size + 1 := by simp
  refine (qnew_any 8 _ (by decide)).mono ?_
  rintro e w2 ⟨rfl, hq, rfl⟩
  rw [e8, hs1]
  have hs2 : ((w.alloc (.map #[] 0)).alloc (.cells #[.int .i64 8, .slice none 0 0, .int .i64 0] 105)).heap.size = w.heap.size + 2 := by simp
  go_wp2_with fail
  exact bodyPost_ret (results_tmp2 rfl _ _ _) rfl ⟨_, _, _, rfl, HLI.out, HBB.out⟩
end Go.Proofs.Ytncnlbokipieaaa
