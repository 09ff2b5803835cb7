/- What Decode answers, where a frame stands. -/
import Derived.Test.YtkgnhmddnfmhjaaWireI
import Derived.Laws.Pointers
namespace Go.Proofs.Ytkgnhmddnfmhjaa
open Go.RowKit

theorem catch_idle (p2 p3 p4 : Addr) (w : World) :
    CallsD Try.prog 21 #[.pointer (some p2), .pointer (some p3), .pointer (some p4)] .returning w fun e u' w' => e = .returned (.tuple #[]) ∧ u' = .returning ∧ w' = w := by
  refine callsD_of_wpS Try.func21 rfl fun c₀ cs hu => ?_
  apply wpS_seq
  apply wpS_region
  simp [wpOpsS, go_sem, recoverD, hu, Try.ntmps21, Exit.thenS]
  apply wpS_seq
  apply wpS_seq
  apply wpS_region
  simp [wpOpsS, go_sem, Exit.thenS]
  refine wpS_cond (t := true) (by simp [Act.eval, Array.replicate]) ?_
  simp only [if_true]
  refine wpS_of_wp (wp_ret ?_)
  cases c₀
  simp_all [Exit.thenS, bodyPostS, results, Try.results21]
theorem Rd.aside {B g n c h2 : Nat} {A : Option Addr} {b : List Int} {v : Value} {s : RS} {w w' : World} (h : Rd B g A n c b v s w) (hg : w.grownBy w' (some h2)) (hB : B ≤ h2) (hne : h2 ≠ g) (hv : v.ownBlock ≠ some h2) : Rd B g A n c b v s w' :=
  ⟨(hg.block g h.glt (fun e => by cases e; exact hne rfl)).trans h.blk, h.own.kept hg (.inr hv), ⟨h.byt.len, h.byt.cap, h.byt.max, h.byt.rng, fun h0 => by
    obtain ⟨b', off, e, hb, hc⟩ := h.byt.cells h0
    exact ⟨b', off, e, hb, fun j hj => hg.cell (hc j hj) (fun e2 => by simp at e2; omega)⟩⟩, h.lt, h.a1, h.a2, h.a3, h.a4⟩
theorem frat_keep {g k : Nat} {v v' : Value} {w w' : World} {i nn : Int} {r : Bool} {d : Nat → Int} (h : FrAt w k i r nn d) (hm : Mv g v v' w w') (hg : k ≠ g) (hv : v.ownBlock ≠ some k) : FrAt w' k i r nn d := (hm.keep h.lt hg hv).1.trans h
theorem one_keep {g k : Nat} {v v' : Value} {w w' : World} {o : Obj} (h : w.heap[k]? = some o) (hm : Mv g v v' w w') (hg : k ≠ g) (hv : v.ownBlock ≠ some k) : w'.heap[k]? = some o := (hm.keep (Array.getElem?_eq_some_iff.1 h).1 hg hv).1.trans h
theorem mv_below {g B : Nat} {v v' : Value} {w w' : World} (hm : Mv g v v' w w') (hv : ∀ k, v.ownBlock = some k → g < k) (hB : B ≤ g) (hs : g < w.heap.size := by simp) : Below B w w' :=
  ⟨hm.chg.os, hm.chg.tape, hm.chg.output, hm.chg.size, fun k hk => hm.chg.block k (by omega) (by omega) (fun e => by have := hv k e.symm; omega)⟩
theorem decode_f (w : World) (A : Option Addr) (n c : Nat) : FrAt ((((w.alloc (.cells #[.int .i64 0, .bool false, .int .i64 0, .int .u8 0, .int .u8 0, .int .u8 0, .int .u8 0, .int .u8 0, .int .u8 0, .int .u8 0, .int .u8 0] 24)).alloc (.cells #[.int .i64 0] 3)).alloc (.cells #[.int .i64 0] 26)).alloc (.cells #[.slice A n c, .int .i64 0, .slice none 0 0, .int .u8 0, .int .i64 0] 46)) w.heap.size 0 false 0 (fun _ => 0) := by
  have h := frame_new w 0 0 false (fun _ => 0)
  unfold FrAt at h ⊢
  rw [Below.heap_alloc _ _ _ (by simp <;> omega), Below.heap_alloc _ _ _ (by simp <;> omega), Below.heap_alloc _ _ _ (by simp)]
  exact h
theorem decode_p (w : World) (A : Option Addr) (n c : Nat) : ((((w.alloc (.cells #[.int .i64 0, .bool false, .int .i64 0, .int .u8 0, .int .u8 0, .int .u8 0, .int .u8 0, .int .u8 0, .int .u8 0, .int .u8 0, .int .u8 0] 24)).alloc (.cells #[.int .i64 0] 3)).alloc (.cells #[.int .i64 0] 26)).alloc (.cells #[.slice A n c, .int .i64 0, .slice none 0 0, .int .u8 0, .int .i64 0] 46)).heap[w.heap.size + 1]? = some (.cells #[.int .i64 0] 3 (0, 0)) := by
  have h := heap_alloc_new (w.alloc (.cells #[.int .i64 0, .bool false, .int .i64 0, .int .u8 0, .int .u8 0, .int .u8 0, .int .u8 0, .int .u8 0, .int .u8 0, .int .u8 0, .int .u8 0] 24)) (.cells #[.int .i64 0] 3)
  rw [Below.heap_alloc _ _ _ (by simp <;> omega), Below.heap_alloc _ _ _ (by simp)]
  simpa using h
theorem decode_q (w : World) (A : Option Addr) (n c : Nat) : ((((w.alloc (.cells #[.int .i64 0, .bool false, .int .i64 0, .int .u8 0, .int .u8 0, .int .u8 0, .int .u8 0, .int .u8 0, .int .u8 0, .int .u8 0, .int .u8 0] 24)).alloc (.cells #[.int .i64 0] 3)).alloc (.cells #[.int .i64 0] 26)).alloc (.cells #[.slice A n c, .int .i64 0, .slice none 0 0, .int .u8 0, .int .i64 0] 46)).heap[w.heap.size + 1 + 1]? = some (.cells #[.int .i64 0] 26 (0, 0)) := by
  have h := heap_alloc_new ((w.alloc (.cells #[.int .i64 0, .bool false, .int .i64 0, .int .u8 0, .int .u8 0, .int .u8 0, .int .u8 0, .int .u8 0, .int .u8 0, .int .u8 0, .int .u8 0] 24)).alloc (.cells #[.int .i64 0] 3)) (.cells #[.int .i64 0] 26)
  rw [Below.heap_alloc _ _ _ (by simp)]
  simpa using h
section
variable {w6 : World} {G : Nat} {i nn : Int} {r : Bool} {d : Nat → Int} {x y : Value}
theorem FrAt.same {w : World} (h : FrAt w G i r nn d) (k : Nat) (u : Value) (hk : (#[.int .i64 i, .bool r, .int .i64 nn, .int .u8 (d 0), .int .u8 (d 1), .int .u8 (d 2), .int .u8 (d 3), .int .u8 (d 4), .int .u8 (d 5), .int .u8 (d 6), .int .u8 (d 7)] : Array Value).setIfInBounds k u = #[.int .i64 i, .bool r, .int .i64 nn, .int .u8 (d 0), .int .u8 (d 1), .int .u8 (d 2), .int .u8 (d 3), .int .u8 (d 4), .int .u8 (d 5), .int .u8 (d 6), .int .u8 (d 7)]) : FrAt (w.setCell ⟨G, k, none⟩ u) G i r nn d := by
  have := setCell_blk (i := k) (u := u) h
  rw [hk] at this
  exact this
theorem fin_s (h : FrAt w6 G i r nn d) : FrAt (((((((((((w6.setCell ⟨G, 0, none⟩ (.int .i64 i)).setCell ⟨G, 1, none⟩ (.bool r)).setCell ⟨G, 2, none⟩ (.int .i64 nn)).setCell ⟨G, 3, none⟩ (.int .u8 (d 0))).setCell ⟨G, 4, none⟩ (.int .u8 (d 1))).setCell ⟨G, 5, none⟩ (.int .u8 (d 2))).setCell ⟨G, 6, none⟩ (.int .u8 (d 3))).setCell ⟨G, 7, none⟩ (.int .u8 (d 4))).setCell ⟨G, 8, none⟩ (.int .u8 (d 5))).setCell ⟨G, 9, none⟩ (.int .u8 (d 6))).setCell ⟨G, 10, none⟩ (.int .u8 (d 7))) G i r nn d := by
  have s0 := FrAt.same h 0 (.int .i64 i) rfl
  have s1 := FrAt.same s0 1 (.bool r) rfl
  have s2 := FrAt.same s1 2 (.int .i64 nn) rfl
  have s3 := FrAt.same s2 3 (.int .u8 (d 0)) rfl
  have s4 := FrAt.same s3 4 (.int .u8 (d 1)) rfl
  have s5 := FrAt.same s4 5 (.int .u8 (d 2)) rfl
  have s6 := FrAt.same s5 6 (.int .u8 (d 3)) rfl
  have s7 := FrAt.same s6 7 (.int .u8 (d 4)) rfl
  have s8 := FrAt.same s7 8 (.int .u8 (d 5)) rfl
  have s9 := FrAt.same s8 9 (.int .u8 (d 6)) rfl
  have s10 := FrAt.same s9 10 (.int .u8 (d 7)) rfl
  exact s10
theorem fin_g : w6.grownBy (((((((((((w6.setCell ⟨G, 0, none⟩ (.int .i64 i)).setCell ⟨G, 1, none⟩ (.bool r)).setCell ⟨G, 2, none⟩ (.int .i64 nn)).setCell ⟨G, 3, none⟩ (.int .u8 (d 0))).setCell ⟨G, 4, none⟩ (.int .u8 (d 1))).setCell ⟨G, 5, none⟩ (.int .u8 (d 2))).setCell ⟨G, 6, none⟩ (.int .u8 (d 3))).setCell ⟨G, 7, none⟩ (.int .u8 (d 4))).setCell ⟨G, 8, none⟩ (.int .u8 (d 5))).setCell ⟨G, 9, none⟩ (.int .u8 (d 6))).setCell ⟨G, 10, none⟩ (.int .u8 (d 7))) (some G) := by
  have g0 := grown_set w6 G 0 (.int .i64 i)
  have g1 := grown_trans g0 (grown_set _ G 1 (.bool r))
  have g2 := grown_trans g1 (grown_set _ G 2 (.int .i64 nn))
  have g3 := grown_trans g2 (grown_set _ G 3 (.int .u8 (d 0)))
  have g4 := grown_trans g3 (grown_set _ G 4 (.int .u8 (d 1)))
  have g5 := grown_trans g4 (grown_set _ G 5 (.int .u8 (d 2)))
  have g6 := grown_trans g5 (grown_set _ G 6 (.int .u8 (d 3)))
  have g7 := grown_trans g6 (grown_set _ G 7 (.int .u8 (d 4)))
  have g8 := grown_trans g7 (grown_set _ G 8 (.int .u8 (d 5)))
  have g9 := grown_trans g8 (grown_set _ G 9 (.int .u8 (d 6)))
  have g10 := grown_trans g9 (grown_set _ G 10 (.int .u8 (d 7)))
  exact g10
section
variable {wA w : World}
theorem fin_f' (h : FrAt wA G i r nn d) : FrAt ((wA.setCell ⟨G + 1, 0, none⟩ x).setCell ⟨G + 1 + 1, 0, none⟩ y).drew G i r nn d :=
  ((Below.heap_setCell (wA.setCell ⟨G + 1, 0, none⟩ x) ⟨G + 1 + 1, 0, none⟩ y G (by simp; omega)).trans (Below.heap_setCell wA ⟨G + 1, 0, none⟩ x G (by simp))).trans h
theorem fin_p' {z : Value} (h : wA.heap[G + 1]? = some (.cells #[z] 3 (0, 0))) : ((wA.setCell ⟨G + 1, 0, none⟩ x).setCell ⟨G + 1 + 1, 0, none⟩ y).drew.heap[G + 1]? = some (.cells #[x] 3 (0, 0)) :=
  (Below.heap_setCell (wA.setCell ⟨G + 1, 0, none⟩ x) ⟨G + 1 + 1, 0, none⟩ y (G + 1) (by simp)).trans (setCell_blk (i := 0) (u := x) h)
theorem fin_q' {z : Value} (h : wA.heap[G + 1 + 1]? = some (.cells #[z] 26 (0, 0))) : ((wA.setCell ⟨G + 1, 0, none⟩ x).setCell ⟨G + 1 + 1, 0, none⟩ y).drew.heap[G + 1 + 1]? = some (.cells #[y] 26 (0, 0)) :=
  setCell_blk (w := wA.setCell ⟨G + 1, 0, none⟩ x) (i := 0) (u := y) ((Below.heap_setCell wA ⟨G + 1, 0, none⟩ x (G + 1 + 1) (by simp)).trans h)
theorem fin_b' (h : Below G w wA) : Below G w ((wA.setCell ⟨G + 1, 0, none⟩ x).setCell ⟨G + 1 + 1, 0, none⟩ y).drew :=
  ((h.setCell (p := ⟨G + 1, 0, none⟩) (Nat.le_succ _) x).setCell (p := ⟨G + 1 + 1, 0, none⟩) (by simp; omega) y).drew
end
theorem fin_f (h : FrAt w6 G i r nn d) : FrAt (((((((((((((w6.setCell ⟨G, 0, none⟩ (.int .i64 i)).setCell ⟨G, 1, none⟩ (.bool r)).setCell ⟨G, 2, none⟩ (.int .i64 nn)).setCell ⟨G, 3, none⟩ (.int .u8 (d 0))).setCell ⟨G, 4, none⟩ (.int .u8 (d 1))).setCell ⟨G, 5, none⟩ (.int .u8 (d 2))).setCell ⟨G, 6, none⟩ (.int .u8 (d 3))).setCell ⟨G, 7, none⟩ (.int .u8 (d 4))).setCell ⟨G, 8, none⟩ (.int .u8 (d 5))).setCell ⟨G, 9, none⟩ (.int .u8 (d 6))).setCell ⟨G, 10, none⟩ (.int .u8 (d 7))).setCell ⟨G + 1, 0, none⟩ x).setCell ⟨G + 1 + 1, 0, none⟩ y).drew G i r nn d := fin_f' (fin_s h)
theorem fin_p {z : Value} (h : w6.heap[G + 1]? = some (.cells #[z] 3 (0, 0))) (hl : G + 1 < w6.heap.size) : (((((((((((((w6.setCell ⟨G, 0, none⟩ (.int .i64 i)).setCell ⟨G, 1, none⟩ (.bool r)).setCell ⟨G, 2, none⟩ (.int .i64 nn)).setCell ⟨G, 3, none⟩ (.int .u8 (d 0))).setCell ⟨G, 4, none⟩ (.int .u8 (d 1))).setCell ⟨G, 5, none⟩ (.int .u8 (d 2))).setCell ⟨G, 6, none⟩ (.int .u8 (d 3))).setCell ⟨G, 7, none⟩ (.int .u8 (d 4))).setCell ⟨G, 8, none⟩ (.int .u8 (d 5))).setCell ⟨G, 9, none⟩ (.int .u8 (d 6))).setCell ⟨G, 10, none⟩ (.int .u8 (d 7))).setCell ⟨G + 1, 0, none⟩ x).setCell ⟨G + 1 + 1, 0, none⟩ y).drew.heap[G + 1]? = some (.cells #[x] 3 (0, 0)) :=
  fin_p' (z := z) ((fin_g.block (G + 1) hl (by simp)).trans h)
theorem fin_q {z : Value} (h : w6.heap[G + 1 + 1]? = some (.cells #[z] 26 (0, 0))) (hl : G + 1 + 1 < w6.heap.size) : (((((((((((((w6.setCell ⟨G, 0, none⟩ (.int .i64 i)).setCell ⟨G, 1, none⟩ (.bool r)).setCell ⟨G, 2, none⟩ (.int .i64 nn)).setCell ⟨G, 3, none⟩ (.int .u8 (d 0))).setCell ⟨G, 4, none⟩ (.int .u8 (d 1))).setCell ⟨G, 5, none⟩ (.int .u8 (d 2))).setCell ⟨G, 6, none⟩ (.int .u8 (d 3))).setCell ⟨G, 7, none⟩ (.int .u8 (d 4))).setCell ⟨G, 8, none⟩ (.int .u8 (d 5))).setCell ⟨G, 9, none⟩ (.int .u8 (d 6))).setCell ⟨G, 10, none⟩ (.int .u8 (d 7))).setCell ⟨G + 1, 0, none⟩ x).setCell ⟨G + 1 + 1, 0, none⟩ y).drew.heap[G + 1 + 1]? = some (.cells #[y] 26 (0, 0)) :=
  fin_q' (z := z) ((fin_g.block (G + 1 + 1) hl (by simp; omega)).trans h)
theorem fin_b {w : World} (h : Below G w w6) (hs : G ≤ w6.heap.size) : Below G w (((((((((((((w6.setCell ⟨G, 0, none⟩ (.int .i64 i)).setCell ⟨G, 1, none⟩ (.bool r)).setCell ⟨G, 2, none⟩ (.int .i64 nn)).setCell ⟨G, 3, none⟩ (.int .u8 (d 0))).setCell ⟨G, 4, none⟩ (.int .u8 (d 1))).setCell ⟨G, 5, none⟩ (.int .u8 (d 2))).setCell ⟨G, 6, none⟩ (.int .u8 (d 3))).setCell ⟨G, 7, none⟩ (.int .u8 (d 4))).setCell ⟨G, 8, none⟩ (.int .u8 (d 5))).setCell ⟨G, 9, none⟩ (.int .u8 (d 6))).setCell ⟨G, 10, none⟩ (.int .u8 (d 7))).setCell ⟨G + 1, 0, none⟩ x).setCell ⟨G + 1 + 1, 0, none⟩ y).drew :=
  fin_b' (h.grown fin_g hs (fun k e => by cases e; exact Nat.le_refl _))
end
set_option maxHeartbeats 4000000 in
theorem decode_ok (i nn : Int) (r : Bool) (d : Nat → Int) (u : RS) (A : Option Addr) (n c : Nat) (b : List Int) (w : World) (h : Byt w w.heap.size A n c b)
    (hfr : ∀ (g : Nat) (v : Value) (w0 : World), Rd w.heap.size g A n c b v ⟨0, [], 0, 0⟩ w0 → Calls Try.prog 22 #[.pointer (some ⟨g, 0, none⟩)] w0 fun e w' => e = .returned (.agg #[.int .i64 i, .bool r, .int .i64 nn, .int .u8 (d 0), .int .u8 (d 1), .int .u8 (d 2), .int .u8 (d 3), .int .u8 (d 4), .int .u8 (d 5), .int .u8 (d 6), .int .u8 (d 7)]) ∧ ∃ v', Rd w.heap.size g A n c b v' u w' ∧ Mv g v v' w0 w') :
    Calls Try.prog 13 #[.slice A n c] w fun e w' => e = .returned (.tuple #[.agg #[.int .i64 i, .bool r, .int .i64 nn, .int .u8 (d 0), .int .u8 (d 1), .int .u8 (d 2), .int .u8 (d 3), .int .u8 (d 4), .int .u8 (d 5), .int .u8 (d 6), .int .u8 (d 7)], .int .i64 u.at_, .int .i64 0]) ∧ Below w.heap.size w w' := by
  have hmf : ∀ (fn : Fn) (first cap : Array Value) (w : World), (Instr.makeFunc fn first cap).run Try.prog w = .ok (.func fn first cap) w := fun _ _ _ _ => rfl
  have hb4 : Below w.heap.size w ((((w.alloc (.cells #[.int .i64 0, .bool false, .int .i64 0, .int .u8 0, .int .u8 0, .int .u8 0, .int .u8 0, .int .u8 0, .int .u8 0, .int .u8 0, .int .u8 0] 24)).alloc (.cells #[.int .i64 0] 3)).alloc (.cells #[.int .i64 0] 26)).alloc (.cells #[.slice A n c, .int .i64 0, .slice none 0 0, .int .u8 0, .int .i64 0] 46)) := ((((Below.refl _ _).alloc (Nat.le_refl _) _).alloc (by simp) _).alloc (by simp; omega) _).alloc (by simp; omega) _
  have hrd : Rd w.heap.size (w.heap.size + 3) A n c b (.slice none 0 0) ⟨0, [], 0, 0⟩ ((((w.alloc (.cells #[.int .i64 0, .bool false, .int .i64 0, .int .u8 0, .int .u8 0, .int .u8 0, .int .u8 0, .int .u8 0, .int .u8 0, .int .u8 0, .int .u8 0] 24)).alloc (.cells #[.int .i64 0] 3)).alloc (.cells #[.int .i64 0] 26)).alloc (.cells #[.slice A n c, .int .i64 0, .slice none 0 0, .int .u8 0, .int .i64 0] 46)) := by
    refine ⟨?_, World.ownsRow_nil _ _ _ _, h.below hb4, by omega, by simp, by simp, .inl rfl, by simp⟩
    have := heap_alloc_new (((w.alloc (.cells #[.int .i64 0, .bool false, .int .i64 0, .int .u8 0, .int .u8 0, .int .u8 0, .int .u8 0, .int .u8 0, .int .u8 0, .int .u8 0, .int .u8 0] 24)).alloc (.cells #[.int .i64 0] 3)).alloc (.cells #[.int .i64 0] 26)) (.cells #[.slice A n c, .int .i64 0, .slice none 0 0, .int .u8 0, .int .i64 0] 46)
    simpa using this
  have hmx := h.max
  have hcp := h.cap
  simp only [maxLen] at hmx
  have HFR := Lib.hid hfr
  have HR := Lib.hid hrd
  have HB := Lib.hid hb4
  clear hfr hrd hb4 h
  go_enter_defers Try.func13, Try.ntmps13
  go_wp2_with (first
    | (go_at_call 22; refine (HFR.out _ _ _ HR.out).mono ?_; rintro e w5 ⟨rfl, v5, h5, hm5⟩; have hf5 := frat_keep (decode_f w A n c) hm5 (by omega) (by simp [Value.ownBlock]); have hp5 := one_keep (decode_p w A n c) hm5 (by omega) (by simp [Value.ownBlock]); have hq5 := one_keep (decode_q w A n c) hm5 (by omega) (by simp [Value.ownBlock]); have hb5 := HB.out.trans (mv_below hm5 (by simp [Value.ownBlock]) (show w.heap.size ≤ w.heap.size + 3 by omega)); have H5 := Lib.hid h5; have HF5 := Lib.hid hf5; have HP5 := Lib.hid hp5; have HQ5 := Lib.hid hq5; have HB5 := Lib.hid hb5; clear h5 hm5 hf5 hp5 hq5 hb5)
    | (refine wpList_store_row rfl _ (.tmp 2) (.tmp 11) rfl w.heap.size _ rfl rfl _ _ HF5.out info_frame rfl (one_frame i nn r d) ?_))
  have hr6 := H5.out.aside (grown_setRow w5 w.heap.size #[.int .i64 i, .bool r, .int .i64 nn, .int .u8 (d 0), .int .u8 (d 1), .int .u8 (d 2), .int .u8 (d 3), .int .u8 (d 4), .int .u8 (d 5), .int .u8 (d 6), .int .u8 (d 7)]) (Nat.le_refl _) (by omega) (fun e => by have := H5.out.own.lt _ e; omega)
  have hf6 := HF5.out.row i nn r d
  have hp6 : (w5.setRow w.heap.size #[.int .i64 i, .bool r, .int .i64 nn, .int .u8 (d 0), .int .u8 (d 1), .int .u8 (d 2), .int .u8 (d 3), .int .u8 (d 4), .int .u8 (d 5), .int .u8 (d 6), .int .u8 (d 7)]).heap[w.heap.size + 1]? = _ := (setRow_other w5 w.heap.size (w.heap.size + 1) #[.int .i64 i, .bool r, .int .i64 nn, .int .u8 (d 0), .int .u8 (d 1), .int .u8 (d 2), .int .u8 (d 3), .int .u8 (d 4), .int .u8 (d 5), .int .u8 (d 6), .int .u8 (d 7)] (by omega)).trans HP5.out
  have hq6 : (w5.setRow w.heap.size #[.int .i64 i, .bool r, .int .i64 nn, .int .u8 (d 0), .int .u8 (d 1), .int .u8 (d 2), .int .u8 (d 3), .int .u8 (d 4), .int .u8 (d 5), .int .u8 (d 6), .int .u8 (d 7)]).heap[w.heap.size + 1 + 1]? = _ := (setRow_other w5 w.heap.size (w.heap.size + 1 + 1) #[.int .i64 i, .bool r, .int .i64 nn, .int .u8 (d 0), .int .u8 (d 1), .int .u8 (d 2), .int .u8 (d 3), .int .u8 (d 4), .int .u8 (d 5), .int .u8 (d 6), .int .u8 (d 7)] (by omega)).trans HQ5.out
  have hb6 := below_setRow HB5.out (Nat.le_refl w.heap.size) #[.int .i64 i, .bool r, .int .i64 nn, .int .u8 (d 0), .int .u8 (d 1), .int .u8 (d 2), .int .u8 (d 3), .int .u8 (d 4), .int .u8 (d 5), .int .u8 (d 6), .int .u8 (d 7)]
  clear HFR HR HB H5 HF5 HP5 HQ5 HB5
  generalize w5.setRow w.heap.size #[.int .i64 i, .bool r, .int .i64 nn, .int .u8 (d 0), .int .u8 (d 1), .int .u8 (d 2), .int .u8 (d 3), .int .u8 (d 4), .int .u8 (d 5), .int .u8 (d 6), .int .u8 (d 7)] = w6 at hr6 hf6 hp6 hq6 hb6 ⊢
  obtain ⟨c0, c1, c2, c3, c4, c5, c6, c7, c8, c9, c10⟩ := hf6.cells
  have f0 := hf6.frozen 0
  have f1 := hf6.frozen 1
  have f2 := hf6.frozen 2
  have f3 := hf6.frozen 3
  have f4 := hf6.frozen 4
  have f5 := hf6.frozen 5
  have f6 := hf6.frozen 6
  have f7 := hf6.frozen 7
  have f8 := hf6.frozen 8
  have f9 := hf6.frozen 9
  have f10 := hf6.frozen 10
  have ca : w6.cell? ⟨w.heap.size + 1 + 1 + 1, 1, none⟩ = some (.int .i64 u.at_) := hr6.cells.2.1
  have cp : w6.cell? ⟨w.heap.size + 1, 0, none⟩ = some (.int .i64 0) := by rw [cell_of_row _ _ _ _ _ _ hp6]; rfl
  have cq : w6.cell? ⟨w.heap.size + 1 + 1, 0, none⟩ = some (.int .i64 0) := by rw [cell_of_row _ _ _ _ _ _ hq6]; rfl
  have fp := frozen_of_row w6 (w.heap.size + 1) 0 _ _ hp6
  have fq := frozen_of_row w6 (w.heap.size + 1 + 1) 0 _ _ hq6
  have HF6 := Lib.hid hf6
  have HP6 := Lib.hid hp6
  have HQ6 := Lib.hid hq6
  have HB6 := Lib.hid hb6
  have HR6 := Lib.hid hr6
  clear hr6 hf6 hp6 hq6 hb6
  refine wp_region_noPanic ?_
  go_region
  all_goals
    refine NoPanic.normal ?_
    go_wp2
    refine leaves_cons (f := 21) (args := #[.pointer (some ⟨w.heap.size, 0, none⟩), .pointer (some ⟨w.heap.size + 1, 0, none⟩), .pointer (some ⟨w.heap.size + 1 + 1, 0, none⟩)]) (by simp) (by simp [go_sem]) ?_
    refine (catch_idle _ _ _ _).mono ?_
    rintro e u' w'' ⟨rfl, rfl, rfl⟩
    have hf7 := fin_f (x := .int .i64 u.at_) (y := .int .i64 0) HF6.out
    have hp7 := fin_p (i := i) (nn := nn) (r := r) (d := d) (x := .int .i64 u.at_) (y := .int .i64 0) HP6.out (Array.getElem?_eq_some_iff.1 HP6.out).1
    have hq7 := fin_q (i := i) (nn := nn) (r := r) (d := d) (x := .int .i64 u.at_) (y := .int .i64 0) HQ6.out (Array.getElem?_eq_some_iff.1 HQ6.out).1
    have hb7 := fin_b (i := i) (nn := nn) (r := r) (d := d) (x := .int .i64 u.at_) (y := .int .i64 0) HB6.out (Nat.le_of_lt HF6.out.lt)
    clear c0 c1 c2 c3 c4 c5 c6 c7 c8 c9 c10 f0 f1 f2 f3 f4 f5 f6 f7 f8 f9 f10 ca cp cq fp fq HF6 HP6 HQ6 HB6 HR6
    generalize World.drew _ = w7 at hf7 hp7 hq7 hb7 ⊢
    obtain ⟨c0, c1, c2, c3, c4, c5, c6, c7, c8, c9, c10⟩ := hf7.cells
    have cp : w7.cell? ⟨w.heap.size + 1, 0, none⟩ = some (.int .i64 u.at_) := by rw [cell_of_row _ _ _ _ _ _ hp7]; rfl
    have cq : w7.cell? ⟨w.heap.size + 1 + 1, 0, none⟩ = some (.int .i64 0) := by rw [cell_of_row _ _ _ _ _ _ hq7]; rfl
    simp [Leaves, settle, results, Try.results13, go_sem, c0, c1, c2, c3, c4, c5, c6, c7, c8, c9, c10, cp, cq, hb7]
end Go.Proofs.Ytkgnhmddnfmhjaa
