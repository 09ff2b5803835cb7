/- What New, Len, Changes and get of a dictionary answer. -/
import Derived.Test.YtgaoplbocjadaaaYDh
import Derived.Test.YtgaoplbocjadaaaYDRl
namespace Go.Proofs.Ytgaoplbocjadaaa
open Go.RowKit
set_option linter.unusedSimpArgs false
set_option linter.unusedVariables false
theorem five_cell {w : World} {g o k : Nat} {a b c d e : Value} (h : ¬ o = g) : (((((w.setCell ⟨g, 0, none⟩ a).setCell ⟨g, 1, none⟩ b).setCell ⟨g, 2, none⟩ c).setCell ⟨g, 3, none⟩ d).setCell ⟨g, 4, none⟩ e).cell? ⟨o, k, none⟩ = w.cell? ⟨o, k, none⟩ := by
  have e1 : ∀ (W : World) (p : Nat) (x : Value), (W.setCell ⟨g, p, none⟩ x).cell? ⟨o, k, none⟩ = W.cell? ⟨o, k, none⟩ := fun W p x => by
    unfold World.cell?
    rw [Below.heap_setCell W ⟨g, p, none⟩ x o h]
  rw [e1, e1, e1, e1, e1]
theorem dnew_any (w : World) : Calls Try.prog 17 #[] w fun e w' => ∃ g s, e = .returned (.pointer (some ⟨g, 0, none⟩)) ∧ DiI w' w.heap.size g s [] 0 (.slice none 0 0) ∧ w.heap.size ≤ g ∧ w.heap.size ≤ s ∧ Below w.heap.size w w' := by
  have HN := Lib.hid (newE w)
  go_enter Try.func17, Try.ntmps17
  go_wp2_with fail
  refine HN.out.mono ?_
  rintro e w1 ⟨rfl, hx, hb⟩
  have hba : Below w1.heap.size w1 (w1.alloc (.cells #[.pointer (some ⟨w.heap.size, 0, none⟩), .int .i64 0] 134)) := (Below.refl _ _).alloc (Nat.le_refl _) _
  have hd : DiI (w1.alloc (.cells #[.pointer (some ⟨w.heap.size, 0, none⟩), .int .i64 0] 134)) w.heap.size w1.heap.size w.heap.size [] 0 (.slice none 0 0) := ⟨heap_alloc_new w1 _, by
    have := hx.below hba
    exact ⟨this.box, own_less this.row (by omega), this.isnt⟩⟩
  have HD := Lib.hid hd
  have HS := Lib.hid hb.size
  have HB := Lib.hid (kF hba hb)
  clear hx hb hba hd HN
  go_wp2_with fail
  go_ret
  exact ⟨_, _, rfl, HD.out, HS.out, Nat.le_refl _, HB.out⟩
theorem dlen_any (w : World) (base g s : Nat) (T : List (Int × Ent)) (ch : Int) (v : Value) (h : DiI w base g s T ch v) :
    Calls Try.prog 48 #[.pointer (some ⟨g, 0, none⟩)] w fun e w' => e = .returned (.int .i64 (T.length : Nat)) ∧ w' = w := by
  have HL := Lib.hid (lenE w base s T.length (fe T) v h.sh)
  obtain ⟨c0, c1⟩ := h.cells
  have hl := h.lt
  generalize T.length = n at *
  clear h
  go_enter Try.func48, Try.ntmps48
  go_wp2_with fail
  refine HL.out.mono ?_
  rintro e w1 ⟨rfl, rfl⟩
  go_wp2_with fail
  go_ret
  exact ⟨rfl, rfl⟩
set_option maxRecDepth 100000 in
set_option maxHeartbeats 2000000 in
theorem dget_any (w : World) (base g s : Nat) (T : List (Int × Ent)) (ch : Int) (v : Value) (i j : Int) (h : DiI w base g s T ch v) (hT : T.length ≤ 1000) (hs : Rise T) :
    Calls Try.prog 76 #[.pointer (some ⟨g, 0, none⟩), .agg #[.int .i64 i, .int .i64 j]] w fun e w' => e = .returned (.tuple #[entV (thI e0 (numI i j) T), .bool (hasI (numI i j) T)]) ∧ Below w.heap.size w w' := by
  have hb0 : Below w.heap.size w ((w.alloc (.cells #[.int .i64 i, .int .i64 j] 24)).alloc (.cells #[.int .i64 0, .int .i64 0, .int .i64 0, .int .i64 0, .string ⟨#[]⟩] 132)) := ((Below.refl _ _).alloc (Nat.le_refl _) _).alloc (by simp) _
  have hk0 : Key2 ((w.alloc (.cells #[.int .i64 i, .int .i64 j] 24)).alloc (.cells #[.int .i64 0, .int .i64 0, .int .i64 0, .int .i64 0, .string ⟨#[]⟩] 132)) w.heap.size i j := heap_alloc2_old w _ _
  have hz0 : EntAt ((w.alloc (.cells #[.int .i64 i, .int .i64 j] 24)).alloc (.cells #[.int .i64 0, .int .i64 0, .int .i64 0, .int .i64 0, .string ⟨#[]⟩] 132)) (w.heap.size + 1) 0 0 0 0 ⟨#[]⟩ := heap_alloc2_new w _ _
  have HG := Lib.hid (fun x (hx : Below w.heap.size w x) => tgetE x base s T v (numI i j) (h.sh.below hx) (by omega) hs)
  have HH := Lib.hid (fun x (hx : Below w.heap.size w x) => (h.below hx).cells.1)
  generalize hasI (numI i j) T = B at HG ⊢
  generalize thI e0 (numI i j) T = E at HG ⊢
  obtain ⟨ek, ea, el, eh, eb⟩ := E
  dsimp only [entV] at HG ⊢
  generalize strOfNums eb = S at HG ⊢
  have HB0 := Lib.hid hb0
  have HK0 := Lib.hid hk0
  have HZ0 := Lib.hid hz0
  have hgl := h.lt
  clear h hs hb0 hk0 hz0
  go_enter Try.func76, Try.ntmps76
  go_wp2_with fail
  generalize ((w.alloc (.cells #[.int .i64 i, .int .i64 j] 24)).alloc (.cells #[.int .i64 0, .int .i64 0, .int .i64 0, .int .i64 0, .string ⟨#[]⟩] 132)) = w0 at HB0 HK0 HZ0 ⊢
  have hS : ∀ x, Below w0.heap.size w0 x → x.cell? ⟨g, 0, none⟩ = some (.pointer (some ⟨s, 0, none⟩)) ∧ x.cell? ⟨w.heap.size, 0, none⟩ = some (.int .i64 i) ∧ x.cell? ⟨w.heap.size, 1, none⟩ = some (.int .i64 j) := fun x hx => ⟨HH.out x (kF hx HB0.out), ((HK0.out).below hx).cells⟩
  have HS := Lib.hid hS
  clear hS
  refine wp_region_last (fun w' => w'.cell? ⟨g, 0, none⟩ = some (.pointer (some ⟨s, 0, none⟩)) ∧ w'.cell? ⟨w.heap.size, 0, none⟩ = some (.int .i64 i) ∧ w'.cell? ⟨w.heap.size, 1, none⟩ = some (.int .i64 j)) 10 (by kernel_rfl) (HS.out _ (kD _)) (fun hHeld => ?_)
  refine wpAnyL_take (i := 0) (v := ?_) rfl (by kernel_rfl) (by kernel_rfl) (by kernel_rfl) (by kernel_rfl) (by kernel_rfl) (fun _ _ _ h => h) (Or.inl ⟨by rfl, ?_⟩) (by assumption) ?_
  rotate_left
  · intro wq hSw; (try dsimp only at hSw); first | (go_simp; done) | (go_simp; with_reducible rfl) | with_reducible rfl
  try simp only [Act.put, List.setIfInBounds_toArray, List.set_cons_zero, List.set_cons_succ]
  refine wpAnyL_take (i := 1) (v := ?_) rfl (by kernel_rfl) (by kernel_rfl) (by kernel_rfl) (by kernel_rfl) (by kernel_rfl) (fun _ _ _ h => h) (Or.inl ⟨by rfl, ?_⟩) (by assumption) ?_
  rotate_left
  · intro wq hSw; (try dsimp only at hSw); first | (go_simp; done) | (go_simp; with_reducible rfl) | with_reducible rfl
  try simp only [Act.put, List.setIfInBounds_toArray, List.set_cons_zero, List.set_cons_succ]
  refine wpAnyL_take (i := 2) (v := ?_) rfl (by kernel_rfl) (by kernel_rfl) (by kernel_rfl) (by kernel_rfl) (by kernel_rfl) (fun _ _ _ h => h) (Or.inl ⟨by rfl, ?_⟩) (by assumption) ?_
  rotate_left
  · intro wq hSw; (try dsimp only at hSw); first | (go_simp; done) | (go_simp; with_reducible rfl) | with_reducible rfl
  try simp only [Act.put, List.setIfInBounds_toArray, List.set_cons_zero, List.set_cons_succ]
  refine wpAnyL_take (i := 3) (v := ?_) rfl (by kernel_rfl) (by kernel_rfl) (by kernel_rfl) (by kernel_rfl) (by kernel_rfl) (fun _ _ _ h => h) (Or.inl ⟨by rfl, ?_⟩) (by assumption) ?_
  rotate_left
  · intro wq hSw; (try dsimp only at hSw); first | (go_simp; done) | (go_simp; with_reducible rfl) | with_reducible rfl
  try simp only [Act.put, List.setIfInBounds_toArray, List.set_cons_zero, List.set_cons_succ]
  refine wpAnyL_take (i := 4) (v := ?_) rfl (by kernel_rfl) (by kernel_rfl) (by kernel_rfl) (by kernel_rfl) (by kernel_rfl) (fun _ _ _ h => h) (Or.inl ⟨by rfl, ?_⟩) (by assumption) ?_
  rotate_left
  · intro wq hSw; (try dsimp only at hSw); first | (go_simp; done) | (go_simp; with_reducible rfl) | with_reducible rfl
  try simp only [Act.put, List.setIfInBounds_toArray, List.set_cons_zero, List.set_cons_succ]
  refine wpAnyL_ready (rs := [5]) (by kernel_rfl) (by simp) ?_
  refine (AllReadyL.cons rfl (fun K hK => ?_) AllReadyL.nil)
  go_simp
  go_wp2_with (go_at_call 91; refine (number_any i j _).mono ?_; rintro e w1 ⟨rfl, hb1⟩; have HB1 := Lib.hid (kF hb1 (kD w0)); clear hb1)
  refine hK.out _ _ ?_ (fun hHeld => ?_)
  · (try dsimp only); exact HS.out _ HB1.out
  clear hK K
  refine wpAnyL_ready (rs := [6]) (by kernel_rfl) (by simp) ?_
  refine (AllReadyL.cons rfl (fun K hK => ?_) AllReadyL.nil)
  go_simp
  go_wp2_with (go_at_call 112; refine (HG.out w1 (kF HB1.out HB0.out)).mono ?_; rintro e w2 ⟨rfl, hb2⟩; have HB2 := Lib.hid (kF hb2 HB1.out); have HZ2 := Lib.hid (HZ0.out.below HB2.out); obtain ⟨d0, d1, d2, d3, d4⟩ := HZ2.out.cells; obtain ⟨f0, f1, f2, f3, f4⟩ := HZ2.out.froz; clear hb2)
  refine hK.out _ _ ?_ (fun hHeld => ?_)
  · (try dsimp only); exact HS.out _ HB2.out
  clear hK K
  refine wpAnyL_take (i := 7) (v := ?_) rfl (by kernel_rfl) (by kernel_rfl) (by kernel_rfl) (by kernel_rfl) (by kernel_rfl) (fun _ _ _ h => h) (Or.inl ⟨by rfl, ?_⟩) (by assumption) ?_
  rotate_left
  · intro wq hSw; (try dsimp only at hSw); first | (go_simp; done) | (go_simp; with_reducible rfl) | with_reducible rfl
  try simp only [Act.put, List.setIfInBounds_toArray, List.set_cons_zero, List.set_cons_succ]
  refine wpAnyL_take (i := 8) (v := ?_) rfl (by kernel_rfl) (by kernel_rfl) (by kernel_rfl) (by kernel_rfl) (by kernel_rfl) (fun _ _ _ h => h) (Or.inl ⟨by rfl, ?_⟩) (by assumption) ?_
  rotate_left
  · intro wq hSw; (try dsimp only at hSw); first | (go_simp; done) | (go_simp; with_reducible rfl) | with_reducible rfl
  try simp only [Act.put, List.setIfInBounds_toArray, List.set_cons_zero, List.set_cons_succ]
  refine wpAnyL_ready (rs := [9]) (by kernel_rfl) (by simp) ?_
  refine (AllReadyL.cons rfl (fun K hK => ?_) AllReadyL.nil)
  go_simp
  refine hK.out _ _ ?_ (fun hHeld => ?_)
  · (try dsimp only); exact ⟨(five_cell (by omega)).trans (HS.out _ HB2.out).1, (five_cell (by omega)).trans (HS.out _ HB2.out).2.1, (five_cell (by omega)).trans (HS.out _ HB2.out).2.2⟩
  clear hK K
  refine wpAnyL_ready (rs := [10]) (by kernel_rfl) (by simp) ?_
  refine AllReadyL.last rfl (fun K hK => ?_)
  go_simp
  refine hK.out _ _ ?_
  clear hK K
  refine wpAnyL_done (by kernel_rfl) ?_ _
  clear hHeld
  go_wp2_with fail
  exact bodyPost_ret (results_cell_tmp_row rfl _ _ (w.heap.size + 1) _ _ _ _ rfl HZ2.out.five Try.underlying132 rfl info_ent) rfl ⟨rfl, five_below (kF HB2.out HB0.out) (by omega)⟩
end Go.Proofs.Ytgaoplbocjadaaa