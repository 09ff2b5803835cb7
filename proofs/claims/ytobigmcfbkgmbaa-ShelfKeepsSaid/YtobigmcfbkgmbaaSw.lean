/- What the functions that All, From and Back hand back do. -/
import Derived.Test.YtobigmcfbkgmbaaSv
import Derived.Test.YtobigmcfbkgmbaaRl
namespace Go.Proofs.Ytobigmcfbkgmbaa
open Go.RowKit Go.Shelf
attribute [local go_sem] Oper.semAt_some

theorem kD (w : World) : Below w.heap.size w w.drew := ⟨rfl, rfl, rfl, Nat.le_refl _, fun _ _ => rfl⟩
theorem kA {a w : World} (h : Below a.heap.size a w) (o : Obj) : Below a.heap.size a (w.alloc o) := h.alloc h.size o
def encP (x : Int × Int) : Array Value := #[.int .i64 x.1, .int .i64 x.2]
/-- The rows that are told, out of a copy of their own. -/
theorem told_rows (n : Nat) (hn : 4 ≤ n) (l : Nat) (T : List (Int × Int)) (Fx : Nat → Prop) (tb : World → Option Nat) (B0 : Nat) (hloc : Loc B0 tb) (J Jx : List (Int × Int) → World → Prop) (W : World) (hB0 : B0 ≤ W.heap.size) (hJ : OwnFrom W.heap.size J) (hJx : OwnFrom W.heap.size Jx)
    (hF : ∀ k, Fx k → k < W.heap.size) (htl : ∀ k, tb W = some k → k < W.heap.size)
    (hY : ∀ pre x W1, J pre W1 → pre.length < T.length → YieldAt Fence.wide (n - 1) Try.prog l (encP x) W1 (Answ (Kq Fx tb) J Jx W.heap.size (pre ++ [x]) W1)) (h0 : J [] W)
    (w3 : World) (a3 : Option Addr) (c3 : Nat) (hb : Below W.heap.size W w3) (base : Nat) (hbase : W.heap.size ≤ base) (hrow : w3.ownsRow base 59 2 (.slice a3 T.length c3) T.length (fl eI eI T)) :
    Calls Try.prog 27 #[.func (Fn.func 43) #[] #[.pointer (some ⟨w3.heap.size, 0, none⟩)], .func (.yield l) #[] #[]] (w3.alloc (.cells #[.slice a3 T.length c3] 51)) fun e W' => (∃ v, e = .returned v) ∧ ((∃ ys, ys = T ∧ J ys W') ∨ (∃ pre, pre <+: T ∧ Jx pre W')) := by
  have hba : Below w3.heap.size w3 (w3.alloc (.cells #[.slice a3 T.length c3] 51)) := (Below.refl _ _).alloc (Nat.le_refl _) _
  have hb2 := kF hba hb
  have hbx := heap_alloc_new w3 (.cells #[.slice a3 T.length c3] 51)
  have htW : ∀ X, Below W.heap.size W X → tb X = tb W := fun X hX => hloc _ _ fun k hk => hX.block k (by omega)
  have hlt : ∀ b, (Value.slice a3 T.length c3).ownBlock = some b → W.heap.size ≤ b := fun b hb => Nat.le_trans hbase (hrow.lt b hb).1
  have ht := tell_in n (n - 1) (by omega) l W.heap.size 43 #[.pointer (some ⟨w3.heap.size, 0, none⟩)] (enters_of Try.func43 (by kernel_rfl) rfl) (en T) T.length Fx tb B0 hloc J Jx _ (Nat.le_trans hB0 hb2.size) hb2.size hJ hJx (fun k hk => Nat.lt_of_lt_of_le (hF k hk) hb2.size) (fun k hk => by rw [htW _ hb2] at hk; exact Nat.lt_of_lt_of_le (htl k hk) hb2.size) hY
    (fun w' hw' => sall_stops (n - 1) (by omega) w3.heap.size base (.slice a3 T.length c3) T Fx tb B0 hloc w' (by have := hb2.size; have := hw'.size; omega) ((hw'.block _ (by simp)).trans hbx) (own_below (own_below hrow hba) hw') (fun b hb hf => by have := hlt b hb; have := hF b hf; omega) (fun b hb e => by rw [htW _ (kF hw' hb2)] at e; have := hlt b hb; have := htl b e; omega))
    (hJ [] W _ none h0 (grown_below none hb2) (fun r e => by cases e))
  rw [en_snd] at ht
  exact callsIn_wide.1 ht

set_option maxRecDepth 100000 in
set_option maxHeartbeats 2000000 in
theorem all1_L (n : Nat) (hn : 5 ≤ n) (gb g base : Nat) (v : Value) (T : List (Int × Int)) (Fx : Nat → Prop) (tb : World → Option Nat) (B0 : Nat) (hloc : Loc B0 tb) (w : World) (hB0 : B0 ≤ w.heap.size)
    (hbox : w.heap[gb]? = some (.cells #[.pointer (some ⟨g, 0, none⟩)] 23 (0, 0))) (h : Sh 53 59 w base g T.length (fl eI eI T) v) (hT : T.length ≤ 1000)
    (hF : ∀ k, Fx k → k < w.heap.size) (htl : ∀ k, tb w = some k → k < w.heap.size) :
    SeqL n Try.prog 26 #[.pointer (some ⟨gb, 0, none⟩)] encP (Kq Fx tb) (fun ys => ys = T) (fun pre => pre <+: T) T.length w := by
  intro l J Jx W hW hJ hJx hY h0
  have hgl := (Array.getElem?_eq_some_iff.1 hbox).1
  have HS := Lib.hid (fun x (hx : Below W.heap.size W x) => show x.cell? ⟨gb, 0, none⟩ = some (.pointer (some ⟨g, 0, none⟩)) from by rw [cell_of_row _ _ _ _ _ _ (((kF hx hW).block gb hgl).trans hbox)]; rfl)
  have HLN := Lib.hid (fun x (hx : Below W.heap.size W x) => lenA x base g T.length (fl eI eI T) v (h.below (kF hx hW)))
  have HPT := Lib.hid (fun x (hx : Below W.heap.size W x) => partA x base g T.length (fl eI eI T) v (h.below (kF hx hW)) hT (fl_one eI eI (fun _ => rfl) (fun _ => rfl) T))
  have HTL := Lib.hid (fun w3 a3 c3 hb hrow => told_rows (n - 1) (by omega) l T Fx tb B0 hloc J Jx W (Nat.le_trans hB0 hW.size) hJ hJx (fun k hk => Nat.lt_of_lt_of_le (hF k hk) hW.size) (fun k hk => by rw [hloc w W fun k hk => hW.block k (by omega)] at hk; exact Nat.lt_of_lt_of_le (htl k hk) hW.size)
    (fun pre x W1 hj hl => by obtain ⟨fn, tmps, assign, body, hy, hR⟩ := hY pre x W1 hj hl; exact ⟨fn, tmps, assign, body, hy, hR.1, fun c cs _ => hR.2 c cs (wide_room _)⟩) h0 w3 a3 c3 hb W.heap.size (Nat.le_refl _) hrow)
  generalize T.length = N at *
  clear h hY h0 hF htl hJ hJx
  refine callsIn_of_wp Try.func26 rfl trivial ?_ rfl
  simp only [Try.ntmps26, List.size_toArray, List.length_cons, List.length_nil, Nat.reduceAdd, Nat.reduceSub, Array.replicate_succ, Array.replicate_zero, List.push_toArray, List.append_toArray, List.nil_append, List.cons_append]
  gi_wp2_with fail
  refine wpIn_wide.2 ?_
  refine wp_region_last (fun w' => w'.cell? ⟨gb, 0, none⟩ = some (.pointer (some ⟨g, 0, none⟩))) 6 (by kernel_rfl) (HS.out _ (kD _)) (fun hHeld => ?_)
  refine wpAnyL_take (i := 0) (v := ?_) rfl (by kernel_rfl) (by kernel_rfl) (by kernel_rfl) (by kernel_rfl) (by kernel_rfl) (fun _ _ _ h => h) (Or.inl ⟨by rfl, ?_⟩) (by assumption) ?_
  rotate_left
  · intro wq hSw; (try dsimp only at hSw); first | (go_simp; done) | (go_simp; with_reducible rfl) | with_reducible rfl
  try simp only [Act.put, List.setIfInBounds_toArray, List.set_cons_zero, List.set_cons_succ]
  refine wpAnyL_take (i := 1) (v := ?_) rfl (by kernel_rfl) (by kernel_rfl) (by kernel_rfl) (by kernel_rfl) (by kernel_rfl) (fun _ _ _ h => h) (Or.inl ⟨by rfl, ?_⟩) (by assumption) ?_
  rotate_left
  · intro wq hSw; (try dsimp only at hSw); first | (go_simp; done) | (go_simp; with_reducible rfl) | with_reducible rfl
  try simp only [Act.put, List.setIfInBounds_toArray, List.set_cons_zero, List.set_cons_succ]
  refine wpAnyL_take (i := 5) (v := ?_) rfl (by kernel_rfl) (by kernel_rfl) (by kernel_rfl) (by kernel_rfl) (by kernel_rfl) (fun _ _ _ h => h) (Or.inl ⟨by rfl, ?_⟩) (by assumption) ?_
  rotate_left
  · intro wq hSw; (try dsimp only at hSw); first | (go_simp; done) | (go_simp; with_reducible rfl) | with_reducible rfl
  try simp only [Act.put, List.setIfInBounds_toArray, List.set_cons_zero, List.set_cons_succ]
  refine wpAnyL_ready (rs := [2]) (by kernel_rfl) (by simp) ?_
  refine (AllReadyL.cons rfl (fun K hK => ?_) AllReadyL.nil)
  go_simp
  go_wp2_with (go_at_call 7; refine (HLN.out _ (kD _)).mono ?_; rintro e w1 ⟨rfl, rfl⟩)
  refine hK.out _ _ ?_ (fun hHeld => ?_)
  · (try dsimp only); exact HS.out _ (kD _)
  clear hK K
  refine wpAnyL_ready (rs := [3]) (by kernel_rfl) (by simp) ?_
  refine (AllReadyL.cons rfl (fun K hK => ?_) AllReadyL.nil)
  go_simp
  go_wp2_with (go_at_call 29; refine (HPT.out _ (kD _)).mono ?_; rintro e w3 ⟨v3, rfl, hrow3, hb3⟩; obtain ⟨a3, c3, rfl⟩ := own_slice hrow3; have hq3 := kF hb3 (kD W))
  refine hK.out _ _ ?_ (fun hHeld => ?_)
  · (try dsimp only); exact HS.out _ hq3
  clear hK K
  refine wpAnyL_ready (rs := [4]) (by kernel_rfl) (by simp) ?_
  refine (AllReadyL.cons rfl (fun K hK => ?_) AllReadyL.nil)
  go_simp
  go_wp2_with (go_at_call 28; refine (sall_any _ _ _ _).mono ?_; rintro e w4 ⟨rfl, rfl⟩; have hT := HTL.out w3 a3 c3 hq3 hrow3)
  refine hK.out _ _ ?_ (fun hHeld => ?_)
  · (try dsimp only); exact HS.out _ (kA hq3 _)
  clear hK K
  refine wpAnyL_ready (rs := [6]) (by kernel_rfl) (by simp) ?_
  refine AllReadyL.last rfl (fun K hK => ?_)
  go_simp
  go_wp2_with (go_at_call 27; refine hT.mono ?_; rintro e w5 ⟨⟨_, rfl⟩, hP⟩)
  refine hK.out _ _ ?_
  clear hK K
  refine wpAnyL_done (by kernel_rfl) ?_ _
  clear hHeld
  gi_wp2
  go_end0
  exact ⟨⟨_, rfl⟩, hP⟩
end Go.Proofs.Ytobigmcfbkgmbaa
