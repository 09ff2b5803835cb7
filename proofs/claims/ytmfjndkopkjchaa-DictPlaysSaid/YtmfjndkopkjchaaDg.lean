/- What the functions that All and From hand back do. -/
import Derived.Test.YtmfjndkopkjchaaDf
namespace Go.Proofs.Ytmfjndkopkjchaa
open Go.RowKit Go.Shelf
attribute [local go_sem] Oper.semAt_some
set_option linter.unusedSimpArgs false
set_option linter.unusedVariables false

def encP (x : Int × Ent) : Array Value := #[.int .i64 x.1, entV x.2]
/-- The rows that are told, out of a copy of their own. -/
theorem told_rows (n : Nat) (hn : 4 ≤ n) (l : Nat) (T : List (Int × Ent)) (Fx : Nat → Prop) (tb : World → Option Nat) (B0 : Nat) (hloc : Loc B0 tb) (J Jx : List (Int × Ent) → World → Prop) (W : World) (hB0 : B0 ≤ W.heap.size) (hJ : OwnFrom W.heap.size J) (hJx : OwnFrom W.heap.size Jx)
    (hF : ∀ k, Fx k → k < W.heap.size) (htl : ∀ k, tb W = some k → k < W.heap.size)
    (hY : ∀ pre x W1, J pre W1 → pre.length < T.length → YieldAt Fence.wide (n - 1) Try.prog l (encP x) W1 (Answ (Kq Fx tb) J Jx W.heap.size (pre ++ [x]) W1)) (h0 : J [] W)
    (w3 : World) (a3 : Option Addr) (c3 : Nat) (hb : Below W.heap.size W w3) (base : Nat) (hbase : W.heap.size ≤ base) (hrow : w3.ownsRow base 129 6 (.slice a3 T.length c3) T.length (fe T)) :
    Calls Try.prog 70 #[.func (Fn.func 84) #[] #[.pointer (some ⟨w3.heap.size, 0, none⟩)], .func (.yield l) #[] #[]] (w3.alloc (.cells #[.slice a3 T.length c3] 107)) fun e W' => (∃ v, e = .returned v) ∧ ((∃ ys, ys = T ∧ J ys W') ∨ (∃ pre, pre <+: T ∧ Jx pre W')) := by
  have hba : Below w3.heap.size w3 (w3.alloc (.cells #[.slice a3 T.length c3] 107)) := (Below.refl _ _).alloc (Nat.le_refl _) _
  have hb2 := kF hba hb
  have hbx := heap_alloc_new w3 (.cells #[.slice a3 T.length c3] 107)
  have htW : ∀ X, Below W.heap.size W X → tb X = tb W := fun X hX => hloc _ _ fun k hk => hX.block k (by omega)
  have hlt : ∀ b, (Value.slice a3 T.length c3).ownBlock = some b → W.heap.size ≤ b := fun b hb => Nat.le_trans hbase (hrow.lt b hb).1
  have ht := tell_in n (n - 1) (by omega) l W.heap.size 84 #[.pointer (some ⟨w3.heap.size, 0, none⟩)] (enters_of Try.func84 (by kernel_rfl) rfl) (en T) T.length Fx tb B0 hloc J Jx _ (Nat.le_trans hB0 hb2.size) hb2.size hJ hJx (fun k hk => Nat.lt_of_lt_of_le (hF k hk) hb2.size) (fun k hk => by rw [htW _ hb2] at hk; exact Nat.lt_of_lt_of_le (htl k hk) hb2.size) hY
    (fun w' hw' => sall_stops (n - 1) (by omega) w3.heap.size base (.slice a3 T.length c3) T Fx tb B0 hloc w' (by have := hb2.size; have := hw'.size; omega) ((hw'.block _ (by simp)).trans hbx) (own_below (own_below hrow hba) hw') (fun b hb hf => by have := hlt b hb; have := hF b hf; omega) (fun b hb e => by rw [htW _ (kF hw' hb2)] at e; have := hlt b hb; have := htl b e; omega))
    (hJ [] W _ none h0 (grown_below none hb2) (fun r e => by cases e))
  rw [en_snd] at ht
  exact callsIn_wide.1 ht

theorem all_any (w : World) (p : Option Addr) :
    Calls Try.prog 64 #[.pointer p] w fun e w' => e = .returned (.func (Fn.func 79) #[] #[.pointer (some ⟨w.heap.size, 0, none⟩)]) ∧ w' = w.alloc (.cells #[.pointer p] 66) := by
  go_enter Try.func64, Try.ntmps64
  go_wp2_with fail
  go_ret
  exact ⟨rfl, rfl⟩
theorem from_any (w : World) (p : Option Addr) (k : Int) :
    Calls Try.prog 43 #[.pointer p, .int .i64 k] w fun e w' => e = .returned (.func (Fn.func 68) #[] #[.pointer (some ⟨w.heap.size, 0, none⟩), .pointer (some ⟨w.heap.size + 1, 0, none⟩)]) ∧ w' = (w.alloc (.cells #[.pointer p] 66)).alloc (.cells #[.int .i64 k] 3) := by
  go_enter Try.func43, Try.ntmps43
  go_wp2_with fail
  go_ret
  exact ⟨rfl, rfl⟩
/-- What Place answers, whatever it makes. -/
def Plc (w : World) (at_ : Nat) (th : Bool) (e : Ending) (w' : World) : Prop := e = .returned (.tuple #[.int .i64 (at_ : Nat), .bool th]) ∧ Below w.heap.size w w'
set_option maxRecDepth 100000 in
set_option maxHeartbeats 2000000 in
theorem all1_G (n : Nat) (hn : 5 ≤ n) (gb : Nat) (p : Option Addr) (T : List (Int × Ent)) (hT : T.length ≤ 100000)  (Fx : Nat → Prop) (tb : World → Option Nat) (B0 : Nat) (hloc : Loc B0 tb) (w : World) (hB0 : B0 ≤ w.heap.size)
    (hbox : w.heap[gb]? = some (.cells #[.pointer p] 66 (0, 0))) (hlen : ∀ x, Below w.heap.size w x → Calls Try.prog 65 #[.pointer p] x fun e w' => e = .returned (.int .i64 (T.length : Nat)) ∧ w' = x)
    (hpart : ∀ x, Below w.heap.size w x → Calls Try.prog 72 #[.pointer p, .int .i64 0, .int .i64 (T.length : Nat)] x (ClonedE x T.length (fe T)))
    (hF : ∀ k, Fx k → k < w.heap.size) (htl : ∀ k, tb w = some k → k < w.heap.size) :
    SeqL n Try.prog 79 #[.pointer (some ⟨gb, 0, none⟩)] encP (Kq Fx tb) (fun ys => ys = T) (fun pre => pre <+: T) T.length w := by
  intro l J Jx W hW hJ hJx hY h0
  have HS := Lib.hid (fun x (hx : Below W.heap.size W x) => show x.cell? ⟨gb, 0, none⟩ = some (.pointer p) from by rw [cell_of_row _ _ _ _ _ _ (((kF hx hW).block gb (Array.getElem?_eq_some_iff.1 hbox).1).trans hbox)]; rfl)
  have HPT := Lib.hid (fun x (hx : Below W.heap.size W x) => hpart x (kF hx hW))
  have HLN := Lib.hid (fun x (hx : Below W.heap.size W x) => hlen x (kF hx hW))
  have HTL := Lib.hid (fun w3 a3 c3 hb hrow => told_rows (n - 1) (by omega) l T Fx tb B0 hloc J Jx W (Nat.le_trans hB0 hW.size) hJ hJx (fun k hk => Nat.lt_of_lt_of_le (hF k hk) hW.size) (fun k hk => by rw [hloc w W fun k hk => hW.block k (by omega)] at hk; exact Nat.lt_of_lt_of_le (htl k hk) hW.size)
    (fun pre x W1 hj hl => by obtain ⟨fn, tmps, assign, body, hy, hR⟩ := hY pre x W1 hj hl; exact ⟨fn, tmps, assign, body, hy, hR.1, fun c cs _ => hR.2 c cs (wide_room _)⟩) h0 w3 a3 c3 hb W.heap.size (Nat.le_refl _) hrow)
  generalize T.length = M at *
  clear hY h0 hF htl hJ hJx hlen hpart hbox
  refine callsIn_of_wp Try.func79 rfl trivial ?_ rfl
  simp only [Try.ntmps79, List.size_toArray, List.length_cons, List.length_nil, Nat.reduceAdd, Nat.reduceSub, Array.replicate_succ, Array.replicate_zero, List.push_toArray, List.append_toArray, List.nil_append, List.cons_append]
  gi_wp2_with fail
  refine wpIn_wide.2 ?_
  refine wp_region_last (fun w' => w'.cell? ⟨gb, 0, none⟩ = some (.pointer p)) 6 (by kernel_rfl) (HS.out _ (kD _)) (fun hHeld => ?_)
  refine wpAnyL_take (i := 0) (v := ?_) rfl (by kernel_rfl) (by kernel_rfl) (by kernel_rfl) (by kernel_rfl) (by kernel_rfl) (fun _ _ _ h => h) (Or.inl ⟨by rfl, ?_⟩) (by assumption) ?_
  rotate_left
  · intro wq hSw; (try dsimp only at hSw); first | (go_simp; done) | (go_simp; with_reducible rfl) | with_reducible rfl
  try simp only [Act.put, List.setIfInBounds_toArray, List.set_cons_zero, List.set_cons_succ]
  refine wpAnyL_take (i := 1) (v := ?_) rfl (by kernel_rfl) (by kernel_rfl) (by kernel_rfl) (by kernel_rfl) (by kernel_rfl) (fun _ _ _ h => h) (Or.inl ⟨by rfl, ?_⟩) (by assumption) ?_
  rotate_left
  · intro wq hSw; (try dsimp only at hSw); first | (go_simp; done) | (go_simp; with_reducible rfl) | with_reducible rfl
  try simp only [Act.put, List.setIfInBounds_toArray, List.set_cons_zero, List.set_cons_succ]
  refine wpAnyL_take (i := 5) (v := ?_) rfl (by kernel_rfl) (by kernel_rfl) (by kernel_rfl) (by kernel_rfl) (by kernel_rfl) (fun _ _ _ h => h) (Or.inl ⟨by rfl, ?_⟩) (by assumption) ?_
  rotate_left
  · intro wq hSw; (try dsimp only at hSw); first | (go_simp; done) | (go_simp; with_reducible rfl) | with_reducible rfl
  try simp only [Act.put, List.setIfInBounds_toArray, List.set_cons_zero, List.set_cons_succ]
  refine wpAnyL_ready (rs := [2]) (by kernel_rfl) (by simp) ?_
  refine (AllReadyL.cons rfl (fun K hK => ?_) AllReadyL.nil)
  go_simp
  go_wp2_with (go_at_call 65; refine (HLN.out _ (kD _)).mono ?_; rintro e w1 ⟨rfl, rfl⟩)
  refine hK.out _ _ ?_ (fun hHeld => ?_)
  · (try dsimp only); exact HS.out _ (kD _)
  clear hK K
  refine wpAnyL_ready (rs := [3]) (by kernel_rfl) (by simp) ?_
  refine (AllReadyL.cons rfl (fun K hK => ?_) AllReadyL.nil)
  go_simp
  go_wp2_with (go_at_call 72; refine (HPT.out _ (kD _)).mono ?_; rintro e w3 ⟨v3, rfl, hrow3, hb3⟩; obtain ⟨a3, c3, rfl⟩ := own_slice hrow3; have hq3 := kF hb3 (kD _))
  refine hK.out _ _ ?_ (fun hHeld => ?_)
  · (try dsimp only); exact HS.out _ hq3
  clear hK K
  refine wpAnyL_ready (rs := [4]) (by kernel_rfl) (by simp) ?_
  refine (AllReadyL.cons rfl (fun K hK => ?_) AllReadyL.nil)
  go_simp
  go_wp2_with (go_at_call 71; refine (sall_any _ _ _ _).mono ?_; rintro e w4 ⟨rfl, rfl⟩; have hT := HTL.out w3 a3 c3 hq3 (own_less hrow3 (Nat.le_refl _)))
  refine hK.out _ _ ?_ (fun hHeld => ?_)
  · (try dsimp only); exact HS.out _ (kA hq3 _)
  clear hK K
  refine wpAnyL_ready (rs := [6]) (by kernel_rfl) (by simp) ?_
  refine AllReadyL.last rfl (fun K hK => ?_)
  go_simp
  go_wp2_with (go_at_call 70; refine hT.mono ?_; rintro e w5 ⟨⟨_, rfl⟩, hP⟩)
  refine hK.out _ _ ?_
  clear hK K
  refine wpAnyL_done (by kernel_rfl) ?_ _
  clear hHeld
  gi_wp2
  go_end0
  exact ⟨⟨_, rfl⟩, hP⟩
set_option maxRecDepth 100000 in
set_option maxHeartbeats 2000000 in
theorem from1_G (n : Nat) (hn : 5 ≤ n) (gb : Nat) (p : Option Addr) (T : List (Int × Ent)) (hT : T.length ≤ 100000) (kb N at_ : Nat) (k : Int) (th : Bool) (Fx : Nat → Prop) (tb : World → Option Nat) (B0 : Nat) (hloc : Loc B0 tb) (w : World) (hB0 : B0 ≤ w.heap.size)
    (hbox : w.heap[gb]? = some (.cells #[.pointer p] 66 (0, 0))) (hboxk : w.heap[kb]? = some (.cells #[.int .i64 k] 3 (0, 0))) (hlen : ∀ x, Below w.heap.size w x → Calls Try.prog 65 #[.pointer p] x fun e w' => e = .returned (.int .i64 (N : Nat)) ∧ w' = x)
    (hplc : ∀ x, Below w.heap.size w x → Calls Try.prog 69 #[.pointer p, .int .i64 k] x (Plc x at_ th))
    (hpart : ∀ x, Below w.heap.size w x → Calls Try.prog 72 #[.pointer p, .int .i64 (at_ : Nat), .int .i64 (N : Nat)] x (ClonedE x T.length (fe T)))
    (hF : ∀ k, Fx k → k < w.heap.size) (htl : ∀ k, tb w = some k → k < w.heap.size) :
    SeqL n Try.prog 68 #[.pointer (some ⟨gb, 0, none⟩), .pointer (some ⟨kb, 0, none⟩)] encP (Kq Fx tb) (fun ys => ys = T) (fun pre => pre <+: T) T.length w := by
  intro l J Jx W hW hJ hJx hY h0
  have HS := Lib.hid (fun x (hx : Below W.heap.size W x) => show x.cell? ⟨gb, 0, none⟩ = some (.pointer p) from by rw [cell_of_row _ _ _ _ _ _ (((kF hx hW).block gb (Array.getElem?_eq_some_iff.1 hbox).1).trans hbox)]; rfl)
  have HPT := Lib.hid (fun x (hx : Below W.heap.size W x) => hpart x (kF hx hW))
  have HLN := Lib.hid (fun x (hx : Below W.heap.size W x) => hlen x (kF hx hW))
  have ck : W.cell? ⟨kb, 0, none⟩ = some (.int .i64 k) := by rw [cell_of_row _ _ _ _ _ _ ((hW.block kb (Array.getElem?_eq_some_iff.1 hboxk).1).trans hboxk)]; rfl
  have cg := HS.out W (Below.refl _ _)
  have HPC := Lib.hid (hplc W hW)
  have HTL := Lib.hid (fun w3 a3 c3 hb hrow => told_rows (n - 1) (by omega) l T Fx tb B0 hloc J Jx W (Nat.le_trans hB0 hW.size) hJ hJx (fun k hk => Nat.lt_of_lt_of_le (hF k hk) hW.size) (fun k hk => by rw [hloc w W fun k hk => hW.block k (by omega)] at hk; exact Nat.lt_of_lt_of_le (htl k hk) hW.size)
    (fun pre x W1 hj hl => by obtain ⟨fn, tmps, assign, body, hy, hR⟩ := hY pre x W1 hj hl; exact ⟨fn, tmps, assign, body, hy, hR.1, fun c cs _ => hR.2 c cs (wide_room _)⟩) h0 w3 a3 c3 hb W.heap.size (Nat.le_refl _) hrow)
  generalize T.length = M at *
  clear hY h0 hF htl hJ hJx hlen hpart hbox hboxk hplc
  refine callsIn_of_wp Try.func68 rfl trivial ?_ rfl
  simp only [Try.ntmps68, List.size_toArray, List.length_cons, List.length_nil, Nat.reduceAdd, Nat.reduceSub, Array.replicate_succ, Array.replicate_zero, List.push_toArray, List.append_toArray, List.nil_append, List.cons_append]
  gi_wp2_with fail
  refine ⟨trivial, fun h => (by cases h), ?_⟩
  refine (callsIn_wide.2 HPC.out).mono ?_
  rintro e w2 ⟨rfl, hb2⟩
  have hD2 : Below W.heap.size W w2.drew := kF (kD w2) hb2
  clear ck cg HPC
  gi_wp2_with fail
  refine wpIn_wide.2 ?_
  refine wp_region_last (fun w' => w'.cell? ⟨gb, 0, none⟩ = some (.pointer p)) 7 (by kernel_rfl) (HS.out _ hD2) (fun hHeld => ?_)
  refine wpAnyL_take (i := 0) (v := ?_) rfl (by kernel_rfl) (by kernel_rfl) (by kernel_rfl) (by kernel_rfl) (by kernel_rfl) (fun _ _ _ h => h) (Or.inl ⟨by rfl, ?_⟩) (by assumption) ?_
  rotate_left
  · intro wq hSw; (try dsimp only at hSw); first | (go_simp; done) | (go_simp; with_reducible rfl) | with_reducible rfl
  try simp only [Act.put, List.setIfInBounds_toArray, List.set_cons_zero, List.set_cons_succ]
  refine wpAnyL_take (i := 1) (v := ?_) rfl (by kernel_rfl) (by kernel_rfl) (by kernel_rfl) (by kernel_rfl) (by kernel_rfl) (fun _ _ _ h => h) (Or.inl ⟨by rfl, ?_⟩) (by assumption) ?_
  rotate_left
  · intro wq hSw; (try dsimp only at hSw); first | (go_simp; done) | (go_simp; with_reducible rfl) | with_reducible rfl
  try simp only [Act.put, List.setIfInBounds_toArray, List.set_cons_zero, List.set_cons_succ]
  refine wpAnyL_take (i := 2) (v := ?_) rfl (by kernel_rfl) (by kernel_rfl) (by kernel_rfl) (by kernel_rfl) (by kernel_rfl) (fun _ _ _ h => h) (Or.inl ⟨by rfl, ?_⟩) (by assumption) ?_
  rotate_left
  · intro wq hSw; (try dsimp only at hSw); first | (go_simp; done) | (go_simp; with_reducible rfl) | with_reducible rfl
  try simp only [Act.put, List.setIfInBounds_toArray, List.set_cons_zero, List.set_cons_succ]
  refine wpAnyL_take (i := 6) (v := ?_) rfl (by kernel_rfl) (by kernel_rfl) (by kernel_rfl) (by kernel_rfl) (by kernel_rfl) (fun _ _ _ h => h) (Or.inl ⟨by rfl, ?_⟩) (by assumption) ?_
  rotate_left
  · intro wq hSw; (try dsimp only at hSw); first | (go_simp; done) | (go_simp; with_reducible rfl) | with_reducible rfl
  try simp only [Act.put, List.setIfInBounds_toArray, List.set_cons_zero, List.set_cons_succ]
  refine wpAnyL_ready (rs := [3]) (by kernel_rfl) (by simp) ?_
  refine (AllReadyL.cons rfl (fun K hK => ?_) AllReadyL.nil)
  go_simp
  go_wp2_with (go_at_call 65; refine (HLN.out _ hD2).mono ?_; rintro e w1 ⟨rfl, rfl⟩)
  refine hK.out _ _ ?_ (fun hHeld => ?_)
  · (try dsimp only); exact HS.out _ hD2
  clear hK K
  refine wpAnyL_ready (rs := [4]) (by kernel_rfl) (by simp) ?_
  refine (AllReadyL.cons rfl (fun K hK => ?_) AllReadyL.nil)
  go_simp
  go_wp2_with (go_at_call 72; refine (HPT.out _ hD2).mono ?_; rintro e w3 ⟨v3, rfl, hrow3, hb3⟩; obtain ⟨a3, c3, rfl⟩ := own_slice hrow3; have hq3 := kF hb3 hD2)
  refine hK.out _ _ ?_ (fun hHeld => ?_)
  · (try dsimp only); exact HS.out _ hq3
  clear hK K
  refine wpAnyL_ready (rs := [5]) (by kernel_rfl) (by simp) ?_
  refine (AllReadyL.cons rfl (fun K hK => ?_) AllReadyL.nil)
  go_simp
  go_wp2_with (go_at_call 71; refine (sall_any _ _ _ _).mono ?_; rintro e w4 ⟨rfl, rfl⟩; have hT := HTL.out w3 a3 c3 hq3 (own_less hrow3 hb2.size))
  refine hK.out _ _ ?_ (fun hHeld => ?_)
  · (try dsimp only); exact HS.out _ (kA hq3 _)
  clear hK K
  refine wpAnyL_ready (rs := [7]) (by kernel_rfl) (by simp) ?_
  refine AllReadyL.last rfl (fun K hK => ?_)
  go_simp
  go_wp2_with (go_at_call 70; refine hT.mono ?_; rintro e w5 ⟨⟨_, rfl⟩, hP⟩)
  refine hK.out _ _ ?_
  clear hK K
  refine wpAnyL_done (by kernel_rfl) ?_ _
  clear hHeld
  gi_wp2
  go_end0
  exact ⟨⟨_, rfl⟩, hP⟩
end Go.Proofs.Ytmfjndkopkjchaa
