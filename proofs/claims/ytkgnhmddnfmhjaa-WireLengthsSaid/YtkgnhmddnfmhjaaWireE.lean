/- The decoder's reader: how it lies in memory; what next and between do. -/
import Derived.Test.YtkgnhmddnfmhjaaWireD
import Derived.Defers
import Derived.Recover
namespace Go.Proofs.Ytkgnhmddnfmhjaa
open Go.RowKit

/-- Only block g and the row R may have changed, of what was there. -/
structure Chg (w w' : World) (g : Nat) (R : Option Nat) : Prop where
  os : w'.os = w.os
  tape : w'.tape = w.tape
  output : w'.output = w.output
  size : w.heap.size ≤ w'.heap.size
  block : ∀ k, k < w.heap.size → k ≠ g → some k ≠ R → w'.heap[k]? = w.heap[k]?
section
variable {w w' w'' : World} {g : Nat} {R : Option Nat}
theorem Chg.of_g (h : w.grownBy w' (some g)) : Chg w w' g R := ⟨h.os, h.tape, h.output, h.size, fun k hk h1 _ => h.block k hk (fun e => h1 (by injection e))⟩
theorem Chg.of_R (h : w.grownBy w' R) : Chg w w' g R := ⟨h.os, h.tape, h.output, h.size, fun k hk _ h2 => h.block k hk h2⟩
theorem Chg.of_below (h : Below w.heap.size w w') : Chg w w' g R := ⟨h.os, h.tape, h.output, h.size, fun k hk _ _ => h.block k hk⟩
theorem Chg.trans (h : Chg w w' g R) (k : Chg w' w'' g R) : Chg w w'' g R :=
  ⟨k.os.trans h.os, k.tape.trans h.tape, k.output.trans h.output, Nat.le_trans h.size k.size, fun i hi h1 h2 => (k.block i (Nat.lt_of_lt_of_le hi h.size) h1 h2).trans (h.block i hi h1 h2)⟩
end

/-- The block where the row lies grew or is new. -/
structure Mv (g : Nat) (v v' : Value) (w w' : World) : Prop where
  chg : Chg w w' g v.ownBlock
  new : v'.ownBlock = v.ownBlock ∨ ∃ k, v'.ownBlock = some k ∧ w.heap.size ≤ k
section
variable {g : Nat} {v v' v'' : Value} {w w' w'' : World}
theorem Mv.refl : Mv g v v w w := ⟨⟨rfl, rfl, rfl, Nat.le_refl _, fun _ _ _ _ => rfl⟩, .inl rfl⟩
theorem Mv.trans (h : Mv g v v' w w') (k : Mv g v' v'' w' w'') : Mv g v v'' w w'' := by
  refine ⟨⟨k.chg.os.trans h.chg.os, k.chg.tape.trans h.chg.tape, k.chg.output.trans h.chg.output, Nat.le_trans h.chg.size k.chg.size, fun i hi h1 h2 => (k.chg.block i (Nat.lt_of_lt_of_le hi h.chg.size) h1 ?_).trans (h.chg.block i hi h1 h2)⟩, ?_⟩
  · rcases h.new with e | ⟨j, e, hj⟩
    · rw [e]; exact h2
    · rw [e]; intro e2; cases e2; omega
  · rcases k.new with e | ⟨j, e, hj⟩
    · rw [e]; exact h.new
    · exact .inr ⟨j, e, Nat.le_trans h.chg.size hj⟩
/-- A block that is not the reader's, and not the row's. -/
theorem Mv.keep (h : Mv g v v' w w') {k : Nat} (hk : k < w.heap.size) (hg : k ≠ g) (hv : v.ownBlock ≠ some k) : w'.heap[k]? = w.heap[k]? ∧ v'.ownBlock ≠ some k := by
  refine ⟨h.chg.block k hk hg (fun e => hv e.symm), ?_⟩
  rcases h.new with e | ⟨j, e, hj⟩
  · rw [e]; exact hv
  · rw [e]; intro e2; cases e2; omega
theorem Mv.of_below (h : Below w.heap.size w w') : Mv g v v w w' := ⟨Chg.of_below h, .inl rfl⟩
theorem Mv.of_g (h : w.grownBy w' (some g)) : Mv g v v w w' := ⟨Chg.of_g h, .inl rfl⟩
end
/-- What a reader has gone through. -/
structure RS where
  at_ : Nat
  co : List Int
  la : Int
  sm : Nat
/-- The reader lies in block g, and goes through the bits b. -/
structure Rd (B g : Nat) (A : Option Addr) (n c : Nat) (b : List Int) (v : Value) (s : RS) (wr : World) : Prop where
  blk : wr.heap[g]? = some (.cells #[.slice A n c, .int .i64 s.at_, v, .int .u8 s.la, .int .i64 s.sm] 46 (0, 0))
  own : wr.ownsRow (g + 1) 5 1 v s.co.length (s.co.map (Value.int .u8))
  byt : Byt wr B A n c b
  lt : B ≤ g
  a1 : s.at_ ≤ n
  a2 : s.sm ≤ 5
  a3 : s.la = 0 ∨ s.la = 1
  a4 : ∀ x ∈ s.co, x = 0 ∨ x = 1
section
variable {B g n c k : Nat} {A : Option Addr} {b : List Int} {v v' : Value} {s : RS} {w wr w' : World}
theorem Rd.glt (h : Rd B g A n c b v s wr) : g < wr.heap.size := (Array.getElem?_eq_some_iff.1 h.blk).1
theorem Rd.cell (h : Rd B g A n c b v s wr) (k : Nat) : wr.cell? ⟨g, k, none⟩ = (#[.slice A n c, .int .i64 s.at_, v, .int .u8 s.la, .int .i64 s.sm] : Array Value)[k]? := by rw [cell_of_row _ _ _ _ _ _ h.blk]
theorem Rd.frozen (h : Rd B g A n c b v s wr) (k : Nat) : wr.frozen? ⟨g, k, none⟩ = false := frozen_of_row _ _ _ _ _ h.blk
theorem Rd.cells (h : Rd B g A n c b v s wr) : wr.cell? ⟨g, 0, none⟩ = some (.slice A n c) ∧ wr.cell? ⟨g, 1, none⟩ = some (.int .i64 s.at_) ∧ wr.cell? ⟨g, 2, none⟩ = some v ∧ wr.cell? ⟨g, 3, none⟩ = some (.int .u8 s.la) ∧ wr.cell? ⟨g, 4, none⟩ = some (.int .i64 s.sm) :=
  ⟨h.cell 0, h.cell 1, h.cell 2, h.cell 3, h.cell 4⟩
theorem Rd.drewN (h : Rd B g A n c b v s wr) (k : Nat) : Rd B g A n c b v s (wr.drewN k) := ⟨h.blk, h.own, h.byt.drewN k, h.lt, h.a1, h.a2, h.a3, h.a4⟩
theorem byt_grown_g (h : Byt wr B A n c b) (hlt : B ≤ g) (hg : wr.grownBy w' (some g)) : Byt w' B A n c b :=
  ⟨h.len, h.cap, h.max, h.rng, fun h0 => by
    obtain ⟨b', off, e, hb, hc⟩ := h.cells h0
    exact ⟨b', off, e, hb, fun j hj => hg.cell (hc j hj) (fun e2 => by simp at e2; omega)⟩⟩
/-- The place, the last bit or the count is another one. -/
theorem Rd.set (h : Rd B g A n c b v s wr) (s' : RS) (hco : s'.co = s.co) (hg : wr.grownBy w' (some g)) (hblk : w'.heap[g]? = some (.cells #[.slice A n c, .int .i64 s'.at_, v, .int .u8 s'.la, .int .i64 s'.sm] 46 (0, 0))) (h1 : s'.at_ ≤ n) (h2 : s'.sm ≤ 5) (h3 : s'.la = 0 ∨ s'.la = 1) : Rd B g A n c b v s' w' :=
  ⟨hblk, by rw [hco]; exact h.own.kept hg (by
      rcases e : v.ownBlock with _ | k
      · exact .inl rfl
      · refine .inr fun e2 => ?_
        have := h.own.lt k e
        cases e2; omega), byt_grown_g h.byt h.lt hg, h.lt, h1, h2, h3, by rw [hco]; exact h.a4⟩
end
theorem grown_store (w : World) (k g i : Nat) (u : Value) : w.grownBy ((w.drewN k).setCell ⟨g, i, none⟩ u) (some g) := grown_trans (grown_of_below (below_drewN (Below.refl _ _) k)) (grown_set _ _ _ _)
theorem setCell_blk {w : World} {g i : Nat} {cs : Array Value} {t : TypeId} {u : Value} (h : w.heap[g]? = some (.cells cs t (0, 0))) : (w.setCell ⟨g, i, none⟩ u).heap[g]? = some (.cells (cs.setIfInBounds i u) t (0, 0)) := by
  simp [World.setCell, Array.getElem?_modify, h]
/-- How a decoder gives up. -/
def stopE (k : Int) : List PanicEntry := [{ v := .iface 42 (.agg #[.int .i64 k]), recovered := false }]
section
variable {B g n c : Nat} {A : Option Addr} {b : List Int} {v : Value} {s : RS} {wr : World}
theorem next_ok (h : Rd B g A n c b v s wr) (hlt : s.at_ < n) :
    Calls Try.prog 45 #[.pointer (some ⟨g, 0, none⟩)] wr fun e w' => e = .returned (.int .u8 (b.getD s.at_ 0 % 2)) ∧ Rd B g A n c b v { s with at_ := s.at_ + 1 } w' ∧ Mv g v v wr w' := by
  obtain ⟨at_, co, la, sm⟩ := s
  simp only at hlt ⊢
  obtain ⟨c0, c1, c2, c3, c4⟩ := h.cells
  have f1 := h.frozen 1
  have hmx := h.byt.max
  have hcp := h.byt.cap
  simp only [maxLen] at hmx
  obtain ⟨b', off, rfl, hb, hc⟩ := h.byt.cells (by omega)
  have hcj := hc at_ hlt
  have hr := h.byt.range at_
  simp only at c0 c1 c2 c3 c4
  generalize b.getD at_ 0 = q at hcj hr ⊢
  have hand := and_one q hr.1 hr.2
  have hne : ((at_ : Int) == (n : Int)) = false := by simp; omega
  have HH := Lib.hid h
  clear h hc hr c2 c3 c4
  go_enter Try.func45, Try.ntmps45
  go_wp2_with fail
  go_quiet (fail)
  go_wp2_with fail
  go_quiet (fail)
  go_wp2_with fail
  refine bodyPost_ret (results_tmp rfl _ _ _) rfl ⟨rfl, HH.out.set _ rfl (grown_store _ _ _ _ _) (setCell_blk (w := wr.drewN _) HH.out.blk) (by simp only; omega) HH.out.a2 HH.out.a3, Mv.of_g (grown_store _ _ _ _ _)⟩
theorem next_end (h : Rd B g A n c b v s wr) (hge : ¬ s.at_ < n) :
    Calls Try.prog 45 #[.pointer (some ⟨g, 0, none⟩)] wr fun e w' => e = .panicked (stopE 5) ∧ Below wr.heap.size wr w' := by
  obtain ⟨at_, co, la, sm⟩ := s
  simp only at hge ⊢
  obtain ⟨c0, c1, c2, c3, c4⟩ := h.cells
  have ha := h.a1
  simp only at c0 c1 c2 c3 c4 ha
  have hne : ((at_ : Int) == (n : Int)) = true := by simp; omega
  clear h c2 c3 c4
  go_enter Try.func45, Try.ntmps45
  go_wp2_with fail
  go_quiet (fail)
  go_wp2_with fail
  exact ⟨rfl, rfl, below_drewN (Below.refl _ _) _⟩
end
/-- What between makes of a reader; none: it gives up. -/
def betO (b : List Int) (s : RS) : Option RS :=
  if s.sm < 5 then some s
  else if s.at_ < b.length then (if b.getD s.at_ 0 % 2 = s.la then none else some ⟨s.at_ + 1, s.co, b.getD s.at_ 0 % 2, 1⟩)
  else none
theorem betO_sm {b : List Int} {s t : RS} (h : betO b s = some t) : t.sm ≤ 4 := by
  unfold betO at h
  split at h
  · cases h; omega
  · split at h
    · split at h
      · cases h
      · cases h; simp
    · cases h
theorem betO_co {b : List Int} {s t : RS} (h : betO b s = some t) : t.co = s.co := by
  unfold betO at h
  split at h
  · cases h; rfl
  · split at h
    · split at h
      · cases h
      · cases h; rfl
    · cases h
theorem mod2 (q : Int) : q % 2 = 0 ∨ q % 2 = 1 := by omega
section
variable {B g n c : Nat} {A : Option Addr} {b : List Int} {v : Value} {s t : RS} {wr w' : World}
theorem between_yes (h : Rd B g A n c b v s wr) (hs : betO b s = some t) :
    Calls Try.prog 44 #[.pointer (some ⟨g, 0, none⟩)] wr fun e w' => e = .returned (.tuple #[]) ∧ Rd B g A n c b v t w' ∧ Mv g v v wr w' := by
  unfold betO at hs
  by_cases h5 : s.sm < 5
  · rw [if_pos h5] at hs
    cases hs
    obtain ⟨c0, c1, c2, c3, c4⟩ := h.cells
    have HH := Lib.hid h
    clear h c0 c1 c2 c3
    go_enter Try.func44, Try.ntmps44
    go_wp2
    exact bodyPost_ret (results_none rfl _ _ _) rfl ⟨rfl, HH.out, Mv.refl⟩
  · rw [if_neg h5] at hs
    have hlen := h.byt.len
    by_cases hlt : s.at_ < b.length
    · rw [if_pos hlt] at hs
      have hnx := next_ok h (by omega)
      have hm2 := mod2 (b.getD s.at_ 0)
      generalize b.getD s.at_ 0 % 2 = x at hs hnx hm2
      by_cases hx : x = s.la
      · rw [if_pos hx] at hs; cases hs
      · rw [if_neg hx] at hs
        cases hs
        obtain ⟨c0, c1, c2, c3, c4⟩ := h.cells
        have ha1 : s.at_ + 1 ≤ n := by omega
        have hxe : (x == s.la) = false := by simp [hx]
        have HNX := Lib.hid hnx
        clear h c0 c1 c2 c3 hnx hlen
        go_enter Try.func44, Try.ntmps44
        go_wp2_with (go_at_call 45; refine HNX.out.mono ?_; rintro e w1 ⟨rfl, h1, hm1⟩; clear c4; obtain ⟨c0, c1, c2, c3, c4⟩ := h1.cells; have f3 := h1.frozen 3; have f4 := h1.frozen 4; have H1 := Lib.hid h1; have HM := Lib.hid hm1; clear c0 c1 c2 h1 hm1)
        have hg2 := grown_trans (grown_set w1 g 3 (.int .u8 x)) (grown_set _ g 4 (.int .i64 1))
        exact ⟨rfl, _, results_none rfl _ _ _, rfl, H1.out.set ⟨s.at_ + 1, s.co, x, 1⟩ rfl hg2 (setCell_blk (setCell_blk H1.out.blk)) ha1 (by simp) hm2, HM.out.trans (Mv.of_g hg2)⟩
    · rw [if_neg hlt] at hs; cases hs
/-- One bit more in the core. -/
theorem Rd.push {v' : Value} {w6 : World} {x : Int} (h : Rd B g A n c b v s wr) (hx : x = 0 ∨ x = 1) (ho : w6.ownsRow (g + 1) 5 1 v' (s.co.length + 1) ((s.co ++ [x]).map (Value.int .u8))) (hg : wr.grownBy w6 v.ownBlock) (hat : v'.ownBlock = v.ownBlock ∨ ∃ k, v'.ownBlock = some k ∧ wr.heap.size ≤ k) :
    Rd B g A n c b v' ⟨s.at_, s.co ++ [x], s.la, s.sm⟩ (w6.setCell ⟨g, 2, none⟩ v') ∧ Mv g v v' wr (w6.setCell ⟨g, 2, none⟩ v') := by
  have hne : some g ≠ v.ownBlock := fun e => by have := h.own.lt _ e.symm; omega
  have hb6 : w6.heap[g]? = _ := (hg.block g h.glt hne).trans h.blk
  have hgs := grown_set w6 g 2 v'
  have hby : Byt w6 B A n c b := ⟨h.byt.len, h.byt.cap, h.byt.max, h.byt.rng, fun h0 => by
    obtain ⟨b', off, e, hb, hc⟩ := h.byt.cells h0
    exact ⟨b', off, e, hb, fun j hj => hg.cell (hc j hj) (fun e2 => by have := h.own.lt _ e2.symm; have := h.lt; simp at *; omega)⟩⟩
  refine ⟨⟨setCell_blk hb6, ?_, byt_grown_g hby h.lt hgs, h.lt, h.a1, h.a2, h.a3, ?_⟩, ?_, hat⟩
  · rw [List.length_append]
    refine ho.kept hgs ?_
    rcases e : v'.ownBlock with _ | k
    · exact .inl rfl
    · refine .inr fun e2 => ?_
      have := ho.lt k e
      cases e2; omega
  · intro y hy
    simp only [List.mem_append, List.mem_singleton] at hy
    rcases hy with hy | rfl
    · exact h.a4 y hy
    · exact hx
  · exact (Chg.of_R hg).trans (Chg.of_g hgs)
theorem Rd.at6 {w6 : World} (h : Rd B g A n c b v s wr) (hg : wr.grownBy w6 v.ownBlock) : w6.cell? ⟨g, 2, none⟩ = some v ∧ w6.frozen? ⟨g, 2, none⟩ = false := by
  have hne : some g ≠ v.ownBlock := fun e => by have := h.own.lt _ e.symm; omega
  have hb6 := (hg.block g h.glt hne).trans h.blk
  exact ⟨by rw [cell_of_row _ _ _ _ _ _ hb6]; rfl, frozen_of_row _ _ _ _ _ hb6⟩
theorem snoc_bits {l : List Int} {x : Int} (h : ∀ y ∈ l, y = 0 ∨ y = 1) (hx : x = 0 ∨ x = 1) : ∀ y ∈ l ++ [x], y = 0 ∨ y = 1 := by
  intro y hy
  simp only [List.mem_append, List.mem_singleton] at hy
  rcases hy with hy | rfl
  · exact h y hy
  · exact hx
/-- The core's next bit, and what is left of the reader. -/
def bitO (b : List Int) (s : RS) : Option (Int × RS) :=
  match betO b s with
  | none => none
  | some t => if t.at_ < b.length then some (b.getD t.at_ 0 % 2, ⟨t.at_ + 1, t.co ++ [b.getD t.at_ 0 % 2], b.getD t.at_ 0 % 2, if b.getD t.at_ 0 % 2 = t.la then t.sm + 1 else 1⟩) else none
theorem byt1 (w : World) (q : Int) (h0 : q = 0 ∨ q = 1) {G : Nat} (hG : w.heap.size = G) : Byt (w.alloc (.cells #[.int .u8 q] 5)) (G + 1) (some ⟨G, 0, none⟩) 1 1 [q] := by
  subst hG
  exact Byt.new w 5 [q] (fun x hx => by simp only [List.mem_cons, List.not_mem_nil, or_false] at hx; omega) (by simp [maxLen])
set_option maxHeartbeats 1000000 in
theorem bit_yes {x : Int} {u : RS} (h : Rd B g A n c b v s wr) (hs : bitO b s = some (x, u)) (hk : s.co.length ≤ 100000) :
    Calls Try.prog 42 #[.pointer (some ⟨g, 0, none⟩)] wr fun e w' => e = .returned (.int .u8 x) ∧ ∃ v', Rd B g A n c b v' u w' ∧ Mv g v v' wr w' := by
  unfold bitO at hs
  rcases hb : betO b s with _ | t
  · rw [hb] at hs; cases hs
  · rw [hb] at hs
    simp only at hs
    have hlen := h.byt.len
    have hsm := betO_sm hb
    have hco := betO_co hb
    by_cases hlt : t.at_ < b.length
    · rw [if_pos hlt] at hs
      have hnx := fun (w : World) (h : Rd B g A n c b v t w) => next_ok h (by omega)
      have hm2 := mod2 (b.getD t.at_ 0)
      generalize b.getD t.at_ 0 % 2 = y at hs hnx hm2
      cases hs
      have hbt := between_yes h hb
      have ha1 : t.at_ + 1 ≤ n := by omega
      have hk2 : t.co.length ≤ 100000 := by rw [hco]; exact hk
      have HBT := Lib.hid hbt
      have HNX := Lib.hid hnx
      clear h hbt hnx hlen hb hco hk
      by_cases hx : x = t.la
      · have hxe : (x != t.la) = false := by simp [hx]
        rw [if_pos hx]
        subst hx
        go_enter Try.func42, Try.ntmps42
        go_wp2_with (first
          | (go_at_call 44; refine HBT.out.mono ?_; rintro e w1 ⟨rfl, h1, hm1⟩)
          | (go_at_call 45; refine (HNX.out _ h1).mono ?_; rintro e w2 ⟨rfl, h2, hmv⟩; obtain ⟨c0, c1, c2, c3, c4⟩ := h2.cells; have f4 := h2.frozen 4; have f3 := h2.frozen 3; have hla' := h2.a3; have hg5 := (grown_set w2 g 4 (.int .i64 ((t.sm : Int) + 1))); have h5 := h2.set ⟨t.at_ + 1, t.co, t.la, t.sm + 1⟩ rfl hg5 (setCell_blk h2.blk) ha1 (by simp only; omega) hla'; have HM := Lib.hid ((hm1.trans hmv).trans (Mv.of_g hg5)); have H5 := Lib.hid h5; clear c0 c1 h1 h2 hm1 hmv h5 hg5)
          | (at_builtin; go_loud (refine wpList_bytes_at rfl (.tmp 32) (.tmp 34) rfl Try.underlying25 byte_info rfl (H5.out.own.alloc _) rfl (byt1 _ t.la hla' (by simp)) (show t.co.length + 1 ≤ 140737488355328 by omega) (Nat.succ_le_of_lt (Nat.lt_of_lt_of_le H5.out.glt (by simp))) ?_; intro v6 w6 ho6 hg6 hat6; obtain ⟨A6, z6, rfl, _, _⟩ := Byt.of_own ho6 (bits_range (snoc_bits H5.out.a4 hla')); have hg7 := grown_trans (World.grownBy_alloc _ _ _) hg6; obtain ⟨c6, f6⟩ := H5.out.at6 hg7; have hp := H5.out.push (x := t.la) hla' ho6 hg7 (hat6.imp id fun h => ⟨_, h, by simp⟩); have HP := Lib.hid hp; clear ho6 hg6 hat6 hg7 hp)))
        exact bodyPost_ret (results_tmp rfl _ _ _) rfl ⟨rfl, _, HP.out.1, HM.out.trans HP.out.2⟩
      · have hxe : (x != t.la) = true := by simp [hx]
        rw [if_neg hx]
        go_enter Try.func42, Try.ntmps42
        go_wp2_with (first
          | (go_at_call 44; refine HBT.out.mono ?_; rintro e w1 ⟨rfl, h1, hm1⟩)
          | (go_at_call 45; refine (HNX.out _ h1).mono ?_; rintro e w2 ⟨rfl, h2, hmv⟩; obtain ⟨c0, c1, c2, c3, c4⟩ := h2.cells; have f4 := h2.frozen 4; have f3 := h2.frozen 3; have hm2' := hm2; have hg5 := (grown_trans (grown_trans (grown_set w2 g 3 (.int .u8 x)) (grown_set _ g 4 (.int .i64 0))) (grown_set _ g 4 (.int .i64 1))); have h5 := h2.set ⟨t.at_ + 1, t.co, x, 1⟩ rfl hg5 (setCell_blk (setCell_blk (setCell_blk h2.blk))) ha1 (by simp only; omega) hm2'; have HM := Lib.hid ((hm1.trans hmv).trans (Mv.of_g hg5)); have H5 := Lib.hid h5; clear c0 c1 h1 h2 hm1 hmv h5 hg5)
          | (at_builtin; refine wpList_bytes_at rfl (.tmp 32) (.tmp 34) rfl Try.underlying25 byte_info rfl (H5.out.own.alloc _) rfl (byt1 _ x hm2' (by simp)) (show t.co.length + 1 ≤ 140737488355328 by omega) (Nat.succ_le_of_lt (Nat.lt_of_lt_of_le H5.out.glt (by simp))) ?_; intro v6 w6 ho6 hg6 hat6; obtain ⟨A6, z6, rfl, _, _⟩ := Byt.of_own ho6 (bits_range (snoc_bits H5.out.a4 hm2')); have hg7 := grown_trans (World.grownBy_alloc _ _ _) hg6; obtain ⟨c6, f6⟩ := H5.out.at6 hg7; have hp := H5.out.push (x := x) hm2' ho6 hg7 (hat6.imp id fun h => ⟨_, h, by simp⟩); have HP := Lib.hid hp; clear ho6 hg6 hat6 hg7 hp))
        exact bodyPost_ret (results_tmp rfl _ _ _) rfl ⟨rfl, _, HP.out.1, HM.out.trans HP.out.2⟩
    · rw [if_neg hlt] at hs; cases hs
end
end Go.Proofs.Ytkgnhmddnfmhjaa
