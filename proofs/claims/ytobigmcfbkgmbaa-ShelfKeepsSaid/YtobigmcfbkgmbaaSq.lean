/- A part of a table, its fork, and At where there is no row. -/
import Derived.Test.YtobigmcfbkgmbaaSp
namespace Go.Proofs.Ytobigmcfbkgmbaa
open Go.RowKit

set_option maxRecDepth 100000 in
set_option maxHeartbeats 2000000 in
theorem partA (w : World) (base g n : Nat) (xs : List Value) (v : Value) (h : Sh 53 59 w base g n xs v) (hn : n ≤ 1000) (hx1 : ∀ u ∈ xs, u.oneCell' = true) :
    Calls Try.prog 29 #[.pointer (some ⟨g, 0, none⟩), .int .i64 0, .int .i64 (n : Nat)] w (Cloned w n xs) := by
  have HC := Lib.hid (clone_any w base n v xs h.row (by omega) hx1)
  have c0 := h.cell
  have hl := h.lt
  rcases h.row.2 with ⟨rfl, h0⟩ | ⟨b, cap, cur, rfl, hb, hg, hnc, hm, hs, _⟩
  · subst h0
    clear h
    go_enter Try.func29, Try.ntmps29
    go_wp2_with fail
    refine HC.out.mono ?_
    rintro e w2 ⟨v', rfl, hrow, hb⟩
    obtain ⟨qa, qc, rfl⟩ := own_slice hrow
    clear c0
    go_wp2_with fail
    go_ret
    exact ⟨_, rfl, hrow, hb⟩
  · simp only [maxLen] at hm
    clear h hg hs
    go_enter Try.func29, Try.ntmps29
    go_wp2_with fail
    refine HC.out.mono ?_
    rintro e w2 ⟨v', rfl, hrow, hb⟩
    obtain ⟨qa, qc, rfl⟩ := own_slice hrow
    clear c0
    go_wp2_with fail
    go_ret
    exact ⟨_, rfl, hrow, hb⟩
/-- What Fork has made. -/
def ShFork (tb tr : Nat) (w : World) (n : Nat) (xs : List Value) (e : Ending) (w' : World) : Prop := ∃ g' v', e = .returned (.pointer (some ⟨g', 0, none⟩)) ∧ Sh tb tr w' w.heap.size g' n xs v' ∧ w.heap.size ≤ g' ∧ Below w.heap.size w w'
set_option maxRecDepth 100000 in
set_option maxHeartbeats 2000000 in
theorem forkA (w : World) (base g n : Nat) (xs : List Value) (v : Value) (h : Sh 53 59 w base g n xs v) (hn : n ≤ 1000) (hx1 : ∀ u ∈ xs, u.oneCell' = true) :
    Calls Try.prog 22 #[.pointer (some ⟨g, 0, none⟩)] w (ShFork 53 59 w n xs) := by
  have HL := Lib.hid (lenA w base g n xs v h)
  have HP := Lib.hid (partA w base g n xs v h hn hx1)
  clear h
  go_enter Try.func22, Try.ntmps22
  go_wp2_with fail
  refine HL.out.mono ?_
  rintro e w2 ⟨rfl, rfl⟩
  go_wp2_with fail
  refine HP.out.mono ?_
  rintro e w3 ⟨v', rfl, hrow, hb⟩
  obtain ⟨qa, qc, rfl⟩ := own_slice hrow
  have hal : Below w3.heap.size w3 (w3.alloc (.cells #[.slice qa n qc] 53)) := (Below.refl _ _).alloc (Nat.le_refl _) _
  have hx : Sh 53 59 (w3.alloc (.cells #[.slice qa n qc] 53)) w2.heap.size w3.heap.size n xs (.slice qa n qc) := ⟨heap_alloc_new w3 _, hrow.alloc _, fun e => by have := (hrow.lt _ e).2; omega⟩
  have HX := Lib.hid hx
  have HB := Lib.hid (kF hal hb)
  have HS := Lib.hid hb.size
  clear hrow hal hx hb
  go_wp2_with fail
  go_ret
  exact ⟨_, _, rfl, HX.out, HS.out, HB.out⟩
set_option maxRecDepth 100000 in
set_option maxHeartbeats 2000000 in
theorem atA_no (w : World) (base g n : Nat) (i : Int) (xs : List Value) (v : Value) (h : Sh 53 59 w base g n xs v) (hi : i < 0 ∨ (n : Int) ≤ i) :
    Calls Try.prog 19 #[.pointer (some ⟨g, 0, none⟩), .int .i64 i] w fun e w' => e = .returned (.tuple #[.int .i64 0, .int .i64 0, .bool false]) ∧ Below w.heap.size w w' := by
  have HL := Lib.hid (lenA w base g n xs v h)
  have hal : Below w.heap.size w (w.alloc (.cells #[.int .i64 0, .int .i64 0] 59)) := (Below.refl _ _).alloc (Nat.le_refl _) _
  have hnw := heap_alloc_new w (.cells #[.int .i64 0, .int .i64 0] 59)
  have c0 : (w.alloc (.cells #[.int .i64 0, .int .i64 0] 59)).cell? ⟨w.heap.size, 0, none⟩ = some (.int .i64 0) := by rw [cell_of_row _ _ _ _ _ _ hnw]; rfl
  have c1 : (w.alloc (.cells #[.int .i64 0, .int .i64 0] 59)).cell? ⟨w.heap.size, 1, none⟩ = some (.int .i64 0) := by rw [cell_of_row _ _ _ _ _ _ hnw]; rfl
  have HA := Lib.hid hal
  clear h hal hnw
  rcases hi with hi | hi
  · go_enter Try.func19, Try.ntmps19
    go_wp2_with fail
    go_quiet (fail)
    go_wp2_with fail
    go_ret3
    exact ⟨rfl, below_drewN HA.out nq⟩
  · have hi0 : ¬ i < 0 := by omega
    go_enter Try.func19, Try.ntmps19
    go_wp2_with fail
    refine HL.out.mono ?_
    rintro e w2 ⟨rfl, rfl⟩
    go_wp2_with fail
    go_quiet (fail)
    go_wp2_with fail
    go_ret3
    exact ⟨rfl, below_drewN HA.out nq⟩
section
variable {tb tr : Nat} {w w' : World} {base g g2 n : Nat} {cs : List Value} {v v2 : Value}
/-- A call on another table leaves a table as it is. -/
theorem Sh.tch (h : Sh tb tr w base g n cs v) (ht : Tch w w' g2 v2) (h1 : g ≠ g2) (h2 : v2.ownBlock ≠ some g) (h3 : ∀ b, v.ownBlock = some b → b ≠ g2 ∧ v2.ownBlock ≠ some b) : Sh tb tr w' base g n cs v := by
  refine ⟨(ht.block g h.lt h1 h2).trans h.box, ?_, h.isnt⟩
  refine ⟨h.row.1, ?_⟩
  rcases h.row.2 with hn | ⟨b, cap, cur, rfl, hb, hg, rest⟩
  · exact .inl hn
  · obtain ⟨e1, e2⟩ := h3 b rfl
    exact .inr ⟨b, cap, cur, rfl, hb, (ht.block b (Array.getElem?_eq_some_iff.1 hg).1 e1 e2).trans hg, rest⟩
theorem own_kept {e s : Nat} (h : w.ownsRow base e s v n cs) (hk : Kept tr w w' g) (he : e ≠ tr) (hne : v.ownBlock ≠ some g) : w'.ownsRow base e s v n cs := by
  refine ⟨h.1, ?_⟩
  rcases h.2 with hn | ⟨b, cap, cur, rfl, hb, hgg, rest⟩
  · exact .inl hn
  · exact .inr ⟨b, cap, cur, rfl, hb, (hk.2 b _ _ _ hgg he (fun e => hne (by rw [e]; rfl))).trans hgg, rest⟩
theorem Kept.trans {a b c : World} (h : Kept tr a b g) (k : Kept tr b c g) : Kept tr a c g :=
  ⟨Nat.le_trans h.1 k.1, fun i cs t fr hi ht hg => by
    have e := h.2 i cs t fr hi ht hg
    exact (k.2 i cs t fr (e.trans hi) ht hg).trans e⟩
end
/-- The fork has taken the table's place; the old one has been filled and cut. -/
theorem tab_forkA (w0 w : World) (g : Nat) (ls : List (Int × Int)) (h : TabAt 53 59 w0 g ls.length (fl eI eI ls) w) (hn : ls.length ≤ 100) (hs : Rise ls) :
    Calls Try.prog 22 #[.pointer (some ⟨g, 0, none⟩)] w fun e w' => ∃ g', e = .returned (.pointer (some ⟨g', 0, none⟩)) ∧ Below w.heap.size w w' ∧ w.heap.size ≤ g' ∧
      ∀ (k u q : Int), Calls Try.prog 21 #[.pointer (some ⟨g, 0, none⟩), .int .i64 k, .int .i64 u] w' fun e2 w2 => ∃ r, e2 = .returned (.bool r) ∧ Kept 59 w' w2 g ∧
        Calls Try.prog 20 #[.pointer (some ⟨g, 0, none⟩), .int .i64 q] w2 fun e3 w3 => ∃ x r, e3 = .returned (.tuple #[x, .bool r]) ∧ Kept 59 w2 w3 g ∧ TabAt 53 59 w0 g' ls.length (fl eI eI ls) w3 := by
  obtain ⟨⟨v, hv⟩, h1, h2⟩ := h
  refine (forkA w w0.heap.size g ls.length (fl eI eI ls) v hv (by omega) (fl_one eI eI (fun _ => rfl) (fun _ => rfl) ls)).mono ?_
  rintro e w' ⟨g', v', rfl, hx, hg', hb⟩
  refine ⟨g', rfl, hb, hg', fun k u q => ?_⟩
  have hv1 := hv.below hb
  have hb1 := kF hb h2
  have hgl := hv.lt
  have hvl : ∀ b, v.ownBlock = some b → b < w.heap.size := fun b hb => (hv.row.lt b hb).2
  have hxl : ∀ b, v'.ownBlock = some b → w.heap.size ≤ b ∧ b < w'.heap.size := fun b hb => hx.row.lt b hb
  have hx1 : Sh 53 59 w' w0.heap.size g' ls.length (fl eI eI ls) v' := ⟨hx.box, own_less hx.row h2.size, hx.isnt⟩
  refine (putA w' w0.heap.size g ls v k u hv1 hb1.size (by omega) hs).mono ?_
  rintro e w2 ⟨rfl, ⟨v2, hy, hob⟩, ht⟩
  have hv2l : ∀ b, v2.ownBlock = some b → b < w.heap.size ∨ w'.heap.size ≤ b := fun b hb => by
    rcases hob with e | ⟨c, e, hc⟩
    · exact .inl (hvl b (e ▸ hb))
    · rw [e] at hb; cases hb; exact .inr hc
  have hx2 : Sh 53 59 w2 w0.heap.size g' ls.length (fl eI eI ls) v' := hx1.tch ht (by omega) (fun e => by have := hvl _ e; omega) (fun b hb => ⟨by have := hxl b hb; omega, fun e => by have := hvl _ e; have := hxl b hb; omega⟩)
  refine ⟨_, rfl, ht.kept hv1, ?_⟩
  have hb2 := hb1.trans (ht.below hb1.size h1 fun b hb => (hv.row.lt b hb).1)
  have hpl := putI_le k u ls
  refine (cutA w2 w0.heap.size g (putI k u ls) v2 q hy (by omega) (rise_put k u ls hs)).mono ?_
  rintro e w3 ⟨rfl, _, ht3⟩
  have hgl' := hx.lt
  refine ⟨_, _, rfl, ht3.kept hy, ⟨v', hx2.tch ht3 (by omega) (fun e => by rcases hv2l _ e with h | h <;> omega) (fun b hb => ⟨by have := hxl b hb; omega, fun e => by have := hxl b hb; rcases hv2l _ e with h | h <;> omega⟩)⟩, by have := h2.size; omega, ?_⟩
  exact hb2.trans (ht3.below hb2.size h1 fun b hb => (hy.row.lt b hb).1)
theorem tab_atA_no (w0 w : World) (g n : Nat) (i : Int) (xs : List Value) (h : TabAt 53 59 w0 g n xs w) (hi : i < 0 ∨ (n : Int) ≤ i) :
    Calls Try.prog 19 #[.pointer (some ⟨g, 0, none⟩), .int .i64 i] w fun e w' => e = .returned (.tuple #[.int .i64 0, .int .i64 0, .bool false]) ∧ TabAt 53 59 w0 g n xs w' := by
  obtain ⟨v, hv⟩ := h.tab
  refine (atA_no w w0.heap.size g n i xs v hv hi).mono ?_
  rintro e w' ⟨rfl, hb⟩
  exact ⟨rfl, h.step hb⟩
end Go.Proofs.Ytobigmcfbkgmbaa
