/- The document's own Put and Drop. -/
import Derived.Test.YtnhlmpomgbpoiaaQn
import Derived.Laws.CopyOwn
namespace Go.Proofs.Ytnhlmpomgbpoiaa
open Go.RowKit

/-- The document's queue as it lies in block g. -/
def DqAt (w : World) (g : Nat) (A : Option Addr) (n c : Nat) (lim lost : Int) : Prop := w.heap[g]? = some (.cells #[.slice A n c, .int .i64 lim, .int .i64 lost] 27 (0, 0))
section
variable {w w' : World} {g n c n' c' : Nat} {lim lost lost' : Int} {A A' : Option Addr}
theorem DqAt.cells (h : DqAt w g A n c lim lost) : w.cell? ⟨g, 0, none⟩ = some (.slice A n c) ∧ w.cell? ⟨g, 1, none⟩ = some (.int .i64 lim) ∧ w.cell? ⟨g, 2, none⟩ = some (.int .i64 lost) := by
  refine ⟨?_, ?_, ?_⟩ <;> (rw [cell_of_row _ _ _ _ _ _ h]; rfl)
theorem DqAt.frozen (h : DqAt w g A n c lim lost) (i : Nat) : w.frozen? ⟨g, i, none⟩ = false := frozen_of_row _ _ _ _ _ h
theorem DqAt.loss (h : DqAt w g A n c lim lost) (x : Int) : DqAt (w.setCell ⟨g, 2, none⟩ (.int .i64 x)) g A n c lim x := by
  unfold DqAt at h ⊢; simp [World.setCell, Array.getElem?_modify, h]
theorem DqAt.row (h : DqAt w g A n c lim lost) (A' : Option Addr) (n' c' : Nat) : DqAt (w.setCell ⟨g, 0, none⟩ (.slice A' n' c')) g A' n' c' lim lost := by
  unfold DqAt at h ⊢; simp [World.setCell, Array.getElem?_modify, h]
theorem DqAt.lt (h : DqAt w g A n c lim lost) : g < w.heap.size := (Array.getElem?_eq_some_iff.1 h).1
theorem DqAt.keep (h : DqAt w g A n c lim lost) (hb : w'.heap[g]? = w.heap[g]?) : DqAt w' g A n c lim lost := hb.trans h
end
theorem one_dq (A : Option Addr) (n c : Nat) (lim lost : Int) : (#[.slice A n c, .int .i64 lim, .int .i64 lost] : Array Value).all (·.oneCell') = true := by simp [Value.oneCell']

theorem Nums.set {w : World} {B n c : Nat} {A : Option Addr} {l : List Int} {a : Addr} (h : Nums w B A n c l) (v : Value) (hne : 0 < n → ∀ b, blk A = some b → b ≠ a.block) : Nums (w.setCell a v) B A n c l :=
  ⟨h.len, h.cap, h.max, h.rng, fun h0 => by
    obtain ⟨b, off, rfl, hb, hc⟩ := h.cells h0
    exact ⟨b, off, rfl, hb, fun j hj => (World.cell?_setCell_far w a ⟨b, off + j, none⟩ v (fun e => hne h0 b rfl e.symm)).trans (hc j hj)⟩⟩
theorem Src.grown {w w' : World} {X : Option Addr} {m : Nat} {news : List Value} {row : Option Nat} (h : Src w X m news) (hg : w.grownBy w' row) (hne : 0 < m → blk X ≠ row) : Src w' X m news := by
  refine ⟨h.1, h.2.1, fun h0 => ?_⟩
  obtain ⟨ad, rfl, hc⟩ := h.2.2 h0
  exact ⟨ad, rfl, fun j u hu => hg.cell (hc j u hu) (fun e => hne h0 (by rw [← e]; show some ad.block = _; unfold Addr.add; split <;> rfl))⟩
/-- What the document's Put answers. -/
def DPut (w : World) (A0 : Option Addr) (n : Nat) (lim lost : Int) (V l : List Int) (m k : Nat) (e : Ending) (w' : World) : Prop := ∃ A c, e = .returned (.tuple #[.agg #[.slice A (n + k) c, .int .i64 lim, .int .i64 (lost + ((m : Int) - (k : Int)))], .int .i64 k]) ∧ Nums w' w'.heap.size A (n + k) c (V ++ l.take k) ∧ Below w.heap.size w w' ∧ ((k = 0 ∧ blk A = blk A0) ∨ ∀ b, blk A = some b → w.heap.size ≤ b)
/-- Between two rounds of Put. -/
def DpR (w : World) (A0 : Option Addr) (n : Nat) (lim lost : Int) (V l : List Int) (m r : Nat) (cnt i : Value) (wr : World) : Prop :=
  ∃ (j k : Nat) (A : Option Addr) (c : Nat), j ≤ m ∧ k = min j r ∧ i = .int .i64 j ∧ cnt = .int .i64 k ∧ DqAt wr w.heap.size A (n + k) c lim (lost + ((j : Int) - (k : Int))) ∧ DqAt wr (w.heap.size + 1) none 0 0 0 0 ∧ Nums wr wr.heap.size A (n + k) c (V ++ l.take k) ∧ Below w.heap.size w wr ∧ w.heap.size + 1 + 1 ≤ wr.heap.size ∧ (0 < n + k → ∀ b, blk A = some b → b ≠ w.heap.size ∧ b ≠ w.heap.size + 1) ∧ ((k = 0 ∧ blk A = blk A0) ∨ ∀ b, blk A = some b → w.heap.size ≤ b)

set_option maxHeartbeats 4000000 in
theorem dput_any (w : World) (A X : Option Addr) (n c m cx : Nat) (lim lost : Int) (V l : List Int) (h : Nums w w.heap.size A n c V) (hx : Nums w w.heap.size X m cx l) (hl : 0 ≤ lim ∧ lim ≤ 65536) (hn : (n : Int) ≤ lim) (hlo : 0 ≤ lost ∧ lost ≤ 1000000) (hm : m ≤ 1000) (r : Nat) (hr : lim - n = r) :
    Calls Try.prog 10 #[.agg #[.slice A n c, .int .i64 lim, .int .i64 lost], .slice X m cx] w (DPut w A n lim lost V l m (min m r)) := by
  have hb0 : Below w.heap.size w ((w.alloc (.cells #[.slice A n c, .int .i64 lim, .int .i64 lost] 27)).alloc (.cells #[.slice none 0 0, .int .i64 0, .int .i64 0] 27)) := ((Below.refl _ _).alloc (Nat.le_refl _) _).alloc (by simp) _
  have hst : DpR w A n lim lost V l m r (.int .i64 0) (.int .i64 0) ((w.alloc (.cells #[.slice A n c, .int .i64 lim, .int .i64 lost] 27)).alloc (.cells #[.slice none 0 0, .int .i64 0, .int .i64 0] 27)) := by
    refine ⟨0, 0, A, c, Nat.zero_le _, by simp, rfl, rfl, ?_, heap_alloc2_new w _ _, ?_, hb0, by simp, fun h0 b hb => ?_, .inl ⟨rfl, rfl⟩⟩
    · have := heap_alloc2_old w (.cells #[.slice A n c, .int .i64 lim, .int .i64 lost] 27) (.cells #[.slice none 0 0, .int .i64 0, .int .i64 0] 27)
      simpa [DqAt] using this
    · simpa using h.step hb0
    · obtain ⟨b', off, rfl, hlt, _⟩ := h.cells (by omega)
      cases hb
      simp only
      omega
  have HST := Lib.hid hst
  have HX := Lib.hid hx
  have hcx := hx.cap
  have hmx := hx.max
  simp only [maxLen] at hmx
  clear hb0 hst h
  obtain ⟨hl0, hl1⟩ := hl
  obtain ⟨hlo0, hlo1⟩ := hlo
  go_enter Try.func10, Try.ntmps10
  go_wp2_with fail
  go_loopw [6, 7] (DpR w A n lim lost V l m r) (fun _ i _ => m - (intOf i).toNat)
  case atStart => exact HST.out
  case round =>
    obtain ⟨j, k, A1, c1, hj, hk, rfl, rfl, hdq, hdr, hN, hbw, hsz, hne, hpl⟩ := hrel
    have HPL := Lib.hid hpl
    clear hpl
    have hk1 : k ≤ j ∧ k ≤ r := by omega
    have HK := Lib.hid hk
    have HNE := Lib.hid hne
    obtain ⟨hk1, hk2⟩ := hk1
    clear hk hne
    by_cases hlt : j < m
    · obtain ⟨b, off, rfl, hbb, hcl⟩ := hx.cells (by omega)
      have hcj := (hbw.cell (p := ⟨b, off + j, none⟩) hbb).trans (hcl j hlt)
      obtain ⟨d0, d1, d2⟩ := hdq.cells
      have f0 := hdq.frozen 0
      have f2 := hdq.frozen 2
      have hN1 := hN.max
      have hN2 := hN.cap
      simp only [maxLen] at hN1
      have hj0 : (0 : Int) ≤ (j : Int) := by omega
      have hj1 : (j : Int) < (m : Int) := by omega
      by_cases hfull : lim ≤ ((n + k : Nat) : Int)
      · have HDQ := Lib.hid hdq
        have HDR := Lib.hid hdr
        have HN := Lib.hid hN
        have hkr : k = r := by omega
        have HKR := Lib.hid hkr
        clear hdq hdr hN hx hcl hkr
        go_wp2_with fail
        go_roundw
        case rel =>
          have e1 : lost + ((j : Int) - (k : Int)) + 1 = lost + (((j + 1 : Nat) : Int) - (k : Int)) := by omega
          refine ⟨j + 1, k, A1, c1, by omega, by have := HKR.out; omega, by go_num, rfl, ?_, HDR.out.keep (Below.heap_setCell _ _ _ _ (by simp)), (HN.out.set _ (fun h0 b hb => (HNE.out h0 b hb).1)).more (by simp), hbw.setCell (p := ⟨w.heap.size, 2, none⟩) (Nat.le_refl _) _, by simp; exact hsz, HNE.out, HPL.out⟩
          rw [← e1]
          exact HDQ.out.loss _
        case measure => simp [intOf]; omega
      · have hkj : k = j := by have := HK.out; omega
        have HKJ := Lib.hid hkj
        have hnn : ((n + k : Nat) : Int) < lim := by omega
        have hgl := hdq.lt
        have hS1 := Src.of_nums hN (Nat.le_refl _)
        have hlk : List.take (n + k) (V ++ List.take k l) = V ++ List.take k l := List.take_of_length_le (by rw [hN.len]; exact Nat.le_refl _)
        rw [hlk] at hS1
        have hvx := hx.range j
        generalize hvj : l.getD j 0 = v at hcj hvx
        have HVJ := Lib.hid hvj
        have HDQ := Lib.hid hdq
        have HDR := Lib.hid hdr
        have HN := Lib.hid hN
        have HS1 := Lib.hid hS1
        clear hdq hdr hN hx hcl hkj hlk hvj hS1
        go_wp2_with fail
        have ba : Below wr.heap.size wr (wr.drew.alloc (.cells #[] 3)) := (Below.refl _ _).drew.alloc (Nat.le_refl _) _
        have bb : Below wr.heap.size wr ((wr.drew.alloc (.cells #[] 3)).alloc (.cells #[.int .i64 v] 3)) := ba.alloc (by simp) _
        have bc : Below wr.heap.size wr (wr.drew.alloc (.cells #[.int .i64 v] 3)) := (Below.refl _ _).drew.alloc (Nat.le_refl _) _
        have bd : Below wr.heap.size wr ((wr.drew.alloc (.cells #[.int .i64 v] 3)).alloc (.cells #[] 3)) := bc.alloc (by simp) _
        have qa : Qs (wr.drew.alloc (.cells #[] 3)) wr.heap.size 3 (some ⟨wr.heap.size, 0, none⟩) 0 0 [] := Qs.made wr.drew wr.heap.size 3 (Nat.le_refl _)
        have qb : Qs ((wr.drew.alloc (.cells #[] 3)).alloc (.cells #[.int .i64 v] 3)) wr.heap.size 3 (some ⟨wr.heap.size, 0, none⟩) 0 0 [] := qa.below ((Below.refl _ _).alloc (Nat.le_refl _) _)
        have qd : Qs ((wr.drew.alloc (.cells #[.int .i64 v] 3)).alloc (.cells #[] 3)) wr.heap.size 3 (some ⟨wr.heap.size + 1, 0, none⟩) 0 0 [] := by
          have := Qs.made (wr.drew.alloc (.cells #[.int .i64 v] 3)) wr.heap.size 3 (by simp)
          rw [World.size_alloc] at this
          exact this
        have xb : Src ((wr.drew.alloc (.cells #[] 3)).alloc (.cells #[.int .i64 v] 3)) (some ⟨wr.heap.size + 1, 0, none⟩) 1 (List.take 1 [.int .i64 v]) := by
          have := Src.lit (wr.drew.alloc (.cells #[] 3)) 3 [.int .i64 v] (by simp [Value.oneCell']) 1 (Nat.le_refl _)
          rw [World.size_alloc] at this
          exact this
        have xd : Src ((wr.drew.alloc (.cells #[.int .i64 v] 3)).alloc (.cells #[] 3)) (some ⟨wr.heap.size, 0, none⟩) 1 (List.take 1 [.int .i64 v]) :=
          (Src.lit wr.drew 3 [.int .i64 v] (by simp [Value.oneCell']) 1 (Nat.le_refl _)).below ((Below.refl _ _).alloc (Nat.le_refl _) _)
        have hbr : b < wr.heap.size := by omega
        have hgr : w.heap.size < wr.heap.size := by omega
        have szb : wr.heap.size ≤ ((wr.drew.alloc (.cells #[] 3)).alloc (.cells #[.int .i64 v] 3)).heap.size := bb.size
        have szd : wr.heap.size ≤ ((wr.drew.alloc (.cells #[.int .i64 v] 3)).alloc (.cells #[] 3)).heap.size := bd.size
        have sza : wr.heap.size ≤ (wr.drew.alloc (.cells #[] 3)).heap.size := ba.size
        have BA := Lib.hid ba
        have BB := Lib.hid bb
        have BD := Lib.hid bd
        have QA := Lib.hid qa
        have QB := Lib.hid qb
        have QD := Lib.hid qd
        have XB := Lib.hid xb
        have XD := Lib.hid xd
        have SZ := Lib.hid (And.intro sza (And.intro szb szd))
        clear ba bb bc bd qa qb qd xb xd sza szb szd
        go_region_law (first
          | (refine step_append_q rfl (.tmp 24) (.tmp 26) 25 rfl Try.underlying25 info_el rfl rfl QA.out SZ.out.1 rfl (HS1.out.below BA.out) (by simp only [maxLen]; omega) (by omega) ?_
             intro A3 c3 w3 hq3 hg3 hn3
             rw [Nat.zero_add, List.nil_append] at hq3
             have hb3 : Below wr.heap.size wr w3 := BA.out.grown hg3 SZ.out.1 (fun b' e => by cases e; exact Nat.le_refl _)
             have hal : Below w3.heap.size w3 (w3.alloc (.cells #[.int .i64 v] 3)) := (Below.refl _ _).alloc (Nat.le_refl _) _
             have hcj3 : w3.cell? ⟨b, off + j, none⟩ = some (.int .i64 v) := (hb3.cell (p := ⟨b, off + j, none⟩) hbr).trans hcj
             have HQ3 := Lib.hid (hq3.below hal)
             have HX3 := Lib.hid (Src.lit w3 3 [.int .i64 v] (by simp [Value.oneCell']) 1 (Nat.le_refl _))
             have HB3 := Lib.hid (hb3.trans (hal.mono hb3.size))
             have HZ3 := Lib.hid (Nat.le_trans hb3.size hal.size)
             clear hq3 hg3 hn3 hb3 hal)
          | (refine step_append_q rfl (.tmp 24) (.tmp 26) 25 rfl Try.underlying25 info_el rfl rfl QB.out SZ.out.2.1 rfl (HS1.out.below BB.out) (by simp only [maxLen]; omega) (by omega) ?_
             intro A3 c3 w3 hq3 hg3 hn3
             rw [Nat.zero_add, List.nil_append] at hq3
             have hb3 : Below wr.heap.size wr w3 := BB.out.grown hg3 SZ.out.2.1 (fun b' e => by cases e; exact Nat.le_refl _)
             have HQ3 := Lib.hid hq3
             have HX3 := Lib.hid (XB.out.grown hg3 (fun _ e => by simp [blk] at e))
             have HB3 := Lib.hid hb3
             have HZ3 := Lib.hid hb3.size
             clear hq3 hg3 hn3 hb3)
          | (refine step_append_q rfl (.tmp 24) (.tmp 26) 25 rfl Try.underlying25 info_el rfl rfl QD.out SZ.out.2.2 rfl (HS1.out.below BD.out) (by simp only [maxLen]; omega) (by omega) ?_
             intro A3 c3 w3 hq3 hg3 hn3
             rw [Nat.zero_add, List.nil_append] at hq3
             have hb3 : Below wr.heap.size wr w3 := BD.out.grown hg3 SZ.out.2.2 (fun b' e => by cases e; exact Nat.le_succ _)
             have HQ3 := Lib.hid hq3
             have HX3 := Lib.hid (XD.out.grown hg3 (fun _ e => by simp [blk] at e))
             have HB3 := Lib.hid hb3
             have HZ3 := Lib.hid hb3.size
             clear hq3 hg3 hn3 hb3)
          | (refine step_append_q rfl (.tmp 27) (.tmp 32) 25 rfl Try.underlying25 info_el rfl rfl HQ3.out HZ3.out rfl HX3.out (by simp only [maxLen]; omega) (by omega) ?_
             intro A4 c4 w4 hq4 hg4 hn4
             have hb4 : Below wr.heap.size wr w4 := HB3.out.grown hg4 HZ3.out (fun b' e => (HQ3.out.lt e).1)
             have d04 : w4.cell? ⟨w.heap.size, 0, none⟩ = some (.slice A1 (n + k) c1) := (hb4.cell (p := ⟨w.heap.size, 0, none⟩) hgr).trans d0
             have f04 : w4.frozen? ⟨w.heap.size, 0, none⟩ = false := (hb4.frozen (p := ⟨w.heap.size, 0, none⟩) hgr).trans f0
             have HQ4 := Lib.hid hq4
             have HB4 := Lib.hid hb4
             clear hq4 hg4 hn4 hb4))
        all_goals
          have hkm : k < l.length := by have := HX.out.len; omega
          have hlst : ints (V ++ List.take (k + 1) l) = ints (V ++ List.take k l) ++ List.take 1 [Value.int .i64 v] := by
            have hkj := HKJ.out
            rw [take_succ_getD hkm, hkj, HVJ.out]
            simp
          have hN4 : Nums w4 w4.heap.size A4 (n + k + 1) c4 (V ++ List.take (k + 1) l) := by
            refine Nums.of_qs (base := wr.heap.size) (by rw [hlst]; exact HQ4.out) (fun x hx' => ?_)
            rcases List.mem_append.1 hx' with h1 | h1
            · exact HN.out.rng x (List.mem_append.2 (.inl h1))
            · exact HX.out.rng x (List.mem_of_mem_take h1)
          have hne4 : ∀ b, blk A4 = some b → b ≠ w.heap.size ∧ b ≠ w.heap.size + 1 := fun b hb => by
            have := (HQ4.out.lt hb).1
            omega
          have hdq4 : DqAt w4 w.heap.size A1 (n + k) c1 lim (lost + ((j : Int) - (k : Int))) := HDQ.out.keep (HB4.out.block _ (by omega))
          have hdr4 : DqAt w4 (w.heap.size + 1) none 0 0 0 0 := HDR.out.keep (HB4.out.block _ (by omega))
          have HN4 := Lib.hid hN4
          have HGE4 : Hid (∀ b, blk A4 = some b → w.heap.size ≤ b) := fun b hb => by have := (HQ4.out.lt hb).1; omega
          have HNE4 := Lib.hid hne4
          have HDQ4 := Lib.hid hdq4
          have HDR4 := Lib.hid hdr4
          clear hkm hlst hN4 hne4 hdq4 hdr4
          go_wp2_with fail
          go_roundw
          case rel =>
            have hkj := HKJ.out
            refine ⟨j + 1, k + 1, A4, c4, by omega, by omega, by go_num, by go_num, ?_, HDR4.out.keep (Below.heap_setCell _ _ _ _ (by simp)), (HN4.out.set _ (fun _ b hb => (HNE4.out b hb).1)).more (by simp), (hbw.trans (HB4.out.mono hbw.size)).setCell (p := ⟨w.heap.size, 0, none⟩) (Nat.le_refl _) _, by have := HB4.out.size; simp; omega, fun _ => HNE4.out, .inr HGE4.out⟩
            have := HDQ4.out.row A4 (n + k + 1) c4
            rw [show ((j + 1 : Nat) : Int) - ((k + 1 : Nat) : Int) = (j : Int) - (k : Int) by omega]
            exact this
          case measure => simp [intOf]; omega
    · obtain rfl : j = m := by omega
      have hkm := HK.out
      obtain ⟨d0, d1, d2⟩ := hdq.cells
      obtain ⟨e0, e1, e2⟩ := hdr.cells
      have g0 := hdr.frozen 0
      have g1 := hdr.frozen 1
      have g2 := hdr.frozen 2
      have hq' : DqAt wr w.heap.size A1 (n + k) c1 lim (lost + ((j : Int) - (k : Int))) := hdq
      have hr' : DqAt wr (w.heap.size + 1) none 0 0 0 0 := hdr
      have HDQ := Lib.hid hq'
      have HDR := Lib.hid hr'
      have HN := Lib.hid hN
      clear hdq hdr hq' hr' hN hkm
      go_wp2_with (first
        | (refine wpList_load_row rfl _ (.tmp 2) rfl w.heap.size rfl _ _ _ _ HDQ.out Try.underlying27 rfl info_dq ?_)
        | (refine wpList_store_row rfl _ (.tmp 4) (.tmp 37) rfl (w.heap.size + 1) _ rfl rfl _ _ HDR.out info_dq rfl (one_dq _ _ _ _ _) ?_))
      have hk := HK.out
      rw [← hk]
      have hrow : (wr.setRow (w.heap.size + 1) #[.slice A1 (n + k) c1, .int .i64 lim, .int .i64 (lost + ((j : Int) - (k : Int)))]).heap[w.heap.size + 1]? = some (.cells #[.slice A1 (n + k) c1, .int .i64 lim, .int .i64 (lost + ((j : Int) - (k : Int)))] 27 (0, 0)) := setRow_heap wr _ _ _ _ (0, 0) HDR.out
      have hB := below_setRow hbw (show w.heap.size ≤ w.heap.size + 1 by omega) #[.slice A1 (n + k) c1, .int .i64 lim, .int .i64 (lost + ((j : Int) - (k : Int)))]
      have hN' : Nums (wr.setRow (w.heap.size + 1) #[.slice A1 (n + k) c1, .int .i64 lim, .int .i64 (lost + ((j : Int) - (k : Int)))]) (wr.setRow (w.heap.size + 1) #[.slice A1 (n + k) c1, .int .i64 lim, .int .i64 (lost + ((j : Int) - (k : Int)))]).heap.size A1 (n + k) c1 (V ++ List.take k l) := by
        have h := HN.out
        refine ⟨h.len, h.cap, h.max, h.rng, fun h0 => ?_⟩
        obtain ⟨b, off, rfl, hb, hc⟩ := h.cells h0
        refine ⟨b, off, rfl, by simp [World.setRow]; exact hb, fun j' hj' => (World.cell?_of_block (a := ⟨b, off + j', none⟩) (setRow_other wr (w.heap.size + 1) b _ ((HNE.out h0 b rfl).2))).trans (hc j' hj')⟩
      exact bodyPost_ret (results_cell_tmp_row (p := 4) (u := 5) rfl _ _ (w.heap.size + 1) _ _ _ _ rfl hrow Try.underlying27 rfl info_dq) rfl ⟨A1, c1, rfl, hN', hB, HPL.out⟩
end Go.Proofs.Ytnhlmpomgbpoiaa
