/- What slices.Insert, Delete and Clone do with a row of the call's own: elements of 6 cells. -/
import Derived.Test.YtgaoplbocjadaaaYDRa
import Derived.Test.YtgaoplbocjadaaaProg
import Derived.Deep.RegionLaw
import Derived.IntWalk
import Derived.WalkSpells
namespace Go.Proofs.Ytgaoplbocjadaaa
open Go.RowKit
set_option linter.unusedSimpArgs false
set_option linter.unusedVariables false
theorem info_elE : (Try.prog.info? 202).map (fun i => (i.zero, i.size, i.bytes)) = some (some (.agg #[.int .i64 0, .int .i64 0, .int .i64 0, .int .i64 0, .int .i64 0, .string ByteArray.empty]), 6, 56) := by kernel_rfl
theorem size_elE : (Try.prog.info? 202).map (·.size) = some 6 := by kernel_rfl
theorem zero_elE (w : World) : (zeroValue 202).run Try.prog w = .ok (.agg #[.int .i64 0, .int .i64 0, .int .i64 0, .int .i64 0, .int .i64 0, .string ByteArray.empty]) w := by kernel_rfl
/-- What has been made of a row that lay at v. -/
def MadeE (w : World) (base : Nat) (v : Value) (n : Nat) (xs : List Value) (e : Ending) (w' : World) : Prop := ∃ v', e = .returned v' ∧ w'.ownsRow base 202 6 v' n xs ∧ w.grownBy w' v.ownBlock ∧ (v'.ownBlock = v.ownBlock ∨ ∃ b, v'.ownBlock = some b ∧ w.heap.size ≤ b)
theorem apartE (w : World) (h g off lb cb : Nat) (news : List Value) (cur : Array Value) (hnew : w.heap[h]? = some (.cells news.toArray 202 (0, 0))) (hg : w.heap[g]? = some (.cells cur 202 (0, 0))) (hc : cur.size ≠ 0) (hne : h ≠ g) :
    (callFunc 136 #[.slice (some ⟨h, 0, none⟩) 1 1, .slice (some ⟨g, off, none⟩) lb cb]).run Try.prog w = .ok (.value (.bool false)) w := by
  have hz : ∀ w, (Go.sizeOf 202).run Try.prog w = .ok 6 w := fun w => by kernel_rfl
  rw [run_callFunc_extern Try.func136 (by kernel_rfl) (by kernel_rfl) (by kernel_rfl) (e := Extern.SlicesOverlaps.overlaps #[182, 182] #[4]) (by kernel_rfl),
    Lib.run_overlaps_apart w 182 4 202 Try.underlying182 6 hz ⟨h, 0, none⟩ ⟨g, off, none⟩ 1 1 lb cb hne 202 202 news.length cur.size (by simp [World.shape?, hnew]) (by simp [World.shape?, hg]) hc (frozen_of_row _ _ _ _ _ hnew) (frozen_of_row _ _ _ _ _ hnew)]
  rfl
set_option maxRecDepth 100000 in
set_option maxHeartbeats 2000000 in
theorem insert_endE (w : World) (base n h : Nat) (v : Value) (xs news : List Value) (hown : w.ownsRow base 202 6 v n xs) (hn : n ≤ 100000) (hb : base ≤ w.heap.size) (hnew : w.heap[h]? = some (.cells news.toArray 202 (0, 0))) (hnl : news.length = 6) (h1 : ∀ u ∈ news, u.oneCell' = true) :
    Calls Try.prog 124 #[v, .int .i64 (n : Nat), .slice (some ⟨h, 0, none⟩) 1 1] w (MadeE w base v (n + 1) (xs ++ news)) := by
  obtain ⟨i0, hi, hz0, hz1, hz2⟩ := info_parts info_elE
  have HO := Lib.hid hown
  have HNEW := Lib.hid hnew
  have HNL := Lib.hid hnl
  have H1 := Lib.hid h1
  have HI := Lib.hid hi
  have hsrc : Hid (∀ j u, news[j]? = some u → w.cell? ((⟨h, 0, none⟩ : Addr).add j) = some u) := fun j u hu => by
    rw [add_plainR, cell_of_row _ _ _ _ _ _ HNEW.out, Nat.zero_add]; simpa using hu
  rcases hown.2 with ⟨rfl, rfl⟩ | ⟨g, cap, cur, rfl, hbg, hg, hnc, hm, hs, ht⟩
  · clear hown hnew hnl h1 hi
    go_enter Try.func124, Try.ntmps124
    go_wp2_with (at_builtin; refine wpList_append_own_at _ rfl (.tmp 23) (.tmp 24) 182 rfl base 202 i0 (.agg #[.int .i64 0, .int .i64 0, .int .i64 0, .int .i64 0, .int .i64 0, .string ByteArray.empty]) 6 56 Try.underlying182 HI.out hz0 hz1 hz2 rfl (by omega) _ 0 xs rfl HO.out ⟨h, 0, none⟩ 1 1 news rfl (by rw [HNL.out]) hsrc.out H1.out (by simp [maxLen]) (by omega) hb ?_; intro v' w' r1 r2 r3 r4)
    go_ret
    exact ⟨_, rfl, r1, r2, r4.imp id fun e => ⟨_, e, Nat.le_refl _⟩⟩
  · simp only [maxLen] at hm
    clear hown hnew hnl h1 hi hg hs ht
    by_cases hcn : cap = n
    all_goals
      go_enter Try.func124, Try.ntmps124
      go_wp2_with (at_builtin; refine wpList_append_own_at _ rfl (.tmp 23) (.tmp 24) 182 rfl base 202 i0 (.agg #[.int .i64 0, .int .i64 0, .int .i64 0, .int .i64 0, .int .i64 0, .string ByteArray.empty]) 6 56 Try.underlying182 HI.out hz0 hz1 hz2 rfl (by omega) _ n xs rfl HO.out ⟨h, 0, none⟩ 1 1 news rfl (by rw [HNL.out]) hsrc.out H1.out (by simp [maxLen]; omega) (by omega) hb ?_; intro v' w' r1 r2 r3 r4)
      all_goals (go_ret; exact ⟨_, rfl, r1, r2, r4.imp id fun e => ⟨_, e, Nat.le_refl _⟩⟩)
set_option maxRecDepth 100000 in
set_option maxHeartbeats 4000000 in
theorem insert_roomE (w : World) (base n i g cap h : Nat) (xs news : List Value) (hown : w.ownsRow base 202 6 (.slice (some ⟨g, 0, none⟩) n cap) n xs) (hi : i < n) (hroom : n + 1 ≤ cap) (hnew : w.heap[h]? = some (.cells news.toArray 202 (0, 0))) (hnl : news.length = 6) (h1 : ∀ u ∈ news, u.oneCell' = true) (hx1 : ∀ u ∈ xs, u.oneCell' = true) (hne : h ≠ g) :
    Calls Try.prog 124 #[.slice (some ⟨g, 0, none⟩) n cap, .int .i64 (i : Nat), .slice (some ⟨h, 0, none⟩) 1 1] w (MadeE w base (.slice (some ⟨g, 0, none⟩) n cap) (n + 1) (xs.take (i * 6) ++ news ++ xs.drop (i * 6))) := by
  obtain ⟨g', cap', cur, e0, hbg, hg, hnc, hm, hs, hl, hx⟩ := own_some hown (by omega)
  cases e0
  have hfin := own_shift (w := w) (i := i) hbg hg hroom hm hs hl hx (by omega) hnl
  have hcz : cur.size ≠ 0 := by omega
  have hov := fun lb cb => apartE w h g ((i + 1) * 6) lb cb news cur hnew hg hcz hne
  have hdl : (xs.drop (i * 6)).length = (n - i) * 6 := by rw [List.length_drop, hl]; omega
  simp only [maxLen] at hm
  have hcp1 : ∀ ty dc sc, (Builtin.copy_ #[182, 182] ty #[.slice (some ⟨g, (i + 1) * 6, none⟩) (n - i) dc, .slice (some ⟨g, i * 6, none⟩) (n + 1 - i) sc]).run Try.prog w.drew = .ok (goInt (n - i : Nat)) (w.drew.setCells g ((i + 1) * 6) (xs.drop (i * 6))) := fun ty dc sc =>
    run_copy_rows w.drew 182 182 ty 202 6 g ((i + 1) * 6) (n - i) dc _ (n + 1 - i) sc (n - i) 202 (xs.drop (i * 6)) cur Try.underlying182 size_elE (by simp only [Nat.min_def]; split <;> omega) hdl hg (by rw [hdl, hs]; omega)
      ⟨_, rfl, fun j u hu => by
        have hj : j < (n - i) * 6 := by rw [← hdl]; exact (List.getElem?_eq_some_iff.1 hu).1
        rw [add_plainR, show w.drew.cell? ⟨g, i * 6 + j, none⟩ = w.cell? ⟨g, i * 6 + j, none⟩ from rfl, own_cell hown (by omega)]
        rwa [List.getElem?_drop] at hu⟩ (fun u hu => hx1 u (List.mem_of_mem_drop hu))
  obtain ⟨c1, k1, k2, k3⟩ := setCells_blockR (xs.drop (i * 6)) w.drew g ((i + 1) * 6) 202 (0, 0) cur hg (by rw [hdl, hs]; omega)
  have hgr1 : w.grownBy (w.drew.setCells g ((i + 1) * 6) (xs.drop (i * 6))) (some g) := grown_undrew (setCells_grownR _ _ _ (grown_refl _ _))
  have hcp2 : ∀ ty dc, (Builtin.copy_ #[182, 182] ty #[.slice (some ⟨g, i * 6, none⟩) (n + 1 - i) dc, .slice (some ⟨h, 0, none⟩) 1 1]).run Try.prog (w.drew.setCells g ((i + 1) * 6) (xs.drop (i * 6))) = .ok (goInt (1 : Nat)) ((w.drew.setCells g ((i + 1) * 6) (xs.drop (i * 6))).setCells g (i * 6) news) := fun ty dc =>
    run_copy_rows _ 182 182 ty 202 6 g (i * 6) (n + 1 - i) dc _ 1 1 1 202 news c1 Try.underlying182 size_elE (by simp only [Nat.min_def]; split <;> omega) (by rw [hnl]) k1 (by rw [hnl, k2, hs]; omega)
      ⟨_, rfl, fun j u hu => by
        rw [add_plainR, cell_of_row _ _ _ _ _ _ ((hgr1.block h (Array.getElem?_eq_some_iff.1 hnew).1 (fun e => hne (by cases e; rfl))).trans hnew), Nat.zero_add]
        simpa using hu⟩ h1
  have hfin2 : Hid (((w.drew.setCells g ((i + 1) * 6) (xs.drop (i * 6))).setCells g (i * 6) news).ownsRow base 202 6 (.slice (some ⟨g, 0, none⟩) (n + 1) cap) (n + 1) (xs.take (i * 6) ++ news ++ xs.drop (i * 6)) ∧
    w.grownBy ((w.drew.setCells g ((i + 1) * 6) (xs.drop (i * 6))).setCells g (i * 6) news) (some g)) := by
    have h := own_shift (w := w.drew) (i := i) hbg hg hroom (by simpa [maxLen] using hm) hs hl hx (by omega) hnl
    exact ⟨h.1, grown_undrew h.2⟩
  have hz2 : ((i : Int) == (n : Int)) = false := by simp; omega
  have hz3 : decide ((cap : Int) < (n : Int) + 1) = false := by simp; omega
  have hw1 : IntKind.i64.wrap ((n : Int) + 1) = (n : Int) + 1 := IntWalk.i64_in _ (by omega)
  have hw2 : IntKind.i64.wrap ((i : Int) + 1) = (i : Int) + 1 := IntWalk.i64_in _ (by omega)
  have hb1 : (0 : Int) ≤ (i : Int) + 1 := by omega
  have hin : i ≤ n := by omega
  have htn : ((i : Int) + 1).toNat = i + 1 := by omega
  have hb2 : ¬ (cap = i + 1) := by omega
  have hb3 : (i : Int) ≤ (n : Int) + 1 := by omega
  have hb4 : ¬ (cap = i) := by omega
  have HN := Lib.hid hne
  have HC1 := Lib.hid hcp1
  have HC2 := Lib.hid hcp2
  have HOV := Lib.hid hov
  generalize hW1 : w.drew.setCells g ((i + 1) * 6) (xs.drop (i * 6)) = W1 at *
  have HW1 := Lib.hid hW1
  clear hown hfin hnew hnl h1 hx1 hg hs hl hx hcz hdl k1 k2 k3 hgr1 hcp1 hcp2 hov hne hW1
  go_enter Try.func124, Try.ntmps124
  go_wp2_with (simp only [HOV.out])
  go_region_law ((refine step_copy_runI rfl _ _ 182 182 rfl (.slice (some ⟨g, (i + 1) * 6, none⟩) (n - i) (cap - (i + 1))) (.slice (some ⟨g, i * 6, none⟩) (n + 1 - i) (cap - i)) (by simp [Act.eval, Act.put]) (by simp [Act.eval, Act.put]) (HC1.out _ (cap - (i + 1)) (cap - i)) ?_))
  go_wp2_with (refine wpList_copy_runI _ (o := ⟨some 82, _, _, _, _, _⟩) rfl (.tmp 80) (.tmp 81) 182 182 rfl _ _ rfl rfl (HC2.out _ _) ?_)
  go_ret
  exact ⟨_, rfl, hfin2.out.1, hfin2.out.2, .inl rfl⟩
set_option maxRecDepth 100000 in
set_option maxHeartbeats 4000000 in
theorem insert_growE (w : World) (base n i g cap h : Nat) (xs news : List Value) (hown : w.ownsRow base 202 6 (.slice (some ⟨g, 0, none⟩) n cap) n xs) (hbase : base ≤ w.heap.size) (hi : i < n) (hn : n ≤ 100000) (hroom : cap < n + 1) (hnew : w.heap[h]? = some (.cells news.toArray 202 (0, 0))) (hnl : news.length = 6) (h1 : ∀ u ∈ news, u.oneCell' = true) (hx1 : ∀ u ∈ xs, u.oneCell' = true) :
    Calls Try.prog 124 #[.slice (some ⟨g, 0, none⟩) n cap, .int .i64 (i : Nat), .slice (some ⟨h, 0, none⟩) 1 1] w (MadeE w base (.slice (some ⟨g, 0, none⟩) n cap) (n + 1) (xs.take (i * 6) ++ news ++ xs.drop (i * 6))) := by
  obtain ⟨g', cap', cur, e0, hbg, hg, hnc, hm, hs, hl, hx⟩ := own_some hown (by omega)
  cases e0
  obtain rfl : cap = n := by omega
  obtain ⟨i0, hi0, hz0, hzs, hzb⟩ := info_parts info_elE
  have hgw : g < w.heap.size := (Array.getElem?_eq_some_iff.1 hg).1
  have hhw : h < w.heap.size := (Array.getElem?_eq_some_iff.1 hnew).1
  have hold : (Builtin.firstCells i0.size i (.slice (some ⟨g, 0, none⟩) i cap)).run Try.prog w.drew = .ok (xs.take (i * 6)).toArray w.drew := by
    rw [hzs]
    have hlt : (xs.take (i * 6)).length = i * 6 := by rw [List.length_take]; omega
    have := run_loadCells_list (P := Try.prog) w.drew ⟨g, 0, none⟩ (xs.take (i * 6)) (fun j v hj => by
      have hj2 : j < i * 6 := by rw [← hlt]; exact (List.getElem?_eq_some_iff.1 hj).1
      rw [add_plainR, Nat.zero_add, show w.drew.cell? ⟨g, j, none⟩ = w.cell? ⟨g, j, none⟩ from rfl, own_cell hown (by omega)]
      rwa [List.getElem?_take, if_pos hj2] at hj)
    rw [hlt] at this
    exact this
  have hkk : (cap : Int) + 1 - (i : Int) = ((cap + 1 - i : Nat) : Int) := by omega
  have hik : i + (cap + 1 - i) = cap + 1 := by omega
  obtain ⟨G, hG⟩ : ∃ G, G = grownCap w (cap + 1) cap 202 := ⟨_, rfl⟩
  obtain ⟨ROW, hROW⟩ : ∃ ROW : Array Value, ROW = (xs.take (i * 6)).toArray ++ Builtin.zeroCells (Value.cells (.agg #[.int .i64 0, .int .i64 0, .int .i64 0, .int .i64 0, .int .i64 0, .string ByteArray.empty])) (cap + 1 - i) ++ Builtin.zeroCells (Value.cells (.agg #[.int .i64 0, .int .i64 0, .int .i64 0, .int .i64 0, .int .i64 0, .string ByteArray.empty])) (G - (cap + 1)) := ⟨_, rfl⟩
  have hrz : ∀ ty, (Builtin.append_ #[182, 3] ty #[.slice (some ⟨g, 0, none⟩) i cap, .int .i64 ((cap : Int) + 1 - (i : Int))]).run Try.prog w =
      .ok (.slice (some ⟨w.heap.size, 0, none⟩) (cap + 1) G) (w.drew.alloc (.cells ROW 202)) := fun ty => by
    have h := Lib.run_append_grow_zeros w 182 3 ty 202 i0 (.agg #[.int .i64 0, .int .i64 0, .int .i64 0, .int .i64 0, .int .i64 0, .string ByteArray.empty]) .i64 .i64 Try.underlying182 Try.underlying3 hi0 hz0 (some ⟨g, 0, none⟩) i cap (xs.take (i * 6)) hold (cap + 1 - i) (by omega) (by omega) (by omega) (by omega) (by rw [hzb]; omega) (by rw [hzb, hik]; exact growslice_fits (by omega) (by omega))
    rw [hik, ← hG, ← hROW] at h
    rw [hkk]
    exact h
  have hGn : cap + 1 ≤ G := by rw [hG]; exact grownCap_ge w _ _ _
  have hG63 : G ≤ maxLen := by rw [hG]; exact grownCap_le_maxLen w (cap + 1) cap 202 (by simp only [maxLen]; omega)
  have hRs : ROW.size = G * 6 := by
    rw [hROW, Array.size_append, Array.size_append, zero_size, zero_size]
    simp only [List.size_toArray, List.length_take, hl, Value.cells, List.length_cons, List.length_nil]
    omega
  have hRx : ∀ k, k < i * 6 → ROW[k]? = xs[k]? := fun k hk => by
    have hlt : (xs.take (i * 6)).length = i * 6 := by rw [List.length_take]; omega
    rw [hROW, Array.append_assoc, Array.getElem?_append_left (by simpa [hlt] using hk)]
    simp [hk]
  have hHg : (w.drew.alloc (.cells ROW 202)).heap[w.heap.size]? = some (.cells ROW 202 (0, 0)) := heap_alloc_new w.drew _
  have hfin := own_moved (w := w.drew.alloc (.cells ROW 202)) (i := i) (base := base) hbase hHg hGn hG63 hRs hl hRx (by omega) hnl
  have hal : w.grownBy (w.drew.alloc (.cells ROW 202)) (some w.heap.size) := grown_undrew (World.grownBy_alloc w.drew _ _)
  have hgr1 := setCells_grownR news w.heap.size (i * 6) hal
  have hgr2 := setCells_grownR (xs.drop (i * 6)) w.heap.size ((i + 1) * 6) hgr1
  have hgr : w.grownBy (((w.drew.alloc (.cells ROW 202)).setCells w.heap.size (i * 6) news).setCells w.heap.size ((i + 1) * 6) (xs.drop (i * 6))) (some g) := ⟨hgr2.os, hgr2.tape, hgr2.output, hgr2.size, fun k hk _ => hgr2.block k hk (fun e => by cases e; omega)⟩
  have hdl : (xs.drop (i * 6)).length = (cap - i) * 6 := by rw [List.length_drop, hl]; omega
  have hcp1 : ∀ ty dc, (Builtin.copy_ #[182, 182] ty #[.slice (some ⟨w.heap.size, i * 6, none⟩) (cap + 1 - i) dc, .slice (some ⟨h, 0, none⟩) 1 1]).run Try.prog (w.drew.alloc (.cells ROW 202)) = .ok (goInt (1 : Nat)) ((w.drew.alloc (.cells ROW 202)).setCells w.heap.size (i * 6) news) := fun ty dc =>
    run_copy_rows _ 182 182 ty 202 6 w.heap.size (i * 6) (cap + 1 - i) dc _ 1 1 1 202 news ROW Try.underlying182 size_elE (by simp only [Nat.min_def]; split <;> omega) (by rw [hnl]) hHg (by rw [hnl, hRs]; omega)
      ⟨_, rfl, fun j u hu => by
        rw [add_plainR, cell_of_row _ _ _ _ _ _ ((hal.block h hhw (fun e => by cases e; omega)).trans hnew), Nat.zero_add]
        simpa using hu⟩ h1
  obtain ⟨W1, hW1⟩ : ∃ W1, (w.drew.alloc (.cells ROW 202)).setCells w.heap.size (i * 6) news = W1 := ⟨_, rfl⟩
  obtain ⟨c1, k1, k2, k3⟩ := setCells_blockR news (w.drew.alloc (.cells ROW 202)) w.heap.size (i * 6) 202 (0, 0) ROW hHg (by rw [hnl, hRs]; omega)
  rw [hW1] at hcp1 hfin hgr hgr1 k1
  have hcp2 : ∀ ty dc sc, (Builtin.copy_ #[182, 182] ty #[.slice (some ⟨w.heap.size, (i + 1) * 6, none⟩) (cap - i) dc, .slice (some ⟨g, i * 6, none⟩) (cap - i) sc]).run Try.prog W1.drew = .ok (goInt (cap - i : Nat)) (W1.drew.setCells w.heap.size ((i + 1) * 6) (xs.drop (i * 6))) := fun ty dc sc =>
    run_copy_rows W1.drew 182 182 ty 202 6 w.heap.size ((i + 1) * 6) (cap - i) dc _ (cap - i) sc (cap - i) 202 (xs.drop (i * 6)) c1 Try.underlying182 size_elE (by simp only [Nat.min_def]; split <;> omega) hdl k1 (by rw [hdl, k2, hRs]; omega)
      ⟨_, rfl, fun j u hu => by
        have hj : j < (cap - i) * 6 := by rw [← hdl]; exact (List.getElem?_eq_some_iff.1 hu).1
        have hgg : W1.heap[g]? = some (.cells cur 202 (0, 0)) := (hgr1.block g hgw (fun e => by cases e; omega)).trans hg
        rw [add_plainR, show W1.drew.cell? ⟨g, i * 6 + j, none⟩ = W1.cell? ⟨g, i * 6 + j, none⟩ from rfl, cell_of_row _ _ _ _ _ _ hgg, hx _ (by omega)]
        rwa [List.getElem?_drop] at hu⟩ (fun u hu => hx1 u (List.mem_of_mem_drop hu))
  have hfin2 : Hid ((W1.drew.setCells w.heap.size ((i + 1) * 6) (xs.drop (i * 6))).ownsRow base 202 6 (.slice (some ⟨w.heap.size, 0, none⟩) (cap + 1) G) (cap + 1) (xs.take (i * 6) ++ news ++ xs.drop (i * 6)) ∧ w.grownBy (W1.drew.setCells w.heap.size ((i + 1) * 6) (xs.drop (i * 6))) (some g)) := by
    have e : ∀ (l : List Value) (W : World) (a o : Nat), W.drew.setCells a o l = (W.setCells a o l).drew := fun l => by
      induction l with
      | nil => intro W a o; rfl
      | cons x l ih => intro W a o; exact (ih (W.setCell ⟨a, o, none⟩ x) a (o + 1))
    rw [e]
    exact ⟨hfin, ⟨hgr.os, hgr.tape, hgr.output, hgr.size, hgr.block⟩⟩
  have hz2 : ((i : Int) == (cap : Int)) = false := by simp; omega
  have hz3 : (cap : Int) < (cap : Int) + 1 := by omega
  have hw1 : IntKind.i64.wrap ((cap : Int) + 1) = (cap : Int) + 1 := IntWalk.i64_in _ (by omega)
  have hw2 : IntKind.i64.wrap ((i : Int) + 1) = (i : Int) + 1 := IntWalk.i64_in _ (by omega)
  have hw3 : IntKind.i64.wrap ((cap : Int) + 1 - (i : Int)) = (cap : Int) + 1 - (i : Int) := IntWalk.i64_in _ (by omega)
  have hb1 : (0 : Int) ≤ (i : Int) + 1 := by omega
  have hin : i ≤ cap := by omega
  have htn : ((i : Int) + 1).toNat = i + 1 := by omega
  have hb2 : ¬ (G = i + 1) := by omega
  have hb3 : (i : Int) ≤ (cap : Int) := by omega
  have hb4 : ¬ (G = i) := by omega
  have hb5 : ¬ (cap = i) := by omega
  simp only [maxLen] at hG63
  have hcp1' : ∀ ty dc, (Builtin.copy_ #[182, 182] ty #[.slice (some ⟨w.heap.size, i * 6, none⟩) (cap + 1 - i) dc, .slice (some ⟨h, 0, none⟩) 1 1]).run Try.prog ((w.alloc (.cells ROW 202)).drew) = .ok (goInt (1 : Nat)) W1 := hcp1
  have HC1 := Lib.hid hcp1'
  have HC1r := Lib.hid hcp1
  have HC2 := Lib.hid hcp2
  have HRZ := Lib.hid hrz
  have HD : Hid (∀ o : Obj, w.drew.alloc o = (w.alloc o).drew) := fun o => rfl
  clear hold hkk hik hG hROW hrz hRs hRx hHg hfin hal hgr1 hgr2 hgr hdl hcp1 hcp1' k1 k2 k3 hcp2 hown hnew hnl h1 hx1 hg hs hl hx hi0 hz0 hzs hzb
  go_enter Try.func124, Try.ntmps124
  go_wp2_with (first | (at_builtin; refine Lib.wpList_append_run _ rfl (.tmp 34) (.tmp 39) 182 3 rfl _ _ rfl rfl _ _ (HRZ.out _) ?_) | (refine wpList_copy_runI _ (o := ⟨some 45, _, _, _, _, _⟩) rfl (.tmp 43) (.tmp 44) 182 182 rfl _ _ rfl rfl (HC1r.out _ _) ?_))
  go_region_law ((refine step_copy_runI rfl _ _ 182 182 rfl (.slice (some ⟨w.heap.size, (i + 1) * 6, none⟩) (cap - i) (G - (i + 1))) (.slice (some ⟨g, i * 6, none⟩) (cap - i) (cap - i)) (by simp [Act.eval, Act.put]) (by simp [Act.eval, Act.put]) (HC2.out _ (G - (i + 1)) (cap - i)) ?_))
  go_wp2_with fail
  go_ret
  exact ⟨_, rfl, hfin2.out.1, hfin2.out.2, .inr ⟨_, rfl, Nat.le_refl _⟩⟩
theorem insert_anyE (w : World) (base n i h : Nat) (v : Value) (xs news : List Value) (hown : w.ownsRow base 202 6 v n xs) (hbase : base ≤ w.heap.size) (hi : i ≤ n) (hn : n ≤ 100000) (hnew : w.heap[h]? = some (.cells news.toArray 202 (0, 0))) (hnl : news.length = 6) (h1 : ∀ u ∈ news, u.oneCell' = true) (hx1 : ∀ u ∈ xs, u.oneCell' = true) (hne : v.ownBlock ≠ some h) :
    Calls Try.prog 124 #[v, .int .i64 (i : Nat), .slice (some ⟨h, 0, none⟩) 1 1] w (MadeE w base v (n + 1) (xs.take (i * 6) ++ news ++ xs.drop (i * 6))) := by
  by_cases hin : i = n
  · subst hin
    have hl := hown.1
    have := insert_endE w base i h v xs news hown hn hbase hnew hnl h1
    rwa [List.take_of_length_le (by omega), List.drop_of_length_le (by omega), List.append_nil]
  · obtain ⟨g, cap, cur, rfl, _⟩ := own_some hown (by omega)
    by_cases hroom : n + 1 ≤ cap
    · exact insert_roomE w base n i g cap h xs news hown (by omega) hroom hnew hnl h1 hx1 (fun e => hne (by rw [e]; rfl))
    · exact insert_growE w base n i g cap h xs news hown hbase (by omega) hn (by omega) hnew hnl h1 hx1
end Go.Proofs.Ytgaoplbocjadaaa
namespace Go.Proofs.Ytgaoplbocjadaaa
open Go.RowKit
set_option linter.unusedSimpArgs false
set_option linter.unusedVariables false
theorem step_append_runE {P : Program} {ops : Array Oper} {o : Oper} {a : Act} {w : World} {K : Act → World → Prop} {Q : Exit → Act → World → Prop} {E : Prop}
    (hg : o.guard = none) (s x : Operand) (t t' : TypeId) (hop : o.op = Op.call { callee := Callee.builtin Builtin.append, args := #[s, x], argTypes := #[t, t'] })
    (v u : Value) (hd : a.eval s = v) (hx : a.eval x = u) {v' : Value} {w' : World} (hr : (Builtin.append_ #[t, t'] o.type #[v, u]).run P w = .ok v' w') (hK : K (a.put o.dst v') w') :
    if Region.wanted o (yielded ops a.tmps) = true then Oper.wp P o a w K Q else E := by
  have hw : Region.wanted o (yielded ops a.tmps) = true := by simp [Region.wanted, hg]
  rw [if_pos hw]
  exact Lib.wp_append_run w s x t t' hop _ _ hd hx _ _ hr hK
theorem wpList_clear_runE {P : Program} {wr w' : World} {ops : Array Oper} {rest : List Oper} {o : Oper} {a : Act} {Q : Exit → Act → World → Prop} (hgd : o.guard = none) (s : Operand) (t : TypeId)
    (ho : o.op = .call { callee := .builtin .clear, args := #[s], argTypes := #[t] }) (v : Value) (hs : a.eval s = v) (hrun : (Builtin.clear_ #[t] o.type #[v]).run P wr = .ok (.tuple #[]) w')
    (hK : wpList P ops Q rest (a.put o.dst (.tuple #[])) w') : wpList P ops Q (o :: rest) a wr := by
  refine wpList_plain hgd fun K hKK => ?_
  unfold Oper.wp
  simp [execOp, ho, resolve, invoke, builtin, hs, hrun, Result.andThen]
  exact hKK _ _ hK
/-- What slices.Clone has made: nothing else has turned. -/
def ClonedE (w : World) (n : Nat) (xs : List Value) (e : Ending) (w' : World) : Prop := ∃ v', e = .returned v' ∧ w'.ownsRow w.heap.size 202 6 v' n xs ∧ Below w.heap.size w w'
end Go.Proofs.Ytgaoplbocjadaaa
