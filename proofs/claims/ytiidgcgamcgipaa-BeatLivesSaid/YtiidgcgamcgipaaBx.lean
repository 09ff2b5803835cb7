/- A watch's calls: NewWatch, Set. -/
import Derived.Test.YtiidgcgamcgipaaBw
import Derived.Test.YtiidgcgamcgipaaBg
namespace Go.Proofs.Ytiidgcgamcgipaa
open Go.RowKit
set_option linter.unusedSimpArgs false
set_option linter.unusedVariables false

def isNu (n : Int) : Bool := decide (0 ≤ n ∧ n ≤ 2147483647)
theorem isU_yes {n : Int} (h0 : 0 ≤ n) (h1 : n ≤ 2147483647) : isNu n = true := by simp [isNu, h0, h1]
theorem isU_no {n : Int} (h : n < 0 ∨ 2147483647 < n) : isNu n = false := by unfold isNu; exact decide_eq_false (by omega)
theorem isU_in {n : Int} (h : isNu n = true) : 0 ≤ n ∧ n ≤ 2147483647 := by simpa [isNu] using h
theorem bnum_any (n : Int) (w : World) : Calls Try.prog 29 #[.int .i64 n] w fun e w' => e = .returned (.bool (isNu n)) ∧ w = w' := by
  by_cases h1 : 0 ≤ n
  · by_cases h2 : n ≤ 2147483647
    · rw [isU_yes h1 h2]; go_enter Try.func29, Try.ntmps29; go_wp2; go_ret; exact ⟨rfl, rfl⟩
    · rw [isU_no (n := n) (by omega)]; go_enter Try.func29, Try.ntmps29; go_wp2; go_ret; exact ⟨rfl, rfl⟩
  · rw [isU_no (n := n) (by omega)]; go_enter Try.func29, Try.ntmps29; go_wp2; go_ret; exact ⟨rfl, rfl⟩
section
variable {w : World} {base c s : Nat} {L K R : List (Int × Int)} {v u : Value}
theorem goi_stop (k : Int) (h1 : TmI w base c s L K v u) (ht : TieT L K R) (hn : R.length ≤ 800) :
    Calls Try.prog 30 #[.pointer (some ⟨c, 0, none⟩), .int .i64 k] w fun e w' => e = .returned (.bool (dhas k R)) ∧ ∃ L2 K2, TieT L2 K2 (dcut k R) ∧ GoI w base c s L2 K2 v u w' := by
  obtain ⟨l1, l2⟩ := ht.len
  cases hh : dhas k R with
  | false =>
    refine (stop_noI w _ c s L K v u k h1 (by omega) ht.tie.rise (by rw [ht.tie.has, hh])).mono ?_
    rintro e w' ⟨-, rfl, hgo⟩
    exact ⟨rfl, L, K, by rw [dcut_none hh]; exact ht, hgo⟩
  | true =>
    obtain ⟨i, hx, hp, hth⟩ := ht.find hh
    refine (stop_yesI w _ c s i L K (L.take i ++ L.drop (i + 1)) v u k (dgetI k R) h1 (by omega) (by omega) ht.rl ht.tie.rise (by rw [ht.tie.has, hh]) hth hx hp rfl).mono ?_
    rintro e w' ⟨-, rfl, hgo⟩
    exact ⟨rfl, _, _, ht.cut_at hx, hgo⟩
theorem goi_set (k x : Int) (h1 : TmI w base c s L K v u) (hbase : base ≤ w.heap.size) (ht : TieT L K R) (hn : R.length ≤ 800) :
    Calls Try.prog 31 #[.pointer (some ⟨c, 0, none⟩), .int .i64 k, .int .i64 x] w fun e w' => e = .returned (.tuple #[]) ∧ ∃ L2 K2, TieT L2 K2 (dput k x R) ∧ GoI w base c s L2 K2 v u w' := by
  obtain ⟨l1, l2⟩ := ht.len
  have hcl := dcut_le k R
  cases hh : dhas k R with
  | false =>
    have ht1 : TieT L K (dcut k R) := by rw [dcut_none hh]; exact ht
    have hst := (stop_noI w _ c s L K v u k h1 (by omega) ht.tie.rise (by rw [ht.tie.has, hh])).mono (fun e w' (hx : _ ∧ _ ∧ _) => (⟨hx.1, hx.2.2⟩ : _ ∧ _))
    refine (tsetI w _ c s L K L K v u k x h1 hbase hst (by omega) (by omega) ht.rl ht.tie.rise).mono ?_
    rintro e w' ⟨rfl, hgo⟩
    exact ⟨rfl, _, _, ht1.ins k x, hgo⟩
  | true =>
    obtain ⟨i, hx, hp, hth⟩ := ht.find hh
    have ht1 := ht.cut_at hx
    obtain ⟨l3, l4⟩ := ht1.len
    simp only at ht1 l3 l4
    have hst := (stop_yesI w _ c s i L K (L.take i ++ L.drop (i + 1)) v u k (dgetI k R) h1 (by omega) (by omega) ht.rl ht.tie.rise (by rw [ht.tie.has, hh]) hth hx hp rfl).mono (fun e w' (hx : _ ∧ _ ∧ _) => (⟨hx.1, hx.2.2⟩ : _ ∧ _))
    refine (tsetI w _ c s L K _ _ v u k x h1 hbase hst (by omega) (by omega) ht1.rl ht1.tie.rise).mono ?_
    rintro e w' ⟨rfl, hgo⟩
    exact ⟨rfl, _, _, ht1.ins k x, hgo⟩
end
/-- A watch on its way: where its tables are, and that nothing below was touched. -/
structure WaG (w0 : World) (g a b c s : Nat) (T M R : List (Int × Int)) (wr : World) : Prop where
  is : ∃ L K v1 v2 v3 v4, WaI wr w0.heap.size g a b c s T M L K v1 v2 v3 v4 ∧ TieT L K R
  ga : w0.heap.size ≤ a
  gb : w0.heap.size ≤ b
  gc : w0.heap.size ≤ c
  gs : w0.heap.size ≤ s
  ge : w0.heap.size ≤ g
  bel : Below w0.heap.size w0 wr
  rt : Rise T
  rm : Rise M
section
variable {w0 w w' : World} {g a b c s : Nat} {T M R : List (Int × Int)}
theorem WaG.cells (h : WaG w0 g a b c s T M R w) : w.cell? ⟨g, 0, none⟩ = some (.pointer (some ⟨a, 0, none⟩)) ∧ w.cell? ⟨g, 1, none⟩ = some (.pointer (some ⟨b, 0, none⟩)) ∧ w.cell? ⟨g, 2, none⟩ = some (.pointer (some ⟨c, 0, none⟩)) := by
  obtain ⟨L, K, v1, v2, v3, v4, hw, _⟩ := h.is
  exact hw.cells
theorem WaG.lt (h : WaG w0 g a b c s T M R w) : g < w.heap.size := by
  obtain ⟨L, K, v1, v2, v3, v4, hw, _⟩ := h.is
  exact hw.lt
theorem WaG.below (h : WaG w0 g a b c s T M R w) (hb : Below w.heap.size w w') : WaG w0 g a b c s T M R w' := by
  obtain ⟨L, K, v1, v2, v3, v4, hw, ht⟩ := h.is
  exact ⟨⟨L, K, v1, v2, v3, v4, hw.below hb, ht⟩, h.ga, h.gb, h.gc, h.gs, h.ge, h.bel.trans (hb.mono h.bel.size), h.rt, h.rm⟩
theorem WaG.stop (k : Int) (h : WaG w0 g a b c s T M R w) (hn : R.length ≤ 800) :
    Calls Try.prog 30 #[.pointer (some ⟨c, 0, none⟩), .int .i64 k] w fun e w' => e = .returned (.bool (dhas k R)) ∧ WaG w0 g a b c s T M (dcut k R) w' ∧ OthW w w' := by
  obtain ⟨L, K, v1, v2, v3, v4, hw, ht⟩ := h.is
  refine (goi_stop k hw.tm ht hn).mono ?_
  rintro e w' ⟨rfl, L2, K2, ht2, hgo⟩
  obtain ⟨⟨v3', v4', h2⟩, h3⟩ := hw.timers hgo
  obtain ⟨_, _, _, _, _, hc⟩ := hgo
  exact ⟨rfl, ⟨⟨L2, K2, v1, v2, v3', v4', h2, ht2⟩, h.ga, h.gb, h.gc, h.gs, h.ge, h.bel.trans (hc.lowI hw.tm h.gc h.gs h.bel.size), h.rt, h.rm⟩, h3⟩
theorem WaG.set (k x : Int) (h : WaG w0 g a b c s T M R w) (hn : R.length ≤ 800) :
    Calls Try.prog 31 #[.pointer (some ⟨c, 0, none⟩), .int .i64 k, .int .i64 x] w fun e w' => e = .returned (.tuple #[]) ∧ WaG w0 g a b c s T M (dput k x R) w' ∧ OthW w w' := by
  obtain ⟨L, K, v1, v2, v3, v4, hw, ht⟩ := h.is
  refine (goi_set k x hw.tm h.bel.size ht hn).mono ?_
  rintro e w' ⟨rfl, L2, K2, ht2, hgo⟩
  obtain ⟨⟨v3', v4', h2⟩, h3⟩ := hw.timers hgo
  obtain ⟨_, _, _, _, _, hc⟩ := hgo
  exact ⟨rfl, ⟨⟨L2, K2, v1, v2, v3', v4', h2, ht2⟩, h.ga, h.gb, h.gc, h.gs, h.ge, h.bel.trans (hc.lowI hw.tm h.gc h.gs h.bel.size), h.rt, h.rm⟩, h3⟩
theorem WaG.cutm (k : Int) (h : WaG w0 g a b c s T M R w) (hn : M.length ≤ 800) :
    Calls Try.prog 37 #[.pointer (some ⟨b, 0, none⟩), .int .i64 k] w fun e w' => e = .returned (.tuple #[.int .i64 (thI 0 k M), .bool (hasI k M)]) ∧ WaG w0 g a b c s T (cutI k M) R w' ∧ OthW w w' := by
  obtain ⟨L, K, v1, v2, v3, v4, hw, ht⟩ := h.is
  refine (cutM w _ b M v2 k hw.mo (by omega) h.rm).mono ?_
  rintro e w' ⟨rfl, ⟨v2', hsh, hnx⟩, htc⟩
  obtain ⟨h2, h3⟩ := hw.modes hsh htc
  exact ⟨rfl, ⟨⟨L, K, v1, v2', v3, v4, h2, ht⟩, h.ga, h.gb, h.gc, h.gs, h.ge, h.bel.trans (htc.below h.bel.size h.gb (fun x hx => (hw.mo.row.lt x hx).1)), h.rt, rise_cut k M h.rm⟩, h3⟩
theorem WaG.putm (k x : Int) (h : WaG w0 g a b c s T M R w) (hn : M.length ≤ 800) :
    Calls Try.prog 42 #[.pointer (some ⟨b, 0, none⟩), .int .i64 k, .int .i64 x] w fun e w' => e = .returned (.bool (hasI k M)) ∧ WaG w0 g a b c s T (putI k x M) R w' ∧ OthW w w' := by
  obtain ⟨L, K, v1, v2, v3, v4, hw, ht⟩ := h.is
  refine (putM w _ b M v2 k x hw.mo h.bel.size (by omega) h.rm).mono ?_
  rintro e w' ⟨rfl, ⟨v2', hsh, hnx⟩, htc⟩
  obtain ⟨h2, h3⟩ := hw.modes hsh htc
  exact ⟨rfl, ⟨⟨L, K, v1, v2', v3, v4, h2, ht⟩, h.ga, h.gb, h.gc, h.gs, h.ge, h.bel.trans (htc.below h.bel.size h.gb (fun x hx => (hw.mo.row.lt x hx).1)), h.rt, rise_put k x M h.rm⟩, h3⟩
theorem WaG.getm (k : Int) (h : WaG w0 g a b c s T M R w) (hn : M.length ≤ 800) :
    Calls Try.prog 41 #[.pointer (some ⟨b, 0, none⟩), .int .i64 k] w fun e w' => e = .returned (.tuple #[.int .i64 (thI 0 k M), .bool (hasI k M)]) ∧ Below w.heap.size w w' := by
  obtain ⟨L, K, v1, v2, v3, v4, hw, ht⟩ := h.is
  exact getM w _ b M v2 k hw.mo (by omega) h.rm
theorem WaG.gett (k : Int) (h : WaG w0 g a b c s T M R w) (hn : T.length ≤ 800) :
    Calls Try.prog 40 #[.pointer (some ⟨a, 0, none⟩), .int .i64 k] w fun e w' => e = .returned (.tuple #[.int .i64 (thI 0 k T), .bool (hasI k T)]) ∧ Below w.heap.size w w' := by
  obtain ⟨L, K, v1, v2, v3, v4, hw, ht⟩ := h.is
  exact getA w _ a T v1 k hw.ti (by omega) h.rt
theorem WaG.cutt (k : Int) (h : WaG w0 g a b c s T M R w) (hn : T.length ≤ 800) :
    Calls Try.prog 39 #[.pointer (some ⟨a, 0, none⟩), .int .i64 k] w fun e w' => e = .returned (.tuple #[.int .i64 (thI 0 k T), .bool (hasI k T)]) ∧ WaG w0 g a b c s (cutI k T) M R w' ∧ OthW w w' := by
  obtain ⟨L, K, v1, v2, v3, v4, hw, ht⟩ := h.is
  refine (cutA w _ a T v1 k hw.ti (by omega) h.rt).mono ?_
  rintro e w' ⟨rfl, ⟨v1', hsh, hnx⟩, htc⟩
  obtain ⟨h2, h3⟩ := hw.times hsh hnx htc
  exact ⟨rfl, ⟨⟨L, K, v1', v2, v3, v4, h2, ht⟩, h.ga, h.gb, h.gc, h.gs, h.ge, h.bel.trans (htc.below h.bel.size h.ga (fun x hx => (hw.ti.row.lt x hx).1)), rise_cut k T h.rt, h.rm⟩, h3⟩
theorem WaG.putt (k x : Int) (h : WaG w0 g a b c s T M R w) (hn : T.length ≤ 800) :
    Calls Try.prog 38 #[.pointer (some ⟨a, 0, none⟩), .int .i64 k, .int .i64 x] w fun e w' => e = .returned (.bool (hasI k T)) ∧ WaG w0 g a b c s (putI k x T) M R w' ∧ OthW w w' := by
  obtain ⟨L, K, v1, v2, v3, v4, hw, ht⟩ := h.is
  refine (putA w _ a T v1 k x hw.ti h.bel.size (by omega) h.rt).mono ?_
  rintro e w' ⟨rfl, ⟨v1', hsh, hnx⟩, htc⟩
  obtain ⟨h2, h3⟩ := hw.times hsh hnx htc
  exact ⟨rfl, ⟨⟨L, K, v1', v2, v3, v4, h2, ht⟩, h.ga, h.gb, h.gc, h.gs, h.ge, h.bel.trans (htc.below h.bel.size h.ga (fun x hx => (hw.ti.row.lt x hx).1)), rise_put k x T h.rt, h.rm⟩, h3⟩
end
theorem wa_new (w0 w : World) (hb : Below w0.heap.size w0 w) : Calls Try.prog 18 #[] w fun e w' => ∃ g a b c s, e = .returned (.pointer (some ⟨g, 0, none⟩)) ∧ WaG w0 g a b c s [] [] [] w' ∧ w.heap.size ≤ g ∧ Below w.heap.size w w' := by
  have HB := Lib.hid hb
  clear hb
  go_enter Try.func18, Try.ntmps18
  go_wp2_with fail
  refine (newA w).mono ?_
  rintro e w1 ⟨rfl, ha, hb1⟩
  have HA := Lib.hid ha
  have HB1 := Lib.hid hb1
  clear ha hb1
  go_wp2_with fail
  refine (newM w1).mono ?_
  rintro e w2 ⟨rfl, hm, hb2⟩
  have HA2 := Lib.hid (HA.out.below hb2)
  have HM := Lib.hid hm
  have HB2 := Lib.hid (HB1.out.trans (hb2.mono HB1.out.size))
  have HZ1 := Lib.hid (show w.heap.size < w1.heap.size from HA.out.lt)
  have HZ2 := Lib.hid hb2.size
  clear hm hb2 HA HB1
  go_wp2_with fail
  refine (tnewI w2).mono ?_
  rintro e w3 ⟨c, s, rfl, ht, hc, hs, hb3⟩
  have HA3 := Lib.hid (HA2.out.below hb3)
  have HM3 := Lib.hid (HM.out.below hb3)
  have HT := Lib.hid ht
  have HB3 := Lib.hid (HB2.out.trans (hb3.mono HB2.out.size))
  have HC := Lib.hid hc
  have HS := Lib.hid hs
  clear ht hb3 HA2 HM HB2 hc hs
  go_wp2_with fail
  go_ret
  have hbx := heap_alloc_new w3 (.cells #[.pointer (some ⟨w.heap.size, 0, none⟩), .pointer (some ⟨w1.heap.size, 0, none⟩), .pointer (some ⟨c, 0, none⟩)] 86)
  have hba : Below w3.heap.size w3 (w3.alloc (.cells #[.pointer (some ⟨w.heap.size, 0, none⟩), .pointer (some ⟨w1.heap.size, 0, none⟩), .pointer (some ⟨c, 0, none⟩)] 86)) := (Below.refl _ _).alloc (Nat.le_refl _) _
  have h0 := HB.out.size
  have h1 := HZ1.out
  have h2 := HZ2.out
  have h3 := HC.out
  have h4 := HS.out
  have h5 := HB3.out.size
  have hsl : ∀ {tb tr base base' g n cs v} {x : World}, Sh tb tr x base g n cs v → base' ≤ base → Sh tb tr x base' g n cs v := fun h hl => ⟨h.box, own_less h.row hl, h.isnt⟩
  refine ⟨w3.heap.size, w.heap.size, w1.heap.size, c, s, rfl, ⟨⟨[], [], .slice none 0 0, .slice none 0 0, .slice none 0 0, .slice none 0 0, ⟨hbx, hsl (HA3.out.below hba) (by omega), hsl (HM3.out.below hba) (by omega), (HT.out.below hba).less (by omega), by omega, by simp [Value.ownBlock]⟩, tieT_nil⟩, by omega, by omega, by omega, by omega, by omega, (HB.out.trans (HB3.out.mono h0)).trans (hba.mono (by omega)), rise_nil, rise_nil⟩, by omega, HB3.out.trans (hba.mono (by omega))⟩
/-- What becomes of the times. -/
def tsT (nd x : Int) (T : List (Int × Int)) : List (Int × Int) := if 0 < x then putI nd x T else cutI nd T
theorem wset_nil (w : World) (nd x : Int) : Calls Try.prog 19 #[.pointer none, .int .i64 nd, .int .i64 x] w fun e w' => e = .returned (.int .i64 1) ∧ w = w' := by
  go_enter Try.func19, Try.ntmps19
  go_wp2
  go_ret
  exact ⟨rfl, rfl⟩
theorem wset_node (w : World) (g : Nat) (nd x : Int) (hn : isNI nd = false) : Calls Try.prog 19 #[.pointer (some ⟨g, 0, none⟩), .int .i64 nd, .int .i64 x] w fun e w' => e = .returned (.int .i64 3) ∧ w = w' := by
  have hN := bnode_any nd
  rw [hn] at hN
  have HN := Lib.hid hN
  clear hN hn
  go_enter Try.func19, Try.ntmps19
  go_wp2_with (go_at_call 24; refine (HN.out _).mono ?_; rintro e w1 ⟨rfl, rfl⟩)
  go_ret
  exact ⟨rfl, rfl⟩
theorem wset_time (w : World) (g : Nat) (nd x : Int) (hn : isNI nd = true) (hx : isNu x = false) : Calls Try.prog 19 #[.pointer (some ⟨g, 0, none⟩), .int .i64 nd, .int .i64 x] w fun e w' => e = .returned (.int .i64 2) ∧ w = w' := by
  have hN := bnode_any nd
  have hX := bnum_any x
  rw [hn] at hN
  rw [hx] at hX
  have HN := Lib.hid hN
  have HX := Lib.hid hX
  clear hN hn hX hx
  go_enter Try.func19, Try.ntmps19
  go_wp2_with (first | (go_at_call 24; refine (HN.out _).mono ?_; rintro e w1 ⟨rfl, rfl⟩) | (go_at_call 29; refine (HX.out _).mono ?_; rintro e w1 ⟨rfl, rfl⟩))
  go_ret
  exact ⟨rfl, rfl⟩
set_option maxHeartbeats 1000000 in
theorem wset_ok (w0 w : World) (g a b c s : Nat) (T M R : List (Int × Int)) (nd x : Int) (h : WaG w0 g a b c s T M R w) (hn : isNI nd = true) (hx : isNu x = true) (hT : T.length ≤ 700) (hM : M.length ≤ 700) (hR : R.length ≤ 700) :
    Calls Try.prog 19 #[.pointer (some ⟨g, 0, none⟩), .int .i64 nd, .int .i64 x] w fun e w' => e = .returned (.int .i64 0) ∧ WaG w0 g a b c s (tsT nd x T) (cutI nd M) (dcut nd R) w' ∧ OthW w w' := by
  have hN := bnode_any nd
  have hX := bnum_any x
  rw [hn] at hN
  rw [hx] at hX
  have HN := Lib.hid hN
  have HX := Lib.hid hX
  have HW := Lib.hid h
  obtain ⟨c0, c1, c2⟩ := h.cells
  clear hN hn hX hx h
  go_enter Try.func19, Try.ntmps19
  go_upto_region 7 with (first | (go_at_call 24; refine (HN.out _).mono ?_; rintro e w1 ⟨rfl, rfl⟩) | (go_at_call 29; refine (HX.out _).mono ?_; rintro e w1 ⟨rfl, rfl⟩))
  go_wp2_with fail
  refine (HW.out.cutm nd (by omega)).mono ?_
  rintro e w1 ⟨rfl, h1, o1⟩
  have HW1 := Lib.hid h1
  have HO1 := Lib.hid o1
  clear c0 c1 c2
  obtain ⟨c0, c1, c2⟩ := h1.cells
  clear h1 o1 HW
  go_wp2_with fail
  refine (HW1.out.stop nd (by omega)).mono ?_
  rintro e w2 ⟨rfl, h2, o2⟩
  have HW2 := Lib.hid h2
  have HO2 := Lib.hid (HO1.out.trans o2)
  clear c0 c1 c2
  obtain ⟨c0, c1, c2⟩ := h2.cells
  clear h2 o2 HW1 HO1
  by_cases hp : 0 < x
  · have HE := Lib.hid (show tsT nd x T = putI nd x T from if_pos hp)
    go_wp2_with fail
    refine (HW2.out.putt nd x (by omega)).mono ?_
    rintro e w3 ⟨rfl, h3, o3⟩
    have HW3 := Lib.hid h3
    have HO3 := Lib.hid (HO2.out.trans o3)
    clear h3 o3 c0 c1 c2 HW2 HO2
    go_wp2_with fail
    go_ret
    exact ⟨rfl, by rw [HE.out]; exact HW3.out, HO3.out⟩
  · have HE := Lib.hid (show tsT nd x T = cutI nd T from if_neg hp)
    go_wp2_with fail
    refine (HW2.out.cutt nd (by omega)).mono ?_
    rintro e w3 ⟨rfl, h3, o3⟩
    have HW3 := Lib.hid h3
    have HO3 := Lib.hid (HO2.out.trans o3)
    clear h3 o3 c0 c1 c2 HW2 HO2
    go_wp2_with fail
    go_ret
    exact ⟨rfl, by rw [HE.out]; exact HW3.out, HO3.out⟩
end Go.Proofs.Ytiidgcgamcgipaa
