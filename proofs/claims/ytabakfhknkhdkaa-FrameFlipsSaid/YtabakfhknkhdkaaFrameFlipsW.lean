/- FrameFlips. -/
import Derived.Test.YtabakfhknkhdkaaFrameFlipsA
namespace Go.Proofs.Ytabakfhknkhdkaa.frameFlips
open Go.RowKit Go.Proofs.Ytabakfhknkhdkaa

/-- A frame and its flipped one lie where they were laid. -/
structure Fl (i n : Int) (r : Bool) (d e : Nat → Int) (w : World) (g : Nat) (wr : World) : Prop where
  a : FrAt wr w.heap.size i r n d
  b : FrAt wr g i r n e
  bel : Below w.heap.size w wr
section
variable {i n : Int} {r : Bool} {d e : Nat → Int} {w wr w' : World} {g : Nat}
theorem Fl.step (h : Fl i n r d e w g wr) (hb : Below wr.heap.size wr w') : Fl i n r d e w g w' :=
  ⟨h.a.below hb h.a.lt, h.b.below hb h.b.lt, h.bel.trans (hb.mono h.bel.size)⟩
theorem Fl.cells (h : Fl i n r d e w g wr) : (wr.cell? ⟨w.heap.size, 0, none⟩ = some (.int .i64 i) ∧ wr.cell? ⟨w.heap.size, 1, none⟩ = some (.bool r) ∧ wr.cell? ⟨w.heap.size, 2, none⟩ = some (.int .i64 n) ∧ wr.cell? ⟨w.heap.size, 3, none⟩ = some (.int .u8 (d 0)) ∧ wr.cell? ⟨w.heap.size, 4, none⟩ = some (.int .u8 (d 1)) ∧ wr.cell? ⟨w.heap.size, 5, none⟩ = some (.int .u8 (d 2)) ∧ wr.cell? ⟨w.heap.size, 6, none⟩ = some (.int .u8 (d 3)) ∧ wr.cell? ⟨w.heap.size, 7, none⟩ = some (.int .u8 (d 4)) ∧ wr.cell? ⟨w.heap.size, 8, none⟩ = some (.int .u8 (d 5)) ∧ wr.cell? ⟨w.heap.size, 9, none⟩ = some (.int .u8 (d 6)) ∧ wr.cell? ⟨w.heap.size, 10, none⟩ = some (.int .u8 (d 7))) ∧ (wr.cell? ⟨g, 0, none⟩ = some (.int .i64 i) ∧ wr.cell? ⟨g, 1, none⟩ = some (.bool r) ∧ wr.cell? ⟨g, 2, none⟩ = some (.int .i64 n) ∧ wr.cell? ⟨g, 3, none⟩ = some (.int .u8 (e 0)) ∧ wr.cell? ⟨g, 4, none⟩ = some (.int .u8 (e 1)) ∧ wr.cell? ⟨g, 5, none⟩ = some (.int .u8 (e 2)) ∧ wr.cell? ⟨g, 6, none⟩ = some (.int .u8 (e 3)) ∧ wr.cell? ⟨g, 7, none⟩ = some (.int .u8 (e 4)) ∧ wr.cell? ⟨g, 8, none⟩ = some (.int .u8 (e 5)) ∧ wr.cell? ⟨g, 9, none⟩ = some (.int .u8 (e 6)) ∧ wr.cell? ⟨g, 10, none⟩ = some (.int .u8 (e 7))) := ⟨h.a.cells, h.b.cells⟩
end
set_option maxHeartbeats 4000000 in
theorem core (i n : Int) (r : Bool) (d : Nat → Int) (w : World) (hd : ∀ j, j < 8 → 0 ≤ d j ∧ d j ≤ 255) :
    Calls Try.prog 5 #[.agg #[.int .i64 i, .bool r, .int .i64 n, .int .u8 (d 0), .int .u8 (d 1), .int .u8 (d 2), .int .u8 (d 3), .int .u8 (d 4), .int .u8 (d 5), .int .u8 (d 6), .int .u8 (d 7)]] w fun q w' => q = .returned (.bool true) ∧ Below w.heap.size w w' := by
  obtain ⟨e, x, lb, lc, f1, f2, f3, f4, f5, f6, f7, hl1, hl8, hget⟩ := facts i n r d hd
  rw [hl1] at f7
  clear hd
  have hf : FrAt (w.alloc (.cells #[.int .i64 i, .bool r, .int .i64 n, .int .u8 (d 0), .int .u8 (d 1), .int .u8 (d 2), .int .u8 (d 3), .int .u8 (d 4), .int .u8 (d 5), .int .u8 (d 6), .int .u8 (d 7)] 24)) w.heap.size i r n d := frame_new w i n r d
  have hb : Below w.heap.size w (w.alloc (.cells #[.int .i64 i, .bool r, .int .i64 n, .int .u8 (d 0), .int .u8 (d 1), .int .u8 (d 2), .int .u8 (d 3), .int .u8 (d 4), .int .u8 (d 5), .int .u8 (d 6), .int .u8 (d 7)] 24)) := (Below.refl _ _).alloc (Nat.le_refl _) _
  have HF := Lib.hid hf
  have HB := Lib.hid hb
  have HG := Lib.hid hget
  have HL1 := Lib.hid hl1
  have F1 := Lib.hid f1
  have F2 := Lib.hid f2
  have F3 := Lib.hid f3
  have F4 := Lib.hid f4
  have F5 := Lib.hid f5
  have F6 := Lib.hid f6
  have F7 := Lib.hid f7
  clear hf hb hget hl1 f1 f2 f3 f4 f5 f6 f7
  generalize hm : lb.length = m at F6 F7 hl8 HG HL1
  go_enter Try.func5, Try.ntmps5
  obtain ⟨c0, c1, c2, c3, c4, c5, c6, c7, c8, c9, c10⟩ := HF.out.cells
  go_wp2_with (first
    | (go_at_call 18; refine (F1.out _).mono ?_; rintro q w1 ⟨rfl, hb1⟩; clear c0 c1 c2 c3 c4 c5 c6 c7 c8 c9 c10; have hbw1 := HB.out.trans (hb1.mono HB.out.size); have hf1 := FrAt.below HF.out hb1 HF.out.lt; have hx1 : FrAt (w1.alloc (.cells #[.int .i64 0, .bool false, .int .i64 0, .int .u8 0, .int .u8 0, .int .u8 0, .int .u8 0, .int .u8 0, .int .u8 0, .int .u8 0, .int .u8 0] 24)) w1.heap.size 0 false 0 (fun _ => 0) := heap_alloc_new w1 _; have hx2 := hx1.row i n r e; have hf2 := (hf1.below ((Below.refl w1.heap.size w1).alloc (Nat.le_refl _) (.cells #[.int .i64 0, .bool false, .int .i64 0, .int .u8 0, .int .u8 0, .int .u8 0, .int .u8 0, .int .u8 0, .int .u8 0, .int .u8 0, .int .u8 0] 24)) hf1.lt).row_other (Nat.ne_of_lt hf1.lt) #[.int .i64 i, .bool r, .int .i64 n, .int .u8 (e 0), .int .u8 (e 1), .int .u8 (e 2), .int .u8 (e 3), .int .u8 (e 4), .int .u8 (e 5), .int .u8 (e 6), .int .u8 (e 7)]; have hbw2 := below_setRow (hbw1.alloc hbw1.size (.cells #[.int .i64 0, .bool false, .int .i64 0, .int .u8 0, .int .u8 0, .int .u8 0, .int .u8 0, .int .u8 0, .int .u8 0, .int .u8 0, .int .u8 0] 24)) hbw1.size #[.int .i64 i, .bool r, .int .i64 n, .int .u8 (e 0), .int .u8 (e 1), .int .u8 (e 2), .int .u8 (e 3), .int .u8 (e 4), .int .u8 (e 5), .int .u8 (e 6), .int .u8 (e 7)]; have HX1 := Lib.hid hx1; have HM := Lib.hid (Fl.mk hf2 hx2 hbw2); clear hb1 hbw1 hf1 hx1 hx2 hf2 hbw2)
    | (refine wpList_store_row rfl _ (.tmp 3) (.tmp 8) rfl w1.heap.size _ rfl rfl _ _ HX1.out info_frame rfl (one_frame i n r e) ?_))
  clear HX1
  generalize World.setRow (World.alloc w1 _) w1.heap.size _ = w2 at HM ⊢
  generalize w1.heap.size = g at HM ⊢
  have g1 : ∀ wr : World, Fl i n r d e w g wr → Calls Try.prog 19 #[.agg #[.int .i64 i, .bool r, .int .i64 n, .int .u8 (d 0), .int .u8 (d 1), .int .u8 (d 2), .int .u8 (d 3), .int .u8 (d 4), .int .u8 (d 5), .int .u8 (d 6), .int .u8 (d 7)]] wr fun q w' => q = .returned (.agg #[.int .i64 i, .bool r, .int .i64 n, .int .u8 (e 0), .int .u8 (e 1), .int .u8 (e 2), .int .u8 (e 3), .int .u8 (e 4), .int .u8 (e 5), .int .u8 (e 6), .int .u8 (e 7)]) ∧ Fl i n r d e w g w' := fun wr h => (F2.out wr).mono fun q w' ⟨he, hb⟩ => ⟨he, h.step hb⟩
  have g2 : ∀ wr : World, Fl i n r d e w g wr → Calls Try.prog 18 #[.agg #[.int .i64 i, .bool r, .int .i64 n, .int .u8 (e 0), .int .u8 (e 1), .int .u8 (e 2), .int .u8 (e 3), .int .u8 (e 4), .int .u8 (e 5), .int .u8 (e 6), .int .u8 (e 7)]] wr fun q w' => q = .returned (.agg #[.int .i64 i, .bool r, .int .i64 n, .int .u8 (d 0), .int .u8 (d 1), .int .u8 (d 2), .int .u8 (d 3), .int .u8 (d 4), .int .u8 (d 5), .int .u8 (d 6), .int .u8 (d 7)]) ∧ Fl i n r d e w g w' := fun wr h => (F3.out wr).mono fun q w' ⟨he, hb⟩ => ⟨he, h.step hb⟩
  have g3 : ∀ wr : World, Fl i n r d e w g wr → Calls Try.prog 16 #[.agg #[.int .i64 i, .bool r, .int .i64 n, .int .u8 (e 0), .int .u8 (e 1), .int .u8 (e 2), .int .u8 (e 3), .int .u8 (e 4), .int .u8 (e 5), .int .u8 (e 6), .int .u8 (e 7)]] wr fun q w' => q = .returned (.int .i64 x) ∧ Fl i n r d e w g w' := fun wr h => (F5.out wr).mono fun q w' ⟨he, hb⟩ => ⟨he, h.step hb⟩
  have g4 : ∀ wr : World, Fl i n r d e w g wr → Calls Try.prog 16 #[.agg #[.int .i64 i, .bool r, .int .i64 n, .int .u8 (d 0), .int .u8 (d 1), .int .u8 (d 2), .int .u8 (d 3), .int .u8 (d 4), .int .u8 (d 5), .int .u8 (d 6), .int .u8 (d 7)]] wr fun q w' => q = .returned (.int .i64 x) ∧ Fl i n r d e w g w' := fun wr h => (F4.out wr).mono fun q w' ⟨he, hb⟩ => ⟨he, h.step hb⟩
  have g5 : ∀ wr : World, Fl i n r d e w g wr → Calls Try.prog 12 #[.agg #[.int .i64 i, .bool r, .int .i64 n, .int .u8 (d 0), .int .u8 (d 1), .int .u8 (d 2), .int .u8 (d 3), .int .u8 (d 4), .int .u8 (d 5), .int .u8 (d 6), .int .u8 (d 7)]] wr fun q w' => ∃ A c, q = .returned (.slice A m c) ∧ Byt w' w'.heap.size A m c lb ∧ Fl i n r d e w g w' ∧ Below wr.heap.size wr w' := fun wr h => (F6.out wr).mono fun q w' ⟨A, c, he, hB, hb⟩ => ⟨A, c, he, hB, h.step hb, hb⟩
  have g6 : ∀ wr : World, Fl i n r d e w g wr → Calls Try.prog 12 #[.agg #[.int .i64 i, .bool r, .int .i64 n, .int .u8 (e 0), .int .u8 (e 1), .int .u8 (e 2), .int .u8 (e 3), .int .u8 (e 4), .int .u8 (e 5), .int .u8 (e 6), .int .u8 (e 7)]] wr fun q w' => ∃ A c, q = .returned (.slice A m c) ∧ Byt w' w'.heap.size A m c lc ∧ Fl i n r d e w g w' ∧ Below wr.heap.size wr w' := fun wr h => (F7.out wr).mono fun q w' ⟨A, c, he, hB, hb⟩ => ⟨A, c, he, hB, h.step hb, hb⟩
  have hcm1 : ∀ w : World, (Op.equalIn 10000 24 (.agg #[.int .i64 i, .bool r, .int .i64 n, .int .u8 (e 0), .int .u8 (e 1), .int .u8 (e 2), .int .u8 (e 3), .int .u8 (e 4), .int .u8 (e 5), .int .u8 (e 6), .int .u8 (e 7)]) (.agg #[.int .i64 i, .bool r, .int .i64 n, .int .u8 (e 0), .int .u8 (e 1), .int .u8 (e 2), .int .u8 (e 3), .int .u8 (e 4), .int .u8 (e 5), .int .u8 (e 6), .int .u8 (e 7)])).run Try.prog w = .ok true w := fun w => by rw [run_eq_frames]; simp [eqD]
  have hcm2 : ∀ w : World, (Op.equalIn 10000 24 (.agg #[.int .i64 i, .bool r, .int .i64 n, .int .u8 (d 0), .int .u8 (d 1), .int .u8 (d 2), .int .u8 (d 3), .int .u8 (d 4), .int .u8 (d 5), .int .u8 (d 6), .int .u8 (d 7)]) (.agg #[.int .i64 i, .bool r, .int .i64 n, .int .u8 (d 0), .int .u8 (d 1), .int .u8 (d 2), .int .u8 (d 3), .int .u8 (d 4), .int .u8 (d 5), .int .u8 (d 6), .int .u8 (d 7)])).run Try.prog w = .ok true w := fun w => by rw [run_eq_frames]; simp [eqD]
  have G1 := Lib.hid g1
  have G2 := Lib.hid g2
  have G3 := Lib.hid g3
  have G4 := Lib.hid g4
  have G5 := Lib.hid g5
  have G6 := Lib.hid g6
  clear F1 F2 F3 F4 F5 F6 F7 HF HB g1 g2 g3 g4 g5 g6
  have h0 : Fl i n r d e w g w2.drew := ⟨HM.out.a, HM.out.b, HM.out.bel.drew⟩
  have k0 := h0.cells
  go_region_held3 (fun w' => (w'.cell? ⟨w.heap.size, 0, none⟩ = some (.int .i64 i) ∧ w'.cell? ⟨w.heap.size, 1, none⟩ = some (.bool r) ∧ w'.cell? ⟨w.heap.size, 2, none⟩ = some (.int .i64 n) ∧ w'.cell? ⟨w.heap.size, 3, none⟩ = some (.int .u8 (d 0)) ∧ w'.cell? ⟨w.heap.size, 4, none⟩ = some (.int .u8 (d 1)) ∧ w'.cell? ⟨w.heap.size, 5, none⟩ = some (.int .u8 (d 2)) ∧ w'.cell? ⟨w.heap.size, 6, none⟩ = some (.int .u8 (d 3)) ∧ w'.cell? ⟨w.heap.size, 7, none⟩ = some (.int .u8 (d 4)) ∧ w'.cell? ⟨w.heap.size, 8, none⟩ = some (.int .u8 (d 5)) ∧ w'.cell? ⟨w.heap.size, 9, none⟩ = some (.int .u8 (d 6)) ∧ w'.cell? ⟨w.heap.size, 10, none⟩ = some (.int .u8 (d 7))) ∧ (w'.cell? ⟨g, 0, none⟩ = some (.int .i64 i) ∧ w'.cell? ⟨g, 1, none⟩ = some (.bool r) ∧ w'.cell? ⟨g, 2, none⟩ = some (.int .i64 n) ∧ w'.cell? ⟨g, 3, none⟩ = some (.int .u8 (e 0)) ∧ w'.cell? ⟨g, 4, none⟩ = some (.int .u8 (e 1)) ∧ w'.cell? ⟨g, 5, none⟩ = some (.int .u8 (e 2)) ∧ w'.cell? ⟨g, 6, none⟩ = some (.int .u8 (e 3)) ∧ w'.cell? ⟨g, 7, none⟩ = some (.int .u8 (e 4)) ∧ w'.cell? ⟨g, 8, none⟩ = some (.int .u8 (e 5)) ∧ w'.cell? ⟨g, 9, none⟩ = some (.int .u8 (e 6)) ∧ w'.cell? ⟨g, 10, none⟩ = some (.int .u8 (e 7))))
    (first | exact k0 | exact k1 | exact k2 | exact k3 | exact k4)
    (first
    | (go_at_call 19
       (with_reducible refine (G1.out w2.drew h0).mono ?_)
       rintro q u1 ⟨rfl, h1⟩
       have k1 := h1.cells)
    | (go_at_call 18
       (with_reducible refine (G2.out u1 h1).mono ?_)
       rintro q u2 ⟨rfl, h2⟩
       have k2 := h2.cells)
    | (go_at_call 16
       (with_reducible refine (G3.out u2 h2).mono ?_)
       rintro q u3 ⟨rfl, h3⟩
       have k3 := h3.cells)
    | (go_at_call 16
       (with_reducible refine (G4.out u3 h3).mono ?_)
       rintro q u4 ⟨rfl, h4⟩
       have k4 := h4.cells))
  have HM4 := Lib.hid h4
  clear k0 k1 k2 k3 k4 h0 h1 h2 h3 h4 HM hcm1 hcm2 G1 G2 G3 G4
  go_wp2_with fail
  have h4 : Fl i n r d e w g u4.drew := ⟨HM4.out.a, HM4.out.b, HM4.out.bel.drew⟩
  have k4 := h4.cells
  go_region_held3 (fun w' => (w'.cell? ⟨w.heap.size, 0, none⟩ = some (.int .i64 i) ∧ w'.cell? ⟨w.heap.size, 1, none⟩ = some (.bool r) ∧ w'.cell? ⟨w.heap.size, 2, none⟩ = some (.int .i64 n) ∧ w'.cell? ⟨w.heap.size, 3, none⟩ = some (.int .u8 (d 0)) ∧ w'.cell? ⟨w.heap.size, 4, none⟩ = some (.int .u8 (d 1)) ∧ w'.cell? ⟨w.heap.size, 5, none⟩ = some (.int .u8 (d 2)) ∧ w'.cell? ⟨w.heap.size, 6, none⟩ = some (.int .u8 (d 3)) ∧ w'.cell? ⟨w.heap.size, 7, none⟩ = some (.int .u8 (d 4)) ∧ w'.cell? ⟨w.heap.size, 8, none⟩ = some (.int .u8 (d 5)) ∧ w'.cell? ⟨w.heap.size, 9, none⟩ = some (.int .u8 (d 6)) ∧ w'.cell? ⟨w.heap.size, 10, none⟩ = some (.int .u8 (d 7))) ∧ (w'.cell? ⟨g, 0, none⟩ = some (.int .i64 i) ∧ w'.cell? ⟨g, 1, none⟩ = some (.bool r) ∧ w'.cell? ⟨g, 2, none⟩ = some (.int .i64 n) ∧ w'.cell? ⟨g, 3, none⟩ = some (.int .u8 (e 0)) ∧ w'.cell? ⟨g, 4, none⟩ = some (.int .u8 (e 1)) ∧ w'.cell? ⟨g, 5, none⟩ = some (.int .u8 (e 2)) ∧ w'.cell? ⟨g, 6, none⟩ = some (.int .u8 (e 3)) ∧ w'.cell? ⟨g, 7, none⟩ = some (.int .u8 (e 4)) ∧ w'.cell? ⟨g, 8, none⟩ = some (.int .u8 (e 5)) ∧ w'.cell? ⟨g, 9, none⟩ = some (.int .u8 (e 6)) ∧ w'.cell? ⟨g, 10, none⟩ = some (.int .u8 (e 7))))
    (first | exact k4 | exact k5 | exact k6)
    (first
    | (go_at_call 12
       (with_reducible refine (G5.out u4.drew h4).mono ?_)
       rintro q u5 ⟨A5, z5, rfl, hB5, h5, hb5⟩
       have k5 := h5.cells)
    | (go_at_call 12
       (with_reducible refine (G6.out u5 h5).mono ?_)
       rintro q u6 ⟨A6, z6, rfl, hB6, h6, hb6⟩
       have k6 := h6.cells))
  have hX := hB5.step hb6
  have hbel := h6.bel
  have HX := Lib.hid hX
  have HY := Lib.hid hB6
  have HBL := Lib.hid hbel
  clear k4 k5 k6 h4 h5 h6 HM4 hb5 hb6 hB5 hB6 hX hbel G5 G6
  go_wp2_with fail
  go_loopw [6] (fun i wr => ∃ j : Nat, j ≤ m ∧ i = .int .i64 j ∧ Hid (Byt wr wr.heap.size A5 m z5 lb) ∧ Hid (Byt wr wr.heap.size A6 m z6 lc) ∧ Hid (Below w.heap.size w wr)) (fun i _ => m - (intOf i).toNat)
  case atStart => exact ⟨0, Nat.zero_le _, rfl, HX, HY, HBL⟩
  case round =>
    obtain ⟨j, hj, rfl, HX2, HY2, HB2⟩ := hrel
    by_cases hlt : j < m
    · obtain ⟨b, off, rfl, hb, hc⟩ := HX2.out.cells (by omega)
      obtain ⟨b1, off1, rfl, hb1, hc1⟩ := HY2.out.cells (by omega)
      have hcj := hc j hlt
      have hcj1 := hc1 j hlt
      obtain ⟨hq, hq0, hq1⟩ := HG.out j hlt
      rw [hq] at hcj1
      generalize lb.getD j 0 = q at hcj hcj1 hq0 hq1
      have hxor : bits .xor .u8 q (255 - q) = 255 := by
        have := xor_flip (255 - q) (by omega) (by omega)
        rw [show (255 : Int) - (255 - q) = q by omega] at this
        exact this
      clear hc hc1 hq HX HY HBL
      go_wp2_with fail
      go_quiet (fail)
      go_wp2
      go_roundw
      case rel => exact ⟨j + 1, by omega, by go_num, Lib.hid (HX2.out.drewN _), Lib.hid (HY2.out.drewN _), Lib.hid (below_drewN HB2.out _)⟩
      case measure => simp [intOf]; omega
    · obtain rfl : j = m := by omega
      clear HX HY HBL HX2 HY2
      go_wp2_with (go_at_call 7; refine (live4_any _).mono ?_; rintro q w6 ⟨rfl, hb6⟩)
      exact bodyPost_ret (results_tmp rfl _ _ _) rfl ⟨rfl, below_trans' HB2.out hb6⟩
end Go.Proofs.Ytabakfhknkhdkaa.frameFlips
