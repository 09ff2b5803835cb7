/- Whatever is added and written: the statement's walk. -/
import Derived.Test.YtmfjndkopkjchaaDzv
import Derived.Test.YtmfjndkopkjchaaDt
import Derived.Deep.CutBlock
namespace Go.Proofs.Ytmfjndkopkjchaa
open Go.RowKit
set_option linter.unusedSimpArgs false
set_option linter.unusedVariables false

set_option maxRecDepth 100000 in
set_option maxHeartbeats 8000000 in
theorem dplays_walk (w : World) (A0 : Option Addr) (n c0 : Nat) (fs : Nat → DeedV) (h : Dds w w.heap.size A0 n c0 fs) :
    Calls Try.prog 3 #[.slice A0 n c0] w fun e w' => e = .returned (.bool true) ∧ Below w.heap.size w w' := by
  have hcap := h.cap
  have hmax := h.max
  simp only [maxLen] at hmax
  obtain ⟨K, hK⟩ : ∃ K : Nat, (K = n ∧ n ≤ 40) ∨ (K = 40 ∧ 40 < n) := by
    rcases Nat.lt_or_ge 40 n with h | h
    · exact ⟨40, .inr ⟨rfl, h⟩⟩
    · exact ⟨n, .inl ⟨rfl, h⟩⟩
  have hKn : K ≤ n ∧ K ≤ 40 := by omega
  have HDS := Lib.hid h
  have HK := Lib.hid hK
  obtain ⟨hK1, hK2⟩ := hKn
  clear h hK
  go_enter Try.func3, Try.ntmps3
  go_wp2_with fail
  refine (dnew_any w).mono ?_
  rintro e w1 ⟨g, s, rfl, hx1, hg1, hs1, hb1⟩
  have hda : DictAt w.heap.size g [] 0 w1 := ⟨s, _, hx1, hg1, hs1, hb1.size⟩
  have hal : Below w1.heap.size w1 (w1.alloc (.cells #[.slice none 0 0, .int .i64 0] 27)) := (Below.refl _ _).alloc (Nat.le_refl _) _
  have HB2 : Hid (Both w.heap.size g [] 0 none 0 [] (w1.alloc (.cells #[.slice none 0 0, .int .i64 0] 27))) := Lib.hid (Both.nil (hda.below hal))
  have HX2 : Hid (RBox (w1.alloc (.cells #[.slice none 0 0, .int .i64 0] 27)) w1.heap.size none 0 0 0) := Lib.hid (heap_alloc_new w1 _)
  have HW2 := Lib.hid (kF hal hb1)
  have hG : w.heap.size ≤ w1.heap.size := hb1.size
  clear hx1 hg1 hs1 hb1 hda hal
  go_wp2_with fail
  generalize w1.alloc (.cells #[.slice none 0 0, .int .i64 0] 27) = w2 at *
  generalize w1.heap.size = G at *
  go_loopg [3, 5, 6] K (fun k t i q wr => ∃ (j g : Nat) (T : List (Int × Ent)) (ch : Int) (a : Option Addr) (c : Nat) (R : List (Int × Ent)), j + k = K ∧ T.length ≤ j ∧ 0 ≤ ch ∧ ch ≤ j ∧ i = .int .i64 j ∧ t = .pointer (some ⟨g, 0, none⟩) ∧ Hid (Both w.heap.size g T ch a c R wr) ∧ Hid (RBox wr G a R.length c ch) ∧ Hid (Below w.heap.size w wr))
  case atStart => exact ⟨0, g, [], 0, none, 0, [], by omega, Nat.le_refl _, Int.le_refl _, Int.le_refl _, rfl, rfl, HB2, HX2, HW2⟩
  case round =>
    clear HB2 HX2 HW2
    obtain ⟨j, g, T, ch, a, c, R, hj, hTj, hc0, hc1, rfl, rfl, HBO, HX, HW⟩ := hrel
    by_cases hlt : j < K
    · have hlt' : j < n := by omega
      obtain ⟨b, off, rfl, hbb, hcl'⟩ := HDS.out.cells (by omega)
      have hf := (hcl' j hlt').below hbb HW.out
      generalize fs j = f at hf
      have HF := Lib.hid hf
      have hjn : (j : Int) < (n : Int) := by omega
      have hj40 : (j : Int) < 40 := by omega
      have hws := HW.out.size
      have HSS := Lib.hid (show ∀ x, Below w.heap.size wr x → x.cell? ⟨b, off + j * 9, none⟩ = some (.int .i64 f.d) ∧ x.cell? ⟨b, off + j * 9 + 1, none⟩ = some (.int .i64 f.i) ∧ x.cell? ⟨b, off + j * 9 + 2, none⟩ = some (.int .i64 f.j) ∧ x.cell? ⟨b, off + j * 9 + 3, none⟩ = some (.int .i64 f.k) ∧ x.cell? ⟨b, off + j * 9 + 4, none⟩ = some (.int .i64 f.ac) ∧ x.cell? ⟨b, off + j * 9 + 5, none⟩ = some (.int .i64 f.lo) ∧ x.cell? ⟨b, off + j * 9 + 6, none⟩ = some (.int .i64 f.hi) ∧ x.cell? ⟨b, off + j * 9 + 7, none⟩ = some (.slice f.A f.q f.m) ∧ x.cell? ⟨b, off + j * 9 + 8, none⟩ = some (.int .i64 f.N) from fun x hx => by
        have k := HF.out.below hbb hx
        exact ⟨k.c0, k.c1, k.c2, k.c3, k.c4, k.c5, k.c6, k.c7, k.c8⟩)
      have HK9 := Lib.hid ((kD wr).mono hws)
      have hdn := done_any wr.drew w.heap.size g T ch a c R f (HBO.out.below (kD wr)) (by omega) (by omega) (HF.out.byt.below HK9.out)
      have HDN := Lib.hid hdn
      have HX9 := Lib.hid (HX.out.below (kD wr))
      have HW9 := Lib.hid (kF (kD wr) HW.out)
      clear hcl' hf hdn HX HW HBO HF
      go_upto_region 7 with fail
      refine wp_region_last (fun w' => w'.cell? ⟨b, off + j * 9, none⟩ = some (.int .i64 f.d) ∧ w'.cell? ⟨b, off + j * 9 + 1, none⟩ = some (.int .i64 f.i) ∧ w'.cell? ⟨b, off + j * 9 + 2, none⟩ = some (.int .i64 f.j) ∧ w'.cell? ⟨b, off + j * 9 + 3, none⟩ = some (.int .i64 f.k) ∧ w'.cell? ⟨b, off + j * 9 + 4, none⟩ = some (.int .i64 f.ac) ∧ w'.cell? ⟨b, off + j * 9 + 5, none⟩ = some (.int .i64 f.lo) ∧ w'.cell? ⟨b, off + j * 9 + 6, none⟩ = some (.int .i64 f.hi) ∧ w'.cell? ⟨b, off + j * 9 + 7, none⟩ = some (.slice f.A f.q f.m) ∧ w'.cell? ⟨b, off + j * 9 + 8, none⟩ = some (.int .i64 f.N)) 13 (by kernel_rfl) (HSS.out _ HK9.out) (fun hHeld => ?_)
      generalize wr.drew = x0 at *
      obtain ⟨d0, d1⟩ := HX9.out.cells
      refine wpAnyL_take (i := 0) (v := ?_) rfl (by kernel_rfl) (by kernel_rfl) (by kernel_rfl) (by kernel_rfl) (by kernel_rfl) (fun _ _ _ h => h) (Or.inl ⟨by rfl, ?_⟩) (by assumption) ?_
      rotate_left
      · intro wq hSw; (try dsimp only at hSw); first | (go_simp; done) | (go_simp; with_reducible rfl) | with_reducible rfl
      go_simp
      refine wpAnyL_take (i := 2) (v := ?_) rfl (by kernel_rfl) (by kernel_rfl) (by kernel_rfl) (by kernel_rfl) (by kernel_rfl) (fun _ _ _ h => h) (Or.inl ⟨by rfl, ?_⟩) (by assumption) ?_
      rotate_left
      · intro wq hSw; (try dsimp only at hSw); first | (go_simp; done) | (go_simp; with_reducible rfl) | with_reducible rfl
      go_simp
      refine wpAnyL_take (i := 3) (v := ?_) rfl (by kernel_rfl) (by kernel_rfl) (by kernel_rfl) (by kernel_rfl) (by kernel_rfl) (fun _ _ _ h => h) (Or.inl ⟨by rfl, ?_⟩) (by assumption) ?_
      rotate_left
      · intro wq hSw; (try dsimp only at hSw); first | (go_simp; done) | (go_simp; with_reducible rfl) | with_reducible rfl
      go_simp
      refine wpAnyL_take (i := 4) (v := ?_) rfl (by kernel_rfl) (by kernel_rfl) (by kernel_rfl) (by kernel_rfl) (by kernel_rfl) (fun _ _ _ h => h) (Or.inl ⟨by rfl, ?_⟩) (by assumption) ?_
      rotate_left
      · intro wq hSw; (try dsimp only at hSw); first | (go_simp; done) | (go_simp; with_reducible rfl) | with_reducible rfl
      go_simp
      refine wpAnyL_take (i := 5) (v := ?_) rfl (by kernel_rfl) (by kernel_rfl) (by kernel_rfl) (by kernel_rfl) (by kernel_rfl) (fun _ _ _ h => h) (Or.inl ⟨by rfl, ?_⟩) (by assumption) ?_
      rotate_left
      · intro wq hSw; (try dsimp only at hSw); first | (go_simp; done) | (go_simp; with_reducible rfl) | with_reducible rfl
      go_simp
      refine wpAnyL_ready (rs := [1]) (by kernel_rfl) (by simp) ?_
      refine (AllReadyL.cons rfl (fun K' hK' => ?_) AllReadyL.nil)
      go_simp
      refine hK'.out _ _ ?_ (fun hHeld => ?_)
      · (try dsimp only); exact HSS.out _ HK9.out
      clear hK' K'
      refine wpAnyL_ready (rs := [6]) (by kernel_rfl) (by simp) ?_
      refine (AllReadyL.cons rfl (fun K' hK' => ?_) AllReadyL.nil)
      go_simp
      go_wp2_with (go_at_call 7; refine HDN.out.mono ?_; rintro e w3 ⟨g', T', ch', a', c', R', rfl, hb3, hl3, hc3, hc4, ho3⟩)
      have HB3 := Lib.hid hb3
      have HX3 : Hid (RBox w3 G a R.length c ch) := Lib.hid (ho3.2 _ _ _ _ HX9.out not3_D)
      have HW3 := Lib.hid (HW9.out.trans ho3.1)
      have HK3 := Lib.hid (HK9.out.trans ho3.1)
      clear hb3 ho3 HX9 HW9 HDN d0 d1
      refine hK'.out _ _ ?_ (fun hHeld => ?_)
      · (try dsimp only); exact HSS.out _ HK3.out
      clear hK' K'
      refine wpAnyL_take (i := 7) (v := ?_) rfl (by kernel_rfl) (by kernel_rfl) (by kernel_rfl) (by kernel_rfl) (by kernel_rfl) (fun _ _ _ h => h) (Or.inl ⟨by rfl, ?_⟩) (by assumption) ?_
      rotate_left
      · intro wq hSw; (try dsimp only at hSw); first | (go_simp; done) | (go_simp; with_reducible rfl) | with_reducible rfl
      go_simp
      refine wpAnyL_take (i := 8) (v := ?_) rfl (by kernel_rfl) (by kernel_rfl) (by kernel_rfl) (by kernel_rfl) (by kernel_rfl) (fun _ _ _ h => h) (Or.inl ⟨by rfl, ?_⟩) (by assumption) ?_
      rotate_left
      · intro wq hSw; (try dsimp only at hSw); first | (go_simp; done) | (go_simp; with_reducible rfl) | with_reducible rfl
      go_simp
      refine wpAnyL_take (i := 9) (v := ?_) rfl (by kernel_rfl) (by kernel_rfl) (by kernel_rfl) (by kernel_rfl) (by kernel_rfl) (fun _ _ _ h => h) (Or.inl ⟨by rfl, ?_⟩) (by assumption) ?_
      rotate_left
      · intro wq hSw; (try dsimp only at hSw); first | (go_simp; done) | (go_simp; with_reducible rfl) | with_reducible rfl
      go_simp
      refine wpAnyL_take (i := 10) (v := ?_) rfl (by kernel_rfl) (by kernel_rfl) (by kernel_rfl) (by kernel_rfl) (by kernel_rfl) (fun _ _ _ h => h) (Or.inl ⟨by rfl, ?_⟩) (by assumption) ?_
      rotate_left
      · intro wq hSw; (try dsimp only at hSw); first | (go_simp; done) | (go_simp; with_reducible rfl) | with_reducible rfl
      go_simp
      refine wpAnyL_take (i := 11) (v := ?_) rfl (by kernel_rfl) (by kernel_rfl) (by kernel_rfl) (by kernel_rfl) (by kernel_rfl) (fun _ _ _ h => h) (Or.inl ⟨by rfl, ?_⟩) (by assumption) ?_
      rotate_left
      · intro wq hSw; (try dsimp only at hSw); first | (go_simp; done) | (go_simp; with_reducible rfl) | with_reducible rfl
      go_simp
      obtain ⟨d0, d1⟩ := HX3.out.cells
      have fb0 := frozen_of_row _ _ 0 _ _ HX3.out
      have fb1 := frozen_of_row _ _ 1 _ _ HX3.out
      have HK4 := Lib.hid ((HK3.out.setCell (p := ⟨G, 0, none⟩) hG (.slice a' R'.length c')).setCell (p := ⟨G, 1, none⟩) hG (.int .i64 ch'))
      refine wpAnyL_ready (rs := [12]) (by kernel_rfl) (by simp) ?_
      refine (AllReadyL.cons rfl (fun K' hK' => ?_) AllReadyL.nil)
      go_simp
      refine hK'.out _ _ ?_ (fun hHeld => ?_)
      · (try dsimp only); exact HSS.out _ HK4.out
      clear hK' K' d0 d1 fb0 fb1
      have HX4 : Hid (RBox ((w3.setCell ⟨G, 0, none⟩ (.slice a' R'.length c')).setCell ⟨G, 1, none⟩ (.int .i64 ch')) G a' R'.length c' ch') := Lib.hid HX3.out.two
      have hxs : RBox (w3.setCell ⟨G, 0, none⟩ (.slice a' R'.length c')) G a' R'.length c' ch := HX3.out.sl
      have HB4 := Lib.hid ((HB3.out.set HX3.out 0 (.slice a' R'.length c')).set hxs 1 (.int .i64 ch'))
      have HW4 := Lib.hid ((HW3.out.setCell (p := ⟨G, 0, none⟩) hG (.slice a' R'.length c')).setCell (p := ⟨G, 1, none⟩) hG (.int .i64 ch'))
      clear hxs HX3 HB3 HW3 HK3
      refine wpAnyL_ready (rs := [13]) (by kernel_rfl) (by simp) ?_
      refine AllReadyL.last rfl (fun K' hK' => ?_)
      go_simp
      refine hK'.out _ _ ?_
      clear hK' K'
      refine wpAnyL_done (by kernel_rfl) ?_ _
      clear hHeld
      generalize (w3.setCell ⟨G, 0, none⟩ (.slice a' R'.length c')).setCell ⟨G, 1, none⟩ (.int .i64 ch') = w4 at *
      have hsm := same_any w4 w.heap.size g' T' ch' a' c' R' HB4.out (by omega)
      have HSM := Lib.hid hsm
      obtain ⟨d0, d1⟩ := HX4.out.cells
      clear hsm
      go_wp2_with fail
      refine HSM.out.mono ?_
      rintro e w5 ⟨rfl, hb5⟩
      have HB5 := Lib.hid (HB4.out.below hb5)
      have HX5 := Lib.hid (HX4.out.below hb5)
      have HW5 := Lib.hid (kF hb5 HW4.out)
      clear hb5 HB4 HX4 HW4 HSM d0 d1
      go_wp2_with fail
      go_roundg (gk - 1)
      case measure => omega
      case rel => exact ⟨j + 1, g', T', ch', a', c', R', by omega, by omega, by omega, by omega, by go_num, rfl, HB5, HX5, HW5⟩
    · obtain rfl : j = K := by omega
      have hcs : ((n : Int) ≤ (j : Int)) ∨ ((j : Int) < (n : Int) ∧ (40 : Int) ≤ (j : Int)) := by have := HK.out; omega
      rcases hcs with hcs | ⟨hcs, hcs2⟩
      all_goals
        go_wp2_with fail
        refine (live14_any _).mono ?_
        rintro e w6 ⟨rfl, hb6⟩
        go_wp2_with fail
        go_ret
        exact ⟨rfl, kF hb6 HW.out⟩
end Go.Proofs.Ytmfjndkopkjchaa
