/- The walk of PairMakes. -/
import Derived.Test.YtbefejieinfdlaaJd
import Derived.Deep.CutBlock
import Derived.Deep.DeepCutAuto
namespace Go.Proofs.Ytbefejieinfdlaa
open Go.RowKit
set_option linter.unusedSimpArgs false
set_option linter.unusedVariables false

theorem makes_long (P Q t : Int) (A A2 : Option Addr) (n c n2 c2 : Nat) (l s : List Int) (w : World) (h : Byt w w.heap.size A n c l) (g : Byt w w.heap.size A2 n2 c2 s) (hn : 20 < n ∨ (n ≤ 20 ∧ 20 < n2)) : Calls Try.prog 3 #[.int .i64 P, .int .i64 Q, .slice A n c, .slice A2 n2 c2, .int .i64 t] w fun e w' => e = .returned (.bool true) ∧ Below w.heap.size w w' := by
  have hm1 := h.max
  have hc1 := h.cap
  have hm2 := g.max
  have hc2 := g.cap
  simp only [maxLen] at hm1 hm2
  have HY := Lib.hid h
  have hcs : (20 < (n : Int)) ∨ (¬ 20 < (n : Int) ∧ 20 < (n2 : Int)) := by omega
  clear h g
  rcases hcs with h1 | ⟨h1, h2⟩
  all_goals
    go_enter Try.func3, Try.ntmps3
    go_wp2_with (go_at_call 7; refine (live27_any _).mono ?_; rintro e w7 ⟨rfl, b7⟩; have HB7 := Lib.hid b7; clear b7)
    go_ret
    exact ⟨rfl, HB7.out⟩
set_option maxRecDepth 100000 in
set_option maxHeartbeats 8000000 in
theorem makes_no (P Q t : Int) (A A2 : Option Addr) (n c n2 c2 : Nat) (l s : List Int) (w : World) (h : Byt w w.heap.size A n c l) (g : Byt w w.heap.size A2 n2 c2 s) (hn : n ≤ 20) (hn2 : n2 ≤ 20) (E : Int)
    (hM : ∀ x, Byt x x.heap.size A n c l → Calls Try.prog 8 #[.int .i64 P, .int .i64 Q, .slice A n c] x fun e w' => e = .returned (.tuple #[.slice none 0 0, .int .i64 E]) ∧ Below x.heap.size x w')
    (hD : ∀ x, Byt x x.heap.size A n c l → Calls Try.prog 9 #[.int .i64 P, .int .i64 Q, .slice A n c] x fun e w' => e = .returned (.tuple #[.slice none 0 0, .int .i64 E]) ∧ Below x.heap.size x w') : Calls Try.prog 3 #[.int .i64 P, .int .i64 Q, .slice A n c, .slice A2 n2 c2, .int .i64 t] w fun e w' => e = .returned (.bool true) ∧ Below w.heap.size w w' := by
  have hm1 := h.max
  have hc1 := h.cap
  have hm2 := g.max
  have hc2 := g.cap
  simp only [maxLen] at hm1 hm2
  have HY := Lib.hid h
  obtain ⟨U, hU⟩ : ∃ u, uN l s (min n n2) = u := ⟨_, rfl⟩
  obtain ⟨KB, hKB⟩ : ∃ k, lkB l s = k := ⟨_, rfl⟩
  obtain ⟨CE, hCE⟩ : ∃ k, cauE t = k := ⟨_, rfl⟩
  have hK : (n = n2 ∧ U = 0 ∧ KB = true) ∨ (n = n2 ∧ ¬ U = 0 ∧ KB = false) ∨ (¬ n = n2 ∧ KB = false) := by
    have hl := h.len
    have hs := g.len
    by_cases hne : n = n2
    · subst hne
      have hk := lkB_uN h.rng g.rng (by omega)
      rw [hl] at hk
      rw [Nat.min_self] at hU
      rw [hKB, hU] at hk
      by_cases hz : U = 0
      · exact .inl ⟨rfl, hz, by rw [hk]; exact decide_eq_true hz⟩
      · exact .inr (.inl ⟨rfl, hz, by rw [hk]; exact decide_eq_false hz⟩)
    · exact .inr (.inr ⟨hne, by rw [← hKB]; exact lkB_len (by omega)⟩)
  have HK := Lib.hid hK
  have HCE := Lib.hid hCE
  have HRU := Lib.hid (fun (x : World) (hb : Below w.heap.size w x) => by have := ru_any x A A2 n c n2 c2 l s (h.step hb) (g.step hb) (by omega) (by omega); rw [hU] at this; exact this)
  have HUN := Lib.hid (fun (x : World) (hb : Below w.heap.size w x) => by have := un_any x A A2 n c n2 c2 l s (h.step hb) (g.step hb) (by omega) (by omega); rw [hU] at this; exact this)
  have HLK := Lib.hid (fun (x : World) (hb : Below w.heap.size w x) => by have := like_any x A A2 n c n2 c2 l s (h.step hb) (g.step hb) (by omega) (by omega); rw [hKB] at this; exact this)
  have HCA := Lib.hid (fun (x : World) => by have := cause_any t x; rw [hCE] at this; exact this)
  have HM := Lib.hid hM
  have HD := Lib.hid hD
  have hEE : (E == E) = true := by simp
  have hi1 : decide (20 < (n : Int)) = false := decide_eq_false (by omega)
  have hi2 : decide (20 < (n2 : Int)) = false := decide_eq_false (by omega)
  clear hM hD hU hKB hCE hK h g
  go_enter Try.func3, Try.ntmps3
  go_wp2_with (first
    | (go_at_call 8; refine (HM.out _ HY.out).mono ?_; rintro e w1 ⟨rfl, b1⟩; have HY1 := Lib.hid (HY.out.step b1); have HB1 := Lib.hid b1; clear b1)
    | (go_at_call 9; refine (HD.out _ HY1.out).mono ?_; rintro e w2 ⟨rfl, b2⟩; have HB := Lib.hid (kF b2 HB1.out); clear b2))
  clear HY HY1 HB1 HM HD
  go_loopw [15] (fun i wr => i = .int .i64 0 ∧ Hid (Below w.heap.size w wr)) (fun i _ => 0)
  case atStart => exact ⟨rfl, HB⟩
  case round =>
    clear HB
    obtain ⟨rfl, HB⟩ := hrel
    go_upto_region 12 with fail
    go_cut [16] from 66 to 76 (fun s16 wx => s16 = .bool KB ∧ Hid (Below w.heap.size w wx))
    case first =>
      rcases HK.out with ⟨h1, h2, h3⟩ | ⟨h1, h2, h3⟩ | ⟨h1, h3⟩
      · have hn1 : ((n : Int) == (n2 : Int)) = true := by simp; omega
        have hu1 : (U == 0) = true := by simpa using h2
        have H3 := Lib.hid h3
        clear h1 h2 h3
        go_wp2_with (go_at_call 10; refine (HRU.out _ HB.out).mono ?_; rintro e w7 ⟨rfl, b7⟩; have HB7 := Lib.hid (kF b7 HB.out); clear b7)
        go_meet
        exact ⟨by rw [H3.out], HB7⟩
      · have hn1 : ((n : Int) == (n2 : Int)) = true := by simp; omega
        have hu1 : (U == 0) = false := by simpa using h2
        have H3 := Lib.hid h3
        clear h1 h2 h3
        go_wp2_with (go_at_call 10; refine (HRU.out _ HB.out).mono ?_; rintro e w7 ⟨rfl, b7⟩; have HB7 := Lib.hid (kF b7 HB.out); clear b7)
        go_meet
        exact ⟨by rw [H3.out], HB7⟩
      · have hn1 : ((n : Int) == (n2 : Int)) = false := by simp; omega
        have H3 := Lib.hid h3
        clear h1 h3
        go_wp2_with fail
        go_meet
        exact ⟨by rw [H3.out], HB⟩
    case rest =>
    clear HB
    obtain ⟨rfl, HB⟩ := hcut
    have hcs : (t < 3 ∧ ¬ 3 ≤ t) ∨ (3 ≤ t ∧ t ≤ 5 ∧ ¬ t < 3 ∧ ¬ 5 < t) ∨ (3 ≤ t ∧ ¬ t ≤ 5) := by omega
    have HCE2 := HCE.out
    unfold cauE at HCE2
    rcases hcs with ⟨h1, h2⟩ | ⟨h1, h2, h3, h4⟩ | ⟨h1, h2⟩
    · rw [if_neg (by omega)] at HCE2
      subst HCE2
      have hb1 : (KB == KB) = true := by simp
      have hb2 : (U == U) = true := by simp
      have hb3 : ((0 : Int) == 0) = true := by simp
      go_wp2_with (first
        | (go_at_call 7; refine (live27_any _).mono ?_; rintro e w7 ⟨rfl, b7⟩; have HB7 := Lib.hid (kF b7 HB.out); clear b7)
        | (go_at_call 11; refine (HLK.out _ HB7.out).mono ?_; rintro e w8 ⟨rfl, b8⟩; have HB8 := Lib.hid (kF b8 HB7.out); clear b8)
        | (go_at_call 12; refine (HUN.out _ HB8.out).mono ?_; rintro e w9 ⟨rfl, b9⟩; have HB9 := Lib.hid (kF b9 HB8.out); clear b9)
        | (go_at_call 10; refine (HRU.out _ HB9.out).mono ?_; rintro e w10 ⟨rfl, b10⟩; have HB10 := Lib.hid (kF b10 HB9.out); clear b10)
        | (go_at_call 13; refine (HCA.out _).mono ?_; rintro e w11 ⟨rfl, rfl⟩))
      go_ret
      exact ⟨rfl, HB10.out⟩
    · rw [if_pos ⟨h1, h2⟩] at HCE2
      have e1 : IntKind.i64.wrap (t - 2) = CE := by rw [IntWalk.i64_in _ (by omega)]; exact HCE2
      clear HCE2
      have hb1 : (KB == KB) = true := by simp
      have hb2 : (U == U) = true := by simp
      have hb3 : (CE == CE) = true := by simp
      go_wp2_with (first
        | (go_at_call 7; refine (live27_any _).mono ?_; rintro e w7 ⟨rfl, b7⟩; have HB7 := Lib.hid (kF b7 HB.out); clear b7)
        | (go_at_call 11; refine (HLK.out _ HB7.out).mono ?_; rintro e w8 ⟨rfl, b8⟩; have HB8 := Lib.hid (kF b8 HB7.out); clear b8)
        | (go_at_call 12; refine (HUN.out _ HB8.out).mono ?_; rintro e w9 ⟨rfl, b9⟩; have HB9 := Lib.hid (kF b9 HB8.out); clear b9)
        | (go_at_call 10; refine (HRU.out _ HB9.out).mono ?_; rintro e w10 ⟨rfl, b10⟩; have HB10 := Lib.hid (kF b10 HB9.out); clear b10)
        | (go_at_call 13; refine (HCA.out _).mono ?_; rintro e w11 ⟨rfl, rfl⟩))
      go_ret
      exact ⟨rfl, HB10.out⟩
    · rw [if_neg (by omega)] at HCE2
      subst HCE2
      have hb1 : (KB == KB) = true := by simp
      have hb2 : (U == U) = true := by simp
      have hb3 : ((0 : Int) == 0) = true := by simp
      go_wp2_with (first
        | (go_at_call 7; refine (live27_any _).mono ?_; rintro e w7 ⟨rfl, b7⟩; have HB7 := Lib.hid (kF b7 HB.out); clear b7)
        | (go_at_call 11; refine (HLK.out _ HB7.out).mono ?_; rintro e w8 ⟨rfl, b8⟩; have HB8 := Lib.hid (kF b8 HB7.out); clear b8)
        | (go_at_call 12; refine (HUN.out _ HB8.out).mono ?_; rintro e w9 ⟨rfl, b9⟩; have HB9 := Lib.hid (kF b9 HB8.out); clear b9)
        | (go_at_call 10; refine (HRU.out _ HB9.out).mono ?_; rintro e w10 ⟨rfl, b10⟩; have HB10 := Lib.hid (kF b10 HB9.out); clear b10)
        | (go_at_call 13; refine (HCA.out _).mono ?_; rintro e w11 ⟨rfl, rfl⟩))
      go_ret
      exact ⟨rfl, HB10.out⟩

set_option maxRecDepth 100000 in
set_option maxHeartbeats 8000000 in
theorem makes_ok (P Q t : Int) (A A2 : Option Addr) (n c n2 c2 : Nat) (l s : List Int) (w : World) (h : Byt w w.heap.size A n c l) (g : Byt w w.heap.size A2 n2 c2 s) (hn : 1 ≤ n ∧ n ≤ 8) (hn2 : n2 ≤ 20) (hE1 : chk P false n (dOf l) = 0) (hE2 : chk Q false n (dOf (flipL l)) = 0) : Calls Try.prog 3 #[.int .i64 P, .int .i64 Q, .slice A n c, .slice A2 n2 c2, .int .i64 t] w fun e w' => e = .returned (.bool true) ∧ Below w.heap.size w w' := by
  have hm1 := h.max
  have hc1 := h.cap
  have hm2 := g.max
  have hc2 := g.cap
  simp only [maxLen] at hm1 hm2
  have HY := Lib.hid h
  obtain ⟨U, hU⟩ : ∃ u, uN l s (min n n2) = u := ⟨_, rfl⟩
  obtain ⟨KB, hKB⟩ : ∃ k, lkB l s = k := ⟨_, rfl⟩
  obtain ⟨CE, hCE⟩ : ∃ k, cauE t = k := ⟨_, rfl⟩
  have hK : (n = n2 ∧ U = 0 ∧ KB = true) ∨ (n = n2 ∧ ¬ U = 0 ∧ KB = false) ∨ (¬ n = n2 ∧ KB = false) := by
    have hl := h.len
    have hs := g.len
    by_cases hne : n = n2
    · subst hne
      have hk := lkB_uN h.rng g.rng (by omega)
      rw [hl] at hk
      rw [Nat.min_self] at hU
      rw [hKB, hU] at hk
      by_cases hz : U = 0
      · exact .inl ⟨rfl, hz, by rw [hk]; exact decide_eq_true hz⟩
      · exact .inr (.inl ⟨rfl, hz, by rw [hk]; exact decide_eq_false hz⟩)
    · exact .inr (.inr ⟨hne, by rw [← hKB]; exact lkB_len (by omega)⟩)
  have HK := Lib.hid hK
  have HCE := Lib.hid hCE
  have HRU := Lib.hid (fun (x : World) (hb : Below w.heap.size w x) => by have := ru_any x A A2 n c n2 c2 l s (h.step hb) (g.step hb) (by omega) (by omega); rw [hU] at this; exact this)
  have HUN := Lib.hid (fun (x : World) (hb : Below w.heap.size w x) => by have := un_any x A A2 n c n2 c2 l s (h.step hb) (g.step hb) (by omega) (by omega); rw [hU] at this; exact this)
  have HLK := Lib.hid (fun (x : World) (hb : Below w.heap.size w x) => by have := like_any x A A2 n c n2 c2 l s (h.step hb) (g.step hb) (by omega) (by omega); rw [hKB] at this; exact this)
  have HCA := Lib.hid (fun (x : World) => by have := cause_any t x; rw [hCE] at this; exact this)
  have HM := Lib.hid (fun x (hx : Byt x x.heap.size A n c l) => make_ok P Q A n c l x hx hn hE1 hE2)
  have HD := Lib.hid (fun x (hx : Byt x x.heap.size A n c l) => dmake_ok P Q A n c l x hx hn hE1 hE2)
  generalize dOf (flipL l) = d2 at *
  generalize dOf l = d1 at *
  have hq : ∀ (w : World) (I : Int) (d : Nat → Int), (Op.equalIn 10000 30 (.agg #[.int .i64 I, .bool false, .int .i64 (n : Int), .int .u8 (d 0), .int .u8 (d 1), .int .u8 (d 2), .int .u8 (d 3), .int .u8 (d 4), .int .u8 (d 5), .int .u8 (d 6), .int .u8 (d 7)]) (.agg #[.int .i64 I, .bool false, .int .i64 (n : Int), .int .u8 (d 0), .int .u8 (d 1), .int .u8 (d 2), .int .u8 (d 3), .int .u8 (d 4), .int .u8 (d 5), .int .u8 (d 6), .int .u8 (d 7)])).run Try.prog w = .ok true w := fun w I d => by rw [run_eq_frames]; simp [eqD]
  have HQ := Lib.hid hq
  have hi1 : decide (20 < (n : Int)) = false := decide_eq_false (by omega)
  have hi2 : decide (20 < (n2 : Int)) = false := decide_eq_false (by omega)
  clear hU hKB hCE hK h g hE1 hE2 hq
  go_enter Try.func3, Try.ntmps3
  go_wp2_with (first
    | (go_at_call 8; refine (HM.out _ HY.out).mono ?_; rintro e w1 ⟨p, hp, rfl, x1, b1⟩; have HY1 := Lib.hid (HY.out.step b1); have HX1 := Lib.hid x1; have HB1 := Lib.hid b1; clear b1 x1 hp)
    | (go_at_call 9; refine (HD.out _ HY1.out).mono ?_; rintro e w2 ⟨q, hq, rfl, x2, b2⟩; have HX2 := Lib.hid (HX1.out.below b2); have HZ2 := Lib.hid x2; have HB2 := Lib.hid (kF b2 HB1.out); clear b2 x2 hq))
  clear HY HY1 HB1 HM HD HX1
  go_loopw [15] (fun i wr => ∃ j : Nat, j ≤ 2 ∧ i = .int .i64 j ∧ Hid (TwAt wr p P Q n d1 d2) ∧ Hid (TwAt wr q P Q n d1 d2) ∧ Hid (Below w.heap.size w wr)) (fun i _ => 3 - (intOf i).toNat)
  case atStart => exact ⟨0, by omega, rfl, HX2, HZ2, HB2⟩
  case round =>
    clear HX2 HZ2 HB2
    obtain ⟨j, hj, rfl, HX, HZ, HB⟩ := hrel
    have hcj : j = 0 ∨ j = 1 ∨ j = 2 := by omega
    rcases hcj with rfl | rfl | rfl
    · obtain ⟨a0, a1, a2, a3, a4, a5, a6, a7, a8, a9, a10⟩ := HX.out.cells1
      obtain ⟨b0, b1, b2, b3, b4, b5, b6, b7, b8, b9, b10⟩ := HZ.out.cells1
      have hqq := fun w => HQ.out w P d1
      go_wp2_with fail
      go_quiet (fail)
      go_wp2_with fail
      exact ⟨⟨1, by omega, rfl, Lib.hid (HX.out.below (below_drewN (Below.refl _ _) nq)), Lib.hid (HZ.out.below (below_drewN (Below.refl _ _) nq)), Lib.hid (below_drewN HB.out nq)⟩, by simp [intOf]⟩
    · obtain ⟨a0, a1, a2, a3, a4, a5, a6, a7, a8, a9, a10⟩ := HX.out.cells2
      obtain ⟨b0, b1, b2, b3, b4, b5, b6, b7, b8, b9, b10⟩ := HZ.out.cells2
      have hqq := fun w => HQ.out w Q d2
      go_wp2_with fail
      go_quiet (fail)
      go_wp2_with fail
      exact ⟨⟨2, by omega, rfl, Lib.hid (HX.out.below (below_drewN (Below.refl _ _) nq)), Lib.hid (HZ.out.below (below_drewN (Below.refl _ _) nq)), Lib.hid (below_drewN HB.out nq)⟩, by simp [intOf]⟩
    · clear HX HZ HQ hj
      go_upto_region 12 with fail
      go_cut [16] from 66 to 76 (fun s16 wx => s16 = .bool KB ∧ Hid (Below w.heap.size w wx))
      case first =>
        rcases HK.out with ⟨h1, h2, h3⟩ | ⟨h1, h2, h3⟩ | ⟨h1, h3⟩
        · have hn1 : ((n : Int) == (n2 : Int)) = true := by simp; omega
          have hu1 : (U == 0) = true := by simpa using h2
          have H3 := Lib.hid h3
          clear h1 h2 h3
          go_wp2_with (go_at_call 10; refine (HRU.out _ HB.out).mono ?_; rintro e w7 ⟨rfl, b7⟩; have HB7 := Lib.hid (kF b7 HB.out); clear b7)
          go_meet
          exact ⟨by rw [H3.out], HB7⟩
        · have hn1 : ((n : Int) == (n2 : Int)) = true := by simp; omega
          have hu1 : (U == 0) = false := by simpa using h2
          have H3 := Lib.hid h3
          clear h1 h2 h3
          go_wp2_with (go_at_call 10; refine (HRU.out _ HB.out).mono ?_; rintro e w7 ⟨rfl, b7⟩; have HB7 := Lib.hid (kF b7 HB.out); clear b7)
          go_meet
          exact ⟨by rw [H3.out], HB7⟩
        · have hn1 : ((n : Int) == (n2 : Int)) = false := by simp; omega
          have H3 := Lib.hid h3
          clear h1 h3
          go_wp2_with fail
          go_meet
          exact ⟨by rw [H3.out], HB⟩
      case rest =>
      clear HB
      obtain ⟨rfl, HB⟩ := hcut
      have hcs : (t < 3 ∧ ¬ 3 ≤ t) ∨ (3 ≤ t ∧ t ≤ 5 ∧ ¬ t < 3 ∧ ¬ 5 < t) ∨ (3 ≤ t ∧ ¬ t ≤ 5) := by omega
      have HCE2 := HCE.out
      unfold cauE at HCE2
      rcases hcs with ⟨h1, h2⟩ | ⟨h1, h2, h3, h4⟩ | ⟨h1, h2⟩
      · rw [if_neg (by omega)] at HCE2
        subst HCE2
        have hb1 : (KB == KB) = true := by simp
        have hb2 : (U == U) = true := by simp
        have hb3 : ((0 : Int) == 0) = true := by simp
        go_wp2_with (first
          | (go_at_call 7; refine (live27_any _).mono ?_; rintro e w7 ⟨rfl, b7⟩; have HB7 := Lib.hid (kF b7 HB.out); clear b7)
          | (go_at_call 11; refine (HLK.out _ HB7.out).mono ?_; rintro e w8 ⟨rfl, b8⟩; have HB8 := Lib.hid (kF b8 HB7.out); clear b8)
          | (go_at_call 12; refine (HUN.out _ HB8.out).mono ?_; rintro e w9 ⟨rfl, b9⟩; have HB9 := Lib.hid (kF b9 HB8.out); clear b9)
          | (go_at_call 10; refine (HRU.out _ HB9.out).mono ?_; rintro e w10 ⟨rfl, b10⟩; have HB10 := Lib.hid (kF b10 HB9.out); clear b10)
          | (go_at_call 13; refine (HCA.out _).mono ?_; rintro e w11 ⟨rfl, rfl⟩))
        go_ret
        exact ⟨rfl, HB10.out⟩
      · rw [if_pos ⟨h1, h2⟩] at HCE2
        have e1 : IntKind.i64.wrap (t - 2) = CE := by rw [IntWalk.i64_in _ (by omega)]; exact HCE2
        clear HCE2
        have hb1 : (KB == KB) = true := by simp
        have hb2 : (U == U) = true := by simp
        have hb3 : (CE == CE) = true := by simp
        go_wp2_with (first
          | (go_at_call 7; refine (live27_any _).mono ?_; rintro e w7 ⟨rfl, b7⟩; have HB7 := Lib.hid (kF b7 HB.out); clear b7)
          | (go_at_call 11; refine (HLK.out _ HB7.out).mono ?_; rintro e w8 ⟨rfl, b8⟩; have HB8 := Lib.hid (kF b8 HB7.out); clear b8)
          | (go_at_call 12; refine (HUN.out _ HB8.out).mono ?_; rintro e w9 ⟨rfl, b9⟩; have HB9 := Lib.hid (kF b9 HB8.out); clear b9)
          | (go_at_call 10; refine (HRU.out _ HB9.out).mono ?_; rintro e w10 ⟨rfl, b10⟩; have HB10 := Lib.hid (kF b10 HB9.out); clear b10)
          | (go_at_call 13; refine (HCA.out _).mono ?_; rintro e w11 ⟨rfl, rfl⟩))
        go_ret
        exact ⟨rfl, HB10.out⟩
      · rw [if_neg (by omega)] at HCE2
        subst HCE2
        have hb1 : (KB == KB) = true := by simp
        have hb2 : (U == U) = true := by simp
        have hb3 : ((0 : Int) == 0) = true := by simp
        go_wp2_with (first
          | (go_at_call 7; refine (live27_any _).mono ?_; rintro e w7 ⟨rfl, b7⟩; have HB7 := Lib.hid (kF b7 HB.out); clear b7)
          | (go_at_call 11; refine (HLK.out _ HB7.out).mono ?_; rintro e w8 ⟨rfl, b8⟩; have HB8 := Lib.hid (kF b8 HB7.out); clear b8)
          | (go_at_call 12; refine (HUN.out _ HB8.out).mono ?_; rintro e w9 ⟨rfl, b9⟩; have HB9 := Lib.hid (kF b9 HB8.out); clear b9)
          | (go_at_call 10; refine (HRU.out _ HB9.out).mono ?_; rintro e w10 ⟨rfl, b10⟩; have HB10 := Lib.hid (kF b10 HB9.out); clear b10)
          | (go_at_call 13; refine (HCA.out _).mono ?_; rintro e w11 ⟨rfl, rfl⟩))
        go_ret
        exact ⟨rfl, HB10.out⟩

theorem makes_walk (P Q t : Int) (A A2 : Option Addr) (n c n2 c2 : Nat) (l s : List Int) (w : World) (h : Byt w w.heap.size A n c l) (g : Byt w w.heap.size A2 n2 c2 s) : Calls Try.prog 3 #[.int .i64 P, .int .i64 Q, .slice A n c, .slice A2 n2 c2, .int .i64 t] w fun e w' => e = .returned (.bool true) ∧ Below w.heap.size w w' := by
  by_cases hn : n ≤ 20 ∧ n2 ≤ 20
  · by_cases h8 : 1 ≤ n ∧ n ≤ 8
    · by_cases hE1 : chk P false n (dOf l) = 0
      · by_cases hE2 : chk Q false n (dOf (flipL l)) = 0
        · exact makes_ok P Q t A A2 n c n2 c2 l s w h g h8 hn.2 hE1 hE2
        · exact makes_no P Q t A A2 n c n2 c2 l s w h g hn.1 hn.2 _ (fun x hx => make_e2 P Q _ A n c l x hx h8 hE1 rfl hE2) (fun x hx => dmake_e2 P Q _ A n c l x hx h8 hE1 rfl hE2)
      · exact makes_no P Q t A A2 n c n2 c2 l s w h g hn.1 hn.2 _ (fun x hx => make_e1 P Q _ A n c l x hx h8 rfl hE1) (fun x hx => dmake_e1 P Q _ A n c l x hx h8 rfl hE1)
    · exact makes_no P Q t A A2 n c n2 c2 l s w h g hn.1 hn.2 11 (fun x hx => make_len P Q A n c l x hx (by omega)) (fun x hx => dmake_len P Q A n c l x hx (by omega))
  · exact makes_long P Q t A A2 n c n2 c2 l s w h g (by omega)
end Go.Proofs.Ytbefejieinfdlaa
