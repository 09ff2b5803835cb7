/- The walk of PulseSteps. -/
import Derived.Test.YthofimkjemhnoaaPuh
import Derived.Test.YthofimkjemhnoaaPuf
import Derived.Deep.CutBlock
namespace Go.Proofs.Ythofimkjemhnoaa
open Go.RowKit
set_option linter.unusedSimpArgs false
set_option linter.unusedVariables false

theorem chk_may {ct o : Int} (h : mayP ct o = true) : chk 128 false (lenO o) (dOf [ct]) = 0 := by
  simp only [mayP, Bool.and_eq_true] at h
  unfold lenO
  rcases ct_in h.2 with ⟨rfl, rfl⟩ | ⟨h1, _, _⟩
  · decide
  · rw [if_neg h1]; exact chk_cnt ct
theorem PmAt.othe {w0 w w' : World} {q c : Nat} {per ov ct : Int} {o : Option Int} (h : PmAt w0 q c per ov ct o w) (hb : Below w0.heap.size w0 w') (ho : OthE w w') : PmAt w0 q c per ov ct o w' :=
  h.kpt hb (ho _ (by decide)) (ho _ (by decide)) (ho _ (by decide)) (ho _ (by decide)) (ho _ (by decide))
structure StS (w : World) (q c g : Nat) (per ov ct h la : Int) (o : Option Int) (x : World) : Prop where
  m : PmAt w q c per ov ct o x
  e : EarAt x g ov h 0 la
  g : w.heap.size ≤ g
section
variable {w x y : World} {q c g : Nat} {per ov ct h la : Int} {o : Option Int}
theorem StS.below (s : StS w q c g per ov ct h la o x) (hb : Below x.heap.size x y) : StS w q c g per ov ct h la o y := ⟨s.m.below hb, s.e.below hb s.e.lt, s.g⟩
theorem StS.bel (s : StS w q c g per ov ct h la o x) : Below w.heap.size w x := s.m.bel
theorem StS.rowf (s : StS w q c g per ov ct h la o x) {k : Nat} {id n : Int} {r : Bool} {d : Nat → Int} (hf : FrAt x k id r n d) (hg : w.heap.size ≤ k) (cs : Array Value) : StS w q c g per ov ct h la o (x.setRow k cs) :=
  ⟨s.m.frame hf hg cs, (setRow_other x k g cs (fun e => by subst e; have h1 := s.e; unfold EarAt at h1; unfold FrAt at hf; rw [hf] at h1; cases h1)).trans s.e, s.g⟩
theorem StS.oth (s : StS w q c g per ov ct h la o x) {ct2 : Int} {o2 : Option Int} (hm : PmAt w q c per ov ct2 o2 y) (ho : OthP x y) : StS w q c g per ov ct2 h la o2 y :=
  ⟨hm, ((ho _ (by decide) (by decide) (by decide) (by decide) (by decide)).2 _ _ _ s.e).trans s.e, s.g⟩
theorem StS.ear (s : StS w q c g per ov ct h la o x) {h2 la2 : Int} (he : EarAt y g ov h2 0 la2) (ho : OthE x y) (hb : Below g x y) : StS w q c g per ov ct h2 la2 o y :=
  ⟨s.m.othe (s.m.bel.trans (hb.mono s.g)) ho, he, s.g⟩
end
theorem mod_yes {x p k : Int} (h : x = (k + 1) * p) : x % p = 0 := by subst h; exact Int.mul_emod_left _ _
theorem mod_no {x p k j : Int} (h : x = (k + 1) * p) (h1 : x - p < j) (h2 : j < x) : ¬ j % p = 0 := by
  intro e
  have hp : 0 < p := by omega
  obtain ⟨a, ha⟩ := Int.dvd_of_emod_eq_zero e
  subst h ha
  rw [Int.add_mul, Int.one_mul] at h1 h2
  rw [Int.mul_comm k p] at h1 h2
  by_cases c : a ≤ k
  · have := Int.mul_le_mul_of_nonneg_left c (Int.le_of_lt hp)
    omega
  · have := Int.mul_le_mul_of_nonneg_left (show k + 1 ≤ a by omega) (Int.le_of_lt hp)
    rw [Int.mul_add, Int.mul_one] at this
    omega
/-- Of a rate by which the overflow can be divided just every rate-th pulse is on. -/
theorem on_every {k o b : Int} (ho : isOv o = true) (hk : 0 ≤ k) (hb1 : 1 ≤ b) (hb2 : b ≤ 240) (hd : o % b = 0) : onE o (k + 1) (ctE k o) b = decide ((k + 1) % b = 0) := by
  unfold onE ctE
  rw [if_neg (by omega)]
  rcases ov_in ho with rfl | ⟨h, _⟩
  · rfl
  · rw [if_neg (by omega), if_neg (by omega), Int.add_emod, Int.emod_emod_of_dvd k (Int.dvd_of_emod_eq_zero hd), ← Int.add_emod]
theorem ctE_nonneg {k o : Int} (ho : isOv o = true) : 0 ≤ ctE k o ∧ ctE k o ≤ 240 := by
  unfold ctE
  rcases ov_in ho with rfl | ⟨h, h'⟩
  · rw [if_pos rfl]; omega
  · have t1 := Int.emod_nonneg k (show o ≠ 0 by omega)
    have t2 := Int.emod_lt_of_pos k (show 0 < o by omega)
    rw [if_neg (by omega)]; omega
theorem odue_at {x p : Int} (h0 : 0 ≤ x) (h1 : 1 ≤ p) (h2 : x + p ≤ 2147483647) : oDue x p x = some (x + p) := by
  have e : nextE x p x = x + p := by unfold nextE; rw [if_neg (by omega)]; simp
  have d : dueE x p x = x + p := by unfold dueE; rw [if_neg (by omega), e, if_neg (by omega)]
  unfold oDue
  rw [d, if_neg (by omega)]
theorem hear_step (g : Nat) (top k la ct NN : Int) (y : World) (he : EarAt y g top k 0 la) (hov : isOv top = true) (hm : mayP ct top = true) (hN : lenO top = NN) (hc : 0 ≤ ct ∧ ct ≤ 255) (hk : k ≤ 1000) (hl : k = 0 ∨ (0 < k ∧ bhE la top = ct ∧ 0 ≤ la)) :
    Calls Try.prog 17 #[.pointer (some ⟨g, 0, none⟩), .agg #[.int .i64 128, .bool false, .int .i64 NN, .int .u8 ct, .int .u8 0, .int .u8 0, .int .u8 0, .int .u8 0, .int .u8 0, .int .u8 0, .int .u8 0]] y fun e w' => e = .returned (.int .i64 0) ∧ EarAt w' g top (k + 1) 0 ct ∧ OthE y w' ∧ Below g y w' := by
  have hk2 := chk_may hm
  rw [hN] at hk2
  simp only [mayP, Bool.and_eq_true] at hm
  rcases hl with rfl | ⟨h1, h2, h3⟩
  · exact hear_first g top 0 la 128 NN false (dOf [ct]) y hc he hk2 rfl rfl hN.symm hm.2 (by omega) (by omega)
  · exact hear_same g top k 0 la 128 NN false (dOf [ct]) y hc he hk2 rfl rfl hN.symm hm.2 (by omega) (by omega) ct (fun w => by have := pbeh_any la top w hov h3; rw [h2] at this; exact this) h1 (by omega) rfl
set_option maxRecDepth 200000 in
set_option maxHeartbeats 8000000 in
theorem steps_walk (over rate period ticks : Int) (w : World) (ho : 0 ≤ over ∧ over ≤ 255) (hr : 0 ≤ rate ∧ rate ≤ 255) (hp : 0 ≤ period ∧ period ≤ 255) (ht : 0 ≤ ticks ∧ ticks ≤ 255) :
    Calls Try.prog 6 #[.int .u8 over, .int .u8 rate, .int .u8 period, .int .u8 ticks] w fun e w' => e = .returned (.bool true) ∧ Below w.heap.size w w' := by
  have c1 : IntKind.i64.wrap over = over := IntWalk.i64_in _ (by omega)
  have c2 : IntKind.i64.wrap rate = rate := IntWalk.i64_in _ (by omega)
  have c3 : IntKind.i64.wrap period = period := IntWalk.i64_in _ (by omega)
  have c4 : IntKind.i64.wrap ticks = ticks := IntWalk.i64_in _ (by omega)
  obtain ⟨t1, ht1⟩ : ∃ t, over.tmod 241 = t := ⟨_, rfl⟩
  have hb1 : 0 ≤ t1 ∧ t1 ≤ 240 := by rw [← ht1, Int.tmod_eq_emod_of_nonneg ho.1]; omega
  have c5 : IntKind.i64.wrap t1 = t1 := IntWalk.i64_in _ (by omega)
  obtain ⟨t2, ht2⟩ : ∃ t, rate.tmod 12 = t := ⟨_, rfl⟩
  have hb2 : 0 ≤ t2 ∧ t2 ≤ 11 := by rw [← ht2, Int.tmod_eq_emod_of_nonneg hr.1]; omega
  have c6 : IntKind.i64.wrap t2 = t2 := IntWalk.i64_in _ (by omega)
  obtain ⟨BB, hBB⟩ : ∃ t, 1 + t2 = t := ⟨_, rfl⟩
  have c7 : IntKind.i64.wrap (1 + t2) = BB := by rw [hBB]; exact IntWalk.i64_in _ (by omega)
  obtain ⟨t3, ht3⟩ : ∃ t, period.tmod 9 = t := ⟨_, rfl⟩
  have hb3 : 0 ≤ t3 ∧ t3 ≤ 8 := by rw [← ht3, Int.tmod_eq_emod_of_nonneg hp.1]; omega
  have c8 : IntKind.i64.wrap t3 = t3 := IntWalk.i64_in _ (by omega)
  obtain ⟨PP, hPP⟩ : ∃ t, 1 + t3 = t := ⟨_, rfl⟩
  have c9 : IntKind.i64.wrap (1 + t3) = PP := by rw [hPP]; exact IntWalk.i64_in _ (by omega)
  have hB1 : 1 ≤ BB := by omega
  have hB2 : BB ≤ 12 := by omega
  have hP1 : 1 ≤ PP := by omega
  have hP2 : PP ≤ 9 := by omega
  obtain ⟨ht0, ht9⟩ := ht
  clear ho hr hp hb2 hb3 hBB hPP
  have HNW := Lib.hid (pm_new w w (Below.refl _ _))
  have hTT : (t1 = 1 ∧ isOv 0 = true) ∨ (¬ t1 = 1 ∧ isOv t1 = true) := by
    by_cases h : t1 = 1
    · exact .inl ⟨h, rfl⟩
    · refine .inr ⟨h, ?_⟩
      by_cases h0 : t1 = 0
      · rw [h0]; rfl
      · exact ov_yes (by omega) (by omega)
  have HTT : Hid (∀ Q : Prop, (∀ top : Int, isOv top = true → top = 0 → t1 = 1 → Q) → (∀ top : Int, isOv top = true → top = t1 → (t1 == 1) = false → Q) → Q) := Lib.hid (fun Q hA hB => hTT.elim (fun h => hA 0 h.2 rfl h.1) (fun h => hB t1 h.2 rfl (by simpa using h.1)))
  clear hTT hb1
  refine HTT.out _ (fun top hov htop h1 => ?_) (fun top hov htop h1 => ?_)
  all_goals
    clear HTT
    first | (subst h1) | skip
    have HTOP := Lib.hid htop
    clear htop
    have HEN := Lib.hid (fun w => ear_new w top hov)
    have HOV := Lib.hid hov
    have HST := Lib.hid (fun w1 q c (hm : PmAt w q c 0 0 0 none w1) => pset_ok w w1 q c 0 0 0 PP top 0 none hm (isU_yes (by omega) (by omega)) rfl hov)
    clear hov
    go_enter Try.func6, Try.ntmps6
    go_upto_region 4 with fail
    rw [← HTOP.out]
    clear c1 ht1 c5
    go_upto_region 9 with (first
      | (go_at_call 10; refine (HNW.out).mono ?_; rintro e w1 ⟨q, c, rfl, hm1, hq1, hb1⟩; have HM1 := Lib.hid hm1; clear hm1 hq1 hb1)
      | (go_at_call 16; refine (HEN.out _).mono ?_; rintro e w2 ⟨rfl, he2, hb2⟩; have HM2 := Lib.hid (HM1.out.below hb2); have HE2 := Lib.hid he2; have HG2 := Lib.hid (show w.heap.size ≤ w1.heap.size from HM1.out.bel.size); clear he2 hb2)
      | (go_at_call 11; refine (HST.out _ q c HM2.out).mono ?_; rintro e w3 ⟨rfl, hm3, ho3⟩; have HS3 := Lib.hid (show StS w q c w1.heap.size PP top (bhE 0 top) 0 0 (oSet PP 0) w3 from ⟨hm3, ((ho3 _ (by decide) (by decide) (by decide) (by decide) (by decide)).2 _ _ _ HE2.out).trans HE2.out, HG2.out⟩); clear hm3 ho3))
    clear HNW HEN HST HM1 HM2 HE2 HG2
    generalize w1.heap.size = g at *
    obtain ⟨A1, hA1⟩ : ∃ t, top.tmod BB = t := ⟨_, rfl⟩
    have hov := HOV.out
    have htp : 0 ≤ top ∧ top ≤ 240 := by rcases ov_in hov with h | h <;> omega
    have hA9 : 0 ≤ A1 ∧ A1 < BB ∧ top % BB = A1 := by rw [← hA1, Int.tmod_eq_emod_of_nonneg htp.1]; exact ⟨Int.emod_nonneg _ (by omega), Int.emod_lt_of_pos _ (by omega), rfl⟩
    have c10 : IntKind.i64.wrap A1 = A1 := IntWalk.i64_in _ (by omega)
    have HA3 := Lib.hid hA9.2.2
    have HAA : Hid (∀ Q : Prop, (A1 = 0 → Q) → ((A1 == 0) = false → Q) → Q) := Lib.hid (fun Q hA hB => by
      by_cases h : A1 = 0
      · exact hA h
      · exact hB (by simpa using h))
    have tzB : ¬ BB = 0 := by omega
    have tzP : ¬ PP = 0 := by omega
    have HS4 : Hid (StS w q c g PP top (bhE 0 top) ((0 : Nat) : Int) 0 (some PP) w3) := Lib.hid (by
      have := HS3.out
      rw [show oSet PP 0 = some PP from (if_pos (by omega)).trans (by rw [Int.zero_add])] at this
      exact this)
    clear HS3 hov htp hA9
    go_wp2_with fail
    go_loopw [14, 15] (fun nn i wr => ∃ (j k : Nat) (x ct la : Int), (j : Int) ≤ ticks + 1 ∧ k ≤ j ∧ nn = .int .i64 k ∧ i = .int .i64 j ∧ Hid (StS w q c g PP top ct k la (some x) wr) ∧ Hid (x = (k + 1) * PP) ∧ Hid (ct = ctE k top) ∧ Hid (k = 0 ∨ (0 < k ∧ bhE la top = ct ∧ 0 ≤ la)) ∧ (j : Int) ≤ x ∧ (x - PP < j ∨ j = 0) ∧ x ≤ j + PP) (fun _ i _ => 300 - (intOf i).toNat)
    case atStart => exact ⟨0, 0, PP, bhE 0 top, 0, by omega, by omega, rfl, rfl, HS4, Lib.hid (by omega), Lib.hid rfl, Lib.hid (.inl rfl), by omega, by omega, by omega⟩
    case round =>
      clear HS4
      obtain ⟨j, k, x, ct, la, hj, hkj, rfl, rfl, HS, HX, HCt, HLa, hx0, hx1, hx2⟩ := hrel
      by_cases hlt : (j : Int) ≤ ticks
      · by_cases hd : (j : Int) < x
        · have HND := Lib.hid (show notDue (some x) (j : Int) from .inr ⟨x, rfl, hd⟩)
          clear HAA HA3 hA1
          by_cases hz : j = 0
          · subst hz
            go_upto_region 14 with (first
              | (go_at_call 15; refine (ptick_not w _ q c PP top ct ((0 : Nat) : Int) (some x) HS.out.m HND.out).mono ?_; rintro e w1 ⟨rfl, hb1⟩; have hs1 := HS.out.below hb1; clear hb1; have HS2 := Lib.hid (hs1.below ((Below.refl _ _).alloc (Nat.le_refl _) _ : Below w1.heap.size w1 (w1.alloc (.cells #[.int .i64 0, .bool false, .int .i64 0, .int .u8 0, .int .u8 0, .int .u8 0, .int .u8 0, .int .u8 0, .int .u8 0, .int .u8 0, .int .u8 0] 24)))); have HG2 := Lib.hid (show w.heap.size ≤ w1.heap.size from hs1.bel.size); have HY2 := Lib.hid (frame_new w1 0 0 false (fun _ => 0)); clear hs1)
              | (refine wpList_store_row rfl _ (.tmp 16) (.tmp 55) rfl w1.heap.size _ rfl rfl _ _ HY2.out info_frame rfl (one_frame 0 0 false (fun _ => 0)) ?_))
            have HS3 := Lib.hid (HS2.out.rowf HY2.out HG2.out #[.int .i64 0, .bool false, .int .i64 0, .int .u8 0, .int .u8 0, .int .u8 0, .int .u8 0, .int .u8 0, .int .u8 0, .int .u8 0, .int .u8 0])
            have HY3 := Lib.hid (show FrAt ((w1.alloc (.cells #[.int .i64 0, .bool false, .int .i64 0, .int .u8 0, .int .u8 0, .int .u8 0, .int .u8 0, .int .u8 0, .int .u8 0, .int .u8 0, .int .u8 0] 24)).setRow w1.heap.size #[.int .i64 0, .bool false, .int .i64 0, .int .u8 0, .int .u8 0, .int .u8 0, .int .u8 0, .int .u8 0, .int .u8 0, .int .u8 0, .int .u8 0]) w1.heap.size 0 false 0 (fun _ => 0) from HY2.out.row 0 0 false (fun _ => 0))
            clear HS2 HY2 HS HG2
            generalize (w1.alloc (.cells #[.int .i64 0, .bool false, .int .i64 0, .int .u8 0, .int .u8 0, .int .u8 0, .int .u8 0, .int .u8 0, .int .u8 0, .int .u8 0, .int .u8 0] 24)).setRow w1.heap.size #[.int .i64 0, .bool false, .int .i64 0, .int .u8 0, .int .u8 0, .int .u8 0, .int .u8 0, .int .u8 0, .int .u8 0, .int .u8 0, .int .u8 0] = w3 at *
            generalize w1.heap.size = gf at *
            go_wp2_with fail
            go_roundw
            case rel => exact ⟨1, k, x, ct, la, by omega, by omega, by go_num, by go_num, HS3, HX, HCt, HLa, by omega, by omega, by omega⟩
            case measure => first | (simp [intOf]; done) | (simp [intOf]; omega)
          · have hz1 : 0 < j := by omega
            have hz2 : (0 : Int) < (j : Int) := by omega
            obtain ⟨r, hr⟩ : ∃ r, (j : Int).tmod PP = r := ⟨_, rfl⟩
            have hr2 : 0 ≤ r ∧ r < PP ∧ ¬ r = 0 := by
              rw [← hr, Int.tmod_eq_emod_of_nonneg (by omega)]
              exact ⟨Int.emod_nonneg _ tzP, Int.emod_lt_of_pos _ (by omega), mod_no HX.out (by omega) hd⟩
            have c12 : IntKind.i64.wrap r = r := IntWalk.i64_in _ (by omega)
            have t12 : (r == 0) = false := by simpa using hr2.2.2
            clear hr2
            go_upto_region 14 with (first
              | (go_at_call 15; refine (ptick_not w _ q c PP top ct j (some x) HS.out.m HND.out).mono ?_; rintro e w1 ⟨rfl, hb1⟩; have hs1 := HS.out.below hb1; clear hb1; have HS2 := Lib.hid (hs1.below ((Below.refl _ _).alloc (Nat.le_refl _) _ : Below w1.heap.size w1 (w1.alloc (.cells #[.int .i64 0, .bool false, .int .i64 0, .int .u8 0, .int .u8 0, .int .u8 0, .int .u8 0, .int .u8 0, .int .u8 0, .int .u8 0, .int .u8 0] 24)))); have HG2 := Lib.hid (show w.heap.size ≤ w1.heap.size from hs1.bel.size); have HY2 := Lib.hid (frame_new w1 0 0 false (fun _ => 0)); clear hs1)
              | (refine wpList_store_row rfl _ (.tmp 16) (.tmp 55) rfl w1.heap.size _ rfl rfl _ _ HY2.out info_frame rfl (one_frame 0 0 false (fun _ => 0)) ?_))
            have HS3 := Lib.hid (HS2.out.rowf HY2.out HG2.out #[.int .i64 0, .bool false, .int .i64 0, .int .u8 0, .int .u8 0, .int .u8 0, .int .u8 0, .int .u8 0, .int .u8 0, .int .u8 0, .int .u8 0])
            have HY3 := Lib.hid (show FrAt ((w1.alloc (.cells #[.int .i64 0, .bool false, .int .i64 0, .int .u8 0, .int .u8 0, .int .u8 0, .int .u8 0, .int .u8 0, .int .u8 0, .int .u8 0, .int .u8 0] 24)).setRow w1.heap.size #[.int .i64 0, .bool false, .int .i64 0, .int .u8 0, .int .u8 0, .int .u8 0, .int .u8 0, .int .u8 0, .int .u8 0, .int .u8 0, .int .u8 0]) w1.heap.size 0 false 0 (fun _ => 0) from HY2.out.row 0 0 false (fun _ => 0))
            clear HS2 HY2 HS HG2
            generalize (w1.alloc (.cells #[.int .i64 0, .bool false, .int .i64 0, .int .u8 0, .int .u8 0, .int .u8 0, .int .u8 0, .int .u8 0, .int .u8 0, .int .u8 0, .int .u8 0] 24)).setRow w1.heap.size #[.int .i64 0, .bool false, .int .i64 0, .int .u8 0, .int .u8 0, .int .u8 0, .int .u8 0, .int .u8 0, .int .u8 0, .int .u8 0, .int .u8 0] = w3 at *
            generalize w1.heap.size = gf at *
            go_wp2_with fail
            go_roundw
            case rel => exact ⟨j + 1, k, x, ct, la, by omega, by omega, by go_num, by go_num, HS3, HX, HCt, HLa, by omega, by omega, by omega⟩
            case measure => first | (simp [intOf]; done) | (simp [intOf]; omega)
        · obtain rfl : x = (j : Int) := by omega
          have hj0 : (0 : Int) ≤ (j : Int) := Int.natCast_nonneg j
          have hz1 : 0 < j := by have := HX.out; have := Int.mul_pos (show (0 : Int) < (k : Int) + 1 by omega) (show 0 < PP by omega); omega
          have hz2 : (0 : Int) < (j : Int) := by omega
          have hr : (j : Int).tmod PP = 0 := by rw [Int.tmod_eq_emod_of_nonneg (by omega)]; exact mod_yes HX.out
          have hmy : mayP ct top = true := by rw [HCt.out]; exact ct_may HOV.out
          have hcn : 0 ≤ ct ∧ ct ≤ 240 := by rw [HCt.out]; exact ctE_nonneg HOV.out
          have HCN := Lib.hid hcn.1
          have hty := fun y (hy : PmAt w q c PP top ct (some (j : Int)) y) => ptick_yes w y q c PP top ct j j hy hmy (by omega) (by omega) (by omega) hP1 (by omega)
          rw [odue_at (by omega) hP1 (by omega)] at hty
          obtain ⟨NN, hNN⟩ : ∃ NN : Int, lenO top = NN := ⟨_, rfl⟩
          have hNN2 : (if top = 0 then (0 : Int) else 1) = NN := hNN
          rw [hNN2] at hty
          have HTY := Lib.hid hty
          have HHR := Lib.hid (fun y (he : EarAt y g top k 0 la) => hear_step g top k la ct NN y he HOV.out hmy hNN ⟨hcn.1, by omega⟩ (by omega) (HLa.out.elim (fun h => .inl (by omega)) (fun h => .inr ⟨by omega, h.2⟩)))
          obtain ⟨b1, hb1⟩ : ∃ r, ((k : Int) + 1).tmod BB = r := ⟨_, rfl⟩
          have hb3 : 0 ≤ b1 ∧ b1 < BB ∧ ((k : Int) + 1) % BB = b1 := by rw [← hb1, Int.tmod_eq_emod_of_nonneg (by omega)]; exact ⟨Int.emod_nonneg _ tzB, Int.emod_lt_of_pos _ (by omega), rfl⟩
          have c13 : IntKind.i64.wrap b1 = b1 := IntWalk.i64_in _ (by omega)
          obtain ⟨b2, hb2⟩ : ∃ b, (b1 == 0) = b := ⟨_, rfl⟩
          have HON := Lib.hid (show A1 = 0 → onE top (k + 1) ct BB = b2 from fun h => by
            rw [HCt.out, on_every HOV.out (by omega) hB1 (by omega) (by rw [HA3.out, h]), ← hb2, hb3.2.2]
            by_cases e : b1 = 0 <;> simp [e])
          have c14 : IntKind.i64.wrap ((k : Int) + 1) = (k : Int) + 1 := IntWalk.i64_in _ (by omega)
          have HX2 : Hid ((j : Int) + PP = (((k + 1 : Nat) : Int) + 1) * PP) := Lib.hid (by
            have := HX.out
            rw [show ((k + 1 : Nat) : Int) + 1 = ((k : Int) + 1) + 1 by omega, Int.add_mul ((k : Int) + 1) 1 PP, ← this, Int.one_mul])
          have HCt2 : Hid (bhE ct top = ctE ((k + 1 : Nat) : Int) top) := Lib.hid (by rw [HCt.out]; exact ct_next HOV.out (by omega))
          have HLa2 : Hid ((k + 1) = 0 ∨ (0 < k + 1 ∧ bhE ct top = bhE ct top ∧ 0 ≤ ct)) := Lib.hid (.inr ⟨by omega, rfl, hcn.1⟩)
          clear hmy hcn hty hNN hNN2 hb3 HA3
          go_upto_region 14 with (first
            | (go_at_call 15; refine (HTY.out _ HS.out.m).mono ?_; rintro e w1 ⟨rfl, hm1, ho1⟩; have hs1 := HS.out.oth hm1 ho1; clear hm1 ho1; have HS2 := Lib.hid (hs1.below ((Below.refl _ _).alloc (Nat.le_refl _) _ : Below w1.heap.size w1 (w1.alloc (.cells #[.int .i64 0, .bool false, .int .i64 0, .int .u8 0, .int .u8 0, .int .u8 0, .int .u8 0, .int .u8 0, .int .u8 0, .int .u8 0, .int .u8 0] 24)))); have HG2 := Lib.hid (show w.heap.size ≤ w1.heap.size from hs1.bel.size); have HY2 := Lib.hid (frame_new w1 0 0 false (fun _ => 0)); clear hs1)
            | (refine wpList_store_row rfl _ (.tmp 16) (.tmp 55) rfl w1.heap.size _ rfl rfl _ _ HY2.out info_frame rfl (one_frame 128 NN false (dOf [ct])) ?_))
          have HS3 := Lib.hid (HS2.out.rowf HY2.out HG2.out #[.int .i64 128, .bool false, .int .i64 NN, .int .u8 ct, .int .u8 0, .int .u8 0, .int .u8 0, .int .u8 0, .int .u8 0, .int .u8 0, .int .u8 0])
          have HY3 := Lib.hid (show FrAt ((w1.alloc (.cells #[.int .i64 0, .bool false, .int .i64 0, .int .u8 0, .int .u8 0, .int .u8 0, .int .u8 0, .int .u8 0, .int .u8 0, .int .u8 0, .int .u8 0] 24)).setRow w1.heap.size #[.int .i64 128, .bool false, .int .i64 NN, .int .u8 ct, .int .u8 0, .int .u8 0, .int .u8 0, .int .u8 0, .int .u8 0, .int .u8 0, .int .u8 0]) w1.heap.size 128 false NN (dOf [ct]) from HY2.out.row 128 NN false (dOf [ct]))
          clear HS2 HY2 HS HG2
          generalize (w1.alloc (.cells #[.int .i64 0, .bool false, .int .i64 0, .int .u8 0, .int .u8 0, .int .u8 0, .int .u8 0, .int .u8 0, .int .u8 0, .int .u8 0, .int .u8 0] 24)).setRow w1.heap.size #[.int .i64 128, .bool false, .int .i64 NN, .int .u8 ct, .int .u8 0, .int .u8 0, .int .u8 0, .int .u8 0, .int .u8 0, .int .u8 0, .int .u8 0] = w3 at *
          generalize w1.heap.size = gf at *
          obtain ⟨y0, y1, y2, y3, y4, y5, y6, y7, y8, y9, y10⟩ : w3.cell? ⟨gf, 0, none⟩ = some (.int .i64 128) ∧ w3.cell? ⟨gf, 1, none⟩ = some (.bool false) ∧ w3.cell? ⟨gf, 2, none⟩ = some (.int .i64 NN) ∧ w3.cell? ⟨gf, 3, none⟩ = some (.int .u8 ct) ∧ w3.cell? ⟨gf, 4, none⟩ = some (.int .u8 0) ∧ w3.cell? ⟨gf, 5, none⟩ = some (.int .u8 0) ∧ w3.cell? ⟨gf, 6, none⟩ = some (.int .u8 0) ∧ w3.cell? ⟨gf, 7, none⟩ = some (.int .u8 0) ∧ w3.cell? ⟨gf, 8, none⟩ = some (.int .u8 0) ∧ w3.cell? ⟨gf, 9, none⟩ = some (.int .u8 0) ∧ w3.cell? ⟨gf, 10, none⟩ = some (.int .u8 0) := HY3.out.cells
          go_upto_region 20 with (first
            | (go_at_call 17; refine (HHR.out _ HS3.out.e).mono ?_; rintro e w4 ⟨rfl, he4, ho4, hb4⟩; have HS4 := Lib.hid (HS3.out.ear he4 ho4 hb4); clear he4 ho4 hb4 y0 y1 y2 y3 y4 y5 y6 y7 y8 y9 y10)
            | (go_at_call 19; refine (gaps_any g top (k + 1) 0 ct _ HS4.out.e).mono ?_; rintro e w5 ⟨rfl, rfl⟩)
            | (go_at_call 18; refine (heard_any g top (k + 1) 0 ct _ HS4.out.e).mono ?_; rintro e w5 ⟨rfl, rfl⟩))
          refine wp_region_last (fun _ => True) 13 (by kernel_rfl) trivial (fun hHeld => ?_)
          have HS5 := Lib.hid (HS4.out.below (kD w4))
          clear HS4 HS3
          generalize w4.drew = w5 at *
          refine HAA.out _ (fun hA => ?_) (fun hA => ?_)
          · subst hA
            clear HAA
            refine wpAnyL_take (i := 0) (v := ?_) rfl (by kernel_rfl) (by kernel_rfl) (by kernel_rfl) (by kernel_rfl) (by kernel_rfl) (fun _ _ _ h => h) (Or.inl ⟨by rfl, ?_⟩) (by assumption) ?_
            rotate_left
            · intro wq hSw; (try dsimp only at hSw); first | (go_simp; done) | (go_simp; with_reducible rfl) | with_reducible rfl
            try simp only [Act.put, List.setIfInBounds_toArray, List.set_cons_zero, List.set_cons_succ, List.getElem_toArray, List.getElem_cons_zero, List.getElem_cons_succ]
            refine wpAnyL_take (i := 1) (v := ?_) rfl (by kernel_rfl) (by kernel_rfl) (by kernel_rfl) (by kernel_rfl) (by kernel_rfl) (fun _ _ _ h => h) (Or.inl ⟨by rfl, ?_⟩) (by assumption) ?_
            rotate_left
            · intro wq hSw; (try dsimp only at hSw); first | (go_simp; done) | (go_simp; with_reducible rfl) | with_reducible rfl
            try simp only [Act.put, List.setIfInBounds_toArray, List.set_cons_zero, List.set_cons_succ, List.getElem_toArray, List.getElem_cons_zero, List.getElem_cons_succ]
            refine wpAnyL_take (i := 2) (v := .int .i64 0) rfl (by kernel_rfl) (by kernel_rfl) (by kernel_rfl) (by kernel_rfl) (by kernel_rfl) (fun _ _ _ h => h) (Or.inl ⟨by rfl, ?_⟩) (by assumption) ?_
            · intro wq hSw; (try dsimp only at hSw); first | (go_simp; done) | (go_simp; with_reducible rfl) | with_reducible rfl
            try simp only [Act.put, List.setIfInBounds_toArray, List.set_cons_zero, List.set_cons_succ, List.getElem_toArray, List.getElem_cons_zero, List.getElem_cons_succ]
            refine wpAnyL_take (i := 3) (v := .bool true) rfl (by kernel_rfl) (by kernel_rfl) (by kernel_rfl) (by kernel_rfl) (by kernel_rfl) (fun _ _ _ h => h) (Or.inl ⟨by rfl, ?_⟩) (by assumption) ?_
            · intro wq hSw; (try dsimp only at hSw); first | (go_simp; done) | (go_simp; with_reducible rfl) | with_reducible rfl
            try simp only [Act.put, List.setIfInBounds_toArray, List.set_cons_zero, List.set_cons_succ, List.getElem_toArray, List.getElem_cons_zero, List.getElem_cons_succ]
            refine wpAnyL_take (i := 4) (v := .bool true) rfl (by kernel_rfl) (by kernel_rfl) (by kernel_rfl) (by kernel_rfl) (by kernel_rfl) (fun _ _ _ h => h) (Or.inl ⟨by rfl, ?_⟩) (by assumption) ?_
            · intro wq hSw; (try dsimp only at hSw); first | (go_simp; done) | (go_simp; with_reducible rfl) | with_reducible rfl
            try simp only [Act.put, List.setIfInBounds_toArray, List.set_cons_zero, List.set_cons_succ, List.getElem_toArray, List.getElem_cons_zero, List.getElem_cons_succ]
            refine wpAnyL_take (i := 5) (v := ?_) rfl (by kernel_rfl) (by kernel_rfl) (by kernel_rfl) (by kernel_rfl) (by kernel_rfl) (fun _ _ _ h => h) (Or.inl ⟨by rfl, ?_⟩) (by assumption) ?_
            rotate_left
            · intro wq hSw; (try dsimp only at hSw); first | (go_simp; done) | (go_simp; with_reducible rfl) | with_reducible rfl
            try simp only [Act.put, List.setIfInBounds_toArray, List.set_cons_zero, List.set_cons_succ, List.getElem_toArray, List.getElem_cons_zero, List.getElem_cons_succ]
            refine wpAnyL_take (i := 6) (v := ?_) rfl (by kernel_rfl) (by kernel_rfl) (by kernel_rfl) (by kernel_rfl) (by kernel_rfl) (fun _ _ _ h => h) (Or.inl ⟨by rfl, ?_⟩) (by assumption) ?_
            rotate_left
            · intro wq hSw; (try dsimp only at hSw); first | (go_simp; done) | (go_simp; with_reducible rfl) | with_reducible rfl
            try simp only [Act.put, List.setIfInBounds_toArray, List.set_cons_zero, List.set_cons_succ, List.getElem_toArray, List.getElem_cons_zero, List.getElem_cons_succ]
            refine wpAnyL_take (i := 8) (v := ?_) rfl (by kernel_rfl) (by kernel_rfl) (by kernel_rfl) (by kernel_rfl) (by kernel_rfl) (fun _ _ _ h => h) (Or.inl ⟨by rfl, ?_⟩) (by assumption) ?_
            rotate_left
            · intro wq hSw; (try dsimp only at hSw); first | (go_simp; done) | (go_simp; with_reducible rfl) | with_reducible rfl
            try simp only [Act.put, List.setIfInBounds_toArray, List.set_cons_zero, List.set_cons_succ, List.getElem_toArray, List.getElem_cons_zero, List.getElem_cons_succ]
            refine wpAnyL_take (i := 9) (v := ?_) rfl (by kernel_rfl) (by kernel_rfl) (by kernel_rfl) (by kernel_rfl) (by kernel_rfl) (fun _ _ _ h => h) (Or.inl ⟨by rfl, ?_⟩) (by assumption) ?_
            rotate_left
            · intro wq hSw; (try dsimp only at hSw); first | (go_simp; done) | (go_simp; with_reducible rfl) | with_reducible rfl
            try simp only [Act.put, List.setIfInBounds_toArray, List.set_cons_zero, List.set_cons_succ, List.getElem_toArray, List.getElem_cons_zero, List.getElem_cons_succ]
            refine wpAnyL_take (i := 10) (v := .int .i64 b1) rfl (by kernel_rfl) (by kernel_rfl) (by kernel_rfl) (by kernel_rfl) (by kernel_rfl) (fun _ _ _ h => h) (Or.inl ⟨by rfl, ?_⟩) (by assumption) ?_
            · intro wq hSw; (try dsimp only at hSw); first | (go_simp; done) | (go_simp; with_reducible rfl) | with_reducible rfl
            try simp only [Act.put, List.setIfInBounds_toArray, List.set_cons_zero, List.set_cons_succ, List.getElem_toArray, List.getElem_cons_zero, List.getElem_cons_succ]
            refine wpAnyL_take (i := 11) (v := .bool b2) rfl (by kernel_rfl) (by kernel_rfl) (by kernel_rfl) (by kernel_rfl) (by kernel_rfl) (fun _ _ _ h => h) (Or.inl ⟨by rfl, ?_⟩) (by assumption) ?_
            · intro wq hSw; (try dsimp only at hSw); first | (go_simp; done) | (go_simp; with_reducible rfl) | with_reducible rfl
            try simp only [Act.put, List.setIfInBounds_toArray, List.set_cons_zero, List.set_cons_succ, List.getElem_toArray, List.getElem_cons_zero, List.getElem_cons_succ]
            refine wpAnyL_ready (rs := [7]) (by kernel_rfl) (by simp) ?_
            refine (AllReadyL.cons rfl (fun K hK => ?_) AllReadyL.nil)
            go_simp
            go_wp2_with fail
            refine (on_any g top (k + 1) 0 ct BB _ HS5.out.e (by omega) HCN.out).mono ?_
            rw [HON.out (by first | rfl | trivial)]
            rintro e w6 ⟨rfl, rfl⟩
            refine hK.out _ _ ?_ (fun hHeld => ?_)
            · exact trivial
            clear hK K
            refine wpAnyL_take (i := 12) (v := .bool false) rfl (by kernel_rfl) (by kernel_rfl) (by kernel_rfl) (by kernel_rfl) (by kernel_rfl) (fun _ _ _ h => h) (Or.inl ⟨by rfl, ?_⟩) (by assumption) ?_
            · intro wq hSw; (try dsimp only at hSw); first | (go_simp; done) | (go_simp; with_reducible rfl) | with_reducible rfl
            try simp only [Act.put, List.setIfInBounds_toArray, List.set_cons_zero, List.set_cons_succ, List.getElem_toArray, List.getElem_cons_zero, List.getElem_cons_succ]
            refine wpAnyL_ready (rs := [13]) (by kernel_rfl) (by simp) ?_
            refine AllReadyL.last rfl (fun K hK => ?_)
            go_simp
            refine hK.out _ _ ?_
            clear hK K
            refine wpAnyL_done (by kernel_rfl) ?_ _
            clear hHeld
            go_simp
            go_wp2_with fail
            go_roundw
            case rel => exact ⟨j + 1, (k + 1), ((j : Int) + PP), (bhE ct top), ct, by omega, by omega, by go_num, by go_num, Lib.hid (by rw [show (((k + 1 : Nat)) : Int) = (k : Int) + 1 by omega]; exact HS5.out), HX2, HCt2, Lib.hid (.inr ⟨by omega, rfl, HCN.out⟩), by omega, by omega, by omega⟩
            case measure => first | (simp [intOf]; done) | (simp [intOf]; omega)
          · clear HAA HON
            refine wpAnyL_take (i := 0) (v := ?_) rfl (by kernel_rfl) (by kernel_rfl) (by kernel_rfl) (by kernel_rfl) (by kernel_rfl) (fun _ _ _ h => h) (Or.inl ⟨by rfl, ?_⟩) (by assumption) ?_
            rotate_left
            · intro wq hSw; (try dsimp only at hSw); first | (go_simp; done) | (go_simp; with_reducible rfl) | with_reducible rfl
            try simp only [Act.put, List.setIfInBounds_toArray, List.set_cons_zero, List.set_cons_succ, List.getElem_toArray, List.getElem_cons_zero, List.getElem_cons_succ]
            refine wpAnyL_take (i := 1) (v := ?_) rfl (by kernel_rfl) (by kernel_rfl) (by kernel_rfl) (by kernel_rfl) (by kernel_rfl) (fun _ _ _ h => h) (Or.inl ⟨by rfl, ?_⟩) (by assumption) ?_
            rotate_left
            · intro wq hSw; (try dsimp only at hSw); first | (go_simp; done) | (go_simp; with_reducible rfl) | with_reducible rfl
            try simp only [Act.put, List.setIfInBounds_toArray, List.set_cons_zero, List.set_cons_succ, List.getElem_toArray, List.getElem_cons_zero, List.getElem_cons_succ]
            refine wpAnyL_take (i := 2) (v := .int .i64 A1) rfl (by kernel_rfl) (by kernel_rfl) (by kernel_rfl) (by kernel_rfl) (by kernel_rfl) (fun _ _ _ h => h) (Or.inl ⟨by rfl, ?_⟩) (by assumption) ?_
            · intro wq hSw; (try dsimp only at hSw); first | (go_simp; done) | (go_simp; with_reducible rfl) | with_reducible rfl
            try simp only [Act.put, List.setIfInBounds_toArray, List.set_cons_zero, List.set_cons_succ, List.getElem_toArray, List.getElem_cons_zero, List.getElem_cons_succ]
            refine wpAnyL_take (i := 3) (v := .bool false) rfl (by kernel_rfl) (by kernel_rfl) (by kernel_rfl) (by kernel_rfl) (by kernel_rfl) (fun _ _ _ h => h) (Or.inl ⟨by rfl, ?_⟩) (by assumption) ?_
            · intro wq hSw; (try dsimp only at hSw); first | (go_simp; done) | (go_simp; with_reducible rfl) | with_reducible rfl
            try simp only [Act.put, List.setIfInBounds_toArray, List.set_cons_zero, List.set_cons_succ, List.getElem_toArray, List.getElem_cons_zero, List.getElem_cons_succ]
            refine wpAnyL_take (i := 4) (v := .bool false) rfl (by kernel_rfl) (by kernel_rfl) (by kernel_rfl) (by kernel_rfl) (by kernel_rfl) (fun _ _ _ h => h) (Or.inl ⟨by rfl, ?_⟩) (by assumption) ?_
            · intro wq hSw; (try dsimp only at hSw); first | (go_simp; done) | (go_simp; with_reducible rfl) | with_reducible rfl
            try simp only [Act.put, List.setIfInBounds_toArray, List.set_cons_zero, List.set_cons_succ, List.getElem_toArray, List.getElem_cons_zero, List.getElem_cons_succ]
            refine wpAnyL_take (i := 5) (v := undef) rfl (by kernel_rfl) (by kernel_rfl) (by kernel_rfl) (by kernel_rfl) (by kernel_rfl) (fun _ _ _ h => h) (Or.inr ⟨by rfl, rfl⟩) (by assumption) ?_
            try simp only [Act.put, List.setIfInBounds_toArray, List.set_cons_zero, List.set_cons_succ, List.getElem_toArray, List.getElem_cons_zero, List.getElem_cons_succ]
            refine wpAnyL_take (i := 6) (v := undef) rfl (by kernel_rfl) (by kernel_rfl) (by kernel_rfl) (by kernel_rfl) (by kernel_rfl) (fun _ _ _ h => h) (Or.inr ⟨by rfl, rfl⟩) (by assumption) ?_
            try simp only [Act.put, List.setIfInBounds_toArray, List.set_cons_zero, List.set_cons_succ, List.getElem_toArray, List.getElem_cons_zero, List.getElem_cons_succ]
            refine wpAnyL_take (i := 7) (v := undef) rfl (by kernel_rfl) (by kernel_rfl) (by kernel_rfl) (by kernel_rfl) (by kernel_rfl) (fun _ _ _ h => h) (Or.inr ⟨by rfl, rfl⟩) (by assumption) ?_
            try simp only [Act.put, List.setIfInBounds_toArray, List.set_cons_zero, List.set_cons_succ, List.getElem_toArray, List.getElem_cons_zero, List.getElem_cons_succ]
            refine wpAnyL_take (i := 8) (v := undef) rfl (by kernel_rfl) (by kernel_rfl) (by kernel_rfl) (by kernel_rfl) (by kernel_rfl) (fun _ _ _ h => h) (Or.inr ⟨by rfl, rfl⟩) (by assumption) ?_
            try simp only [Act.put, List.setIfInBounds_toArray, List.set_cons_zero, List.set_cons_succ, List.getElem_toArray, List.getElem_cons_zero, List.getElem_cons_succ]
            refine wpAnyL_take (i := 9) (v := undef) rfl (by kernel_rfl) (by kernel_rfl) (by kernel_rfl) (by kernel_rfl) (by kernel_rfl) (fun _ _ _ h => h) (Or.inr ⟨by rfl, rfl⟩) (by assumption) ?_
            try simp only [Act.put, List.setIfInBounds_toArray, List.set_cons_zero, List.set_cons_succ, List.getElem_toArray, List.getElem_cons_zero, List.getElem_cons_succ]
            refine wpAnyL_take (i := 10) (v := undef) rfl (by kernel_rfl) (by kernel_rfl) (by kernel_rfl) (by kernel_rfl) (by kernel_rfl) (fun _ _ _ h => h) (Or.inr ⟨by rfl, rfl⟩) (by assumption) ?_
            try simp only [Act.put, List.setIfInBounds_toArray, List.set_cons_zero, List.set_cons_succ, List.getElem_toArray, List.getElem_cons_zero, List.getElem_cons_succ]
            refine wpAnyL_take (i := 11) (v := undef) rfl (by kernel_rfl) (by kernel_rfl) (by kernel_rfl) (by kernel_rfl) (by kernel_rfl) (fun _ _ _ h => h) (Or.inr ⟨by rfl, rfl⟩) (by assumption) ?_
            try simp only [Act.put, List.setIfInBounds_toArray, List.set_cons_zero, List.set_cons_succ, List.getElem_toArray, List.getElem_cons_zero, List.getElem_cons_succ]
            refine wpAnyL_take (i := 12) (v := undef) rfl (by kernel_rfl) (by kernel_rfl) (by kernel_rfl) (by kernel_rfl) (by kernel_rfl) (fun _ _ _ h => h) (Or.inr ⟨by rfl, rfl⟩) (by assumption) ?_
            try simp only [Act.put, List.setIfInBounds_toArray, List.set_cons_zero, List.set_cons_succ, List.getElem_toArray, List.getElem_cons_zero, List.getElem_cons_succ]
            refine wpAnyL_ready (rs := [13]) (by kernel_rfl) (by simp) ?_
            refine AllReadyL.last rfl (fun K hK => ?_)
            go_simp
            refine hK.out _ _ ?_
            clear hK K
            refine wpAnyL_done (by kernel_rfl) ?_ _
            clear hHeld
            go_simp
            go_wp2_with fail
            go_roundw
            case rel => exact ⟨j + 1, (k + 1), ((j : Int) + PP), (bhE ct top), ct, by omega, by omega, by go_num, by go_num, Lib.hid (by rw [show (((k + 1 : Nat)) : Int) = (k : Int) + 1 by omega]; exact HS5.out), HX2, HCt2, Lib.hid (.inr ⟨by omega, rfl, HCN.out⟩), by omega, by omega, by omega⟩
            case measure => first | (simp [intOf]; done) | (simp [intOf]; omega)
      · have HB := Lib.hid HS.out.bel
        clear HS HX HCt HLa HAA HA3
        go_wp2_with (go_at_call 9; refine (live23_any _).mono ?_; rintro e w6 ⟨rfl, hb6⟩)
        go_ret
        exact ⟨rfl, HB.out.trans (hb6.mono HB.out.size)⟩
end Go.Proofs.Ythofimkjemhnoaa
