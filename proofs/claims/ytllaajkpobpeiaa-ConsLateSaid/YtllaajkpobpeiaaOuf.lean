/- cons: the walk of ConsLate. -/
import Derived.Test.YtllaajkpobpeiaaOue
import Derived.Deep.LoopGhost
namespace Go.Proofs.Ytllaajkpobpeiaa
open Go.RowKit
set_option linter.unusedSimpArgs false
set_option linter.unusedVariables false

theorem rcl_time4 {A B W F n : Int} (h0 : 0 ≤ W) (h : W + A < n) : rcE A B W F n = 4 := by
  unfold rcE
  rw [if_neg (show ¬ W < 0 by omega), if_pos (show W < n - A by omega)]
theorem rcl_zero {A B W F n : Int} (h0 : 0 ≤ W) (h : n ≤ W + A) (h2 : F < 0 ∨ n ≤ F + B) : rcE A B W F n = 0 := by
  unfold rcE
  rw [if_neg (show ¬ W < 0 by omega), if_neg (show ¬ W < n - A by omega), if_neg (show ¬ (0 ≤ F ∧ F < n - B) by omega)]
theorem rcl_gap5 {A B W F n : Int} (h0 : 0 ≤ W) (h : n ≤ W + A) (hF : 0 ≤ F) (h2 : F + B < n) : rcE A B W F n = 5 := by
  unfold rcE
  rw [if_neg (show ¬ W < 0 by omega), if_neg (show ¬ W < n - A by omega), if_pos (show 0 ≤ F ∧ F < n - B by omega)]
/-- What it waits behind, and since when, at a tick. -/
def PfL (v at_ : Int) (cm : Bool) (p : Option (List Int)) (F now : Int) : Prop := (p = none ∧ F = -1 ∧ (cm = true → now ≤ at_)) ∨ (p = some [v] ∧ F = at_ ∧ cm = true ∧ at_ < now)
/-- At work, behind Begin. -/
def LtA (B : Nat) (y : World) (t : Nat) (TT GG v W at_ : Int) (cm : Bool) (now : Int) : Prop := ∃ k ck gd p F, TkW y t k ck gd 1 (tabC TT GG) p [] W F ∧ (B ≤ ck ∧ B ≤ gd) ∧ PfL v at_ cm p F now
/-- Ahead of Begin. -/
def LtS (B : Nat) (y : World) (t : Nat) (TT GG v W at_ : Int) (cm : Bool) (now : Int) : Prop := (now = W ∧ TkR y t 0) ∨ (W < now ∧ LtA B y t TT GG v W at_ cm now)
section
variable {w y : World} {t tb : Nat} {TT GG v W at_ now : Int} {cm : Bool}
theorem late_begin (h : LtS w.heap.size y t TT GG v W at_ cm now) (hb : Below w.heap.size w y) (htl : w.heap.size ≤ t) (hch : ChAt y tb (tabC TT GG)) (hT : 1 ≤ TT ∧ TT ≤ 65535) (hG : 1 ≤ GG ∧ GG ≤ 65535) (hW : 0 ≤ W) (hat : W ≤ at_) (hn : 0 ≤ now ∧ now ≤ 2147483647) (h1 : now ≤ W + TT) (h2 : cm = true → now ≤ at_ + GG) :
    Calls Try.prog 30 #[.pointer (some ⟨t, 0, none⟩), .int .i64 now, .bool true, .agg (chA (tabC TT GG))] y fun e w' => e = .returned (.int .i64 0) ∧ LtA w.heap.size w' t TT GG v W at_ cm now ∧ ChAt w' tb (tabC TT GG) ∧ Below w.heap.size w w' := by
  rcases h with ⟨rfl, hr⟩ | ⟨hlt, k, ck, gd, p, F, hw, hcg, hp⟩
  · refine (bg_new now _ hr (tabC_takes hT hG) hn).mono ?_
    rintro e w' ⟨k, ck, gd, hcg, rfl, hw, ho⟩
    rw [tabC_size] at hw
    exact ⟨rfl, ⟨k, ck, gd, none, -1, hw, ⟨Nat.le_trans hb.size hcg.1, Nat.le_trans hb.size hcg.2⟩, .inl ⟨rfl, rfl, fun _ => hat⟩⟩, (ho.oth _ (Array.getElem?_eq_some_iff.1 hch).1 (ne_ty hch hr (by decide))).trans hch, hb.trans (ho.from_ htl)⟩
  · refine (same_no now (tabC TT GG) hw (chB_iff.2 rfl) (tabC_takes hT hG) hn (rcl_zero hW h1 ?_)).mono ?_
    · rcases hp with ⟨_, rfl, _⟩ | ⟨_, rfl, hc, _⟩
      · exact .inl (by omega)
      · exact .inr (h2 hc)
    · rintro e w' ⟨rfl, hw', ho⟩
      exact ⟨rfl, ⟨k, ck, gd, p, F, hw', hcg, hp⟩, (ho.oth _ (Array.getElem?_eq_some_iff.1 hch).1 (ne_ty hch hw.tb (by decide))).trans hch, hb.trans (ho.from_ htl)⟩
theorem late_end {c : Int} (h : LtS w.heap.size y t TT GG v W at_ cm now) (hb : Below w.heap.size w y) (htl : w.heap.size ≤ t) (hT : 1 ≤ TT ∧ TT ≤ 65535) (hG : 1 ≤ GG ∧ GG ≤ 65535) (hW : 0 ≤ W) (hat : W ≤ at_) (hn : 0 ≤ now ∧ now ≤ 2147483647) (hc : (c = 4 ∧ now = W + TT + 1) ∨ (c = 5 ∧ cm = true ∧ now = at_ + GG + 1 ∧ now ≤ W + TT)) :
    Calls Try.prog 30 #[.pointer (some ⟨t, 0, none⟩), .int .i64 now, .bool true, .agg (chA (tabC TT GG))] y fun e w' => e = .returned (.int .i64 c) ∧ TkR w' t c ∧ Below w.heap.size w w' := by
  rcases h with ⟨rfl, hr⟩ | ⟨hlt, k, ck, gd, p, F, hw, hcg, hp⟩
  · exfalso; omega
  · have hz : rcE (tabC TT GG).time (tabC TT GG).gap W F now = c := by
      rcases hc with ⟨rfl, h⟩ | ⟨rfl, h, h', h''⟩
      · exact rcl_time4 hW (by show W + TT < now; omega)
      · rcases hp with ⟨_, rfl, h3⟩ | ⟨_, rfl, _, _⟩
        · have := h3 h; exfalso; omega
        · exact rcl_gap5 hW h'' (by omega) (by show F + GG < now; omega)
    refine (same_yes now (tabC TT GG) hw (chB_iff.2 rfl) (tabC_takes hT hG) hn hz (by omega)).mono ?_
    rintro e w' ⟨rfl, hr, ho⟩
    exact ⟨rfl, hr, hb.trans (ho.from_ htl)⟩
theorem late_works (h : LtA w.heap.size y t TT GG v W at_ cm now) : Calls Try.prog 36 #[.pointer (some ⟨t, 0, none⟩)] y fun e w' => e = .returned (.bool true) ∧ y = w' := by
  obtain ⟨k, ck, gd, p, F, hw, _⟩ := h
  exact works_yes hw
theorem late_quiet (h : LtA w.heap.size y t TT GG v W at_ cm now) (hn : W ≤ now) (hq : ¬ (cm = true ∧ now = at_)) : LtS w.heap.size y t TT GG v W at_ cm (now + 1) := by
  obtain ⟨k, ck, gd, p, F, hw, hcg, hp⟩ := h
  refine .inr ⟨by omega, k, ck, gd, p, F, hw, hcg, ?_⟩
  rcases hp with ⟨h1, h2, h3⟩ | ⟨h1, h2, h3, h4⟩
  · refine .inl ⟨h1, h2, fun hc => ?_⟩
    have := h3 hc
    have : ¬ now = at_ := fun e => hq ⟨hc, e⟩
    omega
  · exact .inr ⟨h1, h2, h3, by omega⟩
theorem late_hear (h : LtA w.heap.size y t TT GG v W at_ true at_) (hb : Below w.heap.size w y) (htl : w.heap.size ≤ t) (hch : ChAt y tb (tabC TT GG)) (hW : 0 ≤ W) (hat : W ≤ at_) (hn : 0 ≤ at_ ∧ at_ ≤ 2147483647) (hv : 0 ≤ v ∧ v ≤ 255) :
    Calls Try.prog 32 #[.pointer (some ⟨t, 0, none⟩), .int .i64 at_, .agg #[.int .i64 257, .bool false, .int .i64 1, .int .u8 v, .int .u8 0, .int .u8 0, .int .u8 0, .int .u8 0, .int .u8 0, .int .u8 0, .int .u8 0]] y fun e w' => e = .returned (.tuple #[.slice none 0 0, .int .i64 0]) ∧ LtS w.heap.size w' t TT GG v W at_ true (at_ + 1) ∧ ChAt w' tb (tabC TT GG) ∧ Below w.heap.size w w' := by
  obtain ⟨k, ck, gd, p, F, hw, hcg, hp⟩ := h
  rcases hp with ⟨rfl, rfl, h3⟩ | ⟨h1, h2, h3, h4⟩
  · refine (hear1_first at_ v hw hv hn (.inl hW)).mono ?_
    rintro e w' ⟨rfl, hw', ho⟩
    rw [show hfF W (-1) at_ = at_ from if_pos hW] at hw'
    exact ⟨rfl, .inr ⟨by omega, k, ck, gd, some [v], at_, hw', hcg, .inr ⟨rfl, rfl, rfl, by omega⟩⟩, hw.chan ho hch, hb.trans (ho.bel _ htl hcg.1 hcg.2 hb.size)⟩
  · exfalso; omega
end
set_option maxRecDepth 100000 in
set_option maxHeartbeats 8000000 in
theorem clate_walk (time gap W first : Int) (cm : Bool) (v : Int) (w : World) (h1 : 0 ≤ time ∧ time ≤ 255) (h2 : 0 ≤ gap ∧ gap ≤ 255) (h3 : 0 ≤ W ∧ W ≤ 65535) (h4 : 0 ≤ first ∧ first ≤ 255) (hv : 0 ≤ v ∧ v ≤ 255) :
    Calls Try.prog 7 #[.int .u8 time, .int .u8 gap, .int .u16 W, .int .u8 first, .bool cm, .int .u8 v] w fun e w' => e = .returned (.bool true) ∧ Below w.heap.size w w' := by
  have c1 : IntKind.i64.wrap time = time := IntWalk.i64_in _ (by omega)
  have c2 : IntKind.i64.wrap gap = gap := IntWalk.i64_in _ (by omega)
  have c3 : IntKind.i64.wrap W = W := IntWalk.i64_in _ (by omega)
  have c4 : IntKind.i64.wrap first = first := IntWalk.i64_in _ (by omega)
  obtain ⟨t1, ht1⟩ : ∃ t, time.tmod 100 = t := ⟨_, rfl⟩
  have hb1 : 0 ≤ t1 ∧ t1 ≤ 99 := by rw [← ht1, Int.tmod_eq_emod_of_nonneg h1.1]; omega
  have c5 : IntKind.i64.wrap t1 = t1 := IntWalk.i64_in _ (by omega)
  obtain ⟨AA, hAA⟩ : ∃ t, 1 + t1 = t := ⟨_, rfl⟩
  have c6 : IntKind.i64.wrap (1 + t1) = AA := by rw [hAA]; exact IntWalk.i64_in _ (by omega)
  obtain ⟨t2, ht2⟩ : ∃ t, gap.tmod 100 = t := ⟨_, rfl⟩
  have hb2 : 0 ≤ t2 ∧ t2 ≤ 99 := by rw [← ht2, Int.tmod_eq_emod_of_nonneg h2.1]; omega
  have c7 : IntKind.i64.wrap t2 = t2 := IntWalk.i64_in _ (by omega)
  obtain ⟨BB, hBB⟩ : ∃ t, 1 + t2 = t := ⟨_, rfl⟩
  have c8 : IntKind.i64.wrap (1 + t2) = BB := by rw [hBB]; exact IntWalk.i64_in _ (by omega)
  have hA1 : 1 ≤ AA := by omega
  have hA2 : AA ≤ 100 := by omega
  have hB1 : 1 ≤ BB := by omega
  have hB2 : BB ≤ 100 := by omega
  have hW0 : 0 ≤ W := h3.1
  have hW9 : W ≤ 65535 := h3.2
  obtain ⟨t3, ht3⟩ : ∃ t, first.tmod (AA + 1) = t := ⟨_, rfl⟩
  have hb3 : 0 ≤ t3 ∧ t3 ≤ AA := by
    rw [← ht3, Int.tmod_eq_emod_of_nonneg h4.1]
    have q1 := Int.emod_nonneg first (show AA + 1 ≠ 0 by omega)
    have q2 := Int.emod_lt_of_pos first (show 0 < AA + 1 by omega)
    omega
  have c9 : IntKind.i64.wrap (AA + 1) = AA + 1 := IntWalk.i64_in _ (by omega)
  have c10 : IntKind.i64.wrap t3 = t3 := IntWalk.i64_in _ (by omega)
  have tz : ¬ AA + 1 = 0 := by omega
  obtain ⟨AT, hAT⟩ : ∃ t, W + t3 = t := ⟨_, rfl⟩
  have c11 : IntKind.i64.wrap (W + t3) = AT := by rw [hAT]; exact IntWalk.i64_in _ (by omega)
  have hAT0 : W ≤ AT := by omega
  have hAT9 : AT ≤ W + AA := by omega
  have c12 : IntKind.i64.wrap (AT + BB) = AT + BB := IntWalk.i64_in _ (by omega)
  have c13 : IntKind.i64.wrap (AT + BB + 1) = AT + BB + 1 := IntWalk.i64_in _ (by omega)
  have c14 : IntKind.i64.wrap (W + AA) = W + AA := IntWalk.i64_in _ (by omega)
  have c15 : IntKind.i64.wrap (W + AA + 1) = W + AA + 1 := IntWalk.i64_in _ (by omega)
  clear h1 h2 h3 h4 hb1 hb2 hb3 hAA hBB hAT
  have HTA := Lib.hid (tableC_any AA BB w)
  have HIC : Hid ((Try.prog.info? 29).map (·.size) = some (chA (tabC AA BB)).size) := Lib.hid info_chan
  have H1X := Lib.hid (chA_one (tabC AA BB))
  have HE0 : Hid ((chA c0X).size = (chA (tabC AA BB)).size) := Lib.hid rfl
  have HV := Lib.hid hv
  have HLV := Lib.hid (fun w => live30_any w)
  clear hv
  go_enter Try.func7, Try.ntmps7
  go_upto_region 2 with (first
    | (go_at_call 39; refine (HTA.out).mono ?_; rintro e w1 ⟨rfl, b1⟩; have HB1 := Lib.hid b1; have HZ1 : Hid ((w1.alloc (.cells (chA c0X) 29)).heap[w1.heap.size]? = some (.cells (chA c0X) 29 (0, 0))) := Lib.hid (heap_alloc_new w1 _); clear b1)
    | (refine wpList_store_row rfl _ (.tmp 13) (.tmp 30) rfl w1.heap.size _ rfl rfl _ _ HZ1.out HIC.out HE0.out H1X.out ?_))
  have HY1 : Hid (ChAt ((w1.alloc (.cells (chA c0X) 29)).setRow w1.heap.size (chA (tabC AA BB))) w1.heap.size (tabC AA BB)) := Lib.hid (setRow_heap _ _ _ _ _ (0, 0) HZ1.out)
  have HB2 : Hid (Below w.heap.size w ((w1.alloc (.cells (chA c0X) 29)).setRow w1.heap.size (chA (tabC AA BB)))) := Lib.hid (below_setRow (HB1.out.alloc HB1.out.size _) HB1.out.size _)
  clear HZ1 HB1 HTA H1X HE0
  change Code.wp _ _ _ _ ((w1.alloc (.cells (chA c0X) 29)).setRow w1.heap.size (chA (tabC AA BB)))
  generalize (w1.alloc (.cells (chA c0X) 29)).setRow w1.heap.size (chA (tabC AA BB)) = w2 at *
  generalize w1.heap.size = tb at *
  go_upto_region 3 with (go_at_call 28; refine (cnewT w2).mono ?_; rintro e w3 ⟨t, ht, rfl, hr, b3⟩; have HT3 := Lib.hid hr; have HB3 := Lib.hid (kF b3 HB2.out); have HC3 := Lib.hid (HY1.out.below b3); have HTL := Lib.hid (Nat.le_trans HB2.out.size ht); clear hr b3 ht)
  clear HY1 HB2
  obtain ⟨a0, a1, a2, a3, a4, a5⟩ := HC3.out.cells
  have a1' : w3.cell? ⟨tb, 1, none⟩ = some (.int .i64 AA) := a1
  have a2' : w3.cell? ⟨tb, 2, none⟩ = some (.int .i64 BB) := a2
  clear a0 a1 a2 a3 a4 a5
  cases cm with
  | false =>
    go_wp2_with fail
    clear c1 c2 c3 c4 c5 c6 c7 c8 c9 c10 c11 c12 c13 c14 c15 ht1 ht2 ht3 tz a1' a2'
    go_loopw [18] (fun i wr => ∃ now : Int, W ≤ now ∧ now ≤ (W + AA + 1) ∧ i = .int .i64 now ∧ Hid (LtS w.heap.size wr t AA BB v W AT false now) ∧ Hid (ChAt wr tb (tabC AA BB)) ∧ Hid (Below w.heap.size w wr)) (fun i _ => ((W + AA + 1) + 1 - intOf i).toNat)
    case atStart => exact ⟨W, by omega, by omega, rfl, Lib.hid (.inl ⟨rfl, HT3.out⟩), HC3, HB3⟩
    case round =>
      clear HT3 HC3 HB3
      obtain ⟨now, hn0, hn1, rfl, HS, HC, HB⟩ := hrel
      have hnr : 0 ≤ now ∧ now ≤ 2147483647 := by omega
      by_cases hw : now = (W + AA + 1)
      · have HBE := Lib.hid (late_end (c := 4) HS.out HB.out HTL.out (by omega) (by omega) hW0 hAT0 hnr (.inl ⟨rfl, hw⟩))
        have q1 : (now == (W + AA + 1)) = true := by simpa using hw
        have q2 : now ≤ (W + AA + 1) := hn1
        clear hw
        go_wp2_with (first
          | (refine wpList_load_row rfl _ (.tmp 13) rfl tb rfl _ _ _ _ HC.out Try.underlying29 rfl HIC.out ?_)
          | (go_at_call 30; refine (HBE.out).mono ?_; rintro e w4 ⟨rfl, hr4, b4⟩; have HR4 := Lib.hid hr4; have HB4 := Lib.hid b4; clear hr4 b4)
          | (go_at_call 38; refine (HLV.out _).mono ?_; rintro e w5 ⟨rfl, b5⟩; have HR5 := Lib.hid (HR4.out.below b5); have HB5 := Lib.hid (kF b5 HB4.out); clear b5)
          | (go_at_call 37; refine (failed_rest HR5.out).mono ?_; rintro e wz ⟨rfl, rfl⟩)
          | (go_at_call 36; refine (works_rest HR5.out).mono ?_; rintro e wz ⟨rfl, rfl⟩))
        go_ret
        exact ⟨rfl, HB5.out⟩
      · have HBE := Lib.hid (late_begin HS.out HB.out HTL.out HC.out (by omega) (by omega) hW0 hAT0 hnr (by omega) (by simp))
        have q1 : (now == (W + AA + 1)) = false := by simpa using hw
        have e1 : IntKind.i64.wrap (now + 1) = now + 1 := IntWalk.i64_in _ (by omega)
        go_wp2_with (first
          | (refine wpList_load_row rfl _ (.tmp 13) rfl tb rfl _ _ _ _ HC.out Try.underlying29 rfl HIC.out ?_)
          | (go_at_call 30; refine (HBE.out).mono ?_; rintro e w4 ⟨rfl, ha4, hc4, b4⟩; have HA4 := Lib.hid ha4; have HC4 := Lib.hid hc4; have HB4 := Lib.hid b4; clear ha4 hc4 b4)
          | (go_at_call 36; refine (late_works HA4.out).mono ?_; rintro e wz ⟨rfl, rfl⟩))
        exact ⟨⟨now + 1, by omega, by omega, rfl, Lib.hid (late_quiet HA4.out hn0 (by simp)), HC4, HB4⟩, by simp [intOf]; omega⟩
  | true =>
    by_cases hz : AT + BB < W + AA
    · skip
      go_wp2_with fail
      clear c1 c2 c3 c4 c5 c6 c7 c8 c9 c10 c11 c12 c13 c14 c15 ht1 ht2 ht3 tz a1' a2'
      go_loopw [18] (fun i wr => ∃ now : Int, W ≤ now ∧ now ≤ (AT + BB + 1) ∧ i = .int .i64 now ∧ Hid (LtS w.heap.size wr t AA BB v W AT true now) ∧ Hid (ChAt wr tb (tabC AA BB)) ∧ Hid (Below w.heap.size w wr)) (fun i _ => ((AT + BB + 1) + 1 - intOf i).toNat)
      case atStart => exact ⟨W, by omega, by omega, rfl, Lib.hid (.inl ⟨rfl, HT3.out⟩), HC3, HB3⟩
      case round =>
        clear HT3 HC3 HB3
        obtain ⟨now, hn0, hn1, rfl, HS, HC, HB⟩ := hrel
        have hnr : 0 ≤ now ∧ now ≤ 2147483647 := by omega
        by_cases hw : now = (AT + BB + 1)
        · have HBE := Lib.hid (late_end (c := 5) HS.out HB.out HTL.out (by omega) (by omega) hW0 hAT0 hnr (.inr ⟨rfl, rfl, hw, by omega⟩))
          have q1 : (now == (AT + BB + 1)) = true := by simpa using hw
          have q2 : now ≤ (AT + BB + 1) := hn1
          clear hw
          go_wp2_with (first
            | (refine wpList_load_row rfl _ (.tmp 13) rfl tb rfl _ _ _ _ HC.out Try.underlying29 rfl HIC.out ?_)
            | (go_at_call 30; refine (HBE.out).mono ?_; rintro e w4 ⟨rfl, hr4, b4⟩; have HR4 := Lib.hid hr4; have HB4 := Lib.hid b4; clear hr4 b4)
            | (go_at_call 38; refine (HLV.out _).mono ?_; rintro e w5 ⟨rfl, b5⟩; have HR5 := Lib.hid (HR4.out.below b5); have HB5 := Lib.hid (kF b5 HB4.out); clear b5)
            | (go_at_call 37; refine (failed_rest HR5.out).mono ?_; rintro e wz ⟨rfl, rfl⟩)
            | (go_at_call 36; refine (works_rest HR5.out).mono ?_; rintro e wz ⟨rfl, rfl⟩))
          go_ret
          exact ⟨rfl, HB5.out⟩
        · have HBE := Lib.hid (late_begin HS.out HB.out HTL.out HC.out (by omega) (by omega) hW0 hAT0 hnr (by omega) (fun _ => by omega))
          have q1 : (now == (AT + BB + 1)) = false := by simpa using hw
          have e1 : IntKind.i64.wrap (now + 1) = now + 1 := IntWalk.i64_in _ (by omega)
          by_cases ha : now = AT
          · subst ha
            go_wp2_with (first
            | (refine wpList_load_row rfl _ (.tmp 13) rfl tb rfl _ _ _ _ HC.out Try.underlying29 rfl HIC.out ?_)
            | (go_at_call 30; refine (HBE.out).mono ?_; rintro e w4 ⟨rfl, ha4, hc4, b4⟩; have HA4 := Lib.hid ha4; have HC4 := Lib.hid hc4; have HB4 := Lib.hid b4; clear ha4 hc4 b4)
            | (go_at_call 36; refine (late_works HA4.out).mono ?_; rintro e wz ⟨rfl, rfl⟩)
            | (go_at_call 32; refine (late_hear HA4.out HB4.out HTL.out HC4.out hW0 hAT0 hnr HV.out).mono ?_; rintro e w5 ⟨rfl, hs5, hc5, b5⟩; have HS5 := Lib.hid hs5; have HC5 := Lib.hid hc5; have HB5 := Lib.hid b5; clear hs5 hc5 b5))
            exact ⟨⟨now + 1, by omega, by omega, rfl, HS5, HC5, HB5⟩, by simp [intOf]; omega⟩
          · have q3 : (now == AT) = false := by simpa using ha
            go_wp2_with (first
            | (refine wpList_load_row rfl _ (.tmp 13) rfl tb rfl _ _ _ _ HC.out Try.underlying29 rfl HIC.out ?_)
            | (go_at_call 30; refine (HBE.out).mono ?_; rintro e w4 ⟨rfl, ha4, hc4, b4⟩; have HA4 := Lib.hid ha4; have HC4 := Lib.hid hc4; have HB4 := Lib.hid b4; clear ha4 hc4 b4)
            | (go_at_call 36; refine (late_works HA4.out).mono ?_; rintro e wz ⟨rfl, rfl⟩))
            exact ⟨⟨now + 1, by omega, by omega, rfl, Lib.hid (late_quiet HA4.out hn0 (fun h => ha h.2)), HC4, HB4⟩, by simp [intOf]; omega⟩
    · have hz2 : ¬ AT + BB < W + AA := hz
      go_wp2_with fail
      clear c1 c2 c3 c4 c5 c6 c7 c8 c9 c10 c11 c12 c13 c14 c15 ht1 ht2 ht3 tz a1' a2'
      go_loopw [18] (fun i wr => ∃ now : Int, W ≤ now ∧ now ≤ (W + AA + 1) ∧ i = .int .i64 now ∧ Hid (LtS w.heap.size wr t AA BB v W AT true now) ∧ Hid (ChAt wr tb (tabC AA BB)) ∧ Hid (Below w.heap.size w wr)) (fun i _ => ((W + AA + 1) + 1 - intOf i).toNat)
      case atStart => exact ⟨W, by omega, by omega, rfl, Lib.hid (.inl ⟨rfl, HT3.out⟩), HC3, HB3⟩
      case round =>
        clear HT3 HC3 HB3
        obtain ⟨now, hn0, hn1, rfl, HS, HC, HB⟩ := hrel
        have hnr : 0 ≤ now ∧ now ≤ 2147483647 := by omega
        by_cases hw : now = (W + AA + 1)
        · have HBE := Lib.hid (late_end (c := 4) HS.out HB.out HTL.out (by omega) (by omega) hW0 hAT0 hnr (.inl ⟨rfl, hw⟩))
          have q1 : (now == (W + AA + 1)) = true := by simpa using hw
          have q2 : now ≤ (W + AA + 1) := hn1
          clear hw
          go_wp2_with (first
            | (refine wpList_load_row rfl _ (.tmp 13) rfl tb rfl _ _ _ _ HC.out Try.underlying29 rfl HIC.out ?_)
            | (go_at_call 30; refine (HBE.out).mono ?_; rintro e w4 ⟨rfl, hr4, b4⟩; have HR4 := Lib.hid hr4; have HB4 := Lib.hid b4; clear hr4 b4)
            | (go_at_call 38; refine (HLV.out _).mono ?_; rintro e w5 ⟨rfl, b5⟩; have HR5 := Lib.hid (HR4.out.below b5); have HB5 := Lib.hid (kF b5 HB4.out); clear b5)
            | (go_at_call 37; refine (failed_rest HR5.out).mono ?_; rintro e wz ⟨rfl, rfl⟩)
            | (go_at_call 36; refine (works_rest HR5.out).mono ?_; rintro e wz ⟨rfl, rfl⟩))
          go_ret
          exact ⟨rfl, HB5.out⟩
        · have HBE := Lib.hid (late_begin HS.out HB.out HTL.out HC.out (by omega) (by omega) hW0 hAT0 hnr (by omega) (fun _ => by omega))
          have q1 : (now == (W + AA + 1)) = false := by simpa using hw
          have e1 : IntKind.i64.wrap (now + 1) = now + 1 := IntWalk.i64_in _ (by omega)
          by_cases ha : now = AT
          · subst ha
            go_wp2_with (first
            | (refine wpList_load_row rfl _ (.tmp 13) rfl tb rfl _ _ _ _ HC.out Try.underlying29 rfl HIC.out ?_)
            | (go_at_call 30; refine (HBE.out).mono ?_; rintro e w4 ⟨rfl, ha4, hc4, b4⟩; have HA4 := Lib.hid ha4; have HC4 := Lib.hid hc4; have HB4 := Lib.hid b4; clear ha4 hc4 b4)
            | (go_at_call 36; refine (late_works HA4.out).mono ?_; rintro e wz ⟨rfl, rfl⟩)
            | (go_at_call 32; refine (late_hear HA4.out HB4.out HTL.out HC4.out hW0 hAT0 hnr HV.out).mono ?_; rintro e w5 ⟨rfl, hs5, hc5, b5⟩; have HS5 := Lib.hid hs5; have HC5 := Lib.hid hc5; have HB5 := Lib.hid b5; clear hs5 hc5 b5))
            exact ⟨⟨now + 1, by omega, by omega, rfl, HS5, HC5, HB5⟩, by simp [intOf]; omega⟩
          · have q3 : (now == AT) = false := by simpa using ha
            go_wp2_with (first
            | (refine wpList_load_row rfl _ (.tmp 13) rfl tb rfl _ _ _ _ HC.out Try.underlying29 rfl HIC.out ?_)
            | (go_at_call 30; refine (HBE.out).mono ?_; rintro e w4 ⟨rfl, ha4, hc4, b4⟩; have HA4 := Lib.hid ha4; have HC4 := Lib.hid hc4; have HB4 := Lib.hid b4; clear ha4 hc4 b4)
            | (go_at_call 36; refine (late_works HA4.out).mono ?_; rintro e wz ⟨rfl, rfl⟩))
            exact ⟨⟨now + 1, by omega, by omega, rfl, Lib.hid (late_quiet HA4.out hn0 (fun h => ha h.2)), HC4, HB4⟩, by simp [intOf]; omega⟩
end Go.Proofs.Ytllaajkpobpeiaa
