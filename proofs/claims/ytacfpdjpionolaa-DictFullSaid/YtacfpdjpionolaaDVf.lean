/- A spec's first value by the document; what package value must do whatever is asked. -/
import Derived.Test.YtacfpdjpionolaaDVe
namespace Go.Proofs.Ytacfpdjpionolaa
open Go.RowKit
set_option linter.unusedSimpArgs false
set_option linter.unusedVariables false
theorem Bx4.stepB {w w1 w2 : World} {k a lo hi : Int} {B : Nat} (h : Bx4 w k a lo hi w1) (hb : Below B w1 w2) (hB : w.heap.size < B) : Bx4 w k a lo hi w2 := by
  have hc := fun o => hb.cell (p := ⟨w.heap.size, o, none⟩) hB
  exact ⟨(hc _).trans h.c0, (hc _).trans h.c1, (hc _).trans h.c2, (hc _).trans h.c3, h.blw.trans (hb.mono (Nat.le_of_lt hB)), Nat.lt_of_lt_of_le h.lt hb.size⟩
theorem own_keep {w w' : World} {base e s n : Nat} {v : Value} {xs : List Value} (h : w.ownsRow base e s v n xs) (hb : Below w.heap.size w w') : w'.ownsRow base e s v n xs :=
  h.kept (row := none) ⟨hb.os, hb.tape, hb.output, hb.size, fun i hi _ => hb.block i hi⟩ (by
    rcases h.2 with ⟨rfl, _⟩ | ⟨k, cap, cur, rfl, _⟩
    · exact .inl rfl
    · exact .inr (by simp [Value.ownBlock]))
theorem own_nil (W : World) (B S : Nat) (hB : B ≤ W.heap.size) (hS : W.heap.size = S) : (W.alloc (.cells #[] 5)).ownsRow B 5 1 (.slice (some ⟨S, 0, none⟩) 0 0) 0 (([] : List Int).map (Value.int .u8)) := by
  subst hS
  have h : (W.alloc (.cells #[] 5)).ownsRow W.heap.size 5 1 (.slice (some ⟨W.heap.size, 0, none⟩) 0 0) 0 (([] : List Int).map (Value.int .u8)) := World.ownsRow_lit W #[] 0 (Nat.le_refl _) (by simp [maxLen]) rfl
  refine ⟨h.1, ?_⟩
  rcases h.2 with h2 | ⟨g, cap, cur, e, hb, rest⟩
  · exact .inl h2
  · exact .inr ⟨g, cap, cur, e, Nat.le_trans hB hb, rest⟩
theorem byt_own {w : World} {B n : Nat} {v : Value} {l : List Int} (h : w.ownsRow B 5 1 v n (l.map (Value.int .u8))) (hr : ∀ x ∈ l, 0 ≤ x ∧ x ≤ 255) : ∃ A c, v = .slice A n c ∧ Byt w w.heap.size A n c l := by
  obtain ⟨A, c, e, hB, _⟩ := Byt.of_own h hr
  exact ⟨A, c, e, hB⟩
theorem rep_range (m : Nat) : ∀ x ∈ List.replicate m (0 : Int), 0 ≤ x ∧ x ≤ 255 := fun x hx => by rw [List.eq_of_mem_replicate hx]; omega

set_option maxHeartbeats 1000000 in
theorem rfirst_any (k a lo hi : Int) (w : World) : Calls Try.prog 63 #[.agg #[.int .i64 k, .int .i64 a, .int .i64 lo, .int .i64 hi]] w (FirPost k a lo hi w) := by
  have hm := fun w => rmay_any k a lo hi w
  have HX0 := Lib.hid (Bx4.start w k a lo hi 35)
  have hx1 := (Bx4.start w k a lo hi 35).step ((Below.refl _ _).alloc (Nat.le_refl _) (.cells #[] 5))
  have ho1 := own_nil (w.alloc (.cells #[.int .i64 k, .int .i64 a, .int .i64 lo, .int .i64 hi] 35)) (w.heap.size + 1) (w.heap.size + 1) (by simp) (by simp)
  have HX1 := Lib.hid hx1
  have HO1 := Lib.hid ho1
  clear hx1 ho1
  unfold FirPost
  by_cases h0 : mayB k a lo hi = false
  · have e1 : firL k a lo hi = [] := if_pos h0
    rw [e1]
    rw [h0] at hm
    have HM := Lib.hid hm
    clear hm e1 h0
    go_enter Try.func63, Try.ntmps63
    go_wp2_with (go_at_call 52; refine (HM.out _).mono ?_; rintro e w1 ⟨rfl, hb1⟩; have HX2 := Lib.hid (HX1.out.step hb1); have HO2 := Lib.hid (own_keep HO1.out hb1); obtain ⟨c0, c1, c2, c3, -, -⟩ := HX2.out)
    go_ret
    obtain ⟨A', c', e', hB'⟩ := byt_own HO2.out (by simp)
    cases e'
    exact ⟨_, _, rfl, hB', HX2.out.blw⟩
  have h1 : mayB k a lo hi = true := by simpa using h0
  rw [h1] at hm
  have HM := Lib.hid hm
  by_cases h8 : k = 8
  · have h' := of_decide_eq_true h1
    obtain ⟨m, rfl⟩ := Int.eq_ofNat_of_zero_le (show 0 ≤ lo by omega)
    obtain ⟨e1, hm64⟩ := fir_text h1 h8 rfl
    rw [e1, List.length_replicate]
    clear hm e1 h0 h1 h'
    subst h8
    go_enter Try.func63, Try.ntmps63
    go_wp2_with (go_at_call 52; refine (HM.out _).mono ?_; rintro e w1 ⟨rfl, hb1⟩; have HX2 := Lib.hid (HX1.out.step hb1); have HO2 := Lib.hid (own_keep HO1.out hb1); obtain ⟨c0, c1, c2, c3, -, -⟩ := HX2.out)
    clear HX0 HX1 HO1
    go_loopw [3, 4] (fun q i wr => ∃ j : Nat, j ≤ m ∧ i = .int .i64 j ∧ Hid (wr.ownsRow (w.heap.size + 1) 5 1 q j ((List.replicate j (0 : Int)).map (Value.int .u8))) ∧ Hid (Bx4 w 8 a m hi wr)) (fun _ i _ => m - (intOf i).toNat)
    case atStart => exact ⟨0, Nat.zero_le _, rfl, HO2, HX2⟩
    case round =>
      clear HO2 HX2 c0 c1 c2 c3
      obtain ⟨j, hj, rfl, HO, HX⟩ := hrel
      obtain ⟨c0, c1, c2, c3, -, -⟩ := HX.out
      by_cases hlt : j < m
      · have hown := HO.out
        have hsz : w.heap.size + 1 ≤ wr.heap.size := HX.out.lt
        go_wp2_with (at_builtin; refine wpList_byte rfl (.tmp 22) (.tmp 23) rfl Try.underlying36 byte_info rfl hown rfl (by omega) hsz ?_; intro v' w' hown' hbel')
        have HO3 : Hid (w'.ownsRow (w.heap.size + 1) 5 1 v' (j + 1) ((List.replicate (j + 1) (0 : Int)).map (Value.int .u8))) := by
          rw [List.replicate_succ']
          exact Lib.hid hown'
        have HX3 := Lib.hid (HX.out.stepB hbel' (by omega))
        go_roundw
        case rel => exact ⟨j + 1, by omega, by go_num, HO3, HX3⟩
        case measure => simp [intOf]; omega
      · obtain rfl : j = m := by omega
        go_wp2
        obtain ⟨A', c', e', hB'⟩ := byt_own HO.out (rep_range j)
        subst e'
        go_ret
        exact ⟨_, _, rfl, hB', HX.out.blw⟩
  · have hd8 : (k == 8) = false := by simp [h8]
    obtain ⟨e1, e2, h2, h3⟩ := fir_num h1 h8
    have hp := fun w => rput_any k (firN lo hi) w
    unfold PutPost at hp
    rw [e2] at hp
    have h' : lo ≤ hi := by have := of_decide_eq_true h1; omega
    generalize putE k (firN lo hi) = E at hp
    generalize firL k a lo hi = L at hp ⊢
    have hpn : ∀ n, n = firN lo hi → ∀ w, Calls Try.prog 66 #[.int .i64 k, .int .i64 n] w fun e w' => ∃ A c, e = .returned (.tuple #[.slice A L.length c, .int .i64 E]) ∧ Byt w' w'.heap.size A L.length c L ∧ Below w.heap.size w w' := fun n e w => by subst e; exact hp w
    have HP := Lib.hid hpn
    clear hm e1 e2 h0 h1 h2 h3 hp hpn
    go_enter Try.func63, Try.ntmps63
    go_wp2_with (first | (go_at_call 52; refine (HM.out _).mono ?_; rintro e w1 ⟨rfl, hb1⟩; have HX2 := Lib.hid (HX1.out.step hb1); obtain ⟨c0, c1, c2, c3, -, -⟩ := HX2.out) | (go_at_call 66; refine (HP.out _ (by unfold firN; repeat' split <;> omega) _).mono ?_; rintro e w4 ⟨A, c, rfl, hB, hb4⟩; have HX4 := Lib.hid (HX2.out.step hb4)))
    all_goals
      go_ret
      exact ⟨_, _, rfl, hB, HX4.out.blw⟩

theorem live_fir : firL 3 3 10 20 = [10, 0] := by decide
theorem live_ft1 : fitsA 3 3 10 20 [21, 0] = 101253169 := by decide
theorem live_ft2 : fitsA 3 3 10 20 [15] = 101122067 := by decide
theorem live_kn : decide ((84148228 : Int) ∈ reasL) = true := by decide
theorem live_str : (strOfNums [10, 0]).toList = [10, 0] := by rw [ByteArray.toList_eq]; decide
end Go.Proofs.Ytacfpdjpionolaa