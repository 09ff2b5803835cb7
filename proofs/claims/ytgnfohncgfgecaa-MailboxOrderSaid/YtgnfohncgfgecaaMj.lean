/- MailboxParts. -/
import Derived.Test.YtgnfohncgfgecaaMi
namespace Go.Proofs.Ytgnfohncgfgecaa
open Go.RowKit

theorem putS_cnt (x : Ltr) (ls : List Ltr) (lost : Int) : cntL x.s (putS x ls lost).1 = cntL x.s ls + (if (putS x ls lost).2.2 = 0 then 1 else 0) ∧ cntL (!x.s) (putS x ls lost).1 = cntL (!x.s) ls ∧ lost ≤ (putS x ls lost).2.1 ∧ (putS x ls lost).2.1 ≤ lost + 1 := by
  unfold putS
  by_cases hc : chk x.id x.r x.n x.d = 0
  · rw [if_neg (fun hn => hn hc)]
    by_cases hf : cntL x.s ls = 8
    · rw [if_pos hf]
      exact ⟨by simp, rfl, by show lost ≤ lost + 1; omega, Int.le_refl _⟩
    · rw [if_neg hf]
      refine ⟨by rw [insL_cnt]; simp, by rw [insL_cnt]; cases x.s <;> simp, Int.le_refl _, by show lost ≤ lost + 1; omega⟩
  · rw [if_pos hc]
    refine ⟨?_, rfl, Int.le_refl _, by show lost ≤ lost + 1; omega⟩
    show cntL x.s ls = cntL x.s ls + _
    rw [if_neg hc]; rfl
theorem putS_code (x : Ltr) (ls : List Ltr) (lost : Int) {C : Int} (hC : chk x.id x.r x.n x.d = C) (h : C = 0 → cntL x.s ls < 8) : (putS x ls lost).2.2 = C := by
  unfold putS
  by_cases hc : chk x.id x.r x.n x.d = 0
  · rw [if_neg (fun hn => hn hc), if_neg (by have := h (hC ▸ hc); omega)]
    show (0 : Int) = C
    omega
  · rw [if_pos hc]; exact hC
set_option maxRecDepth 100000 in
set_option maxHeartbeats 8000000 in
theorem parts_walk (A : Option Addr) (n c : Nat) (fs : Nat → Ltr) (s : Bool) (id m : Int) (r : Bool) (d : Nat → Int) (w : World) (h : Frs w w.heap.size A n c fs) :
    Calls Try.prog 5 #[.slice A n c, .bool s, .agg #[.int .i64 id, .bool r, .int .i64 m, .int .u8 (d 0), .int .u8 (d 1), .int .u8 (d 2), .int .u8 (d 3), .int .u8 (d 4), .int .u8 (d 5), .int .u8 (d 6), .int .u8 (d 7)]] w fun e w' => e = .returned (.bool true) ∧ Below w.heap.size w w' := by
  have hcap := h.cap
  have hmax := h.max
  simp only [maxLen] at hmax
  have hb0 : Below w.heap.size w (w.alloc (.cells #[.int .i64 id, .bool r, .int .i64 m, .int .u8 (d 0), .int .u8 (d 1), .int .u8 (d 2), .int .u8 (d 3), .int .u8 (d 4), .int .u8 (d 5), .int .u8 (d 6), .int .u8 (d 7)] 30)) := (Below.refl _ _).alloc (Nat.le_refl _) _
  have hf0 : FrAt (w.alloc (.cells #[.int .i64 id, .bool r, .int .i64 m, .int .u8 (d 0), .int .u8 (d 1), .int .u8 (d 2), .int .u8 (d 3), .int .u8 (d 4), .int .u8 (d 5), .int .u8 (d 6), .int .u8 (d 7)] 30)) w.heap.size id r m d := frame_new w id m r d
  have hck := fun w => dcheck_any id m r d w
  generalize hC : chk id r m d = C at hck
  have HA := Lib.hid h
  have HB0 := Lib.hid hb0
  have HF0 := Lib.hid hf0
  have HCK := Lib.hid hck
  have HC := Lib.hid hC
  clear h hb0 hf0 hck hC
  by_cases hn : n ≤ 20
  · go_enter Try.func5, Try.ntmps5
    go_wp2_with fail
    generalize w.alloc (.cells #[.int .i64 id, .bool r, .int .i64 m, .int .u8 (d 0), .int .u8 (d 1), .int .u8 (d 2), .int .u8 (d 3), .int .u8 (d 4), .int .u8 (d 5), .int .u8 (d 6), .int .u8 (d 7)] 30) = w0 at *
    refine (box_new w w0 HB0.out).mono ?_
    rintro e w1 ⟨rfl, hx, hb1⟩
    have hg : w.heap.size + 1 ≤ w0.heap.size := HF0.out.lt
    have hf1 : FrAt w1 w.heap.size id r m d := HF0.out.below hb1 HF0.out.lt
    generalize w0.heap.size = g at *
    have HX1 := Lib.hid hx
    have HF1 := Lib.hid hf1
    clear hx hf1 hb1 HB0 HF0
    go_wp2_with fail
    go_loopw [8, 9] (fun cn i wr => ∃ (j : Nat) (ls : List Ltr) (lost : Int), j ≤ n ∧ i = .int .i64 j ∧ cn = .int .i64 (cntL s ls : Nat) ∧ Hid (cntL (!s) ls = 0) ∧ lost ≤ j ∧ Hid (BoxAt w g ls lost wr) ∧ Hid (FrAt wr w.heap.size id r m d)) (fun _ i _ => n - (intOf i).toNat)
    case atStart => exact ⟨0, [], 0, Nat.zero_le _, rfl, rfl, Lib.hid rfl, by omega, HX1, HF1⟩
    case round =>
      obtain ⟨j, ls, lost, hj, rfl, rfl, hz, hlj, hx, hf⟩ := hrel
      have hpt := hx.out.part s
      by_cases hlt : j < n
      · obtain ⟨b, off, rfl, hbb, hcc⟩ := (HA.out.below hx.out.below).cells (by omega)
        obtain ⟨c0, c1, c2, c3, c4, c5, c6, c7, c8, c9, c10⟩ := hcc j (by omega)
        generalize fs j = y at c0 c1 c2 c3 c4 c5 c6 c7 c8 c9 c10
        obtain ⟨yi, yr, yn, yd, ys⟩ := y
        dsimp only at c0 c1 c2 c3 c4 c5 c6 c7 c8 c9 c10
        have hp := box_put w wr g ⟨yi, yr, yn, yd, s⟩ ls lost hx.out (by omega)
        obtain ⟨q1, q2, q3, q4⟩ := putS_cnt ⟨yi, yr, yn, yd, s⟩ ls lost
        have hl0 := hx.out.lost0
        dsimp only at hp q1 q2 q3 q4
        generalize putS ⟨yi, yr, yn, yd, s⟩ ls lost = P at *
        obtain ⟨ls', lost', q⟩ := P
        dsimp only at hp q1 q2 q3 q4
        have HP := Lib.hid hp
        have Q1 := Lib.hid q1
        have Q2 := Lib.hid (q2.trans hz.out)
        have hjI : (j : Int) < (n : Int) := by omega
        clear hp hcc q1 q2
        by_cases hq : q = 0
        · subst hq
          rw [if_pos rfl] at Q1
          go_wp2_with fail
          refine HP.out.mono ?_
          rintro e w2 ⟨rfl, hx2, hk2⟩
          have HX2 := Lib.hid hx2
          have HF2 := Lib.hid (hf.out.kept hk2 (by omega))
          clear hx2 hk2 c0 c1 c2 c3 c4 c5 c6 c7 c8 c9 c10
          go_wp2_with fail
          exact ⟨⟨j + 1, ls', lost', by omega, by go_num, by rw [Q1.out]; go_num, Q2, by omega, HX2, HF2⟩, by simp [intOf]; omega⟩
        · have t1 : (q == 0) = false := by simpa using hq
          rw [if_neg hq] at Q1
          have HQ := Lib.hid hq
          clear hq
          go_wp2_with fail
          refine HP.out.mono ?_
          rintro e w2 ⟨rfl, hx2, hk2⟩
          have HX2 := Lib.hid hx2
          have HF2 := Lib.hid (hf.out.kept hk2 (by omega))
          clear hx2 hk2 c0 c1 c2 c3 c4 c5 c6 c7 c8 c9 c10
          go_wp2_with fail
          exact ⟨⟨j + 1, ls', lost', by omega, by go_num, by rw [Q1.out]; rfl, Q2, by omega, HX2, HF2⟩, by simp [intOf]; omega⟩
      · obtain rfl : j = n := by omega
        have hlA := box_len w wr g s ls lost hx.out
        have hlB := fun w2 (h : BoxAt w g ls lost w2) => box_len w w2 g (!s) ls lost h
        rw [hz.out] at hlB
        have HLA := Lib.hid hlA
        have HLB := Lib.hid hlB
        clear hlA hlB
        generalize hN : cntL s ls = N at *
        have HN := Lib.hid hN
        clear hN
        go_wp2_with fail
        refine HLA.out.mono ?_
        rintro e w2 ⟨rfl, hx2, hk2⟩
        have HX2 := Lib.hid hx2
        have HF2 := Lib.hid (hf.out.kept hk2 (by omega))
        clear hx2 hk2 hx hf
        go_wp2_with fail
        refine (HLB.out _ HX2.out).mono ?_
        rintro e w3 ⟨rfl, hx3, hk3⟩
        have hf3 := HF2.out.kept hk3 (by omega)
        obtain ⟨d0, d1, d2, d3, d4, d5, d6, d7, d8, d9, d10⟩ := hf3.cells
        have HX3 := Lib.hid hx3
        have HF3 := Lib.hid hf3
        clear hx3 hk3 hf3 HX2 HF2
        go_wp2_with fail
        refine (HCK.out _).mono ?_
        rintro e w4 ⟨rfl, hb4⟩
        have HX4 := Lib.hid (HX3.out.step hb4)
        have HF4 := Lib.hid (HF3.out.below hb4 HF3.out.lt)
        clear hb4 d0 d1 d2 d3 d4 d5 d6 d7 d8 d9 d10 HX3 HF3
        go_wp2_with fail
        go_loopw [52] (fun i wr => ∃ (j : Nat) (l2 : List Ltr) (lo : Int), j ≤ 8 ∧ i = .int .i64 j ∧ Hid (cntL (!s) l2 = if C = 0 then j else 0) ∧ Hid (cntL s l2 = N) ∧ lo ≤ 100 + j ∧ Hid (BoxAt w g l2 lo wr) ∧ Hid (FrAt wr w.heap.size id r m d)) (fun i _ => 8 - (intOf i).toNat)
        case atStart => exact ⟨0, ls, lost, by omega, rfl, Lib.hid (by rw [hz.out]; simp), HN, by omega, HX4, HF4⟩
        case round =>
          obtain ⟨j2, l2, lo, hj2, rfl, hz2, hN2, hlo, hx5, hf5⟩ := hrel
          have hl0 := hx5.out.lost0
          by_cases hlt2 : j2 < 8
          · obtain ⟨d0, d1, d2, d3, d4, d5, d6, d7, d8, d9, d10⟩ := hf5.out.cells
            have hp := box_put w wr g ⟨id, r, m, d, !s⟩ l2 lo hx5.out (by omega)
            have hcd : (putS ⟨id, r, m, d, !s⟩ l2 lo).2.2 = C := putS_code ⟨id, r, m, d, !s⟩ l2 lo HC.out (fun h0 => by show cntL (!s) l2 < 8; rw [hz2.out, if_pos h0]; exact hlt2)
            obtain ⟨q1, q2, q3, q4⟩ := putS_cnt ⟨id, r, m, d, !s⟩ l2 lo
            dsimp only at hp q1 q2 q3 q4
            generalize putS ⟨id, r, m, d, !s⟩ l2 lo = P at *
            obtain ⟨ls', lost', q⟩ := P
            dsimp only at hp q1 q2 q3 q4 hcd
            subst hcd
            have HP := Lib.hid hp
            have e1 : cntL (!s) ls' = if q = 0 then j2 + 1 else 0 := by
              rw [q1, hz2.out]
              by_cases h0 : q = 0
              · simp [h0]
              · simp [h0]
            have Q1 := Lib.hid e1
            have Q2 := Lib.hid ((by simpa using q2 : cntL s ls' = cntL s l2).trans hN2.out)
            have t1 : (q != q) = false := by simp
            clear hp q1 q2 e1
            go_wp2_with fail
            refine HP.out.mono ?_
            rintro e w6 ⟨rfl, hx6, hk6⟩
            have HX6 := Lib.hid hx6
            have HF6 := Lib.hid (hf5.out.kept hk6 (by omega))
            clear hx6 hk6 d0 d1 d2 d3 d4 d5 d6 d7 d8 d9 d10
            go_wp2_with fail
            exact ⟨⟨j2 + 1, ls', lost', by omega, by go_num, Q1, Q2, by omega, HX6, HF6⟩, by simp [intOf]; omega⟩
          · obtain rfl : j2 = 8 := by omega
            by_cases hC : C = 0
            · subst hC
              have e8 : cntL (!s) l2 = 8 := by rw [hz2.out]; rfl
              have hpf : putS ⟨id, r, m, d, !s⟩ l2 lo = (l2, lo + 1, 6) := by
                unfold putS
                rw [if_neg (fun hn => hn HC.out), if_pos e8]
              have hp := fun w2 h => box_put w w2 g ⟨id, r, m, d, !s⟩ l2 lo h (by omega)
              rw [hpf] at hp
              have hln := fun w2 h => box_len w w2 g s l2 (lo + 1) h
              rw [hN2.out] at hln
              have hlo2 := fun w2 h => box_lost w w2 g l2 (lo + 1) h
              have hlo1 := box_lost w wr g l2 lo hx5.out
              have hw1 : IntKind.i64.wrap (lo + 1) = lo + 1 := IntWalk.i64_in _ (by omega)
              have HP := Lib.hid hp
              have HLN := Lib.hid hln
              have HLO1 := Lib.hid hlo1
              have HLO2 := Lib.hid hlo2
              clear hp hln hlo1 hlo2 hpf e8
              go_wp2_with fail
              refine HLO1.out.mono ?_
              rintro e w6 ⟨rfl, _, rfl⟩
              go_wp2_with fail
              refine (live_any _).mono ?_
              rintro e w7 ⟨rfl, hb7⟩
              have HX7 := Lib.hid (hx5.out.step hb7)
              have HF7 := Lib.hid (hf5.out.below hb7 hf5.out.lt)
              obtain ⟨d0, d1, d2, d3, d4, d5, d6, d7, d8, d9, d10⟩ := HF7.out.cells
              clear hb7 hx5 hf5
              go_wp2_with fail
              refine (HP.out _ HX7.out).mono ?_
              rintro e w8 ⟨rfl, hx8, hk8⟩
              have HX8 := Lib.hid hx8
              clear hx8 hk8 d0 d1 d2 d3 d4 d5 d6 d7 d8 d9 d10 HX7 HF7
              go_wp2_with fail
              refine (HLO2.out _ HX8.out).mono ?_
              rintro e w9 ⟨rfl, _, rfl⟩
              go_wp2_with fail
              refine (HLN.out _ HX8.out).mono ?_
              rintro e w10 ⟨rfl, hx10, _⟩
              have HB10 := Lib.hid hx10.below
              clear hx10
              go_wp2_with fail
              go_ret
              exact ⟨rfl, HB10.out⟩
            · have t1 : (C != 0) = true := by simpa using hC
              have e0 : cntL (!s) l2 = 0 := by rw [hz2.out, if_neg hC]
              have hln := fun w2 h => box_len w w2 g (!s) l2 lo h
              rw [e0] at hln
              have HLN := Lib.hid hln
              clear hln e0 hC
              go_wp2_with fail
              refine (live_any _).mono ?_
              rintro e w7 ⟨rfl, hb7⟩
              have HX7 := Lib.hid (hx5.out.step hb7)
              clear hb7 hx5 hf5
              go_wp2_with fail
              refine (HLN.out _ HX7.out).mono ?_
              rintro e w8 ⟨rfl, hx8, _⟩
              have HB8 := Lib.hid hx8.below
              clear hx8
              go_wp2_with fail
              go_ret
              exact ⟨rfl, HB8.out⟩
  · go_enter Try.func5, Try.ntmps5
    go_wp2_with fail
    generalize w.alloc (.cells #[.int .i64 id, .bool r, .int .i64 m, .int .u8 (d 0), .int .u8 (d 1), .int .u8 (d 2), .int .u8 (d 3), .int .u8 (d 4), .int .u8 (d 5), .int .u8 (d 6), .int .u8 (d 7)] 30) = w0 at *
    refine (box_new w w0 HB0.out).mono ?_
    rintro e w1 ⟨rfl, hx, hb1⟩
    have hg : w.heap.size + 1 ≤ w0.heap.size := HF0.out.lt
    have hf1 : FrAt w1 w.heap.size id r m d := HF0.out.below hb1 HF0.out.lt
    generalize w0.heap.size = g at *
    have HX1 := Lib.hid hx
    have HF1 := Lib.hid hf1
    clear hx hf1 hb1 HB0 HF0
    go_wp2_with fail
    go_loopw [8, 9] (fun cn i wr => ∃ (j : Nat) (ls : List Ltr) (lost : Int), j ≤ 20 ∧ i = .int .i64 j ∧ cn = .int .i64 (cntL s ls : Nat) ∧ Hid (cntL (!s) ls = 0) ∧ lost ≤ j ∧ Hid (BoxAt w g ls lost wr) ∧ Hid (FrAt wr w.heap.size id r m d)) (fun _ i _ => 20 - (intOf i).toNat)
    case atStart => exact ⟨0, [], 0, Nat.zero_le _, rfl, rfl, Lib.hid rfl, by omega, HX1, HF1⟩
    case round =>
      obtain ⟨j, ls, lost, hj, rfl, rfl, hz, hlj, hx, hf⟩ := hrel
      have hpt := hx.out.part s
      by_cases hlt : j < 20
      · obtain ⟨b, off, rfl, hbb, hcc⟩ := (HA.out.below hx.out.below).cells (by omega)
        obtain ⟨c0, c1, c2, c3, c4, c5, c6, c7, c8, c9, c10⟩ := hcc j (by omega)
        generalize fs j = y at c0 c1 c2 c3 c4 c5 c6 c7 c8 c9 c10
        obtain ⟨yi, yr, yn, yd, ys⟩ := y
        dsimp only at c0 c1 c2 c3 c4 c5 c6 c7 c8 c9 c10
        have hp := box_put w wr g ⟨yi, yr, yn, yd, s⟩ ls lost hx.out (by omega)
        obtain ⟨q1, q2, q3, q4⟩ := putS_cnt ⟨yi, yr, yn, yd, s⟩ ls lost
        have hl0 := hx.out.lost0
        dsimp only at hp q1 q2 q3 q4
        generalize putS ⟨yi, yr, yn, yd, s⟩ ls lost = P at *
        obtain ⟨ls', lost', q⟩ := P
        dsimp only at hp q1 q2 q3 q4
        have HP := Lib.hid hp
        have Q1 := Lib.hid q1
        have Q2 := Lib.hid (q2.trans hz.out)
        have hjI : (j : Int) < (20 : Int) := by omega
        clear hp hcc q1 q2
        by_cases hq : q = 0
        · subst hq
          rw [if_pos rfl] at Q1
          go_wp2_with fail
          refine HP.out.mono ?_
          rintro e w2 ⟨rfl, hx2, hk2⟩
          have HX2 := Lib.hid hx2
          have HF2 := Lib.hid (hf.out.kept hk2 (by omega))
          clear hx2 hk2 c0 c1 c2 c3 c4 c5 c6 c7 c8 c9 c10
          go_wp2_with fail
          exact ⟨⟨j + 1, ls', lost', by omega, by go_num, by rw [Q1.out]; go_num, Q2, by omega, HX2, HF2⟩, by simp [intOf]; omega⟩
        · have t1 : (q == 0) = false := by simpa using hq
          rw [if_neg hq] at Q1
          have HQ := Lib.hid hq
          clear hq
          go_wp2_with fail
          refine HP.out.mono ?_
          rintro e w2 ⟨rfl, hx2, hk2⟩
          have HX2 := Lib.hid hx2
          have HF2 := Lib.hid (hf.out.kept hk2 (by omega))
          clear hx2 hk2 c0 c1 c2 c3 c4 c5 c6 c7 c8 c9 c10
          go_wp2_with fail
          exact ⟨⟨j + 1, ls', lost', by omega, by go_num, by rw [Q1.out]; rfl, Q2, by omega, HX2, HF2⟩, by simp [intOf]; omega⟩
      · obtain rfl : j = 20 := by omega
        have hlA := box_len w wr g s ls lost hx.out
        have hlB := fun w2 (h : BoxAt w g ls lost w2) => box_len w w2 g (!s) ls lost h
        rw [hz.out] at hlB
        have HLA := Lib.hid hlA
        have HLB := Lib.hid hlB
        clear hlA hlB
        generalize hN : cntL s ls = N at *
        have HN := Lib.hid hN
        clear hN
        go_wp2_with fail
        refine HLA.out.mono ?_
        rintro e w2 ⟨rfl, hx2, hk2⟩
        have HX2 := Lib.hid hx2
        have HF2 := Lib.hid (hf.out.kept hk2 (by omega))
        clear hx2 hk2 hx hf
        go_wp2_with fail
        refine (HLB.out _ HX2.out).mono ?_
        rintro e w3 ⟨rfl, hx3, hk3⟩
        have hf3 := HF2.out.kept hk3 (by omega)
        obtain ⟨d0, d1, d2, d3, d4, d5, d6, d7, d8, d9, d10⟩ := hf3.cells
        have HX3 := Lib.hid hx3
        have HF3 := Lib.hid hf3
        clear hx3 hk3 hf3 HX2 HF2
        go_wp2_with fail
        refine (HCK.out _).mono ?_
        rintro e w4 ⟨rfl, hb4⟩
        have HX4 := Lib.hid (HX3.out.step hb4)
        have HF4 := Lib.hid (HF3.out.below hb4 HF3.out.lt)
        clear hb4 d0 d1 d2 d3 d4 d5 d6 d7 d8 d9 d10 HX3 HF3
        go_wp2_with fail
        go_loopw [52] (fun i wr => ∃ (j : Nat) (l2 : List Ltr) (lo : Int), j ≤ 8 ∧ i = .int .i64 j ∧ Hid (cntL (!s) l2 = if C = 0 then j else 0) ∧ Hid (cntL s l2 = N) ∧ lo ≤ 100 + j ∧ Hid (BoxAt w g l2 lo wr) ∧ Hid (FrAt wr w.heap.size id r m d)) (fun i _ => 8 - (intOf i).toNat)
        case atStart => exact ⟨0, ls, lost, by omega, rfl, Lib.hid (by rw [hz.out]; simp), HN, by omega, HX4, HF4⟩
        case round =>
          obtain ⟨j2, l2, lo, hj2, rfl, hz2, hN2, hlo, hx5, hf5⟩ := hrel
          have hl0 := hx5.out.lost0
          by_cases hlt2 : j2 < 8
          · obtain ⟨d0, d1, d2, d3, d4, d5, d6, d7, d8, d9, d10⟩ := hf5.out.cells
            have hp := box_put w wr g ⟨id, r, m, d, !s⟩ l2 lo hx5.out (by omega)
            have hcd : (putS ⟨id, r, m, d, !s⟩ l2 lo).2.2 = C := putS_code ⟨id, r, m, d, !s⟩ l2 lo HC.out (fun h0 => by show cntL (!s) l2 < 8; rw [hz2.out, if_pos h0]; exact hlt2)
            obtain ⟨q1, q2, q3, q4⟩ := putS_cnt ⟨id, r, m, d, !s⟩ l2 lo
            dsimp only at hp q1 q2 q3 q4
            generalize putS ⟨id, r, m, d, !s⟩ l2 lo = P at *
            obtain ⟨ls', lost', q⟩ := P
            dsimp only at hp q1 q2 q3 q4 hcd
            subst hcd
            have HP := Lib.hid hp
            have e1 : cntL (!s) ls' = if q = 0 then j2 + 1 else 0 := by
              rw [q1, hz2.out]
              by_cases h0 : q = 0
              · simp [h0]
              · simp [h0]
            have Q1 := Lib.hid e1
            have Q2 := Lib.hid ((by simpa using q2 : cntL s ls' = cntL s l2).trans hN2.out)
            have t1 : (q != q) = false := by simp
            clear hp q1 q2 e1
            go_wp2_with fail
            refine HP.out.mono ?_
            rintro e w6 ⟨rfl, hx6, hk6⟩
            have HX6 := Lib.hid hx6
            have HF6 := Lib.hid (hf5.out.kept hk6 (by omega))
            clear hx6 hk6 d0 d1 d2 d3 d4 d5 d6 d7 d8 d9 d10
            go_wp2_with fail
            exact ⟨⟨j2 + 1, ls', lost', by omega, by go_num, Q1, Q2, by omega, HX6, HF6⟩, by simp [intOf]; omega⟩
          · obtain rfl : j2 = 8 := by omega
            by_cases hC : C = 0
            · subst hC
              have e8 : cntL (!s) l2 = 8 := by rw [hz2.out]; rfl
              have hpf : putS ⟨id, r, m, d, !s⟩ l2 lo = (l2, lo + 1, 6) := by
                unfold putS
                rw [if_neg (fun hn => hn HC.out), if_pos e8]
              have hp := fun w2 h => box_put w w2 g ⟨id, r, m, d, !s⟩ l2 lo h (by omega)
              rw [hpf] at hp
              have hln := fun w2 h => box_len w w2 g s l2 (lo + 1) h
              rw [hN2.out] at hln
              have hlo2 := fun w2 h => box_lost w w2 g l2 (lo + 1) h
              have hlo1 := box_lost w wr g l2 lo hx5.out
              have hw1 : IntKind.i64.wrap (lo + 1) = lo + 1 := IntWalk.i64_in _ (by omega)
              have HP := Lib.hid hp
              have HLN := Lib.hid hln
              have HLO1 := Lib.hid hlo1
              have HLO2 := Lib.hid hlo2
              clear hp hln hlo1 hlo2 hpf e8
              go_wp2_with fail
              refine HLO1.out.mono ?_
              rintro e w6 ⟨rfl, _, rfl⟩
              go_wp2_with fail
              refine (live_any _).mono ?_
              rintro e w7 ⟨rfl, hb7⟩
              have HX7 := Lib.hid (hx5.out.step hb7)
              have HF7 := Lib.hid (hf5.out.below hb7 hf5.out.lt)
              obtain ⟨d0, d1, d2, d3, d4, d5, d6, d7, d8, d9, d10⟩ := HF7.out.cells
              clear hb7 hx5 hf5
              go_wp2_with fail
              refine (HP.out _ HX7.out).mono ?_
              rintro e w8 ⟨rfl, hx8, hk8⟩
              have HX8 := Lib.hid hx8
              clear hx8 hk8 d0 d1 d2 d3 d4 d5 d6 d7 d8 d9 d10 HX7 HF7
              go_wp2_with fail
              refine (HLO2.out _ HX8.out).mono ?_
              rintro e w9 ⟨rfl, _, rfl⟩
              go_wp2_with fail
              refine (HLN.out _ HX8.out).mono ?_
              rintro e w10 ⟨rfl, hx10, _⟩
              have HB10 := Lib.hid hx10.below
              clear hx10
              go_wp2_with fail
              go_ret
              exact ⟨rfl, HB10.out⟩
            · have t1 : (C != 0) = true := by simpa using hC
              have e0 : cntL (!s) l2 = 0 := by rw [hz2.out, if_neg hC]
              have hln := fun w2 h => box_len w w2 g (!s) l2 lo h
              rw [e0] at hln
              have HLN := Lib.hid hln
              clear hln e0 hC
              go_wp2_with fail
              refine (live_any _).mono ?_
              rintro e w7 ⟨rfl, hb7⟩
              have HX7 := Lib.hid (hx5.out.step hb7)
              clear hb7 hx5 hf5
              go_wp2_with fail
              refine (HLN.out _ HX7.out).mono ?_
              rintro e w8 ⟨rfl, hx8, _⟩
              have HB8 := Lib.hid hx8.below
              clear hx8
              go_wp2_with fail
              go_ret
              exact ⟨rfl, HB8.out⟩
end Go.Proofs.Ytgnfohncgfgecaa
