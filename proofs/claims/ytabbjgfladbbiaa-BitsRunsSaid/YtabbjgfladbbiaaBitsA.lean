/- What the small functions answer that the statements on bits call: one bit, a plain row, whether two rows are the same, how many equal bits a row ends with, and the counter of equal bits. -/
import Derived.Test.YtabbjgfladbbiaaBase2
import Derived.Test.YtabbjgfladbbiaaBitsMath
import Derived.Test.YtabbjgfladbbiaaProg
namespace Go.Proofs.Ytabbjgfladbbiaa
open Go.RowKit

theorem byte_info : (Try.prog.info? 5).map (fun i => (i.zero, i.size, i.bytes)) = some (some (.int .u8 0), 1, 1) := by kernel_rfl
theorem make_row (n : Nat) (hn : n ≤ 281474976710656) (w : World) : (Instr.makeSlice 23 (.int .i64 (n : Int)) (.int .i64 (n : Int))).run Try.prog w = .ok (.slice (some ⟨w.heap.size, 0, none⟩) n n) (w.alloc (.cells (madeCells #[.int .u8 0] n) 5)) :=
  run_make_row' _ _ _ _ Try.underlying23 byte_info rfl .i64 .i64 n (by omega) (by omega) w

theorem low_any (x : Int) (w : World) (h0 : 0 ≤ x) (h1 : x ≤ 255) : Calls Try.prog 25 #[.int .u8 x] w fun e w' => e = .returned (.int .u8 (x % 2)) ∧ w = w' := by
  have h := and_one x h0 h1
  go_enter Try.func25, Try.ntmps25
  go_wp2
  go_ret
  exact ⟨rfl, rfl⟩

theorem plain_any (w : World) (A : Option Addr) (n c : Nat) (l : List Int) (h : Byt w w.heap.size A n c l) (hn : n ≤ 140737488355327) : Calls Try.prog 19 #[.slice A n c] w fun e w' => ∃ A' c', e = .returned (.slice A' n c') ∧ Byt w' w'.heap.size A' n c' (pl l) ∧ Below w.heap.size w w' := by
  go_enter Try.func19, Try.ntmps19
  go_wp2_with fail
  go_loopw [4, 3] (fun i v wr => ∃ j : Nat, j ≤ n ∧ i = .int .i64 j ∧ wr.ownsRow w.heap.size 5 1 v j ((pl (l.take j)).map (Value.int .u8)) ∧ Below w.heap.size w wr) (fun i _ _ => n - (intOf i).toNat)
  case atStart => exact ⟨0, Nat.zero_le _, rfl, World.ownsRow_lit w #[] 0 (Nat.le_refl _) (by simp [maxLen]) rfl, (Below.refl _ _).alloc (Nat.le_refl _) _⟩
  case round =>
    obtain ⟨j, hj, rfl, hown, hbel⟩ := hrel
    by_cases hlt : j < n
    · obtain ⟨b, off, rfl, hb, hc⟩ := h.cells (by omega)
      have hrange := h.range j
      have hcj := hc j hlt
      have hget : pl (l.take (j + 1)) = pl (l.take j) ++ [l.getD j 0 % 2] := by
        rw [take_succ_getD (by rw [h.len]; exact hlt)]; simp [pl]
      generalize l.getD j 0 = q at hrange hcj hget
      have hcell : wr.cell? ⟨b, off + j, none⟩ = some (.int .u8 q) := (hbel.cell (p := ⟨b, off + j, none⟩) hb).trans hcj
      have HG := Lib.hid hget
      have HC := Lib.hid hc
      have HH := Lib.hid h
      obtain ⟨hq0, hq1⟩ := hrange
      clear hcj hget hc h
      go_wp2_with (at_builtin; refine wpList_byte rfl (.tmp 12) (.tmp 18) rfl Try.underlying23 byte_info rfl hown rfl (by omega) hbel.size ?_; intro v' w' hown' hbel')
      go_roundw
      case rel => exact ⟨j + 1, by omega, by go_num, by rw [HG.out]; exact hown', hbel.trans hbel'⟩
      case measure => simp [intOf]; omega
    · obtain rfl : j = n := by omega
      have hl := h.len
      go_wp2
      go_ret
      rw [List.take_of_length_le (by omega)] at hown
      obtain ⟨A', c', rfl, hB, _⟩ := Byt.of_own hown (pl_range l)
      exact ⟨_, _, rfl, hB, hbel⟩

theorem same_any (w : World) (A B : Option Addr) (n m c d : Nat) (l s : List Int) (h : Byt w w.heap.size A n c l) (g : Byt w w.heap.size B m d s) :
    Calls Try.prog 12 #[.slice A n c, .slice B m d] w fun e w' => e = .returned (.bool (decide (l = s))) ∧ Below w.heap.size w w' := by
  have hmn := h.max
  have hcn := h.cap
  simp only [maxLen] at hmn
  by_cases hnm : n = m
  · subst hnm
    go_enter Try.func12, Try.ntmps12
    go_wp2_with fail
    go_loopw [5] (fun i wr => ∃ j k : Nat, j ≤ n ∧ i = .int .i64 j ∧ l.take j = s.take j ∧ wr = w.drewN k) (fun i _ => n - (intOf i).toNat)
    case atStart => exact ⟨0, 0, Nat.zero_le _, rfl, rfl, rfl⟩
    case round =>
      obtain ⟨j, k, hj, rfl, htake, rfl⟩ := hrel
      by_cases hlt : j < n
      · obtain ⟨b, off, rfl, hb, hc⟩ := h.cells (by omega)
        obtain ⟨b1, off1, rfl, hb1, hc1⟩ := g.cells (by omega)
        have hcj := hc j hlt
        have hcj1 := hc1 j hlt
        have t1 : l.take (j + 1) = l.take j ++ [l.getD j 0] := take_succ_getD (by rw [h.len]; exact hlt)
        have t2 : s.take (j + 1) = s.take j ++ [s.getD j 0] := take_succ_getD (by rw [g.len]; exact hlt)
        rw [htake] at t1
        have hne : ¬ l.getD j 0 = s.getD j 0 → ¬ l = s := fun h e => h (by rw [e])
        generalize l.getD j 0 = q at hcj t1 hne
        generalize s.getD j 0 = r at hcj1 t2 hne
        have HT := Lib.hid htake
        have T1 := Lib.hid t1
        have T2 := Lib.hid t2
        have HH := Lib.hid h
        have GG := Lib.hid g
        clear hc hc1 htake t1 t2 h g
        by_cases hqr : q = r
        · subst hqr
          clear hne
          have hnb : (q != q) = false := by simp
          go_wp2_with fail
          go_quiet (fail)
          go_wp2
          go_roundw
          case rel => exact ⟨j + 1, _, by omega, by go_num, by rw [T1.out, T2.out], rfl⟩
          case measure => simp [intOf]; omega
        · have hls := Lib.hid (hne hqr)
          have hnb : (q != r) = true := by simp [hqr]
          have hnb2 : (q == r) = false := by simp [hqr]
          have hnb3 : ¬ q = r := hqr
          clear hne
          go_wp2_with fail
          go_quiet (fail)
          go_wp2
          go_ret
          exact ⟨ret_bool (decide_eq_false hls.out).symm, below_drewN (below_drewN (Below.refl _ _) _) _⟩
      · obtain rfl : j = n := by omega
        have hls : l = s := by rwa [List.take_of_length_le (by rw [h.len]; exact Nat.le_refl _), List.take_of_length_le (by rw [g.len]; exact Nat.le_refl _)] at htake
        have HLS := Lib.hid hls
        clear htake hls h g
        go_wp2
        go_ret
        exact ⟨ret_bool (decide_eq_true HLS.out).symm, below_drewN (Below.refl _ _) _⟩
  · have hls : ¬ l = s := fun e => hnm (by rw [← h.len, ← g.len, e])
    have HLS := Lib.hid hls
    have hnb : ((n : Int) == (m : Int)) = false := by simp; omega
    have hnb2 : ((n : Int) != (m : Int)) = true := by simp; omega
    clear hls hnm h g
    go_enter Try.func12, Try.ntmps12
    go_wp2
    go_ret
    exact ⟨ret_bool (decide_eq_false HLS.out).symm, Below.refl _ _⟩

theorem tail_any (w : World) (A : Option Addr) (n c : Nat) (l : List Int) (h : Byt w w.heap.size A n c l) :
    Calls Try.prog 28 #[.slice A n c] w fun e w' => e = .returned (.int .i64 (tailN l)) ∧ Below w.heap.size w w' := by
  have hmn := h.max
  have hcn := h.cap
  simp only [maxLen] at hmn
  rcases Nat.eq_zero_or_pos n with h0 | h0
  · subst h0
    obtain rfl := List.eq_nil_of_length_eq_zero h.len
    have hd : decide ((0 : Int) ≤ -1) = false := by decide
    clear h
    go_enter Try.func28, Try.ntmps28
    go_wp2_with fail
    refine wp_loop_rounds 1 ?_
    rw [rounds_succ]
    go_wp2_with fail
    go_quiet (fail)
    go_wp2
    go_ret
    exact ⟨rfl, below_drewN (Below.refl _ _) _⟩
  · obtain ⟨b, off, rfl, hb, hc⟩ := h.cells h0
    have hl := h.len
    go_enter Try.func28, Try.ntmps28
    go_wp2_with fail
    go_loopw [3, 4] (fun v i wr => ∃ j k : Nat, j ≤ n ∧ v = .int .i64 j ∧ i = .int .i64 ((n : Int) - 1 - j) ∧ (∀ t, t < j → l.getD (n - 1 - t) 0 = l.getD (n - 1) 0) ∧ wr = w.drewN k) (fun v _ _ => n - (intOf v).toNat)
    case atStart => exact ⟨0, 0, Nat.zero_le _, rfl, by simp, fun t ht => absurd ht (by omega), rfl⟩
    case round =>
      obtain ⟨j, k, hj, rfl, rfl, hall, rfl⟩ := hrel
      have HA := Lib.hid hall
      clear hall
      have hlast := hc (n - 1) (by omega)
      have i1 : ((n : Int) - 1).toNat = n - 1 := by omega
      by_cases hlt : j < n
      · have hcj := hc (n - 1 - j) (by omega)
        have i2 : ((n : Int) - 1 - (j : Int)).toNat = n - 1 - j := by omega
        have hd : decide ((j : Int) ≤ (n : Int) - 1) = true := by simp; omega
        generalize hq : l.getD (n - 1) 0 = q at hlast
        generalize hr : l.getD (n - 1 - j) 0 = r at hcj
        have HQ := Lib.hid hq
        have HR := Lib.hid hr
        have HH := Lib.hid h
        have HL := Lib.hid hl
        clear hq hr h hc hl
        by_cases hqr : r = q
        · have hne : (r == q) = true := by simp [hqr]
          have HE := Lib.hid hqr
          clear hqr
          go_wp2_with fail
          go_quiet (fail)
          go_wp2
          go_roundw
          case rel =>
            refine ⟨j + 1, _, by omega, by go_num, by go_num, fun t ht => ?_, rfl⟩
            rcases Nat.lt_or_ge t j with h1 | h1
            · exact (HA.out t h1).trans HQ.out
            · obtain rfl : t = j := by omega
              exact HR.out.trans HE.out
          case measure => simp [intOf]; omega
        · have hne : (r == q) = false := by simp [hqr]
          have HE := Lib.hid hqr
          clear hqr
          go_wp2_with fail
          go_quiet (fail)
          go_wp2
          go_ret
          have hln := HL.out
          refine ⟨?_, below_drewN (below_drewN (Below.refl _ _) _) _⟩
          rw [tail_walk (m := j) (fun e => by rw [e] at hln; simp at hln; omega) (by omega) (fun t ht => by rw [hln]; exact HA.out t ht) (.inr (by rw [hln, HR.out, HQ.out]; exact HE.out))]
          rfl
      · obtain rfl : j = n := by omega
        have hd : decide ((j : Int) ≤ (j : Int) - 1) = false := decide_eq_false (by omega)
        have HL := Lib.hid hl
        clear hc hl h hlast
        go_wp2_with fail
        go_quiet (fail)
        go_wp2
        go_ret
        have hln := HL.out
        refine ⟨?_, below_drewN (below_drewN (Below.refl _ _) _) _⟩
        rw [tail_walk (m := j) (fun e => by rw [e] at hln; simp at hln; omega) (by omega) (fun t ht => by rw [hln]; exact HA.out t ht) (.inl hln.symm)]
        rfl
end Go.Proofs.Ytabbjgfladbbiaa
