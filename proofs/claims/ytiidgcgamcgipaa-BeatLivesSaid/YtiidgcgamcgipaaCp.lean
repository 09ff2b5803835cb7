/- slices.Sort of one or none; a watch's Check of one timer or none, beside a maker. -/
import Derived.Test.YtiidgcgamcgipaaBTw
import Derived.Test.YtiidgcgamcgipaaBRl
import Derived.Test.YtiidgcgamcgipaaCh
import Derived.Test.YtiidgcgamcgipaaBTu
import Derived.Deep.CutBlock
namespace Go.Proofs.Ytiidgcgamcgipaa
open Go.RowKit
set_option linter.unusedSimpArgs false
set_option linter.unusedVariables false

set_option maxRecDepth 100000 in
theorem len64_0 (w : World) : Calls Try.prog 96 #[.int .u64 0] w fun e w' => (∃ m, e = .returned (.int .i64 m)) ∧ w = w' := by
  go_enter Try.func96, Try.ntmps96
  go_wp2
  go_ret
  exact ⟨⟨_, rfl⟩, rfl⟩
set_option maxRecDepth 100000 in
theorem len64_1 (w : World) : Calls Try.prog 96 #[.int .u64 1] w fun e w' => (∃ m, e = .returned (.int .i64 m)) ∧ w = w' := by
  go_enter Try.func96, Try.ntmps96
  go_wp2
  go_ret
  exact ⟨⟨_, rfl⟩, rfl⟩
theorem len_01 (w : World) (n : Int) (hn : n = 0 ∨ n = 1) : Calls Try.prog 62 #[.int .u64 n] w fun e w' => (∃ m, e = .returned (.int .i64 m)) ∧ w = w' := by
  rcases hn with rfl | rfl
  · go_enter Try.func62, Try.ntmps62
    go_wp2_with (go_at_call 96; refine (len64_0 _).mono ?_; rintro e w1 ⟨⟨m, rfl⟩, rfl⟩)
    go_ret
    exact ⟨⟨_, rfl⟩, rfl⟩
  · go_enter Try.func62, Try.ntmps62
    go_wp2_with (go_at_call 96; refine (len64_1 _).mono ?_; rintro e w1 ⟨⟨m, rfl⟩, rfl⟩)
    go_ret
    exact ⟨⟨_, rfl⟩, rfl⟩
set_option maxHeartbeats 2000000 in
theorem ins_01 (w : World) (A : Option Addr) (k cc : Nat) (n : Int) (hn : n = 0 ∨ n = 1) : Calls Try.prog 86 #[.slice A k cc, .int .i64 0, .int .i64 n] w fun e w' => (∃ x, e = .returned x) ∧ w = w' := by
  have hlt : ¬ (1 : Int) < n := by omega
  clear hn
  go_enter Try.func86, Try.ntmps86
  go_wp2_with fail
  go_loopw [6] (fun i wr => i = .int .i64 1 ∧ wr = w) (fun _ _ => 0)
  case atStart => exact ⟨rfl, rfl⟩
  case round =>
    obtain ⟨rfl, rfl⟩ := hrel
    go_wp2_with fail
    go_end0
    exact ⟨⟨_, rfl⟩, rfl⟩

set_option maxRecDepth 100000 in
set_option maxHeartbeats 4000000 in
theorem pdq_01 (w : World) (A : Option Addr) (k cc : Nat) (n m : Int) (hn : n = 0 ∨ n = 1) : Calls Try.prog 61 #[.slice A k cc, .int .i64 0, .int .i64 n, .int .i64 m] w fun e w' => (∃ x, e = .returned x) ∧ w = w' := by
  have HI := Lib.hid (fun w => ins_01 w A k cc n hn)
  have hle : n ≤ 12 := by omega
  have e1 : IntKind.i64.wrap (n - 0) = n := by rw [Int.sub_zero]; exact IntWalk.i64_in _ (by omega)
  have e2 : IntKind.i64.wrap n = n := IntWalk.i64_in _ (by omega)
  clear hn
  go_enter Try.func61, Try.ntmps61
  go_wp2_with fail
  go_loopw [1, 2] (fun a b wr => a = .int .i64 0 ∧ b = .int .i64 n ∧ wr = w) (fun _ _ _ => 0)
  case atStart => exact ⟨rfl, rfl, rfl⟩
  case round =>
    obtain ⟨rfl, rfl, rfl⟩ := hrel
    go_wp2_with (go_at_call 86; refine (HI.out _).mono ?_; rintro e w1 ⟨⟨x, rfl⟩, rfl⟩)
    first | go_end0 | (refine bodyPost_ret (results_none rfl _ _ _) rfl ?_)
    exact ⟨⟨_, rfl⟩, rfl⟩
theorem sort_01 (w : World) (A : Option Addr) (k cc : Nat) (hn : k = 0 ∨ k = 1) : Calls Try.prog 45 #[.slice A k cc] w fun e w' => (∃ x, e = .returned x) ∧ w = w' := by
  have HI := Lib.hid (fun w m => pdq_01 w A k cc k m (by omega))
  have HL := Lib.hid (fun w => len_01 w k (by omega))
  have e1 : IntKind.u64.wrap (k : Int) = k := by rcases hn with rfl | rfl <;> rfl
  clear hn
  go_enter Try.func45, Try.ntmps45
  go_wp2_with (first
    | (go_at_call 62; refine (HL.out _).mono ?_; rintro e w1 ⟨⟨m, rfl⟩, rfl⟩)
    | (go_at_call 61; refine (HI.out _ _).mono ?_; rintro e w2 ⟨⟨x, rfl⟩, rfl⟩))
  first | go_end0 | (refine bodyPost_ret (results_none rfl _ _ _) rfl ?_)
  exact ⟨⟨_, rfl⟩, rfl⟩

theorem du_take (Y : MSt) (w0 w : World) (g a b c s : Nat) (T M R : List (Int × Int)) (now : Int) (h : DuW Y w0 g a b c s T M R w) (hn : R.length ≤ 800) :
    Calls Try.prog 44 #[.pointer (some ⟨c, 0, none⟩), .int .i64 now] w fun e w' => ∃ (m : Nat) (L : List (Int × Int)) (A : Option Addr) (cc : Nat), L.Perm R ∧ m ≤ L.length ∧ (∀ x ∈ L.take m, x.2 ≤ now) ∧ (∀ x, L[m]? = some x → now < x.2) ∧ e = .returned (.slice A m cc) ∧ w'.ownsRow (w.heap.size + 3) 3 1 (.slice A m cc) m ((L.take m).map fun x => .int .i64 x.1) ∧ DuW Y w0 g a b c s T M (dcuts (L.take m) R) w' ∧ OthW w w' := by
  obtain ⟨s1, v, u, L, K, L2, K2, v1, v2, v3, v4, a1, a2, a3, a4, a5, a6⟩ := h.duo.is
  obtain ⟨l1, l2⟩ := a4.len
  simp only at l1 l2
  refine (take_anyI w _ c s L2 K2 v3 v4 now a3.tm (by omega) (by omega) a4.tie.rise).mono ?_
  rintro e w' ⟨m, kv, hm, hle, hgt, rfl, hown, hgo⟩
  obtain ⟨A, cc, rfl⟩ := own_slice hown
  obtain ⟨h1, h2⟩ := h.timed a1 a2 a3 a5 a6 (a4.takes m hm) hgo
  exact ⟨m, L2, A, cc, a4.lp, hm, hle, hgt, rfl, hown, h1, h2⟩
theorem du_take0 (Y : MSt) (w0 w : World) (g a b c s : Nat) (T M R : List (Int × Int)) (now : Int) (h : DuW Y w0 g a b c s T M R w) (hn : R.length ≤ 800) (hR : ∀ x ∈ R, now < x.2) :
    Calls Try.prog 44 #[.pointer (some ⟨c, 0, none⟩), .int .i64 now] w fun e w' => ∃ A cc, e = .returned (.slice A 0 cc) ∧ cc ≤ maxLen ∧ DuW Y w0 g a b c s T M R w' ∧ OthW w w' := by
  refine (du_take Y w0 w g a b c s T M R now h hn).mono ?_
  rintro e w' ⟨m, L, A, cc, hp, hm, hle, hgt, rfl, hown, h1, h2⟩
  have hm0 : m = 0 := by
    rcases Nat.eq_zero_or_pos m with hz | hz
    · exact hz
    · cases L with
      | nil => simp at hm; omega
      | cons y L =>
        have h4 := hle y (by obtain ⟨j, rfl⟩ : ∃ j, m = j + 1 := ⟨m - 1, by omega⟩; simp)
        have h5 := hR y (hp.mem_iff.1 (by simp))
        omega
  subst hm0
  have hc : cc ≤ maxLen := by
    rcases hown.2 with ⟨e, _⟩ | ⟨g', cap, cur, e, _, _, _, h5, _⟩
    · cases e; simp [maxLen]
    · cases e; exact h5
  exact ⟨A, cc, rfl, hc, h1, h2⟩
theorem du_take1 (Y : MSt) (w0 w : World) (g a b c s : Nat) (T M : List (Int × Int)) (k x now : Int) (h : DuW Y w0 g a b c s T M [(k, x)] w) (hx : x ≤ now) :
    Calls Try.prog 44 #[.pointer (some ⟨c, 0, none⟩), .int .i64 now] w fun e w' => ∃ bb cc, e = .returned (.slice (some ⟨bb, 0, none⟩) 1 cc) ∧ 1 ≤ cc ∧ cc ≤ maxLen ∧ w'.ownsRow w.heap.size 3 1 (.slice (some ⟨bb, 0, none⟩) 1 cc) 1 [.int .i64 k] ∧ DuW Y w0 g a b c s T M [] w' ∧ OthW w w' := by
  refine (du_take Y w0 w g a b c s T M _ now h (by simp)).mono ?_
  rintro e w' ⟨m, L, A, cc, hp, hm, hle, hgt, rfl, hown, h1, h2⟩
  obtain rfl : L = [(k, x)] := List.perm_singleton.1 hp
  simp only [List.length_cons, List.length_nil] at hm
  have hm1 : m = 1 := by
    rcases Nat.eq_zero_or_pos m with hz | hz
    · subst hz
      have := hgt (k, x) rfl
      simp only at this
      omega
    · omega
  subst hm1
  have e1 : dcuts (List.take 1 [(k, x)]) [(k, x)] = [] := by simp [dcuts, dcut]
  rw [e1] at h1
  have hown' := own_less hown (show w.heap.size ≤ w.heap.size + 3 by omega)
  obtain ⟨bb, cap, cur, ee, hb, hg, hc1, hc2, _⟩ := own_some hown (by omega)
  cases ee
  exact ⟨bb, cc, rfl, hc1, hc2, hown', h1, h2⟩
theorem du_check0 (Y : MSt) (w0 w : World) (g a b c s : Nat) (T M R : List (Int × Int)) (now : Int) (h : DuW Y w0 g a b c s T M R w) (hn : R.length ≤ 800) (hR : ∀ x ∈ R, now < x.2) :
    Calls Try.prog 21 #[.pointer (some ⟨g, 0, none⟩), .int .i64 now] w fun e w' => ∃ A cc, e = .returned (.slice A 0 cc) ∧ cc ≤ maxLen ∧ DuW Y w0 g a b c s T M R w' ∧ OthW w w' := by
  have HT := Lib.hid (du_take0 Y w0 w g a b c s T M R now h hn hR)
  obtain ⟨c0, c1, c2⟩ := h.cells
  clear h hn hR
  go_enter Try.func21, Try.ntmps21
  go_wp2_with (go_at_call 44; refine HT.out.mono ?_; rintro e w1 ⟨A, cc, rfl, hc, h1, o1⟩; have HW := Lib.hid h1; have HO := Lib.hid o1; have HC := Lib.hid hc; clear hc h1 o1 c0 c1 c2)
  go_loopw [18] (fun i wr => i = .int .i64 0 ∧ wr = w1) (fun _ _ => 0)
  case atStart => exact ⟨rfl, rfl⟩
  case round =>
    obtain ⟨rfl, rfl⟩ := hrel
    go_wp2_with (go_at_call 45; refine (sort_01 _ A 0 cc (.inl rfl)).mono ?_; rintro e w2 ⟨⟨x, rfl⟩, rfl⟩)
    go_ret
    exact ⟨A, cc, rfl, HC.out, HW.out, HO.out⟩
theorem du_check1 (Y : MSt) (w0 w : World) (g a b c s : Nat) (T M : List (Int × Int)) (k x now : Int) (h : DuW Y w0 g a b c s T M [(k, x)] w) (hx : x ≤ now) (hM : M.length ≤ 800) :
    Calls Try.prog 21 #[.pointer (some ⟨g, 0, none⟩), .int .i64 now] w fun e w' => ∃ bb cc, e = .returned (.slice (some ⟨bb, 0, none⟩) 1 cc) ∧ 1 ≤ cc ∧ cc ≤ maxLen ∧ w'.ownsRow w.heap.size 3 1 (.slice (some ⟨bb, 0, none⟩) 1 cc) 1 [.int .i64 k] ∧ DuW Y w0 g a b c s T (cutI k M) [] w' ∧ OthW w w' := by
  have HT := Lib.hid (du_take1 Y w0 w g a b c s T M k x now h hx)
  obtain ⟨c0, c1, c2⟩ := h.cells
  clear h hx
  go_enter Try.func21, Try.ntmps21
  go_wp2_with (go_at_call 44; refine HT.out.mono ?_; rintro e w1 ⟨bb, cc, rfl, hc0, hc, hr, h1, o1⟩; have HW := Lib.hid h1; have HO := Lib.hid o1; have HC := Lib.hid (And.intro hc0 hc); have HR := Lib.hid hr; clear hc0 hc h1 o1 hr c0 c1 c2)
  go_loopw [18] (fun i wr => (i = .int .i64 0 ∧ wr = w1) ∨ (i = .int .i64 1 ∧ Hid (DuW Y w0 g a b c s T (cutI k M) [] wr) ∧ Hid (wr.ownsRow w.heap.size 3 1 (.slice (some ⟨bb, 0, none⟩) 1 cc) 1 [.int .i64 k]) ∧ Hid (OthW w wr))) (fun i _ => 1 - (intOf i).toNat)
  case atStart => exact .inl ⟨rfl, rfl⟩
  case round =>
    rcases hrel with ⟨rfl, rfl⟩ | ⟨rfl, HW2, HR2, HO2⟩
    · have hc0 := HC.out.1
      have hc1 := HC.out.2
      simp only [maxLen] at hc1
      obtain ⟨c0, c1, c2⟩ := HW.out.cells
      have hcell : wr.cell? ⟨bb, 0, none⟩ = some (.int .i64 k) := by rw [own_cell HR.out (by omega)]; rfl
      go_wp2_with (go_at_call 37; refine (HW.out.cutm k hM).mono ?_; rintro e w2 ⟨rfl, h2, o2⟩; have HW2 := Lib.hid h2; have HR2 := Lib.hid (kpt_own (o2 _ (by decide) (by decide) (by decide) (by decide) (by decide) (by decide)) HR.out); have HO2 := Lib.hid (HO.out.trans o2); clear h2 o2 c0 c1 c2 hcell)
      go_roundw
      case rel => exact .inr ⟨by first | rfl | go_num, HW2, HR2, HO2⟩
      case measure => simp [intOf]
    · clear HW HO HR
      go_wp2_with (go_at_call 45; refine (sort_01 _ _ 1 cc (.inr rfl)).mono ?_; rintro e w2 ⟨⟨x, rfl⟩, rfl⟩)
      go_ret
      exact ⟨bb, cc, rfl, HC.out.1, HC.out.2, HR2.out, HW2.out, HO2.out⟩
end Go.Proofs.Ytiidgcgamcgipaa
