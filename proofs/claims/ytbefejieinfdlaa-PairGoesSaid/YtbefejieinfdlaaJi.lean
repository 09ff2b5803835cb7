/- The walk of PairGoes. -/
import Derived.Test.YtbefejieinfdlaaJh
namespace Go.Proofs.Ytbefejieinfdlaa
open Go.RowKit
set_option linter.unusedSimpArgs false
set_option linter.unusedVariables false

theorem str_len8 (l : List Int) : (strOfNums l).size = l.length := by simp [strOfNums, ByteArray.size]
/-- What stands in memory: three arrays, and a checker. -/
structure GoS (w : World) (g n : Nat) (a b T : Nat → Int) (v : List Int) (x : World) : Prop where
  a : A8 x w.heap.size a
  b : A8 x (w.heap.size + 1) b
  t : A8 x (w.heap.size + 1 + 1) T
  c : CkT x g n none v
  bel : Below w.heap.size w x
  lt : w.heap.size + 2 < g
section
variable {w x y : World} {g n : Nat} {a b T : Nat → Int} {v v2 : List Int}
theorem GoS.below (h : GoS w g n a b T v x) (hb : Below x.heap.size x y) : GoS w g n a b T v y := ⟨h.a.below hb, h.b.below hb, h.t.below hb, h.c.below hb, kF hb h.bel, h.lt⟩
theorem GoS.onl (h : GoS w g n a b T v x) (hc : CkT y g n none v2) (ho : Onl g x y) : GoS w g n a b T v2 y :=
  ⟨(ho.oth _ h.a.lt (by have := h.lt; omega)).trans h.a, (ho.oth _ h.b.lt (by have := h.lt; omega)).trans h.b, (ho.oth _ h.t.lt (by have := h.lt; omega)).trans h.t, hc, h.bel.trans (ho.from_ (by have := h.lt; omega)), h.lt⟩
end
theorem goS_arrays (w : World) (a b T : Nat → Int) : A8 (((w.alloc (.cells #[.int .u8 (a 0), .int .u8 (a 1), .int .u8 (a 2), .int .u8 (a 3), .int .u8 (a 4), .int .u8 (a 5), .int .u8 (a 6), .int .u8 (a 7)] 28)).alloc (.cells #[.int .u8 (b 0), .int .u8 (b 1), .int .u8 (b 2), .int .u8 (b 3), .int .u8 (b 4), .int .u8 (b 5), .int .u8 (b 6), .int .u8 (b 7)] 28)).alloc (.cells #[.int .u8 (T 0), .int .u8 (T 1), .int .u8 (T 2), .int .u8 (T 3), .int .u8 (T 4), .int .u8 (T 5), .int .u8 (T 6), .int .u8 (T 7)] 28)) w.heap.size a ∧ A8 (((w.alloc (.cells #[.int .u8 (a 0), .int .u8 (a 1), .int .u8 (a 2), .int .u8 (a 3), .int .u8 (a 4), .int .u8 (a 5), .int .u8 (a 6), .int .u8 (a 7)] 28)).alloc (.cells #[.int .u8 (b 0), .int .u8 (b 1), .int .u8 (b 2), .int .u8 (b 3), .int .u8 (b 4), .int .u8 (b 5), .int .u8 (b 6), .int .u8 (b 7)] 28)).alloc (.cells #[.int .u8 (T 0), .int .u8 (T 1), .int .u8 (T 2), .int .u8 (T 3), .int .u8 (T 4), .int .u8 (T 5), .int .u8 (T 6), .int .u8 (T 7)] 28)) (w.heap.size + 1) b ∧ A8 (((w.alloc (.cells #[.int .u8 (a 0), .int .u8 (a 1), .int .u8 (a 2), .int .u8 (a 3), .int .u8 (a 4), .int .u8 (a 5), .int .u8 (a 6), .int .u8 (a 7)] 28)).alloc (.cells #[.int .u8 (b 0), .int .u8 (b 1), .int .u8 (b 2), .int .u8 (b 3), .int .u8 (b 4), .int .u8 (b 5), .int .u8 (b 6), .int .u8 (b 7)] 28)).alloc (.cells #[.int .u8 (T 0), .int .u8 (T 1), .int .u8 (T 2), .int .u8 (T 3), .int .u8 (T 4), .int .u8 (T 5), .int .u8 (T 6), .int .u8 (T 7)] 28)) (w.heap.size + 2) T ∧ Below w.heap.size w (((w.alloc (.cells #[.int .u8 (a 0), .int .u8 (a 1), .int .u8 (a 2), .int .u8 (a 3), .int .u8 (a 4), .int .u8 (a 5), .int .u8 (a 6), .int .u8 (a 7)] 28)).alloc (.cells #[.int .u8 (b 0), .int .u8 (b 1), .int .u8 (b 2), .int .u8 (b 3), .int .u8 (b 4), .int .u8 (b 5), .int .u8 (b 6), .int .u8 (b 7)] 28)).alloc (.cells #[.int .u8 (T 0), .int .u8 (T 1), .int .u8 (T 2), .int .u8 (T 3), .int .u8 (T 4), .int .u8 (T 5), .int .u8 (T 6), .int .u8 (T 7)] 28)) ∧ (((w.alloc (.cells #[.int .u8 (a 0), .int .u8 (a 1), .int .u8 (a 2), .int .u8 (a 3), .int .u8 (a 4), .int .u8 (a 5), .int .u8 (a 6), .int .u8 (a 7)] 28)).alloc (.cells #[.int .u8 (b 0), .int .u8 (b 1), .int .u8 (b 2), .int .u8 (b 3), .int .u8 (b 4), .int .u8 (b 5), .int .u8 (b 6), .int .u8 (b 7)] 28)).alloc (.cells #[.int .u8 (T 0), .int .u8 (T 1), .int .u8 (T 2), .int .u8 (T 3), .int .u8 (T 4), .int .u8 (T 5), .int .u8 (T 6), .int .u8 (T 7)] 28)).heap.size = w.heap.size + 3 := by
  refine ⟨?_, ?_, ?_, (((Below.refl _ _).alloc (Nat.le_refl _) _).alloc (by simp) _).alloc (by simp; omega) _, by simp⟩
  · exact (heap_alloc_old _ _ (by simp; omega)).trans ((heap_alloc_old _ _ (by simp)).trans (heap_alloc_new w _))
  · have h := heap_alloc_new (w.alloc (.cells #[.int .u8 (a 0), .int .u8 (a 1), .int .u8 (a 2), .int .u8 (a 3), .int .u8 (a 4), .int .u8 (a 5), .int .u8 (a 6), .int .u8 (a 7)] 28)) (.cells #[.int .u8 (b 0), .int .u8 (b 1), .int .u8 (b 2), .int .u8 (b 3), .int .u8 (b 4), .int .u8 (b 5), .int .u8 (b 6), .int .u8 (b 7)] 28)
    rw [show (w.alloc (.cells #[.int .u8 (a 0), .int .u8 (a 1), .int .u8 (a 2), .int .u8 (a 3), .int .u8 (a 4), .int .u8 (a 5), .int .u8 (a 6), .int .u8 (a 7)] 28)).heap.size = w.heap.size + 1 by simp] at h
    exact (heap_alloc_old _ _ (by simp)).trans h
  · have h := heap_alloc_new ((w.alloc (.cells #[.int .u8 (a 0), .int .u8 (a 1), .int .u8 (a 2), .int .u8 (a 3), .int .u8 (a 4), .int .u8 (a 5), .int .u8 (a 6), .int .u8 (a 7)] 28)).alloc (.cells #[.int .u8 (b 0), .int .u8 (b 1), .int .u8 (b 2), .int .u8 (b 3), .int .u8 (b 4), .int .u8 (b 5), .int .u8 (b 6), .int .u8 (b 7)] 28)) (.cells #[.int .u8 (T 0), .int .u8 (T 1), .int .u8 (T 2), .int .u8 (T 3), .int .u8 (T 4), .int .u8 (T 5), .int .u8 (T 6), .int .u8 (T 7)] 28)
    rw [show ((w.alloc (.cells #[.int .u8 (a 0), .int .u8 (a 1), .int .u8 (a 2), .int .u8 (a 3), .int .u8 (a 4), .int .u8 (a 5), .int .u8 (a 6), .int .u8 (a 7)] 28)).alloc (.cells #[.int .u8 (b 0), .int .u8 (b 1), .int .u8 (b 2), .int .u8 (b 3), .int .u8 (b 4), .int .u8 (b 5), .int .u8 (b 6), .int .u8 (b 7)] 28)).heap.size = w.heap.size + 2 by simp] at h
    exact h
theorem zB_zero : ∀ n, zB (fun _ => 0) n = true
  | 0 => rfl
  | n + 1 => by simp [zB, zB_zero n]
theorem zB_mono (T : Nat → Int) (n : Nat) : zB T (n + 1) = (zB T n && (T n == 0)) := rfl
set_option maxRecDepth 100000 in
set_option maxHeartbeats 16000000 in
theorem goes_walk (a b T : Nat → Int) (size : Int) (sec : Bool) (w : World) (ha : ∀ j, j < 8 → 0 ≤ a j ∧ a j ≤ 255) (hb : ∀ j, j < 8 → 0 ≤ b j ∧ b j ≤ 255) (hT : ∀ j, j < 8 → 0 ≤ T j ∧ T j ≤ 255) (hs : 0 ≤ size ∧ size ≤ 255) :
    Calls Try.prog 5 #[.agg #[.int .u8 (a 0), .int .u8 (a 1), .int .u8 (a 2), .int .u8 (a 3), .int .u8 (a 4), .int .u8 (a 5), .int .u8 (a 6), .int .u8 (a 7)], .agg #[.int .u8 (b 0), .int .u8 (b 1), .int .u8 (b 2), .int .u8 (b 3), .int .u8 (b 4), .int .u8 (b 5), .int .u8 (b 6), .int .u8 (b 7)], .int .u8 size, .agg #[.int .u8 (T 0), .int .u8 (T 1), .int .u8 (T 2), .int .u8 (T 3), .int .u8 (T 4), .int .u8 (T 5), .int .u8 (T 6), .int .u8 (T 7)], .bool sec] w fun e w' => e = .returned (.bool true) ∧ Below w.heap.size w w' := by
  have e1 : IntKind.i64.wrap size = size := IntWalk.i64_in _ (by omega)
  obtain ⟨t1, ht1⟩ : ∃ t, size.tmod 8 = t := ⟨_, rfl⟩
  have hb1 : 0 ≤ t1 ∧ t1 ≤ 7 := by rw [← ht1, Int.tmod_eq_emod_of_nonneg hs.1]; omega
  have e2 : IntKind.i64.wrap t1 = t1 := IntWalk.i64_in _ (by omega)
  obtain ⟨n, hn⟩ : ∃ n : Nat, 1 + t1 = (n : Int) := ⟨(1 + t1).toNat, by omega⟩
  have e3 : IntKind.i64.wrap (1 + t1) = (n : Int) := by rw [hn]; exact IntWalk.i64_in _ (by omega)
  have hn1 : 1 ≤ n := by omega
  have hn8 : n ≤ 8 := by omega
  have hni : (n : Int) ≤ 8 := by omega
  obtain ⟨ar1, ar2, ar3, ar4, ar5⟩ := goS_arrays w a b T
  have H1 := Lib.hid ar1
  have H2 := Lib.hid ar2
  have H3 := Lib.hid ar3
  have H4 := Lib.hid ar4
  have H5 := Lib.hid ar5
  have HAR := Lib.hid ha
  have HBR := Lib.hid hb
  have HTR := Lib.hid hT
  have HRA := Lib.hid (bL_range n a hn8 ha)
  have HRB := Lib.hid (bL_range n b hn8 hb)
  have HLA := Lib.hid (bL_len n a)
  have HLB := Lib.hid (bL_len n b)
  have HNW := Lib.hid (fun (x : World) => cnew_ok n x ⟨hn1, hn8⟩)
  clear hs hb1 hn ar1 ar2 ar3 ar4 ar5 ha hb hT
  go_enter Try.func5, Try.ntmps5
  go_upto_region 1 with fail
  generalize (((w.alloc (.cells #[.int .u8 (a 0), .int .u8 (a 1), .int .u8 (a 2), .int .u8 (a 3), .int .u8 (a 4), .int .u8 (a 5), .int .u8 (a 6), .int .u8 (a 7)] 28)).alloc (.cells #[.int .u8 (b 0), .int .u8 (b 1), .int .u8 (b 2), .int .u8 (b 3), .int .u8 (b 4), .int .u8 (b 5), .int .u8 (b 6), .int .u8 (b 7)] 28)).alloc (.cells #[.int .u8 (T 0), .int .u8 (T 1), .int .u8 (T 2), .int .u8 (T 3), .int .u8 (T 4), .int .u8 (T 5), .int .u8 (T 6), .int .u8 (T 7)] 28)) = w0 at *
  go_upto_region 6 with (go_at_call 14; refine (HNW.out _).mono ?_; rintro e w1 ⟨g, hg, rfl, x1, b1⟩; have HS1 := Lib.hid (show GoS w g n a b T [] w1 from ⟨H1.out.below b1, H2.out.below b1, H3.out.below b1, x1, kF b1 H4.out, by have := H5.out; omega⟩); clear x1 b1 hg)
  clear H1 H2 H3 H4 H5 HNW e1 e2 e3 ht1
  have HSF := Lib.hid (fun (x : World) (v la : List Int) (g2 : Nat) (d : Nat → Int) (hx : CkT x g la.length none v) (hB : Byt x x.heap.size (some ⟨g2, 0, none⟩) la.length 8 la) (hd : ∀ j, j < 8 → 0 ≤ d j ∧ d j ≤ 255) => send_first g 8 (some ⟨g2, 0, none⟩) la v d x hx hB hd)
  have HSS := Lib.hid (fun (x : World) (v la : List Int) (g2 : Nat) (d : Nat → Int) (hx : CkT x g la.length none v) (hB : Byt x x.heap.size (some ⟨g2, 0, none⟩) la.length 8 la) (hd : ∀ j, j < 8 → 0 ≤ d j ∧ d j ≤ 255) => send_second g 8 (some ⟨g2, 0, none⟩) la v d x hx hB hd)
  have HS2 := Lib.hid (HS1.out.below (kD w1))
  have HBYA := Lib.hid (fun (x : World) (v : List Int) (hx : GoS w g n a b T v x) => hx.a.byt HAR.out hn8)
  have HBYB := Lib.hid (fun (x : World) (v : List Int) (hx : GoS w g n a b T v x) => hx.b.byt HBR.out hn8)
  obtain ⟨la, hla⟩ : ∃ l, bL n a = l := ⟨_, rfl⟩
  obtain ⟨lb, hlb⟩ : ∃ l, bL n b = l := ⟨_, rfl⟩
  rw [hla] at HBYA HLA HRA
  rw [hlb] at HBYB HLB HRB
  clear hla hlb
  -- the first pair
  have HP1 := Lib.hid (show Calls Try.prog 24 #[.pointer (some ⟨g, 0, none⟩), .slice (some ⟨w.heap.size, 0, none⟩) n 8, .agg #[.int .u8 0, .int .u8 0, .int .u8 0, .int .u8 0, .int .u8 0, .int .u8 0, .int .u8 0, .int .u8 0], .bool false] w1.drew fun e w' => e = .returned (.int .i64 2) ∧ CkT w' g n none la ∧ Onl g w1.drew w' by
    have h := HSF.out w1.drew [] la w.heap.size (fun _ => 0) (by rw [HLA.out]; exact HS2.out.c) (by rw [HLA.out]; exact HBYA.out _ _ HS2.out) (fun j _ => by omega)
    rw [zB_zero, HLA.out] at h
    exact h)
  have hsl : ((strOfNums la).toList == (strOfNums la).toList) = true := by simp
  clear HS1
  go_wp2_with fail
  go_cut [43] from 31 to 42 (fun s43 wx => s43 = .bool false ∧ Hid (GoS w g n a b T la wx))
  case first =>
    go_region_held (fun _ => True) (first | trivial | exact True.intro)
      (first
        | (go_at_call 24; (with_reducible refine (HP1.out).mono ?_); rintro e w3 ⟨rfl, x3, o3⟩; have HS3 := Lib.hid (HS2.out.onl x3 o3); have stA3 := run_str 22 5 Try.underlying22 Try.underlying5 (HBYA.out _ _ HS3.out) 9 Try.underlying9; clear x3 o3)
        | (go_at_call 19; (with_reducible refine (valueT HS3.out.c).mono ?_); rintro e w4 ⟨A4, c4, rfl, y4, b4⟩; have HS4 := Lib.hid (HS3.out.below b4); have stA4 := run_str 22 5 Try.underlying22 Try.underlying5 (HBYA.out _ _ HS4.out) 9 Try.underlying9; have stV4 := run_str 22 5 Try.underlying22 Try.underlying5 y4 9 Try.underlying9; clear y4 b4))
    all_goals
      go_wp2_with fail
      go_meet
      exact ⟨rfl, HS4⟩
  case rest =>
  clear HS2 HP1
  obtain ⟨rfl, HS⟩ := hcut
  go_wp2_with fail
  go_loopw [15, 16] (fun sm i wr => ∃ (j : Nat) (S : Bool), j ≤ n ∧ sm = .bool S ∧ i = .int .i64 j ∧ Hid (S = !zB T j) ∧ Hid (GoS w g n a b T la wr)) (fun _ i _ => 20 - (intOf i).toNat)
  case atStart => exact ⟨0, false, by omega, rfl, rfl, Lib.hid rfl, HS⟩
  case round =>
    clear HS
    obtain ⟨j, S, hj, rfl, rfl, HZ, HS⟩ := hrel
    by_cases hlt : j < n
    · have hji : (j : Int) < (n : Int) := by omega
      have hj8 : (j : Int) < 8 := by omega
      cases S with
      | true =>
        have HZ2 := Lib.hid (show true = !zB T (j + 1) by rw [zB_mono]; have := HZ.out; cases hz : zB T j with | true => (rw [hz] at this; cases this) | false => rfl)
        go_wp2_with fail
        exact ⟨⟨j + 1, true, by omega, rfl, by go_num, HZ2, HS⟩, by simp [intOf]; omega⟩
      | false =>
        have hz : zB T j = true := by have := HZ.out; cases hz : zB T j with | true => rfl | false => (rw [hz] at this; cases this)
        have dt : wr.cell? ⟨w.heap.size + 1 + 1, j, none⟩ = some (.int .u8 (T j)) := HS.out.t.cell (by omega)
        by_cases h0 : T j = 0
        · have HZ2 := Lib.hid (show false = !zB T (j + 1) by rw [zB_mono, hz, h0]; rfl)
          rw [h0] at dt
          clear hz h0
          go_wp2_with fail
          exact ⟨⟨j + 1, false, by omega, rfl, by go_num, HZ2, HS⟩, by simp [intOf]; omega⟩
        · have h0b : (T j == 0) = false := by simpa using h0
          have h0c : (T j != 0) = true := by simpa using h0
          have HZ2 := Lib.hid (show true = !zB T (j + 1) by rw [zB_mono, hz, h0b]; rfl)
          clear hz h0
          generalize T j = t at dt h0b h0c
          go_wp2_with fail
          exact ⟨⟨j + 1, true, by omega, rfl, by go_num, HZ2, HS⟩, by simp [intOf]; omega⟩
    · obtain rfl : j = n := by omega
      have HS2 := Lib.hid (HS.out.below (kD wr))
      have HP2 := Lib.hid (show Calls Try.prog 24 #[.pointer (some ⟨g, 0, none⟩), .slice (some ⟨w.heap.size + 1, 0, none⟩) j 8, .agg #[.int .u8 (T 0), .int .u8 (T 1), .int .u8 (T 2), .int .u8 (T 3), .int .u8 (T 4), .int .u8 (T 5), .int .u8 (T 6), .int .u8 (T 7)], .bool sec] wr.drew fun e w' => e = .returned (.int .i64 (if zB T j then 2 else 5)) ∧ CkT w' g j none (if zB T j then lb else la) ∧ Onl g wr.drew w' by
        cases sec
        · have h := HSF.out wr.drew la lb (w.heap.size + 1) T (by rw [HLB.out]; exact HS2.out.c) (by rw [HLB.out]; exact HBYB.out _ _ HS2.out) HTR.out
          rw [HLB.out] at h
          exact h
        · have h := HSS.out wr.drew la lb (w.heap.size + 1) T (by rw [HLB.out]; exact HS2.out.c) (by rw [HLB.out]; exact HBYB.out _ _ HS2.out) HTR.out
          rw [HLB.out] at h
          exact h)
      obtain ⟨R, hR⟩ : ∃ r, (if zB T j then (2 : Int) else 5) = r := ⟨_, rfl⟩
      obtain ⟨V, hV⟩ : ∃ r, (if zB T j then lb else la) = r := ⟨_, rfl⟩
      rw [hR, hV] at HP2
      have HR := Lib.hid hR
      have HV := Lib.hid hV
      have hw8 : (8 : Int) ≤ 8 := by omega
      clear hR hV
      have y0 : wr.drew.cell? ⟨w.heap.size + 1 + 1, 0, none⟩ = some (.int .u8 (T 0)) ∧ wr.drew.cell? ⟨w.heap.size + 1 + 1, 1, none⟩ = some (.int .u8 (T 1)) ∧ wr.drew.cell? ⟨w.heap.size + 1 + 1, 2, none⟩ = some (.int .u8 (T 2)) ∧ wr.drew.cell? ⟨w.heap.size + 1 + 1, 3, none⟩ = some (.int .u8 (T 3)) ∧ wr.drew.cell? ⟨w.heap.size + 1 + 1, 4, none⟩ = some (.int .u8 (T 4)) ∧ wr.drew.cell? ⟨w.heap.size + 1 + 1, 5, none⟩ = some (.int .u8 (T 5)) ∧ wr.drew.cell? ⟨w.heap.size + 1 + 1, 6, none⟩ = some (.int .u8 (T 6)) ∧ wr.drew.cell? ⟨w.heap.size + 1 + 1, 7, none⟩ = some (.int .u8 (T 7)) := ⟨HS2.out.t.cell (j := 0) (by omega), HS2.out.t.cell (j := 1) (by omega), HS2.out.t.cell (j := 2) (by omega), HS2.out.t.cell (j := 3) (by omega), HS2.out.t.cell (j := 4) (by omega), HS2.out.t.cell (j := 5) (by omega), HS2.out.t.cell (j := 6) (by omega), HS2.out.t.cell (j := 7) (by omega)⟩
      go_wp2_with fail
      go_cut [17] from 56 to 61 (fun s17 wx => s17 = .int .i64 R ∧ Hid (GoS w g j a b T V wx))
      case first =>
        go_region_held3 (fun x => x.cell? ⟨w.heap.size + 1 + 1, 0, none⟩ = some (.int .u8 (T 0)) ∧ x.cell? ⟨w.heap.size + 1 + 1, 1, none⟩ = some (.int .u8 (T 1)) ∧ x.cell? ⟨w.heap.size + 1 + 1, 2, none⟩ = some (.int .u8 (T 2)) ∧ x.cell? ⟨w.heap.size + 1 + 1, 3, none⟩ = some (.int .u8 (T 3)) ∧ x.cell? ⟨w.heap.size + 1 + 1, 4, none⟩ = some (.int .u8 (T 4)) ∧ x.cell? ⟨w.heap.size + 1 + 1, 5, none⟩ = some (.int .u8 (T 5)) ∧ x.cell? ⟨w.heap.size + 1 + 1, 6, none⟩ = some (.int .u8 (T 6)) ∧ x.cell? ⟨w.heap.size + 1 + 1, 7, none⟩ = some (.int .u8 (T 7))) (first | exact y0 | exact y1)
          (first
            | (go_at_call 24; (with_reducible refine (HP2.out).mono ?_); rintro e w3 ⟨rfl, x3, o3⟩; have HS3 := Lib.hid (HS2.out.onl x3 o3); have y1 : w3.cell? ⟨w.heap.size + 1 + 1, 0, none⟩ = some (.int .u8 (T 0)) ∧ w3.cell? ⟨w.heap.size + 1 + 1, 1, none⟩ = some (.int .u8 (T 1)) ∧ w3.cell? ⟨w.heap.size + 1 + 1, 2, none⟩ = some (.int .u8 (T 2)) ∧ w3.cell? ⟨w.heap.size + 1 + 1, 3, none⟩ = some (.int .u8 (T 3)) ∧ w3.cell? ⟨w.heap.size + 1 + 1, 4, none⟩ = some (.int .u8 (T 4)) ∧ w3.cell? ⟨w.heap.size + 1 + 1, 5, none⟩ = some (.int .u8 (T 5)) ∧ w3.cell? ⟨w.heap.size + 1 + 1, 6, none⟩ = some (.int .u8 (T 6)) ∧ w3.cell? ⟨w.heap.size + 1 + 1, 7, none⟩ = some (.int .u8 (T 7)) := ⟨HS3.out.t.cell (j := 0) (by omega), HS3.out.t.cell (j := 1) (by omega), HS3.out.t.cell (j := 2) (by omega), HS3.out.t.cell (j := 3) (by omega), HS3.out.t.cell (j := 4) (by omega), HS3.out.t.cell (j := 5) (by omega), HS3.out.t.cell (j := 6) (by omega), HS3.out.t.cell (j := 7) (by omega)⟩; clear x3 o3))
        all_goals
          go_wp2_with fail
          go_meet
          exact ⟨rfl, HS3⟩
      case rest =>
      clear HS HS2 HP2 y0
      obtain ⟨rfl, HS⟩ := hcut
      have HLV := Lib.hid (fun (x : World) => live27_any x)
      have HSD := Lib.hid (HS.out.below (kD wc))
      cases hz : zB T j with
      | false =>
        have hR5 : R = 5 := by rw [← HR.out, hz]; rfl
        have hVA : V = la := by rw [← HV.out, hz]; rfl
        subst hR5
        subst hVA
        obtain rfl : S = true := by have := HZ.out; rw [hz] at this; exact this
        clear hz HR HV HZ
        go_wp2_with fail
        go_region_held (fun _ => True) (first | trivial | exact True.intro)
          (first
            | (go_at_call 7; (with_reducible refine (HLV.out _).mono ?_); rintro e w5 ⟨rfl, b5⟩; have HS5 := Lib.hid (HSD.out.below b5); have stA5 := run_str 22 5 Try.underlying22 Try.underlying5 (HBYA.out _ _ HS5.out) 9 Try.underlying9; clear b5)
            | (go_at_call 19; (with_reducible refine (valueT HS5.out.c).mono ?_); rintro e w6 ⟨A6, c6, rfl, y6, b6⟩; have HS6 := Lib.hid (HS5.out.below b6); have stA6 := run_str 22 5 Try.underlying22 Try.underlying5 (HBYA.out _ _ HS6.out) 9 Try.underlying9; have stV6 := run_str 22 5 Try.underlying22 Try.underlying5 y6 9 Try.underlying9; clear y6 b6)
            | (go_at_call 18; (with_reducible refine (halfT HS6.out.c).mono ?_); rintro e w7 ⟨rfl, rfl⟩))
        all_goals
          go_wp2_with fail
          go_ret
          exact ⟨rfl, HS6.out.bel⟩
      | true =>
        have hR5 : R = 2 := by rw [← HR.out, hz]; rfl
        have hVA : V = lb := by rw [← HV.out, hz]; rfl
        subst hR5
        subst hVA
        obtain rfl : S = false := by have := HZ.out; rw [hz] at this; exact this
        have hsb : ((strOfNums V).toList == (strOfNums V).toList) = true := by simp
        clear hz HR HV HZ
        go_wp2_with fail
        go_region_held (fun _ => True) (first | trivial | exact True.intro)
          (first
            | (go_at_call 7; (with_reducible refine (HLV.out _).mono ?_); rintro e w5 ⟨rfl, b5⟩; have HS5 := Lib.hid (HSD.out.below b5); have stA5 := run_str 22 5 Try.underlying22 Try.underlying5 (HBYB.out _ _ HS5.out) 9 Try.underlying9; clear b5)
            | (go_at_call 19; (with_reducible refine (valueT HS5.out.c).mono ?_); rintro e w6 ⟨A6, c6, rfl, y6, b6⟩; have HS6 := Lib.hid (HS5.out.below b6); have stA6 := run_str 22 5 Try.underlying22 Try.underlying5 (HBYB.out _ _ HS6.out) 9 Try.underlying9; have stV6 := run_str 22 5 Try.underlying22 Try.underlying5 y6 9 Try.underlying9; clear y6 b6))
        all_goals
          go_wp2_with fail
          go_ret
          exact ⟨rfl, HS6.out.bel⟩
end Go.Proofs.Ytbefejieinfdlaa
