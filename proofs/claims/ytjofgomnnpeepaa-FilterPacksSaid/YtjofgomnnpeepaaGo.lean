/- The set of identifiers: add. -/
import Derived.Test.YtjofgomnnpeepaaGn
import Derived.Deep.RegionWith
namespace Go.Proofs.Ytjofgomnnpeepaa
open Go.RowKit Go.Sort

theorem and_split (x y : Nat) : x &&& y = 2 * (x / 2 &&& y / 2) + (x % 2) * (y % 2) := by
  have h1 : (x &&& y) / 2 = x / 2 &&& y / 2 := Nat.and_div_two
  have h2 : (x &&& y) % 2 = (x % 2) &&& (y % 2) := by
    have := Nat.and_mod_two_pow (a := x) (b := y) (n := 1)
    simpa using this
  have h3 : (x % 2) &&& (y % 2) = (x % 2) * (y % 2) := by
    rcases Nat.mod_two_eq_zero_or_one x with h | h <;> rcases Nat.mod_two_eq_zero_or_one y with h' | h' <;> simp [h, h']
  have h4 := Nat.div_add_mod (x &&& y) 2
  rw [h1, h2, h3] at h4
  exact h4.symm
theorem sub_next : ∀ (m F y : Nat), m &&& F = m → y &&& F = y → y < m → y ≤ (m - 1) &&& F := by
  intro m
  induction m using Nat.strongRecOn with
  | ind m ih =>
    intro F y hm hy hlt
    have sm := and_split m F
    have sy := and_split y F
    have s1 := and_split (m - 1) F
    rw [hm] at sm
    rw [hy] at sy
    rcases Nat.mod_two_eq_zero_or_one m with h | h
    · -- even
      have e1 : (m - 1) / 2 = m / 2 - 1 := by omega
      have e2 : (m - 1) % 2 = 1 := by omega
      rw [e1, e2] at s1
      have hmF : m / 2 &&& F / 2 = m / 2 := by rw [h] at sm; simp at sm; omega
      have hyb : (y % 2) * (F % 2) = y % 2 := by
        rcases Nat.mod_two_eq_zero_or_one y with a | a <;> rcases Nat.mod_two_eq_zero_or_one F with b | b <;> rw [a, b] at sy ⊢ <;> omega
      have hyF : y / 2 &&& F / 2 = y / 2 := by rw [hyb] at sy; omega
      have hyb2 : y % 2 ≤ F % 2 := by
        rcases Nat.mod_two_eq_zero_or_one y with a | a <;> rcases Nat.mod_two_eq_zero_or_one F with b | b <;> rw [a, b] at hyb ⊢ <;> omega
      have := ih (m / 2) (by omega) (F / 2) (y / 2) hmF hyF (by omega)
      rw [s1]
      omega
    · have hF1 : F % 2 = 1 := by
        rcases Nat.mod_two_eq_zero_or_one F with b | b
        · rw [h, b] at sm; omega
        · exact b
      have e1 : (m - 1) / 2 = m / 2 := by omega
      have e2 : (m - 1) % 2 = 0 := by omega
      rw [e1, e2] at s1
      have hmF : m / 2 &&& F / 2 = m / 2 := by rw [h, hF1] at sm; omega
      rw [s1, hmF]
      omega
theorem sub_le (m F y : Nat) (hm : m &&& F = m) (hy : y &&& F = y) (h0 : 0 < m) : m ≤ y ↔ (m - 1) &&& F < y := by
  constructor
  · intro h
    have : (m - 1) &&& F ≤ m - 1 := Nat.and_le_left
    omega
  · intro h
    rcases Nat.lt_or_ge y m with h1 | h1
    · have := sub_next m F y hm hy h1; omega
    · exact h1
theorem and_and_self (a b : Nat) : a &&& b &&& b = a &&& b := by rw [Nat.and_assoc, Nat.and_self]
/-- The bits of a number under a mask, and the others. -/
theorem parts (M q l m : Nat) (hM : M < 2048) (hq : q < 2048) (hl : l &&& M = l) (hm : m &&& (2047 - M) = m) : q = l ||| m ↔ (q &&& M = l ∧ q &&& (2047 - M) = m) := by
  have hF : ∀ i, (2047 - M).testBit i = (decide (i < 11) && !M.testBit i) := fun i => by
    have := Nat.testBit_two_pow_sub_succ (x := M) (n := 11) hM i
    simpa using this
  have hhigh : ∀ x i, x < 2048 → ¬ i < 11 → x.testBit i = false := fun x i hx hi =>
    Nat.testBit_lt_two_pow (Nat.lt_of_lt_of_le hx (Nat.pow_le_pow_right (n := 2) (i := 11) (by omega) (by omega)))
  have bl : ∀ i, l.testBit i = true → M.testBit i = true := fun i h => by
    rw [← hl, Nat.testBit_and] at h; simp at h; exact h.2
  have bm : ∀ i, m.testBit i = true → i < 11 ∧ M.testBit i = false := fun i h => by
    rw [← hm, Nat.testBit_and, hF] at h; simp at h; exact h.2
  constructor
  · rintro rfl
    constructor
    · apply Nat.eq_of_testBit_eq; intro i
      rw [Nat.testBit_and, Nat.testBit_or]
      have := bl i; have := bm i
      cases h1 : l.testBit i <;> cases h2 : m.testBit i <;> cases h3 : M.testBit i <;> simp_all
    · apply Nat.eq_of_testBit_eq; intro i
      rw [Nat.testBit_and, Nat.testBit_or, hF]
      have := bl i; have := bm i
      cases h1 : l.testBit i <;> cases h2 : m.testBit i <;> cases h3 : M.testBit i <;> simp_all
  · rintro ⟨rfl, rfl⟩
    apply Nat.eq_of_testBit_eq; intro i
    rw [Nat.testBit_or, Nat.testBit_and, Nat.testBit_and, hF]
    by_cases h : i < 11
    · cases h1 : q.testBit i <;> cases h3 : M.testBit i <;> simp_all
    · rw [hhigh q i hq h]; simp
/-- The identifiers of S, and those under a filter whose free bits are behind m. -/
def putB (S : Nat → Bool) (c M : Nat) (k : Nat → Nat → Bool) (m q : Nat) : Bool := S q || (decide (q &&& M = c &&& M) && k m (q &&& (2047 - M)))
def ltB (m y : Nat) : Bool := decide (m < y)
def leB (m y : Nat) : Bool := decide (m ≤ y)
theorem put_start (S : Nat → Bool) (c M q : Nat) : S q = putB S c M ltB (2047 - M) q := by
  have h : q &&& (2047 - M) ≤ 2047 - M := Nat.and_le_right
  have h2 : decide (2047 - M < q &&& (2047 - M)) = false := by simp; omega
  simp [putB, ltB, h2]
theorem put_end (S : Nat → Bool) (c M q : Nat) (hq : q < 2048) : putB S c M leB 0 q = (S q || One c M (q : Nat)) := by
  have h1 : low (q : Int) = q := low_nat hq
  have h2 : decide ((q : Int) < 2048) = true := by simp; omega
  have h3 : decide (0 ≤ (q : Int)) = true := by simp
  simp only [putB, leB, One, h1, h2, h3, Bool.true_and, Nat.zero_le, decide_true, Bool.and_true]
  by_cases h : q &&& M = c &&& M
  · simp [h]
  · simp [h]
theorem put_next (S : Nat → Bool) (c M m q : Nat) (hm : m &&& (2047 - M) = m) (h0 : 0 < m) : putB S c M leB m q = putB S c M ltB ((m - 1) &&& (2047 - M)) q := by
  have h := sub_le m (2047 - M) (q &&& (2047 - M)) hm (and_and_self _ _) h0
  have e : leB m (q &&& (2047 - M)) = ltB ((m - 1) &&& (2047 - M)) (q &&& (2047 - M)) := by
    unfold leB ltB
    exact decide_eq_decide.2 h
  unfold putB
  rw [e]
theorem put_one (S : Nat → Bool) (c M m q : Nat) (hM : M < 2048) (hm : m &&& (2047 - M) = m) (hq : q < 2048) :
    (if q = ((c &&& M) ||| m) then Value.bool true else .bool (putB S c M ltB m q)) = .bool (putB S c M leB m q) := by
  have hp := parts M q (c &&& M) m hM hq (and_and_self c M) hm
  by_cases h : q = ((c &&& M) ||| m)
  · obtain ⟨h1, h2⟩ := hp.1 h
    rw [if_pos h]
    simp [putB, leB, h1, h2]
  · rw [if_neg h]
    congr 1
    unfold putB
    by_cases h1 : q &&& M = c &&& M
    · have h2 : ¬ q &&& (2047 - M) = m := fun e => h (hp.2 ⟨h1, e⟩)
      have : decide (m < q &&& (2047 - M)) = decide (m ≤ q &&& (2047 - M)) := decide_eq_decide.2 ⟨fun _ => by omega, fun _ => by omega⟩
      simp [ltB, leB, this]
    · simp [h1]
theorem least_b (c m : Int) (w : World) : Calls Try.prog 20 #[.agg #[.int .i64 c, .int .i64 m]] w fun e w' => e = .returned (.int .i64 ((low c &&& low m : Nat) : Int)) ∧ Below w.heap.size w w' :=
  (least_any c m w).mono fun _ _ ⟨h, q, os, e⟩ => ⟨h, by subst e; exact below_gr w q os⟩
theorem free_b (c m : Int) (w : World) : Calls Try.prog 25 #[.agg #[.int .i64 c, .int .i64 m]] w fun e w' => e = .returned (.int .i64 ((2047 - low m : Nat) : Int)) ∧ Below w.heap.size w w' :=
  (free_any c m w).mono fun _ _ ⟨h, q, os, e⟩ => ⟨h, by subst e; exact below_gr w q os⟩
abbrev Sets (w : World) (g : Nat) (S : Nat → Bool) : Prop := Arr 47 w g fun j => .bool (S j)
theorem i64_dec (m F : Nat) (hm : m < 2048) (h0 : 0 < m) (hF : F < 2048) : bits .and .i64 ((m : Int) - 1) (F : Int) = (((m - 1) &&& F : Nat) : Int) := by
  rw [i64_and_low _ _ hF, show ((m : Int) - 1) = ((m - 1 : Nat) : Int) by omega, low_nat (by omega)]

set_option maxRecDepth 40000 in
set_option maxHeartbeats 1000000 in
theorem add_any (w : World) (g B : Nat) (S : Nat → Bool) (fc fm : Int) (h : Sets w g S) (hB : B ≤ g) :
    Calls Try.prog 22 #[.pointer (some ⟨g, 0, none⟩), .agg #[.int .i64 fc, .int .i64 fm]] w fun e w' => e = .returned (.tuple #[]) ∧ Sets w' g (fun q => S q || One (low fc) (low fm) (q : Nat)) ∧ Below B w w' := by
  have hg := h.lt
  have hbx : Below w.heap.size w (w.alloc (.cells #[.int .i64 fc, .int .i64 fm] 36)) := (Below.refl _ _).alloc (Nat.le_refl _) _
  have e0 : (w.alloc (.cells #[.int .i64 fc, .int .i64 fm] 36)).cell? ⟨w.heap.size, 0, none⟩ = some (.int .i64 fc) := by rw [cell_of_row _ _ _ _ _ _ (heap_alloc_new w _)]; rfl
  have e1 : (w.alloc (.cells #[.int .i64 fc, .int .i64 fm] 36)).cell? ⟨w.heap.size, 1, none⟩ = some (.int .i64 fm) := by rw [cell_of_row _ _ _ _ _ _ (heap_alloc_new w _)]; rfl
  have hs : (w.alloc (.cells #[.int .i64 fc, .int .i64 fm] 36)).heap.size = w.heap.size + 1 := by simp
  have hA := h.below hbx hg
  have hML := low_lt fm
  go_enter Try.func22, Try.ntmps22
  go_wp2_with fail
  generalize w.alloc (.cells #[.int .i64 fc, .int .i64 fm] 36) = w0 at hbx e0 e1 hs hA ⊢
  have hfree := fun w => free_b fc fm w
  have hleast := fun w => least_b fc fm w
  have hstart : Sets w0 g (putB S (low fc) (low fm) ltB (2047 - low fm)) := hA.congr fun q _ => by rw [put_start S (low fc) (low fm) q]
  have hend := fun q => put_end S (low fc) (low fm) q
  have hnext := fun m q => put_next S (low fc) (low fm) m q
  have hone := fun m q => put_one S (low fc) (low fm) m q hML
  have hll : low fc &&& low fm < 2048 := and_lt _ hML
  generalize hMd : low fm = M at hML hfree hleast hstart hend hnext hone hll ⊢
  generalize hCd : low fc = C at hfree hleast hstart hend hnext hone hll ⊢
  have HFR := Lib.hid hfree
  have HLE := Lib.hid hleast
  have HST := Lib.hid hstart
  have HEN := Lib.hid hend
  have HNX := Lib.hid hnext
  have HON := Lib.hid hone
  have HB0 := Lib.hid hbx
  have HMD := Lib.hid hMd
  have HCD := Lib.hid hCd
  clear h hA hfree hleast hstart hend hnext hone hbx hMd hCd
  refine (HFR.out _).mono ?_
  rintro e w1 ⟨rfl, hb1⟩
  have hst1 := HST.out.below hb1 (by omega)
  have k0 := (hb1.cell (p := ⟨w.heap.size, 0, none⟩) (by simp; omega)).trans e0
  have k1 := (hb1.cell (p := ⟨w.heap.size, 1, none⟩) (by simp; omega)).trans e1
  have hbb : Below B w w1 := (HB0.out.trans (hb1.mono HB0.out.size)).mono (by omega)
  have hs1 : w.heap.size < w1.heap.size := by have := hb1.size; omega
  have HS1 := Lib.hid hst1
  have HBB := Lib.hid hbb
  clear hst1 hb1 hbb e0 e1 HST HB0
  go_wp2_with fail
  go_loopw [4] (fun i wr => ∃ m : Nat, m ≤ 2047 ∧ i = .int .i64 m ∧ Hid (m &&& (2047 - M) = m) ∧ Hid (Sets wr g (putB S C M ltB m)) ∧ Hid (Below B w wr) ∧ wr.cell? ⟨w.heap.size, 0, none⟩ = some (.int .i64 fc) ∧ wr.cell? ⟨w.heap.size, 1, none⟩ = some (.int .i64 fm) ∧ w.heap.size < wr.heap.size) (fun i _ => (intOf i).toNat)
  case atStart => exact ⟨2047 - M, by omega, rfl, Lib.hid (Nat.and_self _), HS1, HBB, k0, k1, hs1⟩
  case round =>
    obtain ⟨m, hm, rfl, hsub, hset, hbel, k0, k1, hsz⟩ := hrel
    clear HS1 HBB
    have hx : ((C &&& M) ||| m) < 2048 := Nat.or_lt_two_pow (n := 11) hll (by omega)
    have hor := i64_or_low (C &&& M) m hll (by omega)
    have hc : wr.cell? ⟨g, (bits .or .i64 ((C &&& M : Nat) : Int) (m : Int)).toNat, none⟩ = some (.bool (putB S C M ltB m ((C &&& M) ||| m))) := by rw [hor]; exact hset.out.cell hx
    have hy0 : 0 ≤ bits .or .i64 ((C &&& M : Nat) : Int) (m : Int) := by rw [hor]; omega
    have hy1 : bits .or .i64 ((C &&& M : Nat) : Int) (m : Int) < 2048 := by rw [hor]; omega
    have hgw := hset.out.lt
    have hfr := hset.out.fr (bits .or .i64 ((C &&& M : Nat) : Int) (m : Int)).toNat
    have hput : Hid (∀ (w2 w3 : World), Below wr.heap.size wr w2 → w3.heap = (w2.setCell ⟨g, (bits .or .i64 ((C &&& M : Nat) : Int) (m : Int)).toNat, none⟩ (.bool true)).heap → Sets w3 g (putB S C M leB m)) := fun w2 w3 hb e => by
      have h3 := ((hset.out.below hb hgw).set ((C &&& M) ||| m) (.bool true)).congr (f' := fun q => .bool (putB S C M leB m q)) fun q hq => HON.out m q hsub.out hq
      rw [hor, Int.toNat_natCast] at e
      exact (congrArg (·[g]?) e).trans h3
    have HGW := Lib.hid hgw
    have HC := Lib.hid hc
    have HFZ := Lib.hid hfr
    clear hor hc hfr hgw hx
    go_wp2_with fail
    go_region_with (go_at_call 20; refine (HLE.out _).mono ?_; rintro e w2 ⟨rfl, hb2⟩; have c2 : w2.cell? ⟨g, (bits .or .i64 ((C &&& M : Nat) : Int) (m : Int)).toNat, none⟩ = some (.bool (putB S C M ltB m ((C &&& M) ||| m))) := (hb2.cell (p := ⟨g, _, none⟩) HGW.out).trans HC.out; have f2 : w2.frozen? ⟨g, (bits .or .i64 ((C &&& M : Nat) : Int) (m : Int)).toNat, none⟩ = false := (hb2.frozen (p := ⟨g, _, none⟩) HGW.out).trans HFZ.out)
    have hb2' : Below wr.heap.size wr w2 := ⟨hb2.os, hb2.tape, hb2.output, hb2.size, hb2.block⟩
    have hset3 := hput.out w2 _ hb2' rfl
    have q0 := (hb2'.cell (p := ⟨w.heap.size, 0, none⟩) hsz).trans k0
    have q1 := (hb2'.cell (p := ⟨w.heap.size, 1, none⟩) hsz).trans k1
    have hbel3 : Below B w (w2.setCell ⟨g, (bits .or .i64 ((C &&& M : Nat) : Int) (m : Int)).toNat, none⟩ (.bool true)) := (hbel.out.trans (hb2'.mono (by have := hbel.out.size; omega))).setCell hB _
    have r0 : (w2.setCell ⟨g, (bits .or .i64 ((C &&& M : Nat) : Int) (m : Int)).toNat, none⟩ (.bool true)).cell? ⟨w.heap.size, 0, none⟩ = some (.int .i64 fc) := (World.cell?_of_block (a := ⟨w.heap.size, 0, none⟩) (Below.heap_setCell _ _ _ _ (fun e => by simp at e; omega))).trans q0
    have r1 : (w2.setCell ⟨g, (bits .or .i64 ((C &&& M : Nat) : Int) (m : Int)).toNat, none⟩ (.bool true)).cell? ⟨w.heap.size, 1, none⟩ = some (.int .i64 fm) := (World.cell?_of_block (a := ⟨w.heap.size, 1, none⟩) (Below.heap_setCell _ _ _ _ (fun e => by simp at e; omega))).trans q1
    have hsz3 : w.heap.size < (w2.setCell ⟨g, (bits .or .i64 ((C &&& M : Nat) : Int) (m : Int)).toNat, none⟩ (.bool true)).heap.size := by have := hb2'.size; simp; omega
    generalize w2.setCell ⟨g, (bits .or .i64 ((C &&& M : Nat) : Int) (m : Int)).toNat, none⟩ (.bool true) = w3 at hset3 hbel3 r0 r1 hsz3 ⊢
    have HS3 := Lib.hid hset3
    have HB3 := Lib.hid hbel3
    have HSUB := Lib.hid hsub.out
    clear hb2 hb2' hset3 hbel3 q0 q1 c2 f2 k0 k1 hput hset hbel hsub hy0 hy1 HC HFZ HON
    rcases Nat.eq_zero_or_pos m with h0 | h0
    · subst h0
      clear r0 r1
      go_wp2_with fail
      refine bodyPost_ret (results_none rfl _ _ _) rfl ⟨rfl, ?_, HB3.out⟩
      exact HS3.out.congr fun q hq => by rw [HEN.out q hq, HCD.out, HMD.out]
    · have hm0 : ¬ m = 0 := by omega
      have hset4 : Sets w3 g (putB S C M ltB ((m - 1) &&& (2047 - M))) := HS3.out.congr fun q _ => by rw [HNX.out m q HSUB.out h0]
      have HS4 := Lib.hid hset4
      have hdec := Lib.hid (i64_dec m (2047 - M) (by omega) h0 (by omega))
      clear hset4 HS3 HNX
      go_wp2_with fail
      refine (HFR.out _).mono ?_
      rintro e w4 ⟨rfl, hb4⟩
      have s0 := (hb4.cell (p := ⟨w.heap.size, 0, none⟩) hsz3).trans r0
      have s1 := (hb4.cell (p := ⟨w.heap.size, 1, none⟩) hsz3).trans r1
      have hs4 := HS4.out.below hb4 HS4.out.lt
      have hb5 := HB3.out.trans (hb4.mono (Nat.le_trans (by omega) HB3.out.size))
      have hz := hb4.size
      have HS5 := Lib.hid hs4
      have HB5 := Lib.hid hb5
      clear r0 r1 hb4 hs4 hb5
      go_wp2_with fail
      exact ⟨⟨(m - 1) &&& (2047 - M), by have := Nat.and_le_left (n := m - 1) (m := 2047 - M); omega, by rw [← hdec.out], Lib.hid (and_and_self _ _), HS5, HB5, s0, s1, by omega⟩, by have := Nat.and_le_left (n := m - 1) (m := 2047 - M); rw [hdec.out]; simp [intOf]; omega⟩
end Go.Proofs.Ytjofgomnnpeepaa
