/- What Meet answers; what the filters of Pack let pass. -/
import Derived.Test.YtjofgomnnpeepaaGi
namespace Go.Proofs.Ytjofgomnnpeepaa
open Go.RowKit Go.Sort

theorem low_wrap (z : Nat) : low (IntKind.i64.wrap (z : Int)) = z % 2 ^ 11 := by
  rw [IntKind.wrap_i64]; unfold low; omega
theorem low_bv (x : Int) : low x = (BitVec.ofInt 64 x).toNat % 2 ^ 11 := by
  rw [BitVec.toNat_ofInt]; unfold low; omega
theorem low_xor (x y : Int) : low (bits .xor .i64 x y) = low x ^^^ low y := by
  have hs : bits .xor .i64 x y = IntKind.i64.wrap ((BitVec.ofInt 64 x ^^^ BitVec.ofInt 64 y).toNat : Nat) := rfl
  have h1 := congrArg low hs
  rw [low_wrap, BitVec.toNat_xor] at h1
  rw [h1, Nat.xor_mod_two_pow, ← low_bv, ← low_bv]
theorem meet_bits (ca ma cb mb : Int) : (bits .and .i64 (bits .and .i64 (bits .xor .i64 ca cb) ((low ma : Nat) : Int)) ((low mb : Nat) : Int) == 0) = meets (low ca) (low ma) (low cb) (low mb) := by
  rw [i64_and_low _ _ (low_lt ma), i64_and_low _ _ (low_lt mb), low_nat (and_lt _ (low_lt ma)), low_xor, Nat.and_assoc, Bool.eq_iff_iff]
  simp only [meets, beq_iff_eq]
  omega
/-- Two filters meet just if there is an identifier that both let pass. -/
theorem meets_iff {c m c' m' : Nat} (hm : m < 2048) (hm' : m' < 2048) : meets c m c' m' = true ↔ ∃ id, id < 2048 ∧ id &&& m = c &&& m ∧ id &&& m' = c' &&& m' := by
  have hz : meets c m c' m' = true ↔ ∀ j, m.testBit j = true → m'.testBit j = true → c.testBit j = c'.testBit j := by
    simp only [meets, beq_iff_eq]
    constructor
    · intro h j h1 h2
      have := congrArg (fun x => x.testBit j) h
      simpa [h1, h2] using this
    · intro h
      apply Nat.eq_of_testBit_eq
      intro j
      cases h1 : m.testBit j <;> cases h2 : m'.testBit j <;> simp [h1, h2]
      exact h j h1 h2
  rw [hz]
  constructor
  · intro h
    refine ⟨(c &&& m) ||| (c' &&& m'), Nat.or_lt_two_pow (n := 11) (and_lt _ hm) (and_lt _ hm'), (under_iff _ _ _).2 fun j hj => ?_, (under_iff _ _ _).2 fun j hj => ?_⟩
    · cases h2 : m'.testBit j with
      | false => simp [hj, h2]
      | true => simp [hj, h2, h j hj h2]
    · cases h2 : m.testBit j with
      | false => simp [hj, h2]
      | true => simp [hj, h2, h j h2 hj]
  · rintro ⟨id, _, h1, h2⟩ j hj hj'
    rw [← (under_iff _ _ _).1 h1 j hj, ← (under_iff _ _ _).1 h2 j hj']

theorem meet_any (ca ma cb mb : Int) (w : World) : Calls Try.prog 15 #[.agg #[.int .i64 ca, .int .i64 ma], .agg #[.int .i64 cb, .int .i64 mb]] w fun e w' => e = .returned (.bool (meets (low ca) (low ma) (low cb) (low mb))) ∧ ∃ q os, w' = grow (w.drewN q) os := by
  have HW0 : Hid (w.alloc (.cells #[.int .i64 ca, .int .i64 ma] 36) = grow (w.drewN 0) #[.cells #[.int .i64 ca, .int .i64 ma] 36]) := Lib.hid (alloc_eq_grow w _)
  have ha0 : (w.alloc (.cells #[.int .i64 ca, .int .i64 ma] 36)).cell? ⟨w.heap.size, 0, none⟩ = some (.int .i64 ca) := by rw [cell_of_row _ _ _ _ _ _ (heap_alloc_new w _)]; rfl
  have ha1 : (w.alloc (.cells #[.int .i64 ca, .int .i64 ma] 36)).cell? ⟨w.heap.size, 1, none⟩ = some (.int .i64 ma) := by rw [cell_of_row _ _ _ _ _ _ (heap_alloc_new w _)]; rfl
  have hs : (w.alloc (.cells #[.int .i64 ca, .int .i64 ma] 36)).heap.size = w.heap.size + 1 := by simp
  have hmix := filter_mix
  go_enter Try.func15, Try.ntmps15
  go_wp2_with fail
  generalize w.alloc (.cells #[.int .i64 ca, .int .i64 ma] 36) = w0 at HW0 ha0 ha1 hs ⊢
  have HW1 : Hid (w0.alloc (.cells #[.int .i64 cb, .int .i64 mb] 36) = grow (w0.drewN 0) #[.cells #[.int .i64 cb, .int .i64 mb] 36]) := Lib.hid (alloc_eq_grow w0 _)
  have hbl := (Below.refl w0.heap.size w0).alloc (Nat.le_refl _) (.cells #[.int .i64 cb, .int .i64 mb] 36)
  have hb0 : (w0.alloc (.cells #[.int .i64 cb, .int .i64 mb] 36)).cell? ⟨w.heap.size + 1, 0, none⟩ = some (.int .i64 cb) := by rw [← hs, cell_of_row _ _ _ _ _ _ (heap_alloc_new w0 _)]; rfl
  have hb1 : (w0.alloc (.cells #[.int .i64 cb, .int .i64 mb] 36)).cell? ⟨w.heap.size + 1, 1, none⟩ = some (.int .i64 mb) := by rw [← hs, cell_of_row _ _ _ _ _ _ (heap_alloc_new w0 _)]; rfl
  have hc0 := (hbl.cell (p := ⟨w.heap.size, 0, none⟩) (by simp only; omega)).trans ha0
  have hc1 := (hbl.cell (p := ⟨w.heap.size, 1, none⟩) (by simp only; omega)).trans ha1
  have hsz : w.heap.size + 1 < (w0.alloc (.cells #[.int .i64 cb, .int .i64 mb] 36)).heap.size := by simp; omega
  have HS := Lib.hid hs
  clear hs hbl ha0 ha1
  generalize w0.alloc (.cells #[.int .i64 cb, .int .i64 mb] 36) = w1 at HW1 hb0 hb1 hc0 hc1 hsz ⊢
  have k0 := cell_grown (a := ⟨w.heap.size, 0, none⟩) (show w.heap.size < w1.heap.size by omega) hc0
  have k1 := cell_grown (a := ⟨w.heap.size, 1, none⟩) (show w.heap.size < w1.heap.size by omega) hc1
  have k2 := cell_grown (a := ⟨w.heap.size + 1, 0, none⟩) hsz hb0
  have k3 := cell_grown (a := ⟨w.heap.size + 1, 1, none⟩) hsz hb1
  clear hb0 hb1 hc0 hc1 hsz
  go_quiet_grown (first | (go_at_call 19; refine Calls.grown_of (bound_any _ _ _)))
  go_wp2_with fail
  refine bodyPost_ret (results_tmp rfl _ _ _) rfl ⟨by rw [← meet_bits]; rfl, ?_⟩
  obtain ⟨q0, o0, h0⟩ := gr_then HW0.out HW1.out
  exact gr_then h0 rfl

theorem meet_no (ca ma cb mb : Int) (w : World) (h : meets (low ca) (low ma) (low cb) (low mb) = false) : Calls Try.prog 15 #[.agg #[.int .i64 ca, .int .i64 ma], .agg #[.int .i64 cb, .int .i64 mb]] w fun e w' => e = .returned (.bool false) ∧ ∃ q os, w' = grow (w.drewN q) os := by
  rw [← h]; exact meet_any ca ma cb mb w

/-! ### What the filters of Pack are -/
theorem codes_up (M : Nat → Int) (j : Nat) : (codes M j).Pairwise (· < ·) := List.Pairwise.filter _ List.pairwise_lt_range
theorem fil_get {M : Nat → Int} (hF : Fit M) {i : Nat} (hi : i < (filL M 2048).length) : ∃ a k : Nat, a < 2048 ∧ k < 2048 ∧ M a = k ∧ (filL M 2048).getD i (0, 0) = ((a : Int), (k : Int)) ∧ (codes M 2048)[i]? = some a := by
  have hc : i < (codes M 2048).length := by rw [← filL_len]; exact hi
  have hm := codes_mem.1 (List.getElem_mem hc)
  rcases hF _ hm.1 with h | ⟨k, h1, h2⟩
  · exact absurd h hm.2
  · refine ⟨(codes M 2048)[i], k, hm.1, h1, h2, ?_, List.getElem?_eq_getElem hc⟩
    rw [List.getD_eq_getElem?_getD, List.getElem?_eq_getElem hi]
    simp only [filL, List.getElem_map, Option.getD_some, h2]
theorem fil_has {M : Nat → Int} {a k : Nat} (ha : a < 2048) (hk : M a = k) : ∃ i, i < (filL M 2048).length ∧ (filL M 2048).getD i (0, 0) = ((a : Int), (k : Int)) := by
  have hm : a ∈ codes M 2048 := codes_mem.2 ⟨ha, by rw [hk]; omega⟩
  obtain ⟨i, hi, he⟩ := List.mem_iff_getElem.1 hm
  have hi2 : i < (filL M 2048).length := by rw [filL_len]; exact hi
  refine ⟨i, hi2, ?_⟩
  rw [List.getD_eq_getElem?_getD, List.getElem?_eq_getElem hi2]
  simp only [filL, List.getElem_map, Option.getD_some, he, hk]
theorem pack_pass {S : Nat → Prop} {M : Nat → Int} (hI : Inv S M) {id : Nat} (hid : id < 2048) : anyF (fun i => (filL M 2048).getD i (0, 0)) (filL M 2048).length id = true ↔ S id := by
  rw [hI.has id hid, anyF, List.any_eq_true]
  constructor
  · rintro ⟨i, hi, ho⟩
    obtain ⟨a, k, h1, h2, h3, h4, _⟩ := fil_get hI.fit (List.mem_range.1 hi)
    simp only [h4, One, low_nat hid, low_nat h1, low_nat h2, Bool.and_eq_true, beq_iff_eq] at ho
    exact ⟨a, k, h1, h3, ho.2⟩
  · rintro ⟨a, k, h1, h2, h3⟩
    obtain ⟨i, hi, he⟩ := fil_has h1 h2
    refine ⟨i, List.mem_range.2 hi, ?_⟩
    simp only [he, One, low_nat hid, low_nat h1, low_nat (good_small hI.fit h1 h2), Bool.and_eq_true, beq_iff_eq, decide_eq_true_eq]
    exact ⟨⟨by omega, by omega⟩, h3⟩
theorem pack_meet {S : Nat → Prop} {M : Nat → Int} (hI : Inv S M) {i j : Nat} (hi : i < (filL M 2048).length) (hj : j < i) {ca ma cb mb : Int} (ea : (filL M 2048).getD i (0, 0) = (ca, ma)) (eb : (filL M 2048).getD j (0, 0) = (cb, mb)) :
    meets (low ca) (low ma) (low cb) (low mb) = false := by
  obtain ⟨a, k, h1, h2, h3, h4, h5⟩ := fil_get hI.fit hi
  obtain ⟨b, k', g1, g2, g3, g4, g5⟩ := fil_get hI.fit (Nat.lt_trans hj hi)
  rw [ea] at h4
  rw [eb] at g4
  cases h4
  cases g4
  rw [low_nat h1, low_nat h2, low_nat g1, low_nat g2]
  cases hm : meets a k b k' with
  | false => rfl
  | true =>
    obtain ⟨id, hid, x1, x2⟩ := (meets_iff h2 g2).1 hm
    have e := hI.one a b k k' id h1 g1 hid h3 g3 x1 x2
    obtain ⟨hl, e5⟩ := List.getElem?_eq_some_iff.1 h5
    obtain ⟨hl2, e6⟩ := List.getElem?_eq_some_iff.1 g5
    have := List.pairwise_iff_getElem.1 (codes_up M 2048) j i hl2 hl hj
    omega
/-- How many of the first identifiers are in. -/
def cntS (L : List Int) (j : Nat) : Nat := ((List.range j).filter fun q : Nat => decide ((q : Int) ∈ L)).length
theorem cntS_in {L : List Int} {j : Nat} (h : decide ((j : Int) ∈ L) = true) : cntS L (j + 1) = cntS L j + 1 := by
  unfold cntS; rw [List.range_succ, List.filter_append, List.length_append]; simp [h]
theorem cntS_out {L : List Int} {j : Nat} (h : decide ((j : Int) ∈ L) = false) : cntS L (j + 1) = cntS L j := by
  unfold cntS; rw [List.range_succ, List.filter_append, List.length_append]; simp [h]
theorem cntS_le (L : List Int) (j : Nat) : cntS L j ≤ j := by
  unfold cntS
  have := List.length_filter_le (fun q : Nat => decide ((q : Int) ∈ L)) (List.range j)
  simpa using this
theorem pack_few {L : List Int} {M : Nat → Int} (hI : Inv (fun q => (q : Int) ∈ L) M) : (filL M 2048).length ≤ cntS L 2048 := by
  rw [filL_len]
  refine (filter_less _ _ 2048 fun x hx h => ?_).1
  simp only [bne_iff_ne, ne_eq] at h
  rcases hI.fit x hx with h1 | ⟨k, _, h1⟩
  · exact absurd h1 h
  · exact decide_eq_true ((hI.has x hx).2 ⟨x, k, hx, h1, rfl⟩)
end Go.Proofs.Ytjofgomnnpeepaa
