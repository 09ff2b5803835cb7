/- What the live check of the filters answers. -/
import Derived.Test.YtjofgomnnpeepaaGh
namespace Go.Proofs.Ytjofgomnnpeepaa
open Go.RowKit Go.Sort

def Mc (l : List (Nat × Int)) (q : Nat) : Int := (l.lookup q).getD (-1)
def goodB (M : Nat → Int) (b j : Nat) : Bool := decide (0 ≤ M b) && (M b).toNat.testBit j && !b.testBit j && M (b ||| 2 ^ j) == M b
theorem good_iff (M : Nat → Int) (b j : Nat) : Good M b j ↔ goodB M b j = true := by
  unfold Good goodB
  simp only [Bool.and_eq_true, decide_eq_true_eq, Bool.not_eq_true', beq_iff_eq]
  constructor
  · rintro ⟨k, h1, h2, h3, h4⟩
    rw [h1]
    exact ⟨⟨⟨by omega, h2⟩, h3⟩, h4⟩
  · rintro ⟨⟨⟨h1, h2⟩, h3⟩, h4⟩
    exact ⟨(M b).toNat, by omega, h2, h3, by omega⟩
theorem mc_key {l : List (Nat × Int)} {b : Nat} (h : 0 ≤ Mc l b) : b ∈ l.map Prod.fst := by
  unfold Mc at h
  induction l with
  | nil => simp at h
  | cons x l ih =>
    obtain ⟨k, v⟩ := x
    rw [List.lookup_cons] at h
    by_cases e : b = k
    · simp [e]
    · have e2 : (b == k) = false := by simp [e]
      rw [e2] at h
      simp only [List.map_cons, List.mem_cons]
      exact .inr (ih h)
theorem first_of {l : List (Nat × Int)} {a i : Nat} (ha : a < 2048) (hi : i < 11) (hg : goodB (Mc l) a i = true)
    (h : (l.map Prod.fst).all (fun b => (List.range 11).all fun j => !goodB (Mc l) b j || (decide (a < b) || (a == b && decide (i ≤ j)))) = true) : First (Mc l) a i := by
  refine ⟨ha, hi, (good_iff _ _ _).2 hg, fun b j _ hj hgd => ?_⟩
  have hb := mc_key (l := l) (b := b) (by obtain ⟨k, h1, _⟩ := hgd; omega)
  have h1 := List.all_eq_true.1 h b hb
  have h2 := List.all_eq_true.1 h1 j (List.mem_range.2 hj)
  rw [(good_iff _ _ _).1 hgd] at h2
  simpa using h2
theorem noPair_of {l : List (Nat × Int)} (h : (l.map Prod.fst).all (fun b => (List.range 11).all fun j => !goodB (Mc l) b j) = true) : NoPair (Mc l) := by
  intro b j _ hj hgd
  have hb := mc_key (l := l) (b := b) (by obtain ⟨k, h1, _⟩ := hgd; omega)
  have h1 := List.all_eq_true.1 h b hb
  have h2 := List.all_eq_true.1 h1 j (List.mem_range.2 hj)
  rw [(good_iff _ _ _).1 hgd] at h2
  simp at h2
theorem four0 : m0 [4, 5, 6, 7] 4 = Mc [(4, 2047), (5, 2047), (6, 2047), (7, 2047)] := by
  funext q
  unfold m0 Mc
  simp only [List.lookup_cons, List.lookup_nil, List.take_succ_cons, List.take_zero, List.mem_cons, List.not_mem_nil, or_false]
  by_cases h4 : q = 4
  · subst h4; rfl
  by_cases h5 : q = 5
  · subst h5; rfl
  by_cases h6 : q = 6
  · subst h6; rfl
  by_cases h7 : q = 7
  · subst h7; rfl
  have e4 : (q == 4) = false := by simp [h4]
  have e5 : (q == 5) = false := by simp [h5]
  have e6 : (q == 6) = false := by simp [h6]
  have e7 : (q == 7) = false := by simp [h7]
  rw [e4, e5, e6, e7, if_neg (by omega)]
  rfl
theorem nxt_mc {l l' : List (Nat × Int)} {a i : Nat} (ks : List Nat) (h1 : l.map Prod.fst ⊆ ks) (h2 : l'.map Prod.fst ⊆ ks) (h3 : a ∈ ks) (h4 : a ||| 2 ^ i ∈ ks) (h : ∀ q ∈ ks, nxt (Mc l) a i q = Mc l' q) : nxt (Mc l) a i = Mc l' := by
  funext q
  by_cases hq : q ∈ ks
  · exact h q hq
  · have no : ∀ m : List (Nat × Int), m.map Prod.fst ⊆ ks → Mc m q = -1 := by
      intro m hm
      unfold Mc
      induction m with
      | nil => rfl
      | cons x m ih =>
        obtain ⟨k, v⟩ := x
        have hx : k ∈ ks := hm (by simp)
        have e : (q == k) = false := by
          rw [beq_eq_false_iff_ne]; intro e; subst e; exact hq hx
        rw [List.lookup_cons, e]
        exact ih fun y hy => hm (by simp only [List.map_cons, List.mem_cons]; exact .inr hy)
    unfold nxt
    rw [if_neg (fun e : q = a => hq (by rw [e]; exact h3)), if_neg (fun e : q = a ||| 2 ^ i => hq (by rw [e]; exact h4)), no l h1, no l' h2]
theorem four_end {M : Nat → Int} (h : Reach (m0 [4, 5, 6, 7] 4) M) (hn : NoPair M) : M = Mc [(4, 2044)] := by
  rw [four0] at h
  have s1 := reach_at (first_of (a := 4) (i := 0) (by omega) (by omega) (by decide +kernel) (by decide +kernel)) h hn
  rw [nxt_mc (l' := [(4, 2046), (6, 2047), (7, 2047)]) [4, 5, 6, 7] (by simp) (by simp) (by simp) (by decide) (by decide +kernel)] at s1
  have s2 := reach_at (first_of (a := 6) (i := 0) (by omega) (by omega) (by decide +kernel) (by decide +kernel)) s1 hn
  rw [nxt_mc (l' := [(4, 2046), (6, 2046)]) [4, 5, 6, 7] (by simp) (by simp) (by simp) (by decide) (by decide +kernel)] at s2
  have s3 := reach_at (first_of (a := 4) (i := 1) (by omega) (by omega) (by decide +kernel) (by decide +kernel)) s2 hn
  rw [nxt_mc (l' := [(4, 2044)]) [4, 5, 6, 7] (by simp) (by simp) (by simp) (by decide) (by decide +kernel)] at s3
  exact reach_end (noPair_of (by decide +kernel)) s3
theorem four_list : filL (Mc [(4, 2044)]) 2048 = [(4, 2044)] := by decide +kernel
def fsF : Nat → Int × Int := fun i => [((4 : Int), (2044 : Int))].getD i (0, 0)
theorem pass6 : anyF fsF 1 6 = true := by kernel_rfl
theorem pass8 : anyF fsF 1 8 = false := by kernel_rfl
theorem packed_four {w w' : World} {e : Ending} (h : Packed [4, 5, 6, 7] 4 w e w') : ∃ A c, e = .returned (.slice A 1 c) ∧ Fils w' w'.heap.size A 1 c fsF ∧ Below w.heap.size w w' := by
  obtain ⟨M, h1, h2, _, ⟨A, c, h3, h4⟩, hb⟩ := h
  have e1 := four_end h1 h2
  subst e1
  rw [four_list] at h3 h4
  exact ⟨A, c, h3, h4, hb⟩

set_option maxHeartbeats 1000000 in
theorem live_any (w : World) : Calls Try.prog 12 #[] w fun e w' => e = .returned (.bool true) ∧ Below w.heap.size w w' := by
  have hN : Nums (w.alloc (.cells #[.int .i64 4, .int .i64 5, .int .i64 6, .int .i64 7] 3)) (w.alloc (.cells #[.int .i64 4, .int .i64 5, .int .i64 6, .int .i64 7] 3)).heap.size (some ⟨w.heap.size, 0, none⟩) 4 4 [4, 5, 6, 7] := by
    refine ⟨rfl, Nat.le_refl _, by simp [maxLen], by simp, fun _ => ⟨w.heap.size, 0, rfl, by simp, fun j hj => ?_⟩⟩
    rw [cell_of_row _ _ _ _ _ _ (heap_alloc_new w _)]
    match j, hj with
    | 0, _ => rfl
    | 1, _ => rfl
    | 2, _ => rfl
    | 3, _ => rfl
  have HN := Lib.hid hN
  have hb0 : Below w.heap.size w (w.alloc (.cells #[.int .i64 4, .int .i64 5, .int .i64 6, .int .i64 7] 3)) := (Below.refl _ _).alloc (Nat.le_refl _) _
  clear hN
  go_enter Try.func12, Try.ntmps12
  go_wp2_with fail
  refine (pack_any _ _ _ _ _ HN.out).mono ?_
  intro e w1 hp
  obtain ⟨A, c, rfl, hf, hb1⟩ := packed_four hp
  have hbb := hb0.trans (hb1.mono hb0.size)
  have hcap := hf.cap
  have hmax := hf.max
  obtain ⟨b, off, rfl, hlt, hcl⟩ := hf.cells (by omega)
  obtain ⟨k0, k1⟩ := hcl 0 (by omega)
  have c0 : w1.cell? ⟨b, off, none⟩ = some (.int .i64 4) := k0
  have c1 : w1.cell? ⟨b, off + 1, none⟩ = some (.int .i64 2044) := k1
  have HF := Lib.hid hf
  clear hcl hf hp hb0 hb1 HN k0 k1
  simp only [maxLen] at hmax
  go_wp2_with fail
  refine (pass_any _ _ _ _ _ _ HF.out).mono ?_
  rintro e w2 ⟨rfl, hb2⟩
  rw [pass6]
  have HF2 := Lib.hid (HF.out.step hb2)
  have hbb2 := hbb.trans (hb2.mono hbb.size)
  clear c0 c1
  go_wp2_with fail
  refine (pass_any _ _ _ _ _ _ HF2.out).mono ?_
  rintro e w3 ⟨rfl, hb3⟩
  rw [pass8]
  have hbb3 := hbb2.trans (hb3.mono hbb2.size)
  go_wp2_with fail
  exact bodyPost_ret (results_tmp rfl _ _ _) rfl ⟨rfl, hbb3⟩
end Go.Proofs.Ytjofgomnnpeepaa
