/- What is put is got; At where keys are texts. -/
import Derived.Test.YtkcgkamkjcegcaaSj

namespace Go.Proofs.Ytkcgkamkjcegcaa
open Go.RowKit

theorem hasS_iff {ν : Type} {q : ByteArray} {ls : List (ByteArray × ν)} (h : RiseS ls) : hasS q ls = true ↔ ∃ x ∈ ls, x.1 = q := by
  refine ⟨fun hh => ?_, fun ⟨x, hx, hq⟩ => ?_⟩
  · obtain ⟨x, hx, hq⟩ := hasS_at hh
    exact ⟨x, List.mem_of_getElem? hx, hq⟩
  · obtain ⟨i, hi, e⟩ := List.mem_iff_getElem.1 hx
    have hx2 : ls[i]? = some x := by rw [← e]; exact List.getElem?_eq_getElem _
    have : plcS q ls = i := plcS_at q ls i (by omega) (fun j y hj hy => by have := h j i y x hj hy hx2; rwa [hq] at this) (fun y hy => by rw [hx2] at hy; cases hy; rw [hq]; exact sl_irrefl q)
    rw [hasS_some this hx2]; simpa using hq
theorem rise_uniq {ν : Type} {ls : List (ByteArray × ν)} (h : RiseS ls) {x y : ByteArray × ν} (hx : x ∈ ls) (hy : y ∈ ls) (e : x.1 = y.1) : x = y := by
  obtain ⟨i, hi, ei⟩ := List.mem_iff_getElem.1 hx
  obtain ⟨j, hj, ej⟩ := List.mem_iff_getElem.1 hy
  have hx2 : ls[i]? = some x := by rw [← ei]; exact List.getElem?_eq_getElem _
  have hy2 : ls[j]? = some y := by rw [← ej]; exact List.getElem?_eq_getElem _
  rcases Nat.lt_trichotomy i j with hij | hij | hij
  · have := h i j x y hij hx2 hy2; rw [e, sl_irrefl] at this; cases this
  · subst hij; rw [hx2] at hy2; cases hy2; rfl
  · have := h j i y x hij hy2 hx2; rw [e, sl_irrefl] at this; cases this
theorem thS_of {ν : Type} {z v : ν} {q : ByteArray} {ls : List (ByteArray × ν)} (h : RiseS ls) (hm : (q, v) ∈ ls) : thS z q ls = v := by
  have hh := (hasS_iff h).2 ⟨_, hm, rfl⟩
  obtain ⟨x, hx, hq⟩ := hasS_at hh
  rw [thS_yes hh hx, rise_uniq h (List.mem_of_getElem? hx) hm hq]
theorem put_mem {ν : Type} (k : ByteArray) (v : ν) (ls : List (ByteArray × ν)) : (k, v) ∈ putS k v ls := by
  unfold putS
  split
  · rename_i hh
    obtain ⟨x, hx, _⟩ := hasS_at hh
    exact List.mem_of_getElem? (i := plcS k ls) (by rw [List.getElem?_set, if_pos rfl, if_pos (List.getElem?_eq_some_iff.1 hx).1])
  · simp
theorem put_keeps {ν : Type} (k : ByteArray) (v : ν) (ls : List (ByteArray × ν)) (x : ByteArray × ν) (hx : x ∈ ls) (hne : x.1 ≠ k) : x ∈ putS k v ls := by
  unfold putS
  split
  · rename_i hh
    obtain ⟨i, hi, e⟩ := List.mem_iff_getElem.1 hx
    obtain ⟨y, hy, hk⟩ := hasS_at hh
    refine List.mem_of_getElem? (i := i) ?_
    rw [List.getElem?_set, if_neg]
    · rw [← e]; exact List.getElem?_eq_getElem _
    · intro e2
      subst e2
      rw [List.getElem?_eq_getElem hi, e] at hy
      cases hy
      exact hne hk
  · rw [← List.take_append_drop (plcS k ls) ls] at hx
    rcases List.mem_append.1 hx with h | h <;> simp [h]
/-- The table behind the first texts. -/
def tabS (S : List ByteArray) : Nat → List (ByteArray × Int)
  | 0 => []
  | k + 1 => putS (S.getD k ByteArray.empty) (k : Int) (tabS S k)
theorem tabS_rise (S : List ByteArray) : ∀ k, RiseS (tabS S k)
  | 0 => riseS_nil
  | k + 1 => riseS_put _ _ _ (tabS_rise S k)
theorem tabS_len (S : List ByteArray) : ∀ k, (tabS S k).length ≤ k
  | 0 => Nat.le_refl _
  | k + 1 => by have := tabS_len S k; have := putS_le (S.getD k ByteArray.empty) (k : Int) (tabS S k); unfold tabS; omega
/-- The last one of the texts from i up to k that is as the i-th. -/
theorem tabS_last (S : List ByteArray) (q : ByteArray) (j : Nat) (hq : S.getD j ByteArray.empty = q) : ∀ k, j < k → (∀ t, j < t → t < k → S.getD t ByteArray.empty ≠ q) → (q, (j : Int)) ∈ tabS S k
  | 0, h, _ => by omega
  | k + 1, h, hn => by
    unfold tabS
    by_cases e : j = k
    · subst e; rw [hq]; exact put_mem _ _ _
    · exact put_keeps _ _ _ _ (tabS_last S q j hq k (by omega) (fun t h1 h2 => hn t h1 (by omega))) (fun e2 => hn k (by omega) (by omega) e2.symm)
set_option maxRecDepth 100000 in
set_option maxHeartbeats 2000000 in
theorem atC (w : World) (base g i : Nat) (ls : List (ByteArray × Int)) (v : Value) (x : ByteArray × Int) (h : Sh 81 83 w base g ls.length (fl eS eI ls) v) (hn : ls.length ≤ 1000) (hx : ls[i]? = some x) :
    Calls Try.prog 28 #[.pointer (some ⟨g, 0, none⟩), .int .i64 (i : Nat)] w fun e w' => e = .returned (.tuple #[.string x.1, .int .i64 x.2, .bool true]) ∧ Below w.heap.size w w' := by
  have hlt := (List.getElem?_eq_some_iff.1 hx).1
  have hk := fl_key eS eI ls i x hx
  have hv := fl_val eS eI ls i x hx
  obtain ⟨b, cap, cur, rfl, hbb, _, hnc, hm, _⟩ := own_some h.row (by omega)
  simp only [maxLen] at hm
  have c0 := h.cell
  have hl := h.lt
  have d0 := own_cell h.row (k := i * 2) (by omega)
  have d1 := own_cell h.row (k := i * 2 + 1) (by omega)
  rw [hk] at d0
  rw [hv] at d1
  simp only [eS, eI] at d0 d1
  have hlen := lenC w base g ls.length _ _ h
  have hiI : (i : Int) < (ls.length : Int) := by omega
  have hi0 : ¬ ((i : Int) < 0) := by omega
  have HL := Lib.hid hlen
  obtain ⟨k, u⟩ := x
  generalize ls.length = N at *
  clear h hx hk hv hlen
  go_enter Try.func28, Try.ntmps28
  go_wp2_with fail
  refine HL.out.mono ?_
  rintro e w2 ⟨rfl, rfl⟩
  go_wp2_with fail
  go_quiet (fail)
  go_wp2_with fail
  go_ret3
  exact ⟨rfl, below_drewN (Below.refl _ _) nq⟩
end Go.Proofs.Ytkcgkamkjcegcaa
