/- emcy: what a round of EmcyOnce needs. -/
import Derived.Test.YtncnlbokipieaaaEr
import Derived.Deep.CutBlock
namespace Go.Proofs.Ytncnlbokipieaaa
open Go.RowKit Go.Maps
set_option linter.unusedSimpArgs false
set_option linter.unusedVariables false

section
variable {T : Nat → Prop} {w0 x y : World} {g B q N c : Nat} {D : DataW Unit} {A : Option Addr} {lost nd td : Int} {F : List (Int × Int)} {hs : List Int}
theorem lg_step (h : LgI T w0 x g B q N D A c lost nd F hs td) (hb : Below x.heap.size x y) (cs : Array Value) : LgI T w0 ((y.alloc (.cells #[.int .i64 0, .bool false, .int .i64 0, .int .u8 0, .int .u8 0, .int .u8 0, .int .u8 0, .int .u8 0, .int .u8 0, .int .u8 0, .int .u8 0] 27)).setRow y.heap.size cs) g B q N D A c lost nd F hs td :=
  ((h.below hb).below ((Below.refl y.heap.size y).alloc (Nat.le_refl _) _)).rowf (frame_new y 0 0 false (fun _ => 0)) cs (Nat.le_trans h.bel.size hb.size)
theorem fhas_may (h : LgI T w0 x g B q N D A c lost nd F hs td) {v : Int} (hv : ¬ (1 ≤ v ∧ v ≤ 65535)) : fhas F v = false := by
  cases hq : fhas F v with
  | false => rfl
  | true =>
    have := h.bts _ (fbit_mem hq)
    exact absurd ⟨this.2.2.1, this.2.2.2⟩ hv
theorem raise_not (h : LgI T w0 x g B q N D A c lost nd F hs td) {v bit : Int} (hy : (Lit.int .i64 v).wf = true) (hv : fhas F v = true ∨ ¬ (1 ≤ v ∧ v ≤ 65535)) :
    Calls Try.prog 12 #[.pointer (some ⟨g, 0, none⟩), .int .i64 v, .int .i64 bit, .slice none 0 0] x fun e w' => e = .returned (.tuple #[.agg #[.int .i64 0, .bool false, .int .i64 0, .int .u8 0, .int .u8 0, .int .u8 0, .int .u8 0, .int .u8 0, .int .u8 0, .int .u8 0, .int .u8 0], .bool false]) ∧ Below x.heap.size x w' := by
  rcases hv with hv | hv
  · exact raise_has T w0 x g B q N c D A lost nd td F hs v bit none 0 0 h hy hv
  · have hq := fhas_may h hv
    by_cases hz : v = 0
    · exact raise_zero T w0 x g B q N c D A lost nd td F hs v bit none 0 0 h hy hq (by subst hz; decide) hz
    · exact raise_code T w0 x g B q N c D A lost nd td F hs v bit none 0 0 h hy hq (by unfold isCd; exact decide_eq_false (by omega))
end
theorem rg_odd {F : List (Int × Int)} {b : Nat} (hb : b < 8) (h : 0 < cnt F b) : (rgN F 8).tmod 2 = 1 := by
  have h0 := rg_range F
  have h1 := rgB_odd (decide (0 < cnt F 0)) (decide (0 < cnt F 1)) (decide (0 < cnt F 2)) (decide (0 < cnt F 3)) (decide (0 < cnt F 4)) (decide (0 < cnt F 5)) (decide (0 < cnt F 6)) (decide (0 < cnt F 7))
  rw [← rg_bools] at h1
  rw [Int.tmod_eq_emod_of_nonneg h0.1, h1, if_pos]
  match b, hb with
  | 0, _ => simp [h]
  | 1, _ => simp [h]
  | 2, _ => simp [h]
  | 3, _ => simp [h]
  | 4, _ => simp [h]
  | 5, _ => simp [h]
  | 6, _ => simp [h]
  | 7, _ => simp [h]
theorem hsE_len {hs : List Int} {n : Nat} (h : hs.length = min n 8) (v : Int) : (hsE hs v).length = min (n + 1) 8 := by
  unfold hsE
  split <;> simp <;> omega
theorem hsE_first (hs : List Int) (v : Int) : ∃ r, (hsE hs v).reverse = v :: r := by
  unfold hsE
  exact ⟨_, by rw [List.reverse_append]; rfl⟩
theorem fcut_len {F : List (Int × Int)} {v : Int} (hu : Uniq F) (h : fhas F v = true) : (fcut F v).length + 1 = F.length := by
  induction F with
  | nil => simp [fhas] at h
  | cons p F ih =>
    have hu' : p.1 ∉ F.map (·.1) ∧ Uniq F := by simpa [Uniq] using hu
    by_cases e : p.1 = v
    · subst e
      have : fcut (p :: F) p.1 = fcut F p.1 := by simp [fcut]
      rw [this, fcut_not hu'.1]; rfl
    · have h2 : fhas F v = true := by simpa [fhas, e] using h
      have : fcut (p :: F) v = p :: fcut F v := by simp [fcut, e]
      rw [this]
      have := ih hu'.2 h2
      simp; omega
/-- Between two rounds of the first loop. -/
structure OnI (w : World) (g B q : Nat) (z : List Int) (j nn : Nat) (T : Nat → Prop) (F : List (Int × Int)) (hs : List Int) (c : Nat) (D : DataW Unit) (A : Option Addr) (x : World) : Prop where
  log : LgI T w x g B q nn D A c 0 1 F hs (nn : Int)
  len : F.length = nn
  le : nn ≤ j
  hl : hs.length = min nn 8
  mem : ∀ p ∈ F, ∃ t, t < j ∧ z.getD t 0 = p.1
/-- Between two rounds of the second one. -/
structure OfI (w : World) (g B q : Nat) (z : List Int) (k j nn : Nat) (T : Nat → Prop) (F : List (Int × Int)) (hs : List Int) (N c : Nat) (D : DataW Unit) (A : Option Addr) (td : Int) (x : World) : Prop where
  log : LgI T w x g B q N D A c 0 1 F hs td
  len : td + F.length = nn + nn
  le : nn ≤ 30
  mem : ∀ p ∈ F, ∃ t, j ≤ t ∧ t < k ∧ z.getD t 0 = p.1
theorem OnI.told {w : World} {g B q : Nat} {z : List Int} {k nn : Nat} {T : Nat → Prop} {F : List (Int × Int)} {hs : List Int} {c : Nat} {D : DataW Unit} {A : Option Addr} {x : World} (h : OnI w g B q z k nn T F hs c D A x) (hk : k ≤ 30) : OfI w g B q z k 0 nn T F hs nn c D A nn x :=
  ⟨h.log, by rw [h.len], by have := h.le; omega, fun p hp => by obtain ⟨t, h1, h2⟩ := h.mem p hp; exact ⟨t, Nat.zero_le _, h1, h2⟩⟩
theorem OfI.done {w : World} {g B q : Nat} {z : List Int} {k nn : Nat} {T : Nat → Prop} {F : List (Int × Int)} {hs : List Int} {N c : Nat} {D : DataW Unit} {A : Option Addr} {td : Int} {x : World} (h : OfI w g B q z k k nn T F hs N c D A td x) : F = [] ∧ td = nn + nn := by
  have : F = [] := by
    cases F with
    | nil => rfl
    | cons p F => obtain ⟨t, h1, h2, _⟩ := h.mem p (by simp); omega
  subst this
  exact ⟨rfl, by have := h.len; simpa using this⟩
/-- A round that raises nothing. -/
theorem OnI.skip {w : World} {g B q : Nat} {z : List Int} {j nn : Nat} {T : Nat → Prop} {F : List (Int × Int)} {hs : List Int} {c : Nat} {D : DataW Unit} {A : Option Addr} {x y : World} (h : OnI w g B q z j nn T F hs c D A x) (hl : LgI T w y g B q nn D A c 0 1 F hs (nn : Int)) : OnI w g B q z (j + 1) nn T F hs c D A y :=
  ⟨hl, h.len, by have := h.le; omega, h.hl, fun p hp => by obtain ⟨t, h1, h2⟩ := h.mem p hp; exact ⟨t, by omega, h2⟩⟩
/-- A round that raises one. -/
theorem OnI.next {w : World} {g B q : Nat} {z : List Int} {j nn : Nat} {T T' : Nat → Prop} {F : List (Int × Int)} {hs : List Int} {c c' : Nat} {D D' : DataW Unit} {A A' : Option Addr} {x y : World} {v b : Int} (h : OnI w g B q z j nn T F hs c D A x) (hv : z.getD j 0 = v)
    (hl : LgI T' w y g B q (nn + 1) D' A' c' 0 1 (F ++ [(v, b)]) (hsE hs v) ((nn : Int) + 1)) : OnI w g B q z (j + 1) (nn + 1) T' (F ++ [(v, b)]) (hsE hs v) c' D' A' y :=
  ⟨hl, by simp [h.len], by have := h.le; omega, hsE_len h.hl v, fun p hp => by
    rcases List.mem_append.1 hp with h1 | h1
    · obtain ⟨t, h2, h3⟩ := h.mem p h1
      exact ⟨t, by omega, h3⟩
    · simp at h1
      subst h1
      exact ⟨j, by omega, hv⟩⟩
/-- A round that clears one, or none. -/
theorem OfI.next {w : World} {g B q : Nat} {z : List Int} {k j nn : Nat} {T : Nat → Prop} {F : List (Int × Int)} {hs : List Int} {N c : Nat} {D D' : DataW Unit} {A : Option Addr} {td : Int} {x y : World} {v : Int} (h : OfI w g B q z k j nn T F hs N c D A td x) (hv : z.getD j 0 = v) (hq : fhas F v = true)
    (hl : LgI T w y g B q N D' A c 0 1 (fcut F v) hs (td + 1)) : OfI w g B q z k (j + 1) nn T (fcut F v) hs N c D' A (td + 1) y :=
  ⟨hl, by have := fcut_len h.log.uni hq; have := h.len; omega, h.le, fun p hp => by
    have hp' := List.mem_filter.1 hp
    obtain ⟨t, h1, h2, h3⟩ := h.mem p hp'.1
    refine ⟨t, ?_, h2, h3⟩
    rcases Nat.lt_or_ge j t with h4 | h4
    · omega
    · exfalso
      obtain rfl : t = j := by omega
      have := hp'.2
      simp at this
      exact this (h3.symm.trans hv)⟩
theorem OfI.skip {w : World} {g B q : Nat} {z : List Int} {k j nn : Nat} {T : Nat → Prop} {F : List (Int × Int)} {hs : List Int} {N c : Nat} {D : DataW Unit} {A : Option Addr} {td : Int} {x y : World} {v : Int} (h : OfI w g B q z k j nn T F hs N c D A td x) (hv : z.getD j 0 = v) (hq : fhas F v = false)
    (hl : LgI T w y g B q N D A c 0 1 F hs td) : OfI w g B q z k (j + 1) nn T F hs N c D A td y :=
  ⟨hl, h.len, h.le, fun p hp => by
    obtain ⟨t, h1, h2, h3⟩ := h.mem p hp
    refine ⟨t, ?_, h2, h3⟩
    rcases Nat.lt_or_ge j t with h4 | h4
    · omega
    · exfalso
      obtain rfl : t = j := by omega
      rw [← hv, h3] at hq
      simp only [fhas, List.any_eq_false] at hq
      exact hq p hp (by simp)⟩
theorem OfI.small {w : World} {g B q : Nat} {z : List Int} {k j nn : Nat} {T : Nat → Prop} {F : List (Int × Int)} {hs : List Int} {N c : Nat} {D : DataW Unit} {A : Option Addr} {td : Int} {x : World} (h : OfI w g B q z k j nn T F hs N c D A td x) : td < 1000000 := by
  have := h.len
  have := h.le
  omega
end Go.Proofs.Ytncnlbokipieaaa
