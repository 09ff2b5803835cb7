/- What the statements ask of a dictionary: Raw, Changes, a fork beside what is written; what an entry holds behind a write. -/
import Derived.Test.YtgaoplbocjadaaaYDzl
import Derived.Test.YtgaoplbocjadaaaYDzf
namespace Go.Proofs.Ytgaoplbocjadaaa
open Go.RowKit
set_option linter.unusedSimpArgs false
set_option linter.unusedVariables false
section
variable {w w' : World} {B g : Nat} {T R : List (Int × Ent)} {ch : Int}
theorem DictAt.bs (h : DictAt B g T ch w) : B ≤ w.heap.size := h.elim fun _ h => h.elim fun _ h => h.2.2.2
theorem at_len (h : DictAt B g T ch w) : Calls Try.prog 48 #[.pointer (some ⟨g, 0, none⟩)] w fun e w' => e = .returned (.int .i64 (T.length : Nat)) ∧ w' = w := by
  obtain ⟨s, v, h1, _, _, _⟩ := h
  exact dlen_any w B g s T ch v h1
theorem at_raw (i j : Int) (h : DictAt B g T ch w) (hG : Good T) : Calls Try.prog 31 #[.pointer (some ⟨g, 0, none⟩), .agg #[.int .i64 i, .int .i64 j]] w (RawP w (thI e0 (numI i j) T) (hasI (numI i j) T)) := by
  obtain ⟨s, v, h1, _, _, _⟩ := h
  exact raw_any w _ i j _ _ (getc_any i j h1 hG) (th_ok hG _)
theorem at_spec (i j : Int) (h : DictAt B g T ch w) (hG : Good T) : Calls Try.prog 74 #[.pointer (some ⟨g, 0, none⟩), .agg #[.int .i64 i, .int .i64 j]] w fun e w' => e = .returned (.tuple #[.agg #[.int .i64 (thI e0 (numI i j) T).k, .int .i64 (thI e0 (numI i j) T).a, .int .i64 (thI e0 (numI i j) T).lo, .int .i64 (thI e0 (numI i j) T).hi], .bool (hasI (numI i j) T)]) ∧ Below w.heap.size w w' := by
  obtain ⟨s, v, h1, _, _, _⟩ := h
  exact spec_any w _ i j _ _ (getc_any i j h1 hG)
theorem at_num (i j : Int) (h : DictAt B g T ch w) (hG : Good T) : Calls Try.prog 65 #[.pointer (some ⟨g, 0, none⟩), .agg #[.int .i64 i, .int .i64 j]] w fun e w' => e = .returned (.tuple #[.int .i64 (numN (thI e0 (numI i j) T).k (thI e0 (numI i j) T).a (thI e0 (numI i j) T).lo (thI e0 (numI i j) T).hi (thI e0 (numI i j) T).b), .bool (numB (thI e0 (numI i j) T).k (thI e0 (numI i j) T).a (thI e0 (numI i j) T).lo (thI e0 (numI i j) T).hi (thI e0 (numI i j) T).b)]) ∧ Below w.heap.size w w' := by
  obtain ⟨s, v, h1, _, _, _⟩ := h
  exact num_any w _ i j _ _ (getc_any i j h1 hG) (th_ok hG _)
theorem thI_old {T : List (Int × Ent)} {k q : Int} {E : Ent} (hr : Rise T) (h : ¬ q = k) : thI e0 q (putI k E T) = thI e0 q T ∧ hasI q (putI k E T) = hasI q T := by
  have hp := rise_put k E T hr
  cases hh : hasI q T with
  | true =>
    obtain ⟨x, hx, rfl⟩ := (hasI_iff hr).1 hh
    have hm : x ∈ putI k E T := (putI_mem hr x).2 (.inr ⟨hx, h⟩)
    exact ⟨(thI_of hp hm).trans (thI_of hr hx).symm, (hasI_iff hp).2 ⟨x, hm, rfl⟩⟩
  | false =>
    have h2 : hasI q (putI k E T) = false := by
      cases h3 : hasI q (putI k E T) with
      | false => rfl
      | true =>
        obtain ⟨x, hx, e⟩ := (hasI_iff hp).1 h3
        rcases (putI_mem hr x).1 hx with rfl | ⟨hx, _⟩
        · exact absurd e.symm h
        · rw [(hasI_iff hr).2 ⟨x, hx, e⟩] at hh; cases hh
    exact ⟨by rw [thI_no h2, thI_no hh], h2⟩
theorem thI_new {T : List (Int × Ent)} {k : Int} {E : Ent} (hr : Rise T) : thI e0 k (putI k E T) = E ∧ hasI k (putI k E T) = true :=
  ⟨thI_of (rise_put k E T hr) (x := (k, E)) ((putI_mem hr _).2 (.inl rfl)), (hasI_iff (rise_put k E T hr)).2 ⟨(k, E), (putI_mem hr _).2 (.inl rfl), rfl⟩⟩
theorem num_self {x : Int} (h : 256 ≤ x ∧ x ≤ 16777215) : numI (x / 256) (x % 256) = x := by rw [numI_yes (by omega)]; omega
/-- Raw of an entry that is there. -/
def RawL (w : World) (L : List Int) (e : Ending) (w' : World) : Prop := ∃ A n c, e = .returned (.tuple #[.slice A n c, .bool true]) ∧ Byt w' w'.heap.size A n c L ∧ Below w.heap.size w w'
theorem at_rawl {x : Int} {L : List Int} (h : DictAt B g T ch w) (hG : Good T) (hx : 256 ≤ x ∧ x ≤ 16777215) (hh : hasI x T = true) (hL : (thI e0 x T).b = L) : Calls Try.prog 31 #[.pointer (some ⟨g, 0, none⟩), .agg #[.int .i64 (x / 256), .int .i64 (x % 256)]] w (RawL w L) := by
  have h1 := at_raw (x / 256) (x % 256) h hG
  rw [num_self hx, hh] at h1
  refine h1.mono ?_
  rintro e w' ⟨A, n, c, L', rfl, hB, hl, hb⟩
  rw [if_pos rfl, hL] at hl
  subst hl
  exact ⟨A, n, c, rfl, hB, hb⟩
theorem wE_zero {i j : Int} {l : List Int} (h : wE i j l T = 0) : hasI (numI i j) T = true ∧ writesI (thI e0 (numI i j) T).a = 0 ∧ fitsA (thI e0 (numI i j) T).k (thI e0 (numI i j) T).a (thI e0 (numI i j) T).lo (thI e0 (numI i j) T).hi l = 0 := by
  unfold wE wrE at h
  by_cases hq : findE i j T = 0
  · rw [if_pos hq] at h
    by_cases hw : writesI (thI e0 (numI i j) T).a = 0
    · rw [if_pos hw] at h; exact ⟨findE_zero hq, hw, h⟩
    · rw [if_neg hw] at h; exact absurd h hw
  · rw [if_neg hq] at h; exact absurd h hq
/-- What an entry holds behind a write. -/
def HoldsE (q i j : Int) (l : List Int) (T' : List (Int × Ent)) (x : Int × Ent) (L : List Int) : Prop :=
  hasI x.1 T' = true ∧ thI e0 x.1 T' = ⟨x.2.k, x.2.a, x.2.lo, x.2.hi, L⟩ ∧ fitsA x.2.k x.2.a x.2.lo x.2.hi L = 0 ∧ (∀ y ∈ L, 0 ≤ y ∧ y ≤ 255) ∧ L.length ≤ 64 ∧
    (¬ (q = 0 ∧ x.1 / 256 = i ∧ x.1 % 256 = j) → L = x.2.b) ∧ (q = 0 ∧ x.1 / 256 = i ∧ x.1 % 256 = j → L = l ∧ writesI x.2.a = 0)
theorem holds_pure {i j : Int} {l : List Int} (ht : TieD T R) {x : Int × Ent} (hx : x ∈ R) (hl : ∀ y ∈ l, 0 ≤ y ∧ y ≤ 255) : ∃ L, HoldsE (wE i j l T) i j l (newT (wE i j l T) i j l T) x L := by
  have hxT := (ht.mem x).2 hx
  have hok := ht.ok x hx
  have hth := thI_of ht.good.rise hxT
  have hha := (hasI_iff ht.good.rise).2 ⟨x, hxT, rfl⟩
  have same : ∀ T', hasI x.1 T' = true → thI e0 x.1 T' = x.2 → ¬ (wE i j l T = 0 ∧ x.1 / 256 = i ∧ x.1 % 256 = j) → ∃ L, HoldsE (wE i j l T) i j l T' x L := fun T' h0 h1 h2 =>
    ⟨x.2.b, h0, h1, hok.2.1, hok.2.2.1, hok.2.2.2, fun _ => rfl, fun h => absurd h h2⟩
  unfold newT
  by_cases hq : wE i j l T = 0
  · rw [if_pos hq]
    obtain ⟨hh, hw, hf⟩ := wE_zero hq
    by_cases hk : x.1 = numI i j
    · have hki : x.1 / 256 = i ∧ x.1 % 256 = j := (num_is hok.1).2 hk
      rw [← hk, hth] at hw hf ⊢
      unfold givT
      by_cases hb : l = x.2.b
      · rw [if_pos hb]
        exact ⟨x.2.b, hha, hth, hok.2.1, hok.2.2.1, hok.2.2.2, fun h => absurd ⟨hq, hki⟩ h, fun _ => ⟨hb.symm, hw⟩⟩
      · rw [if_neg hb]
        exact ⟨l, (thI_new ht.good.rise).2, (thI_new ht.good.rise).1, hf, hl, (fits_len hf).1, fun h => absurd ⟨hq, hki⟩ h, fun _ => ⟨rfl, hw⟩⟩
    · have hki : ¬ (wE i j l T = 0 ∧ x.1 / 256 = i ∧ x.1 % 256 = j) := fun h => hk ((num_is hok.1).1 h.2)
      unfold givT
      split
      · exact same _ hha hth hki
      · exact same _ ((thI_old ht.good.rise hk).2.trans hha) ((thI_old ht.good.rise hk).1.trans hth) hki
  · rw [if_neg hq]
    exact same _ hha hth (fun h => hq h.1)
theorem write_good {i j : Int} {l : List Int} (ht : TieD T R) (hl : ∀ y ∈ l, 0 ≤ y ∧ y ≤ 255) : Good (newT (wE i j l T) i j l T) := by
  unfold newT
  by_cases hq : wE i j l T = 0
  · rw [if_pos hq]
    obtain ⟨hh, hw, hf⟩ := wE_zero hq
    obtain ⟨x, hx, hq⟩ := ht.has.1 hh
    obtain ⟨p, hp⟩ := List.mem_iff_getElem?.1 hx
    have h2 := (ht.at_ hp).2
    rw [hq] at h2
    rw [h2] at hf
    exact (ht.give (i := i) (j := j) hp hq hf hl).good
  · rw [if_neg hq]; exact ht.good
end
end Go.Proofs.Ytgaoplbocjadaaa