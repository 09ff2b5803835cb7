/- What becomes of the program's dictionary and of the document's, side by side. -/
import Derived.Test.YtgaoplbocjadaaaYDzh
import Derived.Test.YtgaoplbocjadaaaYDzb
import Derived.Test.YtgaoplbocjadaaaYDv
import Derived.Test.YtgaoplbocjadaaaYDq
import Derived.Test.YtgaoplbocjadaaaYDVg
import Derived.Test.YtgaoplbocjadaaaYDzf
import Derived.OwnWalk
namespace Go.Proofs.Ytgaoplbocjadaaa
open Go.RowKit
set_option linter.unusedSimpArgs false
set_option linter.unusedVariables false
theorem fits_may {k a lo hi : Int} {l : List Int} (h : fitsA k a lo hi l = 0) : mayB k a lo hi = true := by
  cases hm : mayB k a lo hi with
  | true => rfl
  | false => unfold fitsA at h; rw [if_pos hm] at h; cases h
theorem lenA_zero {n lo hi : Int} : lenA n lo hi = 0 ↔ lo ≤ n ∧ n ≤ hi := by
  unfold lenA
  by_cases h1 : n < lo
  · rw [if_pos h1]; constructor
    · intro h; cases h
    · intro h; omega
  · by_cases h2 : hi < n
    · rw [if_neg h1, if_pos h2]; constructor
      · intro h; cases h
      · intro h; omega
    · rw [if_neg h1, if_neg h2]; constructor
      · intro _; omega
      · intro _; rfl
theorem fits_len {k a lo hi : Int} {l : List Int} (h : fitsA k a lo hi l = 0) : l.length ≤ 64 ∧ (k = 8 → lo ≤ l.length ∧ (l.length : Int) ≤ hi) ∧ (¬ k = 8 → (l.length : Int) = kSize k) := by
  have hm := fits_may h
  have hd := hm
  simp only [mayB, decide_eq_true_eq] at hd
  unfold fitsA at h
  rw [if_neg (by rw [hm]; simp)] at h
  by_cases h8 : k = 8
  · rw [if_pos h8] at h
    have := lenA_zero.1 h
    exact ⟨by omega, fun _ => this, fun h => absurd h8 h⟩
  · rw [if_neg h8] at h
    by_cases hl : lenA l.length (kSize k) (kSize k) = 0
    · have := lenA_zero.1 hl
      have hs : kSize k ≤ 4 := by
        unfold kSize
        repeat' split
        all_goals omega
      exact ⟨by omega, fun h => absurd h h8, fun _ => by omega⟩
    · rw [if_pos hl] at h; exact absurd h hl
theorem ref_fir (k a lo hi : Int) (l : List Int) : refB k a lo hi l = firA k a lo hi l := by
  unfold refB firA
  by_cases hl : l = []
  · by_cases hf : fitsA k a lo hi l = 0
    · rw [if_neg (fun h => h.2 hf), if_pos hl]
      have hm := fits_may hf
      have hd := hm
      simp only [mayB, decide_eq_true_eq] at hd
      obtain ⟨_, h1, h2⟩ := fits_len hf
      rw [hl] at h1 h2 ⊢
      simp only [List.length_nil] at h1 h2
      by_cases h8 : k = 8
      · have := h1 h8
        unfold firL
        rw [if_neg (by rw [hm]; simp), if_pos h8, show lo = 0 by omega]
        rfl
      · have := h2 h8
        omega
    · rw [if_pos ⟨hl, hf⟩, if_pos hl]
  · rw [if_neg (fun h => hl h.1), if_neg hl]
theorem firL_range (k a lo hi : Int) : ∀ y ∈ firL k a lo hi, 0 ≤ y ∧ y ≤ 255 := by
  unfold firL
  intro y hy
  split at hy
  · cases hy
  · split at hy
    · rw [List.eq_of_mem_replicate hy]; omega
    · exact putL_range _ _ y hy
theorem firA_range {k a lo hi : Int} {l : List Int} (h : ∀ y ∈ l, 0 ≤ y ∧ y ≤ 255) : ∀ y ∈ firA k a lo hi l, 0 ≤ y ∧ y ≤ 255 := by
  unfold firA
  split
  · exact firL_range _ _ _ _
  · exact h
theorem Byt.all {w : World} {B n c : Nat} {A : Option Addr} {l : List Int} (h : Byt w B A n c l) : ∀ y ∈ l, 0 ≤ y ∧ y ≤ 255 := h.rng
theorem numI_in {i j : Int} (h : okN i j = true) : 256 ≤ numI i j ∧ numI i j ≤ 16777215 := by
  have hx : 1 ≤ i ∧ i ≤ 65535 ∧ 0 ≤ j ∧ j ≤ 255 := by simpa [okN] using h
  rw [numI_yes hx]; omega
section
variable {w : World} {base g s : Nat} {T R : List (Int × Ent)} {ch : Int} {v : Value} {a : Option Addr} {c : Nat}
theorem add_any (i j k ac lo hi : Int) (l : List Int) (A : Option Addr) (n m : Nat) (h : DiI w base g s T ch v) (hbase : base ≤ w.heap.size) (hG : Good T) (hB : Byt w w.heap.size A n m l) :
    Calls Try.prog 41 #[.pointer (some ⟨g, 0, none⟩), .agg #[.int .i64 i, .int .i64 j], .agg #[.int .i64 k, .int .i64 ac, .int .i64 lo, .int .i64 hi], .slice A n m] w fun e w' => e = .returned (.int .i64 (addE i j k ac lo hi l T)) ∧ GoD w base g s (addT i j k ac lo hi l T) ch v w' := by
  by_cases hx : okN i j = false ∨ mayB k ac lo hi = false
  · have e1 : addE i j k ac lo hi l T = 2 := if_pos hx
    have e2 : addT i j k ac lo hi l T = T := by unfold addT; rw [e1]; rfl
    rw [e1, e2]
    exact (add_bad w base g s T ch v i j k ac lo hi l A n m hx).mono fun e w' ⟨h1, h2⟩ => ⟨h1, GoD.of_below h h2⟩
  · have ho : okN i j = true := by simp only [not_or, Bool.not_eq_false] at hx; exact hx.1
    have hm : mayB k ac lo hi = true := by simp only [not_or, Bool.not_eq_false] at hx; exact hx.2
    refine (add_ok w base g s T ch v i j k ac lo hi l A n m _ h hbase (by have := hG.few; omega) hG.rise hB ho hm rfl).mono ?_
    rintro e w' ⟨h1, h2⟩
    have hE : addE i j k ac lo hi l T = (if ¬ fitsA k ac lo hi (firA k ac lo hi l) = 0 then 14 else if hasI (numI i j) T = true then 8 else if 512 ≤ T.length then 6 else 0) := if_neg hx
    rcases h1 with ⟨hq, rfl⟩ | ⟨hq, hb, rfl⟩ | ⟨hq, hb, hl, rfl⟩ | ⟨hq, hb, hl, rfl⟩
    · rw [if_neg (fun h => hq h.1)] at h2
      have e1 := hE.trans (if_pos hq)
      unfold addT
      rw [e1, if_neg (by decide)]
      exact ⟨rfl, h2⟩
    · rw [if_neg (fun h => by rw [hb] at h; cases h.2.1)] at h2
      have e1 := hE.trans ((if_neg (fun h => h hq)).trans (if_pos hb))
      unfold addT
      rw [e1, if_neg (by decide)]
      exact ⟨rfl, h2⟩
    · rw [if_neg (fun h => h.2.2 hl)] at h2
      have e1 := hE.trans ((if_neg (fun h => h hq)).trans ((if_neg (by rw [hb]; decide)).trans (if_pos hl)))
      unfold addT
      rw [e1, if_neg (by decide)]
      exact ⟨rfl, h2⟩
    · rw [if_pos ⟨hq, hb, hl⟩] at h2
      have e1 := hE.trans ((if_neg (fun h => h hq)).trans ((if_neg (by rw [hb]; decide)).trans (if_neg hl)))
      unfold addT
      rw [e1, if_pos rfl]
      exact ⟨rfl, h2⟩
/-- What the document's dictionary has become, tied to T. -/
def TieP (w : World) (base : Nat) (T : List (Int × Ent)) (ch code : Int) (e : Ending) (w' : World) : Prop := ∃ R, RefP w base R ch code e w' ∧ TieD T R
theorem dradd_tie (i j k ac lo hi : Int) (l : List Int) (A : Option Addr) (n m : Nat) (h : w.ownsRow base 77 7 (.slice a R.length c) R.length (fr R)) (hbase : base ≤ w.heap.size) (ht : TieD T R) (hT : T.length ≤ 512) (hB : Byt w w.heap.size A n m l) :
    Calls Try.prog 40 #[.agg #[.slice a R.length c, .int .i64 ch], .agg #[.int .i64 i, .int .i64 j], .agg #[.int .i64 k, .int .i64 ac, .int .i64 lo, .int .i64 hi], .slice A n m] w (TieP w base (addT i j k ac lo hi l T) ch (addE i j k ac lo hi l T)) := by
  refine (dradd_any w base R.length c a R ch i j k ac lo hi A n m l h rfl (by have := ht.len; omega) hbase ht.ok hB).mono ?_
  rintro e w' hp
  unfold AddR at hp
  rw [ref_fir] at hp
  rcases hp with ⟨hx, hr⟩ | ⟨ho, hm, hp⟩
  · have e1 : addE i j k ac lo hi l T = 2 := if_pos hx
    unfold addT
    rw [e1, if_neg (by decide)]
    exact ⟨R, hr, ht⟩
  · have hx : ¬ (okN i j = false ∨ mayB k ac lo hi = false) := by rw [ho, hm]; simp
    have hE : addE i j k ac lo hi l T = (if ¬ fitsA k ac lo hi (firA k ac lo hi l) = 0 then 14 else if hasI (numI i j) T = true then 8 else if 512 ≤ T.length then 6 else 0) := if_neg hx
    rcases hp with ⟨hq, hr⟩ | ⟨hq, ⟨he, hr⟩ | ⟨he, ⟨hl, hr⟩ | ⟨hl, hr⟩⟩⟩
    · have e1 := hE.trans (if_pos hq)
      unfold addT
      rw [e1, if_neg (by decide)]
      exact ⟨R, hr, ht⟩
    · have e1 := hE.trans ((if_neg (fun h => h hq)).trans (if_pos (ht.has.2 he)))
      unfold addT
      rw [e1, if_neg (by decide)]
      exact ⟨R, hr, ht⟩
    · have e1 := hE.trans ((if_neg (fun h => h hq)).trans ((if_neg (by rw [ht.hasnt he]; decide)).trans (if_pos (by have := ht.len; omega))))
      unfold addT
      rw [e1, if_neg (by decide)]
      exact ⟨R, hr, ht⟩
    · have e1 := hE.trans ((if_neg (fun h => h hq)).trans ((if_neg (by rw [ht.hasnt he]; decide)).trans (if_neg (by have := ht.len; omega))))
      unfold addT
      rw [e1, if_pos rfl]
      exact ⟨_, hr, ht.add (ht.hasnt he) ⟨numI_in ho, hq, firA_range hB.all, (fits_len hq).1⟩ (by omega)⟩
/-- Put's answer. -/
def pE (i j : Int) (l : List Int) (T : List (Int × Ent)) : Int :=
  if ¬ ownE (thI e0 (numI i j) T) (hasI (numI i j) T) = 0 then ownE (thI e0 (numI i j) T) (hasI (numI i j) T) else
    if ¬ fitsA (thI e0 (numI i j) T).k (thI e0 (numI i j) T).a (thI e0 (numI i j) T).lo (thI e0 (numI i j) T).hi l = 0 then 14 else 0
def newT (q i j : Int) (l : List Int) (T : List (Int × Ent)) : List (Int × Ent) := if q = 0 then givT (numI i j) (thI e0 (numI i j) T) l T else T
def newC (q i j : Int) (l : List Int) (T : List (Int × Ent)) (ch : Int) : Int := if q = 0 then givC ch (thI e0 (numI i j) T) l else ch
theorem ownX_zero {x : Ent} {b : Bool} (h : ownE x b = 0) : ownX x b = x := if_pos h
theorem dput_any (i j : Int) (l : List Int) (A : Option Addr) (n m : Nat) (h : DiI w base g s T ch v) (hbase : base ≤ w.heap.size) (hG : Good T) (hc : 0 ≤ ch ∧ ch ≤ 1000000) (hB : Byt w w.heap.size A n m l) :
    Calls Try.prog 67 #[.pointer (some ⟨g, 0, none⟩), .agg #[.int .i64 i, .int .i64 j], .slice A n m] w fun e w' => e = .returned (.int .i64 (pE i j l T)) ∧ GoD w base g s (newT (pE i j l T) i j l T) (newC (pE i j l T) i j l T ch) v w' := by
  have ho := ownc_any i j h hG
  by_cases h0 : ownE (thI e0 (numI i j) T) (hasI (numI i j) T) = 0
  · rw [ownX_zero h0, h0] at ho
    by_cases hf : fitsA (thI e0 (numI i j) T).k (thI e0 (numI i j) T).a (thI e0 (numI i j) T).lo (thI e0 (numI i j) T).hi l = 0
    · have e1 : pE i j l T = 0 := by unfold pE; rw [if_neg (fun h => h h0), if_neg (fun h => h hf)]
      rw [e1]
      unfold newT newC
      rw [if_pos rfl, if_pos rfl]
      exact put_fit w _ i j _ A n m l _ ho (givk_any i j _ l h hbase hG hc (th_ok hG _).1) hB hf
    · have e1 : pE i j l T = 14 := by unfold pE; rw [if_neg (fun h => h h0), if_pos hf]
      rw [e1]
      unfold newT newC
      rw [if_neg (by decide), if_neg (by decide)]
      exact (put_unfit w _ i j _ A n m l ho hB hf).mono fun e w' ⟨h1, h2⟩ => ⟨h1, GoD.of_below h h2⟩
  · have e1 : pE i j l T = ownE (thI e0 (numI i j) T) (hasI (numI i j) T) := by unfold pE; rw [if_pos h0]
    rw [e1]
    unfold newT newC
    rw [if_neg h0, if_neg h0]
    exact (put_out w _ i j _ _ A n m ho h0).mono fun e w' ⟨h1, h2⟩ => ⟨h1, GoD.of_below h h2⟩
theorem set_self_ {α : Type} {l : List α} {p : Nat} {x : α} (h : l[p]? = some x) : l.set p x = l := by
  obtain ⟨hp, hx⟩ := List.getElem?_eq_some_iff.1 h
  rw [← hx]; exact List.set_getElem_self hp
theorem TieD.give {p : Nat} {x : Int × Ent} {i j : Int} {l : List Int} (ht : TieD T R) (hx : R[p]? = some x) (hq : x.1 = numI i j) (hf : fitsA x.2.k x.2.a x.2.lo x.2.hi l = 0) (hl : ∀ y ∈ l, 0 ≤ y ∧ y ≤ 255) :
    TieD (givT (numI i j) (thI e0 (numI i j) T) l T) (R.set p (x.1, ⟨x.2.k, x.2.a, x.2.lo, x.2.hi, l⟩)) := by
  obtain ⟨h1, h2⟩ := ht.at_ hx
  rw [← hq, h2]
  unfold givT
  by_cases hb : l = x.2.b
  · have e : ((x.1, ⟨x.2.k, x.2.a, x.2.lo, x.2.hi, l⟩) : Int × Ent) = x := by rw [hb]
    rw [if_pos hb, e, set_self_ hx]
    exact ht
  · rw [if_neg hb]
    exact ht.set hx ⟨(ht.ok x (List.mem_of_getElem? hx)).1, hf, hl, (fits_len hf).1⟩
theorem drput_tie (i j : Int) (l : List Int) (A : Option Addr) (n m : Nat) (h : w.ownsRow base 77 7 (.slice a R.length c) R.length (fr R)) (hbase : base ≤ w.heap.size) (ht : TieD T R) (hc : 0 ≤ ch ∧ ch ≤ 1000000) (hB : Byt w w.heap.size A n m l) :
    Calls Try.prog 68 #[.agg #[.slice a R.length c, .int .i64 ch], .agg #[.int .i64 i, .int .i64 j], .slice A n m] w (TieP w base (newT (pE i j l T) i j l T) (newC (pE i j l T) i j l T ch) (pE i j l T)) := by
  refine (drput_any w base R.length c a R ch i j A n m l h rfl (by have := ht.len; have := ht.good.few; omega) hbase ht.ok hc hB).mono ?_
  rintro e w' hp
  rcases hp with ⟨hno, hr⟩ | ⟨p, x, hx, hq, hp⟩
  · have e1 : pE i j l T = 7 := by unfold pE; rw [ht.hasnt hno]; rfl
    rw [e1]
    exact ⟨R, hr, ht⟩
  · obtain ⟨h1, h2⟩ := ht.at_ hx
    have hg := fun hf => ht.give (i := i) (j := j) (l := l) hx hq hf hB.all
    rw [hq] at h1 h2
    have hE : pE i j l T = (if ¬ ownE x.2 true = 0 then ownE x.2 true else if ¬ fitsA x.2.k x.2.a x.2.lo x.2.hi l = 0 then 14 else 0) := by unfold pE; rw [h1, h2]
    rcases hp with ⟨ha, hr⟩ | ⟨ha, hf, hr⟩ | ⟨ha, hf, hr⟩
    · have e2 : ownE x.2 true = 12 := by unfold ownE; rw [if_neg (by decide), if_pos ha]
      rw [hE, e2]
      exact ⟨R, hr, ht⟩
    · have e2 : ownE x.2 true = 0 := by unfold ownE; rw [if_neg (by decide), if_neg ha]
      have e1 := hE.trans ((if_neg (fun h => h e2)).trans (if_pos hf))
      rw [e1]
      exact ⟨R, hr, ht⟩
    · have e2 : ownE x.2 true = 0 := by unfold ownE; rw [if_neg (by decide), if_neg ha]
      have e1 := hE.trans ((if_neg (fun h => h e2)).trans (if_neg (fun h => h hf)))
      unfold newT newC
      rw [e1, if_pos rfl, if_pos rfl]
      refine ⟨_, ?_, hg hf⟩
      rw [h2]
      exact hr
end
end Go.Proofs.Ytgaoplbocjadaaa
namespace Go.Proofs.Ytgaoplbocjadaaa
open Go.RowKit
set_option linter.unusedSimpArgs false
set_option linter.unusedVariables false
section
variable {w : World} {base g s : Nat} {T R : List (Int × Ent)} {ch : Int} {v : Value} {a : Option Addr} {c : Nat}
/-- Set's answer. -/
def sE (i j m : Int) (T : List (Int × Ent)) : Int :=
  if ¬ ownE (thI e0 (numI i j) T) (hasI (numI i j) T) = 0 then ownE (thI e0 (numI i j) T) (hasI (numI i j) T) else
    bytE (thI e0 (numI i j) T).k (thI e0 (numI i j) T).a (thI e0 (numI i j) T).lo (thI e0 (numI i j) T).hi m
def sL (i j m : Int) (T : List (Int × Ent)) : List Int := bytA (thI e0 (numI i j) T).k (thI e0 (numI i j) T).a (thI e0 (numI i j) T).lo (thI e0 (numI i j) T).hi m
theorem dset_any (i j m : Int) (h : DiI w base g s T ch v) (hbase : base ≤ w.heap.size) (hG : Good T) (hc : 0 ≤ ch ∧ ch ≤ 1000000) :
    Calls Try.prog 32 #[.pointer (some ⟨g, 0, none⟩), .agg #[.int .i64 i, .int .i64 j], .int .i64 m] w fun e w' => e = .returned (.int .i64 (sE i j m T)) ∧ GoD w base g s (newT (sE i j m T) i j (sL i j m T) T) (newC (sE i j m T) i j (sL i j m T) T ch) v w' := by
  have ho := ownc_any i j h hG
  by_cases h0 : ownE (thI e0 (numI i j) T) (hasI (numI i j) T) = 0
  · rw [ownX_zero h0, h0] at ho
    have e1 : sE i j m T = bytE (thI e0 (numI i j) T).k (thI e0 (numI i j) T).a (thI e0 (numI i j) T).lo (thI e0 (numI i j) T).hi m := by unfold sE; rw [if_neg (fun h => h h0)]
    rw [e1]
    by_cases hf : bytE (thI e0 (numI i j) T).k (thI e0 (numI i j) T).a (thI e0 (numI i j) T).lo (thI e0 (numI i j) T).hi m = 0
    · unfold newT newC sL
      rw [hf, if_pos rfl, if_pos rfl]
      exact set_fit w _ i j _ m _ ho (givk_any i j _ _ h hbase hG hc (th_ok hG _).1) hf
    · unfold newT newC
      rw [if_neg hf, if_neg hf]
      exact (set_unfit w _ i j _ m ho hf).mono fun e w' ⟨h1, h2⟩ => ⟨h1, GoD.of_below h h2⟩
  · have e1 : sE i j m T = ownE (thI e0 (numI i j) T) (hasI (numI i j) T) := by unfold sE; rw [if_pos h0]
    rw [e1]
    unfold newT newC
    rw [if_neg h0, if_neg h0]
    exact (set_out w _ i j _ _ m ho h0).mono fun e w' ⟨h1, h2⟩ => ⟨h1, GoD.of_below h h2⟩
theorem bytE_zero {k a lo hi m : Int} (h : bytE k a lo hi m = 0) : mayB k a lo hi = true ∧ ¬ k = 8 ∧ lo ≤ m ∧ m ≤ hi := by
  unfold bytE at h
  by_cases h1 : mayB k a lo hi = false ∨ k = 8
  · rw [if_pos h1] at h; cases h
  · by_cases h2 : m < lo ∨ hi < m
    · rw [if_neg h1, if_pos h2] at h; cases h
    · simp only [not_or, Bool.not_eq_false] at h1
      exact ⟨h1.1, h1.2, by omega, by omega⟩
theorem drset_tie (i j m : Int) (h : w.ownsRow base 77 7 (.slice a R.length c) R.length (fr R)) (hbase : base ≤ w.heap.size) (ht : TieD T R) (hc : 0 ≤ ch ∧ ch ≤ 1000000) :
    Calls Try.prog 33 #[.agg #[.slice a R.length c, .int .i64 ch], .agg #[.int .i64 i, .int .i64 j], .int .i64 m] w (TieP w base (newT (sE i j m T) i j (sL i j m T) T) (newC (sE i j m T) i j (sL i j m T) T ch) (sE i j m T)) := by
  refine (drset_any w base R.length c a R ch i j m h rfl (by have := ht.len; have := ht.good.few; omega) hbase ht.ok hc).mono ?_
  rintro e w' hp
  rcases hp with ⟨hno, hr⟩ | ⟨p, x, hx, hq, hp⟩
  · have e1 : sE i j m T = 7 := by unfold sE; rw [ht.hasnt hno]; rfl
    rw [e1]
    exact ⟨R, hr, ht⟩
  · obtain ⟨h1, h2⟩ := ht.at_ hx
    have hg := fun l hf hl => ht.give (i := i) (j := j) (l := l) hx hq hf hl
    have hm := fits_may (ht.ok x (List.mem_of_getElem? hx)).2.1
    rw [hq] at h1 h2
    have hE : sE i j m T = (if ¬ ownE x.2 true = 0 then ownE x.2 true else bytE x.2.k x.2.a x.2.lo x.2.hi m) := by unfold sE; rw [h1, h2]
    rcases hp with ⟨ha, hr⟩ | ⟨ha, h8, hr⟩ | ⟨ha, h8, hf, hr⟩ | ⟨ha, h8, hf, hr⟩
    · have e2 : ownE x.2 true = 12 := by unfold ownE; rw [if_neg (by decide), if_pos ha]
      rw [hE, e2]
      exact ⟨R, hr, ht⟩
    · have e2 : ownE x.2 true = 0 := by unfold ownE; rw [if_neg (by decide), if_neg ha]
      have e3 : bytE x.2.k x.2.a x.2.lo x.2.hi m = 2 := by unfold bytE; rw [if_pos (.inr h8)]
      have e1 := (hE.trans (if_neg (fun h => h e2))).trans e3
      rw [e1]
      exact ⟨R, hr, ht⟩
    · have e2 : ownE x.2 true = 0 := by unfold ownE; rw [if_neg (by decide), if_neg ha]
      have e3 : bytE x.2.k x.2.a x.2.lo x.2.hi m = 14 := by unfold bytE; rw [if_neg (by rw [hm]; simp [h8]), if_pos hf]
      have e1 := (hE.trans (if_neg (fun h => h e2))).trans e3
      rw [e1]
      exact ⟨R, hr, ht⟩
    · have e2 : ownE x.2 true = 0 := by unfold ownE; rw [if_neg (by decide), if_neg ha]
      have e3 : bytE x.2.k x.2.a x.2.lo x.2.hi m = 0 := by unfold bytE; rw [if_neg (by rw [hm]; simp [h8]), if_neg (by omega)]
      have e1 := (hE.trans (if_neg (fun h => h e2))).trans e3
      have e4 := (byt_yes (k := x.2.k) (a := x.2.a) (lo := x.2.lo) (hi := x.2.hi) hm h8 hf.1 hf.2).1
      have e5 := (fits_put (k := x.2.k) (a := x.2.a) (lo := x.2.lo) (hi := x.2.hi) hm h8 hf.1 hf.2).1
      have e6 : sL i j m T = bytA x.2.k x.2.a x.2.lo x.2.hi m := by unfold sL; rw [h2]
      have e7 : ∀ y ∈ bytA x.2.k x.2.a x.2.lo x.2.hi m, 0 ≤ y ∧ y ≤ 255 := by
        unfold bytA
        rw [if_pos ⟨hm, h8, hf⟩]
        exact putL_range _ _
      rw [e4] at e5 hr
      unfold newT newC
      rw [e1, if_pos rfl, if_pos rfl, e6]
      refine ⟨_, ?_, hg _ e5 e7⟩
      rw [h2]
      exact hr
/-- Write's answer. -/
def wE (i j : Int) (l : List Int) (T : List (Int × Ent)) : Int := wrE (thI e0 (numI i j) T) (findE i j T) l
theorem findE_zero {i j : Int} {T : List (Int × Ent)} (h : findE i j T = 0) : hasI (numI i j) T = true := by
  unfold findE at h
  by_cases hh : hasI (numI i j) T = true
  · exact hh
  · rw [if_neg hh] at h
    split at h <;> cases h
end
end Go.Proofs.Ytgaoplbocjadaaa
namespace Go.Proofs.Ytgaoplbocjadaaa
open Go.RowKit
set_option linter.unusedSimpArgs false
set_option linter.unusedVariables false
/-- The types of the blocks that a dictionary of the program consists of. -/
def own3 (t : TypeId) : Prop := t = 134 ∨ t = 184 ∨ t = 202
/-- Nothing below B has changed, and no block of another type. -/
def Oth (B : Nat) (w w' : World) : Prop := Below B w w' ∧ ∀ (k : Nat) cs t fr, w.heap[k]? = some (Obj.cells cs t fr) → ¬ own3 t → w'.heap[k]? = some (Obj.cells cs t fr)
theorem Oth.of_below {B : Nat} {w w' : World} (h : Below w.heap.size w w') (hB : B ≤ w.heap.size) : Oth B w w' := ⟨h.mono hB, fun k cs t fr hk _ => (h.block k (Array.getElem?_eq_some_iff.1 hk).1).trans hk⟩
theorem Oth.trans {B : Nat} {a b c : World} (h : Oth B a b) (k : Oth B b c) : Oth B a c := ⟨h.1.trans k.1, fun i cs t fr hi ht => k.2 i cs t fr (h.2 i cs t fr hi ht) ht⟩
theorem Oth.own {B : Nat} {w w' : World} (h : Oth B w w') {base e s n : Nat} {v : Value} {xs : List Value} (ho : w.ownsRow base e s v n xs) (he : ¬ own3 e) : w'.ownsRow base e s v n xs := by
  refine ⟨ho.1, ?_⟩
  rcases ho.2 with hn | ⟨b, cap, cur, rfl, hb, hg, rest⟩
  · exact .inl hn
  · exact .inr ⟨b, cap, cur, rfl, hb, h.2 _ _ _ _ hg he, rest⟩
theorem own_blkD {w w' : World} {base e s n : Nat} {v : Value} {xs : List Value} (ho : w.ownsRow base e s v n xs) (h : ∀ b cs fr, v.ownBlock = some b → w.heap[b]? = some (.cells cs e fr) → w'.heap[b]? = w.heap[b]?) : w'.ownsRow base e s v n xs := by
  refine ⟨ho.1, ?_⟩
  rcases ho.2 with hn | ⟨b, cap, cur, rfl, hb, hg, rest⟩
  · exact .inl hn
  · exact .inr ⟨b, cap, cur, rfl, hb, (h b _ _ rfl hg).trans hg, rest⟩
/-- A dictionary of the program, with all its blocks from B on. -/
def DictAt (B g : Nat) (T : List (Int × Ent)) (ch : Int) (w : World) : Prop := ∃ s v, DiI w B g s T ch v ∧ B ≤ g ∧ B ≤ s ∧ B ≤ w.heap.size
theorem not3_R : ¬ own3 77 := by unfold own3; decide
theorem not3_D : ¬ own3 33 := by unfold own3; decide
theorem not3_K : ¬ own3 24 := by unfold own3; decide
section
variable {w w' : World} {B g s : Nat} {T T' : List (Int × Ent)} {ch ch' : Int} {v : Value}
theorem DiI.keep (h : DiI w B g s T ch v) (hk : ∀ k cs t fr, w.heap[k]? = some (Obj.cells cs t fr) → own3 t → (k = g ∨ k = s ∨ v.ownBlock = some k) → w'.heap[k]? = w.heap[k]?) : DiI w' B g s T ch v := by
  refine ⟨(hk g _ _ _ h.box (.inl rfl) (.inl rfl)).trans h.box, ⟨(hk s _ _ _ h.sh.box (.inr (.inl rfl)) (.inr (.inl rfl))).trans h.sh.box, own_blkD h.sh.row fun b cs fr hb hg => hk b _ _ _ hg (.inr (.inr rfl)) (.inr (.inr hb)), h.sh.isnt⟩⟩
theorem DictAt.below (h : DictAt B g T ch w) (hb : Below w.heap.size w w') : DictAt B g T ch w' := by
  obtain ⟨s, v, h1, hg, hs, hB⟩ := h
  exact ⟨s, v, h1.below hb, hg, hs, Nat.le_trans hB hb.size⟩
theorem DictAt.set {b : Nat} {cs : Array Value} {t : TypeId} {fr : Nat × Nat} (h : DictAt B g T ch w) (hb : w.heap[b]? = some (.cells cs t fr)) (ht : ¬ own3 t) (o : Nat) (x : Value) : DictAt B g T ch (w.setCell ⟨b, o, none⟩ x) := by
  obtain ⟨s, v, h1, hg, hs, hB⟩ := h
  refine ⟨s, v, h1.keep fun k cs' t' fr' hk ht' _ => heap_other _ _ _ _ ?_, hg, hs, by simpa using hB⟩
  intro e
  simp only at e
  subst e
  rw [hb] at hk
  cases hk
  exact ht ht'
theorem dtch_oth (h : DiI w B g s T ch v) (hg : B ≤ g) (hs : B ≤ s) (hB : B ≤ w.heap.size) (ht : DTch w w' g s v) : Oth B w w' := by
  have hv : ∀ b, v.ownBlock = some b → B ≤ b := fun b hb => by
    rcases h.sh.row.2 with ⟨rfl, _⟩ | ⟨b', cap, cur, rfl, hb', _⟩
    · cases hb
    · cases hb; exact hb'
  refine ⟨⟨ht.os, ht.tape, ht.output, ht.size, fun k hk => ht.block k (by omega) (by omega) (by omega) (fun e => by have := hv k e; omega)⟩, fun k cs t fr hk hn => (ht.block k (Array.getElem?_eq_some_iff.1 hk).1 ?_ ?_ ?_).trans hk⟩
  · rintro rfl; rw [h.box] at hk; cases hk; exact hn (.inl rfl)
  · rintro rfl; rw [h.sh.box] at hk; cases hk; exact hn (.inr (.inl rfl))
  · intro e
    rcases h.sh.row.2 with ⟨rfl, _⟩ | ⟨b', cap, cur, rfl, _, hb', _⟩
    · cases e
    · cases e; rw [hb'] at hk; cases hk; exact hn (.inr (.inr rfl))
theorem GoD.at_ (hgo : GoD w B g s T' ch' v w') (h : DiI w B g s T ch v) (hg : B ≤ g) (hs : B ≤ s) (hB : B ≤ w.heap.size) : DictAt B g T' ch' w' ∧ Oth B w w' := by
  obtain ⟨v', h1, h2, h3⟩ := hgo
  exact ⟨⟨s, v', h1, hg, hs, Nat.le_trans hB h3.size⟩, dtch_oth h hg hs hB h3⟩
theorem DiI.own_lt (h : DiI w B g s T ch v) : ∀ b, v.ownBlock = some b → b < w.heap.size ∧ B ≤ b := fun b hb => by
  rcases h.sh.row.2 with ⟨rfl, _⟩ | ⟨b', cap, cur, rfl, h0, hb', _⟩
  · cases hb
  · cases hb; exact ⟨(Array.getElem?_eq_some_iff.1 hb').1, h0⟩
/-- Both dictionaries. -/
structure Both (B g : Nat) (T : List (Int × Ent)) (ch : Int) (a : Option Addr) (c : Nat) (R : List (Int × Ent)) (w : World) : Prop where
  dict : DictAt B g T ch w
  ref : w.ownsRow B 77 7 (.slice a R.length c) R.length (fr R)
  tie : TieD T R
variable {a : Option Addr} {c : Nat} {R : List (Int × Ent)}
theorem Both.below (h : Both B g T ch a c R w) (hb : Below w.heap.size w w') : Both B g T ch a c R w' := ⟨h.dict.below hb, own_below h.ref hb, h.tie⟩
theorem Both.set {b : Nat} {cs : Array Value} {fr : Nat × Nat} (h : Both B g T ch a c R w) (hb : w.heap[b]? = some (.cells cs 33 fr)) (o : Nat) (x : Value) : Both B g T ch a c R (w.setCell ⟨b, o, none⟩ x) := by
  refine ⟨h.dict.set hb not3_D o x, ownsRow_setCell_other h.ref ?_ _, h.tie⟩
  intro e
  rcases h.ref.2 with ⟨e1, _⟩ | ⟨b', cap, cur, e1, _, hb', _⟩
  · rw [e1] at e; cases e
  · rw [e1] at e; cases e; rw [hb] at hb'; cases hb'
theorem at_add (i j k ac lo hi : Int) (l : List Int) (A : Option Addr) (n m : Nat) (h : DictAt B g T ch w) (hG : Good T) (hB : Byt w w.heap.size A n m l) :
    Calls Try.prog 41 #[.pointer (some ⟨g, 0, none⟩), .agg #[.int .i64 i, .int .i64 j], .agg #[.int .i64 k, .int .i64 ac, .int .i64 lo, .int .i64 hi], .slice A n m] w fun e w' => e = .returned (.int .i64 (addE i j k ac lo hi l T)) ∧ DictAt B g (addT i j k ac lo hi l T) ch w' ∧ Oth B w w' := by
  obtain ⟨s, v, h1, hg, hs, hb⟩ := h
  exact (add_any i j k ac lo hi l A n m h1 hb hG hB).mono fun e w' ⟨h2, h3⟩ => ⟨h2, h3.at_ h1 hg hs hb⟩
theorem at_put (i j : Int) (l : List Int) (A : Option Addr) (n m : Nat) (h : DictAt B g T ch w) (hG : Good T) (hc : 0 ≤ ch ∧ ch ≤ 1000000) (hB : Byt w w.heap.size A n m l) :
    Calls Try.prog 67 #[.pointer (some ⟨g, 0, none⟩), .agg #[.int .i64 i, .int .i64 j], .slice A n m] w fun e w' => e = .returned (.int .i64 (pE i j l T)) ∧ DictAt B g (newT (pE i j l T) i j l T) (newC (pE i j l T) i j l T ch) w' ∧ Oth B w w' := by
  obtain ⟨s, v, h1, hg, hs, hb⟩ := h
  exact (dput_any i j l A n m h1 hb hG hc hB).mono fun e w' ⟨h2, h3⟩ => ⟨h2, h3.at_ h1 hg hs hb⟩
theorem at_set (i j m : Int) (h : DictAt B g T ch w) (hG : Good T) (hc : 0 ≤ ch ∧ ch ≤ 1000000) :
    Calls Try.prog 32 #[.pointer (some ⟨g, 0, none⟩), .agg #[.int .i64 i, .int .i64 j], .int .i64 m] w fun e w' => e = .returned (.int .i64 (sE i j m T)) ∧ DictAt B g (newT (sE i j m T) i j (sL i j m T) T) (newC (sE i j m T) i j (sL i j m T) T ch) w' ∧ Oth B w w' := by
  obtain ⟨s, v, h1, hg, hs, hb⟩ := h
  exact (dset_any i j m h1 hb hG hc).mono fun e w' ⟨h2, h3⟩ => ⟨h2, h3.at_ h1 hg hs hb⟩
theorem newT_good {q i j : Int} {l : List Int} (hG : TieD T R) (h : ∃ R', TieD (newT q i j l T) R') : Good (newT q i j l T) := h.elim fun _ h => h.good
/-- The fork, which stays as it is whatever is put and set in the old one. -/
def ForkO (B : Nat) (g : Nat) (T : List (Int × Ent)) (ch : Int) (e : Ending) (w' : World) : Prop := ∃ g', e = .returned (.pointer (some ⟨g', 0, none⟩)) ∧ DictAt B g' T ch w' ∧
  ∀ (i j m : Int) (l : List Int) (A : Option Addr) (n k : Nat), Byt w' w'.heap.size A n k l → Good (newT (pE i j l T) i j l T) →
    Calls Try.prog 67 #[.pointer (some ⟨g, 0, none⟩), .agg #[.int .i64 i, .int .i64 j], .slice A n k] w' fun e2 w2 => (∃ x, e2 = .returned (.int .i64 x)) ∧ Oth B w' w2 ∧
      Calls Try.prog 32 #[.pointer (some ⟨g, 0, none⟩), .agg #[.int .i64 i, .int .i64 j], .int .i64 m] w2 fun e3 w3 => (∃ x, e3 = .returned (.int .i64 x)) ∧ Oth B w2 w3 ∧ DictAt B g' T ch w3
theorem givC_le (ch : Int) (x : Ent) (l : List Int) : ch ≤ givC ch x l ∧ givC ch x l ≤ ch + 1 := by
  unfold givC; split <;> omega
theorem newC_le (q i j : Int) (l : List Int) (T : List (Int × Ent)) (ch : Int) : ch ≤ newC q i j l T ch ∧ newC q i j l T ch ≤ ch + 1 := by
  unfold newC; split
  · exact givC_le _ _ _
  · omega
end
theorem results_tct {fn : Func} {q p u : Tmp} {ty : TypeId} (h : fn.results = #[.tmp q, .cell p ty, .tmp u]) (tmps : Array Value) (P : Program) (w : World) :
    (results fn tmps).run P w =
      ((asAddr (tmps.getD p undef)).run P w).andThen fun a w₁ => ((loadVar ty a).run P w₁).andThen fun v w₂ => .ok (.tuple #[tmps.getD q undef, v, tmps.getD u undef]) w₂ := by
  simp only [results, h]
  simp [Sem.run_bind, Result.andThen]
theorem results_tmp_cell_tmp {P : Program} {fn : Func} {q p u : Tmp} {ty : TypeId} (h : fn.results = #[.tmp q, .cell p ty, .tmp u]) (tmps : Array Value) (w : World) (g : Nat) (t : TypeId) (cs : Array Value) (fr : Nat × Nat) (d : TypeDesc)
    (hp : tmps.getD p undef = .pointer (some ⟨g, 0, none⟩)) (hg : w.heap[g]? = some (.cells cs t fr))
    (hu : P.underlying ty = some d) (hd : (match d with | .struct _ | .array _ _ => true | _ => false) = true) (hi : (P.info? ty).map (·.size) = some cs.size) :
    (results fn tmps).run P w = .ok (.tuple #[tmps.getD q undef, .agg cs, tmps.getD u undef]) w := by
  rw [results_tct h, hp]
  simp [asAddr, run_loadVar_row w g t ty cs fr d hg hu hd hi]
end Go.Proofs.Ytgaoplbocjadaaa
namespace Go.Proofs.Ytgaoplbocjadaaa
open Go.RowKit
set_option linter.unusedSimpArgs false
set_option linter.unusedVariables false
/-- What both dictionaries have become. -/
def DoneP (B : Nat) (w : World) (T : List (Int × Ent)) (ch : Int) (e : Ending) (w' : World) : Prop := ∃ (g' : Nat) (T' : List (Int × Ent)) (ch' : Int) (a' : Option Addr) (c' : Nat) (R' : List (Int × Ent)), e = .returned (.tuple #[.pointer (some ⟨g', 0, none⟩), .agg #[.slice a' R'.length c', .int .i64 ch'], .bool true]) ∧ Both B g' T' ch' a' c' R' w' ∧ T'.length ≤ T.length + 1 ∧ 0 ≤ ch' ∧ ch' ≤ ch + 1 ∧ Oth B w w'
theorem Oth.set {B b : Nat} {w x : World} (h : Oth B w x) (hB : B ≤ b) (hb : w.heap.size ≤ b) (o : Nat) (u : Value) : Oth B w (x.setCell ⟨b, o, none⟩ u) := ⟨h.1.setCell (p := ⟨b, o, none⟩) hB _, fun k cs t fr hk ht => (heap_other _ _ _ _ (by have := (Array.getElem?_eq_some_iff.1 hk).1; simp; omega)).trans (h.2 k cs t fr hk ht)⟩
theorem newT_le (q i j : Int) (l : List Int) (T : List (Int × Ent)) : (newT q i j l T).length ≤ T.length + 1 := by
  unfold newT givT
  split
  · split
    · omega
    · exact putI_le _ _ _
  · omega
theorem put_good {T R : List (Int × Ent)} (ht : TieD T R) (i j : Int) {l : List Int} (hl : ∀ y ∈ l, 0 ≤ y ∧ y ≤ 255) : Good (newT (pE i j l T) i j l T) := by
  unfold newT
  by_cases h0 : pE i j l T = 0
  · rw [if_pos h0]
    have hh : hasI (numI i j) T = true := by
      cases hh : hasI (numI i j) T with
      | true => rfl
      | false => unfold pE at h0; rw [hh] at h0; cases h0
    obtain ⟨x, hx, hq⟩ := ht.has.1 hh
    obtain ⟨p, hp⟩ := List.mem_iff_getElem?.1 hx
    have h2 := (ht.at_ hp).2
    rw [hq] at h2
    refine (ht.give (i := i) (j := j) hp hq ?_ hl).good
    unfold pE at h0
    rw [hh, h2] at h0
    by_cases ho : ownE x.2 true = 0
    · rw [if_neg (fun h => h ho)] at h0
      by_cases hf : fitsA x.2.k x.2.a x.2.lo x.2.hi l = 0
      · exact hf
      · rw [if_pos hf] at h0; cases h0
    · rw [if_pos ho] at h0; exact absurd h0 ho
  · rw [if_neg h0]; exact ht.good
section
variable {B n c q m : Nat} {w x y : World} {a A a' : Option Addr} {ch d i j k ac lo hi N ch' : Int} {n' c' : Nat}
end
end Go.Proofs.Ytgaoplbocjadaaa