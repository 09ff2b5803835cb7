/- pair: the document's Tell. -/
import Derived.Test.YtllaajkpobpeiaaOJt
import Derived.Deep.CutBlock
import Derived.Deep.RegionHeld
import Derived.Test.YtllaajkpobpeiaaOJRl
namespace Go.Proofs.Ytllaajkpobpeiaa
open Go.RowKit
set_option linter.unusedSimpArgs false
set_option linter.unusedVariables false
theorem own_slice {w : World} {base e s n : Nat} {v : Value} {xs : List Value} (h : w.ownsRow base e s v n xs) : ∃ a c, v = .slice a n c := by
  rcases h.2 with ⟨rfl, h0⟩ | ⟨g', cap, cur, rfl, _⟩
  · exact ⟨none, 0, by rw [h0]⟩
  · exact ⟨_, _, rfl⟩
theorem own_belowU {w w' : World} {base e s n : Nat} {v : Value} {xs : List Value} (h : w.ownsRow base e s v n xs) (hb : Below w.heap.size w w') : w'.ownsRow base e s v n xs :=
  h.kept (grownr_below none hb) (by cases hv : v.ownBlock with | none => exact .inl rfl | some k => exact .inr (by simp))
/-- A row is kept if a checker's block alone changes. -/
theorem own_onl {w w' : World} {base e s n g : Nat} {v : Value} {xs : List Value} {cs : Array Value} {t : TypeId} (h : w.ownsRow base e s v n xs) (hg : w.heap[g]? = some (.cells cs t (0, 0))) (ht : ¬ t = e) (ho : Onl g w w') : w'.ownsRow base e s v n xs := by
  refine ⟨h.1, ?_⟩
  rcases h.2 with hn | ⟨b, cap, cur, hv, hb, hb2, rest⟩
  · exact .inl hn
  · refine .inr ⟨b, cap, cur, hv, hb, (ho.oth b (Array.getElem?_eq_some_iff.1 hb2).1 (fun e => ?_)).trans hb2, rest⟩
    subst e
    rw [hg] at hb2
    cases hb2
    exact ht rfl
/-- The cells of frames that came. -/
def cmv : List (Bool × List Int) → List Value | [] => [] | x :: R => .bool x.1 :: .string (strOfNums x.2) :: cmv R
theorem cmv_len : ∀ R, (cmv R).length = R.length * 2
  | [] => rfl
  | x :: R => by simp only [cmv, List.length_cons, cmv_len R]; omega
theorem cmv_snoc (R : List (Bool × List Int)) (x : Bool × List Int) : cmv (R ++ [x]) = cmv R ++ [.bool x.1, .string (strOfNums x.2)] := by
  induction R with
  | nil => rfl
  | cons y R ih => simp only [List.cons_append, cmv, ih]
theorem cmv_at : ∀ (R : List (Bool × List Int)) (i : Nat) (x : Bool × List Int), R[i]? = some x → (cmv R)[i * 2]? = some (.bool x.1) ∧ (cmv R)[i * 2 + 1]? = some (.string (strOfNums x.2))
  | [], i, x, h => by simp at h
  | y :: R, 0, x, h => by simp only [List.getElem?_cons_zero, Option.some.injEq] at h; subst h; exact ⟨rfl, rfl⟩
  | y :: R, i + 1, x, h => by
    have := cmv_at R i x (by simpa using h)
    rw [show (i + 1) * 2 = (i * 2 + 1) + 1 by omega]
    simpa [cmv] using this
/-- What the document tells of frames. -/
structure TlV where
  t : Int
  h : Bool
  f : List Int
  v : List Int
  s : Bool
def tl0 : TlV := ⟨0, false, [], [], false⟩
def tlS (sz : Nat) (s : TlV) (x : Bool × List Int) : TlV :=
  if ¬ x.2.length = sz then ⟨4, false, s.f, s.v, s.s⟩ else if ¬ s.h = x.1 then ⟨3, false, s.f, s.v, s.s⟩ else if x.1 = false then ⟨1, true, x.2, s.v, s.s⟩
  else if flipL s.f = x.2 then ⟨2, false, s.f, s.f, true⟩ else ⟨5, false, s.f, s.v, s.s⟩
def tlF (sz : Nat) (R : List (Bool × List Int)) : TlV := R.foldl (tlS sz) tl0
theorem tlF_succ (sz : Nat) {R : List (Bool × List Int)} {i : Nat} {x : Bool × List Int} (hx : R[i]? = some x) : tlF sz (R.take (i + 1)) = tlS sz (tlF sz (R.take i)) x := by
  unfold tlF
  rw [List.take_add_one, hx]
  simp
theorem tlF_snoc (sz : Nat) (R : List (Bool × List Int)) (x : Bool × List Int) : tlF sz (R ++ [x]) = tlS sz (tlF sz R) x := by simp [tlF]
/-- Bytes, and not many. -/
def Bok (l : List Int) : Prop := (∀ y ∈ l, 0 ≤ y ∧ y ≤ 255) ∧ l.length ≤ 12
theorem tlS_ok {sz : Nat} {s : TlV} {x : Bool × List Int} (hs : Bok s.f) (hx : Bok x.2) : Bok (tlS sz s x).f := by
  unfold tlS
  (repeat' split) <;> first | exact hs | exact hx
theorem foldl_ok (sz : Nat) : ∀ (R : List (Bool × List Int)) (s : TlV), Bok s.f → (∀ x ∈ R, Bok x.2) → Bok (R.foldl (tlS sz) s).f
  | [], s, hs, _ => hs
  | x :: R, s, hs, h => foldl_ok sz R _ (tlS_ok hs (h x (by simp))) (fun y hy => h y (by simp [hy]))
theorem tlF_ok (sz : Nat) {R : List (Bool × List Int)} (h : ∀ x ∈ R, Bok x.2) : Bok (tlF sz R).f := foldl_ok sz R tl0 ⟨by simp [tl0], by simp [tl0]⟩ h
theorem tlS_half (sz : Nat) (s : TlV) (x : Bool × List Int) : (tlS sz s x).h = ((tlS sz s x).t == 1) := by
  unfold tlS
  (repeat' split) <;> rfl
theorem foldl_half (sz : Nat) : ∀ (R : List (Bool × List Int)) (s : TlV), s.h = (s.t == 1) → (R.foldl (tlS sz) s).h = ((R.foldl (tlS sz) s).t == 1)
  | [], s, h => h
  | x :: R, s, h => foldl_half sz R _ (tlS_half sz s x)
theorem tlF_half (sz : Nat) (R : List (Bool × List Int)) : (tlF sz R).h = ((tlF sz R).t == 1) := foldl_half sz R tl0 rfl
theorem str_lenU (l : List Int) : (strOfNums l).size = l.length := by simp [strOfNums, ByteArray.size]
end Go.Proofs.Ytllaajkpobpeiaa