/- Timers as loops hold them, beside the document's rows: the calls by one predicate. -/
import Derived.Test.YthofimkjemhnoaaPBUa
namespace Go.Proofs.Ythofimkjemhnoaa
open Go.RowKit
set_option linter.unusedSimpArgs false
set_option linter.unusedVariables false
/-- All blocks of other types than the timers' four are as they were. -/
def OthT (w w' : World) : Prop := ∀ td, td ≠ 82 → td ≠ 90 → td ≠ 93 → td ≠ 98 → KpT td w w'
theorem OthT.trans {a b c : World} (h : OthT a b) (k : OthT b c) : OthT a c := fun td h1 h2 h3 h4 => kpt_t (h td h1 h2 h3 h4) (k td h1 h2 h3 h4)
theorem othT_below {w w' : World} (h : Below w.heap.size w w') : OthT w w' := fun _ _ _ _ _ => kpt_below h
section
variable {w w' : World} {base g s : Nat} {L T L2 T2 : List (Int × Int)} {v u : Value}
theorem TchT.lowI (h : TchT w w' g s v u) (hT : TmI w base g s L T v u) (hg : base ≤ g) (hs : base ≤ s) (hb : base ≤ w.heap.size) : Below base w w' :=
  ⟨h.os, h.tape, h.output, h.size, fun k hk => h.block k (by omega) (by omega) (by omega) (fun e => by have := (hT.row.lt _ e).1; omega) (fun e => by have := (hT.sh.row.lt _ e).1; omega)⟩
theorem TchT.oth (h : TchT w w' g s v u) (hT : TmI w base g s L T v u) : OthT w w' := fun td h1 h2 h3 h4 => ⟨h.size, fun k cs fr hk => by
  refine h.block k (Array.getElem?_eq_some_iff.1 hk).1 (fun e => ?_) (fun e => ?_) (fun e => ?_) (fun e => ?_)
  · subst e; have := hT.box; rw [hk] at this; cases this; exact h1 rfl
  · subst e; have := hT.sh.box; rw [hk] at this; cases this; exact h2 rfl
  · obtain ⟨cs', hc⟩ := own_ty hT.row e; rw [hk] at hc; cases hc; exact h3 rfl
  · obtain ⟨cs', hc⟩ := own_ty hT.sh.row e; rw [hk] at hc; cases hc; exact h4 rfl⟩
theorem TmI.less {base' : Nat} (h : TmI w base g s L T v u) (hb : base' ≤ base) : TmI w base' g s L T v u := ⟨h.box, own_less h.row hb, ⟨h.sh.box, own_less h.sh.row hb, h.sh.isnt⟩⟩
end
structure TimAt (w0 : World) (g : Nat) (L T : List (Int × Int)) (wr : World) : Prop where
  tm : ∃ s v u, TmI wr w0.heap.size g s L T v u ∧ w0.heap.size ≤ s
  ge : w0.heap.size ≤ g
  bel : Below w0.heap.size w0 wr
theorem TimAt.step {w0 wr w2 : World} {g : Nat} {L T : List (Int × Int)} (h : TimAt w0 g L T wr) (hb : Below wr.heap.size wr w2) : TimAt w0 g L T w2 := by
  obtain ⟨⟨s, v, u, h1, h2⟩, h3, h4⟩ := h
  exact ⟨⟨s, v, u, h1.below hb, h2⟩, h3, kF hb h4⟩
theorem TimAt.lt {w0 wr : World} {g : Nat} {L T : List (Int × Int)} (h : TimAt w0 g L T wr) : g < wr.heap.size := by
  obtain ⟨⟨s, v, u, h1, h2⟩, h3, h4⟩ := h
  exact h1.lt
theorem TimAt.go {w0 w w' : World} {g s : Nat} {L T L2 T2 : List (Int × Int)} {v u : Value} (h1 : TmI w w0.heap.size g s L T v u) (hs : w0.heap.size ≤ s) (hg : w0.heap.size ≤ g) (hb : Below w0.heap.size w0 w) (h : GoI w w0.heap.size g s L2 T2 v u w') : TimAt w0 g L2 T2 w' ∧ OthT w w' := by
  obtain ⟨v', u', h2, _, _, h3⟩ := h
  exact ⟨⟨⟨s, v', u', h2, hs⟩, hg, hb.trans (h3.lowI h1 hg hs hb.size)⟩, h3.oth h1⟩
theorem tim_new (w0 w : World) (hb : Below w0.heap.size w0 w) : Calls Try.prog 27 #[] w fun e w' => ∃ g, e = .returned (.pointer (some ⟨g, 0, none⟩)) ∧ TimAt w0 g [] [] w' ∧ Below w.heap.size w w' := by
  refine (tnewI w).mono ?_
  rintro e w' ⟨g, s, rfl, h1, h2, h3, h4⟩
  have := hb.size
  exact ⟨g, rfl, ⟨⟨s, _, _, h1.less this, by omega⟩, by omega, kF h4 hb⟩, h4⟩
section
variable {w0 w : World} {g : Nat} {L T R : List (Int × Int)}
theorem tim_stop (k : Int) (h : TimAt w0 g L T w) (ht : TieT L T R) (hn : R.length ≤ 800) :
    Calls Try.prog 39 #[.pointer (some ⟨g, 0, none⟩), .int .i64 k] w fun e w' => e = .returned (.bool (dhas k R)) ∧ ∃ L2 T2, TieT L2 T2 (dcut k R) ∧ TimAt w0 g L2 T2 w' ∧ OthT w w' := by
  obtain ⟨⟨s, v, u, h1, hs⟩, hg, hb⟩ := h
  obtain ⟨l1, l2⟩ := ht.len
  cases hh : dhas k R with
  | false =>
    refine (stop_noI w _ g s L T v u k h1 (by omega) ht.tie.rise (by rw [ht.tie.has, hh])).mono ?_
    rintro e w' ⟨-, rfl, hgo⟩
    obtain ⟨h2, h3⟩ := TimAt.go h1 hs hg hb hgo
    exact ⟨rfl, L, T, by rw [dcut_none hh]; exact ht, h2, h3⟩
  | true =>
    obtain ⟨i, hx, hp, hth⟩ := ht.find hh
    refine (stop_yesI w _ g s i L T (L.take i ++ L.drop (i + 1)) v u k (dgetI k R) h1 (by omega) (by omega) ht.rl ht.tie.rise (by rw [ht.tie.has, hh]) hth hx hp rfl).mono ?_
    rintro e w' ⟨-, rfl, hgo⟩
    obtain ⟨h2, h3⟩ := TimAt.go h1 hs hg hb hgo
    exact ⟨rfl, _, _, ht.cut_at hx, h2, h3⟩
theorem tim_set (k v : Int) (h : TimAt w0 g L T w) (ht : TieT L T R) (hn : R.length ≤ 800) :
    Calls Try.prog 40 #[.pointer (some ⟨g, 0, none⟩), .int .i64 k, .int .i64 v] w fun e w' => e = .returned (.tuple #[]) ∧ ∃ L2 T2, TieT L2 T2 (dput k v R) ∧ TimAt w0 g L2 T2 w' ∧ OthT w w' := by
  obtain ⟨⟨s, v', u, h1, hs⟩, hg, hb⟩ := h
  obtain ⟨l1, l2⟩ := ht.len
  have hcl := dcut_le k R
  cases hh : dhas k R with
  | false =>
    have ht1 : TieT L T (dcut k R) := by rw [dcut_none hh]; exact ht
    have hst := (stop_noI w _ g s L T v' u k h1 (by omega) ht.tie.rise (by rw [ht.tie.has, hh])).mono (fun e w' (hx : _ ∧ _ ∧ _) => (⟨hx.1, hx.2.2⟩ : _ ∧ _))
    refine (tsetI w _ g s L T L T v' u k v h1 hb.size hst (by omega) (by omega) ht.rl ht.tie.rise).mono ?_
    rintro e w' ⟨rfl, hgo⟩
    obtain ⟨h2, h3⟩ := TimAt.go h1 hs hg hb hgo
    exact ⟨rfl, _, _, ht1.ins k v, h2, h3⟩
  | true =>
    obtain ⟨i, hx, hp, hth⟩ := ht.find hh
    have ht1 := ht.cut_at hx
    obtain ⟨l3, l4⟩ := ht1.len
    simp only at ht1 l3 l4
    have hst := (stop_yesI w _ g s i L T (L.take i ++ L.drop (i + 1)) v' u k (dgetI k R) h1 (by omega) (by omega) ht.rl ht.tie.rise (by rw [ht.tie.has, hh]) hth hx hp rfl).mono (fun e w' (hx : _ ∧ _ ∧ _) => (⟨hx.1, hx.2.2⟩ : _ ∧ _))
    refine (tsetI w _ g s L T _ _ v' u k v h1 hb.size hst (by omega) (by omega) ht1.rl ht1.tie.rise).mono ?_
    rintro e w' ⟨rfl, hgo⟩
    obtain ⟨h2, h3⟩ := TimAt.go h1 hs hg hb hgo
    exact ⟨rfl, _, _, ht1.ins k v, h2, h3⟩
/-- What Take leaves, and answers. -/
def TookT (w0 w : World) (g : Nat) (L T R : List (Int × Int)) (now : Int) (e : Ending) (w' : World) : Prop :=
  ∃ m a c, m ≤ L.length ∧ (∀ x ∈ L.take m, x.2 ≤ now) ∧ (∀ x ∈ L.drop m, now < x.2) ∧ e = .returned (.slice a m c) ∧ w'.ownsRow w.heap.size 3 1 (.slice a m c) m ((L.take m).map fun x => .int .i64 x.1) ∧ TieT (L.drop m) (cutsI (L.take m) T) (dcuts (L.take m) R) ∧ TimAt w0 g (L.drop m) (cutsI (L.take m) T) w' ∧ OthT w w'
theorem rise_after {m : Nat} {now : Int} (hr : RiseT tlI L) (h : ∀ x, L[m]? = some x → now < x.2) : ∀ x ∈ L.drop m, now < x.2 := fun x hx => by
  obtain ⟨i, hi, e⟩ := List.mem_iff_getElem.1 hx
  rw [List.getElem_drop] at e
  simp only [List.length_drop] at hi
  have hx2 : L[m + i]? = some x := by rw [← e]; exact List.getElem?_eq_getElem _
  have h0 := h _ (List.getElem?_eq_getElem (show m < L.length by omega))
  rcases Nat.eq_zero_or_pos i with hz | hz
  · subst hz
    have : L[m]? = some x := hx2
    exact h x this
  · have := hr.at (show m < m + i by omega) (List.getElem?_eq_getElem (show m < L.length by omega)) hx2
    simp only [tlI, Bool.or_eq_true, decide_eq_true_eq, Bool.and_eq_true] at this
    omega
end
end Go.Proofs.Ythofimkjemhnoaa