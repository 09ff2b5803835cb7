/- A fork of timers beside the old ones, which are set and taken from. -/
import Derived.Test.YtbabohioeeandaaUh
namespace Go.Proofs.Ytbabohioeeandaa
open Go.RowKit
set_option linter.unusedSimpArgs false
set_option linter.unusedVariables false

/-- Timers whose blocks all lie from B on and below C; others have none there. -/
def Within (B C g s : Nat) (v u : Value) : Prop := (B ≤ g ∧ g < C) ∧ (B ≤ s ∧ s < C) ∧ (∀ b, v.ownBlock = some b → B ≤ b ∧ b < C) ∧ (∀ b, u.ownBlock = some b → B ≤ b ∧ b < C)
def Apart (B C g s : Nat) (v u : Value) : Prop := g < B ∧ s < B ∧ (∀ b, v.ownBlock = some b → b < B ∨ C ≤ b) ∧ (∀ b, u.ownBlock = some b → b < B ∨ C ≤ b)
theorem own_blk {w w' : World} {base e s n : Nat} {v : Value} {xs : List Value} (ho : w.ownsRow base e s v n xs) (h : ∀ b, v.ownBlock = some b → w'.heap[b]? = w.heap[b]?) : w'.ownsRow base e s v n xs := by
  refine ⟨ho.1, ?_⟩
  rcases ho.2 with hn | ⟨b, cap, cur, rfl, hb, hg, rest⟩
  · exact .inl hn
  · exact .inr ⟨b, cap, cur, rfl, hb, (h b rfl).trans hg, rest⟩
theorem TmI.apart {w w' : World} {base B C g s g2 s2 : Nat} {L T : List (Int × Int)} {v u v2 u2 : Value} (h : TmI w base g s L T v u) (hW : Within B C g s v u) (hA : Apart B C g2 s2 v2 u2) (hC : C ≤ w.heap.size) (ht : TchT w w' g2 s2 v2 u2) : TmI w' base g s L T v u := by
  obtain ⟨⟨a1, a2⟩, ⟨b1, b2⟩, hv, hu⟩ := hW
  obtain ⟨c1, c2, hv2, hu2⟩ := hA
  have key : ∀ k, B ≤ k → k < C → w'.heap[k]? = w.heap[k]? := fun k h1 h2 => ht.block k (by omega) (by omega) (by omega) (fun e => by have := hv2 k e; omega) (fun e => by have := hu2 k e; omega)
  refine ⟨(key g a1 a2).trans h.box, own_blk h.row fun b hb => ?_, ⟨(key s b1 b2).trans h.sh.box, own_blk h.sh.row fun b hb => ?_, h.sh.isnt⟩⟩
  · have := hv b hb; exact key b this.1 this.2
  · have := hu b hb; exact key b this.1 this.2
theorem Apart.next {w : World} {B C g s : Nat} {v u v' u' : Value} (h : Apart B C g s v u) (hC : C ≤ w.heap.size) (hv : Nx w v v') (hu : Nx w u u') : Apart B C g s v' u' := by
  obtain ⟨c1, c2, hv2, hu2⟩ := h
  refine ⟨c1, c2, fun b hb => ?_, fun b hb => ?_⟩
  · rcases hv with e | ⟨c, e, hc⟩
    · exact hv2 b (e ▸ hb)
    · rw [e] at hb; cases hb; exact .inr (by omega)
  · rcases hu with e | ⟨c, e, hc⟩
    · exact hu2 b (e ▸ hb)
    · rw [e] at hb; cases hb; exact .inr (by omega)
theorem tset_G (w : World) (base g s : Nat) (L T R : List (Int × Int)) (v' u : Value) (k v : Int) (h1 : TmI w base g s L T v' u) (hbs : base ≤ w.heap.size) (ht : TieT L T R) (hn : R.length ≤ 800) :
    Calls Try.prog 8 #[.pointer (some ⟨g, 0, none⟩), .int .i64 k, .int .i64 v] w fun e w' => e = .returned (.tuple #[]) ∧ ∃ L2 T2, TieT L2 T2 (dput k v R) ∧ GoI w base g s L2 T2 v' u w' := by
  obtain ⟨l1, l2⟩ := ht.len
  have hcl := dcut_le k R
  cases hh : dhas k R with
  | false =>
    have ht1 : TieT L T (dcut k R) := by rw [dcut_none hh]; exact ht
    have hst := (stop_noI w _ g s L T v' u k h1 (by omega) ht.tie.rise (by rw [ht.tie.has, hh])).mono (fun e w' (hx : _ ∧ _ ∧ _) => (⟨hx.1, hx.2.2⟩ : _ ∧ _))
    refine (tsetI w _ g s L T L T v' u k v h1 hbs hst (by omega) (by omega) ht.rl ht.tie.rise).mono ?_
    rintro e w' ⟨rfl, hgo⟩
    exact ⟨rfl, _, _, ht1.ins k v, hgo⟩
  | true =>
    obtain ⟨i, hx, hp, hth⟩ := ht.find hh
    have ht1 := ht.cut_at hx
    obtain ⟨l3, l4⟩ := ht1.len
    simp only at ht1 l3 l4
    have hst := (stop_yesI w _ g s i L T (L.take i ++ L.drop (i + 1)) v' u k (dgetI k R) h1 (by omega) (by omega) ht.rl ht.tie.rise (by rw [ht.tie.has, hh]) hth hx hp rfl).mono (fun e w' (hx : _ ∧ _ ∧ _) => (⟨hx.1, hx.2.2⟩ : _ ∧ _))
    refine (tsetI w _ g s L T _ _ v' u k v h1 hbs hst (by omega) (by omega) ht1.rl ht1.tie.rise).mono ?_
    rintro e w' ⟨rfl, hgo⟩
    exact ⟨rfl, _, _, ht1.ins k v, hgo⟩
/-- The fork, and the old timers behind it: what is done with them leaves it as it was. -/
def OldT (w0 w' : World) (g g' : Nat) (L T : List (Int × Int)) : Prop := ∀ k x : Int, Calls Try.prog 8 #[.pointer (some ⟨g, 0, none⟩), .int .i64 k, .int .i64 x] w' fun e2 w2 => e2 = .returned (.tuple #[]) ∧ OthT w' w2 ∧
  ∀ now : Int, Calls Try.prog 14 #[.pointer (some ⟨g, 0, none⟩), .int .i64 now] w2 fun e3 w3 => (∃ a m c, e3 = .returned (.slice a m c)) ∧ OthT w2 w3 ∧ TimAt w0 g' L T w3
theorem tim_fork {w0 w : World} {g : Nat} {L T R : List (Int × Int)} (h : TimAt w0 g L T w) (ht : TieT L T R) (hn : R.length ≤ 400) :
    Calls Try.prog 15 #[.pointer (some ⟨g, 0, none⟩)] w fun e w' => ∃ g', e = .returned (.pointer (some ⟨g', 0, none⟩)) ∧ Below w.heap.size w w' ∧ OldT w0 w' g g' L T := by
  obtain ⟨⟨s, v, u, h1, hs⟩, hg, hb⟩ := h
  obtain ⟨l1, l2⟩ := ht.len
  refine (tforkI w _ g s L T v u h1 (by omega) (by omega)).mono ?_
  rintro e w' ⟨g', s', v', u', rfl, hx, hg', hs', hb'⟩
  refine ⟨g', rfl, hb', fun k x => ?_⟩
  have h1' := h1.below hb'
  have hbw : Below w0.heap.size w0 w' := kF hb' hb
  have hsz := hb.size
  have hW : Within w.heap.size w'.heap.size g' s' v' u' := ⟨⟨hg', hx.lt⟩, ⟨hs', hx.sh.lt⟩, fun b hb => hx.row.lt b hb, fun b hb => hx.sh.row.lt b hb⟩
  have hA : Apart w.heap.size w'.heap.size g s v u := ⟨h1.lt, h1.sh.lt, fun b hb => .inl (h1.row.lt b hb).2, fun b hb => .inl (h1.sh.row.lt b hb).2⟩
  refine (tset_G w' _ g s L T R v u k x h1' hbw.size ht (by omega)).mono ?_
  rintro e2 w2 ⟨rfl, L2, T2, ht2, va, ua, hy, hva, hua, hc⟩
  have hx2 := hx.apart hW hA (Nat.le_refl _) hc
  have hA2 := hA.next (Nat.le_refl _) hva hua
  have hb2 := hbw.trans (hc.lowI h1' hg hs hbw.size)
  have hln := dput_le k x R
  obtain ⟨l3, l4⟩ := ht2.len
  refine ⟨rfl, hc.oth h1', fun now => ?_⟩
  refine (take_anyI w2 _ g s L2 T2 va ua now hy (by omega) (by omega) ht2.tie.rise).mono ?_
  rintro e3 w3 ⟨m, kv, _, _, _, rfl, hrow, vb, ub, hz, hvb, hub, hc3⟩
  obtain ⟨ka, kc, rfl⟩ := own_slice hrow
  have hx3 := hx2.apart hW hA2 hc.size hc3
  refine ⟨⟨_, _, _, rfl⟩, hc3.oth hy, ⟨s', v', u', hx3.less (by omega), by omega⟩, by omega, hb2.trans (hc3.lowI hy hg hs hb2.size)⟩
/-- What the document's Take leaves stands in the line's order. -/
theorem TieT.rest {L T R : List (Int × Int)} (h : TieT L T R) : TieT L T L := ⟨h.rl, ⟨h.lp.trans h.tie.perm, h.tie.rise⟩, List.Perm.refl _⟩
theorem TieT.cut_len {L T R : List (Int × Int)} (h : TieT L T R) {k : Int} (hh : dhas k R = true) : (dcut k L).length + 1 = L.length := by
  obtain ⟨i, hx, _, _⟩ := h.find hh
  have hl := (List.getElem?_eq_some_iff.1 hx).1
  have e := h.line_cut hx
  simp only at e
  rw [e]
  simp
  omega
end Go.Proofs.Ytbabohioeeandaa
