/- A maker and a watch in one memory. -/
import Derived.Test.YtiidgcgamcgipaaCf
namespace Go.Proofs.Ytiidgcgamcgipaa
open Go.RowKit
set_option linter.unusedSimpArgs false
set_option linter.unusedVariables false

/-- Where a watch's blocks are, and what its tables hold. -/
structure WSt where
  g : Nat
  a : Nat
  b : Nat
  c : Nat
  s : Nat
  T : List (Int × Int)
  M : List (Int × Int)
  R : List (Int × Int)
/-- A maker's timers lie apart from a watch's tables. -/
structure Apt (c c' s a s' : Nat) (v v3 u v1 v4 : Value) : Prop where
  cc : c ≠ c'
  sa : s ≠ a
  ss : s ≠ s'
  v3 : ∀ k, v.ownBlock = some k → v3.ownBlock ≠ some k
  u1 : ∀ k, u.ownBlock = some k → v1.ownBlock ≠ some k
  u4 : ∀ k, u.ownBlock = some k → v4.ownBlock ≠ some k
theorem ne_ty {w : World} {k c t t' : Nat} {cs cs' : Array Value} {fr fr' : Nat × Nat} (h : w.heap[k]? = some (.cells cs t fr)) (h' : w.heap[c]? = some (.cells cs' t' fr')) (hne : t ≠ t') : k ≠ c := fun e => by subst e; rw [h] at h'; cases h'; exact hne rfl
theorem lt_ty {w : World} {k t : Nat} {cs : Array Value} {fr : Nat × Nat} (h : w.heap[k]? = some (.cells cs t fr)) : k < w.heap.size := (Array.getElem?_eq_some_iff.1 h).1
theorem own_apart {w w' : World} {base e s n : Nat} {v : Value} {xs : List Value} (h : w.ownsRow base e s v n xs) (h2 : ∀ k, v.ownBlock = some k → w'.heap[k]? = w.heap[k]?) : w'.ownsRow base e s v n xs := by
  obtain ⟨p, q⟩ := h
  refine ⟨p, ?_⟩
  rcases q with hn | ⟨k, cap, cur, rfl, hb, hg, rest⟩
  · exact .inl hn
  · exact .inr ⟨k, cap, cur, rfl, hb, (h2 k rfl).trans hg, rest⟩
theorem tmi_apart {w w' : World} {base c s : Nat} {L K : List (Int × Int)} {v u : Value} (h : TmI w base c s L K v u) (h1 : w'.heap[c]? = w.heap[c]?) (h2 : w'.heap[s]? = w.heap[s]?) (h3 : ∀ k, v.ownBlock = some k → w'.heap[k]? = w.heap[k]?) (h4 : ∀ k, u.ownBlock = some k → w'.heap[k]? = w.heap[k]?) : TmI w' base c s L K v u :=
  ⟨h1.trans h.box, own_apart h.row h3, ⟨h2.trans h.sh.box, own_apart h.sh.row h4, h.sh.isnt⟩⟩
theorem nx_ap {w : World} {v v' z : Value} (hx : Nx w v v') (hz : ∀ k, z.ownBlock = some k → k < w.heap.size) (h : ∀ k, v.ownBlock = some k → z.ownBlock ≠ some k) : ∀ k, v'.ownBlock = some k → z.ownBlock ≠ some k := fun k e e2 => (hx.ne (hz k e2) (fun e3 => h k e3 e2)) e
theorem own_lt {w : World} {base e s n : Nat} {v : Value} {xs : List Value} (h : w.ownsRow base e s v n xs) : ∀ k, v.ownBlock = some k → k < w.heap.size := fun k hk => by
  obtain ⟨cs, hcs⟩ := own_ty h hk
  exact lt_ty hcs
section
variable {w w' : World} {base g a b c c' s s' : Nat} {T M L K L' K' : List (Int × Int)} {v u v1 v2 v3 v4 : Value}
/-- A watch, when a maker's timers have changed. -/
theorem wai_other (h : WaI w base g a b c' s' T M L K v1 v2 v3 v4) (hm : TmI w base c s L' K' v u) (hc : TchT w w' c s v u) (ha : Apt c c' s a s' v v3 u v1 v4) : WaI w' base g a b c' s' T M L K v1 v2 v3 v4 := by
  have hk := hc.oth hm
  refine ⟨((hk _ (by decide) (by decide) (by decide) (by decide)).2 _ _ _ h.box).trans h.box, sh_apart h.ti hc.size ?_ ?_, sh_kpt h.mo (hk _ (by decide) (by decide) (by decide) (by decide)) (hk _ (by decide) (by decide) (by decide) (by decide)), tmi_apart h.tm ?_ ?_ ?_ ?_, h.nas, h.o14⟩
  · exact hc.block a h.ti.lt (ne_ty h.ti.box hm.box (by decide)) (Ne.symm ha.sa) (own_ne hm.row h.ti.box (by decide)) (own_ne hm.sh.row h.ti.box (by decide))
  · intro k e
    obtain ⟨cs, hcs⟩ := own_ty h.ti.row e
    exact hc.block k (lt_ty hcs) (ne_ty hcs hm.box (by decide)) (ne_ty hcs hm.sh.box (by decide)) (own_ne hm.row hcs (by decide)) (fun e' => ha.u1 k e' e)
  · exact hc.block c' h.tm.lt (Ne.symm ha.cc) (ne_ty h.tm.box hm.sh.box (by decide)) (own_ne hm.row h.tm.box (by decide)) (own_ne hm.sh.row h.tm.box (by decide))
  · exact hc.block s' h.tm.sh.lt (ne_ty h.tm.sh.box hm.box (by decide)) (Ne.symm ha.ss) (own_ne hm.row h.tm.sh.box (by decide)) (own_ne hm.sh.row h.tm.sh.box (by decide))
  · intro k e
    obtain ⟨cs, hcs⟩ := own_ty h.tm.row e
    exact hc.block k (lt_ty hcs) (ne_ty hcs hm.box (by decide)) (ne_ty hcs hm.sh.box (by decide)) (fun e' => ha.v3 k e' e) (own_ne hm.sh.row hcs (by decide))
  · intro k e
    obtain ⟨cs, hcs⟩ := own_ty h.tm.sh.row e
    exact hc.block k (lt_ty hcs) (ne_ty hcs hm.box (by decide)) (ne_ty hcs hm.sh.box (by decide)) (own_ne hm.row hcs (by decide)) (fun e' => ha.u4 k e' e)
/-- A maker's timers, when a watch's have changed. -/
theorem tmi_timers (h : WaI w base g a b c' s' T M L K v1 v2 v3 v4) (hm : TmI w base c s L' K' v u) (hc : TchT w w' c' s' v3 v4) (ha : Apt c c' s a s' v v3 u v1 v4) : TmI w' base c s L' K' v u := by
  refine tmi_apart hm ?_ ?_ ?_ ?_
  · exact hc.block c hm.lt ha.cc (ne_ty hm.box h.tm.sh.box (by decide)) (own_ne h.tm.row hm.box (by decide)) (own_ne h.tm.sh.row hm.box (by decide))
  · exact hc.block s hm.sh.lt (ne_ty hm.sh.box h.tm.box (by decide)) ha.ss (own_ne h.tm.row hm.sh.box (by decide)) (own_ne h.tm.sh.row hm.sh.box (by decide))
  · intro k e
    obtain ⟨cs, hcs⟩ := own_ty hm.row e
    exact hc.block k (lt_ty hcs) (ne_ty hcs h.tm.box (by decide)) (ne_ty hcs h.tm.sh.box (by decide)) (ha.v3 k e) (own_ne h.tm.sh.row hcs (by decide))
  · intro k e
    obtain ⟨cs, hcs⟩ := own_ty hm.sh.row e
    exact hc.block k (lt_ty hcs) (ne_ty hcs h.tm.box (by decide)) (ne_ty hcs h.tm.sh.box (by decide)) (own_ne h.tm.row hcs (by decide)) (ha.u4 k e)
/-- A maker's timers, when a watch's times have changed. -/
theorem tmi_times (h : WaI w base g a b c' s' T M L K v1 v2 v3 v4) (hm : TmI w base c s L' K' v u) (hc : Tch w w' a v1) (ha : Apt c c' s a s' v v3 u v1 v4) : TmI w' base c s L' K' v u := by
  refine tmi_apart hm ?_ ?_ ?_ ?_
  · exact hc.block c hm.lt (ne_ty hm.box h.ti.box (by decide)) (own_ne h.ti.row hm.box (by decide))
  · exact hc.block s hm.sh.lt ha.sa (own_ne h.ti.row hm.sh.box (by decide))
  · intro k e
    obtain ⟨cs, hcs⟩ := own_ty hm.row e
    exact hc.block k (lt_ty hcs) (ne_ty hcs h.ti.box (by decide)) (own_ne h.ti.row hcs (by decide))
  · intro k e
    obtain ⟨cs, hcs⟩ := own_ty hm.sh.row e
    exact hc.block k (lt_ty hcs) (ne_ty hcs h.ti.box (by decide)) (ha.u1 k e)
theorem WaI.kpt (h : WaI w base g a b c s T M L K v1 v2 v3 v4) (h0 : KpT 86 w w') (h1 : KpT 95 w w') (h2 : KpT 98 w w') (h3 : KpT 103 w w') (h4 : KpT 111 w w') (h5 : KpT 106 w w') (h6 : KpT 109 w w') : WaI w' base g a b c s T M L K v1 v2 v3 v4 :=
  ⟨(h0.2 _ _ _ h.box).trans h.box, sh_kpt h.ti h3 h4, sh_kpt h.mo h5 h6, h.tm.kpt h1 h2 h3 h4, h.nas, h.o14⟩
end
/-- A maker and a watch. -/
structure Duo (X : WSt) (w0 : World) (q c : Nat) (nd per : Int) (o : Option Int) (w : World) : Prop where
  is : ∃ s v u L K L2 K2 v1 v2 v3 v4, TmI w w0.heap.size c s L K v u ∧ TieT L K (RO nd o) ∧ WaI w w0.heap.size X.g X.a X.b X.c X.s X.T X.M L2 K2 v1 v2 v3 v4 ∧ TieT L2 K2 X.R ∧ Apt c X.c s X.a X.s v v3 u v1 v4 ∧ w0.heap.size ≤ s
  box : w.heap[q]? = some (.cells #[.int .i64 nd, .int .i64 per, .pointer (some ⟨c, 0, none⟩)] 75 (0, 0))
  ge : w0.heap.size ≤ q
  gc : w0.heap.size ≤ c
  wa : w0.heap.size ≤ X.a
  wb : w0.heap.size ≤ X.b
  wc : w0.heap.size ≤ X.c
  ws : w0.heap.size ≤ X.s
  wg : w0.heap.size ≤ X.g
  bel : Below w0.heap.size w0 w
  rt : Rise X.T
  rm : Rise X.M
section
variable {X : WSt} {w0 w w' : World} {q c : Nat} {nd per : Int} {o : Option Int}
theorem Duo.lt (h : Duo X w0 q c nd per o w) : q < w.heap.size := lt_ty h.box
theorem Duo.cells (h : Duo X w0 q c nd per o w) : w.cell? ⟨q, 0, none⟩ = some (.int .i64 nd) ∧ w.cell? ⟨q, 1, none⟩ = some (.int .i64 per) ∧ w.cell? ⟨q, 2, none⟩ = some (.pointer (some ⟨c, 0, none⟩)) :=
  ⟨by rw [cell_of_row _ _ _ _ _ _ h.box]; rfl, by rw [cell_of_row _ _ _ _ _ _ h.box]; rfl, by rw [cell_of_row _ _ _ _ _ _ h.box]; rfl⟩
theorem Duo.frozen (h : Duo X w0 q c nd per o w) (i : Nat) : w.frozen? ⟨q, i, none⟩ = false := frozen_of_row _ _ _ _ _ h.box
theorem Duo.below (h : Duo X w0 q c nd per o w) (hb : Below w.heap.size w w') : Duo X w0 q c nd per o w' := by
  obtain ⟨s, v, u, L, K, L2, K2, v1, v2, v3, v4, h1, h2, h3, h4, h5, h6⟩ := h.is
  exact ⟨⟨s, v, u, L, K, L2, K2, v1, v2, v3, v4, h1.below hb, h2, h3.below hb, h4, h5, h6⟩, (hb.block q h.lt).trans h.box, h.ge, h.gc, h.wa, h.wb, h.wc, h.ws, h.wg, h.bel.trans (hb.mono h.bel.size), h.rt, h.rm⟩
theorem Duo.drew (h : Duo X w0 q c nd per o w) : Duo X w0 q c nd per o w.drew := h.below (kD w)
theorem Duo.kpt (h : Duo X w0 q c nd per o w) (hb : Below w0.heap.size w0 w') (k0 : KpT 75 w w') (h0 : KpT 86 w w') (h1 : KpT 95 w w') (h2 : KpT 98 w w') (h3 : KpT 103 w w') (h4 : KpT 111 w w') (h5 : KpT 106 w w') (h6 : KpT 109 w w') : Duo X w0 q c nd per o w' := by
  obtain ⟨s, v, u, L, K, L2, K2, v1, v2, v3, v4, a1, a2, a3, a4, a5, a6⟩ := h.is
  exact ⟨⟨s, v, u, L, K, L2, K2, v1, v2, v3, v4, a1.kpt h1 h2 h3 h4, a2, a3.kpt h0 h1 h2 h3 h4 h5 h6, a4, a5, a6⟩, (k0.2 _ _ _ h.box).trans h.box, h.ge, h.gc, h.wa, h.wb, h.wc, h.ws, h.wg, hb, h.rt, h.rm⟩
theorem Duo.frame {g : Nat} {id n : Int} {r : Bool} {d : Nat → Int} (h : Duo X w0 q c nd per o w) (hf : FrAt w g id r n d) (hg : w0.heap.size ≤ g) (cs : Array Value) : Duo X w0 q c nd per o (w.setRow g cs) :=
  h.kpt (below_setRow h.bel hg cs) (kpt_setRow hf (by decide) cs) (kpt_setRow hf (by decide) cs) (kpt_setRow hf (by decide) cs) (kpt_setRow hf (by decide) cs) (kpt_setRow hf (by decide) cs) (kpt_setRow hf (by decide) cs) (kpt_setRow hf (by decide) cs) (kpt_setRow hf (by decide) cs)
theorem Duo.event {g : Nat} {k n m : Int} (h : Duo X w0 q c nd per o w) (hf : EvAt w g k n m) (hg : w0.heap.size ≤ g) (cs : Array Value) : Duo X w0 q c nd per o (w.setRow g cs) :=
  h.kpt (below_setRow h.bel hg cs) (kpt_setRow hf (by decide) cs) (kpt_setRow hf (by decide) cs) (kpt_setRow hf (by decide) cs) (kpt_setRow hf (by decide) cs) (kpt_setRow hf (by decide) cs) (kpt_setRow hf (by decide) cs) (kpt_setRow hf (by decide) cs) (kpt_setRow hf (by decide) cs)
theorem Duo.period (h : Duo X w0 q c nd per o w) (p : Int) : Duo X w0 q c nd p o (w.setCell ⟨q, 1, none⟩ (.int .i64 p)) := by
  obtain ⟨s, v, u, L, K, L2, K2, v1, v2, v3, v4, a1, a2, a3, a4, a5, a6⟩ := h.is
  have hb := h.box
  exact ⟨⟨s, v, u, L, K, L2, K2, v1, v2, v3, v4, a1.kpt (kpt_cell hb (by decide) _) (kpt_cell hb (by decide) _) (kpt_cell hb (by decide) _) (kpt_cell hb (by decide) _), a2, a3.kpt (kpt_cell hb (by decide) _) (kpt_cell hb (by decide) _) (kpt_cell hb (by decide) _) (kpt_cell hb (by decide) _) (kpt_cell hb (by decide) _) (kpt_cell hb (by decide) _) (kpt_cell hb (by decide) _), a4, a5, a6⟩,
    heap_setCell_same w q 1 _ _ _ hb, h.ge, h.gc, h.wa, h.wb, h.wc, h.ws, h.wg, h.bel.setCell (p := ⟨q, 1, none⟩) h.ge _, h.rt, h.rm⟩
/-- What a call on the maker's timers leaves. -/
theorem Duo.made {o' : Option Int} {s : Nat} {v u v1 v2 v3 v4 : Value} {L K L2 K2 L' K' : List (Int × Int)} (h : Duo X w0 q c nd per o w) (a1 : TmI w w0.heap.size c s L K v u) (a3 : WaI w w0.heap.size X.g X.a X.b X.c X.s X.T X.M L2 K2 v1 v2 v3 v4) (a4 : TieT L2 K2 X.R) (a5 : Apt c X.c s X.a X.s v v3 u v1 v4) (a6 : w0.heap.size ≤ s)
    (ht : TieT L' K' (RO nd o')) (hgo : GoI w w0.heap.size c s L' K' v u w') : Duo X w0 q c nd per o' w' ∧ OthT w w' := by
  obtain ⟨v', u', h2, hx, hy, hc⟩ := hgo
  have hk := hc.oth a1
  refine ⟨⟨⟨s, v', u', L', K', L2, K2, v1, v2, v3, v4, h2, ht, wai_other a3 a1 hc a5, a4, ⟨a5.cc, a5.sa, a5.ss, nx_ap hx (own_lt a3.tm.row) a5.v3, nx_ap hy (own_lt a3.ti.row) a5.u1, nx_ap hy (own_lt a3.tm.sh.row) a5.u4⟩, a6⟩, ((hk _ (by decide) (by decide) (by decide) (by decide)).2 _ _ _ h.box).trans h.box, h.ge, h.gc, h.wa, h.wb, h.wc, h.ws, h.wg, h.bel.trans (hc.lowI a1 h.gc a6 h.bel.size), h.rt, h.rm⟩, hk⟩
theorem Duo.stop (h : Duo X w0 q c nd per o w) : Calls Try.prog 30 #[.pointer (some ⟨c, 0, none⟩), .int .i64 nd] w fun e w' => (∃ b, e = .returned (.bool b)) ∧ Duo X w0 q c nd per none w' ∧ OthT w w' := by
  obtain ⟨s, v, u, L, K, L2, K2, v1, v2, v3, v4, a1, a2, a3, a4, a5, a6⟩ := h.is
  refine (goi_stop nd a1 a2 (ro_len nd o)).mono ?_
  rintro e w' ⟨rfl, L', K', ht, hgo⟩
  rw [ro_cut] at ht
  exact ⟨⟨_, rfl⟩, h.made a1 a3 a4 a5 a6 ht hgo⟩
theorem Duo.setx (x : Int) (h : Duo X w0 q c nd per o w) : Calls Try.prog 31 #[.pointer (some ⟨c, 0, none⟩), .int .i64 nd, .int .i64 x] w fun e w' => e = .returned (.tuple #[]) ∧ Duo X w0 q c nd per (some x) w' ∧ OthT w w' := by
  obtain ⟨s, v, u, L, K, L2, K2, v1, v2, v3, v4, a1, a2, a3, a4, a5, a6⟩ := h.is
  refine (goi_set nd x a1 h.bel.size a2 (ro_len nd o)).mono ?_
  rintro e w' ⟨rfl, L', K', ht, hgo⟩
  rw [ro_put] at ht
  exact ⟨rfl, h.made a1 a3 a4 a5 a6 ht hgo⟩
theorem Duo.when (h : Duo X w0 q c nd per o w) : Calls Try.prog 33 #[.pointer (some ⟨c, 0, none⟩), .int .i64 nd] w fun e w' => e = .returned (.tuple #[.int .i64 (o.getD 0), .bool o.isSome]) ∧ Below w.heap.size w w' := by
  obtain ⟨s, v, u, L, K, L2, K2, v1, v2, v3, v4, a1, a2, a3, a4, a5, a6⟩ := h.is
  obtain ⟨l1, l2⟩ := a2.len
  have hl := ro_len nd o
  have hw := whenI w _ c s L K v u nd a1 (by omega) a2.tie.rise
  rw [a2.tie.get, a2.tie.has, ro_has, ro_get] at hw
  exact hw
end
/-- Where a maker's blocks are, and what it holds. -/
structure MSt where
  q : Nat
  c : Nat
  nd : Int
  per : Int
  o : Option Int
def DuW (Y : MSt) (w0 : World) (g a b c s : Nat) (T M R : List (Int × Int)) (w : World) : Prop := Duo ⟨g, a, b, c, s, T, M, R⟩ w0 Y.q Y.c Y.nd Y.per Y.o w
section
variable {Y : MSt} {w0 w w' : World} {g a b c s : Nat} {T M R : List (Int × Int)}
theorem DuW.duo (h : DuW Y w0 g a b c s T M R w) : Duo ⟨g, a, b, c, s, T, M, R⟩ w0 Y.q Y.c Y.nd Y.per Y.o w := h
theorem DuW.cells (h : DuW Y w0 g a b c s T M R w) : w.cell? ⟨g, 0, none⟩ = some (.pointer (some ⟨a, 0, none⟩)) ∧ w.cell? ⟨g, 1, none⟩ = some (.pointer (some ⟨b, 0, none⟩)) ∧ w.cell? ⟨g, 2, none⟩ = some (.pointer (some ⟨c, 0, none⟩)) := by
  obtain ⟨s1, v, u, L, K, L2, K2, v1, v2, v3, v4, a1, a2, a3, a4, a5, a6⟩ := h.duo.is
  exact a3.cells
theorem DuW.bel (h : DuW Y w0 g a b c s T M R w) : Below w0.heap.size w0 w := h.duo.bel
theorem DuW.below (h : DuW Y w0 g a b c s T M R w) (hb : Below w.heap.size w w') : DuW Y w0 g a b c s T M R w' := h.duo.below hb
theorem DuW.event {j : Nat} {k n m : Int} (h : DuW Y w0 g a b c s T M R w) (hf : EvAt w j k n m) (hg : w0.heap.size ≤ j) (cs : Array Value) : DuW Y w0 g a b c s T M R (w.setRow j cs) := h.duo.event hf hg cs
/-- What a call on the watch's timers leaves. -/
theorem DuW.timed {R' L2' K2' L2 K2 L K : List (Int × Int)} {s1 : Nat} {v u v1 v2 v3 v4 : Value} (h : DuW Y w0 g a b c s T M R w) (a1 : TmI w w0.heap.size Y.c s1 L K v u) (a2 : TieT L K (RO Y.nd Y.o)) (a3 : WaI w w0.heap.size g a b c s T M L2 K2 v1 v2 v3 v4) (a5 : Apt Y.c c s1 a s v v3 u v1 v4) (a6 : w0.heap.size ≤ s1)
    (ht : TieT L2' K2' R') (hgo : GoI w w0.heap.size c s L2' K2' v3 v4 w') : DuW Y w0 g a b c s T M R' w' ∧ OthW w w' := by
  obtain ⟨⟨v3', v4', h2⟩, h3⟩ := a3.timers hgo
  obtain ⟨v3', v4', ht3, hx, hy, hc⟩ := hgo
  have hk := hc.oth a3.tm
  have a1' := tmi_timers a3 a1 hc a5
  have hag : a ≠ c := ne_ty a3.ti.box a3.tm.box (by decide)
  have h2 : WaI w' w0.heap.size g a b c s T M L2' K2' v1 v2 v3' v4' := by
    refine ⟨((hk _ (by decide) (by decide) (by decide) (by decide)).2 _ _ _ a3.box).trans a3.box, sh_apart a3.ti hc.size ?_ ?_, sh_kpt a3.mo (hk _ (by decide) (by decide) (by decide) (by decide)) (hk _ (by decide) (by decide) (by decide) (by decide)), ht3, a3.nas, ?_⟩
    · exact hc.block a a3.ti.lt hag a3.nas (own_ne a3.tm.row a3.ti.box (by decide)) (own_ne a3.tm.sh.row a3.ti.box (by decide))
    · intro k e
      obtain ⟨cs, hcs⟩ := own_ty a3.ti.row e
      exact hc.block k (lt_ty hcs) (ne_ty hcs a3.tm.box (by decide)) (ne_ty hcs a3.tm.sh.box (by decide)) (own_ne a3.tm.row hcs (by decide)) (a3.o14 k e)
    · intro k e
      exact hy.ne (own_lt a3.ti.row k e) (a3.o14 k e)
  refine ⟨⟨⟨s1, v, u, L, K, L2', K2', v1, v2, v3', v4', a1', a2, h2, ht, ⟨a5.cc, a5.sa, a5.ss, fun k e => hx.ne (own_lt a1.row k e) (a5.v3 k e), a5.u1, fun k e => hy.ne (own_lt a1.sh.row k e) (a5.u4 k e)⟩, a6⟩, ((hk _ (by decide) (by decide) (by decide) (by decide)).2 _ _ _ h.duo.box).trans h.duo.box, h.duo.ge, h.duo.gc, h.duo.wa, h.duo.wb, h.duo.wc, h.duo.ws, h.duo.wg, h.duo.bel.trans (hc.lowI a3.tm h.duo.wc h.duo.ws h.duo.bel.size), h.duo.rt, h.duo.rm⟩, h3⟩
theorem DuW.stop (k : Int) (h : DuW Y w0 g a b c s T M R w) (hn : R.length ≤ 800) :
    Calls Try.prog 30 #[.pointer (some ⟨c, 0, none⟩), .int .i64 k] w fun e w' => e = .returned (.bool (dhas k R)) ∧ DuW Y w0 g a b c s T M (dcut k R) w' ∧ OthW w w' := by
  obtain ⟨s1, v, u, L, K, L2, K2, v1, v2, v3, v4, a1, a2, a3, a4, a5, a6⟩ := h.duo.is
  refine (goi_stop k a3.tm a4 hn).mono ?_
  rintro e w' ⟨rfl, L2', K2', ht2, hgo⟩
  exact ⟨rfl, h.timed a1 a2 a3 a5 a6 ht2 hgo⟩
theorem DuW.set (k x : Int) (h : DuW Y w0 g a b c s T M R w) (hn : R.length ≤ 800) :
    Calls Try.prog 31 #[.pointer (some ⟨c, 0, none⟩), .int .i64 k, .int .i64 x] w fun e w' => e = .returned (.tuple #[]) ∧ DuW Y w0 g a b c s T M (dput k x R) w' ∧ OthW w w' := by
  obtain ⟨s1, v, u, L, K, L2, K2, v1, v2, v3, v4, a1, a2, a3, a4, a5, a6⟩ := h.duo.is
  refine (goi_set k x a3.tm h.duo.bel.size a4 hn).mono ?_
  rintro e w' ⟨rfl, L2', K2', ht2, hgo⟩
  exact ⟨rfl, h.timed a1 a2 a3 a5 a6 ht2 hgo⟩
theorem DuW.moded {M' L2 K2 L K : List (Int × Int)} {s1 : Nat} {v u v1 v2 v2' v3 v4 : Value} (h : DuW Y w0 g a b c s T M R w) (a1 : TmI w w0.heap.size Y.c s1 L K v u) (a2 : TieT L K (RO Y.nd Y.o)) (a3 : WaI w w0.heap.size g a b c s T M L2 K2 v1 v2 v3 v4) (a4 : TieT L2 K2 R) (a5 : Apt Y.c c s1 a s v v3 u v1 v4) (a6 : w0.heap.size ≤ s1)
    (hsh : Sh 106 109 w' w0.heap.size b M'.length (fl eI eI M') v2') (htc : Tch w w' b v2) (hr : Rise M') : DuW Y w0 g a b c s T M' R w' ∧ OthW w w' := by
  obtain ⟨h2, h3⟩ := a3.modes hsh htc
  have hk : ∀ td, 106 ≠ td → 109 ≠ td → KpT td w w' := fun td h1 h2 => kpt_tch a3.mo.box a3.mo.row htc h1 h2
  exact ⟨⟨⟨s1, v, u, L, K, L2, K2, v1, v2', v3, v4, a1.kpt (hk _ (by decide) (by decide)) (hk _ (by decide) (by decide)) (hk _ (by decide) (by decide)) (hk _ (by decide) (by decide)), a2, h2, a4, a5, a6⟩, ((hk _ (by decide) (by decide)).2 _ _ _ h.duo.box).trans h.duo.box, h.duo.ge, h.duo.gc, h.duo.wa, h.duo.wb, h.duo.wc, h.duo.ws, h.duo.wg, h.duo.bel.trans (htc.below h.duo.bel.size h.duo.wb (fun x hx => (a3.mo.row.lt x hx).1)), h.duo.rt, hr⟩, h3⟩
theorem DuW.cutm (k : Int) (h : DuW Y w0 g a b c s T M R w) (hn : M.length ≤ 800) :
    Calls Try.prog 37 #[.pointer (some ⟨b, 0, none⟩), .int .i64 k] w fun e w' => e = .returned (.tuple #[.int .i64 (thI 0 k M), .bool (hasI k M)]) ∧ DuW Y w0 g a b c s T (cutI k M) R w' ∧ OthW w w' := by
  obtain ⟨s1, v, u, L, K, L2, K2, v1, v2, v3, v4, a1, a2, a3, a4, a5, a6⟩ := h.duo.is
  have hrm : Rise M := h.duo.rm
  refine (cutM w _ b M v2 k a3.mo (by omega) hrm).mono ?_
  rintro e w' ⟨rfl, ⟨v2', hsh, hnx⟩, htc⟩
  exact ⟨rfl, h.moded a1 a2 a3 a4 a5 a6 hsh htc (rise_cut k M hrm)⟩
theorem DuW.putm (k x : Int) (h : DuW Y w0 g a b c s T M R w) (hn : M.length ≤ 800) :
    Calls Try.prog 42 #[.pointer (some ⟨b, 0, none⟩), .int .i64 k, .int .i64 x] w fun e w' => e = .returned (.bool (hasI k M)) ∧ DuW Y w0 g a b c s T (putI k x M) R w' ∧ OthW w w' := by
  obtain ⟨s1, v, u, L, K, L2, K2, v1, v2, v3, v4, a1, a2, a3, a4, a5, a6⟩ := h.duo.is
  have hrm : Rise M := h.duo.rm
  refine (putM w _ b M v2 k x a3.mo h.duo.bel.size (by omega) hrm).mono ?_
  rintro e w' ⟨rfl, ⟨v2', hsh, hnx⟩, htc⟩
  exact ⟨rfl, h.moded a1 a2 a3 a4 a5 a6 hsh htc (rise_put k x M hrm)⟩
theorem DuW.getm (k : Int) (h : DuW Y w0 g a b c s T M R w) (hn : M.length ≤ 800) :
    Calls Try.prog 41 #[.pointer (some ⟨b, 0, none⟩), .int .i64 k] w fun e w' => e = .returned (.tuple #[.int .i64 (thI 0 k M), .bool (hasI k M)]) ∧ Below w.heap.size w w' := by
  obtain ⟨s1, v, u, L, K, L2, K2, v1, v2, v3, v4, a1, a2, a3, a4, a5, a6⟩ := h.duo.is
  exact getM w _ b M v2 k a3.mo (by omega) h.duo.rm
theorem DuW.gett (k : Int) (h : DuW Y w0 g a b c s T M R w) (hn : T.length ≤ 800) :
    Calls Try.prog 40 #[.pointer (some ⟨a, 0, none⟩), .int .i64 k] w fun e w' => e = .returned (.tuple #[.int .i64 (thI 0 k T), .bool (hasI k T)]) ∧ Below w.heap.size w w' := by
  obtain ⟨s1, v, u, L, K, L2, K2, v1, v2, v3, v4, a1, a2, a3, a4, a5, a6⟩ := h.duo.is
  exact getA w _ a T v1 k a3.ti (by omega) h.duo.rt
theorem DuW.timesd {T' L2 K2 L K : List (Int × Int)} {s1 : Nat} {v u v1 v1' v2 v3 v4 : Value} (h : DuW Y w0 g a b c s T M R w) (a1 : TmI w w0.heap.size Y.c s1 L K v u) (a2 : TieT L K (RO Y.nd Y.o)) (a3 : WaI w w0.heap.size g a b c s T M L2 K2 v1 v2 v3 v4) (a4 : TieT L2 K2 R) (a5 : Apt Y.c c s1 a s v v3 u v1 v4) (a6 : w0.heap.size ≤ s1)
    (hsh : Sh 103 111 w' w0.heap.size a T'.length (fl eI eI T') v1') (hnx : Nx w v1 v1') (htc : Tch w w' a v1) (hr : Rise T') : DuW Y w0 g a b c s T' M R w' ∧ OthW w w' := by
  obtain ⟨h2, h3⟩ := a3.times hsh hnx htc
  have hk : ∀ td, 103 ≠ td → 111 ≠ td → KpT td w w' := fun td h1 h2 => kpt_tch a3.ti.box a3.ti.row htc h1 h2
  exact ⟨⟨⟨s1, v, u, L, K, L2, K2, v1', v2, v3, v4, tmi_times a3 a1 htc a5, a2, h2, a4, ⟨a5.cc, a5.sa, a5.ss, a5.v3, fun k e => hnx.ne (own_lt a1.sh.row k e) (a5.u1 k e), a5.u4⟩, a6⟩, ((hk _ (by decide) (by decide)).2 _ _ _ h.duo.box).trans h.duo.box, h.duo.ge, h.duo.gc, h.duo.wa, h.duo.wb, h.duo.wc, h.duo.ws, h.duo.wg, h.duo.bel.trans (htc.below h.duo.bel.size h.duo.wa (fun x hx => (a3.ti.row.lt x hx).1)), hr, h.duo.rm⟩, h3⟩
theorem DuW.cutt (k : Int) (h : DuW Y w0 g a b c s T M R w) (hn : T.length ≤ 800) :
    Calls Try.prog 39 #[.pointer (some ⟨a, 0, none⟩), .int .i64 k] w fun e w' => e = .returned (.tuple #[.int .i64 (thI 0 k T), .bool (hasI k T)]) ∧ DuW Y w0 g a b c s (cutI k T) M R w' ∧ OthW w w' := by
  obtain ⟨s1, v, u, L, K, L2, K2, v1, v2, v3, v4, a1, a2, a3, a4, a5, a6⟩ := h.duo.is
  have hrt : Rise T := h.duo.rt
  refine (cutA w _ a T v1 k a3.ti (by omega) hrt).mono ?_
  rintro e w' ⟨rfl, ⟨v1', hsh, hnx⟩, htc⟩
  exact ⟨rfl, h.timesd a1 a2 a3 a4 a5 a6 hsh hnx htc (rise_cut k T hrt)⟩
theorem DuW.putt (k x : Int) (h : DuW Y w0 g a b c s T M R w) (hn : T.length ≤ 800) :
    Calls Try.prog 38 #[.pointer (some ⟨a, 0, none⟩), .int .i64 k, .int .i64 x] w fun e w' => e = .returned (.bool (hasI k T)) ∧ DuW Y w0 g a b c s (putI k x T) M R w' ∧ OthW w w' := by
  obtain ⟨s1, v, u, L, K, L2, K2, v1, v2, v3, v4, a1, a2, a3, a4, a5, a6⟩ := h.duo.is
  have hrt : Rise T := h.duo.rt
  refine (putA w _ a T v1 k x a3.ti h.duo.bel.size (by omega) hrt).mono ?_
  rintro e w' ⟨rfl, ⟨v1', hsh, hnx⟩, htc⟩
  exact ⟨rfl, h.timesd a1 a2 a3 a4 a5 a6 hsh hnx htc (rise_put k x T hrt)⟩
end
/-- A maker of one world and a watch that was made behind it. -/
theorem duo_start {w0 wm w : World} {q cm g a b c s : Nat} {nd per : Int} {o : Option Int} {T M R : List (Int × Int)} (hm : MkAt w0 q cm nd per o wm) (hw : WaG wm g a b c s T M R w) : Duo ⟨g, a, b, c, s, T, M, R⟩ w0 q cm nd per o w := by
  obtain ⟨L, K, ⟨⟨s1, v, u, ht, hs⟩, hg, hb⟩, h2⟩ := hm.is
  obtain ⟨L2, K2, v1, v2, v3, v4, hwi, ht2⟩ := hw.is
  have hz := hb.size
  have hB := hw.bel
  have hlow : ∀ {tb tr g n : Nat} {cs : List Value} {v : Value}, Sh tb tr w wm.heap.size g n cs v → Sh tb tr w w0.heap.size g n cs v := fun h => ⟨h.box, own_less h.row hz, h.isnt⟩
  refine ⟨⟨s1, v, u, L, K, L2, K2, v1, v2, v3, v4, ht.below hB, h2, ⟨hwi.box, hlow hwi.ti, hlow hwi.mo, hwi.tm.less hz, hwi.nas, hwi.o14⟩, ht2, ⟨?_, ?_, ?_, ?_, ?_, ?_⟩, hs⟩, (hB.block q hm.lt).trans hm.box, hm.ge, hg, Nat.le_trans hz hw.ga, Nat.le_trans hz hw.gb, Nat.le_trans hz hw.gc, Nat.le_trans hz hw.gs, Nat.le_trans hz hw.ge, hb.trans (hB.mono hz), hw.rt, hw.rm⟩
  · exact Nat.ne_of_lt (Nat.lt_of_lt_of_le ht.lt hw.gc)
  · exact Nat.ne_of_lt (Nat.lt_of_lt_of_le ht.sh.lt hw.ga)
  · exact Nat.ne_of_lt (Nat.lt_of_lt_of_le ht.sh.lt hw.gs)
  · intro k e e2
    have h1 := own_lt ht.row k e
    have h3 := (hwi.tm.row.lt k e2).1
    omega
  · intro k e e2
    have h1 := own_lt ht.sh.row k e
    have h3 := (hwi.ti.row.lt k e2).1
    omega
  · intro k e e2
    have h1 := own_lt ht.sh.row k e
    have h3 := (hwi.tm.sh.row.lt k e2).1
    omega
end Go.Proofs.Ytiidgcgamcgipaa
