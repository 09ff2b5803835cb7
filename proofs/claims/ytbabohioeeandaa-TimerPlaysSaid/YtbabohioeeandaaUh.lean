/- The timers' Next, When, Len and Fork by one predicate; two lists of numbers. -/
import Derived.Test.YtbabohioeeandaaUg
import Derived.Deep.RegionHeld3
namespace Go.Proofs.Ytbabohioeeandaa
open Go.RowKit
set_option linter.unusedSimpArgs false
set_option linter.unusedVariables false

set_option maxRecDepth 100000 in
set_option maxHeartbeats 2000000 in
theorem partA (w : World) (base g n : Nat) (xs : List Value) (v : Value) (h : Sh 77 79 w base g n xs v) (hn : n ≤ 1000) (hx1 : ∀ u ∈ xs, u.oneCell' = true) :
    Calls Try.prog 50 #[.pointer (some ⟨g, 0, none⟩), .int .i64 0, .int .i64 (n : Nat)] w (Cloned w n xs) := by
  have HC := Lib.hid (clone_any w base n v xs h.row (by omega) hx1)
  have c0 := h.cell
  have hl := h.lt
  rcases h.row.2 with ⟨rfl, h0⟩ | ⟨b, cap, cur, rfl, hb, hg, hnc, hm, hs, _⟩
  · subst h0
    clear h
    go_enter Try.func50, Try.ntmps50
    go_wp2_with fail
    refine HC.out.mono ?_
    rintro e w2 ⟨v', rfl, hrow, hb⟩
    obtain ⟨qa, qc, rfl⟩ := own_slice hrow
    clear c0
    go_wp2_with fail
    go_ret
    exact ⟨_, rfl, hrow, hb⟩
  · simp only [maxLen] at hm
    clear h hg hs
    go_enter Try.func50, Try.ntmps50
    go_wp2_with fail
    refine HC.out.mono ?_
    rintro e w2 ⟨v', rfl, hrow, hb⟩
    obtain ⟨qa, qc, rfl⟩ := own_slice hrow
    clear c0
    go_wp2_with fail
    go_ret
    exact ⟨_, rfl, hrow, hb⟩
/-- What Fork has made. -/
def ShFork (tb tr : Nat) (w : World) (n : Nat) (xs : List Value) (e : Ending) (w' : World) : Prop := ∃ g' v', e = .returned (.pointer (some ⟨g', 0, none⟩)) ∧ Sh tb tr w' w.heap.size g' n xs v' ∧ w.heap.size ≤ g' ∧ Below w.heap.size w w'
set_option maxRecDepth 100000 in
set_option maxHeartbeats 2000000 in
theorem forkA (w : World) (base g n : Nat) (xs : List Value) (v : Value) (h : Sh 77 79 w base g n xs v) (hn : n ≤ 1000) (hx1 : ∀ u ∈ xs, u.oneCell' = true) :
    Calls Try.prog 32 #[.pointer (some ⟨g, 0, none⟩)] w (ShFork 77 79 w n xs) := by
  have HL := Lib.hid (lenA w base g n xs v h)
  have HP := Lib.hid (partA w base g n xs v h hn hx1)
  clear h
  go_enter Try.func32, Try.ntmps32
  go_wp2_with fail
  refine HL.out.mono ?_
  rintro e w2 ⟨rfl, rfl⟩
  go_wp2_with fail
  refine HP.out.mono ?_
  rintro e w3 ⟨v', rfl, hrow, hb⟩
  obtain ⟨qa, qc, rfl⟩ := own_slice hrow
  have hal : Below w3.heap.size w3 (w3.alloc (.cells #[.slice qa n qc] 77)) := (Below.refl _ _).alloc (Nat.le_refl _) _
  have hx : Sh 77 79 (w3.alloc (.cells #[.slice qa n qc] 77)) w2.heap.size w3.heap.size n xs (.slice qa n qc) := ⟨heap_alloc_new w3 _, hrow.alloc _, fun e => by have := (hrow.lt _ e).2; omega⟩
  have HX := Lib.hid hx
  have HB := Lib.hid (kF hal hb)
  have HS := Lib.hid hb.size
  clear hrow hal hx hb
  go_wp2_with fail
  go_ret
  exact ⟨_, _, rfl, HX.out, HS.out, HB.out⟩

/-- What a fork of timers is. -/
def ForkT (w : World) (L T : List (Int × Int)) (e : Ending) (w' : World) : Prop := ∃ g' s' v' u', e = .returned (.pointer (some ⟨g', 0, none⟩)) ∧ TmI w' w.heap.size g' s' L T v' u' ∧ w.heap.size ≤ g' ∧ w.heap.size ≤ s' ∧ Below w.heap.size w w'
set_option maxRecDepth 100000 in
set_option maxHeartbeats 2000000 in
theorem tforkI (w : World) (base g s : Nat) (L T : List (Int × Int)) (v u : Value) (h : TmI w base g s L T v u) (hL : L.length ≤ 900) (hT : T.length ≤ 900) :
    Calls Try.prog 15 #[.pointer (some ⟨g, 0, none⟩)] w (ForkT w L T) := by
  obtain ⟨a, c, rfl⟩ := own_slice h.row
  have hd : TmI w.drew base g s L T (.slice a L.length c) u := h.below (kD _)
  have k0 := hd.cells
  have hgl : g < w.drew.heap.size := h.lt
  have HF := Lib.hid (forkA w.drew base s T.length (fl eI eI T) u hd.sh (by omega) (fl_one eI eI (fun _ => rfl) (fun _ => rfl) T))
  have HC := Lib.hid (fun x (hx : Below w.drew.heap.size w.drew x) => clone_anyT x base L.length (.slice a L.length c) (fl eI eI L) (own_below hd.row hx) (by omega) (fl_one eI eI (fun _ => rfl) (fun _ => rfl) L))
  have HFIN : Hid (∀ (w1 w2 : World) (g1 a2 c2 : _) (v1 : Value), Sh 77 79 w1 w.drew.heap.size g1 T.length (fl eI eI T) v1 → w.drew.heap.size ≤ g1 → Below w.drew.heap.size w.drew w1 → w2.ownsRow w1.heap.size 64 2 (.slice a2 L.length c2) L.length (fl eI eI L) → Below w1.heap.size w1 w2 →
      ForkT w L T (.returned (.pointer (some ⟨w2.heap.size, 0, none⟩))) (w2.alloc (.cells #[.pointer (some ⟨g1, 0, none⟩), .slice a2 L.length c2] 62))) := by
    refine Lib.hid fun w1 w2 g1 a2 c2 v1 hs hg1 hb1 hr hb2 => ?_
    have hba : Below w2.heap.size w2 (w2.alloc (.cells #[.pointer (some ⟨g1, 0, none⟩), .slice a2 L.length c2] 62)) := (Below.refl _ _).alloc (Nat.le_refl _) _
    have hz1 : w.heap.size ≤ w1.heap.size := hb1.size
    have hz2 := hb2.size
    refine ⟨w2.heap.size, g1, _, v1, rfl, ⟨heap_alloc_new w2 _, own_less (own_below hr hba) hz1, (hs.below hb2).below hba⟩, by omega, hg1, ?_⟩
    exact kF hba (kF hb2 (kF hb1 (kD _)))
  clear h hd
  go_enter Try.func15, Try.ntmps15
  go_wp2_with fail
  go_region_held3 (fun w' => w'.cell? ⟨g, 0, none⟩ = some (.pointer (some ⟨s, 0, none⟩)) ∧ w'.cell? ⟨g, 1, none⟩ = some (.slice a L.length c))
    (first | exact k0 | exact k1 | exact k2 | exact k3)
    (first
      | (go_at_call 32
         (with_reducible refine HF.out.mono ?_)
         rintro e w1 ⟨g1, v1, rfl, hs1, hg1, hb1⟩
         have k1 : w1.cell? ⟨g, 0, none⟩ = some (.pointer (some ⟨s, 0, none⟩)) ∧ w1.cell? ⟨g, 1, none⟩ = some (.slice a L.length c) := ⟨(hb1.cell (p := ⟨g, 0, none⟩) hgl).trans k0.1, (hb1.cell (p := ⟨g, 1, none⟩) hgl).trans k0.2⟩
         have HB1 := Lib.hid hb1
         have HS1 := Lib.hid hs1
         have hgl1 := Nat.lt_of_lt_of_le hgl hb1.size
         clear hb1 hs1)
      | (go_at_call 33
         (with_reducible refine (HC.out w1 HB1.out).mono ?_)
         rintro e w2 ⟨v2, rfl, hr2, hb2⟩
         obtain ⟨a2, c2, rfl⟩ := own_slice hr2
         have k2 : w2.cell? ⟨g, 0, none⟩ = some (.pointer (some ⟨s, 0, none⟩)) ∧ w2.cell? ⟨g, 1, none⟩ = some (.slice a L.length c) := ⟨(hb2.cell (p := ⟨g, 0, none⟩) hgl1).trans k1.1, (hb2.cell (p := ⟨g, 1, none⟩) hgl1).trans k1.2⟩
         have hbx : Below w2.heap.size w2 (w2.alloc (.cells #[.pointer (some ⟨g1, 0, none⟩), .slice a2 L.length c2] 62)) := (Below.refl _ _).alloc (Nat.le_refl _) _
         have hgl2 := Nat.lt_of_lt_of_le hgl1 hb2.size
         have k3 : (w2.alloc (.cells #[.pointer (some ⟨g1, 0, none⟩), .slice a2 L.length c2] 62)).cell? ⟨g, 0, none⟩ = some (.pointer (some ⟨s, 0, none⟩)) ∧ (w2.alloc (.cells #[.pointer (some ⟨g1, 0, none⟩), .slice a2 L.length c2] 62)).cell? ⟨g, 1, none⟩ = some (.slice a L.length c) := ⟨(hbx.cell (p := ⟨g, 0, none⟩) hgl2).trans k2.1, (hbx.cell (p := ⟨g, 1, none⟩) hgl2).trans k2.2⟩
         have HR2 := Lib.hid hr2
         have HB2 := Lib.hid hb2
         clear hr2 hb2 hbx))
  have HX := Lib.hid (HFIN.out _ _ _ _ _ _ HS1.out hg1 HB1.out HR2.out HB2.out)
  go_wp2_with fail
  go_ret
  exact HX.out
section
variable {w0 w : World} {g : Nat} {L T R : List (Int × Int)}
/-- The fork has taken the timers' place; the old ones have been set and taken from. -/
theorem OthT.tm {w w' : World} {base g s : Nat} {L T : List (Int × Int)} {v u : Value} (h : TmI w base g s L T v u) (k : ∀ td, td = 62 ∨ td = 77 ∨ td = 64 ∨ td = 79 → KpT td w w') : TmI w' base g s L T v u :=
  h.kpt (k _ (.inl rfl)) (k _ (.inr (.inr (.inl rfl)))) (k _ (.inr (.inl rfl))) (k _ (.inr (.inr (.inr rfl))))
def nxV : List (Int × Int) → Int | [] => 0 | x :: _ => x.2
def nxB : List (Int × Int) → Bool | [] => false | _ :: _ => true
theorem tim_next (h : TimAt w0 g L T w) : Calls Try.prog 17 #[.pointer (some ⟨g, 0, none⟩)] w fun e w' => e = .returned (.tuple #[.int .i64 (nxV L), .bool (nxB L)]) ∧ w = w' := by
  obtain ⟨⟨s, v, u, h1, hs⟩, hg, hb⟩ := h
  cases L with
  | nil => exact (next_noI w _ g s T v u h1).mono fun e w' h => ⟨h.1, h.2.symm⟩
  | cons x L => exact (next_yesI w _ g s x L T v u h1).mono fun e w' h => ⟨h.1, h.2.symm⟩
theorem tim_when (k : Int) (h : TimAt w0 g L T w) (ht : TieT L T R) (hn : R.length ≤ 800) :
    Calls Try.prog 20 #[.pointer (some ⟨g, 0, none⟩), .int .i64 k] w fun e w' => e = .returned (.tuple #[.int .i64 (dgetI k R), .bool (dhas k R)]) ∧ Below w.heap.size w w' := by
  obtain ⟨⟨s, v, u, h1, hs⟩, hg, hb⟩ := h
  obtain ⟨l1, l2⟩ := ht.len
  rw [← ht.tie.get, ← ht.tie.has]
  exact whenI w _ g s L T v u k h1 (by omega) ht.tie.rise
end
/-- Two lists of numbers that are the same. -/
theorem sameN_any (w : World) (b1 b2 : Nat) (v1 v2 : Value) (n : Nat) (KV : List Value) (ks : List Int) (hk : KV = ks.map fun x => .int .i64 x) (h1 : w.ownsRow b1 3 1 v1 n KV) (h2 : w.ownsRow b2 3 1 v2 n KV) (hn : n ≤ 1000) :
    Calls Try.prog 13 #[v1, v2] w fun e w' => e = .returned (.bool true) ∧ Below w.heap.size w w' := by
  obtain ⟨a1, c1, rfl⟩ := own_slice h1
  obtain ⟨a2, c2, rfl⟩ := own_slice h2
  have hl : ks.length = n := by have := h1.1; rw [hk] at this; simpa using this
  have hv : ∀ p, p < n → ∃ x : Int, KV[p]? = some (.int .i64 x) := fun p hp => by
    subst hk
    exact ⟨ks[p]'(by omega), by rw [List.getElem?_map, List.getElem?_eq_getElem (by omega)]; rfl⟩
  have HC : Hid (∀ p, p < n → ∃ g1 g2, a1 = some ⟨g1, 0, none⟩ ∧ a2 = some ⟨g2, 0, none⟩ ∧ n ≤ c1 ∧ c1 ≤ maxLen ∧ n ≤ c2 ∧ c2 ≤ maxLen ∧ g1 < w.heap.size ∧ g2 < w.heap.size ∧ ∃ x, w.cell? ⟨g1, p, none⟩ = some (.int .i64 x) ∧ w.cell? ⟨g2, p, none⟩ = some (.int .i64 x)) := Lib.hid fun p hp => by
    obtain ⟨g1, cap1, cur1, e1, _, hg1, hnc1, hm1, _⟩ := own_some h1 (by omega)
    obtain ⟨g2, cap2, cur2, e2, _, hg2, hnc2, hm2, _⟩ := own_some h2 (by omega)
    cases e1; cases e2
    have hx := own_cell h1 (k := p) (by omega)
    have hy := own_cell h2 (k := p) (by omega)
    obtain ⟨x, hv⟩ := hv p hp
    exact ⟨g1, g2, rfl, rfl, hnc1, hm1, hnc2, hm2, (Array.getElem?_eq_some_iff.1 hg1).1, (Array.getElem?_eq_some_iff.1 hg2).1, x, hx.trans hv, hy.trans hv⟩
  clear h1 h2 hk hl hv
  go_enter Try.func13, Try.ntmps13
  go_wp2_with fail
  go_loopw [5] (fun i wr => ∃ p : Nat, p ≤ n ∧ i = .int .i64 p ∧ Hid (Below w.heap.size w wr)) (fun i _ => n - (intOf i).toNat)
  case atStart => exact ⟨0, Nat.zero_le _, rfl, Lib.hid (Below.refl _ _)⟩
  case round =>
    obtain ⟨p, hp, rfl, HB⟩ := hrel
    by_cases hlt : p < n
    · obtain ⟨g1, g2, rfl, rfl, hc1, hm1, hc2, hm2, hl1, hl2, x, d1, d2⟩ := HC.out p hlt
      simp only [maxLen] at hm1 hm2
      have e1 := (HB.out.cell (p := ⟨g1, p, none⟩) hl1).trans d1
      have e2 := (HB.out.cell (p := ⟨g2, p, none⟩) hl2).trans d2
      have hpI : (p : Int) < (n : Int) := by omega
      clear d1 d2
      go_wp2_with fail
      go_quiet (fail)
      go_wp2_with fail
      exact ⟨⟨p + 1, by omega, by go_num, Lib.hid (below_drewN HB.out nq)⟩, by simp [intOf]; omega⟩
    · obtain rfl : p = n := by omega
      go_wp2_with fail
      go_ret
      exact ⟨rfl, HB.out⟩
end Go.Proofs.Ytbabohioeeandaa
