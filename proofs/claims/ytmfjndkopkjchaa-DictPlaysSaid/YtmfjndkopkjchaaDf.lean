/- What tell does: a loop over an iterator that hands the outer loop's yield each row. -/
import Derived.Test.YtmfjndkopkjchaaDe
namespace Go.Proofs.Ytmfjndkopkjchaa
open Go.RowKit Go.Shelf
attribute [local go_sem] Oper.semAt_some
set_option linter.unusedSimpArgs false
set_option linter.unusedVariables false

theorem own_more {β : Type} {B B' : Nat} {J : β → World → Prop} (h : OwnFrom B J) (hb : B ≤ B') : OwnFrom B' J := fun s W W' row hs hg hr => h s W W' row hs hg (fun r e => by obtain ⟨h1, h2⟩ := hr r e; exact ⟨by omega, h2⟩)
theorem keeps_more {B B' : Nat} {W W' : World} (h : KeepsFrom B W W') (hb : B ≤ B') : KeepsFrom B' W W' := ⟨h.size, fun k o hk => h.same k o (by omega)⟩
def sn (pre : List Elt) : List (Int × Ent) := pre.map (·.2)
theorem sn_snoc (pre : List Elt) (i : Nat) (x : Int × Ent) : sn (pre ++ [(i, x)]) = sn pre ++ [x] := by simp [sn]
theorem sn_len (pre : List Elt) : (sn pre).length = pre.length := by simp [sn]
def TelI (J : List (Int × Ent) → World → Prop) (l b V : Nat) (tb : World → Option Nat) (pre : List Elt) (X : World) : Prop := J (sn pre) X ∧ X.heap[b]? = some (.cells #[.func (.yield l) #[] #[]] 112 (0, 0)) ∧ tb X ≠ some b ∧ V ≤ X.heap.size
def TelX (Jx : List (Int × Ent) → World → Prop) (c : Code) (pre : List Elt) (X : World) : Prop := c = .ret ∧ Jx (sn pre) X
def TelA (gf : Nat) (lb : Array Value) (l b0 V : Nat) (x : Elt) (a' : Act) (X : World) : Prop := ∃ b, X.heap[b]? = some (.cells #[.int .i64 x.2.1, .int .i64 x.2.2.k, .int .i64 x.2.2.a, .int .i64 x.2.2.lo, .int .i64 x.2.2.hi, .string (strOfNums x.2.2.b)] 129 (0, 0)) ∧ V ≤ b ∧ a' = { tmps := #[.func (Fn.func gf) #[] lb, .func (.yield l) #[] #[], undef, .pointer (some ⟨b0, 0, none⟩), undef, .pointer (some ⟨b, 0, none⟩), .func (Fn.func gf) #[] lb, .int .i64 (x.1 : Nat), .agg #[.int .i64 x.2.1, .int .i64 x.2.2.k, .int .i64 x.2.2.a, .int .i64 x.2.2.lo, .int .i64 x.2.2.hi, .string (strOfNums x.2.2.b)], undef, undef, undef, undef, undef, undef, undef], defers := [] }
set_option maxRecDepth 100000 in
set_option maxHeartbeats 2000000 in
theorem tell_in (n m : Nat) (hn : 3 ≤ n) (l L gf : Nat) (lb : Array Value) (eg : ∀ args w, (callFunc gf args).run Try.prog w = .ok (.enter gf args) w) (E : List Elt) (N : Nat) (Fx : Nat → Prop) (tb : World → Option Nat) (B0 : Nat) (hloc : Loc B0 tb)
    (J Jx : List (Int × Ent) → World → Prop) (W : World) (hB0 : B0 ≤ W.heap.size) (hL : L ≤ W.heap.size) (hJ : OwnFrom L J) (hJx : OwnFrom L Jx) (hFx : ∀ k, Fx k → k < W.heap.size) (htl : ∀ k, tb W = some k → k < W.heap.size)
    (hY : ∀ pre x W1, J pre W1 → pre.length < N → YieldAt Fence.wide m Try.prog l #[.int .i64 x.1, entV x.2] W1 (Answ (Kq Fx tb) J Jx L (pre ++ [x]) W1))
    (hseq : ∀ w', Below W.heap.size W w' → SeqStopsK Fence.wide (n - 1) Try.prog gf lb encs (Kq Fx tb) (fun ys => ys = E) (fun pre => pre <+: E) N w') (h0 : J [] W) :
    CallsIn Fence.wide n Try.prog 70 #[.func (Fn.func gf) #[] lb, .func (.yield l) #[] #[]] W fun e W' => (∃ v, e = .returned v) ∧ ((∃ ys, ys = E.map (·.2) ∧ J ys W') ∨ (∃ pre, pre <+: E.map (·.2) ∧ Jx pre W')) := by
  have hba : Below W.heap.size W (W.alloc (.cells #[.func (.yield l) #[] #[]] 112)) := (Below.refl _ _).alloc (Nat.le_refl _) _
  have hJ1 : J [] (W.alloc (.cells #[.func (.yield l) #[] #[]] 112)) := hJ.alloc _ h0
  have hbx := heap_alloc_new W (.cells #[.func (.yield l) #[] #[]] 112)
  have hsz : (W.alloc (.cells #[.func (.yield l) #[] #[]] 112)).heap.size = W.heap.size + 1 := by simp
  refine callsIn_of_wp_marks Try.func70 rfl trivial ?_ rfl
  simp only [Try.ntmps70, List.size_toArray, List.length_cons, List.length_nil, Nat.reduceAdd, Nat.reduceSub, Array.replicate_succ, Array.replicate_zero, List.push_toArray, List.append_toArray, List.nil_append, List.cons_append]
  gi_wp2_with fail
  generalize W.alloc (.cells #[.func (.yield l) #[] #[]] 112) = V at *
  refine wpIn_rangeFunc_ownH rfl (by omega) (gf := gf) (lb := lb) rfl trivial eg (hseq V hba) kq_t (fun X k o o' hk ho hc _ => kq_put hloc (by omega) ho hc) (Below.refl _ _) (fun _ => rfl)
    (TelI J l W.heap.size V.heap.size tb) (TelX Jx)
    (fun (s : List Elt) X Y row ⟨h1, h2, h3, h4⟩ hg hr => ⟨own_more hJ (by omega) _ X Y row h1 hg hr, own_heap (β := Unit) W.heap.size V.heap.size _ (by omega) () X Y row h2 hg hr, fun e => h3 (by rw [← e]; exact (hloc X Y fun k hk => hg.block k (by omega) (fun e => by have := (hr k e.symm).1; omega)).symm), Nat.le_trans h4 hg.size⟩)
    (fun c s X Y row ⟨h1, h2⟩ hg hr => ⟨h1, own_more hJx (by omega) _ X Y row h2 hg hr⟩)
    ⟨hJ1, hbx, fun e => by have := htl _ (by rw [← hloc W V fun k hk => hba.block k (by omega)]; exact e); omega, Nat.le_refl _⟩
    (TelA gf lb l W.heap.size V.heap.size)
    (fun x a' s X Y row ⟨b, h1, h2, h3⟩ hg hr => ⟨b, (hg.block b (Array.getElem?_eq_some_iff.1 h1).1 (fun e => by obtain ⟨_, o, ho, hc⟩ := hr b e.symm; rw [h1] at ho; cases ho; cases hc)).trans h1, h2, h3⟩)
    ?assign ?body ?done ?stop
  case assign =>
    rintro lp pre ⟨i, xn, xk, xa, xl, xh, xb⟩ X K ⟨hJX, hbX, htX, hsX⟩ hK
    have hb2 : Below X.heap.size X (X.alloc (.cells #[.int .i64 xn, .int .i64 xk, .int .i64 xa, .int .i64 xl, .int .i64 xh, .string (strOfNums xb)] 129)) := (Below.refl _ _).alloc (Nat.le_refl _) _
    have hkf : KeepsFrom V.heap.size X (X.alloc (.cells #[.int .i64 xn, .int .i64 xk, .int .i64 xa, .int .i64 xl, .int .i64 xh, .string (strOfNums xb)] 129)) := ⟨by simp, fun k o _ hk _ => (hb2.block k (Array.getElem?_eq_some_iff.1 hk).1).trans hk⟩
    have hI2 := And.intro ((own_more hJ (by omega : L ≤ V.heap.size)).alloc (.cells #[.int .i64 xn, .int .i64 xk, .int .i64 xa, .int .i64 xl, .int .i64 xh, .string (strOfNums xb)] 129) hJX) (And.intro ((hb2.block _ (by omega)).trans hbX) (And.intro (fun e => htX (by rw [← e]; exact (hloc X _ fun k hk => hb2.block k (by omega)).symm) : tb (X.alloc (.cells #[.int .i64 xn, .int .i64 xk, .int .i64 xa, .int .i64 xl, .int .i64 xh, .string (strOfNums xb)] 129)) ≠ some W.heap.size) (Nat.le_trans hsX hb2.size)))
    have hkq := kq_below (Fx := Fx) hloc (by omega) hb2
    have hnew := heap_alloc_new X (.cells #[.int .i64 xn, .int .i64 xk, .int .i64 xa, .int .i64 xl, .int .i64 xh, .string (strOfNums xb)] 129)
    have HK := Lib.hid (hK _ _ hkf hkq hI2 ⟨_, hnew, hsX, rfl⟩)
    clear hb2 hkf hI2 hkq hnew hK hJX hbX htX
    dsimp only [encs]
    gi_wp2
    exact HK.out
  case body =>
    rintro lp pre ⟨i, xn, xk, xa, xl, xh, xb⟩ a' X hlp _ ⟨hJX, hbX, htX, hsX⟩ ⟨b, hb, hbl, rfl⟩ hlen
    have c3 : X.cell? ⟨W.heap.size, 0, none⟩ = some (.func (.yield l) #[] #[]) := by rw [cell_of_row _ _ _ _ _ _ hbX]; rfl
    have c5 : X.cell? ⟨b, 0, none⟩ = some (.int .i64 xn) := by rw [cell_of_row _ _ _ _ _ _ hb]; rfl
    have c6 : X.cell? ⟨b, 1, none⟩ = some (.int .i64 xk) := by rw [cell_of_row _ _ _ _ _ _ hb]; rfl
    have c7 : X.cell? ⟨b, 2, none⟩ = some (.int .i64 xa) := by rw [cell_of_row _ _ _ _ _ _ hb]; rfl
    have c8 : X.cell? ⟨b, 3, none⟩ = some (.int .i64 xl) := by rw [cell_of_row _ _ _ _ _ _ hb]; rfl
    have c9 : X.cell? ⟨b, 4, none⟩ = some (.int .i64 xh) := by rw [cell_of_row _ _ _ _ _ _ hb]; rfl
    have c10 : X.cell? ⟨b, 5, none⟩ = some (.string (strOfNums xb)) := by rw [cell_of_row _ _ _ _ _ _ hb]; rfl
    obtain ⟨fn, tmps, assign, body, hy, hRd⟩ := yield_any (m' := n - 1 - 1 - 1) (l2 := lp) (hY (sn pre) (xn, ⟨xk, xa, xl, xh, xb⟩) X hJX (by rw [sn_len]; exact hlen))
    have HRD := Lib.hid hRd
    have HBX := Lib.hid hbX
    have HTX := Lib.hid htX
    dsimp only [entV] at hy
    clear hRd hJX hbX htX hb hY hseq
    gi_wp2_with fail
    refine ⟨fun h => (by cases h), HRD.out.mono ?_⟩
    rintro e X3 ⟨hkf, (⟨rfl, hJ3, hk3⟩ | ⟨rfl, hJx3⟩)⟩
    · have fin : KeepsFrom V.heap.size X X3 ∧ Kq Fx tb X X3 ∧ J (sn (pre ++ [((i, xn, ⟨xk, xa, xl, xh, xb⟩) : Elt)])) X3 ∧ X3.heap[W.heap.size]? = some (.cells #[.func (.yield l) #[] #[]] 112 (0, 0)) ∧ tb X3 ≠ some W.heap.size ∧ V.heap.size ≤ X3.heap.size :=
        ⟨keeps_more hkf (by omega), hk3, by rw [sn_snoc]; exact hJ3, hk3.heap HBX.out (fun e => by have := hFx _ e; omega) HTX.out, hk3.not (by omega) HTX.out, Nat.le_trans hsX hk3.size⟩
      have HFI := Lib.hid fin
      clear fin hkf hk3 hJ3
      gi_wp2
      exact HFI.out
    · have HKF := Lib.hid (keeps_more hkf (by omega : L ≤ V.heap.size))
      have HJX : Hid (Jx (sn (pre ++ [((i, xn, ⟨xk, xa, xl, xh, xb⟩) : Elt)])) X3) := Lib.hid (by rw [sn_snoc]; exact hJx3)
      clear hkf hJx3
      gi_wp2
      exact ⟨HKF.out, rfl, HJX.out⟩
  case stop =>
    rintro D cc pre X hD hSp ⟨rfl, hX⟩ hK
    have hpre : sn pre <+: E.map (·.2) := by obtain ⟨r, rfl⟩ := hSp; simp [sn]
    have hXe := (own_more hJx (by omega : L ≤ V.heap.size)).putObj (.deferred none) hX hD hK rfl
    gi_wp2
    exact ⟨by simp, .inl ⟨_, _, rfl, run_takeDeferred hK, _, results_none rfl _ _ _, ⟨_, rfl⟩, .inr ⟨_, hpre, hXe⟩⟩⟩
  case done =>
    rintro D ys X hD rfl ⟨hJX, hbX, htX, hsX⟩ hK
    have hXe := (own_more hJ (by omega : L ≤ V.heap.size)).putObj (.deferred none) hJX hD hK rfl
    gi_wp2
    exact ⟨by simp, .inl ⟨_, _, rfl, run_takeDeferred hK, _, results_none rfl _ _ _, ⟨_, rfl⟩, .inl ⟨_, rfl, hXe⟩⟩⟩
end Go.Proofs.Ytmfjndkopkjchaa
