/- What the document's Stop and Set answer, and the law's whenOf. -/
import Derived.Test.YtbabohioeeandaaUa
namespace Go.Proofs.Ytbabohioeeandaa
open Go.RowKit
set_option linter.unusedSimpArgs false
set_option linter.unusedVariables false

/-- A row of a row of pairs. -/
theorem rows_at {w : World} {base e n c p : Nat} {a : Option Addr} {R : List (Int × Int)} {x : Int × Int} (h : w.ownsRow base e 2 (.slice a n c) n (fl eI eI R)) (hx : R[p]? = some x) :
    ∃ g, a = some ⟨g, 0, none⟩ ∧ g < w.heap.size ∧ n ≤ c ∧ c ≤ maxLen ∧ w.cell? ⟨g, p * 2, none⟩ = some (.int .i64 x.1) ∧ w.cell? ⟨g, p * 2 + 1, none⟩ = some (.int .i64 x.2) := by
  have hlt := (List.getElem?_eq_some_iff.1 hx).1
  have hl := h.1
  rw [fl_len] at hl
  obtain ⟨g, cap, cur, e1, _, hg, hnc, hm, _⟩ := own_some h (by omega)
  cases e1
  refine ⟨g, rfl, (Array.getElem?_eq_some_iff.1 hg).1, hnc, hm, ?_, ?_⟩
  · rw [own_cell h (by omega), fl_key eI eI R p x hx]; rfl
  · rw [own_cell h (by omega), fl_val eI eI R p x hx]; rfl
theorem drop_at {R : List (Int × Int)} {p : Nat} {x : Int × Int} (hx : R[p]? = some x) : R.drop p = x :: R.drop (p + 1) := by
  obtain ⟨hi, e⟩ := List.getElem?_eq_some_iff.1 hx
  rw [List.drop_eq_getElem_cons hi, e]
theorem take_at {R : List (Int × Int)} {p : Nat} {x : Int × Int} (hx : R[p]? = some x) : R.take (p + 1) = R.take p ++ [x] := by
  obtain ⟨hi, e⟩ := List.getElem?_eq_some_iff.1 hx
  rw [List.take_succ_eq_append_getElem hi, e]

def dwhen (k : Int) (R : List (Int × Int)) : Int := if dhas k R = true then dgetI k R else -1
theorem dwhen_yes {k : Int} {R : List (Int × Int)} (h : dhas k R = true) : dwhen k R = dgetI k R := if_pos h
set_option maxRecDepth 100000 in
set_option maxHeartbeats 2000000 in
theorem dget_any (w : World) (base : Nat) (v : Value) (R : List (Int × Int)) (k : Int) (h : w.ownsRow base 44 2 v R.length (fl eI eI R)) (hn : R.length ≤ 1000) :
    Calls Try.prog 21 #[v, .int .i64 k] w fun e w' => e = .returned (.int .i64 (dwhen k R)) ∧ w' = w := by
  obtain ⟨a, c, rfl⟩ := own_slice h
  have HC := Lib.hid (fun p x (hx : R[p]? = some x) => rows_at h hx)
  have HX := Lib.hid (fun p (hp : p < R.length) => show ∃ x, R[p]? = some x from ⟨_, List.getElem?_eq_getElem hp⟩)
  have h0 : Hid (dgetI k (R.drop 0) = dgetI k R ∧ dhas k (R.drop 0) = dhas k R) := Lib.hid ⟨rfl, rfl⟩
  have HE : Hid (R.drop R.length = []) := Lib.hid (List.drop_length)
  generalize R.length = N at *
  clear h
  go_enter Try.func21, Try.ntmps21
  go_wp2_with fail
  go_loopw [5] (fun i wr => ∃ p : Nat, p ≤ N ∧ i = .int .i64 p ∧ wr = w ∧ Hid (dgetI k (R.drop p) = dgetI k R ∧ dhas k (R.drop p) = dhas k R)) (fun i _ => N - (intOf i).toNat)
  case atStart => exact ⟨0, Nat.zero_le _, rfl, rfl, h0⟩
  case round =>
    obtain ⟨p, hp, rfl, rfl, hr⟩ := hrel
    by_cases hlt : p < N
    · obtain ⟨x, hx⟩ := HX.out p hlt
      obtain ⟨g, rfl, hg, hnc, hm, c0, c1⟩ := HC.out p x hx
      simp only [maxLen] at hm
      have hd := drop_at hx
      have hpI : (p : Int) < (N : Int) := by omega
      obtain ⟨xk, xv⟩ := x
      simp only at c0 c1
      by_cases hk : xk = k
      · subst hk
        have e1 : dgetI xk R = xv := by rw [← hr.out.1, hd]; unfold dgetI; rw [if_pos rfl]
        have e2 : dhas xk R = true := by rw [← hr.out.2, hd]; simp [dhas]
        have E1 := Lib.hid (show dwhen xk R = xv by unfold dwhen; rw [e2, if_pos rfl, e1])
        clear hd hx hr e1 e2 h0
        go_wp2_with fail
        go_ret
        exact ⟨by rw [E1.out]; rfl, rfl⟩
      · have hr2 : Hid (dgetI k (R.drop (p + 1)) = dgetI k R ∧ dhas k (R.drop (p + 1)) = dhas k R) := by
          obtain ⟨e1, e2⟩ := hr.out
          rw [hd] at e1 e2
          refine Lib.hid ⟨?_, ?_⟩
          · rw [← e1]; exact (if_neg hk).symm
          · rw [← e2]; simp [dhas, hk]
        clear hd hx hr h0
        go_wp2_with fail
        exact ⟨⟨p + 1, by omega, by go_num, by first | trivial | rfl, hr2⟩, by simp [intOf]; omega⟩
    · obtain rfl : p = N := by omega
      have e1 : dgetI k R = 0 := by rw [← hr.out.1, HE.out]; rfl
      have e2 : dhas k R = false := by rw [← hr.out.2, HE.out]; rfl
      have E1 := Lib.hid (show dwhen k R = -1 by unfold dwhen; rw [e2]; rfl)
      clear hr e1 e2 h0
      go_wp2_with fail
      go_ret
      exact ⟨by rw [E1.out]; rfl, rfl⟩

theorem info_row : (Try.prog.info? 44).map (fun i => (i.zero, i.size, i.bytes)) = some (some (.agg #[.int .i64 0, .int .i64 0]), 2, 16) := by kernel_rfl
/-- One element is appended to a row of the call's own. -/
theorem wpList_elem {P : Program} {wr : World} {ops : Array Oper} {rest : List Oper} {o : Oper} {a : Act} {Q : Exit → Act → World → Prop} {base t e n s by_ : Nat} {z : Value} {xs news : List Value} {v : Value} (hgd : o.guard = none) (p x : Operand)
    (ho : o.op = .call { callee := .builtin .append, args := #[p, x], argTypes := #[t, t] }) (ht : P.underlying t = some (.slice e))
    (hinfo : (P.info? e).map (fun i => (i.zero, i.size, i.bytes)) = some (some z, s, by_)) (hzs : z.cells.size = s) (hs0 : 0 < s) (hby : by_ ≤ 1000) (hs : a.eval p = v) (hown : wr.ownsRow base e s v n xs)
    {H : Nat} (hx : a.eval x = .slice (some ⟨H, 0, none⟩) 1 1) (hH : wr.heap.size = H) (hl : news.length = s) (h1 : ∀ u ∈ news, u.oneCell' = true) (hn : n ≤ 1000000) (hb : base ≤ wr.heap.size)
    (h : ∀ v' w', w'.ownsRow base e s v' (n + 1) (xs ++ news) → wr.grownBy w' v.ownBlock → (v'.ownBlock = v.ownBlock ∨ v'.ownBlock = some (wr.heap.size + 1)) → wpList P ops Q rest (a.put o.dst v') w') :
    wpList P ops Q (o :: rest) a (wr.alloc (.cells news.toArray e)) := by
  subst hH
  obtain ⟨i0, hi, hz0, hz1, hz2⟩ := info_parts hinfo
  refine wpList_append_own_at _ hgd p x t ho base e i0 z s by_ ht hi hz0 hz1 hz2 hzs hs0 v n xs hs (hown.alloc _) ⟨wr.heap.size, 0, none⟩ 1 1 news hx (by omega) ?_ h1 (by simp only [maxLen]; omega) (Nat.le_trans (Nat.mul_le_mul (show n + 1 ≤ 1000001 by omega) hby) (by omega)) (by simp; omega) ?_
  · intro j u hu
    rw [add_plainR, Nat.zero_add, cell_of_row _ _ _ _ e (0, 0) (heap_alloc_new wr _)]
    simpa using hu
  · intro v' w' h1 h2 _ h4
    have hg := World.grownBy_alloc wr (.cells news.toArray e) v.ownBlock
    exact h v' w' h1 (grown_trans hg h2) (by simpa using h4)
theorem own_made (w : World) (base e s : Nat) (hb : base ≤ w.heap.size) : (w.alloc (.cells #[] e)).ownsRow base e s (.slice (some ⟨w.heap.size, 0, none⟩) 0 0) 0 [] :=
  own_mk hb (heap_alloc_new w _) (Nat.le_refl _) (by simp [maxLen]) (by simp) (by simp) (fun k hk => absurd hk (by simp))
theorem pair_one (x y : Int) : ∀ u ∈ [Value.int .i64 x, Value.int .i64 y], u.oneCell' = true := by simp [Value.oneCell']
theorem below_own {B : Nat} {w0 w w' : World} {base e s n : Nat} {v : Value} {xs : List Value} (hb : Below B w0 w) (h : w.ownsRow base e s v n xs) (hB : B ≤ base) (hB2 : B ≤ w.heap.size) (hg : w.grownBy w' v.ownBlock) : Below B w0 w' :=
  hb.grown hg hB2 fun k hk => Nat.le_trans hB (h.lt k hk).1
theorem dcut_step {R : List (Int × Int)} {p : Nat} {x : Int × Int} (k : Int) (hx : R[p]? = some x) : dcut k (R.take (p + 1)) = dcut k (R.take p) ++ if x.1 = k then [] else [x] := by
  rw [take_at hx]
  unfold dcut
  rw [List.filter_append]
  by_cases h : x.1 = k <;> simp [h]
/-- Rows of the document's that a call has made. -/
def Rows_ (w : World) (R : List (Int × Int)) (e : Ending) (w' : World) : Prop := ∃ v', e = .returned v' ∧ w'.ownsRow w.heap.size 44 2 v' R.length (fl eI eI R) ∧ Below w.heap.size w w'
def RowsB (w : World) (R : List (Int × Int)) (b : Bool) (e : Ending) (w' : World) : Prop := ∃ v', e = .returned (.tuple #[v', .bool b]) ∧ w'.ownsRow w.heap.size 44 2 v' R.length (fl eI eI R) ∧ Below w.heap.size w w'
set_option maxRecDepth 100000 in
set_option maxHeartbeats 2000000 in
theorem dcut_any (w : World) (base : Nat) (v : Value) (R : List (Int × Int)) (k : Int) (h : w.ownsRow base 44 2 v R.length (fl eI eI R)) (hn : R.length ≤ 1000) :
    Calls Try.prog 10 #[v, .int .i64 k] w (RowsB w (dcut k R) (decide ((dcut k R).length < R.length))) := by
  obtain ⟨a, c, rfl⟩ := own_slice h
  have HO := Lib.hid (fun w' (hb : Below w.heap.size w w') => own_below h hb)
  have HX := Lib.hid (fun p (hp : p < R.length) => show ∃ x, R[p]? = some x from ⟨_, List.getElem?_eq_getElem hp⟩)
  have HE : Hid (dcut k (R.take R.length) = dcut k R) := Lib.hid (by rw [List.take_length])
  have HL := Lib.hid (fun p => show (dcut k (R.take p)).length ≤ p from Nat.le_trans (dcut_le _ _) (by rw [List.length_take]; omega))
  have hm0 := own_made w w.heap.size 44 2 (Nat.le_refl _)
  have hb0 : Below w.heap.size w (w.alloc (.cells #[] 44)) := (Below.refl _ _).alloc (Nat.le_refl _) _
  have HM := Lib.hid hm0
  have HB := Lib.hid hb0
  generalize R.length = N at *
  clear h hm0 hb0
  go_enter Try.func10, Try.ntmps10
  go_wp2_with fail
  go_loopw [6, 7] (fun q i wr => ∃ p : Nat, p ≤ N ∧ i = .int .i64 p ∧ Hid (wr.ownsRow w.heap.size 44 2 q (dcut k (R.take p)).length (fl eI eI (dcut k (R.take p)))) ∧ Hid (Below w.heap.size w wr)) (fun _ i _ => N - (intOf i).toNat)
  case atStart => exact ⟨0, Nat.zero_le _, rfl, HM, HB⟩
  case round =>
    clear HM HB
    obtain ⟨p, hp, rfl, HM, HB⟩ := hrel
    by_cases hlt : p < N
    · obtain ⟨x, hx⟩ := HX.out p hlt
      obtain ⟨g, rfl, hg, hnc, hm, c0, c1⟩ := rows_at (HO.out _ HB.out) hx
      simp only [maxLen] at hm
      have hst := dcut_step k hx
      have hpI : (p : Int) < (N : Int) := by omega
      have hlp := HL.out p
      have hsz := HB.out.size
      obtain ⟨xk, xv⟩ := x
      simp only at c0 c1 hst
      have HS := Lib.hid hst
      clear hx hst
      by_cases hk : xk = k
      · have HS2 := Lib.hid (HS.out.trans (by rw [if_pos hk, List.append_nil]))
        have HK := Lib.hid hk
        have tk : (xk != k) = false := by simp [hk]
        clear hk HS
        go_wp2_with fail
        exact ⟨⟨p + 1, by omega, by go_num, by rw [HS2.out]; exact HM, HB⟩, by simp [intOf]; omega⟩
      · have HS2 := Lib.hid (HS.out.trans (by rw [if_neg hk]))
        have tk : (xk != k) = true := by simp [hk]
        have hown := HM.out
        obtain ⟨qa, qc, rfl⟩ := own_slice hown
        clear hk HS
        go_wp2_with (at_builtin; refine wpList_elem rfl (.tmp 22) (.tmp 27) rfl Try.underlying25 info_row rfl (by omega) (by omega) rfl hown rfl rfl rfl (pair_one xk xv) (by omega) hsz ?_; intro v' w3 hown3 hgr3 hob3)
        have HB3 := Lib.hid (below_own HB.out hown (Nat.le_refl _) hsz hgr3)
        have HM3 : Hid (w3.ownsRow w.heap.size 44 2 v' (dcut k (R.take (p + 1))).length (fl eI eI (dcut k (R.take (p + 1))))) := by
          rw [HS2.out, fl_append, List.length_append]
          exact Lib.hid hown3
        exact ⟨⟨p + 1, by omega, by go_num, HM3, HB3⟩, by simp [intOf]; omega⟩
    · obtain rfl : p = N := by omega
      have hm := HM.out
      rw [HE.out] at hm
      have HM2 := Lib.hid hm
      obtain ⟨qa, qc, rfl⟩ := own_slice hm
      clear hm HM
      go_wp2_with fail
      go_ret2
      exact ⟨_, rfl, HM2.out, HB.out⟩
set_option maxRecDepth 100000 in
set_option maxHeartbeats 2000000 in
theorem dput_any (w : World) (base : Nat) (v : Value) (R : List (Int × Int)) (k u : Int) (h : w.ownsRow base 44 2 v R.length (fl eI eI R)) (hn : R.length ≤ 1000) :
    Calls Try.prog 9 #[v, .int .i64 k, .int .i64 u] w (Rows_ w (dput k u R)) := by
  have HC := Lib.hid (dcut_any w base v R k h hn)
  have hln := dcut_le k R
  obtain ⟨a, c, rfl⟩ := own_slice h
  clear h
  unfold dput
  generalize dcut k R = C at *
  go_enter Try.func9, Try.ntmps9
  go_wp2_with fail
  refine HC.out.mono ?_
  rintro e w2 ⟨v2, rfl, hown, hb⟩
  obtain ⟨qa, qc, rfl⟩ := own_slice hown
  have hsz := hb.size
  go_wp2_with (at_builtin; refine wpList_elem rfl (.tmp 15) (.tmp 19) rfl Try.underlying25 info_row rfl (by omega) (by omega) rfl hown rfl rfl rfl (pair_one k u) (by omega) hsz ?_; intro v' w3 hown3 hgr3 hob3)
  obtain ⟨qa, qc, rfl⟩ := own_slice hown3
  have HB3 := Lib.hid (below_own hb hown (Nat.le_refl _) hsz hgr3)
  go_ret
  exact ⟨_, rfl, by rw [fl_append, List.length_append]; exact hown3, HB3.out⟩
end Go.Proofs.Ytbabohioeeandaa
