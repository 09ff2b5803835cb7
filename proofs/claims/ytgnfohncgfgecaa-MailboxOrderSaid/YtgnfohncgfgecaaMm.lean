/- Lists of letters by their ranks; rows of frames that grow. -/
import Derived.Test.YtgnfohncgfgecaaMk
namespace Go.Proofs.Ytgnfohncgfgecaa
open Go.RowKit

theorem insL_nil (x : Ltr) : insL x [] = [x] := rfl
theorem insL_cons (x y : Ltr) (ls : List Ltr) : insL x (y :: ls) = if x.rank < y.rank then x :: y :: ls else y :: insL x ls := by
  unfold insL
  by_cases h : x.rank < y.rank
  · have e : plc x.rank (y :: ls) = 0 := by unfold plc; rw [if_pos h]
    rw [e, if_pos h]; rfl
  · have e : plc x.rank (y :: ls) = plc x.rank ls + 1 := by
      show (if x.rank < y.rank then 0 else plc x.rank ls + 1) = _
      rw [if_neg h]
    rw [e, if_neg h]; rfl
def srt (ls : List Ltr) : Prop := ls.Pairwise fun a b => a.rank ≤ b.rank
def fil (q : Int) (ls : List Ltr) : List Ltr := ls.filter fun x => x.rank == q
theorem insL_mem (x : Ltr) : ∀ (ls : List Ltr) (z : Ltr), z ∈ insL x ls → z = x ∨ z ∈ ls
  | [], z, h => by simpa [insL_nil] using h
  | y :: ls, z, h => by
    rw [insL_cons] at h
    split at h
    · simpa using h
    · rcases List.mem_cons.1 h with h | h
      · exact .inr (by simp [h])
      · rcases insL_mem x ls z h with h | h
        · exact .inl h
        · exact .inr (by simp [h])
theorem insL_srt (x : Ltr) : ∀ ls : List Ltr, srt ls → srt (insL x ls)
  | [], _ => by simp [insL_nil, srt]
  | y :: ls, h => by
    obtain ⟨h1, h2⟩ := List.pairwise_cons.1 h
    rw [insL_cons]
    by_cases hx : x.rank < y.rank
    · rw [if_pos hx]
      refine List.pairwise_cons.2 ⟨fun z hz => ?_, h⟩
      rcases List.mem_cons.1 hz with rfl | hz
      · omega
      · have := h1 z hz; omega
    · rw [if_neg hx]
      refine List.pairwise_cons.2 ⟨fun z hz => ?_, insL_srt x ls h2⟩
      rcases insL_mem x ls z hz with rfl | hz
      · omega
      · exact h1 z hz
theorem insL_fil (x : Ltr) (q : Int) : ∀ ls : List Ltr, srt ls → fil q (insL x ls) = fil q ls ++ (if x.rank == q then [x] else [])
  | [], _ => by
    rw [insL_nil]; unfold fil
    cases hx : x.rank == q <;> simp [hx]
  | y :: ls, h => by
    obtain ⟨h1, h2⟩ := List.pairwise_cons.1 h
    rw [insL_cons]
    by_cases hx : x.rank < y.rank
    · rw [if_pos hx]
      cases hq : x.rank == q with
      | false => simp [fil, hq]
      | true =>
        have hq' : x.rank = q := by simpa using hq
        have e : fil q (y :: ls) = [] := by
          unfold fil
          rw [List.filter_eq_nil_iff]
          intro z hz
          simp only [beq_iff_eq]
          rcases List.mem_cons.1 hz with rfl | hz
          · omega
          · have := h1 z hz; omega
        rw [e]
        show fil q (x :: y :: ls) = _
        have e2 : fil q (x :: y :: ls) = x :: fil q (y :: ls) := by unfold fil; rw [List.filter_cons_of_pos (by simpa using hq')]
        rw [e2, e]; rfl
    · rw [if_neg hx]
      have ih := insL_fil x q ls h2
      unfold fil at ih ⊢
      rw [List.filter_cons, List.filter_cons, ih]
      split <;> simp
theorem fil_app (q : Int) (a b : List Ltr) : fil q (a ++ b) = fil q a ++ fil q b := List.filter_append _ _
theorem fil_one (q : Int) (x : Ltr) : fil q [x] = if x.rank == q then [x] else [] := by
  unfold fil; cases h : x.rank == q <;> simp [h]
theorem fil_skip {q : Int} {T : List Ltr} {i : Nat} {y : Ltr} (hy : T[i]? = some y) (h : y.rank ≠ q) : fil q (T.take (i + 1)) = fil q (T.take i) := by
  rw [← take_snoc' hy, fil_app]
  have : (y.rank == q) = false := by simpa using h
  simp [fil, this]
theorem fil_next {q : Int} {ls T : List Ltr} {a i : Nat} {y : Ltr} (hF : fil q ls = fil q T) (ha : fil q (ls.take a) = fil q (T.take i)) (hy : T[i]? = some y) (hq : y.rank = q) :
    ∃ x, ls[a]? = some x ∧ (x.rank ≠ q → fil q (ls.take (a + 1)) = fil q (T.take i)) ∧ (x.rank = q → x = y ∧ fil q (ls.take (a + 1)) = fil q (T.take (i + 1))) := by
  have hb : (y.rank == q) = true := by simpa using hq
  have e1 : fil q (ls.drop a) = fil q (T.drop i) := by
    have h := hF
    rw [← List.take_append_drop a ls, ← List.take_append_drop i T, fil_app, fil_app, ha] at h
    exact List.append_cancel_left h
  obtain ⟨hi, ey⟩ := List.getElem?_eq_some_iff.1 hy
  have e2 : T.drop i = y :: T.drop (i + 1) := by rw [List.drop_eq_getElem_cons hi, ey]
  have e3 : fil q (T.drop i) = y :: fil q (T.drop (i + 1)) := by rw [e2]; unfold fil; rw [List.filter_cons_of_pos (by simpa using hq)]
  have hlt : a < ls.length := by
    rcases Nat.lt_or_ge a ls.length with h | h
    · exact h
    · rw [List.drop_of_length_le h, e3] at e1; simp [fil] at e1
  have hx : ls[a]? = some ls[a] := List.getElem?_eq_getElem hlt
  refine ⟨ls[a], hx, fun h => (fil_skip hx h).trans ha, fun h => ?_⟩
  have e4 : fil q (ls.drop a) = ls[a] :: fil q (ls.drop (a + 1)) := by rw [List.drop_eq_getElem_cons hlt]; unfold fil; rw [List.filter_cons_of_pos (by simpa using h)]
  have e5 : ls[a] = y := by rw [e4, e3] at e1; exact (List.cons.inj e1).1
  refine ⟨e5, ?_⟩
  rw [← take_snoc' hx, ← take_snoc' hy, fil_app, fil_app, ha, e5]

/-! ### Rows of frames -/
def Ltr.f (x : Ltr) : List Value := [.int .i64 x.id, .bool x.r, .int .i64 x.n, .int .u8 (x.d 0), .int .u8 (x.d 1), .int .u8 (x.d 2), .int .u8 (x.d 3), .int .u8 (x.d 4), .int .u8 (x.d 5), .int .u8 (x.d 6), .int .u8 (x.d 7)]
def flatF (T : List Ltr) : List Value := T.flatMap Ltr.f
theorem flatF_snoc (T : List Ltr) (x : Ltr) : flatF (T ++ [x]) = flatF T ++ x.f := by simp [flatF]
theorem flatF_len : ∀ T : List Ltr, (flatF T).length = T.length * 11
  | [] => rfl
  | x :: T => by
    have e : flatF (x :: T) = x.f ++ flatF T := rfl
    rw [e, List.length_append, flatF_len T]; simp [Ltr.f]; omega
theorem flatF_at : ∀ (T : List Ltr) (i k : Nat) (x : Ltr), T[i]? = some x → k < 11 → (flatF T)[i * 11 + k]? = x.f[k]?
  | [], i, k, x, h, _ => by simp at h
  | y :: T, 0, k, x, h, hk => by
    simp only [List.getElem?_cons_zero, Option.some.injEq] at h
    subst h
    have e : flatF (y :: T) = y.f ++ flatF T := rfl
    rw [e, List.getElem?_append_left (by simp [Ltr.f]; omega), Nat.zero_mul, Nat.zero_add]
  | y :: T, i + 1, k, x, h, hk => by
    simp only [List.getElem?_cons_succ] at h
    have e : flatF (y :: T) = y.f ++ flatF T := rfl
    rw [e, List.getElem?_append_right (by simp [Ltr.f]; omega), show (i + 1) * 11 + k - y.f.length = i * 11 + k by simp [Ltr.f]; omega, flatF_at T i k x h hk]
def Ltr.none_ : Ltr := ⟨0, false, 0, fun _ => 0, false⟩
theorem Frs.of_own {w : World} {base n : Nat} {v : Value} {T : List Ltr} (h : w.ownsRow base 30 11 v n (flatF T)) :
    ∃ A c, v = .slice A n c ∧ n = T.length ∧ Frs w w.heap.size A n c (fun i => T.getD i Ltr.none_) := by
  have hl : n = T.length := by have := h.1; rw [flatF_len] at this; omega
  rcases h.2 with ⟨rfl, h0⟩ | ⟨g, cap, cur, rfl, hb, hg, hnc, hm, hs, ht⟩
  · subst h0
    exact ⟨none, 0, rfl, hl, Nat.le_refl _, by simp [maxLen], fun h => absurd h (Nat.lt_irrefl _)⟩
  · refine ⟨_, _, rfl, hl, hnc, hm, fun _ => ⟨g, 0, rfl, (Array.getElem?_eq_some_iff.1 hg).1, fun i hi => ?_⟩⟩
    have hx : T[i]? = some (T.getD i Ltr.none_) := by rw [List.getD_eq_getElem?_getD, List.getElem?_eq_getElem (by omega)]; rfl
    have hc : ∀ k, k < 11 → w.cell? ⟨g, 0 + i * 11 + k, none⟩ = (T.getD i Ltr.none_).f[k]? := fun k hk => by rw [Nat.zero_add, own_cell h (by omega), flatF_at T i k _ hx hk]
    exact ⟨hc 0 (by omega), hc 1 (by omega), hc 2 (by omega), hc 3 (by omega), hc 4 (by omega), hc 5 (by omega), hc 6 (by omega), hc 7 (by omega), hc 8 (by omega), hc 9 (by omega), hc 10 (by omega)⟩
theorem info_fr : (Try.prog.info? 30).map (fun i => (i.zero, i.size, i.bytes)) = some (some (.agg #[.int .i64 0, .bool false, .int .i64 0, .int .u8 0, .int .u8 0, .int .u8 0, .int .u8 0, .int .u8 0, .int .u8 0, .int .u8 0, .int .u8 0]), 11, 32) := by kernel_rfl
/-- One element is appended to a row of the call's own. -/
theorem wpList_elem {P : Program} {wr : World} {ops : Array Oper} {rest : List Oper} {o : Oper} {a : Act} {Q : Exit → Act → World → Prop} {base t e n s by_ : Nat} {z : Value} {xs news : List Value} {v : Value} (hgd : o.guard = none) (p x : Operand)
    (ho : o.op = .call { callee := .builtin .append, args := #[p, x], argTypes := #[t, t] }) (ht : P.underlying t = some (.slice e))
    (hinfo : (P.info? e).map (fun i => (i.zero, i.size, i.bytes)) = some (some z, s, by_)) (hzs : z.cells.size = s) (hs0 : 0 < s) (hby : by_ ≤ 1000) (hs : a.eval p = v) (hown : wr.ownsRow base e s v n xs)
    {H : Nat} (hx : a.eval x = .slice (some ⟨H, 0, none⟩) 1 1) (hH : wr.heap.size = H) (hl : news.length = s) (h1 : ∀ u ∈ news, u.oneCell' = true) (hn : n ≤ 1000000) (hb : base ≤ wr.heap.size)
    (h : ∀ v' w', w'.ownsRow base e s v' (n + 1) (xs ++ news) → wr.grownBy w' v.ownBlock → (v'.ownBlock = v.ownBlock ∨ v'.ownBlock = some (wr.heap.size + 1)) → wpList P ops Q rest (a.put o.dst v') w') :
    wpList P ops Q (o :: rest) a (wr.alloc (.cells news.toArray e)) := by
  subst hH
  obtain ⟨i0, hi, hz0, hz1, hz2⟩ := info_parts hinfo
  refine wpList_append_own_at _ hgd p x t ho base e i0 z s by_ ht hi hz0 hz1 hz2 hzs hs0 v n xs hs (hown.alloc _) ⟨wr.heap.size, 0, none⟩ 1 1 news hx (by omega) ?_ h1 (by simp only [maxLen]; omega) (Nat.le_trans (Nat.mul_le_mul (show n + 1 ≤ 1000001 by omega) hby) (by omega)) (by simp; omega) ?_
  · intro j u hu
    rw [add_plainR, Nat.zero_add, cell_of_row _ _ _ _ e (0, 0) (heap_alloc_new wr _)]
    simpa using hu
  · intro v' w' h1 h2 _ h4
    have hg := World.grownBy_alloc wr (.cells news.toArray e) v.ownBlock
    exact h v' w' h1 (grown_trans hg h2) (by simpa using h4)
/-- A row of frames is as it was behind what a mailbox does. -/
theorem own_kept {w w' : World} {base g n : Nat} {v : Value} {xs : List Value} (h : w.ownsRow base 30 11 v n xs) (hk : Kept w w' g) (hne : v.ownBlock ≠ some g) : w'.ownsRow base 30 11 v n xs := by
  refine ⟨h.1, ?_⟩
  rcases h.2 with hn | ⟨b, cap, cur, rfl, hb, hgg, rest⟩
  · exact .inl hn
  · exact .inr ⟨b, cap, cur, rfl, hb, (hk.2 b _ _ _ hgg (by decide) (fun e => hne (by rw [e]; rfl))).trans hgg, rest⟩
/-- A mailbox is as it was where a row of frames has grown. -/
theorem BoxAt.grown {w0 w w' : World} {g base n : Nat} {ls : List Ltr} {lost : Int} {u : Value} {xs : List Value} (h : BoxAt w0 g ls lost w) (hr : w.ownsRow base 30 11 u n xs) (hbase : w0.heap.size ≤ base) (hg : w.grownBy w' u.ownBlock) : BoxAt w0 g ls lost w' := by
  obtain ⟨⟨v, hv⟩, h1, h2, h3⟩ := h
  have hty : ∀ k, u.ownBlock = some k → ∃ cs, w.heap[k]? = some (.cells cs 30 (0, 0)) := fun k hk => by
    rcases hr.2 with ⟨rfl, _⟩ | ⟨b, cap, cur, rfl, hb, hgg, _⟩
    · cases hk
    · cases hk; exact ⟨_, hgg⟩
  refine ⟨⟨v, hv.keep hg (fun e => ?_) (fun k hk e => ?_)⟩, h1, h2.grown hg h2.size (fun k hk => by have := (hr.lt k hk).1; omega), h3⟩
  · obtain ⟨cs, hc⟩ := hty g e
    rw [hv.box] at hc; cases hc
  · obtain ⟨cs, hc⟩ := hty k hk
    rcases hv.row.2 with ⟨rfl, _⟩ | ⟨b, cap, cur, rfl, _, hb, _⟩
    · cases e
    · cases e; rw [hb] at hc; cases hc
end Go.Proofs.Ytgnfohncgfgecaa
