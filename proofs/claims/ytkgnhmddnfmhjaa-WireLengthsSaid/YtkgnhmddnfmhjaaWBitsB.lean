/- What the counter of equal bits does, and what the two Stuffs answer. -/
import Derived.Test.YtkgnhmddnfmhjaaWBitsA
namespace Go.Proofs.Ytkgnhmddnfmhjaa
open Go.RowKit
/-- Block g is one struct 'tail': a bit, and how often. -/
def TailAt (w : World) (g : Nat) (b : Int) (n : Nat) : Prop := w.heap[g]? = some (.cells #[.int .u8 b, .int .i64 n] 50 (0, 0))
theorem TailAt.lt {w : World} {g n : Nat} {b : Int} (h : TailAt w g b n) : g < w.heap.size := (Array.getElem?_eq_some_iff.1 h).1
theorem TailAt.c0 {w : World} {g n : Nat} {b : Int} (h : TailAt w g b n) : w.cell? ⟨g, 0, none⟩ = some (.int .u8 b) := by rw [cell_of_row _ _ _ _ _ _ h]; rfl
theorem TailAt.c1 {w : World} {g n : Nat} {b : Int} (h : TailAt w g b n) : w.cell? ⟨g, 1, none⟩ = some (.int .i64 n) := by rw [cell_of_row _ _ _ _ _ _ h]; rfl
theorem TailAt.f {w : World} {g n : Nat} {b : Int} (h : TailAt w g b n) (i : Nat) : w.frozen? ⟨g, i, none⟩ = false := frozen_of_row _ _ _ _ _ h
theorem TailAt.grown {w w' : World} {g n : Nat} {b : Int} {row : Option Nat} (h : TailAt w g b n) (hg : w.grownBy w' row) (hne : some g ≠ row) : TailAt w' g b n := (hg.block g h.lt hne).trans h
theorem TailAt.set1 {w : World} {g n m : Nat} {b : Int} (h : TailAt w g b n) : TailAt (w.setCell ⟨g, 1, none⟩ (.int .i64 m)) g b m := by
  unfold TailAt at h ⊢
  simp [World.setCell, Array.getElem?_modify, h]
theorem TailAt.set0 {w : World} {g n : Nat} {b a : Int} (h : TailAt w g b n) : TailAt (w.setCell ⟨g, 0, none⟩ (.int .u8 a)) g a n := by
  unfold TailAt at h ⊢
  simp [World.setCell, Array.getElem?_modify, h]
theorem grown_set (w : World) (g i : Nat) (u : Value) : w.grownBy (w.setCell ⟨g, i, none⟩ u) (some g) :=
  ⟨rfl, rfl, rfl, by simp [World.setCell], fun k _ hne => Below.heap_setCell _ _ _ _ (fun e => hne (by rw [e]))⟩
theorem grown_trans {a b c : World} {row : Option Nat} (h : a.grownBy b row) (k : b.grownBy c row) : a.grownBy c row :=
  ⟨k.os.trans h.os, k.tape.trans h.tape, k.output.trans h.output, Nat.le_trans h.size k.size, fun i hi hne => (k.block i (Nat.lt_of_lt_of_le hi h.size) hne).trans (h.block i hi hne)⟩

/-- How often the bit stands there behind one more. -/
def nx (b : Int) (n : Nat) (x : Int) : Nat := if x = b then n + 1 else 1
def AddPost (W : World) (g : Nat) (b : Int) (n : Nat) (x : Int) (e : Ending) (w' : World) : Prop := e = .returned (.bool (decide (nx b n x = 5))) ∧ TailAt w' g x (nx b n x) ∧ W.grownBy w' (some g)

theorem add_any (w : World) (g : Nat) (b : Int) (n : Nat) (x : Int) (h : TailAt w g b n) (hn : n ≤ 5) : Calls Try.prog 25 #[.pointer (some ⟨g, 0, none⟩), .int .u8 x] w (AddPost w g b n x) := by
  have c0 := h.c0
  have c1 := h.c1
  have f0 := h.f 0
  have f1 := h.f 1
  by_cases hx : x = b
  · have hnx : nx b n x = n + 1 := by simp [nx, hx]
    subst hx
    have HX := Lib.hid hnx
    clear hnx
    have hb : (x != x) = false := by simp
    have HH := Lib.hid h
    clear h
    go_enter Try.func25, Try.ntmps25
    go_wp2
    go_ret
    refine ⟨ret_bool ?_, ?_, grown_set _ _ _ _⟩
    · rw [HX.out, Bool.eq_iff_iff]; simp; omega
    · rw [HX.out]; exact HH.out.set1
  · have hnx : nx b n x = 1 := by simp [nx, hx]
    have hb : (x != b) = true := by simp [hx]
    have hb2 : (x == b) = false := by simp [hx]
    have HX := Lib.hid hnx
    have HH := Lib.hid h
    have h3 : (((w.setCell ⟨g, 0, none⟩ (.int .u8 x)).setCell ⟨g, 1, none⟩ (.int .i64 0)).setCell ⟨g, 1, none⟩ (.int .i64 1)).cell? ⟨g, 1, none⟩ = some (.int .i64 1) := ((h.set0 (a := x)).set1 (m := 0)).set1 (m := 1) |>.c1
    clear hnx h hx
    go_enter Try.func25, Try.ntmps25
    go_wp2
    go_ret
    refine ⟨ret_bool ?_, ?_, ?_⟩
    · rw [HX.out]; rfl
    · rw [HX.out]; exact (HH.out.set0.set1 (m := 0)).set1 (m := 1)
    · exact grown_trans (grown_trans (grown_set _ _ _ _) (grown_set _ _ _ _)) (grown_set _ _ _ _)

/-- The counter stands at the end of what has been put so far. -/
def St (out : List Int) (b : Int) (n : Nat) : Prop := (out = [] ∧ b = 0 ∧ n = 0) ∨ (¬ out = [] ∧ b = lastB out ∧ n = tailN out)
theorem St.nil : St [] 0 0 := .inl ⟨rfl, rfl, rfl⟩
theorem St.le {out : List Int} {b : Int} {n : Nat} (h : St out b n) : n = tailN out := by
  rcases h with ⟨rfl, _, rfl⟩ | ⟨_, _, h⟩
  · rfl
  · exact h
theorem St.step {out : List Int} {b : Int} {n : Nat} (h : St out b n) (x : Int) : nx b n x = tailN (out ++ [x]) ∧ St (out ++ [x]) x (nx b n x) := by
  have e : nx b n x = tailN (out ++ [x]) := by
    rw [tailN_snoc]
    unfold nx
    rcases h with ⟨rfl, rfl, rfl⟩ | ⟨h1, rfl, rfl⟩
    · rw [if_pos rfl]; split <;> rfl
    · rw [if_neg h1]
      by_cases hxb : x = lastB out
      · rw [if_pos hxb, if_pos hxb.symm]
      · rw [if_neg hxb, if_neg (fun e => hxb e.symm)]
  exact ⟨e, .inr ⟨by simp, (lastB_snoc _ _).symm, e⟩⟩

/-- One byte more in a row of the call's own that has room. -/
theorem wpList_fits {P : Program} {wr : World} {ops : Array Oper} {rest : List Oper} {o : Oper} {a : Act} {Q : Exit → Act → World → Prop} {base t e k cap g : Nat} {q : Int} {l : List Int} (hgd : o.guard = none) (s x : Operand)
    (ho : o.op = .call { callee := .builtin .append, args := #[s, x], argTypes := #[t, t] }) (ht : P.underlying t = some (.slice e))
    (hinfo : (P.info? e).map (fun i => (i.zero, i.size, i.bytes)) = some (some (.int .u8 0), 1, 1)) (hs : a.eval s = .slice (some ⟨g, 0, none⟩) k cap) (hown : wr.ownsRow base e 1 (.slice (some ⟨g, 0, none⟩) k cap) k (l.map (Value.int .u8)))
    (hx : a.eval x = .slice (some ⟨wr.heap.size, 0, none⟩) 1 1) (hn : k + 1 ≤ cap)
    (h : ∀ w', w'.ownsRow base e 1 (.slice (some ⟨g, 0, none⟩) (k + 1) cap) (k + 1) ((l ++ [q]).map (Value.int .u8)) → wr.grownBy w' (some g) → wpList P ops Q rest (a.put o.dst (.slice (some ⟨g, 0, none⟩) (k + 1) cap)) w') :
    wpList P ops Q (o :: rest) a (wr.alloc (.cells #[.int .u8 q] e)) := by
  obtain ⟨i0, hi, hz0, hz1, hz2⟩ := info_parts hinfo
  refine wpList_append_fits _ hgd s x t ho base e i0 1 ht hi hz1 g k cap (l.map (Value.int .u8)) hs (hown.alloc _) ⟨wr.heap.size, 0, none⟩ 1 1 [.int .u8 q] hx rfl ?_ (by simp [Value.oneCell']) hn ?_
  · intro j u hu
    have : j = 0 := by
      rcases Nat.eq_zero_or_pos j with h0 | h0
      · exact h0
      · rw [List.getElem?_eq_none (by simp; omega)] at hu; cases hu
    subst this
    simp only [List.getElem?_cons_zero, Option.some.injEq] at hu
    subst hu
    show (wr.alloc _).cell? ⟨wr.heap.size, 0, none⟩ = _
    rw [cell_of_row _ _ _ _ e (0, 0) (heap_alloc_new wr _)]; rfl
  · intro w' h1 h2
    exact h w' (by simpa using h1) (grown_trans (World.grownBy_alloc wr _ _) h2)

theorem make_cap (n : Nat) (hn : n ≤ 281474976710656) (w : World) : (Instr.makeSlice 25 (.int .i64 0) (.int .i64 (n : Int))).run Try.prog w = .ok (.slice (some ⟨w.heap.size, 0, none⟩) 0 n) (w.alloc (.cells (madeCells #[.int .u8 0] n) 5)) := by
  obtain ⟨i0, hi, hz0, hz1, hz2⟩ := info_parts byte_info
  have hr := run_make (P := Try.prog) w 25 5 i0 (.int .u8 0) Try.underlying25 hi hz0 .i64 .i64 0 n (by omega) (by omega) (by rw [hz2]; omega) (by omega)
  have hc : (Value.int .u8 0).cells = #[Value.int .u8 0] := rfl
  rw [hz1, hc] at hr
  simpa using hr

theorem stuff_any (w : World) (A : Option Addr) (n c : Nat) (l : List Int) (h : Byt w w.heap.size A n c l) (hn : n ≤ 140737488351232) :
    Calls Try.prog 17 #[.slice A n c] w fun e w' => ∃ A' c', e = .returned (.slice A' (stuffL l).length c') ∧ Byt w' w'.heap.size A' (stuffL l).length c' (stuffL l) ∧ Below w.heap.size w w' := by
  obtain ⟨cap, hcap, hcap2, hmk⟩ : ∃ cap : Nat, cap ≤ 281474976710656 ∧ 5 * n ≤ 4 * cap + 3 ∧ ∀ w : World, (Instr.makeSlice 25 (.int .i64 0) (.int .i64 ((n : Int) + (n : Int) / 4))).run Try.prog w = .ok (.slice (some ⟨w.heap.size, 0, none⟩) 0 cap) (w.alloc (.cells (madeCells #[.int .u8 0] cap) 5)) :=
    ⟨n + n / 4, by omega, by omega, fun w => by rw [show ((n : Int) + (n : Int) / 4) = ((n + n / 4 : Nat) : Int) by omega]; exact make_cap _ (by omega) w⟩
  go_enter Try.func17, Try.ntmps17
  go_wp2_with fail
  go_loopw [17, 3] (fun i v wr => ∃ (j : Nat) (out : List Int) (b : Int) (t : Nat), j ≤ n ∧ i = .int .i64 j ∧ v = .slice (some ⟨w.heap.size, 0, none⟩) out.length cap ∧ Hid (out = stuffL (l.take j)) ∧
    wr.ownsRow w.heap.size 5 1 (.slice (some ⟨w.heap.size, 0, none⟩) out.length cap) out.length (out.map (Value.int .u8)) ∧ St out b t ∧ TailAt wr (w.heap.size + 1) b t ∧ Below w.heap.size w wr) (fun i _ _ => n - (intOf i).toNat)
  case atStart =>
    refine ⟨0, [], 0, 0, Nat.zero_le _, rfl, rfl, rfl, ?_, St.nil, ?_, ((Below.refl _ _).alloc (Nat.le_refl _) _).alloc (by simp) _⟩
    · exact (World.ownsRow_made w _ cap (Nat.le_refl _) (by simp only [maxLen]; omega) (by rw [size_madeCells]; omega)).alloc _
    · show ((w.alloc _).alloc _).heap[w.heap.size + 1]? = _
      have := heap_alloc_new (w.alloc (.cells (madeCells #[.int .u8 0] cap) 5)) (.cells #[.int .u8 0, .int .i64 0] 50)
      simpa using this
  case round =>
    obtain ⟨j, out, b0, t, hj, rfl, rfl, hout, hown, hSt, hT, hbel⟩ := hrel
    by_cases hlt : j < n
    · obtain ⟨b, off, rfl, hb, hc⟩ := h.cells (by omega)
      have hrange := h.range j
      have hcj := hc j hlt
      have hget : l.take (j + 1) = l.take j ++ [l.getD j 0] := take_succ_getD (by rw [h.len]; exact hlt)
      generalize l.getD j 0 = q at hrange hcj hget
      have hcell : wr.cell? ⟨b, off + j, none⟩ = some (.int .u8 q) := (hbel.cell (p := ⟨b, off + j, none⟩) hb).trans hcj
      have hstep : stuffL (l.take (j + 1)) = stuffStep out q := by rw [hget, stuffL_snoc, ← hout.out]
      have hsz := stuff_size (l.take j)
      have hsz2 := stuff_size (l.take (j + 1))
      have hln : (l.take j).length = j := by rw [List.length_take, h.len]; omega
      have hln2 : (l.take (j + 1)).length = j + 1 := by rw [List.length_take, h.len]; omega
      rw [hln, ← hout.out] at hsz
      rw [hln2, hstep] at hsz2
      have htt := hSt.le
      have hs1 := hSt.step (q % 2)
      have ht5 : t ≤ 5 := by omega
      have hroom : out.length + 1 ≤ cap := by
        have : out.length + 1 ≤ (stuffStep out q).length := by unfold stuffStep; split <;> simp
        omega
      have HST := Lib.hid hstep
      have HC := Lib.hid hc
      have HH := Lib.hid h
      have HSt := Lib.hid hSt
      have HS1 := Lib.hid hs1
      have HT := Lib.hid hT
      have HTT := Lib.hid htt
      have HGET := Lib.hid hget
      obtain ⟨hq0, hq1⟩ := hrange
      by_cases h5 : nx b0 t (q % 2) = 5
      · have hroom2 : out.length + 1 + 1 ≤ cap := by
          have : (stuffStep out q).length = out.length + 1 + 1 := by unfold stuffStep; rw [if_pos (by rw [← hs1.1]; exact h5)]; simp
          omega
        have H5 := Lib.hid h5
        clear hcj hget hc h hstep hsz hsz2 hln hln2 hSt hs1 hT htt h5
        go_wp2_with (first | (go_at_call 24; refine (low_any _ _ (by omega) (by omega)).mono ?_; rintro e w1 ⟨rfl, rfl⟩) | (at_builtin; refine wpList_fits rfl (.tmp 23) (.tmp 25) rfl Try.underlying25 byte_info rfl hown rfl hroom ?_; intro w1 hown1 hg1))
        have hT1 := HT.out.grown hg1 (by simp)
        refine (add_any _ _ b0 t _ hT1 ht5).mono ?_
        rintro e w2 ⟨he, hT2, hg2⟩
        rw [decide_eq_true H5.out] at he
        subst he
        have hown2 := hown1.kept hg2 (.inr (by simp [Value.ownBlock]))
        have hbel2 := (hbel.grown hg1 hbel.size (fun k hk => by cases hk; omega)).grown hg2 (Nat.le_trans hbel.size hg1.size) (fun k hk => by cases hk; omega)
        go_wp2_with (at_builtin; refine wpList_fits rfl (.tmp 29) (.tmp 32) rfl Try.underlying25 byte_info rfl hown2 rfl hroom2 ?_; intro w3 hown3 hg3)
        have hT3 := hT2.grown hg3 (by simp)
        refine (add_any _ _ (q % 2) (nx b0 t (q % 2)) _ hT3 (by rw [H5.out]; omega)).mono ?_
        rintro e w4 ⟨rfl, hT4, hg4⟩
        have hown4 := hown3.kept hg4 (.inr (by simp [Value.ownBlock]))
        have hbel4 := (hbel2.grown hg3 hbel2.size (fun k hk => by cases hk; omega)).grown hg4 (Nat.le_trans hbel2.size hg3.size) (fun k hk => by cases hk; omega)
        go_wp2
        go_roundw
        case rel =>
          have e1 : stuffStep out q = out ++ [q % 2] ++ [1 - q % 2] := by unfold stuffStep; rw [if_pos (by rw [← HS1.out.1]; exact H5.out)]
          have e2 : (stuffStep out q).length = out.length + 1 + 1 := by rw [e1]; simp
          refine ⟨j + 1, stuffStep out q, _, _, by omega, by go_num, by rw [e2], HST.out.symm, by rw [e2, e1]; exact hown4, ?_, hT4, hbel4⟩
          rw [e1]
          exact (HS1.out.2.step _).2
        case measure => simp [intOf]; omega
      · have H5 := Lib.hid h5
        clear hcj hget hc h hstep hsz hsz2 hln hln2 hSt hs1 hT htt h5
        go_wp2_with (first | (go_at_call 24; refine (low_any _ _ (by omega) (by omega)).mono ?_; rintro e w1 ⟨rfl, rfl⟩) | (at_builtin; refine wpList_fits rfl (.tmp 23) (.tmp 25) rfl Try.underlying25 byte_info rfl hown rfl hroom ?_; intro w1 hown1 hg1))
        have hT1 := HT.out.grown hg1 (by simp)
        refine (add_any _ _ b0 t _ hT1 ht5).mono ?_
        rintro e w2 ⟨he, hT2, hg2⟩
        rw [decide_eq_false H5.out] at he
        subst he
        have hown2 := hown1.kept hg2 (.inr (by simp [Value.ownBlock]))
        have hbel2 := (hbel.grown hg1 hbel.size (fun k hk => by cases hk; omega)).grown hg2 (Nat.le_trans hbel.size hg1.size) (fun k hk => by cases hk; omega)
        go_wp2
        go_roundw
        case rel =>
          have e1 : stuffStep out q = out ++ [q % 2] := by unfold stuffStep; rw [if_neg (by rw [← HS1.out.1]; exact H5.out)]
          have e2 : (stuffStep out q).length = out.length + 1 := by rw [e1]; simp
          refine ⟨j + 1, stuffStep out q, _, _, by omega, by go_num, by rw [e2], HST.out.symm, by rw [e2, e1]; exact hown2, ?_, hT2, hbel2⟩
          rw [e1]
          exact HS1.out.2
        case measure => simp [intOf]; omega
    · obtain rfl : j = n := by omega
      have hl := h.len
      have e := hout.out
      rw [List.take_of_length_le (by omega)] at e
      subst e
      clear hl hcap2 hSt hout
      go_wp2
      go_ret
      obtain ⟨A', c', hv, hB, _⟩ := Byt.of_own hown (stuff_range l)
      cases hv
      exact ⟨_, _, rfl, hB, hbel⟩
end Go.Proofs.Ytkgnhmddnfmhjaa