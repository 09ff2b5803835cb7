/- What a Writer's functions do. -/
import Derived.Test.YtoamgdcjmkkmfaaKWordI
import Derived.Maps.AppendAt
namespace Go.Proofs.Ytoamgdcjmkkmfaa
open Go.RowKit
set_option linter.unusedSimpArgs false
set_option linter.unusedVariables false
/-- A Writer in block g: its first error, and its bytes. -/
def WrAt (w : World) (g : Nat) (er : Int) (V : Value) : Prop := w.heap[g]? = some (.cells #[.int .i64 er, V] 77 (0, 0))
section
variable {w w' : World} {g : Nat} {er : Int} {V : Value}
theorem WrAt.lt (h : WrAt w g er V) : g < w.heap.size := (Array.getElem?_eq_some_iff.1 h).1
theorem WrAt.c0 (h : WrAt w g er V) : w.cell? ⟨g, 0, none⟩ = some (.int .i64 er) := by rw [cell_of_row _ _ _ _ _ _ h]; rfl
theorem WrAt.c1 (h : WrAt w g er V) : w.cell? ⟨g, 1, none⟩ = some V := by rw [cell_of_row _ _ _ _ _ _ h]; rfl
theorem WrAt.f (h : WrAt w g er V) (i : Nat) : w.frozen? ⟨g, i, none⟩ = false := frozen_of_row _ _ _ _ _ h
theorem WrAt.below {B : Nat} (h : WrAt w g er V) (hb : Below B w w') (hg : g < B) : WrAt w' g er V := (hb.block g hg).trans h
theorem WrAt.set0 {x : Int} (h : WrAt w g er V) : WrAt (w.setCell ⟨g, 0, none⟩ (.int .i64 x)) g x V := by
  unfold WrAt at h ⊢
  simp [World.setCell, Array.getElem?_modify, h]
end
theorem fails_wr (w : World) (g : Nat) (er x : Int) (V : Value) (h : WrAt w g er V) :
    Calls Try.prog 31 #[.pointer (some ⟨g, 0, none⟩), .int .i64 x] w fun e w' => e = .returned (.bool (decide (¬ fe er x = 0))) ∧ WrAt w' g (fe er x) V ∧ w.grownBy w' (some g) := by
  have c0 := h.c0
  have f0 := h.f 0
  by_cases h0 : er = 0
  · have e1 : fe er x = x := by unfold fe; rw [if_pos h0]
    subst h0
    have hs := h.set0 (x := x)
    have cs := hs.c0
    rw [e1]
    have HS := Lib.hid hs
    clear h hs e1
    go_enter Try.func31, Try.ntmps31
    go_wp2
    go_ret
    refine ⟨ret_bool ?_, HS.out, grown_set _ _ _ _⟩
    rw [Bool.eq_iff_iff]; simp
  · have e1 : fe er x = er := by unfold fe; rw [if_neg h0]
    have hd : (er == 0) = false := by simp [h0]
    have hd2 : (er != 0) = true := by simp [h0]
    rw [e1]
    have H0 := Lib.hid h0
    have HH := Lib.hid h
    clear e1 h0 h
    go_enter Try.func31, Try.ntmps31
    go_wp2
    go_ret
    exact ⟨ret_bool (decide_eq_true H0.out).symm, HH.out, World.grownBy.refl _ _⟩

theorem werr_any (w : World) (g : Nat) (er : Int) (V : Value) (h : WrAt w g er V) : Calls Try.prog 40 #[.pointer (some ⟨g, 0, none⟩)] w fun e w' => e = .returned (.int .i64 er) ∧ w = w' := by
  have c0 := h.c0
  clear h
  go_enter Try.func40, Try.ntmps40
  go_wp2_with fail
  refine (told_any _ _ _ c0).mono ?_
  rintro e w1 ⟨rfl, rfl⟩
  go_wp2
  go_ret
  exact ⟨rfl, rfl⟩
theorem werr_nil (w : World) : Calls Try.prog 40 #[.pointer none] w fun e w' => e = .returned (.int .i64 1) ∧ Below w.heap.size w w' := by
  go_enter Try.func40, Try.ntmps40
  go_wp2_with fail
  go_ret
  exact ⟨rfl, Below.refl _ _⟩
theorem wbytes_nil (w : World) : Calls Try.prog 39 #[.pointer none] w fun e w' => e = .returned (.slice none 0 0) ∧ Below w.heap.size w w' := by
  go_enter Try.func39, Try.ntmps39
  go_wp2_with fail
  go_ret
  exact ⟨rfl, Below.refl _ _⟩
theorem wbytes_any (w : World) (g : Nat) (er : Int) (A : Option Addr) (n c : Nat) (l : List Int) (h : WrAt w g er (.slice A n c)) (hB : Byt w w.heap.size A n c l) (hn : n ≤ 140737488351232) :
    Calls Try.prog 39 #[.pointer (some ⟨g, 0, none⟩)] w fun e w' => ∃ A' c', e = .returned (.slice A' n c') ∧ Byt w' w'.heap.size A' n c' l ∧ Below w.heap.size w w' := by
  have c1 := h.c1
  clear h
  go_enter Try.func39, Try.ntmps39
  go_wp2_with fail
  refine (clone_any _ _ _ _ _ hB hn).mono ?_
  rintro e w1 ⟨A1, c1', rfl, hB1, hb1, _⟩
  go_wp2
  go_ret
  exact ⟨_, _, rfl, hB1, hb1⟩
theorem wraw_nil (A : Option Addr) (n c : Nat) (w : World) : Calls Try.prog 48 #[.pointer none, .slice A n c] w fun e w' => (∃ v, e = .returned v) ∧ Below w.heap.size w w' := by
  go_enter Try.func48, Try.ntmps48
  go_wp2_with fail
  go_returns
  exact ⟨⟨_, rfl⟩, Below.refl _ _⟩
theorem wraw_bad (w : World) (g : Nat) (er : Int) (V : Value) (A : Option Addr) (n c : Nat) (h : WrAt w g er V) (he : ¬ er = 0) :
    Calls Try.prog 48 #[.pointer (some ⟨g, 0, none⟩), .slice A n c] w fun e w' => (∃ v, e = .returned v) ∧ WrAt w' g er V ∧ w.grownBy w' (some g) := by
  have hf := fails_wr w g er 0 V h
  have e1 : fe er 0 = er := by unfold fe; rw [if_neg he]
  rw [e1, decide_eq_true he] at hf
  have HF := Lib.hid hf
  clear hf e1 he h
  go_enter Try.func48, Try.ntmps48
  go_wp2_with fail
  refine HF.out.mono ?_
  rintro e w2 ⟨rfl, h2, hg2⟩
  have H2 := Lib.hid h2
  clear h2
  go_wp2
  go_returns
  exact ⟨⟨_, rfl⟩, H2.out, hg2⟩

theorem WrAt.set1 {w : World} {g : Nat} {er : Int} {V V2 : Value} (h : WrAt w g er V) : WrAt (w.setCell ⟨g, 1, none⟩ V2) g er V2 := by
  unfold WrAt at h ⊢
  simp [World.setCell, Array.getElem?_modify, h]
/-- Bytes do not lie in the Writer's block: what is written there leaves them. -/
theorem Byt.apart {w w' : World} {g n c vn vc : Nat} {er : Int} {A VA : Option Addr} {l : List Int} (h : Byt w w.heap.size A n c l) (k : WrAt w g er (.slice VA vn vc)) (hg : w.grownBy w' (some g)) : Byt w' w'.heap.size A n c l :=
  ⟨h.len, h.cap, h.max, h.rng, fun h0 => by
    obtain ⟨b, off, e, hb, hc⟩ := h.cells h0
    have hne : b ≠ g := by
      rintro rfl
      have h1 := hc 0 h0
      rw [Nat.add_zero, cell_of_row _ _ _ _ _ _ k] at h1
      match off, h1 with
      | 0, h1 => simp at h1
      | 1, h1 => simp at h1
      | o + 2, h1 => simp at h1
    exact ⟨b, off, e, Nat.lt_of_lt_of_le hb hg.size, fun j hj => (World.cell?_of_block (a := ⟨b, off + j, none⟩) (hg.block b hb (fun e => hne (by injection e)))).trans (hc j hj)⟩⟩
/-- The Writer has put l, in a row of its own. -/
def WrOwn (w : World) (g : Nat) (er : Int) (l : List Int) : Prop := ∃ A c, WrAt w g er (.slice A l.length c) ∧ w.ownsRow (g + 1) 5 1 (.slice A l.length c) l.length (l.map (Value.int .u8)) ∧ ∀ x ∈ l, 0 ≤ x ∧ x ≤ 255
theorem own_grown {w w' : World} {g n : Nat} {v : Value} {xs : List Value} (h : w.ownsRow (g + 1) 5 1 v n xs) (hg : w.grownBy w' (some g)) : w'.ownsRow (g + 1) 5 1 v n xs :=
  h.kept hg (by
    rcases h.2 with ⟨rfl, _⟩ | ⟨k, cap, cur, rfl, hk, _⟩
    · exact .inl rfl
    · exact .inr (by simp [Value.ownBlock]; omega))
theorem own_low {w w' : World} {g n : Nat} {v : Value} {xs : List Value} (h : w.ownsRow (g + 1) 5 1 v n xs) (hb : Below w.heap.size w w') : w'.ownsRow (g + 1) 5 1 v n xs :=
  h.kept (row := none) ⟨hb.os, hb.tape, hb.output, hb.size, fun i hi _ => hb.block i hi⟩ (by
    rcases h.2 with ⟨rfl, _⟩ | ⟨k, cap, cur, rfl, _⟩
    · exact .inl rfl
    · exact .inr (by simp [Value.ownBlock]))
theorem WrOwn.low {w w' : World} {g : Nat} {er : Int} {l : List Int} (h : WrOwn w g er l) (hb : Below w.heap.size w w') : WrOwn w' g er l := by
  obtain ⟨A, c, h1, h2, h3⟩ := h
  exact ⟨A, c, h1.below hb h1.lt, own_low h2 hb, h3⟩
def WStep (W : World) (g : Nat) (er : Int) (l : List Int) (e : Ending) (w' : World) : Prop := (∃ v, e = .returned v) ∧ WrOwn w' g er l ∧ Below g W w'

theorem wraw_no (w : World) (g : Nat) (er : Int) (l : List Int) (A : Option Addr) (n c : Nat) (h : WrOwn w g er l) (he : ¬ er = 0) : Calls Try.prog 48 #[.pointer (some ⟨g, 0, none⟩), .slice A n c] w (WStep w g er l) := by
  obtain ⟨VA, vc, h1, h2, h3⟩ := h
  refine (wraw_bad w g er _ A n c h1 he).mono fun e w' ⟨hv, h4, h5⟩ => ⟨hv, ⟨VA, vc, h4, own_grown h2 h5, h3⟩, ?_⟩
  exact (Below.refl g w).grown h5 (Nat.le_of_lt h1.lt) (fun k hk => by cases hk; exact Nat.le_refl _)

theorem wraw_ok (w : World) (g : Nat) (l x : List Int) (A : Option Addr) (n c : Nat) (h : WrOwn w g 0 l) (hx : Byt w w.heap.size A n c x) (hn : l.length + n ≤ 1000000) :
    Calls Try.prog 48 #[.pointer (some ⟨g, 0, none⟩), .slice A n c] w (WStep w g 0 (l ++ x)) := by
  obtain ⟨VA, vc, h1, h2, h3⟩ := h
  have hl := h1.lt
  have hlx := hx.len
  have hr : ∀ y ∈ l ++ x, 0 ≤ y ∧ y ≤ 255 := fun y hy => by
    rw [List.mem_append] at hy
    rcases hy with hy | hy
    · exact h3 y hy
    · exact hx.rng y hy
  have hf := fails_wr w g 0 0 _ h1
  rw [show fe 0 0 = 0 from rfl, decide_eq_false (by simp)] at hf
  have HF := Lib.hid hf
  have HR := Lib.hid hr
  have HX := Lib.hid hlx
  have HH1 := Lib.hid h1
  have HO := Lib.hid h2
  have HXX := Lib.hid hx
  clear hf hr hlx h1 h2 hx h3
  go_enter Try.func48, Try.ntmps48
  go_wp2_with fail
  refine HF.out.mono ?_
  rintro e w2 ⟨rfl, k1, hg2⟩
  have hbg := (Below.refl g w).grown hg2 (Nat.le_of_lt hl) (fun k hk => by cases hk; exact Nat.le_refl _)
  have c1 := k1.c1
  have f1 := k1.f 1
  have hgl := k1.lt
  have hown2 := own_grown HO.out hg2
  have hx2 := HXX.out.apart HH1.out hg2
  have K1 := Lib.hid k1
  clear k1
  go_wp2_with (at_builtin; refine wpList_bytes rfl (.tmp 16) (.tmp 17) rfl Try.underlying49 byte_info rfl hown2 rfl hx2 (by omega) hgl ?_; intro v3 w3 hown3 hbel3; obtain ⟨A3, c3, rfl, hB3, hA3⟩ := Byt.of_own hown3 HR.out; have k3 := K1.out.below hbel3 (Nat.lt_succ_self g); have c13 := k3.c1; have f13 := k3.f 1)
  go_returns
  refine ⟨⟨_, rfl⟩, ⟨A3, c3, ?_, ?_, HR.out⟩, ?_⟩
  · rw [List.length_append, HX.out]; exact k3.set1
  · rw [List.length_append, HX.out]; exact ownsRow_setCell_below hown3 (Nat.lt_succ_self g) _
  · exact (hbg.trans (hbel3.mono (Nat.le_succ g))).setCell (Nat.le_refl _) _

theorem wnum_no (w : World) (g : Nat) (er k n : Int) (l : List Int) (h : WrOwn w g er l) (he : ¬ fe er (putE k n) = 0) : Calls Try.prog 36 #[.pointer (some ⟨g, 0, none⟩), .int .i64 k, .int .i64 n] w (WStep w g (fe er (putE k n)) l) := by
  obtain ⟨VA, vc, h1, h2, h3⟩ := h
  have hl := h1.lt
  have hd := decide_eq_true he
  have HD := Lib.hid hd
  have H1 := Lib.hid h1
  have H2 := Lib.hid h2
  have H3 := Lib.hid h3
  clear hd he h1 h2 h3
  go_enter Try.func36, Try.ntmps36
  go_wp2_with fail
  refine (put_any _ _ _).mono ?_
  rintro e w1 ⟨A1, c1, rfl, hB, hb1⟩
  have k1 := H1.out.below hb1 hl
  clear hB
  go_wp2_with fail
  refine (fails_wr _ _ _ _ _ k1).mono ?_
  rintro e w2 ⟨he2, k2, hg2⟩
  rw [HD.out] at he2
  subst he2
  have K2 := Lib.hid k2
  clear k1 k2
  go_wp2
  go_returns
  exact ⟨⟨_, rfl⟩, ⟨VA, vc, K2.out, own_grown (own_low H2.out hb1) hg2, H3.out⟩, (hb1.mono (Nat.le_of_lt hl)).grown hg2 (Nat.le_trans (Nat.le_of_lt hl) hb1.size) (fun k hk => by cases hk; exact Nat.le_refl _)⟩

theorem wnum_ok (w : World) (g : Nat) (k n : Int) (l : List Int) (h : WrOwn w g 0 l) (hp : putE k n = 0) (hn : l.length ≤ 1000000) : Calls Try.prog 36 #[.pointer (some ⟨g, 0, none⟩), .int .i64 k, .int .i64 n] w (WStep w g 0 (l ++ putA k n)) := by
  obtain ⟨VA, vc, h1, h2, h3⟩ := h
  have hl := h1.lt
  have hpl := putA_len k n
  have hr : ∀ y ∈ l ++ putA k n, 0 ≤ y ∧ y ≤ 255 := fun y hy => by
    rw [List.mem_append] at hy
    rcases hy with hy | hy
    · exact h3 y hy
    · exact putA_range k n y hy
  have hput := fun w => put_any k n w
  unfold PutPost at hput
  rw [hp] at hput
  have HPUT := Lib.hid hput
  have HR := Lib.hid hr
  have H1 := Lib.hid h1
  have H2 := Lib.hid h2
  clear hput hr h1 h2 h3 hp
  generalize putA k n = x at HPUT HR hpl
  go_enter Try.func36, Try.ntmps36
  go_wp2_with fail
  refine (HPUT.out _).mono ?_
  rintro e w1 ⟨A1, c1, rfl, hB, hb1⟩
  have k1 := H1.out.below hb1 hl
  have hf := fails_wr w1 g 0 0 _ k1
  rw [show fe 0 0 = 0 from rfl, decide_eq_false (by simp)] at hf
  have HF := Lib.hid hf
  have HB := Lib.hid hB
  have K1 := Lib.hid k1
  clear hf k1 hB
  go_wp2_with fail
  refine HF.out.mono ?_
  rintro e w2 ⟨rfl, k2, hg2⟩
  have hbg := (hb1.mono (Nat.le_of_lt hl)).grown hg2 (Nat.le_trans (Nat.le_of_lt hl) hb1.size) (fun k hk => by cases hk; exact Nat.le_refl _)
  have cc1 := k2.c1
  have f1 := k2.f 1
  have hgl := k2.lt
  have hown2 := own_grown (own_low H2.out hb1) hg2
  have hx2 := HB.out.apart K1.out hg2
  have K2 := Lib.hid k2
  clear k2
  go_wp2_with (at_builtin; refine wpList_bytes rfl (.tmp 27) (.tmp 28) rfl Try.underlying49 byte_info rfl hown2 rfl hx2 (by omega) hgl ?_; intro v3 w3 hown3 hbel3; obtain ⟨A3, c3, rfl, hB3, hA3⟩ := Byt.of_own hown3 HR.out; have k3 := K2.out.below hbel3 (Nat.lt_succ_self g); have c13 := k3.c1; have f13 := k3.f 1)
  go_returns
  refine ⟨⟨_, rfl⟩, ⟨A3, c3, ?_, ?_, HR.out⟩, ?_⟩
  · rw [List.length_append]; exact k3.set1
  · rw [List.length_append]; exact ownsRow_setCell_below hown3 (Nat.lt_succ_self g) _
  · exact (hbg.trans (hbel3.mono (Nat.le_succ g))).setCell (Nat.le_refl _) _

theorem wnum_nil (k n : Int) (w : World) : Calls Try.prog 36 #[.pointer none, .int .i64 k, .int .i64 n] w fun e w' => (∃ v, e = .returned v) ∧ Below w.heap.size w w' := by
  go_enter Try.func36, Try.ntmps36
  go_wp2_with fail
  refine (put_any _ _ _).mono ?_
  rintro e w1 ⟨A1, c1, rfl, hB, hb1⟩
  clear hB
  go_wp2
  go_returns
  exact ⟨⟨_, rfl⟩, hb1⟩
end Go.Proofs.Ytoamgdcjmkkmfaa
namespace Go.Proofs.Ytoamgdcjmkkmfaa
open Go.RowKit
set_option linter.unusedSimpArgs false
set_option linter.unusedVariables false
/-- Many bytes behind a row of the call's own, and where the new row lies. -/
theorem wpList_bytes_at {P : Program} {wr : World} {ops : Array Oper} {rest : List Oper} {o : Oper} {a : Act} {Q : Exit → Act → World → Prop} {base t e n m B c : Nat} {A : Option Addr} {l l2 : List Int} {v : Value} (hgd : o.guard = none) (s x : Operand)
    (ho : o.op = .call { callee := .builtin .append, args := #[s, x], argTypes := #[t, t] }) (ht : P.underlying t = some (.slice e))
    (hinfo : (P.info? e).map (fun i => (i.zero, i.size, i.bytes)) = some (some (.int .u8 0), 1, 1)) (hs : a.eval s = v) (hown : wr.ownsRow base e 1 v n (l.map (Value.int .u8)))
    (hx : a.eval x = .slice A m c) (hB : Byt wr B A m c l2) (hn : n + m ≤ 140737488355328) (hb : base ≤ wr.heap.size)
    (h : ∀ v' w', w'.ownsRow base e 1 v' (n + m) ((l ++ l2).map (Value.int .u8)) → wr.grownBy w' v.ownBlock → (v'.ownBlock = v.ownBlock ∨ v'.ownBlock = some wr.heap.size) → wpList P ops Q rest (a.put o.dst v') w') :
    wpList P ops Q (o :: rest) a wr := by
  obtain ⟨i0, hi, hz0, hz1, hz2⟩ := info_parts hinfo
  cases A with
  | none =>
    have hm : m = 0 := by
      rcases Nat.eq_zero_or_pos m with h0 | h0
      · exact h0
      · obtain ⟨b, off, e', _⟩ := hB.cells h0
        cases e'
    subst hm
    obtain rfl := List.eq_nil_of_length_eq_zero hB.len
    refine wpList_plain hgd fun K hK => ?_
    have hrun := run_bytes_nil (P := P) (w := wr) (ty := o.type) (c := c) ht hi hown
    unfold Oper.wp
    simp [execOp, ho, resolve, invoke, builtin, hs, hx, hrun, Result.andThen]
    exact hK _ _ (h v wr (by simpa using hown) (World.grownBy.refl _ _) (.inl rfl))
  | some ad =>
    refine wpList_append_own_at _ hgd s x t ho base e i0 (.int .u8 0) 1 1 ht hi hz0 hz1 hz2 rfl (by omega) v n (l.map (Value.int .u8)) hs hown ad m c (l2.map (Value.int .u8)) hx (by simp [hB.len]) ?_ (ints_oneCell _ _) (by simp only [maxLen]; omega) (by omega) hb ?_
    · intro j u hu
      have hj : j < m := by
        rcases Nat.lt_or_ge j m with h1 | h1
        · exact h1
        · rw [List.getElem?_eq_none (by simp [hB.len]; omega)] at hu; cases hu
      obtain ⟨b, off, e', _, hc⟩ := hB.cells (by omega)
      cases e'
      have hplain : (⟨b, off, none⟩ : Addr).add j = ⟨b, off + j, none⟩ := by unfold Addr.add; split <;> simp_all
      rw [hplain, hc j hj]
      rw [List.getElem?_map, List.getElem?_eq_getElem (by rw [hB.len]; exact hj)] at hu
      simp only [Option.map_some, Option.some.injEq] at hu
      subst hu
      simp [List.getD, List.getElem?_eq_getElem (show j < l2.length by rw [hB.len]; exact hj)]
    · intro v' w' h1 h2 _ h4
      exact h v' w' (by simpa using h1) h2 h4

/-- Only block g and the row R may have changed, of what was there. -/
structure Chg (w w' : World) (g : Nat) (R : Option Nat) : Prop where
  os : w'.os = w.os
  tape : w'.tape = w.tape
  output : w'.output = w.output
  size : w.heap.size ≤ w'.heap.size
  block : ∀ k, k < w.heap.size → k ≠ g → some k ≠ R → w'.heap[k]? = w.heap[k]?
section
variable {w w' w'' : World} {g : Nat} {R : Option Nat}
theorem Chg.of_g (h : w.grownBy w' (some g)) : Chg w w' g R := ⟨h.os, h.tape, h.output, h.size, fun k hk h1 _ => h.block k hk (fun e => h1 (by injection e))⟩
theorem Chg.of_R (h : w.grownBy w' R) : Chg w w' g R := ⟨h.os, h.tape, h.output, h.size, fun k hk _ h2 => h.block k hk h2⟩
theorem Chg.of_below (h : Below w.heap.size w w') : Chg w w' g R := ⟨h.os, h.tape, h.output, h.size, fun k hk _ _ => h.block k hk⟩
theorem Chg.trans (h : Chg w w' g R) (k : Chg w' w'' g R) : Chg w w'' g R :=
  ⟨k.os.trans h.os, k.tape.trans h.tape, k.output.trans h.output, Nat.le_trans h.size k.size, fun i hi h1 h2 => (k.block i (Nat.lt_of_lt_of_le hi h.size) h1 h2).trans (h.block i hi h1 h2)⟩
end
/-- The Writer has put l, in the row A. -/
def WrIn (w : World) (g : Nat) (er : Int) (l : List Int) (A : Option Addr) (c : Nat) : Prop := WrAt w g er (.slice A l.length c) ∧ w.ownsRow (g + 1) 5 1 (.slice A l.length c) l.length (l.map (Value.int .u8)) ∧ ∀ x ∈ l, 0 ≤ x ∧ x ≤ 255
def rowOf (A : Option Addr) : Option Nat := A.map (·.block)
theorem rowOf_own (A : Option Addr) (n c : Nat) : (Value.slice A n c).ownBlock = rowOf A := by cases A <;> rfl
def WStep2 (W : World) (g : Nat) (A : Option Addr) (er : Int) (l : List Int) (e : Ending) (w' : World) : Prop :=
  (∃ v, e = .returned v) ∧ ∃ A' c', WrIn w' g er l A' c' ∧ Chg W w' g (rowOf A) ∧ (rowOf A' = rowOf A ∨ ∃ k, rowOf A' = some k ∧ W.heap.size ≤ k)

theorem wraw_no2 (w : World) (g : Nat) (er : Int) (l : List Int) (VA : Option Addr) (vc : Nat) (A : Option Addr) (n c : Nat) (h : WrIn w g er l VA vc) (he : ¬ er = 0) : Calls Try.prog 48 #[.pointer (some ⟨g, 0, none⟩), .slice A n c] w (WStep2 w g VA er l) := by
  obtain ⟨h1, h2, h3⟩ := h
  exact (wraw_bad w g er _ A n c h1 he).mono fun e w' ⟨hv, h4, h5⟩ => ⟨hv, VA, vc, ⟨h4, own_grown h2 h5, h3⟩, Chg.of_g h5, .inl rfl⟩

theorem wraw_ok2 (w : World) (g : Nat) (l x : List Int) (VA : Option Addr) (vc : Nat) (A : Option Addr) (n c : Nat) (h : WrIn w g 0 l VA vc) (hx : Byt w w.heap.size A n c x) (hn : l.length + n ≤ 1000000) :
    Calls Try.prog 48 #[.pointer (some ⟨g, 0, none⟩), .slice A n c] w (WStep2 w g VA 0 (l ++ x)) := by
  obtain ⟨h1, h2, h3⟩ := h
  have hl := h1.lt
  have hlx := hx.len
  have hr : ∀ y ∈ l ++ x, 0 ≤ y ∧ y ≤ 255 := fun y hy => by
    rw [List.mem_append] at hy
    rcases hy with hy | hy
    · exact h3 y hy
    · exact hx.rng y hy
  have hf := fails_wr w g 0 0 _ h1
  rw [show fe 0 0 = 0 from rfl, decide_eq_false (by simp)] at hf
  have HF := Lib.hid hf
  have HR := Lib.hid hr
  have HX := Lib.hid hlx
  have HH1 := Lib.hid h1
  have HO := Lib.hid h2
  have HXX := Lib.hid hx
  clear hf hr hlx h1 h2 hx h3
  go_enter Try.func48, Try.ntmps48
  go_wp2_with fail
  refine HF.out.mono ?_
  rintro e w2 ⟨rfl, k1, hg2⟩
  have c1 := k1.c1
  have f1 := k1.f 1
  have hgl := k1.lt
  have hown2 := own_grown HO.out hg2
  have hx2 := HXX.out.apart HH1.out hg2
  have K1 := Lib.hid k1
  clear k1
  go_wp2_with (at_builtin; refine wpList_bytes_at rfl (.tmp 16) (.tmp 17) rfl Try.underlying49 byte_info rfl hown2 rfl hx2 (by omega) hgl ?_; intro v3 w3 hown3 hg3 hat3; obtain ⟨A3, c3, rfl, hB3, hA3⟩ := Byt.of_own hown3 HR.out; have k3 : WrAt w3 g 0 _ := (hg3.block g hgl (fun e => by have := hown2.lt g e.symm; omega)).trans K1.out; have c13 := k3.c1; have f13 := k3.f 1)
  go_returns
  refine ⟨⟨_, rfl⟩, A3, c3, ⟨?_, ?_, HR.out⟩, ?_, ?_⟩
  · rw [List.length_append, HX.out]; exact k3.set1
  · rw [List.length_append, HX.out]; exact ownsRow_setCell_below hown3 (Nat.lt_succ_self g) _
  · have hg3' : w2.grownBy w3 (rowOf VA) := by rw [← rowOf_own VA l.length vc]; exact hg3
    exact ((Chg.of_g hg2).trans (Chg.of_R hg3')).trans (Chg.of_g (grown_set _ _ _ _))
  · have hat : (Value.slice A3 (l.length + n) c3).ownBlock = (Value.slice VA l.length vc).ownBlock ∨ (Value.slice A3 (l.length + n) c3).ownBlock = some w2.heap.size := hat3
    rw [rowOf_own, rowOf_own] at hat
    rcases hat with e | e
    · exact .inl e
    · exact .inr ⟨_, e, hg2.size⟩

theorem wnum_no2 (w : World) (g : Nat) (er k n : Int) (l : List Int) (VA : Option Addr) (vc : Nat) (h : WrIn w g er l VA vc) (he : ¬ fe er (putE k n) = 0) : Calls Try.prog 36 #[.pointer (some ⟨g, 0, none⟩), .int .i64 k, .int .i64 n] w (WStep2 w g VA (fe er (putE k n)) l) := by
  obtain ⟨h1, h2, h3⟩ := h
  have hl := h1.lt
  have hd := decide_eq_true he
  have HD := Lib.hid hd
  have H1 := Lib.hid h1
  have H2 := Lib.hid h2
  have H3 := Lib.hid h3
  clear hd he h1 h2 h3
  go_enter Try.func36, Try.ntmps36
  go_wp2_with fail
  refine (put_any _ _ _).mono ?_
  rintro e w1 ⟨A1, c1, rfl, hB, hb1⟩
  have k1 := H1.out.below hb1 hl
  clear hB
  go_wp2_with fail
  refine (fails_wr _ _ _ _ _ k1).mono ?_
  rintro e w2 ⟨he2, k2, hg2⟩
  rw [HD.out] at he2
  subst he2
  have K2 := Lib.hid k2
  clear k1 k2
  go_wp2
  go_returns
  exact ⟨⟨_, rfl⟩, VA, vc, ⟨K2.out, own_grown (own_low H2.out hb1) hg2, H3.out⟩, (Chg.of_below hb1).trans (Chg.of_g hg2), .inl rfl⟩

theorem wnum_ok2 (w : World) (g : Nat) (k n : Int) (l : List Int) (VA : Option Addr) (vc : Nat) (h : WrIn w g 0 l VA vc) (hp : putE k n = 0) (hn : l.length ≤ 1000000) : Calls Try.prog 36 #[.pointer (some ⟨g, 0, none⟩), .int .i64 k, .int .i64 n] w (WStep2 w g VA 0 (l ++ putA k n)) := by
  obtain ⟨h1, h2, h3⟩ := h
  have hl := h1.lt
  have hpl := putA_len k n
  have hr : ∀ y ∈ l ++ putA k n, 0 ≤ y ∧ y ≤ 255 := fun y hy => by
    rw [List.mem_append] at hy
    rcases hy with hy | hy
    · exact h3 y hy
    · exact putA_range k n y hy
  have hput := fun w => put_any k n w
  unfold PutPost at hput
  rw [hp] at hput
  have HPUT := Lib.hid hput
  have HR := Lib.hid hr
  have H1 := Lib.hid h1
  have H2 := Lib.hid h2
  clear hput hr h1 h2 h3 hp
  generalize putA k n = x at HPUT HR hpl
  go_enter Try.func36, Try.ntmps36
  go_wp2_with fail
  refine (HPUT.out _).mono ?_
  rintro e w1 ⟨A1, c1, rfl, hB, hb1⟩
  have k1 := H1.out.below hb1 hl
  have hf := fails_wr w1 g 0 0 _ k1
  rw [show fe 0 0 = 0 from rfl, decide_eq_false (by simp)] at hf
  have HF := Lib.hid hf
  have HB := Lib.hid hB
  have K1 := Lib.hid k1
  clear hf k1 hB
  go_wp2_with fail
  refine HF.out.mono ?_
  rintro e w2 ⟨rfl, k2, hg2⟩
  have cc1 := k2.c1
  have f1 := k2.f 1
  have hgl := k2.lt
  have hown2 := own_grown (own_low H2.out hb1) hg2
  have hx2 := HB.out.apart K1.out hg2
  have K2 := Lib.hid k2
  clear k2
  go_wp2_with (at_builtin; refine wpList_bytes_at rfl (.tmp 27) (.tmp 28) rfl Try.underlying49 byte_info rfl hown2 rfl hx2 (by omega) hgl ?_; intro v3 w3 hown3 hg3 hat3; obtain ⟨A3, c3, rfl, hB3, hA3⟩ := Byt.of_own hown3 HR.out; have k3 : WrAt w3 g 0 _ := (hg3.block g hgl (fun e => by have := hown2.lt g e.symm; omega)).trans K2.out; have c13 := k3.c1; have f13 := k3.f 1)
  go_returns
  refine ⟨⟨_, rfl⟩, A3, c3, ⟨?_, ?_, HR.out⟩, ?_, ?_⟩
  · rw [List.length_append]; exact k3.set1
  · rw [List.length_append]; exact ownsRow_setCell_below hown3 (Nat.lt_succ_self g) _
  · have hg3' : w2.grownBy w3 (rowOf VA) := by rw [← rowOf_own VA l.length vc]; exact hg3
    exact (((Chg.of_below hb1).trans (Chg.of_g hg2)).trans (Chg.of_R hg3')).trans (Chg.of_g (grown_set _ _ _ _))
  · have hat : (Value.slice A3 (l.length + x.length) c3).ownBlock = (Value.slice VA l.length vc).ownBlock ∨ (Value.slice A3 (l.length + x.length) c3).ownBlock = some w2.heap.size := hat3
    rw [rowOf_own, rowOf_own] at hat
    rcases hat with e | e
    · exact .inl e
    · exact .inr ⟨_, e, Nat.le_trans hb1.size hg2.size⟩
end Go.Proofs.Ytoamgdcjmkkmfaa
