/- The document's Pack. -/
import Derived.Test.YtjofgomnnpeepaaGza
import Derived.Maps.AppendAt
namespace Go.Proofs.Ytjofgomnnpeepaa
open Go.RowKit Go.Sort

/-- The first filters: each identifier with all bits. -/
def fullL (cs : List Nat) (j : Nat) : List (Int × Int) := (cs.take j).map fun q : Nat => ((q : Int), 2047)
theorem fullL_succ {cs : List Nat} {j : Nat} (h : j < cs.length) : (fullL cs (j + 1)).flatMap two = (fullL cs j).flatMap two ++ [.int .i64 ((cs.map fun q : Nat => (q : Int)).getD j 0), .int .i64 2047] := by
  unfold fullL
  rw [List.take_succ_eq_append_getElem h, List.map_append, List.flatMap_append]
  simp [two, List.getD, List.getElem?_eq_getElem h]
theorem fullL_end (l : List Int) (n : Nat) : fullL (codes (m0 l n) 2048) (codes (m0 l n) 2048).length = filL (m0 l n) 2048 := by
  unfold fullL filL
  rw [List.take_length]
  apply List.map_congr_left
  intro q hq
  have h := (codes_mem.1 hq).2
  unfold m0 at h ⊢
  split at h
  · rw [if_pos ‹_›]
  · exact absurd rfl h
theorem noPair_nil {M : Nat → Int} (h : (codes M 2048).length = 0) : NoPair M := fun b j hb _ hg => by
  obtain ⟨k, hk, _⟩ := hg
  have := (codes_mem (M := M) (j := 2048) (a := b)).2 ⟨hb, by rw [hk]; omega⟩
  rw [List.eq_nil_of_length_eq_zero h] at this
  cases this
/-- Where Pack stands behind so many rounds. -/
def Rnd (M0 : Nat → Int) (j : Nat) (w : World) (v : Value) : Prop := ∃ M A c, Reach M0 M ∧ Fit M ∧ Und M ∧ (codes M 2048).length + j ≤ 2048 ∧ v = .slice A (codes M 2048).length c ∧ Fils w w.heap.size A (codes M 2048).length c (fun t => (filL M 2048).getD t (0, 0))
theorem Fils.of_ownF {w : World} {base e n : Nat} {v : Value} {l : List (Int × Int)} (h : w.ownsRow base e 2 v n (l.flatMap two)) :
    ∃ A c, v = .slice A l.length c ∧ Fils w w.heap.size A l.length c (fun i => l.getD i (0, 0)) := by
  obtain ⟨A, c, h1, rfl, h3⟩ := Fils.of_own h
  exact ⟨A, c, h1, h3⟩
/-- One struct of two numbers is appended: where it lies. -/
theorem wpList_two_at {P : Program} {wr : World} {ops : Array Oper} {rest : List Oper} {o : Oper} {a : Act} {Q : Exit → Act → World → Prop} {base t e n : Nat} {p q : Int} {xs : List Value} {v : Value} (hgd : o.guard = none) (s x : Operand)
    (ho : o.op = .call { callee := .builtin .append, args := #[s, x], argTypes := #[t, t] }) (ht : P.underlying t = some (.slice e))
    (hinfo : (P.info? e).map (fun i => (i.zero, i.size, i.bytes)) = some (some (.agg #[.int .i64 0, .int .i64 0]), 2, 16)) (hs : a.eval s = v) (hown : wr.ownsRow base e 2 v n xs)
    (hx : a.eval x = .slice (some ⟨wr.heap.size, 0, none⟩) 1 1) (hn : n ≤ 1000000) (hb : base ≤ wr.heap.size)
    (h : ∀ v' w', w'.ownsRow base e 2 v' (n + 1) (xs ++ [.int .i64 p, .int .i64 q]) → wr.grownBy w' v.ownBlock → (v'.ownBlock = v.ownBlock ∨ v'.ownBlock = some (wr.heap.size + 1)) → wpList P ops Q rest (a.put o.dst v') w') :
    wpList P ops Q (o :: rest) a (wr.alloc (.cells #[.int .i64 p, .int .i64 q] e)) := by
  obtain ⟨i0, hi, hz0, hz1, hz2⟩ := info_parts hinfo
  refine wpList_append_own_at _ hgd s x t ho base e i0 (.agg #[.int .i64 0, .int .i64 0]) 2 16 ht hi hz0 hz1 hz2 rfl (by omega) v n xs hs (hown.alloc _) ⟨wr.heap.size, 0, none⟩ 1 1 [.int .i64 p, .int .i64 q] hx rfl ?_ (by simp [Value.oneCell']) (by simp only [maxLen]; omega) (by omega) (by simp; omega) ?_
  · intro j u hu
    have hc : ∀ k, (wr.alloc (.cells #[.int .i64 p, .int .i64 q] e)).cell? ⟨wr.heap.size, k, none⟩ = (#[Value.int .i64 p, Value.int .i64 q] : Array Value)[k]? := fun k => by rw [cell_of_row _ _ _ _ e (0, 0) (heap_alloc_new wr _)]
    have hplain : (⟨wr.heap.size, 0, none⟩ : Addr).add j = ⟨wr.heap.size, j, none⟩ := by unfold Addr.add; split <;> simp_all
    rw [hplain, hc j, ← hu]
    match j with
    | 0 => rfl
    | 1 => rfl
    | j + 2 => simp
  · intro v' w' h1 h2 _ h4
    have hg := World.grownBy_alloc wr (.cells #[.int .i64 p, .int .i64 q] e) v.ownBlock
    exact h v' w' h1 ⟨h2.os.trans hg.os, h2.tape.trans hg.tape, h2.output.trans hg.output, Nat.le_trans hg.size h2.size, fun i hi hne => (h2.block i (Nat.lt_of_lt_of_le hi hg.size) hne).trans (hg.block i hi hne)⟩ (by simpa using h4)
theorem nums_grown {w w' : World} {B B0 n c : Nat} {A : Option Addr} {l : List Int} {row : Option Nat} (h : Nums w B A n c l) (hB : B ≤ w.heap.size) (hA : ∀ b off, A = some ⟨b, off, none⟩ → B0 < b) (hg : w.grownBy w' row) (hr : row = some B0 ∨ ∃ r, row = some r ∧ B ≤ r) : Nums w' B A n c l :=
  ⟨h.len, h.cap, h.max, h.rng, fun hn => by
    obtain ⟨b, off, e, hb, hc⟩ := h.cells hn
    have h1 := hA b off e
    refine ⟨b, off, e, hb, fun j hj => ?_⟩
    rw [← hc j hj]
    refine World.cell?_of_block (a := ⟨b, off + j, none⟩) (hg.block b (by omega) fun e2 => ?_)
    rcases hr with h2 | ⟨r, h2, h3⟩
    · rw [h2] at e2; cases e2; omega
    · rw [h2] at e2; cases e2; omega⟩
theorem below_grown {w w0 w' : World} {B : Nat} {row : Option Nat} (h : Below B w0 w) (hB : B ≤ w.heap.size) (hg : w.grownBy w' row) (hr : ∀ k, row = some k → B ≤ k) : Below B w0 w' :=
  h.grown hg hB hr
set_option maxRecDepth 40000 in
set_option maxHeartbeats 1000000 in
theorem refpack_any (w : World) (A : Option Addr) (n c : Nat) (l : List Int) (h : Nums w w.heap.size A n c l) :
    Calls Try.prog 17 #[.slice A n c] w (Packed l n w) := by
  have HF := Lib.hid h
  clear h
  have hown0 : (w.alloc (.cells #[] 41)).ownsRow w.heap.size 41 2 (.slice (some ⟨w.heap.size, 0, none⟩) 0 0) 0 ((fullL (codes (m0 l n) 2048) 0).flatMap two) := ⟨rfl, .inr ⟨_, 0, #[], rfl, Nat.le_refl _, heap_alloc_new w _, Nat.le_refl _, by simp [maxLen], by simp, by simp [fullL]⟩⟩
  have hb0 : Below w.heap.size w (w.alloc (.cells #[] 41)) := (Below.refl _ _).alloc (Nat.le_refl _) _
  have hw0s : (w.alloc (.cells #[] 41)).heap.size = w.heap.size + 1 := by simp
  have hF := HF.out.step ((Below.refl _ _).alloc (Nat.le_refl _) (.cells #[] 41))
  have hsort := sorted_any _ A n c l hF
  go_enter Try.func17, Try.ntmps17
  go_wp2_with fail
  clear hF
  generalize w.alloc (.cells #[] 41) = w0 at hown0 hb0 hsort hw0s ⊢
  refine hsort.mono ?_
  rintro e w1 ⟨⟨A1, c1, rfl, hA1, hN⟩, hb1⟩
  clear hsort
  have hown1 := own_below hown0 hb1
  have hbb := hb0.trans (hb1.mono hb0.size)
  have hcl := codes_len (m0 l n) 2048
  have hend := fullL_end l n
  have hsucc := fun j => @fullL_succ (codes (m0 l n) 2048) j
  have hfit : Fit (m0 l n) := (inv_start l n).fit
  have hund := und_start l n
  have hcap := hN.cap
  have hmax := hN.max
  simp only [maxLen] at hmax
  have hA2 : ∀ b off, A1 = some ⟨b, off, none⟩ → w.heap.size < b := fun b off e => by have := hA1 b off e; omega
  have hws : w.heap.size ≤ w1.heap.size := hbb.size
  have HA2 := Lib.hid hA2
  have HN := Lib.hid hN
  have HO := Lib.hid hown1
  have HB := Lib.hid hbb
  have HEND := Lib.hid hend
  have HS := Lib.hid hsucc
  have HFIT := Lib.hid hfit
  have HUND := Lib.hid hund
  clear hA1 hA2 hw0s hN hown1 hbb hend hsucc hfit hund hown0 hb0 hb1
  generalize hM0 : m0 l n = M0 at *
  have HM0 := Lib.hid hM0
  clear hM0
  generalize hCS : codes M0 2048 = cs at *
  generalize hK : cs.length = K at *
  have HCS := Lib.hid hCS
  have HK := Lib.hid hK
  clear hCS hK
  go_wp2_with fail
  go_loopw [3, 5] (fun v i wr => ∃ j : Nat, j ≤ K ∧ i = .int .i64 j ∧ wr.ownsRow w.heap.size 41 2 v j ((fullL cs j).flatMap two) ∧ Hid (v.ownBlock = some w.heap.size ∨ ∃ r, v.ownBlock = some r ∧ w1.heap.size ≤ r) ∧ Hid (Nums wr w1.heap.size A1 K c1 (cs.map fun q : Nat => (q : Int))) ∧ Below w.heap.size w wr ∧ w1.heap.size ≤ wr.heap.size) (fun _ i _ => K - (intOf i).toNat)
  case atStart => exact ⟨0, by omega, rfl, HO.out, Lib.hid (.inl rfl), HN, HB.out, Nat.le_refl _⟩
  case round =>
    obtain ⟨j, hj, rfl, hown, hob, hNw, hb, hsz⟩ := hrel
    by_cases hlt : j < K
    · obtain ⟨b, off, rfl, hbb, hcc⟩ := hNw.out.cells (by omega)
      have hcp := hcc j hlt
      have hs := HS.out j hlt
      generalize (cs.map fun q : Nat => (q : Int)).getD j 0 = x at hcp hs
      have HSS := Lib.hid hs
      have hjI : (j : Int) < (K : Int) := by omega
      clear hs hcc
      go_wp2_with (at_builtin; refine wpList_two_at rfl (.tmp 18) (.tmp 24) rfl Try.underlying23 info_ref rfl hown rfl (by omega) hb.size ?_; intro v' w' hown' hgr' hob')
      have hkr : ∀ k, Value.ownBlock _ = some k → w.heap.size ≤ k := fun k hk => (hown.lt k hk).1
      refine ⟨⟨j + 1, by omega, by go_num, by rw [HSS.out]; exact hown', ?_, Lib.hid (nums_grown hNw.out hsz HA2.out hgr' hob.out), below_grown hb hb.size hgr' hkr, Nat.le_trans hsz hgr'.size⟩, by simp [intOf]; omega⟩
      rcases hob' with h | h
      · rw [Hid, h]; exact hob.out
      · exact Lib.hid (.inr ⟨_, h, by omega⟩)
    · obtain rfl : j = K := by omega
      obtain ⟨A2, c2, rfl, hl2, hf⟩ := Fils.of_own hown
      rw [HEND.out] at hf
      have hst : Rnd M0 0 wr (.slice A2 j c2) := ⟨M0, A2, c2, .start, HFIT.out, HUND.out, by rw [HCS.out, HK.out]; omega, by rw [HCS.out, HK.out], by rw [HCS.out, HK.out]; exact hf⟩
      have HST := Lib.hid hst
      have HBB := Lib.hid hb
      clear hf hl2 hown hst hob hNw HN HS HEND hb
      go_wp2_with fail
      go_loopw [3, 6] (fun v i wx => ∃ q : Nat, q ≤ 2048 ∧ i = .int .i64 q ∧ Hid (Rnd M0 q wx v) ∧ Hid (Below w.heap.size w wx)) (fun _ i _ => 2048 - (intOf i).toNat)
      case atStart => exact ⟨0, by omega, rfl, HST, HBB⟩
      case round =>
        obtain ⟨q, hq, rfl, hR, hb⟩ := hrel
        obtain ⟨M, A3, c3, h1, h2, h3, h4, rfl, h6⟩ := hR.out
        have H1 := Lib.hid h1
        have H2 := Lib.hid h2
        have H3 := Lib.hid h3
        have H6 := Lib.hid h6
        by_cases hlt : q < 2048
        · have hstep := step_any _ A3 c3 M h2 h3 h6
          have HSTEP := Lib.hid hstep
          clear h1 h2 h3 h6 hstep
          go_wp2_with fail
          refine HSTEP.out.mono ?_
          rintro e w5 ⟨(⟨a, i, A4, c4, hF, rfl, hf4⟩ | ⟨hnp, rfl⟩), hb5⟩
          · have hbb := hb.out.trans (hb5.mono hb.out.size)
            have hless := codes_less hF
            have hR2 : Rnd M0 (q + 1) w5 (.slice A4 (filL (nxt M a i) 2048).length c4) := ⟨nxt M a i, A4, c4, .step H1.out hF, nxt_fit H2.out hF, und_step H2.out H3.out hF, by omega, by rw [filL_len], by rw [← filL_len]; exact hf4⟩
            have HR2 := Lib.hid hR2
            have HBB2 := Lib.hid hbb
            clear hF hf4 hb5 hbb hR2
            go_wp2_with fail
            exact ⟨⟨q + 1, by omega, by go_num, HR2, HBB2⟩, by simp [intOf]; omega⟩
          · have hbb := hb.out.trans (hb5.mono hb.out.size)
            have hf5 := (H6.out.step hb5)
            have HN5 := Lib.hid hnp
            have HF5 := Lib.hid hf5
            have HBB2 := Lib.hid hbb
            clear hnp hb5 hbb hf5
            go_wp2_with fail
            exact bodyPost_ret (results_tmp rfl _ _ _) rfl ⟨M, by rw [HM0.out]; exact H1.out, HN5.out, H2.out, ⟨A3, c3, by rw [filL_len]; rfl, by rw [filL_len]; exact HF5.out⟩, HBB2.out⟩
        · obtain rfl : q = 2048 := by omega
          have hnp : NoPair M := noPair_nil (by omega)
          have HN5 := Lib.hid hnp
          clear hnp h1 h2 h3 h6
          go_wp2_with fail
          exact bodyPost_ret (results_tmp rfl _ _ _) rfl ⟨M, by rw [HM0.out]; exact H1.out, HN5.out, H2.out, ⟨A3, c3, by rw [filL_len]; rfl, by rw [filL_len]; exact H6.out⟩, hb.out⟩
end Go.Proofs.Ytjofgomnnpeepaa
