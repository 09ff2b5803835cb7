/- The document's Pass and Ids. -/
import Derived.Test.YtjofgomnnpeepaaGl
namespace Go.Proofs.Ytjofgomnnpeepaa
open Go.RowKit Go.Sort

set_option maxHeartbeats 1000000 in
theorem refpass_any (w : World) (id : Int) (A : Option Addr) (n c : Nat) (fs : Nat → Int × Int) (h : Fils w w.heap.size A n c fs) :
    Calls Try.prog 9 #[.int .i64 id, .slice A n c] w fun e w' => e = .returned (.bool (anyF fs n id)) ∧ Below w.heap.size w w' := by
  have HF := Lib.hid h
  have hcap := h.cap
  have hmax := h.max
  simp only [maxLen] at hmax
  clear h
  go_enter Try.func9, Try.ntmps9
  go_wp2_with fail
  go_loopw [5] (fun i wr => ∃ j : Nat, j ≤ n ∧ i = .int .i64 j ∧ Hid (anyF fs j id = false) ∧ Below w.heap.size w wr) (fun i _ => n - (intOf i).toNat)
  case atStart => exact ⟨0, Nat.zero_le _, rfl, Lib.hid (anyF_zero fs id), Below.refl _ _⟩
  case round =>
    obtain ⟨j, hj, rfl, hno, hb⟩ := hrel
    by_cases hlt : j < n
    · obtain ⟨b, off, rfl, hbb, hcl⟩ := (HF.out.below hb).cells (by omega)
      obtain ⟨c0, c1⟩ := hcl j hlt
      generalize hfj : fs j = f at c0 c1
      obtain ⟨fc, fm⟩ := f
      simp only at c0 c1
      have hst := anyF_succ fs j id
      rw [hfj] at hst
      have hof := anyF_of (fs := fs) (n := n) (i := j) (id := id) hlt
      rw [hfj] at hof
      simp only at hst hof
      rw [hno.out, Bool.false_or] at hst
      have hone := fun w => one_any fc fm id w
      have hba := hb.alloc hb.size (.cells #[.int .i64 fc, .int .i64 fm] 41)
      generalize One (low fc) (low fm) id = o at hst hof hone
      have HONE := Lib.hid hone
      have HST := Lib.hid hst
      have HOF := Lib.hid hof
      have HBA := Lib.hid hba
      clear hst hof hone hfj hcl hno hba
      cases o with
      | true =>
        go_wp2_with fail
        refine (HONE.out _).mono ?_
        rintro e w2 ⟨rfl, rfl⟩
        go_wp2_with fail
        exact bodyPost_ret (results_tmp rfl _ _ _) rfl ⟨by rw [HOF.out (by first | trivial | rfl)]; rfl, HBA.out⟩
      | false =>
        go_wp2_with fail
        refine (HONE.out _).mono ?_
        rintro e w2 ⟨rfl, rfl⟩
        go_wp2_with fail
        exact ⟨⟨j + 1, by omega, by go_num, HST, HBA.out⟩, by simp [intOf]; omega⟩
    · obtain rfl : j = n := by omega
      go_wp2_with fail
      exact bodyPost_ret (results_tmp rfl _ _ _) rfl ⟨by rw [hno.out]; rfl, hb⟩

theorem own_below {w w' : World} {base e size n : Nat} {v : Value} {xs : List Value} (h : w.ownsRow base e size v n xs) (hb : Below w.heap.size w w') : w'.ownsRow base e size v n xs :=
  h.kept (row := none) ⟨hb.1, hb.2, hb.3, hb.4, fun k hk _ => hb.5 k hk⟩ (by cases v.ownBlock with | none => exact .inl rfl | some g => exact .inr (by simp))
/-- The identifiers below j that some filters let pass. -/
def passL (fs : Nat → Int × Int) (n j : Nat) : List Nat := (List.range j).filter fun q : Nat => anyF fs n q
theorem passL_succ (fs : Nat → Int × Int) (n j : Nat) : passL fs n (j + 1) = passL fs n j ++ if anyF fs n (j : Nat) then [j] else [] := by
  unfold passL
  rw [List.range_succ, List.filter_append]
  congr 1
  cases h : anyF fs n (j : Nat) <;> simp [h]
theorem passL_len (fs : Nat → Int × Int) (n j : Nat) : (passL fs n j).length ≤ j := by
  have := List.length_filter_le (fun q : Nat => anyF fs n q) (List.range j)
  simpa [passL] using this
theorem passL_mem {fs : Nat → Int × Int} {n j q : Nat} (h : q ∈ passL fs n j) : q < j := by
  simp [passL] at h; exact h.1
def vals (l : List Nat) : List Value := l.map fun q : Nat => .int .i64 (q : Int)
/-- One number is appended to a row of the call's own. -/
theorem wpList_one {P : Program} {wr : World} {ops : Array Oper} {rest : List Oper} {o : Oper} {a : Act} {Q : Exit → Act → World → Prop} {base t e n : Nat} {p : Int} {xs : List Value} {v : Value} (hgd : o.guard = none) (s x : Operand)
    (ho : o.op = .call { callee := .builtin .append, args := #[s, x], argTypes := #[t, t] }) (ht : P.underlying t = some (.slice e))
    (hinfo : (P.info? e).map (fun i => (i.zero, i.size, i.bytes)) = some (some (.int .i64 0), 1, 8)) (hs : a.eval s = v) (hown : wr.ownsRow base e 1 v n xs)
    (hx : a.eval x = .slice (some ⟨wr.heap.size, 0, none⟩) 1 1) (hn : n ≤ 1000000) (hb : base ≤ wr.heap.size)
    (h : ∀ v' w', w'.ownsRow base e 1 v' (n + 1) (xs ++ [.int .i64 p]) → Below base wr w' → wpList P ops Q rest (a.put o.dst v') w') :
    wpList P ops Q (o :: rest) a (wr.alloc (.cells #[.int .i64 p] e)) := by
  obtain ⟨i0, hi, hz0, hz1, hz2⟩ := info_parts hinfo
  refine wpList_append_own _ hgd s x t ho base e i0 (.int .i64 0) 1 8 ht hi hz0 hz1 hz2 rfl (by omega) v n xs hs (hown.alloc _) ⟨wr.heap.size, 0, none⟩ 1 1 [.int .i64 p] hx rfl ?_ (by simp [Value.oneCell']) (by simp only [maxLen]; omega) (by omega) (by simp; omega) ?_
  · intro j u hu
    have hc : ∀ k, (wr.alloc (.cells #[.int .i64 p] e)).cell? ⟨wr.heap.size, k, none⟩ = (#[Value.int .i64 p] : Array Value)[k]? := fun k => by rw [cell_of_row _ _ _ _ e (0, 0) (heap_alloc_new wr _)]
    have hplain : (⟨wr.heap.size, 0, none⟩ : Addr).add j = ⟨wr.heap.size, j, none⟩ := by unfold Addr.add; split <;> simp_all
    rw [hplain, hc j, ← hu]
    match j with
    | 0 => rfl
    | j + 1 => simp
  · intro v' w' h1 h2 _
    exact h v' w' h1 (((Below.refl _ wr).alloc hb _).grown h2 (by simp; omega) fun k hk => (hown.lt k hk).1)
theorem info_num : (Try.prog.info? 3).map (fun i => (i.zero, i.size, i.bytes)) = some (some (.int .i64 0), 1, 8) := by kernel_rfl
theorem Nums.of_vals {w : World} {base e n : Nat} {v : Value} {l : List Nat} (h : w.ownsRow base e 1 v n (vals l)) (hl : ∀ q ∈ l, q < 2048) :
    ∃ A c, v = .slice A n c ∧ n = l.length ∧ Nums w w.heap.size A n c (l.map fun q : Nat => (q : Int)) := by
  have hn : n = l.length := by have := h.1; simp [vals] at this; omega
  have hr : ∀ x ∈ (l.map fun q : Nat => (q : Int)), -9223372036854775808 ≤ x ∧ x ≤ 9223372036854775807 := fun x hx => by
    rw [List.mem_map] at hx
    obtain ⟨q, hq, rfl⟩ := hx
    have := hl q hq
    omega
  rcases h.2 with ⟨rfl, h0⟩ | ⟨g, cap, cur, rfl, hb, hg, hnc, hm, hs, ht⟩
  · subst h0
    exact ⟨none, 0, rfl, hn, by simp [← hn], Nat.le_refl _, by simp [maxLen], hr, fun h => absurd h (Nat.lt_irrefl _)⟩
  · refine ⟨_, _, rfl, hn, by simp [hn], hnc, hm, hr, fun _ => ⟨g, 0, rfl, (Array.getElem?_eq_some_iff.1 hg).1, fun i hi => ?_⟩⟩
    rw [Nat.zero_add, World.ownsRow.cellAt h i (by omega)]
    have : i < l.length := by omega
    simp [vals, List.getD, this]
/-- What Ids of the document answers. -/
def Idl (fs : Nat → Int × Int) (n : Nat) (e : Ending) (w' : World) : Prop := ∃ A c, e = .returned (.slice A (passL fs n 2048).length c) ∧ Nums w' w'.heap.size A (passL fs n 2048).length c ((passL fs n 2048).map fun q : Nat => (q : Int))
set_option maxRecDepth 40000 in
set_option maxHeartbeats 1000000 in
theorem refids_any (w : World) (A : Option Addr) (n c : Nat) (fs : Nat → Int × Int) (h : Fils w w.heap.size A n c fs) :
    Calls Try.prog 10 #[.slice A n c] w fun e w' => Idl fs n e w' ∧ Below w.heap.size w w' := by
  have HF := Lib.hid h
  clear h
  have hown0 : (w.alloc (.cells #[] 3)).ownsRow w.heap.size 3 1 (.slice (some ⟨w.heap.size, 0, none⟩) 0 0) 0 (vals []) := ⟨rfl, .inr ⟨_, 0, #[], rfl, Nat.le_refl _, heap_alloc_new w _, Nat.le_refl _, by simp [maxLen], by simp, rfl⟩⟩
  have hb0 : Below w.heap.size w (w.alloc (.cells #[] 3)) := (Below.refl _ _).alloc (Nat.le_refl _) _
  have HO := Lib.hid hown0
  have HB := Lib.hid hb0
  clear hown0 hb0
  go_enter Try.func10, Try.ntmps10
  go_wp2_with fail
  go_loopw [3, 4] (fun v i wr => ∃ j : Nat, j ≤ 2048 ∧ i = .int .i64 j ∧ wr.ownsRow w.heap.size 3 1 v (passL fs n j).length (vals (passL fs n j)) ∧ Below w.heap.size w wr) (fun _ i _ => 2048 - (intOf i).toNat)
  case atStart => exact ⟨0, by omega, rfl, HO.out, HB.out⟩
  case round =>
    obtain ⟨j, hj, rfl, hown, hb⟩ := hrel
    by_cases hlt : j < 2048
    · have hstep := passL_succ fs n j
      have hpl := passL_len fs n j
      have hcall := fun w (h : Fils w w.heap.size A n c fs) => refpass_any w (j : Int) A n c fs h
      have hvs : vals (passL fs n j ++ [j]) = vals (passL fs n j) ++ [.int .i64 (j : Int)] := by simp [vals]
      generalize anyF fs n (j : Nat) = o at hstep hcall
      have HST := Lib.hid hstep
      have HC := Lib.hid hcall
      have HV := Lib.hid hvs
      have HOW := Lib.hid hown
      have HBB := Lib.hid hb
      clear hstep hcall hvs hown hb
      cases o with
      | true =>
        go_wp2_with fail
        refine (HC.out _ (HF.out.step HBB.out)).mono ?_
        rintro e w2 ⟨rfl, hb2⟩
        have hown2 := own_below HOW.out hb2
        have hb3 := HBB.out.trans (hb2.mono HBB.out.size)
        clear hb2
        go_wp2_with (at_builtin; refine wpList_one rfl (.tmp 13) (.tmp 15) rfl Try.underlying27 info_num rfl hown2 rfl (by omega) hb3.size ?_; intro v' w' hown' hbel')
        refine ⟨⟨j + 1, by omega, by go_num, ?_, hb3.trans hbel'⟩, by simp [intOf]; omega⟩
        rw [HST.out]
        simp only [if_true, List.length_append, List.length_cons, List.length_nil]
        rw [HV.out]
        exact hown'
      | false =>
        go_wp2_with fail
        refine (HC.out _ (HF.out.step HBB.out)).mono ?_
        rintro e w2 ⟨rfl, hb2⟩
        have hown2 := own_below HOW.out hb2
        have hb3 := HBB.out.trans (hb2.mono HBB.out.size)
        clear hb2
        go_wp2_with fail
        refine ⟨⟨j + 1, by omega, by go_num, ?_, hb3⟩, by simp [intOf]; omega⟩
        rw [HST.out]
        simpa using hown2
    · obtain rfl : j = 2048 := by omega
      obtain ⟨A', c', rfl, hl, hf⟩ := Nums.of_vals hown (fun q hq => passL_mem hq)
      have HF2 := Lib.hid hf
      have hcap := hf.cap
      clear hf hown hl
      go_wp2_with fail
      exact bodyPost_ret (results_tmp rfl _ _ _) rfl ⟨⟨A', c', rfl, HF2.out⟩, hb⟩
end Go.Proofs.Ytjofgomnnpeepaa
