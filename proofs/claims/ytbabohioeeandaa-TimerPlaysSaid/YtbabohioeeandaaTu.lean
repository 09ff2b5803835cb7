/- Take of whatever lies; nil timers; what must be whatever is asked. -/
import Derived.Test.YtbabohioeeandaaTt
namespace Go.Proofs.Ytbabohioeeandaa
open Go.RowKit Go.Shelf
attribute [local go_sem] Oper.semAt_some
set_option linter.unusedSimpArgs false
set_option linter.unusedVariables false

theorem ptr_belowI (w : World) (p : Option Addr) (now : Int) : Below w.heap.size w ((w.alloc (.cells #[.pointer p] 23)).alloc (.cells #[.int .i64 now] 3)) := ((Below.refl _ _).alloc (Nat.le_refl _) _).alloc (by simp) _
theorem take_stopI (w : World) (p : Option Addr) (now x : Int) (ok : Bool) (hb : ok = true → now < x)
    (h : Calls Try.prog 17 #[.pointer p] ((w.alloc (.cells #[.pointer p] 23)).alloc (.cells #[.int .i64 now] 3)) fun e w' => e = .returned (.tuple #[.int .i64 x, .bool ok]) ∧ w' = ((w.alloc (.cells #[.pointer p] 23)).alloc (.cells #[.int .i64 now] 3))) :
    CallsIn Fence.wide 8 Try.prog 14 #[.pointer p, .int .i64 now] w fun e w' => e = .returned (.slice none 0 0) ∧ Below w.heap.size w w' := by
  have HB0 := Lib.hid (ptr_belowI w p now)
  have HN0 := Lib.hid (heap_alloc2_new w (.cells #[.pointer p] 23) (.cells #[.int .i64 now] 3))
  have HH := Lib.hid h
  clear h
  refine callsIn_of_wp_marks Try.func14 rfl trivial ?_ rfl
  simp only [Try.ntmps14, List.size_toArray, List.length_cons, List.length_nil, Nat.reduceAdd, Nat.reduceSub, Array.replicate_succ, Array.replicate_zero, List.push_toArray, List.append_toArray, List.nil_append, List.cons_append]
  gi_wp2_with fail
  refine ⟨trivial, ?_⟩
  refine (callsIn_wide.2 HH.out).mono ?_
  rintro e w1 ⟨rfl, rfl⟩
  generalize (w.alloc (.cells #[.pointer p] 23)).alloc (.cells #[.int .i64 now] 3) = w0 at HB0 HN0 HH ⊢
  have c3 : w0.cell? ⟨w.heap.size + 1, 0, none⟩ = some (.int .i64 now) := by rw [cell_of_row _ _ _ _ _ _ HN0.out]; rfl
  cases ok with
  | false =>
    clear hb
    gi_wp2_with fail
    exact ⟨.slice none 0 0, res_eq rfl (by rfl), rfl, HB0.out⟩
  | true =>
    have hlt : now < x := hb rfl
    clear hb
    gi_wp2_with fail
    exact ⟨.slice none 0 0, res_eq rfl (by rfl), rfl, HB0.out⟩
theorem take_anyI (w : World) (base g s : Nat) (L T : List (Int × Int)) (v u : Value) (now : Int) (h : TmI w base g s L T v u) (hn : L.length ≤ 900) (hT : T.length ≤ 900) (hrs : Rise T) :
    Calls Try.prog 14 #[.pointer (some ⟨g, 0, none⟩), .int .i64 now] w (TookI w base g s L T v u now) := by
  have hb := ptr_belowI w (some ⟨g, 0, none⟩) now
  have hno : ∀ e w', (∀ x, L[0]? = some x → now < x.2) → e = .returned (.slice none 0 0) ∧ Below w.heap.size w w' → TookI w base g s L T v u now e w' := fun e w' hx ⟨he, hw⟩ =>
    ⟨0, .slice none 0 0, Nat.zero_le _, by simp, hx, he, ⟨rfl, .inl ⟨rfl, rfl⟩⟩, GoI.of_below h hw⟩
  cases L with
  | nil => exact callsIn_wide.1 ((take_stopI w _ now 0 false (fun h => by cases h) (next_noI _ base g s T v u (h.below hb))).mono fun e w' hh => hno e w' (fun x hx => by cases hx) hh)
  | cons x L =>
    by_cases hx : x.2 ≤ now
    · exact callsIn_wide.1 (take_yesI w base g s x (x :: L) T v u now h rfl hx hn hT hrs)
    · exact callsIn_wide.1 ((take_stopI w _ now x.2 true (fun _ => by omega) (next_yesI _ base g s x L T v u (h.below hb))).mono fun e w' hh => hno e w' (fun y hy => by cases hy; omega) hh)

theorem ptr_belowS (w : World) (p : Option Addr) (now : Int) : Below w.heap.size w ((w.alloc (.cells #[.pointer p] 70)).alloc (.cells #[.int .i64 now] 3)) := ((Below.refl _ _).alloc (Nat.le_refl _) _).alloc (by simp) _
theorem take_stopS (w : World) (p : Option Addr) (now x : Int) (ok : Bool) (hb : ok = true → now < x)
    (h : Calls Try.prog 57 #[.pointer p] ((w.alloc (.cells #[.pointer p] 70)).alloc (.cells #[.int .i64 now] 3)) fun e w' => e = .returned (.tuple #[.int .i64 x, .bool ok]) ∧ w' = ((w.alloc (.cells #[.pointer p] 70)).alloc (.cells #[.int .i64 now] 3))) :
    CallsIn Fence.wide 8 Try.prog 38 #[.pointer p, .int .i64 now] w fun e w' => e = .returned (.slice none 0 0) ∧ Below w.heap.size w w' := by
  have HB0 := Lib.hid (ptr_belowS w p now)
  have HN0 := Lib.hid (heap_alloc2_new w (.cells #[.pointer p] 70) (.cells #[.int .i64 now] 3))
  have HH := Lib.hid h
  clear h
  refine callsIn_of_wp_marks Try.func38 rfl trivial ?_ rfl
  simp only [Try.ntmps38, List.size_toArray, List.length_cons, List.length_nil, Nat.reduceAdd, Nat.reduceSub, Array.replicate_succ, Array.replicate_zero, List.push_toArray, List.append_toArray, List.nil_append, List.cons_append]
  gi_wp2_with fail
  refine ⟨trivial, ?_⟩
  refine (callsIn_wide.2 HH.out).mono ?_
  rintro e w1 ⟨rfl, rfl⟩
  generalize (w.alloc (.cells #[.pointer p] 70)).alloc (.cells #[.int .i64 now] 3) = w0 at HB0 HN0 HH ⊢
  have c3 : w0.cell? ⟨w.heap.size + 1, 0, none⟩ = some (.int .i64 now) := by rw [cell_of_row _ _ _ _ _ _ HN0.out]; rfl
  cases ok with
  | false =>
    clear hb
    gi_wp2_with fail
    exact ⟨.slice none 0 0, res_eq rfl (by rfl), rfl, HB0.out⟩
  | true =>
    have hlt : now < x := hb rfl
    clear hb
    gi_wp2_with fail
    exact ⟨.slice none 0 0, res_eq rfl (by rfl), rfl, HB0.out⟩
theorem take_anyS (w : World) (base g s : Nat) (L T : List (ByteArray × Int)) (v u : Value) (now : Int) (h : TmS w base g s L T v u) (hn : L.length ≤ 900) (hT : T.length ≤ 900) (hrs : RiseS T) :
    Calls Try.prog 38 #[.pointer (some ⟨g, 0, none⟩), .int .i64 now] w (TookS w base g s L T v u now) := by
  have hb := ptr_belowS w (some ⟨g, 0, none⟩) now
  have hno : ∀ e w', (∀ x, L[0]? = some x → now < x.2) → e = .returned (.slice none 0 0) ∧ Below w.heap.size w w' → TookS w base g s L T v u now e w' := fun e w' hx ⟨he, hw⟩ =>
    ⟨0, .slice none 0 0, Nat.zero_le _, by simp, hx, he, ⟨rfl, .inl ⟨rfl, rfl⟩⟩, GoS.of_below h hw⟩
  cases L with
  | nil => exact callsIn_wide.1 ((take_stopS w _ now 0 false (fun h => by cases h) (next_noS _ base g s T v u (h.below hb))).mono fun e w' hh => hno e w' (fun x hx => by cases hx) hh)
  | cons x L =>
    by_cases hx : x.2 ≤ now
    · exact callsIn_wide.1 (take_yesS w base g s x (x :: L) T v u now h rfl hx hn hT hrs)
    · exact callsIn_wide.1 ((take_stopS w _ now x.2 true (fun _ => by omega) (next_yesS _ base g s x L T v u (h.below hb))).mono fun e w' hh => hno e w' (fun y hy => by cases hy; omega) hh)

theorem set_nil (w : World) (k at_ : Int) : Calls Try.prog 8 #[.pointer none, .int .i64 k, .int .i64 at_] w fun e w' => (∃ v, e = .returned v) ∧ w = w' := by
  go_enter Try.func8, Try.ntmps8
  go_wp2_with fail
  refine bodyPost_ret (results_none rfl _ _ _) rfl ?_
  exact ⟨⟨_, rfl⟩, rfl⟩
theorem when_nil (w : World) (k : Int) : Calls Try.prog 20 #[.pointer none, .int .i64 k] w fun e w' => e = .returned (.tuple #[.int .i64 0, .bool false]) ∧ w = w' := by
  go_enter Try.func20, Try.ntmps20
  go_wp2_with fail
  go_ret2
  exact ⟨rfl, rfl⟩
theorem len_nil (w : World) : Calls Try.prog 19 #[.pointer none] w fun e w' => e = .returned (.int .i64 0) ∧ w = w' := by
  go_enter Try.func19, Try.ntmps19
  go_wp2_with fail
  go_ret
  exact ⟨rfl, rfl⟩
theorem fork_nil (w : World) : Calls Try.prog 15 #[.pointer none] w fun e w' => e = .returned (.pointer none) ∧ w = w' := by
  go_enter Try.func15, Try.ntmps15
  go_wp2_with fail
  go_ret
  exact ⟨rfl, rfl⟩
theorem next_nil (w : World) : Calls Try.prog 17 #[.pointer none] w fun e w' => e = .returned (.tuple #[.int .i64 0, .bool false]) ∧ w' = w := by
  go_enter Try.func17, Try.ntmps17
  go_wp2_with fail
  refine (len_nil _).mono ?_
  rintro e w1 ⟨rfl, rfl⟩
  go_wp2_with fail
  go_ret2
  exact ⟨rfl, rfl⟩
theorem stop_nil (w : World) (k : Int) : Calls Try.prog 11 #[.pointer none, .int .i64 k] w fun e w' => e = .returned (.bool false) ∧ w = w' := by
  go_enter Try.func11, Try.ntmps11
  go_wp2_with fail
  refine (when_nil _ _).mono ?_
  rintro e w1 ⟨rfl, rfl⟩
  go_wp2_with fail
  go_ret
  exact ⟨rfl, rfl⟩
theorem take_nil (w : World) (now : Int) : Calls Try.prog 14 #[.pointer none, .int .i64 now] w fun e w' => e = .returned (.slice none 0 0) ∧ Below w.heap.size w w' :=
  callsIn_wide.1 (take_stopI w none now 0 false (fun h => by cases h) (next_nil _))
theorem nil_inT (n : Nat) (hn : 1 ≤ n) (l gb : Nat) (J Jx : List (Int × Int) → World → Prop) (W : World) (hbox : W.heap[gb]? = some (.cells #[.pointer none] 23 (0, 0))) (h0 : J [] W) :
    CallsIn Fence.wide n Try.prog 40 #[.func (.yield l) #[] #[], .pointer (some ⟨gb, 0, none⟩)] W fun e W' => (∃ v, e = .returned v) ∧ ((∃ ys, ys = [] ∧ J ys W') ∨ (∃ pre, pre <+: [] ∧ Jx pre W')) := by
  have cb : W.cell? ⟨gb, 0, none⟩ = some (.pointer none) := by rw [cell_of_row _ _ _ _ _ _ hbox]; rfl
  clear hbox
  refine callsIn_of_wp Try.func40 rfl trivial ?_ rfl
  simp only [Try.ntmps40, List.size_toArray, List.length_cons, List.length_nil, Nat.reduceAdd, Nat.reduceSub, Array.replicate_succ, Array.replicate_zero, List.push_toArray, List.append_toArray, List.nil_append, List.cons_append]
  gi_wp2_with fail
  refine bodyPost_ret (results_none rfl _ _ _) rfl ?_
  exact ⟨⟨_, rfl⟩, .inl ⟨_, rfl, h0⟩⟩
theorem nil_stopsT (n : Nat) (hn : 1 ≤ n) (gb : Nat) (w : World) (hbox : w.heap[gb]? = some (.cells #[.pointer none] 23 (0, 0))) :
    SeqStopsK Fence.wide n Try.prog 40 #[.pointer (some ⟨gb, 0, none⟩)] encTI (KpT 64) (fun ys => ys = []) (fun pre => pre <+: []) 0 w := fun l J Jx W hW _ _ _ h0 =>
  nil_inT n hn l gb J Jx W ((hW.block gb (Array.getElem?_eq_some_iff.1 hbox).1).trans hbox) h0

theorem istick_yes (w : World) (n : Int) (h0 : 0 ≤ n) (h1 : n ≤ 2147483647) : Calls Try.prog 39 #[.int .i64 n] w fun e w' => e = .returned (.bool true) ∧ w = w' := by
  go_enter Try.func39, Try.ntmps39
  go_wp2_with fail
  go_ret
  exact ⟨rfl, rfl⟩
theorem every_235 (w : World) : Calls Try.prog 23 #[.int .i64 2, .int .i64 3, .int .i64 5] w fun e w' => e = .returned (.tuple #[.int .i64 8, .bool true]) ∧ w = w' := by
  go_enter Try.func23, Try.ntmps23
  go_wp2_with (go_at_call 39; refine (istick_yes _ _ (by decide) (by decide)).mono ?_; rintro e wq ⟨rfl, hwq⟩; subst hwq)
  go_ret2
  exact ⟨rfl, rfl⟩
def txA : ByteArray := ⟨#[97]⟩
def txB : ByteArray := ⟨#[98]⟩
def txC : ByteArray := ⟨#[99]⟩
theorem TchT.low {w w' : World} {base g s : Nat} {L T : List (ByteArray × Int)} {v u : Value} (h : TchT w w' g s v u) (hT : TmS w base g s L T v u) (hg : base ≤ g) (hs : base ≤ s) (hb : base ≤ w.heap.size) : Below base w w' :=
  ⟨h.os, h.tape, h.output, h.size, fun k hk => h.block k (by omega) (by omega) (by omega) (fun e => by have := (hT.row.lt _ e).1; omega) (fun e => by have := (hT.sh.row.lt _ e).1; omega)⟩
theorem lset (w W : World) (g s : Nat) (L T L' T' : List (ByteArray × Int)) (v u : Value) (k : ByteArray) (x : Int) (h : TmS W w.heap.size g s L T v u) (hg : w.heap.size ≤ g) (hs : w.heap.size ≤ s) (hb : Below w.heap.size w W) (hL : L.length ≤ 900) (hT : T.length ≤ 900) (rL : RiseT tlS L) (rT : RiseS T) (hh : hasS k T = false) (eL : insT tlS (k, x) L = L') (eT : putS k x T = T') :
    Calls Try.prog 37 #[.pointer (some ⟨g, 0, none⟩), .string k, .int .i64 x] W fun e W' => e = .returned (.tuple #[]) ∧ ∃ v' u', TmS W' w.heap.size g s L' T' v' u' ∧ Below w.heap.size w W' := by
  refine (tsetS W w.heap.size g s L T L T v u k x h hb.size ((stop_noS W w.heap.size g s L T v u k h (by omega) rT hh).mono fun e w' hx => ⟨hx.1, hx.2.2⟩) hL hT rL rT).mono ?_
  rintro e W' ⟨rfl, v', u', ht, _, _, hc⟩
  rw [eL, eT] at ht
  exact ⟨rfl, v', u', ht, hb.trans (hc.low h hg hs hb.size)⟩
set_option maxRecDepth 100000 in
set_option maxHeartbeats 4000000 in
theorem live_any (w : World) : Calls Try.prog 22 #[] w fun e w' => e = .returned (.bool true) ∧ Below w.heap.size w w' := by
  have l1 : insT tlS (txB, 5) [] = [(txB, 5)] := by kernel_rfl
  have l2 : insT tlS (txA, 5) [(txB, 5)] = [(txA, 5), (txB, 5)] := by kernel_rfl
  have l3 : insT tlS (txC, 3) [(txA, 5), (txB, 5)] = [(txC, 3), (txA, 5), (txB, 5)] := by kernel_rfl
  have b1 : hasS txB ([] : List (ByteArray × Int)) = false := rfl
  have b2 : hasS txA [(txB, (5 : Int))] = false := by kernel_rfl
  have b3 : hasS txC [(txA, (5 : Int)), (txB, 5)] = false := by kernel_rfl
  have t1 : putS txB (5 : Int) [] = [(txB, 5)] := by kernel_rfl
  have t2 : putS txA (5 : Int) [(txB, 5)] = [(txA, 5), (txB, 5)] := by kernel_rfl
  have t3 : putS txC (3 : Int) [(txA, 5), (txB, 5)] = [(txA, 5), (txB, 5), (txC, 3)] := by kernel_rfl
  have q1 : tlS (txA, 5) (txB, 5) = true := by kernel_rfl
  have rT1 : RiseT tlS [(txB, (5 : Int))] := List.pairwise_singleton _ _
  have rT2 : RiseT tlS [(txA, (5 : Int)), (txB, 5)] := List.pairwise_cons.2 ⟨fun y hy => by cases List.mem_singleton.1 hy; exact q1, rT1⟩
  have rS1 : RiseS [(txB, (5 : Int))] := by rw [← t1]; exact riseS_put _ _ _ riseS_nil
  have rS2 : RiseS [(txA, (5 : Int)), (txB, 5)] := by rw [← t2]; exact riseS_put _ _ _ rS1
  have rS3 : RiseS [(txA, (5 : Int)), (txB, 5), (txC, 3)] := by rw [← t3]; exact riseS_put _ _ _ rS2
  have hp1 := fun W g s v u h hg hs hb => lset w W g s [] [] _ _ v u txB 5 h hg hs hb (by simp) (by simp) List.Pairwise.nil riseS_nil b1 l1 t1
  have hp2 := fun W g s v u h hg hs hb => lset w W g s _ _ _ _ v u txA 5 h hg hs hb (by simp) (by simp) rT1 rS1 b2 l2 t2
  have hp3 := fun W g s v u h hg hs hb => lset w W g s _ _ _ _ v u txC 3 h hg hs hb (by simp) (by simp) rT2 rS2 b3 l3 t3
  have htk := fun W g s v u (h : TmS W w.heap.size g s [(txC, (3 : Int)), (txA, 5), (txB, 5)] [(txA, 5), (txB, 5), (txC, 3)] v u) (hg : w.heap.size ≤ g) (hs : w.heap.size ≤ s) (hb : Below w.heap.size w W) =>
    (take_anyS W w.heap.size g s [(txC, (3 : Int)), (txA, 5), (txB, 5)] [(txA, 5), (txB, 5), (txC, 3)] v u 5 h (by simp) (by simp) rS3).mono (R' := fun e W' => ∃ b c, e = .returned (.slice (some ⟨b, 0, none⟩) 3 c) ∧ 3 ≤ c ∧ c ≤ maxLen ∧ b < W'.heap.size ∧ W'.cell? ⟨b, 0, none⟩ = some (.string txC) ∧ W'.cell? ⟨b, 1, none⟩ = some (.string txA) ∧ W'.cell? ⟨b, 2, none⟩ = some (.string txB) ∧ Below w.heap.size w W') (by
      rintro e W' ⟨m, kv, hm, hle, hgt, rfl, hown, v', u', ht, _, _, hc⟩
      simp only [List.length_cons, List.length_nil] at hm
      have hm3 : m = 3 := by
        rcases (show m = 0 ∨ m = 1 ∨ m = 2 ∨ m = 3 by omega) with e | e | e | e
        · exact absurd (hgt (txC, 3) (by rw [e]; rfl)) (by decide)
        · exact absurd (hgt (txA, 5) (by rw [e]; rfl)) (by decide)
        · exact absurd (hgt (txB, 5) (by rw [e]; rfl)) (by decide)
        · exact e
      subst hm3
      obtain ⟨b, cap, cur, rfl, _, hgb, hnc, hmx, _⟩ := own_some hown (by omega)
      exact ⟨b, cap, rfl, hnc, hmx, (Array.getElem?_eq_some_iff.1 hgb).1, by rw [own_cell hown (by omega)]; rfl, by rw [own_cell hown (by omega)]; rfl, by rw [own_cell hown (by omega)]; rfl, hb.trans (hc.low h hg hs hb.size)⟩)
  have HP1 := Lib.hid hp1
  have HP2 := Lib.hid hp2
  have HP3 := Lib.hid hp3
  have HTK := Lib.hid htk
  simp only [txA, txB, txC] at HP1 HP2 HP3 HTK
  clear hp1 hp2 hp3 htk l1 l2 l3 b1 b2 b3 t1 t2 t3 q1 rT1 rT2 rS1 rS2 rS3
  go_enter Try.func22, Try.ntmps22
  go_wp2_with fail
  refine (tnewS w).mono ?_
  rintro e w1 ⟨g, s, rfl, ht, hg, hs, hb⟩
  have HX := Lib.hid (And.intro ht hb)
  have HG := Lib.hid (And.intro hg hs)
  clear ht hb hg hs
  go_wp2_with fail
  refine (HP1.out _ _ _ _ _ HX.out.1 HG.out.1 HG.out.2 HX.out.2).mono ?_
  rintro e w2 ⟨rfl, v2, u2, ht, hb⟩
  clear HX
  have HX := Lib.hid (And.intro ht hb)
  clear ht hb
  go_wp2_with fail
  refine (HP2.out _ _ _ _ _ HX.out.1 HG.out.1 HG.out.2 HX.out.2).mono ?_
  rintro e w3 ⟨rfl, v3, u3, ht, hb⟩
  clear HX
  have HX := Lib.hid (And.intro ht hb)
  clear ht hb
  go_wp2_with fail
  refine (HP3.out _ _ _ _ _ HX.out.1 HG.out.1 HG.out.2 HX.out.2).mono ?_
  rintro e w4 ⟨rfl, v4, u4, ht, hb⟩
  clear HX
  have HX := Lib.hid (And.intro ht hb)
  clear ht hb
  go_wp2_with fail
  refine (HTK.out _ _ _ _ _ HX.out.1 HG.out.1 HG.out.2 HX.out.2).mono ?_
  rintro e w5 ⟨b, c, rfl, hc3, hcm, hbl, d0, d1, d2, hb⟩
  simp only [maxLen] at hcm
  have HB := Lib.hid hb
  clear HX hb
  go_wp2_with fail
  refine (every_235 _).mono ?_
  rintro e w6 ⟨rfl, rfl⟩
  go_wp2_with fail
  go_ret
  exact ⟨rfl, HB.out⟩
end Go.Proofs.Ytbabohioeeandaa
