/- Take of whatever lies; nil timers; what must be whatever is asked. -/
import Derived.Test.YtiidgcgamcgipaaBTt
namespace Go.Proofs.Ytiidgcgamcgipaa
open Go.RowKit Go.Shelf
attribute [local go_sem] Oper.semAt_some
set_option linter.unusedSimpArgs false
set_option linter.unusedVariables false
theorem ptr_belowI (w : World) (p : Option Addr) (now : Int) : Below w.heap.size w ((w.alloc (.cells #[.pointer p] 72)).alloc (.cells #[.int .i64 now] 3)) := ((Below.refl _ _).alloc (Nat.le_refl _) _).alloc (by simp) _
theorem take_stopI (w : World) (p : Option Addr) (now x : Int) (ok : Bool) (hb : ok = true → now < x)
    (h : Calls Try.prog 59 #[.pointer p] ((w.alloc (.cells #[.pointer p] 72)).alloc (.cells #[.int .i64 now] 3)) fun e w' => e = .returned (.tuple #[.int .i64 x, .bool ok]) ∧ w' = ((w.alloc (.cells #[.pointer p] 72)).alloc (.cells #[.int .i64 now] 3))) :
    CallsIn Fence.wide 8 Try.prog 44 #[.pointer p, .int .i64 now] w fun e w' => e = .returned (.slice none 0 0) ∧ Below w.heap.size w w' := by
  have HB0 := Lib.hid (ptr_belowI w p now)
  have HN0 := Lib.hid (heap_alloc2_new w (.cells #[.pointer p] 72) (.cells #[.int .i64 now] 3))
  have HH := Lib.hid h
  clear h
  refine callsIn_of_wp_marks Try.func44 rfl trivial ?_ rfl
  simp only [Try.ntmps44, List.size_toArray, List.length_cons, List.length_nil, Nat.reduceAdd, Nat.reduceSub, Array.replicate_succ, Array.replicate_zero, List.push_toArray, List.append_toArray, List.nil_append, List.cons_append]
  gi_wp2_with fail
  refine ⟨trivial, ?_⟩
  refine (callsIn_wide.2 HH.out).mono ?_
  rintro e w1 ⟨rfl, rfl⟩
  generalize (w.alloc (.cells #[.pointer p] 72)).alloc (.cells #[.int .i64 now] 3) = w0 at HB0 HN0 HH ⊢
  have c3 : w0.cell? ⟨w.heap.size + 1, 0, none⟩ = some (.int .i64 now) := by rw [cell_of_row _ _ _ _ _ _ HN0.out]; rfl
  cases ok with
  | false =>
    clear hb
    gi_wp2_with fail
    exact ⟨.slice none 0 0, res_eq rfl (by rfl), rfl, HB0.out⟩
  | true =>
    have hlt : now < x := hb rfl
    clear hb
    gi_wp2_with fail
    exact ⟨.slice none 0 0, res_eq rfl (by rfl), rfl, HB0.out⟩
theorem take_anyI (w : World) (base g s : Nat) (L T : List (Int × Int)) (v u : Value) (now : Int) (h : TmI w base g s L T v u) (hn : L.length ≤ 900) (hT : T.length ≤ 900) (hrs : Rise T) :
    Calls Try.prog 44 #[.pointer (some ⟨g, 0, none⟩), .int .i64 now] w (TookI w base g s L T v u now) := by
  have hb := ptr_belowI w (some ⟨g, 0, none⟩) now
  have hno : ∀ e w', (∀ x, L[0]? = some x → now < x.2) → e = .returned (.slice none 0 0) ∧ Below w.heap.size w w' → TookI w base g s L T v u now e w' := fun e w' hx ⟨he, hw⟩ =>
    ⟨0, .slice none 0 0, Nat.zero_le _, by simp, hx, he, ⟨rfl, .inl ⟨rfl, rfl⟩⟩, GoI.of_below h hw⟩
  cases L with
  | nil => exact callsIn_wide.1 ((take_stopI w _ now 0 false (fun h => by cases h) (next_noI _ base g s T v u (h.below hb))).mono fun e w' hh => hno e w' (fun x hx => by cases hx) hh)
  | cons x L =>
    by_cases hx : x.2 ≤ now
    · exact callsIn_wide.1 (take_yesI w base g s x (x :: L) T v u now h rfl hx hn hT hrs)
    · exact callsIn_wide.1 ((take_stopI w _ now x.2 true (fun _ => by omega) (next_yesI _ base g s x L T v u (h.below hb))).mono fun e w' hh => hno e w' (fun y hy => by cases hy; omega) hh)

theorem set_nil (w : World) (k at_ : Int) : Calls Try.prog 31 #[.pointer none, .int .i64 k, .int .i64 at_] w fun e w' => (∃ v, e = .returned v) ∧ w = w' := by
  go_enter Try.func31, Try.ntmps31
  go_wp2_with fail
  refine bodyPost_ret (results_none rfl _ _ _) rfl ?_
  exact ⟨⟨_, rfl⟩, rfl⟩
theorem when_nil (w : World) (k : Int) : Calls Try.prog 33 #[.pointer none, .int .i64 k] w fun e w' => e = .returned (.tuple #[.int .i64 0, .bool false]) ∧ w = w' := by
  go_enter Try.func33, Try.ntmps33
  go_wp2_with fail
  go_ret2
  exact ⟨rfl, rfl⟩
theorem len_nil (w : World) : Calls Try.prog 83 #[.pointer none] w fun e w' => e = .returned (.int .i64 0) ∧ w = w' := by
  go_enter Try.func83, Try.ntmps83
  go_wp2_with fail
  go_ret
  exact ⟨rfl, rfl⟩
theorem next_nil (w : World) : Calls Try.prog 59 #[.pointer none] w fun e w' => e = .returned (.tuple #[.int .i64 0, .bool false]) ∧ w' = w := by
  go_enter Try.func59, Try.ntmps59
  go_wp2_with fail
  refine (len_nil _).mono ?_
  rintro e w1 ⟨rfl, rfl⟩
  go_wp2_with fail
  go_ret2
  exact ⟨rfl, rfl⟩
theorem stop_nil (w : World) (k : Int) : Calls Try.prog 30 #[.pointer none, .int .i64 k] w fun e w' => e = .returned (.bool false) ∧ w = w' := by
  go_enter Try.func30, Try.ntmps30
  go_wp2_with fail
  refine (when_nil _ _).mono ?_
  rintro e w1 ⟨rfl, rfl⟩
  go_wp2_with fail
  go_ret
  exact ⟨rfl, rfl⟩
theorem take_nil (w : World) (now : Int) : Calls Try.prog 44 #[.pointer none, .int .i64 now] w fun e w' => e = .returned (.slice none 0 0) ∧ Below w.heap.size w w' :=
  callsIn_wide.1 (take_stopI w none now 0 false (fun h => by cases h) (next_nil _))
theorem nil_inT (n : Nat) (hn : 1 ≤ n) (l gb : Nat) (J Jx : List (Int × Int) → World → Prop) (W : World) (hbox : W.heap[gb]? = some (.cells #[.pointer none] 72 (0, 0))) (h0 : J [] W) :
    CallsIn Fence.wide n Try.prog 84 #[.func (.yield l) #[] #[], .pointer (some ⟨gb, 0, none⟩)] W fun e W' => (∃ v, e = .returned v) ∧ ((∃ ys, ys = [] ∧ J ys W') ∨ (∃ pre, pre <+: [] ∧ Jx pre W')) := by
  have cb : W.cell? ⟨gb, 0, none⟩ = some (.pointer none) := by rw [cell_of_row _ _ _ _ _ _ hbox]; rfl
  clear hbox
  refine callsIn_of_wp Try.func84 rfl trivial ?_ rfl
  simp only [Try.ntmps84, List.size_toArray, List.length_cons, List.length_nil, Nat.reduceAdd, Nat.reduceSub, Array.replicate_succ, Array.replicate_zero, List.push_toArray, List.append_toArray, List.nil_append, List.cons_append]
  gi_wp2_with fail
  refine bodyPost_ret (results_none rfl _ _ _) rfl ?_
  exact ⟨⟨_, rfl⟩, .inl ⟨_, rfl, h0⟩⟩
theorem nil_stopsT (n : Nat) (hn : 1 ≤ n) (gb : Nat) (w : World) (hbox : w.heap[gb]? = some (.cells #[.pointer none] 72 (0, 0))) :
    SeqStopsK Fence.wide n Try.prog 84 #[.pointer (some ⟨gb, 0, none⟩)] encTI (KpT 98) (fun ys => ys = []) (fun pre => pre <+: []) 0 w := fun l J Jx W hW _ _ _ h0 =>
  nil_inT n hn l gb J Jx W ((hW.block gb (Array.getElem?_eq_some_iff.1 hbox).1).trans hbox) h0

theorem istick_yes (w : World) (n : Int) (h0 : 0 ≤ n) (h1 : n ≤ 2147483647) : Calls Try.prog 52 #[.int .i64 n] w fun e w' => e = .returned (.bool true) ∧ w = w' := by
  go_enter Try.func52, Try.ntmps52
  go_wp2_with fail
  go_ret
  exact ⟨rfl, rfl⟩
theorem every_235 (w : World) : Calls Try.prog 34 #[.int .i64 2, .int .i64 3, .int .i64 5] w fun e w' => e = .returned (.tuple #[.int .i64 8, .bool true]) ∧ w = w' := by
  go_enter Try.func34, Try.ntmps34
  go_wp2_with (go_at_call 52; refine (istick_yes _ _ (by decide) (by decide)).mono ?_; rintro e wq ⟨rfl, hwq⟩; subst hwq)
  go_ret2
  exact ⟨rfl, rfl⟩
end Go.Proofs.Ytiidgcgamcgipaa