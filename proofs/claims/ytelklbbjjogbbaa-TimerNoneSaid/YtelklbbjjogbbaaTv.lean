/- Nil timers are never due. -/
import Derived.Test.YtelklbbjjogbbaaTu
import Derived.Deep.RegionHeld3
namespace Go.Proofs.Ytelklbbjjogbbaa
open Go.RowKit Go.Shelf
attribute [local go_sem] Oper.semAt_some
set_option linter.unusedSimpArgs false
set_option linter.unusedVariables false

theorem run_equalIn_func_nil {P : Program} (w : World) (d : Nat) (t : TypeId) {x1 x2 : Array TypeId} {x3 : Bool} (h : P.underlying t = some (.func x1 x2 x3)) (f : Fn) (cap lb : Array Value) : (Op.equalIn (d + 1) t (.func f cap lb) .nilFunc).run P w = .ok false w := by
  simp [Op.equalIn, run_underlying h]
theorem run_eql_func_nil {P : Program} (w : World) (t : TypeId) {x1 x2 : Array TypeId} {x3 : Bool} (h : P.underlying t = some (.func x1 x2 x3)) (f : Fn) (cap lb : Array Value) : (binOp .eql t (.func f cap lb) .nilFunc).run P w = .ok (.bool false) w := by
  simp only [binOp]
  simp [Op.equal, Op.maxDepth, run_equalIn_func_nil w 9999 t h f cap lb]
theorem eql_told (w : World) (g : Nat) : (binOp .eql 55 (.func (Fn.func 40) #[] #[.pointer (some ⟨g, 0, none⟩)]) .nilFunc).run Try.prog w = .ok (.bool false) w := run_eql_func_nil w _ Try.underlying55 _ _ _

def NoI (w : World) (_ : List (Int × Int)) (W : World) : Prop := W.heap[w.heap.size]? = some (.cells #[.int .i64 0] 3 (0, 0)) ∧ Below w.heap.size w W
theorem NoI_own (w : World) (N : Nat) (hN : w.heap.size < N) : OwnFrom N (NoI w) := by
  rintro pre W W' row ⟨h, hb⟩ hg hr
  exact ⟨((keeps_cells hg (fun r e => (hr r e).2) 3).2 _ _ _ h).trans h, hb.grown hg hb.size (fun k e => by have := (hr k e).1; omega)⟩
set_option maxRecDepth 100000 in
set_option maxHeartbeats 4000000 in
theorem none_in (k at_ : Int) (w : World) :
    CallsIn Fence.wide 9 Try.prog 6 #[.int .i64 k, .int .i64 at_] w fun e w' => e = .returned (.bool true) ∧ Below w.heap.size w w' := by
  have hb0 : Below w.heap.size w (w.alloc (.cells #[.int .i64 0] 3)) := (Below.refl _ _).alloc (Nat.le_refl _) _
  have hn0 := heap_alloc_new w (.cells #[.int .i64 0] 3)
  have hz0 : (w.alloc (.cells #[.int .i64 0] 3)).heap.size = w.heap.size + 1 := by simp
  have HB0 := Lib.hid hb0
  have HN0 := Lib.hid hn0
  have HZ0 := Lib.hid hz0
  have heq := eql_told
  clear hb0 hn0 hz0
  refine callsIn_of_wp_marks Try.func6 rfl trivial ?_ rfl
  simp only [Try.ntmps6, List.size_toArray, List.length_cons, List.length_nil, Nat.reduceAdd, Nat.reduceSub, Array.replicate_succ, Array.replicate_zero, List.push_toArray, List.append_toArray, List.nil_append, List.cons_append]
  gi_wp2_with fail
  refine ⟨trivial, ?_⟩
  refine (callsIn_wide.2 (set_nil _ _ _)).mono ?_
  rintro e w1 ⟨⟨v, rfl⟩, rfl⟩
  gi_wp2_with fail
  refine ⟨trivial, ?_⟩
  refine (callsIn_wide.2 (when_nil _ _)).mono ?_
  rintro e w1 ⟨rfl, rfl⟩
  gi_wp2_with fail
  refine ⟨trivial, ?_⟩
  refine (callsIn_wide.2 (next_nil _)).mono ?_
  rintro e w1 ⟨rfl, hw1⟩
  rw [hw1]
  clear hw1 w1
  gi_wp2_with fail
  refine ⟨trivial, ?_⟩
  generalize w.alloc (.cells #[.int .i64 0] 3) = w0 at HB0 HN0 HZ0 ⊢
  refine (callsIn_wide.2 (tall_anyI _ _)).mono ?_
  rintro e w2 ⟨rfl, rfl⟩
  have hb8 : Below w0.heap.size w0 (w0.alloc (.cells #[.pointer none] 23)) := (Below.refl _ _).alloc (Nat.le_refl _) _
  have HB8 := Lib.hid (HB0.out.trans (hb8.mono HB0.out.size))
  have HP8 := Lib.hid (show (w0.alloc (.cells #[.pointer none] 23)).heap[w0.heap.size]? = some (.cells #[.pointer none] 23 (0, 0)) from heap_alloc_new w0 _)
  have HN8 := Lib.hid ((hb8.block _ (by rw [HZ0.out]; omega)).trans HN0.out)
  have HZ8 := Lib.hid (show (w0.alloc (.cells #[.pointer none] 23)).heap.size = w.heap.size + 2 by simp; rw [HZ0.out])
  clear hb8
  gi_wp2_with fail
  rw [HZ0.out]
  have hp8 := HP8.out
  rw [HZ0.out] at hp8
  generalize w0.alloc (.cells #[.pointer none] 23) = W2 at HB8 HP8 HN8 HZ8 hp8 ⊢
  have hst := nil_stopsT 8 (by omega) (w.heap.size + 1) W2 hp8
  have hI : NoI w [] W2 := ⟨HN8.out, HB8.out⟩
  refine wpIn_rangeFunc_ownG rfl (by omega) (gf := 40) (lb := #[.pointer (some ⟨w.heap.size + 1, 0, none⟩)]) rfl trivial (enters_of Try.func40 (by kernel_rfl) rfl)
    hst kpt_t (fun W l o o' _ ho hc _ => kpt_put ho hc) (Below.refl _ _) (fun _ => rfl)
    (NoI w) (fun _ _ _ => False) (NoI_own w _ (by rw [HZ8.out]; omega)) (fun _ => fun _ _ _ _ h _ _ => h) hI
    (fun x => { tmps := #[.int .i64 k, .int .i64 at_, undef, undef, .bool false, .pointer none, .int .i64 0, .bool false, .int .i64 0, .bool false, .pointer (some ⟨w.heap.size, 0, none⟩), .func (Fn.func 40) #[] #[.pointer (some ⟨w.heap.size + 1, 0, none⟩)], .pointer none, .int .i64 k, .int .i64 at_, v, .tuple #[.int .i64 0, .bool false], .pointer none, .int .i64 k, .tuple #[.int .i64 0, .bool false], .int .i64 0, .bool false, .tuple #[.int .i64 0, .bool false], .pointer none, .tuple #[.int .i64 0, .bool false], .int .i64 0, .bool false, .pointer none, .func (Fn.func 40) #[] #[.pointer (some ⟨w.heap.size + 1, 0, none⟩)], .func (Fn.func 40) #[] #[.pointer (some ⟨w.heap.size + 1, 0, none⟩)], .bool false, .func (Fn.func 40) #[] #[.pointer (some ⟨w.heap.size + 1, 0, none⟩)], .int .i64 x.1, .int .i64 x.2, undef, undef, undef, undef, undef, undef, undef, undef, undef, undef, undef, undef, undef, undef, undef, undef, undef, undef, undef, undef, undef, undef, undef, undef, undef, undef, undef, undef, undef, undef, undef, undef, undef, undef, undef, undef], defers := [] }) ?assign ?body ?done ?stop
  case assign =>
    intro lp x W K hK
    dsimp only [encTI]
    gi_wp2
    exact hK
  case body =>
    rintro lp pre x W _ hlen
    exact absurd hlen (Nat.not_lt_zero _)
  case stop =>
    rintro D cc pre W hD hSp hX hK
    exact absurd hX (fun h => h)
  case done =>
    rintro D ys W hD rfl ⟨hbx, hbw⟩ hK
    have c8 : W.cell? ⟨w.heap.size, 0, none⟩ = some (.int .i64 0) := by rw [cell_of_row _ _ _ _ _ _ hbx]; rfl
    have hS : ∀ x, Below W.heap.size W x → x.cell? ⟨w.heap.size, 0, none⟩ = some (.int .i64 0) := fun x hx => by rw [cell_of_row _ _ _ _ _ _ ((hx.block _ (Array.getElem?_eq_some_iff.1 hbx).1).trans hbx)]; rfl
    have hDD : ∀ x, Below W.heap.size W x → x.heap[D]? = some (.deferred (some [])) := fun x hx => (hx.block D (Array.getElem?_eq_some_iff.1 hK).1).trans hK
    have HS := Lib.hid hS
    have HD := Lib.hid hDD
    have HBW := Lib.hid hbw
    clear hbx hK c8 hS hDD hbw
    gi_wp2_with fail
    refine wpIn_wide.2 ?_
    go_region_held3 (fun w' => w'.cell? ⟨w.heap.size, 0, none⟩ = some (.int .i64 0))
      (first | exact HS.out _ (kD _) | exact HS.out _ (Below.refl _ _) | exact HS.out _ k5 | exact HS.out _ k4 | exact HS.out _ k3 | exact HS.out _ k2 | exact HS.out _ k1)
      (first
        | (go_at_call 22; refine (live_any _).mono ?_; rintro e x1 ⟨rfl, hb⟩; have k1 := kF hb (kD W); clear hb)
        | (go_at_call 11; refine (stop_nil _ _).mono ?_; rintro e x2 ⟨rfl, rfl⟩; have k2 := k1)
        | (go_at_call 14; refine (take_nil _ _).mono ?_; rintro e x3 ⟨rfl, hb⟩; have k3 := kF hb k2; clear hb)
        | (go_at_call 19; refine (len_nil _).mono ?_; rintro e x4 ⟨rfl, rfl⟩; have k4 := k3)
        | (go_at_call 15; refine (fork_nil _).mono ?_; rintro e x5 ⟨rfl, rfl⟩; have k5 := k4))
    have hb6 := (HBW.out.trans (k3.mono HBW.out.size)).grown (grownBy_putObj' x3 D (.deferred none)) (by have := HBW.out.size; have := k3.size; omega) (fun k e => by cases e; have := HB8.out.size; have := HZ8.out; omega)
    have HB6 := Lib.hid hb6
    have HK4 := Lib.hid (HD.out _ k3)
    clear hb6
    gi_wp2_with fail
    refine ⟨by simp, .inl ⟨_, _, rfl, run_takeDeferred HK4.out, ?_⟩⟩
    exact ⟨_, results_tmp rfl _ _ _, rfl, HB6.out⟩
theorem none_any (k at_ : Int) (w : World) :
    Calls Try.prog 6 #[.int .i64 k, .int .i64 at_] w fun e w' => e = .returned (.bool true) ∧ Below w.heap.size w w' := callsIn_wide.1 (none_in k at_ w)
end Go.Proofs.Ytelklbbjjogbbaa
