/- MailboxNone. -/
import Derived.Test.YtgnfohncgfgecaaMk
namespace Go.Proofs.Ytgnfohncgfgecaa
open Go.RowKit Go.Shelf
attribute [local go_sem] Oper.semAt_some

theorem run_equalIn_func_nil {P : Program} (w : World) (d : Nat) (t : TypeId) {x1 x2 : Array TypeId} {x3 : Bool} (h : P.underlying t = some (.func x1 x2 x3)) (f : Fn) (cap lb : Array Value) : (Op.equalIn (d + 1) t (.func f cap lb) .nilFunc).run P w = .ok false w := by
  simp [Op.equalIn, run_underlying h]
theorem run_eql_func_nil {P : Program} (w : World) (t : TypeId) {x1 x2 : Array TypeId} {x3 : Bool} (h : P.underlying t = some (.func x1 x2 x3)) (f : Fn) (cap lb : Array Value) : (binOp .eql t (.func f cap lb) .nilFunc).run P w = .ok (.bool false) w := by
  simp only [binOp]
  simp [Op.equal, Op.maxDepth, run_equalIn_func_nil w 9999 t h f cap lb]
theorem eql_told (w : World) (g : Nat) : (binOp .eql 56 (.func (Fn.func 36) #[] #[.pointer (some ⟨g, 0, none⟩)]) .nilFunc).run Try.prog w = .ok (.bool false) w := run_eql_func_nil w _ Try.underlying56 _ _ _

/-- The loop's boxes: the frame, the count. -/
structure NoB (w : World) (hn : Nat) (W : World) (id m : Int) (r : Bool) (d : Nat → Int) : Prop where
  f : FrAt W w.heap.size id r m d
  n : W.heap[hn]? = some (.cells #[.int .i64 0] 3 (0, 0))
def NoI (w : World) (hn : Nat) (id m : Int) (r : Bool) (d : Nat → Int) (_ : List Ltr) (W : World) : Prop := NoB w hn W id m r d ∧ Below w.heap.size w W
theorem NoI_own (w : World) (hn : Nat) (id m : Int) (r : Bool) (d : Nat → Int) (Bn : Nat) (h1 : w.heap.size < Bn) (h2 : hn < Bn) : OwnFrom Bn (NoI w hn id m r d) := fun pre W W' row hs hg hr =>
  ⟨⟨heap_own (β := List Ltr) w.heap.size Bn (fun _ => _) h1 pre W W' row hs.1.f hg hr, heap_own (β := List Ltr) hn Bn (fun _ => _) h2 pre W W' row hs.1.n hg hr⟩, ownFrom_below (β := List Ltr) (Nat.le_refl _) (by omega) pre W W' row hs.2 hg hr⟩
set_option maxRecDepth 100000 in
set_option maxHeartbeats 4000000 in
theorem none_in (id m : Int) (r : Bool) (d : Nat → Int) (w : World) :
    CallsIn Fence.wide 9 Try.prog 6 #[.agg #[.int .i64 id, .bool r, .int .i64 m, .int .u8 (d 0), .int .u8 (d 1), .int .u8 (d 2), .int .u8 (d 3), .int .u8 (d 4), .int .u8 (d 5), .int .u8 (d 6), .int .u8 (d 7)]] w fun e w' => e = .returned (.bool true) ∧ Below w.heap.size w w' := by
  have hb0 : Below w.heap.size w (w.alloc (.cells #[.int .i64 id, .bool r, .int .i64 m, .int .u8 (d 0), .int .u8 (d 1), .int .u8 (d 2), .int .u8 (d 3), .int .u8 (d 4), .int .u8 (d 5), .int .u8 (d 6), .int .u8 (d 7)] 30)) := (Below.refl _ _).alloc (Nat.le_refl _) _
  have hf0 := frame_new w id m r d
  have HB0 := Lib.hid hb0
  have HF0 := Lib.hid hf0
  clear hb0 hf0
  refine callsIn_of_wp_marks Try.func6 rfl trivial ?_ rfl
  simp only [Try.ntmps6, List.size_toArray, List.length_cons, List.length_nil, Nat.reduceAdd, Nat.reduceSub, Array.replicate_succ, Array.replicate_zero, List.push_toArray, List.append_toArray, List.nil_append, List.cons_append]
  gi_wp2_with fail
  refine ⟨trivial, ?_⟩
  generalize w.alloc (.cells #[.int .i64 id, .bool r, .int .i64 m, .int .u8 (d 0), .int .u8 (d 1), .int .u8 (d 2), .int .u8 (d 3), .int .u8 (d 4), .int .u8 (d 5), .int .u8 (d 6), .int .u8 (d 7)] 30) = w0 at *
  refine (callsIn_wide.2 (clear_nil _)).mono ?_
  rintro e w1 ⟨⟨v, rfl⟩, rfl⟩
  gi_wp2_with fail
  refine ⟨trivial, ?_⟩
  refine (callsIn_wide.2 (best_nil _)).mono ?_
  rintro e w2 ⟨rfl, hb2⟩
  have hb3 : Below w2.heap.size w2 (w2.alloc (.cells #[.int .i64 0, .bool false, .int .i64 0, .int .u8 0, .int .u8 0, .int .u8 0, .int .u8 0, .int .u8 0, .int .u8 0, .int .u8 0, .int .u8 0] 30)) := (Below.refl _ _).alloc (Nat.le_refl _) _
  have HB3 := Lib.hid (kF hb3 (kF hb2 HB0.out))
  have HF3 := Lib.hid ((HF0.out.below hb2 HF0.out.lt).below hb3 (HF0.out.below hb2 HF0.out.lt).lt)
  clear hb2 hb3
  gi_wp2_with fail
  refine ⟨trivial, ?_⟩
  generalize w2.alloc (.cells #[.int .i64 0, .bool false, .int .i64 0, .int .u8 0, .int .u8 0, .int .u8 0, .int .u8 0, .int .u8 0, .int .u8 0, .int .u8 0, .int .u8 0] 30) = w3 at *
  refine (callsIn_wide.2 (take_nil _)).mono ?_
  rintro e w4 ⟨rfl, hb4⟩
  have hb5 : Below w4.heap.size w4 (w4.alloc (.cells #[.int .i64 0, .bool false, .int .i64 0, .int .u8 0, .int .u8 0, .int .u8 0, .int .u8 0, .int .u8 0, .int .u8 0, .int .u8 0, .int .u8 0] 30)) := (Below.refl _ _).alloc (Nat.le_refl _) _
  have HB5 := Lib.hid (kF hb5 (kF hb4 HB3.out))
  have HF5 := Lib.hid ((HF3.out.below hb4 HF3.out.lt).below hb5 (HF3.out.below hb4 HF3.out.lt).lt)
  clear hb4 hb5
  gi_wp2_with fail
  refine ⟨trivial, ?_⟩
  generalize w4.alloc (.cells #[.int .i64 0, .bool false, .int .i64 0, .int .u8 0, .int .u8 0, .int .u8 0, .int .u8 0, .int .u8 0, .int .u8 0, .int .u8 0, .int .u8 0] 30) = w5 at *
  refine (callsIn_wide.2 (cut_nil _ _ rfl ⟨_, _, _, rfl⟩)).mono ?_
  rintro e w6 ⟨rfl, hb6⟩
  have hb7 : Below w6.heap.size w6 (w6.alloc (.cells #[.int .i64 0] 3)) := (Below.refl _ _).alloc (Nat.le_refl _) _
  have HB7 := Lib.hid (kF hb7 (kF hb6 HB5.out))
  have HF7 := Lib.hid ((HF5.out.below hb6 HF5.out.lt).below hb7 (HF5.out.below hb6 HF5.out.lt).lt)
  have HN7 := Lib.hid (show (w6.alloc (.cells #[.int .i64 0] 3)).heap[w6.heap.size]? = some (.cells #[.int .i64 0] 3 (0, 0)) from heap_alloc_new w6 _)
  have HZ7 := Lib.hid (show (w6.alloc (.cells #[.int .i64 0] 3)).heap.size = w6.heap.size + 1 by simp)
  have HW6 := Lib.hid (show w.heap.size < w6.heap.size by have := (HF5.out.below hb6 HF5.out.lt).lt; exact this)
  clear hb6 hb7
  gi_wp2_with fail
  refine ⟨trivial, ?_⟩
  generalize hn : w6.heap.size = hn at *
  clear hn
  generalize w6.alloc (.cells #[.int .i64 0] 3) = w7 at *
  refine (callsIn_wide.2 (all_any _ _)).mono ?_
  rintro e w8 ⟨rfl, rfl⟩
  have hb8 : Below w7.heap.size w7 (w7.alloc (.cells #[.pointer none] 23)) := (Below.refl _ _).alloc (Nat.le_refl _) _
  have HB8 := Lib.hid (kF hb8 HB7.out)
  have HP8 := Lib.hid (show (w7.alloc (.cells #[.pointer none] 23)).heap[w7.heap.size]? = some (.cells #[.pointer none] 23 (0, 0)) from heap_alloc_new w7 _)
  have HI8 := Lib.hid (show NoB w hn (w7.alloc (.cells #[.pointer none] 23)) id m r d from ⟨HF7.out.below hb8 HF7.out.lt, (hb8.block _ (by rw [HZ7.out]; omega)).trans HN7.out⟩)
  have HZ8 := Lib.hid (show (w7.alloc (.cells #[.pointer none] 23)).heap.size = hn + 2 by simp; rw [HZ7.out])
  have heq := eql_told
  clear hb8
  gi_wp2_with fail
  rw [HZ7.out]
  have hp8 := HP8.out
  rw [HZ7.out] at hp8
  generalize w7.alloc (.cells #[.pointer none] 23) = W2 at *
  have hst := nil_stops 8 (by omega) (hn + 1) (· = hn) (fun _ => none) W2 hp8
  have hI : NoI w hn id m r d [] W2 := ⟨HI8.out, HB8.out⟩
  have hwn := HW6.out
  refine wpIn_rangeFunc_ownG rfl (by omega) (gf := 36) (lb := #[.pointer (some ⟨hn + 1, 0, none⟩)]) rfl trivial (enters_of Try.func36 (by kernel_rfl) rfl)
    hst kq_t (kq_b fun _ _ _ _ => rfl) (Below.refl _ _) (fun _ => rfl)
    (NoI w hn id m r d) (fun _ _ _ => False) (NoI_own w hn id m r d _ (by rw [HZ8.out]; omega) (by rw [HZ8.out]; omega)) (fun _ => fun _ _ _ _ h _ _ => h) hI
    (fun x => { tmps := #[.agg #[.int .i64 id, .bool r, .int .i64 m, .int .u8 (d 0), .int .u8 (d 1), .int .u8 (d 2), .int .u8 (d 3), .int .u8 (d 4), .int .u8 (d 5), .int .u8 (d 6), .int .u8 (d 7)], .pointer (some ⟨w.heap.size, 0, none⟩), .bool false, .pointer none, .pointer (some ⟨w2.heap.size, 0, none⟩), .bool false, .pointer (some ⟨w4.heap.size, 0, none⟩), .bool false, .pointer (some ⟨hn, 0, none⟩), .func (Fn.func 36) #[] #[.pointer (some ⟨hn + 1, 0, none⟩)], .pointer none, v, .tuple #[.agg #[.int .i64 0, .bool false, .int .i64 0, .int .u8 0, .int .u8 0, .int .u8 0, .int .u8 0, .int .u8 0, .int .u8 0, .int .u8 0, .int .u8 0], .bool false], .pointer none, .tuple #[.agg #[.int .i64 0, .bool false, .int .i64 0, .int .u8 0, .int .u8 0, .int .u8 0, .int .u8 0, .int .u8 0, .int .u8 0, .int .u8 0, .int .u8 0], .bool false], .agg #[.int .i64 0, .bool false, .int .i64 0, .int .u8 0, .int .u8 0, .int .u8 0, .int .u8 0, .int .u8 0, .int .u8 0, .int .u8 0, .int .u8 0], .bool false, .tuple #[.agg #[.int .i64 0, .bool false, .int .i64 0, .int .u8 0, .int .u8 0, .int .u8 0, .int .u8 0, .int .u8 0, .int .u8 0, .int .u8 0, .int .u8 0], .bool false], .pointer none, .tuple #[.agg #[.int .i64 0, .bool false, .int .i64 0, .int .u8 0, .int .u8 0, .int .u8 0, .int .u8 0, .int .u8 0, .int .u8 0, .int .u8 0, .int .u8 0], .bool false], .agg #[.int .i64 0, .bool false, .int .i64 0, .int .u8 0, .int .u8 0, .int .u8 0, .int .u8 0, .int .u8 0, .int .u8 0, .int .u8 0, .int .u8 0], .bool false, .pointer none, .int .i64 0, .pointer none, .func (Fn.func 36) #[] #[.pointer (some ⟨hn + 1, 0, none⟩)], .func (Fn.func 36) #[] #[.pointer (some ⟨hn + 1, 0, none⟩)], .bool false, .func (Fn.func 36) #[] #[.pointer (some ⟨hn + 1, 0, none⟩)], .agg #[.int .i64 x.id, .bool x.r, .int .i64 x.n, .int .u8 (x.d 0), .int .u8 (x.d 1), .int .u8 (x.d 2), .int .u8 (x.d 3), .int .u8 (x.d 4), .int .u8 (x.d 5), .int .u8 (x.d 6), .int .u8 (x.d 7)], .bool x.s, undef, undef, undef, undef, undef, undef, undef, undef, undef, undef, undef, undef, undef, undef, undef, undef, undef, undef, undef, undef, undef, undef, undef, undef, undef, undef, undef, undef, undef, undef, undef, undef, undef, undef, undef], defers := [] }) ?assign ?body ?done ?stop
  case assign =>
    intro lp x W K hK
    gi_wp2
    exact hK
  case body =>
    rintro lp pre x W _ hlen
    exact absurd hlen (Nat.not_lt_zero _)
  case stop =>
    rintro D cc pre W hD hSp hX hK
    exact absurd hX (fun h => h)
  case done =>
    rintro D ys W hD rfl ⟨hbx, hbw⟩ hK
    have c8 : W.cell? ⟨hn, 0, none⟩ = some (.int .i64 0) := by rw [cell_of_row _ _ _ _ _ _ hbx.n]; rfl
    have hS : ∀ x, Below W.heap.size W x → x.cell? ⟨hn, 0, none⟩ = some (.int .i64 0) ∧ x.cell? ⟨w.heap.size, 0, none⟩ = some (.int .i64 id) ∧ x.cell? ⟨w.heap.size, 1, none⟩ = some (.bool r) ∧ x.cell? ⟨w.heap.size, 2, none⟩ = some (.int .i64 m) ∧ x.cell? ⟨w.heap.size, 3, none⟩ = some (.int .u8 (d 0)) ∧ x.cell? ⟨w.heap.size, 4, none⟩ = some (.int .u8 (d 1)) ∧ x.cell? ⟨w.heap.size, 5, none⟩ = some (.int .u8 (d 2)) ∧ x.cell? ⟨w.heap.size, 6, none⟩ = some (.int .u8 (d 3)) ∧ x.cell? ⟨w.heap.size, 7, none⟩ = some (.int .u8 (d 4)) ∧ x.cell? ⟨w.heap.size, 8, none⟩ = some (.int .u8 (d 5)) ∧ x.cell? ⟨w.heap.size, 9, none⟩ = some (.int .u8 (d 6)) ∧ x.cell? ⟨w.heap.size, 10, none⟩ = some (.int .u8 (d 7)) := fun x hx => ⟨(hx.cell (p := ⟨hn, 0, none⟩) (Array.getElem?_eq_some_iff.1 hbx.n).1).trans c8, (hbx.f.below hx hbx.f.lt).cells⟩
    have hDD : ∀ x, Below W.heap.size W x → x.heap[D]? = some (.deferred (some [])) := fun x hx => (hx.block D (Array.getElem?_eq_some_iff.1 hK).1).trans hK
    have HS := Lib.hid hS
    have HD := Lib.hid hDD
    have HBW := Lib.hid hbw
    have hS0 := hS W (Below.refl _ _)
    have e0 : cntL true [] = 0 := rfl
    have e1 : cntL false [] = 0 := rfl
    clear hbx hK c8 hS hDD hbw
    gi_wp2_with fail
    refine wpIn_wide.2 ?_
    go_region_held3 (fun w' => w'.cell? ⟨hn, 0, none⟩ = some (.int .i64 0) ∧ w'.cell? ⟨w.heap.size, 0, none⟩ = some (.int .i64 id) ∧ w'.cell? ⟨w.heap.size, 1, none⟩ = some (.bool r) ∧ w'.cell? ⟨w.heap.size, 2, none⟩ = some (.int .i64 m) ∧ w'.cell? ⟨w.heap.size, 3, none⟩ = some (.int .u8 (d 0)) ∧ w'.cell? ⟨w.heap.size, 4, none⟩ = some (.int .u8 (d 1)) ∧ w'.cell? ⟨w.heap.size, 5, none⟩ = some (.int .u8 (d 2)) ∧ w'.cell? ⟨w.heap.size, 6, none⟩ = some (.int .u8 (d 3)) ∧ w'.cell? ⟨w.heap.size, 7, none⟩ = some (.int .u8 (d 4)) ∧ w'.cell? ⟨w.heap.size, 8, none⟩ = some (.int .u8 (d 5)) ∧ w'.cell? ⟨w.heap.size, 9, none⟩ = some (.int .u8 (d 6)) ∧ w'.cell? ⟨w.heap.size, 10, none⟩ = some (.int .u8 (d 7)))
      (first | exact HS.out _ (kD _) | exact HS.out _ (Below.refl _ _) | exact HS.out _ k7 | exact HS.out _ k6 | exact HS.out _ k5 | exact HS.out _ k4 | exact HS.out _ k3 | exact HS.out _ k2 | exact HS.out _ k1)
      (first
        | (go_at_call 18; refine (live_any _).mono ?_; rintro e x1 ⟨rfl, hb⟩; have k1 := kF hb (kD W); clear hb)
        | (go_at_call 9; refine (put_nil _ _ _ _ _ _).mono ?_; rintro e x2 ⟨rfl, hb⟩; have k2 := kF hb k1; clear hb)
        | (go_at_call 21; with_reducible refine (lennil_any _ true).mono ?_; rintro e x3 ⟨rfl, hb⟩; have k3 := kF hb k2; clear hb)
        | (go_at_call 21; with_reducible refine (lennil_any _ false).mono ?_; rintro e x4 ⟨rfl, hb⟩; have k4 := kF hb k3; clear hb)
        | (go_at_call 23; refine (lost_nil _).mono ?_; rintro e x5 ⟨rfl, rfl⟩; have k5 := k4)
        | (go_at_call 16; refine (fork_nil _).mono ?_; rintro e x6 ⟨rfl, rfl⟩; have k6 := k5))
    have hb6 := (HBW.out.trans (k4.mono HBW.out.size)).grown (grownBy_putObj' x4 D (.deferred none)) (by have := HBW.out.size; have := k4.size; omega) (fun k e => by cases e; have := HB8.out.size; have := HZ8.out; omega)
    have HB6 := Lib.hid hb6
    have HK4 := Lib.hid (HD.out _ k4)
    clear hb6
    gi_wp2_with fail
    refine ⟨by simp, .inl ⟨_, _, rfl, run_takeDeferred HK4.out, ?_⟩⟩
    exact ⟨_, results_tmp rfl _ _ _, rfl, HB6.out⟩
theorem none_any (id m : Int) (r : Bool) (d : Nat → Int) (w : World) :
    Calls Try.prog 6 #[.agg #[.int .i64 id, .bool r, .int .i64 m, .int .u8 (d 0), .int .u8 (d 1), .int .u8 (d 2), .int .u8 (d 3), .int .u8 (d 4), .int .u8 (d 5), .int .u8 (d 6), .int .u8 (d 7)]] w fun e w' => e = .returned (.bool true) ∧ Below w.heap.size w w' := callsIn_wide.1 (none_in id m r d w)
end Go.Proofs.Ytgnfohncgfgecaa
