/- BeatNone: a nil watch. -/
import Derived.RangeFuncBox
import Derived.Test.YtiidgcgamcgipaaBz
import Derived.Test.YtiidgcgamcgipaaBRng
import Derived.Shelf.Abstract
import Derived.Shelf.RegionOpen
import Derived.WalkKit
import Derived.OwnWalkIn
import Derived.TacticsInMore
import Derived.LoopNIn
import Derived.LoopIn
namespace Go.Proofs.Ytiidgcgamcgipaa
open Go.RowKit Go.Shelf
attribute [local go_sem] Oper.semAt_some
set_option linter.unusedSimpArgs false
set_option linter.unusedVariables false

theorem run_equalIn_func_nil {P : Program} (w : World) (d : Nat) (t : TypeId) {x1 x2 : Array TypeId} {x3 : Bool} (h : P.underlying t = some (.func x1 x2 x3)) (f : Fn) (cap lb : Array Value) : (Op.equalIn (d + 1) t (.func f cap lb) .nilFunc).run P w = .ok false w := by
  simp [Op.equalIn, run_underlying h]
theorem run_eql_func_nil {P : Program} (w : World) (t : TypeId) {x1 x2 : Array TypeId} {x3 : Bool} (h : P.underlying t = some (.func x1 x2 x3)) (f : Fn) (cap lb : Array Value) : (binOp .eql t (.func f cap lb) .nilFunc).run P w = .ok (.bool false) w := by
  simp only [binOp]
  simp [Op.equal, Op.maxDepth, run_equalIn_func_nil w 9999 t h f cap lb]
theorem eql_nodes (w : World) (g : Nat) : (binOp .eql 66 (.func (Fn.func 46) #[] #[.pointer (some ⟨g, 0, none⟩)]) .nilFunc).run Try.prog w = .ok (.bool false) w := run_eql_func_nil w _ Try.underlying66 _ _ _
theorem nodes_any (w : World) (p : Option Addr) : Calls Try.prog 23 #[.pointer p] w fun e w' => e = .returned (.func (Fn.func 46) #[] #[.pointer (some ⟨w.heap.size, 0, none⟩)]) ∧ w' = w.alloc (.cells #[.pointer p] 53) := by
  go_enter Try.func23, Try.ntmps23
  go_wp2_with fail
  go_ret
  exact ⟨rfl, rfl⟩
def encN (x : Int × Int) : Array Value := #[.int .i64 x.1, .int .i64 x.2]
theorem nodes_nil_L (n : Nat) (hn : 1 ≤ n) (gb : Nat) (w : World) (hbox : w.heap[gb]? = some (.cells #[.pointer none] 53 (0, 0))) :
    SeqL n Try.prog 46 #[.pointer (some ⟨gb, 0, none⟩)] encN (fun _ _ => True) (fun ys => ys = []) (fun pre => pre <+: []) 0 w := by
  intro l J Jx W hW hJ _ _ h0
  have hgl := (Array.getElem?_eq_some_iff.1 hbox).1
  have c1 : (W.alloc (.cells #[.func (.yield l) #[] #[]] 87)).cell? ⟨gb, 0, none⟩ = some (.pointer none) := by
    rw [cell_of_row _ _ _ _ _ _ ((heap_alloc_old _ _ _ (Nat.lt_of_lt_of_le hgl hW.size)).trans ((hW.block gb hgl).trans hbox))]; rfl
  have hJ1 : J [] (W.alloc (.cells #[.func (.yield l) #[] #[]] 87)) := hJ.alloc _ h0
  have HJ1 := Lib.hid hJ1
  clear hJ1 h0 hJ hW hbox
  refine callsIn_of_wp Try.func46 rfl trivial ?_ rfl
  simp only [Try.ntmps46, List.size_toArray, List.length_cons, List.length_nil, Nat.reduceAdd, Nat.reduceSub, Array.replicate_succ, Array.replicate_zero, List.push_toArray, List.append_toArray, List.nil_append, List.cons_append]
  gi_wp2_with fail
  refine bodyPost_ret (results_none rfl _ _ _) rfl ?_
  exact ⟨⟨_, rfl⟩, .inl ⟨_, rfl, HJ1.out⟩⟩
theorem check_nil (w : World) (now : Int) : Calls Try.prog 21 #[.pointer none, .int .i64 now] w fun e w' => e = .returned (.slice none 0 0) ∧ w = w' := by
  go_enter Try.func21, Try.ntmps21
  go_wp2
  go_ret
  exact ⟨rfl, rfl⟩
theorem wmode_nil (w : World) (k : Int) : Calls Try.prog 22 #[.pointer none, .int .i64 k] w fun e w' => e = .returned (.tuple #[.int .i64 0, .bool false]) ∧ w = w' := by
  go_enter Try.func22, Try.ntmps22
  go_wp2
  go_ret2
  exact ⟨rfl, rfl⟩
theorem hear_fresh (w0 x : World) (g a b c s : Nat) (id n now : Int) (r : Bool) (d : Nat → Int) (hd : ∀ j, j < 8 → 0 ≤ d j ∧ d j ≤ 255) (h : WaG w0 g a b c s [] [] [] x) :
    Calls Try.prog 20 #[.pointer (some ⟨g, 0, none⟩), .agg #[.int .i64 id, .bool r, .int .i64 n, .int .u8 (d 0), .int .u8 (d 1), .int .u8 (d 2), .int .u8 (d 3), .int .u8 (d 4), .int .u8 (d 5), .int .u8 (d 6), .int .u8 (d 7)], .int .i64 now] x fun e w' => e = .returned (.tuple #[.agg #[.int .i64 0, .int .i64 0, .int .i64 0], .bool false]) ∧ Below x.heap.size x w' := by
  cases hq : decB id r n d with
  | false => exact hear_not g id n now r d x hd hq
  | true =>
    cases hx : isNu now with
    | false => exact hear_num g id n now r d x hd hq hx
    | true => exact hear_unw w0 x g a b c s [] [] [] id n now r d hd h (by decide) hq hx rfl
/-- What the range over nothing finds. -/
structure NnI (w : World) (nb : Nat) (id : Int) (r : Bool) (n : Int) (d : Nat → Int) (X : World) : Prop where
  bx : X.heap[nb]? = some (.cells #[.int .i64 0] 3 (0, 0))
  fr : FrAt X w.heap.size id r n d
  bel : Below w.heap.size w X
theorem NnI.below {w X Y : World} {nb : Nat} {id n : Int} {r : Bool} {d : Nat → Int} (h : NnI w nb id r n d X) (hb : Below X.heap.size X Y) : NnI w nb id r n d Y :=
  ⟨(hb.block _ (Array.getElem?_eq_some_iff.1 h.bx).1).trans h.bx, h.fr.below hb h.fr.lt, h.bel.trans (hb.mono h.bel.size)⟩
def NnL (w : World) (nb : Nat) (id : Int) (r : Bool) (n : Int) (d : Nat → Int) (_ : List (Int × Int)) (X : World) : Prop := NnI w nb id r n d X
theorem NnL_own (w : World) (nb Bn : Nat) (id : Int) (r : Bool) (n : Int) (d : Nat → Int) (h1 : w.heap.size < Bn) (h2 : nb < Bn) : OwnFrom Bn (NnL w nb id r n d) := fun s X Y row h hg hr =>
  ⟨own_heap (β := Unit) nb Bn _ h2 () X Y row h.bx hg hr, own_heap (β := Unit) _ Bn _ h1 () X Y row h.fr hg hr, h.bel.grown hg h.bel.size (fun k e => by have := (hr k e).1; omega)⟩
set_option maxRecDepth 100000 in
set_option maxHeartbeats 4000000 in
theorem none_in (nd id n now : Int) (r : Bool) (d : Nat → Int) (w : World) (hd : ∀ j, j < 8 → 0 ≤ d j ∧ d j ≤ 255) :
    CallsIn Fence.wide 9 Try.prog 6 #[.int .i64 nd, .agg #[.int .i64 id, .bool r, .int .i64 n, .int .u8 (d 0), .int .u8 (d 1), .int .u8 (d 2), .int .u8 (d 3), .int .u8 (d 4), .int .u8 (d 5), .int .u8 (d 6), .int .u8 (d 7)], .int .i64 now] w fun e w' => e = .returned (.bool true) ∧ Below w.heap.size w w' := by
  have HS := Lib.hid (show FrAt (w.alloc (.cells #[.int .i64 id, .bool r, .int .i64 n, .int .u8 (d 0), .int .u8 (d 1), .int .u8 (d 2), .int .u8 (d 3), .int .u8 (d 4), .int .u8 (d 5), .int .u8 (d 6), .int .u8 (d 7)] 24)) w.heap.size id r n d from frame_new w id n r d)
  have HB := Lib.hid (show Below w.heap.size w (w.alloc (.cells #[.int .i64 id, .bool r, .int .i64 n, .int .u8 (d 0), .int .u8 (d 1), .int .u8 (d 2), .int .u8 (d 3), .int .u8 (d 4), .int .u8 (d 5), .int .u8 (d 6), .int .u8 (d 7)] 24)) from (Below.refl _ _).alloc (Nat.le_refl _) _)
  have HHN := Lib.hid (fun x => hear_nil id n now r d x hd)
  have HHF := Lib.hid (fun w0 x g a b c s => hear_fresh w0 x g a b c s id n now r d hd)
  have HEQ := eql_nodes
  clear hd
  refine callsIn_of_wp_marks Try.func6 rfl trivial ?_ rfl
  simp only [Try.ntmps6, List.size_toArray, List.length_cons, List.length_nil, Nat.reduceAdd, Nat.reduceSub, Array.replicate_succ, Array.replicate_zero, List.push_toArray, List.append_toArray, List.nil_append, List.cons_append]
  refine wpIn_wide.2 ?_
  go_wp2_with fail
  generalize (w.alloc (.cells #[.int .i64 id, .bool r, .int .i64 n, .int .u8 (d 0), .int .u8 (d 1), .int .u8 (d 2), .int .u8 (d 3), .int .u8 (d 4), .int .u8 (d 5), .int .u8 (d 6), .int .u8 (d 7)] 24)) = w0 at *
  obtain ⟨f0, f1, f2, f3, f4, f5, f6, f7, f8, f9, f10⟩ := HS.out.cells
  go_wp2_with fail
  refine (HHN.out _).mono ?_
  rintro e w1 ⟨rfl, hb1⟩
  have hba : Below w1.heap.size w1 (w1.alloc (.cells #[.int .i64 0, .int .i64 0, .int .i64 0] 57)) := (Below.refl _ _).alloc (Nat.le_refl _) _
  have hf1 := HS.out.below hb1 HS.out.lt
  have HS1 := Lib.hid (hf1.below hba hf1.lt)
  have HB1 := Lib.hid ((HB.out.trans (hb1.mono HB.out.size)).trans (hba.mono (Nat.le_trans HB.out.size hb1.size)))
  clear hb1 hba hf1 HS HB HHN f0 f1 f2 f3 f4 f5 f6 f7 f8 f9 f10
  go_upto_region 3 with fail
  generalize (w1.alloc (.cells #[.int .i64 0, .int .i64 0, .int .i64 0] 57)) = w2 at *
  go_wp2_with fail
  refine (wmode_nil _ _).mono ?_
  rintro e w3 ⟨rfl, rfl⟩
  go_wp2_with fail
  refine (check_nil _ _).mono ?_
  rintro e w3 ⟨rfl, rfl⟩
  have hba : Below w2.heap.size w2 (w2.alloc (.cells #[.int .i64 0] 3)) := (Below.refl _ _).alloc (Nat.le_refl _) _
  have HN3 := Lib.hid (show NnI w w2.heap.size id r n d (w2.alloc (.cells #[.int .i64 0] 3)) from ⟨heap_alloc_new w2 _, HS1.out.below hba HS1.out.lt, HB1.out.trans (hba.mono HB1.out.size)⟩)
  clear hba HS1
  have HZ := Lib.hid HB1.out.size
  clear HB1
  go_upto_region 5 with fail
  generalize w2.alloc (.cells #[.int .i64 0] 3) = w3 at *
  generalize w2.heap.size = nb at *
  go_wp2_with fail
  refine (nodes_any _ _).mono ?_
  rintro e w4 ⟨rfl, rfl⟩
  have hba : Below w3.heap.size w3 (w3.alloc (.cells #[.pointer none] 53)) := (Below.refl _ _).alloc (Nat.le_refl _) _
  have HN4 := Lib.hid (HN3.out.below hba)
  have HX4 := Lib.hid (heap_alloc_new w3 (.cells #[.pointer none] 53))
  clear hba HN3
  go_wp2_with fail
  generalize w3.alloc (.cells #[.pointer none] 53) = w4 at *
  generalize w3.heap.size = gb at *
  have hst := nodes_nil_L 8 (by omega) gb w4 HX4.out
  have hI : NnL w nb id r n d [] w4 := HN4.out
  have h1 : w.heap.size < w4.heap.size := HN4.out.fr.lt
  have h2 : nb < w4.heap.size := (Array.getElem?_eq_some_iff.1 HN4.out.bx).1
  refine (wpIn_wide (n := 9)).1 ?_
  refine range_L (by omega) (gf := 46) (lb := #[.pointer (some ⟨gb, 0, none⟩)]) rfl (enters_of Try.func46 (by kernel_rfl) rfl) hst (fun _ _ => trivial) (fun _ _ _ _ _ _ _ _ => trivial) (Below.refl _ _) (fun _ => rfl)
    (NnL w nb id r n d) (fun _ _ _ => False) (NnL_own w nb _ id r n d h1 h2) (fun _ => fun _ _ _ _ h _ _ => h) hI ?a1 ?assign ?body ?done ?stop
  case assign =>
    intro lp y X K hK
    dsimp only [encN]
    gi_wp2
    exact hK
  case body =>
    intro lp pre y X _ hlen
    exact absurd hlen (Nat.not_lt_zero _)
  case stop =>
    intro D cc pre X hD hSp hX hK
    exact absurd hX (fun h => h)
  case done =>
    rintro D ys X hD rfl hnX hKD
    have HNX := Lib.hid (show NnI w nb id r n d X from hnX)
    have HKD := Lib.hid hKD
    have HDL := Lib.hid (show w.heap.size ≤ D by omega)
    clear hnX hKD hI hst HN4 HX4 h1 h2
    go_upto_region 10 with fail
    have hd := HKD.out
    refine wp_nopanic (wp_region_last (fun x => x.cell? ⟨w.heap.size, 0, none⟩ = some (.int .i64 id) ∧ x.cell? ⟨w.heap.size, 1, none⟩ = some (.bool r) ∧ x.cell? ⟨w.heap.size, 2, none⟩ = some (.int .i64 n) ∧ x.cell? ⟨w.heap.size, 3, none⟩ = some (.int .u8 (d 0)) ∧ x.cell? ⟨w.heap.size, 4, none⟩ = some (.int .u8 (d 1)) ∧ x.cell? ⟨w.heap.size, 5, none⟩ = some (.int .u8 (d 2)) ∧ x.cell? ⟨w.heap.size, 6, none⟩ = some (.int .u8 (d 3)) ∧ x.cell? ⟨w.heap.size, 7, none⟩ = some (.int .u8 (d 4)) ∧ x.cell? ⟨w.heap.size, 8, none⟩ = some (.int .u8 (d 5)) ∧ x.cell? ⟨w.heap.size, 9, none⟩ = some (.int .u8 (d 6)) ∧ x.cell? ⟨w.heap.size, 10, none⟩ = some (.int .u8 (d 7))) 9 (by kernel_rfl) HNX.out.fr.cells (fun hHeld => ?_))
    replace HNX : Hid (NnI w nb id r n d X.drew) := Lib.hid ⟨HNX.out.bx, HNX.out.fr, HNX.out.bel.drew⟩
    have HKD2 : Hid (X.drew.heap[D]? = some (.deferred (some []))) := HKD
    clear hd HKD
    generalize X.drew = X at *
    refine wpAnyL_take (i := 1) (v := .agg #[.int .i64 id, .bool r, .int .i64 n, .int .u8 (d 0), .int .u8 (d 1), .int .u8 (d 2), .int .u8 (d 3), .int .u8 (d 4), .int .u8 (d 5), .int .u8 (d 6), .int .u8 (d 7)]) rfl (by kernel_rfl) (by kernel_rfl) (by kernel_rfl) (by kernel_rfl) (by kernel_rfl) (fun _ _ _ h => h) (Or.inl ⟨by rfl, ?_⟩) (by assumption) ?_
    · intro wq hSw; (try dsimp only at hSw); first | (go_simp; done) | (go_simp; with_reducible rfl) | with_reducible rfl
    try simp only [Act.put, List.setIfInBounds_toArray, List.set_cons_zero, List.set_cons_succ, List.getElem_toArray, List.getElem_cons_zero, List.getElem_cons_succ]
    refine wpAnyL_take (i := 2) (v := ?_) rfl (by kernel_rfl) (by kernel_rfl) (by kernel_rfl) (by kernel_rfl) (by kernel_rfl) (fun _ _ _ h => h) (Or.inl ⟨by rfl, ?_⟩) (by assumption) ?_
    rotate_left
    · intro wq hSw; (try dsimp only at hSw); first | (go_simp; done) | (go_simp; with_reducible rfl) | with_reducible rfl
    try simp only [Act.put, List.setIfInBounds_toArray, List.set_cons_zero, List.set_cons_succ, List.getElem_toArray, List.getElem_cons_zero, List.getElem_cons_succ]
    have HKHNX := HKD2
    clear HKD2
    refine wpAnyL_ready (rs := [0, 7]) (by kernel_rfl) (by simp) ?_
    refine (AllReadyL.cons rfl (fun K hK => ?_) (AllReadyL.cons rfl (fun K hK => ?_) AllReadyL.nil))
    · go_simp
      go_wp2_with fail
      refine (wa_new w X HNX.out.bel).mono ?_
      rintro e x1 ⟨g, a, b, c, s, rfl, hg1, hgg, hbg⟩
      have HG := Lib.hid hg1
      have HN1 := Lib.hid (HNX.out.below hbg)
      have HKHN1 := Lib.hid ((hbg.block _ (Array.getElem?_eq_some_iff.1 HKHNX.out).1).trans HKHNX.out)
      clear hg1 hgg hbg
      refine hK.out _ _ ?_ (fun hHeld => ?_)
      · (try dsimp only); exact HN1.out.fr.cells
      clear hK K
      refine wpAnyL_ready (rs := [3, 7]) (by kernel_rfl) (by simp) ?_
      refine (AllReadyL.cons rfl (fun K hK => ?_) (AllReadyL.cons rfl (fun K hK => ?_) AllReadyL.nil))
      · go_simp
        go_wp2_with fail
        refine (HHF.out w x1 g a b c s HG.out).mono ?_
        rintro e x2 ⟨rfl, hbh⟩
        have HN2 := Lib.hid (HN1.out.below hbh)
        have HKHN2 := Lib.hid ((hbh.block _ (Array.getElem?_eq_some_iff.1 HKHN1.out).1).trans HKHN1.out)
        clear hbh
        refine hK.out _ _ ?_ (fun hHeld => ?_)
        · (try dsimp only); exact HN2.out.fr.cells
        clear hK K
        refine wpAnyL_take (i := 4) (v := ?_) rfl (by kernel_rfl) (by kernel_rfl) (by kernel_rfl) (by kernel_rfl) (by kernel_rfl) (fun _ _ _ h => h) (Or.inl ⟨by rfl, ?_⟩) (by assumption) ?_
        rotate_left
        · intro wq hSw; (try dsimp only at hSw); first | (go_simp; done) | (go_simp; with_reducible rfl) | with_reducible rfl
        try simp only [Act.put, List.setIfInBounds_toArray, List.set_cons_zero, List.set_cons_succ, List.getElem_toArray, List.getElem_cons_zero, List.getElem_cons_succ]
        refine wpAnyL_take (i := 5) (v := .agg #[.int .i64 0, .int .i64 0, .int .i64 0]) rfl (by kernel_rfl) (by kernel_rfl) (by kernel_rfl) (by kernel_rfl) (by kernel_rfl) (fun _ _ _ h => h) (Or.inl ⟨by rfl, ?_⟩) (by assumption) ?_
        · intro wq hSw; (try dsimp only at hSw); first | (go_simp; done) | (go_simp; with_reducible rfl) | with_reducible rfl
        try simp only [Act.put, List.setIfInBounds_toArray, List.set_cons_zero, List.set_cons_succ, List.getElem_toArray, List.getElem_cons_zero, List.getElem_cons_succ]
        refine wpAnyL_take (i := 6) (v := .bool false) rfl (by kernel_rfl) (by kernel_rfl) (by kernel_rfl) (by kernel_rfl) (by kernel_rfl) (fun _ _ _ h => h) (Or.inl ⟨by rfl, ?_⟩) (by assumption) ?_
        · intro wq hSw; (try dsimp only at hSw); first | (go_simp; done) | (go_simp; with_reducible rfl) | with_reducible rfl
        try simp only [Act.put, List.setIfInBounds_toArray, List.set_cons_zero, List.set_cons_succ, List.getElem_toArray, List.getElem_cons_zero, List.getElem_cons_succ]
        refine wpAnyL_ready (rs := [7]) (by kernel_rfl) (by simp) ?_
        refine (AllReadyL.cons rfl (fun K hK => ?_) AllReadyL.nil)
        go_simp
        have hba : Below x2.heap.size x2 (x2.alloc (.cells #[.int .i64 0, .int .i64 0, .int .i64 0] 57)) := (Below.refl _ _).alloc (Nat.le_refl _) _
        have HN3 := Lib.hid (HN2.out.below hba)
        have HKHN3 := Lib.hid ((hba.block _ (Array.getElem?_eq_some_iff.1 HKHN2.out).1).trans HKHN2.out)
        have HEV := Lib.hid (show EvAt (x2.alloc (.cells #[.int .i64 0, .int .i64 0, .int .i64 0] 57)) x2.heap.size 0 0 0 from heap_alloc_new x2 _)
        have HES := Lib.hid (show w.heap.size ≤ x2.heap.size from HN2.out.bel.size)
        have HEN := Lib.hid (show nb < x2.heap.size from (Array.getElem?_eq_some_iff.1 HN2.out.bx).1)
        have HEF := Lib.hid (show w.heap.size < x2.heap.size from HN2.out.fr.lt)
        have HED := Lib.hid (show D < x2.heap.size from (Array.getElem?_eq_some_iff.1 HKHN2.out).1)
        clear hba
        refine hK.out _ _ ?_ (fun hHeld => ?_)
        · (try dsimp only); exact HN3.out.fr.cells
        clear hK K
        generalize (x2.alloc (.cells #[.int .i64 0, .int .i64 0, .int .i64 0] 57)) = x3 at *
        generalize x2.heap.size = ge at *
        refine wpAnyL_ready (rs := [8]) (by kernel_rfl) (by simp) ?_
        refine (AllReadyL.cons rfl (fun K hK => ?_) AllReadyL.nil)
        refine Eq.mpr (if_pos (by kernel_rfl)) ?_
        refine wp_store_row 57 (.tmp 14) (.tmp 47) rfl ge #[.int .i64 0, .int .i64 0, .int .i64 0] rfl rfl _ _ HEV.out info_event rfl (one_event 0 0 0) ?_
        have HN4 := Lib.hid (show NnI w nb id r n d (x3.setRow ge #[.int .i64 0, .int .i64 0, .int .i64 0]) from ⟨(setRow_other x3 ge nb _ (by have := HEN.out; omega)).trans HN3.out.bx, HN3.out.fr.row_other (by have := HEF.out; omega) _, below_setRow HN3.out.bel HES.out _⟩)
        have HKN4 := Lib.hid ((setRow_other x3 ge D #[.int .i64 0, .int .i64 0, .int .i64 0] (by have := HED.out; omega)).trans HKHN3.out)
        refine hK.out _ _ ?_ (fun hHeld => ?_)
        · (try dsimp only); exact HN4.out.fr.cells
        clear hK K
        generalize x3.setRow ge #[.int .i64 0, .int .i64 0, .int .i64 0] = x4 at *
        refine wpAnyL_ready (rs := [9]) (by kernel_rfl) (by simp) ?_
        refine AllReadyL.last rfl (fun K hK => ?_)
        go_simp
        refine hK.out _ _ ?_
        clear hK K
        refine wpAnyL_done (by kernel_rfl) ?_ _
        clear hHeld
        go_simp
        have c6 : x4.cell? ⟨nb, 0, none⟩ = some (.int .i64 0) := by rw [cell_of_row _ _ _ _ _ _ HN4.out.bx]; rfl
        go_wp2_with (first
          | (go_at_call 12; refine (live22_any _).mono ?_; rintro e y1 ⟨rfl, hb1⟩; have HN5 := Lib.hid (HN4.out.below hb1); have HK5 := Lib.hid ((hb1.block _ (Array.getElem?_eq_some_iff.1 HKN4.out).1).trans HKN4.out); clear hb1 c6; have c6 : y1.cell? ⟨nb, 0, none⟩ = some (.int .i64 0) := (by rw [cell_of_row _ _ _ _ _ _ HN5.out.bx]; rfl))
          | (go_at_call 19; refine (wset_nil _ _ _).mono ?_; rintro e y2 ⟨rfl, rfl⟩))
        have hdl := HDL.out
        have hb6 := HN5.out.bel.grown (grownBy_putObj' y1 D (.deferred none)) HN5.out.bel.size (fun k e => by cases e; omega)
        refine ⟨by simp, .inl ⟨_, _, rfl, run_takeDeferred HK5.out, ?_⟩⟩
        exact ⟨_, results_tmp rfl _ _ _, rfl, hb6⟩
      · go_simp
        have hba : Below x1.heap.size x1 (x1.alloc (.cells #[.int .i64 0, .int .i64 0, .int .i64 0] 57)) := (Below.refl _ _).alloc (Nat.le_refl _) _
        have HN2 := Lib.hid (HN1.out.below hba)
        have HKHN2 := Lib.hid ((hba.block _ (Array.getElem?_eq_some_iff.1 HKHN1.out).1).trans HKHN1.out)
        have HEV := Lib.hid (show EvAt (x1.alloc (.cells #[.int .i64 0, .int .i64 0, .int .i64 0] 57)) x1.heap.size 0 0 0 from heap_alloc_new x1 _)
        have HES := Lib.hid (show w.heap.size ≤ x1.heap.size from HN1.out.bel.size)
        have HEN := Lib.hid (show nb < x1.heap.size from (Array.getElem?_eq_some_iff.1 HN1.out.bx).1)
        have HEF := Lib.hid (show w.heap.size < x1.heap.size from HN1.out.fr.lt)
        have HED := Lib.hid (show D < x1.heap.size from (Array.getElem?_eq_some_iff.1 HKHN1.out).1)
        have HG := Lib.hid (HG.out.below hba)
        clear hba
        refine hK.out _ _ ?_ (fun hHeld => ?_)
        · (try dsimp only); exact HN2.out.fr.cells
        clear hK K
        generalize (x1.alloc (.cells #[.int .i64 0, .int .i64 0, .int .i64 0] 57)) = x2 at *
        generalize x1.heap.size = ge at *
        refine wpAnyL_ready (rs := [3]) (by kernel_rfl) (by simp) ?_
        refine (AllReadyL.cons rfl (fun K hK => ?_) AllReadyL.nil)
        go_simp
        go_wp2_with fail
        refine (HHF.out w x2 g a b c s HG.out).mono ?_
        rintro e x3 ⟨rfl, hbh⟩
        have HN3 := Lib.hid (HN2.out.below hbh)
        have HKHN3 := Lib.hid ((hbh.block _ (Array.getElem?_eq_some_iff.1 HKHN2.out).1).trans HKHN2.out)
        have HEV := Lib.hid (HEV.out.below hbh HEV.out.lt)
        clear hbh
        refine hK.out _ _ ?_ (fun hHeld => ?_)
        · (try dsimp only); exact HN3.out.fr.cells
        clear hK K
        refine wpAnyL_take (i := 4) (v := ?_) rfl (by kernel_rfl) (by kernel_rfl) (by kernel_rfl) (by kernel_rfl) (by kernel_rfl) (fun _ _ _ h => h) (Or.inl ⟨by rfl, ?_⟩) (by assumption) ?_
        rotate_left
        · intro wq hSw; (try dsimp only at hSw); first | (go_simp; done) | (go_simp; with_reducible rfl) | with_reducible rfl
        try simp only [Act.put, List.setIfInBounds_toArray, List.set_cons_zero, List.set_cons_succ, List.getElem_toArray, List.getElem_cons_zero, List.getElem_cons_succ]
        refine wpAnyL_take (i := 5) (v := .agg #[.int .i64 0, .int .i64 0, .int .i64 0]) rfl (by kernel_rfl) (by kernel_rfl) (by kernel_rfl) (by kernel_rfl) (by kernel_rfl) (fun _ _ _ h => h) (Or.inl ⟨by rfl, ?_⟩) (by assumption) ?_
        · intro wq hSw; (try dsimp only at hSw); first | (go_simp; done) | (go_simp; with_reducible rfl) | with_reducible rfl
        try simp only [Act.put, List.setIfInBounds_toArray, List.set_cons_zero, List.set_cons_succ, List.getElem_toArray, List.getElem_cons_zero, List.getElem_cons_succ]
        refine wpAnyL_take (i := 6) (v := .bool false) rfl (by kernel_rfl) (by kernel_rfl) (by kernel_rfl) (by kernel_rfl) (by kernel_rfl) (fun _ _ _ h => h) (Or.inl ⟨by rfl, ?_⟩) (by assumption) ?_
        · intro wq hSw; (try dsimp only at hSw); first | (go_simp; done) | (go_simp; with_reducible rfl) | with_reducible rfl
        try simp only [Act.put, List.setIfInBounds_toArray, List.set_cons_zero, List.set_cons_succ, List.getElem_toArray, List.getElem_cons_zero, List.getElem_cons_succ]
        refine wpAnyL_ready (rs := [8]) (by kernel_rfl) (by simp) ?_
        refine (AllReadyL.cons rfl (fun K hK => ?_) AllReadyL.nil)
        refine Eq.mpr (if_pos (by kernel_rfl)) ?_
        refine wp_store_row 57 (.tmp 14) (.tmp 47) rfl ge #[.int .i64 0, .int .i64 0, .int .i64 0] rfl rfl _ _ HEV.out info_event rfl (one_event 0 0 0) ?_
        have HN4 := Lib.hid (show NnI w nb id r n d (x3.setRow ge #[.int .i64 0, .int .i64 0, .int .i64 0]) from ⟨(setRow_other x3 ge nb _ (by have := HEN.out; omega)).trans HN3.out.bx, HN3.out.fr.row_other (by have := HEF.out; omega) _, below_setRow HN3.out.bel HES.out _⟩)
        have HKN4 := Lib.hid ((setRow_other x3 ge D #[.int .i64 0, .int .i64 0, .int .i64 0] (by have := HED.out; omega)).trans HKHN3.out)
        refine hK.out _ _ ?_ (fun hHeld => ?_)
        · (try dsimp only); exact HN4.out.fr.cells
        clear hK K
        generalize x3.setRow ge #[.int .i64 0, .int .i64 0, .int .i64 0] = x4 at *
        refine wpAnyL_ready (rs := [9]) (by kernel_rfl) (by simp) ?_
        refine AllReadyL.last rfl (fun K hK => ?_)
        go_simp
        refine hK.out _ _ ?_
        clear hK K
        refine wpAnyL_done (by kernel_rfl) ?_ _
        clear hHeld
        go_simp
        have c6 : x4.cell? ⟨nb, 0, none⟩ = some (.int .i64 0) := by rw [cell_of_row _ _ _ _ _ _ HN4.out.bx]; rfl
        go_wp2_with (first
          | (go_at_call 12; refine (live22_any _).mono ?_; rintro e y1 ⟨rfl, hb1⟩; have HN5 := Lib.hid (HN4.out.below hb1); have HK5 := Lib.hid ((hb1.block _ (Array.getElem?_eq_some_iff.1 HKN4.out).1).trans HKN4.out); clear hb1 c6; have c6 : y1.cell? ⟨nb, 0, none⟩ = some (.int .i64 0) := (by rw [cell_of_row _ _ _ _ _ _ HN5.out.bx]; rfl))
          | (go_at_call 19; refine (wset_nil _ _ _).mono ?_; rintro e y2 ⟨rfl, rfl⟩))
        have hdl := HDL.out
        have hb6 := HN5.out.bel.grown (grownBy_putObj' y1 D (.deferred none)) HN5.out.bel.size (fun k e => by cases e; omega)
        refine ⟨by simp, .inl ⟨_, _, rfl, run_takeDeferred HK5.out, ?_⟩⟩
        exact ⟨_, results_tmp rfl _ _ _, rfl, hb6⟩
    · go_simp
      have hba : Below X.heap.size X (X.alloc (.cells #[.int .i64 0, .int .i64 0, .int .i64 0] 57)) := (Below.refl _ _).alloc (Nat.le_refl _) _
      have HN1 := Lib.hid (HNX.out.below hba)
      have HKHN1 := Lib.hid ((hba.block _ (Array.getElem?_eq_some_iff.1 HKHNX.out).1).trans HKHNX.out)
      have HEV := Lib.hid (show EvAt (X.alloc (.cells #[.int .i64 0, .int .i64 0, .int .i64 0] 57)) X.heap.size 0 0 0 from heap_alloc_new X _)
      have HES := Lib.hid (show w.heap.size ≤ X.heap.size from HNX.out.bel.size)
      have HEN := Lib.hid (show nb < X.heap.size from (Array.getElem?_eq_some_iff.1 HNX.out.bx).1)
      have HEF := Lib.hid (show w.heap.size < X.heap.size from HNX.out.fr.lt)
      have HED := Lib.hid (show D < X.heap.size from (Array.getElem?_eq_some_iff.1 HKHNX.out).1)
      clear hba
      refine hK.out _ _ ?_ (fun hHeld => ?_)
      · (try dsimp only); exact HN1.out.fr.cells
      clear hK K
      generalize (X.alloc (.cells #[.int .i64 0, .int .i64 0, .int .i64 0] 57)) = x1 at *
      generalize X.heap.size = ge at *
      refine wpAnyL_ready (rs := [0]) (by kernel_rfl) (by simp) ?_
      refine (AllReadyL.cons rfl (fun K hK => ?_) AllReadyL.nil)
      go_simp
      go_wp2_with fail
      refine (wa_new w x1 HN1.out.bel).mono ?_
      rintro e x2 ⟨g, a, b, c, s, rfl, hg1, hgg, hbg⟩
      have HG := Lib.hid hg1
      have HN2 := Lib.hid (HN1.out.below hbg)
      have HKHN2 := Lib.hid ((hbg.block _ (Array.getElem?_eq_some_iff.1 HKHN1.out).1).trans HKHN1.out)
      have HEV := Lib.hid (HEV.out.below hbg HEV.out.lt)
      clear hg1 hgg hbg
      refine hK.out _ _ ?_ (fun hHeld => ?_)
      · (try dsimp only); exact HN2.out.fr.cells
      clear hK K
      refine wpAnyL_ready (rs := [3]) (by kernel_rfl) (by simp) ?_
      refine (AllReadyL.cons rfl (fun K hK => ?_) AllReadyL.nil)
      go_simp
      go_wp2_with fail
      refine (HHF.out w x2 g a b c s HG.out).mono ?_
      rintro e x3 ⟨rfl, hbh⟩
      have HN3 := Lib.hid (HN2.out.below hbh)
      have HKHN3 := Lib.hid ((hbh.block _ (Array.getElem?_eq_some_iff.1 HKHN2.out).1).trans HKHN2.out)
      have HEV := Lib.hid (HEV.out.below hbh HEV.out.lt)
      clear hbh
      refine hK.out _ _ ?_ (fun hHeld => ?_)
      · (try dsimp only); exact HN3.out.fr.cells
      clear hK K
      refine wpAnyL_take (i := 4) (v := ?_) rfl (by kernel_rfl) (by kernel_rfl) (by kernel_rfl) (by kernel_rfl) (by kernel_rfl) (fun _ _ _ h => h) (Or.inl ⟨by rfl, ?_⟩) (by assumption) ?_
      rotate_left
      · intro wq hSw; (try dsimp only at hSw); first | (go_simp; done) | (go_simp; with_reducible rfl) | with_reducible rfl
      try simp only [Act.put, List.setIfInBounds_toArray, List.set_cons_zero, List.set_cons_succ, List.getElem_toArray, List.getElem_cons_zero, List.getElem_cons_succ]
      refine wpAnyL_take (i := 5) (v := .agg #[.int .i64 0, .int .i64 0, .int .i64 0]) rfl (by kernel_rfl) (by kernel_rfl) (by kernel_rfl) (by kernel_rfl) (by kernel_rfl) (fun _ _ _ h => h) (Or.inl ⟨by rfl, ?_⟩) (by assumption) ?_
      · intro wq hSw; (try dsimp only at hSw); first | (go_simp; done) | (go_simp; with_reducible rfl) | with_reducible rfl
      try simp only [Act.put, List.setIfInBounds_toArray, List.set_cons_zero, List.set_cons_succ, List.getElem_toArray, List.getElem_cons_zero, List.getElem_cons_succ]
      refine wpAnyL_take (i := 6) (v := .bool false) rfl (by kernel_rfl) (by kernel_rfl) (by kernel_rfl) (by kernel_rfl) (by kernel_rfl) (fun _ _ _ h => h) (Or.inl ⟨by rfl, ?_⟩) (by assumption) ?_
      · intro wq hSw; (try dsimp only at hSw); first | (go_simp; done) | (go_simp; with_reducible rfl) | with_reducible rfl
      try simp only [Act.put, List.setIfInBounds_toArray, List.set_cons_zero, List.set_cons_succ, List.getElem_toArray, List.getElem_cons_zero, List.getElem_cons_succ]
      refine wpAnyL_ready (rs := [8]) (by kernel_rfl) (by simp) ?_
      refine (AllReadyL.cons rfl (fun K hK => ?_) AllReadyL.nil)
      refine Eq.mpr (if_pos (by kernel_rfl)) ?_
      refine wp_store_row 57 (.tmp 14) (.tmp 47) rfl ge #[.int .i64 0, .int .i64 0, .int .i64 0] rfl rfl _ _ HEV.out info_event rfl (one_event 0 0 0) ?_
      have HN4 := Lib.hid (show NnI w nb id r n d (x3.setRow ge #[.int .i64 0, .int .i64 0, .int .i64 0]) from ⟨(setRow_other x3 ge nb _ (by have := HEN.out; omega)).trans HN3.out.bx, HN3.out.fr.row_other (by have := HEF.out; omega) _, below_setRow HN3.out.bel HES.out _⟩)
      have HKN4 := Lib.hid ((setRow_other x3 ge D #[.int .i64 0, .int .i64 0, .int .i64 0] (by have := HED.out; omega)).trans HKHN3.out)
      refine hK.out _ _ ?_ (fun hHeld => ?_)
      · (try dsimp only); exact HN4.out.fr.cells
      clear hK K
      generalize x3.setRow ge #[.int .i64 0, .int .i64 0, .int .i64 0] = x4 at *
      refine wpAnyL_ready (rs := [9]) (by kernel_rfl) (by simp) ?_
      refine AllReadyL.last rfl (fun K hK => ?_)
      go_simp
      refine hK.out _ _ ?_
      clear hK K
      refine wpAnyL_done (by kernel_rfl) ?_ _
      clear hHeld
      go_simp
      have c6 : x4.cell? ⟨nb, 0, none⟩ = some (.int .i64 0) := by rw [cell_of_row _ _ _ _ _ _ HN4.out.bx]; rfl
      go_wp2_with (first
        | (go_at_call 12; refine (live22_any _).mono ?_; rintro e y1 ⟨rfl, hb1⟩; have HN5 := Lib.hid (HN4.out.below hb1); have HK5 := Lib.hid ((hb1.block _ (Array.getElem?_eq_some_iff.1 HKN4.out).1).trans HKN4.out); clear hb1 c6; have c6 : y1.cell? ⟨nb, 0, none⟩ = some (.int .i64 0) := (by rw [cell_of_row _ _ _ _ _ _ HN5.out.bx]; rfl))
        | (go_at_call 19; refine (wset_nil _ _ _).mono ?_; rintro e y2 ⟨rfl, rfl⟩))
      have hdl := HDL.out
      have hb6 := HN5.out.bel.grown (grownBy_putObj' y1 D (.deferred none)) HN5.out.bel.size (fun k e => by cases e; omega)
      refine ⟨by simp, .inl ⟨_, _, rfl, run_takeDeferred HK5.out, ?_⟩⟩
      exact ⟨_, results_tmp rfl _ _ _, rfl, hb6⟩
theorem none_any (nd id n now : Int) (r : Bool) (d : Nat → Int) (w : World) (hd : ∀ j, j < 8 → 0 ≤ d j ∧ d j ≤ 255) :
    Calls Try.prog 6 #[.int .i64 nd, .agg #[.int .i64 id, .bool r, .int .i64 n, .int .u8 (d 0), .int .u8 (d 1), .int .u8 (d 2), .int .u8 (d 3), .int .u8 (d 4), .int .u8 (d 5), .int .u8 (d 6), .int .u8 (d 7)], .int .i64 now] w fun e w' => e = .returned (.bool true) ∧ Below w.heap.size w w' := callsIn_wide.1 (none_in nd id n now r d w hd)
end Go.Proofs.Ytiidgcgamcgipaa
