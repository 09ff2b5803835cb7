/- A nil mailbox. -/
import Derived.Test.YtgnfohncgfgecaaMi
namespace Go.Proofs.Ytgnfohncgfgecaa
open Go.RowKit Go.Shelf
attribute [local go_sem] Oper.semAt_some

set_option maxRecDepth 100000 in
theorem nil_in (n : Nat) (hn : 1 ≤ n) (l gb : Nat) (J Jx : List Ltr → World → Prop) (W : World)
    (hbox : W.heap[gb]? = some (.cells #[.pointer none] 23 (0, 0))) (h0 : J [] W) :
    CallsIn Fence.wide n Try.prog 36 #[.func (.yield l) #[] #[], .pointer (some ⟨gb, 0, none⟩)] W fun e W' => (∃ v, e = .returned v) ∧
      ((∃ ys, ys = [] ∧ J ys W') ∨ (∃ pre, pre <+: [] ∧ Jx pre W')) := by
  have cb : W.cell? ⟨gb, 0, none⟩ = some (.pointer none) := by rw [cell_of_row _ _ _ _ _ _ hbox]; rfl
  clear hbox
  refine callsIn_of_wp Try.func36 rfl trivial ?_ rfl
  simp only [Try.ntmps36, List.size_toArray, List.length_cons, List.length_nil, Nat.reduceAdd, Nat.reduceSub, Array.replicate_succ, Array.replicate_zero, List.push_toArray, List.append_toArray, List.nil_append, List.cons_append]
  gi_wp2_with fail
  refine bodyPost_ret (results_none rfl _ _ _) rfl ?_
  exact ⟨⟨_, rfl⟩, .inl ⟨_, rfl, h0⟩⟩
theorem nil_stops (n : Nat) (hn : 1 ≤ n) (gb : Nat) (Fx : Nat → Prop) (tb : World → Option Nat) (w : World)
    (hbox : w.heap[gb]? = some (.cells #[.pointer none] 23 (0, 0))) :
    SeqStopsK Fence.wide n Try.prog 36 #[.pointer (some ⟨gb, 0, none⟩)] (fun x : Ltr => #[.agg #[.int .i64 x.id, .bool x.r, .int .i64 x.n, .int .u8 (x.d 0), .int .u8 (x.d 1), .int .u8 (x.d 2), .int .u8 (x.d 3), .int .u8 (x.d 4), .int .u8 (x.d 5), .int .u8 (x.d 6), .int .u8 (x.d 7)], .bool x.s]) (Kq Fx tb) (fun ys => ys = []) (fun pre => pre <+: []) 0 w := fun l J Jx W hW _ _ _ h0 =>
  nil_in n hn l gb J Jx W ((hW.block gb (Array.getElem?_eq_some_iff.1 hbox).1).trans hbox) h0
set_option maxRecDepth 100000 in
set_option maxHeartbeats 4000000 in
theorem lennil_in (w : World) (s : Bool) :
    CallsIn Fence.wide 8 Try.prog 21 #[.pointer none, .bool s] w fun e w' => e = .returned (.int .i64 (cntL s [] : Nat)) ∧ Below w.heap.size w w' := by
  have hba : Below w.heap.size w ((w.alloc (.cells #[.bool s] 4)).alloc (.cells #[.int .i64 0] 3)) := ((Below.refl _ _).alloc (Nat.le_refl _) _).alloc (by simp) _
  have hs0 := heap_alloc2_old w (.cells #[.bool s] 4) (.cells #[.int .i64 0] 3)
  have hn0 := heap_alloc2_new w (.cells #[.bool s] 4) (.cells #[.int .i64 0] 3)
  have hz0 : ((w.alloc (.cells #[.bool s] 4)).alloc (.cells #[.int .i64 0] 3)).heap.size = w.heap.size + 2 := by simp
  have HBA := Lib.hid hba
  have HS0 := Lib.hid hs0
  have HN0 := Lib.hid hn0
  have HZ0 := Lib.hid hz0
  clear hba hs0 hn0 hz0
  refine callsIn_of_wp_marks Try.func21 rfl trivial ?_ rfl
  simp only [Try.ntmps21, List.size_toArray, List.length_cons, List.length_nil, Nat.reduceAdd, Nat.reduceSub, Array.replicate_succ, Array.replicate_zero, List.push_toArray, List.append_toArray, List.nil_append, List.cons_append]
  gi_wp2_with fail
  refine ⟨trivial, ?_⟩
  generalize (w.alloc (.cells #[.bool s] 4)).alloc (.cells #[.int .i64 0] 3) = w0 at *
  refine (callsIn_wide.2 (all_any _ _)).mono ?_
  rintro e w2 ⟨rfl, rfl⟩
  have hb1 : Below w0.heap.size w0 (w0.alloc (.cells #[.pointer none] 23)) := (Below.refl _ _).alloc (Nat.le_refl _) _
  have hb2 : Below w.heap.size w (w0.alloc (.cells #[.pointer none] 23)) := HBA.out.trans (hb1.mono HBA.out.size)
  have hp2 : (w0.alloc (.cells #[.pointer none] 23)).heap[w0.heap.size]? = some (.cells #[.pointer none] 23 (0, 0)) := heap_alloc_new w0 _
  have hsz : w0.heap.size = w.heap.size + 2 := HZ0.out
  have hsz2 : (w0.alloc (.cells #[.pointer none] 23)).heap.size = w.heap.size + 3 := by simp; omega
  have hlb : LnB w.heap.size (w0.alloc (.cells #[.pointer none] 23)) s 0 := ⟨(hb1.block _ (by omega)).trans HS0.out, (hb1.block _ (by omega)).trans HN0.out⟩
  have HB2 := Lib.hid hb2
  have HP2 := Lib.hid hp2
  have HSZ := Lib.hid hsz
  have HSZ2 := Lib.hid hsz2
  have HLB := Lib.hid hlb
  clear hb1 hb2 hp2 hsz hsz2 hlb
  gi_wp2_with fail
  rw [HSZ.out]
  generalize hP2 : (w0.alloc (.cells #[.pointer none] 23)) = W2 at *
  clear hP2
  have hp2 := HP2.out
  rw [HSZ.out] at hp2
  have hst := nil_stops 7 (by omega) (w.heap.size + 2) (· = w.heap.size + 1) (fun _ => none) W2 hp2
  have hI : LnI w s [] W2 := ⟨HLB.out, HB2.out⟩
  refine wpIn_rangeFunc_ownG rfl (by omega) (gf := 36) (lb := #[.pointer (some ⟨w.heap.size + 2, 0, none⟩)]) rfl trivial (enters_of Try.func36 (by kernel_rfl) rfl)
    hst kq_t (kq_b fun _ _ _ _ => rfl) (Below.refl _ _) (fun _ => rfl)
    (LnI w s) (fun _ _ _ => False) (LnI_own w s _ (by rw [HSZ2.out]; omega)) (fun _ => fun _ _ _ _ h _ _ => h) hI
    (fun x => { tmps := #[.pointer none, .bool s, undef, .pointer (some ⟨w.heap.size, 0, none⟩), .int .i64 0, .pointer (some ⟨w.heap.size + 1, 0, none⟩), undef, .bool x.s, .pointer none, .func (Fn.func 36) #[] #[.pointer (some ⟨w.heap.size + 2, 0, none⟩)], .agg #[.int .i64 x.id, .bool x.r, .int .i64 x.n, .int .u8 (x.d 0), .int .u8 (x.d 1), .int .u8 (x.d 2), .int .u8 (x.d 3), .int .u8 (x.d 4), .int .u8 (x.d 5), .int .u8 (x.d 6), .int .u8 (x.d 7)], .bool x.s, undef, undef, undef, undef, undef, undef], defers := [] }) ?assign ?body ?done ?stop
  case assign =>
    intro lp x W K hK
    gi_wp2
    exact hK
  case body =>
    rintro lp pre x W ⟨hbx, hbw⟩ hlen
    have c3 : W.cell? ⟨w.heap.size, 0, none⟩ = some (.bool s) := by rw [cell_of_row _ _ _ _ _ _ hbx.s]; rfl
    have c5 : W.cell? ⟨w.heap.size + 1, 0, none⟩ = some (.int .i64 (cntL s pre : Nat)) := by rw [cell_of_row _ _ _ _ _ _ hbx.n]; rfl
    have f5 : W.frozen? ⟨w.heap.size + 1, 0, none⟩ = false := frozen_of_row _ _ _ _ _ hbx.n
    have hsn := cntL_snoc s pre x
    have hcl := cntL_le s pre
    have hln : cntL s pre ≤ 100 := by omega
    have HBX2 := Lib.hid hbx
    have HBW := Lib.hid hbw
    clear hbx hcl hlen
    generalize cntL s pre = c at *
    by_cases e : x.s = s
    · have t1 : (x.s == s) = true := by simpa using e
      rw [t1] at hsn
      have hs1 : cntL s (pre ++ [x]) = c + 1 := hsn
      have HSN := Lib.hid hs1
      clear hsn e hs1 hbw
      gi_wp2_with fail
      refine ⟨(KeepsOthers.setCell _ _ _).from _, kq_set _ _ _ rfl rfl, ⟨?_, HBW.out.setCell (p := ⟨w.heap.size + 1, 0, none⟩) (by simp) _⟩⟩
      rw [HSN.out]
      exact ⟨(heap_other _ _ _ _ (by simp)).trans HBX2.out.s, by rw [show (((c + 1 : Nat)) : Int) = (c : Int) + 1 by omega]; exact one_set HBX2.out.n _⟩
    · have t1 : (x.s == s) = false := by simpa using e
      rw [t1] at hsn
      have hs1 : cntL s (pre ++ [x]) = c := by simpa using hsn
      have HSN := Lib.hid hs1
      clear hsn e hs1 hbw
      gi_wp2_with fail
      refine ⟨(KeepsOthers.refl _).from _, kq_refl _, ⟨?_, HBW.out⟩⟩
      rw [HSN.out]
      exact HBX2.out
  case stop =>
    rintro D cc pre W hD hSp hX hK
    exact absurd hX id
  case done =>
    rintro D ys W hD rfl ⟨hbx, hbw⟩ hK
    have c5 : W.cell? ⟨w.heap.size + 1, 0, none⟩ = some (.int .i64 (cntL s [] : Nat)) := by rw [cell_of_row _ _ _ _ _ _ hbx.n]; rfl
    have HK := Lib.hid hK
    clear hbx hK
    gi_wp2_with fail
    have hbw6 := hbw.grown (grownBy_putObj' W D (.deferred none)) hbw.size (fun k e => by cases e; have := HSZ2.out; omega)
    refine ⟨by simp, .inl ⟨_, _, rfl, run_takeDeferred HK.out, ?_⟩⟩
    exact ⟨_, results_tmp rfl _ _ _, rfl, hbw6⟩
theorem lennil_any (w : World) (s : Bool) :
    Calls Try.prog 21 #[.pointer none, .bool s] w fun e w' => e = .returned (.int .i64 (cntL s [] : Nat)) ∧ Below w.heap.size w w' := callsIn_wide.1 (lennil_in w s)

theorem clear_nil (w : World) : Calls Try.prog 15 #[.pointer none] w fun e w' => (∃ v, e = .returned v) ∧ w = w' := by
  go_enter Try.func15, Try.ntmps15
  go_wp2_with fail
  go_end0
  exact ⟨⟨_, rfl⟩, rfl⟩
theorem lost_nil (w : World) : Calls Try.prog 23 #[.pointer none] w fun e w' => e = .returned (.int .i64 0) ∧ w = w' := by
  go_enter Try.func23, Try.ntmps23
  go_wp2_with fail
  go_ret
  exact ⟨rfl, rfl⟩
theorem fork_nil (w : World) : Calls Try.prog 16 #[.pointer none] w fun e w' => e = .returned (.pointer none) ∧ w = w' := by
  go_enter Try.func16, Try.ntmps16
  go_wp2_with fail
  go_ret
  exact ⟨rfl, rfl⟩
theorem cut_nil (w : World) (f : Value) (hf : f.oneCell' = true) (h2 : ∃ fn a b, f = .func fn a b) : Calls Try.prog 13 #[.pointer none, f] w fun e w' => e = .returned (.int .i64 0) ∧ Below w.heap.size w w' := by
  obtain ⟨fn, a, b, rfl⟩ := h2
  have hb : Below w.heap.size w (w.alloc (.cells #[.func fn a b] 44)) := (Below.refl _ _).alloc (Nat.le_refl _) _
  go_enter Try.func13, Try.ntmps13
  go_wp2_with fail
  go_ret
  exact ⟨rfl, hb⟩
set_option maxRecDepth 100000 in
theorem put_nil (w : World) (id n : Int) (r s : Bool) (d : Nat → Int) : Calls Try.prog 9 #[.pointer none, .agg #[.int .i64 id, .bool r, .int .i64 n, .int .u8 (d 0), .int .u8 (d 1), .int .u8 (d 2), .int .u8 (d 3), .int .u8 (d 4), .int .u8 (d 5), .int .u8 (d 6), .int .u8 (d 7)], .bool s] w fun e w' => e = .returned (.int .i64 1) ∧ Below w.heap.size w w' := by
  have hb : Below w.heap.size w (w.alloc (.cells #[.int .i64 id, .bool r, .int .i64 n, .int .u8 (d 0), .int .u8 (d 1), .int .u8 (d 2), .int .u8 (d 3), .int .u8 (d 4), .int .u8 (d 5), .int .u8 (d 6), .int .u8 (d 7)] 30)) := (Below.refl _ _).alloc (Nat.le_refl _) _
  go_enter Try.func9, Try.ntmps9
  go_wp2_with fail
  go_ret
  exact ⟨rfl, hb⟩
set_option maxRecDepth 100000 in
theorem best_nil (w : World) : Calls Try.prog 20 #[.pointer none] w fun e w' => e = .returned (.tuple #[.agg #[.int .i64 0, .bool false, .int .i64 0, .int .u8 0, .int .u8 0, .int .u8 0, .int .u8 0, .int .u8 0, .int .u8 0, .int .u8 0, .int .u8 0], .bool false]) ∧ Below w.heap.size w w' := by
  have hz : (w.alloc (.cells #[.int .i64 0, .bool false, .int .i64 0, .int .u8 0, .int .u8 0, .int .u8 0, .int .u8 0, .int .u8 0, .int .u8 0, .int .u8 0, .int .u8 0] 30)).heap[w.heap.size]? = some (.cells #[.int .i64 0, .bool false, .int .i64 0, .int .u8 0, .int .u8 0, .int .u8 0, .int .u8 0, .int .u8 0, .int .u8 0, .int .u8 0, .int .u8 0] 30 (0, 0)) := heap_alloc_new w _
  have HZ := Lib.hid hz
  clear hz
  go_enter Try.func20, Try.ntmps20
  go_wp2_with fail
  exact bodyPost_ret (results_cell_tmp_row rfl _ _ w.heap.size _ _ _ _ rfl HZ.out Try.underlying30 rfl info_frame) rfl ⟨rfl, (Below.refl _ _).alloc (Nat.le_refl _) _⟩
set_option maxRecDepth 100000 in
set_option maxHeartbeats 2000000 in
theorem take_nil (w : World) :
    Calls Try.prog 11 #[.pointer none] w fun e w' => e = .returned (.tuple #[.agg #[.int .i64 0, .bool false, .int .i64 0, .int .u8 0, .int .u8 0, .int .u8 0, .int .u8 0, .int .u8 0, .int .u8 0, .int .u8 0, .int .u8 0], .bool false]) ∧ Below w.heap.size w w' := by
  have hb0 : Below w.heap.size w (w.alloc (.cells #[.int .i64 0, .bool false, .int .i64 0, .int .u8 0, .int .u8 0, .int .u8 0, .int .u8 0, .int .u8 0, .int .u8 0, .int .u8 0, .int .u8 0] 30)) := (Below.refl _ _).alloc (Nat.le_refl _) _
  have hbe := best_nil (w.alloc (.cells #[.int .i64 0, .bool false, .int .i64 0, .int .u8 0, .int .u8 0, .int .u8 0, .int .u8 0, .int .u8 0, .int .u8 0, .int .u8 0, .int .u8 0] 30))
  have hsz0 : (w.alloc (.cells #[.int .i64 0, .bool false, .int .i64 0, .int .u8 0, .int .u8 0, .int .u8 0, .int .u8 0, .int .u8 0, .int .u8 0, .int .u8 0, .int .u8 0] 30)).heap.size = w.heap.size + 1 := by simp
  have hz0 : FrAt (w.alloc (.cells #[.int .i64 0, .bool false, .int .i64 0, .int .u8 0, .int .u8 0, .int .u8 0, .int .u8 0, .int .u8 0, .int .u8 0, .int .u8 0, .int .u8 0] 30)) w.heap.size 0 false 0 (fun _ => 0) := heap_alloc_new w _
  have HB0 := Lib.hid hb0
  have HBE := Lib.hid hbe
  have HS0 := Lib.hid hsz0
  have HZ0 := Lib.hid hz0
  clear hb0 hbe hsz0 hz0
  go_enter Try.func11, Try.ntmps11
  go_wp2_with fail
  generalize w.alloc (.cells #[.int .i64 0, .bool false, .int .i64 0, .int .u8 0, .int .u8 0, .int .u8 0, .int .u8 0, .int .u8 0, .int .u8 0, .int .u8 0, .int .u8 0] 30) = w0 at *
  refine HBE.out.mono ?_
  rintro e w1 ⟨rfl, hb1⟩
  have HZ1 := Lib.hid (HZ0.out.below hb1 HZ0.out.lt)
  have HB1 := Lib.hid (kF hb1 HB0.out)
  clear hb1
  have hr2 : FrAt ((w1.alloc (.cells #[.int .i64 0, .bool false, .int .i64 0, .int .u8 0, .int .u8 0, .int .u8 0, .int .u8 0, .int .u8 0, .int .u8 0, .int .u8 0, .int .u8 0] 30)).setRow w.heap.size #[.int .i64 0, .bool false, .int .i64 0, .int .u8 0, .int .u8 0, .int .u8 0, .int .u8 0, .int .u8 0, .int .u8 0, .int .u8 0, .int .u8 0]) w.heap.size 0 false 0 (fun _ => 0) := (HZ1.out.below ((Below.refl _ _).alloc (Nat.le_refl _) _) HZ1.out.lt).row 0 0 false (fun _ => 0)
  have HZ2 := Lib.hid (HZ1.out.below ((Below.refl w1.heap.size w1).alloc (Nat.le_refl _) (.cells #[.int .i64 0, .bool false, .int .i64 0, .int .u8 0, .int .u8 0, .int .u8 0, .int .u8 0, .int .u8 0, .int .u8 0, .int .u8 0, .int .u8 0] 30)) HZ1.out.lt)
  have HR2 := Lib.hid hr2
  have HBB := Lib.hid (below_setRow (HB1.out.alloc HB1.out.size (.cells #[.int .i64 0, .bool false, .int .i64 0, .int .u8 0, .int .u8 0, .int .u8 0, .int .u8 0, .int .u8 0, .int .u8 0, .int .u8 0, .int .u8 0] 30)) (Nat.le_refl w.heap.size) #[.int .i64 0, .bool false, .int .i64 0, .int .u8 0, .int .u8 0, .int .u8 0, .int .u8 0, .int .u8 0, .int .u8 0, .int .u8 0, .int .u8 0])
  clear hr2
  go_wp2_with (refine wpList_store_row rfl _ (.tmp 2) (.tmp 20) rfl w.heap.size _ rfl rfl _ _ HZ2.out info_frame rfl (one_frame 0 0 false (fun _ => 0)) ?_)
  exact bodyPost_ret (results_cell_tmp_row rfl _ _ w.heap.size _ _ _ _ rfl HR2.out Try.underlying30 rfl info_frame) rfl ⟨rfl, HBB.out⟩
end Go.Proofs.Ytgnfohncgfgecaa
