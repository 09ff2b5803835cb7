/- What a nil dictionary answers. -/
import Derived.Test.YtmfjndkopkjchaaDn
namespace Go.Proofs.Ytmfjndkopkjchaa
open Go.RowKit Go.Shelf
attribute [local go_sem] Oper.semAt_some
set_option linter.unusedSimpArgs false
set_option linter.unusedVariables false

theorem len_nil (w : World) : Calls Try.prog 33 #[.pointer none] w fun e w' => e = .returned (.int .i64 0) ∧ w = w' := by
  go_enter Try.func33, Try.ntmps33
  go_wp2_with fail
  go_ret
  exact ⟨rfl, rfl⟩
theorem chg_nil (w : World) : Calls Try.prog 20 #[.pointer none] w fun e w' => e = .returned (.int .i64 0) ∧ w = w' := by
  go_enter Try.func20, Try.ntmps20
  go_wp2_with fail
  go_ret
  exact ⟨rfl, rfl⟩
theorem fork_nil (w : World) : Calls Try.prog 19 #[.pointer none] w fun e w' => e = .returned (.pointer none) ∧ w = w' := by
  go_enter Try.func19, Try.ntmps19
  go_wp2_with fail
  go_ret
  exact ⟨rfl, rfl⟩
theorem add_nil (w : World) (i j k a lo hi : Int) (A : Option Addr) (n c : Nat) : Calls Try.prog 25 #[.pointer none, .agg #[.int .i64 i, .int .i64 j], .agg #[.int .i64 k, .int .i64 a, .int .i64 lo, .int .i64 hi], .slice A n c] w fun e w' => e = .returned (.int .i64 1) ∧ Below w.heap.size w w' := by
  have hb0 : Below w.heap.size w ((w.alloc (.cells #[.int .i64 i, .int .i64 j] 31)).alloc (.cells #[.int .i64 k, .int .i64 a, .int .i64 lo, .int .i64 hi] 35)) := ((Below.refl _ _).alloc (Nat.le_refl _) _).alloc (by simp) _
  have HB0 := Lib.hid hb0
  clear hb0
  go_enter Try.func25, Try.ntmps25
  go_wp2_with fail
  go_ret
  exact ⟨rfl, HB0.out⟩
theorem keys_any (w : World) (p : Option Addr) :
    Calls Try.prog 31 #[.pointer p] w fun e w' => e = .returned (.func (Fn.func 63) #[] #[.pointer (some ⟨w.heap.size, 0, none⟩)]) ∧ w' = w.alloc (.cells #[.pointer p] 23) := by
  go_enter Try.func31, Try.ntmps31
  go_wp2_with fail
  go_ret
  exact ⟨rfl, rfl⟩
theorem get_nil (w : World) (i j : Int) :
    Calls Try.prog 38 #[.pointer none, .agg #[.int .i64 i, .int .i64 j]] w fun e w' => e = .returned (.tuple #[entV e0, .bool false]) ∧ Below w.heap.size w w' := by
  have hb0 : Below w.heap.size w ((w.alloc (.cells #[.int .i64 i, .int .i64 j] 31)).alloc (.cells #[.int .i64 0, .int .i64 0, .int .i64 0, .int .i64 0, .string ⟨#[]⟩] 69)) := ((Below.refl _ _).alloc (Nat.le_refl _) _).alloc (by simp) _
  have hz0 : EntAt ((w.alloc (.cells #[.int .i64 i, .int .i64 j] 31)).alloc (.cells #[.int .i64 0, .int .i64 0, .int .i64 0, .int .i64 0, .string ⟨#[]⟩] 69)) (w.heap.size + 1) 0 0 0 0 ⟨#[]⟩ := heap_alloc2_new w _ _
  have HB0 := Lib.hid hb0
  have HZ0 := Lib.hid hz0
  clear hb0 hz0
  dsimp only [entV, e0]
  rw [str0]
  go_enter Try.func38, Try.ntmps38
  go_wp2_with (refine wpList_store_row rfl _ (.tmp 4) (.tmp 8) rfl (w.heap.size + 1) _ rfl rfl _ _ HZ0.out info_ent rfl (one_ent _ _ _ _ _) ?_)
  exact bodyPost_ret (results_cell_tmp_row rfl _ _ (w.heap.size + 1) _ _ _ _ rfl (setRow_heap _ _ _ _ _ (0, 0) HZ0.out) Try.underlying69 rfl info_ent) rfl ⟨rfl, below_setRow HB0.out (by omega) _⟩
theorem own_nilD (w : World) (i j : Int) :
    Calls Try.prog 60 #[.pointer none, .agg #[.int .i64 i, .int .i64 j]] w fun e w' => e = .returned (.tuple #[entV e0, .int .i64 1]) ∧ Below w.heap.size w w' := by
  have hb0 : Below w.heap.size w ((w.alloc (.cells #[.int .i64 i, .int .i64 j] 31)).alloc (.cells #[.int .i64 0, .int .i64 0, .int .i64 0, .int .i64 0, .string ⟨#[]⟩] 69)) := ((Below.refl _ _).alloc (Nat.le_refl _) _).alloc (by simp) _
  have hz0 : EntAt ((w.alloc (.cells #[.int .i64 i, .int .i64 j] 31)).alloc (.cells #[.int .i64 0, .int .i64 0, .int .i64 0, .int .i64 0, .string ⟨#[]⟩] 69)) (w.heap.size + 1) 0 0 0 0 ⟨#[]⟩ := heap_alloc2_new w _ _
  have HB0 := Lib.hid hb0
  have HZ0 := Lib.hid hz0
  clear hb0 hz0
  dsimp only [entV, e0]
  rw [str0]
  go_enter Try.func60, Try.ntmps60
  go_wp2_with (refine wpList_store_row rfl _ (.tmp 4) (.tmp 10) rfl (w.heap.size + 1) _ rfl rfl _ _ HZ0.out info_ent rfl (one_ent _ _ _ _ _) ?_)
  exact bodyPost_ret (results_cell_tmp_row rfl _ _ (w.heap.size + 1) _ _ _ _ rfl (setRow_heap _ _ _ _ _ (0, 0) HZ0.out) Try.underlying69 rfl info_ent) rfl ⟨rfl, below_setRow HB0.out (by omega) _⟩
theorem put_nilD (w : World) (i j : Int) (A : Option Addr) (n c : Nat) :
    Calls Try.prog 28 #[.pointer none, .agg #[.int .i64 i, .int .i64 j], .slice A n c] w fun e w' => e = .returned (.int .i64 1) ∧ Below w.heap.size w w' := by
  have hb0 : Below w.heap.size w (w.alloc (.cells #[.int .i64 i, .int .i64 j] 31)) := (Below.refl _ _).alloc (Nat.le_refl _) _
  have hk0 : Key2 (w.alloc (.cells #[.int .i64 i, .int .i64 j] 31)) w.heap.size i j := heap_alloc_new w _
  have ho := own_nilD (w.alloc (.cells #[.int .i64 i, .int .i64 j] 31)) i j
  dsimp only [entV, e0] at ho
  rw [str0] at ho
  have HO := Lib.hid ho
  have HB0 := Lib.hid hb0
  obtain ⟨c0, c1⟩ := hk0.cells
  clear hb0 hk0 ho
  go_enter Try.func28, Try.ntmps28
  go_wp2_with fail
  refine HO.out.mono ?_
  rintro e w1 ⟨rfl, hb1⟩
  have HB1 := Lib.hid (kF (kA hb1 (.cells #[.int .i64 0, .int .i64 0, .int .i64 0, .int .i64 0, .string ⟨#[]⟩] 69)) HB0.out)
  clear hb1 c0 c1
  go_wp2_with fail
  go_ret
  exact ⟨rfl, HB1.out⟩
theorem set_nilD (w : World) (i j n : Int) :
    Calls Try.prog 30 #[.pointer none, .agg #[.int .i64 i, .int .i64 j], .int .i64 n] w fun e w' => e = .returned (.int .i64 1) ∧ Below w.heap.size w w' := by
  have hb0 : Below w.heap.size w (w.alloc (.cells #[.int .i64 i, .int .i64 j] 31)) := (Below.refl _ _).alloc (Nat.le_refl _) _
  have hk0 : Key2 (w.alloc (.cells #[.int .i64 i, .int .i64 j] 31)) w.heap.size i j := heap_alloc_new w _
  have ho := own_nilD (w.alloc (.cells #[.int .i64 i, .int .i64 j] 31)) i j
  dsimp only [entV, e0] at ho
  rw [str0] at ho
  have HO := Lib.hid ho
  have HB0 := Lib.hid hb0
  obtain ⟨c0, c1⟩ := hk0.cells
  clear hb0 hk0 ho
  go_enter Try.func30, Try.ntmps30
  go_wp2_with fail
  refine HO.out.mono ?_
  rintro e w1 ⟨rfl, hb1⟩
  have HB1 := Lib.hid (kF (kA hb1 (.cells #[.int .i64 0, .int .i64 0, .int .i64 0, .int .i64 0, .string ⟨#[]⟩] 69)) HB0.out)
  clear hb1 c0 c1
  go_wp2_with fail
  go_ret
  exact ⟨rfl, HB1.out⟩
set_option maxRecDepth 100000 in
theorem subs_nil_in (n : Nat) (hn : 1 ≤ n) (l gb kb : Nat) (J Jx : List Int → World → Prop) (W : World)
    (hbox : W.heap[gb]? = some (.cells #[.pointer none] 23 (0, 0))) (h0 : J [] (W.alloc (.cells #[.func (.yield l) #[] #[]] 95))) :
    CallsIn Fence.wide n Try.prog 42 #[.func (.yield l) #[] #[], .pointer (some ⟨gb, 0, none⟩), .pointer (some ⟨kb, 0, none⟩)] W fun e W' => (∃ v, e = .returned v) ∧
      ((∃ ys, ys = [] ∧ J ys W') ∨ (∃ pre, pre <+: [] ∧ Jx pre W')) := by
  have hg := (Array.getElem?_eq_some_iff.1 hbox).1
  have cb : (W.alloc (.cells #[.func (.yield l) #[] #[]] 95)).cell? ⟨gb, 0, none⟩ = some (.pointer none) := by rw [cell_of_row _ _ _ _ _ _ ((heap_alloc_old W _ _ hg).trans hbox)]; rfl
  have HJ := Lib.hid h0
  clear hbox h0
  refine callsIn_of_wp Try.func42 rfl trivial ?_ rfl
  simp only [Try.ntmps42, List.size_toArray, List.length_cons, List.length_nil, Nat.reduceAdd, Nat.reduceSub, Array.replicate_succ, Array.replicate_zero, List.push_toArray, List.append_toArray, List.nil_append, List.cons_append]
  gi_wp2_with fail
  refine bodyPost_ret (results_none rfl _ _ _) rfl ?_
  exact ⟨⟨_, rfl⟩, .inl ⟨_, rfl, HJ.out⟩⟩
theorem subs_nil_L (n : Nat) (hn : 1 ≤ n) (gb kb : Nat) (Fx : Nat → Prop) (tb : World → Option Nat) (w : World) (hbox : w.heap[gb]? = some (.cells #[.pointer none] 23 (0, 0))) :
    SeqL n Try.prog 42 #[.pointer (some ⟨gb, 0, none⟩), .pointer (some ⟨kb, 0, none⟩)] encS (Kq Fx tb) (fun ys => ys = []) (fun pre => pre <+: []) 0 w := fun l J Jx W hW hJ _ _ h0 =>
  subs_nil_in n hn l gb kb J Jx W ((hW.block gb (Array.getElem?_eq_some_iff.1 hbox).1).trans hbox) (hJ.alloc _ h0)
set_option maxRecDepth 100000 in
theorem keys_nil_in (n : Nat) (hn : 1 ≤ n) (l gb : Nat) (J Jx : List (Int × Int) → World → Prop) (W : World)
    (hbox : W.heap[gb]? = some (.cells #[.pointer none] 23 (0, 0))) (h0 : J [] (W.alloc (.cells #[.func (.yield l) #[] #[]] 110))) :
    CallsIn Fence.wide n Try.prog 63 #[.func (.yield l) #[] #[], .pointer (some ⟨gb, 0, none⟩)] W fun e W' => (∃ v, e = .returned v) ∧
      ((∃ ys, ys = [] ∧ J ys W') ∨ (∃ pre, pre <+: [] ∧ Jx pre W')) := by
  have hg := (Array.getElem?_eq_some_iff.1 hbox).1
  have cb : (W.alloc (.cells #[.func (.yield l) #[] #[]] 110)).cell? ⟨gb, 0, none⟩ = some (.pointer none) := by rw [cell_of_row _ _ _ _ _ _ ((heap_alloc_old W _ _ hg).trans hbox)]; rfl
  have HJ := Lib.hid h0
  clear hbox h0
  refine callsIn_of_wp Try.func63 rfl trivial ?_ rfl
  simp only [Try.ntmps63, List.size_toArray, List.length_cons, List.length_nil, Nat.reduceAdd, Nat.reduceSub, Array.replicate_succ, Array.replicate_zero, List.push_toArray, List.append_toArray, List.nil_append, List.cons_append]
  gi_wp2_with fail
  refine bodyPost_ret (results_none rfl _ _ _) rfl ?_
  exact ⟨⟨_, rfl⟩, .inl ⟨_, rfl, HJ.out⟩⟩
def encK (x : Int × Int) : Array Value := #[.agg #[.int .i64 x.1, .int .i64 x.2]]
theorem keys_nil_L (n : Nat) (hn : 1 ≤ n) (gb : Nat) (Fx : Nat → Prop) (tb : World → Option Nat) (w : World) (hbox : w.heap[gb]? = some (.cells #[.pointer none] 23 (0, 0))) :
    SeqL n Try.prog 63 #[.pointer (some ⟨gb, 0, none⟩)] encK (Kq Fx tb) (fun ys => ys = []) (fun pre => pre <+: []) 0 w := fun l J Jx W hW hJ _ _ h0 =>
  keys_nil_in n hn l gb J Jx W ((hW.block gb (Array.getElem?_eq_some_iff.1 hbox).1).trans hbox) (hJ.alloc _ h0)
def FindNil (w : World) (e : Ending) (w' : World) : Prop := e = .returned (.tuple #[entV e0, .int .i64 100794368]) ∧ Below w.heap.size w w'
set_option maxRecDepth 100000 in
set_option maxHeartbeats 4000000 in
theorem find_nil (w : World) (i j : Int) :
    CallsIn Fence.wide 9 Try.prog 34 #[.pointer none, .agg #[.int .i64 i, .int .i64 j]] w (FindNil w) := by
  have hb0 : Below w.heap.size w (((w.alloc (.cells #[.int .i64 i, .int .i64 j] 31)).alloc (.cells #[.int .i64 0, .int .i64 0, .int .i64 0, .int .i64 0, .string ⟨#[]⟩] 69)).alloc (.cells #[.int .i64 0] 43)) := (((Below.refl _ _).alloc (Nat.le_refl _) _).alloc (by simp) _).alloc (by simp; omega) _
  have hk0 : Key2 (((w.alloc (.cells #[.int .i64 i, .int .i64 j] 31)).alloc (.cells #[.int .i64 0, .int .i64 0, .int .i64 0, .int .i64 0, .string ⟨#[]⟩] 69)).alloc (.cells #[.int .i64 0] 43)) w.heap.size i j := (heap_alloc_old _ _ _ (by simp; omega)).trans (heap_alloc2_old w _ _)
  have hz0 : EntAt (((w.alloc (.cells #[.int .i64 i, .int .i64 j] 31)).alloc (.cells #[.int .i64 0, .int .i64 0, .int .i64 0, .int .i64 0, .string ⟨#[]⟩] 69)).alloc (.cells #[.int .i64 0] 43)) (w.heap.size + 1) 0 0 0 0 ⟨#[]⟩ := (heap_alloc_old _ _ _ (by simp)).trans (heap_alloc2_new w _ _)
  have ha0 : AbAt (((w.alloc (.cells #[.int .i64 i, .int .i64 j] 31)).alloc (.cells #[.int .i64 0, .int .i64 0, .int .i64 0, .int .i64 0, .string ⟨#[]⟩] 69)).alloc (.cells #[.int .i64 0] 43)) (w.heap.size + 2) 0 := by
    have h2 := heap_alloc_new ((w.alloc (.cells #[.int .i64 i, .int .i64 j] 31)).alloc (.cells #[.int .i64 0, .int .i64 0, .int .i64 0, .int .i64 0, .string ⟨#[]⟩] 69)) (.cells #[.int .i64 0] 43)
    rw [show ((w.alloc (.cells #[.int .i64 i, .int .i64 j] 31)).alloc (.cells #[.int .i64 0, .int .i64 0, .int .i64 0, .int .i64 0, .string ⟨#[]⟩] 69)).heap.size = w.heap.size + 2 by simp] at h2
    exact h2
  have hgt := get_nil (((w.alloc (.cells #[.int .i64 i, .int .i64 j] 31)).alloc (.cells #[.int .i64 0, .int .i64 0, .int .i64 0, .int .i64 0, .string ⟨#[]⟩] 69)).alloc (.cells #[.int .i64 0] 43)) i j
  have HSUB := Lib.hid (fun gb x (h1 : x.heap[gb]? = some (.cells #[.pointer none] 23 (0, 0))) => subs_nil_L 8 (by omega) gb (gb + 1) (fun k => k = w.heap.size + 1 ∨ k = w.heap.size + 2) (fun _ => none) x h1)
  unfold FindNil
  dsimp only [entV, e0] at hgt ⊢
  rw [str0] at hgt ⊢
  have HB0 := Lib.hid hb0
  have HZ0 := Lib.hid hz0
  have HA0 := Lib.hid ha0
  have HK0 := Lib.hid hk0
  have HGT := Lib.hid hgt
  obtain ⟨c0, c1⟩ := hk0.cells
  clear hb0 hk0 hz0 ha0 hgt
  refine callsIn_of_wp_marks Try.func34 rfl trivial ?_ rfl
  simp only [Try.ntmps34, List.size_toArray, List.length_cons, List.length_nil, Nat.reduceAdd, Nat.reduceSub, Array.replicate_succ, Array.replicate_zero, List.push_toArray, List.append_toArray, List.nil_append, List.cons_append]
  gi_wp2_with fail
  refine ⟨trivial, ?_⟩
  generalize (((w.alloc (.cells #[.int .i64 i, .int .i64 j] 31)).alloc (.cells #[.int .i64 0, .int .i64 0, .int .i64 0, .int .i64 0, .string ⟨#[]⟩] 69)).alloc (.cells #[.int .i64 0] 43)) = w0 at HB0 HZ0 HA0 HK0 HGT c0 c1 ⊢
  refine (callsIn_wide.2 HGT.out).mono ?_
  rintro e w1 ⟨rfl, hb1⟩
  have hb2 : Below w0.heap.size w0 (w1.alloc (.cells #[.int .i64 0, .int .i64 0, .int .i64 0, .int .i64 0, .string ⟨#[]⟩] 69)) := kA hb1 _
  have hk2 := HK0.out.below hb2
  have HB2 := Lib.hid hb2
  clear c0 c1 hb1 hb2
  obtain ⟨c0, c1⟩ := hk2.cells
  have HS2 := Lib.hid (show w.heap.size + 3 ≤ (w1.alloc (.cells #[.int .i64 0, .int .i64 0, .int .i64 0, .int .i64 0, .string ⟨#[]⟩] 69)).heap.size from by have := HB2.out.size; have := (Array.getElem?_eq_some_iff.1 HA0.out).1; omega)
  clear hk2
  gi_wp2_with fail
  refine ⟨trivial, ?_⟩
  generalize w1.alloc (.cells #[.int .i64 0, .int .i64 0, .int .i64 0, .int .i64 0, .string ⟨#[]⟩] 69) = w2 at HB2 HS2 c0 c1 ⊢
  refine (callsIn_wide.2 (dsubs_any _ _ _)).mono ?_
  rintro e w3 ⟨rfl, rfl⟩
  have hb3 : Below w2.heap.size w2 ((w2.alloc (.cells #[.pointer none] 23)).alloc (.cells #[.int .i64 i] 3)) := kA ((Below.refl _ _).alloc (Nat.le_refl _) _) _
  have HB3 := Lib.hid (kF hb3 HB2.out)
  have HX1 := Lib.hid (heap_alloc2_old w2 (.cells #[.pointer none] 23) (.cells #[.int .i64 i] 3))
  have HX2 := Lib.hid (heap_alloc2_new w2 (.cells #[.pointer none] 23) (.cells #[.int .i64 i] 3))
  have HS3 := Lib.hid (show w2.heap.size + 2 ≤ ((w2.alloc (.cells #[.pointer none] 23)).alloc (.cells #[.int .i64 i] 3)).heap.size from by simp)
  clear hb3 c0 c1
  gi_wp2_with fail
  generalize (w2.alloc (.cells #[.pointer none] 23)).alloc (.cells #[.int .i64 i] 3) = w3 at HB3 HX1 HX2 HS3 ⊢
  generalize w2.heap.size = B1 at HX1 HX2 HS2 HS3 ⊢
  have hs2 := HS2.out
  have hs3 := HS3.out
  have hst := HSUB.out B1 w3 HX1.out
  have hI : FiI w [] w3 := ⟨rfl, HZ0.out.below HB3.out, HA0.out.below HB3.out, kF HB3.out HB0.out⟩
  refine range_L (by omega) (gf := 42) (lb := #[.pointer (some ⟨B1, 0, none⟩), .pointer (some ⟨B1 + 1, 0, none⟩)]) rfl (enters_of Try.func42 (by kernel_rfl) rfl) hst kq_t (fun X k o o' hk ho hc _ => kq_put loc_none (Nat.zero_le _) ho hc) (Below.refl _ _) (fun _ => rfl)
    (FiI w) (FiX w) (fun s X Y row ⟨h1, h2⟩ hg hr => ⟨h1, FiB_own w _ (by omega) 0 () X Y row h2 hg hr⟩) (fun c s X Y row ⟨h1, h2, h3⟩ hg hr => ⟨h1, h2, FiB_own w _ (by omega) 101253137 () X Y row h3 hg hr⟩) hI
    (fun y => { tmps := #[.pointer none, .agg #[.int .i64 i, .int .i64 j], undef, .pointer (some ⟨w.heap.size, 0, none⟩), .pointer (some ⟨w.heap.size + 1, 0, none⟩), .pointer (some ⟨w.heap.size + 1 + 1, 0, none⟩), .pointer (some ⟨w1.heap.size, 0, none⟩), .bool false, .tuple #[.agg #[.int .i64 0, .int .i64 0, .int .i64 0, .int .i64 0, .string ⟨#[]⟩], .bool false], .pointer none, .agg #[.int .i64 i, .int .i64 j], .tuple #[.agg #[.int .i64 0, .int .i64 0, .int .i64 0, .int .i64 0, .string ⟨#[]⟩], .bool false], .agg #[.int .i64 0, .int .i64 0, .int .i64 0, .int .i64 0, .string ⟨#[]⟩], .bool false, .bool false, undef, .pointer none, .pointer (some ⟨w.heap.size, 0, none⟩), .int .i64 i, .func (Fn.func 42) #[] #[.pointer (some ⟨B1, 0, none⟩), .pointer (some ⟨B1 + 1, 0, none⟩)], .int .i64 y, undef, undef], defers := [] }) ?assign ?body ?done ?stop
  case assign =>
    intro lp y X K hK
    dsimp only [encS]
    gi_wp2
    simpa using hK
  case body =>
    rintro lp pre y X _ hlen
    exact absurd hlen (Nat.not_lt_zero _)
  case stop =>
    rintro D cc pre X hD hSp ⟨rfl, hl, hE, hA, hB⟩ hK
    rw [List.prefix_nil.1 hSp] at hl
    cases hl
  case done =>
    rintro D ys X hD rfl ⟨-, hE, hA, hB⟩ hK
    obtain ⟨d0, d1, d2, d3, d4⟩ := hE.cells
    obtain ⟨f0, f1, f2, f3, f4⟩ := hE.froz
    have c5 := hA.cell
    have f5 : X.frozen? ⟨w.heap.size + 2, 0, none⟩ = false := frozen_of_row _ _ _ _ _ hA
    have hfs := fi_set (k' := 0) (a' := 0) (lo' := 0) (hi' := 0) (S' := ⟨#[]⟩) (c' := 100794368) hE hA hB (by omega)
    have HFS := Lib.hid hfs
    have HKD := Lib.hid (fun (x5 x0 x1 x2 x3 x4 : Value) => show ((((((X.setCell ⟨w.heap.size + 1, 0, none⟩ x0).setCell ⟨w.heap.size + 1, 1, none⟩ x1).setCell ⟨w.heap.size + 1, 2, none⟩ x2).setCell ⟨w.heap.size + 1, 3, none⟩ x3).setCell ⟨w.heap.size + 1, 4, none⟩ x4).setCell ⟨w.heap.size + 1 + 1, 0, none⟩ x5).heap[D]? = some (.deferred (some [])) from by
      rw [heap_other _ _ _ _ (by simp; omega), heap_other _ _ _ _ (by simp; omega), heap_other _ _ _ _ (by simp; omega), heap_other _ _ _ _ (by simp; omega), heap_other _ _ _ _ (by simp; omega), heap_other _ _ _ _ (by simp; omega)]; exact hK)
    clear hE hA hB hfs hK
    gi_wp2
    refine ⟨by simp, .inl ⟨_, _, rfl, run_takeDeferred (HKD.out _ _ _ _ _ _), ?_⟩⟩
    refine ⟨_, results_row_cell rfl _ _ (w.heap.size + 1) (w.heap.size + 2) _ _ _ _ _ rfl ((World.putObj_heap_other (by omega)).trans HFS.out.1) Try.underlying69 rfl info_ent rfl (load_abort _ _ _ ((World.putObj_heap_other (by omega)).trans HFS.out.2.1)), rfl, ?_⟩
    exact HFS.out.2.2.grown (grownBy_putObj' _ D (.deferred none)) HFS.out.2.2.size (fun k e => by cases e; omega)
theorem findc_nil (w : World) (i j : Int) : FindC w none i j e0 100794368 := fun x _ => callsIn_wide.1 (find_nil x i j)
end Go.Proofs.Ytmfjndkopkjchaa
