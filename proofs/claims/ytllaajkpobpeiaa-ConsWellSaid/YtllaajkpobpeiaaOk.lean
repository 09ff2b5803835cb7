/- prod: frames held against each other; the table of one byte; when the next pair is due. -/
import Derived.Test.YtllaajkpobpeiaaOj
import Derived.Deep.LoopGhost
namespace Go.Proofs.Ytllaajkpobpeiaa
open Go.RowKit
set_option linter.unusedSimpArgs false
set_option linter.unusedVariables false

def frR (id : Int) (m : Nat) (d : Nat → Int) : Array Value := #[.int .i64 id, .bool false, .int .i64 (m : Int), .int .u8 (d 0), .int .u8 (d 1), .int .u8 (d 2), .int .u8 (d 3), .int .u8 (d 4), .int .u8 (d 5), .int .u8 (d 6), .int .u8 (d 7)]
theorem TwAt.mid1 {w : World} {g : Nat} {P Q : Int} {m : Nat} {d e : Nat → Int} (h : TwAt w g P Q m d e) : w.rangeAt g 0 (frR P m d).toList := fun j v hv => by
  rw [cell_of_row _ _ _ _ _ _ h]
  have : j < 11 := (List.getElem?_eq_some_iff.1 hv).1
  rcases j with _|_|_|_|_|_|_|_|_|_|_|j
  all_goals first | exact hv | omega
theorem TwAt.mid2 {w : World} {g : Nat} {P Q : Int} {m : Nat} {d e : Nat → Int} (h : TwAt w g P Q m d e) : w.rangeAt g 11 (frR Q m e).toList := fun j v hv => by
  rw [cell_of_row _ _ _ _ _ _ h]
  have : j < 11 := (List.getElem?_eq_some_iff.1 hv).1
  rcases j with _|_|_|_|_|_|_|_|_|_|_|j
  all_goals first | exact hv | omega
theorem eqD_self (d : Nat → Int) : eqD d d = true := by simp [eqD]
theorem run_eq_self (w : World) (id : Int) (m : Nat) (d : Nat → Int) : (Op.equalIn 10000 57 (.agg (frR id m d)) (.agg (frR id m d))).run Try.prog w = .ok true w := by
  have := run_eq_frames w id id m m false false d d
  rw [eqD_self] at this
  simpa [frR] using this
set_option maxRecDepth 100000 in
set_option maxHeartbeats 4000000 in
theorem same_any (w : World) (B C : Nat) (s : Bool) (F G : Value) (P Q : Int) (m : Nat) (l : List Int) (h1 : FrP w B s F P Q m l) (h2 : FrP w C s G P Q m l) :
    Calls Try.prog 16 #[F, G] w fun e w' => e = .returned (.bool true) ∧ Below w.heap.size w w' := by
  cases s with
  | false =>
    obtain rfl : F = _ := h1
    obtain rfl : G = _ := h2
    go_enter Try.func16, Try.ntmps16
    go_wp2_with fail
    go_loopw [5] (fun i wr => i = .int .i64 0 ∧ wr = w) (fun i _ => 0)
    case atStart => exact ⟨rfl, rfl⟩
    case round =>
      obtain ⟨rfl, rfl⟩ := hrel
      go_wp2_with fail
      go_ret
      exact ⟨rfl, Below.refl _ _⟩
  | true =>
    obtain ⟨p, _, rfl, hp⟩ := h1
    obtain ⟨q, _, rfl, hq⟩ := h2
    have HP := Lib.hid hp
    have HQ := Lib.hid hq
    clear hp hq
    go_enter Try.func16, Try.ntmps16
    go_wp2_with fail
    go_loopw [5] (fun i wr => ∃ j : Nat, j ≤ 2 ∧ i = .int .i64 j ∧ Hid (Below w.heap.size w wr)) (fun i _ => 3 - (intOf i).toNat)
    case atStart => exact ⟨0, by omega, rfl, Lib.hid (Below.refl _ _)⟩
    case round =>
      obtain ⟨j, hj, rfl, HB⟩ := hrel
      have h3 : j = 0 ∨ j = 1 ∨ j = 2 := by omega
      rcases h3 with rfl | rfl | rfl
      · have HR0 : Hid (∀ x, (∃ kk, x = wr.drewN kk) → x.rangeAt p 0 (frR P m (dOf l)).toList) := Lib.hid (by rintro x ⟨kk, rfl⟩; exact (HP.out.below (kF (below_drewN (Below.refl _ _) kk) HB.out)).mid1)
        have HS0 : Hid (∀ x, (∃ kk, x = wr.drewN kk) → x.rangeAt q 0 (frR P m (dOf l)).toList) := Lib.hid (by rintro x ⟨kk, rfl⟩; exact (HQ.out.below (kF (below_drewN (Below.refl _ _) kk) HB.out)).mid1)
        have hqq := fun w => run_eq_self w P m (dOf l)
        have HBK := Lib.hid (fun kk => kF (below_drewN (Below.refl wr.heap.size wr) kk) HB.out)
        have HIF : Hid ((Try.prog.info? 57).map (·.size) = some (frR P m (dOf l)).toList.length) := Lib.hid info_frame
        generalize frR P m (dOf l) = RX at *
        go_upto_region 6 with fail
        refine wp_region_quiet_lit (by kernel_rfl) (by kernel_rfl) ?_
        repeat (go_big_quiet_step (fail))
        refine wpQuiet_load_mid (by kernel_rfl) _ (.tmp 19) rfl p 0 rfl _ _ HR0.out Try.underlying57 rfl HIF.out ?_
        iterate 3 (quiet_step (fail))
        refine wpQuiet_load_mid (by kernel_rfl) _ (.tmp 23) rfl q 0 rfl _ _ HS0.out Try.underlying57 rfl HIF.out ?_
        simp only [Array.toArray_toList]
        quiet_step (fail)
        refine wpQuiet_nil ?_
        intro _ hw'
        obtain ⟨nq, hw''⟩ := hw'
        subst hw''
        go_wp2_with fail
        exact ⟨⟨1, by omega, rfl, Lib.hid (HBK.out _)⟩, by simp [intOf]⟩
      · have HR0 : Hid (∀ x, (∃ kk, x = wr.drewN kk) → x.rangeAt p 11 (frR Q m (dOf (flipL l))).toList) := Lib.hid (by rintro x ⟨kk, rfl⟩; exact (HP.out.below (kF (below_drewN (Below.refl _ _) kk) HB.out)).mid2)
        have HS0 : Hid (∀ x, (∃ kk, x = wr.drewN kk) → x.rangeAt q 11 (frR Q m (dOf (flipL l))).toList) := Lib.hid (by rintro x ⟨kk, rfl⟩; exact (HQ.out.below (kF (below_drewN (Below.refl _ _) kk) HB.out)).mid2)
        have hqq := fun w => run_eq_self w Q m (dOf (flipL l))
        have HBK := Lib.hid (fun kk => kF (below_drewN (Below.refl wr.heap.size wr) kk) HB.out)
        have HIF : Hid ((Try.prog.info? 57).map (·.size) = some (frR Q m (dOf (flipL l))).toList.length) := Lib.hid info_frame
        generalize frR Q m (dOf (flipL l)) = RX at *
        go_upto_region 6 with fail
        refine wp_region_quiet_lit (by kernel_rfl) (by kernel_rfl) ?_
        repeat (go_big_quiet_step (fail))
        refine wpQuiet_load_mid (by kernel_rfl) _ (.tmp 19) rfl p 11 rfl _ _ HR0.out Try.underlying57 rfl HIF.out ?_
        iterate 3 (quiet_step (fail))
        refine wpQuiet_load_mid (by kernel_rfl) _ (.tmp 23) rfl q 11 rfl _ _ HS0.out Try.underlying57 rfl HIF.out ?_
        simp only [Array.toArray_toList]
        quiet_step (fail)
        refine wpQuiet_nil ?_
        intro _ hw'
        obtain ⟨nq, hw''⟩ := hw'
        subst hw''
        go_wp2_with fail
        exact ⟨⟨2, by omega, rfl, Lib.hid (HBK.out _)⟩, by simp [intOf]⟩
      · go_wp2_with fail
        go_ret
        exact ⟨rfl, HB.out⟩
/-! ### The table of one byte -/
theorem ChAt.put {w : World} {g : Nat} {x : ChV} (h : ChAt w g x) {i : Nat} (hi : i < 8) (s : SlV) : ChAt (w.setCells g (6 + i * 3) [.int .i64 s.i, .int .i64 s.j, .int .i64 s.n]) g ⟨x.dir, x.time, x.gap, x.plain, x.turned, x.n, fun j => if j = i then s else x.s j⟩ := by
  have h' : w.heap[g]? = _ := h
  have : i = 0 ∨ i = 1 ∨ i = 2 ∨ i = 3 ∨ i = 4 ∨ i = 5 ∨ i = 6 ∨ i = 7 := by omega
  unfold ChAt
  rcases this with rfl | rfl | rfl | rfl | rfl | rfl | rfl | rfl <;> (simp [World.setCells, World.setCell, Array.getElem?_modify, h', chA, Array.set!])
theorem below_setCells {B g : Nat} : ∀ (l : List Value) {o : Nat} {w w' : World}, Below B w w' → B ≤ g → Below B w (w'.setCells g o l)
  | [], _, _, _, h, _ => h
  | v :: l, o, w, w', h, hB => below_setCells l (h.setCell (p := ⟨g, o, none⟩) hB v) hB
def tab0 (time : Int) : ChV := ⟨1, time, 5, 257, 258, 1, fun _ => ⟨0, 0, 0⟩⟩
def tabX (time : Int) : ChV := ⟨1, time, 5, 257, 258, 1, fun j => if j = 0 then ⟨8192, 1, 8⟩ else ⟨0, 0, 0⟩⟩
theorem tab_size (time : Int) : szX (tabX time) = 1 := by
  unfold szX
  rw [if_neg (by simp [tabX])]
  rfl
theorem tab_sends {time : Int} (h : 1 ≤ time ∧ time ≤ 65535) : sendsB (tabX time) = true := by
  unfold sendsB
  rw [tab_size]
  exact decide_eq_true ⟨rfl, h, by omega, rfl, rfl⟩
set_option maxRecDepth 100000 in
set_option maxHeartbeats 4000000 in
theorem table_any (time : Int) (w : World) : Calls Try.prog 21 #[.int .i64 time] w fun e w' => e = .returned (.agg (chA (tabX time))) ∧ Below w.heap.size w w' := by
  have hs1 : (w.alloc (.cells (chA c0X) 29)).heap.size = w.heap.size + 1 := by simp
  have HZ0 : Hid (((w.alloc (.cells (chA c0X) 29)).alloc (.cells (chA c0X) 29)).heap[w.heap.size]? = some (.cells (chA c0X) 29 (0, 0))) := Lib.hid (by rw [heap_alloc_old _ _ (by omega), heap_alloc_new])
  have HZ1 : Hid (((w.alloc (.cells (chA c0X) 29)).alloc (.cells (chA c0X) 29)).heap[w.heap.size + 1]? = some (.cells (chA c0X) 29 (0, 0))) := Lib.hid (by rw [← hs1, heap_alloc_new])
  have HB1 : Hid (Below w.heap.size w ((w.alloc (.cells (chA c0X) 29)).alloc (.cells (chA c0X) 29))) := Lib.hid (((Below.refl _ _).alloc (Nat.le_refl _) _).alloc (by omega) _)
  have HI := Lib.hid info_chan
  have HBL : Hid (Try.prog.built 29 [(0, .int .i64 1), (1, .int .i64 time), (2, .int .i64 5), (3, .int .i64 257), (4, .int .i64 258), (5, .int .i64 1)] = some (chA (tab0 time))) := Lib.hid (by kernel_rfl)
  have H10 := Lib.hid (chA_one (tab0 time))
  have H1X := Lib.hid (chA_one (tabX time))
  have HSX : Hid ((Try.prog.info? 29).map (·.size) = some (chA (tab0 time)).size) := HI
  have HSY : Hid ((Try.prog.info? 29).map (·.size) = some (chA (tabX time)).size) := HI
  have HE0 : Hid ((chA c0X).size = (chA (tab0 time)).size) := Lib.hid rfl
  have HE1 : Hid ((chA c0X).size = (chA (tabX time)).size) := Lib.hid rfl
  clear hs1
  go_enter Try.func21, Try.ntmps21
  go_upto_region 2 with (first
    | (refine wpList_build_as rfl _ _ rfl _ _ (by kernel_rfl) HBL.out ?_)
    | (refine wpList_store_row rfl _ (.tmp 3) (.tmp 5) rfl (w.heap.size + 1) _ rfl rfl _ _ HZ1.out HSX.out HE0.out H10.out ?_))
  have HY1 : Hid (ChAt (((w.alloc (.cells (chA c0X) 29)).alloc (.cells (chA c0X) 29)).setRow (w.heap.size + 1) (chA (tab0 time))) (w.heap.size + 1) (tab0 time)) := Lib.hid (setRow_heap _ _ _ _ _ (0, 0) HZ1.out)
  have HY0 : Hid ((((w.alloc (.cells (chA c0X) 29)).alloc (.cells (chA c0X) 29)).setRow (w.heap.size + 1) (chA (tab0 time))).heap[w.heap.size]? = some (.cells (chA c0X) 29 (0, 0))) := Lib.hid ((setRow_other _ _ _ _ (by omega)).trans HZ0.out)
  have HY2 := Lib.hid (show Below w.heap.size w (((w.alloc (.cells (chA c0X) 29)).alloc (.cells (chA c0X) 29)).setRow (w.heap.size + 1) (chA (tab0 time))) from below_setRow HB1.out (by omega) _)
  clear HZ0 HZ1 HB1
  change Code.wp _ _ _ _ (((w.alloc (.cells (chA c0X) 29)).alloc (.cells (chA c0X) 29)).setRow (w.heap.size + 1) (chA (tab0 time)))
  generalize ((w.alloc (.cells (chA c0X) 29)).alloc (.cells (chA c0X) 29)).setRow (w.heap.size + 1) (chA (tab0 time)) = w2 at *
  have HTH : Hid (w2.there (w.heap.size + 1) 6 3) := Lib.hid (fun j hj => ⟨by
    have h : j = 0 ∨ j = 1 ∨ j = 2 := by omega
    rcases h with rfl | rfl | rfl <;> (rw [cell_of_row _ _ _ _ _ _ HY1.out]; rfl), frozen_of_row _ _ _ _ _ HY1.out⟩)
  have HP : Hid (ChAt (w2.setCells (w.heap.size + 1) 6 [.int .i64 8192, .int .i64 1, .int .i64 8]) (w.heap.size + 1) (tabX time)) := Lib.hid (HY1.out.put (i := 0) (by omega) ⟨8192, 1, 8⟩)
  have HPB : Hid (Below w.heap.size w (w2.setCells (w.heap.size + 1) 6 [.int .i64 8192, .int .i64 1, .int .i64 8])) := Lib.hid (below_setCells _ HY2.out (by omega))
  have HP0 : Hid ((w2.setCells (w.heap.size + 1) 6 [.int .i64 8192, .int .i64 1, .int .i64 8]).heap[w.heap.size]? = some (.cells (chA c0X) 29 (0, 0))) := Lib.hid (by
    simp only [World.setCells]
    rw [Below.heap_setCell _ ⟨w.heap.size + 1, _, none⟩ _ _ (by show ¬ w.heap.size = w.heap.size + 1; omega), Below.heap_setCell _ ⟨w.heap.size + 1, _, none⟩ _ _ (by show ¬ w.heap.size = w.heap.size + 1; omega), Below.heap_setCell _ ⟨w.heap.size + 1, _, none⟩ _ _ (by show ¬ w.heap.size = w.heap.size + 1; omega)]
    exact HY0.out)
  go_upto_region 3 with (refine wpList_store_mid rfl _ (.tmp 9) (.tmp 7) rfl (w.heap.size + 1) 6 #[.int .i64 8192, .int .i64 1, .int .i64 8] rfl rfl HTH.out (by kernel_rfl) (by kernel_rfl) ?_)
  clear HY0 HY1 HY2 HTH
  change Code.wp _ _ _ _ (w2.setCells (w.heap.size + 1) 6 [.int .i64 8192, .int .i64 1, .int .i64 8])
  generalize w2.setCells (w.heap.size + 1) 6 [.int .i64 8192, .int .i64 1, .int .i64 8] = w3 at *
  have HPP : Hid (w3.heap[w.heap.size + 1]? = some (.cells (chA (tabX time)) 29 (0, 0))) := Lib.hid HP.out
  have HD : Hid ((w3.setRow w.heap.size (chA (tabX time))).heap[w.heap.size]? = some (.cells (chA (tabX time)) 29 (0, 0))) := Lib.hid (setRow_heap _ _ _ _ _ (0, 0) HP0.out)
  have HDB : Hid (Below w.heap.size w (w3.setRow w.heap.size (chA (tabX time)))) := Lib.hid (below_setRow HPB.out (Nat.le_refl _) _)
  generalize hTX : chA (tabX time) = TX at *
  have HTX := Lib.hid hTX
  clear hTX
  generalize chA c0X = ZX at *
  go_wp2_with (first
    | (refine wpList_load_row rfl _ (.tmp 3) rfl (w.heap.size + 1) rfl _ _ _ _ HPP.out Try.underlying29 rfl HSY.out ?_)
    | (refine wpList_store_row rfl _ (.tmp 2) (.tmp 10) rfl w.heap.size _ rfl rfl _ _ HP0.out HSY.out HE1.out H1X.out ?_))
  exact bodyPost_ret (results_cell_row rfl _ _ w.heap.size _ _ _ _ rfl HD.out Try.underlying29 rfl HSY.out) rfl ⟨by rw [HTX.out], HDB.out⟩
end Go.Proofs.Ytllaajkpobpeiaa
