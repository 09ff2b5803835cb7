/- guard: Left and Fork; the document's guard. -/
import Derived.Test.YtphjdgapfcflgaaZb
import Derived.Laws.CopyOwn
namespace Go.Proofs.Ytphjdgapfcflgaa
open Go.RowKit
set_option linter.unusedSimpArgs false
set_option linter.unusedVariables false

theorem kF {a w w' : World} (k : Below w.heap.size w w') (h : Below a.heap.size a w) : Below a.heap.size a w' := h.trans (k.mono h.size)
theorem results_cell_tmp_row {P : Program} {fn : Func} {p u : Tmp} {ty : TypeId} (h : fn.results = #[.cell p ty, .tmp u]) (tmps : Array Value) (w : World) (g : Nat) (t : TypeId) (cs : Array Value) (fr : Nat × Nat) (d : TypeDesc)
    (hp : tmps.getD p undef = .pointer (some ⟨g, 0, none⟩)) (hg : w.heap[g]? = some (.cells cs t fr))
    (hu : P.underlying ty = some d) (hd : (match d with | .struct _ | .array _ _ => true | _ => false) = true) (hi : (P.info? ty).map (·.size) = some cs.size) :
    (results fn tmps).run P w = .ok (.tuple #[.agg cs, tmps.getD u undef]) w := by
  rw [results_cell_tmp h, hp]
  simp [asAddr, run_loadVar_row w g t ty cs fr d hg hu hd hi]
section
variable {g : Nat} {w : World} {T f G k : Int} {a b : Bool}
theorem left_no (n : Int) (h : GdAt w g T false f G b k) : Calls Try.prog 12 #[.pointer (some ⟨g, 0, none⟩), .int .i64 n] w fun e w' => e = .returned (.tuple #[.int .i64 0, .bool false]) ∧ ∃ m, w' = w.drewN m := by
  have HA := Lib.hid (awake_any h)
  clear h
  go_enter Try.func12, Try.ntmps12
  go_wp2_with (go_at_call 15; refine (HA.out).mono ?_; rintro e w2 ⟨rfl, rfl⟩)
  go_ret2
  exact ⟨rfl, 0, rfl⟩
set_option maxHeartbeats 400000 in
theorem left_yes (n x : Int) (h : GdAt w g T true f G b k) (hn : 0 ≤ n) (h0 : 0 ≤ f + T) (h1 : f + T ≤ 4294967296) (h2 : 0 ≤ k + G) (h3 : k + G ≤ 4294967296) (hx : (if lastE b k G < lastE true f T then lastE b k G else lastE true f T) = x) :
    Calls Try.prog 12 #[.pointer (some ⟨g, 0, none⟩), .int .i64 n] w fun e w' => e = .returned (.tuple #[.int .i64 (if x ≤ n then 0 else x - n), .bool true]) ∧ ∃ m, w' = w.drewN m := by
  have HA := Lib.hid (awake_any h)
  have H0 := Lib.hid (fun (x : World) (hx : x.heap = w.heap) => wlast0 (show GdAt x g T true f G b k by unfold GdAt; rw [hx]; exact h) h0 h1)
  have H3 := Lib.hid (fun (x : World) (hx : x.heap = w.heap) => wlast3 (show GdAt x g T true f G b k by unfold GdAt; rw [hx]; exact h) h2 h3)
  have hx0 : 0 ≤ x ∧ x ≤ 9223372036854775807 := by
    have e1 : lastE true f T = f + T := rfl
    have e2 : lastE b k G = k + G ∨ lastE b k G = 9223372036854775807 := by cases b; exact .inr rfl; exact .inl rfl
    rw [← hx]
    split <;> omega
  have HBT := Lib.hid (fun w => between_any n x w hn hx0.1 hx0.2)
  clear h h0 h1 h2 h3 hx0 hn
  generalize lastE true f T = L0 at *
  generalize lastE b k G = L3 at *
  generalize (if x ≤ n then 0 else x - n) = r at *
  go_enter Try.func12, Try.ntmps12
  go_wp2_with (go_at_call 15; refine (HA.out).mono ?_; rintro e w2 ⟨rfl, rfl⟩)
  go_region_held3 (fun _ => True) (first | trivial | exact True.intro) (first
    | (go_at_call 29; (with_reducible refine (H0.out _ ?hx).mono ?_); (case hx => exact rfl); rintro e w3 ⟨rfl, m3, rfl⟩)
    | (go_at_call 29; (with_reducible refine (H3.out _ ?hx).mono ?_); (case hx => exact rfl); rintro e w4 ⟨rfl, m4, rfl⟩)
    | (go_at_call 28; (with_reducible refine (HBT.out _).mono ?_); rintro e w4 ⟨rfl, rfl⟩))
  go_wp2_with fail
  go_ret2
  exact ⟨rfl, 1 + m3 + m4, by simp only [World.drewN_drew, World.drewN_drewN]⟩
theorem fork_any (h : GdAt w g T a f G b k) : Calls Try.prog 17 #[.pointer (some ⟨g, 0, none⟩)] w fun e w' => ∃ q, w.heap.size ≤ q ∧ e = .returned (.pointer (some ⟨q, 0, none⟩)) ∧ GdAt w' q T a f G b k ∧ Below w.heap.size w w' := by
  obtain ⟨c0, c1, c2, c3, c4, c5⟩ := h.cells
  have HX := Lib.hid (show GdAt (w.alloc (.cells #[.int .i64 T, .bool a, .int .i64 f, .int .i64 G, .bool b, .int .i64 k] 55)) w.heap.size T a f G b k from heap_alloc_new w _)
  have HB := Lib.hid ((Below.refl w.heap.size w).alloc (Nat.le_refl _) (.cells #[.int .i64 T, .bool a, .int .i64 f, .int .i64 G, .bool b, .int .i64 k] 55))
  clear h
  go_enter Try.func17, Try.ntmps17
  go_wp2_with fail
  go_ret
  exact ⟨w.heap.size, Nat.le_refl _, rfl, HX.out, HB.out⟩
end
/-! ### The document's guard -/
def RdAt (w : World) (D : Nat) (T G S F : Int) : Prop := w.heap[D]? = some (.cells #[.int .i64 T, .int .i64 G, .int .i64 S, .int .i64 F] 37 (0, 0))
theorem info_rd : (Try.prog.info? 37).map (·.size) = some 4 := by kernel_rfl
theorem one_rd (T G S F : Int) : (#[.int .i64 T, .int .i64 G, .int .i64 S, .int .i64 F] : Array Value).all (·.oneCell') = true := by simp [Value.oneCell']
section
variable {w w' : World} {D g : Nat} {T G S F : Int}
theorem RdAt.lt (h : RdAt w D T G S F) : D < w.heap.size := (Array.getElem?_eq_some_iff.1 h).1
theorem RdAt.cells (h : RdAt w D T G S F) : w.cell? ⟨D, 0, none⟩ = some (.int .i64 T) ∧ w.cell? ⟨D, 1, none⟩ = some (.int .i64 G) ∧ w.cell? ⟨D, 2, none⟩ = some (.int .i64 S) ∧ w.cell? ⟨D, 3, none⟩ = some (.int .i64 F) :=
  ⟨by rw [cell_of_row _ _ _ _ _ _ h]; rfl, by rw [cell_of_row _ _ _ _ _ _ h]; rfl, by rw [cell_of_row _ _ _ _ _ _ h]; rfl, by rw [cell_of_row _ _ _ _ _ _ h]; rfl⟩
theorem RdAt.frozen (h : RdAt w D T G S F) (i : Nat) : w.frozen? ⟨D, i, none⟩ = false := frozen_of_row _ _ _ _ _ h
theorem RdAt.below (h : RdAt w D T G S F) (hb : Below w.heap.size w w') : RdAt w' D T G S F := (hb.block D h.lt).trans h
theorem RdAt.onl (h : RdAt w D T G S F) (ho : Onl g w w') (hn : ¬ D = g) : RdAt w' D T G S F := (ho.oth D h.lt hn).trans h
theorem RdAt.row (h : RdAt w D T G S F) (T' G' S' F' : Int) : RdAt (w.setRow D #[.int .i64 T', .int .i64 G', .int .i64 S', .int .i64 F']) D T' G' S' F' := setRow_heap _ _ _ _ _ (0, 0) h
theorem RdAt.first (h : RdAt w D T G S F) (n : Int) : RdAt (w.setCell ⟨D, 3, none⟩ (.int .i64 n)) D T G S n := heap_setCell_same w D 3 _ _ _ h
theorem onl_row (cs : Array Value) (hD : RdAt w D T G S F) : Onl D w (w.setRow D cs) := ⟨below_setRow (Below.refl _ w) (Nat.le_refl _) cs, fun k _ hn => setRow_other w D k cs hn⟩
end
def wkS (S n : Int) : Int := if 0 ≤ S then S else n
def hfF (S F n : Int) : Int := if 0 ≤ S then n else F
def whS (S n : Int) : Int := if 0 ≤ S then n else S
def whF (S F : Int) : Int := if 0 ≤ S then -1 else F
def rcE (T G S F n : Int) : Int := if S < 0 then 0 else if S < n - T then 4 else if 0 ≤ F ∧ F < n - G then 5 else 0
theorem rnew_any (T G : Int) (w : World) : Calls Try.prog 18 #[.int .i64 T, .int .i64 G] w fun e w' => e = .returned (.agg #[.int .i64 T, .int .i64 G, .int .i64 (-1), .int .i64 (-1)]) ∧ Below w.heap.size w w' := by
  go_enter Try.func18, Try.ntmps18
  go_wp2_with fail
  exact bodyPost_ret (results_cell_row rfl _ _ w.heap.size _ _ _ _ rfl (heap_alloc_new w _) Try.underlying37 rfl info_rd) rfl ⟨rfl, by go_grown⟩
theorem rwake_no (T G S F n : Int) (w : World) (h : 0 ≤ S) : Calls Try.prog 19 #[.agg #[.int .i64 T, .int .i64 G, .int .i64 S, .int .i64 F], .int .i64 n] w fun e w' => e = .returned (.tuple #[.agg #[.int .i64 T, .int .i64 G, .int .i64 S, .int .i64 F], .bool false]) ∧ Below w.heap.size w w' := by
  go_enter Try.func19, Try.ntmps19
  go_wp2_with fail
  exact bodyPost_ret (results_cell_tmp_row rfl _ _ (w.heap.size + 1) _ _ _ _ rfl (heap_alloc2_new w _ _) Try.underlying37 rfl info_rd) rfl ⟨rfl, by go_grown⟩
theorem rwake_yes (T G S F n : Int) (w : World) (h : S < 0) : Calls Try.prog 19 #[.agg #[.int .i64 T, .int .i64 G, .int .i64 S, .int .i64 F], .int .i64 n] w fun e w' => e = .returned (.tuple #[.agg #[.int .i64 T, .int .i64 G, .int .i64 n, .int .i64 F], .bool true]) ∧ Below w.heap.size w w' := by
  have h0 : ¬ 0 ≤ S := by omega
  go_enter Try.func19, Try.ntmps19
  go_wp2_with fail
  exact bodyPost_ret (results_cell_tmp_row rfl _ _ (w.heap.size + 1) _ _ _ _ rfl (heap_alloc2_new w _ _) Try.underlying37 rfl info_rd) rfl ⟨rfl, by go_grown⟩
theorem rhalf_no (T G S F n : Int) (w : World) (h : S < 0) : Calls Try.prog 21 #[.agg #[.int .i64 T, .int .i64 G, .int .i64 S, .int .i64 F], .int .i64 n] w fun e w' => e = .returned (.agg #[.int .i64 T, .int .i64 G, .int .i64 S, .int .i64 F]) ∧ Below w.heap.size w w' := by
  have h0 : ¬ 0 ≤ S := by omega
  go_enter Try.func21, Try.ntmps21
  go_wp2_with fail
  exact bodyPost_ret (results_cell_row rfl _ _ (w.heap.size + 1) _ _ _ _ rfl (heap_alloc2_new w _ _) Try.underlying37 rfl info_rd) rfl ⟨rfl, by go_grown⟩
theorem rhalf_yes (T G S F n : Int) (w : World) (h : 0 ≤ S) : Calls Try.prog 21 #[.agg #[.int .i64 T, .int .i64 G, .int .i64 S, .int .i64 F], .int .i64 n] w fun e w' => e = .returned (.agg #[.int .i64 T, .int .i64 G, .int .i64 S, .int .i64 n]) ∧ Below w.heap.size w w' := by
  go_enter Try.func21, Try.ntmps21
  go_wp2_with fail
  exact bodyPost_ret (results_cell_row rfl _ _ (w.heap.size + 1) _ _ _ _ rfl (heap_alloc2_new w _ _) Try.underlying37 rfl info_rd) rfl ⟨rfl, by go_grown⟩
theorem rwhole_no (T G S F n : Int) (w : World) (h : S < 0) : Calls Try.prog 22 #[.agg #[.int .i64 T, .int .i64 G, .int .i64 S, .int .i64 F], .int .i64 n] w fun e w' => e = .returned (.agg #[.int .i64 T, .int .i64 G, .int .i64 S, .int .i64 F]) ∧ Below w.heap.size w w' := by
  have h0 : ¬ 0 ≤ S := by omega
  go_enter Try.func22, Try.ntmps22
  go_wp2_with fail
  exact bodyPost_ret (results_cell_row rfl _ _ (w.heap.size + 1) _ _ _ _ rfl (heap_alloc2_new w _ _) Try.underlying37 rfl info_rd) rfl ⟨rfl, by go_grown⟩
theorem rwhole_yes (T G S F n : Int) (w : World) (h : 0 ≤ S) : Calls Try.prog 22 #[.agg #[.int .i64 T, .int .i64 G, .int .i64 S, .int .i64 F], .int .i64 n] w fun e w' => e = .returned (.agg #[.int .i64 T, .int .i64 G, .int .i64 n, .int .i64 (-1)]) ∧ Below w.heap.size w w' := by
  go_enter Try.func22, Try.ntmps22
  go_wp2_with fail
  exact bodyPost_ret (results_cell_row rfl _ _ (w.heap.size + 1) _ _ _ _ rfl (heap_alloc2_new w _ _) Try.underlying37 rfl info_rd) rfl ⟨rfl, by go_grown⟩
theorem rsleep_any (T G S F : Int) (w : World) : Calls Try.prog 20 #[.agg #[.int .i64 T, .int .i64 G, .int .i64 S, .int .i64 F]] w fun e w' => e = .returned (.agg #[.int .i64 T, .int .i64 G, .int .i64 (-1), .int .i64 (-1)]) ∧ Below w.heap.size w w' := by
  have HN := Lib.hid (fun w => rnew_any T G w)
  have HZ := Lib.hid (show RdAt ((w.alloc (.cells #[.int .i64 T, .int .i64 G, .int .i64 S, .int .i64 F] 37)).alloc (.cells #[.int .i64 0, .int .i64 0, .int .i64 0, .int .i64 0] 37)) (w.heap.size + 1) 0 0 0 0 from heap_alloc2_new w _ _)
  have HB := Lib.hid (show Below w.heap.size w ((w.alloc (.cells #[.int .i64 T, .int .i64 G, .int .i64 S, .int .i64 F] 37)).alloc (.cells #[.int .i64 0, .int .i64 0, .int .i64 0, .int .i64 0] 37)) from ((Below.refl _ _).alloc (Nat.le_refl _) _).alloc (by simp) _)
  go_enter Try.func20, Try.ntmps20
  go_wp2_with (first
    | (go_at_call 18; refine (HN.out _).mono ?_; rintro e w1 ⟨rfl, hb1⟩; have HZ1 := Lib.hid (HZ.out.below hb1); have HB1 := Lib.hid (kF hb1 HB.out); clear hb1)
    | (refine wpList_store_row rfl _ (.tmp 2) (.tmp 7) rfl (w.heap.size + 1) _ rfl rfl _ _ HZ1.out info_rd rfl (one_rd _ _ _ _) ?_))
  exact bodyPost_ret (results_cell_row rfl _ _ (w.heap.size + 1) _ _ _ _ rfl (HZ1.out.row _ _ _ _) Try.underlying37 rfl info_rd) rfl ⟨rfl, below_setRow HB1.out (by omega) _⟩
set_option maxHeartbeats 1000000 in
theorem rcheck_any (T G S F n : Int) (w : World) (hT : 0 ≤ T) (hT2 : T ≤ 65535) (hG : 0 ≤ G) (hG2 : G ≤ 65535) (hn : 0 ≤ n) (hn2 : n ≤ 2147483647) : Calls Try.prog 23 #[.agg #[.int .i64 T, .int .i64 G, .int .i64 S, .int .i64 F], .int .i64 n] w fun e w' => e = .returned (.int .i64 (rcE T G S F n)) ∧ Below w.heap.size w w' := by
  have e1 : IntKind.i64.wrap (n - T) = n - T := IntWalk.i64_in _ (by omega)
  have e2 : IntKind.i64.wrap (n - G) = n - G := IntWalk.i64_in _ (by omega)
  clear hT hT2 hG hG2 hn hn2
  by_cases h1 : S < 0
  · rw [show rcE T G S F n = 0 from if_pos h1]
    go_enter Try.func23, Try.ntmps23
    go_wp2_with fail
    go_ret
    exact ⟨rfl, by go_grown⟩
  · by_cases h2 : S < n - T
    · rw [show rcE T G S F n = 4 from (if_neg h1).trans (if_pos h2)]
      go_enter Try.func23, Try.ntmps23
      go_wp2_with fail
      go_ret
      exact ⟨rfl, by go_grown⟩
    · by_cases h3 : 0 ≤ F
      · by_cases h4 : F < n - G
        · rw [show rcE T G S F n = 5 from (if_neg h1).trans ((if_neg h2).trans (if_pos ⟨h3, h4⟩))]
          go_enter Try.func23, Try.ntmps23
          go_wp2_with fail
          go_ret
          exact ⟨rfl, by go_grown⟩
        · rw [show rcE T G S F n = 0 from (if_neg h1).trans ((if_neg h2).trans (if_neg (fun h => h4 h.2)))]
          go_enter Try.func23, Try.ntmps23
          go_wp2_with fail
          go_ret
          exact ⟨rfl, by go_grown⟩
      · rw [show rcE T G S F n = 0 from (if_neg h1).trans ((if_neg h2).trans (if_neg (fun h => h3 h.1)))]
        go_enter Try.func23, Try.ntmps23
        go_wp2_with fail
        go_ret
        exact ⟨rfl, by go_grown⟩
end Go.Proofs.Ytphjdgapfcflgaa
