/- New and Put. -/
import Derived.Test.YtgnfohncgfgecaaMd
import Derived.Test.YtgnfohncgfgecaaRl
namespace Go.Proofs.Ytgnfohncgfgecaa
open Go.RowKit Go.Shelf

theorem kD (w : World) : Below w.heap.size w w.drew := ⟨rfl, rfl, rfl, Nat.le_refl _, fun _ _ => rfl⟩
theorem kA {a w : World} (h : Below a.heap.size a w) (o : Obj) : Below a.heap.size a (w.alloc o) := h.alloc h.size o
theorem kE {B : Nat} {a w : World} (h : Below B a w) : Below B a w.drew := ⟨h.os, h.tape, h.output, h.size, h.block⟩
theorem kF {a w w' : World} (k : Below w.heap.size w w') (h : Below a.heap.size a w) : Below a.heap.size a w' := h.trans (k.mono h.size)
theorem own_slice {w : World} {base e s n : Nat} {v : Value} {xs : List Value} (h : w.ownsRow base e s v n xs) : ∃ a c, v = .slice a n c := by
  rcases h.2 with ⟨rfl, h0⟩ | ⟨g', cap, cur, rfl, _⟩
  · exact ⟨none, 0, by rw [h0]⟩
  · exact ⟨_, _, rfl⟩
/-- A call on the mailbox g whose letters lie at v has turned nothing else. -/
structure Tch (w w' : World) (g : Nat) (v : Value) : Prop where
  os : w'.os = w.os
  tape : w'.tape = w.tape
  output : w'.output = w.output
  size : w.heap.size ≤ w'.heap.size
  block : ∀ k, k < w.heap.size → k ≠ g → v.ownBlock ≠ some k → w'.heap[k]? = w.heap[k]?
theorem Tch.below {w w' : World} {g B : Nat} {v : Value} (h : Tch w w' g v) (hB : B ≤ w.heap.size) (hg : B ≤ g) (hA : ∀ b, v.ownBlock = some b → B ≤ b) : Below B w w' :=
  ⟨h.os, h.tape, h.output, h.size, fun k hk => h.block k (by omega) (by omega) (fun e => by have := hA k e; omega)⟩
theorem Tch.of_below {w w' : World} {g : Nat} {v : Value} (h : Below w.heap.size w w') : Tch w w' g v := ⟨h.os, h.tape, h.output, h.size, fun k hk _ _ => h.block k hk⟩
theorem Tch.grown {w w1 w2 : World} {g : Nat} {v : Value} (h : Tch w w1 g v) (hg : w1.grownBy w2 v.ownBlock) : Tch w w2 g v :=
  ⟨hg.os.trans h.os, hg.tape.trans h.tape, hg.output.trans h.output, Nat.le_trans h.size hg.size, fun k hk h1 h2 => (hg.block k (Nat.lt_of_lt_of_le hk h.size) (fun e => h2 e.symm)).trans (h.block k hk h1 h2)⟩
theorem Tch.set {w w1 : World} {g : Nat} {v : Value} (h : Tch w w1 g v) (o : Nat) (x : Value) : Tch w (w1.setCell ⟨g, o, none⟩ x) g v :=
  ⟨h.os, h.tape, h.output, by simp; exact h.size, fun k hk h1 h2 => (Below.heap_setCell _ _ _ _ h1).trans (h.block k hk h1 h2)⟩
theorem Tch.drew {w w1 : World} {g : Nat} {v : Value} (h : Tch w w1 g v) : Tch w w1.drew g v := ⟨h.os, h.tape, h.output, h.size, h.block⟩
theorem grown_set (w : World) (g o : Nat) (x : Value) : w.grownBy (w.setCell ⟨g, o, none⟩ x) (some g) := ⟨rfl, rfl, rfl, by simp, fun k _ hne => Below.heap_setCell _ _ _ _ (fun e => hne (by rw [e]))⟩
section
variable {w w' : World} {base g : Nat} {ls ls' : List Ltr} {lost : Int} {v v' : Value}
theorem Bx.put (h : Bx w base g ls lost v) (hr : w'.ownsRow base 66 12 v' ls'.length (flat ls')) (hg : w'.heap[g]? = w.heap[g]?) (hi : v'.ownBlock ≠ some g) (hp : ∀ s, cntL s ls' ≤ 8) : Bx (w'.setCell ⟨g, 0, none⟩ v') base g ls' lost v' := by
  have hb : w'.heap[g]? = some (.cells #[v, .int .i64 lost] 60 (0, 0)) := hg.trans h.box
  exact ⟨by simp [World.setCell, Array.getElem?_modify, hb], hr.kept (grown_set w' g 0 v') (.inr hi), hi, hp⟩
theorem Bx.loss (h : Bx w base g ls lost v) (x : Int) : Bx (w.setCell ⟨g, 1, none⟩ (.int .i64 x)) base g ls x v := by
  have hb := h.box
  exact ⟨by simp [World.setCell, Array.getElem?_modify, hb], h.row.kept (grown_set w g 1 _) (.inr h.isnt), h.isnt, h.part⟩
theorem Bx.drew (h : Bx w base g ls lost v) : Bx w.drew base g ls lost v := ⟨h.box, h.row, h.isnt, h.part⟩
end
theorem new_any (w : World) : Calls Try.prog 7 #[] w fun e w' => e = .returned (.pointer (some ⟨w.heap.size, 0, none⟩)) ∧ Bx w' (w.heap.size + 1) w.heap.size [] 0 (.slice none 0 0) ∧ Below w.heap.size w w' := by
  have hbx : Bx (w.alloc (.cells #[.slice none 0 0, .int .i64 0] 60)) (w.heap.size + 1) w.heap.size [] 0 (.slice none 0 0) := ⟨heap_alloc_new w _, ⟨rfl, .inl ⟨rfl, rfl⟩⟩, by simp [Value.ownBlock], by simp [cntL]⟩
  have hb : Below w.heap.size w (w.alloc (.cells #[.slice none 0 0, .int .i64 0] 60)) := (Below.refl _ _).alloc (Nat.le_refl _) _
  have HBX := Lib.hid hbx
  have HB := Lib.hid hb
  clear hbx hb
  go_enter Try.func7, Try.ntmps7
  go_wp2_with fail
  go_ret
  exact ⟨rfl, HBX.out, HB.out⟩

/-- A letter comes in: where it stands. -/
def insL (x : Ltr) (ls : List Ltr) : List Ltr := ls.take (plc x.rank ls) ++ [x] ++ ls.drop (plc x.rank ls)
theorem insL_len (x : Ltr) (ls : List Ltr) : (insL x ls).length = ls.length + 1 := by
  have := plc_le x.rank ls
  simp [insL]; omega
theorem cntL_app (s : Bool) (a b : List Ltr) : cntL s (a ++ b) = cntL s a + cntL s b := by simp [cntL]
theorem insL_cnt (s : Bool) (x : Ltr) (ls : List Ltr) : cntL s (insL x ls) = cntL s ls + if x.s == s then 1 else 0 := by
  have h : cntL s (ls.take (plc x.rank ls)) + cntL s (ls.drop (plc x.rank ls)) = cntL s ls := by rw [← cntL_app, List.take_append_drop]
  unfold insL
  rw [cntL_app, cntL_app]
  have : cntL s [x] = if x.s == s then 1 else 0 := by unfold cntL; cases hx : x.s == s <;> simp [hx]
  omega
theorem insL_flat (x : Ltr) (ls : List Ltr) : (flat ls).take (plc x.rank ls * 12) ++ x.v ++ (flat ls).drop (plc x.rank ls * 12) = flat (insL x ls) := by
  unfold insL
  rw [flat_take, flat_drop, flat_append, flat_append]
  simp [flat]
/-- What Put makes of a mailbox. -/
structure PutTo (w : World) (base g : Nat) (ls : List Ltr) (lost : Int) (code : Int) (v : Value) (e : Ending) (w' : World) : Prop where
  code : e = .returned (.int .i64 code)
  goes : ∃ v', Bx w' base g ls lost v' ∧ (v'.ownBlock = v.ownBlock ∨ ∃ b, v'.ownBlock = some b ∧ w.heap.size ≤ b)
  touch : Tch w w' g v

set_option maxRecDepth 100000 in
set_option maxHeartbeats 4000000 in
theorem put_bad (w : World) (base g : Nat) (ls : List Ltr) (lost : Int) (v : Value) (id n : Int) (r s : Bool) (d : Nat → Int) (h : Bx w base g ls lost v) (hc : chk id r n d ≠ 0) :
    Calls Try.prog 9 #[.pointer (some ⟨g, 0, none⟩), .agg #[.int .i64 id, .bool r, .int .i64 n, .int .u8 (d 0), .int .u8 (d 1), .int .u8 (d 2), .int .u8 (d 3), .int .u8 (d 4), .int .u8 (d 5), .int .u8 (d 6), .int .u8 (d 7)], .bool s] w (PutTo w base g ls lost (chk id r n d) v) := by
  have hca := fun w => check_any id n r d w
  generalize chk id r n d = q at *
  have hb : Below w.heap.size w (w.alloc (.cells #[.int .i64 id, .bool r, .int .i64 n, .int .u8 (d 0), .int .u8 (d 1), .int .u8 (d 2), .int .u8 (d 3), .int .u8 (d 4), .int .u8 (d 5), .int .u8 (d 6), .int .u8 (d 7)] 30)) := (Below.refl _ _).alloc (Nat.le_refl _) _
  obtain ⟨d0, d1, d2, d3, d4, d5, d6, d7, d8, d9, d10⟩ := (frame_new w id n r d).cells
  have t1 : (q != 0) = true := by simpa using hc
  have HB := Lib.hid hb
  have HX := Lib.hid h
  have HCA := Lib.hid hca
  clear hb h hca hc
  go_enter Try.func9, Try.ntmps9
  go_wp2_with fail
  generalize w.alloc (.cells #[.int .i64 id, .bool r, .int .i64 n, .int .u8 (d 0), .int .u8 (d 1), .int .u8 (d 2), .int .u8 (d 3), .int .u8 (d 4), .int .u8 (d 5), .int .u8 (d 6), .int .u8 (d 7)] 30) = w0 at *
  refine (HCA.out _).mono ?_
  rintro e w1 ⟨rfl, hb1⟩
  have hbb := kF hb1 HB.out
  clear d0 d1 d2 d3 d4 d5 d6 d7 d8 d9 d10
  go_wp2_with fail
  go_ret
  exact ⟨rfl, ⟨v, HX.out.below hbb, .inl rfl⟩, Tch.of_below hbb⟩
set_option maxRecDepth 100000 in
set_option maxHeartbeats 4000000 in
theorem put_full (w : World) (base g : Nat) (ls : List Ltr) (lost : Int) (v : Value) (id n : Int) (r s : Bool) (d : Nat → Int) (h : Bx w base g ls lost v) (hl : 0 ≤ lost ∧ lost ≤ 1000000) (hc : chk id r n d = 0) (hf : cntL s ls = 8) :
    Calls Try.prog 9 #[.pointer (some ⟨g, 0, none⟩), .agg #[.int .i64 id, .bool r, .int .i64 n, .int .u8 (d 0), .int .u8 (d 1), .int .u8 (d 2), .int .u8 (d 3), .int .u8 (d 4), .int .u8 (d 5), .int .u8 (d 6), .int .u8 (d 7)], .bool s] w (PutTo w base g ls (lost + 1) 6 v) := by
  have hca := fun w => check_any id n r d w
  have hln := fun (w : World) (h : Bx w base g ls lost v) => len_any w base g ls lost v s h
  rw [hf] at hln
  simp only [hc] at hca
  have hb : Below w.heap.size w (w.alloc (.cells #[.int .i64 id, .bool r, .int .i64 n, .int .u8 (d 0), .int .u8 (d 1), .int .u8 (d 2), .int .u8 (d 3), .int .u8 (d 4), .int .u8 (d 5), .int .u8 (d 6), .int .u8 (d 7)] 30)) := (Below.refl _ _).alloc (Nat.le_refl _) _
  obtain ⟨d0, d1, d2, d3, d4, d5, d6, d7, d8, d9, d10⟩ := (frame_new w id n r d).cells
  have HB := Lib.hid hb
  have HX := Lib.hid h
  have HCA := Lib.hid hca
  have HLN := Lib.hid hln
  clear hb h hca hc hln hf
  go_enter Try.func9, Try.ntmps9
  go_wp2_with fail
  generalize w.alloc (.cells #[.int .i64 id, .bool r, .int .i64 n, .int .u8 (d 0), .int .u8 (d 1), .int .u8 (d 2), .int .u8 (d 3), .int .u8 (d 4), .int .u8 (d 5), .int .u8 (d 6), .int .u8 (d 7)] 30) = w0 at *
  refine (HCA.out _).mono ?_
  rintro e w1 ⟨rfl, hb1⟩
  have HBB := Lib.hid (kF hb1 HB.out)
  clear d0 d1 d2 d3 d4 d5 d6 d7 d8 d9 d10 hb1
  go_wp2_with fail
  refine (HLN.out _ (HX.out.below HBB.out)).mono ?_
  rintro e w2 ⟨rfl, hb2⟩
  have HB2 := Lib.hid (kF hb2 HBB.out)
  clear hb2
  have hx2 := HX.out.below HB2.out
  obtain ⟨_, c1⟩ := hx2.cells
  have f1 := hx2.frozen 1
  have hw1 : IntKind.i64.wrap (lost + 1) = lost + 1 := IntWalk.i64_in _ (by omega)
  clear hx2
  go_wp2_with fail
  go_ret
  exact ⟨rfl, ⟨v, (HX.out.below HB2.out).loss _, .inl rfl⟩, (Tch.of_below HB2.out).set _ _⟩
set_option maxRecDepth 100000 in
set_option maxHeartbeats 4000000 in
theorem put_goes (w : World) (base g : Nat) (ls : List Ltr) (lost : Int) (v : Value) (id n : Int) (r s : Bool) (d : Nat → Int) (h : Bx w base g ls lost v) (hbase : base ≤ w.heap.size) (hgb : g < w.heap.size) (hc : chk id r n d = 0) (hf : cntL s ls < 8) :
    Calls Try.prog 9 #[.pointer (some ⟨g, 0, none⟩), .agg #[.int .i64 id, .bool r, .int .i64 n, .int .u8 (d 0), .int .u8 (d 1), .int .u8 (d 2), .int .u8 (d 3), .int .u8 (d 4), .int .u8 (d 5), .int .u8 (d 6), .int .u8 (d 7)], .bool s] w (PutTo w base g (insL ⟨id, r, n, d, s⟩ ls) lost 0 v) := by
  have hca := fun w => check_any id n r d w
  have hln := fun (w : World) (h : Bx w base g ls lost v) => len_any w base g ls lost v s h
  have hpl := fun (w : World) (h : Bx w base g ls lost v) => place_any w base g ls lost v id n r d h
  have hpe := plc_le (rk id r n d) ls
  have hfew := h.few
  have hins := fun (w : World) hb (h : Bx w base g ls lost v) (hbase : base ≤ w.heap.size) hnew hne => insert_any w base ls.length (plc (rk id r n d) ls) hb v (flat ls) (Ltr.v ⟨id, r, n, d, s⟩) h.row hbase hpe (by omega) hnew rfl (ltr_one _) (flat_one ls) hne
  have hfl : (flat ls).take (plc (rk id r n d) ls * 12) ++ Ltr.v ⟨id, r, n, d, s⟩ ++ (flat ls).drop (plc (rk id r n d) ls * 12) = flat (insL ⟨id, r, n, d, s⟩ ls) := insL_flat ⟨id, r, n, d, s⟩ ls
  simp only [hfl] at hins
  have hil := insL_len ⟨id, r, n, d, s⟩ ls
  rw [← hil] at hins
  have hpt : ∀ t, cntL t (insL ⟨id, r, n, d, s⟩ ls) ≤ 8 := fun t => by
    rw [insL_cnt]
    have := h.part t
    by_cases e : s = t
    · subst e; simp; omega
    · have : (s == t) = false := by simpa using e
      simp [this]; assumption
  simp only [hc] at hca
  have t8 : (((cntL s ls : Nat) : Int) == 8) = false := by simp; omega
  have hb : Below w.heap.size w (w.alloc (.cells #[.int .i64 id, .bool r, .int .i64 n, .int .u8 (d 0), .int .u8 (d 1), .int .u8 (d 2), .int .u8 (d 3), .int .u8 (d 4), .int .u8 (d 5), .int .u8 (d 6), .int .u8 (d 7)] 30)) := (Below.refl _ _).alloc (Nat.le_refl _) _
  have hfr := frame_new w id n r d
  obtain ⟨d0, d1, d2, d3, d4, d5, d6, d7, d8, d9, d10⟩ := hfr.cells
  have hown := fun k hk => (h.row.lt k hk).2
  have HB := Lib.hid hb
  have HX := Lib.hid h
  have HFR := Lib.hid hfr
  have HCA := Lib.hid hca
  have HLN := Lib.hid hln
  have HPL := Lib.hid hpl
  have HIN := Lib.hid hins
  have HPT := Lib.hid hpt
  have HOW := Lib.hid hown
  clear hb h hca hc hln hpl hins hpt hfl hil hfr hf hown
  generalize insL ⟨id, r, n, d, s⟩ ls = ls' at *
  generalize plc (rk id r n d) ls = P at *
  generalize cntL s ls = C at *
  go_enter Try.func9, Try.ntmps9
  go_wp2_with fail
  have hsz0 : (w.alloc (.cells #[.int .i64 id, .bool r, .int .i64 n, .int .u8 (d 0), .int .u8 (d 1), .int .u8 (d 2), .int .u8 (d 3), .int .u8 (d 4), .int .u8 (d 5), .int .u8 (d 6), .int .u8 (d 7)] 30)).heap.size = w.heap.size + 1 := by simp
  generalize w.alloc (.cells #[.int .i64 id, .bool r, .int .i64 n, .int .u8 (d 0), .int .u8 (d 1), .int .u8 (d 2), .int .u8 (d 3), .int .u8 (d 4), .int .u8 (d 5), .int .u8 (d 6), .int .u8 (d 7)] 30) = w0 at *
  refine (HCA.out _).mono ?_
  rintro e w1 ⟨rfl, hb1⟩
  have HBB := Lib.hid (kF hb1 HB.out)
  have HFR1 := Lib.hid (HFR.out.below hb1 HFR.out.lt)
  clear d0 d1 d2 d3 d4 d5 d6 d7 d8 d9 d10 hb1 hsz0
  go_wp2_with fail
  refine (HLN.out _ (HX.out.below HBB.out)).mono ?_
  rintro e w3 ⟨rfl, hb3⟩
  have HB3 := Lib.hid (kF hb3 HBB.out)
  have HFR3 := Lib.hid (HFR1.out.below hb3 HFR1.out.lt)
  have HX3 := Lib.hid (HX.out.below HB3.out)
  have hsz3 : w.heap.size ≤ w3.heap.size := HB3.out.size
  have hS : ∀ x, Below w3.heap.size w3 x → x.cell? ⟨g, 0, none⟩ = some v ∧ x.cell? ⟨w.heap.size, 0, none⟩ = some (.int .i64 id) ∧ x.cell? ⟨w.heap.size, 1, none⟩ = some (.bool r) ∧ x.cell? ⟨w.heap.size, 2, none⟩ = some (.int .i64 n) ∧ x.cell? ⟨w.heap.size, 3, none⟩ = some (.int .u8 (d 0)) ∧ x.cell? ⟨w.heap.size, 4, none⟩ = some (.int .u8 (d 1)) ∧ x.cell? ⟨w.heap.size, 5, none⟩ = some (.int .u8 (d 2)) ∧ x.cell? ⟨w.heap.size, 6, none⟩ = some (.int .u8 (d 3)) ∧ x.cell? ⟨w.heap.size, 7, none⟩ = some (.int .u8 (d 4)) ∧ x.cell? ⟨w.heap.size, 8, none⟩ = some (.int .u8 (d 5)) ∧ x.cell? ⟨w.heap.size, 9, none⟩ = some (.int .u8 (d 6)) ∧ x.cell? ⟨w.heap.size, 10, none⟩ = some (.int .u8 (d 7)) := fun x hx => ⟨(HX3.out.below hx).cells.1, (HFR3.out.below hx HFR3.out.lt).cells⟩
  have hS0 := hS w3 (Below.refl _ _)
  have HS := Lib.hid hS
  have hPc := fun x (hx : Below w3.heap.size w3 x) => HPL.out x (HX3.out.below hx)
  have hIc := fun x k (hx : Below w3.heap.size w3 x) (hk : w3.heap.size ≤ k) hnew => HIN.out x k (HX3.out.below hx) (by have := hx.size; omega) hnew (fun e => by have := HOW.out k e; omega)
  have hSI : ∀ x y, Below w3.heap.size w3 x → x.grownBy y v.ownBlock → y.frozen? ⟨g, 0, none⟩ = false ∧ y.heap[g]? = w3.heap[g]? ∧ y.cell? ⟨g, 0, none⟩ = some v ∧ y.cell? ⟨w.heap.size, 0, none⟩ = some (.int .i64 id) ∧ y.cell? ⟨w.heap.size, 1, none⟩ = some (.bool r) ∧ y.cell? ⟨w.heap.size, 2, none⟩ = some (.int .i64 n) ∧ y.cell? ⟨w.heap.size, 3, none⟩ = some (.int .u8 (d 0)) ∧ y.cell? ⟨w.heap.size, 4, none⟩ = some (.int .u8 (d 1)) ∧ y.cell? ⟨w.heap.size, 5, none⟩ = some (.int .u8 (d 2)) ∧ y.cell? ⟨w.heap.size, 6, none⟩ = some (.int .u8 (d 3)) ∧ y.cell? ⟨w.heap.size, 7, none⟩ = some (.int .u8 (d 4)) ∧ y.cell? ⟨w.heap.size, 8, none⟩ = some (.int .u8 (d 5)) ∧ y.cell? ⟨w.heap.size, 9, none⟩ = some (.int .u8 (d 6)) ∧ y.cell? ⟨w.heap.size, 10, none⟩ = some (.int .u8 (d 7)) := fun x y hx hg => by
    have hgb3 : g < w3.heap.size := by omega
    have e1 : y.heap[g]? = x.heap[g]? := hg.block g (Nat.lt_of_lt_of_le hgb3 hx.size) (fun e => HX3.out.isnt e.symm)
    have hxb := HX3.out.below hx
    have hfb : FrAt y w.heap.size id r n d := (hg.block _ (HFR3.out.below hx HFR3.out.lt).lt (fun e => by have := HOW.out _ e.symm; omega)).trans (HFR3.out.below hx HFR3.out.lt)
    exact ⟨frozen_of_row _ _ _ _ _ (e1.trans hxb.box), e1.trans (hx.block g hgb3), by rw [cell_of_row _ _ _ _ _ _ (e1.trans hxb.box)]; rfl, hfb.cells⟩
  have HSI := Lib.hid hSI
  have HPC := Lib.hid hPc
  have HIC := Lib.hid hIc
  clear hb3 hS hPc hIc hSI HPL HIN HLN HCA
  go_wp2_with fail
  refine wp_region_last (fun w' => w'.cell? ⟨g, 0, none⟩ = some v ∧ w'.cell? ⟨w.heap.size, 0, none⟩ = some (.int .i64 id) ∧ w'.cell? ⟨w.heap.size, 1, none⟩ = some (.bool r) ∧ w'.cell? ⟨w.heap.size, 2, none⟩ = some (.int .i64 n) ∧ w'.cell? ⟨w.heap.size, 3, none⟩ = some (.int .u8 (d 0)) ∧ w'.cell? ⟨w.heap.size, 4, none⟩ = some (.int .u8 (d 1)) ∧ w'.cell? ⟨w.heap.size, 5, none⟩ = some (.int .u8 (d 2)) ∧ w'.cell? ⟨w.heap.size, 6, none⟩ = some (.int .u8 (d 3)) ∧ w'.cell? ⟨w.heap.size, 7, none⟩ = some (.int .u8 (d 4)) ∧ w'.cell? ⟨w.heap.size, 8, none⟩ = some (.int .u8 (d 5)) ∧ w'.cell? ⟨w.heap.size, 9, none⟩ = some (.int .u8 (d 6)) ∧ w'.cell? ⟨w.heap.size, 10, none⟩ = some (.int .u8 (d 7))) 15 (by kernel_rfl) (HS.out _ (kD _)) (fun hHeld => ?_)
  refine wpAnyL_take (i := 0) (v := ?_) rfl (by kernel_rfl) (by kernel_rfl) (by kernel_rfl) (by kernel_rfl) (by kernel_rfl) (fun _ _ _ h => h) (Or.inl ⟨by rfl, ?_⟩) (by assumption) ?_
  rotate_left
  · intro wq hSw; (try dsimp only at hSw); first | (go_simp; done) | (go_simp; with_reducible rfl) | with_reducible rfl
  try simp only [Act.put, List.setIfInBounds_toArray, List.set_cons_zero, List.set_cons_succ]
  refine wpAnyL_take (i := 1) (v := ?_) rfl (by kernel_rfl) (by kernel_rfl) (by kernel_rfl) (by kernel_rfl) (by kernel_rfl) (fun _ _ _ h => h) (Or.inl ⟨by rfl, ?_⟩) (by assumption) ?_
  rotate_left
  · intro wq hSw; (try dsimp only at hSw); first | (go_simp; done) | (go_simp; with_reducible rfl) | with_reducible rfl
  try simp only [Act.put, List.setIfInBounds_toArray, List.set_cons_zero, List.set_cons_succ]
  refine wpAnyL_take (i := 2) (v := ?_) rfl (by kernel_rfl) (by kernel_rfl) (by kernel_rfl) (by kernel_rfl) (by kernel_rfl) (fun _ _ _ h => h) (Or.inl ⟨by rfl, ?_⟩) (by assumption) ?_
  rotate_left
  · intro wq hSw; (try dsimp only at hSw); first | (go_simp; done) | (go_simp; with_reducible rfl) | with_reducible rfl
  try simp only [Act.put, List.setIfInBounds_toArray, List.set_cons_zero, List.set_cons_succ]
  refine wpAnyL_take (i := 3) (v := ?_) rfl (by kernel_rfl) (by kernel_rfl) (by kernel_rfl) (by kernel_rfl) (by kernel_rfl) (fun _ _ _ h => h) (Or.inl ⟨by rfl, ?_⟩) (by assumption) ?_
  rotate_left
  · intro wq hSw; (try dsimp only at hSw); first | (go_simp; done) | (go_simp; with_reducible rfl) | with_reducible rfl
  try simp only [Act.put, List.setIfInBounds_toArray, List.set_cons_zero, List.set_cons_succ]
  refine wpAnyL_take (i := 4) (v := ?_) rfl (by kernel_rfl) (by kernel_rfl) (by kernel_rfl) (by kernel_rfl) (by kernel_rfl) (fun _ _ _ h => h) (Or.inl ⟨by rfl, ?_⟩) (by assumption) ?_
  rotate_left
  · intro wq hSw; (try dsimp only at hSw); first | (go_simp; done) | (go_simp; with_reducible rfl) | with_reducible rfl
  try simp only [Act.put, List.setIfInBounds_toArray, List.set_cons_zero, List.set_cons_succ]
  refine wpAnyL_take (i := 5) (v := ?_) rfl (by kernel_rfl) (by kernel_rfl) (by kernel_rfl) (by kernel_rfl) (by kernel_rfl) (fun _ _ _ h => h) (Or.inl ⟨by rfl, ?_⟩) (by assumption) ?_
  rotate_left
  · intro wq hSw; (try dsimp only at hSw); first | (go_simp; done) | (go_simp; with_reducible rfl) | with_reducible rfl
  try simp only [Act.put, List.setIfInBounds_toArray, List.set_cons_zero, List.set_cons_succ]
  refine wpAnyL_take (i := 6) (v := ?_) rfl (by kernel_rfl) (by kernel_rfl) (by kernel_rfl) (by kernel_rfl) (by kernel_rfl) (fun _ _ _ h => h) (Or.inl ⟨by rfl, ?_⟩) (by assumption) ?_
  rotate_left
  · intro wq hSw; (try dsimp only at hSw); first | (go_simp; done) | (go_simp; with_reducible rfl) | with_reducible rfl
  try simp only [Act.put, List.setIfInBounds_toArray, List.set_cons_zero, List.set_cons_succ]
  refine wpAnyL_take (i := 8) (v := ?_) rfl (by kernel_rfl) (by kernel_rfl) (by kernel_rfl) (by kernel_rfl) (by kernel_rfl) (fun _ _ _ h => h) (Or.inl ⟨by rfl, ?_⟩) (by assumption) ?_
  rotate_left
  · intro wq hSw; (try dsimp only at hSw); first | (go_simp; done) | (go_simp; with_reducible rfl) | with_reducible rfl
  try simp only [Act.put, List.setIfInBounds_toArray, List.set_cons_zero, List.set_cons_succ]
  refine wpAnyL_take (i := 9) (v := ?_) rfl (by kernel_rfl) (by kernel_rfl) (by kernel_rfl) (by kernel_rfl) (by kernel_rfl) (fun _ _ _ h => h) (Or.inl ⟨by rfl, ?_⟩) (by assumption) ?_
  rotate_left
  · intro wq hSw; (try dsimp only at hSw); first | (go_simp; done) | (go_simp; with_reducible rfl) | with_reducible rfl
  try simp only [Act.put, List.setIfInBounds_toArray, List.set_cons_zero, List.set_cons_succ]
  refine wpAnyL_take (i := 10) (v := ?_) rfl (by kernel_rfl) (by kernel_rfl) (by kernel_rfl) (by kernel_rfl) (by kernel_rfl) (fun _ _ _ h => h) (Or.inl ⟨by rfl, ?_⟩) (by assumption) ?_
  rotate_left
  · intro wq hSw; (try dsimp only at hSw); first | (go_simp; done) | (go_simp; with_reducible rfl) | with_reducible rfl
  try simp only [Act.put, List.setIfInBounds_toArray, List.set_cons_zero, List.set_cons_succ]
  refine wpAnyL_ready (rs := [7, 11]) (by kernel_rfl) (by simp) ?_
  refine (AllReadyL.cons rfl (fun K hK => ?_) (AllReadyL.cons rfl (fun K hK => ?_) AllReadyL.nil))
  · go_simp
    go_wp2_with (go_at_call 29; refine (HPC.out _ (kD _)).mono ?_; rintro e w4 ⟨rfl, hb4⟩; have hq1 : Below w3.heap.size w3 w4 := kF hb4 (kD _))
    refine hK.out _ _ ?_ (fun hHeld => ?_)
    · (try dsimp only); exact HS.out _ hq1
    clear hK K
    refine wpAnyL_ready (rs := [11]) (by kernel_rfl) (by simp) ?_
    refine (AllReadyL.cons rfl (fun K hK => ?_) AllReadyL.nil)
    go_simp
    refine hK.out _ _ ?_ (fun hHeld => ?_)
    · (try dsimp only); exact HS.out _ (kA hq1 _)
    clear hK K
    refine wpAnyL_ready (rs := [12]) (by kernel_rfl) (by simp) ?_
    refine (AllReadyL.cons rfl (fun K hK => ?_) AllReadyL.nil)
    go_simp
    go_wp2_with (go_at_call 28; refine (HIC.out _ _ (kA hq1 _) (hq1.size) (heap_alloc_new w4 _)).mono ?_; rintro e w5 ⟨v', rfl, hown', hgr', hob'⟩; obtain ⟨a5, c5, rfl⟩ := own_slice hown'; have hq5 := HSI.out _ w5 (kA hq1 _) hgr'; have hk5 := hq5.2.2; have hf5 := hq5.1; have he5 := hq5.2.1)
    refine hK.out _ _ ?_ (fun hHeld => ?_)
    · (try dsimp only); exact hk5
    clear hK K
    refine wpAnyL_take (i := 13) (v := ?_) rfl (by kernel_rfl) (by kernel_rfl) (by kernel_rfl) (by kernel_rfl) (by kernel_rfl) (fun _ _ _ h => h) (Or.inl ⟨by rfl, ?_⟩) (by assumption) ?_
    rotate_left
    · intro wq hSw; (try dsimp only at hSw); first | (go_simp; done) | (go_simp; with_reducible rfl) | with_reducible rfl
    try simp only [Act.put, List.setIfInBounds_toArray, List.set_cons_zero, List.set_cons_succ]
    refine wpAnyL_take (i := 14) (v := ?_) rfl (by kernel_rfl) (by kernel_rfl) (by kernel_rfl) (by kernel_rfl) (by kernel_rfl) (fun _ _ _ h => h) (Or.inl ⟨by rfl, ?_⟩) (by assumption) ?_
    rotate_left
    · intro wq hSw; (try dsimp only at hSw); first | (go_simp; done) | (go_simp; with_reducible rfl) | with_reducible rfl
    try simp only [Act.put, List.setIfInBounds_toArray, List.set_cons_zero, List.set_cons_succ]
    refine wpAnyL_ready (rs := [15]) (by kernel_rfl) (by simp) ?_
    refine AllReadyL.last rfl (fun K hK => ?_)
    go_simp
    refine hK.out _ _ ?_
    clear hK K
    refine wpAnyL_done (by kernel_rfl) ?_ _
    clear hHeld
    go_wp2_with fail
    go_ret
    have hx6 : Bx (w5.setCell ⟨g, 0, none⟩ (.slice a5 ls'.length c5)) base g ls' lost (.slice a5 ls'.length c5) := HX3.out.put hown' he5 (fun e => by
      rcases hob' with h | ⟨b, h, h2⟩
      · exact HX3.out.isnt (h ▸ e)
      · rw [h] at e; cases e; have := hq1.size; (try simp at h2); omega) HPT.out
    refine ⟨rfl, ⟨_, hx6, hob'.imp (fun h => h) fun ⟨b, h, h2⟩ => ⟨b, h, by have := hq1.size; (try simp at h2); omega⟩⟩, ?_⟩
    exact (((Tch.of_below HB3.out).grown (grown_below _ (by first | exact hq1 | exact kA hq1 _))).grown hgr').set _ _
  · go_simp
    refine hK.out _ _ ?_ (fun hHeld => ?_)
    · (try dsimp only); exact HS.out _ (kE (kA (Below.refl _ _) _))
    clear hK K
    refine wpAnyL_ready (rs := [7]) (by kernel_rfl) (by simp) ?_
    refine (AllReadyL.cons rfl (fun K hK => ?_) AllReadyL.nil)
    go_simp
    go_wp2_with (go_at_call 29; refine (HPC.out _ (kE (kA (Below.refl _ _) _))).mono ?_; rintro e w4 ⟨rfl, hb4⟩; have hq1 : Below w3.heap.size w3 w4 := kF hb4 (kE (kA (Below.refl _ _) _)))
    refine hK.out _ _ ?_ (fun hHeld => ?_)
    · (try dsimp only); exact HS.out _ hq1
    clear hK K
    refine wpAnyL_ready (rs := [12]) (by kernel_rfl) (by simp) ?_
    refine (AllReadyL.cons rfl (fun K hK => ?_) AllReadyL.nil)
    go_simp
    go_wp2_with (go_at_call 28; refine (HIC.out _ _ (hq1) (Nat.le_refl _) ((hb4.block _ (by simp)).trans (heap_alloc_new w3 _))).mono ?_; rintro e w5 ⟨v', rfl, hown', hgr', hob'⟩; obtain ⟨a5, c5, rfl⟩ := own_slice hown'; have hq5 := HSI.out _ w5 (hq1) hgr'; have hk5 := hq5.2.2; have hf5 := hq5.1; have he5 := hq5.2.1)
    refine hK.out _ _ ?_ (fun hHeld => ?_)
    · (try dsimp only); exact hk5
    clear hK K
    refine wpAnyL_take (i := 13) (v := ?_) rfl (by kernel_rfl) (by kernel_rfl) (by kernel_rfl) (by kernel_rfl) (by kernel_rfl) (fun _ _ _ h => h) (Or.inl ⟨by rfl, ?_⟩) (by assumption) ?_
    rotate_left
    · intro wq hSw; (try dsimp only at hSw); first | (go_simp; done) | (go_simp; with_reducible rfl) | with_reducible rfl
    try simp only [Act.put, List.setIfInBounds_toArray, List.set_cons_zero, List.set_cons_succ]
    refine wpAnyL_take (i := 14) (v := ?_) rfl (by kernel_rfl) (by kernel_rfl) (by kernel_rfl) (by kernel_rfl) (by kernel_rfl) (fun _ _ _ h => h) (Or.inl ⟨by rfl, ?_⟩) (by assumption) ?_
    rotate_left
    · intro wq hSw; (try dsimp only at hSw); first | (go_simp; done) | (go_simp; with_reducible rfl) | with_reducible rfl
    try simp only [Act.put, List.setIfInBounds_toArray, List.set_cons_zero, List.set_cons_succ]
    refine wpAnyL_ready (rs := [15]) (by kernel_rfl) (by simp) ?_
    refine AllReadyL.last rfl (fun K hK => ?_)
    go_simp
    refine hK.out _ _ ?_
    clear hK K
    refine wpAnyL_done (by kernel_rfl) ?_ _
    clear hHeld
    go_wp2_with fail
    go_ret
    have hx6 : Bx (w5.setCell ⟨g, 0, none⟩ (.slice a5 ls'.length c5)) base g ls' lost (.slice a5 ls'.length c5) := HX3.out.put hown' he5 (fun e => by
      rcases hob' with h | ⟨b, h, h2⟩
      · exact HX3.out.isnt (h ▸ e)
      · rw [h] at e; cases e; have := hq1.size; (try simp at h2); omega) HPT.out
    refine ⟨rfl, ⟨_, hx6, hob'.imp (fun h => h) fun ⟨b, h, h2⟩ => ⟨b, h, by have := hq1.size; (try simp at h2); omega⟩⟩, ?_⟩
    exact (((Tch.of_below HB3.out).grown (grown_below _ (by first | exact hq1 | exact kA hq1 _))).grown hgr').set _ _
end Go.Proofs.Ytgnfohncgfgecaa
