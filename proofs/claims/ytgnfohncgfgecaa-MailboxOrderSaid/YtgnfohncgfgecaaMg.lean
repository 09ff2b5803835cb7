/- Take; mailboxes as a statement holds them; what must be whatever is asked. -/
import Derived.Test.YtgnfohncgfgecaaMf
namespace Go.Proofs.Ytgnfohncgfgecaa
open Go.RowKit Go.Shelf

set_option maxRecDepth 100000 in
set_option maxHeartbeats 2000000 in
theorem take_none (w : World) (base g : Nat) (lost : Int) (v : Value) (h : Bx w base g [] lost v) :
    Calls Try.prog 11 #[.pointer (some ⟨g, 0, none⟩)] w fun e w' => e = .returned (.tuple #[.agg #[.int .i64 0, .bool false, .int .i64 0, .int .u8 0, .int .u8 0, .int .u8 0, .int .u8 0, .int .u8 0, .int .u8 0, .int .u8 0, .int .u8 0], .bool false]) ∧ Below w.heap.size w w' := by
  have hb0 : Below w.heap.size w (w.alloc (.cells #[.int .i64 0, .bool false, .int .i64 0, .int .u8 0, .int .u8 0, .int .u8 0, .int .u8 0, .int .u8 0, .int .u8 0, .int .u8 0, .int .u8 0] 30)) := (Below.refl _ _).alloc (Nat.le_refl _) _
  have hbe := best_none _ base g lost v (h.below hb0)
  have hsz0 : (w.alloc (.cells #[.int .i64 0, .bool false, .int .i64 0, .int .u8 0, .int .u8 0, .int .u8 0, .int .u8 0, .int .u8 0, .int .u8 0, .int .u8 0, .int .u8 0] 30)).heap.size = w.heap.size + 1 := by simp
  have hz0 : FrAt (w.alloc (.cells #[.int .i64 0, .bool false, .int .i64 0, .int .u8 0, .int .u8 0, .int .u8 0, .int .u8 0, .int .u8 0, .int .u8 0, .int .u8 0, .int .u8 0] 30)) w.heap.size 0 false 0 (fun _ => 0) := heap_alloc_new w _
  have HB0 := Lib.hid hb0
  have HBE := Lib.hid hbe
  have HS0 := Lib.hid hsz0
  have HZ0 := Lib.hid hz0
  clear hb0 hbe hsz0 hz0 h
  go_enter Try.func11, Try.ntmps11
  go_wp2_with fail
  generalize w.alloc (.cells #[.int .i64 0, .bool false, .int .i64 0, .int .u8 0, .int .u8 0, .int .u8 0, .int .u8 0, .int .u8 0, .int .u8 0, .int .u8 0, .int .u8 0] 30) = w0 at *
  refine HBE.out.mono ?_
  rintro e w1 ⟨rfl, hb1⟩
  have HZ1 := Lib.hid (HZ0.out.below hb1 HZ0.out.lt)
  have HB1 := Lib.hid (kF hb1 HB0.out)
  clear hb1
  have hr2 : FrAt ((w1.alloc (.cells #[.int .i64 0, .bool false, .int .i64 0, .int .u8 0, .int .u8 0, .int .u8 0, .int .u8 0, .int .u8 0, .int .u8 0, .int .u8 0, .int .u8 0] 30)).setRow w.heap.size #[.int .i64 0, .bool false, .int .i64 0, .int .u8 0, .int .u8 0, .int .u8 0, .int .u8 0, .int .u8 0, .int .u8 0, .int .u8 0, .int .u8 0]) w.heap.size 0 false 0 (fun _ => 0) := (HZ1.out.below ((Below.refl _ _).alloc (Nat.le_refl _) _) HZ1.out.lt).row 0 0 false (fun _ => 0)
  have HZ2 := Lib.hid (HZ1.out.below ((Below.refl w1.heap.size w1).alloc (Nat.le_refl _) (.cells #[.int .i64 0, .bool false, .int .i64 0, .int .u8 0, .int .u8 0, .int .u8 0, .int .u8 0, .int .u8 0, .int .u8 0, .int .u8 0, .int .u8 0] 30)) HZ1.out.lt)
  have HR2 := Lib.hid hr2
  have HBB := Lib.hid (below_setRow (HB1.out.alloc HB1.out.size (.cells #[.int .i64 0, .bool false, .int .i64 0, .int .u8 0, .int .u8 0, .int .u8 0, .int .u8 0, .int .u8 0, .int .u8 0, .int .u8 0, .int .u8 0] 30)) (Nat.le_refl w.heap.size) #[.int .i64 0, .bool false, .int .i64 0, .int .u8 0, .int .u8 0, .int .u8 0, .int .u8 0, .int .u8 0, .int .u8 0, .int .u8 0, .int .u8 0])
  clear hr2
  go_wp2_with (refine wpList_store_row rfl _ (.tmp 2) (.tmp 20) rfl w.heap.size _ rfl rfl _ _ HZ2.out info_frame rfl (one_frame 0 0 false (fun _ => 0)) ?_)
  exact bodyPost_ret (results_cell_tmp_row rfl _ _ w.heap.size _ _ _ _ rfl HR2.out Try.underlying30 rfl info_frame) rfl ⟨rfl, HBB.out⟩
theorem setRow_grownR (w : World) (g : Nat) (cs : Array Value) : w.grownBy (w.setRow g cs) (some g) := ⟨rfl, rfl, rfl, by simp [World.setRow], fun k _ hne => setRow_other w g k cs (fun e => hne (by rw [e]))⟩
theorem Tch.row {w w1 : World} {g k : Nat} {v : Value} (h : Tch w w1 g v) (hk : w.heap.size ≤ k) (cs : Array Value) : Tch w (w1.setRow k cs) g v :=
  ⟨h.os, h.tape, h.output, Nat.le_trans h.size (setRow_grownR w1 k cs).size, fun j hj h1 h2 => (setRow_other w1 k j cs (by omega)).trans (h.block j hj h1 h2)⟩
/-- What Take makes of a mailbox. -/
structure TakeTo (w : World) (base g : Nat) (x : Ltr) (ls : List Ltr) (lost : Int) (v : Value) (e : Ending) (w' : World) : Prop where
  got : e = .returned (.tuple #[.agg #[.int .i64 x.id, .bool x.r, .int .i64 x.n, .int .u8 (x.d 0), .int .u8 (x.d 1), .int .u8 (x.d 2), .int .u8 (x.d 3), .int .u8 (x.d 4), .int .u8 (x.d 5), .int .u8 (x.d 6), .int .u8 (x.d 7)], .bool true])
  goes : ∃ v', Bx w' base g ls lost v' ∧ (v'.ownBlock = v.ownBlock ∨ ∃ b, v'.ownBlock = some b ∧ w.heap.size ≤ b)
  touch : Tch w w' g v
theorem cntL_cons (s : Bool) (x : Ltr) (ls : List Ltr) : cntL s ls ≤ cntL s (x :: ls) := by
  unfold cntL; rw [List.filter_cons]; split <;> simp
set_option maxRecDepth 100000 in
set_option maxHeartbeats 4000000 in
theorem take_some (w : World) (base g : Nat) (x : Ltr) (ls : List Ltr) (lost : Int) (v : Value) (h : Bx w base g (x :: ls) lost v) :
    Calls Try.prog 11 #[.pointer (some ⟨g, 0, none⟩)] w (TakeTo w base g x ls lost v) := by
  have hb0 : Below w.heap.size w (w.alloc (.cells #[.int .i64 0, .bool false, .int .i64 0, .int .u8 0, .int .u8 0, .int .u8 0, .int .u8 0, .int .u8 0, .int .u8 0, .int .u8 0, .int .u8 0] 30)) := (Below.refl _ _).alloc (Nat.le_refl _) _
  have hbe := best_some _ base g x ls lost v (h.below hb0)
  have hsz0 : (w.alloc (.cells #[.int .i64 0, .bool false, .int .i64 0, .int .u8 0, .int .u8 0, .int .u8 0, .int .u8 0, .int .u8 0, .int .u8 0, .int .u8 0, .int .u8 0] 30)).heap.size = w.heap.size + 1 := by simp
  have hz0 : FrAt (w.alloc (.cells #[.int .i64 0, .bool false, .int .i64 0, .int .u8 0, .int .u8 0, .int .u8 0, .int .u8 0, .int .u8 0, .int .u8 0, .int .u8 0, .int .u8 0] 30)) w.heap.size 0 false 0 (fun _ => 0) := heap_alloc_new w _
  have hfew := h.few
  simp only [List.length_cons] at hfew
  have hdel := fun (w : World) (h : Bx w base g (x :: ls) lost v) => delete_any w base ls.length 0 v (flat (x :: ls)) h.row (Nat.zero_le _) (by omega) (flat_one _)
  have hfl : (flat (x :: ls)).take (0 * 12) ++ (flat (x :: ls)).drop ((0 + 1) * 12) = flat ls := by rw [flat_drop]; simp
  simp only [hfl] at hdel
  have hpt : ∀ s, cntL s ls ≤ 8 := fun s => Nat.le_trans (cntL_cons s x ls) (h.part s)
  have hgl := h.lt
  have hob := fun k hk => (h.row.lt k hk).2
  have HB0 := Lib.hid hb0
  have HBE := Lib.hid hbe
  have HS0 := Lib.hid hsz0
  have HZ0 := Lib.hid hz0
  have HX := Lib.hid h
  have HD := Lib.hid hdel
  have HPT := Lib.hid hpt
  have HOB := Lib.hid hob
  clear hb0 hbe hsz0 hz0 h hdel hfl hpt hob
  go_enter Try.func11, Try.ntmps11
  go_wp2_with fail
  generalize w.alloc (.cells #[.int .i64 0, .bool false, .int .i64 0, .int .u8 0, .int .u8 0, .int .u8 0, .int .u8 0, .int .u8 0, .int .u8 0, .int .u8 0, .int .u8 0] 30) = w0 at *
  refine HBE.out.mono ?_
  rintro e w1 ⟨rfl, hb1⟩
  have hb2 : Below w1.heap.size w1 (w1.alloc (.cells #[.int .i64 x.id, .bool x.r, .int .i64 x.n, .int .u8 (x.d 0), .int .u8 (x.d 1), .int .u8 (x.d 2), .int .u8 (x.d 3), .int .u8 (x.d 4), .int .u8 (x.d 5), .int .u8 (x.d 6), .int .u8 (x.d 7)] 30)) := (Below.refl _ _).alloc (Nat.le_refl _) _
  have hsz1 := hb1.size
  have HZ2 := Lib.hid ((HZ0.out.below hb1 HZ0.out.lt).below hb2 (HZ0.out.below hb1 HZ0.out.lt).lt)
  have HB2 := Lib.hid (kF hb2 (kF hb1 HB0.out))
  have hf2 : FrAt (w1.alloc (.cells #[.int .i64 x.id, .bool x.r, .int .i64 x.n, .int .u8 (x.d 0), .int .u8 (x.d 1), .int .u8 (x.d 2), .int .u8 (x.d 3), .int .u8 (x.d 4), .int .u8 (x.d 5), .int .u8 (x.d 6), .int .u8 (x.d 7)] 30)) w1.heap.size x.id x.r x.n x.d := frame_new w1 x.id x.n x.r x.d
  have HF2 := Lib.hid hf2
  have hx2 := HX.out.below HB2.out
  obtain ⟨c0, _⟩ := hx2.cells
  have f0 := hx2.frozen 0
  have HX2 := Lib.hid hx2
  have hwz : w.heap.size < w1.heap.size := by have := HS0.out; omega
  clear hb1 hb2 hf2 hx2
  go_wp2_with fail
  generalize w1.alloc (.cells #[.int .i64 x.id, .bool x.r, .int .i64 x.n, .int .u8 (x.d 0), .int .u8 (x.d 1), .int .u8 (x.d 2), .int .u8 (x.d 3), .int .u8 (x.d 4), .int .u8 (x.d 5), .int .u8 (x.d 6), .int .u8 (x.d 7)] 30) = w2 at *
  have hd := HD.out w2 HX2.out
  refine Calls.mono hd ?_
  rintro e w3 ⟨v', rfl, hown, hgr, hob'⟩
  obtain ⟨a5, c5, rfl⟩ := own_slice hown
  have hgw2 : w2.heap.size ≤ w3.heap.size := hgr.size
  have hg3 : w3.heap[g]? = w2.heap[g]? := hgr.block g HX2.out.lt (fun e => HX2.out.isnt e.symm)
  have c3 : w3.cell? ⟨g, 0, none⟩ = some v := by rw [cell_of_row _ _ _ _ _ _ (hg3.trans HX2.out.box)]; rfl
  have f3 : w3.frozen? ⟨g, 0, none⟩ = false := frozen_of_row _ _ _ _ _ (hg3.trans HX2.out.box)
  have hnot : ∀ k, w.heap.size ≤ k → v.ownBlock ≠ some k := fun k hk e => by have := HOB.out k e; omega
  have HF3 := Lib.hid (show FrAt w3 w1.heap.size x.id x.r x.n x.d from (hgr.block _ HF2.out.lt (fun e => hnot _ (by omega) e.symm)).trans HF2.out)
  have HZ3 := Lib.hid (show FrAt w3 w.heap.size 0 false 0 (fun _ => 0) from (hgr.block _ HZ2.out.lt (fun e => hnot _ (Nat.le_refl _) e.symm)).trans HZ2.out)
  have hx4 : Bx (w3.setCell ⟨g, 0, none⟩ (.slice a5 ls.length c5)) base g ls lost (.slice a5 ls.length c5) := HX2.out.put hown hg3 (fun e => by
    rcases hob' with h | ⟨b, h, h2⟩
    · exact HX2.out.isnt (h ▸ e)
    · rw [h] at e; cases e; have := HX2.out.lt; omega) HPT.out
  have HX4 := Lib.hid hx4
  have HT4 := Lib.hid (((Tch.of_below (g := g) (v := v) HB2.out).grown hgr).set 0 (.slice a5 ls.length c5))
  have HOB' := Lib.hid hob'
  have hw2z : w1.heap.size < w2.heap.size := HF2.out.lt
  have HF4 := Lib.hid (show FrAt (w3.setCell ⟨g, 0, none⟩ (.slice a5 ls.length c5)) w1.heap.size x.id x.r x.n x.d from (Below.heap_setCell _ _ _ _ (by simp; omega)).trans HF3.out)
  have HZ4 := Lib.hid (show FrAt (w3.setCell ⟨g, 0, none⟩ (.slice a5 ls.length c5)) w.heap.size 0 false 0 (fun _ => 0) from (Below.heap_setCell _ _ _ _ (by simp; omega)).trans HZ3.out)
  clear hown hgr hob' hx4 c0 f0 hg3 hd
  go_wp2_with (first | (refine wpList_load_row rfl _ (.tmp 4) rfl w1.heap.size rfl _ _ _ _ HF4.out Try.underlying30 rfl info_frame ?_) | (refine wpList_store_row rfl _ (.tmp 2) (.tmp 20) rfl w.heap.size _ rfl rfl _ _ HZ4.out info_frame rfl (one_frame x.id x.n x.r x.d) ?_))
  have hr5 := HZ4.out.row x.id x.n x.r x.d
  have hx5 := HX4.out.keep (setRow_grownR (w3.setCell ⟨g, 0, none⟩ (.slice a5 ls.length c5)) w.heap.size #[.int .i64 x.id, .bool x.r, .int .i64 x.n, .int .u8 (x.d 0), .int .u8 (x.d 1), .int .u8 (x.d 2), .int .u8 (x.d 3), .int .u8 (x.d 4), .int .u8 (x.d 5), .int .u8 (x.d 6), .int .u8 (x.d 7)]) (by simp; omega) (fun k hk e => by
    cases hk
    rcases HOB'.out with h | ⟨b, h, h2⟩
    · exact hnot _ (Nat.le_refl _) (h ▸ e)
    · rw [h] at e; cases e; omega)
  exact bodyPost_ret (results_cell_tmp_row rfl _ _ w.heap.size _ _ _ _ rfl hr5 Try.underlying30 rfl info_frame) rfl ⟨rfl, ⟨_, hx5, HOB'.out.imp (fun h => h) fun ⟨b, h, h2⟩ => ⟨b, h, by omega⟩⟩, HT4.out.row (Nat.le_refl _) _⟩
end Go.Proofs.Ytgnfohncgfgecaa
