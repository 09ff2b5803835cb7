/- Mailboxes as a statement holds them; what must be whatever is asked. -/
import Derived.Test.YtgnfohncgfgecaaMg
namespace Go.Proofs.Ytgnfohncgfgecaa
open Go.RowKit Go.Shelf

theorem own_less {w : World} {base base' e s n : Nat} {v : Value} {xs : List Value} (h : w.ownsRow base e s v n xs) (hb : base' ≤ base) : w.ownsRow base' e s v n xs :=
  ⟨h.1, h.2.imp (fun h => h) fun ⟨g, cap, cur, e1, h1, h2⟩ => ⟨g, cap, cur, e1, Nat.le_trans hb h1, h2⟩⟩
/-- A mailbox that was made behind w0; nothing that was there has turned. -/
structure BoxAt (w0 : World) (g : Nat) (ls : List Ltr) (lost : Int) (w : World) : Prop where
  box : ∃ v, Bx w w0.heap.size g ls lost v
  at_ : w0.heap.size ≤ g
  below : Below w0.heap.size w0 w
  lost0 : 0 ≤ lost
theorem BoxAt.lt {w0 w : World} {g : Nat} {ls : List Ltr} {lost : Int} (h : BoxAt w0 g ls lost w) : g < w.heap.size := by obtain ⟨v, hv⟩ := h.box; exact hv.lt
theorem BoxAt.part {w0 w : World} {g : Nat} {ls : List Ltr} {lost : Int} (h : BoxAt w0 g ls lost w) : ∀ s, cntL s ls ≤ 8 := by obtain ⟨v, hv⟩ := h.box; exact hv.part
theorem BoxAt.step {w0 w w' : World} {g : Nat} {ls : List Ltr} {lost : Int} (h : BoxAt w0 g ls lost w) (hb : Below w.heap.size w w') : BoxAt w0 g ls lost w' := by
  obtain ⟨⟨v, hv⟩, h1, h2, h3⟩ := h
  exact ⟨⟨v, hv.below hb⟩, h1, kF hb h2, h3⟩
/-- What is no letters' row, and not the mailbox itself, is as it was. -/
def Kept (w w' : World) (g : Nat) : Prop := w.heap.size ≤ w'.heap.size ∧ ∀ k cs t fr, w.heap[k]? = some (.cells cs t fr) → t ≠ 66 → k ≠ g → w'.heap[k]? = w.heap[k]?
theorem Tch.kept {w w' : World} {base g : Nat} {ls : List Ltr} {lost : Int} {v : Value} (h : Tch w w' g v) (hv : Bx w base g ls lost v) : Kept w w' g := ⟨h.size, fun k cs t fr hk ht hg => by
  refine h.block k (Array.getElem?_eq_some_iff.1 hk).1 hg fun e => ?_
  rcases hv.row.2 with ⟨rfl, _⟩ | ⟨b, cap, cur, rfl, _, hb, _⟩
  · cases e
  · cases e; rw [hk] at hb; cases hb; exact ht rfl⟩
theorem Kept.of_below {w w' : World} {g : Nat} (h : Below w.heap.size w w') : Kept w w' g := ⟨h.size, fun k _ _ _ hk _ _ => h.block k (Array.getElem?_eq_some_iff.1 hk).1⟩
theorem FrAt.kept {w w' : World} {g k : Nat} {id n : Int} {r : Bool} {d : Nat → Int} (h : FrAt w k id r n d) (hk : Kept w w' g) (hne : k ≠ g) : FrAt w' k id r n d := (hk.2 k _ _ _ h (by decide) hne).trans h
theorem box_new (w0 w : World) (h : Below w0.heap.size w0 w) : Calls Try.prog 7 #[] w fun e w' => e = .returned (.pointer (some ⟨w.heap.size, 0, none⟩)) ∧ BoxAt w0 w.heap.size [] 0 w' ∧ Below w.heap.size w w' := by
  refine (new_any w).mono ?_
  rintro e w' ⟨rfl, hx, hb⟩
  exact ⟨rfl, ⟨⟨_, ⟨hx.box, own_less hx.row (by have := h.size; omega), hx.isnt, hx.part⟩⟩, h.size, kF hb h, by omega⟩, hb⟩
/-- What Put does: the list, how many found no room, the answer. -/
def putS (x : Ltr) (ls : List Ltr) (lost : Int) : List Ltr × Int × Int := if chk x.id x.r x.n x.d ≠ 0 then (ls, lost, chk x.id x.r x.n x.d) else if cntL x.s ls = 8 then (ls, lost + 1, 6) else (insL x ls, lost, 0)
theorem put_any (w : World) (base g : Nat) (x : Ltr) (ls : List Ltr) (lost : Int) (v : Value) (h : Bx w base g ls lost v) (hbase : base ≤ w.heap.size) (hl : 0 ≤ lost ∧ lost ≤ 1000000) :
    Calls Try.prog 9 #[.pointer (some ⟨g, 0, none⟩), .agg #[.int .i64 x.id, .bool x.r, .int .i64 x.n, .int .u8 (x.d 0), .int .u8 (x.d 1), .int .u8 (x.d 2), .int .u8 (x.d 3), .int .u8 (x.d 4), .int .u8 (x.d 5), .int .u8 (x.d 6), .int .u8 (x.d 7)], .bool x.s] w (PutTo w base g (putS x ls lost).1 (putS x ls lost).2.1 (putS x ls lost).2.2 v) := by
  unfold putS
  by_cases hc : chk x.id x.r x.n x.d = 0
  · rw [if_neg (fun hn => hn hc)]
    by_cases hf : cntL x.s ls = 8
    · rw [if_pos hf]
      exact put_full w base g ls lost v x.id x.n x.r x.s x.d h hl hc hf
    · rw [if_neg hf]
      exact put_goes w base g ls lost v x.id x.n x.r x.s x.d h hbase h.lt hc (by have := h.part x.s; omega)
  · rw [if_pos hc]
    exact put_bad w base g ls lost v x.id x.n x.r x.s x.d h hc
theorem box_put (w0 w : World) (g : Nat) (x : Ltr) (ls : List Ltr) (lost : Int) (h : BoxAt w0 g ls lost w) (hl : lost ≤ 1000000) :
    Calls Try.prog 9 #[.pointer (some ⟨g, 0, none⟩), .agg #[.int .i64 x.id, .bool x.r, .int .i64 x.n, .int .u8 (x.d 0), .int .u8 (x.d 1), .int .u8 (x.d 2), .int .u8 (x.d 3), .int .u8 (x.d 4), .int .u8 (x.d 5), .int .u8 (x.d 6), .int .u8 (x.d 7)], .bool x.s] w fun e w' => e = .returned (.int .i64 (putS x ls lost).2.2) ∧ BoxAt w0 g (putS x ls lost).1 (putS x ls lost).2.1 w' ∧ Kept w w' g := by
  obtain ⟨⟨v, hv⟩, h1, h2, h3⟩ := h
  refine (put_any w w0.heap.size g x ls lost v hv h2.size ⟨h3, hl⟩).mono ?_
  rintro e w' ⟨rfl, ⟨v', hx, hob⟩, ht⟩
  refine ⟨rfl, ⟨⟨v', hx⟩, h1, h2.trans (ht.below h2.size h1 fun b hb => (hv.row.lt b hb).1), ?_⟩, ht.kept hv⟩
  · unfold putS; split
    · exact h3
    · split
      · show 0 ≤ lost + 1; omega
      · exact h3
theorem box_len (w0 w : World) (g : Nat) (s : Bool) (ls : List Ltr) (lost : Int) (h : BoxAt w0 g ls lost w) :
    Calls Try.prog 21 #[.pointer (some ⟨g, 0, none⟩), .bool s] w fun e w' => e = .returned (.int .i64 (cntL s ls : Nat)) ∧ BoxAt w0 g ls lost w' ∧ Kept w w' g := by
  obtain ⟨v, hv⟩ := h.box
  refine (len_any w w0.heap.size g ls lost v s hv).mono ?_
  rintro e w' ⟨rfl, hb⟩
  exact ⟨rfl, h.step hb, .of_below hb⟩
theorem box_lost (w0 w : World) (g : Nat) (ls : List Ltr) (lost : Int) (h : BoxAt w0 g ls lost w) :
    Calls Try.prog 23 #[.pointer (some ⟨g, 0, none⟩)] w fun e w' => e = .returned (.int .i64 lost) ∧ BoxAt w0 g ls lost w' ∧ w' = w := by
  obtain ⟨v, hv⟩ := h.box
  refine (lost_any w w0.heap.size g ls lost v hv).mono ?_
  rintro e w' ⟨rfl, rfl⟩
  exact ⟨rfl, h, rfl⟩
theorem box_take (w0 w : World) (g : Nat) (x : Ltr) (ls : List Ltr) (lost : Int) (h : BoxAt w0 g (x :: ls) lost w) :
    Calls Try.prog 11 #[.pointer (some ⟨g, 0, none⟩)] w fun e w' => e = .returned (.tuple #[.agg #[.int .i64 x.id, .bool x.r, .int .i64 x.n, .int .u8 (x.d 0), .int .u8 (x.d 1), .int .u8 (x.d 2), .int .u8 (x.d 3), .int .u8 (x.d 4), .int .u8 (x.d 5), .int .u8 (x.d 6), .int .u8 (x.d 7)], .bool true]) ∧ BoxAt w0 g ls lost w' ∧ Kept w w' g := by
  obtain ⟨⟨v, hv⟩, h1, h2, h3⟩ := h
  refine (take_some w w0.heap.size g x ls lost v hv).mono ?_
  rintro e w' ⟨rfl, ⟨v', hx, hob⟩, ht⟩
  exact ⟨rfl, ⟨⟨v', hx⟩, h1, h2.trans (ht.below h2.size h1 fun b hb => (hv.row.lt b hb).1), h3⟩, ht.kept hv⟩
theorem box_take0 (w0 w : World) (g : Nat) (lost : Int) (h : BoxAt w0 g [] lost w) :
    Calls Try.prog 11 #[.pointer (some ⟨g, 0, none⟩)] w fun e w' => e = .returned (.tuple #[.agg #[.int .i64 0, .bool false, .int .i64 0, .int .u8 0, .int .u8 0, .int .u8 0, .int .u8 0, .int .u8 0, .int .u8 0, .int .u8 0, .int .u8 0], .bool false]) ∧ BoxAt w0 g [] lost w' ∧ Kept w w' g := by
  obtain ⟨v, hv⟩ := h.box
  refine (take_none w w0.heap.size g lost v hv).mono ?_
  rintro e w' ⟨rfl, hb⟩
  exact ⟨rfl, h.step hb, .of_below hb⟩

/-! ### What must be whatever is asked -/
def liveX (id : Int) (s : Bool) : Ltr := ⟨id, false, 0, fun _ => 0, s⟩
theorem chk_live (id : Int) (h : 0 ≤ id ∧ id ≤ 2047) : chk id false 0 (fun _ => 0) = 0 := by
  unfold chk
  rw [if_neg (by omega), if_neg (by omega), if_pos]
  simp [eqD, cut]
theorem rk_live (id : Int) (h : 0 ≤ id ∧ id ≤ 2047) (s : Bool) : (liveX id s).rank = 2 * id := by
  show rk id false 0 (fun _ => 0) = _
  unfold rk; rw [if_pos (chk_live id h)]; rfl
theorem put_live (id : Int) (h : 0 ≤ id ∧ id ≤ 2047) (s : Bool) (ls : List Ltr) (lost : Int) (hc : cntL s ls < 8) : putS (liveX id s) ls lost = (insL (liveX id s) ls, lost, 0) := by
  unfold putS
  rw [if_neg (fun hn => hn (chk_live id h)), if_neg (by show ¬ cntL s ls = 8; omega)]
theorem ins1 : insL (liveX 512 false) [] = [liveX 512 false] := rfl
theorem ins2 : insL (liveX 256 false) [liveX 512 false] = [liveX 256 false, liveX 512 false] := by
  have : plc (liveX 256 false).rank [liveX 512 false] = 0 := by unfold plc; rw [rk_live _ (by omega), rk_live _ (by omega), if_pos (by omega)]
  unfold insL; rw [this]; rfl
theorem ins3 : insL (liveX 384 true) [liveX 256 false, liveX 512 false] = [liveX 256 false, liveX 384 true, liveX 512 false] := by
  have : plc (liveX 384 true).rank [liveX 256 false, liveX 512 false] = 1 := by
    unfold plc plc; simp only [rk_live 384 (by omega), rk_live 256 (by omega), rk_live 512 (by omega)]; decide
  unfold insL; rw [this]; rfl
set_option maxRecDepth 100000 in
set_option maxHeartbeats 4000000 in
theorem live_any (w : World) : Calls Try.prog 18 #[] w fun e w' => e = .returned (.bool true) ∧ Below w.heap.size w w' := by
  have hp1 := fun (W : World) g h => box_put w W g (liveX 512 false) [] 0 h (by omega)
  rw [put_live 512 (by omega) false [] 0 (by simp [cntL]), ins1] at hp1
  have hp2 := fun (W : World) g h => box_put w W g (liveX 256 false) [liveX 512 false] 0 h (by omega)
  rw [put_live 256 (by omega) false _ 0 (by simp [cntL, liveX]), ins2] at hp2
  have hp3 := fun (W : World) g h => box_put w W g (liveX 384 true) [liveX 256 false, liveX 512 false] 0 h (by omega)
  rw [put_live 384 (by omega) true _ 0 (by simp [cntL, liveX]), ins3] at hp3
  have ht1 := fun (W : World) g h => box_take w W g (liveX 256 false) [liveX 384 true, liveX 512 false] 0 h
  have ht2 := fun (W : World) g h => box_take w W g (liveX 384 true) [liveX 512 false] 0 h
  have hl1 := fun (W : World) g h => box_len w W g false [liveX 512 false] 0 h
  have hl2 := fun (W : World) g h => box_len w W g true [liveX 512 false] 0 h
  have e1 : cntL false [liveX 512 false] = 1 := by simp [cntL, liveX]
  have e2 : cntL true [liveX 512 false] = 0 := by simp [cntL, liveX]
  rw [e1] at hl1
  rw [e2] at hl2
  have HP1 := Lib.hid hp1
  have HP2 := Lib.hid hp2
  have HP3 := Lib.hid hp3
  have HT1 := Lib.hid ht1
  have HT2 := Lib.hid ht2
  have HL1 := Lib.hid hl1
  have HL2 := Lib.hid hl2
  clear hp1 hp2 hp3 ht1 ht2 hl1 hl2 e1 e2
  go_enter Try.func18, Try.ntmps18
  go_wp2_with fail
  refine (box_new w w (Below.refl _ _)).mono ?_
  rintro e w1 ⟨rfl, hx, _⟩
  have HX := Lib.hid hx
  clear hx
  go_wp2_with fail
  refine (HP1.out _ _ HX.out).mono ?_
  rintro e w2 ⟨rfl, hx, hk⟩
  clear HX
  have HX := Lib.hid hx
  clear hx hk
  go_wp2_with fail
  refine (HP2.out _ _ HX.out).mono ?_
  rintro e w3 ⟨rfl, hx, hk⟩
  clear HX
  have HX := Lib.hid hx
  clear hx hk
  go_wp2_with fail
  refine (HP3.out _ _ HX.out).mono ?_
  rintro e w4 ⟨rfl, hx, hk⟩
  clear HX
  have HX := Lib.hid hx
  clear hx hk
  go_wp2_with fail
  refine (HT1.out _ _ HX.out).mono ?_
  rintro e w5 ⟨rfl, hx, hk⟩
  have hf5 : FrAt (w5.alloc (.cells #[.int .i64 256, .bool false, .int .i64 0, .int .u8 0, .int .u8 0, .int .u8 0, .int .u8 0, .int .u8 0, .int .u8 0, .int .u8 0, .int .u8 0] 30)) w5.heap.size 256 false 0 (fun _ => 0) := heap_alloc_new w5 _
  have hx5 := hx.step ((Below.refl _ _).alloc (Nat.le_refl _) (.cells #[.int .i64 256, .bool false, .int .i64 0, .int .u8 0, .int .u8 0, .int .u8 0, .int .u8 0, .int .u8 0, .int .u8 0, .int .u8 0, .int .u8 0] 30))
  have HF5 := Lib.hid hf5
  have HNE := Lib.hid (show w5.heap.size ≠ w.heap.size by have := hx.lt; omega)
  clear HX hx hf5 hk
  have HX := Lib.hid hx5
  clear hx5
  simp only [liveX]
  go_wp2_with fail
  generalize w5.alloc (.cells #[.int .i64 256, .bool false, .int .i64 0, .int .u8 0, .int .u8 0, .int .u8 0, .int .u8 0, .int .u8 0, .int .u8 0, .int .u8 0, .int .u8 0] 30) = w6 at *
  refine (HT2.out _ _ HX.out).mono ?_
  rintro e w7 ⟨rfl, hx, hk⟩
  have hne : w5.heap.size ≠ w.heap.size := HNE.out
  have hf7 := HF5.out.kept hk hne
  have hba : Below w7.heap.size w7 (w7.alloc (.cells #[.int .i64 384, .bool false, .int .i64 0, .int .u8 0, .int .u8 0, .int .u8 0, .int .u8 0, .int .u8 0, .int .u8 0, .int .u8 0, .int .u8 0] 30)) := (Below.refl _ _).alloc (Nat.le_refl _) _
  have hx7 := hx.step hba
  have hf8 := hf7.below hba hf7.lt
  have hg8 : FrAt (w7.alloc (.cells #[.int .i64 384, .bool false, .int .i64 0, .int .u8 0, .int .u8 0, .int .u8 0, .int .u8 0, .int .u8 0, .int .u8 0, .int .u8 0, .int .u8 0] 30)) w7.heap.size 384 false 0 (fun _ => 0) := heap_alloc_new w7 _
  have c5 : (w7.alloc (.cells #[.int .i64 384, .bool false, .int .i64 0, .int .u8 0, .int .u8 0, .int .u8 0, .int .u8 0, .int .u8 0, .int .u8 0, .int .u8 0, .int .u8 0] 30)).cell? ⟨w5.heap.size, 0, none⟩ = some (.int .i64 256) := hf8.cell 0
  have c7 : (w7.alloc (.cells #[.int .i64 384, .bool false, .int .i64 0, .int .u8 0, .int .u8 0, .int .u8 0, .int .u8 0, .int .u8 0, .int .u8 0, .int .u8 0, .int .u8 0] 30)).cell? ⟨w7.heap.size, 0, none⟩ = some (.int .i64 384) := hg8.cell 0
  clear HX hx hk hf7 hba hf8 hg8
  have HX := Lib.hid hx7
  clear hx7
  simp only [liveX]
  go_wp2_with fail
  refine (HL1.out _ _ HX.out).mono ?_
  rintro e w8 ⟨rfl, hx, hk⟩
  clear HX
  have HX := Lib.hid hx
  clear hx hk c5 c7
  go_wp2_with fail
  refine (HL2.out _ _ HX.out).mono ?_
  rintro e w9 ⟨rfl, hx, hk⟩
  have hb := hx.below
  clear hx hk HX
  go_wp2_with fail
  go_ret
  exact ⟨rfl, hb⟩
end Go.Proofs.Ytgnfohncgfgecaa
