/- A channel's table. -/
import Derived.Test.YtkgopaelfmppiaaArC
namespace Go.Proofs.Ytkgopaelfmppiaa
open Go.RowKit
set_option linter.unusedSimpArgs false
set_option linter.unusedVariables false
/-- What an entry may hold; rows of it. -/
abbrev Sp := Int × Int × Int × Int
def spC (x : Sp) : List Value := [.int .i64 x.1, .int .i64 x.2.1, .int .i64 x.2.2.1, .int .i64 x.2.2.2]
def spF (l : List Sp) : List Value := (l.map spC).flatten
theorem own_base {w : World} {base base' e s n : Nat} {v : Value} {xs : List Value} (h : w.ownsRow base e s v n xs) (hb : base' ≤ base) : w.ownsRow base' e s v n xs :=
  ⟨h.1, h.2.imp id (fun ⟨b, cap, cur, e1, h1, h2⟩ => ⟨b, cap, cur, e1, Nat.le_trans hb h1, h2⟩)⟩
def SpAt (w : World) (base : Nat) (v : Value) (l : List Sp) : Prop := w.ownsRow base 27 4 v l.length (spF l)
theorem SpAt.below {w w' : World} {base : Nat} {v : Value} {l : List Sp} (h : SpAt w base v l) (hb : Below w.heap.size w w') : SpAt w' base v l := own_below h hb
theorem SpAt.mono {w : World} {base base' : Nat} {v : Value} {l : List Sp} (h : SpAt w base v l) (hb : base' ≤ base) : SpAt w base' v l := own_base h hb
def tabS : List Sp := [(2, 4, 6, 6), (2, 3, 0, 2), (3, 3, 1, 65535), (3, 3, 1, 65535), (2, 4, 254, 254), (4, 3, 257, 383), (4, 3, 258, 384)]
/-- A block of rows that has just been made. -/
theorem SpAt.new (w : World) (l : List Sp) (hl : 0 < l.length) (hm : l.length ≤ 1000) : SpAt (w.alloc (.cells (spF l).toArray 27)) w.heap.size (.slice (some ⟨w.heap.size, 0, none⟩) l.length l.length) l := by
  have h4 : ∀ m : List Sp, (spF m).length = m.length * 4 := fun m => by
    induction m with
    | nil => rfl
    | cons x m ih => simp [spF, spC] at ih ⊢; omega
  exact own_mk (Nat.le_refl _) (heap_alloc_new w _) (Nat.le_refl _) (by simp [maxLen]; omega) (by simp [h4]) (h4 l) (fun k hk => by simp)
theorem high3 (w : World) : Calls Try.prog 84 #[.int .i64 3] w fun e w' => e = .returned (.int .i64 65535) ∧ Below w.heap.size w w' := high_any 3 w
set_option maxRecDepth 100000 in
theorem table_any (w : World) : Calls Try.prog 58 #[] w fun e w' => ∃ v, e = .returned v ∧ SpAt w' w.heap.size v tabS ∧ Below w.heap.size w w' := by
  go_enter Try.func58, Try.ntmps58
  go_wp2_with fail
  refine (arC_any 6 _).mono ?_
  rintro e w1 ⟨rfl, hb1⟩
  have HB1 : Hid (Below w.heap.size w w1) := Lib.hid (hb1)
  clear hb1
  go_wp2_with fail
  refine (arN_any 2 0 2 _).mono ?_
  rintro e w2 ⟨rfl, hb2⟩
  have HB2 : Hid (Below w.heap.size w w2) := Lib.hid (kF hb2 HB1.out)
  clear hb2
  go_wp2_with fail
  refine (high3 _).mono ?_
  rintro e w3 ⟨rfl, hb3⟩
  have HB3 : Hid (Below w.heap.size w w3) := Lib.hid (kF hb3 HB2.out)
  clear hb3
  go_wp2_with fail
  refine (arN_any 3 1 _ _).mono ?_
  rintro e w4 ⟨rfl, hb4⟩
  have HB4 : Hid (Below w.heap.size w w4) := Lib.hid (kF hb4 HB3.out)
  clear hb4
  go_wp2_with fail
  refine (high3 _).mono ?_
  rintro e w5 ⟨rfl, hb5⟩
  have HB5 : Hid (Below w.heap.size w w5) := Lib.hid (kF hb5 HB4.out)
  clear hb5
  go_wp2_with fail
  refine (arN_any 3 1 _ _).mono ?_
  rintro e w6 ⟨rfl, hb6⟩
  have HB6 : Hid (Below w.heap.size w w6) := Lib.hid (kF hb6 HB5.out)
  clear hb6
  go_wp2_with fail
  refine (arC_any 254 _).mono ?_
  rintro e w7 ⟨rfl, hb7⟩
  have HB7 : Hid (Below w.heap.size w w7) := Lib.hid (kF hb7 HB6.out)
  clear hb7
  go_wp2_with fail
  refine (arN_any 4 257 383 _).mono ?_
  rintro e w8 ⟨rfl, hb8⟩
  have HB8 : Hid (Below w.heap.size w w8) := Lib.hid (kF hb8 HB7.out)
  clear hb8
  go_wp2_with fail
  refine (arN_any 4 258 384 _).mono ?_
  rintro e w9 ⟨rfl, hb9⟩
  have HB9 : Hid (Below w.heap.size w w9) := Lib.hid (kF hb9 HB8.out)
  clear hb9
  go_wp2_with fail
  go_ret
  exact ⟨_, rfl, (SpAt.new w9 tabS (by decide) (by decide)).mono HB9.out.size, HB9.out.alloc HB9.out.size _⟩
end Go.Proofs.Ytkgopaelfmppiaa
