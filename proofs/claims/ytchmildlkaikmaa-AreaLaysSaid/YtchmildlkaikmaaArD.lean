/- Numbers and their slots: the program's way and the document's. -/
import Derived.Laws.Rows
import Derived.Test.YtchmildlkaikmaaArA
import Derived.Test.YtchmildlkaikmaaADh
namespace Go.Proofs.Ytchmildlkaikmaa
open Go.RowKit
set_option linter.unusedSimpArgs false
set_option linter.unusedVariables false
theorem info_slot : (Try.prog.info? 47).map (·.size) = some 3 := by kernel_rfl
theorem one_slot (a b c : Int) : (#[.int .i64 a, .int .i64 b, .int .i64 c] : Array Value).all (·.oneCell') = true := by simp [Value.oneCell']
theorem and_255 (x : Int) (h0 : 0 ≤ x) (h1 : x < 4294967296) : bits .and .i64 x 255 = x % 256 := bits_mask .i64 40 (by decide) (fun n h0 h1 => IntWalk.i64_in n (by omega)) 8 (by decide) x h0 (by omega)
def nOk (n : Int) : Bool := decide (0 ≤ n ∧ n ≤ 4294967295)
def SlotP (W : World) (i j b er : Int) (e : Ending) (w' : World) : Prop := e = .returned (.tuple #[.agg #[.int .i64 i, .int .i64 j, .int .i64 b], .int .i64 er]) ∧ Below W.heap.size W w'
set_option maxRecDepth 100000 in
theorem slot_no1 (n : Int) (w : World) (h : n < 0) : Calls Try.prog 54 #[.int .i64 n] w (SlotP w 0 0 0 2) := by
  have hb : Below w.heap.size w (w.alloc (.cells #[.int .i64 0, .int .i64 0, .int .i64 0] 47)) := (Below.refl _ _).alloc (Nat.le_refl _) _
  have hk : SlotAt (w.alloc (.cells #[.int .i64 0, .int .i64 0, .int .i64 0] 47)) w.heap.size 0 0 0 := heap_alloc_new w _
  have HB := Lib.hid hb
  have HK := Lib.hid hk
  clear hb hk
  go_enter Try.func54, Try.ntmps54
  go_wp2_with (refine wpList_store_row rfl _ (.tmp 2) (.tmp 11) rfl w.heap.size _ rfl rfl _ _ HK.out info_slot rfl (one_slot _ _ _) ?_)
  exact bodyPost_ret (results_cell_tmp_row rfl _ _ w.heap.size _ _ _ _ rfl (setRow_heap _ _ _ _ _ (0, 0) HK.out) Try.underlying47 rfl info_slot) rfl ⟨rfl, below_setRow HB.out (Nat.le_refl _) _⟩
set_option maxRecDepth 100000 in
theorem slot_no2 (n : Int) (w : World) (h0 : ¬ n < 0) (h : 4294967295 < n) : Calls Try.prog 54 #[.int .i64 n] w (SlotP w 0 0 0 2) := by
  have hb : Below w.heap.size w (w.alloc (.cells #[.int .i64 0, .int .i64 0, .int .i64 0] 47)) := (Below.refl _ _).alloc (Nat.le_refl _) _
  have hk : SlotAt (w.alloc (.cells #[.int .i64 0, .int .i64 0, .int .i64 0] 47)) w.heap.size 0 0 0 := heap_alloc_new w _
  have HB := Lib.hid hb
  have HK := Lib.hid hk
  clear hb hk
  go_enter Try.func54, Try.ntmps54
  go_wp2_with (refine wpList_store_row rfl _ (.tmp 2) (.tmp 11) rfl w.heap.size _ rfl rfl _ _ HK.out info_slot rfl (one_slot _ _ _) ?_)
  exact bodyPost_ret (results_cell_tmp_row rfl _ _ w.heap.size _ _ _ _ rfl (setRow_heap _ _ _ _ _ (0, 0) HK.out) Try.underlying47 rfl info_slot) rfl ⟨rfl, below_setRow HB.out (Nat.le_refl _) _⟩
set_option maxRecDepth 100000 in
theorem slot_yes (n : Int) (w : World) (h0 : ¬ n < 0) (h : ¬ 4294967295 < n) : Calls Try.prog 54 #[.int .i64 n] w (SlotP w (n / 65536) (n / 256 % 256) (n % 256) 0) := by
  have hb : Below w.heap.size w (w.alloc (.cells #[.int .i64 0, .int .i64 0, .int .i64 0] 47)) := (Below.refl _ _).alloc (Nat.le_refl _) _
  have hk : SlotAt (w.alloc (.cells #[.int .i64 0, .int .i64 0, .int .i64 0] 47)) w.heap.size 0 0 0 := heap_alloc_new w _
  have ha := and_255 n (by omega) (by omega)
  have ha2 := and_255 (n / 256) (by omega) (by omega)
  have HB := Lib.hid hb
  have HK := Lib.hid hk
  clear hb hk
  go_enter Try.func54, Try.ntmps54
  go_wp2_with fail
  have hf : SlotAt ((w.alloc (.cells #[.int .i64 (n / 65536), .int .i64 (n / 256 % 256), .int .i64 (n % 256)] 47)).alloc (.cells #[.int .i64 (n / 65536), .int .i64 (n / 256 % 256)] 23)) w.heap.size (n / 65536) (n / 256 % 256) (n % 256) := heap_alloc2_old w _ _
  exact bodyPost_ret (results_cell_tmp_row rfl _ _ w.heap.size _ _ _ _ rfl hf Try.underlying47 rfl info_slot) rfl ⟨rfl, ((Below.refl _ _).alloc (Nat.le_refl _) _).alloc (by simp) _⟩
set_option maxRecDepth 100000 in
theorem rslot_any (n : Int) (w : World) (h0 : ¬ n < 0) (h : ¬ 4294967295 < n) : Calls Try.prog 58 #[.int .i64 n] w fun e w' => e = .returned (.agg #[.int .i64 (n / 65536), .int .i64 (n / 256 % 256), .int .i64 (n % 256)]) ∧ Below w.heap.size w w' := by
  have hb : Below w.heap.size w (w.alloc (.cells #[.int .i64 0, .int .i64 0, .int .i64 0] 47)) := (Below.refl _ _).alloc (Nat.le_refl _) _
  have hk : SlotAt (w.alloc (.cells #[.int .i64 0, .int .i64 0, .int .i64 0] 47)) w.heap.size 0 0 0 := heap_alloc_new w _
  have HB := Lib.hid hb
  have HK := Lib.hid hk
  clear hb hk
  go_enter Try.func58, Try.ntmps58
  go_wp2_with (refine wpList_store_row rfl _ (.tmp 2) (.tmp 11) rfl w.heap.size _ rfl rfl _ _ HK.out info_slot rfl (one_slot _ _ _) ?_)
  refine bodyPost_ret (results_cell_row rfl _ _ w.heap.size _ _ _ _ rfl (setRow_heap _ _ _ _ _ (0, 0) HK.out) Try.underlying47 rfl info_slot) rfl ⟨rfl, below_setRow HB.out (Nat.le_refl _) _⟩
end Go.Proofs.Ytchmildlkaikmaa
namespace Go.Proofs.Ytchmildlkaikmaa
open Go.RowKit
set_option linter.unusedSimpArgs false
set_option linter.unusedVariables false
theorem low_any (k : Int) (w : World) : Calls Try.prog 97 #[.int .i64 k] w fun e w' => e = .returned (.int .i64 (kLow k)) ∧ Below w.heap.size w w' := by
  have hf := span_f1 (kSize k) (kLow k) (kHigh k)
  go_enter Try.func97, Try.ntmps97
  go_wp2_with (go_at_call 87; refine (span_any _ _).mono ?_; rintro e w1 ⟨rfl, hb⟩)
  go_ret
  exact ⟨rfl, hb⟩
theorem info_spec4 : (Try.prog.info? 27).map (·.size) = some 4 := by kernel_rfl
theorem one_spec4 (a b c d : Int) : (#[.int .i64 a, .int .i64 b, .int .i64 c, .int .i64 d] : Array Value).all (·.oneCell') = true := by simp [Value.oneCell']
def Spec4 (w : World) (g : Nat) (k a lo hi : Int) : Prop := w.heap[g]? = some (.cells #[.int .i64 k, .int .i64 a, .int .i64 lo, .int .i64 hi] 27 (0, 0))
set_option maxRecDepth 100000 in
theorem arN_any (k lo hi : Int) (w : World) : Calls Try.prog 77 #[.int .i64 k, .int .i64 lo, .int .i64 hi] w fun e w' => e = .returned (.agg #[.int .i64 k, .int .i64 3, .int .i64 lo, .int .i64 hi]) ∧ Below w.heap.size w w' := by
  have hb : Below w.heap.size w (w.alloc (.cells #[.int .i64 0, .int .i64 0, .int .i64 0, .int .i64 0] 27)) := (Below.refl _ _).alloc (Nat.le_refl _) _
  have hk : Spec4 (w.alloc (.cells #[.int .i64 0, .int .i64 0, .int .i64 0, .int .i64 0] 27)) w.heap.size 0 0 0 0 := heap_alloc_new w _
  have HB := Lib.hid hb
  have HK := Lib.hid hk
  clear hb hk
  go_enter Try.func77, Try.ntmps77
  go_wp2_with (refine wpList_store_row rfl _ (.tmp 6) (.tmp 10) rfl w.heap.size _ rfl rfl _ _ HK.out info_spec4 rfl (one_spec4 _ _ _ _) ?_)
  exact bodyPost_ret (results_cell_row rfl _ _ w.heap.size _ _ _ _ rfl (setRow_heap _ _ _ _ _ (0, 0) HK.out) Try.underlying27 rfl info_spec4) rfl ⟨rfl, below_setRow HB.out (Nat.le_refl _) _⟩
set_option maxRecDepth 100000 in
theorem arC_any (n : Int) (w : World) : Calls Try.prog 79 #[.int .i64 n] w fun e w' => e = .returned (.agg #[.int .i64 2, .int .i64 4, .int .i64 n, .int .i64 n]) ∧ Below w.heap.size w w' := by
  have hb : Below w.heap.size w (w.alloc (.cells #[.int .i64 0, .int .i64 0, .int .i64 0, .int .i64 0] 27)) := (Below.refl _ _).alloc (Nat.le_refl _) _
  have hk : Spec4 (w.alloc (.cells #[.int .i64 0, .int .i64 0, .int .i64 0, .int .i64 0] 27)) w.heap.size 0 0 0 0 := heap_alloc_new w _
  have HB := Lib.hid hb
  have HK := Lib.hid hk
  clear hb hk
  go_enter Try.func79, Try.ntmps79
  go_wp2_with (refine wpList_store_row rfl _ (.tmp 2) (.tmp 5) rfl w.heap.size _ rfl rfl _ _ HK.out info_spec4 rfl (one_spec4 _ _ _ _) ?_)
  exact bodyPost_ret (results_cell_row rfl _ _ w.heap.size _ _ _ _ rfl (setRow_heap _ _ _ _ _ (0, 0) HK.out) Try.underlying27 rfl info_spec4) rfl ⟨rfl, below_setRow HB.out (Nat.le_refl _) _⟩
set_option maxRecDepth 100000 in
theorem arA_any (k : Int) (w : World) : Calls Try.prog 78 #[.int .i64 k] w fun e w' => e = .returned (.agg #[.int .i64 k, .int .i64 3, .int .i64 (kLow k), .int .i64 (kHigh k)]) ∧ Below w.heap.size w w' := by
  have hb : Below w.heap.size w (w.alloc (.cells #[.int .i64 0, .int .i64 0, .int .i64 0, .int .i64 0] 27)) := (Below.refl _ _).alloc (Nat.le_refl _) _
  have hk : Spec4 (w.alloc (.cells #[.int .i64 0, .int .i64 0, .int .i64 0, .int .i64 0] 27)) w.heap.size 0 0 0 0 := heap_alloc_new w _
  have HB := Lib.hid hb
  have HK := Lib.hid hk
  have hs : w.heap.size < (w.alloc (.cells #[.int .i64 0, .int .i64 0, .int .i64 0, .int .i64 0] 27)).heap.size := by simp
  have HS := Lib.hid hs
  clear hb hk hs
  go_enter Try.func78, Try.ntmps78
  go_wp2_with fail
  generalize (w.alloc (.cells #[.int .i64 0, .int .i64 0, .int .i64 0, .int .i64 0] 27)) = w0 at HB HK HS ⊢
  refine (low_any k _).mono ?_
  rintro e w1 ⟨rfl, hb1⟩
  have HB1 := Lib.hid (kF hb1 HB.out)
  have HK1 : Hid (Spec4 w1 w.heap.size 0 0 0 0) := Lib.hid ((hb1.block _ HS.out).trans HK.out)
  have HS1 : Hid (w.heap.size < w1.heap.size) := Lib.hid (Nat.lt_of_lt_of_le HS.out hb1.size)
  clear hb1
  go_wp2_with fail
  refine (high_any k _).mono ?_
  rintro e w2 ⟨rfl, hb2⟩
  have HB2 := Lib.hid (kF hb2 HB1.out)
  have HK2 : Hid (Spec4 w2 w.heap.size 0 0 0 0) := Lib.hid ((hb2.block _ HS1.out).trans HK1.out)
  have HS2 : Hid (w.heap.size < w2.heap.size) := Lib.hid (Nat.lt_of_lt_of_le HS1.out hb2.size)
  clear hb2
  go_wp2_with fail
  refine (arN_any k _ _ _).mono ?_
  rintro e w3 ⟨rfl, hb3⟩
  have HB3 := Lib.hid (kF hb3 HB2.out)
  have HK3 : Hid (Spec4 w3 w.heap.size 0 0 0 0) := Lib.hid ((hb3.block _ HS2.out).trans HK2.out)
  clear hb3
  go_wp2_with (refine wpList_store_row rfl _ (.tmp 2) (.tmp 8) rfl w.heap.size _ rfl rfl _ _ HK3.out info_spec4 rfl (one_spec4 _ _ _ _) ?_)
  exact bodyPost_ret (results_cell_row rfl _ _ w.heap.size _ _ _ _ rfl (setRow_heap _ _ _ _ _ (0, 0) HK3.out) Try.underlying27 rfl info_spec4) rfl ⟨rfl, below_setRow HB3.out (Nat.le_refl _) _⟩
set_option maxRecDepth 100000 in
theorem theFlag_any (w : World) : Calls Try.prog 61 #[] w fun e w' => e = .returned (.agg #[.int .i64 5118, .int .i64 0]) ∧ Below w.heap.size w w' := by
  have hb : Below w.heap.size w (w.alloc (.cells #[.int .i64 0, .int .i64 0] 23)) := (Below.refl _ _).alloc (Nat.le_refl _) _
  have hk : Key2 (w.alloc (.cells #[.int .i64 0, .int .i64 0] 23)) w.heap.size 0 0 := heap_alloc_new w _
  have HB := Lib.hid hb
  have HK := Lib.hid hk
  clear hb hk
  go_enter Try.func61, Try.ntmps61
  go_wp2_with (refine wpList_store_row rfl _ (.tmp 0) (.tmp 1) rfl w.heap.size _ rfl rfl _ _ HK.out info_key rfl (one_key _ _) ?_)
  exact bodyPost_ret (results_cell_row rfl _ _ w.heap.size _ _ _ _ rfl (setRow_heap _ _ _ _ _ (0, 0) HK.out) Try.underlying23 rfl info_key) rfl ⟨rfl, below_setRow HB.out (Nat.le_refl _) _⟩
end Go.Proofs.Ytchmildlkaikmaa
namespace Go.Proofs.Ytchmildlkaikmaa
open Go.RowKit
set_option linter.unusedSimpArgs false
set_option linter.unusedVariables false
/-- What an entry may hold; rows of it. -/
abbrev Sp := Int × Int × Int × Int
def spC (x : Sp) : List Value := [.int .i64 x.1, .int .i64 x.2.1, .int .i64 x.2.2.1, .int .i64 x.2.2.2]
def spF (l : List Sp) : List Value := (l.map spC).flatten
theorem own_base {w : World} {base base' e s n : Nat} {v : Value} {xs : List Value} (h : w.ownsRow base e s v n xs) (hb : base' ≤ base) : w.ownsRow base' e s v n xs :=
  ⟨h.1, h.2.imp id (fun ⟨b, cap, cur, e1, h1, h2⟩ => ⟨b, cap, cur, e1, Nat.le_trans hb h1, h2⟩)⟩
def SpAt (w : World) (base : Nat) (v : Value) (l : List Sp) : Prop := w.ownsRow base 27 4 v l.length (spF l)
theorem SpAt.below {w w' : World} {base : Nat} {v : Value} {l : List Sp} (h : SpAt w base v l) (hb : Below w.heap.size w w') : SpAt w' base v l := own_below h hb
theorem SpAt.mono {w : World} {base base' : Nat} {v : Value} {l : List Sp} (h : SpAt w base v l) (hb : base' ≤ base) : SpAt w base' v l := own_base h hb
def tabS : List Sp := [(2, 4, 6, 6), (2, 3, 0, 2), (3, 3, 1, 65535), (3, 3, 1, 65535), (2, 4, 254, 254), (4, 3, 257, 383), (4, 3, 258, 384)]
/-- A block of rows that has just been made. -/
theorem SpAt.new (w : World) (l : List Sp) (hl : 0 < l.length) (hm : l.length ≤ 1000) : SpAt (w.alloc (.cells (spF l).toArray 27)) w.heap.size (.slice (some ⟨w.heap.size, 0, none⟩) l.length l.length) l := by
  have h4 : ∀ m : List Sp, (spF m).length = m.length * 4 := fun m => by
    induction m with
    | nil => rfl
    | cons x m ih => simp [spF, spC] at ih ⊢; omega
  exact own_mk (Nat.le_refl _) (heap_alloc_new w _) (Nat.le_refl _) (by simp [maxLen]; omega) (by simp [h4]) (h4 l) (fun k hk => by simp)
theorem high3 (w : World) : Calls Try.prog 83 #[.int .i64 3] w fun e w' => e = .returned (.int .i64 65535) ∧ Below w.heap.size w w' := high_any 3 w
set_option maxRecDepth 100000 in
theorem table_any (w : World) : Calls Try.prog 53 #[] w fun e w' => ∃ v, e = .returned v ∧ SpAt w' w.heap.size v tabS ∧ Below w.heap.size w w' := by
  go_enter Try.func53, Try.ntmps53
  go_wp2_with fail
  refine (arC_any 6 _).mono ?_
  rintro e w1 ⟨rfl, hb1⟩
  have HB1 : Hid (Below w.heap.size w w1) := Lib.hid (hb1)
  clear hb1
  go_wp2_with fail
  refine (arN_any 2 0 2 _).mono ?_
  rintro e w2 ⟨rfl, hb2⟩
  have HB2 : Hid (Below w.heap.size w w2) := Lib.hid (kF hb2 HB1.out)
  clear hb2
  go_wp2_with fail
  refine (high3 _).mono ?_
  rintro e w3 ⟨rfl, hb3⟩
  have HB3 : Hid (Below w.heap.size w w3) := Lib.hid (kF hb3 HB2.out)
  clear hb3
  go_wp2_with fail
  refine (arN_any 3 1 _ _).mono ?_
  rintro e w4 ⟨rfl, hb4⟩
  have HB4 : Hid (Below w.heap.size w w4) := Lib.hid (kF hb4 HB3.out)
  clear hb4
  go_wp2_with fail
  refine (high3 _).mono ?_
  rintro e w5 ⟨rfl, hb5⟩
  have HB5 : Hid (Below w.heap.size w w5) := Lib.hid (kF hb5 HB4.out)
  clear hb5
  go_wp2_with fail
  refine (arN_any 3 1 _ _).mono ?_
  rintro e w6 ⟨rfl, hb6⟩
  have HB6 : Hid (Below w.heap.size w w6) := Lib.hid (kF hb6 HB5.out)
  clear hb6
  go_wp2_with fail
  refine (arC_any 254 _).mono ?_
  rintro e w7 ⟨rfl, hb7⟩
  have HB7 : Hid (Below w.heap.size w w7) := Lib.hid (kF hb7 HB6.out)
  clear hb7
  go_wp2_with fail
  refine (arN_any 4 257 383 _).mono ?_
  rintro e w8 ⟨rfl, hb8⟩
  have HB8 : Hid (Below w.heap.size w w8) := Lib.hid (kF hb8 HB7.out)
  clear hb8
  go_wp2_with fail
  refine (arN_any 4 258 384 _).mono ?_
  rintro e w9 ⟨rfl, hb9⟩
  have HB9 : Hid (Below w.heap.size w w9) := Lib.hid (kF hb9 HB8.out)
  clear hb9
  go_wp2_with fail
  go_ret
  exact ⟨_, rfl, (SpAt.new w9 tabS (by decide) (by decide)).mono HB9.out.size, HB9.out.alloc HB9.out.size _⟩
end Go.Proofs.Ytchmildlkaikmaa
