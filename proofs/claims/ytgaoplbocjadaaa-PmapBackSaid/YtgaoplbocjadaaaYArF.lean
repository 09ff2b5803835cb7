/- Numbers and their slots: the program's way and the document's. -/
import Derived.Laws.Rows
import Derived.Test.YtgaoplbocjadaaaYArA
import Derived.Test.YtgaoplbocjadaaaYDh
namespace Go.Proofs.Ytgaoplbocjadaaa
open Go.RowKit
set_option linter.unusedSimpArgs false
set_option linter.unusedVariables false
theorem info_slot : (Try.prog.info? 26).map (·.size) = some 3 := by kernel_rfl
theorem one_slot (a b c : Int) : (#[.int .i64 a, .int .i64 b, .int .i64 c] : Array Value).all (·.oneCell') = true := by simp [Value.oneCell']
theorem and_255 (x : Int) (h0 : 0 ≤ x) (h1 : x < 4294967296) : bits .and .i64 x 255 = x % 256 := bits_mask .i64 40 (by decide) (fun n h0 h1 => IntWalk.i64_in n (by omega)) 8 (by decide) x h0 (by omega)
def nOk (n : Int) : Bool := decide (0 ≤ n ∧ n ≤ 4294967295)
def SlotP (W : World) (i j b er : Int) (e : Ending) (w' : World) : Prop := e = .returned (.tuple #[.agg #[.int .i64 i, .int .i64 j, .int .i64 b], .int .i64 er]) ∧ Below W.heap.size W w'
set_option maxRecDepth 100000 in
theorem slot_no1 (n : Int) (w : World) (h : n < 0) : Calls Try.prog 56 #[.int .i64 n] w (SlotP w 0 0 0 2) := by
  have hb : Below w.heap.size w (w.alloc (.cells #[.int .i64 0, .int .i64 0, .int .i64 0] 26)) := (Below.refl _ _).alloc (Nat.le_refl _) _
  have hk : SlotAt (w.alloc (.cells #[.int .i64 0, .int .i64 0, .int .i64 0] 26)) w.heap.size 0 0 0 := heap_alloc_new w _
  have HB := Lib.hid hb
  have HK := Lib.hid hk
  clear hb hk
  go_enter Try.func56, Try.ntmps56
  go_wp2_with (refine wpList_store_row rfl _ (.tmp 2) (.tmp 11) rfl w.heap.size _ rfl rfl _ _ HK.out info_slot rfl (one_slot _ _ _) ?_)
  exact bodyPost_ret (results_cell_tmp_row rfl _ _ w.heap.size _ _ _ _ rfl (setRow_heap _ _ _ _ _ (0, 0) HK.out) Try.underlying26 rfl info_slot) rfl ⟨rfl, below_setRow HB.out (Nat.le_refl _) _⟩
set_option maxRecDepth 100000 in
theorem slot_no2 (n : Int) (w : World) (h0 : ¬ n < 0) (h : 4294967295 < n) : Calls Try.prog 56 #[.int .i64 n] w (SlotP w 0 0 0 2) := by
  have hb : Below w.heap.size w (w.alloc (.cells #[.int .i64 0, .int .i64 0, .int .i64 0] 26)) := (Below.refl _ _).alloc (Nat.le_refl _) _
  have hk : SlotAt (w.alloc (.cells #[.int .i64 0, .int .i64 0, .int .i64 0] 26)) w.heap.size 0 0 0 := heap_alloc_new w _
  have HB := Lib.hid hb
  have HK := Lib.hid hk
  clear hb hk
  go_enter Try.func56, Try.ntmps56
  go_wp2_with (refine wpList_store_row rfl _ (.tmp 2) (.tmp 11) rfl w.heap.size _ rfl rfl _ _ HK.out info_slot rfl (one_slot _ _ _) ?_)
  exact bodyPost_ret (results_cell_tmp_row rfl _ _ w.heap.size _ _ _ _ rfl (setRow_heap _ _ _ _ _ (0, 0) HK.out) Try.underlying26 rfl info_slot) rfl ⟨rfl, below_setRow HB.out (Nat.le_refl _) _⟩
set_option maxRecDepth 100000 in
theorem slot_yes (n : Int) (w : World) (h0 : ¬ n < 0) (h : ¬ 4294967295 < n) : Calls Try.prog 56 #[.int .i64 n] w (SlotP w (n / 65536) (n / 256 % 256) (n % 256) 0) := by
  have hb : Below w.heap.size w (w.alloc (.cells #[.int .i64 0, .int .i64 0, .int .i64 0] 26)) := (Below.refl _ _).alloc (Nat.le_refl _) _
  have hk : SlotAt (w.alloc (.cells #[.int .i64 0, .int .i64 0, .int .i64 0] 26)) w.heap.size 0 0 0 := heap_alloc_new w _
  have ha := and_255 n (by omega) (by omega)
  have ha2 := and_255 (n / 256) (by omega) (by omega)
  have HB := Lib.hid hb
  have HK := Lib.hid hk
  clear hb hk
  go_enter Try.func56, Try.ntmps56
  go_wp2_with fail
  have hf : SlotAt ((w.alloc (.cells #[.int .i64 (n / 65536), .int .i64 (n / 256 % 256), .int .i64 (n % 256)] 26)).alloc (.cells #[.int .i64 (n / 65536), .int .i64 (n / 256 % 256)] 24)) w.heap.size (n / 65536) (n / 256 % 256) (n % 256) := heap_alloc2_old w _ _
  exact bodyPost_ret (results_cell_tmp_row rfl _ _ w.heap.size _ _ _ _ rfl hf Try.underlying26 rfl info_slot) rfl ⟨rfl, ((Below.refl _ _).alloc (Nat.le_refl _) _).alloc (by simp) _⟩
set_option maxRecDepth 100000 in
theorem rslot_any (n : Int) (w : World) (h0 : ¬ n < 0) (h : ¬ 4294967295 < n) : Calls Try.prog 60 #[.int .i64 n] w fun e w' => e = .returned (.agg #[.int .i64 (n / 65536), .int .i64 (n / 256 % 256), .int .i64 (n % 256)]) ∧ Below w.heap.size w w' := by
  have hb : Below w.heap.size w (w.alloc (.cells #[.int .i64 0, .int .i64 0, .int .i64 0] 26)) := (Below.refl _ _).alloc (Nat.le_refl _) _
  have hk : SlotAt (w.alloc (.cells #[.int .i64 0, .int .i64 0, .int .i64 0] 26)) w.heap.size 0 0 0 := heap_alloc_new w _
  have HB := Lib.hid hb
  have HK := Lib.hid hk
  clear hb hk
  go_enter Try.func60, Try.ntmps60
  go_wp2_with (refine wpList_store_row rfl _ (.tmp 2) (.tmp 11) rfl w.heap.size _ rfl rfl _ _ HK.out info_slot rfl (one_slot _ _ _) ?_)
  refine bodyPost_ret (results_cell_row rfl _ _ w.heap.size _ _ _ _ rfl (setRow_heap _ _ _ _ _ (0, 0) HK.out) Try.underlying26 rfl info_slot) rfl ⟨rfl, below_setRow HB.out (Nat.le_refl _) _⟩
end Go.Proofs.Ytgaoplbocjadaaa
namespace Go.Proofs.Ytgaoplbocjadaaa
open Go.RowKit
set_option linter.unusedSimpArgs false
set_option linter.unusedVariables false
theorem low_any (k : Int) (w : World) : Calls Try.prog 139 #[.int .i64 k] w fun e w' => e = .returned (.int .i64 (kLow k)) ∧ Below w.heap.size w w' := by
  have hf := span_f1 (kSize k) (kLow k) (kHigh k)
  go_enter Try.func139, Try.ntmps139
  go_wp2_with (go_at_call 128; refine (span_any _ _).mono ?_; rintro e w1 ⟨rfl, hb⟩)
  go_ret
  exact ⟨rfl, hb⟩
theorem info_spec4 : (Try.prog.info? 75).map (·.size) = some 4 := by kernel_rfl
theorem one_spec4 (a b c d : Int) : (#[.int .i64 a, .int .i64 b, .int .i64 c, .int .i64 d] : Array Value).all (·.oneCell') = true := by simp [Value.oneCell']
def Spec4 (w : World) (g : Nat) (k a lo hi : Int) : Prop := w.heap[g]? = some (.cells #[.int .i64 k, .int .i64 a, .int .i64 lo, .int .i64 hi] 75 (0, 0))
set_option maxRecDepth 100000 in
theorem arN_any (k lo hi : Int) (w : World) : Calls Try.prog 102 #[.int .i64 k, .int .i64 lo, .int .i64 hi] w fun e w' => e = .returned (.agg #[.int .i64 k, .int .i64 3, .int .i64 lo, .int .i64 hi]) ∧ Below w.heap.size w w' := by
  have hb : Below w.heap.size w (w.alloc (.cells #[.int .i64 0, .int .i64 0, .int .i64 0, .int .i64 0] 75)) := (Below.refl _ _).alloc (Nat.le_refl _) _
  have hk : Spec4 (w.alloc (.cells #[.int .i64 0, .int .i64 0, .int .i64 0, .int .i64 0] 75)) w.heap.size 0 0 0 0 := heap_alloc_new w _
  have HB := Lib.hid hb
  have HK := Lib.hid hk
  clear hb hk
  go_enter Try.func102, Try.ntmps102
  go_wp2_with (refine wpList_store_row rfl _ (.tmp 6) (.tmp 10) rfl w.heap.size _ rfl rfl _ _ HK.out info_spec4 rfl (one_spec4 _ _ _ _) ?_)
  exact bodyPost_ret (results_cell_row rfl _ _ w.heap.size _ _ _ _ rfl (setRow_heap _ _ _ _ _ (0, 0) HK.out) Try.underlying75 rfl info_spec4) rfl ⟨rfl, below_setRow HB.out (Nat.le_refl _) _⟩
set_option maxRecDepth 100000 in
theorem arC_any (n : Int) (w : World) : Calls Try.prog 101 #[.int .i64 n] w fun e w' => e = .returned (.agg #[.int .i64 2, .int .i64 4, .int .i64 n, .int .i64 n]) ∧ Below w.heap.size w w' := by
  have hb : Below w.heap.size w (w.alloc (.cells #[.int .i64 0, .int .i64 0, .int .i64 0, .int .i64 0] 75)) := (Below.refl _ _).alloc (Nat.le_refl _) _
  have hk : Spec4 (w.alloc (.cells #[.int .i64 0, .int .i64 0, .int .i64 0, .int .i64 0] 75)) w.heap.size 0 0 0 0 := heap_alloc_new w _
  have HB := Lib.hid hb
  have HK := Lib.hid hk
  clear hb hk
  go_enter Try.func101, Try.ntmps101
  go_wp2_with (refine wpList_store_row rfl _ (.tmp 2) (.tmp 5) rfl w.heap.size _ rfl rfl _ _ HK.out info_spec4 rfl (one_spec4 _ _ _ _) ?_)
  exact bodyPost_ret (results_cell_row rfl _ _ w.heap.size _ _ _ _ rfl (setRow_heap _ _ _ _ _ (0, 0) HK.out) Try.underlying75 rfl info_spec4) rfl ⟨rfl, below_setRow HB.out (Nat.le_refl _) _⟩
set_option maxRecDepth 100000 in
theorem arA_any (k : Int) (w : World) : Calls Try.prog 126 #[.int .i64 k] w fun e w' => e = .returned (.agg #[.int .i64 k, .int .i64 3, .int .i64 (kLow k), .int .i64 (kHigh k)]) ∧ Below w.heap.size w w' := by
  have hb : Below w.heap.size w (w.alloc (.cells #[.int .i64 0, .int .i64 0, .int .i64 0, .int .i64 0] 75)) := (Below.refl _ _).alloc (Nat.le_refl _) _
  have hk : Spec4 (w.alloc (.cells #[.int .i64 0, .int .i64 0, .int .i64 0, .int .i64 0] 75)) w.heap.size 0 0 0 0 := heap_alloc_new w _
  have HB := Lib.hid hb
  have HK := Lib.hid hk
  have hs : w.heap.size < (w.alloc (.cells #[.int .i64 0, .int .i64 0, .int .i64 0, .int .i64 0] 75)).heap.size := by simp
  have HS := Lib.hid hs
  clear hb hk hs
  go_enter Try.func126, Try.ntmps126
  go_wp2_with fail
  generalize (w.alloc (.cells #[.int .i64 0, .int .i64 0, .int .i64 0, .int .i64 0] 75)) = w0 at HB HK HS ⊢
  refine (low_any k _).mono ?_
  rintro e w1 ⟨rfl, hb1⟩
  have HB1 := Lib.hid (kF hb1 HB.out)
  have HK1 : Hid (Spec4 w1 w.heap.size 0 0 0 0) := Lib.hid ((hb1.block _ HS.out).trans HK.out)
  have HS1 : Hid (w.heap.size < w1.heap.size) := Lib.hid (Nat.lt_of_lt_of_le HS.out hb1.size)
  clear hb1
  go_wp2_with fail
  refine (high_any k _).mono ?_
  rintro e w2 ⟨rfl, hb2⟩
  have HB2 := Lib.hid (kF hb2 HB1.out)
  have HK2 : Hid (Spec4 w2 w.heap.size 0 0 0 0) := Lib.hid ((hb2.block _ HS1.out).trans HK1.out)
  have HS2 : Hid (w.heap.size < w2.heap.size) := Lib.hid (Nat.lt_of_lt_of_le HS1.out hb2.size)
  clear hb2
  go_wp2_with fail
  refine (arN_any k _ _ _).mono ?_
  rintro e w3 ⟨rfl, hb3⟩
  have HB3 := Lib.hid (kF hb3 HB2.out)
  have HK3 : Hid (Spec4 w3 w.heap.size 0 0 0 0) := Lib.hid ((hb3.block _ HS2.out).trans HK2.out)
  clear hb3
  go_wp2_with (refine wpList_store_row rfl _ (.tmp 2) (.tmp 8) rfl w.heap.size _ rfl rfl _ _ HK3.out info_spec4 rfl (one_spec4 _ _ _ _) ?_)
  exact bodyPost_ret (results_cell_row rfl _ _ w.heap.size _ _ _ _ rfl (setRow_heap _ _ _ _ _ (0, 0) HK3.out) Try.underlying75 rfl info_spec4) rfl ⟨rfl, below_setRow HB3.out (Nat.le_refl _) _⟩
set_option maxRecDepth 100000 in
theorem theFlag_any (w : World) : Calls Try.prog 66 #[] w fun e w' => e = .returned (.agg #[.int .i64 5118, .int .i64 0]) ∧ Below w.heap.size w w' := by
  have hb : Below w.heap.size w (w.alloc (.cells #[.int .i64 0, .int .i64 0] 24)) := (Below.refl _ _).alloc (Nat.le_refl _) _
  have hk : Key2 (w.alloc (.cells #[.int .i64 0, .int .i64 0] 24)) w.heap.size 0 0 := heap_alloc_new w _
  have HB := Lib.hid hb
  have HK := Lib.hid hk
  clear hb hk
  go_enter Try.func66, Try.ntmps66
  go_wp2_with (refine wpList_store_row rfl _ (.tmp 0) (.tmp 1) rfl w.heap.size _ rfl rfl _ _ HK.out info_key rfl (one_key _ _) ?_)
  exact bodyPost_ret (results_cell_row rfl _ _ w.heap.size _ _ _ _ rfl (setRow_heap _ _ _ _ _ (0, 0) HK.out) Try.underlying24 rfl info_key) rfl ⟨rfl, below_setRow HB.out (Nat.le_refl _) _⟩
end Go.Proofs.Ytgaoplbocjadaaa
namespace Go.Proofs.Ytgaoplbocjadaaa
open Go.RowKit
set_option linter.unusedSimpArgs false
set_option linter.unusedVariables false
/-- What an entry may hold; rows of it. -/
abbrev Sp := Int × Int × Int × Int
def spC (x : Sp) : List Value := [.int .i64 x.1, .int .i64 x.2.1, .int .i64 x.2.2.1, .int .i64 x.2.2.2]
def spF (l : List Sp) : List Value := (l.map spC).flatten
theorem own_base {w : World} {base base' e s n : Nat} {v : Value} {xs : List Value} (h : w.ownsRow base e s v n xs) (hb : base' ≤ base) : w.ownsRow base' e s v n xs :=
  ⟨h.1, h.2.imp id (fun ⟨b, cap, cur, e1, h1, h2⟩ => ⟨b, cap, cur, e1, Nat.le_trans hb h1, h2⟩)⟩
def SpAt (w : World) (base : Nat) (v : Value) (l : List Sp) : Prop := w.ownsRow base 75 4 v l.length (spF l)
theorem SpAt.below {w w' : World} {base : Nat} {v : Value} {l : List Sp} (h : SpAt w base v l) (hb : Below w.heap.size w w') : SpAt w' base v l := own_below h hb
theorem SpAt.mono {w : World} {base base' : Nat} {v : Value} {l : List Sp} (h : SpAt w base v l) (hb : base' ≤ base) : SpAt w base' v l := own_base h hb
def tabS : List Sp := [(2, 4, 6, 6), (2, 3, 0, 2), (3, 3, 1, 65535), (3, 3, 1, 65535), (2, 4, 254, 254), (4, 3, 257, 383), (4, 3, 258, 384)]
/-- A block of rows that has just been made. -/
theorem SpAt.new (w : World) (l : List Sp) (hl : 0 < l.length) (hm : l.length ≤ 1000) : SpAt (w.alloc (.cells (spF l).toArray 75)) w.heap.size (.slice (some ⟨w.heap.size, 0, none⟩) l.length l.length) l := by
  have h4 : ∀ m : List Sp, (spF m).length = m.length * 4 := fun m => by
    induction m with
    | nil => rfl
    | cons x m ih => simp [spF, spC] at ih ⊢; omega
  exact own_mk (Nat.le_refl _) (heap_alloc_new w _) (Nat.le_refl _) (by simp [maxLen]; omega) (by simp [h4]) (h4 l) (fun k hk => by simp)
theorem high3 (w : World) : Calls Try.prog 103 #[.int .i64 3] w fun e w' => e = .returned (.int .i64 65535) ∧ Below w.heap.size w w' := high_any 3 w
set_option maxRecDepth 100000 in
theorem table_any (w : World) : Calls Try.prog 55 #[] w fun e w' => ∃ v, e = .returned v ∧ SpAt w' w.heap.size v tabS ∧ Below w.heap.size w w' := by
  go_enter Try.func55, Try.ntmps55
  go_wp2_with fail
  refine (arC_any 6 _).mono ?_
  rintro e w1 ⟨rfl, hb1⟩
  have HB1 : Hid (Below w.heap.size w w1) := Lib.hid (hb1)
  clear hb1
  go_wp2_with fail
  refine (arN_any 2 0 2 _).mono ?_
  rintro e w2 ⟨rfl, hb2⟩
  have HB2 : Hid (Below w.heap.size w w2) := Lib.hid (kF hb2 HB1.out)
  clear hb2
  go_wp2_with fail
  refine (high3 _).mono ?_
  rintro e w3 ⟨rfl, hb3⟩
  have HB3 : Hid (Below w.heap.size w w3) := Lib.hid (kF hb3 HB2.out)
  clear hb3
  go_wp2_with fail
  refine (arN_any 3 1 _ _).mono ?_
  rintro e w4 ⟨rfl, hb4⟩
  have HB4 : Hid (Below w.heap.size w w4) := Lib.hid (kF hb4 HB3.out)
  clear hb4
  go_wp2_with fail
  refine (high3 _).mono ?_
  rintro e w5 ⟨rfl, hb5⟩
  have HB5 : Hid (Below w.heap.size w w5) := Lib.hid (kF hb5 HB4.out)
  clear hb5
  go_wp2_with fail
  refine (arN_any 3 1 _ _).mono ?_
  rintro e w6 ⟨rfl, hb6⟩
  have HB6 : Hid (Below w.heap.size w w6) := Lib.hid (kF hb6 HB5.out)
  clear hb6
  go_wp2_with fail
  refine (arC_any 254 _).mono ?_
  rintro e w7 ⟨rfl, hb7⟩
  have HB7 : Hid (Below w.heap.size w w7) := Lib.hid (kF hb7 HB6.out)
  clear hb7
  go_wp2_with fail
  refine (arN_any 4 257 383 _).mono ?_
  rintro e w8 ⟨rfl, hb8⟩
  have HB8 : Hid (Below w.heap.size w w8) := Lib.hid (kF hb8 HB7.out)
  clear hb8
  go_wp2_with fail
  refine (arN_any 4 258 384 _).mono ?_
  rintro e w9 ⟨rfl, hb9⟩
  have HB9 : Hid (Below w.heap.size w w9) := Lib.hid (kF hb9 HB8.out)
  clear hb9
  go_wp2_with fail
  go_ret
  exact ⟨_, rfl, (SpAt.new w9 tabS (by decide) (by decide)).mono HB9.out.size, HB9.out.alloc HB9.out.size _⟩
end Go.Proofs.Ytgaoplbocjadaaa
namespace Go.Proofs.Ytgaoplbocjadaaa
open Go.RowKit
set_option linter.unusedSimpArgs false
set_option linter.unusedVariables false
theorem mul64_any (n : Int) (hn : n = 8 ∨ n = 4) (w : World) : Calls Try.prog 147 #[.int .u64 1, .int .u64 n] w fun e w' => e = .returned (.tuple #[.int .u64 0, .int .u64 n]) ∧ w' = w := by
  rcases hn with rfl | rfl
  all_goals
    go_enter Try.func147, Try.ntmps147
    go_wp2
    go_returns
    exact ⟨rfl, rfl⟩
theorem mul_any (n : Int) (hn : n = 8 ∨ n = 4) (w : World) : Calls Try.prog 143 #[.int .u64 1, .int .u64 n] w fun e w' => e = .returned (.tuple #[.int .u64 0, .int .u64 n]) ∧ w' = w := by
  go_enter Try.func143, Try.ntmps143
  go_wp2_with fail
  refine (mul64_any n hn _).mono ?_
  rintro e w1 ⟨rfl, rfl⟩
  go_wp2_with fail
  go_returns
  exact ⟨rfl, rfl⟩
end Go.Proofs.Ytgaoplbocjadaaa
namespace Go.Proofs.Ytgaoplbocjadaaa
open Go.RowKit
set_option linter.unusedSimpArgs false
set_option linter.unusedVariables false
theorem size_spec : (Try.prog.info? 75).map (·.size) = some 4 := by kernel_rfl
def RpAt (w : World) (g i n : Nat) (x : Sp) : Prop := ∃ cur : Array Value, w.heap[g]? = some (.cells cur 75 (0, 0)) ∧ cur.size = n * 4 ∧ ∀ k, k < i * 4 → cur[k]? = (spC x)[k % 4]?
theorem spC_len (x : Sp) : (spC x).length = 4 := rfl
theorem spC_one (x : Sp) : ∀ v ∈ spC x, v.oneCell' = true := by
  intro v hv
  simp only [spC, List.mem_cons, List.not_mem_nil, or_false] at hv
  rcases hv with rfl | rfl | rfl | rfl <;> rfl
theorem RpAt.first {w : World} {g n : Nat} {cur : Array Value} (x : Sp) (hg : w.heap[g]? = some (.cells cur 75 (0, 0))) (hs : cur.size = n * 4) (hn : 1 ≤ n) : RpAt (w.setCells g 0 (spC x)) g 1 n x := by
  obtain ⟨c, h1, h2, h3⟩ := setCells_blockR (spC x) w g 0 75 (0, 0) cur hg (by rw [spC_len]; omega)
  refine ⟨c, h1, h2.trans hs, fun k hk => ?_⟩
  rw [h3 k, if_pos ⟨Nat.zero_le _, by rw [spC_len]; omega⟩, Nat.sub_zero, Nat.mod_eq_of_lt (by omega)]
theorem RpAt.copy {w : World} {g i n j : Nat} {x : Sp} (h : RpAt w g i n x) (hj : j ≤ i) (hn : i + j ≤ n) :
    ∃ (cur : Array Value) (cs : List Value), w.heap[g]? = some (.cells cur 75 (0, 0)) ∧ i * 4 + cs.length ≤ cur.size ∧ cs.length = j * 4 ∧ (∀ k v, cs[k]? = some v → w.cell? ⟨g, k, none⟩ = some v) ∧ (∀ v ∈ cs, v.oneCell' = true) ∧ RpAt (w.setCells g (i * 4) cs) g (i + j) n x := by
  obtain ⟨cur, hg, hs, hx⟩ := h
  have hlen : (cur.toList.take (j * 4)).length = j * 4 := by rw [List.length_take]; simp; omega
  have hat : ∀ k, k < j * 4 → (cur.toList.take (j * 4))[k]? = cur[k]? := fun k hk => by rw [List.getElem?_take, if_pos hk]; simp
  obtain ⟨c, h1, h2, h3⟩ := setCells_blockR (cur.toList.take (j * 4)) w g (i * 4) 75 (0, 0) cur hg (by rw [hlen]; omega)
  refine ⟨cur, _, hg, by rw [hlen]; omega, hlen, ?_, ?_, c, h1, h2.trans hs, ?_⟩
  · intro k v hv
    have hk : k < j * 4 := by rw [← hlen]; exact (List.getElem?_eq_some_iff.1 hv).1
    rw [cell_of_row _ _ _ _ _ _ hg, ← hat k hk]; exact hv
  · intro v hv
    obtain ⟨k, hk⟩ := List.mem_iff_getElem?.1 hv
    have hk2 : k < j * 4 := by rw [← hlen]; exact (List.getElem?_eq_some_iff.1 hk).1
    rw [hat k hk2, hx k (by omega)] at hk
    exact spC_one x v (List.mem_of_getElem? hk)
  · intro k hk
    rw [h3 k, hlen]
    by_cases h : i * 4 ≤ k
    · rw [if_pos ⟨h, by omega⟩, hat _ (by omega), hx _ (by omega)]
      congr 1; omega
    · rw [if_neg (by omega), hx k (by omega)]
theorem RpAt.row {w : World} {g n base : Nat} {x : Sp} (h : RpAt w g n n x) (hn : 0 < n) (hm : n ≤ 1000) (hb : base ≤ g) : SpAt w base (.slice (some ⟨g, 0, none⟩) n n) (List.replicate n x) := by
  obtain ⟨cur, hg, hs, hx⟩ := h
  have h4 : ∀ m : Nat, (spF (List.replicate m x)).length = m * 4 := fun m => by
    induction m with
    | zero => rfl
    | succ m ih => rw [List.replicate_succ]; simp [spF, spC] at ih ⊢; omega
  have h5 : ∀ m k : Nat, k < m * 4 → (spF (List.replicate m x))[k]? = (spC x)[k % 4]? := fun m => by
    induction m with
    | zero => intro k hk; omega
    | succ m ih =>
      intro k hk
      rw [List.replicate_succ]
      show ((spC x) ++ spF (List.replicate m x))[k]? = _
      by_cases h : k < 4
      · rw [List.getElem?_append_left (by rw [spC_len]; exact h), Nat.mod_eq_of_lt h]
      · rw [List.getElem?_append_right (by rw [spC_len]; omega), spC_len, ih _ (by omega)]
        congr 1; omega
  have := own_mk (w := w) (base := base) (e := 75) (s := 4) (n := n) (g := g) (cap := n) (cur := cur) (xs := spF (List.replicate n x)) hb hg (Nat.le_refl _) (by simp [maxLen]; omega) hs (h4 n) (fun k hk => by rw [hx k hk, h5 n k hk])
  unfold SpAt
  rw [List.length_replicate]
  exact this
def zrN (n : Nat) : Array Value := Array.replicate (n * 4) (.int .i64 0)
set_option maxRecDepth 100000 in
set_option maxHeartbeats 2000000 in
theorem repeat_any (w : World) (b n : Nat) (x : Sp) (hn : n = 8 ∨ n = 4) (hb : w.heap[b]? = some (.cells (spC x).toArray 75 (0, 0))) :
    Calls Try.prog 138 #[.slice (some ⟨b, 0, none⟩) 1 1, .int .i64 (n : Nat)] w fun e w' => e = .returned (.slice (some ⟨w.heap.size, 0, none⟩) n n) ∧ RpAt w' w.heap.size n n x ∧ Below w.heap.size w w' := by
  have hmk : ∀ w, (Instr.makeSlice 120 (.int .i64 n) (.int .i64 n)).run Try.prog w = .ok (.slice (some ⟨w.heap.size, 0, none⟩) n n) (w.alloc (.cells (zrN n) 75)) := fun w => by
    rcases hn with rfl | rfl <;> kernel_rfl
  have hblt : b < w.heap.size := (Array.getElem?_eq_some_iff.1 hb).1
  have hb0 : (w.alloc (.cells (zrN n) 75)).heap[b]? = some (.cells (spC x).toArray 75 (0, 0)) := (heap_alloc_old w _ hblt).trans hb
  have hz0 : (w.alloc (.cells (zrN n) 75)).heap[w.heap.size]? = some (.cells (zrN n) 75 (0, 0)) := heap_alloc_new w _
  have hzs : (zrN n).size = n * 4 := by simp [zrN]
  have hn1 : 4 ≤ n ∧ n ≤ 8 := by omega
  have HC0 : Hid (∀ ty dc sc, (Builtin.copy_ #[120, 120] ty #[.slice (some ⟨w.heap.size, 0, none⟩) n dc, .slice (some ⟨b, 0, none⟩) 1 sc]).run Try.prog (w.alloc (.cells (zrN n) 75)) = .ok (goInt (1 : Nat)) ((w.alloc (.cells (zrN n) 75)).setCells w.heap.size 0 (spC x))) := Lib.hid (fun ty dc sc =>
    run_copy_rows _ 120 120 ty 75 4 w.heap.size 0 n dc _ 1 sc 1 75 (spC x) (zrN n) Try.underlying120 size_spec (by simp only [Nat.min_def]; split <;> omega) rfl hz0 (by rw [spC_len, hzs]; omega)
      ⟨_, rfl, fun j u hu => by rw [add_plainR, Nat.zero_add, cell_of_row _ _ _ _ _ _ hb0]; simpa using hu⟩ (spC_one x))
  have HR0 : Hid (RpAt ((w.alloc (.cells (zrN n) 75)).setCells w.heap.size 0 (spC x)) w.heap.size 1 n x) := Lib.hid (RpAt.first x hz0 hzs (by omega))
  have HB0 : Hid (Below w.heap.size w ((w.alloc (.cells (zrN n) 75)).setCells w.heap.size 0 (spC x))) := Lib.hid (by
    have h := setCells_grownR (spC x) w.heap.size 0 (World.grownBy_alloc w (.cells (zrN n) 75) (some w.heap.size))
    exact ⟨h.os, h.tape, h.output, h.size, fun k hk => h.block k hk (fun e => by cases e; omega)⟩)
  generalize ((w.alloc (.cells (zrN n) 75)).setCells w.heap.size 0 (spC x)) = w0 at HC0 HR0 HB0
  have HMU := Lib.hid (fun W => mul_any n (by omega) W)
  clear hb hb0 hz0 hzs hn hblt
  go_enter Try.func138, Try.ntmps138
  go_wp2_with fail
  refine (HMU.out _).mono ?_
  rintro e w1 ⟨rfl, rfl⟩
  go_wp2_with (refine wpList_copy_runI _ (o := ⟨some 33, _, _, _, _, _⟩) rfl (.tmp 31) (.tmp 32) 120 120 rfl _ _ rfl rfl (HC0.out _ _ _) ?_)
  go_loopw [8] (fun i wr => ∃ q : Nat, 1 ≤ q ∧ q ≤ n ∧ i = .int .i64 q ∧ Hid (RpAt wr w1.heap.size q n x) ∧ Hid (Below w1.heap.size w1 wr)) (fun i _ => n - (intOf i).toNat)
  case atStart => exact ⟨1, Nat.le_refl _, by omega, rfl, HR0, HB0⟩
  case round =>
    obtain ⟨q, hq1, hqn, rfl, HR, HB⟩ := hrel
    by_cases hlt : q < n
    · obtain ⟨m, hm⟩ : ∃ m, m = Nat.min q (n - q) := ⟨_, rfl⟩
      have hm1 : 1 ≤ m ∧ m ≤ q ∧ q + m ≤ n := by
        rw [hm]; simp only [Nat.min_def]; split <;> omega
      obtain ⟨cur, cs, k1, k2, k3, k4, k5, k6⟩ := HR.out.copy (j := m) hm1.2.1 hm1.2.2
      have HC : Hid (∀ ty dc sc, (Builtin.copy_ #[120, 120] ty #[.slice (some ⟨w1.heap.size, q * 4, none⟩) (n - q) dc, .slice (some ⟨w1.heap.size, 0, none⟩) q sc]).run Try.prog wr.drew = .ok (goInt (m : Nat)) (wr.drew.setCells w1.heap.size (q * 4) cs)) := Lib.hid (fun ty dc sc =>
        run_copy_rows wr.drew 120 120 ty 75 4 w1.heap.size (q * 4) (n - q) dc _ q sc m 75 cs cur Try.underlying120 size_spec hm.symm k3 k1 k2
          ⟨_, rfl, fun j u hu => by rw [add_plainR, Nat.zero_add]; exact k4 j u hu⟩ k5)
      have HK : Hid (RpAt (wr.drew.setCells w1.heap.size (q * 4) cs) w1.heap.size (q + m) n x) := Lib.hid (by
        obtain ⟨c, g1, g2, g3⟩ := k6
        refine ⟨c, ?_, g2, g3⟩
        have e : ∀ (l : List Value) (W : World) (a o : Nat), W.drew.setCells a o l = (W.setCells a o l).drew := fun l => by
          induction l with
          | nil => intro W a o; rfl
          | cons x l ih => intro W a o; exact (ih (W.setCell ⟨a, o, none⟩ x) a (o + 1))
        rw [e]; exact g1)
      have HBK : Hid (Below w1.heap.size w1 (wr.drew.setCells w1.heap.size (q * 4) cs)) := Lib.hid (by
        have h := setCells_grownR cs w1.heap.size (q * 4) (grown_refl wr.drew (some w1.heap.size))
        have hb := HB.out
        exact ⟨h.os.trans hb.os, h.tape.trans hb.tape, h.output.trans hb.output, Nat.le_trans hb.size h.size, fun k hk => (h.block k (Nat.lt_of_lt_of_le hk hb.size) (fun e => by cases e; omega)).trans (hb.block k hk)⟩)
      have hcq : ¬ (n = q) := by omega
      have hw : IntKind.i64.wrap ((q : Int) + (m : Int)) = (q : Int) + (m : Int) := IntWalk.i64_in _ (by omega)
      have ht : ((q : Nat) : Int).toNat = q := by omega
      clear k1 k2 k3 k4 k5 k6 HR HB hm
      go_wp2_with fail
      go_region_law ((refine step_copy_runI rfl _ _ 120 120 rfl (.slice (some ⟨w1.heap.size, q * 4, none⟩) (n - q) (n - q)) (.slice (some ⟨w1.heap.size, 0, none⟩) q n) (by simp [Act.eval, Act.put]) (by simp [Act.eval, Act.put]) (HC.out _ (n - q) n) ?_))
      go_simp
      go_wp2_with fail
      exact ⟨⟨q + m, by omega, by omega, by rw [Int.natCast_add], HK, HBK⟩, by simp only [intOf]; omega⟩
    · obtain rfl : q = n := by omega
      go_wp2_with fail
      go_ret
      exact ⟨rfl, HR.out, HB.out⟩
end Go.Proofs.Ytgaoplbocjadaaa
