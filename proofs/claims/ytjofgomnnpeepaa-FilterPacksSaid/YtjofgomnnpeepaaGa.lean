/- A filter's bits. -/
import Derived.Test.YtjofgomnnpeepaaBase3
import Derived.Test.YtjofgomnnpeepaaProg
import Derived.Laws.StructEq
import Derived.Shelf.SlSortCmp.QuietGrown
import Derived.Deep.Slices
import Derived.Lib.SmallJoins
namespace Go.Proofs.Ytjofgomnnpeepaa
open Go.RowKit Go.ChangeShapes Go.WideShapes Go.Deep Go.Joins Go.Sort

/-- The eleven bits of a number. -/
def low (n : Int) : Nat := (n % 2048).toNat
theorem low_lt (n : Int) : low n < 2048 := by unfold low; omega
theorem low_id {n : Int} (h : 0 ≤ n) (h2 : n < 2048) : ((low n : Nat) : Int) = n := by unfold low; omega
theorem low_nat {n : Nat} (h : n < 2048) : low n = n := by unfold low; omega
theorem and_lt (a : Nat) {b : Nat} (h : b < 2048) : a &&& b < 2048 := Nat.lt_of_le_of_lt Nat.and_le_right h
theorem i64_and_low (n : Int) (m : Nat) (hm : m < 2048) : bits .and .i64 n (m : Int) = ((low n &&& m : Nat) : Int) := by
  have hn : low n = (n % ((2 ^ 64 : Nat) : Int)).toNat % 2 ^ 11 := by unfold low; omega
  have key : (BitVec.ofInt 64 n &&& BitVec.ofInt 64 (m : Int)).toNat = low n &&& m := by
    rw [BitVec.toNat_and, BitVec.toNat_ofInt, BitVec.toNat_ofInt, hn]
    have h1 : (((m : Int)) % ((2 ^ 64 : Nat) : Int)).toNat = m := by omega
    rw [h1]
    have h2 := Nat.and_mod_two_pow (a := (n % ((2 ^ 64 : Nat) : Int)).toNat) (b := m) (n := 11)
    rw [Nat.mod_eq_of_lt (show m < 2 ^ 11 from hm), Nat.mod_eq_of_lt (and_lt _ hm)] at h2
    exact h2
  show IntKind.i64.wrap ((BitVec.ofInt 64 n &&& BitVec.ofInt 64 (m : Int)).toNat : Nat) = _
  rw [key, IntKind.wrap_i64]
  have := and_lt (low n) hm
  omega
theorem i64_and2047 (n : Int) : bits .and .i64 n 2047 = ((low n : Nat) : Int) := by
  have h := i64_and_low n 2047 (by omega)
  rw [show (2047 : Nat) = 2 ^ 11 - 1 from rfl, Nat.and_two_pow_sub_one_eq_mod, Nat.mod_eq_of_lt (low_lt n)] at h
  exact h
theorem i64_free (n : Int) : bits .andNot .i64 2047 n = ((2047 - low n : Nat) : Int) := by
  have hx : (BitVec.ofInt 64 2047 &&& ~~~ (BitVec.ofInt 64 n)).toNat = 2047 - low n := by
    have hN : low n = (BitVec.ofInt 64 n).toNat % 2 ^ 11 := by rw [BitVec.toNat_ofInt]; unfold low; omega
    have h3 : (BitVec.ofInt 64 2047).toNat = 2 ^ 11 - 1 := by decide
    have hl := (BitVec.ofInt 64 n).isLt
    rw [BitVec.toNat_and, h3, Nat.and_comm, Nat.and_two_pow_sub_one_eq_mod, BitVec.toNat_not, hN]
    omega
  have hs : bits .andNot .i64 2047 n = IntKind.i64.wrap ((BitVec.ofInt 64 2047 &&& ~~~ (BitVec.ofInt 64 n)).toNat : Nat) := rfl
  rw [hs, hx, IntKind.wrap_i64]
  omega

/-- Does a filter (its code's and its mask's bits) let an identifier pass? -/
def One (c m : Nat) (id : Int) : Bool := decide (0 ≤ id) && decide (id < 2048) && (low id &&& m == c &&& m)

theorem is_any (id : Int) (w : World) : Calls Try.prog 18 #[.int .i64 id] w fun e w' => e = .returned (.bool (decide (0 ≤ id) && decide (id < 2048))) ∧ w = w' := by
  go_enter Try.func18, Try.ntmps18
  go_wp2_with fail
  all_goals refine bodyPost_ret (results_tmp rfl _ _ _) rfl ⟨?_, rfl⟩
  · have h1 : decide (0 ≤ id) = true := by simp; omega
    rw [h1]; simp; omega
  · have h1 : decide (0 ≤ id) = false := by simp; omega
    rw [h1]; rfl
theorem below_gr (w : World) (q : Nat) (os : Array Obj) : Below w.heap.size w (grow (w.drewN q) os) :=
  ⟨rfl, rfl, rfl, by simp, fun k hk => by simp [grow, Array.getElem?_append, hk]⟩
theorem gr_then {w w0 w1 : World} {a b : Nat} {x y : Array Obj} (h0 : w0 = grow (w.drewN a) x) (h1 : w1 = grow (w0.drewN b) y) : ∃ q os, w1 = grow (w.drewN q) os :=
  ⟨a + b, x ++ y, by subst h1 h0; show grow (grow ((w.drewN a).drewN b) x) y = _; rw [grow_grow, World.drewN_drewN]⟩
theorem filter_mix : Try.prog.follows .mixedOrders = true := by kernel_rfl
theorem bound_any (c m : Int) (w : World) : Calls Try.prog 19 #[.agg #[.int .i64 c, .int .i64 m]] w fun e w' => e = .returned (.int .i64 (low m)) ∧ ∃ q os, w' = grow (w.drewN q) os := by
  go_enter Try.func19, Try.ntmps19
  go_wp2_with fail
  exact bodyPost_ret (results_tmp rfl _ _ _) rfl ⟨by rw [i64_and2047]; rfl, 0, _, alloc_eq_grow w _⟩
theorem free_any (c m : Int) (w : World) : Calls Try.prog 25 #[.agg #[.int .i64 c, .int .i64 m]] w fun e w' => e = .returned (.int .i64 ((2047 - low m : Nat) : Int)) ∧ ∃ q os, w' = grow (w.drewN q) os := by
  go_enter Try.func25, Try.ntmps25
  go_wp2_with fail
  exact bodyPost_ret (results_tmp rfl _ _ _) rfl ⟨by rw [i64_free]; rfl, 0, _, alloc_eq_grow w _⟩
theorem least_any (c m : Int) (w : World) : Calls Try.prog 20 #[.agg #[.int .i64 c, .int .i64 m]] w fun e w' => e = .returned (.int .i64 ((low c &&& low m : Nat) : Int)) ∧ ∃ q os, w' = grow (w.drewN q) os := by
  have hlt : w.heap.size < (w.alloc (.cells #[.int .i64 c, .int .i64 m] 36)).heap.size := by simp
  have hc0 : (w.alloc (.cells #[.int .i64 c, .int .i64 m] 36)).cell? ⟨w.heap.size, 0, none⟩ = some (.int .i64 c) := by rw [cell_of_row _ _ _ _ _ _ (heap_alloc_new w _)]; rfl
  have hc1 : (w.alloc (.cells #[.int .i64 c, .int .i64 m] 36)).cell? ⟨w.heap.size, 1, none⟩ = some (.int .i64 m) := by rw [cell_of_row _ _ _ _ _ _ (heap_alloc_new w _)]; rfl
  have k0 := cell_grown (a := ⟨w.heap.size, 0, none⟩) hlt hc0
  have k1 := cell_grown (a := ⟨w.heap.size, 1, none⟩) hlt hc1
  have HW : Hid (w.alloc (.cells #[.int .i64 c, .int .i64 m] 36) = grow (w.drewN 0) #[.cells #[.int .i64 c, .int .i64 m] 36]) := Lib.hid (alloc_eq_grow w _)
  have hmix := filter_mix
  clear hlt hc0 hc1
  go_enter Try.func20, Try.ntmps20
  go_wp2_with fail
  generalize w.alloc (.cells #[.int .i64 c, .int .i64 m] 36) = w0 at k0 k1 HW ⊢
  go_quiet_grown (first | (go_at_call 19; refine Calls.grown_of (bound_any c m _)))
  go_wp2_with fail
  exact bodyPost_ret (results_tmp rfl _ _ _) rfl ⟨by rw [i64_and_low _ _ (low_lt m)]; rfl, gr_then HW.out rfl⟩
/-- Two filters meet. -/
def meets (c m c' m' : Nat) : Bool := (c ^^^ c') &&& (m &&& m') == 0

/-- The slice '.slice A n c' of filters reads as fs (codes and masks). -/
structure Fils (w : World) (B : Nat) (A : Option Addr) (n c : Nat) (fs : Nat → Int × Int) : Prop where
  cap : n ≤ c
  max : c ≤ maxLen
  cells : 0 < n → ∃ b off, A = some ⟨b, off, none⟩ ∧ b < B ∧ ∀ i, i < n → w.cell? ⟨b, off + i * 2, none⟩ = some (.int .i64 (fs i).1) ∧ w.cell? ⟨b, off + i * 2 + 1, none⟩ = some (.int .i64 (fs i).2)
section
variable {w w' : World} {B n c : Nat} {A : Option Addr} {fs : Nat → Int × Int}
theorem Fils.below (h : Fils w B A n c fs) (hb : Below B w w') : Fils w' B A n c fs :=
  ⟨h.cap, h.max, fun hn => by
    obtain ⟨b, off, e, hlt, hc⟩ := h.cells hn
    exact ⟨b, off, e, hlt, fun i hi => ⟨(hb.cell (p := ⟨b, _, none⟩) hlt).trans (hc i hi).1, (hb.cell (p := ⟨b, _, none⟩) hlt).trans (hc i hi).2⟩⟩⟩
theorem Fils.step (h : Fils w w.heap.size A n c fs) (hb : Below w.heap.size w w') : Fils w' w'.heap.size A n c fs :=
  ⟨h.cap, h.max, fun hn => by
    obtain ⟨b, off, e, hlt, hc⟩ := (h.below hb).cells hn
    exact ⟨b, off, e, Nat.lt_of_lt_of_le hlt hb.size, hc⟩⟩
end
/-- Do the first n let it pass? -/
def anyF (fs : Nat → Int × Int) (n : Nat) (id : Int) : Bool := (List.range n).any fun i => One (low (fs i).1) (low (fs i).2) id
theorem anyF_zero (fs : Nat → Int × Int) (id : Int) : anyF fs 0 id = false := rfl
theorem anyF_succ (fs : Nat → Int × Int) (n : Nat) (id : Int) : anyF fs (n + 1) id = (anyF fs n id || One (low (fs n).1) (low (fs n).2) id) := by
  simp [anyF, List.range_succ]
theorem anyF_of {fs : Nat → Int × Int} {n i : Nat} {id : Int} (hi : i < n) (h : One (low (fs i).1) (low (fs i).2) id = true) : anyF fs n id = true := by
  rw [anyF, List.any_eq_true]
  exact ⟨i, List.mem_range.2 hi, h⟩
end Go.Proofs.Ytjofgomnnpeepaa
