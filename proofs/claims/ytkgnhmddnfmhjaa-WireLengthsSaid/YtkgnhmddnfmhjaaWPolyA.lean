/- What the small functions on bits answer that the statements on remainders call: one bit, a plain row, whether two rows are the same, a number's bits (both), a row's number, a row's own copy. -/
import Derived.Test.YtkgnhmddnfmhjaaProg
import Derived.IntWalk
import Derived.Test.YtkgnhmddnfmhjaaWBase3
namespace Go.Proofs.Ytkgnhmddnfmhjaa
open Go.RowKit
/-- A row whose bits are 0 or 1. -/
def pl (l : List Int) : List Int := l.map (· % 2)
theorem pl_len (l : List Int) : (pl l).length = l.length := by simp [pl]
theorem pl_bits (l : List Int) : ∀ x ∈ pl l, x = 0 ∨ x = 1 := by
  intro x hx
  simp only [pl, List.mem_map] at hx
  obtain ⟨y, _, rfl⟩ := hx
  omega
theorem pl_range (l : List Int) : ∀ x ∈ pl l, 0 ≤ x ∧ x ≤ 255 := fun x hx => by have := pl_bits l x hx; omega
theorem pl_pl (l : List Int) : pl (pl l) = pl l := by
  unfold pl
  rw [List.map_map]
  exact List.map_congr_left (fun x _ => by simp only [Function.comp]; omega)
theorem pl_of_bits {l : List Int} (h : ∀ x ∈ l, x = 0 ∨ x = 1) : pl l = l := by
  unfold pl
  exact (List.map_congr_left (g := id) (fun x hx => by have := h x hx; simp only [id]; omega)).trans (List.map_id l)

theorem snoc_cases {P : List Int → Prop} (h0 : P []) (h1 : ∀ l x, P l → P (l ++ [x])) (l : List Int) : P l := by
  have : ∀ n (l : List Int), l.length = n → P l := by
    intro n
    induction n with
    | zero => intro l hl; rw [List.eq_nil_of_length_eq_zero hl]; exact h0
    | succ n ih =>
      intro l hl
      rcases List.eq_nil_or_concat l with rfl | ⟨l', y, rfl⟩
      · exact h0
      · rw [List.concat_eq_append] at hl ⊢
        exact h1 l' y (ih l' (by simpa using hl))
  exact this l.length l rfl

theorem byte_info : (Try.prog.info? 5).map (fun i => (i.zero, i.size, i.bytes)) = some (some (.int .u8 0), 1, 1) := by kernel_rfl
theorem make_row (n : Nat) (hn : n ≤ 281474976710656) (w : World) : (Instr.makeSlice 25 (.int .i64 (n : Int)) (.int .i64 (n : Int))).run Try.prog w = .ok (.slice (some ⟨w.heap.size, 0, none⟩) n n) (w.alloc (.cells (madeCells #[.int .u8 0] n) 5)) :=
  run_make_row' _ _ _ _ Try.underlying25 byte_info rfl .i64 .i64 n (by omega) (by omega) w

theorem low_any (x : Int) (w : World) (h0 : 0 ≤ x) (h1 : x ≤ 255) : Calls Try.prog 24 #[.int .u8 x] w fun e w' => e = .returned (.int .u8 (x % 2)) ∧ w = w' := by
  have h := and_one x h0 h1
  go_enter Try.func24, Try.ntmps24
  go_wp2
  go_ret
  exact ⟨rfl, rfl⟩

theorem plain_any (w : World) (A : Option Addr) (n c : Nat) (l : List Int) (h : Byt w w.heap.size A n c l) (hn : n ≤ 140737488355327) : Calls Try.prog 49 #[.slice A n c] w fun e w' => ∃ A' c', e = .returned (.slice A' n c') ∧ Byt w' w'.heap.size A' n c' (pl l) ∧ Below w.heap.size w w' := by
  go_enter Try.func49, Try.ntmps49
  go_wp2_with fail
  go_loopw [4, 3] (fun i v wr => ∃ j : Nat, j ≤ n ∧ i = .int .i64 j ∧ wr.ownsRow w.heap.size 5 1 v j ((pl (l.take j)).map (Value.int .u8)) ∧ Below w.heap.size w wr) (fun i _ _ => n - (intOf i).toNat)
  case atStart => exact ⟨0, Nat.zero_le _, rfl, World.ownsRow_lit w #[] 0 (Nat.le_refl _) (by simp [maxLen]) rfl, (Below.refl _ _).alloc (Nat.le_refl _) _⟩
  case round =>
    obtain ⟨j, hj, rfl, hown, hbel⟩ := hrel
    by_cases hlt : j < n
    · obtain ⟨b, off, rfl, hb, hc⟩ := h.cells (by omega)
      have hrange := h.range j
      have hcj := hc j hlt
      have hget : pl (l.take (j + 1)) = pl (l.take j) ++ [l.getD j 0 % 2] := by
        rw [take_succ_getD (by rw [h.len]; exact hlt)]; simp [pl]
      generalize l.getD j 0 = q at hrange hcj hget
      have hcell : wr.cell? ⟨b, off + j, none⟩ = some (.int .u8 q) := (hbel.cell (p := ⟨b, off + j, none⟩) hb).trans hcj
      have HG := Lib.hid hget
      have HC := Lib.hid hc
      have HH := Lib.hid h
      obtain ⟨hq0, hq1⟩ := hrange
      clear hcj hget hc h
      go_wp2_with (at_builtin; refine wpList_byte rfl (.tmp 12) (.tmp 18) rfl Try.underlying25 byte_info rfl hown rfl (by omega) hbel.size ?_; intro v' w' hown' hbel')
      go_roundw
      case rel => exact ⟨j + 1, by omega, by go_num, by rw [HG.out]; exact hown', hbel.trans hbel'⟩
      case measure => simp [intOf]; omega
    · obtain rfl : j = n := by omega
      have hl := h.len
      go_wp2
      go_ret
      rw [List.take_of_length_le (by omega)] at hown
      obtain ⟨A', c', rfl, hB, _⟩ := Byt.of_own hown (pl_range l)
      exact ⟨_, _, rfl, hB, hbel⟩

theorem same_any (w : World) (A B : Option Addr) (n m c d : Nat) (l s : List Int) (h : Byt w w.heap.size A n c l) (g : Byt w w.heap.size B m d s) :
    Calls Try.prog 12 #[.slice A n c, .slice B m d] w fun e w' => e = .returned (.bool (decide (l = s))) ∧ Below w.heap.size w w' := by
  have hmn := h.max
  have hcn := h.cap
  simp only [maxLen] at hmn
  by_cases hnm : n = m
  · subst hnm
    go_enter Try.func12, Try.ntmps12
    go_wp2_with fail
    go_loopw [5] (fun i wr => ∃ j k : Nat, j ≤ n ∧ i = .int .i64 j ∧ l.take j = s.take j ∧ wr = w.drewN k) (fun i _ => n - (intOf i).toNat)
    case atStart => exact ⟨0, 0, Nat.zero_le _, rfl, rfl, rfl⟩
    case round =>
      obtain ⟨j, k, hj, rfl, htake, rfl⟩ := hrel
      by_cases hlt : j < n
      · obtain ⟨b, off, rfl, hb, hc⟩ := h.cells (by omega)
        obtain ⟨b1, off1, rfl, hb1, hc1⟩ := g.cells (by omega)
        have hcj := hc j hlt
        have hcj1 := hc1 j hlt
        have t1 : l.take (j + 1) = l.take j ++ [l.getD j 0] := take_succ_getD (by rw [h.len]; exact hlt)
        have t2 : s.take (j + 1) = s.take j ++ [s.getD j 0] := take_succ_getD (by rw [g.len]; exact hlt)
        rw [htake] at t1
        have hne : ¬ l.getD j 0 = s.getD j 0 → ¬ l = s := fun h e => h (by rw [e])
        generalize l.getD j 0 = q at hcj t1 hne
        generalize s.getD j 0 = r at hcj1 t2 hne
        have HT := Lib.hid htake
        have T1 := Lib.hid t1
        have T2 := Lib.hid t2
        have HH := Lib.hid h
        have GG := Lib.hid g
        clear hc hc1 htake t1 t2 h g
        by_cases hqr : q = r
        · subst hqr
          clear hne
          have hnb : (q != q) = false := by simp
          go_wp2_with fail
          go_quiet (fail)
          go_wp2
          go_roundw
          case rel => exact ⟨j + 1, _, by omega, by go_num, by rw [T1.out, T2.out], rfl⟩
          case measure => simp [intOf]; omega
        · have hls := Lib.hid (hne hqr)
          have hnb : (q != r) = true := by simp [hqr]
          have hnb2 : (q == r) = false := by simp [hqr]
          have hnb3 : ¬ q = r := hqr
          clear hne
          go_wp2_with fail
          go_quiet (fail)
          go_wp2
          go_ret
          exact ⟨ret_bool (decide_eq_false hls.out).symm, below_drewN (below_drewN (Below.refl _ _) _) _⟩
      · obtain rfl : j = n := by omega
        have hls : l = s := by rwa [List.take_of_length_le (by rw [h.len]; exact Nat.le_refl _), List.take_of_length_le (by rw [g.len]; exact Nat.le_refl _)] at htake
        have HLS := Lib.hid hls
        clear htake hls h g
        go_wp2
        go_ret
        exact ⟨ret_bool (decide_eq_true HLS.out).symm, below_drewN (Below.refl _ _) _⟩
  · have hls : ¬ l = s := fun e => hnm (by rw [← h.len, ← g.len, e])
    have HLS := Lib.hid hls
    have hnb : ((n : Int) == (m : Int)) = false := by simp; omega
    have hnb2 : ((n : Int) != (m : Int)) = true := by simp; omega
    clear hls hnm h g
    go_enter Try.func12, Try.ntmps12
    go_wp2
    go_ret
    exact ⟨ret_bool (decide_eq_false HLS.out).symm, Below.refl _ _⟩

/-- One byte more in a row of the call's own; the row is a slice that reads so. -/
theorem wpList_byteS {P : Program} {wr : World} {ops : Array Oper} {rest : List Oper} {o : Oper} {a : Act} {Q : Exit → Act → World → Prop} {base t e n : Nat} {q : Int} {l : List Int} {v : Value} (hgd : o.guard = none) (s x : Operand)
    (ho : o.op = .call { callee := .builtin .append, args := #[s, x], argTypes := #[t, t] }) (ht : P.underlying t = some (.slice e))
    (hinfo : (P.info? e).map (fun i => (i.zero, i.size, i.bytes)) = some (some (.int .u8 0), 1, 1)) (hs : a.eval s = v) (hown : wr.ownsRow base e 1 v n (l.map (Value.int .u8)))
    (hx : a.eval x = .slice (some ⟨wr.heap.size, 0, none⟩) 1 1) (hn : n + 1 ≤ 140737488355328) (hb : base ≤ wr.heap.size) (hr : ∀ y ∈ l ++ [q], 0 ≤ y ∧ y ≤ 255)
    (h : ∀ A c w', w'.ownsRow base e 1 (.slice A (n + 1) c) (n + 1) ((l ++ [q]).map (Value.int .u8)) → Byt w' w'.heap.size A (n + 1) c (l ++ [q]) → Below base wr w' → wpList P ops Q rest (a.put o.dst (.slice A (n + 1) c)) w') :
    wpList P ops Q (o :: rest) a (wr.alloc (.cells #[.int .u8 q] e)) := by
  refine wpList_byte hgd s x ho ht hinfo hs hown hx hn hb fun v' w' h1 h2 => ?_
  obtain ⟨A, c, rfl, hB, _⟩ := Byt.of_own h1 hr
  exact h A c w' h1 hB h2

theorem own_below {w w' : World} {base e size n : Nat} {v : Value} {xs : List Value} (h : w.ownsRow base e size v n xs) (hb : Below w.heap.size w w') : w'.ownsRow base e size v n xs :=
  h.kept (row := none) ⟨hb.os, hb.tape, hb.output, hb.size, fun i hi _ => hb.block i hi⟩ (by
    rcases h.2 with ⟨rfl, _⟩ | ⟨g, cap, cur, rfl, _⟩
    · exact .inl rfl
    · exact .inr (by simp [Value.ownBlock]))

def numB (l : List Int) : Int := l.foldl (fun n x => n * 2 + x % 2) 0
theorem numB_snoc (l : List Int) (x : Int) : numB (l ++ [x]) = numB l * 2 + x % 2 := by simp [numB, List.foldl_append]
theorem numB_bounds (l : List Int) : 0 ≤ numB l ∧ numB l < 2 ^ l.length := by
  refine snoc_cases (P := fun l => 0 ≤ numB l ∧ numB l < 2 ^ l.length) (by simp [numB]) ?_ l
  intro l x ⟨h1, h2⟩
  rw [numB_snoc, List.length_append]
  simp only [List.length_cons, List.length_nil, Nat.zero_add, Int.pow_succ]
  omega
theorem pow_le32 {j : Nat} (h : j ≤ 31) : (2 : Int) ^ j ≤ 2147483648 := by
  have : (2 : Nat) ^ j ≤ 2 ^ 31 := Nat.pow_le_pow_right (by omega) h
  have h2 : ((2 ^ j : Nat) : Int) ≤ ((2 ^ 31 : Nat) : Int) := by exact_mod_cast this
  simpa using h2
/-- A width that counts. -/
def clampW (w : Int) : Nat := (min (max w 0) 32).toNat
/-- The lowest bits of a number, the highest of these first. -/
def ofL (n : Int) (W : Nat) : List Int := (List.range W).map fun i => n / 2 ^ (W - 1 - i) % 2
theorem ofL_len (n : Int) (W : Nat) : (ofL n W).length = W := by simp [ofL]
theorem ofL_bits (n : Int) (W : Nat) : ∀ x ∈ ofL n W, x = 0 ∨ x = 1 := by
  intro x hx
  simp only [ofL, List.mem_map] at hx
  obtain ⟨i, _, rfl⟩ := hx
  omega
theorem ofL_range (n : Int) (W : Nat) : ∀ x ∈ ofL n W, 0 ≤ x ∧ x ≤ 255 := fun x hx => by have := ofL_bits n W x hx; omega
theorem ofL_getD (n : Int) {W j : Nat} (hj : j < W) : (ofL n W).getD j 0 = n / 2 ^ (W - 1 - j) % 2 := by
  simp [ofL, List.getD, hj]

theorem of_core (W : Nat) (hW : W ≤ 32) (n v : Int) (w : World) (hn : 0 ≤ n ∧ n ≤ 4294967295) (hv : clampW v = W) :
    Calls Try.prog 37 #[.int .u32 n, .int .i64 v] w fun e w' => ∃ A c, e = .returned (.slice A W c) ∧ Byt w' w'.heap.size A W c (ofL n W) ∧ Below w.heap.size w w' := by
  have hcase : (v < 0 ∧ W = 0) ∨ (0 ≤ v ∧ v ≤ 32 ∧ v = W) ∨ (32 < v ∧ W = 32) := by
    unfold clampW at hv
    omega
  obtain ⟨n0, n1⟩ := hn
  clear hv
  rcases hcase with ⟨h1, rfl⟩ | ⟨h1, h2, rfl⟩ | ⟨h1, rfl⟩
  · have hmk : ∀ w : World, (Instr.makeSlice 25 (.int .i64 0) (.int .i64 0)).run Try.prog w = .ok (.slice (some ⟨w.heap.size, 0, none⟩) 0 0) (w.alloc (.cells (madeCells #[.int .u8 0] 0) 5)) := make_row 0 (by omega)
    go_enter Try.func37, Try.ntmps37
    go_wp2_with fail
    refine wp_loop_rounds 1 ?_
    rw [rounds_succ]
    go_wp2
    go_ret
    exact ⟨_, _, rfl, ⟨rfl, Nat.le_refl _, by simp [maxLen], ofL_range n 0, fun h => absurd h (by omega)⟩, (Below.refl _ _).alloc (Nat.le_refl _) _⟩
  · have hmk := make_row W (by omega)
    go_enter Try.func37, Try.ntmps37
    go_wp2_with fail
    go_loopw [13] (fun i wr => ∃ j : Nat, j ≤ W ∧ i = .int .i64 j ∧ wr.rowIs w.heap.size 5 W (upto (ofL n W) j) ∧ Below w.heap.size w wr) (fun i _ => W - (intOf i).toNat)
    case atStart => exact ⟨0, Nat.zero_le _, rfl, upto_zero _, (Below.refl _ _).alloc (Nat.le_refl _) _⟩
    case round =>
      obtain ⟨j, hj, rfl, hrow, hbel⟩ := hrel
      by_cases hlt : j < W
      · have hget := ofL_getD n hlt
        have hgc := hrow.cell hlt
        have hgf := hrow.frozen j
        have hsh : ((W : Int) - 1 - (j : Int)).toNat = W - 1 - j := by omega
        have hmin : min (W - 1 - j) 32 = W - 1 - j := by omega
        have hle : (j : Int) ≤ (W : Int) - 1 := by omega
        have HG := Lib.hid hget
        clear hget
        go_wp2_with (go_at_call 24; refine (low_any _ _ (by omega) (by omega)).mono ?_; rintro e w1 ⟨rfl, rfl⟩)
        go_roundw
        case rel => exact ⟨j + 1, by omega, by go_num, upto_step hrow (by rw [HG.out]), hbel.setCell (Nat.le_refl _) _⟩
        case measure => simp [intOf]; omega
      · obtain rfl : j = W := by omega
        have hrow2 := upto_done hrow
        clear hrow
        go_wp2
        go_ret
        exact ⟨_, _, rfl, Byt.of_row hrow2 (ofL_len n _) (by simp only [maxLen]; omega) (ofL_range n _), hbel⟩
  · have hmk : ∀ w : World, (Instr.makeSlice 25 (.int .i64 32) (.int .i64 32)).run Try.prog w = .ok (.slice (some ⟨w.heap.size, 0, none⟩) 32 32) (w.alloc (.cells (madeCells #[.int .u8 0] 32) 5)) := make_row 32 (by omega)
    go_enter Try.func37, Try.ntmps37
    go_wp2_with fail
    go_loopw [13] (fun i wr => ∃ j : Nat, j ≤ 32 ∧ i = .int .i64 j ∧ wr.rowIs w.heap.size 5 32 (upto (ofL n 32) j) ∧ Below w.heap.size w wr) (fun i _ => 32 - (intOf i).toNat)
    case atStart => exact ⟨0, Nat.zero_le _, rfl, upto_zero _, (Below.refl _ _).alloc (Nat.le_refl _) _⟩
    case round =>
      obtain ⟨j, hj, rfl, hrow, hbel⟩ := hrel
      by_cases hlt : j < 32
      · have hget := ofL_getD n hlt
        have hgc := hrow.cell hlt
        have hgf := hrow.frozen j
        have hsh : (32 - 1 - (j : Int)).toNat = 32 - 1 - j := by omega
        have hmin : min (32 - 1 - j) 32 = 32 - 1 - j := by omega
        have hle : (j : Int) ≤ 32 - 1 := by omega
        have HG := Lib.hid hget
        clear hget
        go_wp2_with (go_at_call 24; refine (low_any _ _ (by omega) (by omega)).mono ?_; rintro e w1 ⟨rfl, rfl⟩)
        go_roundw
        case rel => exact ⟨j + 1, by omega, by go_num, upto_step hrow (by rw [HG.out]), hbel.setCell (Nat.le_refl _) _⟩
        case measure => simp [intOf]; omega
      · obtain rfl : j = 32 := by omega
        have hrow2 := upto_done hrow
        clear hrow
        go_wp2
        go_ret
        exact ⟨_, _, rfl, Byt.of_row hrow2 (ofL_len n _) (by simp only [maxLen]; omega) (ofL_range n _), hbel⟩

theorem clamp_le (v : Int) : clampW v ≤ 32 := by unfold clampW; omega
theorem of_any (n v : Int) (w : World) (hn : 0 ≤ n ∧ n ≤ 4294967295) :
    Calls Try.prog 37 #[.int .u32 n, .int .i64 v] w fun e w' => ∃ A c, e = .returned (.slice A (clampW v) c) ∧ Byt w' w'.heap.size A (clampW v) c (ofL n (clampW v)) ∧ Below w.heap.size w w' :=
  of_core (clampW v) (clamp_le v) n v w hn rfl

theorem power_core (k : Nat) : ∀ (a : Int) (w : World), a ≤ k → 0 ≤ a → a ≤ 31 → Calls Try.prog 39 #[.int .i64 a] w fun e w' => e = .returned (.int .u32 (2 ^ a.toNat)) ∧ w = w' := by
  induction k with
  | zero =>
    intro a w h1 h2 _
    obtain rfl : a = 0 := by omega
    go_enter Try.func39, Try.ntmps39
    go_wp2_with fail
    go_ret
    exact ⟨rfl, rfl⟩
  | succ k ih =>
    intro a w h1 h2 h3
    by_cases h0 : a < 1
    · obtain rfl : a = 0 := by omega
      go_enter Try.func39, Try.ntmps39
      go_wp2_with fail
      go_ret
      exact ⟨rfl, rfl⟩
    · obtain ⟨m, hm⟩ : ∃ m : Nat, a.toNat = m + 1 := ⟨a.toNat - 1, by omega⟩
      have h4 : (2 : Int) ^ a.toNat = 2 * 2 ^ m := by rw [hm, Int.pow_succ]; omega
      have h5 := ih (a - 1) w (by omega) (by omega) (by omega)
      rw [show (a - 1).toNat = m by omega] at h5
      have hp : (2 : Int) ^ m ≤ 1073741824 := by
        have h6 : (2 : Nat) ^ m ≤ 2 ^ 30 := Nat.pow_le_pow_right (by omega) (by omega)
        have h7 : ((2 ^ m : Nat) : Int) ≤ ((2 ^ 30 : Nat) : Int) := by exact_mod_cast h6
        simpa using h7
      have hp0 : (0 : Int) < 2 ^ m := Int.pow_pos (by omega)
      rw [h4]
      generalize (2 : Int) ^ m = p at h5 hp hp0
      have H5 := Lib.hid h5
      clear h5 h4 hm ih
      go_enter Try.func39, Try.ntmps39
      go_wp2_with fail
      refine H5.out.mono ?_
      rintro e w1 ⟨rfl, rfl⟩
      go_wp2
      go_ret
      exact ⟨rfl, rfl⟩
theorem power_any (a : Int) (w : World) (h0 : 0 ≤ a) (h1 : a ≤ 31) : Calls Try.prog 39 #[.int .i64 a] w fun e w' => e = .returned (.int .u32 (2 ^ a.toNat)) ∧ w = w' :=
  power_core a.toNat a w (by omega) h0 h1

/-- The bits that stand ahead of the powers from k on. -/
def ofU (n : Int) (W k : Nat) : List Int := (List.range (W - k)).map fun i => n / 2 ^ (W - 1 - i) % 2
theorem ofU_zero (n : Int) (W : Nat) : ofU n W 0 = ofL n W := rfl
theorem ofU_top (n : Int) {W k : Nat} (h : W ≤ k) : ofU n W k = [] := by simp [ofU, show W - k = 0 by omega]
theorem ofU_same (n : Int) {W k : Nat} (h : W ≤ k) : ofU n W k = ofU n W (k + 1) := by rw [ofU_top n h, ofU_top n (by omega)]
theorem ofU_step (n : Int) {W k : Nat} (h : k < W) : ofU n W k = ofU n W (k + 1) ++ [n / 2 ^ k % 2] := by
  unfold ofU
  rw [show W - k = (W - (k + 1)) + 1 by omega, List.range_succ, List.map_append]
  simp only [List.map_cons, List.map_nil]
  rw [show W - 1 - (W - (k + 1)) = k by omega]
theorem ofU_len (n : Int) (W k : Nat) : (ofU n W k).length = W - k := by simp [ofU]

theorem rof_any (n v : Int) (w : World) (hn : 0 ≤ n ∧ n ≤ 4294967295) :
    Calls Try.prog 30 #[.int .u32 n, .int .i64 v] w fun e w' => ∃ A c, e = .returned (.slice A (clampW v) c) ∧ Byt w' w'.heap.size A (clampW v) c (ofL n (clampW v)) ∧ Below w.heap.size w w' := by
  obtain ⟨W, hW⟩ : ∃ W, clampW v = W := ⟨_, rfl⟩
  have hW32 : W ≤ 32 := by rw [← hW]; exact clamp_le v
  have hvW : ∀ k : Nat, k ≤ 31 → ((k : Int) < v ↔ k < W) := fun k hk => by
    have h := hW
    unfold clampW at h
    omega
  rw [hW]
  obtain ⟨n0, n1⟩ := hn
  have HV := Lib.hid hvW
  clear hvW hW
  go_enter Try.func30, Try.ntmps30
  go_wp2_with fail
  go_loopw [6, 5] (fun i v wr => ∃ k : Nat, k ≤ 32 ∧ i = .int .i64 ((k : Int) - 1) ∧ wr.ownsRow w.heap.size 5 1 v (W - k) ((ofU n W k).map (Value.int .u8)) ∧ Below w.heap.size w wr) (fun i _ _ => (intOf i + 1).toNat)
  case atStart => exact ⟨32, by omega, rfl, by rw [ofU_top n hW32, show W - 32 = 0 by omega]; exact World.ownsRow_lit w #[] 0 (Nat.le_refl _) (by simp [maxLen]) rfl, (Below.refl _ _).alloc (Nat.le_refl _) _⟩
  case round =>
    obtain ⟨k1, hk, rfl, hown, hbel⟩ := hrel
    rcases Nat.eq_zero_or_pos k1 with h0 | h0
    · subst h0
      go_wp2_with fail
      go_ret
      rw [ofU_zero] at hown
      obtain ⟨A', c', rfl, hB, _⟩ := Byt.of_own hown (ofL_range n W)
      exact ⟨_, _, rfl, hB, hbel⟩
    · obtain ⟨k, rfl⟩ : ∃ k, k1 = k + 1 := ⟨k1 - 1, by omega⟩
      have e1 : (((k + 1 : Nat) : Int) - 1) = (k : Int) := by omega
      rw [e1]
      have hiff := HV.out k (by omega)
      have hdiv : 0 ≤ n / 2 ^ k := Int.ediv_nonneg n0 (Int.le_of_lt (Int.pow_pos (by omega)))
      have hdiv2 : n / 2 ^ k ≤ n := Int.ediv_le_self _ n0
      have hpos : (0 : Int) < 2 ^ k := Int.pow_pos (by omega)
      have hpw := fun w => power_any (k : Int) w (by omega) (by omega)
      rw [Int.toNat_natCast] at hpw
      by_cases hkv : (k : Int) < v
      · have hstep := ofU_step n (hiff.1 hkv)
        have hlen : W - k = W - (k + 1) + 1 := by have := hiff.1 hkv; omega
        have hW1 : W - (k + 1) + 1 ≤ 32 := by omega
        generalize (2 : Int) ^ k = p at hdiv hdiv2 hpos hpw hstep
        generalize W - (k + 1) = m at hown hlen hW1
        have HPW := Lib.hid hpw
        have HS := Lib.hid hstep
        have HL := Lib.hid hlen
        have hp1 : (p == 0) = false := by simp; omega
        clear hpw hstep hlen hiff e1
        go_wp2_with (first | (go_at_call 39; refine (HPW.out _).mono ?_; rintro e w1 ⟨rfl, rfl⟩) | (at_builtin; refine wpList_byte rfl (.tmp 15) (.tmp 22) rfl Try.underlying25 byte_info rfl hown rfl (by omega) hbel.size ?_; intro v' w' hown' hbel'))
        go_roundw
        case rel => exact ⟨k, by omega, rfl, by rw [HL.out, HS.out]; exact hown', hbel.trans hbel'⟩
        case measure => simp [intOf]
      · have hge : W ≤ k := Nat.le_of_not_lt (fun h => hkv (hiff.2 h))
        have hsame := ofU_same n hge
        have hlen : W - k = W - (k + 1) := by omega
        have HS := Lib.hid hsame
        have HL := Lib.hid hlen
        clear hpw hsame hlen hiff e1 hdiv hdiv2 hpos
        go_wp2_with fail
        go_roundw
        case rel => exact ⟨k, by omega, rfl, by rw [HL.out, HS.out]; exact hown, hbel⟩
        case measure => simp [intOf]

/-- The number of the first j bits, the rest of the places empty. -/
def numU (l : List Int) (L j : Nat) : Int := numB (l.take j) * 2 ^ (L - j)
theorem numU_bounds {l : List Int} {L j : Nat} (hl : l.length = L) (hL : L ≤ 32) (hj : j ≤ L) : 0 ≤ numU l L j ∧ numU l L j ≤ 4294967295 := by
  have hb := numB_bounds (l.take j)
  rw [List.length_take, hl, Nat.min_eq_left hj] at hb
  have hp : (0 : Int) < 2 ^ (L - j) := Int.pow_pos (by omega)
  have e : (2 : Int) ^ j * 2 ^ (L - j) = 2 ^ L := by rw [← Int.pow_add, show j + (L - j) = L by omega]
  have h32 : (2 : Int) ^ L ≤ 4294967296 := by
    have h6 : (2 : Nat) ^ L ≤ 2 ^ 32 := Nat.pow_le_pow_right (by omega) hL
    have h7 : ((2 ^ L : Nat) : Int) ≤ ((2 ^ 32 : Nat) : Int) := by exact_mod_cast h6
    simpa using h7
  unfold numU
  have h1 : numB (l.take j) * 2 ^ (L - j) < 2 ^ j * 2 ^ (L - j) := Int.mul_lt_mul_of_pos_right hb.2 hp
  exact ⟨Int.mul_nonneg hb.1 (Int.le_of_lt hp), by omega⟩
theorem numU_step {l : List Int} {L j : Nat} (hl : l.length = L) (hj : j < L) : numU l L (j + 1) = numU l L j + l.getD j 0 % 2 * 2 ^ (L - 1 - j) := by
  unfold numU
  rw [take_succ_getD (by omega), numB_snoc]
  have e : L - j = (L - 1 - j) + 1 := by omega
  have e2 : L - (j + 1) = L - 1 - j := by omega
  rw [e2, e, Int.pow_succ, Int.add_mul, Int.mul_assoc, Int.mul_comm 2]
theorem numU_end {l : List Int} {L : Nat} (hl : l.length = L) : numU l L L = numB l := by
  unfold numU
  rw [List.take_of_length_le (by omega), Nat.sub_self]; simp

theorem rnum_any (w : World) (A : Option Addr) (n c : Nat) (l : List Int) (h : Byt w w.heap.size A n c l) (hn : n ≤ 32) :
    Calls Try.prog 54 #[.slice A n c] w fun e w' => e = .returned (.int .u32 (numB l)) ∧ Below w.heap.size w w' := by
  have hl := h.len
  have HL := Lib.hid hl
  clear hl
  go_enter Try.func54, Try.ntmps54
  go_wp2_with fail
  go_loopw [3, 4] (fun v i wr => ∃ j : Nat, j ≤ n ∧ i = .int .i64 j ∧ v = .int .u32 (numU l n j) ∧ Byt wr wr.heap.size A n c l ∧ Below w.heap.size w wr) (fun _ i _ => n - (intOf i).toNat)
  case atStart => exact ⟨0, Nat.zero_le _, rfl, by simp [numU, numB], h, Below.refl _ _⟩
  case round =>
    obtain ⟨j, hj, rfl, rfl, hB, hbel⟩ := hrel
    by_cases hlt : j < n
    · obtain ⟨b, off, rfl, hb, hc⟩ := hB.cells (by omega)
      have hrange := hB.range j
      have hcj := hc j hlt
      have hstep := numU_step HL.out hlt
      have hbd := numU_bounds HL.out hn (Nat.le_of_lt hlt)
      have hbd2 := numU_bounds HL.out hn (show j + 1 ≤ n from hlt)
      rw [hstep] at hbd2
      have hpw := fun w => power_any ((n : Int) - 1 - (j : Int)) w (by omega) (by omega)
      rw [show ((n : Int) - 1 - (j : Int)).toNat = n - 1 - j by omega] at hpw
      have hp0 : (0 : Int) < 2 ^ (n - 1 - j) := Int.pow_pos (by omega)
      generalize l.getD j 0 = q at hrange hcj hstep hbd2
      generalize (2 : Int) ^ (n - 1 - j) = p at hpw hstep hbd2 hp0
      generalize numU l n j = N at hstep hbd hbd2
      have hm1 : 0 ≤ q % 2 * p := Int.mul_nonneg (by omega) (by omega)
      have hm2 : q % 2 * p ≤ 4294967295 := by omega
      have HPW := Lib.hid hpw
      have HS := Lib.hid hstep
      have HB := Lib.hid hB
      obtain ⟨hq0, hq1⟩ := hrange
      obtain ⟨hN0, hN1⟩ := hbd
      obtain ⟨hM0, hM1⟩ := hbd2
      have g1 : IntKind.i64.wrap ((n : Int) - 1) = (n : Int) - 1 := IntWalk.i64_in _ (by omega)
      have g2 : IntKind.i64.wrap ((n : Int) - 1 - (j : Int)) = (n : Int) - 1 - (j : Int) := IntWalk.i64_in _ (by omega)
      have g3 : q.tmod 2 = q % 2 := Int.tmod_eq_emod_of_nonneg hq0
      have g4 : IntKind.u32.wrap (q % 2) = q % 2 := IntWalk.u32_in _ (by omega)
      have g5 : IntKind.u32.wrap (q % 2 * p) = q % 2 * p := IntWalk.u32_in _ (by omega)
      have g6 : IntKind.u32.wrap (N + q % 2 * p) = N + q % 2 * p := IntWalk.u32_in _ (by omega)
      clear hpw hstep hc h hB
      go_wp2_with fail
      go_quiet ((go_at_call 39; exact Calls.quiet_of_same ((HPW.out _).mono fun e w' h => ⟨h.1, h.2.symm⟩)))
      clear g1 g2 g3 g4 g5 g6
      go_wp2
      go_roundw
      case rel => exact ⟨j + 1, by omega, by go_num, by rw [HS.out], HB.out.drewN _, below_drewN hbel _⟩
      case measure => simp [intOf]; omega
    · obtain rfl : j = n := by omega
      rw [numU_end HL.out]
      clear h hB
      go_wp2
      go_ret
      exact ⟨rfl, hbel⟩
/-- How often a place stands there. -/
def cnt (at_ : List Int) (i : Nat) : Nat := (at_.filter fun x => x == (i : Int)).length
theorem cnt_snoc (a : List Int) (x : Int) (i : Nat) : cnt (a ++ [x]) i = cnt a i + if x = (i : Int) then 1 else 0 := by
  unfold cnt
  rw [List.filter_append, List.length_append]
  by_cases h : x = (i : Int)
  · simp [h]
  · simp [h]
theorem cnt_le (a : List Int) (i : Nat) : cnt a i ≤ a.length := List.length_filter_le _ _
/-- A bit that is turned so often. -/
def tb (l at_ : List Int) (i : Nat) : Int := (l.getD i 0 + (cnt at_ i : Int)) % 2
theorem tb_snoc_eq (l a : List Int) (i : Nat) : tb l (a ++ [(i : Int)]) i = 1 - tb l a i := by
  unfold tb; rw [cnt_snoc, if_pos rfl]; omega
theorem tb_snoc_ne (l a : List Int) {x : Int} {i : Nat} (h : ¬ x = (i : Int)) : tb l (a ++ [x]) i = tb l a i := by
  unfold tb; rw [cnt_snoc, if_neg h]; simp
theorem tb_range (l a : List Int) (i : Nat) : 0 ≤ tb l a i ∧ tb l a i ≤ 1 := by unfold tb; omega
def tL (l at_ : List Int) : List Int := (List.range l.length).map (tb l at_)
theorem tL_len (l a : List Int) : (tL l a).length = l.length := by simp [tL]
theorem tL_getD (l a : List Int) {i : Nat} (h : i < l.length) : (tL l a).getD i 0 = tb l a i := by simp [tL, List.getD, h]
theorem tL_range (l a : List Int) : ∀ x ∈ tL l a, 0 ≤ x ∧ x ≤ 255 := by
  intro x hx
  simp only [tL, List.mem_map] at hx
  obtain ⟨i, _, rfl⟩ := hx
  have := tb_range l a i
  omega

end Go.Proofs.Ytkgnhmddnfmhjaa