/- Words that the proofs of this seat share: a slice of bytes that reads as a list of numbers; nothing of the program is named here. -/
import Derived.WalkKit
import Derived.ProofKit
import Derived.OpenShut
import Derived.Below
import Derived.Handy
import Derived.OwnWalk
import Derived.Laws.OwnMore
import Derived.Laws.BytesArg
import Derived.Lib.Hide
import Derived.Outline
import Derived.WalkLawsBesides
import Derived.WalkSpells
import Derived.Deep.LoopGhost
import Derived.Deep.QuietTactic
import Derived.BigQuiet
import Derived.Deep.OwnRows
import Derived.Laws.BitsLemmas
import Derived.Laws.BitsAllLaws
import Derived.RangeFuncNested
import Derived.RangeFuncBound
import Derived.RangeFuncCalls
import Derived.RangeFuncLeaves
import Derived.RangeFuncWrites
import Derived.RangeFuncBox
import Derived.ArgAppend
import Derived.Lib.SliceRun
import Derived.Laws.IdiomCopy
import Derived.Laws.Externs
import Derived.Lib.AppendZerosOnto
import Derived.Lib.Overlaps
import Derived.Maps.AppendAt
import Derived.Shelf.Spec.SlicesInsert
namespace Go.Proofs.Ytoamgdcjmkkmfaa
open Go.RowKit
set_option linter.unusedSimpArgs false
set_option linter.unusedVariables false
theorem bcell {W w1 : World} (hb : Below W.heap.size W w1) : (∀ b o, b < W.heap.size → w1.cell? ⟨b, o, none⟩ = W.cell? ⟨b, o, none⟩) ∧ (∀ b o, b < W.heap.size → w1.frozen? ⟨b, o, none⟩ = W.frozen? ⟨b, o, none⟩) :=
  ⟨fun b o h => hb.cell (p := ⟨b, o, none⟩) h, fun b o h => hb.frozen (p := ⟨b, o, none⟩) h⟩

theorem below_trans' {a b c : World} (h : Below a.heap.size a b) (k : Below b.heap.size b c) : Below a.heap.size a c := h.trans (k.mono h.size)

theorem below_drewN {B : Nat} {a w : World} (h : Below B a w) (n : Nat) : Below B a (w.drewN n) := ⟨h.os, h.tape, h.output, h.size, h.block⟩

theorem ret_int {k : IntKind} {a b : Int} (h : a = b) : Ending.returned (.int k a) = .returned (.int k b) := by rw [h]
theorem ret_bool {a b : Bool} (h : a = b) : Ending.returned (.bool a) = .returned (.bool b) := by rw [h]

/-- The slice '.slice A n c' reads as the numbers l, each a byte, in a block below B. -/
structure Byt (w : World) (B : Nat) (A : Option Addr) (n c : Nat) (l : List Int) : Prop where
  len : l.length = n
  cap : n ≤ c
  max : c ≤ maxLen
  rng : ∀ x ∈ l, 0 ≤ x ∧ x ≤ 255
  cells : 0 < n → ∃ b off, A = some ⟨b, off, none⟩ ∧ b < B ∧ ∀ j, j < n → w.cell? ⟨b, off + j, none⟩ = some (.int .u8 (l.getD j 0))

section
variable {w w' : World} {B B' n c : Nat} {A : Option Addr} {l : List Int}
theorem Byt.keep (h : Byt w B A n c l) (hk : ∀ b o, b < B → w'.cell? ⟨b, o, none⟩ = w.cell? ⟨b, o, none⟩) : Byt w' B A n c l :=
  ⟨h.len, h.cap, h.max, h.rng, fun hn => by
    obtain ⟨b, off, e, hb, hc⟩ := h.cells hn
    exact ⟨b, off, e, hb, fun j hj => (hk b _ hb).trans (hc j hj)⟩⟩
theorem Byt.more (h : Byt w B A n c l) (hB : B ≤ B') : Byt w B' A n c l :=
  ⟨h.len, h.cap, h.max, h.rng, fun hn => by
    obtain ⟨b, off, e, hb, hc⟩ := h.cells hn
    exact ⟨b, off, e, by omega, hc⟩⟩
theorem Byt.below (h : Byt w B A n c l) (hb : Below B w w') : Byt w' B A n c l := h.keep fun b o hlt => hb.cell (p := ⟨b, o, none⟩) hlt
theorem Byt.step (h : Byt w w.heap.size A n c l) (hb : Below w.heap.size w w') : Byt w' w'.heap.size A n c l := (h.below hb).more hb.size
theorem Byt.drewN (h : Byt w B A n c l) (k : Nat) : Byt (w.drewN k) B A n c l := ⟨h.len, h.cap, h.max, h.rng, h.cells⟩
theorem Byt.nil_ (w : World) (B : Nat) : Byt w B none 0 0 [] := ⟨rfl, Nat.le_refl _, by simp [maxLen], by simp, fun h => absurd h (by omega)⟩
theorem Byt.range (h : Byt w B A n c l) (j : Nat) : 0 ≤ l.getD j 0 ∧ l.getD j 0 ≤ 255 := by
  by_cases hj : j < l.length
  · have := h.rng l[j] (List.getElem_mem hj)
    simp [List.getD, List.getElem?_eq_getElem hj]
    exact this
  · simp [List.getD, List.getElem?_eq_none (Nat.le_of_not_lt hj)]
theorem Byt.of_own {e : TypeId} {base : Nat} {v : Value} (h : w.ownsRow base e 1 v n (l.map (Value.int .u8))) (hr : ∀ x ∈ l, 0 ≤ x ∧ x ≤ 255) :
    ∃ A c, v = .slice A n c ∧ Byt w w.heap.size A n c l ∧ ((A = none ∧ c = 0) ∨ ∃ g, A = some ⟨g, 0, none⟩ ∧ base ≤ g) := by
  have hlen : l.length = n := by have := h.1; simpa using this
  rcases h.2 with ⟨rfl, h0⟩ | ⟨g, cap, cur, rfl, hb, hg, hnc, hm, hs, ht⟩
  · subst h0
    obtain rfl := List.eq_nil_of_length_eq_zero hlen
    exact ⟨none, 0, rfl, Byt.nil_ _ _, .inl ⟨rfl, rfl⟩⟩
  · refine ⟨some ⟨g, 0, none⟩, cap, rfl, ⟨hlen, hnc, hm, hr, fun _ => ⟨g, 0, rfl, (Array.getElem?_eq_some_iff.1 hg).1, fun j hj => ?_⟩⟩, .inr ⟨g, rfl, hb⟩⟩
    have := World.ownsRow.cellAt h j (by omega)
    rw [Nat.zero_add, this, List.getElem?_map, List.getElem?_eq_getElem (by omega)]
    simp [List.getD, List.getElem?_eq_getElem (show j < l.length by omega)]
/-- A block that was made just now, its numbers written out. -/
theorem Byt.new (w : World) (t : TypeId) (l : List Int) (hr : ∀ x ∈ l, 0 ≤ x ∧ x ≤ 255) (hm : l.length ≤ maxLen) :
    Byt (w.alloc (.cells (l.map (Value.int .u8)).toArray t)) (w.heap.size + 1) (some ⟨w.heap.size, 0, none⟩) l.length l.length l :=
  ⟨rfl, Nat.le_refl _, hm, hr, fun _ => ⟨w.heap.size, 0, rfl, by omega, fun j hj => by
    rw [cell_of_row _ _ _ _ t (0, 0) (heap_alloc_new w _)]
    simp [List.getD, hj]⟩⟩
end
/-- An argument's slice of bytes, as the reading opens it. -/
theorem byt_of_row {W : World} {x : Addr} {len cap : Nat} {zs : List Int} (hl : len ≤ cap) (hm : cap ≤ maxLen) (hz : zs.length = cap) (hcell : ∀ i, i < zs.length → W.cell? (x.add i) = some (.int .u8 (zs.getD i 0)))
    (hwz : ∀ n ∈ zs, (Lit.int .u8 n).wf = true) : Byt W W.heap.size (some x) len cap (zs.take len) := by
  refine ⟨by rw [List.length_take]; omega, hl, hm, fun n hn => ?_, fun h0 => ?_⟩
  · have := bounds_u8 (hwz n (List.mem_of_mem_take hn)); omega
  · obtain ⟨b, off, spot⟩ := x
    have h1 := hcell 0 (by omega)
    have hspot : spot = none := by simpa [Addr.add] using World.cell?_spot h1
    subst hspot
    refine ⟨b, off, rfl, ?_, fun j hj => ?_⟩
    · have h2 := block_lt_of_cell h1
      simpa [Addr.add] using h2
    · have h3 := hcell j (by omega)
      have hplain : (⟨b, off, none⟩ : Addr).add j = ⟨b, off + j, none⟩ := by unfold Addr.add; split <;> simp_all
      rw [hplain] at h3
      rw [h3]
      simp [List.getD, hj]

/-! ### One byte is appended to a row of the call's own -/
theorem wpList_byte {P : Program} {wr : World} {ops : Array Oper} {rest : List Oper} {o : Oper} {a : Act} {Q : Exit → Act → World → Prop} {base t e n : Nat} {q : Int} {l : List Int} {v : Value} (hgd : o.guard = none) (s x : Operand)
    (ho : o.op = .call { callee := .builtin .append, args := #[s, x], argTypes := #[t, t] }) (ht : P.underlying t = some (.slice e))
    (hinfo : (P.info? e).map (fun i => (i.zero, i.size, i.bytes)) = some (some (.int .u8 0), 1, 1)) (hs : a.eval s = v) (hown : wr.ownsRow base e 1 v n (l.map (Value.int .u8)))
    (hx : a.eval x = .slice (some ⟨wr.heap.size, 0, none⟩) 1 1) (hn : n + 1 ≤ 140737488355328) (hb : base ≤ wr.heap.size)
    (h : ∀ v' w', w'.ownsRow base e 1 v' (n + 1) ((l ++ [q]).map (Value.int .u8)) → Below base wr w' → wpList P ops Q rest (a.put o.dst v') w') :
    wpList P ops Q (o :: rest) a (wr.alloc (.cells #[.int .u8 q] e)) := by
  obtain ⟨i0, hi, hz0, hz1, hz2⟩ := info_parts hinfo
  refine wpList_append_own _ hgd s x t ho base e i0 (.int .u8 0) 1 1 ht hi hz0 hz1 hz2 rfl (by omega) v n (l.map (Value.int .u8)) hs (hown.alloc _) ⟨wr.heap.size, 0, none⟩ 1 1 [.int .u8 q] hx rfl ?_ (by simp [Value.oneCell']) (by simp only [maxLen]; omega) (by omega) (by simp; omega) ?_
  · intro j u hu
    have : j = 0 := by
      rcases Nat.eq_zero_or_pos j with h0 | h0
      · exact h0
      · rw [List.getElem?_eq_none (by simp; omega)] at hu; cases hu
    subst this
    simp only [List.getElem?_cons_zero, Option.some.injEq] at hu
    subst hu
    show (wr.alloc _).cell? ⟨wr.heap.size, 0, none⟩ = _
    rw [cell_of_row _ _ _ _ e (0, 0) (heap_alloc_new wr _)]; rfl
  · intro v' w' h1 h2 _
    exact h v' w' (by simpa using h1) (((Below.refl _ wr).alloc hb _).grown h2 (by simp; omega) fun k hk => (hown.lt k hk).1)

/-! ### Bytes as a text, and back -/
theorem run_str_nil {P : Program} (w : World) (src e : TypeId) (hs : P.underlying src = some (.slice e)) (he : P.underlying e = some (.int .u8)) (A : Option Addr) (c : Nat) :
    ∀ dst, P.underlying dst = some .string → (convert src dst (.slice A 0 c)).run P w = .ok (.string ByteArray.empty) w := by
  intro dst hd
  cases A with
  | none => exact run_convert_bytes_nil w src e hs he 0 c dst hd
  | some a =>
    rw [run_convert_bytes_string w src dst e _ 0 c hs he hd, run_bytesToString w _ 0 c [] (by simpa using run_loadCells_list (P := P) w a [] (by simp))]
    rfl

theorem run_str {P : Program} {w : World} {B n c : Nat} {A : Option Addr} {l : List Int} (src e : TypeId) (hs : P.underlying src = some (.slice e)) (he : P.underlying e = some (.int .u8)) (h : Byt w B A n c l) :
    ∀ dst, P.underlying dst = some .string → (convert src dst (.slice A n c)).run P w = .ok (.string (strOfNums l)) w := by
  intro dst hd
  rcases Nat.eq_zero_or_pos n with h0 | h0
  · subst h0
    obtain rfl := List.eq_nil_of_length_eq_zero h.len
    rw [run_str_nil w src e hs he A c dst hd]
    rfl
  · obtain ⟨b, off, rfl, _, hc⟩ := h.cells h0
    exact run_convert_bytes_arg w src e hs he b off n c l h.len hc dst hd

theorem ofNat_inj {a b : Int} (ha : 0 ≤ a ∧ a ≤ 255) (hb : 0 ≤ b ∧ b ≤ 255) (h : UInt8.ofNat a.toNat = UInt8.ofNat b.toNat) : a = b := by
  have := congrArg UInt8.toNat h
  simp at this
  omega

theorem nums_inj : ∀ {l m : List Int}, (∀ x ∈ l, 0 ≤ x ∧ x ≤ 255) → (∀ x ∈ m, 0 ≤ x ∧ x ≤ 255) → (l.map fun n => UInt8.ofNat n.toNat) = (m.map fun n => UInt8.ofNat n.toNat) → l = m
  | [], [], _, _, _ => rfl
  | [], _ :: _, _, _, h => by simp at h
  | _ :: _, [], _, _, h => by simp at h
  | a :: l, b :: m, hl, hm, h => by
    simp only [List.map_cons, List.cons.injEq] at h
    rw [ofNat_inj (hl a (by simp)) (hm b (by simp)) h.1, nums_inj (fun x hx => hl x (by simp [hx])) (fun x hx => hm x (by simp [hx])) h.2]

/-- Two lists of bytes as texts are equal just if the lists are. -/
theorem str_eq {l m : List Int} (hl : ∀ x ∈ l, 0 ≤ x ∧ x ≤ 255) (hm : ∀ x ∈ m, 0 ≤ x ∧ x ≤ 255) : ((strOfNums l).toList == (strOfNums m).toList) = decide (l = m) := by
  rw [ByteArray.toList_eq, ByteArray.toList_eq, strOfNums_data, strOfNums_data]
  by_cases h : l = m
  · subst h; simp
  · have : ¬ (l.map fun n => UInt8.ofNat n.toNat) = (m.map fun n => UInt8.ofNat n.toNat) := fun e => h (nums_inj hl hm e)
    simp only [h, decide_false, beq_eq_false_iff_ne, ne_eq]
    exact this
end Go.Proofs.Ytoamgdcjmkkmfaa
namespace Go.Proofs.Ytoamgdcjmkkmfaa
open Go.RowKit
set_option linter.unusedSimpArgs false
set_option linter.unusedVariables false
theorem and_one (x : Int) (h0 : 0 ≤ x) (h1 : x ≤ 255) : bits .and .u8 x 1 = x % 2 := bits_mask .u8 8 (by decide) wraps_u8 1 (by decide) x h0 (by omega)

theorem xor_flip_nat : ∀ n : Fin 256, (255 - n.val) ^^^ n.val = 255 := by decide +kernel
theorem xor_flip (x : Int) (h0 : 0 ≤ x) (h1 : x ≤ 255) : bits .xor .u8 (255 - x) x = 255 := by
  obtain ⟨n, rfl⟩ := Int.eq_ofNat_of_zero_le h0
  have h := xor_flip_nat ⟨n, by omega⟩
  have e : (255 : Int) - (n : Int) = ((255 - n : Nat) : Int) := by omega
  rw [e, u8_xor_nat _ _ (by omega) (by omega)]
  simp only at h
  rw [h]; rfl

/-- A row in a block of its own is a slice that reads so. -/
theorem Byt.of_row {w : World} {g : Nat} {t : TypeId} {n : Nat} {l : List Int} (h : w.rowIs g t n (fun j => .int .u8 (l.getD j 0))) (hl : l.length = n) (hm : n ≤ maxLen) (hr : ∀ x ∈ l, 0 ≤ x ∧ x ≤ 255) : Byt w w.heap.size (some ⟨g, 0, none⟩) n n l :=
  ⟨hl, Nat.le_refl _, hm, hr, fun _ => ⟨g, 0, rfl, h.lt, fun j hj => by rw [Nat.zero_add]; exact h.cell hj⟩⟩

/-- What a row holds whose first j places are filled from l, the rest not yet. -/
def upto (l : List Int) (j : Nat) (i : Nat) : Value := .int .u8 (if i < j then l.getD i 0 else 0)
theorem upto_zero {w : World} {n : Nat} {t : TypeId} (l : List Int) : (w.alloc (.cells (madeCells #[.int .u8 0] n) t)).rowIs w.heap.size t n (upto l 0) :=
  (World.rowIs_made w (.int .u8 0) n t).congr fun i _ => by simp [upto]
theorem upto_step {w : World} {g n j : Nat} {t : TypeId} {l : List Int} {q : Int} (h : w.rowIs g t n (upto l j)) (hq : q = l.getD j 0) : (w.setCell ⟨g, j, none⟩ (.int .u8 q)).rowIs g t n (upto l (j + 1)) :=
  (h.set j (.int .u8 q)).congr fun i _ => by
    unfold upto
    by_cases e : i = j
    · subst e; simp [hq]
    · rw [if_neg e]
      by_cases h1 : i < j
      · rw [if_pos h1, if_pos (by omega)]
      · rw [if_neg h1, if_neg (by omega)]
theorem upto_done {w : World} {g n : Nat} {t : TypeId} {l : List Int} (h : w.rowIs g t n (upto l n)) : w.rowIs g t n (fun j => .int .u8 (l.getD j 0)) :=
  h.congr fun i hi => by simp [upto, hi]

theorem getD_map {f : Int → Int} {l : List Int} {j : Nat} (hj : j < l.length) : (l.map f).getD j 0 = f (l.getD j 0) := by
  simp [List.getD, List.getElem?_map, List.getElem?_eq_getElem hj]
theorem take_succ_getD {l : List Int} {j : Nat} (hj : j < l.length) : l.take (j + 1) = l.take j ++ [l.getD j 0] := by
  rw [List.take_succ_eq_append_getElem hj]
  simp [List.getD, List.getElem?_eq_getElem hj]

end Go.Proofs.Ytoamgdcjmkkmfaa
namespace Go.Proofs.Ytoamgdcjmkkmfaa
open Go.RowKit
set_option linter.unusedSimpArgs false
set_option linter.unusedVariables false
/-- The slice '.slice A n c' of numbers reads as l, in a block below B. -/
structure Nums (w : World) (B : Nat) (A : Option Addr) (n c : Nat) (l : List Int) : Prop where
  len : l.length = n
  cap : n ≤ c
  max : c ≤ maxLen
  rng : ∀ x ∈ l, -9223372036854775808 ≤ x ∧ x ≤ 9223372036854775807
  cells : 0 < n → ∃ b off, A = some ⟨b, off, none⟩ ∧ b < B ∧ ∀ j, j < n → w.cell? ⟨b, off + j, none⟩ = some (.int .i64 (l.getD j 0))
section
variable {w w' : World} {B B' n c : Nat} {A : Option Addr} {l : List Int}
theorem Nums.keep (h : Nums w B A n c l) (hk : ∀ b o, b < B → w'.cell? ⟨b, o, none⟩ = w.cell? ⟨b, o, none⟩) : Nums w' B A n c l :=
  ⟨h.len, h.cap, h.max, h.rng, fun hn => by
    obtain ⟨b, off, e, hb, hc⟩ := h.cells hn
    exact ⟨b, off, e, hb, fun j hj => (hk b _ hb).trans (hc j hj)⟩⟩
theorem Nums.below (h : Nums w B A n c l) (hb : Below B w w') : Nums w' B A n c l := h.keep fun b o hlt => hb.cell (p := ⟨b, o, none⟩) hlt
theorem Nums.more (h : Nums w B A n c l) (hB : B ≤ B') : Nums w B' A n c l :=
  ⟨h.len, h.cap, h.max, h.rng, fun hn => by
    obtain ⟨b, off, e, hb, hc⟩ := h.cells hn
    exact ⟨b, off, e, by omega, hc⟩⟩
theorem Nums.step (h : Nums w w.heap.size A n c l) (hb : Below w.heap.size w w') : Nums w' w'.heap.size A n c l := (h.below hb).more hb.size
theorem Nums.nil_ (w : World) (B : Nat) : Nums w B none 0 0 [] := ⟨rfl, Nat.le_refl _, by simp [maxLen], by simp, fun h => absurd h (by omega)⟩
theorem Nums.range (h : Nums w B A n c l) (j : Nat) : -9223372036854775808 ≤ l.getD j 0 ∧ l.getD j 0 ≤ 9223372036854775807 := by
  by_cases hj : j < l.length
  · have := h.rng l[j] (List.getElem_mem hj)
    simp only [List.getD, List.getElem?_eq_getElem hj, Option.getD_some]
    exact this
  · simp [List.getD, List.getElem?_eq_none (Nat.le_of_not_lt hj)]
theorem Nums.take (h : Nums w B A n c l) {k : Nat} (hk : k ≤ n) : Nums w B A k c (l.take k) :=
  ⟨by rw [List.length_take, h.len]; omega, by have := h.cap; omega, h.max, fun x hx => h.rng x (List.mem_of_mem_take hx), fun h0 => by
    obtain ⟨b, off, e, hb, hc⟩ := h.cells (by omega)
    refine ⟨b, off, e, hb, fun j hj => ?_⟩
    rw [hc j (by omega)]
    simp [List.getD, hj]⟩
end
theorem nums_of_row {W : World} {x : Addr} {len cap : Nat} {zs : List Int} (hl : len ≤ cap) (hm : cap ≤ maxLen) (hz : zs.length = cap) (hcell : ∀ i, i < zs.length → W.cell? (x.add i) = some (.int .i64 (zs.getD i 0)))
    (hwz : ∀ n ∈ zs, (Lit.int .i64 n).wf = true) : Nums W W.heap.size (some x) len cap (zs.take len) := by
  refine ⟨by rw [List.length_take]; omega, hl, hm, fun n hn => ?_, fun h0 => ?_⟩
  · have := bounds_i64 (hwz n (List.mem_of_mem_take hn)); omega
  · obtain ⟨b, off, spot⟩ := x
    have h1 := hcell 0 (by omega)
    have hspot : spot = none := by simpa [Addr.add] using World.cell?_spot h1
    subst hspot
    refine ⟨b, off, rfl, ?_, fun j hj => ?_⟩
    · have h2 := block_lt_of_cell h1
      simpa [Addr.add] using h2
    · have h3 := hcell j (by omega)
      have hplain : (⟨b, off, none⟩ : Addr).add j = ⟨b, off + j, none⟩ := by unfold Addr.add; split <;> simp_all
      rw [hplain] at h3
      rw [h3]
      simp [List.getD, hj]

theorem run_bytes_nil {P : Program} {w : World} {base t ty e n c : Nat} {i : TypeInfo} {v : Value} {xs : List Value} (ht : P.underlying t = some (.slice e)) (hi : P.info? e = some i) (hown : w.ownsRow base e 1 v n xs) :
    (Builtin.append_ #[t, t] ty #[v, .slice none 0 c]).run P w = .ok v w := by
  rcases hown.2 with ⟨rfl, _⟩ | ⟨g, cap, cur, rfl, _, _, hnc, _⟩
  · simp [Builtin.append_, run_underlying ht, sizeOf, typeInfo, hi, Builtin.lenOf, Builtin.firstCells]
  · simp [Builtin.append_, run_underlying ht, sizeOf, typeInfo, hi, Builtin.lenOf, Builtin.firstCells, hnc, storeCells]

/-- Many bytes behind a row of the call's own: nil, none, or some. -/
theorem wpList_bytes {P : Program} {wr : World} {ops : Array Oper} {rest : List Oper} {o : Oper} {a : Act} {Q : Exit → Act → World → Prop} {base t e n m B c : Nat} {A : Option Addr} {l l2 : List Int} {v : Value} (hgd : o.guard = none) (s x : Operand)
    (ho : o.op = .call { callee := .builtin .append, args := #[s, x], argTypes := #[t, t] }) (ht : P.underlying t = some (.slice e))
    (hinfo : (P.info? e).map (fun i => (i.zero, i.size, i.bytes)) = some (some (.int .u8 0), 1, 1)) (hs : a.eval s = v) (hown : wr.ownsRow base e 1 v n (l.map (Value.int .u8)))
    (hx : a.eval x = .slice A m c) (hB : Byt wr B A m c l2) (hn : n + m ≤ 140737488355328) (hb : base ≤ wr.heap.size)
    (h : ∀ v' w', w'.ownsRow base e 1 v' (n + m) ((l ++ l2).map (Value.int .u8)) → Below base wr w' → wpList P ops Q rest (a.put o.dst v') w') :
    wpList P ops Q (o :: rest) a wr := by
  obtain ⟨i0, hi, hz0, hz1, hz2⟩ := info_parts hinfo
  cases A with
  | none =>
    have hm : m = 0 := by
      rcases Nat.eq_zero_or_pos m with h0 | h0
      · exact h0
      · obtain ⟨b, off, e', _⟩ := hB.cells h0
        cases e'
    subst hm
    obtain rfl := List.eq_nil_of_length_eq_zero hB.len
    refine wpList_plain hgd fun K hK => ?_
    have hrun := run_bytes_nil (P := P) (w := wr) (ty := o.type) (c := c) ht hi hown
    unfold Oper.wp
    simp [execOp, ho, resolve, invoke, builtin, hs, hx, hrun, Result.andThen]
    exact hK _ _ (h v wr (by simpa using hown) (Below.refl _ _))
  | some ad =>
    refine wpList_append_own _ hgd s x t ho base e i0 (.int .u8 0) 1 1 ht hi hz0 hz1 hz2 rfl (by omega) v n (l.map (Value.int .u8)) hs hown ad m c (l2.map (Value.int .u8)) hx (by simp [hB.len]) ?_ (ints_oneCell _ _) (by simp only [maxLen]; omega) (by omega) hb ?_
    · intro j u hu
      have hj : j < m := by
        rcases Nat.lt_or_ge j m with h1 | h1
        · exact h1
        · rw [List.getElem?_eq_none (by simp [hB.len]; omega)] at hu; cases hu
      obtain ⟨b, off, e', _, hc⟩ := hB.cells (by omega)
      cases e'
      have hplain : (⟨b, off, none⟩ : Addr).add j = ⟨b, off + j, none⟩ := by unfold Addr.add; split <;> simp_all
      rw [hplain, hc j hj]
      rw [List.getElem?_map, List.getElem?_eq_getElem (by rw [hB.len]; exact hj)] at hu
      simp only [Option.map_some, Option.some.injEq] at hu
      subst hu
      simp [List.getD, List.getElem?_eq_getElem (show j < l2.length by rw [hB.len]; exact hj)]
    · intro v' w' h1 h2 _
      exact h v' w' (by simpa using h1) ((Below.refl _ wr).grown h2 hb fun k hk => (hown.lt k hk).1)
end Go.Proofs.Ytoamgdcjmkkmfaa
namespace Go.Proofs.Ytoamgdcjmkkmfaa
open Go.RowKit
set_option linter.unusedSimpArgs false
set_option linter.unusedVariables false
/-- How an iterator's round may be answered: it goes on, or it stops; either way its own loops' records are as they were. -/
def Answ {α : Type} (Kp : World → World → Prop) (J Jx : List α → World → Prop) (L : Nat) (xs : List α) (W : World) (e : Ending) (W' : World) : Prop :=
  KeepsFrom L W W' ∧ ((e = .returned (.bool true) ∧ J xs W' ∧ Kp W W') ∨ (e = .returned (.bool false) ∧ Jx xs W'))
/-- What an iterator does that may hold loops of its own. -/
def SeqL {α : Type} (n : Nat) (P : Program) (g : Nat) (lb : Array Value) (encs : α → Array Value) (Kp : World → World → Prop) (S Sp : List α → Prop) (N : Nat) (w : World) : Prop :=
  ∀ (l : Nat) (J Jx : List α → World → Prop) (W : World), Below w.heap.size w W → OwnFrom W.heap.size J → OwnFrom W.heap.size Jx →
    (∀ pre x W1, J pre W1 → pre.length < N → YieldAt Fence.wide (n - 1) P l (encs x) W1 (Answ Kp J Jx W.heap.size (pre ++ [x]) W1)) → J [] W →
    CallsIn Fence.wide n P g (#[.func (.yield l) #[] #[]] ++ lb) W fun e W' => (∃ v, e = .returned v) ∧ ((∃ xs, S xs ∧ J xs W') ∨ (∃ pre, Sp pre ∧ Jx pre W'))

section
variable {α : Type} {n : Nat} {P : Program}
/-- A store of one block that is no cells leaves the later ones. -/
theorem keeps_over {W W' V : World} {B B' l : Nat} {o' p : Obj} (h : KeepsFrom B (W.putObj l o') W') (hV : W'.putObj l p = V) (h1 : B ≤ B') (h2 : l < B') : KeepsFrom B' W V := by
  subst hV
  refine ⟨by simpa using h.size, fun k x hk hx hc => ?_⟩
  rw [World.putObj_heap_other (by omega)]
  exact h.same k x (by omega) ((World.putObj_heap_other (by omega)).trans hx) hc
theorem range_L {g : Operand} {ps : Array Tmp} {assign body : Code} {Q : Exit → Act → World → Prop} {a : Act} {w : World}
    (h1 : 1 ≤ n) {gf : Nat} {lb : Array Value} (hg : a.eval g = .func (.func gf) #[] lb) (eg : ∀ args w, (callFunc gf args).run P w = .ok (.enter gf args) w)
    {encs : α → Array Value} {Kp : World → World → Prop} {S Sp : List α → Prop} {N : Nat} {w0 : World} (hseq : SeqL (n - 1) P gf lb encs Kp S Sp N w0)
    (hKt : ∀ {A B C : World}, Kp A B → Kp B C → Kp A C) (hKb : ∀ (W : World) (l : Nat) (o o' : Obj), w.heap.size ≤ l → W.heap[l]? = some o → o.isCells = false → o.isWalk = false → Kp W (W.putObj l o'))
    (hb0 : Below w0.heap.size w0 w) (hps : ∀ x, (encs x).size = ps.size)
    (I : List α → World → Prop) (Ix : Code → List α → World → Prop) (hI : OwnFrom w.heap.size I) (hIx : ∀ c, OwnFrom w.heap.size (Ix c)) (h0 : I [] w) (a₁ : α → Act)
    (hassign : ∀ (l : Nat) (x : α) (W : World) (K : Act → World → Prop), K (a₁ x) W →
      assign.wpIn (Fence.wide.inRound l) (n - 1 - 1) P (Exit.then K (fun _ _ _ => False)) { tmps := (ps.zip (encs x)).foldl (fun t (p, v) => t.setIfInBounds p v) a.tmps, defers := [] } W)
    (hbody : ∀ (l : Nat) (pre : List α) (x : α) (W : World), I pre W → pre.length < N → body.wpIn (Fence.wide.inRound l) (n - 1 - 1) P (ownPostG w.heap.size Kp I Ix (pre ++ [x]) W) (a₁ x) W)
    (hdone : ∀ (D : Nat) (xs : List α) (W : World), w.heap.size ≤ D → S xs → I xs W → W.heap[D]? = some (.deferred (some [])) → Q .normal { a with defers := { target := .collected D, args := #[] } :: a.defers } W)
    (hstop : ∀ (D : Nat) (c : Code) (pre : List α) (W : World), w.heap.size ≤ D → Sp pre → Ix c pre W → W.heap[D]? = some (.deferred (some [])) → c.wpIn Fence.wide n P Q { a with defers := { target := .collected D, args := #[] } :: a.defers } W) :
    (Code.rangeFunc g ps assign body).wpIn Fence.wide n P Q a w := by
  refine wpIn_rangeFunc fun fn hfn => ?_
  generalize hD : w.heap.size = D at *
  let R : LoopState → Option Code → Obj := fun st pe => .loop { state := st, pending := pe, fn, tmps := a.tmps, params := ps, assign, body, defers := D }
  -- the record lies at D + 1, the deferred calls of its rounds at D
  obtain ⟨V, hV⟩ : ∃ V, (w.alloc (.deferred (some []))).alloc (R .ready none) = V := ⟨_, rfl⟩
  have vL : V.heap[D + 1]? = some (R .ready none) := by
    have := World.alloc_heap_new (w.alloc (.deferred (some []))) (R .ready none)
    rwa [World.size_alloc, hD, hV] at this
  have vD : V.heap[D]? = some (.deferred (some [])) := by
    rw [← hV, ← hD]; exact (Below.heap_alloc _ _ _ (by simp)).trans (World.alloc_heap_new w _)
  have vS : V.heap.size = D + 2 := by rw [← hV]; simp [hD]
  have vI : I [] V := hV ▸ hI.alloc _ (hI.alloc _ h0)
  have vB : Below w0.heap.size w0 V := hV ▸ hb0.trans ((((Below.refl _ w).alloc (Nat.le_refl _) _).alloc (by simp) _).mono hb0.size)
  have run0 : (Instr.enterLoop fn a.tmps ps assign body none).run P w = .ok (D + 1, [{ target := .collected D, args := #[] }]) V := by
    subst hD; rw [← hV]; exact run_enterLoop_outer _ _ _ _ _
  have far : ∀ {A : World} {row : Option Nat}, (∀ r, row = some r → V.heap.size ≤ r ∧ ∃ o : Obj, A.heap[r]? = some o ∧ o.isCells = false) → ∀ r, row = some r → D ≤ r ∧ ∃ o : Obj, A.heap[r]? = some o ∧ o.isCells = false :=
    fun h r e => by obtain ⟨hB, o, ho, hw⟩ := h r e; exact ⟨by omega, o, ho, hw⟩
  have stay : ∀ {A B : World} {row : Option Nat} {k : Nat} {o : Obj}, A.grownBy B row → (∀ r, row = some r → V.heap.size ≤ r ∧ ∃ o : Obj, A.heap[r]? = some o ∧ o.isCells = false) → k < V.heap.size → A.heap[k]? = some o → B.heap[k]? = some o :=
    fun hg' hr hk ho => (hg'.block _ (Array.getElem?_eq_some_iff.1 ho).1 (fun e => by have := (hr _ e.symm).1; omega)).trans ho
  refine ⟨D + 1, [{ target := .collected D, args := #[] }], V, { target := .fn (.func gf) lb, args := #[.func (.yield (D + 1)) #[] #[]] }, V, gf, #[.func (.yield (D + 1)) #[] #[]] ++ lb, V, run0, ?_, ?_, ?_, fun _ => h1, ?_⟩
  · simp only [resolve, hg]; simp [go_sem]
  · intro _ _; trivial
  · simp [invoke, go_sem, eg]
  refine (hseq (D + 1) (fun pre W => I pre W ∧ W.heap[D + 1]? = some (R .ready none) ∧ W.heap[D]? = some (.deferred (some [])))
    (fun pre W => ∃ c, Ix c pre W ∧ W.heap[D + 1]? = some (R .done (some c)) ∧ W.heap[D]? = some (.deferred (some []))) V vB
    (fun s A B row hs hg' hr => ⟨hI s A B row hs.1 hg' (far hr), stay hg' hr (by omega) hs.2.1, stay hg' hr (by omega) hs.2.2⟩)
    (fun s A B row ⟨c, hc, hl, hk⟩ hg' hr => ⟨c, hIx c s A B row hc hg' (far hr), stay hg' hr (by omega) hl, stay hg' hr (by omega) hk⟩)
    ?_ ⟨vI, vL, vD⟩).mono ?_
  · rintro pre x W ⟨hi, hl, hk⟩ hlen
    have hlt : D + 1 < W.heap.size := (Array.getElem?_eq_some_iff.1 hl).1
    refine ⟨fn, _, assign, body, run_yield (P := P) (args := encs x) hl (hps x), roundIn_of_wpIn hfn (hassign _ x W _ ⟨_, run_beginRound hl rfl, ?_⟩)⟩
    refine wpIn_mono (hbody _ pre x _ (hI.putObj _ hi (by omega) hl rfl) hlen) ?_
    generalize hU : W.putObj (D + 1) _ = U
    have uL : ∃ r : Loop, r.state = .busy ∧ U.heap[D + 1]? = some (.loop r) ∧ ({ r with state := .ready } : Loop) = { state := .ready, pending := none, fn, tmps := a.tmps, params := ps, assign, body, defers := D } := ⟨_, rfl, hU ▸ World.putObj_heap_same hlt, rfl⟩
    obtain ⟨r, hrs, uL, hre⟩ := uL
    have uD : U.heap[D]? = some (.deferred (some [])) := hU ▸ (World.putObj_heap_other (by omega)).trans hk
    -- whichever way the body was left, its record is as it was
    have close : ∀ (jump : Option Code) (X : World), KeepsFrom D U X → ∃ Y, (Instr.endRound (D + 1) jump).run P X = .ok (.bool jump.isNone) Y ∧ Y = X.putObj (D + 1) (R (if jump.isNone then .ready else .done) jump) ∧
        X.heap[D + 1]? = some (.loop r) ∧ Y.heap[D + 1]? = some (R (if jump.isNone then .ready else .done) jump) ∧ Y.heap[D]? = some (.deferred (some [])) ∧ KeepsFrom V.heap.size W Y := fun jump X hX => by
      have xL := hX.same _ _ (by omega) uL rfl
      have hrun := run_endRound (P := P) jump xL
      have hrr : ∀ st pe, (Obj.loop { r with state := st, pending := pe }) = R st pe := fun st pe => by cases r; cases hre; rfl
      refine ⟨_, ?_, rfl, xL, World.putObj_heap_same (Array.getElem?_eq_some_iff.1 xL).1, (World.putObj_heap_other (by omega)).trans (hX.same _ _ (Nat.le_refl _) uD rfl), keeps_over (hU ▸ hX) rfl (by omega) (by omega)⟩
      rw [← hrr]; exact hrun
    rintro e a3 X hp
    cases e with
    | normal =>
      obtain ⟨hX, hKX, hIX⟩ := hp
      obtain ⟨Y, hr, rfl, xL, yL, yD, hk3⟩ := close none X hX
      exact ⟨_, _, hr, hk3, .inl ⟨rfl, ⟨hI.putObj _ hIX (by omega) xL rfl, yL, yD⟩, hKt (hKt (hU ▸ hKb _ _ _ _ (by omega) hl rfl rfl) hKX) (hKb _ _ _ _ (by omega) xL rfl rfl)⟩⟩
    | ret =>
      obtain ⟨hX, hIX⟩ := hp
      obtain ⟨Y, hr, rfl, xL, yL, yD, hk3⟩ := close (some .ret) X hX
      exact ⟨_, _, hr, hk3, .inr ⟨rfl, .ret, (hIx _).putObj _ hIX (by omega) xL rfl, yL, yD⟩⟩
    | exit id =>
      obtain ⟨hX, hIX⟩ := hp
      obtain ⟨Y, hr, rfl, xL, yL, yD, hk3⟩ := close (some (.exit id)) X hX
      exact ⟨_, _, hr, hk3, .inr ⟨rfl, .exit id, (hIx _).putObj _ hIX (by omega) xL rfl, yL, yD⟩⟩
    | goto t =>
      obtain ⟨hX, hIX⟩ := hp
      obtain ⟨Y, hr, rfl, xL, yL, yD, hk3⟩ := close (some (.goto t)) X hX
      exact ⟨_, _, hr, hk3, .inr ⟨rfl, .goto t, (hIx _).putObj _ hIX (by omega) xL rfl, yL, yD⟩⟩
    | panic ch => exact hp.elim
    | outgrown => exact hp.elim
  · rintro e X ⟨⟨v, rfl⟩, (⟨xs, hS, hi, hl, hk⟩ | ⟨pre, hSp, c, hi, hl, hk⟩)⟩
    · exact ⟨none, _, run_endLoop (P := P) hl (by simp), hdone _ xs _ (Nat.le_refl _) hS (hI.putObj _ hi (by omega) hl rfl) ((World.putObj_heap_other (by omega)).trans hk)⟩
    · exact ⟨some c, _, run_endLoop (P := P) hl (by simp), hstop _ c pre _ (Nat.le_refl _) hSp ((hIx c).putObj _ hi (by omega) hl rfl) ((World.putObj_heap_other (by omega)).trans hk)⟩
end
theorem wide_room (k : Nat) : Fence.wide.room k := fun d h => by cases h
/-- Where no depth is asked, and in whatever round: a yield is a yield. -/
theorem yield_any {m m' l l2 : Nat} {P : Program} {args : Array Value} {W : World} {R : Ending → World → Prop} (h : YieldAt Fence.wide m P l args W R) : YieldAt (Fence.wide.inRound l2) m' P l args W R := by
  obtain ⟨fn, tmps, assign, body, hy, hR⟩ := h
  exact ⟨fn, tmps, assign, body, hy, hR.1, fun c cs _ => hR.2 c cs (wide_room _)⟩
/-- What is there of a block that is cells. -/
theorem own_heap {β : Type} (k Bn : Nat) (o : Obj) (h : k < Bn) : OwnFrom Bn (fun (_ : β) W => W.heap[k]? = some o) :=
  fun _ _ _ _ hs hg hr => (hg.block k (Array.getElem?_eq_some_iff.1 hs).1 (fun e => by have := (hr k e.symm).1; omega)).trans hs
end Go.Proofs.Ytoamgdcjmkkmfaa
namespace Go.Proofs.Ytoamgdcjmkkmfaa
open Go.RowKit
set_option linter.unusedSimpArgs false
set_option linter.unusedVariables false
theorem setCells_blockR : ∀ (l : List Value) (w : World) (b o e : Nat) (fr : Nat × Nat) (cur : Array Value), w.heap[b]? = some (.cells cur e fr) → o + l.length ≤ cur.size →
    ∃ cur', (w.setCells b o l).heap[b]? = some (.cells cur' e fr) ∧ cur'.size = cur.size ∧ ∀ k, cur'[k]? = if o ≤ k ∧ k < o + l.length then l[k - o]? else cur[k]?
  | [], w, b, o, e, fr, cur, h, _ => ⟨cur, h, rfl, fun k => by rw [if_neg (by simp)]⟩
  | x :: l, w, b, o, e, fr, cur, h, hl => by
    simp only [List.length_cons] at hl
    have hh : (w.setCell ⟨b, o, none⟩ x).heap[b]? = some (.cells (cur.setIfInBounds o x) e fr) := by
      simp [World.setCell, Array.getElem?_modify, h]
    obtain ⟨cur', h1, h2, h3⟩ := setCells_blockR l _ b (o + 1) e fr _ hh (by simp; omega)
    refine ⟨cur', h1, by rw [h2]; simp, fun k => ?_⟩
    rw [h3 k]
    simp only [List.length_cons]
    by_cases hk : k = o
    · subst hk
      rw [if_neg (by omega), if_pos (by omega), Nat.sub_self, Array.getElem?_setIfInBounds_self]
      simp; omega
    · by_cases hk2 : o + 1 ≤ k ∧ k < o + 1 + l.length
      · rw [if_pos hk2, if_pos (by omega)]
        obtain ⟨j, hj⟩ : ∃ j, k - o = j + 1 := ⟨k - o - 1, by omega⟩
        rw [hj, show k - (o + 1) = j by omega, List.getElem?_cons_succ]
      · rw [if_neg hk2, if_neg (by omega), Array.getElem?_setIfInBounds_ne (by omega)]
theorem setCells_grownR : ∀ (l : List Value) {w0 w : World} (g o : Nat), w0.grownBy w (some g) → w0.grownBy (w.setCells g o l) (some g)
  | [], _, _, _, _, h => h
  | x :: l, _, w, g, o, h => setCells_grownR l g (o + 1) ⟨h.os, h.tape, h.output, by simp; exact h.size, fun k hk hne => by
      rw [← h.block k hk hne]
      have : k ≠ g := fun e => hne (by rw [e])
      simp [World.setCell, Array.getElem?_modify, Ne.symm this]⟩
theorem setCells_sizeR : ∀ (l : List Value) (w : World) (g o : Nat), (w.setCells g o l).heap.size = w.heap.size
  | [], _, _, _ => rfl
  | x :: l, w, g, o => by
    show ((w.setCell ⟨g, o, none⟩ x).setCells g (o + 1) l).heap.size = _
    rw [setCells_sizeR l]; simp
theorem add_plainR (b off j : Nat) : (⟨b, off, none⟩ : Addr).add j = ⟨b, off + j, none⟩ := by unfold Addr.add; split <;> simp_all
theorem grown_refl (w : World) (r : Option Nat) : w.grownBy w r := ⟨rfl, rfl, rfl, Nat.le_refl _, fun _ _ _ => rfl⟩
theorem grown_trans {a b c : World} {r : Option Nat} (h : a.grownBy b r) (k : b.grownBy c r) : a.grownBy c r :=
  ⟨k.os.trans h.os, k.tape.trans h.tape, k.output.trans h.output, Nat.le_trans h.size k.size, fun i hi hne => (k.block i (Nat.lt_of_lt_of_le hi h.size) hne).trans (h.block i hi hne)⟩
theorem grown_undrew {w w' : World} {r : Option Nat} (h : w.drew.grownBy w' r) : w.grownBy w' r := ⟨h.os, h.tape, h.output, h.size, h.block⟩
theorem grown_below {a b : World} (r : Option Nat) (h : Below a.heap.size a b) : a.grownBy b r := ⟨h.os, h.tape, h.output, h.size, fun k hk _ => h.block k hk⟩
theorem cells_sure {w : World} {b e o n : Nat} {cur : Array Value} (h : w.heap[b]? = some (.cells cur e (0, 0))) (hn : o + n ≤ cur.size) : ∀ j, j < n → (w.cell? ⟨b, o + j, none⟩).isSome = true := fun j hj => by
  rw [cell_of_row _ _ _ _ _ _ h, Array.getElem?_eq_getElem (by omega)]; rfl
/-- What the walk's laws on one store, with the cells of a block, come to. -/
theorem run_stores {P : Program} {w : World} {b e o : Nat} {cur : Array Value} (h : w.heap[b]? = some (.cells cur e (0, 0))) (l : List Value) (hl : o + l.length ≤ cur.size) (h1 : ∀ v ∈ l, v.oneCell' = true) :
    (storeCells ⟨b, o, none⟩ l 0).run P w = .ok () (w.setCells b o l) := by
  have := run_storeCells_cells (P := P) b o l 0 w (by rw [Nat.add_zero]; exact cells_sure h hl) (fun j _ => frozen_of_row _ _ _ _ _ h) h1
  rwa [Nat.add_zero] at this

/-- ALL IS READ BEFORE ANYTHING IS WRITTEN: copy over a part of a block. -/
theorem run_copy_rows {P : Program} (w : World) (dT sT ty elem s : Nat) (b o dLen dCap : Nat) (sp : Option Addr) (sLen sCap m e : Nat) (cs : List Value) (cur : Array Value)
    (hu : P.underlying dT = some (.slice elem)) (hs : (P.info? elem).map (·.size) = some s) (hm : Nat.min sLen dLen = m) (hn : cs.length = m * s) (hb : w.heap[b]? = some (.cells cur e (0, 0))) (hfit : o + cs.length ≤ cur.size)
    (hsrc : ∃ a, sp = some a ∧ ∀ j v, cs[j]? = some v → w.cell? (a.add j) = some v) (h1 : ∀ v ∈ cs, v.oneCell' = true) :
    (Builtin.copy_ #[dT, sT] ty #[.slice (some ⟨b, o, none⟩) dLen dCap, .slice sp sLen sCap]).run P w = .ok (goInt m) (w.setCells b o cs) := by
  obtain ⟨a, rfl, hsrc⟩ := hsrc
  have hl := run_loadCells_list (P := P) w a cs hsrc
  have hst := run_stores (P := P) hb cs hfit h1
  rw [hn] at hl
  cases hq : P.info? elem with
  | none => simp [hq] at hs
  | some i =>
    have hi : i.size = s := by simpa [hq] using hs
    simp [Builtin.copy_, run_underlying hu, Builtin.lenOf, Builtin.firstCells, sizeOf, typeInfo, hq, hi, hm, hl, hst]
/-- append in place, at the k'th element, where there is room: all is read before anything is written. -/
theorem run_append_room {P : Program} (w : World) (t ty elem s : Nat) (b k cap : Nat) (sp : Option Addr) (m c e : Nat) (cs : List Value) (cur : Array Value) (ht : P.underlying t = some (.slice elem)) (hs : (P.info? elem).map (·.size) = some s)
    (hk : k + m ≤ cap) (hn : cs.length = m * s) (hb : w.heap[b]? = some (.cells cur e (0, 0))) (hfit : k * s + cs.length ≤ cur.size)
    (hsrc : 0 < m → ∃ a, sp = some a ∧ ∀ j v, cs[j]? = some v → w.cell? (a.add j) = some v) (h1 : ∀ v ∈ cs, v.oneCell' = true) :
    (Builtin.append_ #[t, t] ty #[.slice (some ⟨b, 0, none⟩) k cap, .slice sp m c]).run P w = .ok (.slice (some ⟨b, 0, none⟩) (k + m) cap) (w.setCells b (k * s) cs) := by
  have hst := run_stores (P := P) (o := k * s) hb cs hfit h1
  cases hq : P.info? elem with
  | none => simp [hq] at hs
  | some i =>
    have hi : i.size = s := by simpa [hq] using hs
    rcases Nat.eq_zero_or_pos m with h0 | h0
    · subst h0
      obtain rfl : cs = [] := List.eq_nil_of_length_eq_zero (by omega)
      have hl : ∀ (x : Addr), (loadCells x 0).run P w = .ok #[] w := fun x => by simpa using run_loadCells_list (P := P) w x [] (by simp)
      have hk' : k ≤ cap := by omega
      cases sp <;> simp [Builtin.append_, run_underlying ht, sizeOf, typeInfo, hq, hi, Builtin.lenOf, Builtin.firstCells, hk', storeCells, World.setCells, hl]
    · obtain ⟨a, rfl, hsrc2⟩ := hsrc h0
      have hl := run_loadCells_list (P := P) w a cs hsrc2
      rw [hn] at hl
      simp [Builtin.append_, run_underlying ht, sizeOf, typeInfo, hq, hi, Builtin.lenOf, Builtin.firstCells, hk, hl, add_plainR, hst]
theorem zero_one (z : Array Value) : (Builtin.zeroCells z 1).toList = z.toList := by
  simp only [Builtin.zeroCells, Nat.one_mul]
  apply List.ext_getElem?
  intro i
  by_cases hi : i < z.size
  · simp [hi, Nat.mod_eq_of_lt hi, getElem!_pos]
  · have h1 : z.toList[i]? = none := List.getElem?_eq_none (by simp; omega)
    rw [h1]; simp; omega
theorem zero_size (z : Array Value) (n : Nat) : (Builtin.zeroCells z n).size = n * z.size := by simp [Builtin.zeroCells]
/-- One element is cleared. -/
theorem run_clear_one {P : Program} (w : World) (t ty elem : Nat) (z : Value) (b o c e : Nat) (cur : Array Value) (ht : P.underlying t = some (.slice elem)) (hv : ∀ w, (zeroValue elem).run P w = .ok z w) (hb : w.heap[b]? = some (.cells cur e (0, 0)))
    (hfit : o + z.cells.size ≤ cur.size) (h1 : ∀ v ∈ z.cells.toList, v.oneCell' = true) :
    (Builtin.clear_ #[t] ty #[.slice (some ⟨b, o, none⟩) 1 c]).run P w = .ok (.tuple #[]) (w.setCells b o z.cells.toList) := by
  have hst := run_stores (P := P) (o := o) hb z.cells.toList (by simpa using hfit) h1
  simp [Builtin.clear_, run_underlying ht, hv, zero_one, hst]

/-! ### The rows behind it -/
theorem own_some {w : World} {base e s n : Nat} {v : Value} {xs : List Value} (h : w.ownsRow base e s v n xs) (hn : 0 < n) :
    ∃ g cap cur, v = .slice (some ⟨g, 0, none⟩) n cap ∧ base ≤ g ∧ w.heap[g]? = some (.cells cur e (0, 0)) ∧ n ≤ cap ∧ cap ≤ maxLen ∧ cur.size = cap * s ∧ xs.length = n * s ∧ ∀ k, k < n * s → cur[k]? = xs[k]? := by
  rcases h.2 with ⟨_, h0⟩ | ⟨g, cap, cur, rfl, hb, hg, hnc, hm, hs, ht⟩
  · omega
  · refine ⟨g, cap, cur, rfl, hb, hg, hnc, hm, hs, h.1, fun k hk => ?_⟩
    rw [← ht, List.getElem?_take, if_pos hk]; simp
theorem own_mk {w : World} {base e s n g cap : Nat} {cur : Array Value} {xs : List Value} (hb : base ≤ g) (hg : w.heap[g]? = some (.cells cur e (0, 0))) (hnc : n ≤ cap) (hm : cap ≤ maxLen) (hs : cur.size = cap * s) (hl : xs.length = n * s) (hx : ∀ k, k < n * s → cur[k]? = xs[k]?) :
    w.ownsRow base e s (.slice (some ⟨g, 0, none⟩) n cap) n xs := by
  refine ⟨hl, .inr ⟨g, cap, cur, rfl, hb, hg, hnc, hm, hs, ?_⟩⟩
  apply List.ext_getElem?
  intro k
  rw [List.getElem?_take]
  split
  · rw [← hx k (by assumption)]; simp
  · rw [List.getElem?_eq_none (by omega)]
/-- The list behind an insertion: its k'th. -/
theorem ins_at (xs news : List Value) (a : Nat) (ha : a ≤ xs.length) (k : Nat) : (xs.take a ++ news ++ xs.drop a)[k]? = if k < a then xs[k]? else if k < a + news.length then news[k - a]? else xs[k - news.length]? := by
  have hta : (xs.take a).length = a := by rw [List.length_take]; omega
  by_cases h1 : k < a
  · rw [if_pos h1, List.append_assoc, List.getElem?_append_left (by omega), List.getElem?_take, if_pos h1]
  · rw [if_neg h1]
    by_cases h2 : k < a + news.length
    · rw [if_pos h2, List.getElem?_append_left (by simp; omega), List.getElem?_append_right (by omega), hta]
    · rw [if_neg h2, List.getElem?_append_right (by simp; omega), List.getElem?_drop]
      congr 1
      simp [hta]; omega
theorem ins_len (xs news : List Value) (a : Nat) : (xs.take a ++ news ++ xs.drop a).length = xs.length + news.length := by
  simp; omega
/-- Room, and not at the end: in place. -/
theorem own_shift {w : World} {base e s n i g cap : Nat} {cur : Array Value} {xs news : List Value} (hb : base ≤ g) (hg : w.heap[g]? = some (.cells cur e (0, 0))) (hnc : n + 1 ≤ cap) (hm : cap ≤ maxLen) (hs : cur.size = cap * s) (hl : xs.length = n * s) (hx : ∀ k, k < n * s → cur[k]? = xs[k]?)
    (hi : i ≤ n) (hn : news.length = s) :
    ((w.setCells g ((i + 1) * s) (xs.drop (i * s))).setCells g (i * s) news).ownsRow base e s (.slice (some ⟨g, 0, none⟩) (n + 1) cap) (n + 1) (xs.take (i * s) ++ news ++ xs.drop (i * s)) ∧
    w.grownBy ((w.setCells g ((i + 1) * s) (xs.drop (i * s))).setCells g (i * s) news) (some g) := by
  refine ⟨?_, setCells_grownR _ _ _ (setCells_grownR _ _ _ (grown_refl w _))⟩
  have hcap : (n + 1) * s ≤ cap * s := Nat.mul_le_mul_right s hnc
  have hin : i * s ≤ n * s := Nat.mul_le_mul_right s hi
  have e1 : (i + 1) * s = i * s + s := Nat.succ_mul i s
  have e2 : (n + 1) * s = n * s + s := Nat.succ_mul n s
  have hd : (xs.drop (i * s)).length = n * s - i * s := by rw [List.length_drop, hl]
  obtain ⟨c1, k1, k2, k3⟩ := setCells_blockR (xs.drop (i * s)) w g ((i + 1) * s) e (0, 0) cur hg (by rw [hd]; omega)
  obtain ⟨c2, l1, l2, l3⟩ := setCells_blockR news _ g (i * s) e (0, 0) c1 k1 (by omega)
  refine own_mk hb l1 hnc hm (by omega) (by rw [ins_len]; omega) fun k hk => ?_
  rw [l3, k3, ins_at _ _ _ (by omega), hd, hn]
  by_cases h1 : k < i * s
  · rw [if_pos h1, if_neg (by omega), if_neg (by omega), hx k (by omega)]
  · rw [if_neg h1]
    by_cases h2 : k < i * s + s
    · rw [if_pos h2, if_pos (by omega)]
    · rw [if_neg h2, if_neg (by omega), if_pos (by omega), List.getElem?_drop]
      congr 1; omega
/-- No room, and not at the end: a new row. -/
theorem own_moved {w : World} {base e s n i H cap : Nat} {row : Array Value} {xs news : List Value} (hb : base ≤ H) (hg : w.heap[H]? = some (.cells row e (0, 0))) (hnc : n + 1 ≤ cap) (hm : cap ≤ maxLen) (hs : row.size = cap * s) (hl : xs.length = n * s) (hx : ∀ k, k < i * s → row[k]? = xs[k]?)
    (hi : i ≤ n) (hn : news.length = s) :
    ((w.setCells H (i * s) news).setCells H ((i + 1) * s) (xs.drop (i * s))).ownsRow base e s (.slice (some ⟨H, 0, none⟩) (n + 1) cap) (n + 1) (xs.take (i * s) ++ news ++ xs.drop (i * s)) := by
  have hcap : (n + 1) * s ≤ cap * s := Nat.mul_le_mul_right s hnc
  have hin : i * s ≤ n * s := Nat.mul_le_mul_right s hi
  have e1 : (i + 1) * s = i * s + s := Nat.succ_mul i s
  have e2 : (n + 1) * s = n * s + s := Nat.succ_mul n s
  have hd : (xs.drop (i * s)).length = n * s - i * s := by rw [List.length_drop, hl]
  obtain ⟨c1, k1, k2, k3⟩ := setCells_blockR news w H (i * s) e (0, 0) row hg (by omega)
  obtain ⟨c2, l1, l2, l3⟩ := setCells_blockR (xs.drop (i * s)) _ H ((i + 1) * s) e (0, 0) c1 k1 (by rw [hd]; omega)
  refine own_mk hb l1 hnc hm (by omega) (by rw [ins_len]; omega) fun k hk => ?_
  rw [l3, k3, ins_at _ _ _ (by omega), hd, hn]
  by_cases h1 : k < i * s
  · rw [if_pos h1, if_neg (by omega), if_neg (by omega), hx k h1]
  · rw [if_neg h1]
    by_cases h2 : k < i * s + s
    · rw [if_pos h2, if_neg (by omega), if_pos (by omega)]
    · rw [if_neg h2, if_pos (by omega), List.getElem?_drop]
      congr 1; omega
/-- One element goes: what was behind it moves up, and the last place is cleared. -/
theorem own_gone {w : World} {base e s n i g cap : Nat} {cur : Array Value} {xs zs : List Value} (hb : base ≤ g) (hg : w.heap[g]? = some (.cells cur e (0, 0))) (hnc : n + 1 ≤ cap) (hm : cap ≤ maxLen) (hs : cur.size = cap * s) (hl : xs.length = (n + 1) * s) (hx : ∀ k, k < (n + 1) * s → cur[k]? = xs[k]?)
    (hi : i ≤ n) (hz : zs.length = s) :
    ((w.setCells g (i * s) (xs.drop ((i + 1) * s))).setCells g (n * s) zs).ownsRow base e s (.slice (some ⟨g, 0, none⟩) n cap) n (xs.take (i * s) ++ xs.drop ((i + 1) * s)) ∧
    w.grownBy ((w.setCells g (i * s) (xs.drop ((i + 1) * s))).setCells g (n * s) zs) (some g) := by
  refine ⟨?_, setCells_grownR _ _ _ (setCells_grownR _ _ _ (grown_refl w _))⟩
  have hcap : (n + 1) * s ≤ cap * s := Nat.mul_le_mul_right s hnc
  have hin : i * s ≤ n * s := Nat.mul_le_mul_right s hi
  have e1 : (i + 1) * s = i * s + s := Nat.succ_mul i s
  have e2 : (n + 1) * s = n * s + s := Nat.succ_mul n s
  have hd : (xs.drop ((i + 1) * s)).length = n * s - i * s := by rw [List.length_drop, hl]; omega
  have hta : (xs.take (i * s)).length = i * s := by rw [List.length_take]; omega
  obtain ⟨c1, k1, k2, k3⟩ := setCells_blockR (xs.drop ((i + 1) * s)) w g (i * s) e (0, 0) cur hg (by rw [hd]; omega)
  obtain ⟨c2, l1, l2, l3⟩ := setCells_blockR zs _ g (n * s) e (0, 0) c1 k1 (by omega)
  refine own_mk hb l1 (by omega) hm (by omega) (by rw [List.length_append, hta, hd]; omega) fun k hk => ?_
  rw [l3, k3, hd, hz]
  by_cases h1 : k < i * s
  · rw [if_neg (by omega), if_neg (by omega), hx k (by omega), List.getElem?_append_left (by omega), List.getElem?_take, if_pos h1]
  · rw [if_neg (by omega), if_pos (by omega), List.getElem?_append_right (by omega), hta]
/-- A cell of a row. -/
theorem own_cell {w : World} {base e s n g cap : Nat} {xs : List Value} (h : w.ownsRow base e s (.slice (some ⟨g, 0, none⟩) n cap) n xs) {k : Nat} (hk : k < n * s) : w.cell? ⟨g, k, none⟩ = xs[k]? := by
  have h1 := h.1
  rw [World.ownsRow.cellAt h k (by omega)]
end Go.Proofs.Ytoamgdcjmkkmfaa