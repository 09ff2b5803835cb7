/- emcy: the emergency of a frame. -/
import Derived.Test.YtncnlbokipieaaaEa
namespace Go.Proofs.Ytncnlbokipieaaa
open Go.RowKit
set_option linter.unusedSimpArgs false
set_option linter.unusedVariables false

theorem cell_u8 : (Try.prog.info? 5).map (·.size) = some 1 := by kernel_rfl
/-- Bytes are copied into a block. -/
theorem wp_copy_row {wr : World} {o : Oper} {a : Act} {K : Act → World → Prop} {Q : Exit → Act → World → Prop} {g off k k2 m c B T : Nat} {A : Option Addr} {l : List Int} {cur : Array Value} (s t : Operand)
    (ho : o.op = .call { callee := .builtin .copy, args := #[s, t], argTypes := #[50, 50] }) (hs : a.eval s = .slice (some ⟨g, off, none⟩) k k2) (ht : a.eval t = .slice A m c) (hB : Byt wr B A m c l)
    (h : wr.heap[g]? = some (.cells cur T (0, 0))) (hfit : off + k ≤ cur.size)
    (hK : ∀ w' cur', w'.heap[g]? = some (.cells cur' T (0, 0)) → cur'.size = cur.size → (∀ i, cur'[i]? = if off ≤ i ∧ i < off + min m k then some (.int .u8 (l.getD (i - off) 0)) else cur[i]?) → wr.grownBy w' (some g) → K (a.put o.dst (goInt ((min m k : Nat) : Int))) w') :
    o.wp Try.prog a wr K Q := by
  by_cases hm : min m k = 0
  · have hrun := run_copy_none (P := Try.prog) wr 50 50 o.type 5 (some ⟨g, off, none⟩) A k k2 m c Try.underlying50 cell_u8 (by omega)
    unfold Oper.wp
    simp [execOp, ho, resolve, invoke, builtin, hs, ht, hrun, Result.andThen]
    have := hK wr cur h rfl (fun i => by rw [if_neg (by omega)]) (World.grownBy.refl wr _)
    rw [hm] at this
    exact this
  · obtain ⟨b, bo, rfl, hb, hcell⟩ := hB.cells (by omega)
    have hlen := hB.len
    have hl8 : ((l.take k).map (Value.int .u8)).length = min m k := by simp [hlen, Nat.min_comm]
    have hrun := run_copy_rows (P := Try.prog) wr 50 50 o.type 5 1 g off k k2 (some ⟨b, bo, none⟩) m c (min m k) T ((l.take k).map (Value.int .u8)) cur Try.underlying50 cell_u8 rfl (by rw [hl8, Nat.mul_one]) h (by rw [hl8]; omega)
      ⟨⟨b, bo, none⟩, rfl, fun j v hv => by
        have hj : j < min m k := by rw [← hl8]; exact (List.getElem?_eq_some_iff.1 hv).1
        have : (⟨b, bo, none⟩ : Addr).add j = ⟨b, bo + j, none⟩ := by simp [Addr.add]
        rw [this, hcell j (by omega), ← hv]
        simp [show j < k by omega, List.getElem?_eq_getElem (show j < l.length by omega), List.getD]⟩
      (fun v hv => by simp only [List.mem_map] at hv; obtain ⟨x, _, rfl⟩ := hv; rfl)
    obtain ⟨cur', h1, h2, h3⟩ := setCells_blockR ((l.take k).map (Value.int .u8)) wr g off T (0, 0) cur h (by rw [hl8]; omega)
    have hg := setCells_grownR ((l.take k).map (Value.int .u8)) g off (World.grownBy.refl wr (some g))
    unfold Oper.wp
    simp [execOp, ho, resolve, invoke, builtin, hs, ht, hrun, Result.andThen]
    have := hK _ cur' h1 h2 (fun i => by
      rw [h3, hl8]
      by_cases hi : off ≤ i ∧ i < off + min m k
      · rw [if_pos hi, if_pos hi]
        simp [show i - off < k by omega, List.getElem?_eq_getElem (show i - off < l.length by omega), List.getD]
      · rw [if_neg hi, if_neg hi]) hg
    rw [List.map_take] at this
    exact this
theorem em_copied {nd cd rg : Int} {i : Nat → Int} {m : Nat} {l : List Int} {cur' : Array Value} (h2 : cur'.size = 8) (h3 : ∀ j, cur'[j]? = if 3 ≤ j ∧ j < 3 + min m 5 then some (.int .u8 (l.getD (j - 3) 0)) else (#[.int .i64 nd, .int .i64 cd, .int .u8 rg, .int .u8 (i 0), .int .u8 (i 1), .int .u8 (i 2), .int .u8 (i 3), .int .u8 (i 4)] : Array Value)[j]?) :
    cur' = #[.int .i64 nd, .int .i64 cd, .int .u8 rg, .int .u8 (if 0 < m then l.getD 0 0 else i 0), .int .u8 (if 1 < m then l.getD 1 0 else i 1), .int .u8 (if 2 < m then l.getD 2 0 else i 2), .int .u8 (if 3 < m then l.getD 3 0 else i 3), .int .u8 (if 4 < m then l.getD 4 0 else i 4)] := by
  apply Array.ext_getElem?
  intro j
  rw [h3]
  match j with
  | 0 => simp
  | 1 => simp
  | 2 => simp
  | 3 => by_cases h : 0 < m <;> simp [h] <;> omega
  | 4 => by_cases h : 1 < m <;> simp [h] <;> omega
  | 5 => by_cases h : 2 < m <;> simp [h] <;> omega
  | 6 => by_cases h : 3 < m <;> simp [h] <;> omega
  | 7 => by_cases h : 4 < m <;> simp [h] <;> omega
  | j + 8 => simp; omega
/-- Is it an emergency's frame? -/
def decF (id : Int) (r : Bool) (n : Int) : Bool := decide (r = false ∧ n = 8 ∧ 129 ≤ id ∧ id ≤ 255)
theorem and_127 (x : Int) (h0 : 0 ≤ x) (h1 : x < 65536) : bits .and .i64 x 127 = x % 128 := bits_mask .i64 16 (by decide) (fun n h0 h1 => IntWalk.i64_in n (by omega)) 7 (by decide) x h0 (by omega)
theorem dec_split (id : Int) (r : Bool) (n : Int) : ∃ k, bits .and .i64 id 127 = k ∧ ((isNI k = false ∧ decF id r n = false) ∨ (isNI k = true ∧ decF id r n = false ∧ decide (128 + k = id ∧ false = r ∧ (8 : Int) = n) = false) ∨ (isNI k = true ∧ decF id r n = true ∧ k = id - 128 ∧ decide (128 + k = id ∧ false = r ∧ (8 : Int) = n) = true)) := by
  refine ⟨_, rfl, ?_⟩
  by_cases hi : 129 ≤ id ∧ id ≤ 255
  · have e : bits .and .i64 id 127 = id - 128 := by rw [and_127 id (by omega) (by omega)]; omega
    rw [e]
    have hn : isNI (id - 128) = true := isN_yes (by omega) (by omega)
    by_cases hr : r = false ∧ n = 8
    · obtain ⟨rfl, rfl⟩ := hr
      exact .inr (.inr ⟨hn, by simp [decF, hi.1, hi.2], rfl, by simp; omega⟩)
    · refine .inr (.inl ⟨hn, ?_, ?_⟩)
      · unfold decF; refine decide_eq_false (fun h => hr ⟨h.1, h.2.1⟩)
      · refine decide_eq_false (fun h => hr ⟨h.2.1.symm, h.2.2.symm⟩)
  · have hd : decF id r n = false := by unfold decF; exact decide_eq_false (fun h => hi h.2.2)
    generalize bits .and .i64 id 127 = k
    cases hn : isNI k with
    | false => exact .inl ⟨rfl, hd⟩
    | true =>
      obtain ⟨h1, h2⟩ := isN_in hn
      exact .inr (.inl ⟨rfl, hd, decide_eq_false (fun h => hi (by omega))⟩)
theorem fr_byt {w : World} {g : Nat} {id n : Int} {r : Bool} {d : Nat → Int} (h : FrAt w g id r n d) (hd : ∀ j, j < 8 → 0 ≤ d j ∧ d j ≤ 255) : Byt w w.heap.size (some ⟨g, 3, none⟩) 8 8 [d 0, d 1, d 2, d 3, d 4, d 5, d 6, d 7] := by
  refine ⟨rfl, Nat.le_refl _, by simp [maxLen], fun x hx => ?_, fun _ => ⟨g, 3, rfl, h.lt, fun j hj => ?_⟩⟩
  · simp at hx
    rcases hx with rfl | rfl | rfl | rfl | rfl | rfl | rfl | rfl
    · exact hd 0 (by omega)
    · exact hd 1 (by omega)
    · exact hd 2 (by omega)
    · exact hd 3 (by omega)
    · exact hd 4 (by omega)
    · exact hd 5 (by omega)
    · exact hd 6 (by omega)
    · exact hd 7 (by omega)
  · rw [h.byte hj]
    match j, hj with
    | 0, _ => rfl
    | 1, _ => rfl
    | 2, _ => rfl
    | 3, _ => rfl
    | 4, _ => rfl
    | 5, _ => rfl
    | 6, _ => rfl
    | 7, _ => rfl
theorem num2 {x y : Int} {l : List Int} (hx : 0 ≤ x ∧ x ≤ 255) (hy : 0 ≤ y ∧ y ≤ 255) : rnE 0 3 (x :: y :: l) = 0 ∧ rnN 0 3 (x :: y :: l) = x + 256 * y ∧ rnL 0 3 (x :: y :: l) = l := by
  have hs : kSize 3 = 2 := rfl
  have hv : valL 3 [x, y] = x + 256 * y := by
    unfold valL
    have e : numL [x, y] = x + 256 * y := by simp [numL]
    rw [e, if_neg]
    show ¬ (65535 : Int) < _
    omega
  have hf : fitB 3 (x + 256 * y) = true := fit_yes (k := 3) ⟨by decide, by show (0 : Int) ≤ _; omega, by show _ ≤ (65535 : Int); omega⟩
  have hl : ¬ ((x :: y :: l).length : Int) < 2 := by simp; omega
  have ht : (x :: y :: l).take (2 : Int).toNat = [x, y] := rfl
  have hE : rnE 0 3 (x :: y :: l) = 0 := by
    unfold rnE fe nextE getE
    rw [hs, ht, hv, hf]
    simp
    omega
  refine ⟨hE, ?_, ?_⟩
  · unfold rnN
    rw [hE, if_pos rfl]
    unfold nextN getN
    rw [hs, ht, hv, hf, if_neg (by omega), if_pos ⟨by omega, by simp, rfl⟩]
  · unfold rnL
    rw [hE, if_pos rfl, hs]
    rfl
theorem num1 {x : Int} {l : List Int} (hx : 0 ≤ x ∧ x ≤ 255) : rnE 0 2 (x :: l) = 0 ∧ rnN 0 2 (x :: l) = x ∧ rnL 0 2 (x :: l) = l := by
  have hs : kSize 2 = 1 := rfl
  have hv : valL 2 [x] = x := by
    unfold valL
    have e : numL [x] = x := by simp [numL]
    rw [e, if_neg]
    show ¬ (255 : Int) < _
    omega
  have hf : fitB 2 x = true := fit_yes (k := 2) ⟨by decide, by show (0 : Int) ≤ _; omega, by show _ ≤ (255 : Int); omega⟩
  have ht : (x :: l).take (1 : Int).toNat = [x] := rfl
  have hE : rnE 0 2 (x :: l) = 0 := by
    unfold rnE fe nextE getE
    rw [hs, ht, hv, hf]
    simp
    omega
  refine ⟨hE, ?_, ?_⟩
  · unfold rnN
    rw [hE, if_pos rfl]
    unfold nextN getN
    rw [hs, ht, hv, hf, if_neg (by simp; omega), if_pos ⟨by omega, by simp, rfl⟩]
  · unfold rnL
    rw [hE, if_pos rfl, hs]
    rfl
theorem raw5 (a b c d e : Int) : rrE 0 5 [a, b, c, d, e] = 0 ∧ rrA 0 5 [a, b, c, d, e] = [a, b, c, d, e] ∧ rrL 0 5 [a, b, c, d, e] = [] := by
  have h : rrE 0 5 [a, b, c, d, e] = 0 := by simp [rrE, fe, lackE]
  refine ⟨h, ?_, ?_⟩
  · unfold rrA; rw [h, if_pos rfl]; rfl
  · unfold rrL; rw [h, if_pos rfl]; rfl
structure DeS (w : World) (id : Int) (r : Bool) (n : Int) (d : Nat → Int) (x : World) : Prop where
  fr : FrAt x w.heap.size id r n d
  em : EmAt x (w.heap.size + 1) 0 0 0 (fun _ => 0)
  bel : Below w.heap.size w x
section
variable {w x y : World} {id n : Int} {r : Bool} {d : Nat → Int} {g : Nat}
theorem DeS.lt (h : DeS w id r n d x) : w.heap.size + 1 < x.heap.size := h.em.lt
theorem DeS.low (h : DeS w id r n d x) (hb : Below g x y) (hg : w.heap.size + 1 < g) : DeS w id r n d y := ⟨h.fr.below hb (by omega), h.em.below hb hg, h.bel.trans (hb.mono (by omega))⟩
theorem DeS.below (h : DeS w id r n d x) (hb : Below x.heap.size x y) : DeS w id r n d y := h.low hb h.lt
theorem DeS.grown {row : Option Nat} (h : DeS w id r n d x) (hb : x.grownBy y row) (hr : ∀ k, row = some k → w.heap.size + 1 < k) : DeS w id r n d y :=
  ⟨(hb.block _ h.fr.lt (fun e => by have := hr _ e.symm; omega)).trans h.fr, (hb.block _ h.em.lt (fun e => by have := hr _ e.symm; omega)).trans h.em, h.bel.grown hb (by have := h.lt; omega) (fun k hk => by have := hr k hk; omega)⟩
theorem deS_start : DeS w id r n d ((w.alloc (.cells #[.int .i64 id, .bool r, .int .i64 n, .int .u8 (d 0), .int .u8 (d 1), .int .u8 (d 2), .int .u8 (d 3), .int .u8 (d 4), .int .u8 (d 5), .int .u8 (d 6), .int .u8 (d 7)] 27)).alloc (.cells #[.int .i64 0, .int .i64 0, .int .u8 0, .int .u8 0, .int .u8 0, .int .u8 0, .int .u8 0, .int .u8 0] 24)) := by
  have h0 := (Below.refl w.heap.size w).alloc (Nat.le_refl _) (.cells #[.int .i64 id, .bool r, .int .i64 n, .int .u8 (d 0), .int .u8 (d 1), .int .u8 (d 2), .int .u8 (d 3), .int .u8 (d 4), .int .u8 (d 5), .int .u8 (d 6), .int .u8 (d 7)] 27)
  have e2 : EmAt ((w.alloc (.cells #[.int .i64 id, .bool r, .int .i64 n, .int .u8 (d 0), .int .u8 (d 1), .int .u8 (d 2), .int .u8 (d 3), .int .u8 (d 4), .int .u8 (d 5), .int .u8 (d 6), .int .u8 (d 7)] 27)).alloc (.cells #[.int .i64 0, .int .i64 0, .int .u8 0, .int .u8 0, .int .u8 0, .int .u8 0, .int .u8 0, .int .u8 0] 24)) (w.heap.size + 1) 0 0 0 (fun _ => 0) := by
    have := heap_alloc_new (w.alloc (.cells #[.int .i64 id, .bool r, .int .i64 n, .int .u8 (d 0), .int .u8 (d 1), .int .u8 (d 2), .int .u8 (d 3), .int .u8 (d 4), .int .u8 (d 5), .int .u8 (d 6), .int .u8 (d 7)] 27)) (.cells #[.int .i64 0, .int .i64 0, .int .u8 0, .int .u8 0, .int .u8 0, .int .u8 0, .int .u8 0, .int .u8 0] 24)
    have hz : (w.alloc (.cells #[.int .i64 id, .bool r, .int .i64 n, .int .u8 (d 0), .int .u8 (d 1), .int .u8 (d 2), .int .u8 (d 3), .int .u8 (d 4), .int .u8 (d 5), .int .u8 (d 6), .int .u8 (d 7)] 27)).heap.size = w.heap.size + 1 := by simp
    rw [hz] at this
    exact this
  exact ⟨heap_alloc2_old w _ _, e2, h0.alloc (by simp) _⟩
end
theorem EmAt.grown {w w' : World} {g : Nat} {nd cd rg : Int} {i : Nat → Int} {row : Option Nat} (h : EmAt w g nd cd rg i) (hb : w.grownBy w' row) (hne : row ≠ some g) : EmAt w' g nd cd rg i := (hb.block g h.lt (fun e => hne e.symm)).trans h
theorem EmAt.setc {w : World} {g : Nat} {nd cd rg : Int} {i : Nat → Int} (e : EmAt w g nd cd rg i) (j : Nat) (v : Value) {nd' cd' rg' : Int} (he : (#[.int .i64 nd, .int .i64 cd, .int .u8 rg, .int .u8 (i 0), .int .u8 (i 1), .int .u8 (i 2), .int .u8 (i 3), .int .u8 (i 4)] : Array Value).setIfInBounds j v = #[.int .i64 nd', .int .i64 cd', .int .u8 rg', .int .u8 (i 0), .int .u8 (i 1), .int .u8 (i 2), .int .u8 (i 3), .int .u8 (i 4)]) : EmAt (w.setCell ⟨g, j, none⟩ v) g nd' cd' rg' i := by
  show (w.setCell ⟨g, j, none⟩ v).heap[g]? = _
  rw [← he]
  exact heap_setCell_same w g j _ _ _ e
theorem DeS.setc {w x : World} {id n : Int} {r : Bool} {d : Nat → Int} {g : Nat} (h : DeS w id r n d x) (hg : w.heap.size + 1 < g) (j : Nat) (v : Value) : DeS w id r n d (x.setCell ⟨g, j, none⟩ v) :=
  ⟨(Below.heap_setCell x ⟨g, j, none⟩ v _ (show w.heap.size ≠ g by omega)).trans h.fr, (Below.heap_setCell x ⟨g, j, none⟩ v _ (show w.heap.size + 1 ≠ g by omega)).trans h.em, h.bel.setCell (p := ⟨g, j, none⟩) (show w.heap.size ≤ g by omega) v⟩
theorem DeS.row {w x : World} {id n : Int} {r : Bool} {d : Nat → Int} {g : Nat} (h : DeS w id r n d x) (hg : w.heap.size + 1 < g) (cs : Array Value) : DeS w id r n d (x.setRow g cs) :=
  ⟨h.fr.row_other (by omega) cs, (setRow_other x g _ cs (by omega)).trans h.em, below_setRow h.bel (by omega) cs⟩
theorem RdAt.setc_of {w : World} {gr g : Nat} {er : Int} {A : Option Addr} {n c : Nat} (h : RdAt w gr er A n c) (hne : gr ≠ g) (j : Nat) (v : Value) : RdAt (w.setCell ⟨g, j, none⟩ v) gr er A n c := (Below.heap_setCell w ⟨g, j, none⟩ v gr hne).trans h
theorem RrPost_five (W : World) (g : Nat) (a b c d e : Int) : RrPost W g 0 5 [a, b, c, d, e] = fun en w' => ∃ A' c' A2 c2, en = .returned (.slice A2 5 c2) ∧ Byt w' w'.heap.size A2 5 c2 [a, b, c, d, e] ∧ RdAt w' g 0 A' 0 c' ∧ Byt w' g A' 0 c' [] ∧ W.grownBy w' (some g) := by
  funext en w'
  unfold RrPost
  rw [(raw5 a b c d e).1, (raw5 a b c d e).2.1, (raw5 a b c d e).2.2]
  rfl
theorem em_own {d : Nat → Int} (k : Int) (hd : ∀ j, j < 8 → 0 ≤ d j ∧ d j ≤ 255) (hk : isNI k = true) (w : World) : Calls Try.prog 6 #[.agg #[.int .i64 k, .int .i64 (d 0 + 256 * d 1), .int .u8 (d 2), .int .u8 (d 3), .int .u8 (d 4), .int .u8 (d 5), .int .u8 (d 6), .int .u8 (d 7)]] w fun e w' => e = .returned (.tuple #[.agg #[.int .i64 (128 + k), .bool false, .int .i64 8, .int .u8 (d 0), .int .u8 (d 1), .int .u8 (d 2), .int .u8 (d 3), .int .u8 (d 4), .int .u8 (d 5), .int .u8 (d 6), .int .u8 (d 7)], .int .i64 0]) ∧ Below w.heap.size w w' := by
  have h0 := hd 0 (by omega)
  have h1 := hd 1 (by omega)
  have h2 := hd 2 (by omega)
  have h := enc_yes k (d 0 + 256 * d 1) (d 2) (fun j => d (j + 3)) w hk (by unfold isCd; exact decide_eq_true ⟨by omega, by omega⟩) h2.1 h2.2 (fun j hj => hd (j + 3) (by omega))
  rw [show (d 0 + 256 * d 1) % 256 = d 0 by omega, show (d 0 + 256 * d 1) / 256 = d 1 by omega] at h
  exact h
theorem em_none {d : Nat → Int} (k : Int) (hk : isNI k = false) (w : World) : Calls Try.prog 6 #[.agg #[.int .i64 k, .int .i64 (d 0 + 256 * d 1), .int .u8 (d 2), .int .u8 (d 3), .int .u8 (d 4), .int .u8 (d 5), .int .u8 (d 6), .int .u8 (d 7)]] w fun e w' => e = .returned (.tuple #[.agg #[.int .i64 0, .bool false, .int .i64 0, .int .u8 0, .int .u8 0, .int .u8 0, .int .u8 0, .int .u8 0, .int .u8 0, .int .u8 0, .int .u8 0], .int .i64 3]) ∧ Below w.heap.size w w' :=
  enc_node k (d 0 + 256 * d 1) (d 2) (fun j => d (j + 3)) w hk
set_option maxRecDepth 100000 in
set_option maxHeartbeats 4000000 in
theorem dec_yes (id n k : Int) (r : Bool) (d : Nat → Int) (w : World) (hd : ∀ j, j < 8 → 0 ≤ d j ∧ d j ≤ 255) (hk : bits .and .i64 id 127 = k) (hn : isNI k = true) (hq : decide (128 + k = id ∧ false = r ∧ (8 : Int) = n) = true) :
    Calls Try.prog 8 #[.agg #[.int .i64 id, .bool r, .int .i64 n, .int .u8 (d 0), .int .u8 (d 1), .int .u8 (d 2), .int .u8 (d 3), .int .u8 (d 4), .int .u8 (d 5), .int .u8 (d 6), .int .u8 (d 7)]] w fun e w' => e = .returned (.tuple #[.agg #[.int .i64 k, .int .i64 (d 0 + 256 * d 1), .int .u8 (d 2), .int .u8 (d 3), .int .u8 (d 4), .int .u8 (d 5), .int .u8 (d 6), .int .u8 (d 7)], .int .i64 0]) ∧ Below w.heap.size w w' := by
  have HEN := Lib.hid (fun w => em_own k hd hn w)
  have HQ := Lib.hid (show ∀ w, (Op.equalIn 10000 27 (.agg #[.int .i64 (128 + k), .bool false, .int .i64 8, .int .u8 (d 0), .int .u8 (d 1), .int .u8 (d 2), .int .u8 (d 3), .int .u8 (d 4), .int .u8 (d 5), .int .u8 (d 6), .int .u8 (d 7)]) (.agg #[.int .i64 id, .bool r, .int .i64 n, .int .u8 (d 0), .int .u8 (d 1), .int .u8 (d 2), .int .u8 (d 3), .int .u8 (d 4), .int .u8 (d 5), .int .u8 (d 6), .int .u8 (d 7)])).run Try.prog w = .ok true w from fun w => (run_eq_frames w (128 + k) id 8 n false r d d).trans (by rw [show eqD d d = true by simp [eqD], Bool.and_true, hq]))
  clear hn hq
  have HS := Lib.hid (deS_start (w := w) (id := id) (r := r) (n := n) (d := d))
  have hd0 := hd 0 (by omega)
  have hd1 := hd 1 (by omega)
  have hd2 := hd 2 (by omega)
  have HDB := Lib.hid hd
  have e2 : IntKind.u8.wrap (d 2) = d 2 := IntWalk.u8_in _ ⟨by omega, by omega⟩
  obtain ⟨c0, c1, c2, c3, c4, c5, c6, c7, c8, c9, c10⟩ := HS.out.fr.cells
  go_enter Try.func8, Try.ntmps8
  go_upto_region 2 with (go_at_call 31; refine (new_any _ (some ⟨w.heap.size, 3, none⟩) 8 8 [d 0, d 1, d 2, d 3, d 4, d 5, d 6, d 7] (fr_byt HS.out.fr HDB.out) (by omega)).mono ?_; rintro e w1 ⟨gr, A1, q1, rfl, hgr, hr1, hy1, hb1, -⟩; have HR1 := Lib.hid hr1; have HY1 := Lib.hid hy1; have HS1 := Lib.hid (HS.out.below hb1); have HGR := Lib.hid (show w.heap.size + 1 < gr from Nat.lt_of_lt_of_le HS.out.lt hgr); clear hr1 hy1 hb1 hgr c0 c1 c2 c3 c4 c5 c6 c7 c8 c9 c10)
  clear HS
  obtain ⟨c0, c1, c2, c3, c4, c5, c6, c7, c8, c9, c10⟩ := HS1.out.fr.cells
  go_upto_region 3 with fail
  clear c0 c1 c2 c3 c4 c5 c6 c7 c8 c9 c10
  have hba : Below w1.heap.size w1 (w1.alloc (.cells #[.int .i64 k, .int .i64 0, .int .u8 0, .int .u8 0, .int .u8 0, .int .u8 0, .int .u8 0, .int .u8 0] 24)) := (Below.refl _ _).alloc (Nat.le_refl _) _
  have HX2 := Lib.hid (show EmAt (w1.alloc (.cells #[.int .i64 k, .int .i64 0, .int .u8 0, .int .u8 0, .int .u8 0, .int .u8 0, .int .u8 0, .int .u8 0] 24)) w1.heap.size k 0 0 (fun _ => 0) from heap_alloc_new w1 _)
  have HS2 := Lib.hid (HS1.out.below hba)
  have HR2 := Lib.hid (HR1.out.below hba HR1.out.lt)
  have HY2 := Lib.hid (HY1.out.keep (fun b o hb => World.cell?_of_block (a := ⟨b, o, none⟩) (hba.block b (Nat.lt_trans hb HR1.out.lt))))
  have HGX := Lib.hid (show gr < w1.heap.size from HR1.out.lt)
  clear hba HS1 HR1 HY1
  generalize (w1.alloc (.cells #[.int .i64 k, .int .i64 0, .int .u8 0, .int .u8 0, .int .u8 0, .int .u8 0, .int .u8 0, .int .u8 0] 24)) = w2 at *
  generalize w1.heap.size = gx at *
  go_upto_region 4 with (go_at_call 32; refine (rnum2_any _ gr 0 3 A1 8 q1 [d 0, d 1, d 2, d 3, d 4, d 5, d 6, d 7] HR2.out HY2.out).mono ?_; rintro e w3 ⟨A3, q3, rfl, hr3, hy3, hg3, -⟩; rw [(num2 hd0 hd1).1, (num2 hd0 hd1).2.2] at hr3; rw [(num2 hd0 hd1).2.2] at hy3; rw [(num2 hd0 hd1).2.1]; have HR3 := Lib.hid hr3; have HY3 := Lib.hid hy3; have HS3 := Lib.hid (HS2.out.grown hg3 (fun k hk => by cases hk; exact HGR.out)); have HX3 := Lib.hid (HX2.out.grown hg3 (fun h => by injection h with h; have := HGX.out; omega)); clear hr3 hy3 hg3; obtain ⟨x0, x1, x2, x3, x4, x5, x6, x7⟩ := HX3.out.cells; have f1 := HX3.out.frozen 1)
  clear HR2 HY2 HS2 HX2
  have HX4 := Lib.hid (show EmAt (w3.setCell ⟨gx, 1, none⟩ (.int .i64 (d 0 + 256 * d 1))) gx k (d 0 + 256 * d 1) 0 (fun _ => 0) from HX3.out.setc 1 _ rfl)
  have HS4 := Lib.hid (HS3.out.setc (show w.heap.size + 1 < gx by have := HGX.out; have := HGR.out; omega) 1 (.int .i64 (d 0 + 256 * d 1)))
  have HR4 := Lib.hid (HR3.out.setc_of (show gr ≠ gx from Nat.ne_of_lt HGX.out) 1 (.int .i64 (d 0 + 256 * d 1)))
  have HY4 := Lib.hid (HY3.out.keep (w' := w3.setCell ⟨gx, 1, none⟩ (.int .i64 (d 0 + 256 * d 1))) (fun b o hb => World.cell?_of_block (a := ⟨b, o, none⟩) (Below.heap_setCell w3 ⟨gx, 1, none⟩ _ b (by have := HGX.out; show b ≠ gx; omega))))
  clear HR3 HY3 HS3 HX3 x0 x1 x2 x3 x4 x5 x6 x7 f1
  generalize w3.setCell ⟨gx, 1, none⟩ (.int .i64 (d 0 + 256 * d 1)) = w4 at *
  go_upto_region 5 with (go_at_call 32; refine (rnum2_any _ gr 0 2 A3 6 q3 [d 2, d 3, d 4, d 5, d 6, d 7] HR4.out HY4.out).mono ?_; rintro e w5 ⟨A5, q5, rfl, hr5, hy5, hg5, -⟩; rw [(num1 hd2).1, (num1 hd2).2.2] at hr5; rw [(num1 hd2).2.2] at hy5; rw [(num1 hd2).2.1]; have HR5 := Lib.hid hr5; have HY5 := Lib.hid hy5; have HS5 := Lib.hid (HS4.out.grown hg5 (fun k hk => by cases hk; exact HGR.out)); have HX5 := Lib.hid (HX4.out.grown hg5 (fun h => by injection h with h; have := HGX.out; omega)); clear hr5 hy5 hg5; obtain ⟨x0, x1, x2, x3, x4, x5, x6, x7⟩ := HX5.out.cells; have f1 := HX5.out.frozen 2)
  clear HR4 HY4 HS4 HX4
  have HX6 := Lib.hid (show EmAt (w5.setCell ⟨gx, 2, none⟩ (.int .u8 (d 2))) gx k (d 0 + 256 * d 1) (d 2) (fun _ => 0) from HX5.out.setc 2 _ rfl)
  have HS6 := Lib.hid (HS5.out.setc (show w.heap.size + 1 < gx by have := HGX.out; have := HGR.out; omega) 2 (.int .u8 (d 2)))
  have HR6 := Lib.hid (HR5.out.setc_of (show gr ≠ gx from Nat.ne_of_lt HGX.out) 2 (.int .u8 (d 2)))
  have HY6 := Lib.hid (HY5.out.keep (w' := w5.setCell ⟨gx, 2, none⟩ (.int .u8 (d 2))) (fun b o hb => World.cell?_of_block (a := ⟨b, o, none⟩) (Below.heap_setCell w5 ⟨gx, 2, none⟩ _ b (by have := HGX.out; show b ≠ gx; omega))))
  clear HR5 HY5 HS5 HX5 x0 x1 x2 x3 x4 x5 x6 x7 f1
  generalize w5.setCell ⟨gx, 2, none⟩ (.int .u8 (d 2)) = w6 at *
  refine wp_region_last (fun _ => True) 4 (by kernel_rfl) trivial (fun hHeld => ?_)
  have HX7 : Hid (EmAt w6.drew gx k (d 0 + 256 * d 1) (d 2) (fun _ => 0)) := HX6
  have HR7 : Hid (RdAt w6.drew gr 0 A5 5 q5) := HR6
  have HY7 : Hid (Byt w6.drew gr A5 5 q5 [d 3, d 4, d 5, d 6, d 7]) := Lib.hid (HY6.out.keep (fun _ _ _ => rfl))
  have HS7 := Lib.hid (HS6.out.below (kD w6))
  clear HX6 HR6 HY6 HS6
  generalize w6.drew = w7 at *
  refine wpAnyL_take (i := 0) (v := ?_) rfl (by kernel_rfl) (by kernel_rfl) (by kernel_rfl) (by kernel_rfl) (by kernel_rfl) (fun _ _ _ h => h) (Or.inl ⟨by rfl, ?_⟩) (by assumption) ?_
  rotate_left
  · intro wq hSw; (try dsimp only at hSw); first | (go_simp; done) | (go_simp; with_reducible rfl) | with_reducible rfl
  try simp only [Act.put, List.setIfInBounds_toArray, List.set_cons_zero, List.set_cons_succ, List.getElem_toArray, List.getElem_cons_zero, List.getElem_cons_succ]
  refine wpAnyL_take (i := 1) (v := .slice (some ⟨gx, 3, none⟩) 5 5) rfl (by kernel_rfl) (by kernel_rfl) (by kernel_rfl) (by kernel_rfl) (by kernel_rfl) (fun _ _ _ h => h) (Or.inl ⟨by rfl, ?_⟩) (by assumption) ?_
  · intro wq hSw; (try dsimp only at hSw); first | (go_simp; done) | (go_simp; with_reducible rfl) | with_reducible rfl
  try simp only [Act.put, List.setIfInBounds_toArray, List.set_cons_zero, List.set_cons_succ, List.getElem_toArray, List.getElem_cons_zero, List.getElem_cons_succ]
  refine wpAnyL_take (i := 2) (v := ?_) rfl (by kernel_rfl) (by kernel_rfl) (by kernel_rfl) (by kernel_rfl) (by kernel_rfl) (fun _ _ _ h => h) (Or.inl ⟨by rfl, ?_⟩) (by assumption) ?_
  rotate_left
  · intro wq hSw; (try dsimp only at hSw); first | (go_simp; done) | (go_simp; with_reducible rfl) | with_reducible rfl
  try simp only [Act.put, List.setIfInBounds_toArray, List.set_cons_zero, List.set_cons_succ, List.getElem_toArray, List.getElem_cons_zero, List.getElem_cons_succ]
  refine wpAnyL_ready (rs := [3]) (by kernel_rfl) (by simp) ?_
  refine (AllReadyL.cons rfl (fun K hK => ?_) AllReadyL.nil)
  go_simp
  go_wp2_with fail
  refine (rraw_any _ gr 0 5 A5 5 q5 [d 3, d 4, d 5, d 6, d 7] HR7.out HY7.out (by omega)).mono ?_
  rw [RrPost_five]
  rintro e w8 ⟨-, -, A8, q8, rfl, hy8, -, -, hg8⟩
  have HY8 := Lib.hid hy8
  have HS8 := Lib.hid (HS7.out.grown hg8 (fun k hk => by cases hk; exact HGR.out))
  have HX8 := Lib.hid (HX7.out.grown hg8 (fun h => by injection h with h; have := HGX.out; omega))
  clear hy8 hg8 HX7 HR7 HY7 HS7
  refine hK.out _ _ ?_ (fun hHeld => ?_)
  · exact trivial
  clear hK K
  refine wpAnyL_ready (rs := [4]) (by kernel_rfl) (by simp) ?_
  refine AllReadyL.last rfl (fun K hK => ?_)
  refine Eq.mpr (if_pos (by kernel_rfl)) ?_
  refine wp_copy_row (.tmp 23) (.tmp 25) rfl rfl rfl HY8.out HX8.out (by simp) ?_
  intro w9 cur' hc1 hc2 hc3 hg9
  have hce := em_copied (i := fun _ => 0) hc2 hc3
  subst hce
  have HX9 := Lib.hid (show EmAt w9 gx k (d 0 + 256 * d 1) (d 2) (fun j => d (j + 3)) from hc1)
  have HS9 := Lib.hid (HS8.out.grown hg9 (fun k hk => by cases hk; have := HGX.out; have := HGR.out; omega))
  clear hc1 hc2 hc3 hg9 HY8 HS8 HX8
  refine hK.out _ _ ?_
  clear hK K
  refine wpAnyL_done (by kernel_rfl) ?_ _
  clear hHeld
  go_simp
  go_upto_region 7 with (first
    | (refine wpList_load_row rfl _ (.tmp 5) rfl gx rfl _ _ _ _ HX9.out Try.underlying24 rfl info_em ?_)
    | (go_at_call 6; refine (HEN.out _).mono ?_; rintro e w10 ⟨rfl, hb10⟩; have HX10 := Lib.hid (HX9.out.below hb10 HX9.out.lt); have HS10 := Lib.hid (HS9.out.below hb10); have HO10 := Lib.hid (frame_new w10 0 0 false (fun _ => 0)); have hba : Below w10.heap.size w10 (w10.alloc (.cells #[.int .i64 0, .bool false, .int .i64 0, .int .u8 0, .int .u8 0, .int .u8 0, .int .u8 0, .int .u8 0, .int .u8 0, .int .u8 0, .int .u8 0] 27)) := (Below.refl _ _).alloc (Nat.le_refl _) _; have HX11 := Lib.hid (HX10.out.below hba HX10.out.lt); have HS11 := Lib.hid (HS10.out.below hba); have HL11 := Lib.hid (show gx < w10.heap.size from HX10.out.lt); clear hb10 hba)
    | (refine wpList_store_row rfl _ (.tmp 6) (.tmp 30) rfl w10.heap.size _ rfl rfl _ _ HO10.out info_frame rfl (one_frame (128 + k) 8 false d) ?_))
  have HO12 := Lib.hid (show FrAt ((w10.alloc (.cells #[.int .i64 0, .bool false, .int .i64 0, .int .u8 0, .int .u8 0, .int .u8 0, .int .u8 0, .int .u8 0, .int .u8 0, .int .u8 0, .int .u8 0] 27)).setRow w10.heap.size #[.int .i64 (128 + k), .bool false, .int .i64 8, .int .u8 (d 0), .int .u8 (d 1), .int .u8 (d 2), .int .u8 (d 3), .int .u8 (d 4), .int .u8 (d 5), .int .u8 (d 6), .int .u8 (d 7)]) w10.heap.size (128 + k) false 8 d from HO10.out.row (128 + k) 8 false d)
  have HX12 := Lib.hid (show EmAt ((w10.alloc (.cells #[.int .i64 0, .bool false, .int .i64 0, .int .u8 0, .int .u8 0, .int .u8 0, .int .u8 0, .int .u8 0, .int .u8 0, .int .u8 0, .int .u8 0] 27)).setRow w10.heap.size #[.int .i64 (128 + k), .bool false, .int .i64 8, .int .u8 (d 0), .int .u8 (d 1), .int .u8 (d 2), .int .u8 (d 3), .int .u8 (d 4), .int .u8 (d 5), .int .u8 (d 6), .int .u8 (d 7)]) gx k (d 0 + 256 * d 1) (d 2) (fun j => d (j + 3)) from (setRow_other _ _ _ _ (Nat.ne_of_lt HL11.out)).trans HX11.out)
  have HS12 := Lib.hid (HS11.out.row (show w.heap.size + 1 < w10.heap.size from HS10.out.lt) #[.int .i64 (128 + k), .bool false, .int .i64 8, .int .u8 (d 0), .int .u8 (d 1), .int .u8 (d 2), .int .u8 (d 3), .int .u8 (d 4), .int .u8 (d 5), .int .u8 (d 6), .int .u8 (d 7)])
  clear HX9 HS9 HX10 HS10 HX11 HS11 HO10 HL11 HGR HGX HEN
  generalize (w10.alloc (.cells #[.int .i64 0, .bool false, .int .i64 0, .int .u8 0, .int .u8 0, .int .u8 0, .int .u8 0, .int .u8 0, .int .u8 0, .int .u8 0, .int .u8 0] 27)).setRow w10.heap.size #[.int .i64 (128 + k), .bool false, .int .i64 8, .int .u8 (d 0), .int .u8 (d 1), .int .u8 (d 2), .int .u8 (d 3), .int .u8 (d 4), .int .u8 (d 5), .int .u8 (d 6), .int .u8 (d 7)] = w12 at *
  generalize w10.heap.size = go at *
  obtain ⟨c0, c1, c2, c3, c4, c5, c6, c7, c8, c9, c10⟩ := HS12.out.fr.cells
  obtain ⟨y0, y1, y2, y3, y4, y5, y6, y7, y8, y9, y10⟩ : w12.cell? ⟨go, 0, none⟩ = some (.int .i64 (128 + k)) ∧ w12.cell? ⟨go, 1, none⟩ = some (.bool false) ∧ w12.cell? ⟨go, 2, none⟩ = some (.int .i64 8) ∧ w12.cell? ⟨go, 3, none⟩ = some (.int .u8 (d 0)) ∧ w12.cell? ⟨go, 4, none⟩ = some (.int .u8 (d 1)) ∧ w12.cell? ⟨go, 5, none⟩ = some (.int .u8 (d 2)) ∧ w12.cell? ⟨go, 6, none⟩ = some (.int .u8 (d 3)) ∧ w12.cell? ⟨go, 7, none⟩ = some (.int .u8 (d 4)) ∧ w12.cell? ⟨go, 8, none⟩ = some (.int .u8 (d 5)) ∧ w12.cell? ⟨go, 9, none⟩ = some (.int .u8 (d 6)) ∧ w12.cell? ⟨go, 10, none⟩ = some (.int .u8 (d 7)) := HO12.out.cells
  have hq := HQ.out
  go_wp2_with (first
    | (refine wpList_load_row rfl _ (.tmp 5) rfl gx rfl _ _ _ _ HX12.out Try.underlying24 rfl info_em ?_)
    | (refine wpList_store_row rfl _ (.tmp 2) (.tmp 40) rfl (w.heap.size + 1) _ rfl rfl _ _ HS12.out.em info_em rfl (one_em k (d 0 + 256 * d 1) (d 2) (fun j => d (j + 3))) ?_))
  all_goals first | exact bodyPost_ret (results_cell_tmp_row rfl _ _ (w.heap.size + 1) _ _ _ _ rfl (setRow_heap _ _ _ _ _ (0, 0) HS12.out.em) Try.underlying24 rfl info_em) rfl ⟨rfl, below_setRow HS12.out.bel (by omega) _⟩ | (trace_state; sorry)
set_option maxRecDepth 100000 in
set_option maxHeartbeats 4000000 in
theorem dec_other (id n k : Int) (r : Bool) (d : Nat → Int) (w : World) (hd : ∀ j, j < 8 → 0 ≤ d j ∧ d j ≤ 255) (hk : bits .and .i64 id 127 = k) (hn : isNI k = true) (hq : decide (128 + k = id ∧ false = r ∧ (8 : Int) = n) = false) :
    Calls Try.prog 8 #[.agg #[.int .i64 id, .bool r, .int .i64 n, .int .u8 (d 0), .int .u8 (d 1), .int .u8 (d 2), .int .u8 (d 3), .int .u8 (d 4), .int .u8 (d 5), .int .u8 (d 6), .int .u8 (d 7)]] w fun e w' => e = .returned (.tuple #[.agg #[.int .i64 0, .int .i64 0, .int .u8 0, .int .u8 0, .int .u8 0, .int .u8 0, .int .u8 0, .int .u8 0], .int .i64 4]) ∧ Below w.heap.size w w' := by
  have HEN := Lib.hid (fun w => em_own k hd hn w)
  have HQ := Lib.hid (show ∀ w, (Op.equalIn 10000 27 (.agg #[.int .i64 (128 + k), .bool false, .int .i64 8, .int .u8 (d 0), .int .u8 (d 1), .int .u8 (d 2), .int .u8 (d 3), .int .u8 (d 4), .int .u8 (d 5), .int .u8 (d 6), .int .u8 (d 7)]) (.agg #[.int .i64 id, .bool r, .int .i64 n, .int .u8 (d 0), .int .u8 (d 1), .int .u8 (d 2), .int .u8 (d 3), .int .u8 (d 4), .int .u8 (d 5), .int .u8 (d 6), .int .u8 (d 7)])).run Try.prog w = .ok false w from fun w => (run_eq_frames w (128 + k) id 8 n false r d d).trans (by rw [show eqD d d = true by simp [eqD], Bool.and_true, hq]))
  clear hn hq
  have HS := Lib.hid (deS_start (w := w) (id := id) (r := r) (n := n) (d := d))
  have hd0 := hd 0 (by omega)
  have hd1 := hd 1 (by omega)
  have hd2 := hd 2 (by omega)
  have HDB := Lib.hid hd
  have e2 : IntKind.u8.wrap (d 2) = d 2 := IntWalk.u8_in _ ⟨by omega, by omega⟩
  obtain ⟨c0, c1, c2, c3, c4, c5, c6, c7, c8, c9, c10⟩ := HS.out.fr.cells
  go_enter Try.func8, Try.ntmps8
  go_upto_region 2 with (go_at_call 31; refine (new_any _ (some ⟨w.heap.size, 3, none⟩) 8 8 [d 0, d 1, d 2, d 3, d 4, d 5, d 6, d 7] (fr_byt HS.out.fr HDB.out) (by omega)).mono ?_; rintro e w1 ⟨gr, A1, q1, rfl, hgr, hr1, hy1, hb1, -⟩; have HR1 := Lib.hid hr1; have HY1 := Lib.hid hy1; have HS1 := Lib.hid (HS.out.below hb1); have HGR := Lib.hid (show w.heap.size + 1 < gr from Nat.lt_of_lt_of_le HS.out.lt hgr); clear hr1 hy1 hb1 hgr c0 c1 c2 c3 c4 c5 c6 c7 c8 c9 c10)
  clear HS
  obtain ⟨c0, c1, c2, c3, c4, c5, c6, c7, c8, c9, c10⟩ := HS1.out.fr.cells
  go_upto_region 3 with fail
  clear c0 c1 c2 c3 c4 c5 c6 c7 c8 c9 c10
  have hba : Below w1.heap.size w1 (w1.alloc (.cells #[.int .i64 k, .int .i64 0, .int .u8 0, .int .u8 0, .int .u8 0, .int .u8 0, .int .u8 0, .int .u8 0] 24)) := (Below.refl _ _).alloc (Nat.le_refl _) _
  have HX2 := Lib.hid (show EmAt (w1.alloc (.cells #[.int .i64 k, .int .i64 0, .int .u8 0, .int .u8 0, .int .u8 0, .int .u8 0, .int .u8 0, .int .u8 0] 24)) w1.heap.size k 0 0 (fun _ => 0) from heap_alloc_new w1 _)
  have HS2 := Lib.hid (HS1.out.below hba)
  have HR2 := Lib.hid (HR1.out.below hba HR1.out.lt)
  have HY2 := Lib.hid (HY1.out.keep (fun b o hb => World.cell?_of_block (a := ⟨b, o, none⟩) (hba.block b (Nat.lt_trans hb HR1.out.lt))))
  have HGX := Lib.hid (show gr < w1.heap.size from HR1.out.lt)
  clear hba HS1 HR1 HY1
  generalize (w1.alloc (.cells #[.int .i64 k, .int .i64 0, .int .u8 0, .int .u8 0, .int .u8 0, .int .u8 0, .int .u8 0, .int .u8 0] 24)) = w2 at *
  generalize w1.heap.size = gx at *
  go_upto_region 4 with (go_at_call 32; refine (rnum2_any _ gr 0 3 A1 8 q1 [d 0, d 1, d 2, d 3, d 4, d 5, d 6, d 7] HR2.out HY2.out).mono ?_; rintro e w3 ⟨A3, q3, rfl, hr3, hy3, hg3, -⟩; rw [(num2 hd0 hd1).1, (num2 hd0 hd1).2.2] at hr3; rw [(num2 hd0 hd1).2.2] at hy3; rw [(num2 hd0 hd1).2.1]; have HR3 := Lib.hid hr3; have HY3 := Lib.hid hy3; have HS3 := Lib.hid (HS2.out.grown hg3 (fun k hk => by cases hk; exact HGR.out)); have HX3 := Lib.hid (HX2.out.grown hg3 (fun h => by injection h with h; have := HGX.out; omega)); clear hr3 hy3 hg3; obtain ⟨x0, x1, x2, x3, x4, x5, x6, x7⟩ := HX3.out.cells; have f1 := HX3.out.frozen 1)
  clear HR2 HY2 HS2 HX2
  have HX4 := Lib.hid (show EmAt (w3.setCell ⟨gx, 1, none⟩ (.int .i64 (d 0 + 256 * d 1))) gx k (d 0 + 256 * d 1) 0 (fun _ => 0) from HX3.out.setc 1 _ rfl)
  have HS4 := Lib.hid (HS3.out.setc (show w.heap.size + 1 < gx by have := HGX.out; have := HGR.out; omega) 1 (.int .i64 (d 0 + 256 * d 1)))
  have HR4 := Lib.hid (HR3.out.setc_of (show gr ≠ gx from Nat.ne_of_lt HGX.out) 1 (.int .i64 (d 0 + 256 * d 1)))
  have HY4 := Lib.hid (HY3.out.keep (w' := w3.setCell ⟨gx, 1, none⟩ (.int .i64 (d 0 + 256 * d 1))) (fun b o hb => World.cell?_of_block (a := ⟨b, o, none⟩) (Below.heap_setCell w3 ⟨gx, 1, none⟩ _ b (by have := HGX.out; show b ≠ gx; omega))))
  clear HR3 HY3 HS3 HX3 x0 x1 x2 x3 x4 x5 x6 x7 f1
  generalize w3.setCell ⟨gx, 1, none⟩ (.int .i64 (d 0 + 256 * d 1)) = w4 at *
  go_upto_region 5 with (go_at_call 32; refine (rnum2_any _ gr 0 2 A3 6 q3 [d 2, d 3, d 4, d 5, d 6, d 7] HR4.out HY4.out).mono ?_; rintro e w5 ⟨A5, q5, rfl, hr5, hy5, hg5, -⟩; rw [(num1 hd2).1, (num1 hd2).2.2] at hr5; rw [(num1 hd2).2.2] at hy5; rw [(num1 hd2).2.1]; have HR5 := Lib.hid hr5; have HY5 := Lib.hid hy5; have HS5 := Lib.hid (HS4.out.grown hg5 (fun k hk => by cases hk; exact HGR.out)); have HX5 := Lib.hid (HX4.out.grown hg5 (fun h => by injection h with h; have := HGX.out; omega)); clear hr5 hy5 hg5; obtain ⟨x0, x1, x2, x3, x4, x5, x6, x7⟩ := HX5.out.cells; have f1 := HX5.out.frozen 2)
  clear HR4 HY4 HS4 HX4
  have HX6 := Lib.hid (show EmAt (w5.setCell ⟨gx, 2, none⟩ (.int .u8 (d 2))) gx k (d 0 + 256 * d 1) (d 2) (fun _ => 0) from HX5.out.setc 2 _ rfl)
  have HS6 := Lib.hid (HS5.out.setc (show w.heap.size + 1 < gx by have := HGX.out; have := HGR.out; omega) 2 (.int .u8 (d 2)))
  have HR6 := Lib.hid (HR5.out.setc_of (show gr ≠ gx from Nat.ne_of_lt HGX.out) 2 (.int .u8 (d 2)))
  have HY6 := Lib.hid (HY5.out.keep (w' := w5.setCell ⟨gx, 2, none⟩ (.int .u8 (d 2))) (fun b o hb => World.cell?_of_block (a := ⟨b, o, none⟩) (Below.heap_setCell w5 ⟨gx, 2, none⟩ _ b (by have := HGX.out; show b ≠ gx; omega))))
  clear HR5 HY5 HS5 HX5 x0 x1 x2 x3 x4 x5 x6 x7 f1
  generalize w5.setCell ⟨gx, 2, none⟩ (.int .u8 (d 2)) = w6 at *
  refine wp_region_last (fun _ => True) 4 (by kernel_rfl) trivial (fun hHeld => ?_)
  have HX7 : Hid (EmAt w6.drew gx k (d 0 + 256 * d 1) (d 2) (fun _ => 0)) := HX6
  have HR7 : Hid (RdAt w6.drew gr 0 A5 5 q5) := HR6
  have HY7 : Hid (Byt w6.drew gr A5 5 q5 [d 3, d 4, d 5, d 6, d 7]) := Lib.hid (HY6.out.keep (fun _ _ _ => rfl))
  have HS7 := Lib.hid (HS6.out.below (kD w6))
  clear HX6 HR6 HY6 HS6
  generalize w6.drew = w7 at *
  refine wpAnyL_take (i := 0) (v := ?_) rfl (by kernel_rfl) (by kernel_rfl) (by kernel_rfl) (by kernel_rfl) (by kernel_rfl) (fun _ _ _ h => h) (Or.inl ⟨by rfl, ?_⟩) (by assumption) ?_
  rotate_left
  · intro wq hSw; (try dsimp only at hSw); first | (go_simp; done) | (go_simp; with_reducible rfl) | with_reducible rfl
  try simp only [Act.put, List.setIfInBounds_toArray, List.set_cons_zero, List.set_cons_succ, List.getElem_toArray, List.getElem_cons_zero, List.getElem_cons_succ]
  refine wpAnyL_take (i := 1) (v := .slice (some ⟨gx, 3, none⟩) 5 5) rfl (by kernel_rfl) (by kernel_rfl) (by kernel_rfl) (by kernel_rfl) (by kernel_rfl) (fun _ _ _ h => h) (Or.inl ⟨by rfl, ?_⟩) (by assumption) ?_
  · intro wq hSw; (try dsimp only at hSw); first | (go_simp; done) | (go_simp; with_reducible rfl) | with_reducible rfl
  try simp only [Act.put, List.setIfInBounds_toArray, List.set_cons_zero, List.set_cons_succ, List.getElem_toArray, List.getElem_cons_zero, List.getElem_cons_succ]
  refine wpAnyL_take (i := 2) (v := ?_) rfl (by kernel_rfl) (by kernel_rfl) (by kernel_rfl) (by kernel_rfl) (by kernel_rfl) (fun _ _ _ h => h) (Or.inl ⟨by rfl, ?_⟩) (by assumption) ?_
  rotate_left
  · intro wq hSw; (try dsimp only at hSw); first | (go_simp; done) | (go_simp; with_reducible rfl) | with_reducible rfl
  try simp only [Act.put, List.setIfInBounds_toArray, List.set_cons_zero, List.set_cons_succ, List.getElem_toArray, List.getElem_cons_zero, List.getElem_cons_succ]
  refine wpAnyL_ready (rs := [3]) (by kernel_rfl) (by simp) ?_
  refine (AllReadyL.cons rfl (fun K hK => ?_) AllReadyL.nil)
  go_simp
  go_wp2_with fail
  refine (rraw_any _ gr 0 5 A5 5 q5 [d 3, d 4, d 5, d 6, d 7] HR7.out HY7.out (by omega)).mono ?_
  rw [RrPost_five]
  rintro e w8 ⟨-, -, A8, q8, rfl, hy8, -, -, hg8⟩
  have HY8 := Lib.hid hy8
  have HS8 := Lib.hid (HS7.out.grown hg8 (fun k hk => by cases hk; exact HGR.out))
  have HX8 := Lib.hid (HX7.out.grown hg8 (fun h => by injection h with h; have := HGX.out; omega))
  clear hy8 hg8 HX7 HR7 HY7 HS7
  refine hK.out _ _ ?_ (fun hHeld => ?_)
  · exact trivial
  clear hK K
  refine wpAnyL_ready (rs := [4]) (by kernel_rfl) (by simp) ?_
  refine AllReadyL.last rfl (fun K hK => ?_)
  refine Eq.mpr (if_pos (by kernel_rfl)) ?_
  refine wp_copy_row (.tmp 23) (.tmp 25) rfl rfl rfl HY8.out HX8.out (by simp) ?_
  intro w9 cur' hc1 hc2 hc3 hg9
  have hce := em_copied (i := fun _ => 0) hc2 hc3
  subst hce
  have HX9 := Lib.hid (show EmAt w9 gx k (d 0 + 256 * d 1) (d 2) (fun j => d (j + 3)) from hc1)
  have HS9 := Lib.hid (HS8.out.grown hg9 (fun k hk => by cases hk; have := HGX.out; have := HGR.out; omega))
  clear hc1 hc2 hc3 hg9 HY8 HS8 HX8
  refine hK.out _ _ ?_
  clear hK K
  refine wpAnyL_done (by kernel_rfl) ?_ _
  clear hHeld
  go_simp
  go_upto_region 7 with (first
    | (refine wpList_load_row rfl _ (.tmp 5) rfl gx rfl _ _ _ _ HX9.out Try.underlying24 rfl info_em ?_)
    | (go_at_call 6; refine (HEN.out _).mono ?_; rintro e w10 ⟨rfl, hb10⟩; have HX10 := Lib.hid (HX9.out.below hb10 HX9.out.lt); have HS10 := Lib.hid (HS9.out.below hb10); have HO10 := Lib.hid (frame_new w10 0 0 false (fun _ => 0)); have hba : Below w10.heap.size w10 (w10.alloc (.cells #[.int .i64 0, .bool false, .int .i64 0, .int .u8 0, .int .u8 0, .int .u8 0, .int .u8 0, .int .u8 0, .int .u8 0, .int .u8 0, .int .u8 0] 27)) := (Below.refl _ _).alloc (Nat.le_refl _) _; have HX11 := Lib.hid (HX10.out.below hba HX10.out.lt); have HS11 := Lib.hid (HS10.out.below hba); have HL11 := Lib.hid (show gx < w10.heap.size from HX10.out.lt); clear hb10 hba)
    | (refine wpList_store_row rfl _ (.tmp 6) (.tmp 30) rfl w10.heap.size _ rfl rfl _ _ HO10.out info_frame rfl (one_frame (128 + k) 8 false d) ?_))
  have HO12 := Lib.hid (show FrAt ((w10.alloc (.cells #[.int .i64 0, .bool false, .int .i64 0, .int .u8 0, .int .u8 0, .int .u8 0, .int .u8 0, .int .u8 0, .int .u8 0, .int .u8 0, .int .u8 0] 27)).setRow w10.heap.size #[.int .i64 (128 + k), .bool false, .int .i64 8, .int .u8 (d 0), .int .u8 (d 1), .int .u8 (d 2), .int .u8 (d 3), .int .u8 (d 4), .int .u8 (d 5), .int .u8 (d 6), .int .u8 (d 7)]) w10.heap.size (128 + k) false 8 d from HO10.out.row (128 + k) 8 false d)
  have HX12 := Lib.hid (show EmAt ((w10.alloc (.cells #[.int .i64 0, .bool false, .int .i64 0, .int .u8 0, .int .u8 0, .int .u8 0, .int .u8 0, .int .u8 0, .int .u8 0, .int .u8 0, .int .u8 0] 27)).setRow w10.heap.size #[.int .i64 (128 + k), .bool false, .int .i64 8, .int .u8 (d 0), .int .u8 (d 1), .int .u8 (d 2), .int .u8 (d 3), .int .u8 (d 4), .int .u8 (d 5), .int .u8 (d 6), .int .u8 (d 7)]) gx k (d 0 + 256 * d 1) (d 2) (fun j => d (j + 3)) from (setRow_other _ _ _ _ (Nat.ne_of_lt HL11.out)).trans HX11.out)
  have HS12 := Lib.hid (HS11.out.row (show w.heap.size + 1 < w10.heap.size from HS10.out.lt) #[.int .i64 (128 + k), .bool false, .int .i64 8, .int .u8 (d 0), .int .u8 (d 1), .int .u8 (d 2), .int .u8 (d 3), .int .u8 (d 4), .int .u8 (d 5), .int .u8 (d 6), .int .u8 (d 7)])
  clear HX9 HS9 HX10 HS10 HX11 HS11 HO10 HL11 HGR HGX HEN
  generalize (w10.alloc (.cells #[.int .i64 0, .bool false, .int .i64 0, .int .u8 0, .int .u8 0, .int .u8 0, .int .u8 0, .int .u8 0, .int .u8 0, .int .u8 0, .int .u8 0] 27)).setRow w10.heap.size #[.int .i64 (128 + k), .bool false, .int .i64 8, .int .u8 (d 0), .int .u8 (d 1), .int .u8 (d 2), .int .u8 (d 3), .int .u8 (d 4), .int .u8 (d 5), .int .u8 (d 6), .int .u8 (d 7)] = w12 at *
  generalize w10.heap.size = go at *
  obtain ⟨c0, c1, c2, c3, c4, c5, c6, c7, c8, c9, c10⟩ := HS12.out.fr.cells
  obtain ⟨y0, y1, y2, y3, y4, y5, y6, y7, y8, y9, y10⟩ : w12.cell? ⟨go, 0, none⟩ = some (.int .i64 (128 + k)) ∧ w12.cell? ⟨go, 1, none⟩ = some (.bool false) ∧ w12.cell? ⟨go, 2, none⟩ = some (.int .i64 8) ∧ w12.cell? ⟨go, 3, none⟩ = some (.int .u8 (d 0)) ∧ w12.cell? ⟨go, 4, none⟩ = some (.int .u8 (d 1)) ∧ w12.cell? ⟨go, 5, none⟩ = some (.int .u8 (d 2)) ∧ w12.cell? ⟨go, 6, none⟩ = some (.int .u8 (d 3)) ∧ w12.cell? ⟨go, 7, none⟩ = some (.int .u8 (d 4)) ∧ w12.cell? ⟨go, 8, none⟩ = some (.int .u8 (d 5)) ∧ w12.cell? ⟨go, 9, none⟩ = some (.int .u8 (d 6)) ∧ w12.cell? ⟨go, 10, none⟩ = some (.int .u8 (d 7)) := HO12.out.cells
  have hq := HQ.out
  go_wp2_with (first
    | (refine wpList_store_row rfl _ (.tmp 2) (.tmp 39) rfl (w.heap.size + 1) _ rfl rfl _ _ HS12.out.em info_em rfl (one_em 0 0 0 (fun _ => 0)) ?_))
  all_goals first | exact bodyPost_ret (results_cell_tmp_row rfl _ _ (w.heap.size + 1) _ _ _ _ rfl (setRow_heap _ _ _ _ _ (0, 0) HS12.out.em) Try.underlying24 rfl info_em) rfl ⟨rfl, below_setRow HS12.out.bel (by omega) _⟩ | (trace_state; sorry)
set_option maxRecDepth 100000 in
set_option maxHeartbeats 4000000 in
theorem dec_node (id n k : Int) (r : Bool) (d : Nat → Int) (w : World) (hd : ∀ j, j < 8 → 0 ≤ d j ∧ d j ≤ 255) (hk : bits .and .i64 id 127 = k) (hn : isNI k = false) :
    Calls Try.prog 8 #[.agg #[.int .i64 id, .bool r, .int .i64 n, .int .u8 (d 0), .int .u8 (d 1), .int .u8 (d 2), .int .u8 (d 3), .int .u8 (d 4), .int .u8 (d 5), .int .u8 (d 6), .int .u8 (d 7)]] w fun e w' => e = .returned (.tuple #[.agg #[.int .i64 0, .int .i64 0, .int .u8 0, .int .u8 0, .int .u8 0, .int .u8 0, .int .u8 0, .int .u8 0], .int .i64 4]) ∧ Below w.heap.size w w' := by
  have HEN := Lib.hid (fun w => em_none (d := d) k hn w)
  clear hn
  have HS := Lib.hid (deS_start (w := w) (id := id) (r := r) (n := n) (d := d))
  have hd0 := hd 0 (by omega)
  have hd1 := hd 1 (by omega)
  have hd2 := hd 2 (by omega)
  have HDB := Lib.hid hd
  have e2 : IntKind.u8.wrap (d 2) = d 2 := IntWalk.u8_in _ ⟨by omega, by omega⟩
  obtain ⟨c0, c1, c2, c3, c4, c5, c6, c7, c8, c9, c10⟩ := HS.out.fr.cells
  go_enter Try.func8, Try.ntmps8
  go_upto_region 2 with (go_at_call 31; refine (new_any _ (some ⟨w.heap.size, 3, none⟩) 8 8 [d 0, d 1, d 2, d 3, d 4, d 5, d 6, d 7] (fr_byt HS.out.fr HDB.out) (by omega)).mono ?_; rintro e w1 ⟨gr, A1, q1, rfl, hgr, hr1, hy1, hb1, -⟩; have HR1 := Lib.hid hr1; have HY1 := Lib.hid hy1; have HS1 := Lib.hid (HS.out.below hb1); have HGR := Lib.hid (show w.heap.size + 1 < gr from Nat.lt_of_lt_of_le HS.out.lt hgr); clear hr1 hy1 hb1 hgr c0 c1 c2 c3 c4 c5 c6 c7 c8 c9 c10)
  clear HS
  obtain ⟨c0, c1, c2, c3, c4, c5, c6, c7, c8, c9, c10⟩ := HS1.out.fr.cells
  go_upto_region 3 with fail
  clear c0 c1 c2 c3 c4 c5 c6 c7 c8 c9 c10
  have hba : Below w1.heap.size w1 (w1.alloc (.cells #[.int .i64 k, .int .i64 0, .int .u8 0, .int .u8 0, .int .u8 0, .int .u8 0, .int .u8 0, .int .u8 0] 24)) := (Below.refl _ _).alloc (Nat.le_refl _) _
  have HX2 := Lib.hid (show EmAt (w1.alloc (.cells #[.int .i64 k, .int .i64 0, .int .u8 0, .int .u8 0, .int .u8 0, .int .u8 0, .int .u8 0, .int .u8 0] 24)) w1.heap.size k 0 0 (fun _ => 0) from heap_alloc_new w1 _)
  have HS2 := Lib.hid (HS1.out.below hba)
  have HR2 := Lib.hid (HR1.out.below hba HR1.out.lt)
  have HY2 := Lib.hid (HY1.out.keep (fun b o hb => World.cell?_of_block (a := ⟨b, o, none⟩) (hba.block b (Nat.lt_trans hb HR1.out.lt))))
  have HGX := Lib.hid (show gr < w1.heap.size from HR1.out.lt)
  clear hba HS1 HR1 HY1
  generalize (w1.alloc (.cells #[.int .i64 k, .int .i64 0, .int .u8 0, .int .u8 0, .int .u8 0, .int .u8 0, .int .u8 0, .int .u8 0] 24)) = w2 at *
  generalize w1.heap.size = gx at *
  go_upto_region 4 with (go_at_call 32; refine (rnum2_any _ gr 0 3 A1 8 q1 [d 0, d 1, d 2, d 3, d 4, d 5, d 6, d 7] HR2.out HY2.out).mono ?_; rintro e w3 ⟨A3, q3, rfl, hr3, hy3, hg3, -⟩; rw [(num2 hd0 hd1).1, (num2 hd0 hd1).2.2] at hr3; rw [(num2 hd0 hd1).2.2] at hy3; rw [(num2 hd0 hd1).2.1]; have HR3 := Lib.hid hr3; have HY3 := Lib.hid hy3; have HS3 := Lib.hid (HS2.out.grown hg3 (fun k hk => by cases hk; exact HGR.out)); have HX3 := Lib.hid (HX2.out.grown hg3 (fun h => by injection h with h; have := HGX.out; omega)); clear hr3 hy3 hg3; obtain ⟨x0, x1, x2, x3, x4, x5, x6, x7⟩ := HX3.out.cells; have f1 := HX3.out.frozen 1)
  clear HR2 HY2 HS2 HX2
  have HX4 := Lib.hid (show EmAt (w3.setCell ⟨gx, 1, none⟩ (.int .i64 (d 0 + 256 * d 1))) gx k (d 0 + 256 * d 1) 0 (fun _ => 0) from HX3.out.setc 1 _ rfl)
  have HS4 := Lib.hid (HS3.out.setc (show w.heap.size + 1 < gx by have := HGX.out; have := HGR.out; omega) 1 (.int .i64 (d 0 + 256 * d 1)))
  have HR4 := Lib.hid (HR3.out.setc_of (show gr ≠ gx from Nat.ne_of_lt HGX.out) 1 (.int .i64 (d 0 + 256 * d 1)))
  have HY4 := Lib.hid (HY3.out.keep (w' := w3.setCell ⟨gx, 1, none⟩ (.int .i64 (d 0 + 256 * d 1))) (fun b o hb => World.cell?_of_block (a := ⟨b, o, none⟩) (Below.heap_setCell w3 ⟨gx, 1, none⟩ _ b (by have := HGX.out; show b ≠ gx; omega))))
  clear HR3 HY3 HS3 HX3 x0 x1 x2 x3 x4 x5 x6 x7 f1
  generalize w3.setCell ⟨gx, 1, none⟩ (.int .i64 (d 0 + 256 * d 1)) = w4 at *
  go_upto_region 5 with (go_at_call 32; refine (rnum2_any _ gr 0 2 A3 6 q3 [d 2, d 3, d 4, d 5, d 6, d 7] HR4.out HY4.out).mono ?_; rintro e w5 ⟨A5, q5, rfl, hr5, hy5, hg5, -⟩; rw [(num1 hd2).1, (num1 hd2).2.2] at hr5; rw [(num1 hd2).2.2] at hy5; rw [(num1 hd2).2.1]; have HR5 := Lib.hid hr5; have HY5 := Lib.hid hy5; have HS5 := Lib.hid (HS4.out.grown hg5 (fun k hk => by cases hk; exact HGR.out)); have HX5 := Lib.hid (HX4.out.grown hg5 (fun h => by injection h with h; have := HGX.out; omega)); clear hr5 hy5 hg5; obtain ⟨x0, x1, x2, x3, x4, x5, x6, x7⟩ := HX5.out.cells; have f1 := HX5.out.frozen 2)
  clear HR4 HY4 HS4 HX4
  have HX6 := Lib.hid (show EmAt (w5.setCell ⟨gx, 2, none⟩ (.int .u8 (d 2))) gx k (d 0 + 256 * d 1) (d 2) (fun _ => 0) from HX5.out.setc 2 _ rfl)
  have HS6 := Lib.hid (HS5.out.setc (show w.heap.size + 1 < gx by have := HGX.out; have := HGR.out; omega) 2 (.int .u8 (d 2)))
  have HR6 := Lib.hid (HR5.out.setc_of (show gr ≠ gx from Nat.ne_of_lt HGX.out) 2 (.int .u8 (d 2)))
  have HY6 := Lib.hid (HY5.out.keep (w' := w5.setCell ⟨gx, 2, none⟩ (.int .u8 (d 2))) (fun b o hb => World.cell?_of_block (a := ⟨b, o, none⟩) (Below.heap_setCell w5 ⟨gx, 2, none⟩ _ b (by have := HGX.out; show b ≠ gx; omega))))
  clear HR5 HY5 HS5 HX5 x0 x1 x2 x3 x4 x5 x6 x7 f1
  generalize w5.setCell ⟨gx, 2, none⟩ (.int .u8 (d 2)) = w6 at *
  refine wp_region_last (fun _ => True) 4 (by kernel_rfl) trivial (fun hHeld => ?_)
  have HX7 : Hid (EmAt w6.drew gx k (d 0 + 256 * d 1) (d 2) (fun _ => 0)) := HX6
  have HR7 : Hid (RdAt w6.drew gr 0 A5 5 q5) := HR6
  have HY7 : Hid (Byt w6.drew gr A5 5 q5 [d 3, d 4, d 5, d 6, d 7]) := Lib.hid (HY6.out.keep (fun _ _ _ => rfl))
  have HS7 := Lib.hid (HS6.out.below (kD w6))
  clear HX6 HR6 HY6 HS6
  generalize w6.drew = w7 at *
  refine wpAnyL_take (i := 0) (v := ?_) rfl (by kernel_rfl) (by kernel_rfl) (by kernel_rfl) (by kernel_rfl) (by kernel_rfl) (fun _ _ _ h => h) (Or.inl ⟨by rfl, ?_⟩) (by assumption) ?_
  rotate_left
  · intro wq hSw; (try dsimp only at hSw); first | (go_simp; done) | (go_simp; with_reducible rfl) | with_reducible rfl
  try simp only [Act.put, List.setIfInBounds_toArray, List.set_cons_zero, List.set_cons_succ, List.getElem_toArray, List.getElem_cons_zero, List.getElem_cons_succ]
  refine wpAnyL_take (i := 1) (v := .slice (some ⟨gx, 3, none⟩) 5 5) rfl (by kernel_rfl) (by kernel_rfl) (by kernel_rfl) (by kernel_rfl) (by kernel_rfl) (fun _ _ _ h => h) (Or.inl ⟨by rfl, ?_⟩) (by assumption) ?_
  · intro wq hSw; (try dsimp only at hSw); first | (go_simp; done) | (go_simp; with_reducible rfl) | with_reducible rfl
  try simp only [Act.put, List.setIfInBounds_toArray, List.set_cons_zero, List.set_cons_succ, List.getElem_toArray, List.getElem_cons_zero, List.getElem_cons_succ]
  refine wpAnyL_take (i := 2) (v := ?_) rfl (by kernel_rfl) (by kernel_rfl) (by kernel_rfl) (by kernel_rfl) (by kernel_rfl) (fun _ _ _ h => h) (Or.inl ⟨by rfl, ?_⟩) (by assumption) ?_
  rotate_left
  · intro wq hSw; (try dsimp only at hSw); first | (go_simp; done) | (go_simp; with_reducible rfl) | with_reducible rfl
  try simp only [Act.put, List.setIfInBounds_toArray, List.set_cons_zero, List.set_cons_succ, List.getElem_toArray, List.getElem_cons_zero, List.getElem_cons_succ]
  refine wpAnyL_ready (rs := [3]) (by kernel_rfl) (by simp) ?_
  refine (AllReadyL.cons rfl (fun K hK => ?_) AllReadyL.nil)
  go_simp
  go_wp2_with fail
  refine (rraw_any _ gr 0 5 A5 5 q5 [d 3, d 4, d 5, d 6, d 7] HR7.out HY7.out (by omega)).mono ?_
  rw [RrPost_five]
  rintro e w8 ⟨-, -, A8, q8, rfl, hy8, -, -, hg8⟩
  have HY8 := Lib.hid hy8
  have HS8 := Lib.hid (HS7.out.grown hg8 (fun k hk => by cases hk; exact HGR.out))
  have HX8 := Lib.hid (HX7.out.grown hg8 (fun h => by injection h with h; have := HGX.out; omega))
  clear hy8 hg8 HX7 HR7 HY7 HS7
  refine hK.out _ _ ?_ (fun hHeld => ?_)
  · exact trivial
  clear hK K
  refine wpAnyL_ready (rs := [4]) (by kernel_rfl) (by simp) ?_
  refine AllReadyL.last rfl (fun K hK => ?_)
  refine Eq.mpr (if_pos (by kernel_rfl)) ?_
  refine wp_copy_row (.tmp 23) (.tmp 25) rfl rfl rfl HY8.out HX8.out (by simp) ?_
  intro w9 cur' hc1 hc2 hc3 hg9
  have hce := em_copied (i := fun _ => 0) hc2 hc3
  subst hce
  have HX9 := Lib.hid (show EmAt w9 gx k (d 0 + 256 * d 1) (d 2) (fun j => d (j + 3)) from hc1)
  have HS9 := Lib.hid (HS8.out.grown hg9 (fun k hk => by cases hk; have := HGX.out; have := HGR.out; omega))
  clear hc1 hc2 hc3 hg9 HY8 HS8 HX8
  refine hK.out _ _ ?_
  clear hK K
  refine wpAnyL_done (by kernel_rfl) ?_ _
  clear hHeld
  go_simp
  go_upto_region 7 with (first
    | (refine wpList_load_row rfl _ (.tmp 5) rfl gx rfl _ _ _ _ HX9.out Try.underlying24 rfl info_em ?_)
    | (go_at_call 6; refine (HEN.out _).mono ?_; rintro e w10 ⟨rfl, hb10⟩; have HX10 := Lib.hid (HX9.out.below hb10 HX9.out.lt); have HS10 := Lib.hid (HS9.out.below hb10); have HO10 := Lib.hid (frame_new w10 0 0 false (fun _ => 0)); have hba : Below w10.heap.size w10 (w10.alloc (.cells #[.int .i64 0, .bool false, .int .i64 0, .int .u8 0, .int .u8 0, .int .u8 0, .int .u8 0, .int .u8 0, .int .u8 0, .int .u8 0, .int .u8 0] 27)) := (Below.refl _ _).alloc (Nat.le_refl _) _; have HX11 := Lib.hid (HX10.out.below hba HX10.out.lt); have HS11 := Lib.hid (HS10.out.below hba); have HL11 := Lib.hid (show gx < w10.heap.size from HX10.out.lt); clear hb10 hba)
    | (refine wpList_store_row rfl _ (.tmp 6) (.tmp 30) rfl w10.heap.size _ rfl rfl _ _ HO10.out info_frame rfl (one_frame 0 0 false (fun _ => 0)) ?_))
  have HO12 := Lib.hid (show FrAt ((w10.alloc (.cells #[.int .i64 0, .bool false, .int .i64 0, .int .u8 0, .int .u8 0, .int .u8 0, .int .u8 0, .int .u8 0, .int .u8 0, .int .u8 0, .int .u8 0] 27)).setRow w10.heap.size #[.int .i64 0, .bool false, .int .i64 0, .int .u8 0, .int .u8 0, .int .u8 0, .int .u8 0, .int .u8 0, .int .u8 0, .int .u8 0, .int .u8 0]) w10.heap.size 0 false 0 (fun _ => 0) from HO10.out.row 0 0 false (fun _ => 0))
  have HX12 := Lib.hid (show EmAt ((w10.alloc (.cells #[.int .i64 0, .bool false, .int .i64 0, .int .u8 0, .int .u8 0, .int .u8 0, .int .u8 0, .int .u8 0, .int .u8 0, .int .u8 0, .int .u8 0] 27)).setRow w10.heap.size #[.int .i64 0, .bool false, .int .i64 0, .int .u8 0, .int .u8 0, .int .u8 0, .int .u8 0, .int .u8 0, .int .u8 0, .int .u8 0, .int .u8 0]) gx k (d 0 + 256 * d 1) (d 2) (fun j => d (j + 3)) from (setRow_other _ _ _ _ (Nat.ne_of_lt HL11.out)).trans HX11.out)
  have HS12 := Lib.hid (HS11.out.row (show w.heap.size + 1 < w10.heap.size from HS10.out.lt) #[.int .i64 0, .bool false, .int .i64 0, .int .u8 0, .int .u8 0, .int .u8 0, .int .u8 0, .int .u8 0, .int .u8 0, .int .u8 0, .int .u8 0])
  clear HX9 HS9 HX10 HS10 HX11 HS11 HO10 HL11 HGR HGX HEN
  generalize (w10.alloc (.cells #[.int .i64 0, .bool false, .int .i64 0, .int .u8 0, .int .u8 0, .int .u8 0, .int .u8 0, .int .u8 0, .int .u8 0, .int .u8 0, .int .u8 0] 27)).setRow w10.heap.size #[.int .i64 0, .bool false, .int .i64 0, .int .u8 0, .int .u8 0, .int .u8 0, .int .u8 0, .int .u8 0, .int .u8 0, .int .u8 0, .int .u8 0] = w12 at *
  generalize w10.heap.size = go at *
  obtain ⟨c0, c1, c2, c3, c4, c5, c6, c7, c8, c9, c10⟩ := HS12.out.fr.cells
  go_wp2_with (first
    | (refine wpList_store_row rfl _ (.tmp 2) (.tmp 39) rfl (w.heap.size + 1) _ rfl rfl _ _ HS12.out.em info_em rfl (one_em 0 0 0 (fun _ => 0)) ?_))
  all_goals first | exact bodyPost_ret (results_cell_tmp_row rfl _ _ (w.heap.size + 1) _ _ _ _ rfl (setRow_heap _ _ _ _ _ (0, 0) HS12.out.em) Try.underlying24 rfl info_em) rfl ⟨rfl, below_setRow HS12.out.bel (by omega) _⟩ | (trace_state; sorry)
end Go.Proofs.Ytncnlbokipieaaa
