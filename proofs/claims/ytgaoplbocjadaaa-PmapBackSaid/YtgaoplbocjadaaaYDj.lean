/- A table's Put at once; what becomes of a dictionary; give. -/
import Derived.Test.YtgaoplbocjadaaaYDi
namespace Go.Proofs.Ytgaoplbocjadaaa
open Go.RowKit
set_option linter.unusedSimpArgs false
set_option linter.unusedVariables false
theorem tputE (w : World) (base g : Nat) (ls : List (Int × Ent)) (v : Value) (k : Int) (u : Ent) (h : Sh 184 202 w base g ls.length (fe ls) v) (hbase : base ≤ w.heap.size) (hn : ls.length ≤ 1000) (hs : Rise ls) :
    Calls Try.prog 94 #[.pointer (some ⟨g, 0, none⟩), .int .i64 k, entV u] w (ShPut 184 202 w base g (putI k u ls).length (fe (putI k u ls)) (hasI k ls) v) := by
  obtain ⟨uk, ua, ul, uh, ub⟩ := u
  cases hh : hasI k ls with
  | false => exact putE_new w base g ls v k uk ua ul uh ub h hbase hn hs hh
  | true => exact putE_old w base g ls v k uk ua ul uh ub h hn hs hh
/-- A call on the dictionary g, whose table is s with rows at v, has turned nothing else. -/
structure DTch (w w' : World) (g s : Nat) (v : Value) : Prop where
  os : w'.os = w.os
  tape : w'.tape = w.tape
  output : w'.output = w.output
  size : w.heap.size ≤ w'.heap.size
  block : ∀ k, k < w.heap.size → k ≠ g → k ≠ s → v.ownBlock ≠ some k → w'.heap[k]? = w.heap[k]?
def NxD (w : World) (v v' : Value) : Prop := v'.ownBlock = v.ownBlock ∨ ∃ b, v'.ownBlock = some b ∧ w.heap.size ≤ b
theorem NxD.back {w w1 : World} {v v' : Value} (h : NxD w1 v v') (hs : w.heap.size ≤ w1.heap.size) : NxD w v v' := h.imp (fun h => h) fun ⟨b, h, hb⟩ => ⟨b, h, by omega⟩
theorem DTch.below_ {w w1 : World} {g s : Nat} {v : Value} (h : Below w.heap.size w w1) : DTch w w1 g s v := ⟨h.os, h.tape, h.output, h.size, fun k hk _ _ _ => h.block k hk⟩
theorem DTch.tch {w w1 w2 : World} {g s : Nat} {v : Value} (h : Below w.heap.size w w1) (k : Tch w1 w2 s v) : DTch w w2 g s v :=
  ⟨k.os.trans h.os, k.tape.trans h.tape, k.output.trans h.output, Nat.le_trans h.size k.size, fun i hi _ h2 h3 => (k.block i (Nat.lt_of_lt_of_le hi h.size) h2 h3).trans (h.block i hi)⟩
theorem DTch.set {w w1 : World} {g s : Nat} {v : Value} (h : DTch w w1 g s v) (o : Nat) (x : Value) : DTch w (w1.setCell ⟨g, o, none⟩ x) g s v :=
  ⟨h.os, h.tape, h.output, by simp; exact h.size, fun k hk h1 h2 h3 => (Below.heap_setCell _ _ _ _ h1).trans (h.block k hk h1 h2 h3)⟩
theorem DTch.then_ {w w1 w2 : World} {g s : Nat} {v : Value} (h : DTch w w1 g s v) (k : Below w1.heap.size w1 w2) : DTch w w2 g s v :=
  ⟨k.os.trans h.os, k.tape.trans h.tape, k.output.trans h.output, Nat.le_trans h.size k.size, fun i hi h1 h2 h3 => (k.block i (Nat.lt_of_lt_of_le hi h.size)).trans (h.block i hi h1 h2 h3)⟩
/-- What becomes of a dictionary. -/
def GoD (w : World) (base g s : Nat) (T : List (Int × Ent)) (ch : Int) (v : Value) (w' : World) : Prop := ∃ v', DiI w' base g s T ch v' ∧ NxD w v v' ∧ DTch w w' g s v
theorem GoD.of_below {w w' : World} {base g s : Nat} {T : List (Int × Ent)} {ch : Int} {v : Value} (h : DiI w base g s T ch v) (hb : Below w.heap.size w w') : GoD w base g s T ch v w' := ⟨v, h.below hb, .inl rfl, .below_ hb⟩
theorem GoD.put {w w1 w2 : World} {base g s : Nat} {T T' : List (Int × Ent)} {ch : Int} {v v' : Value} (h : DiI w base g s T ch v) (hb : Below w.heap.size w w1) (hx : Sh 184 202 w2 base s T'.length (fe T') v') (ho : v'.ownBlock = v.ownBlock ∨ ∃ b, v'.ownBlock = some b ∧ w1.heap.size ≤ b) (ht : Tch w1 w2 s v) : GoD w base g s T' ch v w2 := by
  refine ⟨v', ⟨?_, hx⟩, NxD.back ho hb.size, .tch hb ht⟩
  have h1 := h.below hb
  exact (ht.block g h1.lt h1.gs h1.vg).trans h1.box
theorem GoD.count {w w1 : World} {base g s : Nat} {T : List (Int × Ent)} {ch c : Int} {v : Value} (h : GoD w base g s T ch v w1) : GoD w base g s T c v (w1.setCell ⟨g, 1, none⟩ (.int .i64 c)) := by
  obtain ⟨v', h1, h2, h3⟩ := h
  have hb := h1.box
  refine ⟨v', ⟨by simp [World.setCell, Array.getElem?_modify, hb], ?_⟩, h2, h3.set _ _⟩
  exact h1.sh.keep (grown_set w1 g 1 _) (fun e => h1.gs (Option.some.inj e)) (fun k e => by cases e; exact h1.vg)
def Spc (w : World) (g : Nat) (k a lo hi : Int) : Prop := w.heap[g]? = some (.cells #[.int .i64 k, .int .i64 a, .int .i64 lo, .int .i64 hi] 75 (0, 0))
theorem Spc.cells {w : World} {g : Nat} {k a lo hi : Int} (h : Spc w g k a lo hi) : w.cell? ⟨g, 0, none⟩ = some (.int .i64 k) ∧ w.cell? ⟨g, 1, none⟩ = some (.int .i64 a) ∧ w.cell? ⟨g, 2, none⟩ = some (.int .i64 lo) ∧ w.cell? ⟨g, 3, none⟩ = some (.int .i64 hi) := by
  refine ⟨?_, ?_, ?_, ?_⟩ <;> (rw [cell_of_row _ _ _ _ _ _ h]; rfl)
theorem Spc.below {w w' : World} {g : Nat} {k a lo hi : Int} (h : Spc w g k a lo hi) (hb : Below w.heap.size w w') : Spc w' g k a lo hi := (hb.block g (Array.getElem?_eq_some_iff.1 h).1).trans h
theorem conv_any {w : World} {B n c : Nat} {A : Option Addr} {l : List Int} (h : Byt w B A n c l) : (convert 58 9 (.slice A n c)).run Try.prog w = .ok (.string (strOfNums l)) w := run_str 58 5 Try.underlying58 Try.underlying5 h 9 Try.underlying9
set_option maxRecDepth 100000 in
set_option maxHeartbeats 4000000 in
theorem give_same (w : World) (g : Value) (i j xk xa xl xh : Int) (xb l : List Int) (A : Option Addr) (n c : Nat) (hB : Byt w w.heap.size A n c l) (hl : ((strOfNums l).toList == (strOfNums xb).toList) = true) :
    Calls Try.prog 79 #[g, .agg #[.int .i64 i, .int .i64 j], entV ⟨xk, xa, xl, xh, xb⟩, .slice A n c] w fun e w' => e = .returned (.tuple #[]) ∧ Below w.heap.size w w' := by
  dsimp only [entV]
  obtain ⟨S, hS⟩ : ∃ S, strOfNums xb = S := ⟨_, rfl⟩
  rw [hS] at hl ⊢
  have hb0 : Below w.heap.size w ((w.alloc (.cells #[.int .i64 i, .int .i64 j] 24)).alloc (.cells #[.int .i64 xk, .int .i64 xa, .int .i64 xl, .int .i64 xh, .string S] 132)) := ((Below.refl _ _).alloc (Nat.le_refl _) _).alloc (by simp) _
  have hz0 : EntAt ((w.alloc (.cells #[.int .i64 i, .int .i64 j] 24)).alloc (.cells #[.int .i64 xk, .int .i64 xa, .int .i64 xl, .int .i64 xh, .string S] 132)) (w.heap.size + 1) xk xa xl xh S := heap_alloc2_new w _ _
  have hcv := conv_any (hB.step hb0)
  obtain ⟨d0, d1, d2, d3, d4⟩ := hz0.cells
  have HB0 := Lib.hid hb0
  clear hz0 hB hS hb0
  go_enter Try.func79, Try.ntmps79
  go_wp2_with fail
  exact bodyPost_ret (results_none rfl _ _ _) rfl ⟨rfl, HB0.out⟩
set_option maxRecDepth 100000 in
set_option maxHeartbeats 4000000 in
theorem give_other (w : World) (base g s : Nat) (T : List (Int × Ent)) (ch : Int) (v : Value) (i j xk xa xl xh : Int) (xb l : List Int) (A : Option Addr) (n c : Nat) (h : DiI w base g s T ch v) (hbase : base ≤ w.heap.size) (hT : T.length ≤ 1000) (hs : Rise T) (hc : 0 ≤ ch ∧ ch ≤ 1000000)
    (hB : Byt w w.heap.size A n c l) (hl : ((strOfNums l).toList == (strOfNums xb).toList) = false) :
    Calls Try.prog 79 #[.pointer (some ⟨g, 0, none⟩), .agg #[.int .i64 i, .int .i64 j], entV ⟨xk, xa, xl, xh, xb⟩, .slice A n c] w fun e w' => e = .returned (.tuple #[]) ∧ GoD w base g s (putI (numI i j) ⟨xk, xa, xl, xh, l⟩ T) (ch + 1) v w' := by
  have hb0' : ∀ S, Below w.heap.size w ((w.alloc (.cells #[.int .i64 i, .int .i64 j] 24)).alloc (.cells #[.int .i64 xk, .int .i64 xa, .int .i64 xl, .int .i64 xh, .string S] 132)) := fun S => ((Below.refl _ _).alloc (Nat.le_refl _) _).alloc (by simp) _
  have HPU0 := fun x (hx : Below w.heap.size w x) => tputE x base s T v (numI i j) ⟨xk, xa, xl, xh, l⟩ (h.sh.below hx) (by have := hx.size; omega) hT hs
  generalize putI (numI i j) ⟨xk, xa, xl, xh, l⟩ T = T' at *
  generalize hasI (numI i j) T = B at *
  dsimp only [entV] at HPU0 ⊢
  obtain ⟨S, hS⟩ : ∃ S, strOfNums xb = S := ⟨_, rfl⟩
  rw [hS] at hl ⊢
  have hb0 := hb0' S
  have hk0 : Key2 ((w.alloc (.cells #[.int .i64 i, .int .i64 j] 24)).alloc (.cells #[.int .i64 xk, .int .i64 xa, .int .i64 xl, .int .i64 xh, .string S] 132)) w.heap.size i j := heap_alloc2_old w _ _
  have hz0 : EntAt ((w.alloc (.cells #[.int .i64 i, .int .i64 j] 24)).alloc (.cells #[.int .i64 xk, .int .i64 xa, .int .i64 xl, .int .i64 xh, .string S] 132)) (w.heap.size + 1) xk xa xl xh S := heap_alloc2_new w _ _
  have HH := Lib.hid (fun x (hx : Below w.heap.size w x) => (h.below hx).cells.1)
  have HFI := Lib.hid (fun (w1 w2 : World) (v2 : Value) (hb : Below w.heap.size w w1) (hx : Sh 184 202 w2 base s T'.length (fe T') v2) (ho : v2.ownBlock = v.ownBlock ∨ ∃ b, v2.ownBlock = some b ∧ w1.heap.size ≤ b) (ht : Tch w1 w2 s v) => GoD.put h hb hx ho ht)
  have HB0 := Lib.hid hb0
  have HK0 := Lib.hid hk0
  have HZ0 := Lib.hid hz0
  have HPU := Lib.hid HPU0
  have HBY := Lib.hid (fun x (hx : Below w.heap.size w x) => conv_any (hB.step hx))
  have hgl := h.lt
  clear h hs hS hb0 hb0' hk0 hz0 HPU0 hB
  go_enter Try.func79, Try.ntmps79
  obtain ⟨d0, d1, d2, d3, d4⟩ := HZ0.out.cells
  have hcv := HBY.out _ HB0.out
  go_wp2_with fail
  generalize ((w.alloc (.cells #[.int .i64 i, .int .i64 j] 24)).alloc (.cells #[.int .i64 xk, .int .i64 xa, .int .i64 xl, .int .i64 xh, .string S] 132)) = w0 at HB0 HK0 HZ0 ⊢
  clear d0 d1 d2 d3 d4 hcv
  have hS : ∀ x, Below w0.heap.size w0 x → x.cell? ⟨g, 0, none⟩ = some (.pointer (some ⟨s, 0, none⟩)) ∧ x.cell? ⟨w.heap.size, 0, none⟩ = some (.int .i64 i) ∧ x.cell? ⟨w.heap.size, 1, none⟩ = some (.int .i64 j) ∧ x.cell? ⟨w.heap.size + 1, 0, none⟩ = some (.int .i64 xk) ∧ x.cell? ⟨w.heap.size + 1, 1, none⟩ = some (.int .i64 xa) ∧ x.cell? ⟨w.heap.size + 1, 2, none⟩ = some (.int .i64 xl) ∧ x.cell? ⟨w.heap.size + 1, 3, none⟩ = some (.int .i64 xh) ∧ (convert 58 9 (.slice A n c)).run Try.prog x = .ok (.string (strOfNums l)) x := fun x hx => ⟨HH.out x (kF hx HB0.out), ((HK0.out).below hx).cells.1, ((HK0.out).below hx).cells.2, ((HZ0.out).below hx).cells.1, ((HZ0.out).below hx).cells.2.1, ((HZ0.out).below hx).cells.2.2.1, ((HZ0.out).below hx).cells.2.2.2.1, HBY.out x (kF hx HB0.out)⟩
  have HS := Lib.hid hS
  clear hS
  refine wp_region_last (fun w' => w'.cell? ⟨g, 0, none⟩ = some (.pointer (some ⟨s, 0, none⟩)) ∧ w'.cell? ⟨w.heap.size, 0, none⟩ = some (.int .i64 i) ∧ w'.cell? ⟨w.heap.size, 1, none⟩ = some (.int .i64 j) ∧ w'.cell? ⟨w.heap.size + 1, 0, none⟩ = some (.int .i64 xk) ∧ w'.cell? ⟨w.heap.size + 1, 1, none⟩ = some (.int .i64 xa) ∧ w'.cell? ⟨w.heap.size + 1, 2, none⟩ = some (.int .i64 xl) ∧ w'.cell? ⟨w.heap.size + 1, 3, none⟩ = some (.int .i64 xh) ∧ (convert 58 9 (.slice A n c)).run Try.prog w' = .ok (.string (strOfNums l)) w') 11 (by kernel_rfl) (HS.out _ (kD _)) (fun hHeld => ?_)
  refine wpAnyL_take (i := 0) (v := ?_) rfl (by kernel_rfl) (by kernel_rfl) (by kernel_rfl) (by kernel_rfl) (by kernel_rfl) (fun _ _ _ h => h) (Or.inl ⟨by rfl, ?_⟩) (by assumption) ?_
  rotate_left
  · intro wq hSw; (try dsimp only at hSw); first | (go_simp; done) | (go_simp; with_reducible rfl) | with_reducible rfl
  try simp only [Act.put, List.setIfInBounds_toArray, List.set_cons_zero, List.set_cons_succ]
  refine wpAnyL_take (i := 1) (v := ?_) rfl (by kernel_rfl) (by kernel_rfl) (by kernel_rfl) (by kernel_rfl) (by kernel_rfl) (fun _ _ _ h => h) (Or.inl ⟨by rfl, ?_⟩) (by assumption) ?_
  rotate_left
  · intro wq hSw; (try dsimp only at hSw); first | (go_simp; done) | (go_simp; with_reducible rfl) | with_reducible rfl
  try simp only [Act.put, List.setIfInBounds_toArray, List.set_cons_zero, List.set_cons_succ]
  refine wpAnyL_take (i := 2) (v := ?_) rfl (by kernel_rfl) (by kernel_rfl) (by kernel_rfl) (by kernel_rfl) (by kernel_rfl) (fun _ _ _ h => h) (Or.inl ⟨by rfl, ?_⟩) (by assumption) ?_
  rotate_left
  · intro wq hSw; (try dsimp only at hSw); first | (go_simp; done) | (go_simp; with_reducible rfl) | with_reducible rfl
  try simp only [Act.put, List.setIfInBounds_toArray, List.set_cons_zero, List.set_cons_succ]
  refine wpAnyL_take (i := 3) (v := ?_) rfl (by kernel_rfl) (by kernel_rfl) (by kernel_rfl) (by kernel_rfl) (by kernel_rfl) (fun _ _ _ h => h) (Or.inl ⟨by rfl, ?_⟩) (by assumption) ?_
  rotate_left
  · intro wq hSw; (try dsimp only at hSw); first | (go_simp; done) | (go_simp; with_reducible rfl) | with_reducible rfl
  try simp only [Act.put, List.setIfInBounds_toArray, List.set_cons_zero, List.set_cons_succ]
  refine wpAnyL_take (i := 4) (v := ?_) rfl (by kernel_rfl) (by kernel_rfl) (by kernel_rfl) (by kernel_rfl) (by kernel_rfl) (fun _ _ _ h => h) (Or.inl ⟨by rfl, ?_⟩) (by assumption) ?_
  rotate_left
  · intro wq hSw; (try dsimp only at hSw); first | (go_simp; done) | (go_simp; with_reducible rfl) | with_reducible rfl
  try simp only [Act.put, List.setIfInBounds_toArray, List.set_cons_zero, List.set_cons_succ]
  refine wpAnyL_take (i := 6) (v := ?_) rfl (by kernel_rfl) (by kernel_rfl) (by kernel_rfl) (by kernel_rfl) (by kernel_rfl) (fun _ _ _ h => h) (Or.inl ⟨by rfl, ?_⟩) (by assumption) ?_
  rotate_left
  · intro wq hSw; (try dsimp only at hSw); first | (go_simp; done) | (go_simp; with_reducible rfl) | with_reducible rfl
  try simp only [Act.put, List.setIfInBounds_toArray, List.set_cons_zero, List.set_cons_succ]
  refine wpAnyL_take (i := 7) (v := ?_) rfl (by kernel_rfl) (by kernel_rfl) (by kernel_rfl) (by kernel_rfl) (by kernel_rfl) (fun _ _ _ h => h) (Or.inl ⟨by rfl, ?_⟩) (by assumption) ?_
  rotate_left
  · intro wq hSw; (try dsimp only at hSw); first | (go_simp; done) | (go_simp; with_reducible rfl) | with_reducible rfl
  try simp only [Act.put, List.setIfInBounds_toArray, List.set_cons_zero, List.set_cons_succ]
  refine wpAnyL_take (i := 8) (v := ?_) rfl (by kernel_rfl) (by kernel_rfl) (by kernel_rfl) (by kernel_rfl) (by kernel_rfl) (fun _ _ _ h => h) (Or.inl ⟨by rfl, ?_⟩) (by assumption) ?_
  rotate_left
  · intro wq hSw; (try dsimp only at hSw); first | (go_simp; done) | (go_simp; with_reducible rfl) | with_reducible rfl
  try simp only [Act.put, List.setIfInBounds_toArray, List.set_cons_zero, List.set_cons_succ]
  refine wpAnyL_take (i := 9) (v := ?_) rfl (by kernel_rfl) (by kernel_rfl) (by kernel_rfl) (by kernel_rfl) (by kernel_rfl) (fun _ _ _ h => h) (Or.inl ⟨by rfl, ?_⟩) (by assumption) ?_
  rotate_left
  · intro wq hSw; (try dsimp only at hSw); first | (go_simp; done) | (go_simp; with_reducible rfl) | with_reducible rfl
  try simp only [Act.put, List.setIfInBounds_toArray, List.set_cons_zero, List.set_cons_succ]
  refine wpAnyL_take (i := 10) (v := ?_) rfl (by kernel_rfl) (by kernel_rfl) (by kernel_rfl) (by kernel_rfl) (by kernel_rfl) (fun _ _ _ h => h) (Or.inl ⟨by rfl, ?_⟩) (by assumption) ?_
  rotate_left
  · intro wq hSw; (try dsimp only at hSw); first | (go_simp; done) | (go_simp; with_reducible rfl) | with_reducible rfl
  try simp only [Act.put, List.setIfInBounds_toArray, List.set_cons_zero, List.set_cons_succ]
  refine wpAnyL_ready (rs := [5]) (by kernel_rfl) (by simp) ?_
  refine (AllReadyL.cons rfl (fun K hK => ?_) AllReadyL.nil)
  go_simp
  go_wp2_with (go_at_call 91; refine (number_any i j _).mono ?_; rintro e w1 ⟨rfl, hb1⟩; have HB1 := Lib.hid (kF hb1 (kD w0)); clear hb1)
  refine hK.out _ _ ?_ (fun hHeld => ?_)
  · (try dsimp only); exact HS.out _ HB1.out
  clear hK K
  refine wpAnyL_ready (rs := [11]) (by kernel_rfl) (by simp) ?_
  refine AllReadyL.last rfl (fun K hK => ?_)
  go_simp
  go_wp2_with (go_at_call 94; refine (HPU.out w1 (kF HB1.out HB0.out)).mono ?_; rintro e w2 ⟨rfl, ⟨v2, hx2, ho2⟩, ht2⟩; have HG2 := Lib.hid (HFI.out _ _ _ (kF HB1.out HB0.out) hx2 ho2 ht2); clear hx2 ho2 ht2)
  refine hK.out _ _ ?_
  clear hK K
  refine wpAnyL_done (by kernel_rfl) ?_ _
  clear hHeld
  obtain ⟨v3, h3, -, -⟩ := HG2.out
  obtain ⟨e0, e1⟩ := h3.cells
  have fz : w2.frozen? ⟨g, 1, none⟩ = false := frozen_of_row _ _ _ _ _ h3.box
  have hl3 := h3.lt
  clear h3
  go_wp2_with fail
  exact bodyPost_end (results_none rfl _ _ _) rfl ⟨rfl, HG2.out.count⟩
end Go.Proofs.Ytgaoplbocjadaaa