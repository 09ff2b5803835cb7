/- emcy: faults come and go. -/
import Derived.Test.YtncnlbokipieaaaEe
import Derived.Deep.CutBlock
namespace Go.Proofs.Ytncnlbokipieaaa
open Go.RowKit Go.Maps
set_option linter.unusedSimpArgs false
set_option linter.unusedVariables false

theorem Src.lit (w : World) (t : TypeId) (l : List Value) (h1 : ∀ u ∈ l, u.oneCell' = true) (k : Nat) (hk : k ≤ l.length) : Src (w.alloc (.cells l.toArray t)) (some ⟨w.heap.size, 0, none⟩) k (l.take k) :=
  ⟨by simp; omega, fun u hu => h1 u (List.mem_of_mem_take hu), fun _ => ⟨_, rfl, fun j u hu => by
    rw [add_plain', cell_of_row _ _ _ _ t (0, 0) (heap_alloc_new w _)]
    have hj : j < k := by
      rcases Nat.lt_or_ge j k with h2 | h2
      · exact h2
      · rw [List.getElem?_eq_none (by simp; omega)] at hu; cases hu
    rw [List.getElem?_take, if_pos hj] at hu
    simpa using hu⟩⟩

/-- The history behind one code more. -/
def hsE (hs : List Int) (code : Int) : List Int := (if hs.length = 8 then hs.tail else hs) ++ [code]
section
variable {T : Nat → Prop} {w0 x y : World} {g B q N c : Nat} {D : DataW Unit} {A : Option Addr} {lost nd td : Int} {F : List (Int × Int)} {hs : List Int}
theorem LgI.ne_qB (h : LgI T w0 x g B q N D A c lost nd F hs td) : B ≠ q := fun e => by
  subst e
  obtain ⟨es, clock, hb, rest⟩ := h.map
  have := h.que.box
  rw [hb] at this
  cases this
theorem LgI.ne_AB (h : LgI T w0 x g B q N D A c lost nd F hs td) : blk A ≠ some B := fun e => by
  rcases h.que.row.at0 with hA | ⟨b', cs, hb', hbb⟩
  · rw [hA] at e; cases e
  · rw [hb'] at e; cases e
    obtain ⟨es, clock, hb, rest⟩ := h.map
    rw [hbb] at hb; cases hb
/-- The queue has turned. -/
theorem LgI.quest {A' : Option Addr} {c' : Nat} {hs' : List Int} (h : LgI T w0 x g B q N D A c lost nd F hs td) (hq : Que y w0.heap.size q 8 (ints hs') lost A' hs'.length c') (ht : Tch x y q A) (hA : blk A' = blk A ∨ ∃ b, blk A' = some b ∧ x.heap.size ≤ b) :
    LgI (fun k => T k ∨ blk A' = some k) w0 y g B q N D A' c' lost nd F hs' td ∧ Chgd T x y ∧ ∀ k, (T k ∨ blk A' = some k) → T k ∨ x.heap.size ≤ k := by
  have hfr : ∀ k, (T k ∨ blk A' = some k) → T k ∨ x.heap.size ≤ k := fun k hk => by
    rcases hk with hk | hk
    · exact .inl hk
    · rcases hA with hA | ⟨b, hb, hbb⟩
      · rw [hA] at hk; exact .inl (h.tA k hk)
      · rw [hb] at hk; cases hk; exact .inr hbb
  refine ⟨⟨?_, mapAt_keep h.map (ht.block B (mapAt_lt h.map) h.ne_qB (fun e => h.ne_AB e)), h.tie, hq, h.los, h.ntd, h.tds, .inl h.tg, .inl h.tB, .inl h.tq, fun b hb => .inr hb, fun k hk => ?_, fun k hk => ?_, h.uni, h.bts, h.fln, ht.below h.bel.size (h.low q h.tq) (fun b hb => h.low b (h.tA b hb)) |> fun hb => h.bel.trans hb⟩, Chgd.tch ht h.tq h.tA, hfr⟩
  · exact (ht.block g h.lt (fun e => h.ne_q e.symm) (fun e => h.ne_A g e rfl)).trans h.box
  · rcases hfr k hk with h1 | h1
    · exact h.low k h1
    · have := h.bel.size; omega
  · rcases hk with h1 | h1
    · exact Nat.lt_of_lt_of_le (h.tlt k h1) ht.size
    · exact (hq.row.lt h1).2
end
theorem Chgd.after2 {T T2 : Nat → Prop} {w w' w2 : World} (h : Chgd T w w') (k : Chgd T2 w' w2) (hT : ∀ i, T2 i → T i ∨ w.heap.size ≤ i) : Chgd T w w2 :=
  ⟨k.os.trans h.os, k.tape.trans h.tape, k.output.trans h.output, Nat.le_trans h.size k.size, fun i hi ht => (k.block i (Nat.lt_of_lt_of_le hi h.size) (fun e => (hT i e).elim ht (fun e => by omega))).trans (h.block i hi ht)⟩
def RemP (T : Nat → Prop) (w0 w : World) (g B q N c : Nat) (D : DataW Unit) (A : Option Addr) (lost nd td : Int) (F : List (Int × Int)) (hs : List Int) (code : Int) (w' : World) : Prop := ∃ A' c' T', LgI T' w0 w' g B q N D A' c' lost nd F (hsE hs code) td ∧ Chgd T w w' ∧ ∀ k, T' k → T k ∨ w.heap.size ≤ k
theorem put1 (T : Nat → Prop) (w0 w : World) (g B q N c : Nat) (D : DataW Unit) (A : Option Addr) (lost nd td : Int) (F : List (Int × Int)) (hs : List Int) (code : Int) (h : LgI T w0 w g B q N D A c lost nd F hs td) (hl : hs.length ≤ 7) : Calls Try.prog 53 #[.pointer (some ⟨q, 0, none⟩), .slice (some ⟨w.heap.size, 0, none⟩) 1 1] (w.alloc (.cells #[.int .i64 code] 3)) fun e w' => (∃ v, e = .returned v) ∧ ∃ A' c', LgI (fun k => T k ∨ blk A' = some k) w0 w' g B q N D A' c' lost nd F (hs ++ [code]) td ∧ Chgd T w w' ∧ ∀ k, (T k ∨ blk A' = some k) → T k ∨ w.heap.size ≤ k := by
  have hba : Below w.heap.size w (w.alloc (.cells #[.int .i64 code] 3)) := (Below.refl _ _).alloc (Nat.le_refl _) _
  have h1 := h.below hba
  refine (qput_any (w.alloc (.cells #[.int .i64 code] 3)) q w0.heap.size hs.length c 1 1 8 lost (ints hs) [.int .i64 code] A (some ⟨w.heap.size, 0, none⟩) h1.que (h1.bel.size) (fun k hk => Src.lit w 3 [.int .i64 code] (by simp [Value.oneCell']) k hk) (by omega) (by simp [maxLen]) (by have := h.los; omega)).mono ?_
  rintro e w' ⟨k, A', c', rfl, hk, hq, ht, hA⟩
  obtain rfl : k = 1 := by omega
  have hq' : Que w' w0.heap.size q 8 (ints (hs ++ [code])) lost A' (hs ++ [code]).length c' := by
    have e1 : ints (hs ++ [code]) = ints hs ++ ([.int .i64 code] : List Value).take 1 := by simp
    have e2 : (hs ++ [code]).length = hs.length + 1 := by simp
    rw [e1, e2]
    have e3 : lost + (((1 : Nat) : Int) - ((1 : Nat) : Int)) = lost := by omega
    rw [e3] at hq
    exact hq
  obtain ⟨g1, g2, g3⟩ := h1.quest hq' ht hA
  refine ⟨⟨_, rfl⟩, A', c', g1, (Chgd.of_below hba).trans g2, fun k hk => ?_⟩
  rcases g3 k hk with h2 | h2
  · exact .inl h2
  · exact .inr (Nat.le_trans hba.size h2)
theorem take1 (T : Nat → Prop) (w0 w : World) (g B q N c : Nat) (D : DataW Unit) (A : Option Addr) (lost nd td : Int) (F : List (Int × Int)) (v : Int) (tl : List Int) (h : LgI T w0 w g B q N D A c lost nd F (v :: tl) td) : Calls Try.prog 52 #[.pointer (some ⟨q, 0, none⟩)] w fun e w' => (∃ u, e = .returned u) ∧ ∃ A' c', LgI (fun k => T k ∨ blk A' = some k) w0 w' g B q N D A' c' lost nd F tl td ∧ Chgd T w w' ∧ ∀ k, (T k ∨ blk A' = some k) → T k ∨ w.heap.size ≤ k := by
  refine (qtake_some w q w0.heap.size tl.length c 8 lost (.int .i64 v) (ints tl) A h.que).mono ?_
  rintro e w2 ⟨rfl, A2, p2, hq2, ht2, hA2⟩
  obtain ⟨g1, g2, g3⟩ := h.quest (hs' := tl) hq2 ht2 (.inl hA2)
  exact ⟨⟨_, rfl⟩, A2, p2, g1, g2, g3⟩
set_option maxRecDepth 100000 in
set_option maxHeartbeats 4000000 in
theorem rem_in (T : Nat → Prop) (w0 w : World) (g B q N c : Nat) (D : DataW Unit) (A : Option Addr) (lost nd td : Int) (F : List (Int × Int)) (hs : List Int) (code : Int) (h : LgI T w0 w g B q N D A c lost nd F hs td) : Calls Try.prog 36 #[.pointer (some ⟨g, 0, none⟩), .int .i64 code] w fun e w' => e = .returned (.tuple #[]) ∧ RemP T w0 w g B q N c D A lost nd td F hs code w' := by
  have HM := Lib.hid h
  have hl8 : hs.length ≤ 8 := by have := h.que.fits; omega
  obtain ⟨c0, c1, c2, c3, c4, c5, c6, c7, c8, c9, c10, c11⟩ := h.cells
  have HRO := Lib.hid (qroom_any w q w0.heap.size hs.length c 8 lost (ints hs) A h.que)
  clear h
  by_cases h8 : hs.length = 8
  · obtain ⟨v, tl, rfl⟩ : ∃ v tl, hs = v :: tl := by
      cases hs with
      | nil => simp at h8
      | cons v tl => exact ⟨v, tl, rfl⟩
    have h7 : tl.length ≤ 7 := by simp at h8; omega
    have HHS := Lib.hid (show hsE (v :: tl) code = tl ++ [code] from by unfold hsE; rw [if_pos h8]; rfl)
    obtain ⟨R, hR⟩ : ∃ R : Int, (8 : Int) - ((v :: tl).length : Nat) = R := ⟨_, rfl⟩
    rw [hR] at HRO
    obtain rfl : R = 0 := by rw [← hR, h8]; rfl
    clear hR hl8 h8
    go_enter Try.func36, Try.ntmps36
    go_upto_region 1 with (go_at_call 51; refine (HRO.out).mono ?_; rintro e w1 ⟨rfl, kk, rfl⟩; have HM1 := Lib.hid (HM.out.below (below_drewN (Below.refl w.heap.size w) kk)); have HCH1 := Lib.hid (Chgd.of_below (T := T) (below_drewN (Below.refl w.heap.size w) kk)); clear c0 c1 c2 c3 c4 c5 c6 c7 c8 c9 c10 c11; generalize w.drewN kk = w1 at *)
    clear HM HRO
    obtain ⟨c0, c1, c2, c3, c4, c5, c6, c7, c8, c9, c10, c11⟩ := HM1.out.cells
    go_upto_region 2 with (go_at_call 52; refine (take1 T w0 _ g B q N c D A lost nd td F v tl HM1.out).mono ?_; rintro e w2 ⟨⟨u, rfl⟩, A2, p2, hm2, hc2, ht2⟩; have HM2 := Lib.hid hm2; have HCH2 := Lib.hid (HCH1.out.trans hc2); have HTT2 := Lib.hid (show ∀ k, (T k ∨ blk A2 = some k) → T k ∨ w.heap.size ≤ k from fun k hk => (ht2 k hk).imp id (Nat.le_trans HCH1.out.size)); clear hm2 hc2 ht2 c0 c1 c2 c3 c4 c5 c6 c7 c8 c9 c10 c11)
    clear HM1
    obtain ⟨c0, c1, c2, c3, c4, c5, c6, c7, c8, c9, c10, c11⟩ := HM2.out.cells
    go_wp2_with (go_at_call 53; refine (put1 _ w0 _ g B q N p2 D A2 lost nd td F tl code HM2.out h7).mono ?_; rintro e w3 ⟨⟨u3, rfl⟩, A3, p3, hm3, hc3, ht3⟩; have HM3 := Lib.hid hm3; have HCH3 := Lib.hid (HCH2.out.after2 hc3 (fun k hk => HTT2.out k hk)); have HTT3 := Lib.hid (show ∀ k, ((T k ∨ blk A2 = some k) ∨ blk A3 = some k) → T k ∨ w.heap.size ≤ k from fun k hk => (ht3 k hk).elim (fun h => HTT2.out k h) (fun h => .inr (Nat.le_trans HCH2.out.size h))); clear hm3 hc3 ht3 c0 c1 c2 c3 c4 c5 c6 c7 c8 c9 c10 c11)
    go_end0
    exact ⟨rfl, A3, p3, _, by rw [HHS.out]; exact HM3.out, HCH3.out, HTT3.out⟩
  · have h7 : hs.length ≤ 7 := by omega
    have HHS := Lib.hid (show hsE hs code = hs ++ [code] from by unfold hsE; rw [if_neg h8])
    obtain ⟨R, hR⟩ : ∃ R : Int, (8 : Int) - (hs.length : Nat) = R := ⟨_, rfl⟩
    rw [hR] at HRO
    have hRz : (R == 0) = false := by simp; omega
    clear hR hl8 h8
    go_enter Try.func36, Try.ntmps36
    go_upto_region 2 with (go_at_call 51; refine (HRO.out).mono ?_; rintro e w1 ⟨rfl, kk, rfl⟩; have HM1 := Lib.hid (HM.out.below (below_drewN (Below.refl w.heap.size w) kk)); have HCH1 := Lib.hid (Chgd.of_below (T := T) (below_drewN (Below.refl w.heap.size w) kk)); clear c0 c1 c2 c3 c4 c5 c6 c7 c8 c9 c10 c11; generalize w.drewN kk = w1 at *)
    clear HM HRO
    obtain ⟨c0, c1, c2, c3, c4, c5, c6, c7, c8, c9, c10, c11⟩ := HM1.out.cells
    go_wp2_with (go_at_call 53; refine (put1 T w0 _ g B q N c D A lost nd td F hs code HM1.out h7).mono ?_; rintro e w3 ⟨⟨u3, rfl⟩, A3, p3, hm3, hc3, ht3⟩; have HM3 := Lib.hid hm3; have HCH3 := Lib.hid (HCH1.out.trans hc3); have HTT3 := Lib.hid (show ∀ k, (T k ∨ blk A3 = some k) → T k ∨ w.heap.size ≤ k from fun k hk => (ht3 k hk).imp id (Nat.le_trans HCH1.out.size)); clear hm3 hc3 ht3 c0 c1 c2 c3 c4 c5 c6 c7 c8 c9 c10 c11)
    go_end0
    exact ⟨rfl, A3, p3, _, by rw [HHS.out]; exact HM3.out, HCH3.out, HTT3.out⟩
end Go.Proofs.Ytncnlbokipieaaa
