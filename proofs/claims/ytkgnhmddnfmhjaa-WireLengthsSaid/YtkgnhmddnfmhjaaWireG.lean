/- What the reader's head answers. -/
import Derived.Test.YtkgnhmddnfmhjaaWireF
namespace Go.Proofs.Ytkgnhmddnfmhjaa
open Go.RowKit

/-- So many bits of the core that are 0. -/
def zO (b : List Int) : Nat → RS → Option RS
  | 0, s => some s
  | k + 1, s => match zO b k s with
    | none => none
    | some t => match bitO b t with
      | none => none
      | some (x, u) => if x = 0 then some u else none
theorem zO_part {b : List Int} {s u : RS} : ∀ (k j : Nat), j ≤ k → zO b k s = some u → ∃ t, zO b j s = some t := by
  intro k
  induction k generalizing u with
  | zero => intro j hj h; exact ⟨u, by rw [show j = 0 by omega]; exact h⟩
  | succ k ih =>
    intro j hj h
    by_cases e : j = k + 1
    · exact ⟨u, by rw [e]; exact h⟩
    · unfold zO at h
      rcases hb : zO b k s with _ | t
      · rw [hb] at h; cases h
      · exact ih j (by omega) hb
theorem zO_next {b : List Int} {s t u : RS} {k j : Nat} (h : zO b k s = some u) (hj : j < k) (ht : zO b j s = some t) : ∃ t', bitO b t = some (0, t') ∧ zO b (j + 1) s = some t' := by
  obtain ⟨t', h'⟩ := zO_part k (j + 1) hj h
  have h2 := h'
  unfold zO at h2
  rw [ht] at h2
  simp only at h2
  rcases hb : bitO b t with _ | ⟨x, t2⟩
  · rw [hb] at h2; cases h2
  · rw [hb] at h2
    simp only at h2
    split at h2
    · rename_i hx
      simp only [Option.some.injEq] at h2
      subst h2
      subst hx
      exact ⟨t2, rfl, h'⟩
    · cases h2
theorem zO_len {b : List Int} {s : RS} : ∀ (k : Nat) {t : RS}, zO b k s = some t → t.co.length = s.co.length + k := by
  intro k
  induction k with
  | zero => intro t h; cases h; rfl
  | succ k ih =>
    intro t h
    obtain ⟨t0, h0⟩ := zO_part (k + 1) k (by omega) h
    obtain ⟨t', hb, h2⟩ := zO_next h (by omega) h0
    have := ih h0
    rw [h] at h2
    cases h2
    rw [(bitO_co hb).1, List.length_append, this]
    simp; omega
theorem bitsO_len {b : List Int} {s t : RS} {k : Nat} (h : bitsO b k s = some t) : t.co.length = s.co.length + k := by
  obtain ⟨l, e, hl⟩ := bitsO_co k h
  rw [e, List.length_append, hl]
theorem bitO_len {b : List Int} {s t : RS} {x : Int} (h : bitO b s = some (x, t)) : t.co.length = s.co.length + 1 := by
  rw [(bitO_co h).1]; simp
/-- A frame without its bytes stands ahead. -/
def HeadR (b : List Int) (s : RS) (i r nn : Int) (u : RS) : Prop :=
  ∃ s1 s2 s3 s5, bitO b s = some (0, s1) ∧ bitsO b 11 s1 = some s2 ∧ i = numV s1 s2 ∧ bitO b s2 = some (r, s3) ∧ zO b 2 s3 = some s5 ∧ bitsO b 4 s5 = some u ∧ nn = numV s5 u ∧ nn ≤ 8
/-- A frame in a block that is not the reader's, and not the row's. -/
structure Hf (h2 g : Nat) (i nn : Int) (r : Bool) (d : Nat → Int) (v : Value) (wr : World) : Prop where
  fr : FrAt wr h2 i r nn d
  ne : h2 ≠ g
  nv : v.ownBlock ≠ some h2
section
variable {B g n c h2 : Nat} {A : Option Addr} {b : List Int} {v v' : Value} {s t u : RS} {w wr w' w0 : World} {i nn r : Int} {rb : Bool} {d : Nat → Int}
theorem Hf.mv (h : Hf h2 g i nn rb d v w) (hm : Mv g v v' w w') : Hf h2 g i nn rb d v' w' :=
  ⟨(hm.keep h.fr.lt h.ne h.nv).1.trans h.fr, h.ne, (hm.keep h.fr.lt h.ne h.nv).2⟩
theorem Rd.other (h : Rd B g A n c b v s w) (hg : w.grownBy w' (some h2)) (h1 : g < h2) (hv : v.ownBlock ≠ some h2) : Rd B g A n c b v s w' :=
  ⟨(hg.block g h.glt (fun e => by cases e; omega)).trans h.blk, h.own.kept hg (.inr hv), ⟨h.byt.len, h.byt.cap, h.byt.max, h.byt.rng, fun h0 => by
    obtain ⟨b', off, e, hb, hc⟩ := h.byt.cells h0
    exact ⟨b', off, e, hb, fun j hj => hg.cell (hc j hj) (fun e2 => by have := h.lt; simp at e2; omega)⟩⟩, h.lt, h.a1, h.a2, h.a3, h.a4⟩
theorem Mv.other (hm : Mv g v v' wr w) (hg : w.grownBy w' (some h2)) (hh : wr.heap.size ≤ h2) : Mv g v v' wr w' :=
  ⟨⟨hg.os.trans hm.chg.os, hg.tape.trans hm.chg.tape, hg.output.trans hm.chg.output, Nat.le_trans hm.chg.size hg.size, fun k hk h1 h2' => (hg.block k (Nat.lt_of_lt_of_le hk hm.chg.size) (fun e => by cases e; omega)).trans (hm.chg.block k hk h1 h2')⟩, hm.new⟩
theorem grown_setRow (w : World) (h2 : Nat) (cs : Array Value) : w.grownBy (w.setRow h2 cs) (some h2) :=
  have hb := below_setRow (Below.refl h2 w) (Nat.le_refl h2) cs
  ⟨hb.os, hb.tape, hb.output, hb.size, fun k _ hne => setRow_other w h2 k cs (fun e => hne (by rw [e]))⟩
/-- A frame that is made now. -/
theorem Hf.new (h : Rd B g A n c b v s wr) : Hf wr.heap.size g 0 0 false (fun _ => 0) v (wr.alloc (.cells #[.int .i64 0, .bool false, .int .i64 0, .int .u8 0, .int .u8 0, .int .u8 0, .int .u8 0, .int .u8 0, .int .u8 0, .int .u8 0, .int .u8 0] 24)) :=
  ⟨frame_new wr 0 0 false (fun _ => 0), Nat.ne_of_gt h.glt, fun e => by have := h.own.lt _ e; omega⟩
set_option maxHeartbeats 2000000 in
theorem head_yes (h : Rd B g A n c b v s w0) (hh : HeadR b s i r nn u) (hk : s.co.length ≤ 500) :
    Calls Try.prog 33 #[.pointer (some ⟨g, 0, none⟩)] w0 fun e w' => e = .returned (.agg #[.int .i64 i, .bool (r == 1), .int .i64 nn, .int .u8 0, .int .u8 0, .int .u8 0, .int .u8 0, .int .u8 0, .int .u8 0, .int .u8 0, .int .u8 0]) ∧ ∃ v', Rd B g A n c b v' u w' ∧ Mv g v v' w0 w' := by
  obtain ⟨s1, s2, s3, s5, hb1, hb2, rfl, hb3, hb4, hb5, rfl, hn8⟩ := hh
  have hl1 := bitO_len hb1
  have hl2 := bitsO_len hb2
  have hl3 := bitO_len hb3
  have hl5 := zO_len 2 hb4
  have hl6 := bitsO_len hb5
  have hn0 := (numV_bounds hb5).1
  obtain ⟨rb, hrb⟩ : ∃ rb : Bool, (r == 1) = rb := ⟨_, rfl⟩
  have hrd := h.step (w' := w0.alloc (.cells #[.int .i64 0, .bool false, .int .i64 0, .int .u8 0, .int .u8 0, .int .u8 0, .int .u8 0, .int .u8 0, .int .u8 0, .int .u8 0, .int .u8 0] 24)) ((Below.refl _ _).alloc (Nat.le_refl _) _)
  have hmv : Mv g v v w0 (w0.alloc (.cells #[.int .i64 0, .bool false, .int .i64 0, .int .u8 0, .int .u8 0, .int .u8 0, .int .u8 0, .int .u8 0, .int .u8 0, .int .u8 0, .int .u8 0] 24)) := Mv.of_below ((Below.refl _ _).alloc (Nat.le_refl _) _)
  have hf := Hf.new h
  have HG := Lib.hid h.glt
  have HR := Lib.hid hrd
  have HM := Lib.hid hmv
  have HF := Lib.hid hf
  have HB1 := Lib.hid hb1
  have HB2 := Lib.hid hb2
  have HB3 := Lib.hid hb3
  have HB4 := Lib.hid hb4
  have HB5 := Lib.hid hb5
  rw [hrb]
  clear h hrd hmv hf hb1 hb2 hb3 hb4 hb5
  go_enter Try.func33, Try.ntmps33
  go_wp2_with (first
    | (go_at_call 42; refine (bit_yes HR.out HB1.out (by omega)).mono ?_; rintro e w1 ⟨rfl, v1, h1, hm1⟩; have HN := Lib.hid h1; have HK := Lib.hid (HM.out.trans hm1); have HQ := Lib.hid (HF.out.mv hm1); clear HR HM HF h1 hm1; have HR := HN; have HM := HK; have HF := HQ; clear HN HK HQ)
    | (go_at_call 41; refine (always_yes _ _).mono ?_; rintro e w2 ⟨rfl, rfl⟩)
    | (go_at_call 34; refine (num_yes HR.out HB2.out ⟨by omega, by omega⟩ (by omega)).mono ?_; rintro e w1 ⟨rfl, v1, h1, hm1⟩; have HN := Lib.hid h1; have HK := Lib.hid (HM.out.trans hm1); have HQ := Lib.hid (HF.out.mv hm1); clear HR HM HF h1 hm1; have HR := HN; have HM := HK; have HF := HQ; clear HN HK HQ)
    | (go_at_call 42; refine (bit_yes HR.out HB3.out (by omega)).mono ?_; rintro e w1 ⟨rfl, v1, h1, hm1⟩; have HN := Lib.hid h1; have HK := Lib.hid (HM.out.trans hm1); have HQ := Lib.hid (HF.out.mv hm1); clear HR HM HF h1 hm1; have HR := HN; have HM := HK; have HF := HQ; clear HN HK HQ))
  go_loopw [14] (fun x w1 => ∃ (j : Nat) (t : RS) (v1 : Value), j ≤ 2 ∧ x = .int .i64 j ∧ Hid (zO b j s3 = some t) ∧ Hid (Rd B g A n c b v1 t w1) ∧ Hid (Mv g v v1 w0 w1) ∧ Hid (Hf w0.heap.size g 0 0 false (fun _ => 0) v1 w1)) (fun x _ => 2 - (intOf x).toNat)
  case atStart => exact ⟨0, s3, _, Nat.zero_le _, rfl, rfl, HR, HM, HF⟩
  case round =>
    clear HR HM HF HB1 HB2 HB3
    obtain ⟨j, t1, v0, hj, rfl, HJ, HR, HM, HF⟩ := hrel
    by_cases hlt : j < 2
    · obtain ⟨t2, hbit, hnext⟩ := zO_next HB4.out hlt HJ.out
      have hlen := zO_len j HJ.out
      have HBT := Lib.hid hbit
      have HNX := Lib.hid hnext
      clear hbit hnext
      go_wp2_with (first
        | (go_at_call 42; refine (bit_yes HR.out HBT.out (by omega)).mono ?_; rintro e w1 ⟨rfl, v1, h1, hm1⟩; have HN := Lib.hid h1; have HK := Lib.hid (HM.out.trans hm1); have HQ := Lib.hid (HF.out.mv hm1); clear HR HM HF h1 hm1; have HR := HN; have HM := HK; have HF := HQ; clear HN HK HQ)
        | (go_at_call 41; refine (always_yes _ _).mono ?_; rintro e w2 ⟨rfl, rfl⟩))
      go_roundw
      case rel => exact ⟨j + 1, t2, _, by omega, by go_num, HNX, HR, HM, HF⟩
      case measure => simp [intOf]; omega
    · obtain rfl : j = 2 := by omega
      have ht : t1 = s5 := Option.some.inj (HJ.out.symm.trans HB4.out)
      subst ht
      go_wp2_with (first
        | (go_at_call 34; refine (num_yes HR.out HB5.out ⟨by omega, by omega⟩ (by omega)).mono ?_; rintro e w1 ⟨rfl, v1, h1, hm1⟩; have HN := Lib.hid h1; have HK := Lib.hid (HM.out.trans hm1); have HQ := Lib.hid (HF.out.mv hm1); clear HR HM HF h1 hm1; have HR := HN; have HM := HK; have HF := HQ; clear HN HK HQ)
        | (refine wpList_store_row rfl _ (.tmp 2) (.tmp 29) rfl w0.heap.size _ rfl rfl _ _ HF.out.fr info_frame rfl (one_frame (numV s1 s2) (numV t1 u) rb (fun _ => 0)) ?_))
      exact bodyPost_ret (results_cell_row rfl _ _ _ _ _ _ _ rfl (HF.out.fr.row (numV s1 s2) (numV t1 u) rb (fun _ => 0)) Try.underlying24 rfl info_frame) rfl ⟨rfl, _, HR.out.other (grown_setRow _ _ _) HG.out HF.out.nv, HM.out.other (grown_setRow _ _ _) (Nat.le_refl _)⟩
end
end Go.Proofs.Ytkgnhmddnfmhjaa
