/- What the document's Core and Encode answer. -/
import Derived.Test.YtkgnhmddnfmhjaaWireC
namespace Go.Proofs.Ytkgnhmddnfmhjaa
open Go.RowKit

theorem byt3 (w : World) (b : Int) (h0 : 0 ≤ b) (h1 : b ≤ 255) : Byt (w.alloc (.cells #[.int .u8 b, .int .u8 0, .int .u8 0] 5)) (w.heap.size + 1) (some ⟨w.heap.size, 0, none⟩) 3 3 [b, 0, 0] :=
  Byt.new w 5 [b, 0, 0] (fun x hx => by simp only [List.mem_cons, List.not_mem_nil, or_false] at hx; omega) (by simp [maxLen])
theorem byt10 (w : World) : Byt (w.alloc (.cells #[.int .u8 1, .int .u8 1, .int .u8 1, .int .u8 1, .int .u8 1, .int .u8 1, .int .u8 1, .int .u8 1, .int .u8 1, .int .u8 1] 5)) (w.heap.size + 1) (some ⟨w.heap.size, 0, none⟩) 10 10 (List.replicate 10 1) :=
  Byt.new w 5 (List.replicate 10 1) ones_range (by simp [maxLen])
theorem below_alloc {B : Nat} {w w' : World} {o : Obj} (h : Below B (w.alloc o) w') (hB : B ≤ w.heap.size := by omega) : Below B w w' := ((Below.refl B w).alloc hB o).trans h
section
variable {i n : Int} {r : Bool} {d : Nat → Int} {w wr w' : World} {v v' : Value} {k k' : Nat} {l l' : List Int}
theorem Cs.app (h : Cs i n r d w v k l wr) (hb : Below (w.heap.size + 1) wr w') (ho : w'.ownsRow (w.heap.size + 1) 5 1 v' k' (l'.map (Value.int .u8))) : Cs i n r d w v' k' l' w' :=
  ⟨ho, h.fr.below hb (Nat.lt_succ_self _), h.bel.trans (hb.mono (Nat.le_succ _)), Nat.le_trans h.sz hb.size⟩
end
set_option maxHeartbeats 2000000 in
theorem dcore_any (i n : Int) (r : Bool) (d : Nat → Int) (w : World) (hi : 0 ≤ i ∧ i ≤ 2047) (hn : 0 ≤ n ∧ n ≤ 8) (hd : ∀ j, j < 8 → 0 ≤ d j ∧ d j ≤ 255) :
    Calls Try.prog 20 #[.agg #[.int .i64 i, .bool r, .int .i64 n, .int .u8 (d 0), .int .u8 (d 1), .int .u8 (d 2), .int .u8 (d 3), .int .u8 (d 4), .int .u8 (d 5), .int .u8 (d 6), .int .u8 (d 7)]] w fun e w' => ∃ v, e = .returned v ∧ w'.ownsRow w.heap.size 5 1 v (coreL i n r (bOf i r n d)).length ((coreL i n r (bOf i r n d)).map (Value.int .u8)) ∧ Below w.heap.size w w' := by
  obtain ⟨hi0, hi1⟩ := hi
  obtain ⟨hn0, hn1⟩ := hn
  cases r with
  | true =>
    have hcs : Cs i n true d w (.slice (some ⟨w.heap.size + 1, 0, none⟩) 1 1) 1 [0] ((w.alloc (.cells #[.int .i64 i, .bool true, .int .i64 n, .int .u8 (d 0), .int .u8 (d 1), .int .u8 (d 2), .int .u8 (d 3), .int .u8 (d 4), .int .u8 (d 5), .int .u8 (d 6), .int .u8 (d 7)] 24)).alloc (.cells #[.int .u8 0] 5)) := by
      refine ⟨?_, heap_alloc2_old w _ _, ((Below.refl _ _).alloc (Nat.le_refl _) _).alloc (by simp) _, by simp⟩
      have := World.ownsRow_lit (w.alloc (.cells #[.int .i64 i, .bool true, .int .i64 n, .int .u8 (d 0), .int .u8 (d 1), .int .u8 (d 2), .int .u8 (d 3), .int .u8 (d 4), .int .u8 (d 5), .int .u8 (d 6), .int .u8 (d 7)] 24)) #[.int .u8 0] 1 (e := 5) (size := 1) (base := w.heap.size + 1) (by simp) (by simp [maxLen]) rfl
      simpa using this
    have hby := fun w => dbytes_any i n true d w hd
    generalize hbl : bOf i true n d = lb at hby ⊢
    have hm8 : lb.length ≤ 8 := by rw [← hbl]; exact bof_le i n true d
    have hbi := fun (w : World) (A : Option Addr) (c : Nat) (h : Byt w w.heap.size A lb.length c lb) => rbits_any A lb.length c lb w h (by omega)
    have hfore : [0] ++ ofL i 11 ++ [1, 0, 0] ++ ofL n 4 ++ bitsB lb = foreL i n true lb := by
      simp [foreL, headL, show ofL 0 1 = [0] from by decide, show ofL 1 1 = [1] from by decide, show ofL 0 2 = [0, 0] from by decide]
    have hlen : (coreL i n true lb).length = 19 + 8 * lb.length + 15 := by rw [core_len]; omega
    obtain ⟨q, hq⟩ : ∃ q : Nat, remN 15 17817 0 (foreL i n true lb) = q := ⟨_, rfl⟩
    have hq15 := rem_lt (W := 15) (L := 17817) (by omega) 0 (foreL i n true lb)
    have hcr := fun (w : World) (A : Option Addr) (c : Nat) (h : Byt w w.heap.size A (19 + 8 * lb.length) c (foreL i n true lb)) => rcrc15_any A (19 + 8 * lb.length) c (foreL i n true lb) w h (by omega)
    have hcore : coreL i n true lb = foreL i n true lb ++ ofL (q : Int) 15 := by unfold coreL; rw [hq]
    simp only [hq] at hcr hq15
    have hwq : IntKind.u32.wrap (q : Int) = q := IntWalk.u32_in _ (by omega)
    have hwi : IntKind.u32.wrap i = i := IntWalk.u32_in _ (by omega)
    have hwn : IntKind.u32.wrap n = n := IntWalk.u32_in _ (by omega)
    generalize hml : lb.length = m at hby hm8 hbi hlen hcr
    have HC := Lib.hid hcs
    have HBY := Lib.hid hby
    have HBI := Lib.hid hbi
    have HCR := Lib.hid hcr
    have HFO := Lib.hid hfore
    have HCO := Lib.hid hcore
    have HLE := Lib.hid hlen
    clear hcs hby hbi hcr hfore hcore hlen hd hbl hml hq
    go_enter Try.func20, Try.ntmps20
    obtain ⟨c0, c1, c2, c3, c4, c5, c6, c7, c8, c9, c10⟩ := HC.out.fr.cells
    have hsz := HC.out.sz
    go_wp2_with (first
      | (go_at_call_of 30 (Value.int IntKind.i64 11); refine (rof_any i 11 _ ⟨by omega, by omega⟩).mono ?_; rw [cw11]; rintro e w1 ⟨A1, z1, rfl, hB1, hb1⟩; have h1 := HC.out.step hb1; clear hsz; clear c0 c1 c2 c3 c4 c5 c6 c7 c8 c9 c10; obtain ⟨c0, c1, c2, c3, c4, c5, c6, c7, c8, c9, c10⟩ := h1.fr.cells; have HN := Lib.hid h1; clear HC h1; have HC := HN; clear HN; have hsz := HC.out.sz)
      | (go_at_call_of 30 (Value.int IntKind.i64 4); refine (rof_any n 4 _ ⟨by omega, by omega⟩).mono ?_; rw [cw4]; rintro e w1 ⟨A1, z1, rfl, hB1, hb1⟩; have h1 := HC.out.step hb1; clear hsz; clear c0 c1 c2 c3 c4 c5 c6 c7 c8 c9 c10; obtain ⟨c0, c1, c2, c3, c4, c5, c6, c7, c8, c9, c10⟩ := h1.fr.cells; have HN := Lib.hid h1; clear HC h1; have HC := HN; clear HN; have hsz := HC.out.sz)
      | (go_at_call_of 30 (Value.int IntKind.i64 15); refine (rof_any (q : Int) 15 _ ⟨by omega, by omega⟩).mono ?_; rw [cw15]; rintro e w1 ⟨A1, z1, rfl, hB1, hb1⟩; have h1 := HC.out.step hb1; clear hsz; clear c0 c1 c2 c3 c4 c5 c6 c7 c8 c9 c10; obtain ⟨c0, c1, c2, c3, c4, c5, c6, c7, c8, c9, c10⟩ := h1.fr.cells; have HN := Lib.hid h1; clear HC h1; have HC := HN; clear HN; have hsz := HC.out.sz)
      | (at_builtin; refine wpList_bytes rfl (.tmp 4) (.tmp 8) rfl Try.underlying25 byte_info rfl HC.out.own rfl hB1 (by omega) hsz ?_; intro v2 w2 ho2 hb2; have h1 := HC.out.app hb2 ho2; clear hB1 ho2 hb2 hsz; clear c0 c1 c2 c3 c4 c5 c6 c7 c8 c9 c10; obtain ⟨c0, c1, c2, c3, c4, c5, c6, c7, c8, c9, c10⟩ := h1.fr.cells; have HN := Lib.hid h1; clear HC h1; have HC := HN; clear HN; have hsz := HC.out.sz)
      | (at_builtin; refine wpList_bytes rfl (.tmp 12) (.tmp 13) rfl Try.underlying25 byte_info rfl (HC.out.own.alloc _) rfl (byt3 _ 1 (by omega) (by omega)) (by omega) (by simp; omega) ?_; intro v2 w2 ho2 hb2; have h1 := HC.out.app (below_alloc hb2) ho2; clear ho2 hb2 hsz; clear c0 c1 c2 c3 c4 c5 c6 c7 c8 c9 c10; obtain ⟨c0, c1, c2, c3, c4, c5, c6, c7, c8, c9, c10⟩ := h1.fr.cells; have HN := Lib.hid h1; clear HC h1; have HC := HN; clear HN; have hsz := HC.out.sz)
      | (at_builtin; refine wpList_bytes rfl (.tmp 15) (.tmp 16) rfl Try.underlying25 byte_info rfl (HC.out.own.alloc _) rfl (byt3 _ 1 (by omega) (by omega)) (by omega) (by simp; omega) ?_; intro v2 w2 ho2 hb2; have h1 := HC.out.app (below_alloc hb2) ho2; clear ho2 hb2 hsz; clear c0 c1 c2 c3 c4 c5 c6 c7 c8 c9 c10; obtain ⟨c0, c1, c2, c3, c4, c5, c6, c7, c8, c9, c10⟩ := h1.fr.cells; have HN := Lib.hid h1; clear HC h1; have HC := HN; clear HN; have hsz := HC.out.sz)
      | (at_builtin; refine wpList_bytes rfl (.tmp 18) (.tmp 22) rfl Try.underlying25 byte_info rfl HC.out.own rfl hB1 (by omega) hsz ?_; intro v2 w2 ho2 hb2; have h1 := HC.out.app hb2 ho2; clear hB1 ho2 hb2 hsz; clear c0 c1 c2 c3 c4 c5 c6 c7 c8 c9 c10; obtain ⟨c0, c1, c2, c3, c4, c5, c6, c7, c8, c9, c10⟩ := h1.fr.cells; have HN := Lib.hid h1; clear HC h1; have HC := HN; clear HN; have hsz := HC.out.sz)
      | (go_at_call 15; refine (HBY.out _).mono ?_; rintro e w3 ⟨A3, z3, rfl, hB3, hb3⟩; have h1 := HC.out.step hb3; clear hsz; clear c0 c1 c2 c3 c4 c5 c6 c7 c8 c9 c10; obtain ⟨c0, c1, c2, c3, c4, c5, c6, c7, c8, c9, c10⟩ := h1.fr.cells; have HN := Lib.hid h1; clear HC h1; have HC := HN; clear HN; have hsz := HC.out.sz)
      | (go_at_call 31; refine (HBI.out _ _ _ hB3).mono ?_; rintro e w1 ⟨A1, z1, rfl, hB1, hb1⟩; have h1 := HC.out.step hb1; clear hsz hB3; clear c0 c1 c2 c3 c4 c5 c6 c7 c8 c9 c10; obtain ⟨c0, c1, c2, c3, c4, c5, c6, c7, c8, c9, c10⟩ := h1.fr.cells; have HN := Lib.hid h1; clear HC h1; have HC := HN; clear HN; have hsz := HC.out.sz)
      | (at_builtin; refine wpList_bytes rfl (.tmp 24) (.tmp 27) rfl Try.underlying25 byte_info rfl HC.out.own rfl hB1 (by omega) hsz ?_; intro v2 w2 ho2 hb2; have h1 := HC.out.app hb2 ho2; clear hB1 ho2 hb2 hsz; clear c0 c1 c2 c3 c4 c5 c6 c7 c8 c9 c10; obtain ⟨c0, c1, c2, c3, c4, c5, c6, c7, c8, c9, c10⟩ := h1.fr.cells; have HN := Lib.hid h1; clear HC h1; have HC := HN; clear HN; have hsz := HC.out.sz)
      | (go_at_call 32; have h5 := HC.out; rw [HFO.out] at h5; obtain ⟨A5, z5, rfl, hB5, _⟩ := Byt.of_own h5.own (bits_range (fore_bits _ _ _ _)); refine (HCR.out _ _ _ hB5).mono ?_; rintro e w5 ⟨rfl, hb5⟩; have h1 := h5.step hb5; clear hsz hB5 h5; clear c0 c1 c2 c3 c4 c5 c6 c7 c8 c9 c10; obtain ⟨c0, c1, c2, c3, c4, c5, c6, c7, c8, c9, c10⟩ := h1.fr.cells; have HN := Lib.hid h1; clear HC h1; have HC := HN; clear HN; have hsz := HC.out.sz)
      | (at_builtin; refine wpList_bytes rfl (.tmp 29) (.tmp 33) rfl Try.underlying25 byte_info rfl HC.out.own rfl hB1 (by omega) hsz ?_; intro v2 w2 ho2 hb2; have h1 := HC.out.app hb2 ho2; clear hB1 ho2 hb2 hsz; clear c0 c1 c2 c3 c4 c5 c6 c7 c8 c9 c10; obtain ⟨c0, c1, c2, c3, c4, c5, c6, c7, c8, c9, c10⟩ := h1.fr.cells; have HN := Lib.hid h1; clear HC h1; have HC := HN; clear HN; have hsz := HC.out.sz))
    exact bodyPost_ret (results_tmp rfl _ _ _) rfl ⟨_, rfl, by rw [HLE.out, HCO.out]; exact own_base HC.out.own (by omega), HC.out.bel⟩

  | false =>
    have hcs : Cs i n false d w (.slice (some ⟨w.heap.size + 1, 0, none⟩) 1 1) 1 [0] ((w.alloc (.cells #[.int .i64 i, .bool false, .int .i64 n, .int .u8 (d 0), .int .u8 (d 1), .int .u8 (d 2), .int .u8 (d 3), .int .u8 (d 4), .int .u8 (d 5), .int .u8 (d 6), .int .u8 (d 7)] 24)).alloc (.cells #[.int .u8 0] 5)) := by
      refine ⟨?_, heap_alloc2_old w _ _, ((Below.refl _ _).alloc (Nat.le_refl _) _).alloc (by simp) _, by simp⟩
      have := World.ownsRow_lit (w.alloc (.cells #[.int .i64 i, .bool false, .int .i64 n, .int .u8 (d 0), .int .u8 (d 1), .int .u8 (d 2), .int .u8 (d 3), .int .u8 (d 4), .int .u8 (d 5), .int .u8 (d 6), .int .u8 (d 7)] 24)) #[.int .u8 0] 1 (e := 5) (size := 1) (base := w.heap.size + 1) (by simp) (by simp [maxLen]) rfl
      simpa using this
    have hby := fun w => dbytes_any i n false d w hd
    generalize hbl : bOf i false n d = lb at hby ⊢
    have hm8 : lb.length ≤ 8 := by rw [← hbl]; exact bof_le i n false d
    have hbi := fun (w : World) (A : Option Addr) (c : Nat) (h : Byt w w.heap.size A lb.length c lb) => rbits_any A lb.length c lb w h (by omega)
    have hfore : [0] ++ ofL i 11 ++ [0, 0, 0] ++ ofL n 4 ++ bitsB lb = foreL i n false lb := by
      simp [foreL, headL, show ofL 0 1 = [0] from by decide, show ofL 0 2 = [0, 0] from by decide]
    have hlen : (coreL i n false lb).length = 19 + 8 * lb.length + 15 := by rw [core_len]; omega
    obtain ⟨q, hq⟩ : ∃ q : Nat, remN 15 17817 0 (foreL i n false lb) = q := ⟨_, rfl⟩
    have hq15 := rem_lt (W := 15) (L := 17817) (by omega) 0 (foreL i n false lb)
    have hcr := fun (w : World) (A : Option Addr) (c : Nat) (h : Byt w w.heap.size A (19 + 8 * lb.length) c (foreL i n false lb)) => rcrc15_any A (19 + 8 * lb.length) c (foreL i n false lb) w h (by omega)
    have hcore : coreL i n false lb = foreL i n false lb ++ ofL (q : Int) 15 := by unfold coreL; rw [hq]
    simp only [hq] at hcr hq15
    have hwq : IntKind.u32.wrap (q : Int) = q := IntWalk.u32_in _ (by omega)
    have hwi : IntKind.u32.wrap i = i := IntWalk.u32_in _ (by omega)
    have hwn : IntKind.u32.wrap n = n := IntWalk.u32_in _ (by omega)
    generalize hml : lb.length = m at hby hm8 hbi hlen hcr
    have HC := Lib.hid hcs
    have HBY := Lib.hid hby
    have HBI := Lib.hid hbi
    have HCR := Lib.hid hcr
    have HFO := Lib.hid hfore
    have HCO := Lib.hid hcore
    have HLE := Lib.hid hlen
    clear hcs hby hbi hcr hfore hcore hlen hd hbl hml hq
    go_enter Try.func20, Try.ntmps20
    obtain ⟨c0, c1, c2, c3, c4, c5, c6, c7, c8, c9, c10⟩ := HC.out.fr.cells
    have hsz := HC.out.sz
    go_wp2_with (first
      | (go_at_call_of 30 (Value.int IntKind.i64 11); refine (rof_any i 11 _ ⟨by omega, by omega⟩).mono ?_; rw [cw11]; rintro e w1 ⟨A1, z1, rfl, hB1, hb1⟩; have h1 := HC.out.step hb1; clear hsz; clear c0 c1 c2 c3 c4 c5 c6 c7 c8 c9 c10; obtain ⟨c0, c1, c2, c3, c4, c5, c6, c7, c8, c9, c10⟩ := h1.fr.cells; have HN := Lib.hid h1; clear HC h1; have HC := HN; clear HN; have hsz := HC.out.sz)
      | (go_at_call_of 30 (Value.int IntKind.i64 4); refine (rof_any n 4 _ ⟨by omega, by omega⟩).mono ?_; rw [cw4]; rintro e w1 ⟨A1, z1, rfl, hB1, hb1⟩; have h1 := HC.out.step hb1; clear hsz; clear c0 c1 c2 c3 c4 c5 c6 c7 c8 c9 c10; obtain ⟨c0, c1, c2, c3, c4, c5, c6, c7, c8, c9, c10⟩ := h1.fr.cells; have HN := Lib.hid h1; clear HC h1; have HC := HN; clear HN; have hsz := HC.out.sz)
      | (go_at_call_of 30 (Value.int IntKind.i64 15); refine (rof_any (q : Int) 15 _ ⟨by omega, by omega⟩).mono ?_; rw [cw15]; rintro e w1 ⟨A1, z1, rfl, hB1, hb1⟩; have h1 := HC.out.step hb1; clear hsz; clear c0 c1 c2 c3 c4 c5 c6 c7 c8 c9 c10; obtain ⟨c0, c1, c2, c3, c4, c5, c6, c7, c8, c9, c10⟩ := h1.fr.cells; have HN := Lib.hid h1; clear HC h1; have HC := HN; clear HN; have hsz := HC.out.sz)
      | (at_builtin; refine wpList_bytes rfl (.tmp 4) (.tmp 8) rfl Try.underlying25 byte_info rfl HC.out.own rfl hB1 (by omega) hsz ?_; intro v2 w2 ho2 hb2; have h1 := HC.out.app hb2 ho2; clear hB1 ho2 hb2 hsz; clear c0 c1 c2 c3 c4 c5 c6 c7 c8 c9 c10; obtain ⟨c0, c1, c2, c3, c4, c5, c6, c7, c8, c9, c10⟩ := h1.fr.cells; have HN := Lib.hid h1; clear HC h1; have HC := HN; clear HN; have hsz := HC.out.sz)
      | (at_builtin; refine wpList_bytes rfl (.tmp 12) (.tmp 13) rfl Try.underlying25 byte_info rfl (HC.out.own.alloc _) rfl (byt3 _ 0 (by omega) (by omega)) (by omega) (by simp; omega) ?_; intro v2 w2 ho2 hb2; have h1 := HC.out.app (below_alloc hb2) ho2; clear ho2 hb2 hsz; clear c0 c1 c2 c3 c4 c5 c6 c7 c8 c9 c10; obtain ⟨c0, c1, c2, c3, c4, c5, c6, c7, c8, c9, c10⟩ := h1.fr.cells; have HN := Lib.hid h1; clear HC h1; have HC := HN; clear HN; have hsz := HC.out.sz)
      | (at_builtin; refine wpList_bytes rfl (.tmp 15) (.tmp 16) rfl Try.underlying25 byte_info rfl (HC.out.own.alloc _) rfl (byt3 _ 0 (by omega) (by omega)) (by omega) (by simp; omega) ?_; intro v2 w2 ho2 hb2; have h1 := HC.out.app (below_alloc hb2) ho2; clear ho2 hb2 hsz; clear c0 c1 c2 c3 c4 c5 c6 c7 c8 c9 c10; obtain ⟨c0, c1, c2, c3, c4, c5, c6, c7, c8, c9, c10⟩ := h1.fr.cells; have HN := Lib.hid h1; clear HC h1; have HC := HN; clear HN; have hsz := HC.out.sz)
      | (at_builtin; refine wpList_bytes rfl (.tmp 18) (.tmp 22) rfl Try.underlying25 byte_info rfl HC.out.own rfl hB1 (by omega) hsz ?_; intro v2 w2 ho2 hb2; have h1 := HC.out.app hb2 ho2; clear hB1 ho2 hb2 hsz; clear c0 c1 c2 c3 c4 c5 c6 c7 c8 c9 c10; obtain ⟨c0, c1, c2, c3, c4, c5, c6, c7, c8, c9, c10⟩ := h1.fr.cells; have HN := Lib.hid h1; clear HC h1; have HC := HN; clear HN; have hsz := HC.out.sz)
      | (go_at_call 15; refine (HBY.out _).mono ?_; rintro e w3 ⟨A3, z3, rfl, hB3, hb3⟩; have h1 := HC.out.step hb3; clear hsz; clear c0 c1 c2 c3 c4 c5 c6 c7 c8 c9 c10; obtain ⟨c0, c1, c2, c3, c4, c5, c6, c7, c8, c9, c10⟩ := h1.fr.cells; have HN := Lib.hid h1; clear HC h1; have HC := HN; clear HN; have hsz := HC.out.sz)
      | (go_at_call 31; refine (HBI.out _ _ _ hB3).mono ?_; rintro e w1 ⟨A1, z1, rfl, hB1, hb1⟩; have h1 := HC.out.step hb1; clear hsz hB3; clear c0 c1 c2 c3 c4 c5 c6 c7 c8 c9 c10; obtain ⟨c0, c1, c2, c3, c4, c5, c6, c7, c8, c9, c10⟩ := h1.fr.cells; have HN := Lib.hid h1; clear HC h1; have HC := HN; clear HN; have hsz := HC.out.sz)
      | (at_builtin; refine wpList_bytes rfl (.tmp 24) (.tmp 27) rfl Try.underlying25 byte_info rfl HC.out.own rfl hB1 (by omega) hsz ?_; intro v2 w2 ho2 hb2; have h1 := HC.out.app hb2 ho2; clear hB1 ho2 hb2 hsz; clear c0 c1 c2 c3 c4 c5 c6 c7 c8 c9 c10; obtain ⟨c0, c1, c2, c3, c4, c5, c6, c7, c8, c9, c10⟩ := h1.fr.cells; have HN := Lib.hid h1; clear HC h1; have HC := HN; clear HN; have hsz := HC.out.sz)
      | (go_at_call 32; have h5 := HC.out; rw [HFO.out] at h5; obtain ⟨A5, z5, rfl, hB5, _⟩ := Byt.of_own h5.own (bits_range (fore_bits _ _ _ _)); refine (HCR.out _ _ _ hB5).mono ?_; rintro e w5 ⟨rfl, hb5⟩; have h1 := h5.step hb5; clear hsz hB5 h5; clear c0 c1 c2 c3 c4 c5 c6 c7 c8 c9 c10; obtain ⟨c0, c1, c2, c3, c4, c5, c6, c7, c8, c9, c10⟩ := h1.fr.cells; have HN := Lib.hid h1; clear HC h1; have HC := HN; clear HN; have hsz := HC.out.sz)
      | (at_builtin; refine wpList_bytes rfl (.tmp 29) (.tmp 33) rfl Try.underlying25 byte_info rfl HC.out.own rfl hB1 (by omega) hsz ?_; intro v2 w2 ho2 hb2; have h1 := HC.out.app hb2 ho2; clear hB1 ho2 hb2 hsz; clear c0 c1 c2 c3 c4 c5 c6 c7 c8 c9 c10; obtain ⟨c0, c1, c2, c3, c4, c5, c6, c7, c8, c9, c10⟩ := h1.fr.cells; have HN := Lib.hid h1; clear HC h1; have HC := HN; clear HN; have hsz := HC.out.sz))
    exact bodyPost_ret (results_tmp rfl _ _ _) rfl ⟨_, rfl, by rw [HLE.out, HCO.out]; exact own_base HC.out.own (by omega), HC.out.bel⟩

theorem dencode_yes (i n : Int) (r : Bool) (d : Nat → Int) (w : World) (hi : 0 ≤ i ∧ i ≤ 2047) (hn : 0 ≤ n ∧ n ≤ 8) (hd : ∀ j, j < 8 → 0 ≤ d j ∧ d j ≤ 255) :
    Calls Try.prog 11 #[.agg #[.int .i64 i, .bool r, .int .i64 n, .int .u8 (d 0), .int .u8 (d 1), .int .u8 (d 2), .int .u8 (d 3), .int .u8 (d 4), .int .u8 (d 5), .int .u8 (d 6), .int .u8 (d 7)]] w fun e w' => ∃ A c, e = .returned (.slice A (encL i n r (bOf i r n d)).length c) ∧ Byt w' w'.heap.size A (encL i n r (bOf i r n d)).length c (encL i n r (bOf i r n d)) ∧ Below w.heap.size w w' := by
  have hf := frame_new w i n r d
  have hb : Below w.heap.size w (w.alloc (.cells #[.int .i64 i, .bool r, .int .i64 n, .int .u8 (d 0), .int .u8 (d 1), .int .u8 (d 2), .int .u8 (d 3), .int .u8 (d 4), .int .u8 (d 5), .int .u8 (d 6), .int .u8 (d 7)] 24)) := (Below.refl _ _).alloc (Nat.le_refl _) _
  have hco := fun w => dcore_any i n r d w hi hn hd
  have hle := stuffed_le i n r d
  have hcl := core_len i n r (bOf i r n d)
  have hbl := bof_le i n r d
  have hcb := core_bits i n r (bOf i r n d)
  have hsb := stuff_bits (coreL i n r (bOf i r n d))
  have hen : encL i n r (bOf i r n d) = stuffL (coreL i n r (bOf i r n d)) ++ List.replicate 10 1 := rfl
  have heb := enc_bits i n r (bOf i r n d)
  have hel := enc_len i n r (bOf i r n d)
  generalize encL i n r (bOf i r n d) = en at hen hel heb ⊢
  generalize coreL i n r (bOf i r n d) = co at hco hle hcl hcb hen hel hsb
  have hst := fun (w : World) (A : Option Addr) (c : Nat) (h : Byt w w.heap.size A co.length c co) => rstuff_own w A co.length c co h (by omega)
  generalize stuffL co = st at hle hst hen hel hsb
  generalize hsl : st.length = sl at hle hst hel
  have HF := Lib.hid hf
  have HB := Lib.hid hb
  have HCO := Lib.hid hco
  have HST := Lib.hid hst
  have HCB := Lib.hid (bits_range hcb)
  have HEB := Lib.hid (bits_range heb)
  have HEN := Lib.hid hen
  have HEL := Lib.hid hel
  clear hf hb hco hst hcb hen hel hd hcl hbl hsl heb hsb
  go_enter Try.func11, Try.ntmps11
  obtain ⟨c0, c1, c2, c3, c4, c5, c6, c7, c8, c9, c10⟩ := HF.out.cells
  go_wp2_with (first
    | (go_at_call 20; refine (HCO.out _).mono ?_; rintro e w2 ⟨v2, rfl, ho2, hb2⟩; clear c0 c1 c2 c3 c4 c5 c6 c7 c8 c9 c10; obtain ⟨A2, z2, rfl, hB2, _⟩ := Byt.of_own ho2 HCB.out; have hbw2 := HB.out.trans (hb2.mono HB.out.size); clear ho2 hb2)
    | (go_at_call 19; refine (HST.out _ _ _ hB2).mono ?_; rintro e w3 ⟨v3, rfl, ho3, hb3⟩; have hbw3 := hbw2.trans (hb3.mono hbw2.size); have ho4 := own_base ho3 hbw2.size; have hsz := hbw3.size; clear ho3 hb3 hB2)
    | (at_builtin; refine wpList_bytes rfl (.tmp 7) (.tmp 8) rfl Try.underlying25 byte_info rfl (ho4.alloc _) rfl (byt10 _) (by omega) (by simp; omega) ?_; intro v5 w5 ho5 hb5; have hbw5 := hbw3.trans (below_alloc hb5); clear hb5))
  have e5 : sl + 10 = en.length := HEL.out.symm
  rw [e5, ← HEN.out] at ho5
  obtain ⟨A6, z6, rfl, hB6, _⟩ := Byt.of_own ho5 HEB.out
  exact bodyPost_ret (results_tmp rfl _ _ _) rfl ⟨_, _, rfl, hB6, hbw5⟩
end Go.Proofs.Ytkgnhmddnfmhjaa
