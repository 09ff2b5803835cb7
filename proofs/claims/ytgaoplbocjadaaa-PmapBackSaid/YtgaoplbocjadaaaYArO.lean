/- The document's entries of the section: Rows. -/
import Derived.Test.YtgaoplbocjadaaaYArN
namespace Go.Proofs.Ytgaoplbocjadaaa
open Go.RowKit
set_option linter.unusedSimpArgs false
set_option linter.unusedVariables false
theorem info_ent7E : (Try.prog.info? 77).map (fun i => (i.zero, i.size, i.bytes)) = some (some (.agg #[.int .i64 0, .int .i64 0, .int .i64 0, .int .i64 0, .int .i64 0, .int .i64 0, .string ByteArray.empty]), 7, 64) := by kernel_rfl
/-- An entry as it is at first. -/
def entO (i j k a lo hi : Int) : Int × Ent := (numI i j, ⟨k, a, lo, hi, putL k lo⟩)
def RwAt (w : World) (base : Nat) (V : Value) (L : List (Int × Ent)) : Prop := w.ownsRow base 77 7 V L.length (fr L)
theorem RwAt.below {w w' : World} {base : Nat} {V : Value} {L : List (Int × Ent)} (h : RwAt w base V L) (hb : Below w.heap.size w w') : RwAt w' base V L := own_below h hb
theorem RwAt.app {w' : World} {base : Nat} {V : Value} {L : List (Int × Ent)} {i j k a lo hi : Int} (hi1 : 1 ≤ i ∧ i ≤ 65535 ∧ 0 ≤ j ∧ j ≤ 255) (h : w'.ownsRow base 77 7 V (L.length + 1) (fr L ++ [.int .i64 i, .int .i64 j, .int .i64 k, .int .i64 a, .int .i64 lo, .int .i64 hi, .string (strOfNums (putL k lo))])) : RwAt w' base V (L ++ [entO i j k a lo hi]) := by
  unfold RwAt
  have e : fr (L ++ [entO i j k a lo hi]) = fr L ++ [.int .i64 i, .int .i64 j, .int .i64 k, .int .i64 a, .int .i64 lo, .int .i64 hi, .string (strOfNums (putL k lo))] := by
    have e2 : fr [entO i j k a lo hi] = [.int .i64 i, .int .i64 j, .int .i64 k, .int .i64 a, .int .i64 lo, .int .i64 hi, .string (strOfNums (putL k lo))] := by
      show rowR (entO i j k a lo hi) ++ [] = _
      rw [List.append_nil]
      exact row_num hi1 _
    rw [← e2]
    simp [fr]
  rw [List.length_append, e]
  exact h
theorem RwAt.as {w : World} {base : Nat} {V : Value} {L L' : List (Int × Ent)} (h : RwAt w base V L) (e : L = L') : RwAt w base V L' := e ▸ h
theorem RwAt.blk {w : World} {base : Nat} {V : Value} {L : List (Int × Ent)} (h : RwAt w base V L) : ∀ k, V.ownBlock = some k → base ≤ k := fun k e => by
  rcases h.2 with ⟨rfl, _⟩ | ⟨b2, cap2, cur2, rfl, hb, _⟩
  · cases e
  · cases e; exact hb
theorem RwAt.made (w : World) (base : Nat) (hb : base ≤ w.heap.size) : RwAt (w.alloc (.cells #[] 77)) base (.slice (some ⟨w.heap.size, 0, none⟩) 0 0) [] := own_made w base 77 7 hb
def tabO (q : Nat) : List (Int × Ent) := ((List.range q).map fun (c : Nat) => [entO (4865 + (c : Int)) 0 2 4 6 6, entO (4865 + (c : Int)) 1 2 3 0 2, entO (4865 + (c : Int)) 2 3 3 1 65535, entO (4865 + (c : Int)) 3 3 3 1 65535, entO (4865 + (c : Int)) 4 2 4 254 254, entO (4865 + (c : Int)) 5 4 3 257 383, entO (4865 + (c : Int)) 6 4 3 258 384]).flatten
theorem tabO_succ (q : Nat) : tabO (q + 1) = tabO q ++ [entO (4865 + (q : Int)) 0 2 4 6 6] ++ [entO (4865 + (q : Int)) 1 2 3 0 2] ++ [entO (4865 + (q : Int)) 2 3 3 1 65535] ++ [entO (4865 + (q : Int)) 3 3 3 1 65535] ++ [entO (4865 + (q : Int)) 4 2 4 254 254] ++ [entO (4865 + (q : Int)) 5 4 3 257 383] ++ [entO (4865 + (q : Int)) 6 4 3 258 384] := by simp [tabO, List.range_succ]
theorem tabO_len (q : Nat) : (tabO q).length = q * 7 := by
  induction q with
  | zero => rfl
  | succ q ih => rw [tabO_succ]; simp only [List.length_append, List.length_singleton, ih]; omega
def mapO (c : Int) (p : Nat) : List (Int × Ent) := entO (4993 + c) 0 2 3 0 8 :: (List.range p).map fun (s : Nat) => entO (4993 + c) ((s : Int) + 1) 4 3 0 4294967295
theorem mapO_zero (c : Int) : mapO c 0 = [entO (4993 + c) 0 2 3 0 8] := rfl
theorem mapO_succ (c : Int) (p : Nat) : mapO c (p + 1) = mapO c p ++ [entO (4993 + c) ((p : Int) + 1) 4 3 0 4294967295] := by simp [mapO, List.range_succ]
theorem mapO_len (c : Int) (p : Nat) : (mapO c p).length = p + 1 := by simp [mapO]
def mapsO (q : Nat) : List (Int × Ent) := ((List.range q).map fun (c : Nat) => mapO (c : Int) 8).flatten
theorem mapsO_succ (q : Nat) : mapsO (q + 1) = mapsO q ++ mapO (q : Int) 8 := by simp [mapsO, List.range_succ]
theorem mapsO_len (q : Nat) : (mapsO q).length = q * 9 := by
  induction q with
  | zero => rfl
  | succ q ih => rw [mapsO_succ, List.length_append, ih, mapO_len]; omega
def sigO (p : Nat) : List (Int × Ent) := entO 5119 0 2 4 4 4 :: (List.range p).map fun (s : Nat) => entO 5119 ((s : Int) + 1) 3 3 0 65535
theorem sigO_succ (p : Nat) : sigO (p + 1) = sigO p ++ [entO 5119 ((p : Int) + 1) 3 3 0 65535] := by simp [sigO, List.range_succ]
theorem sigO_len (p : Nat) : (sigO p).length = p + 1 := by simp [sigO]
def rowsO : List (Int × Ent) := tabO 4 ++ mapsO 4 ++ [entO 5118 0 2 3 0 255] ++ sigO 4
theorem row7_cells {X : World} {g : Nat} {i j k a lo hi : Int} {S : ByteArray} (hg : X.heap[g]? = some (.cells #[.int .i64 i, .int .i64 j, .int .i64 k, .int .i64 a, .int .i64 lo, .int .i64 hi, .string S] 77 (0, 0))) : ∀ jj u, ([.int .i64 i, .int .i64 j, .int .i64 k, .int .i64 a, .int .i64 lo, .int .i64 hi, .string S] : List Value)[jj]? = some u → X.cell? ((⟨g, 0, none⟩ : Addr).add jj) = some u := row_cells hg
set_option maxRecDepth 100000 in
set_option maxHeartbeats 8000000 in
theorem rows15_any (w : World) : Calls Try.prog 39 #[] w fun e w' => ∃ V, e = .returned V ∧ RwAt w' w.heap.size V rowsO ∧ Below w.heap.size w w' := by
  obtain ⟨i0, hi0, hz0', hz1', hz2'⟩ := info_parts info_ent7E
  have HI := Lib.hid hi0
  clear hi0
  go_enter Try.func39, Try.ntmps39
  go_wp2_with fail
  have HBx0 : Hid (Below w.heap.size w (w.alloc (.cells #[] 77))) := Lib.hid ((Below.refl _ _).alloc (Nat.le_refl _) _)
  have HRx0 : Hid (RwAt (w.alloc (.cells #[] 77)) w.heap.size (.slice (some ⟨w.heap.size, 0, none⟩) 0 0) []) := Lib.hid (RwAt.made w _ (Nat.le_refl _))
  generalize (w.alloc (.cells #[] 77)) = x0 at *
  go_loopw [1, 2] (fun V i wr => ∃ q : Nat, q ≤ 4 ∧ i = .int .i64 q ∧ Hid (RwAt wr w.heap.size V (tabO q)) ∧ Hid (Below w.heap.size w wr)) (fun _ i _ => 4 - (intOf i).toNat)
  case atStart => exact ⟨0, by omega, rfl, HRx0, HBx0⟩
  case round =>
    clear HRx0 HBx0
    obtain ⟨q, hq, rfl, HRwr, HBwr⟩ := hrel
    by_cases hlt : q < 4
    · have hq7 := tabO_len q
      go_wp2_with fail
      refine (one15_true (4865 + (q : Int)) (0) 2 6 6 _ (by decide)).mono ?_
      rintro e y1 ⟨rfl, hb1⟩
      have HBy1 : Hid (Below w.heap.size w y1) := Lib.hid (kF hb1 HBwr.out)
      have HRy1 := Lib.hid (HRwr.out.below hb1)
      have HRW1 := Lib.hid (heap_alloc_new y1 (.cells #[.int .i64 (4865 + (q : Int)), .int .i64 (0), .int .i64 2, .int .i64 4, .int .i64 6, .int .i64 6, .string (strOfNums (putL 2 6))] 77))
      have hba : Below y1.heap.size y1 (y1.alloc (.cells #[.int .i64 (4865 + (q : Int)), .int .i64 (0), .int .i64 2, .int .i64 4, .int .i64 6, .int .i64 6, .string (strOfNums (putL 2 6))] 77)) := (Below.refl _ _).alloc (Nat.le_refl _) _
      have HBz1 := Lib.hid (kF hba HBy1.out)
      have HRz1 := Lib.hid (HRy1.out.below hba)
      have hl1 : (tabO q).length ≤ 100 := by first | omega | (simp only [List.length_append, List.length_singleton]; omega)
      clear hb1 hba HBwr HRwr HBy1 HRy1
      go_wp2_with (at_builtin; refine wpList_append_own _ rfl (.tmp 11) (.tmp 15) 31 rfl w.heap.size 77 i0 (.agg #[.int .i64 0, .int .i64 0, .int .i64 0, .int .i64 0, .int .i64 0, .int .i64 0, .string ByteArray.empty]) 7 64 Try.underlying31 HI.out hz0' hz1' hz2' rfl (by omega) _ (tabO q).length (fr (tabO q)) rfl HRz1.out ⟨y1.heap.size, 0, none⟩ 1 1 [.int .i64 (4865 + (q : Int)), .int .i64 (0), .int .i64 2, .int .i64 4, .int .i64 6, .int .i64 6, .string (strOfNums (putL 2 6))] rfl rfl (row7_cells HRW1.out) (by simp [Value.oneCell']) (by simp only [maxLen]; omega) (by omega) HBz1.out.size ?_; intro v1 x1 r1 r2 r3)
      have HRx1 : Hid (RwAt x1 w.heap.size v1 (tabO q ++ [entO (4865 + (q : Int)) (0) 2 4 6 6])) := Lib.hid (RwAt.app (by omega) r1)
      have HBx1 : Hid (Below w.heap.size w x1) := Lib.hid (HBz1.out.grown r2 HBz1.out.size HRz1.out.blk)
      clear r1 r2 r3 hl1 HRW1 HBz1 HRz1
      go_wp2_with fail
      refine (one15_false (4865 + (q : Int)) (1) 2 0 2 _ (by decide)).mono ?_
      rintro e y2 ⟨rfl, hb2⟩
      have HBy2 : Hid (Below w.heap.size w y2) := Lib.hid (kF hb2 HBx1.out)
      have HRy2 := Lib.hid (HRx1.out.below hb2)
      have HRW2 := Lib.hid (heap_alloc_new y2 (.cells #[.int .i64 (4865 + (q : Int)), .int .i64 (1), .int .i64 2, .int .i64 3, .int .i64 0, .int .i64 2, .string (strOfNums (putL 2 0))] 77))
      have hba : Below y2.heap.size y2 (y2.alloc (.cells #[.int .i64 (4865 + (q : Int)), .int .i64 (1), .int .i64 2, .int .i64 3, .int .i64 0, .int .i64 2, .string (strOfNums (putL 2 0))] 77)) := (Below.refl _ _).alloc (Nat.le_refl _) _
      have HBz2 := Lib.hid (kF hba HBy2.out)
      have HRz2 := Lib.hid (HRy2.out.below hba)
      have hl2 : (tabO q ++ [entO (4865 + (q : Int)) (0) 2 4 6 6]).length ≤ 100 := by first | omega | (simp only [List.length_append, List.length_singleton]; omega)
      clear hb2 hba HBx1 HRx1 HBy2 HRy2
      go_wp2_with (at_builtin; refine wpList_append_own _ rfl (.tmp 17) (.tmp 21) 31 rfl w.heap.size 77 i0 (.agg #[.int .i64 0, .int .i64 0, .int .i64 0, .int .i64 0, .int .i64 0, .int .i64 0, .string ByteArray.empty]) 7 64 Try.underlying31 HI.out hz0' hz1' hz2' rfl (by omega) _ (tabO q ++ [entO (4865 + (q : Int)) (0) 2 4 6 6]).length (fr (tabO q ++ [entO (4865 + (q : Int)) (0) 2 4 6 6])) rfl HRz2.out ⟨y2.heap.size, 0, none⟩ 1 1 [.int .i64 (4865 + (q : Int)), .int .i64 (1), .int .i64 2, .int .i64 3, .int .i64 0, .int .i64 2, .string (strOfNums (putL 2 0))] rfl rfl (row7_cells HRW2.out) (by simp [Value.oneCell']) (by simp only [maxLen]; omega) (by omega) HBz2.out.size ?_; intro v2 x2 r1 r2 r3)
      have HRx2 : Hid (RwAt x2 w.heap.size v2 (tabO q ++ [entO (4865 + (q : Int)) (0) 2 4 6 6] ++ [entO (4865 + (q : Int)) (1) 2 3 0 2])) := Lib.hid (RwAt.app (by omega) r1)
      have HBx2 : Hid (Below w.heap.size w x2) := Lib.hid (HBz2.out.grown r2 HBz2.out.size HRz2.out.blk)
      clear r1 r2 r3 hl2 HRW2 HBz2 HRz2
      go_wp2_with fail
      refine (one15_false (4865 + (q : Int)) (2) 3 1 65535 _ (by decide)).mono ?_
      rintro e y3 ⟨rfl, hb3⟩
      have HBy3 : Hid (Below w.heap.size w y3) := Lib.hid (kF hb3 HBx2.out)
      have HRy3 := Lib.hid (HRx2.out.below hb3)
      have HRW3 := Lib.hid (heap_alloc_new y3 (.cells #[.int .i64 (4865 + (q : Int)), .int .i64 (2), .int .i64 3, .int .i64 3, .int .i64 1, .int .i64 65535, .string (strOfNums (putL 3 1))] 77))
      have hba : Below y3.heap.size y3 (y3.alloc (.cells #[.int .i64 (4865 + (q : Int)), .int .i64 (2), .int .i64 3, .int .i64 3, .int .i64 1, .int .i64 65535, .string (strOfNums (putL 3 1))] 77)) := (Below.refl _ _).alloc (Nat.le_refl _) _
      have HBz3 := Lib.hid (kF hba HBy3.out)
      have HRz3 := Lib.hid (HRy3.out.below hba)
      have hl3 : (tabO q ++ [entO (4865 + (q : Int)) (0) 2 4 6 6] ++ [entO (4865 + (q : Int)) (1) 2 3 0 2]).length ≤ 100 := by first | omega | (simp only [List.length_append, List.length_singleton]; omega)
      clear hb3 hba HBx2 HRx2 HBy3 HRy3
      go_wp2_with (at_builtin; refine wpList_append_own _ rfl (.tmp 23) (.tmp 27) 31 rfl w.heap.size 77 i0 (.agg #[.int .i64 0, .int .i64 0, .int .i64 0, .int .i64 0, .int .i64 0, .int .i64 0, .string ByteArray.empty]) 7 64 Try.underlying31 HI.out hz0' hz1' hz2' rfl (by omega) _ (tabO q ++ [entO (4865 + (q : Int)) (0) 2 4 6 6] ++ [entO (4865 + (q : Int)) (1) 2 3 0 2]).length (fr (tabO q ++ [entO (4865 + (q : Int)) (0) 2 4 6 6] ++ [entO (4865 + (q : Int)) (1) 2 3 0 2])) rfl HRz3.out ⟨y3.heap.size, 0, none⟩ 1 1 [.int .i64 (4865 + (q : Int)), .int .i64 (2), .int .i64 3, .int .i64 3, .int .i64 1, .int .i64 65535, .string (strOfNums (putL 3 1))] rfl rfl (row7_cells HRW3.out) (by simp [Value.oneCell']) (by simp only [maxLen]; omega) (by omega) HBz3.out.size ?_; intro v3 x3 r1 r2 r3)
      have HRx3 : Hid (RwAt x3 w.heap.size v3 (tabO q ++ [entO (4865 + (q : Int)) (0) 2 4 6 6] ++ [entO (4865 + (q : Int)) (1) 2 3 0 2] ++ [entO (4865 + (q : Int)) (2) 3 3 1 65535])) := Lib.hid (RwAt.app (by omega) r1)
      have HBx3 : Hid (Below w.heap.size w x3) := Lib.hid (HBz3.out.grown r2 HBz3.out.size HRz3.out.blk)
      clear r1 r2 r3 hl3 HRW3 HBz3 HRz3
      go_wp2_with fail
      refine (one15_false (4865 + (q : Int)) (3) 3 1 65535 _ (by decide)).mono ?_
      rintro e y4 ⟨rfl, hb4⟩
      have HBy4 : Hid (Below w.heap.size w y4) := Lib.hid (kF hb4 HBx3.out)
      have HRy4 := Lib.hid (HRx3.out.below hb4)
      have HRW4 := Lib.hid (heap_alloc_new y4 (.cells #[.int .i64 (4865 + (q : Int)), .int .i64 (3), .int .i64 3, .int .i64 3, .int .i64 1, .int .i64 65535, .string (strOfNums (putL 3 1))] 77))
      have hba : Below y4.heap.size y4 (y4.alloc (.cells #[.int .i64 (4865 + (q : Int)), .int .i64 (3), .int .i64 3, .int .i64 3, .int .i64 1, .int .i64 65535, .string (strOfNums (putL 3 1))] 77)) := (Below.refl _ _).alloc (Nat.le_refl _) _
      have HBz4 := Lib.hid (kF hba HBy4.out)
      have HRz4 := Lib.hid (HRy4.out.below hba)
      have hl4 : (tabO q ++ [entO (4865 + (q : Int)) (0) 2 4 6 6] ++ [entO (4865 + (q : Int)) (1) 2 3 0 2] ++ [entO (4865 + (q : Int)) (2) 3 3 1 65535]).length ≤ 100 := by first | omega | (simp only [List.length_append, List.length_singleton]; omega)
      clear hb4 hba HBx3 HRx3 HBy4 HRy4
      go_wp2_with (at_builtin; refine wpList_append_own _ rfl (.tmp 29) (.tmp 33) 31 rfl w.heap.size 77 i0 (.agg #[.int .i64 0, .int .i64 0, .int .i64 0, .int .i64 0, .int .i64 0, .int .i64 0, .string ByteArray.empty]) 7 64 Try.underlying31 HI.out hz0' hz1' hz2' rfl (by omega) _ (tabO q ++ [entO (4865 + (q : Int)) (0) 2 4 6 6] ++ [entO (4865 + (q : Int)) (1) 2 3 0 2] ++ [entO (4865 + (q : Int)) (2) 3 3 1 65535]).length (fr (tabO q ++ [entO (4865 + (q : Int)) (0) 2 4 6 6] ++ [entO (4865 + (q : Int)) (1) 2 3 0 2] ++ [entO (4865 + (q : Int)) (2) 3 3 1 65535])) rfl HRz4.out ⟨y4.heap.size, 0, none⟩ 1 1 [.int .i64 (4865 + (q : Int)), .int .i64 (3), .int .i64 3, .int .i64 3, .int .i64 1, .int .i64 65535, .string (strOfNums (putL 3 1))] rfl rfl (row7_cells HRW4.out) (by simp [Value.oneCell']) (by simp only [maxLen]; omega) (by omega) HBz4.out.size ?_; intro v4 x4 r1 r2 r3)
      have HRx4 : Hid (RwAt x4 w.heap.size v4 (tabO q ++ [entO (4865 + (q : Int)) (0) 2 4 6 6] ++ [entO (4865 + (q : Int)) (1) 2 3 0 2] ++ [entO (4865 + (q : Int)) (2) 3 3 1 65535] ++ [entO (4865 + (q : Int)) (3) 3 3 1 65535])) := Lib.hid (RwAt.app (by omega) r1)
      have HBx4 : Hid (Below w.heap.size w x4) := Lib.hid (HBz4.out.grown r2 HBz4.out.size HRz4.out.blk)
      clear r1 r2 r3 hl4 HRW4 HBz4 HRz4
      go_wp2_with fail
      refine (one15_true (4865 + (q : Int)) (4) 2 254 254 _ (by decide)).mono ?_
      rintro e y5 ⟨rfl, hb5⟩
      have HBy5 : Hid (Below w.heap.size w y5) := Lib.hid (kF hb5 HBx4.out)
      have HRy5 := Lib.hid (HRx4.out.below hb5)
      have HRW5 := Lib.hid (heap_alloc_new y5 (.cells #[.int .i64 (4865 + (q : Int)), .int .i64 (4), .int .i64 2, .int .i64 4, .int .i64 254, .int .i64 254, .string (strOfNums (putL 2 254))] 77))
      have hba : Below y5.heap.size y5 (y5.alloc (.cells #[.int .i64 (4865 + (q : Int)), .int .i64 (4), .int .i64 2, .int .i64 4, .int .i64 254, .int .i64 254, .string (strOfNums (putL 2 254))] 77)) := (Below.refl _ _).alloc (Nat.le_refl _) _
      have HBz5 := Lib.hid (kF hba HBy5.out)
      have HRz5 := Lib.hid (HRy5.out.below hba)
      have hl5 : (tabO q ++ [entO (4865 + (q : Int)) (0) 2 4 6 6] ++ [entO (4865 + (q : Int)) (1) 2 3 0 2] ++ [entO (4865 + (q : Int)) (2) 3 3 1 65535] ++ [entO (4865 + (q : Int)) (3) 3 3 1 65535]).length ≤ 100 := by first | omega | (simp only [List.length_append, List.length_singleton]; omega)
      clear hb5 hba HBx4 HRx4 HBy5 HRy5
      go_wp2_with (at_builtin; refine wpList_append_own _ rfl (.tmp 35) (.tmp 39) 31 rfl w.heap.size 77 i0 (.agg #[.int .i64 0, .int .i64 0, .int .i64 0, .int .i64 0, .int .i64 0, .int .i64 0, .string ByteArray.empty]) 7 64 Try.underlying31 HI.out hz0' hz1' hz2' rfl (by omega) _ (tabO q ++ [entO (4865 + (q : Int)) (0) 2 4 6 6] ++ [entO (4865 + (q : Int)) (1) 2 3 0 2] ++ [entO (4865 + (q : Int)) (2) 3 3 1 65535] ++ [entO (4865 + (q : Int)) (3) 3 3 1 65535]).length (fr (tabO q ++ [entO (4865 + (q : Int)) (0) 2 4 6 6] ++ [entO (4865 + (q : Int)) (1) 2 3 0 2] ++ [entO (4865 + (q : Int)) (2) 3 3 1 65535] ++ [entO (4865 + (q : Int)) (3) 3 3 1 65535])) rfl HRz5.out ⟨y5.heap.size, 0, none⟩ 1 1 [.int .i64 (4865 + (q : Int)), .int .i64 (4), .int .i64 2, .int .i64 4, .int .i64 254, .int .i64 254, .string (strOfNums (putL 2 254))] rfl rfl (row7_cells HRW5.out) (by simp [Value.oneCell']) (by simp only [maxLen]; omega) (by omega) HBz5.out.size ?_; intro v5 x5 r1 r2 r3)
      have HRx5 : Hid (RwAt x5 w.heap.size v5 (tabO q ++ [entO (4865 + (q : Int)) (0) 2 4 6 6] ++ [entO (4865 + (q : Int)) (1) 2 3 0 2] ++ [entO (4865 + (q : Int)) (2) 3 3 1 65535] ++ [entO (4865 + (q : Int)) (3) 3 3 1 65535] ++ [entO (4865 + (q : Int)) (4) 2 4 254 254])) := Lib.hid (RwAt.app (by omega) r1)
      have HBx5 : Hid (Below w.heap.size w x5) := Lib.hid (HBz5.out.grown r2 HBz5.out.size HRz5.out.blk)
      clear r1 r2 r3 hl5 HRW5 HBz5 HRz5
      go_wp2_with fail
      refine (one15_false (4865 + (q : Int)) (5) 4 257 383 _ (by decide)).mono ?_
      rintro e y6 ⟨rfl, hb6⟩
      have HBy6 : Hid (Below w.heap.size w y6) := Lib.hid (kF hb6 HBx5.out)
      have HRy6 := Lib.hid (HRx5.out.below hb6)
      have HRW6 := Lib.hid (heap_alloc_new y6 (.cells #[.int .i64 (4865 + (q : Int)), .int .i64 (5), .int .i64 4, .int .i64 3, .int .i64 257, .int .i64 383, .string (strOfNums (putL 4 257))] 77))
      have hba : Below y6.heap.size y6 (y6.alloc (.cells #[.int .i64 (4865 + (q : Int)), .int .i64 (5), .int .i64 4, .int .i64 3, .int .i64 257, .int .i64 383, .string (strOfNums (putL 4 257))] 77)) := (Below.refl _ _).alloc (Nat.le_refl _) _
      have HBz6 := Lib.hid (kF hba HBy6.out)
      have HRz6 := Lib.hid (HRy6.out.below hba)
      have hl6 : (tabO q ++ [entO (4865 + (q : Int)) (0) 2 4 6 6] ++ [entO (4865 + (q : Int)) (1) 2 3 0 2] ++ [entO (4865 + (q : Int)) (2) 3 3 1 65535] ++ [entO (4865 + (q : Int)) (3) 3 3 1 65535] ++ [entO (4865 + (q : Int)) (4) 2 4 254 254]).length ≤ 100 := by first | omega | (simp only [List.length_append, List.length_singleton]; omega)
      clear hb6 hba HBx5 HRx5 HBy6 HRy6
      go_wp2_with (at_builtin; refine wpList_append_own _ rfl (.tmp 41) (.tmp 45) 31 rfl w.heap.size 77 i0 (.agg #[.int .i64 0, .int .i64 0, .int .i64 0, .int .i64 0, .int .i64 0, .int .i64 0, .string ByteArray.empty]) 7 64 Try.underlying31 HI.out hz0' hz1' hz2' rfl (by omega) _ (tabO q ++ [entO (4865 + (q : Int)) (0) 2 4 6 6] ++ [entO (4865 + (q : Int)) (1) 2 3 0 2] ++ [entO (4865 + (q : Int)) (2) 3 3 1 65535] ++ [entO (4865 + (q : Int)) (3) 3 3 1 65535] ++ [entO (4865 + (q : Int)) (4) 2 4 254 254]).length (fr (tabO q ++ [entO (4865 + (q : Int)) (0) 2 4 6 6] ++ [entO (4865 + (q : Int)) (1) 2 3 0 2] ++ [entO (4865 + (q : Int)) (2) 3 3 1 65535] ++ [entO (4865 + (q : Int)) (3) 3 3 1 65535] ++ [entO (4865 + (q : Int)) (4) 2 4 254 254])) rfl HRz6.out ⟨y6.heap.size, 0, none⟩ 1 1 [.int .i64 (4865 + (q : Int)), .int .i64 (5), .int .i64 4, .int .i64 3, .int .i64 257, .int .i64 383, .string (strOfNums (putL 4 257))] rfl rfl (row7_cells HRW6.out) (by simp [Value.oneCell']) (by simp only [maxLen]; omega) (by omega) HBz6.out.size ?_; intro v6 x6 r1 r2 r3)
      have HRx6 : Hid (RwAt x6 w.heap.size v6 (tabO q ++ [entO (4865 + (q : Int)) (0) 2 4 6 6] ++ [entO (4865 + (q : Int)) (1) 2 3 0 2] ++ [entO (4865 + (q : Int)) (2) 3 3 1 65535] ++ [entO (4865 + (q : Int)) (3) 3 3 1 65535] ++ [entO (4865 + (q : Int)) (4) 2 4 254 254] ++ [entO (4865 + (q : Int)) (5) 4 3 257 383])) := Lib.hid (RwAt.app (by omega) r1)
      have HBx6 : Hid (Below w.heap.size w x6) := Lib.hid (HBz6.out.grown r2 HBz6.out.size HRz6.out.blk)
      clear r1 r2 r3 hl6 HRW6 HBz6 HRz6
      go_wp2_with fail
      refine (one15_false (4865 + (q : Int)) (6) 4 258 384 _ (by decide)).mono ?_
      rintro e y7 ⟨rfl, hb7⟩
      have HBy7 : Hid (Below w.heap.size w y7) := Lib.hid (kF hb7 HBx6.out)
      have HRy7 := Lib.hid (HRx6.out.below hb7)
      have HRW7 := Lib.hid (heap_alloc_new y7 (.cells #[.int .i64 (4865 + (q : Int)), .int .i64 (6), .int .i64 4, .int .i64 3, .int .i64 258, .int .i64 384, .string (strOfNums (putL 4 258))] 77))
      have hba : Below y7.heap.size y7 (y7.alloc (.cells #[.int .i64 (4865 + (q : Int)), .int .i64 (6), .int .i64 4, .int .i64 3, .int .i64 258, .int .i64 384, .string (strOfNums (putL 4 258))] 77)) := (Below.refl _ _).alloc (Nat.le_refl _) _
      have HBz7 := Lib.hid (kF hba HBy7.out)
      have HRz7 := Lib.hid (HRy7.out.below hba)
      have hl7 : (tabO q ++ [entO (4865 + (q : Int)) (0) 2 4 6 6] ++ [entO (4865 + (q : Int)) (1) 2 3 0 2] ++ [entO (4865 + (q : Int)) (2) 3 3 1 65535] ++ [entO (4865 + (q : Int)) (3) 3 3 1 65535] ++ [entO (4865 + (q : Int)) (4) 2 4 254 254] ++ [entO (4865 + (q : Int)) (5) 4 3 257 383]).length ≤ 100 := by first | omega | (simp only [List.length_append, List.length_singleton]; omega)
      clear hb7 hba HBx6 HRx6 HBy7 HRy7
      go_wp2_with (at_builtin; refine wpList_append_own _ rfl (.tmp 47) (.tmp 51) 31 rfl w.heap.size 77 i0 (.agg #[.int .i64 0, .int .i64 0, .int .i64 0, .int .i64 0, .int .i64 0, .int .i64 0, .string ByteArray.empty]) 7 64 Try.underlying31 HI.out hz0' hz1' hz2' rfl (by omega) _ (tabO q ++ [entO (4865 + (q : Int)) (0) 2 4 6 6] ++ [entO (4865 + (q : Int)) (1) 2 3 0 2] ++ [entO (4865 + (q : Int)) (2) 3 3 1 65535] ++ [entO (4865 + (q : Int)) (3) 3 3 1 65535] ++ [entO (4865 + (q : Int)) (4) 2 4 254 254] ++ [entO (4865 + (q : Int)) (5) 4 3 257 383]).length (fr (tabO q ++ [entO (4865 + (q : Int)) (0) 2 4 6 6] ++ [entO (4865 + (q : Int)) (1) 2 3 0 2] ++ [entO (4865 + (q : Int)) (2) 3 3 1 65535] ++ [entO (4865 + (q : Int)) (3) 3 3 1 65535] ++ [entO (4865 + (q : Int)) (4) 2 4 254 254] ++ [entO (4865 + (q : Int)) (5) 4 3 257 383])) rfl HRz7.out ⟨y7.heap.size, 0, none⟩ 1 1 [.int .i64 (4865 + (q : Int)), .int .i64 (6), .int .i64 4, .int .i64 3, .int .i64 258, .int .i64 384, .string (strOfNums (putL 4 258))] rfl rfl (row7_cells HRW7.out) (by simp [Value.oneCell']) (by simp only [maxLen]; omega) (by omega) HBz7.out.size ?_; intro v7 x7 r1 r2 r3)
      have HRx7 : Hid (RwAt x7 w.heap.size v7 (tabO q ++ [entO (4865 + (q : Int)) (0) 2 4 6 6] ++ [entO (4865 + (q : Int)) (1) 2 3 0 2] ++ [entO (4865 + (q : Int)) (2) 3 3 1 65535] ++ [entO (4865 + (q : Int)) (3) 3 3 1 65535] ++ [entO (4865 + (q : Int)) (4) 2 4 254 254] ++ [entO (4865 + (q : Int)) (5) 4 3 257 383] ++ [entO (4865 + (q : Int)) (6) 4 3 258 384])) := Lib.hid (RwAt.app (by omega) r1)
      have HBx7 : Hid (Below w.heap.size w x7) := Lib.hid (HBz7.out.grown r2 HBz7.out.size HRz7.out.blk)
      clear r1 r2 r3 hl7 HRW7 HBz7 HRz7
      have HRF : Hid (RwAt x7 w.heap.size v7 (tabO (q + 1))) := Lib.hid (by rw [tabO_succ]; exact HRx7.out)
      clear HRx7
      go_wp2_with fail
      exact ⟨⟨q + 1, by omega, by go_num, HRF, HBx7⟩, by simp [intOf]; omega⟩
    · have HQ4 : Hid (q = 4) := Lib.hid (by omega)
      have HR4 := Lib.hid (HRwr.out.as (show tabO q = tabO 4 by rw [HQ4.out]))
      clear HQ4 HRwr
      go_wp2_with fail
      go_loopw [1, 3] (fun V i wr => ∃ q : Nat, q ≤ 4 ∧ i = .int .i64 q ∧ Hid (RwAt wr w.heap.size V (tabO 4 ++ mapsO q)) ∧ Hid (Below w.heap.size w wr)) (fun _ i _ => 4 - (intOf i).toNat)
      case atStart => exact ⟨0, by omega, rfl, Lib.hid (HR4.out.as (by simp [mapsO])), HBwr⟩
      case round =>
        clear HR4 HBwr
        obtain ⟨c, hc, rfl, HRwr, HBwr⟩ := hrel
        by_cases hlc : c < 4
        · have hc7 := mapsO_len c
          have ht7 := tabO_len 4
          go_wp2_with fail
          refine (one15_false (4993 + (c : Int)) (0) 2 0 8 _ (by decide)).mono ?_
          rintro e y8 ⟨rfl, hb8⟩
          have HBy8 : Hid (Below w.heap.size w y8) := Lib.hid (kF hb8 HBwr.out)
          have HRy8 := Lib.hid (HRwr.out.below hb8)
          have HRW8 := Lib.hid (heap_alloc_new y8 (.cells #[.int .i64 (4993 + (c : Int)), .int .i64 (0), .int .i64 2, .int .i64 3, .int .i64 0, .int .i64 8, .string (strOfNums (putL 2 0))] 77))
          have hba : Below y8.heap.size y8 (y8.alloc (.cells #[.int .i64 (4993 + (c : Int)), .int .i64 (0), .int .i64 2, .int .i64 3, .int .i64 0, .int .i64 8, .string (strOfNums (putL 2 0))] 77)) := (Below.refl _ _).alloc (Nat.le_refl _) _
          have HBz8 := Lib.hid (kF hba HBy8.out)
          have HRz8 := Lib.hid (HRy8.out.below hba)
          have hl8 : (tabO 4 ++ mapsO c).length ≤ 100 := by first | omega | (simp only [List.length_append, List.length_singleton, List.length_cons, List.length_nil]; omega)
          clear hb8 hba HBwr HRwr HBy8 HRy8
          go_wp2_with (at_builtin; refine wpList_append_own _ rfl (.tmp 57) (.tmp 61) 31 rfl w.heap.size 77 i0 (.agg #[.int .i64 0, .int .i64 0, .int .i64 0, .int .i64 0, .int .i64 0, .int .i64 0, .string ByteArray.empty]) 7 64 Try.underlying31 HI.out hz0' hz1' hz2' rfl (by omega) _ (tabO 4 ++ mapsO c).length (fr (tabO 4 ++ mapsO c)) rfl HRz8.out ⟨y8.heap.size, 0, none⟩ 1 1 [.int .i64 (4993 + (c : Int)), .int .i64 (0), .int .i64 2, .int .i64 3, .int .i64 0, .int .i64 8, .string (strOfNums (putL 2 0))] rfl rfl (row7_cells HRW8.out) (by simp [Value.oneCell']) (by simp only [maxLen]; omega) (by omega) HBz8.out.size ?_; intro v8 x8 r1 r2 r3)
          have HRx8 : Hid (RwAt x8 w.heap.size v8 (tabO 4 ++ mapsO c ++ [entO (4993 + (c : Int)) (0) 2 3 0 8])) := Lib.hid (RwAt.app (by omega) r1)
          have HBx8 : Hid (Below w.heap.size w x8) := Lib.hid (HBz8.out.grown r2 HBz8.out.size HRz8.out.blk)
          clear r1 r2 r3 hl8 HRW8 HBz8 HRz8
          have HRm : Hid (RwAt x8 w.heap.size v8 (tabO 4 ++ mapsO c ++ mapO (c : Int) 0)) := Lib.hid (HRx8.out.as rfl)
          clear HRx8
          go_wp2_with fail
          go_loopw [1, 4] (fun V i wr => ∃ p : Nat, p ≤ 8 ∧ i = .int .i64 ((p : Int) + 1) ∧ Hid (RwAt wr w.heap.size V (tabO 4 ++ mapsO c ++ mapO (c : Int) p)) ∧ Hid (Below w.heap.size w wr)) (fun _ i _ => 9 - (intOf i).toNat)
          case atStart => exact ⟨0, by omega, rfl, HRm, HBx8⟩
          case round =>
            clear HRm HBx8
            obtain ⟨p, hp, rfl, HRwr, HBwr⟩ := hrel
            by_cases hlp : p < 8
            · have hp7 := mapO_len (c : Int) p
              go_wp2_with fail
              refine (one15_false (4993 + (c : Int)) ((p : Int) + 1) 4 0 4294967295 _ (by decide)).mono ?_
              rintro e y9 ⟨rfl, hb9⟩
              have HBy9 : Hid (Below w.heap.size w y9) := Lib.hid (kF hb9 HBwr.out)
              have HRy9 := Lib.hid (HRwr.out.below hb9)
              have HRW9 := Lib.hid (heap_alloc_new y9 (.cells #[.int .i64 (4993 + (c : Int)), .int .i64 ((p : Int) + 1), .int .i64 4, .int .i64 3, .int .i64 0, .int .i64 4294967295, .string (strOfNums (putL 4 0))] 77))
              have hba : Below y9.heap.size y9 (y9.alloc (.cells #[.int .i64 (4993 + (c : Int)), .int .i64 ((p : Int) + 1), .int .i64 4, .int .i64 3, .int .i64 0, .int .i64 4294967295, .string (strOfNums (putL 4 0))] 77)) := (Below.refl _ _).alloc (Nat.le_refl _) _
              have HBz9 := Lib.hid (kF hba HBy9.out)
              have HRz9 := Lib.hid (HRy9.out.below hba)
              have hl9 : (tabO 4 ++ mapsO c ++ mapO (c : Int) p).length ≤ 100 := by first | omega | (simp only [List.length_append, List.length_singleton, List.length_cons, List.length_nil]; omega)
              clear hb9 hba HBwr HRwr HBy9 HRy9
              go_wp2_with (at_builtin; refine wpList_append_own _ rfl (.tmp 67) (.tmp 72) 31 rfl w.heap.size 77 i0 (.agg #[.int .i64 0, .int .i64 0, .int .i64 0, .int .i64 0, .int .i64 0, .int .i64 0, .string ByteArray.empty]) 7 64 Try.underlying31 HI.out hz0' hz1' hz2' rfl (by omega) _ (tabO 4 ++ mapsO c ++ mapO (c : Int) p).length (fr (tabO 4 ++ mapsO c ++ mapO (c : Int) p)) rfl HRz9.out ⟨y9.heap.size, 0, none⟩ 1 1 [.int .i64 (4993 + (c : Int)), .int .i64 ((p : Int) + 1), .int .i64 4, .int .i64 3, .int .i64 0, .int .i64 4294967295, .string (strOfNums (putL 4 0))] rfl rfl (row7_cells HRW9.out) (by simp [Value.oneCell']) (by simp only [maxLen]; omega) (by omega) HBz9.out.size ?_; intro v9 x9 r1 r2 r3)
              have HRx9 : Hid (RwAt x9 w.heap.size v9 (tabO 4 ++ mapsO c ++ mapO (c : Int) p ++ [entO (4993 + (c : Int)) ((p : Int) + 1) 4 3 0 4294967295])) := Lib.hid (RwAt.app (by omega) r1)
              have HBx9 : Hid (Below w.heap.size w x9) := Lib.hid (HBz9.out.grown r2 HBz9.out.size HRz9.out.blk)
              clear r1 r2 r3 hl9 HRW9 HBz9 HRz9
              have HRF : Hid (RwAt x9 w.heap.size v9 (tabO 4 ++ mapsO c ++ mapO (c : Int) (p + 1))) := Lib.hid (HRx9.out.as (by rw [mapO_succ]; simp only [List.append_assoc]))
              clear HRx9
              go_wp2_with fail
              exact ⟨⟨p + 1, by omega, by go_num, HRF, HBx9⟩, by simp [intOf]; omega⟩
            · have HQ8 : Hid (p = 8) := Lib.hid (by omega)
              have HRF := Lib.hid (HRwr.out.as (show tabO 4 ++ mapsO c ++ mapO (c : Int) p = tabO 4 ++ mapsO (c + 1) by rw [HQ8.out, mapsO_succ]; simp only [List.append_assoc]))
              clear HQ8 HRwr
              go_wp2_with fail
              exact ⟨⟨c + 1, by omega, by go_num, HRF, HBwr⟩, by simp [intOf]; omega⟩
        · have HQ4 : Hid (c = 4) := Lib.hid (by omega)
          have HR4 := Lib.hid (HRwr.out.as (show tabO 4 ++ mapsO c = tabO 4 ++ mapsO 4 by rw [HQ4.out]))
          have ht7 := tabO_len 4
          have hc7 := mapsO_len 4
          have HRq : Hid (RwAt wr w.heap.size _ (tabO 4 ++ mapsO 4)) := HR4
          clear HQ4 HRwr HR4
          go_wp2_with fail
          refine (one15_false (5118) (0) 2 0 255 _ (by decide)).mono ?_
          rintro e y10 ⟨rfl, hb10⟩
          have HBy10 : Hid (Below w.heap.size w y10) := Lib.hid (kF hb10 HBwr.out)
          have HRy10 := Lib.hid (HRq.out.below hb10)
          have HRW10 := Lib.hid (heap_alloc_new y10 (.cells #[.int .i64 (5118), .int .i64 (0), .int .i64 2, .int .i64 3, .int .i64 0, .int .i64 255, .string (strOfNums (putL 2 0))] 77))
          have hba : Below y10.heap.size y10 (y10.alloc (.cells #[.int .i64 (5118), .int .i64 (0), .int .i64 2, .int .i64 3, .int .i64 0, .int .i64 255, .string (strOfNums (putL 2 0))] 77)) := (Below.refl _ _).alloc (Nat.le_refl _) _
          have HBz10 := Lib.hid (kF hba HBy10.out)
          have HRz10 := Lib.hid (HRy10.out.below hba)
          have hl10 : (tabO 4 ++ mapsO 4).length ≤ 100 := by first | omega | (simp only [List.length_append, List.length_singleton, List.length_cons, List.length_nil]; omega)
          clear hb10 hba HBwr HRq HBy10 HRy10
          go_wp2_with (at_builtin; refine wpList_append_own _ rfl (.tmp 74) (.tmp 76) 31 rfl w.heap.size 77 i0 (.agg #[.int .i64 0, .int .i64 0, .int .i64 0, .int .i64 0, .int .i64 0, .int .i64 0, .string ByteArray.empty]) 7 64 Try.underlying31 HI.out hz0' hz1' hz2' rfl (by omega) _ (tabO 4 ++ mapsO 4).length (fr (tabO 4 ++ mapsO 4)) rfl HRz10.out ⟨y10.heap.size, 0, none⟩ 1 1 [.int .i64 (5118), .int .i64 (0), .int .i64 2, .int .i64 3, .int .i64 0, .int .i64 255, .string (strOfNums (putL 2 0))] rfl rfl (row7_cells HRW10.out) (by simp [Value.oneCell']) (by simp only [maxLen]; omega) (by omega) HBz10.out.size ?_; intro v10 x10 r1 r2 r3)
          have HRx10 : Hid (RwAt x10 w.heap.size v10 (tabO 4 ++ mapsO 4 ++ [entO (5118) (0) 2 3 0 255])) := Lib.hid (RwAt.app (by omega) r1)
          have HBx10 : Hid (Below w.heap.size w x10) := Lib.hid (HBz10.out.grown r2 HBz10.out.size HRz10.out.blk)
          clear r1 r2 r3 hl10 HRW10 HBz10 HRz10
          go_wp2_with fail
          refine (one15_true (5119) (0) 2 4 4 _ (by decide)).mono ?_
          rintro e y11 ⟨rfl, hb11⟩
          have HBy11 : Hid (Below w.heap.size w y11) := Lib.hid (kF hb11 HBx10.out)
          have HRy11 := Lib.hid (HRx10.out.below hb11)
          have HRW11 := Lib.hid (heap_alloc_new y11 (.cells #[.int .i64 (5119), .int .i64 (0), .int .i64 2, .int .i64 4, .int .i64 4, .int .i64 4, .string (strOfNums (putL 2 4))] 77))
          have hba : Below y11.heap.size y11 (y11.alloc (.cells #[.int .i64 (5119), .int .i64 (0), .int .i64 2, .int .i64 4, .int .i64 4, .int .i64 4, .string (strOfNums (putL 2 4))] 77)) := (Below.refl _ _).alloc (Nat.le_refl _) _
          have HBz11 := Lib.hid (kF hba HBy11.out)
          have HRz11 := Lib.hid (HRy11.out.below hba)
          have hl11 : (tabO 4 ++ mapsO 4 ++ [entO (5118) (0) 2 3 0 255]).length ≤ 100 := by first | omega | (simp only [List.length_append, List.length_singleton, List.length_cons, List.length_nil]; omega)
          clear hb11 hba HBx10 HRx10 HBy11 HRy11
          go_wp2_with (at_builtin; refine wpList_append_own _ rfl (.tmp 78) (.tmp 80) 31 rfl w.heap.size 77 i0 (.agg #[.int .i64 0, .int .i64 0, .int .i64 0, .int .i64 0, .int .i64 0, .int .i64 0, .string ByteArray.empty]) 7 64 Try.underlying31 HI.out hz0' hz1' hz2' rfl (by omega) _ (tabO 4 ++ mapsO 4 ++ [entO (5118) (0) 2 3 0 255]).length (fr (tabO 4 ++ mapsO 4 ++ [entO (5118) (0) 2 3 0 255])) rfl HRz11.out ⟨y11.heap.size, 0, none⟩ 1 1 [.int .i64 (5119), .int .i64 (0), .int .i64 2, .int .i64 4, .int .i64 4, .int .i64 4, .string (strOfNums (putL 2 4))] rfl rfl (row7_cells HRW11.out) (by simp [Value.oneCell']) (by simp only [maxLen]; omega) (by omega) HBz11.out.size ?_; intro v11 x11 r1 r2 r3)
          have HRx11 : Hid (RwAt x11 w.heap.size v11 (tabO 4 ++ mapsO 4 ++ [entO (5118) (0) 2 3 0 255] ++ [entO (5119) (0) 2 4 4 4])) := Lib.hid (RwAt.app (by omega) r1)
          have HBx11 : Hid (Below w.heap.size w x11) := Lib.hid (HBz11.out.grown r2 HBz11.out.size HRz11.out.blk)
          clear r1 r2 r3 hl11 HRW11 HBz11 HRz11
          have HRm : Hid (RwAt x11 w.heap.size v11 (tabO 4 ++ mapsO 4 ++ [entO 5118 0 2 3 0 255] ++ sigO 0)) := Lib.hid (HRx11.out.as rfl)
          clear HRx11
          go_wp2_with fail
          go_loopw [1, 5] (fun V i wr => ∃ p : Nat, p ≤ 4 ∧ i = .int .i64 ((p : Int) + 1) ∧ Hid (RwAt wr w.heap.size V (tabO 4 ++ mapsO 4 ++ [entO 5118 0 2 3 0 255] ++ sigO p)) ∧ Hid (Below w.heap.size w wr)) (fun _ i _ => 5 - (intOf i).toNat)
          case atStart => exact ⟨0, by omega, rfl, HRm, HBx11⟩
          case round =>
            clear HRm HBx11
            obtain ⟨p, hp, rfl, HRwr, HBwr⟩ := hrel
            by_cases hlp : p < 4
            · have hp7 := sigO_len p
              go_wp2_with fail
              refine (one15_false (5119) ((p : Int) + 1) 3 0 65535 _ (by decide)).mono ?_
              rintro e y12 ⟨rfl, hb12⟩
              have HBy12 : Hid (Below w.heap.size w y12) := Lib.hid (kF hb12 HBwr.out)
              have HRy12 := Lib.hid (HRwr.out.below hb12)
              have HRW12 := Lib.hid (heap_alloc_new y12 (.cells #[.int .i64 (5119), .int .i64 ((p : Int) + 1), .int .i64 3, .int .i64 3, .int .i64 0, .int .i64 65535, .string (strOfNums (putL 3 0))] 77))
              have hba : Below y12.heap.size y12 (y12.alloc (.cells #[.int .i64 (5119), .int .i64 ((p : Int) + 1), .int .i64 3, .int .i64 3, .int .i64 0, .int .i64 65535, .string (strOfNums (putL 3 0))] 77)) := (Below.refl _ _).alloc (Nat.le_refl _) _
              have HBz12 := Lib.hid (kF hba HBy12.out)
              have HRz12 := Lib.hid (HRy12.out.below hba)
              have hl12 : (tabO 4 ++ mapsO 4 ++ [entO 5118 0 2 3 0 255] ++ sigO p).length ≤ 100 := by first | omega | (simp only [List.length_append, List.length_singleton, List.length_cons, List.length_nil]; omega)
              clear hb12 hba HBwr HRwr HBy12 HRy12
              go_wp2_with (at_builtin; refine wpList_append_own _ rfl (.tmp 86) (.tmp 89) 31 rfl w.heap.size 77 i0 (.agg #[.int .i64 0, .int .i64 0, .int .i64 0, .int .i64 0, .int .i64 0, .int .i64 0, .string ByteArray.empty]) 7 64 Try.underlying31 HI.out hz0' hz1' hz2' rfl (by omega) _ (tabO 4 ++ mapsO 4 ++ [entO 5118 0 2 3 0 255] ++ sigO p).length (fr (tabO 4 ++ mapsO 4 ++ [entO 5118 0 2 3 0 255] ++ sigO p)) rfl HRz12.out ⟨y12.heap.size, 0, none⟩ 1 1 [.int .i64 (5119), .int .i64 ((p : Int) + 1), .int .i64 3, .int .i64 3, .int .i64 0, .int .i64 65535, .string (strOfNums (putL 3 0))] rfl rfl (row7_cells HRW12.out) (by simp [Value.oneCell']) (by simp only [maxLen]; omega) (by omega) HBz12.out.size ?_; intro v12 x12 r1 r2 r3)
              have HRx12 : Hid (RwAt x12 w.heap.size v12 (tabO 4 ++ mapsO 4 ++ [entO 5118 0 2 3 0 255] ++ sigO p ++ [entO (5119) ((p : Int) + 1) 3 3 0 65535])) := Lib.hid (RwAt.app (by omega) r1)
              have HBx12 : Hid (Below w.heap.size w x12) := Lib.hid (HBz12.out.grown r2 HBz12.out.size HRz12.out.blk)
              clear r1 r2 r3 hl12 HRW12 HBz12 HRz12
              have HRF : Hid (RwAt x12 w.heap.size v12 (tabO 4 ++ mapsO 4 ++ [entO 5118 0 2 3 0 255] ++ sigO (p + 1))) := Lib.hid (HRx12.out.as (by rw [sigO_succ]; simp only [List.append_assoc]))
              clear HRx12
              go_wp2_with fail
              exact ⟨⟨p + 1, by omega, by go_num, HRF, HBx12⟩, by simp [intOf]; omega⟩
            · have HQ8 : Hid (p = 4) := Lib.hid (by omega)
              have HRF := Lib.hid (HRwr.out.as (show tabO 4 ++ mapsO 4 ++ [entO 5118 0 2 3 0 255] ++ sigO p = rowsO by rw [HQ8.out]; rfl))
              clear HQ8 HRwr
              go_wp2_with fail
              go_ret
              exact ⟨_, rfl, HRF.out, HBwr.out⟩
end Go.Proofs.Ytgaoplbocjadaaa