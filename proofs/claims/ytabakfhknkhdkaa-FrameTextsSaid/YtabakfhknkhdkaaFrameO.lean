/- What number answers. -/
import Derived.Test.YtabakfhknkhdkaaFrameN
import Derived.Lib.IndexLaws
import Derived.Shelf.Strings.Search1
namespace Go.Proofs.Ytabakfhknkhdkaa
open Go.RowKit

/-- A text's bytes as numbers. -/
def sB (s : ByteArray) : List Int := s.data.toList.map fun u => (u.toNat : Int)
theorem sB_len (s : ByteArray) : (sB s).length = s.size := by
  unfold sB; rw [List.length_map, Array.length_toList]; rfl
theorem sB_range (s : ByteArray) : ∀ x ∈ sB s, 0 ≤ x ∧ x ≤ 255 := by
  intro x hx
  simp only [sB, List.mem_map] at hx
  obtain ⟨u, _, rfl⟩ := hx
  have := u.toNat_lt
  omega
theorem sB_getD (s : ByteArray) {j : Nat} (hj : j < s.size) : (sB s).getD j 0 = (s[j].toNat : Int) := by
  unfold sB
  have h : j < s.data.toList.length := by rw [Array.length_toList]; exact hj
  simp only [List.getD, List.getElem?_map, List.getElem?_eq_getElem h]
  simp [ByteArray.getElem_eq_getElem_data]
theorem str_sB (s : ByteArray) : strOfNums (sB s) = s := by
  obtain ⟨⟨l⟩⟩ := s
  have e : l.map ((fun n : Int => UInt8.ofNat n.toNat) ∘ fun u : UInt8 => (u.toNat : Int)) = l := (List.map_congr_left (g := id) fun u _ => by simp).trans (List.map_id l)
  simp only [strOfNums, sB, List.map_map, e]
theorem sB_str {l : List Int} (h : ∀ x ∈ l, 0 ≤ x ∧ x ≤ 255) : sB (strOfNums l) = l := by
  unfold sB
  rw [strOfNums_data, List.map_map]
  refine (List.map_congr_left (g := id) fun x hx => ?_).trans (List.map_id l)
  have := h x hx
  simp only [Function.comp, id]
  have e : (UInt8.ofNat x.toNat).toNat = x.toNat % 256 := by simp
  rw [e]
  omega


theorem sib_any (s : ByteArray) (c : Int) (w : World) : Calls Try.prog 38 #[.string s, .int .u8 c] w fun e w' => e = .returned (.int .i64 (Lib.indexByte s.data.toList c.toNat.toUInt8)) ∧ w' = w := by
  go_enter Try.func38, Try.ntmps38
  go_wp2
  rw [run_callFunc_extern Try.func43 (by kernel_rfl) (by kernel_rfl) (by kernel_rfl) (e := Extern.BytealgIndexByte.indexByte) (by kernel_rfl), Lib.run_indexByteString]
  simp only [Result.andThen]
  rw [Oper.upon_value]
  go_wp2
  go_ret
  exact ⟨rfl, rfl⟩
theorem ib_any (s : ByteArray) (c : Int) (w : World) : Calls Try.prog 34 #[.string s, .int .u8 c] w fun e w' => e = .returned (.int .i64 (Lib.indexByte s.data.toList c.toNat.toUInt8)) ∧ w' = w := by
  go_enter Try.func34, Try.ntmps34
  go_wp2_with (go_at_call 38; refine (sib_any _ _ _).mono ?_; rintro e w' ⟨rfl, rfl⟩)
  go_ret
  exact ⟨rfl, rfl⟩
/-- A sign's number; -1: it is none. -/
def vs (x : Int) : Int := Lib.indexByte (⟨#[48, 49, 50, 51, 52, 53, 54, 55, 56, 57, 65, 66, 67, 68, 69, 70]⟩ : ByteArray).data.toList x.toNat.toUInt8
theorem vs_range (x : Int) : -1 ≤ vs x ∧ vs x ≤ 15 := by
  have h1 := Lib.indexByte_ge (⟨#[48, 49, 50, 51, 52, 53, 54, 55, 56, 57, 65, 66, 67, 68, 69, 70]⟩ : ByteArray).data.toList x.toNat.toUInt8
  refine ⟨h1, ?_⟩
  by_cases h : vs x < 0
  · omega
  · obtain ⟨o, ho⟩ : ∃ o : Nat, vs x = o := ⟨(vs x).toNat, by omega⟩
    have h2 := (Lib.indexByte_some (show Lib.indexByte _ _ = (o : Int) from ho)).1
    have h3 := (List.getElem?_eq_some_iff.1 h2).1
    rw [ho]
    have : o < 16 := h3
    omega
def numF : List Int → Int → Option Int
  | [], n => some n
  | x :: l, n => if vs x < 0 then none else numF l (n * 16 + vs x)
/-- The number of just W signs. -/
def numO (l : List Int) (W : Nat) : Option Int := if l.length = W then numF l 0 else none
def nOf (o : Option Int) : Int := o.getD 0
theorem drop_getD {l : List Int} {j : Nat} (h : j < l.length) : l.drop j = l.getD j 0 :: l.drop (j + 1) := by
  rw [List.drop_eq_getElem_cons h]; simp [List.getD, h]
theorem or_16 (n v : Int) (h0 : 0 ≤ n) (h1 : n ≤ 65535) (hv : 0 ≤ v) (hv2 : v ≤ 15) : bits .or .i64 (n * 16) v = n * 16 + v :=
  bits_join .i64 32 (by decide) (fun m m0 m1 => IntWalk.i64_in m (by omega)) 4 (n * 16) v (by omega) (by omega) (by omega) hv (by omega) (by omega)
theorem number_any (s : ByteArray) (W : Nat) (w : World) (hW : W ≤ 3) (hs : s.size ≤ 9223372036854775807) :
    Calls Try.prog 29 #[.string s, .int .i64 (W : Int)] w fun e w' => e = .returned (.tuple #[.int .i64 (nOf (numO (sB s) W)), .bool (numO (sB s) W).isSome]) ∧ w = w' := by
  by_cases hl : s.size = W
  · have e : numO (sB s) W = numF (sB s) 0 := by unfold numO; rw [if_pos (by rw [sB_len]; exact hl)]
    rw [e]
    have HLN := Lib.hid (sB_len s)
    have HGD := Lib.hid (fun j => sB_getD s (j := j))
    subst hl
    clear e
    go_enter Try.func29, Try.ntmps29
    go_wp2_with fail
    go_loop [14, 7, 8, 6] (fun i u1 u2 v => ∃ (j : Nat) (n : Int), j ≤ s.size ∧ i = .int .i64 j ∧ v = .int .i64 n ∧ Hid (numF ((sB s).drop j) n = numF (sB s) 0) ∧ Hid (0 ≤ n ∧ n < 16 ^ j)) (fun i _ _ _ => s.size - (intOf i).toNat)
    case atStart => exact ⟨0, 0, Nat.zero_le _, rfl, rfl, Lib.hid rfl, Lib.hid (by simp)⟩
    case round =>
      obtain ⟨j, n, hj, rfl, rfl, hnum, hn⟩ := hrel
      by_cases hlt : j < s.size
      · have hdr : (sB s).drop j = (s[j].toNat : Int) :: (sB s).drop (j + 1) := by rw [← HGD.out j hlt]; exact drop_getD (by rw [HLN.out]; exact hlt)
        have hib := fun w => ib_any (⟨#[48, 49, 50, 51, 52, 53, 54, 55, 56, 57, 65, 66, 67, 68, 69, 70]⟩ : ByteArray) (s[j].toNat : Int) w
        have hst : numF ((sB s).drop j) n = if vs (s[j].toNat : Int) < 0 then none else numF ((sB s).drop (j + 1)) (n * 16 + vs (s[j].toNat : Int)) := by rw [hdr]; rfl
        have hvr := vs_range (s[j].toNat : Int)
        rw [show Lib.indexByte (⟨#[48, 49, 50, 51, 52, 53, 54, 55, 56, 57, 65, 66, 67, 68, 69, 70]⟩ : ByteArray).data.toList ((s[j].toNat : Int)).toNat.toUInt8 = vs (s[j].toNat : Int) from rfl] at hib
        rw [hnum.out] at hst
        generalize vs (s[j].toNat : Int) = v at hib hst hvr
        have hn2 : n ≤ 255 := by
          have h2 : (16 : Int) ^ j ≤ 16 ^ 2 := by
            match j, hlt with
            | 0, _ => decide
            | 1, _ => decide
            | 2, _ => decide
            | j + 3, h => exact absurd h (by omega)
          have := hn.out.2; omega
        have hn0 := hn.out.1
        have hn1 := hn.out.2
        obtain ⟨hv0, hv1⟩ := hvr
        have HIB := Lib.hid hib
        have HST := Lib.hid hst
        have HN1 := Lib.hid hn1
        clear hib hst hdr hnum hn hn1
        by_cases hneg : v < 0
        · have HNEG := Lib.hid hneg
          go_wp2_with (go_at_call 34; refine (HIB.out _).mono ?_; rintro e w1 ⟨rfl, rfl⟩)
          all_goals exact bodyPost_ret (results_tmp2 rfl _ _ _) rfl ⟨by rw [HST.out, if_pos HNEG.out]; rfl, rfl⟩
        · have HNEG := Lib.hid hneg
          have hor := or_16 n v hn0 (by omega) (by omega) hv1
          go_wp2_with (go_at_call 34; refine (HIB.out _).mono ?_; rintro e w1 ⟨rfl, rfl⟩)
          all_goals exact ⟨⟨j + 1, n * 16 + v, by omega, by go_num, rfl, Lib.hid (by rw [HST.out, if_neg (by have := HNEG.out; omega)]), Lib.hid ⟨by omega, by rw [Int.pow_succ]; have := HN1.out; omega⟩⟩, by simp [intOf]; omega⟩
      · obtain rfl : j = s.size := by omega
        have e2 : some n = numF (sB s) 0 := by
          have := hnum.out
          rw [List.drop_eq_nil_of_le (by rw [HLN.out]; omega)] at this
          exact this
        have E2 := Lib.hid e2
        clear e2
        go_wp2_with fail
        all_goals exact bodyPost_ret (results_tmp2 rfl _ _ _) rfl ⟨by rw [← E2.out]; rfl, rfl⟩
  · have e : numO (sB s) W = none := by unfold numO; rw [if_neg (by rw [sB_len]; exact hl)]
    rw [e]
    go_enter Try.func29, Try.ntmps29
    go_wp2_with fail
    all_goals first | (exfalso; omega) | exact bodyPost_ret (results_tmp2 rfl _ _ _) rfl ⟨rfl, rfl⟩
end Go.Proofs.Ytabakfhknkhdkaa
