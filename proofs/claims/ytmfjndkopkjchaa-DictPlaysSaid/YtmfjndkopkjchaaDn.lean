/- What Read answers, and Write where nothing is written. -/
import Derived.Test.YtmfjndkopkjchaaDm
import Derived.Lib.ConvBytes
import Derived.Lib.SmallJoins
namespace Go.Proofs.Ytmfjndkopkjchaa
open Go.RowKit
set_option linter.unusedSimpArgs false
set_option linter.unusedVariables false

/-- The bytes of a text, made a slice. -/
theorem to_bytes (w : World) (l : List Int) (hr : ∀ x ∈ l, 0 ≤ x ∧ x ≤ 255) (hl : l.length ≤ 64) :
    ∃ c w', (convert 9 36 (.string (strOfNums l))).run Try.prog w = .ok (.slice (some ⟨w.heap.size, 0, none⟩) l.length c) w' ∧ Byt w' w'.heap.size (some ⟨w.heap.size, 0, none⟩) l.length c l ∧ Below w.heap.size w w' := by
  have hz : (strOfNums l).size = l.length := by simp [strOfNums, ByteArray.size]
  have hrun := Lib.run_convert_string_bytes (P := Try.prog) w 9 36 5 (strOfNums l) Try.underlying9 Try.underlying36 Try.underlying5
  rw [hz] at hrun
  refine ⟨_, _, hrun, ⟨rfl, grownCap_ge _ _ _ _, grownCap_le_maxLen _ _ _ _ (by simp only [maxLen]; omega), hr, fun hn => ⟨_, 0, rfl, by rw [Lib.bytesWorld_size]; omega, fun j hj => ?_⟩⟩, Joins.below_bytesWorld _ _ _ _ (Nat.le_refl _)⟩
  rw [Nat.zero_add, Lib.bytesWorld_cell _ _ _ _ (by omega)]
  have hb := hr _ (List.getElem_mem hj)
  rw [strOfNums_data, List.getD_eq_getElem?_getD, List.getD_eq_getElem?_getD, List.getElem?_map, List.getElem?_eq_getElem hj]
  simp only [Option.map_some, Option.getD_some]
  have e : (((UInt8.ofNat (l[j]).toNat).toNat : Nat) : Int) = l[j] := by rw [UInt8.toNat_ofNat']; omega
  rw [e]
def rdE (x : Ent) (q : Int) : Int := if q = 0 then readsI x.a else q
def ReadP (w : World) (E : Ent) (q : Int) (e : Ending) (w' : World) : Prop := ∃ A n c L, e = .returned (.tuple #[.slice A n c, .int .i64 (rdE E q)]) ∧ Byt w' w'.heap.size A n c L ∧ L = (if rdE E q = 0 then E.b else []) ∧ Below w.heap.size w w'
theorem readp_bad {w w' : World} {E : Ent} {q r : Int} (hr : rdE E q = r) (h0 : ¬ r = 0) (hb : Below w.heap.size w w') : ReadP w E q (.returned (.tuple #[.slice none 0 0, .int .i64 r])) w' := by
  refine ⟨none, 0, 0, [], by rw [hr], Byt.nil_ _ _, by rw [hr, if_neg h0], hb⟩
def FindC (w : World) (P : Option Addr) (i j : Int) (E : Ent) (q : Int) : Prop := ∀ x, Below w.heap.size w x → Calls Try.prog 34 #[.pointer P, .agg #[.int .i64 i, .int .i64 j]] x fun e w' => e = .returned (.tuple #[entV E, .int .i64 q]) ∧ Below x.heap.size x w'
set_option maxRecDepth 100000 in
set_option maxHeartbeats 2000000 in
theorem read_of (w : World) (P : Option Addr) (i j : Int) (E : Ent) (q : Int) (hF : FindC w P i j E q) (hE : q = 0 → (∀ x ∈ E.b, 0 ≤ x ∧ x ≤ 255) ∧ E.b.length ≤ 64) :
    Calls Try.prog 11 #[.pointer P, .agg #[.int .i64 i, .int .i64 j]] w (ReadP w E q) := by
  have hb0 : Below w.heap.size w (w.alloc (.cells #[.int .i64 i, .int .i64 j] 31)) := (Below.refl _ _).alloc (Nat.le_refl _) _
  have hk0 : Key2 (w.alloc (.cells #[.int .i64 i, .int .i64 j] 31)) w.heap.size i j := heap_alloc_new w _
  have hf := hF _ hb0
  obtain ⟨ek, ea, el, eh, eb⟩ := E
  dsimp only [entV] at hf
  have HTB := Lib.hid (fun x (hq : q = 0) => to_bytes x eb (hE hq).1 (hE hq).2)
  have HP1 := Lib.hid (fun (w' : World) (r : Int) (hr : rdE ⟨ek, ea, el, eh, eb⟩ q = r) (h0 : ¬ r = 0) (hb : Below w.heap.size w w') => readp_bad hr h0 hb)
  have HP2 := Lib.hid (fun (w' : World) (A : Option Addr) (n c : Nat) (hr : rdE ⟨ek, ea, el, eh, eb⟩ q = 0) (hY : Byt w' w'.heap.size A n c eb) (hb : Below w.heap.size w w') => (show ReadP w ⟨ek, ea, el, eh, eb⟩ q (.returned (.tuple #[.slice A n c, .int .i64 0])) w' from ⟨A, n, c, eb, by rw [hr], hY, by rw [hr, if_pos rfl], hb⟩))
  have HRI := Lib.hid (show q = 0 → rdE ⟨ek, ea, el, eh, eb⟩ q = readsI ea from fun hq => if_pos hq)
  have HRN := Lib.hid (show ¬ q = 0 → rdE ⟨ek, ea, el, eh, eb⟩ q = q from fun hq => if_neg hq)
  have hra := fun x => reads_any ea x
  generalize readsI ea = ra at HRI hra
  have HRA := Lib.hid hra
  generalize hS : strOfNums eb = ES at hf HTB
  generalize eb.length = EN at HTB
  have HF := Lib.hid hf
  obtain ⟨c0, c1⟩ := hk0.cells
  have HB0 := Lib.hid hb0
  clear hF hE hf hb0 hk0 hra hS
  by_cases hq : q = 0
  · subst hq
    by_cases hr : ra = 0
    · subst hr
      have HX := Lib.hid (HRI.out rfl)
      clear HRI HRN
      go_enter Try.func11, Try.ntmps11
      go_wp2_with fail
      refine HF.out.mono ?_
      rintro e w1 ⟨rfl, hb1⟩
      have HB1 := Lib.hid (kF (kA hb1 (.cells #[.int .i64 ek, .int .i64 ea, .int .i64 el, .int .i64 eh, .string ES] 69)) HB0.out)
      have hx2 : EntAt (w1.alloc (.cells #[.int .i64 ek, .int .i64 ea, .int .i64 el, .int .i64 eh, .string ES] 69)) w1.heap.size ek ea el eh ES := heap_alloc_new w1 _
      obtain ⟨x0, x1, x2, x3, x4⟩ := hx2.cells
      clear hb1 c0 c1 hx2 HF
      go_wp2_with fail
      generalize w1.alloc (.cells #[.int .i64 ek, .int .i64 ea, .int .i64 el, .int .i64 eh, .string ES] 69) = w2 at *
      refine (HRA.out _).mono ?_
      rintro e w3 ⟨rfl, rfl⟩
      obtain ⟨cc, w4, hcv, hby, hb4⟩ := HTB.out w2 trivial
      have HY := Lib.hid hby
      have HB4 := Lib.hid (kF hb4 HB1.out)
      clear hby hb4
      go_wp2_with fail
      go_ret2
      exact HP2.out _ _ _ _ HX.out HY.out HB4.out
    · have HX := Lib.hid (HRI.out rfl)
      have tr : (ra != 0) = true := by simp [hr]
      have HR := Lib.hid hr
      clear HRI HRN HP2 hr
      go_enter Try.func11, Try.ntmps11
      go_wp2_with fail
      refine HF.out.mono ?_
      rintro e w1 ⟨rfl, hb1⟩
      have HB1 := Lib.hid (kF (kA hb1 (.cells #[.int .i64 ek, .int .i64 ea, .int .i64 el, .int .i64 eh, .string ES] 69)) HB0.out)
      have hx2 : EntAt (w1.alloc (.cells #[.int .i64 ek, .int .i64 ea, .int .i64 el, .int .i64 eh, .string ES] 69)) w1.heap.size ek ea el eh ES := heap_alloc_new w1 _
      obtain ⟨x0, x1, x2, x3, x4⟩ := hx2.cells
      clear hb1 c0 c1 hx2 HF
      go_wp2_with fail
      generalize w1.alloc (.cells #[.int .i64 ek, .int .i64 ea, .int .i64 el, .int .i64 eh, .string ES] 69) = w2 at *
      refine (HRA.out _).mono ?_
      rintro e w3 ⟨rfl, rfl⟩
      go_wp2_with fail
      go_ret2
      exact HP1.out _ _ HX.out HR.out HB1.out
  · have HX := Lib.hid (HRN.out hq)
    have tq : (q != 0) = true := by simp [hq]
    have HQ := Lib.hid hq
    clear HRI HRN HP2 hq HTB
    go_enter Try.func11, Try.ntmps11
    go_wp2_with fail
    refine HF.out.mono ?_
    rintro e w1 ⟨rfl, hb1⟩
    have HB1 := Lib.hid (kF (kA hb1 (.cells #[.int .i64 ek, .int .i64 ea, .int .i64 el, .int .i64 eh, .string ES] 69)) HB0.out)
    clear hb1 c0 c1 HF
    go_wp2_with fail
    go_ret2
    exact HP1.out _ _ HX.out HQ.out HB1.out
def wrE (x : Ent) (q : Int) (l : List Int) : Int := if q = 0 then (if writesI x.a = 0 then fitsA x.k x.a x.lo x.hi l else writesI x.a) else q
set_option maxRecDepth 100000 in
set_option maxHeartbeats 2000000 in
theorem write_bad (w : World) (P : Option Addr) (i j : Int) (E : Ent) (q : Int) (A : Option Addr) (n c : Nat) (l : List Int) (hF : FindC w P i j E q) (hB : Byt w w.heap.size A n c l) (h0 : ¬ wrE E q l = 0) :
    Calls Try.prog 21 #[.pointer P, .agg #[.int .i64 i, .int .i64 j], .slice A n c] w fun e w' => e = .returned (.int .i64 (wrE E q l)) ∧ Below w.heap.size w w' := by
  have hb0 : Below w.heap.size w (w.alloc (.cells #[.int .i64 i, .int .i64 j] 31)) := (Below.refl _ _).alloc (Nat.le_refl _) _
  have hk0 : Key2 (w.alloc (.cells #[.int .i64 i, .int .i64 j] 31)) w.heap.size i j := heap_alloc_new w _
  have hf := hF _ hb0
  obtain ⟨ek, ea, el, eh, eb⟩ := E
  unfold wrE at h0 ⊢
  dsimp only [entV] at hf h0 ⊢
  have hwa := fun x => writes_any ea x
  have hft := fun x (hx : Below w.heap.size w x) => vfits_any ek ea el eh x A n c l (hB.step hx)
  generalize writesI ea = ra at hwa h0 ⊢
  generalize fitsA ek ea el eh l = fa at hft h0 ⊢
  have HWA := Lib.hid hwa
  have HFT := Lib.hid hft
  generalize strOfNums eb = ES at hf
  have HF := Lib.hid hf
  obtain ⟨c0, c1⟩ := hk0.cells
  have HB0 := Lib.hid hb0
  clear hF hB hf hb0 hk0 hwa hft
  by_cases hq : q = 0
  · subst hq
    rw [if_pos rfl] at h0 ⊢
    by_cases hr : ra = 0
    · subst hr
      rw [if_pos rfl] at h0 ⊢
      have tr : (fa != 0) = true := by simp [h0]
      clear h0
      go_enter Try.func21, Try.ntmps21
      go_wp2_with fail
      refine HF.out.mono ?_
      rintro e w1 ⟨rfl, hb1⟩
      have HB1 := Lib.hid (kF (kA hb1 (.cells #[.int .i64 ek, .int .i64 ea, .int .i64 el, .int .i64 eh, .string ES] 69)) HB0.out)
      have hx2 : EntAt (w1.alloc (.cells #[.int .i64 ek, .int .i64 ea, .int .i64 el, .int .i64 eh, .string ES] 69)) w1.heap.size ek ea el eh ES := heap_alloc_new w1 _
      obtain ⟨x0, x1, x2, x3, x4⟩ := hx2.cells
      clear hb1 c0 c1 hx2 HF
      go_wp2_with fail
      generalize w1.alloc (.cells #[.int .i64 ek, .int .i64 ea, .int .i64 el, .int .i64 eh, .string ES] 69) = w2 at *
      refine (HWA.out _).mono ?_
      rintro e w3 ⟨rfl, rfl⟩
      go_wp2_with fail
      refine (HFT.out w2 HB1.out).mono ?_
      rintro e w4 ⟨rfl, hb4⟩
      have HB4 := Lib.hid (kF hb4 HB1.out)
      clear hb4 x0 x1 x2 x3 x4
      go_wp2_with fail
      go_ret
      exact ⟨rfl, HB4.out⟩
    · rw [if_neg hr]
      have tr : (ra != 0) = true := by simp [hr]
      clear hr h0
      go_enter Try.func21, Try.ntmps21
      go_wp2_with fail
      refine HF.out.mono ?_
      rintro e w1 ⟨rfl, hb1⟩
      have HB1 := Lib.hid (kF (kA hb1 (.cells #[.int .i64 ek, .int .i64 ea, .int .i64 el, .int .i64 eh, .string ES] 69)) HB0.out)
      have hx2 : EntAt (w1.alloc (.cells #[.int .i64 ek, .int .i64 ea, .int .i64 el, .int .i64 eh, .string ES] 69)) w1.heap.size ek ea el eh ES := heap_alloc_new w1 _
      obtain ⟨x0, x1, x2, x3, x4⟩ := hx2.cells
      clear hb1 c0 c1 hx2 HF
      go_wp2_with fail
      generalize w1.alloc (.cells #[.int .i64 ek, .int .i64 ea, .int .i64 el, .int .i64 eh, .string ES] 69) = w2 at *
      refine (HWA.out _).mono ?_
      rintro e w3 ⟨rfl, rfl⟩
      go_wp2_with fail
      go_ret
      exact ⟨rfl, HB1.out⟩
  · rw [if_neg hq]
    have tq : (q != 0) = true := by simp [hq]
    clear hq h0
    go_enter Try.func21, Try.ntmps21
    go_wp2_with fail
    refine HF.out.mono ?_
    rintro e w1 ⟨rfl, hb1⟩
    have HB1 := Lib.hid (kF (kA hb1 (.cells #[.int .i64 ek, .int .i64 ea, .int .i64 el, .int .i64 eh, .string ES] 69)) HB0.out)
    clear hb1 c0 c1 HF
    go_wp2_with fail
    go_ret
    exact ⟨rfl, HB1.out⟩
end Go.Proofs.Ytmfjndkopkjchaa
