/- The document's sorted and Pack. -/
import Derived.Test.YtjofgomnnpeepaaGz
import Derived.Test.YtjofgomnnpeepaaGm
namespace Go.Proofs.Ytjofgomnnpeepaa
open Go.RowKit Go.Sort

theorem codes_yes {l : List Int} {n j : Nat} (h : (j : Int) ∈ l.take n) : codes (m0 l n) (j + 1) = codes (m0 l n) j ++ [j] := by
  rw [codes_succ]; unfold m0; rw [if_pos h]; rfl
theorem codes_no {l : List Int} {n j : Nat} (h : ¬ (j : Int) ∈ l.take n) : codes (m0 l n) (j + 1) = codes (m0 l n) j := by
  rw [codes_succ]; unfold m0; rw [if_neg h]; simp
theorem mem_take_getD {l : List Int} {n p : Nat} {x : Int} (hp : p < n) (hl : l.length = n) (h : l.getD p 0 = x) : x ∈ l.take n := by
  rw [List.take_of_length_le (by omega), ← h, List.getD_eq_getElem?_getD, List.getElem?_eq_getElem (by omega)]
  exact List.getElem_mem _
theorem mem_take_some {l : List Int} {n : Nat} {x : Int} (hl : l.length = n) (h : x ∈ l.take n) : ∃ p, p < n ∧ l.getD p 0 = x := by
  rw [List.take_of_length_le (by omega)] at h
  obtain ⟨p, hp, e⟩ := List.mem_iff_getElem.1 h
  exact ⟨p, by omega, by rw [List.getD_eq_getElem?_getD, List.getElem?_eq_getElem hp]; exact e⟩
theorem Nums.of_vals2 {w : World} {base e n : Nat} {v : Value} {l : List Nat} (h : w.ownsRow base e 1 v n (vals l)) (hl : ∀ q ∈ l, q < 2048) :
    ∃ A c, v = .slice A l.length c ∧ (∀ b off, A = some ⟨b, off, none⟩ → base ≤ b) ∧ Nums w w.heap.size A l.length c (l.map fun q : Nat => (q : Int)) := by
  obtain ⟨A, c, e1, hn, hN⟩ := Nums.of_vals h hl
  refine ⟨A, c, hn ▸ e1, fun b off e2 => ?_, hn ▸ hN⟩
  subst e1 e2
  exact (h.lt b rfl).1
/-- What sorted answers. -/
def Sortd (w : World) (l : List Int) (n : Nat) (e : Ending) (w' : World) : Prop := ∃ A c, e = .returned (.slice A (codes (m0 l n) 2048).length c) ∧ (∀ b off, A = some ⟨b, off, none⟩ → w.heap.size ≤ b) ∧ Nums w' w'.heap.size A (codes (m0 l n) 2048).length c ((codes (m0 l n) 2048).map fun q : Nat => (q : Int))
set_option maxRecDepth 40000 in
set_option maxHeartbeats 1000000 in
theorem sorted_any (w : World) (A : Option Addr) (n c : Nat) (l : List Int) (h : Nums w w.heap.size A n c l) :
    Calls Try.prog 29 #[.slice A n c] w fun e w' => Sortd w l n e w' ∧ Below w.heap.size w w' := by
  have HF := Lib.hid h
  have hl := h.len
  have hcap := h.cap
  have hmax := h.max
  simp only [maxLen] at hmax
  have hyes := fun j => @codes_yes l n j
  have hno := fun j => @codes_no l n j
  have hml := fun j => codes_len (m0 l n) j
  have hlt2 := fun q h => (@codes_mem (m0 l n) 2048 q).1 h
  have hin := fun p x h e => @mem_take_getD l n p x h hl e
  have hout := fun x h => @mem_take_some l n x hl h
  unfold Sortd
  have HY := Lib.hid hyes
  have HN := Lib.hid hno
  have HLT := Lib.hid hlt2
  have HIN := Lib.hid hin
  have HOUT := Lib.hid hout
  clear h hyes hno hlt2 hin hout hl
  generalize m0 l n = M at *
  have hml' := Lib.hid hml
  clear hml
  have hown0 : (w.alloc (.cells #[] 3)).ownsRow w.heap.size 3 1 (.slice (some ⟨w.heap.size, 0, none⟩) 0 0) 0 (vals []) := ⟨rfl, .inr ⟨_, 0, #[], rfl, Nat.le_refl _, heap_alloc_new w _, Nat.le_refl _, by simp [maxLen], by simp, rfl⟩⟩
  have hb0 : Below w.heap.size w (w.alloc (.cells #[] 3)) := (Below.refl _ _).alloc (Nat.le_refl _) _
  have HO := Lib.hid hown0
  have HB := Lib.hid hb0
  clear hown0 hb0
  go_enter Try.func29, Try.ntmps29
  go_wp2_with fail
  go_loopw [3, 4] (fun v i wr => ∃ j : Nat, j ≤ 2048 ∧ i = .int .i64 j ∧ wr.ownsRow w.heap.size 3 1 v (codes M j).length (vals (codes M j)) ∧ Below w.heap.size w wr) (fun _ i _ => 2048 - (intOf i).toNat)
  case atStart => exact ⟨0, by omega, rfl, HO.out, HB.out⟩
  case round =>
    rename_i v0 i0
    obtain ⟨j, hj, rfl, hown, hb⟩ := hrel
    have hpl := hml'.out j
    by_cases hlt : j < 2048
    · go_wp2_with fail
      obtain ⟨wo, hwo⟩ : ∃ wo : World, wo = wr := ⟨_, rfl⟩
      subst hwo
      go_loopw [3, 5] (fun v i wr => ∃ p : Nat, p ≤ n ∧ i = .int .i64 p ∧ v = u3 ∧ wr = wo ∧ Hid (∀ t, t < p → l.getD t 0 ≠ (j : Int))) (fun _ i _ => n - (intOf i).toNat)
      case atStart => exact ⟨0, Nat.zero_le _, rfl, rfl, rfl, Lib.hid fun t ht => absurd ht (Nat.not_lt_zero _)⟩
      case round =>
        obtain ⟨p, hp, rfl, rfl, rfl, hne⟩ := hrel
        by_cases hlp : p < n
        · obtain ⟨b, off, rfl, hbb, hcc⟩ := (HF.out.step hb).cells (by omega)
          have hcp := hcc p hlp
          by_cases hx : l.getD p 0 = (j : Int)
          · have hm := HY.out j (HIN.out p _ hlp hx)
            rw [hx] at hcp
            have hvs : vals (codes M j ++ [j]) = vals (codes M j) ++ [.int .i64 (j : Int)] := by simp [vals]
            have HM := Lib.hid hm
            have HV := Lib.hid hvs
            clear hm hvs hx hcc
            go_wp2_with (at_builtin; refine wpList_one rfl (.tmp 23) (.tmp 25) rfl Try.underlying27 info_num rfl hown rfl (by omega) hb.size ?_; intro v' w' hown' hbel')
            refine ⟨⟨j + 1, by omega, by go_num, ?_, hb.trans hbel'⟩, by simp [intOf]; omega⟩
            rw [HM.out, HV.out, List.length_append]
            exact hown'
          · have hn2 : Hid (∀ t, t < p + 1 → l.getD t 0 ≠ (j : Int)) := Lib.hid fun t ht => by
              by_cases e : t = p
              · subst e; exact hx
              · exact hne.out t (by omega)
            have t1 : (l.getD p 0 == (j : Int)) = false := by simpa using hx
            generalize l.getD p 0 = x at hcp t1
            clear hx hcc
            go_wp2_with fail
            exact ⟨⟨p + 1, by omega, by go_num, by first | trivial | rfl, by first | trivial | rfl, hn2⟩, by simp [intOf]; omega⟩
        · obtain rfl : p = n := by omega
          have hm := HN.out j fun hmem => by
            obtain ⟨t, ht, e⟩ := HOUT.out _ hmem
            exact hne.out t ht e
          have HM := Lib.hid hm
          clear hm
          go_wp2_with fail
          exact ⟨⟨j + 1, by omega, by go_num, by rw [HM.out]; exact hown, hb⟩, by simp [intOf]; omega⟩
    · obtain rfl : j = 2048 := by omega
      obtain ⟨A', c', rfl, hl, hf⟩ := Nums.of_vals2 hown (fun q hq => (HLT.out q hq).1)
      have HF2 := Lib.hid hf
      have HL2 := Lib.hid hl
      clear hf hown hl
      go_wp2_with fail
      exact bodyPost_ret (results_tmp rfl _ _ _) rfl ⟨⟨A', c', rfl, HL2.out, HF2.out⟩, hb⟩
end Go.Proofs.Ytjofgomnnpeepaa
