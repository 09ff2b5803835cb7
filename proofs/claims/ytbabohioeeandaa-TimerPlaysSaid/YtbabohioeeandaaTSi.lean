/- Places and BinarySearchFunc where keys are texts. -/
import Derived.Test.YtbabohioeeandaaTSh
namespace Go.Proofs.Ytbabohioeeandaa
open Go.RowKit
/-- The keys rise. -/
def RiseS {ν : Type} (ls : List (ByteArray × ν)) : Prop := ∀ (i j : Nat) (x y : ByteArray × ν), i < j → ls[i]? = some x → ls[j]? = some y → sl x.1 y.1 = true
/-- How many keys at the head are less than one. -/
def plcS {ν : Type} (q : ByteArray) : List (ByteArray × ν) → Nat
  | [] => 0
  | x :: ls => if sl x.1 q = true then plcS q ls + 1 else 0
theorem plcS_le {ν : Type} (q : ByteArray) : ∀ ls : List (ByteArray × ν), plcS q ls ≤ ls.length
  | [] => Nat.le_refl _
  | x :: ls => by unfold plcS; have := plcS_le q ls; split <;> simp <;> omega
theorem plcS_at {ν : Type} (q : ByteArray) : ∀ (ls : List (ByteArray × ν)) (k : Nat), k ≤ ls.length → (∀ i x, i < k → ls[i]? = some x → sl x.1 q = true) → (∀ x, ls[k]? = some x → sl x.1 q = false) → plcS q ls = k
  | [], k, hk, _, _ => by simp at hk; subst hk; rfl
  | x :: ls, 0, _, _, h => by unfold plcS; rw [if_neg (by rw [h x rfl]; simp)]
  | x :: ls, k + 1, hk, h1, h => by
    unfold plcS
    rw [if_pos (h1 0 x (by omega) rfl), plcS_at q ls k (by simpa using hk) (fun i y hi hy => h1 (i + 1) y (by omega) (by simpa using hy)) (fun y hy => h y (by simpa using hy))]
/-- Is a key there, at its place? -/
def hasS {ν : Type} (q : ByteArray) (ls : List (ByteArray × ν)) : Bool := match ls[plcS q ls]? with | some x => decide (x.1 = q) | none => false
theorem hasS_some {ν : Type} {q : ByteArray} {ls : List (ByteArray × ν)} {k : Nat} {x : ByteArray × ν} (h : plcS q ls = k) (hx : ls[k]? = some x) : hasS q ls = decide (x.1 = q) := by unfold hasS; rw [h, hx]
theorem hasS_none {ν : Type} {q : ByteArray} {ls : List (ByteArray × ν)} (h : plcS q ls = ls.length) : hasS q ls = false := by unfold hasS; rw [h, List.getElem?_eq_none (Nat.le_refl _)]

set_option maxRecDepth 100000 in
set_option maxHeartbeats 2000000 in
theorem bsC (w : World) (base n : Nat) (v : Value) (ls : List (ByteArray × Int)) (q : ByteArray) (hown : w.ownsRow base 115 2 v n (fl eS eI ls)) (hn : n ≤ 100000) (hs : RiseS ls) :
    Calls Try.prog 83 #[v, .string q, .func (Fn.func 84) #[] #[]] w fun e w' => e = .returned (.tuple #[.int .i64 (plcS q ls : Nat), .bool (hasS q ls)]) ∧ Below w.heap.size w w' := by
  have hl := hown.1
  rw [fl_len] at hl
  have hln : ls.length = n := by omega
  rcases Nat.eq_zero_or_pos n with h0 | h0
  · subst h0
    obtain rfl := List.eq_nil_of_length_eq_zero hln
    have e1 : plcS q ([] : List (ByteArray × Int)) = 0 := rfl
    have e2 : hasS q ([] : List (ByteArray × Int)) = false := rfl
    rw [e1, e2]
    rcases hown.2 with ⟨rfl, _⟩ | ⟨g, cap, cur, rfl, _⟩
    all_goals
      clear hown hl hln e1 e2
      go_enter Try.func83, Try.ntmps83
      go_wp2_with fail
      go_loopw [9, 10] (fun i j wr => i = .int .i64 0 ∧ j = .int .i64 0 ∧ wr = w) (fun _ _ _ => 0)
      case atStart => exact ⟨rfl, rfl, rfl⟩
      case round =>
        obtain ⟨rfl, rfl, rfl⟩ := hrel
        go_wp2_with fail
        go_ret2
        exact ⟨rfl, Below.refl _ _⟩
  · obtain ⟨g, cap, cur, rfl, hbg, _, hnc, hm, _⟩ := own_some hown h0
    simp only [maxLen] at hm
    have hid := fun (j : Nat) (hj : j ≤ n) (h1 : ∀ i x, i < j → ls[i]? = some x → sl x.1 q = true) (h2 : ∀ x, ls[j]? = some x → sl x.1 q = false) => plcS_at q ls j (by omega) h1 h2
    have hR2 := fun (j : Nat) (x : ByteArray × Int) (h : plcS q ls = j) (hx : ls[j]? = some x) => hasS_some h hx
    have hR3 := fun (h : plcS q ls = n) => hasS_none (h.trans hln.symm)
    generalize hR : plcS q ls = R at *
    generalize hB : hasS q ls = B at *
    have HID := Lib.hid hid
    have HR2 := Lib.hid hR2
    have HR3 := Lib.hid hR3
    have HO := Lib.hid hown
    have HLN := Lib.hid hln
    have HS := Lib.hid hs
    have hat := Lib.hid (fun (j : Nat) (hj : j < n) => (⟨_, List.getElem?_eq_getElem (by rw [HLN.out]; exact hj)⟩ : ∃ x, ls[j]? = some x))
    clear hid hown hl hln hR hB hs hR2 hR3
    go_enter Try.func83, Try.ntmps83
    go_wp2_with fail
    go_loopw [9, 10] (fun i j wr => ∃ lo hi : Nat, i = .int .i64 lo ∧ j = .int .i64 hi ∧ lo ≤ hi ∧ hi ≤ n ∧ Hid (∀ i x, i < lo → ls[i]? = some x → sl x.1 q = true) ∧ Hid (∀ i x, hi ≤ i → ls[i]? = some x → sl x.1 q = false) ∧ Hid (Below w.heap.size w wr)) (fun i j _ => (intOf j - intOf i).toNat)
    case atStart => exact ⟨0, n, rfl, rfl, Nat.zero_le _, Nat.le_refl _, Lib.hid (fun i x h => absurd h (Nat.not_lt_zero _)), Lib.hid (fun i x h hx => by have := (List.getElem?_eq_some_iff.1 hx).1; rw [HLN.out] at this; omega), Lib.hid (Below.refl _ _)⟩
    case round =>
      obtain ⟨lo, hi, rfl, rfl, hlh, hin, H1, H2, hb⟩ := hrel
      by_cases hlt : lo < hi
      · obtain ⟨x, hx⟩ := hat.out ((lo + hi) / 2) (by omega)
        have hown2 := HO.out.kept (grown_below none hb.out) (.inr (by simp [Value.ownBlock]))
        have c0 := own_cell hown2 (k := (lo + hi) / 2 * 2) (by omega)
        have c1 := own_cell hown2 (k := (lo + hi) / 2 * 2 + 1) (by omega)
        rw [fl_key eS eI ls _ x hx] at c0
        rw [fl_val eS eI ls _ x hx] at c1
        simp only [eS, eI] at c0 c1
        have hcall := fun w => place1C w x.1 x.2 q
        have hno : sl x.1 q = true → ∀ i y, i < (lo + hi) / 2 + 1 → ls[i]? = some y → sl y.1 q = true := fun hq i y hii hy => by
          by_cases e : i = (lo + hi) / 2
          · subst e; rw [hx] at hy; cases hy; exact hq
          · exact sl_trans (HS.out i _ y x (by omega) hy hx) hq
        have hyes : sl x.1 q = false → ∀ i y, (lo + hi) / 2 ≤ i → ls[i]? = some y → sl y.1 q = false := fun hq i y hii hy => by
          by_cases e : i = (lo + hi) / 2
          · subst e; rw [hx] at hy; cases hy; exact hq
          · have h1 := HS.out _ i x y (by omega) hx hy
            cases h2 : sl y.1 q with
            | false => rfl
            | true => rw [sl_trans h1 h2] at hq; cases hq
        have hcn := @cmpS_neg x.1 q
        generalize cmpS x.1 q = c at hcall hcn
        obtain ⟨k, u⟩ := x
        simp only at hcall hcn hno hyes c0 c1
        have HC := Lib.hid hcall
        have HN := Lib.hid hno
        have HY := Lib.hid hyes
        have HCN := Lib.hid hcn
        clear hx hown2 hcall hno hyes hcn
        have hm1 : (lo + hi) / 2 < n := by omega
        by_cases hc : c < 0
        · have HN2 := Lib.hid (HN.out (HCN.out.1 hc))
          clear HY HN
          go_wp2_with fail
          refine (HC.out _).mono ?_
          rintro e w2 ⟨rfl, hb2⟩
          have HBB := Lib.hid (hb.out.trans (hb2.mono hb.out.size))
          clear hb2 c0 c1
          go_wp2_with fail
          exact ⟨⟨(lo + hi) / 2 + 1, hi, by rw [show ((lo : Int) + (hi : Int)) / 2 + 1 = (((lo + hi) / 2 + 1 : Nat) : Int) by omega], rfl, by omega, hin, HN2, H2, HBB⟩, by simp [intOf]; omega⟩
        · have HN2 := Lib.hid (HY.out (by cases h : sl k q with | false => rfl | true => exact absurd (HCN.out.2 h) hc))
          clear HY HN
          go_wp2_with fail
          refine (HC.out _).mono ?_
          rintro e w2 ⟨rfl, hb2⟩
          have HBB := Lib.hid (hb.out.trans (hb2.mono hb.out.size))
          clear hb2 c0 c1
          go_wp2_with fail
          exact ⟨⟨lo, (lo + hi) / 2, rfl, by rw [show ((lo : Int) + (hi : Int)) / 2 = (((lo + hi) / 2 : Nat) : Int) by omega], by omega, by omega, H1, HN2, HBB⟩, by simp [intOf]; omega⟩
      · obtain rfl : hi = lo := by omega
        have hRe : R = hi := (HID.out hi hin H1.out (fun x hx => H2.out hi x (Nat.le_refl _) hx))
        subst hRe
        by_cases hn : R < n
        · obtain ⟨x, hx⟩ := hat.out R hn
          have hBe := HR2.out R x rfl hx
          have hown2 := HO.out.kept (grown_below none hb.out) (.inr (by simp [Value.ownBlock]))
          have c0 := own_cell hown2 (k := R * 2) (by omega)
          have c1 := own_cell hown2 (k := R * 2 + 1) (by omega)
          rw [fl_key eS eI ls _ x hx] at c0
          rw [fl_val eS eI ls _ x hx] at c1
          simp only [eS, eI] at c0 c1
          have hcall := fun w => place1C w x.1 x.2 q
          have hcz := @cmpS_zero x.1 q
          generalize cmpS x.1 q = c at hcall hcz
          obtain ⟨k, u⟩ := x
          simp only at hcall hcz hBe c0 c1
          have hBc : B = decide (c = 0) := by rw [hBe]; exact decide_eq_decide.2 hcz.symm
          have HC := Lib.hid hcall
          have HBE := Lib.hid hBc
          clear hx hown2 hcall hcz hBe hBc
          by_cases hc : c = 0
          · go_wp2_with fail
            refine (HC.out _).mono ?_
            rintro e w2 ⟨rfl, hb2⟩
            have HBB := Lib.hid (hb.out.trans (hb2.mono hb.out.size))
            clear hb2 c0 c1
            go_wp2_with fail
            go_ret2
            exact ⟨by rw [HBE.out]; simp [hc], HBB.out⟩
          · go_wp2_with fail
            refine (HC.out _).mono ?_
            rintro e w2 ⟨rfl, hb2⟩
            have HBB := Lib.hid (hb.out.trans (hb2.mono hb.out.size))
            clear hb2 c0 c1
            go_wp2_with fail
            go_ret2
            exact ⟨by rw [HBE.out]; simp [hc], HBB.out⟩
        · have hBe := HR3.out (by omega)
          subst hBe
          go_wp2_with fail
          go_ret2
          exact ⟨rfl, hb.out⟩
end Go.Proofs.Ytbabohioeeandaa