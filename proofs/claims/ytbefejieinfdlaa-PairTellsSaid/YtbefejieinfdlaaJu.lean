/- pair: the document's Tell. -/
import Derived.Test.YtbefejieinfdlaaJt
import Derived.Deep.CutBlock
import Derived.Deep.RegionHeld
import Derived.Test.YtbefejieinfdlaaJRl
namespace Go.Proofs.Ytbefejieinfdlaa
open Go.RowKit
set_option linter.unusedSimpArgs false
set_option linter.unusedVariables false

theorem own_slice {w : World} {base e s n : Nat} {v : Value} {xs : List Value} (h : w.ownsRow base e s v n xs) : ∃ a c, v = .slice a n c := by
  rcases h.2 with ⟨rfl, h0⟩ | ⟨g', cap, cur, rfl, _⟩
  · exact ⟨none, 0, by rw [h0]⟩
  · exact ⟨_, _, rfl⟩
theorem own_belowU {w w' : World} {base e s n : Nat} {v : Value} {xs : List Value} (h : w.ownsRow base e s v n xs) (hb : Below w.heap.size w w') : w'.ownsRow base e s v n xs :=
  h.kept (grownr_below none hb) (by cases hv : v.ownBlock with | none => exact .inl rfl | some k => exact .inr (by simp))
/-- A row is kept if a checker's block alone changes. -/
theorem own_onl {w w' : World} {base e s n g : Nat} {v : Value} {xs : List Value} {cs : Array Value} {t : TypeId} (h : w.ownsRow base e s v n xs) (hg : w.heap[g]? = some (.cells cs t (0, 0))) (ht : ¬ t = e) (ho : Onl g w w') : w'.ownsRow base e s v n xs := by
  refine ⟨h.1, ?_⟩
  rcases h.2 with hn | ⟨b, cap, cur, hv, hb, hb2, rest⟩
  · exact .inl hn
  · refine .inr ⟨b, cap, cur, hv, hb, (ho.oth b (Array.getElem?_eq_some_iff.1 hb2).1 (fun e => ?_)).trans hb2, rest⟩
    subst e
    rw [hg] at hb2
    cases hb2
    exact ht rfl
/-- The cells of frames that came. -/
def cmv : List (Bool × List Int) → List Value | [] => [] | x :: R => .bool x.1 :: .string (strOfNums x.2) :: cmv R
theorem cmv_len : ∀ R, (cmv R).length = R.length * 2
  | [] => rfl
  | x :: R => by simp only [cmv, List.length_cons, cmv_len R]; omega
theorem cmv_snoc (R : List (Bool × List Int)) (x : Bool × List Int) : cmv (R ++ [x]) = cmv R ++ [.bool x.1, .string (strOfNums x.2)] := by
  induction R with
  | nil => rfl
  | cons y R ih => simp only [List.cons_append, cmv, ih]
theorem cmv_at : ∀ (R : List (Bool × List Int)) (i : Nat) (x : Bool × List Int), R[i]? = some x → (cmv R)[i * 2]? = some (.bool x.1) ∧ (cmv R)[i * 2 + 1]? = some (.string (strOfNums x.2))
  | [], i, x, h => by simp at h
  | y :: R, 0, x, h => by simp only [List.getElem?_cons_zero, Option.some.injEq] at h; subst h; exact ⟨rfl, rfl⟩
  | y :: R, i + 1, x, h => by
    have := cmv_at R i x (by simpa using h)
    rw [show (i + 1) * 2 = (i * 2 + 1) + 1 by omega]
    simpa [cmv] using this
/-- What the document tells of frames. -/
structure TlV where
  t : Int
  h : Bool
  f : List Int
  v : List Int
  s : Bool
def tl0 : TlV := ⟨0, false, [], [], false⟩
def tlS (sz : Nat) (s : TlV) (x : Bool × List Int) : TlV :=
  if ¬ x.2.length = sz then ⟨4, false, s.f, s.v, s.s⟩ else if ¬ s.h = x.1 then ⟨3, false, s.f, s.v, s.s⟩ else if x.1 = false then ⟨1, true, x.2, s.v, s.s⟩
  else if flipL s.f = x.2 then ⟨2, false, s.f, s.f, true⟩ else ⟨5, false, s.f, s.v, s.s⟩
def tlF (sz : Nat) (R : List (Bool × List Int)) : TlV := R.foldl (tlS sz) tl0
theorem tlF_succ (sz : Nat) {R : List (Bool × List Int)} {i : Nat} {x : Bool × List Int} (hx : R[i]? = some x) : tlF sz (R.take (i + 1)) = tlS sz (tlF sz (R.take i)) x := by
  unfold tlF
  rw [List.take_add_one, hx]
  simp
theorem tlF_snoc (sz : Nat) (R : List (Bool × List Int)) (x : Bool × List Int) : tlF sz (R ++ [x]) = tlS sz (tlF sz R) x := by simp [tlF]
/-- Bytes, and not many. -/
def Bok (l : List Int) : Prop := (∀ y ∈ l, 0 ≤ y ∧ y ≤ 255) ∧ l.length ≤ 12
theorem tlS_ok {sz : Nat} {s : TlV} {x : Bool × List Int} (hs : Bok s.f) (hx : Bok x.2) : Bok (tlS sz s x).f := by
  unfold tlS
  (repeat' split) <;> first | exact hs | exact hx
theorem foldl_ok (sz : Nat) : ∀ (R : List (Bool × List Int)) (s : TlV), Bok s.f → (∀ x ∈ R, Bok x.2) → Bok (R.foldl (tlS sz) s).f
  | [], s, hs, _ => hs
  | x :: R, s, hs, h => foldl_ok sz R _ (tlS_ok hs (h x (by simp))) (fun y hy => h y (by simp [hy]))
theorem tlF_ok (sz : Nat) {R : List (Bool × List Int)} (h : ∀ x ∈ R, Bok x.2) : Bok (tlF sz R).f := foldl_ok sz R tl0 ⟨by simp [tl0], by simp [tl0]⟩ h
theorem tlS_half (sz : Nat) (s : TlV) (x : Bool × List Int) : (tlS sz s x).h = ((tlS sz s x).t == 1) := by
  unfold tlS
  (repeat' split) <;> rfl
theorem foldl_half (sz : Nat) : ∀ (R : List (Bool × List Int)) (s : TlV), s.h = (s.t == 1) → (R.foldl (tlS sz) s).h = ((R.foldl (tlS sz) s).t == 1)
  | [], s, h => h
  | x :: R, s, h => foldl_half sz R _ (tlS_half sz s x)
theorem tlF_half (sz : Nat) (R : List (Bool × List Int)) : (tlF sz R).h = ((tlF sz R).t == 1) := foldl_half sz R tl0 rfl
theorem str_lenU (l : List Int) : (strOfNums l).size = l.length := by simp [strOfNums, ByteArray.size]
set_option maxRecDepth 100000 in
set_option maxHeartbeats 16000000 in
theorem tell_any (w : World) (base sz : Nat) (R : List (Bool × List Int)) (v : Value) (hrow : w.ownsRow base 49 2 v R.length (cmv R)) (hR : ∀ x ∈ R, Bok x.2) (hN : R.length ≤ 40) (hsz : sz ≤ 8) :
    Calls Try.prog 22 #[.int .i64 (sz : Int), v] w fun e w' => e = .returned (.tuple #[.int .i64 (tlF sz R).t, .string (strOfNums (tlF sz R).v), .bool (tlF sz R).s]) ∧ Below w.heap.size w w' := by
  obtain ⟨va, vc, rfl⟩ := own_slice hrow
  have HR := Lib.hid hrow
  have HBK := Lib.hid hR
  have HFO := Lib.hid (fun i => tlF_ok sz (R := R.take i) (fun x hx => hR x (List.mem_of_mem_take hx)))
  obtain ⟨N, hNN⟩ : ∃ N, R.length = N := ⟨_, rfl⟩
  have HNN := Lib.hid hNN
  rw [hNN] at HR hN ⊢
  have hFin : tlF sz R = tlF sz (R.take N) := by rw [← hNN, List.take_length]
  rw [hFin]
  clear hrow hR hNN hFin
  go_enter Try.func22, Try.ntmps22
  go_wp2_with fail
  go_loopw [4, 5, 6, 7, 8, 9] (fun t vv hs h f i wr => ∃ (j : Nat) (s : TlV), j ≤ N ∧ t = .int .i64 s.t ∧ vv = .string (strOfNums s.v) ∧ hs = .bool s.s ∧ h = .bool s.h ∧ f = .string (strOfNums s.f) ∧ i = .int .i64 j ∧ Hid (s = tlF sz (R.take j)) ∧ Hid (Below w.heap.size w wr)) (fun _ _ _ _ _ i _ => 50 - (intOf i).toNat)
  case atStart => exact ⟨0, tl0, by omega, rfl, rfl, rfl, rfl, rfl, rfl, Lib.hid rfl, Lib.hid (Below.refl _ _)⟩
  case round =>
    obtain ⟨j, s, hj, rfl, rfl, rfl, rfl, rfl, rfl, HS, HB⟩ := hrel
    by_cases hlt : j < N
    · obtain ⟨⟨tu, l⟩, hx⟩ : ∃ x, R[j]? = some x := ⟨_, List.getElem?_eq_getElem (by rw [HNN.out]; exact hlt)⟩
      obtain ⟨bb, cap, cur, hv, hbb, hbl, hnc, hmx, _, _, hat⟩ := own_some HR.out (by omega)
      cases hv
      simp only [maxLen] at hmx
      obtain ⟨x1, x2⟩ := cmv_at R j _ hx
      simp only at x1 x2
      have hcur := HR.out
      have hlb : bb < w.heap.size := (Array.getElem?_eq_some_iff.1 hbl).1
      have HD := Lib.hid (fun (y : World) (hy : Below w.heap.size w y) => show y.cell? ⟨bb, j * 2, none⟩ = some (.bool tu) ∧ y.cell? ⟨bb, j * 2 + 1, none⟩ = some (.string (strOfNums l)) from
        ⟨(hy.cell (p := ⟨bb, j * 2, none⟩) hlb).trans ((own_cell hcur (by omega)).trans x1), (hy.cell (p := ⟨bb, j * 2 + 1, none⟩) hlb).trans ((own_cell hcur (by omega)).trans x2)⟩)
      have HNX := Lib.hid (show tlF sz (R.take (j + 1)) = tlS sz s (tu, l) by rw [tlF_succ sz hx, HS.out])
      have HLK := Lib.hid (HBK.out _ (List.mem_of_getElem? hx))
      have HFK := Lib.hid (show Bok s.f by rw [HS.out]; exact HFO.out j)
      simp only at HLK
      have hjn : (j : Int) < (N : Int) := by omega
      obtain ⟨st, sh, sf, sv, ss⟩ := s
      simp only at HNX HFK ⊢
      obtain ⟨c0, c1⟩ := HD.out _ HB.out
      clear hx x1 x2 hcur hat hbl hnc
      have hlz := str_lenU l
      by_cases hln : l.length = sz
      · have hz1 : (((strOfNums l).size : Int) == (sz : Int)) = true := by rw [hlz]; simp; omega
        by_cases hht : sh = tu
        · subst hht
          cases sh with
          | false =>
            have HN2 := Lib.hid (show tlF sz (R.take (j + 1)) = ⟨1, true, l, sv, ss⟩ by rw [HNX.out]; unfold tlS; rw [if_neg (by simpa using hln), if_neg (by simp), if_pos rfl])
            clear hlz hln
            go_wp2_with fail
            exact ⟨⟨j + 1, ⟨1, true, l, sv, ss⟩, by omega, rfl, rfl, rfl, rfl, rfl, by go_num, Lib.hid HN2.out.symm, HB⟩, by simp [intOf]; omega⟩
          | true =>
            have hEQ : tlF sz (R.take (j + 1)) = if flipL sf = l then ⟨2, false, sf, sf, true⟩ else ⟨5, false, sf, sv, ss⟩ := by rw [HNX.out]; unfold tlS; rw [if_neg (by simpa using hln), if_neg (by simp), if_neg (by simp)]
            have HN2 := Lib.hid hEQ
            obtain ⟨cc, w3, hrun, hB3, hb3⟩ := to_bytes wr.drew sf HFK.out.1 (by have := HFK.out.2; omega)
            have HB3 := Lib.hid (kF hb3 (kF (kD wr) HB.out))
            have HFL := Lib.hid (rflip_any w3 _ _ _ _ hB3 (by have := HFK.out.2; omega))
            unfold FlipPost at HFL
            have hse := str_eq (flipL_range HFK.out.1) HLK.out.1
            obtain ⟨FF, hFF⟩ : ∃ f, flipL sf = f := ⟨_, rfl⟩
            rw [hFF] at HFL HN2 hse
            obtain ⟨G, hG⟩ : ∃ G : Bool, decide (FF = l) = G := ⟨_, rfl⟩
            rw [hG] at hse
            have HG := Lib.hid hG
            obtain ⟨SL, hSL⟩ : ∃ q, strOfNums l = q := ⟨_, rfl⟩
            obtain ⟨SF, hSF⟩ : ∃ q, strOfNums sf = q := ⟨_, rfl⟩
            obtain ⟨SG, hSG⟩ : ∃ q, strOfNums FF = q := ⟨_, rfl⟩
            have HSG := Lib.hid hSG
            have HSF := Lib.hid hSF
            rw [hSL] at c1 HD hz1
            rw [hSF] at hrun ⊢
            rw [hSL, hSG] at hse
            have e1 : wr.drew.cell? ⟨bb, j * 2 + 1, none⟩ = some (.string SL) := c1
            obtain ⟨sfn, hsfn⟩ : ∃ q, sf.length = q := ⟨_, rfl⟩
            rw [hsfn] at HFL hrun
            clear hEQ hB3 hb3 hFF hG hSL hSF hSG hlz hln hsfn
            go_upto_region 18 with fail
            cases G with
            | true =>
              have hse2 : (SG.toList != SL.toList) = false := by simp only [bne, hse]; rfl
              refine wp_region_last (fun y => y.cell? ⟨bb, j * 2 + 1, none⟩ = some (.string SL)) 10 (by kernel_rfl) e1 (fun hHeld => ?_)
              refine wpAnyL_take (i := 0) (v := ?_) rfl (by kernel_rfl) (by kernel_rfl) (by kernel_rfl) (by kernel_rfl) (by kernel_rfl) (fun _ _ _ h => h) (Or.inl ⟨by rfl, ?_⟩) (by assumption) ?_
              rotate_left
              · intro wq hSw; (try dsimp only at hSw); first | (go_simp; done) | (go_simp; with_reducible rfl) | with_reducible rfl
              go_simp
              refine wpAnyL_take (i := 4) (v := ?_) rfl (by kernel_rfl) (by kernel_rfl) (by kernel_rfl) (by kernel_rfl) (by kernel_rfl) (fun _ _ _ h => h) (Or.inl ⟨by rfl, ?_⟩) (by assumption) ?_
              rotate_left
              · intro wq hSw; (try dsimp only at hSw); first | (go_simp; done) | (go_simp; with_reducible rfl) | with_reducible rfl
              go_simp
              refine wpAnyL_take (i := 5) (v := ?_) rfl (by kernel_rfl) (by kernel_rfl) (by kernel_rfl) (by kernel_rfl) (by kernel_rfl) (fun _ _ _ h => h) (Or.inl ⟨by rfl, ?_⟩) (by assumption) ?_
              rotate_left
              · intro wq hSw; (try dsimp only at hSw); first | (go_simp; done) | (go_simp; with_reducible rfl) | with_reducible rfl
              go_simp
              refine wpAnyL_take (i := 6) (v := ?_) rfl (by kernel_rfl) (by kernel_rfl) (by kernel_rfl) (by kernel_rfl) (by kernel_rfl) (fun _ _ _ h => h) (Or.inl ⟨by rfl, ?_⟩) (by assumption) ?_
              rotate_left
              · intro wq hSw; (try dsimp only at hSw); first | (go_simp; done) | (go_simp; with_reducible rfl) | with_reducible rfl
              go_simp
              refine wpAnyL_take (i := 7) (v := ?_) rfl (by kernel_rfl) (by kernel_rfl) (by kernel_rfl) (by kernel_rfl) (by kernel_rfl) (fun _ _ _ h => h) (Or.inl ⟨by rfl, ?_⟩) (by assumption) ?_
              rotate_left
              · intro wq hSw; (try dsimp only at hSw); first | (go_simp; done) | (go_simp; with_reducible rfl) | with_reducible rfl
              go_simp
              refine wpAnyL_take (i := 8) (v := ?_) rfl (by kernel_rfl) (by kernel_rfl) (by kernel_rfl) (by kernel_rfl) (by kernel_rfl) (fun _ _ _ h => h) (Or.inl ⟨by rfl, ?_⟩) (by assumption) ?_
              rotate_left
              · intro wq hSw; (try dsimp only at hSw); first | (go_simp; done) | (go_simp; with_reducible rfl) | with_reducible rfl
              go_simp
              refine wpAnyL_ready (rs := [1]) (by kernel_rfl) (by simp) ?_
              refine (AllReadyL.cons rfl (fun K hK => ?_) AllReadyL.nil)
              go_simp
              refine hK.out _ _ ?_ (fun hHeld => ?_)
              · (try dsimp only); exact (HD.out _ HB3.out).2
              clear hK K
              refine wpAnyL_ready (rs := [2]) (by kernel_rfl) (by simp) ?_
              refine (AllReadyL.cons rfl (fun K hK => ?_) AllReadyL.nil)
              go_simp
              go_wp2_with fail
              refine HFL.out.mono ?_
              rintro e w4 ⟨A4, c4, rfl, y4, b4⟩
              have hst4 := run_str 22 5 Try.underlying22 Try.underlying5 y4 9 Try.underlying9
              rw [HSG.out] at hst4
              have HB4 := Lib.hid (kF b4 HB3.out)
              clear y4 b4
              refine hK.out _ _ ?_ (fun hHeld => ?_)
              · (try dsimp only); exact (HD.out _ HB4.out).2
              clear hK K
              refine wpAnyL_ready (rs := [3]) (by kernel_rfl) (by simp) ?_
              refine (AllReadyL.cons rfl (fun K hK => ?_) AllReadyL.nil)
              go_simp
              refine hK.out _ _ ?_ (fun hHeld => ?_)
              · (try dsimp only); exact (HD.out _ HB4.out).2
              clear hK K
              refine wpAnyL_take (i := 9) (v := ?_) rfl (by kernel_rfl) (by kernel_rfl) (by kernel_rfl) (by kernel_rfl) (by kernel_rfl) (fun _ _ _ h => h) (Or.inl ⟨by rfl, ?_⟩) (by assumption) ?_
              rotate_left
              · intro wq hSw; (try dsimp only at hSw); first | (go_simp; done) | (go_simp; with_reducible rfl) | with_reducible rfl
              go_simp
              refine wpAnyL_ready (rs := [10]) (by kernel_rfl) (by simp) ?_
              refine AllReadyL.last rfl (fun K hK => ?_)
              go_simp
              refine hK.out _ _ ?_
              clear hK K
              refine wpAnyL_done (by kernel_rfl) ?_ _
              clear hHeld
              go_wp2_with fail
              have hN3 : tlF sz (R.take (j + 1)) = ⟨2, false, sf, sf, true⟩ := by rw [HN2.out, if_pos (of_decide_eq_true HG.out)]
              exact ⟨⟨j + 1, ⟨2, false, sf, sf, true⟩, by omega, rfl, by rw [← HSF.out], rfl, rfl, by rw [← HSF.out], by go_num, Lib.hid hN3.symm, HB4⟩, by simp [intOf]; omega⟩
            | false =>
              have hse2 : (SG.toList != SL.toList) = true := by simp only [bne, hse]; rfl
              refine wp_region_last (fun y => y.cell? ⟨bb, j * 2 + 1, none⟩ = some (.string SL)) 10 (by kernel_rfl) e1 (fun hHeld => ?_)
              refine wpAnyL_take (i := 0) (v := ?_) rfl (by kernel_rfl) (by kernel_rfl) (by kernel_rfl) (by kernel_rfl) (by kernel_rfl) (fun _ _ _ h => h) (Or.inl ⟨by rfl, ?_⟩) (by assumption) ?_
              rotate_left
              · intro wq hSw; (try dsimp only at hSw); first | (go_simp; done) | (go_simp; with_reducible rfl) | with_reducible rfl
              go_simp
              refine wpAnyL_take (i := 4) (v := ?_) rfl (by kernel_rfl) (by kernel_rfl) (by kernel_rfl) (by kernel_rfl) (by kernel_rfl) (fun _ _ _ h => h) (Or.inl ⟨by rfl, ?_⟩) (by assumption) ?_
              rotate_left
              · intro wq hSw; (try dsimp only at hSw); first | (go_simp; done) | (go_simp; with_reducible rfl) | with_reducible rfl
              go_simp
              refine wpAnyL_take (i := 5) (v := ?_) rfl (by kernel_rfl) (by kernel_rfl) (by kernel_rfl) (by kernel_rfl) (by kernel_rfl) (fun _ _ _ h => h) (Or.inl ⟨by rfl, ?_⟩) (by assumption) ?_
              rotate_left
              · intro wq hSw; (try dsimp only at hSw); first | (go_simp; done) | (go_simp; with_reducible rfl) | with_reducible rfl
              go_simp
              refine wpAnyL_take (i := 6) (v := ?_) rfl (by kernel_rfl) (by kernel_rfl) (by kernel_rfl) (by kernel_rfl) (by kernel_rfl) (fun _ _ _ h => h) (Or.inl ⟨by rfl, ?_⟩) (by assumption) ?_
              rotate_left
              · intro wq hSw; (try dsimp only at hSw); first | (go_simp; done) | (go_simp; with_reducible rfl) | with_reducible rfl
              go_simp
              refine wpAnyL_take (i := 7) (v := ?_) rfl (by kernel_rfl) (by kernel_rfl) (by kernel_rfl) (by kernel_rfl) (by kernel_rfl) (fun _ _ _ h => h) (Or.inl ⟨by rfl, ?_⟩) (by assumption) ?_
              rotate_left
              · intro wq hSw; (try dsimp only at hSw); first | (go_simp; done) | (go_simp; with_reducible rfl) | with_reducible rfl
              go_simp
              refine wpAnyL_take (i := 8) (v := ?_) rfl (by kernel_rfl) (by kernel_rfl) (by kernel_rfl) (by kernel_rfl) (by kernel_rfl) (fun _ _ _ h => h) (Or.inl ⟨by rfl, ?_⟩) (by assumption) ?_
              rotate_left
              · intro wq hSw; (try dsimp only at hSw); first | (go_simp; done) | (go_simp; with_reducible rfl) | with_reducible rfl
              go_simp
              refine wpAnyL_ready (rs := [1]) (by kernel_rfl) (by simp) ?_
              refine (AllReadyL.cons rfl (fun K hK => ?_) AllReadyL.nil)
              go_simp
              refine hK.out _ _ ?_ (fun hHeld => ?_)
              · (try dsimp only); exact (HD.out _ HB3.out).2
              clear hK K
              refine wpAnyL_ready (rs := [2]) (by kernel_rfl) (by simp) ?_
              refine (AllReadyL.cons rfl (fun K hK => ?_) AllReadyL.nil)
              go_simp
              go_wp2_with fail
              refine HFL.out.mono ?_
              rintro e w4 ⟨A4, c4, rfl, y4, b4⟩
              have hst4 := run_str 22 5 Try.underlying22 Try.underlying5 y4 9 Try.underlying9
              rw [HSG.out] at hst4
              have HB4 := Lib.hid (kF b4 HB3.out)
              clear y4 b4
              refine hK.out _ _ ?_ (fun hHeld => ?_)
              · (try dsimp only); exact (HD.out _ HB4.out).2
              clear hK K
              refine wpAnyL_ready (rs := [3]) (by kernel_rfl) (by simp) ?_
              refine (AllReadyL.cons rfl (fun K hK => ?_) AllReadyL.nil)
              go_simp
              refine hK.out _ _ ?_ (fun hHeld => ?_)
              · (try dsimp only); exact (HD.out _ HB4.out).2
              clear hK K
              refine wpAnyL_take (i := 9) (v := ?_) rfl (by kernel_rfl) (by kernel_rfl) (by kernel_rfl) (by kernel_rfl) (by kernel_rfl) (fun _ _ _ h => h) (Or.inl ⟨by rfl, ?_⟩) (by assumption) ?_
              rotate_left
              · intro wq hSw; (try dsimp only at hSw); first | (go_simp; done) | (go_simp; with_reducible rfl) | with_reducible rfl
              go_simp
              refine wpAnyL_ready (rs := [10]) (by kernel_rfl) (by simp) ?_
              refine AllReadyL.last rfl (fun K hK => ?_)
              go_simp
              refine hK.out _ _ ?_
              clear hK K
              refine wpAnyL_done (by kernel_rfl) ?_ _
              clear hHeld
              go_wp2_with fail
              have hN3 : tlF sz (R.take (j + 1)) = ⟨5, false, sf, sv, ss⟩ := by rw [HN2.out, if_neg (of_decide_eq_false HG.out)]
              exact ⟨⟨j + 1, ⟨5, false, sf, sv, ss⟩, by omega, rfl, rfl, rfl, rfl, by rw [← HSF.out], by go_num, Lib.hid hN3.symm, HB4⟩, by simp [intOf]; omega⟩
        · have HN2 := Lib.hid (show tlF sz (R.take (j + 1)) = ⟨3, false, sf, sv, ss⟩ by rw [HNX.out]; unfold tlS; rw [if_neg (by simpa using hln), if_pos hht])
          have hcs : (sh = false ∧ tu = true) ∨ (sh = true ∧ tu = false) := by cases sh <;> cases tu <;> first | exact .inl ⟨rfl, rfl⟩ | exact .inr ⟨rfl, rfl⟩ | exact absurd rfl hht
          clear hht hlz hln
          rcases hcs with ⟨rfl, rfl⟩ | ⟨rfl, rfl⟩
          all_goals
            go_wp2_with fail
            exact ⟨⟨j + 1, ⟨3, false, sf, sv, ss⟩, by omega, rfl, rfl, rfl, rfl, rfl, by go_num, Lib.hid HN2.out.symm, HB⟩, by simp [intOf]; omega⟩
      · have hz1 : (((strOfNums l).size : Int) == (sz : Int)) = false := by rw [hlz]; simp; omega
        have HN2 := Lib.hid (show tlF sz (R.take (j + 1)) = ⟨4, false, sf, sv, ss⟩ by rw [HNX.out]; unfold tlS; rw [if_pos hln])
        clear hlz hln
        go_wp2_with fail
        exact ⟨⟨j + 1, ⟨4, false, sf, sv, ss⟩, by omega, rfl, rfl, rfl, rfl, rfl, by go_num, Lib.hid HN2.out.symm, HB⟩, by simp [intOf]; omega⟩
    · obtain rfl : j = N := by omega
      go_wp2_with fail
      exact bodyPost_ret (results_tmp3 rfl _ _ _) rfl ⟨by rw [← HS.out]; rfl, HB.out⟩
end Go.Proofs.Ytbefejieinfdlaa
