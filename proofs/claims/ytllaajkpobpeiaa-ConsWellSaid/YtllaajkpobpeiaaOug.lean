/- cons: what ConsWell's walk keeps; a taker's value; rows of three bytes that came in. -/
import Derived.Test.YtllaajkpobpeiaaOue
import Derived.OpenShut
import Derived.Lib.SmallJoins
import Derived.Deep.Slices
namespace Go.Proofs.Ytllaajkpobpeiaa
open Go.RowKit Go.Joins Go.ChangeShapes Go.WideShapes Go.Deep
set_option linter.unusedSimpArgs false
set_option linter.unusedVariables false

/-- At work, its blocks behind B. -/
def WlP (B : Nat) (y : World) (t : Nat) (TT GG : Int) (p : Option (List Int)) (v : List Int) (S F : Int) : Prop := ∃ k ck gd, TkW y t k ck gd 1 (tabC TT GG) p v S F ∧ (B ≤ ck ∧ B ≤ gd)
/-- What the walk keeps beside the taker. -/
structure WlK (w y : World) (tb fb gb : Nat) (TT GG b : Int) : Prop where
  ch : ChAt y tb (tabC TT GG)
  fr : TwAt y fb 257 258 1 (dOf [b]) (dOf (flipL [b]))
  byt : y.heap[gb]? = some (.cells #[.int .u8 b] 5 (0, 0))
  bel : Below w.heap.size w y
theorem TkW.blk {w w' : World} {t k ck gd sz : Nat} {x : ChV} {p : Option (List Int)} {v : List Int} {S F : Int} (h : TkW w t k ck gd sz x p v S F) (ho : Oth3 t ck gd w w') {q : Nat} {cs : Array Value} {ty : TypeId} {fr : Nat × Nat} (hq : w.heap[q]? = some (.cells cs ty fr)) (h1 : ¬ ty = 105) (h2 : ¬ ty = 138) (h3 : ¬ ty = 136) : w'.heap[q]? = some (.cells cs ty fr) := by
  obtain ⟨cc, hcc⟩ := h.cs.ty
  obtain ⟨gc, hgc⟩ := h.gs.ty
  exact (ho.oth _ (Array.getElem?_eq_some_iff.1 hq).1 (ne_ty hq h.tb h1) (ne_ty hq hcc h2) (ne_ty hq hgc h3)).trans hq
section
variable {w y y' : World} {t tb fb gb : Nat} {TT GG b S F now : Int} {p : Option (List Int)} {v : List Int}
theorem WlP.below (h : WlP w.heap.size y t TT GG p v S F) (hb : Below y.heap.size y y') : WlP w.heap.size y' t TT GG p v S F := by
  obtain ⟨k, ck, gd, hw, hcg⟩ := h
  exact ⟨k, ck, gd, hw.below hb, hcg⟩
theorem WlK.below (h : WlK w y tb fb gb TT GG b) (hb : Below y.heap.size y y') : WlK w y' tb fb gb TT GG b :=
  ⟨h.ch.below hb, h.fr.below hb, (hb.block _ (Array.getElem?_eq_some_iff.1 h.byt).1).trans h.byt, kF hb h.bel⟩
theorem WlK.oth {k ck gd : Nat} (h : WlK w y tb fb gb TT GG b) (hw : TkW y t k ck gd 1 (tabC TT GG) p v S F) (ho : Oth3 t ck gd y y') (htl : w.heap.size ≤ t) (hcg : w.heap.size ≤ ck ∧ w.heap.size ≤ gd) : WlK w y' tb fb gb TT GG b :=
  ⟨hw.chan ho h.ch, hw.blk ho h.fr (by decide) (by decide) (by decide), hw.blk ho h.byt (by decide) (by decide) (by decide), h.bel.trans (ho.bel _ htl hcg.1 hcg.2 h.bel.size)⟩
theorem WlK.own (h : WlK w y tb fb gb TT GG b) (hb : 0 ≤ b ∧ b ≤ 255) : Byt y y.heap.size (some ⟨gb, 0, none⟩) 1 1 [b] :=
  ⟨rfl, by omega, by simp [maxLen], by simpa using hb, fun _ => ⟨gb, 0, rfl, (Array.getElem?_eq_some_iff.1 h.byt).1, fun j hj => by
    obtain rfl : j = 0 := by omega
    rw [cell_of_row _ _ _ _ _ _ h.byt]; rfl⟩⟩
theorem WlK.mid1 (h : WlK w y tb fb gb TT GG b) : y.rangeAt fb 0 (frA 257 false ((1 : Nat) : Int) (dOf [b])).toList := h.fr.mid1
theorem WlK.mid2 (h : WlK w y tb fb gb TT GG b) : y.rangeAt fb 11 (frA 258 false ((1 : Nat) : Int) (dOf (flipL [b]))).toList := h.fr.mid2
theorem wl_begin (h : WlP w.heap.size y t TT GG p v S F) (hk : WlK w y tb fb gb TT GG b) (htl : w.heap.size ≤ t) (hT : 1 ≤ TT ∧ TT ≤ 65535) (hG : 1 ≤ GG ∧ GG ≤ 65535) (hn : 0 ≤ now ∧ now ≤ 2147483647) (hz : rcE TT GG S F now = 0) :
    Calls Try.prog 30 #[.pointer (some ⟨t, 0, none⟩), .int .i64 now, .bool true, .agg (chA (tabC TT GG))] y fun e w' => e = .returned (.int .i64 0) ∧ WlP w.heap.size w' t TT GG p v S F ∧ WlK w w' tb fb gb TT GG b := by
  obtain ⟨k, ck, gd, hw, hcg⟩ := h
  refine (same_no now (tabC TT GG) hw (chB_iff.2 rfl) (tabC_takes hT hG) hn hz).mono ?_
  rintro e w' ⟨rfl, hw', ho⟩
  exact ⟨rfl, ⟨k, ck, gd, hw', hcg⟩, hk.oth hw (.ot ho) htl hcg⟩
theorem wl_hear1 (h : WlP w.heap.size y t TT GG none v S F) (hk : WlK w y tb fb gb TT GG b) (htl : w.heap.size ≤ t) (hb : 0 ≤ b ∧ b ≤ 255) (hn : 0 ≤ now ∧ now ≤ 2147483647) (hS : 0 ≤ S) :
    Calls Try.prog 32 #[.pointer (some ⟨t, 0, none⟩), .int .i64 now, .agg (frA 257 false ((1 : Nat) : Int) (dOf [b]))] y fun e w' => e = .returned (.tuple #[.slice none 0 0, .int .i64 0]) ∧ WlP w.heap.size w' t TT GG (some [b]) v S now ∧ WlK w w' tb fb gb TT GG b := by
  obtain ⟨k, ck, gd, hw, hcg⟩ := h
  refine (hear1_first now b hw hb hn (.inl hS)).mono ?_
  rintro e w' ⟨rfl, hw', ho⟩
  rw [show hfF S F now = now from if_pos hS] at hw'
  exact ⟨rfl, ⟨k, ck, gd, hw', hcg⟩, hk.oth hw ho htl hcg⟩
theorem wl_hear2 (h : WlP w.heap.size y t TT GG (some [b]) v S F) (hk : WlK w y tb fb gb TT GG b) (htl : w.heap.size ≤ t) (hb : 0 ≤ b ∧ b ≤ 255) (hn : 0 ≤ now ∧ now ≤ 2147483647) (hS : 0 ≤ S) :
    Calls Try.prog 32 #[.pointer (some ⟨t, 0, none⟩), .int .i64 now, .agg (frA 258 false ((1 : Nat) : Int) (dOf (flipL [b])))] y fun e w' => ∃ A c, e = .returned (.tuple #[.slice A 1 c, .int .i64 0]) ∧ Byt w' w'.heap.size A 1 c [b] ∧ WlP w.heap.size w' t TT GG none [b] now (-1) ∧ WlK w w' tb fb gb TT GG b := by
  obtain ⟨k, ck, gd, hw, hcg⟩ := h
  refine (hear1_good now b hw hb hn (.inl hS)).mono ?_
  rintro e w' ⟨A, c, rfl, hy, hw', ho⟩
  rw [show whS S now = now from if_pos hS, show whF S F = -1 from if_pos hS] at hw'
  exact ⟨A, c, rfl, hy, ⟨k, ck, gd, hw', hcg⟩, hk.oth hw ho htl hcg⟩
set_option maxRecDepth 100000 in
theorem wl_value (h : WlP w.heap.size y t TT GG none [b] S F) : Calls Try.prog 35 #[.pointer (some ⟨t, 0, none⟩)] y fun e w' => ∃ A c, e = .returned (.tuple #[.slice A 1 c, .bool true]) ∧ Byt w' w'.heap.size A 1 c [b] ∧ Below y.heap.size y w' := by
  obtain ⟨k, ck, gd, hw, hcg⟩ := h
  obtain ⟨c0, c1, c2, c3, c4, c5⟩ := hw.cells
  have HWK := Lib.hid (works_yes hw)
  have HV := Lib.hid (valueU hw.cs)
  clear hw hcg
  go_enter Try.func35, Try.ntmps35
  go_wp2_with (first
    | (go_at_call 36; refine (HWK.out).mono ?_; rintro e w2 ⟨rfl, rfl⟩)
    | (go_at_call 66; refine (HV.out).mono ?_; rintro e w3 ⟨VA, vc, rfl, hy3, b3⟩; have HY3 := Lib.hid hy3; have HB3 := Lib.hid b3; clear hy3 b3))
  go_ret2
  exact ⟨VA, vc, rfl, HY3.out, HB3.out⟩
end
theorem wl_works {B : Nat} {y : World} {t : Nat} {TT GG S F : Int} {p : Option (List Int)} {v : List Int} (h : WlP B y t TT GG p v S F) : Calls Try.prog 36 #[.pointer (some ⟨t, 0, none⟩)] y fun e w' => e = .returned (.bool true) ∧ y = w' := by
  obtain ⟨k, ck, gd, hw, _⟩ := h
  exact works_yes hw
/-- At a tick k of a pair: what it waits behind. -/
def WlS (w y : World) (t : Nat) (TT GG N X Z b k : Int) : Prop := ∃ p v S F, WlP w.heap.size y t TT GG p v S F ∧ ((k ≤ X ∧ p = none ∧ S = N ∧ F = -1) ∨ (X < k ∧ k ≤ Z ∧ p = some [b] ∧ S = N ∧ F = N + X) ∨ (Z < k ∧ p = none ∧ v = [b] ∧ S = N + Z ∧ F = -1))
/-- Behind the plain frame. -/
def WlM (w y : World) (t : Nat) (TT GG N X b : Int) : Prop := ∃ v, WlP w.heap.size y t TT GG (some [b]) v N (N + X)
theorem rcw_zero {A B W F n : Int} (h0 : 0 ≤ W) (h : n ≤ W + A) (h2 : F < 0 ∨ n ≤ F + B) : rcE A B W F n = 0 := by
  unfold rcE
  rw [if_neg (show ¬ W < 0 by omega), if_neg (show ¬ W < n - A by omega), if_neg (show ¬ (0 ≤ F ∧ F < n - B) by omega)]
section
variable {w y y' : World} {t tb fb gb : Nat} {TT GG N X Z b k : Int}
theorem ws_begin (h : WlS w y t TT GG N X Z b k) (hK : WlK w y tb fb gb TT GG b) (htl : w.heap.size ≤ t) (hT : 1 ≤ TT ∧ TT ≤ 65535) (hG : 1 ≤ GG ∧ GG ≤ 65535) (hN : 0 ≤ N ∧ N ≤ 100000) (hk : 0 ≤ k ∧ k ≤ Z) (hX : 0 ≤ X) (hZA : Z ≤ TT) (hZB : Z ≤ X + GG) :
    Calls Try.prog 30 #[.pointer (some ⟨t, 0, none⟩), .int .i64 (N + k), .bool true, .agg (chA (tabC TT GG))] y fun e w' => e = .returned (.int .i64 0) ∧ WlS w w' t TT GG N X Z b k ∧ WlK w w' tb fb gb TT GG b := by
  obtain ⟨p, v, S, F, hp, hc⟩ := h
  have hz : rcE TT GG S F (N + k) = 0 := by
    rcases hc with ⟨h1, h2, rfl, rfl⟩ | ⟨h1, h2, h3, rfl, rfl⟩ | ⟨h1, h2, h3, rfl, rfl⟩
    · exact rcw_zero hN.1 (by omega) (.inl (by omega))
    · exact rcw_zero hN.1 (by omega) (.inr (by omega))
    · exfalso; omega
  refine (wl_begin hp hK htl hT hG (by omega) hz).mono ?_
  rintro e w' ⟨rfl, hp', hk'⟩
  exact ⟨rfl, ⟨p, v, S, F, hp', hc⟩, hk'⟩
theorem ws_hear1 (h : WlS w y t TT GG N X Z b k) (hK : WlK w y tb fb gb TT GG b) (htl : w.heap.size ≤ t) (hb : 0 ≤ b ∧ b ≤ 255) (hN : 0 ≤ N ∧ N ≤ 100000) (hk : 0 ≤ k ∧ k ≤ 1000) (hkx : k = X) (hXZ : X ≤ Z) :
    Calls Try.prog 32 #[.pointer (some ⟨t, 0, none⟩), .int .i64 (N + k), .agg (frA 257 false ((1 : Nat) : Int) (dOf [b]))] y fun e w' => e = .returned (.tuple #[.slice none 0 0, .int .i64 0]) ∧ WlM w w' t TT GG N X b ∧ WlK w w' tb fb gb TT GG b := by
  obtain ⟨p, v, S, F, hp, hc⟩ := h
  obtain ⟨rfl, rfl, rfl⟩ : p = none ∧ S = N ∧ F = -1 := by
    rcases hc with ⟨h1, h2, h3, h4⟩ | ⟨h1, h2, h3, h4, h5⟩ | ⟨h1, h2, h3, h4, h5⟩
    · exact ⟨h2, h3, h4⟩
    · exfalso; omega
    · exfalso; omega
  refine (wl_hear1 (now := S + k) hp hK htl hb (by omega) hN.1).mono ?_
  rintro e w' ⟨rfl, hp', hk'⟩
  rw [hkx] at hp'
  exact ⟨rfl, ⟨v, hp'⟩, hk'⟩
theorem ws_mid (h : WlS w y t TT GG N X Z b k) (h1 : X < k) (h2 : k ≤ Z) : WlM w y t TT GG N X b := by
  obtain ⟨p, v, S, F, hp, hc⟩ := h
  rcases hc with ⟨h1, _⟩ | ⟨_, _, rfl, rfl, rfl⟩ | ⟨h1, _⟩
  · exfalso; omega
  · exact ⟨v, hp⟩
  · exfalso; omega
theorem wm_next (h : WlM w y t TT GG N X b) (h1 : X < k) (h2 : k ≤ Z) : WlS w y t TT GG N X Z b k := by
  obtain ⟨v, hp⟩ := h
  exact ⟨_, v, _, _, hp, .inr (.inl ⟨h1, h2, rfl, rfl, rfl⟩)⟩
theorem wm_hear2 (h : WlM w y t TT GG N X b) (hK : WlK w y tb fb gb TT GG b) (htl : w.heap.size ≤ t) (hb : 0 ≤ b ∧ b ≤ 255) (hN : 0 ≤ N ∧ N ≤ 100000) (hk : 0 ≤ k ∧ k ≤ 1000) (hkz : k = Z) :
    Calls Try.prog 32 #[.pointer (some ⟨t, 0, none⟩), .int .i64 (N + k), .agg (frA 258 false ((1 : Nat) : Int) (dOf (flipL [b])))] y fun e w' => ∃ A c, e = .returned (.tuple #[.slice A 1 c, .int .i64 0]) ∧ Byt w' w'.heap.size A 1 c [b] ∧ WlS w w' t TT GG N X Z b (k + 1) ∧ WlK w w' tb fb gb TT GG b := by
  obtain ⟨v, hp⟩ := h
  refine (wl_hear2 (now := N + k) hp hK htl hb (by omega) hN.1).mono ?_
  rintro e w' ⟨A, c, rfl, hy, hp', hk'⟩
  exact ⟨A, c, rfl, hy, ⟨_, _, _, _, hp', .inr (.inr ⟨by omega, rfl, rfl, by omega, rfl⟩)⟩, hk'⟩
theorem ws_quiet (h : WlS w y t TT GG N X Z b k) (h1 : ¬ k = X) (h2 : k < Z) (h3 : X ≤ Z) : WlS w y t TT GG N X Z b (k + 1) := by
  obtain ⟨p, v, S, F, hp, hc⟩ := h
  refine ⟨p, v, S, F, hp, ?_⟩
  rcases hc with ⟨h4, h5⟩ | ⟨h4, h5, h6⟩ | ⟨h4, h5⟩
  · exact .inl ⟨by omega, h5⟩
  · exact .inr (.inl ⟨by omega, by omega, h6⟩)
  · exfalso; omega
theorem ws_end (h : WlS w y t TT GG N X Z b k) (h1 : Z < k) (h3 : X ≤ Z) : WlP w.heap.size y t TT GG none [b] (N + Z) (-1) := by
  obtain ⟨p, v, S, F, hp, hc⟩ := h
  rcases hc with ⟨h4, h5⟩ | ⟨h4, h5, h6⟩ | ⟨h4, rfl, rfl, rfl, rfl⟩
  · exfalso; omega
  · exfalso; omega
  · exact hp
theorem ws_start {v : List Int} (h : WlP w.heap.size y t TT GG none v N (-1)) (hX : 0 ≤ X) : WlS w y t TT GG N X Z b ((0 : Nat) : Int) := ⟨_, v, _, _, h, .inl ⟨by omega, rfl, rfl, rfl⟩⟩
theorem wl_make (hy : y.heap[gb]? = some (.cells #[.int .u8 b] 5 (0, 0))) (hb : 0 ≤ b ∧ b ≤ 255) :
    Calls Try.prog 41 #[.int .i64 257, .int .i64 258, .slice (some ⟨gb, 0, none⟩) 1 1] y fun e w' => ∃ g, e = .returned (.tuple #[.slice (some ⟨g, 0, none⟩) 2 2, .int .i64 0]) ∧ TwAt w' g 257 258 1 (dOf [b]) (dOf (flipL [b])) ∧ Below y.heap.size y w' := by
  have hB : Byt y y.heap.size (some ⟨gb, 0, none⟩) 1 1 [b] := ⟨rfl, by omega, by simp [maxLen], by simpa using hb, fun _ => ⟨gb, 0, rfl, (Array.getElem?_eq_some_iff.1 hy).1, fun j hj => by
    obtain rfl : j = 0 := by omega
    rw [cell_of_row _ _ _ _ _ _ hy]; rfl⟩⟩
  refine (dmake_ok 257 258 _ 1 1 [b] y hB (by omega) (chk_good (l := [b]) (by omega) (by omega) (by simp)) (chk_good (l := flipL [b]) (by omega) (by omega) (by simp [flipL]))).mono ?_
  rintro e w' ⟨g, _, rfl, hT, hb2⟩
  exact ⟨g, rfl, hT, hb2⟩
end
/-- Three bytes. -/
def ThC (w : World) (b o : Nat) (x : Int × Int × Int) : Prop := w.cell? ⟨b, o, none⟩ = some (.int .u8 x.1) ∧ w.cell? ⟨b, o + 1, none⟩ = some (.int .u8 x.2.1) ∧ w.cell? ⟨b, o + 2, none⟩ = some (.int .u8 x.2.2) ∧ (0 ≤ x.1 ∧ x.1 ≤ 255) ∧ (0 ≤ x.2.1 ∧ x.2.1 ≤ 255) ∧ (0 ≤ x.2.2 ∧ x.2.2 ≤ 255)
theorem ThC.below {w w' : World} {B b o : Nat} {x : Int × Int × Int} (h : ThC w b o x) (hlt : b < B) (hb : Below B w w') : ThC w' b o x :=
  ⟨(hb.cell (p := ⟨b, _, none⟩) hlt).trans h.1, (hb.cell (p := ⟨b, _, none⟩) hlt).trans h.2.1, (hb.cell (p := ⟨b, _, none⟩) hlt).trans h.2.2.1, h.2.2.2⟩
abbrev ThsC (w : World) (B : Nat) (A : Option Addr) (n c : Nat) (fs : Nat → Int × Int × Int) : Prop := ElsJ ThC 3 w B A n c fs
theorem cells_u8W : Try.prog.cellsOf 5 = 1 := by kernel_rfl
theorem cells_threeW : Try.prog.cellsOf 91 = 3 := by kernel_rfl
theorem list3W {α : Type} {l : List α} (h : l.length = 3) : ∃ c0 c1 c2, l = [c0, c1, c2] := by
  match l, h with
  | [c0, c1, c2], _ => exact ⟨c0, c1, c2, rfl⟩
theorem thsC_of_trod {H : Type} {enc : TypeId × Value → H} {w : World} {fuel : Nat} {A : Option Addr} {n c : Nat} {x : DataW H × List MemPlace} (h : DataW.trod enc Try.prog w 0 (fun _ => true) true fuel 90 [.slice A n c] = some x) : ∃ fs, ThsC w w.heap.size A n c fs :=
  els_of_trodJ Try.underlying90 cells_threeW (by omega) ((0 : Int), (0 : Int), (0 : Int)) ThC (fun fuel cs x b o hf hl hc => by
    obtain ⟨c0, c1, c2, rfl⟩ := list3W hl
    obtain ⟨xs, m3, _, _, _, hlen, hall⟩ := DataW.trod_array Try.underlying91 hf
    simp only [cells_u8W] at hall
    have hb : ∀ i, i < 3 → ∃ b, ((([c0, c1, c2] : List Value).drop i).take 1) = [.int .u8 b] ∧ 0 ≤ b ∧ b ≤ 255 := fun i hi => by
      have h := hall i hi
      rw [List.getElem?_eq_getElem (show i < xs.length by omega)] at h
      obtain ⟨b, e, _, wb⟩ := DataW.trod_int Try.underlying5 h
      have := bounds_u8 wb
      exact ⟨b, by simpa using e, by omega, by omega⟩
    obtain ⟨b0, g0, i0⟩ := hb 0 (by omega)
    obtain ⟨b1, g1, i1⟩ := hb 1 (by omega)
    obtain ⟨b2, g2, i2⟩ := hb 2 (by omega)
    simp at g0 g1 g2
    subst g0 g1 g2
    exact ⟨(b0, b1, b2), hc 0 (by omega), hc 1 (by omega), hc 2 (by omega), i0, i1, i2⟩) h
end Go.Proofs.Ytllaajkpobpeiaa
