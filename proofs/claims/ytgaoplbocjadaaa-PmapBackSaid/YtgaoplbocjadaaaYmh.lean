/- PmapPacks: the walk. -/
import Derived.Test.YtgaoplbocjadaaaYmf
import Derived.Test.YtgaoplbocjadaaaYmg
namespace Go.Proofs.Ytgaoplbocjadaaa
open Go.RowKit
set_option linter.unusedSimpArgs false
set_option linter.unusedVariables false
theorem Els.take {D : Type} {C : World → Nat → Nat → D → Prop} {k : Nat} {w : World} {B : Nat} {A : Option Addr} {n c m : Nat} {fs : Nat → D} (h : Els C k w B A n c fs) (hm : m ≤ n) : Els C k w B A m c fs :=
  ⟨Nat.le_trans hm h.cap, h.max, fun h0 => by
    obtain ⟨b, off, e, hlt, hc⟩ := h.cells (by omega)
    exact ⟨b, off, e, hlt, fun i hi => hc i (by omega)⟩⟩
theorem Els.lowB {w w' : World} {n c : Nat} {A : Option Addr} {fs : Nat → BsV} (h : Els BsC 1 w w.heap.size A n c fs) (hb : Below w.heap.size w w') : Els BsC 1 w' w'.heap.size A n c fs :=
  ⟨h.cap, h.max, fun h0 => by
    obtain ⟨b, off, e, hlt, hc⟩ := h.cells h0
    exact ⟨b, off, e, Nat.lt_of_lt_of_le hlt hb.size, fun i hi => (hc i hi).below hlt hb⟩⟩
set_option maxRecDepth 100000 in
set_option maxHeartbeats 8000000 in
theorem packs_walk (w : World) (A1 : Option Addr) (n1 c1 : Nat) (fs1 : Nat → BsV) (A2 : Option Addr) (n2 c2 : Nat) (fs2 : Nat → SlV) (h1 : Els BsC 1 w w.heap.size A1 n1 c1 fs1) (h2 : Els SlC 3 w w.heap.size A2 n2 c2 fs2) :
    Calls Try.prog 5 #[.slice A1 n1 c1, .slice A2 n2 c2] w fun e w' => e = .returned (.bool true) ∧ Below w.heap.size w w' := by
  have hcap := h2.cap
  have hmax := h2.max
  simp only [maxLen] at hmax
  obtain ⟨m, hm⟩ : ∃ m, m = min n2 12 := ⟨_, rfl⟩
  have hmI : min (n2 : Int) 12 = (m : Int) := by omega
  have hm2 : m ≤ n2 := by omega
  have hmc : m ≤ c2 := by omega
  have HL := Lib.hid (fun x (hx : Below w.heap.size w x) => (h2.take hm2).lowS hx)
  have HF := Lib.hid (filled_any w A1 n1 c1 fs1 h1)
  clear h1 h2 hm
  go_enter Try.func5, Try.ntmps5
  go_wp2_with fail
  have hf := HF.out
  unfold FillP at hf
  refine hf.mono ?_
  rintro e w1 ⟨B, g, T, R, ch, ch2, a, cR, rfl, hBB, hbo, -, -, hss, hb1⟩
  have hba : Below w1.heap.size w1 (w1.alloc (.cells #[.slice a R.length cR, .int .i64 ch2] 33)) := (Below.refl _ _).alloc (Nat.le_refl _) _
  have HBo := Lib.hid (hbo.below hba)
  have HB2 := Lib.hid (kF hba hb1)
  have HR2 : Hid (RBox (w1.alloc (.cells #[.slice a R.length cR, .int .i64 ch2] 33)) w1.heap.size a R.length cR ch2) := Lib.hid (heap_alloc_new w1 _)
  clear hf HF hbo hb1 hba hss hBB
  go_upto_region 3 with fail
  generalize w1.alloc (.cells #[.slice a R.length cR, .int .i64 ch2] 33) = w2 at *
  generalize w1.heap.size = gr at *
  have HPK := Lib.hid (pack_any (T := T) (ch := ch) HBo.out.dict HBo.out.tie.good (HL.out w2 HB2.out))
  have HRP := Lib.hid (fun x (hx : Below w2.heap.size w2 x) => rpack_any x B cR c2 a A2 T R ch2 fs2 m (own_below HBo.out.ref hx) HBo.out.tie (HL.out x (kF hx HB2.out)))
  have HCK := Lib.hid (fun x (hx : Below w2.heap.size w2 x) => dict_check (T := T) (HBo.out.dict.below hx) HBo.out.tie.good (HL.out x (kF hx HB2.out)))
  have HRC := Lib.hid (fun x (hx : Below w2.heap.size w2 x) => dict_rcheck (ch := ch2) HBo.out.ref HBo.out.tie (HL.out w2 HB2.out) x hx)
  have HSZ := Lib.hid (fun x (hx : Below w2.heap.size w2 x) => psize_any x A2 m c2 fs2 (HL.out x (kF hx HB2.out)))
  have HRS := Lib.hid (fun x (hx : Below w2.heap.size w2 x) => rsize25_any x A2 m c2 fs2 (HL.out x (kF hx HB2.out)))
  have HLN : Hid (pkE T fs2 m = 0 → ((pkL T fs2 m).length : Int) = szE fs2 m) := Lib.hid (fun h => by
    unfold pkE at h
    split at h
    · rename_i h0
      unfold pkL
      rw [if_pos h0, (chkE_sz HBo.out.tie.good h0).1]
    · exact absurd h (by decide))
  clear HBo HL
  have HPK2 := Lib.hid HPK.out
  unfold PackP at HPK2
  clear HPK
  generalize pkE T fs2 m = PE at *
  generalize pkL T fs2 m = PL at *
  generalize chkE (mapB T) fs2 m = CE at *
  generalize szE fs2 m = SE at *
  generalize R.length = N at *
  go_wp2_with fail
  refine HPK2.out.mono ?_
  rintro e w3 ⟨A3, n3, c3, rfl, hy3, hb3⟩
  have HY3 := Lib.hid hy3
  have HB3 := Lib.hid hb3
  have HR3 := Lib.hid (HR2.out.below hb3)
  clear hy3 hb3 HPK2 HR2
  obtain ⟨d0, d1⟩ := HR3.out.cells
  go_wp2_with fail
  refine (HRP.out w3 HB3.out).mono ?_
  rintro e w4 ⟨rfl, hb4⟩
  have HY4 := Lib.hid (HY3.out.step hb4)
  have HB4 := Lib.hid (kF hb4 HB3.out)
  have HR4 := Lib.hid (HR3.out.below hb4)
  have hn3 := HY3.out.len
  have HN3 : Hid (PE = 0 → (n3 : Int) = SE) := Lib.hid (fun h => by rw [← HLN.out h, hn3])
  clear hb4 HY3 HB3 HR3 HRP d0 d1 hn3 HLN
  go_upto_region 5 with fail
  have HSC := Lib.hid (fun (x : World) (hx : Below w4.heap.size w4 x) => show (x.cell? ⟨gr, 0, none⟩ = some (.slice a N cR) ∧ x.cell? ⟨gr, 1, none⟩ = some (.int .i64 ch2)) ∧ (convert 58 9 (.slice A3 n3 c3)).run Try.prog x = .ok (.string (strOfNums PL)) x from ⟨(HR4.out.below hx).cells, conv_any (HY4.out.step hx)⟩)
  have he1 : (CE != CE) = false := by simp
  have he2 : (SE != SE) = false := by simp
  have he3 : (PE != PE) = false := by simp
  generalize strOfNums PL = SS at *
  have he4 : (SS.toList == SS.toList) = true := by simp
  have he5 : (SS.toList != SS.toList) = false := by simp
  refine wp_region_last (fun y => Below w4.heap.size w4 y) 24 (by kernel_rfl) (kD _) (fun hHeld => ?_)
  have HBv0 := Lib.hid (kD w4)
  generalize w4.drew = v0 at *
  refine wpAnyL_take (i := 0) (v := ?_) rfl (by kernel_rfl) (by kernel_rfl) (by kernel_rfl) (by kernel_rfl) (by kernel_rfl) (fun _ _ _ h => h) (Or.inl ⟨by rfl, ?_⟩) (by assumption) ?_
  rotate_left
  · intro wq hSw; (try dsimp only at hSw); (try obtain ⟨⟨q0, q1⟩, q2⟩ := HSC.out wq hSw); first | (go_simp; done) | (go_simp; with_reducible rfl) | with_reducible rfl
  go_simp
  refine wpAnyL_take (i := 1) (v := ?_) rfl (by kernel_rfl) (by kernel_rfl) (by kernel_rfl) (by kernel_rfl) (by kernel_rfl) (fun _ _ _ h => h) (Or.inl ⟨by rfl, ?_⟩) (by assumption) ?_
  rotate_left
  · intro wq hSw; (try dsimp only at hSw); (try obtain ⟨⟨q0, q1⟩, q2⟩ := HSC.out wq hSw); first | (go_simp; done) | (go_simp; with_reducible rfl) | with_reducible rfl
  go_simp
  refine wpAnyL_take (i := 3) (v := ?_) rfl (by kernel_rfl) (by kernel_rfl) (by kernel_rfl) (by kernel_rfl) (by kernel_rfl) (fun _ _ _ h => h) (Or.inl ⟨by rfl, ?_⟩) (by assumption) ?_
  rotate_left
  · intro wq hSw; (try dsimp only at hSw); (try obtain ⟨⟨q0, q1⟩, q2⟩ := HSC.out wq hSw); first | (go_simp; done) | (go_simp; with_reducible rfl) | with_reducible rfl
  go_simp
  refine wpAnyL_take (i := 4) (v := ?_) rfl (by kernel_rfl) (by kernel_rfl) (by kernel_rfl) (by kernel_rfl) (by kernel_rfl) (fun _ _ _ h => h) (Or.inl ⟨by rfl, ?_⟩) (by assumption) ?_
  rotate_left
  · intro wq hSw; (try dsimp only at hSw); (try obtain ⟨⟨q0, q1⟩, q2⟩ := HSC.out wq hSw); first | (go_simp; done) | (go_simp; with_reducible rfl) | with_reducible rfl
  go_simp
  refine wpAnyL_ready (rs := [2]) (by kernel_rfl) (by simp) ?_
  refine (AllReadyL.cons rfl (fun K hK => ?_) AllReadyL.nil)
  go_simp
  go_wp2_with fail
  refine (HCK.out v0 (kF HBv0.out HB4.out)).mono ?_
  rintro e v1 ⟨rfl, hbz⟩
  have HBv1 := Lib.hid (kF hbz HBv0.out)
  clear hbz
  refine hK.out _ _ ?_ (fun hHeld => ?_)
  · (try dsimp only); exact HBv1.out
  clear hK K
  refine wpAnyL_ready (rs := [5]) (by kernel_rfl) (by simp) ?_
  refine (AllReadyL.cons rfl (fun K hK => ?_) AllReadyL.nil)
  go_simp
  go_wp2_with fail
  refine (HRC.out v1 (kF HBv1.out HB4.out)).mono ?_
  rintro e v2 ⟨rfl, hbz⟩
  have HBv2 := Lib.hid (kF hbz HBv1.out)
  clear hbz
  refine hK.out _ _ ?_ (fun hHeld => ?_)
  · (try dsimp only); exact HBv2.out
  clear hK K
  refine wpAnyL_take (i := 6) (v := .bool false) rfl (by kernel_rfl) (by kernel_rfl) (by kernel_rfl) (by kernel_rfl) (by kernel_rfl) (fun _ _ _ h => h) (Or.inl ⟨by rfl, ?_⟩) (by assumption) ?_
  · intro wq hSw; (try dsimp only at hSw); (try obtain ⟨⟨q0, q1⟩, q2⟩ := HSC.out wq hSw); first | (go_simp; done) | (go_simp; with_reducible rfl) | with_reducible rfl
  go_simp
  refine wpAnyL_take (i := 7) (v := ?_) rfl (by kernel_rfl) (by kernel_rfl) (by kernel_rfl) (by kernel_rfl) (by kernel_rfl) (fun _ _ _ h => h) (Or.inl ⟨by rfl, ?_⟩) (by assumption) ?_
  rotate_left
  · intro wq hSw; (try dsimp only at hSw); (try obtain ⟨⟨q0, q1⟩, q2⟩ := HSC.out wq hSw); first | (go_simp; done) | (go_simp; with_reducible rfl) | with_reducible rfl
  go_simp
  refine wpAnyL_take (i := 8) (v := ?_) rfl (by kernel_rfl) (by kernel_rfl) (by kernel_rfl) (by kernel_rfl) (by kernel_rfl) (fun _ _ _ h => h) (Or.inl ⟨by rfl, ?_⟩) (by assumption) ?_
  rotate_left
  · intro wq hSw; (try dsimp only at hSw); (try obtain ⟨⟨q0, q1⟩, q2⟩ := HSC.out wq hSw); first | (go_simp; done) | (go_simp; with_reducible rfl) | with_reducible rfl
  go_simp
  refine wpAnyL_take (i := 10) (v := ?_) rfl (by kernel_rfl) (by kernel_rfl) (by kernel_rfl) (by kernel_rfl) (by kernel_rfl) (fun _ _ _ h => h) (Or.inl ⟨by rfl, ?_⟩) (by assumption) ?_
  rotate_left
  · intro wq hSw; (try dsimp only at hSw); (try obtain ⟨⟨q0, q1⟩, q2⟩ := HSC.out wq hSw); first | (go_simp; done) | (go_simp; with_reducible rfl) | with_reducible rfl
  go_simp
  refine wpAnyL_ready (rs := [9]) (by kernel_rfl) (by simp) ?_
  refine (AllReadyL.cons rfl (fun K hK => ?_) AllReadyL.nil)
  go_simp
  go_wp2_with fail
  refine (HSZ.out v2 (kF HBv2.out HB4.out)).mono ?_
  rintro e v3 ⟨rfl, hbz⟩
  have HBv3 := Lib.hid (kF hbz HBv2.out)
  clear hbz
  refine hK.out _ _ ?_ (fun hHeld => ?_)
  · (try dsimp only); exact HBv3.out
  clear hK K
  refine wpAnyL_ready (rs := [11]) (by kernel_rfl) (by simp) ?_
  refine (AllReadyL.cons rfl (fun K hK => ?_) AllReadyL.nil)
  go_simp
  go_wp2_with fail
  refine (HRS.out v3 (kF HBv3.out HB4.out)).mono ?_
  rintro e v4 ⟨rfl, hbz⟩
  have HBv4 := Lib.hid (kF hbz HBv3.out)
  clear hbz
  refine hK.out _ _ ?_ (fun hHeld => ?_)
  · (try dsimp only); exact HBv4.out
  clear hK K
  refine wpAnyL_take (i := 12) (v := .bool false) rfl (by kernel_rfl) (by kernel_rfl) (by kernel_rfl) (by kernel_rfl) (by kernel_rfl) (fun _ _ _ h => h) (Or.inl ⟨by rfl, ?_⟩) (by assumption) ?_
  · intro wq hSw; (try dsimp only at hSw); (try obtain ⟨⟨q0, q1⟩, q2⟩ := HSC.out wq hSw); first | (go_simp; done) | (go_simp; with_reducible rfl) | with_reducible rfl
  go_simp
  refine wpAnyL_take (i := 13) (v := ?_) rfl (by kernel_rfl) (by kernel_rfl) (by kernel_rfl) (by kernel_rfl) (by kernel_rfl) (fun _ _ _ h => h) (Or.inl ⟨by rfl, ?_⟩) (by assumption) ?_
  rotate_left
  · intro wq hSw; (try dsimp only at hSw); (try obtain ⟨⟨q0, q1⟩, q2⟩ := HSC.out wq hSw); first | (go_simp; done) | (go_simp; with_reducible rfl) | with_reducible rfl
  go_simp
  refine wpAnyL_take (i := 14) (v := ?_) rfl (by kernel_rfl) (by kernel_rfl) (by kernel_rfl) (by kernel_rfl) (by kernel_rfl) (fun _ _ _ h => h) (Or.inl ⟨by rfl, ?_⟩) (by assumption) ?_
  rotate_left
  · intro wq hSw; (try dsimp only at hSw); (try obtain ⟨⟨q0, q1⟩, q2⟩ := HSC.out wq hSw); first | (go_simp; done) | (go_simp; with_reducible rfl) | with_reducible rfl
  go_simp
  refine wpAnyL_take (i := 15) (v := ?_) rfl (by kernel_rfl) (by kernel_rfl) (by kernel_rfl) (by kernel_rfl) (by kernel_rfl) (fun _ _ _ h => h) (Or.inl ⟨by rfl, ?_⟩) (by assumption) ?_
  rotate_left
  · intro wq hSw; (try dsimp only at hSw); (try obtain ⟨⟨q0, q1⟩, q2⟩ := HSC.out wq hSw); first | (go_simp; done) | (go_simp; with_reducible rfl) | with_reducible rfl
  go_simp
  refine wpAnyL_take (i := 16) (v := ?_) rfl (by kernel_rfl) (by kernel_rfl) (by kernel_rfl) (by kernel_rfl) (by kernel_rfl) (fun _ _ _ h => h) (Or.inl ⟨by rfl, ?_⟩) (by assumption) ?_
  rotate_left
  · intro wq hSw; (try dsimp only at hSw); (try obtain ⟨⟨q0, q1⟩, q2⟩ := HSC.out wq hSw); first | (go_simp; done) | (go_simp; with_reducible rfl) | with_reducible rfl
  go_simp
  refine wpAnyL_take (i := 17) (v := ?_) rfl (by kernel_rfl) (by kernel_rfl) (by kernel_rfl) (by kernel_rfl) (by kernel_rfl) (fun _ _ _ h => h) (Or.inl ⟨by rfl, ?_⟩) (by assumption) ?_
  rotate_left
  · intro wq hSw; (try dsimp only at hSw); (try obtain ⟨⟨q0, q1⟩, q2⟩ := HSC.out wq hSw); first | (go_simp; done) | (go_simp; with_reducible rfl) | with_reducible rfl
  go_simp
  refine wpAnyL_take (i := 18) (v := .bool false) rfl (by kernel_rfl) (by kernel_rfl) (by kernel_rfl) (by kernel_rfl) (by kernel_rfl) (fun _ _ _ h => h) (Or.inl ⟨by rfl, ?_⟩) (by assumption) ?_
  · intro wq hSw; (try dsimp only at hSw); (try obtain ⟨⟨q0, q1⟩, q2⟩ := HSC.out wq hSw); first | (go_simp; done) | (go_simp; with_reducible rfl) | with_reducible rfl
  go_simp
  refine wpAnyL_take (i := 19) (v := ?_) rfl (by kernel_rfl) (by kernel_rfl) (by kernel_rfl) (by kernel_rfl) (by kernel_rfl) (fun _ _ _ h => h) (Or.inl ⟨by rfl, ?_⟩) (by assumption) ?_
  rotate_left
  · intro wq hSw; (try dsimp only at hSw); (try obtain ⟨⟨q0, q1⟩, q2⟩ := HSC.out wq hSw); first | (go_simp; done) | (go_simp; with_reducible rfl) | with_reducible rfl
  go_simp
  refine wpAnyL_take (i := 20) (v := ?_) rfl (by kernel_rfl) (by kernel_rfl) (by kernel_rfl) (by kernel_rfl) (by kernel_rfl) (fun _ _ _ h => h) (Or.inl ⟨by rfl, ?_⟩) (by assumption) ?_
  rotate_left
  · intro wq hSw; (try dsimp only at hSw); (try obtain ⟨⟨q0, q1⟩, q2⟩ := HSC.out wq hSw); first | (go_simp; done) | (go_simp; with_reducible rfl) | with_reducible rfl
  go_simp
  refine wpAnyL_take (i := 21) (v := ?_) rfl (by kernel_rfl) (by kernel_rfl) (by kernel_rfl) (by kernel_rfl) (by kernel_rfl) (fun _ _ _ h => h) (Or.inl ⟨by rfl, ?_⟩) (by assumption) ?_
  rotate_left
  · intro wq hSw; (try dsimp only at hSw); (try obtain ⟨⟨q0, q1⟩, q2⟩ := HSC.out wq hSw); first | (go_simp; done) | (go_simp; with_reducible rfl) | with_reducible rfl
  go_simp
  refine wpAnyL_take (i := 22) (v := ?_) rfl (by kernel_rfl) (by kernel_rfl) (by kernel_rfl) (by kernel_rfl) (by kernel_rfl) (fun _ _ _ h => h) (Or.inl ⟨by rfl, ?_⟩) (by assumption) ?_
  rotate_left
  · intro wq hSw; (try dsimp only at hSw); (try obtain ⟨⟨q0, q1⟩, q2⟩ := HSC.out wq hSw); first | (go_simp; done) | (go_simp; with_reducible rfl) | with_reducible rfl
  go_simp
  refine wpAnyL_take (i := 23) (v := .bool false) rfl (by kernel_rfl) (by kernel_rfl) (by kernel_rfl) (by kernel_rfl) (by kernel_rfl) (fun _ _ _ h => h) (Or.inl ⟨by rfl, ?_⟩) (by assumption) ?_
  · intro wq hSw; (try dsimp only at hSw); (try obtain ⟨⟨q0, q1⟩, q2⟩ := HSC.out wq hSw); first | (go_simp; done) | (go_simp; with_reducible rfl) | with_reducible rfl
  go_simp
  refine wpAnyL_ready (rs := [24]) (by kernel_rfl) (by simp) ?_
  refine AllReadyL.last rfl (fun K hK => ?_)
  go_simp
  refine hK.out _ _ ?_
  clear hK K
  refine wpAnyL_done (by kernel_rfl) ?_ _
  clear hHeld
  have HB5 := Lib.hid (kF HBv4.out HB4.out)
  clear HSC HBv0 HBv1 HBv2 HBv3 HCK HRC HRS HR4 HY4
  have HE5 := Lib.hid (kF HB5.out HB2.out)
  have hba : Below v4.heap.size v4 (v4.alloc (.cells #[.int .i64 0, .int .i64 0, .int .i64 0] 26)) := (Below.refl _ _).alloc (Nat.le_refl _) _
  have HNP := Lib.hid (pack_nil _ _ 1 _ (els_one v4 0 0 0 26))
  have HBA := Lib.hid (kF hba HB5.out)
  clear hba
  go_wp2_with fail
  refine HNP.out.mono ?_
  rintro e w7 ⟨rfl, hb7⟩
  have HB7 := Lib.hid (kF hb7 HBA.out)
  clear hb7 HNP
  go_wp2_with fail
  refine (live25_any w7).mono ?_
  rintro e w8 ⟨rfl, hb8⟩
  have HB8 := Lib.hid (kF hb8 HB7.out)
  clear hb8
  by_cases hz : PE = 0
  · subst hz
    have hnz : ((n3 : Int) == SE) = true := by simp [HN3.out rfl]
    go_wp2_with fail
    refine (HSZ.out w8 HB8.out).mono ?_
    rintro e w9 ⟨rfl, hb9⟩
    have HB9 := Lib.hid (kF (kF hb9 HB8.out) HB2.out)
    clear hb9
    go_wp2_with fail
    go_ret
    exact ⟨rfl, HB9.out⟩
  · have hnz : (PE != 0) = true := by simp [hz]
    have HB9 := Lib.hid (kF HB8.out HB2.out)
    go_wp2_with fail
    go_ret
    exact ⟨rfl, HB9.out⟩
end Go.Proofs.Ytgaoplbocjadaaa
