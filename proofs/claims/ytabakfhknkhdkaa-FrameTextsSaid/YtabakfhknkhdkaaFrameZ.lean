/- What the document's Text answers. -/
import Derived.Test.YtabakfhknkhdkaaFrameY
namespace Go.Proofs.Ytabakfhknkhdkaa
open Go.RowKit

theorem app_nil (T : ByteArray) : T ++ strOfNums [] = T := by
  have : strOfNums [] = ByteArray.empty := rfl
  rw [this, ByteArray.append_empty]
theorem dtext_rtr (id n : Int) (d : Nat → Int) (w : World) (hv : Val id true n d) :
    Calls Try.prog 22 #[.agg #[.int .i64 id, .bool true, .int .i64 n, .int .u8 (d 0), .int .u8 (d 1), .int .u8 (d 2), .int .u8 (d 3), .int .u8 (d 4), .int .u8 (d 5), .int .u8 (d 6), .int .u8 (d 7)]] w fun e w' => e = .returned (.string (strOfNums (txL id true n d))) ∧ Below w.heap.size w w' := by
  have hf : FrAt (w.alloc (.cells #[.int .i64 id, .bool true, .int .i64 n, .int .u8 (d 0), .int .u8 (d 1), .int .u8 (d 2), .int .u8 (d 3), .int .u8 (d 4), .int .u8 (d 5), .int .u8 (d 6), .int .u8 (d 7)] 24)) w.heap.size id true n d := frame_new w id n true d
  have hb : Below w.heap.size w (w.alloc (.cells #[.int .i64 id, .bool true, .int .i64 n, .int .u8 (d 0), .int .u8 (d 1), .int .u8 (d 2), .int .u8 (d 3), .int .u8 (d 4), .int .u8 (d 5), .int .u8 (d 6), .int .u8 (d 7)] 24)) := (Below.refl _ _).alloc (Nat.le_refl _) _
  obtain ⟨hi0, hi1⟩ := chk_id hv.1
  obtain ⟨hl0, hl1⟩ := chk_len hv.1
  obtain ⟨SA, hSA⟩ : ∃ S : ByteArray, strOfNums [sg (id / 256)] = S := ⟨_, rfl⟩
  have zSA : SA.size = 1 := by rw [← hSA, strOfNums_size]; rfl
  have da : ∀ wr : World, (FrAt wr w.heap.size id true n d ∧ Below w.heap.size w wr) → Calls Try.prog 31 #[.int .i64 (id / 256)] wr fun e w' => e = .returned (.string SA) ∧ (FrAt w' w.heap.size id true n d ∧ Below w.heap.size w w') := fun wr h => (sign_any (id / 256) wr (by omega) (by omega)).mono fun e w' ⟨he, hb⟩ => ⟨by rw [he, hSA], h.1.below hb h.1.lt, h.2.trans (hb.mono h.2.size)⟩
  have DA := Lib.hid da
  have HSA := Lib.hid hSA
  clear da hSA
  obtain ⟨SB, hSB⟩ : ∃ S : ByteArray, strOfNums [sg (id / 16 % 16)] = S := ⟨_, rfl⟩
  have zSB : SB.size = 1 := by rw [← hSB, strOfNums_size]; rfl
  have db : ∀ wr : World, (FrAt wr w.heap.size id true n d ∧ Below w.heap.size w wr) → Calls Try.prog 31 #[.int .i64 (id / 16 % 16)] wr fun e w' => e = .returned (.string SB) ∧ (FrAt w' w.heap.size id true n d ∧ Below w.heap.size w w') := fun wr h => (sign_any (id / 16 % 16) wr (by omega) (by omega)).mono fun e w' ⟨he, hb⟩ => ⟨by rw [he, hSB], h.1.below hb h.1.lt, h.2.trans (hb.mono h.2.size)⟩
  have DB := Lib.hid db
  have HSB := Lib.hid hSB
  clear db hSB
  obtain ⟨SC, hSC⟩ : ∃ S : ByteArray, strOfNums [sg (id % 16)] = S := ⟨_, rfl⟩
  have zSC : SC.size = 1 := by rw [← hSC, strOfNums_size]; rfl
  have dc : ∀ wr : World, (FrAt wr w.heap.size id true n d ∧ Below w.heap.size w wr) → Calls Try.prog 31 #[.int .i64 (id % 16)] wr fun e w' => e = .returned (.string SC) ∧ (FrAt w' w.heap.size id true n d ∧ Below w.heap.size w w') := fun wr h => (sign_any (id % 16) wr (by omega) (by omega)).mono fun e w' ⟨he, hb⟩ => ⟨by rw [he, hSC], h.1.below hb h.1.lt, h.2.trans (hb.mono h.2.size)⟩
  have DC := Lib.hid dc
  have HSC := Lib.hid hSC
  clear dc hSC
  obtain ⟨SE, hSE⟩ : ∃ S : ByteArray, strOfNums [sg (n)] = S := ⟨_, rfl⟩
  have zSE : SE.size = 1 := by rw [← hSE, strOfNums_size]; rfl
  have de : ∀ wr : World, (FrAt wr w.heap.size id true n d ∧ Below w.heap.size w wr) → Calls Try.prog 31 #[.int .i64 (n)] wr fun e w' => e = .returned (.string SE) ∧ (FrAt w' w.heap.size id true n d ∧ Below w.heap.size w w') := fun wr h => (sign_any (n) wr (by omega) (by omega)).mono fun e w' ⟨he, hb⟩ => ⟨by rw [he, hSE], h.1.below hb h.1.lt, h.2.trans (hb.mono h.2.size)⟩
  have DE := Lib.hid de
  have HSE := Lib.hid hSE
  clear de hSE
  have htx : strOfNums (headL id) = SA ++ SB ++ SC ++ ⟨#[35]⟩ := by
    unfold headL
    rw [hex3, show [sg (id / 256 % 16), sg (id / 16 % 16), sg (id % 16)] ++ [35] = [sg (id / 256 % 16)] ++ [sg (id / 16 % 16)] ++ [sg (id % 16)] ++ [35] from rfl, str_app, str_app, str_app, show id / 256 % 16 = id / 256 by omega, HSA.out, HSB.out, HSC.out]
    rfl
  have HTX := Lib.hid htx
  have HF := Lib.hid hf
  have HB := Lib.hid hb
  have HV := Lib.hid hv
  clear hf hb hv htx
  have w1 : IntKind.i64.wrap (id.tdiv 256) = id / 256 := by rw [Int.tdiv_eq_ediv_of_nonneg hi0]; exact IntWalk.i64_in _ (by omega)
  have w2 : IntKind.i64.wrap (id.tdiv 16) = id / 16 := by rw [Int.tdiv_eq_ediv_of_nonneg hi0]; exact IntWalk.i64_in _ (by omega)
  have w3 : (id / 16).tmod 16 = id / 16 % 16 := Int.tmod_eq_emod_of_nonneg (by omega)
  have w4 : id.tmod 16 = id % 16 := Int.tmod_eq_emod_of_nonneg hi0
  go_enter Try.func22, Try.ntmps22
  go_wp2_with fail
  generalize (w.alloc _) = w0 at HF HB ⊢
  have h0 : FrAt w0.drew w.heap.size id true n d ∧ Below w.heap.size w w0.drew := ⟨HF.out, HB.out.drew⟩
  have k0 := h0.1.cells
  go_region_held3 (fun w' => w'.cell? ⟨w.heap.size, 0, none⟩ = some (.int .i64 id) ∧ w'.cell? ⟨w.heap.size, 1, none⟩ = some (.bool true) ∧ w'.cell? ⟨w.heap.size, 2, none⟩ = some (.int .i64 n) ∧ w'.cell? ⟨w.heap.size, 3, none⟩ = some (.int .u8 (d 0)) ∧ w'.cell? ⟨w.heap.size, 4, none⟩ = some (.int .u8 (d 1)) ∧ w'.cell? ⟨w.heap.size, 5, none⟩ = some (.int .u8 (d 2)) ∧ w'.cell? ⟨w.heap.size, 6, none⟩ = some (.int .u8 (d 3)) ∧ w'.cell? ⟨w.heap.size, 7, none⟩ = some (.int .u8 (d 4)) ∧ w'.cell? ⟨w.heap.size, 8, none⟩ = some (.int .u8 (d 5)) ∧ w'.cell? ⟨w.heap.size, 9, none⟩ = some (.int .u8 (d 6)) ∧ w'.cell? ⟨w.heap.size, 10, none⟩ = some (.int .u8 (d 7)))
    (first | exact k0 | exact k1 | exact k2 | exact k3)
    (first
    | (go_at_call 31
       (with_reducible refine (DA.out w0.drew h0).mono ?_)
       rintro e u1 ⟨rfl, h1⟩
       have k1 := h1.1.cells)
    | (go_at_call 31
       (with_reducible refine (DB.out u1 h1).mono ?_)
       rintro e u2 ⟨rfl, h2⟩
       have k2 := h2.1.cells)
    | (go_at_call 31
       (with_reducible refine (DC.out u2 h2).mono ?_)
       rintro e u3 ⟨rfl, h3⟩
       have k3 := h3.1.cells))
  have H3 := Lib.hid h3
  obtain ⟨c0, c1, c2, c3, c4, c5, c6, c7, c8, c9, c10⟩ := h3.1.cells
  clear k0 k1 k2 k3 h0 h1 h2 h3 HF HB
  have hbo : strOfNums (txL id true n d) = SA ++ SB ++ SC ++ ⟨#[35]⟩ ++ ⟨#[82]⟩ ++ SE := by
    have e : txL id true n d = headL id ++ [82] ++ [sg n] := by
      rw [tx_body, List.append_assoc]
      show headL id ++ 82 :: hexL 1 n = headL id ++ ([82] ++ [sg n])
      rw [hex1, show n % 16 = n by omega]; rfl
    rw [e, str_app, str_app, HTX.out, HSE.out]; rfl
  have HBO := Lib.hid hbo
  clear hbo
  go_wp2_with (go_at_call 31; refine (DE.out _ H3.out).mono ?_; rintro e u4 ⟨rfl, h4⟩)
  all_goals first | (exfalso; omega) | exact bodyPost_ret (results_tmp rfl _ _ _) rfl ⟨by rw [HBO.out]; rfl, h4.2⟩
set_option maxHeartbeats 1000000 in
theorem dtext_dat (id : Int) (k : Nat) (d : Nat → Int) (w : World) (hv : Val id false k d) :
    Calls Try.prog 22 #[.agg #[.int .i64 id, .bool false, .int .i64 (k : Int), .int .u8 (d 0), .int .u8 (d 1), .int .u8 (d 2), .int .u8 (d 3), .int .u8 (d 4), .int .u8 (d 5), .int .u8 (d 6), .int .u8 (d 7)]] w fun e w' => e = .returned (.string (strOfNums (txL id false k d))) ∧ Below w.heap.size w w' := by
  have hf : FrAt (w.alloc (.cells #[.int .i64 id, .bool false, .int .i64 (k : Int), .int .u8 (d 0), .int .u8 (d 1), .int .u8 (d 2), .int .u8 (d 3), .int .u8 (d 4), .int .u8 (d 5), .int .u8 (d 6), .int .u8 (d 7)] 24)) w.heap.size id false (k : Int) d := frame_new w id (k : Int) false d
  have hb : Below w.heap.size w (w.alloc (.cells #[.int .i64 id, .bool false, .int .i64 (k : Int), .int .u8 (d 0), .int .u8 (d 1), .int .u8 (d 2), .int .u8 (d 3), .int .u8 (d 4), .int .u8 (d 5), .int .u8 (d 6), .int .u8 (d 7)] 24)) := (Below.refl _ _).alloc (Nat.le_refl _) _
  obtain ⟨hi0, hi1⟩ := chk_id hv.1
  obtain ⟨hl0, hl1⟩ := chk_len hv.1
  obtain ⟨SA, hSA⟩ : ∃ S : ByteArray, strOfNums [sg (id / 256)] = S := ⟨_, rfl⟩
  have zSA : SA.size = 1 := by rw [← hSA, strOfNums_size]; rfl
  have da : ∀ wr : World, (FrAt wr w.heap.size id false (k : Int) d ∧ Below w.heap.size w wr) → Calls Try.prog 31 #[.int .i64 (id / 256)] wr fun e w' => e = .returned (.string SA) ∧ (FrAt w' w.heap.size id false (k : Int) d ∧ Below w.heap.size w w') := fun wr h => (sign_any (id / 256) wr (by omega) (by omega)).mono fun e w' ⟨he, hb⟩ => ⟨by rw [he, hSA], h.1.below hb h.1.lt, h.2.trans (hb.mono h.2.size)⟩
  have DA := Lib.hid da
  have HSA := Lib.hid hSA
  clear da hSA
  obtain ⟨SB, hSB⟩ : ∃ S : ByteArray, strOfNums [sg (id / 16 % 16)] = S := ⟨_, rfl⟩
  have zSB : SB.size = 1 := by rw [← hSB, strOfNums_size]; rfl
  have db : ∀ wr : World, (FrAt wr w.heap.size id false (k : Int) d ∧ Below w.heap.size w wr) → Calls Try.prog 31 #[.int .i64 (id / 16 % 16)] wr fun e w' => e = .returned (.string SB) ∧ (FrAt w' w.heap.size id false (k : Int) d ∧ Below w.heap.size w w') := fun wr h => (sign_any (id / 16 % 16) wr (by omega) (by omega)).mono fun e w' ⟨he, hb⟩ => ⟨by rw [he, hSB], h.1.below hb h.1.lt, h.2.trans (hb.mono h.2.size)⟩
  have DB := Lib.hid db
  have HSB := Lib.hid hSB
  clear db hSB
  obtain ⟨SC, hSC⟩ : ∃ S : ByteArray, strOfNums [sg (id % 16)] = S := ⟨_, rfl⟩
  have zSC : SC.size = 1 := by rw [← hSC, strOfNums_size]; rfl
  have dc : ∀ wr : World, (FrAt wr w.heap.size id false (k : Int) d ∧ Below w.heap.size w wr) → Calls Try.prog 31 #[.int .i64 (id % 16)] wr fun e w' => e = .returned (.string SC) ∧ (FrAt w' w.heap.size id false (k : Int) d ∧ Below w.heap.size w w') := fun wr h => (sign_any (id % 16) wr (by omega) (by omega)).mono fun e w' ⟨he, hb⟩ => ⟨by rw [he, hSC], h.1.below hb h.1.lt, h.2.trans (hb.mono h.2.size)⟩
  have DC := Lib.hid dc
  have HSC := Lib.hid hSC
  clear dc hSC
  have htx : strOfNums (headL id) = SA ++ SB ++ SC ++ ⟨#[35]⟩ := by
    unfold headL
    rw [hex3, show [sg (id / 256 % 16), sg (id / 16 % 16), sg (id % 16)] ++ [35] = [sg (id / 256 % 16)] ++ [sg (id / 16 % 16)] ++ [sg (id % 16)] ++ [35] from rfl, str_app, str_app, str_app, show id / 256 % 16 = id / 256 by omega, HSA.out, HSB.out, HSC.out]
    rfl
  have HTX := Lib.hid htx
  have HF := Lib.hid hf
  have HB := Lib.hid hb
  have HV := Lib.hid hv
  clear hf hb hv htx
  have w1 : IntKind.i64.wrap (id.tdiv 256) = id / 256 := by rw [Int.tdiv_eq_ediv_of_nonneg hi0]; exact IntWalk.i64_in _ (by omega)
  have w2 : IntKind.i64.wrap (id.tdiv 16) = id / 16 := by rw [Int.tdiv_eq_ediv_of_nonneg hi0]; exact IntWalk.i64_in _ (by omega)
  have w3 : (id / 16).tmod 16 = id / 16 % 16 := Int.tmod_eq_emod_of_nonneg (by omega)
  have w4 : id.tmod 16 = id % 16 := Int.tmod_eq_emod_of_nonneg hi0
  go_enter Try.func22, Try.ntmps22
  go_wp2_with fail
  generalize (w.alloc _) = w0 at HF HB ⊢
  have h0 : FrAt w0.drew w.heap.size id false (k : Int) d ∧ Below w.heap.size w w0.drew := ⟨HF.out, HB.out.drew⟩
  have k0 := h0.1.cells
  go_region_held3 (fun w' => w'.cell? ⟨w.heap.size, 0, none⟩ = some (.int .i64 id) ∧ w'.cell? ⟨w.heap.size, 1, none⟩ = some (.bool false) ∧ w'.cell? ⟨w.heap.size, 2, none⟩ = some (.int .i64 (k : Int)) ∧ w'.cell? ⟨w.heap.size, 3, none⟩ = some (.int .u8 (d 0)) ∧ w'.cell? ⟨w.heap.size, 4, none⟩ = some (.int .u8 (d 1)) ∧ w'.cell? ⟨w.heap.size, 5, none⟩ = some (.int .u8 (d 2)) ∧ w'.cell? ⟨w.heap.size, 6, none⟩ = some (.int .u8 (d 3)) ∧ w'.cell? ⟨w.heap.size, 7, none⟩ = some (.int .u8 (d 4)) ∧ w'.cell? ⟨w.heap.size, 8, none⟩ = some (.int .u8 (d 5)) ∧ w'.cell? ⟨w.heap.size, 9, none⟩ = some (.int .u8 (d 6)) ∧ w'.cell? ⟨w.heap.size, 10, none⟩ = some (.int .u8 (d 7)))
    (first | exact k0 | exact k1 | exact k2 | exact k3)
    (first
    | (go_at_call 31
       (with_reducible refine (DA.out w0.drew h0).mono ?_)
       rintro e u1 ⟨rfl, h1⟩
       have k1 := h1.1.cells)
    | (go_at_call 31
       (with_reducible refine (DB.out u1 h1).mono ?_)
       rintro e u2 ⟨rfl, h2⟩
       have k2 := h2.1.cells)
    | (go_at_call 31
       (with_reducible refine (DC.out u2 h2).mono ?_)
       rintro e u3 ⟨rfl, h3⟩
       have k3 := h3.1.cells))
  have H3 := Lib.hid h3
  have hts : (SA ++ SB ++ SC ++ (⟨#[35]⟩ : ByteArray)).size = 4 := by simp [zSA, zSB, zSC]; rfl
  generalize SA ++ SB ++ SC ++ (⟨#[35]⟩ : ByteArray) = T4 at HTX hts ⊢
  obtain ⟨c0, c1, c2, c3, c4, c5, c6, c7, c8, c9, c10⟩ := h3.1.cells
  clear k0 k1 k2 k3 h0 h1 h2 h3 HF HB DA DB DC HSA HSB HSC zSA zSB zSC w1 w2 w3 w4
  go_wp2_with fail
  clear c0 c1 c2 c3 c4 c5 c6 c7 c8 c9 c10
  go_loopw [4, 3] (fun x v wr => ∃ j : Nat, j ≤ k ∧ x = .int .i64 j ∧ v = .string (T4 ++ strOfNums (tailL (bL j d))) ∧ Hid (FrAt wr w.heap.size id false (k : Int) d ∧ Below w.heap.size w wr)) (fun x _ _ => k - (intOf x).toNat)
  case atStart => exact ⟨0, Nat.zero_le _, rfl, congrArg Value.string (app_nil T4).symm, H3⟩
  case round =>
    obtain ⟨j, hj, rfl, rfl, HR⟩ := hrel
    clear H3
    have zt : (strOfNums (tailL (bL j d))).size ≤ 16 := by rw [strOfNums_size, tailL_len, bL_len]; omega
    by_cases hlt : j < k
    · obtain ⟨hd0, hd1⟩ := HV.out.2 j (by omega)
      have hcb := HR.out.1.byte (i := j) (by omega)
      obtain ⟨c0, c1, c2, c3, c4, c5, c6, c7, c8, c9, c10⟩ := HR.out.1.cells
      clear c0 c1 c3 c4 c5 c6 c7 c8 c9 c10
      have hst : T4 ++ strOfNums (tailL (bL (j + 1) d)) = T4 ++ strOfNums (tailL (bL j d)) ++ strOfNums [sg (d j / 16)] ++ strOfNums [sg (d j % 16)] := by
        rw [bL_succ, tailL_snoc, str_app, hex2, show [sg (d j / 16 % 16), sg (d j % 16)] = [sg (d j / 16 % 16)] ++ [sg (d j % 16)] from rfl, str_app, show d j / 16 % 16 = d j / 16 by omega, ByteArray.append_assoc, ByteArray.append_assoc]
      generalize hqd : d j = q at hd0 hd1 hcb hst
      obtain ⟨SH, hSH⟩ : ∃ S : ByteArray, strOfNums [sg (q / 16)] = S := ⟨_, rfl⟩
      have zSH : SH.size = 1 := by rw [← hSH, strOfNums_size]; rfl
      have dh : ∀ wr : World, (FrAt wr w.heap.size id false (k : Int) d ∧ Below w.heap.size w wr) → Calls Try.prog 31 #[.int .i64 (q / 16)] wr fun e w' => e = .returned (.string SH) ∧ (FrAt w' w.heap.size id false (k : Int) d ∧ Below w.heap.size w w') := fun wr h => (sign_any (q / 16) wr (by omega) (by omega)).mono fun e w' ⟨he, hb⟩ => ⟨by rw [he, hSH], h.1.below hb h.1.lt, h.2.trans (hb.mono h.2.size)⟩
      have DH := Lib.hid dh
      have HSH := Lib.hid hSH
      clear dh hSH
      obtain ⟨SL, hSL⟩ : ∃ S : ByteArray, strOfNums [sg (q % 16)] = S := ⟨_, rfl⟩
      have zSL : SL.size = 1 := by rw [← hSL, strOfNums_size]; rfl
      have dl : ∀ wr : World, (FrAt wr w.heap.size id false (k : Int) d ∧ Below w.heap.size w wr) → Calls Try.prog 31 #[.int .i64 (q % 16)] wr fun e w' => e = .returned (.string SL) ∧ (FrAt w' w.heap.size id false (k : Int) d ∧ Below w.heap.size w w') := fun wr h => (sign_any (q % 16) wr (by omega) (by omega)).mono fun e w' ⟨he, hb⟩ => ⟨by rw [he, hSL], h.1.below hb h.1.lt, h.2.trans (hb.mono h.2.size)⟩
      have DL := Lib.hid dl
      have HSL := Lib.hid hSL
      clear dl hSL
      rw [HSH.out, HSL.out] at hst
      have zt2 : (T4 ++ strOfNums (tailL (bL j d))).size ≤ 20 := by rw [ByteArray.size_append]; omega
      generalize T4 ++ strOfNums (tailL (bL j d)) = TS at zt2 hst ⊢
      have q1 : ¬ (9223372036854775807 < TS.size + 1) := by omega
      have q2 : ¬ (9223372036854775807 < TS.size + 1 + 1) := by omega
      have HST := Lib.hid hst
      have w0 : IntKind.i64.wrap q = q := IntWalk.i64_in _ (by omega)
      have w1 : IntKind.i64.wrap (q.tdiv 16) = q / 16 := by rw [Int.tdiv_eq_ediv_of_nonneg hd0]; exact IntWalk.i64_in _ (by omega)
      have w2 : q.tmod 16 = q % 16 := Int.tmod_eq_emod_of_nonneg hd0
      have hj8 : (j : Int) < 8 := by omega
      have hj0 : (0 : Int) ≤ (j : Int) := by omega
      clear hst HSH HSL
      go_wp2_with fail
      have h0 : FrAt wr.drew w.heap.size id false (k : Int) d ∧ Below w.heap.size w wr.drew := ⟨HR.out.1, HR.out.2.drew⟩
      have k0 : wr.drew.cell? ⟨w.heap.size, 3 + j, none⟩ = some (.int .u8 q) := hcb
      go_region_held3 (fun w' => w'.cell? ⟨w.heap.size, 3 + j, none⟩ = some (.int .u8 q))
        (first | exact k0 | exact k1 | exact k2)
        (first
        | (go_at_call 31
           (with_reducible refine (DH.out wr.drew h0).mono ?_)
           rintro e u1 ⟨rfl, h1⟩
           have k1 := h1.1.byte (i := j) (by omega)
           rw [hqd] at k1)
        | (go_at_call 31
           (with_reducible refine (DL.out u1 h1).mono ?_)
           rintro e u2 ⟨rfl, h2⟩
           have k2 := h2.1.byte (i := j) (by omega)
           rw [hqd] at k2))
      have H2 := Lib.hid h2
      clear k0 k1 k2 h0 h1 h2
      go_wp2_with fail
      go_roundw
      case rel => exact ⟨j + 1, by omega, by go_num, by rw [HST.out], H2⟩
      case measure => simp [intOf]; omega
    · obtain rfl : j = k := by omega
      have hbo : strOfNums (txL id false (j : Int) d) = T4 ++ strOfNums (tailL (bL j d)) := by
        have e : txL id false (j : Int) d = headL id ++ tailL (bL j d) := by
          rw [tx_body]
          show headL id ++ tailL (bL (j : Int).toNat d) = _
          rw [Int.toNat_natCast]
        rw [e, str_app, HTX.out]
      have HBO := Lib.hid hbo
      obtain ⟨c0, c1, c2, c3, c4, c5, c6, c7, c8, c9, c10⟩ := HR.out.1.cells
      clear c0 c1 c3 c4 c5 c6 c7 c8 c9 c10 hbo
      go_wp2_with fail
      all_goals first | (exfalso; omega) | exact bodyPost_ret (results_tmp rfl _ _ _) rfl ⟨by rw [HBO.out]; rfl, HR.out.2⟩
end Go.Proofs.Ytabakfhknkhdkaa
