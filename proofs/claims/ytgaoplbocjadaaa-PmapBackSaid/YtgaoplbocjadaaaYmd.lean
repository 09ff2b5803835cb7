/- Mappings: Pack of the program. -/
import Derived.Test.YtgaoplbocjadaaaYmc
import Derived.Test.YtgaoplbocjadaaaYWrdI
namespace Go.Proofs.Ytgaoplbocjadaaa
open Go.RowKit
set_option linter.unusedSimpArgs false
set_option linter.unusedVariables false
theorem str_app (l m : List Int) : strOfNums (l ++ m) = strOfNums l ++ strOfNums m := by
  have h := ByteArray.mk_append_mk (l.map fun n => UInt8.ofNat n.toNat) (m.map fun n => UInt8.ofNat n.toNat)
  unfold strOfNums
  rw [List.map_append]
  exact h.symm
theorem cell_u8 : (Try.prog.info? 5).map (·.size) = some 1 := by kernel_rfl
/-- Bytes are copied into a block. -/
theorem wp_copy_row {wr : World} {o : Oper} {a : Act} {K : Act → World → Prop} {Q : Exit → Act → World → Prop} {g off k k2 m c B T : Nat} {A : Option Addr} {l : List Int} {cur : Array Value} (s t : Operand)
    (ho : o.op = .call { callee := .builtin .copy, args := #[s, t], argTypes := #[58, 58] }) (hs : a.eval s = .slice (some ⟨g, off, none⟩) k k2) (ht : a.eval t = .slice A m c) (hB : Byt wr B A m c l)
    (h : wr.heap[g]? = some (.cells cur T (0, 0))) (hfit : off + k ≤ cur.size)
    (hK : ∀ w' cur', w'.heap[g]? = some (.cells cur' T (0, 0)) → cur'.size = cur.size → (∀ i, cur'[i]? = if off ≤ i ∧ i < off + min m k then some (.int .u8 (l.getD (i - off) 0)) else cur[i]?) → wr.grownBy w' (some g) → K (a.put o.dst (goInt ((min m k : Nat) : Int))) w') :
    o.wp Try.prog a wr K Q := by
  by_cases hm : min m k = 0
  · have hrun := run_copy_none (P := Try.prog) wr 58 58 o.type 5 (some ⟨g, off, none⟩) A k k2 m c Try.underlying58 cell_u8 (by omega)
    unfold Oper.wp
    simp [execOp, ho, resolve, invoke, builtin, hs, ht, hrun, Result.andThen]
    have := hK wr cur h rfl (fun i => by rw [if_neg (by omega)]) (World.grownBy.refl wr _)
    rw [hm] at this
    exact this
  · obtain ⟨b, bo, rfl, hb, hcell⟩ := hB.cells (by omega)
    have hlen := hB.len
    have hl8 : ((l.take k).map (Value.int .u8)).length = min m k := by simp [hlen, Nat.min_comm]
    have hrun := run_copy_rows (P := Try.prog) wr 58 58 o.type 5 1 g off k k2 (some ⟨b, bo, none⟩) m c (min m k) T ((l.take k).map (Value.int .u8)) cur Try.underlying58 cell_u8 rfl (by rw [hl8, Nat.mul_one]) h (by rw [hl8]; omega)
      ⟨⟨b, bo, none⟩, rfl, fun j v hv => by
        have hj : j < min m k := by rw [← hl8]; exact (List.getElem?_eq_some_iff.1 hv).1
        have : (⟨b, bo, none⟩ : Addr).add j = ⟨b, bo + j, none⟩ := by simp [Addr.add]
        rw [this, hcell j (by omega), ← hv]
        simp [show j < k by omega, List.getElem?_eq_getElem (show j < l.length by omega), List.getD]⟩
      (fun v hv => by simp only [List.mem_map] at hv; obtain ⟨x, _, rfl⟩ := hv; rfl)
    obtain ⟨cur', h1, h2, h3⟩ := setCells_blockR ((l.take k).map (Value.int .u8)) wr g off T (0, 0) cur h (by rw [hl8]; omega)
    have hg := setCells_grownR ((l.take k).map (Value.int .u8)) g off (World.grownBy.refl wr (some g))
    unfold Oper.wp
    simp [execOp, ho, resolve, invoke, builtin, hs, ht, hrun, Result.andThen]
    have := hK _ cur' h1 h2 (fun i => by
      rw [h3, hl8]
      by_cases hi : off ≤ i ∧ i < off + min m k
      · rw [if_pos hi, if_pos hi]
        simp [show i - off < k by omega, List.getElem?_eq_getElem (show i - off < l.length by omega), List.getD]
      · rw [if_neg hi, if_neg hi]) hg
    rw [List.map_take] at this
    exact this
def lnA (l : List Int) : Array Value := #[.int .u8 (l.getD 0 0), .int .u8 (l.getD 1 0), .int .u8 (l.getD 2 0), .int .u8 (l.getD 3 0), .int .u8 (l.getD 4 0), .int .u8 (l.getD 5 0), .int .u8 (l.getD 6 0), .int .u8 (l.getD 7 0)]
theorem lnA_at (l : List Int) {i : Nat} (h : i < 8) : (lnA l)[i]? = some (.int .u8 (l.getD i 0)) := by
  have : i = 0 ∨ i = 1 ∨ i = 2 ∨ i = 3 ∨ i = 4 ∨ i = 5 ∨ i = 6 ∨ i = 7 := by omega
  rcases this with rfl | rfl | rfl | rfl | rfl | rfl | rfl | rfl <;> rfl
theorem lnA_size (l : List Int) : (lnA l).size = 8 := rfl
theorem ln_app {l x : List Int} {k m : Nat} {cur' : Array Value} (hk : l.length = k) (hm : x.length = m) (h8 : k + m ≤ 8) (h2 : cur'.size = (lnA l).size) (h3 : ∀ i, cur'[i]? = if k ≤ i ∧ i < k + min m (8 - k) then some (.int .u8 (x.getD (i - k) 0)) else (lnA l)[i]?) : cur' = lnA (l ++ x) := by
  rw [lnA_size] at h2
  apply Array.ext_getElem?
  intro i
  rw [h3]
  by_cases hi : i < 8
  · rw [lnA_at _ hi, lnA_at _ hi]
    by_cases h1 : i < k
    · rw [if_neg (by omega)]
      simp [List.getD, List.getElem?_append_left (show i < l.length by omega)]
    · by_cases h4 : i < k + m
      · rw [if_pos (by omega)]
        simp [List.getD, List.getElem?_append_right (show l.length ≤ i by omega), hk]
      · rw [if_neg (by omega)]
        simp [List.getD, List.getElem?_eq_none (show (l ++ x).length ≤ i by simp; omega), List.getElem?_eq_none (show l.length ≤ i by omega)]
  · rw [if_neg (by omega), Array.getElem?_eq_none (by rw [lnA_size]; omega), Array.getElem?_eq_none (by rw [lnA_size]; omega)]
def ArAt (w : World) (g : Nat) (l : List Int) : Prop := w.heap[g]? = some (.cells (lnA l) 84 (0, 0))
theorem ArAt.below {w w' : World} {g : Nat} {l : List Int} (h : ArAt w g l) (hb : Below w.heap.size w w') : ArAt w' g l := (hb.block _ (Array.getElem?_eq_some_iff.1 h).1).trans h
theorem ArAt.byt {w : World} {g n : Nat} {l : List Int} (h : ArAt w g l) (hn : l.length = n) (h8 : n ≤ 8) (hr : ∀ y ∈ l, 0 ≤ y ∧ y ≤ 255) : Byt w w.heap.size (some ⟨g, 0, none⟩) n 8 l :=
  ⟨hn, h8, by simp [maxLen], hr, fun _ => ⟨g, 0, rfl, (Array.getElem?_eq_some_iff.1 h).1, fun j hj => by
    rw [Nat.zero_add, cell_of_row _ _ _ _ _ _ h]
    exact lnA_at l (by omega)⟩⟩
def pkE (T : List (Int × Ent)) (fs : Nat → SlV) (n : Nat) : Int := if chkE (mapB T) fs n = 0 then 0 else 14
def pkL (T : List (Int × Ent)) (fs : Nat → SlV) (n : Nat) : List Int := if chkE (mapB T) fs n = 0 then pkF T fs n 0 else []
def PackP (w : World) (T : List (Int × Ent)) (fs : Nat → SlV) (n : Nat) (e : Ending) (w' : World) : Prop := ∃ A' n' c', e = .returned (.tuple #[.slice A' n' c', .int .i64 (pkE T fs n)]) ∧ Byt w' w'.heap.size A' n' c' (pkL T fs n) ∧ Below w.heap.size w w'
theorem Els.lowS {w w' : World} {n c : Nat} {A : Option Addr} {fs : Nat → SlV} (h : Els SlC 3 w w.heap.size A n c fs) (hb : Below w.heap.size w w') : Els SlC 3 w' w'.heap.size A n c fs :=
  ⟨h.cap, h.max, fun h0 => by
    obtain ⟨b, off, e, hlt, hc⟩ := h.cells h0
    exact ⟨b, off, e, Nat.lt_of_lt_of_le hlt hb.size, fun i hi => (hc i hi).below hlt hb⟩⟩
theorem dict_mapped {B g : Nat} {T : List (Int × Ent)} {ch : Int} {w : World} (h : DictAt B g T ch w) (hG : Good T) (x : World) (s : SlV) (hx : Below w.heap.size w x) : Calls Try.prog 70 #[.pointer (some ⟨g, 0, none⟩), .agg #[.int .i64 s.i, .int .i64 s.j, .int .i64 s.n]] x fun e w' => e = .returned (.bool (mapB T s)) ∧ Below x.heap.size x w' :=
  mapped_any x _ s.i s.j s.n (thI e0 (numI s.i s.j) T) (hasI (numI s.i s.j) T) (fun y hy => at_spec s.i s.j (h.below (kF hy hx)) hG)
theorem dict_check {B g : Nat} {T : List (Int × Ent)} {ch : Int} {w : World} {A : Option Addr} {n c : Nat} {fs : Nat → SlV} (h : DictAt B g T ch w) (hG : Good T) (hL : Els SlC 3 w w.heap.size A n c fs) :
    Calls Try.prog 24 #[.pointer (some ⟨g, 0, none⟩), .slice A n c] w fun e w' => e = .returned (.int .i64 (chkE (mapB T) fs n)) ∧ Below w.heap.size w w' :=
  check_any w _ A n c fs (mapB T) hL (fun s => mapB_bits) (fun x s hx => dict_mapped h hG x s hx)
set_option maxRecDepth 100000 in
set_option maxHeartbeats 8000000 in
theorem pack_any {B g : Nat} {T : List (Int × Ent)} {ch : Int} {w : World} {A : Option Addr} {n c : Nat} {fs : Nat → SlV} (h : DictAt B g T ch w) (hG : Good T) (hL : Els SlC 3 w w.heap.size A n c fs) :
    Calls Try.prog 22 #[.pointer (some ⟨g, 0, none⟩), .slice A n c] w (PackP w T fs n) := by
  have hcap := hL.cap
  have hmax := hL.max
  simp only [maxLen] at hmax
  have HCK := Lib.hid (dict_check h hG hL)
  have HC := Lib.hid (fun (x : World) (hx : Below w.heap.size w x) (h0 : 0 < n) => show ∃ b off, A = some ⟨b, off, none⟩ ∧ b < w.heap.size ∧ ∀ i, i < n → SlC x b (off + i * 3) (fs i) from by
    obtain ⟨b, off, e, hb, h⟩ := hL.cells h0
    exact ⟨b, off, e, hb, fun i hi => (h i hi).below hb hx⟩)
  have HRW := Lib.hid (fun (x : World) (hx : Below w.heap.size w x) (i j : Int) => at_raw i j (h.below hx) hG)
  have HLN := Lib.hid (fun (h0 : chkE (mapB T) fs n = 0) => chkE_sz hG h0)
  have HIN := Lib.hid (fun (h0 : chkE (mapB T) fs n = 0) i (hi : i < n) => mapB_iff.1 (chkG_in T fs n 0 0 (chkE_zero h0).2 i (by omega) (by omega)))
  have HRG := Lib.hid (fun m i => pkF_rng hG fs m i)
  have HG := Lib.hid hG
  unfold PackP pkE pkL
  clear h hL hG
  by_cases hz : chkE (mapB T) fs n = 0
  · rw [hz] at HCK
    have HL8 := Lib.hid (HLN.out hz).2
    have HN8 := Lib.hid (chkE_zero hz).1
    have HI := Lib.hid (HIN.out hz)
    rw [if_pos hz, if_pos hz]
    clear hz HLN HIN
    obtain ⟨PK, hPK⟩ : ∃ PK, pkF T fs n 0 = PK := ⟨_, rfl⟩
    rw [hPK] at HL8 ⊢
    have HPR : Hid (∀ y ∈ PK, 0 ≤ y ∧ y ≤ 255) := Lib.hid (by rw [← hPK]; exact HRG.out n 0)
    have HPK := Lib.hid hPK
    clear hPK HRG
    go_enter Try.func22, Try.ntmps22
    go_wp2_with fail
    refine HCK.out.mono ?_
    rintro e w1 ⟨rfl, hb1⟩
    have HB1 := Lib.hid hb1
    clear hb1 HCK
    have hba : Below w1.heap.size w1 (w1.alloc (.cells (lnA []) 84)) := (Below.refl _ _).alloc (Nat.le_refl _) _
    have HBa := Lib.hid (kF hba HB1.out)
    have HAa : Hid (ArAt (w1.alloc (.cells (lnA []) 84)) w1.heap.size []) := Lib.hid (heap_alloc_new w1 _)
    have HWg := Lib.hid (HB1.out.size)
    clear hba
    go_upto_region 4 with fail
    change Code.wp _ _ _ _ (w1.alloc (.cells (lnA []) 84))
    generalize w1.alloc (.cells (lnA []) 84) = wa at *
    generalize w1.heap.size = g8 at *
    go_wp2_with fail
    go_loopw [7, 18] (fun t7 t18 wr => ∃ (i k : Nat) (L : List Int), i ≤ n ∧ t7 = .int .i64 k ∧ t18 = .int .i64 i ∧ Hid (L.length = k) ∧ Hid (PK = L ++ pkF T fs (n - i) i) ∧ Hid (ArAt wr g8 L) ∧ Hid (Below w.heap.size w wr)) (fun _ t _ => n - (intOf t).toNat)
    case atStart => exact ⟨0, 0, [], by omega, rfl, rfl, Lib.hid rfl, Lib.hid HPK.out.symm, HAa, HBa⟩
    case round =>
      clear HAa HBa
      obtain ⟨i, k, L, hi, rfl, rfl, HK, HP, HA, HW⟩ := hrel
      by_cases hlt : i < n
      · have hiI : (i : Int) < (n : Int) := by omega
        obtain ⟨bk, off, rfl, hbk, hcs⟩ := HC.out wr HW.out (by omega)
        obtain ⟨c0, c1, c2⟩ := hcs i hlt
        have HPS : Hid (PK = (L ++ (entS T (fs i)).b) ++ pkF T fs (n - (i + 1)) (i + 1)) := Lib.hid (by rw [HP.out, show n - i = (n - (i + 1)) + 1 by omega, List.append_assoc]; rfl)
        obtain ⟨m1, m2, m3, m4⟩ := HI.out i hlt
        have HNE : Hid (0 < (entS T (fs i)).b.length) := Lib.hid (by
          have := mapB_len HG.out (mapB_iff.2 ⟨m1, m2, m3, m4⟩)
          omega)
        have HRX := Lib.hid (fun x hx => HRW.out x hx (fs i).i (fs i).j)
        have HHS : Hid (hasI (numI (fs i).i (fs i).j) T = true) := Lib.hid m1
        have HEB : Hid (entS T (fs i) = thI e0 (numI (fs i).i (fs i).j) T) := Lib.hid rfl
        clear m1 m2 m3 m4 hcs HP
        generalize entS T (fs i) = E at *
        generalize fs i = s at *
        obtain ⟨si, sj, sn⟩ := s
        dsimp only at c0 c1 c2 HRX HHS HEB
        rw [← HEB.out, HHS.out] at HRX
        have HX9 : Hid (∀ x, Below w.heap.size w x → Calls Try.prog 31 #[.pointer (some ⟨g, 0, none⟩), .agg #[.int .i64 si, .int .i64 sj]] x (RawP x E true)) := Lib.hid HRX.out
        clear HEB HHS HRX
        have HBA : Hid (Below w.heap.size w (wr.alloc (.cells #[.int .i64 si, .int .i64 sj, .int .i64 sn] 26))) := Lib.hid (HW.out.alloc HW.out.size _)
        have HAA : Hid (ArAt (wr.alloc (.cells #[.int .i64 si, .int .i64 sj, .int .i64 sn] 26)) g8 L) := Lib.hid (HA.out.below ((Below.refl _ _).alloc (Nat.le_refl _) _))
        clear HA
        go_wp2_with fail
        generalize wr.alloc (.cells #[.int .i64 si, .int .i64 sj, .int .i64 sn] 26) = wx at *
        have hrw := HX9.out wx HBA.out
        unfold RawP at hrw
        refine hrw.mono ?_
        rintro e w2 ⟨AR, nr, cr, LR, rfl, hyr, hlr, hb2⟩
        rw [if_pos rfl] at hlr
        subst hlr
        have HY := Lib.hid hyr
        have HB2 := Lib.hid (kF hb2 HBA.out)
        have HA2 := Lib.hid (HAA.out.below hb2)
        clear hyr hb2 hrw HX9 HBA HAA c0 c1 c2
        have hnr : E.b.length = nr := HY.out.len
        have hPL : PK.length = L.length + nr + (pkF T fs (n - (i + 1)) (i + 1)).length := by rw [HPS.out, List.length_append, List.length_append, hnr]
        have hk8 : k + nr ≤ 8 ∧ k < 8 := by
          have := HL8.out
          have h1 := HK.out
          have h2 := HNE.out
          omega
        have HKN := Lib.hid hk8
        have HNR := Lib.hid hnr
        have hmin : min nr (8 - k) = nr := by omega
        have hkI : (k : Int) ≤ 8 := by omega
        have hk9 : ¬ (8 = k) := by omega
        have iw : IntKind.i64.wrap ((k : Int) + (nr : Int)) = (k : Int) + (nr : Int) := IntWalk.i64_in _ (by omega)
        clear hPL hnr hk8
        have HWl : Hid (w.heap.size ≤ g8) := HWg
        have HPL2 : Hid ((L ++ E.b).length = k + nr) := Lib.hid (by rw [List.length_append, HK.out, HNR.out])
        clear HNE
        go_wp2_with (refine wpList_plain (o := ⟨some 33, _, _, _, _, _⟩) rfl (fun K hK => wp_copy_row (.tmp 31) (.tmp 32) rfl rfl rfl HY.out HA2.out (by simp only [lnA_size]; omega) (fun x5 cur5 q1 q2 q3 q4 => hK _ _ ?_)); have hce := ln_app HK.out HNR.out HKN.out.1 q2 q3; have HA5 := Lib.hid (show ArAt x5 g8 (L ++ E.b) from by rw [hce] at q1; exact q1); have HB5 := Lib.hid (HB2.out.grown q4 HB2.out.size (fun z hz => by cases hz; exact HWl.out)); clear q1 q2 q3 q4 hce)
        exact ⟨⟨i + 1, k + nr, L ++ E.b, by omega, by go_num, by go_num, HPL2, HPS, HA5, HB5⟩, by simp [intOf]; omega⟩
      · have HPE : Hid (PK = L) := Lib.hid (by rw [HP.out, show n - i = 0 by omega]; simp [pkF])
        have hk8 : k ≤ 8 := by have := HL8.out; rw [HPE.out, HK.out] at this; exact this
        have HY : Hid (Byt wr wr.heap.size (some ⟨g8, 0, none⟩) k 8 PK) := Lib.hid (by rw [HPE.out]; exact HA.out.byt HK.out hk8 (by rw [← HPE.out]; exact HPR.out))
        have hkI : (k : Int) ≤ 8 := by omega
        go_wp2_with fail
        refine (clone_any wr _ k 8 PK HY.out (by omega)).mono ?_
        rintro e w3 ⟨A3, c3, rfl, hy3, hb3, -⟩
        have HY3 := Lib.hid hy3
        have HB3 := Lib.hid (kF hb3 HW.out)
        clear hy3 hb3 HY HA HW
        go_wp2_with fail
        go_ret2
        exact ⟨A3, k, c3, rfl, HY3.out, HB3.out⟩
  · rw [if_neg hz, if_neg hz]
    have hzb : ¬ chkE (mapB T) fs n = 0 := hz
    generalize chkE (mapB T) fs n = CE at *
    have e0 : (CE != 0) = true := by simp [hzb]
    go_enter Try.func22, Try.ntmps22
    go_wp2_with fail
    refine HCK.out.mono ?_
    rintro e w1 ⟨rfl, hb1⟩
    have HB1 := Lib.hid hb1
    clear hb1 HCK
    go_wp2_with fail
    go_ret2
    exact ⟨none, 0, 0, rfl, Byt.nil_ _ _, HB1.out⟩
end Go.Proofs.Ytgaoplbocjadaaa
