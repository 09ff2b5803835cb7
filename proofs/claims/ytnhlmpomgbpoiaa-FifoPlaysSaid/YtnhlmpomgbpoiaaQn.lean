/- What Fork does; the document's own queue: New, Put, Take, Drop. -/
import Derived.Test.YtnhlmpomgbpoiaaQm
import Derived.Laws.Rows
import Derived.Laws.ResultCell
namespace Go.Proofs.Ytnhlmpomgbpoiaa
open Go.RowKit

/-- A fork has been made: nothing that was there has turned. -/
def Forked (w : World) (lim : Int) (vs : List Value) (lost : Int) (n : Nat) (e : Ending) (w' : World) : Prop := ∃ g A c, e = .returned (.pointer (some ⟨g, 0, none⟩)) ∧ Que w' w.heap.size g lim vs lost A n c ∧ w.heap.size ≤ g ∧ Below w.heap.size w w'
set_option maxHeartbeats 1000000 in
theorem fork_any (w : World) (g B n c : Nat) (lim lost : Int) (vs : List Value) (A : Option Addr) (h : Que w B g lim vs lost A n c) :
    Calls Try.prog 17 #[.pointer (some ⟨g, 0, none⟩)] w (Forked w lim vs lost n) := by
  have hd : Que w.drew B g lim vs lost A n c := h.keep rfl fun _ _ => rfl
  obtain ⟨c0, c1, c2⟩ := hd.cells
  have hgl : g < w.drew.heap.size := h.lt
  have k0 := And.intro c0 (And.intro c1 c2)
  have hn : n ≤ 65536 := by have := h.fits; have := h.lims; omega
  have hcl := clone_any w.drew B n c vs A hd.row (by omega)
  have HCL := Lib.hid hcl
  have HL := Lib.hid h.lims
  have HF := Lib.hid h.fits
  clear h hd hcl c0 c1 c2
  go_enter Try.func17, Try.ntmps17
  go_wp2_with fail
  go_region_held3 (fun w' => w'.cell? ⟨g, 0, none⟩ = some (.int .i64 lim) ∧ w'.cell? ⟨g, 1, none⟩ = some (.slice A n c) ∧ w'.cell? ⟨g, 2, none⟩ = some (.int .i64 lost))
    (first | exact k0 | exact k1 | exact k2)
    (first
      | (go_at_call 30
         (with_reducible refine HCL.out.mono ?_)
         rintro e w1 ⟨A1, c1, rfl, hq1, hb1⟩
         have k1 : w1.cell? ⟨g, 0, none⟩ = some (.int .i64 lim) ∧ w1.cell? ⟨g, 1, none⟩ = some (.slice A n c) ∧ w1.cell? ⟨g, 2, none⟩ = some (.int .i64 lost) := ⟨(hb1.cell (p := ⟨g, 0, none⟩) hgl).trans k0.1, (hb1.cell (p := ⟨g, 1, none⟩) hgl).trans k0.2.1, (hb1.cell (p := ⟨g, 2, none⟩) hgl).trans k0.2.2⟩
         have hbx : Below w1.heap.size w1 (w1.alloc (.cells #[.int .i64 lim, .slice A1 n c1, .int .i64 lost] 61)) := (Below.refl _ _).alloc (Nat.le_refl _) _
         have hg1 := Nat.lt_of_lt_of_le hgl hb1.size
         have k2 : (w1.alloc (.cells #[.int .i64 lim, .slice A1 n c1, .int .i64 lost] 61)).cell? ⟨g, 0, none⟩ = some (.int .i64 lim) ∧ (w1.alloc (.cells #[.int .i64 lim, .slice A1 n c1, .int .i64 lost] 61)).cell? ⟨g, 1, none⟩ = some (.slice A n c) ∧ (w1.alloc (.cells #[.int .i64 lim, .slice A1 n c1, .int .i64 lost] 61)).cell? ⟨g, 2, none⟩ = some (.int .i64 lost) := ⟨(hbx.cell (p := ⟨g, 0, none⟩) hg1).trans k1.1, (hbx.cell (p := ⟨g, 1, none⟩) hg1).trans k1.2.1, (hbx.cell (p := ⟨g, 2, none⟩) hg1).trans k1.2.2⟩
         have HBX := Lib.hid hbx
         clear hbx
         have HQ1 := Lib.hid hq1
         have HB1 := Lib.hid hb1
         clear hq1 hb1))
  go_wp2_with fail
  go_ret
  refine ⟨_, _, _, rfl, ⟨heap_alloc_new w1 _, HQ1.out.below HBX.out, HL.out, HF.out, fun e => ?_⟩, HB1.out.size, ((Below.refl _ w).drew.trans HB1.out).trans (HBX.out.mono HB1.out.size)⟩
  have := (HQ1.out.lt e).2
  omega

/-- Numbers in a row of the call's own. -/
theorem Nums.of_qs {w : World} {base n c : Nat} {A : Option Addr} {l : List Int} (h : Qs w base 3 A n c (ints l)) (hr : ∀ x ∈ l, -9223372036854775808 ≤ x ∧ x ≤ 9223372036854775807) : Nums w w.heap.size A n c l := by
  have hl : l.length = n := by have := h.len; simpa using this
  refine ⟨hl, h.cap, h.max, hr, fun h0 => ?_⟩
  obtain ⟨b, off, rfl⟩ := h.addr (by have := h.cap; omega)
  refine ⟨b, off, rfl, (h.lt rfl).2, fun j hj => ?_⟩
  rw [h.cell rfl hj]
  simp [List.getD, List.getElem?_eq_getElem (show j < l.length by omega)]

theorem results_cell_tmp_row {P : Program} {fn : Func} {p u : Tmp} {ty : TypeId} (h : fn.results = #[.cell p ty, .tmp u]) (tmps : Array Value) (w : World) (g : Nat) (t : TypeId) (cs : Array Value) (fr : Nat × Nat) (d : TypeDesc)
    (hp : tmps.getD p undef = .pointer (some ⟨g, 0, none⟩)) (hg : w.heap[g]? = some (.cells cs t fr))
    (hu : P.underlying ty = some d) (hd : (match d with | .struct _ | .array _ _ => true | _ => false) = true) (hi : (P.info? ty).map (·.size) = some cs.size) :
    (results fn tmps).run P w = .ok (.tuple #[.agg cs, tmps.getD u undef]) w := by
  rw [results_cell_tmp h, hp]
  simp [asAddr, run_loadVar_row w g t ty cs fr d hg hu hd hi]
theorem results_cell_tmp2_row {P : Program} {fn : Func} {p u v : Tmp} {ty : TypeId} (h : fn.results = #[.cell p ty, .tmp u, .tmp v]) (tmps : Array Value) (w : World) (g : Nat) (t : TypeId) (cs : Array Value) (fr : Nat × Nat) (d : TypeDesc)
    (hp : tmps.getD p undef = .pointer (some ⟨g, 0, none⟩)) (hg : w.heap[g]? = some (.cells cs t fr))
    (hu : P.underlying ty = some d) (hd : (match d with | .struct _ | .array _ _ => true | _ => false) = true) (hi : (P.info? ty).map (·.size) = some cs.size) :
    (results fn tmps).run P w = .ok (.tuple #[.agg cs, tmps.getD u undef, tmps.getD v undef]) w := by
  have hp' : tmps[p]?.getD undef = .pointer (some ⟨g, 0, none⟩) := by simpa using hp
  have hl := run_loadVar_row (P := P) w g t ty cs fr d hg hu hd hi
  simp only [results, h]
  simp [hp', asAddr, hl, Result.andThen]
theorem info_dq : (Try.prog.info? 27).map (·.size) = some 3 := by kernel_rfl
theorem dnew_any (k : Int) (w : World) :
    Calls Try.prog 8 #[.int .i64 k] w fun e w' => e = .returned (.agg #[.slice none 0 0, .int .i64 (clampL k), .int .i64 0]) ∧ Below w.heap.size w w' := by
  have fin : Below w.heap.size w (w.alloc (.cells #[.slice none 0 0, .int .i64 (clampL k), .int .i64 0] 27)) := (Below.refl _ _).alloc (Nat.le_refl _) _
  have HF := Lib.hid fin
  clear fin
  by_cases h1 : k < 0
  · have e : clampL k = 0 := by unfold clampL; rw [if_pos h1]
    rw [e] at HF ⊢
    clear e
    go_enter Try.func8, Try.ntmps8
    go_wp2_with fail
    exact bodyPost_ret (results_cell_row rfl _ _ w.heap.size _ _ _ _ rfl (heap_alloc_new w _) Try.underlying27 rfl info_dq) rfl ⟨rfl, HF.out⟩
  · by_cases h2 : 65536 < k
    · have e : clampL k = 65536 := by unfold clampL; rw [if_neg h1, if_pos h2]
      rw [e] at HF ⊢
      clear e
      go_enter Try.func8, Try.ntmps8
      go_wp2_with fail
      exact bodyPost_ret (results_cell_row rfl _ _ w.heap.size _ _ _ _ rfl (heap_alloc_new w _) Try.underlying27 rfl info_dq) rfl ⟨rfl, HF.out⟩
    · have e : clampL k = k := by unfold clampL; rw [if_neg h1, if_neg h2]
      rw [e] at HF ⊢
      clear e
      go_enter Try.func8, Try.ntmps8
      go_wp2_with fail
      exact bodyPost_ret (results_cell_row rfl _ _ w.heap.size _ _ _ _ rfl (heap_alloc_new w _) Try.underlying27 rfl info_dq) rfl ⟨rfl, HF.out⟩

theorem Nums.tail {w : World} {B n c : Nat} {A : Option Addr} {v : Int} {l : List Int} (h : Nums w B A (n + 1) c (v :: l)) : Nums w B (if c = 1 then A else A.map (fun x => x.add 1)) n (c - 1) l := by
  have hc := h.cap
  have hm := h.max
  have hl := h.len
  simp only [List.length_cons] at hl
  refine ⟨by omega, by omega, by omega, fun x hx => h.rng x (by simp [hx]), fun h0 => ?_⟩
  obtain ⟨b, off, rfl, hb, hcl⟩ := h.cells (by omega)
  rw [if_neg (by omega)]
  refine ⟨b, off + 1, by simp [add_plain'], hb, fun j hj => ?_⟩
  have := hcl (j + 1) (by omega)
  rw [show off + 1 + j = off + (j + 1) by omega, this]
  simp
/-- What the document's Take answers of a queue where something stands. -/
def DTook (w : World) (A0 : Option Addr) (n : Nat) (lim lost v : Int) (V : List Int) (e : Ending) (w' : World) : Prop := ∃ A c, blk A = blk A0 ∧ e = .returned (.tuple #[.agg #[.slice A n c, .int .i64 lim, .int .i64 lost], .int .i64 v, .bool true]) ∧ Nums w' w'.heap.size A n c V ∧ Below w.heap.size w w'
theorem dtake_none (w : World) (A : Option Addr) (c : Nat) (lim lost : Int) :
    Calls Try.prog 12 #[.agg #[.slice A 0 c, .int .i64 lim, .int .i64 lost]] w fun e w' => e = .returned (.tuple #[.agg #[.slice A 0 c, .int .i64 lim, .int .i64 lost], .int .i64 0, .bool false]) ∧ Below w.heap.size w w' := by
  have hb : Below w.heap.size w ((w.alloc (.cells #[.slice A 0 c, .int .i64 lim, .int .i64 lost] 27)).alloc (.cells #[.slice A 0 c, .int .i64 lim, .int .i64 lost] 27)) := ((Below.refl _ _).alloc (Nat.le_refl _) _).alloc (by simp) _
  have HB := Lib.hid hb
  clear hb
  go_enter Try.func12, Try.ntmps12
  go_wp2_with fail
  exact bodyPost_ret (results_cell_tmp2_row (p := 2) (u := 3) (v := 4) rfl _ _ (w.heap.size + 1) _ _ _ _ rfl (heap_alloc2_new w _ _) Try.underlying27 rfl info_dq) rfl ⟨rfl, HB.out⟩
theorem dtake_some (w : World) (A : Option Addr) (n c : Nat) (lim lost v : Int) (V : List Int) (h : Nums w w.heap.size A (n + 1) c (v :: V)) :
    Calls Try.prog 12 #[.agg #[.slice A (n + 1) c, .int .i64 lim, .int .i64 lost]] w (DTook w A n lim lost v V) := by
  have ht := h.tail
  have hm := h.max
  have hc := h.cap
  simp only [maxLen] at hm
  obtain ⟨b, off, rfl, hb, hcl⟩ := h.cells (by omega)
  have cv := hcl 0 (by omega)
  simp only [Nat.add_zero, List.getD_cons_zero] at cv
  have HT := Lib.hid ht
  clear h ht hcl
  have hc1 : (c = 1 ∧ n = 0) ∨ 1 < c := by omega
  have fin : ∀ A' c', blk A' = some b → Nums w w.heap.size A' n c' V → DTook w (some ⟨b, off, none⟩) n lim lost v V (.returned (.tuple #[.agg #[.slice A' n c', .int .i64 lim, .int .i64 lost], .int .i64 v, .bool true])) ((w.alloc (.cells #[.slice A' n c', .int .i64 lim, .int .i64 lost] 27)).alloc (.cells #[.slice A' n c', .int .i64 lim, .int .i64 lost] 27)) := fun A' c' hA hN => by
    have hb : Below w.heap.size w ((w.alloc (.cells #[.slice A' n c', .int .i64 lim, .int .i64 lost] 27)).alloc (.cells #[.slice A' n c', .int .i64 lim, .int .i64 lost] 27)) := ((Below.refl _ _).alloc (Nat.le_refl _) _).alloc (by simp) _
    exact ⟨A', c', hA, rfl, hN.step hb, hb⟩
  have HFI := Lib.hid fin
  clear fin
  rcases hc1 with ⟨rfl, rfl⟩ | hc1
  · rw [if_pos rfl] at HT
    go_enter Try.func12, Try.ntmps12
    go_wp2_with fail
    exact bodyPost_ret (results_cell_tmp2_row (p := 2) (u := 3) (v := 4) rfl _ _ (w.heap.size + 1) _ _ _ _ rfl (heap_alloc2_new w _ _) Try.underlying27 rfl info_dq) rfl (HFI.out _ 0 rfl HT.out)
  · rw [if_neg (by omega)] at HT
    have e1 : Option.map (fun x : Addr => x.add 1) (some ⟨b, off, none⟩) = some ⟨b, off + 1, none⟩ := by simp [add_plain']
    rw [e1] at HT
    clear e1
    go_enter Try.func12, Try.ntmps12
    go_wp2_with fail
    exact bodyPost_ret (results_cell_tmp2_row (p := 2) (u := 3) (v := 4) rfl _ _ (w.heap.size + 1) _ _ _ _ rfl (heap_alloc2_new w _ _) Try.underlying27 rfl info_dq) rfl (HFI.out _ _ rfl HT.out)
end Go.Proofs.Ytnhlmpomgbpoiaa
