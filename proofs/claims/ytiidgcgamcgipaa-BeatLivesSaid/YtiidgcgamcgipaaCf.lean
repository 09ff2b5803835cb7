/- BeatMakes: ticks opened; the maker's calls put together. -/
import Derived.Test.YtiidgcgamcgipaaCe
import Derived.Test.YtiidgcgamcgipaaCEls
namespace Go.Proofs.Ytiidgcgamcgipaa
open Go.RowKit Go.Joins Go.ChangeShapes Go.WideShapes Go.Deep
set_option linter.unusedSimpArgs false
set_option linter.unusedVariables false

/-- A tick: how many later; whether a period is set; the period; a mode. -/
def TkC (w : World) (b o : Nat) (x : Int × Bool × Int × Int) : Prop := w.cell? ⟨b, o, none⟩ = some (.int .u16 x.1) ∧ w.cell? ⟨b, o + 1, none⟩ = some (.bool x.2.1) ∧ w.cell? ⟨b, o + 2, none⟩ = some (.int .i64 x.2.2.1) ∧ w.cell? ⟨b, o + 3, none⟩ = some (.int .i64 x.2.2.2) ∧ 0 ≤ x.1 ∧ x.1 ≤ 65535
theorem TkC.below {w w' : World} {B b o : Nat} {x : Int × Bool × Int × Int} (h : TkC w b o x) (hlt : b < B) (hb : Below B w w') : TkC w' b o x :=
  ⟨(hb.cell (p := ⟨b, _, none⟩) hlt).trans h.1, (hb.cell (p := ⟨b, _, none⟩) hlt).trans h.2.1, (hb.cell (p := ⟨b, _, none⟩) hlt).trans h.2.2.1, (hb.cell (p := ⟨b, _, none⟩) hlt).trans h.2.2.2.1, h.2.2.2.2⟩
theorem cells_tickT : Try.prog.cellsOf 45 = 4 := by kernel_rfl
theorem cells_u16T : Try.prog.cellsOf 43 = 1 := by kernel_rfl
theorem cells_boolT : Try.prog.cellsOf 4 = 1 := by kernel_rfl
theorem cells_intT : Try.prog.cellsOf 3 = 1 := by kernel_rfl
theorem cells_modeT : Try.prog.cellsOf 28 = 1 := by kernel_rfl
theorem list4T {α : Type} {l : List α} (h : l.length = 4) : ∃ c0 c1 c2 c3, l = [c0, c1, c2, c3] := by
  match l, h with
  | [c0, c1, c2, c3], _ => exact ⟨c0, c1, c2, c3, rfl⟩
theorem u16_wf {i : Int} (h : (Lit.int .u16 i).wf = true) : 0 ≤ i ∧ i ≤ 65535 := by
  simp only [Lit.wf, Bool.and_eq_true, decide_eq_true_eq] at h
  have e0 : IntKind.u16.min = 0 := by rfl
  have e1 : IntKind.u16.max = 65535 := by rfl
  omega
theorem ticks_of_trod {H : Type} {enc : TypeId × Value → H} {w : World} {fuel : Nat} {A : Option Addr} {n c : Nat} {x : DataW H × List MemPlace} (h : DataW.trod enc Try.prog w 0 (fun _ => true) true fuel 37 [.slice A n c] = some x) : ∃ fs, Els TkC 4 w w.heap.size A n c fs :=
  els_of_trod Try.underlying37 cells_tickT (by omega) (0, false, 0, 0) TkC (fun fuel cs x b o hf hl hc => by
    obtain ⟨c0, c1, c2, c3, rfl⟩ := list4T hl
    obtain ⟨y0, y1, y2, y3, m, _, _, h0, h1, h2, h3⟩ := trod_struct4 Try.underlying45 hf
    simp only [cells_u16T, cells_boolT, cells_intT, cells_modeT] at h0 h1 h2 h3
    obtain ⟨i, e0, _, w0⟩ := DataW.trod_int Try.underlying43 h0
    obtain ⟨q, e1, _⟩ := DataW.trod_bool Try.underlying4 h1
    obtain ⟨j, e2, _, _⟩ := DataW.trod_int Try.underlying3 h2
    obtain ⟨k, e3, _, _⟩ := DataW.trod_int Try.underlying28 h3
    simp at e0 e1 e2 e3
    subst e0 e1 e2 e3
    have := u16_wf w0
    exact ⟨(i, q, j, k), hc 0 (by omega), hc 1 (by omega), hc 2 (by omega), hc 3 (by omega), this.1, this.2⟩) h
def oSet (p now : Int) : Option Int := if 0 < p then some (now + p) else none
theorem mset_any (w0 w : World) (q c : Nat) (nd per p now : Int) (o : Option Int) (h : MkAt w0 q c nd per o w) (hx : isNu p = true) (hy : isNu now = true) :
    Calls Try.prog 14 #[.pointer (some ⟨q, 0, none⟩), .int .i64 p, .int .i64 now] w fun e w' => e = .returned (.int .i64 0) ∧ MkAt w0 q c nd p (oSet p now) w' ∧ OthM w w' := by
  obtain ⟨h0, h1⟩ := isU_in hx
  by_cases hz : 0 < p
  · rw [show oSet p now = some (now + p) from if_pos hz]
    exact mset_some w0 w q c nd per p now o h hx hy hz
  · rw [show oSet p now = none from if_neg hz]
    exact mset_zero w0 w q c nd per p now o h hx hy (Lib.hid (by omega))
/-- What the maker has and what the document's has, of one period. -/
def Rel (o : Option Int) (rd per : Int) : Prop := (o = none ∧ rd = -1) ∨ ∃ x, o = some x ∧ 0 ≤ x ∧ 1 ≤ per ∧ ((x ≤ 2147483647 ∧ rd = x) ∨ (2147483647 < x ∧ rd = -1))
def notDue (o : Option Int) (now : Int) : Prop := o = none ∨ ∃ x, o = some x ∧ now < x
theorem tick_not (w0 w : World) (q c : Nat) (nd per now m : Int) (o : Option Int) (h : MkAt w0 q c nd per o w) (hm : isMd m = true) (hd : notDue o now) :
    Calls Try.prog 16 #[.pointer (some ⟨q, 0, none⟩), .int .i64 now, .int .i64 m] w fun e w' => e = .returned (.tuple #[.agg #[.int .i64 0, .bool false, .int .i64 0, .int .u8 0, .int .u8 0, .int .u8 0, .int .u8 0, .int .u8 0, .int .u8 0, .int .u8 0, .int .u8 0], .bool false]) ∧ Below w.heap.size w w' := by
  rcases hd with rfl | ⟨x, rfl, hx⟩
  · exact tick_none w0 w q c nd per now m h hm
  · exact tick_wait w0 w q c nd per now m x h hm hx
def oDue (x p now : Int) : Option Int := if dueE x p now = -1 then none else some (dueE x p now)
theorem tick_yes (w0 w : World) (q c : Nat) (nd per now m x : Int) (h : MkAt w0 q c nd per (some x) w) (hm : isMd m = true) (hn : isNI nd = true) (h0 : 0 ≤ x) (h1 : x ≤ now) (hn1 : now ≤ 2147483647) (hp0 : 1 ≤ per) (hp1 : per ≤ 2147483647) :
    Calls Try.prog 16 #[.pointer (some ⟨q, 0, none⟩), .int .i64 now, .int .i64 m] w fun e w' => e = .returned (.tuple #[.agg #[.int .i64 (1792 + nd), .bool false, .int .i64 1, .int .u8 m, .int .u8 0, .int .u8 0, .int .u8 0, .int .u8 0, .int .u8 0, .int .u8 0, .int .u8 0], .bool true]) ∧ MkAt w0 q c nd per (oDue x per now) w' ∧ OthM w w' := by
  have hev := fun w => every_due w x per now h0 h1 hn1 hp0 hp1
  unfold oDue
  by_cases hz : dueE x per now = -1
  · rw [if_pos hz]
    refine tick_last w0 w q c nd per now m x 0 h hm hn h1 (fun w => ?_)
    have := hev w
    rw [hz] at this
    simpa using this
  · rw [if_neg hz]
    refine tick_beat w0 w q c nd per now m x (dueE x per now) h hm hn h1 (fun w => ?_)
    have := hev w
    rw [if_neg hz, show decide (dueE x per now = -1) = false from decide_eq_false hz] at this
    exact this
theorem rel_set {p now : Int} (hp0 : 0 ≤ p) (hp1 : p ≤ 2147483647) (hn0 : 0 ≤ now) : Rel (oSet p now) (dueE now p now) p := by
  have e : nextE now p now = now + p := by unfold nextE; rw [if_neg (by omega)]; simp
  unfold oSet dueE
  rw [e]
  by_cases hz : 0 < p
  · rw [if_pos hz, if_neg (show ¬ p = 0 by omega)]
    refine .inr ⟨now + p, rfl, by omega, by omega, ?_⟩
    by_cases h : 2147483647 < now + p
    · exact .inr ⟨h, if_pos h⟩
    · exact .inl ⟨by omega, if_neg h⟩
  · rw [if_neg hz, if_pos (show p = 0 by omega)]
    exact .inl ⟨rfl, rfl⟩
theorem rel_due {x p now : Int} (h0 : 0 ≤ x) (h1 : x ≤ now) (hp0 : 1 ≤ p) : Rel (oDue x p now) (dueE x p now) p := by
  have hb := next_bd h0 hp0 h1
  unfold oDue
  by_cases hz : dueE x p now = -1
  · rw [if_pos hz]; exact .inl ⟨rfl, hz⟩
  · rw [if_neg hz]
    have hd : dueE x p now = if 2147483647 < nextE x p now then -1 else nextE x p now := if_neg (by omega)
    by_cases hl : 2147483647 < nextE x p now
    · rw [hd, if_pos hl] at hz; exact absurd rfl hz
    · rw [if_neg hl] at hd
      exact .inr ⟨_, rfl, by omega, hp0, .inl ⟨by omega, rfl⟩⟩
theorem rel_not {o : Option Int} {rd per now : Int} (h : Rel o rd per) (hn : now ≤ 2147483647) : (notDue o now ∧ (rd < 0 ∨ now < rd)) ∨ ∃ x, o = some x ∧ 0 ≤ x ∧ x ≤ now ∧ 1 ≤ per ∧ rd = x := by
  rcases h with ⟨rfl, rfl⟩ | ⟨x, rfl, h0, h1, h2⟩
  · exact .inl ⟨.inl rfl, .inl (by omega)⟩
  · by_cases hx : x ≤ now
    · rcases h2 with ⟨_, e⟩ | ⟨h3, _⟩
      · exact .inr ⟨x, rfl, h0, hx, h1, e⟩
      · omega
    · refine .inl ⟨.inr ⟨x, rfl, by omega⟩, ?_⟩
      rcases h2 with ⟨_, e⟩ | ⟨_, e⟩ <;> omega
end Go.Proofs.Ytiidgcgamcgipaa
