/- What the document's May answers. -/
import Derived.Test.YtmcpaficeaphlaaPolyF
import Derived.Test.YtmcpaficeaphlaaPolyMath2
namespace Go.Proofs.Ytmcpaficeaphlaa
open Go.RowKit

theorem rmay_any (W : Int) (L : Nat) (w : World) (hW : -9223372036854775808 ≤ W ∧ W ≤ 9223372036854775807) :
    Calls Try.prog 9 #[.int .i64 W, .int .u32 L] w fun e w' => e = .returned (.bool (okV W L)) ∧ w = w' := by
  obtain ⟨hW0, hW9⟩ := hW
  by_cases h1 : W < 1
  · have e1 : okV W L = false := decide_eq_false (by omega)
    rw [e1]
    clear e1
    go_enter Try.func9, Try.ntmps9
    go_wp2_with fail
    go_ret
    exact ⟨rfl, rfl⟩
  · by_cases h2 : 31 < W
    · have e1 : okV W L = false := decide_eq_false (by omega)
      rw [e1]
      clear e1
      go_enter Try.func9, Try.ntmps9
      go_wp2_with fail
      go_ret
      exact ⟨rfl, rfl⟩
    · obtain ⟨V, rfl⟩ : ∃ V : Nat, W = V := ⟨W.toNat, by omega⟩
      have e1 : okV (V : Int) L = decide (L < 2 ^ V) := by
        unfold okV
        rw [Int.toNat_natCast]
        apply decide_eq_decide.2
        constructor
        · intro h; exact h.2.2
        · intro h; exact ⟨by omega, by omega, h⟩
      rw [e1]
      clear e1
      have hp := pow32 (W := V) (by omega)
      go_enter Try.func9, Try.ntmps9
      go_wp2_with fail
      go_loop [6, 5] (fun i v => ∃ j : Nat, j ≤ V ∧ i = .int .i64 j ∧ v = .int .u32 ((2 ^ j : Nat) : Int)) (fun i _ => V - (intOf i).toNat)
      case atStart => exact ⟨0, Nat.zero_le _, rfl, rfl⟩
      case round =>
        obtain ⟨j, hj, rfl, rfl⟩ := hrel
        by_cases hlt : j < V
        · have hp2 := pow32 (W := j) (by omega)
          have hs : (2 : Nat) ^ (j + 1) = 2 ^ j * 2 := Nat.pow_succ ..
          have hp3 := pow32 (W := j + 1) (by omega)
          rw [hs] at hp3
          have hs' : ((2 ^ (j + 1) : Nat) : Int) = ((2 ^ j : Nat) : Int) * 2 := by rw [hs]; omega
          generalize (2 : Nat) ^ j = q at hp2 hp3 hs'
          have HS := Lib.hid hs'
          clear hs hs'
          go_wp2
          go_round
          case rel => exact ⟨j + 1, by omega, by go_num, by rw [HS.out]⟩
          case measure => simp [intOf]; omega
        · obtain rfl : j = V := by omega
          generalize hq : (2 : Nat) ^ j = q at hp
          have HQ := Lib.hid hq
          clear hq
          go_wp2
          go_ret
          exact ⟨ret_bool (by rw [HQ.out]), rfl⟩
end Go.Proofs.Ytmcpaficeaphlaa
