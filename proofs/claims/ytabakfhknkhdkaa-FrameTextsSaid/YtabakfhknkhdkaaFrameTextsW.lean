/- FrameTexts, put together. -/
import Derived.Test.YtabakfhknkhdkaaFrameAD
import Derived.Test.YtabakfhknkhdkaaFrameTextsA
import Derived.Test.YtabakfhknkhdkaaFrameTextsB
import Derived.Test.YtabakfhknkhdkaaFrameTextsC
import Derived.Test.YtabakfhknkhdkaaFrameTextsD
namespace Go.Proofs.Ytabakfhknkhdkaa.frameTexts
open Go.RowKit Go.Proofs.Ytabakfhknkhdkaa

theorem dparse_any (s : ByteArray) (w : World) (hs : s.size ≤ 140737488351232) :
    Calls Try.prog 23 #[.string s] w (ParsePost (sB s) w) := by
  by_cases h1 : s.size < 4 ∨ 20 < s.size
  · exact dparse_len s w hs h1
  · by_cases h6 : s.size = 6
    · by_cases h4 : (sB s).getD 4 0 = 82
      · exact dparse_R s w h6 h4
      · exact dparse_D6 s _ w (by omega) (by omega) rfl (Lib.hid h6) h4
    · exact dparse_Dn s _ w (by omega) (by omega) rfl h6
theorem core (i n : Int) (r : Bool) (d : Nat → Int) (s : ByteArray) (w : World) (hd : ∀ j, j < 8 → 0 ≤ d j ∧ d j ≤ 255) (hs : s.size ≤ 140737488351232) :
    Calls Try.prog 6 #[.agg #[.int .i64 i, .bool r, .int .i64 n, .int .u8 (d 0), .int .u8 (d 1), .int .u8 (d 2), .int .u8 (d 3), .int .u8 (d 4), .int .u8 (d 5), .int .u8 (d 6), .int .u8 (d 7)], .string s] w fun q w' => q = .returned (.bool true) ∧ Below w.heap.size w w' := by
  have hp := fun w => dparse_any s w hs
  by_cases hc : chk i r n d = 0
  · by_cases hx : ∃ (a m : Int) (b : Bool) (e : Nat → Int), Val a b m e ∧ sB s = txL a b m e
    · obtain ⟨a, m, b, e, hv, hl⟩ := hx
      exact core4 i n r d s w hd hs hp hc a m b e hv hl
    · exact core3 i n r d s w hd hs hp hc fun a b m e hv hl => hx ⟨a, m, b, e, hv, hl⟩
  · by_cases hx : ∃ (a m : Int) (b : Bool) (e : Nat → Int), Val a b m e ∧ sB s = txL a b m e
    · obtain ⟨a, m, b, e, hv, hl⟩ := hx
      exact core2 i n r d s w hd hs hp hc a m b e hv hl
    · exact core1 i n r d s w hd hs hp hc fun a b m e hv hl => hx ⟨a, m, b, e, hv, hl⟩
end Go.Proofs.Ytabakfhknkhdkaa.frameTexts
