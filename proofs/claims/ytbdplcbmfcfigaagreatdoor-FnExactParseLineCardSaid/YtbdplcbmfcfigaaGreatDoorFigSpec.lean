/- The model's figure of a number below 16. -/
import Derived.Test.YtbdplcbmfcfigaaGreatDoorRows
import Derived.Test.YtbdplcbmfcfigaaGreatDoorPlainA
import Derived.Lib.Hide
namespace Go.Proofs.YtbdplcbmfcfigaaGreatDoor
open Go.RowKit Go.Lib

theorem s_fig (x : Int) (y : Nat) (w : World) (hx : x = y) (h1 : y < 16) : Calls Tryz.prog 111 #[.int .i64 x] w fun e w' => e = .returned (.int .u8 (figB y).toNat) ∧ w' = w := by
  have hb := figB_toNat y h1
  subst hx
  have HX := Lib.hid hb; clear hb
  by_cases h : y < 10
  · go_enter Tryz.func111, Tryz.ntmps111
    go_wp2
    go_ret
    exact ⟨ret_int (by rw [HX.out]; unfold figN; rw [if_pos (by omega)]; omega), rfl⟩
  · go_enter Tryz.func111, Tryz.ntmps111
    go_wp2
    go_ret
    exact ⟨ret_int (by rw [HX.out]; unfold figN; rw [if_neg (by omega)]; omega), rfl⟩
end Go.Proofs.YtbdplcbmfcfigaaGreatDoor
