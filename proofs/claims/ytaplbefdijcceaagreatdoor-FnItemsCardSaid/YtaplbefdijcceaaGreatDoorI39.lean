/- What the model's generator returns: an expression. -/
import Derived.Test.YtaplbefdijcceaaGreatDoorI38
import Derived.Test.YtaplbefdijcceaaGreatDoorI01
namespace Go.Proofs.YtaplbefdijcceaaGreatDoor
open Go.RowKit Go.Lib
def GenOk (lv ln : List ByteArray) (la : List Int) : Prop := (∀ s ∈ lv, nameB s = true) ∧ (∀ s ∈ ln, nameB s = true) ∧ (∀ x ∈ la, 0 ≤ x ∧ x ≤ 2) ∧ la.length = ln.length ∧ lv.length ≤ 100 ∧ ln.length ≤ 100
set_option maxHeartbeats 1000000 in
theorem g_expr (c : Nat) (a : Option Addr) (len cap : Nat) (z : List Int) (lv ln : List ByteArray) (la : List Int) (va na aa : Option Addr) (vc nc ac : Nat) (hok : GenOk lv ln la) (g : Nat) (n : Nat) (hn : n ≤ 100) (x : Int) (hx : x = (n : Int)) (w : World)
    (hc : CurAt 126 w c a len cap z) (hg : GenAt 168 c w g va na aa lv ln la vc nc ac) :
    Calls Tryz.prog 128 #[.pointer (some ⟨g, 0, none⟩), .int .i64 x] w (DrawX 126 49 n c a len cap z w) := by
  have gd : w.grownBy w.drew none := ⟨rfl, rfl, rfl, Nat.le_refl _, fun _ _ _ => rfl⟩
  have gd' : w.grownBy w.drew (some c) := ⟨rfl, rfl, rfl, Nat.le_refl _, fun _ _ _ => rfl⟩
  have hcd := hc.kept gd (fun g e => by cases e)
  have hgd := hg.grown gd'
  have D := hid (d_expr c a len cap z lv ln la va na aa vc nc ac hok.1 hok.2.1 hok.2.2.1 hok.2.2.2.1 hok.2.2.2.2.1 hok.2.2.2.2.2 n hn x w.drew hx hcd hgd.2.2.1 hgd.2.2.2.1 hgd.2.2.2.2)
  have hgc := hg.1
  obtain ⟨e0, e1, e2, e3⟩ := hg.cells
  have n0 : some g ≠ some c := fun e => hgc (by injection e)
  have HX := hid hx
  clear gd gd' hcd hgd hok hc hg hx
  go_enter Tryz.func128, Tryz.ntmps128
  go_wp2_with fail
  go_region_held3 (fun w' => w'.cell? ⟨g, 0, none⟩ = some (.pointer (some ⟨c, 0, none⟩)) ∧ w'.cell? ⟨g, 1, none⟩ = some (.slice va lv.length vc) ∧ w'.cell? ⟨g, 2, none⟩ = some (.slice na ln.length nc) ∧ w'.cell? ⟨g, 3, none⟩ = some (.slice aa la.length ac))
    (first | go_keep | (go_split_ands; refine ⟨G5.cell ?_ n0, G5.cell ?_ n0, G5.cell ?_ n0, G5.cell ?_ n0⟩ <;> assumption))
    (first | (go_at_call 163; refine D.out.mono ?_; rintro e w5 ⟨v5, l5, rfl, O5, P5, B5, V5, H5, G5⟩))
  all_goals
    have R := hid (show w5.ownsRow w.heap.size 49 3 v5 l5.length (toksV l5) from O5)
    have G := hid (show w.grownBy w5 (some c) from ⟨G5.os, G5.tape, G5.output, G5.size, G5.block⟩)
    clear O5 G5
    go_wp2
    go_ret
    exact ⟨v5, l5, rfl, R.out, P5, B5, V5, H5, G.out⟩
end Go.Proofs.YtaplbefdijcceaaGreatDoor
