/- The laws' own functions on one item: the size. -/
import Derived.Test.YtakgjlpgcepnkaaRows
import Derived.Test.YtakgjlpgcepnkaaItmPlain
import Derived.Test.YtakgjlpgcepnkaaMakeRowN
import Derived.Test.YtakgjlpgcepnkaaIntsLaw
import Derived.Outline
import Derived.Lib.Hide
namespace Go.Proofs.Ytakgjlpgcepnkaa
open Go.RowKit Go.Lib

theorem l_szItem (x : AIt) (left : Int) (w : World) (h0 : 0 ≤ left) (h1 : left ≤ 1048576) (hx : ArgIt w x) :
    Calls Try.prog 62 #[.agg #[.int .i64 x.p.code, .int .i64 x.p.arg, .int .i64 x.p.line, .bool x.p.start, .slice x.a x.p.chain.length x.c, .int .i64 x.p.depth, .bool x.p.ent], .int .i64 left] w fun e w' => ∃ r : Int, e = .returned (.int .i64 r) ∧ Below w.heap.size w w' ∧ (r = -1 ∨ (0 ≤ r ∧ r + (x.p.chain.length : Int) ≤ left)) := by
  have HS := Lib.hid (fun W => l_szIntS x.a x.c x.p.chain.length left W h0 h1 hx.2)
  clear hx
  obtain ⟨⟨co, ar, li, st, ch, de, en⟩, xa, xc⟩ := x
  dsimp only at HS ⊢
  go_enter Try.func62, Try.ntmps62
  go_wp2_with fail
  refine (HS.out _).mono ?_
  rintro e w1 ⟨r, rfl, rfl, hr⟩
  rcases hr with rfl | ⟨r0, r1⟩
  · go_wp2
    go_ret
    exact ⟨-1, rfl, (Below.refl _ _).alloc (Nat.le_refl _) _, .inl rfl⟩
  · have hd : decide (r < 0) = false := by simp; omega
    go_wp2
    go_ret
    exact ⟨r, rfl, (Below.refl _ _).alloc (Nat.le_refl _) _, .inr ⟨r0, r1⟩⟩
end Go.Proofs.Ytakgjlpgcepnkaa
