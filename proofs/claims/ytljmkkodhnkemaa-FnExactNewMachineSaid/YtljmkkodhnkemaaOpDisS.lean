/- Disassemble, the model's. -/
import Derived.Test.YtljmkkodhnkemaaOpDis
namespace Go.Proofs.Ytljmkkodhnkemaa
open Go.RowKit Go.Lib

set_option maxRecDepth 100000 in
set_option maxHeartbeats 1000000 in
theorem s_dis (s : ByteArray) (w : World) (hm : s.size ≤ 1048576) :
    Calls Try.prog 46 #[.string s] w (OpRow w.heap.size (disL s.data.toList) (disB s.data.toList) w) := by
  obtain ⟨i0, hi, hz0, hz1, hz2⟩ := info_parts infoO
  have hll : s.data.toList.length = s.size := list_len s
  have HLL := Lib.hid hll
  have DC := Lib.hid (fun W (x : Int) => s_dec7 s x W (by omega))
  have ST := Lib.hid (Dis.start s.data.toList)
  have hms : (s.size : Int) ≤ 1048576 := by omega
  clear hll
  go_enter Try.func46, Try.ntmps46
  go_wp2_with fail
  have HO0 : Hid ((w.alloc (.cells #[] 93)).ownsRow w.heap.size 93 2 (.slice (some ⟨w.heap.size, 0, none⟩) 0 0) ([] : List OpL).length (opV [])) := Lib.hid (World.ownsRow_lit (base := w.heap.size) (e := 93) (size := 2) w #[] 0 (Nat.le_refl _) (by decide) rfl)
  have HB0 : Hid (Below w.heap.size w (w.alloc (.cells #[] 93))) := Lib.hid ((Below.refl _ _).alloc (Nat.le_refl _) _)
  go_loopw [4, 5, 6, 7, 8] (fun v x _ _ _ wr => ∃ (k : Nat) (D : List OpL), x = .int .i64 (k : Int) ∧ Dis s.data.toList k D ∧ wr.ownsRow w.heap.size 93 2 v D.length (opV D) ∧ Below w.heap.size w wr)
    (fun _ x _ _ _ _ => s.size - (intOf x).toNat)
  case atStart => exact ⟨0, [], rfl, ST.out, HO0.out, HB0.out⟩
  case round =>
    obtain ⟨k, D, rfl, hD, hown, hbel⟩ := hrel
    have HD := Lib.hid hD
    have HO := Lib.hid hown
    have HB := Lib.hid hbel
    have hB := hbel.size
    have hk : k ≤ s.size := by have := hD.2.2; have := HLL.out; omega
    have hDl : D.length ≤ k := hD.2.1
    have HZ := Lib.hid (decZ_drop s.data.toList k)
    clear hD hown hbel
    by_cases hlt : k < s.size
    · have k0 : (0 : Int) ≤ (k : Int) := by omega
      have k1 : (k : Int) < (s.size : Int) := by omega
      cases hx : dec1 (s.data.toList.drop k) with
      | none =>
        have HN := Lib.hid (HD.out.bad (by have := HLL.out; omega) hx)
        have DCk : Hid (∀ W : World, Calls Try.prog 55 #[.string s, .int .i64 (k : Int)] W fun e w' => e = .returned (.tuple #[.agg #[.int .i64 0, .int .i64 0], .int .i64 0, .bool false]) ∧ Below W.heap.size W w') := Lib.hid (fun W => by
          have h := DC.out W (k : Int)
          rw [HZ.out, hx] at h
          exact h)
        clear hx
        go_wp2_with fail
        refine (DCk.out _).mono ?_
        rintro e w1 ⟨rfl, b1⟩
        have HB1 : Hid (Below w.heap.size w w1) := Lib.hid (HB.out.trans (b1.mono (by omega)))
        have z1 := b1.size
        clear b1
        go_wp2
        go_ret2
        rw [HN.out.1, HN.out.2]
        have z2 : w.heap.size ≤ (w1.alloc (.cells #[.int .i64 0, .int .i64 0] 93)).heap.size := by simp; omega
        have h := World.ownsRow_lit (base := w.heap.size) (e := 93) (size := 2) (w1.alloc (.cells #[.int .i64 0, .int .i64 0] 93)) #[] 0 z2 (by decide) rfl
        exact ⟨_, rfl, by simpa [opV] using h, (HB1.out.alloc (by omega) _).alloc z2 _⟩
      | some y =>
        obtain ⟨⟨xc, xa⟩, n⟩ := y
        have HN := Lib.hid (HD.out.next hx)
        have hsz := dec1_size _ _ _ hx
        rw [List.length_drop, HLL.out] at hsz
        have DCk : Hid (∀ W : World, Calls Try.prog 55 #[.string s, .int .i64 (k : Int)] W fun e w' => e = .returned (.tuple #[.agg #[.int .i64 xc, .int .i64 xa], .int .i64 (n : Int), .bool true]) ∧ Below W.heap.size W w') := Lib.hid (fun W => by
          have h := DC.out W (k : Int)
          rw [HZ.out, hx] at h
          exact h)
        have n0 : (0 : Int) ≤ (n : Int) := by omega
        have n1 : (k : Int) + (n : Int) ≤ (s.size : Int) := by omega
        have hn1 := hsz.1
        clear hx hsz
        go_wp2_with fail
        refine (DCk.out _).mono ?_
        rintro e w1 ⟨rfl, b1⟩
        have HB1 : Hid (Below w.heap.size w w1) := Lib.hid (HB.out.trans (b1.mono (by omega)))
        have hown1 := owns3_below HO.out b1
        have z1 := b1.size
        have h63 : D.length + 1 ≤ maxLen := by unfold maxLen; omega
        have hby : (D.length + 1) * 16 ≤ 140737488355328 := by omega
        have hown2 := hown1.alloc (.cells #[.int .i64 xc, .int .i64 xa] 93)
        have HB2 : Hid (Below w.heap.size w (w1.alloc (.cells #[.int .i64 xc, .int .i64 xa] 93))) := Lib.hid (HB1.out.alloc (by omega) _)
        clear b1
        go_wp2_with (at_builtin; refine wpList_append_own _ rfl _ _ 81 rfl w.heap.size 93 i0 _ 2 16 Try.underlying81 hi hz0 hz1 hz2 rfl (by decide) _ _ _ rfl (hown2.alloc _) ⟨w1.heap.size + 1, 0, none⟩ 1 1 [.int .i64 xc, .int .i64 xa] rfl rfl ?c1 ?c2 h63 hby ?c5 ?_)
        case c1 =>
          have hb := heap_alloc_new (w1.alloc (.cells #[.int .i64 xc, .int .i64 xa] 93)) (.cells #[.int .i64 xc, .int .i64 xa] 93)
          have hb' : (World.alloc (w1.alloc (.cells #[.int .i64 xc, .int .i64 xa] 93)) (.cells #[.int .i64 xc, .int .i64 xa] 93)).heap[w1.heap.size + 1]? = some (.cells #[.int .i64 xc, .int .i64 xa] 93 (0, 0)) := by simpa using hb
          exact World.news_of_block hb'
        case c2 => intro u hu; simp at hu; rcases hu with rfl | rfl <;> rfl
        case c5 => simp; omega
        intro v' w3 hown3 hgrow _
        have HO4 : Hid (w3.ownsRow w.heap.size 93 2 v' (D ++ [(⟨xc, xa⟩ : OpL)]).length (opV (D ++ [(⟨xc, xa⟩ : OpL)]))) := Lib.hid (by rw [opV_append, List.length_append]; exact hown3)
        have HB3 := Lib.hid (below_appO hown2 HB2.out (by simp; omega) hgrow)
        clear hown1 hown2 hown3 hgrow
        go_wp2
        go_roundw
        case rel => exact ⟨k + n, D ++ [(⟨xc, xa⟩ : OpL)], by go_num, HN.out, HO4.out, HB3.out⟩
        case measure => simp [intOf]; omega
    · have HN := Lib.hid (HD.out.done (show k = s.data.toList.length by have := HLL.out; omega))
      have k1 : ¬ (k : Int) < (s.size : Int) := by omega
      go_wp2
      go_ret2
      rw [HN.out.1, HN.out.2]
      exact ⟨_, rfl, HO.out, HB.out⟩
end Go.Proofs.Ytljmkkodhnkemaa
