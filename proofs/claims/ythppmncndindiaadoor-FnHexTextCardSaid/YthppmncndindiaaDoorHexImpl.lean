/- The program's EncodeHex: what it returns. -/
import Derived.Test.YthppmncndindiaaDoorRows
import Derived.Test.YthppmncndindiaaDoorTextPlain
import Derived.Deep.RegionHeld3
import Derived.Deep.AppendLies
import Derived.Outline
import Derived.Lib.Hide
namespace Go.Proofs.YthppmncndindiaaDoor
open Go.RowKit Go.Lib

theorem i_enc_long (s : ByteArray) (w : World) (h : 20000 < s.size) (hm : s.size ≤ maxLen) :
    Calls Tryd.prog 10 #[.string s] w fun e w' => e = .returned (.tuple #[.string ⟨#[]⟩, .bool false]) ∧ w' = w := by
  unfold maxLen at hm
  go_enter Tryd.func10, Tryd.ntmps10
  go_wp2
  go_ret2
  exact ⟨rfl, rfl⟩

theorem info8' : (Tryd.prog.info? 5).map (fun i => (i.zero, i.size, i.bytes)) = some (some (.int .u8 0), 1, 1) := by kernel_rfl

set_option maxRecDepth 100000 in
set_option maxHeartbeats 1000000 in
theorem i_enc (s : ByteArray) (w : World) (h : s.size ≤ 20000) :
    Calls Tryd.prog 10 #[.string s] w fun e w' => e = .returned (.tuple #[.string ⟨(hexL s.data.toList).toArray⟩, .bool true]) ∧ Below w.heap.size w w' := by
  obtain ⟨i0, hi, hz0, hz1, hz2⟩ := info_parts info8'
  go_enter Tryd.func10, Tryd.ntmps10
  go_wp2_with (at_make; refine wpList_make_own _ rfl _ _ 22 rfl w.heap.size 5 i0 _ 1 Tryd.underlying22 hi hz0 hz1 _ _ _ (2 * s.size) rfl rfl (by omega) ?c1 ?c2 ?c3 ?_)
  case c1 => rw [hz2]; omega
  case c2 => unfold maxLen; omega
  case c3 => exact Nat.le_refl _
  intro w1 hown1 hgr1
  have hbel1 := (Below.refl w.heap.size w).grown hgr1 (Nat.le_refl _) (fun k hk => by cases hk)
  clear hgr1
  go_wp2
  go_loopw [4, 5, 15] (fun v _ i wr => ∃ k : Nat, k ≤ s.size ∧ i = .int .i64 k ∧ wr.ownsRow w.heap.size 5 1 v (hexL (s.data.toList.take k)).length (byteCells (hexL (s.data.toList.take k))) ∧ Below w.heap.size w wr)
    (fun _ _ i _ => s.size - (intOf i).toNat)
  case atStart => exact ⟨0, Nat.zero_le _, rfl, hown1, hbel1⟩
  case round =>
    obtain ⟨k, hk, rfl, hown, hbel⟩ := hrel
    by_cases hlt : k < s.size
    · have hp : s[k].toNat < 256 := s[k].toNat_lt
      have hk0 : (0 : Int) ≤ (k : Int) := by omega
      have hk1 : (k : Int) < (s.size : Int) := by omega
      have hx1 : (s[k].toNat : Int) / 16 = ((s[k].toNat / 16 : Nat) : Int) := rfl
      have hx2 : (s[k].toNat : Int) % 16 = ((s[k].toNat % 16 : Nat) : Int) := rfl
      have HX1 := Lib.hid hx1; have HX2 := Lib.hid hx2; clear hx1 hx2
      have hT : byteCells (hexL (s.data.toList.take (k + 1))) = byteCells (hexL (s.data.toList.take k)) ++ byteCells [figB (s[k].toNat / 16), figB (s[k].toNat % 16)] := by
        rw [take_snoc s k hlt, hexL_append, byteCells_append]; rfl
      have HT := Lib.hid hT; clear hT
      have hB0 := hbel.size
      have hlen : (hexL (s.data.toList.take k)).length = 2 * k := by rw [hexL_length, List.length_take, list_len]; omega
      have h63 : (hexL (s.data.toList.take k)).length + 2 ≤ maxLen := by unfold maxLen; omega
      have hby : ((hexL (s.data.toList.take k)).length + 2) * 1 ≤ 140737488355328 := by omega
      have hbs : w.heap.size ≤ wr.heap.size + 1 := by have := hbel.size; omega
      clear hlen
      have hd : s[k].toNat / 16 < 16 := by omega
      have hm : s[k].toNat % 16 < 16 := by omega
      have hpi : (s[k].toNat : Int) < 256 := by omega
      go_wp2_with fail
      have q1 := fun wx : World => run_fig (P := Tryd.prog) wx 9 .u8 _ _ Tryd.underlying9 HX1.out hd
      have q2 := fun wx : World => run_fig (P := Tryd.prog) wx 9 .u8 _ _ Tryd.underlying9 HX2.out hm
      have q3 : bits .and .u8 (s[k].toNat : Int) 15 = (s[k].toNat : Int) % 16 := u8_and15 _ (by omega) hpi
      go_region_held3 (fun _ => True) (first | trivial) (first
        | (refine step_append_lies _ ?_ (.tmp 18) (.tmp 29) 22 ?_ w.heap.size 5 i0 _ 1 1 Tryd.underlying22 hi hz0 hz1 hz2 rfl (by decide) u4 _ _ ?_ ((hown.alloc _).drew) ⟨wr.heap.size, 0, none⟩ 2 2 (byteCells [figB (s[k].toNat / 16), figB (s[k].toNat % 16)]) ?_ rfl ?_ (byteCells_one _) (by decide) h63 hby ?_ (wr.heap.size + 1) ?_ ?_; rfl; rfl; rfl; rfl; exact World.news_of_block (cs := (byteCells [figB (s[k].toNat / 16), figB (s[k].toNat % 16)]).toArray) (t := 5) (fr := (0, 0)) (heap_alloc_new wr _); (simp; exact hbs); simp; intro gg cap w1 hown1 hgrow hat hltg))
      all_goals
        clear q1 q2 q3
        have R := owns_cast hown1 HT.out
        have RB := below_app hown hbel hB0 hgrow
        clear hown1 hgrow hown hbel hat hltg HT
        go_wp2
        go_roundw
        case rel => exact ⟨k + 1, by omega, by go_num, R, RB⟩
        case measure => simp [intOf]; omega
    · have hke : k = s.size := by omega
      have hcv := conv_own (P := Tryd.prog) wr w.heap.size 22 9 5 u4 (hexL s.data.toList) Tryd.underlying22 Tryd.underlying5 Tryd.underlying9 (by rw [hke, take_all] at hown; exact hown)
      clear hke
      go_wp2
      go_ret2
      exact ⟨rfl, hbel⟩
end Go.Proofs.YthppmncndindiaaDoor
