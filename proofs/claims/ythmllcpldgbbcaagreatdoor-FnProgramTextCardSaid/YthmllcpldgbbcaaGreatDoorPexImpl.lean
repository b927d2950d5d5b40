/- The program's ParseExpr. -/
import Derived.Test.YthmllcpldgbbcaaGreatDoorReadO
import Derived.Test.YthmllcpldgbbcaaGreatDoorPtImpl
import Derived.Test.YthmllcpldgbbcaaGreatDoorEokImpl
import Derived.Test.YthmllcpldgbbcaaGreatDoorMakeRow
import Derived.Test.YthmllcpldgbbcaaGreatDoorPlainA
import Derived.Deep.AppendLies
namespace Go.Proofs.YthmllcpldgbbcaaGreatDoor
open Go.RowKit Go.Lib

theorem tok_newI (w : World) (t : TokL) (T : TypeId) : ∀ j u, (tokV t)[j]? = some u → (w.alloc (.cells #[.int .i64 t.kind, .int .i64 t.num, .string t.name] T)).cell? ((⟨w.heap.size, 0, none⟩ : Addr).add j) = some u :=
  World.news_of_block (cs := (tokV t).toArray) (t := T) (fr := (0, 0)) (heap_alloc_new w _)

theorem tokV_oneI (t : TokL) : ∀ u ∈ tokV t, u.oneCell' = true := by
  intro u hu
  simp only [tokV, List.mem_cons, List.not_mem_nil, or_false] at hu
  rcases hu with rfl | rfl | rfl <;> rfl
theorem below_app3I {B e n s : Nat} {w0 wr w1 : World} {X : Obj} {v : Value} {xs : List Value} (hown : wr.ownsRow B e s v n xs) (hbel : Below B w0 wr) (hB : B ≤ wr.heap.size)
    (hg : (wr.alloc X).grownBy w1 v.ownBlock) : Below B w0 w1 :=
  (hbel.alloc hB X).grown hg (by simp; omega) (fun k hk => (hown.lt k hk).1)

set_option maxRecDepth 100000 in
set_option maxHeartbeats 4000000 in
theorem i_pexprO (a : Option Addr) (cap : Nat) (ws : List ByteArray) (w : World) (hl : ws.length ≤ 1048576) (hz : ∀ s ∈ ws, s.size ≤ 1048576) (hr : ReadO w a ws) (hE : Env w) :
    Calls Tryz.prog 71 #[.slice a ws.length cap] w (TokRes 66 w.heap.size (peZ ws).1 (peZ ws).2 w) := by
  obtain ⟨i0, hi, hz0, hz1, hz2⟩ := info_parts infoT
  have HE := Lib.hid hE
  clear hE
  have HZ := Lib.hid hz
  have HR := Lib.hid hr
  clear hz hr
  go_enter Tryz.func71, Tryz.ntmps71
  go_wp2_with fail
  go_loopw [4, 6, 7, 8, 11] (fun v _ _ _ x wr => ∃ (k : Nat) (l : List TokL), k ≤ ws.length ∧ x = .int .i64 (k : Int) ∧ toksO (ws.take k) = some l ∧ wr.ownsRow w.heap.size 66 3 v l.length (toksV l) ∧ Below w.heap.size w wr) (fun _ _ _ _ x _ => ws.length - (RowKit.intOf x).toNat)
  case atStart => exact ⟨0, [], Nat.zero_le _, rfl, rfl, World.ownsRow_nil _ _ _ _, Below.refl _ _⟩
  case round =>
    obtain ⟨k, l, hk, rfl, htk, hown, hbel⟩ := hrel
    have hll : l.length ≤ k := by have := toksO_len _ _ htk; rw [List.length_take] at this; omega
    have HTK := Lib.hid htk
    have HO := Lib.hid hown
    have HB := Lib.hid hbel
    have hB := hbel.size
    clear htk hown
    by_cases hlt : k < ws.length
    · obtain ⟨g, o, rfl, c0⟩ := HR.out k hlt
      have hg := World.block_lt_of_cell? w _ c0
      dsimp only at hg
      have d0 := (hbel.cell (p := ⟨g, o + k, none⟩) hg).trans c0
      have hsz := HZ.out _ (List.getElem_mem hlt)
      have HNX := Lib.hid (toksO_next ws k hlt l HTK.out)
      have HST := Lib.hid (toksO_stop ws k hlt)
      obtain ⟨s, hs⟩ : ∃ s, ws[k] = s := ⟨_, rfl⟩
      rw [hs] at d0 hsz HNX HST
      have S := Lib.hid (fun W hW => i_ptok s W hsz hW)
      rw [pt_same s] at S
      obtain ⟨t, ht⟩ : ∃ t, (ptS s).1 = t := ⟨_, rfl⟩
      obtain ⟨b, hb⟩ : ∃ b, (ptS s).2 = b := ⟨_, rfl⟩
      rw [ht, hb] at S HNX
      rw [hb] at HST
      unfold tokA at S
      have k0 : (0 : Int) ≤ (k : Int) := by omega
      have k1 : (k : Int) < (ws.length : Int) := by omega
      clear hs ht hb c0 hbel
      cases b
      · have HV := Lib.hid (peZ_no ws (HST.out rfl))
        go_wp2_with fail
        refine (S.out _ (HE.out.on HB.out)).mono ?_
        rintro e w1 ⟨rfl, b1⟩
        have HB1 := Lib.hid (HB.out.trans (b1.mono hB))
        have z1 := HB1.out.size
        clear b1
        go_wp2
        go_ret2
        rw [HV.out]
        exact ⟨_, rfl, World.ownsRow_nil _ _ _ _, HB1.out.alloc z1 _⟩
      · have HN1 := Lib.hid (HNX.out rfl)
        have h63 : l.length + 1 ≤ maxLen := by unfold maxLen; omega
        have hby : (l.length + 1) * 32 ≤ 140737488355328 := by omega
        go_wp2_with fail
        refine (S.out _ (HE.out.on HB.out)).mono ?_
        rintro e w1 ⟨rfl, b1⟩
        have HB1 := Lib.hid (HB.out.trans (b1.mono hB))
        have z1 := HB1.out.size
        have hown := (owns3_below HO.out b1).alloc (.cells #[.int .i64 t.kind, .int .i64 t.num, .string t.name] 66)
        clear b1
        go_wp2_with (at_builtin; refine wpList_append_own _ rfl _ _ 30 rfl w.heap.size 66 i0 _ 3 32 Tryz.underlying30 hi hz0 hz1 hz2 rfl (by decide) _ _ _ rfl (hown.alloc _) ⟨w1.heap.size + 1, 0, none⟩ 1 1 (tokV t) rfl rfl ?c1 ?c2 h63 hby ?c5 ?_)
        case c1 =>
          have h := tok_newI (w1.alloc (.cells #[.int .i64 t.kind, .int .i64 t.num, .string t.name] 66)) t 66
          rw [show (w1.alloc (.cells #[.int .i64 t.kind, .int .i64 t.num, .string t.name] 66)).heap.size = w1.heap.size + 1 from by simp] at h
          exact h
        case c2 => exact tokV_oneI _
        case c5 => first | omega | (simp; omega)
        intro v' w3 hown1 hgrow _
        have HO2 := Lib.hid (owns_toks (l := l ++ [t]) hown1 (by rw [toksV_append, toksV_one]))
        have HB2 := Lib.hid (below_app3I hown (HB1.out.alloc z1 _) (by simp; omega) hgrow)
        clear hown1 hgrow hown
        go_wp2
        go_roundw
        case rel => exact ⟨k + 1, l ++ [t], by omega, by go_num, HN1.out, HO2.out, HB2.out⟩
        case measure => simp [RowKit.intOf]; omega
    · have hall : toksO ws = some l := by have := HTK.out; rwa [List.take_of_length_le (by omega)] at this
      have hnm := names_max ws l hall
      have HY := Lib.hid (peZ_yes ws l hall)
      have HN := Lib.hid (peZ_bad ws l hall)
      obtain ⟨av, cv, rfl⟩ := owns3_shape HO.out
      have S := Lib.hid (fun W h => i_exprok av cv l W (by omega) h hnm)
      have HRT := Lib.hid (readT_of HO.out)
      obtain ⟨b, hb⟩ : ∃ b, exprB l = b := ⟨_, rfl⟩
      rw [hb] at S HY HN
      clear hb hall hnm hbel
      go_wp2_with fail
      refine (S.out _ HRT.out).mono ?_
      rintro e w1 ⟨rfl, b1⟩
      have HO1 := Lib.hid (owns3_below HO.out b1)
      have HB1 := Lib.hid (HB.out.trans (b1.mono hB))
      have z1 := HB1.out.size
      clear b1
      cases b
      · go_wp2
        go_ret2
        rw [HN.out (by simp)]
        exact ⟨_, rfl, World.ownsRow_nil _ _ _ _, HB1.out⟩
      · go_wp2
        go_ret2
        rw [HY.out (by simp)]
        exact ⟨_, rfl, HO1.out, HB1.out⟩
theorem i_pexpr (a : Option Addr) (cap : Nat) (ws : List ByteArray) (w : World) (hl : ws.length ≤ 1048576) (hz : ∀ s ∈ ws, s.size ≤ 1048576) (hr : ReadS w a ws) (hE : Env w) :
    Calls Tryz.prog 71 #[.slice a ws.length cap] w (TokRes 66 w.heap.size (peZ ws).1 (peZ ws).2 w) := i_pexprO a cap ws w hl hz (readO_of hr) hE
end Go.Proofs.YthmllcpldgbbcaaGreatDoor
