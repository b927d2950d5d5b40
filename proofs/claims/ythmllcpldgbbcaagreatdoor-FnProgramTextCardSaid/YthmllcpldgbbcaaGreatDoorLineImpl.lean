/- Walks: The program's lineKind; The program's lineOfWords; The program's readLine; errors.Is, handed errNoLine or nil, the target errNoLine; The program's ParseLine. -/
import Derived.Test.YthmllcpldgbbcaaGreatDoorShapes
import Derived.Test.YthmllcpldgbbcaaGreatDoorPexImpl
import Derived.Test.YthmllcpldgbbcaaGreatDoorFlnImpl
import Derived.Test.YthmllcpldgbbcaaGreatDoorFieldsImpl
import Derived.Test.YthmllcpldgbbcaaGreatDoorChecked
import Derived.Test.YthmllcpldgbbcaaGreatDoorPlainC
import Derived.WalkKit
import Derived.Laws.Rows
import Derived.RegionTactic
import Derived.LaidEql
import Derived.Stop.Asserts
import Derived.RowKitTokens
import Derived.Deep.RegionWith
/-! The program's lineKind -/
namespace Go.Proofs.YthmllcpldgbbcaaGreatDoor
open Go.RowKit Go.Lib

/-- The whole table in its block. -/
def Table (w : World) : Prop := ∃ (cs : Array Value) (t : TypeId) (fr : Nat × Nat), w.heap[1]? = some (.cells cs t fr) ∧ cs.size = 32 ∧
  ∀ k : Nat, k < 8 → cs[k * 4]? = some (.string (wordZ (k : Int))) ∧ cs[k * 4 + 1]? = some (.bool (namedB (k : Int))) ∧ cs[k * 4 + 2]? = some (.bool (decide ((k : Int) = 0))) ∧ cs[k * 4 + 3]? = some (.bool (exprK (k : Int)))
theorem var_block {P : Program} {w : World} {n : String} {g : Nat} {cs : Array Value} (hg : P.globalNamed n = some g) (h : w.var? P n = some cs) : ∃ t fr, w.heap[g]? = some (.cells cs t fr) := by
  unfold World.var? at h
  simp only [hg, Option.bind_some] at h
  split at h
  · rename_i c t fr hb
    injection h with h
    subst h
    exact ⟨t, fr, hb⟩
  · cases h
theorem table_head {rest : List (String × DataW Unit)} {W : World} (h : laidMet Tryz.prog (("loop.example/g03314/impl.lineShapes", Rows.laid_loop_example_g03314_impl_lineShapes) :: rest) W) : Table W := by
  obtain ⟨ps, ⟨g', t', cs, fuel, p, q, hg', ht', hvar, hd, _, _⟩, _⟩ := h
  obtain rfl := Option.some.inj (tSh.symm.trans ((Option.some.inj (gSh.symm.trans hg')) ▸ ht'))
  obtain ⟨t, fr, hb⟩ := var_block gSh hvar
  rw [laid_is] at hd
  have hc := cells_of_rows4 (P := Tryz.prog) Tryz.underlying60 Tryz.underlying59 cSh1 cSh Tryz.underlying9 Tryz.underlying4 Tryz.underlying4 Tryz.underlying4 ⟨rfl, cStr⟩ ⟨rfl, cBool⟩ ⟨rfl, cBool⟩ ⟨rfl, cBool⟩ hd
  have hlen : cs.size = 32 := by
    cases fuel with
    | zero => simp [DataW.trod] at hd
    | succ fuel =>
      simp only [DataW.trod, Tryz.underlying60, cSh1, cSh] at hd
      split at hd
      · rename_i hl
        simpa using hl
      · cases hd
  refine ⟨_, t, fr, hb, hlen, fun k hk => ?_⟩
  obtain ⟨⟨s, c0, e0⟩, c1, c2, c3⟩ := hc k _ (shapes_at k hk)
  exact ⟨by simpa [bl_eq e0] using c0, by simpa using c1, by simpa using c2, by simpa using c3⟩
theorem Table.on {w w' : World} (h : Table w) (hb : Below w.heap.size w w') : Table w' := by
  obtain ⟨cs, t, fr, hg, r⟩ := h
  refine ⟨cs, t, fr, (hb.block _ ?_).trans hg, r⟩
  rcases Nat.lt_or_ge 1 w.heap.size with h' | h'
  · exact h'
  · rw [Array.getElem?_eq_none h'] at hg; cases hg
theorem extract4 {cs : Array Value} {i : Nat} {c0 c1 c2 c3 : Value} (h0 : cs[i]? = some c0) (h1 : cs[i + 1]? = some c1) (h2 : cs[i + 2]? = some c2) (h3 : cs[i + 3]? = some c3) : cs.extract i (i + 4) = #[c0, c1, c2, c3] := by
  have hlt : i + 3 < cs.size := (Array.getElem?_eq_some_iff.1 h3).1
  apply Array.ext_getElem?
  intro j
  rw [Array.getElem?_extract]
  by_cases hj : j < 4
  · have : j = 0 ∨ j = 1 ∨ j = 2 ∨ j = 3 := by omega
    rcases this with rfl | rfl | rfl | rfl
    · rw [if_pos (by omega)]; simpa using h0
    · rw [if_pos (by omega)]; simpa using h1
    · rw [if_pos (by omega)]; simpa using h2
    · rw [if_pos (by omega)]; simpa using h3
  · rw [if_neg (by omega)]
    rw [Array.getElem?_eq_none (by simp; omega)]
theorem kind_at (s : ByteArray) (n : Nat) (hn : n < 8) (h : s = wordZ (n : Int)) : kindZ s = (n : Int) := by rw [h]; exact kind_word _ (by omega) (by omega)
theorem kind_none (s : ByteArray) (h : ∀ m : Nat, m < 8 → s ≠ wordZ (m : Int)) : kindZ s = -1 := by
  have h1 := kindZ_bd s
  by_cases h0 : 0 ≤ kindZ s
  · obtain ⟨e, h7⟩ := word_kind s _ rfl h0
    obtain ⟨m, hm⟩ := Int.eq_ofNat_of_zero_le h0
    rw [hm] at e
    exact absurd e (h m (by omega))
  · omega
theorem infoSh : (Tryz.prog.info? 60).map (·.size) = some 32 := by kernel_rfl

set_option maxRecDepth 100000 in
set_option maxHeartbeats 2000000 in
theorem i_kind (s : ByteArray) (w : World) (hT : Table w) : Calls Tryz.prog 70 #[.string s] w fun e w' => e = .returned (.int .i64 (kindZ s)) ∧ Below w.heap.size w w' := by
  obtain ⟨cs, tt, fr, hg, hcs, hk⟩ := hT
  have hsz : (Tryz.prog.info? 60).map (·.size) = some cs.size := by rw [hcs]; exact infoSh
  have HIX : Hid (∀ n : Nat, n < 8 → ∀ W : World, (Instr.index 60 (.agg cs) (.int .i64 (n : Int))).run Tryz.prog W = .ok (.agg #[.string (wordZ (n : Int)), .bool (namedB (n : Int)), .bool (decide ((n : Int) = 0)), .bool (exprK (n : Int))]) W) := Lib.hid (fun n hn W => by
    obtain ⟨c0, c1, c2, c3⟩ := hk n hn
    have hagg : (isAgg 59).run Tryz.prog W = .ok true W := by kernel_rfl
    have hso : (sizeOf 59).run Tryz.prog W = .ok 4 W := by kernel_rfl
    have h0 : (0 : Int) ≤ (n : Int) := by omega
    have h8 : (n : Int) < ((8 : Nat) : Int) := by omega
    unfold Instr.index part
    simp [asIntOf, run_underlying Tryz.underlying60, hso, hagg, h0, h8, extract4 c0 c1 c2 c3]
    intro h; omega)
  have HW := Lib.hid (fun (n : Nat) (hn : n < 8) (h : s = wordZ (n : Int)) => kind_at s n hn h)
  have HN := Lib.hid (kind_none s)
  clear hcs hk
  go_enter Tryz.func70, Tryz.ntmps70
  go_wp2_with (refine wpList_load_row rfl 60 _ rfl 1 rfl tt cs fr _ hg Tryz.underlying60 rfl hsz ?_)
  clear hg hsz
  go_loopw [3, 6] (fun _ x wr => ∃ n : Nat, n ≤ 8 ∧ x = .int .i64 (n : Int) ∧ Hid (∀ m : Nat, m < n → s ≠ wordZ (m : Int)) ∧ Below w.heap.size w wr) (fun _ x _ => 8 - (RowKit.intOf x).toNat)
  case atStart => exact ⟨0, by omega, rfl, Lib.hid (fun m h => absurd h (by omega)), Below.refl _ _⟩
  case round =>
    obtain ⟨n, hn, rfl, hno, hbel⟩ := hrel
    have HB := Lib.hid hbel
    have hB := hbel.size
    clear hbel
    by_cases hlt : n < 8
    · have hix := HIX.out n hlt
      have k0 : (n : Int) < 8 := by omega
      by_cases he : s = wordZ (n : Int)
      · have hv := HW.out n hlt he
        rw [← he] at hix
        clear he
        go_wp2_with (first | exact hix _ | fail)
        go_ret
        exact ⟨ret_int hv.symm, HB.out.alloc hB _⟩
      · have hne := str_ne _ _ (fun h => he h.symm)
        go_wp2_with (first | exact hix _ | fail)
        go_roundw
        case rel =>
          refine ⟨n + 1, by omega, by go_num, Lib.hid (fun m hm => ?_), HB.out.alloc hB _⟩
          rcases Nat.lt_or_ge m n with h | h
          · exact hno.out m h
          · obtain rfl : m = n := by omega
            exact he
        case measure => simp [RowKit.intOf]; omega
    · have hv := HN.out (fun m hm => hno.out m (by omega))
      go_wp2
      go_ret
      exact ⟨ret_int hv.symm, HB.out⟩
end Go.Proofs.YthmllcpldgbbcaaGreatDoor

/-! The program's lineOfWords -/
namespace Go.Proofs.YthmllcpldgbbcaaGreatDoor
open Go.RowKit Go.Lib

theorem soStr : ∀ W, (sizeOf 9).run Tryz.prog W = .ok 1 W := fun _ => by kernel_rfl
set_option maxRecDepth 100000 in
set_option maxHeartbeats 2000000 in
theorem i_low (a : Option Addr) (cap : Nat) (ws : List ByteArray) (w : World) (hn : 0 < ws.length) (hl : ws.length ≤ 1048576) (hc : ws.length ≤ cap) (hc2 : cap ≤ maxLen) (hz : ∀ s ∈ ws, s.size ≤ 1048576) (hr : ReadO w a ws) (hE : Env w) (hT : Table w) (hS : Shapes w) :
    Calls Tryz.prog 48 #[.slice a ws.length cap] w (LnRes 9 66 w.heap.size (lowI ws) w) := by
  cases ws with
  | nil => simp at hn
  | cons x r =>
  obtain ⟨g, o, rfl, d0⟩ := hr 0 (by simp)
  have hg := World.block_lt_of_cell? w _ d0
  dsimp only at hg
  simp only [Nat.add_zero, List.getElem_cons_zero] at d0
  have HR := Lib.hid hr
  have HE := Lib.hid hE
  have HT := Lib.hid hT
  have HS := Lib.hid hS
  have HZ := Lib.hid hz
  clear hr hE hT hS hz
  have S0 := Lib.hid (fun W h => i_kind x W h)
  obtain ⟨k, hk⟩ : ∃ k, kindZ x = k := ⟨_, rfl⟩
  have HK := Lib.hid hk
  rw [hk] at S0
  have hkb := kindZ_bd x
  rw [hk] at hkb
  obtain ⟨kb1, kb7⟩ := hkb
  clear hk
  have HB0 := Lib.hid ((Below.refl w.heap.size w).alloc (Nat.le_refl _) (.cells #[.int .i64 0, .string ⟨#[]⟩, .slice none 0 0, .slice none 0 0] 32))
  have T0 := Lib.hid (heap_alloc_new w (.cells #[.int .i64 0, .string ⟨#[]⟩, .slice none 0 0, .slice none 0 0] 32))
  obtain ⟨n, hnn⟩ : ∃ n, (x :: r).length = n := ⟨_, rfl⟩
  rw [hnn] at hn hl hc ⊢
  have HN := Lib.hid hnn
  have hn0 : (0 : Int) < (n : Int) := by omega
  clear hnn
  go_enter Tryz.func48, Tryz.ntmps48
  go_wp2_with fail
  refine (S0.out _ (HT.out.on HB0.out)).mono ?_
  rintro e w1 ⟨rfl, b1⟩
  have tz : (w.alloc (.cells #[.int .i64 0, .string ⟨#[]⟩, .slice none 0 0, .slice none 0 0] 32)).heap.size = w.heap.size + 1 := by simp
  have z1 := b1.size
  rw [tz] at z1 b1
  have P1 := Lib.hid ((b1.block _ (by omega)).trans T0.out)
  have HB1 : Hid (Below w.heap.size w w1) := Lib.hid (HB0.out.trans (b1.mono (by omega)))
  have P2 := Lib.hid ((Below.heap_alloc w1 (.cells #[.int .i64 k, .string ⟨#[]⟩, .slice none 0 0, .slice none 0 0] 32) _ (by omega : w.heap.size < w1.heap.size)).trans P1.out)
  have X2 := Lib.hid (heap_alloc_new w1 (.cells #[.int .i64 k, .string ⟨#[]⟩, .slice none 0 0, .slice none 0 0] 32))
  have HB2 : Hid (Below w.heap.size w (w1.alloc (.cells #[.int .i64 k, .string ⟨#[]⟩, .slice none 0 0, .slice none 0 0] 32))) := Lib.hid (HB1.out.alloc (by omega) _)
  have hzz : (w1.alloc (.cells #[.int .i64 k, .string ⟨#[]⟩, .slice none 0 0, .slice none 0 0] 32)).heap.size = w1.heap.size + 1 := by simp
  obtain ⟨W2, hW2⟩ : ∃ W, w1.alloc (.cells #[.int .i64 k, .string ⟨#[]⟩, .slice none 0 0, .slice none 0 0] 32) = W := ⟨_, rfl⟩
  rw [hW2] at P2 X2 HB2 hzz
  have HW2 := Lib.hid hW2
  have hRX : w.heap.size < w1.heap.size := by omega
  clear tz b1 T0 HB0 hW2 d0 hg hn0
  by_cases hk0 : k < 0
  · have HV : Hid (lowI (x :: r) = ⟨k, ⟨#[]⟩, [], []⟩) := Lib.hid (by unfold lowI; dsimp only [List.headD_cons]; rw [HK.out, if_pos hk0])
    have hkd : decide (k < 0) = true := decide_eq_true hk0
    have c20 : W2.cell? ⟨w1.heap.size, 0, none⟩ = some (.int .i64 k) := (blk X2.out).1 0 _ rfl
    have c21 : W2.cell? ⟨w1.heap.size, 1, none⟩ = some (.string ⟨#[]⟩) := (blk X2.out).1 1 _ rfl
    have c22 : W2.cell? ⟨w1.heap.size, 2, none⟩ = some (.slice none 0 0) := (blk X2.out).1 2 _ rfl
    have c23 : W2.cell? ⟨w1.heap.size, 3, none⟩ = some (.slice none 0 0) := (blk X2.out).1 3 _ rfl
    have d0 : W2.cell? ⟨w.heap.size, 0, none⟩ = some (.int .i64 0) := (blk P2.out).1 0 _ rfl
    have d1 : W2.cell? ⟨w.heap.size, 1, none⟩ = some (.string ⟨#[]⟩) := (blk P2.out).1 1 _ rfl
    have d2 : W2.cell? ⟨w.heap.size, 2, none⟩ = some (.slice none 0 0) := (blk P2.out).1 2 _ rfl
    have d3 : W2.cell? ⟨w.heap.size, 3, none⟩ = some (.slice none 0 0) := (blk P2.out).1 3 _ rfl
    have g10 := (blk P2.out).2.1 0
    have g11 := (blk P2.out).2.1 1
    have g12 := (blk P2.out).2.1 2
    have g13 := (blk P2.out).2.1 3
    have m1 := (blk P2.out).2.2
    have m2 := (blk X2.out).2.2
    go_upto_region 2 with fail
    go_cut [13] (fun q wx => q = .bool true ∧ wx = W2)
    case first =>
      go_wp2_with fail
      go_meet
      exact ⟨by first | rfl | rw [hkd], HW2.out⟩
    case rest =>
    obtain ⟨rfl, rfl⟩ := hcut
    rename World => W2
    go_wp2
    refine bodyPost_ret (v := .agg #[.int .i64 k, .string ⟨#[]⟩, .slice none 0 0, .slice none 0 0]) (by simp [results, Tryz.results48, go_sem, d0, d1, d2, d3, m1, m2]) rfl ⟨.slice none 0 0, .slice none 0 0, by rw [HV.out], by rw [HV.out]; exact World.ownsRow_nil _ _ _ _, by rw [HV.out]; exact World.ownsRow_nil _ _ _ _, ?_⟩
    exact (((HB2.out.setCell (by simp) _).setCell (by simp) _).setCell (by simp) _).setCell (by simp) _
  have hkd : decide (k < 0) = false := decide_eq_false hk0
  obtain ⟨j, rfl⟩ := Int.eq_ofNat_of_zero_le (by omega : 0 ≤ k)
  have hj8 : j < 8 := by omega
  have k1 : (j : Int) < 8 := by omega
  have HV : Hid (lowI (x :: r) = ⟨(j : Int), nameW (j : Int) r, if (j : Int) = 0 then restW (j : Int) r else [], if exprK (j : Int) = true then (peZ (restW (j : Int) r)).1 else []⟩) := Lib.hid (by unfold lowI; dsimp only [List.headD_cons, List.tail_cons]; rw [HK.out, if_neg hk0])
  have hrl : r.length + 1 = n := by have := HN.out; simpa using this
  obtain ⟨o', ho', hsl⟩ := run_rest Tryz.underlying29 soStr g o n r.length cap (by omega) hc
  have HRT : Hid (ReadO w (some ⟨g, o', none⟩) r) := Lib.hid (HR.out.tail ho')
  obtain ⟨e0, e1, e2, e3⟩ := (HS.out.on HB2.out).at j hj8
  obtain ⟨wd, hwd⟩ : ∃ x, wordZ (j : Int) = x := ⟨_, rfl⟩
  obtain ⟨nb, hnb⟩ : ∃ x, namedB (j : Int) = x := ⟨_, rfl⟩
  obtain ⟨ab, hab⟩ : ∃ x, decide ((j : Int) = 0) = x := ⟨_, rfl⟩
  obtain ⟨eb, heb⟩ : ∃ x, exprK (j : Int) = x := ⟨_, rfl⟩
  rw [hwd] at e0
  rw [hnb] at e1
  rw [hab] at e2
  rw [heb] at e3
  have HNB := Lib.hid hnb
  have HAB := Lib.hid hab
  have HEB := Lib.hid heb
  clear hwd hnb hab heb
  have c20 : W2.cell? ⟨w1.heap.size, 0, none⟩ = some (.int .i64 (j : Int)) := (blk X2.out).1 0 _ rfl
  have gl : 1 < W2.heap.size := World.block_lt_of_cell? W2 _ e0
  have m2 := (blk X2.out).2.2
  go_upto_region 2 with fail
  go_cut [13] (fun q wx => q = .bool false ∧ wx = W2)
  case first =>
    go_wp2_with fail
    go_meet
    exact ⟨by first | rfl | rw [hkd], HW2.out⟩
  case rest =>
  obtain ⟨rfl, rfl⟩ := hcut
  rename World => W2
  have HSL := Lib.hid hsl
  clear hsl
  go_upto_region 4 with fail
  go_cut [4, 5] (fun q v wx => q = .pointer (some ⟨w1.heap.size + 1, 0, none⟩) ∧ v = .slice (some ⟨g, o', none⟩) r.length (cap - 1) ∧ Hid (Below W2.heap.size W2 wx) ∧ Hid (wx.heap[w1.heap.size + 1]? = some (.cells #[.string wd, .bool nb, .bool ab, .bool eb] 59 (0, 0))))
  case first =>
    have hsl := HSL.out
    have HA0 := (Below.refl W2.heap.size W2).alloc (Nat.le_refl _) (.cells #[.string ⟨#[]⟩, .bool false, .bool false, .bool false] 59)
    have a0 := (HA0.cell (p := ⟨1, j * 4, none⟩) gl).trans e0
    have a1 := (HA0.cell (p := ⟨1, j * 4 + 1, none⟩) gl).trans e1
    have a2 := (HA0.cell (p := ⟨1, j * 4 + 2, none⟩) gl).trans e2
    have a3 := (HA0.cell (p := ⟨1, j * 4 + 3, none⟩) gl).trans e3
    have b0 := (HA0.cell (p := ⟨w1.heap.size, 0, none⟩) m2).trans c20
    clear HA0
    have q0 : (0 : Int) ≤ (j : Int) := by omega
    go_wp2_with fail
    go_region
    all_goals go_wp2_with fail
    all_goals go_meet
    have hN := heap_alloc_new W2 (.cells #[.string wd, .bool nb, .bool ab, .bool eb] 59)
    rw [hzz] at hN
    exact ⟨rfl, rfl, Lib.hid ((Below.refl _ _).alloc (Nat.le_refl _) _).drew, Lib.hid hN⟩
  case rest =>
  obtain ⟨rfl, rfl, HB3', S3⟩ := hcut
  rename World => W3
  have z3 := HB3'.out.size
  have HB3 : Hid (Below w.heap.size w W3) := Lib.hid (HB2.out.trans (HB3'.out.mono (by omega)))
  have X3 := Lib.hid ((HB3'.out.block _ (by omega)).trans X2.out)
  have P3 := Lib.hid ((HB3'.out.block _ (by omega)).trans P2.out)
  have s1 : W3.cell? ⟨w1.heap.size + 1, 1, none⟩ = some (.bool nb) := (blk S3.out).1 1 _ rfl
  obtain ⟨tb, htb⟩ : ∃ x, (nb && decide (0 < r.length)) = x := ⟨_, rfl⟩
  have HTB := Lib.hid htb
  clear htb HB3' X2 P2 HB2 e0 e1 e2 e3 c20 gl m2 HW2 HSL
  go_upto_region 5 with fail
  go_cut [27] (fun q wx => q = .bool tb ∧ wx = W3)
  case first =>
    cases nb
    · go_wp2_with fail
      go_meet
      exact ⟨by rw [← HTB.out]; simp, rfl⟩
    · go_wp2_with fail
      go_meet
      exact ⟨by rw [← HTB.out]; simp, rfl⟩
  case rest =>
  obtain ⟨rfl, rfl⟩ := hcut
  rename World => W3
  go_upto_if 27 with fail
  go_cut [5] (fun v wy => ∃ o2 c2, v = .slice (some ⟨g, o2, none⟩) (restW (j : Int) r).length c2 ∧ Hid (ReadO w (some ⟨g, o2, none⟩) (restW (j : Int) r)) ∧ Hid (Below w.heap.size w wy) ∧ Hid (wy.heap[w1.heap.size]? = some (.cells #[.int .i64 (j : Int), .string (nameW (j : Int) r), .slice none 0 0, .slice none 0 0] 32 (0, 0))) ∧
    Hid (wy.heap[w.heap.size]? = some (.cells #[.int .i64 0, .string ⟨#[]⟩, .slice none 0 0, .slice none 0 0] 32 (0, 0))) ∧ Hid (wy.heap[w1.heap.size + 1]? = some (.cells #[.string wd, .bool nb, .bool ab, .bool eb] 59 (0, 0))))
  case first =>
    cases tb
    · have hx : restW (j : Int) r = r ∧ nameW (j : Int) r = ⟨#[]⟩ := by
        unfold restW nameW
        rw [HNB.out]
        have h := HTB.out
        cases nb
        · exact ⟨rfl, rfl⟩
        · have h0 : r.length = 0 := by simp at h; simp [h]
          obtain rfl := List.length_eq_zero_iff.1 h0
          exact ⟨rfl, rfl⟩
      have HX := Lib.hid hx
      clear hx
      go_wp2_with fail
      go_meet
      refine ⟨o', cap - 1, by rw [HX.out.1], ?_, HB3, ?_, P3, S3⟩
      · rw [HX.out.1]; exact HRT
      · rw [HX.out.2]; exact X3
    · have h := HTB.out
      obtain ⟨hb1, hr1⟩ : nb = true ∧ 0 < r.length := by simpa using h
      have HNB1 := HNB.out
      rw [hb1] at HNB1
      cases r with
      | nil => simp at hr1
      | cons y r2 =>
      have hx : restW (j : Int) (y :: r2) = r2 ∧ nameW (j : Int) (y :: r2) = y := by
        unfold restW nameW
        rw [HNB1]
        exact ⟨rfl, rfl⟩
      have HX := Lib.hid hx
      have hlr : (y :: r2).length = r2.length + 1 := rfl
      obtain ⟨o2, ho2, hsl⟩ := run_rest Tryz.underlying29 soStr g o' (y :: r2).length r2.length (cap - 1) rfl (by omega)
      have HR2 : Hid (ReadO w (some ⟨g, o2, none⟩) r2) := Lib.hid (HRT.out.tail ho2)
      have cy := HRT.out.head
      have hg := World.block_lt_of_cell? w _ cy
      dsimp only at hg
      have dy : W3.cell? ⟨g, o', none⟩ = some (.string y) := (HB3.out.cell (p := ⟨g, o', none⟩) hg).trans cy
      obtain ⟨nn, hnn⟩ : ∃ x, (y :: r2).length = x := ⟨_, rfl⟩
      rw [hnn] at hsl hr1 hlr ⊢
      have k2 : (0 : Int) < (nn : Int) := by omega
      have x1 : W3.cell? ⟨w1.heap.size, 1, none⟩ = some (.string ⟨#[]⟩) := (blk X3.out).1 1 _ rfl
      have fx := (blk X3.out).2.1 1
      have lx := (blk X3.out).2.2
      have HNN := Lib.hid hnn
      obtain ⟨cc, hcc⟩ : ∃ x, cap - 1 = x := ⟨_, rfl⟩
      rw [hcc] at hsl ⊢
      have HCC := Lib.hid hcc
      clear hx h HNB1 hb1 cy hnn hlr hcc
      go_wp2_with fail
      go_region
      all_goals go_wp2_with fail
      all_goals go_meet
      have hX := heap_setCell_at (j := 1) X3.out (.string y)
      have hP := (set_other (j := 1) (v := .string y) (by omega : w.heap.size ≠ w1.heap.size)).trans P3.out
      have hS := (set_other (j := 1) (v := .string y) (by omega : w1.heap.size + 1 ≠ w1.heap.size)).trans S3.out
      refine ⟨o2, cc - 1, by rw [HX.out.1], ?_, Lib.hid (HB3.out.setCell (by simp; omega) _).drew, ?_, Lib.hid hP, Lib.hid hS⟩
      · rw [HX.out.1]; exact HR2
      · rw [HX.out.2]; exact Lib.hid hX
  case rest =>
  obtain ⟨o2, c2, rfl, HRQ, HBy, HXy, HPy, HSy⟩ := hcut
  rename World => wy
  have HQS : Hid ((restW (j : Int) r).length ≤ 1048576 ∧ ∀ s ∈ restW (j : Int) r, s.size ≤ 1048576) := Lib.hid (by
    have h := HZ.out
    unfold restW
    split
    · refine ⟨by rw [List.length_tail]; omega, fun s hs => h s (List.mem_cons_of_mem _ (List.mem_of_mem_tail hs))⟩
    · exact ⟨by omega, fun s hs => h s (List.mem_cons_of_mem _ hs)⟩)
  obtain ⟨Q, hQ⟩ : ∃ x, restW (j : Int) r = x := ⟨_, rfl⟩
  obtain ⟨nm, hnm⟩ : ∃ x, nameW (j : Int) r = x := ⟨_, rfl⟩
  rw [hQ] at HV HRQ HQS ⊢
  rw [hnm] at HV HXy
  clear hQ hnm HTB P3 X3 S3 HB3 HRT ho' s1
  have s2 : wy.cell? ⟨w1.heap.size + 1, 2, none⟩ = some (.bool ab) := (blk HSy.out).1 2 _ rfl
  have s3 : wy.cell? ⟨w1.heap.size + 1, 3, none⟩ = some (.bool eb) := (blk HSy.out).1 3 _ rfl
  have ly : w1.heap.size + 1 < wy.heap.size := (blk HSy.out).2.2
  have x0 : wy.cell? ⟨w1.heap.size, 0, none⟩ = some (.int .i64 (j : Int)) := (blk HXy.out).1 0 _ rfl
  have x1 : wy.cell? ⟨w1.heap.size, 1, none⟩ = some (.string nm) := (blk HXy.out).1 1 _ rfl
  have x2 : wy.cell? ⟨w1.heap.size, 2, none⟩ = some (.slice none 0 0) := (blk HXy.out).1 2 _ rfl
  have x3 : wy.cell? ⟨w1.heap.size, 3, none⟩ = some (.slice none 0 0) := (blk HXy.out).1 3 _ rfl
  have f2 := (blk HXy.out).2.1 2
  have f3 := (blk HXy.out).2.1 3
  have d0 : wy.cell? ⟨w.heap.size, 0, none⟩ = some (.int .i64 0) := (blk HPy.out).1 0 _ rfl
  have d1 : wy.cell? ⟨w.heap.size, 1, none⟩ = some (.string ⟨#[]⟩) := (blk HPy.out).1 1 _ rfl
  have d2 : wy.cell? ⟨w.heap.size, 2, none⟩ = some (.slice none 0 0) := (blk HPy.out).1 2 _ rfl
  have d3 : wy.cell? ⟨w.heap.size, 3, none⟩ = some (.slice none 0 0) := (blk HPy.out).1 3 _ rfl
  have g10 := (blk HPy.out).2.1 0
  have g11 := (blk HPy.out).2.1 1
  have g12 := (blk HPy.out).2.1 2
  have g13 := (blk HPy.out).2.1 3
  have m1 := (blk HPy.out).2.2
  have m2 := (blk HXy.out).2.2
  by_cases hj0 : (j : Int) = 0
  · have hab : ab = true := by rw [← HAB.out]; exact decide_eq_true hj0
    have heb : eb = false := by rw [← HEB.out, hj0]; decide
    have HL : Hid (lowI (x :: r) = ⟨(j : Int), nm, Q, []⟩) := Lib.hid (by rw [HV.out, if_pos hj0, if_neg (by rw [hj0]; decide)])
    subst hab heb
    clear hj0
    obtain ⟨i0, hi, hz0, hz1, hz2⟩ := info_parts infoStL
    have hown : wy.ownsRow wy.heap.size 9 1 (.slice none 0 0) 0 [] := World.ownsRow_nil _ _ _ _
    have RQ := Lib.hid (HRQ.out.below HBy.out)
    have h63 : 0 + Q.length ≤ maxLen := by have := HQS.out.1; unfold maxLen; omega
    have hby : (0 + Q.length) * 16 ≤ 140737488355328 := by have := HQS.out.1; omega
    have HNW : Hid (∀ (i : Nat) u, (strV Q)[i]? = some u → wy.cell? ((⟨g, o2, none⟩ : Addr).add i) = some u) := Lib.hid (fun i u hu => by
      have hj : i < Q.length := by have := (List.getElem?_eq_some_iff.1 hu).1; rwa [strV_length] at this
      obtain ⟨g', o3, e, cc⟩ := RQ.out i hj
      injection e with e
      injection e with e1 e2
      subst e1 e2
      rw [add_plain, cc]
      unfold strV at hu
      rw [List.getElem?_map, List.getElem?_eq_getElem hj] at hu
      exact hu)
    go_wp2_with (at_builtin; refine wpList_append_own _ rfl _ _ 29 rfl wy.heap.size 9 i0 _ 1 16 Tryz.underlying29 hi hz0 hz1 hz2 rfl (by decide) _ _ _ rfl hown ⟨g, o2, none⟩ Q.length c2 (strV Q) rfl (by rw [strV_length]; omega) HNW.out (strs_one Q) h63 hby (Nat.le_refl _) ?_)
    intro v' w6 hown6 hgrow _
    obtain ⟨ax, cx, rfl⟩ := owns_shape hown6
    have HO6 : Hid (w6.ownsRow wy.heap.size 9 1 (.slice ax Q.length cx) Q.length (strV Q)) := Lib.hid hown6
    have HB6 : Hid (Below w.heap.size w w6) := Lib.hid (HBy.out.grown hgrow (by omega) (fun i hi => by simp [Value.ownBlock] at hi))
    have X6 := Lib.hid ((hgrow.block _ m2 (by simp [Value.ownBlock])).trans HXy.out)
    have P6 := Lib.hid ((hgrow.block _ m1 (by simp [Value.ownBlock])).trans HPy.out)
    have S6 := Lib.hid ((hgrow.block _ ly (by simp [Value.ownBlock])).trans HSy.out)
    clear x0 x1 x2 x3 f2 f3 d0 d1 d2 d3 g10 g11 g12 g13 m1 m2 s2 s3 hown6 hgrow hown
    have y0 : w6.cell? ⟨w1.heap.size, 0, none⟩ = some (.int .i64 (j : Int)) := (blk X6.out).1 0 _ rfl
    have y1 : w6.cell? ⟨w1.heap.size, 1, none⟩ = some (.string nm) := (blk X6.out).1 1 _ rfl
    have y2 : w6.cell? ⟨w1.heap.size, 2, none⟩ = some (.slice none 0 0) := (blk X6.out).1 2 _ rfl
    have y3 : w6.cell? ⟨w1.heap.size, 3, none⟩ = some (.slice none 0 0) := (blk X6.out).1 3 _ rfl
    have v2 := (blk X6.out).2.1 2
    have s3 : w6.cell? ⟨w1.heap.size + 1, 3, none⟩ = some (.bool false) := (blk S6.out).1 3 _ rfl
    have d0 : w6.cell? ⟨w.heap.size, 0, none⟩ = some (.int .i64 0) := (blk P6.out).1 0 _ rfl
    have d1 : w6.cell? ⟨w.heap.size, 1, none⟩ = some (.string ⟨#[]⟩) := (blk P6.out).1 1 _ rfl
    have d2 : w6.cell? ⟨w.heap.size, 2, none⟩ = some (.slice none 0 0) := (blk P6.out).1 2 _ rfl
    have d3 : w6.cell? ⟨w.heap.size, 3, none⟩ = some (.slice none 0 0) := (blk P6.out).1 3 _ rfl
    have g10 := (blk P6.out).2.1 0
    have g11 := (blk P6.out).2.1 1
    have g12 := (blk P6.out).2.1 2
    have g13 := (blk P6.out).2.1 3
    have m1 := (blk P6.out).2.2
    have m2 := (blk X6.out).2.2
    go_wp2
    refine bodyPost_ret (v := .agg #[.int .i64 (j : Int), .string nm, .slice ax Q.length cx, .slice none 0 0]) (by simp [results, Tryz.results48, go_sem, d0, d1, d2, d3, m1, m2]) rfl ⟨.slice ax Q.length cx, .slice none 0 0, by rw [HL.out], ?_, by rw [HL.out]; exact World.ownsRow_nil _ _ _ _, ?_⟩
    · rw [HL.out]
      exact owns_lo (owns_set (owns_set (owns_set (owns_set (owns_set HO6.out (by omega)) (by omega)) (by omega)) (by omega)) (by omega)) (by omega)
    · exact ((((HB6.out.setCell (by simp; omega) _).setCell (by simp) _).setCell (by simp) _).setCell (by simp) _).setCell (by simp) _
  · have hab : ab = false := by rw [← HAB.out]; exact decide_eq_false hj0
    subst hab
    cases eb
    · have HL : Hid (lowI (x :: r) = ⟨(j : Int), nm, [], []⟩) := Lib.hid (by rw [HV.out, if_neg hj0, if_neg (by rw [HEB.out]; decide)])
      clear hj0
      go_wp2
      refine bodyPost_ret (v := .agg #[.int .i64 (j : Int), .string nm, .slice none 0 0, .slice none 0 0]) (by simp [results, Tryz.results48, go_sem, d0, d1, d2, d3, m1, m2]) rfl ⟨.slice none 0 0, .slice none 0 0, by rw [HL.out], by rw [HL.out]; exact World.ownsRow_nil _ _ _ _, by rw [HL.out]; exact World.ownsRow_nil _ _ _ _, ?_⟩
      exact (((HBy.out.setCell (by simp) _).setCell (by simp) _).setCell (by simp) _).setCell (by simp) _
    · have HL : Hid (lowI (x :: r) = ⟨(j : Int), nm, [], (peZ Q).1⟩) := Lib.hid (by rw [HV.out, if_neg hj0, if_pos HEB.out])
      clear hj0
      have PE := Lib.hid (i_pexprO (some ⟨g, o2, none⟩) c2 Q wy HQS.out.1 HQS.out.2 (HRQ.out.below HBy.out) (HE.out.on HBy.out))
      go_wp2_with fail
      refine PE.out.mono ?_
      rintro e w6 ⟨ve, rfl, O6, b6⟩
      obtain ⟨ax, cx, rfl⟩ := owns3_shape O6
      have HO6 := Lib.hid O6
      have HB6 : Hid (Below w.heap.size w w6) := Lib.hid (HBy.out.trans (b6.mono (by omega)))
      have X6 := Lib.hid ((b6.block _ (by omega)).trans HXy.out)
      have P6 := Lib.hid ((b6.block _ (by omega)).trans HPy.out)
      obtain ⟨el, hel⟩ : ∃ x, (peZ Q).1 = x := ⟨_, rfl⟩
      rw [hel] at HO6 HL ⊢
      clear x0 x1 x2 x3 f2 f3 d0 d1 d2 d3 g10 g11 g12 g13 m1 m2 s2 s3 b6 hel O6
      have y0 : w6.cell? ⟨w1.heap.size, 0, none⟩ = some (.int .i64 (j : Int)) := (blk X6.out).1 0 _ rfl
      have y1 : w6.cell? ⟨w1.heap.size, 1, none⟩ = some (.string nm) := (blk X6.out).1 1 _ rfl
      have y2 : w6.cell? ⟨w1.heap.size, 2, none⟩ = some (.slice none 0 0) := (blk X6.out).1 2 _ rfl
      have y3 : w6.cell? ⟨w1.heap.size, 3, none⟩ = some (.slice none 0 0) := (blk X6.out).1 3 _ rfl
      have v3 := (blk X6.out).2.1 3
      have d0 : w6.cell? ⟨w.heap.size, 0, none⟩ = some (.int .i64 0) := (blk P6.out).1 0 _ rfl
      have d1 : w6.cell? ⟨w.heap.size, 1, none⟩ = some (.string ⟨#[]⟩) := (blk P6.out).1 1 _ rfl
      have d2 : w6.cell? ⟨w.heap.size, 2, none⟩ = some (.slice none 0 0) := (blk P6.out).1 2 _ rfl
      have d3 : w6.cell? ⟨w.heap.size, 3, none⟩ = some (.slice none 0 0) := (blk P6.out).1 3 _ rfl
      have g10 := (blk P6.out).2.1 0
      have g11 := (blk P6.out).2.1 1
      have g12 := (blk P6.out).2.1 2
      have g13 := (blk P6.out).2.1 3
      have m1 := (blk P6.out).2.2
      have m2 := (blk X6.out).2.2
      go_wp2
      refine bodyPost_ret (v := .agg #[.int .i64 (j : Int), .string nm, .slice none 0 0, .slice ax el.length cx]) (by simp [results, Tryz.results48, go_sem, d0, d1, d2, d3, m1, m2]) rfl ⟨.slice none 0 0, .slice ax el.length cx, by rw [HL.out], by rw [HL.out]; exact World.ownsRow_nil _ _ _ _, ?_, ?_⟩
      · rw [HL.out]
        exact owns_lo (owns_set (owns_set (owns_set (owns_set (owns_set HO6.out (by omega)) (by omega)) (by omega)) (by omega)) (by omega)) (by omega)
      · exact ((((HB6.out.setCell (by simp; omega) _).setCell (by simp) _).setCell (by simp) _).setCell (by simp) _).setCell (by simp) _
end Go.Proofs.YthmllcpldgbbcaaGreatDoor

/-! The program's readLine -/
namespace Go.Proofs.YthmllcpldgbbcaaGreatDoor
open Go.RowKit Go.Lib

theorem gN : Tryz.prog.globalNamed "loop.example/g03314/impl.errNoLine" = some 0 := by kernel_rfl
/-- The program's error, in its variable. -/
def NoL (p : Addr) (w : World) : Prop := w.var? Tryz.prog "loop.example/g03314/impl.errNoLine" = some #[.iface 167 (.pointer (some p))]
theorem NoL.on {p : Addr} {w w' : World} (h : NoL p w) (hb : Below w.heap.size w w') : NoL p w' := var_on gN h hb
theorem NoL.at {p : Addr} {w : World} (h : NoL p w) : w.cell? ⟨0, 0, none⟩ = some (.iface 167 (.pointer (some p))) := World.var?_cell gN h 0
theorem i_spl (s : ByteArray) (w : World) (hm : s.size ≤ maxLen) : Calls Tryz.prog 47 #[.string s] w (Strs 9 w.heap.size (spR s).1 (spR s).2 w) := by
  by_cases h : s.size ≤ 600
  · exact i_split s w h
  · exact i_split_long s w (by omega) hm
/-- What lineOfWords makes is small. -/
theorem low_small (ws : List ByteArray) (hl : ws.length ≤ 24) (hz : ∀ s ∈ ws, s.size ≤ 600) : (lowI ws).args.length ≤ 2000000 ∧ (∀ s ∈ (lowI ws).args, s.size ≤ maxLen) ∧ (lowI ws).name.size ≤ maxLen ∧ (lowI ws).expr.length ≤ 1048576 ∧ NamesI (lowI ws).expr := by
  have hpe : ∀ l : List ByteArray, NamesI (peZ l).1 := fun l => by
    unfold peZ
    split
    · rename_i t ht
      split
      · exact names_max _ _ ht
      · intro j hj; simp at hj
    · intro j hj; simp at hj
  have hts : ∀ s ∈ ws.tail, s.size ≤ 600 := fun s hs => hz s (List.mem_of_mem_tail hs)
  have htl : ws.tail.length ≤ 24 := by rw [List.length_tail]; omega
  have hr : (restW (kindZ (ws.headD ⟨#[]⟩)) ws.tail).length ≤ 24 ∧ ∀ s ∈ restW (kindZ (ws.headD ⟨#[]⟩)) ws.tail, s.size ≤ 600 := by
    unfold restW
    split
    · exact ⟨by rw [List.length_tail]; omega, fun s hs => hts s (List.mem_of_mem_tail hs)⟩
    · exact ⟨htl, hts⟩
  have hn : (nameW (kindZ (ws.headD ⟨#[]⟩)) ws.tail).size ≤ 600 := by
    unfold nameW
    split
    · cases h : ws.tail with
      | nil => exact Nat.zero_le _
      | cons a b => rw [h] at hts; exact hts a (by simp)
    · exact Nat.zero_le _
  unfold lowI
  dsimp only
  split
  · exact ⟨by simp, by simp, Nat.zero_le _, by simp, fun j hj => by simp at hj⟩
  · refine ⟨?_, ?_, by unfold maxLen; dsimp only; omega, ?_, ?_⟩
    · dsimp only; split
      · omega
      · simp
    · dsimp only; split
      · intro s hs; have := hr.2 s hs; unfold maxLen; omega
      · simp
    · dsimp only; split
      · have := peZ_len (restW (kindZ (ws.headD ⟨#[]⟩)) ws.tail); omega
      · simp
    · dsimp only; split
      · exact hpe _
      · intro j hj; simp at hj
/-- readLine's answer. -/
def RlRes (B : Nat) (p : Addr) (r : PLine × Bool) (w : World) (e : Ending) (w' : World) : Prop :=
  ∃ va ve, e = .returned (.tuple #[.agg #[.int .i64 r.1.kind, .string r.1.name, va, ve], if r.2 = true then .nilIface else .iface 167 (.pointer (some p))]) ∧
    w'.ownsRow B 9 1 va r.1.args.length (strV r.1.args) ∧ w'.ownsRow B 66 3 ve r.1.expr.length (toksV r.1.expr) ∧ Below w.heap.size w w'

set_option maxRecDepth 100000 in
set_option maxHeartbeats 2000000 in
theorem i_rl (s : ByteArray) (p : Addr) (w : World) (hm : s.size ≤ maxLen) (hE : Env w) (hT : Table w) (hS : Shapes w) (hN : NoL p w) :
    Calls Tryz.prog 24 #[.string s] w (RlRes w.heap.size p (plI s) w) := by
  have HE := Lib.hid hE
  have HT := Lib.hid hT
  have HS := Lib.hid hS
  have HN := Lib.hid hN
  clear hE hT hS hN
  have HB0 := Lib.hid ((Below.refl w.heap.size w).alloc (Nat.le_refl _) (.cells #[.int .i64 0, .string ⟨#[]⟩, .slice none 0 0, .slice none 0 0] 32))
  have T0 := Lib.hid (heap_alloc_new w (.cells #[.int .i64 0, .string ⟨#[]⟩, .slice none 0 0, .slice none 0 0] 32))
  have S1 := Lib.hid (fun W => i_spl s W hm)
  have HSM := Lib.hid (fun (h : (spR s).2 = true) => field_small s (spR s).1 (by rw [← h]))
  have HPN := Lib.hid (plI_no s)
  have HPY := Lib.hid (plI_yes s)
  have hln := spR_len s
  obtain ⟨ws, hws⟩ : ∃ x, (spR s).1 = x := ⟨_, rfl⟩
  obtain ⟨ok, hok⟩ : ∃ x, (spR s).2 = x := ⟨_, rfl⟩
  rw [hws] at S1 HSM HPN HPY hln
  rw [hok] at S1 HSM HPN HPY
  clear hws hok
  go_enter Tryz.func24, Tryz.ntmps24
  go_wp2_with fail
  refine (S1.out _).mono ?_
  rintro e w1 ⟨v, rfl, O1, b1⟩
  obtain ⟨av, cv, rfl⟩ := owns_shape O1
  have hcap := cap_of O1
  have HRD := Lib.hid (readO_of (reads_of O1))
  have tz : (w.alloc (.cells #[.int .i64 0, .string ⟨#[]⟩, .slice none 0 0, .slice none 0 0] 32)).heap.size = w.heap.size + 1 := by simp
  have z1 := b1.size
  rw [tz] at z1 b1
  have P1 := Lib.hid ((b1.block _ (by omega)).trans T0.out)
  have HB1 : Hid (Below w.heap.size w w1) := Lib.hid (HB0.out.trans (b1.mono (by omega)))
  have n0 := (HN.out.on HB1.out).at
  have d0 : w1.cell? ⟨w.heap.size, 0, none⟩ = some (.int .i64 0) := (blk P1.out).1 0 _ rfl
  have d1 : w1.cell? ⟨w.heap.size, 1, none⟩ = some (.string ⟨#[]⟩) := (blk P1.out).1 1 _ rfl
  have d2 : w1.cell? ⟨w.heap.size, 2, none⟩ = some (.slice none 0 0) := (blk P1.out).1 2 _ rfl
  have d3 : w1.cell? ⟨w.heap.size, 3, none⟩ = some (.slice none 0 0) := (blk P1.out).1 3 _ rfl
  have g10 := (blk P1.out).2.1 0
  have g11 := (blk P1.out).2.1 1
  have g12 := (blk P1.out).2.1 2
  have g13 := (blk P1.out).2.1 3
  have m1 := (blk P1.out).2.2
  have hg0 : 0 < w.heap.size := World.block_lt_of_cell? w _ HN.out.at
  have n1 : (w1.setCell ⟨w.heap.size, 0, none⟩ (.int .i64 0)).cell? ⟨0, 0, none⟩ = some (.iface 167 (.pointer (some p))) := (World.cell?_setCell_other _ _ _ _ (by intro e; injection e with e; omega)).trans n0
  clear tz b1 T0 HB0 O1
  cases ok
  · have HX : Hid (plI s = (zeroL, false)) := Lib.hid (HPN.out (fun h => absurd h.1 (by decide)))
    go_wp2_with fail
    go_region
    all_goals go_wp2
    all_goals refine bodyPost_ret (v := .tuple #[.agg #[.int .i64 0, .string ⟨#[]⟩, .slice none 0 0, .slice none 0 0], .iface 167 (.pointer (some p))]) (by simp [results, Tryz.results24, go_sem, d0, d1, d2, d3, m1]) rfl ⟨.slice none 0 0, .slice none 0 0, by rw [HX.out]; rfl, by rw [HX.out]; exact World.ownsRow_nil _ _ _ _, by rw [HX.out]; exact World.ownsRow_nil _ _ _ _, ?_⟩
    all_goals exact ((((HB1.out.setCell (by simp) _).setCell (by simp) _).setCell (by simp) _).setCell (by simp) _).drew
  rcases Nat.eq_zero_or_pos ws.length with hw0 | hw0
  · obtain rfl := List.length_eq_zero_iff.1 hw0
    have HX : Hid (plI s = (zeroL, false)) := Lib.hid (HPN.out (fun h => h.2.1 rfl))
    rw [hw0]
    go_wp2_with fail
    go_region
    all_goals go_wp2
    all_goals refine bodyPost_ret (v := .tuple #[.agg #[.int .i64 0, .string ⟨#[]⟩, .slice none 0 0, .slice none 0 0], .iface 167 (.pointer (some p))]) (by simp [results, Tryz.results24, go_sem, d0, d1, d2, d3, m1]) rfl ⟨.slice none 0 0, .slice none 0 0, by rw [HX.out]; rfl, by rw [HX.out]; exact World.ownsRow_nil _ _ _ _, by rw [HX.out]; exact World.ownsRow_nil _ _ _ _, ?_⟩
    all_goals exact ((((HB1.out.setCell (by simp) _).setCell (by simp) _).setCell (by simp) _).setCell (by simp) _).drew
  have hd0 : ((ws.length : Int) == 0) = false := beq_eq_false_iff_ne.2 (by omega)
  have HW : Hid (∀ s ∈ ws, s.size ≤ 600) := Lib.hid (HSM.out rfl)
  obtain ⟨y1, y2, y3, y4, y5⟩ := low_small ws hln HW.out
  have L := Lib.hid (i_low av cv ws w1 hw0 (by omega) hcap.1 hcap.2 (fun s hs => Nat.le_trans (HW.out s hs) (by decide)) HRD.out (HE.out.on HB1.out) (HT.out.on HB1.out) (HS.out.on HB1.out))
  clear hg0 n1 n0 g10 g11 g12 g13 m1 d0 d1 d2 d3
  go_wp2_with fail
  refine L.out.mono ?_
  rintro e w2 ⟨va, ve, rfl, O2, O3, b2⟩
  have HM : InMem 9 66 w2 ⟨(lowI ws).kind, (lowI ws).name, (lowI ws).args, (lowI ws).expr, va, ve⟩ := ⟨owns_lo O2 (Nat.zero_le _), owns_lo O3 (Nat.zero_le _)⟩
  obtain ⟨a, b, c, d, e1, e2, HA, HX, hcc, hnil⟩ := inMem_shape HM
  dsimp only at e1 e2 HA HX hcc
  subst e1 e2
  have HSZ : Hid (SzOk (lowI ws) c) := Lib.hid ⟨y1, hcc.1, hcc.2, y2, y3, y4, y5⟩
  obtain ⟨x, hx⟩ : ∃ x, lowI ws = x := ⟨_, rfl⟩
  rw [hx] at O2 O3 HA HX HSZ HPN HPY ⊢
  clear hx y1 y2 y3 y4 y5 hcc HM L
  have HPN' : Hid (lineT x ≠ s → plI s = (zeroL, false)) := Lib.hid (fun h => HPN.out (fun e => h e.2.2))
  have HPY' : Hid (lineT x = s → plI s = (x, true)) := Lib.hid (fun h => HPY.out ⟨by trivial, by intro e; rw [e] at hw0; exact absurd hw0 (by decide), h⟩)
  have F := Lib.hid (fun W h1 h2 h3 h4 => i_fline x a b c d W h1 h2 HSZ.out h3 h4 hnil)
  obtain ⟨t, ht⟩ : ∃ t, lineT x = t := ⟨_, rfl⟩
  rw [ht] at F HPN' HPY'
  obtain ⟨k, nm, gs, ex⟩ := x
  dsimp only at O2 O3 HA HX F ⊢
  have z2 := b2.size
  have HB2 : Hid (Below w.heap.size w w2) := Lib.hid (HB1.out.trans (b2.mono (by omega)))
  have P2 := Lib.hid ((b2.block _ (by omega)).trans P1.out)
  have HBn : Hid (Below w2.heap.size w2 (w2.alloc (.cells #[.int .i64 k, .string nm, .slice a gs.length c, .slice b ex.length d] 32))) := Lib.hid ((Below.refl _ _).alloc (Nat.le_refl _) _)
  have HB3 : Hid (Below w.heap.size w (w2.alloc (.cells #[.int .i64 k, .string nm, .slice a gs.length c, .slice b ex.length d] 32))) := Lib.hid (HB2.out.alloc (by omega) _)
  have X3 := Lib.hid (heap_alloc_new w2 (.cells #[.int .i64 k, .string nm, .slice a gs.length c, .slice b ex.length d] 32))
  have P3 := Lib.hid ((Below.heap_alloc w2 (.cells #[.int .i64 k, .string nm, .slice a gs.length c, .slice b ex.length d] 32) _ (by omega : w.heap.size < w2.heap.size)).trans P2.out)
  have tz : (w2.alloc (.cells #[.int .i64 k, .string nm, .slice a gs.length c, .slice b ex.length d] 32)).heap.size = w2.heap.size + 1 := by simp
  have HA3 := Lib.hid (HA.below HBn.out)
  have HX3 := Lib.hid (HX.below HBn.out)
  have HO2 := Lib.hid (owns_below O2 HBn.out)
  have HO3 := Lib.hid (owns3_below O3 HBn.out)
  clear HA HX O2 O3 b2 P1 P2 ht
  go_wp2_with fail
  refine (F.out _ HA3.out HX3.out (HS.out.on HB3.out) (HE.out.on HB3.out).2).mono ?_
  rintro e w4 ⟨rfl, b4⟩
  have z4 := b4.size
  rw [tz] at z4 b4
  have HB4 : Hid (Below w.heap.size w w4) := Lib.hid (HB3.out.trans (b4.mono (by omega)))
  have X4 := Lib.hid ((b4.block _ (by omega)).trans X3.out)
  have P4 := Lib.hid ((b4.block _ (by omega)).trans P3.out)
  have b4' : Below (w2.alloc (.cells #[.int .i64 k, .string nm, .slice a gs.length c, .slice b ex.length d] 32)).heap.size (w2.alloc (.cells #[.int .i64 k, .string nm, .slice a gs.length c, .slice b ex.length d] 32)) w4 := by rw [tz]; exact b4
  have HO4 := Lib.hid (owns_below HO2.out b4')
  have HO5 := Lib.hid (owns3_below HO3.out b4')
  clear b4 b4' tz P3 X3
  have n0 := (HN.out.on HB4.out).at
  have d0 : w4.cell? ⟨w.heap.size, 0, none⟩ = some (.int .i64 0) := (blk P4.out).1 0 _ rfl
  have d1 : w4.cell? ⟨w.heap.size, 1, none⟩ = some (.string ⟨#[]⟩) := (blk P4.out).1 1 _ rfl
  have d2 : w4.cell? ⟨w.heap.size, 2, none⟩ = some (.slice none 0 0) := (blk P4.out).1 2 _ rfl
  have d3 : w4.cell? ⟨w.heap.size, 3, none⟩ = some (.slice none 0 0) := (blk P4.out).1 3 _ rfl
  have x0 : w4.cell? ⟨w2.heap.size, 0, none⟩ = some (.int .i64 k) := (blk X4.out).1 0 _ rfl
  have x1 : w4.cell? ⟨w2.heap.size, 1, none⟩ = some (.string nm) := (blk X4.out).1 1 _ rfl
  have x2 : w4.cell? ⟨w2.heap.size, 2, none⟩ = some (.slice a gs.length c) := (blk X4.out).1 2 _ rfl
  have x3 : w4.cell? ⟨w2.heap.size, 3, none⟩ = some (.slice b ex.length d) := (blk X4.out).1 3 _ rfl
  have g10 := (blk P4.out).2.1 0
  have g11 := (blk P4.out).2.1 1
  have g12 := (blk P4.out).2.1 2
  have g13 := (blk P4.out).2.1 3
  have m1 := (blk P4.out).2.2
  have m2 := (blk X4.out).2.2
  by_cases hts : t = s
  · subst hts
    have HX : Hid (plI t = (⟨k, nm, gs, ex⟩, true)) := Lib.hid (HPY'.out rfl)
    go_wp2
    refine bodyPost_ret (v := .tuple #[.agg #[.int .i64 k, .string nm, .slice a gs.length c, .slice b ex.length d], .nilIface]) (by simp [results, Tryz.results24, go_sem, d0, d1, d2, d3, m1, m2]) rfl ⟨.slice a gs.length c, .slice b ex.length d, by rw [HX.out]; rfl, ?_, ?_, ?_⟩
    · rw [HX.out]; exact owns_lo (owns_set (owns_set (owns_set (owns_set HO4.out (by omega)) (by omega)) (by omega)) (by omega)) (by omega)
    · rw [HX.out]; exact owns_lo (owns_set (owns_set (owns_set (owns_set HO5.out (by omega)) (by omega)) (by omega)) (by omega)) (by omega)
    · exact (((HB4.out.setCell (by simp) _).setCell (by simp) _).setCell (by simp) _).setCell (by simp) _
  · have HX : Hid (plI s = (zeroL, false)) := Lib.hid (HPN'.out hts)
    have hne := str_ne _ _ hts
    have hg0 : 0 < w.heap.size := World.block_lt_of_cell? w _ HN.out.at
    have n1 : (w4.setCell ⟨w.heap.size, 0, none⟩ (.int .i64 0)).cell? ⟨0, 0, none⟩ = some (.iface 167 (.pointer (some p))) := (World.cell?_setCell_other _ _ _ _ (by intro e; injection e with e; omega)).trans n0
    go_wp2_with fail
    go_region
    all_goals go_wp2
    all_goals refine bodyPost_ret (v := .tuple #[.agg #[.int .i64 0, .string ⟨#[]⟩, .slice none 0 0, .slice none 0 0], .iface 167 (.pointer (some p))]) (by simp [results, Tryz.results24, go_sem, d0, d1, d2, d3, m1]) rfl ⟨.slice none 0 0, .slice none 0 0, by rw [HX.out]; rfl, by rw [HX.out]; exact World.ownsRow_nil _ _ _ _, by rw [HX.out]; exact World.ownsRow_nil _ _ _ _, ?_⟩
    all_goals exact ((((HB4.out.setCell (by simp) _).setCell (by simp) _).setCell (by simp) _).setCell (by simp) _).drew
end Go.Proofs.YthmllcpldgbbcaaGreatDoor

/-! errors.Is, handed errNoLine or nil, the target errNoLine -/
namespace Go.Proofs.YthmllcpldgbbcaaGreatDoor
open Go.RowKit Go.Extern.Stop Go.Stop Go.Extern
theorem isTypeOf (v : Value) (w : World) : (Extern.ReflectliteType.typeOf #[.iface 167 v]).run Tryz.prog w = .ok (.iface 107 (.agg #[.pointer (some ⟨8, 167, none⟩)])) w := by kernel_rfl
def cmpE : Array Value → Sem Value := Extern.ReflectliteType.method fun t => do Rtype.noPackHeld "Comparable" t; pure (.bool (← typeInfo t).comparable)
theorem isComparable (w : World) : (cmpE #[.agg #[.pointer (some ⟨8, 167, none⟩)]]).run Tryz.prog w = .ok (.bool true) w := by kernel_rfl
theorem isMethodComparable (v : Value) (w : World) : (Go.method 301 107 v "Comparable").run Tryz.prog w = .ok (157, v) w := by kernel_rfl
theorem isComp : (Tryz.prog.info? 167).map (·.comparable) = some true := by kernel_rfl
theorem isSize : (Tryz.prog.info? 169).map (·.size) = some 1 := by kernel_rfl
set_option maxRecDepth 100000 in
set_option maxHeartbeats 2000000 in
/-- errors.Is(x, x), x a pointer to an errors.errorString. -/
theorem is_same (a : Addr) (w : World) :
    Calls Tryz.prog 25 #[.iface 167 (.pointer (some a)), .iface 167 (.pointer (some a))] w fun e w' => e = .returned (.bool true) ∧ w' = w := by
  obtain ⟨i, hi, hcmp⟩ := Option.map_eq_some_iff.1 isComp
  obtain ⟨j, hj, hjs⟩ := Option.map_eq_some_iff.1 isSize
  have h8 := @run_callFunc_extern Tryz.prog 49 _ Extern.ReflectliteType.typeOf Tryz.func49 (by kernel_rfl) (by kernel_rfl) (by kernel_rfl) (by kernel_rfl)
  have h32 := @run_callFunc_extern Tryz.prog 157 _ cmpE Tryz.func157 (by kernel_rfl) (by kernel_rfl) (by kernel_rfl) (by kernel_rfl)
  have tT := isTypeOf
  have cT := isComparable
  have mR := isMethodComparable
  have heq := run_eql_iface_ptr_same (P := Tryz.prog) w a Tryz.underlying48 Tryz.underlying167 hi hcmp hj
  go_enter Tryz.func25, Tryz.ntmps25
  go_wp2
  refine wp_loop_rounds 1 ?_
  rw [rounds_succ]
  go_wp2
  go_ret
  exact ⟨rfl, rfl⟩

/-- errors.Is(nil, x). -/
theorem is_nil (b : Addr) (w : World) :
    Calls Tryz.prog 25 #[.nilIface, .iface 167 (.pointer (some b))] w fun e w' => e = .returned (.bool false) ∧ w' = w := by
  have hn := run_eql_iface_nil_left (P := Tryz.prog) w 167 (.pointer (some b)) Tryz.underlying48
  go_enter Tryz.func25, Tryz.ntmps25
  go_wp2
  go_ret
  exact ⟨rfl, rfl⟩
end Go.Proofs.YthmllcpldgbbcaaGreatDoor

/-! The program's ParseLine -/
namespace Go.Proofs.YthmllcpldgbbcaaGreatDoor
open Go.RowKit Go.Lib

set_option maxRecDepth 100000 in
set_option maxHeartbeats 2000000 in
theorem i_pline (s : ByteArray) (p : Addr) (w : World) (hm : s.size ≤ maxLen) (hE : Env w) (hT : Table w) (hS : Shapes w) (hN : NoL p w) :
    Calls Tryz.prog 9 #[.string s] w (PlRes 9 66 w.heap.size (plZ s) w) := by
  rw [← pl_same]
  have HN := Lib.hid hN
  have HB0 := Lib.hid ((Below.refl w.heap.size w).alloc (Nat.le_refl _) (.cells #[.int .i64 0, .string ⟨#[]⟩, .slice none 0 0, .slice none 0 0] 32))
  have T0 := Lib.hid (heap_alloc_new w (.cells #[.int .i64 0, .string ⟨#[]⟩, .slice none 0 0, .slice none 0 0] 32))
  have S1 := Lib.hid (i_rl s p _ hm (hE.on HB0.out) (hT.on HB0.out) (hS.on HB0.out) (hN.on HB0.out))
  clear hE hT hS hN
  obtain ⟨r, hr⟩ : ∃ r, plI s = r := ⟨_, rfl⟩
  rw [hr] at S1 ⊢
  clear hr
  obtain ⟨⟨k, nm, gs, ex⟩, ok⟩ := r
  go_enter Tryz.func9, Tryz.ntmps9
  go_wp2_with fail
  refine S1.out.mono ?_
  rintro e w1 ⟨va, ve, rfl, O2, O3, b1⟩
  obtain ⟨a, c, rfl⟩ := owns_shape O2
  obtain ⟨b, d, rfl⟩ := owns3_shape O3
  dsimp only at O2 O3 ⊢
  have tz : (w.alloc (.cells #[.int .i64 0, .string ⟨#[]⟩, .slice none 0 0, .slice none 0 0] 32)).heap.size = w.heap.size + 1 := by simp
  have z1 := b1.size
  rw [tz] at z1 b1 O2 O3
  have P1 := Lib.hid ((b1.block _ (by omega)).trans T0.out)
  have HB1 : Hid (Below w.heap.size w w1) := Lib.hid (HB0.out.trans (b1.mono (by omega)))
  have HBn : Hid (Below w1.heap.size w1 (w1.alloc (.cells #[.int .i64 k, .string nm, .slice a gs.length c, .slice b ex.length d] 32))) := Lib.hid ((Below.refl _ _).alloc (Nat.le_refl _) _)
  have HB3 : Hid (Below w.heap.size w (w1.alloc (.cells #[.int .i64 k, .string nm, .slice a gs.length c, .slice b ex.length d] 32))) := Lib.hid (HB1.out.alloc (by omega) _)
  have X3 := Lib.hid (heap_alloc_new w1 (.cells #[.int .i64 k, .string nm, .slice a gs.length c, .slice b ex.length d] 32))
  have P3 := Lib.hid ((Below.heap_alloc w1 (.cells #[.int .i64 k, .string nm, .slice a gs.length c, .slice b ex.length d] 32) _ (by omega : w.heap.size < w1.heap.size)).trans P1.out)
  have HO2 := Lib.hid (owns_below O2 HBn.out)
  have HO3 := Lib.hid (owns3_below O3 HBn.out)
  obtain ⟨W2, hW2⟩ : ∃ W, w1.alloc (.cells #[.int .i64 k, .string nm, .slice a gs.length c, .slice b ex.length d] 32) = W := ⟨_, rfl⟩
  rw [hW2] at HB3 X3 P3 HO2 HO3
  have HW2 := Lib.hid hW2
  have hg0 : 0 < w.heap.size := World.block_lt_of_cell? w _ HN.out.at
  have n0 := (HN.out.on HB3.out).at
  have d0 : W2.cell? ⟨w.heap.size, 0, none⟩ = some (.int .i64 0) := (blk P3.out).1 0 _ rfl
  have d1 : W2.cell? ⟨w.heap.size, 1, none⟩ = some (.string ⟨#[]⟩) := (blk P3.out).1 1 _ rfl
  have d2 : W2.cell? ⟨w.heap.size, 2, none⟩ = some (.slice none 0 0) := (blk P3.out).1 2 _ rfl
  have d3 : W2.cell? ⟨w.heap.size, 3, none⟩ = some (.slice none 0 0) := (blk P3.out).1 3 _ rfl
  have x0 : W2.cell? ⟨w1.heap.size, 0, none⟩ = some (.int .i64 k) := (blk X3.out).1 0 _ rfl
  have x1 : W2.cell? ⟨w1.heap.size, 1, none⟩ = some (.string nm) := (blk X3.out).1 1 _ rfl
  have x2 : W2.cell? ⟨w1.heap.size, 2, none⟩ = some (.slice a gs.length c) := (blk X3.out).1 2 _ rfl
  have x3 : W2.cell? ⟨w1.heap.size, 3, none⟩ = some (.slice b ex.length d) := (blk X3.out).1 3 _ rfl
  have g10 := (blk P3.out).2.1 0
  have g11 := (blk P3.out).2.1 1
  have g12 := (blk P3.out).2.1 2
  have g13 := (blk P3.out).2.1 3
  have m1 := (blk P3.out).2.2
  have m2 := (blk X3.out).2.2
  have n1 : (W2.setCell ⟨w.heap.size, 0, none⟩ (.int .i64 k)).cell? ⟨0, 0, none⟩ = some (.iface 167 (.pointer (some p))) := (World.cell?_setCell_other _ _ _ _ (by intro e; injection e with e; omega)).trans n0
  clear tz b1 P1 T0 HB0 O2 O3 HBn hW2 hg0
  cases ok
  · simp only [Bool.false_eq_true, if_false]
    go_upto_region 2 with fail
    rw [HW2.out]
    go_region_with (first | (go_at_call 25; refine (is_same p _).mono ?_; rintro e w' ⟨rfl, rfl⟩))
    all_goals go_wp2
    all_goals refine bodyPost_ret (v := .tuple #[.agg #[.int .i64 k, .string nm, .slice a gs.length c, .slice b ex.length d], .bool false]) (by simp [results, Tryz.results9, go_sem, d0, d1, d2, d3, m1]) rfl ⟨.slice a gs.length c, .slice b ex.length d, rfl, (owns_lo (owns_set (owns_set (owns_set (owns_set HO2.out (by omega)) (by omega)) (by omega)) (by omega)) (by omega)).drew, (owns_lo (owns_set (owns_set (owns_set (owns_set HO3.out (by omega)) (by omega)) (by omega)) (by omega)) (by omega)).drew, ((((HB3.out.setCell (by simp) _).setCell (by simp) _).setCell (by simp) _).setCell (by simp) _).drew⟩
  · simp only [if_true]
    go_upto_region 2 with fail
    rw [HW2.out]
    go_region_with (first | (go_at_call 25; refine (is_nil p _).mono ?_; rintro e w' ⟨rfl, rfl⟩))
    all_goals go_wp2
    all_goals refine bodyPost_ret (v := .tuple #[.agg #[.int .i64 k, .string nm, .slice a gs.length c, .slice b ex.length d], .bool true]) (by simp [results, Tryz.results9, go_sem, d0, d1, d2, d3, m1]) rfl ⟨.slice a gs.length c, .slice b ex.length d, rfl, (owns_lo (owns_set (owns_set (owns_set (owns_set HO2.out (by omega)) (by omega)) (by omega)) (by omega)) (by omega)).drew, (owns_lo (owns_set (owns_set (owns_set (owns_set HO3.out (by omega)) (by omega)) (by omega)) (by omega)) (by omega)).drew, ((((HB3.out.setCell (by simp) _).setCell (by simp) _).setCell (by simp) _).setCell (by simp) _).drew⟩
end Go.Proofs.YthmllcpldgbbcaaGreatDoor
