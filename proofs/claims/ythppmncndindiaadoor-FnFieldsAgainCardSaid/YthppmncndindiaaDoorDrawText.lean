/- What the model's functions that draw texts return. -/
import Derived.Test.YthppmncndindiaaDoorDraw
import Derived.Maps.Range
namespace Go.Proofs.YthppmncndindiaaDoor
open Go.RowKit Go.Lib

theorem infoT : (Tryd.prog.info? 5).map (fun i => (i.zero, i.size, i.bytes)) = some (some (.int .u8 0), 1, 1) := by kernel_rfl
theorem byteCells_one' (x : Int) (h0 : 0 ≤ x) (h1 : x ≤ 255) : [Value.int .u8 x] = byteCells [UInt8.ofNat x.toNat] := by
  simp [byteCells, UInt8.toNat_ofNat']
  omega

/-- One byte, turned into a string. -/
theorem conv_one (w : World) (x : Int) (h0 : 0 ≤ x) (h1 : x ≤ 255) :
    (convert 22 9 (.slice (some ⟨w.heap.size, 0, none⟩) 1 1)).run Tryd.prog (w.alloc (.cells #[.int .u8 x] 5)) = .ok (.string ⟨#[UInt8.ofNat x.toNat]⟩) (w.alloc (.cells #[.int .u8 x] 5)) := by
  have hx : ((UInt8.ofNat x.toNat).toNat : Int) = x := by rw [UInt8.toNat_ofNat']; omega
  exact run_convert_bytes_back (P := Tryd.prog) (w.alloc (.cells #[.int .u8 x] 5)) 22 9 5 ⟨w.heap.size, 0, none⟩ 1 [UInt8.ofNat x.toNat] Tryd.underlying22 Tryd.underlying5 Tryd.underlying9
    (fun j hj => by
      have hj0 : j = 0 := by simp at hj; omega
      subst hj0
      show _ = some (Value.int .u8 ((UInt8.ofNat x.toNat).toNat : Int))
      rw [hx]
      exact cell_one_new w (.int .u8 x) 5 0 _ rfl)

set_option maxHeartbeats 400000 in
theorem d_text (c : Nat) (a : Option Addr) (len cap : Nat) (z : List Int) (n : Nat) (w : World) (H : CurAt 55 w c a len cap z) (hn : n ≤ 5000) :
    Calls Tryd.prog 25 #[.pointer (some ⟨c, 0, none⟩), .int .i64 (n : Int)] w (DrawStr 55 n c a len cap z w) := by
  obtain ⟨i0, hi, hz0, hz1, hz2⟩ := info_parts infoT
  have hcl := H.lt
  have HC := Lib.hid H
  clear H
  go_enter Tryd.func25, Tryd.ntmps25
  go_wp2
  go_loopw [5, 6] (fun v i wr => ∃ (k : Nat) (l : List UInt8), k ≤ n ∧ i = .int .i64 (k : Int) ∧ l.length = k ∧ wr.ownsRow w.heap.size 5 1 v l.length (byteCells l) ∧ CurAt 55 wr c a len cap z ∧ w.grownBy wr (some c))
    (fun _ i _ => n - (intOf i).toNat)
  case atStart => exact ⟨0, [], Nat.zero_le _, rfl, rfl, World.ownsRow_made _ _ _ (Nat.le_refl _) (by decide) (by simp), HC.out.alloc _, grown_alloc' _ _ _⟩
  case round =>
    obtain ⟨k, l, hk, rfl, hll, hown, hcur, hg⟩ := hrel
    have HL := Lib.hid hll
    have HCU := Lib.hid hcur
    have HG := Lib.hid hg
    have hsz := hg.size
    clear hll hcur hg
    by_cases hlt : k < n
    · go_wp2_with fail
      refine (d_byte c a len cap z _ HCU.out).mono ?_
      rintro e w1 ⟨x, x0, x1, rfl, H1, G1⟩
      have hown1 := hown.kept G1 (.inr (by
        intro e
        have := hown.lt c e
        omega))
      have K1 := Lib.hid H1; have L1 := Lib.hid G1
      have hs1 := G1.size
      have h63 : l.length + 1 ≤ maxLen := by rw [HL.out]; unfold maxLen; omega
      have hby : (l.length + 1) * 1 ≤ 140737488355328 := by rw [HL.out]; omega
      clear H1 G1 hown
      go_wp2_with (at_builtin; refine wpList_append_own _ rfl _ _ 22 rfl w.heap.size 5 i0 (.int .u8 0) 1 1 Tryd.underlying22 hi hz0 hz1 hz2 rfl (by decide) _ _ _ rfl (hown1.alloc _) ⟨w1.heap.size, 0, none⟩ 1 1 [.int .u8 x] rfl rfl ?c1 ?c2 h63 hby ?c5 ?_)
      case c1 => exact cell_one_new _ _ _
      case c2 => intro u hu; simp at hu; subst hu; rfl
      case c5 => simp; omega
      intro v' w2 hown2 hgrow2 _
      have R := owns_cast (l := l ++ [UInt8.ofNat x.toNat]) hown2 (by rw [byteCells_append, byteCells_one' x x0 x1])
      have hlt2 := fun j hj => (hown1.lt j hj).1
      have C2 := ((K1.out.alloc (.cells #[.int .u8 x] 5)).kept hgrow2 (fun j hj => by have := hlt2 j hj; omega))
      have GG := World.grownBy.andThen ((HG.out.trans L1.out).trans (grown_alloc' w1 (.cells #[.int .u8 x] 5) (some c))) hgrow2 (fun j hj => .inl (hlt2 j hj))
      clear hown2 hgrow2 hown1 hlt2
      have RR := Lib.hid R; have CC := Lib.hid C2; have GH := Lib.hid GG
      clear R C2 GG
      go_wp2
      go_roundw
      case rel => exact ⟨k + 1, l ++ [UInt8.ofNat x.toNat], by omega, by go_num, by simp [HL.out], RR.out, CC.out, GH.out⟩
      case measure => simp [intOf]; omega
    · have hcv := conv_own (P := Tryd.prog) wr w.heap.size 22 9 5 u5 l Tryd.underlying22 Tryd.underlying5 Tryd.underlying9 hown
      go_wp2
      go_ret
      exact ⟨_, rfl, by show (l.toArray).size ≤ n; simp [HL.out]; omega, HCU.out, HG.out⟩

theorem made_bytes (n : Nat) : (madeCells #[.int .u8 0] (n * 1)).toList = byteCells (List.replicate n 0) := by
  apply List.ext_getElem
  · simp [madeCells, byteCells]
  · intro i h1 h2
    simp [madeCells, byteCells, Nat.mod_one]
theorem byteCells_set (l : List UInt8) (k : Nat) (x : UInt8) : (byteCells l).set k (.int .u8 x.toNat) = byteCells (l.set k x) := by simp [byteCells, List.map_set]

set_option maxHeartbeats 400000 in
theorem d_long (ni xi : Int) (n : Nat) (x : UInt8) (w : World) (hni : ni = n) (hxi : xi = x.toNat) (hn : n ≤ 1000000) :
    Calls Tryd.prog 23 #[.int .i64 ni, .int .u8 xi] w fun e w' => ∃ t : ByteArray, e = .returned (.string t) ∧ t.size = n ∧ Below w.heap.size w w' := by
  obtain ⟨i0, hi, hz0, hz1, hz2⟩ := info_parts infoT
  subst hni hxi
  go_enter Tryd.func23, Tryd.ntmps23
  go_wp2_with (at_make; refine wpList_make_full _ rfl _ _ 22 rfl w.heap.size 5 i0 (.int .u8 0) 1 Tryd.underlying22 hi hz0 hz1 _ _ _ _ n rfl rfl rfl rfl ?c1 ?c2 ?c3 ?_)
  case c1 => rw [hz2]; omega
  case c2 => unfold maxLen; omega
  case c3 => exact Nat.le_refl _
  intro w1 hown1 hgr1
  have hbel1 := (Below.refl w.heap.size w).grown hgr1 (Nat.le_refl _) (fun k hk => by cases hk)
  have hown1' : w1.ownsRow w.heap.size 5 1 (.slice (some ⟨w.heap.size, 0, none⟩) n n) n (byteCells (List.replicate n 0)) := by rw [← made_bytes, Nat.mul_one]; exact hown1
  clear hgr1 hown1
  go_wp2
  go_loopw [6] (fun i wr => ∃ (k : Nat) (l : List UInt8), k ≤ n ∧ i = .int .i64 (k : Int) ∧ l.length = n ∧ wr.ownsRow w.heap.size 5 1 (.slice (some ⟨w.heap.size, 0, none⟩) n n) n (byteCells l) ∧ Below w.heap.size w wr)
    (fun i _ => n - (intOf i).toNat)
  case atStart => exact ⟨0, _, Nat.zero_le _, rfl, by simp, hown1', hbel1⟩
  case round =>
    obtain ⟨k, l, hk, rfl, hll, hown, hbel⟩ := hrel
    have HL := Lib.hid hll
    clear hll
    by_cases hlt : k < n
    · have hkl : k < l.length := by rw [HL.out]; exact hlt
      obtain ⟨y, hcell⟩ : ∃ y : Int, wr.cell? ⟨w.heap.size, k, none⟩ = some (.int .u8 y) :=
        ⟨(l[k].toNat : Int), by rw [hown.cellAt k (by omega)]; simp [byteCells, hkl]⟩
      have hfr := hown.frozenAt k
      have S := (hown.stored k (.int .u8 (x.toNat : Int))).1
      rw [byteCells_set] at S
      have HS := Lib.hid S
      have HB := Lib.hid (hbel.setCell (p := ⟨w.heap.size, k, none⟩) (Nat.le_refl _) (.int .u8 (x.toNat : Int)))
      have k0 : (0 : Int) ≤ (k : Int) := by omega
      have k1 : (k : Int) < (n : Int) := by omega
      clear S hown hbel hkl
      go_wp2
      go_roundw
      case rel => exact ⟨k + 1, l.set k x, by omega, by go_num, by simp [HL.out], HS.out, HB.out⟩
      case measure => simp [intOf]; omega
    · have hcv := conv_own (P := Tryd.prog) wr w.heap.size 22 9 5 (.slice (some ⟨w.heap.size, 0, none⟩) n n) l Tryd.underlying22 Tryd.underlying5 Tryd.underlying9 (by rw [HL.out]; exact hown)
      go_wp2
      go_ret
      exact ⟨_, rfl, by show (l.toArray).size = n; simp [HL.out], hbel⟩
end Go.Proofs.YthppmncndindiaaDoor
