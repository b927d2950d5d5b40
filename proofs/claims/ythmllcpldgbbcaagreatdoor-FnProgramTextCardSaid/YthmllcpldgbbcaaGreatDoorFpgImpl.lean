/- The program's FormatProgram. -/
import Derived.Test.YthmllcpldgbbcaaGreatDoorFlnImpl
import Derived.Test.YthmllcpldgbbcaaGreatDoorBuild
import Derived.Test.YthmllcpldgbbcaaGreatDoorPlainB
namespace Go.Proofs.YthmllcpldgbbcaaGreatDoor
open Go.RowKit Go.Lib

theorem Bld.below {B b : Nat} {l : List UInt8} {w w' : World} (h : Bld B b l w) (hb : Below w.heap.size w w') : Bld B b l w' := by
  have key : ∀ p, BuilderAt 46 5 B b p (byteCells l) w → BuilderAt 46 5 B b p (byteCells l) w' := by
    rintro p ⟨h1, v, h2, h3, h4⟩
    exact ⟨h1, v, (hb.block b (blk h2).2.2).trans h2, h3.kept (row := none) ⟨hb.os, hb.tape, hb.output, hb.size, fun j hj _ => hb.block j hj⟩ (by
      cases v.ownBlock with
      | none => exact .inl rfl
      | some x => exact .inr (by simp)), h4⟩
  rcases h with h | h
  · exact .inl (key _ h)
  · exact .inr (key _ h)

/-- What is asked of the lines' sizes. -/
def SzAll (X : List LnL) : Prop := ∀ x ∈ X, SmallL x.p
set_option maxRecDepth 100000 in
set_option maxHeartbeats 4000000 in
theorem i_fprog (a : Option Addr) (cap : Nat) (X : List LnL) (w : World) (hl : X.length ≤ 2000000) (hr : ReadL 9 66 w a X) (hz : SzAll X) (hsh : Shapes w) (htab : Tab w) :
    Calls Tryz.prog 7 #[.slice a X.length cap] w fun e w' => e = .returned (.string (progT (plL X))) ∧ Below w.heap.size w w' := by
  have HR := Lib.hid hr
  have HZ := Lib.hid hz
  have HSH := Lib.hid hsh
  have HTAB := Lib.hid htab
  clear hr hz hsh htab
  by_cases h60 : 60 < X.length
  · have HV := Lib.hid (progT_long (plL X) (by rw [plL_length]; exact h60))
    have hd : decide (60 < (X.length : Int)) = true := decide_eq_true (by omega)
    go_enter Tryz.func7, Tryz.ntmps7
    go_wp2
    go_ret
    exact ⟨ret_s HV.out.symm, Below.refl _ _⟩
  have hd : decide (60 < (X.length : Int)) = false := decide_eq_false (by omega)
  have HB0 := Lib.hid (show Bld w.heap.size w.heap.size [] (w.alloc (.cells #[.pointer none, .slice none 0 0] 46)) from fresh_isBuilder _ _ _)
  go_enter Tryz.func7, Tryz.ntmps7
  go_wp2_with fail
  go_loopw [5, 6, 12] (fun _ _ i wr => ∃ k : Nat, k ≤ X.length ∧ i = .int .i64 (k : Int) ∧ Hid (((plL X).take k).all lineB = true) ∧ Bld w.heap.size w.heap.size (prB ((plL X).take k)) wr ∧ Below w.heap.size w wr) (fun _ _ i _ => X.length - (RowKit.intOf i).toNat)
  case atStart => exact ⟨0, Nat.zero_le _, rfl, Lib.hid rfl, HB0.out, (Below.refl _ _).alloc (Nat.le_refl _) _⟩
  case round =>
    obtain ⟨k, hk, rfl, HALL, hbld, hbel⟩ := hrel
    have HBL := Lib.hid hbld
    have HBE := Lib.hid hbel
    have hB := hbel.size
    have hlb := prB_take_len (plL X) k
    clear hbld hbel
    by_cases hlt : k < X.length
    · have hkp : k < (plL X).length := by rw [plL_length]; exact hlt
      obtain ⟨g, rfl, hg, ⟨c0, c1, c2, c3⟩, hm⟩ := (HR.out.below HBE.out) k hlt
      have hsm := HZ.out _ (List.getElem_mem hlt)
      have NX := Lib.hid (all_next (plL X) k hkp HALL.out)
      have PN := Lib.hid (prB_next (plL X) k hkp)
      have BD := Lib.hid (progT_bad (plL X) k hkp)
      rw [plL_get X k hlt] at NX PN BD
      obtain ⟨x, hx⟩ : ∃ x, X[k] = x := ⟨_, rfl⟩
      rw [hx] at c0 c1 c2 c3 hm hsm NX PN BD
      obtain ⟨xa, xb, xc, xd, ea, ee, rs, rt, hcap, hnil⟩ := inMem_shape hm
      rw [ea] at c2
      rw [ee] at c3
      obtain ⟨z1, z2, z3, z4, z5⟩ := hsm
      have HS : Hid (SzOk x.p xc) := Lib.hid ⟨by have := z2; omega, hcap.1, hcap.2, fun s hs => small_max (z3 s hs), small_max z1, z4, fun j hj => small_max (z5 _ (List.getElem_mem hj))⟩
      have HF := Lib.hid (fun W (hb : Below wr.heap.size wr W) => i_fline x.p xa xb xc xd W (rs.below hb) (rt.below hb) HS.out (HSH.out.on (HBE.out.trans (hb.mono hB))) (pow_on HTAB.out (HBE.out.trans (hb.mono hB))) hnil)
      have hts := lineT_size x.p
      have hnz := lineT_nil x.p
      have htn := lineT_no x.p
      obtain ⟨t, ht⟩ : ∃ t, lineT x.p = t := ⟨_, rfl⟩
      rw [ht] at HF PN hts hnz htn
      obtain ⟨kk, nm, gs, ex, va, ve⟩ := x
      dsimp only [LnL.p] at c0 c1 c2 c3 HF NX PN BD
      have k0 : (0 : Int) ≤ (k : Int) := by omega
      have k1 : (k : Int) < (X.length : Int) := by omega
      have hb1 := (Below.refl wr.heap.size wr).alloc (Nat.le_refl _) (.cells #[.int .i64 kk, .string nm, .slice xa gs.length xc, .slice xb ex.length xd] 32)
      have HB1 := Lib.hid hb1
      have HTN := Lib.hid htn
      clear htn
      clear hx ht hm rs rt hcap hnil ea ee hb1 hkp z1 z2 z3 z4 z5
      cases hlb2 : lineB ⟨kk, nm, gs, ex⟩ with
      | false =>
        have HV := Lib.hid (BD.out hlb2)
        have HT0 : Hid (t = ⟨#[]⟩) := Lib.hid (HTN.out hlb2)
        have he := HT0.out
        subst he
        clear NX PN BD hlb2 hnz HTN HT0
        go_wp2_with fail
        refine (HF.out _ HB1.out).mono ?_
        rintro e w1 ⟨rfl, b1⟩
        have HB2 : Hid (Below w.heap.size w w1) := Lib.hid (HBE.out.trans ((HB1.out.trans (b1.mono (by simp))).mono hB))
        clear b1
        go_wp2
        go_ret
        exact ⟨ret_s HV.out.symm, HB2.out⟩
      | true =>
        have HNX := Lib.hid (NX.out hlb2)
        have hne := empty_no t (hnz hlb2)
        clear NX BD hlb2 hnz HTN
        go_wp2_with fail
        refine (HF.out _ HB1.out).mono ?_
        rintro e w1 ⟨rfl, b1⟩
        have HBW : Hid (Below wr.heap.size wr w1) := Lib.hid (HB1.out.trans (b1.mono (by simp)))
        have z1 := HBW.out.size
        have BW := Lib.hid (HBL.out.below HBW.out)
        clear b1
        go_wp2_with fail
        refine (b_string w.heap.size w.heap.size _ t _ BW.out (by omega) (by omega)).mono ?_
        rintro e w2 ⟨rfl, bl2, b2⟩
        have z2 := b2.size
        have HB2 : Hid (Below w.heap.size w w2) := Lib.hid ((HBE.out.trans (HBW.out.mono hB)).trans b2)
        have BW2 := Lib.hid bl2
        clear bl2 b2
        go_wp2_with fail
        refine (b_byte w.heap.size w.heap.size _ 10 10 rfl _ BW2.out (by rw [List.length_append, list_len]; omega) (by omega)).mono ?_
        rintro e w3 ⟨rfl, bl3, b3⟩
        have HB3 : Hid (Below w.heap.size w w3) := Lib.hid (HB2.out.trans b3)
        have BW3 : Hid (Bld w.heap.size w.heap.size (prB ((plL X).take (k + 1))) w3) := Lib.hid (by rw [PN.out]; exact bl3)
        clear bl3 b3
        go_wp2
        go_roundw
        case rel => exact ⟨k + 1, by omega, by go_num, HNX, BW3.out, HB3.out⟩
        case measure => simp [RowKit.intOf]; omega
    · have hall : (plL X).take k = plL X := List.take_of_length_le (by rw [plL_length]; omega)
      have HV : Hid (progT (plL X) = ⟨(prB (plL X)).toArray⟩) := Lib.hid (progT_yes _ (by rw [plL_length]; omega) (by have := HALL.out; rwa [hall] at this))
      rw [hall] at HBL
      clear hall
      go_wp2_with fail
      refine (Tryz.Builder_String_any w.heap.size w.heap.size _ _ HBL.out hB).mono ?_
      rintro e w1 ⟨rfl, b1⟩
      have HB2 : Hid (Below w.heap.size w w1) := Lib.hid (HBE.out.trans b1)
      clear b1
      go_wp2
      go_ret
      exact ⟨ret_s HV.out.symm, HB2.out⟩
end Go.Proofs.YthmllcpldgbbcaaGreatDoor
