/- strings.Cut at a line feed; The program's ParseProgram. -/
import Derived.Test.YthmllcpldgbbcaaGreatDoorReadImpl
import Derived.Test.YthmllcpldgbbcaaGreatDoorLineImpl
import Derived.Test.YthmllcpldgbbcaaGreatDoorPlainC
/-! strings.Cut at a line feed -/
namespace Go.Proofs.YthmllcpldgbbcaaGreatDoor
open Go.RowKit Go.Lib

theorem i_cutL_no (s : ByteArray) (w : World) (hs : s.size ≤ 1048576) (h : indexByte s.data.toList 10 = -1) :
    Calls Tryz.prog 46 #[.string s, .string ⟨#[10]⟩] w fun e w' => e = .returned (.tuple #[.string s, .string ⟨#[]⟩, .bool false]) ∧ Below w.heap.size w w' := by
  have HI := Lib.hid (fun W => h ▸ (Tryz.stringslite_Index_one s 10 W))
  clear h
  go_enter Tryz.func46, Tryz.ntmps46
  go_wp2_with fail
  refine (HI.out _).mono ?_
  rintro e w1 ⟨rfl, rfl⟩
  go_wp2
  go_ret3
  exact ⟨rfl, Below.refl _ _⟩
theorem i_cutL_yes (s : ByteArray) (o : Nat) (w : World) (hs : s.size ≤ 1048576) (h : indexByte s.data.toList 10 = (o : Int)) (ho : o < s.size) :
    Calls Tryz.prog 46 #[.string s, .string ⟨#[10]⟩] w fun e w' => e = .returned (.tuple #[.string (s.extract 0 o), .string (s.extract (o + 1) s.size), .bool true]) ∧ Below w.heap.size w w' := by
  have HI := Lib.hid (fun W => h ▸ (Tryz.stringslite_Index_one s 10 W))
  clear h
  have h0 : (0 : Int) ≤ (o : Int) := by omega
  have h1 : (o : Int) ≤ (s.size : Int) := by omega
  have h2 : (o : Int) + 1 ≤ (s.size : Int) := by omega
  go_enter Tryz.func46, Tryz.ntmps46
  go_wp2_with fail
  refine (HI.out _).mono ?_
  rintro e w1 ⟨rfl, rfl⟩
  go_wp2_with fail
  have e1 : IntKind.i64.wrap ((o : Int) + 1) = (o : Int) + 1 := IntWalk.i64_in _ (by omega)
  have e2 : (0 : Int) ≤ (o : Int) + 1 := by omega
  have e3 : ((o : Int) + 1).toNat = o + 1 := by omega
  go_quiet (fail)
  clear e1 e2 e3
  go_wp2
  go_ret3
  exact ⟨rfl, below_drewN (Below.refl _ _) _⟩
theorem i_cutL_no' (s : ByteArray) (w : World) (hs : s.size ≤ 1048576) (h : indexByte s.data.toList 10 = -1) :
    Calls Tryz.prog 23 #[.string s, .string ⟨#[10]⟩] w fun e w' => e = .returned (.tuple #[.string s, .string ⟨#[]⟩, .bool false]) ∧ Below w.heap.size w w' := by
  have HI := Lib.hid (fun W => i_cutL_no s W hs h)
  clear h
  go_enter Tryz.func23, Tryz.ntmps23
  go_wp2_with fail
  refine (HI.out _).mono ?_
  rintro e w1 ⟨rfl, b1⟩
  go_wp2
  go_ret3
  exact ⟨rfl, b1⟩
theorem i_cutL_yes' (s : ByteArray) (o : Nat) (w : World) (hs : s.size ≤ 1048576) (h : indexByte s.data.toList 10 = (o : Int)) (ho : o < s.size) :
    Calls Tryz.prog 23 #[.string s, .string ⟨#[10]⟩] w fun e w' => e = .returned (.tuple #[.string (s.extract 0 o), .string (s.extract (o + 1) s.size), .bool true]) ∧ Below w.heap.size w w' := by
  have HI := Lib.hid (fun W => i_cutL_yes s o W hs h ho)
  clear h
  go_enter Tryz.func23, Tryz.ntmps23
  go_wp2_with fail
  refine (HI.out _).mono ?_
  rintro e w1 ⟨rfl, b1⟩
  go_wp2
  go_ret3
  exact ⟨rfl, b1⟩

end Go.Proofs.YthmllcpldgbbcaaGreatDoor

/-! The program's ParseProgram -/
namespace Go.Proofs.YthmllcpldgbbcaaGreatDoor
open Go.RowKit Go.Lib

theorem infoLp : (Tryz.prog.info? 32).map (fun i => (i.zero, i.size, i.bytes)) = some (some (.agg #[.int .i64 0, .string ⟨#[]⟩, .slice none 0 0, .slice none 0 0]), 4, 72) := by kernel_rfl
theorem own_typ {B T n s : Nat} {w : World} {v : Value} {xs : List Value} (h : w.ownsRow B T s v n xs) (g : Nat) (hg : v.ownBlock = some g) : ∃ cs, w.heap[g]? = some (.cells cs T (0, 0)) := by
  rcases h.2 with ⟨rfl, _⟩ | ⟨g', cap, cur, rfl, _, hh, _⟩
  · cases hg
  · injection hg with hg
    subst hg
    exact ⟨_, hh⟩
theorem ln_newI (w : World) (x : LnL) (T : TypeId) : ∀ j u, (lnV x)[j]? = some u → (w.alloc (.cells #[.int .i64 x.kind, .string x.name, x.va, x.ve] T)).cell? ((⟨w.heap.size, 0, none⟩ : Addr).add j) = some u :=
  World.news_of_block (cs := (lnV x).toArray) (t := T) (fr := (0, 0)) (heap_alloc_new w _)
def strLen : Value → Nat
  | .string b => b.size
  | _ => 0
theorem lnV_oneI (t : LnL) (ha : ∃ a c, t.va = .slice a t.args.length c) (he : ∃ a c, t.ve = .slice a t.expr.length c) : ∀ u ∈ lnV t, u.oneCell' = true := by
  obtain ⟨a, c, ha⟩ := ha
  obtain ⟨b, d, he⟩ := he
  intro u hu
  simp only [lnV, List.mem_cons, List.not_mem_nil, or_false] at hu
  rcases hu with rfl | rfl | rfl | rfl
  · rfl
  · rfl
  · rw [ha]; rfl
  · rw [he]; rfl

set_option maxRecDepth 100000 in
set_option maxHeartbeats 4000000 in
theorem i_pprog (s : ByteArray) (p : Addr) (w : World) (hm : s.size ≤ 1048576) (hE : Env w) (hT : Table w) (hS : Shapes w) (hN : NoL p w) :
    Calls Tryz.prog 8 #[.string s] w (PpRes 32 9 66 w.heap.size (ppZ s) w) := by
  obtain ⟨i0, hi, hz0, hz1, hz2⟩ := info_parts infoLp
  have I := Lib.hid (fun (W : World) (x : ByteArray) (hx : x.size ≤ 1048576) (hb : Below w.heap.size w W) => i_pline x p W (by unfold maxLen; omega) (hE.on hb) (hT.on hb) (hS.on hb) (hN.on hb))
  have HPN := Lib.hid (ppZ_none s)
  have HPS := Lib.hid (ppZ_some s)
  have HPF := Lib.hid (fun q p => @ppZ_full s q p)
  clear hE hT hS hN
  go_enter Tryz.func8, Tryz.ntmps8
  go_wp2_with fail
  go_loopw [0, 4, 5, 6, 7, 9] (fun x v _ _ _ _ wr => ∃ (q : ByteArray) (X : List LnL), x = .string q ∧ Hid (Left s (plL X) q) ∧ X.length ≤ 60 ∧ wr.ownsRow w.heap.size 32 4 v X.length (lnsV X) ∧ Made 9 66 w.heap.size wr X ∧ Below w.heap.size w wr) (fun x _ _ _ _ _ _ => strLen x)
  case atStart => exact ⟨s, [], rfl, Lib.hid (Left.start s), by simp, World.ownsRow_nil _ _ _ _, Made.nil _ _ _ _, Below.refl _ _⟩
  case round =>
    obtain ⟨q, X, rfl, HL, h60, hown, hmade, hbel⟩ := hrel
    have HO := Lib.hid hown
    have HM := Lib.hid hmade
    have HB := Lib.hid hbel
    have hB := hbel.size
    have hqs : q.size ≤ s.size := HL.out.1
    obtain ⟨av, cv, rfl⟩ := owns3_shape hown
    clear hown hmade hbel
    by_cases hq : q.size = 0
    · have hl := HL.out.stop hq
      have HX := Lib.hid (HPS.out _ hl (by rw [plL_length]; exact h60))
      obtain rfl := empty_of q hq
      clear hq hl hqs
      go_wp2
      go_ret2
      exact ⟨_, X, by rw [HX.out]; rfl, by rw [HX.out], HO.out, HM.out, HB.out⟩
    · have hne := empty_no q hq
      by_cases hm1 : indexByte q.data.toList 10 = -1
      · have HX := Lib.hid (HPN.out (HL.out.opened hm1 hq))
        have C := Lib.hid (fun W => i_cutL_no' q W (by omega) hm1)
        have I1 := Lib.hid (fun W hb => I.out W q (by omega) hb)
        obtain ⟨r, hr⟩ : ∃ r, plZ q = r := ⟨_, rfl⟩
        rw [hr] at I1
        clear hr hm1 hq
        obtain ⟨⟨k, nm, gs, ex⟩, ok⟩ := r
        go_wp2_with fail
        refine (C.out _).mono ?_
        rintro e w1 ⟨rfl, b1⟩
        have HB1 : Hid (Below w.heap.size w w1) := Lib.hid (HB.out.trans (b1.mono hB))
        have z1 := HB1.out.size
        clear b1
        go_wp2_with fail
        refine (I1.out _ HB1.out).mono ?_
        rintro e w2 ⟨va, ve, rfl, O2, O3, b2⟩
        obtain ⟨a, c, rfl⟩ := owns_shape O2
        obtain ⟨b, d, rfl⟩ := owns3_shape O3
        have HB2 : Hid (Below w.heap.size w w2) := Lib.hid (HB1.out.trans (b2.mono z1))
        have z2 := HB2.out.size
        clear b2 O2 O3
        go_wp2
        go_ret2
        exact ⟨_, [], by rw [HX.out]; rfl, by rw [HX.out]; rfl, World.ownsRow_nil _ _ _ _, Made.nil _ _ _ _, HB2.out.alloc z2 _⟩
      · obtain ⟨o, ho⟩ : ∃ o : Nat, indexByte q.data.toList 10 = (o : Int) := Int.eq_ofNat_of_zero_le (by have := indexByte_ge q.data.toList 10; omega)
        obtain ⟨hoq, _, _, hul⟩ := cut_parts q o ho
        have C := Lib.hid (fun W => i_cutL_yes' q o W (by omega) ho hoq)
        have LS := Lib.hid (fun h => HL.out.step ho h)
        have LB := Lib.hid (fun h => HPN.out (HL.out.bad ho h))
        have htl : (q.extract 0 o).size ≤ 1048576 := by rw [ByteArray.size_extract]; omega
        have I1 := Lib.hid (fun W hb => I.out W (q.extract 0 o) htl hb)
        obtain ⟨r, hr⟩ : ∃ r, plZ (q.extract 0 o) = r := ⟨_, rfl⟩
        rw [hr] at I1 LS LB
        obtain ⟨t, ht⟩ : ∃ t, q.extract 0 o = t := ⟨_, rfl⟩
        obtain ⟨u, hu⟩ : ∃ u, q.extract (o + 1) q.size = u := ⟨_, rfl⟩
        rw [ht] at C I1
        rw [hu] at C LS hul
        clear hr ht hu htl ho hm1 hq hoq
        obtain ⟨⟨k, nm, gs, ex⟩, ok⟩ := r
        go_wp2_with fail
        refine (C.out _).mono ?_
        rintro e w1 ⟨rfl, b1⟩
        have y1 := b1.size
        have HB1 : Hid (Below w.heap.size w w1) := Lib.hid (HB.out.trans (b1.mono hB))
        have z1 := HB1.out.size
        have HBB1 := Lib.hid b1
        clear b1
        go_wp2_with fail
        refine (I1.out _ HB1.out).mono ?_
        rintro e w2 ⟨va, ve, rfl, O2, O3, b2⟩
        obtain ⟨a, c, rfl⟩ := owns_shape O2
        obtain ⟨b, d, rfl⟩ := owns3_shape O3
        dsimp only at O2 O3 ⊢
        have HB2 : Hid (Below w.heap.size w w2) := Lib.hid (HB1.out.trans (b2.mono z1))
        have z2 := HB2.out.size
        have HBB2 : Hid (Below wr.heap.size wr w2) := Lib.hid (HBB1.out.trans (b2.mono y1))
        have HP2 := Lib.hid (And.intro O2 O3)
        clear b2 O2 O3
        cases ok
        · have HX := Lib.hid (LB.out rfl)
          go_wp2
          go_ret2
          exact ⟨_, [], by rw [HX.out]; rfl, by rw [HX.out]; rfl, World.ownsRow_nil _ _ _ _, Made.nil _ _ _ _, HB2.out.alloc z2 _⟩
        · have HL2 := Lib.hid (LS.out rfl)
          by_cases h6 : X.length = 60
          · have h6d : ((X.length : Int) == 60) = true := by rw [h6]; rfl
            have HX := Lib.hid (HPF.out _ _ HL2.out (by rw [List.length_append, plL_length, h6]; simp))
            clear h6
            go_wp2
            go_ret2
            exact ⟨_, [], by rw [HX.out]; rfl, by rw [HX.out]; rfl, World.ownsRow_nil _ _ _ _, Made.nil _ _ _ _, HB2.out.alloc z2 _⟩
          · have h6d : ((X.length : Int) == 60) = false := beq_eq_false_iff_ne.2 (by omega)
            have h63 : X.length + 1 ≤ maxLen := by unfold maxLen; omega
            have hby : (X.length + 1) * 72 ≤ 140737488355328 := by omega
            have hown := (owns3_below HO.out HBB2.out).alloc (.cells #[.int .i64 k, .string nm, .slice a gs.length c, .slice b ex.length d] 32)
            have HM2 := Lib.hid (HM.out.snoc (x := ⟨k, nm, gs, ex, .slice a gs.length c, .slice b ex.length d⟩) HBB2.out HP2.out (by omega) y1)
            go_wp2_with (at_builtin; refine wpList_append_own _ rfl _ _ 24 rfl w.heap.size 32 i0 _ 4 72 Tryz.underlying24 hi hz0 hz1 hz2 rfl (by decide) _ _ _ rfl (hown.alloc _) ⟨w2.heap.size + 1, 0, none⟩ 1 1 (lnV ⟨k, nm, gs, ex, .slice a gs.length c, .slice b ex.length d⟩) rfl rfl ?c1 ?c2 h63 hby ?c5 ?_)
            case c1 => exact fun _ _ hj => hj
            case c2 => exact lnV_oneI _ ⟨_, _, rfl⟩ ⟨_, _, rfl⟩
            case c5 => first | omega | (simp; omega)
            intro v' w3 hown1 hgrow _
            have HO3 := Lib.hid (owns_lns (l := X ++ [⟨k, nm, gs, ex, .slice a gs.length c, .slice b ex.length d⟩]) hown1 (by rw [lnsV_append, lnsV_one]))
            have HB3 : Hid (Below w.heap.size w w3) := Lib.hid (below_app3I hown (HB2.out.alloc z2 _) (by simp; omega) hgrow)
            have HM3 : Hid (Made 9 66 w.heap.size w3 (X ++ [⟨k, nm, gs, ex, .slice a gs.length c, .slice b ex.length d⟩])) := Lib.hid (((HM2.out.below ((Below.refl _ _).alloc (Nat.le_refl _) _)).below ((Below.refl _ _).alloc (Nat.le_refl _) _)).grown hgrow (fun g hg => .inr (own_typ (hown.alloc _) g hg)) (by decide) (by decide))
            have hpl : plL (X ++ [⟨k, nm, gs, ex, .slice a gs.length c, .slice b ex.length d⟩]) = plL X ++ [⟨k, nm, gs, ex⟩] := by simp [plL, LnL.p]
            have HL3 : Hid (Left s (plL (X ++ [⟨k, nm, gs, ex, .slice a gs.length c, .slice b ex.length d⟩])) u) := Lib.hid (by rw [hpl]; exact HL2.out)
            have hx61 : (X ++ [⟨k, nm, gs, ex, .slice a gs.length c, .slice b ex.length d⟩] : List LnL).length ≤ 60 := by rw [List.length_append]; simp; omega
            clear hown1 hgrow hown hpl
            go_wp2_with fail
            go_roundw
            case rel => exact ⟨u, _, rfl, HL3, hx61, HO3.out, HM3.out, HB3.out⟩
            case measure => exact hul
end Go.Proofs.YthmllcpldgbbcaaGreatDoor
