/- The model's ParseProgram. -/
import Derived.Test.YthmllcpldgbbcaaGreatDoorPlnSpec
import Derived.Test.YthmllcpldgbbcaaGreatDoorPlainC
import Derived.WalkSpells
namespace Go.Proofs.YthmllcpldgbbcaaGreatDoor
open Go.RowKit Go.Lib

theorem infoLq : (Tryz.prog.info? 32).map (fun i => (i.zero, i.size, i.bytes)) = some (some (.agg #[.int .i64 0, .string ⟨#[]⟩, .slice none 0 0, .slice none 0 0]), 4, 72) := by kernel_rfl

theorem own_typS {B T n s : Nat} {w : World} {v : Value} {xs : List Value} (h : w.ownsRow B T s v n xs) (g : Nat) (hg : v.ownBlock = some g) : ∃ cs, w.heap[g]? = some (.cells cs T (0, 0)) := by
  rcases h.2 with ⟨rfl, _⟩ | ⟨g', cap, cur, rfl, _, hh, _⟩
  · cases hg
  · injection hg with hg
    subst hg
    exact ⟨_, hh⟩
theorem ln_newS (w : World) (x : LnL) (T : TypeId) : ∀ j u, (lnV x)[j]? = some u → (w.alloc (.cells #[.int .i64 x.kind, .string x.name, x.va, x.ve] T)).cell? ((⟨w.heap.size, 0, none⟩ : Addr).add j) = some u :=
  World.news_of_block (cs := (lnV x).toArray) (t := T) (fr := (0, 0)) (heap_alloc_new w _)
theorem lnV_oneS (t : LnL) (ha : ∃ a c, t.va = .slice a t.args.length c) (he : ∃ a c, t.ve = .slice a t.expr.length c) : ∀ u ∈ lnV t, u.oneCell' = true := by
  obtain ⟨a, c, ha⟩ := ha
  obtain ⟨b, d, he⟩ := he
  intro u hu
  simp only [lnV, List.mem_cons, List.not_mem_nil, or_false] at hu
  rcases hu with rfl | rfl | rfl | rfl
  · rfl
  · rfl
  · rw [ha]; rfl
  · rw [he]; rfl

theorem below_app3S {B e n s : Nat} {w0 wr w1 : World} {X : Obj} {v : Value} {xs : List Value} (hown : wr.ownsRow B e s v n xs) (hbel : Below B w0 wr) (hB : B ≤ wr.heap.size)
    (hg : (wr.alloc X).grownBy w1 v.ownBlock) : Below B w0 w1 :=
  (hbel.alloc hB X).grown hg (by simp; omega) (fun k hk => (hown.lt k hk).1)

set_option maxRecDepth 100000 in
set_option maxHeartbeats 4000000 in
theorem s_pprog (s : ByteArray) (w : World) (hm : s.size ≤ 1048576) :
    Calls Tryz.prog 14 #[.string s] w (PpRes 32 9 66 w.heap.size (ppZ s) w) := by
  obtain ⟨i0, hi, hz0, hz1, hz2⟩ := info_parts infoLq
  have I := Lib.hid (fun (W : World) (x : ByteArray) (hx : x.size ≤ 1048576) => s_pline x W (by unfold maxLen; omega))
  have HPN := Lib.hid (ppZ_none s)
  have HPS := Lib.hid (ppZ_some s)
  have HPL := Lib.hid (ppZ_long s)
  have hown0 := World.ownsRow_lit (base := w.heap.size) (e := 32) (size := 4) w #[] 0 (Nat.le_refl _) (by decide) rfl
  have HO0 := Lib.hid hown0
  clear hown0
  go_enter Tryz.func14, Tryz.ntmps14
  go_wp2_with fail
  go_loopw [4, 5, 6, 8] (fun v x i _ wr => ∃ (t k : Nat) (X : List LnL), i = .int .i64 (k : Int) ∧ x = .int .i64 (t : Int) ∧ t ≤ k ∧ k ≤ s.size ∧ X.length ≤ t ∧ Hid (Left s (plL X) (s.extract t s.size)) ∧ Hid (∀ j, t ≤ j → j < k → s.data.toList[j]? ≠ some 10) ∧ wr.ownsRow w.heap.size 32 4 v X.length (lnsV X) ∧ Made 9 66 w.heap.size wr X ∧ Below w.heap.size w wr) (fun _ _ i _ _ => s.size - (RowKit.intOf i).toNat)
  case atStart => exact ⟨0, 0, [], rfl, rfl, Nat.le_refl _, Nat.zero_le _, Nat.le_refl _, Lib.hid (by rw [show s.extract 0 s.size = s from bl_eq (by rw [from_list]; rfl)]; exact Left.start s), Lib.hid (fun j _ h => absurd h (by omega)), HO0.out, Made.nil _ _ _ _, (Below.refl _ _).alloc (Nat.le_refl _) _⟩
  case round =>
    obtain ⟨t, k, X, rfl, rfl, htk, hks, hXt, HL, HNO, hown, hmade, hbel⟩ := hrel
    have HO := Lib.hid hown
    have HM := Lib.hid hmade
    have HB := Lib.hid hbel
    have hB := hbel.size
    obtain ⟨av, cv, rfl⟩ := owns3_shape hown
    clear hown hmade hbel
    by_cases hlt : k < s.size
    · have hp : s[k].toNat < 256 := s[k].toNat_lt
      by_cases h10 : s[k].toNat = 10
      · have hk10 : s.data.toList[k]? = some 10 := by rw [at_get s k hlt]; congr 1; exact UInt8.toNat_inj.1 h10
        have ho := from_index s t k htk hk10 HNO.out
        have LS : Hid ((plZ (s.extract t k)).2 = true → Left s (plL X ++ [(plZ (s.extract t k)).1]) (s.extract (k + 1) s.size)) := Lib.hid (fun h => by
          have h1 := HL.out.step ho (by rw [from_part s t k htk hks]; exact h)
          rw [from_part s t k htk hks, from_rest s t k htk hlt] at h1
          exact h1)
        have LB : Hid ((plZ (s.extract t k)).2 = false → ppZ s = ([], false)) := Lib.hid (fun h => HPN.out (HL.out.bad ho (by rw [from_part s t k htk hks]; exact h)))
        have htl : (s.extract t k).size ≤ 1048576 := by rw [ByteArray.size_extract]; omega
        have I1 := Lib.hid (fun W => I.out W (s.extract t k) htl)
        obtain ⟨r, hr⟩ : ∃ r, plZ (s.extract t k) = r := ⟨_, rfl⟩
        rw [hr] at I1 LS LB
        have hne : ((s[k].toNat : Int) != 10) = false := by simp; omega
        have t0 : (0 : Int) ≤ (t : Int) := by omega
        have t1 : (t : Int) ≤ (k : Int) := by omega
        have t2 : (k : Int) ≤ (s.size : Int) := by omega
        clear hr htl ho hk10 h10
        obtain ⟨⟨k0, nm, gs, ex⟩, ok⟩ := r
        go_wp2_with fail
        refine (I1.out _).mono ?_
        rintro e w2 ⟨va, ve, rfl, O2, O3, b2⟩
        obtain ⟨a, c, rfl⟩ := owns_shape O2
        obtain ⟨b, d, rfl⟩ := owns3_shape O3
        dsimp only at O2 O3 ⊢
        have y2 := b2.size
        have HB2 : Hid (Below w.heap.size w w2) := Lib.hid (HB.out.trans (b2.mono hB))
        have z2 := HB2.out.size
        have HBB2 := Lib.hid b2
        have HP2 := Lib.hid (And.intro O2 O3)
        clear b2 O2 O3
        cases ok
        · have HX := Lib.hid (LB.out rfl)
          go_wp2
          go_ret2
          have hrow := World.ownsRow_lit (base := w.heap.size) (e := 32) (size := 4) (w2.alloc (.cells #[.int .i64 k0, .string nm, .slice a gs.length c, .slice b ex.length d] 32)) #[] 0 (by simp; omega) (by decide) rfl
          rw [show (w2.alloc (.cells #[.int .i64 k0, .string nm, .slice a gs.length c, .slice b ex.length d] 32)).heap.size = w2.heap.size + 1 from by simp] at hrow
          exact ⟨.slice (some ⟨w2.heap.size + 1, 0, none⟩) 0 0, [], by rw [HX.out]; rfl, by rw [HX.out]; rfl, hrow, Made.nil _ _ _ _, (HB2.out.alloc z2 _).alloc (by simp; omega) _⟩
        · have HL2 := Lib.hid (LS.out rfl)
          have h63 : X.length + 1 ≤ maxLen := by unfold maxLen; omega
          have hby : (X.length + 1) * 72 ≤ 140737488355328 := by omega
          have hown := (owns3_below HO.out HBB2.out).alloc (.cells #[.int .i64 k0, .string nm, .slice a gs.length c, .slice b ex.length d] 32)
          have HM2 := Lib.hid (HM.out.snoc (x := ⟨k0, nm, gs, ex, .slice a gs.length c, .slice b ex.length d⟩) HBB2.out HP2.out (by omega) (Nat.le_refl _))
          go_wp2_with (at_builtin; refine wpList_append_own _ rfl _ _ 24 rfl w.heap.size 32 i0 _ 4 72 Tryz.underlying24 hi hz0 hz1 hz2 rfl (by decide) _ _ _ rfl (hown.alloc _) ⟨w2.heap.size + 1, 0, none⟩ 1 1 (lnV ⟨k0, nm, gs, ex, .slice a gs.length c, .slice b ex.length d⟩) rfl rfl ?c1 ?c2 h63 hby ?c5 ?_)
          case c1 => exact fun _ _ hj => hj
          case c2 => exact lnV_oneS _ ⟨_, _, rfl⟩ ⟨_, _, rfl⟩
          case c5 => first | omega | (simp; omega)
          intro v' w3 hown1 hgrow _
          have HO3 := Lib.hid (owns_lns (l := X ++ [⟨k0, nm, gs, ex, .slice a gs.length c, .slice b ex.length d⟩]) hown1 (by rw [lnsV_append, lnsV_one]))
          have HB3 : Hid (Below w.heap.size w w3) := Lib.hid (below_app3S hown (HB2.out.alloc z2 _) (by simp; omega) hgrow)
          have HM3 : Hid (Made 9 66 w.heap.size w3 (X ++ [⟨k0, nm, gs, ex, .slice a gs.length c, .slice b ex.length d⟩])) := Lib.hid (((HM2.out.below ((Below.refl _ _).alloc (Nat.le_refl _) _)).below ((Below.refl _ _).alloc (Nat.le_refl _) _)).grown hgrow (fun g hg => .inr (own_typS (hown.alloc _) g hg)) (by decide) (by decide))
          have hpl : plL (X ++ [⟨k0, nm, gs, ex, .slice a gs.length c, .slice b ex.length d⟩]) = plL X ++ [⟨k0, nm, gs, ex⟩] := by simp [plL, LnL.p]
          have HL3 : Hid (Left s (plL (X ++ [⟨k0, nm, gs, ex, .slice a gs.length c, .slice b ex.length d⟩])) (s.extract (k + 1) s.size)) := Lib.hid (by rw [hpl]; exact HL2.out)
          have hx61 : (X ++ [⟨k0, nm, gs, ex, .slice a gs.length c, .slice b ex.length d⟩] : List LnL).length ≤ k + 1 := by rw [List.length_append]; simp; omega
          clear hown1 hgrow hown hpl
          go_wp2_with fail
          go_roundw
          case rel => exact ⟨k + 1, k + 1, _, by go_num, by go_num, Nat.le_refl _, hlt, hx61, HL3, Lib.hid (fun j h1 h2 => absurd h2 (by omega)), HO3.out, HM3.out, HB3.out⟩
          case measure => simp [RowKit.intOf]; omega
      · have hne : ((s[k].toNat : Int) != 10) = true := by simp; omega
        have HN2 : Hid (∀ j, t ≤ j → j < k + 1 → s.data.toList[j]? ≠ some 10) := Lib.hid (fun j h1 h2 => by
          rcases Nat.lt_or_ge j k with h | h
          · exact HNO.out j h1 h
          · obtain rfl : j = k := by omega
            rw [at_get s j hlt]
            intro e
            injection e with e
            rw [e] at h10
            exact h10 rfl)
        clear h10
        go_wp2_with fail
        go_roundw
        case rel => exact ⟨t, k + 1, X, by go_num, rfl, by omega, hlt, hXt, HL, HN2, HO.out, HM.out, HB.out⟩
        case measure => simp [RowKit.intOf]; omega
    · obtain rfl : k = s.size := by omega
      by_cases hte : t = s.size
      · have hl := HL.out.stop (by rw [from_size]; omega)
        by_cases h60 : 60 < X.length
        · have HX := Lib.hid (HPL.out _ hl (by rw [plL_length]; exact h60))
          have hne : ((t : Int) != (s.size : Int)) = false := by simp; omega
          have hd : decide (60 < (X.length : Int)) = true := decide_eq_true (by omega)
          clear hl hte
          go_wp2
          go_ret2
          exact ⟨_, [], by rw [HX.out]; rfl, by rw [HX.out]; rfl, World.ownsRow_lit _ _ _ hB (by decide) rfl, Made.nil _ _ _ _, HB.out.alloc hB _⟩
        · have HX := Lib.hid (HPS.out _ hl (by rw [plL_length]; omega))
          have hne : ((t : Int) != (s.size : Int)) = false := by simp; omega
          have hd : decide (60 < (X.length : Int)) = false := decide_eq_false (by omega)
          clear hl hte
          go_wp2
          go_ret2
          exact ⟨_, X, by rw [HX.out]; rfl, by rw [HX.out], HO.out, HM.out, HB.out⟩
      · have HX := Lib.hid (HPN.out (HL.out.opened (from_none s t HNO.out) (by rw [from_size]; omega)))
        have hne : ((t : Int) != (s.size : Int)) = true := by simp; omega
        clear hte
        go_wp2
        go_ret2
        exact ⟨_, [], by rw [HX.out]; rfl, by rw [HX.out]; rfl, World.ownsRow_lit _ _ _ hB (by decide) rfl, Made.nil _ _ _ _, HB.out.alloc hB _⟩
end Go.Proofs.YthmllcpldgbbcaaGreatDoor
