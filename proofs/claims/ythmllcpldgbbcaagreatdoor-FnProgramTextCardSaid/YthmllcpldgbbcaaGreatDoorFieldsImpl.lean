/- The program's SplitFields: what it returns. -/
import Derived.Test.YthmllcpldgbbcaaGreatDoorRows
import Derived.Test.YthmllcpldgbbcaaGreatDoorPlainA
import Derived.Maps.AppendAt
import Derived.Outline
import Derived.Lib.Hide
import Derived.WalkSpells
namespace Go.Proofs.YthmllcpldgbbcaaGreatDoor
open Go.RowKit Go.Lib

theorem infoS : (Tryz.prog.info? 9).map (fun i => (i.zero, i.size, i.bytes)) = some (some (.string ⟨#[]⟩), 1, 16) := by kernel_rfl

theorem i_app (v : Value) (l : List ByteArray) (f : ByteArray) (B : Nat) (w : World) (hown : w.ownsRow B 9 1 v l.length (strV l)) (hl : l.length ≤ 1000) (hB : B ≤ w.heap.size) :
    Calls Tryz.prog 69 #[v, .string f] w (AppS 9 B (l ++ oneF f) v.ownBlock w) := by
  obtain ⟨i0, hi, hz0, hz1, hz2⟩ := info_parts infoS
  by_cases h : f.size = 0
  · have hf : f = ⟨#[]⟩ := bl_eq (List.length_eq_zero_iff.1 (by rw [list_len]; exact h))
    have H1 : oneF f = [] := by unfold oneF; rw [if_pos h]
    rw [H1, List.append_nil]
    subst hf
    have HO := Lib.hid hown
    clear H1 hown h
    go_enter Tryz.func69, Tryz.ntmps69
    go_wp2
    go_ret
    exact ⟨v, rfl, HO.out, World.grownBy.refl _ _⟩
  · have H1 : oneF f = [f] := by unfold oneF; rw [if_neg h]
    rw [H1]
    have hne : f.toList.isEmpty = false := by
      rw [ByteArray.toList_eq]
      cases hc : f.data.toList with
      | nil => exact absurd (by rw [← list_len, hc]; rfl) h
      | cons a b => rfl
    have h63 : l.length + 1 ≤ maxLen := by unfold maxLen; omega
    have hby : (l.length + 1) * 16 ≤ 140737488355328 := by omega
    clear H1 h
    go_enter Tryz.func69, Tryz.ntmps69
    go_wp2_with (at_builtin; refine wpList_append_own _ rfl _ _ 29 rfl B 9 i0 (.string ⟨#[]⟩) 1 16 Tryz.underlying29 hi hz0 hz1 hz2 rfl (by decide) _ _ _ rfl (hown.alloc _) ⟨w.heap.size, 0, none⟩ 1 1 [.string f] rfl rfl ?c1 ?c2 h63 hby ?c5 ?_)
    case c1 => exact cell_one_new _ _ _
    case c2 => intro u hu; simp at hu; subst hu; rfl
    case c5 => simp; omega
    intro v' w1 hown1 hgrow _
    have R := Lib.hid (owns_strs (l := l ++ [f]) hown1 (by rw [strV_append]; rfl))
    have G := Lib.hid ((World.grownBy_alloc w (.cells #[.string f] 9) v.ownBlock).trans hgrow)
    clear hown1 hgrow hown
    go_wp2
    go_ret
    exact ⟨v', rfl, R.out, G.out⟩

theorem i_split_long (s : ByteArray) (w : World) (h : 600 < s.size) (hm : s.size ≤ maxLen) :
    Calls Tryz.prog 47 #[.string s] w (Strs 9 w.heap.size (spR s).1 (spR s).2 w) := by
  have hr := Lib.hid (spR_long s h)
  unfold maxLen at hm
  rw [hr.out]
  clear hr
  go_enter Tryz.func47, Tryz.ntmps47
  go_wp2
  go_step3
  go_wp2
  rw [Exit.noGoto_ret]
  go_ret2
  exact ⟨_, rfl, World.ownsRow_nil _ _ _ _, Below.refl _ _⟩

set_option maxHeartbeats 400000 in
theorem i_split (s : ByteArray) (w : World) (h : s.size ≤ 600) :
    Calls Tryz.prog 47 #[.string s] w (Strs 9 w.heap.size (spR s).1 (spR s).2 w) := by
  go_enter Tryz.func47, Tryz.ntmps47
  go_wp2_with fail
  go_step3
  go_wp2_with fail
  go_step3
  go_wp2_with fail
  go_loopw [4, 5, 6, 7] (fun v b i _ wr => ∃ (k : Nat) (st : List ByteArray × Nat), k ≤ s.size ∧ i = .int .i64 (k : Int) ∧ sp s k = st ∧ b = .int .i64 (st.2 : Int) ∧ (s.data.toList.take k).all okB = true ∧ wr.ownsRow w.heap.size 9 1 v st.1.length (strV st.1) ∧ Below w.heap.size w wr)
    (fun _ _ i _ _ => s.size - (intOf i).toNat)
  case atStart => exact ⟨0, ([], 0), Nat.zero_le _, rfl, rfl, rfl, rfl, World.ownsRow_nil _ _ _ _, Below.refl _ _⟩
  case round =>
    obtain ⟨k, ⟨l, b⟩, hk, rfl, hst, rfl, hok, hown, hbel⟩ := hrel
    have hle := sp_le s k
    rw [hst] at hle
    obtain ⟨hbk, hlk⟩ := hle
    dsimp only at hbk hlk hown
    have HST := Lib.hid hst
    have HOK := Lib.hid hok
    have HOWN := Lib.hid hown
    have hB := hbel.size
    have HB := Lib.hid hbel
    clear hst hok hown hbel
    have b0 : (0 : Int) ≤ (b : Int) := by omega
    by_cases hlt : k < s.size
    · have hp : s[k].toNat < 256 := s[k].toNat_lt
      by_cases hbad : s[k].toNat < 32 ∨ 126 < s[k].toNat
      · have hr := Lib.hid (spR_bad s k hlt hbad)
        go_wp2_with fail
        all_goals try rw [Exit.noGoto_ret]
        all_goals go_ret2
        all_goals rw [hr.out]
        all_goals exact ⟨_, rfl, World.ownsRow_nil _ _ _ _, HB.out⟩
      · have h1 : 32 ≤ s[k].toNat := by omega
        have h2 : s[k].toNat ≤ 126 := by omega
        have HN := Lib.hid (ok_next s k hlt HOK.out h1 h2)
        clear hbad
        by_cases hsp : s[k].toNat = 32
        · have HS := Lib.hid (sp_space s k hlt hsp)
          have hsp' : ((s[k].toNat : Int) == 32) = true := by simp; omega
          have hcf := Lib.hid (oneF_cut s b k hbk hk)
          clear hsp
          go_wp2_with fail
          refine (i_app u4 l (s.extract b k) w.heap.size _ HOWN.out (by omega) hB).mono ?_
          rintro e w1 ⟨v', rfl, hown1, hg1⟩
          rw [hcf.out] at hown1
          have HO1 := Lib.hid hown1
          have HB1 := Lib.hid (HB.out.grown hg1 hB (fun j hj => (HOWN.out.lt j hj).1))
          clear hown1 hg1
          go_wp2
          go_roundw
          case rel => exact ⟨k + 1, _, by omega, by go_num, by rw [HS.out, HST.out], by go_num, HN.out, HO1.out, HB1.out⟩
          case measure => simp [intOf]; omega
        · have HS := Lib.hid (sp_other s k hlt hsp)
          have hsp' : ((s[k].toNat : Int) == 32) = false := by simp; omega
          clear hsp
          go_wp2
          go_roundw
          case rel => exact ⟨k + 1, _, by omega, by go_num, by rw [HS.out, HST.out], rfl, HN.out, HOWN.out, HB.out⟩
          case measure => simp [intOf]; omega
    · have hks : k = s.size := by omega
      have hall : s.data.toList.all okB = true := by have := HOK.out; rw [hks, take_all] at this; exact this
      have hlast : l ++ cutF s b s.size = spL s := by unfold spL; rw [sp_last, ← hks, HST.out]
      have hcf := Lib.hid (oneF_cut s b s.size (by omega) (Nat.le_refl _))
      have HALL := Lib.hid hall
      have HLAST := Lib.hid hlast
      have hbs : b ≤ s.size := by omega
      clear hks hall hlast
      go_wp2_with fail
      refine (i_app u4 l (s.extract b s.size) w.heap.size _ HOWN.out (by omega) hB).mono ?_
      rintro e w1 ⟨v', rfl, hown1, hg1⟩
      rw [hcf.out, HLAST.out] at hown1
      obtain ⟨av, cv, rfl⟩ := owns_shape hown1
      have HO1 := Lib.hid hown1
      have HB1 := Lib.hid (HB.out.grown hg1 hB (fun j hj => (HOWN.out.lt j hj).1))
      clear hown1 hg1
      have hcnt : (spL s).length ≤ 601 := by have := (sp_le s (s.size + 1)).2; unfold spL; omega
      by_cases hmany : 24 < (spL s).length
      · have hr := Lib.hid (spR_many s hmany)
        go_wp2
        try rw [Exit.noGoto_ret]
        go_ret2
        rw [hr.out]
        exact ⟨_, rfl, World.ownsRow_nil _ _ _ _, HB1.out⟩
      · have hr := Lib.hid (spR_yes s h HALL.out (by omega))
        go_wp2
        try rw [Exit.noGoto_ret]
        go_ret2
        rw [hr.out]
        exact ⟨_, rfl, HO1.out, HB1.out⟩
end Go.Proofs.YthmllcpldgbbcaaGreatDoor
