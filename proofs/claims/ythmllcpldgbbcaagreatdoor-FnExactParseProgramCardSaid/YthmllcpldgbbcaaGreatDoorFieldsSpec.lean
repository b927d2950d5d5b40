/- The model's SplitFields: what it returns. -/
import Derived.Test.YthmllcpldgbbcaaGreatDoorRows
import Derived.Test.YthmllcpldgbbcaaGreatDoorPlainA
import Derived.Maps.AppendAt
import Derived.Outline
import Derived.Lib.Hide
import Derived.WalkSpells
namespace Go.Proofs.YthmllcpldgbbcaaGreatDoor
open Go.RowKit Go.Lib

theorem infoS' : (Tryz.prog.info? 9).map (fun i => (i.zero, i.size, i.bytes)) = some (some (.string ⟨#[]⟩), 1, 16) := by kernel_rfl

theorem s_split_long (s : ByteArray) (w : World) (h : 600 < s.size) (hm : s.size ≤ maxLen) :
    Calls Tryz.prog 58 #[.string s] w (Strs 9 w.heap.size (spR s).1 (spR s).2 w) := by
  have hr := Lib.hid (spR_long s h)
  unfold maxLen at hm
  go_enter Tryz.func58, Tryz.ntmps58
  go_wp2
  go_ret2
  rw [hr.out]
  exact ⟨_, rfl, World.ownsRow_lit _ _ _ (Nat.le_refl _) (by decide) rfl, (Below.refl _ _).alloc (Nat.le_refl _) _⟩

set_option maxHeartbeats 400000 in
set_option maxRecDepth 100000 in
theorem s_split (s : ByteArray) (w : World) (h : s.size ≤ 600) :
    Calls Tryz.prog 58 #[.string s] w (Strs 9 w.heap.size (spR s).1 (spR s).2 w) := by
  obtain ⟨i0, hi, hz0, hz1, hz2⟩ := info_parts infoS'
  go_enter Tryz.func58, Tryz.ntmps58
  go_wp2_with fail
  go_loopw [4, 5, 6] (fun v b i wr => ∃ (k : Nat) (st : List ByteArray × Nat), k ≤ s.size + 1 ∧ i = .int .i64 (k : Int) ∧ sp s k = st ∧ b = .int .i64 (st.2 : Int) ∧ (s.data.toList.take k).all okB = true ∧ wr.ownsRow w.heap.size 9 1 v st.1.length (strV st.1) ∧ Below w.heap.size w wr)
    (fun _ _ i _ => s.size + 1 - (intOf i).toNat)
  case atStart => exact ⟨0, ([], 0), Nat.zero_le _, rfl, rfl, rfl, rfl, World.ownsRow_lit _ _ _ (Nat.le_refl _) (by decide) rfl, (Below.refl _ _).alloc (Nat.le_refl _) _⟩
  case round =>
    obtain ⟨k, ⟨l, b⟩, hk, rfl, hst, rfl, hok, hown, hbel⟩ := hrel
    have hle := sp_le s k
    rw [hst] at hle
    obtain ⟨hbk, hlk⟩ := hle
    dsimp only at hbk hlk hown
    have HST := Lib.hid hst
    have HOK := Lib.hid hok
    have HOWN := Lib.hid hown
    have hB := hbel.size
    have HB := Lib.hid hbel
    have h63 : l.length + 1 ≤ maxLen := by unfold maxLen; omega
    have hby : (l.length + 1) * 16 ≤ 140737488355328 := by omega
    clear hst hok hbel
    have b0 : (0 : Int) ≤ (b : Int) := by omega
    by_cases hlt : k < s.size
    · have hp : s[k].toNat < 256 := s[k].toNat_lt
      by_cases hbad : s[k].toNat < 32 ∨ 126 < s[k].toNat
      · have hr := Lib.hid (spR_bad s k hlt hbad)
        go_wp2_with fail
        all_goals go_ret2
        all_goals rw [hr.out]
        all_goals exact ⟨_, rfl, World.ownsRow_lit _ _ _ hB (by decide) rfl, HB.out.alloc hB _⟩
      · have h1 : 32 ≤ s[k].toNat := by omega
        have h2 : s[k].toNat ≤ 126 := by omega
        have HN := Lib.hid (ok_next s k hlt HOK.out h1 h2)
        clear hbad
        by_cases hsp : s[k].toNat = 32
        · have HS := Lib.hid (sp_space s k hlt hsp)
          have hsp' : ((s[k].toNat : Int) != 32) = false := by simp; omega
          clear hsp
          by_cases hbk' : b < k
          · have HC : Hid (cutF s b k = [s.extract b k]) := Lib.hid (by unfold cutF; rw [if_pos hbk'])
            go_wp2_with (at_builtin; refine wpList_append_own _ rfl _ _ 29 rfl w.heap.size 9 i0 (.string ⟨#[]⟩) 1 16 Tryz.underlying29 hi hz0 hz1 hz2 rfl (by decide) _ _ _ rfl (hown.alloc _) ⟨wr.heap.size, 0, none⟩ 1 1 [.string (s.extract b k)] rfl rfl ?c1 ?c2 h63 hby ?c5 ?_)
            case c1 => exact cell_one_new _ _ _
            case c2 => intro u hu; simp at hu; subst hu; rfl
            case c5 => simp; omega
            intro v' w1 hown1 hgrow _
            have R := Lib.hid (owns_strs (l := l ++ cutF s b k) hown1 (by rw [strV_append, HC.out]; rfl))
            have RB := Lib.hid (below_app' hown HB.out hB hgrow)
            clear hown1 hgrow hown
            go_wp2
            go_roundw
            case rel => exact ⟨k + 1, _, by omega, by go_num, by rw [HS.out, HST.out], by go_num, HN.out, R.out, RB.out⟩
            case measure => simp [intOf]; omega
          · have HC : Hid (cutF s b k = []) := Lib.hid (by unfold cutF; rw [if_neg hbk'])
            clear hown
            go_wp2
            go_roundw
            case rel => exact ⟨k + 1, _, by omega, by go_num, by rw [HS.out, HST.out], by go_num, HN.out, by rw [HC.out, List.append_nil]; exact HOWN.out, HB.out⟩
            case measure => simp [intOf]; omega
        · have HS := Lib.hid (sp_other s k hlt hsp)
          have hsp' : ((s[k].toNat : Int) != 32) = true := by simp; omega
          clear hsp hown
          go_wp2
          go_roundw
          case rel => exact ⟨k + 1, _, by omega, by go_num, by rw [HS.out, HST.out], rfl, HN.out, HOWN.out, HB.out⟩
          case measure => simp [intOf]; omega
    · by_cases hks : k = s.size
      · have HN : Hid ((s.data.toList.take (k + 1)).all okB = true) := Lib.hid (by have := HOK.out; rw [hks, take_all] at this; rw [List.take_of_length_le (by rw [list_len]; omega)]; exact this)
        have HS : Hid (sp s (k + 1) = ((sp s k).1 ++ cutF s (sp s k).2 k, k + 1)) := Lib.hid (by rw [hks]; exact sp_last s)
        by_cases hbk' : b < k
        · have HC : Hid (cutF s b k = [s.extract b k]) := Lib.hid (by unfold cutF; rw [if_pos hbk'])
          have hkz : k ≤ s.size := by omega
          clear hks
          go_wp2_with (at_builtin; refine wpList_append_own _ rfl _ _ 29 rfl w.heap.size 9 i0 (.string ⟨#[]⟩) 1 16 Tryz.underlying29 hi hz0 hz1 hz2 rfl (by decide) _ _ _ rfl (hown.alloc _) ⟨wr.heap.size, 0, none⟩ 1 1 [.string (s.extract b k)] rfl rfl ?d1 ?d2 h63 hby ?d5 ?_)
          case d1 => exact cell_one_new _ _ _
          case d2 => intro u hu; simp at hu; subst hu; rfl
          case d5 => simp; omega
          intro v' w1 hown1 hgrow _
          have R := Lib.hid (owns_strs (l := l ++ cutF s b k) hown1 (by rw [strV_append, HC.out]; rfl))
          have RB := Lib.hid (below_app' hown HB.out hB hgrow)
          clear hown1 hgrow hown
          go_wp2
          go_roundw
          case rel => exact ⟨k + 1, _, by omega, by go_num, by rw [HS.out, HST.out], by go_num, HN.out, R.out, RB.out⟩
          case measure => simp [intOf]; omega
        · have HC : Hid (cutF s b k = []) := Lib.hid (by unfold cutF; rw [if_neg hbk'])
          have hkz : k ≤ s.size := by omega
          clear hown hks
          go_wp2
          go_roundw
          case rel => exact ⟨k + 1, _, by omega, by go_num, by rw [HS.out, HST.out], by go_num, HN.out, by rw [HC.out, List.append_nil]; exact HOWN.out, HB.out⟩
          case measure => simp [intOf]; omega
      · have hk1 : k = s.size + 1 := by omega
        have HALL : Hid (s.data.toList.all okB = true) := Lib.hid (by have := HOK.out; rw [hk1, List.take_of_length_le (by rw [list_len]; omega)] at this; exact this)
        have HL : Hid (spL s = l) := Lib.hid (by unfold spL; rw [← hk1, HST.out])
        have hks' : s.size < k := by omega
        obtain ⟨av, cv, rfl⟩ := owns_shape hown
        clear hk1 hown hks
        by_cases hmany : 24 < l.length
        · have hr := Lib.hid (spR_many s (by rw [HL.out]; exact hmany))
          go_wp2
          go_ret2
          rw [hr.out]
          exact ⟨_, rfl, World.ownsRow_lit _ _ _ hB (by decide) rfl, HB.out.alloc hB _⟩
        · have hr := Lib.hid (spR_yes s h HALL.out (by rw [HL.out]; omega))
          go_wp2
          go_ret2
          rw [hr.out]
          exact ⟨_, rfl, by rw [HL.out]; exact HOWN.out, HB.out⟩
end Go.Proofs.YthmllcpldgbbcaaGreatDoor
