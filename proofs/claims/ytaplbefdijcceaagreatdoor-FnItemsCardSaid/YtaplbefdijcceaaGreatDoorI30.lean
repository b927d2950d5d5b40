/- The program's differentNames, and the library's slices.Contains at strings; The program's LineOk; The program's ProgramOk, check by check: lines, functions, their order, their blocks; The program's ProgramOk, check by check: the functions' names; known variables and calls. -/
import Derived.Test.YtaplbefdijcceaaGreatDoorI18
import Derived.Test.YtaplbefdijcceaaGreatDoorI01
import Derived.Test.YtaplbefdijcceaaGreatDoorI29
import Derived.Test.YtaplbefdijcceaaGreatDoorI10
import Derived.Test.YtaplbefdijcceaaGreatDoorI12
import Derived.Test.YtaplbefdijcceaaGreatDoorI13
import Derived.Test.YtaplbefdijcceaaGreatDoorI24
import Derived.WalkSmall
import Derived.Outline
import Derived.Lib.Hide
import Derived.Deep.QuietTactic
import Derived.BigQuiet
namespace Go.Proofs.YtaplbefdijcceaaGreatDoor
open Go.RowKit Go.Lib
def IdxRes (l : List ByteArray) (x : ByteArray) (w : World) (e : Ending) (w' : World) : Prop :=
  ∃ r : Int, e = .returned (.int .i64 r) ∧ memB l x = decide (0 ≤ r) ∧ -1 ≤ r ∧ r ≤ 2000000 ∧ w = w'
set_option maxHeartbeats 1000000 in
theorem i_sidx (a : Option Addr) (c : Nat) (l : List ByteArray) (n : Nat) (hn : l.length = n) (x : ByteArray) (w : World) (hr : ReadS w a l) (hl : n ≤ 2000000) :
    Calls Tryz.prog 179 #[.slice a n c, .string x] w (IdxRes l x w) := by
  have HR := hid hr
  have HL := hid hn
  clear hr hn
  go_enter Tryz.func179, Tryz.ntmps179
  go_wp2_with fail
  go_loop [5, 8] (fun _ i => ∃ k : Nat, k ≤ n ∧ i = .int .i64 (k : Int) ∧ Hid (x ∉ l.take k)) (fun _ i => n - (RowKit.intOf i).toNat)
  case atStart => exact ⟨0, Nat.zero_le _, rfl, hid (by simp)⟩
  case round =>
    obtain ⟨k, hk, rfl, HX⟩ := hrel
    by_cases hlt : k < n
    · have hkl : k < l.length := by rw [HL.out]; exact hlt
      obtain ⟨g, rfl, c0⟩ := HR.out k hkl
      have NX := hid (not_next l x k hkl HX.out)
      have YM := hid (List.getElem_mem hkl)
      obtain ⟨y, hy⟩ : ∃ y, l[k] = y := ⟨_, rfl⟩
      rw [hy] at c0 NX YM
      have k0 : (0 : Int) ≤ (k : Int) := by omega
      have k1 : (k : Int) < (n : Int) := by omega
      clear hy hkl
      by_cases hxy : x = y
      · subst hxy
        clear NX
        go_wp2
        go_ret
        exact ⟨(k : Int), rfl, by rw [(memB_iff l x).2 YM.out, decide_eq_true k0], by omega, by omega, rfl⟩
      · have hsf := str_ne x y hxy
        have NY := hid (NX.out hxy)
        clear hxy NX
        go_wp2
        go_round
        case rel => exact ⟨k + 1, by omega, by go_num, NY⟩
        case measure => simp [RowKit.intOf]; omega
    · have HN : Hid (memB l x = false) := hid (by
        have h := HX.out
        rw [List.take_of_length_le (by rw [HL.out]; omega)] at h
        exact memB_no l x h)
      go_wp2
      go_ret
      exact ⟨-1, rfl, by rw [HN.out]; rfl, by omega, by omega, rfl⟩
set_option maxHeartbeats 1000000 in
theorem i_cont (a : Option Addr) (c : Nat) (l : List ByteArray) (n : Nat) (hn : l.length = n) (x : ByteArray) (w : World) (hr : ReadS w a l) (hl : n ≤ 2000000) :
    Calls Tryz.prog 146 #[.slice a n c, .string x] w fun e w' => e = .returned (.bool (memB l x)) ∧ w = w' := by
  have S := hid (i_sidx a c l n hn x w hr hl)
  clear hr hn
  go_enter Tryz.func146, Tryz.ntmps146
  go_wp2_with fail
  refine S.out.mono ?_
  rintro e w' ⟨r, rfl, hm, h1, h2, rfl⟩
  have HM := hid hm
  clear hm
  by_cases h0 : 0 ≤ r
  · have hd : decide (0 ≤ r) = true := decide_eq_true h0
    go_wp2
    go_ret
    exact ⟨ret_b (by rw [HM.out, decide_eq_true h0]), rfl⟩
  · have hd : decide (0 ≤ r) = false := decide_eq_false h0
    go_wp2
    go_ret
    exact ⟨ret_b (by rw [HM.out, decide_eq_false (by omega)]), rfl⟩
set_option maxRecDepth 100000 in
set_option maxHeartbeats 1000000 in
theorem i_diff (a : Option Addr) (c : Nat) (l : List ByteArray) (w : World) (hr : ReadS w a l) (hl : l.length ≤ 2000000) (hc : l.length ≤ c) (hc2 : c ≤ maxLen) (hz : ∀ s ∈ l, s.size ≤ maxLen) :
    Calls Tryz.prog 187 #[.slice a l.length c] w fun e w' => e = .returned (.bool (diffB l)) ∧ w = w' := by
  have HR := hid hr
  have HZ := hid hz
  unfold maxLen at hc2
  clear hr hz
  go_enter Tryz.func187, Tryz.ntmps187
  go_wp2_with fail
  go_loop [3, 4, 7] (fun _ _ i => ∃ k : Nat, k ≤ l.length ∧ i = .int .i64 (k : Int) ∧ Hid (diffB (l.take k) = true)) (fun _ _ i => l.length - (RowKit.intOf i).toNat)
  case atStart => exact ⟨0, Nat.zero_le _, rfl, hid rfl⟩
  case round =>
    obtain ⟨k, hk, rfl, HD⟩ := hrel
    by_cases hlt : k < l.length
    · obtain ⟨g, rfl, c0⟩ := HR.out k hlt
      have NX := hid (diffB_next l k hlt HD.out)
      have BD := hid (diffB_bad l k hlt)
      have hsz := HZ.out _ (List.getElem_mem hlt)
      have hln : (l.take k).length = k := by rw [List.length_take]; omega
      have HC := hid (fun x => i_cont (some ⟨g, 0, none⟩) c (l.take k) k hln x w (HR.out.take k) (by omega))
      obtain ⟨y, hy⟩ : ∃ y, l[k] = y := ⟨_, rfl⟩
      rw [hy] at c0 NX BD hsz
      have HN := hid (i_name y w hsz)
      have k0 : (0 : Int) ≤ (k : Int) := by omega
      have k1 : (k : Int) < (l.length : Int) := by omega
      have k2 : (k : Int) ≤ (c : Int) := by omega
      have k3 : k ≤ c := by omega
      clear hy hln hsz
      cases hb : nameB y with
      | false =>
        have HV := hid (BD.out (.inl hb))
        rw [hb] at HN
        clear hb NX BD
        go_wp2_with fail
        refine HN.out.mono ?_
        rintro e w' ⟨rfl, rfl⟩
        go_wp2
        go_ret
        exact ⟨ret_b HV.out.symm, rfl⟩
      | true =>
        rw [hb] at HN
        cases hm : memB (l.take k) y with
        | true =>
          have HV := hid (BD.out (.inr ((memB_iff _ _).1 hm)))
          have HCy := hid (hm ▸ HC.out y)
          clear hb hm NX BD
          go_wp2_with fail
          refine HN.out.mono ?_
          rintro e w' ⟨rfl, rfl⟩
          go_wp2_with fail
          refine HCy.out.mono ?_
          rintro e w' ⟨rfl, rfl⟩
          go_wp2
          go_ret
          exact ⟨ret_b HV.out.symm, rfl⟩
        | false =>
          have HY := hid (NX.out hb (fun h => by rw [(memB_iff _ _).2 h] at hm; cases hm))
          have HCy := hid (hm ▸ HC.out y)
          clear hb hm NX BD
          go_wp2_with fail
          refine HN.out.mono ?_
          rintro e w' ⟨rfl, rfl⟩
          go_wp2_with fail
          refine HCy.out.mono ?_
          rintro e w' ⟨rfl, rfl⟩
          go_wp2
          go_round
          case rel => exact ⟨k + 1, by omega, by go_num, HY⟩
          case measure => simp [RowKit.intOf]; omega
    · have HV : Hid (diffB l = true) := hid (by
        have h := HD.out
        rwa [List.take_of_length_le (by omega)] at h)
      go_wp2
      go_ret
      exact ⟨ret_b HV.out.symm, rfl⟩
end Go.Proofs.YtaplbefdijcceaaGreatDoor

namespace Go.Proofs.YtaplbefdijcceaaGreatDoor
open Go.RowKit Go.Lib
set_option maxHeartbeats 400000 in
theorem i_nf (s : ByteArray) (b : Bool) (w : World) (hm : s.size ≤ maxLen) : Calls Tryz.prog 167 #[.string s, .bool b] w fun e w' => e = .returned (.bool (nfB b s)) ∧ w = w' := by
  cases b
  · by_cases h0 : s.size = 0
    · obtain rfl := empty_of s h0
      go_enter Tryz.func167, Tryz.ntmps167
      go_wp2
      go_ret
      exact ⟨ret_b rfl, rfl⟩
    · have h := empty_no s h0
      have HV : Hid (nfB false s = false) := hid (by unfold nfB; rw [if_neg (by decide), decide_eq_false h0])
      clear h0
      go_enter Tryz.func167, Tryz.ntmps167
      go_wp2
      go_ret
      exact ⟨ret_b HV.out.symm, rfl⟩
  · go_enter Tryz.func167, Tryz.ntmps167
    go_wp2_with fail
    refine (i_name s _ hm).mono ?_
    rintro e w' ⟨rfl, rfl⟩
    go_wp2
    go_ret
    exact ⟨ret_b rfl, rfl⟩
set_option maxHeartbeats 400000 in
theorem i_af (a : Option Addr) (c : Nat) (l : List ByteArray) (b : Bool) (w : World) (hr : ReadS w a l) (hl : l.length ≤ 2000000) (hc : l.length ≤ c) (hc2 : c ≤ maxLen) (hz : ∀ s ∈ l, s.size ≤ maxLen) :
    Calls Tryz.prog 168 #[.slice a l.length c, .bool b] w fun e w' => e = .returned (.bool (afB b l)) ∧ w = w' := by
  have S := hid (i_diff a c l w hr hl hc hc2 hz)
  clear hr hz
  cases b
  · have HV : Hid (afB false l = decide (l.length = 0)) := hid rfl
    by_cases h0 : l.length = 0
    · have HW : Hid (afB false l = true) := hid (by rw [HV.out, decide_eq_true h0])
      rw [h0]
      clear h0 S
      go_enter Tryz.func168, Tryz.ntmps168
      go_wp2
      go_ret
      exact ⟨ret_b HW.out.symm, rfl⟩
    · have HW : Hid (afB false l = false) := hid (by rw [HV.out, decide_eq_false h0])
      have h1 : ((l.length : Int) == 0) = false := beq_eq_false_iff_ne.2 (by omega)
      clear h0 S
      go_enter Tryz.func168, Tryz.ntmps168
      go_wp2
      go_ret
      exact ⟨ret_b HW.out.symm, rfl⟩
  · have HV : Hid (afB true l = (decide (l.length ≤ 4) && diffB l)) := hid rfl
    by_cases h4 : l.length ≤ 4
    · have HW : Hid (afB true l = diffB l) := hid (by rw [HV.out, decide_eq_true h4]; rfl)
      have h1 : decide ((l.length : Int) ≤ 4) = true := decide_eq_true (by omega)
      obtain ⟨r, hr⟩ : ∃ r, diffB l = r := ⟨_, rfl⟩
      rw [hr] at S HW
      clear hr
      go_enter Tryz.func168, Tryz.ntmps168
      go_wp2_with fail
      refine S.out.mono ?_
      rintro e w' ⟨rfl, rfl⟩
      go_wp2
      go_ret
      exact ⟨ret_b HW.out.symm, rfl⟩
    · have HW : Hid (afB true l = false) := hid (by rw [HV.out, decide_eq_false h4]; rfl)
      have h1 : decide ((l.length : Int) ≤ 4) = false := decide_eq_false (by omega)
      clear S
      go_enter Tryz.func168, Tryz.ntmps168
      go_wp2
      go_ret
      exact ⟨ret_b HW.out.symm, rfl⟩
set_option maxHeartbeats 400000 in
theorem i_ef (a : Option Addr) (c : Nat) (l : List TokL) (b : Bool) (w : World) (hr : ReadT w a l) (hl : l.length ≤ 1048576) (hn : NamesI l) :
    Calls Tryz.prog 169 #[.slice a l.length c, .bool b] w fun e w' => e = .returned (.bool (efB b l)) ∧ Below w.heap.size w w' := by
  have S := hid (i_exprok a c l w hl hr hn)
  clear hr hn
  cases b
  · have HV : Hid (efB false l = decide (l.length = 0)) := hid rfl
    by_cases h0 : l.length = 0
    · have HW : Hid (efB false l = true) := hid (by rw [HV.out, decide_eq_true h0])
      rw [h0]
      clear h0 S
      go_enter Tryz.func169, Tryz.ntmps169
      go_wp2
      go_ret
      exact ⟨ret_b HW.out.symm, Below.refl _ _⟩
    · have HW : Hid (efB false l = false) := hid (by rw [HV.out, decide_eq_false h0])
      have h1 : ((l.length : Int) == 0) = false := beq_eq_false_iff_ne.2 (by omega)
      clear h0 S
      go_enter Tryz.func169, Tryz.ntmps169
      go_wp2
      go_ret
      exact ⟨ret_b HW.out.symm, Below.refl _ _⟩
  · have HV : Hid (efB true l = exprB l) := hid rfl
    go_enter Tryz.func169, Tryz.ntmps169
    go_wp2_with fail
    refine S.out.mono ?_
    rintro e w' ⟨rfl, hb⟩
    go_wp2
    go_ret
    exact ⟨ret_b HV.out.symm, hb⟩
def SzOk (p : PLine) (c : Nat) : Prop := p.args.length ≤ 2000000 ∧ p.args.length ≤ c ∧ c ≤ maxLen ∧ (∀ s ∈ p.args, s.size ≤ maxLen) ∧ p.name.size ≤ maxLen ∧ p.expr.length ≤ 1048576 ∧ NamesI p.expr
set_option maxRecDepth 100000 in
set_option maxHeartbeats 2000000 in
theorem i_lineok (p : PLine) (a b : Option Addr) (c d : Nat) (w : World) (hA : ReadS w a p.args) (hT : ReadT w b p.expr) (hs : SzOk p c) (hsh : Shapes w) :
    Calls Tryz.prog 133 #[.agg #[.int .i64 p.kind, .string p.name, .slice a p.args.length c, .slice b p.expr.length d]] w fun e w' => e = .returned (.bool (lineB p)) ∧ Below w.heap.size w w' := by
  by_cases hk0 : p.kind < 0
  · have HV := hid (lineB_out p (.inl hk0))
    obtain ⟨k, nm, gs, ex⟩ := p
    dsimp only at hk0 HV ⊢
    clear hA hT hs hsh
    go_enter Tryz.func133, Tryz.ntmps133
    go_wp2
    go_ret
    exact ⟨ret_b HV.out.symm, (Below.refl _ _).alloc (Nat.le_refl _) _⟩
  by_cases hk7 : 7 < p.kind
  · have HV := hid (lineB_out p (.inr hk7))
    obtain ⟨k, nm, gs, ex⟩ := p
    dsimp only at hk0 hk7 HV ⊢
    clear hA hT hs hsh
    go_enter Tryz.func133, Tryz.ntmps133
    go_wp2
    go_ret
    exact ⟨ret_b HV.out.symm, (Below.refl _ _).alloc (Nat.le_refl _) _⟩
  obtain ⟨k, nm, gs, ex⟩ := p
  obtain ⟨s1, s2, s3, s4, s5, s6, s7⟩ := hs
  dsimp only at hA hT hk0 hk7 s1 s2 s4 s5 s6 s7 ⊢
  obtain ⟨n, rfl⟩ := Int.eq_ofNat_of_zero_le (by omega : 0 ≤ k)
  have hn8 : n < 8 := by omega
  have HV : Hid (lineB ⟨(n : Int), nm, gs, ex⟩ = (nfB (namedB (n : Int)) nm && (afB (decide ((n : Int) = 0)) gs && efB (exprK (n : Int)) ex))) := hid (by
    unfold lineB
    dsimp only
    rw [decide_eq_true (by omega : (0 : Int) ≤ (n : Int)), decide_eq_true (by omega : (n : Int) ≤ 7)]
    rfl)
  obtain ⟨e0, e1, e2, e3⟩ := hsh.at n hn8
  obtain ⟨wd, hwd⟩ : ∃ x, wordZ (n : Int) = x := ⟨_, rfl⟩
  obtain ⟨nb, hnb⟩ : ∃ x, namedB (n : Int) = x := ⟨_, rfl⟩
  obtain ⟨ab, hab⟩ : ∃ x, decide ((n : Int) = 0) = x := ⟨_, rfl⟩
  obtain ⟨eb, heb⟩ : ∃ x, exprK (n : Int) = x := ⟨_, rfl⟩
  rw [hwd] at e0
  rw [hnb] at e1 HV
  rw [hab] at e2 HV
  rw [heb] at e3 HV
  have S1 := hid (fun W => i_nf nm nb W s5)
  have S2 := hid (fun W h => i_af a c gs ab W h s1 s2 s3 s4)
  have S3 := hid (fun W h => i_ef b d ex eb W h s6 s7)
  obtain ⟨r1, hr1⟩ : ∃ x, nfB nb nm = x := ⟨_, rfl⟩
  obtain ⟨r2, hr2⟩ : ∃ x, afB ab gs = x := ⟨_, rfl⟩
  obtain ⟨r3, hr3⟩ : ∃ x, efB eb ex = x := ⟨_, rfl⟩
  rw [hr1] at S1 HV
  rw [hr2] at S2 HV
  rw [hr3] at S3 HV
  have HA := hid hA
  have HT := hid hT
  have k0 : (0 : Int) ≤ (n : Int) := by omega
  have k1 : (n : Int) < 8 := by omega
  have hd1 : decide ((n : Int) < 0) = false := decide_eq_false (by omega)
  have hd2 : decide (7 < (n : Int)) = false := decide_eq_false (by omega)
  have gl : 0 < w.heap.size := World.block_lt_of_cell? w _ e0
  have T := hid (two_new w (.cells #[.int .i64 (n : Int), .string nm, .slice a gs.length c, .slice b ex.length d] 42) (.cells #[.string wd, .bool nb, .bool ab, .bool eb] 199))
  clear hA hT hsh hwd hnb hab heb hr1 hr2 hr3 s1 s2 s3 s4 s5 s6 s7 hk0 hk7
  go_enter Tryz.func133, Tryz.ntmps133
  go_wp2_with fail
  refine (S1.out _).mono ?_
  rintro e w' ⟨rfl, rfl⟩
  cases r1
  · go_wp2
    go_ret
    exact ⟨ret_b HV.out.symm, T.out.2.2.2⟩
  go_wp2_with fail
  refine (S2.out _ (HA.out.below T.out.2.2.2)).mono ?_
  rintro e w' ⟨rfl, rfl⟩
  cases r2
  · go_wp2
    go_ret
    exact ⟨ret_b HV.out.symm, T.out.2.2.2⟩
  go_wp2_with fail
  refine (S3.out _ (HT.out.below T.out.2.2.2)).mono ?_
  rintro e w1 ⟨rfl, b1⟩
  have HB : Hid (Below w.heap.size w w1) := hid (T.out.2.2.2.trans (b1.mono (by rw [T.out.2.2.1]; omega)))
  clear b1
  go_wp2
  go_ret
  exact ⟨ret_b (by rw [HV.out]; rfl), HB.out⟩
end Go.Proofs.YtaplbefdijcceaaGreatDoor

namespace Go.Proofs.YtaplbefdijcceaaGreatDoor
open Go.RowKit Go.Lib
def fixI {α : Type} (pb : α → Bool) (l : List α) : Int := match l.findIdx? pb with
  | some j => (j : Int)
  | none => -1
theorem fixI_at {α : Type} (pb : α → Bool) (l : List α) (j : Nat) (h : j < l.length) (hj : pb l[j] = true) (hno : ∀ i, ∀ h : i < j, pb l[i] = false) : fixI pb l = (j : Int) := by
  unfold fixI
  have : l.findIdx? pb = some j := by
    rw [List.findIdx?_eq_some_iff_getElem]
    exact ⟨h, hj, fun i hi => by rw [hno i hi]; decide⟩
  rw [this]
theorem fixI_none {α : Type} (pb : α → Bool) (l : List α) (h : ∀ j, ∀ h : j < l.length, pb l[j] = false) : fixI pb l = -1 := by
  unfold fixI
  have : l.findIdx? pb = none := by
    rw [List.findIdx?_eq_none_iff]
    intro x hx
    obtain ⟨j, hj, rfl⟩ := List.mem_iff_getElem.1 hx
    exact h j hj
  rw [this]
theorem fixI_any {α : Type} (pb : α → Bool) (l : List α) : decide (0 ≤ fixI pb l) = l.any pb := by
  unfold fixI
  cases h : l.findIdx? pb with
  | some j =>
    simp only
    rw [decide_eq_true (by omega)]
    obtain ⟨hj, hx, _⟩ := List.findIdx?_eq_some_iff_getElem.1 h
    exact (List.any_eq_true.2 ⟨_, List.getElem_mem hj, hx⟩).symm
  | none =>
    simp only
    rw [List.findIdx?_eq_none_iff] at h
    cases hc : l.any pb with
    | false => rfl
    | true =>
      obtain ⟨x, hx, hp⟩ := List.any_eq_true.1 hc
      rw [h x hx] at hp; cases hp
def SzAl (X : List LnL) : Prop := ∀ x ∈ X, SmallL x.p
theorem szOk_of {x : LnL} (h : SmallL x.p) (c : Nat) (h1 : x.args.length ≤ c) (h2 : c ≤ maxLen) : SzOk x.p c :=
  ⟨by have := h.2.1; omega, h1, h2, fun s hs => small_max (h.2.2.1 s hs), small_max h.1, h.2.2.2.1, fun j hj => small_max (h.2.2.2.2 _ (List.getElem_mem hj))⟩
set_option maxRecDepth 100000 in
set_option maxHeartbeats 1000000 in
theorem i_badLine (p : PLine) (a b : Option Addr) (c d : Nat) (w : World) (hA : ReadS w a p.args) (hT : ReadT w b p.expr) (hs : SzOk p c) (hsh : Shapes w) :
    Calls Tryz.prog 132 #[.agg #[.int .i64 p.kind, .string p.name, .slice a p.args.length c, .slice b p.expr.length d]] w fun e w' => e = .returned (.bool (!lineB p)) ∧ Below w.heap.size w w' := by
  have hb0 := (Below.refl w.heap.size w).alloc (Nat.le_refl _) (.cells #[.int .i64 p.kind, .string p.name, .slice a p.args.length c, .slice b p.expr.length d] 42)
  have HL := hid (i_lineok p a b c d _ (hA.below hb0) (hT.below hb0) hs (hsh.on hb0))
  have HB0 := hid hb0
  have hz : (w.alloc (.cells #[.int .i64 p.kind, .string p.name, .slice a p.args.length c, .slice b p.expr.length d] 42)).heap.size = w.heap.size + 1 := by simp
  obtain ⟨r, hr⟩ : ∃ r, lineB p = r := ⟨_, rfl⟩
  rw [hr] at HL ⊢
  obtain ⟨k, nm, gs, ex⟩ := p
  dsimp only at HL HB0 hz ⊢
  clear hA hT hs hsh hb0 hr
  go_enter Tryz.func132, Tryz.ntmps132
  go_wp2_with fail
  refine HL.out.mono ?_
  rintro e w1 ⟨rfl, b1⟩
  have HB1 : Hid (Below w.heap.size w w1) := hid (HB0.out.trans (b1.mono (by omega)))
  clear b1
  go_wp2
  go_ret
  exact ⟨rfl, HB1.out⟩
set_option maxRecDepth 100000 in
set_option maxHeartbeats 2000000 in
theorem i_indexBad (a : Option Addr) (cap : Nat) (X : List LnL) (w : World) (hl : X.length ≤ 2000000) (hr : ReadL 9 49 w a X) (hz : SzAl X) (hsh : Shapes w) :
    Calls Tryz.prog 166 #[.slice a X.length cap, .func (.func 132) #[] #[]] w fun e w' => e = .returned (.int .i64 (fixI (fun p => !lineB p) (plL X))) ∧ Below w.heap.size w w' := by
  have HR := hid hr
  have HZ := hid hz
  have HSH := hid hsh
  have hpl := plL_length X
  clear hr hz hsh
  go_enter Tryz.func166, Tryz.ntmps166
  go_wp2_with fail
  go_loopw [5, 8] (fun _ i wr => ∃ q : Nat, q ≤ X.length ∧ i = .int .i64 (q : Int) ∧ Hid (∀ j, ∀ h : j < (plL X).length, j < q → (!lineB (plL X)[j]) = false) ∧ Below w.heap.size w wr) (fun _ i _ => X.length - (RowKit.intOf i).toNat)
  case atStart => exact ⟨0, Nat.zero_le _, rfl, hid (fun j _ h => by omega), Below.refl _ _⟩
  case round =>
    obtain ⟨q, hq, rfl, HE, hbel⟩ := hrel
    have HB := hid hbel
    have hB := hbel.size
    by_cases hlt : q < X.length
    · obtain ⟨g, rfl, hg, ⟨c0, c1, c2, c3⟩, hm⟩ := (HR.out.below hbel) q hlt
      have hqp : q < (plL X).length := by omega
      have hsm := HZ.out _ (List.getElem_mem hlt)
      have HAT := hid (fun h => fixI_at (fun p => !lineB p) (plL X) q hqp h (fun i hi => HE.out i (by omega) hi))
      have HNX := hid (fun (h : (!lineB (plL X)[q]) = false) => show ∀ j, ∀ h : j < (plL X).length, j < q + 1 → (!lineB (plL X)[j]) = false from fun j hj hjq => by
        by_cases hjj : j = q
        · subst hjj; exact h
        · exact HE.out j hj (by omega))
      rw [pl_at X q hlt] at HAT HNX
      obtain ⟨xa, xb, xc, xd, ea, ee, rs, rt, hcap, _⟩ := inMem_shape hm
      rw [ea] at c2
      rw [ee] at c3
      have HF := hid (i_badLine X[q].p xa xb xc xd wr rs rt (szOk_of hsm xc hcap.1 hcap.2) (HSH.out.on hbel))
      obtain ⟨r, hr⟩ : ∃ r, lineB X[q].p = r := ⟨_, rfl⟩
      rw [hr] at HF HAT HNX
      obtain ⟨x, hx⟩ : ∃ x, X[q] = x := ⟨_, rfl⟩
      rw [hx] at c0 c1 c2 c3 HF
      obtain ⟨kk, nm, gs, ex, va, ve⟩ := x
      dsimp only [LnL.p] at c0 c1 c2 c3 HF
      have k0 : (0 : Int) ≤ (q : Int) := by omega
      have k1 : (q : Int) < (X.length : Int) := by omega
      clear hbel hm ea ee hr hx rs rt hcap hsm
      cases r
      · have HV := hid (HAT.out rfl)
        clear HAT HNX
        go_wp2_with fail
        refine HF.out.mono ?_
        rintro e w1 ⟨rfl, b1⟩
        have HB1 : Hid (Below w.heap.size w w1) := hid (HB.out.trans (b1.mono hB))
        clear b1 c0 c1 c2 c3
        go_wp2
        go_ret
        exact ⟨by rw [HV.out]; rfl, HB1.out⟩
      · have HN := hid (HNX.out rfl)
        clear HAT HNX
        go_wp2_with fail
        refine HF.out.mono ?_
        rintro e w1 ⟨rfl, b1⟩
        have HB1 : Hid (Below w.heap.size w w1) := hid (HB.out.trans (b1.mono hB))
        clear b1 c0 c1 c2 c3
        go_wp2
        go_roundw
        case rel => exact ⟨q + 1, by omega, by go_num, HN, HB1.out⟩
        case measure => simp [RowKit.intOf]; omega
    · have HV := hid (fixI_none (fun p => !lineB p) (plL X) (fun j hj => HE.out j hj (by omega)))
      have hqq : q = X.length := by omega
      subst hqq
      clear hbel
      go_wp2
      go_ret
      exact ⟨by rw [HV.out]; rfl, HB.out⟩
def linesB (p : List PLine) : Bool := decide (p.length ≤ 60) && p.all lineB
theorem linesB_iff (p : List PLine) : linesB p = true ↔ (p.length ≤ 60 ∧ ∀ x ∈ p, lineB x = true) := by
  unfold linesB
  rw [Bool.and_eq_true, decide_eq_true_eq, List.all_eq_true]
theorem any_not (p : List PLine) : (!p.any fun p => !lineB p) = p.all lineB := by
  rw [List.not_any_eq_all_not]
  congr 1
  funext x
  rw [Bool.not_not]
set_option maxHeartbeats 1000000 in
theorem x_containsBad (a : Option Addr) (cap : Nat) (X : List LnL) (w : World) (hl : X.length ≤ 2000000) (hr : ReadL 9 49 w a X) (hz : SzAl X) (hsh : Shapes w) :
    Calls Tryz.prog 131 #[.slice a X.length cap, .func (.func 132) #[] #[]] w fun e w' => e = .returned (.bool (!(plL X).all lineB)) ∧ Below w.heap.size w w' := by
  have HC := hid (i_indexBad a cap X w hl hr hz hsh)
  have HM : Hid (decide (0 ≤ fixI (fun p => !lineB p) (plL X)) = !(plL X).all lineB) := hid (by rw [fixI_any, ← any_not, Bool.not_not])
  clear hr hz hsh
  go_enter Tryz.func131, Tryz.ntmps131
  go_wp2_with fail
  refine HC.out.mono ?_
  rintro e w1 ⟨rfl, b1⟩
  have HB := hid b1
  clear b1
  generalize fixI (fun p => !lineB p) (plL X) = r at *
  go_wp2
  go_ret
  exact ⟨ret_b HM.out, HB.out⟩
set_option maxHeartbeats 1000000 in
theorem i_linesFit (a : Option Addr) (cap : Nat) (X : List LnL) (w : World) (hl : X.length ≤ 2000000) (hr : ReadL 9 49 w a X) (hz : SzAl X) (hsh : Shapes w) :
    Calls Tryz.prog 95 #[.slice a X.length cap] w fun e w' => e = .returned (.bool (linesB (plL X))) ∧ Below w.heap.size w w' := by
  have HC := hid (x_containsBad a cap X w hl hr hz hsh)
  have hpl := plL_length X
  clear hr hz hsh
  by_cases h60 : X.length ≤ 60
  · have HV : Hid (linesB (plL X) = (plL X).all lineB) := hid (by unfold linesB; rw [decide_eq_true (by omega)]; rfl)
    have hd : decide ((X.length : Int) ≤ 60) = true := decide_eq_true (by omega)
    generalize (plL X).all lineB = r at *
    clear hpl
    go_enter Tryz.func95, Tryz.ntmps95
    go_wp2_with fail
    refine HC.out.mono ?_
    rintro e w1 ⟨rfl, b1⟩
    have HB := hid b1
    clear b1
    go_wp2
    go_ret
    exact ⟨ret_b (by rw [HV.out]), HB.out⟩
  · have HV : Hid (linesB (plL X) = false) := hid (by unfold linesB; rw [decide_eq_false (by omega)]; rfl)
    have hd : decide ((X.length : Int) ≤ 60) = false := decide_eq_false (by omega)
    clear hpl
    go_enter Tryz.func95, Tryz.ntmps95
    go_wp2
    go_ret
    exact ⟨ret_b HV.out.symm, Below.refl _ _⟩
end Go.Proofs.YtaplbefdijcceaaGreatDoor

namespace Go.Proofs.YtaplbefdijcceaaGreatDoor
open Go.RowKit Go.Lib
def nmZ (p : List PLine) (k : Nat) : ByteArray := match p[k]? with
  | none => ⟨#[]⟩
  | some x => x.name
theorem nmZ_at (X : List LnL) (k : Nat) (h : k < X.length) : nmZ (plL X) k = X[k].name := by
  have hq : k < (plL X).length := by rw [plL_length]; exact h
  unfold nmZ
  rw [List.getElem?_eq_getElem hq, pl_at X k h]
  rfl
def FunsP (p : List PLine) : Prop := (funs p).length ≤ 6 ∧ findZ p mainT = 0 ∧ argsZ p 0 = [] ∧ ∀ k ∈ funs p, ∀ h : k < p.length, findZ p p[k].name = (k : Int)
def uniq (p : List PLine) (q : Nat) : Prop := ∀ i, ∀ h : i < (funs p).length, i < q → findZ p (nmZ p (funs p)[i]) = ((funs p)[i] : Int)
theorem uniq_all (p : List PLine) : uniq p (funs p).length ↔ ∀ k ∈ funs p, ∀ h : k < p.length, findZ p p[k].name = (k : Int) := by
  have hn : ∀ k, ∀ h : k < p.length, nmZ p k = p[k].name := fun k h => by unfold nmZ; rw [List.getElem?_eq_getElem h]
  constructor
  · intro hu k hk h
    obtain ⟨i, hi, rfl⟩ := List.mem_iff_getElem.1 hk
    rw [← hn _ h]
    exact hu i hi hi
  · intro hu i hi _
    have hlt := funs_lt p i hi
    rw [hn _ hlt]
    exact hu _ (List.getElem_mem hi) hlt
set_option maxRecDepth 100000 in
set_option maxHeartbeats 4000000 in
theorem i_funFit (a : Option Addr) (cap : Nat) (X : List LnL) (w : World) (hl : X.length ≤ 1048576) (hr : ReadL 9 49 w a X) :
    Calls Tryz.prog 96 #[.slice a X.length cap] w (Ans (FunsP (plL X)) w) := by
  have HR := hid hr
  have hpl := plL_length X
  have HF := hid (i_funLines a cap X w hl hr)
  have HE := hid (fun (W : World) (hb : Below w.heap.size w W) n => i_findFn a cap X n W (by omega) (hr.below hb))
  clear hr
  go_enter Tryz.func96, Tryz.ntmps96
  go_wp2_with fail
  refine HF.out.mono ?_
  rintro e w1 ⟨v, rfl, hown, b1⟩
  obtain ⟨av, cv, rfl⟩ := owns3_shape hown
  have HRI := hid (readI_of hown)
  have HB1 := hid b1
  have z1 := b1.size
  have hfl := funI_length (plL X)
  obtain ⟨F, hF⟩ : ∃ F, funI (plL X) = F := ⟨_, rfl⟩
  have HFG := hid (fun i h => funI_get (plL X) i h)
  rw [hF] at HRI hfl HFG
  have HFL := hid hfl
  obtain ⟨n, hn⟩ : ∃ n, F.length = n := ⟨_, rfl⟩
  have HNN := hid hn
  rw [hF, hn]
  rw [hn] at hfl
  have HNF := hid hfl
  clear b1 hown hF hn HF hfl
  by_cases hn6 : 6 < n
  · have HV : Hid (¬ FunsP (plL X)) := hid (fun h => by have := h.1; have := HNF.out; omega)
    have hd : decide (6 < (n : Int)) = true := decide_eq_true (by omega)
    go_wp2
    go_ret
    exact Ans.of false rfl (by simpa using HV.out) HB1.out
  have hd : decide (6 < (n : Int)) = false := decide_eq_false (by omega)
  have HMM := hid (HE.out w1 HB1.out ⟨#[109, 97, 105, 110]⟩)
  by_cases hm : findZ (plL X) mainT = 0
  · obtain ⟨h0l, h00, _⟩ := (find_zero (plL X) mainT).1 hm
    have hx0 : 0 < X.length := by omega
    obtain ⟨g, rfl, hg, ⟨_, _, c2, _⟩, hmm⟩ := (HR.out.below HB1.out) 0 hx0
    obtain ⟨xa, _, xc, _, ea, _, _, _, _, _⟩ := inMem_shape hmm
    rw [ea] at c2
    have c2' : w1.cell? ⟨g, 2, none⟩ = some (.slice xa X[0].args.length xc) := c2
    have HM : Hid (findZ (plL X) ⟨#[109, 97, 105, 110]⟩ = 0) := hid hm
    rw [HM.out] at HMM
    have HA0 : Hid (argsZ (plL X) 0 = X[0].args) := hid (argsZ_at X 0 hx0)
    have HU : Hid (uniq (plL X) n ↔ ∀ k ∈ funs (plL X), ∀ h : k < (plL X).length, findZ (plL X) (plL X)[k].name = (k : Int)) := hid (by rw [HNF.out]; exact uniq_all _)
    have HM0 := hid hm
    clear c2 hmm ea hm h00
    by_cases ha : X[0].args.length = 0
    · have hd0 : decide ((0 : Int) < (X[0].args.length : Int)) = false := decide_eq_false (by omega)
      have hd1 : ¬ 0 < X[0].args.length := by omega
      have HFP : Hid (uniq (plL X) n ↔ FunsP (plL X)) := hid (by
        rw [HU.out]
        unfold FunsP
        exact ⟨fun h => ⟨by have := HNF.out; omega, HM0.out, by rw [HA0.out]; exact List.length_eq_zero_iff.1 ha, h⟩, fun h => h.2.2.2⟩)
      generalize X[0].args.length = na at *
      clear ha
      go_wp2_with fail
      refine HMM.out.mono ?_
      rintro e w2 ⟨rfl, b2⟩
      have HB2 : Hid (Below w.heap.size w w2) := hid (HB1.out.trans (b2.mono z1))
      have HC2 := hid b2
      have d2 : w2.cell? ⟨g, 2, none⟩ = some (.slice xa na xc) := (b2.cell (p := ⟨g, 2, none⟩) (by show g < w1.heap.size; omega)).trans c2'
      clear b2 c2'
      go_wp2_with fail
      clear d2
      go_loopw [5, 26] (fun _ i wr => ∃ q : Nat, q ≤ n ∧ i = .int .i64 (q : Int) ∧ Hid (uniq (plL X) q) ∧ Below w.heap.size w wr ∧ Below w1.heap.size w1 wr) (fun _ i _ => n - (RowKit.intOf i).toNat)
      case atStart => exact ⟨0, Nat.zero_le _, rfl, hid (fun i _ h => by omega), HB2.out, HC2.out⟩
      case round =>
        obtain ⟨q, hq, rfl, HP, hbel, hbel1⟩ := hrel
        have HB := hid hbel
        have HC := hid hbel1
        have hB := hbel.size
        have hC := hbel1.size
        by_cases hlt : q < n
        · have hqF : q < F.length := by rw [HNN.out]; exact hlt
          obtain ⟨gv, rfl, hgv, c0⟩ := (HRI.out.below hbel1) q hqF
          obtain ⟨hq', hget⟩ := HFG.out q hqF
          rw [hget] at c0
          have hklt := funs_lt (plL X) q hq'
          have HPN := hid (fun (h : findZ (plL X) (nmZ (plL X) (funs (plL X))[q]) = (((funs (plL X))[q] : Nat) : Int)) => show uniq (plL X) (q + 1) from fun i hi hiq => by
            by_cases hiq' : i = q
            · subst hiq'; exact h
            · exact HP.out i hi (by omega))
          have HPX := hid (fun (h : FunsP (plL X)) => HFP.out.2 h q hq' hlt)
          obtain ⟨k, hk⟩ : ∃ k, (funs (plL X))[q] = k := ⟨_, rfl⟩
          rw [hk] at c0 hklt HPN HPX
          have hkX : k < X.length := by omega
          rw [nmZ_at X k hkX] at HPN HPX
          obtain ⟨g', hga, hg', ⟨_, c1, _, _⟩, _⟩ := (HR.out.below hbel) k hkX
          injection hga with hga
          injection hga with hga
          subst hga
          have HEK := hid (HE.out wr hbel X[k].name)
          obtain ⟨r, hrr⟩ : ∃ r, findZ (plL X) X[k].name = r := ⟨_, rfl⟩
          rw [hrr] at HEK HPN HPX
          generalize X[k].name = nm at *
          have k0 : (0 : Int) ≤ (q : Int) := by omega
          have k1 : (q : Int) < (n : Int) := by omega
          have k2 : (0 : Int) ≤ (k : Int) := by omega
          have k3 : (k : Int) < (X.length : Int) := by omega
          clear hk hrr hget hqF hq' hbel hbel1 hklt
          by_cases hrk : r = (k : Int)
          · subst hrk
            have HN := hid (HPN.out rfl)
            clear HPN HPX HP
            go_wp2_with fail
            refine HEK.out.mono ?_
            rintro e w3 ⟨rfl, b3⟩
            have HB3 : Hid (Below w.heap.size w w3) := hid (HB.out.trans (b3.mono hB))
            have HC3 : Hid (Below w1.heap.size w1 w3) := hid (HC.out.trans (b3.mono hC))
            clear b3 c0 c1
            go_wp2
            go_roundw
            case rel => exact ⟨q + 1, by omega, by go_num, HN, HB3.out, HC3.out⟩
            case measure => simp [RowKit.intOf]; omega
          · have HV : Hid (¬ FunsP (plL X)) := hid (fun h => hrk (HPX.out h))
            have hdk : (r != (k : Int)) = true := by simpa using hrk
            clear HPN HPX HP hrk
            go_wp2_with fail
            refine HEK.out.mono ?_
            rintro e w3 ⟨rfl, b3⟩
            have HB3 : Hid (Below w.heap.size w w3) := hid (HB.out.trans (b3.mono hB))
            clear b3 c0 c1
            go_wp2
            go_ret
            exact Ans.of false rfl (by simpa using HV.out) HB3.out
        · have hqq : q = n := by omega
          have HV : Hid (FunsP (plL X)) := hid (HFP.out.1 (hqq ▸ HP.out))
          subst hqq
          clear hbel hbel1 HP
          go_wp2
          go_ret
          exact Ans.of true rfl (by simpa using HV.out) HB.out
    · have hd0 : decide ((0 : Int) < (X[0].args.length : Int)) = true := decide_eq_true (by omega)
      have hd1 : 0 < X[0].args.length := by omega
      have HV : Hid (¬ FunsP (plL X)) := hid (fun h => by
        have := h.2.2.1
        rw [HA0.out] at this
        exact ha (by rw [this]; rfl))
      generalize X[0].args.length = na at *
      clear ha
      go_wp2_with fail
      refine HMM.out.mono ?_
      rintro e w2 ⟨rfl, b2⟩
      have HB2 : Hid (Below w.heap.size w w2) := hid (HB1.out.trans (b2.mono z1))
      have d2 : w2.cell? ⟨g, 2, none⟩ = some (.slice xa na xc) := (b2.cell (p := ⟨g, 2, none⟩) (by show g < w1.heap.size; omega)).trans c2'
      clear b2 c2'
      go_wp2
      go_ret
      exact Ans.of false rfl (by simpa using HV.out) HB2.out
  · have HV : Hid (¬ FunsP (plL X)) := hid (fun h => hm h.2.1)
    obtain ⟨r, hrr⟩ : ∃ r, findZ (plL X) ⟨#[109, 97, 105, 110]⟩ = r := ⟨_, rfl⟩
    have hrn : r ≠ 0 := fun e => hm (by rw [← e, ← hrr]; rfl)
    rw [hrr] at HMM
    have hdr : (r != 0) = true := by simpa using hrn
    clear hm hrn hrr
    go_wp2_with fail
    refine HMM.out.mono ?_
    rintro e w2 ⟨rfl, b2⟩
    have HB2 : Hid (Below w.heap.size w w2) := hid (HB1.out.trans (b2.mono z1))
    clear b2
    go_wp2
    go_ret
    exact Ans.of false rfl (by simpa using HV.out) HB2.out
end Go.Proofs.YtaplbefdijcceaaGreatDoor
