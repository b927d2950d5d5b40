/- Two rows compared element by element: the model's functions, and the library's slices.Equal at both types. -/
import Derived.Test.YthmllcpldgbbcaaGreatDoorLineEq
import Derived.Test.YthmllcpldgbbcaaGreatDoorPlainB
import Derived.Test.YthmllcpldgbbcaaGreatDoorTokNeq
import Derived.WalkSmall
import Derived.Deep.QuietTactic
import Derived.BigQuiet
namespace Go.Proofs.YthmllcpldgbbcaaGreatDoor
open Go.RowKit Go.Lib

set_option maxHeartbeats 1000000 in
theorem s_texts (a b : Option Addr) (c d : Nat) (l m : List ByteArray) (w : World) (ha : ReadS w a l) (hb : ReadS w b m) (hl : l.length ≤ 2000000) (hm : m.length ≤ 2000000) :
    Calls Tryz.prog 56 #[.slice a l.length c, .slice b m.length d] w fun e w' => e = .returned (.bool (textsB l m)) ∧ Below w.heap.size w w' := by
  by_cases hlen : l.length = m.length
  · obtain ⟨n, hn⟩ : ∃ n, l.length = n := ⟨_, rfl⟩
    have HA : Hid (∀ j, j < n → ∃ h : j < l.length, True) := Lib.hid (fun j hj => ⟨by omega, trivial⟩)
    have HL := Lib.hid hn
    have HM : Hid (m.length = n) := Lib.hid (by omega)
    rw [← hlen, hn]
    have RA := Lib.hid ha
    have RB := Lib.hid hb
    have hn2 : n ≤ 2000000 := by omega
    clear ha hb hlen hn hl hm
    go_enter Tryz.func56, Tryz.ntmps56
    go_wp2_with fail
    go_loopw [5] (fun i wr => ∃ (k q : Nat), k ≤ n ∧ i = .int .i64 (k : Int) ∧ Hid (l.take k = m.take k) ∧ wr = w.drewN q) (fun i _ => n - (RowKit.intOf i).toNat)
    case atStart => exact ⟨0, 0, Nat.zero_le _, rfl, Lib.hid (by simp), rfl⟩
    case round =>
      obtain ⟨k, q, hk, rfl, HT, rfl⟩ := hrel
      by_cases hlt : k < n
      · have hla : k < l.length := by rw [HL.out]; exact hlt
        have hlb : k < m.length := by rw [HM.out]; exact hlt
        obtain ⟨g, rfl, c1⟩ := RA.out k hla
        obtain ⟨g', rfl, c2⟩ := RB.out k hlb
        have NX := Lib.hid (same_next l m k hla hlb HT.out)
        have NO := Lib.hid (textsB_no l m k hla hlb)
        obtain ⟨x, hx⟩ : ∃ x, l[k] = x := ⟨_, rfl⟩
        obtain ⟨y, hy⟩ : ∃ y, m[k] = y := ⟨_, rfl⟩
        rw [hx] at c1 NX NO
        rw [hy] at c2 NX NO
        have k0 : (0 : Int) ≤ (k : Int) := by omega
        have k1 : (k : Int) < (n : Int) := by omega
        clear hx hy hla hlb
        by_cases hxy : x = y
        · subst hxy
          have NY := Lib.hid (NX.out rfl)
          clear NX NO
          go_wp2_with fail
          go_quiet (fail)
          go_wp2
          go_roundw
          case rel => exact ⟨k + 1, _, by omega, by go_num, NY, rfl⟩
          case measure => simp [RowKit.intOf]; omega
        · have hsf := str_ne x y hxy
          have hsg := str_ne' x y hxy
          have HV := Lib.hid (NO.out hxy)
          clear hxy
          go_wp2_with fail
          go_quiet (fail)
          go_wp2
          go_ret
          exact ⟨ret_b HV.out.symm, below_drewN (below_drewN (Below.refl _ _) q) _⟩
      · have hall : l = m := by
          have h := HT.out
          rwa [List.take_of_length_le (by rw [HL.out]; omega), List.take_of_length_le (by rw [HM.out]; omega)] at h
        have HV := Lib.hid ((textsB_iff l m).2 hall)
        clear hall
        go_wp2
        go_ret
        exact ⟨ret_b HV.out.symm, below_drewN (Below.refl _ _) q⟩
  · have HV := Lib.hid (textsB_len l m hlen)
    have h1 : ((l.length : Int) == (m.length : Int)) = false := beq_eq_false_iff_ne.2 (by omega)
    have h2 : ((l.length : Int) != (m.length : Int)) = true := by simp only [bne, h1]; rfl
    have h3 : (l.length == m.length) = false := beq_eq_false_iff_ne.2 hlen
    have h4 : (l.length != m.length) = true := by simp only [bne, h3]; rfl
    clear ha hb hlen
    go_enter Tryz.func56, Tryz.ntmps56
    go_wp2
    go_ret
    exact ⟨ret_b HV.out.symm, Below.refl _ _⟩

set_option maxHeartbeats 1000000 in
theorem s_toks (a b : Option Addr) (c d : Nat) (l m : List TokL) (w : World) (ha : ReadT w a l) (hb : ReadT w b m) (hl : l.length ≤ 2000000) (hm : m.length ≤ 2000000) :
    Calls Tryz.prog 57 #[.slice a l.length c, .slice b m.length d] w fun e w' => e = .returned (.bool (toksB l m)) ∧ Below w.heap.size w w' := by
  by_cases hlen : l.length = m.length
  · obtain ⟨n, hn⟩ : ∃ n, l.length = n := ⟨_, rfl⟩
    have HA : Hid (∀ j, j < n → ∃ h : j < l.length, True) := Lib.hid (fun j hj => ⟨by omega, trivial⟩)
    have HL := Lib.hid hn
    have HM : Hid (m.length = n) := Lib.hid (by omega)
    rw [← hlen, hn]
    have RA := Lib.hid ha
    have RB := Lib.hid hb
    have hn2 : n ≤ 2000000 := by omega
    clear ha hb hlen hn hl hm
    go_enter Tryz.func57, Tryz.ntmps57
    go_wp2_with fail
    go_loopw [5] (fun i wr => ∃ (k q : Nat), k ≤ n ∧ i = .int .i64 (k : Int) ∧ Hid (l.take k = m.take k) ∧ wr = w.drewN q) (fun i _ => n - (RowKit.intOf i).toNat)
    case atStart => exact ⟨0, 0, Nat.zero_le _, rfl, Lib.hid (by simp), rfl⟩
    case round =>
      obtain ⟨k, q, hk, rfl, HT, rfl⟩ := hrel
      by_cases hlt : k < n
      · have hla : k < l.length := by rw [HL.out]; exact hlt
        have hlb : k < m.length := by rw [HM.out]; exact hlt
        obtain ⟨g, rfl, hg, c0, c1, c2⟩ := RA.out k hla
        obtain ⟨g', rfl, hg', c0', c1', c2'⟩ := RB.out k hlb
        have NX := Lib.hid (same_next l m k hla hlb HT.out)
        have NO := Lib.hid (toksB_no l m k hla hlb)
        obtain ⟨x, hx⟩ : ∃ x, l[k] = x := ⟨_, rfl⟩
        obtain ⟨y, hy⟩ : ∃ y, m[k] = y := ⟨_, rfl⟩
        rw [hx] at c0 c1 c2 NX NO
        rw [hy] at c0' c1' c2' NX NO
        have k0 : (0 : Int) ≤ (k : Int) := by omega
        have k1 : (k : Int) < (n : Int) := by omega
        have hc : ∀ i v, (w.cell? ⟨g, i, none⟩ = some v → (w.drewN q).cell? ⟨g, i, none⟩ = some v) := fun _ _ h => h
        have hg1 : g < (w.drewN q).heap.size := hg
        have hg2 : g' < (w.drewN q).heap.size := hg'
        have HNE := Lib.hid (fun W => tok_neq x y W)
        clear hx hy hla hlb hc
        by_cases hxy : x = y
        · subst hxy
          have NY := Lib.hid (NX.out rfl)
          clear NX NO
          have hne : ∀ W, (binOp .neq 66 (.agg #[.int .i64 x.kind, .int .i64 x.num, .string x.name]) (.agg #[.int .i64 x.kind, .int .i64 x.num, .string x.name])).run Tryz.prog W = .ok (.bool false) W := fun W => by rw [HNE.out W, sameT_self]; rfl
          go_wp2_with fail
          go_quiet (fail)
          go_wp2
          go_roundw
          case rel => exact ⟨k + 1, _, by omega, by go_num, NY, rfl⟩
          case measure => simp [RowKit.intOf]; omega
        · have hsf : sameT x y = false := by
            cases h : sameT x y with
            | false => rfl
            | true => exact absurd ((sameT_iff x y).1 h) hxy
          have hne : ∀ W, (binOp .neq 66 (.agg #[.int .i64 x.kind, .int .i64 x.num, .string x.name]) (.agg #[.int .i64 y.kind, .int .i64 y.num, .string y.name])).run Tryz.prog W = .ok (.bool true) W := fun W => by rw [HNE.out W, hsf]; rfl
          have HV := Lib.hid (NO.out hxy)
          clear hsf hxy
          go_wp2_with fail
          go_quiet (fail)
          go_wp2
          go_ret
          exact ⟨ret_b HV.out.symm, below_drewN (below_drewN (Below.refl _ _) q) _⟩
      · have hall : l = m := by
          have h := HT.out
          rwa [List.take_of_length_le (by rw [HL.out]; omega), List.take_of_length_le (by rw [HM.out]; omega)] at h
        have HV := Lib.hid ((toksB_iff l m).2 hall)
        clear hall
        go_wp2
        go_ret
        exact ⟨ret_b HV.out.symm, below_drewN (Below.refl _ _) q⟩
  · have HV := Lib.hid (toksB_len l m hlen)
    have h1 : ((l.length : Int) == (m.length : Int)) = false := beq_eq_false_iff_ne.2 (by omega)
    have h2 : ((l.length : Int) != (m.length : Int)) = true := by simp only [bne, h1]; rfl
    have h3 : (l.length == m.length) = false := beq_eq_false_iff_ne.2 hlen
    have h4 : (l.length != m.length) = true := by simp only [bne, h3]; rfl
    clear ha hb hlen
    go_enter Tryz.func57, Tryz.ntmps57
    go_wp2
    go_ret
    exact ⟨ret_b HV.out.symm, Below.refl _ _⟩

set_option maxHeartbeats 1000000 in
theorem i_eqStrs (a b : Option Addr) (c d : Nat) (l m : List ByteArray) (w : World) (ha : ReadS w a l) (hb : ReadS w b m) (hl : l.length ≤ 2000000) (hm : m.length ≤ 2000000) :
    Calls Tryz.prog 28 #[.slice a l.length c, .slice b m.length d] w fun e w' => e = .returned (.bool (textsB l m)) ∧ Below w.heap.size w w' := by
  by_cases hlen : l.length = m.length
  · obtain ⟨n, hn⟩ : ∃ n, l.length = n := ⟨_, rfl⟩
    have HA : Hid (∀ j, j < n → ∃ h : j < l.length, True) := Lib.hid (fun j hj => ⟨by omega, trivial⟩)
    have HL := Lib.hid hn
    have HM : Hid (m.length = n) := Lib.hid (by omega)
    rw [← hlen, hn]
    have RA := Lib.hid ha
    have RB := Lib.hid hb
    have hn2 : n ≤ 2000000 := by omega
    clear ha hb hlen hn hl hm
    go_enter Tryz.func28, Tryz.ntmps28
    go_wp2_with fail
    go_loopw [5, 13] (fun _ i wr => ∃ (k q : Nat), k ≤ n ∧ i = .int .i64 (k : Int) ∧ Hid (l.take k = m.take k) ∧ wr = w.drewN q) (fun _ i _ => n - (RowKit.intOf i).toNat)
    case atStart => exact ⟨0, 0, Nat.zero_le _, rfl, Lib.hid (by simp), rfl⟩
    case round =>
      obtain ⟨k, q, hk, rfl, HT, rfl⟩ := hrel
      by_cases hlt : k < n
      · have hla : k < l.length := by rw [HL.out]; exact hlt
        have hlb : k < m.length := by rw [HM.out]; exact hlt
        obtain ⟨g, rfl, c1⟩ := RA.out k hla
        obtain ⟨g', rfl, c2⟩ := RB.out k hlb
        have NX := Lib.hid (same_next l m k hla hlb HT.out)
        have NO := Lib.hid (textsB_no l m k hla hlb)
        obtain ⟨x, hx⟩ : ∃ x, l[k] = x := ⟨_, rfl⟩
        obtain ⟨y, hy⟩ : ∃ y, m[k] = y := ⟨_, rfl⟩
        rw [hx] at c1 NX NO
        rw [hy] at c2 NX NO
        have k0 : (0 : Int) ≤ (k : Int) := by omega
        have k1 : (k : Int) < (n : Int) := by omega
        clear hx hy hla hlb
        by_cases hxy : x = y
        · subst hxy
          have NY := Lib.hid (NX.out rfl)
          clear NX NO
          go_wp2_with fail
          go_quiet (fail)
          go_wp2
          go_roundw
          case rel => exact ⟨k + 1, _, by omega, by go_num, NY, rfl⟩
          case measure => simp [RowKit.intOf]; omega
        · have hsf := str_ne x y hxy
          have hsg := str_ne' x y hxy
          have HV := Lib.hid (NO.out hxy)
          clear hxy
          go_wp2_with fail
          go_quiet (fail)
          go_wp2
          go_ret
          exact ⟨ret_b HV.out.symm, below_drewN (below_drewN (Below.refl _ _) q) _⟩
      · have hall : l = m := by
          have h := HT.out
          rwa [List.take_of_length_le (by rw [HL.out]; omega), List.take_of_length_le (by rw [HM.out]; omega)] at h
        have HV := Lib.hid ((textsB_iff l m).2 hall)
        clear hall
        go_wp2
        go_ret
        exact ⟨ret_b HV.out.symm, below_drewN (Below.refl _ _) q⟩
  · have HV := Lib.hid (textsB_len l m hlen)
    have h1 : ((l.length : Int) == (m.length : Int)) = false := beq_eq_false_iff_ne.2 (by omega)
    have h2 : ((l.length : Int) != (m.length : Int)) = true := by simp only [bne, h1]; rfl
    have h3 : (l.length == m.length) = false := beq_eq_false_iff_ne.2 hlen
    have h4 : (l.length != m.length) = true := by simp only [bne, h3]; rfl
    clear ha hb hlen
    go_enter Tryz.func28, Tryz.ntmps28
    go_wp2
    go_ret
    exact ⟨ret_b HV.out.symm, Below.refl _ _⟩

set_option maxHeartbeats 1000000 in
theorem i_eqToks (a b : Option Addr) (c d : Nat) (l m : List TokL) (w : World) (ha : ReadT w a l) (hb : ReadT w b m) (hl : l.length ≤ 2000000) (hm : m.length ≤ 2000000) :
    Calls Tryz.prog 29 #[.slice a l.length c, .slice b m.length d] w fun e w' => e = .returned (.bool (toksB l m)) ∧ Below w.heap.size w w' := by
  by_cases hlen : l.length = m.length
  · obtain ⟨n, hn⟩ : ∃ n, l.length = n := ⟨_, rfl⟩
    have HA : Hid (∀ j, j < n → ∃ h : j < l.length, True) := Lib.hid (fun j hj => ⟨by omega, trivial⟩)
    have HL := Lib.hid hn
    have HM : Hid (m.length = n) := Lib.hid (by omega)
    rw [← hlen, hn]
    have RA := Lib.hid ha
    have RB := Lib.hid hb
    have hn2 : n ≤ 2000000 := by omega
    clear ha hb hlen hn hl hm
    go_enter Tryz.func29, Tryz.ntmps29
    go_wp2_with fail
    go_loopw [5, 13] (fun _ i wr => ∃ (k q : Nat), k ≤ n ∧ i = .int .i64 (k : Int) ∧ Hid (l.take k = m.take k) ∧ wr = w.drewN q) (fun _ i _ => n - (RowKit.intOf i).toNat)
    case atStart => exact ⟨0, 0, Nat.zero_le _, rfl, Lib.hid (by simp), rfl⟩
    case round =>
      obtain ⟨k, q, hk, rfl, HT, rfl⟩ := hrel
      by_cases hlt : k < n
      · have hla : k < l.length := by rw [HL.out]; exact hlt
        have hlb : k < m.length := by rw [HM.out]; exact hlt
        obtain ⟨g, rfl, hg, c0, c1, c2⟩ := RA.out k hla
        obtain ⟨g', rfl, hg', c0', c1', c2'⟩ := RB.out k hlb
        have NX := Lib.hid (same_next l m k hla hlb HT.out)
        have NO := Lib.hid (toksB_no l m k hla hlb)
        obtain ⟨x, hx⟩ : ∃ x, l[k] = x := ⟨_, rfl⟩
        obtain ⟨y, hy⟩ : ∃ y, m[k] = y := ⟨_, rfl⟩
        rw [hx] at c0 c1 c2 NX NO
        rw [hy] at c0' c1' c2' NX NO
        have k0 : (0 : Int) ≤ (k : Int) := by omega
        have k1 : (k : Int) < (n : Int) := by omega
        have hc : ∀ i v, (w.cell? ⟨g, i, none⟩ = some v → (w.drewN q).cell? ⟨g, i, none⟩ = some v) := fun _ _ h => h
        have hg1 : g < (w.drewN q).heap.size := hg
        have hg2 : g' < (w.drewN q).heap.size := hg'
        have HNE := Lib.hid (fun W => tok_neq x y W)
        clear hx hy hla hlb hc
        by_cases hxy : x = y
        · subst hxy
          have NY := Lib.hid (NX.out rfl)
          clear NX NO
          have hne : ∀ W, (binOp .neq 66 (.agg #[.int .i64 x.kind, .int .i64 x.num, .string x.name]) (.agg #[.int .i64 x.kind, .int .i64 x.num, .string x.name])).run Tryz.prog W = .ok (.bool false) W := fun W => by rw [HNE.out W, sameT_self]; rfl
          go_wp2_with fail
          go_quiet (fail)
          go_wp2
          go_roundw
          case rel => exact ⟨k + 1, _, by omega, by go_num, NY, rfl⟩
          case measure => simp [RowKit.intOf]; omega
        · have hsf : sameT x y = false := by
            cases h : sameT x y with
            | false => rfl
            | true => exact absurd ((sameT_iff x y).1 h) hxy
          have hne : ∀ W, (binOp .neq 66 (.agg #[.int .i64 x.kind, .int .i64 x.num, .string x.name]) (.agg #[.int .i64 y.kind, .int .i64 y.num, .string y.name])).run Tryz.prog W = .ok (.bool true) W := fun W => by rw [HNE.out W, hsf]; rfl
          have HV := Lib.hid (NO.out hxy)
          clear hsf hxy
          go_wp2_with fail
          go_quiet (fail)
          go_wp2
          go_ret
          exact ⟨ret_b HV.out.symm, below_drewN (below_drewN (Below.refl _ _) q) _⟩
      · have hall : l = m := by
          have h := HT.out
          rwa [List.take_of_length_le (by rw [HL.out]; omega), List.take_of_length_le (by rw [HM.out]; omega)] at h
        have HV := Lib.hid ((toksB_iff l m).2 hall)
        clear hall
        go_wp2
        go_ret
        exact ⟨ret_b HV.out.symm, below_drewN (Below.refl _ _) q⟩
  · have HV := Lib.hid (toksB_len l m hlen)
    have h1 : ((l.length : Int) == (m.length : Int)) = false := beq_eq_false_iff_ne.2 (by omega)
    have h2 : ((l.length : Int) != (m.length : Int)) = true := by simp only [bne, h1]; rfl
    have h3 : (l.length == m.length) = false := beq_eq_false_iff_ne.2 hlen
    have h4 : (l.length != m.length) = true := by simp only [bne, h3]; rfl
    clear ha hb hlen
    go_enter Tryz.func29, Tryz.ntmps29
    go_wp2
    go_ret
    exact ⟨ret_b HV.out.symm, Below.refl _ _⟩

end Go.Proofs.YthmllcpldgbbcaaGreatDoor
