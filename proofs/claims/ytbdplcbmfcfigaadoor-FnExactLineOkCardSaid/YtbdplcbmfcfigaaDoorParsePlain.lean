/- Plain facts on reading tokens. Nothing of the program. -/
import Derived.Test.YtbdplcbmfcfigaaDoorFmtPlain
import Derived.Lib.IndexLaws
import Derived.Lib.Bytealg
namespace Go.Proofs.YtbdplcbmfcfigaaDoor
open Go.RowKit Go.Lib

def opsL : List UInt8 := [43, 45, 42, 60, 61]
/-- What the program's readTok answers. -/
def rdZ (s : ByteArray) : TokL × Bool :=
  if s.size = 1 ∧ 0 ≤ indexByte opsL (s.data.toList.headD 0) then (⟨2 + indexByte opsL (s.data.toList.headD 0), 0, ⟨#[]⟩⟩, true)
  else if 0 ≤ indexByte s.data.toList 47 then
    (⟨7, ((puR (s.data.toList.drop ((indexByte s.data.toList 47).toNat + 1))).1 : Nat), ⟨(s.data.toList.take (indexByte s.data.toList 47).toNat).toArray⟩⟩, (puR (s.data.toList.drop ((indexByte s.data.toList 47).toNat + 1))).2)
  else if (puR s.data.toList).2 = true then (⟨0, ((puR s.data.toList).1 : Nat), ⟨#[]⟩⟩, true) else (⟨1, 0, s⟩, true)
/-- What the program's ParseTok answers. -/
def ptI (s : ByteArray) : TokL × Bool := if (rdZ s).2 = true ∧ tokB (rdZ s).1 = true then ((rdZ s).1, true) else (⟨0, 0, ⟨#[]⟩⟩, false)

/-- The model's candidates. -/
def candN (s : ByteArray) : List TokL := if (puR s.data.toList).2 = true ∧ (puR s.data.toList).1 ≤ 999 then [⟨0, ((puR s.data.toList).1 : Nat), ⟨#[]⟩⟩] else []
def candC (s : ByteArray) : List TokL :=
  if 2 < s.size ∧ s.data.toList[s.size - 2]? = some 47 then [⟨7, (((s.data.toList[s.size - 1]?).getD 0).toNat : Int) - 48, ⟨(s.data.toList.take (s.size - 2)).toArray⟩⟩] else []
def candV (s : ByteArray) : List TokL := [⟨1, 0, s⟩]
def candO : List TokL := [⟨2, 0, ⟨#[]⟩⟩, ⟨3, 0, ⟨#[]⟩⟩, ⟨4, 0, ⟨#[]⟩⟩, ⟨5, 0, ⟨#[]⟩⟩, ⟨6, 0, ⟨#[]⟩⟩]
def cands (s : ByteArray) : List TokL := candV s ++ candO ++ candN s ++ candC s
def fitB (s : ByteArray) (t : TokL) : Bool := tokB t && decide (fmtT t = s)
/-- What the model's ParseTok answers. -/
def ptS (s : ByteArray) : TokL × Bool := match (cands s).find? (fitB s) with
  | some t => (t, true)
  | none => (⟨0, 0, ⟨#[]⟩⟩, false)

theorem fitB_iff (s : ByteArray) (t : TokL) : fitB s t = true ↔ tokB t = true ∧ fmtT t = s := by simp [fitB]
theorem empty_of (s : ByteArray) (h : s.size = 0) : s = ⟨#[]⟩ := empty_yes s h
theorem puR_true {l : List UInt8} {n : Nat} (h : puR l = (n, true)) : decDigits n = l ∧ n ≤ 1000000000 := by
  unfold puR at h
  split at h
  · split at h
    · rename_i m _ hm
      injection h with h _
      subst h
      exact ⟨hm.2, hm.1⟩
    · injection h with _ h; cases h
  · injection h with _ h; cases h
theorem puR_pair (l : List UInt8) : puR l = ((puR l).1, (puR l).2) := rfl
theorem digits_all (n : Nat) (c : UInt8) (h : c ∈ decDigits n) : 48 ≤ c.toNat ∧ c.toNat ≤ 57 := by
  obtain ⟨k, hk⟩ := List.mem_iff_getElem?.1 h
  obtain ⟨d, hd⟩ := digit_of_decFrom _ _ _ (dec_digits n) k c hk
  unfold digitVal at hd
  split at hd
  · assumption
  · cases hd
theorem index_no (l : List UInt8) (c : UInt8) (h : c ∉ l) : indexByte l c = -1 := by
  by_cases hp : 0 ≤ indexByte l c
  · obtain ⟨o, ho⟩ := Int.eq_ofNat_of_zero_le hp
    have := (indexByte_some ho).1
    exact absurd (List.mem_iff_getElem?.2 ⟨o, this⟩) h
  · have := indexByte_ge l c; omega
theorem index_at (a b : List UInt8) (c : UInt8) (h : c ∉ a) : indexByte (a ++ c :: b) c = (a.length : Int) := by
  induction a with
  | nil => simp [indexByte]
  | cons x r ih =>
    have hx : (x == c) = false := by rw [beq_eq_false_iff_ne]; rintro rfl; exact h (by simp)
    have hr := ih (fun hm => h (by simp [hm]))
    simp only [List.cons_append, indexByte, hx]
    rw [hr]
    have : ((r.length : Int) == -1) = false := by rw [beq_eq_false_iff_ne]; omega
    rw [this]
    simp
theorem ops_digit (c : UInt8) (h : 48 ≤ c.toNat ∧ c.toNat ≤ 57) : ¬ 0 ≤ indexByte opsL c := by
  have : c ∉ opsL := by
    intro hm
    simp only [opsL, List.mem_cons, List.not_mem_nil, or_false] at hm
    rcases hm with rfl | rfl | rfl | rfl | rfl <;> revert h <;> decide
  rw [index_no _ _ this]; omega
theorem ops_letter (c : UInt8) (h : 97 ≤ c.toNat ∧ c.toNat ≤ 122) : ¬ 0 ≤ indexByte opsL c := by
  have : c ∉ opsL := by
    intro hm
    simp only [opsL, List.mem_cons, List.not_mem_nil, or_false] at hm
    rcases hm with rfl | rfl | rfl | rfl | rfl <;> revert h <;> decide
  rw [index_no _ _ this]; omega
theorem ops_yes (c : UInt8) (h : 0 ≤ indexByte opsL c) : c ∈ opsL := by
  obtain ⟨o, ho⟩ := Int.eq_ofNat_of_zero_le h
  exact List.mem_iff_getElem?.2 ⟨o, (indexByte_some ho).1⟩
theorem low_all (s : ByteArray) (h : nameB s = true) (c : UInt8) (hc : c ∈ s.data.toList) : 97 ≤ c.toNat ∧ c.toNat ≤ 122 :=
  (lowB_iff c).1 (List.all_eq_true.1 (nameB_size s h).2.2 c hc)
theorem num_one (n : Int) (h0 : 0 ≤ n) (h1 : n ≤ 4) : ∃ c : UInt8, numT n = ⟨#[c]⟩ ∧ (c.toNat : Int) = 48 + n ∧ puR [c] = (n.toNat, true) := by
  have hh : n = 0 ∨ n = 1 ∨ n = 2 ∨ n = 3 ∨ n = 4 := by omega
  have key : ∀ m : Nat, m ≤ 4 → ∃ c : UInt8, numT (m : Int) = ⟨#[c]⟩ ∧ (c.toNat : Int) = 48 + (m : Int) ∧ puR [c] = (m, true) := by
    intro m hm
    have hd : decDigits m = [UInt8.ofNat (48 + m)] := by rw [decDigits, dif_pos (by omega)]
    refine ⟨UInt8.ofNat (48 + m), ?_, ?_, ?_⟩
    · unfold numT; rw [itoa_nat, hd]
    · have e : (UInt8.ofNat (48 + m)).toNat = 48 + m := by rw [UInt8.toNat_ofNat']; omega
      rw [e]; omega
    · rw [← hd]; exact puR_is m (by omega)
  obtain ⟨m, rfl⟩ := Int.eq_ofNat_of_zero_le h0
  exact key m (by omega)
theorem one_byte (s : ByteArray) (h : s.size = 1) : ∃ c, s = ⟨#[c]⟩ := by
  have hl : s.data.toList.length = 1 := by rw [list_len]; exact h
  match hm : s.data.toList, hl with
  | [c], _ => exact ⟨c, bl_eq hm⟩
theorem app_list (a b : ByteArray) : (a ++ b).data.toList = a.data.toList ++ b.data.toList := by simp [ByteArray.data_append]

theorem complete_S (s : ByteArray) (t : TokL) (hb : tokB t = true) (hf : fmtT t = s) : t ∈ cands s := by
  obtain ⟨k, n, nm⟩ := t
  unfold cands
  simp only [List.mem_append]
  by_cases h0 : k = 0
  · subst h0
    rw [fmtT_0 _ _ hb] at hf
    obtain ⟨n0, n1, hz⟩ := tok_0 _ _ hb
    obtain ⟨m, rfl⟩ := Int.eq_ofNat_of_zero_le n0
    have hp : puR s.data.toList = (m, true) := by rw [← hf]; unfold numT; rw [itoa_nat]; exact puR_is m (by omega)
    obtain rfl := empty_of nm hz
    refine .inl (.inr ?_)
    unfold candN
    rw [hp, if_pos ⟨rfl, by show m ≤ 999; omega⟩]
    simp
  by_cases h1 : k = 1
  · subst h1
    rw [fmtT_1 _ _ hb] at hf
    obtain ⟨rfl, _⟩ := tok_1 _ _ hb
    subst hf
    exact .inl (.inl (.inl (by simp [candV])))
  by_cases h7 : k = 7
  · subst h7
    rw [fmtT_7 _ _ hb] at hf
    obtain ⟨n0, n1, hn⟩ := tok_7 _ _ hb
    obtain ⟨c, hc, hcn, _⟩ := num_one n n0 n1
    rw [hc] at hf
    have hl : s.data.toList = nm.data.toList ++ [47, c] := by rw [← hf, app_list, app_list]; simp
    have hz : s.size = nm.size + 2 := by rw [← list_len, hl]; simp
    have h1 := (nameB_size nm hn).1
    refine .inr ?_
    unfold candC
    have e2 : s.data.toList[s.size - 2]? = some 47 := by rw [hl, hz, Nat.add_sub_cancel, List.getElem?_append_right (by simp)]; simp
    have e1 : s.data.toList[s.size - 1]? = some c := by
      rw [hl, hz, List.getElem?_append_right (by simp)]
      have : nm.size + 2 - 1 - nm.data.toList.length = 1 := by rw [list_len]; omega
      rw [this]; rfl
    have e3 : s.data.toList.take (s.size - 2) = nm.data.toList := by rw [hl, hz, Nat.add_sub_cancel, ← list_len nm, List.take_left]
    rw [if_pos ⟨by omega, e2⟩, e1, e3]
    simp only [Option.getD_some, List.mem_singleton, TokL.mk.injEq, true_and]
    exact ⟨by omega, trivial⟩
  · obtain ⟨k2, k6, rfl, hz⟩ := tok_op _ _ _ hb h0 h1 h7
    obtain rfl := empty_of nm hz
    refine .inl (.inl (.inr ?_))
    have : k = 2 ∨ k = 3 ∨ k = 4 ∨ k = 5 ∨ k = 6 := by omega
    rcases this with rfl | rfl | rfl | rfl | rfl <;> simp [candO]

theorem rdZ_op (c : UInt8) (h : 0 ≤ indexByte opsL c) : rdZ ⟨#[c]⟩ = (⟨2 + indexByte opsL c, 0, ⟨#[]⟩⟩, true) := by
  unfold rdZ
  rw [if_pos ⟨rfl, by simpa using h⟩]
  rfl
theorem rdZ_call (s : ByteArray) (h : ¬ (s.size = 1 ∧ 0 ≤ indexByte opsL (s.data.toList.headD 0))) (o : Nat) (ho : indexByte s.data.toList 47 = (o : Int)) :
    rdZ s = (⟨7, ((puR (s.data.toList.drop (o + 1))).1 : Nat), ⟨(s.data.toList.take o).toArray⟩⟩, (puR (s.data.toList.drop (o + 1))).2) := by
  unfold rdZ
  rw [if_neg h, if_pos (by rw [ho]; omega), ho]
  rfl
theorem rdZ_num (s : ByteArray) (h : ¬ (s.size = 1 ∧ 0 ≤ indexByte opsL (s.data.toList.headD 0))) (ho : indexByte s.data.toList 47 = -1) (hp : (puR s.data.toList).2 = true) : rdZ s = (⟨0, ((puR s.data.toList).1 : Nat), ⟨#[]⟩⟩, true) := by
  unfold rdZ
  rw [if_neg h, if_neg (by rw [ho]; omega), if_pos hp]
theorem rdZ_var (s : ByteArray) (h : ¬ (s.size = 1 ∧ 0 ≤ indexByte opsL (s.data.toList.headD 0))) (ho : indexByte s.data.toList 47 = -1) (hp : ¬ (puR s.data.toList).2 = true) : rdZ s = (⟨1, 0, s⟩, true) := by
  unfold rdZ
  rw [if_neg h, if_neg (by rw [ho]; omega), if_neg hp]
theorem head_mem (s : ByteArray) (h : s.size = 1) : s.data.toList.headD 0 ∈ s.data.toList := by
  obtain ⟨c, rfl⟩ := one_byte s h
  simp

theorem complete_I (s : ByteArray) (t : TokL) (hb : tokB t = true) (hf : fmtT t = s) : rdZ s = (t, true) := by
  obtain ⟨k, n, nm⟩ := t
  by_cases h0 : k = 0
  · subst h0
    rw [fmtT_0 _ _ hb] at hf
    obtain ⟨n0, n1, hz⟩ := tok_0 _ _ hb
    obtain ⟨m, rfl⟩ := Int.eq_ofNat_of_zero_le n0
    have hl : s.data.toList = decDigits m := by rw [← hf]; unfold numT; rw [itoa_nat]
    have hp : puR s.data.toList = (m, true) := by rw [hl]; exact puR_is m (by omega)
    obtain rfl := empty_of nm hz
    have hd : ∀ c ∈ s.data.toList, 48 ≤ c.toNat ∧ c.toNat ≤ 57 := fun c hc => digits_all m c (hl ▸ hc)
    rw [rdZ_num s (fun h => ops_digit _ (hd _ (head_mem s h.1)) h.2) (index_no _ _ (fun h => by have := hd _ h; revert this; decide)) (by rw [hp]), hp]
  by_cases h1 : k = 1
  · subst h1
    rw [fmtT_1 _ _ hb] at hf
    obtain ⟨rfl, hn⟩ := tok_1 _ _ hb
    subst hf
    have hd := low_all nm hn
    refine rdZ_var nm (fun h => ops_letter _ (hd _ (head_mem nm h.1)) h.2) (index_no _ _ (fun h => by have := hd _ h; revert this; decide)) (fun h => ?_)
    have hp := puR_pair nm.data.toList
    rw [h] at hp
    have hdig := (puR_true hp).1
    have hsz := (nameB_size nm hn).1
    cases hc : nm.data.toList with
    | nil => rw [← list_len, hc] at hsz; simp at hsz
    | cons c r =>
      have h1 := hd c (by rw [hc]; simp)
      have h2 := digits_all _ c (by rw [hdig, hc]; simp)
      omega
  by_cases h7 : k = 7
  · subst h7
    rw [fmtT_7 _ _ hb] at hf
    obtain ⟨n0, n1, hn⟩ := tok_7 _ _ hb
    obtain ⟨c, hc, hcn, hpu⟩ := num_one n n0 n1
    rw [hc] at hf
    have hl : s.data.toList = nm.data.toList ++ 47 :: [c] := by rw [← hf, app_list, app_list]; simp
    have hz : s.size = nm.size + 2 := by rw [← list_len, hl]; simp
    have h1 := (nameB_size nm hn).1
    have hi : indexByte s.data.toList 47 = (nm.size : Int) := by
      rw [hl, index_at _ _ _ (fun h => by have := low_all nm hn _ h; revert this; decide), list_len]
    rw [rdZ_call s (fun h => by omega) nm.size hi]
    have e1 : s.data.toList.drop (nm.size + 1) = [c] := by
      rw [hl, ← list_len nm, List.drop_append, List.drop_eq_nil_of_le (by omega), Nat.add_sub_cancel_left]
      rfl
    have e2 : s.data.toList.take nm.size = nm.data.toList := by rw [hl, ← list_len nm, List.take_left]
    rw [e1, e2, hpu]
    have e3 : ((n.toNat : Nat) : Int) = n := by omega
    show ((⟨7, ((n.toNat : Nat) : Int), ⟨nm.data.toList.toArray⟩⟩, true) : TokL × Bool) = _
    rw [e3]
  · rw [fmtT_op _ _ _ hb h0 h1 h7] at hf
    obtain ⟨k2, k6, rfl, hz⟩ := tok_op _ _ _ hb h0 h1 h7
    obtain rfl := empty_of nm hz
    subst hf
    have : k = 2 ∨ k = 3 ∨ k = 4 ∨ k = 5 ∨ k = 6 := by omega
    rcases this with rfl | rfl | rfl | rfl | rfl
    all_goals
      rw [rdZ_op _ (by decide)]
      rfl

theorem sound_I (s : ByteArray) (h2 : (rdZ s).2 = true) (hb : tokB (rdZ s).1 = true) : fmtT (rdZ s).1 = s := by
  by_cases h : s.size = 1 ∧ 0 ≤ indexByte opsL (s.data.toList.headD 0)
  · obtain ⟨c, rfl⟩ := one_byte s h.1
    have hc : 0 ≤ indexByte opsL c := by simpa using h.2
    rw [rdZ_op c hc] at hb ⊢
    have hm := ops_yes c hc
    simp only [opsL, List.mem_cons, List.not_mem_nil, or_false] at hm
    clear h h2 hc
    rcases hm with rfl | rfl | rfl | rfl | rfl
    · rw [show indexByte opsL 43 = 0 by decide] at hb ⊢; rw [fmtT_op _ _ _ hb (by decide) (by decide) (by decide)]; rfl
    · rw [show indexByte opsL 45 = 1 by decide] at hb ⊢; rw [fmtT_op _ _ _ hb (by decide) (by decide) (by decide)]; rfl
    · rw [show indexByte opsL 42 = 2 by decide] at hb ⊢; rw [fmtT_op _ _ _ hb (by decide) (by decide) (by decide)]; rfl
    · rw [show indexByte opsL 60 = 3 by decide] at hb ⊢; rw [fmtT_op _ _ _ hb (by decide) (by decide) (by decide)]; rfl
    · rw [show indexByte opsL 61 = 4 by decide] at hb ⊢; rw [fmtT_op _ _ _ hb (by decide) (by decide) (by decide)]; rfl
  by_cases hi : 0 ≤ indexByte s.data.toList 47
  · obtain ⟨o, ho⟩ := Int.eq_ofNat_of_zero_le hi
    rw [rdZ_call s h o ho] at hb h2 ⊢
    dsimp only at hb h2 ⊢
    have hp := puR_pair (s.data.toList.drop (o + 1))
    rw [h2] at hp
    have hdig := (puR_true hp).1
    rw [fmtT_7 _ _ hb]
    refine bl_eq ?_
    rw [app_list, app_list]
    unfold numT
    rw [itoa_nat, hdig]
    have hat := (indexByte_some ho).1
    show s.data.toList.take o ++ [47] ++ s.data.toList.drop (o + 1) = s.data.toList
    have hol : o < s.data.toList.length := (List.getElem?_eq_some_iff.1 hat).1
    have he := (List.getElem?_eq_some_iff.1 hat).2
    rw [List.append_assoc, List.singleton_append, ← he, ← List.drop_eq_getElem_cons hol, List.take_append_drop]
  · have ho : indexByte s.data.toList 47 = -1 := by have := indexByte_ge s.data.toList 47; omega
    by_cases hp : (puR s.data.toList).2 = true
    · rw [rdZ_num s h ho hp] at hb ⊢
      have hq := puR_pair s.data.toList
      rw [hp] at hq
      rw [fmtT_0 _ _ hb]
      refine bl_eq ?_
      unfold numT
      rw [itoa_nat]
      exact (puR_true hq).1
    · rw [rdZ_var s h ho hp] at hb ⊢
      exact fmtT_1 _ _ hb

theorem pt_same (s : ByteArray) : ptI s = ptS s := by
  unfold ptS
  cases hf : (cands s).find? (fitB s) with
  | some t =>
    have ht := (fitB_iff s t).1 (List.find?_some hf)
    have hr := complete_I s t ht.1 ht.2
    unfold ptI
    rw [hr, if_pos ⟨rfl, ht.1⟩]
  | none =>
    unfold ptI
    rw [if_neg]
    rintro ⟨h1, h2⟩
    have hs := sound_I s h1 h2
    have hm := complete_S s _ h2 hs
    exact absurd ((fitB_iff s _).2 ⟨h2, hs⟩) (List.find?_eq_none.1 hf _ hm)
end Go.Proofs.YtbdplcbmfcfigaaDoor
