/- Fields joined by spaces have the same fields. Nothing of the program. -/
import Derived.Test.YtbdplcbmfcfigaaDoorFieldsPlain
namespace Go.Proofs.YtbdplcbmfcfigaaDoor
open Go.RowKit Go.Lib

def oneL (cur : List UInt8) : List (List UInt8) := if cur = [] then [] else [cur]
/-- The fields of bytes, cur being what stands of the first one. -/
def fl (cur : List UInt8) : List UInt8 → List (List UInt8)
  | [] => oneL cur
  | c :: r => if c = 32 then oneL cur ++ fl [] r else fl (cur ++ [c]) r
def bytesOf (l : List ByteArray) : List (List UInt8) := l.map fun f => f.data.toList

theorem ext_toList (s : ByteArray) (b i : Nat) : (s.extract b i).data.toList = (s.data.toList.drop b).take (i - b) := by rw [extract_data]
theorem ext_snoc (s : ByteArray) (b i : Nat) (h : b ≤ i) (hi : i < s.size) : (s.extract b (i + 1)).data.toList = (s.extract b i).data.toList ++ [s[i]] := by
  rw [ext_toList, ext_toList, show i + 1 - b = (i - b) + 1 by omega, List.take_succ_eq_append_getElem (by simp; omega)]
  congr 1
  simp only [List.cons.injEq, and_true]
  rw [List.getElem_drop]
  have e : b + (i - b) = i := by omega
  simp only [e]
  rfl
theorem ext_none (s : ByteArray) (b : Nat) : (s.extract b b).data.toList = [] := by rw [ext_toList]; simp
theorem cut_one (s : ByteArray) (b i : Nat) (h : b ≤ i) (hi : i ≤ s.size) : bytesOf (cutF s b i) = oneL (s.extract b i).data.toList := by
  unfold cutF oneL bytesOf
  have hl : ((s.extract b i).data.toList).length = i - b := by rw [ext_toList]; simp; omega
  by_cases hb : b < i
  · rw [if_pos hb, if_neg (by intro e; rw [e] at hl; simp at hl; omega)]; rfl
  · rw [if_neg hb, if_pos (List.length_eq_zero_iff.1 (by rw [hl]; omega))]; rfl
theorem sp_fl (s : ByteArray) : ∀ k, k ≤ s.size → bytesOf (sp s k).1 ++ fl (s.extract (sp s k).2 k).data.toList (s.data.toList.drop k) = fl [] s.data.toList := by
  intro k
  induction k with
  | zero => intro _; simp [sp, bytesOf, ext_none]
  | succ k ih =>
    intro hk
    have h0 := ih (by omega)
    have hlt : k < s.size := by omega
    have hle := (sp_le s k).1
    have hd : s.data.toList.drop k = s[k] :: s.data.toList.drop (k + 1) := by
      rw [List.drop_eq_getElem_cons (by simpa using hlt)]; rfl
    rw [hd, fl] at h0
    by_cases hc : s[k].toNat = 32
    · have hc' : s[k] = 32 := UInt8.toNat_inj.1 hc
      rw [if_pos hc'] at h0
      rw [sp_space s k hlt hc, ext_none]
      rw [← h0]
      simp only [bytesOf, List.map_append, List.append_assoc]
      congr 1
      congr 1
      exact cut_one s _ k hle (by omega)
    · have hc' : ¬ s[k] = 32 := fun e => hc (by rw [e]; rfl)
      rw [if_neg hc'] at h0
      rw [sp_other s k hlt hc, ext_snoc s _ k hle hlt]
      exact h0
theorem spL_fl (s : ByteArray) : bytesOf (spL s) = fl [] s.data.toList := by
  have h := sp_fl s s.size (Nat.le_refl _)
  rw [List.drop_of_length_le (by rw [list_len]; exact Nat.le_refl _)] at h
  unfold spL
  rw [sp_last, ← h]
  simp only [bytesOf, List.map_append]
  congr 1
  exact cut_one s _ s.size (sp_le s s.size).1 (Nat.le_refl _)

theorem fl_field (f : List UInt8) : ∀ (cur r : List UInt8), (∀ c ∈ f, c ≠ 32) → fl cur (f ++ 32 :: r) = oneL (cur ++ f) ++ fl [] r := by
  induction f with
  | nil => intro cur r _; simp [fl]
  | cons c f ih =>
    intro cur r h
    rw [List.cons_append, fl, if_neg (h c (by simp)), ih _ _ (fun x hx => h x (by simp [hx]))]
    simp
theorem fl_join (l : List (List UInt8)) (h : ∀ f ∈ l, f ≠ [] ∧ ∀ c ∈ f, c ≠ 32) : fl [] (l.map fun f => f ++ [32]).flatten = l := by
  induction l with
  | nil => rfl
  | cons f r ih =>
    have hf := h f (by simp)
    rw [List.map_cons, List.flatten_cons, List.append_assoc, List.singleton_append]
    rw [fl_field f [] _ hf.2, ih (fun g hg => h g (by simp [hg]))]
    simp [oneL, hf.1]
theorem fl_mem (L : List UInt8) : ∀ (cur : List UInt8) (f : List UInt8), (∀ c ∈ cur, c ≠ 32) → f ∈ fl cur L → f ≠ [] ∧ (∀ c ∈ f, c ≠ 32) ∧ (∀ c ∈ f, c ∈ cur ∨ c ∈ L) ∧ f.length ≤ cur.length + L.length := by
  induction L with
  | nil =>
    intro cur f hc hf
    rw [fl, oneL] at hf
    split at hf
    · cases hf
    · rename_i hne
      have : f = cur := by simpa using hf
      subst this
      exact ⟨hne, hc, fun c h => .inl h, by simp⟩
  | cons c r ih =>
    intro cur f hc hf
    rw [fl] at hf
    split at hf
    · rcases List.mem_append.1 hf with h | h
      · rw [oneL] at h
        split at h
        · cases h
        · rename_i hne
          have : f = cur := by simpa using h
          subst this
          exact ⟨hne, hc, fun c h => .inl h, by simp⟩
      · obtain ⟨h1, h2, h3, h4⟩ := ih [] f (by simp) h
        exact ⟨h1, h2, fun x hx => .inr ((h3 x hx).elim (fun h => by cases h) (fun h => by simp [h])), by simp at h4 ⊢; omega⟩
    · rename_i hne
      obtain ⟨h1, h2, h3, h4⟩ := ih (cur ++ [c]) f (by
        intro x hx
        rcases List.mem_append.1 hx with h | h
        · exact hc x h
        · have : x = c := by simpa using h
          subst this; exact hne) hf
      exact ⟨h1, h2, fun x hx => by
        rcases h3 x hx with h | h
        · rcases List.mem_append.1 h with h | h
          · exact .inl h
          · exact .inr (by have : x = c := by simpa using h
                           subst this; simp)
        · exact .inr (by simp [h]), by simp at h4 ⊢; omega⟩

/-- The fields, each with a space behind it. -/
def joinS (l : List ByteArray) : List UInt8 := ((bytesOf l).map fun f => f ++ [32]).flatten
theorem joinS_snoc (l : List ByteArray) (f : ByteArray) : joinS (l ++ [f]) = joinS l ++ (f.data.toList ++ [32]) := by simp [joinS, bytesOf]
theorem bytes_inj' {a b : List ByteArray} (h : bytesOf a = bytesOf b) : a = b := by
  induction a generalizing b with
  | nil => cases b with
    | nil => rfl
    | cons x y => simp [bytesOf] at h
  | cons x r ih => cases b with
    | nil => simp [bytesOf] at h
    | cons y q =>
      simp only [bytesOf, List.map_cons, List.cons.injEq] at h
      rw [bl_eq h.1, ih h.2]
theorem fields_of (s : ByteArray) (l : List ByteArray) (h : spR s = (l, true)) : s.size ≤ 600 ∧ s.data.toList.all okB = true ∧ spL s = l ∧ l.length ≤ 24 := by
  unfold spR at h
  split at h
  · rename_i hh
    injection h with h _
    exact ⟨hh.1, hh.2.1, h, by rw [← h]; exact hh.2.2⟩
  · injection h with _ h; cases h
theorem field_small (s : ByteArray) (l : List ByteArray) (h : spR s = (l, true)) : ∀ f ∈ l, f.size ≤ 600 := by
  intro f hf
  obtain ⟨h1, _, h3, _⟩ := fields_of s l h
  have hm : f.data.toList ∈ fl [] s.data.toList := by rw [← spL_fl, h3]; exact List.mem_map_of_mem hf
  have := (fl_mem _ [] _ (by simp) hm).2.2.2
  rw [list_len, list_len] at this
  simp at this
  omega
theorem again (s t : ByteArray) (l : List ByteArray) (h : spR s = (l, true)) (ht : t.data.toList = joinS l) (hs : t.size ≤ 600) : spR t = (l, true) := by
  obtain ⟨h1, h2, h3, h4⟩ := fields_of s l h
  have hmem : ∀ f ∈ bytesOf l, f ≠ [] ∧ (∀ c ∈ f, c ≠ 32) ∧ (∀ c ∈ f, c ∈ s.data.toList) := by
    intro f hf
    have hm : f ∈ fl [] s.data.toList := by rw [← spL_fl, h3]; exact hf
    obtain ⟨a, b, c, _⟩ := fl_mem _ [] _ (by simp) hm
    exact ⟨a, b, fun x hx => (c x hx).elim (fun h => by cases h) id⟩
  have hfl : bytesOf (spL t) = bytesOf l := by
    rw [spL_fl, ht]
    exact fl_join _ (fun f hf => ⟨(hmem f hf).1, (hmem f hf).2.1⟩)
  have hl := bytes_inj' hfl
  have hok : t.data.toList.all okB = true := by
    rw [ht, List.all_eq_true]
    intro c hc
    unfold joinS at hc
    obtain ⟨g, hg, hcg⟩ := List.mem_flatten.1 hc
    obtain ⟨f, hf, rfl⟩ := List.mem_map.1 hg
    rcases List.mem_append.1 hcg with h | h
    · exact List.all_eq_true.1 h2 c ((hmem f hf).2.2 c h)
    · have : c = 32 := by simpa using h
      subst this; rfl
  rw [spR_yes t hs hok (by rw [hl]; exact h4), hl]
end Go.Proofs.YtbdplcbmfcfigaaDoor
