/- What marks may turn: only the shape matters. -/
import Derived.Test.YtakgjlpgcepnkaaRows
import Derived.Test.YtakgjlpgcepnkaaPlainC
import Derived.Outline
import Derived.Lib.Hide
import Derived.Deep.QuietTactic
import Derived.BigQuiet
import Derived.WalkSmall
namespace Go.Proofs.Ytakgjlpgcepnkaa
open Go.RowKit Go.Lib

/-- Of the same shape. -/
def Shp (x y : Value) : Prop := x = y ∨ (∃ s t, x = .string s ∧ y = .string t) ∨ (∃ a b, x = .int .i64 a ∧ y = .int .i64 b) ∨ (∃ a b, x = .bool a ∧ y = .bool b)
theorem Shp.ints (a b : Int) : Shp (.int .i64 a) (.int .i64 b) := .inr (.inr (.inl ⟨_, _, rfl, rfl⟩))
theorem Shp.strs (a b : ByteArray) : Shp (.string a) (.string b) := .inr (.inl ⟨_, _, rfl, rfl⟩)
theorem Shp.bools (a b : Bool) : Shp (.bool a) (.bool b) := .inr (.inr (.inr ⟨_, _, rfl, rfl⟩))
theorem Shp.str {s : ByteArray} {y : Value} (h : Shp (.string s) y) : ∃ t, y = .string t := by
  rcases h with rfl | ⟨_, t, _, rfl⟩ | ⟨_, _, h, _⟩ | ⟨_, _, h, _⟩
  · exact ⟨_, rfl⟩
  · exact ⟨_, rfl⟩
  · cases h
  · cases h
theorem Shp.int {s : Int} {y : Value} (h : Shp (.int .i64 s) y) : ∃ t, y = .int .i64 t := by
  rcases h with rfl | ⟨_, _, h, _⟩ | ⟨_, b, _, rfl⟩ | ⟨_, _, h, _⟩
  · exact ⟨_, rfl⟩
  · cases h
  · exact ⟨_, rfl⟩
  · cases h
theorem Shp.bool {s : Bool} {y : Value} (h : Shp (.bool s) y) : ∃ t, y = .bool t := by
  rcases h with rfl | ⟨_, _, h, _⟩ | ⟨_, _, h, _⟩ | ⟨_, b, _, rfl⟩
  · exact ⟨_, rfl⟩
  · cases h
  · cases h
  · exact ⟨_, rfl⟩
theorem Shp.slice {a : Option Addr} {l c : Nat} {y : Value} (h : Shp (.slice a l c) y) : y = .slice a l c := by
  rcases h with rfl | ⟨_, _, h, _⟩ | ⟨_, _, h, _⟩ | ⟨_, _, h, _⟩
  · rfl
  · cases h
  · cases h
  · cases h
theorem Shp.trans {x y z : Value} (h : Shp x y) (h' : Shp y z) : Shp x z := by
  rcases h with rfl | ⟨s, t, rfl, rfl⟩ | ⟨a, b, rfl, rfl⟩ | ⟨a, b, rfl, rfl⟩
  · exact h'
  · obtain ⟨t, rfl⟩ := h'.str; exact Shp.strs _ _
  · obtain ⟨t, rfl⟩ := h'.int; exact Shp.ints _ _
  · obtain ⟨t, rfl⟩ := h'.bool; exact Shp.bools _ _
/-- Blocks outside lo .. hi are as they were; those within keep their shape. -/
structure Mkd (lo hi : Nat) (w w' : World) : Prop where
  os : w'.os = w.os
  tape : w'.tape = w.tape
  output : w'.output = w.output
  size : w.heap.size ≤ w'.heap.size
  out : ∀ k, k < w.heap.size → k < lo ∨ hi ≤ k → w'.heap[k]? = w.heap[k]?
  cell : ∀ k j x, w.cell? ⟨k, j, none⟩ = some x → ∃ y, w'.cell? ⟨k, j, none⟩ = some y ∧ Shp x y
  frz : ∀ k j, k < w.heap.size → w.frozen? ⟨k, j, none⟩ = false → w'.frozen? ⟨k, j, none⟩ = false
theorem Mkd.refl (lo hi : Nat) (w : World) : Mkd lo hi w w := ⟨rfl, rfl, rfl, Nat.le_refl _, fun _ _ _ => rfl, fun _ _ x h => ⟨x, h, .inl rfl⟩, fun _ _ _ h => h⟩
theorem Mkd.trans {lo hi : Nat} {w w' w'' : World} (h : Mkd lo hi w w') (h' : Mkd lo hi w' w'') : Mkd lo hi w w'' :=
  ⟨h'.os.trans h.os, h'.tape.trans h.tape, h'.output.trans h.output, Nat.le_trans h.size h'.size, fun k hk ho => (h'.out k (Nat.lt_of_lt_of_le hk h.size) ho).trans (h.out k hk ho),
    fun k j x e => by
      obtain ⟨y, e1, s1⟩ := h.cell k j x e
      obtain ⟨z, e2, s2⟩ := h'.cell k j y e1
      exact ⟨z, e2, s1.trans s2⟩,
    fun k j hk e => h'.frz k j (Nat.lt_of_lt_of_le hk h.size) (h.frz k j hk e)⟩
theorem Mkd.below {lo hi : Nat} {w w' : World} (h : Below w.heap.size w w') : Mkd lo hi w w' :=
  ⟨h.os, h.tape, h.output, h.size, fun k hk _ => h.block k hk,
    fun k j x e => ⟨x, by have hk := World.block_lt_of_cell? w _ e; exact (h.cell (p := ⟨k, j, none⟩) hk).trans e, .inl rfl⟩,
    fun k j hk e => by
      have hh := h.block k hk
      unfold World.frozen? at e ⊢
      simp only [hh]
      exact e⟩
theorem Mkd.set {lo hi g j : Nat} {w : World} {x v : Value} (h0 : lo ≤ g) (h1 : g < hi) (hc : w.cell? ⟨g, j, none⟩ = some x) (hs : Shp x v) : Mkd lo hi w (w.setCell ⟨g, j, none⟩ v) :=
  ⟨rfl, rfl, rfl, by simp [World.setCell], fun k _ ho => set_other (by omega),
    fun k i y e => by
      by_cases hk : k = g ∧ i = j
      · obtain ⟨rfl, rfl⟩ := hk
        rw [hc] at e
        obtain rfl := Option.some.inj e
        exact ⟨v, World.cell?_setCell_same _ _ _ hc, hs⟩
      · exact ⟨y, by rw [World.cell?_setCell_other _ _ _ _ (fun e => hk (by injection e with e1 e2 _; exact ⟨e1.symm, e2.symm⟩))]; exact e, .inl rfl⟩,
    fun k i _ e => by rw [World.frozen?_setCell]; exact e⟩
/-- Outside a machine's own blocks nothing has changed. -/
theorem Mkd.block {lo hi k : Nat} {w w' : World} (h : Mkd lo hi w w') (hk : k < w.heap.size) (ho : k < lo ∨ hi ≤ k) : w'.heap[k]? = w.heap[k]? := h.out k hk ho
theorem Mkd.toBelow {lo hi B : Nat} {w w' : World} (h : Mkd lo hi w w') (hB : B ≤ lo) (hs : B ≤ w.heap.size) : Below B w w' := ⟨h.os, h.tape, h.output, h.size, fun k hk => h.out k (by omega) (.inl (by omega))⟩

/-- Rows by their shape. -/
def ShI (lo hi : Nat) (w : World) (a : Option Addr) (n : Nat) : Prop := ∀ j, j < n → ∃ g, a = some ⟨g, 0, none⟩ ∧ lo ≤ g ∧ g < hi ∧ (∃ v, w.cell? ⟨g, j, none⟩ = some (.int .i64 v)) ∧ w.frozen? ⟨g, j, none⟩ = false
theorem ShI.mkd {lo hi lo' hi' n : Nat} {w w' : World} {a : Option Addr} (h : ShI lo hi w a n) (hm : Mkd lo' hi' w w') : ShI lo hi w' a n := fun j hj => by
  obtain ⟨g, e, h1, h2, ⟨v, hv⟩, hf⟩ := h j hj
  obtain ⟨y, hy, s⟩ := hm.cell _ _ _ hv
  obtain ⟨t, rfl⟩ := s.int
  exact ⟨g, e, h1, h2, ⟨t, hy⟩, hm.frz _ _ (World.block_lt_of_cell? w _ hv) hf⟩
theorem shI_of {B T c : Nat} {w : World} {a : Option Addr} {l : List Int} (h : w.ownsRow B T 1 (.slice a l.length c) l.length (intV l)) : ShI B w.heap.size w a l.length := fun j hj => by
  obtain ⟨g, e, hg, hc⟩ := readI_of h j hj
  refine ⟨g, e, ?_, hg, ⟨_, hc⟩, ?_⟩
  · rcases h.2 with ⟨e', _⟩ | ⟨g', cap, cur, e', h1, _⟩
    · injection e' with e' e''; omega
    · injection e' with e'
      rw [e] at e'
      injection e' with e'
      injection e' with e'
      omega
  · subst e
    exact h.frozenAt j
set_option maxHeartbeats 1000000 in
theorem l_markIntM (lo hi : Nat) (a : Option Addr) (n c m : Nat) (w : World) (hs : ShI lo hi w a n) (hl : n ≤ 1048576) (h1 : m ≤ 16000000) :
    Calls Try.prog 49 #[.slice a n c, .int .i64 (m : Int)] w fun e w' => e = .returned (.int .i64 ((m + n : Nat) : Int)) ∧ Mkd lo hi w w' := by
  have HS := Lib.hid hs
  clear hs
  go_enter Try.func49, Try.ntmps49
  go_wp2_with fail
  go_loopw [1, 5] (fun x i wr => ∃ k : Nat, k ≤ n ∧ i = .int .i64 (k : Int) ∧ x = .int .i64 ((m + k : Nat) : Int) ∧ Hid (Mkd lo hi w wr)) (fun _ i _ => n - (intOf i).toNat)
  case atStart => exact ⟨0, Nat.zero_le _, rfl, rfl, Lib.hid (Mkd.refl _ _ _)⟩
  case round =>
    obtain ⟨k, hk, rfl, rfl, HM⟩ := hrel
    by_cases hlt : k < n
    · obtain ⟨g, rfl, q1, q2, ⟨v, hc⟩, hf⟩ := (HS.out.mkd HM.out) k hlt
      have HM' : Hid (Mkd lo hi w (wr.setCell ⟨g, k, none⟩ (.int .i64 ((m : Int) + (k : Int))))) := Lib.hid (HM.out.trans (Mkd.set q1 q2 hc (Shp.ints _ _)))
      have k0 : (0 : Int) ≤ (k : Int) := by omega
      have k1 : (k : Int) < (n : Int) := by omega
      go_wp2
      go_roundw
      case rel => exact ⟨k + 1, by omega, by go_num, by go_num, HM'⟩
      case measure => simp [intOf]; omega
    · have hkk : k = n := by omega
      subst hkk
      go_wp2
      go_ret
      exact ⟨rfl, HM.out⟩
end Go.Proofs.Ytakgjlpgcepnkaa
