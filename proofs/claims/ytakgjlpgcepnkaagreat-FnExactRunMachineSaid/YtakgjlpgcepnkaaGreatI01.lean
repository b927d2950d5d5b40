/- The machine, plain: what an instruction does; the program's way; The machine, plain: the program's way comes to the same; what holds of a machine holds behind a step. -/
import Derived.Test.YtakgjlpgcepnkaaGreatI00
/-! The machine, plain: what an instruction does; the program's way. Nothing of the program -/
namespace Go.Proofs.YtakgjlpgcepnkaaGreat
open Go.RowKit Go.Lib

structure McL where
  pc : Int
  sp : Int
  fp : Int
  st : List Int
  out : List Int
  stt : Int
  val : Int
def I64 (v : Int) : Prop := -9223372036854775808 ≤ v ∧ v ≤ 9223372036854775807
/-- A machine's numbers. -/
structure McIs (m : McL) : Prop where
  len : m.st.length = 1200
  ws : ∀ v ∈ m.st, I64 v
  pc : I64 m.pc
  s0 : 0 ≤ m.sp
  s1 : m.sp ≤ 1200
  fp : I64 m.fp
/-- A word; none outside of the stack. -/
def wordO (m : McL) (a : Int) : Option Int := if 0 ≤ a ∧ a < 1200 then some (m.st.getD a.toNat 0) else none
def putO (m : McL) (a v : Int) : Option McL := if 0 ≤ a ∧ a < 1200 then some { m with st := m.st.set a.toNat v } else none
def pushO (m : McL) (v : Int) : Option McL := if 1 ≤ m.sp ∧ m.sp ≤ 1200 then some { m with sp := m.sp - 1, st := m.st.set (m.sp - 1).toNat v } else none
def popO (m : McL) : Option (Int × McL) := if 0 ≤ m.sp ∧ m.sp < 1200 then some (m.st.getD m.sp.toNat 0, { m with sp := m.sp + 1 }) else none
def dropO : Nat → McL → Option McL
  | 0, m => some m
  | n + 1, m => (popO m).bind fun y => dropO n y.2
def zerosO : Nat → McL → Option McL
  | 0, m => some m
  | n + 1, m => (pushO m 0).bind fun y => zerosO n y
/-- An instruction, the address behind it being in pc. -/
def perfO (E : List Int) (x : OpL) (m : McL) : Option McL :=
  if x.code = 0 then pushO m x.arg
  else if x.code = 1 then (wordO m (m.fp + x.arg)).bind fun v => pushO m v
  else if x.code = 2 then (popO m).bind fun y => putO y.2 (m.fp + x.arg) y.1
  else if x.code = 3 then (wordO m (m.sp + x.arg)).bind fun v => pushO m v
  else if x.code = 4 then (popO m).bind fun y => putO y.2 (m.sp + x.arg) y.1
  else if x.code = 10 then some { m with pc := m.pc + x.arg }
  else if x.code = 11 then (popO m).bind fun y => some (if y.1 = 0 then { y.2 with pc := y.2.pc + x.arg } else y.2)
  else if x.code = 12 then (if (E.length : Int) ≤ x.arg then none else (pushO m m.pc).bind fun y => some { y with pc := E.getD x.arg.toNat 0 })
  else if x.code = 13 then (pushO m m.fp).bind fun y => zerosO x.arg.toNat { y with fp := y.sp }
  else if x.code = 14 then (popO m).bind fun v => (popO { v.2 with sp := v.2.fp }).bind fun f => (popO { f.2 with fp := f.1 }).bind fun c => (dropO x.arg.toNat { c.2 with pc := c.1 }).bind fun y => pushO y v.1
  else if x.code = 15 then zerosO x.arg.toNat m
  else if x.code = 16 then (popO m).bind fun v => (dropO (x.arg.toNat / 16) v.2).bind fun d => (popO d).bind fun c => (dropO (x.arg.toNat % 16) { c.2 with pc := c.1 }).bind fun y => pushO y v.1
  else if x.code = 17 then (popO m).bind fun y => some { y.2 with out := y.2.out ++ [y.1] }
  else (popO m).bind fun b => (popO b.2).bind fun a => pushO a.2 (appZ (x.code - 5 + 2) a.1 b.1)
def endO (m : McL) : Option McL := if m.pc = 0 then (wordO m m.sp).bind fun v => some { m with stt := 1, val := v } else some m
def stepO (fet : Int → Option (OpL × Nat)) (E : List Int) (m : McL) : Option McL := (fet m.pc).bind fun y => (perfO E y.1 { m with pc := m.pc + (y.2 : Int) }).bind endO
/-- A step of a machine that runs. -/
def stepM (fet : Int → Option (OpL × Nat)) (E : List Int) (m : McL) : McL := (stepO fet E m).getD { m with stt := 2 }
/-- A run: at most n steps; how many there were. -/
def runM (fet : Int → Option (OpL × Nat)) (E : List Int) : Nat → McL → McL × Nat
  | 0, m => (m, 0)
  | n + 1, m => if m.stt = 0 then ((runM fet E n (stepM fet E m)).1, (runM fet E n (stepM fet E m)).2 + 1) else (m, 0)

/-- The program's way: a machine, and whether something was asked for that does not exist. -/
abbrev McS := McL × Bool
def reachI (s : McS) (a : Int) : McS := (s.1, (s.2 || decide (a < 0)) || decide (1200 ≤ a))
def loadIM (s : McS) (a : Int) : Int × McS := if (reachI s a).2 = true then (0, reachI s a) else (s.1.st.getD a.toNat 0, reachI s a)
def storeIM (s : McS) (a v : Int) : McS := if (reachI s a).2 = true then reachI s a else ({ s.1 with st := s.1.st.set a.toNat v }, (reachI s a).2)
def pushI (s : McS) (v : Int) : McS := storeIM ({ s.1 with sp := IntKind.i64.wrap (s.1.sp - 1) }, s.2) (IntKind.i64.wrap (s.1.sp - 1)) v
def popI (s : McS) : Int × McS := loadIM ({ s.1 with sp := IntKind.i64.wrap (s.1.sp + 1) }, s.2) (IntKind.i64.wrap (IntKind.i64.wrap (s.1.sp + 1) - 1))
def dropI : Nat → McS → McS
  | 0, s => s
  | n + 1, s => dropI n (popI s).2
def zerosI' : Nat → McS → McS
  | 0, s => s
  | n + 1, s => zerosI' n (pushI s 0)
def needI (s : McS) (n : Int) : McS := (s.1, s.2 || decide (s.1.sp < n))
def perfI (E : List Int) (x : OpL) (s : McS) : McS :=
  if x.code = 0 then pushI s x.arg
  else if x.code = 1 then pushI (loadIM s (IntKind.i64.wrap (s.1.fp + x.arg))).2 (loadIM s (IntKind.i64.wrap (s.1.fp + x.arg))).1
  else if x.code = 2 then storeIM (popI s).2 (IntKind.i64.wrap (s.1.fp + x.arg)) (popI s).1
  else if x.code = 3 then pushI (loadIM s (IntKind.i64.wrap (s.1.sp + x.arg))).2 (loadIM s (IntKind.i64.wrap (s.1.sp + x.arg))).1
  else if x.code = 4 then storeIM (popI s).2 (IntKind.i64.wrap (s.1.sp + x.arg)) (popI s).1
  else if x.code = 10 then ({ s.1 with pc := IntKind.i64.wrap (s.1.pc + x.arg) }, s.2)
  else if x.code = 11 then (if (popI s).1 = 0 then ({ (popI s).2.1 with pc := IntKind.i64.wrap ((popI s).2.1.pc + x.arg) }, (popI s).2.2) else (popI s).2)
  else if x.code = 12 then (if (E.length : Int) ≤ x.arg then (s.1, true) else ({ (pushI s s.1.pc).1 with pc := E.getD x.arg.toNat 0 }, (pushI s s.1.pc).2))
  else if x.code = 13 then zerosI' x.arg.toNat ({ (pushI (needI s (1 + x.arg)) s.1.fp).1 with fp := (pushI (needI s (1 + x.arg)) s.1.fp).1.sp }, (pushI (needI s (1 + x.arg)) s.1.fp).2)
  else if x.code = 14 then leaveM x.arg.toNat (popI s).1 (popI s).2
  else if x.code = 15 then zerosI' x.arg.toNat (needI s x.arg)
  else if x.code = 16 then backM (x.arg.toNat / 16) (x.arg.toNat % 16) (popI s).1 (popI s).2
  else if x.code = 17 then ({ (popI s).2.1 with out := (popI s).2.1.out ++ [(popI s).1] }, (popI s).2.2)
  else pushI (popI (popI s).2).2 (appZ (x.code - 5 + 2) (popI (popI s).2).1 (popI s).1)
where
  leaveM (n : Nat) (v : Int) (s : McS) : McS :=
    let f := popI ({ s.1 with sp := s.1.fp }, s.2)
    let c := popI ({ f.2.1 with fp := f.1 }, f.2.2)
    pushI (dropI n ({ c.2.1 with pc := c.1 }, c.2.2)) v
  backM (a b : Nat) (v : Int) (s : McS) : McS :=
    let c := popI (dropI a s)
    pushI (dropI b ({ c.2.1 with pc := c.1 }, c.2.2)) v
def endI (s : McS) : McS := if s.1.pc = 0 then ({ (loadIM s s.1.sp).2.1 with stt := 1, val := (loadIM s s.1.sp).1 }, (loadIM s s.1.sp).2.2) else s

/-- The model's way. -/
def nearZ (a n : Int) : Int := if -100000 ≤ a ∧ a ≤ 100000 then a + n else -1
def pushS (s : McS) (v : Int) : McS := if s.1.sp < 1 ∨ 1200 < s.1.sp then (s.1, true) else ({ s.1 with sp := s.1.sp - 1, st := s.1.st.set (s.1.sp - 1).toNat v }, s.2)
def wordS (s : McS) (a : Int) : Int × McS := if 0 ≤ a ∧ a ≤ 1199 then (s.1.st.getD a.toNat 0, s) else (0, (s.1, true))
def popS (s : McS) : Int × McS := ((wordS s s.1.sp).1, if (wordS s s.1.sp).2.2 = true then (wordS s s.1.sp).2 else ({ s.1 with sp := s.1.sp + 1 }, false))
def putS (s : McS) (a v : Int) : McS := if 0 ≤ a ∧ a ≤ 1199 then ({ s.1 with st := s.1.st.set a.toNat v }, s.2) else (s.1, true)
def dropS : Nat → McS → McS
  | 0, s => s
  | n + 1, s => dropS n (popS s).2
def zerosS : Nat → McS → McS
  | 0, s => s
  | n + 1, s => zerosS n (pushS s 0)
def perfS (E : List Int) (x : OpL) (s : McS) : McS :=
  if x.code = 0 then pushS s x.arg
  else if x.code = 1 then pushS (wordS s (nearZ s.1.fp x.arg)).2 (wordS s (nearZ s.1.fp x.arg)).1
  else if x.code = 2 then putS (popS s).2 (nearZ s.1.fp x.arg) (popS s).1
  else if x.code = 3 then pushS (wordS s (s.1.sp + x.arg)).2 (wordS s (s.1.sp + x.arg)).1
  else if x.code = 4 then putS (popS s).2 (s.1.sp + x.arg) (popS s).1
  else if x.code = 10 then ({ s.1 with pc := s.1.pc + x.arg }, s.2)
  else if x.code = 11 then (if (popS s).1 = 0 then ({ (popS s).2.1 with pc := (popS s).2.1.pc + x.arg }, (popS s).2.2) else (popS s).2)
  else if x.code = 12 then (if (E.length : Int) ≤ x.arg then (s.1, true) else ({ (pushS s s.1.pc).1 with pc := E.getD x.arg.toNat 0 }, (pushS s s.1.pc).2))
  else if x.code = 13 then zerosS x.arg.toNat ({ (pushS s s.1.fp).1 with fp := (pushS s s.1.fp).1.sp }, (pushS s s.1.fp).2)
  else if x.code = 14 then (if 0 ≤ (popS s).2.1.fp ∧ (popS s).2.1.fp ≤ 1200 then leaveM x.arg.toNat (popS s).1 (popS s).2 else ((popS s).2.1, true))
  else if x.code = 15 then zerosS x.arg.toNat s
  else if x.code = 16 then backM (x.arg.toNat / 16) (x.arg.toNat % 16) (popS s).1 (popS s).2
  else if x.code = 17 then ({ (popS s).2.1 with out := (popS s).2.1.out ++ [(popS s).1] }, (popS s).2.2)
  else pushS (popS (popS s).2).2 (appZ (x.code - 5 + 2) (popS (popS s).2).1 (popS s).1)
where
  leaveM (n : Nat) (v : Int) (s : McS) : McS :=
    let f := popS ({ s.1 with sp := s.1.fp }, s.2)
    let c := popS ({ f.2.1 with fp := f.1 }, f.2.2)
    pushS (dropS n ({ c.2.1 with pc := c.1 }, c.2.2)) v
  backM (a b : Nat) (v : Int) (s : McS) : McS :=
    let c := popS (dropS a s)
    pushS (dropS b ({ c.2.1 with pc := c.1 }, c.2.2)) v

/-! ### The model's way comes to the same -/
def RelS (s : McS) (o : Option McL) : Prop := match o with
  | some m => s = (m, false)
  | none => s.2 = true
def RelV (y : Int × McS) (o : Option (Int × McL)) : Prop := match o with
  | some z => y = (z.1, (z.2, false))
  | none => y.2.2 = true
theorem rel_popS (m : McL) : RelV (popS (m, false)) (popO m) := by
  unfold popS wordS popO RelV
  by_cases h : 0 ≤ m.sp ∧ m.sp < 1200
  · rw [if_pos h, if_pos (show 0 ≤ m.sp ∧ m.sp ≤ 1199 by omega)]; rfl
  · rw [if_neg h, if_neg (show ¬(0 ≤ m.sp ∧ m.sp ≤ 1199) by omega)]; rfl
theorem popS_bad (s : McS) (h : s.2 = true) : (popS s).2.2 = true := by
  unfold popS
  have : (wordS s s.1.sp).2.2 = true := by unfold wordS; split <;> simp [h]
  rw [this, if_pos rfl]; exact this
theorem rel_pushS (m : McL) (v : Int) : RelS (pushS (m, false) v) (pushO m v) := by
  unfold pushS pushO RelS
  by_cases h : 1 ≤ m.sp ∧ m.sp ≤ 1200
  · rw [if_pos h, if_neg (by dsimp only; omega)]
  · rw [if_neg h, if_pos (by dsimp only; omega)]
theorem pushS_bad (s : McS) (v : Int) (h : s.2 = true) : (pushS s v).2 = true := by unfold pushS; split <;> simp [h]
theorem rel_wordS (m : McL) (a : Int) : RelV (wordS (m, false) a) ((wordO m a).map fun v => (v, m)) := by
  unfold wordS wordO RelV
  by_cases h : 0 ≤ a ∧ a < 1200
  · rw [if_pos h, if_pos (show 0 ≤ a ∧ a ≤ 1199 by omega)]; rfl
  · rw [if_neg h, if_neg (show ¬(0 ≤ a ∧ a ≤ 1199) by omega)]; rfl
theorem rel_putS (m : McL) (a v : Int) : RelS (putS (m, false) a v) (putO m a v) := by
  unfold putS putO RelS
  by_cases h : 0 ≤ a ∧ a < 1200
  · rw [if_pos h, if_pos (show 0 ≤ a ∧ a ≤ 1199 by omega)]
  · rw [if_neg h, if_neg (show ¬(0 ≤ a ∧ a ≤ 1199) by omega)]
theorem putS_bad (s : McS) (a v : Int) (h : s.2 = true) : (putS s a v).2 = true := by unfold putS; split <;> simp [h]
theorem dropS_bad (n : Nat) : ∀ s : McS, s.2 = true → (dropS n s).2 = true := by
  induction n with
  | zero => intro s h; exact h
  | succ n ih => intro s h; exact ih _ (popS_bad s h)
theorem zerosS_bad (n : Nat) : ∀ s : McS, s.2 = true → (zerosS n s).2 = true := by
  induction n with
  | zero => intro s h; exact h
  | succ n ih => intro s h; exact ih _ (pushS_bad s 0 h)
theorem rel_bind {y : Int × McS} {o : Option (Int × McL)} {f : Int → McS → McS} {g : Int × McL → Option McL} (h : RelV y o) (h1 : ∀ v m, RelS (f v (m, false)) (g (v, m))) (h2 : ∀ v s, s.2 = true → (f v s).2 = true) : RelS (f y.1 y.2) (o.bind g) := by
  cases o with
  | none => exact h2 _ _ h
  | some z => obtain rfl : y = (z.1, (z.2, false)) := h; exact h1 z.1 z.2
theorem rel_seq {s : McS} {o : Option McL} {f : McS → McS} {g : McL → Option McL} (h : RelS s o) (h1 : ∀ m, RelS (f (m, false)) (g m)) (h2 : ∀ s, s.2 = true → (f s).2 = true) : RelS (f s) (o.bind g) := by
  cases o with
  | none => exact h2 _ h
  | some z => obtain rfl : s = (z, false) := h; exact h1 z
theorem rel_dropS (n : Nat) : ∀ m : McL, RelS (dropS n (m, false)) (dropO n m) := by
  induction n with
  | zero => intro m; exact rfl
  | succ n ih => intro m; exact rel_bind (f := fun _ s => dropS n s) (g := fun y => dropO n y.2) (rel_popS m) (fun _ m => ih m) (fun _ s h => dropS_bad n s h)
theorem rel_zerosS (n : Nat) : ∀ m : McL, RelS (zerosS n (m, false)) (zerosO n m) := by
  induction n with
  | zero => intro m; exact rfl
  | succ n ih => intro m; exact rel_seq (f := fun s => zerosS n s) (g := fun y => zerosO n y) (rel_pushS m 0) (fun m => ih m) (fun s h => zerosS_bad n s h)
theorem near_in {a n : Int} (hn : -40000 ≤ n ∧ n ≤ 40000) : (0 ≤ nearZ a n ∧ nearZ a n ≤ 1199 ↔ 0 ≤ a + n ∧ a + n < 1200) ∧ (0 ≤ a + n ∧ a + n < 1200 → nearZ a n = a + n) := by
  unfold nearZ
  by_cases h : -100000 ≤ a ∧ a ≤ 100000
  · rw [if_pos h]; exact ⟨by omega, fun _ => rfl⟩
  · rw [if_neg h]; exact ⟨by omega, fun h' => by omega⟩
theorem word_near (s : McS) {a n : Int} (hn : -40000 ≤ n ∧ n ≤ 40000) : wordS s (nearZ a n) = wordS s (a + n) := by
  obtain ⟨h1, h2⟩ := near_in (a := a) hn
  unfold wordS
  by_cases h : 0 ≤ a + n ∧ a + n < 1200
  · rw [h2 h]
  · rw [if_neg (fun h' => h (h1.1 h')), if_neg (by omega)]
theorem put_near (s : McS) (v : Int) {a n : Int} (hn : -40000 ≤ n ∧ n ≤ 40000) : putS s (nearZ a n) v = putS s (a + n) v := by
  obtain ⟨h1, h2⟩ := near_in (a := a) hn
  unfold putS
  by_cases h : 0 ≤ a + n ∧ a + n < 1200
  · rw [h2 h]
  · rw [if_neg (fun h' => h (h1.1 h')), if_neg (by omega)]
/-- An instruction's argument is small. -/
def ArgOk (x : OpL) : Prop := (0 ≤ x.code ∧ x.code ≤ 17) ∧ (x.code ≠ 0 → -40000 ≤ x.arg ∧ x.arg ≤ 70000) ∧ (x.code ≤ 4 ∧ x.code ≠ 0 → x.arg ≤ 40000) ∧ (12 ≤ x.code → 0 ≤ x.arg) ∧ (-4294967296 ≤ x.arg ∧ x.arg ≤ 4294967296)
theorem rel_leaveS (n : Nat) (v : Int) (m : McL) : RelS (perfS.leaveM n v (m, false)) ((popO { m with sp := m.fp }).bind fun f => (popO { f.2 with fp := f.1 }).bind fun c => (dropO n { c.2 with pc := c.1 }).bind fun y => pushO y v) := by
  unfold perfS.leaveM
  dsimp only
  refine rel_bind (f := fun a s => pushS (dropS n ({ (popS ({ s.1 with fp := a }, s.2)).2.1 with pc := (popS ({ s.1 with fp := a }, s.2)).1 }, (popS ({ s.1 with fp := a }, s.2)).2.2)) v) (rel_popS _) (fun a m => ?_) (fun a s h => pushS_bad _ _ (dropS_bad _ _ (popS_bad _ h)))
  refine rel_bind (f := fun a s => pushS (dropS n ({ s.1 with pc := a }, s.2)) v) (rel_popS _) (fun a m => ?_) (fun a s h => pushS_bad _ _ (dropS_bad _ _ h))
  exact rel_seq (f := fun s => pushS s v) (rel_dropS n _) (fun m => rel_pushS m v) (fun s h => pushS_bad s v h)
theorem rel_backS (a b : Nat) (v : Int) (m : McL) : RelS (perfS.backM a b v (m, false)) ((dropO a m).bind fun d => (popO d).bind fun c => (dropO b { c.2 with pc := c.1 }).bind fun y => pushO y v) := by
  unfold perfS.backM
  dsimp only
  refine rel_seq (f := fun s => pushS (dropS b ({ (popS s).2.1 with pc := (popS s).1 }, (popS s).2.2)) v) (rel_dropS a m) (fun m => ?_) (fun s h => pushS_bad _ _ (dropS_bad _ _ (popS_bad _ h)))
  refine rel_bind (f := fun a s => pushS (dropS b ({ s.1 with pc := a }, s.2)) v) (rel_popS _) (fun a m => ?_) (fun a s h => pushS_bad _ _ (dropS_bad _ _ h))
  exact rel_seq (f := fun s => pushS s v) (rel_dropS b _) (fun m => rel_pushS m v) (fun s h => pushS_bad s v h)
theorem rel_mapb {o : Option Int} {m : McL} : (o.bind fun v => pushO m v) = (o.map fun v => (v, m)).bind fun y => pushO y.2 y.1 := by cases o <;> rfl
theorem rel_iteM {c : Prop} [Decidable c] {a b : McS} {a' b' : Option McL} (h1 : c → RelS a a') (h2 : ¬ c → RelS b b') : RelS (if c then a else b) (if c then a' else b') := by
  by_cases h : c
  · rw [if_pos h, if_pos h]; exact h1 h
  · rw [if_neg h, if_neg h]; exact h2 h
theorem pop_none_fp {m : McL} (h : ¬(0 ≤ m.fp ∧ m.fp ≤ 1200)) : popO { m with sp := m.fp } = none := by unfold popO; rw [if_neg (by dsimp only; omega)]
/-- The model's instruction is the one. -/
theorem rel_perfS (E : List Int) (x : OpL) (m : McL) (hx : ArgOk x) : RelS (perfS E x (m, false)) (perfO E x m) := by
  obtain ⟨_, ha, hb, hc, _⟩ := hx
  unfold perfS perfO
  refine rel_iteM (fun _ => rel_pushS m _) fun n0 => rel_iteM (fun c => ?_) fun n1 => rel_iteM (fun c => ?_) fun n2 => rel_iteM (fun c => ?_) fun n3 => rel_iteM (fun c => ?_) fun n4 => rel_iteM (fun _ => rfl) fun n10 => rel_iteM (fun _ => ?_) fun n11 => rel_iteM (fun c => ?_) fun n12 => rel_iteM (fun _ => ?_) fun n13 => rel_iteM (fun _ => ?_) fun n14 => rel_iteM (fun _ => rel_zerosS _ m) fun n15 => rel_iteM (fun _ => ?_) fun n16 => rel_iteM (fun _ => ?_) fun n17 => ?_
  · rw [word_near _ (by omega), rel_mapb]
    exact rel_bind (f := fun v s => pushS s v) (rel_wordS m _) (fun v m => rel_pushS m v) (fun v s h => pushS_bad s v h)
  · rw [put_near _ _ (by omega)]
    exact rel_bind (f := fun v s => putS s (m.fp + x.arg) v) (rel_popS m) (fun v m' => rel_putS m' _ v) (fun v s h => putS_bad s _ v h)
  · rw [rel_mapb]
    exact rel_bind (f := fun v s => pushS s v) (rel_wordS m _) (fun v m => rel_pushS m v) (fun v s h => pushS_bad s v h)
  · exact rel_bind (f := fun v s => putS s (m.sp + x.arg) v) (rel_popS m) (fun v m' => rel_putS m' _ v) (fun v s h => putS_bad s _ v h)
  · refine rel_bind (f := fun v s => if v = 0 then ({ s.1 with pc := s.1.pc + x.arg }, s.2) else s) (rel_popS m) (fun v m' => ?_) (fun v s h => by split <;> exact h)
    by_cases hv : v = 0
    · simp only [if_pos hv]; exact rfl
    · simp only [if_neg hv]; exact rfl
  · refine rel_iteM (fun _ => rfl) fun _ => ?_
    exact rel_seq (f := fun s => ({ s.1 with pc := E.getD x.arg.toNat 0 }, s.2)) (rel_pushS m m.pc) (fun m => rfl) (fun s h => h)
  · exact rel_seq (f := fun s => zerosS x.arg.toNat ({ s.1 with fp := s.1.sp }, s.2)) (rel_pushS m m.fp) (fun m => rel_zerosS _ _) (fun s h => zerosS_bad _ _ h)
  · refine rel_bind (f := fun v s => if 0 ≤ s.1.fp ∧ s.1.fp ≤ 1200 then perfS.leaveM x.arg.toNat v s else (s.1, true)) (rel_popS m) (fun v m' => ?_) (fun v s h => ?_)
    · by_cases hf : 0 ≤ m'.fp ∧ m'.fp ≤ 1200
      · simp only [if_pos hf]; exact rel_leaveS _ v m'
      · simp only [if_neg hf, pop_none_fp hf]; exact rfl
    · split
      · exact pushS_bad _ _ (dropS_bad _ _ (popS_bad _ (popS_bad _ h)))
      · rfl
  · exact rel_bind (f := fun v s => perfS.backM (x.arg.toNat / 16) (x.arg.toNat % 16) v s) (rel_popS m) (fun v m' => rel_backS _ _ v m') (fun v s h => pushS_bad _ _ (dropS_bad _ _ (popS_bad _ (dropS_bad _ _ h))))
  · exact rel_bind (f := fun v s => ({ s.1 with out := s.1.out ++ [v] }, s.2)) (rel_popS m) (fun v m' => rfl) (fun v s h => h)
  · refine rel_bind (f := fun v s => pushS (popS s).2 (appZ (x.code - 5 + 2) (popS s).1 v)) (rel_popS m) (fun v m' => ?_) (fun v s h => pushS_bad _ _ (popS_bad _ h))
    exact rel_bind (f := fun a s => pushS s (appZ (x.code - 5 + 2) a v)) (rel_popS m') (fun a m'' => rel_pushS m'' _) (fun a s h => pushS_bad _ _ h)
end Go.Proofs.YtakgjlpgcepnkaaGreat

/-! The machine, plain: the program's way comes to the same; what holds of a machine holds behind a step. Nothing of the program -/
namespace Go.Proofs.YtakgjlpgcepnkaaGreat
open Go.RowKit Go.Lib

theorem i64_eq (v : Int) : IntKind.i64.wrap v = (v + 9223372036854775808) % 18446744073709551616 - 9223372036854775808 := IntKind.wrap_i64 v
theorem wrap_pop {a : Int} (h : I64 a) : IntKind.i64.wrap (IntKind.i64.wrap (a + 1) - 1) = a := by
  obtain ⟨h1, h2⟩ := h
  rw [i64_eq, i64_eq]
  omega
theorem wrap_up {a : Int} (h0 : 0 ≤ a) (h1 : a < 1200) : IntKind.i64.wrap (a + 1) = a + 1 := IntWalk.i64_in _ (by omega)
theorem wrap_push {a : Int} (h : I64 a) : (¬(IntKind.i64.wrap (a - 1) < 0) ∧ ¬(1200 ≤ IntKind.i64.wrap (a - 1)) ↔ 1 ≤ a ∧ a ≤ 1200) ∧ (1 ≤ a ∧ a ≤ 1200 → IntKind.i64.wrap (a - 1) = a - 1) := by
  obtain ⟨h1, h2⟩ := h
  rw [i64_eq]
  omega
theorem wrap_off {a n : Int} (h : I64 a) (hn : -70000 ≤ n ∧ n ≤ 70000) : (¬(IntKind.i64.wrap (a + n) < 0) ∧ ¬(1200 ≤ IntKind.i64.wrap (a + n)) ↔ 0 ≤ a + n ∧ a + n < 1200) ∧ (0 ≤ a + n ∧ a + n < 1200 → IntKind.i64.wrap (a + n) = a + n) := by
  obtain ⟨h1, h2⟩ := h
  rw [i64_eq]
  omega
theorem reach_bad {s : McS} {a : Int} (h : s.2 = true) : (reachI s a).2 = true := by unfold reachI; simp [h]
theorem reach_no {m : McL} {a : Int} (h : ¬(¬(a < 0) ∧ ¬(1200 ≤ a))) : (reachI (m, false) a).2 = true := by
  unfold reachI
  simp only [Bool.false_or, Bool.or_eq_true, decide_eq_true_eq]
  omega
theorem reach_ok {m : McL} {a : Int} (h : ¬(a < 0) ∧ ¬(1200 ≤ a)) : reachI (m, false) a = (m, false) := by
  unfold reachI
  simp only [Bool.false_or, decide_eq_false h.1, decide_eq_false h.2, Bool.or_self]
theorem loadI_bad {s : McS} {a : Int} (h : s.2 = true) : loadIM s a = (0, (s.1, true)) := by
  unfold loadIM
  rw [if_pos (reach_bad h)]
  have h2 := reach_bad (a := a) h
  unfold reachI at h2 ⊢
  dsimp only at h2
  rw [h2]
theorem loadI_no {m : McL} {a : Int} (h : ¬(¬(a < 0) ∧ ¬(1200 ≤ a))) : loadIM (m, false) a = (0, (m, true)) := by
  unfold loadIM
  rw [if_pos (reach_no h)]
  have h2 := reach_no (m := m) h
  unfold reachI at h2 ⊢
  dsimp only at h2
  rw [h2]
theorem loadI_ok {m : McL} {a : Int} (h : ¬(a < 0) ∧ ¬(1200 ≤ a)) : loadIM (m, false) a = (m.st.getD a.toNat 0, (m, false)) := by
  unfold loadIM
  rw [reach_ok h, if_neg (by simp)]
theorem storeI_bad {s : McS} {a v : Int} (h : s.2 = true) : storeIM s a v = (s.1, true) := by
  unfold storeIM
  rw [if_pos (reach_bad h)]
  have h2 := reach_bad (a := a) h
  unfold reachI at h2 ⊢
  dsimp only at h2
  rw [h2]
theorem storeI_no {m : McL} {a v : Int} (h : ¬(¬(a < 0) ∧ ¬(1200 ≤ a))) : storeIM (m, false) a v = (m, true) := by
  unfold storeIM
  rw [if_pos (reach_no h)]
  have h2 := reach_no (m := m) h
  unfold reachI at h2 ⊢
  dsimp only at h2
  rw [h2]
theorem storeI_ok {m : McL} {a v : Int} (h : ¬(a < 0) ∧ ¬(1200 ≤ a)) : storeIM (m, false) a v = ({ m with st := m.st.set a.toNat v }, false) := by
  unfold storeIM
  rw [reach_ok h, if_neg (by simp)]
theorem popI_bad {s : McS} (h : s.2 = true) : (popI s).2.2 = true ∧ (popI s).2.1.st = s.1.st := by unfold popI; rw [loadI_bad (by exact h)]; exact ⟨rfl, rfl⟩
theorem pushI_bad {s : McS} {v : Int} (h : s.2 = true) : (pushI s v).2 = true ∧ (pushI s v).1.st = s.1.st := by unfold pushI; rw [storeI_bad (by exact h)]; exact ⟨rfl, rfl⟩
theorem dropI_bad (n : Nat) : ∀ {s : McS}, s.2 = true → (dropI n s).2 = true ∧ (dropI n s).1.st = s.1.st := by
  induction n with
  | zero => intro s h; exact ⟨h, rfl⟩
  | succ n ih => intro s h; have h1 := popI_bad h; have h2 := ih h1.1; exact ⟨h2.1, h2.2.trans h1.2⟩
theorem zerosI_bad (n : Nat) : ∀ {s : McS}, s.2 = true → (zerosI' n s).2 = true ∧ (zerosI' n s).1.st = s.1.st := by
  induction n with
  | zero => intro s h; exact ⟨h, rfl⟩
  | succ n ih => intro s h; have h1 := pushI_bad (v := 0) h; have h2 := ih h1.1; exact ⟨h2.1, h2.2.trans h1.2⟩
/-- Nothing was written yet. -/
structure Sq (m0 m : McL) : Prop where
  st : m.st = m0.st
  sp : I64 m.sp
  fp : I64 m.fp
def Bad (m0 : McL) (s : McS) : Prop := s.2 = true ∧ s.1.st = m0.st
def RelI (m0 : McL) (s : McS) (o : Option McL) : Prop := match o with
  | some m => s = (m, false)
  | none => Bad m0 s
def RelQ (m0 : McL) (s : McS) (o : Option McL) : Prop := match o with
  | some m => s = (m, false) ∧ Sq m0 m
  | none => Bad m0 s
def RelY (m0 : McL) (y : Int × McS) (o : Option (Int × McL)) : Prop := match o with
  | some z => y = (z.1, (z.2, false)) ∧ Sq m0 z.2 ∧ I64 z.1
  | none => Bad m0 y.2
theorem getD_I64 {l : List Int} (h : ∀ v ∈ l, I64 v) (k : Nat) : I64 (l.getD k 0) := by
  rw [List.getD_eq_getElem?_getD]
  cases hk : l[k]? with
  | none => exact ⟨by decide, by decide⟩
  | some v => exact h v (List.mem_of_getElem? hk)
section
variable {m0 : McL} (hW : ∀ v ∈ m0.st, I64 v)
include hW
theorem rel_popI {m : McL} (h : Sq m0 m) : RelY m0 (popI (m, false)) (popO m) := by
  have hp := wrap_pop h.sp
  have hw : ∀ v ∈ m.st, I64 v := by rw [h.st]; exact hW
  unfold popI popO RelY
  dsimp only
  rw [hp]
  by_cases hc : 0 ≤ m.sp ∧ m.sp < 1200
  · rw [if_pos hc, wrap_up hc.1 hc.2, loadI_ok (by omega)]
    exact ⟨rfl, ⟨h.st, by unfold I64; dsimp only; omega, h.fp⟩, getD_I64 hw _⟩
  · rw [if_neg hc, loadI_no (by omega)]
    exact ⟨rfl, h.st⟩
theorem rel_loadI {m : McL} (h : Sq m0 m) {a n : Int} (ha : I64 a) (hn : -70000 ≤ n ∧ n ≤ 70000) : RelY m0 (loadIM (m, false) (IntKind.i64.wrap (a + n))) ((wordO m (a + n)).map fun v => (v, m)) := by
  have hw : ∀ v ∈ m.st, I64 v := by rw [h.st]; exact hW
  obtain ⟨h1, h2⟩ := wrap_off ha hn
  unfold wordO RelY
  by_cases hc : 0 ≤ a + n ∧ a + n < 1200
  · rw [if_pos hc, loadI_ok (h1.2 hc), h2 hc]
    exact ⟨rfl, h, getD_I64 hw _⟩
  · rw [if_neg hc, loadI_no (fun hh => hc (h1.1 hh))]
    exact ⟨rfl, h.st⟩
end
theorem rel_pushI {m0 m : McL} (h : Sq m0 m) (v : Int) : RelI m0 (pushI (m, false) v) (pushO m v) := by
  obtain ⟨h1, h2⟩ := wrap_push h.sp
  unfold pushI pushO RelI
  dsimp only
  by_cases hc : 1 ≤ m.sp ∧ m.sp ≤ 1200
  · rw [if_pos hc, storeI_ok (h1.2 hc), h2 hc]
  · rw [if_neg hc, storeI_no (fun hh => hc (h1.1 hh))]
    exact ⟨rfl, h.st⟩
theorem rel_storeI {m0 m : McL} (h : Sq m0 m) {a n : Int} (ha : I64 a) (hn : -70000 ≤ n ∧ n ≤ 70000) (v : Int) : RelI m0 (storeIM (m, false) (IntKind.i64.wrap (a + n)) v) (putO m (a + n) v) := by
  obtain ⟨h1, h2⟩ := wrap_off ha hn
  unfold putO RelI
  by_cases hc : 0 ≤ a + n ∧ a + n < 1200
  · rw [if_pos hc, storeI_ok (h1.2 hc), h2 hc]
  · rw [if_neg hc, storeI_no (fun hh => hc (h1.1 hh))]
    exact ⟨rfl, h.st⟩
theorem bindY {m0 : McL} {y : Int × McS} {o : Option (Int × McL)} {f : Int → McS → McS} {g : Int × McL → Option McL} (h : RelY m0 y o) (h1 : ∀ v m, Sq m0 m → I64 v → RelI m0 (f v (m, false)) (g (v, m))) (h2 : ∀ v s, Bad m0 s → Bad m0 (f v s)) : RelI m0 (f y.1 y.2) (o.bind g) := by
  cases o with
  | none => exact h2 _ _ h
  | some z => obtain ⟨rfl, hq, hz⟩ := h; exact h1 z.1 z.2 hq hz
theorem bindQ {m0 : McL} {s : McS} {o : Option McL} {f : McS → McS} {g : McL → Option McL} (h : RelQ m0 s o) (h1 : ∀ m, Sq m0 m → RelI m0 (f (m, false)) (g m)) (h2 : ∀ s, Bad m0 s → Bad m0 (f s)) : RelI m0 (f s) (o.bind g) := by
  cases o with
  | none => exact h2 _ h
  | some z => obtain ⟨rfl, hq⟩ := h; exact h1 z hq
theorem Bad.pop {m0 : McL} {s : McS} (h : Bad m0 s) : Bad m0 (popI s).2 := ⟨(popI_bad h.1).1, (popI_bad h.1).2.trans h.2⟩
theorem Bad.push {m0 : McL} {s : McS} (h : Bad m0 s) (v : Int) : Bad m0 (pushI s v) := ⟨(pushI_bad h.1).1, (pushI_bad h.1).2.trans h.2⟩
theorem Bad.drop {m0 : McL} {s : McS} (h : Bad m0 s) (n : Nat) : Bad m0 (dropI n s) := ⟨(dropI_bad n h.1).1, (dropI_bad n h.1).2.trans h.2⟩
theorem Bad.zeros {m0 : McL} {s : McS} (h : Bad m0 s) (n : Nat) : Bad m0 (zerosI' n s) := ⟨(zerosI_bad n h.1).1, (zerosI_bad n h.1).2.trans h.2⟩
theorem Bad.store {m0 : McL} {s : McS} (h : Bad m0 s) (a v : Int) : Bad m0 (storeIM s a v) := by rw [storeI_bad h.1]; exact ⟨rfl, h.2⟩
theorem rel_dropI {m0 : McL} (hW : ∀ v ∈ m0.st, I64 v) (n : Nat) : ∀ {m : McL}, Sq m0 m → RelQ m0 (dropI n (m, false)) (dropO n m) := by
  induction n with
  | zero => intro m h; exact ⟨rfl, h⟩
  | succ n ih =>
    intro m h
    have h1 := rel_popI hW h
    unfold dropI dropO
    cases ho : popO m with
    | none => rw [ho] at h1; exact Bad.drop (s := (popI (m, false)).2) h1 n
    | some z =>
      rw [ho] at h1
      obtain ⟨e, hq, _⟩ := h1
      rw [e]
      exact ih hq
theorem zerosO_none (n : Nat) : ∀ m : McL, m.sp < (n : Int) → zerosO n m = none ∨ m.sp < 0 ∧ n = 0 := by
  induction n with
  | zero => intro m h; exact .inr ⟨by omega, rfl⟩
  | succ n ih =>
    intro m h
    refine .inl ?_
    unfold zerosO pushO
    by_cases hc : 1 ≤ m.sp ∧ m.sp ≤ 1200
    · rw [if_pos hc]
      rcases ih { m with sp := m.sp - 1, st := m.st.set (m.sp - 1).toNat 0 } (by dsimp only; omega) with h' | ⟨h', _⟩
      · exact h'
      · dsimp only at h'; omega
    · rw [if_neg hc]; rfl
theorem zeros_all (n : Nat) : ∀ m : McL, (n : Int) ≤ m.sp → m.sp ≤ 1200 → ∃ m', zerosO n m = some m' ∧ zerosI' n (m, false) = (m', false) := by
  induction n with
  | zero => intro m _ _; exact ⟨m, rfl, rfl⟩
  | succ n ih =>
    intro m h1 h2
    have hc : 1 ≤ m.sp ∧ m.sp ≤ 1200 := by omega
    have hi : I64 m.sp := by unfold I64; omega
    obtain ⟨e1, e2⟩ := wrap_push hi
    obtain ⟨m', a, b⟩ := ih { m with sp := m.sp - 1, st := m.st.set (m.sp - 1).toNat 0 } (by dsimp only; omega) (by dsimp only; omega)
    refine ⟨m', ?_, ?_⟩
    · unfold zerosO pushO
      rw [if_pos hc]
      exact a
    · unfold zerosI' pushI
      dsimp only
      rw [storeI_ok (e1.2 hc), e2 hc]
      exact b
theorem relI_ite {m0 : McL} {c : Prop} [Decidable c] {a b : McS} {a' b' : Option McL} (h1 : c → RelI m0 a a') (h2 : ¬ c → RelI m0 b b') : RelI m0 (if c then a else b) (if c then a' else b') := by
  by_cases h : c
  · rw [if_pos h, if_pos h]; exact h1 h
  · rw [if_neg h, if_neg h]; exact h2 h
theorem rel_leaveI {m0 m : McL} (hW : ∀ v ∈ m0.st, I64 v) (h : Sq m0 m) (n : Nat) (v : Int) : RelI m0 (perfI.leaveM n v (m, false)) ((popO { m with sp := m.fp }).bind fun f => (popO { f.2 with fp := f.1 }).bind fun c => (dropO n { c.2 with pc := c.1 }).bind fun y => pushO y v) := by
  unfold perfI.leaveM
  dsimp only
  refine bindY (f := fun a s => pushI (dropI n ({ (popI ({ s.1 with fp := a }, s.2)).2.1 with pc := (popI ({ s.1 with fp := a }, s.2)).1 }, (popI ({ s.1 with fp := a }, s.2)).2.2)) v) (rel_popI hW ⟨h.st, h.fp, h.fp⟩) (fun a m q ha => ?_) (fun a s h => ?_)
  · refine bindY (f := fun a s => pushI (dropI n ({ s.1 with pc := a }, s.2)) v) (rel_popI hW ⟨q.st, q.sp, ha⟩) (fun a m q _ => ?_) (fun a s h => by refine Bad.push (Bad.drop ?_ n) v; exact h)
    exact bindQ (f := fun s => pushI s v) (rel_dropI hW n ⟨q.st, q.sp, q.fp⟩) (fun m q => rel_pushI q v) (fun s h => Bad.push h v)
  · refine Bad.push (Bad.drop ?_ n) v
    exact Bad.pop (s := ({ s.1 with fp := a }, s.2)) h
theorem rel_backI {m0 m : McL} (hW : ∀ v ∈ m0.st, I64 v) (h : Sq m0 m) (a b : Nat) (v : Int) : RelI m0 (perfI.backM a b v (m, false)) ((dropO a m).bind fun d => (popO d).bind fun c => (dropO b { c.2 with pc := c.1 }).bind fun y => pushO y v) := by
  unfold perfI.backM
  dsimp only
  refine bindQ (f := fun s => pushI (dropI b ({ (popI s).2.1 with pc := (popI s).1 }, (popI s).2.2)) v) (rel_dropI hW a h) (fun m q => ?_) (fun s h => by refine Bad.push (Bad.drop ?_ b) v; exact Bad.pop h)
  refine bindY (f := fun a s => pushI (dropI b ({ s.1 with pc := a }, s.2)) v) (rel_popI hW q) (fun a m q _ => ?_) (fun a s h => by refine Bad.push (Bad.drop ?_ b) v; exact h)
  exact bindQ (f := fun s => pushI s v) (rel_dropI hW b ⟨q.st, q.sp, q.fp⟩) (fun m q => rel_pushI q v) (fun s h => Bad.push h v)
/-- The program's instruction is the one; where it fails the stack is as it was. -/
theorem rel_perfI (E : List Int) (x : OpL) (m : McL) (hm : McIs m) (hx : ArgOk x) (hp : 0 ≤ m.pc ∧ m.pc ≤ 3000000) : RelI m (perfI E x (m, false)) (perfO E x m) := by
  obtain ⟨_, ha, hb, hc, _⟩ := hx
  have hW := hm.ws
  have h : Sq m m := ⟨rfl, by have := hm.s0; have := hm.s1; unfold I64; omega, hm.fp⟩
  have hs : I64 m.sp := h.sp
  unfold perfI perfO
  refine relI_ite (fun _ => rel_pushI h _) fun n0 => relI_ite (fun c => ?_) fun n1 => relI_ite (fun c => ?_) fun n2 => relI_ite (fun c => ?_) fun n3 => relI_ite (fun c => ?_) fun n4 => relI_ite (fun _ => ?_) fun n10 => relI_ite (fun _ => ?_) fun n11 => relI_ite (fun c => ?_) fun n12 => relI_ite (fun c => ?_) fun n13 => relI_ite (fun _ => ?_) fun n14 => relI_ite (fun c => ?_) fun n15 => relI_ite (fun _ => ?_) fun n16 => relI_ite (fun _ => ?_) fun n17 => ?_
  · rw [rel_mapb]
    exact bindY (f := fun v s => pushI s v) (rel_loadI hW h hm.fp (by omega)) (fun v m q _ => rel_pushI q v) (fun v s h => h.push v)
  · exact bindY (f := fun v s => storeIM s (IntKind.i64.wrap (m.fp + x.arg)) v) (rel_popI hW h) (fun v m' q _ => rel_storeI q hm.fp (by omega) v) (fun v s h => h.store _ v)
  · rw [rel_mapb]
    exact bindY (f := fun v s => pushI s v) (rel_loadI hW h hs (by omega)) (fun v m q _ => rel_pushI q v) (fun v s h => h.push v)
  · exact bindY (f := fun v s => storeIM s (IntKind.i64.wrap (m.sp + x.arg)) v) (rel_popI hW h) (fun v m' q _ => rel_storeI q hs (by omega) v) (fun v s h => h.store _ v)
  · show (_, _) = (_, _)
    dsimp only
    rw [IntWalk.i64_in _ (by have := ha (by omega); omega)]
  · have hwp : IntKind.i64.wrap (m.pc + x.arg) = m.pc + x.arg := IntWalk.i64_in _ (by have := ha (by omega); omega)
    have h1 := rel_popI hW h
    have hpc : ∀ z, popO m = some z → z.2.pc = m.pc := fun z hz => by
      unfold popO at hz
      split at hz
      · obtain rfl := Option.some.inj hz; rfl
      · cases hz
    cases ho : popO m with
    | none =>
      rw [ho] at h1
      show Bad m _
      split <;> exact h1
    | some z =>
      rw [ho] at h1
      obtain ⟨e, _, _⟩ := h1
      rw [e]
      show _ = (_, false)
      dsimp only
      by_cases hz : z.1 = 0
      · rw [if_pos hz, if_pos hz, hpc z ho, hwp]
      · rw [if_neg hz, if_neg hz]
  · refine relI_ite (fun _ => ⟨rfl, rfl⟩) fun _ => ?_
    have h1 := rel_pushI h m.pc
    cases ho : pushO m m.pc with
    | none => rw [ho] at h1; exact h1
    | some z =>
      rw [ho] at h1
      have h1 : pushI (m, false) m.pc = (z, false) := h1
      rw [h1]
      rfl
  · have h0 : 0 ≤ x.arg := hc (by omega)
    unfold needI
    dsimp only
    by_cases hn : m.sp < 1 + x.arg
    · rw [decide_eq_true hn, Bool.false_or]
      have hb1 : Bad m (pushI (m, true) m.fp) := Bad.push ⟨rfl, rfl⟩ _
      have hb2 := Bad.zeros (m0 := m) (s := ({ (pushI (m, true) m.fp).1 with fp := (pushI (m, true) m.fp).1.sp }, (pushI (m, true) m.fp).2)) hb1 x.arg.toNat
      have hnone : ((pushO m m.fp).bind fun y => zerosO x.arg.toNat { y with fp := y.sp }) = none := by
        unfold pushO
        by_cases hq : 1 ≤ m.sp ∧ m.sp ≤ 1200
        · rw [if_pos hq]
          rcases zerosO_none x.arg.toNat { m with sp := m.sp - 1, st := m.st.set (m.sp - 1).toNat m.fp, fp := m.sp - 1 } (by dsimp only; omega) with h' | ⟨h', _⟩
          · exact h'
          · dsimp only at h'; omega
        · rw [if_neg hq]; rfl
      rw [hnone]
      exact hb2
    · rw [decide_eq_false hn, Bool.false_or]
      have hq : 1 ≤ m.sp ∧ m.sp ≤ 1200 := ⟨by omega, hm.s1⟩
      obtain ⟨e1, e2⟩ := wrap_push hs
      have hpu : pushI (m, false) m.fp = ({ m with sp := m.sp - 1, st := m.st.set (m.sp - 1).toNat m.fp }, false) := by
        unfold pushI
        dsimp only
        rw [storeI_ok (e1.2 hq), e2 hq]
      rw [hpu]
      obtain ⟨m', a, b⟩ := zeros_all x.arg.toNat { m with sp := m.sp - 1, st := m.st.set (m.sp - 1).toNat m.fp, fp := m.sp - 1 } (by dsimp only; omega) (by dsimp only; omega)
      unfold pushO
      rw [if_pos hq]
      show RelI m _ (zerosO _ _)
      dsimp only at a b ⊢
      rw [a]
      exact b
  · exact bindY (f := fun v s => perfI.leaveM x.arg.toNat v s) (rel_popI hW h) (fun v m' q _ => rel_leaveI hW q _ v) (fun v s h => by
      have hb : Bad m ({ s.1 with sp := s.1.fp }, s.2) := h
      have hb2 : Bad m ({ (popI ({ s.1 with sp := s.1.fp }, s.2)).2.1 with fp := (popI ({ s.1 with sp := s.1.fp }, s.2)).1 }, (popI ({ s.1 with sp := s.1.fp }, s.2)).2.2) := hb.pop
      refine Bad.push (Bad.drop ?_ _) v
      exact hb2.pop)
  · have h0 : 0 ≤ x.arg := hc (by omega)
    unfold needI
    dsimp only
    by_cases hn : m.sp < x.arg
    · rw [decide_eq_true hn, Bool.false_or]
      have hb2 := Bad.zeros (m0 := m) (s := (m, true)) ⟨rfl, rfl⟩ x.arg.toNat
      rcases zerosO_none x.arg.toNat m (by omega) with h' | ⟨h', _⟩
      · rw [h']; exact hb2
      · have := hm.s0; omega
    · rw [decide_eq_false hn, Bool.false_or]
      obtain ⟨m', a, b⟩ := zeros_all x.arg.toNat m (by omega) hm.s1
      rw [a]
      exact b
  · exact bindY (f := fun v s => perfI.backM (x.arg.toNat / 16) (x.arg.toNat % 16) v s) (rel_popI hW h) (fun v m' q _ => rel_backI hW q _ _ v) (fun v s h => by refine Bad.push (Bad.drop ?_ _) v; exact Bad.pop (Bad.drop h _))
  · exact bindY (f := fun v s => ({ s.1 with out := s.1.out ++ [v] }, s.2)) (rel_popI hW h) (fun v m' q _ => rfl) (fun v s h => h)
  · refine bindY (f := fun v s => pushI (popI s).2 (appZ (x.code - 5 + 2) (popI s).1 v)) (rel_popI hW h) (fun v m' q _ => ?_) (fun v s h => (h.pop).push _)
    exact bindY (f := fun a s => pushI s (appZ (x.code - 5 + 2) a v)) (rel_popI hW q) (fun a m'' q _ => rel_pushI q _) (fun a s h => h.push _)

/-! ### What holds of a machine -/
theorem set_I64 {l : List Int} (h : ∀ v ∈ l, I64 v) (k : Nat) {v : Int} (hv : I64 v) : ∀ u ∈ l.set k v, I64 u := fun u hu => by
  rcases List.mem_or_eq_of_mem_set hu with h' | h'
  · exact h u h'
  · rw [h']; exact hv
theorem popO_eq {m : McL} {z : Int × McL} (h : popO m = some z) : (0 ≤ m.sp ∧ m.sp < 1200) ∧ z = (m.st.getD m.sp.toNat 0, { m with sp := m.sp + 1 }) := by
  unfold popO at h
  split at h
  · rename_i hc; exact ⟨hc, (Option.some.inj h).symm⟩
  · cases h
theorem pushO_eq {m m' : McL} {v : Int} (h : pushO m v = some m') : (1 ≤ m.sp ∧ m.sp ≤ 1200) ∧ m' = { m with sp := m.sp - 1, st := m.st.set (m.sp - 1).toNat v } := by
  unfold pushO at h
  split at h
  · rename_i hc; exact ⟨hc, (Option.some.inj h).symm⟩
  · cases h
theorem putO_eq {m m' : McL} {a v : Int} (h : putO m a v = some m') : m' = { m with st := m.st.set a.toNat v } := by
  unfold putO at h
  split at h
  · exact (Option.some.inj h).symm
  · cases h
theorem wordO_eq {m : McL} {a v : Int} (h : wordO m a = some v) : (0 ≤ a ∧ a < 1200) ∧ v = m.st.getD a.toNat 0 := by
  unfold wordO at h
  split at h
  · rename_i hc; exact ⟨hc, (Option.some.inj h).symm⟩
  · cases h
/-- A machine but for Sp. -/
structure McW (m : McL) : Prop where
  len : m.st.length = 1200
  ws : ∀ v ∈ m.st, I64 v
  pc : I64 m.pc
  fp : I64 m.fp
theorem McIs.w {m : McL} (h : McIs m) : McW m := ⟨h.len, h.ws, h.pc, h.fp⟩
theorem McW.pop {m : McL} {z : Int × McL} (h : McW m) (e : popO m = some z) : McIs z.2 ∧ I64 z.1 := by
  obtain ⟨hc, rfl⟩ := popO_eq e
  exact ⟨⟨h.len, h.ws, h.pc, by dsimp only; omega, by dsimp only; omega, h.fp⟩, getD_I64 h.ws _⟩
theorem McW.push {m m' : McL} {v : Int} (h : McW m) (hv : I64 v) (e : pushO m v = some m') : McIs m' ∧ m'.sp < 1200 := by
  obtain ⟨hc, rfl⟩ := pushO_eq e
  exact ⟨⟨by simpa using h.len, set_I64 h.ws _ hv, h.pc, by dsimp only; omega, by dsimp only; omega, h.fp⟩, by dsimp only; omega⟩
theorem McIs.put {m m' : McL} {a v : Int} (h : McIs m) (hv : I64 v) (e : putO m a v = some m') : McIs m' ∧ m'.pc = m.pc := by
  obtain rfl := putO_eq e
  exact ⟨⟨by simpa using h.len, set_I64 h.ws _ hv, h.pc, h.s0, h.s1, h.fp⟩, rfl⟩
theorem drop_is (n : Nat) : ∀ {m m' : McL}, McIs m → dropO n m = some m' → McIs m' := by
  induction n with
  | zero => intro m m' h e; obtain rfl := Option.some.inj e; exact h
  | succ n ih =>
    intro m m' h e
    unfold dropO at e
    cases ho : popO m with
    | none => rw [ho] at e; cases e
    | some z => rw [ho] at e; exact ih (h.w.pop ho).1 e
theorem zeros_is (n : Nat) : ∀ {m m' : McL}, McIs m → zerosO n m = some m' → McIs m' ∧ (m' = m ∨ m'.sp < 1200) := by
  induction n with
  | zero => intro m m' h e; obtain rfl := Option.some.inj e; exact ⟨h, .inl rfl⟩
  | succ n ih =>
    intro m m' h e
    unfold zerosO at e
    cases ho : pushO m 0 with
    | none => rw [ho] at e; cases e
    | some z =>
      rw [ho] at e
      obtain ⟨h1, h2⟩ := h.w.push (v := 0) ⟨by decide, by decide⟩ ho
      obtain ⟨h3, h4⟩ := ih h1 e
      refine ⟨h3, .inr ?_⟩
      rcases h4 with rfl | h4
      · exact h2
      · exact h4
theorem appZ_bd (k a b : Int) : -2147483648 ≤ appZ k a b ∧ appZ k a b ≤ 2147483647 := by
  have hw : ∀ x, -2147483648 ≤ W32 x ∧ W32 x ≤ 2147483647 := fun x => ⟨W32_lo x, W32_hi x⟩
  unfold appZ
  split
  · exact hw _
  split
  · exact hw _
  split
  · exact hw _
  split
  · split <;> omega
  split
  · split <;> omega
  · omega
theorem app_I64 (k a b : Int) : I64 (appZ k a b) := by
  have h := appZ_bd k a b
  unfold I64
  omega
theorem bind_eq {α β : Type} {o : Option α} {f : α → Option β} {z : β} (h : o.bind f = some z) : ∃ y, o = some y ∧ f y = some z := by
  cases o with
  | none => cases h
  | some y => exact ⟨y, rfl, h⟩
theorem ite_some {α : Type} {c : Prop} [Decidable c] {a b : Option α} {z : α} (h : (if c then a else b) = some z) : c ∧ a = some z ∨ ¬ c ∧ b = some z := by
  by_cases hc : c
  · rw [if_pos hc] at h; exact .inl ⟨hc, h⟩
  · rw [if_neg hc] at h; exact .inr ⟨hc, h⟩
/-- What holds behind an instruction; where Pc is 0 then, there is a word on top, or nothing was written. -/
theorem perf_is {E : List Int} {x : OpL} {m m' : McL} (hm : McIs m) (hx : ArgOk x) (hE : ∀ e ∈ E, I64 e) (hp : 0 < m.pc ∧ m.pc ≤ 3000000) (h : perfO E x m = some m') : McIs m' ∧ (m'.pc = 0 → m'.st = m.st ∨ m'.sp < 1200) := by
  obtain ⟨_, ha, hb, hc', hA⟩ := hx
  have hxa : I64 x.arg := by unfold I64; omega
  have pcI : ∀ n : Int, -40000 ≤ n → n ≤ 70000 → I64 (m.pc + n) := fun n h1 h2 => by unfold I64; omega
  unfold perfO at h
  rcases ite_some h with ⟨c, h⟩ | ⟨n, h⟩
  · have := hm.w.push hxa h; exact ⟨this.1, fun _ => .inr this.2⟩
  rcases ite_some h with ⟨c, h⟩ | ⟨n, h⟩
  · obtain ⟨v, h1, h2⟩ := bind_eq h
    obtain ⟨_, rfl⟩ := wordO_eq h1
    have := hm.w.push (getD_I64 hm.ws _) h2
    exact ⟨this.1, fun _ => .inr this.2⟩
  rcases ite_some h with ⟨c, h⟩ | ⟨n, h⟩
  · obtain ⟨y, h1, h2⟩ := bind_eq h
    have k1 := hm.w.pop h1
    have k2 := k1.1.put k1.2 h2
    obtain ⟨_, rfl⟩ := popO_eq h1
    exact ⟨k2.1, fun e => by have := k2.2; dsimp only at this; omega⟩
  rcases ite_some h with ⟨c, h⟩ | ⟨n, h⟩
  · obtain ⟨v, h1, h2⟩ := bind_eq h
    obtain ⟨_, rfl⟩ := wordO_eq h1
    have := hm.w.push (getD_I64 hm.ws _) h2
    exact ⟨this.1, fun _ => .inr this.2⟩
  rcases ite_some h with ⟨c, h⟩ | ⟨n, h⟩
  · obtain ⟨y, h1, h2⟩ := bind_eq h
    have k1 := hm.w.pop h1
    have k2 := k1.1.put k1.2 h2
    obtain ⟨_, rfl⟩ := popO_eq h1
    exact ⟨k2.1, fun e => by have := k2.2; dsimp only at this; omega⟩
  rcases ite_some h with ⟨c, h⟩ | ⟨n, h⟩
  · obtain rfl := Option.some.inj h
    exact ⟨⟨hm.len, hm.ws, pcI _ (by have := ha (by rw [c]; decide); omega) (by have := ha (by rw [c]; decide); omega), hm.s0, hm.s1, hm.fp⟩, fun _ => .inl rfl⟩
  rcases ite_some h with ⟨c, h⟩ | ⟨n, h⟩
  · obtain ⟨y, h1, h2⟩ := bind_eq h
    have k1 := (hm.w.pop h1).1
    obtain ⟨_, rfl⟩ := popO_eq h1
    obtain rfl := Option.some.inj h2
    split
    · exact ⟨⟨k1.len, k1.ws, pcI _ (by have := ha (by rw [c]; decide); omega) (by have := ha (by rw [c]; decide); omega), k1.s0, k1.s1, k1.fp⟩, fun _ => .inl rfl⟩
    · exact ⟨k1, fun _ => .inl rfl⟩
  rcases ite_some h with ⟨c, h⟩ | ⟨n, h⟩
  · rcases ite_some h with ⟨_, h⟩ | ⟨_, h⟩
    · cases h
    · obtain ⟨y, h1, h2⟩ := bind_eq h
      obtain rfl := Option.some.inj h2
      have k := hm.w.push hm.pc h1
      exact ⟨⟨k.1.len, k.1.ws, getD_I64 hE _, k.1.s0, k.1.s1, k.1.fp⟩, fun _ => .inr k.2⟩
  rcases ite_some h with ⟨c, h⟩ | ⟨n, h⟩
  · obtain ⟨y, h1, h2⟩ := bind_eq h
    have k := hm.w.push hm.fp h1
    have k2 := zeros_is _ (m := { y with fp := y.sp }) ⟨k.1.len, k.1.ws, k.1.pc, k.1.s0, k.1.s1, by have := k.1.s0; have := k.1.s1; unfold I64; dsimp only; omega⟩ h2
    refine ⟨k2.1, fun _ => .inr ?_⟩
    rcases k2.2 with e | e
    · rw [e]; exact k.2
    · exact e
  rcases ite_some h with ⟨c, h⟩ | ⟨n, h⟩
  · obtain ⟨v, h1, h⟩ := bind_eq h
    obtain ⟨f, h2, h⟩ := bind_eq h
    obtain ⟨c, h3, h⟩ := bind_eq h
    obtain ⟨y, h4, h5⟩ := bind_eq h
    have k1 := hm.w.pop h1
    have k2 := McW.pop (m := { v.2 with sp := v.2.fp }) ⟨k1.1.len, k1.1.ws, k1.1.pc, k1.1.fp⟩ h2
    have k3 := McW.pop (m := { f.2 with fp := f.1 }) ⟨k2.1.len, k2.1.ws, k2.1.pc, k2.2⟩ h3
    have k4 := drop_is _ (m := { c.2 with pc := c.1 }) ⟨k3.1.len, k3.1.ws, k3.2, k3.1.s0, k3.1.s1, k3.1.fp⟩ h4
    have k5 := k4.w.push k1.2 h5
    exact ⟨k5.1, fun _ => .inr k5.2⟩
  rcases ite_some h with ⟨c, h⟩ | ⟨n, h⟩
  · have k := zeros_is _ hm h
    refine ⟨k.1, fun _ => ?_⟩
    rcases k.2 with e | e
    · rw [e]; exact .inl rfl
    · exact .inr e
  rcases ite_some h with ⟨c, h⟩ | ⟨n, h⟩
  · obtain ⟨v, h1, h⟩ := bind_eq h
    obtain ⟨d, h2, h⟩ := bind_eq h
    obtain ⟨c, h3, h⟩ := bind_eq h
    obtain ⟨y, h4, h5⟩ := bind_eq h
    have k1 := hm.w.pop h1
    have k2 := drop_is _ k1.1 h2
    have k3 := k2.w.pop h3
    have k4 := drop_is _ (m := { c.2 with pc := c.1 }) ⟨k3.1.len, k3.1.ws, k3.2, k3.1.s0, k3.1.s1, k3.1.fp⟩ h4
    have k5 := k4.w.push k1.2 h5
    exact ⟨k5.1, fun _ => .inr k5.2⟩
  rcases ite_some h with ⟨c, h⟩ | ⟨n, h⟩
  · obtain ⟨y, h1, h2⟩ := bind_eq h
    have k1 := (hm.w.pop h1).1
    obtain ⟨_, rfl⟩ := popO_eq h1
    obtain rfl := Option.some.inj h2
    exact ⟨⟨k1.len, k1.ws, k1.pc, k1.s0, k1.s1, k1.fp⟩, fun _ => .inl rfl⟩
  · obtain ⟨b, h1, h⟩ := bind_eq h
    obtain ⟨a, h2, h3⟩ := bind_eq h
    have k1 := hm.w.pop h1
    have k2 := k1.1.w.pop h2
    have k3 := k2.1.w.push (app_I64 _ _ _) h3
    exact ⟨k3.1, fun _ => .inr k3.2⟩
theorem end_is {m m' : McL} (hm : McIs m) (h : endO m = some m') : McIs m' := by
  unfold endO at h
  split at h
  · obtain ⟨v, _, h2⟩ := bind_eq h
    obtain rfl := Option.some.inj h2
    exact ⟨hm.len, hm.ws, hm.pc, hm.s0, hm.s1, hm.fp⟩
  · obtain rfl := Option.some.inj h; exact hm
/-- The end of the program's step. -/
theorem rel_endI {m0 m : McL} (hm : McIs m) (h : m.pc = 0 → m.st = m0.st ∨ m.sp < 1200) : RelI m0 (endI (m, false)) (endO m) := by
  unfold endI endO
  by_cases hp : m.pc = 0
  · rw [if_pos hp, if_pos hp]
    unfold wordO
    by_cases hc : 0 ≤ m.sp ∧ m.sp < 1200
    · rw [if_pos hc, loadI_ok (by dsimp only; omega)]
      rfl
    · rw [if_neg hc, loadI_no (by dsimp only; omega)]
      refine ⟨rfl, ?_⟩
      rcases h hp with h | h
      · exact h
      · have := hm.s0; omega
  · rw [if_neg hp, if_neg hp]
    rfl
theorem endI_bad {m0 : McL} {s : McS} (h : Bad m0 s) : Bad m0 (endI s) := by
  unfold endI
  split
  · rw [loadI_bad h.1]; exact ⟨rfl, h.2⟩
  · exact h
/-- The program's step of an instruction that is there. -/
theorem rel_stepI (E : List Int) (x : OpL) (m : McL) (hm : McIs m) (hx : ArgOk x) (hE : ∀ e ∈ E, I64 e) (hp : 0 < m.pc ∧ m.pc ≤ 3000000) : RelI m (endI (perfI E x (m, false))) ((perfO E x m).bind endO) := by
  have h1 := rel_perfI E x m hm hx ⟨by omega, hp.2⟩
  cases ho : perfO E x m with
  | none => rw [ho] at h1; exact endI_bad h1
  | some m' =>
    rw [ho] at h1
    have h1 : perfI E x (m, false) = (m', false) := h1
    rw [h1]
    have h2 := perf_is hm hx hE hp ho
    exact rel_endI h2.1 h2.2
/-! ### A machine as a value -/
def mcRow (m : McL) (sv ov : Value) : Array Value := #[.int .i64 m.pc, .int .i64 m.sp, .int .i64 m.fp, sv, ov, .int .i64 m.stt, .int .i64 m.val]
/-- A machine, by value. -/
def mcA (m : McL) (sv ov : Value) : Value := .agg (mcRow m sv ov)
/-- Does a machine make sense? -/
def mokB (m : McL) : Bool := decide (m.st.length = 1200) && (decide (0 ≤ m.sp) && (decide (m.sp ≤ 1200) && (decide (0 ≤ m.stt) && decide (m.stt ≤ 2))))
end Go.Proofs.YtakgjlpgcepnkaaGreat
