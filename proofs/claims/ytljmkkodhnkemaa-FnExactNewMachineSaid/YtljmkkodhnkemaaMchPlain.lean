/- The machine, plain: what an instruction does; the program's way. Nothing of the program. -/
import Derived.Test.YtljmkkodhnkemaaOpPlain
import Derived.Test.YtljmkkodhnkemaaWrapPlain
namespace Go.Proofs.Ytljmkkodhnkemaa
open Go.RowKit Go.Lib

structure McL where
  pc : Int
  sp : Int
  fp : Int
  st : List Int
  out : List Int
  stt : Int
  val : Int
def I64 (v : Int) : Prop := -9223372036854775808 ≤ v ∧ v ≤ 9223372036854775807
/-- A machine's numbers. -/
structure McIs (m : McL) : Prop where
  len : m.st.length = 1200
  ws : ∀ v ∈ m.st, I64 v
  pc : I64 m.pc
  s0 : 0 ≤ m.sp
  s1 : m.sp ≤ 1200
  fp : I64 m.fp
/-- A word; none outside of the stack. -/
def wordO (m : McL) (a : Int) : Option Int := if 0 ≤ a ∧ a < 1200 then some (m.st.getD a.toNat 0) else none
def putO (m : McL) (a v : Int) : Option McL := if 0 ≤ a ∧ a < 1200 then some { m with st := m.st.set a.toNat v } else none
def pushO (m : McL) (v : Int) : Option McL := if 1 ≤ m.sp ∧ m.sp ≤ 1200 then some { m with sp := m.sp - 1, st := m.st.set (m.sp - 1).toNat v } else none
def popO (m : McL) : Option (Int × McL) := if 0 ≤ m.sp ∧ m.sp < 1200 then some (m.st.getD m.sp.toNat 0, { m with sp := m.sp + 1 }) else none
def dropO : Nat → McL → Option McL
  | 0, m => some m
  | n + 1, m => (popO m).bind fun y => dropO n y.2
def zerosO : Nat → McL → Option McL
  | 0, m => some m
  | n + 1, m => (pushO m 0).bind fun y => zerosO n y
/-- An instruction, the address behind it being in pc. -/
def perfO (E : List Int) (x : OpL) (m : McL) : Option McL :=
  if x.code = 0 then pushO m x.arg
  else if x.code = 1 then (wordO m (m.fp + x.arg)).bind fun v => pushO m v
  else if x.code = 2 then (popO m).bind fun y => putO y.2 (m.fp + x.arg) y.1
  else if x.code = 3 then (wordO m (m.sp + x.arg)).bind fun v => pushO m v
  else if x.code = 4 then (popO m).bind fun y => putO y.2 (m.sp + x.arg) y.1
  else if x.code = 10 then some { m with pc := m.pc + x.arg }
  else if x.code = 11 then (popO m).bind fun y => some (if y.1 = 0 then { y.2 with pc := y.2.pc + x.arg } else y.2)
  else if x.code = 12 then (if (E.length : Int) ≤ x.arg then none else (pushO m m.pc).bind fun y => some { y with pc := E.getD x.arg.toNat 0 })
  else if x.code = 13 then (pushO m m.fp).bind fun y => zerosO x.arg.toNat { y with fp := y.sp }
  else if x.code = 14 then (popO m).bind fun v => (popO { v.2 with sp := v.2.fp }).bind fun f => (popO { f.2 with fp := f.1 }).bind fun c => (dropO x.arg.toNat { c.2 with pc := c.1 }).bind fun y => pushO y v.1
  else if x.code = 15 then zerosO x.arg.toNat m
  else if x.code = 16 then (popO m).bind fun v => (dropO (x.arg.toNat / 16) v.2).bind fun d => (popO d).bind fun c => (dropO (x.arg.toNat % 16) { c.2 with pc := c.1 }).bind fun y => pushO y v.1
  else if x.code = 17 then (popO m).bind fun y => some { y.2 with out := y.2.out ++ [y.1] }
  else (popO m).bind fun b => (popO b.2).bind fun a => pushO a.2 (appZ (x.code - 5 + 2) a.1 b.1)
def endO (m : McL) : Option McL := if m.pc = 0 then (wordO m m.sp).bind fun v => some { m with stt := 1, val := v } else some m
def stepO (fet : Int → Option (OpL × Nat)) (E : List Int) (m : McL) : Option McL := (fet m.pc).bind fun y => (perfO E y.1 { m with pc := m.pc + (y.2 : Int) }).bind endO
/-- A step of a machine that runs. -/
def stepM (fet : Int → Option (OpL × Nat)) (E : List Int) (m : McL) : McL := (stepO fet E m).getD { m with stt := 2 }
/-- A run: at most n steps; how many there were. -/
def runM (fet : Int → Option (OpL × Nat)) (E : List Int) : Nat → McL → McL × Nat
  | 0, m => (m, 0)
  | n + 1, m => if m.stt = 0 then ((runM fet E n (stepM fet E m)).1, (runM fet E n (stepM fet E m)).2 + 1) else (m, 0)

/-- The program's way: a machine, and whether something was asked for that does not exist. -/
abbrev McS := McL × Bool
def reachI (s : McS) (a : Int) : McS := (s.1, (s.2 || decide (a < 0)) || decide (1200 ≤ a))
def loadIM (s : McS) (a : Int) : Int × McS := if (reachI s a).2 = true then (0, reachI s a) else (s.1.st.getD a.toNat 0, reachI s a)
def storeIM (s : McS) (a v : Int) : McS := if (reachI s a).2 = true then reachI s a else ({ s.1 with st := s.1.st.set a.toNat v }, (reachI s a).2)
def pushI (s : McS) (v : Int) : McS := storeIM ({ s.1 with sp := IntKind.i64.wrap (s.1.sp - 1) }, s.2) (IntKind.i64.wrap (s.1.sp - 1)) v
def popI (s : McS) : Int × McS := loadIM ({ s.1 with sp := IntKind.i64.wrap (s.1.sp + 1) }, s.2) (IntKind.i64.wrap (IntKind.i64.wrap (s.1.sp + 1) - 1))
def dropI : Nat → McS → McS
  | 0, s => s
  | n + 1, s => dropI n (popI s).2
def zerosI' : Nat → McS → McS
  | 0, s => s
  | n + 1, s => zerosI' n (pushI s 0)
def needI (s : McS) (n : Int) : McS := (s.1, s.2 || decide (s.1.sp < n))
def perfI (E : List Int) (x : OpL) (s : McS) : McS :=
  if x.code = 0 then pushI s x.arg
  else if x.code = 1 then pushI (loadIM s (IntKind.i64.wrap (s.1.fp + x.arg))).2 (loadIM s (IntKind.i64.wrap (s.1.fp + x.arg))).1
  else if x.code = 2 then storeIM (popI s).2 (IntKind.i64.wrap (s.1.fp + x.arg)) (popI s).1
  else if x.code = 3 then pushI (loadIM s (IntKind.i64.wrap (s.1.sp + x.arg))).2 (loadIM s (IntKind.i64.wrap (s.1.sp + x.arg))).1
  else if x.code = 4 then storeIM (popI s).2 (IntKind.i64.wrap (s.1.sp + x.arg)) (popI s).1
  else if x.code = 10 then ({ s.1 with pc := IntKind.i64.wrap (s.1.pc + x.arg) }, s.2)
  else if x.code = 11 then (if (popI s).1 = 0 then ({ (popI s).2.1 with pc := IntKind.i64.wrap ((popI s).2.1.pc + x.arg) }, (popI s).2.2) else (popI s).2)
  else if x.code = 12 then (if (E.length : Int) ≤ x.arg then (s.1, true) else ({ (pushI s s.1.pc).1 with pc := E.getD x.arg.toNat 0 }, (pushI s s.1.pc).2))
  else if x.code = 13 then zerosI' x.arg.toNat ({ (pushI (needI s (1 + x.arg)) s.1.fp).1 with fp := (pushI (needI s (1 + x.arg)) s.1.fp).1.sp }, (pushI (needI s (1 + x.arg)) s.1.fp).2)
  else if x.code = 14 then leaveM x.arg.toNat (popI s).1 (popI s).2
  else if x.code = 15 then zerosI' x.arg.toNat (needI s x.arg)
  else if x.code = 16 then backM (x.arg.toNat / 16) (x.arg.toNat % 16) (popI s).1 (popI s).2
  else if x.code = 17 then ({ (popI s).2.1 with out := (popI s).2.1.out ++ [(popI s).1] }, (popI s).2.2)
  else pushI (popI (popI s).2).2 (appZ (x.code - 5 + 2) (popI (popI s).2).1 (popI s).1)
where
  leaveM (n : Nat) (v : Int) (s : McS) : McS :=
    let f := popI ({ s.1 with sp := s.1.fp }, s.2)
    let c := popI ({ f.2.1 with fp := f.1 }, f.2.2)
    pushI (dropI n ({ c.2.1 with pc := c.1 }, c.2.2)) v
  backM (a b : Nat) (v : Int) (s : McS) : McS :=
    let c := popI (dropI a s)
    pushI (dropI b ({ c.2.1 with pc := c.1 }, c.2.2)) v
def endI (s : McS) : McS := if s.1.pc = 0 then ({ (loadIM s s.1.sp).2.1 with stt := 1, val := (loadIM s s.1.sp).1 }, (loadIM s s.1.sp).2.2) else s

/-- The model's way. -/
def nearZ (a n : Int) : Int := if -100000 ≤ a ∧ a ≤ 100000 then a + n else -1
def pushS (s : McS) (v : Int) : McS := if s.1.sp < 1 ∨ 1200 < s.1.sp then (s.1, true) else ({ s.1 with sp := s.1.sp - 1, st := s.1.st.set (s.1.sp - 1).toNat v }, s.2)
def wordS (s : McS) (a : Int) : Int × McS := if 0 ≤ a ∧ a ≤ 1199 then (s.1.st.getD a.toNat 0, s) else (0, (s.1, true))
def popS (s : McS) : Int × McS := ((wordS s s.1.sp).1, if (wordS s s.1.sp).2.2 = true then (wordS s s.1.sp).2 else ({ s.1 with sp := s.1.sp + 1 }, false))
def putS (s : McS) (a v : Int) : McS := if 0 ≤ a ∧ a ≤ 1199 then ({ s.1 with st := s.1.st.set a.toNat v }, s.2) else (s.1, true)
def dropS : Nat → McS → McS
  | 0, s => s
  | n + 1, s => dropS n (popS s).2
def zerosS : Nat → McS → McS
  | 0, s => s
  | n + 1, s => zerosS n (pushS s 0)
def perfS (E : List Int) (x : OpL) (s : McS) : McS :=
  if x.code = 0 then pushS s x.arg
  else if x.code = 1 then pushS (wordS s (nearZ s.1.fp x.arg)).2 (wordS s (nearZ s.1.fp x.arg)).1
  else if x.code = 2 then putS (popS s).2 (nearZ s.1.fp x.arg) (popS s).1
  else if x.code = 3 then pushS (wordS s (s.1.sp + x.arg)).2 (wordS s (s.1.sp + x.arg)).1
  else if x.code = 4 then putS (popS s).2 (s.1.sp + x.arg) (popS s).1
  else if x.code = 10 then ({ s.1 with pc := s.1.pc + x.arg }, s.2)
  else if x.code = 11 then (if (popS s).1 = 0 then ({ (popS s).2.1 with pc := (popS s).2.1.pc + x.arg }, (popS s).2.2) else (popS s).2)
  else if x.code = 12 then (if (E.length : Int) ≤ x.arg then (s.1, true) else ({ (pushS s s.1.pc).1 with pc := E.getD x.arg.toNat 0 }, (pushS s s.1.pc).2))
  else if x.code = 13 then zerosS x.arg.toNat ({ (pushS s s.1.fp).1 with fp := (pushS s s.1.fp).1.sp }, (pushS s s.1.fp).2)
  else if x.code = 14 then (if 0 ≤ (popS s).2.1.fp ∧ (popS s).2.1.fp ≤ 1200 then leaveM x.arg.toNat (popS s).1 (popS s).2 else ((popS s).2.1, true))
  else if x.code = 15 then zerosS x.arg.toNat s
  else if x.code = 16 then backM (x.arg.toNat / 16) (x.arg.toNat % 16) (popS s).1 (popS s).2
  else if x.code = 17 then ({ (popS s).2.1 with out := (popS s).2.1.out ++ [(popS s).1] }, (popS s).2.2)
  else pushS (popS (popS s).2).2 (appZ (x.code - 5 + 2) (popS (popS s).2).1 (popS s).1)
where
  leaveM (n : Nat) (v : Int) (s : McS) : McS :=
    let f := popS ({ s.1 with sp := s.1.fp }, s.2)
    let c := popS ({ f.2.1 with fp := f.1 }, f.2.2)
    pushS (dropS n ({ c.2.1 with pc := c.1 }, c.2.2)) v
  backM (a b : Nat) (v : Int) (s : McS) : McS :=
    let c := popS (dropS a s)
    pushS (dropS b ({ c.2.1 with pc := c.1 }, c.2.2)) v

/-! ### The model's way comes to the same -/
def RelS (s : McS) (o : Option McL) : Prop := match o with
  | some m => s = (m, false)
  | none => s.2 = true
def RelV (y : Int × McS) (o : Option (Int × McL)) : Prop := match o with
  | some z => y = (z.1, (z.2, false))
  | none => y.2.2 = true
theorem rel_popS (m : McL) : RelV (popS (m, false)) (popO m) := by
  unfold popS wordS popO RelV
  by_cases h : 0 ≤ m.sp ∧ m.sp < 1200
  · rw [if_pos h, if_pos (show 0 ≤ m.sp ∧ m.sp ≤ 1199 by omega)]; rfl
  · rw [if_neg h, if_neg (show ¬(0 ≤ m.sp ∧ m.sp ≤ 1199) by omega)]; rfl
theorem popS_bad (s : McS) (h : s.2 = true) : (popS s).2.2 = true := by
  unfold popS
  have : (wordS s s.1.sp).2.2 = true := by unfold wordS; split <;> simp [h]
  rw [this, if_pos rfl]; exact this
theorem rel_pushS (m : McL) (v : Int) : RelS (pushS (m, false) v) (pushO m v) := by
  unfold pushS pushO RelS
  by_cases h : 1 ≤ m.sp ∧ m.sp ≤ 1200
  · rw [if_pos h, if_neg (by dsimp only; omega)]
  · rw [if_neg h, if_pos (by dsimp only; omega)]
theorem pushS_bad (s : McS) (v : Int) (h : s.2 = true) : (pushS s v).2 = true := by unfold pushS; split <;> simp [h]
theorem rel_wordS (m : McL) (a : Int) : RelV (wordS (m, false) a) ((wordO m a).map fun v => (v, m)) := by
  unfold wordS wordO RelV
  by_cases h : 0 ≤ a ∧ a < 1200
  · rw [if_pos h, if_pos (show 0 ≤ a ∧ a ≤ 1199 by omega)]; rfl
  · rw [if_neg h, if_neg (show ¬(0 ≤ a ∧ a ≤ 1199) by omega)]; rfl
theorem rel_putS (m : McL) (a v : Int) : RelS (putS (m, false) a v) (putO m a v) := by
  unfold putS putO RelS
  by_cases h : 0 ≤ a ∧ a < 1200
  · rw [if_pos h, if_pos (show 0 ≤ a ∧ a ≤ 1199 by omega)]
  · rw [if_neg h, if_neg (show ¬(0 ≤ a ∧ a ≤ 1199) by omega)]
theorem putS_bad (s : McS) (a v : Int) (h : s.2 = true) : (putS s a v).2 = true := by unfold putS; split <;> simp [h]
theorem dropS_bad (n : Nat) : ∀ s : McS, s.2 = true → (dropS n s).2 = true := by
  induction n with
  | zero => intro s h; exact h
  | succ n ih => intro s h; exact ih _ (popS_bad s h)
theorem zerosS_bad (n : Nat) : ∀ s : McS, s.2 = true → (zerosS n s).2 = true := by
  induction n with
  | zero => intro s h; exact h
  | succ n ih => intro s h; exact ih _ (pushS_bad s 0 h)
theorem rel_bind {y : Int × McS} {o : Option (Int × McL)} {f : Int → McS → McS} {g : Int × McL → Option McL} (h : RelV y o) (h1 : ∀ v m, RelS (f v (m, false)) (g (v, m))) (h2 : ∀ v s, s.2 = true → (f v s).2 = true) : RelS (f y.1 y.2) (o.bind g) := by
  cases o with
  | none => exact h2 _ _ h
  | some z => obtain rfl : y = (z.1, (z.2, false)) := h; exact h1 z.1 z.2
theorem rel_seq {s : McS} {o : Option McL} {f : McS → McS} {g : McL → Option McL} (h : RelS s o) (h1 : ∀ m, RelS (f (m, false)) (g m)) (h2 : ∀ s, s.2 = true → (f s).2 = true) : RelS (f s) (o.bind g) := by
  cases o with
  | none => exact h2 _ h
  | some z => obtain rfl : s = (z, false) := h; exact h1 z
theorem rel_dropS (n : Nat) : ∀ m : McL, RelS (dropS n (m, false)) (dropO n m) := by
  induction n with
  | zero => intro m; exact rfl
  | succ n ih => intro m; exact rel_bind (f := fun _ s => dropS n s) (g := fun y => dropO n y.2) (rel_popS m) (fun _ m => ih m) (fun _ s h => dropS_bad n s h)
theorem rel_zerosS (n : Nat) : ∀ m : McL, RelS (zerosS n (m, false)) (zerosO n m) := by
  induction n with
  | zero => intro m; exact rfl
  | succ n ih => intro m; exact rel_seq (f := fun s => zerosS n s) (g := fun y => zerosO n y) (rel_pushS m 0) (fun m => ih m) (fun s h => zerosS_bad n s h)
theorem near_in {a n : Int} (hn : -40000 ≤ n ∧ n ≤ 40000) : (0 ≤ nearZ a n ∧ nearZ a n ≤ 1199 ↔ 0 ≤ a + n ∧ a + n < 1200) ∧ (0 ≤ a + n ∧ a + n < 1200 → nearZ a n = a + n) := by
  unfold nearZ
  by_cases h : -100000 ≤ a ∧ a ≤ 100000
  · rw [if_pos h]; exact ⟨by omega, fun _ => rfl⟩
  · rw [if_neg h]; exact ⟨by omega, fun h' => by omega⟩
theorem word_near (s : McS) {a n : Int} (hn : -40000 ≤ n ∧ n ≤ 40000) : wordS s (nearZ a n) = wordS s (a + n) := by
  obtain ⟨h1, h2⟩ := near_in (a := a) hn
  unfold wordS
  by_cases h : 0 ≤ a + n ∧ a + n < 1200
  · rw [h2 h]
  · rw [if_neg (fun h' => h (h1.1 h')), if_neg (by omega)]
theorem put_near (s : McS) (v : Int) {a n : Int} (hn : -40000 ≤ n ∧ n ≤ 40000) : putS s (nearZ a n) v = putS s (a + n) v := by
  obtain ⟨h1, h2⟩ := near_in (a := a) hn
  unfold putS
  by_cases h : 0 ≤ a + n ∧ a + n < 1200
  · rw [h2 h]
  · rw [if_neg (fun h' => h (h1.1 h')), if_neg (by omega)]
/-- An instruction's argument is small. -/
def ArgOk (x : OpL) : Prop := (0 ≤ x.code ∧ x.code ≤ 17) ∧ (x.code ≠ 0 → -40000 ≤ x.arg ∧ x.arg ≤ 70000) ∧ (x.code ≤ 4 ∧ x.code ≠ 0 → x.arg ≤ 40000) ∧ (12 ≤ x.code → 0 ≤ x.arg) ∧ (-4294967296 ≤ x.arg ∧ x.arg ≤ 4294967296)
theorem rel_leaveS (n : Nat) (v : Int) (m : McL) : RelS (perfS.leaveM n v (m, false)) ((popO { m with sp := m.fp }).bind fun f => (popO { f.2 with fp := f.1 }).bind fun c => (dropO n { c.2 with pc := c.1 }).bind fun y => pushO y v) := by
  unfold perfS.leaveM
  dsimp only
  refine rel_bind (f := fun a s => pushS (dropS n ({ (popS ({ s.1 with fp := a }, s.2)).2.1 with pc := (popS ({ s.1 with fp := a }, s.2)).1 }, (popS ({ s.1 with fp := a }, s.2)).2.2)) v) (rel_popS _) (fun a m => ?_) (fun a s h => pushS_bad _ _ (dropS_bad _ _ (popS_bad _ h)))
  refine rel_bind (f := fun a s => pushS (dropS n ({ s.1 with pc := a }, s.2)) v) (rel_popS _) (fun a m => ?_) (fun a s h => pushS_bad _ _ (dropS_bad _ _ h))
  exact rel_seq (f := fun s => pushS s v) (rel_dropS n _) (fun m => rel_pushS m v) (fun s h => pushS_bad s v h)
theorem rel_backS (a b : Nat) (v : Int) (m : McL) : RelS (perfS.backM a b v (m, false)) ((dropO a m).bind fun d => (popO d).bind fun c => (dropO b { c.2 with pc := c.1 }).bind fun y => pushO y v) := by
  unfold perfS.backM
  dsimp only
  refine rel_seq (f := fun s => pushS (dropS b ({ (popS s).2.1 with pc := (popS s).1 }, (popS s).2.2)) v) (rel_dropS a m) (fun m => ?_) (fun s h => pushS_bad _ _ (dropS_bad _ _ (popS_bad _ h)))
  refine rel_bind (f := fun a s => pushS (dropS b ({ s.1 with pc := a }, s.2)) v) (rel_popS _) (fun a m => ?_) (fun a s h => pushS_bad _ _ (dropS_bad _ _ h))
  exact rel_seq (f := fun s => pushS s v) (rel_dropS b _) (fun m => rel_pushS m v) (fun s h => pushS_bad s v h)
theorem rel_mapb {o : Option Int} {m : McL} : (o.bind fun v => pushO m v) = (o.map fun v => (v, m)).bind fun y => pushO y.2 y.1 := by cases o <;> rfl
theorem rel_iteM {c : Prop} [Decidable c] {a b : McS} {a' b' : Option McL} (h1 : c → RelS a a') (h2 : ¬ c → RelS b b') : RelS (if c then a else b) (if c then a' else b') := by
  by_cases h : c
  · rw [if_pos h, if_pos h]; exact h1 h
  · rw [if_neg h, if_neg h]; exact h2 h
theorem pop_none_fp {m : McL} (h : ¬(0 ≤ m.fp ∧ m.fp ≤ 1200)) : popO { m with sp := m.fp } = none := by unfold popO; rw [if_neg (by dsimp only; omega)]
/-- The model's instruction is the one. -/
theorem rel_perfS (E : List Int) (x : OpL) (m : McL) (hx : ArgOk x) : RelS (perfS E x (m, false)) (perfO E x m) := by
  obtain ⟨_, ha, hb, hc, _⟩ := hx
  unfold perfS perfO
  refine rel_iteM (fun _ => rel_pushS m _) fun n0 => rel_iteM (fun c => ?_) fun n1 => rel_iteM (fun c => ?_) fun n2 => rel_iteM (fun c => ?_) fun n3 => rel_iteM (fun c => ?_) fun n4 => rel_iteM (fun _ => rfl) fun n10 => rel_iteM (fun _ => ?_) fun n11 => rel_iteM (fun c => ?_) fun n12 => rel_iteM (fun _ => ?_) fun n13 => rel_iteM (fun _ => ?_) fun n14 => rel_iteM (fun _ => rel_zerosS _ m) fun n15 => rel_iteM (fun _ => ?_) fun n16 => rel_iteM (fun _ => ?_) fun n17 => ?_
  · rw [word_near _ (by omega), rel_mapb]
    exact rel_bind (f := fun v s => pushS s v) (rel_wordS m _) (fun v m => rel_pushS m v) (fun v s h => pushS_bad s v h)
  · rw [put_near _ _ (by omega)]
    exact rel_bind (f := fun v s => putS s (m.fp + x.arg) v) (rel_popS m) (fun v m' => rel_putS m' _ v) (fun v s h => putS_bad s _ v h)
  · rw [rel_mapb]
    exact rel_bind (f := fun v s => pushS s v) (rel_wordS m _) (fun v m => rel_pushS m v) (fun v s h => pushS_bad s v h)
  · exact rel_bind (f := fun v s => putS s (m.sp + x.arg) v) (rel_popS m) (fun v m' => rel_putS m' _ v) (fun v s h => putS_bad s _ v h)
  · refine rel_bind (f := fun v s => if v = 0 then ({ s.1 with pc := s.1.pc + x.arg }, s.2) else s) (rel_popS m) (fun v m' => ?_) (fun v s h => by split <;> exact h)
    by_cases hv : v = 0
    · simp only [if_pos hv]; exact rfl
    · simp only [if_neg hv]; exact rfl
  · refine rel_iteM (fun _ => rfl) fun _ => ?_
    exact rel_seq (f := fun s => ({ s.1 with pc := E.getD x.arg.toNat 0 }, s.2)) (rel_pushS m m.pc) (fun m => rfl) (fun s h => h)
  · exact rel_seq (f := fun s => zerosS x.arg.toNat ({ s.1 with fp := s.1.sp }, s.2)) (rel_pushS m m.fp) (fun m => rel_zerosS _ _) (fun s h => zerosS_bad _ _ h)
  · refine rel_bind (f := fun v s => if 0 ≤ s.1.fp ∧ s.1.fp ≤ 1200 then perfS.leaveM x.arg.toNat v s else (s.1, true)) (rel_popS m) (fun v m' => ?_) (fun v s h => ?_)
    · by_cases hf : 0 ≤ m'.fp ∧ m'.fp ≤ 1200
      · simp only [if_pos hf]; exact rel_leaveS _ v m'
      · simp only [if_neg hf, pop_none_fp hf]; exact rfl
    · split
      · exact pushS_bad _ _ (dropS_bad _ _ (popS_bad _ (popS_bad _ h)))
      · rfl
  · exact rel_bind (f := fun v s => perfS.backM (x.arg.toNat / 16) (x.arg.toNat % 16) v s) (rel_popS m) (fun v m' => rel_backS _ _ v m') (fun v s h => pushS_bad _ _ (dropS_bad _ _ (popS_bad _ (dropS_bad _ _ h))))
  · exact rel_bind (f := fun v s => ({ s.1 with out := s.1.out ++ [v] }, s.2)) (rel_popS m) (fun v m' => rfl) (fun v s h => h)
  · refine rel_bind (f := fun v s => pushS (popS s).2 (appZ (x.code - 5 + 2) (popS s).1 v)) (rel_popS m) (fun v m' => ?_) (fun v s h => pushS_bad _ _ (popS_bad _ h))
    exact rel_bind (f := fun a s => pushS s (appZ (x.code - 5 + 2) a v)) (rel_popS m') (fun a m'' => rel_pushS m'' _) (fun a s h => pushS_bad _ _ h)
end Go.Proofs.Ytljmkkodhnkemaa
