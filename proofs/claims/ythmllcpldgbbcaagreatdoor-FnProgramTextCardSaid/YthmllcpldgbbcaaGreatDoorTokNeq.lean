/- '!=' between two tokens of the program's type. -/
import Derived.Test.YthmllcpldgbbcaaGreatDoorRows
import Derived.Test.YthmllcpldgbbcaaGreatDoorPlainA
import Derived.Outline
import Derived.Lib.Hide
import Derived.Laws.StructEq
namespace Go.Proofs.YthmllcpldgbbcaaGreatDoor
open Go.RowKit Go.Lib

/-- Two tokens are equal in all fields. -/
def sameT (a b : TokL) : Bool := (a.kind == b.kind) && ((a.num == b.num) && (a.name.toList == b.name.toList))
theorem sameT_self (a : TokL) : sameT a a = true := by unfold sameT; simp
theorem sameT_iff (a b : TokL) : sameT a b = true ↔ a = b := by
  constructor
  · intro h
    unfold sameT at h
    simp only [Bool.and_eq_true, beq_iff_eq] at h
    obtain ⟨k, n, s⟩ := a
    obtain ⟨k', n', s'⟩ := b
    obtain ⟨h1, h2, h3⟩ := h
    dsimp only at h1 h2 h3
    subst h1 h2
    have : s = s' := bl_eq (by rw [ByteArray.toList_eq, ByteArray.toList_eq] at h3; exact h3)
    rw [this]
  · rintro rfl; exact sameT_self a
theorem tok_fields : (Tryz.prog.fieldsOf 66).toList.map (fun f => (f.name, f.type, f.offset)) = [("Kind", 3, 0), ("Num", 3, 1), ("Name", 9, 2)] := by kernel_rfl
theorem tok_u : Tryz.prog.underlying 3 = some (.int .i64) ∧ Tryz.prog.underlying 9 = some .string := ⟨by kernel_rfl, by kernel_rfl⟩
theorem tok_part (t : TypeId) (cs : Array Value) (o : Nat) (v : Value) (w : World) (ht : (isAgg t).run Tryz.prog w = .ok false w) (hv : cs[o]? = some v) : (part t cs o).run Tryz.prog w = .ok v w := by
  unfold part
  simp only [Sem.run_bind, ht, Result.andThen_ok, Bool.false_eq_true, if_false, hv, Sem.run_pure]
theorem tok_eqf (d : Nat) (a b : TokL) (w : World) (fs : List Field) (hl : fs.map (fun f => (f.name, f.type, f.offset)) = [("Kind", 3, 0), ("Num", 3, 1), ("Name", 9, 2)]) :
    (Op.eqFields (d + 1) #[.int .i64 a.kind, .int .i64 a.num, .string a.name] #[.int .i64 b.kind, .int .i64 b.num, .string b.name] fs).run Tryz.prog w = .ok (sameT a b) w := by
  have h3 : fs.length = 3 := by simpa using congrArg List.length hl
  match fs, h3 with
  | [f0, f1, f2], _ =>
    simp only [List.map_cons, List.map_nil, List.cons.injEq, Prod.mk.injEq, and_true] at hl
    obtain ⟨⟨n0, t0, o0⟩, ⟨n1, t1, o1⟩, n2, t2, o2⟩ := hl
    have aI : ∀ W, (isAgg 3).run Tryz.prog W = .ok false W := fun _ => by kernel_rfl
    have aS : ∀ W, (isAgg 9).run Tryz.prog W = .ok false W := fun _ => by kernel_rfl
    have p0 := fun W => tok_part 3 #[.int .i64 a.kind, .int .i64 a.num, .string a.name] 0 (.int .i64 a.kind) W (aI W) rfl
    have q0 := fun W => tok_part 3 #[.int .i64 b.kind, .int .i64 b.num, .string b.name] 0 (.int .i64 b.kind) W (aI W) rfl
    have p1 := fun W => tok_part 3 #[.int .i64 a.kind, .int .i64 a.num, .string a.name] 1 (.int .i64 a.num) W (aI W) rfl
    have q1 := fun W => tok_part 3 #[.int .i64 b.kind, .int .i64 b.num, .string b.name] 1 (.int .i64 b.num) W (aI W) rfl
    have p2 := fun W => tok_part 9 #[.int .i64 a.kind, .int .i64 a.num, .string a.name] 2 (.string a.name) W (aS W) rfl
    have q2 := fun W => tok_part 9 #[.int .i64 b.kind, .int .i64 b.num, .string b.name] 2 (.string b.name) W (aS W) rfl
    have eI := fun W (x y : Int) => run_equalIn_int (P := Tryz.prog) W d 3 .i64 .i64 x y tok_u.1
    have eS := fun W (x y : ByteArray) => run_equalIn_string (P := Tryz.prog) W d 9 x y tok_u.2
    simp only [Op.eqFields, n0, n1, n2, t0, t1, t2, o0, o1, o2, ne_eq, String.reduceEq, not_false_eq_true, if_true, Sem.run_bind, Result.andThen_ok, Sem.run_ite, Sem.run_pure, p0, q0, p1, q1, p2, q2, eI, eS]
    unfold sameT
    cases a.kind == b.kind <;> cases a.num == b.num <;> cases a.name.toList == b.name.toList <;> rfl
theorem tok_neq (a b : TokL) (w : World) : (binOp .neq 66 (.agg #[.int .i64 a.kind, .int .i64 a.num, .string a.name]) (.agg #[.int .i64 b.kind, .int .i64 b.num, .string b.name])).run Tryz.prog w = .ok (.bool (!sameT a b)) w := by
  rw [run_neq_struct]
  have h := run_equalIn_agg (P := Tryz.prog) w 9999 66 #[.int .i64 a.kind, .int .i64 a.num, .string a.name] #[.int .i64 b.kind, .int .i64 b.num, .string b.name] (by kernel_rfl) (by kernel_rfl)
  have h2 := tok_eqf 9998 a b w _ tok_fields
  rw [show (Op.equalIn 10000 66 (.agg #[.int .i64 a.kind, .int .i64 a.num, .string a.name]) (.agg #[.int .i64 b.kind, .int .i64 b.num, .string b.name])).run Tryz.prog w = .ok (sameT a b) w from h.trans h2]
  rfl
end Go.Proofs.YthmllcpldgbbcaaGreatDoor
