/- Parts of the proof. -/
import Derived.WalkKit
import Derived.IntWalk
import Derived.Lib.BufferRead
import Derived.Laws.IdiomStrings
import Derived.Maps.AppendAt
import Derived.Below
import Derived.Deep.Draws
import Derived.Lib.ItoaNum
import Derived.Lib.Atoi
import Derived.Lib.AtoiErr
import Derived.Lib.AtoiAll
import Derived.Lib.AtoiTie
import Derived.Lib.IndexLaws
import Derived.Lib.Bytealg
import Derived.Lib.Join
import Derived.Deep.Slices
import Derived.Deep.Fields
import Derived.ChangeSame
import Derived.SliceStrings
import Derived.Lib.SmallJoins
namespace Go.Proofs.YtcflojdkaddemaaGreatDoor
open Go.RowKit Go.Lib
theorem take_snoc (s:ByteArray) (k:Nat) (h:k<s.size):s.data.toList.take (k+1)=s.data.toList.take k++[s[k]]:=by
  rw [List.take_succ_eq_append_getElem (by simpa using h)];rfl
theorem take_all (s:ByteArray):s.data.toList.take s.size=s.data.toList:=List.take_of_length_le (by simp)
theorem list_len (s:ByteArray):s.data.toList.length=s.size:=by simp
theorem byteCells_append (a b:List UInt8):byteCells (a++b)=byteCells a++byteCells b:=by simp [byteCells]
theorem byteCells_length (a:List UInt8):(byteCells a).length=a.length:=by simp [byteCells]
theorem byteCells_one (l:List UInt8):∀ u ∈ byteCells l,u.oneCell'=true:=by intro u hu;simp only [byteCells,List.mem_map] at hu;obtain ⟨b,_,rfl⟩:=hu;rfl
theorem conv_own {P:Program} (w:World) (base src dst e:Nat) (v:Value) (l:List UInt8) (hs:P.underlying src=some (.slice e)) (he:P.underlying e=some (.int .u8)) (hd:P.underlying dst=some .string)
    (h:w.ownsRow base e 1 v l.length (byteCells l)):(convert src dst v).run P w=.ok (.string ⟨l.toArray⟩) w:=by
  obtain ⟨_,h|⟨g,cap,cur,rfl,_,hg,_,_,_,htk⟩⟩:=h
  · obtain ⟨rfl,h0⟩:=h
    have:l=[]:=List.length_eq_zero_iff.1 h0
    subst this;exact run_convert_nil_bytes w src dst e 0 hs he hd
  · exact run_convert_bytes_back w src dst e _ cap l hs he hd (bytes_of_row hg (by simpa using htk))
theorem below_app {B e n:Nat} {w0 wr w1:World} {X:Obj} {v:Value} {xs:List Value} (hown:wr.ownsRow B e 1 v n xs) (hbel:Below B w0 wr) (hB:B≤wr.heap.size)
    (hg:(wr.alloc X).drew.grownBy w1 v.ownBlock):Below B w0 w1 :=
  ((hbel.alloc hB X).drew).grown hg (by simp;omega) (fun k hk=>(hown.lt k hk).1)
theorem below_app' {B e n:Nat} {w0 wr w1:World} {X:Obj} {v:Value} {xs:List Value} (hown:wr.ownsRow B e 1 v n xs) (hbel:Below B w0 wr) (hB:B≤wr.heap.size)
    (hg:(wr.alloc X).grownBy w1 v.ownBlock):Below B w0 w1 :=
  (hbel.alloc hB X).grown hg (by simp;omega) (fun k hk=>(hown.lt k hk).1)
theorem bl_eq {a b:ByteArray} (h:a.data.toList=b.data.toList):a=b:=ByteArray.ext (Array.toList_inj.1 h)
theorem ret_int {k:IntKind} {a b:Int} (h:a=b):Ending.returned (.int k a)=.returned (.int k b):=by rw [h]
end Go.Proofs.YtcflojdkaddemaaGreatDoor
namespace Go.Proofs.YtcflojdkaddemaaGreatDoor
open Go.RowKit Go.Lib
def lowB (c:UInt8):Bool:=decide (97≤c.toNat)&&decide (c.toNat≤122)
def nameB (s:ByteArray):Bool:=decide (1≤s.size)&&(decide (s.size≤8)&&s.data.toList.all lowB)
theorem lowB_iff (c:UInt8):lowB c=true↔97≤c.toNat∧c.toNat≤122:=by simp [lowB]
theorem low_next (s:ByteArray) (k:Nat) (h:k<s.size) (ha:(s.data.toList.take k).all lowB=true) (h1:97≤s[k].toNat) (h2:s[k].toNat≤122):(s.data.toList.take (k+1)).all lowB=true:=by
  rw [take_snoc s k h,List.all_append,ha];simp [lowB,h1,h2]
theorem nameB_short (s:ByteArray) (h:s.size=0):nameB s=false:=by simp [nameB,h]
theorem nameB_long (s:ByteArray) (h:8<s.size):nameB s=false:=by unfold nameB;rw [decide_eq_false (by omega:¬ s.size≤8)];simp
theorem nameB_bad (s:ByteArray) (k:Nat) (h:k<s.size) (hb:s[k].toNat<97∨122<s[k].toNat):nameB s=false:=by
  have:s.data.toList.all lowB=false:=by
    rw [List.all_eq_false];refine ⟨s[k],?_,?_⟩
    · have e:s.data.toList[k]'(by simpa using h)=s[k]:=rfl
      exact e▸List.getElem_mem _
    · intro e;have:=(lowB_iff _).1 e;omega
  simp [nameB,this]
theorem nameB_good (s:ByteArray) (h1:1≤s.size) (h2:s.size≤8) (ha:(s.data.toList.take s.size).all lowB=true):nameB s=true:=by
  rw [take_all] at ha;simp only [nameB,ha,decide_eq_true h1,decide_eq_true h2,Bool.and_true]
theorem nameB_all (s:ByteArray) (ha:(s.data.toList.take s.size).all lowB=true):nameB s=(decide (1≤s.size)&&decide (s.size≤8)):=by
  rw [take_all] at ha;simp only [nameB,ha,Bool.and_true]
theorem nameB_size (s:ByteArray) (h:nameB s=true):1≤s.size∧s.size≤8∧s.data.toList.all lowB=true:=by
  simpa [nameB] using h
structure TokL where
  kind:Int
  num:Int
  name:ByteArray
def tokV (t:TokL):List Value:=[.int .i64 t.kind,.int .i64 t.num,.string t.name]
def noName (s:ByteArray):Bool:=decide (s.size=0)
def tokB (t:TokL):Bool :=
  if t.kind=0 then decide (0≤t.num)&&(decide (t.num≤999)&&noName t.name)
  else if t.kind=1 then decide (t.num=0)&&nameB t.name
  else if t.kind=7 then decide (0≤t.num)&&(decide (t.num≤4)&&nameB t.name)
  else decide (2≤t.kind)&&(decide (t.kind≤6)&&(decide (t.num=0)&&noName t.name))
def arZ (t:TokL):Int:=if tokB t=true then (if t.kind=0∨t.kind=1 then 0 else if t.kind=7 then t.num else 2) else -1
theorem tokB_0 (n:Int) (s:ByteArray):tokB ⟨0,n,s⟩=(decide (0≤n)&&(decide (n≤999)&&noName s)):=rfl
theorem tokB_1 (n:Int) (s:ByteArray):tokB ⟨1,n,s⟩=(decide (n=0)&&nameB s):=rfl
theorem tokB_7 (n:Int) (s:ByteArray):tokB ⟨7,n,s⟩=(decide (0≤n)&&(decide (n≤4)&&nameB s)):=rfl
theorem tokB_op (k n:Int) (s:ByteArray) (h0:k≠0) (h1:k≠1) (h7:k≠7):tokB ⟨k,n,s⟩=(decide (2≤k)&&(decide (k≤6)&&(decide (n=0)&&noName s))):=by
  unfold tokB;rw [if_neg h0,if_neg h1,if_neg h7]
theorem tokB_out (k n:Int) (s:ByteArray) (h:k<0∨7<k):tokB ⟨k,n,s⟩=false:=by
  rw [tokB_op k n s (by omega) (by omega) (by omega)]
  rcases h with h|h
  · rw [decide_eq_false (by omega:¬ 2≤k)];rfl
  · rw [decide_eq_false (by omega:¬ k≤6)];simp
theorem arZ_bad (t:TokL) (h:tokB t=false):arZ t=-1:=by unfold arZ;rw [h];rfl
theorem arZ_0 (n:Int) (s:ByteArray) (h:tokB ⟨0,n,s⟩=true):arZ ⟨0,n,s⟩=0:=by unfold arZ;rw [h];rfl
theorem arZ_1 (n:Int) (s:ByteArray) (h:tokB ⟨1,n,s⟩=true):arZ ⟨1,n,s⟩=0:=by unfold arZ;rw [h];rfl
theorem arZ_7 (n:Int) (s:ByteArray) (h:tokB ⟨7,n,s⟩=true):arZ ⟨7,n,s⟩=n:=by unfold arZ;rw [h];rfl
theorem arZ_op (k n:Int) (s:ByteArray) (h:tokB ⟨k,n,s⟩=true) (h0:k≠0) (h1:k≠1) (h7:k≠7):arZ ⟨k,n,s⟩=2:=by
  unfold arZ;rw [if_pos h,if_neg (by rintro (e|e);exact h0 e;exact h1 e),if_neg h7]
theorem arZ_bd (t:TokL):-1≤arZ t∧arZ t≤4:=by
  obtain ⟨k,n,s⟩:=t
  cases h:tokB ⟨k,n,s⟩
  · rw [arZ_bad _ h];omega
  · by_cases h0:k=0
    · subst h0;rw [arZ_0 _ _ h];omega
    by_cases h1:k=1
    · subst h1;rw [arZ_1 _ _ h];omega
    by_cases h7:k=7
    · subst h7;rw [arZ_7 _ _ h];rw [tokB_7] at h;simp at h;omega
    · rw [arZ_op _ _ _ h h0 h1 h7];omega
theorem arZ_pos (t:TokL) (h:tokB t=true):0≤arZ t:=by
  obtain ⟨k,n,s⟩:=t
  by_cases h0:k=0
  · subst h0;rw [arZ_0 _ _ h];omega
  by_cases h1:k=1
  · subst h1;rw [arZ_1 _ _ h];omega
  by_cases h7:k=7
  · subst h7;rw [arZ_7 _ _ h];rw [tokB_7] at h;simp at h;omega
  · rw [arZ_op _ _ _ h h0 h1 h7];omega
theorem noName_of (s:ByteArray) (h:s.size=0):noName s=true:=by simp [noName,h]
theorem noName_not (s:ByteArray) (h:s.size≠0):noName s=false:=by simp [noName,h]
theorem empty_yes (s:ByteArray) (h:s.size=0):s=⟨#[]⟩:=bl_eq (List.length_eq_zero_iff.1 (by rw [list_len];exact h))
theorem empty_no (s:ByteArray) (h:s.size≠0):s.toList.isEmpty=false:=by
  rw [ByteArray.toList_eq]
  cases hc:s.data.toList with
  | nil=>exact absurd (by rw [← list_len,hc];rfl) h
  | cons a b=>rfl
theorem ret_b {a b:Bool} (h:a=b):Ending.returned (.bool a)=.returned (.bool b):=by rw [h]
end Go.Proofs.YtcflojdkaddemaaGreatDoor
namespace Go.Proofs.YtcflojdkaddemaaGreatDoor
open Go.RowKit Go.Lib
def cutF (s:ByteArray) (b i:Nat):List ByteArray:=if b<i then [s.extract b i] else []
def sp (s:ByteArray):Nat→List ByteArray×Nat
  | 0=>([],0)
  | i+1=>if (s.data.toList[i]?).getD 32=32 then ((sp s i).1++cutF s (sp s i).2 i,i+1) else sp s i
def strV (l:List ByteArray):List Value:=l.map Value.string
theorem strV_length (l:List ByteArray):(strV l).length=l.length:=by simp [strV]
theorem strV_append (a b:List ByteArray):strV (a++b)=strV a++strV b:=by simp [strV]
theorem owns_strs {B e m:Nat} {w:World} {v:Value} {xs:List Value} {l:List ByteArray} (h:w.ownsRow B e 1 v m xs) (hl:strV l=xs):w.ownsRow B e 1 v l.length (strV l):=by
  have hm:m=l.length:=by have:=h.1;rw [← hl,strV_length] at this;omega
  rw [← hm,hl];exact h
theorem owns_shape {B T n:Nat} {w:World} {v:Value} {xs:List Value} (h:w.ownsRow B T 1 v n xs):∃ a c,v=.slice a n c:=by
  rcases h.2 with ⟨rfl,rfl⟩|⟨g,cap,cur,rfl,_⟩
  · exact ⟨_,_,rfl⟩
  · exact ⟨_,_,rfl⟩
theorem owns_below {B T n:Nat} {w w':World} {v:Value} {xs:List Value} (h:w.ownsRow B T 1 v n xs) (hb:Below w.heap.size w w'):w'.ownsRow B T 1 v n xs :=
  h.kept (row:=none) ⟨hb.os,hb.tape,hb.output,hb.size,fun j hj _=>hb.block j hj⟩ (by
    cases v.ownBlock with
    | none=>exact .inl rfl
    | some x=>exact .inr (by simp))
end Go.Proofs.YtcflojdkaddemaaGreatDoor
namespace Go.Proofs.YtcflojdkaddemaaGreatDoor
open Go.RowKit Go.Lib
def toksV (l:List TokL):List Value:=l.flatMap tokV
theorem tokV_length (t:TokL):(tokV t).length=3:=rfl
theorem toksV_length (l:List TokL):(toksV l).length=l.length*3:=by
  induction l with
  | nil=>rfl
  | cons t r ih=>simp only [toksV,List.flatMap_cons,List.length_append,tokV_length,List.length_cons] at ih ⊢;omega
theorem toksV_append (a b:List TokL):toksV (a++b)=toksV a++toksV b:=by simp [toksV]
theorem toksV_one (t:TokL):toksV [t]=tokV t:=by simp [toksV]
theorem toksV_get (l:List TokL) (j i:Nat) (h:j<l.length) (hi:i<3):(toksV l)[j*3+i]?=(tokV l[j])[i]?:=by
  induction l generalizing j with
  | nil=>simp at h
  | cons t r ih =>
    cases j with
    | zero =>
      simp only [toksV,List.flatMap_cons,Nat.zero_mul,Nat.zero_add,List.getElem_cons_zero];rw [List.getElem?_append_left (by rw [tokV_length];exact hi)]
    | succ j =>
      have e:(j+1)*3+i=3+(j*3+i):=by omega
      simp only [toksV,List.flatMap_cons,List.getElem_cons_succ] at ih ⊢;rw [e,List.getElem?_append_right (by rw [tokV_length];omega),tokV_length,Nat.add_sub_cancel_left];exact ih j (by simpa using h)
def ReadT (w:World) (a:Option Addr) (l:List TokL):Prop :=
  ∀ j (h:j<l.length),∃ g,a=some ⟨g,0,none⟩∧g<w.heap.size∧w.cell? ⟨g,j*3,none⟩=some (.int .i64 l[j].kind)∧w.cell? ⟨g,j*3+1,none⟩=some (.int .i64 l[j].num)∧w.cell? ⟨g,j*3+2,none⟩=some (.string l[j].name)
theorem readT_of {B T c:Nat} {w:World} {a:Option Addr} {l:List TokL} (h:w.ownsRow B T 3 (.slice a l.length c) l.length (toksV l)):ReadT w a l:=by
  intro j hj
  rcases h.2 with ⟨he,h0⟩|⟨g,cap,cur,he,hB,hg,_⟩
  · omega
  · have ha:a=some ⟨g,0,none⟩:=by injection he
    subst ha;have hlt:g<w.heap.size:=by
      rcases Nat.lt_or_ge g w.heap.size with h|h
      · exact h
      · rw [Array.getElem?_eq_none h] at hg;cases hg
    refine ⟨g,rfl,hlt,?_,?_,?_⟩
    · rw [h.cellAt _ (by omega)];exact toksV_get l j 0 hj (by omega)
    · rw [h.cellAt _ (by omega)];exact toksV_get l j 1 hj (by omega)
    · rw [h.cellAt _ (by omega)];exact toksV_get l j 2 hj (by omega)
theorem ReadT.below {w w':World} {a:Option Addr} {l:List TokL} (h:ReadT w a l) (hb:Below w.heap.size w w'):ReadT w' a l:=by
  intro j hj;obtain ⟨g,e,hg,c0,c1,c2⟩:=h j hj;exact ⟨g,e,Nat.lt_of_lt_of_le hg hb.size,(hb.cell (p:=⟨g,_,none⟩) hg).trans c0,(hb.cell (p:=⟨g,_,none⟩) hg).trans c1,(hb.cell (p:=⟨g,_,none⟩) hg).trans c2⟩
theorem ReadT.drewN {w:World} {a:Option Addr} {l:List TokL} (h:ReadT w a l) (n:Nat):ReadT (w.drewN n) a l:=h
theorem owns3_shape {B T n s:Nat} {w:World} {v:Value} {xs:List Value} (h:w.ownsRow B T s v n xs):∃ a c,v=.slice a n c:=by
  rcases h.2 with ⟨rfl,rfl⟩|⟨g,cap,cur,rfl,_⟩
  · exact ⟨_,_,rfl⟩
  · exact ⟨_,_,rfl⟩
theorem owns3_below {B T n s:Nat} {w w':World} {v:Value} {xs:List Value} (h:w.ownsRow B T s v n xs) (hb:Below w.heap.size w w'):w'.ownsRow B T s v n xs :=
  h.kept (row:=none) ⟨hb.os,hb.tape,hb.output,hb.size,fun j hj _=>hb.block j hj⟩ (by
    cases v.ownBlock with
    | none=>exact .inl rfl
    | some x=>exact .inr (by simp))
theorem owns_toks {B e m:Nat} {w:World} {v:Value} {xs:List Value} {l:List TokL} (h:w.ownsRow B e 3 v m xs) (hl:toksV l=xs):w.ownsRow B e 3 v l.length (toksV l):=by
  have hm:m=l.length:=by have:=h.1;rw [← hl,toksV_length] at this;omega
  rw [← hm,hl];exact h
theorem grown_of_below {w w':World} (hb:Below w.heap.size w w') (row:Option Nat):w.grownBy w' row:=⟨hb.os,hb.tape,hb.output,hb.size,fun j hj _=>hb.block j hj⟩
def Toks (T B:Nat) (l:List TokL) (w:World) (e:Ending) (w':World):Prop :=
  ∃ v,e=.returned v∧w'.ownsRow B T 3 v l.length (toksV l)∧Below w.heap.size w w'
end Go.Proofs.YtcflojdkaddemaaGreatDoor
namespace Go.Proofs.YtcflojdkaddemaaGreatDoor
open Go.RowKit Go.Lib
def scanN:List TokL→Nat→Option Nat
  | _,0=>some 0
  | [],_+1=>none
  | t :: r,n+1=>if tokB t=true then (scanN r (n+(arZ t).toNat)).map (·+1) else none
def resZ (o:Option Nat) (i:Nat):Int:=match o with
  | none=>-1
  | some k=>(i:Int)+(k:Int)
def endZ (l:List TokL) (a:Int):Int:=if a<0 then -1 else resZ (scanN (l.drop a.toNat) 1) a.toNat
theorem scan_zero (l:List TokL) (i:Nat):resZ (scanN l 0) i=i:=by cases l <;> simp [scanN,resZ]
theorem scan_out (l:List TokL) (i n:Nat) (h:l.length≤i) (hn:0<n):resZ (scanN (l.drop i) n) i=-1:=by
  rw [List.drop_eq_nil_of_le h]
  cases n with
  | zero=>omega
  | succ n=>rfl
theorem scan_bad (l:List TokL) (i n:Nat) (h:i<l.length) (hn:0<n) (hb:tokB l[i]=false):resZ (scanN (l.drop i) n) i=-1:=by
  rw [List.drop_eq_getElem_cons h]
  cases n with
  | zero=>omega
  | succ n=>simp only [scanN];rw [hb];rfl
theorem scan_ok (l:List TokL) (i n:Nat) (h:i<l.length) (hn:0<n) (hb:tokB l[i]=true):resZ (scanN (l.drop i) n) i=resZ (scanN (l.drop (i+1)) (n - 1+(arZ l[i]).toNat)) (i+1):=by
  rw [List.drop_eq_getElem_cons h]
  cases n with
  | zero=>omega
  | succ n =>
    simp only [scanN];rw [if_pos hb,Nat.add_sub_cancel]
    cases scanN (l.drop (i+1)) (n+(arZ l[i]).toNat) with
    | none=>rfl
    | some k=>simp only [Option.map_some,resZ];omega
theorem scan_len (l:List TokL):∀ (n k:Nat),scanN l n=some k→k≤l.length:=by
  induction l with
  | nil =>
    intro n k h
    cases n with
    | zero=>simp only [scanN,Option.some.injEq] at h;omega
    | succ n=>simp [scanN] at h
  | cons t r ih =>
    intro n k h
    cases n with
    | zero=>simp only [scanN,Option.some.injEq] at h;omega
    | succ n =>
      simp only [scanN] at h
      split at h
      · simp only [Option.map_eq_some_iff] at h
        obtain ⟨m,hm,rfl⟩:=h
        have:=ih _ _ hm
        simp;omega
      · cases h
theorem endZ_neg (l:List TokL) (a:Int) (h:a<0):endZ l a=-1:=by unfold endZ;rw [if_pos h]
theorem endZ_nat (l:List TokL) (i:Nat):endZ l (i:Int)=resZ (scanN (l.drop i) 1) i:=by unfold endZ;rw [if_neg (by omega)];simp
theorem endZ_bd (l:List TokL) (a:Int):-1≤endZ l a∧(endZ l a=-1∨(0≤a∧a<endZ l a∧endZ l a≤l.length)):=by
  by_cases h:a<0
  · rw [endZ_neg l a h];omega
  obtain ⟨i,rfl⟩:=Int.eq_ofNat_of_zero_le (by omega:0≤a);rw [endZ_nat]
  cases hs:scanN (l.drop i) 1 with
  | none=>simp [resZ]
  | some k =>
    have h1:=scan_len _ _ _ hs;have h2:0<k:=by
      rcases Nat.eq_zero_or_pos k with h0|h0
      · subst h0
        cases hd:l.drop i with
        | nil=>rw [hd] at hs;simp [scanN] at hs
        | cons t r =>
          rw [hd] at hs;simp only [scanN] at hs
          split at hs
          · simp at hs
          · cases hs
      · exact h0
    simp only [resZ];rw [List.length_drop] at h1;omega
def exprB (l:List TokL):Bool:=decide (l.length≤20)&&decide (endZ l 0=(l.length:Int))
end Go.Proofs.YtcflojdkaddemaaGreatDoor
namespace Go.Proofs.YtcflojdkaddemaaGreatDoor
open Go.RowKit Go.Lib
end Go.Proofs.YtcflojdkaddemaaGreatDoor
namespace Go.Proofs.YtcflojdkaddemaaGreatDoor
open Go.RowKit Go.Lib
end Go.Proofs.YtcflojdkaddemaaGreatDoor
namespace Go.Proofs.YtcflojdkaddemaaGreatDoor
open Go.RowKit Go.Lib
theorem tok_0 (n:Int) (s:ByteArray) (h:tokB ⟨0,n,s⟩=true):0≤n∧n≤999∧s.size=0:=by rw [tokB_0] at h;simpa [noName] using h
theorem tok_1 (n:Int) (s:ByteArray) (h:tokB ⟨1,n,s⟩=true):n=0∧nameB s=true:=by rw [tokB_1] at h;simpa using h
theorem tok_7 (n:Int) (s:ByteArray) (h:tokB ⟨7,n,s⟩=true):0≤n∧n≤4∧nameB s=true:=by rw [tokB_7] at h;simpa using h
theorem tok_op (k n:Int) (s:ByteArray) (h:tokB ⟨k,n,s⟩=true) (h0:k≠0) (h1:k≠1) (h7:k≠7):2≤k∧k≤6∧n=0∧s.size=0:=by rw [tokB_op k n s h0 h1 h7] at h;simpa [noName] using h
end Go.Proofs.YtcflojdkaddemaaGreatDoor
namespace Go.Proofs.YtcflojdkaddemaaGreatDoor
open Go.RowKit Go.Lib
theorem empty_of (s:ByteArray) (h:s.size=0):s=⟨#[]⟩:=empty_yes s h
end Go.Proofs.YtcflojdkaddemaaGreatDoor
namespace Go.Proofs.YtcflojdkaddemaaGreatDoor
open Go.RowKit Go.Lib
theorem expr_len (l:List TokL) (h:exprB l=true):0<l.length∧l.length≤20:=by
  refine ⟨?_,?_⟩
  · cases l with
    | nil=>exact absurd h (by decide)
    | cons a b=>simp
  · unfold exprB at h
    rw [Bool.and_eq_true,decide_eq_true_eq] at h;exact h.1
end Go.Proofs.YtcflojdkaddemaaGreatDoor
namespace Go.Proofs.YtcflojdkaddemaaGreatDoor
open Go.RowKit Go.Lib
theorem tok_name (t:TokL) (h:tokB t=true):t.name.size≤8:=by
  obtain ⟨k,n,s⟩:=t
  by_cases h0:k=0
  · subst h0;have:=tok_0 _ _ h;show s.size≤8;omega
  by_cases h1:k=1
  · subst h1;exact (nameB_size s (tok_1 _ _ h).2).2.1
  by_cases h7:k=7
  · subst h7;exact (nameB_size s (tok_7 _ _ h).2.2).2.1
  · have:=tok_op _ _ _ h h0 h1 h7;show s.size≤8;omega
end Go.Proofs.YtcflojdkaddemaaGreatDoor
namespace Go.Proofs.YtcflojdkaddemaaGreatDoor
open Go.RowKit Go.Lib
def intV (l:List Int):List Value:=l.map (Value.int .i64)
theorem intV_length (l:List Int):(intV l).length=l.length:=by simp [intV]
theorem intV_append (a b:List Int):intV (a++b)=intV a++intV b:=by simp [intV]
theorem owns_ints {B e m:Nat} {w:World} {v:Value} {xs:List Value} {l:List Int} (h:w.ownsRow B e 1 v m xs) (hl:intV l=xs):w.ownsRow B e 1 v l.length (intV l):=by
  have hm:m=l.length:=by have:=h.1;rw [← hl,intV_length] at this;omega
  rw [← hm,hl];exact h
def ReadI (w:World) (a:Option Addr) (l:List Int):Prop:=∀ j (h:j<l.length),∃ g,a=some ⟨g,0,none⟩∧g<w.heap.size∧w.cell? ⟨g,j,none⟩=some (.int .i64 l[j])
theorem readI_of {B T c:Nat} {w:World} {a:Option Addr} {l:List Int} (h:w.ownsRow B T 1 (.slice a l.length c) l.length (intV l)):ReadI w a l:=by
  intro j hj
  rcases h.2 with ⟨he,h0⟩|⟨g,cap,cur,he,hB,hg,_⟩
  · omega
  · have ha:a=some ⟨g,0,none⟩:=by injection he
    subst ha;have hlt:g<w.heap.size:=by
      rcases Nat.lt_or_ge g w.heap.size with h|h
      · exact h
      · rw [Array.getElem?_eq_none h] at hg;cases hg
    refine ⟨g,rfl,hlt,?_⟩;rw [h.cellAt j (by omega)];simp [intV,hj]
theorem ReadI.below {w w':World} {a:Option Addr} {l:List Int} (h:ReadI w a l) (hb:Below w.heap.size w w'):ReadI w' a l:=by
  intro j hj;obtain ⟨g,e,hg,c0⟩:=h j hj;exact ⟨g,e,Nat.lt_of_lt_of_le hg hb.size,(hb.cell (p:=⟨g,_,none⟩) hg).trans c0⟩
def Ints (T B:Nat) (l:List Int) (w:World) (e:Ending) (w':World):Prop :=
  ∃ v,e=.returned v∧w'.ownsRow B T 1 v l.length (intV l)∧Below w.heap.size w w'
def opsFrom (l:List TokL):Nat→Int→List Int
  | 0,_=>[]
  | k+1,b=>b :: opsFrom l k (endZ l b)
theorem opsFrom_length (l:List TokL):∀ (k:Nat) (b:Int),(opsFrom l k b).length=k:=by
  intro k
  induction k with
  | zero=>intro b;rfl
  | succ k ih=>intro b;simp [opsFrom,ih]
def arAt (l:List TokL) (b:Int):Nat:=if h:b.toNat<l.length then (arZ l[b.toNat]).toNat else 0
def opsZ (l:List TokL) (b:Int):List Int:=if endZ l b<0 then [] else opsFrom l (arAt l b) (b+1)
theorem opsZ_none (l:List TokL) (b:Int) (h:endZ l b<0):opsZ l b=[]:=by unfold opsZ;rw [if_pos h]
theorem opsZ_some (l:List TokL) (i:Nat) (h:¬ endZ l (i:Int)<0) (hi:i<l.length) (r:Nat) (hr:arZ l[i]=(r:Int)):opsZ l (i:Int)=opsFrom l r ((i:Int)+1):=by
  unfold opsZ arAt;rw [if_neg h,Int.toNat_natCast,dif_pos hi,hr];rfl
theorem endZ_tok (l:List TokL) (i:Nat) (h:¬ endZ l (i:Int)<0):∃ hi:i<l.length,tokB l[i]=true:=by
  by_cases hi:i<l.length
  · refine ⟨hi,?_⟩
    cases hb:tokB l[i] with
    | true=>rfl
    | false=>rw [endZ_nat,scan_bad l i 1 hi (by omega) hb] at h;omega
  · rw [endZ_nat,scan_out l i 1 (by omega) (by omega)] at h;omega
end Go.Proofs.YtcflojdkaddemaaGreatDoor
namespace Go.Proofs.YtcflojdkaddemaaGreatDoor
open Go.RowKit Go.Lib
def ReadS (w:World) (a:Option Addr) (l:List ByteArray):Prop:=∀ j (h:j<l.length),∃ g,a=some ⟨g,0,none⟩∧w.cell? ⟨g,j,none⟩=some (.string l[j])
theorem reads_of {B T c:Nat} {w:World} {a:Option Addr} {l:List ByteArray} (h:w.ownsRow B T 1 (.slice a l.length c) l.length (strV l)):ReadS w a l:=by
  intro j hj
  rcases h.2 with ⟨he,h0⟩|⟨g,cap,cur,he,_⟩
  · omega
  · have ha:a=some ⟨g,0,none⟩:=by injection he
    subst ha;refine ⟨g,rfl,?_⟩;rw [h.cellAt j (by omega)];simp [strV,hj]
end Go.Proofs.YtcflojdkaddemaaGreatDoor
namespace Go.Proofs.YtcflojdkaddemaaGreatDoor
open Go.RowKit Go.Lib
def oneL (cur:List UInt8):List (List UInt8):=if cur=[] then [] else [cur]
def fl (cur:List UInt8):List UInt8→List (List UInt8)
  | []=>oneL cur
  | c :: r=>if c=32 then oneL cur++fl [] r else fl (cur++[c]) r
theorem ext_toList (s:ByteArray) (b i:Nat):(s.extract b i).data.toList=(s.data.toList.drop b).take (i - b):=by rw [extract_data]
end Go.Proofs.YtcflojdkaddemaaGreatDoor
namespace Go.Proofs.YtcflojdkaddemaaGreatDoor
open Go.RowKit Go.Lib Go.ChangeShapes Go.WideShapes Go.Deep
section
variable {H:Type} {enc:TypeId×Value→H} {P:Program} {w:World} {base:Nat} {spare:Nat→Bool} {held:Bool}
end
end Go.Proofs.YtcflojdkaddemaaGreatDoor
