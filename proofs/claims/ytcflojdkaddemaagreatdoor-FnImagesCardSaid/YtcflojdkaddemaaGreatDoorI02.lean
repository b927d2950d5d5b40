/- Parts of the proof. -/
import Derived.Test.YtcflojdkaddemaaGreatDoorI01
namespace Go.Proofs.YtcflojdkaddemaaGreatDoor
open Go.RowKit Go.Lib
def isOp (k:Int):Bool:=k == 0 || k == 3 || k == 5
def opn (k:Int):Int:=if isOp k then 1 else if k=7 then -1 else 0
theorem opn_cases (k:Int):(opn k=1∧isOp k=true)∨(opn k=-1∧k=7)∨(opn k=0∧isOp k=false∧k≠7):=by
 unfold opn
 by_cases h:isOp k=true
 ·exact .inl ⟨by rw [if_pos h],h⟩
 ·rw [if_neg h]
  by_cases h7:k=7
  ·exact .inr (.inl ⟨by rw [if_pos h7],h7⟩)
  ·exact .inr (.inr ⟨by rw [if_neg h7],by simpa using h,h7⟩)
def endF (o:Int) (i:Nat):List PLine→Int
 | []=>-1
 | x :: r=>if o+opn x.kind=0 then (i:Int) else endF (o+opn x.kind) (i+1) r
def lkZ (p:List PLine) (k:Int):Int:=if k<0 then -1 else match p[k.toNat]? with
 | none=>-1
 | some x=>x.kind
def beZ (p:List PLine) (k:Int):Int:=if 0≤k∧k.toNat<p.length∧isOp (lkZ p k)=true then endF 0 k.toNat (p.drop k.toNat) else -1
theorem lkZ_at (p:List PLine) (k:Nat) (h:k<p.length):lkZ p (k:Int)=p[k].kind:=by
 unfold lkZ;rw [if_neg (by omega),Int.toNat_natCast,List.getElem?_eq_getElem h]
theorem endF_at (p:List PLine) (o:Int) (i:Nat) (h:i<p.length):endF o i (p.drop i)=if o+opn p[i].kind=0 then (i:Int) else endF (o+opn p[i].kind) (i+1) (p.drop (i+1)):=by
 rw [List.drop_eq_getElem_cons h];rfl
theorem endF_out (p:List PLine) (o:Int) (i:Nat) (h:p.length≤i):endF o i (p.drop i)=-1:=by
 rw [List.drop_of_length_le h];rfl
theorem endF_ge (l:List PLine):∀ o i,endF o i l=-1∨((i:Int)≤endF o i l∧endF o i l<(i:Int)+(l.length:Int)):=by
 induction l with
 | nil=>intro o i;exact .inl rfl
 | cons x r ih =>
  intro o i;unfold endF
  split
  ·exact .inr ⟨Int.le_refl _,by rw [List.length_cons];omega⟩
  ·rcases ih (o+opn x.kind) (i+1) with h|h
   ·exact .inl h
   ·refine .inr ⟨by omega,?_⟩
    rw [List.length_cons];omega
theorem endF_in (l:List PLine):∀ (o c:Int) (i:Nat),1≤o→1≤c→0≤endF (o+c) i l→(i:Int)≤endF c i l∧endF c i l<endF (o+c) i l:=by
 induction l with
 | nil=>intro o c i _ _ h;simp [endF] at h
 | cons x r ih =>
  intro o c i ho hc h;have hd:=opn_cases x.kind;have e1:endF (o+c) i (x :: r)=endF (o+c+opn x.kind) (i+1) r:=by
   rw [endF,if_neg (by omega)]
  rw [e1] at h ⊢
  by_cases h0:c+opn x.kind=0
  ·have e2:endF c i (x :: r)=(i:Int):=by rw [endF,if_pos h0]
   rw [e2];refine ⟨Int.le_refl _,?_⟩
   rcases endF_ge r (o+c+opn x.kind) (i+1) with h'|h'
   ·omega
   ·omega
  ·have e2:endF c i (x :: r)=endF (c+opn x.kind) (i+1) r:=by rw [endF,if_neg h0]
   rw [e2];have e3:o+c+opn x.kind=o+(c+opn x.kind):=by omega
   rw [e3] at h ⊢
   have:=ih o (c+opn x.kind) (i+1) ho (by omega) h
   omega
theorem endF_open (p:List PLine) (i d:Nat):∀ (o:Int),1≤o→0≤endF o i (p.drop i)→((i+d:Nat):Int)≤endF o i (p.drop i)→∃ o',1≤o'∧endF o' (i+d) (p.drop (i+d))=endF o i (p.drop i):=by
 induction d with
 | zero=>intro o ho h _;exact ⟨o,ho,rfl⟩
 | succ d ih =>
  intro o ho h hd;obtain ⟨o',ho',he⟩:=ih o ho h (by omega);have hlt:i+d<p.length:=by
   rcases Nat.lt_or_ge (i+d) p.length with hl|hl
   ·exact hl
   ·rw [endF_out p o' _ hl] at he;omega
  rw [endF_at p o' _ hlt] at he;have hc:=opn_cases p[i+d].kind
  by_cases h0:o'+opn p[i+d].kind=0
  ·rw [if_pos h0] at he;omega
  ·rw [if_neg h0] at he
   exact ⟨_,by omega,he⟩
theorem beZ_not (p:List PLine) (k:Int) (h:¬(0≤k∧k.toNat<p.length∧isOp (lkZ p k)=true)):beZ p k=-1:=by
 unfold beZ;rw [if_neg h]
theorem beZ_at (p:List PLine) (k:Nat) (hl:k<p.length) (hk:isOp p[k].kind=true):beZ p (k:Int)=endF 1 (k+1) (p.drop (k+1)):=by
 unfold beZ;rw [if_pos ⟨by omega,by simpa using hl,by rw [lkZ_at p k hl];exact hk⟩,Int.toNat_natCast,endF_at p 0 k hl]
 have:opn p[k].kind=1:=by unfold opn;rw [if_pos hk]
 rw [this,if_neg (by decide)];rfl
theorem beZ_is (p:List PLine) (k:Int) (h:0≤beZ p k):∃ j:Nat,k=(j:Int)∧∃ hj:j<p.length,isOp p[j].kind=true∧(j:Int)<beZ p k∧beZ p k<(p.length:Int):=by
 by_cases hc:0≤k∧k.toNat<p.length∧isOp (lkZ p k)=true
 ·obtain ⟨h0,h1,h2⟩:=hc
  obtain ⟨j,rfl⟩:=Int.eq_ofNat_of_zero_le h0;have hj:j<p.length:=by simpa using h1
  rw [lkZ_at p j hj] at h2;refine ⟨j,rfl,hj,h2,?_⟩;rw [beZ_at p j hj h2] at h ⊢
  rcases endF_ge (p.drop (j+1)) 1 (j+1) with h'|h'
  ·omega
  ·rw [List.length_drop] at h'
   omega
 ·rw [beZ_not p k hc] at h;exact absurd h (by decide)
theorem beZ_lt (p:List PLine) (k:Int):-1≤beZ p k∧beZ p k<(p.length:Int):=by
 by_cases h:0≤beZ p k
 ·obtain ⟨j,_,_,_,h1,h2⟩:=beZ_is p k h
  omega
 ·by_cases hc:0≤k∧k.toNat<p.length∧isOp (lkZ p k)=true
  ·unfold beZ at h ⊢
   rw [if_pos hc] at h ⊢
   rcases endF_ge (p.drop k.toNat) 0 k.toNat with h'|h'
   ·omega
   ·omega
  ·rw [beZ_not p k hc];omega
theorem beZ_in (p:List PLine) (k:Int) (i:Nat) (h:0≤beZ p k) (hk:k<(i:Int)) (hi:(i:Int)<beZ p k) (hl:i<p.length) (ho:isOp p[i].kind=true):(i:Int)<beZ p (i:Int)∧beZ p (i:Int)<beZ p k:=by
 obtain ⟨j,rfl,hj,hop,_,_⟩:=beZ_is p k h;rw [beZ_at p j hj hop] at h hi ⊢;rw [beZ_at p i hl ho];obtain ⟨d,rfl⟩:∃ d,i=j+1+d:=⟨i - (j+1),by omega⟩;obtain ⟨o,ho1,he⟩:=endF_open p (j+1) d 1 (by decide) h (by omega);rw [endF_at p o _ hl] at he;have h1:opn p[j+1+d].kind=1:=by unfold opn;rw [if_pos ho]
 rw [h1,if_neg (by omega)] at he;rw [← he] at h ⊢
 have:=endF_in (p.drop (j+1+d+1)) o 1 (j+1+d+1) ho1 (by decide) h
 omega
def elseF (p:List PLine) (e:Int):Nat→Nat→Int
 | 0,_=>-1
 | f+1,i=>if e≤(i:Int) then -1 else if lkZ p i=4 then (i:Int) else if lkZ p i=3∨lkZ p i=5 then elseF p e f ((beZ p i).toNat+1) else elseF p e f (i+1)
def elseZ (p:List PLine) (k:Int):Int:=if 0≤beZ p k∧lkZ p k=3 then elseF p (beZ p k) p.length (k.toNat+1) else -1
theorem elseF_out (p:List PLine) (e:Int) (f i:Nat) (h:e≤(i:Int)):elseF p e f i=-1:=by
 cases f with
 | zero=>rfl
 | succ f=>rw [elseF,if_pos h]
theorem elseF_lt (p:List PLine) (e:Int):∀ (f i:Nat),elseF p e f i=-1∨elseF p e f i<e:=by
 intro f
 induction f with
 | zero=>intro i;exact .inl rfl
 | succ f ih =>
  intro i;rw [elseF]
  split
  ·exact .inl rfl
  ·split
   ·exact .inr (by omega)
   ·split
    ·exact ih _
    ·exact ih _
theorem elseZ_lt (p:List PLine) (k:Int) (h:0≤elseZ p k):elseZ p k<beZ p k:=by
 unfold elseZ at h ⊢
 split at h
 ·rename_i hc
  rw [if_pos hc]
  rcases elseF_lt p (beZ p k) p.length (k.toNat+1) with h'|h'
  ·rw [h'] at h;exact absurd h (by decide)
  ·exact h'
 ·exact absurd h (by decide)
def funF (i:Nat):List PLine→List Nat
 | []=>[]
 | x :: r=>if x.kind=0 then i :: funF (i+1) r else funF (i+1) r
def funs (p:List PLine):List Nat:=funF 0 p
def findF (n:ByteArray) (i:Nat):List PLine→Int
 | []=>-1
 | x :: r=>if x.kind=0∧x.name=n then (i:Int) else findF n (i+1) r
def findZ (p:List PLine) (n:ByteArray):Int:=findF n 0 p
def locF (v:List ByteArray):List PLine→List ByteArray
 | []=>v
 | x :: r=>if x.kind=1∧memB v x.name=false then locF (v++[x.name]) r else locF v r
def argsZ (p:List PLine) (k:Int):List ByteArray:=if k<0 then [] else match p[k.toNat]? with
 | none=>[]
 | some x=>x.args
def locZ (p:List PLine) (k:Int):List ByteArray:=if 0≤beZ p k∧lkZ p k=0 then locF (argsZ p k) ((p.drop k.toNat).take ((beZ p k).toNat - k.toNat)) else []
theorem funF_app (a:List PLine):∀ i b,funF i (a++b)=funF i a++funF (i+a.length) b:=by
 induction a with
 | nil=>intro i b;rfl
 | cons x r ih =>
  intro i b;simp only [List.cons_append,funF,List.length_cons];rw [ih,show i+1+r.length=i+(r.length+1) from by omega]
  split <;> rfl
theorem funs_snoc (p:List PLine) (k:Nat) (h:k<p.length):funs (p.take (k+1))=if p[k].kind=0 then funs (p.take k)++[k] else funs (p.take k):=by
 unfold funs;rw [List.take_succ_eq_append_getElem h,funF_app,List.length_take,Nat.zero_add,show min k p.length=k from by omega];simp only [funF]
 split
 ·rfl
 ·rw [List.append_nil]
theorem findF_at (p:List PLine) (n:ByteArray) (i:Nat) (h:i<p.length):findF n i (p.drop i)=if p[i].kind=0∧p[i].name=n then (i:Int) else findF n (i+1) (p.drop (i+1)):=by
 rw [List.drop_eq_getElem_cons h];rfl
theorem findF_out (p:List PLine) (n:ByteArray) (i:Nat) (h:p.length≤i):findF n i (p.drop i)=-1:=by
 rw [List.drop_of_length_le h];rfl
end Go.Proofs.YtcflojdkaddemaaGreatDoor

namespace Go.Proofs.YtcflojdkaddemaaGreatDoor
open Go.RowKit Go.Lib
def mainT:ByteArray:=⟨#[109,97,105,110]⟩
def knownP (p:List PLine) (v:List ByteArray) (t:TokL):Prop:=(t.kind=1→t.name ∈ v)∧(t.kind=7→0≤findZ p t.name∧((argsZ p (findZ p t.name)).length:Int)=t.num)
def followF (p:List PLine) (n:Int):List Nat→Prop
 | []=>n=(p.length:Int)
 | k :: r=>(k:Int)=n∧0≤beZ p k∧followF p (beZ p k+1) r
def nestF (o:Int):List PLine→Prop
 | []=>True
 | x :: r=>o+opn x.kind≤5∧nestF (o+opn x.kind) r
def elsesF (p:List PLine) (i:Nat):List PLine→Prop
 | []=>True
 | x :: r=>(x.kind=4→∃ j:Nat,j<i∧elseZ p j=(i:Int))∧elsesF p (i+1) r
def segZ (p:List PLine) (a e:Nat):List PLine:=(p.drop a).take (e - a)
def namesAt (p:List PLine) (k:Nat):Prop:=(locZ p k).length≤8∧∀ x ∈ segZ p k (beZ p k).toNat,∀ t ∈ x.expr,knownP p (locZ p k) t
def OkI (p:List PLine):Prop :=
 (p.length≤60∧∀ x ∈ p,lineB x=true) ∧
 ((funs p).length≤6∧findZ p mainT=0∧argsZ p 0=[]∧∀ k ∈ funs p,∀ h:k<p.length,findZ p p[k].name=(k:Int)) ∧
 followF p 0 (funs p)∧nestF 0 p∧elsesF p 0 p∧∀ k ∈ funs p,namesAt p k
def bodyL (p:List PLine) (k:Nat) (v:List ByteArray) (d:Int) (i:Nat):List PLine→Prop
 | []=>True
 | x :: r=>(x.kind≠0∧(x.kind=4→∃ j:Nat,k≤j∧j<i∧elseZ p j=(i:Int))∧d+opn x.kind≤4∧∀ t ∈ x.expr,knownP p v t)∧bodyL p k v (d+opn x.kind) (i+1) r
def bodyOk (p:List PLine) (k:Nat):Prop:=(locZ p k).length≤8∧bodyL p k (locZ p k) 0 (k+1) (segZ p (k+1) (beZ p k).toNat)
def followS (p:List PLine):Nat→Nat→Prop
 | 0,_=>True
 | f+1,k=>if p.length≤k then True else lkZ p k=0∧0≤beZ p k∧bodyOk p k∧followS p f ((beZ p k).toNat+1)
def OkS (p:List PLine):Prop :=
 (∃ h:0<p.length,p.length≤60∧p[0].kind=0∧p[0].name=mainT∧p[0].args=[]∧(funs p).length≤6) ∧
 (∀ k,∀ h:k<p.length,lineB p[k]=true∧(p[k].kind=0→findZ p p[k].name=(k:Int)))∧followS p p.length 0
theorem funF_ge (l:List PLine):∀ i,∀ j ∈ funF i l,i≤j∧j<i+l.length:=by
 induction l with
 | nil=>intro i j h;simp [funF] at h
 | cons x r ih =>
  intro i j h;unfold funF at h;rw [List.length_cons]
  split at h
  ·rcases List.mem_cons.1 h with rfl|h
   ·omega
   ·have:=ih _ _ h;omega
  ·have:=ih _ _ h;omega
theorem funF_none (l:List PLine):∀ i,funF i l=[]↔∀ x ∈ l,x.kind≠0:=by
 induction l with
 | nil=>intro i;simp [funF]
 | cons x r ih =>
  intro i;unfold funF
  by_cases h:x.kind=0
  ·rw [if_pos h];simp [h]
  ·rw [if_neg h,ih];simp [h]
theorem followF_no (p:List PLine) (n:Int) (l:List Nat) (h:∀ j ∈ l,(j:Int)≠n) (hn:n≠(p.length:Int)):¬ followF p n l:=by
 cases l with
 | nil=>exact hn
 | cons k r=>intro hf;exact h k (List.mem_cons_self ..) hf.1
theorem seg_next (p:List PLine) (i e:Nat) (h:i<e) (hl:i<p.length):segZ p i e=p[i] :: segZ p (i+1) e:=by
 unfold segZ;rw [List.drop_eq_getElem_cons hl,show e - i=(e - (i+1))+1 from by omega,List.take_succ_cons]
theorem seg_end (p:List PLine) (e:Nat):segZ p e e=[]:=by unfold segZ;rw [Nat.sub_self,List.take_zero]
theorem seg_split (p:List PLine) (a e:Nat) (h:a≤e) (hl:e<p.length):p.drop a=segZ p a e++p[e] :: p.drop (e+1):=by
 have h1:=List.take_append_drop (e - a) (p.drop a);rw [List.drop_drop,show a+(e - a)=e from by omega,List.drop_eq_getElem_cons hl] at h1;exact h1.symm
theorem seg_length (p:List PLine) (a e:Nat) (h:a≤e) (hl:e≤p.length):(segZ p a e).length=e - a:=by
 unfold segZ;rw [List.length_take,List.length_drop];omega
theorem end_parts (S:List PLine) (y:PLine) (R:List PLine):∀ (o:Int) (i:Nat),1≤o→endF o i (S++y :: R)=((i+S.length:Nat):Int)→y.kind=7∧(nestF o (S++y :: R)↔nestF o S∧nestF 0 R):=by
 induction S with
 | nil =>
  intro o i ho he;rw [List.nil_append,endF] at he;have hc:=opn_cases y.kind
  by_cases h0:o+opn y.kind=0
  ·refine ⟨by omega,?_⟩
   simp only [List.nil_append,nestF,h0]
   simp
  ·rw [if_neg h0] at he
   rcases endF_ge R (o+opn y.kind) (i+1) with h|h
   ·rw [he] at h;simp at h <;> omega
   ·rw [he] at h;simp at h <;> omega
 | cons z S ih =>
  intro o i ho he;rw [List.cons_append,endF] at he;have hc:=opn_cases z.kind
  by_cases h0:o+opn z.kind=0
  ·rw [if_pos h0,List.length_cons] at he;omega
  ·rw [if_neg h0,List.length_cons] at he
   obtain ⟨h7,hn⟩:=ih (o+opn z.kind) (i+1) (by omega) (by rw [he];omega);refine ⟨h7,?_⟩;rw [List.cons_append,nestF,nestF,hn];exact and_assoc.symm
theorem body_iff (p:List PLine) (k:Nat) (v:List ByteArray) (hk:∀ j:Nat,j<k→beZ p j<(k:Int)) (S:List PLine):∀ (d:Int) (i:Nat),k≤i →
  (bodyL p k v d i S↔(∀ x ∈ S,x.kind≠0)∧nestF (d+1) S∧elsesF p i S∧∀ x ∈ S,∀ t ∈ x.expr,knownP p v t):=by
 induction S with
 | nil=>intro d i _;simp [bodyL,nestF,elsesF]
 | cons z S ih =>
  intro d i hi;have h1:(∃ j:Nat,k≤j∧j<i∧elseZ p j=(i:Int))↔∃ j:Nat,j<i∧elseZ p j=(i:Int):=by
   constructor
   ·rintro ⟨j,_,h⟩;exact ⟨j,h⟩
   ·rintro ⟨j,hj,he⟩
    refine ⟨j,?_,hj,he⟩
    rcases Nat.lt_or_ge j k with hjk|hjk
    ·have h2:=hk j hjk
     have h3:=elseZ_lt p j (by omega);omega
    ·exact hjk
  rw [bodyL,ih (d+opn z.kind) (i+1) (by omega),nestF,elsesF,h1,show d+opn z.kind+1=d+1+opn z.kind from by omega]
  constructor
  ·rintro ⟨⟨a,b,c,e⟩,f,g,h,q⟩
   refine ⟨?_,⟨by omega,g⟩,⟨b,h⟩,?_⟩
   ·intro x hx
    rcases List.mem_cons.1 hx with rfl|hx
    ·exact a
    ·exact f x hx
   ·intro x hx
    rcases List.mem_cons.1 hx with rfl|hx
    ·exact e
    ·exact q x hx
  ·rintro ⟨f,⟨c,g⟩,⟨b,h⟩,q⟩
   exact ⟨⟨f z (List.mem_cons_self ..),b,by omega,q z (List.mem_cons_self ..)⟩,fun x hx=>f x (List.mem_cons_of_mem _ hx),g,h,fun x hx=>q x (List.mem_cons_of_mem _ hx)⟩
theorem elsesF_app (p:List PLine) (a:List PLine):∀ i b,elsesF p i (a++b)↔elsesF p i a∧elsesF p (i+a.length) b:=by
 induction a with
 | nil=>intro i b;simp [elsesF]
 | cons x r ih =>
  intro i b;rw [List.cons_append,elsesF,elsesF,ih,List.length_cons,show i+1+r.length=i+(r.length+1) from by omega];exact and_assoc.symm
theorem fun_expr (x:PLine) (h:lineB x=true) (h0:x.kind=0):x.expr=[]:=by
 have:=((lineB_iff x).1 h).2.2.2
 rw [h0] at this;have hk:exprK 0=false:=by decide
 rw [hk] at this
 simpa [efB] using this
theorem seg_iff (p:List PLine) (hv:∀ x ∈ p,lineB x=true):∀ (f k:Nat),p.length≤k+f→k≤p.length→(∀ j:Nat,j<k→beZ p j<(k:Int)) →
  (followS p f k↔followF p k (funF k (p.drop k))∧nestF 0 (p.drop k)∧elsesF p k (p.drop k)∧∀ j ∈ funF k (p.drop k),namesAt p j):=by
 intro f
 induction f with
 | zero =>
  intro k h1 h2 _
  have:k=p.length:=by omega
  subst this;rw [List.drop_length];simp [followS,funF,followF,nestF,elsesF]
 | succ f ih =>
  intro k h1 h2 hend
  by_cases hk:p.length≤k
  ·have:k=p.length:=by omega
   subst this;rw [List.drop_length];simp [followS,funF,followF,nestF,elsesF]
  ·have hl:k<p.length:=by omega
   rw [followS,if_neg hk,lkZ_at p k hl]
   by_cases h0:p[k].kind=0
   ·have hop:isOp p[k].kind=true:=by rw [h0];rfl
    have hfun:funF k (p.drop k)=k :: funF (k+1) (p.drop (k+1)):=by
     rw [List.drop_eq_getElem_cons hl,funF,if_pos h0]
    rw [hfun,followF]
    by_cases he:0≤beZ p k
    ·obtain ⟨j,hj,hjl,_,hlt,hle⟩:=beZ_is p k he
     have hjk:j=k:=by omega
     subst hjk;obtain ⟨E,hE⟩:=Int.eq_ofNat_of_zero_le he;have hkE:j<E:=by omega
     have hEl:E<p.length:=by omega
     have hsplit:=seg_split p (j+1) E (by omega) hEl;have hend1:=beZ_at p j hl hop;have hslen:=seg_length p (j+1) E (by omega) (by omega);obtain ⟨S,hS⟩:∃ S,segZ p (j+1) E=S:=⟨_,rfl⟩;rw [hS] at hsplit hslen;have hpar:=end_parts S p[E] (p.drop (E+1)) 1 (j+1) (by decide) (by rw [← hsplit,← hend1,hE];omega);have hfS:funF (j+1) (p.drop (j+1))=funF (j+1) S++funF (E+1) (p.drop (E+1)):=by
      rw [hsplit,funF_app]
      congr 1
      rw [funF,if_neg (by rw [hpar.1];decide),hslen,show j+1+(E - (j+1))+1=E+1 from by omega]
     have hx:(p.drop j)=p[j] :: (S++p[E] :: p.drop (E+1)):=by rw [List.drop_eq_getElem_cons hl,hsplit]
     have hnest:nestF 0 (p.drop j)↔nestF 1 S∧nestF 0 (p.drop (E+1)):=by
      have h1:opn p[j].kind=1:=by unfold opn;rw [if_pos hop]
      rw [hx,nestF,h1,← hpar.2]
      simp
     have hels:elsesF p j (p.drop j)↔elsesF p (j+1) S∧elsesF p (E+1) (p.drop (E+1)):=by
      rw [hx,elsesF,elsesF_app,elsesF,hslen,show j+1+(E - (j+1))+1=E+1 from by omega]
      constructor
      ·rintro ⟨_,a,_,b⟩;exact ⟨a,b⟩
      ·rintro ⟨a,b⟩;exact ⟨fun h=>by rw [h0] at h;exact absurd h (by decide),a,fun h=>by rw [hpar.1] at h;exact absurd h (by decide),b⟩
     have hnm:namesAt p j↔(locZ p j).length≤8∧∀ x ∈ S,∀ t ∈ x.expr,knownP p (locZ p j) t:=by
      unfold namesAt;rw [hE,Int.toNat_natCast,seg_next p j E hkE hl,hS]
      constructor
      ·rintro ⟨a,b⟩;exact ⟨a,fun x hx=>b x (List.mem_cons_of_mem _ hx)⟩
      ·rintro ⟨a,b⟩
       refine ⟨a,fun x hx t ht=>?_⟩
       rcases List.mem_cons.1 hx with rfl|hx
       ·rw [fun_expr _ (hv _ (List.getElem_mem hl)) h0] at ht;cases ht
       ·exact b x hx t ht
     have hbody:bodyOk p j↔(locZ p j).length≤8∧(∀ x ∈ S,x.kind≠0)∧nestF 1 S∧elsesF p (j+1) S∧∀ x ∈ S,∀ t ∈ x.expr,knownP p (locZ p j) t:=by
      unfold bodyOk;rw [hE,Int.toNat_natCast,hS,body_iff p j _ hend S 0 (j+1) (by omega)];rfl
     have hIH:=ih (E+1) (by omega) (by omega) (fun i hi=>by
      rcases Nat.lt_or_ge i j with h|h
      ·have:=hend i h;omega
      ·by_cases hij:i=j
       ·subst hij;omega
       ·by_cases hiE:i=E
        ·subst hiE
         rw [beZ_not p i (fun h=>by
          have h3:=h.2.2;rw [lkZ_at p i hEl,hpar.1] at h3;exact absurd h3 (by decide))]
         omega
        ·by_cases hop':isOp p[i].kind=true
         ·have:=beZ_in p j i he (by omega) (by omega) (by omega) hop';omega
         ·rw [beZ_not p i (fun h=>hop' (by have h3:=h.2.2;rwa [lkZ_at p i (by omega)] at h3))]
          omega)
     rw [hfS,hnest,hels,hbody,hE,Int.toNat_natCast,hIH]
     by_cases hnone:∀ x ∈ S,x.kind≠0
     ·rw [(funF_none S (j+1)).2 hnone,List.nil_append]
      constructor
      ·rintro ⟨_,_,⟨a,b,c,d,g⟩,m,n,q,r⟩
       refine ⟨⟨rfl,by omega,m⟩,⟨c,n⟩,⟨d,q⟩,fun i hi=>?_⟩
       rcases List.mem_cons.1 hi with rfl|hi
       ·exact hnm.2 ⟨a,g⟩
       ·exact r i hi
      ·rintro ⟨⟨_,_,m⟩,⟨c,n⟩,⟨d,q⟩,r⟩
       have:=hnm.1 (r j (List.mem_cons_self ..))
       exact ⟨h0,by omega,⟨this.1,hnone,c,d,this.2⟩,m,n,q,fun i hi=>r i (List.mem_cons_of_mem _ hi)⟩
     ·constructor
      ·rintro ⟨_,_,⟨_,b,_⟩,_⟩;exact absurd b hnone
      ·rintro ⟨⟨_,_,m⟩,_⟩
       exfalso
       cases hq:funF (j+1) S with
       | nil=>exact hnone ((funF_none S (j+1)).1 hq)
       | cons i r =>
        rw [hq,List.cons_append,followF] at m
        have:=funF_ge S (j+1) i (by rw [hq];exact List.mem_cons_self ..)
        have:=m.1
        omega
    ·constructor
     ·rintro ⟨_,h,_⟩;exact absurd h he
     ·rintro ⟨⟨_,h,_⟩,_⟩;exact absurd h he
   ·constructor
    ·rintro ⟨h,_⟩;exact absurd h h0
    ·rintro ⟨h,_⟩
     refine absurd h (followF_no p k _ (fun j hj=>?_) (by omega));rw [List.drop_eq_getElem_cons hl,funF,if_neg h0] at hj
     have:=(funF_ge _ _ j hj).1
     omega
theorem funs_mem (l:List PLine):∀ i k,k ∈ funF i l↔∃ h:k - i<l.length,i≤k∧l[k - i].kind=0:=by
 induction l with
 | nil=>intro i k;simp [funF]
 | cons x r ih =>
  intro i k;have hr:(∃ h:k - (i+1)<r.length,i+1≤k∧r[k - (i+1)].kind=0)↔∃ h:k - i<(x :: r).length,i<k∧(x :: r)[k - i].kind=0:=by
   constructor
   ·rintro ⟨h,a,b⟩
    refine ⟨by rw [List.length_cons];omega,by omega,?_⟩
    have:k - i=(k - (i+1))+1:=by omega
    simp only [this,List.getElem_cons_succ];exact b
   ·rintro ⟨h,a,b⟩
    rw [List.length_cons] at h
    have:k - i=(k - (i+1))+1:=by omega
    simp only [this,List.getElem_cons_succ] at b;exact ⟨by omega,by omega,b⟩
  unfold funF
  by_cases h0:x.kind=0
  ·rw [if_pos h0,List.mem_cons,ih,hr]
   constructor
   ·rintro (rfl|⟨h,a,b⟩)
    ·exact ⟨by rw [Nat.sub_self,List.length_cons];omega,Nat.le_refl _,by simp only [Nat.sub_self,List.getElem_cons_zero];exact h0⟩
    ·exact ⟨h,by omega,b⟩
   ·rintro ⟨h,a,b⟩
    by_cases hk:k=i
    ·exact .inl hk
    ·exact .inr ⟨h,by omega,b⟩
  ·rw [if_neg h0,ih,hr]
   constructor
   ·rintro ⟨h,a,b⟩;exact ⟨h,by omega,b⟩
   ·rintro ⟨h,a,b⟩
    refine ⟨h,?_,b⟩
    rcases Nat.lt_or_ge i k with h'|h'
    ·exact h'
    ·have:k=i:=by omega
     subst this;simp only [Nat.sub_self,List.getElem_cons_zero] at b;exact absurd b h0
theorem find_zero (p:List PLine) (n:ByteArray):findZ p n=0↔∃ h:0<p.length,p[0].kind=0∧p[0].name=n:=by
 cases p with
 | nil=>simp [findZ,findF]
 | cons x r =>
  have hg:∀ (l:List PLine) (i:Nat),findF n i l=-1∨(i:Int)≤findF n i l:=by
   intro l
   induction l with
   | nil=>intro i;exact .inl rfl
   | cons y l ih =>
    intro i;unfold findF
    split
    ·exact .inr (Int.le_refl _)
    ·rcases ih (i+1) with h|h
     ·exact .inl h
     ·exact .inr (by omega)
  unfold findZ findF
  by_cases h:x.kind=0∧x.name=n
  ·rw [if_pos h];simp [h]
  ·rw [if_neg h]
   have:=hg r 1
   constructor
   ·intro e;rw [Nat.zero_add] at e;omega
   ·rintro ⟨_,h'⟩;exact absurd h' h
theorem ok_iff (p:List PLine):OkI p↔OkS p:=by
 have hfun:∀ k,k ∈ funs p↔∃ h:k<p.length,p[k].kind=0:=by
  intro k;unfold funs;rw [funs_mem p 0 k]
  constructor
  ·rintro ⟨h,_,b⟩;exact ⟨h,b⟩
  ·rintro ⟨h,b⟩;exact ⟨h,Nat.zero_le _,b⟩
 have hseg:(∀ x ∈ p,lineB x=true)→(followS p p.length 0↔followF p 0 (funs p)∧nestF 0 p∧elsesF p 0 p∧∀ k ∈ funs p,namesAt p k):=fun hv=>by
  have:=seg_iff p hv p.length 0 (by omega) (by omega) (fun j hj=>by omega)
  rw [List.drop_zero] at this;exact this
 constructor
 ·rintro ⟨⟨h1,h2⟩,⟨h3,h4,h5,h6⟩,h7⟩
  obtain ⟨hl,hk,hn⟩:=(find_zero p mainT).1 h4;refine ⟨⟨hl,h1,hk,hn,?_,h3⟩,fun k h=>⟨h2 _ (List.getElem_mem h),fun h0=>h6 k ((hfun k).2 ⟨h,h0⟩) h⟩,(hseg h2).2 h7⟩;unfold argsZ at h5;rw [if_neg (by decide)] at h5
  have:(0:Int).toNat=0:=rfl
  rw [this,List.getElem?_eq_getElem hl] at h5;exact h5
 ·rintro ⟨⟨hl,h1,hk,hn,ha,h3⟩,hall,hf⟩
  have hv:∀ x ∈ p,lineB x=true:=fun x hx=>by
   obtain ⟨k,h,rfl⟩:=List.mem_iff_getElem.1 hx;exact (hall k h).1
  refine ⟨⟨h1,hv⟩,⟨h3,(find_zero p mainT).2 ⟨hl,hk,hn⟩,?_,fun k hk h=>(hall k h).2 ?_⟩,(hseg hv).1 hf⟩
  ·unfold argsZ
   rw [if_neg (by decide)]
   have:(0:Int).toNat=0:=rfl
   rw [this,List.getElem?_eq_getElem hl];exact ha
  ·obtain ⟨_,h0⟩:=(hfun k).1 hk
   exact h0
end Go.Proofs.YtcflojdkaddemaaGreatDoor

namespace Go.Proofs.YtcflojdkaddemaaGreatDoor
open Go.RowKit Go.Lib
structure RunS where
 out:List Int
 vis:List (List Int)
inductive Job where
 | eval (c:List Int) (k:Nat) (L:List ByteArray) (vs:List Int) (i:Nat)
 | args (c:List Int) (k:Nat) (L:List ByteArray) (vs:List Int) (i n:Nat)
 | lines (c:List Int) (f:Nat) (L:List ByteArray) (vs:List Int) (k:Nat)
inductive RunRes where
 | val (v:Int) (i:Nat)
 | vals (vs:List Int) (i:Nat)
 | ret (v:Int)
 | stop (c:Int)
def tokAt (p:List PLine) (k i:Nat):TokL:=match p[k]? with
 | none=>⟨0,0,⟨#[]⟩⟩
 | some x=>(x.expr[i]?).getD ⟨0,0,⟨#[]⟩⟩
def nameAt (p:List PLine) (k:Nat):ByteArray:=match p[k]? with
 | none=>⟨#[]⟩
 | some x=>x.name
def varIx (L:List ByteArray) (n:ByteArray):Nat:=L.findIdx (fun y=>decide (y=n))
def elseOpen (p:List PLine) (k:Nat):Nat:=(List.range k).findIdx fun (i:Nat)=>decide (elseZ p (i:Int)=(k:Int))
def endOpen (p:List PLine) (k:Nat):Nat:=(List.range k).findIdx fun (i:Nat)=>decide (beZ p (i:Int)=(k:Int))
end Go.Proofs.YtcflojdkaddemaaGreatDoor

namespace Go.Proofs.YtcflojdkaddemaaGreatDoor
open Go.RowKit Go.Lib
end Go.Proofs.YtcflojdkaddemaaGreatDoor

namespace Go.Proofs.YtcflojdkaddemaaGreatDoor
open Go.RowKit Go.Lib
theorem elseF_ge (p:List PLine) (k:Int) (hk0:0≤beZ p k):∀ (f i:Nat),k<(i:Int)→elseF p (beZ p k) f i=-1∨(i:Int)≤elseF p (beZ p k) f i:=by
 intro f
 induction f with
 | zero=>intro i _;exact .inl rfl
 | succ f ih =>
  intro i hki;rw [elseF]
  by_cases hi:beZ p k≤(i:Int)
  ·rw [if_pos hi];exact .inl rfl
  ·rw [if_neg hi]
   have hl:=(beZ_lt p k).2;have hil:i<p.length:=by omega
   by_cases h4:lkZ p i=4
   ·rw [if_pos h4];exact .inr (Int.le_refl _)
   ·rw [if_neg h4]
    by_cases h35:lkZ p i=3∨lkZ p i=5
    ·rw [if_pos h35]
     have hop:isOp p[i].kind=true:=by
      rw [lkZ_at p i hil] at h35;unfold isOp
      rcases h35 with h|h <;> rw [h] <;> rfl
     have:=beZ_in p k i hk0 hki (by omega) hil hop
     rcases ih ((beZ p (i:Int)).toNat+1) (by omega) with h|h
     ·exact .inl h
     ·exact .inr (by omega)
    ·rw [if_neg h35]
     rcases ih (i+1) (by omega) with h|h
     ·exact .inl h
     ·exact .inr (by omega)
theorem elseZ_gt (p:List PLine) (k:Int) (h:0≤elseZ p k):k<elseZ p k∧elseZ p k<beZ p k:=by
 refine ⟨?_,elseZ_lt p k h⟩;unfold elseZ at h ⊢
 by_cases hc:0≤beZ p k∧lkZ p k=3
 ·rw [if_pos hc] at h ⊢
  obtain ⟨j,hj,_⟩:=beZ_is p k hc.1
  rcases elseF_ge p k hc.1 p.length (k.toNat+1) (by omega) with h'|h'
  ·rw [h'] at h;exact absurd h (by decide)
  ·omega
 ·rw [if_neg hc] at h;exact absurd h (by decide)
theorem beZ_gt (p:List PLine) (k:Int) (h:0≤beZ p k):k<beZ p k:=by
 obtain ⟨j,hj,_,_,h1,_⟩:=beZ_is p k h;omega
theorem beZ_apart (p:List PLine) (a b:Nat) (h:0≤beZ p (a:Int)) (hab:a<b) (hbx:(b:Int)<beZ p (a:Int)) (hy:0≤beZ p (b:Int)):beZ p (b:Int)<beZ p (a:Int):=by
 obtain ⟨j,hj,hjl,hop,_,_⟩:=beZ_is p (b:Int) hy
 have:j=b:=by omega
 subst this;exact (beZ_in p (a:Int) j h (by omega) hbx hjl hop).2
end Go.Proofs.YtcflojdkaddemaaGreatDoor

namespace Go.Proofs.YtcflojdkaddemaaGreatDoor
open Go.RowKit Go.Lib
inductive Chain (p:List PLine):List Int→Nat→Prop
 | main:Chain p [] 0
 | call {c:List Int} {f f' k:Nat} {t:TokL} (h:Chain p c f) (h1:f<k) (h2:(k:Int)<beZ p (f:Int)) (hl:k<p.length) (ht:t ∈ p[k].expr) (h7:t.kind=7) (hf:findZ p t.name=(f':Int)):Chain p (c++[(k:Int)]) f'
theorem fun_in (p:List PLine) (k:Nat) (h:k<p.length) (h0:p[k].kind=0):k ∈ funs p:=by
 unfold funs;rw [funs_mem p 0 k];exact ⟨h,Nat.zero_le _,h0⟩
theorem findF_fun (n:ByteArray) (l:List PLine):∀ i:Nat,findF n i l=-1∨∃ j,∃ h:j<l.length,findF n i l=((i+j:Nat):Int)∧l[j].kind=0:=by
 induction l with
 | nil=>intro i;exact .inl rfl
 | cons x r ih =>
  intro i;unfold findF
  by_cases hc:x.kind=0∧x.name=n
  ·rw [if_pos hc]
   exact .inr ⟨0,by simp,by simp,hc.1⟩
  ·rw [if_neg hc]
   rcases ih (i+1) with h|⟨j,hj,h1,h2⟩
   ·exact .inl h
   ·refine .inr ⟨j+1,by simpa using hj,?_,h2⟩
    rw [h1]
    congr 1
    omega
theorem findZ_fun (p:List PLine) (n:ByteArray) (f:Nat) (h:findZ p n=(f:Int)):f ∈ funs p:=by
 rcases findF_fun n p 0 with h'|⟨j,hj,h1,h2⟩
 ·unfold findZ at h;omega
 ·unfold findZ at h
  have:f=j:=by omega
  subst this;exact fun_in p f hj h2
theorem line_in {p:List PLine} (ho:OkI p) {f k:Nat} (hf:f ∈ funs p) (h1:f<k) (h2:(k:Int)<beZ p (f:Int)) (hl:k<p.length):∀ t ∈ p[k].expr,knownP p (locZ p (f:Int)) t:=by
 have h:=(ho.2.2.2.2.2 f hf).2;refine h p[k] ?_;unfold segZ;rw [List.mem_iff_getElem?];refine ⟨k - f,?_⟩;rw [List.getElem?_take,if_pos (by omega),List.getElem?_drop,show f+(k - f)=k from by omega,List.getElem?_eq_getElem hl]
theorem findIdx_range (k:Nat) (q:Nat→Bool):(List.range k).findIdx q=k∨((List.range k).findIdx q<k∧q ((List.range k).findIdx q)=true):=by
 rcases Nat.lt_or_ge ((List.range k).findIdx q) (List.range k).length with h|h
 ·refine .inr ⟨by simpa using h,?_⟩
  have:=List.findIdx_getElem (w:=h)
  simpa using this
 ·refine .inl ?_
  have h2:=List.findIdx_le_length (p:=q) (xs:=List.range k);rw [List.length_range] at h h2;omega
theorem elses_at (p:List PLine) (l:List PLine):∀ i,elsesF p i l→∀ j,∀ h:j<l.length,l[j].kind=4→∃ o:Nat,o<i+j∧elseZ p o=((i+j:Nat):Int):=by
 induction l with
 | nil=>intro i _ j h;simp at h
 | cons x r ih =>
  intro i he j h h4
  cases j with
  | zero=>exact he.1 h4
  | succ j =>
   obtain ⟨o,h1,h2⟩:=ih (i+1) he.2 j (by simpa using h) h4;exact ⟨o,by omega,by rw [h2];congr 1;omega⟩
end Go.Proofs.YtcflojdkaddemaaGreatDoor

namespace Go.Proofs.YtcflojdkaddemaaGreatDoor
open Go.RowKit Go.Lib
theorem follow_low (p:List PLine) (l:List Nat):∀ m:Int,followF p m l→∀ g ∈ l,m≤(g:Int):=by
 induction l with
 | nil=>intro m _ g hg;cases hg
 | cons x r ih =>
  intro m h g hg;obtain ⟨h1,h2,h3⟩:=h
  rcases List.mem_cons.1 hg with rfl|hg
  ·omega
  ·have:=ih _ h3 g hg
   have:=beZ_gt p (x:Int) h2
   omega
theorem follow_apart (p:List PLine) (l:List Nat):∀ m:Int,followF p m l→∀ f ∈ l,∀ g ∈ l,f<g→beZ p (f:Int)<(g:Int):=by
 induction l with
 | nil=>intro m _ f hf;cases hf
 | cons x r ih =>
  intro m h f hf g hg hfg;obtain ⟨h1,h2,h3⟩:=h
  rcases List.mem_cons.1 hf with e|hf'
  ·subst e
   rcases List.mem_cons.1 hg with e|hg'
   ·omega
   ·have:=follow_low p r _ h3 g hg';omega
  ·rcases List.mem_cons.1 hg with e|hg'
   ·subst e
    have:=follow_low p r _ h3 f hf'
    have:=beZ_gt p (g:Int) h2
    omega
   ·exact ih _ h3 f hf' g hg' hfg
theorem funs_at (p:List PLine) (f:Nat) (h:f ∈ funs p):∃ hl:f<p.length,p[f].kind=0:=by
 unfold funs at h;rw [funs_mem p 0 f] at h;obtain ⟨h1,_,h2⟩:=h;exact ⟨h1,h2⟩
end Go.Proofs.YtcflojdkaddemaaGreatDoor

namespace Go.Proofs.YtcflojdkaddemaaGreatDoor
open Go.RowKit Go.Lib
theorem else_jump {p:List PLine} (ho:OkI p) {k:Nat} (hl:k<p.length) (h4:p[k].kind=4):elseOpen p k<k∧elseZ p (elseOpen p k:Int)=(k:Int)∧(k:Int)<beZ p (elseOpen p k:Int):=by
 obtain ⟨o,ho1,ho2⟩:=elses_at p p 0 ho.2.2.2.2.1 k hl h4;rw [Nat.zero_add] at ho1 ho2
 rcases findIdx_range k (fun (i:Nat)=>decide (elseZ p (i:Int)=(k:Int))) with h|⟨h,h'⟩
 ·exfalso
  have:=List.findIdx_eq_length.1 (show (List.range k).findIdx (fun (i:Nat)=>decide (elseZ p (i:Int)=(k:Int)))=(List.range k).length by rw [h,List.length_range]) o (by simpa using ho1)
  simp only [decide_eq_false_iff_not] at this;exact this ho2
 ·have he2:=of_decide_eq_true h'
  have:=(elseZ_gt p (elseOpen p k:Int) (by unfold elseOpen;omega)).2
  refine ⟨h,he2,?_⟩;unfold elseOpen at this ⊢;omega
theorem end_open {p:List PLine} {k:Nat} (h:endOpen p k≠k):endOpen p k<k∧beZ p (endOpen p k:Int)=(k:Int):=by
 rcases findIdx_range k (fun (i:Nat)=>decide (beZ p (i:Int)=(k:Int))) with h'|⟨h',h''⟩
 ·exact absurd h' h
 ·exact ⟨h',of_decide_eq_true h''⟩
theorem while_jump {p:List PLine} {f k:Nat} (h0:0≤beZ p (f:Int)) (hfk:f<k) (hke:(k:Int)<beZ p (f:Int)) (h7:lkZ p (k:Int)=7) (h5:lkZ p (endOpen p k:Int)=5):f<endOpen p k∧endOpen p k<k∧beZ p (endOpen p k:Int)=(k:Int):=by
 have hne:endOpen p k≠k:=fun h=>by rw [h,h7] at h5;exact absurd h5 (by decide)
 obtain ⟨h1,h2⟩:=end_open hne;refine ⟨?_,h1,h2⟩;generalize endOpen p k=o at *
 rcases Nat.lt_or_ge f o with h3|h3
 ·exact h3
 ·exfalso
  rcases Nat.lt_or_ge o f with h8|h8
  ·have:=beZ_apart p o f (by omega) h8 (by omega) h0
   omega
  ·have:o=f:=by omega
   subst this;omega
theorem ask_end {p:List PLine} {f k:Nat} (h0:0≤beZ p (f:Int)) (hfk:f<k) (hke:(k:Int)<beZ p (f:Int)) (hl:k<p.length) (h:p[k].kind=3∨p[k].kind=5):(k:Int)<beZ p (k:Int)∧beZ p (k:Int)<beZ p (f:Int) :=
 beZ_in p (f:Int) k h0 (by omega) hke hl (by unfold isOp;rcases h with h|h <;> rw [h] <;> rfl)
theorem kinds_in {p:List PLine} (ho:OkI p) {f k:Nat} (hf:f ∈ funs p) (hfk:f<k) (hke:(k:Int)<beZ p (f:Int)) (hl:k<p.length):1≤p[k].kind∧p[k].kind≤7:=by
 have hlb:=ho.1.2 _ (List.getElem_mem hl);have hkd:=line_kind _ hlb;refine ⟨?_,by omega⟩
 by_cases hz:p[k].kind=0
 ·have hk:=fun_in p k hl hz
  have:=follow_apart p (funs p) 0 ho.2.2.1 f hf k hk hfk
  omega
 ·omega
end Go.Proofs.YtcflojdkaddemaaGreatDoor

namespace Go.Proofs.YtcflojdkaddemaaGreatDoor
open Go.RowKit Go.Lib
def exprAt (p:List PLine) (k:Nat):List TokL:=match p[k]? with
 | none=>[]
 | some x=>x.expr
theorem tokAt_getD (p:List PLine) (k i:Nat):tokAt p k i=((exprAt p k)[i]?).getD ⟨0,0,⟨#[]⟩⟩:=by
 unfold tokAt exprAt
 cases p[k]? with
 | none=>simp
 | some x=>rfl
theorem tokAt_get (p:List PLine) (k i:Nat) (h:i<(exprAt p k).length):tokAt p k i=(exprAt p k)[i]:=by
 rw [tokAt_getD,List.getElem?_eq_getElem h];rfl
theorem exprAt_get (p:List PLine) (k:Nat) (h:k<p.length):exprAt p k=p[k].expr:=by unfold exprAt;rw [List.getElem?_eq_getElem h]
def arN (t:TokL):Nat:=(arZ t).toNat
theorem arN_zero:arN ⟨0,0,⟨#[]⟩⟩=0:=by decide
theorem scan_one (l:List TokL) (i q:Nat) (h:scanN (l.drop i) 1=some q):∃ hi:i<l.length,tokB l[i]=true∧∃ q',q=q'+1∧scanN (l.drop (i+1)) (arN l[i])=some q':=by
 by_cases hi:i<l.length
 ·rw [List.drop_eq_getElem_cons hi,scanN] at h
  split at h
  ·rename_i hb
   refine ⟨hi,hb,?_⟩;rw [Nat.zero_add] at h;simp only [Option.map_eq_some_iff] at h;obtain ⟨q',h1,h2⟩:=h;exact ⟨q',h2.symm,h1⟩
  ·cases h
 ·rw [List.drop_eq_nil_of_le (by omega)] at h
  simp [scanN] at h
theorem scan_next (l:List TokL) (i m q:Nat) (h:scanN (l.drop i) (m+1)=some q):∃ q1 q2,scanN (l.drop i) 1=some q1∧scanN (l.drop (i+q1)) m=some q2∧q=q1+q2:=by
 rw [Nat.add_comm,scan_add] at h
 cases h1:scanN (l.drop i) 1 with
 | none=>rw [h1] at h;cases h
 | some q1 =>
  rw [h1] at h;simp only [Option.bind_some,Option.map_eq_some_iff,List.drop_drop] at h;obtain ⟨q2,h2,h3⟩:=h;exact ⟨q1,q2,rfl,h2,by omega⟩
theorem end_is7 (p:List PLine) (l:List PLine):∀ (o:Int) (i:Nat),p.drop i=l→1≤o→0≤endF o i l→lkZ p (endF o i l)=7:=by
 induction l with
 | nil=>intro o i _ _ h;rw [endF] at h;omega
 | cons x r ih =>
  intro o i hd ho h;have hl:i<p.length:=by
   rcases Nat.lt_or_ge i p.length with h'|h'
   ·exact h'
   ·rw [List.drop_eq_nil_of_le h'] at hd;cases hd
  have hx:=List.drop_eq_getElem_cons hl;rw [hd] at hx;injection hx with hx hr
  have hc:=opn_cases x.kind;rw [endF] at h ⊢
  by_cases h0:o+opn x.kind=0
  ·rw [if_pos h0,lkZ_at p i hl,← hx]
   omega
  ·rw [if_neg h0] at h ⊢
   exact ih _ _ hr.symm (by omega) h
theorem beZ_7 (p:List PLine) (k:Int) (h:0≤beZ p k):lkZ p (beZ p k)=7:=by
 obtain ⟨j,rfl,hj,hop,_,_⟩:=beZ_is p k h;rw [beZ_at p j hj hop] at h ⊢;exact end_is7 p _ 1 (j+1) rfl (by decide) h
theorem elseF_level (p:List PLine) (k:Int) (hk0:0≤beZ p k):∀ (f i:Nat) (w:Nat),k<(i:Int)→i≤w→(w:Int)<elseF p (beZ p k) f i→(lkZ p (w:Int)=3∨lkZ p (w:Int)=5)→beZ p (w:Int)<elseF p (beZ p k) f i:=by
 intro f
 induction f with
 | zero=>intro i w _ _ h;rw [elseF] at h;omega
 | succ f ih =>
  intro i w hki hiw h hw;rw [elseF] at h ⊢
  by_cases hi:beZ p k≤(i:Int)
  ·rw [if_pos hi] at h;omega
  ·rw [if_neg hi] at h ⊢
   have hl:=(beZ_lt p k).2;have hil:i<p.length:=by omega
   by_cases h4:lkZ p i=4
   ·rw [if_pos h4] at h;omega
   ·rw [if_neg h4] at h ⊢
    by_cases h35:lkZ p i=3∨lkZ p i=5
    ·rw [if_pos h35] at h ⊢
     have hop:isOp p[i].kind=true:=by
      rw [lkZ_at p i hil] at h35;unfold isOp
      rcases h35 with h|h <;> rw [h] <;> rfl
     have hb:=beZ_in p k i hk0 hki (by omega) hil hop
     by_cases hwi:(beZ p (i:Int)).toNat+1≤w
     ·exact ih _ w (by omega) hwi h hw
     ·have hge:(((beZ p (i:Int)).toNat+1:Nat):Int)≤elseF p (beZ p k) f ((beZ p (i:Int)).toNat+1):=by
       rcases elseF_ge p k hk0 f ((beZ p (i:Int)).toNat+1) (by omega) with h'|h' <;> omega
      by_cases e:w=i
      ·subst e;omega
      ·by_cases e2:(w:Int)=beZ p (i:Int)
       ·have:=beZ_7 p (i:Int) (by omega)
        rw [← e2] at this;omega
       ·have hwl:w<p.length:=by omega
        have:=beZ_in p (i:Int) w (by omega) (by omega) (by omega) hwl (by
         rw [lkZ_at p w hwl] at hw;unfold isOp
         rcases hw with h|h <;> rw [h] <;> rfl)
        omega
    ·rw [if_neg h35] at h ⊢
     by_cases e:w=i
     ·subst e;exact absurd hw h35
     ·exact ih _ w (by omega) (by omega) h hw
theorem else_level {p:List PLine} {k e w:Nat} (h:elseZ p (k:Int)=(e:Int)) (h1:k<w) (h2:w<e) (h5:lkZ p (w:Int)=3∨lkZ p (w:Int)=5):beZ p (w:Int)<(e:Int):=by
 unfold elseZ at h
 split at h
 ·rename_i hc
  rw [← h];rw [Int.toNat_natCast] at h ⊢;exact elseF_level p (k:Int) hc.1 p.length (k+1) w (by omega) (by omega) (by omega) h5
 ·omega
theorem elseF_4 (p:List PLine) (e:Int):∀ (f i:Nat),0≤elseF p e f i→lkZ p (elseF p e f i)=4:=by
 intro f
 induction f with
 | zero=>intro i h;rw [elseF] at h;omega
 | succ f ih =>
  intro i h;rw [elseF] at h ⊢
  split at h
  ·omega
  ·rename_i h1
   rw [if_neg h1]
   split at h
   ·rename_i h4;rw [if_pos h4];exact h4
   ·rename_i h4
    rw [if_neg h4]
    split at h
    ·rename_i h35;rw [if_pos h35];exact ih _ h
    ·rename_i h35;rw [if_neg h35];exact ih _ h
theorem elseZ_4 {p:List PLine} {k e:Nat} (h:elseZ p (k:Int)=(e:Int)):lkZ p (e:Int)=4:=by
 unfold elseZ at h
 split at h
 ·rw [← h]
  exact elseF_4 p _ _ _ (by omega)
 ·omega
section
variable {p:List PLine} {f k:Nat}
theorem end_one {w:Nat} (hw:w<k) (hb:beZ p (w:Int)=(k:Int)):endOpen p k=w:=by
 have hne:endOpen p k≠k:=fun e=>by
  have:=List.findIdx_eq_length.1 (show (List.range k).findIdx (fun (i:Nat)=>decide (beZ p (i:Int)=(k:Int)))=(List.range k).length by rw [List.length_range];exact e) w (by simpa using hw)
  simp only [decide_eq_false_iff_not] at this;exact this hb
 obtain ⟨h1,h2⟩:=end_open hne
 rcases Nat.lt_trichotomy (endOpen p k) w with h|h|h
 ·have:=beZ_apart p (endOpen p k) w (by omega) h (by omega) (by omega);omega
 ·exact h
 ·have:=beZ_apart p w (endOpen p k) (by omega) h (by omega) (by omega);omega
end
end Go.Proofs.YtcflojdkaddemaaGreatDoor
