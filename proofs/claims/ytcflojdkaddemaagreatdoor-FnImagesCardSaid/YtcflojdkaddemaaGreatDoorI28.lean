/- Parts of the proof. -/
import Derived.Test.YtcflojdkaddemaaGreatDoorI27
namespace Go.Proofs.YtcflojdkaddemaaGreatDoor
open Go.RowKit Go.Lib
structure PlW where
 off:Int
 it:ItL
 a:Option Addr
 n:Nat
 c:Nat
def plC (x:PlW):List Value:=[.int .i64 x.off,.int .i64 x.it.code,.int .i64 x.it.arg,.int .i64 (x.it.line:Int),.bool x.it.start,.slice x.a x.n x.c,.int .i64 x.it.depth,.bool x.it.ent]
def plsV (X:List PlW):List Value:=X.flatMap plC
theorem plC_length (x:PlW):(plC x).length=8:=rfl
theorem plsV_length (X:List PlW):(plsV X).length=X.length*8:=by
 induction X with
 | nil=>rfl
 | cons t r ih=>simp only [plsV,List.flatMap_cons,List.length_append,plC_length,List.length_cons] at ih ⊢;omega
theorem plsV_append (X Y:List PlW):plsV (X++Y)=plsV X++plsV Y:=by unfold plsV;rw [List.flatMap_append]
theorem plsV_one (x:PlW):plsV [x]=plC x:=by simp [plsV]
theorem plsV_at (X:List PlW) (j:Nat) (h:j<X.length) (i:Nat) (hi:i<8):(plsV X)[j*8+i]?=(plC X[j])[i]?:=by
 unfold plsV
 induction X generalizing j with
 | nil=>cases h
 | cons x r ih =>
  cases j with
  | zero=>rw [List.flatMap_cons,Nat.zero_mul,Nat.zero_add,List.getElem_cons_zero,List.getElem?_append_left (by rw [plC_length];omega)]
  | succ j =>
   rw [List.flatMap_cons,List.getElem_cons_succ,List.getElem?_append_right (by rw [plC_length];omega),← ih j (by simpa using h)]
   congr 1
   rw [plC_length];omega
def ReadPl (w:World) (a:Option Addr) (X:List PlW):Prop :=
 ∀ j (h:j<X.length),∃ g,a=some ⟨g,0,none⟩∧g<w.heap.size∧∀ i,i<8→w.cell? ⟨g,j*8+i,none⟩=(plC X[j])[i]?
theorem ReadPl.below {w w':World} {a:Option Addr} {X:List PlW} (h:ReadPl w a X) (hb:Below w.heap.size w w'):ReadPl w' a X:=fun j hj=>by
 obtain ⟨g,e,hg,c⟩:=h j hj;exact ⟨g,e,Nat.lt_of_lt_of_le hg hb.size,fun i hi=>(hb.cell (p:=⟨g,_,none⟩) hg).trans (c i hi)⟩
theorem readPl_of {B T c:Nat} {w:World} {a:Option Addr} {X:List PlW} (h:w.ownsRow B T 8 (.slice a X.length c) X.length (plsV X)):ReadPl w a X:=by
 intro j hj
 rcases h.2 with ⟨he,h0⟩|⟨g,cap,cur,he,hB,hg,_⟩
 ·omega
 ·have ha:a=some ⟨g,0,none⟩:=by injection he
  subst ha;have hlt:g<w.heap.size:=by
   rcases Nat.lt_or_ge g w.heap.size with h|h
   ·exact h
   ·rw [Array.getElem?_eq_none h] at hg;cases hg
  have hl:=plsV_length X;exact ⟨g,rfl,hlt,fun i hi=>by rw [h.cellAt _ (by omega)];exact plsV_at X j hj i hi⟩
def headPl (k:Nat) (X:List PlW) (R:List Value):List Value:=plsV (X.take k)++R
theorem headPl_set (k:Nat) (X:List PlW) (h:k<X.length) (a0 a1 a2 a3 a4 a5 a6 a7:Value) (R:List Value) :
  (((((((((headPl k X (a0 :: a1 :: a2 :: a3 :: a4 :: a5 :: a6 :: a7 :: R)).set (k*8) (.int .i64 X[k].off)).set (k*8+1) (.int .i64 X[k].it.code)).set (k*8+2) (.int .i64 X[k].it.arg)).set (k*8+3) (.int .i64 (X[k].it.line:Int))).set (k*8+4) (.bool X[k].it.start)).set (k*8+5) (.slice X[k].a X[k].n X[k].c)).set (k*8+6) (.int .i64 X[k].it.depth)).set (k*8+7) (.bool X[k].it.ent))=headPl (k+1) X R:=by
 have hl:(plsV (X.take k)).length=k*8:=by rw [plsV_length,List.length_take];omega
 have e:plsV (X.take (k+1))=plsV (X.take k)++plC X[k]:=by
  rw [List.take_succ_eq_append_getElem h,plsV_append,plsV_one]
 unfold headPl;rw [e];generalize plsV (X.take k)=P at *;rw [show k*8=P.length from hl.symm];have st:∀ (i:Nat) (v:Value) (Q:List Value),(P++Q).set (P.length+i) v=P++Q.set i v:=fun i v Q=>by rw [List.set_append_right _ _ (by omega),Nat.add_sub_cancel_left]
 have s0:∀ (v:Value) (Q:List Value),(P++Q).set P.length v=P++Q.set 0 v:=fun v Q=>st 0 v Q
 rw [s0,st,st,st,st,st,st,st,List.append_assoc];rfl
def PlW.arg (x:PlW) (v:Int):PlW:={ x with it:={ x.it with arg:=v } }
theorem plsV_arg (X:List PlW) (k:Nat) (h:k<X.length) (v:Int):(plsV X).set (k*8+2) (.int .i64 v)=plsV (X.set k (X[k].arg v)):=by
 have hl:(plsV (X.take k)).length=k*8:=by rw [plsV_length,List.length_take];omega
 have e:plsV X=plsV (X.take k)++(plC X[k]++plsV (X.drop (k+1))):=by
  rw [← plsV_one,← plsV_append,← plsV_append]
  congr 1
  rw [List.singleton_append,← List.drop_eq_getElem_cons h,List.take_append_drop]
 have e2:plsV (X.set k (X[k].arg v))=plsV (X.take k)++(plC (X[k].arg v)++plsV (X.drop (k+1))):=by
  rw [← plsV_one,← plsV_append,← plsV_append]
  congr 1
  rw [List.set_eq_take_append_cons_drop,if_pos h];rfl
 rw [e,e2,List.set_append_right _ _ (by omega),hl,Nat.add_sub_cancel_left];rfl
def mnd (o:Nat) (L:List ItL) (X:List PlW) (q:Nat):List PlW:=X.mapIdx fun j x=>if j<q then x.arg (plA o L j x.it) else x
theorem mnd_len (o:Nat) (L:List ItL) (X:List PlW) (q:Nat):(mnd o L X q).length=X.length:=by unfold mnd;simp
theorem mnd_get (o:Nat) (L:List ItL) (X:List PlW) (q j:Nat) (h:j<X.length) (h':j<(mnd o L X q).length):(mnd o L X q)[j]=if j<q then X[j].arg (plA o L j X[j].it) else X[j]:=List.getElem_mapIdx
theorem mnd_zero (o:Nat) (L:List ItL) (X:List PlW):mnd o L X 0=X:=by
 apply List.ext_getElem (mnd_len ..);intro j h1 h2;rw [mnd_get _ _ _ _ _ h2,if_neg (by omega)]
theorem mnd_set (o:Nat) (L:List ItL) (X:List PlW) (q:Nat) (h:q<X.length):(mnd o L X q).set q (X[q].arg (plA o L q X[q].it))=mnd o L X (q+1):=by
 apply List.ext_getElem (by rw [List.length_set,mnd_len,mnd_len]);intro j h1 h2;have hj:j<X.length:=by rw [mnd_len] at h2;exact h2
 rw [List.getElem_set]
 by_cases e:q=j
 ·subst e;rw [if_pos rfl,mnd_get _ _ _ _ _ hj,if_pos (by omega)]
 ·rw [if_neg e,mnd_get _ _ _ _ _ hj,mnd_get _ _ _ _ _ hj]
  by_cases h3:j<q
  ·rw [if_pos h3,if_pos (by omega)]
  ·rw [if_neg h3,if_neg (by omega)]
theorem mnd_same (o:Nat) (L:List ItL) (X:List PlW) (q:Nat) (h:q<X.length) (he:plA o L q X[q].it=X[q].it.arg):mnd o L X (q+1)=mnd o L X q:=by
 rw [← mnd_set o L X q h,he];have e:X[q].arg X[q].it.arg=X[q]:=rfl;rw [e];apply List.ext_getElem (by rw [List.length_set]);intro j h1 h2;have hj:j<X.length:=by rw [mnd_len] at h2;exact h2
 rw [List.getElem_set]
 split
 ·rename_i e;subst e
  rw [mnd_get _ _ _ _ _ hj,if_neg (by omega)]
 ·rfl
theorem plcF_idx (o:Nat) (L:List ItL):∀ (r:List ItL) (q:Nat),plcF o L q r=r.mapIdx fun k x=>(offN o L (q+k),{ x with arg:=plA o L (q+k) x }):=by
 intro r
 induction r with
 | nil=>intro q;rfl
 | cons x r ih =>
  intro q;rw [plcF,ih,List.mapIdx_cons]
  congr 1
  congr 1
  funext k y
  rw [show q+1+k=q+(k+1) from by omega]
theorem mnd_all (o:Nat) (L:List ItL) (X:List PlW) (hl:X.length=L.length) (h:∀ j (h:j<L.length) (h':j<X.length),X[j].off=(offN o L j:Int)∧X[j].it=L[j]):(mnd o L X L.length).map (fun x=>(x.off,x.it))=(plcF o L 0 L).map fun y=>((y.1:Int),y.2):=by
 rw [plcF_idx];apply List.ext_getElem (by simp [mnd_len,hl]);intro j h1 h2;have hj:j<L.length:=by simpa [mnd_len,hl] using h1
 have hx:j<X.length:=by omega
 obtain ⟨e1,e2⟩:=h j hj hx;rw [List.getElem_map,List.getElem_map,List.getElem_mapIdx,mnd_get _ _ _ _ _ hx,if_pos hj]
 show (X[j].off,{ X[j].it with arg:=plA o L j X[j].it })=_
 rw [e1,e2,Nat.zero_add]
end Go.Proofs.YtcflojdkaddemaaGreatDoor

namespace Go.Proofs.YtcflojdkaddemaaGreatDoor
open Go.RowKit Go.Lib
theorem layC_snoc (f:Nat×List ItL):∀ (A:List (Nat×List ItL)) (o:Nat),layC o (A++[f])=layC o A++codF (o+(layC o A).length) f.2:=by
 intro A
 induction A with
 | nil=>intro o;simp [layC]
 | cons h r ih =>
  intro o;rw [List.cons_append,layC,layC,ih,List.append_assoc,List.length_append,Nat.add_assoc]
theorem layP_snoc (f:Nat×List ItL):∀ (A:List (Nat×List ItL)) (o:Nat),layP o (A++[f])=layP o A++plcF (o+(layC o A).length) f.2 0 f.2:=by
 intro A
 induction A with
 | nil=>intro o;simp [layP,layC]
 | cons h r ih =>
  intro o;rw [List.cons_append,layP,layP,layC,ih,List.append_assoc,List.length_append,Nat.add_assoc]
theorem codF_small {p:List PLine} {g:Nat} {L:List ItL} (h:FnIt p g L) (o:Nat):3≤(codF o L).length∧(codF o L).length≤15000:=by
 have h1:=codF_len o L;have h2:=offN_le o L L.length (Nat.le_refl _)
 have:=h.n3
 have:=h.nn
 omega
theorem layC_small {p:List PLine}:∀ (A:List (Nat×List ItL)) (o:Nat),(∀ f ∈ A,FnIt p f.1 f.2)→(layC o A).length≤15000*A.length:=by
 intro A
 induction A with
 | nil=>intro o _;exact Nat.le_refl _
 | cons f r ih =>
  intro o h;rw [layC,List.length_append,List.length_cons];have h1:=(codF_small (h f (List.mem_cons_self ..)) o).2;have h2:=ih (o+(codF o f.2).length) (fun g hg=>h g (List.mem_cons_of_mem _ hg));omega
def inIm (sp:Bool) (im f:Nat):Bool:=decide ((if sp=true then f % 2 else 0)=im)
def fnsIm (p:List PLine) (sp:Bool) (im:Nat) (LF:Nat→List ItL) (q:Nat):List (Nat×List ItL):=((List.range q).filter (inIm sp im)).map fun f=>(((funs p)[f]?).getD 0,LF f)
theorem fnsIm_succ (p:List PLine) (sp:Bool) (im:Nat) (LF:Nat→List ItL) (q:Nat):fnsIm p sp im LF (q+1)=fnsIm p sp im LF q++(if inIm sp im q=true then [(((funs p)[q]?).getD 0,LF q)] else []):=by
 unfold fnsIm;rw [List.range_succ,List.filter_append,List.map_append]
 congr 1
 by_cases h:inIm sp im q=true <;> simp [h]
theorem fnsIm_len (p:List PLine) (sp:Bool) (im:Nat) (LF:Nat→List ItL) (q:Nat):(fnsIm p sp im LF q).length≤q:=by
 unfold fnsIm;rw [List.length_map]
 have:=List.length_filter_le (inIm sp im) (List.range q)
 rw [List.length_range] at this;exact this
theorem fnsIm_both (p:List PLine) (sp:Bool) (LF LF':Nat→List ItL):∀ q,(fnsIm p sp 0 LF q).length+(fnsIm p sp 1 LF' q).length=q:=by
 intro q
 induction q with
 | zero=>rfl
 | succ q ih =>
  rw [fnsIm_succ,fnsIm_succ,List.length_append,List.length_append];have h:(if inIm sp 0 q=true then [(((funs p)[q]?).getD 0,LF q)] else []).length+(if inIm sp 1 q=true then [(((funs p)[q]?).getD 0,LF' q)] else []).length=1:=by
   unfold inIm
   cases sp with
   | false=>simp
   | true =>
    have:q % 2=0∨q % 2=1:=by omega
    rcases this with e|e <;> simp [e]
  omega
theorem fnsIm_mem {p:List PLine} {sp:Bool} {im:Nat} {LF:Nat→List ItL} {q:Nat} (hq:q≤(funs p).length) (h:∀ f (hf:f<(funs p).length),FnIt p (funs p)[f] (LF f)):∀ x ∈ fnsIm p sp im LF q,FnIt p x.1 x.2:=by
 intro x hx;unfold fnsIm at hx;obtain ⟨f,hf,rfl⟩:=List.mem_map.1 hx;have hfq:f<q:=List.mem_range.1 (List.mem_filter.1 hf).1;rw [List.getElem?_eq_getElem (by omega)];exact h f (by omega)
end Go.Proofs.YtcflojdkaddemaaGreatDoor

namespace Go.Proofs.YtcflojdkaddemaaGreatDoor
open Go.RowKit Go.Lib
def asmK (p:List PLine) (S:List SyL) (y:Int×ItL):List SyL:=if kindP p y.2=1 then S++[⟨nameAt p y.2.line,y.1,0⟩] else S
def asmZ (S:List SyL) (n:Nat):List SyL:=match S[S.length - 1]? with
 | some x=>S.set (S.length - 1) { x with size:=(n:Int) - x.start }
 | none=>S
def asmS (p:List PLine) (st:List UInt8×List SyL) (y:Int×ItL):List UInt8×List SyL :=
 (st.1++encL ⟨y.2.code,y.2.arg⟩,asmZ (asmK p st.2 y) (st.1++encL ⟨y.2.code,y.2.arg⟩).length)
theorem asmZ_snoc (S:List SyL) (x:SyL) (n:Nat):asmZ (S++[x]) n=S++[{ x with size:=(n:Int) - x.start }]:=by
 unfold asmZ;rw [List.length_append,List.length_singleton,Nat.add_sub_cancel,List.getElem?_append_right (Nat.le_refl _),Nat.sub_self]
 show (S++[x]).set S.length _=_
 rw [List.set_append_right _ _ (Nat.le_refl _),Nat.sub_self];rfl
theorem asmZ_len (S:List SyL) (n:Nat):(asmZ S n).length=S.length:=by unfold asmZ;split <;> simp
theorem asmZ_mem {S:List SyL} {n:Nat} {s:SyL} (h:s ∈ asmZ S n):∃ x ∈ S,s.start=x.start:=by
 unfold asmZ at h
 split at h
 ·rename_i x hx
  rcases List.mem_or_eq_of_mem_set h with h|h
  ·exact ⟨s,h,rfl⟩
  ·exact ⟨x,List.mem_of_getElem? hx,by rw [h]⟩
 ·exact ⟨s,h,rfl⟩
theorem sysV_size (S:List SyL) (k:Nat) (h:k<S.length) (v:Int):(sysV S).set (k*3+2) (.int .i64 v)=sysV (S.set k { S[k] with size:=v }):=by
 have hl:(sysV (S.take k)).length=k*3:=by rw [sysV_length,List.length_take];omega
 have e:sysV S=sysV (S.take k)++(syV S[k]++sysV (S.drop (k+1))):=by
  rw [← sysV_one,← sysV_append,← sysV_append]
  congr 1
  rw [List.singleton_append,← List.drop_eq_getElem_cons h,List.take_append_drop]
 have e2:sysV (S.set k { S[k] with size:=v })=sysV (S.take k)++(syV { S[k] with size:=v }++sysV (S.drop (k+1))):=by
  rw [← sysV_one,← sysV_append,← sysV_append]
  congr 1
  rw [List.set_eq_take_append_cons_drop,if_pos h];rfl
 rw [e,e2,List.set_append_right _ _ (by omega),hl,Nat.add_sub_cancel_left];rfl
theorem asmZ_set (S:List SyL) (m n:Nat) (h:S.length=m+1) (hm:m<S.length):asmZ S n=S.set m { S[m] with size:=(n:Int) - S[m].start }:=by
 unfold asmZ;rw [show S.length - 1=m from by omega,List.getElem?_eq_getElem hm]
theorem encL_le (x:OpL):(encL x).length≤5:=by
 unfold encL
 split
 ·rw [opBytes_length];have:=widN_le x.code;omega
 ·simp
def asmF (p:List PLine) (M:List (Int×ItL)) (q:Nat):List UInt8×List SyL:=(M.take q).foldl (asmS p) ([],[])
theorem asmF_zero (p:List PLine) (M:List (Int×ItL)):asmF p M 0=([],[]):=by unfold asmF;rw [List.take_zero];rfl
theorem asmF_succ (p:List PLine) (M:List (Int×ItL)) (q:Nat) (h:q<M.length):asmF p M (q+1)=asmS p (asmF p M q) M[q]:=by
 unfold asmF;rw [List.take_succ_eq_append_getElem h,List.foldl_append];rfl
structure AsmI (q:Nat) (st:List UInt8×List SyL):Prop where
 len:st.1.length≤5*q
 ne:0<q→0<st.2.length
 cnt:st.2.length≤q
 st:∀ s ∈ st.2,0≤s.start∧s.start≤100000
theorem asm_inv (p:List PLine) (M:List (Int×ItL)) (hM:∀ y ∈ M,0≤y.1∧y.1≤100000) (h0:∀ y,M[0]?=some y→kindP p y.2=1):∀ q,q≤M.length→AsmI q (asmF p M q):=by
 intro q
 induction q with
 | zero=>intro _;rw [asmF_zero];exact ⟨by simp,fun h=>by omega,by simp,fun s hs=>by cases hs⟩
 | succ q ih =>
  intro hq;have hI:=ih (by omega);rw [asmF_succ p M q (by omega)];have hy:=hM M[q] (List.getElem_mem _);have hk:q=0→kindP p (M[q]'(by omega)).2=1:=fun e=>by
   subst e;exact h0 _ (List.getElem?_eq_getElem (by omega))
  generalize M[q]=y at *;have hc:(asmK p (asmF p M q).2 y).length≤(asmF p M q).2.length+1∧0<(asmK p (asmF p M q).2 y).length∧∀ s ∈ asmK p (asmF p M q).2 y,0≤s.start∧s.start≤100000:=by
   unfold asmK
   split
   ·refine ⟨by simp,by simp,fun s hs=>?_⟩
    rcases List.mem_append.1 hs with hs|hs
    ·exact hI.st s hs
    ·rw [List.mem_singleton] at hs;rw [hs];exact hy
   ·rename_i hne
    refine ⟨by omega,?_,hI.st⟩
    by_cases e:q=0
    ·exact absurd (hk e) hne
    ·exact hI.ne (by omega)
  refine ⟨?_,fun _=>?_,?_,fun s hs=>?_⟩
  ·show (_++_:List UInt8).length≤_
   rw [List.length_append]
   have:=encL_le ⟨y.2.code,y.2.arg⟩
   have:=hI.len
   omega
  ·show 0<(asmZ _ _).length
   rw [asmZ_len];exact hc.2.1
  ·show (asmZ _ _).length≤_
   rw [asmZ_len];have:=hI.cnt;have:=hc.1;omega
  ·obtain ⟨x,hx,e⟩:=asmZ_mem hs
   rw [e];exact hc.2.2 x hx
def castP (y:Nat×ItL):Int×ItL:=((y.1:Int),y.2)
theorem kindP_arg (p:List PLine) (x:ItL) (a:Int):kindP p { x with arg:=a }=kindP p x:=rfl
theorem asm_rest {p:List PLine} {g:Nat} {L:List ItL} (h:FnIt p g L) (o:Nat) (nm:ByteArray) (S:List SyL):∀ (r:List ItL) (q:Nat) (D:List UInt8),L.drop q=r→1≤q→D.length=offN o L q →
  ((plcF o L q r).map castP).foldl (asmS p) (D,S++[⟨nm,(o:Int),(D.length:Int) - (o:Int)⟩])=(D++bytF o L q r,S++[⟨nm,(o:Int),((D++bytF o L q r).length:Int) - (o:Int)⟩]):=by
 intro r
 induction r with
 | nil=>intro q D _ _ _;simp [plcF,bytF]
 | cons x r ih =>
  intro q D hq h1 hD;have hql:q<L.length:=by
   have:=congrArg List.length hq
   rw [List.length_drop,List.length_cons] at this;omega
  have hq':=hq;rw [List.drop_eq_getElem_cons hql] at hq';injection hq' with hx hr
  have hm:x ∈ L.drop 1:=by
   have:x ∈ L.drop q:=by rw [hq];exact List.mem_cons_self ..
   rw [show q=1+(q - 1) from by omega,← List.drop_drop] at this;exact List.mem_of_mem_drop this
  have hk:¬ kindP p x=1:=by
   unfold kindP;rw [if_neg (h.no x hm)]
   split <;> omega
  have hi:insB (plO o L q x)=true:=by rw [← hx];exact pl_ins h o q hql
  have he:encL ⟨x.code,plA o L q x⟩=opBytes (plO o L q x):=by unfold encL;rw [show (⟨x.code,plA o L q x⟩:OpL)=plO o L q x from rfl,if_pos hi]
  have hs:(D++opBytes (plO o L q x)).length=offN o L (q+1):=by
   rw [List.length_append,hD,opBytes_length,offN_succ o L q hql,hx];rfl
  have e1:asmS p (D,S++[⟨nm,(o:Int),(D.length:Int) - (o:Int)⟩]) (castP (offN o L q,{ x with arg:=plA o L q x }))=(D++opBytes (plO o L q x),S++[⟨nm,(o:Int),((D++opBytes (plO o L q x)).length:Int) - (o:Int)⟩]):=by
   unfold asmS castP asmK;dsimp only;rw [kindP_arg,if_neg hk,he,asmZ_snoc]
  rw [plcF,List.map_cons,List.foldl_cons,e1,ih (q+1) _ hr (by omega) hs,bytF,List.append_assoc]
theorem asm_fn {p:List PLine} {g:Nat} {L:List ItL} (h:FnIt p g L) (hg:lkZ p (g:Int)=0) (C:List UInt8) (S:List SyL) :
  ((plcF C.length L 0 L).map castP).foldl (asmS p) (C,S)=(C++codF C.length L,S++[⟨nameAt p g,(C.length:Int),((codF C.length L).length:Int)⟩]):=by
 obtain ⟨x,hx,hl⟩:=h.hd
 cases hL:L with
 | nil=>rw [hL] at hx;cases hx
 | cons y r =>
  rw [← hL];have hn:0<L.length:=by rw [hL];simp
  have hxy:x=y:=by rw [hL] at hx;exact (Option.some.inj hx).symm
  subst hxy;have hx0:L[0]=x:=by have:=List.getElem?_eq_getElem hn;rw [hx] at this;exact (Option.some.inj this).symm
  have hk:kindP p x=1:=by unfold kindP;rw [hl,if_pos hg]
  have hi:insB (plO C.length L 0 x)=true:=by rw [← hx0];exact pl_ins h C.length 0 hn
  have he:encL ⟨x.code,plA C.length L 0 x⟩=opBytes (plO C.length L 0 x):=by unfold encL;rw [show (⟨x.code,plA C.length L 0 x⟩:OpL)=plO C.length L 0 x from rfl,if_pos hi]
  have hs:(C++opBytes (plO C.length L 0 x)).length=offN C.length L 1:=by
   rw [List.length_append,opBytes_length,offN_succ C.length L 0 hn,offN_zero,hx0];rfl
  have e1:asmS p (C,S) (castP (offN C.length L 0,{ x with arg:=plA C.length L 0 x }))=(C++opBytes (plO C.length L 0 x),S++[⟨nameAt p g,(C.length:Int),((C++opBytes (plO C.length L 0 x)).length:Int) - (C.length:Int)⟩]):=by
   unfold asmS castP asmK;dsimp only;rw [kindP_arg,if_pos hk,he,asmZ_snoc,offN_zero,hl]
  have hd:L.drop 1=r:=by rw [hL];rfl
  have hp:plcF C.length L 0 L=(offN C.length L 0,{ x with arg:=plA C.length L 0 x }) :: plcF C.length L 1 r:=by
   conv=>lhs;rw [show plcF C.length L 0 L=plcF C.length L 0 (x :: r) from by rw [← hL]]
   rfl
  have hc:codF C.length L=opBytes (plO C.length L 0 x)++bytF C.length L 1 r:=by
   unfold codF
   conv=>lhs;rw [show bytF C.length L 0 L=bytF C.length L 0 (x :: r) from by rw [← hL]]
   rfl
  rw [hp,List.map_cons,List.foldl_cons,e1,asm_rest h C.length _ S r 1 _ hd (Nat.le_refl _) hs,hc,List.append_assoc]
  congr 1
  congr 1
  congr 1
  congr 1
  rw [List.length_append];omega
theorem asm_all {p:List PLine}:∀ (A:List (Nat×List ItL)) (C:List UInt8) (S:List SyL),(∀ f ∈ A,FnIt p f.1 f.2∧lkZ p (f.1:Int)=0) →
  ((layP C.length A).map castP).foldl (asmS p) (C,S)=(C++layC C.length A,S++laySy p C.length A):=by
 intro A
 induction A with
 | nil=>intro C S _;simp [layP,layC,laySy]
 | cons f r ih =>
  intro C S h;obtain ⟨h1,h2⟩:=h f (List.mem_cons_self ..);rw [layP,List.map_append,List.foldl_append,asm_fn h1 h2];have e:=ih (C++codF C.length f.2) (S++[⟨nameAt p f.1,(C.length:Int),((codF C.length f.2).length:Int)⟩]) (fun g hg=>h g (List.mem_cons_of_mem _ hg));rw [List.length_append] at e;rw [e,layC,laySy,List.append_assoc,List.append_assoc];rfl
theorem layP_off {p:List PLine}:∀ (A:List (Nat×List ItL)) (o:Nat),(∀ f ∈ A,FnIt p f.1 f.2)→∀ y ∈ layP o A,y.1≤o+(layC o A).length∧y.2.line<p.length∧insB ⟨y.2.code,y.2.arg⟩=true:=by
 intro A
 induction A with
 | nil=>intro o _ y hy;cases hy
 | cons f r ih =>
  intro o h y hy;rw [layP] at hy;rw [layC,List.length_append]
  rcases List.mem_append.1 hy with hy|hy
  ·obtain ⟨k,hk,rfl⟩:=plcF_mem f.2 0 rfl hy
   have h1:=codF_len o f.2;have h2:=offN_mono o f.2 k f.2.length (by omega) (Nat.le_refl _);have hF:=h f (List.mem_cons_self ..);exact ⟨by show offN o f.2 k≤_;omega,hF.ln (f.2[k]) (List.getElem_mem hk),pl_ins hF o k hk⟩
  ·have:=ih _ (fun g hg=>h g (List.mem_cons_of_mem _ hg)) y hy
   exact ⟨by omega,this.2⟩
theorem layP_len {p:List PLine}:∀ (A:List (Nat×List ItL)) (o:Nat),(∀ f ∈ A,FnIt p f.1 f.2)→(layP o A).length≤3000*A.length:=by
 intro A
 induction A with
 | nil=>intro o _;exact Nat.le_refl _
 | cons f r ih =>
  intro o h;rw [layP,List.length_append,List.length_cons,plcF_idx,List.length_mapIdx]
  have:=(h f (List.mem_cons_self ..)).nn
  have:=ih (o+(codF o f.2).length) (fun g hg=>h g (List.mem_cons_of_mem _ hg))
  omega
theorem layP_first {p:List PLine} (A:List (Nat×List ItL)) (o:Nat) (h:∀ f ∈ A,FnIt p f.1 f.2∧lkZ p (f.1:Int)=0):∀ y,((layP o A).map castP)[0]?=some y→kindP p y.2=1:=by
 intro y hy
 cases A with
 | nil=>simp [layP] at hy
 | cons f r =>
  obtain ⟨hF,hg⟩:=h f (List.mem_cons_self ..);obtain ⟨x,hx,hl⟩:=hF.hd;rw [List.getElem?_map,layP] at hy;have hn:0<f.2.length:=by have:=hF.n3;omega
  have hx0:f.2[0]=x:=by have:=List.getElem?_eq_getElem hn;rw [hx] at this;exact (Option.some.inj this).symm
  rw [List.getElem?_append_left (by rw [plcF_idx,List.length_mapIdx];exact hn),plcF_idx,List.getElem?_mapIdx,hx] at hy;simp only [Option.map_some] at hy;rw [← Option.some.inj hy]
  show kindP p { x with arg:=_ }=1
  rw [kindP_arg];unfold kindP;rw [hl,if_pos hg]
end Go.Proofs.YtcflojdkaddemaaGreatDoor

namespace Go.Proofs.YtcflojdkaddemaaGreatDoor
open Go.RowKit Go.Lib
theorem fn_fold {p:List PLine} {g:Nat} {L:List ItL} (h:FnIt (foldP p) g L):FnIt p g L :=
 ⟨h.op,h.ju,h.n3,h.nn,fun x hx=>by have:=h.ln x hx;rwa [foldP_length] at this,fun x hx=>by have:=h.no x hx;rwa [lkZ_fold] at this,h.hd,h.h0⟩
theorem funF_lt:∀ (l:List PLine) (i:Nat),(funF i l).Pairwise (·<·):=by
 intro l
 induction l with
 | nil=>intro i;exact List.Pairwise.nil
 | cons x r ih =>
  intro i;rw [funF]
  split
  ·refine List.pairwise_cons.2 ⟨fun k hk=>?_,ih (i+1)⟩
   obtain ⟨_,h,_⟩:=(funs_mem r (i+1) k).1 hk;omega
  ·exact ih (i+1)
theorem fun_name {p:List PLine} (ho:OkI p) {k:Nat} (hk:k ∈ funs p):nameB (nameAt p k)=true∧∃ h:k<p.length,nameAt p k=p[k].name:=by
 obtain ⟨hl,h0⟩:=funs_at p k hk;have hn:nameAt p k=p[k].name:=by unfold nameAt;rw [List.getElem?_eq_getElem hl]
 obtain ⟨_,hb,_⟩:=(lineB_iff _).1 (ho.1.2 _ (List.getElem_mem hl));refine ⟨?_,hl,hn⟩;rw [hn];rw [h0] at hb;unfold nfB at hb
 simpa [namedB] using hb
theorem fun_inj {p:List PLine} (ho:OkI p) {j k:Nat} (hj:j ∈ funs p) (hk:k ∈ funs p) (h:nameAt p j=nameAt p k):j=k:=by
 obtain ⟨_,h1,e1⟩:=fun_name ho hj;obtain ⟨_,h2,e2⟩:=fun_name ho hk;have f1:=ho.2.1.2.2.2 j hj h1;have f2:=ho.2.1.2.2.2 k hk h2;rw [← e1,h,e2,f2] at f1;omega
theorem fns_ok {p:List PLine} (ho:OkI p) {LF:Nat→List ItL} (hFI:∀ f (hf:f<(funs p).length),FnIt p (funs p)[f] (LF f)) (sp:Bool) (im:Nat) :
  (∀ f ∈ fnsIm p sp im LF (funs p).length,FnIt p f.1 f.2∧nameB (nameAt p f.1)=true)∧((fnsIm p sp im LF (funs p).length).map fun f=>nameAt p f.1).Nodup:=by
 have hm:=fnsIm_mem (p:=p) (sp:=sp) (im:=im) (LF:=LF) (q:=(funs p).length) (Nat.le_refl _) hFI;have key:∀ f ∈ fnsIm p sp im LF (funs p).length,f.1 ∈ funs p:=fun f hf=>by
  unfold fnsIm at hf;obtain ⟨q,hq,rfl⟩:=List.mem_map.1 hf;have hqn:q<(funs p).length:=List.mem_range.1 (List.mem_filter.1 hq).1;rw [List.getElem?_eq_getElem hqn];exact List.getElem_mem hqn
 refine ⟨fun f hf=>⟨hm f hf,(fun_name ho (key f hf)).1⟩,?_⟩;unfold fnsIm;rw [List.map_map];have hr:((List.range (funs p).length).filter (inIm sp im)).Pairwise (·<·):=List.Pairwise.filter _ List.pairwise_lt_range;refine List.pairwise_map.2 (hr.imp_of_mem fun {a b} ha hb hab he=>?_);have ha':a<(funs p).length:=List.mem_range.1 (List.mem_filter.1 ha).1;have hb':b<(funs p).length:=List.mem_range.1 (List.mem_filter.1 hb).1;simp only [Function.comp_apply,List.getElem?_eq_getElem ha',List.getElem?_eq_getElem hb',Option.getD_some] at he;have h1:=fun_inj ho (List.getElem_mem ha') (List.getElem_mem hb') he;have h2:=List.pairwise_iff_getElem.1 (funF_lt p 0) a b ha' hb' hab;have h3:(funs p)[a]<(funs p)[b]:=h2;omega
theorem laySy_len (p:List PLine):∀ (A:List (Nat×List ItL)) (o:Nat),(laySy p o A).length=A.length:=by
 intro A
 induction A with
 | nil=>intro o;rfl
 | cons f r ih=>intro o;rw [laySy,List.length_cons,List.length_cons,ih]
theorem laySy_name {p:List PLine}:∀ (A:List (Nat×List ItL)) (o:Nat),∀ s ∈ laySy p o A,∃ f ∈ A,s.name=nameAt p f.1:=by
 intro A
 induction A with
 | nil=>intro o s hs;cases hs
 | cons f r ih =>
  intro o s hs;rw [laySy] at hs
  rcases List.mem_cons.1 hs with rfl|hs
  ·exact ⟨f,List.mem_cons_self ..,rfl⟩
  ·obtain ⟨g,hg,e⟩:=ih _ s hs
   exact ⟨g,List.mem_cons_of_mem _ hg,e⟩
structure ImgA (p:List PLine) (A:List (Nat×List ItL)):Prop where
 ok:imgB (layC 0 A) (laySy p 0 A)=true
 len:(layC 0 A).length≤90000
 syl:(laySy p 0 A).length=A.length
 cnt:A.length≤6
 nms:∀ s ∈ laySy p 0 A,s.name.size≤1048576
 pll:(layP 0 A).length≤18000
 off:∀ y ∈ layP 0 A,y.1≤90000∧insB ⟨y.2.code,y.2.arg⟩=true
 plc:∀ y ∈ layP 0 A,decZ (layC 0 A) (y.1:Int)=some (⟨y.2.code,y.2.arg⟩,1+widN y.2.code)
 ju:∀ y ∈ layP 0 A,y.2.code=10∨y.2.code=11→∃ tt:Nat,(y.1:Int)+((1+widN y.2.code:Nat):Int)+y.2.arg=(tt:Int)∧(tt:Int) ∈ (layP 0 A).map (fun z=>((z.1:Nat):Int))∧symZ (laySy p 0 A) (tt:Int)=symZ (laySy p 0 A) (y.1:Int)
theorem img_all {p:List PLine} (ho:OkI p) {LF:Nat→List ItL} (hFI:∀ f (hf:f<(funs p).length),FnIt p (funs p)[f] (LF f)) (sp:Bool) (im:Nat):ImgA p (fnsIm p sp im LF (funs p).length):=by
 obtain ⟨h1,h2⟩:=fns_ok ho hFI sp im;have hAl:=fnsIm_len p sp im LF (funs p).length;have hn6:(funs p).length≤6:=ho.2.1.1;obtain ⟨A,hA⟩:∃ A,fnsIm p sp im LF (funs p).length=A:=⟨_,rfl⟩;rw [hA] at h1 h2 hAl ⊢;have hF:∀ f ∈ A,FnIt p f.1 f.2:=fun f hf=>(h1 f hf).1
 have hC:=layC_small A 0 hF;have hP:=layP_len A 0 hF;have hI:=lay_img A 0 [] [] rfl h1 h2 (fun f _=>by simp);have hO:=layP_off A 0 hF;have hK:=plc_ok hF;refine ⟨?_,by omega,laySy_len p A 0,by omega,fun s hs=>?_,by omega,fun y hy=>⟨by have:=(hO y hy).1;omega,(hO y hy).2.2⟩,fun y hy=>(hK y hy).dec,fun y hy hj=>?_⟩
 ·unfold imgB
  rw [decide_eq_true (by omega)];exact hI
 ·obtain ⟨f,hf,e⟩:=laySy_name A 0 s hs
  rw [e]
  have:=(nameB_size _ (h1 f hf).2)
  omega
 ·obtain ⟨tt,t1,⟨it,t2⟩,t3⟩:=(hK y hy).ju hj
  refine ⟨tt,t1,List.mem_map.2 ⟨(tt,it),t2,rfl⟩,?_⟩;exact (same_sym p A 0 0 y.1 tt (by omega) t3).symm
def cntI (p:List PLine) (sp:Bool) (LF:Nat→List ItL):Nat→Nat
 | 0=>0
 | q+1=>cntI p sp LF q+(fnsIm p sp q LF (funs p).length).length
theorem cntI_two (p:List PLine) (sp:Bool) (LF:Nat→List ItL):cntI p sp LF 2=(funs p).length:=by
 show 0+_+_=_
 rw [Nat.zero_add];exact fnsIm_both p sp LF LF _
end Go.Proofs.YtcflojdkaddemaaGreatDoor
