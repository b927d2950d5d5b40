/- Parts of the proof. -/
import Derived.Test.YtcflojdkaddemaaGreatDoorI06
import Derived.RangeFuncLeaves
import Derived.Defers
namespace Go.Proofs.YtcflojdkaddemaaGreatDoor
open Go.RowKit Go.Lib
theorem add_plain8 (g o k:Nat):(⟨g,o,none⟩:Addr).add k=⟨g,o+k,none⟩:=by
 unfold Addr.add
 by_cases h:k=0
 ·subst h;rfl
 ·simp [h]
theorem run_from {P:Program} {t e:TypeId} (ht:P.underlying t=some (.slice e)) (hs:∀ W,(sizeOf e).run P W=.ok 1 W) (a:Option Addr) (n k c:Nat) (hk:k≤n) (hc:n≤c) (hz:a=none→c=0) (h0:∀ g o r,a=some ⟨g,o,r⟩→o=0∧r=none) :
  ∃ a',(∀ g o,a'=some ⟨g,o,none⟩→∃ o1,a=some ⟨g,o1,none⟩)∧(∀ w l,l.length=n→ReadS w a l→ReadO w a' (l.drop k))∧∀ W:World,(Instr.slice t (.slice a n c) (some (.int .i64 (k:Int))) none none).run P W=.ok (.slice a' (n - k) (c - k)) W:=by
 have hb:∀ W:World,(Instr.sliceBounds true n c (some (.int .i64 (k:Int))) none none).run P W=.ok (k,n,c) W:=fun W=>by
  simp [Instr.sliceBounds,Instr.sliceBound,asIntOf];omega
 cases a with
 | none =>
  have hc0:=hz rfl;obtain rfl:n=0:=by omega
  obtain rfl:k=0:=by omega
  subst hc0;refine ⟨none,fun g o h=>(nomatch h),fun w l hl _ j hj=>by rw [List.length_drop,hl] at hj;omega,fun W=>?_⟩;have hb0:=hb W;simp only [Int.ofNat_zero,Int.natCast_zero] at hb0;have hb1:(Instr.sliceBounds true 0 0 (some (.int .i64 (0:Int))) none none).run P W=.ok (0,0,0) W:=hb0;unfold Instr.slice;simp [run_underlying ht,hb1,hs]
 | some x =>
  obtain ⟨g,o,r⟩:=x;obtain ⟨rfl,rfl⟩:=h0 g o r rfl
  by_cases h1:c=k
  ·obtain rfl:n=k:=by omega
   subst h1;refine ⟨some ⟨g,0,none⟩,fun g' o' h=>⟨0,(by injection h with h;injection h with h;rw [h])⟩,fun w l hl _ j hj=>by rw [List.length_drop,hl] at hj;omega,fun W=>?_⟩;unfold Instr.slice;simp [run_underlying ht,hb,hs]
  ·refine ⟨some ⟨g,k,none⟩,fun g' o' h=>⟨0,(by injection h with h;injection h with h;rw [h])⟩,fun w l hl hr j hj=>?_,fun W=>?_⟩
   ·rw [List.length_drop] at hj
    obtain ⟨g1,e1,c1⟩:=hr (k+j) (by omega);injection e1 with e1
    injection e1 with e1
    subst e1;refine ⟨g,k,rfl,?_⟩;rw [List.getElem_drop];exact c1
   ·unfold Instr.slice
    have h2:¬ c - k=0:=by omega
    simp [run_underlying ht,hb,hs,h1,h2,add_plain8]
end Go.Proofs.YtcflojdkaddemaaGreatDoor

namespace Go.Proofs.YtcflojdkaddemaaGreatDoor
open Go.RowKit Go.Lib
theorem locF_nodup (l:List PLine):∀ v:List ByteArray,v.Nodup→(locF v l).Nodup:=by
 induction l with
 | nil=>intro v h;exact h
 | cons x r ih =>
  intro v h;rw [locF]
  split
  ·rename_i hc
   refine ih _ (List.nodup_append.2 ⟨h,by simp,fun a ha b hb e=>?_⟩);obtain rfl:=List.mem_singleton.1 hb;subst e
   have:=hc.2
   unfold memB at this;simp at this;exact this _ ha rfl
  ·exact ih v h
theorem locF_all (Q:ByteArray→Prop) (l:List PLine):∀ v:List ByteArray,(∀ x ∈ v,Q x)→(∀ x ∈ l,x.kind=1→Q x.name)→∀ x ∈ locF v l,Q x:=by
 induction l with
 | nil=>intro v h _;exact h
 | cons x r ih =>
  intro v h hl;rw [locF]
  split
  ·rename_i hc
   refine ih _ (fun y hy=>?_) (fun y hy=>hl y (List.mem_cons_of_mem _ hy))
   rcases List.mem_append.1 hy with hy|hy
   ·exact h y hy
   ·rw [List.mem_singleton.1 hy];exact hl x (List.mem_cons_self ..) hc.1
  ·exact ih v h (fun y hy=>hl y (List.mem_cons_of_mem _ hy))
theorem loc_nodup {p:List PLine} {f:Nat} (ho:OkI p) (hf:f ∈ funs p):(locZ p (f:Int)).Nodup:=by
 obtain ⟨hl,h0,_,_,hloc⟩:=fun_parts ho hf;obtain ⟨_,_,_,_,hn⟩:=loc_args ho hf;rw [hloc];exact locF_nodup _ _ hn
theorem loc_sizes {p:List PLine} {f:Nat} (ho:OkI p) (hf:f ∈ funs p):∀ x ∈ locZ p (f:Int),x.size≤maxLen:=by
 obtain ⟨hl,h0,_,_,hloc⟩:=fun_parts ho hf;rw [hloc];refine locF_all (fun x=>x.size≤maxLen) _ _ (fun x hx=>?_) (fun x hx h1=>?_)
 ·have h:=((lineB_iff _).1 (ho.1.2 _ (List.getElem_mem hl))).2.2.1
  have h2:=((diffB_iff _).1 (af_small _ _ h).2).1 x hx
  have:=(nameB_size _ h2).2.1
  unfold maxLen;omega
 ·have hm:x ∈ p:=by
   unfold segZ at hx;exact List.mem_of_mem_drop (List.mem_of_mem_take hx)
  have h2:=((lineB_iff _).1 (ho.1.2 _ hm)).2.1;rw [h1] at h2;have h4:nameB x.name=true:=h2
  have:=(nameB_size _ h4).2.1
  unfold maxLen;omega
end Go.Proofs.YtcflojdkaddemaaGreatDoor

namespace Go.Proofs.YtcflojdkaddemaaGreatDoor
open Go.RowKit Go.Lib Go.ChangeShapes Go.WideShapes Go.Deep
structure SyL where
 name:ByteArray
 start:Int
 size:Int
def syV (t:SyL):List Value:=[.string t.name,.int .i64 t.start,.int .i64 t.size]
def sysV (l:List SyL):List Value:=l.flatMap syV
theorem syV_length (t:SyL):(syV t).length=3:=rfl
theorem sysV_length (l:List SyL):(sysV l).length=l.length*3:=by
 induction l with
 | nil=>rfl
 | cons t r ih=>simp only [sysV,List.flatMap_cons,List.length_append,syV_length,List.length_cons] at ih ⊢;omega
theorem sysV_append (a b:List SyL):sysV (a++b)=sysV a++sysV b:=by simp [sysV]
theorem sysV_one (t:SyL):sysV [t]=syV t:=by simp [sysV]
theorem sysV_get (l:List SyL) (j i:Nat) (h:j<l.length) (hi:i<3):(sysV l)[j*3+i]?=(syV l[j])[i]?:=by
 induction l generalizing j with
 | nil=>simp at h
 | cons t r ih =>
  cases j with
  | zero =>
   simp only [sysV,List.flatMap_cons,Nat.zero_mul,Nat.zero_add,List.getElem_cons_zero];rw [List.getElem?_append_left (by rw [syV_length];exact hi)]
  | succ j =>
   have e:(j+1)*3+i=3+(j*3+i):=by omega
   simp only [sysV,List.flatMap_cons,List.getElem_cons_succ] at ih ⊢;rw [e,List.getElem?_append_right (by rw [syV_length];omega),syV_length,Nat.add_sub_cancel_left];exact ih j (by simpa using h)
def ReadSy (w:World) (a:Option Addr) (l:List SyL):Prop :=
 ∀ j (h:j<l.length),∃ g,a=some ⟨g,0,none⟩∧g<w.heap.size∧w.cell? ⟨g,j*3,none⟩=some (.string l[j].name)∧w.cell? ⟨g,j*3+1,none⟩=some (.int .i64 l[j].start)∧w.cell? ⟨g,j*3+2,none⟩=some (.int .i64 l[j].size)
theorem readSy_of {B T c:Nat} {w:World} {a:Option Addr} {l:List SyL} (h:w.ownsRow B T 3 (.slice a l.length c) l.length (sysV l)):ReadSy w a l:=by
 intro j hj
 rcases h.2 with ⟨he,h0⟩|⟨g,cap,cur,he,hB,hg,_⟩
 ·omega
 ·have ha:a=some ⟨g,0,none⟩:=by injection he
  subst ha;have hlt:g<w.heap.size:=by
   rcases Nat.lt_or_ge g w.heap.size with h|h
   ·exact h
   ·rw [Array.getElem?_eq_none h] at hg;cases hg
  refine ⟨g,rfl,hlt,?_,?_,?_⟩
  ·rw [h.cellAt _ (by omega)];exact sysV_get l j 0 hj (by omega)
  ·rw [h.cellAt _ (by omega)];exact sysV_get l j 1 hj (by omega)
  ·rw [h.cellAt _ (by omega)];exact sysV_get l j 2 hj (by omega)
theorem ReadSy.below {w w':World} {a:Option Addr} {l:List SyL} (h:ReadSy w a l) (hb:Below w.heap.size w w'):ReadSy w' a l:=by
 intro j hj;obtain ⟨g,e,hg,c0,c1,c2⟩:=h j hj;exact ⟨g,e,Nat.lt_of_lt_of_le hg hb.size,(hb.cell (p:=⟨g,_,none⟩) hg).trans c0,(hb.cell (p:=⟨g,_,none⟩) hg).trans c1,(hb.cell (p:=⟨g,_,none⟩) hg).trans c2⟩
section
variable {H:Type} {enc:TypeId×Value→H} {P:Program} {w:World} {base:Nat} {spare:Nat→Bool} {held:Bool}
end
def syIn (x:SyL) (o:Int):Bool:=(decide (0≤x.start)&&decide (x.start≤1000000))&&((decide (0≤x.size)&&decide (x.size≤1000000))&&(decide (x.start≤o)&&decide (o<x.start+x.size)))
def symF (o:Int):Nat→List SyL→Int
 | _,[]=>-1
 | k,x :: r=>if syIn x o=true then (k:Int) else symF o (k+1) r
def symZ (l:List SyL) (o:Int):Int:=symF o 0 l
theorem symF_at (l:List SyL) (o:Int) (k:Nat) (h:k<l.length):symF o k (l.drop k)=if syIn l[k] o=true then (k:Int) else symF o (k+1) (l.drop (k+1)):=by
 rw [List.drop_eq_getElem_cons h];rfl
theorem symF_out (l:List SyL) (o:Int) (k:Nat) (h:l.length≤k):symF o k (l.drop k)=-1:=by rw [List.drop_eq_nil_of_le h];rfl
def imgF (c:List UInt8):List ByteArray→Nat→List SyL→Bool
 | _,a,[]=>decide (a=c.length)
 | seen,a,x :: r=>(decide (x.start=(a:Int))&&(decide (1≤x.size)&&decide (x.size≤(c.length:Int) - (a:Int))))&&(nameB x.name&&(!(seen.any fun n=>decide (n=x.name))&&((disZ ((c.drop a).take x.size.toNat)).isSome&&imgF c (x.name :: seen) (a+x.size.toNat) r)))
def imgB (c:List UInt8) (l:List SyL):Bool:=decide (c.length≤1000000)&&imgF c [] 0 l
end Go.Proofs.YtcflojdkaddemaaGreatDoor

namespace Go.Proofs.YtcflojdkaddemaaGreatDoor
open Go.RowKit Go.Lib
structure NoInl (p:List PLine) (g:Nat) (L:List ItL):Prop where
  ch:∀ x ∈ L,x.chain=[]
  ca:callI L=callL p g (beZ p (g:Int)).toNat
  ne:0<L.length
theorem itV_at (X:List ItW) (j:Nat) (h:j<X.length) (i:Nat) (hi:i<7):(itV X)[j*7+i]?=(itC X[j])[i]?:=by
  unfold itV
  induction X generalizing j with
  | nil=>cases h
  | cons x r ih =>
    cases j with
    | zero =>
      rw [List.flatMap_cons,Nat.zero_mul,Nat.zero_add,List.getElem_cons_zero,List.getElem?_append_left (by simp [itC];omega)]
    | succ j =>
      rw [List.flatMap_cons,List.getElem_cons_succ,List.getElem?_append_right (by simp [itC];omega),← ih j (by simpa using h)]
      congr 1
      simp [itC];omega
end Go.Proofs.YtcflojdkaddemaaGreatDoor

namespace Go.Proofs.YtcflojdkaddemaaGreatDoor
open Go.RowKit Go.Lib
def startsL (l:List ItL):List Int:=(l.filter fun x=>x.start&&x.chain.isEmpty).map fun x=>(x.line:Int)
structure ItsL (p:List PLine) (inl g:Nat) (L:List ItL):Prop where
 it:∀ x ∈ L,(x.code=10∨x.code=11→0≤x.arg∧x.arg<(L.length:Int))∧x.chain.length≤inl∧x.line<p.length
 st:∀ j (h:j<p.length),g<j→(j:Int)<beZ p (g:Int)→p[j].expr≠[]→(j:Int) ∈ startsL L
 hd:HeadOk L
 n3:3≤L.length
end Go.Proofs.YtcflojdkaddemaaGreatDoor

namespace Go.Proofs.YtcflojdkaddemaaGreatDoor
open Go
def LeavesU (P:Program) (fn:Func) (tmps:Array Value) (R:Ending→World→Prop):List Deferred→FrameMode→World→Prop
 | [],.returning,w=>∃ v,(results fn tmps).run P w=.ok v w∧R (.returned v) w
 | [],.panicking chain,w=>R (.panicked chain) w
 | [],.run,_=>False
 | d :: ds,u,w=>u≠.run∧∃ r w',d.target=.collected r∧(Instr.takeDeferred r).run P w=.ok [] w'∧LeavesU P fn tmps R ds u w'
theorem leavesU_tmps {P:Program} {fn:Func} {R:Ending→World→Prop} (h:∀ t t':Array Value,results fn t=results fn t') (t t':Array Value):∀ (ds:List Deferred) (u:FrameMode) (w:World),LeavesU P fn t R ds u w→LeavesU P fn t' R ds u w:=by
 intro ds
 induction ds with
 | nil =>
  intro u w hl
  cases u with
  | run=>exact hl
  | returning =>
   obtain ⟨v,hv,hR⟩:=hl;exact ⟨v,by rw [← h t t'];exact hv,hR⟩
  | panicking chain=>exact hl
 | cons d ds ih =>
  rintro u w ⟨h1,r,w',h2,h3,h4⟩;exact ⟨h1,r,w',h2,h3,ih u w' h4⟩
theorem leaves_stepsU {P:Program} {fn:Func} {tmps:Array Value} {R:Ending→World→Prop}:∀ (ds:List Deferred) (u:FrameMode) (w:World) (fr:Frame)
  (cs:List Frame),fr.mode=u→fr.defers=ds→fr.tmps=tmps→P.funcs[fr.fn]?=some fn→fr.kind=.normal→LeavesU P fn tmps R ds u w →
  ∃ e w' fr',R e w'∧Comes P (lone fr cs w) (lone fr' cs w') e∧fr'.fn=fr.fn∧fr'.leaving P w' e:=by
 intro ds
 induction ds with
 | nil =>
  intro u w fr cs hu hd ht hf hk h
  cases u with
  | run=>exact h.elim
  | returning =>
   obtain ⟨v,hr,hR⟩:=h;exact ⟨.returned v,w,fr,hR,Steps.refl P _,rfl,hu,hd,hk,fn,hf,ht▸hr⟩
  | panicking chain=>exact ⟨.panicked chain,w,fr,h,Steps.refl P _,rfl,hu,hd,fn,hf⟩
 | cons d ds ih =>
  intro u w fr cs hu hd ht hf hk h;obtain ⟨hrun,r,w',htar,htake,hrest⟩:=h;have h1:=step_collected (cs:=cs) (hu▸hrun) hd htar htake;obtain ⟨e',w'',fr',hR',hs',hfn',hl'⟩:=ih u w' { fr with defers:=[]++ds } cs hu rfl ht hf hk hrest;exact ⟨e',w'',fr',hR',Comes.of_steps (.one h1) hs',hfn',hl'⟩
def bodyPostU (P:Program) (fn:Func) (R:Ending→World→Prop):Exit→Act→World→Prop
 | .normal,a,w|.ret,a,w=>LeavesU P fn a.tmps R a.defers .returning w
 | .panic chain,a,w=>LeavesU P fn a.tmps R a.defers (.panicking chain) w
 | .outgrown,_,w=>R .outgrown w
 | _,_,_=>False
theorem calls_of_wp_marksU {P:Program} {f:FuncId} {fn:Func} {c:Code} {args:Array Value} {w:World} {R:Ending→World→Prop}
  (hf:P.funcs[f]?=some fn) (hb:fn.body=some c)
  (h:c.wp P (bodyPostU P fn R) { tmps:=args++Array.replicate (fn.ntmps - args.size) undef,defers:=[] } w):Calls P f args w R:=by
 intro cs
 let b:Frame:={ (default:Frame) with fn:=f,kind:=.normal }
 have henter:Frame.enter P f args .normal =
   b.at { tmps:=args++Array.replicate (fn.ntmps - args.size) undef,defers:=[] } [.code c]:=by
  simp [Frame.enter,Frame.at,hf,hb,b]
 obtain ⟨e,a',w',hq,harr⟩:=h b [] cs;rw [← henter] at harr
 cases e with
 | normal =>
  obtain ⟨e',w'',fr',hR,hs,hfn,hl⟩:=leaves_stepsU a'.defers .returning w' { b.at a' [] with mode:=.returning } cs rfl rfl rfl hf rfl hq;exact ⟨e',w'',fr',hR,Comes.of_steps (Steps.trans harr (.one step_end)) hs,hfn,hl⟩
 | ret =>
  obtain ⟨todo,hs₀⟩:=harr;obtain ⟨e',w'',fr',hR,hs,hfn,hl⟩:=leaves_stepsU a'.defers .returning w' { b.at a' todo with mode:=.returning } cs rfl rfl rfl hf rfl hq;exact ⟨e',w'',fr',hR,Comes.of_steps hs₀ hs,hfn,hl⟩
 | panic chain =>
  obtain ⟨todo,hs₀⟩:=harr;obtain ⟨e',w'',fr',hR,hs,hfn,hl⟩:=leaves_stepsU a'.defers (.panicking chain) w' { b.at a' todo with mode:=.panicking chain } cs rfl rfl rfl hf rfl hq;exact ⟨e',w'',fr',hR,Comes.of_steps hs₀ hs,hfn,hl⟩
 | exit id=>exact hq.elim
 | goto l=>exact hq.elim
 | outgrown=>exact ⟨.outgrown,w',b,hq,harr.resolve_left (by simp [b]),rfl,trivial⟩
end Go.Proofs.YtcflojdkaddemaaGreatDoor

namespace Go.Proofs.YtcflojdkaddemaaGreatDoor
open Go.RowKit Go.Lib
end Go.Proofs.YtcflojdkaddemaaGreatDoor

namespace Go.Proofs.YtcflojdkaddemaaGreatDoor
open Go.RowKit Go.Lib
theorem step_append_m {P:Program} (w:World) {ops:Array Oper} {o:Oper} {a:Act} {K:Act→World→Prop} {Q:Exit→Act→World→Prop} {E:Prop} (hgd:o.guard=none) (s x:Operand) (t:TypeId)
  (ho:o.op=.call { callee:=.builtin .append,args:=#[s,x],argTypes:=#[t,t] })
  (base:Nat) (e:TypeId) (i:TypeInfo) (z:Value) (size bytes:Nat) (ht:P.underlying t=some (.slice e)) (hi:P.info? e=some i) (hz:i.zero=some z)
  (hsize:i.size=size) (hby:i.bytes=bytes) (hzs:z.cells.size=size) (hsz:0<size)
  (v:Value) (n:Nat) (xs:List Value) (hs:a.eval s=v) (hown:w.ownsRow base e size v n xs) (hv:v≠.slice none 0 0)
  (ad:Addr) (m c:Nat) (news:List Value) (hx:a.eval x=.slice (some ad) m c) (hl:news.length=m*size) (hnews:∀ j u,news[j]?=some u→w.cell? (ad.add j)=some u) (h1:∀ u ∈ news,u.oneCell'=true)
  (h63:n+m≤maxLen) (hbytes:(n+m)*bytes≤140737488355328) (hbase:base≤w.heap.size)
  (N:Nat) (hN:n+m=N) (h:∀ g cap w',w'.ownsRow base e size (.slice (some ⟨g,0,none⟩) N cap) N (xs++news)→w.grownBy w' v.ownBlock→K (a.put o.dst (.slice (some ⟨g,0,none⟩) N cap)) w') :
  if Region.wanted o (yielded ops a.tmps)=true then Oper.wp P o a w K Q else E:=by
 subst hN;have hw:Region.wanted o (yielded ops a.tmps)=true:=by simp [Region.wanted,hgd]
 rw [if_pos hw];obtain ⟨v',w',hr,h2,h3,h4,_⟩:=run_append_own_at (P:=P) w base t o.type e i z size bytes ht hi hz hsize hby hzs hsz v n xs hown ad m c news hl hnews h1 h63 hbytes hbase;unfold Oper.wp execOp;simp only [ho,resolve,invoke,builtin,Sem.run_bind,Sem.run_pure,Result.andThen_ok,List.map_toArray,List.map_cons,List.map_nil,hs,hx,hr]
 rcases h2.2 with ⟨e0,_⟩|⟨g,cap,cur,rfl,_⟩
 ·exact absurd (h4.1 e0).1 hv
 ·exact h g cap w' h2 h3
theorem grown_none {w w1 w2:World} {r:Option Nat} (h1:w.grownBy w1 none) (h2:w1.grownBy w2 r) (hr:∀ g,r=some g→w.heap.size≤g):w.grownBy w2 none :=
 ⟨h2.os.trans h1.os,h2.tape.trans h1.tape,h2.output.trans h1.output,Nat.le_trans h1.size h2.size,fun j hj hne=>(h2.block j (Nat.lt_of_lt_of_le hj h1.size) (fun e=>by have:=hr _ e.symm;omega)).trans (h1.block j hj hne)⟩
theorem none_some {w w':World} {c:Nat} (h:w.grownBy w' none):w.grownBy w' (some c):=⟨h.os,h.tape,h.output,h.size,fun j hj _=>h.block j hj (fun e=>by cases e)⟩
theorem grown_dr {w w1:World} {r:Option Nat} (h:w.grownBy w1 r):w.grownBy w1.drew r:=⟨h.os,h.tape,h.output,h.size,h.block⟩
theorem grown_al {w w1:World} (h:w.grownBy w1 none) (o:Obj):w.grownBy (w1.alloc o) none:=grown_none h (grown_alloc' w1 o none) (fun g e=>by cases e)
theorem news_none {w w':World} {b:Nat} {l:List Value} (h:∀ j u,l[j]?=some u→w.cell? ((⟨b,0,none⟩:Addr).add j)=some u) (hb:b<w.heap.size) (hg:w.grownBy w' none):∀ j u,l[j]?=some u→w'.cell? ((⟨b,0,none⟩:Addr).add j)=some u:=by
 intro j u hu
 have:=h j u hu
 rw [add_plain] at this ⊢;exact hg.cell this (fun e=>by cases e)
theorem own_empty (w:World) (T:TypeId):(w.alloc (.cells #[] T)).ownsRow w.heap.size T 1 (.slice (some ⟨w.heap.size,0,none⟩) 0 0) 0 []:=World.ownsRow_lit w #[] 0 (Nat.le_refl _) (by decide) rfl
theorem own_empty' (w:World) (o:Obj) (T:TypeId):((w.alloc o).alloc (.cells #[] T)).ownsRow w.heap.size T 1 (.slice (some ⟨w.heap.size+1,0,none⟩) 0 0) 0 []:=by
 have h:((w.alloc o).alloc (.cells #[] T)).ownsRow w.heap.size T 1 (.slice (some ⟨(w.alloc o).heap.size,0,none⟩) 0 0) 0 []:=World.ownsRow_lit (w.alloc o) #[] 0 (by simp) (by decide) rfl;rw [show (w.alloc o).heap.size=w.heap.size+1 from by simp] at h;exact h
theorem not_nil (g n c:Nat):Value.slice (some ⟨g,0,none⟩) n c≠.slice none 0 0:=fun e=>by injection e with e;cases e
theorem strV_one (l:List ByteArray):∀ u ∈ strV l,u.oneCell'=true:=by
 intro u hu;obtain ⟨s,_,rfl⟩:=List.mem_map.1 hu;rfl
theorem news_grown {w w':World} {b:Nat} {r:Option Nat} {l:List Value} (hg:w.grownBy w' r) (hr:some b≠r) (h:∀ j u,l[j]?=some u→w.cell? ((⟨b,0,none⟩:Addr).add j)=some u):∀ j u,l[j]?=some u→w'.cell? ((⟨b,0,none⟩:Addr).add j)=some u:=by
 intro j u hu
 have:=h j u hu
 rw [add_plain] at this ⊢;exact hg.cell this hr
theorem l_news2 (w:World) (o:Obj) (T:TypeId) (l:List ByteArray):∀ j u,(strV l)[j]?=some u→((w.alloc o).alloc (.cells (strV l).toArray T)).cell? ((⟨w.heap.size+1,0,none⟩:Addr).add j)=some u:=by
 have h:=World.news_of_block (cs:=(strV l).toArray) (t:=T) (fr:=(0,0)) (heap_alloc_new (w.alloc o) _);rw [show (w.alloc o).heap.size=w.heap.size+1 from by simp] at h;exact h
theorem l_news1 (w:World) (o:Obj) (T:TypeId) (l:List ByteArray):∀ j u,(strV l)[j]?=some u→((w.alloc (.cells (strV l).toArray T)).alloc o).cell? ((⟨w.heap.size,0,none⟩:Addr).add j)=some u :=
 news_grown (grown_alloc' _ o none) (fun e=>by cases e) (World.news_of_block (cs:=(strV l).toArray) (t:=T) (fr:=(0,0)) (heap_alloc_new w _))
theorem texts_own {w:World} {B c g n cc:Nat} {T:TypeId} {l:List ByteArray} {xs:List Value} (h:w.ownsRow B T 1 (.slice (some ⟨g,0,none⟩) n cc) n xs) (hx:strV l=xs) (hc:c<B):TextsAt c w (some ⟨g,0,none⟩) l:=by
 intro j hj;subst hx;have hl:=h.lt g rfl;refine ⟨g,0,rfl,hl.2,by omega,?_⟩
 have:=h.cells rfl j (.string l[j]) (by simp [strV,hj])
 rw [add_plain] at this;exact this
def AtGen (TG TS:TypeId) (c:Nat) (wa wx:World) (s:Value) (l:List ByteArray) (v1 v2:Value):Prop :=
 wa.grownBy wx none∧∃ g ga gc,s=.pointer (some ⟨g,0,none⟩)∧wa.heap.size≤g∧g<wx.heap.size∧wx.heap[g]?=some (.cells #[.pointer (some ⟨c,0,none⟩),.slice (some ⟨ga,0,none⟩) l.length gc,v1,v2] TG (0,0))∧TextsAt c wx (some ⟨ga,0,none⟩) l∧ga≠g∧ga≠c∧ga<wx.heap.size∧∃ cs,wx.heap[ga]?=some (.cells cs TS (0,0))
theorem at_gen {TG T:TypeId} {c g n cc:Nat} {wa w:World} {l:List ByteArray} {xs:List Value} {a b:Value} (hg:wa.grownBy w none) (h:w.ownsRow wa.heap.size T 1 (.slice (some ⟨g,0,none⟩) n cc) n xs) (hx:strV l=xs) (hc:c<wa.heap.size) (hn:l.length=n) :
  AtGen TG T c wa (w.alloc (.cells #[.pointer (some ⟨c,0,none⟩),.slice (some ⟨g,0,none⟩) n cc,a,b] TG)) (.pointer (some ⟨w.heap.size,0,none⟩)) l a b :=
 ⟨grown_al hg _,w.heap.size,g,cc,rfl,hg.size,by simp,by rw [hn];exact heap_alloc_new w _,(texts_own h hx hc).grown (grown_alloc' _ _ _),by have:=(h.lt g rfl).2;omega,by have:=(h.lt g rfl).1;omega,by have:=(h.lt g rfl).2;simp;omega,by
  rcases h.2 with ⟨e,_⟩|⟨g',cap,cur,e,_,hh,_⟩
  ·exact absurd e (not_nil _ _ _)
  ·injection e with e _ _
   injection e with e
   injection e with e _
   subst e;exact ⟨cur,(Below.heap_alloc _ _ _ (h.lt g rfl).2).trans hh⟩⟩
theorem texts_other {c g ga:Nat} {w w':World} {l:List ByteArray} (h:TextsAt c w (some ⟨ga,0,none⟩) l) (hg:w.grownBy w' (some g)) (hne:ga≠g):TextsAt c w' (some ⟨ga,0,none⟩) l:=by
 intro j hj;obtain ⟨g',o,e,h1,h2,h3⟩:=h j hj;injection e with e
 injection e with e1 e2
 subst e1 e2;exact ⟨ga,0,rfl,Nat.lt_of_lt_of_le h1 hg.size,h2,hg.cell h3 (fun e=>hne (by injection e))⟩
section
variable {T TL TS TK TG:TypeId} {w0 w w':World} {c len cap:Nat} {a:Option Addr} {z:List Int} {X:List LnL} {v:Value}
theorem St.beside (h:St T TL TS TK w0 c a len cap z X v w) {g:Nat} (hg:w.grownBy w' (some g)) {cs:Array Value} (hb:w.heap[g]?=some (.cells cs TG (0,0))) (h1:TG≠TL) (h2:TG≠TS) (h3:TG≠TK) (hw:w0.heap.size≤g) (hcw:c<w0.heap.size):St T TL TS TK w0 c a len cap z X v w':=by
 obtain ⟨s1,s2,s3,s4,s5,s6⟩:=h;have hr:∀ g',some g=some g'→w.heap.size≤g'∨∃ cs t,w.heap[g']?=some (.cells cs t (0,0))∧t≠TS∧t≠TK:=by
  rintro g' ⟨⟩;exact .inr ⟨_,_,hb,h2,h3⟩
 refine ⟨owns_other s1 hg ?_,s2,s3.other hg hr,s4,s5.kept hg (fun k e=>by injection e with e;omega),grown_new s6 hg (fun k e=>by injection e with e;omega)⟩;rintro g' ⟨⟩;exact .inr ⟨_,_,hb,h1⟩
end
theorem TextsAt.other {c:Nat} {w w':World} {a:Option Addr} {l:List ByteArray} {r:Option Nat} (h:TextsAt c w a l) (hg:w.grownBy w' r) (hr:∀ x,a=some x→some x.block≠r):TextsAt c w' a l:=by
 intro j hj;obtain ⟨g,o,e,h1,h2,h3⟩:=h j hj;exact ⟨g,o,e,Nat.lt_of_lt_of_le h1 hg.size,h2,hg.cell h3 (show some g≠r from hr _ e)⟩
theorem NumsAt.other {c:Nat} {w w':World} {a:Option Addr} {l:List Int} {r:Option Nat} (h:NumsAt c w a l) (hg:w.grownBy w' r) (hr:∀ x,a=some x→some x.block≠r):NumsAt c w' a l:=by
 intro j hj;obtain ⟨g,o,e,h1,h2,h3⟩:=h j hj;exact ⟨g,o,e,Nat.lt_of_lt_of_le h1 hg.size,h2,hg.cell h3 (show some g≠r from hr _ e)⟩
def GenIn (TG TS:TypeId) (B:Nat) (c:Nat) (w:World) (g ga:Nat) (na aa:Option Addr) (lv ln:List ByteArray) (la:List Int) (vc nc ac:Nat):Prop :=
 GenAt TG c w g (some ⟨ga,0,none⟩) na aa lv ln la vc nc ac∧ga≠c∧(∃ cs,w.heap[ga]?=some (.cells cs TS (0,0)))∧(∀ x,na=some x→x.block<B)∧(∀ x,aa=some x→x.block<B)
section
variable {T TG TL TS TK:TypeId} {B c g ga vc nc ac len cap:Nat} {w w' w0:World} {na aa:Option Addr} {lv ln:List ByteArray} {la:List Int} {a:Option Addr} {z:List Int} {X:List LnL} {v:Value}
theorem lt_of_block {w:World} {b:Nat} {o:Obj} (h:w.heap[b]?=some o):b<w.heap.size:=by
 rcases Nat.lt_or_ge b w.heap.size with h'|h'
 ·exact h'
 ·rw [Array.getElem?_eq_none h'] at h;cases h
theorem GenIn.grown (h:GenIn TG TS B c w g ga na aa lv ln la vc nc ac) (hg:w.grownBy w' (some c)):GenIn TG TS B c w' g ga na aa lv ln la vc nc ac:=by
 obtain ⟨h1,h2,⟨cs,h3⟩,h4⟩:=h;exact ⟨h1.grown hg,h2,⟨cs,(hg.block _ (lt_of_block h3) (fun e=>h2 (Option.some.inj e))).trans h3⟩,h4⟩
theorem St.blk (h:St T TL TS TK w0 c a len cap z X v w) {b:Nat} {cs:Array Value} {TG:TypeId} (hb:w.heap[b]?=some (.cells cs TG (0,0))) (hne:TG≠TL):some b≠v.ownBlock:=by
 intro e
 rcases h.1.2 with ⟨rfl,_⟩|⟨g,cp,cur,rfl,_,hh,_⟩
 ·simp [Value.ownBlock] at e
 ·have:b=g:=by simpa [Value.ownBlock] using e
  subst this;rw [hh] at hb;injection hb with hb
  injection hb with _ ht
  exact hne ht.symm
theorem GenIn.rows (h:GenIn TG TS w0.heap.size c w g ga na aa lv ln la vc nc ac) (hs:St T TL TS TK w0 c a len cap z X v w) (hg:w.grownBy w' v.ownBlock) (n1:TG≠TL) (n2:TS≠TL):GenIn TG TS w0.heap.size c w' g ga na aa lv ln la vc nc ac:=by
 obtain ⟨⟨g1,g2,g3,g4,g5⟩,h2,⟨cs,h3⟩,h4,h5⟩:=h;have b1:=hs.blk g2 n1;have b2:=hs.blk h3 n2;have lo:∀ b,b<w0.heap.size→some b≠v.ownBlock:=fun b hb e=>by have:=(hs.1.lt b e.symm).1;omega
 refine ⟨⟨g1,(hg.block _ (lt_of_block g2) b1).trans g2,g3.other hg ?_,g4.other hg (fun x e=>lo _ (h4 x e)),g5.other hg (fun x e=>lo _ (h5 x e))⟩,h2,⟨cs,(hg.block _ (lt_of_block h3) b2).trans h3⟩,h4,h5⟩;rintro x ⟨⟩;exact b2
end
end Go.Proofs.YtcflojdkaddemaaGreatDoor

namespace Go.Proofs.YtcflojdkaddemaaGreatDoor
open Go.RowKit Go.Lib
theorem LnOk.line {x:LnL} (h:LnOk x):lineB x.p=true:=by
 rw [lineB_iff];obtain ⟨k,nm,gs,ex,va,ve⟩:=x;unfold LnOk at h;dsimp only [LnL.p] at h ⊢
 rcases h with ⟨rfl,h1,h2,h3,h4,rfl⟩|⟨rfl,h1,rfl,h2⟩|⟨hk,rfl,rfl,h2⟩|⟨hk,rfl,rfl,rfl⟩
 ·refine ⟨by omega,by simp [nfB,namedB,h1],?_,by simp [efB,exprK]⟩
  unfold afB;rw [if_pos (by simp),decide_eq_true h4,(diffB_iff gs).2 ⟨h2,h3⟩];rfl
 ·exact ⟨by omega,by simp [nfB,namedB,h1],by simp [afB],by simp [efB,exprK,h2]⟩
 ·rcases hk with rfl|rfl|rfl|rfl
  all_goals exact ⟨by omega,by simp [nfB,namedB];rfl,by simp [afB],by simp [efB,exprK,h2]⟩
 ·rcases hk with rfl|rfl
  all_goals exact ⟨by omega,by simp [nfB,namedB];rfl,by simp [afB],by simp [efB,exprK]⟩
theorem line_small (p:PLine) (h:lineB p=true):SmallL p:=by
 have h1:=line_name8 p h;have h2:=line_args p h;have h3:=line_arg8 p h;have h4:=(ef_small _ _ ((lineB_iff p).1 h).2.2.2).1;refine ⟨by omega,by omega,fun s hs=>by have:=h3 s hs;omega,by omega,fun t ht=>?_⟩
 rcases line_expr p h with he|he
 ·rw [he] at ht;cases ht
 ·have:=tok_name _ (expr_toks _ he t ht);omega
end Go.Proofs.YtcflojdkaddemaaGreatDoor
