/- Parts of the proof. -/
import Derived.Test.YtcflojdkaddemaaGreatDoorI29
import Derived.RangeFuncCalls
import Derived.OrdersIn
import Derived.RowsInLaws
namespace Go.Proofs.YtcflojdkaddemaaGreatDoor
open Go.RowKit Go.Shelf Go.Lib Go.Maps
abbrev BkT (zs:List ByteArray):={ x:Nat×ByteArray // (zs.length=0∨x.1<zs.length)∧x.2=(zs[x.1]?).getD ⟨#[]⟩ }
def bkAt (zs:List ByteArray) (j:Nat):BkT zs:=⟨(zs.length - 1 - j,(zs[zs.length - 1 - j]?).getD ⟨#[]⟩),by simp only;omega,rfl⟩
def backT (zs:List ByteArray) (k:Nat):List (BkT zs):=(List.range k).map (bkAt zs)
theorem backT_succ (zs:List ByteArray) (k:Nat):backT zs (k+1)=backT zs k++[bkAt zs k]:=by simp [backT,List.range_succ]
theorem backT_length (zs:List ByteArray) (k:Nat):(backT zs k).length=k:=by simp [backT]
section
attribute [local go_sem] Oper.semAt_some
set_option maxRecDepth 100000 in
set_option maxHeartbeats 2000000 in
theorem back_inT (F:Fence) (n:Nat) (hf:F.fn 235) (hro:F.round=none) (hn:1≤n) (l Bs b cap:Nat) (a:Option Addr) (zs:List ByteArray) (hlen:zs.length≤1000) (ha:0<zs.length→a=some ⟨b,0,none⟩) (J Jx:List (BkT zs)→World→Prop)
  (hY:∀ pre (x:BkT zs) W,J pre W→pre.length<zs.length→YieldAt F (n - 1) Tryz.prog l #[.int .i64 (x.1.1:Int),.string x.1.2] W fun e W' =>
   (e=.returned (.bool true)∧J (pre++[x]) W'∧Kp2 b Bs W W')∨(e=.returned (.bool false)∧Jx (pre++[x]) W'))
  (W:World) (hBs:W.cell? ⟨Bs,0,none⟩=some (.slice a zs.length cap)) (hc:∀ j,∀ h:j<zs.length,W.cell? ⟨b,j,none⟩=some (.string zs[j])) (h0:J [] W) :
  CallsIn F n Tryz.prog 235 #[.func (.yield l) #[] #[],.pointer (some ⟨Bs,0,none⟩)] W fun e W'=>(∃ v,e=.returned v) ∧
   ((∃ ys,ys=backT zs zs.length∧J ys W')∨(∃ pre,(∃ k,k≤zs.length∧pre=backT zs k)∧Jx pre W')):=by
 refine callsIn_of_wp Tryz.func235 rfl hf ?_ hro;simp only [Tryz.ntmps235,List.size_toArray,List.length_cons,List.length_nil,Nat.reduceAdd,Nat.reduceSub,Array.replicate_succ,Array.replicate_zero,List.push_toArray,List.append_toArray,List.nil_append,List.cons_append];obtain ⟨m,hm⟩:∃ m,zs.length=m:=⟨_,rfl⟩;rw [hm] at hBs;have HM:=hid hm;have HCC:=hid hc;have HYY:=hid hY;have HAA:=hid ha;have hml:m≤1000:=by omega
 have u0:IntKind.i64.wrap ((m:Int) - 1)=(m:Int) - 1:=IntWalk.i64_in _ (by omega);clear hc hY hm hlen ha
 gi_wp2
 gi_loopw [3] (fun i wr=>∃ k:Nat,k≤m∧i=.int .i64 ((m:Int) - 1 - (k:Int))∧J (backT zs k) wr∧Kp2 b Bs W wr)
  (fun i _=>(RowKit.intOf i+1).toNat)
 case atStart=>exact ⟨0,Nat.zero_le _,by go_num,h0,⟨rfl,rfl⟩⟩
 case round =>
  obtain ⟨k,hk,rfl,hJs,hnx⟩:=hrel;have hbs2:wr.cell? ⟨Bs,0,none⟩=some (.slice a m cap):=(World.cell?_of_block (a:=⟨Bs,0,none⟩) hnx.2).trans hBs
  by_cases hlt:k<m
  ·have hx:(zs[zs.length - 1 - k]?).getD ⟨#[]⟩=zs[zs.length - 1 - k]'(by have:=HM.out;omega):=by rw [List.getElem?_eq_getElem (by have:=HM.out;omega)];rfl
   have hcx:wr.cell? ⟨b,zs.length - 1 - k,none⟩=some (.string ((zs[zs.length - 1 - k]?).getD ⟨#[]⟩)):=by rw [hx];exact (World.cell?_of_block (a:=⟨b,zs.length - 1 - k,none⟩) hnx.1).trans (HCC.out _ _)
   obtain ⟨fn,tmps,assign,body,hy,hR⟩:=HYY.out _ (bkAt zs k) wr hJs (by rw [backT_length];have:=HM.out;omega);have hbk:=backT_succ zs k;have ha:=HAA.out (by have:=HM.out;omega);subst ha;obtain ⟨X,hX⟩:∃ X,bkAt zs k=X:=⟨_,rfl⟩;have e1:X.1.1=zs.length - 1 - k:=by rw [← hX];rfl
   have e2:X.1.2=(zs[zs.length - 1 - k]?).getD ⟨#[]⟩:=by rw [← hX];rfl
   rw [hX] at hy hR hbk;rw [← e2,← e1] at hcx;have hqi:(m:Int) - 1 - (k:Int)=(X.1.1:Int):=by have:=HM.out;omega
   rw [hqi];generalize X.1.2=nm at *;obtain ⟨q,hq⟩:∃ q,X.1.1=q:=⟨_,rfl⟩;have HQ:Hid ((m:Int) - 1 - (k:Int)=(q:Int)):=hid (by rw [← hq];exact hqi);rw [hq] at hcx hy ⊢;have q0:(0:Int)≤(q:Int):=by have:=HQ.out;omega
   have q1:(q:Int)<(m:Int):=by have:=HQ.out;omega
   have u1:IntKind.i64.wrap ((q:Int) - 1)=(q:Int) - 1:=IntWalk.i64_in _ (by omega);clear hX e1 e2 hqi hq hx
   gi_wp2
   refine hR.mono ?_;rintro e W3 (⟨rfl,hJ3,hk3⟩|⟨rfl,hJx3⟩)
   ·gi_wp2
    go_roundw
    case rel=>exact ⟨k+1,by omega,by have:=HQ.out;go_num,by rw [hbk];exact hJ3,hnx.trans hk3⟩
    case measure=>have:=HQ.out;simp [RowKit.intOf] <;> omega
   ·gi_wp2
    refine bodyPost_ret (results_none rfl _ _ _) rfl ?_;exact ⟨⟨_,rfl⟩,.inr ⟨_,⟨k+1,by have:=HM.out;omega,hbk.symm⟩,hJx3⟩⟩
  ·obtain rfl:k=m:=by omega
   have q2:¬ (0:Int)≤(k:Int) - 1 - (k:Int):=by omega
   gi_wp2
   go_end0
   exact ⟨⟨_,rfl⟩,.inl (by rw [HM.out];exact hJs)⟩
end
theorem back_stops (F:Fence) (n:Nat) (hf:F.fn 235) (hro:F.round=none) (hn:1≤n) (Bs b cap:Nat) (a:Option Addr) (zs:List ByteArray) (hlen:zs.length≤1000) (ha:0<zs.length→a=some ⟨b,0,none⟩) (w:World)
  (hBs:w.cell? ⟨Bs,0,none⟩=some (.slice a zs.length cap)) (hBl:Bs<w.heap.size) (hc:∀ j,∀ h:j<zs.length,w.cell? ⟨b,j,none⟩=some (.string zs[j])) (hb:b<w.heap.size) :
  SeqStopsK F n Tryz.prog 235 #[.pointer (some ⟨Bs,0,none⟩)] (fun x:BkT zs=>#[Value.int .i64 (x.1.1:Int),Value.string x.1.2]) (Kp2 b Bs) (fun ys=>ys=backT zs zs.length) (fun pre=>∃ k,k≤zs.length∧pre=backT zs k) zs.length w:=fun l J Jx W hW _ _ hY h0 =>
 back_inT F n hf hro hn l Bs b cap a zs hlen ha J Jx hY W ((hW.cell (p:=⟨Bs,0,none⟩) hBl).trans hBs) (fun j h=>(hW.cell (p:=⟨b,j,none⟩) hb).trans (hc j h)) h0
theorem x_back (a:Option Addr) (n c:Nat) (w:World) :
  Calls Tryz.prog 234 #[.slice a n c] w fun e w'=>e=.returned (.func (.func 235) #[] #[.pointer (some ⟨w.heap.size,0,none⟩)])∧w'=w.alloc (.cells #[.slice a n c] 84):=by
 go_enter Tryz.func234,Tryz.ntmps234
 go_wp2;go_ret;exact ⟨rfl,rfl⟩
theorem run_to {P:Program} {t e:TypeId} (ht:P.underlying t=some (.slice e)) (hs:∀ W,(sizeOf e).run P W=.ok 1 W) (a:Option Addr) (n k c:Nat) (hk:k≤n) (hc:n≤c) (hz:a=none→c=0) (W:World) :
  (Instr.slice t (.slice a n c) none (some (.int .i64 (k:Int))) none).run P W=.ok (.slice a k c) W:=by
 have hb:(Instr.sliceBounds true n c none (some (.int .i64 (k:Int))) none).run P W=.ok (0,k,c) W:=by
  simp [Instr.sliceBounds,Instr.sliceBound,asIntOf];omega
 cases a with
 | none =>
  obtain rfl:=hz rfl;obtain rfl:n=0:=by omega
  obtain rfl:k=0:=by omega
  simp only [Int.ofNat_zero] at hb;unfold Instr.slice;simp [run_underlying ht,hb,hs]
 | some x =>
  unfold Instr.slice;simp [run_underlying ht,hb,hs,Addr.add]
def noDefer (ops:Array Oper):Bool:=ops.all fun o=>match o.op with|.defer _=>false|_=>true
theorem noDefer_at {ops:Array Oper} (h:noDefer ops=true) {i:Nat} {o:Oper} (hi:ops[i]?=some o):∀ c,o.op≠.defer c:=fun c e=>by
 obtain ⟨hl,rfl⟩:=Array.getElem?_eq_some_iff.1 hi
 have:=(Array.all_eq_true.1 h) i hl
 rw [e] at this
 cases this
section
variable {P:Program} {ops:Array Oper} {Q:Exit→Act→World→Prop} {S:World→Prop} {m l:Nat}
theorem oper_round {o:Oper} {a:Act} {w:World} {K:Act→World→Prop} (hd:∀ c,o.op≠.defer c) (h:o.wp P a w K Q):o.wpIn (Fence.wide.inRound l) m P a w K Q:=by
 refine ⟨fun _ _=>trivial,?_⟩;rw [Oper.semAt_eq _ _ _ hd];unfold Oper.wp at h;generalize (execOp a.eval o).run P w=r at *
 cases r with
 | ok x w' =>
  cases x with
  | value v=>exact h
  | skip=>exact h
  | defer d=>exact h
  | enter f args=>exact ⟨fun e=>(nomatch e),(callsIn_wide (n:=m - 1)).2 h⟩
  | row row args=>exact ⟨fun e=>(nomatch e),fun c cs _=>let ⟨v,w',r,s⟩:=h c cs;⟨v,w',r,stepsIn_wide.2 s⟩⟩
  | round=>exact h.elim
  | _=>exact h
 | halt x w'=>cases x <;> exact h
theorem any_round (hd:noDefer ops=true) (hQ:¬ LetsOut Q):∀ (f:Nat) (li:Array Bool) (a:Act) (w:World),wpAny P .any ops Q f li a w→wpAnyIn (Fence.wide.inRound l) m P .any ops Q f li a w
 | 0,_,_,_,h=>h
 | f+1,_,_,_,h=>⟨h.1,fun i hi=>by
  have h1:=h.2 i hi;unfold wpOp at h1;unfold wpOpIn
  cases ho:ops[i]? with
  | none=>rw [ho] at h1;exact any_round hd hQ f _ _ _ h1
  | some o =>
   rw [ho] at h1;dsimp only at h1 ⊢
   split
   ·rename_i hw
    rw [if_pos hw] at h1
    rcases h1 with h1|h1
    ·exact Oper.wpIn_mono (fun a' w' h2=>any_round hd hQ f _ _ _ h2) (oper_round (noDefer_at hd ho) h1)
    ·exact absurd h1.2 hQ
   ·rename_i hw
    rw [if_neg hw] at h1;exact ⟨fun _ _=>trivial,any_round hd hQ f _ _ _ h1⟩⟩
theorem R_start {id:Nat} {a:Act} {w:World} (n:Nat) (hm:P.follows .mixedOrders=true) (hd:noDefer ops=true) (hQ:¬ LetsOut Q) (hS:S w.drew) (h:S w.drew→AnyT P ops Q S n ops.size (Array.replicate ops.size false) a w.drew):(Code.region id ops true).wpIn (Fence.wide.inRound l) m P Q a w :=
 wpIn_region_any hm (any_round hd hQ _ _ _ _ (any_of_E _ _ _ _ (h hS (head_start n _ rfl))))
end
theorem row_far {B T s n:Nat} {w w':World} {v:Value} {xs:List Value} {r:Option Nat} (h:w.ownsRow B T s v n xs) (hg:w.grownBy w' r) (hr:∀ q,r=some q→∃ o:Obj,w.heap[q]?=some o∧o.isCells=false):∀ g,v.ownBlock=some g→w'.heap[g]?=w.heap[g]?:=fun g e=>by
 rcases h.2 with ⟨rfl,_⟩|⟨g1,c1,r1,rfl,_,hh,_⟩
 ·cases e
 ·obtain rfl:g1=g:=Option.some.inj e
  refine hg.block g1 (Array.getElem?_eq_some_iff.1 hh).1 (fun e'=>?_);obtain ⟨o,ho,hc⟩:=hr g1 e'.symm;rw [hh] at ho;injection ho with ho
  subst ho
  cases hc
theorem cells_far {w w':World} {g:Nat} {cs:Array Value} {t:TypeId} {fr:Nat×Nat} {r:Option Nat} (h:w.heap[g]?=some (.cells cs t fr)) (hg:w.grownBy w' r) (hr:∀ q,r=some q→∃ o:Obj,w.heap[q]?=some o∧o.isCells=false):w'.heap[g]?=w.heap[g]? :=
 hg.block g (Array.getElem?_eq_some_iff.1 h).1 (fun e'=>by
  obtain ⟨o,ho,hc⟩:=hr g e'.symm;rw [h] at ho;injection ho with ho
  subst ho
  cases hc)
theorem CiAt.grown {B cb:Nat} {K:KcE} {t:CiS} {iv jv:Value} {X:List ItW} {sc:ScL} {b:BdW} {line B0:Nat} {w w':World} {r:Option Nat} (h:CiAt jT Tryz.prog B cb w K t iv X sc b jv line) (hm:b.mb<B0) (hf:b.fb<B0) (hg:w.grownBy w' r)
  (hr:∀ q,r=some q→B0≤q∧∃ o:Obj,w.heap[q]?=some o∧o.isCells=false):CiAt jT Tryz.prog B cb w' K t iv X sc b jv line:=by
 have hr2:∀ q,r=some q→∃ o:Obj,w.heap[q]?=some o∧o.isCells=false:=fun q e=>(hr q e).2
 refine ⟨h.cc.same (cells_far h.cc.row hg hr2) (row_far h.cc.its hg hr2) (fun x hx=>row_far (h.cc.chx hx) hg hr2),h.bd.keep (cells_far h.bd.row hg hr2) (hg.block b.mb h.bd.mlt (fun e=>by have:=(hr b.mb e.symm).1;omega)) (hg.block b.fb h.bd.flt (fun e=>by have:=(hr b.fb e.symm).1;omega)) (row_far h.bd.ch hg hr2) (row_far h.bd.jr hg hr2)⟩
def stF (E:CmpE) (x:ScL) (k:Nat) (chain:List Nat) {zs:List ByteArray} (pre:List (BkT zs)) (t:CiS):CiS:=pre.foldl (fun t p=>storeJ E t x p.1.1 k chain) t
theorem stF_snoc (E:CmpE) (x:ScL) (k:Nat) (chain:List Nat) {zs:List ByteArray} (pre:List (BkT zs)) (p:BkT zs) (t:CiS):stF E x k chain (pre++[p]) t=storeJ E (stF E x k chain pre t) x p.1.1 k chain:=by unfold stF;rw [List.foldl_append];rfl
theorem stF_all (E:CmpE) (x:ScL) (k:Nat) (chain:List Nat) (zs:List ByteArray):∀ (j:Nat) (t:CiS),j≤zs.length→storesJ E x k chain (zs.length - j) (stF E x k chain (backT zs j) t)=storesJ E x k chain zs.length t:=by
 intro j
 induction j with
 | zero=>intro t _;rfl
 | succ j ih =>
  intro t hj;rw [← ih t (by omega),backT_succ,stF_snoc];rw [show zs.length - j=(zs.length - (j+1))+1 from by omega,storesJ]
  congr 2
  show (bkAt zs j).1.1=_
  unfold bkAt;simp only;omega
theorem stF_end (E:CmpE) (x:ScL) (k:Nat) (chain:List Nat) (zs:List ByteArray) (t:CiS):stF E x k chain (backT zs zs.length) t=storesJ E x k chain zs.length t:=by
 have h:=stF_all E x k chain zs zs.length t (Nat.le_refl _);rw [Nat.sub_self] at h;exact h
theorem storeJ_keep (E:CmpE) (t:CiS) (x:ScL) (i k:Nat) (chain:List Nat):(storeJ E t x i k chain).depth=t.depth - 1∧(storeJ E t x i k chain).items.length=t.items.length+1∧(storeJ E t x i k chain).used=t.used∧(storeJ E t x i k chain).jumps=t.jumps∧(storeJ E t x i k chain).firsts=t.firsts:=by
 unfold storeJ incJ emitJ;exact ⟨by show t.depth+-1=_;omega,by simp,rfl,rfl,rfl⟩
theorem stF_keep (E:CmpE) (x:ScL) (k:Nat) (chain:List Nat) {zs:List ByteArray} (pre:List (BkT zs)):∀ t,(stF E x k chain pre t).depth=t.depth - pre.length∧(stF E x k chain pre t).items.length=t.items.length+pre.length∧(stF E x k chain pre t).used=t.used∧(stF E x k chain pre t).jumps=t.jumps∧(stF E x k chain pre t).firsts=t.firsts:=by
 induction pre with
 | nil=>intro t;exact ⟨by simp [stF],by simp [stF],rfl,rfl,rfl⟩
 | cons p r ih =>
  intro t;obtain ⟨h1,h2,h3,h4,h5⟩:=storeJ_keep E t x p.1.1 k chain;obtain ⟨g1,g2,g3,g4,g5⟩:=ih (storeJ E t x p.1.1 k chain);have e:stF E x k chain (p :: r) t=stF E x k chain r (storeJ E t x p.1.1 k chain):=rfl;rw [e,g1,g2,g3,g4,g5,h1,h2,h3,h4,h5,List.length_cons];exact ⟨by omega,by omega,rfl,rfl,rfl⟩
def zrF (E:CmpE) (x:ScL) (k:Nat) (chain:List Nat) (n:Nat) (t:CiS):Nat→CiS
 | 0=>t
 | q+1=>storeJ E (numJ E (zrF E x k chain n t q) 0 k chain) x (n+q) k chain
theorem zrF_all (E:CmpE) (x:ScL) (k:Nat) (chain:List Nat) (n m:Nat) (t:CiS):∀ q,q≤m→zerosJ E x k chain (m - q) (n+q) (zrF E x k chain n t q)=zerosJ E x k chain m n t:=by
 intro q
 induction q with
 | zero=>intro _;rfl
 | succ q ih =>
  intro hq;rw [← ih (by omega),show m - q=(m - (q+1))+1 from by omega,zerosJ];rfl
theorem zrF_end (E:CmpE) (x:ScL) (k:Nat) (chain:List Nat) (n m:Nat) (t:CiS):zrF E x k chain n t m=zerosJ E x k chain m n t:=by
 have h:=zrF_all E x k chain n m t m (Nat.le_refl _);rw [Nat.sub_self] at h;exact h
theorem zrF_keep (E:CmpE) (x:ScL) (k:Nat) (chain:List Nat) (n:Nat) (t:CiS):∀ q,(zrF E x k chain n t q).depth=t.depth∧(zrF E x k chain n t q).items.length=t.items.length+2*q∧(zrF E x k chain n t q).used=t.used∧(zrF E x k chain n t q).jumps=t.jumps∧(zrF E x k chain n t q).firsts=t.firsts:=by
 intro q
 induction q with
 | zero=>exact ⟨rfl,rfl,rfl,rfl,rfl⟩
 | succ q ih =>
  obtain ⟨h1,h2,h3,h4,h5⟩:=ih;obtain ⟨g1,g2,g3,g4,g5⟩:=storeJ_keep E (numJ E (zrF E x k chain n t q) 0 k chain) x (n+q) k chain;have e1:(numJ E (zrF E x k chain n t q) 0 k chain).depth=(zrF E x k chain n t q).depth+1:=rfl;have e2:(numJ E (zrF E x k chain n t q) 0 k chain).items.length=(zrF E x k chain n t q).items.length+1:=by unfold numJ incJ emitJ;simp
  have e3:(numJ E (zrF E x k chain n t q) 0 k chain).used=(zrF E x k chain n t q).used:=rfl;have e4:(numJ E (zrF E x k chain n t q) 0 k chain).jumps=(zrF E x k chain n t q).jumps:=rfl;have e5:(numJ E (zrF E x k chain n t q) 0 k chain).firsts=(zrF E x k chain n t q).firsts:=rfl
  show (storeJ _ _ _ _ _ _).depth=_∧(storeJ _ _ _ _ _ _).items.length=_∧(storeJ _ _ _ _ _ _).used=_∧(storeJ _ _ _ _ _ _).jumps=_∧(storeJ _ _ _ _ _ _).firsts=_
  rw [g1,g2,g3,g4,g5,e1,e2,e3,e4,e5,h1,h2,h3,h4,h5];exact ⟨by omega,by omega,rfl,rfl,rfl⟩
theorem space_keep (E:CmpE) (k:Nat) (chain:List Nat) (t:CiS):(spaceJ E k chain t).depth=t.depth∧(spaceJ E k chain t).used=t.used∧(spaceJ E k chain t).jumps=t.jumps∧(spaceJ E k chain t).firsts=t.firsts∧(spaceJ E k chain t).pend=false:=by
 unfold spaceJ
 split
 ·exact ⟨rfl,rfl,rfl,rfl,rfl⟩
 ·rename_i h
  exact ⟨rfl,rfl,rfl,rfl,by simpa using h⟩
def Btw (B cb:Nat) (K:KcE) (xs:ScL) (t1:CiS) (iv:Value) (sc:ScL) (b:BdW) (jv:Value) (k:Nat) (we:World) {zs:List ByteArray} (pre:List (BkT zs)) (W:World):Prop :=
 ∃ iv' X',Hid (CiAt jT Tryz.prog B cb W K (stF K.E xs k sc.chain pre t1) iv' X' sc b jv k)∧Hid (Step cb (ME iv b.bb) (ME iv' b.bb) we W)
theorem btw_own {B cb:Nat} {K:KcE} {xs:ScL} {t1:CiS} {iv:Value} {sc:ScL} {b:BdW} {jv:Value} {k:Nat} {we:World} {zs:List ByteArray} {B0:Nat} (hm:b.mb<B0) (hf:b.fb<B0) (hw:we.heap.size≤B0):OwnFrom B0 (Btw B cb K xs t1 iv sc b jv k we (zs:=zs)):=fun s W W' r h hg hr=>by
 obtain ⟨iv',X',h1,h2⟩:=h;refine ⟨iv',X',hid (h1.out.grown hm hf hg hr),hid ⟨hg.os.trans h2.out.os,hg.tape.trans h2.out.tape,hg.output.trans h2.out.output,Nat.le_trans h2.out.size hg.size,fun q hq hc hv=>(hg.block q (Nat.lt_of_lt_of_le hq h2.out.size) (fun e=>by have:=(hr q e.symm).1;omega)).trans (h2.out.block q hq hc hv),h2.out.rows⟩⟩
theorem step_from {B cb:Nat} {K:KcE} {t:CiS} {iv iv' jv:Value} {X:List ItW} {sc:ScL} {b:BdW} {line B0:Nat} {w w':World} (h:CiAt jT Tryz.prog B cb w K t iv X sc b jv line) (hs:Step cb (ME iv b.bb) (ME iv' b.bb) w w'):KeepsFrom B0 w w':=by
 refine ⟨hs.size,fun q o _ hq ho=>(hs.block q (Array.getElem?_eq_some_iff.1 hq).1 (fun e=>?_) (fun v hv e=>?_)).trans hq⟩
 ·subst e
  rw [h.cc.row] at hq;injection hq with hq
  subst hq
  cases ho
 ·unfold ME at hv
  simp only [List.mem_cons,List.not_mem_nil,or_false] at hv
  rcases hv with rfl|rfl
  ·rcases h.cc.its.2 with ⟨rfl,_⟩|⟨g1,c1,r1,rfl,_,hh,_⟩
   ·cases e
   ·obtain rfl:g1=q:=Option.some.inj e
    rw [hh] at hq;injection hq with hq
    subst hq
    cases ho
  ·obtain rfl:b.bb=q:=Option.some.inj e
   rw [h.bd.row] at hq;injection hq with hq
   subst hq
   cases ho
def actN (a:Act) (x:Nat×ByteArray):Act:={ tmps:=((a.tmps.setIfInBounds 70 (.int .i64 (x.1:Int))).setIfInBounds 71 (.string x.2)).setIfInBounds 8 (.string x.2),defers:=[] }
theorem range_btw {g:Operand} {assign body:Code} {Q:Exit→Act→World→Prop} {a:Act} {w:World} {B cb:Nat} {K:KcE} {xs:ScL} {t1:CiS} {iv:Value} {sc:ScL} {b:BdW} {jv:Value} {k:Nat} {we:World} {zs:List ByteArray}
  (Bs bq cap:Nat) (ao:Option Addr) (hlen:zs.length≤1000) (ha:0<zs.length→ao=some ⟨bq,0,none⟩) (hBs:w.cell? ⟨Bs,0,none⟩=some (.slice ao zs.length cap)) (hBl:Bs<w.heap.size) (hc:∀ j,∀ h:j<zs.length,w.cell? ⟨bq,j,none⟩=some (.string zs[j])) (hb:bq<w.heap.size)
  (hg:a.eval g=.func (.func 235) #[] #[.pointer (some ⟨Bs,0,none⟩)]) (hm:b.mb<w.heap.size) (hf:b.fb<w.heap.size) (hw:we.heap.size≤w.heap.size) (h0:Btw B cb K xs t1 iv sc b jv k we (zs:=zs) [] w)
  (hassign:∀ (l:Nat) (x:BkT zs) (W:World) (K':Act→World→Prop),K' (actN a x.1) W→assign.wpIn (Fence.wide.inRound l) 8 Tryz.prog (Exit.then K' (fun _ _ _=>False)) { tmps:=((#[70,71]:Array Tmp).zip #[Value.int .i64 (x.1.1:Int),Value.string x.1.2]).foldl (fun t (p,v)=>t.setIfInBounds p v) a.tmps,defers:=[] } W)
  (hbody:∀ (l:Nat) (pre:List (BkT zs)) (x:BkT zs) (W:World),Btw B cb K xs t1 iv sc b jv k we pre W→pre.length<zs.length→body.wpIn (Fence.wide.inRound l) 8 Tryz.prog (ownPostG w.heap.size (Kp2 bq Bs) (Btw B cb K xs t1 iv sc b jv k we) (fun _ _ _=>False) (pre++[x]) W) (actN a x.1) W)
  (hdone:∀ (D:Nat) (W:World),w.heap.size≤D→Btw B cb K xs t1 iv sc b jv k we (backT zs zs.length) W→W.heap[D]?=some (.deferred (some []))→Q .normal { a with defers:={ target:=.collected D,args:=#[] } :: a.defers } W) :
  (Code.rangeFunc g #[70,71] assign body).wp Tryz.prog Q a w:=by
 refine (wpIn_wide (n:=10)).1 ?_;refine wpIn_rangeFunc_ownG (F:=Fence.wide) (n:=10) rfl (by omega) hg trivial (enters_of Tryz.func235 (by kernel_rfl) rfl) (back_stops Fence.wide 9 trivial rfl (by omega) Bs bq cap ao zs hlen ha w hBs hBl hc hb) (fun h k=>h.trans k)
  (fun W l o o' hl _ _ _=>⟨World.putObj_heap_other (by omega),World.putObj_heap_other (by omega)⟩) (Below.refl _ _) (fun _=>rfl) (Btw B cb K xs t1 iv sc b jv k we) (fun _ _ _=>False) (btw_own hm hf hw) (fun c s A B r h _ _=>h) h0 (fun x=>actN a x.1) ?_ hbody ?_ ?_
 ·intro l x W K' hK
  exact hassign l x W K' hK
 ·intro D ys W hD hS hI hK
  subst hS;exact hdone D W hD hI hK
 ·intro D c pre W _ _ h _
  exact h.elim
end Go.Proofs.YtcflojdkaddemaaGreatDoor

namespace Go.Proofs.YtcflojdkaddemaaGreatDoor
open Go.RowKit Go.Lib Go.Maps
def RpD (B cb:Nat) (K:KcE) (R:CiS) (iv:Value) (sc:ScL) (b:BdW) (jv:Value) (k D2:Nat) (w:World) (e:Ending) (w':World):Prop :=
 e=.returned (.tuple #[])∧∃ dd iv' X',Hid (CiAt jT Tryz.prog B cb w' K { R with depth:=dd } iv' X' sc b jv k)∧Hid (Step cb (ME iv b.bb) (ME iv' b.bb) w w')∧Hid (w'.heap[D2]?=some (.deferred (some [])))
theorem repl_lines {B cb n D2 nM:Nat} {K:KcE} {wb w W:World} {scs rest:List ScL} {sc:ScL} {k g:Nat} {t R t4:CiS} {iv iv5 jv v9:Value} {X X5:List ItW} {b:BdW} {bb2 mb2 fb2:Nat} {D:DataW Unit} {L:List ByteArray}
  (hB:IBodyOk B cb K wb n) (hBw:wb.heap.size≤B) (h60:K.E.p.length≤60) (hv:∀ x ∈ K.E.p,lineB x=true) (h:ReplTo K.E n scs sc k g t R) (ht4:enterJ K.E sc (newSc K.E sc g k) k t=t4) (hrp:replJ K.E scs t.items.length g=true) (hb:BodyOk K w sc rest scs b) (hg:g ∈ funs K.E.p)
  (hd:0≤t4.depth) (hd2:t4.depth≤2000000+100*((newSc K.E sc g k :: scs).length:Int)) (hzl:R.items.length≤1000000) (hu:t4.used≤1000) (hj:t4.jumps=t.jumps) (hf:t4.firsts=t.firsts)
  (hci:CiAt jT Tryz.prog B cb w K t iv X sc b jv k) (hW:Below wb.heap.size wb w) (hC:CiAt jT Tryz.prog B cb W K t4 iv5 X5 sc b jv k) (hS:Step cb (ME iv b.bb) (ME iv5 b.bb) w W)
  (hrow:W.heap[bb2]?=some (.cells (nrow cb (some b.bb) g v9 mb2 (freeN K.E sc+L.length) 0 false fb2 (.slice none 0 0)) 181 (0,0))) (hL:(newSc K.E sc g k).locs=L)
  (hM:W.ownsMap (H:=Unit) Tryz.prog 9 (plainElem Tryz.prog 3) mb2 nM D) (hnM:nM≤1048576) (hGv:Given (.map []) D L (freeN K.E sc)) (hF:W.ownsMap (H:=Unit) Tryz.prog 3 (plainElem Tryz.prog 3) fb2 0 (.map [])) (h9:W.ownsRow B 3 1 v9 (sc.chain.length+1) (intV (natI (sc.chain++[k]))))
  (n1:w.heap.size≤bb2) (n2:w.heap.size≤mb2) (n3:w.heap.size≤fb2) (n4:mb2≠fb2) (hD:W.heap[D2]?=some (.deferred (some []))) :
  Calls Tryz.prog 186 #[.pointer (some ⟨bb2,0,none⟩)] W (RpD B cb K R iv sc b jv k D2 w):=by
 obtain ⟨z,hz,hR⟩:=h;rw [ht4] at hz hR;subst hR;have hcw:=hci.cc.lt;have hbw:=hci.bd.blt;have hbW:BodyOk K W sc rest scs b:=hb.stepE hci hS;have hso:=hb.so.new (k:=k) (s:=⟨t.items,0,false,0,[]⟩) hrp hg;rw [hb.cur] at hso;have hsf:=ScF.new (k:=k) h60 hv hb.sf hrp;rw [hb.cur] at hsf;obtain ⟨b2,hb2⟩:∃ x:BdW,(⟨bb2,some b.bb,v9,mb2,fb2⟩:BdW)=x:=⟨_,rfl⟩;have e1:b2.bb=bb2:=by rw [← hb2]
 have e2:b2.ab=some b.bb:=by rw [← hb2]
 have e3:b2.chv=v9:=by rw [← hb2]
 have e4:b2.mb=mb2:=by rw [← hb2]
 have e5:b2.fb=fb2:=by rw [← hb2]
 have hbo:BodyOk K W (newSc K.E sc g k) scs (newSc K.E sc g k :: scs) b2:=by
  refine ⟨rfl,hso,hsf,?_,fun a ha=>?_,by rw [e2];rfl⟩
  ·rw [e2,hb.eq]
   exact ⟨brow cb K.E sc b jv k t4.pend,b.ab,hC.bd.row,rfl,rfl,hbW.lt,hbW.ab⟩
  ·rw [e2] at ha
   injection ha with ha
   rw [e1,← ha];omega
 have hci2:CiAt jT Tryz.prog B cb W K { t4 with jumps:=[],firsts:=[],pend:=false } iv5 X5 (newSc K.E sc g k) b2 (.slice none 0 0) 0:=by
  refine ⟨⟨hC.cc.row,hC.cc.its,hC.cc.items,hC.cc.chn,hC.cc.lo⟩,⟨?_,?_,⟨nM,D,?_,new_slots (D0:=.map []) rfl ?_,hnM⟩,⟨.map [],?_,fun q _ hq=>by simp at hq⟩,⟨by simp [juV],.inl ⟨rfl,rfl⟩⟩,hC.cc.lo,by rw [e1];omega,by rw [e4];omega,by rw [e5];omega,by rw [e4,e5];exact n4⟩⟩
  ·rw [e1,nrow_is,e2,e3,e4,e5,(newSc_free K.E sc g k).2,(newSc_free K.E sc g k).1,hL]
   exact hrow
  ·rw [e3]
   have hl:(newSc K.E sc g k).chain.length=sc.chain.length+1:=by show (sc.chain++[k]).length=_;simp
   rw [hl];exact h9
  ·rw [e4];exact hM
  ·rw [hL];exact hGv
  ·rw [e5];exact hF
 have hCL:=hB (newSc K.E sc g k :: scs) (newSc K.E sc g k) scs { t4 with jumps:=[],firsts:=[],pend:=false } z W iv5 X5 b2 (.slice none 0 0) 0 hz hbo rfl rfl hd hd2 hzl hu hci2 (hW.trans ((hci.baseE hS).mono hBw));rw [e1] at hCL;refine hCL.mono ?_;rintro e w' ⟨rfl,iv',jv',X',ln,HC',HS'⟩;have hws:=hS.size;have key:∀ q,q<w.heap.size→q≠cb→iv5.ownBlock≠some q→w'.heap[q]?=W.heap[q]?:=fun q hq hc hi=>HS'.out.block q (by omega) hc (fun v hv e=>by
  unfold ML at hv;simp only [List.mem_cons,List.not_mem_nil,or_false] at hv
  rcases hv with rfl|rfl|rfl|rfl
  ·exact hi e
  ·have e':b2.bb=q:=Option.some.inj e
   omega
  ·cases e
  ·have e':b2.fb=q:=Option.some.inj e
   omega)
 have sp:=hC.sep jT_ok;refine ⟨rfl,z.2.depth,iv',X',hid ⟨⟨HC'.out.cc.row,HC'.out.cc.its,HC'.out.cc.items,HC'.out.cc.chn,HC'.out.cc.lo⟩,?_⟩,hid ⟨HS'.out.os.trans hS.os,HS'.out.tape.trans hS.tape,HS'.out.output.trans hS.output,Nat.le_trans hS.size HS'.out.size,fun q hq hc hm=>?_,fun v hv q hq=>?_⟩,hid ?_⟩
 ·have hbd:=hC.bd.keep (key b.bb hci.bd.blt sp.bc sp.ib) (key b.mb hci.bd.mlt sp.mc sp.im) (key b.fb hci.bd.flt sp.fc sp.fi) (fun q hq=>key q (hci.bd.ch.lt q hq).2 (fun e=>sp.hc (by rw [hq,e])) (fun e=>sp.ih q e hq)) (fun q hq=>key q (hci.bd.jr.lt q hq).2 (fun e=>sp.jc (by rw [hq,e])) (fun e=>sp.ij q e hq))
  rw [hj,hf] at hbd;exact hbd
 ·refine (key q hq hc (fun e=>?_)).trans (hS.block q hq hc hm)
  rcases hS.rows iv5 (by unfold ME;exact List.mem_cons_self ..) q e with ⟨u,hu',e'⟩|e'
  ·exact hm u hu' e'
  ·omega
 ·unfold ME at hv
  simp only [List.mem_cons,List.not_mem_nil,or_false] at hv
  rcases hv with rfl|rfl
  ·rcases HS'.out.rows v (by unfold ML;exact List.mem_cons_self ..) q hq with ⟨u,hu',e'⟩|e'
   ·unfold ML at hu'
    simp only [List.mem_cons,List.not_mem_nil,or_false] at hu'
    rcases hu' with rfl|rfl|rfl|rfl
    ·exact hS.rows u (by unfold ME;exact List.mem_cons_self ..) q e'
    ·have e'':b2.bb=q:=Option.some.inj e'
     exact .inr (by omega)
    ·cases e'
    ·have e'':b2.fb=q:=Option.some.inj e'
     exact .inr (by omega)
   ·exact .inr (by omega)
  ·exact .inl ⟨psV b.bb,mem_ME,hq⟩
 ·refine (HS'.out.block D2 (Array.getElem?_eq_some_iff.1 hD).1 (fun e=>?_) (fun v hv e=>?_)).trans hD
  ·subst e
   rw [hC.cc.row] at hD
   cases hD
  ·unfold ML at hv
   simp only [List.mem_cons,List.not_mem_nil,or_false] at hv
   rcases hv with rfl|rfl|rfl|rfl
   ·rcases hC.cc.its.2 with ⟨rfl,_⟩|⟨g1,c1,r1,rfl,_,hh,_⟩
    ·cases e
    ·obtain rfl:g1=D2:=Option.some.inj e
     rw [hh] at hD
     cases hD
   ·have e':b2.bb=D2:=Option.some.inj e
    rw [← e',e1,hrow] at hD
    cases hD
   ·cases e
   ·have e':b2.fb=D2:=Option.some.inj e
    obtain ⟨es,clock,hm1,_⟩:=hF;rw [← e',e5,hm1] at hD
    cases hD
end Go.Proofs.YtcflojdkaddemaaGreatDoor
