/- Parts of the proof. -/
import Derived.Test.YtcflojdkaddemaaGreatDoorI03
namespace Go.Proofs.YtcflojdkaddemaaGreatDoor
open Go.RowKit Go.Lib
def CmpTo (E:CmpE) (j:CJob) (s:CmpS) (z:Nat×CmpS):Prop:=∃ n,cmpF E n j s=some z
theorem CmpTo.one {E:CmpE} {j:CJob} {s:CmpS} {z z':Nat×CmpS} (h:CmpTo E j s z) (h':CmpTo E j s z'):z=z':=by
 obtain ⟨n,hn⟩:=h;obtain ⟨m,hm⟩:=h';have a:=cmpF_le E n (max n m) (Nat.le_max_left ..) j s z hn;have b:=cmpF_le E m (max n m) (Nat.le_max_right ..) j s z' hm;rw [a] at b;exact Option.some.inj b
theorem to_args0 (E:CmpE) (scs:List ScL) (k i:Nat) (s:CmpS):CmpTo E (.args scs k i 0) s (i,s):=⟨1,rfl⟩
theorem to_args {E:CmpE} {scs:List ScL} {k i m:Nat} {s:CmpS} {y z:Nat×CmpS} (h1:CmpTo E (.expr scs k i) s y) (h2:CmpTo E (.args scs k y.1 m) y.2 z):CmpTo E (.args scs k i (m+1)) s z:=by
 obtain ⟨n,hn⟩:=h1;obtain ⟨m',hm⟩:=h2;refine ⟨max n m'+1,?_⟩;rw [cmpF,cmpF_le E n _ (Nat.le_max_left ..) _ _ _ hn];exact cmpF_le E m' _ (Nat.le_max_right ..) _ _ _ hm
theorem to_expr {E:CmpE} {scs:List ScL} {k i:Nat} {s:CmpS} {y:Nat×CmpS} (h:CmpTo E (.args scs k (i+1) (arN (tokAt E.p k i))) s y)
  (hl:∀ g x s1,replB E scs y.2 g=true→x=newSc E (curS scs) g k→s1=enterI E (curS scs) x k y.2→∃ z,CmpTo E (.lines (x :: scs) (g+1) (List.replicate E.p.length 0) []) { s1 with leaves:=[] } z) :
  ∃ z,CmpTo E (.expr scs k i) s z∧z.1=y.1:=by
 obtain ⟨n,hn⟩:=h
 by_cases h0:(tokAt E.p k i).kind=0
 ·exact ⟨(y.1,numI E y.2 (tokAt E.p k i).num k (curS scs).chain),⟨n+1,by rw [cmpF];simp only [hn,Option.bind_some];rw [if_pos h0]⟩,rfl⟩
 by_cases h1:(tokAt E.p k i).kind=1
 ·exact ⟨(y.1,loadI E y.2 (curS scs) (varIx (curS scs).locs (tokAt E.p k i).name) k),⟨n+1,by rw [cmpF];simp only [hn,Option.bind_some];rw [if_neg h0,if_pos h1]⟩,rfl⟩
 by_cases h7:(tokAt E.p k i).kind=7
 ·by_cases hr:replB E scs y.2 (findZ E.p (tokAt E.p k i).name).toNat=true
  ·obtain ⟨z,m,hm⟩:=hl _ _ _ hr rfl rfl
   have hn':=cmpF_le E n (max n m) (Nat.le_max_left ..) _ _ _ hn;have hm':=cmpF_le E m (max n m) (Nat.le_max_right ..) _ _ _ hm;exact ⟨(y.1,exitI y.2 (enterI E (curS scs) (newSc E (curS scs) (findZ E.p (tokAt E.p k i).name).toNat k) k y.2).depth z.2),⟨max n m+1,by rw [cmpF];simp only [hn',Option.bind_some];rw [if_neg h0,if_neg h1,if_pos h7,if_pos hr,hm'];rfl⟩,rfl⟩
  ·exact ⟨(y.1,incD (emitI E y.2 12 (funNo E.p (findZ E.p (tokAt E.p k i).name).toNat) k (curS scs).chain) (1 - (tokAt E.p k i).num)),⟨n+1,by rw [cmpF];simp only [hn,Option.bind_some];rw [if_neg h0,if_neg h1,if_pos h7,if_neg hr]⟩,rfl⟩
 ·exact ⟨(y.1,incD (emitI E y.2 (5+(tokAt E.p k i).kind - 2) 0 k (curS scs).chain) (-1)),⟨n+1,by rw [cmpF];simp only [hn,Option.bind_some];rw [if_neg h0,if_neg h1,if_neg h7]⟩,rfl⟩
section
variable {E:CmpE} {scs:List ScL}
  (hl:∀ k g x s1 s,replB E scs s g=true→x=newSc E (curS scs) g k→s1=enterI E (curS scs) x k s→∃ z,CmpTo E (.lines (x :: scs) (g+1) (List.replicate E.p.length 0) []) { s1 with leaves:=[] } z)
include hl
theorem tot_expr8 (k:Nat):∀ (d i:Nat) (s:CmpS),(exprAt E.p k).length≤i+d→∃ z,CmpTo E (.expr scs k i) s z∧i+1≤z.1:=by
 intro d
 induction d with
 | zero =>
  intro i s hi;have ht:tokAt E.p k i=⟨0,0,⟨#[]⟩⟩:=by rw [tokAt_getD,List.getElem?_eq_none (by omega)];rfl
  obtain ⟨z,h1,h2⟩:=to_expr (E:=E) (scs:=scs) (k:=k) (i:=i) (s:=s) (y:=(i+1,s)) (by rw [ht,arN_zero];exact to_args0 E scs k (i+1) s) (fun g x s1 hr hx hs=>hl k g x s1 s hr hx hs);exact ⟨z,h1,by rw [h2];exact Nat.le_refl _⟩
 | succ d ih =>
  intro i s hi;have ha:∀ (m j:Nat) (s:CmpS),i+1≤j→∃ z,CmpTo E (.args scs k j m) s z∧j≤z.1:=by
   intro m
   induction m with
   | zero=>intro j s _;exact ⟨_,to_args0 E scs k j s,Nat.le_refl _⟩
   | succ m ihm =>
    intro j s hj;obtain ⟨y,h1,h2⟩:=ih j s (by omega);obtain ⟨z,h3,h4⟩:=ihm y.1 y.2 (by omega);exact ⟨z,to_args h1 h3,by omega⟩
  obtain ⟨y,h1,h2⟩:=ha (arN (tokAt E.p k i)) (i+1) s (Nat.le_refl _);obtain ⟨z,h3,h4⟩:=to_expr h1 (fun g x s1 hr hx hs=>hl k g x s1 y.2 hr hx hs);exact ⟨z,h3,by omega⟩
theorem tot_lines8:∀ (d k:Nat) (heads:List Int) (exits:List (Int×Nat)) (s:CmpS),beZ E.p ((curS scs).f:Int)<(k:Int)+(d:Int)→∃ z,CmpTo E (.lines scs k heads exits) s z:=by
 intro d
 induction d with
 | zero =>
  intro k heads exits s h;exact ⟨_,1,by rw [cmpF];rw [if_pos (by omega)]⟩
 | succ d ih =>
  intro k heads exits s h
  by_cases he:beZ E.p ((curS scs).f:Int)<(k:Int)
  ·exact ⟨_,1,by rw [cmpF];rw [if_pos he]⟩
  have go:∀ hd ex s',∃ z,CmpTo E (.lines scs (k+1) hd ex) s' z:=fun hd ex s'=>ih (k+1) hd ex s' (by omega)
  by_cases h4:lkZ E.p (k:Int)=4
  ·obtain ⟨z,n,hn⟩:=go heads (exits++elseEx E.p (curS scs).f k (patchI s exits (k:Int)).items.length) (patchI (emitI E (patchI s exits (k:Int)) 10 0 k (curS scs).chain) (exits++elseEx E.p (curS scs).f k (patchI s exits (k:Int)).items.length) (-(k:Int)))
   exact ⟨z,n+1,by rw [cmpF];rw [if_neg he,if_pos h4];exact hn⟩
  by_cases h7:lkZ E.p (k:Int)=7
  ·by_cases hk:(k:Int)=beZ E.p ((curS scs).f:Int)
   ·obtain ⟨z,n,hn⟩:=go heads exits (leaveI E (numI E (patchI s exits (k:Int)) 0 k (curS scs).chain) (curS scs) k true)
    exact ⟨z,n+1,by rw [cmpF];rw [if_neg he,if_neg h4,if_pos h7,if_pos hk];exact hn⟩
   ·obtain ⟨z,n,hn⟩:=go heads exits (backsI E (curS scs) k heads (backIx E.p (curS scs).f k) (patchI s exits (k:Int)))
    exact ⟨z,n+1,by rw [cmpF];rw [if_neg he,if_neg h4,if_pos h7,if_neg hk];exact hn⟩
  obtain ⟨y,⟨n,hn⟩,_⟩:=tot_expr8 hl k (exprAt E.p k).length 0 { patchI s exits (k:Int) with start:=true } (by omega);have fin:∀ (hd:List Int) (ex:List (Int×Nat)) (s':CmpS),∃ z m,n≤m∧cmpF E m (.lines scs (k+1) hd ex) s'=some z:=fun hd ex s'=>by
   obtain ⟨z,m,hm⟩:=go hd ex s';exact ⟨z,max n m,Nat.le_max_left ..,cmpF_le E m _ (Nat.le_max_right ..) _ _ _ hm⟩
  by_cases h1:lkZ E.p (k:Int)=1
  ·obtain ⟨z,m,hm1,hm⟩:=fin (heads.set k ((patchI s exits (k:Int)).items.length:Int)) exits (storeI E y.2 (curS scs) (varIx (curS scs).locs (nameAt E.p k)) k (curS scs).chain)
   exact ⟨z,m+1,by rw [cmpF];simp only [if_neg he,if_neg h4,if_neg h7,cmpF_le E n m hm1 _ _ _ hn,Option.bind_some,if_pos h1];exact hm⟩
  by_cases h2:lkZ E.p (k:Int)=2
  ·obtain ⟨z,m,hm1,hm⟩:=fin (heads.set k ((patchI s exits (k:Int)).items.length:Int)) exits (incD (emitI E y.2 17 0 k (curS scs).chain) (-1))
   exact ⟨z,m+1,by rw [cmpF];simp only [if_neg he,if_neg h4,if_neg h7,cmpF_le E n m hm1 _ _ _ hn,Option.bind_some,if_neg h1,if_pos h2];exact hm⟩
  by_cases h6:lkZ E.p (k:Int)=6
  ·obtain ⟨z,m,hm1,hm⟩:=fin (heads.set k ((patchI s exits (k:Int)).items.length:Int)) exits (leaveI E y.2 (curS scs) k false)
   exact ⟨z,m+1,by rw [cmpF];simp only [if_neg he,if_neg h4,if_neg h7,cmpF_le E n m hm1 _ _ _ hn,Option.bind_some,if_neg h1,if_neg h2,if_pos h6];exact hm⟩
  ·obtain ⟨z,m,hm1,hm⟩:=fin (heads.set k ((patchI s exits (k:Int)).items.length:Int)) (exits++[((if lkZ E.p (k:Int)=3∧0≤elseZ E.p (k:Int) then -(elseZ E.p (k:Int)) else beZ E.p (k:Int)+1),y.2.items.length)]) (incD (emitI E y.2 11 0 k (curS scs).chain) (-1))
   exact ⟨z,m+1,by rw [cmpF];simp only [if_neg he,if_neg h4,if_neg h7,cmpF_le E n m hm1 _ _ _ hn,Option.bind_some,if_neg h1,if_neg h2,if_neg h6];exact hm⟩
end
theorem replB_lt {E:CmpE} {scs:List ScL} {s:CmpS} {g:Nat} (h:replB E scs s g=true):scs.length - 1<E.inl:=by
 unfold replB at h;simp only [Bool.and_eq_true,Bool.not_eq_true',Bool.or_eq_false_iff,decide_eq_false_iff_not] at h;omega
theorem cmp_total (E:CmpE):∀ (d:Nat) (scs:List ScL),E.inl≤d+(scs.length - 1)→1≤scs.length→∀ (k:Nat) (heads:List Int) (exits:List (Int×Nat)) (s:CmpS),∃ z,CmpTo E (.lines scs k heads exits) s z:=by
 intro d
 induction d with
 | zero =>
  intro scs hd hsc k heads exits s;exact tot_lines8 (fun k g x s1 s hr _ _=>by have:=replB_lt hr;omega) ((beZ E.p ((curS scs).f:Int)).toNat+1) k heads exits s (by omega)
 | succ d ih =>
  intro scs hd hsc k heads exits s;refine tot_lines8 (fun k g x s1 s hr _ _=>?_) ((beZ E.p ((curS scs).f:Int)).toNat+1) k heads exits s (by omega);exact ih (x :: scs) (by rw [List.length_cons];omega) (by rw [List.length_cons];omega) _ _ _ _
end Go.Proofs.YtcflojdkaddemaaGreatDoor

namespace Go.Proofs.YtcflojdkaddemaaGreatDoor
open Go.RowKit
def W32 (x:Int):Int:=(x+2147483648) % 4294967296 - 2147483648
theorem W32_lo (x:Int):-2147483648≤W32 x:=by unfold W32;omega
theorem W32_hi (x:Int):W32 x≤2147483647:=by unfold W32;omega
theorem W32_wrap (x:Int):wrap32 x=W32 x:=by
 unfold W32 wrap32;omega
def appZ (k a b:Int):Int :=
 if k=2 then W32 (W32 a+W32 b) else if k=3 then W32 (W32 a - W32 b) else if k=4 then W32 (W32 a*W32 b)
 else if k=5 then (if W32 a<W32 b then 1 else 0) else if k=6 then (if W32 a=W32 b then 1 else 0) else 0
theorem appZ_add (a b:Int):appZ 2 a b=W32 (W32 a+W32 b):=rfl
theorem appZ_sub (a b:Int):appZ 3 a b=W32 (W32 a - W32 b):=rfl
theorem appZ_mul (a b:Int):appZ 4 a b=W32 (W32 a*W32 b):=rfl
theorem appZ_other (k a b:Int) (h2:k≠2) (h3:k≠3) (h4:k≠4) (h5:k≠5) (h6:k≠6):appZ k a b=0:=by
 unfold appZ;rw [if_neg h2,if_neg h3,if_neg h4,if_neg h5,if_neg h6]
theorem mul_bd (a b:Int):-4611686018427387904≤W32 a*W32 b∧W32 a*W32 b≤4611686018427387904:=by
 have h1:=W32_lo a;have h2:=W32_hi a;have h3:=W32_lo b;have h4:=W32_hi b;have e:(W32 a*W32 b).natAbs≤2147483648*2147483648:=by
  rw [Int.natAbs_mul];exact Nat.mul_le_mul (by omega) (by omega)
 omega
end Go.Proofs.YtcflojdkaddemaaGreatDoor

namespace Go.Proofs.YtcflojdkaddemaaGreatDoor
open Go.RowKit Go.Lib
def foldT (v:Int):TokL:=⟨0,v,⟨#[]⟩⟩
def seg1 (t:TokL) (ops:List (List TokL)):List TokL:=match ops.flatten with
 | [a,b]=>if 2≤t.kind∧t.kind≤6∧a.kind=0∧b.kind=0∧0≤appZ t.kind a.num b.num∧appZ t.kind a.num b.num≤999 then [foldT (appZ t.kind a.num b.num)] else [t,a,b]
 | o=>t :: o
def segs:List TokL→List (List TokL)
 | []=>[]
 | t :: r=>seg1 t ((segs r).take (arN t)) :: (segs r).drop (arN t)
def foldE (l:List TokL):List TokL:=(segs l).headD []
theorem seg1_cases (t:TokL) (ops:List (List TokL)):seg1 t ops=t :: ops.flatten∨∃ a b,ops.flatten=[a,b]∧(2≤t.kind∧t.kind≤6)∧a.kind=0∧b.kind=0∧0≤appZ t.kind a.num b.num∧appZ t.kind a.num b.num≤999∧seg1 t ops=[foldT (appZ t.kind a.num b.num)]:=by
 unfold seg1
 split
 ·rename_i a b h
  split
  ·rename_i hc
   exact .inr ⟨a,b,h,⟨hc.1,hc.2.1⟩,hc.2.2.1,hc.2.2.2.1,hc.2.2.2.2.1,hc.2.2.2.2.2,rfl⟩
  ·exact .inl (by rw [h])
 ·exact .inl rfl
theorem seg1_pos (t:TokL) (ops:List (List TokL)):0<(seg1 t ops).length:=by
 rcases seg1_cases t ops with h|⟨_,_,_,_,_,_,_,_,h⟩ <;> rw [h] <;> simp
theorem segs_scan (l:List TokL):∀ m q,scanN l m=some q→m≤(segs l).length∧(segs l).drop m=segs (l.drop q):=by
 induction l with
 | nil =>
  intro m q h
  cases m with
  | zero=>rw [scanN] at h;injection h with h;subst h;exact ⟨Nat.zero_le _,rfl⟩
  | succ m=>rw [scanN] at h;cases h
 | cons t r ih =>
  intro m q h
  cases m with
  | zero=>rw [scanN] at h;injection h with h;subst h;exact ⟨Nat.zero_le _,rfl⟩
  | succ m =>
   rw [scanN] at h
   split at h
   ·cases hr:scanN r (m+(arZ t).toNat) with
    | none=>rw [hr] at h;cases h
    | some q' =>
     rw [hr] at h;injection h with h
     subst h;obtain ⟨h1,h2⟩:=ih _ _ hr;refine ⟨?_,?_⟩
     ·have:arN t=(arZ t).toNat:=rfl
      simp only [segs,List.length_cons,List.length_drop];omega
     ·have:arN t=(arZ t).toNat:=rfl
      simp only [segs,List.drop_succ_cons,List.drop_drop];rw [this,Nat.add_comm (arZ t).toNat m];exact h2
   ·cases h
theorem scan_num (v:Int) (h0:0≤v) (h1:v≤999) (tl:List TokL) (k:Nat):scanN (foldT v :: tl) (k+1)=(scanN tl k).map (·+1):=by
 have hb:tokB (foldT v)=true:=by
  show tokB ⟨0,v,⟨#[]⟩⟩=true
  rw [tokB_0,decide_eq_true h0,decide_eq_true h1];rfl
 rw [scanN,if_pos hb]
 have:arZ (foldT v)=0:=arZ_0 _ _ hb
 rw [this];rfl
def OneE (x:List TokL):Prop:=∀ tl k,scanN (x++tl) (k+1)=(scanN tl k).map (·+x.length)
theorem one_flat (L:List (List TokL)) (h:∀ x ∈ L,OneE x):∀ tl k,scanN (L.flatten++tl) (k+L.length)=(scanN tl k).map (·+L.flatten.length):=by
 induction L with
 | nil=>intro tl k;simp
 | cons x r ih =>
  intro tl k;rw [List.flatten_cons,List.append_assoc,List.length_cons,← Nat.add_assoc,h x (List.mem_cons_self ..),ih (fun y hy=>h y (List.mem_cons_of_mem _ hy))]
  cases scanN tl k with
  | none=>rfl
  | some z=>simp;omega
theorem one_seg (t:TokL) (ops:List (List TokL)) (hb:tokB t=true) (hl:ops.length=arN t) (h:∀ x ∈ ops,OneE x):OneE (seg1 t ops):=fun tl k=>by
 rcases seg1_cases t ops with hs|⟨a,b,hab,hk,ha,hb0,h0,h1,hs⟩
 ·rw [hs,List.cons_append,scanN,if_pos hb]
  have:=one_flat ops h tl k
  rw [hl] at this;have e:(arZ t).toNat=arN t:=rfl;rw [e,this]
  cases scanN tl k with
  | none=>rfl
  | some z=>simp;omega
 ·rw [hs]
  exact scan_num _ h0 h1 tl k
theorem segs_one (l:List TokL):∀ m q,scanN l m=some q→∀ x ∈ (segs l).take m,OneE x:=by
 induction l with
 | nil =>
  intro m q h x hx
  cases m with
  | zero=>simp at hx
  | succ m=>rw [scanN] at h;cases h
 | cons t r ih =>
  intro m q h x hx
  cases m with
  | zero=>simp at hx
  | succ m =>
   rw [scanN] at h
   split at h
   ·rename_i hb
    cases hr:scanN r (m+(arZ t).toNat) with
    | none=>rw [hr] at h;cases h
    | some q' =>
     have hr':scanN r (arN t+m)=some q':=by rw [Nat.add_comm];exact hr
     have hle:=(segs_scan r _ _ hr').1;have hsplit:(segs r).take (arN t+m)=(segs r).take (arN t)++((segs r).drop (arN t)).take m:=List.take_add;have hall:=ih _ _ hr';rw [hsplit] at hall;have hT:(segs (t :: r)).take (m+1)=seg1 t ((segs r).take (arN t)) :: ((segs r).drop (arN t)).take m:=by simp [segs]
     rw [hT] at hx
     rcases List.mem_cons.1 hx with rfl|hx
     ·exact one_seg t _ hb (by rw [List.length_take];omega) (fun y hy=>hall y (List.mem_append_left _ hy))
     ·exact hall x (List.mem_append_right _ hx)
   ·cases h
theorem segs_expr (l:List TokL) (h:scanN l 1=some l.length):segs l=[foldE l]∧OneE (foldE l):=by
 obtain ⟨h1,h2⟩:=segs_scan l 1 _ h;rw [List.drop_length] at h2;have h3:=segs_one l 1 _ h;unfold foldE
 cases hs:segs l with
 | nil=>rw [hs] at h1;simp at h1
 | cons x r =>
  rw [hs] at h2 h3;simp only [List.drop_succ_cons,List.drop_zero] at h2
  have:r=[]:=h2
  subst this;exact ⟨rfl,h3 x (by simp)⟩
end Go.Proofs.YtcflojdkaddemaaGreatDoor

namespace Go.Proofs.YtcflojdkaddemaaGreatDoor
open Go.RowKit Go.Lib
def pre (acc:List Int):RunRes→RunRes
 | .vals ws i=>.vals (acc++ws) i
 | r=>r
section
variable {p:List PLine} {ap:Int→Int→Int→Int} {ar:TokL→Nat} {lim n:Nat} {c:List Int} {f k i m:Nat} {L:List ByteArray} {vs:List Int} {s:RunS} {z:RunRes×RunS}
end
end Go.Proofs.YtcflojdkaddemaaGreatDoor

namespace Go.Proofs.YtcflojdkaddemaaGreatDoor
open Go.RowKit Go.Lib
theorem segs_pos (l:List TokL):∀ z ∈ segs l,0<z.length:=by
 induction l with
 | nil=>intro z h;cases h
 | cons t r ih =>
  intro z h
  rcases List.mem_cons.1 h with rfl|h
  ·exact seg1_pos _ _
  ·exact ih z (List.mem_of_mem_drop h)
end Go.Proofs.YtcflojdkaddemaaGreatDoor

namespace Go.Proofs.YtcflojdkaddemaaGreatDoor
open Go.RowKit Go.Lib
def foldL (x:PLine):PLine:=⟨x.kind,x.name,x.args,foldE x.expr⟩
def foldP (p:List PLine):List PLine:=p.map foldL
theorem foldP_length (p:List PLine):(foldP p).length=p.length:=by simp [foldP]
theorem foldP_get (p:List PLine) (k:Nat) (h:k<(foldP p).length) (h':k<p.length):(foldP p)[k]=foldL p[k]:=by simp [foldP]
theorem foldP_at (p:List PLine) (k:Nat):(foldP p)[k]?=(p[k]?).map foldL:=by simp [foldP]
theorem foldP_drop (p:List PLine) (k:Nat):(foldP p).drop k=foldP (p.drop k):=by simp [foldP,List.map_drop]
theorem foldP_take (p:List PLine) (k:Nat):(foldP p).take k=foldP (p.take k):=by simp [foldP,List.map_take]
theorem endF_fold (l:List PLine):∀ o i,endF o i (foldP l)=endF o i l:=by
 induction l with
 | nil=>intro o i;rfl
 | cons x r ih =>
  intro o i;have e:foldP (x :: r)=foldL x :: foldP r:=rfl;have hk:(foldL x).kind=x.kind:=rfl;rw [e,endF,endF,hk,ih]
theorem lkZ_fold (p:List PLine) (k:Int):lkZ (foldP p) k=lkZ p k:=by
 unfold lkZ;rw [foldP_at]
 cases p[k.toNat]? <;> rfl
theorem beZ_fold (p:List PLine) (k:Int):beZ (foldP p) k=beZ p k:=by
 unfold beZ;rw [foldP_length,lkZ_fold,foldP_drop,endF_fold]
theorem elseF_fold (p:List PLine) (e:Int):∀ n i,elseF (foldP p) e n i=elseF p e n i:=by
 intro n
 induction n with
 | zero=>intro i;rfl
 | succ n ih=>intro i;rw [elseF,elseF,lkZ_fold];simp only [beZ_fold,ih]
theorem elseZ_fold (p:List PLine) (k:Int):elseZ (foldP p) k=elseZ p k:=by
 unfold elseZ;rw [beZ_fold,lkZ_fold,elseF_fold,foldP_length]
theorem funF_fold (l:List PLine):∀ i,funF i (foldP l)=funF i l:=by
 induction l with
 | nil=>intro i;rfl
 | cons x r ih =>
  intro i;have e:foldP (x :: r)=foldL x :: foldP r:=rfl;have hk:(foldL x).kind=x.kind:=rfl;rw [e,funF,funF,hk,ih]
theorem funs_fold (p:List PLine):funs (foldP p)=funs p:=funF_fold p 0
theorem findF_fold (n:ByteArray) (l:List PLine):∀ i,findF n i (foldP l)=findF n i l:=by
 induction l with
 | nil=>intro i;rfl
 | cons x r ih =>
  intro i;have e:foldP (x :: r)=foldL x :: foldP r:=rfl;have hk:(foldL x).kind=x.kind:=rfl;have hn:(foldL x).name=x.name:=rfl;rw [e,findF,findF,hk,hn,ih]
theorem findZ_fold (p:List PLine) (n:ByteArray):findZ (foldP p) n=findZ p n:=findF_fold n p 0
theorem locF_fold (l:List PLine):∀ v,locF v (foldP l)=locF v l:=by
 induction l with
 | nil=>intro v;rfl
 | cons x r ih =>
  intro v;have e:foldP (x :: r)=foldL x :: foldP r:=rfl;have hk:(foldL x).kind=x.kind:=rfl;have hn:(foldL x).name=x.name:=rfl;rw [e,locF,locF,hk,hn];simp only [ih]
theorem argsZ_fold (p:List PLine) (k:Int):argsZ (foldP p) k=argsZ p k:=by
 unfold argsZ;rw [foldP_at]
 cases p[k.toNat]? <;> rfl
theorem locZ_fold (p:List PLine) (k:Int):locZ (foldP p) k=locZ p k:=by
 unfold locZ;rw [beZ_fold,lkZ_fold,argsZ_fold,foldP_drop,foldP_take,locF_fold]
theorem knownP_fold (p:List PLine) (v:List ByteArray) (t:TokL):knownP (foldP p) v t↔knownP p v t:=by
 unfold knownP;rw [findZ_fold,argsZ_fold]
end Go.Proofs.YtcflojdkaddemaaGreatDoor

namespace Go.Proofs.YtcflojdkaddemaaGreatDoor
open Go.RowKit Go.Lib
theorem seg1_len (t:TokL) (ops:List (List TokL)):(seg1 t ops).length≤ops.flatten.length+1:=by
 rcases seg1_cases t ops with h|⟨_,_,_,_,_,_,_,_,h⟩ <;> rw [h] <;> simp
theorem segs_len (l:List TokL):(segs l).flatten.length≤l.length:=by
 induction l with
 | nil=>simp [segs]
 | cons t r ih =>
  have h1:=seg1_len t ((segs r).take (arN t));have h2:(segs r).flatten.length=((segs r).take (arN t)).flatten.length+((segs r).drop (arN t)).flatten.length:=by
   rw [← List.length_append,← List.flatten_append,List.take_append_drop]
  rw [segs,List.flatten_cons,List.length_append,List.length_cons];omega
theorem foldE_len (l:List TokL):(foldE l).length≤l.length:=by
 have:=segs_len l
 unfold foldE
 cases hs:segs l with
 | nil=>simp
 | cons x r =>
  rw [hs,List.flatten_cons,List.length_append] at this;simp only [List.headD_cons];omega
theorem seg1_mem (t:TokL) (ops:List (List TokL)):∀ x ∈ seg1 t ops,x=t∨x ∈ ops.flatten∨∃ v,0≤v∧v≤999∧x=foldT v:=by
 intro x hx
 rcases seg1_cases t ops with h|⟨_,_,_,_,_,_,h0,h1,h⟩
 ·rw [h] at hx
  rcases List.mem_cons.1 hx with rfl|hx
  ·exact .inl rfl
  ·exact .inr (.inl hx)
 ·rw [h] at hx
  exact .inr (.inr ⟨_,h0,h1,List.mem_singleton.1 hx⟩)
theorem segs_mem (l:List TokL):∀ z ∈ segs l,∀ x ∈ z,x ∈ l∨∃ v,0≤v∧v≤999∧x=foldT v:=by
 induction l with
 | nil=>intro z h;cases h
 | cons t r ih =>
  intro z h x hx;have hr:∀ z ∈ segs r,∀ x ∈ z,x ∈ t :: r∨∃ v,0≤v∧v≤999∧x=foldT v:=fun z hz x hx=>by
   rcases ih z hz x hx with h|h
   ·exact .inl (List.mem_cons_of_mem _ h)
   ·exact .inr h
  rcases List.mem_cons.1 h with rfl|h
  ·rcases seg1_mem _ _ x hx with rfl|h|h
   ·exact .inl (List.mem_cons_self ..)
   ·obtain ⟨z,hz,hx⟩:=List.mem_flatten.1 h
    exact hr z (List.mem_of_mem_take hz) x hx
   ·exact .inr h
  ·exact hr z (List.mem_of_mem_drop h) x hx
theorem foldE_mem (l:List TokL):∀ x ∈ foldE l,x ∈ l∨∃ v,0≤v∧v≤999∧x=foldT v:=by
 intro x hx;unfold foldE at hx
 cases hs:segs l with
 | nil=>rw [hs] at hx;cases hx
 | cons z r =>
  rw [hs] at hx;exact segs_mem l z (by rw [hs];exact List.mem_cons_self ..) x hx
theorem exprB_scan (l:List TokL):exprB l=true↔l.length≤20∧scanN l 1=some l.length:=by
 unfold exprB endZ;rw [Bool.and_eq_true,decide_eq_true_eq,decide_eq_true_eq,if_neg (by decide)];refine and_congr_right fun _=>?_
 simp only [Int.toNat_zero,List.drop_zero]
 cases scanN l 1 with
 | none=>simp [resZ] <;> omega
 | some q=>simp [resZ] <;> omega
theorem exprB_fold (l:List TokL) (h:exprB l=true):exprB (foldE l)=true:=by
 rw [exprB_scan] at h ⊢;refine ⟨by have:=foldE_len l;omega,?_⟩
 have:=(segs_expr l h.2).2 [] 0
 rw [List.append_nil] at this;rw [this];simp [scanN]
theorem lineB_fold (x:PLine) (h:lineB x=true):lineB (foldL x)=true:=by
 rw [lineB_iff] at h ⊢;refine ⟨h.1,h.2.1,h.2.2.1,?_⟩;have h4:=h.2.2.2
 show efB (exprK x.kind) (foldE x.expr)=true
 unfold efB at h4 ⊢
 split at h4
 ·rw [if_pos (by assumption)];exact exprB_fold _ h4
 ·rw [if_neg (by assumption)]
  rw [decide_eq_true_eq] at h4 ⊢;rw [List.length_eq_zero_iff.1 h4];rfl
theorem followF_fold (p:List PLine) (l:List Nat):∀ n,followF (foldP p) n l↔followF p n l:=by
 induction l with
 | nil=>intro n;show n=((foldP p).length:Int)↔n=(p.length:Int);rw [foldP_length]
 | cons k r ih=>intro n;rw [followF,followF,beZ_fold,ih]
theorem nestF_fold (l:List PLine):∀ o,nestF o (foldP l)↔nestF o l:=by
 induction l with
 | nil=>intro o;exact Iff.rfl
 | cons x r ih =>
  intro o;have e:foldP (x :: r)=foldL x :: foldP r:=rfl;have hk:(foldL x).kind=x.kind:=rfl;rw [e,nestF,nestF,hk,ih]
theorem elsesF_fold (p:List PLine) (l:List PLine):∀ i,elsesF (foldP p) i (foldP l)↔elsesF p i l:=by
 induction l with
 | nil=>intro i;exact Iff.rfl
 | cons x r ih =>
  intro i;have e:foldP (x :: r)=foldL x :: foldP r:=rfl;have hk:(foldL x).kind=x.kind:=rfl;rw [e,elsesF,elsesF,hk,ih];simp only [elseZ_fold]
theorem ok_fold {p:List PLine} (h:OkI p):OkI (foldP p):=by
 obtain ⟨⟨h1,h2⟩,⟨h3,h4,h5,h6⟩,h7,h8,h9,h10⟩:=h;refine ⟨⟨by rw [foldP_length];exact h1,fun x hx=>?_⟩,⟨by rw [funs_fold];exact h3,by rw [findZ_fold];exact h4,by rw [argsZ_fold];exact h5,fun k hk hl=>?_⟩,by rw [followF_fold,funs_fold];exact h7,(nestF_fold p 0).2 h8,(elsesF_fold p p 0).2 h9,fun k hk=>?_⟩
 ·obtain ⟨y,hy,rfl⟩:=List.mem_map.1 hx
  exact lineB_fold y (h2 y hy)
 ·rw [funs_fold] at hk
  have hl':k<p.length:=by rw [foldP_length] at hl;exact hl
  rw [findZ_fold,foldP_get p k hl hl'];exact h6 k hk hl'
 ·rw [funs_fold] at hk
  obtain ⟨a,b⟩:=h10 k hk;refine ⟨by rw [locZ_fold];exact a,fun x hx t ht=>?_⟩;rw [beZ_fold] at hx;rw [knownP_fold,locZ_fold];have hx':x ∈ foldP (segZ p k (beZ p k).toNat):=by
   unfold segZ at hx ⊢;rw [← foldP_take,← foldP_drop];exact hx
  obtain ⟨y,hy,rfl⟩:=List.mem_map.1 hx'
  rcases foldE_mem y.expr t ht with h|⟨v,_,_,rfl⟩
  ·exact b y hy t h
  ·exact ⟨fun h=>absurd h (by show ¬ (0:Int)=1;decide),fun h=>absurd h (by show ¬ (0:Int)=7;decide)⟩
end Go.Proofs.YtcflojdkaddemaaGreatDoor

namespace Go.Proofs.YtcflojdkaddemaaGreatDoor
open Go.RowKit Go.Lib
def isC (x:ItL):Bool:=decide (x.code=12)
def callI (l:List ItL):Nat:=l.countP isC
def isK (t:TokL):Bool:=decide (t.kind=7)
def callT (l:List TokL):Nat:=l.countP isK
theorem tok_kind {t:TokL} (h:tokB t=true):0≤t.kind∧t.kind≤7:=by
 by_cases hk:t.kind<0∨7<t.kind
 ·have:=tokB_out t.kind t.num t.name hk
  rw [show (⟨t.kind,t.num,t.name⟩:TokL)=t from rfl,h] at this
  cases this
 ·omega
def callL (p:List PLine) (a e:Nat):Nat:=((segZ p a e).map fun x=>callT x.expr).sum
end Go.Proofs.YtcflojdkaddemaaGreatDoor

namespace Go.Proofs.YtcflojdkaddemaaGreatDoor
open Go.RowKit Go.Lib
theorem locF_len (l:List PLine):∀ v,(locF v l).length≤v.length+l.length:=by
 induction l with
 | nil=>intro v;exact Nat.le_refl _
 | cons x r ih =>
  intro v;unfold locF
  split
  ·have:=ih (v++[x.name])
   rw [List.length_append,List.length_singleton] at this;rw [List.length_cons];omega
  ·have:=ih v
   rw [List.length_cons];omega
theorem args_len {p:List PLine} (hv:∀ x ∈ p,lineB x=true) (k:Int):(argsZ p k).length≤4:=by
 unfold argsZ
 split
 ·exact Nat.zero_le _
 ·cases hx:p[k.toNat]? with
  | none=>exact Nat.zero_le _
  | some x=>exact line_args x (hv x (List.mem_of_getElem? hx))
theorem loc_len64 {p:List PLine} (h60:p.length≤60) (hv:∀ x ∈ p,lineB x=true) (k:Int):(locZ p k).length≤64:=by
 unfold locZ
 split
 ·have h1:=locF_len ((p.drop k.toNat).take ((beZ p k).toNat - k.toNat)) (argsZ p k)
  have h2:=args_len hv k;have h3:((p.drop k.toNat).take ((beZ p k).toNat - k.toNat)).length≤60:=by rw [List.length_take,List.length_drop];omega
  omega
 ·exact Nat.zero_le _
section
variable {E:CmpE} (h60:E.p.length≤60) (hv:∀ x ∈ E.p,lineB x=true)
include h60 hv
end
end Go.Proofs.YtcflojdkaddemaaGreatDoor

namespace Go.Proofs.YtcflojdkaddemaaGreatDoor
open Go.RowKit Go.Lib
theorem locF_pre (l:List PLine):∀ v,v <+: locF v l:=by
 induction l with
 | nil=>intro v;exact List.prefix_refl _
 | cons x r ih =>
  intro v;unfold locF
  split
  ·exact (List.prefix_append v [x.name]).trans (ih _)
  ·exact ih v
theorem memB_mem (v:List ByteArray) (n:ByteArray) (h:memB v n=true):n ∈ v:=by
 unfold memB at h
 simpa using h
theorem locF_set (l:List PLine):∀ v,∀ x ∈ l,x.kind=1→x.name ∈ locF v l:=by
 induction l with
 | nil=>intro v x h;cases h
 | cons y r ih =>
  intro v x hx h1;unfold locF
  rcases List.mem_cons.1 hx with rfl|hx
  ·by_cases hm:memB v x.name=false
   ·rw [if_pos ⟨h1,hm⟩]
    exact (locF_pre r _).subset (by simp)
   ·rw [if_neg (fun h=>hm h.2)]
    exact (locF_pre r _).subset (memB_mem v _ (by simpa using hm))
  ·split
   ·exact ih _ x hx h1
   ·exact ih _ x hx h1
section
variable {p:List PLine} (ho:OkI p) {f:Nat} (hf:f ∈ funs p)
include ho hf
theorem fun_parts:∃ hl:f<p.length,p[f].kind=0∧(f:Int)<beZ p (f:Int)∧beZ p (f:Int)<(p.length:Int)∧locZ p (f:Int)=locF p[f].args (segZ p f (beZ p (f:Int)).toNat):=by
 obtain ⟨hl,h0⟩:=funs_at p f hf;have hb:0≤beZ p (f:Int):=by
  have key:∀ (l:List Nat) (n:Int),followF p n l→f ∈ l→0≤beZ p (f:Int):=by
   intro l
   induction l with
   | nil=>intro n _ h;cases h
   | cons x r ih =>
    intro n h hm
    rcases List.mem_cons.1 hm with e|hm
    ·rw [e];exact h.2.1
    ·exact ih _ h.2.2 hm
  exact key _ _ ho.2.2.1 hf
 refine ⟨hl,h0,beZ_gt p _ hb,(beZ_lt p _).2,?_⟩;unfold locZ argsZ segZ;rw [if_pos ⟨hb,by rw [lkZ_at p f hl];exact h0⟩,if_neg (by omega),Int.toNat_natCast,List.getElem?_eq_getElem hl]
theorem loc_args:∃ hl:f<p.length,argsZ p (f:Int)=p[f].args∧p[f].args <+: locZ p (f:Int)∧p[f].args.length≤4∧p[f].args.Nodup:=by
 obtain ⟨hl,h0,_,_,hloc⟩:=fun_parts ho hf;refine ⟨hl,?_,by rw [hloc];exact locF_pre _ _,?_⟩
 ·unfold argsZ
  rw [if_neg (by omega),Int.toNat_natCast,List.getElem?_eq_getElem hl]
 ·have h:=((lineB_iff _).1 (ho.1.2 _ (List.getElem_mem hl))).2.2.1
  have h2:=af_small _ _ h;exact ⟨h2.1,((diffB_iff _).1 h2.2).2⟩
theorem loc_len:(locZ p (f:Int)).length≤8:=(ho.2.2.2.2.2 f hf).1
theorem loc_set {k:Nat} (h1:f<k) (h2:(k:Int)<beZ p (f:Int)) (hl:k<p.length) (hk:p[k].kind=1):p[k].name ∈ locZ p (f:Int):=by
 obtain ⟨_,_,_,_,hloc⟩:=fun_parts ho hf;rw [hloc];refine locF_set _ _ _ ?_ hk;unfold segZ;rw [List.mem_iff_getElem?];refine ⟨k - f,?_⟩;rw [List.getElem?_take,if_pos (by omega),List.getElem?_drop,show f+(k - f)=k from by omega,List.getElem?_eq_getElem hl]
end
theorem var_at (L:List ByteArray) (n:ByteArray) (h:n ∈ L):∃ hl:varIx L n<L.length,L[varIx L n]=n:=by
 have hlt:varIx L n<L.length:=List.findIdx_lt_length_of_exists ⟨n,h,by simp⟩;exact ⟨hlt,of_decide_eq_true (List.findIdx_getElem (w:=hlt))⟩
theorem follow_around (p:List PLine) (l:List Nat):∀ n:Int,followF p n l→∀ o:Nat,n≤(o:Int)→o<p.length→∃ g ∈ l,g≤o∧(o:Int)≤beZ p (g:Int):=by
 induction l with
 | nil=>intro n h o h1 h2;have:n=(p.length:Int):=h;omega
 | cons x r ih =>
  intro n h o h1 h2;obtain ⟨hx,hb,hr⟩:=h
  by_cases ho:(o:Int)≤beZ p (x:Int)
  ·exact ⟨x,List.mem_cons_self ..,by omega,ho⟩
  ·obtain ⟨g,hg,h3⟩:=ih _ hr o (by omega) h2
   exact ⟨g,List.mem_cons_of_mem _ hg,h3⟩
theorem else_in {p:List PLine} (ho:OkI p) {f k:Nat} (hf:f ∈ funs p) (h1:f<k) (h2:(k:Int)<beZ p (f:Int)) (hl:k<p.length) (h4:p[k].kind=4):f<elseOpen p k:=by
 obtain ⟨j1,j2,j3⟩:=else_jump ho hl h4;generalize elseOpen p k=o at *;have h3:lkZ p (o:Int)=3:=by
  unfold elseZ at j2
  split at j2
  ·rename_i hc;exact hc.2
  ·omega
 have hob:0≤beZ p (o:Int):=by omega
 obtain ⟨g,hg,hgo,hob2⟩:=follow_around p (funs p) 0 ho.2.2.1 o (by omega) (by omega);obtain ⟨hgl,hg0⟩:=funs_at p g hg;have hne:g≠o:=fun e=>by
  subst e;rw [lkZ_at p g hgl,hg0] at h3;exact absurd h3 (by decide)
 have hne2:(o:Int)≠beZ p (g:Int):=fun e=>by
  have:=beZ_7 p (g:Int) (by omega)
  rw [← e,h3] at this;exact absurd this (by decide)
 rcases Nat.lt_trichotomy g f with h|h|h
 ·have a1:=follow_apart p (funs p) 0 ho.2.2.1 g hg f hf h
  have a2:=beZ_apart p g o (by omega) (by omega) (by omega) hob;omega
 ·omega
 ·have:=follow_apart p (funs p) 0 ho.2.2.1 f hf g hg h
  omega
end Go.Proofs.YtcflojdkaddemaaGreatDoor

namespace Go.Proofs.YtcflojdkaddemaaGreatDoor
open Go.RowKit Go.Lib
def nxZ (p:List PLine) (k:Nat):Int :=
 if lkZ p (k:Int)=3 then (if 0≤elseZ p (k:Int) then elseZ p (k:Int)+1 else beZ p (k:Int)+1)
 else if lkZ p (k:Int)=5 then beZ p (k:Int)+1
 else beZ p (elseOpen p k:Int)+1
structure CiS where
 items:List ItL
 depth:Int
 used:Nat
 pend:Bool
 jumps:List (Nat×Nat)
 firsts:List Nat
inductive IJob where
 | expr (scs:List ScL) (k i:Nat)
 | args (scs:List ScL) (k i m:Nat)
 | lines (scs:List ScL) (k:Nat) (d:Int)
def emitJ (E:CmpE) (t:CiS) (code arg:Int) (line:Nat) (chain:List Nat):CiS :=
 { t with items:=t.items++[⟨code,arg,line,t.pend,chain,if E.framed&&decide (code≠13) then 0 else t.depth,E.framed&&decide (code≠13)⟩],pend:=false }
def incJ (t:CiS) (d:Int):CiS:={ t with depth:=t.depth+d }
def storeJ (E:CmpE) (t:CiS) (sc:ScL) (i k:Nat) (chain:List Nat):CiS:=incJ (emitJ E t ((placeZ E t.depth sc i).1+1) (placeZ E t.depth sc i).2 k chain) (-1)
def numJ (E:CmpE) (t:CiS) (v:Int) (k:Nat) (chain:List Nat):CiS:=incJ (emitJ E t 0 v k chain) 1
def storesJ (E:CmpE) (x:ScL) (k:Nat) (chain:List Nat):Nat→CiS→CiS
 | 0,t=>t
 | i+1,t=>storesJ E x k chain i (storeJ E t x i k chain)
def zerosJ (E:CmpE) (x:ScL) (k:Nat) (chain:List Nat):Nat→Nat→CiS→CiS
 | 0,_,t=>t
 | m+1,i,t=>zerosJ E x k chain m (i+1) (storeJ E (numJ E t 0 k chain) x i k chain)
def spaceJ (E:CmpE) (k:Nat) (chain:List Nat) (t:CiS):CiS:=if t.pend=true then emitJ E t 15 0 k chain else t
def enterJ (E:CmpE) (sc x:ScL) (k:Nat) (t:CiS):CiS :=
 let n:=(argsZ E.p (x.f:Int)).length
 spaceJ E k sc.chain (zerosJ E x k sc.chain (x.locs.length - n) n (storesJ E x k sc.chain n { t with used:=max t.used (x.first+x.locs.length) }))
def replJ (E:CmpE) (scs:List ScL) (n g:Nat):Bool :=
 !(decide (E.inl≤scs.length - 1) || (decide (9<beZ E.p (g:Int) - (g:Int)) || decide (200≤n)))&&scs.all fun sc=>decide (sc.f≠g)
theorem replJ_is (E:CmpE) (scs:List ScL) (s:CmpS) (g:Nat):replB E scs s g=replJ E scs s.items.length g:=rfl
def jumpJ (E:CmpE) (t:CiS) (code:Int) (l k:Nat) (chain:List Nat):CiS:={ emitJ E t code 0 k chain with jumps:=t.jumps++[(t.items.length,l)] }
def leaveJ (E:CmpE) (t:CiS) (sc:ScL) (k:Nat):CiS :=
 if sc.outer=false then jumpJ E t 10 ((beZ E.p (sc.f:Int)).toNat+1) k sc.chain
 else if E.framed=true then emitJ E t 14 (E.args:Int) k sc.chain
 else emitJ E t 16 ((E.args:Int)+16*E.words) k sc.chain
def firstJ (f:Nat) (F:List Nat) (l:Nat):Int:=(((F[l - (f+1)]?).getD 0:Nat):Int)
def applyJ (f:Nat) (F:List Nat) (J:List (Nat×Nat)) (l:List ItL):List ItL:=J.foldl (fun l j=>setArg l j.1 (firstJ f F j.2)) l
abbrev CiO:=Option (Nat×CiS)
def cmiF (E:CmpE):Nat→IJob→CiS→CiO
 | 0,_,_=>none
 | n+1,.args scs k i 0,t=>some (i,t)
 | n+1,.args scs k i (m+1),t=>(cmiF E n (.expr scs k i) t).bind fun y=>cmiF E n (.args scs k y.1 m) y.2
 | n+1,.expr scs k i,t =>
  let u:=tokAt E.p k i
  let sc:=curS scs
  (cmiF E n (.args scs k (i+1) (arN u)) t).bind fun y =>
   if u.kind=0 then some (y.1,{ emitJ E y.2 0 u.num k sc.chain with depth:=t.depth+1 })
   else if u.kind=1 then some (y.1,{ emitJ E y.2 (placeZ E y.2.depth sc (varIx sc.locs u.name)).1 (placeZ E y.2.depth sc (varIx sc.locs u.name)).2 k sc.chain with depth:=t.depth+1 })
   else if u.kind=7 then
    let g:=(findZ E.p u.name).toNat
    if replJ E scs y.2.items.length g=true then
     let x:=newSc E sc g k
     let t1:=enterJ E sc x k y.2
     (cmiF E n (.lines (x :: scs) (g+1) t1.depth) { t1 with jumps:=[],firsts:=[],pend:=false }).map fun z=>(y.1,{ z.2 with depth:=t.depth+1,pend:=t1.pend,jumps:=y.2.jumps,firsts:=y.2.firsts })
    else some (y.1,{ emitJ E y.2 12 (funNo E.p g) k sc.chain with depth:=t.depth+1 })
   else some (y.1,{ emitJ E y.2 (5+u.kind - 2) 0 k sc.chain with depth:=t.depth+1 })
 | n+1,.lines scs k d,t =>
  let sc:=curS scs
  let e:=beZ E.p (sc.f:Int)
  let t1:={ t with depth:=d,firsts:=t.firsts++[t.items.length] }
  if e<(k:Int) then some (0,{ t with firsts:=t.firsts++[t.items.length],items:=applyJ sc.f (t.firsts++[t.items.length]) t.jumps t.items })
  else if lkZ E.p (k:Int)=4 then cmiF E n (.lines scs (k+1) d) (jumpJ E t1 10 (nxZ E.p k).toNat k sc.chain)
  else if lkZ E.p (k:Int)=7 then
   if (k:Int)=e then cmiF E n (.lines scs (k+1) d) (if sc.outer=true then leaveJ E (numJ E t1 0 k sc.chain) sc k else numJ E t1 0 k sc.chain)
   else if lkZ E.p (endOpen E.p k:Int)=5 then cmiF E n (.lines scs (k+1) d) (jumpJ E t1 10 (endOpen E.p k) k sc.chain)
   else cmiF E n (.lines scs (k+1) d) t1
  else
   (cmiF E n (.expr scs k 0) { t1 with pend:=true }).bind fun y =>
    if lkZ E.p (k:Int)=1 then cmiF E n (.lines scs (k+1) d) (storeJ E y.2 sc (varIx sc.locs (nameAt E.p k)) k sc.chain)
    else if lkZ E.p (k:Int)=2 then cmiF E n (.lines scs (k+1) d) (emitJ E y.2 17 0 k sc.chain)
    else if lkZ E.p (k:Int)=6 then cmiF E n (.lines scs (k+1) d) (leaveJ E y.2 sc k)
    else cmiF E n (.lines scs (k+1) d) (jumpJ E y.2 11 (nxZ E.p k).toNat k sc.chain)
structure Tie (s:CmpS) (t:CiS):Prop where
 len:t.items.length=s.items.length
 ne:0<s.items.length
 dep:t.depth=s.depth
 use:t.used=s.most
 pen:t.pend=s.start
structure Gr (s:CmpS) (t:CiS) (s':CmpS) (t':CiS):Prop where
 new:∃ new,s'.items=s.items++new∧t'.items=t.items++new
 lv:s'.leaves=s.leaves
 ju:t'.jumps=t.jumps
 fi:t'.firsts=t.firsts
 tie:Tie s' t'
theorem Gr.refl {s:CmpS} {t:CiS} (h:Tie s t):Gr s t s t:=⟨⟨[],by simp,by simp⟩,rfl,rfl,rfl,h⟩
theorem Gr.trans {s s1 s2:CmpS} {t t1 t2:CiS} (h:Gr s t s1 t1) (h':Gr s1 t1 s2 t2):Gr s t s2 t2:=by
 obtain ⟨a,ha,ha'⟩:=h.new;obtain ⟨b,hb,hb'⟩:=h'.new;exact ⟨⟨a++b,by rw [hb,ha,List.append_assoc],by rw [hb',ha',List.append_assoc]⟩,h'.lv.trans h.lv,h'.ju.trans h.ju,h'.fi.trans h.fi,h'.tie⟩
theorem Gr.emit {s:CmpS} {t:CiS} (h:Tie s t) (E:CmpE) (code arg:Int) (k:Nat) (chain:List Nat) (hc:code≠13):Gr s t (emitI E s code arg k chain) (emitJ E t code arg k chain):=by
 have hne:s.items.isEmpty=false:=by
  cases hs:s.items with
  | nil=>have:=h.ne;rw [hs] at this;simp at this
  | cons a r=>rfl
 refine ⟨⟨[⟨code,arg,k,s.start,chain,if E.framed&&!s.items.isEmpty then 0 else s.depth,E.framed&&!s.items.isEmpty⟩],rfl,?_⟩,rfl,rfl,rfl,⟨?_,?_,h.dep,h.use,rfl⟩⟩
 ·show t.items++[_]=_
  rw [h.pen,h.dep,hne,decide_eq_true hc];rfl
 ·show (t.items++[_]).length=(s.items++[_]).length
  simp [h.len]
 ·show 0<(s.items++[_]).length
  simp
theorem Gr.inc {s s1:CmpS} {t t1:CiS} (h:Gr s t s1 t1) (d:Int):Gr s t (incD s1 d) (incJ t1 d) :=
 ⟨h.new,h.lv,h.ju,h.fi,⟨h.tie.len,h.tie.ne,by show t1.depth+d=s1.depth+d;rw [h.tie.dep],h.tie.use,h.tie.pen⟩⟩
theorem Gr.depI {s s1:CmpS} {t t1:CiS} (h:Gr s t s1 t1) (dd d:Int) (hd:s1.depth+dd=d):Gr s t (incD s1 dd) { t1 with depth:=d }:=⟨h.new,h.lv,h.ju,h.fi,⟨h.tie.len,h.tie.ne,hd.symm,h.tie.use,h.tie.pen⟩⟩
theorem placeZ_ne (E:CmpE) (d:Int) (sc:ScL) (i:Nat):(placeZ E d sc i).1≠13∧(placeZ E d sc i).1+1≠13:=by have:=placeZ_code E d sc i;omega
theorem Gr.store {s:CmpS} {t:CiS} (h:Tie s t) (E:CmpE) (sc:ScL) (i k:Nat) (chain:List Nat):Gr s t (storeI E s sc i k chain) (storeJ E t sc i k chain):=by
 unfold storeI storeJ;rw [h.dep];exact (Gr.emit h E _ _ k chain (placeZ_ne E s.depth sc i).2).inc (-1)
theorem Gr.num {s:CmpS} {t:CiS} (h:Tie s t) (E:CmpE) (v:Int) (k:Nat) (chain:List Nat):Gr s t (numI E s v k chain) (numJ E t v k chain):=(Gr.emit h E _ _ k chain (by decide)).inc 1
theorem Gr.stores (E:CmpE) (x:ScL) (k:Nat) (chain:List Nat):∀ (n:Nat) {s:CmpS} {t:CiS},Tie s t→Gr s t (storesI E x k chain n s) (storesJ E x k chain n t)∧(storesI E x k chain n s).depth=s.depth - n:=by
 intro n
 induction n with
 | zero=>intro s t h;exact ⟨Gr.refl h,by show s.depth=s.depth - ((0:Nat):Int);simp⟩
 | succ n ih =>
  intro s t h;have h1:=Gr.store h E x n k chain;have h2:=ih h1.tie;refine ⟨h1.trans h2.1,?_⟩
  show (storesI E x k chain n (storeI E s x n k chain)).depth=_
  rw [h2.2]
  show s.depth+-1 - (n:Int)=s.depth - ((n+1:Nat):Int)
  omega
theorem Gr.zeros (E:CmpE) (x:ScL) (k:Nat) (chain:List Nat):∀ (m i:Nat) {s:CmpS} {t:CiS},Tie s t→Gr s t (zerosI E x k chain m i s) (zerosJ E x k chain m i t)∧(zerosI E x k chain m i s).depth=s.depth:=by
 intro m
 induction m with
 | zero=>intro i s t h;exact ⟨Gr.refl h,rfl⟩
 | succ m ih =>
  intro i s t h;have h0:=Gr.num h E 0 k chain;have h1:=Gr.store h0.tie E x i k chain;have h2:=ih (i+1) h1.tie;refine ⟨(h0.trans h1).trans h2.1,?_⟩
  show (zerosI E x k chain m (i+1) (storeI E (numI E s 0 k chain) x i k chain)).depth=_
  rw [h2.2]
  show s.depth+1+-1=s.depth
  omega
theorem Gr.enter {s:CmpS} {t:CiS} (h:Tie s t) (E:CmpE) (sc x:ScL) (k:Nat):Gr s t (enterI E sc x k s) (enterJ E sc x k t)∧(enterI E sc x k s).depth=s.depth - ((argsZ E.p (x.f:Int)).length:Int)∧(enterI E sc x k s).start=false:=by
 have h0:Tie { s with most:=max s.most (x.first+x.locs.length) } { t with used:=max t.used (x.first+x.locs.length) }:=⟨h.len,h.ne,h.dep,by show max t.used _=max s.most _;rw [h.use],h.pen⟩;have h1:=Gr.stores E x k sc.chain (argsZ E.p (x.f:Int)).length h0;have h2:=Gr.zeros E x k sc.chain (x.locs.length - (argsZ E.p (x.f:Int)).length) (argsZ E.p (x.f:Int)).length h1.1.tie;have h3:Gr s t (zerosI E x k sc.chain (x.locs.length - (argsZ E.p (x.f:Int)).length) (argsZ E.p (x.f:Int)).length (storesI E x k sc.chain (argsZ E.p (x.f:Int)).length { s with most:=max s.most (x.first+x.locs.length) })) (zerosJ E x k sc.chain (x.locs.length - (argsZ E.p (x.f:Int)).length) (argsZ E.p (x.f:Int)).length (storesJ E x k sc.chain (argsZ E.p (x.f:Int)).length { t with used:=max t.used (x.first+x.locs.length) })):=by
  have:=h1.1.trans h2.1
  exact ⟨this.new,this.lv,this.ju,this.fi,this.tie⟩
 unfold enterI enterJ spaceJ;dsimp only;rw [h3.tie.pen]
 split
 ·refine ⟨h3.trans (Gr.emit h3.tie E 15 0 k sc.chain (by decide)),?_,rfl⟩
  show (zerosI E x k sc.chain _ _ _).depth=_
  rw [h2.2,h1.2]
 ·rename_i hs
  exact ⟨h3,by rw [h2.2,h1.2],by simpa using hs⟩
end Go.Proofs.YtcflojdkaddemaaGreatDoor

namespace Go.Proofs.YtcflojdkaddemaaGreatDoor
open Go.RowKit Go.Lib
end Go.Proofs.YtcflojdkaddemaaGreatDoor
namespace Go.Proofs.YtcflojdkaddemaaGreatDoor
open Go.RowKit Go.Lib
def LnL.has (x:LnL) (g:Nat):Prop:=x.va.ownBlock=some g∨x.ve.ownBlock=some g
def Made (TS TK:TypeId) (B:Nat) (w:World) (X:List LnL):Prop :=
 (∀ x ∈ X,w.ownsRow B TS 1 x.va x.args.length (strV x.args)∧w.ownsRow B TK 3 x.ve x.expr.length (toksV x.expr))∧X.Pairwise fun x y=>∀ g h,x.has g→y.has h→g<h
theorem Made.nil (TS TK:TypeId) (B:Nat) (w:World):Made TS TK B w []:=⟨fun _ h=>by simp at h,List.Pairwise.nil⟩
theorem Made.below {TS TK:TypeId} {B:Nat} {w w':World} {X:List LnL} (h:Made TS TK B w X) (hb:Below w.heap.size w w'):Made TS TK B w' X :=
 ⟨fun x hx=>⟨owns_below (h.1 x hx).1 hb,owns3_below (h.1 x hx).2 hb⟩,h.2⟩
theorem Made.lt {TS TK:TypeId} {B:Nat} {w:World} {X:List LnL} (h:Made TS TK B w X) (x:LnL) (hx:x ∈ X) (g:Nat) (hg:x.has g):B≤g∧g<w.heap.size:=by
 rcases hg with hg|hg
 ·exact (h.1 x hx).1.lt g hg
 ·exact (h.1 x hx).2.lt g hg
theorem Made.grown {TS TK TL:TypeId} {B:Nat} {w w':World} {X:List LnL} {r:Option Nat} (h:Made TS TK B w X) (hg:w.grownBy w' r) (hr:∀ g,r=some g→w.heap.size≤g∨∃ cs,w.heap[g]?=some (.cells cs TL (0,0))) (h1:TL≠TS) (h2:TL≠TK):Made TS TK B w' X:=by
 refine ⟨fun x hx=>⟨owns_other (h.1 x hx).1 hg (fun g e=>?_),owns_other (h.1 x hx).2 hg (fun g e=>?_)⟩,h.2⟩
 ·rcases hr g e with h|⟨cs,h⟩
  ·exact .inl h
  ·exact .inr ⟨cs,_,h,h1⟩
 ·rcases hr g e with h|⟨cs,h⟩
  ·exact .inl h
  ·exact .inr ⟨cs,_,h,h2⟩
theorem Made.snoc {TS TK:TypeId} {B B':Nat} {w w':World} {X:List LnL} {x:LnL} (h:Made TS TK B w X) (hb:Below w.heap.size w w') (hx:w'.ownsRow B' TS 1 x.va x.args.length (strV x.args)∧w'.ownsRow B' TK 3 x.ve x.expr.length (toksV x.expr)) (hB:B≤B') (hw:w.heap.size≤B'):Made TS TK B w' (X++[x]):=by
 refine ⟨fun y hy=>?_,List.pairwise_append.2 ⟨h.2,List.pairwise_singleton _ _,fun y hy z hz g k hg hk=>?_⟩⟩
 ·rcases List.mem_append.1 hy with hy|hy
  ·exact (h.below hb).1 y hy
  ·obtain rfl:y=x:=by simpa using hy
   exact ⟨owns_lo hx.1 hB,owns_lo hx.2 hB⟩
 ·obtain rfl:z=x:=by simpa using hz
  have h1:=(h.lt y hy g hg).2
  rcases hk with hk|hk
  ·have:=(hx.1.lt k hk).1;omega
  ·have:=(hx.2.lt k hk).1;omega
theorem from_list (s:ByteArray) (t:Nat):(s.extract t s.size).data.toList=s.data.toList.drop t:=by
 simp only [ByteArray.data_extract,Array.toList_extract,List.extract_eq_take_drop];rw [List.take_of_length_le];rw [List.length_drop,list_len];exact Nat.le_refl _
theorem from_size (s:ByteArray) (t:Nat):(s.extract t s.size).size=s.size - t:=by rw [← list_len,from_list,List.length_drop,list_len]
end Go.Proofs.YtcflojdkaddemaaGreatDoor
namespace Go.Proofs.YtcflojdkaddemaaGreatDoor
open Go.RowKit Go.Lib
end Go.Proofs.YtcflojdkaddemaaGreatDoor
namespace Go.Proofs.YtcflojdkaddemaaGreatDoor
open Go.RowKit Go.Lib
end Go.Proofs.YtcflojdkaddemaaGreatDoor
namespace Go.Proofs.YtcflojdkaddemaaGreatDoor
open Go.RowKit Go.Lib
theorem far {B T n s:Nat} {w w':World} {v:Value} {xs:List Value} {r:Option Nat} (h:w.ownsRow B T s v n xs) (hg:w.grownBy w' r) (hne:∀ g,v.ownBlock=some g→r≠some g):w'.ownsRow B T s v n xs :=
 h.kept hg (by
  cases hv:v.ownBlock with
  | none=>exact .inl rfl
  | some g=>exact .inr (fun e=>hne g hv e.symm))
theorem Made.all {TS TK:TypeId} {B:Nat} {w:World} {X:List LnL} (h:Made TS TK B w X):AllIn TS TK w X:=fun x hx=>⟨owns_base (h.1 x hx).1,owns_base (h.1 x hx).2⟩
end Go.Proofs.YtcflojdkaddemaaGreatDoor

namespace Go.Proofs.YtcflojdkaddemaaGreatDoor
open Go.RowKit Go.Lib
structure IvL where
 xs:List Int
 v:Value
def ivV (X:List IvL):List Value:=X.map (·.v)
def ivX (X:List IvL):List (List Int):=X.map (·.xs)
def MadeI (TI B:Nat) (w:World) (X:List IvL):Prop :=
 (∀ x ∈ X,w.ownsRow B TI 1 x.v x.xs.length (intV x.xs))∧X.Pairwise fun x y=>∀ g h,x.v.ownBlock=some g→y.v.ownBlock=some h→g<h
theorem MadeI.lt {TI B:Nat} {w:World} {X:List IvL} (h:MadeI TI B w X) (x:IvL) (hx:x ∈ X) (g:Nat) (hg:x.v.ownBlock=some g):B≤g∧g<w.heap.size:=(h.1 x hx).lt g hg
theorem MadeI.kept {TI B:Nat} {w w':World} {X:List IvL} {r:Option Nat} (h:MadeI TI B w X) (hg:w.grownBy w' r) (hr:∀ x ∈ X,∀ g,x.v.ownBlock=some g→r≠some g):MadeI TI B w' X :=
 ⟨fun x hx=>far (h.1 x hx) hg (hr x hx),h.2⟩
end Go.Proofs.YtcflojdkaddemaaGreatDoor
