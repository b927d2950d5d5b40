/- Parts of the proof. -/
import Derived.Test.YtcflojdkaddemaaGreatDoorI05
namespace Go.Proofs.YtcflojdkaddemaaGreatDoor
open Go.RowKit Go.Lib
structure Onw (t t':CiS):Prop where
 len:t.items.length≤t'.items.length
 used:t'.used=t.used
 ju:t'.jumps=t.jumps
 fi:t'.firsts=t.firsts
theorem Onw.refl (t:CiS):Onw t t:=⟨Nat.le_refl _,rfl,rfl,rfl⟩
theorem Onw.trans {t t1 t2:CiS} (h:Onw t t1) (h':Onw t1 t2):Onw t t2:=⟨Nat.le_trans h.len h'.len,h'.used.trans h.used,h'.ju.trans h.ju,h'.fi.trans h.fi⟩
theorem onw_emit (E:CmpE) (t:CiS) (code arg:Int) (k:Nat) (chain:List Nat):Onw t (emitJ E t code arg k chain):=⟨by unfold emitJ;simp,rfl,rfl,rfl⟩
theorem emitJ_len (E:CmpE) (t:CiS) (code arg:Int) (k:Nat) (chain:List Nat):(emitJ E t code arg k chain).items.length=t.items.length+1:=by unfold emitJ;simp
theorem onw_store (E:CmpE) (t:CiS) (x:ScL) (i k:Nat) (chain:List Nat):Onw t (storeJ E t x i k chain):=by
 have:=onw_emit E t ((placeZ E t.depth x i).1+1) (placeZ E t.depth x i).2 k chain
 exact ⟨this.len,this.used,this.ju,this.fi⟩
theorem onw_num (E:CmpE) (t:CiS) (v:Int) (k:Nat) (chain:List Nat):Onw t (numJ E t v k chain):=by
 have:=onw_emit E t 0 v k chain
 exact ⟨this.len,this.used,this.ju,this.fi⟩
theorem onw_stores (E:CmpE) (x:ScL) (k:Nat) (chain:List Nat):∀ (n:Nat) (t:CiS),Onw t (storesJ E x k chain n t)∧(storesJ E x k chain n t).depth=t.depth - n∧(storesJ E x k chain n t).items.length=t.items.length+n:=by
 intro n
 induction n with
 | zero=>intro t;exact ⟨Onw.refl t,by show t.depth=t.depth - ((0:Nat):Int);simp,rfl⟩
 | succ n ih =>
  intro t;obtain ⟨h1,h2,h3⟩:=ih (storeJ E t x n k chain);refine ⟨(onw_store E t x n k chain).trans h1,?_,?_⟩
  ·show (storesJ E x k chain n (storeJ E t x n k chain)).depth=_
   rw [h2]
   show t.depth+-1 - (n:Int)=t.depth - ((n+1:Nat):Int)
   omega
  ·show (storesJ E x k chain n (storeJ E t x n k chain)).items.length=_
   rw [h3]
   show (emitJ E t _ _ k chain).items.length+n=_
   rw [emitJ_len];omega
theorem onw_zeros (E:CmpE) (x:ScL) (k:Nat) (chain:List Nat):∀ (m i:Nat) (t:CiS),Onw t (zerosJ E x k chain m i t)∧(zerosJ E x k chain m i t).depth=t.depth∧(zerosJ E x k chain m i t).items.length=t.items.length+2*m:=by
 intro m
 induction m with
 | zero=>intro i t;exact ⟨Onw.refl t,rfl,rfl⟩
 | succ m ih =>
  intro i t;obtain ⟨h1,h2,h3⟩:=ih (i+1) (storeJ E (numJ E t 0 k chain) x i k chain);refine ⟨((onw_num E t 0 k chain).trans (onw_store E _ x i k chain)).trans h1,?_,?_⟩
  ·show (zerosJ E x k chain m (i+1) (storeJ E (numJ E t 0 k chain) x i k chain)).depth=_
   rw [h2]
   show t.depth+1+-1=t.depth
   omega
  ·show (zerosJ E x k chain m (i+1) (storeJ E (numJ E t 0 k chain) x i k chain)).items.length=_
   rw [h3]
   show (emitJ E (numJ E t 0 k chain) _ _ k chain).items.length+2*m=_
   rw [emitJ_len]
   show (emitJ E t 0 0 k chain).items.length+1+2*m=_
   rw [emitJ_len];omega
theorem onw_space (E:CmpE) (k:Nat) (chain:List Nat) (t:CiS):Onw t (spaceJ E k chain t)∧(spaceJ E k chain t).depth=t.depth∧(spaceJ E k chain t).pend=false:=by
 unfold spaceJ
 by_cases h:t.pend=true
 ·rw [if_pos h];exact ⟨onw_emit E t 15 0 k chain,rfl,rfl⟩
 ·rw [if_neg h];exact ⟨Onw.refl t,rfl,by simpa using h⟩
theorem onw_enter (E:CmpE) (sc x:ScL) (k:Nat) (t:CiS):t.items.length≤(enterJ E sc x k t).items.length∧(enterJ E sc x k t).used=max t.used (x.first+x.locs.length)∧(enterJ E sc x k t).jumps=t.jumps∧(enterJ E sc x k t).firsts=t.firsts∧(enterJ E sc x k t).depth=t.depth - ((argsZ E.p (x.f:Int)).length:Int)∧(enterJ E sc x k t).pend=false:=by
 have h1:=onw_stores E x k sc.chain (argsZ E.p (x.f:Int)).length { t with used:=max t.used (x.first+x.locs.length) };have h2:=onw_zeros E x k sc.chain (x.locs.length - (argsZ E.p (x.f:Int)).length) (argsZ E.p (x.f:Int)).length (storesJ E x k sc.chain (argsZ E.p (x.f:Int)).length { t with used:=max t.used (x.first+x.locs.length) });have h3:=onw_space E k sc.chain (zerosJ E x k sc.chain (x.locs.length - (argsZ E.p (x.f:Int)).length) (argsZ E.p (x.f:Int)).length (storesJ E x k sc.chain (argsZ E.p (x.f:Int)).length { t with used:=max t.used (x.first+x.locs.length) }));have h4:=(h1.1.trans h2.1).trans h3.1;unfold enterJ;dsimp only;exact ⟨h4.len,h4.used,h4.ju,h4.fi,by rw [h3.2.1,h2.2.1,h1.2.1],h3.2.2⟩
def ScF (E:CmpE) (scs:List ScL):Prop:=1≤scs.length∧scs.length≤E.inl+1∧freeN E (curS scs)≤64*scs.length
theorem replJ_lt {E:CmpE} {scs:List ScL} {n g:Nat} (h:replJ E scs n g=true):scs.length - 1<E.inl∧beZ E.p (g:Int) - (g:Int)≤9∧n<200∧∀ s ∈ scs,s.f≠g:=by
 unfold replJ at h;simp only [Bool.and_eq_true,Bool.not_eq_true',Bool.or_eq_false_iff,decide_eq_false_iff_not] at h;refine ⟨by omega,by omega,by omega,fun s hs=>?_⟩
 have:=List.all_eq_true.1 h.2 s hs
 simpa using this
theorem newSc_free (E:CmpE) (sc:ScL) (g k:Nat):(newSc E sc g k).first=freeN E sc∧freeN E (newSc E sc g k)=(newSc E sc g k).first+(newSc E sc g k).locs.length:=⟨rfl,rfl⟩
theorem ScF.new {E:CmpE} (h60:E.p.length≤60) (hv:∀ x ∈ E.p,lineB x=true) {scs:List ScL} {n g k:Nat} (h:ScF E scs) (hr:replJ E scs n g=true):ScF E (newSc E (curS scs) g k :: scs):=by
 obtain ⟨h1,h2,h3⟩:=h;have hlt:=(replJ_lt hr).1;refine ⟨by simp,by rw [List.length_cons];omega,?_⟩
 show freeN E (newSc E (curS scs) g k)≤64*(scs.length+1)
 rw [(newSc_free E (curS scs) g k).2,(newSc_free E (curS scs) g k).1];have hl:(newSc E (curS scs) g k).locs.length≤64:=loc_len64 h60 hv (g:Int);omega
theorem cbind {x:CiO} {f:Nat×CiS→CiO} {z:Nat×CiS} (h:x.bind f=some z):∃ y,x=some y∧f y=some z:=by
 cases x with
 | none=>cases h
 | some y=>exact ⟨y,rfl,h⟩
theorem cmi_bound {E:CmpE} (h60:E.p.length≤60) (hv:∀ x ∈ E.p,lineB x=true):∀ n,
  (∀ scs k i t z,ScF E scs→cmiF E n (.expr scs k i) t=some z→t.items.length≤z.2.items.length∧z.2.used≤max t.used (64*(E.inl+1))∧z.2.depth=t.depth+1∧z.2.jumps=t.jumps∧z.2.firsts=t.firsts) ∧
  (∀ scs k i m t z,ScF E scs→cmiF E n (.args scs k i m) t=some z→t.items.length≤z.2.items.length∧z.2.used≤max t.used (64*(E.inl+1))∧z.2.depth=t.depth+(m:Int)∧z.2.jumps=t.jumps∧z.2.firsts=t.firsts) ∧
  (∀ scs k d t z,ScF E scs→cmiF E n (.lines scs k d) t=some z→t.items.length≤z.2.items.length∧z.2.used≤max t.used (64*(E.inl+1))):=by
 intro n
 induction n with
 | zero=>exact ⟨fun _ _ _ _ _ _ h=>by simp [cmiF] at h,fun _ _ _ _ _ _ _ h=>by simp [cmiF] at h,fun _ _ _ _ _ _ h=>by simp [cmiF] at h⟩
 | succ n ih =>
  obtain ⟨ihe,iha,ihl⟩:=ih;refine ⟨fun scs k i t z hs h=>?_,fun scs k i m t z hs h=>?_,fun scs k d t z hs h=>?_⟩
  ·rw [cmiF] at h
   obtain ⟨y,h1,h2⟩:=cbind h;obtain ⟨a1,a2,a3,a4,a5⟩:=iha _ _ _ _ _ _ hs h1;dsimp only at h2;have fin:∀ code arg,t.items.length≤(emitJ E y.2 code arg k (curS scs).chain).items.length∧(emitJ E y.2 code arg k (curS scs).chain).used≤max t.used (64*(E.inl+1))∧t.depth+1=t.depth+1∧(emitJ E y.2 code arg k (curS scs).chain).jumps=t.jumps∧(emitJ E y.2 code arg k (curS scs).chain).firsts=t.firsts:=fun code arg=>by
    have q:=onw_emit E y.2 code arg k (curS scs).chain;exact ⟨Nat.le_trans a1 q.len,by rw [q.used];exact a2,rfl,q.ju.trans a4,q.fi.trans a5⟩
   by_cases c0:(tokAt E.p k i).kind=0
   ·rw [if_pos c0] at h2;obtain rfl:=Option.some.inj h2;exact fin _ _
   rw [if_neg c0] at h2
   by_cases c1:(tokAt E.p k i).kind=1
   ·rw [if_pos c1] at h2;obtain rfl:=Option.some.inj h2;exact fin _ _
   rw [if_neg c1] at h2
   by_cases c7:(tokAt E.p k i).kind=7
   ·rw [if_pos c7] at h2
    by_cases hr:replJ E scs y.2.items.length (findZ E.p (tokAt E.p k i).name).toNat=true
    ·rw [if_pos hr] at h2
     cases hx:cmiF E n (.lines (newSc E (curS scs) (findZ E.p (tokAt E.p k i).name).toNat k :: scs) ((findZ E.p (tokAt E.p k i).name).toNat+1) (enterJ E (curS scs) (newSc E (curS scs) (findZ E.p (tokAt E.p k i).name).toNat k) k y.2).depth) { enterJ E (curS scs) (newSc E (curS scs) (findZ E.p (tokAt E.p k i).name).toNat k) k y.2 with jumps:=[],firsts:=[],pend:=false } with
     | none=>rw [hx] at h2;cases h2
     | some q =>
      rw [hx] at h2;obtain rfl:=Option.some.inj h2;have hn:=hs.new h60 hv (k:=k) hr;obtain ⟨l1,l2⟩:=ihl _ _ _ _ _ hn hx;obtain ⟨e1,e2,e3,e4,e5,e6⟩:=onw_enter E (curS scs) (newSc E (curS scs) (findZ E.p (tokAt E.p k i).name).toNat k) k y.2;have hf:=hn.2.2;have hf2:freeN E (newSc E (curS scs) (findZ E.p (tokAt E.p k i).name).toNat k)≤64*(scs.length+1):=hf;rw [(newSc_free E (curS scs) (findZ E.p (tokAt E.p k i).name).toNat k).2] at hf2;have hl2:=hn.2.1;rw [List.length_cons] at hl2;refine ⟨Nat.le_trans a1 (Nat.le_trans e1 l1),?_,rfl,a4,a5⟩;have l2':q.2.used≤max (enterJ E (curS scs) (newSc E (curS scs) (findZ E.p (tokAt E.p k i).name).toNat k) k y.2).used (64*(E.inl+1)):=l2;rw [e2] at l2'
      show q.2.used≤_
      have:64*(scs.length+1)≤64*(E.inl+1):=Nat.mul_le_mul_left 64 hl2
      omega
    ·rw [if_neg hr] at h2;obtain rfl:=Option.some.inj h2;exact fin _ _
   ·rw [if_neg c7] at h2;obtain rfl:=Option.some.inj h2;exact fin _ _
  ·cases m with
   | zero =>
    rw [cmiF] at h;obtain rfl:=Option.some.inj h;exact ⟨Nat.le_refl _,Nat.le_max_left ..,by simp,rfl,rfl⟩
   | succ m =>
    rw [cmiF] at h;obtain ⟨y,h1,h2⟩:=cbind h;obtain ⟨a1,a2,a3,a4,a5⟩:=ihe _ _ _ _ _ hs h1;obtain ⟨b1,b2,b3,b4,b5⟩:=iha _ _ _ _ _ _ hs h2;exact ⟨Nat.le_trans a1 b1,by omega,by rw [b3,a3];push_cast;omega,b4.trans a4,b5.trans a5⟩
  ·rw [cmiF] at h
   dsimp only at h;have go:∀ t':CiS,t.items.length≤t'.items.length→t'.used≤max t.used (64*(E.inl+1))→cmiF E n (.lines scs (k+1) d) t'=some z→t.items.length≤z.2.items.length∧z.2.used≤max t.used (64*(E.inl+1)):=fun t' h1 h2 h3=>by
    obtain ⟨l1,l2⟩:=ihl _ _ _ _ _ hs h3;exact ⟨Nat.le_trans h1 l1,by omega⟩
   have jmp:∀ (t':CiS) (code:Int) (l:Nat),t'.items.length≤(jumpJ E t' code l k (curS scs).chain).items.length∧(jumpJ E t' code l k (curS scs).chain).used=t'.used:=fun t' code l=>⟨(onw_emit E t' code 0 k (curS scs).chain).len,rfl⟩
   have lea:∀ (t':CiS),t'.items.length≤(leaveJ E t' (curS scs) k).items.length∧(leaveJ E t' (curS scs) k).used=t'.used:=fun t'=>by
    unfold leaveJ
    split
    ·exact jmp _ _ _
    ·split
     ·exact ⟨(onw_emit E t' _ _ k (curS scs).chain).len,rfl⟩
     ·exact ⟨(onw_emit E t' _ _ k (curS scs).chain).len,rfl⟩
   by_cases he:beZ E.p ((curS scs).f:Int)<(k:Int)
   ·rw [if_pos he] at h
    obtain rfl:=Option.some.inj h;refine ⟨?_,by show t.used≤_;omega⟩
    show _≤(applyJ _ _ _ t.items).length
    have:∀ (f:Nat) (F:List Nat) (J:List (Nat×Nat)) (l:List ItL),(applyJ f F J l).length=l.length:=by
     intro f F J;unfold applyJ
     induction J with
     | nil=>intro l;rfl
     | cons j r ih=>intro l;rw [List.foldl_cons,ih];unfold setArg;rw [List.length_modify]
    rw [this];exact Nat.le_refl _
   rw [if_neg he] at h
   by_cases h4:lkZ E.p (k:Int)=4
   ·rw [if_pos h4] at h
    exact go _ (jmp { t with depth:=d,firsts:=t.firsts++[t.items.length] } 10 (nxZ E.p k).toNat).1 (by rw [(jmp { t with depth:=d,firsts:=t.firsts++[t.items.length] } 10 (nxZ E.p k).toNat).2];show t.used≤_;omega) h
   rw [if_neg h4] at h
   by_cases h7:lkZ E.p (k:Int)=7
   ·rw [if_pos h7] at h
    by_cases hk:(k:Int)=beZ E.p ((curS scs).f:Int)
    ·rw [if_pos hk] at h
     have q:=onw_num E { t with depth:=d,firsts:=t.firsts++[t.items.length] } 0 k (curS scs).chain;have q1:t.items.length≤(numJ E { t with depth:=d,firsts:=t.firsts++[t.items.length] } 0 k (curS scs).chain).items.length:=q.len;have q2:(numJ E { t with depth:=d,firsts:=t.firsts++[t.items.length] } 0 k (curS scs).chain).used=t.used:=q.used
     by_cases ho:(curS scs).outer=true
     ·rw [if_pos ho] at h
      have r:=lea (numJ E { t with depth:=d,firsts:=t.firsts++[t.items.length] } 0 k (curS scs).chain);exact go _ (Nat.le_trans q1 r.1) (by rw [r.2,q2];omega) h
     ·rw [if_neg ho] at h
      exact go _ q1 (by rw [q2];omega) h
    rw [if_neg hk] at h
    by_cases h5:lkZ E.p (endOpen E.p k:Int)=5
    ·rw [if_pos h5] at h
     exact go _ (jmp { t with depth:=d,firsts:=t.firsts++[t.items.length] } 10 (endOpen E.p k)).1 (by rw [(jmp { t with depth:=d,firsts:=t.firsts++[t.items.length] } 10 (endOpen E.p k)).2];show t.used≤_;omega) h
    ·rw [if_neg h5] at h
     exact go { t with depth:=d,firsts:=t.firsts++[t.items.length] } (Nat.le_refl _) (by show t.used≤_;omega) h
   rw [if_neg h7] at h;obtain ⟨y,h1,h2⟩:=cbind h;obtain ⟨a1,a2,_⟩:=ihe _ _ _ _ _ hs h1;have a1:t.items.length≤y.2.items.length:=a1;have a2:y.2.used≤max t.used (64*(E.inl+1)):=a2
   by_cases c1:lkZ E.p (k:Int)=1
   ·rw [if_pos c1] at h2
    have q:=onw_store E y.2 (curS scs) (varIx (curS scs).locs (nameAt E.p k)) k (curS scs).chain;exact go _ (Nat.le_trans a1 q.len) (by rw [q.used];exact a2) h2
   rw [if_neg c1] at h2
   by_cases c2:lkZ E.p (k:Int)=2
   ·rw [if_pos c2] at h2
    have q:=onw_emit E y.2 17 0 k (curS scs).chain;exact go _ (Nat.le_trans a1 q.len) (by rw [q.used];exact a2) h2
   rw [if_neg c2] at h2
   by_cases c6:lkZ E.p (k:Int)=6
   ·rw [if_pos c6] at h2
    have q:=lea y.2;exact go _ (Nat.le_trans a1 q.1) (by rw [q.2];exact a2) h2
   ·rw [if_neg c6] at h2
    have q:=jmp y.2 11 (nxZ E.p k).toNat;exact go _ (Nat.le_trans a1 q.1) (by rw [q.2];exact a2) h2
theorem cmi_ends {E:CmpE}:∀ n,(∀ scs k i t z q,scanN ((exprAt E.p k).drop i) 1=some q→cmiF E n (.expr scs k i) t=some z→z.1=i+q)∧(∀ scs k i m t z q,scanN ((exprAt E.p k).drop i) m=some q→cmiF E n (.args scs k i m) t=some z→z.1=i+q):=by
 intro n
 induction n with
 | zero=>exact ⟨fun _ _ _ _ _ _ _ h=>by simp [cmiF] at h,fun _ _ _ _ _ _ _ _ h=>by simp [cmiF] at h⟩
 | succ n ih =>
  refine ⟨fun scs k i t z q hq h=>?_,fun scs k i m t z q hq h=>?_⟩
  ·obtain ⟨hi,hb,q',rfl,hq'⟩:=scan_one _ _ _ hq
   rw [cmiF] at h;obtain ⟨y,h1,h2⟩:=cbind h;rw [tokAt_get E.p k i hi] at h1;have e:=ih.2 _ _ _ _ _ _ _ hq' h1;dsimp only at h2;have hz:z.1=y.1:=by
    split at h2
    ·obtain rfl:=Option.some.inj h2;rfl
    ·split at h2
     ·obtain rfl:=Option.some.inj h2;rfl
     ·split at h2
      ·split at h2
       ·rename_i hr
        cases hx:cmiF E n (.lines (newSc E (curS scs) (findZ E.p (tokAt E.p k i).name).toNat k :: scs) ((findZ E.p (tokAt E.p k i).name).toNat+1) (enterJ E (curS scs) (newSc E (curS scs) (findZ E.p (tokAt E.p k i).name).toNat k) k y.2).depth) { enterJ E (curS scs) (newSc E (curS scs) (findZ E.p (tokAt E.p k i).name).toNat k) k y.2 with jumps:=[],firsts:=[],pend:=false } with
        | none=>rw [hx] at h2;cases h2
        | some q=>rw [hx] at h2;obtain rfl:=Option.some.inj h2;rfl
       ·obtain rfl:=Option.some.inj h2;rfl
      ·obtain rfl:=Option.some.inj h2;rfl
   rw [hz,e];omega
  ·cases m with
   | zero =>
    rw [cmiF] at h;obtain rfl:=Option.some.inj h;have hq0:q=0:=by cases hd:(exprAt E.p k).drop i <;> rw [hd,scanN] at hq <;> exact (Option.some.inj hq).symm
    rw [hq0];rfl
   | succ m =>
    obtain ⟨q1,q2,hq1,hq2,rfl⟩:=scan_next _ _ _ _ hq;rw [cmiF] at h;obtain ⟨y,h1,h2⟩:=cbind h;have e1:=ih.1 _ _ _ _ _ _ hq1 h1;have e2:=ih.2 _ _ _ _ _ _ _ (by rw [e1];exact hq2) h2;rw [e2,e1];omega
end Go.Proofs.YtcflojdkaddemaaGreatDoor

namespace Go.Proofs.YtcflojdkaddemaaGreatDoor
open Go.RowKit Go.Lib
def argI (v:Int) (x:ItL):ItL:={ x with arg:=v }
theorem setArg_at (l:List ItL) (j i:Nat) (v:Int):(setArg l j v)[i]?=if i=j then (l[i]?).map (argI v) else l[i]?:=by
 unfold setArg;rw [List.getElem?_modify]
 by_cases h:i=j
 ·subst h
  rw [if_pos rfl]
  cases l[i]? <;> simp [argI]
 ·rw [if_neg h]
  cases l[i]? with
  | none=>rfl
  | some x=>simp [show ¬ j=i from fun e=>h e.symm]
theorem patchL_at (js:List Nat) (v:Int):∀ (l:List ItL) (i:Nat),(patchL js v l)[i]?=if i ∈ js then (l[i]?).map (argI v) else l[i]?:=by
 unfold patchL
 induction js with
 | nil=>intro l i;simp
 | cons j r ih =>
  intro l i;rw [List.foldl_cons,ih,setArg_at]
  by_cases h1:i ∈ r
  ·rw [if_pos h1,if_pos (List.mem_cons_of_mem _ h1)]
   by_cases h2:i=j
   ·rw [if_pos h2]
    cases l[i]? <;> rfl
   ·rw [if_neg h2]
  ·rw [if_neg h1]
   by_cases h2:i=j
   ·rw [if_pos h2,if_pos (by rw [h2];exact List.mem_cons_self ..)]
   ·rw [if_neg h2,if_neg (by simp [h1,h2])]
theorem patchX_at (ex:List (Int×Nat)) (to:Int) (l:List ItL) (i:Nat):(patchX ex to l)[i]?=if (to,i) ∈ ex then (l[i]?).map (argI (l.length:Int)) else l[i]?:=by
 unfold patchX;rw [patchL_at]
 have:i ∈ (ex.filter fun e=>decide (e.1=to)).map (·.2)↔(to,i) ∈ ex:=by
  simp only [List.mem_map,List.mem_filter,decide_eq_true_eq]
  constructor
  ·rintro ⟨⟨a,b⟩,⟨h1,h2⟩,h3⟩
   simp only at h2 h3;rw [← h2,← h3];exact h1
  ·intro h
   exact ⟨(to,i),⟨h,rfl⟩,rfl⟩
 by_cases h:(to,i) ∈ ex
 ·rw [if_pos h,if_pos (this.2 h)]
 ·rw [if_neg h,if_neg (fun e=>h (this.1 e))]
def fixP (J:List (Nat×Nat)) (F:List Nat) (f i:Nat) (x:ItL):ItL :=
 match J.find? (fun e=>decide (e.1=i)) with
 | none=>x
 | some e=>match F[e.2 - (f+1)]? with
  | none=>x
  | some v=>argI (v:Int) x
def One (J:List (Nat×Nat)):Prop:=J.Pairwise fun a b=>a.1≠b.1
theorem find_of {J:List (Nat×Nat)} (h1:One J) {i l:Nat} (h:(i,l) ∈ J):J.find? (fun e=>decide (e.1=i))=some (i,l):=by
 induction J with
 | nil=>cases h
 | cons a r ih =>
  rw [List.find?_cons]
  rcases List.mem_cons.1 h with rfl|h
  ·simp
  ·have hne:=(List.pairwise_cons.1 h1).1 _ h
   rw [decide_eq_false (show ¬ a.1=i from hne)];exact ih (List.pairwise_cons.1 h1).2 h
theorem find_is {J:List (Nat×Nat)} {i:Nat} {e:Nat×Nat} (h:J.find? (fun e=>decide (e.1=i))=some e):e ∈ J∧e.1=i:=⟨List.mem_of_find?_eq_some h,by simpa using List.find?_some h⟩
theorem find_none {J:List (Nat×Nat)} {i:Nat} (h:∀ l,(i,l) ∉ J):J.find? (fun e=>decide (e.1=i))=none:=by
 rw [List.find?_eq_none];intro e he;simp only [decide_eq_true_eq];exact fun h'=>h e.2 (by rw [← h'];exact he)
theorem fix_next {J:List (Nat×Nat)} {F:List Nat} {f i l len:Nat} {x:ItL} (h1:One J) (hJ:∀ j ∈ J,f<j.2) (hl:l=f+1+F.length) :
  ((i,l) ∈ J→fixP J (F++[len]) f i x=argI (len:Int) (fixP J F f i x))∧((i,l) ∉ J→fixP J (F++[len]) f i x=fixP J F f i x):=by
 refine ⟨fun h=>?_,fun h=>?_⟩
 ·unfold fixP
  rw [find_of h1 h];dsimp only;rw [show l - (f+1)=F.length from by omega,List.getElem?_concat_length,List.getElem?_eq_none (Nat.le_refl _)]
 ·unfold fixP
  cases hf:J.find? (fun e=>decide (e.1=i)) with
  | none=>rfl
  | some e =>
   obtain ⟨he,hei⟩:=find_is hf;have hne:e.2≠l:=fun e'=>h (by rw [← hei,← e'];exact he)
   have:=hJ e he
   dsimp only
   by_cases hlt:e.2 - (f+1)<F.length
   ·rw [List.getElem?_append_left hlt]
   ·rw [List.getElem?_eq_none (l:=F++[len]) (by rw [List.length_append,List.length_singleton];omega),List.getElem?_eq_none (by omega)]
theorem apply_at (f:Nat) (F:List Nat):∀ (J:List (Nat×Nat)) (l:List ItL) (i:Nat),One J→(∀ j ∈ J,j.2 - (f+1)<F.length)→(applyJ f F J l)[i]?=(l[i]?).map (fixP J F f i):=by
 intro J;unfold applyJ
 induction J with
 | nil=>intro l i _ _;simp [fixP];cases l[i]? <;> rfl
 | cons j r ih =>
  intro l i h1 h2;rw [List.foldl_cons,ih _ i (List.pairwise_cons.1 h1).2 (fun k hk=>h2 k (List.mem_cons_of_mem _ hk)),setArg_at]
  by_cases hi:i=j.1
  ·have hno:∀ q,(i,q) ∉ r:=fun q hq=>(List.pairwise_cons.1 h1).1 _ hq hi.symm
   have hlt:=h2 j (List.mem_cons_self ..);rw [if_pos hi]
   cases l[i]? with
   | none=>rfl
   | some x =>
    simp only [Option.map_some,Option.some.injEq];unfold fixP;rw [find_none hno,List.find?_cons,decide_eq_true hi.symm];dsimp only;unfold firstJ;rw [List.getElem?_eq_getElem hlt];rfl
  ·rw [if_neg hi]
   unfold fixP;rw [List.find?_cons,decide_eq_false (fun e=>hi e.symm)]
theorem apply_length (f:Nat) (F:List Nat):∀ (J:List (Nat×Nat)) (l:List ItL),(applyJ f F J l).length=l.length:=by
 intro J;unfold applyJ
 induction J with
 | nil=>intro l;rfl
 | cons j r ih=>intro l;rw [List.foldl_cons,ih,setArg_length]
def Rl (b:Nat) (M I:List ItL) (J:List (Nat×Nat)) (F:List Nat) (f:Nat):Prop:=M.length=I.length∧∀ i,b≤i→M[i]?=(I[i]?).map (fixP J F f i)
theorem Rl.next {b f l:Nat} {M I:List ItL} {J:List (Nat×Nat)} {F:List Nat} (h:Rl b M I J F f) (h1:One J) (hJ:∀ j ∈ J,f<j.2) (hl:l=f+1+F.length) {M':List ItL} (hm:M'.length=M.length)
  (P:Nat→Prop) (hP:∀ i,(i,l) ∈ J↔P i) (hy:∀ i,P i→M'[i]?=(M[i]?).map (argI (M.length:Int))) (hn:∀ i,¬ P i→M'[i]?=M[i]?):Rl b M' I J (F++[I.length]) f:=by
 refine ⟨hm.trans h.1,fun i hi=>?_⟩
 by_cases hp:P i
 ·rw [hy i hp,h.2 i hi,h.1]
  cases I[i]? with
  | none=>rfl
  | some x=>simp only [Option.map_some];rw [(fix_next h1 hJ hl).1 ((hP i).2 hp)]
 ·rw [hn i hp,h.2 i hi]
  cases I[i]? with
  | none=>rfl
  | some x=>simp only [Option.map_some];rw [(fix_next h1 hJ hl).2 (fun e=>hp ((hP i).1 e))]
theorem Rl.app {b f:Nat} {M I:List ItL} {J:List (Nat×Nat)} {F:List Nat} (h:Rl b M I J F f) (hb:∀ j ∈ J,j.1<I.length) (new:List ItL):Rl b (M++new) (I++new) J F f:=by
 refine ⟨by rw [List.length_append,List.length_append,h.1],fun i hi=>?_⟩
 by_cases hlt:i<I.length
 ·rw [List.getElem?_append_left (by rw [h.1];exact hlt),List.getElem?_append_left hlt]
  exact h.2 i hi
 ·rw [List.getElem?_append_right (by rw [h.1];omega),List.getElem?_append_right (by omega),h.1]
  have hno:∀ q,(i,q) ∉ J:=fun q hq=>by have:=hb _ hq;omega
  cases new[i - I.length]? with
  | none=>rfl
  | some x =>
   simp only [Option.map_some,Option.some.injEq];unfold fixP;rw [find_none hno]
theorem one_snoc {J:List (Nat×Nat)} {n l:Nat} (h:One J) (hb:∀ j ∈ J,j.1<n):One (J++[(n,l)]):=by
 unfold One;rw [List.pairwise_append];exact ⟨h,List.pairwise_singleton _ _,fun a ha c hc=>by
  obtain rfl:c=(n,l):=by simpa using hc
  have:=hb a ha
  show a.1≠n
  omega⟩
theorem Rl.jump {b f:Nat} {M I:List ItL} {J:List (Nat×Nat)} {F:List Nat} (h:Rl b M I J F f) (h1:One J) (hb:∀ j ∈ J,j.1<I.length) (x y:ItL) (l:Nat) (hx:x=match F[l - (f+1)]? with
  | none=>y
  | some v=>argI (v:Int) y):Rl b (M++[x]) (I++[y]) (J++[(I.length,l)]) F f:=by
 refine ⟨by rw [List.length_append,List.length_append,h.1];rfl,fun i hi=>?_⟩;have h2:=one_snoc (l:=l) h1 hb
 by_cases hlt:i<I.length
 ·rw [List.getElem?_append_left (by rw [h.1];exact hlt),List.getElem?_append_left hlt,h.2 i hi]
  have:∀ z,fixP (J++[(I.length,l)]) F f i z=fixP J F f i z:=fun z=>by
   unfold fixP;rw [List.find?_append]
   cases hf:J.find? (fun e=>decide (e.1=i)) with
   | none =>
    have:List.find? (fun e:Nat×Nat=>decide (e.1=i)) [(I.length,l)]=none:=by
     rw [List.find?_eq_none];intro e he;obtain rfl:e=(I.length,l):=by simpa using he
     simp
     omega
    rw [this];rfl
   | some e=>rfl
  cases I[i]? with
  | none=>rfl
  | some z=>simp only [Option.map_some];rw [this]
 ·rw [List.getElem?_append_right (by rw [h.1];omega),List.getElem?_append_right (by omega),h.1]
  by_cases he:i=I.length
  ·subst he
   rw [Nat.sub_self];simp only [List.getElem?_cons_zero,Option.map_some,Option.some.injEq];unfold fixP;rw [find_of h2 (List.mem_append_right _ (List.mem_singleton.2 rfl))];exact hx
  ·rw [List.getElem?_eq_none (l:=[x]) (by rw [List.length_singleton];omega),List.getElem?_eq_none (l:=[y]) (by rw [List.length_singleton];omega)]
   rfl
end Go.Proofs.YtcflojdkaddemaaGreatDoor

namespace Go.Proofs.YtcflojdkaddemaaGreatDoor
open Go.RowKit Go.Lib
structure ScsOk (E:CmpE) (scs:List ScL):Prop where
  ok:ScOk E scs
  f:(curS scs).f ∈ funs E.p
  lo:(curS scs).locs=locZ E.p ((curS scs).f:Int)
def Kn (E:CmpE) (scs:List ScL) (k:Nat):Prop:=∀ u ∈ exprAt E.p k,knownP E.p (curS scs).locs u
theorem ScsOk.new {E:CmpE} {scs:List ScL} {s:CmpS} {g k:Nat} (h:ScsOk E scs) (hr:replB E scs s g=true) (hg:g ∈ funs E.p):ScsOk E (newSc E (curS scs) g k :: scs):=⟨h.ok.new hr,hg,rfl⟩
structure Head (E:CmpE) (f b k:Nat) (heads:List Int) (exits:List (Int×Nat)) (s:CmpS) (t:CiS):Prop where
  b0:0<b
  bl:b≤t.items.length
  use:t.used=s.most
  st:s.start=false
  pe:t.pend=false
  rel:Rl b (patchX exits (k:Int) s.items) t.items t.jumps (t.firsts++[t.items.length]) f
  fl:t.firsts.length=k - (f+1)
  hl:heads.length=E.p.length
  hd:∀ j:Nat,f<j→j<k→lkZ E.p (j:Int)=5→heads[j]?=(t.firsts[j - (f+1)]?).map fun (v:Nat)=>(v:Int)
  jx:∀ i l:Nat,k<l→((i,l) ∈ t.jumps↔((l:Int),i) ∈ exits∨(-((l:Int) - 1),i) ∈ exits∨((l:Int)=beZ E.p (f:Int)+1∧i ∈ s.leaves))
  ex:∀ e ∈ exits,e.1≤beZ E.p (f:Int)∧(e.1<0→lkZ E.p (-e.1)=4)∧b≤e.2
  one:One t.jumps
  jb:∀ j ∈ t.jumps,b≤j.1∧j.1<t.items.length∧f<j.2∧(j.2:Int)≤beZ E.p (f:Int)+1
theorem patchX_none {ex:List (Int×Nat)} {to:Int} (h:∀ i,(to,i) ∉ ex) (l:List ItL):patchX ex to l=l:=by
  apply List.ext_getElem?;intro i;rw [patchX_at,if_neg (h i)]
theorem Head.next {E:CmpE} {f b k:Nat} {heads:List Int} {ex:List (Int×Nat)} {s s':CmpS} {t:CiS} (hfk:f<k) (hke:(k:Int)<beZ E.p (f:Int)) (hs:s'.items=patchX ex (-(k:Int)) s.items) (hlv:s'.leaves=s.leaves)
    (b0:0<b) (bl:b≤t.items.length) (use:t.used=s'.most) (st:s'.start=false) (pe:t.pend=false) (rel:Rl b s.items t.items t.jumps t.firsts f) (fl:t.firsts.length=k - f) (hl:heads.length=E.p.length)
    (hd:∀ j:Nat,f<j→j<k+1→lkZ E.p (j:Int)=5→heads[j]?=(t.firsts[j - (f+1)]?).map fun (v:Nat)=>(v:Int))
    (jx:∀ i l:Nat,k<l→((i,l) ∈ t.jumps↔((l:Int),i) ∈ ex∨(-((l:Int) - 1),i) ∈ ex∨((l:Int)=beZ E.p (f:Int)+1∧i ∈ s.leaves)))
    (hex:∀ e ∈ ex,e.1≤beZ E.p (f:Int)∧(e.1<0→lkZ E.p (-e.1)=4)∧b≤e.2) (one:One t.jumps) (jb:∀ j ∈ t.jumps,b≤j.1∧j.1<t.items.length∧f<j.2∧(j.2:Int)≤beZ E.p (f:Int)+1) :
    Head E f b (k+1) heads ex s' t:=by
  refine ⟨b0,bl,use,st,pe,?_,by rw [fl];omega,hl,hd,fun i l hl=>by rw [hlv];exact jx i l (by omega),hex,one,jb⟩;rw [hs];have hp:=jx;refine rel.next (l:=k+1) one (fun j hj=>(jb j hj).2.2.1) (by rw [fl];omega) (by rw [patchX_length,patchX_length]) (fun i=>(((k+1:Nat):Int),i) ∈ ex∨(-(k:Int),i) ∈ ex) (fun i=>?_) (fun i h=>?_) (fun i h=>?_)
  · rw [jx i (k+1) (by omega),show (-(((k+1:Nat):Int) - 1))=-(k:Int) from by omega]
    constructor
    · rintro (h|h|h)
      · exact .inl h
      · exact .inr h
      · have:=h.1;omega
    · rintro (h|h)
      · exact .inl h
      · exact .inr (.inl h)
  · rw [patchX_at,patchX_at,patchX_length]
    by_cases h1:(((k+1:Nat):Int),i) ∈ ex
    · rw [if_pos h1]
      by_cases h2:(-(k:Int),i) ∈ ex
      · rw [if_pos h2]
        cases s.items[i]? <;> rfl
      · rw [if_neg h2]
    · rw [if_neg h1,if_pos (h.resolve_left h1)]
  · rw [patchX_at,patchX_at,if_neg (fun e=>h (.inl e)),if_neg (fun e=>h (.inr e))]
structure Body (b:Nat) (o:Bool) (s:CmpS) (t:CiS) (s':CmpS) (t':CiS):Prop where
  use:t'.used=s'.most
  dep:s'.depth=s.depth
  st:s'.start=false
  len:t'.items.length=s'.items.length
  lm:s.items.length≤s'.items.length
  lo:∀ i,i<b→s'.items[i]?=s.items[i]?∧t'.items[i]?=t.items[i]?
  hi:∀ i,b≤i→(patchL s'.leaves (s'.items.length:Int) s'.items)[i]?=t'.items[i]?
  lb:∀ j ∈ s'.leaves,b≤j
  lv:o=true→s'.leaves=s.leaves
def PE (E:CmpE) (n:Nat):Prop:=∀ scs k i s z t q,cmpF E n (.expr scs k i) s=some z→ScsOk E scs→Kn E scs k→scanN ((exprAt E.p k).drop i) 1=some q→Tie s t →
  z.1=i+q∧z.2.depth=s.depth+1∧z.2.start=false∧∃ t',cmiF E n (.expr scs k i) t=some (z.1,t')∧Gr s t z.2 t'
def PA (E:CmpE) (n:Nat):Prop:=∀ scs k i m s z t q,cmpF E n (.args scs k i m) s=some z→ScsOk E scs→Kn E scs k→scanN ((exprAt E.p k).drop i) m=some q→Tie s t →
  z.1=i+q∧z.2.depth=s.depth+(m:Int)∧∃ t',cmiF E n (.args scs k i m) t=some (z.1,t')∧Gr s t z.2 t'
def PL (E:CmpE) (n:Nat):Prop:=∀ scs k heads exits s z t b,cmpF E n (.lines scs k heads exits) s=some z→ScsOk E scs→(curS scs).f<k→(k:Int)≤beZ E.p ((curS scs).f:Int)→Head E (curS scs).f b k heads exits s t →
  ∃ t',cmiF E n (.lines scs k s.depth) t=some (0,t')∧Body b (curS scs).outer s t z.2 t'
theorem bind_some {α β:Type} {x:Option α} {f:α→Option β} {z:β} (h:x.bind f=some z):∃ y,x=some y∧f y=some z:=by
  cases x with
  | none=>cases h
  | some y=>exact ⟨y,rfl,h⟩
theorem map_some {α β:Type} {x:Option α} {f:α→β} {z:β} (h:x.map f=some z):∃ y,x=some y∧f y=z:=by
  cases x with
  | none=>cases h
  | some y=>exact ⟨y,rfl,Option.some.inj h⟩
theorem pa_step {E:CmpE} {n:Nat} (he:PE E n) (ha:PA E n):PA E (n+1):=by
  intro scs k i m s z t q h hs hk hq ht
  cases m with
  | zero =>
    rw [cmpF] at h;obtain rfl:=Option.some.inj h;have hq0:q=0:=by cases hd:(exprAt E.p k).drop i <;> rw [hd,scanN] at hq <;> exact (Option.some.inj hq).symm
    exact ⟨by rw [hq0];rfl,by simp,t,by rw [cmiF],Gr.refl ht⟩
  | succ m =>
    rw [cmpF] at h;obtain ⟨y,h1,h2⟩:=bind_some h;obtain ⟨q1,q2,hq1,hq2,rfl⟩:=scan_next _ _ _ _ hq;obtain ⟨e1,e2,_,t1,e4,e5⟩:=he scs k i s y t q1 h1 hs hk hq1 ht;obtain ⟨d1,d2,t2,d3,d4⟩:=ha scs k y.1 m y.2 z t1 q2 h2 hs hk (by rw [e1];exact hq2) e5.tie;refine ⟨by rw [d1,e1];omega,by rw [d2,e2];push_cast;omega,t2,?_,e5.trans d4⟩;rw [cmiF,e4];exact d3
theorem tok_mid {u:TokL} (hb:tokB u=true) (h0:u.kind≠0) (h1:u.kind≠1) (h7:u.kind≠7):2≤u.kind∧u.kind≤6:=by have:=tok_kind hb;omega
theorem pe_step {E:CmpE} (ho:OkI E.p) (har:∀ u:TokL,tokB u=true→(u.kind=0∨u.kind=1→arN u=0)∧(2≤u.kind→u.kind≤6→arN u=2)∧(u.kind=7→(arN u:Int)=u.num)) {n:Nat} (ha:PA E n) (hl:PL E n):PE E (n+1):=by
  intro scs k i s z t q h hs hk hq ht;obtain ⟨hi,hb,q',rfl,hq'⟩:=scan_one _ _ _ hq;have htk:=tokAt_get E.p k i hi;have hkn:=hk _ (List.getElem_mem hi);rw [cmpF] at h;rw [← htk] at hb hq' hkn;obtain ⟨u,hu⟩:∃ u,tokAt E.p k i=u:=⟨_,rfl⟩;simp only [hu] at h;rw [hu] at hb hq' hkn;obtain ⟨y,h1,h2⟩:=bind_some h;obtain ⟨a1,a2,t1,a3,a4⟩:=ha scs k (i+1) (arN u) s y t q' h1 hs hk hq' ht;obtain ⟨r0,r2,r7⟩:=har u hb;have hy1:y.1=i+(q'+1):=by rw [a1];omega
  rw [cmiF];simp only [hu,a3,Option.bind_some]
  by_cases c0:u.kind=0
  · rw [if_pos c0] at h2 ⊢
    obtain rfl:=Option.some.inj h2;have hz:=r0 (.inl c0);rw [hz] at a2;exact ⟨hy1,by show y.2.depth+1=_;rw [a2];simp,rfl,_,rfl,a4.trans ((Gr.emit a4.tie E 0 u.num k _ (by decide)).depI 1 _ (by show y.2.depth+1=t.depth+1;rw [a2,ht.dep];simp))⟩
  rw [if_neg c0] at h2 ⊢
  by_cases c1:u.kind=1
  · rw [if_pos c1] at h2 ⊢
    obtain rfl:=Option.some.inj h2;have hz:=r0 (.inr c1);rw [hz] at a2;refine ⟨hy1,by show y.2.depth+1=_;rw [a2];simp,rfl,_,rfl,a4.trans ?_⟩;have hp:=placeZ_ne E y.2.depth (curS scs) (varIx (curS scs).locs u.name);rw [a4.tie.dep];exact (Gr.emit a4.tie E _ _ k _ hp.1).depI 1 _ (by show y.2.depth+1=t.depth+1;rw [a2,ht.dep];simp)
  rw [if_neg c1] at h2 ⊢
  by_cases c7:u.kind=7
  · rw [if_pos c7] at h2 ⊢
    obtain ⟨k1,k2⟩:=hkn.2 c7;have hgf:(findZ E.p u.name).toNat ∈ funs E.p:=findZ_fun E.p u.name _ (by omega);have hgz:(((findZ E.p u.name).toNat:Nat):Int)=findZ E.p u.name:=by omega
    have hn7:=r7 c7;obtain ⟨g,hg⟩:∃ g,(findZ E.p u.name).toNat=g:=⟨_,rfl⟩;simp only [hg] at h2 ⊢;rw [hg] at hgf hgz;rw [a4.tie.len,← replJ_is]
    by_cases hr:replB E scs y.2 g=true
    · rw [if_pos hr] at h2 ⊢
      obtain ⟨z1,h3,h4⟩:=map_some h2;obtain ⟨e1,e2,e3⟩:=Gr.enter a4.tie E (curS scs) (newSc E (curS scs) g k) k;have hE2:(enterI E (curS scs) (newSc E (curS scs) g k) k y.2).depth=s.depth:=by
        rw [e2,a2]
        show s.depth+(arN u:Int) - ((argsZ E.p (g:Int)).length:Int)=s.depth
        rw [hn7,hgz,k2];omega
      obtain ⟨s1,hs1⟩:∃ s1,enterI E (curS scs) (newSc E (curS scs) g k) k y.2=s1:=⟨_,rfl⟩;obtain ⟨t2,ht2⟩:∃ t2,enterJ E (curS scs) (newSc E (curS scs) g k) k t1=t2:=⟨_,rfl⟩;rw [hs1] at h3 h4 e1 e3 hE2;rw [ht2] at e1 ⊢;have hpe:t2.pend=false:=by rw [e1.tie.pen,e3]
      have hbz:0≤beZ E.p (g:Int):=by
        obtain ⟨_,_,h',_⟩:=fun_parts ho hgf;omega
      obtain ⟨j,hj,hjl,_,hj2,_⟩:=beZ_is E.p (g:Int) hbz;have hbl:=beZ_lt E.p (g:Int);have hH:Head E g s1.items.length (g+1) (List.replicate E.p.length 0) [] { s1 with leaves:=[] } { t2 with jumps:=[],firsts:=[],pend:=false } :=
        { b0 := e1.tie.ne, bl := Nat.le_of_eq e1.tie.len.symm, use := e1.tie.use, st := e3, pe := rfl
          rel:=⟨by rw [patchX_length];exact e1.tie.len.symm,fun i hi=>by
            rw [patchX_at,if_neg (by simp),List.getElem?_eq_none hi,List.getElem?_eq_none (by show t2.items.length≤i;rw [e1.tie.len];exact hi)];rfl⟩
          fl:=by show 0=g+1 - (g+1);omega
          hl:=List.length_replicate
          hd:=fun j h1 h2 _=>by omega
          jx:=fun i l _=>by simp
          ex:=fun e he=>by cases he
          one:=List.Pairwise.nil
          jb:=fun e he=>by cases he }
      obtain ⟨t3,f1,f2⟩:=hl (newSc E (curS scs) g k :: scs) (g+1) _ _ _ z1 _ _ h3 (hs.new hr hgf) (Nat.lt_succ_self g) (by show ((g+1:Nat):Int)≤beZ E.p (g:Int);omega) hH;have f1':cmiF E n (.lines (newSc E (curS scs) g k :: scs) (g+1) t2.depth) { t2 with jumps:=[],firsts:=[],pend:=false }=some (0,t3):=by
        obtain ⟨T,hT⟩:∃ T:CiS,{ t2 with jumps:=[],firsts:=[],pend:=false }=T:=⟨_,rfl⟩;rw [hT] at f1 ⊢;rw [e1.tie.dep];exact f1
      rw [f1'];obtain rfl:=h4;have hlen:=f2.len;refine ⟨hy1,?_,f2.st,_,rfl,(a4.trans e1).trans ?_⟩
      · show s1.depth+1=_
        rw [hE2]
      · obtain ⟨new,hn1⟩:∃ new,t3.items=t2.items++new:=⟨t3.items.drop s1.items.length,by
          apply List.ext_getElem?;intro i
          by_cases hi:i<s1.items.length
          · rw [List.getElem?_append_left (by rw [e1.tie.len];exact hi),(f2.lo i hi).2]
          · rw [List.getElem?_append_right (by rw [e1.tie.len];omega),List.getElem?_drop,e1.tie.len,show s1.items.length+(i - s1.items.length)=i from by omega]⟩
        have hn2:patchL z1.2.leaves (z1.2.items.length:Int) z1.2.items=s1.items++new:=by
          apply List.ext_getElem?;intro i
          by_cases hi:i<s1.items.length
          · rw [patchL_at,if_neg (fun h=>by have:=f2.lb i h;omega),(f2.lo i hi).1,List.getElem?_append_left hi]
          · rw [f2.hi i (by omega),hn1,List.getElem?_append_right (by rw [e1.tie.len];omega),List.getElem?_append_right (by omega),e1.tie.len]
        refine ⟨⟨new,hn2,hn1⟩,e1.lv.symm,e1.ju.symm,e1.fi.symm,⟨?_,?_,?_,f2.use,?_⟩⟩
        · show t3.items.length=(patchL z1.2.leaves (z1.2.items.length:Int) z1.2.items).length
          rw [patchL_length,hlen]
        · show 0<(patchL z1.2.leaves (z1.2.items.length:Int) z1.2.items).length
          rw [patchL_length]
          have:=f2.lm
          have:=e1.tie.ne
          exact Nat.lt_of_lt_of_le e1.tie.ne f2.lm
        · show t.depth+1=s1.depth+1
          rw [hE2,ht.dep]
        · show t2.pend=z1.2.start
          rw [hpe,f2.st]
    · rw [if_neg hr] at h2 ⊢
      obtain rfl:=Option.some.inj h2;exact ⟨hy1,by show y.2.depth+(1 - u.num)=_;rw [a2,hn7];omega,rfl,_,rfl,a4.trans ((Gr.emit a4.tie E 12 _ k _ (by decide)).depI (1 - u.num) _ (by show y.2.depth+(1 - u.num)=t.depth+1;rw [a2,hn7,ht.dep];omega))⟩
  · rw [if_neg c7] at h2 ⊢
    obtain rfl:=Option.some.inj h2;have hm:=tok_mid hb c0 c1 c7;have hz:=r2 hm.1 hm.2;rw [hz] at a2;exact ⟨hy1,by show y.2.depth+-1=_;rw [a2];push_cast;omega,rfl,_,rfl,a4.trans ((Gr.emit a4.tie E _ 0 k _ (by omega)).depI (-1) _ (by show y.2.depth+-1=t.depth+1;rw [a2,ht.dep];push_cast;omega))⟩
end Go.Proofs.YtcflojdkaddemaaGreatDoor

namespace Go.Proofs.YtcflojdkaddemaaGreatDoor
open Go.RowKit Go.Lib
def compE (p:List PLine) (fr:Bool) (inl:Nat) (words:Int) (g:Nat):CmpE:=⟨p,inl,fr,words,(argsZ p (g:Int)).length⟩
def topSc (p:List PLine) (g:Nat):ScL:=⟨g,[],locZ p (g:Int),0,true⟩
def topS (E:CmpE) (g:Nat):CmpS:={ emitI E ⟨[],0,false,(locZ E.p (g:Int)).length - E.args,[]⟩ (if E.framed=true then 13 else 15) E.words g [] with depth:=E.words }
def TopTo (E:CmpE) (g:Nat) (s:CmpS):Prop:=∃ r,CmpTo E (.lines [topSc E.p g] (g+1) (List.replicate E.p.length 0) []) (topS E g) (r,s)
theorem TopTo.one {E:CmpE} {g:Nat} {s s':CmpS} (h:TopTo E g s) (h':TopTo E g s'):s=s':=by
 obtain ⟨r,hr⟩:=h;obtain ⟨r',hr'⟩:=h';exact congrArg Prod.snd (hr.one hr')
theorem top_total (E:CmpE) (g:Nat):∃ s,TopTo E g s:=by
 obtain ⟨z,hz⟩:=cmp_total E E.inl [topSc E.p g] (by simp) (Nat.le_refl _) (g+1) (List.replicate E.p.length 0) [] (topS E g);exact ⟨z.2,z.1,hz⟩
def CompTo (p:List PLine) (fr:Bool) (inl g:Nat) (L:List ItL):Prop:=∃ s0 s1,TopTo (compE p fr inl 0 g) g s0∧TopTo (compE p fr inl (s0.most:Int) g) g s1∧L=s1.items
theorem comp_total (p:List PLine) (fr:Bool) (inl g:Nat):∃ L,CompTo p fr inl g L:=by
 obtain ⟨s0,h0⟩:=top_total (compE p fr inl 0 g) g;obtain ⟨s1,h1⟩:=top_total (compE p fr inl (s0.most:Int) g) g;exact ⟨_,s0,s1,h0,h1,rfl⟩
theorem CompTo.one {p:List PLine} {fr:Bool} {inl g:Nat} {L L':List ItL} (h:CompTo p fr inl g L) (h':CompTo p fr inl g L'):L=L':=by
 obtain ⟨s0,s1,a,b,rfl⟩:=h;obtain ⟨t0,t1,c,d,rfl⟩:=h';obtain rfl:=a.one c;obtain rfl:=b.one d;rfl
theorem top_ok (E:CmpE) (g:Nat):JobOk E (.lines [topSc E.p g] (g+1) (List.replicate E.p.length 0) []) (topS E g):=⟨⟨rfl,by simp⟩,fun v hv=>by rw [(List.mem_replicate.1 hv).2];exact ⟨Int.le_refl _,by omega⟩⟩
theorem cmp_last {E:CmpE} {scs:List ScL} (ho:(curS scs).outer=true) (h7:lkZ E.p (beZ E.p ((curS scs).f:Int))=7):∀ (n:Nat) (k:Nat) (heads:List Int) (exits:List (Int×Nat)) (s:CmpS),JobOk E (.lines scs k heads exits) s→InOk E s.items→(k:Int)≤beZ E.p ((curS scs).f:Int) →
  PrC (fun y=>∃ l a b,y.2.items=l++[a,b]∧InOk E l∧a.code=0∧(b.code=14∨b.code=16)) (cmpF E n (.lines scs k heads exits) s):=by
 intro n
 induction n with
 | zero=>intro k heads exits s _ _ _;exact prc_none
 | succ n ih =>
  intro k heads exits s hj0 hin hke;have hj:=hj0;obtain ⟨hs,hh⟩:=hj;have K:=inOk_kept E;have hk:k<E.p.length:=by have:=(beZ_lt E.p ((curS scs).f:Int)).2;omega
  have pl:(patchI s exits (k:Int)).items.length=s.items.length:=patchX_length _ _ _;have hp1:InOk E (patchI s exits (k:Int)).items:=K.pX _ _ _ hin;have hmono:∀ {m:Nat},s.items.length≤m→∀ v ∈ heads,0≤v∧v≤(m:Int):=fun hm v hv=>by have:=hh v hv;omega
  rw [cmpF];refine prc_ite (fun he=>by omega) fun _=>?_
  by_cases hlast:(k:Int)=beZ E.p ((curS scs).f:Int)
  ·have hk7:lkZ E.p (k:Int)=7:=by rw [hlast];exact h7
   refine prc_ite (fun h4=>by omega) fun _=>prc_ite (fun _=>prc_ite (fun _=>?_) fun h=>absurd hlast h) fun h=>absurd hk7 h
   intro z hz;have hz0:z=(0,leaveI E (numI E (patchI s exits (k:Int)) 0 k (curS scs).chain) (curS scs) k true):=by
    cases n with
    | zero=>simp [cmpF] at hz
    | succ n=>rw [cmpF,if_pos (by omega)] at hz;exact (Option.some.inj hz).symm
   rw [hz0];have hap:∀ (s':CmpS) code arg,(emitI E (numI E s' 0 k (curS scs).chain) code arg k (curS scs).chain).items=s'.items++[⟨0,0,k,s'.start,(curS scs).chain,if E.framed&&!s'.items.isEmpty then 0 else s'.depth,E.framed&&!s'.items.isEmpty⟩,⟨code,arg,k,false,(curS scs).chain,if E.framed&&!(numI E s' 0 k (curS scs).chain).items.isEmpty then 0 else (numI E s' 0 k (curS scs).chain).depth,E.framed&&!(numI E s' 0 k (curS scs).chain).items.isEmpty⟩]:=fun s' code arg=>by
    show (s'.items++[_])++[_]=_
    rw [List.append_assoc];rfl
   unfold leaveI;rw [if_neg (by rw [ho];decide)]
   split
   ·exact ⟨_,_,_,hap _ _ _,hp1,rfl,.inl rfl⟩
   ·exact ⟨_,_,_,hap _ _ _,hp1,rfl,.inr rfl⟩
  ·have go:∀ (hd:List Int) (ex:List (Int×Nat)) (s':CmpS),(∀ v ∈ hd,0≤v∧v≤(s'.items.length:Int))→InOk E s'.items→PrC (fun y=>∃ l a b,y.2.items=l++[a,b]∧InOk E l∧a.code=0∧(b.code=14∨b.code=16)) (cmpF E n (.lines scs (k+1) hd ex) s'):=fun hd ex s' h1 h2=>ih (k+1) hd ex s' ⟨hs,h1⟩ h2 (by omega)
   refine prc_ite (fun _=>?_) fun h4=>prc_ite (fun _=>prc_ite (fun h=>absurd h hlast) fun _=>?_) fun _=>?_
   ·have q:=K.em (patchI s exits (k:Int)) 10 0 k (curS scs).chain hk hs.chain (fun _=>⟨Int.le_refl _,by omega⟩) hp1
    refine go _ _ _ (hmono ?_) (K.pX _ _ _ q.1)
    show _≤(patchX _ _ _).length
    rw [patchX_length]
    have:=q.2
    omega
   ·have q:=K.bks hk (curS scs) heads hs.chain (backIx E.p (curS scs).f k) (patchI s exits (k:Int)) (hmono (Nat.le_of_eq pl.symm)) hp1
    exact go _ _ _ (hmono (by have:=q.2;omega)) q.1
   ·refine prc_bind (cmp_kept K n (.expr scs k 0) { patchI s exits (k:Int) with start:=true } ⟨hs,hk⟩ hp1) fun y hy=>?_
    have hy2:s.items.length≤y.2.items.length:=Nat.le_trans (Nat.le_of_eq pl.symm) hy.2;have st:∀ (s':CmpS),InOk E s'.items∧y.2.items.length≤s'.items.length→∀ ex,PrC (fun y=>∃ l a b,y.2.items=l++[a,b]∧InOk E l∧a.code=0∧(b.code=14∨b.code=16)) (cmpF E n (.lines scs (k+1) (heads.set k ((patchI s exits (k:Int)).items.length:Int)) ex) s'):=fun s' hs' ex=>go _ ex s' (fun v hv=>by
      have:=hs'.2
      rcases List.mem_or_eq_of_mem_set hv with h|h
      ·have:=hh v h;omega
      ·rw [h];omega) hs'.1
    refine prc_ite (fun _=>st _ (K.sto hk hs.chain y.2 _ _ hy.1) _) fun _=>prc_ite (fun _=>st _ ?_ _) fun _=>prc_ite (fun _=>st _ (K.lea hk y.2 _ _ hs.chain hy.1) _) fun _=>st _ ?_ _
    ·exact K.em y.2 17 0 k _ hk hs.chain (by omega) hy.1
    ·exact K.em y.2 11 0 k _ hk hs.chain (fun _=>⟨Int.le_refl _,by omega⟩) hy.1
def HeadOk (l:List ItL):Prop:=∃ x r,l=x :: r∧(x.code=13∨x.code=15)∧0≤x.arg
theorem headOk_kept (E:CmpE):Kept E HeadOk:=⟨fun l x h _ _ _=>by
  obtain ⟨y,r,rfl,h1⟩:=h;exact ⟨y,r++[x],rfl,h1⟩,
 fun l j h=>by
  obtain ⟨y,r,rfl,h1,h2⟩:=h
  cases j with
  | zero=>exact ⟨{ y with arg:=((y :: r).length:Int) },r,by simp [setArg],h1,by show (0:Int)≤((y :: r).length:Int);omega⟩
  | succ j=>exact ⟨y,r.modify j fun x=>{ x with arg:=((y :: r).length:Int) },by simp [setArg],h1,h2⟩⟩
theorem comp_items {p:List PLine} {fr:Bool} {inl g:Nat} {L:List ItL} (h:CompTo p fr inl g L) (hg:0≤beZ p (g:Int)) :
  (∀ x ∈ L,(x.code=10∨x.code=11→0≤x.arg∧x.arg<(L.length:Int))∧x.chain.length≤inl∧x.line<p.length) ∧
  (∀ j:Nat,g<j→(j:Int)≤beZ p (g:Int)→lkZ p (j:Int)≠4→lkZ p (j:Int)≠7→Has j [] L)∧HeadOk L∧3≤L.length:=by
 obtain ⟨s0,s1,_,⟨r,n,hn⟩,rfl⟩:=h;obtain ⟨E,hE⟩:∃ E,compE p fr inl (s0.most:Int) g=E:=⟨_,rfl⟩;have hEp:E.p=p:=by rw [← hE];rfl
 have hEi:E.inl=inl:=by rw [← hE];rfl
 rw [hE] at hn;have hj:=top_ok E g;obtain ⟨q,hq,hq1,hq2,hq3⟩:=beZ_is p (g:Int) hg;have hgl:g<p.length:=by omega
 have hin0:InOk E (topS E g).items:=by
  intro x hx;have hx':x=⟨if E.framed=true then 13 else 15,E.words,g,false,[],if E.framed&&!([]:List ItL).isEmpty then 0 else 0,E.framed&&!([]:List ItL).isEmpty⟩:=by
   have:x ∈ ([]++[_]:List ItL):=hx
   simpa using this
  rw [hx'];refine ⟨fun e=>?_,Nat.zero_le _,by rw [hEp];exact hgl⟩;dsimp only at e
  split at e <;> omega
 have hlast:=cmp_last (E:=E) (scs:=[topSc E.p g]) rfl (by show lkZ E.p (beZ E.p (g:Int))=7;rw [hEp];exact beZ_7 p _ hg) n (g+1) _ _ _ hj hin0 (by show _≤beZ E.p (g:Int);rw [hEp];omega) _ hn;have hin:=cmp_kept (inOk_kept E) n _ _ hj hin0 _ hn;have hst:=cmp_starts n [topSc E.p g] (g+1) _ _ _ hj _ hn;have hhd:=cmp_kept (headOk_kept E) n _ _ hj (⟨_,[],rfl,by
  show (if E.framed=true then (13:Int) else 15)=13∨(if E.framed=true then (13:Int) else 15)=15
  split
  ·exact .inl rfl
  ·exact .inr rfl,by show 0≤E.words;rw [← hE];exact Int.natCast_nonneg _⟩:HeadOk (topS E g).items) _ hn
 obtain ⟨l,a,b,e,hl,ha,hb⟩:=hlast;have hlen:s1.items.length=l.length+2:=by
  have:=congrArg List.length e
  rw [List.length_append] at this;exact this
 refine ⟨fun x hx=>⟨fun hc=>?_,?_⟩,fun j h1 h2 h3 h4=>?_,hhd.1,?_⟩
 ·have e':s1.items=l++[a,b]:=e
  rw [e'] at hx
  rcases List.mem_append.1 hx with hx|hx
  ·have:=(hl x hx).1 hc
   omega
  ·simp only [List.mem_cons,List.not_mem_nil,or_false] at hx
   rcases hx with rfl|rfl <;> omega
 ·have:=hin.1 x hx
  rw [hEi,hEp] at this;exact this.2
 ·exact hst j h1 (by show _≤beZ E.p (g:Int);rw [hEp];exact h2) (by rw [hEp];exact h3) (by rw [hEp];exact h4)
 ·have h1:1≤(topS E g).items.length:=Nat.le_refl _
  obtain ⟨y,rr,e2,h13,_⟩:=hhd.1;have e':s1.items=l++[a,b]:=e
  rcases l with _|⟨l0,lr⟩
  ·have e3:a=y:=by
    have:(a :: [b])=y :: rr:=by rw [← e2];exact e'.symm
    injection this
   rw [e3] at ha;omega
  ·rw [hlen,List.length_cons]
   omega
end Go.Proofs.YtcflojdkaddemaaGreatDoor
