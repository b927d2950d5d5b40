/- Parts of the proof. -/
import Derived.Test.YtcflojdkaddemaaGreatDoorI06
import Derived.Laws.OwnMore
namespace Go.Proofs.YtcflojdkaddemaaGreatDoor
open Go.RowKit Go.Lib
theorem filter_one {l:List Nat} {P:Nat→Bool} {w:Nat} (hn:l.Nodup) (hw:w ∈ l) (h:∀ i ∈ l,P i=true↔i=w):l.filter P=[w]:=by
  induction l with
  | nil=>cases hw
  | cons a r ih =>
    obtain ⟨h1,h2⟩:=List.nodup_cons.1 hn
    rcases List.mem_cons.1 hw with rfl|hw
    · rw [List.filter_cons_of_pos ((h w (List.mem_cons_self ..)).2 rfl)]
      rw [List.filter_eq_nil_iff.2 fun i hi=>fun e=>h1 (by rw [← (h i (List.mem_cons_of_mem _ hi)).1 e];exact hi)]
    · rw [List.filter_cons_of_neg fun e=>h1 (by rw [(h a (List.mem_cons_self ..)).1 e];exact hw)]
      exact ih h2 hw fun i hi=>h i (List.mem_cons_of_mem _ hi)
theorem back_one {p:List PLine} {f k w:Nat} (h1:f<w) (h2:w<k) (hb:beZ p (w:Int)=(k:Int)) (h5:lkZ p (w:Int)=5):backIx p f k=[w]:=by
  unfold backIx;refine filter_one List.nodup_range' (by simp [List.mem_range'];exact ⟨w - (f+1),by omega,by omega⟩) fun i hi=>?_
  simp only [decide_eq_true_eq];have hik:i<k:=by
    obtain ⟨d,h,rfl⟩:=List.mem_range'.1 hi;omega
  constructor
  · rintro ⟨h,_⟩
    rw [← end_one hik h,end_one h2 hb]
  · rintro rfl
    exact ⟨hb,h5⟩
theorem back_none {p:List PLine} {f k:Nat} (h:lkZ p (endOpen p k:Int)≠5):backIx p f k=[]:=by
  unfold backIx;refine List.filter_eq_nil_iff.2 fun i hi=>?_
  simp only [decide_eq_true_eq];rintro ⟨h1,h5⟩;have hik:i<k:=by
    obtain ⟨d,h,rfl⟩:=List.mem_range'.1 hi;omega
  exact h (by rw [end_one hik h1];exact h5)
theorem else_one {p:List PLine} {f k len:Nat} {to:Int} {i:Nat} (hf:f<elseOpen p k) (hlt:elseOpen p k<k) (he:elseZ p (elseOpen p k:Int)=(k:Int)) (h3:∀ w:Nat,elseZ p (w:Int)=(k:Int)→lkZ p (w:Int)=3∧(k:Int)<beZ p (w:Int)) :
    (to,i) ∈ elseEx p f k len↔to=beZ p (elseOpen p k:Int)+1∧i=len:=by
  unfold elseEx;rw [filter_one (w:=elseOpen p k) List.nodup_range' (by simp [List.mem_range'];exact ⟨elseOpen p k - f,by omega,by omega⟩) fun w hw=>?_]
  · simp
  · simp only [decide_eq_true_eq]
    have hwk:w<k:=by
      obtain ⟨d,h,rfl⟩:=List.mem_range'.1 hw;omega
    constructor
    · intro hw2
      obtain ⟨a1,a2⟩:=h3 w hw2;obtain ⟨b1,b2⟩:=h3 _ he
      rcases Nat.lt_trichotomy w (elseOpen p k) with h|h|h
      · have:=else_level hw2 h hlt (.inl b1);omega
      · exact h
      · have:=else_level he h hwk (.inl a1);omega
    · rintro rfl;exact he
theorem elseZ_3 {p:List PLine} {w k:Nat} (h:elseZ p (w:Int)=(k:Int)):lkZ p (w:Int)=3∧(k:Int)<beZ p (w:Int):=by
  have hlt:=elseZ_lt p (w:Int) (by omega);refine ⟨?_,by omega⟩;unfold elseZ at h
  split at h
  · rename_i hc;exact hc.2
  · omega
theorem Body.trans {b:Nat} {o:Bool} {s s1 s':CmpS} {t t1 t':CiS} (h:Body b o s1 t1 s' t') (hd:s1.depth=s.depth) (hl:s.items.length≤s1.items.length) (hs:∀ i,i<b→s1.items[i]?=s.items[i]?) (ht:∀ i,i<b→t1.items[i]?=t.items[i]?) (hv:o=true→s1.leaves=s.leaves):Body b o s t s' t' :=
  ⟨h.use,h.dep.trans hd,h.st,h.len,Nat.le_trans hl h.lm,fun i hi=>⟨(h.lo i hi).1.trans (hs i hi),(h.lo i hi).2.trans (ht i hi)⟩,h.hi,h.lb,fun e=>(h.lv e).trans (hv e)⟩
theorem app_lo {l new:List ItL} {b:Nat} (h:b≤l.length) (i:Nat) (hi:i<b):(l++new)[i]?=l[i]?:=List.getElem?_append_left (by omega)
theorem patch_lo {ex:List (Int×Nat)} {to:Int} {l:List ItL} {b:Nat} (h:∀ e ∈ ex,b≤e.2) (i:Nat) (hi:i<b):(patchX ex to l)[i]?=l[i]?:=by
  rw [patchX_at,if_neg (fun hm=>by have:=h _ hm;omega)]
theorem pl_step {E:CmpE} (ho:OkI E.p) {n:Nat} (he:PE E n) (hl:PL E n):PL E (n+1):=by
  intro scs k heads exits s z t b h hs hfk hke H;have hend:=beZ_lt E.p ((curS scs).f:Int);have hk:k<E.p.length:=by omega
  have hlk:=lkZ_at E.p k hk;have hlb:=ho.1.2 _ (List.getElem_mem hk);have h0:0≤beZ E.p ((curS scs).f:Int):=by omega
  obtain ⟨sc,hsc⟩:∃ sc,curS scs=sc:=⟨_,rfl⟩;have hf:=hs.f;have hlo:=hs.lo;rw [hsc] at hfk hke H h0 hend hf hlo;have hlen:s.items.length=t.items.length:=by have:=H.rel.1;rw [patchX_length] at this;exact this
  have hbs:b≤s.items.length:=by rw [hlen];exact H.bl
  -- the beginning of the line
  obtain ⟨F1,hF1⟩:∃ F1,t.firsts++[t.items.length]=F1:=⟨_,rfl⟩;have hF1l:F1.length=k - sc.f:=by rw [← hF1,List.length_append,List.length_singleton,H.fl];omega
  have hexb:∀ e ∈ exits,b≤e.2:=fun e he=>(H.ex e he).2.2
  have hplo:=fun (to:Int) (i:Nat) (hi:i<b)=>patch_lo (to:=to) (l:=s.items) hexb i hi
  have hplen:(patchX exits (k:Int) s.items).length=s.items.length:=patchX_length _ _ _;have hrel:=H.rel;rw [hF1] at hrel;have hT1:Tie { patchI s exits (k:Int) with start:=true } { t with depth:=s.depth,firsts:=F1,pend:=true }:=⟨by show t.items.length=(patchX exits (k:Int) s.items).length;rw [hplen,hlen],by show 0<(patchX exits (k:Int) s.items).length;rw [hplen];have:=H.b0;omega,rfl,H.use,rfl⟩;have hT0:Tie (patchI s exits (k:Int)) { t with depth:=s.depth,firsts:=F1 }:=⟨hT1.len,hT1.ne,rfl,H.use,by show t.pend=s.start;rw [H.pe,H.st]⟩;have hd1:∀ j:Nat,sc.f<j→j<k→lkZ E.p (j:Int)=5→heads[j]?=(F1[j - (sc.f+1)]?).map fun (v:Nat)=>(v:Int):=fun j h1 h2 h3=>by
    rw [H.hd j h1 h2 h3,← hF1,List.getElem?_append_left (by rw [H.fl];omega)]
  have hlt:∀ j ∈ t.jumps,j.1<t.items.length:=fun j hj=>(H.jb j hj).2.1
  have hjb2:∀ {m:Nat},t.items.length≤m→∀ j ∈ t.jumps,b≤j.1∧j.1<m∧sc.f<j.2∧(j.2:Int)≤beZ E.p (sc.f:Int)+1:=fun hm j hj=>by have:=H.jb j hj;omega
  rw [cmpF] at h;rw [cmiF];simp only [hsc] at h ⊢;rw [if_neg (by omega)] at h ⊢;simp only [hF1]
  by_cases hlast:(k:Int)=beZ E.p (sc.f:Int)
  · -- the end of the function
    have h7:lkZ E.p (k:Int)=7:=by rw [hlast];exact beZ_7 E.p _ h0
    rw [if_neg (by omega),if_pos h7,if_pos hlast] at h ⊢;obtain ⟨n',rfl⟩:∃ n',n=n'+1:=by
      cases n with
      | zero=>simp [cmpF] at h
      | succ n=>exact ⟨n,rfl⟩
    rw [cmpF] at h;simp only [hsc] at h;rw [if_pos (by omega)] at h;obtain rfl:=Option.some.inj h;rw [cmiF];simp only [hsc];rw [if_pos (by omega)];have g1:=Gr.num hT0 E 0 k sc.chain;obtain ⟨s2,hs2⟩:∃ s2,leaveI E (numI E (patchI s exits (k:Int)) 0 k sc.chain) sc k true=s2:=⟨_,rfl⟩;obtain ⟨t2,ht2⟩:∃ t2,(if sc.outer=true then leaveJ E (numJ E { t with depth:=s.depth,firsts:=F1 } 0 k sc.chain) sc k else numJ E { t with depth:=s.depth,firsts:=F1 } 0 k sc.chain)=t2:=⟨_,rfl⟩;rw [hs2,ht2];have key:(∃ new,s2.items=patchX exits (k:Int) s.items++new∧t2.items=t.items++new)∧s2.leaves=s.leaves∧t2.jumps=t.jumps∧t2.firsts=F1∧s2.depth=s.depth∧s2.start=false∧t2.used=s2.most:=by
      rw [← hs2,← ht2];unfold leaveI leaveJ
      by_cases hou:sc.outer=true
      · have hou0:¬ sc.outer=false:=by rw [hou];decide
        rw [if_neg hou0,if_pos hou,if_neg hou0]
        by_cases hfr:E.framed=true
        · rw [if_pos hfr,if_pos hfr]
          have g2:=g1.trans (Gr.emit g1.tie E 14 (E.args:Int) k sc.chain (by decide));exact ⟨g2.new,g2.lv,g2.ju,g2.fi,by show s.depth+1+-1=s.depth;omega,rfl,g2.tie.use⟩
        · rw [if_neg hfr,if_neg hfr]
          have g2:=g1.trans (Gr.emit g1.tie E 16 ((E.args:Int)+16*E.words) k sc.chain (by decide));exact ⟨g2.new,g2.lv,g2.ju,g2.fi,by show s.depth+1+-1=s.depth;omega,rfl,g2.tie.use⟩
      · have hou':sc.outer=false:=by simpa using hou
        rw [if_pos hou',if_pos rfl,if_neg hou];exact ⟨g1.new,g1.lv,g1.ju,g1.fi,by show s.depth+1+-1=s.depth;omega,rfl,g1.tie.use⟩
    obtain ⟨⟨new,n1,n2⟩,k2,k3,k4,k5,k6,k7⟩:=key;have hr2:Rl b s2.items t2.items t2.jumps F1 sc.f:=by rw [n1,n2,k3];exact hrel.app hlt new
    have hjF:∀ j ∈ t.jumps,j.2 - (sc.f+1)<(F1++[t2.items.length]).length:=fun j hj=>by
      have:=H.jb j hj
      rw [List.length_append,hF1l,List.length_singleton];omega
    have hout:∀ i:Nat,(i,k+1) ∈ t.jumps↔i ∈ s.leaves:=fun i=>by
      rw [H.jx i (k+1) (by omega)]
      constructor
      · rintro (h|h|h)
        · have h3:((k+1:Nat):Int)≤beZ E.p (sc.f:Int):=(H.ex _ h).1
          omega
        · have h3:-(((k+1:Nat):Int) - 1)<0→lkZ E.p (- -(((k+1:Nat):Int) - 1))=4:=(H.ex _ h).2.1
          have h4:=h3 (by omega);rw [show (- -(((k+1:Nat):Int) - 1))=(k:Int) from by omega,h7] at h4;exact absurd h4 (by decide)
        · exact h.2
      · exact fun h=>.inr (.inr ⟨by omega,h⟩)
    have hfin:=hr2.next (M':=patchL s2.leaves (s2.items.length:Int) s2.items) (l:=k+1) (by rw [k3];exact H.one) (fun j hj=>by rw [k3] at hj;exact (H.jb j hj).2.2.1) (by rw [hF1l];omega) (patchL_length _ _ _) (fun i=>i ∈ s.leaves) (fun i=>by rw [k3];exact hout i)
      (fun i hi=>by rw [patchL_at,k2,if_pos hi]) (fun i hi=>by rw [patchL_at,k2,if_neg hi])
    refine ⟨_,rfl,?_⟩;rw [k3,k4];refine ⟨k7,k5,k6,?_,?_,fun i hi=>⟨?_,?_⟩,fun i hi=>?_,fun j hj=>?_,fun _=>k2⟩
    · show (applyJ _ _ _ t2.items).length=_
      rw [apply_length,hr2.1]
    · show s.items.length≤s2.items.length
      rw [n1,List.length_append,hplen];omega
    · show s2.items[i]?=_
      rw [n1,app_lo (by rw [hplen];exact hbs) i hi,hplo _ i hi]
    · show (applyJ _ _ _ t2.items)[i]?=_
      rw [apply_at _ _ _ _ i H.one hjF];have hno:∀ q,(i,q) ∉ t.jumps:=fun q hq=>by have:=H.jb _ hq;omega
      rw [n2,app_lo H.bl i hi]
      cases t.items[i]? with
      | none=>rfl
      | some x =>
        simp only [Option.map_some,Option.some.injEq];unfold fixP;rw [find_none hno]
    · show _=(applyJ _ _ _ t2.items)[i]?
      rw [apply_at _ _ _ _ i H.one hjF,hfin.2 i hi,k3]
    · have:=(hout j).2 (by rw [← k2];exact hj)
      exact (H.jb _ this).1
  · have hkl:(k:Int)<beZ E.p (sc.f:Int):=by omega
    have hkinds:=kinds_in ho hf hfk hkl hk
    -- the rest of the body
    have go:∀ (hd:List Int) (ex:List (Int×Nat)) (s4:CmpS) (t4:CiS),cmpF E n (.lines scs (k+1) hd ex) s4=some z→s4.depth=s.depth→s.items.length≤s4.items.length→Head E sc.f b (k+1) hd ex s4 t4→(∀ i,i<b→s4.items[i]?=s.items[i]?)→(∀ i,i<b→t4.items[i]?=t.items[i]?)→(sc.outer=true→s4.leaves=s.leaves) →
        ∃ t',cmiF E n (.lines scs (k+1) s.depth) t4=some (0,t')∧Body b sc.outer s t z.2 t':=fun hd ex s4 t4 h1 h2 h3 h4 h5 h6 h7=>by
      obtain ⟨t',a1,a2⟩:=hl scs (k+1) hd ex s4 z t4 b h1 hs (by rw [hsc];omega) (by rw [hsc];omega) (by rw [hsc];exact h4);rw [h2] at a1;rw [hsc] at a2;exact ⟨t',a1,a2.trans h2 h3 h5 h6 h7⟩
    by_cases h4:lkZ E.p (k:Int)=4
    · -- else
      rw [if_pos h4] at h ⊢;have hk4:E.p[k].kind=4:=hlk.symm.trans h4;obtain ⟨j1,j2,j3⟩:=else_jump ho hk hk4;have j0:=else_in ho hf hfk hkl hk hk4;have hap:=beZ_apart E.p sc.f (elseOpen E.p k) h0 j0 (by omega) (by omega);have hnx:nxZ E.p k=beZ E.p (elseOpen E.p k:Int)+1:=by unfold nxZ;rw [if_neg (by omega),if_neg (by omega)]
      have hmem:∀ {to:Int} {i:Nat},(to,i) ∈ elseEx E.p sc.f k (patchI s exits (k:Int)).items.length↔to=beZ E.p (elseOpen E.p k:Int)+1∧i=t.items.length:=fun {to i}=>by
        rw [else_one j0 j1 j2 (fun w hw=>elseZ_3 hw)];rw [show (patchI s exits (k:Int)).items.length=t.items.length from by rw [← hlen];exact hplen]
      have g1:=Gr.emit hT0 E 10 0 k sc.chain (by decide);obtain ⟨new,n1,n2⟩:=g1.new;have hem:(emitI E (patchI s exits (k:Int)) 10 0 k sc.chain).items=patchX exits (k:Int) s.items++[⟨10,0,k,s.start,sc.chain,if E.framed&&!(patchX exits (k:Int) s.items).isEmpty then 0 else s.depth,E.framed&&!(patchX exits (k:Int) s.items).isEmpty⟩]:=rfl;have hnew:new=[⟨10,0,k,s.start,sc.chain,if E.framed&&!(patchX exits (k:Int) s.items).isEmpty then 0 else s.depth,E.framed&&!(patchX exits (k:Int) s.items).isEmpty⟩]:=List.append_cancel_left (n1.symm.trans hem);have hLl:((beZ E.p (elseOpen E.p k:Int)+1).toNat:Int)=beZ E.p (elseOpen E.p k:Int)+1:=by omega
      rw [hnx];obtain ⟨L,hL⟩:∃ L,(beZ E.p (elseOpen E.p k:Int)+1).toNat=L:=⟨_,rfl⟩;rw [hL] at hLl ⊢;refine go _ _ _ _ h rfl ?_ (Head.next (s:=emitI E (patchI s exits (k:Int)) 10 0 k sc.chain) hfk hkl rfl rfl H.b0 ?_ H.use rfl rfl ?_ hF1l H.hl ?_ ?_ ?_ ?_ ?_) ?_ ?_ (fun _=>rfl)
      · show _≤(patchX _ _ (emitI E (patchI s exits (k:Int)) 10 0 k sc.chain).items).length
        rw [patchX_length,n1,List.length_append]
        show _≤(patchX exits (k:Int) s.items).length+_
        omega
      · show b≤(emitJ E _ 10 0 k sc.chain).items.length
        rw [n2,List.length_append]
        have:=H.bl
        show b≤t.items.length+_
        omega
      · show Rl b (emitI E (patchI s exits (k:Int)) 10 0 k sc.chain).items (emitJ E _ 10 0 k sc.chain).items (t.jumps++[(t.items.length,L)]) F1 sc.f
        rw [n1,n2,hnew];exact hrel.jump H.one hlt _ _ L (by rw [List.getElem?_eq_none (by rw [hF1l];omega)])
      · intro j h1 h2 h3
        rcases Nat.lt_or_ge j k with h|h
        · exact hd1 j h1 h h3
        · have:j=k:=by omega
          rw [this,h4] at h3;exact absurd h3 (by decide)
      · intro i l hlk2
        have hb:∀ to:Int,(to,i) ∈ exits++elseEx E.p sc.f k (patchI s exits (k:Int)).items.length↔(to,i) ∈ exits∨(to=beZ E.p (elseOpen E.p k:Int)+1∧i=t.items.length):=fun to=>by rw [List.mem_append,hmem]
        rw [hb,hb]
        show (i,l) ∈ t.jumps++[(t.items.length,L)]↔_
        rw [List.mem_append,H.jx i l hlk2,List.mem_singleton];have hle:(emitI E (patchI s exits (k:Int)) 10 0 k sc.chain).leaves=s.leaves:=rfl;rw [hle]
        constructor
        · rintro ((h|h|h)|h)
          · exact .inl (.inl h)
          · exact .inr (.inl (.inl h))
          · exact .inr (.inr h)
          · have h1:i=t.items.length:=congrArg Prod.fst h
            have h2:l=L:=congrArg Prod.snd h;exact .inl (.inr ⟨by omega,h1⟩)
        · rintro ((h|h)|(h|h)|h)
          · exact .inl (.inl h)
          · exact .inr (by rw [show l=L from by omega,h.2])
          · exact .inl (.inr (.inl h))
          · omega
          · exact .inl (.inr (.inr h))
      · intro e he
        rcases List.mem_append.1 he with he|he
        · exact H.ex e he
        · obtain ⟨e1,e2⟩:=hmem.1 (show (e.1,e.2) ∈ _ from he)
          have:=H.bl
          exact ⟨by omega,by omega,by omega⟩
      · exact one_snoc H.one hlt
      · intro j hj
        show b≤j.1∧j.1<(emitJ E _ 10 0 k sc.chain).items.length∧_
        rw [n2,hnew,List.length_append,List.length_singleton]
        rcases List.mem_append.1 hj with hj|hj
        · exact hjb2 (by show _≤t.items.length+1;omega) j hj
        · obtain rfl:=List.mem_singleton.1 hj
          have:=H.bl
          exact ⟨this,by show t.items.length<t.items.length+1;omega,by show sc.f<L;omega,by show (L:Int)≤_;omega⟩
      · intro i hi
        show (patchX _ _ (emitI E (patchI s exits (k:Int)) 10 0 k sc.chain).items)[i]?=_
        rw [patch_lo (b:=b) (fun e he=>?_) i hi,n1]
        · show (patchX exits (k:Int) s.items++new)[i]?=_
          rw [app_lo (by rw [hplen];exact hbs) i hi,hplo _ i hi]
        · rcases List.mem_append.1 he with he|he
          · exact hexb e he
          · obtain ⟨_,e2⟩:=hmem.1 (show (e.1,e.2) ∈ _ from he)
            have:=H.bl
            omega
      · intro i hi
        show (emitJ E _ 10 0 k sc.chain).items[i]?=_
        rw [n2];exact app_lo H.bl i hi
    rw [if_neg h4] at h ⊢;have nopatch:∀ {ex:List (Int×Nat)},(∀ e ∈ ex,e.1<0→lkZ E.p (-e.1)=4)→∀ l,patchX ex (-(k:Int)) l=l:=fun hx l=>patchX_none (fun i hi=>by
      have h1:-(k:Int)<0→lkZ E.p (- -(k:Int))=4:=hx _ hi;have h2:=h1 (by omega);rw [Int.neg_neg] at h2;exact h4 h2) l
    by_cases h7:lkZ E.p (k:Int)=7
    · rw [if_pos h7,if_neg hlast] at h ⊢
      have hd2:∀ j:Nat,sc.f<j→j<k+1→lkZ E.p (j:Int)=5→heads[j]?=(F1[j - (sc.f+1)]?).map fun (v:Nat)=>(v:Int):=fun j h1 h2 h3=>by
        rcases Nat.lt_or_ge j k with h|h
        · exact hd1 j h1 h h3
        · have:j=k:=by omega
          rw [this,h7] at h3;exact absurd h3 (by decide)
      by_cases h5:lkZ E.p (endOpen E.p k:Int)=5
      · rw [if_pos h5]
        obtain ⟨w1,w2,w3⟩:=while_jump h0 hfk hkl h7 h5;rw [back_one w1 w2 w3 h5] at h;have h:cmpF E n (.lines scs (k+1) heads exits) (emitI E (patchI s exits (k:Int)) 10 ((heads[endOpen E.p k]?).getD 0) k sc.chain)=some z:=h;have hwl:endOpen E.p k - (sc.f+1)<F1.length:=by rw [hF1l];omega
        have hhw:heads[endOpen E.p k]?=some ((F1[endOpen E.p k - (sc.f+1)]:Nat):Int):=by rw [hd1 _ w1 w2 h5,List.getElem?_eq_getElem hwl];rfl
        rw [hhw] at h;have h:cmpF E n (.lines scs (k+1) heads exits) (emitI E (patchI s exits (k:Int)) 10 ((F1[endOpen E.p k - (sc.f+1)]:Nat):Int) k sc.chain)=some z:=h;have g1:=Gr.emit hT0 E 10 0 k sc.chain (by decide);obtain ⟨new,n1,n2⟩:=g1.new;have hem:(emitI E (patchI s exits (k:Int)) 10 0 k sc.chain).items=patchX exits (k:Int) s.items++[⟨10,0,k,s.start,sc.chain,if E.framed&&!(patchX exits (k:Int) s.items).isEmpty then 0 else s.depth,E.framed&&!(patchX exits (k:Int) s.items).isEmpty⟩]:=rfl;have hnew:=List.append_cancel_left (n1.symm.trans hem);refine go _ _ _ _ h rfl ?_ (Head.next (s:=emitI E (patchI s exits (k:Int)) 10 ((F1[endOpen E.p k - (sc.f+1)]:Nat):Int) k sc.chain) hfk hkl (nopatch (fun e he=>(H.ex e he).2.1) _).symm rfl H.b0 ?_ H.use rfl rfl ?_ hF1l H.hl hd2 ?_ H.ex ?_ ?_) ?_ ?_ (fun _=>rfl)
        · show _≤(patchX exits (k:Int) s.items++[_]).length
          rw [List.length_append,hplen];omega
        · show b≤(emitJ E _ 10 0 k sc.chain).items.length
          rw [n2,List.length_append]
          have:=H.bl
          show b≤t.items.length+_
          omega
        · show Rl b (patchX exits (k:Int) s.items++[_]) (emitJ E _ 10 0 k sc.chain).items (t.jumps++[(t.items.length,endOpen E.p k)]) F1 sc.f
          rw [n2,hnew];exact hrel.jump H.one hlt _ _ _ (by rw [List.getElem?_eq_getElem hwl];rfl)
        · intro i l hlk2
          show (i,l) ∈ t.jumps++[(t.items.length,endOpen E.p k)]↔_
          rw [List.mem_append,H.jx i l hlk2,List.mem_singleton]
          constructor
          · rintro (h|h)
            · exact h
            · have h2:l=endOpen E.p k:=congrArg Prod.snd h
              omega
          · exact fun h=>.inl h
        · exact one_snoc H.one hlt
        · intro j hj
          show b≤j.1∧j.1<(emitJ E _ 10 0 k sc.chain).items.length∧_
          rw [n2,hnew,List.length_append,List.length_singleton]
          rcases List.mem_append.1 hj with hj|hj
          · exact hjb2 (by show _≤t.items.length+1;omega) j hj
          · obtain rfl:=List.mem_singleton.1 hj
            have:=H.bl
            exact ⟨this,by show t.items.length<t.items.length+1;omega,by show sc.f<endOpen E.p k;omega,by show (endOpen E.p k:Int)≤_;omega⟩
        · intro i hi
          show (patchX exits (k:Int) s.items++[_])[i]?=_
          rw [app_lo (by rw [hplen];exact hbs) i hi,hplo _ i hi]
        · intro i hi
          show (emitJ E _ 10 0 k sc.chain).items[i]?=_
          rw [n2];exact app_lo H.bl i hi
      · rw [if_neg h5]
        rw [back_none h5] at h;have h:cmpF E n (.lines scs (k+1) heads exits) (patchI s exits (k:Int))=some z:=h;refine go _ _ _ _ h rfl (Nat.le_of_eq hplen.symm) (Head.next (s:=patchI s exits (k:Int)) hfk hkl (nopatch (fun e he=>(H.ex e he).2.1) _).symm rfl H.b0 H.bl H.use H.st H.pe hrel hF1l H.hl hd2 (fun i l hl=>H.jx i l hl) H.ex H.one H.jb) (fun i hi=>hplo _ i hi) (fun i hi=>rfl) (fun _=>rfl)
    · -- a line with an expression
      rw [if_neg h7] at h ⊢;have hex:exprB E.p[k].expr=true:=by
        have:=((lineB_iff _).1 hlb).2.2.2
        have hk2:exprK E.p[k].kind=true:=by
          unfold exprK;rw [hlk] at h4 h7;rw [decide_eq_false (show ¬ E.p[k].kind=0 by omega),decide_eq_false h4,decide_eq_false h7];rfl
        rw [hk2] at this;exact this
      have hsn:=expr_scan _ hex;have hea:=exprAt_get E.p k hk;obtain ⟨y,hy1,hy2⟩:=bind_some h;obtain ⟨_,y2,y3,t2,y4,y5⟩:=he scs k 0 _ y _ _ hy1 hs (fun u hu=>by rw [hsc,hlo];rw [hea] at hu;exact line_in ho hf hfk hkl hk u hu) (by rw [hea,List.drop_zero];exact hsn) hT1;rw [y4];simp only [Option.bind_some];have y2:y.2.depth=s.depth+1:=y2;have y6:y.2.leaves=s.leaves:=y5.lv;have y7:t2.jumps=t.jumps:=y5.ju;have y8:t2.firsts=F1:=y5.fi
      -- behind the expression and what follows it
      have hhd:∀ j:Nat,sc.f<j→j<k+1→lkZ E.p (j:Int)=5→(heads.set k ((patchI s exits (k:Int)).items.length:Int))[j]?=(F1[j - (sc.f+1)]?).map fun (v:Nat)=>(v:Int):=fun j h1 h2 h3=>by
        rcases Nat.lt_or_ge j k with h|h
        · rw [List.getElem?_set_ne (by omega)];exact hd1 j h1 h h3
        · obtain rfl:j=k:=by omega
          rw [List.getElem?_set_self (by rw [H.hl];exact hk),← hF1,show j - (sc.f+1)=t.firsts.length from by rw [H.fl],List.getElem?_concat_length]
          show some ((patchX exits (j:Int) s.items).length:Int)=some ((t.items.length:Nat):Int)
          rw [hplen,hlen]
      have hhl:(heads.set k ((patchI s exits (k:Int)).items.length:Int)).length=E.p.length:=by rw [List.length_set];exact H.hl
      have fin:∀ (s3:CmpS) (t3:CiS),Gr y.2 t2 s3 t3→∀ (s4:CmpS) (t4:CiS),s4.items=s3.items→s4.leaves=s3.leaves→s4.start=s3.start→s4.most=s3.most→s4.depth=s.depth→t4.items=t3.items→t4.jumps=t3.jumps→t4.firsts=t3.firsts→t4.used=t3.used→t4.pend=t3.pend→s3.start=false →
          cmpF E n (.lines scs (k+1) (heads.set k ((patchI s exits (k:Int)).items.length:Int)) exits) s4=some z→∃ t',cmiF E n (.lines scs (k+1) s.depth) t4=some (0,t')∧Body b sc.outer s t z.2 t':=fun s3 t3 hg s4 t4 a1 a2 a3 a4 a5 b1 b2 b3 b4 b5 c1 hz=>by
        have hg2:=y5.trans hg;obtain ⟨new,n1,n2⟩:=hg2.new;have n1:s3.items=patchX exits (k:Int) s.items++new:=n1;have n2:t3.items=t.items++new:=n2;have hj4:t4.jumps=t.jumps:=b2.trans hg2.ju;have hf4:t4.firsts=F1:=b3.trans hg2.fi;have hl4:s4.leaves=s.leaves:=a2.trans hg2.lv;refine go _ _ s4 t4 hz a5 ?_ (Head.next (s:=s4) hfk hkl (nopatch (fun e he=>(H.ex e he).2.1) _).symm rfl H.b0 ?_ ?_ (a3.trans c1) ?_ ?_ (by rw [hf4];exact hF1l) hhl (by rw [hf4];exact hhd) ?_ H.ex (by rw [hj4];exact H.one) ?_) ?_ ?_ (fun _=>hl4)
        · rw [a1,n1,List.length_append,hplen];omega
        · rw [b1,n2,List.length_append];have:=H.bl;omega
        · rw [b4,a4];exact hg2.tie.use
        · rw [b5,hg2.tie.pen,c1]
        · rw [a1,b1,hj4,hf4,n1,n2];exact hrel.app hlt new
        · rw [hj4,hl4];exact fun i l hl=>H.jx i l hl
        · rw [hj4,b1,n2,List.length_append];exact hjb2 (by omega)
        · intro i hi;rw [a1,n1,app_lo (by rw [hplen];exact hbs) i hi,hplo _ i hi]
        · intro i hi;rw [b1,n2];exact app_lo H.bl i hi
      -- a jump behind the expression
      have finJ:∀ (code:Int) (L:Nat) (ex3:List (Int×Nat)) (s4:CmpS),code≠13→s4.items=(emitI E y.2 code 0 k sc.chain).items→s4.start=false→s4.most=y.2.most→s4.depth=s.depth→k<L→(L:Int)≤beZ E.p (sc.f:Int)+1 →
          (∀ i l:Nat,k<l→(((i,l) ∈ t.jumps∨(i=t2.items.length∧l=L))↔((l:Int),i) ∈ ex3∨(-((l:Int) - 1),i) ∈ ex3∨((l:Int)=beZ E.p (sc.f:Int)+1∧i ∈ s4.leaves)))→(∀ e ∈ ex3,e.1≤beZ E.p (sc.f:Int)∧(e.1<0→lkZ E.p (-e.1)=4)∧b≤e.2)→(sc.outer=true→s4.leaves=s.leaves) →
          cmpF E n (.lines scs (k+1) (heads.set k ((patchI s exits (k:Int)).items.length:Int)) ex3) s4=some z→∃ t',cmiF E n (.lines scs (k+1) s.depth) (jumpJ E t2 code L k sc.chain)=some (0,t')∧Body b sc.outer s t z.2 t':=fun code L ex3 s4 hc a1 a3 a4 a5 hkL hLe hjx hex3 hlv4 hz=>by
        have hg:=Gr.emit y5.tie E code 0 k sc.chain hc;obtain ⟨new,n1,n2⟩:=y5.new;have n1:y.2.items=patchX exits (k:Int) s.items++new:=n1;have n2:t2.items=t.items++new:=n2;obtain ⟨nw,m1,m2⟩:=hg.new;have hr2:Rl b y.2.items t2.items t.jumps F1 sc.f:=by rw [n1,n2];exact hrel.app hlt new
        have hlt2:∀ j ∈ t.jumps,j.1<t2.items.length:=fun j hj=>by rw [n2,List.length_append];have:=hlt j hj;omega
        have hnw:∃ x,nw=[x]:=by
          have:(emitI E y.2 code 0 k sc.chain).items=y.2.items++[⟨code,0,k,y.2.start,sc.chain,if E.framed&&!y.2.items.isEmpty then 0 else y.2.depth,E.framed&&!y.2.items.isEmpty⟩]:=rfl
          exact ⟨_,List.append_cancel_left (m1.symm.trans this)⟩
        obtain ⟨x,rfl⟩:=hnw;have hb2:b≤t2.items.length:=by rw [n2,List.length_append];have:=H.bl;omega
        have hit:(jumpJ E t2 code L k sc.chain).items=t2.items++[x]:=m2;have hju:(jumpJ E t2 code L k sc.chain).jumps=t.jumps++[(t2.items.length,L)]:=by rw [← y7];rfl
        have hfi:(jumpJ E t2 code L k sc.chain).firsts=F1:=y8;have hus:(jumpJ E t2 code L k sc.chain).used=t2.used:=rfl;have hpe:(jumpJ E t2 code L k sc.chain).pend=false:=rfl;generalize jumpJ E t2 code L k sc.chain=t4 at hit hju hfi hus hpe ⊢;refine go _ _ s4 t4 hz a5 ?_ (Head.next (s:=s4) hfk hkl (nopatch (fun e he=>(hex3 e he).2.1) _).symm rfl H.b0 ?_ ?_ a3 hpe ?_ (by rw [hfi];exact hF1l) hhl (by rw [hfi];exact hhd) ?_ hex3 ?_ ?_) ?_ ?_ hlv4
        · rw [a1,m1,n1,List.length_append,List.length_append,hplen];omega
        · rw [hit,List.length_append];omega
        · rw [hus,a4];exact y5.tie.use
        · rw [a1,m1,hit,hju,hfi];exact hr2.jump H.one hlt2 x x L (by rw [List.getElem?_eq_none (by rw [hF1l];omega)])
        · intro i l hl
          rw [← hjx i l hl,hju,List.mem_append,List.mem_singleton,Prod.mk.injEq]
        · rw [hju];exact one_snoc H.one hlt2
        · intro j hj
          rw [hju] at hj;rw [hit,List.length_append,List.length_singleton]
          rcases List.mem_append.1 hj with hj|hj
          · exact hjb2 (by rw [n2,List.length_append];omega) j hj
          · obtain rfl:=List.mem_singleton.1 hj
            exact ⟨hb2,by show t2.items.length<t2.items.length+1;omega,by show sc.f<L;omega,hLe⟩
        · intro i hi;rw [a1,m1,n1,List.append_assoc,app_lo (by rw [hplen];exact hbs) i hi,hplo _ i hi]
        · intro i hi;rw [hit,n2,List.append_assoc];exact app_lo H.bl i hi
      by_cases c1:lkZ E.p (k:Int)=1
      · rw [if_pos c1] at hy2 ⊢
        exact fin _ _ (Gr.store y5.tie E sc _ k sc.chain) (storeI E y.2 sc (varIx sc.locs (nameAt E.p k)) k sc.chain) _ rfl rfl rfl rfl (by show y.2.depth+-1=_;omega) rfl rfl rfl rfl rfl rfl hy2
      rw [if_neg c1] at hy2 ⊢
      by_cases c2:lkZ E.p (k:Int)=2
      · rw [if_pos c2] at hy2 ⊢
        exact fin _ _ (Gr.emit y5.tie E 17 0 k sc.chain (by decide)) (incD (emitI E y.2 17 0 k sc.chain) (-1)) _ rfl rfl rfl rfl (by show y.2.depth+-1=_;omega) rfl rfl rfl rfl rfl rfl hy2
      rw [if_neg c2] at hy2 ⊢
      by_cases c6:lkZ E.p (k:Int)=6
      · rw [if_pos c6] at hy2 ⊢
        unfold leaveI at hy2;unfold leaveJ
        by_cases hou:sc.outer=false
        · rw [if_pos hou,if_neg (by decide)] at hy2
          rw [if_pos hou];refine finJ 10 _ exits (incD (emitI E { y.2 with leaves:=y.2.leaves++[y.2.items.length] } 10 0 k sc.chain) (-1)) (by decide) rfl rfl rfl (by show y.2.depth+-1=_;omega) (by omega) (by omega) (fun i l hl=>?_) H.ex (fun e=>by rw [hou] at e;cases e) hy2;rw [H.jx i l hl];have hle:(incD (emitI E { y.2 with leaves:=y.2.leaves++[y.2.items.length] } 10 0 k sc.chain) (-1)).leaves=y.2.leaves++[y.2.items.length]:=rfl;rw [hle,y6,List.mem_append,List.mem_singleton,y5.tie.len]
          constructor
          · rintro ((h|h|h)|h)
            · exact .inl h
            · exact .inr (.inl h)
            · exact .inr (.inr ⟨h.1,.inl h.2⟩)
            · exact .inr (.inr ⟨by omega,.inr h.1⟩)
          · rintro (h|h|⟨h,h'|h'⟩)
            · exact .inl (.inl h)
            · exact .inl (.inr (.inl h))
            · exact .inl (.inr (.inr ⟨h,h'⟩))
            · exact .inr ⟨h',by omega⟩
        · rw [if_neg hou] at hy2 ⊢
          by_cases hfr:E.framed=true
          · rw [if_pos hfr] at hy2 ⊢
            exact fin _ _ (Gr.emit y5.tie E 14 (E.args:Int) k sc.chain (by decide)) (incD (emitI E y.2 14 (E.args:Int) k sc.chain) (-1)) _ rfl rfl rfl rfl (by show y.2.depth+-1=_;omega) rfl rfl rfl rfl rfl rfl hy2
          · rw [if_neg hfr] at hy2 ⊢
            exact fin _ _ (Gr.emit y5.tie E 16 ((E.args:Int)+16*E.words) k sc.chain (by decide)) (incD (emitI E y.2 16 ((E.args:Int)+16*E.words) k sc.chain) (-1)) _ rfl rfl rfl rfl (by show y.2.depth+-1=_;omega) rfl rfl rfl rfl rfl rfl hy2
      · rw [if_neg c6] at hy2 ⊢
        have h35:E.p[k].kind=3∨E.p[k].kind=5:=by rw [hlk] at h4 h7 c1 c2 c6;omega
        have hask:=ask_end h0 hfk hkl hk h35;have hb2:b≤t2.items.length:=by
          obtain ⟨new,_,n2⟩:=y5.new;have n2:t2.items=t.items++new:=n2;rw [n2,List.length_append];have:=H.bl;omega
        by_cases hel:lkZ E.p (k:Int)=3∧0≤elseZ E.p (k:Int)
        · rw [if_pos hel] at hy2
          have hnx:nxZ E.p k=elseZ E.p (k:Int)+1:=by unfold nxZ;rw [if_pos hel.1,if_pos hel.2]
          have hgt:=elseZ_gt E.p (k:Int) hel.2;have hlt3:=elseZ_lt E.p (k:Int) hel.2;obtain ⟨el,hel2⟩:∃ el:Nat,elseZ E.p (k:Int)=(el:Int):=⟨_,(Int.toNat_of_nonneg hel.2).symm⟩;have hel4:=elseZ_4 hel2;rw [hnx,hel2];rw [hel2] at hy2 hgt hlt3;refine finJ 11 _ _ (incD (emitI E y.2 11 0 k sc.chain) (-1)) (by decide) rfl rfl rfl (by show y.2.depth+-1=_;omega) (by omega) (by omega) (fun i l hl=>?_) (fun e he=>?_) (fun _=>y6) hy2
          · rw [H.jx i l hl]
            have hle:(incD (emitI E y.2 11 0 k sc.chain) (-1)).leaves=s.leaves:=y6;rw [hle,List.mem_append,List.mem_append,List.mem_singleton,List.mem_singleton,Prod.mk.injEq,Prod.mk.injEq,← y5.tie.len]
            constructor
            · rintro ((h|h|h)|h)
              · exact .inl (.inl h)
              · exact .inr (.inl (.inl h))
              · exact .inr (.inr h)
              · exact .inr (.inl (.inr ⟨by omega,h.1⟩))
            · rintro ((h|h)|(h|h)|h)
              · exact .inl (.inl h)
              · omega
              · exact .inl (.inr (.inl h))
              · exact .inr ⟨h.2,by omega⟩
              · exact .inl (.inr (.inr h))
          · rcases List.mem_append.1 he with he|he
            · exact H.ex e he
            · obtain rfl:=List.mem_singleton.1 he
              refine ⟨by show -(el:Int)≤_;omega,fun _=>?_,by show b≤y.2.items.length;rw [← y5.tie.len];exact hb2⟩
              show lkZ E.p (- -(el:Int))=4
              rw [Int.neg_neg];exact hel4
        · rw [if_neg hel] at hy2
          have hnx:nxZ E.p k=beZ E.p (k:Int)+1:=by
            unfold nxZ
            by_cases h3:lkZ E.p (k:Int)=3
            · rw [if_pos h3,if_neg (fun h=>hel ⟨h3,h⟩)]
            · rw [if_neg h3,if_pos (by rw [hlk];rw [hlk] at h3;omega)]
          rw [hnx];refine finJ 11 _ _ (incD (emitI E y.2 11 0 k sc.chain) (-1)) (by decide) rfl rfl rfl (by show y.2.depth+-1=_;omega) (by omega) (by omega) (fun i l hl=>?_) (fun e he=>?_) (fun _=>y6) hy2
          · rw [H.jx i l hl]
            have hle:(incD (emitI E y.2 11 0 k sc.chain) (-1)).leaves=s.leaves:=y6;rw [hle,List.mem_append,List.mem_append,List.mem_singleton,List.mem_singleton,Prod.mk.injEq,Prod.mk.injEq,← y5.tie.len]
            constructor
            · rintro ((h|h|h)|h)
              · exact .inl (.inl h)
              · exact .inr (.inl (.inl h))
              · exact .inr (.inr h)
              · exact .inl (.inr ⟨by omega,h.1⟩)
            · rintro ((h|h)|(h|h)|h)
              · exact .inl (.inl h)
              · exact .inr ⟨h.2,by omega⟩
              · exact .inl (.inr (.inl h))
              · omega
              · exact .inl (.inr (.inr h))
          · rcases List.mem_append.1 he with he|he
            · exact H.ex e he
            · obtain rfl:=List.mem_singleton.1 he
              exact ⟨by show beZ E.p (k:Int)+1≤_;omega,fun h=>by have h:beZ E.p (k:Int)+1<0:=h;omega,by show b≤y.2.items.length;rw [← y5.tie.len];exact hb2⟩
theorem ar_ok (u:TokL) (hb:tokB u=true):(u.kind=0∨u.kind=1→arN u=0)∧(2≤u.kind→u.kind≤6→arN u=2)∧(u.kind=7→(arN u:Int)=u.num):=by
  unfold arN arZ;rw [if_pos hb];refine ⟨fun h=>by rw [if_pos h];rfl,fun h2 h6=>by rw [if_neg (by omega),if_neg (by omega)];rfl,fun h7=>?_⟩;rw [if_neg (by omega),if_pos h7];unfold tokB at hb;rw [if_neg (by omega),if_neg (by omega),if_pos h7] at hb;simp only [Bool.and_eq_true,decide_eq_true_eq] at hb;omega
theorem p_all {E:CmpE} (ho:OkI E.p):∀ n,PE E n∧PA E n∧PL E n:=by
  intro n
  induction n with
  | zero=>exact ⟨fun scs k i s z t q h=>by simp [cmpF] at h,fun scs k i m s z t q h=>by simp [cmpF] at h,fun scs k hd ex s z t b h=>by simp [cmpF] at h⟩
  | succ n ih=>exact ⟨pe_step ho ar_ok ih.2.1 ih.2.2,pa_step ih.1 ih.2.1,pl_step ho ih.1 ih.2.2⟩
def topJ (E:CmpE) (g:Nat):CiS:={ emitJ E ⟨[],0,(locZ E.p (g:Int)).length - E.args,false,[],[]⟩ (if E.framed=true then 13 else 15) E.words g [] with depth:=E.words }
theorem topJ_items (E:CmpE) (g:Nat):(topJ E g).items=(topS E g).items∧(topS E g).items.length=1:=by
  unfold topJ topS emitJ emitI;refine ⟨?_,rfl⟩;dsimp only
  by_cases h:E.framed=true
  · rw [if_pos h,h];rfl
  · rw [if_neg h,show E.framed=false from by simpa using h];rfl
theorem top_same {E:CmpE} (ho:OkI E.p) {g:Nat} (hg:g ∈ funs E.p) {s:CmpS} (h:TopTo E g s):∃ n t,cmiF E n (.lines [topSc E.p g] (g+1) E.words) (topJ E g)=some (0,t)∧t.items=s.items∧t.used=s.most:=by
  obtain ⟨r,n,hn⟩:=h;obtain ⟨hi,h1⟩:=topJ_items E g;obtain ⟨hl,_,hb1,hb2,_⟩:=fun_parts ho hg;have hH:Head E g 1 (g+1) (List.replicate E.p.length 0) [] (topS E g) (topJ E g) :=
    { b0 := Nat.one_pos, bl := by rw [hi]; omega, use := rfl, st := rfl, pe := rfl
      rel:=⟨by rw [patchX_length,hi],fun i hib=>by rw [patchX_at,if_neg (by simp),List.getElem?_eq_none (by omega),List.getElem?_eq_none (by rw [hi];omega)];rfl⟩
      fl:=by show 0=g+1 - (g+1);omega
      hl:=List.length_replicate
      hd:=fun j h1 h2 _=>by omega
      jx:=fun i l _=>by
        have e1:(topJ E g).jumps=[]:=rfl;have e2:(topS E g).leaves=[]:=rfl;rw [e1,e2];simp
      ex:=fun e he=>by cases he
      one:=List.Pairwise.nil
      jb:=fun e he=>by cases he }
  obtain ⟨t,a1,a2⟩:=(p_all ho n).2.2 [topSc E.p g] (g+1) _ _ _ _ _ 1 hn ⟨⟨rfl,by simp⟩,hg,rfl⟩ (Nat.lt_succ_self g) (by show ((g+1:Nat):Int)≤beZ E.p (g:Int);omega) hH;refine ⟨n,t,a1,?_,a2.use⟩;have hlv:s.leaves=[]:=a2.lv rfl;apply List.ext_getElem?;intro i
  by_cases hi1:i<1
  · rw [(a2.lo i hi1).1,(a2.lo i hi1).2,hi]
  · have:=a2.hi i (by omega)
    rw [← this]
    show (patchL s.leaves _ s.items)[i]?=_
    rw [hlv];rfl
end Go.Proofs.YtcflojdkaddemaaGreatDoor

namespace Go.Proofs.YtcflojdkaddemaaGreatDoor
open Go.RowKit Go.Lib
def fw (o:List TokL):List TokL:=match o with
 | [t,a,b]=>if 2≤t.kind∧t.kind≤6∧a.kind=0∧b.kind=0∧0≤appZ t.kind a.num b.num∧appZ t.kind a.num b.num≤999 then [foldT (appZ t.kind a.num b.num)] else [t,a,b]
 | o=>o
theorem seg1_fw (t:TokL) (ops:List (List TokL)):seg1 t ops=fw (t :: ops.flatten):=by
 unfold seg1;generalize ops.flatten=o
 match o with
 | []=>rfl
 | [_]=>rfl
 | [_,_]=>rfl
 | _ :: _ :: _ :: _=>rfl
theorem fw_len (o:List TokL) (h:o.length≠3):fw o=o:=by
 match o with
 | []=>rfl
 | [_]=>rfl
 | [_,_]=>rfl
 | [_,_,_]=>exact absurd rfl h
 | _ :: _ :: _ :: _ :: _=>rfl
theorem fw_no (t a b:TokL) (h:¬ (2≤t.kind∧t.kind≤6∧a.kind=0∧b.kind=0∧0≤appZ t.kind a.num b.num∧appZ t.kind a.num b.num≤999)):fw [t,a,b]=[t,a,b]:=by
 show (if _ then _ else _)=_
 rw [if_neg h]
theorem fw_yes (t a b:TokL) (h:2≤t.kind∧t.kind≤6∧a.kind=0∧b.kind=0∧0≤appZ t.kind a.num b.num∧appZ t.kind a.num b.num≤999):fw [t,a,b]=[foldT (appZ t.kind a.num b.num)]:=by
 show (if _ then _ else _)=_
 rw [if_pos h]
def outF (t:TokL) (S:List (List TokL)) (j:Nat):List TokL:=t :: (S.take j).flatten
theorem outF_zero (t:TokL) (S:List (List TokL)):outF t S 0=[t]:=by unfold outF;simp
theorem take_flat (S:List (List TokL)) (j:Nat):(S.take j).flatten.length≤S.flatten.length:=by
 have:S.flatten=(S.take j).flatten++(S.drop j).flatten:=by rw [← List.flatten_append,List.take_append_drop]
 rw [this,List.length_append];omega
theorem outF_len (t:TokL) (l:List TokL) (j:Nat):(outF t (segs l) j).length≤l.length+1:=by
 have h1:=take_flat (segs l) j;have h2:=segs_len l;unfold outF;rw [List.length_cons];omega
theorem segs_head (l:List TokL) (h:0<(segs l).length):∃ rest,segs l=foldE l :: rest:=by
 unfold foldE
 cases hs:segs l with
 | nil=>rw [hs] at h;simp at h
 | cons x r=>exact ⟨r,rfl⟩
theorem ops_at (l:List TokL):∀ (r b q:Nat),scanN (l.drop b) r=some q→∀ j,j<r→∃ x:Nat,(opsFrom l r (b:Int))[j]?=some (x:Int)∧(∃ q',scanN (l.drop x) 1=some q')∧b≤x∧x<l.length∧(segs (l.drop b)).take (j+1)=(segs (l.drop b)).take j++[foldE (l.drop x)]:=by
 intro r
 induction r with
 | zero=>intro b q _ j hj;omega
 | succ r ih =>
  intro b q h j hj;obtain ⟨q1,q2,h1,h2,_⟩:=scan_next _ _ _ _ h;obtain ⟨hl1,hd1⟩:=segs_scan _ 1 _ h1;obtain ⟨rest,hrest⟩:=segs_head (l.drop b) (by omega);have he:endZ l (b:Int)=((b+q1:Nat):Int):=by rw [endZ_nat,h1];show (b:Int)+(q1:Int)=_;omega
  have hb:b<l.length:=by
   rcases Nat.lt_or_ge b l.length with h|h
   ·exact h
   ·rw [List.drop_eq_nil_of_le h] at h1;cases h1
  rw [hrest,List.drop_succ_cons,List.drop_zero,List.drop_drop] at hd1
  cases j with
  | zero =>
   refine ⟨b,rfl,⟨q1,h1⟩,Nat.le_refl _,hb,?_⟩;rw [hrest];rfl
  | succ j =>
   obtain ⟨x,hx,hq,hbx,hxl,ht⟩:=ih (b+q1) q2 h2 j (by omega);refine ⟨x,?_,hq,by omega,hxl,?_⟩
   ·show (((b:Int) :: opsFrom l r (endZ l (b:Int)))[j+1]?)=_
    rw [List.getElem?_cons_succ,he];exact hx
   ·rw [hrest,List.take_succ_cons,List.take_succ_cons,hd1,ht,List.cons_append]
theorem outF_next (t:TokL) (S:List (List TokL)) (j:Nat) (x:List TokL) (h:S.take (j+1)=S.take j++[x]):outF t S (j+1)=outF t S j++x:=by
 unfold outF;rw [h]
 simp
theorem fold_at (l:List TokL) (i:Nat) (hi:i<l.length):foldE (l.drop i)=fw (outF l[i] (segs (l.drop (i+1))) (arN l[i])):=by
 unfold foldE;rw [List.drop_eq_getElem_cons hi,segs,List.headD_cons,seg1_fw];rfl
end Go.Proofs.YtcflojdkaddemaaGreatDoor

namespace Go.Proofs.YtcflojdkaddemaaGreatDoor
open Go.RowKit Go.Lib
theorem open_at (p:List PLine) (f e:Nat) (hb:beZ p (f:Int)=(e:Int)):∀ (d:Nat),f+1+d≤e→∃ o:Int,1≤o∧endF o (f+1+d) (p.drop (f+1+d))=(e:Int) ∧
  ∀ m:Int,1≤m→m≤o→∃ w:Nat,f≤w∧w<f+1+d∧beZ p (w:Int)=endF m (f+1+d) (p.drop (f+1+d)):=by
 obtain ⟨j,hj,hjl,hop,_,_⟩:=beZ_is p (f:Int) (by omega);obtain rfl:f=j:=by omega
 have hbe:=beZ_at p f hjl hop;have hlt:=beZ_lt p (f:Int);intro d
 induction d with
 | zero =>
  intro _;refine ⟨1,by omega,by rw [← hb,hbe],fun m h1 h2=>⟨f,by omega,by omega,?_⟩⟩;obtain rfl:m=1:=by omega
  exact hbe
 | succ d ih =>
  intro hd;obtain ⟨o,ho,he,hm⟩:=ih (by omega);have hl:f+1+d<p.length:=by omega
  have hc:=opn_cases p[f+1+d].kind;rw [endF_at p o _ hl] at he
  by_cases h0:o+opn p[f+1+d].kind=0
  ·rw [if_pos h0] at he;omega
  ·rw [if_neg h0] at he
   refine ⟨o+opn p[f+1+d].kind,by omega,he,fun m h1 h2=>?_⟩
   by_cases hm1:m=1∧opn p[f+1+d].kind=1
   ·obtain ⟨rfl,ho1⟩:=hm1
    have hop2:isOp p[f+1+d].kind=true:=by
     rcases hc with ⟨_,h⟩|⟨h,_⟩|⟨h,_⟩
     ·exact h
     ·omega
     ·omega
    exact ⟨f+1+d,by omega,by omega,beZ_at p _ hl hop2⟩
   ·obtain ⟨w,w1,w2,w3⟩:=hm (m - opn p[f+1+d].kind) (by omega) (by omega)
    refine ⟨w,w1,by omega,?_⟩;rw [w3,endF_at p _ _ hl,if_neg (by omega),show m - opn p[f+1+d].kind+opn p[f+1+d].kind=m from by omega];rfl
theorem close_has {p:List PLine} {f k:Nat} (h0:0≤beZ p (f:Int)) (hfk:f<k) (hke:(k:Int)≤beZ p (f:Int)) (h7:lkZ p (k:Int)=7):endOpen p k<k∧beZ p (endOpen p k:Int)=(k:Int)∧f≤endOpen p k:=by
 obtain ⟨e,he⟩:=Int.eq_ofNat_of_zero_le h0;have hlt:=beZ_lt p (f:Int);obtain ⟨o,ho,_,hm⟩:=open_at p f e he (k - (f+1)) (by omega);rw [show f+1+(k - (f+1))=k from by omega] at hm;obtain ⟨w,w1,w2,w3⟩:=hm 1 (by omega) ho;have hl:k<p.length:=by omega
 rw [lkZ_at p k hl] at h7;rw [endF_at p 1 k hl,h7,if_pos (by decide)] at w3
 have:=end_one w2 w3
 rw [this];exact ⟨w2,w3,w1⟩
theorem op_kind {p:List PLine} {w:Nat} (h:0≤beZ p (w:Int)):lkZ p (w:Int)=0∨lkZ p (w:Int)=3∨lkZ p (w:Int)=5:=by
 obtain ⟨j,hj,hjl,hop,_,_⟩:=beZ_is p (w:Int) h;obtain rfl:w=j:=by omega
 rw [lkZ_at p w hjl];unfold isOp at hop;simp only [Bool.or_eq_true,beq_iff_eq] at hop;omega
theorem close_fun {p:List PLine} {f k:Nat} (hf:f ∈ funs p) (h0:0≤beZ p (f:Int)) (hfk:f<k) (hke:(k:Int)=beZ p (f:Int)):endOpen p k=f∧lkZ p (f:Int)=0:=by
 refine ⟨end_one hfk hke.symm,?_⟩;obtain ⟨h,_,h2⟩:=(funs_mem p 0 f).1 hf;rw [lkZ_at p f (by simpa using h)]
 simpa using h2
theorem close_in {p:List PLine} (ho:OkI p) {f k:Nat} (hf:f ∈ funs p) (h0:0≤beZ p (f:Int)) (hfk:f<k) (hke:(k:Int)<beZ p (f:Int)) (h7:lkZ p (k:Int)=7):endOpen p k<k∧f<endOpen p k∧(lkZ p (endOpen p k:Int)=3∨lkZ p (endOpen p k:Int)=5):=by
 obtain ⟨c1,c2,c3⟩:=close_has h0 hfk (by omega) h7;have hne:f≠endOpen p k:=fun e=>by rw [← e] at c2;omega
 have hlt:=beZ_lt p (f:Int);have hl:endOpen p k<p.length:=by omega
 have hk:=kinds_in ho hf (show f<endOpen p k by omega) (by omega) hl
 have:=op_kind (p:=p) (w:=endOpen p k) (by omega)
 rw [lkZ_at p _ hl] at this ⊢;exact ⟨c1,by omega,by omega⟩
end Go.Proofs.YtcflojdkaddemaaGreatDoor

namespace Go.Proofs.YtcflojdkaddemaaGreatDoor
open Go.RowKit Go.Lib
def setW (v:Int) (x:ItW):ItW:=⟨{ x.it with arg:=v },x.v⟩
def setX (X:List ItW) (j:Nat) (v:Int):List ItW:=X.modify j (setW v)
theorem setX_length (X:List ItW) (j:Nat) (v:Int):(setX X j v).length=X.length:=by unfold setX;rw [List.length_modify]
theorem setX_it (X:List ItW) (j:Nat) (v:Int):(setX X j v).map (·.it)=setArg (X.map (·.it)) j v:=by
 unfold setX setArg
 induction X generalizing j with
 | nil=>cases j <;> rfl
 | cons x r ih =>
  cases j with
  | zero=>rfl
  | succ j=>rw [List.modify_succ_cons,List.map_cons,ih,List.map_cons,List.modify_succ_cons]
theorem setX_ch (X:List ItW) (j:Nat) (v:Int):chL (setX X j v)=chL X:=by
 unfold setX chL
 induction X generalizing j with
 | nil=>cases j <;> rfl
 | cons x r ih =>
  cases j with
  | zero=>rfl
  | succ j=>rw [List.modify_succ_cons,List.map_cons,ih,List.map_cons]
theorem setX_v (X:List ItW) (j:Nat) (v:Int) (hj:j<X.length):itV (setX X j v)=(itV X).set (j*7+1) (.int .i64 v):=by
 unfold setX itV
 induction X generalizing j with
 | nil=>cases hj
 | cons x r ih =>
  cases j with
  | zero=>rfl
  | succ j =>
   rw [List.modify_succ_cons,List.flatMap_cons,ih j (by simpa using hj),List.flatMap_cons,List.set_append_right _ _ (by simp [itC];omega)];have e:(j+1)*7+1 - (itC x).length=j*7+1:=by simp [itC];omega
   rw [e]
section
variable {T:CT} {B rb:Nat} {w:World} {Z:MkE} {s:CmpS} {scs:List ScL} {LO:List (List Nat)} {sv:Value} {X:List ItW} {Y:List ScW}
end
end Go.Proofs.YtcflojdkaddemaaGreatDoor

namespace Go.Proofs.YtcflojdkaddemaaGreatDoor
open Go.RowKit Go.Lib
theorem funF_no:∀ (l:List PLine) (i g:Nat),g ∈ funF i l→∃ m,m=((l.take (g - i)).filter fun x=>decide (x.kind=0)).length∧∃ h:m<(funF i l).length,(funF i l)[m]=g∧∀ q,∀ hq:q<m,(funF i l)[q]'(Nat.lt_trans hq h)≠g:=by
 intro l
 induction l with
 | nil=>intro i g h;simp [funF] at h
 | cons x r ih =>
  intro i g h
  by_cases h0:x.kind=0
  ·have e:funF i (x :: r)=i :: funF (i+1) r:=by rw [funF,if_pos h0]
   by_cases hg:g=i
   ·subst hg
    refine ⟨0,by simp,by rw [e];simp,by simp only [e,List.getElem_cons_zero],fun q hq=>by omega⟩
   ·rw [e] at h
    have hm:g ∈ funF (i+1) r:=(List.mem_cons.1 h).resolve_left hg;have hge:=funF_ge r (i+1) g hm;obtain ⟨m,hm1,hm2,hm3,hm4⟩:=ih (i+1) g hm;have et:(x :: r).take (g - i)=x :: r.take (g - (i+1)):=by
     rw [show g - i=(g - (i+1))+1 from by omega,List.take_succ_cons]
    refine ⟨m+1,?_,?_,?_,?_⟩
    ·rw [et,List.filter_cons_of_pos (by simpa using h0),List.length_cons,← hm1]
    ·rw [e,List.length_cons];omega
    ·simp only [e,List.getElem_cons_succ];exact hm3
    ·intro q hq
     cases q with
     | zero=>simp only [e,List.getElem_cons_zero];omega
     | succ q=>simp only [e,List.getElem_cons_succ];exact hm4 q (by omega)
  ·have e:funF i (x :: r)=funF (i+1) r:=by rw [funF,if_neg h0]
   rw [e] at h;have hge:=funF_ge r (i+1) g h;obtain ⟨m,hm1,hm2,hm3,hm4⟩:=ih (i+1) g h;have et:(x :: r).take (g - i)=x :: r.take (g - (i+1)):=by
    rw [show g - i=(g - (i+1))+1 from by omega,List.take_succ_cons]
   refine ⟨m,?_,by rw [e];exact hm2,by simp only [e];exact hm3,fun q hq=>by simp only [e];exact hm4 q hq⟩;rw [et,List.filter_cons_of_neg (by simpa using h0),← hm1]
theorem fun_no (p:List PLine) (g:Nat) (h:g ∈ funs p):∃ m:Nat,funNo p g=(m:Int)∧∃ hm:m<(funs p).length,(funs p)[m]=g∧∀ q,∀ hq:q<m,(funs p)[q]'(Nat.lt_trans hq hm)≠g:=by
 obtain ⟨m,h1,h2,h3,h4⟩:=funF_no p 0 g h;exact ⟨m,by rw [h1];rfl,h2,h3,h4⟩
end Go.Proofs.YtcflojdkaddemaaGreatDoor
