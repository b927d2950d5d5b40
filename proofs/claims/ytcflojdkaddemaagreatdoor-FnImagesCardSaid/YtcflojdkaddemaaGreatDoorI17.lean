/- Parts of the proof. -/
import Derived.Test.YtcflojdkaddemaaGreatDoorI16
namespace Go.Proofs.YtcflojdkaddemaaGreatDoor
open Go.RowKit Go.Lib Go.Maps
structure LnK (E:CmpE) (f:Nat) (t R:CiS):Prop where
  len:t.items.length≤R.items.length
  used:R.used≤max t.used (64*(E.inl+1))
  fi:R.firsts=t.firsts
  ju:∀ j ∈ R.jumps,j ∈ t.jumps∨(j.1<R.items.length∧f<j.2∧(j.2:Int)≤beZ E.p (f:Int)+1)
  jl:R.jumps.length+t.items.length≤t.jumps.length+R.items.length
theorem jump_k {E:CmpE} {f:Nat} {t y:CiS} (h1:t.items.length≤y.items.length) (h2:y.used≤max t.used (64*(E.inl+1))) (h3:y.firsts=t.firsts) (h4:y.jumps=t.jumps) (code:Int) (l k:Nat) (ch:List Nat) (hf:f<l) (hl:(l:Int)≤beZ E.p (f:Int)+1):LnK E f t (jumpJ E y code l k ch):=by
  have e:(jumpJ E y code l k ch).items.length=y.items.length+1:=by unfold jumpJ emitJ;simp
  refine ⟨by omega,h2,h3,fun j hj=>?_,?_⟩
  · have hj:j ∈ y.jumps++[(y.items.length,l)]:=hj
    rcases List.mem_append.1 hj with hj|hj
    · exact .inl (by rw [← h4];exact hj)
    · obtain rfl:=List.mem_singleton.1 hj
      exact .inr ⟨by rw [e];show y.items.length<y.items.length+1;omega,hf,hl⟩
  · have:(jumpJ E y code l k ch).jumps.length=y.jumps.length+1:=by show (y.jumps++[_]).length=_;simp
    rw [this,e,h4];omega
theorem same_k {E:CmpE} {f:Nat} {t R:CiS} (h1:t.items.length≤R.items.length) (h2:R.used≤max t.used (64*(E.inl+1))) (h3:R.firsts=t.firsts) (h4:R.jumps=t.jumps):LnK E f t R :=
  ⟨h1,h2,h3,fun j hj=>.inl (by rw [← h4];exact hj),by rw [h4];omega⟩
theorem leave_k {E:CmpE} {sc:ScL} {t y:CiS} (h1:t.items.length≤y.items.length) (h2:y.used≤max t.used (64*(E.inl+1))) (h3:y.firsts=t.firsts) (h4:y.jumps=t.jumps) (k:Nat) (h0:(sc.f:Int)<beZ E.p (sc.f:Int)):LnK E sc.f t (leaveJ E y sc k):=by
  unfold leaveJ
  split
  · exact jump_k h1 h2 h3 h4 10 _ k _ (by omega) (by omega)
  · split
    · exact same_k (by rw [emitJ_len];omega) h2 h3 h4
    · exact same_k (by rw [emitJ_len];omega) h2 h3 h4
theorem line_k {E:CmpE} (ho:OkI E.p) {n:Nat} {scs:List ScL} {sc:ScL} {k:Nat} {t R:CiS} (hs:ScF E scs) (hf:sc.f ∈ funs E.p) (hfk:sc.f<k) (hke:(k:Int)≤beZ E.p (sc.f:Int)) (h:LineTo E n scs sc k t R):LnK E sc.f t R:=by
  obtain ⟨hfl,hf0,hfe,hel,_⟩:=fun_parts ho hf;have h0:0≤beZ E.p (sc.f:Int):=by omega
  have hk:k<E.p.length:=by omega
  have hlk:=lkZ_at E.p k hk;unfold LineTo at h
  by_cases h4:lkZ E.p (k:Int)=4
  · rw [if_pos h4] at h
    have hlt:(k:Int)<beZ E.p (sc.f:Int):=by
      rcases Int.lt_or_le (k:Int) (beZ E.p (sc.f:Int)) with h'|h'
      · exact h'
      · have:=beZ_7 E.p (sc.f:Int) h0
        rw [show beZ E.p (sc.f:Int)=(k:Int) from by omega] at this;omega
    have hk4:E.p[k].kind=4:=hlk.symm.trans h4;obtain ⟨j1,j2,j3⟩:=else_jump ho hk hk4;have j0:=else_in ho hf hfk hlt hk hk4;have hap:=beZ_apart E.p sc.f (elseOpen E.p k) h0 j0 (by omega) (by omega);have hnx:nxZ E.p k=beZ E.p (elseOpen E.p k:Int)+1:=by unfold nxZ;rw [if_neg (by omega),if_neg (by omega)]
    rw [h];exact jump_k (Nat.le_refl _) (Nat.le_max_left ..) rfl rfl 10 _ k _ (by omega) (by omega)
  rw [if_neg h4] at h
  by_cases h7:lkZ E.p (k:Int)=7
  · rw [if_pos h7] at h
    by_cases he:(k:Int)=beZ E.p (sc.f:Int)
    · rw [if_pos he] at h
      rw [h];have e1:(numJ E t 0 k sc.chain).items.length=t.items.length+1:=by unfold numJ incJ emitJ;simp
      split
      · exact leave_k (t:=t) (y:=numJ E t 0 k sc.chain) (by omega) (Nat.le_max_left ..) rfl rfl k hfe
      · exact same_k (by omega) (Nat.le_max_left ..) rfl rfl
    · rw [if_neg he] at h
      obtain ⟨c1,c2,c3⟩:=close_in ho hf h0 hfk (by omega) h7
      split at h
      · rw [h]
        exact jump_k (Nat.le_refl _) (Nat.le_max_left ..) rfl rfl 10 _ k _ c2 (by omega)
      · rw [h]
        exact same_k (Nat.le_refl _) (Nat.le_max_left ..) rfl rfl
  rw [if_neg h7] at h;obtain ⟨y,hy,h⟩:=h;obtain ⟨y1,y2,y3,y4,y5⟩:=((cmi_bound (E:=E) ho.1.1 ho.1.2) n).1 _ _ _ _ _ hs hy;have y1:t.items.length≤y.2.items.length:=y1;have y2:y.2.used≤max t.used (64*(E.inl+1)):=y2;have y4:y.2.jumps=t.jumps:=y4;have y5:y.2.firsts=t.firsts:=y5;have hlt:(k:Int)<beZ E.p (sc.f:Int):=by
    rcases Int.lt_or_le (k:Int) (beZ E.p (sc.f:Int)) with h'|h'
    · exact h'
    · have:=beZ_7 E.p (sc.f:Int) h0
      rw [show beZ E.p (sc.f:Int)=(k:Int) from by omega] at this;omega
  by_cases c1:lkZ E.p (k:Int)=1
  · rw [if_pos c1] at h
    rw [h]
    exact same_k (by have : (storeJ E y.2 sc (varIx sc.locs (nameAt E.p k)) k sc.chain).items.length = y.2.items.length + 1 := by { unfold storeJ incJ emitJ; simp }
                     omega) y2 y5 y4
  rw [if_neg c1] at h
  by_cases c2:lkZ E.p (k:Int)=2
  · rw [if_pos c2] at h
    rw [h];exact same_k (by rw [emitJ_len];omega) y2 y5 y4
  rw [if_neg c2] at h
  by_cases c6:lkZ E.p (k:Int)=6
  · rw [if_pos c6] at h
    rw [h];exact leave_k y1 y2 y5 y4 k hfe
  rw [if_neg c6] at h;rw [h];have hkd:=kinds_in ho hf hfk hlt hk;have h35:E.p[k].kind=3∨E.p[k].kind=5:=by rw [hlk] at h4 h7 c1 c2 c6;omega
  have hask:=ask_end h0 hfk hlt hk h35
  by_cases hel:lkZ E.p (k:Int)=3∧0≤elseZ E.p (k:Int)
  · have hnx:nxZ E.p k=elseZ E.p (k:Int)+1:=by unfold nxZ;rw [if_pos hel.1,if_pos hel.2]
    have hgt:=elseZ_gt E.p (k:Int) hel.2;have hlt3:=elseZ_lt E.p (k:Int) hel.2;exact jump_k y1 y2 y5 y4 11 _ k _ (by omega) (by omega)
  · have hnx:nxZ E.p k=beZ E.p (k:Int)+1:=by
      unfold nxZ
      by_cases h3:lkZ E.p (k:Int)=3
      · rw [if_pos h3,if_neg (fun h=>hel ⟨h3,h⟩)]
      · rw [if_neg h3,if_pos (by rw [hlk];rw [hlk] at h3;omega)]
    exact jump_k y1 y2 y5 y4 11 _ k _ (by omega) (by omega)
theorem line_inv {E:CmpE} {n:Nat} {scs:List ScL} {sc:ScL} {k:Nat} {d:Int} {t:CiS} {z:Nat×CiS} (hc:curS scs=sc) (h:cmiF E (n+1) (.lines scs k d) t=some z) (hke:(k:Int)≤beZ E.p (sc.f:Int)) :
    ∃ R,LineTo E n scs sc k { t with depth:=d,firsts:=t.firsts++[t.items.length] } R∧cmiF E n (.lines scs (k+1) d) R=some z:=by
  rw [cmiF] at h;simp only [hc] at h;rw [if_neg (by omega)] at h;unfold LineTo
  by_cases h4:lkZ E.p (k:Int)=4
  · rw [if_pos h4] at h;simp only [if_pos h4]
    exact ⟨_,rfl,h⟩
  rw [if_neg h4] at h;simp only [if_neg h4]
  by_cases h7:lkZ E.p (k:Int)=7
  · rw [if_pos h7] at h;simp only [if_pos h7]
    by_cases he:(k:Int)=beZ E.p (sc.f:Int)
    · rw [if_pos he] at h;simp only [if_pos he]
      exact ⟨_,rfl,h⟩
    · rw [if_neg he] at h;simp only [if_neg he]
      by_cases h5:lkZ E.p (endOpen E.p k:Int)=5
      · rw [if_pos h5] at h;simp only [if_pos h5]
        exact ⟨_,rfl,h⟩
      · rw [if_neg h5] at h;simp only [if_neg h5]
        exact ⟨_,rfl,h⟩
  rw [if_neg h7] at h;simp only [if_neg h7];obtain ⟨y,h1,h2⟩:=cbind h
  by_cases c1:lkZ E.p (k:Int)=1
  · rw [if_pos c1] at h2
    exact ⟨_,⟨y,h1,by rw [if_pos c1]⟩,h2⟩
  rw [if_neg c1] at h2
  by_cases c2:lkZ E.p (k:Int)=2
  · rw [if_pos c2] at h2
    exact ⟨_,⟨y,h1,by rw [if_neg c1,if_pos c2]⟩,h2⟩
  rw [if_neg c2] at h2
  by_cases c6:lkZ E.p (k:Int)=6
  · rw [if_pos c6] at h2
    exact ⟨_,⟨y,h1,by rw [if_neg c1,if_neg c2,if_pos c6]⟩,h2⟩
  rw [if_neg c6] at h2;exact ⟨_,⟨y,h1,by rw [if_neg c1,if_neg c2,if_neg c6]⟩,h2⟩
theorem lines_end {E:CmpE} {n:Nat} {scs:List ScL} {sc:ScL} {k:Nat} {d:Int} {t:CiS} {z:Nat×CiS} (hc:curS scs=sc) (h:cmiF E (n+1) (.lines scs k d) t=some z) (hke:beZ E.p (sc.f:Int)<(k:Int)) :
    z=(0,{ t with firsts:=t.firsts++[t.items.length],items:=applyJ sc.f (t.firsts++[t.items.length]) t.jumps t.items }):=by
  rw [cmiF] at h;simp only [hc] at h;rw [if_pos hke] at h;exact (Option.some.inj h).symm
theorem apply_take (f:Nat) (F:List Nat) (J:List (Nat×Nat)) (l:List ItL) (i:Nat) (h:i<J.length):applyJ f F (J.take (i+1)) l=setArg (applyJ f F (J.take i) l) J[i].1 (firstJ f F J[i].2):=by
  unfold applyJ;rw [List.take_succ_eq_append_getElem h,List.foldl_append];rfl
section
variable {T:JT} {P:Program} {B cb:Nat} {w:World} {K:KcE} {t:CiS} {jv:Value} {X:List ItW} {sc:ScL} {b:BdW} {line:Nat}
theorem CiAt.arg {g n c:Nat} (h:CiAt T P B cb w K t (.slice (some ⟨g,0,none⟩) n c) X sc b jv line) (hT:T.ok) (j:Nat) (v:Int) (hj:j<X.length) :
    CiAt T P B cb (w.setCell ⟨g,j*7+1,none⟩ (.int .i64 v)) K { t with items:=setArg t.items j v } (.slice (some ⟨g,0,none⟩) n c) (setX X j v) sc b jv line ∧
      Step cb (ML (.slice (some ⟨g,0,none⟩) n c) jv b) (ML (.slice (some ⟨g,0,none⟩) n c) jv b) w (w.setCell ⟨g,j*7+1,none⟩ (.int .i64 v)):=by
  have hn:n=X.length:=by
    rcases h.cc.its.2 with ⟨e,_⟩|⟨_,_,_,e,_⟩
    · cases e
    · injection e
  subst hn;have s:=h.sep hT;have other:∀ {k:Nat},k≠g→(w.setCell ⟨g,j*7+1,none⟩ (.int .i64 v)).heap[k]?=w.heap[k]?:=fun hk=>set_other hk
  have ng:∀ {k:Nat},(Value.slice (some ⟨g,0,none⟩) X.length c).ownBlock≠some k→k≠g:=fun hk e=>hk (by rw [e];rfl)
  refine ⟨⟨⟨(other (ng s.ic)).trans h.cc.row,?_,?_,?_,h.cc.lo⟩,h.bd.keep (other (ng s.ib)) (other (ng s.im)) (other (ng s.fi)) (fun k hk=>other fun e=>s.ih g rfl (by rw [hk,e])) (fun k hk=>other fun e=>s.ij g rfl (by rw [hk,e]))⟩,?_⟩
  · rw [setX_length,setX_v X j v hj]
    exact (h.cc.its.stored _ _).1
  · rw [setX_it,h.cc.items]
  · rw [setX_ch]
    exact ⟨fun z hz=>by
      obtain ⟨x,hx,rfl⟩:=mem_chL.1 hz;exact owns_blks (h.cc.chn.1 _ hz) (fun k hk=>other fun e=>s.ix x hx g rfl (by rw [hk,e])),h.cc.chn.2⟩
  · exact ⟨rfl,rfl,rfl,by simp [World.setCell],fun k _ _ hm=>set_other (fun e=>hm _ (by unfold ML;exact List.mem_cons_self ..) (by rw [e];rfl)),fun u hu k hk=>.inl ⟨u,hu,hk⟩⟩
end
end Go.Proofs.YtcflojdkaddemaaGreatDoor

namespace Go.Proofs.YtcflojdkaddemaaGreatDoor
open Go.RowKit Go.Lib
def capC:Nat→Nat
 | 0=>0
 | d+1=>max 221 (capC d)+198
theorem len_enter {E:CmpE} (ho:OkI E.p) (sc:ScL) {g:Nat} (hg:g ∈ funs E.p) (k:Nat) (t:CiS):(enterJ E sc (newSc E sc g k) k t).items.length≤t.items.length+21:=by
 obtain ⟨hl,ha,hpre,h4,_⟩:=loc_args ho hg;have h8:(newSc E sc g k).locs.length≤8:=loc_len ho hg;have hn:(argsZ E.p ((newSc E sc g k).f:Int)).length≤4:=by show (argsZ E.p (g:Int)).length≤4;rw [ha];exact h4
 unfold enterJ;dsimp only;obtain ⟨m,hm⟩:∃ m,(argsZ E.p ((newSc E sc g k).f:Int)).length=m:=⟨_,rfl⟩;rw [hm] at hn ⊢;have e1:=(onw_stores E (newSc E sc g k) k sc.chain m { t with used:=max t.used ((newSc E sc g k).first+(newSc E sc g k).locs.length) }).2.2;have e2:=(onw_zeros E (newSc E sc g k) k sc.chain ((newSc E sc g k).locs.length - m) m (storesJ E (newSc E sc g k) k sc.chain m { t with used:=max t.used ((newSc E sc g k).first+(newSc E sc g k).locs.length) })).2.2;have e3:∀ y:CiS,(spaceJ E k sc.chain y).items.length≤y.items.length+1:=fun y=>by
  unfold spaceJ
  split
  ·exact Nat.le_of_eq (emitJ_len ..)
  ·omega
 have e4:=e3 (zerosJ E (newSc E sc g k) k sc.chain ((newSc E sc g k).locs.length - m) m (storesJ E (newSc E sc g k) k sc.chain m { t with used:=max t.used ((newSc E sc g k).first+(newSc E sc g k).locs.length) }));rw [e2,e1] at e4;have e5:({ t with used:=max t.used ((newSc E sc g k).first+(newSc E sc g k).locs.length) }:CiS).items.length=t.items.length:=rfl;rw [e5] at e4;omega
def ScD (E:CmpE) (scs:List ScL) (d:Nat):Prop:=(curS scs).f ∈ funs E.p∧1≤scs.length∧scs.length+d=E.inl+1∧(curS scs).locs=locZ E.p ((curS scs).f:Int)
def LE (E:CmpE) (n:Nat):Prop:=∀ scs k i t z d q,cmiF E n (.expr scs k i) t=some z→ScD E scs d→Kn E scs k→scanN ((exprAt E.p k).drop i) 1=some q→z.1=i+q∧z.2.items.length≤max t.items.length (capC d)+q
def LA (E:CmpE) (n:Nat):Prop:=∀ scs k i m t z d q,cmiF E n (.args scs k i m) t=some z→ScD E scs d→Kn E scs k→scanN ((exprAt E.p k).drop i) m=some q→z.1=i+q∧z.2.items.length≤max t.items.length (capC d)+q
def LL (E:CmpE) (n:Nat):Prop:=∀ scs k dd t z d,cmiF E n (.lines scs k dd) t=some z→ScD E scs d→(curS scs).f<k→z.2.items.length≤max t.items.length (capC d)+22*((beZ E.p ((curS scs).f:Int)).toNat+1 - k)
theorem la_step {E:CmpE} {n:Nat} (he:LE E n) (ha:LA E n):LA E (n+1):=by
 intro scs k i m t z d q h hs hk hq
 cases m with
 | zero =>
  rw [cmiF] at h;obtain rfl:=Option.some.inj h;have hq0:q=0:=by cases hd:(exprAt E.p k).drop i <;> rw [hd,scanN] at hq <;> exact (Option.some.inj hq).symm
  subst hq0;exact ⟨rfl,by show t.items.length≤_;omega⟩
 | succ m =>
  rw [cmiF] at h;obtain ⟨y,h1,h2⟩:=cbind h;obtain ⟨q1,q2,s1,s2,rfl⟩:=scan_next _ _ _ _ hq;obtain ⟨a1,a2⟩:=he _ _ _ _ _ _ _ h1 hs hk s1;rw [a1] at h2;obtain ⟨b1,b2⟩:=ha _ _ _ _ _ _ _ _ h2 hs hk s2;exact ⟨by omega,by omega⟩
theorem le_step {E:CmpE} (ho:OkI E.p) {n:Nat} (ha:LA E n) (hl:LL E n):LE E (n+1):=by
 intro scs k i t z d q h hs hk hq;obtain ⟨hi,htb,q',rfl,hq'⟩:=scan_one _ _ _ hq;have htk:=tokAt_get E.p k i hi;rw [cmiF] at h;obtain ⟨y,h1,h2⟩:=cbind h;dsimp only at h2;rw [htk] at h1 h2;obtain ⟨a1,a2⟩:=ha _ _ _ _ _ _ _ _ h1 hs hk hq';have fin:∀ code arg,y.1=i+(q'+1)∧(emitJ E y.2 code arg k (curS scs).chain).items.length≤max t.items.length (capC d)+(q'+1):=fun code arg=>⟨by omega,by rw [emitJ_len];omega⟩
 by_cases c0:((exprAt E.p k)[i]).kind=0
 ·rw [if_pos c0] at h2;obtain rfl:=Option.some.inj h2;exact fin _ _
 rw [if_neg c0] at h2
 by_cases c1:((exprAt E.p k)[i]).kind=1
 ·rw [if_pos c1] at h2;obtain rfl:=Option.some.inj h2;exact fin _ _
 rw [if_neg c1] at h2
 by_cases c7:((exprAt E.p k)[i]).kind=7
 ·rw [if_pos c7] at h2
  obtain ⟨g,hg⟩:∃ g,(findZ E.p ((exprAt E.p k)[i]).name).toNat=g:=⟨_,rfl⟩;rw [hg] at h2
  by_cases hr:replJ E scs y.2.items.length g=true
  ·rw [if_pos hr] at h2
   obtain ⟨r1,r2,r3,r4⟩:=replJ_lt hr
   cases hx:cmiF E n (.lines (newSc E (curS scs) g k :: scs) (g+1) (enterJ E (curS scs) (newSc E (curS scs) g k) k y.2).depth) { enterJ E (curS scs) (newSc E (curS scs) g k) k y.2 with jumps:=[],firsts:=[],pend:=false } with
   | none=>rw [hx] at h2;cases h2
   | some p =>
    rw [hx] at h2;obtain rfl:=Option.some.inj h2;obtain ⟨s1,s2,s3,s4⟩:=hs;obtain ⟨d',rfl⟩:∃ d',d=d'+1:=⟨d - 1,by omega⟩;have hgf:g ∈ funs E.p:=by
     have hkn:=(hk _ (List.getElem_mem hi)).2 c7;exact findZ_fun E.p ((exprAt E.p k)[i]).name g (by omega)
    ·have hb:=hl _ _ _ _ _ d' hx ⟨hgf,by simp,by rw [List.length_cons];omega,rfl⟩ (Nat.lt_succ_self g)
     have hen:=len_enter ho (curS scs) hgf k y.2;have hb:p.2.items.length≤max (enterJ E (curS scs) (newSc E (curS scs) g k) k y.2).items.length (capC d')+22*((beZ E.p (g:Int)).toNat+1 - (g+1)):=hb;obtain ⟨_,_,hfe,_,_⟩:=fun_parts ho hgf;have hc:capC (d'+1)=max 221 (capC d')+198:=rfl;refine ⟨by show y.1=_;omega,?_⟩
     show p.2.items.length≤_
     rw [hc] at a2 ⊢;omega
  ·rw [if_neg hr] at h2;obtain rfl:=Option.some.inj h2;exact fin _ _
 ·rw [if_neg c7] at h2;obtain rfl:=Option.some.inj h2;exact fin _ _
theorem ll_line {E:CmpE} (ho:OkI E.p) {n:Nat} (he:LE E n) {scs:List ScL} {k d:Nat} {t R:CiS} (hs:ScD E scs d) (hfk:(curS scs).f<k) (hke:(k:Int)≤beZ E.p ((curS scs).f:Int)) (h:LineTo E n scs (curS scs) k t R):R.items.length≤max t.items.length (capC d)+22:=by
 obtain ⟨s1,s2,s3,s4⟩:=hs;obtain ⟨hfl,hf0,hfe,hel,_⟩:=fun_parts ho s1;have h0:0≤beZ E.p ((curS scs).f:Int):=by omega
 have hk:k<E.p.length:=by omega
 have hlk:=lkZ_at E.p k hk;have jl:∀ (y:CiS) (c:Int) (l:Nat) (ch:List Nat),(jumpJ E y c l k ch).items.length=y.items.length+1:=fun y c l ch=>by unfold jumpJ emitJ;simp
 have ll:∀ y:CiS,(leaveJ E y (curS scs) k).items.length=y.items.length+1:=fun y=>by
  unfold leaveJ
  split
  ·exact jl _ _ _ _
  ·split <;> exact emitJ_len ..
 have nl:(numJ E t 0 k (curS scs).chain).items.length=t.items.length+1:=by unfold numJ incJ emitJ;simp
 unfold LineTo at h
 by_cases h4:lkZ E.p (k:Int)=4
 ·rw [if_pos h4] at h
  rw [h,jl];omega
 rw [if_neg h4] at h
 by_cases h7:lkZ E.p (k:Int)=7
 ·rw [if_pos h7] at h
  split at h
  ·rw [h]
   split
   ·rw [ll,nl];omega
   ·rw [nl];omega
  ·split at h
   ·rw [h,jl];omega
   ·rw [h];omega
 rw [if_neg h7] at h;obtain ⟨y,hy,h⟩:=h;have hlt:(k:Int)<beZ E.p ((curS scs).f:Int):=by
  rcases Int.lt_or_le (k:Int) (beZ E.p ((curS scs).f:Int)) with h'|h'
  ·exact h'
  ·have:=beZ_7 E.p ((curS scs).f:Int) h0
   rw [show beZ E.p ((curS scs).f:Int)=(k:Int) from by omega] at this;omega
 have hlb:=ho.1.2 _ (List.getElem_mem hk);have hkd:=kinds_in ho s1 hfk hlt hk;have hex:exprB E.p[k].expr=true:=by
  have:=((lineB_iff _).1 hlb).2.2.2
  have hk2:exprK E.p[k].kind=true:=by
   unfold exprK;rw [hlk] at h4 h7;rw [decide_eq_false (show ¬ E.p[k].kind=0 by omega),decide_eq_false h4,decide_eq_false h7];rfl
  rw [hk2] at this;exact this
 have hea:=exprAt_get E.p k hk;have hl20:=(expr_len _ hex).2;obtain ⟨_,y2⟩:=he _ _ _ _ _ d _ hy ⟨s1,s2,s3,s4⟩ (fun u hu=>by rw [s4];rw [hea] at hu;exact line_in ho s1 hfk hlt hk u hu) (by rw [hea,List.drop_zero];exact expr_scan _ hex);have y2:y.2.items.length≤max t.items.length (capC d)+E.p[k].expr.length:=y2
 by_cases c1:lkZ E.p (k:Int)=1
 ·rw [if_pos c1] at h
  rw [h]
  have:(storeJ E y.2 (curS scs) (varIx (curS scs).locs (nameAt E.p k)) k (curS scs).chain).items.length=y.2.items.length+1:=by unfold storeJ incJ emitJ;simp
  omega
 rw [if_neg c1] at h
 by_cases c2:lkZ E.p (k:Int)=2
 ·rw [if_pos c2] at h
  rw [h,emitJ_len];omega
 rw [if_neg c2] at h
 by_cases c6:lkZ E.p (k:Int)=6
 ·rw [if_pos c6] at h
  rw [h,ll];omega
 rw [if_neg c6] at h;rw [h,jl];omega
theorem ll_step {E:CmpE} (ho:OkI E.p) {n:Nat} (he:LE E n) (hl:LL E n):LL E (n+1):=by
 intro scs k dd t z d h hs hfk;obtain ⟨hfl,hf0,hfe,hel,_⟩:=fun_parts ho hs.1
 by_cases hke:(k:Int)≤beZ E.p ((curS scs).f:Int)
 ·obtain ⟨R,h1,h2⟩:=line_inv rfl h hke
  have hR:=ll_line ho he hs hfk hke h1;have hR:R.items.length≤max t.items.length (capC d)+22:=hR;have h3:=hl _ _ _ _ _ d h2 hs (by omega);omega
 ·have:=lines_end rfl h (by omega)
  rw [this]
  show (applyJ _ _ _ _).length≤_
  rw [apply_length];omega
theorem len_all {E:CmpE} (ho:OkI E.p):∀ n,LE E n∧LA E n∧LL E n:=by
 intro n
 induction n with
 | zero=>exact ⟨fun scs k i t z d q h=>(by simp [cmiF] at h),fun scs k i m t z d q h=>(by simp [cmiF] at h),fun scs k dd t z d h=>(by simp [cmiF] at h)⟩
 | succ n ih=>exact ⟨le_step ho ih.2.1 ih.2.2,la_step ih.1 ih.2.1,ll_step ho ih.1 ih.2.2⟩
theorem top_len {E:CmpE} (ho:OkI E.p) (hi:E.inl≤3) {g:Nat} (hg:g ∈ funs E.p) {n:Nat} {z:Nat×CiS} (h:cmiF E n (.lines [topSc E.p g] (g+1) E.words) (topJ E g)=some z):z.2.items.length≤3000:=by
 have h1:=(len_all ho n).2.2 [topSc E.p g] (g+1) E.words (topJ E g) z E.inl h ⟨hg,by simp,by simp;omega,rfl⟩ (Nat.lt_succ_self g);have e:(topJ E g).items.length=1:=by rw [(topJ_items E g).1];exact (topJ_items E g).2
 have hb:=beZ_lt E.p (g:Int);have h60:=ho.1.1;have h1:z.2.items.length≤max (topJ E g).items.length (capC E.inl)+22*((beZ E.p (g:Int)).toNat+1 - (g+1)):=h1;have hc:capC E.inl≤815:=by
  have h3:E.inl=0∨E.inl=1∨E.inl=2∨E.inl=3:=by omega
  rcases h3 with h3|h3|h3|h3 <;> rw [h3] <;> decide
 omega
end Go.Proofs.YtcflojdkaddemaaGreatDoor

namespace Go.Proofs.YtcflojdkaddemaaGreatDoor
open Go.RowKit Go.Lib
def OpA (x:ItL):Prop:=(x.code=10∨x.code=11)∨insB ⟨x.code,x.arg⟩=true
theorem insB_of {c a lo hi:Int} (hc:codeB c=true) (h1:loZ c=lo) (h2:hiZ c=hi) (h3:lo≤a) (h4:a≤hi):insB ⟨c,a⟩=true:=by
 unfold insB;dsimp only;rw [hc,h1,h2,decide_eq_true h3,decide_eq_true h4];rfl
def Cd (t z:CiS):Prop:=(t.items.map (·.code)) <+: (z.items.map (·.code))
theorem Cd.refl (t:CiS):Cd t t:=List.prefix_refl _
theorem Cd.trans {a b c:CiS} (h:Cd a b) (h':Cd b c):Cd a c:=List.IsPrefix.trans h h'
def JP (t:CiS):Prop:=∀ j ∈ t.jumps,(t.items.map (·.code))[j.1]?=some 10∨(t.items.map (·.code))[j.1]?=some 11
theorem JP.keep {t z:CiS} (h:JP t) (hc:Cd t z) (hj:z.jumps=t.jumps):JP z:=by
 intro j hm;rw [hj] at hm;have key:∀ v,(t.items.map (·.code))[j.1]?=some v→(z.items.map (·.code))[j.1]?=some v:=fun v e=>by
  obtain ⟨r,hr⟩:=hc;rw [← hr,List.getElem?_append_left (List.getElem?_eq_some_iff.1 e).1];exact e
 rcases h j hm with h|h
 ·exact .inl (key _ h)
 ·exact .inr (key _ h)
def OA (E:CmpE) (t:CiS):Prop:=(∀ x ∈ t.items,OpA x)∧1≤t.items.length∧∀ x ∈ t.items.drop 1,lkZ E.p (x.line:Int)≠0
structure EnvB (E:CmpE):Prop where
 w0:0≤E.words
 w1:E.words≤100
 ar:E.args≤4
 il:E.inl≤3
def ScN9 (E:CmpE) (scs:List ScL) (d:Nat):Prop:=ScD E scs d∧(curS scs).locs.length≤8∧((curS scs).outer=false→(curS scs).first+(curS scs).locs.length≤8*scs.length)
theorem oa_emit {E:CmpE} {t:CiS} {code arg:Int} {k:Nat} {chain:List Nat} (hk0:lkZ E.p (k:Int)≠0) (h:OA E t) (ha:(code=10∨code=11)∨insB ⟨code,arg⟩=true):OA E (emitJ E t code arg k chain)∧Cd t (emitJ E t code arg k chain):=by
 obtain ⟨h1,h2,h3⟩:=h;refine ⟨⟨fun x hx=>?_,by rw [emitJ_len];omega,fun x hx=>?_⟩,?_⟩
 ·unfold emitJ at hx
  rcases List.mem_append.1 hx with hx|hx
  ·exact h1 x hx
  ·rw [List.mem_singleton] at hx
   rw [hx];exact ha
 ·unfold emitJ at hx
  dsimp only at hx;rw [List.drop_append_of_le_length h2] at hx
  rcases List.mem_append.1 hx with hx|hx
  ·exact h3 x hx
  ·rw [List.mem_singleton] at hx
   rw [hx];exact hk0
 ·unfold Cd emitJ
  dsimp only;rw [List.map_append];exact List.prefix_append _ _
theorem place_ins {E:CmpE} (he:EnvB E) {scs:List ScL} {d0:Nat} (hs:ScN9 E scs d0) {d:Int} (h0:0≤d) (h1:d≤1000) {i:Nat} (hi:i≤(curS scs).locs.length) :
  insB ⟨(placeZ E d (curS scs) i).1,(placeZ E d (curS scs) i).2⟩=true∧insB ⟨(placeZ E d (curS scs) i).1+1,(placeZ E d (curS scs) i).2⟩=true:=by
 have h4:=he.ar;have hl:scs.length≤4:=by have:=hs.1.2.2.1;have:=he.il;omega
 obtain ⟨_,s1,s2⟩:=hs;have two:∀ a:Int,-32768≤a→a≤32767→insB ⟨1,a⟩=true∧insB ⟨1+1,a⟩=true:=fun a a0 a1=>⟨insB_of (by decide) (by decide) (by decide) a0 a1,insB_of (by decide) (by decide) (by decide) a0 a1⟩
 have two3:∀ a:Int,-32768≤a→a≤32767→insB ⟨3,a⟩=true∧insB ⟨3+1,a⟩=true:=fun a a0 a1=>⟨insB_of (by decide) (by decide) (by decide) a0 a1,insB_of (by decide) (by decide) (by decide) a0 a1⟩
 unfold placeZ
 split
 ·split
  ·exact two _ (by omega) (by omega)
  ·exact two3 _ (by omega) (by omega)
 ·dsimp only
  have hab:(if (curS scs).outer=true then i - E.args else (curS scs).first+i)≤40:=by
   split
   ·omega
   ·rename_i ho
    have:=s2 (by simpa using ho)
    omega
  generalize (if (curS scs).outer=true then i - E.args else (curS scs).first+i)=ab at *
  split
  ·exact two _ (by omega) (by omega)
  ·exact two3 _ (by omega) (by omega)
theorem varIx_le (L:List ByteArray) (n:ByteArray):varIx L n≤L.length:=List.findIdx_le_length
structure Aft (E:CmpE) (t z:CiS):Prop where
 cd:Cd t z
 oa:OA E z
 us:z.used≤max t.used (8*(E.inl+1))
def OE (E:CmpE) (n:Nat):Prop:=∀ scs k i t z d q,cmiF E n (.expr scs k i) t=some z→ScN9 E scs d→Kn E scs k→scanN ((exprAt E.p k).drop i) 1=some q→(exprAt E.p k).length≤20→lkZ E.p (k:Int)≠0→0≤t.depth→t.depth≤E.words+100*(scs.length:Int)+(i:Int)→OA E t →
 z.1=i+q∧z.2.depth=t.depth+1∧z.2.jumps=t.jumps∧Aft E t z.2
def OAr (E:CmpE) (n:Nat):Prop:=∀ scs k i m t z d q,cmiF E n (.args scs k i m) t=some z→ScN9 E scs d→Kn E scs k→scanN ((exprAt E.p k).drop i) m=some q→(exprAt E.p k).length≤20→lkZ E.p (k:Int)≠0→0≤t.depth→t.depth≤E.words+100*(scs.length:Int)+(i:Int)→OA E t →
 z.1=i+q∧z.2.depth=t.depth+(m:Int)∧z.2.jumps=t.jumps∧Aft E t z.2
def OL9 (E:CmpE) (n:Nat):Prop:=∀ scs k dd t z d,cmiF E n (.lines scs k dd) t=some z→ScN9 E scs d→(curS scs).f<k→0≤dd→dd≤E.words+100*(scs.length:Int)→OA E t→JP t→Aft E t z.2
theorem oar_step {E:CmpE} {n:Nat} (he:OE E n) (ha:OAr E n):OAr E (n+1):=by
 intro scs k i m t z d q h hs hk hq h20 hk0 hd0 hd1 ho
 cases m with
 | zero =>
  rw [cmiF] at h;obtain rfl:=Option.some.inj h;have hq0:q=0:=by cases hd:(exprAt E.p k).drop i <;> rw [hd,scanN] at hq <;> exact (Option.some.inj hq).symm
  subst hq0;exact ⟨rfl,by simp,rfl,Cd.refl _,ho,Nat.le_max_left _ _⟩
 | succ m =>
  rw [cmiF] at h;obtain ⟨y,h1,h2⟩:=cbind h;obtain ⟨q1,q2,s1,s2,rfl⟩:=scan_next _ _ _ _ hq;obtain ⟨_,_,q',hq',_⟩:=scan_one _ _ _ s1;obtain ⟨a1,a2,a3,a4⟩:=he _ _ _ _ _ _ _ h1 hs hk s1 h20 hk0 hd0 hd1 ho;rw [a1] at h2;obtain ⟨b1,b2,b3,b4⟩:=ha _ _ _ _ _ _ _ _ h2 hs hk s2 h20 hk0 (by omega) (by omega) a4.oa;exact ⟨by omega,by rw [b2,a2];omega,b3.trans a3,a4.cd.trans b4.cd,b4.oa,by have:=a4.us;have:=b4.us;omega⟩
theorem oa_store {E:CmpE} (he:EnvB E) {scs:List ScL} {d0:Nat} (hs:ScN9 E scs d0) {t:CiS} (h0:0≤t.depth) (h1:t.depth≤1000) {i:Nat} (hi:i≤(curS scs).locs.length) (k:Nat) (chain:List Nat) (hk0:lkZ E.p (k:Int)≠0) (ho:OA E t):OA E (storeJ E t (curS scs) i k chain)∧Cd t (storeJ E t (curS scs) i k chain) :=
 oa_emit hk0 ho (.inr (place_ins he hs h0 h1 hi).2)
theorem oa_num {E:CmpE} {t:CiS} {v:Int} (h0:0≤v) (h1:v≤1000) (k:Nat) (chain:List Nat) (hk0:lkZ E.p (k:Int)≠0) (ho:OA E t):OA E (numJ E t v k chain)∧Cd t (numJ E t v k chain) :=
 oa_emit hk0 ho (.inr (insB_of (lo:=-2147483648) (hi:=2147483647) (by decide) (by decide) (by decide) (by omega) (by omega)))
theorem oa_stores {E:CmpE} (he:EnvB E) {scs:List ScL} {d0:Nat} (hs:ScN9 E scs d0) (k:Nat) (chain:List Nat) (hk0:lkZ E.p (k:Int)≠0):∀ (n:Nat) (t:CiS),n≤(curS scs).locs.length→(n:Int)≤t.depth→t.depth≤1000→OA E t→OA E (storesJ E (curS scs) k chain n t)∧Cd t (storesJ E (curS scs) k chain n t):=by
 intro n
 induction n with
 | zero=>intro t _ _ _ ho;exact ⟨ho,Cd.refl _⟩
 | succ n ih =>
  intro t hn h0 h1 ho;obtain ⟨a,b⟩:=oa_store he hs (i:=n) (by omega) h1 (by omega) k chain hk0 ho;have e:(storeJ E t (curS scs) n k chain).depth=t.depth+-1:=rfl;obtain ⟨c,f⟩:=ih (storeJ E t (curS scs) n k chain) (by omega) (by omega) (by omega) a;exact ⟨c,b.trans f⟩
theorem oa_zeros {E:CmpE} (he:EnvB E) {scs:List ScL} {d0:Nat} (hs:ScN9 E scs d0) (k:Nat) (chain:List Nat) (hk0:lkZ E.p (k:Int)≠0):∀ (m i:Nat) (t:CiS),i+m≤(curS scs).locs.length→0≤t.depth→t.depth≤900→OA E t→OA E (zerosJ E (curS scs) k chain m i t)∧Cd t (zerosJ E (curS scs) k chain m i t):=by
 intro m
 induction m with
 | zero=>intro i t _ _ _ ho;exact ⟨ho,Cd.refl _⟩
 | succ m ih =>
  intro i t hn h0 h1 ho;obtain ⟨a,b⟩:=oa_num (E:=E) (v:=0) (by omega) (by omega) k chain hk0 ho;have e1:(numJ E t 0 k chain).depth=t.depth+1:=rfl;obtain ⟨a2,b2⟩:=oa_store he hs (i:=i) (by omega) (by omega) (by omega) k chain hk0 a;have e:(storeJ E (numJ E t 0 k chain) (curS scs) i k chain).depth=t.depth+1+-1:=rfl;obtain ⟨c,f⟩:=ih (i+1) (storeJ E (numJ E t 0 k chain) (curS scs) i k chain) (by omega) (by omega) (by omega) a2;exact ⟨c,b.trans (b2.trans f)⟩
theorem arN_7 (t:TokL) (h7:t.kind=7) (h:tokB t=true):(arN t:Int)=t.num∧t.num≤4:=by
 have h2:=h;unfold tokB at h2;rw [if_neg (by omega),if_neg (by omega),if_pos h7] at h2;simp only [Bool.and_eq_true,decide_eq_true_eq] at h2;unfold arN arZ;rw [if_pos h,if_neg (by omega),if_pos h7];omega
theorem arN_le (t:TokL) (h:tokB t=true):arN t≤4:=by
 by_cases h7:t.kind=7
 ·have:=arN_7 t h7 h;omega
 ·unfold arN arZ
  rw [if_pos h,if_neg h7]
  split <;> decide
theorem ScN9.new {E:CmpE} (hok:OkI E.p) {scs:List ScL} {d g k:Nat} (hs:ScN9 E scs (d+1)) (hg:g ∈ funs E.p):ScN9 E (newSc E (curS scs) g k :: scs) d:=by
 obtain ⟨⟨s1,s2,s3,s4⟩,s5,s6⟩:=hs;have h8:(newSc E (curS scs) g k).locs.length≤8:=loc_len hok hg;refine ⟨⟨hg,by simp,by rw [List.length_cons];omega,rfl⟩,h8,fun _=>?_⟩;have hf:(newSc E (curS scs) g k).first≤8*scs.length:=by
  show (if (curS scs).outer=true then (curS scs).locs.length - E.args else (curS scs).first+(curS scs).locs.length)≤_
  split
  ·omega
  ·rename_i ho
   exact s6 (by simpa using ho)
 rw [List.length_cons]
 show (newSc E (curS scs) g k).first+(newSc E (curS scs) g k).locs.length≤_
 omega
theorem oa_enter {E:CmpE} (hok:OkI E.p) (he:EnvB E) {scs:List ScL} {d g k:Nat} (hs:ScN9 E scs (d+1)) (hg:g ∈ funs E.p) {t:CiS} (hk0:lkZ E.p (k:Int)≠0) (h0:((argsZ E.p (g:Int)).length:Int)≤t.depth) (h1:t.depth≤900) (ho:OA E t) :
  Aft E t (enterJ E (curS scs) (newSc E (curS scs) g k) k t):=by
 have hn:=hs.new hok (k:=k) hg;obtain ⟨_,ha,hpre,h4,_⟩:=loc_args hok hg;have hlen:(argsZ E.p (g:Int)).length≤(newSc E (curS scs) g k).locs.length:=by rw [ha];exact hpre.length_le
 have hused:=(onw_enter E (curS scs) (newSc E (curS scs) g k) k t).2.1;have hfs:(newSc E (curS scs) g k).first+(newSc E (curS scs) g k).locs.length≤8*(scs.length+1):=hn.2.2 rfl;have hsl:scs.length+1≤E.inl+1:=by have:=hs.1.2.2.1;omega
 have us:(enterJ E (curS scs) (newSc E (curS scs) g k) k t).used≤max t.used (8*(E.inl+1)):=by rw [hused];omega
 refine ⟨?_,?_,us⟩
 all_goals
  unfold enterJ;dsimp only;obtain ⟨m,hm⟩:∃ m,(argsZ E.p ((newSc E (curS scs) g k).f:Int)).length=m:=⟨_,rfl⟩;have hm':(argsZ E.p (g:Int)).length=m:=hm;rw [hm'] at h0 hlen;rw [hm];obtain ⟨t1,ht1⟩:∃ x:CiS,{ t with used:=max t.used ((newSc E (curS scs) g k).first+(newSc E (curS scs) g k).locs.length) }=x:=⟨_,rfl⟩;have e1:t1.depth=t.depth:=by rw [← ht1]
  have o1:OA E t1:=by rw [← ht1];exact ho
  have c1:Cd t t1:=by rw [← ht1];exact Cd.refl _
  rw [ht1];obtain ⟨a1,b1⟩:=oa_stores (scs:=newSc E (curS scs) g k :: scs) he hn k (curS scs).chain hk0 m t1 hlen (by omega) (by omega) o1;have d1:=(onw_stores E (newSc E (curS scs) g k) k (curS scs).chain m t1).2.1;obtain ⟨a2,b2⟩:=oa_zeros (scs:=newSc E (curS scs) g k :: scs) he hn k (curS scs).chain hk0 ((newSc E (curS scs) g k).locs.length - m) m (storesJ E (newSc E (curS scs) g k) k (curS scs).chain m t1) (by show m+((newSc E (curS scs) g k).locs.length - m)≤(newSc E (curS scs) g k).locs.length;omega) (by rw [d1];omega) (by rw [d1];omega) a1;obtain ⟨t2,ht2⟩:∃ x,zerosJ E (newSc E (curS scs) g k) k (curS scs).chain ((newSc E (curS scs) g k).locs.length - m) m (storesJ E (newSc E (curS scs) g k) k (curS scs).chain m t1)=x:=⟨_,rfl⟩;have a2:OA E (zerosJ E (newSc E (curS scs) g k) k (curS scs).chain ((newSc E (curS scs) g k).locs.length - m) m (storesJ E (newSc E (curS scs) g k) k (curS scs).chain m t1)):=a2;have b2:Cd _ (zerosJ E (newSc E (curS scs) g k) k (curS scs).chain ((newSc E (curS scs) g k).locs.length - m) m (storesJ E (newSc E (curS scs) g k) k (curS scs).chain m t1)):=b2;rw [ht2] at a2 b2 ⊢;have hsp:OA E (spaceJ E k (curS scs).chain t2)∧Cd t2 (spaceJ E k (curS scs).chain t2):=by
   unfold spaceJ
   split
   ·exact oa_emit hk0 a2 (.inr (insB_of (lo:=0) (hi:=255) (by decide) (by decide) (by decide) (by omega) (by omega)))
   ·exact ⟨a2,Cd.refl _⟩
 ·exact c1.trans (b1.trans (b2.trans hsp.2))
 ·exact hsp.1
theorem oe_step {E:CmpE} (hok:OkI E.p) (hE:EnvB E) {n:Nat} (ha:OAr E n) (hl:OL9 E n):OE E (n+1):=by
 intro scs k i t z d q h hs hk hq h20 hk0 hd0 hd1 ho;obtain ⟨hi,htb,q',rfl,hq'⟩:=scan_one _ _ _ hq;have htk:=tokAt_get E.p k i hi;have hsl:scs.length≤4:=by have:=hs.1.2.2.1;have:=hE.il;omega
 have hw:=hE.w1;rw [cmiF] at h;obtain ⟨y,h1,h2⟩:=cbind h;dsimp only at h2;rw [htk] at h1 h2;obtain ⟨a1,a2,a3,a4⟩:=ha _ _ _ _ _ _ _ _ h1 hs hk hq' h20 hk0 hd0 (by omega) ho;have har:arN (exprAt E.p k)[i]≤4:=arN_le _ htb;have fin:∀ code arg,((code=10∨code=11)∨insB ⟨code,arg⟩=true)→y.1=i+(q'+1)∧t.depth+1=t.depth+1∧(emitJ E y.2 code arg k (curS scs).chain).jumps=t.jumps∧Aft E t { emitJ E y.2 code arg k (curS scs).chain with depth:=t.depth+1 }:=fun code arg hc=>by
  obtain ⟨e1,e2⟩:=oa_emit (E:=E) (k:=k) (chain:=(curS scs).chain) hk0 a4.oa hc;exact ⟨by omega,rfl,a3,a4.cd.trans e2,e1,a4.us⟩
 have htb2:=htb;unfold tokB at htb2
 by_cases c0:((exprAt E.p k)[i]).kind=0
 ·rw [if_pos c0] at h2 htb2;obtain rfl:=Option.some.inj h2
  simp only [Bool.and_eq_true,decide_eq_true_eq] at htb2;exact fin _ _ (.inr (insB_of (lo:=-2147483648) (hi:=2147483647) (by decide) (by decide) (by decide) (by omega) (by omega)))
 rw [if_neg c0] at h2 htb2
 by_cases c1:((exprAt E.p k)[i]).kind=1
 ·rw [if_pos c1] at h2;obtain rfl:=Option.some.inj h2
  exact fin _ _ (.inr (place_ins hE hs (by rw [a2];omega) (by rw [a2];omega) (varIx_le _ _)).1)
 rw [if_neg c1] at h2 htb2
 by_cases c7:((exprAt E.p k)[i]).kind=7
 ·rw [if_pos c7] at h2
  obtain ⟨g,hg⟩:∃ g,(findZ E.p ((exprAt E.p k)[i]).name).toNat=g:=⟨_,rfl⟩;rw [hg] at h2;have hkn:=(hk _ (List.getElem_mem hi)).2 c7;have hgf:g ∈ funs E.p:=findZ_fun E.p ((exprAt E.p k)[i]).name g (by omega)
  by_cases hr:replJ E scs y.2.items.length g=true
  ·rw [if_pos hr] at h2
   obtain ⟨r1,r2,r3,r4⟩:=replJ_lt hr
   cases hx:cmiF E n (.lines (newSc E (curS scs) g k :: scs) (g+1) (enterJ E (curS scs) (newSc E (curS scs) g k) k y.2).depth) { enterJ E (curS scs) (newSc E (curS scs) g k) k y.2 with jumps:=[],firsts:=[],pend:=false } with
   | none=>rw [hx] at h2;cases h2
   | some p =>
    rw [hx] at h2;obtain rfl:=Option.some.inj h2;have hd':=hs.1.2.2.1;obtain ⟨d',rfl⟩:∃ d',d=d'+1:=⟨d - 1,by omega⟩;have hna:((argsZ E.p (g:Int)).length:Int)=(arN (exprAt E.p k)[i]:Int):=by
     have e:(g:Int)=findZ E.p ((exprAt E.p k)[i]).name:=by omega
     rw [e,hkn.2,(arN_7 _ c7 htb).1]
    have hen:=oa_enter hok hE hs hgf (k:=k) (t:=y.2) hk0 (by rw [a2];omega) (by rw [a2];omega) a4.oa;have hde:(enterJ E (curS scs) (newSc E (curS scs) g k) k y.2).depth=y.2.depth - ((argsZ E.p (g:Int)).length:Int):=(onw_enter E (curS scs) (newSc E (curS scs) g k) k y.2).2.2.2.2.1;have hb:=hl _ _ _ _ _ d' hx (hs.new hok hgf) (Nat.lt_succ_self g) (by rw [hde,a2];omega) (by rw [hde,a2,List.length_cons];omega) hen.oa (fun j hj=>by cases hj);have hu1:p.2.used≤max (enterJ E (curS scs) (newSc E (curS scs) g k) k y.2).used (8*(E.inl+1)):=hb.us;have hc1:Cd (enterJ E (curS scs) (newSc E (curS scs) g k) k y.2) p.2:=hb.cd;exact ⟨by show y.1=_;omega,rfl,a3,a4.cd.trans (hen.cd.trans hc1),hb.oa,by show p.2.used≤_;have:=a4.us;have:=hen.us;omega⟩
  ·rw [if_neg hr] at h2;obtain rfl:=Option.some.inj h2
   refine fin _ _ (.inr (insB_of (lo:=0) (hi:=255) (by decide) (by decide) (by decide) ?_ ?_))
   ·unfold funNo;omega
   ·unfold funNo
    have h60:=hok.1.1
    have:=List.length_filter_le (fun x:PLine=>decide (x.kind=0)) (E.p.take g)
    have h2:(E.p.take g).length≤E.p.length:=by rw [List.length_take];omega
    omega
 ·rw [if_neg c7] at h2 htb2;obtain rfl:=Option.some.inj h2
  simp only [Bool.and_eq_true,decide_eq_true_eq] at htb2;obtain ⟨b0,b1,_⟩:=htb2;generalize ((exprAt E.p k)[i]).kind=kd at *;have h5:kd=2∨kd=3∨kd=4∨kd=5∨kd=6:=by omega
  exact fin _ _ (.inr (by rcases h5 with rfl|rfl|rfl|rfl|rfl <;> decide))
theorem jp_jump {E:CmpE} {t:CiS} (c:Int) (l k:Nat) (ch:List Nat) (hk0:lkZ E.p (k:Int)≠0) (hc:c=10∨c=11) (ho:OA E t) (hj:JP t):OA E (jumpJ E t c l k ch)∧Cd t (jumpJ E t c l k ch)∧JP (jumpJ E t c l k ch):=by
 obtain ⟨a,b⟩:=oa_emit (E:=E) (k:=k) (chain:=ch) (arg:=0) hk0 ho (.inl hc);refine ⟨a,b,fun j hm=>?_⟩;have hm':j ∈ t.jumps++[(t.items.length,l)]:=hm
 rcases List.mem_append.1 hm' with h|h
 ·exact (JP.keep (z:=emitJ E t c 0 k ch) hj b rfl) j h
 ·rw [List.mem_singleton] at h
  rw [h];have e:((jumpJ E t c l k ch).items.map (·.code))[t.items.length]?=some c:=by
   unfold jumpJ emitJ;dsimp only;rw [List.map_append,List.getElem?_append_right (by rw [List.length_map];exact Nat.le_refl _),List.length_map,Nat.sub_self];rfl
  rcases hc with rfl|rfl
  ·exact .inl e
  ·exact .inr e
theorem apply_cd (f:Nat) (F:List Nat):∀ (J:List (Nat×Nat)) (l:List ItL),(applyJ f F J l).map (·.code)=l.map (·.code):=by
 intro J;unfold applyJ
 induction J with
 | nil=>intro l;rfl
 | cons j r ih =>
  intro l;rw [List.foldl_cons,ih];apply List.ext_getElem?;intro i;rw [List.getElem?_map,List.getElem?_map,setArg_at]
  split
  ·cases l[i]? with
   | none=>rfl
   | some x=>rfl
  ·rfl
theorem apply_oa (f:Nat) (F:List Nat):∀ (J:List (Nat×Nat)) (l:List ItL),(∀ x ∈ l,OpA x)→(∀ j ∈ J,(l.map (·.code))[j.1]?=some 10∨(l.map (·.code))[j.1]?=some 11)→∀ x ∈ applyJ f F J l,OpA x:=by
 intro J
 induction J with
 | nil=>intro l ho _;exact ho
 | cons j r ih =>
  intro l ho hj;have hc:(setArg l j.1 (firstJ f F j.2)).map (·.code)=l.map (·.code):=apply_cd f F [j] l;refine ih (setArg l j.1 (firstJ f F j.2)) (fun x hx=>?_) (fun i hi=>by rw [hc];exact hj i (List.mem_cons_of_mem _ hi));obtain ⟨i,hi⟩:=List.mem_iff_getElem?.1 hx;rw [setArg_at] at hi
  split at hi
  ·rename_i e
   have h:=hj j (List.mem_cons_self ..);rw [← e] at h;rw [List.getElem?_map] at h
   cases hl:l[i]? with
   | none=>rw [hl] at hi;cases hi
   | some y =>
    rw [hl] at hi h;have hi':argI (firstJ f F j.2) y=x:=Option.some.inj hi;rw [← hi']
    rcases h with h|h
    ·exact .inl (.inl (Option.some.inj h))
    ·exact .inl (.inr (Option.some.inj h))
  ·exact ho x (List.mem_of_getElem? hi)
theorem apply_ln (f:Nat) (F:List Nat):∀ (J:List (Nat×Nat)) (l:List ItL),(applyJ f F J l).map (·.line)=l.map (·.line):=by
 intro J;unfold applyJ
 induction J with
 | nil=>intro l;rfl
 | cons j r ih =>
  intro l;rw [List.foldl_cons,ih];apply List.ext_getElem?;intro i;rw [List.getElem?_map,List.getElem?_map,setArg_at]
  split
  ·cases l[i]? with
   | none=>rfl
   | some x=>rfl
  ·rfl
theorem apply_drop {E:CmpE} (f:Nat) (F:List Nat) (J:List (Nat×Nat)) (l:List ItL) (h:∀ x ∈ l.drop 1,lkZ E.p (x.line:Int)≠0):∀ x ∈ (applyJ f F J l).drop 1,lkZ E.p (x.line:Int)≠0:=by
 intro x hx;have hm:x.line ∈ ((applyJ f F J l).drop 1).map (·.line):=List.mem_map.2 ⟨x,hx,rfl⟩;rw [List.map_drop,apply_ln,← List.map_drop] at hm;obtain ⟨y,hy,e⟩:=List.mem_map.1 hm;rw [← e];exact h y hy
theorem oa_leave {E:CmpE} (hE:EnvB E) {t:CiS} (sc:ScL) (k:Nat) (hk0:lkZ E.p (k:Int)≠0) (ho:OA E t) (hj:JP t):OA E (leaveJ E t sc k)∧Cd t (leaveJ E t sc k)∧JP (leaveJ E t sc k):=by
 have h1:=hE.w0;have h2:=hE.w1;have h3:=hE.ar;unfold leaveJ
 split
 ·exact jp_jump 10 _ k sc.chain hk0 (.inl rfl) ho hj
 ·split
  ·obtain ⟨a,b⟩:=oa_emit (E:=E) (k:=k) (chain:=sc.chain) hk0 ho (.inr (insB_of (c:=14) (a:=(E.args:Int)) (lo:=0) (hi:=255) (by decide) (by decide) (by decide) (by omega) (by omega)))
   exact ⟨a,b,JP.keep hj b rfl⟩
  ·obtain ⟨a,b⟩:=oa_emit (E:=E) (k:=k) (chain:=sc.chain) hk0 ho (.inr (insB_of (c:=16) (a:=(E.args:Int)+16*E.words) (lo:=0) (hi:=65535) (by decide) (by decide) (by decide) (by omega) (by omega)))
   exact ⟨a,b,JP.keep hj b rfl⟩
theorem leaveJ_used (E:CmpE) (t:CiS) (sc:ScL) (k:Nat):(leaveJ E t sc k).used=t.used:=by
 unfold leaveJ
 split
 ·rfl
 ·split <;> rfl
theorem ol_line {E:CmpE} (hok:OkI E.p) (hE:EnvB E) {n:Nat} (he:OE E n) {scs:List ScL} {k d:Nat} {t R:CiS} (hs:ScN9 E scs d) (hfk:(curS scs).f<k) (hke:(k:Int)≤beZ E.p ((curS scs).f:Int)) (h:LineTo E n scs (curS scs) k t R) (hd0:0≤t.depth) (hd1:t.depth≤E.words+100*(scs.length:Int)) (ho:OA E t) (hj:JP t):Aft E t R∧JP R:=by
 have hs0:=hs;obtain ⟨⟨s1,s2,s3,s4⟩,_,_⟩:=hs;obtain ⟨hfl,hf0,hfe,hel,_⟩:=fun_parts hok s1;have h0:0≤beZ E.p ((curS scs).f:Int):=by omega
 have hk:k<E.p.length:=by omega
 have hlk:=lkZ_at E.p k hk;have hsl:scs.length≤4:=by have:=hE.il;omega
 have hw:=hE.w1;have hk0:lkZ E.p (k:Int)≠0:=by
  rcases Int.lt_or_le (k:Int) (beZ E.p ((curS scs).f:Int)) with h'|h'
  ·have:=(kinds_in hok s1 hfk h' hk).1
   rw [hlk];omega
  ·rw [show (k:Int)=beZ E.p ((curS scs).f:Int) from by omega,beZ_7 E.p _ h0];decide
 have mk:∀ {R':CiS},(OA E R'∧Cd t R'∧JP R')→R'.used=t.used→Aft E t R'∧JP R':=fun q e=>⟨⟨q.2.1,q.1,by rw [e];exact Nat.le_max_left _ _⟩,q.2.2⟩
 obtain ⟨n1,n2⟩:=oa_num (E:=E) (v:=0) (by omega) (by omega) k (curS scs).chain hk0 ho;have n3:JP (numJ E t 0 k (curS scs).chain):=JP.keep hj n2 rfl;unfold LineTo at h
 by_cases h4:lkZ E.p (k:Int)=4
 ·rw [if_pos h4] at h
  rw [h];exact mk (jp_jump 10 _ k _ hk0 (.inl rfl) ho hj) rfl
 rw [if_neg h4] at h
 by_cases h7:lkZ E.p (k:Int)=7
 ·rw [if_pos h7] at h
  split at h
  ·rw [h]
   split
   ·obtain ⟨a,b,c⟩:=oa_leave hE (curS scs) k hk0 n1 n3
    exact mk ⟨a,n2.trans b,c⟩ (leaveJ_used ..)
   ·exact mk ⟨n1,n2,n3⟩ rfl
  ·split at h
   ·rw [h]
    exact mk (jp_jump 10 _ k _ hk0 (.inl rfl) ho hj) rfl
   ·rw [h];exact mk ⟨ho,Cd.refl _,hj⟩ rfl
 rw [if_neg h7] at h;obtain ⟨y,hy,h⟩:=h;have hlt:(k:Int)<beZ E.p ((curS scs).f:Int):=by
  rcases Int.lt_or_le (k:Int) (beZ E.p ((curS scs).f:Int)) with h'|h'
  ·exact h'
  ·have:=beZ_7 E.p ((curS scs).f:Int) h0
   rw [show beZ E.p ((curS scs).f:Int)=(k:Int) from by omega] at this;omega
 have hlb:=hok.1.2 _ (List.getElem_mem hk);have hkd:=kinds_in hok s1 hfk hlt hk;have hex:exprB E.p[k].expr=true:=by
  have:=((lineB_iff _).1 hlb).2.2.2
  have hk2:exprK E.p[k].kind=true:=by
   unfold exprK;rw [hlk] at h4 h7;rw [decide_eq_false (show ¬ E.p[k].kind=0 by omega),decide_eq_false h4,decide_eq_false h7];rfl
  rw [hk2] at this;exact this
 have hea:=exprAt_get E.p k hk;have hl20:=(expr_len _ hex).2;obtain ⟨_,y2,y3,y4⟩:=he _ _ _ _ _ d _ hy hs0 (fun u hu=>by rw [s4];rw [hea] at hu;exact line_in hok s1 hfk hlt hk u hu) (by rw [hea,List.drop_zero];exact expr_scan _ hex) (by rw [hea];exact hl20) hk0 hd0 (by show t.depth≤_;omega) ho;have y2:y.2.depth=t.depth+1:=y2;have yj:JP y.2:=JP.keep (t:={ t with pend:=true }) hj y4.cd y3;have yc:Cd t y.2:=y4.cd;have yu:y.2.used≤max t.used (8*(E.inl+1)):=y4.us;have mk2:∀ {R':CiS},(OA E R'∧Cd y.2 R'∧JP R')→R'.used=y.2.used→Aft E t R'∧JP R':=fun q e=>⟨⟨yc.trans q.2.1,q.1,by rw [e];exact yu⟩,q.2.2⟩
 by_cases c1:lkZ E.p (k:Int)=1
 ·rw [if_pos c1] at h
  rw [h];obtain ⟨a,b⟩:=oa_store hE hs0 (t:=y.2) (i:=varIx (curS scs).locs (nameAt E.p k)) (by omega) (by omega) (varIx_le _ _) k (curS scs).chain hk0 y4.oa;exact mk2 ⟨a,b,JP.keep yj b rfl⟩ rfl
 rw [if_neg c1] at h
 by_cases c2:lkZ E.p (k:Int)=2
 ·rw [if_pos c2] at h
  rw [h];obtain ⟨a,b⟩:=oa_emit (E:=E) (k:=k) (chain:=(curS scs).chain) hk0 y4.oa (.inr (show insB ⟨17,0⟩=true by decide));exact mk2 ⟨a,b,JP.keep yj b rfl⟩ rfl
 rw [if_neg c2] at h
 by_cases c6:lkZ E.p (k:Int)=6
 ·rw [if_pos c6] at h
  rw [h];exact mk2 (oa_leave hE (curS scs) k hk0 y4.oa yj) (leaveJ_used ..)
 rw [if_neg c6] at h;rw [h];exact mk2 (jp_jump 11 _ k _ hk0 (.inr rfl) y4.oa yj) rfl
theorem ol_step {E:CmpE} (hok:OkI E.p) (hE:EnvB E) {n:Nat} (he:OE E n) (hl:OL9 E n):OL9 E (n+1):=by
 intro scs k dd t z d h hs hfk hd0 hd1 ho hj;obtain ⟨hfl,hf0,hfe,hel,_⟩:=fun_parts hok hs.1.1
 by_cases hke:(k:Int)≤beZ E.p ((curS scs).f:Int)
 ·obtain ⟨R,h1,h2⟩:=line_inv rfl h hke
  obtain ⟨hR,hJ⟩:=ol_line hok hE he hs hfk hke h1 hd0 hd1 ho hj;have h3:=hl _ _ _ _ _ d h2 hs (by omega) hd0 hd1 hR.oa hJ;have u1:R.used≤max t.used (8*(E.inl+1)):=hR.us;exact ⟨Cd.trans (a:=t) hR.cd h3.cd,h3.oa,by have:=h3.us;omega⟩
 ·have:=lines_end rfl h (by omega)
  rw [this];refine ⟨?_,⟨apply_oa _ _ _ _ ho.1 hj,by show 1≤(applyJ _ _ _ _).length;rw [apply_length];exact ho.2.1,apply_drop _ _ _ _ ho.2.2⟩,Nat.le_max_left _ _⟩;unfold Cd
  show _ <+: (applyJ _ _ _ _).map _
  rw [apply_cd];exact List.prefix_refl _
theorem oa_all {E:CmpE} (hok:OkI E.p) (hE:EnvB E):∀ n,OE E n∧OAr E n∧OL9 E n:=by
 intro n
 induction n with
 | zero=>exact ⟨fun scs k i t z d q h=>(by simp [cmiF] at h),fun scs k i m t z d q h=>(by simp [cmiF] at h),fun scs k dd t z d h=>(by simp [cmiF] at h)⟩
 | succ n ih=>exact ⟨oe_step hok hE ih.2.1 ih.2.2,oar_step ih.1 ih.2.1,ol_step hok hE ih.1 ih.2.2⟩
theorem headLn_kept (E:CmpE) (g:Nat):Kept E (fun l=>∃ x,l[0]?=some x∧x.line=g):=⟨fun l x h _ _ _=>by
  obtain ⟨y,h0,h1⟩:=h;exact ⟨y,by rw [List.getElem?_append_left (List.getElem?_eq_some_iff.1 h0).1];exact h0,h1⟩,
 fun l j h=>by
  obtain ⟨y,h0,h1⟩:=h
  by_cases e:0=j
  ·exact ⟨argI (l.length:Int) y,by rw [setArg_at,if_pos e,h0];rfl,h1⟩
  ·exact ⟨y,by rw [setArg_at,if_neg e];exact h0,h1⟩⟩
theorem comp_ops {p:List PLine} (ho:OkI p) {g:Nat} (hg:g ∈ funs p) {fr:Bool} {inl:Nat} (hi:inl≤3) {L:List ItL} (h:CompTo p fr inl g L):(∀ x ∈ L,OpA x)∧(∀ x ∈ L.drop 1,lkZ p (x.line:Int)≠0)∧∃ x,L[0]?=some x∧x.line=g:=by
 obtain ⟨s0,s1,h0,h1,rfl⟩:=h;obtain ⟨n0,t0,a0,b0,c0⟩:=top_same (E:=compE p fr inl 0 g) ho hg h0;obtain ⟨n1,t1,a1,b1,c1⟩:=top_same (E:=compE p fr inl (s0.most:Int) g) ho hg h1;have h8:(locZ p (g:Int)).length≤8:=loc_len ho hg;have h4:(argsZ p (g:Int)).length≤4:=by obtain ⟨_,e,_,h,_⟩:=loc_args ho hg;rw [e];exact h
 have hS:∀ w,ScN9 (compE p fr inl w g) [topSc p g] inl:=fun w=>⟨⟨hg,by simp,by show 1+inl=inl+1;omega,rfl⟩,h8,fun h=>by cases h⟩
 have hT:∀ w,0≤w→w≤100→OA (compE p fr inl w g) (topJ (compE p fr inl w g) g):=fun w w0 w1=>by
  refine ⟨fun x hx=>?_,by rw [(topJ_items _ _).1,(topJ_items _ _).2];exact Nat.le_refl _,fun x hx=>?_⟩
  ·have hx':x ∈ ([]++[_]:List ItL):=hx
   rw [List.nil_append,List.mem_singleton] at hx';rw [hx'];refine .inr ?_
   show insB ⟨if fr=true then 13 else 15,w⟩=true
   split
   ·exact insB_of (lo:=0) (hi:=255) (by decide) (by decide) (by decide) (by omega) (by omega)
   ·exact insB_of (lo:=0) (hi:=255) (by decide) (by decide) (by decide) (by omega) (by omega)
  ·have hx':x ∈ (([]++[_]:List ItL)).drop 1:=hx
   rw [List.nil_append] at hx'
   cases hx'
 have E0:EnvB (compE p fr inl 0 g):=⟨Int.le_refl _,by show (0:Int)≤100;omega,h4,hi⟩;have q0:=(oa_all (E:=compE p fr inl 0 g) ho E0 n0).2.2 _ _ _ _ _ inl a0 (hS 0) (Nat.lt_succ_self g) (Int.le_refl _) (by show (0:Int)≤0+100*((1:Nat):Int);omega) (hT 0 (Int.le_refl _) (by omega)) (fun j hj=>by cases hj);have u0:t0.used≤max ((locZ p (g:Int)).length - (argsZ p (g:Int)).length) (8*(inl+1)):=q0.us;have hm:s0.most≤32:=by rw [← c0];omega
 have E1:EnvB (compE p fr inl (s0.most:Int) g):=⟨by show (0:Int)≤(s0.most:Int);omega,by show (s0.most:Int)≤100;omega,h4,hi⟩;have q1:=(oa_all (E:=compE p fr inl (s0.most:Int) g) ho E1 n1).2.2 _ _ _ _ _ inl a1 (hS _) (Nat.lt_succ_self g) (by show (0:Int)≤(s0.most:Int);omega) (by show (s0.most:Int)≤(s0.most:Int)+100*((1:Nat):Int);omega) (hT _ (by omega) (by omega)) (fun j hj=>by cases hj);have q2:OA (compE p fr inl (s0.most:Int) g) t1:=q1.oa;obtain ⟨r,n,hn⟩:=h1;have hh:=(cmp_kept (headLn_kept (compE p fr inl (s0.most:Int) g) g) n _ _ (top_ok _ g) ⟨_,rfl,rfl⟩ _ hn).1;exact ⟨by rw [← b1];exact q2.1,by rw [← b1];exact q2.2.2,hh⟩
end Go.Proofs.YtcflojdkaddemaaGreatDoor
