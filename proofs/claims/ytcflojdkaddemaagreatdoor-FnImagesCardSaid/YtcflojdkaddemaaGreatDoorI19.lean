/- Parts of the proof. -/
import Derived.Test.YtcflojdkaddemaaGreatDoorI17
namespace Go.Proofs.YtcflojdkaddemaaGreatDoor
open Go.RowKit Go.Lib Go.Maps
theorem add_off8 (g j:Nat):(⟨g,0,none⟩:Addr).add j=⟨g,j,none⟩:=by
 unfold Addr.add
 by_cases h:j=0
 ·subst h;rfl
 ·simp [h]
theorem own_in9 {B T n n' s c:Nat} {w:World} {a:Option Addr} {xs:List Value} (h:w.ownsRow B T s (.slice a n' c) n xs) (hn:0<n):∃ g,a=some ⟨g,0,none⟩:=by
 rcases h.2 with ⟨_,h0⟩|⟨g,cap,cur,e,_⟩
 ·omega
 ·injection e with e
  exact ⟨g,e⟩
theorem kI_lit (a:Int):WideAt.IsKeyLit (.int .i64 a):=by unfold WideAt.IsKeyLit;trivial
theorem kI_ne {a b:Int} (h:a≠b):(Lit.int .i64 a)≠(Lit.int .i64 b):=fun e=>h (by injection e)
theorem FirOk.put {f m:Nat} {F:List Nat} {D:DataW Unit} (h:FirOk f F D) (hD:IsMap D):FirOk f (F++[m]) (D.put (.int .i64 ((f+1+F.length:Nat):Int)) (.lit (.int .i64 (m:Int)))):=by
 intro q hq hl;rw [List.length_append,List.length_singleton] at hl
 by_cases hlt:q - (f+1)<F.length
 ·rw [atKey_put_other (kI_ne (by omega)),h q hq hlt]
  unfold firstJ;rw [List.getElem?_append_left hlt]
 ·obtain rfl:q=f+1+F.length:=by omega
  rw [atKey_put_same hD (kI_lit _) _ _];unfold firstJ;rw [show f+1+F.length - (f+1)=F.length from by omega,List.getElem?_concat_length];rfl
theorem wfI {a:Int} (h1:-4611686018427387904≤a) (h2:a≤4611686018427387904):(Lit.int .i64 a).wf=true:=WalkArith.wf_i64 (by omega)
theorem item_cell {B cb:Nat} {K:KcE} {w:World} {t:CiS} {X:List ItW} {sc:ScL} {b:BdW} {jv:Value} {line g n c:Nat} (h:CiAt jT Tryz.prog B cb w K t (.slice (some ⟨g,0,none⟩) n c) X sc b jv line) (j:Nat) (hj:j<X.length):(∃ u,w.cell? ⟨g,j*7+1,none⟩=some u)∧w.frozen? ⟨g,j*7+1,none⟩=false:=by
 have hn:n=X.length:=by
  rcases h.cc.its.2 with ⟨e,_⟩|⟨_,_,_,e,_⟩
  ·cases e
  ·injection e
 subst hn;have hl:j*7+1<(itV X).length:=by rw [itV_length];omega
 have c0:=h.cc.its.cells rfl (j*7+1) _ (List.getElem?_eq_getElem hl);unfold Addr.add at c0;simp only [Nat.zero_add] at c0;exact ⟨⟨_,c0⟩,h.cc.its.frozenAt _⟩
def BdR (B cb:Nat) (K:KcE) (t':CiS) (iv jv:Value) (sc:ScL) (b:BdW) (w:World) (e:Ending) (w':World):Prop :=
 e=.returned (.tuple #[])∧∃ iv' jv' X' ln,Hid (CiAt jT Tryz.prog B cb w' K t' iv' X' sc b jv' ln)∧Hid (Step cb (ML iv jv b) (ML iv' jv' b) w w')
def IBodyOk (B cb:Nat) (K:KcE) (wb:World) (n:Nat):Prop :=
 ∀ (scs:List ScL) (sc:ScL) (rest:List ScL) (t:CiS) (z:Nat×CiS) (w:World) (iv:Value) (X:List ItW) (b:BdW) (jv:Value) (line:Nat),
  cmiF K.E n (.lines scs (sc.f+1) t.depth) t=some z→BodyOk K w sc rest scs b→t.jumps=[]→t.firsts=[]→0≤t.depth→t.depth≤2000000+100*(scs.length:Int)→z.2.items.length≤1000000→t.used≤1000 →
  CiAt jT Tryz.prog B cb w K t iv X sc b jv line→Below wb.heap.size wb w →
  Calls Tryz.prog 186 #[.pointer (some ⟨b.bb,0,none⟩)] w (BdR B cb K z.2 iv jv sc b w)
structure Run8 (E:CmpE) (f e:Nat) (t s:CiS) (k:Nat):Prop where
 fl:s.firsts.length+(f+1)=k
 us:s.used≤max t.used (64*(E.inl+1))
 jl:s.jumps.length≤s.items.length
 jb:∀ j ∈ s.jumps,j.1<s.items.length∧f<j.2∧j.2≤e+1
set_option maxRecDepth 100000 in
set_option maxHeartbeats 8000000 in
theorem i_lines (B cb:Nat) (K:KcE) (pa:Option Addr) (pc:Nat) (PX:List LnL) (fa:Option Addr) (fc:Nat) (wb:World) (hP:PgI K pa pc PX fa fc wb) (hBw:wb.heap.size≤B) (n:Nat) (hL:∀ m,m≤n→ILineOk B cb K wb m):IBodyOk B cb K wb n:=by
 intro scs sc rest t z w iv X b jv line h hb hj0 hf0' hd0 hd1 hzl hu hci hW;have h60:K.E.p.length≤60:=hP.ok.1.1;have hinl:=hP.inl;have hsl:scs.length≤4:=by have:=hb.sf.2.1;omega
 have hfun:sc.f ∈ funs K.E.p:=by have:=hb.so.f;rw [hb.cur] at this;exact this
 obtain ⟨hfl,hfk0,hfe,hel,hloc⟩:=fun_parts hP.ok hfun;obtain ⟨E,hE⟩:=Int.eq_ofNat_of_zero_le (show 0≤beZ K.E.p (sc.f:Int) by omega);have hfE:sc.f<E:=by omega
 have hE60:E<60:=by omega
 have hpl:=hP.len;have hf60:sc.f<60:=by omega
 have HCI:=hid hci;have HBO:=hid hb;have HW:=hid hW;have HP:=hid hP;have HLL:=hid hL;have HH:=hid h;have HE:=hid hE;have HFU:=hid hfun;have HZL:=hid hzl;have HD:Hid (0≤t.depth∧t.depth≤2000000+100*(scs.length:Int)∧t.used≤1000):=hid ⟨hd0,hd1,hu⟩;have EN:Hid (∀ W,Below w.heap.size w W→Calls Tryz.prog 163 #[.slice pa PX.length pc,.int .i64 (sc.f:Int)] W fun e w'=>e=.returned (.int .i64 (E:Int))∧Below W.heap.size W w'):=hid (fun W hB=>by
  have h:=i_endOf pa pc PX (sc.f:Int) W (by omega) ((hP.read.below hW).below hB);rw [hP.prog,hE] at h;exact h)
 have KS:Hid (∀ W,Below w.heap.size w W→W.cell? ⟨b.bb,0,none⟩=some (.pointer (some ⟨cb,0,none⟩))∧W.cell? ⟨cb,0,none⟩=some (.slice pa PX.length pc)∧W.cell? ⟨b.bb,2,none⟩=some (.int .i64 (sc.f:Int))∧W.cell? ⟨cb,7,none⟩=some (.int .i64 t.depth)):=hid (fun W hB=>⟨(HCI.out.below hB).cells.1,by rw [← HP.out.pv];exact (blk (HCI.out.below hB).cc.row).1 0 _ rfl,(blk (HCI.out.below hB).bd.row).1 2 _ rfl,(HCI.out.below hB).cells.2.2.1⟩);have HRN:Hid (Run8 K.E sc.f E t t (sc.f+1)):=hid ⟨by rw [hf0'];simp,Nat.le_max_left ..,by rw [hj0];simp,fun j hj=>by rw [hj0] at hj;cases hj⟩;have B1:Hid (Below w.heap.size w w.drew):=hid (Below.refl _ _).drew;have HTD:Hid (∃ d,t.depth=d):=hid ⟨_,rfl⟩;obtain ⟨d,hdd⟩:=HTD.out;rw [hdd] at HH KS HD;have HDD:=hid hdd;clear hloc hfk0 h hb hj0 hf0' hd0 hd1 hzl hu hci hW hP hL h60 hinl hfun hfl hfe hel hE hpl HTD hdd
 go_enter Tryz.func186,Tryz.ntmps186
 go_upto_region 0 with fail;refine E_start (S:=(fun w'=>w'.cell? ⟨b.bb,0,none⟩=some (.pointer (some ⟨cb,0,none⟩))∧w'.cell? ⟨cb,0,none⟩=some (.slice pa PX.length pc)∧w'.cell? ⟨b.bb,2,none⟩=some (.int .i64 (sc.f:Int))∧w'.cell? ⟨cb,7,none⟩=some (.int .i64 d))) 20 (by kernel_rfl) (KS.out _ B1.out) (fun hHeld=>?_);refine E_tk 0 ?_
 try simp only [Act.put,eS1,eS2,eS3,eA1,eA2,eA3]
 refine E_tk 1 ?_
 try simp only [Act.put,eS1,eS2,eS3,eA1,eA2,eA3]
 refine E_tk 2 ?_
 try simp only [Act.put,eS1,eS2,eS3,eA1,eA2,eA3]
 refine E_tk 3 ?_
 try simp only [Act.put,eS1,eS2,eS3,eA1,eA2,eA3]
 refine E_tk 4 ?_
 try simp only [Act.put,eS1,eS2,eS3,eA1,eA2,eA3]
 refine E_tk 5 ?_
 try simp only [Act.put,eS1,eS2,eS3,eA1,eA2,eA3]
 refine E_tk 6 ?_
 try simp only [Act.put,eS1,eS2,eS3,eA1,eA2,eA3]
 refine E_tk 7 ?_
 try simp only [Act.put,eS1,eS2,eS3,eA1,eA2,eA3]
 refine E_tk 8 ?_
 try simp only [Act.put,eS1,eS2,eS3,eA1,eA2,eA3]
 refine E_tk 9 ?_
 try simp only [Act.put,eS1,eS2,eS3,eA1,eA2,eA3]
 refine E_tk 10 ?_
 try simp only [Act.put,eS1,eS2,eS3,eA1,eA2,eA3]
 refine E_tk 11 ?_
 try simp only [Act.put,eS1,eS2,eS3,eA1,eA2,eA3]
 refine E_tk 12 ?_
 try simp only [Act.put,eS1,eS2,eS3,eA1,eA2,eA3]
 refine E_tk 13 ?_
 try simp only [Act.put,eS1,eS2,eS3,eA1,eA2,eA3]
 refine E_tk 14 ?_
 try simp only [Act.put,eS1,eS2,eS3,eA1,eA2,eA3]
 refine E_tk 15 ?_
 try simp only [Act.put,eS1,eS2,eS3,eA1,eA2,eA3]
 refine E_tk 16 ?_
 try simp only [Act.put,eS1,eS2,eS3,eA1,eA2,eA3]
 refine E_tk 17 ?_
 try simp only [Act.put,eS1,eS2,eS3,eA1,eA2,eA3]
 refine E_ready (rs:=[18]) (by kernel_rfl) (by decide) ?_;refine AllE.cons (o:=_) rfl (fun K0 hK=>?_) AllE.nil
 try simp only [eA1,eA2,eA3]
 go_simp
 refine (EN.out _ B1.out).mono ?_;rintro e w1 ⟨rfl,b1⟩;go_wp2_with fail;have HB1:Hid (Below w.heap.size w w1):=hid (B1.out.trans b1);clear b1;obtain ⟨p0,p1,p2,p7⟩:=KS.out _ HB1.out;refine hK.out _ _ (KS.out _ HB1.out) (fun hHeld=>?_);clear hK K0
 try simp only [Act.put,eS1,eS2,eS3,eA1,eA2,eA3]
 refine E_tk 19 ?_
 try simp only [Act.put,eS1,eS2,eS3,eA1,eA2,eA3]
 refine E_last (o:=_) (by kernel_rfl) rfl (by kernel_rfl) (fun K0 hK=>?_)
 try simp only [eA1,eA2,eA3]
 go_simp
 refine hK.out _ _ ?_;clear hK K0;go_wp2_with fail
 go_loopw [4] (fun v wr=>∃ (k nn:Nat) (s:CiS) (ivq jvq:Value) (Xq:List ItW) (ln:Nat),sc.f<k∧k≤E+1∧v=.int .i64 (k:Int)∧nn≤n∧Hid (cmiF K.E nn (.lines scs k d) s=some z)∧Hid (CiAt jT Tryz.prog B cb wr K s ivq Xq sc b jvq ln)∧Hid (Step cb (ML iv jv b) (ML ivq jvq b) w wr)∧Hid (Run8 K.E sc.f E t s k)) (fun v _=>(E+2 - (RowKit.intOf v).toNat))
 case atStart=>exact ⟨sc.f+1,n,t,iv,jv,X,line,by omega,by omega,by go_num,Nat.le_refl _,HH,hid (HCI.out.below HB1.out),hid (Step.of_below HB1.out),HRN⟩
 case round =>
  obtain ⟨k,nn,s,ivq,jvq,Xq,ln,hk1,hk2,rfl,hnn,HC,HA,HS,HR⟩:=hrel;obtain ⟨nn,rfl⟩:∃ m,nn=m+1:=by
   cases nn with
   | zero=>have h:=HC.out;rw [cmiF] at h;cases h
   | succ m=>exact ⟨m,rfl⟩
  have hWr:Hid (Below wb.heap.size wb wr):=hid (HW.out.trans ((HCI.out.baseL HS.out).mono hBw));have a0:=HA.out.cells.1;have a7:wr.cell? ⟨cb,7,none⟩=some (.int .i64 s.depth):=HA.out.cells.2.2.1;have g7:=HA.out.cells.2.2.2
  by_cases hlt:k≤E
  ·have hki:(k:Int)≤(E:Int):=by omega
   obtain ⟨R,hR1,hR2⟩:=line_inv HBO.out.cur HC.out (by rw [HE.out];exact hki);have HK:=hid (line_k HP.out.ok HBO.out.sf HFU.out hk1 (by rw [HE.out];exact hki) hR1);have hRz:R.items.length≤z.2.items.length:=(((cmi_bound (E:=K.E) HP.out.ok.1.1 HP.out.ok.1.2) nn).2.2 _ _ _ _ _ HBO.out.sf hR2).1;have HRL:Hid (R.items.length≤1000000):=hid (by have:=HZL.out;omega);have HXL:=HA.out.len;have HIT:s.items.length≤1000000:=by have:=HK.out.len;have:=HRL.out;have h:s.items.length≤R.items.length:=HK.out.len;omega
   have HC1:Hid (CiAt jT Tryz.prog B cb (wr.setCell ⟨cb,7,none⟩ (.int .i64 d)) K { s with depth:=d } ivq Xq sc b jvq ln):=hid (HA.out.cellC jT_ok 7 _ rfl rfl rfl rfl rfl);obtain ⟨wy,hwy⟩:∃ W,wr.setCell ⟨cb,7,none⟩ (.int .i64 d)=W:=⟨_,rfl⟩;rw [hwy] at HC1;have HSY:Hid (Step cb (ML iv jv b) (ML ivq jvq b) w wy):=hid (by rw [← hwy];exact HS.out.trans (cellC_step wr 7 _));have HC2:=hid (HC1.out.below (Below.refl _ _).drew);obtain ⟨D,d1,d2⟩:=HC2.out.bd.firsts;have hkk:(k:Int)=((sc.f+1+s.firsts.length:Nat):Int):=by have:=HR.out.fl;omega
   obtain ⟨w1,hrun,hM2,hg2⟩:=d1.update keyI Tryz.underlying178 (by show s.firsts.length<maxLen;have:=HR.out.fl;unfold maxLen;omega) (keyI_of (a:=(k:Int)) (wfI (by omega) (by omega))) (val:=.int .i64 (s.items.length:Int)) (plainElem_int Tryz.underlying3 (wfI (by omega) (by omega)));have hfo:=d2.put (m:=s.items.length) d1.isMap;have hfo2:FirOk sc.f (s.firsts++[s.items.length]) (D.put (.int .i64 (k:Int)) (.lit (.int .i64 (s.items.length:Int)))):=by rw [hkk];exact hfo
   obtain ⟨hcf,hsf⟩:=HC2.out.firsted jT_ok hg2 hM2 (by show _=s.firsts.length+1;first|rfl|omega) s.items.length hfo2;have HC3:Hid (CiAt jT Tryz.prog B cb w1 K { s with depth:=d,firsts:=s.firsts++[s.items.length] } ivq Xq sc b jvq ln):=hid hcf;have HS3:Hid (Step cb (ML iv jv b) (ML ivq jvq b) w w1):=hid ((HSY.out.trans (Step.of_below (Below.refl _ _).drew)).trans hsf);have HW3:Hid (Below wb.heap.size wb w1):=hid (HW.out.trans ((HCI.out.baseL HS3.out).mono hBw));have LN:=hid (HLL.out nn (by omega) scs sc rest k { s with depth:=d,firsts:=s.firsts++[s.items.length] } R w1 ivq Xq b jvq ln hR1 ⟨HBO.out.stepL HCI.out HS3.out,hk1,by rw [HE.out];exact hki,HD.out.1,HD.out.2.1,HRL.out,by show s.used≤1000;have:=HR.out.us;have:=HD.out.2.2;have:=HP.out.inl;omega,HR.out.jl,HC3.out,HW3.out⟩);have HNX:Hid (Run8 K.E sc.f E t R (k+1)):=hid (by
    have hk:=HK.out;refine ⟨?_,?_,?_,fun j hj=>?_⟩
    ·rw [hk.fi];show (s.firsts++[_]).length+_=_;rw [List.length_append,List.length_singleton];have:=HR.out.fl;omega
    ·have h1:R.used≤max s.used (64*(K.E.inl+1)):=hk.used;have:=HR.out.us;omega
    ·have h1:R.jumps.length+s.items.length≤s.jumps.length+R.items.length:=hk.jl;have:=HR.out.jl;omega
    ·rcases hk.ju j hj with h1|⟨h1,h2,h3⟩
     ·have h1:=HR.out.jb j h1
      have h2:s.items.length≤R.items.length:=hk.len;exact ⟨by omega,h1.2⟩
     ·rw [HE.out] at h3
      exact ⟨h1,h2,by omega⟩)
   have SY:Hid (wy.drew.cell? ⟨b.bb,8,none⟩=some (.map (some b.fb))∧wy.drew.cell? ⟨b.bb,0,none⟩=some (.pointer (some ⟨cb,0,none⟩))∧∃ va vc,wy.drew.cell? ⟨cb,8,none⟩=some (.slice va s.items.length vc)):=hid (by
    obtain ⟨va,vc,e⟩:=own_sh HC2.out.cc.its;rw [HC2.out.len] at e;exact ⟨(blk HC2.out.bd.row).1 8 _ rfl,HC2.out.cells.1,va,vc,by rw [← e];exact (blk HC2.out.cc.row).1 8 _ rfl⟩)
   obtain ⟨y1,y2,va,vc,y3⟩:=SY.out;have HR2:=hid hR2;obtain ⟨il,hil⟩:∃ il,s.items.length=il:=⟨_,rfl⟩;rw [hil] at y3 hrun;clear hR1 hR2 hRz HIT HXL d1 d2 hM2 hg2 hfo hfo2 hcf hsf hkk hil SY HC1 HC2 D;go_upto_region 5 with fail;refine E_start (S:=(fun w'=>w'.cell? ⟨b.bb,8,none⟩=some (.map (some b.fb))∧w'.cell? ⟨b.bb,0,none⟩=some (.pointer (some ⟨cb,0,none⟩))∧w'.cell? ⟨cb,8,none⟩=some (.slice va il vc))) 13 (by kernel_rfl) (⟨y1,y2,y3⟩) (fun hHeld=>?_);refine E_tk 0 ?_
   try simp only [Act.put,eS1,eS2,eS3,eA1,eA2,eA3]
   refine E_tk 1 ?_
   try simp only [Act.put,eS1,eS2,eS3,eA1,eA2,eA3]
   refine E_tk 2 ?_
   try simp only [Act.put,eS1,eS2,eS3,eA1,eA2,eA3]
   refine E_tk 3 ?_
   try simp only [Act.put,eS1,eS2,eS3,eA1,eA2,eA3]
   refine E_tk 4 ?_
   try simp only [Act.put,eS1,eS2,eS3,eA1,eA2,eA3]
   refine E_tk 5 ?_
   try simp only [Act.put,eS1,eS2,eS3,eA1,eA2,eA3]
   refine E_tk 6 ?_
   try simp only [Act.put,eS1,eS2,eS3,eA1,eA2,eA3]
   refine E_tk 7 ?_
   try simp only [Act.put,eS1,eS2,eS3,eA1,eA2,eA3]
   refine E_tk 8 ?_
   try simp only [Act.put,eS1,eS2,eS3,eA1,eA2,eA3]
   refine E_tk 9 ?_
   try simp only [Act.put,eS1,eS2,eS3,eA1,eA2,eA3]
   refine E_tk 10 ?_
   try simp only [Act.put,eS1,eS2,eS3,eA1,eA2,eA3]
   refine E_tk 11 ?_
   try simp only [Act.put,eS1,eS2,eS3,eA1,eA2,eA3]
   refine E_tk 12 ?_
   try simp only [Act.put,eS1,eS2,eS3,eA1,eA2,eA3]
   refine E_last (o:=_) (by kernel_rfl) rfl (by kernel_rfl) (fun K0 hK=>?_)
   try simp only [eA1,eA2,eA3]
   go_simp
   refine hK.out _ _ ?_;clear hK K0;go_wp2_with (go_at_call 214;(with_reducible refine LN.out.mono ?_);intro e w5 HJ;have HJ2:=hid HJ;clear HJ;obtain ⟨rfl,iv5,jv5,X5,HC5,HS5⟩:=HJ2.out)
   go_roundw
   case rel=>exact ⟨k+1,nn,R,iv5,jv5,X5,k,by omega,by omega,by go_num,by omega,HR2,HC5,hid (HS3.out.trans HS5.out),HNX⟩
   case measure=>simp [RowKit.intOf];omega
  ·have hkE:k=E+1:=by omega
   have hki:¬ (k:Int)≤(E:Int):=by omega
   have hz:=lines_end HBO.out.cur HC.out (by rw [HE.out];omega);have HZ2:Hid (z.2={ s with firsts:=s.firsts++[s.items.length],items:=applyJ sc.f (s.firsts++[s.items.length]) s.jumps s.items }):=hid (by rw [hz]);have HSL:s.items.length≤1000000:=by have h:=HZL.out;rw [HZ2.out] at h;have h:(applyJ sc.f (s.firsts++[s.items.length]) s.jumps s.items).length≤1000000:=h;rw [apply_length] at h;exact h
   have HC2:=hid (HA.out.below (Below.refl _ _).drew);obtain ⟨D,d1,d2⟩:=HC2.out.bd.firsts;have hkk:(E:Int)+1=((sc.f+1+s.firsts.length:Nat):Int):=by have:=HR.out.fl;omega
   have u1:IntKind.i64.wrap ((E:Int)+1)=(E:Int)+1:=IntWalk.i64_in _ (by omega);obtain ⟨w1,hrun,hM2,hg2⟩:=d1.update keyI Tryz.underlying178 (by show s.firsts.length<maxLen;have:=HR.out.fl;unfold maxLen;omega) (keyI_of (a:=(E:Int)+1) (wfI (by omega) (by omega))) (val:=.int .i64 (s.items.length:Int)) (plainElem_int Tryz.underlying3 (wfI (by omega) (by omega)));have hfo:=d2.put (m:=s.items.length) d1.isMap;have hfo2:FirOk sc.f (s.firsts++[s.items.length]) (D.put (.int .i64 ((E:Int)+1)) (.lit (.int .i64 (s.items.length:Int)))):=by rw [hkk];exact hfo
   obtain ⟨hcf,hsf⟩:=HC2.out.firsted jT_ok hg2 hM2 (by show _=s.firsts.length+1;first|rfl|omega) s.items.length hfo2;have HC3:Hid (CiAt jT Tryz.prog B cb w1 K { s with firsts:=s.firsts++[s.items.length] } ivq Xq sc b jvq ln):=hid hcf;have HS3:Hid (Step cb (ML iv jv b) (ML ivq jvq b) w w1):=hid ((HS.out.trans (Step.of_below (Below.refl _ _).drew)).trans hsf);have SY:Hid (wr.drew.cell? ⟨b.bb,8,none⟩=some (.map (some b.fb))∧wr.drew.cell? ⟨b.bb,0,none⟩=some (.pointer (some ⟨cb,0,none⟩))∧∃ va vc,ivq=.slice va s.items.length vc∧wr.drew.cell? ⟨cb,8,none⟩=some (.slice va s.items.length vc)):=hid (by
    obtain ⟨va,vc,e⟩:=own_sh HC2.out.cc.its;rw [HC2.out.len] at e;exact ⟨(blk HC2.out.bd.row).1 8 _ rfl,HC2.out.cells.1,va,vc,e,by rw [← e];exact (blk HC2.out.cc.row).1 8 _ rfl⟩)
   obtain ⟨y1,y2,va,vc,hiv,y3⟩:=SY.out;have HFL:Hid ((s.firsts++[s.items.length]).length+sc.f=E+1):=hid (by rw [List.length_append,List.length_singleton];have:=HR.out.fl;omega);have HJB:Hid (∀ j ∈ s.jumps,j.1<s.items.length∧sc.f<j.2∧j.2≤E+1):=hid HR.out.jb;have hJl:s.jumps.length≤1000000:=by have:=HR.out.jl;omega
   obtain ⟨FS,hFS⟩:∃ FS,s.firsts++[s.items.length]=FS:=⟨_,rfl⟩;rw [hFS] at HZ2 HC3 HFL;obtain ⟨SI,hSI⟩:∃ SI,s.items=SI:=⟨_,rfl⟩;have HIS:=hid hSI;obtain ⟨il,hil⟩:∃ il,s.items.length=il:=⟨_,rfl⟩;rw [hil] at y3 hrun HSL hiv HJB;rw [hSI] at HZ2;have HIL:Hid (SI.length=il):=hid (by rw [← hSI];exact hil);obtain ⟨J,hJ⟩:∃ J,s.jumps=J:=⟨_,rfl⟩;rw [hJ] at HZ2 HJB hJl;have HJJ:=hid hJ;have SJ:Hid (∃ ja jc,jvq=.slice ja J.length jc∧w1.cell? ⟨b.bb,9,none⟩=some (.slice ja J.length jc)∧w1.cell? ⟨b.bb,0,none⟩=some (.pointer (some ⟨cb,0,none⟩))):=hid (by
    obtain ⟨ja,jc,e⟩:=own_sh HC3.out.bd.jr;have e:jvq=.slice ja J.length jc:=by rw [e];show Value.slice ja s.jumps.length jc=_;rw [hJ]
    exact ⟨ja,jc,e,by rw [← e];exact (blk HC3.out.bd.row).1 9 _ rfl,HC3.out.cells.1⟩)
   obtain ⟨ja,jc,hjv,j9,j0⟩:=SJ.out;subst hjv;subst hiv;have HCS:Hid (CiAt jT Tryz.prog B cb w1 K { s with firsts:=FS,items:=applyJ sc.f FS (J.take 0) SI } (.slice va il vc) Xq sc b (.slice ja J.length jc) ln):=hid (by rw [List.take_zero];show CiAt jT Tryz.prog B cb w1 K { s with firsts:=FS,items:=SI } _ Xq sc b _ ln;rw [← hSI];exact HC3.out);clear hz d1 d2 hM2 hg2 hfo hfo2 hcf hsf hkk hil SY HC2 D hFS hSI hJ SJ hlt hkE;go_upto_region 7 with fail;refine E_start (S:=(fun w'=>w'.cell? ⟨b.bb,8,none⟩=some (.map (some b.fb))∧w'.cell? ⟨b.bb,0,none⟩=some (.pointer (some ⟨cb,0,none⟩))∧w'.cell? ⟨cb,8,none⟩=some (.slice va il vc))) 14 (by kernel_rfl) (⟨y1,y2,y3⟩) (fun hHeld=>?_);refine E_tk 0 ?_
   try simp only [Act.put,eS1,eS2,eS3,eA1,eA2,eA3]
   refine E_tk 1 ?_
   try simp only [Act.put,eS1,eS2,eS3,eA1,eA2,eA3]
   refine E_tk 2 ?_
   try simp only [Act.put,eS1,eS2,eS3,eA1,eA2,eA3]
   refine E_tk 3 ?_
   try simp only [Act.put,eS1,eS2,eS3,eA1,eA2,eA3]
   refine E_tk 4 ?_
   try simp only [Act.put,eS1,eS2,eS3,eA1,eA2,eA3]
   refine E_tk 5 ?_
   try simp only [Act.put,eS1,eS2,eS3,eA1,eA2,eA3]
   refine E_tk 6 ?_
   try simp only [Act.put,eS1,eS2,eS3,eA1,eA2,eA3]
   refine E_tk 7 ?_
   try simp only [Act.put,eS1,eS2,eS3,eA1,eA2,eA3]
   refine E_tk 8 ?_
   try simp only [Act.put,eS1,eS2,eS3,eA1,eA2,eA3]
   refine E_tk 9 ?_
   try simp only [Act.put,eS1,eS2,eS3,eA1,eA2,eA3]
   refine E_tk 10 ?_
   try simp only [Act.put,eS1,eS2,eS3,eA1,eA2,eA3]
   refine E_tk 11 ?_
   try simp only [Act.put,eS1,eS2,eS3,eA1,eA2,eA3]
   refine E_tk 12 ?_
   try simp only [Act.put,eS1,eS2,eS3,eA1,eA2,eA3]
   refine E_tk 13 ?_
   try simp only [Act.put,eS1,eS2,eS3,eA1,eA2,eA3]
   refine E_last (o:=_) (by kernel_rfl) rfl (by kernel_rfl) (fun K0 hK=>?_)
   try simp only [eA1,eA2,eA3]
   go_simp
   refine hK.out _ _ ?_;clear hK K0;go_wp2_with fail
   go_loopw [78] (fun v wr=>∃ (q:Nat) (Xp:List ItW),q≤J.length∧v=.int .i64 (q:Int)∧Hid (CiAt jT Tryz.prog B cb wr K { s with firsts:=FS,items:=applyJ sc.f FS (J.take q) SI } (.slice va il vc) Xp sc b (.slice ja J.length jc) ln)∧Hid (Step cb (ML iv jv b) (ML (.slice va il vc) (.slice ja J.length jc) b) w wr)) (fun v _=>(J.length - (RowKit.intOf v).toNat))
   case atStart=>exact ⟨0,Xq,Nat.zero_le _,by go_num,HCS,HS3⟩
   case round =>
    obtain ⟨q,Xp,hq,rfl,HB,HT⟩:=hrel
    by_cases hlt:q<J.length
    ·have hql:(q:Int)<(J.length:Int):=by omega
     have hq0:(0:Int)≤(q:Int):=by omega
     obtain ⟨gj,rfl⟩:=own_in9 HB.out.bd.jr (by show 0<s.jumps.length;rw [HJJ.out];omega);have hjj:=HJB.out J[q] (List.getElem_mem hlt);have HXP:Hid (Xp.length=il):=hid (by rw [HB.out.len];show (applyJ sc.f FS (J.take q) SI).length=_;rw [apply_length];exact HIL.out);obtain ⟨gx,rfl⟩:=own_in9 HB.out.cc.its (by rw [HXP.out];omega);have hju:wr.cell? ⟨gj,q*2,none⟩=some (.int .i64 (J[q].1:Int))∧wr.cell? ⟨gj,q*2+1,none⟩=some (.int .i64 (J[q].2:Int)):=by
      have hr:=HB.out.bd.jr;have h1:=juV_at J q hlt;have hr:wr.ownsRow B 238 2 (.slice (some ⟨gj,0,none⟩) J.length jc) s.jumps.length (juV s.jumps):=hr;rw [HJJ.out] at hr;have c0:=hr.cells rfl (q*2) _ h1.1;have c1:=hr.cells rfl (q*2+1) _ h1.2;rw [add_off8] at c0 c1;exact ⟨c0,c1⟩
     obtain ⟨c0,c1⟩:=hju;have hfv:firstJ sc.f FS J[q].2=firstJ sc.f FS J[q].2:=rfl;have HTK:Hid (applyJ sc.f FS (J.take (q+1)) SI=setArg (applyJ sc.f FS (J.take q) SI) J[q].1 (firstJ sc.f FS J[q].2)):=hid (apply_take sc.f FS J SI q hlt);obtain ⟨ja,hja⟩:∃ a,J[q].1=a:=⟨_,rfl⟩;obtain ⟨jl,hjl⟩:∃ a,J[q].2=a:=⟨_,rfl⟩;obtain ⟨fv,hfv2⟩:∃ v,firstJ sc.f FS jl=v:=⟨_,rfl⟩;rw [hja,hjl] at hjj HTK;rw [hja] at c0;rw [hjl] at c1;rw [hfv2] at HTK;obtain ⟨w4,hw4⟩:∃ W,wr.alloc (.cells #[.int .i64 (ja:Int),.int .i64 (jl:Int)] 238)=W:=⟨_,rfl⟩;have HAL:Hid (Below wr.heap.size wr w4):=hid (by rw [← hw4];exact (Below.refl _ _).alloc (Nat.le_refl _) _);have HTR:Hid (w4.heap[wr.heap.size]?=some (.cells #[.int .i64 (ja:Int),.int .i64 (jl:Int)] 238 (0,0))):=hid (by rw [← hw4];exact heap_alloc_new wr _);have HC4:=hid (HB.out.below HAL.out);have HC5:=hid (HC4.out.below (Below.refl _ _).drew);have LK:Hid ((Instr.lookup 178 (.map (some b.fb)) (.int .i64 (jl:Int)) false).run Tryz.prog w4.drew=.ok (.int .i64 fv) w4.drew):=hid (by
      obtain ⟨D,d1,d2⟩:=HC5.out.bd.firsts;obtain ⟨c,hrun,hat,_⟩:=d1.lookup_int keyI Tryz.underlying178 Tryz.underlying3 (zerI _) (keyI_of (a:=(jl:Int)) (wfI (by omega) (by omega)));have h3:=d2 jl hjj.2.1 (by show jl - (sc.f+1)<FS.length;have:=HFL.out;omega);have h3:D.atKey (.int .i64 (jl:Int)) zI=.lit (.int .i64 fv):=by rw [← hfv2];exact h3
      rw [h3] at hat;injection hat with hat
      injection hat with _ hat
      rw [hat];exact hrun)
     have SZ:Hid (w4.drew.cell? ⟨b.bb,0,none⟩=some (.pointer (some ⟨cb,0,none⟩))∧w4.drew.cell? ⟨cb,8,none⟩=some (.slice (some ⟨gx,0,none⟩) il vc)∧w4.drew.cell? ⟨b.bb,8,none⟩=some (.map (some b.fb))∧w4.drew.cell? ⟨wr.heap.size,0,none⟩=some (.int .i64 (ja:Int))∧w4.drew.cell? ⟨wr.heap.size,1,none⟩=some (.int .i64 (jl:Int))∧(Instr.lookup 178 (.map (some b.fb)) (.int .i64 (jl:Int)) false).run Tryz.prog w4.drew=.ok (.int .i64 fv) w4.drew):=hid ⟨HC5.out.cells.1,(blk HC5.out.cc.row).1 8 _ rfl,(blk HC5.out.bd.row).1 8 _ rfl,(blk HTR.out).1 0 _ rfl,(blk HTR.out).1 1 _ rfl,LK.out⟩;have HAG:=hid (HC5.out.arg jT_ok ja fv (by rw [HXP.out];exact hjj.1));have SX:Hid ((∃ u,w4.drew.cell? ⟨gx,ja*7+1,none⟩=some u)∧w4.drew.frozen? ⟨gx,ja*7+1,none⟩=false):=hid (item_cell HC5.out ja (by rw [HXP.out];exact hjj.1));obtain ⟨⟨xu,x1⟩,x2⟩:=SX.out;have ia0:(0:Int)≤(ja:Int):=by omega
     have ia1:(ja:Int)<(il:Int):=by have:=hjj.1;omega
     obtain ⟨z1,z2,z3,z4,z5,z6⟩:=SZ.out;clear hjj hja hjl hfv2 hfv SX;go_upto_region 11 with fail;refine E_start (S:=(fun w'=>w'.cell? ⟨b.bb,0,none⟩=some (.pointer (some ⟨cb,0,none⟩))∧w'.cell? ⟨cb,8,none⟩=some (.slice (some ⟨gx,0,none⟩) il vc)∧w'.cell? ⟨b.bb,8,none⟩=some (.map (some b.fb))∧w'.cell? ⟨wr.heap.size,0,none⟩=some (.int .i64 (ja:Int))∧w'.cell? ⟨wr.heap.size,1,none⟩=some (.int .i64 (jl:Int))∧(Instr.lookup 178 (.map (some b.fb)) (.int .i64 (jl:Int)) false).run Tryz.prog w'=.ok (.int .i64 fv) w')) 19 (by kernel_rfl) (⟨z1,z2,z3,z4,z5,z6⟩) (fun hHeld=>?_);refine E_tk 0 ?_
     try simp only [Act.put,eS1,eS2,eS3,eA1,eA2,eA3]
     refine E_tk 1 ?_
     try simp only [Act.put,eS1,eS2,eS3,eA1,eA2,eA3]
     refine E_tk 2 ?_
     try simp only [Act.put,eS1,eS2,eS3,eA1,eA2,eA3]
     refine E_tk 3 ?_
     try simp only [Act.put,eS1,eS2,eS3,eA1,eA2,eA3]
     refine E_tk 4 ?_
     try simp only [Act.put,eS1,eS2,eS3,eA1,eA2,eA3]
     refine E_tk 5 ?_
     try simp only [Act.put,eS1,eS2,eS3,eA1,eA2,eA3]
     refine E_tk 6 ?_
     try simp only [Act.put,eS1,eS2,eS3,eA1,eA2,eA3]
     refine E_tk 7 ?_
     try simp only [Act.put,eS1,eS2,eS3,eA1,eA2,eA3]
     refine E_tk 8 ?_
     try simp only [Act.put,eS1,eS2,eS3,eA1,eA2,eA3]
     refine E_tk 9 ?_
     try simp only [Act.put,eS1,eS2,eS3,eA1,eA2,eA3]
     refine E_tk 10 ?_
     try simp only [Act.put,eS1,eS2,eS3,eA1,eA2,eA3]
     refine E_tk 11 ?_
     try simp only [Act.put,eS1,eS2,eS3,eA1,eA2,eA3]
     refine E_tk 12 ?_
     try simp only [Act.put,eS1,eS2,eS3,eA1,eA2,eA3]
     refine E_tk 13 ?_
     try simp only [Act.put,eS1,eS2,eS3,eA1,eA2,eA3]
     refine E_tk 14 ?_
     try simp only [Act.put,eS1,eS2,eS3,eA1,eA2,eA3]
     refine E_tk 15 ?_
     try simp only [Act.put,eS1,eS2,eS3,eA1,eA2,eA3]
     refine E_tk 16 ?_
     try simp only [Act.put,eS1,eS2,eS3,eA1,eA2,eA3]
     refine E_tk 17 ?_
     try simp only [Act.put,eS1,eS2,eS3,eA1,eA2,eA3]
     refine E_tk 18 ?_
     try simp only [Act.put,eS1,eS2,eS3,eA1,eA2,eA3]
     refine E_last (o:=_) (by kernel_rfl) rfl (by kernel_rfl) (fun K0 hK=>?_)
     try simp only [eA1,eA2,eA3]
     go_simp
     refine hK.out _ _ ?_;clear hK K0;go_wp2_with fail;go_roundw
     case rel=>exact ⟨q+1,setX Xp ja fv,by omega,by go_num,hid (by rw [HTK.out];exact HAG.out.1),hid ((HT.out.trans ((Step.of_below HAL.out).trans (Step.of_below (Below.refl _ _).drew))).trans HAG.out.2)⟩
     case measure=>simp [RowKit.intOf];omega
    ·have hqq:q=J.length:=by omega
     subst hqq;clear hlt;go_wp2_with fail
     go_end0
     refine ⟨rfl,_,_,Xp,ln,?_,HT⟩;rw [HZ2.out];have h:=HB.out;rw [List.take_length] at h;rw [← HJJ.out] at h ⊢;exact hid h
end Go.Proofs.YtcflojdkaddemaaGreatDoor
