/- Parts of the proof. -/
import Derived.Test.YtcflojdkaddemaaGreatDoorI20
import Derived.Test.YtcflojdkaddemaaGreatDoorI08
import Derived.Test.YtcflojdkaddemaaGreatDoorI18
namespace Go.Proofs.YtcflojdkaddemaaGreatDoor
open Go.RowKit Go.Lib Go.Maps
section
variable {B T n c:Nat} {w:World} {a:Option Addr} {xs:List Value}
theorem own_cap (h:w.ownsRow B T 1 (.slice a n c) n xs):n≤c:=by
 rcases h.2 with ⟨e,h0⟩|⟨g,cap,cur,e,_,_,hnc,_⟩
 ·omega
 ·injection e with e1 e2 e3
  omega
theorem own_none (h:w.ownsRow B T 1 (.slice a n c) n xs):a=none→c=0:=by
 rintro rfl
 rcases h.2 with ⟨e,h0⟩|⟨g,cap,cur,e,_⟩
 ·injection e
 ·injection e with e1
  cases e1
theorem own_zero (h:w.ownsRow B T 1 (.slice a n c) n xs):∀ g o r,a=some ⟨g,o,r⟩→o=0∧r=none:=by
 rintro g o r rfl
 rcases h.2 with ⟨e,h0⟩|⟨g',cap,cur,e,_⟩
 ·cases e
 ·injection e with e1
  injection e1 with e1
  injection e1 with e1 e2 e3
  exact ⟨e2,e3⟩
end
def frB (fm:Int) (fi:Nat):Bool:=bits .and .i64 (fm / 2 ^ fi) 1 == 1
def PassR (E:CmpE) (t':CiS) (w:World) (e:Ending) (w':World):Prop :=
 ∃ (B cb:Nat) (pv fv iv:Value) (X:List ItW),e=.returned (.pointer (some ⟨cb,0,none⟩))∧Hid (CcAt jT B cb w' ⟨pv,fv,E⟩ t' iv X)∧w.heap.size≤B∧Hid (Below w.heap.size w w')
set_option maxRecDepth 100000 in
set_option maxHeartbeats 8000000 in
theorem i_pass (pa:Option Addr) (pc:Nat) (PX:List LnL) (hok:OkI (plL PX)) (hcap:PX.length≤pc) (fi:Nat) (hfi:fi<(funs (plL PX)).length) (fm wd:Int) (inl:Nat) (fo sp:Bool) (hfm:0≤fm∧fm≤63) (hinl:inl≤3) (hwd:0≤wd∧wd≤1000000) (w:World) (hr:ReadL 9 147 w pa PX) (hz4:∀ x ∈ PX,x.args.length≤1048576)
  (g:Nat) (hg:(funs (plL PX))[fi]=g) (n:Nat) (hL:∀ (B cb:Nat) (K:KcE) (pa:Option Addr) (pc:Nat) (PX:List LnL) (fa:Option Addr) (fc:Nat) (wb:World),PgI K pa pc PX fa fc wb→wb.heap.size≤B→K.E.inl=inl→IBodyOk B cb K wb n)
  (E:CmpE) (hE:E=⟨plL PX,inl,frB fm fi,wd,(argsZ (plL PX) (g:Int)).length⟩) (z:Nat×CiS) (hz:cmiF E n (.lines [topSc E.p g] (g+1) E.words) (topJ E g)=some z) (hzl:z.2.items.length≤1000000) :
  Calls Tryz.prog 84 #[.slice pa PX.length pc,.int .i64 (fi:Int),.agg #[.int .i64 fm,.int .i64 (inl:Int),.bool fo,.bool sp],.int .i64 wd] w (PassR E z.2 w):=by
 have hpl:PX.length≤60:=by have:=hok.1.1;rwa [plL_length] at this
 have hf6:(funs (plL PX)).length≤6:=hok.2.1.1;have FL:Hid (∀ W,Below w.heap.size w W→Calls Tryz.prog 59 #[.slice pa PX.length pc] W (Ints 3 W.heap.size (funI (plL PX)) W)):=hid (fun W hb=>i_funLines pa pc PX W (by omega) (hr.below hb));have LO:Hid (∀ W,Below w.heap.size w W→Calls Tryz.prog 143 #[.slice pa PX.length pc,.int .i64 (g:Int)] W (StrR 9 W.heap.size (locZ (plL PX) (g:Int)) W)):=hid (fun W hb=>i_localsOf pa pc PX (g:Int) W (by omega) hcap (hr.below hb) hz4);have HR:=hid hr;have HOK:=hid hok;have HLL:=hid hL;have HZ:=hid hz;have HZL:=hid hzl;have HBX:Hid (Below w.heap.size w (w.alloc (.cells #[.int .i64 fm,.int .i64 (inl:Int),.bool fo,.bool sp] 26))):=hid ((Below.refl _ _).alloc (Nat.le_refl _) _);have hfl:=funI_length (plL PX);obtain ⟨hfi',hfe⟩:=funI_get (plL PX) fi (by omega);have hgm:(funs (plL PX))[fi] ∈ funs (plL PX):=List.getElem_mem hfi;rw [hg] at hfe hgm;have hgl:=funF_ge (plL PX) 0 g hgm;have HGM:=hid hgm;rw [plL_length] at hgl;obtain ⟨hlx,hargs,hpre,ha4,hnd⟩:=loc_args hok hgm;have hpa:(plL PX)[g].args=PX[g].args:=by rw [pl_at PX g (by omega)];rfl
 rw [hpa] at hargs hpre ha4 hnd;obtain ⟨ga,rfl,hga,⟨c80,c81,c2,c83⟩,hm⟩:=hr g (by omega);obtain ⟨xa,xb,xc,xd,ea,ee,hrs,hrt8,hcp8,hnl8⟩:=inMem_shape hm;rw [ea] at c2;obtain ⟨AR,hAR⟩:∃ AR,PX[g].args=AR:=⟨_,rfl⟩;rw [hAR] at hargs hpre ha4 hnd c2 hrs;have HRS:=hid hrs;have HAZ:Hid (∀ x ∈ locZ (plL PX) (g:Int),x.size≤maxLen):=hid (loc_sizes hok hgm);have HND:Hid ((locZ (plL PX) (g:Int)).Nodup):=hid (loc_nodup hok hgm);obtain ⟨LR,hLR⟩:=hpre;have HLR:=hid hLR;have HL64:Hid ((locZ (plL PX) (g:Int)).length≤64):=hid (loc_len64 hok.1.1 hok.1.2 (g:Int));have HRG:=hid hargs;have HEE:=hid hE;have fi0:(0:Int)≤(fi:Int):=by omega
 have fi1:(fi:Int)<((funI (plL PX)).length:Int):=by omega
 have g0:(0:Int)≤(g:Int):=by omega
 have fi64:(fi:Int)≤64:=by omega
 have g1:(g:Int)<(PX.length:Int):=by omega
 have HC2:Hid (∀ W,Below w.heap.size w W→W.cell? ⟨ga,g*4+2,none⟩=some (.slice xa AR.length xc)):=hid (fun W hb=>(hb.cell (p:=⟨ga,_,none⟩) hga).trans c2);clear hr hok hm ea ee hL hz hzl hE hg hz4 hAR hpa hLR hrs hgm hargs hnd c80 c81 c83 hlx hrt8 hcp8 hnl8
 go_enter Tryz.func84,Tryz.ntmps84
 go_wp2_with fail;refine (FL.out _ HBX.out).mono ?_;rintro e w1 ⟨v,rfl,hown,b1⟩;have HB1:Hid (Below w.heap.size w w1):=hid (HBX.out.trans (b1.mono HBX.out.size));obtain ⟨va,vc,rfl⟩:=own_sh hown;have HRI:=readI_of hown;obtain ⟨gv,rfl,hgv,cv⟩:=HRI fi (by omega);rw [hfe] at cv;have HOW:=hid hown;have bf0:w1.cell? ⟨w.heap.size,0,none⟩=some (.int .i64 fm):=(b1.cell (p:=⟨w.heap.size,0,none⟩) (by simp)).trans ((blk (heap_alloc_new w _)).1 0 _ rfl);have bf1:w1.cell? ⟨w.heap.size,1,none⟩=some (.int .i64 (inl:Int)):=(b1.cell (p:=⟨w.heap.size,1,none⟩) (by simp)).trans ((blk (heap_alloc_new w _)).1 1 _ rfl);have ca:=HC2.out w1 HB1.out;clear hown HRI b1;have HWL:Hid (w.heap.size<w1.heap.size):=hid (World.block_lt_of_cell? w1 _ bf0);have HGL:Hid (ga<w1.heap.size):=hid (World.block_lt_of_cell? w1 _ ca);go_upto_region 3 with fail;refine E_start (S:=(fun w'=>w'.cell? ⟨w.heap.size,0,none⟩=some (.int .i64 fm)∧w'.cell? ⟨w.heap.size,1,none⟩=some (.int .i64 (inl:Int))∧w'.cell? ⟨ga,g*4+2,none⟩=some (.slice xa AR.length xc))) 19 (by kernel_rfl) (⟨bf0,bf1,ca⟩) (fun hHeld=>?_);refine E_tk 0 ?_
 try simp only [Act.put,eS1,eS2,eS3,eA1,eA2,eA3]
 refine E_tk 1 ?_
 try simp only [Act.put,eS1,eS2,eS3,eA1,eA2,eA3]
 refine E_tk 2 ?_
 try simp only [Act.put,eS1,eS2,eS3,eA1,eA2,eA3]
 refine E_tk 3 ?_
 try simp only [Act.put,eS1,eS2,eS3,eA1,eA2,eA3]
 refine E_tk 4 ?_
 try simp only [Act.put,eS1,eS2,eS3,eA1,eA2,eA3]
 refine E_tk 5 ?_
 try simp only [Act.put,eS1,eS2,eS3,eA1,eA2,eA3]
 refine E_tk 6 ?_
 try simp only [Act.put,eS1,eS2,eS3,eA1,eA2,eA3]
 refine E_tk 7 ?_
 try simp only [Act.put,eS1,eS2,eS3,eA1,eA2,eA3]
 refine E_tk 8 ?_
 try simp only [Act.put,eS1,eS2,eS3,eA1,eA2,eA3]
 refine E_tk 9 ?_
 try simp only [Act.put,eS1,eS2,eS3,eA1,eA2,eA3]
 refine E_tk 10 ?_
 try simp only [Act.put,eS1,eS2,eS3,eA1,eA2,eA3]
 refine E_tk 11 ?_
 try simp only [Act.put,eS1,eS2,eS3,eA1,eA2,eA3]
 refine E_tk 12 ?_
 try simp only [Act.put,eS1,eS2,eS3,eA1,eA2,eA3]
 refine E_tk 13 ?_
 try simp only [Act.put,eS1,eS2,eS3,eA1,eA2,eA3]
 refine E_tk 14 ?_
 try simp only [Act.put,eS1,eS2,eS3,eA1,eA2,eA3]
 refine E_tk 15 ?_
 try simp only [Act.put,eS1,eS2,eS3,eA1,eA2,eA3]
 refine E_tk 16 ?_
 try simp only [Act.put,eS1,eS2,eS3,eA1,eA2,eA3]
 refine E_tk 17 ?_
 try simp only [Act.put,eS1,eS2,eS3,eA1,eA2,eA3]
 refine E_ready (rs:=[18]) (by kernel_rfl) (by decide) ?_;refine AllE.cons (o:=_) rfl (fun K0 hK=>?_) AllE.nil
 try simp only [eA1,eA2,eA3]
 go_simp
 refine hK.out _ _ ⟨(World.cell?_of_block (a:=⟨w.heap.size,0,none⟩) (((Below.refl _ w1).alloc (Nat.le_refl _) _).drew.block _ HWL.out)).trans bf0,(World.cell?_of_block (a:=⟨w.heap.size,1,none⟩) (((Below.refl _ w1).alloc (Nat.le_refl _) _).drew.block _ HWL.out)).trans bf1,(World.cell?_of_block (a:=⟨ga,g*4+2,none⟩) (((Below.refl _ w1).alloc (Nat.le_refl _) _).drew.block _ HGL.out)).trans ca⟩ (fun hHeld=>?_);clear hK K0
 try simp only [Act.put,eS1,eS2,eS3,eA1,eA2,eA3]
 refine E_last (o:=_) (by kernel_rfl) rfl (by kernel_rfl) (fun K0 hK=>?_)
 try simp only [eA1,eA2,eA3]
 go_simp
 refine hK.out _ _ ?_;clear hK K0;obtain ⟨w2,hw2⟩:∃ W,(w1.alloc (.cells #[.slice (some ⟨ga,0,none⟩) PX.length pc,.slice (some ⟨gv,0,none⟩) (funs (plL PX)).length vc,.int .i64 (inl:Int),.bool (bits .and .i64 (fm / 2 ^ fi) 1 == 1),.int .i64 (AR.length:Int),.int .i64 wd,.int .i64 0,.int .i64 0,.slice none 0 0] 128)).drew=W:=⟨_,rfl⟩;obtain ⟨K,hK⟩:∃ K:KcE,K=⟨.slice (some ⟨ga,0,none⟩) PX.length pc,.slice (some ⟨gv,0,none⟩) (funs (plL PX)).length vc,⟨plL PX,inl,frB fm fi,wd,AR.length⟩⟩:=⟨_,rfl⟩;have HKK:=hid hK;have HC2':Hid (w2.heap[w1.heap.size]?=some (.cells (crow K ⟨[],0,0,false,[],[]⟩ (.slice none 0 0)) 128 (0,0))):=hid (by rw [← hw2,hK];exact heap_alloc_new w1 _);have HB2:Hid (Below w1.heap.size w1 w2):=hid (by rw [← hw2];exact ((Below.refl _ w1).alloc (Nat.le_refl _) _).drew);have HSZ2:Hid (w1.heap.size<w2.heap.size):=hid (blk HC2'.out).2.2;have NB:=hid (i_newBody w1.heap.size g w2);clear hK;go_wp2_with fail;refine NB.out.mono ?_;rintro e w3 ⟨bb,mb,fb,rfl,n1,n2,n3,n4,n5,n6,n7,n8⟩;have HN:=hid (And.intro n4 (And.intro n5 (And.intro n6 n7)));have HRB:=hid n1;have HMB:=hid n2;have HFB:=hid n3;have HB3:Hid (Below w.heap.size w w3):=hid (HB1.out.trans ((HB2.out.mono (by have:=HB1.out.size;exact this)).trans (n8.mono (by have:=HB1.out.size;have:=HB2.out.size;omega))));have HB13:Hid (Below w1.heap.size w1 w3):=hid (HB2.out.trans (n8.mono HB2.out.size));have HCB:Hid (w3.heap[w1.heap.size]?=some (.cells (crow K ⟨[],0,0,false,[],[]⟩ (.slice none 0 0)) 128 (0,0))):=hid ((n8.block _ HSZ2.out).trans HC2'.out);have NE:Hid (bb≠mb∧w1.heap.size≠mb∧fb≠mb∧w1.heap.size<bb∧w1.heap.size<mb∧w1.heap.size<fb):=hid ⟨fun e=>map_not n2 (by rw [← e];exact n1) rfl,by have:=HSZ2.out;omega,fun e=>n7 e.symm,by have:=HSZ2.out;omega,by have:=HSZ2.out;omega,by have:=HSZ2.out;omega⟩;have ca3:=HC2.out w3 HB3.out;clear n1 n2 n3 n4 n5 n6 n7 n8 hw2 bf0 bf1 ca;go_wp2_with fail
 go_loopw [49] (fun v wr=>∃ (q:Nat) (D:DataW Unit),q≤AR.length∧v=.int .i64 (q:Int)∧Hid (wr.ownsMap (H:=Unit) Tryz.prog 9 (plainElem Tryz.prog 3) mb q D)∧Hid (ArgG D AR q)∧Hid (Step mb [psV mb] [psV mb] w3 wr)) (fun v _=>AR.length - (RowKit.intOf v).toNat)
 case atStart=>exact ⟨0,.map [],Nat.zero_le _,by go_num,HMB,hid (ArgG.zero _ _),hid (Step.refl _ _ _)⟩
 case round =>
  obtain ⟨q,D,hq,rfl,HM1,HG1,HS1⟩:=hrel;have KP:Hid (∀ k,k<w3.heap.size→k≠mb→wr.heap[k]?=w3.heap[k]?):=hid (fun k hk hm=>HS1.out.block k hk hm (fun v hv e=>by
   rw [List.mem_singleton.1 hv] at e;exact hm (Option.some.inj e).symm))
  have HB4:Hid (wr.heap[bb]?=some (.cells (nrow w1.heap.size none g (.slice none 0 0) mb 0 0 false fb (.slice none 0 0)) 181 (0,0))):=hid ((KP.out bb (blk HRB.out).2.2 NE.out.1).trans HRB.out);have HC4:Hid (wr.heap[w1.heap.size]?=some (.cells (crow K ⟨[],0,0,false,[],[]⟩ (.slice none 0 0)) 128 (0,0))):=hid ((KP.out _ (blk HCB.out).2.2 NE.out.2.1).trans HCB.out)
  by_cases hlt:q<AR.length
  ·have hql:(q:Int)<(AR.length:Int):=by omega
   have hq0:(0:Int)≤(q:Int):=by omega
   obtain ⟨gx,rfl,cx⟩:=HRS.out q hlt;have hgx:=World.block_lt_of_cell? w _ cx;have hgx3:gx<w3.heap.size:=by have:=HB3.out.size;have h:gx<w.heap.size:=hgx;omega
   have cx3:wr.cell? ⟨gx,q,none⟩=some (.string AR[q]):=(World.cell?_of_block (a:=⟨gx,q,none⟩) (KP.out gx hgx3 (by have:=NE.out;have h1:=HB1.out.size;have h:gx<w.heap.size:=hgx;omega))).trans ((HB3.out.cell (p:=⟨gx,q,none⟩) hgx).trans cx);have hsz:(AR[q]).size≤maxLen:=HAZ.out _ (by rw [← HLR.out];exact List.mem_append_left _ (List.getElem_mem hlt));have u1:IntKind.i64.wrap ((AR.length:Int) - (q:Int))=(AR.length:Int) - (q:Int):=IntWalk.i64_in _ (by omega);obtain ⟨w5,hrun,hM2,hg2⟩:=HM1.out.drew.update keyS Tryz.underlying177 (by unfold maxLen;omega) (keyS_of hsz) (val:=.int .i64 ((AR.length:Int) - (q:Int))) (plainElem_int Tryz.underlying3 (WalkArith.wf_i64 (by omega)));have HG2:Hid (ArgG (D.put (kN AR[q]) (.lit (.int .i64 ((AR.length:Int) - (q:Int))))) AR (q+1)):=hid (by
    have hnd:AR.Nodup:=by have h:=HND.out;rw [← HLR.out] at h;exact (List.nodup_append.1 h).1
    have h:=HG1.out.put HM1.out.isMap hlt hnd;rw [show ((AR.length - q:Nat):Int)=(AR.length:Int) - (q:Int) from by omega] at h;exact h)
   have HM2:=hid hM2;have HS2:Hid (Step mb [psV mb] [psV mb] w3 w5):=hid ((HS1.out.trans (Step.of_below (Below.refl _ _).drew)).trans (Step.of_grown (u:=psV mb) hg2 (by simp)));have SY:Hid (wr.cell? ⟨bb,4,none⟩=some (.map (some mb))∧wr.cell? ⟨w1.heap.size,4,none⟩=some (.int .i64 (AR.length:Int))):=hid ⟨(blk HB4.out).1 4 _ rfl,by
    have h:=(blk HC4.out).1 4 _ rfl;rw [HKK.out] at h;exact h⟩
   obtain ⟨y1,y2⟩:=SY.out;obtain ⟨nm,hnm⟩:∃ nm,AR[q]=nm:=⟨_,rfl⟩;rw [hnm] at cx3 hrun HM2 HG2;clear hM2 hg2 hnm hgx hgx3 cx hsz SY;go_upto_region 8 with fail;refine E_start (S:=(fun w'=>w'.cell? ⟨bb,4,none⟩=some (.map (some mb))∧w'.cell? ⟨w1.heap.size,4,none⟩=some (.int .i64 (AR.length:Int)))) 11 (by kernel_rfl) (⟨y1,y2⟩) (fun hHeld=>?_);refine E_tk 0 ?_
   try simp only [Act.put,eS1,eS2,eS3,eA1,eA2,eA3]
   refine E_tk 1 ?_
   try simp only [Act.put,eS1,eS2,eS3,eA1,eA2,eA3]
   refine E_tk 2 ?_
   try simp only [Act.put,eS1,eS2,eS3,eA1,eA2,eA3]
   refine E_tk 3 ?_
   try simp only [Act.put,eS1,eS2,eS3,eA1,eA2,eA3]
   refine E_tk 4 ?_
   try simp only [Act.put,eS1,eS2,eS3,eA1,eA2,eA3]
   refine E_tk 5 ?_
   try simp only [Act.put,eS1,eS2,eS3,eA1,eA2,eA3]
   refine E_tk 6 ?_
   try simp only [Act.put,eS1,eS2,eS3,eA1,eA2,eA3]
   refine E_tk 7 ?_
   try simp only [Act.put,eS1,eS2,eS3,eA1,eA2,eA3]
   refine E_tk 8 ?_
   try simp only [Act.put,eS1,eS2,eS3,eA1,eA2,eA3]
   refine E_tk 9 ?_
   try simp only [Act.put,eS1,eS2,eS3,eA1,eA2,eA3]
   refine E_tk 10 ?_
   try simp only [Act.put,eS1,eS2,eS3,eA1,eA2,eA3]
   refine E_last (o:=_) (by kernel_rfl) rfl (by kernel_rfl) (fun K0 hK=>?_)
   try simp only [eA1,eA2,eA3]
   go_simp
   refine hK.out _ _ ?_;clear hK K0;go_wp2_with fail;go_roundw
   case rel=>exact ⟨q+1,_,by omega,by go_num,HM2,HG2,HS2⟩
   case measure=>simp [RowKit.intOf];omega
  ·have hqq:q=AR.length:=by omega
   subst hqq;have HBW:Hid (Below w.heap.size w wr):=hid (HB3.out.trans (HS1.out.base HB3.out.size (by have:=NE.out;have h1:=HB1.out.size;omega) (fun v hv k hk=>by
    rw [List.mem_singleton.1 hv] at hk;have e:mb=k:=Option.some.inj hk
    have:=NE.out;have h1:=HB1.out.size;omega)))
   have HBW1:Hid (Below w1.heap.size w1 wr):=hid (HB13.out.trans (HS1.out.base HB13.out.size (by have:=NE.out;omega) (fun v hv k hk=>by
    rw [List.mem_singleton.1 hv] at hk;have e:mb=k:=Option.some.inj hk
    have:=NE.out;omega)))
   have HKF:Hid (wr.ownsMap (H:=Unit) Tryz.prog 3 (plainElem Tryz.prog 3) fb 0 (.map [])):=hid (map_keep HFB.out (KP.out fb HFB.out.lt NE.out.2.2.1));have DT:Hid (Below wr.heap.size wr wr.drew):=hid (Below.refl _ _).drew;have CA:Hid (∀ W,Below wr.heap.size wr W→W.cell? ⟨w1.heap.size,4,none⟩=some (.int .i64 (AR.length:Int))):=hid (fun W hb=>by
    have h:=(blk ((hb.block _ (blk HC4.out).2.2).trans HC4.out)).1 4 _ rfl;rw [HKK.out] at h;exact h)
   have hnm:¬ (AR.length:Int)<(AR.length:Int):=by omega
   clear hlt;go_upto_region 10 with fail;refine E_start (S:=(fun w'=>w'.cell? ⟨w1.heap.size,4,none⟩=some (.int .i64 (AR.length:Int)))) 9 (by kernel_rfl) (CA.out _ DT.out) (fun hHeld=>?_);refine E_tk 0 ?_
   try simp only [Act.put,eS1,eS2,eS3,eA1,eA2,eA3]
   refine E_tk 1 ?_
   try simp only [Act.put,eS1,eS2,eS3,eA1,eA2,eA3]
   refine E_tk 2 ?_
   try simp only [Act.put,eS1,eS2,eS3,eA1,eA2,eA3]
   refine E_tk 4 ?_
   try simp only [Act.put,eS1,eS2,eS3,eA1,eA2,eA3]
   refine E_tk 5 ?_
   try simp only [Act.put,eS1,eS2,eS3,eA1,eA2,eA3]
   refine E_tk 6 ?_
   try simp only [Act.put,eS1,eS2,eS3,eA1,eA2,eA3]
   refine E_tk 7 ?_
   try simp only [Act.put,eS1,eS2,eS3,eA1,eA2,eA3]
   refine E_ready (rs:=[3]) (by kernel_rfl) (by decide) ?_;refine AllE.cons (o:=_) rfl (fun K0 hK=>?_) AllE.nil
   try simp only [eA1,eA2,eA3]
   go_simp
   refine (LO.out _ (HBW.out.trans (DT.out.mono HBW.out.size))).mono ?_;rintro e w5 ⟨lv,rfl,hown5,b5⟩;go_wp2_with fail;have HB5:Hid (Below wr.heap.size wr w5):=hid (DT.out.trans b5);obtain ⟨la,lc,rfl⟩:=own_sh hown5;have HO5:=hid hown5;obtain ⟨a',ha1,ha2,hsl⟩:=run_from (P:=Tryz.prog) (t:=84) Tryz.underlying84 (fun W=>by kernel_rfl) la (locZ (plL PX) (g:Int)).length AR.length lc (by rw [← HLR.out,List.length_append];omega) (own_cap hown5) (own_none hown5) (own_zero hown5);have hll:(locZ (plL PX) (g:Int)).length - AR.length=LR.length:=by rw [← HLR.out,List.length_append];omega
   rw [hll] at hsl;have hdr:(locZ (plL PX) (g:Int)).drop AR.length=LR:=by rw [← HLR.out,List.drop_left]
   have PA:=hid (i_placeAbove w1.heap.size bb K ⟨[],0,0,false,[],[]⟩ (.slice none 0 0) none g (.slice none 0 0) mb D AR.length 0 LR fb (.slice none 0 0) a' (lc - AR.length) w5 ((HB5.out.block _ (blk HC4.out).2.2).trans HC4.out) ((HB5.out.block _ (blk HB4.out).2.2).trans HB4.out) (map_keep HM1.out (HB5.out.block _ HM1.out.lt)) (by have h:=ha2 w5 _ rfl (reads_of hown5);rw [hdr] at h;exact h) (fun gg oo h=>by
     obtain ⟨o1,h1⟩:=ha1 gg oo h;have hlt:=(hown5.lt gg (by rw [h1];rfl)).1;have hlt:wr.heap.size≤gg:=hlt;have e1:=(blk HB4.out).2.2;have e2:=HM1.out.lt;have e3:=(blk HC4.out).2.2;exact ⟨by omega,by omega,by omega⟩) (by have h:=HND.out;rw [← HLR.out] at h;exact (List.nodup_append.1 h).2.1) (fun x hx=>HAZ.out x (by rw [← HLR.out];exact List.mem_append_right _ hx)) (by have:=HL64.out;omega) (by omega) (by omega) (by show (0:Nat)≤1000000;omega))
   clear b5 hown5 ha1 ha2 hdr hll;refine hK.out _ _ (CA.out _ HB5.out) (fun hHeld=>?_);clear hK K0
   try simp only [Act.put,eS1,eS2,eS3,eA1,eA2,eA3]
   refine E_tk 8 ?_
   try simp only [Act.put,eS1,eS2,eS3,eA1,eA2,eA3]
   refine E_last (o:=_) (by kernel_rfl) rfl (by kernel_rfl) (fun K0 hK=>?_)
   try simp only [eA1,eA2,eA3]
   go_simp
   refine PA.out.mono ?_;intro e w6 HAB0;have HAB:=hid HAB0.2;obtain ⟨rfl,HAB1⟩:=HAB0;clear HAB1;go_wp2_with fail;refine hK.out _ _ ?_;clear hK K0;obtain ⟨D2,HC6,HB6,HM6,HG6,HS6⟩:=HAB.out;have HSF:Hid (Step w1.heap.size [psV bb,psV mb] [psV bb,psV mb] wr w6):=hid ((Step.of_below HB5.out).trans HS6.out);have KF:Hid (w6.ownsMap (H:=Unit) Tryz.prog 3 (plainElem Tryz.prog 3) fb 0 (.map [])):=hid (map_keep HKF.out (HSF.out.block fb HKF.out.lt (by have:=NE.out;omega) (fun v hv e=>by
    simp only [List.mem_cons,List.not_mem_nil,or_false] at hv
    rcases hv with rfl|rfl
    ·exact map_not HKF.out HB4.out (Option.some.inj e).symm
    ·exact NE.out.2.2.1 (Option.some.inj e).symm)))
   have HBW6:Hid (Below w1.heap.size w1 w6):=hid (HBW1.out.trans (HSF.out.base HBW1.out.size (Nat.le_refl _) (fun v hv k hk=>by
    simp only [List.mem_cons,List.not_mem_nil,or_false] at hv
    rcases hv with rfl|rfl
    ·have e:bb=k:=Option.some.inj hk
     have:=NE.out;omega
    ·have e:mb=k:=Option.some.inj hk
     have:=NE.out;omega)))
   have HKE:Hid (K.E=E):=hid (by rw [HKK.out,HEE.out,HRG.out]);have HKP:Hid (K.E.p=plL PX∧K.E.args=AR.length∧K.E.inl=inl∧K.E.words=wd):=hid (by rw [HKK.out];exact ⟨rfl,rfl,rfl,rfl⟩);have HPG:Hid (PgI K (some ⟨ga,0,none⟩) pc PX (some ⟨gv,0,none⟩) vc w1):=hid (by
    rw [HKK.out];have ho:=owns_lo HOW.out (Nat.zero_le _);rw [hfl] at ho;exact { pv:=rfl,read:=HR.out.below HB1.out,prog:=rfl,ok:=HOK.out,cap:=hcap,fv:=rfl,frow:=ho,inl:=hinl,args:=ha4,w1:=hwd.1,w2:=hwd.2 })
   have HLN:Hid ((locZ (plL PX) (g:Int)).length=AR.length+LR.length):=hid (by rw [← HLR.out,List.length_append]);have HCI:Hid (CiAt jT Tryz.prog w1.heap.size w1.heap.size w6 K ⟨[],0,(locZ K.E.p (g:Int)).length - K.E.args,false,[],[]⟩ (.slice none 0 0) [] (topSc K.E.p g) ⟨bb,none,.slice none 0 0,mb,fb⟩ (.slice none 0 0) 0):=hid (by
    have e1:(locZ K.E.p (g:Int)).length - K.E.args=LR.length:=by rw [HKP.out.1,HKP.out.2.1,HLN.out];omega
    refine ⟨⟨?_,World.ownsRow_nil _ _ _ _,rfl,⟨fun z hz=>(nomatch hz),List.Pairwise.nil⟩,Nat.le_refl _⟩,⟨?_,World.ownsRow_nil _ _ _ _,⟨_,D2,HM6.out,top_slots (A:=AR) (L:=LR) rfl HKP.out.2.1 ?_ ?_ HG1.out HG6.out,?_⟩,⟨_,KF.out,fun q h1 h2=>by simp at h2⟩,World.ownsRow_nil _ _ _ _,Nat.le_refl _,NE.out.2.2.2.1,NE.out.2.2.2.2.1,NE.out.2.2.2.2.2,fun e=>NE.out.2.2.1 e.symm⟩⟩
    ·rw [e1]
     have h:=HC6.out;rw [show max (0:Nat) (0+LR.length)=LR.length from by omega] at h;exact h
    ·have h:=HB6.out
     rw [nrow_is];have e2:freeN K.E (topSc K.E.p g)=0+LR.length:=by show (locZ K.E.p (g:Int)).length - K.E.args=_;rw [e1];omega
     rw [e2];exact h
    ·show locZ K.E.p (g:Int)=_;rw [HKP.out.1];exact HLR.out.symm
    ·show (locZ K.E.p (g:Int)).Nodup;rw [HKP.out.1];exact HND.out
    ·have:=HL64.out;have:=HLN.out;omega)
   have HBO:Hid (BodyOk K w6 (topSc K.E.p g) [] [topSc K.E.p g] ⟨bb,none,.slice none 0 0,mb,fb⟩):=hid ⟨rfl,⟨⟨rfl,by simp⟩,by rw [HKP.out.1];exact HGM.out,rfl⟩,⟨Nat.le_refl _,by simp,by
    show (locZ K.E.p (g:Int)).length - K.E.args≤64*1
    rw [HKP.out.1];have:=HL64.out;omega⟩,trivial,fun a h=>(nomatch h),rfl⟩
   have FU:=hid (i_function w1.heap.size w1.heap.size K (some ⟨ga,0,none⟩) pc PX (some ⟨gv,0,none⟩) vc w1 HPG.out (Nat.le_refl _) n (HLL.out _ _ _ _ _ _ _ _ _ HPG.out (Nat.le_refl _) HKP.out.2.2.1) g (by rw [HKP.out.1];exact HGM.out) z (by rw [HKE.out];exact HZ.out) HZL.out w6 _ _ _ _ 0 HCI.out HBO.out HBW6.out (by rw [HKP.out.1];have:=HL64.out;omega));go_wp2_with fail;refine FU.out.mono ?_;rintro e w7 ⟨rfl,iv7,jv7,X7,ln7,HC7,HS7⟩;go_wp2_with fail;go_ret;refine ⟨w1.heap.size,w1.heap.size,K.pv,K.fv,iv7,X7,rfl,hid ?_,HB1.out.size,hid (HB1.out.trans ((HBW6.out.trans (HCI.out.baseL HS7.out)).mono HB1.out.size))⟩;rw [← HKE.out];exact HC7.out.cc
end Go.Proofs.YtcflojdkaddemaaGreatDoor

namespace Go.Proofs.YtcflojdkaddemaaGreatDoor
open Go.RowKit Go.Lib Go.Maps
def IReplAll (inl:Nat):Prop:=∀ (B cb:Nat) (K:KcE) (pa:Option Addr) (pc:Nat) (PX:List LnL) (fa:Option Addr) (fc:Nat) (wb:World),PgI K pa pc PX fa fc wb→wb.heap.size≤B→K.E.inl=inl→∀ n,IBodyOk B cb K wb n→IReplOk B cb K wb n
theorem i_exprs {inl:Nat} (hR:IReplAll inl) (B cb:Nat) (K:KcE) (pa:Option Addr) (pc:Nat) (PX:List LnL) (fa:Option Addr) (fc:Nat) (wb:World) (hP:PgI K pa pc PX fa fc wb) (hBw:wb.heap.size≤B) (hi:K.E.inl=inl):∀ n,∀ m,m≤n→IExprOk B cb K wb m:=by
 intro n
 induction n with
 | zero =>
  intro m hm scs sc rest k i t z w iv X b jv xe xc h;obtain rfl:m=0:=by omega
  rw [cmiF] at h
  cases h
 | succ n ih =>
  intro m hm
  rcases Nat.lt_or_ge m (n+1) with h|h
  ·exact ih m (by omega)
  ·obtain rfl:m=n+1:=by omega
   exact i_expr B cb K pa pc PX fa fc wb hP hBw n ih (i_call B cb K pa pc PX fa fc wb hP hBw n (hR B cb K pa pc PX fa fc wb hP hBw hi n (i_lines B cb K pa pc PX fa fc wb hP hBw n fun q hq=>i_line B cb K pa pc PX fa fc wb hP hBw q fun q' hq'=>ih q' (by omega))))
theorem i_bodies {inl:Nat} (hR:IReplAll inl) (n:Nat):∀ (B cb:Nat) (K:KcE) (pa:Option Addr) (pc:Nat) (PX:List LnL) (fa:Option Addr) (fc:Nat) (wb:World),PgI K pa pc PX fa fc wb→wb.heap.size≤B→K.E.inl=inl→IBodyOk B cb K wb n :=
 fun B cb K pa pc PX fa fc wb hP hBw hi=>i_lines B cb K pa pc PX fa fc wb hP hBw n fun q hq=>i_line B cb K pa pc PX fa fc wb hP hBw q fun q' hq'=>i_exprs hR B cb K pa pc PX fa fc wb hP hBw hi n q' (by omega)
end Go.Proofs.YtcflojdkaddemaaGreatDoor

namespace Go.Proofs.YtcflojdkaddemaaGreatDoor
open Go.RowKit Go.Lib
theorem ret_i' {k:IntKind} {a b:Int} (h:a=b):Ending.returned (.int k a)=.returned (.int k b):=by rw [h]
theorem i_wrap (x:Int) (w:World):Calls Tryz.prog 219 #[.int .i64 x] w fun e w'=>e=.returned (.int .i64 (W32 x))∧w=w':=by
 have h0:=W32_lo x;have h1:=W32_hi x;have hr:=hid (W32_wrap x)
 go_enter Tryz.func219,Tryz.ntmps219
 go_wp2;go_ret;exact ⟨ret_i' (by rw [hr.out];unfold wrap64;omega),rfl⟩
theorem i_one (b:Bool) (w:World):Calls Tryz.prog 220 #[.bool b] w fun e w'=>e=.returned (.int .i64 (if b=true then 1 else 0))∧w=w':=by
 cases b
 all_goals
  go_enter Tryz.func220,Tryz.ntmps220
  go_wp2;go_ret;exact ⟨rfl,rfl⟩
set_option maxHeartbeats 400000 in
theorem i_apply (k a b:Int) (w:World):Calls Tryz.prog 210 #[.int .i64 k,.int .i64 a,.int .i64 b] w fun e w'=>e=.returned (.int .i64 (appZ k a b))∧w=w':=by
 have ha0:=W32_lo a;have ha1:=W32_hi a;have hb0:=W32_lo b;have hb1:=W32_hi b;have hm:=hid (mul_bd a b)
 by_cases h2:k=2
 ·subst h2
  have hr:=hid (appZ_add a b)
  go_enter Tryz.func210,Tryz.ntmps210
  go_wp2_with (first|(go_at_call 219;refine (i_wrap _ _).mono ?_;rintro e w' ⟨rfl,rfl⟩))
  go_ret;exact ⟨ret_i' hr.out.symm,rfl⟩
 by_cases h3:k=3
 ·subst h3
  have hr:=hid (appZ_sub a b)
  go_enter Tryz.func210,Tryz.ntmps210
  go_wp2_with (first|(go_at_call 219;refine (i_wrap _ _).mono ?_;rintro e w' ⟨rfl,rfl⟩))
  go_ret;exact ⟨ret_i' hr.out.symm,rfl⟩
 by_cases h4:k=4
 ·subst h4
  have hr:=hid (appZ_mul a b);have hm0:=hm.out.1;have hm1:=hm.out.2
  go_enter Tryz.func210,Tryz.ntmps210
  go_wp2_with (first|(go_at_call 219;refine (i_wrap _ _).mono ?_;rintro e w' ⟨rfl,rfl⟩))
  go_ret;exact ⟨ret_i' hr.out.symm,rfl⟩
 by_cases h5:k=5
 ·subst h5
  have hr:Hid (appZ 5 a b=if decide (W32 a<W32 b)=true then 1 else 0):=hid (by show (if W32 a<W32 b then _ else _)=_;simp)
  go_enter Tryz.func210,Tryz.ntmps210
  go_wp2_with (first|(go_at_call 219;refine (i_wrap _ _).mono ?_;rintro e w' ⟨rfl,rfl⟩)|(go_at_call 220;refine (i_one _ _).mono ?_;rintro e w' ⟨rfl,rfl⟩))
  all_goals go_ret
  all_goals exact ⟨ret_i' (by rw [hr.out];simp [*]),rfl⟩
 by_cases h6:k=6
 ·subst h6
  have hr:Hid (appZ 6 a b=if (W32 a == W32 b)=true then 1 else 0):=hid (by show (if W32 a=W32 b then _ else _)=_;simp)
  go_enter Tryz.func210,Tryz.ntmps210
  go_wp2_with (first|(go_at_call 219;refine (i_wrap _ _).mono ?_;rintro e w' ⟨rfl,rfl⟩)|(go_at_call 220;refine (i_one _ _).mono ?_;rintro e w' ⟨rfl,rfl⟩))
  all_goals go_ret
  all_goals exact ⟨ret_i' (by rw [hr.out];simp [*]),rfl⟩
 ·have hr:=hid (appZ_other k a b h2 h3 h4 h5 h6)
  have e2:(k == 2)=false:=by simpa using h2
  have e3:(k == 3)=false:=by simpa using h3
  have e4:(k == 4)=false:=by simpa using h4
  have e5:(k == 5)=false:=by simpa using h5
  have e6:(k == 6)=false:=by simpa using h6
  clear h2 h3 h4 h5 h6
  go_enter Tryz.func210,Tryz.ntmps210
  go_wp2_with (first|(go_at_call 219;refine (i_wrap _ _).mono ?_;rintro e w' ⟨rfl,rfl⟩))
  go_ret;exact ⟨ret_i' hr.out.symm,rfl⟩
end Go.Proofs.YtcflojdkaddemaaGreatDoor

namespace Go.Proofs.YtcflojdkaddemaaGreatDoor
open Go.RowKit Go.Lib
set_option maxRecDepth 100000 in
set_option maxHeartbeats 4000000 in
theorem i_whole (B:Nat) (v:Value) (o:List TokL) (w:World) (hB:B≤w.heap.size) (hown:w.ownsRow B 147 3 v o.length (toksV o)) (hl:o.length≤100) :
  Calls Tryz.prog 183 #[v] w fun e w'=>∃ v',e=.returned v'∧w'.ownsRow B 147 3 v' (fw o).length (toksV (fw o))∧Below w.heap.size w w':=by
 have HO:=hid hown;obtain ⟨a,c,rfl⟩:=owns3_shape hown;clear hown
 by_cases h3:o.length=3
 ·obtain ⟨t,x,y,rfl⟩:∃ t x y,o=[t,x,y]:=by
   match o,h3 with
   | [t,x,y],_=>exact ⟨t,x,y,rfl⟩
  obtain ⟨go,co,ho,hgo,_,hcs⟩:=toks_src HO.out (by simp);injection ho with ho1 _ ho2
  subst ho1 ho2;have m0:w.cell? ⟨go,0,none⟩=some (.int .i64 t.kind):=by have:=hcs 0 _ rfl;rwa [add_plain,Nat.zero_add] at this
  have m1:w.cell? ⟨go,3,none⟩=some (.int .i64 x.kind):=by have:=hcs 3 _ rfl;rwa [add_plain,Nat.zero_add] at this
  have m2:w.cell? ⟨go,4,none⟩=some (.int .i64 x.num):=by have:=hcs 4 _ rfl;rwa [add_plain,Nat.zero_add] at this
  have m3:w.cell? ⟨go,6,none⟩=some (.int .i64 y.kind):=by have:=hcs 6 _ rfl;rwa [add_plain,Nat.zero_add] at this
  have m4:w.cell? ⟨go,7,none⟩=some (.int .i64 y.num):=by have:=hcs 7 _ rfl;rwa [add_plain,Nat.zero_add] at this
  have hN:[t,x,y].length=3:=rfl;rw [hN] at HO ⊢;clear hcs h3 hN hl
  by_cases hk:2≤t.kind∧t.kind≤6
  ·have SI:Hid (∀ W:World,Calls Tryz.prog 209 #[.int .i64 t.kind] W fun e w'=>e=.returned (.bool true)∧W=w'):=hid (fun W=>by have:=i_oper t.kind W;rw [decide_eq_true hk.1,decide_eq_true hk.2] at this;exact this)
   have HK:=hid hk;clear hk
   by_cases hx:x.kind=0
   ·by_cases hy:y.kind=0
    ·rw [hx] at m1
     rw [hy] at m3;have HX:=hid hx;have HY:=hid hy;have SA:=hid (fun W=>i_apply t.kind x.num y.num W);obtain ⟨V,hV⟩:∃ V,appZ t.kind x.num y.num=V:=⟨_,rfl⟩;rw [hV] at SA;have HV:=hid hV;have ST:=hid (fun W=>i_tok 0 V ⟨#[]⟩ W (by decide));obtain ⟨ok,hok⟩:∃ ok,tokB ⟨0,V,⟨#[]⟩⟩=ok:=⟨_,rfl⟩;rw [hok] at ST;have HOK:Hid (ok=true↔0≤V∧V≤999):=hid (by rw [← hok,tokB_0];simp [noName];intros;rfl);have HBA:Hid (Below w.heap.size w (w.alloc (.cells #[.int .i64 0,.int .i64 V,.string ⟨#[]⟩] 147))):=hid ((Below.refl _ _).alloc (Nat.le_refl _) _);have X0:=heap_alloc_new w (.cells #[.int .i64 0,.int .i64 V,.string ⟨#[]⟩] 147);clear hx hy hV hok X0
     go_enter Tryz.func183,Tryz.ntmps183
     go_wp2_with (first|(go_at_call 209;refine (SI.out _).mono ?_;rintro e w' ⟨rfl,rfl⟩))
     go_region_held3 (fun w'=>w'.cell? ⟨go,0,none⟩=some (.int .i64 t.kind)∧w'.cell? ⟨go,4,none⟩=some (.int .i64 x.num)∧w'.cell? ⟨go,7,none⟩=some (.int .i64 y.num)) (first|exact ⟨m0,m2,m4⟩|go_keep) (first
      | (go_at_call 210;((with_reducible refine (SA.out _).mono ?_);rintro e w' ⟨rfl,rfl⟩)))
     all_goals
      go_wp2_with fail;refine (ST.out _).mono ?_;rintro e w4 ⟨rfl,b4⟩;have hsz:(w.alloc (.cells #[.int .i64 0,.int .i64 V,.string ⟨#[]⟩] 147)).drew.heap.size=w.heap.size+1:=by show (w.alloc (.cells #[.int .i64 0,.int .i64 V,.string ⟨#[]⟩] 147)).heap.size=_;simp
      rw [hsz] at b4;have P4:w4.heap[w.heap.size]?=some (.cells #[.int .i64 0,.int .i64 V,.string ⟨#[]⟩] 147 (0,0)):=(b4.block _ (by omega)).trans (heap_alloc_new w _);have HB4:Hid (Below w.heap.size w w4):=hid ((HBA.out.drew).trans (b4.mono (by omega)));have e0:w4.cell? ⟨w.heap.size,0,none⟩=some (.int .i64 0):=(blk P4).1 0 _ rfl;have e1:w4.cell? ⟨w.heap.size,1,none⟩=some (.int .i64 V):=(blk P4).1 1 _ rfl;have e2:w4.cell? ⟨w.heap.size,2,none⟩=some (.string ⟨#[]⟩):=(blk P4).1 2 _ rfl;have HO4:=hid (owns3_below HO.out ((HB4.out).mono (Nat.le_refl _)));have z4:=HB4.out.size;clear b4 P4 hsz m0 m1 m2 m3 m4
      cases ok
      ·have HNO:=hid (fw_no t x y (fun h=>absurd (HOK.out.2 (by rw [HV.out] at h;exact ⟨h.2.2.2.2.1,h.2.2.2.2.2⟩)) (by decide)))
       go_wp2;go_ret;rw [HNO.out];exact ⟨_,rfl,HO4.out,HB4.out⟩
      ·have HNO:Hid (fw [t,x,y]=[foldT V]):=hid (by rw [fw_yes t x y ⟨HK.out.1,HK.out.2,HX.out,HY.out,by rw [HV.out];exact (HOK.out.1 rfl).1,by rw [HV.out];exact (HOK.out.1 rfl).2⟩,HV.out])
       have HT:=hid (tok_row (B:=B) (T:=147) w4 (foldT V) (by omega));have HB5:Hid (Below w.heap.size w (w4.alloc (.cells #[.int .i64 0,.int .i64 V,.string ⟨#[]⟩] 147))):=hid (HB4.out.alloc z4 _);go_wp2;go_ret;rw [HNO.out];exact ⟨_,rfl,HT.out,HB5.out⟩
    ·have HNO:=hid (fw_no t x y (fun h=>hy h.2.2.2.1))
     have hd:(y.kind != 0)=true:=by simpa using hy
     rw [hx] at m1;clear hy hx
     go_enter Tryz.func183,Tryz.ntmps183
     go_wp2_with (first|(go_at_call 209;refine (SI.out _).mono ?_;rintro e w' ⟨rfl,rfl⟩))
     go_ret;rw [HNO.out];exact ⟨_,rfl,HO.out,Below.refl _ _⟩
   ·have HNO:=hid (fw_no t x y (fun h=>hx h.2.2.1))
    have hd:(x.kind != 0)=true:=by simpa using hx
    clear hx
    go_enter Tryz.func183,Tryz.ntmps183
    go_wp2_with (first|(go_at_call 209;refine (SI.out _).mono ?_;rintro e w' ⟨rfl,rfl⟩))
    go_ret;rw [HNO.out];exact ⟨_,rfl,HO.out,Below.refl _ _⟩
  ·have SI:Hid (∀ W:World,Calls Tryz.prog 209 #[.int .i64 t.kind] W fun e w'=>e=.returned (.bool false)∧W=w'):=hid (fun W=>by have:=i_oper t.kind W;rw [show (decide (2≤t.kind)&&decide (t.kind≤6))=false from by rw [Bool.and_eq_false_iff];by_cases h:2≤t.kind;exact .inr (decide_eq_false (fun h'=>hk ⟨h,h'⟩));exact .inl (decide_eq_false h)] at this;exact this)
   have HNO:=hid (fw_no t x y (fun h=>hk ⟨h.1,h.2.1⟩));clear hk
   go_enter Tryz.func183,Tryz.ntmps183
   go_wp2_with (first|(go_at_call 209;refine (SI.out _).mono ?_;rintro e w' ⟨rfl,rfl⟩))
   go_ret;rw [HNO.out];exact ⟨_,rfl,HO.out,Below.refl _ _⟩
 ·have HNO:=hid (fw_len o h3)
  obtain ⟨N,hN⟩:∃ N,o.length=N:=⟨_,rfl⟩;rw [hN] at HO h3 hl ⊢;have HN:=hid hN;have hd:((N:Int) != 3)=true:=by simp;omega
  clear h3 hN
  go_enter Tryz.func183,Tryz.ntmps183
  go_wp2_with fail;go_ret;rw [HNO.out];exact ⟨_,rfl,by rw [HN.out];exact HO.out,Below.refl _ _⟩
end Go.Proofs.YtcflojdkaddemaaGreatDoor
