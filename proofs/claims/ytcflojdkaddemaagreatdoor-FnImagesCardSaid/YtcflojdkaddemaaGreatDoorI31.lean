/- Parts of the proof. -/
import Derived.Test.YtcflojdkaddemaaGreatDoorI30
namespace Go.Proofs.YtcflojdkaddemaaGreatDoor
open Go.RowKit Go.Lib Go.Maps
theorem rep_res (t t':Array Value):results Tryz.f233 t=results Tryz.f233 t':=by simp [results,Tryz.results233]
theorem args4' {p:List PLine} {PX:List LnL} (ho:OkI p) (hp:plL PX=p):∀ x ∈ PX,x.args.length≤1048576:=args4 (by rw [hp];exact ho)
attribute [local go_sem] Oper.semAt_some
set_option maxRecDepth 100000 in
set_option maxHeartbeats 16000000 in
theorem i_replace (B cb:Nat) (K:KcE) (pa:Option Addr) (pc:Nat) (PX:List LnL) (fa:Option Addr) (fc:Nat) (wb:World) (hP:PgI K pa pc PX fa fc wb) (hBw:wb.heap.size≤B) (n:Nat) (hB:IBodyOk B cb K wb n):IReplOk B cb K wb n:=by
 intro scs sc rest k g t R w iv X b jv h hrp hb hg hd1 hd2 hzl hu hci hW;have hz4:=args4' hP.ok hP.prog;have hpl:=hP.len;obtain ⟨hlx,hargs,hpre,ha4,hnd⟩:=loc_args hP.ok hg;have hgl:g<K.E.p.length:=hlx;have hpp:K.E.p=plL PX:=hP.prog.symm;have LO:Hid (∀ W,Below w.heap.size w W→Calls Tryz.prog 143 #[.slice pa PX.length pc,.int .i64 (g:Int)] W (StrR 9 W.heap.size (locZ K.E.p (g:Int)) W)):=hid (fun W hb=>by
  have h:=i_localsOf pa pc PX (g:Int) W (by omega) hP.cap ((hP.read.below hW).below hb) hz4;rw [hP.prog] at h;exact h)
 have HCI:=hid hci;have HBO:=hid hb;have HW:=hid hW;have HP:=hid hP;have hgx:g<PX.length:=by have h:=hP.prog;rw [hpp,plL_length] at hgl;exact hgl
 obtain ⟨ga,hpa,hga,⟨c80,c81,c2,c83⟩,hm⟩:=hP.read g hgx;obtain ⟨xa,xb,xc,xd,ea,ee,hrs,hrt8,hcp8,hnl8⟩:=inMem_shape hm;rw [ea] at c2;have hpa2:K.E.p[g].args=PX[g].args:=by
  have:=pl_at PX g hgx (by rw [hP.prog];exact hgl)
  simp only [hP.prog] at this;rw [this];rfl
 obtain ⟨AR,hAR⟩:∃ AR,PX[g].args=AR:=⟨_,rfl⟩;rw [hpa2,hAR] at hargs hpre ha4 hnd;rw [hAR] at c2;have KB:Hid (∀ W,Below w.heap.size w W→W.cell? ⟨b.bb,0,none⟩=some (.pointer (some ⟨cb,0,none⟩))∧W.cell? ⟨cb,0,none⟩=some (.slice pa PX.length pc)∧W.cell? ⟨ga,g*4+2,none⟩=some (.slice xa AR.length xc)):=hid (fun W hB2=>⟨(HCI.out.below hB2).cells.1,by rw [← HP.out.pv];exact (blk (HCI.out.below hB2).cc.row).1 0 _ rfl,((HW.out.trans (hB2.mono HW.out.size)).cell (p:=⟨ga,_,none⟩) hga).trans c2⟩);have g0:(0:Int)≤(g:Int):=by omega
 have g1:(g:Int)<(PX.length:Int):=by omega
 have HBX:Hid (Below w.heap.size w (w.alloc (.cells #[.pointer (some ⟨b.bb,0,none⟩)] 175))):=hid ((Below.refl _ _).alloc (Nat.le_refl _) _);have HX0:Hid (∀ W,Below (w.heap.size+1) (w.alloc (.cells #[.pointer (some ⟨b.bb,0,none⟩)] 175)) W→W.cell? ⟨w.heap.size,0,none⟩=some (.pointer (some ⟨b.bb,0,none⟩))):=hid (fun W hb=>(blk ((hb.block w.heap.size (by omega)).trans (heap_alloc_new w _))).1 0 _ rfl);have hxs:(w.alloc (.cells #[.pointer (some ⟨b.bb,0,none⟩)] 175)).heap.size=w.heap.size+1:=by simp
 have D1:Hid (Below (w.heap.size+1) (w.alloc (.cells #[.pointer (some ⟨b.bb,0,none⟩)] 175)) (w.alloc (.cells #[.pointer (some ⟨b.bb,0,none⟩)] 175)).drew):=hid (by have h:=(Below.refl (w.alloc (.cells #[.pointer (some ⟨b.bb,0,none⟩)] 175)).heap.size (w.alloc (.cells #[.pointer (some ⟨b.bb,0,none⟩)] 175))).drew;rw [hxs] at h;exact h);have D0:Hid (Below w.heap.size w (w.alloc (.cells #[.pointer (some ⟨b.bb,0,none⟩)] 175)).drew):=hid HBX.out.drew;have ST:Hid (∀ W,Below (w.heap.size+1) (w.alloc (.cells #[.pointer (some ⟨b.bb,0,none⟩)] 175)) W→Below w.heap.size w W→W.cell? ⟨w.heap.size,0,none⟩=some (.pointer (some ⟨b.bb,0,none⟩))∧W.cell? ⟨b.bb,0,none⟩=some (.pointer (some ⟨cb,0,none⟩))∧W.cell? ⟨cb,0,none⟩=some (.slice pa PX.length pc)∧W.cell? ⟨ga,g*4+2,none⟩=some (.slice xa AR.length xc)):=hid (fun W h1 h2=>⟨HX0.out W h1,KB.out W h2⟩);subst hpa;clear c80 c81 c83 hrt8 hcp8 hnl8 hm ea ee hpp hpa2 hAR;have NB:=hid (fun W=>i_newBody cb g W);obtain ⟨L,hL⟩:∃ L,locZ K.E.p (g:Int)=L:=⟨_,rfl⟩;rw [hL] at LO hpre;have HLL:=hid hL;clear hL hci hb hW hP;refine calls_of_wp_marksU Tryz.func233 rfl ?_;simp only [Tryz.ntmps233,List.size_toArray,List.length_cons,List.length_nil,Nat.reduceAdd,Nat.reduceSub,Array.replicate_succ,Array.replicate_zero,List.push_toArray,List.append_toArray,List.nil_append,List.cons_append];have hQ:∀ (R:Ending→World→Prop) (v:Value) (d:Option Nat) c (a:Act) w,bodyPostU Tryz.prog Tryz.f233 R (.panic c) (a.put d v) w→bodyPostU Tryz.prog Tryz.f233 R (.panic c) a w:=fun R v d c a w h=>by
  have hd:(a.put d v).defers=a.defers:=by cases d <;> rfl
  have h':LeavesU Tryz.prog Tryz.f233 (a.put d v).tmps R (a.put d v).defers (.panicking c) w:=h;rw [hd] at h';exact leavesU_tmps rep_res _ _ _ _ _ h'
 go_upto_region 1 with fail;refine E_start (S:=(fun w'=>w'.cell? ⟨w.heap.size,0,none⟩=some (.pointer (some ⟨b.bb,0,none⟩))∧w'.cell? ⟨b.bb,0,none⟩=some (.pointer (some ⟨cb,0,none⟩))∧w'.cell? ⟨cb,0,none⟩=some (.slice (some ⟨ga,0,none⟩) PX.length pc)∧w'.cell? ⟨ga,g*4+2,none⟩=some (.slice xa AR.length xc))) 22 (by kernel_rfl) (ST.out _ D1.out D0.out) (fun hHeld=>?_);refine E_tk 0 ?_ (hQ:=fun c a w h=>hQ _ _ _ c a w h)
 try simp only [Act.put,eS1,eS2,eS3,eA1,eA2]
 refine E_tk 1 ?_ (hQ:=fun c a w h=>hQ _ _ _ c a w h)
 try simp only [Act.put,eS1,eS2,eS3,eA1,eA2,eA3]
 refine E_tk 2 ?_ (hQ:=fun c a w h=>hQ _ _ _ c a w h)
 try simp only [Act.put,eS1,eS2,eS3,eA1,eA2,eA3]
 refine E_tk 3 ?_ (hQ:=fun c a w h=>hQ _ _ _ c a w h)
 try simp only [Act.put,eS1,eS2,eS3,eA1,eA2,eA3]
 refine E_tk 4 ?_ (hQ:=fun c a w h=>hQ _ _ _ c a w h)
 try simp only [Act.put,eS1,eS2,eS3,eA1,eA2,eA3]
 refine E_tk 5 ?_ (hQ:=fun c a w h=>hQ _ _ _ c a w h)
 try simp only [Act.put,eS1,eS2,eS3,eA1,eA2,eA3]
 refine E_tk 6 ?_ (hQ:=fun c a w h=>hQ _ _ _ c a w h)
 try simp only [Act.put,eS1,eS2,eS3,eA1,eA2,eA3]
 refine E_tk 7 ?_ (hQ:=fun c a w h=>hQ _ _ _ c a w h)
 try simp only [Act.put,eS1,eS2,eS3,eA1,eA2,eA3]
 refine E_tk 9 ?_ (hQ:=fun c a w h=>hQ _ _ _ c a w h)
 try simp only [Act.put,eS1,eS2,eS3,eA1,eA2,eA3]
 refine E_tk 10 ?_ (hQ:=fun c a w h=>hQ _ _ _ c a w h)
 try simp only [Act.put,eS1,eS2,eS3,eA1,eA2,eA3]
 refine E_tk 11 ?_ (hQ:=fun c a w h=>hQ _ _ _ c a w h)
 try simp only [Act.put,eS1,eS2,eS3,eA1,eA2,eA3]
 refine E_tk 12 ?_ (hQ:=fun c a w h=>hQ _ _ _ c a w h)
 try simp only [Act.put,eS1,eS2,eS3,eA1,eA2,eA3]
 refine E_tk 13 ?_ (hQ:=fun c a w h=>hQ _ _ _ c a w h)
 try simp only [Act.put,eS1,eS2,eS3,eA1,eA2,eA3]
 refine E_tk 14 ?_ (hQ:=fun c a w h=>hQ _ _ _ c a w h)
 try simp only [Act.put,eS1,eS2,eS3,eA1,eA2,eA3]
 refine E_tk 15 ?_ (hQ:=fun c a w h=>hQ _ _ _ c a w h)
 try simp only [Act.put,eS1,eS2,eS3,eA1,eA2,eA3]
 refine E_tk 16 ?_ (hQ:=fun c a w h=>hQ _ _ _ c a w h)
 try simp only [Act.put,eS1,eS2,eS3,eA1,eA2,eA3]
 refine E_tk 17 ?_ (hQ:=fun c a w h=>hQ _ _ _ c a w h)
 try simp only [Act.put,eS1,eS2,eS3,eA1,eA2,eA3]
 refine E_tk 18 ?_ (hQ:=fun c a w h=>hQ _ _ _ c a w h)
 try simp only [Act.put,eS1,eS2,eS3,eA1,eA2,eA3]
 refine E_tk 19 ?_ (hQ:=fun c a w h=>hQ _ _ _ c a w h)
 try simp only [Act.put,eS1,eS2,eS3,eA1,eA2,eA3]
 refine E_tk 20 ?_ (hQ:=fun c a w h=>hQ _ _ _ c a w h)
 try simp only [Act.put,eS1,eS2,eS3,eA1,eA2,eA3]
 refine E_ready (rs:=[8]) (by kernel_rfl) (by decide) ?_;refine AllE.cons (o:=_) rfl (fun K0 hK=>?_) AllE.nil
 try simp only [eA1,eA2,eA3]
 go_simp
 refine (LO.out _ D0.out).mono ?_;rintro e w5 ⟨lv,rfl,hown5,b5⟩;obtain ⟨la,lc,rfl⟩:=own_sh hown5;have HO5:=hid hown5;have D15:Hid (Below (w.heap.size+1) (w.alloc (.cells #[.pointer (some ⟨b.bb,0,none⟩)] 175)) w5):=hid (D1.out.trans (b5.mono (by have:=D1.out.size;simp at this ⊢)));have D05:Hid (Below w.heap.size w w5):=hid (D0.out.trans (b5.mono (by have:=D0.out.size;exact this)));clear b5 hown5;go_wp2_with fail;refine hK.out _ _ (ST.out _ D15.out D05.out) (fun hHeld=>?_);clear hK K0
 try simp only [Act.put,eS1,eS2,eS3,eA1,eA2,eA3]
 refine E_tk 21 ?_ (hQ:=fun c a w h=>hQ _ _ _ c a w h)
 try simp only [Act.put,eS1,eS2,eS3,eA1,eA2,eA3]
 refine E_last (o:=_) (by kernel_rfl) rfl (by kernel_rfl) (fun K0 hK=>?_)
 try simp only [eA1,eA2,eA3]
 go_simp
 refine hK.out _ _ ?_;clear hK K0;go_wp2_with fail;refine (NB.out _).mono ?_;rintro e w6 ⟨bb2,mb2,fb2,rfl,n1,n2,n3,n4,n5,n6,n7,n8⟩;have HN:=hid (And.intro n4 (And.intro n5 (And.intro n6 n7)));have HRB:=hid n1;have HMB:=hid n2;have HFB:=hid n3;have HN8:=hid n8;clear n1 n2 n3 n4 n5 n6 n7 n8;have HSZ5:Hid (w.heap.size<w5.heap.size):=hid (by have:=D15.out.size;simp at this;omega);obtain ⟨wz,hwz⟩:∃ W,w6.alloc (.cells #[.pointer (some ⟨bb2,0,none⟩)] 175)=W:=⟨_,rfl⟩;have HAZ:Hid (Below w6.heap.size w6 wz):=hid (by rw [← hwz];exact (Below.refl _ _).alloc (Nat.le_refl _) _);have HTZ:Hid (wz.heap[w6.heap.size]?=some (.cells #[.pointer (some ⟨bb2,0,none⟩)] 175 (0,0))):=hid (by rw [← hwz];exact heap_alloc_new w6 _);have D06:Hid (Below w.heap.size w w6):=hid (D05.out.trans (HN8.out.mono D05.out.size));have D16:Hid (Below (w.heap.size+1) (w.alloc (.cells #[.pointer (some ⟨b.bb,0,none⟩)] 175)) w6):=hid (D15.out.trans (HN8.out.mono (by have:=D15.out.size;simp at this;omega)));have D0z:Hid (Below w.heap.size w wz):=hid (D06.out.trans (HAZ.out.mono D06.out.size));have D1z:Hid (Below (w.heap.size+1) (w.alloc (.cells #[.pointer (some ⟨b.bb,0,none⟩)] 175)) wz):=hid (D16.out.trans (HAZ.out.mono (by have:=D16.out.size;simp at this;omega)));have HCz:=hid (HCI.out.below D0z.out);obtain ⟨ca,cc,hchv⟩:=own_sh HCz.out.bd.ch;have hcl:sc.chain.length≤4:=by have:=HBO.out.chn;have:=HBO.out.sf.2.1;have:=HP.out.inl;omega
 have SZ:Hid (∀ W,Below wz.heap.size wz W→W.cell? ⟨w.heap.size,0,none⟩=some (.pointer (some ⟨b.bb,0,none⟩))∧W.cell? ⟨w6.heap.size,0,none⟩=some (.pointer (some ⟨bb2,0,none⟩))∧W.cell? ⟨b.bb,3,none⟩=some (.slice ca sc.chain.length cc)∧W.cell? ⟨b.bb,6,none⟩=some (.int .i64 (k:Int))∧W.cell? ⟨b.bb,5,none⟩=some (.int .i64 (freeN K.E sc:Int))):=hid (fun W hb=>⟨HX0.out W (D1z.out.trans (hb.mono (by have:=D1z.out.size;simp at this;omega))),(blk ((hb.block _ (blk HTZ.out).2.2).trans HTZ.out)).1 0 _ rfl,by rw [← hchv];exact (blk (HCz.out.below hb).bd.row).1 3 _ rfl,(blk (HCz.out.below hb).bd.row).1 6 _ rfl,(blk (HCz.out.below hb).bd.row).1 5 _ rfl⟩);have CL:Hid (∀ W,Below wz.heap.size wz W→Calls Tryz.prog 213 #[.slice ca sc.chain.length cc] W fun e w'=>∃ v',e=.returned v'∧w'.ownsRow W.heap.size 3 1 v' (natI sc.chain).length (intV (natI sc.chain))∧Below W.heap.size W w'):=hid (fun W hb=>by
  have h:=(HCz.out.below hb).bd.ch;rw [hchv,← natI_length sc.chain] at h;have h2:=x_cloneI _ (natI sc.chain) W (owns_lo h (Nat.zero_le _)) (by rw [natI_length];omega);rw [natI_length sc.chain] at h2 ⊢;exact h2)
 have AP:Hid (∀ W v8 gn,W.ownsRow wz.heap.size 3 1 v8 sc.chain.length (intV (natI sc.chain))→W.ownsRow 0 3 1 (.slice (some ⟨gn,0,none⟩) 1 1) 1 [.int .i64 (k:Int)]→wz.heap.size≤W.heap.size→∃ v9 w9,(Builtin.append_ #[36,36] 36 #[v8,.slice (some ⟨gn,0,none⟩) 1 1]).run Tryz.prog W=.ok v9 w9∧w9.ownsRow wz.heap.size 3 1 v9 (sc.chain.length+1) (intV (natI sc.chain)++[.int .i64 (k:Int)])∧W.grownBy w9 v8.ownBlock):=hid (fun W v8 gn h1 h2 h3=>by
  obtain ⟨i0,hi,hz0,hz1,hz2⟩:=info_parts infoIn;exact run_app_own (P:=Tryz.prog) wz.heap.size 36 36 3 i0 _ 1 8 Tryz.underlying36 hi hz0 hz1 hz2 rfl (by decide) v8 _ _ h1 _ 0 1 [.int .i64 (k:Int)] h2 (by intro u hu;rw [List.mem_singleton.1 hu];rfl) (by unfold maxLen;omega) (by omega) h3)
 have NEB:Hid (w.heap.size≠bb2∧w6.heap.size≠bb2∧b.bb≠bb2):=hid ⟨by have:=HN.out.1;have:=HSZ5.out;omega,by have:=(blk HRB.out).2.2;omega,by have:=HN.out.1;have:=HCI.out.bd.blt;have:=HSZ5.out;omega⟩;have DZ:Hid (Below wz.heap.size wz wz.drew):=hid (Below.refl _ _).drew;go_upto_region 3 with fail
 go_cut [] from 38 to 62 (fun wx=>∃ v9,Hid (wx.ownsRow wz.heap.size 3 1 v9 (sc.chain.length+1) (intV (natI (sc.chain++[k]))))∧Hid (wx.heap[bb2]?=some (.cells (nrow cb (some b.bb) g v9 mb2 (freeN K.E sc) 0 false fb2 (.slice none 0 0)) 181 (0,0)))∧Hid (wz.grownBy wx (some bb2)))
 case first =>
  rename_i J KK hJ hKK
  refine E_start (S:=(fun w'=>w'.cell? ⟨w.heap.size,0,none⟩=some (.pointer (some ⟨b.bb,0,none⟩))∧w'.cell? ⟨w6.heap.size,0,none⟩=some (.pointer (some ⟨bb2,0,none⟩))∧w'.cell? ⟨b.bb,3,none⟩=some (.slice ca sc.chain.length cc)∧w'.cell? ⟨b.bb,6,none⟩=some (.int .i64 (k:Int))∧w'.cell? ⟨b.bb,5,none⟩=some (.int .i64 (freeN K.E sc:Int)))) 27 (by kernel_rfl) (SZ.out _ DZ.out) (fun hHeld=>?_);refine E_tk 0 ?_ (hQ:=fun c a w h=>hQ _ _ _ c a w h)
  try simp only [Act.put,eS1,eS2,eS3,eA1,eA2]
  refine E_tk 1 ?_ (hQ:=fun c a w h=>hQ _ _ _ c a w h)
  try simp only [Act.put,eS1,eS2,eS3,eA1,eA2,eA3]
  refine E_tk 2 ?_ (hQ:=fun c a w h=>hQ _ _ _ c a w h)
  try simp only [Act.put,eS1,eS2,eS3,eA1,eA2,eA3]
  refine E_tk 3 ?_ (hQ:=fun c a w h=>hQ _ _ _ c a w h)
  try simp only [Act.put,eS1,eS2,eS3,eA1,eA2,eA3]
  refine E_tk 4 ?_ (hQ:=fun c a w h=>hQ _ _ _ c a w h)
  try simp only [Act.put,eS1,eS2,eS3,eA1,eA2,eA3]
  refine E_tk 5 ?_ (hQ:=fun c a w h=>hQ _ _ _ c a w h)
  try simp only [Act.put,eS1,eS2,eS3,eA1,eA2,eA3]
  refine E_tk 6 ?_ (hQ:=fun c a w h=>hQ _ _ _ c a w h)
  try simp only [Act.put,eS1,eS2,eS3,eA1,eA2,eA3]
  refine E_tk 7 ?_ (hQ:=fun c a w h=>hQ _ _ _ c a w h)
  try simp only [Act.put,eS1,eS2,eS3,eA1,eA2,eA3]
  refine E_tk 9 ?_ (hQ:=fun c a w h=>hQ _ _ _ c a w h)
  try simp only [Act.put,eS1,eS2,eS3,eA1,eA2,eA3]
  refine E_tk 10 ?_ (hQ:=fun c a w h=>hQ _ _ _ c a w h)
  try simp only [Act.put,eS1,eS2,eS3,eA1,eA2,eA3]
  refine E_tk 11 ?_ (hQ:=fun c a w h=>hQ _ _ _ c a w h)
  try simp only [Act.put,eS1,eS2,eS3,eA1,eA2,eA3]
  refine E_tk 12 ?_ (hQ:=fun c a w h=>hQ _ _ _ c a w h)
  try simp only [Act.put,eS1,eS2,eS3,eA1,eA2,eA3]
  refine E_tk 15 ?_ (hQ:=fun c a w h=>hQ _ _ _ c a w h)
  try simp only [Act.put,eS1,eS2,eS3,eA1,eA2,eA3]
  refine E_tk 16 ?_ (hQ:=fun c a w h=>hQ _ _ _ c a w h)
  try simp only [Act.put,eS1,eS2,eS3,eA1,eA2,eA3]
  refine E_tk 17 ?_ (hQ:=fun c a w h=>hQ _ _ _ c a w h)
  try simp only [Act.put,eS1,eS2,eS3,eA1,eA2,eA3]
  refine E_tk 18 ?_ (hQ:=fun c a w h=>hQ _ _ _ c a w h)
  try simp only [Act.put,eS1,eS2,eS3,eA1,eA2,eA3]
  refine E_ready (rs:=[8,13]) (by kernel_rfl) (by decide) ?_;refine AllE.cons (o:=_) rfl (fun K0 hK=>?_) (AllE.cons (o:=_) rfl (fun K0 hK=>?_) AllE.nil)
  ·try simp only [eA1,eA2,eA3]
   go_simp
   refine (CL.out _ DZ.out).mono ?_;rintro e w7 ⟨v8,rfl,hown8,b8⟩;have HB7:Hid (Below wz.heap.size wz w7):=hid (DZ.out.trans b8);have HO7:Hid (w7.ownsRow wz.heap.size 3 1 v8 sc.chain.length (intV (natI sc.chain))):=hid (by rw [natI_length] at hown8;exact hown8);clear b8 hown8;go_wp2_with fail;refine hK.out _ _ (SZ.out _ HB7.out) (fun hHeld=>?_);clear hK K0
   try simp only [Act.put,eS1,eS2,eS3,eA1,eA2,eA3]
   refine E_ready (rs:=[13]) (by kernel_rfl) (by decide) ?_;refine AllE.cons (o:=_) rfl (fun K0 hK=>?_) AllE.nil
   try simp only [eA1,eA2,eA3]
   go_simp
   have HBY:Hid (Below wz.heap.size wz (w7.alloc (.cells #[.int .i64 (k:Int)] 3))):=hid (HB7.out.alloc HB7.out.size _);refine hK.out _ _ (SZ.out _ HBY.out) (fun hHeld=>?_);clear hK K0
   try simp only [Act.put,eS1,eS2,eS3,eA1,eA2,eA3]
   have HO8:=hid (HO7.out.alloc (.cells #[.int .i64 (k:Int)] 3));have HK8:Hid ((w7.alloc (.cells #[.int .i64 (k:Int)] 3)).ownsRow 0 3 1 (.slice (some ⟨w7.heap.size,0,none⟩) 1 1) 1 [.int .i64 (k:Int)]):=hid (World.ownsRow_lit (e:=3) (size:=1) (base:=0) w7 #[.int .i64 (k:Int)] 1 (Nat.zero_le _) (by decide) rfl);obtain ⟨w8,hw8⟩:∃ W,w7.alloc (.cells #[.int .i64 (k:Int)] 3)=W:=⟨_,rfl⟩;rw [hw8] at HBY HO8 HK8 ⊢;have HB8:=hid HBY.out;clear hw8 HBY HO7 HB7;obtain ⟨v9,w9,hr9,ho9,hg9⟩:=AP.out _ v8 (w7.heap.size) HO8.out HK8.out (by have:=HB8.out.size;exact this);obtain ⟨a9,c9,rfl⟩:=own_sh ho9;have HB9:Hid (Below wz.heap.size wz w9):=hid (HB8.out.grown hg9 (by have:=HB8.out.size;exact this) (fun j hj=>(HO8.out.lt j hj).1));have HO9:=hid ho9;have HR9:Hid (w9.heap[bb2]?=some (.cells (nrow cb none g (.slice none 0 0) mb2 0 0 false fb2 (.slice none 0 0)) 181 (0,0))):=hid ((HB9.out.block bb2 (Nat.lt_of_lt_of_le (blk HRB.out).2.2 HAZ.out.size)).trans ((HAZ.out.block bb2 (blk HRB.out).2.2).trans HRB.out));have SW:Hid (∀ W:World,(∀ q,q≠bb2→W.heap[q]?=w9.heap[q]?)→W.cell? ⟨w.heap.size,0,none⟩=some (.pointer (some ⟨b.bb,0,none⟩))∧W.cell? ⟨w6.heap.size,0,none⟩=some (.pointer (some ⟨bb2,0,none⟩))∧W.cell? ⟨b.bb,3,none⟩=some (.slice ca sc.chain.length cc)∧W.cell? ⟨b.bb,6,none⟩=some (.int .i64 (k:Int))∧W.cell? ⟨b.bb,5,none⟩=some (.int .i64 (freeN K.E sc:Int))):=hid (fun W hb=>by
     obtain ⟨s1,s2,s3,s4,s5⟩:=SZ.out _ HB9.out;have e1:=NEB.out.1;have e2:=NEB.out.2.1;have e3:=NEB.out.2.2;exact ⟨(World.cell?_of_block (a:=⟨w.heap.size,0,none⟩) (hb _ e1)).trans s1,(World.cell?_of_block (a:=⟨w6.heap.size,0,none⟩) (hb _ e2)).trans s2,(World.cell?_of_block (a:=⟨b.bb,3,none⟩) (hb _ e3)).trans s3,(World.cell?_of_block (a:=⟨b.bb,6,none⟩) (hb _ e3)).trans s4,(World.cell?_of_block (a:=⟨b.bb,5,none⟩) (hb _ e3)).trans s5⟩)
   refine E_ready (rs:=[14]) (by kernel_rfl) (by decide) ?_;refine AllE.cons (o:=_) rfl (fun K0 hK=>?_) AllE.nil;refine step_append_run rfl (.tmp 46) (.tmp 51) 36 rfl _ _ _ rfl rfl hr9 ?_;refine hK.out _ _ (SW.out _ (fun _ _=>rfl)) (fun hHeld=>?_);clear hK K0
   try simp only [Act.put,eS1,eS2,eS3,eA1,eA2,eA3]
   clear hr9 hg9 ho9;refine E_tk 19 ?_ (hQ:=fun c a w h=>hQ _ _ _ c a w h)
   try simp only [Act.put,eS1,eS2,eS3,eA1,eA2,eA3]
   refine E_tk 20 ?_ (hQ:=fun c a w h=>hQ _ _ _ c a w h)
   try simp only [Act.put,eS1,eS2,eS3,eA1,eA2,eA3]
   have c1:w9.cell? ⟨bb2,1,none⟩=some _:=(blk HR9.out).1 1 _ rfl;have f1:=(blk HR9.out).2.1 1;refine E_ready (rs:=[21]) (by kernel_rfl) (by decide) ?_;refine AllE.cons (o:=_) rfl (fun K0 hK=>?_) AllE.nil
   try simp only [eA1,eA2,eA3]
   go_simp
   refine hK.out _ _ (SW.out _ (fun q hq=>set_other hq)) (fun hHeld=>?_);clear hK K0
   try simp only [Act.put,eS1,eS2,eS3,eA1,eA2,eA3]
   clear c1 f1;obtain ⟨w10,hw10⟩:∃ W,w9.setCell ⟨bb2,1,none⟩ (.pointer (some ⟨b.bb,0,none⟩))=W:=⟨_,rfl⟩;have HR10:Hid (w10.heap[bb2]?=some (.cells (nrow cb (some b.bb) g (.slice none 0 0) mb2 0 0 false fb2 (.slice none 0 0)) 181 (0,0))):=hid (by rw [← hw10];exact heap_setCell_at HR9.out _);have HQ10:Hid (∀ q,q≠bb2→w10.heap[q]?=w9.heap[q]?):=hid (fun q hq=>by rw [← hw10];exact set_other hq);have HG10:Hid (w9.grownBy w10 (some bb2)):=hid (by rw [← hw10];exact grown_setCell _ _ _ _);rw [hw10] at hHeld ⊢;clear hw10;refine E_tk 22 ?_ (hQ:=fun c a w h=>hQ _ _ _ c a w h)
   try simp only [Act.put,eS1,eS2,eS3,eA1,eA2,eA3]
   refine E_tk 23 ?_ (hQ:=fun c a w h=>hQ _ _ _ c a w h)
   try simp only [Act.put,eS1,eS2,eS3,eA1,eA2,eA3]
   have c3:w10.cell? ⟨bb2,3,none⟩=some _:=(blk HR10.out).1 3 _ rfl;have f3:=(blk HR10.out).2.1 3;refine E_ready (rs:=[24]) (by kernel_rfl) (by decide) ?_;refine AllE.cons (o:=_) rfl (fun K0 hK=>?_) AllE.nil
   try simp only [eA1,eA2,eA3]
   go_simp
   refine hK.out _ _ (SW.out _ (fun q hq=>(set_other hq).trans (HQ10.out q hq))) (fun hHeld=>?_);clear hK K0
   try simp only [Act.put,eS1,eS2,eS3,eA1,eA2,eA3]
   clear c3 f3;obtain ⟨w11,hw11⟩:∃ W,w10.setCell ⟨bb2,3,none⟩ (.slice a9 (sc.chain.length+1) c9)=W:=⟨_,rfl⟩;have HR11:Hid (w11.heap[bb2]?=some (.cells (nrow cb (some b.bb) g (.slice a9 (sc.chain.length+1) c9) mb2 0 0 false fb2 (.slice none 0 0)) 181 (0,0))):=hid (by rw [← hw11];exact heap_setCell_at HR10.out _);have HQ11:Hid (∀ q,q≠bb2→w11.heap[q]?=w9.heap[q]?):=hid (fun q hq=>by rw [← hw11];exact (set_other hq).trans (HQ10.out q hq));have HG11:Hid (w9.grownBy w11 (some bb2)):=hid (by rw [← hw11];exact HG10.out.trans (grown_setCell _ _ _ _));rw [hw11] at hHeld ⊢;clear hw11;refine E_tk 25 ?_ (hQ:=fun c a w h=>hQ _ _ _ c a w h)
   try simp only [Act.put,eS1,eS2,eS3,eA1,eA2,eA3]
   refine E_tk 26 ?_ (hQ:=fun c a w h=>hQ _ _ _ c a w h)
   try simp only [Act.put,eS1,eS2,eS3,eA1,eA2,eA3]
   have c5:w11.cell? ⟨bb2,5,none⟩=some _:=(blk HR11.out).1 5 _ rfl;have f5:=(blk HR11.out).2.1 5;refine E_last (o:=_) (by kernel_rfl) rfl (by kernel_rfl) (fun K0 hK=>?_)
   try simp only [eA1,eA2,eA3]
   go_simp
   refine hK.out _ _ ?_;clear hK K0;simp only [Exit.then];refine hKK _ _ (Met.intro (hJ _ _ ?_))
   (repeat apply Exists.intro)
   refine ⟨?_,rfl⟩;refine ⟨.slice a9 (sc.chain.length+1) c9,hid ?_,hid (heap_setCell_at HR11.out _),hid ?_⟩
   ·have h:=owns_blks HO9.out (w':=w11.setCell ⟨bb2,5,none⟩ (.int .i64 (freeN K.E sc:Int))) (fun q hq=>(set_other (fun e=>by have:=(HO9.out.lt q hq).1;have:=(blk HRB.out).2.2;have:=HAZ.out.size;omega)).trans (HQ11.out q (fun e=>by have:=(HO9.out.lt q hq).1;have:=(blk HRB.out).2.2;have:=HAZ.out.size;omega)))
    have e:intV (natI (sc.chain++[k]))=intV (natI sc.chain)++[.int .i64 (k:Int)]:=by unfold natI intV;rw [List.map_append,List.map_append];rfl
    rw [e];exact h
   ·exact ((grown_of_below HB9.out (some bb2)).trans HG11.out).trans (grown_setCell _ _ _ _)
  ·try simp only [eA1,eA2,eA3]
   go_simp
   have HBY:Hid (Below wz.heap.size wz (wz.alloc (.cells #[.int .i64 (k:Int)] 3)).drew):=hid ((Below.refl _ _).alloc (Nat.le_refl _) _).drew;refine hK.out _ _ (SZ.out _ HBY.out) (fun hHeld=>?_);clear hK K0
   try simp only [Act.put,eS1,eS2,eS3,eA1,eA2,eA3]
   have HK7:Hid ((wz.alloc (.cells #[.int .i64 (k:Int)] 3)).drew.ownsRow 0 3 1 (.slice (some ⟨wz.heap.size,0,none⟩) 1 1) 1 [.int .i64 (k:Int)]):=hid (World.ownsRow_lit (e:=3) (size:=1) (base:=0) wz #[.int .i64 (k:Int)] 1 (Nat.zero_le _) (by decide) rfl);refine E_ready (rs:=[8]) (by kernel_rfl) (by decide) ?_;refine AllE.cons (o:=_) rfl (fun K0 hK=>?_) AllE.nil
   try simp only [eA1,eA2,eA3]
   go_simp
   refine (CL.out _ HBY.out).mono ?_;rintro e w8 ⟨v8,rfl,hown8,b8⟩;have HB8:Hid (Below wz.heap.size wz w8):=hid (HBY.out.trans (b8.mono HBY.out.size));have HO8:Hid (w8.ownsRow wz.heap.size 3 1 v8 sc.chain.length (intV (natI sc.chain))):=hid (by rw [natI_length] at hown8;exact owns_lo hown8 HBY.out.size);have HK8:Hid (w8.ownsRow 0 3 1 (.slice (some ⟨wz.heap.size,0,none⟩) 1 1) 1 [.int .i64 (k:Int)]):=hid (owns_below HK7.out b8);clear b8 hown8 HK7 HBY;go_wp2_with fail;refine hK.out _ _ (SZ.out _ HB8.out) (fun hHeld=>?_);clear hK K0
   try simp only [Act.put,eS1,eS2,eS3,eA1,eA2,eA3]
   obtain ⟨v9,w9,hr9,ho9,hg9⟩:=AP.out _ v8 (wz.heap.size) HO8.out HK8.out (by have:=HB8.out.size;exact this);obtain ⟨a9,c9,rfl⟩:=own_sh ho9;have HB9:Hid (Below wz.heap.size wz w9):=hid (HB8.out.grown hg9 (by have:=HB8.out.size;exact this) (fun j hj=>(HO8.out.lt j hj).1));have HO9:=hid ho9;have HR9:Hid (w9.heap[bb2]?=some (.cells (nrow cb none g (.slice none 0 0) mb2 0 0 false fb2 (.slice none 0 0)) 181 (0,0))):=hid ((HB9.out.block bb2 (Nat.lt_of_lt_of_le (blk HRB.out).2.2 HAZ.out.size)).trans ((HAZ.out.block bb2 (blk HRB.out).2.2).trans HRB.out));have SW:Hid (∀ W:World,(∀ q,q≠bb2→W.heap[q]?=w9.heap[q]?)→W.cell? ⟨w.heap.size,0,none⟩=some (.pointer (some ⟨b.bb,0,none⟩))∧W.cell? ⟨w6.heap.size,0,none⟩=some (.pointer (some ⟨bb2,0,none⟩))∧W.cell? ⟨b.bb,3,none⟩=some (.slice ca sc.chain.length cc)∧W.cell? ⟨b.bb,6,none⟩=some (.int .i64 (k:Int))∧W.cell? ⟨b.bb,5,none⟩=some (.int .i64 (freeN K.E sc:Int))):=hid (fun W hb=>by
     obtain ⟨s1,s2,s3,s4,s5⟩:=SZ.out _ HB9.out;have e1:=NEB.out.1;have e2:=NEB.out.2.1;have e3:=NEB.out.2.2;exact ⟨(World.cell?_of_block (a:=⟨w.heap.size,0,none⟩) (hb _ e1)).trans s1,(World.cell?_of_block (a:=⟨w6.heap.size,0,none⟩) (hb _ e2)).trans s2,(World.cell?_of_block (a:=⟨b.bb,3,none⟩) (hb _ e3)).trans s3,(World.cell?_of_block (a:=⟨b.bb,6,none⟩) (hb _ e3)).trans s4,(World.cell?_of_block (a:=⟨b.bb,5,none⟩) (hb _ e3)).trans s5⟩)
   refine E_ready (rs:=[14]) (by kernel_rfl) (by decide) ?_;refine AllE.cons (o:=_) rfl (fun K0 hK=>?_) AllE.nil;refine step_append_run rfl (.tmp 46) (.tmp 51) 36 rfl _ _ _ rfl rfl hr9 ?_;refine hK.out _ _ (SW.out _ (fun _ _=>rfl)) (fun hHeld=>?_);clear hK K0
   try simp only [Act.put,eS1,eS2,eS3,eA1,eA2,eA3]
   clear hr9 hg9 ho9;refine E_tk 19 ?_ (hQ:=fun c a w h=>hQ _ _ _ c a w h)
   try simp only [Act.put,eS1,eS2,eS3,eA1,eA2,eA3]
   refine E_tk 20 ?_ (hQ:=fun c a w h=>hQ _ _ _ c a w h)
   try simp only [Act.put,eS1,eS2,eS3,eA1,eA2,eA3]
   have c1:w9.cell? ⟨bb2,1,none⟩=some _:=(blk HR9.out).1 1 _ rfl;have f1:=(blk HR9.out).2.1 1;refine E_ready (rs:=[21]) (by kernel_rfl) (by decide) ?_;refine AllE.cons (o:=_) rfl (fun K0 hK=>?_) AllE.nil
   try simp only [eA1,eA2,eA3]
   go_simp
   refine hK.out _ _ (SW.out _ (fun q hq=>set_other hq)) (fun hHeld=>?_);clear hK K0
   try simp only [Act.put,eS1,eS2,eS3,eA1,eA2,eA3]
   clear c1 f1;obtain ⟨w10,hw10⟩:∃ W,w9.setCell ⟨bb2,1,none⟩ (.pointer (some ⟨b.bb,0,none⟩))=W:=⟨_,rfl⟩;have HR10:Hid (w10.heap[bb2]?=some (.cells (nrow cb (some b.bb) g (.slice none 0 0) mb2 0 0 false fb2 (.slice none 0 0)) 181 (0,0))):=hid (by rw [← hw10];exact heap_setCell_at HR9.out _);have HQ10:Hid (∀ q,q≠bb2→w10.heap[q]?=w9.heap[q]?):=hid (fun q hq=>by rw [← hw10];exact set_other hq);have HG10:Hid (w9.grownBy w10 (some bb2)):=hid (by rw [← hw10];exact grown_setCell _ _ _ _);rw [hw10] at hHeld ⊢;clear hw10;refine E_tk 22 ?_ (hQ:=fun c a w h=>hQ _ _ _ c a w h)
   try simp only [Act.put,eS1,eS2,eS3,eA1,eA2,eA3]
   refine E_tk 23 ?_ (hQ:=fun c a w h=>hQ _ _ _ c a w h)
   try simp only [Act.put,eS1,eS2,eS3,eA1,eA2,eA3]
   have c3:w10.cell? ⟨bb2,3,none⟩=some _:=(blk HR10.out).1 3 _ rfl;have f3:=(blk HR10.out).2.1 3;refine E_ready (rs:=[24]) (by kernel_rfl) (by decide) ?_;refine AllE.cons (o:=_) rfl (fun K0 hK=>?_) AllE.nil
   try simp only [eA1,eA2,eA3]
   go_simp
   refine hK.out _ _ (SW.out _ (fun q hq=>(set_other hq).trans (HQ10.out q hq))) (fun hHeld=>?_);clear hK K0
   try simp only [Act.put,eS1,eS2,eS3,eA1,eA2,eA3]
   clear c3 f3;obtain ⟨w11,hw11⟩:∃ W,w10.setCell ⟨bb2,3,none⟩ (.slice a9 (sc.chain.length+1) c9)=W:=⟨_,rfl⟩;have HR11:Hid (w11.heap[bb2]?=some (.cells (nrow cb (some b.bb) g (.slice a9 (sc.chain.length+1) c9) mb2 0 0 false fb2 (.slice none 0 0)) 181 (0,0))):=hid (by rw [← hw11];exact heap_setCell_at HR10.out _);have HQ11:Hid (∀ q,q≠bb2→w11.heap[q]?=w9.heap[q]?):=hid (fun q hq=>by rw [← hw11];exact (set_other hq).trans (HQ10.out q hq));have HG11:Hid (w9.grownBy w11 (some bb2)):=hid (by rw [← hw11];exact HG10.out.trans (grown_setCell _ _ _ _));rw [hw11] at hHeld ⊢;clear hw11;refine E_tk 25 ?_ (hQ:=fun c a w h=>hQ _ _ _ c a w h)
   try simp only [Act.put,eS1,eS2,eS3,eA1,eA2,eA3]
   refine E_tk 26 ?_ (hQ:=fun c a w h=>hQ _ _ _ c a w h)
   try simp only [Act.put,eS1,eS2,eS3,eA1,eA2,eA3]
   have c5:w11.cell? ⟨bb2,5,none⟩=some _:=(blk HR11.out).1 5 _ rfl;have f5:=(blk HR11.out).2.1 5;refine E_last (o:=_) (by kernel_rfl) rfl (by kernel_rfl) (fun K0 hK=>?_)
   try simp only [eA1,eA2,eA3]
   go_simp
   refine hK.out _ _ ?_;clear hK K0;simp only [Exit.then];refine hKK _ _ (Met.intro (hJ _ _ ?_))
   (repeat apply Exists.intro)
   refine ⟨?_,rfl⟩;refine ⟨.slice a9 (sc.chain.length+1) c9,hid ?_,hid (heap_setCell_at HR11.out _),hid ?_⟩
   ·have h:=owns_blks HO9.out (w':=w11.setCell ⟨bb2,5,none⟩ (.int .i64 (freeN K.E sc:Int))) (fun q hq=>(set_other (fun e=>by have:=(HO9.out.lt q hq).1;have:=(blk HRB.out).2.2;have:=HAZ.out.size;omega)).trans (HQ11.out q (fun e=>by have:=(HO9.out.lt q hq).1;have:=(blk HRB.out).2.2;have:=HAZ.out.size;omega)))
    have e:intV (natI (sc.chain++[k]))=intV (natI sc.chain)++[.int .i64 (k:Int)]:=by unfold natI intV;rw [List.map_append,List.map_append];rfl
    rw [e];exact h
   ·exact ((grown_of_below HB9.out (some bb2)).trans HG11.out).trans (grown_setCell _ _ _ _)
 case rest =>
  obtain ⟨v9,HO9,HR9,HG9⟩:=hcut;have HB2:Hid (w5.heap.size≤bb2∧bb2<w6.heap.size∧w5.heap.size≤mb2∧mb2<w6.heap.size∧w5.heap.size≤fb2∧fb2<w6.heap.size∧mb2≠fb2∧mb2≠bb2∧fb2≠bb2):=hid ⟨HN.out.1,(blk HRB.out).2.2,HN.out.2.1,HMB.out.lt,HN.out.2.2.1,HFB.out.lt,HN.out.2.2.2,map_not HMB.out HRB.out,map_not HFB.out HRB.out⟩;have H65:Hid (w5.heap.size≤w6.heap.size∧w6.heap.size<wz.heap.size∧wz.heap.size≤wc.heap.size):=hid ⟨HN8.out.size,(blk HTZ.out).2.2,HG9.out.size⟩;have HDc:Hid (Below w.heap.size w wc):=hid (D0z.out.grown HG9.out D0z.out.size (fun j hj=>by injection hj with e;have:=HB2.out.1;have:=HSZ5.out;omega));have HD1c:Hid (Below (w.heap.size+1) (w.alloc (.cells #[.pointer (some ⟨b.bb,0,none⟩)] 175)) wc):=hid (D1z.out.grown HG9.out (by have:=D1z.out.size;simp at this;omega) (fun j hj=>by injection hj with e;have:=HB2.out.1;have:=HSZ5.out;omega));have HD5c:Hid (Below w5.heap.size w5 wc):=hid ((HN8.out.trans (HAZ.out.mono HN8.out.size)).grown HG9.out (by have:=H65.out;omega) (fun j hj=>by injection hj with e;have:=HB2.out.1;omega));have HOc:=hid (owns_below HO5.out HD5c.out);have HMc:Hid (wc.ownsMap (H:=Unit) Tryz.prog 9 (plainElem Tryz.prog 3) mb2 0 (.map [])):=hid ((HMB.out.kept (grown_of_below HAZ.out none) (by simp)).kept HG9.out (by intro e;injection e with e;exact HB2.out.2.2.2.2.2.2.2.1 e));have HFc:Hid (wc.ownsMap (H:=Unit) Tryz.prog 3 (plainElem Tryz.prog 3) fb2 0 (.map [])):=hid ((HFB.out.kept (grown_of_below HAZ.out none) (by simp)).kept HG9.out (by intro e;injection e with e;exact HB2.out.2.2.2.2.2.2.2.2 e));have HTc:Hid (wc.heap[w6.heap.size]?=some (.cells #[.pointer (some ⟨bb2,0,none⟩)] 175 (0,0))):=hid ((HG9.out.block _ (blk HTZ.out).2.2 (by intro e;injection e with e;exact NEB.out.2.1 e)).trans HTZ.out);have HCc:=hid (HCI.out.below HDc.out);have HX0c:=HX0.out wc HD1c.out;have hlz:L.length≤64:=by rw [← HLL.out];exact loc_len64 HP.out.ok.1.1 HP.out.ok.1.2 (g:Int)
  have hfr:freeN K.E sc≤64*scs.length:=by have:=HBO.out.sf.2.2;rw [HBO.out.cur] at this;exact this
  have hsl:scs.length≤4:=by have:=HBO.out.sf.2.1;have:=HP.out.inl;omega
  have HLN:Hid (L.Nodup):=hid (by rw [← HLL.out];exact loc_nodup HP.out.ok hg);have HLZ:Hid (∀ s ∈ L,s.size≤maxLen):=hid (by rw [← HLL.out];exact loc_sizes HP.out.ok hg);have HLA:Hid (∀ q,(Value.slice la L.length lc).ownBlock=some q→w5.heap.size > q∧w.heap.size≤q∧q≠cb∧q≠bb2∧q≠mb2∧q≠fb2):=hid (fun q hq=>by
   have h1:=(HO5.out.lt q hq);have h2:=D0.out.size;have h3:=HB2.out;have h4:=HCI.out.cc.lt;exact ⟨h1.2,by omega,by omega,by omega,by omega,by omega⟩)
  have PA:=hid (i_placeAbove cb bb2 K t iv (some b.bb) g v9 mb2 (.map []) 0 (freeN K.E sc) L fb2 (.slice none 0 0) la lc wc HCc.out.cc.row HR9.out HMc.out (readO_of (reads_of HOc.out)) (fun q o e=>by
   have:=HLA.out q (by rw [e];rfl)
   exact ⟨this.2.2.2.1,this.2.2.2.2.1,this.2.2.1⟩) HLN.out HLZ.out (by omega) (by omega) (by omega) (by omega))
  have z6:wc.cell? ⟨w6.heap.size,0,none⟩=some (.pointer (some ⟨bb2,0,none⟩)):=(blk HTc.out).1 0 _ rfl;go_wp2_with fail;refine PA.out.mono ?_;rintro e we ⟨rfl,D,HCe,HRe,HMe,HGv,HSe⟩;clear z6 HX0c PA;have SP:=hid (HCI.out.sep jT_ok);have HOLD:Hid (∀ q,q<w.heap.size→q≠cb→we.heap[q]?=w.heap[q]?):=hid (fun q hq hc=>(HSe.out.block q (by have:=HDc.out.size;omega) hc (fun v hv e=>by
   simp only [List.mem_cons,List.not_mem_nil,or_false] at hv
   rcases hv with rfl|rfl
   ·have:=HB2.out;have:=HSZ5.out;have e':bb2=q:=Option.some.inj e;omega
   ·have:=HB2.out;have:=HSZ5.out;have e':mb2=q:=Option.some.inj e;omega)).trans (HDc.out.block q hq))
  have HNEW:Hid (∀ q,q<wc.heap.size→q≠cb→q≠bb2→q≠mb2→we.heap[q]?=wc.heap[q]?):=hid (fun q hq hc h1 h2=>HSe.out.block q hq hc (fun v hv e=>by
   simp only [List.mem_cons,List.not_mem_nil,or_false] at hv
   rcases hv with rfl|rfl
   ·exact h1 (Option.some.inj e).symm
   ·exact h2 (Option.some.inj e).symm))
  have HC1:Hid (CiAt jT Tryz.prog B cb we K { t with used:=max t.used (freeN K.E sc+L.length) } iv X sc b jv k):=hid ⟨⟨HCe.out,owns_blks HCI.out.cc.its (fun q hq=>HOLD.out q (HCI.out.cc.its.lt q hq).2 (fun e=>SP.out.ic (by rw [hq,e]))),HCI.out.cc.items,⟨fun z hz=>by
    obtain ⟨x,hx',rfl⟩:=mem_chL.1 hz;exact owns_blks (HCI.out.cc.chn.1 _ hz) (fun q hq=>HOLD.out q ((HCI.out.cc.chn.1 _ hz).lt q hq).2 (fun e=>SP.out.xc x hx' (by rw [← e];exact hq))),HCI.out.cc.chn.2⟩,HCI.out.cc.lo⟩,
   HCI.out.bd.keep (HOLD.out _ HCI.out.bd.blt SP.out.bc) (HOLD.out _ HCI.out.bd.mlt SP.out.mc) (HOLD.out _ HCI.out.bd.flt SP.out.fc) (fun q hq=>HOLD.out q (HCI.out.bd.ch.lt q hq).2 (fun e=>SP.out.hc (by rw [hq,e]))) (fun q hq=>HOLD.out q (HCI.out.bd.jr.lt q hq).2 (fun e=>SP.out.jc (by rw [hq,e])))⟩
  have hcbw:cb<w.heap.size:=HCI.out.cc.lt;have HTe:Hid (we.heap[w6.heap.size]?=some (.cells #[.pointer (some ⟨bb2,0,none⟩)] 175 (0,0))):=hid ((HNEW.out _ (blk HTc.out).2.2 (by have:=H65.out;have:=HSZ5.out;omega) (by have:=HB2.out;omega) (by have:=HB2.out;omega)).trans HTc.out);have HX0e:Hid (we.heap[w.heap.size]?=some (.cells #[.pointer (some ⟨b.bb,0,none⟩)] 175 (0,0))):=hid ((HNEW.out _ (by have:=H65.out;have:=HSZ5.out;omega) (by omega) (by have:=HB2.out;have:=HSZ5.out;omega) (by have:=HB2.out;have:=HSZ5.out;omega)).trans ((HD1c.out.block w.heap.size (by omega)).trans (heap_alloc_new w _)));have HOe:Hid (we.ownsRow (w.heap.size+1) 9 1 (.slice la L.length lc) L.length (strV L)):=hid (owns_blks (owns_lo HOc.out (by have:=D1.out.size;simp at this ⊢)) (fun q hq=>HNEW.out q (by have:=HLA.out q hq;have:=H65.out;omega) (HLA.out q hq).2.2.1 (HLA.out q hq).2.2.2.1 (HLA.out q hq).2.2.2.2.1));have HFe:Hid (we.ownsMap (H:=Unit) Tryz.prog 3 (plainElem Tryz.prog 3) fb2 0 (.map [])):=hid (map_keep HFc.out (HNEW.out _ (by have:=HB2.out;have:=H65.out;omega) (by have:=HB2.out;have:=HSZ5.out;omega) HB2.out.2.2.2.2.2.2.2.2 (fun e=>HB2.out.2.2.2.2.2.2.1 e.symm)));have HO9e:Hid (we.ownsRow wz.heap.size 3 1 v9 (sc.chain.length+1) (intV (natI (sc.chain++[k])))):=hid (owns_blks HO9.out (fun q hq=>by
   have h1:=HO9.out.lt q hq;have h2:=H65.out;have h3:=HB2.out;have h4:=HSZ5.out;exact HNEW.out q h1.2 (by omega) (by omega) (by omega)))
  have ze0:we.cell? ⟨w6.heap.size,0,none⟩=some (.pointer (some ⟨bb2,0,none⟩)):=(blk HTe.out).1 0 _ rfl;have hAL:AR.length≤L.length:=hpre.length_le;have HAT:Hid (AR=L.take AR.length):=hid (List.prefix_iff_eq_take.1 hpre);have hcl2:=cap_of HOe.out;have hnl2:=nil_of HOe.out;have hslA:=fun W=>run_to Tryz.underlying84 (fun W=>by kernel_rfl) la L.length AR.length lc hAL hcl2.1 hnl2 W (P:=Tryz.prog)
  have XB:=hid (x_back la AR.length lc we);have HLL2:Hid ((newSc K.E sc g k).locs=L):=hid HLL.out;obtain ⟨t1,ht1⟩:∃ x,{ t with used:=max t.used (freeN K.E sc+L.length) }=x:=⟨_,rfl⟩;rw [ht1] at HC1;have HT1:Hid (t1.depth=t.depth∧t1.items=t.items∧t1.used=max t.used (freeN K.E sc+L.length)∧t1.jumps=t.jumps∧t1.firsts=t.firsts∧t1.pend=t.pend):=hid (by rw [← ht1];exact ⟨rfl,rfl,rfl,rfl,rfl,rfl⟩);have HTQ:=hid ht1;clear ht1;obtain ⟨wq,hwq⟩:∃ W,we.alloc (.cells #[.slice la AR.length lc] 84)=W:=⟨_,rfl⟩;have HBq:Hid (Below we.heap.size we wq):=hid (by rw [← hwq];exact (Below.refl _ _).alloc (Nat.le_refl _) _);have HBS:Hid (wq.heap[we.heap.size]?=some (.cells #[.slice la AR.length lc] 84 (0,0))):=hid (by rw [← hwq];exact heap_alloc_new we _);have HWQ:=hid hwq;have hzq:we.heap.size<wq.heap.size:=(blk HBS.out).2.2;have hze:wc.heap.size≤we.heap.size:=HSe.out.size;have HC1q:=hid (HC1.out.below HBq.out);have HOq:=hid (owns_below HOe.out HBq.out);have HMq:Hid (wq.ownsMap (H:=Unit) Tryz.prog 9 (plainElem Tryz.prog 3) mb2 (0+L.length) D):=hid (HMe.out.kept (grown_of_below HBq.out none) (by simp));have HRq:Hid (wq.heap[bb2]?=some (.cells (nrow cb (some b.bb) g v9 mb2 (freeN K.E sc+L.length) 0 false fb2 (.slice none 0 0)) 181 (0,0))):=hid ((HBq.out.block _ (blk HRe.out).2.2).trans HRe.out);have HTq:=hid ((HBq.out.block _ (blk HTe.out).2.2).trans HTe.out);have HXq:=hid ((HBq.out.block _ (blk HX0e.out).2.2).trans HX0e.out);have KEEPQ:Hid (∀ W iv2,Step cb (ME iv b.bb) (ME iv2 b.bb) wq W→∀ q,w.heap.size≤q→q<wq.heap.size→W.heap[q]?=wq.heap[q]?):=hid (fun W iv2 hs q h1 h2=>hs.block q h2 (by omega) (fun v hv e=>by
   unfold ME at hv;simp only [List.mem_cons,List.not_mem_nil,or_false] at hv
   rcases hv with rfl|rfl
   ·have:=(HCI.out.cc.its.lt q e).2;omega
   ·have:=HCI.out.bd.blt;have e':b.bb=q:=Option.some.inj e;omega))
  obtain ⟨bq,hbq,hbl,hbc⟩:∃ bq,(0<AR.length→la=some ⟨bq,0,none⟩)∧(w.heap.size≤bq∧bq<wq.heap.size)∧∀ j,∀ h:j<AR.length,wq.cell? ⟨bq,j,none⟩=some (.string AR[j]):=by
   by_cases h0:0<AR.length
   ·obtain ⟨gq,hgq⟩:=own_in8 HOq.out (by omega)
    refine ⟨gq,fun _=>hgq,⟨by have:=(HOq.out.lt gq (by rw [hgq];rfl)).1;omega,(HOq.out.lt gq (by rw [hgq];rfl)).2⟩,fun j h=>?_⟩;obtain ⟨g3,e3,hc3⟩:=reads_of HOq.out j (by omega);rw [hgq] at e3;injection e3 with e3
    injection e3 with e3
    subst e3;have e4:AR[j]=L[j]'(by omega):=by
     have h5:(L.take AR.length)[j]?=AR[j]?:=by rw [← HAT.out]
     rw [List.getElem?_take_of_lt h,List.getElem?_eq_getElem h,List.getElem?_eq_getElem (show j<L.length by omega)] at h5;exact (Option.some.inj h5).symm
    rw [e4];exact hc3
   ·exact ⟨we.heap.size,fun h=>absurd h h0,⟨by have:=HDc.out.size;omega,hzq⟩,fun j h=>by omega⟩
  have hbm:b.mb<wq.heap.size:=by have:=HC1q.out.bd.mlt;omega
  have hbf:b.fb<wq.heap.size:=by have:=HC1q.out.bd.flt;omega
  have LKL:Hid (∀ W,wq.heap.size≤W.heap.size→W.heap[mb2]?=wq.heap[mb2]?→∀ ix,∀ h:ix<L.length,(Instr.lookup 177 (.map (some mb2)) (.string L[ix]) false).run Tryz.prog W=.ok (.int .i64 (slotZ K.E (newSc K.E sc g k) ix)) W):=hid (fun W hW hmb ix h=>by
   have hm:=map_keep HMq.out hmb;obtain ⟨c,hrun,hat,_⟩:=hm.lookup_int keyS Tryz.underlying177 Tryz.underlying3 (zerI _) (keyS_of (HLZ.out _ (List.getElem_mem h)));have hgv:=HGv.out.1 ix h;have hat':D.atKey (kN L[ix]) zI=.lit (.int .i64 c):=hat;rw [hgv] at hat';injection hat' with hat'
   injection hat' with _ hat'
   rw [hrun,← hat'];have hs:slotZ K.E (newSc K.E sc g k) ix=-((freeN K.E sc+ix+1:Nat):Int):=by
    unfold slotZ;rw [if_neg (fun hc=>by have h2:(newSc K.E sc g k).outer=false:=rfl;rw [h2] at hc;exact absurd hc.1 (by decide))];rfl
   rw [hs])
  have LKq:Hid (∀ W,wq.heap.size≤W.heap.size→W.heap[mb2]?=wq.heap[mb2]?→∀ ix,∀ h:ix<AR.length,(Instr.lookup 177 (.map (some mb2)) (.string AR[ix]) false).run Tryz.prog W=.ok (.int .i64 (slotZ K.E (newSc K.E sc g k) ix)) W):=hid (fun W hW hmb ix h=>by
   have e4:AR[ix]=L[ix]'(by omega):=by
    have h5:(L.take AR.length)[ix]?=AR[ix]?:=by rw [← HAT.out]
    rw [List.getElem?_take_of_lt h,List.getElem?_eq_getElem h,List.getElem?_eq_getElem (show ix<L.length by omega)] at h5;exact (Option.some.inj h5).symm
   rw [e4];exact LKL.out W hW hmb ix (by omega))
  have hB0:Hid (Btw B cb K (newSc K.E sc g k) t1 iv sc b jv k wq (zs:=AR) [] wq):=hid ⟨iv,X,HC1q,hid (Step.refl _ _ _)⟩;clear hwq;go_upto_region 5 with fail;go_wp2_with fail;refine XB.out.mono ?_;rintro e W ⟨rfl,rfl⟩;go_wp2_with fail;rw [HWQ.out];refine range_btw (B:=B) (cb:=cb) (K:=K) (xs:=newSc K.E sc g k) (t1:=t1) (iv:=iv) (sc:=sc) (b:=b) (jv:=jv) (k:=k) (we:=wq) (zs:=AR) we.heap.size bq lc la (by omega) hbq ((blk HBS.out).1 0 _ rfl) hzq hbc hbl.2 rfl hbm hbf (Nat.le_refl _) hB0.out ?assign ?body ?done
  case assign =>
   intro l x W K' hK;unfold actN at hK;simp only [eS1,eS2,eS3] at hK
   gi_wp2
   exact hK
  case body =>
   rintro l pre ⟨⟨ix,nm⟩,hx⟩ W ⟨iv2,X2,HC2,HS2⟩ hlt;have hix:ix<AR.length:=by have h:AR.length=0∨ix<AR.length:=hx.1;omega
   have HNM:Hid (nm=AR[ix]):=hid (by have h:nm=(AR[ix]?).getD ⟨#[]⟩:=hx.2;rw [h,List.getElem?_eq_getElem hix];rfl);have KQ:=hid (KEEPQ.out W iv2 HS2.out);have DW:Hid (Below W.heap.size W W.drew):=hid (Below.refl _ _).drew;have hzW:=HS2.out.size;have SSR:Hid (∀ W',Below W.heap.size W W'→W'.cell? ⟨w.heap.size,0,none⟩=some (.pointer (some ⟨b.bb,0,none⟩))∧W'.cell? ⟨w6.heap.size,0,none⟩=some (.pointer (some ⟨bb2,0,none⟩))∧W'.cell? ⟨bb2,4,none⟩=some (.map (some mb2))∧(Instr.lookup 177 (.map (some mb2)) (.string nm) false).run Tryz.prog W'=.ok (.int .i64 (slotZ K.E (newSc K.E sc g k) ix)) W'):=hid (fun W' hb=>by
    have h1:=HB2.out;have h2:=H65.out;have h3:=HSZ5.out;have q1:∀ q,w.heap.size≤q→q<wq.heap.size→W'.heap[q]?=wq.heap[q]?:=fun q a1 a2=>(hb.block q (by omega)).trans (KQ.out q a1 a2)
    refine ⟨(blk ((q1 _ (Nat.le_refl _) (by omega)).trans HXq.out)).1 0 _ rfl,(blk ((q1 _ (by omega) (by omega)).trans HTq.out)).1 0 _ rfl,(blk ((q1 _ (by omega) (by omega)).trans HRq.out)).1 4 _ rfl,?_⟩;rw [HNM.out];exact LKq.out W' (by have:=hb.size;omega) (q1 _ (by omega) (by omega)) ix hix)
   obtain ⟨k1,k2,k3,_,_⟩:=stF_keep K.E (newSc K.E sc g k) k sc.chain pre t1;have HSM:Hid (Sm8 (stF K.E (newSc K.E sc g k) k sc.chain pre t1)):=hid ⟨by rw [k1,HT1.out.1];omega,by rw [k1,HT1.out.1];(have hz:=congrArg List.length hargs);omega,by rw [k2,HT1.out.2.1];have:=(replJ_lt hrp).2.2.1;omega⟩;have hsz:=slot_small K.E (newSc K.E sc g k) ix (by rw [HLL2.out];omega) (by rw [(newSc_free K.E sc g k).2,(newSc_free K.E sc g k).1,HLL2.out];omega) (by have:=HP.out.args;omega);have hsl1:-1099511627776≤slotZ K.E (newSc K.E sc g k) ix:=by omega
   have hsl2:slotZ K.E (newSc K.E sc g k) ix≤1099511627776:=by omega
   unfold actN;simp only [eS1,eS2,eS3];refine wpIn_block ?_;refine R_start (S:=(fun w'=>w'.cell? ⟨w.heap.size,0,none⟩=some (.pointer (some ⟨b.bb,0,none⟩))∧w'.cell? ⟨w6.heap.size,0,none⟩=some (.pointer (some ⟨bb2,0,none⟩))∧w'.cell? ⟨bb2,4,none⟩=some (.map (some mb2))∧(Instr.lookup 177 (.map (some mb2)) (.string nm) false).run Tryz.prog w'=.ok (.int .i64 (slotZ K.E (newSc K.E sc g k) ix)) w')) 7 (by kernel_rfl) (by kernel_rfl) (fun h=>by obtain ⟨_,_,h⟩:=h;exact h) (SSR.out _ DW.out) (fun hHeld=>?_);refine E_tk 0 ?_ (hQ:=fun _ _ _ h=>False.elim h)
   try simp only [Act.put,eS1,eS2,eS3,eA1,eA2]
   refine E_tk 1 ?_ (hQ:=fun _ _ _ h=>False.elim h)
   try simp only [Act.put,eS1,eS2,eS3,eA1,eA2,eA3]
   refine E_tk 2 ?_ (hQ:=fun _ _ _ h=>False.elim h)
   try simp only [Act.put,eS1,eS2,eS3,eA1,eA2,eA3]
   refine E_tk 3 ?_ (hQ:=fun _ _ _ h=>False.elim h)
   try simp only [Act.put,eS1,eS2,eS3,eA1,eA2,eA3]
   refine E_tk 4 ?_ (hQ:=fun _ _ _ h=>False.elim h)
   try simp only [Act.put,eS1,eS2,eS3,eA1,eA2,eA3]
   refine E_tk 5 ?_ (hQ:=fun _ _ _ h=>False.elim h)
   try simp only [Act.put,eS1,eS2,eS3,eA1,eA2,eA3]
   refine E_tk 6 ?_ (hQ:=fun _ _ _ h=>False.elim h)
   try simp only [Act.put,eS1,eS2,eS3,eA1,eA2,eA3]
   refine E_last (o:=_) (by kernel_rfl) rfl (by kernel_rfl) (fun K0 hK=>?_)
   try simp only [eA1,eA2,eA3]
   go_simp
   refine (i_store B cb K (stF K.E (newSc K.E sc g k) k sc.chain pre t1) iv2 X2 sc b jv k (newSc K.E sc g k) ix _ (HC2.out.below DW.out) (by omega) HSM.out hsl1 hsl2).mono ?_;rintro e W2 ⟨rfl,iv3,X3,HC3,HS3⟩;have HS3':Hid (Step cb (ME iv2 b.bb) (ME iv3 b.bb) W W2):=hid ((Step.of_below DW.out).trans HS3.out);have HS4:Hid (Step cb (ME iv b.bb) (ME iv3 b.bb) wq W2):=hid (HS2.out.trans HS3'.out);have HEQ:Hid (stF K.E (newSc K.E sc g k) k sc.chain (pre++[⟨(ix,nm),hx⟩]) t1=storeJ K.E (stF K.E (newSc K.E sc g k) k sc.chain pre t1) (newSc K.E sc g k) ix k sc.chain):=hid (stF_snoc ..);go_wp2_with fail;refine hK.out _ _ ?_;clear hK K0;refine (show KeepsFrom wq.heap.size W W2∧Kp2 bq we.heap.size W W2∧Btw B cb K (newSc K.E sc g k) t1 iv sc b jv k wq (pre++[⟨(ix,nm),hx⟩]) W2 from ⟨step_from HC2.out HS3'.out,⟨?_,?_⟩,iv3,X3,hid ?_,HS4⟩)
   ·exact (KEEPQ.out W2 iv3 HS4.out bq hbl.1 hbl.2).trans (KQ.out bq hbl.1 hbl.2).symm
   ·have hq1:w.heap.size≤we.heap.size:=by have:=HDc.out.size;omega
    exact (KEEPQ.out W2 iv3 HS4.out _ hq1 hzq).trans (KQ.out _ hq1 hzq).symm
   ·rw [HEQ.out]
    exact HC3.out
  case done =>
   intro D2 Wd hD2 hbt hKD;obtain ⟨iv4,X4,HC4,HS4⟩:=hbt;rw [stF_end] at HC4;obtain ⟨t2,ht2⟩:∃ x,storesJ K.E (newSc K.E sc g k) k sc.chain AR.length t1=x:=⟨_,rfl⟩;have HT2:Hid (t2.depth=t.depth - AR.length∧t2.items.length=t.items.length+AR.length∧t2.used=max t.used (freeN K.E sc+L.length)∧t2.jumps=t.jumps∧t2.firsts=t.firsts):=hid (by
    have h:=stF_keep K.E (newSc K.E sc g k) k sc.chain (backT AR AR.length) t1;rw [stF_end,ht2,backT_length] at h;obtain ⟨h1,h2,h3,h4,h5⟩:=h;obtain ⟨g1,g2,g3,g4,g5,_⟩:=HT1.out;exact ⟨by rw [h1,g1],by rw [h2,g2],h3.trans g3,h4.trans g4,h5.trans g5⟩)
   rw [ht2] at HC4;have HTT2:=hid ht2;have HKD:=hid hKD;have KQ4:=hid (KEEPQ.out Wd iv4 HS4.out);have hzd:=HS4.out.size;have hqq:w.heap.size≤wq.heap.size:=by have:=HDc.out.size;omega
   clear ht2 hKD;have HOd:Hid (Wd.ownsRow (w.heap.size+1) 9 1 (.slice la L.length lc) L.length (strV L)):=hid (owns_blks HOq.out (fun q hq=>KQ4.out q (by have:=(HOq.out.lt q hq).1;omega) (HOq.out.lt q hq).2));obtain ⟨a',ha1,ha2,hslF⟩:=run_from (P:=Tryz.prog) (t:=84) Tryz.underlying84 (fun W=>by kernel_rfl) la L.length AR.length lc hAL hcl2.1 (own_none HOq.out) (own_zero HOq.out);have HRO:=hid (ha2 Wd L rfl (reads_of HOd.out));have HAA:Hid (∀ q o,a'=some ⟨q,o,none⟩→w.heap.size≤q∧q<wq.heap.size):=hid (fun q o e=>by
    obtain ⟨o1,h1⟩:=ha1 q o e
    have:=HOq.out.lt q (by rw [h1];rfl)
    omega)
   have hdl:L.length - AR.length=(L.drop AR.length).length:=by rw [List.length_drop]
   obtain ⟨m,hm⟩:∃ m,L.length - AR.length=m:=⟨_,rfl⟩;have HMM:Hid (m+AR.length=L.length):=hid (by omega);have hm64:m≤64:=by omega
   rw [hm] at hslF;clear hm hdl ha1 ha2 hslA hnl2 hcl2 hAL hbc hbl hbq;go_wp2_with fail
   go_loopw [10,84] (fun _ i wr=>∃ q:Nat,q≤m∧i=.int .i64 (q:Int)∧∃ iv5 X5,Hid (CiAt jT Tryz.prog B cb wr K (zrF K.E (newSc K.E sc g k) k sc.chain AR.length t2 q) iv5 X5 sc b jv k)∧Hid (Step cb (ME iv b.bb) (ME iv5 b.bb) wq wr)∧Hid (wr.heap[D2]?=some (.deferred (some [])))) (fun _ i _=>m - (RowKit.intOf i).toNat)
   case atStart=>exact ⟨0,Nat.zero_le _,rfl,iv4,X4,HC4,HS4,HKD⟩
   case round =>
    obtain ⟨q,hq,rfl,iv5,X5,HC5,HS5,HD5⟩:=hrel;rename World=>wl
    have KQ5:=hid (KEEPQ.out wl iv5 HS5.out);have hzl5:=HS5.out.size;have hx5:wl.cell? ⟨w.heap.size,0,none⟩=some (.pointer (some ⟨b.bb,0,none⟩)):=(blk ((KQ5.out _ (Nat.le_refl _) (by have:=H65.out;have:=HSZ5.out;omega)).trans HXq.out)).1 0 _ rfl;obtain ⟨k1,k2,k3,k4,k5⟩:=zrF_keep K.E (newSc K.E sc g k) k sc.chain AR.length t2 q
    by_cases hqm:q<m
    ·have hql:AR.length+q<L.length:=by have:=HMM.out;omega
     obtain ⟨gq,oq,haq,hcq⟩:=HRO.out q (by rw [List.length_drop];omega);have hLq:(L.drop AR.length)[q]'(by rw [List.length_drop];omega)=L[AR.length+q]:=List.getElem_drop;rw [hLq] at hcq;have hgq:=HAA.out gq oq haq;have hcq2:wl.cell? ⟨gq,oq+q,none⟩=some (.string (L[AR.length+q]'hql)):=(World.cell?_of_block (a:=⟨gq,oq+q,none⟩) ((KQ5.out gq hgq.1 hgq.2).trans (KQ4.out gq hgq.1 hgq.2).symm)).trans hcq;obtain ⟨nm,hnm⟩:∃ x,L[AR.length+q]'hql=x:=⟨_,rfl⟩;have HNM:=hid hnm;rw [hnm] at hcq2;have q0:(0:Int)≤(q:Int):=by omega
     have q1:(q:Int)<(m:Int):=by omega
     have HSM1:Hid (Sm8 (zrF K.E (newSc K.E sc g k) k sc.chain AR.length t2 q)):=hid ⟨by rw [k1,HT2.out.1];(have hz:=congrArg List.length hargs);omega,by rw [k1,HT2.out.1];(have hz:=congrArg List.length hargs);omega,by rw [k2,HT2.out.2.1];have:=(replJ_lt hrp).2.2.1;omega⟩;have PZ:=hid (i_pushZero B cb K (zrF K.E (newSc K.E sc g k) k sc.chain AR.length t2 q) iv5 X5 sc b jv k wl HC5.out (by omega) HSM1.out);subst haq;clear hcq hLq hnm k1 k2 k3 k4 k5;go_wp2_with fail;refine PZ.out.mono ?_;rintro e w66 ⟨rfl,iv6,X6,HC6,HS6a⟩;have HS6:Hid (Step cb (ME iv b.bb) (ME iv6 b.bb) wq w66):=hid (HS5.out.trans HS6a.out);have HD6:Hid (w66.heap[D2]?=some (.deferred (some []))):=hid ((step_from (B0:=0) HC5.out HS6a.out).same D2 _ (Nat.zero_le _) HD5.out rfl);have KQ6:=hid (KEEPQ.out w66 iv6 HS6.out);have hzl6:=HS6.out.size;have DW2:Hid (Below w66.heap.size w66 w66.drew):=hid (Below.refl _ _).drew;have SSR:Hid (∀ W',Below w66.heap.size w66 W'→W'.cell? ⟨w.heap.size,0,none⟩=some (.pointer (some ⟨b.bb,0,none⟩))∧W'.cell? ⟨w6.heap.size,0,none⟩=some (.pointer (some ⟨bb2,0,none⟩))∧W'.cell? ⟨bb2,4,none⟩=some (.map (some mb2))∧(Instr.lookup 177 (.map (some mb2)) (.string nm) false).run Tryz.prog W'=.ok (.int .i64 (slotZ K.E (newSc K.E sc g k) (AR.length+q))) W'):=hid (fun W' hb=>by
      have h1:=HB2.out;have h2:=H65.out;have h3:=HSZ5.out;have q1:∀ q,w.heap.size≤q→q<wq.heap.size→W'.heap[q]?=wq.heap[q]?:=fun q a1 a2=>(hb.block q (by omega)).trans (KQ6.out q a1 a2)
      refine ⟨(blk ((q1 _ (Nat.le_refl _) (by omega)).trans HXq.out)).1 0 _ rfl,(blk ((q1 _ (by omega) (by omega)).trans HTq.out)).1 0 _ rfl,(blk ((q1 _ (by omega) (by omega)).trans HRq.out)).1 4 _ rfl,?_⟩;rw [← HNM.out];exact LKL.out W' (by have:=hb.size;omega) (q1 _ (by omega) (by omega)) (AR.length+q) hql)
     have HSM2:Hid (Sm8 (numJ K.E (zrF K.E (newSc K.E sc g k) k sc.chain AR.length t2 q) 0 k sc.chain)):=hid ⟨by
      obtain ⟨k1,_⟩:=zrF_keep K.E (newSc K.E sc g k) k sc.chain AR.length t2 q
      show -1099511627776≤(zrF K.E (newSc K.E sc g k) k sc.chain AR.length t2 q).depth+1
      rw [k1,HT2.out.1];(have hz:=congrArg List.length hargs);omega,by
      obtain ⟨k1,_⟩:=zrF_keep K.E (newSc K.E sc g k) k sc.chain AR.length t2 q
      show (zrF K.E (newSc K.E sc g k) k sc.chain AR.length t2 q).depth+1≤1099511627776
      rw [k1,HT2.out.1];(have hz:=congrArg List.length hargs);omega,by
      obtain ⟨_,k2,_⟩:=zrF_keep K.E (newSc K.E sc g k) k sc.chain AR.length t2 q;have e2:(numJ K.E (zrF K.E (newSc K.E sc g k) k sc.chain AR.length t2 q) 0 k sc.chain).items.length=(zrF K.E (newSc K.E sc g k) k sc.chain AR.length t2 q).items.length+1:=by unfold numJ incJ emitJ;simp
      rw [e2,k2,HT2.out.2.1];have:=(replJ_lt hrp).2.2.1;omega⟩
     have hsz:=slot_small K.E (newSc K.E sc g k) (AR.length+q) (by rw [HLL2.out];omega) (by rw [(newSc_free K.E sc g k).2,(newSc_free K.E sc g k).1,HLL2.out];omega) (by have:=HP.out.args;omega);have hsl1:-1099511627776≤slotZ K.E (newSc K.E sc g k) (AR.length+q):=by omega
     have hsl2:slotZ K.E (newSc K.E sc g k) (AR.length+q)≤1099511627776:=by omega
     clear hx5 PZ hcq2;go_upto_region 12 with fail;refine E_start (S:=(fun w'=>w'.cell? ⟨w.heap.size,0,none⟩=some (.pointer (some ⟨b.bb,0,none⟩))∧w'.cell? ⟨w6.heap.size,0,none⟩=some (.pointer (some ⟨bb2,0,none⟩))∧w'.cell? ⟨bb2,4,none⟩=some (.map (some mb2))∧(Instr.lookup 177 (.map (some mb2)) (.string nm) false).run Tryz.prog w'=.ok (.int .i64 (slotZ K.E (newSc K.E sc g k) (AR.length+q))) w')) 7 (by kernel_rfl) (SSR.out _ DW2.out) (fun hHeld=>?_);refine E_tk 0 ?_ (hQ:=fun c a w h=>hQ _ _ _ c a w h)
     try simp only [Act.put,eS1,eS2,eS3,eA1,eA2]
     refine E_tk 1 ?_ (hQ:=fun c a w h=>hQ _ _ _ c a w h)
     try simp only [Act.put,eS1,eS2,eS3,eA1,eA2,eA3]
     refine E_tk 2 ?_ (hQ:=fun c a w h=>hQ _ _ _ c a w h)
     try simp only [Act.put,eS1,eS2,eS3,eA1,eA2,eA3]
     refine E_tk 3 ?_ (hQ:=fun c a w h=>hQ _ _ _ c a w h)
     try simp only [Act.put,eS1,eS2,eS3,eA1,eA2,eA3]
     refine E_tk 4 ?_ (hQ:=fun c a w h=>hQ _ _ _ c a w h)
     try simp only [Act.put,eS1,eS2,eS3,eA1,eA2,eA3]
     refine E_tk 5 ?_ (hQ:=fun c a w h=>hQ _ _ _ c a w h)
     try simp only [Act.put,eS1,eS2,eS3,eA1,eA2,eA3]
     refine E_tk 6 ?_ (hQ:=fun c a w h=>hQ _ _ _ c a w h)
     try simp only [Act.put,eS1,eS2,eS3,eA1,eA2,eA3]
     refine E_last (o:=_) (by kernel_rfl) rfl (by kernel_rfl) (fun K0 hK=>?_)
     try simp only [eA1,eA2,eA3]
     go_simp
     refine (i_store B cb K (numJ K.E (zrF K.E (newSc K.E sc g k) k sc.chain AR.length t2 q) 0 k sc.chain) iv6 X6 sc b jv k (newSc K.E sc g k) (AR.length+q) _ (HC6.out.below DW2.out) (by omega) HSM2.out hsl1 hsl2).mono ?_;rintro e W7 ⟨rfl,iv7,X7,HC7,HS7⟩;have HS7':Hid (Step cb (ME iv b.bb) (ME iv7 b.bb) wq W7):=hid (HS6.out.trans ((Step.of_below DW2.out).trans HS7.out));have HD7:Hid (W7.heap[D2]?=some (.deferred (some []))):=hid ((step_from (B0:=0) HC6.out ((Step.of_below DW2.out).trans HS7.out)).same D2 _ (Nat.zero_le _) HD6.out rfl);go_wp2_with fail;refine hK.out _ _ ?_;clear hK K0;go_wp2_with fail;go_roundw
     case rel=>exact ⟨q+1,by omega,by go_num,iv7,X7,HC7,HS7',HD7⟩
     case measure=>simp [RowKit.intOf] <;> omega
    ·obtain rfl:q=m:=by omega
     have q1:¬ (q:Int)<(q:Int):=by omega
     obtain ⟨t3,ht3⟩:∃ x,zrF K.E (newSc K.E sc g k) k sc.chain AR.length t2 q=x:=⟨_,rfl⟩;rw [ht3] at HC5 k1 k2 k3 k4 k5;have HT3:Hid (t3.depth=t.depth - AR.length∧t3.items.length=t.items.length+AR.length+2*q∧t3.used=max t.used (freeN K.E sc+L.length)∧t3.jumps=t.jumps∧t3.firsts=t.firsts):=hid ⟨k1.trans HT2.out.1,by rw [k2,HT2.out.2.1],k3.trans HT2.out.2.2.1,k4.trans HT2.out.2.2.2.1,k5.trans HT2.out.2.2.2.2⟩;have HEN:Hid (enterJ K.E sc (newSc K.E sc g k) k t=spaceJ K.E k sc.chain t3):=hid (by
      unfold enterJ;have e1:(argsZ K.E.p ((newSc K.E sc g k).f:Int)).length=AR.length:=congrArg List.length hargs;have e2:(newSc K.E sc g k).locs.length - AR.length=q:=by rw [HLL2.out];have:=HMM.out;omega
      have e3:{ t with used:=max t.used ((newSc K.E sc g k).first+(newSc K.E sc g k).locs.length) }=t1:=by rw [HLL2.out];exact HTQ.out
      simp only [e1,e2,e3];rw [HTT2.out,← zrF_end,ht3])
     have hp5:wl.cell? ⟨b.bb,7,none⟩=some (.bool t3.pend):=(blk HC5.out.bd.row).1 7 _ rfl;have HSW:Hid (∀ W iv6,Step cb (ME iv b.bb) (ME iv6 b.bb) wq W→Step cb (ME iv b.bb) (ME iv6 b.bb) w W):=hid (fun W iv6 hs=>⟨hs.os.trans (HBq.out.os.trans (HSe.out.os.trans HDc.out.os)),hs.tape.trans (HBq.out.tape.trans (HSe.out.tape.trans HDc.out.tape)),hs.output.trans (HBq.out.output.trans (HSe.out.output.trans HDc.out.output)),by have:=hs.size;omega,fun p hp hc hm=>(hs.block p (by omega) hc hm).trans ((HBq.out.block p (by have:=HDc.out.size;omega)).trans (HOLD.out p hp hc)),fun v hv p hp=>by
      rcases hs.rows v hv p hp with h1|h1
      ·exact .inl h1
      ·exact .inr (by omega)⟩)
     have FIN:Hid (∀ W t4 iv6 X6,spaceJ K.E k sc.chain t3=t4→CiAt jT Tryz.prog B cb W K t4 iv6 X6 sc b jv k→Step cb (ME iv b.bb) (ME iv6 b.bb) wq W→W.heap[D2]?=some (.deferred (some []))→Calls Tryz.prog 186 #[.pointer (some ⟨bb2,0,none⟩)] W (RpD B cb K R iv sc b jv k D2 w)):=hid (fun W t4 iv6 X6 he hC hS hD=>by
      have hk:=space_keep K.E k sc.chain t3;rw [he] at hk;obtain ⟨s1,s3,s4,s5,_⟩:=hk;have hB2:=HB2.out;have h65:=H65.out;have h5:=HSZ5.out;have hcw:=HCI.out.cc.lt;have hlo:=HCI.out.cc.lo;have KQ:=KEEPQ.out W iv6 hS;have KW:∀ p,w.heap.size≤p→p<we.heap.size→W.heap[p]?=we.heap[p]?:=fun p h1 h2=>(KQ p h1 (by omega)).trans (HBq.out.block p h2)
      refine repl_lines (nM:=0+L.length) (D:=D) (v9:=v9) hB hBw HP.out.ok.1.1 HP.out.ok.1.2 h (HEN.out.trans he) hrp HBO.out hg ?_ ?_ hzl ?_ (s4.trans HT3.out.2.2.2.1) (s5.trans HT3.out.2.2.2.2) HCI.out HW.out hC (HSW.out W iv6 hS) ((KQ _ (by omega) (by omega)).trans HRq.out) HLL2.out (map_keep HMq.out (KQ _ (by omega) (by omega))) (by omega) HGv.out (map_keep HFe.out (KW _ (by omega) (by omega))) ?_ (by omega) (by omega) (by omega) hB2.2.2.2.2.2.2.1 hD
      ·rw [s1,HT3.out.1];(have hz:=congrArg List.length hargs);omega
      ·rw [s1,HT3.out.1,List.length_cons];(have hz:=congrArg List.length hargs);omega
      ·rw [s3,HT3.out.2.2.1];omega
      ·exact owns_lo (owns_blks HO9e.out (fun p hp=>KW p (by have:=(HO9e.out.lt p hp).1;omega) (HO9e.out.lt p hp).2)) (by omega))
     have EM:Hid (∀ W,Below wl.heap.size wl W→Calls Tryz.prog 185 #[.pointer (some ⟨b.bb,0,none⟩),.int .i64 15,.int .i64 0] W (EmR B cb K (emitJ K.E t3 15 0 k sc.chain) iv5 sc b jv k W)):=hid (fun W hb=>i_emit B cb K t3 iv5 X5 sc b jv k 15 0 W (HC5.out.below hb) (by omega) (by rw [HC5.out.len,HT3.out.2.1];have:=(replJ_lt hrp).2.2.1;omega));clear k1 k2 k3 k4 k5 hB hBw h hrp hd1 hd2 hzl hu hargs;have z5:wl.cell? ⟨w6.heap.size,0,none⟩=some (.pointer (some ⟨bb2,0,none⟩)):=(blk ((KQ5.out _ (by have:=H65.out;have:=HSZ5.out;omega) (by have:=H65.out;omega)).trans HTq.out)).1 0 _ rfl
     cases hpd:t3.pend
     ·rw [hpd] at hp5
      clear EM;go_wp2_with fail;refine (FIN.out _ t3 iv5 X5 (by unfold spaceJ;rw [hpd];rfl) HC5.out HS5.out HD5.out).mono ?_;rintro e w8 ⟨rfl,dd,iv8,X8,HC8,HS8,HD8⟩;clear FIN;go_wp2_with fail;have HFI:EmD B cb K R iv sc b jv k w (.returned (.tuple #[])) (w8.putObj D2 (.deferred none)):=by
       have hgp:=grownBy_putObj' w8 D2 (.deferred none);have hs8:=HS8.out.size;have hqz:w.heap.size≤wq.heap.size:=by have:=HDc.out.size;omega
       refine ⟨rfl,dd,iv8,X8,hid (HC8.out.grown (B0:=wq.heap.size) hbm hbf hgp (fun r e=>by cases e;exact ⟨hD2,_,HD8.out,rfl⟩)),hid ⟨hgp.os.trans HS8.out.os,hgp.tape.trans HS8.out.tape,hgp.output.trans HS8.out.output,Nat.le_trans hs8 hgp.size,fun p hp hc hm=>(hgp.block p (by omega) (fun e=>?_)).trans (HS8.out.block p hp hc hm),HS8.out.rows⟩⟩;injection e with e
       omega
      refine ⟨by simp,_,_,rfl,run_takeDeferred HD8.out,?_⟩;exact ⟨_,by simp [results,Tryz.results233],HFI⟩
     ·rw [hpd] at hp5
      go_wp2_with fail;refine (EM.out _ (Below.refl _ _)).mono ?_;rintro e w7 ⟨rfl,iv6,X6,HC6,HS6⟩;have HS7:Hid (Step cb (ME iv b.bb) (ME iv6 b.bb) wq w7):=hid (HS5.out.trans HS6.out);have HD7:Hid (w7.heap[D2]?=some (.deferred (some []))):=hid ((step_from (B0:=0) HC5.out HS6.out).same D2 _ (Nat.zero_le _) HD5.out rfl);have z7:w7.cell? ⟨w6.heap.size,0,none⟩=some (.pointer (some ⟨bb2,0,none⟩)):=(blk ((KEEPQ.out w7 iv6 HS7.out _ (by have:=H65.out;have:=HSZ5.out;omega) (by have:=H65.out;omega)).trans HTq.out)).1 0 _ rfl;clear EM z5 hp5 hx5;go_wp2_with fail;refine (FIN.out _ _ iv6 X6 (by unfold spaceJ;rw [hpd];rfl) HC6.out HS7.out HD7.out).mono ?_;rintro e w8 ⟨rfl,dd,iv8,X8,HC8,HS8,HD8⟩;clear FIN;go_wp2_with fail;have HFI:EmD B cb K R iv sc b jv k w (.returned (.tuple #[])) (w8.putObj D2 (.deferred none)):=by
       have hgp:=grownBy_putObj' w8 D2 (.deferred none);have hs8:=HS8.out.size;have hqz:w.heap.size≤wq.heap.size:=by have:=HDc.out.size;omega
       refine ⟨rfl,dd,iv8,X8,hid (HC8.out.grown (B0:=wq.heap.size) hbm hbf hgp (fun r e=>by cases e;exact ⟨hD2,_,HD8.out,rfl⟩)),hid ⟨hgp.os.trans HS8.out.os,hgp.tape.trans HS8.out.tape,hgp.output.trans HS8.out.output,Nat.le_trans hs8 hgp.size,fun p hp hc hm=>(hgp.block p (by omega) (fun e=>?_)).trans (HS8.out.block p hp hc hm),HS8.out.rows⟩⟩;injection e with e
       omega
      refine ⟨by simp,_,_,rfl,run_takeDeferred HD8.out,?_⟩;exact ⟨_,by simp [results,Tryz.results233],HFI⟩
end Go.Proofs.YtcflojdkaddemaaGreatDoor
