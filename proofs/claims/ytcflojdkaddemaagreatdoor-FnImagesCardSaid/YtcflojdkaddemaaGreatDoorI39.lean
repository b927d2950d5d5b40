/- Parts of the proof. -/
import Derived.Test.YtcflojdkaddemaaGreatDoorI34
import Derived.Test.YtcflojdkaddemaaGreatDoorI38
namespace Go.Proofs.YtcflojdkaddemaaGreatDoor.fnImages
open Go.RowKit Go.Lib
open Go.Proofs.YtcflojdkaddemaaGreatDoor.fnItems (l_has)
theorem run_neq_op (i j o p:Int) (W:World):(binOp .neq 38 (.agg #[.int .i64 i,.int .i64 o]) (.agg #[.int .i64 j,.int .i64 p])).run Tryz.prog W=.ok (.bool (!(decide (i=j)&&decide (o=p)))) W:=by
 have hu:Tryz.prog.underlying 38=some (.struct (Tryz.prog.fieldsOf 38)):=by kernel_rfl
 rw [run_neq_struct,run_equalIn_struct W 9999 38 _ _ hu (by kernel_rfl)];simp [Program.fieldsOf,Tryz.underlying38,Tryz.underlying3,Op.eqFields,go_sem]
 by_cases h1:i=j <;> by_cases h2:o=p <;> simp [h1,h2]
theorem arg_small {x:OpL} (h:insB x=true):-4294967296≤x.arg∧x.arg≤4294967296:=by
 obtain ⟨_,h1,h2⟩:=insB_parts x h
 rcases fit_cases x.code with ⟨_,_,h3,h4⟩|⟨_,_,h3,h4⟩|⟨_,_,h3,h4⟩|⟨_,_,h3,h4⟩|⟨_,_,h3,h4⟩ <;> (rw [h3] at h1;rw [h4] at h2;omega)
theorem arr_list (c:List UInt8):(⟨c.toArray⟩:ByteArray).data.toList=c∧(⟨c.toArray⟩:ByteArray).size=c.length:=⟨rfl,by simp [ByteArray.size]⟩
set_option maxRecDepth 100000 in
set_option maxHeartbeats 8000000 in
theorem walk (a0:Option Addr) (len0 cap0:Nat) (z0:List Int) (w:World) (w0:IsRow .u8 w a0 len0 cap0 z0) (hL:laidMet Tryz.prog Rows.fnImagesRow.laid w) :
  Calls Tryz.prog 3 #[.slice a0 len0 cap0] w fun e w'=>e=.returned (.bool true)∧Below w.heap.size w w':=by
 have HC:=Lib.hid w0;have HSH:=Lib.hid (fun (W:World) (hb:Below w.heap.size w W)=>(shapes_head hL).on hb);have hlen:len0≤9223372036854775807:=by
  rcases w0 with ⟨_,rfl,_,_⟩|⟨x,_,h1,h2,_⟩
  ·omega
  ·unfold maxLen at h2;omega
 clear hL w0
 by_cases hb:1048576<len0
 ·go_enter Tryz.func3,Tryz.ntmps3
  go_wp2_with fail;refine (big_yes a0 len0 cap0 _ hb hlen).mono ?_;rintro e w' ⟨rfl,rfl⟩;go_wp2;go_ret;exact ⟨rfl,Below.refl _ _⟩
 have hb':len0≤1048576:=by omega
 go_enter Tryz.func3,Tryz.ntmps3
 go_wp2_with fail;refine (big_no a0 len0 cap0 _ hb').mono ?_;rintro e w' ⟨rfl,rfl⟩;go_wp2_with fail;refine (d_build a0 len0 cap0 z0 _ HC.out hb').mono ?_;rintro e w1 ⟨g,cp,X,fm,inl,fo,sp,fm2,inl2,fo2,sp2,rfl,HO1,HA1,hok,m0,m1,mi,_,_,_,b1⟩;have R1:=Lib.hid (readL_of HO1.out HA1.out);have HB1:=Lib.hid b1;have hcap:=own_cap4 HO1.out;have hxl:=len_ok4 hok;have HZ:=Lib.hid (szal_ok4 hok);have HOK:=Lib.hid hok;have hs1:=b1.size;have T2:=Lib.hid (two_new w1 (.cells #[.int .i64 fm,.int .i64 (inl:Int),.bool fo,.bool sp] 26) (.cells #[.int .i64 fm2,.int .i64 (inl2:Int),.bool fo2,.bool sp2] 26));clear b1 hok HA1 HO1;obtain ⟨wa,hwa⟩:∃ W,(w1.alloc (.cells #[.int .i64 fm,.int .i64 (inl:Int),.bool fo,.bool sp] 26)).alloc (.cells #[.int .i64 fm2,.int .i64 (inl2:Int),.bool fo2,.bool sp2] 26)=W:=⟨_,rfl⟩;rw [hwa] at T2;have HWA:=Lib.hid hwa;clear hwa;obtain ⟨tt0,_,ttz,ttb⟩:=T2.out;have PB:=Lib.hid tt0;have HBA:Hid (Below w.heap.size w wa):=Lib.hid (HB1.out.trans (ttb.mono hs1));have RA:=Lib.hid (R1.out.below ttb);have hza:=HBA.out.size;have PO:=Lib.hid (s_progOkB (some ⟨g,0,none⟩) cp X wa (by omega) RA.out HZ.out);rw [(pokB_iff _).2 HOK.out] at PO;clear tt0 ttz ttb T2;go_wp2_with fail;rw [HWA.out];refine PO.out.mono ?_;rintro e w3 ⟨rfl,b2⟩;have HB3:=Lib.hid (HBA.out.trans (b2.mono hza));have PB3:=Lib.hid ((b2.block _ (blk PB.out).2.2).trans PB.out);have HPR:=Lib.hid (RA.out.below b2);clear b2 PO;obtain ⟨pa,hpa⟩:∃ A,(some ⟨g,0,none⟩:Option Addr)=A:=⟨_,rfl⟩;rw [hpa] at HPR ⊢;clear hpa;have EX:∃ LF:Nat→List ItL,∀ f (hf:f<(funs (plL X)).length),CompTo (if fo=true then foldP (plL X) else plL X) (frB fm f) inl (funs (plL X))[f] (LF f) :=
  ⟨fun f=>if hf:f<(funs (plL X)).length then Classical.choose (comp_total (if fo=true then foldP (plL X) else plL X) (frB fm f) inl (funs (plL X))[f]) else [],fun f hf=>by
   dsimp only;rw [dif_pos hf];exact Classical.choose_spec (comp_total (if fo=true then foldP (plL X) else plL X) (frB fm f) inl (funs (plL X))[f])⟩
 obtain ⟨LF,hLF⟩:=EX;have hFI:∀ f (hf:f<(funs (plL X)).length),FnIt (plL X) (funs (plL X))[f] (LF f):=fun f hf=>by
  have h:=hLF f hf
  cases fo with
  | false=>exact fn_it HOK.out (List.getElem_mem hf) mi h
  | true=>exact fn_fold (fn_it (ok_fold HOK.out) (by rw [funs_fold];exact List.getElem_mem hf) mi h)
 have IA:=Lib.hid (fun im=>img_all HOK.out hFI sp im);have ASM:=Lib.hid (fun W (hb:Below w3.heap.size w3 W) im (him:im≤1)=>i_assemble inl pa cp X (by omega) hcap W (HPR.out.below hb) HZ.out (HSH.out W (HB3.out.trans (hb.mono HB3.out.size))) HOK.out fm ⟨m0,m1⟩ mi fo sp im him LF hLF hFI);have PLO:=Lib.hid (fun W (hb:Below w3.heap.size w3 W) im (him:im≤1)=>i_placesOf inl pa cp X (by omega) hcap W (HPR.out.below hb) HZ.out (HSH.out W (HB3.out.trans (hb.mono HB3.out.size))) HOK.out fm ⟨m0,m1⟩ mi fo sp im him LF hLF hFI);have FL:=Lib.hid (fun W (hb:Below w3.heap.size w3 W)=>s_funLines pa cp X W (by omega) (HPR.out.below hb));have PB3r:=Lib.hid (fun (W:World) (hb:Below w3.heap.size w3 W)=>(hb.block _ (blk PB3.out).2.2).trans PB3.out);have hfl:(funI (plL X)).length=(funs (plL X)).length:=funI_length (plL X);have CT:=Lib.hid (cntI_two (plL X) sp LF);have CB:Hid (∀ q,q≤2→cntI (plL X) sp LF q≤12):=Lib.hid (fun q hq=>by
  have h0:=(IA.out 0).cnt;have h1:=(IA.out 1).cnt;have e0:cntI (plL X) sp LF 0=0:=rfl;have e1:cntI (plL X) sp LF 1=cntI (plL X) sp LF 0+(fnsIm (plL X) sp 0 LF (funs (plL X)).length).length:=rfl;have e2:cntI (plL X) sp LF 2=cntI (plL X) sp LF 1+(fnsIm (plL X) sp 1 LF (funs (plL X)).length).length:=rfl
  match q,hq with
  | 0,_=>omega
  | 1,_=>omega
  | 2,_=>omega)
 obtain ⟨cnt,hcn⟩:∃ c,cntI (plL X) sp LF=c:=⟨_,rfl⟩;obtain ⟨FA,hfa⟩:∃ F,(fun im=>fnsIm (plL X) sp im LF (funs (plL X)).length)=F:=⟨_,rfl⟩;have hfa':∀ im,fnsIm (plL X) sp im LF (funs (plL X)).length=FA im:=fun im=>by rw [← hfa]
 obtain ⟨n,hn⟩:∃ n,(funs (plL X)).length=n:=⟨_,rfl⟩;have CS:Hid (∀ q,cnt (q+1)=cnt q+(FA q).length):=Lib.hid (fun q=>by rw [← hcn,← hfa'];rfl);simp only [hfa'] at IA ASM PLO;rw [hcn] at CT CB;rw [hn] at CT hfl;have C0:Hid (cnt 0=0):=Lib.hid (by rw [← hcn];rfl);obtain ⟨p,hp⟩:∃ p,plL X=p:=⟨_,rfl⟩;rw [hp] at IA ASM;obtain ⟨i0,hi,hz0,hz1,hz2⟩:=info_parts infoI4;clear hLF hFI hcn hfa hfa' hn hp hcap HZ HOK HSH R1 RA HC HWA HBA PB hb hb' hlen;go_wp2_with fail
 go_loopw [2,6,7,8,9,10,11,12,13,14,15,16] (fun _ c i _ _ _ _ _ _ _ _ _ wr=>∃ q:Nat,q≤2∧i=.int .i64 (q:Int)∧c=.int .i64 (cnt q:Int)∧Hid (Below w3.heap.size w3 wr)) (fun _ _ i _ _ _ _ _ _ _ _ _ _=>2 - (RowKit.intOf i).toNat)
 case atStart=>exact ⟨0,by omega,rfl,by rw [C0.out];rfl,Lib.hid (Below.refl _ _)⟩
 case round =>
  obtain ⟨q,hq,rfl,rfl,HB⟩:=hrel;have hzr:=HB.out.size;obtain ⟨e0,e1,e2,e3⟩:=cells4 (PB3r.out wr HB.out)
  by_cases hlt:q<2
  ·have AQ:=Lib.hid (ASM.out wr HB.out q (by omega))
   have IQ:=Lib.hid (IA.out q);have CQ:=Lib.hid (CS.out q);have hcb:=CB.out q hq;have hcb2:=CB.out (q+1) (by omega);have PQ:=Lib.hid (fun W hb=>PLO.out W hb q (by omega));have hq2:(q:Int)<2:=by omega
   obtain ⟨Cc,hCc⟩:∃ c,layC 0 (FA q)=c:=⟨_,rfl⟩;obtain ⟨Sy,hSy⟩:∃ c,laySy p 0 (FA q)=c:=⟨_,rfl⟩;obtain ⟨Pl,hPl⟩:∃ c,layP 0 (FA q)=c:=⟨_,rfl⟩;have hok:=IQ.out.ok;have hcl:=IQ.out.len;have hsl:=IQ.out.syl;have hnm:=Lib.hid IQ.out.nms;have hpl:=IQ.out.pll;have hof:=Lib.hid IQ.out.off;have hdc:=Lib.hid IQ.out.plc;have hju:=Lib.hid IQ.out.ju;have hc6:=IQ.out.cnt;rw [hCc,hSy] at AQ hok;rw [hCc] at hcl hdc;rw [hSy] at hsl hnm hju;rw [hPl] at PQ hpl hof hdc hju;have HOKI:=Lib.hid hok;have HCQ:Hid (cnt (q+1)=cnt q+Sy.length):=Lib.hid (by rw [CQ.out,hsl]);have hs6:Sy.length≤6:=by omega
   clear hCc hSy hPl hok hsl hc6 CQ IQ;go_wp2_with fail;refine AQ.out.mono ?_;rintro e w4 ⟨vS,rfl,OS,b4⟩;obtain ⟨aS,cS,rfl⟩:=owns3_shape OS;have B4:Hid (Below w3.heap.size w3 w4):=Lib.hid (HB.out.trans (b4.mono hzr));have RS:=Lib.hid (readSy_of OS);have z4:=B4.out.size;clear b4 OS AQ e0 e1 e2 e3;obtain ⟨w5,hw5⟩:∃ W,w4.alloc (.cells #[.string ⟨Cc.toArray⟩,.slice aS Sy.length cS] 32)=W:=⟨_,rfl⟩;have B5:Hid (Below w3.heap.size w3 w5):=Lib.hid (hw5▸B4.out.alloc z4 _);have P5:Hid (w5.heap[w4.heap.size]?=some (.cells #[.string ⟨Cc.toArray⟩,.slice aS Sy.length cS] 32 (0,0))):=Lib.hid (by rw [← hw5];exact heap_alloc_new w4 _);have RS5:=Lib.hid (RS.out.below (hw5▸(Below.refl w4.heap.size w4).alloc (Nat.le_refl _) _));have HW5:=Lib.hid hw5;have z5:=B5.out.size;clear hw5 RS;go_upto_region 11 with fail;rw [HW5.out];clear HW5;obtain ⟨e0,e1,e2,e3⟩:=cells4 (PB3r.out w5 B5.out);go_wp2_with fail;refine (PQ.out w5 B5.out).mono ?_;rintro e w6 ⟨vP,Y,rfl,OP,hY,b6⟩;obtain ⟨aP,cP,rfl⟩:=owns3_shape OP;have B6:Hid (Below w3.heap.size w3 w6):=Lib.hid (B5.out.trans (b6.mono z5));have RP:=Lib.hid (readPl_of OP);have P6:=Lib.hid ((b6.block _ (blk P5.out).2.2).trans P5.out);have RS6:=Lib.hid (RS5.out.below b6);have z6:=B6.out.size;have hyl:Y.length=Pl.length:=by have h:=congrArg List.length hY;simpa using h
   have hym:Y.length≤18000:=by omega
   have HYA:Hid (∀ k (hk:k<Y.length),∃ y,y ∈ Pl∧Y[k].off=(y.1:Int)∧Y[k].it=y.2):=Lib.hid (fun k hk=>by
    have h:(Y.map fun x=>(x.off,x.it))[k]?=(Pl.map fun y=>((y.1:Int),y.2))[k]?:=by rw [hY]
    rw [List.getElem?_map,List.getElem?_map,List.getElem?_eq_getElem hk,List.getElem?_eq_getElem (by omega)] at h;have e:=Option.some.inj h;exact ⟨Pl[k]'(by omega),List.getElem_mem _,congrArg Prod.fst e,congrArg Prod.snd e⟩)
   have HYO:Hid (Y.map (·.off)=Pl.map fun z=>((z.1:Nat):Int)):=Lib.hid (by
    have h:=congrArg (List.map Prod.fst) hY;rw [List.map_map,List.map_map] at h;exact h)
   clear b6 OP hY PQ P5 RS5 e0 e1 e2 e3 hyl hpl;obtain ⟨i0c,i1c⟩:w6.cell? ⟨w4.heap.size,0,none⟩=some (.string ⟨Cc.toArray⟩)∧w6.cell? ⟨w4.heap.size,1,none⟩=some (.slice aS Sy.length cS):=⟨(blk P6.out).1 0 _ rfl,(blk P6.out).1 1 _ rfl⟩;go_upto_region 14 with fail;obtain ⟨w7,hw7⟩:∃ W,w6.alloc (.cells #[] 3)=W:=⟨_,rfl⟩;have B7:Hid (Below w6.heap.size w6 w7):=Lib.hid (hw7▸(Below.refl _ _).alloc (Nat.le_refl _) _);have O7:Hid (w7.ownsRow w6.heap.size 3 1 (.slice (some ⟨w6.heap.size,0,none⟩) 0 0) 0 (intV [])):=Lib.hid (hw7▸World.ownsRow_lit (base:=w6.heap.size) (e:=3) (size:=1) w6 #[] 0 (Nat.le_refl _) (by decide) rfl);have HW7:=Lib.hid hw7;rw [hw7];clear hw7 i0c i1c HW7;go_wp2_with fail
   go_loopw [10,11] (fun v i wr=>∃ k:Nat,k≤Y.length∧i=.int .i64 (k:Int)∧Hid (wr.ownsRow w6.heap.size 3 1 v k (intV ((Y.map (·.off)).take k)))∧Hid (Below w6.heap.size w6 wr)) (fun _ i _=>Y.length - (RowKit.intOf i).toNat)
   case atStart=>exact ⟨0,Nat.zero_le _,rfl,O7,B7⟩
   case round =>
    obtain ⟨k,hk,rfl,HO,HBk⟩:=hrel;rename World=>wb
    have hzk:=HBk.out.size
    by_cases hkl:k<Y.length
    ·obtain ⟨gP,rfl,hgP,CE⟩:=(RP.out.below HBk.out) k hkl
     have c0:=(CE 0 (by omega)).trans (plc_cells Y[k]).1;rw [Nat.add_zero] at c0;have HT:Hid (intV ((Y.map (·.off)).take (k+1))=intV ((Y.map (·.off)).take k)++[.int .i64 Y[k].off]):=Lib.hid (by
      rw [List.take_succ_eq_append_getElem (by simpa using hkl),intV_append];simp [intV])
     generalize Y[k].off=yo at *;have k0:(0:Int)≤(k:Int):=by omega
     have k1:(k:Int)<(Y.length:Int):=by omega
     have h63:k+1≤maxLen:=by unfold maxLen;omega
     have hby:(k+1)*8≤140737488355328:=by omega
     have hown:=HO.out;clear CE;go_wp2_with (at_builtin;refine wpList_append_own _ rfl _ _ 36 rfl w6.heap.size 3 i0 _ 1 8 Tryz.underlying36 hi hz0 hz1 hz2 rfl (by decide) _ _ _ rfl (hown.alloc _) ⟨wb.heap.size,0,none⟩ 1 1 [.int .i64 yo] rfl rfl ?c1 ?c2 h63 hby ?c5 ?_)
     case c2=>rfl
     case c5=>first|omega|(simp;omega)
     intro v' w8 hown8 hgrow _;have HO8:Hid (w8.ownsRow w6.heap.size 3 1 v' (k+1) (intV ((Y.map (·.off)).take (k+1)))):=Lib.hid (by rw [HT.out];exact hown8);have HB8:Hid (Below w6.heap.size w6 w8):=Lib.hid (below_app' hown HBk.out hzk hgrow);clear hown8 hgrow hown c0 HT;go_wp2;go_roundw
     case rel=>exact ⟨k+1,by omega,by go_num,HO8,HB8⟩
     case measure=>simp [RowKit.intOf];omega
    ·have hkk:k=Y.length:=by omega
     have HOF:Hid (wb.ownsRow w6.heap.size 3 1 u10 (Y.map (·.off)).length (intV (Y.map (·.off)))):=Lib.hid (by
      have h:=HO.out;rw [List.take_of_length_le (by simp;omega)] at h;rw [List.length_map,← hkk];exact h)
     have k1:¬ (k:Int)<(Y.length:Int):=by omega
     obtain ⟨aO,cO,hsO⟩:=owns_shape HOF.out;subst hsO;have RO:=Lib.hid (readI_of HOF.out);have PBk:=Lib.hid ((HBk.out.block _ (blk P6.out).2.2).trans P6.out);have RSk:=Lib.hid (RS6.out.below HBk.out);have RPk:=Lib.hid (RP.out.below HBk.out);have HB9:Hid (Below w3.heap.size w3 wb):=Lib.hid (B6.out.trans (HBk.out.mono z6));have z9:=HB9.out.size;have hol:(Y.map (·.off)).length≤1048576:=by simp;omega
     obtain ⟨OF,hOF⟩:∃ l,Y.map (·.off)=l:=⟨_,rfl⟩;rw [hOF] at RO hol ⊢;have HOL:Hid (OF=Pl.map fun z=>((z.1:Nat):Int)):=Lib.hid (by rw [← hOF];exact HYO.out);clear hkk HO HOF O7 B7 P6 RS6 RP HBk hOF HYO;go_wp2_with fail
     go_loopw [2,12,13,14,15,16] (fun _ i _ _ _ _ wr=>∃ k:Nat,k≤Y.length∧i=.int .i64 (k:Int)∧Hid (Below wb.heap.size wb wr)) (fun _ i _ _ _ _ _=>Y.length - (RowKit.intOf i).toNat)
     case atStart=>exact ⟨0,Nat.zero_le _,rfl,Lib.hid (Below.refl _ _)⟩
     case round =>
      obtain ⟨j,hj,rfl,HBj⟩:=hrel;rename World=>wd
      have hzj:=HBj.out.size
      by_cases hjl:j<Y.length
      ·obtain ⟨gP,hgP0,hgP,CE⟩:=RPk.out j hjl
       obtain ⟨d0,d1,d2,_⟩:=plc_cells Y[j];have c0:=(CE 0 (by omega)).trans d0;have c1:=(CE 1 (by omega)).trans d1;have c2:=(CE 2 (by omega)).trans d2;rw [Nat.add_zero] at c0;obtain ⟨y,hyP,hyo,hyi⟩:=HYA.out j hjl;rw [hyo] at c0;rw [hyi] at c1 c2;obtain ⟨hy9,hyb⟩:=hof.out y hyP;have hyd:=hdc.out y hyP;have HYJ:=Lib.hid (hju.out y hyP);obtain ⟨yo,yit⟩:=y;dsimp only at c0 c1 c2 hy9 hyd HYJ;obtain ⟨yc,ya,yl,ys,yh,yd,ye⟩:=yit;dsimp only at *;obtain ⟨wn,hwn⟩:∃ m:Nat,1+widN yc=m:=⟨_,rfl⟩;rw [hwn] at hyd HYJ;have hw5:wn≤5:=by have:=widN_le yc;omega
       have DE:Hid (∀ W:World,Calls Tryz.prog 14 #[.string ⟨Cc.toArray⟩,.int .i64 (yo:Int)] W fun e w'=>e=.returned (.tuple #[.agg #[.int .i64 yc,.int .i64 ya],.int .i64 (wn:Int),.bool true])∧Below W.heap.size W w'):=Lib.hid (fun W=>by
        have h:=s_dec7 ⟨Cc.toArray⟩ (yo:Int) W (by rw [(arr_list Cc).2];omega);rw [(arr_list Cc).1,hyd] at h;exact h)
       have KP:Hid (∀ W,Below wb.heap.size wb W→(W.cell? ⟨w4.heap.size,0,none⟩=some (.string ⟨Cc.toArray⟩)∧W.cell? ⟨w4.heap.size,1,none⟩=some (.slice aS Sy.length cS))∧(W.cell? ⟨gP,j*8,none⟩=some (.int .i64 (yo:Int))∧W.cell? ⟨gP,j*8+1,none⟩=some (.int .i64 yc)∧W.cell? ⟨gP,j*8+2,none⟩=some (.int .i64 ya))):=Lib.hid (fun W hb=>by
        have h:=(hb.block _ (blk PBk.out).2.2).trans PBk.out;exact ⟨⟨(blk h).1 0 _ rfl,(blk h).1 1 _ rfl⟩,(hb.cell (p:=⟨gP,_,none⟩) hgP).trans c0,(hb.cell (p:=⟨gP,_,none⟩) hgP).trans c1,(hb.cell (p:=⟨gP,_,none⟩) hgP).trans c2⟩)
       have hsm:-4294967296≤ya∧ya≤4294967296:=arg_small hyb;have hw1:IntKind.i64.wrap ((yo:Int)+(wn:Int))=(yo:Int)+(wn:Int):=IntWalk.i64_in _ (by omega);have hw2:IntKind.i64.wrap ((yo:Int)+(wn:Int)+ya)=(yo:Int)+(wn:Int)+ya:=IntWalk.i64_in _ (by omega);have j0:(0:Int)≤(j:Int):=by omega
       have j1:(j:Int)<(Y.length:Int):=by omega
       subst hgP0;clear CE d0 d1 d2 c0 c1 c2 hyo hyi hyP hyb hyd hwn hgP;have HBJ:Hid (∀ W,Below wd.heap.size wd W→Below wb.heap.size wb W):=Lib.hid (fun W hb=>HBj.out.trans (hb.mono hzj));have A0:Hid (∀ W,Below (wd.alloc (.cells #[.int .i64 0,.int .i64 0] 38)).drew.heap.size (wd.alloc (.cells #[.int .i64 0,.int .i64 0] 38)).drew W→W.cell? ⟨wd.heap.size,0,none⟩=some (.int .i64 0)∧W.cell? ⟨wd.heap.size,1,none⟩=some (.int .i64 0)∧W.frozen? ⟨wd.heap.size,0,none⟩=false∧W.frozen? ⟨wd.heap.size,1,none⟩=false):=Lib.hid (fun W hb=>by
        have h:=blk ((hb.block wd.heap.size (by show wd.heap.size<(wd.alloc _).heap.size;simp)).trans (heap_alloc_new wd _));exact ⟨h.1 0 _ rfl,h.1 1 _ rfl,h.2.1 0,h.2.1 1⟩)
       go_upto_region 21 with fail
       go_cut [13,14,15] (fun v13 v14 v15 wx=>∃ gb,v13=.pointer (some ⟨gb,0,none⟩)∧v14=.int .i64 (wn:Int)∧v15=.bool true∧Hid (Below wb.heap.size wb wx)∧Hid (wx.cell? ⟨gb,0,none⟩=some (.int .i64 yc)∧wx.cell? ⟨gb,1,none⟩=some (.int .i64 ya))∧gb<wx.heap.size)
       case first =>
        go_region_held3 (fun W=>(W.cell? ⟨w4.heap.size,0,none⟩=some (.string ⟨Cc.toArray⟩)∧W.cell? ⟨w4.heap.size,1,none⟩=some (.slice aS Sy.length cS))∧(W.cell? ⟨gP,j*8,none⟩=some (.int .i64 (yo:Int))∧W.cell? ⟨gP,j*8+1,none⟩=some (.int .i64 yc)∧W.cell? ⟨gP,j*8+2,none⟩=some (.int .i64 ya)))
         (first|exact KP.out _ (HBJ.out _ (Below.refl wd.heap.size wd).drew)|exact KP.out _ (HBJ.out _ ((Below.refl wd.heap.size wd).alloc (Nat.le_refl _) _).drew)|exact KP.out _ (HBJ.out _ (undrewB b5))|exact KP.out _ (HBJ.out _ ((undrewB b5).setCell (Nat.le_refl _) _))|exact KP.out _ (HBJ.out _ (((undrewB b5).setCell (Nat.le_refl _) _).setCell (Nat.le_refl _) _))|exact KP.out _ (HBJ.out _ (undrew b5))|exact KP.out _ (HBJ.out _ ((undrew b5).alloc (undrew b5).size _)))
         (first
          | (go_at_call 14;(with_reducible refine (DE.out _).mono ?_);rintro e w5 ⟨rfl,b5⟩;(first|(have hq:=A0.out w5 b5;obtain ⟨q0,q1,f0,f1⟩:=hq)|skip)))
        ·have HBX:Hid (Below wb.heap.size wb (w5.alloc (.cells #[.int .i64 yc,.int .i64 ya] 38))):=Lib.hid (HBJ.out _ ((undrew b5).alloc (undrew b5).size _))
         have h:=blk (heap_alloc_new w5 (.cells #[.int .i64 yc,.int .i64 ya] 38));have HQ:=Lib.hid (And.intro (h.1 0 _ rfl) (h.1 1 _ rfl));have hlt5:=h.2.2;clear h b5;go_wp2_with fail;go_meet;exact ⟨_,rfl,rfl,rfl,HBX,HQ,hlt5⟩
        ·have hk:=(b5.block wd.heap.size (by show wd.heap.size<(wd.alloc _).heap.size;simp)).trans (heap_alloc_new wd _)
         have HBX:Hid (Below wb.heap.size wb ((w5.setCell ⟨wd.heap.size,0,none⟩ (.int .i64 yc)).setCell ⟨wd.heap.size,1,none⟩ (.int .i64 ya))):=Lib.hid (HBJ.out _ (((undrewB b5).setCell (Nat.le_refl _) _).setCell (Nat.le_refl _) _));have h:=blk (heap_setCell_at (j:=1) (heap_setCell_at (j:=0) hk (.int .i64 yc)) (.int .i64 ya));have HQ:Hid (((w5.setCell ⟨wd.heap.size,0,none⟩ (.int .i64 yc)).setCell ⟨wd.heap.size,1,none⟩ (.int .i64 ya)).cell? ⟨wd.heap.size,0,none⟩=some (.int .i64 yc)∧((w5.setCell ⟨wd.heap.size,0,none⟩ (.int .i64 yc)).setCell ⟨wd.heap.size,1,none⟩ (.int .i64 ya)).cell? ⟨wd.heap.size,1,none⟩=some (.int .i64 ya)):=Lib.hid ⟨h.1 0 _ rfl,h.1 1 _ rfl⟩;have hlt5:=h.2.2;clear h hk b5 q0 q1 f0 f1;go_wp2_with fail;go_meet;exact ⟨_,rfl,rfl,rfl,HBX,HQ,hlt5⟩
       case rest =>
        rename World=>we
        obtain ⟨gb,rfl,rfl,rfl,HBE,HOP,hgb⟩:=hcut;clear A0 DE HBJ;obtain ⟨⟨i0c,i1c⟩,c0,c1,c2⟩:=KP.out we HBE.out;obtain ⟨o0,o1⟩:=HOP.out;have hbin:=fun W=>run_neq_op yc yc ya ya W
        have hze:=HBE.out.size;go_wp2_with fail;go_quiet (fail);obtain ⟨T,hT⟩:∃ T,(yo:Int)+(wn:Int)+ya=T:=⟨_,rfl⟩;have HT:=Lib.hid hT;go_upto_region 24 with fail
        go_cut [16] (fun v wx=>v=.int .i64 T∧Hid (Below wb.heap.size wb wx)∧Hid (wx.cell? ⟨gb,0,none⟩=some (.int .i64 yc)))
        case first =>
         clear hT;go_quiet (fail);go_wp2_with fail;go_meet;exact ⟨by rw [HT.out],Lib.hid (drewN_b (drewN_b HBE.out _) _),Lib.hid o0⟩
        case rest =>
         rename World=>wf
         obtain ⟨rfl,HBF,HOF2⟩:=hcut;have HBFW:Hid (∀ W,Below wf.heap.size wf W→Below wb.heap.size wb W):=Lib.hid (fun W hb=>HBF.out.trans (hb.mono HBF.out.size));have hgbf:=World.block_lt_of_cell? wf _ HOF2.out;have KF:Hid (∀ W,Below wf.heap.size wf W→((W.cell? ⟨w4.heap.size,0,none⟩=some (.string ⟨Cc.toArray⟩)∧W.cell? ⟨w4.heap.size,1,none⟩=some (.slice aS Sy.length cS))∧(W.cell? ⟨gP,j*8,none⟩=some (.int .i64 (yo:Int))∧W.cell? ⟨gP,j*8+1,none⟩=some (.int .i64 yc)∧W.cell? ⟨gP,j*8+2,none⟩=some (.int .i64 ya)))∧W.cell? ⟨gb,0,none⟩=some (.int .i64 yc)):=Lib.hid (fun W hb=>⟨KP.out W (HBFW.out W hb),(hb.cell (p:=⟨gb,0,none⟩) hgbf).trans HOF2.out⟩);clear i0c i1c c0 c1 c2 o0 o1 hbin HBE HOP hgb hze HT hw1 hw2
         by_cases hyc:yc=10
         ·have hjump:=HYJ.out (.inl hyc)
          obtain ⟨tt,ht1,ht2,ht3⟩:=hjump;rw [hT] at ht1;rw [← HOL.out] at ht2;have HAS:=Lib.hid (fun W (hb:Below wb.heap.size wb W)=>l_has aO cO OF T W (RO.out.below hb) hol (by rw [ht1];exact ht2));have SYA:=Lib.hid (fun W (hb:Below wb.heap.size wb W)=>i_symbolAt ⟨Cc.toArray⟩ aS cS Sy T W (by omega) (RSk.out.below hb));have SYB:=Lib.hid (fun W (hb:Below wb.heap.size wb W)=>i_symbolAt ⟨Cc.toArray⟩ aS cS Sy (yo:Int) W (by omega) (RSk.out.below hb));rw [ht1,ht3] at SYA;rw [← ht1] at SYA;obtain ⟨z,hz⟩:∃ z,symZ Sy (yo:Int)=z:=⟨_,rfl⟩;rw [hz] at SYA SYB;subst hyc;clear ht1 ht2 ht3 hz hT HYJ;go_wp2_with fail;refine E_start (S:=(fun W=>((W.cell? ⟨w4.heap.size,0,none⟩=some (.string ⟨Cc.toArray⟩)∧W.cell? ⟨w4.heap.size,1,none⟩=some (.slice aS Sy.length cS))∧(W.cell? ⟨gP,j*8,none⟩=some (.int .i64 (yo:Int))∧W.cell? ⟨gP,j*8+1,none⟩=some (.int .i64 10)∧W.cell? ⟨gP,j*8+2,none⟩=some (.int .i64 ya)))∧W.cell? ⟨gb,0,none⟩=some (.int .i64 10))) 26 (by kernel_rfl) (KF.out _ (Below.refl wf.heap.size wf).drew) (fun hHeld=>?_);refine E_tk 0 ?_
          try simp only [Act.put,eS1,eS2,eS3,eA1,eA2]
          refine E_tk 1 ?_
          try simp only [Act.put,eS1,eS2,eS3,eA1,eA2,eA3]
          refine E_tk 2 ?_
          try simp only [Act.put,eS1,eS2,eS3,eA1,eA2,eA3]
          refine E_tk 3 ?_
          try simp only [Act.put,eS1,eS2,eS3,eA1,eA2,eA3]
          refine E_tu 4 ?_
          try simp only [Act.put,eS1,eS2,eS3,eA1,eA2,eA3]
          refine E_tu 5 ?_
          try simp only [Act.put,eS1,eS2,eS3,eA1,eA2,eA3]
          refine E_tu 6 ?_
          try simp only [Act.put,eS1,eS2,eS3,eA1,eA2,eA3]
          refine E_tk 7 ?_
          try simp only [Act.put,eS1,eS2,eS3,eA1,eA2,eA3]
          refine E_tk 8 ?_
          try simp only [Act.put,eS1,eS2,eS3,eA1,eA2,eA3]
          refine E_tk 9 ?_
          try simp only [Act.put,eS1,eS2,eS3,eA1,eA2,eA3]
          refine E_tk 10 ?_
          try simp only [Act.put,eS1,eS2,eS3,eA1,eA2,eA3]
          refine E_ready (rs:=[11]) (by kernel_rfl) (by decide) ?_;refine AllE.cons (o:=_) rfl (fun K hK=>?_) AllE.nil
          try simp only [eA1,eA2,eA3]
          go_simp
          refine (HAS.out _ (HBFW.out _ (Below.refl wf.heap.size wf).drew)).mono ?_;rintro e w8 ⟨rfl,b8⟩;have hX8:Below wf.heap.size wf w8:=undrew b8;go_wp2_with fail;refine hK.out _ _ (KF.out _ hX8) (fun hHeld=>?_);clear hK K
          try simp only [Act.put,eS1,eS2,eS3,eA1,eA2,eA3]
          refine E_tk 12 ?_
          try simp only [Act.put,eS1,eS2,eS3,eA1,eA2,eA3]
          refine E_tk 13 ?_
          try simp only [Act.put,eS1,eS2,eS3,eA1,eA2,eA3]
          refine E_tk 14 ?_
          try simp only [Act.put,eS1,eS2,eS3,eA1,eA2,eA3]
          refine E_tk 15 ?_
          try simp only [Act.put,eS1,eS2,eS3,eA1,eA2,eA3]
          refine E_tk 17 ?_
          try simp only [Act.put,eS1,eS2,eS3,eA1,eA2,eA3]
          refine E_tk 18 ?_
          try simp only [Act.put,eS1,eS2,eS3,eA1,eA2,eA3]
          refine E_tk 19 ?_
          try simp only [Act.put,eS1,eS2,eS3,eA1,eA2,eA3]
          refine E_tk 20 ?_
          try simp only [Act.put,eS1,eS2,eS3,eA1,eA2,eA3]
          refine E_tk 21 ?_
          try simp only [Act.put,eS1,eS2,eS3,eA1,eA2,eA3]
          refine E_tk 22 ?_
          try simp only [Act.put,eS1,eS2,eS3,eA1,eA2,eA3]
          refine E_ready (rs:=[16]) (by kernel_rfl) (by decide) ?_;refine AllE.cons (o:=_) rfl (fun K hK=>?_) AllE.nil
          try simp only [eA1,eA2,eA3]
          go_simp
          refine (SYA.out _ (HBFW.out _ hX8)).mono ?_;rintro e wA ⟨rfl,bA⟩;have hXA:Below wf.heap.size wf wA:=hX8.trans (bA.mono hX8.size);go_wp2_with fail;refine hK.out _ _ (KF.out _ hXA) (fun hHeld=>?_);clear hK K
          try simp only [Act.put,eS1,eS2,eS3,eA1,eA2,eA3]
          refine E_ready (rs:=[23]) (by kernel_rfl) (by decide) ?_;refine AllE.cons (o:=_) rfl (fun K hK=>?_) AllE.nil
          try simp only [eA1,eA2,eA3]
          go_simp
          refine (SYB.out _ (HBFW.out _ hXA)).mono ?_;rintro e wB ⟨rfl,bB⟩;go_wp2_with fail;refine hK.out _ _ (KF.out _ (hXA.trans (bB.mono hXA.size))) (fun hHeld=>?_);clear hK K
          try simp only [Act.put,eS1,eS2,eS3,eA1,eA2,eA3]
          refine E_tk 24 ?_
          try simp only [Act.put,eS1,eS2,eS3,eA1,eA2,eA3]
          refine E_tk 25 ?_
          try simp only [Act.put,eS1,eS2,eS3,eA1,eA2,eA3]
          refine E_last (o:=_) (by kernel_rfl) rfl (by kernel_rfl) (fun K hK=>?_)
          try simp only [eA1,eA2,eA3]
          go_simp
          refine hK.out _ _ ?_;clear hK K;have HBG:=Lib.hid (HBFW.out _ (hXA.trans (bB.mono hXA.size)));clear hX8 hXA b8 bA bB;go_wp2;go_roundw
          case rel=>exact ⟨j+1,by omega,by go_num,HBG⟩
          case measure=>simp [RowKit.intOf];omega
         by_cases hyc:yc=11
         ·have hjump:=HYJ.out (.inr hyc)
          obtain ⟨tt,ht1,ht2,ht3⟩:=hjump;rw [hT] at ht1;rw [← HOL.out] at ht2;have HAS:=Lib.hid (fun W (hb:Below wb.heap.size wb W)=>l_has aO cO OF T W (RO.out.below hb) hol (by rw [ht1];exact ht2));have SYA:=Lib.hid (fun W (hb:Below wb.heap.size wb W)=>i_symbolAt ⟨Cc.toArray⟩ aS cS Sy T W (by omega) (RSk.out.below hb));have SYB:=Lib.hid (fun W (hb:Below wb.heap.size wb W)=>i_symbolAt ⟨Cc.toArray⟩ aS cS Sy (yo:Int) W (by omega) (RSk.out.below hb));rw [ht1,ht3] at SYA;rw [← ht1] at SYA;obtain ⟨z,hz⟩:∃ z,symZ Sy (yo:Int)=z:=⟨_,rfl⟩;rw [hz] at SYA SYB;subst hyc;clear ht1 ht2 ht3 hz hT HYJ;go_wp2_with fail;refine E_start (S:=(fun W=>((W.cell? ⟨w4.heap.size,0,none⟩=some (.string ⟨Cc.toArray⟩)∧W.cell? ⟨w4.heap.size,1,none⟩=some (.slice aS Sy.length cS))∧(W.cell? ⟨gP,j*8,none⟩=some (.int .i64 (yo:Int))∧W.cell? ⟨gP,j*8+1,none⟩=some (.int .i64 11)∧W.cell? ⟨gP,j*8+2,none⟩=some (.int .i64 ya)))∧W.cell? ⟨gb,0,none⟩=some (.int .i64 11))) 26 (by kernel_rfl) (KF.out _ (Below.refl wf.heap.size wf).drew) (fun hHeld=>?_);refine E_tk 0 ?_
          try simp only [Act.put,eS1,eS2,eS3,eA1,eA2]
          refine E_tk 1 ?_
          try simp only [Act.put,eS1,eS2,eS3,eA1,eA2,eA3]
          refine E_tk 2 ?_
          try simp only [Act.put,eS1,eS2,eS3,eA1,eA2,eA3]
          refine E_tk 3 ?_
          try simp only [Act.put,eS1,eS2,eS3,eA1,eA2,eA3]
          refine E_tk 4 ?_
          try simp only [Act.put,eS1,eS2,eS3,eA1,eA2,eA3]
          refine E_tk 5 ?_
          try simp only [Act.put,eS1,eS2,eS3,eA1,eA2,eA3]
          refine E_tk 6 ?_
          try simp only [Act.put,eS1,eS2,eS3,eA1,eA2,eA3]
          refine E_tk 7 ?_
          try simp only [Act.put,eS1,eS2,eS3,eA1,eA2,eA3]
          refine E_tk 8 ?_
          try simp only [Act.put,eS1,eS2,eS3,eA1,eA2,eA3]
          refine E_tk 9 ?_
          try simp only [Act.put,eS1,eS2,eS3,eA1,eA2,eA3]
          refine E_tk 10 ?_
          try simp only [Act.put,eS1,eS2,eS3,eA1,eA2,eA3]
          refine E_ready (rs:=[11]) (by kernel_rfl) (by decide) ?_;refine AllE.cons (o:=_) rfl (fun K hK=>?_) AllE.nil
          try simp only [eA1,eA2,eA3]
          go_simp
          refine (HAS.out _ (HBFW.out _ (Below.refl wf.heap.size wf).drew)).mono ?_;rintro e w8 ⟨rfl,b8⟩;have hX8:Below wf.heap.size wf w8:=undrew b8;go_wp2_with fail;refine hK.out _ _ (KF.out _ hX8) (fun hHeld=>?_);clear hK K
          try simp only [Act.put,eS1,eS2,eS3,eA1,eA2,eA3]
          refine E_tk 12 ?_
          try simp only [Act.put,eS1,eS2,eS3,eA1,eA2,eA3]
          refine E_tk 13 ?_
          try simp only [Act.put,eS1,eS2,eS3,eA1,eA2,eA3]
          refine E_tk 14 ?_
          try simp only [Act.put,eS1,eS2,eS3,eA1,eA2,eA3]
          refine E_tk 15 ?_
          try simp only [Act.put,eS1,eS2,eS3,eA1,eA2,eA3]
          refine E_tk 17 ?_
          try simp only [Act.put,eS1,eS2,eS3,eA1,eA2,eA3]
          refine E_tk 18 ?_
          try simp only [Act.put,eS1,eS2,eS3,eA1,eA2,eA3]
          refine E_tk 19 ?_
          try simp only [Act.put,eS1,eS2,eS3,eA1,eA2,eA3]
          refine E_tk 20 ?_
          try simp only [Act.put,eS1,eS2,eS3,eA1,eA2,eA3]
          refine E_tk 21 ?_
          try simp only [Act.put,eS1,eS2,eS3,eA1,eA2,eA3]
          refine E_tk 22 ?_
          try simp only [Act.put,eS1,eS2,eS3,eA1,eA2,eA3]
          refine E_ready (rs:=[16]) (by kernel_rfl) (by decide) ?_;refine AllE.cons (o:=_) rfl (fun K hK=>?_) AllE.nil
          try simp only [eA1,eA2,eA3]
          go_simp
          refine (SYA.out _ (HBFW.out _ hX8)).mono ?_;rintro e wA ⟨rfl,bA⟩;have hXA:Below wf.heap.size wf wA:=hX8.trans (bA.mono hX8.size);go_wp2_with fail;refine hK.out _ _ (KF.out _ hXA) (fun hHeld=>?_);clear hK K
          try simp only [Act.put,eS1,eS2,eS3,eA1,eA2,eA3]
          refine E_ready (rs:=[23]) (by kernel_rfl) (by decide) ?_;refine AllE.cons (o:=_) rfl (fun K hK=>?_) AllE.nil
          try simp only [eA1,eA2,eA3]
          go_simp
          refine (SYB.out _ (HBFW.out _ hXA)).mono ?_;rintro e wB ⟨rfl,bB⟩;go_wp2_with fail;refine hK.out _ _ (KF.out _ (hXA.trans (bB.mono hXA.size))) (fun hHeld=>?_);clear hK K
          try simp only [Act.put,eS1,eS2,eS3,eA1,eA2,eA3]
          refine E_tk 24 ?_
          try simp only [Act.put,eS1,eS2,eS3,eA1,eA2,eA3]
          refine E_tk 25 ?_
          try simp only [Act.put,eS1,eS2,eS3,eA1,eA2,eA3]
          refine E_last (o:=_) (by kernel_rfl) rfl (by kernel_rfl) (fun K hK=>?_)
          try simp only [eA1,eA2,eA3]
          go_simp
          refine hK.out _ _ ?_;clear hK K;have HBG:=Lib.hid (HBFW.out _ (hXA.trans (bB.mono hXA.size)));clear hX8 hXA b8 bA bB;go_wp2;go_roundw
          case rel=>exact ⟨j+1,by omega,by go_num,HBG⟩
          case measure=>simp [RowKit.intOf];omega
         have hb1:(yc == 10)=false:=beq_eq_false_iff_ne.2 (by assumption);have hb2:(yc == 11)=false:=beq_eq_false_iff_ne.2 (by assumption);obtain ⟨⟨⟨i0c,i1c⟩,c0,c1,c2⟩,o0⟩:=KF.out wf (Below.refl _ _);clear hT HYJ;go_wp2_with fail;go_quiet (fail);go_wp2;go_roundw
         case rel=>exact ⟨j+1,by omega,by go_num,Lib.hid (drewN_b HBF.out _)⟩
         case measure=>simp [RowKit.intOf];omega
      ·have j1:¬ (j:Int)<(Y.length:Int):=by omega
       have h:=(HBj.out.block _ (blk PBk.out).2.2).trans PBk.out;have i0c:wd.cell? ⟨w4.heap.size,0,none⟩=some (.string ⟨Cc.toArray⟩):=(blk h).1 0 _ rfl;have i1c:wd.cell? ⟨w4.heap.size,1,none⟩=some (.slice aS Sy.length cS):=(blk h).1 1 _ rfl;have IO:=Lib.hid (i_imageOk ⟨Cc.toArray⟩ aS cS Sy wd (by rw [(arr_list Cc).2];omega) (by omega) hnm.out (RSk.out.below HBj.out));rw [(arr_list Cc).1,HOKI.out] at IO;have HBW:=Lib.hid (HB9.out.trans (HBj.out.mono z9));clear h;go_wp2_with fail;refine IO.out.mono ?_;rintro e w9 ⟨rfl,b9⟩;have HBN:Hid (Below w3.heap.size w3 w9):=Lib.hid (HBW.out.trans (b9.mono HBW.out.size));clear b9 i0c i1c IO;go_wp2;go_roundw
       case rel=>exact ⟨q+1,by omega,by go_num,by rw [HCQ.out];go_num,HBN⟩
       case measure=>simp [RowKit.intOf];omega
  ·have hqq:q=2:=by omega
   subst hqq;have FQ:=Lib.hid (FL.out wr HB.out);have hct:=CT.out;rw [hct];clear e0 e1 e2 e3;go_wp2_with fail;refine FQ.out.mono ?_;rintro e w4 ⟨vf,rfl,HOF,b4⟩;obtain ⟨fa,fc,rfl⟩:=owns_shape HOF;have HBN:Hid (Below w.heap.size w w4):=Lib.hid (HB3.out.trans ((HB.out.trans (b4.mono hzr)).mono HB3.out.size));rw [hfl];have hbe:((n:Int) == (n:Int))=true:=beq_self_eq_true _;clear HOF b4 hfl hct;go_wp2;go_ret;exact ⟨by simp,HBN.out⟩
end Go.Proofs.YtcflojdkaddemaaGreatDoor.fnImages
