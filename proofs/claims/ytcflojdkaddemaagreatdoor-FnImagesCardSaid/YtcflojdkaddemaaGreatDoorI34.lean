/- Parts of the proof. -/
import Derived.Test.YtcflojdkaddemaaGreatDoorI33
import Derived.Lib.LazyBuf
import Derived.Laws.DeepStrings4
namespace Go.Proofs.YtcflojdkaddemaaGreatDoor
open Go.RowKit Go.Lib
theorem below_drwS {B:Nat} {w w':World} (h:Below B w w') (k:Nat):Below B w (w'.drewN k):=⟨h.os,h.tape,h.output,h.size,h.block⟩
theorem s_dec_out (s:ByteArray) (a:Int) (w:World) (_:s.size≤maxLen) (h:a<0∨(s.size:Int)≤a) :
  Calls Tryz.prog 14 #[.string s,.int .i64 a] w fun e w'=>e=.returned (decV (decZ s.data.toList a))∧Below w.heap.size w w':=by
 have HR:Hid (decZ s.data.toList a=none):=hid (by
  rcases h with h|h
  ·exact decZ_neg _ _ h
  ·exact decZ_far _ _ (by rw [list_len];exact h))
 by_cases h1:a<0
 ·clear h
  go_enter Tryz.func14,Tryz.ntmps14
  go_wp2;refine bodyPost_ret (v:=.tuple #[.agg #[.int .i64 0,.int .i64 0],.int .i64 0,.bool false]) (by simp [results,Tryz.results14,go_sem]) rfl ⟨by rw [HR.out];rfl,?_⟩;exact (Below.refl _ _).alloc (Nat.le_refl _) _
 ·have h2:(s.size:Int)≤a:=by omega
  clear h
  go_enter Tryz.func14,Tryz.ntmps14
  go_wp2;refine bodyPost_ret (v:=.tuple #[.agg #[.int .i64 0,.int .i64 0],.int .i64 0,.bool false]) (by simp [results,Tryz.results14,go_sem]) rfl ⟨by rw [HR.out];rfl,?_⟩;exact (Below.refl _ _).alloc (Nat.le_refl _) _
set_option maxRecDepth 100000 in
set_option maxHeartbeats 2000000 in
theorem s_dec_in (s:ByteArray) (i:Nat) (w:World) (hm:s.size≤4294967296) (h:i<s.size) :
  Calls Tryz.prog 14 #[.string s,.int .i64 (i:Int)] w fun e w'=>e=.returned (decV (decZ s.data.toList (i:Int)))∧Below w.heap.size w w':=by
 have hl:i<s.data.toList.length:=by rw [list_len];exact h
 have HR:=hid (decZ_in s.data.toList i hl);have hg:s.data.toList[i]=s[i]'h:=rfl;rw [hg] at HR;have NB:=hid (fun k hk hj=>next_byte s.data.toList i k hk hj);obtain ⟨L,hL⟩:∃ L,s.data.toList.drop (i+1)=L:=⟨_,rfl⟩;have hLl:L.length=s.size - (i+1):=by rw [← hL,List.length_drop,list_len]
 rw [hL] at HR NB;have S:=hid (fun W=>s_size ((s[i]'h).toNat:Int) W);have WD:=hid (fun W=>s_wid ((s[i]'h).toNat:Int) W);have hb:=(s[i]'h).toNat_lt;have hwc:wrap64 ((s[i]'h).toNat:Int)=((s[i]'h).toNat:Int):=by unfold wrap64;omega
 obtain ⟨c,hc⟩:∃ c:Int,((s[i]'h).toNat:Int)=c:=⟨_,rfl⟩;rw [hc] at HR S WD;have hc0:0≤c:=by omega
 have hc1:c<256:=by omega
 have HC:=hid hc;have FC:=hid (fit_cases c);have hw4:=widN_le c;have HSZ:=hid (sizZ_zero c hc0);have HSC:=hid (sizZ_code c hc0);have HV0:Hid (valB (L.take 0)=0):=hid rfl;obtain ⟨m,hme⟩:∃ m:Nat,widN c=m:=⟨_,rfl⟩;obtain ⟨sg,hsg⟩:∃ sg,sgnB c=sg:=⟨_,rfl⟩;obtain ⟨sz,hsz⟩:∃ sz,sizZ c=sz:=⟨_,rfl⟩;rw [hsz] at S HSZ HSC;have HSG:=hid hsg;have HM:=hid hme;rw [hme] at HR WD FC hw4 HSC;rw [hsg] at WD FC;have HL:=hid hL;have HLL:=hid hLl;have hi1:(i:Int)<(s.size:Int):=by omega
 have hi0:(0:Int)≤(i:Int):=by omega
 have hmi:(s.size:Int)≤4294967296:=by omega
 clear hc hb hg hl hL hLl hme hsg hsz
 by_cases h17:17<c
 ·have hz:sz=0:=HSZ.out.2 h17
  subst hz;have HN:Hid (decZ s.data.toList (i:Int)=none):=hid (by rw [HR.out,if_neg (fun hh=>by omega)]);clear HSZ HSC
  go_enter Tryz.func14,Tryz.ntmps14
  go_wp2_with fail;rw [HC.out];refine (WD.out _).mono ?_;rintro e w' ⟨rfl,rfl⟩;go_wp2_with fail;refine (S.out _).mono ?_;rintro e w' ⟨rfl,rfl⟩;go_wp2_with fail;refine bodyPost_ret (v:=.tuple #[.agg #[.int .i64 0,.int .i64 0],.int .i64 0,.bool false]) (by simp [results,Tryz.results14,go_sem]) rfl ⟨by rw [HN.out];rfl,?_⟩;exact ((Below.refl _ _).alloc (Nat.le_refl _) _).alloc (by simp) _
 have h17':c≤17:=by omega
 have hsz:sz=1+(m:Int):=HSC.out h17';have hz:(sz == 0)=false:=beq_eq_false_iff_ne.2 (by omega);clear hsz h17 HSZ HSC
 by_cases hfar:(s.size:Int)<(i:Int)+1+(m:Int)
 ·have HN:Hid (decZ s.data.toList (i:Int)=none):=hid (by rw [HR.out,if_neg (fun hh=>by have:=HLL.out;omega)])
  go_enter Tryz.func14,Tryz.ntmps14
  go_wp2_with fail;rw [HC.out];refine (WD.out _).mono ?_;rintro e w' ⟨rfl,rfl⟩;go_wp2_with fail;refine (S.out _).mono ?_;rintro e w' ⟨rfl,rfl⟩;go_wp2_with fail;refine bodyPost_ret (v:=.tuple #[.agg #[.int .i64 0,.int .i64 0],.int .i64 0,.bool false]) (by simp [results,Tryz.results14,go_sem]) rfl ⟨by rw [HN.out];rfl,?_⟩;exact ((Below.refl _ _).alloc (Nat.le_refl _) _).alloc (by simp) _
 have hnear:(i:Int)+1+(m:Int)≤(s.size:Int):=by omega
 have HN:Hid (decZ s.data.toList (i:Int)=some (⟨c,sgnV c (valB (L.take m))⟩,1+m)):=hid (by rw [HR.out,if_pos ⟨h17',by have:=HLL.out;omega⟩]);clear hfar
 go_enter Tryz.func14,Tryz.ntmps14
 go_wp2_with fail;rw [HC.out];clear hwc;refine (WD.out _).mono ?_;rintro e w' ⟨rfl,rfl⟩;go_wp2_with fail;refine (S.out _).mono ?_;rintro e w' ⟨rfl,rfl⟩;go_wp2_with fail;have HBA:Hid (Below w.heap.size w ((w.alloc (.cells #[.int .i64 0,.int .i64 0] 38)).alloc (.cells #[.int .i64 c,.int .i64 0] 38))):=hid (((Below.refl _ _).alloc (Nat.le_refl _) _).alloc (by simp) _);have HK0:Hid (((w.alloc (.cells #[.int .i64 0,.int .i64 0] 38)).alloc (.cells #[.int .i64 c,.int .i64 0] 38)).heap[w.heap.size]?=some (.cells #[.int .i64 0,.int .i64 0] 38 (0,0))):=hid (by
  have h:=((Below.refl _ _).alloc (Nat.le_refl _) (.cells #[.int .i64 c,.int .i64 0] 38):Below (w.alloc (.cells #[.int .i64 0,.int .i64 0] 38)).heap.size (w.alloc (.cells #[.int .i64 0,.int .i64 0] 38)) _).block w.heap.size (by simp);exact h.trans (heap_alloc_new w _))
 have HK1:Hid (((w.alloc (.cells #[.int .i64 0,.int .i64 0] 38)).alloc (.cells #[.int .i64 c,.int .i64 0] 38)).heap[w.heap.size+1]?=some (.cells #[.int .i64 c,.int .i64 (valB (L.take 0):Int)] 38 (0,0))):=hid (by
  rw [HV0.out];have h:=heap_alloc_new (w.alloc (.cells #[.int .i64 0,.int .i64 0] 38)) (.cells #[.int .i64 c,.int .i64 0] 38)
  simpa using h)
 go_loopw [10] (fun x wr=>∃ k:Nat,k≤m∧x=.int .i64 (k:Int)∧wr.heap[w.heap.size]?=some (.cells #[.int .i64 0,.int .i64 0] 38 (0,0))∧wr.heap[w.heap.size+1]?=some (.cells #[.int .i64 c,.int .i64 (valB (L.take k):Int)] 38 (0,0))∧Below w.heap.size w wr)
  (fun x _=>m - (intOf x).toNat)
 case atStart=>exact ⟨0,by omega,rfl,HK0.out,HK1.out,HBA.out⟩
 case round =>
  obtain ⟨k,hk,rfl,hq0,hq1,hbel⟩:=hrel;have HQ0:=hid hq0;have HQ1:=hid hq1;have HB:=hid hbel;have hgl:w.heap.size+1<wr.heap.size:=(blk hq1).2.2;clear hq0 hq1 hbel
  by_cases hlt:k<m
  ·have d0:wr.cell? ⟨w.heap.size+1,1,none⟩=some (.int .i64 (valB (L.take k):Int)):=(blk HQ1.out).1 1 _ rfl
   have f0:wr.frozen? ⟨w.heap.size+1,1,none⟩=false:=(blk HQ1.out).2.1 1;have k0:(0:Int)≤(k:Int):=by omega
   have k1:(k:Int)<(m:Int):=by omega
   have k2:(k:Int)<4:=by omega
   have hidx:i+1+k<s.data.toList.length:=by rw [list_len];omega
   have hx0:(0:Int)≤(i:Int)+1+(k:Int):=by omega
   have hx1:(i:Int)+1+(k:Int)<(s.size:Int):=by omega
   have NBk:=hid (NB.out k (by omega) hidx);go_wp2_with fail
   go_region
   all_goals
    have HE:Hid (wrap64 ((valB (L.take k):Int)+wrap64 (wrap64 ((s[i+1+k]'(by rw [list_len] at hidx;exact hidx)).toNat:Int)*2 ^ (8*k)))=(valB (L.take (k+1)):Int)):=hid (by
     have hb:=(s[i+1+k]'(by rw [list_len] at hidx;exact hidx)).toNat_lt;rw [show wrap64 ((s[i+1+k]'(by rw [list_len] at hidx;exact hidx)).toNat:Int)=((s[i+1+k]'(by rw [list_len] at hidx;exact hidx)).toNat:Int) from by unfold wrap64;omega];have h1:=NBk.out.1;have h2:=NBk.out.2.1;rw [← h1] at h2;exact h2)
    obtain ⟨E,hE⟩:∃ E,wrap64 ((valB (L.take k):Int)+wrap64 (wrap64 ((s[i+1+k]'(by rw [list_len] at hidx;exact hidx)).toNat:Int)*2 ^ (8*k)))=E:=⟨_,rfl⟩;rw [hE] at HE
    try rw [hE]
    have HQ0':Hid ((wr.setCell ⟨w.heap.size+1,1,none⟩ (.int .i64 E)).drew.heap[w.heap.size]?=some (.cells #[.int .i64 0,.int .i64 0] 38 (0,0))):=hid ((set_other (by omega)).trans HQ0.out);have HQ1':Hid ((wr.setCell ⟨w.heap.size+1,1,none⟩ (.int .i64 E)).drew.heap[w.heap.size+1]?=some (.cells #[.int .i64 c,.int .i64 (valB (L.take (k+1)):Int)] 38 (0,0))):=hid (by rw [← HE.out];exact heap_setCell_at HQ1.out _);have HB':Hid (Below w.heap.size w (wr.setCell ⟨w.heap.size+1,1,none⟩ (.int .i64 E)).drew):=hid ((HB.out.grown (grown_setCell wr (w.heap.size+1) 1 _) (by omega) (fun j hj=>by injection hj with e;omega)).drew);clear hE d0 f0;go_wp2;go_roundw
    case rel=>exact ⟨k+1,by omega,by go_num,HQ0'.out,HQ1'.out,HB'.out⟩
    case measure=>simp [intOf];omega
  ·have hkm:m=k:=by omega
   subst hkm;clear hlt hk;obtain ⟨V,hV⟩:∃ V:Nat,valB (L.take m)=V:=⟨_,rfl⟩;have HV:Hid (decZ s.data.toList (i:Int)=some (⟨c,sgnV c V⟩,1+m)):=hid (by rw [HN.out,← hV]);have hVl:V<256 ^ m:=by
    have h:=valB_lt (L.take m);rw [List.length_take,hV] at h;exact Nat.lt_of_lt_of_le h (Nat.pow_le_pow_right (by decide) (by omega))
   rw [hV] at HQ1;clear hV
   rcases FC.out with ⟨hm1,hm2,_,_⟩|⟨hm1,hm2,_,_⟩|⟨hm1,hm2,_,_⟩|⟨hm1,hm2,_,_⟩|⟨hm1,hm2,_,_⟩
   ·have HS:Hid (sgnV c V=(V:Int)):=hid (by unfold sgnV;rw [HSG.out,hm2,if_neg (by simp)])
    subst hm2;clear hm1 hVl;have HX0:=HQ0;have HX1:=HQ1;have HBX:=HB;go_wp2_with fail;go_quiet (fail);have e0:wr.cell? ⟨w.heap.size+1,0,none⟩=some (.int .i64 c):=(blk HX1.out).1 0 _ rfl;have e1:wr.cell? ⟨w.heap.size+1,1,none⟩=some (.int .i64 (V:Int)):=(blk HX1.out).1 1 _ rfl;have g0:wr.cell? ⟨w.heap.size,0,none⟩=some (.int .i64 0):=(blk HX0.out).1 0 _ rfl;have g1:wr.cell? ⟨w.heap.size,1,none⟩=some (.int .i64 0):=(blk HX0.out).1 1 _ rfl;have p0:wr.frozen? ⟨w.heap.size,0,none⟩=false:=(blk HX0.out).2.1 0;have p1:wr.frozen? ⟨w.heap.size,1,none⟩=false:=(blk HX0.out).2.1 1;go_wp2_with fail;refine bodyPost_ret (v:=.tuple #[.agg #[.int .i64 c,.int .i64 (V:Int)],.int .i64 (1+(m:Int)),.bool true]) (by simp [results,Tryz.results14,go_sem,g0,g1]) rfl ⟨?_,?_⟩
    ·rw [HV.out]
     show _=Ending.returned (.tuple #[.agg #[.int .i64 c,.int .i64 (sgnV c V)],.int .i64 ((1+m:Nat):Int),.bool true])
     rw [HS.out,Int.natCast_add];rfl
    ·exact ((below_drwS HBX.out _).setCell (Nat.le_refl _) _).setCell (Nat.le_refl _) _
   ·have HS:Hid (sgnV c V=(V:Int)):=hid (by unfold sgnV;rw [HSG.out,hm2,if_neg (by simp)])
    subst hm2;clear hm1 hVl;have HX0:=HQ0;have HX1:=HQ1;have HBX:=HB;go_wp2_with fail;go_quiet (fail);have e0:wr.cell? ⟨w.heap.size+1,0,none⟩=some (.int .i64 c):=(blk HX1.out).1 0 _ rfl;have e1:wr.cell? ⟨w.heap.size+1,1,none⟩=some (.int .i64 (V:Int)):=(blk HX1.out).1 1 _ rfl;have g0:wr.cell? ⟨w.heap.size,0,none⟩=some (.int .i64 0):=(blk HX0.out).1 0 _ rfl;have g1:wr.cell? ⟨w.heap.size,1,none⟩=some (.int .i64 0):=(blk HX0.out).1 1 _ rfl;have p0:wr.frozen? ⟨w.heap.size,0,none⟩=false:=(blk HX0.out).2.1 0;have p1:wr.frozen? ⟨w.heap.size,1,none⟩=false:=(blk HX0.out).2.1 1;go_wp2_with fail;refine bodyPost_ret (v:=.tuple #[.agg #[.int .i64 c,.int .i64 (V:Int)],.int .i64 (1+(m:Int)),.bool true]) (by simp [results,Tryz.results14,go_sem,g0,g1]) rfl ⟨?_,?_⟩
    ·rw [HV.out]
     show _=Ending.returned (.tuple #[.agg #[.int .i64 c,.int .i64 (sgnV c V)],.int .i64 ((1+m:Nat):Int),.bool true])
     rw [HS.out,Int.natCast_add];rfl
    ·exact ((below_drwS HBX.out _).setCell (Nat.le_refl _) _).setCell (Nat.le_refl _) _
   ·have HS:Hid (sgnV c V=(V:Int)):=hid (by unfold sgnV;rw [HSG.out,hm2,if_neg (by simp)])
    subst hm2;clear hm1 hVl;have HX0:=HQ0;have HX1:=HQ1;have HBX:=HB;go_wp2_with fail;go_quiet (fail);have e0:wr.cell? ⟨w.heap.size+1,0,none⟩=some (.int .i64 c):=(blk HX1.out).1 0 _ rfl;have e1:wr.cell? ⟨w.heap.size+1,1,none⟩=some (.int .i64 (V:Int)):=(blk HX1.out).1 1 _ rfl;have g0:wr.cell? ⟨w.heap.size,0,none⟩=some (.int .i64 0):=(blk HX0.out).1 0 _ rfl;have g1:wr.cell? ⟨w.heap.size,1,none⟩=some (.int .i64 0):=(blk HX0.out).1 1 _ rfl;have p0:wr.frozen? ⟨w.heap.size,0,none⟩=false:=(blk HX0.out).2.1 0;have p1:wr.frozen? ⟨w.heap.size,1,none⟩=false:=(blk HX0.out).2.1 1;go_wp2_with fail;refine bodyPost_ret (v:=.tuple #[.agg #[.int .i64 c,.int .i64 (V:Int)],.int .i64 (1+(m:Int)),.bool true]) (by simp [results,Tryz.results14,go_sem,g0,g1]) rfl ⟨?_,?_⟩
    ·rw [HV.out]
     show _=Ending.returned (.tuple #[.agg #[.int .i64 c,.int .i64 (sgnV c V)],.int .i64 ((1+m:Nat):Int),.bool true])
     rw [HS.out,Int.natCast_add];rfl
    ·exact ((below_drwS HBX.out _).setCell (Nat.le_refl _) _).setCell (Nat.le_refl _) _
   ·subst hm1
    subst hm2;have hVl':(V:Int)<65536:=by
     have:(256:Nat) ^ 2=65536:=by decide
     omega
    by_cases hbig:(32768:Int)≤(V:Int)
    ·have HS:Hid (sgnV c V=(V:Int) - 65536):=hid (by
      have:(256:Nat) ^ 2=65536:=by decide
      unfold sgnV;rw [HSG.out,HM.out,this,if_pos ⟨rfl,by omega⟩];rfl)
     have d1:wr.cell? ⟨w.heap.size+1,1,none⟩=some (.int .i64 (V:Int)):=(blk HQ1.out).1 1 _ rfl;have f1:wr.frozen? ⟨w.heap.size+1,1,none⟩=false:=(blk HQ1.out).2.1 1;clear hVl;go_wp2_with fail;go_quiet (fail);go_wp2_with fail;have HX0:Hid (((wr.drewN (nq+1)).setCell ⟨w.heap.size+1,1,none⟩ (.int .i64 ((V:Int) - 65536))).heap[w.heap.size]?=some (.cells #[.int .i64 0,.int .i64 0] 38 (0,0))):=hid ((set_other (w:=wr.drewN (nq+1)) (by omega)).trans HQ0.out);have HX1:Hid (((wr.drewN (nq+1)).setCell ⟨w.heap.size+1,1,none⟩ (.int .i64 ((V:Int) - 65536))).heap[w.heap.size+1]?=some (.cells #[.int .i64 c,.int .i64 ((V:Int) - 65536)] 38 (0,0))):=hid (heap_setCell_at (w:=wr.drewN (nq+1)) HQ1.out _);have HBX:Hid (Below w.heap.size w ((wr.drewN (nq+1)).setCell ⟨w.heap.size+1,1,none⟩ (.int .i64 ((V:Int) - 65536)))):=hid ((below_drwS HB.out (nq+1)).grown (grown_setCell (wr.drewN (nq+1)) (w.heap.size+1) 1 _) (show w.heap.size≤wr.heap.size by omega) (fun j hj=>by injection hj with e;omega))
     go_region
     all_goals
      obtain ⟨wz,hwz⟩:∃ wz,(wr.drewN (nq+1)).setCell ⟨w.heap.size+1,1,none⟩ (.int .i64 ((V:Int) - 65536))=wz:=⟨_,rfl⟩;rw [hwz] at HX0 HX1 HBX
      try rw [hwz]
      clear hwz d1 f1 HQ0 HQ1 HB;have e0:wz.cell? ⟨w.heap.size+1,0,none⟩=some (.int .i64 c):=(blk HX1.out).1 0 _ rfl;have e1:wz.cell? ⟨w.heap.size+1,1,none⟩=some (.int .i64 ((V:Int) - 65536)):=(blk HX1.out).1 1 _ rfl;have g0:wz.cell? ⟨w.heap.size,0,none⟩=some (.int .i64 0):=(blk HX0.out).1 0 _ rfl;have g1:wz.cell? ⟨w.heap.size,1,none⟩=some (.int .i64 0):=(blk HX0.out).1 1 _ rfl;have p0:wz.frozen? ⟨w.heap.size,0,none⟩=false:=(blk HX0.out).2.1 0;have p1:wz.frozen? ⟨w.heap.size,1,none⟩=false:=(blk HX0.out).2.1 1;go_wp2_with fail;refine bodyPost_ret (v:=.tuple #[.agg #[.int .i64 c,.int .i64 ((V:Int) - 65536)],.int .i64 (3),.bool true]) (by simp [results,Tryz.results14,go_sem,g0,g1]) rfl ⟨?_,?_⟩
      ·rw [HV.out]
       show _=Ending.returned (.tuple #[.agg #[.int .i64 c,.int .i64 (sgnV c V)],.int .i64 ((1+2:Nat):Int),.bool true])
       rw [HS.out,Int.natCast_add];rfl
      ·exact ((HBX.out).setCell (Nat.le_refl _) _).setCell (Nat.le_refl _) _
    ·have HS:Hid (sgnV c V=(V:Int)):=hid (by
      have:(256:Nat) ^ 2=65536:=by decide
      unfold sgnV;rw [HSG.out,HM.out,this,if_neg (fun h=>by have:=h.2;omega)])
     have d1:wr.cell? ⟨w.heap.size+1,1,none⟩=some (.int .i64 (V:Int)):=(blk HQ1.out).1 1 _ rfl;have hd:decide ((32768:Int)≤(V:Int))=false:=decide_eq_false hbig;clear hVl hVl' hbig;have HX0:=HQ0;have HX1:=HQ1;have HBX:=HB;go_wp2_with fail;go_quiet (fail);have e0:wr.cell? ⟨w.heap.size+1,0,none⟩=some (.int .i64 c):=(blk HX1.out).1 0 _ rfl;have e1:wr.cell? ⟨w.heap.size+1,1,none⟩=some (.int .i64 (V:Int)):=(blk HX1.out).1 1 _ rfl;have g0:wr.cell? ⟨w.heap.size,0,none⟩=some (.int .i64 0):=(blk HX0.out).1 0 _ rfl;have g1:wr.cell? ⟨w.heap.size,1,none⟩=some (.int .i64 0):=(blk HX0.out).1 1 _ rfl;have p0:wr.frozen? ⟨w.heap.size,0,none⟩=false:=(blk HX0.out).2.1 0;have p1:wr.frozen? ⟨w.heap.size,1,none⟩=false:=(blk HX0.out).2.1 1;go_wp2_with fail;refine bodyPost_ret (v:=.tuple #[.agg #[.int .i64 c,.int .i64 (V:Int)],.int .i64 (3),.bool true]) (by simp [results,Tryz.results14,go_sem,g0,g1]) rfl ⟨?_,?_⟩
     ·rw [HV.out]
      show _=Ending.returned (.tuple #[.agg #[.int .i64 c,.int .i64 (sgnV c V)],.int .i64 ((1+2:Nat):Int),.bool true])
      rw [HS.out,Int.natCast_add];rfl
     ·exact ((below_drwS HBX.out _).setCell (Nat.le_refl _) _).setCell (Nat.le_refl _) _
   ·subst hm1
    subst hm2;have hVl':(V:Int)<4294967296:=by
     have:(256:Nat) ^ 4=4294967296:=by decide
     omega
    by_cases hbig:(2147483648:Int)≤(V:Int)
    ·have HS:Hid (sgnV c V=(V:Int) - 4294967296):=hid (by
      have:(256:Nat) ^ 4=4294967296:=by decide
      unfold sgnV;rw [HSG.out,HM.out,this,if_pos ⟨rfl,by omega⟩];rfl)
     have d1:wr.cell? ⟨w.heap.size+1,1,none⟩=some (.int .i64 (V:Int)):=(blk HQ1.out).1 1 _ rfl;have f1:wr.frozen? ⟨w.heap.size+1,1,none⟩=false:=(blk HQ1.out).2.1 1;clear hVl;go_wp2_with fail;go_quiet (fail);go_wp2_with fail;have HX0:Hid (((wr.drewN (nq+1)).setCell ⟨w.heap.size+1,1,none⟩ (.int .i64 ((V:Int) - 4294967296))).heap[w.heap.size]?=some (.cells #[.int .i64 0,.int .i64 0] 38 (0,0))):=hid ((set_other (w:=wr.drewN (nq+1)) (by omega)).trans HQ0.out);have HX1:Hid (((wr.drewN (nq+1)).setCell ⟨w.heap.size+1,1,none⟩ (.int .i64 ((V:Int) - 4294967296))).heap[w.heap.size+1]?=some (.cells #[.int .i64 c,.int .i64 ((V:Int) - 4294967296)] 38 (0,0))):=hid (heap_setCell_at (w:=wr.drewN (nq+1)) HQ1.out _);have HBX:Hid (Below w.heap.size w ((wr.drewN (nq+1)).setCell ⟨w.heap.size+1,1,none⟩ (.int .i64 ((V:Int) - 4294967296)))):=hid ((below_drwS HB.out (nq+1)).grown (grown_setCell (wr.drewN (nq+1)) (w.heap.size+1) 1 _) (show w.heap.size≤wr.heap.size by omega) (fun j hj=>by injection hj with e;omega))
     go_region
     all_goals
      obtain ⟨wz,hwz⟩:∃ wz,(wr.drewN (nq+1)).setCell ⟨w.heap.size+1,1,none⟩ (.int .i64 ((V:Int) - 4294967296))=wz:=⟨_,rfl⟩;rw [hwz] at HX0 HX1 HBX
      try rw [hwz]
      clear hwz d1 f1 HQ0 HQ1 HB;have e0:wz.cell? ⟨w.heap.size+1,0,none⟩=some (.int .i64 c):=(blk HX1.out).1 0 _ rfl;have e1:wz.cell? ⟨w.heap.size+1,1,none⟩=some (.int .i64 ((V:Int) - 4294967296)):=(blk HX1.out).1 1 _ rfl;have g0:wz.cell? ⟨w.heap.size,0,none⟩=some (.int .i64 0):=(blk HX0.out).1 0 _ rfl;have g1:wz.cell? ⟨w.heap.size,1,none⟩=some (.int .i64 0):=(blk HX0.out).1 1 _ rfl;have p0:wz.frozen? ⟨w.heap.size,0,none⟩=false:=(blk HX0.out).2.1 0;have p1:wz.frozen? ⟨w.heap.size,1,none⟩=false:=(blk HX0.out).2.1 1;go_wp2_with fail;refine bodyPost_ret (v:=.tuple #[.agg #[.int .i64 c,.int .i64 ((V:Int) - 4294967296)],.int .i64 (5),.bool true]) (by simp [results,Tryz.results14,go_sem,g0,g1]) rfl ⟨?_,?_⟩
      ·rw [HV.out]
       show _=Ending.returned (.tuple #[.agg #[.int .i64 c,.int .i64 (sgnV c V)],.int .i64 ((1+4:Nat):Int),.bool true])
       rw [HS.out,Int.natCast_add];rfl
      ·exact ((HBX.out).setCell (Nat.le_refl _) _).setCell (Nat.le_refl _) _
    ·have HS:Hid (sgnV c V=(V:Int)):=hid (by
      have:(256:Nat) ^ 4=4294967296:=by decide
      unfold sgnV;rw [HSG.out,HM.out,this,if_neg (fun h=>by have:=h.2;omega)])
     have d1:wr.cell? ⟨w.heap.size+1,1,none⟩=some (.int .i64 (V:Int)):=(blk HQ1.out).1 1 _ rfl;have hd:decide ((2147483648:Int)≤(V:Int))=false:=decide_eq_false hbig;clear hVl hVl' hbig;have HX0:=HQ0;have HX1:=HQ1;have HBX:=HB;go_wp2_with fail;go_quiet (fail);have e0:wr.cell? ⟨w.heap.size+1,0,none⟩=some (.int .i64 c):=(blk HX1.out).1 0 _ rfl;have e1:wr.cell? ⟨w.heap.size+1,1,none⟩=some (.int .i64 (V:Int)):=(blk HX1.out).1 1 _ rfl;have g0:wr.cell? ⟨w.heap.size,0,none⟩=some (.int .i64 0):=(blk HX0.out).1 0 _ rfl;have g1:wr.cell? ⟨w.heap.size,1,none⟩=some (.int .i64 0):=(blk HX0.out).1 1 _ rfl;have p0:wr.frozen? ⟨w.heap.size,0,none⟩=false:=(blk HX0.out).2.1 0;have p1:wr.frozen? ⟨w.heap.size,1,none⟩=false:=(blk HX0.out).2.1 1;go_wp2_with fail;refine bodyPost_ret (v:=.tuple #[.agg #[.int .i64 c,.int .i64 (V:Int)],.int .i64 (5),.bool true]) (by simp [results,Tryz.results14,go_sem,g0,g1]) rfl ⟨?_,?_⟩
     ·rw [HV.out]
      show _=Ending.returned (.tuple #[.agg #[.int .i64 c,.int .i64 (sgnV c V)],.int .i64 ((1+4:Nat):Int),.bool true])
      rw [HS.out,Int.natCast_add];rfl
     ·exact ((below_drwS HBX.out _).setCell (Nat.le_refl _) _).setCell (Nat.le_refl _) _
end Go.Proofs.YtcflojdkaddemaaGreatDoor

namespace Go.Proofs.YtcflojdkaddemaaGreatDoor
open Go.RowKit Go.Lib
def stepN:Option (OpL×Nat)→Nat
 | none=>0
 | some y=>y.2
theorem i_stp_out (s:ByteArray) (a:Int) (w:World) (_:s.size≤maxLen) (h:a<0∨(s.size:Int)≤a) :
  Calls Tryz.prog 126 #[.string s,.int .i64 a] w fun e w'=>e=.returned (.int .i64 0)∧Below w.heap.size w w':=by
 by_cases h1:a<0
 ·clear h
  go_enter Tryz.func126,Tryz.ntmps126
  go_wp2;go_ret;exact ⟨rfl,Below.refl _ _⟩
 ·have h2:(s.size:Int)≤a:=by omega
  clear h
  go_enter Tryz.func126,Tryz.ntmps126
  go_wp2;go_ret;exact ⟨rfl,Below.refl _ _⟩
set_option maxRecDepth 100000 in
set_option maxHeartbeats 1000000 in
theorem i_stp_in (s:ByteArray) (i:Nat) (w:World) (hm:s.size≤4294967296) (h:i<s.size) :
  Calls Tryz.prog 126 #[.string s,.int .i64 (i:Int)] w fun e w'=>e=.returned (.int .i64 (stepN (decZ s.data.toList (i:Int)):Nat))∧Below w.heap.size w w':=by
 have hl:i<s.data.toList.length:=by rw [list_len];exact h
 have HR:=hid (decZ_in s.data.toList i hl);have hg:s.data.toList[i]=s[i]'h:=rfl;rw [hg] at HR;have SI:=hid (fun W=>i_size ((s[i]'h).toNat:Int) W);have hb:=(s[i]'h).toNat_lt;have hwc:wrap64 ((s[i]'h).toNat:Int)=((s[i]'h).toNat:Int):=by unfold wrap64;omega
 obtain ⟨c,hc⟩:∃ c:Int,((s[i]'h).toNat:Int)=c:=⟨_,rfl⟩;rw [hc] at HR SI;have hc0:0≤c:=by omega
 have hc1:c<256:=by omega
 have HC:=hid hc;have hw4:=widN_le c;have HSZ:=hid (sizZ_zero c hc0);have HSC:=hid (sizZ_code c hc0);have hi1:(i:Int)<(s.size:Int):=by omega
 have hi0:(0:Int)≤(i:Int):=by omega
 have hmi:(s.size:Int)≤4294967296:=by omega
 obtain ⟨n,hn,HN⟩:∃ n:Nat,sizZ c=(n:Int)∧Hid (stepN (decZ s.data.toList (i:Int))=if (s.size:Int) - (i:Int)<(n:Int) then 0 else n):=by
  by_cases h17:17<c
  ·refine ⟨0,HSZ.out.2 h17,hid ?_⟩
   rw [HR.out,if_neg (fun hh=>by omega),if_neg (by omega)];rfl
  ·refine ⟨1+widN c,by rw [HSC.out (by omega)];omega,hid ?_⟩
   rw [HR.out]
   by_cases hf:(s.size:Int) - (i:Int)<((1+widN c:Nat):Int)
   ·rw [if_neg (fun hh=>by have h2:=hh.2;rw [List.length_drop,list_len] at h2;omega),if_pos hf]
    rfl
   ·rw [if_pos ⟨by omega,by rw [List.length_drop,list_len];omega⟩,if_neg hf]
    rfl
 rw [hn] at SI;have hn5:n≤5:=by
  by_cases h17:17<c
  ·have:=HSZ.out.2 h17;omega
  ·have:=HSC.out (by omega);omega
 clear hc hb hg hl HSZ HSC HR hn hw4
 by_cases hfar:(s.size:Int) - (i:Int)<(n:Int)
 ·rw [if_pos hfar] at HN
  go_enter Tryz.func126,Tryz.ntmps126
  go_wp2_with fail;rw [HC.out];clear hwc;refine (SI.out _).mono ?_;rintro e w1 ⟨rfl,b1⟩;have HB1:=hid b1;clear b1;go_wp2;go_ret;exact ⟨by rw [HN.out];rfl,HB1.out⟩
 ·rw [if_neg hfar] at HN
  go_enter Tryz.func126,Tryz.ntmps126
  go_wp2_with fail;rw [HC.out];clear hwc;refine (SI.out _).mono ?_;rintro e w1 ⟨rfl,b1⟩;have HB1:=hid b1;clear b1;go_wp2;go_ret;exact ⟨by rw [HN.out];rfl,HB1.out⟩
theorem i_stp (s:ByteArray) (a:Int) (w:World) (hm:s.size≤4294967296) :
  Calls Tryz.prog 126 #[.string s,.int .i64 a] w fun e w'=>e=.returned (.int .i64 (stepN (decZ s.data.toList a):Nat))∧Below w.heap.size w w':=by
 by_cases h:a<0∨(s.size:Int)≤a
 ·have hz:decZ s.data.toList a=none:=by
   rcases h with h|h
   ·exact decZ_neg _ _ h
   ·exact decZ_far _ _ (by rw [list_len];exact h)
  rw [hz];exact i_stp_out s a w (by unfold maxLen;omega) h
 ·obtain ⟨i,rfl⟩:=Int.eq_ofNat_of_zero_le (show 0≤a by omega)
  exact i_stp_in s i w hm (by omega)
end Go.Proofs.YtcflojdkaddemaaGreatDoor

namespace Go.Proofs.YtcflojdkaddemaaGreatDoor
open Go.RowKit Go.Lib
end Go.Proofs.YtcflojdkaddemaaGreatDoor

namespace Go.Proofs.YtcflojdkaddemaaGreatDoor
open Go.RowKit Go.Lib
theorem at_cases (s:ByteArray) (a:Int):(a<0∨(s.size:Int)≤a)∨∃ i:Nat,i<s.size∧a=(i:Int):=by
 by_cases h:a<0∨(s.size:Int)≤a
 ·exact .inl h
 ·exact .inr ⟨a.toNat,by omega,by omega⟩
theorem s_dec7 (s:ByteArray) (a:Int) (w:World) (hm:s.size≤4294967296) :
  Calls Tryz.prog 14 #[.string s,.int .i64 a] w fun e w'=>e=.returned (decV (decZ s.data.toList a))∧Below w.heap.size w w':=by
 rcases at_cases s a with h|⟨i,hi,rfl⟩
 ·exact s_dec_out s a w (by unfold maxLen;omega) h
 ·exact s_dec_in s i w hm hi
end Go.Proofs.YtcflojdkaddemaaGreatDoor

namespace Go.Proofs.YtcflojdkaddemaaGreatDoor
open Go.RowKit Go.Lib
def disL (l:List UInt8):List OpL:=(disZ l).getD []
def disB (l:List UInt8):Bool:=(disZ l).isSome
theorem decZ_drop (l:List UInt8) (k:Nat):decZ l (k:Int)=dec1 (l.drop k):=by unfold decZ;rw [if_neg (by omega),Int.toNat_natCast]
def Dis (l:List UInt8) (k:Nat) (D:List OpL):Prop:=disZ l=(disZ (l.drop k)).map (D++·)∧D.length≤k∧k≤l.length
theorem Dis.start (l:List UInt8):Dis l 0 []:=⟨by rw [List.drop_zero];cases disZ l <;> rfl,Nat.le_refl _,Nat.zero_le _⟩
theorem Dis.next {l:List UInt8} {k:Nat} {D:List OpL} (h:Dis l k D) {x:OpL} {n:Nat} (hx:dec1 (l.drop k)=some (x,n)):Dis l (k+n) (D++[x]):=by
 have hs:=dec1_size _ _ _ hx;rw [List.length_drop] at hs;refine ⟨?_,by rw [List.length_append,List.length_singleton];have:=h.2.1;omega,by omega⟩;rw [h.1,disZ_next _ _ _ hx,List.drop_drop]
 cases disZ (l.drop (k+n)) with
 | none=>rfl
 | some q=>simp
theorem Dis.bad {l:List UInt8} {k:Nat} {D:List OpL} (h:Dis l k D) (hk:k<l.length) (hx:dec1 (l.drop k)=none):disL l=[]∧disB l=false:=by
 have:disZ l=none:=by rw [h.1,disZ_bad _ (by intro e;have:=congrArg List.length e;rw [List.length_drop] at this;simp at this;omega) hx];rfl
 unfold disL disB;rw [this];exact ⟨rfl,rfl⟩
theorem Dis.done {l:List UInt8} {k:Nat} {D:List OpL} (h:Dis l k D) (hk:k=l.length):disL l=D∧disB l=true:=by
 have:disZ l=some D:=by rw [h.1,hk,List.drop_length,disZ_nil];simp
 unfold disL disB;rw [this];exact ⟨rfl,rfl⟩
end Go.Proofs.YtcflojdkaddemaaGreatDoor

namespace Go.Proofs.YtcflojdkaddemaaGreatDoor
open Go.RowKit Go.Lib
end Go.Proofs.YtcflojdkaddemaaGreatDoor

namespace Go.Proofs.YtcflojdkaddemaaGreatDoor
open Go.RowKit Go.Lib
theorem drewN_b {B:Nat} {w w':World} (h:Below B w w') (n:Nat):Below B w (w'.drewN n):=⟨h.os,h.tape,h.output,h.size,h.block⟩
def seenL (l:List SyL) (k:Nat):List ByteArray:=((l.take k).map (·.name)).reverse
theorem seenL_succ (l:List SyL) (k:Nat) (h:k<l.length):seenL l (k+1)=l[k].name :: seenL l k:=by
 unfold seenL;rw [List.take_succ_eq_append_getElem h,List.map_append,List.reverse_append];rfl
def IOk (s:ByteArray) (l:List SyL) (k a:Nat):Prop:=imgF s.data.toList [] 0 l=imgF s.data.toList (seenL l k) a (l.drop k)∧a≤s.size
theorem IOk.start (s:ByteArray) (l:List SyL):IOk s l 0 0:=⟨rfl,Nat.zero_le _⟩
theorem IOk.step {s:ByteArray} {l:List SyL} {k a:Nat} (h:IOk s l k a) (hk:k<l.length):imgF s.data.toList [] 0 l =
  ((decide (l[k].start=(a:Int))&&(decide (1≤l[k].size)&&decide (l[k].size≤(s.size:Int) - (a:Int))))&&(nameB l[k].name&&(!((seenL l k).any fun n=>decide (n=l[k].name))&&((disZ ((s.data.toList.drop a).take l[k].size.toNat)).isSome&&imgF s.data.toList (seenL l (k+1)) (a+l[k].size.toNat) (l.drop (k+1)))))):=by
 rw [h.1,List.drop_eq_getElem_cons hk,imgF,list_len,seenL_succ l k hk]
theorem IOk.bad1 {s:ByteArray} {l:List SyL} {k a:Nat} (h:IOk s l k a) (hk:k<l.length) (hb:l[k].start≠(a:Int)):imgF s.data.toList [] 0 l=false:=by rw [h.step hk,decide_eq_false hb];rfl
theorem IOk.bad2 {s:ByteArray} {l:List SyL} {k a:Nat} (h:IOk s l k a) (hk:k<l.length) (hb:l[k].size<1):imgF s.data.toList [] 0 l=false:=by rw [h.step hk,decide_eq_false (show ¬ 1≤l[k].size by omega)];simp
theorem IOk.bad3 {s:ByteArray} {l:List SyL} {k a:Nat} (h:IOk s l k a) (hk:k<l.length) (hb:(s.size:Int) - (a:Int)<l[k].size):imgF s.data.toList [] 0 l=false:=by rw [h.step hk,decide_eq_false (show ¬ l[k].size≤(s.size:Int) - (a:Int) by omega)];simp
theorem IOk.bad4 {s:ByteArray} {l:List SyL} {k a:Nat} (h:IOk s l k a) (hk:k<l.length) (hb:nameB l[k].name=false):imgF s.data.toList [] 0 l=false:=by rw [h.step hk,hb];simp
theorem IOk.bad5 {s:ByteArray} {l:List SyL} {k a:Nat} (h:IOk s l k a) (hk:k<l.length) (hb:((seenL l k).any fun n=>decide (n=l[k].name))=true):imgF s.data.toList [] 0 l=false:=by rw [h.step hk,hb];simp
theorem IOk.bad6 {s:ByteArray} {l:List SyL} {k a:Nat} (h:IOk s l k a) (hk:k<l.length) (hb:(disZ ((s.data.toList.drop a).take l[k].size.toNat)).isSome=false):imgF s.data.toList [] 0 l=false:=by rw [h.step hk,hb];simp
theorem IOk.next {s:ByteArray} {l:List SyL} {k a:Nat} (h:IOk s l k a) (hk:k<l.length) (h1:l[k].start=(a:Int)) (h2:1≤l[k].size) (h3:l[k].size≤(s.size:Int) - (a:Int)) (h4:nameB l[k].name=true) (h5:((seenL l k).any fun n=>decide (n=l[k].name))=false) (h6:(disZ ((s.data.toList.drop a).take l[k].size.toNat)).isSome=true):IOk s l (k+1) (a+l[k].size.toNat):=by
 refine ⟨?_,by omega⟩;rw [h.step hk,decide_eq_true h1,decide_eq_true h2,decide_eq_true h3,h4,h5,h6]
 simp
theorem IOk.done {s:ByteArray} {l:List SyL} {k a:Nat} (h:IOk s l k a) (hk:k=l.length):imgF s.data.toList [] 0 l=decide (a=s.size):=by
 rw [h.1,hk,List.drop_length,imgF,list_len]
theorem imgB_big (s:ByteArray) (l:List SyL) (h:1000000<s.size):imgB s.data.toList l=false:=by unfold imgB;rw [list_len,decide_eq_false (by omega)];rfl
theorem imgB_is (s:ByteArray) (l:List SyL) (b:Bool) (h:imgF s.data.toList [] 0 l=b):imgB s.data.toList l=(decide (s.size≤1000000)&&b):=by unfold imgB;rw [list_len,h]
theorem imgB_no (s:ByteArray) (l:List SyL) (h:imgF s.data.toList [] 0 l=false):imgB s.data.toList l=false:=by rw [imgB_is s l _ h];simp
end Go.Proofs.YtcflojdkaddemaaGreatDoor

namespace Go.Proofs.YtcflojdkaddemaaGreatDoor
open Go.RowKit Go.Lib
set_option maxRecDepth 100000 in
set_option maxHeartbeats 1000000 in
theorem i_can (s:ByteArray) (w:World) (hm:s.size≤1048576) :
  Calls Tryz.prog 69 #[.string s] w fun e w'=>e=.returned (.bool (disB s.data.toList))∧Below w.heap.size w w':=by
 have hll:s.data.toList.length=s.size:=list_len s;have HLL:=hid hll;have DC:=hid (fun W (x:Int)=>i_stp s x W (by omega));have ST:=hid (Dis.start s.data.toList);have hms:(s.size:Int)≤1048576:=by omega
 clear hll
 go_enter Tryz.func69,Tryz.ntmps69
 go_wp2_with fail
 go_loopw [3,4] (fun x _ wr=>∃ (k:Nat),x=.int .i64 (k:Int)∧Hid (∃ D,Dis s.data.toList k D)∧k≤s.size∧Below w.heap.size w wr)
  (fun x _ _=>s.size - (intOf x).toNat)
 case atStart=>exact ⟨0,rfl,hid ⟨[],ST.out⟩,Nat.zero_le _,Below.refl _ _⟩
 case round =>
  obtain ⟨k,rfl,HD,hk,hbel⟩:=hrel;have HB:=hid hbel;have hB:=hbel.size;have HZ:=hid (decZ_drop s.data.toList k);clear hbel
  by_cases hlt:k<s.size
  ·have k0:(0:Int)≤(k:Int):=by omega
   have k1:(k:Int)<(s.size:Int):=by omega
   cases hx:dec1 (s.data.toList.drop k) with
   | none =>
    have HN:Hid (disB s.data.toList=false):=hid (by obtain ⟨D,hD⟩:=HD.out;exact (hD.bad (by have:=HLL.out;omega) hx).2);have DCk:Hid (∀ W:World,Calls Tryz.prog 126 #[.string s,.int .i64 (k:Int)] W fun e w'=>e=.returned (.int .i64 0)∧Below W.heap.size W w'):=hid (fun W=>by
     have h:=DC.out W (k:Int);rw [HZ.out,hx] at h;exact h)
    clear hx;go_wp2_with fail;refine (DCk.out _).mono ?_;rintro e w1 ⟨rfl,b1⟩;have HB1:Hid (Below w.heap.size w w1):=hid (HB.out.trans (b1.mono (by omega)));clear b1;go_wp2;go_ret;exact ⟨by rw [HN.out];rfl,HB1.out⟩
   | some y =>
    obtain ⟨x,n⟩:=y;have HN:Hid (∃ D,Dis s.data.toList (k+n) D):=hid (by obtain ⟨D,hD⟩:=HD.out;exact ⟨_,hD.next hx⟩);have hsz:=dec1_size _ _ _ hx;rw [List.length_drop,HLL.out] at hsz;have DCk:Hid (∀ W:World,Calls Tryz.prog 126 #[.string s,.int .i64 (k:Int)] W fun e w'=>e=.returned (.int .i64 (n:Int))∧Below W.heap.size W w'):=hid (fun W=>by
     have h:=DC.out W (k:Int);rw [HZ.out,hx] at h;exact h)
    have hn1:=hsz.1;have hn2:k+n≤s.size:=by omega
    have hz:((n:Int) == 0)=false:=beq_eq_false_iff_ne.2 (by omega);clear hx hsz;go_wp2_with fail;refine (DCk.out _).mono ?_;rintro e w1 ⟨rfl,b1⟩;have HB1:Hid (Below w.heap.size w w1):=hid (HB.out.trans (b1.mono (by omega)));clear b1;go_wp2;go_roundw
    case rel=>exact ⟨k+n,by go_num,HN.out,hn2,HB1.out⟩
    case measure=>simp [intOf];omega
  ·have HN:Hid (disB s.data.toList=true):=hid (by obtain ⟨D,hD⟩:=HD.out;exact (hD.done (show k=s.data.toList.length by have:=HLL.out;omega)).2)
   have k1:¬ (k:Int)<(s.size:Int):=by omega
   go_wp2;go_ret;exact ⟨by rw [HN.out];rfl,HB.out⟩
end Go.Proofs.YtcflojdkaddemaaGreatDoor

namespace Go.Proofs.YtcflojdkaddemaaGreatDoor
open Go.RowKit Go.Lib Go.Maps
def kNm (n:ByteArray):Lit:=.string n.data.toList
def zBo:DataW Unit:=.lit (.bool false)
theorem keySm:Keyed Tryz.prog 9:=string_keyed Tryz.underlying9
theorem zerBo (w:World):(zeroValue 4).run Tryz.prog w=.ok (.bool false) w:=by kernel_rfl
theorem kNm_ne {n m:ByteArray} (h:n≠m):kNm n≠kNm m:=fun e=>h (by
 unfold kNm at e;injection e with e
 exact ByteArray.ext (Array.ext' e))
theorem kNm_lit (n:ByteArray):WideAt.IsKeyLit (kNm n):=by unfold kNm WideAt.IsKeyLit;trivial
def SeenD (D:DataW Unit) (seen:List ByteArray):Prop:=∀ nm,D.atKey (kNm nm) zBo=.lit (.bool (seen.any fun n=>decide (n=nm)))
theorem SeenD.nil:SeenD (.map []) []:=fun _=>rfl
theorem SeenD.put {D:DataW Unit} {seen:List ByteArray} (h:SeenD D seen) (hD:IsMap D) (x:ByteArray):SeenD (D.put (kNm x) (.lit (.bool true))) (x :: seen):=fun nm=>by
 by_cases e:x=nm
 ·subst e
  rw [atKey_put_same hD (kNm_lit _) _ _]
  simp
 ·rw [atKey_put_other (kNm_ne (fun e'=>e e'.symm)),h nm]
  simp [e]
set_option maxRecDepth 100000 in
theorem seen_look {w:World} {mb n:Nat} {D:DataW Unit} {seen:List ByteArray} (h:w.ownsMap (H:=Unit) Tryz.prog 9 (plainElem Tryz.prog 4) mb n D) (hS:SeenD D seen) (nm:ByteArray) (hn:nm.size≤maxLen) :
  (Instr.lookup 107 (.map (some mb)) (.string nm) false).run Tryz.prog w=.ok (.bool (seen.any fun m=>decide (m=nm))) w:=by
 obtain ⟨v,ps,hrun,hv⟩:=h.lookup keySm Tryz.underlying107 (zerBo w) (plainElem_bool Tryz.underlying4 false) (Go.WideMaps.keyOf_string_mk Tryz.underlying9 hn);have hs:=hS nm;unfold kNm zBo at hs;rw [hs] at hv;rw [hrun]
 cases v with
 | bool b =>
  rw [plainElem_bool Tryz.underlying4] at hv;have h1:(DataW.lit (.bool b):DataW Unit)=.lit (.bool (seen.any fun m=>decide (m=nm))):=congrArg Prod.fst (Option.some.inj hv);injection h1 with h1
  injection h1 with h1
  rw [h1]
 | _=>simp [plainElem,Tryz.underlying4] at hv
set_option maxRecDepth 100000 in
set_option maxHeartbeats 4000000 in
theorem i_imageOk (s:ByteArray) (a:Option Addr) (cap:Nat) (X:List SyL) (w:World) (hs:s.size≤1048576) (hl:X.length≤1048576) (hn:∀ x ∈ X,x.name.size≤1048576) (hr:ReadSy w a X) :
  Calls Tryz.prog 17 #[.agg #[.string s,.slice a X.length cap]] w fun e w'=>e=.returned (.bool (imgB s.data.toList X))∧Below w.heap.size w w':=by
 have HR:=hid hr;have HNZ:=hid hn;have HBX:Hid (Below w.heap.size w (w.alloc (.cells #[.string s,.slice a X.length cap] 32))):=hid ((Below.refl _ _).alloc (Nat.le_refl _) _);have hmm:=@run_makeMap Tryz.prog
 by_cases hbig:1000000<s.size
 ·have HV:=hid (imgB_big s X hbig)
  have hb2:(1000000:Int)<(s.size:Int):=by omega
  clear hr hn hbig
  go_enter Tryz.func17,Tryz.ntmps17
  go_wp2;go_ret;exact ⟨ret_b HV.out.symm,HBX.out⟩
 have hb2:¬ (1000000:Int)<(s.size:Int):=by omega
 have T2:=hid (two_new w (.cells #[.string s,.slice a X.length cap] 32) (.map #[] 0));obtain ⟨w0,hw0⟩:∃ W,(w.alloc (.cells #[.string s,.slice a X.length cap] 32)).alloc (.map #[] 0)=W:=⟨_,rfl⟩;have HM0:Hid (w0.ownsMap (H:=Unit) Tryz.prog 9 (plainElem Tryz.prog 4) (w.heap.size+1) 0 (.map [])):=hid (by
  have h:=World.ownsMap_made (H:=Unit) (w.alloc (.cells #[.string s,.slice a X.length cap] 32)) Tryz.prog 9 (plainElem Tryz.prog 4);rw [hw0] at h
  simpa using h)
 rw [hw0] at T2;have HW0:=hid hw0;have HC1:Hid (∀ W,w0.grownBy W (some (w.heap.size+1))→W.cell? ⟨w.heap.size,0,none⟩=some (.string s)∧W.cell? ⟨w.heap.size,1,none⟩=some (.slice a X.length cap)):=hid (fun W hb=>by
  have h:=(hb.block w.heap.size (by have:=T2.out.2.2.1;omega) (by intro e;injection e;omega)).trans T2.out.1;exact ⟨(blk h).1 0 _ rfl,(blk h).1 1 _ rfl⟩)
 have HBG:Hid (∀ W,w0.grownBy W (some (w.heap.size+1))→Below w.heap.size w W):=hid (fun W hb=>T2.out.2.2.2.grown hb (by have:=T2.out.2.2.1;omega) (fun k hk=>by injection hk;omega));have HSN:Hid (s.size≤1000000):=hid (by omega);clear hr hn hw0 hbig
 go_enter Tryz.func17,Tryz.ntmps17
 go_upto_region 5 with fail;rw [HW0.out];obtain ⟨cA,cB⟩:=HC1.out w0 (World.grownBy.refl _ _);go_wp2_with fail;clear cA cB
 go_loopw [3,6,17] (fun rs _ i wr=>∃ (q p n:Nat) (r:ByteArray) (D:DataW Unit),q≤X.length∧i=.int .i64 (q:Int)∧rs=.string r∧Hid (r.data.toList=s.data.toList.drop p)∧r.size+p=s.size∧Hid (IOk s X q p)∧n≤q∧Hid (wr.ownsMap (H:=Unit) Tryz.prog 9 (plainElem Tryz.prog 4) (w.heap.size+1) n D)∧Hid (SeenD D (seenL X q))∧Hid (w0.grownBy wr (some (w.heap.size+1)))) (fun _ _ i _=>X.length - (RowKit.intOf i).toNat)
 case atStart=>exact ⟨0,0,0,s,.map [],Nat.zero_le _,rfl,rfl,hid rfl,rfl,hid (IOk.start s X),Nat.le_refl _,HM0,hid SeenD.nil,hid (World.grownBy.refl _ _)⟩
 case round =>
  obtain ⟨q,p,n,r,D,hq,rfl,rfl,HRL,hrs,HE,hnq,HM,HSD,HG⟩:=hrel;obtain ⟨cA,cB⟩:=HC1.out wr HG.out;have HBW:=hid (HBG.out wr HG.out);have hz:=HG.out.size;have hz0:=T2.out.2.2.1
  by_cases hlt:q<X.length
  ·obtain ⟨g,hga,hg,c0,c1,c2⟩:=(HR.out.below HBW.out) q hlt
   have k0:(0:Int)≤(q:Int):=by omega
   have k1:(q:Int)<(X.length:Int):=by omega
   have N1:=hid (HE.out.bad1 hlt);have N2:=hid (HE.out.bad2 hlt);have N3:=hid (HE.out.bad3 hlt);have N4:=hid (HE.out.bad4 hlt);have N5:=hid (HE.out.bad5 hlt);have N6:=hid (HE.out.bad6 hlt);have NX:=hid (HE.out.next hlt);have hnz:=HNZ.out _ (List.getElem_mem hlt);have HSS:=hid (seenL_succ X q hlt);generalize X[q]=xx at *;obtain ⟨nm,st,sz⟩:=xx;dsimp only at c0 c1 c2 N1 N2 N3 N4 N5 N6 NX hnz HSS;subst hga;have NM:=hid (fun W=>i_name7n nm W (by unfold maxLen;omega));have usub:IntKind.i64.wrap ((s.size:Int) - (r.size:Int))=(p:Int):=by rw [IntWalk.i64_in _ (by omega)];omega
   obtain ⟨wy,hwy⟩:∃ W,wr.alloc (.cells #[.string nm,.int .i64 st,.int .i64 sz] 94)=W:=⟨_,rfl⟩;have HP:Hid (wy.heap[wr.heap.size]?=some (.cells #[.string nm,.int .i64 st,.int .i64 sz] 94 (0,0))):=hid (by rw [← hwy];exact heap_alloc_new wr _);have HGY:Hid (w0.grownBy wy (some (w.heap.size+1))):=hid (by rw [← hwy];exact grown_alloc HG.out _);have HMY:Hid (wy.ownsMap (H:=Unit) Tryz.prog 9 (plainElem Tryz.prog 4) (w.heap.size+1) n D):=hid (by rw [← hwy];exact HM.out.alloc _);have HWY:=hid hwy;have HBW2:=hid (HBG.out wy HGY.out);clear hwy;go_upto_region 8 with fail;rw [HWY.out];obtain ⟨cy0,cy1⟩:=HC1.out wy HGY.out;have p0:=(blk HP.out).1 0 _ rfl;have p1:=(blk HP.out).1 1 _ rfl;have p2:=(blk HP.out).1 2 _ rfl;clear cA cB c0 c1 c2 HWY
   by_cases h1:st=(p:Int)
   ·subst h1
    by_cases h2:sz<1
    ·have HV:=hid (imgB_no s X (N2.out h2))
     clear N1 N2 N3 N4 N5 N6 NX NM;go_wp2;go_ret;exact ⟨ret_b HV.out.symm,HBW2.out⟩
    by_cases h3:(r.size:Int)<sz
    ·have HV:=hid (imgB_no s X (N3.out (by omega)))
     clear N1 N2 N3 N4 N5 N6 NX NM;go_wp2;go_ret;exact ⟨ret_b HV.out.symm,HBW2.out⟩
    cases h4:nameB nm with
    | false =>
     have HV:=hid (imgB_no s X (N4.out h4));rw [h4] at NM;clear N1 N2 N3 N4 N5 N6 NX h4;go_wp2_with fail;refine (NM.out _).mono ?_;rintro e w' ⟨rfl,rfl⟩;go_wp2;go_ret;exact ⟨ret_b HV.out.symm,HBW2.out⟩
    | true =>
     rw [h4] at NM;have H4:=hid h4;have LK:=seen_look HMY.out HSD.out nm (by unfold maxLen;omega);clear h4
     cases h5:(seenL X q).any fun m=>decide (m=nm) with
     | true =>
      have HV:=hid (imgB_no s X (N5.out h5));rw [h5] at LK;clear N1 N2 N3 N4 N5 N6 NX h5;go_wp2_with fail;refine (NM.out _).mono ?_;rintro e w' ⟨rfl,rfl⟩;go_wp2;go_ret;exact ⟨ret_b HV.out.symm,HBW2.out⟩
     | false =>
      have H5:=hid h5;rw [h5] at LK;clear h5;obtain ⟨m,hm⟩:=Int.eq_ofNat_of_zero_le (show 0≤sz by omega);subst hm;have HXX:Hid ((r.extract 0 m).data.toList=(s.data.toList.drop p).take m):=hid (by rw [ext_toList,List.drop_zero,Nat.sub_zero,HRL.out]);have HXL:Hid ((r.extract 0 m).size≤1048576):=hid (by rw [ByteArray.size_extract];omega);have HYY:Hid ((r.extract m r.size).data.toList=s.data.toList.drop (p+m)):=hid (by rw [from_list,HRL.out,List.drop_drop]);have HYZ:Hid ((r.extract m r.size).size=r.size - m):=hid (from_size r m);have DS:=hid (fun W=>i_can (r.extract 0 m) W HXL.out);rw [HXX.out] at DS;have hsl:∀ W:World,(Instr.slice 9 (.string r) none (some (.int .i64 (m:Int))) none).run Tryz.prog W=.ok (.string (r.extract 0 m)) W:=fun W=>by
       rw [run_slice_string_to_if W _ r .i64 _ Tryz.underlying9,if_pos ⟨by omega,by omega⟩,Int.toNat_natCast]
      have hsl2:∀ W:World,(Instr.slice 9 (.string r) (some (.int .i64 (m:Int))) none none).run Tryz.prog W=.ok (.string (r.extract m r.size)) W:=fun W=>by
       rw [run_slice_string_from_if W _ r .i64 _ Tryz.underlying9,if_pos ⟨by omega,by omega⟩,Int.toNat_natCast]
      generalize r.extract 0 m=xs at *;obtain ⟨rs2,hrs2⟩:∃ x,r.extract m r.size=x:=⟨_,rfl⟩;rw [hrs2] at HYY HYZ hsl2;obtain ⟨db,hdb⟩:∃ b,disB ((s.data.toList.drop p).take m)=b:=⟨_,rfl⟩;rw [hdb] at DS;have HPN:=hid (show (1:Int)≤(m:Int)∧(m:Int)≤(s.size:Int) - (p:Int) from ⟨by omega,by omega⟩);clear hrs2 HXX HXL;go_wp2_with fail;refine (NM.out _).mono ?_;rintro e w' ⟨rfl,rfl⟩;go_wp2_with fail;refine (DS.out _).mono ?_;rintro e w4 ⟨rfl,b4⟩;have HG4:Hid (w0.grownBy w4 (some (w.heap.size+1))):=hid (HGY.out.trans (grown_of_below b4 _));have HBW4:=hid (HBG.out w4 HG4.out);have HP4:=hid ((b4.block _ (blk HP.out).2.2).trans HP.out);have HM4:Hid (w4.ownsMap (H:=Unit) Tryz.prog 9 (plainElem Tryz.prog 4) (w.heap.size+1) n D):=hid (HMY.out.kept (grown_of_below b4 none) (by simp));have p42:=(blk HP4.out).1 2 _ rfl;have p40:=(blk HP4.out).1 0 _ rfl;clear b4 p0 p1 p2 cy0 cy1 LK
      cases db with
      | false =>
       have HV:=hid (imgB_no s X (N6.out hdb));clear N1 N2 N3 N4 N5 N6 NX NM hdb;go_wp2;go_ret;exact ⟨ret_b HV.out.symm,HBW4.out⟩
      | true =>
       have HNX:=hid (NX.out (by first|trivial|rfl) HPN.out.1 HPN.out.2 H4.out H5.out hdb);clear N1 N2 N3 N4 N5 N6 NX NM hdb;obtain ⟨w5,hrun,hM5,hg5⟩:=HM4.out.update keySm Tryz.underlying107 (by unfold maxLen;omega) (Go.WideMaps.keyOf_string_mk Tryz.underlying9 (show nm.size≤maxLen by unfold maxLen;omega)) (val:=.bool true) (plainElem_bool Tryz.underlying4 true);have HM5:=hid hM5;have HG5:Hid (w0.grownBy w5 (some (w.heap.size+1))):=hid (HG4.out.trans hg5);have HS5:Hid (SeenD (D.put (kNm nm) (.lit (.bool true))) (seenL X (q+1))):=hid (by rw [HSS.out];exact HSD.out.put HM4.out.isMap nm);clear hM5 hg5;go_wp2;go_roundw
       case rel=>exact ⟨q+1,p+m,n+1,rs2,_,by omega,by go_num,rfl,HYY,by have:=HYZ.out;omega,HNX,by omega,HM5,HS5,HG5⟩
       case measure=>simp [RowKit.intOf];omega
   ·have HV:=hid (imgB_no s X (N1.out h1))
    clear N1 N2 N3 N4 N5 N6 NX NM;go_wp2;go_ret;exact ⟨ret_b HV.out.symm,HBW2.out⟩
  ·have hqq:q=X.length:=by omega
   have HD:=hid (imgB_is s X _ (HE.out.done hqq));have k1:¬ (q:Int)<(X.length:Int):=by omega
   clear hqq
   by_cases h1:r.size=0
   ·have HV:Hid (imgB s.data.toList X=true):=hid (by rw [HD.out,decide_eq_true HSN.out,decide_eq_true (show p=s.size by omega)];rfl)
    have hre:r=⟨#[]⟩:=ByteArray.ext (Array.eq_empty_of_size_eq_zero h1);clear HD;subst hre;go_wp2;go_ret;exact ⟨ret_b HV.out.symm,HBW.out⟩
   ·have HV:Hid (imgB s.data.toList X=false):=hid (by rw [HD.out,decide_eq_false (show ¬ p=s.size by omega)];simp)
    have hne:r≠⟨#[]⟩:=fun e=>h1 (by rw [e];rfl)
    have hdd:=str_ne _ _ hne;have HEM:Hid (r.toList.isEmpty=false):=hid (by
     rw [ByteArray.toList_eq]
     cases hr:r.data.toList with
     | nil=>exact absurd (by rw [← list_len,hr];rfl) h1
     | cons x t=>rfl)
    clear HD h1 hne;go_wp2;go_ret;exact ⟨ret_b (HEM.out.trans HV.out.symm),HBW.out⟩
end Go.Proofs.YtcflojdkaddemaaGreatDoor
