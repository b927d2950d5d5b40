/- Parts of the proof. -/
import Derived.Test.YtcflojdkaddemaaGreatDoorI36
namespace Go.Proofs.YtcflojdkaddemaaGreatDoor
open Go.RowKit Go.Lib
def namesP:List ByteArray:=[⟨#[109,97,105,110]⟩,⟨#[102]⟩,⟨#[103,103]⟩,⟨#[104]⟩]
def arsP:List Int:=[0,1,2,1]
theorem namesP_ok:∀ s ∈ namesP,nameB s=true:=by decide
theorem infoSx:(Tryz.prog.info? 9).map (fun i=>(i.zero,i.size,i.bytes))=some (some (.string ⟨#[]⟩),1,16):=by kernel_rfl
theorem arsP_ok:∀ x ∈ arsP,0≤x∧x≤2:=by decide
theorem names_at {c b n i:Nat} {wx:World} {T:TypeId} {v:Option Addr} (hb:wx.heap[b]?=some (.cells #[.string ⟨#[109,97,105,110]⟩,.string ⟨#[102]⟩,.string ⟨#[103,103]⟩,.string ⟨#[104]⟩] T (0,0))) (hbc:b≠c) (hn:n≤4) (ha:i<n→v=some ⟨b,i,none⟩) :
    TextsAt c wx v ((namesP.take n).drop i):=by
  intro j hj;have h4:namesP.length=4:=rfl;have hij:i+j<n:=by rw [List.length_drop,List.length_take] at hj;omega
  have hlt:b<wx.heap.size:=by
    rcases Nat.lt_or_ge b wx.heap.size with h|h
    · exact h
    · rw [Array.getElem?_eq_none h] at hb;cases hb
  refine ⟨b,i,ha (by omega),hlt,hbc,?_⟩;rw [cell_of_row wx b (i+j) _ _ _ hb];rw [List.getElem_drop,List.getElem_take]
  have:i+j=0∨i+j=1∨i+j=2∨i+j=3:=by omega
  rcases this with h|h|h|h <;> simp only [h] <;> rfl
theorem ars_at {c b n i:Nat} {wx:World} {T:TypeId} {v:Option Addr} (hb:wx.heap[b]?=some (.cells #[.int .i64 0,.int .i64 1,.int .i64 2,.int .i64 1] T (0,0))) (hbc:b≠c) (hn:n≤4) (ha:i<n→v=some ⟨b,i,none⟩) :
    NumsAt c wx v ((arsP.take n).drop i):=by
  intro j hj;have h4:arsP.length=4:=rfl;have hij:i+j<n:=by rw [List.length_drop,List.length_take] at hj;omega
  have hlt:b<wx.heap.size:=by
    rcases Nat.lt_or_ge b wx.heap.size with h|h
    · exact h
    · rw [Array.getElem?_eq_none h] at hb;cases hb
  refine ⟨b,i,ha (by omega),hlt,hbc,?_⟩;rw [cell_of_row wx b (i+j) _ _ _ hb];rw [List.getElem_drop,List.getElem_take]
  have:i+j=0∨i+j=1∨i+j=2∨i+j=3:=by omega
  rcases this with h|h|h|h <;> simp only [h] <;> rfl
theorem ite_lt {p:Prop} [Decidable p] {b i j B:Nat} (h:b<B) {x:Addr} (e:(if p then some (⟨b,i,none⟩:Addr) else some ⟨b,j,none⟩)=some x):x.block<B:=by
  split at e <;> (cases e;exact h)
theorem bd2 {d:Nat} (h:d≤2):bdL d≤21:=by
  have:d=0∨d=1∨d=2:=by omega
  rcases this with rfl|rfl|rfl <;> decide
theorem pl1 (u k:Nat) (h:u≤3):((namesP.take (1+u)).drop k).length=1+u - k:=by
  have h4:namesP.length=4:=rfl;rw [List.length_drop,List.length_take];omega
theorem pl2 (u k:Nat) (h:u≤3):((arsP.take (1+u)).drop k).length=1+u - k:=by
  have h4:arsP.length=4:=rfl;rw [List.length_drop,List.length_take];omega
theorem gen_ok {AL:List ByteArray} (h:∀ s ∈ AL,nameB s=true) (h2:AL.length≤2) (n i:Nat):GenOk (AL++[⟨#[105]⟩,⟨#[122]⟩]) ((namesP.take n).drop i) ((arsP.take n).drop i):=by
  have h4:namesP.length=4:=rfl;have h5:arsP.length=4:=rfl;refine ⟨?_,fun s hs=>namesP_ok s (List.mem_of_mem_take (List.mem_of_mem_drop hs)),fun x hx=>arsP_ok x (List.mem_of_mem_take (List.mem_of_mem_drop hx)),by simp [h4,h5],by simp;omega,by simp;omega⟩;intro s hs
  rcases List.mem_append.1 hs with hs|hs
  · exact h s hs
  · have:∀ s ∈ ([⟨#[105]⟩,⟨#[122]⟩]:List ByteArray),nameB s=true:=by decide
    exact this s hs
def DrawP (T TL TS TK:TypeId) (c:Nat) (a:Option Addr) (len cap:Nat) (z:List Int) (w:World) (e:Ending) (w':World):Prop :=
  ∃ v X,e=.returned v∧St T TL TS TK w c a len cap z X v w'∧0<X.length∧X.length≤348
theorem St.base {T TL TS TK:TypeId} {w w0 w':World} {c len cap:Nat} {a:Option Addr} {z:List Int} {X:List LnL} {v:Value} (h:St T TL TS TK w0 c a len cap z X v w') (hg:w.grownBy w0 (some c)):St T TL TS TK w c a len cap z X v w':=by
  obtain ⟨s1,s2,s3,s4,s5,s6⟩:=h;refine ⟨⟨s1.1,?_⟩,s2,s3,s4,s5,hg.trans s6⟩
  rcases s1.2 with h|⟨g,cp,cur,e,hB,r⟩
  · exact .inl h
  · exact .inr ⟨g,cp,cur,e,Nat.le_trans hg.size hB,r⟩
set_option maxRecDepth 100000 in
set_option maxHeartbeats 8000000 in
theorem d_prog (c:Nat) (a:Option Addr) (len cap:Nat) (z:List Int) (w:World) (hc:CurAt 145 w c a len cap z) :
    Calls Tryz.prog 104 #[.pointer (some ⟨c,0,none⟩)] w (DrawP 145 87 9 147 c a len cap z w):=by
  have HC:=hid hc;have hcw:=hc.lt;clear hc;obtain ⟨i0,hi,hz0,hz1,hz2⟩:=info_parts infoL;obtain ⟨j0,hj,hy0,hy1,hy2⟩:=info_parts infoSx
  go_enter Tryz.func104,Tryz.ntmps104
  go_wp2_with fail;refine (d_below c a len cap z 4 _ ((HC.out.alloc (.cells #[.string ⟨#[109,97,105,110]⟩,.string ⟨#[102]⟩,.string ⟨#[103,103]⟩,.string ⟨#[104]⟩] 9)).alloc (.cells #[.int .i64 0,.int .i64 1,.int .i64 2,.int .i64 1] 3)) (by omega) (by omega)).mono ?_;rintro e w1 ⟨y,yl,yh,rfl,H1,G1⟩;have K1:=hid H1;have GW:Hid (w.grownBy w1 (some c)):=hid ((grown_alloc (grown_alloc (World.grownBy.refl w (some c)) _) _).trans G1);have hn1:w1.heap[w.heap.size]?=some (.cells #[.string ⟨#[109,97,105,110]⟩,.string ⟨#[102]⟩,.string ⟨#[103,103]⟩,.string ⟨#[104]⟩] 9 (0,0)):=by
    rw [G1.block w.heap.size (by simp;omega) (fun e=>by injection e;omega),Below.heap_alloc _ _ _ (by simp)];exact heap_alloc_new w _
  have ha1:w1.heap[w.heap.size+1]?=some (.cells #[.int .i64 0,.int .i64 1,.int .i64 2,.int .i64 1] 3 (0,0)):=by
    rw [G1.block (w.heap.size+1) (by simp) (fun e=>by injection e;omega)];have h:=heap_alloc_new (w.alloc (.cells #[.string ⟨#[109,97,105,110]⟩,.string ⟨#[102]⟩,.string ⟨#[103,103]⟩,.string ⟨#[104]⟩] 9)) (.cells #[.int .i64 0,.int .i64 1,.int .i64 2,.int .i64 1] 3)
    simpa using h
  have hw1:w.heap.size+2≤w1.heap.size:=by have:=G1.size;simp at this;omega
  have HNM:=hid hn1;have HAR:=hid ha1;have hc1:c<w1.heap.size:=by omega
  clear H1 G1 hn1 ha1;obtain ⟨u,rfl⟩:=Int.eq_ofNat_of_zero_le yl;have hu:u≤3:=by omega
  have S0:=hid (St.zero (TL:=87) (TS:=9) (TK:=147) K1.out);go_wp2_with fail
  go_loopw [6,7,8,9] (fun v kv _ _ wr=>∃ (k:Nat) (X:List LnL),kv=.int .i64 (k:Int)∧k≤u+1∧X.length≤87*k∧(0<k→0<X.length)∧St 145 87 9 147 w1 c a len cap z X v wr)
    (fun _ kv _ _ _=>u+1 - (RowKit.intOf kv).toNat)
  case atStart=>exact ⟨0,[],rfl,by omega,by simp,(fun h=>by omega),S0.out⟩
  case round =>
    obtain ⟨k,X,rfl,hk,hXl,hXp,hst⟩:=hrel;have HS:=hid hst;have GR:=hid hst.2.2.2.2.2;have zr:w1.heap.size≤wr.heap.size:=GR.out.size;clear hst
    by_cases hlt:k<u+1
    · have hk3:k≤3:=by omega
      obtain ⟨m,nm,hm2,hnm,hcm,hcn⟩:∃ (m:Nat) (nm:ByteArray),m≤2∧nameB nm=true∧wr.cell? ⟨w.heap.size+1,k,none⟩=some (.int .i64 (m:Int))∧wr.cell? ⟨w.heap.size,k,none⟩=some (.string nm):=by
        have hA:wr.heap[w.heap.size+1]?=_:=(GR.out.block _ (by omega) (fun e=>by injection e;omega)).trans HAR.out;have hN:wr.heap[w.heap.size]?=_:=(GR.out.block _ (by omega) (fun e=>by injection e;omega)).trans HNM.out;have hk4:k=0∨k=1∨k=2∨k=3:=by omega
        rcases hk4 with rfl|rfl|rfl|rfl
        · exact ⟨0,_,by omega,by decide,cell_of_row wr _ 0 _ _ _ hA,cell_of_row wr _ 0 _ _ _ hN⟩
        · exact ⟨1,_,by omega,by decide,cell_of_row wr _ 1 _ _ _ hA,cell_of_row wr _ 1 _ _ _ hN⟩
        · exact ⟨2,_,by omega,by decide,cell_of_row wr _ 2 _ _ _ hA,cell_of_row wr _ 2 _ _ _ hN⟩
        · exact ⟨1,_,by omega,by decide,cell_of_row wr _ 3 _ _ _ hA,cell_of_row wr _ 3 _ _ _ hN⟩
      have k0:(0:Int)≤(k:Int):=by omega
      have k4:(k:Int)<4:=by omega
      have m0:(0:Int)≤(m:Int):=by omega
      have m2:(m:Int)≤2:=by omega
      have kL:(k:Int)<1+(u:Int):=by omega
      have hcm':=fun o=>(World.cell?_alloc_lt wr o ⟨w.heap.size+1,k,none⟩ (show w.heap.size+1<wr.heap.size by omega)).trans hcm
      have hcn':=fun o=>(World.cell?_alloc_lt wr o ⟨w.heap.size,k,none⟩ (show w.heap.size<wr.heap.size by omega)).trans hcn
      clear hcm hcn;go_wp2_with fail;generalize hwa:wr.alloc _=wa;have zw:wa.heap.size=wr.heap.size+1:=by rw [← hwa];simp
      obtain ⟨AL,hAL⟩:∃ AL:List ByteArray,[⟨#[120]⟩,⟨#[121]⟩].take m=AL:=⟨_,rfl⟩;have hAl:(strV AL).length=m*1:=by rw [← hAL,strV_length,List.length_take];simp;omega
      have hALl:AL.length=m:=by rw [← hAL,List.length_take];simp;omega
      have cwa:c<wa.heap.size:=by omega
      have hAk:∀ s ∈ AL,nameB s=true:=by
        intro s hs;rw [← hAL] at hs;have h2:=List.mem_of_mem_take hs
        have:∀ s ∈ ([⟨#[120]⟩,⟨#[121]⟩]:List ByteArray),nameB s=true:=by decide
        exact this s h2
      have hAd:AL.Nodup:=by
        rw [← hAL];exact List.Nodup.sublist (List.take_sublist _ _) (by decide)
      have hNW:Hid (∀ j u,(strV AL)[j]?=some u→wa.cell? ((⟨wr.heap.size,0,none⟩:Addr).add j)=some u):=hid (by
        intro j u hu;rw [← hwa];refine World.news_of_block (cs:=(strV [⟨#[120]⟩,⟨#[121]⟩]).toArray) (t:=9) (fr:=(0,0)) (heap_alloc_new wr _) j u ?_;have hj:=(List.getElem?_eq_some_iff.1 hu).1;rw [← hAL] at hu;unfold strV at hu ⊢;rw [List.getElem?_map] at hu ⊢;rw [List.getElem?_take] at hu
        split at hu
        · exact hu
        · cases hu)
      have h63a:0+m≤maxLen:=by unfold maxLen;omega
      have hbya:(0+m)*16≤140737488355328:=by omega
      have h63b:m+2≤maxLen:=by unfold maxLen;omega
      have hbyb:(m+2)*16≤140737488355328:=by omega
      have wr1:wr.heap.size<wa.heap.size:=by omega
      have hIZ:∀ u ∈ strV [⟨#[105]⟩,⟨#[122]⟩],u.oneCell'=true:=strV_one _;have HAL:=hid hAL;have HWA:=hid hwa;clear hAL hwa zw;have q0:(0:Int)≤(k:Int)+1:=by omega
      have q1:(k:Int)+1≤1+(u:Int):=by omega
      have q2:(1:Int)+(u:Int)≤4:=by omega
      have q3:(0:Int)≤1+(u:Int):=by omega
      have q5:((k:Int)+1).toNat=k+1:=by omega
      have q6:((1:Int)+(u:Int)).toNat=1+u:=by omega
      have q4:IntKind.i64.wrap ((k:Int)+1)=(k:Int)+1:=IntWalk.i64_in _ (by omega)
      go_cut [9] (fun s wx=>AtGen 189 9 c wa wx s (AL++[⟨#[105]⟩,⟨#[122]⟩]) (.slice (if k=3 then some ⟨w.heap.size,0,none⟩ else some ⟨w.heap.size,k+1,none⟩) (1+u - (k+1)) (3 - k)) (.slice (if k=3 then some ⟨w.heap.size+1,0,none⟩ else some ⟨w.heap.size+1,k+1,none⟩) (1+u - (k+1)) (3 - k)))
      case first =>
       rename_i J K' hJ hK
       go_wp2_with fail
       go_region_held3 (fun _=>True) (trivial)
        (first
          | (refine step_append_m _ ?_ (.tmp 28) (.tmp 29) 84 ?_ wa.heap.size 9 j0 _ 1 16 Tryz.underlying84 hj hy0 hy1 hy2 rfl (by decide) (.slice (some ⟨wa.heap.size,0,none⟩) 0 0) 0 [] ?_ (own_empty wa 9) (not_nil _ _ _) ⟨wr.heap.size,0,none⟩ m 2 (strV AL) ?_ hAl (news_none hNW.out wr1 ?_) (strV_one _) h63a hbya ?_ m (Nat.zero_add m) ?_;exact rfl;exact rfl;exact rfl;exact rfl;exact (grown_dr (grown_al (World.grownBy.refl wa none) _));exact (grown_dr (grown_al (World.grownBy.refl wa none) _)).size;intro g9 c9 w9 hw9 hg9;have gg9:wa.grownBy w9 none:=(grown_none (grown_dr (grown_al (World.grownBy.refl wa none) _)) hg9 (fun g e=>(Nat.le_of_eq (Option.some.inj e))));simp only [List.nil_append] at hw9;clear hg9)
          | (refine step_append_m _ ?_ (.tmp 28) (.tmp 29) 84 ?_ wa.heap.size 9 j0 _ 1 16 Tryz.underlying84 hj hy0 hy1 hy2 rfl (by decide) (.slice (some ⟨wa.heap.size,0,none⟩) 0 0) 0 [] ?_ ((own_empty wa 9).alloc _) (not_nil _ _ _) ⟨wr.heap.size,0,none⟩ m 2 (strV AL) ?_ hAl (news_none hNW.out wr1 ?_) (strV_one _) h63a hbya ?_ m (Nat.zero_add m) ?_;exact rfl;exact rfl;exact rfl;exact rfl;exact (grown_dr (grown_al (grown_dr (grown_al (World.grownBy.refl wa none) _)) _));exact (grown_dr (grown_al (grown_dr (grown_al (World.grownBy.refl wa none) _)) _)).size;intro g9 c9 w9 hw9 hg9;have gg9:wa.grownBy w9 none:=(grown_none (grown_dr (grown_al (grown_dr (grown_al (World.grownBy.refl wa none) _)) _)) hg9 (fun g e=>(Nat.le_of_eq (Option.some.inj e))));simp only [List.nil_append] at hw9;have hL9:=news_grown hg9 (fun e=>(Nat.succ_ne_self _ (Option.some.inj e))) (l_news2 wa (.cells #[] 9) 9 [⟨#[105]⟩,⟨#[122]⟩]);clear hg9)
          | (refine step_append_m _ ?_ (.tmp 28) (.tmp 29) 84 ?_ wa.heap.size 9 j0 _ 1 16 Tryz.underlying84 hj hy0 hy1 hy2 rfl (by decide) (.slice (some ⟨wa.heap.size,0,none⟩) 0 0) 0 [] ?_ ((own_empty wa 9).alloc _) (not_nil _ _ _) ⟨wr.heap.size,0,none⟩ m 2 (strV AL) ?_ hAl (news_none hNW.out wr1 ?_) (strV_one _) h63a hbya ?_ m (Nat.zero_add m) ?_;exact rfl;exact rfl;exact rfl;exact rfl;exact (grown_al (grown_dr (grown_al (World.grownBy.refl wa none) _)) _);exact (grown_al (grown_dr (grown_al (World.grownBy.refl wa none) _)) _).size;intro g9 c9 w9 hw9 hg9;have gg9:wa.grownBy w9 none:=(grown_none (grown_al (grown_dr (grown_al (World.grownBy.refl wa none) _)) _) hg9 (fun g e=>(Nat.le_of_eq (Option.some.inj e))));simp only [List.nil_append] at hw9;have hL9:=news_grown hg9 (fun e=>(Nat.succ_ne_self _ (Option.some.inj e))) (l_news2 wa (.cells #[] 9) 9 [⟨#[105]⟩,⟨#[122]⟩]);clear hg9)
          | (refine step_append_m _ ?_ (.tmp 28) (.tmp 29) 84 ?_ wa.heap.size 9 j0 _ 1 16 Tryz.underlying84 hj hy0 hy1 hy2 rfl (by decide) (.slice (some ⟨wa.heap.size+1,0,none⟩) 0 0) 0 [] ?_ (own_empty' wa _ 9) (not_nil _ _ _) ⟨wr.heap.size,0,none⟩ m 2 (strV AL) ?_ hAl (news_none hNW.out wr1 ?_) (strV_one _) h63a hbya ?_ m (Nat.zero_add m) ?_;exact rfl;exact rfl;exact rfl;exact rfl;exact (grown_dr (grown_al (grown_dr (grown_al (World.grownBy.refl wa none) _)) _));exact (grown_dr (grown_al (grown_dr (grown_al (World.grownBy.refl wa none) _)) _)).size;intro g9 c9 w9 hw9 hg9;have gg9:wa.grownBy w9 none:=(grown_none (grown_dr (grown_al (grown_dr (grown_al (World.grownBy.refl wa none) _)) _)) hg9 (fun g e=>(Nat.le_trans (Nat.le_succ _) (Nat.le_of_eq (Option.some.inj e)))));simp only [List.nil_append] at hw9;have hL9:=news_grown hg9 (fun e=>(Nat.succ_ne_self _ (Option.some.inj e).symm)) (l_news1 wa (.cells #[] 9) 9 [⟨#[105]⟩,⟨#[122]⟩]);clear hg9)
          | (refine step_append_m _ ?_ (.tmp 28) (.tmp 29) 84 ?_ wa.heap.size 9 j0 _ 1 16 Tryz.underlying84 hj hy0 hy1 hy2 rfl (by decide) (.slice (some ⟨wa.heap.size+1,0,none⟩) 0 0) 0 [] ?_ (own_empty' wa _ 9) (not_nil _ _ _) ⟨wr.heap.size,0,none⟩ m 2 (strV AL) ?_ hAl (news_none hNW.out wr1 ?_) (strV_one _) h63a hbya ?_ m (Nat.zero_add m) ?_;exact rfl;exact rfl;exact rfl;exact rfl;exact (grown_al (grown_dr (grown_al (World.grownBy.refl wa none) _)) _);exact (grown_al (grown_dr (grown_al (World.grownBy.refl wa none) _)) _).size;intro g9 c9 w9 hw9 hg9;have gg9:wa.grownBy w9 none:=(grown_none (grown_al (grown_dr (grown_al (World.grownBy.refl wa none) _)) _) hg9 (fun g e=>(Nat.le_trans (Nat.le_succ _) (Nat.le_of_eq (Option.some.inj e)))));simp only [List.nil_append] at hw9;have hL9:=news_grown hg9 (fun e=>(Nat.succ_ne_self _ (Option.some.inj e).symm)) (l_news1 wa (.cells #[] 9) 9 [⟨#[105]⟩,⟨#[122]⟩]);clear hg9)
          | (refine step_append_m _ ?_ (.tmp 30) (.tmp 31) 84 ?_ wa.heap.size 9 j0 _ 1 16 Tryz.underlying84 hj hy0 hy1 hy2 rfl (by decide) (.slice (some ⟨g9,0,none⟩) m c9) m (strV AL) ?_ (hw9.alloc _) (not_nil _ _ _) ⟨w9.heap.size,0,none⟩ 2 2 (strV [⟨#[105]⟩,⟨#[122]⟩]) ?_ rfl ?_ hIZ h63b hbyb ?_ (m+2) rfl ?_;exact rfl;exact rfl;exact rfl;exact rfl;exact World.news_of_block (cs:=(strV [⟨#[105]⟩,⟨#[122]⟩]).toArray) (t:=9) (fr:=(0,0)) (heap_alloc_new w9 _);exact (grown_dr (grown_al gg9 _)).size;intro g10 c10 w10 hw10 hg10;have gg10:wa.grownBy w10 none:=(grown_none (grown_dr (grown_al gg9 _)) hg10 (fun g e=>(hw9.lt g e).1));clear hg10)
          | (refine step_append_m _ ?_ (.tmp 30) (.tmp 31) 84 ?_ wa.heap.size 9 j0 _ 1 16 Tryz.underlying84 hj hy0 hy1 hy2 rfl (by decide) (.slice (some ⟨g9,0,none⟩) m c9) m (strV AL) ?_ (hw9.alloc _) (not_nil _ _ _) ⟨w9.heap.size,0,none⟩ 2 2 (strV [⟨#[105]⟩,⟨#[122]⟩]) ?_ rfl ?_ hIZ h63b hbyb ?_ (m+2) rfl ?_;exact rfl;exact rfl;exact rfl;exact rfl;exact World.news_of_block (cs:=(strV [⟨#[105]⟩,⟨#[122]⟩]).toArray) (t:=9) (fr:=(0,0)) (heap_alloc_new w9 _);exact (grown_al gg9 _).size;intro g10 c10 w10 hw10 hg10;have gg10:wa.grownBy w10 none:=(grown_none (grown_al gg9 _) hg10 (fun g e=>(hw9.lt g e).1));clear hg10)
          | (refine step_append_m _ ?_ (.tmp 30) (.tmp 31) 84 ?_ wa.heap.size 9 j0 _ 1 16 Tryz.underlying84 hj hy0 hy1 hy2 rfl (by decide) (.slice (some ⟨g9,0,none⟩) m c9) m (strV AL) ?_ hw9 (not_nil _ _ _) ⟨wa.heap.size+1,0,none⟩ 2 2 (strV [⟨#[105]⟩,⟨#[122]⟩]) ?_ rfl ?_ hIZ h63b hbyb ?_ (m+2) rfl ?_;exact rfl;exact rfl;exact rfl;exact rfl;exact hL9;exact (grown_dr gg9).size;intro g10 c10 w10 hw10 hg10;have gg10:wa.grownBy w10 none:=(grown_none (grown_dr gg9) hg10 (fun g e=>(hw9.lt g e).1));clear hg10)
          | (refine step_append_m _ ?_ (.tmp 30) (.tmp 31) 84 ?_ wa.heap.size 9 j0 _ 1 16 Tryz.underlying84 hj hy0 hy1 hy2 rfl (by decide) (.slice (some ⟨g9,0,none⟩) m c9) m (strV AL) ?_ hw9 (not_nil _ _ _) ⟨wa.heap.size,0,none⟩ 2 2 (strV [⟨#[105]⟩,⟨#[122]⟩]) ?_ rfl ?_ hIZ h63b hbyb ?_ (m+2) rfl ?_;exact rfl;exact rfl;exact rfl;exact rfl;exact hL9;exact (grown_dr gg9).size;intro g10 c10 w10 hw10 hg10;have gg10:wa.grownBy w10 none:=(grown_none (grown_dr gg9) hg10 (fun g e=>(hw9.lt g e).1));clear hg10)
          | (refine step_append_m _ ?_ (.tmp 30) (.tmp 31) 84 ?_ wa.heap.size 9 j0 _ 1 16 Tryz.underlying84 hj hy0 hy1 hy2 rfl (by decide) (.slice (some ⟨g9,0,none⟩) m c9) m (strV AL) ?_ hw9 (not_nil _ _ _) ⟨wa.heap.size+1,0,none⟩ 2 2 (strV [⟨#[105]⟩,⟨#[122]⟩]) ?_ rfl ?_ hIZ h63b hbyb ?_ (m+2) rfl ?_;exact rfl;exact rfl;exact rfl;exact rfl;exact hL9;exact gg9.size;intro g10 c10 w10 hw10 hg10;have gg10:wa.grownBy w10 none:=(grown_none gg9 hg10 (fun g e=>(hw9.lt g e).1));clear hg10)
          | (refine step_append_m _ ?_ (.tmp 30) (.tmp 31) 84 ?_ wa.heap.size 9 j0 _ 1 16 Tryz.underlying84 hj hy0 hy1 hy2 rfl (by decide) (.slice (some ⟨g9,0,none⟩) m c9) m (strV AL) ?_ hw9 (not_nil _ _ _) ⟨wa.heap.size,0,none⟩ 2 2 (strV [⟨#[105]⟩,⟨#[122]⟩]) ?_ rfl ?_ hIZ h63b hbyb ?_ (m+2) rfl ?_;exact rfl;exact rfl;exact rfl;exact rfl;exact hL9;exact gg9.size;intro g10 c10 w10 hw10 hg10;have gg10:wa.grownBy w10 none:=(grown_none gg9 hg10 (fun g e=>(hw9.lt g e).1));clear hg10))
       all_goals
        simp only [Exit.then];refine hK _ _ (Met.intro (hJ _ _ ?_))
        (repeat apply Exists.intro)
        refine ⟨?_,rfl⟩;exact at_gen gg10 hw10 (strV_append _ _) cwa (by rw [List.length_append,hALl];rfl)
      case rest =>
       rename World=>wb
       obtain ⟨gr,g,ga,gc,rfl,hgw,hgx,hgb,htx,hga,hgac,hgal,hgat⟩:=hcut;have HGT:=hid hgat;clear hgat;have HGB:=hid hgb;have HTX:=hid htx;have gr':wa.grownBy wb (some c):=⟨gr.os,gr.tape,gr.output,gr.size,fun j hj _=>gr.block j hj (fun e=>by cases e)⟩;have HSA:=hid (show St 145 87 9 147 w1 c a len cap z X u6 wa by rw [← HWA.out];exact HS.out.alloc _);have HSC:=hid (HSA.out.far hc1 neL.2.2.1 neL.2.2.2 gr' (HSA.out.2.2.2.2.1.kept gr (fun g e=>by cases e)));have GWC:=hid gr';have hgz:wa.heap.size≤wb.heap.size:=gr.size;clear hgb htx gr gr' q0 q1 q4 q5 h63a hbya h63b hbyb hIZ;go_upto_region 10 with fail
       go_cut [50] (fun s wx=>∃ b:Bool,s=.bool b∧CurAt 145 wx c a len cap z∧wb.grownBy wx (some c))
       case first =>
        by_cases k00:0<k
        · have hd:decide ((0:Int)<(k:Int))=true:=decide_eq_true (by omega)
          go_wp2_with fail;refine (d_once c a len cap z 5 _ HSC.out.2.2.2.2.1 (by omega) (by omega)).mono ?_;rintro e w2 ⟨t,rfl,H2,G2⟩;have K2:=hid H2;have L2:=hid G2;clear H2 G2;go_wp2_with fail;go_meet;exact ⟨t,rfl,K2.out,L2.out⟩
        · have hd:decide ((0:Int)<(k:Int))=false:=decide_eq_false (by omega)
          go_wp2_with fail;go_meet;exact ⟨false,rfl,HSC.out.2.2.2.2.1,World.grownBy.refl _ _⟩
       case rest =>
        obtain ⟨b,rfl,H5,G5⟩:=hcut;have hwc5:wb.heap.size≤wc.heap.size:=G5.size;have HS5:=hid (HSC.out.far hc1 neL.2.2.1 neL.2.2.2 G5 H5);have hgb5:wc.heap[g]?=_:=(G5.block g hgx (fun e=>by injection e;omega)).trans HGB.out;have hgx5:g<wc.heap.size:=by omega
        have HGB5:=hid hgb5;have HTX5:=hid (HTX.out.grown G5);have HGT5:Hid (∃ cs,wc.heap[ga]?=some (.cells cs 9 (0,0))):=hid (by obtain ⟨cs,h⟩:=HGT.out;exact ⟨cs,(G5.block _ (lt_of_block h) (fun e=>hgac (Option.some.inj e))).trans h⟩);have GG5:=hid (GWC.out.trans G5);have hnm5:wc.heap[w.heap.size]?=_:=(GG5.out.block _ (by omega) (fun e=>by injection e;omega)).trans ((by rw [← HWA.out];exact Below.heap_alloc _ _ _ (by omega):wa.heap[w.heap.size]?=wr.heap[w.heap.size]?).trans ((GR.out.block _ (by omega) (fun e=>by injection e;omega)).trans HNM.out));have har5:wc.heap[w.heap.size+1]?=_:=(GG5.out.block _ (by omega) (fun e=>by injection e;omega)).trans ((by rw [← HWA.out];exact Below.heap_alloc _ _ _ (by omega):wa.heap[w.heap.size+1]?=wr.heap[w.heap.size+1]?).trans ((GR.out.block _ (by omega) (fun e=>by injection e;omega)).trans HAR.out));have HNM5:=hid hnm5;have HAR5:=hid har5;clear H5 G5 hgb5 hnm5 har5;rename World=>wd
        go_upto_if 50 with fail
        go_cut [9] (fun s wx=>s=.pointer (some ⟨g,0,none⟩)∧wd.grownBy wx (some g)∧CurAt 145 wx c a len cap z∧∃ (na aa:Option Addr) (i nc ac:Nat),GenIn 189 9 w1.heap.size c wx g ga na aa (AL++[⟨#[105]⟩,⟨#[122]⟩]) ((namesP.take (1+u)).drop i) ((arsP.take (1+u)).drop i) gc nc ac)
        case first =>
         cases b
         · go_wp2_with fail
           go_meet;refine ⟨rfl,World.grownBy.refl _ _,HS5.out.2.2.2.2.1,(if k=3 then some ⟨w.heap.size,0,none⟩ else some ⟨w.heap.size,k+1,none⟩),(if k=3 then some ⟨w.heap.size+1,0,none⟩ else some ⟨w.heap.size+1,k+1,none⟩),k+1,3 - k,3 - k,⟨(fun e=>by omega),?_,HTX5.out,names_at (n:=1+u) (i:=k+1) HNM5.out (by omega) (by omega) (fun h=>if_neg (by omega)),ars_at (n:=1+u) (i:=k+1) HAR5.out (by omega) (by omega) (fun h=>if_neg (by omega))⟩,hgac,HGT5.out,(fun x e=>ite_lt (by omega) e),(fun x e=>ite_lt (by omega) e)⟩;rw [HGB5.out,pl1 _ _ (by omega),pl2 _ _ (by omega)]
         · have e2:=(cell_of_row wd g 2 _ _ _ HGB5.out)
           have e3:=(cell_of_row wd g 3 _ _ _ HGB5.out);have f2:wd.frozen? ⟨g,2,none⟩=false:=frozen_of_block HGB5.out;have f3:∀ v,(wd.setCell ⟨g,2,none⟩ v).frozen? ⟨g,3,none⟩=false:=fun v=>frozen_of_block (heap_setCell_at HGB5.out v)
           have e3':∀ v,(wd.setCell ⟨g,2,none⟩ v).cell? ⟨g,3,none⟩=some (.slice (if k=3 then some ⟨w.heap.size+1,0,none⟩ else some ⟨w.heap.size+1,k+1,none⟩) (1+u - (k+1)) (3 - k)):=fun v=>(cell_of_row _ g 3 _ _ _ (heap_setCell_at HGB5.out v))
           have hb2:=heap_setCell_at (heap_setCell_at (j:=2) HGB5.out (.slice (some ⟨w.heap.size,k,none⟩) (1+u - k) (4 - k))) (j:=3) (.slice (some ⟨w.heap.size+1,k,none⟩) (1+u - k) (4 - k));have hg2:=(grown_setCell wd g 2 (.slice (some ⟨w.heap.size,k,none⟩) (1+u - k) (4 - k))).trans (grown_setCell _ g 3 (.slice (some ⟨w.heap.size+1,k,none⟩) (1+u - k) (4 - k)));have HB2:=hid hb2;have HG2:=hid hg2;clear hb2 hg2;go_wp2_with fail;go_meet;refine ⟨rfl,HG2.out,HS5.out.2.2.2.2.1.kept HG2.out (fun k e=>by injection e;omega),some ⟨w.heap.size,k,none⟩,some ⟨w.heap.size+1,k,none⟩,k,4 - k,4 - k,⟨(fun e=>by omega),?_,texts_other HTX5.out HG2.out hga,names_at (n:=1+u) (i:=k) ((HG2.out.block _ (by omega) (fun e=>by injection e;omega)).trans HNM5.out) (by omega) (by omega) (fun h=>rfl),ars_at (n:=1+u) (i:=k) ((HG2.out.block _ (by omega) (fun e=>by injection e;omega)).trans HAR5.out) (by omega) (by omega) (fun h=>rfl)⟩,hgac,(by obtain ⟨cs,h⟩:=HGT5.out;exact ⟨cs,(HG2.out.block _ (lt_of_block h) (fun e=>hga (Option.some.inj e))).trans h⟩),(fun x e=>by cases e;exact (show w.heap.size<w1.heap.size by omega)),(fun x e=>by cases e;exact (show w.heap.size+1<w1.heap.size by omega))⟩;rw [HB2.out,pl1 _ _ (by omega),pl2 _ _ (by omega)];rfl
        case rest =>
         obtain ⟨rfl,hg7,hc7,na,aa,i7,nc,ac,hgen7⟩:=hcut;have HG7:=hid hgen7;have HS7:=hid (HS5.out.beside hg7 HGB5.out (by decide) (by decide) (by decide) (by omega) hc1);have hnm7:wc.cell? ⟨w.heap.size,k,none⟩=some (.string nm):=hg7.cell (GG5.out.cell (by rw [← HWA.out];exact hcn' _) (fun e=>absurd (Option.some.inj e) (show w.heap.size≠c by omega))) (fun e=>absurd (Option.some.inj e) (show w.heap.size≠g by omega));have hNW7:=hid (news_grown hg7 (fun e=>by injection e;omega) (news_grown GG5.out (fun e=>by injection e;omega) hNW.out));have GO:=hid (gen_ok hAk (by omega) (1+u) i7);have sz7:=hg7.size;have wr7:wr.heap.size<wc.heap.size:=by omega
         have wlt1:w.heap.size<w1.heap.size:=by omega
         have zz7:w1.heap.size≤wc.heap.size:=by omega
         have h63a:0+m≤maxLen:=by unfold maxLen;omega
         have hbya:(0+m)*16≤140737488355328:=by omega
         have h63c:X.length+1≤maxLen:=by unfold maxLen;omega
         have hbyc:(X.length+1)*72≤140737488355328:=by omega
         clear hc7 hgen7;go_wp2_with fail
         go_region_held3 (fun w'=>w'.cell? ⟨w.heap.size,k,none⟩=some (.string nm)) (first|exact hnm7|exact G13.cell hnm7 (fun e=>by cases e)|exact (grown_al G13 _).cell hnm7 (fun e=>by cases e)|exact d14|(simp [go_sem];done)|go_keep|trivial)
          (first
            | (refine step_append_m _ ?_ (.tmp 70) (.tmp 71) 84 ?_ wc.heap.size 9 j0 _ 1 16 Tryz.underlying84 hj hy0 hy1 hy2 rfl (by decide) (.slice (some ⟨wc.heap.size,0,none⟩) 0 0) 0 [] ?_ (own_empty wc 9) (not_nil _ _ _) ⟨wr.heap.size,0,none⟩ m 2 (strV AL) ?_ hAl (news_none hNW7.out wr7 ?_) (strV_one _) h63a hbya ?_ m (Nat.zero_add m) ?_;exact rfl;exact rfl;exact rfl;exact rfl;exact (grown_al (World.grownBy.refl wc none) _);exact (grown_al (World.grownBy.refl wc none) _).size;intro g13 c13 w13 hw13 hg13;have G13:wc.grownBy w13 none:=(grown_none (grown_al (World.grownBy.refl wc none) _) hg13 (fun g e=>Nat.le_of_eq (Option.some.inj e)));simp only [List.nil_append] at hw13;clear hg13)
            | (refine step_append_m _ ?_ (.tmp 70) (.tmp 71) 84 ?_ wc.heap.size 9 j0 _ 1 16 Tryz.underlying84 hj hy0 hy1 hy2 rfl (by decide) (.slice (some ⟨wc.heap.size,0,none⟩) 0 0) 0 [] ?_ (own_empty wc 9) (not_nil _ _ _) ⟨wr.heap.size,0,none⟩ m 2 (strV AL) ?_ hAl (news_none hNW7.out wr7 ?_) (strV_one _) h63a hbya ?_ m (Nat.zero_add m) ?_;exact rfl;exact rfl;exact rfl;exact rfl;exact (grown_dr (grown_al (World.grownBy.refl wc none) _));exact (grown_dr (grown_al (World.grownBy.refl wc none) _)).size;intro g13 c13 w13 hw13 hg13;have G13:wc.grownBy w13 none:=(grown_none (grown_dr (grown_al (World.grownBy.refl wc none) _)) hg13 (fun g e=>Nat.le_of_eq (Option.some.inj e)));simp only [List.nil_append] at hw13;clear hg13)
            | (refine step_append_m _ ?_ (.tmp 70) (.tmp 71) 84 ?_ wc.heap.size 9 j0 _ 1 16 Tryz.underlying84 hj hy0 hy1 hy2 rfl (by decide) (.slice (some ⟨wc.heap.size,0,none⟩) 0 0) 0 [] ?_ (own_empty wc 9) (not_nil _ _ _) ⟨wr.heap.size,0,none⟩ m 2 (strV AL) ?_ hAl (news_none hNW7.out wr7 ?_) (strV_one _) h63a hbya ?_ m (Nat.zero_add m) ?_;exact rfl;exact rfl;exact rfl;exact rfl;exact (grown_al (grown_dr (World.grownBy.refl wc none)) _);exact (grown_al (grown_dr (World.grownBy.refl wc none)) _).size;intro g13 c13 w13 hw13 hg13;have G13:wc.grownBy w13 none:=(grown_none (grown_al (grown_dr (World.grownBy.refl wc none)) _) hg13 (fun g e=>Nat.le_of_eq (Option.some.inj e)));simp only [List.nil_append] at hw13;clear hg13)
            | (refine step_append_m _ ?_ (.tmp 65) (.tmp 74) 24 ?_ w1.heap.size 87 i0 _ 4 72 Tryz.underlying24 hi hz0 hz1 hz2 rfl (by decide) u6 X.length (lnsV X) ?_ (((HS7.out.far hc1 neL.2.2.1 neL.2.2.2 (none_some G13) (HS7.out.2.2.2.2.1.kept G13 (fun g e=>by cases e))).alloc _).1) HS7.out.2.1 ⟨w13.heap.size,0,none⟩ 1 1 (lnV ⟨0,nm,AL,[],.slice (some ⟨g13,0,none⟩) m c13,.slice none 0 0⟩) ?_ rfl ?_ (lnV_one _ rfl rfl) h63c hbyc ?_ (X.length+1) rfl ?_;exact rfl;exact rfl;exact rfl;exact rfl;exact ln_new _ _ _ _ _ _ _ _;exact Nat.le_trans zz7 (grown_al G13 _).size;intro g14 c14 w14 hw14 hg14;have d14:=hg14.cell ((grown_al G13 _).cell hnm7 (fun e=>by cases e)) (fun e=>Nat.lt_irrefl _ (Nat.lt_of_le_of_lt (HS7.out.1.lt _ e.symm).1 wlt1)))
            | (refine step_append_m _ ?_ (.tmp 65) (.tmp 74) 24 ?_ w1.heap.size 87 i0 _ 4 72 Tryz.underlying24 hi hz0 hz1 hz2 rfl (by decide) u6 X.length (lnsV X) ?_ (((HS7.out.far hc1 neL.2.2.1 neL.2.2.2 (none_some G13) (HS7.out.2.2.2.2.1.kept G13 (fun g e=>by cases e))).alloc _).1.drew) HS7.out.2.1 ⟨w13.heap.size,0,none⟩ 1 1 (lnV ⟨0,nm,AL,[],.slice (some ⟨g13,0,none⟩) m c13,.slice none 0 0⟩) ?_ rfl ?_ (lnV_one _ rfl rfl) h63c hbyc ?_ (X.length+1) rfl ?_;exact rfl;exact rfl;exact rfl;exact rfl;exact ln_new _ _ _ _ _ _ _ _;exact Nat.le_trans zz7 (grown_al G13 _).size;intro g14 c14 w14 hw14 hg14;have d14:=hg14.cell ((grown_al G13 _).cell hnm7 (fun e=>by cases e)) (fun e=>Nat.lt_irrefl _ (Nat.lt_of_le_of_lt (HS7.out.1.lt _ e.symm).1 wlt1))))
         all_goals
          have HS13:=hid (HS7.out.far hc1 neL.2.2.1 neL.2.2.2 (none_some G13) (HS7.out.2.2.2.2.1.kept G13 (fun g e=>by cases e)));have HI14:Hid (AllIn 9 147 (w13.alloc (.cells #[.int .i64 0,.string nm,.slice (some ⟨g13,0,none⟩) m c13,.slice none 0 0] 87)) [(⟨0,nm,AL,[],.slice (some ⟨g13,0,none⟩) m c13,.slice none 0 0⟩:LnL)]):=hid ((AllIn.one (x:=⟨0,nm,AL,[],.slice (some ⟨g13,0,none⟩) m c13,.slice none 0 0⟩) ⟨(show w13.ownsRow 0 9 1 (.slice (some ⟨g13,0,none⟩) m c13) AL.length (strV AL) from by rw [hALl];exact owns_base hw13),World.ownsRow_nil _ _ _ _⟩).other (grown_alloc' _ _ none) (fun g e=>by cases e));have HK14:Hid (LnOk ⟨0,nm,AL,[],.slice (some ⟨g13,0,none⟩) m c13,.slice none 0 0⟩):=hid (.inl ⟨rfl,hnm,hAk,hAd,by show AL.length≤4;omega,rfl⟩);have HS14:=hid ((HS13.out.alloc (.cells #[.int .i64 0,.string nm,.slice (some ⟨g13,0,none⟩) m c13,.slice none 0 0] 87)).app hc1 neL.1 neL.2.1 HI14.out (fun x hx=>by rw [List.mem_singleton] at hx;rw [hx];exact HK14.out) hg14 (by rw [lnsV_one];exact hw14) (not_nil _ _ _));have HG14:=hid ((HG7.out.grown (none_some (grown_al G13 _))).rows (HS13.out.alloc _) hg14 (by decide) (by decide));have hq14:(X++[(⟨0,nm,AL,[],.slice (some ⟨g13,0,none⟩) m c13,.slice none 0 0⟩:LnL)]).length≤X.length+1:=by rw [List.length_append];exact Nat.le_refl _
          have hln14:(X++[(⟨0,nm,AL,[],.slice (some ⟨g13,0,none⟩) m c13,.slice none 0 0⟩:LnL)]).length=X.length+1:=by rw [List.length_append];rfl
          obtain ⟨Q14,hQ14⟩:∃ Q,X++[(⟨0,nm,AL,[],.slice (some ⟨g13,0,none⟩) m c13,.slice none 0 0⟩:LnL)]=Q:=⟨_,rfl⟩;rw [hQ14] at HS14 hq14 hln14;rw [← hln14] at HS14 ⊢;clear hw14 hg14 hQ14 hw13 d14 hln14;go_wp2_with fail;refine (d_below c a len cap z 4 _ HS14.out.2.2.2.2.1 (by omega) (by omega)).mono ?_;rintro e w15 ⟨y15,y15l,y15h,rfl,H15,G15⟩;have HS15:=hid (HS14.out.far hc1 neL.2.2.1 neL.2.2.2 G15 H15);have HG15:=hid (HG14.out.grown G15);clear H15 G15;obtain ⟨f15,rfl⟩:=Int.eq_ofNat_of_zero_le y15l;have hf15:f15≤3:=by omega
          go_wp2_with fail;refine (d_below c a len cap z 2 _ HS15.out.2.2.2.2.1 (by omega) (by omega)).mono ?_;rintro e w16 ⟨y16,y16l,y16h,rfl,H16,G16⟩;have HS16:=hid (HS15.out.far hc1 neL.2.2.1 neL.2.2.2 G16 H16);have HG16:=hid (HG15.out.grown G16);clear H16 G16;obtain ⟨f16,rfl⟩:=Int.eq_ofNat_of_zero_le y16l;have hf16:f16≤1:=by omega
          go_wp2_with fail;refine (g_body c a len cap z _ _ _ _ _ _ _ _ _ GO.out (by simp) g (1+f16) (by omega) (1+f15) _ _ _ (by omega) (by omega) (by omega) HS16.out.2.2.2.2.1 HG16.out.1).mono ?_;rintro e w17 ⟨v17,X17,rfl,st17,len17⟩;obtain ⟨g17,c17,rfl,_,gc17⟩:=st17.form;have HS17:=hid (HS16.out.far hc1 neL.2.2.1 neL.2.2.2 st17.2.2.2.2.2 st17.2.2.2.2.1);have HG17:=hid (HG16.out.grown st17.2.2.2.2.2);have HI17:=hid st17.2.2.1;have HK17:=hid st17.2.2.2.1;have GC17:=hid gc17;have hl17:X17.length≤84:=(Nat.le_trans len17 (Nat.le_trans (Nat.mul_le_mul (by omega:1+f15≤4) (bd2 (by omega:1+f16≤2))) (by decide)));clear st17 gc17 len17;have hown18:=HS17.out.1;have zz18:w1.heap.size≤w17.heap.size:=HS17.out.2.2.2.2.2.size;have h6318:(Q14).length+X17.length≤maxLen:=by (try simp only [List.length_append,List.length_cons,List.length_nil]);unfold maxLen;omega
          have hby18:((Q14).length+X17.length)*72≤140737488355328:=by (try simp only [List.length_append,List.length_cons,List.length_nil]);omega
          go_wp2_with (at_builtin;refine wpList_append_own _ rfl _ _ 24 rfl w1.heap.size 87 i0 _ 4 72 Tryz.underlying24 hi hz0 hz1 hz2 rfl (by decide) _ _ _ rfl hown18 ⟨g17,0,none⟩ X17.length c17 (lnsV X17) rfl (lnsV_length X17) GC17.out (lnsV_all HI17.out) h6318 hby18 zz18 ?_)
          intro v18 w18 hwn18 hg18 hf18;have HS18:=hid (HS17.out.app hc1 neL.1 neL.2.1 HI17.out HK17.out hg18 hwn18 (by first|exact hf18|exact fun e=>HS17.out.2.1 (hf18.1 e).1|exact fun e=>HS17.out.2.1 (hf18 e).1));have HG18:=hid (HG17.out.rows HS17.out hg18 (by decide) (by decide));have hq18:(Q14++X17).length≤(Q14).length+X17.length:=by rw [List.length_append];exact Nat.le_refl _
          obtain ⟨Q18,hQ18⟩:∃ Q,Q14++X17=Q:=⟨_,rfl⟩;rw [hQ18] at HS18 hq18;clear hwn18 hg18 hf18 hown18 h6318 hby18 hQ18;go_wp2_with fail;refine (g_expr c a len cap z _ _ _ _ _ _ _ _ _ GO.out g 3 (by omega) _ (by rfl) _ HS18.out.2.2.2.2.1 HG18.out.1).mono ?_;rintro e w19 ⟨v19,l19,rfl,O19,P19,B19,V19,H19,G19⟩;obtain ⟨g19,c19,rfl,_,_,_⟩:=own_form O19 (part_pos _ P19);have HS19:=hid (HS18.out.far hc1 neL.2.2.1 neL.2.2.2 G19 H19);have HO19:=hid (owns_base O19);have HX19:Hid (exprB l19=true):=hid (expr_of _ P19 (by unfold bdX at B19;omega));clear O19 P19 B19 V19 H19 G19;have HI20:Hid (AllIn 9 147 (w19.alloc (.cells #[.int .i64 6,.string ⟨#[]⟩,.slice none 0 0,.slice (some ⟨g19,0,none⟩) l19.length c19] 87)) [(⟨6,⟨#[]⟩,[],l19,.slice none 0 0,.slice (some ⟨g19,0,none⟩) l19.length c19⟩:LnL)]):=hid ((AllIn.one (x:=⟨6,⟨#[]⟩,[],l19,.slice none 0 0,.slice (some ⟨g19,0,none⟩) l19.length c19⟩) ⟨World.ownsRow_nil _ _ _ _,HO19.out⟩).other (grown_alloc' _ _ none) (fun g e=>by cases e));have HK20:Hid (LnOk ⟨6,⟨#[]⟩,[],l19,.slice none 0 0,.slice (some ⟨g19,0,none⟩) l19.length c19⟩):=hid (.inr (.inr (.inl ⟨.inr (.inr (.inr rfl)),rfl,rfl,HX19.out⟩)));have hown20:=(HS19.out.alloc (.cells #[.int .i64 6,.string ⟨#[]⟩,.slice none 0 0,.slice (some ⟨g19,0,none⟩) l19.length c19] 87)).1;have zz20:w1.heap.size≤w19.heap.size:=HS19.out.2.2.2.2.2.size;have h6320:(Q18).length+1≤maxLen:=by (try simp only [List.length_append,List.length_cons,List.length_nil]);unfold maxLen;omega
          have hby20:((Q18).length+1)*72≤140737488355328:=by (try simp only [List.length_append,List.length_cons,List.length_nil]);omega
          go_wp2_with (at_builtin;refine wpList_append_own _ rfl _ _ 24 rfl w1.heap.size 87 i0 _ 4 72 Tryz.underlying24 hi hz0 hz1 hz2 rfl (by decide) _ _ _ rfl hown20 ⟨w19.heap.size,0,none⟩ 1 1 (lnV ⟨6,⟨#[]⟩,[],l19,.slice none 0 0,.slice (some ⟨g19,0,none⟩) l19.length c19⟩) rfl rfl ?c120 ?c220 h6320 hby20 ?c520 ?_)
          case c120=>first|exact ln_new _ _ _ _ _ _ _ _|exact fun j u h=>h
          case c220=>exact lnV_one _ rfl rfl
          case c520=>first|omega|(simp;omega)
          intro v20 w20 hwn20 hg20 hf20;have HS20:=hid ((HS19.out.alloc (.cells #[.int .i64 6,.string ⟨#[]⟩,.slice none 0 0,.slice (some ⟨g19,0,none⟩) l19.length c19] 87)).app hc1 neL.1 neL.2.1 HI20.out (fun x hx=>by rw [List.mem_singleton] at hx;rw [hx];exact HK20.out) hg20 (by rw [lnsV_one];exact hwn20) (by first|exact hf20|exact fun e=>HS19.out.2.1 (hf20.1 e).1));have hq20:(Q18++[(⟨6,⟨#[]⟩,[],l19,.slice none 0 0,.slice (some ⟨g19,0,none⟩) l19.length c19⟩:LnL)]).length≤(Q18).length+1:=by rw [List.length_append];exact Nat.le_refl _
          obtain ⟨Q20,hQ20⟩:∃ Q,Q18++[(⟨6,⟨#[]⟩,[],l19,.slice none 0 0,.slice (some ⟨g19,0,none⟩) l19.length c19⟩:LnL)]=Q:=⟨_,rfl⟩;rw [hQ20] at HS20 hq20;clear hwn20 hg20 hf20 hown20 h6320 hby20 hQ20;have HI21:Hid (AllIn 9 147 (w20.alloc (.cells #[.int .i64 7,.string ⟨#[]⟩,.slice none 0 0,.slice none 0 0] 87)) [(⟨7,⟨#[]⟩,[],[],.slice none 0 0,.slice none 0 0⟩:LnL)]):=hid ((AllIn.one (x:=⟨7,⟨#[]⟩,[],[],.slice none 0 0,.slice none 0 0⟩) ⟨World.ownsRow_nil _ _ _ _,World.ownsRow_nil _ _ _ _⟩).other (grown_alloc' _ _ none) (fun g e=>by cases e));have HK21:Hid (LnOk ⟨7,⟨#[]⟩,[],[],.slice none 0 0,.slice none 0 0⟩):=hid (.inr (.inr (.inr ⟨.inr rfl,rfl,rfl,rfl⟩)));have hown21:=(HS20.out.alloc (.cells #[.int .i64 7,.string ⟨#[]⟩,.slice none 0 0,.slice none 0 0] 87)).1;have zz21:w1.heap.size≤w20.heap.size:=HS20.out.2.2.2.2.2.size;have h6321:(Q20).length+1≤maxLen:=by (try simp only [List.length_append,List.length_cons,List.length_nil]);unfold maxLen;omega
          have hby21:((Q20).length+1)*72≤140737488355328:=by (try simp only [List.length_append,List.length_cons,List.length_nil]);omega
          go_wp2_with (at_builtin;refine wpList_append_own _ rfl _ _ 24 rfl w1.heap.size 87 i0 _ 4 72 Tryz.underlying24 hi hz0 hz1 hz2 rfl (by decide) _ _ _ rfl hown21 ⟨w20.heap.size,0,none⟩ 1 1 (lnV ⟨7,⟨#[]⟩,[],[],.slice none 0 0,.slice none 0 0⟩) rfl rfl ?c121 ?c221 h6321 hby21 ?c521 ?_)
          case c121=>first|exact ln_new _ _ _ _ _ _ _ _|exact fun j u h=>h
          case c221=>exact lnV_one _ rfl rfl
          case c521=>first|omega|(simp;omega)
          intro v21 w21 hwn21 hg21 hf21;have HS21:=hid ((HS20.out.alloc (.cells #[.int .i64 7,.string ⟨#[]⟩,.slice none 0 0,.slice none 0 0] 87)).app hc1 neL.1 neL.2.1 HI21.out (fun x hx=>by rw [List.mem_singleton] at hx;rw [hx];exact HK21.out) hg21 (by rw [lnsV_one];exact hwn21) (by first|exact hf21|exact fun e=>HS20.out.2.1 (hf21.1 e).1));have hq21:(Q20++[(⟨7,⟨#[]⟩,[],[],.slice none 0 0,.slice none 0 0⟩:LnL)]).length≤(Q20).length+1:=by rw [List.length_append];exact Nat.le_refl _
          have hp21:0<(Q20++[(⟨7,⟨#[]⟩,[],[],.slice none 0 0,.slice none 0 0⟩:LnL)]).length:=by rw [List.length_append];exact Nat.succ_pos _
          obtain ⟨Q21,hQ21⟩:∃ Q,Q20++[(⟨7,⟨#[]⟩,[],[],.slice none 0 0,.slice none 0 0⟩:LnL)]=Q:=⟨_,rfl⟩;rw [hQ21] at HS21 hq21 hp21;clear hwn21 hg21 hf21 hown21 h6321 hby21 hQ21;go_wp2;go_roundw
          case rel=>exact ⟨k+1,Q21,by go_num,by omega,by omega,fun _=>hp21,HS21.out⟩
          case measure=>simp [RowKit.intOf];omega
    · have hk1:k=u+1:=by omega
      subst hk1;have hp:=hXp (by omega);go_wp2;go_ret;exact ⟨_,X,rfl,St.base HS.out GW.out,hp,by omega⟩
end Go.Proofs.YtcflojdkaddemaaGreatDoor
