/- Parts of the proof. -/
import Derived.Test.YtcflojdkaddemaaGreatDoorI15
namespace Go.Proofs.YtcflojdkaddemaaGreatDoor
open Go.RowKit Go.Lib Go.Maps
def ReplTo (E:CmpE) (N:Nat) (scs:List ScL) (sc:ScL) (k g:Nat) (t R:CiS):Prop :=
 ∃ z,cmiF E N (.lines (newSc E sc g k :: scs) (g+1) (enterJ E sc (newSc E sc g k) k t).depth) { enterJ E sc (newSc E sc g k) k t with jumps:=[],firsts:=[],pend:=false }=some z ∧
  R={ z.2 with pend:=(enterJ E sc (newSc E sc g k) k t).pend,jumps:=t.jumps,firsts:=t.firsts }
def IReplOk (B cb:Nat) (K:KcE) (wb:World) (N:Nat):Prop :=
 ∀ (scs:List ScL) (sc:ScL) (rest:List ScL) (k g:Nat) (t R:CiS) (w:World) (iv:Value) (X:List ItW) (b:BdW) (jv:Value),
  ReplTo K.E N scs sc k g t R→replJ K.E scs t.items.length g=true→BodyOk K w sc rest scs b→g ∈ funs K.E.p→((argsZ K.E.p (g:Int)).length:Int)≤t.depth→t.depth - ((argsZ K.E.p (g:Int)).length:Int)≤2000000+100*(scs.length:Int)+50→R.items.length≤1000000→t.used≤1000 →
  CiAt jT Tryz.prog B cb w K t iv X sc b jv k→Below wb.heap.size wb w →
  Calls Tryz.prog 233 #[.pointer (some ⟨b.bb,0,none⟩),.int .i64 (g:Int)] w (EmD B cb K R iv sc b jv k w)
theorem own_read {B T n c:Nat} {w:World} {a:Option Addr} {l:List Int} (hn:n=l.length) (h:w.ownsRow B T 1 (.slice a n c) n (intV l)):ReadI w a l:=by
 subst hn;exact readI_of h
set_option maxRecDepth 100000 in
set_option maxHeartbeats 4000000 in
theorem i_call (B cb:Nat) (K:KcE) (pa:Option Addr) (pc:Nat) (PX:List LnL) (fa:Option Addr) (fc:Nat) (wb:World) (hP:PgI K pa pc PX fa fc wb) (hBw:wb.heap.size≤B) (n:Nat) (hR:IReplOk B cb K wb n):ICallOk B cb K wb n:=by
 intro scs sc rest k g t R w iv X b jv h hb hg hd1 hd2 hzl hu hci hW;have h60:K.E.p.length≤60:=hP.ok.1.1;have hlb:=hP.ok.1.2;have hinl:=hP.inl;have hsl:scs.length≤4:=by have:=hb.sf.2.1;omega
 have hcl:sc.chain.length≤4:=by have:=hb.chn;omega
 have hgl:g<K.E.p.length:=by have:=funF_ge K.E.p 0 g hg;omega
 obtain ⟨mm,hmm,hml,hmg,hmn⟩:=fun_no K.E.p g hg;have HCI:=hid hci;have hpl:=hP.len;have hf6:(funs K.E.p).length≤6:=hP.ok.2.1.1;unfold CallTo at h;have htl:t.items.length≤1000000:=by
  by_cases hrp:replJ K.E scs t.items.length g=true
  ·have:=(replJ_lt hrp).2.2.1
   omega
  ·rw [if_neg hrp] at h
   rw [h,emitJ_len] at hzl;omega
 have hdm:t.depth≤2000000+100*(scs.length:Int)+60:=by
  have:=args_len hlb (g:Int)
  omega
 have HRP:=hid (i_replaces B cb K t iv X sc rest scs b jv k g pa pc PX fa fc wb w hci hb.eq hb.chn hb.ab hb.lt hsl ⟨by omega,by omega,by omega⟩ hP hW (by omega));obtain ⟨rp,hrp⟩:∃ rp,replJ K.E scs t.items.length g=rp:=⟨_,rfl⟩;rw [hrp] at HRP
 cases rp
 ·rw [if_neg (by rw [hrp];decide)] at h
  subst h;rw [hmm] at *;have FR:Hid (∀ W,Below w.heap.size w W→Calls Tryz.prog 199 #[.slice fa (funs K.E.p).length fc,.int .i64 (g:Int)] W fun e w'=>e=.returned (.int .i64 (mm:Int))∧Below W.heap.size W w'):=hid (fun W hB=>by
   have hnl:(natI (funs K.E.p)).length=(funs K.E.p).length:=natI_length _;have hrd:ReadI W fa (natI (funs K.E.p)):=(own_read hnl.symm hP.frow).below (hW.trans (hB.mono hW.size));have h1:=x_indexI fa fc (natI (funs K.E.p)) (g:Int) W hrd (by omega);rw [hnl,ixI_at (natI (funs K.E.p)) (g:Int) mm (by omega) (by simp [natI,hmg]) (fun q hq=>by
    have:=hmn q hq
    simp [natI];omega)] at h1
   exact h1)
  have EM:Hid (∀ W,Below w.heap.size w W→Calls Tryz.prog 185 #[.pointer (some ⟨b.bb,0,none⟩),.int .i64 12,.int .i64 (mm:Int)] W (EmR B cb K (emitJ K.E t 12 (mm:Int) k sc.chain) iv sc b jv k W)):=hid (fun W hB=>i_emit B cb K t iv X sc b jv k 12 (mm:Int) W (HCI.out.below hB) (by omega) (by rw [HCI.out.len];omega));have KB:Hid (∀ W,Below w.heap.size w W→W.cell? ⟨b.bb,0,none⟩=some (.pointer (some ⟨cb,0,none⟩))∧W.cell? ⟨cb,1,none⟩=some (.slice fa (funs K.E.p).length fc)):=hid (fun W hB=>⟨(HCI.out.below hB).cells.1,by rw [← hP.fv];exact (blk (HCI.out.below hB).cc.row).1 1 _ rfl⟩);have FIN:Hid (∀ W W',Below w.heap.size w W→EmR B cb K (emitJ K.E t 12 (mm:Int) k sc.chain) iv sc b jv k W (.returned (.tuple #[])) W'→EmD B cb K (emitJ K.E t 12 (mm:Int) k sc.chain) iv sc b jv k w (.returned (.tuple #[])) W'):=hid (fun W W' hB h=>by
   obtain ⟨_,dd,iv',X',hC,hS⟩:=h.any;exact ⟨rfl,dd,iv',X',hC,hid ((Step.of_below hB).trans hS.out)⟩)
  obtain ⟨bb,hbb⟩:∃ bb,b.bb=bb:=⟨_,rfl⟩;rw [hbb] at HRP EM KB ⊢;clear hb hg hd1 hd2 hzl hu hci hW hP hBw h60 hlb hinl hsl hcl hgl hmm hml hmg hmn hpl htl hrp hbb hdm hR hf6
  go_enter Tryz.func230,Tryz.ntmps230
  go_wp2_with fail;refine HRP.out.mono ?_;rintro e w1 ⟨rfl,b1⟩;have HB1:=hid b1;clear b1;obtain ⟨p0,p1⟩:=KB.out _ HB1.out;go_wp2_with fail;refine (FR.out _ HB1.out).mono ?_;rintro e w2 ⟨rfl,b2⟩;have HB3:Hid (Below w.heap.size w w2):=hid (HB1.out.trans (b2.mono HB1.out.size));clear b2;go_wp2_with fail;refine (EM.out _ HB3.out).mono ?_;intro e w3 HE;have HE2:=hid HE;clear HE;have he:e=.returned (.tuple #[]):=HE2.out.1;subst he;go_wp2_with fail
  go_end0
  exact FIN.out _ _ HB3.out HE2.out
 ·rw [if_pos hrp] at h
  have RP:Hid (∀ W,Below w.heap.size w W→Calls Tryz.prog 233 #[.pointer (some ⟨b.bb,0,none⟩),.int .i64 (g:Int)] W (EmD B cb K R iv sc b jv k W)):=hid (fun W hB=>hR scs sc rest k g t R W iv X b jv h hrp (hb.below hci hB) hg hd1 hd2 hzl hu (hci.below hB) (hW.trans (hB.mono hW.size)));have FIN:Hid (∀ W W',Below w.heap.size w W→EmD B cb K R iv sc b jv k W (.returned (.tuple #[])) W'→EmD B cb K R iv sc b jv k w (.returned (.tuple #[])) W'):=hid (fun W W' hB h=>by
   obtain ⟨_,dd,iv',X',hC,hS⟩:=h;exact ⟨rfl,dd,iv',X',hC,hid ((Step.of_below hB).trans hS.out)⟩)
  obtain ⟨bb,hbb⟩:∃ bb,b.bb=bb:=⟨_,rfl⟩;rw [hbb] at HRP RP ⊢;clear hb hg hd1 hd2 hzl hu hci hW hP hBw h60 hlb hinl hsl hcl hgl hmm hml hmg hmn hpl htl hrp hbb hdm hR hf6 h
  go_enter Tryz.func230,Tryz.ntmps230
  go_wp2_with fail;refine HRP.out.mono ?_;rintro e w1 ⟨rfl,b1⟩;have HB1:=hid b1;clear b1;go_wp2_with (go_at_call 233;(with_reducible refine (RP.out _ HB1.out).mono ?_);intro e w2 HE;have HE2:=hid HE;clear HE;have he:e=.returned (.tuple #[]):=HE2.out.1;subst he)
  go_end0
  exact FIN.out _ _ HB1.out HE2.out
end Go.Proofs.YtcflojdkaddemaaGreatDoor
