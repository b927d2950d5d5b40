/- Parts of the proof. -/
import Derived.Test.YtcflojdkaddemaaGreatDoorI04
import Derived.Maps.OwnSet
import Derived.Deep.RegionHeld
import Derived.StillTail
import Derived.Laws.MakeOwn
import Derived.Laws.Slices
namespace Go.Proofs.YtcflojdkaddemaaGreatDoor
open Go.RowKit Go.Lib
def Ap (u v:Value):Prop:=∀ g,u.ownBlock=some g→v.ownBlock≠some g
def Off (v:Value) (M:List Value):Prop:=∀ u ∈ M,Ap v u
structure Step (rb:Nat) (M M':List Value) (w w':World):Prop where
 os:w'.os=w.os
 tape:w'.tape=w.tape
 output:w'.output=w.output
 size:w.heap.size≤w'.heap.size
 block:∀ k,k<w.heap.size→k≠rb→(∀ v ∈ M,v.ownBlock≠some k)→w'.heap[k]?=w.heap[k]?
 rows:∀ v ∈ M',∀ g,v.ownBlock=some g→(∃ u ∈ M,u.ownBlock=some g)∨w.heap.size≤g
theorem Step.refl (rb:Nat) (M:List Value) (w:World):Step rb M M w w:=⟨rfl,rfl,rfl,Nat.le_refl _,fun _ _ _ _=>rfl,fun v hv g hg=>.inl ⟨v,hv,hg⟩⟩
theorem Step.trans {rb:Nat} {A B C:List Value} {a b c:World} (h:Step rb A B a b) (k:Step rb B C b c):Step rb A C a c :=
 ⟨k.os.trans h.os,k.tape.trans h.tape,k.output.trans h.output,Nat.le_trans h.size k.size,fun i hi hr hm=>(k.block i (Nat.lt_of_lt_of_le hi h.size) hr (fun v hv e=>by
   rcases h.rows v hv i e with ⟨u,hu,e'⟩|h'
   ·exact hm u hu e'
   ·omega)).trans (h.block i hi hr hm),fun v hv g hg=>by
  rcases k.rows v hv g hg with ⟨u,hu,e⟩|h'
  ·exact h.rows u hu g e
  ·exact .inr (Nat.le_trans h.size h')⟩
theorem Step.of_below {rb:Nat} {M:List Value} {w w':World} (h:Below w.heap.size w w'):Step rb M M w w':=⟨h.os,h.tape,h.output,h.size,fun k hk _ _=>h.block k hk,fun v hv g hg=>.inl ⟨v,hv,hg⟩⟩
theorem Step.of_set {rb:Nat} {M M':List Value} {w:World} {j:Nat} {v:Value} (h:∀ v ∈ M',∀ g,v.ownBlock=some g→(∃ u ∈ M,u.ownBlock=some g)∨w.heap.size≤g):Step rb M M' w (w.setCell ⟨rb,j,none⟩ v) :=
 ⟨rfl,rfl,rfl,by simp [World.setCell],fun k _ hk _=>set_other hk,h⟩
theorem Step.of_grown {rb:Nat} {M:List Value} {w w':World} {u:Value} (hg:w.grownBy w' u.ownBlock) (hu:u ∈ M):Step rb M M w w' :=
 ⟨hg.os,hg.tape,hg.output,hg.size,fun k hk _ hm=>hg.block k hk (fun e=>hm u hu e.symm),fun v hv g hg=>.inl ⟨v,hv,hg⟩⟩
theorem Step.row {rb:Nat} {M M':List Value} {w w':World} {B T n s:Nat} {v:Value} {xs:List Value} (h:Step rb M M' w w') (hr:w.ownsRow B T s v n xs) (hne:v.ownBlock≠some rb) (ho:Off v M):w'.ownsRow B T s v n xs:=by
 refine ⟨hr.1,?_⟩
 rcases hr.2 with h0|⟨g,cap,cur,rfl,hB,hh,r⟩
 ·exact .inl h0
 ·refine .inr ⟨g,cap,cur,rfl,hB,?_,r⟩
  rw [h.block g (blk hh).2.2 (fun e=>hne (by rw [e];rfl)) (fun u hu=>ho u hu g rfl)];exact hh
theorem Step.base {rb B:Nat} {M M':List Value} {w w':World} (h:Step rb M M' w w') (hB:B≤w.heap.size) (hrb:B≤rb) (hm:∀ v ∈ M,∀ g,v.ownBlock=some g→B≤g):Below B w w' :=
 ⟨h.os,h.tape,h.output,h.size,fun k hk=>h.block k (by omega) (by omega) (fun v hv e=>by have:=hm v hv k e;omega)⟩
theorem owns_blks {B T n s:Nat} {w w':World} {v:Value} {xs:List Value} (h:w.ownsRow B T s v n xs) (hb:∀ g,v.ownBlock=some g→w'.heap[g]?=w.heap[g]?):w'.ownsRow B T s v n xs:=by
 refine ⟨h.1,?_⟩
 rcases h.2 with h|⟨g,cap,cur,rfl,hB,hh,r⟩
 ·exact .inl h
 ·exact .inr ⟨g,cap,cur,rfl,hB,(hb g rfl).trans hh,r⟩
theorem ap_types {w:World} {B B' T T' n n' s s':Nat} {u v:Value} {xs ys:List Value} (hu:w.ownsRow B T s u n xs) (hv:w.ownsRow B' T' s' v n' ys) (hT:T≠T'):Ap u v:=fun g h h'=>by
 rcases hu.2 with ⟨rfl,_⟩|⟨g1,c1,r1,rfl,_,e1,_⟩
 ·cases h
 rcases hv.2 with ⟨rfl,_⟩|⟨g2,c2,r2,rfl,_,e2,_⟩
 ·cases h'
 simp only [Value.ownBlock,Option.some.injEq] at h h';subst h h';rw [e1] at e2;injection e2 with e2
 injection e2 with _ e3
 exact hT e3
theorem ne_types {w:World} {B T T' n s g:Nat} {v:Value} {xs:List Value} {cs:Array Value} {fr:Nat×Nat} (hv:w.ownsRow B T s v n xs) (hg:w.heap[g]?=some (.cells cs T' fr)) (hT:T≠T'):v.ownBlock≠some g:=fun h=>by
 rcases hv.2 with ⟨rfl,_⟩|⟨g1,c1,r1,rfl,_,e1,_⟩
 ·cases h
 simp only [Value.ownBlock,Option.some.injEq] at h;subst h;rw [hg] at e1;injection e1 with e1
 injection e1 with _ e3
 exact hT e3.symm
structure RunR (TI TII B:Nat) (w:World) (s:RunS) (ov vv:Value) (X:List IvL):Prop where
 out:w.ownsRow B TI 1 ov s.out.length (intV s.out)
 vis:w.ownsRow B TII 1 vv X.length (ivV X)
 xs:ivX X=s.vis
 made:MadeI TI B w X
 apart:∀ x ∈ X,Ap x.v ov
end Go.Proofs.YtcflojdkaddemaaGreatDoor

namespace Go.Proofs.YtcflojdkaddemaaGreatDoor
open Go.RowKit Go.Lib
def natI (l:List Nat):List Int:=l.map fun (n:Nat)=>(n:Int)
theorem natI_length (l:List Nat):(natI l).length=l.length:=by simp [natI]
structure ItW where
 it:ItL
 v:Value
def itC (x:ItW):List Value:=[.int .i64 x.it.code,.int .i64 x.it.arg,.int .i64 (x.it.line:Int),.bool x.it.start,x.v,.int .i64 x.it.depth,.bool x.it.ent]
def itV (X:List ItW):List Value:=X.flatMap itC
theorem itV_append (X Y:List ItW):itV (X++Y)=itV X++itV Y:=by unfold itV;rw [List.flatMap_append]
theorem itV_length (X:List ItW):(itV X).length=X.length*7:=by
 induction X with
 | nil=>rfl
 | cons x r ih=>unfold itV at ih ⊢;rw [List.flatMap_cons,List.length_append,ih,List.length_cons];simp [itC];omega
def chL (X:List ItW):List IvL:=X.map fun x=>⟨natI x.it.chain,x.v⟩
structure ScW where
 sc:ScL
 lv:List Nat
 chv:Value
 lcv:Value
 lvv:Value
def scC (y:ScW):List Value:=[.int .i64 (y.sc.f:Int),y.chv,y.lcv,.int .i64 (y.sc.first:Int),.bool y.sc.outer,y.lvv]
def scV (Y:List ScW):List Value:=Y.flatMap scC
structure MkE where
 pv:Value
 b0:Int
 b1:Int
 b2:Bool
 b3:Bool
 E:CmpE
def mrow (Z:MkE) (s:CmpS) (iv sv:Value):Array Value :=
 #[Z.pv,.int .i64 Z.b0,.int .i64 Z.b1,.bool Z.b2,.bool Z.b3,.bool Z.E.framed,.int .i64 Z.E.words,.int .i64 (s.most:Int),.int .i64 (Z.E.args:Int),.int .i64 s.depth,iv,sv,.bool s.start]
structure CT where
 m:TypeId
 x:TypeId
 s:TypeId
 i:TypeId
 t:TypeId
structure CAt (T:CT) (B rb:Nat) (w:World) (Z:MkE) (s:CmpS) (scs:List ScL) (LO:List (List Nat)) (iv sv:Value) (X:List ItW) (Y:List ScW):Prop where
 row:w.heap[rb]?=some (.cells (mrow Z s iv sv) T.m (0,0))
 its:w.ownsRow B T.x 7 iv X.length (itV X)
 items:X.map (·.it)=s.items
 chn:MadeI T.i B w (chL X)
 scr:w.ownsRow B T.s 6 sv Y.length (scV Y)
 scps:Y.map (·.sc)=scs.reverse
 ych:∀ y ∈ Y,w.ownsRow B T.i 1 y.chv y.sc.chain.length (intV (natI y.sc.chain))
 ylc:∀ y ∈ Y,w.ownsRow B T.t 1 y.lcv y.sc.locs.length (strV y.sc.locs)
 ylv:∀ y ∈ Y,w.ownsRow B T.i 1 y.lvv y.lv.length (intV (natI y.lv))
 lvs:(Y.map (·.lv)).reverse=s.leaves :: LO
 apx:∀ x ∈ X,∀ y ∈ Y,Ap x.v y.lvv
 apy:∀ y ∈ Y,∀ y' ∈ Y,Ap y.chv y'.lvv
 apl:Y.Pairwise fun y y'=>Ap y.lvv y'.lvv
 lo:B≤rb
section
variable {T:CT} {B rb:Nat} {w w':World} {Z:MkE} {s:CmpS} {scs:List ScL} {LO:List (List Nat)} {iv sv:Value} {X:List ItW} {Y:List ScW}
theorem mem_chL {X:List ItW} {z:IvL}:z ∈ chL X↔∃ x ∈ X,(⟨natI x.it.chain,x.v⟩:IvL)=z:=by unfold chL;rw [List.mem_map]
end
end Go.Proofs.YtcflojdkaddemaaGreatDoor

namespace Go.Proofs.YtcflojdkaddemaaGreatDoor
open Go.RowKit Go.Lib Go.Maps
structure JT where
  c:TypeId
  b:TypeId
  x:TypeId
  j:TypeId
  i:TypeId
  t:TypeId
def JT.ok (T:JT):Prop:=T.c≠T.b∧T.x≠T.c∧T.x≠T.b∧T.j≠T.c∧T.j≠T.b∧T.i≠T.c∧T.i≠T.b∧T.x≠T.j∧T.x≠T.i∧T.i≠T.j
def juC (e:Nat×Nat):List Value:=[.int .i64 (e.1:Int),.int .i64 (e.2:Int)]
def juV (l:List (Nat×Nat)):List Value:=l.flatMap juC
theorem juV_append (X Y:List (Nat×Nat)):juV (X++Y)=juV X++juV Y:=by unfold juV;rw [List.flatMap_append]
theorem juV_at (X:List (Nat×Nat)) (i:Nat) (h:i<X.length):(juV X)[i*2]?=some (.int .i64 (X[i].1:Int))∧(juV X)[i*2+1]?=some (.int .i64 (X[i].2:Int)):=by
  unfold juV
  induction X generalizing i with
  | nil=>cases h
  | cons x r ih =>
    cases i with
    | zero=>exact ⟨rfl,rfl⟩
    | succ i =>
      have e1:∀ q,(juC x++r.flatMap juC)[(i+1)*2+q]?=(r.flatMap juC)[i*2+q]?:=fun q=>by
        rw [List.getElem?_append_right (by simp [juC];omega)]
        congr 1
        simp [juC];omega
      rw [List.flatMap_cons,List.getElem_cons_succ];exact ⟨(e1 0).trans (ih i (by simpa using h)).1,(e1 1).trans (ih i (by simpa using h)).2⟩
def ptrV:Option Nat→Value
  | none=>.pointer none
  | some a=>.pointer (some ⟨a,0,none⟩)
structure KcE where
  pv:Value
  fv:Value
  E:CmpE
def crow (K:KcE) (t:CiS) (iv:Value):Array Value :=
  #[K.pv,K.fv,.int .i64 (K.E.inl:Int),.bool K.E.framed,.int .i64 (K.E.args:Int),.int .i64 K.E.words,.int .i64 (t.used:Int),.int .i64 t.depth,iv]
structure BdW where
  bb:Nat
  ab:Option Nat
  chv:Value
  mb:Nat
  fb:Nat
def freeN (E:CmpE) (sc:ScL):Nat:=if sc.outer=true then sc.locs.length - E.args else sc.first+sc.locs.length
def brow (cb:Nat) (E:CmpE) (sc:ScL) (b:BdW) (jv:Value) (line:Nat) (pend:Bool):Array Value :=
  #[.pointer (some ⟨cb,0,none⟩),ptrV b.ab,.int .i64 (sc.f:Int),b.chv,.map (some b.mb),.int .i64 (freeN E sc:Int),.int .i64 (line:Int),.bool pend,.map (some b.fb),jv]
def slotZ (E:CmpE) (sc:ScL) (i:Nat):Int :=
  if sc.outer=true∧i<E.args then ((E.args - i:Nat):Int)
  else -(((if sc.outer=true then i - E.args else sc.first+i)+1:Nat):Int)
theorem place_slot (E:CmpE) (d:Int) (sc:ScL) (i:Nat):placeZ E d sc i=if E.framed=true then (1,if 0<slotZ E sc i then slotZ E sc i+1 else slotZ E sc i) else (3,d+slotZ E sc i):=by
  unfold placeZ slotZ
  by_cases h:sc.outer=true∧i<E.args
  · rw [if_pos h,if_pos h]
    by_cases hf:E.framed=true
    · rw [if_pos hf,if_pos hf,if_pos (by omega)]
      exact Prod.ext rfl (by omega)
    · rw [if_neg hf,if_neg hf]
  · rw [if_neg h,if_neg h]
    dsimp only;generalize (if sc.outer=true then i - E.args else sc.first+i)=m
    by_cases hf:E.framed=true
    · rw [if_pos hf,if_pos hf,if_neg (by omega)]
      exact Prod.ext rfl (by show -1 - (m:Int)=-((m+1:Nat):Int);omega)
    · rw [if_neg hf,if_neg hf]
      exact Prod.ext rfl (by show d - 1 - (m:Int)=d+-((m+1:Nat):Int);omega)
def kN (n:ByteArray):Lit:=.string n.data.toList
abbrev zI:DataW Unit:=.lit (.int .i64 0)
def SlotOk (E:CmpE) (sc:ScL) (D:DataW Unit):Prop:=∀ n ∈ sc.locs,D.atKey (kN n) zI=.lit (.int .i64 (slotZ E sc (varIx sc.locs n)))
def FirOk (f:Nat) (l:List Nat) (D:DataW Unit):Prop:=∀ q,f<q→q - (f+1)<l.length→D.atKey (.int .i64 (q:Int)) zI=.lit (.int .i64 (firstJ f l q))
section
variable (T:JT) (P:Program) (B cb:Nat) (w:World)
structure CcAt (K:KcE) (t:CiS) (iv:Value) (X:List ItW):Prop where
  row:w.heap[cb]?=some (.cells (crow K t iv) T.c (0,0))
  its:w.ownsRow B T.x 7 iv X.length (itV X)
  items:X.map (·.it)=t.items
  chn:MadeI T.i B w (chL X)
  lo:B≤cb
structure BdAt (E:CmpE) (sc:ScL) (b:BdW) (jv:Value) (jl:List (Nat×Nat)) (fl:List Nat) (line:Nat) (pend:Bool):Prop where
  row:w.heap[b.bb]?=some (.cells (brow cb E sc b jv line pend) T.b (0,0))
  ch:w.ownsRow B T.i 1 b.chv sc.chain.length (intV (natI sc.chain))
  slots:∃ n D,w.ownsMap P T.t (plainElem P T.i) b.mb n D∧SlotOk E sc D∧n≤1048576
  firsts:∃ D,w.ownsMap P T.i (plainElem P T.i) b.fb fl.length D∧FirOk sc.f fl D
  jr:w.ownsRow B T.j 2 jv jl.length (juV jl)
  lo:B≤cb
  lt:cb<b.bb
  lm:cb<b.mb
  lf:cb<b.fb
  mf:b.mb≠b.fb
end
structure CiAt (T:JT) (P:Program) (B cb:Nat) (w:World) (K:KcE) (t:CiS) (iv:Value) (X:List ItW) (sc:ScL) (b:BdW) (jv:Value) (line:Nat):Prop where
  cc:CcAt T B cb w K t iv X
  bd:BdAt T P B cb w K.E sc b jv t.jumps t.firsts line t.pend
def psV (g:Nat):Value:=.slice (some ⟨g,0,none⟩) 0 0
def ME (iv:Value) (bb:Nat):List Value:=[iv,psV bb]
def ML (iv jv:Value) (b:BdW):List Value:=[iv,psV b.bb,jv,psV b.fb]
theorem map_keep {H:Type} {P:Program} {k:TypeId} {R:Value→Option (DataW H×List MemPlace)} {b n:Nat} {D:DataW H} {w w':World} (h:w.ownsMap P k R b n D) (hb:w'.heap[b]?=w.heap[b]?):w'.ownsMap P k R b n D:=by
  obtain ⟨es,clock,h1,h2⟩:=h;exact ⟨es,clock,hb.trans h1,h2⟩
theorem map_not {H:Type} {P:Program} {k:TypeId} {R:Value→Option (DataW H×List MemPlace)} {b n g:Nat} {D:DataW H} {w:World} (h:w.ownsMap P k R b n D) {cs:Array Value} {t:TypeId} {fr:Nat×Nat} (hg:w.heap[g]?=some (.cells cs t fr)):b≠g:=fun e=>by
  obtain ⟨es,clock,h1,_⟩:=h;rw [e,hg] at h1
  cases h1
theorem map_row {H:Type} {P:Program} {k:TypeId} {R:Value→Option (DataW H×List MemPlace)} {b m:Nat} {D:DataW H} {w:World} (h:w.ownsMap P k R b m D) {B T n s:Nat} {v:Value} {xs:List Value} (hv:w.ownsRow B T s v n xs):v.ownBlock≠some b:=fun e=>by
  obtain ⟨es,clock,h1,_⟩:=h
  rcases hv.2 with ⟨rfl,_⟩|⟨g,cap,cur,rfl,_,hh,_⟩
  · cases e
  · rw [show g=b from Option.some.inj e,h1] at hh
    cases hh
section
variable {T:JT} {P:Program} {B cb:Nat} {w w':World} {K:KcE} {E:CmpE} {t:CiS} {iv jv:Value} {X:List ItW} {sc:ScL} {b:BdW} {jl:List (Nat×Nat)} {fl:List Nat} {line:Nat} {pend:Bool}
theorem CcAt.lt (h:CcAt T B cb w K t iv X):cb<w.heap.size:=(blk h.row).2.2
theorem BdAt.blt (h:BdAt T P B cb w E sc b jv jl fl line pend):b.bb<w.heap.size:=(blk h.row).2.2
theorem CcAt.chx (h:CcAt T B cb w K t iv X) {x:ItW} (hx:x ∈ X):w.ownsRow B T.i 1 x.v (natI x.it.chain).length (intV (natI x.it.chain)):=h.chn.1 ⟨natI x.it.chain,x.v⟩ (mem_chL.2 ⟨x,hx,rfl⟩)
theorem CcAt.same (h:CcAt T B cb w K t iv X) (hc:w'.heap[cb]?=w.heap[cb]?) (hi:∀ g,iv.ownBlock=some g→w'.heap[g]?=w.heap[g]?) (hx:∀ x ∈ X,∀ g,x.v.ownBlock=some g→w'.heap[g]?=w.heap[g]?):CcAt T B cb w' K t iv X :=
  ⟨hc.trans h.row,owns_blks h.its hi,h.items,⟨fun z hz=>by obtain ⟨x,hx',rfl⟩:=mem_chL.1 hz;exact owns_blks (h.chn.1 _ hz) (hx x hx'),h.chn.2⟩,h.lo⟩
theorem CcAt.below (h:CcAt T B cb w K t iv X) (hb:Below w.heap.size w w'):CcAt T B cb w' K t iv X :=
  h.same (hb.block cb h.lt) (fun g hg=>hb.block g (h.its.lt g hg).2) (fun _ hx g hg=>hb.block g ((h.chx hx).lt g hg).2)
theorem BdAt.keep (h:BdAt T P B cb w E sc b jv jl fl line pend) (hb:w'.heap[b.bb]?=w.heap[b.bb]?) (hm:w'.heap[b.mb]?=w.heap[b.mb]?) (hf:w'.heap[b.fb]?=w.heap[b.fb]?) (hc:∀ g,b.chv.ownBlock=some g→w'.heap[g]?=w.heap[g]?) (hj:∀ g,jv.ownBlock=some g→w'.heap[g]?=w.heap[g]?) :
    BdAt T P B cb w' E sc b jv jl fl line pend:=by
  obtain ⟨n,D,h1,h2,h3⟩:=h.slots;obtain ⟨D',h4,h5⟩:=h.firsts;exact ⟨hb.trans h.row,owns_blks h.ch hc,⟨n,D,map_keep h1 hm,h2,h3⟩,⟨D',map_keep h4 hf,h5⟩,owns_blks h.jr hj,h.lo,h.lt,h.lm,h.lf,h.mf⟩
theorem BdAt.mlt (h:BdAt T P B cb w E sc b jv jl fl line pend):b.mb<w.heap.size:=by
  obtain ⟨n,D,h1,_⟩:=h.slots;exact h1.lt
theorem BdAt.flt (h:BdAt T P B cb w E sc b jv jl fl line pend):b.fb<w.heap.size:=by
  obtain ⟨D,h1,_⟩:=h.firsts;exact h1.lt
theorem BdAt.below (h:BdAt T P B cb w E sc b jv jl fl line pend) (hb:Below w.heap.size w w'):BdAt T P B cb w' E sc b jv jl fl line pend :=
  h.keep (hb.block _ h.blt) (hb.block _ h.mlt) (hb.block _ h.flt) (fun g hg=>hb.block g (h.ch.lt g hg).2) (fun g hg=>hb.block g (h.jr.lt g hg).2)
theorem CiAt.below (h:CiAt T P B cb w K t iv X sc b jv line) (hb:Below w.heap.size w w'):CiAt T P B cb w' K t iv X sc b jv line:=⟨h.cc.below hb,h.bd.below hb⟩
structure Sep (T:JT) (cb:Nat) (iv jv:Value) (X:List ItW) (b:BdW):Prop where
  ic:iv.ownBlock≠some cb
  ib:iv.ownBlock≠some b.bb
  im:iv.ownBlock≠some b.mb
  fi:iv.ownBlock≠some b.fb
  ij:Ap iv jv
  ih:Ap iv b.chv
  ix:∀ x ∈ X,Ap iv x.v
  jc:jv.ownBlock≠some cb
  jb:jv.ownBlock≠some b.bb
  jm:jv.ownBlock≠some b.mb
  jf:jv.ownBlock≠some b.fb
  jh:Ap jv b.chv
  jx:∀ x ∈ X,Ap jv x.v
  hc:b.chv.ownBlock≠some cb
  hb:b.chv.ownBlock≠some b.bb
  hm:b.chv.ownBlock≠some b.mb
  hf:b.chv.ownBlock≠some b.fb
  xc:∀ x ∈ X,x.v.ownBlock≠some cb
  xb:∀ x ∈ X,x.v.ownBlock≠some b.bb
  xf:∀ x ∈ X,x.v.ownBlock≠some b.fb
  bc:b.bb≠cb
  mc:b.mb≠cb
  fc:b.fb≠cb
  mb:b.mb≠b.bb
  fb:b.fb≠b.bb
theorem CiAt.sep (h:CiAt T P B cb w K t iv X sc b jv line) (hT:T.ok):Sep T cb iv jv X b:=by
  obtain ⟨t1,t2,t3,t4,t5,t6,t7,t8,t9,t10⟩:=hT;obtain ⟨n,D,m1,_⟩:=h.bd.slots;obtain ⟨D',f1,_⟩:=h.bd.firsts
  exact { ic := ne_types h.cc.its h.cc.row t2, ib := ne_types h.cc.its h.bd.row t3, im := map_row m1 h.cc.its, fi := map_row f1 h.cc.its, ij := ap_types h.cc.its h.bd.jr t8, ih := ap_types h.cc.its h.bd.ch t9, ix := fun x hx => ap_types h.cc.its (h.cc.chx hx) t9
          jc:=ne_types h.bd.jr h.cc.row t4,jb:=ne_types h.bd.jr h.bd.row t5,jm:=map_row m1 h.bd.jr,jf:=map_row f1 h.bd.jr,jh:=ap_types h.bd.jr h.bd.ch t10.symm,jx:=fun x hx=>ap_types h.bd.jr (h.cc.chx hx) t10.symm
          hc:=ne_types h.bd.ch h.cc.row t6,hb:=ne_types h.bd.ch h.bd.row t7,hm:=map_row m1 h.bd.ch,hf:=map_row f1 h.bd.ch,xc:=fun x hx=>ne_types (h.cc.chx hx) h.cc.row t6,xb:=fun x hx=>ne_types (h.cc.chx hx) h.bd.row t7,xf:=fun x hx=>map_row f1 (h.cc.chx hx)
          bc:=by have:=h.bd.lt;omega,mc:=map_not m1 h.cc.row,fc:=map_not f1 h.cc.row,mb:=map_not m1 h.bd.row,fb:=map_not f1 h.bd.row }
theorem CiAt.cellC (h:CiAt T P B cb w K t iv X sc b jv line) (hT:T.ok) (j:Nat) (u:Value) {t':CiS} (he:(crow K t iv).setIfInBounds j u=crow K t' iv) (hi:t'.items=t.items) (hj:t'.jumps=t.jumps) (hf:t'.firsts=t.firsts) (hp:t'.pend=t.pend) :
    CiAt T P B cb (w.setCell ⟨cb,j,none⟩ u) K t' iv X sc b jv line:=by
  have s:=h.sep hT;have other:∀ {g:Nat},g≠cb→(w.setCell ⟨cb,j,none⟩ u).heap[g]?=w.heap[g]?:=fun hg=>set_other hg
  refine ⟨⟨by rw [← he];exact heap_setCell_at h.cc.row _,owns_blks h.cc.its fun g hg=>other fun e=>s.ic (by rw [hg,e]),h.cc.items.trans hi.symm,⟨fun z hz=>by obtain ⟨x,hx',rfl⟩:=mem_chL.1 hz;exact owns_blks (h.cc.chn.1 _ hz) fun g hg=>other fun e=>s.xc x hx' (by rw [hg,e]),h.cc.chn.2⟩,h.cc.lo⟩,?_⟩;rw [hj,hf,hp];exact h.bd.keep (other s.bc) (other s.mc) (other s.fc) (fun g hg=>other fun e=>s.hc (by rw [hg,e])) (fun g hg=>other fun e=>s.jc (by rw [hg,e]))
theorem cellC_step {M:List Value} (w:World) (j:Nat) (u:Value):Step cb M M w (w.setCell ⟨cb,j,none⟩ u):=Step.of_set (fun v hv g hg=>.inl ⟨v,hv,hg⟩)
theorem CiAt.cellB (h:CiAt T P B cb w K t iv X sc b jv line) (hT:T.ok) (j:Nat) (u:Value) {t':CiS} {line':Nat} (he:(brow cb K.E sc b jv line t.pend).setIfInBounds j u=brow cb K.E sc b jv line' t'.pend) (hi:t'.items=t.items) (hu:t'.used=t.used) (hd:t'.depth=t.depth) (hj:t'.jumps=t.jumps) (hf:t'.firsts=t.firsts) :
    CiAt T P B cb (w.setCell ⟨b.bb,j,none⟩ u) K t' iv X sc b jv line':=by
  have s:=h.sep hT;have other:∀ {g:Nat},g≠b.bb→(w.setCell ⟨b.bb,j,none⟩ u).heap[g]?=w.heap[g]?:=fun hg=>set_other hg
  obtain ⟨n,D,m1,m2⟩:=h.bd.slots;obtain ⟨D',f1,f2⟩:=h.bd.firsts;refine ⟨⟨?_,owns_blks h.cc.its fun g hg=>other fun e=>s.ib (by rw [hg,e]),h.cc.items.trans hi.symm,⟨fun z hz=>by obtain ⟨x,hx',rfl⟩:=mem_chL.1 hz;exact owns_blks (h.cc.chn.1 _ hz) fun g hg=>other fun e=>s.xb x hx' (by rw [hg,e]),h.cc.chn.2⟩,h.cc.lo⟩,?_⟩
  · rw [other s.bc.symm,h.cc.row]
    unfold crow;rw [hu,hd]
  · rw [hj,hf]
    exact ⟨by rw [← he];exact heap_setCell_at h.bd.row _,owns_blks h.bd.ch fun g hg=>other fun e=>s.hb (by rw [hg,e]),⟨n,D,map_keep m1 (other s.mb),m2⟩,⟨D',map_keep f1 (other s.fb),f2⟩,owns_blks h.bd.jr fun g hg=>other fun e=>s.jb (by rw [hg,e]),h.bd.lo,h.bd.lt,h.bd.lm,h.bd.lf,h.bd.mf⟩
theorem cellB_step {M:List Value} (w:World) {bb:Nat} (hm:psV bb ∈ M) (j:Nat) (u:Value):Step cb M M w (w.setCell ⟨bb,j,none⟩ u) :=
  ⟨rfl,rfl,rfl,by simp [World.setCell],fun k _ _ hk=>set_other (fun e=>hk _ hm (by rw [e];rfl)),fun v hv g hg=>.inl ⟨v,hv,hg⟩⟩
theorem mem_ME {iv:Value} {bb:Nat}:psV bb ∈ ME iv bb:=by unfold ME;simp
theorem mem_ML {iv jv:Value} {b:BdW}:psV b.bb ∈ ML iv jv b:=by unfold ML;simp
theorem Step.lines {iv iv':Value} (h:Step cb (ME iv b.bb) (ME iv' b.bb) w w'):Step cb (ML iv jv b) (ML iv' jv b) w w':=by
  refine ⟨h.os,h.tape,h.output,h.size,fun k hk hr hm=>h.block k hk hr (fun v hv=>hm v ?_),fun v hv g hg=>?_⟩
  · unfold ME at hv
    unfold ML;simp only [List.mem_cons,List.not_mem_nil,or_false] at hv ⊢
    rcases hv with rfl|rfl
    · exact .inl rfl
    · exact .inr (.inl rfl)
  · unfold ML at hv ⊢
    simp only [List.mem_cons,List.not_mem_nil,or_false] at hv
    rcases hv with rfl|rfl|rfl|rfl
    · rcases h.rows _ (List.mem_cons_self ..) g hg with ⟨u,hu,e⟩|e
      · unfold ME at hu
        simp only [List.mem_cons,List.not_mem_nil,or_false] at hu
        rcases hu with rfl|rfl
        · exact .inl ⟨_,List.mem_cons_self ..,e⟩
        · exact .inl ⟨psV b.bb,by simp,e⟩
      · exact .inr e
    · exact .inl ⟨psV b.bb,by simp,hg⟩
    · exact .inl ⟨v,by simp,hg⟩
    · exact .inl ⟨psV b.fb,by simp,hg⟩
theorem CiAt.emitted {w1 w3:World} {iv' cv:Value} {code arg:Int} (h:CiAt T P B cb w K t iv X sc b jv line) (hT:T.ok) (hb:Below w.heap.size w w1) (hx:w1.ownsRow w.heap.size T.i 1 cv sc.chain.length (intV (natI sc.chain)))
    (hg:w1.grownBy w3 iv.ownBlock) (d:Int) (e:Bool) (hd:d=if K.E.framed&&decide (code≠13) then 0 else t.depth) (he:e=(K.E.framed&&decide (code≠13)))
    (hi:w3.ownsRow B T.x 7 iv' (X.length+1) (itV (X++[⟨⟨code,arg,line,t.pend,sc.chain,d,e⟩,cv⟩]))) (hat:∀ g,iv'.ownBlock=some g→iv.ownBlock=some g∨w.heap.size≤g) :
    CiAt T P B cb ((w3.setCell ⟨cb,8,none⟩ iv').setCell ⟨b.bb,7,none⟩ (.bool false)) K (emitJ K.E t code arg line sc.chain) iv' (X++[⟨⟨code,arg,line,t.pend,sc.chain,d,e⟩,cv⟩]) sc b jv line∧Step cb (ME iv b.bb) (ME iv' b.bb) w ((w3.setCell ⟨cb,8,none⟩ iv').setCell ⟨b.bb,7,none⟩ (.bool false)):=by
  have h1:=h.below hb;have s:=h1.sep hT;have hlt:=h.cc.lt;have hnew:∀ g,cv.ownBlock=some g→w.heap.size≤g:=fun g hg=>(hx.lt g hg).1
  have hB:B≤w.heap.size:=Nat.le_of_lt (Nat.lt_of_le_of_lt h.cc.lo hlt);have hgb:∀ {g:Nat},g<w1.heap.size→iv.ownBlock≠some g→w3.heap[g]?=w1.heap[g]?:=fun hl hn=>hg.block _ hl (fun e=>hn e.symm)
  have hcb3:w3.heap[cb]?=some (.cells (crow K t iv) T.c (0,0)):=(hgb h1.cc.lt s.ic).trans h1.cc.row;have hbb3:w3.heap[b.bb]?=some (.cells (brow cb K.E sc b jv line t.pend) T.b (0,0)):=(hgb h1.bd.blt s.ib).trans h1.bd.row;have fx:∀ x ∈ X,∀ g,x.v.ownBlock=some g→iv.ownBlock≠some g:=fun x hx' g e e'=>s.ix x hx' g e' e
  have hT':=hT;obtain ⟨t1,t2,t3,t4,t5,t6,t7,t8,t9,t10⟩:=hT';have fcv:∀ g,cv.ownBlock=some g→iv.ownBlock≠some g:=fun g e e'=>ap_types h1.cc.its hx t9 g e' e
  have hx3:=far hx hg fcv;have hl1:(natI sc.chain).length=sc.chain.length:=natI_length sc.chain;have hmk:=h1.cc.chn.kept hg (fun z hz g e e'=>by
      obtain ⟨x,hx',rfl⟩:=mem_chL.1 hz;exact fx x hx' g e e')
  have e1:chL (X++[⟨⟨code,arg,line,t.pend,sc.chain,d,e⟩,cv⟩])=chL X++[⟨natI sc.chain,cv⟩]:=by unfold chL;rw [List.map_append];rfl
  have hcvc:cv.ownBlock≠some cb:=fun e=>by have:=hnew cb e;omega
  have hcc:CcAt T B cb (w3.setCell ⟨cb,8,none⟩ iv') K { emitJ K.E t code arg line sc.chain with pend:=t.pend } iv' (X++[⟨⟨code,arg,line,t.pend,sc.chain,d,e⟩,cv⟩]):=by
    have other:∀ {v:Value},v.ownBlock≠some cb→∀ g,v.ownBlock=some g→(w3.setCell ⟨cb,8,none⟩ iv').heap[g]?=w3.heap[g]?:=fun hv g hg=>set_other (fun e=>hv (by rw [hg,e]))
    refine ⟨heap_setCell_at hcb3 _,?_,?_,?_,h.cc.lo⟩
    · rw [List.length_append,List.length_singleton]
      exact owns_blks hi (other (ne_types hi hcb3 t2))
    · rw [List.map_append,h.cc.items]
      unfold emitJ;rw [hd,he];rfl
    · rw [e1]
      refine ⟨fun z hz=>?_,List.pairwise_append.2 ⟨hmk.2,List.pairwise_singleton _ _,fun z hz z' hz' g k' e e'=>?_⟩⟩
      · rcases List.mem_append.1 hz with hz|hz
        · obtain ⟨x,hx',rfl⟩:=mem_chL.1 hz
          exact owns_blks (hmk.1 _ hz) (other (s.xc x hx'))
        · obtain rfl:z=⟨natI sc.chain,cv⟩:=by simpa using hz
          show (w3.setCell _ _).ownsRow B T.i 1 cv (natI sc.chain).length _
          rw [hl1];exact owns_blks (owns_lo hx3 hB) (other hcvc)
      · obtain rfl:z'=⟨natI sc.chain,cv⟩:=by simpa using hz'
        have:=(h.cc.chn.lt z hz g e).2
        have:=hnew k' e'
        omega
  have hbd:BdAt T P B cb (w3.setCell ⟨cb,8,none⟩ iv') K.E sc b jv t.jumps t.firsts line t.pend:=by
    have k1:∀ {g:Nat},g<w1.heap.size→g≠cb→iv.ownBlock≠some g→(w3.setCell ⟨cb,8,none⟩ iv').heap[g]?=w1.heap[g]?:=fun hl hc hn=>(set_other hc).trans (hgb hl hn)
    exact h1.bd.keep (k1 h1.bd.blt s.bc s.ib) (k1 h1.bd.mlt s.mc s.im) (k1 h1.bd.flt s.fc s.fi) (fun g hg=>k1 (h1.bd.ch.lt g hg).2 (fun e=>s.hc (by rw [hg,e])) (fun e=>s.ih g e hg)) (fun g hg=>k1 (h1.bd.jr.lt g hg).2 (fun e=>s.jc (by rw [hg,e])) (fun e=>s.ij g e hg))
  have hci:CiAt T P B cb (w3.setCell ⟨cb,8,none⟩ iv') K { emitJ K.E t code arg line sc.chain with pend:=t.pend } iv' (X++[⟨⟨code,arg,line,t.pend,sc.chain,d,e⟩,cv⟩]) sc b jv line:=⟨hcc,hbd⟩;refine ⟨hci.cellB hT 7 (.bool false) rfl rfl rfl rfl rfl rfl,?_⟩;have st:Step cb (ME iv b.bb) (ME iv b.bb) w w3:=(Step.of_below hb).trans (Step.of_grown hg (by unfold ME;exact List.mem_cons_self ..));have st2:Step cb (ME iv b.bb) (ME iv' b.bb) w (w3.setCell ⟨cb,8,none⟩ iv'):=⟨st.os,st.tape,st.output,by simpa [World.setCell] using st.size,fun k hk hr hm=>(set_other hr).trans (st.block k hk hr hm),fun v hv g hg'=>by
    unfold ME at hv ⊢;simp only [List.mem_cons,List.not_mem_nil,or_false] at hv
    rcases hv with rfl|rfl
    · rcases hat g hg' with e|e
      · exact .inl ⟨iv,List.mem_cons_self ..,e⟩
      · exact .inr e
    · exact .inl ⟨_,List.mem_cons_of_mem _ (List.mem_cons_self ..),hg'⟩⟩
  exact st2.trans (cellB_step _ mem_ME 7 _)
theorem CiAt.jumped {w3:World} {jv':Value} (h:CiAt T P B cb w K t iv X sc b jv line) (hT:T.ok) (m l:Nat) (hg:w.grownBy w3 jv.ownBlock) (hi:w3.ownsRow B T.j 2 jv' (t.jumps.length+1) (juV (t.jumps++[(m,l)]))) (hat:∀ g,jv'.ownBlock=some g→jv.ownBlock=some g∨w.heap.size≤g) :
    CiAt T P B cb (w3.setCell ⟨b.bb,9,none⟩ jv') K { t with jumps:=t.jumps++[(m,l)] } iv X sc b jv' line∧Step cb (ML iv jv b) (ML iv jv' b) w (w3.setCell ⟨b.bb,9,none⟩ jv'):=by
  have s:=h.sep hT;have k1:∀ {g:Nat},g<w.heap.size→g≠b.bb→jv.ownBlock≠some g→(w3.setCell ⟨b.bb,9,none⟩ jv').heap[g]?=w.heap[g]?:=fun hl hc hn=>(set_other hc).trans (hg.block _ hl (fun e=>hn e.symm))
  have hbb3:w3.heap[b.bb]?=some (.cells (brow cb K.E sc b jv line t.pend) T.b (0,0)):=(hg.block _ h.bd.blt (fun e=>s.jb e.symm)).trans h.bd.row;obtain ⟨n,D,m1,m2⟩:=h.bd.slots;obtain ⟨D',f1,f2⟩:=h.bd.firsts;refine ⟨⟨?_,?_⟩,?_⟩
  · have:=h.cc.same (w':=w3.setCell ⟨b.bb,9,none⟩ jv') (k1 h.cc.lt s.bc.symm s.jc) (fun g hg'=>k1 (h.cc.its.lt g hg').2 (fun e=>s.ib (by rw [hg',e])) (fun e=>s.ij g hg' e)) (fun x hx g hg'=>k1 ((h.cc.chx hx).lt g hg').2 (fun e=>s.xb x hx (by rw [hg',e])) (fun e=>s.jx x hx g e hg'))
    exact ⟨this.row,this.its,this.items,this.chn,this.lo⟩
  · refine ⟨heap_setCell_at hbb3 _,owns_blks h.bd.ch fun g hg'=>k1 (h.bd.ch.lt g hg').2 (fun e=>s.hb (by rw [hg',e])) (fun e=>s.jh g e hg'),⟨n,D,map_keep m1 (k1 h.bd.mlt s.mb s.jm),m2⟩,⟨D',map_keep f1 (k1 h.bd.flt s.fb s.jf),f2⟩,?_,h.bd.lo,h.bd.lt,h.bd.lm,h.bd.lf,h.bd.mf⟩
    rw [List.length_append,List.length_singleton];exact owns_blks hi fun g hg'=>set_other (fun e=>ne_types hi hbb3 hT.2.2.2.2.1 (by rw [hg',e]))
  · have st:Step cb (ML iv jv b) (ML iv jv b) w w3:=Step.of_grown hg (by unfold ML;simp)
    have st2:Step cb (ML iv jv b) (ML iv jv b) w (w3.setCell ⟨b.bb,9,none⟩ jv'):=st.trans (cellB_step _ mem_ML 9 _);refine ⟨st2.os,st2.tape,st2.output,st2.size,st2.block,fun v hv g hg'=>?_⟩;unfold ML at hv ⊢;simp only [List.mem_cons,List.not_mem_nil,or_false] at hv
    rcases hv with rfl|rfl|rfl|rfl
    · exact .inl ⟨_,List.mem_cons_self ..,hg'⟩
    · exact .inl ⟨psV b.bb,by simp,hg'⟩
    · rcases hat g hg' with e|e
      · exact .inl ⟨jv,by simp,e⟩
      · exact .inr e
    · exact .inl ⟨psV b.fb,by simp,hg'⟩
theorem CiAt.firsted {w3:World} {D:DataW Unit} {n:Nat} (h:CiAt T P B cb w K t iv X sc b jv line) (hT:T.ok) (hg:w.grownBy w3 (some b.fb)) (hown:w3.ownsMap P T.i (plainElem P T.i) b.fb n D) (hn:n=t.firsts.length+1) (m:Nat) (hD:FirOk sc.f (t.firsts++[m]) D) :
    CiAt T P B cb w3 K { t with firsts:=t.firsts++[m] } iv X sc b jv line∧Step cb (ML iv jv b) (ML iv jv b) w w3:=by
  have s:=h.sep hT;have k1:∀ {g:Nat},g<w.heap.size→g≠b.fb→w3.heap[g]?=w.heap[g]?:=fun hl hn=>hg.block _ hl (fun e=>hn (Option.some.inj e))
  obtain ⟨n',D',m1,m2⟩:=h.bd.slots;refine ⟨⟨?_,?_⟩,?_⟩
  · have:=h.cc.same (w':=w3) (k1 h.cc.lt s.fc.symm) (fun g hg'=>k1 (h.cc.its.lt g hg').2 (fun e=>s.fi (by rw [hg',e]))) (fun x hx g hg'=>k1 ((h.cc.chx hx).lt g hg').2 (fun e=>s.xf x hx (by rw [hg',e])))
    exact ⟨this.row,this.its,this.items,this.chn,this.lo⟩
  · refine ⟨(k1 h.bd.blt s.fb.symm).trans h.bd.row,owns_blks h.bd.ch fun g hg'=>k1 (h.bd.ch.lt g hg').2 (fun e=>s.hf (by rw [hg',e])),⟨n',D',map_keep m1 (k1 h.bd.mlt h.bd.mf),m2⟩,⟨D,?_,hD⟩,owns_blks h.bd.jr fun g hg'=>k1 (h.bd.jr.lt g hg').2 (fun e=>s.jf (by rw [hg',e])),h.bd.lo,h.bd.lt,h.bd.lm,h.bd.lf,h.bd.mf⟩
    rw [List.length_append,List.length_singleton,← hn];exact hown
  · have:=Step.of_grown (rb:=cb) (M:=ML iv jv b) (u:=psV b.fb) (w:=w) (w':=w3) hg (by unfold ML;simp)
    exact this
end
end Go.Proofs.YtcflojdkaddemaaGreatDoor

namespace Go.Proofs.YtcflojdkaddemaaGreatDoor
open Go.RowKit Go.Lib
theorem eA1 {α:Type _} {xs:List α} {i:Nat} (h:i<xs.toArray.size):xs.toArray[i]=xs[i]'(by simpa using h):=rfl
theorem eA2 {α:Type _} {a:α} {as:List α} {h:0<(a :: as).length}:(a :: as)[0]=a:=rfl
theorem eA3 {α:Type _} {a:α} {as:List α} {i:Nat} {h:i+1<(a :: as).length}:(a :: as)[i+1]=as[i]'(Nat.lt_of_succ_lt_succ h):=rfl
theorem eS1 {α:Type _} (l:List α) (i:Nat) (a:α):l.toArray.setIfInBounds i a=(l.set i a).toArray:=List.setIfInBounds_toArray ..
theorem eS2 {α:Type _} {x a:α} {xs:List α}:(x :: xs).set 0 a=a :: xs:=rfl
theorem eS3 {α:Type _} {x a:α} {xs:List α} {n:Nat}:(x :: xs).set (n+1) a=x :: xs.set n a:=rfl
section
variable {P:Program} {ops:Array Oper} {Q:Exit→Act→World→Prop} {S:World→Prop} {n:Nat}
def AnyE (P:Program) (ops:Array Oper) (Q:Exit→Act→World→Prop) (S:World→Prop) (n:Nat):Nat→Array Bool→Act→World→Prop
 | 0,l,a,w=>Region.ready .any ops l=[]∧Q .normal a w
 | f+1,l,a,w=>(Region.ready .any ops l=[]→Q .normal a w)∧∀ i ∈ Region.ready .any ops l,wpOp P ops Q i (fun a' w'=>(i<n→S w')∧AnyE P ops Q S n f (l.setIfInBounds i true) a' w') a w
theorem any_of_E:∀ (f:Nat) (l:Array Bool) (a:Act) (w:World),AnyE P ops Q S n f l a w→wpAny P .any ops Q f l a w
 | 0,_,_,_,h=>h
 | f+1,_,_,_,h=>⟨h.1,fun i hi=>wpOp_mono (fun a' w' h'=>any_of_E f _ a' w' h'.2) (h.2 i hi)⟩
theorem E_first {i:Nat} {oi:Oper} {v:Value} (hs:Region.sinkB .any ops n=true) (hc:Region.chainB .any ops n=true) (hn:n<ops.size) (hin:i<n) (hi:ops[i]?=some oi)
  (hsel:∀ (j:Nat) (o:Oper) cs b,ops[j]?=some o→o.op≠.select cs b) (hQ:∀ c a w,Q (.panic c) (a.put oi.dst v) w→Q (.panic c) a w) :
  ∀ (f:Nat) (l:Array Bool) (a:Act) (w:World),HeadInv .any ops n l →
   (∀ j oj,ops[j]?=some oj→j≠i→l.getD j true=false→(∀ e ∈ oj.after,Region.binds .any e=true→e.on≠i)→oi.apart ops oj=true) →
   i ∈ Region.ready .any ops l→YieldsIf P ops S oi v a→S w→AnyE P ops Q S n f (l.setIfInBounds i true) (a.put oi.dst v) w→AnyE P ops Q S n (f+1) l a w:=by
 intro f
 induction f with
 | zero =>
  intro l a w _ _ hr hy hS H;refine ⟨fun h=>(by rw [h] at hr;cases hr),fun j hj=>?_⟩
  by_cases hji:j=i
  ·subst hji;exact hy.wpOp hi hS ⟨fun _=>hS,H⟩
  ·have:=ready_mono hj hji
   rw [H.1] at this
   cases this
 | succ f ih =>
  intro l a w inv hfree hr hy hS H;refine ⟨fun h=>(by rw [h] at hr;cases hr),fun j hj=>?_⟩
  by_cases hji:j=i
  ·subst hji;exact hy.wpOp hi hS ⟨fun _=>hS,H⟩
  have hun:=(mem_ready.1 hr).1;have hjn:j<n:=by
   rcases Nat.lt_or_ge j n with h|h
   ·exact h
   ·exact absurd hj (tail_waits hs hc hn inv _ i rfl hin hun j h)
  have h1:=H.2 j (ready_mono hj hji);obtain ⟨hjun,oj,hoj,hall⟩:=mem_ready.1 hj;have hnot:∀ e ∈ oj.after,Region.binds .any e=true→e.on≠i:=fun e he hb heq=>by
   have h2:=hall e he hb;rw [heq,getD_both hun] at h2
   cases h2
  refine wpOp_mono (fun a' w' h3=>?_) (wpOp_putIf hoj (hfree j oj hoj hji hjun hnot) (fun cs b=>hsel i oi cs b hi) (fun cs b=>hsel j oj cs b hoj) hQ hy h1);have hSw:=h3.2.1 hjn;refine ⟨fun _=>hSw,ih (l.setIfInBounds j true) a' w' (inv.set hj hjn) (fun k ok hk hki hk2 hno=>hfree k ok hk hki ?_ hno) (ready_mono hr (Ne.symm hji)) h3.1 hSw ?_⟩
  ·by_cases hjk:j=k
   ·rw [← hjk];exact hjun
   ·rw [getD_set_ne true hjk] at hk2;exact hk2
  ·rw [Array.setIfInBounds_comm _ _ hji]
   exact h3.2.2
def AnyT (P:Program) (ops:Array Oper) (Q:Exit→Act→World→Prop) (S:World→Prop) (n f:Nat) (l:Array Bool) (a:Act) (w:World):Prop:=HeadInv .any ops n l→AnyE P ops Q S n f l a w
theorem E_take {i f:Nat} {oi:Oper} {v:Value} {l:Array Bool} {a:Act} {w:World} (hi:ops[i]?=some oi) (hck:(Region.sinkB .any ops n&&(Region.chainB .any ops n&&(decide (n<ops.size)&&(decide (i<n)&&(Region.noSelect ops&&(Region.free .any ops l i&&(Region.ready .any ops l).contains i))))))=true)
  (hQ:∀ c a w,Q (.panic c) (a.put oi.dst v) w→Q (.panic c) a w) (hy:YieldsIf P ops S oi v a) (hS:S w)
  (h:AnyT P ops Q S n f (l.setIfInBounds i true) (a.put oi.dst v) w):AnyT P ops Q S n (f+1) l a w:=fun inv=>by
 simp only [Bool.and_eq_true,decide_eq_true_eq] at hck;obtain ⟨hs,hc,hn,hin,hsel,hf,hr⟩:=hck;have hr':i ∈ Region.ready .any ops l:=by simpa using hr
 exact E_first hs hc hn hin hi (Region.noSelect_spec hsel) hQ f l a w inv (Region.free_spec hi hf) hr' hy hS (h (inv.set hr' hin))
theorem E_tk (i:Nat) {f:Nat} {oi:Oper} {v:Value} {l:Array Bool} {a:Act} {w:World} (h:AnyT P ops Q S n f (l.setIfInBounds i true) (a.put oi.dst v) w) (hi:ops[i]?=some oi:=by rfl) (hck:(Region.sinkB .any ops n&&(Region.chainB .any ops n&&(decide (n<ops.size)&&(decide (i<n)&&(Region.noSelect ops&&(Region.free .any ops l i&&(Region.ready .any ops l).contains i))))))=true:=by kernel_rfl)
    (hQ:∀ c a w,Q (.panic c) (a.put oi.dst v) w→Q (.panic c) a w:=by exact fun _ _ _ h=>h) (hy:YieldsIf P ops S oi v a:=by (refine Or.inl ⟨by rfl,?_⟩;intro w hSw;(try dsimp only at hSw);(try simp only [List.getElem_toArray,List.getElem_cons_zero,List.getElem_cons_succ]);go_simp;(first|done|with_reducible rfl))) (hS:S w:=by assumption):AnyT P ops Q S n (f+1) l a w:=E_take hi hck hQ hy hS h
theorem E_tu (i:Nat) {f:Nat} {oi:Oper} {l:Array Bool} {a:Act} {w:World} (h:AnyT P ops Q S n f (l.setIfInBounds i true) (a.put oi.dst undef) w) (hi:ops[i]?=some oi:=by rfl) (hck:(Region.sinkB .any ops n&&(Region.chainB .any ops n&&(decide (n<ops.size)&&(decide (i<n)&&(Region.noSelect ops&&(Region.free .any ops l i&&(Region.ready .any ops l).contains i))))))=true:=by kernel_rfl)
    (hQ:∀ c a w,Q (.panic c) (a.put oi.dst undef) w→Q (.panic c) a w:=by exact fun _ _ _ h=>h) (hy:YieldsIf P ops S oi undef a:=by exact Or.inr ⟨by kernel_rfl,rfl⟩) (hS:S w:=by assumption):AnyT P ops Q S n (f+1) l a w:=E_take hi hck hQ hy hS h
def AllE (P:Program) (ops:Array Oper) (Q:Exit→Act→World→Prop) (S:World→Prop) (n f:Nat) (l:Array Bool) (a:Act) (w:World) (rs:List Nat):Prop :=
 ∀ i ∈ rs,i ∈ Region.ready .any ops l→i<n→HeadInv .any ops n l→wpOp P ops Q i (fun a' w'=>(i<n→S w')∧AnyE P ops Q S n f (l.setIfInBounds i true) a' w') a w
theorem AllE.nil {f:Nat} {l:Array Bool} {a:Act} {w:World}:AllE P ops Q S n f l a w []:=fun _ h=>by cases h
theorem AllE.cons {f i:Nat} {l:Array Bool} {a:Act} {w:World} {o:Oper} {rs:List Nat} (ho:ops[i]?=some o)
  (h:∀ K':Act→World→Prop,Shut (∀ a w,S w→(S w→AnyT P ops Q S n f (l.setIfInBounds i true) a w)→K' a w)→if Region.wanted o (yielded ops a.tmps)=true then Oper.wp P o a w K' Q else K' (a.put o.dst undef) w)
  (hs:AllE P ops Q S n f l a w rs):AllE P ops Q S n f l a w (i :: rs):=fun j hj hr hin inv=>by
 rcases List.mem_cons.1 hj with rfl|hj
 ·exact wpOp_step ho (fun K' hK=>h K' (fun a w hS hW=>hK a w ⟨fun _=>hS,hW hS (inv.set hr hin)⟩))
 ·exact hs j hj hr hin inv
theorem E_ready {f:Nat} {l:Array Bool} {a:Act} {w:World} {rs:List Nat} (hr:Region.ready .any ops l=rs) (hne:(rs.isEmpty=false)∧rs.all (fun i=>decide (i<n))=true) (h:AllE P ops Q S n f l a w rs):AnyT P ops Q S n (f+1) l a w:=fun inv =>
 ⟨fun h0=>(by rw [hr] at h0;rw [h0] at hne;exact absurd hne.1 (by decide)),fun i hi=>by
  have hi':=hi;rw [hr] at hi';exact h i hi' hi (of_decide_eq_true (List.all_eq_true.1 hne.2 i hi')) inv⟩
theorem E_last {f:Nat} {l:Array Bool} {a:Act} {w:World} {o:Oper} (hr:Region.ready .any ops l=[n]) (ho:ops[n]?=some o) (hr2:Region.ready .any ops (l.setIfInBounds n true)=[])
  (h:∀ K':Act→World→Prop,Shut (∀ a w,Q .normal a w→K' a w)→if Region.wanted o (yielded ops a.tmps)=true then Oper.wp P o a w K' Q else K' (a.put o.dst undef) w):AnyT P ops Q S n (f+1) l a w:=fun _ =>
 ⟨fun h0=>(by rw [hr] at h0;cases h0),fun i hi=>by
  rw [hr] at hi;obtain rfl:i=n:=by simpa using hi
  refine wpOp_step ho (fun K' hK=>h K' (fun a w hq=>hK a w ⟨fun h=>absurd h (Nat.lt_irrefl _),?_⟩))
  cases f with
  | zero=>exact ⟨hr2,hq⟩
  | succ f=>exact ⟨fun _=>hq,by rw [hr2];intro j hj;cases hj⟩⟩
theorem head_start (n m:Nat) (h:ops.size=m):HeadInv .any ops n (Array.replicate m false) :=
 ⟨by simp [h],fun j oj _ hl=>(by rw [getD_replicate_false] at hl;cases hl),fun t _ ht=>(by
  have:t<m:=by omega
  simp [this])⟩
theorem E_start {id:Nat} {a:Act} {w:World} (n:Nat) (hm:P.follows .mixedOrders=true) (hS:S w.drew) (h:S w.drew→AnyT P ops Q S n ops.size (Array.replicate ops.size false) a w.drew):(Code.region id ops true).wp P Q a w :=
 wp_region_any hm (any_of_E _ _ _ _ (h hS (head_start n _ rfl)))
end
theorem step_append_run {P:Program} {w w':World} {o:Oper} {a:Act} {ops:Array Oper} {K:Act→World→Prop} {Q:Exit→Act→World→Prop} {E:Prop} (hgd:o.guard=none) (s x:Operand) (t:TypeId)
  (ho:o.op=.call { callee:=.builtin .append,args:=#[s,x],argTypes:=#[t,t] }) (v y v':Value) (hs:a.eval s=v) (hx:a.eval x=y) (hr:(Builtin.append_ #[t,t] o.type #[v,y]).run P w=.ok v' w') (h:K (a.put o.dst v') w') :
  if Region.wanted o (yielded ops a.tmps)=true then Oper.wp P o a w K Q else E:=by
 have hw:Region.wanted o (yielded ops a.tmps)=true:=by simp [Region.wanted,hgd]
 rw [if_pos hw];unfold Oper.wp execOp;simp only [ho,resolve,invoke,builtin,Sem.run_bind,Sem.run_pure,Result.andThen_ok,List.map_toArray,List.map_cons,List.map_nil,hs,hx,hr];exact h
end Go.Proofs.YtcflojdkaddemaaGreatDoor

namespace Go.Proofs.YtcflojdkaddemaaGreatDoor
open Go.RowKit Go.Lib
theorem owns_lower {B B' T n s:Nat} {w:World} {v:Value} {xs:List Value} (h:w.ownsRow B T s v n xs) (hb:B'≤B):w.ownsRow B' T s v n xs :=
 ⟨h.1,h.2.imp id fun ⟨g,cap,cur,e,hB,r⟩=>⟨g,cap,cur,e,Nat.le_trans hb hB,r⟩⟩
theorem toks_src {B T:Nat} {w:World} {v:Value} {l:List TokL} (h:w.ownsRow B T 3 v l.length (toksV l)) (hp:0<l.length):∃ g cap,v=.slice (some ⟨g,0,none⟩) l.length cap∧g<w.heap.size∧B≤g∧∀ j u,(toksV l)[j]?=some u→w.cell? ((⟨g,0,none⟩:Addr).add j)=some u:=by
 rcases h.2 with ⟨_,h0⟩|⟨g,cap,cur,rfl,hB,hg,_⟩
 ·omega
 ·exact ⟨g,cap,rfl,(h.lt g rfl).2,hB,fun j u hu=>h.cells rfl j u hu⟩
theorem toks_cells1 (l:List TokL):∀ u ∈ toksV l,u.oneCell'=true:=by
 intro u hu;obtain ⟨t,_,h⟩:=List.mem_flatMap.1 hu;simp only [tokV,List.mem_cons,List.not_mem_nil,or_false] at h
 rcases h with rfl|rfl|rfl <;> rfl
theorem rows_apart {B B' T T' n n' s s':Nat} {w:World} {v v':Value} {xs xs':List Value} (h:w.ownsRow B T s v n xs) (h':w.ownsRow B' T' s' v' n' xs') (hT:T≠T'):v.ownBlock=none∨v.ownBlock≠v'.ownBlock:=by
 rcases h.2 with ⟨rfl,_⟩|⟨g1,c1,r1,rfl,_,e1,_⟩
 ·exact .inl rfl
 ·refine .inr fun e=>?_
  rcases h'.2 with ⟨rfl,_⟩|⟨g2,c2,r2,rfl,_,e2,_⟩
  ·cases e
  ·simp only [Value.ownBlock,Option.some.injEq] at e
   subst e;rw [e1] at e2;injection e2 with e2
   injection e2 with _ e3
   exact hT e3
theorem tok_row {T B:Nat} (w:World) (t:TokL) (hB:B≤w.heap.size):(w.alloc (.cells #[.int .i64 t.kind,.int .i64 t.num,.string t.name] T)).ownsRow B T 3 (.slice (some ⟨w.heap.size,0,none⟩) 1 1) [t].length (toksV [t]):=by
 have:=World.ownsRow_lit (base:=B) (e:=T) (size:=3) w #[.int .i64 t.kind,.int .i64 t.num,.string t.name] 1 hB (by decide) rfl
 rw [toksV_one];exact this
end Go.Proofs.YtcflojdkaddemaaGreatDoor

namespace Go.Proofs.YtcflojdkaddemaaGreatDoor
open Go.RowKit Go.Lib
def ReadO (w:World) (a:Option Addr) (l:List ByteArray):Prop:=∀ j (h:j<l.length),∃ g o,a=some ⟨g,o,none⟩∧w.cell? ⟨g,o+j,none⟩=some (.string l[j])
theorem readO_of {w:World} {a:Option Addr} {l:List ByteArray} (h:ReadS w a l):ReadO w a l:=by
 intro j hj;obtain ⟨g,e,c⟩:=h j hj;exact ⟨g,0,e,by rw [Nat.zero_add];exact c⟩
end Go.Proofs.YtcflojdkaddemaaGreatDoor
