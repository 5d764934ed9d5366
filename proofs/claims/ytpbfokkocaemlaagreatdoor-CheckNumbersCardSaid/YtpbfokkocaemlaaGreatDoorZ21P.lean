import Derived.Test.YtpbfokkocaemlaaGreatDoorZ15P
import Derived.Test.YtpbfokkocaemlaaGreatDoorZ11P
set_option linter.unusedVariables false
set_option maxRecDepth 100000
set_option maxHeartbeats 64000000
namespace Go.Proofs.YtpbfokkocaemlaaGreatDoor
open Go.RowKit
open Go.Lib renaming hid → zq
open Go renaming World → ak
open Go renaming Value → au
open Go.Proofs.Tryz renaming prog → ax
variable {U:Prop}
open Go.Proofs.Tryz
mutual
def printS:T->By
 | .mk k s n kids _=>if k=1 then 40::(printL true kids++[41]) else if k=2 then s else if k=3 then Lib.itoa n else if k=4 then showV 2 0 ⟨s.toArray⟩ else []
def printL:Bool->List T->By
 | _,[]=>[]
 | b,t::l=>(if b then [] else [32])++(printS t++printL false l)
end
mutual
def xX:T->Bool
 | .mk _ _ n kids _=>decide (-9223372036854775808<=n)&&decide (n<=9223372036854775807)&&fitsAll kids
def fitsAll:List T->Bool
 | []=>true
 | t::l=>xX t&&fitsAll l
end
theorem sS:∀(l:List T) (b:Bool) (t:T),printL b (l++[t])=printL b l++((if b&&l.isEmpty then [] else [32])++printS t)
 | [],b,t=>by cases b<;>simp[printL]
 | a::l,b,t=>by have:=sS l false t;simp only[axj,printL];rw[this];simp
theorem G8(l:List T)(k:Nat)(t:T)(h:l[k]?=some t):printL true (l.take (k+1))=printL true (l.take k)++((if k=0 then [] else [32])++printS t):=by
 obtain⟨hk,e⟩:=awz.1 h;rw[awH hk,sS,e];congr 2
 cases l with
 | nil=>simp at hk
 | cons a l=>cases k<;>simp
theorem xY:∀(l:List T) (b:Bool) (k:Nat),(printL b (l.take k)).length<=(printL b l).length
 | [],b,k=>by simp
 | a::l,b,0=>by simp[printL]
 | a::l,b,k+1=>by have:=xY l false k;simp only[axz,printL,awE];omega
theorem CZ:∀(l:List T) (t:T),fitsAll l=true->t∈l->xX t=true
 | [],t,h,ht=>by cases ht
 | a::l,t,h,ht=>by simp only[fitsAll,awF]at h;rcases awN.1 ht with rfl|h2;exact h.1;exact CZ l t h.2 h2
def aev(m:M)(w:ak):Prop:=
 ∀(w':ak),Ev w w'->(printS m.t).length<=1000000->xX m.t=true->
  Calls ax 84 #[.agg ↑m] w' λr w''=>r=.returned (.string ⟨(printS m.t).toArray⟩)/\Ev w' w''
theorem abb(s:ByteArray)(w:ak):
  Calls ax 126 #[.string s] w λe w'=>e=.returned (.string ⟨(showV 2 0 s).toArray⟩)/\Ev w w':=by
 have HS:=zq (λw1=>YX 2 0 s w1 ai ai);go_enter func126,ntmps126
 go_wp2_with (first|((with_reducible refine(HS.out _).mono ?_);rintro x w1 ⟨rfl,aN⟩))
 go_ret;exact⟨rfl,aN⟩
theorem Oq{w:ak}{g:Nat}{m:M}{T_:TypeId}(h:w.heap[g]?=some (.cells (mc m).toArray T_ (0,0))):w.cell? ⟨g,0,none⟩=some ↑m.kind/\w.cell? ⟨g,1,none⟩=some ↑m.s/\w.cell? ⟨g,2,none⟩=some ↑m.n/\w.cell? ⟨g,3,none⟩=some (.slice m.A m.kids.length m.cap)/\w.cell? ⟨g,4,none⟩=some ↑m.pos:=by refine⟨?_,?_,?_,?_,?_⟩<;>(rw[ays h];rfl)
theorem az'(h:U:=by
 rw[<-hP]at HD;clear ih qg fM hF D_ hP;generalize kids.length=nk at*;go_enter func84,ntmps84
 go_wp2_with (first|((with_reducible refine(HD.out _).mono ?_);rintro x w1 ⟨rfl,aN⟩))
 go_ret;exact⟨rfl,aV.trans aN⟩):U:=h
theorem abd{b0:Nat}{K:List Nat}{w:ak}{m:M}(h:Lies b0 K w m):aev m w:=by
 induction h with
 | @mk kind s n A cap kids pos fM hA qg ih=>
  intro w' hE hlen hfit;obtain⟨w0,hw0⟩:∃w0,w0=w'.alloc (.cells #[↑kind,↑s,↑n,.slice A kids.length cap,↑pos] 79):=⟨_,rfl⟩
  have D_:w0.heap[w'.heap.size]?=some (.cells (mc (.mk kind s n A cap kids pos)).toArray 79 (0,0)):=by rw[hw0];exact ayq _ _
  have aV:Ev w' w0:=by rw[hw0];exact Ev.alloc _ _
  obtain⟨c0,c1,c2,c3,c4⟩:=Oq D_;have hP:printS (M.t (.mk kind s n A cap kids pos))=if kind=1 then 40::(printL true (kids.map M.t)++[41]) else if kind=2 then s else if kind=3 then Lib.itoa n else if kind=4 then showV 2 0 ⟨s.toArray⟩ else []:=by simp only[M.t,printS,M.jQ]
  have hF:(-9223372036854775808<=n/\n<=9223372036854775807)/\fitsAll (kids.map M.t)=true:=by simp only[M.t,xX,M.jQ,awF,axq]at hfit;exact hfit
  generalize printS (M.t (.mk kind s n A cap kids pos))=Y at*;simp only[M.kind,M.s,M.n,M.A,M.kids,M.cap,M.pos]at c0 c1 c2 c3 c4|-;have YI:=hw0.symm;clear hw0 hfit;by_cases k1:kind=1
  ·subst k1;rw[if_pos rfl]at hP;obtain⟨L,hL⟩:∃L,L=kids.map M.t:=⟨_,rfl⟩
   rw[<-hL]at hP hF;have hLl:(printL true L).length<=1000000:=by rw[hP]at hlen;simp at hlen;omega
   obtain⟨nk,xO⟩:∃nk,nk=kids.length:=⟨_,rfl⟩
   have hcapm:=fM.max;have hcap:=fM.le;rw[<-xO]at c3 hcap YI|-;have xP:=zq xO;have HL:=zq hL;have HP:=zq hP;have HF:=zq hF.2;have lM:=zq ih;have qV:=zq fM;have HLl:=zq hLl;clear fM ih hP hL hLl qg hA xO hlen hF;go_enter func84,ntmps84;go_wp2
   go_loopw [3,4] (λsv iv wr=>∃q:Nat,q<=nk/\iv=↑q/\sv=.string ⟨(40::printL true (L.take q)).toArray⟩/\Ev w0 wr) (λ_ iv _=>nk-(intOf iv).toNat)
   case atStart=>exact⟨0,awJ _,rfl,by simp[printL],Ev.refl _⟩
   case round=>
    obtain⟨q,hq,rfl,rfl,aN⟩:=hrel;obtain⟨c0',c1',c2',c3',c4'⟩:=Oq (VB D_ aN);simp only[M.kind,M.s,M.n,M.A,M.kids,M.cap,M.pos]at c0' c1' c2' c3' c4';rw[<-xP.out]at c3';have wQ:(40::printL true (L.take q):By).length<=1000001:=by have:=xY L true q;have:=HLl.out;simp;omega
    have hz:=dJ (40::printL true (L.take q));by_cases hlt:q<nk
    ·obtain⟨x,hx⟩:∃x,kids[q]?=some x:=⟨_,awX (by rw[<-xP.out];exact hlt)⟩
     have hmr:Ms wr A kids.length cap kids:=qV.out.ev ((hE.trans aV).trans aN);obtain⟨b,off,hAA,hbl,d0,d1,d2,d3,d4⟩:=hmr.cell hx;have hxL:L[q]?=some x.t:=by rw[HL.out,axh,hx];rfl
     have oO:=G8 L q x.t hxL;have hle:=xY L true (q+1);have iH:(printS x.t).length<=1000000:=by rw[oO]at hle;have:=HLl.out;simp at hle;omega
     have hfx:=CZ L x.t HF.out (awG hxL);have HPx:=zq (λw1 (h1:Ev wr w1)=>lM.out x (awG hx) w1 (((hE.trans aV).trans aN).trans h1) iH hfx);unfold M.kv at d3;rw[hAA]at c3';have j1:(0:Int)<=(q:Int):=ae;have j2:(q:Int)<(nk:Int):=ae;have hzx:=dJ (printS x.t);generalize hX:(40::printL true (L.take q):By)=X at*;generalize XG:(40::printL true (L.take (q+1)):By)=X2 at*;by_cases hq0:q=0
     ·subst hq0;simp only[axi,aw2]at d0 d1 d2 d3 d4;simp only[Int.natCast_zero];have mV:(⟨X.toArray⟩:ByteArray)++⟨(printS x.t).toArray⟩=⟨X2.toArray⟩:=(eX _ _).trans (by rw[<-hX,<-XG,oO];simp);have ahc:=zq mV;have HX2:=zq XG;generalize printS x.t=Px at*;clear mV hX XG oO hle hfx hxL hmr hx hAA
      go_wp2_with (first|((with_reducible refine(HPx.out _ aK).mono ?_);rintro r w9 ⟨rfl,hE9⟩))
      go_roundw
      case rel=>exact⟨1,ae,rfl,by rw[HX2.out];exact axc Value.string ahc.out,aN.trans hE9⟩
      case measure=>simp[intOf];omega
     have sO:0<q:=ae;have af7:(⟨X.toArray⟩:ByteArray)++⟨#[32]⟩=⟨(X++[32]).toArray⟩:=eX X [32];have mV:(⟨X.toArray⟩:ByteArray)++⟨#[32]⟩++⟨(printS x.t).toArray⟩=⟨X2.toArray⟩:=by rw[af7];exact(eX _ _).trans (by rw[<-hX,<-XG,oO];simp[hq0])
     have ahc:=zq mV;have HX2:=zq XG;generalize printS x.t=Px at*;clear mV af7 hX XG oO hle hfx hxL hmr hx hAA
     go_wp2_with (first|((with_reducible refine(HPx.out _ aK).mono ?_);rintro r w9 ⟨rfl,hE9⟩))
     go_roundw
     case rel=>exact⟨q+1,ae,by go_num,by rw[HX2.out];exact axc Value.string ahc.out,aN.trans hE9⟩
     case measure=>simp[intOf];omega
    obtain rfl:q=nk:=ae;have hY:(40::printL true (L.take q):By)++[41]=Y:=by rw[HP.out,awS (by rw[HL.out,awD,<-xP.out];exact awC _)];rfl
    generalize (40::printL true (L.take q):By)=X at*;have HY:=zq hY;clear hY;go_wp2;go_ret;exact⟨by rw[<-HY.out];exact axc (λb=>Ending.returned (Value.string b)) (eX X [41]),aV.trans aN⟩
  rw[if_neg k1]at hP;by_cases k2:kind=2
  ·subst k2;rw[if_pos rfl]at hP;subst hP;clear ih qg fM hF D_;generalize kids.length=nk at*;go_enter func84,ntmps84;go_wp2;go_ret;exact⟨rfl,aV⟩
  rw[if_neg k2]at hP;by_cases k3:kind=3;subst k3;rw[if_pos rfl]at hP;have HD:=zq (λw1=>G7 n w1 hF.1.1 hF.1.2);exact az';rw[if_neg k3]at hP;by_cases k4:kind=4;subst k4;rw[if_pos rfl]at hP;have HD:=zq (λw1=>abb ⟨s.toArray⟩ w1);exact az';rw[if_neg k4]at hP;subst hP;clear ih qg fM hF D_;generalize kids.length=nk at*;have j1:(kind==1)=false:=awy.2 k1;have j2:(kind==2)=false:=awy.2 k2;have j3:(kind==3)=false:=awy.2 k3;have j4:(kind==4)=false:=awy.2 k4;go_enter func84,ntmps84;go_wp2;go_ret;exact⟨rfl,aV⟩
mutual
def xTree:T->T
 | .mk k s n l p=>if k==1 then .mk 2 s 0 [] 0 else if k==2 then .mk 3 [] n [] 0 else if k==3 then .mk 4 s 0 [] 0 else .mk 1 [] 0 (.mk 2 s 0 [] 0::xTrees l) 0
def xTrees:List T->List T
 | []=>[]
 | t::l=>xTree t::xTrees l
end
theorem vC:∀l:List T,xTrees l=l.map xTree
 | []=>rfl
 | t::l=>by simp[xTrees,vC l]
theorem Gq(s:By):∀(rs:List Ea) (done:List T),(xReads s done rs).2.1=0->(∀r∈rs,r.2.1=0)/\xReads s done rs=(.mk 4 s 0 (done++rs.map (·.1)) 0,0,0)
 | [],done,_=>⟨(λ_ h=>by cases h),by simp[xReads]⟩
 | r::rs,done,h=>by unfold xReads at h|-;by_cases hr:r.2.1=0;rw[if_pos (by simp[hr])]at h|-;obtain⟨h1,h2⟩:=Gq s rs (done++[r.1]) h;refine⟨λx hx=>?_,by rw[h2];simp⟩;rcases awN.1 hx with rfl|hx;exact hr;exact h1 x hx;rw[if_neg (by simp[hr])]at h;exact absurd h hr
theorem Kw(s:By):∀(rs:List Ea) (done:List T),(∀r∈rs,r.2.1=0)->xReads s done rs=(.mk 4 s 0 (done++rs.map (·.1)) 0,0,0)
 | [],done,_=>by simp[xReads]
 | r::rs,done,h=>by unfold xReads;rw[if_pos (by simp[h r (awL ..)]),Kw s rs (done++[r.1]) λx hx=>h x (awK _ hx)];simp
def Tn(t:T):Prop:=(xRead t).2.1=0->xRead (xTree (xRead t).1)=((xRead t).1,0,0)/\printS (xTree (xRead t).1)=printS t
theorem OC:∀(q q':List T) (b:Bool),q.map printS=q'.map printS->printL b q=printL b q'
 | [],[],b,_=>rfl
 | [],_::_,b,h=>by simp at h
 | _::_,[],b,h=>by simp at h
 | t::q,t'::q',b,h=>by simp only[awI,List.cons.injEq]at h;unfold printL;rw[h.1,OC q q' false h.2]
theorem Dj(s:By)(n:Int)(l:List T)(p:Nat):xRead (.mk 1 s n l p)=(match l with
  | []=>kK 12 p
  | h::q=>if h.kind==2&&!(bQ h.s==0) then (if q.length==bQ h.s then xReads h.s [] (q.map xRead) else kK 23 p) else kK 12 p):=by
 cases l with
 | nil=>rfl
 | cons h q=>simp only[xRead,uw];rfl
theorem Ze(k:Int)(s:By)(n:Int)(l:List T)(p:Nat)(hb0:∀t∈l,Tn t):Tn (.mk k s n l p):=by
  intro h;by_cases k1:k=1;subst k1;rw[Dj]at h|-
  cases l with
  | nil=>simp[kK]at h
  | cons hd q=>
   simp only at h|-;by_cases hk:(hd.kind==2&&!(bQ hd.s==0))=true;rw[if_pos hk]at h|-;by_cases hq:(q.length==bQ hd.s)=true;rw[if_pos hq]at h|-;obtain⟨h1,h2⟩:=Gq hd.s _ [] h;have hb:∀t∈q,Tn t:=λt ht=>hb0 t (awK _ ht);have hb1:∀t∈q,xRead (xTree (xRead t).1)=((xRead t).1,0,0)/\printS (xTree (xRead t).1)=printS t:=λt ht=>hb t ht (h1 _ (aw6.2 ⟨t,ht,rfl⟩));rw[h2];simp only[axA,awT];have ht:xTree (.mk 4 hd.s 0 (q.map ((λx=>x.1) ∘ xRead)) 0)=.mk 1 [] 0 (.mk 2 hd.s 0 [] 0::(q.map ((λx=>x.1) ∘ xRead)).map xTree) 0:=by rw[xTree,vC];rfl
   rw[ht,Dj];simp only[awF,awO]at hk;have hk2:(((T.mk 2 hd.s 0 [] 0).kind==2)&&!(bQ (T.mk 2 hd.s 0 [] 0).s==0))=true:=by show ((2:Int)==2&&!(bQ hd.s==0))=true;rw[hk.2];rfl
   refine⟨?_,?_⟩;simp only[hk2,aw4];rw[if_pos (by rw[awD,awD];exact hq),awT,awT];have he:q.map ((xRead ∘ xTree) ∘ ((λx=>x.1) ∘ xRead))=q.map λt=>((xRead t).1,(0:Int),0):=axl λt ht=>(hb1 t ht).1;rw[he,Kw _ _ _ (λr hr=>by obtain⟨t,_,rfl⟩:=aw6.1 hr;rfl)];simp only[axA,awT];rfl;have hp:printS hd=hd.s:=by
    cases hd with
    | mk k' s' n' l' p'=>
     have:k'=2:=hk.1;subst this;simp[printS,T.s]
   simp only[printS,aw4];rw[printL,printL];simp only[printS,aw4,hp];rw[OC _ q false (by
    rw[awT,awT];exact axl λt ht=>(hb1 t ht).2)]
   simp;rw[if_neg hq]at h;exact absurd h (by simp[kK]);rw[if_neg hk]at h;exact absurd h (by simp[kK])
  by_cases k2:k=2;subst k2;simp only[xRead,axe,aw4]at h|-;by_cases hn:jO s=true;rw[if_pos hn];simp[xTree,xRead,hn,printS];rw[if_neg hn]at h;exact absurd h (by simp[kK]);by_cases k3:k=3;subst k3;exact⟨rfl,by simp[xRead,xTree,printS]⟩;by_cases k4:k=4;subst k4;exact⟨rfl,by simp[xRead,xTree,printS]⟩
  cases l<;>simp[xRead,k1,k2,k3,k4,kK]at h
mutual
theorem OD:∀t:T,Tn t
 | .mk k s n l p=>Ze k s n l p (Ky l)
theorem Ky:∀(l:List T),∀t∈l,Tn t
 | [],t,h=>by cases h
 | a::l,t,h=>by rcases awN.1 h with h|h;rw[h];exact OD a;exact Ky l t h
end
structure uD(w0:ak)(b:Nat)(x v:au)(l:By)(w:ak):Prop where
 bd:Bd b x v l w
 ev:Ev w0 w
 base:w0.heap.size<=b
 high:∀g,v.ownBlock=some g->w0.heap.size<=g
 good:l≠[]->x=.pointer ↑b
theorem uD.evs{w0:ak}{b:Nat}{x v:au}{l:By}{w w':ak}(h:uD w0 b x v l w)(hE:Ev w w'):uD w0 b x v l w':=⟨h.bd.ev hE,h.ev.trans hE,h.base,h.high,h.good⟩
theorem uD.step{w0:ak}{b:Nat}{x v v':au}{l l':By}{w w':ak}(h:uD w0 b x v l w)(hb:Bd b (.pointer ↑b) v' l' w')(hB:But (b::foot v) w w')(hs:fO w v v'):uD w0 b (.pointer ↑b) v' l' w':=
 ⟨hb,((But.aW (K:=b::foot v) h.ev).then hB).ev λk hk=>by
  rcases awN.1 hk with rfl|hk;exact h.base;exact h.high k (aG.1 hk),h.base,λg hg=>by
  rcases hs g hg with h1|h1;exact h.high g h1;exact aw0 h.ev.size h1,λ_=>rfl⟩
theorem uD.box{w0:ak}{b:Nat}{x v:au}{l:By}{w w1 w2:ak}{g:Nat}{o:Obj}(h:uD w0 b x v l w)(hg:w.heap.size<=g)(hE:Ev w w1)(ho:w1.heap[g]?=some o)(hB:But (b::foot v) w1 w2):w2.heap[g]?=some o:=by refine hB.heap ho λhm=>?_;rcases awN.1 hm with h1|h1;have:=h.bd.lt;omega;have:=h.bd.2.2.lt (aG.1 h1);omega
def WriteAt(m:M)(w0:ak):Prop:=
 ∀(b:Nat) (x v:au) (l:By) (w':ak),uD w0 b x v l w'->l.length+(printS m.t).length<=1000000->xX m.t=true->
  Calls ax 98 #[.pointer ↑b,.agg ↑m] w' λr w''=>r=.returned (.tuple #[])/\∃x' v',uD w0 b x' v' (l++printS m.t) w''
theorem QD{w0:ak}{A:Option Addr}{nk cap:Nat}{kids:List M}(fM:Ms w0 A nk cap kids)(ih:∀k∈kids,WriteAt k w0)(L:List T)(hL:L=kids.map M.t)(hfit:fitsAll L=true)
  (b:Nat) (x v:au) (l:By) (w':ak) (hW:uD w0 b x v l w') (hlen:l.length+(printL true L).length+2<=1000000):
  Calls ax 137 #[.pointer ↑b,.slice A nk cap] w' λr w''=>r=.returned (.tuple #[])/\∃x' v',uD w0 b x' v' (l++(40::(printL true L++[41]))) w'':=by
 have H1:=λw1 (h1:uD w0 b x v l w1)=>ji b x v l 40 w1 h1.bd ae;simp only[show (((40:UInt8).toNat:Nat):Int)=40 from rfl]at H1;have H1:=zq H1;have xO:kids.length=nk:=fM.len;have hc1:=fM.le;have hc2:=fM.max;have xP:=zq xO;have HL:=zq hL;have HF:=zq hfit;have lM:=zq ih;have qV:=zq fM;clear xO hL hfit ih fM;go_enter func137,ntmps137
 go_wp2_with (first|((with_reducible refine(H1.out _ hW).mono ?_);rintro e w1 ⟨rfl,v1,Oo,hB1,hS1⟩))
 have S1:=hW.step Oo hB1 hS1
 go_loopw [10] (λiv wr=>∃(q:Nat) (x v:au),q<=nk/\iv=↑q/\uD w0 b x v (l++(40::printL true (L.take q))) wr) (λiv _=>nk-(intOf iv).toNat)
 case atStart=>exact⟨0,_,_,awJ _,rfl,by simpa[printL] using S1⟩
 case round=>
  obtain⟨q,xr,vr,hq,rfl,SR⟩:=hrel;clear S1 hS1 hB1 Oo;have jg:=xY L true q;by_cases hlt:q<nk
  ·obtain⟨k,hk⟩:∃k,kids[q]?=some k:=⟨_,awX (by rw[xP.out];exact hlt)⟩
   have hmr:Ms wr A nk cap kids:=qV.out.ev SR.ev;obtain⟨bb,off,hAA,hbl,d0,d1,d2,d3,d4⟩:=hmr.cell hk;have hxL:L[q]?=some k.t:=by rw[HL.out,axh,hk];rfl
   have oO:=G8 L q k.t hxL;have hle:=xY L true (q+1);have hfx:=CZ L k.t HF.out (awG hxL);unfold M.kv at d3;have j1:(0:Int)<=(q:Int):=ae;have j2:(q:Int)<(nk:Int):=ae;have D_:=JE wr k;by_cases hq0:q=0
   ·subst hq0;simp only[axi,aw2]at d0 d1 d2 d3 d4;have hHP:∀w1,uD w0 b xr vr (l++(40::printL true (L.take 0))) w1->_:=λw1 (h1:uD w0 b xr vr (l++(40::printL true (L.take 0))) w1)=>lM.out k (awG hk) b xr vr _ w1 h1 (by rw[oO]at hle;simp at hle|-;omega) hfx;have HP:=zq hHP;have hout:l++(40::printL true (L.take 0))++printS k.t=l++(40::printL true (L.take (0+1))):=by rw[oO];simp
    have HO:=zq hout;simp only[Int.natCast_zero];rw[hAA];clear hout oO hle hfx hxL hmr hk hHP jg
    go_wp2_with (first|((with_reducible refine(HP.out _ (SR.evs aB)).mono ?_);rintro r w9 ⟨rfl,x9,v9,S9⟩;rw[HO.out]at S9))
    go_roundw
    case rel=>exact⟨1,x9,v9,ae,rfl,S9⟩
    case measure=>simp[intOf];omega
   have sO:0<q:=ae;have HB:=λw1 (h1:uD w0 b xr vr (l++(40::printL true (L.take q))) w1)=>ji b xr vr _ 32 w1 h1.bd (by simp;omega);simp only[show (((32:UInt8).toNat:Nat):Int)=32 from rfl]at HB;have HB:=zq HB;have HP:=zq (λw1 x v (h1:uD w0 b x v (l++(40::printL true (L.take q))++[32]) w1)=>lM.out k (awG hk) b x v _ w1 h1 (by rw[oO]at hle;simp[hq0]at hle|-;omega) hfx);have hout:l++(40::printL true (L.take q))++[32]++printS k.t=l++(40::printL true (L.take (q+1))):=by rw[oO];simp[hq0]
   have HO:=zq hout;rw[hAA];clear hout oO hle hfx hxL hmr hk jg
   go_wp2_with (first
    | ((with_reducible refine(HB.out _ (SR.evs aB)).mono ?_);rintro r w8 ⟨rfl,v8,hD8,pK,uo⟩;have S8:=(SR.evs aB).step hD8 pK uo;obtain⟨c0,c1,c2,c3,c4⟩:=F8 (SR.box (awC _) aB D_ pK))
    | ((with_reducible refine(HP.out _ _ _ S8).mono ?_);rintro r w9 ⟨rfl,x9,v9,S9⟩;rw[HO.out]at S9))
   go_roundw
   case rel=>exact⟨q+1,x9,v9,ae,by go_num,S9⟩
   case measure=>simp[intOf];omega
  obtain rfl:q=nk:=ae;have HB:=λw1 (h1:uD w0 b xr vr (l++(40::printL true (L.take q))) w1)=>ji b xr vr _ 41 w1 h1.bd (by simp;omega);simp only[show (((41:UInt8).toNat:Nat):Int)=41 from rfl]at HB;have HB:=zq HB;have hout:l++(40::printL true (L.take q))++[41]=l++(40::(printL true L++[41])):=by rw[awS (by rw[HL.out,awD,xP.out];exact awC _)];simp
  have HO:=zq hout;clear hout jg
  go_wp2_with (first|((with_reducible refine(HB.out _ SR).mono ?_);rintro r w8 ⟨rfl,v8,hD8,pK,uo⟩;have S8:=SR.step hD8 pK uo;rw[HO.out]at S8))
  go_end0;exact⟨rfl,_,_,S8⟩
theorem OV(n:Int):showV 1 n ⟨#[]⟩=Lib.itoa n:=by
 have h:iL 1 n ⟨#[]⟩=true:=by unfold iL;rw[if_pos rfl];simp[Lib.toList_data]
 unfold showV;rw[if_pos h,if_pos rfl]
theorem acj{w0:ak}(hT:Tab w0){b0:Nat}{K:List Nat}{m:M}(h:Lies b0 K w0 m):WriteAt m w0:=by
 induction h with
 | @mk kind s n A cap kids pos fM hA qg ih=>
  intro b x v l w' hW hlen hfit;simp only[M.t,M.jQ,printS,xX,awF,axq]at hlen hfit|-;obtain⟨⟨U1,pG⟩,hfk⟩:=hfit;simp only[M.kind,M.s,M.n,M.A,M.kids,M.cap,M.pos] at*;have hTr:Tab w':=hT.ev hW.ev;by_cases k1:kind=1
  ·subst k1;simp only[aw4]at hlen|-;have HO:=zq (λw1 (h1:uD w0 b x v l w1)=>QD fM ih (kids.map M.t) rfl hfk b x v l w1 h1 (by simp at hlen;omega));have hc1:=fM.le;have hc2:=fM.max;have HW:=zq hW;clear fM ih hfk U1 pG hlen hA qg;go_enter func98,ntmps98
   go_wp2_with (first|((with_reducible refine(HO.out _ (HW.out.evs aB)).mono ?_);rintro r w9 ⟨rfl,x9,v9,S9⟩))
   go_end0;exact⟨rfl,_,_,S9⟩
  rw[if_neg k1]at hlen|-;by_cases k2:kind=2
  ·subst k2;simp only[aw4]at hlen|-;have HB:=zq (λw1 (h1:uD w0 b x v l w1)=>Aw b x v l ⟨s.toArray⟩ w1 h1.bd (by rw[dJ];omega));have HW:=zq hW;clear fM ih hfk U1 pG hlen hA qg;go_enter func98,ntmps98
   go_wp2_with (first|((with_reducible refine(HB.out _ (HW.out.evs aB)).mono ?_);rintro r w9 ⟨rfl,v9,hD9,hB9,hS9⟩;have S9:=(HW.out.evs aB).step hD9 hB9 hS9))
   go_end0;exact⟨rfl,_,_,S9⟩
  rw[if_neg k2]at hlen|-;by_cases k3:kind=3
  ·subst k3;simp only[aw4]at hlen|-;have HN:=zq (λw1=>value_num n w1);have HS:=zq (λw1 (h1:Tab w1)=>JH 1 n ⟨#[]⟩ w1 h1 U1 pG);have HB:=zq (λw1 (h1:uD w0 b x v l w1)=>Aw b x v l ⟨(showV 1 n ⟨#[]⟩).toArray⟩ w1 h1.bd (by rw[dJ,OV];omega));have HW:=zq hW;have HT:=zq hTr;clear fM ih hfk U1 pG hlen hA qg hTr;go_enter func98,ntmps98
   go_wp2_with (first
    | ((with_reducible refine(HN.out _).mono ?_);rintro r w7 ⟨rfl,hE7⟩)
    | ((with_reducible refine(HS.out _ (HT.out.ev (aB.trans hE7))).mono ?_);rintro r w8 ⟨rfl,mD⟩)
    | ((with_reducible refine(HB.out _ (HW.out.evs ((aB.trans hE7).trans mD))).mono ?_);rintro r w9 ⟨rfl,v9,hD9,hB9,hS9⟩;have S9:=(HW.out.evs ((aB.trans hE7).trans mD)).step hD9 hB9 hS9))
   go_end0;rw[OV]at S9;exact⟨rfl,_,_,S9⟩
  rw[if_neg k3]at hlen|-;by_cases k4:kind=4
  ·subst k4;simp only[aw4]at hlen|-;have HN:=zq (λw1=>YG ⟨s.toArray⟩ w1);have HS:=zq (λw1 (h1:Tab w1)=>JH 2 0 ⟨s.toArray⟩ w1 h1 ae ae);have HB:=zq (λw1 (h1:uD w0 b x v l w1)=>Aw b x v l ⟨(showV 2 0 ⟨s.toArray⟩).toArray⟩ w1 h1.bd (by rw[dJ];omega));have HW:=zq hW;have HT:=zq hTr;clear fM ih hfk U1 pG hlen hA qg hTr;go_enter func98,ntmps98
   go_wp2_with (first
    | ((with_reducible refine(HN.out _).mono ?_);rintro r w7 ⟨rfl,hE7⟩)
    | ((with_reducible refine(HS.out _ (HT.out.ev (aB.trans hE7))).mono ?_);rintro r w8 ⟨rfl,mD⟩)
    | ((with_reducible refine(HB.out _ (HW.out.evs ((aB.trans hE7).trans mD))).mono ?_);rintro r w9 ⟨rfl,v9,hD9,hB9,hS9⟩;have S9:=(HW.out.evs ((aB.trans hE7).trans mD)).step hD9 hB9 hS9))
   go_end0;exact⟨rfl,_,_,S9⟩
  rw[if_neg k4];simp only[ax2];have HW:=zq hW;clear fM ih hfk U1 pG hlen hA qg hTr;go_enter func98,ntmps98;go_wp2;go_end0;exact⟨rfl,_,_,HW.out.evs aB⟩
theorem ack{w0:ak}(hT:Tab w0){b0:Nat}{K:List Nat}{m:M}(h:Lies b0 K w0 m)(hlen:(printS m.t).length<=1000000)(hne:printS m.t≠[])(hfit:xX m.t=true)
  (hend:∀w',Ev w0 w'->Calls ax 97 #[.agg ↑m] w' λr w''=>r=.returned (.bool true)/\Ev w' w''):
  Calls ax 55 #[.agg ↑m] w0 λr w''=>r=.returned (.string ⟨(printS m.t).toArray⟩)/\Ev w0 w'':=by
 have HE:=zq hend;have HW:=zq (λwa (hE:Ev w0 wa) wb (Nk:wb=wa.alloc (.cells #[.pointer none,↑()] 146))=>by
  have D0:Bd wa.heap.size (.pointer none) ↑() [] wb:=by rw[Nk];exact⟨ayq wa _,.inl rfl,Row.nil_ _⟩
  have aV:Ev wa wb:=Nk▸Ev.alloc wa _;exact acj (hT.ev hE) (h.ev hE) wa.heap.size (.pointer none) ↑() [] wb ⟨D0,aV,awC _,λg hg=>(by cases hg),λh=>absurd rfl h⟩ (by simpa using hlen) hfit)
 have HS:=zq (λ(wa:ak) (x v:au) (w4:ak) (h4:uD wa wa.heap.size x v (([]:By)++printS m.t) w4)=>Tryz.Builder_String_k wa.heap.size wa.heap.size (printS m.t) w4 (.inr ⟨awC _,v,(h4.good (by rw[axA];exact hne))▸h4.bd.1,by have:=World.ownsRowF_of (h4.bd.2.2.base h4.high);rw[Lib.byteCells_length];exact this,h4.bd.ne⟩) hne);have hc1:=h.ms.le;have hc2:=h.ms.max;clear hlen hfit hend;go_enter func55,ntmps55
 go_wp2_with (first
  | ((with_reducible refine(HE.out _ aB).mono ?_);rintro r w1 ⟨rfl,aN⟩;obtain⟨c0,c1,c2,c3,c4⟩:=F8 (VB (JE w0 m) (aN.trans (Ev.alloc w1 (.cells #[.pointer none,↑()] 146)))))
  | ((with_reducible refine(HW.out _ (aB.trans aN) _ rfl).mono ?_);rintro r w2 ⟨rfl,x2,v2,S2⟩)
  | ((with_reducible refine(HS.out _ _ _ _ S2).mono ?_);rintro r w4 ⟨rfl,_,hb4,_⟩))
 go_ret;exact⟨rfl,(aB.trans aN).trans (Below.trans S2.ev hb4)⟩
end Go.Proofs.YtpbfokkocaemlaaGreatDoor
