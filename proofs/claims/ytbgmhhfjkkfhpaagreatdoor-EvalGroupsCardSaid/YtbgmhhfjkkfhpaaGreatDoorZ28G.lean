import Derived.Test.YtbgmhhfjkkfhpaaGreatDoorZ22G
import Derived.Test.YtbgmhhfjkkfhpaaGreatDoorZ16G
set_option linter.unusedVariables false
set_option maxRecDepth 100000
set_option maxHeartbeats 64000000
namespace Go.Proofs.YtbgmhhfjkkfhpaaGreatDoor
open Go.RowKit
open Go.Lib renaming hid → zq
open Go renaming World → ak
open Go renaming Value → au
open Go.Proofs.Tryz renaming prog → ax
open Go.Proofs.Tryz
mutual
def printS:T->By
 | .mk k s n kids _=>if k=1 then 40::(printL true kids++[41]) else if k=2 then s else if k=3 then Lib.itoa n else if k=4 then showV 2 0 ⟨s.toArray⟩ else []
def printL:Bool->List T->By
 | _,[]=>[]
 | b,t::l=>(if b then [] else [32])++(printS t++printL false l)
end
mutual
def BC:T->Bool
 | .mk _ _ n kids _=>decide (-9223372036854775808<=n)&&decide (n<=9223372036854775807)&&fitsAll kids
def fitsAll:List T->Bool
 | []=>true
 | t::l=>BC t&&fitsAll l
end
theorem qw:∀(l:List T) (b:Bool) (t:T),printL b (l++[t])=printL b l++((if b&&l.isEmpty then [] else [32])++printS t)
 | [],b,t=>by cases b<;>simp[printL]
 | a::l,b,t=>by have:=qw l false t;simp only[aDR,printL];rw[this];simp
theorem UC(l:List T)(k:Nat)(t:T)(h:l[k]?=some t):printL true (l.take (k+1))=printL true (l.take k)++((if k=0 then [] else [32])++printS t):=by
 obtain⟨hk,e⟩:=aC6.1 h;rw[aDi hk,qw,e];congr 2
 cases l with
 | nil=>simp at hk
 | cons a l=>cases k<;>simp
theorem FN:∀(l:List T) (b:Bool) (k:Nat),(printL b (l.take k)).length<=(printL b l).length
 | [],b,k=>by simp
 | a::l,b,0=>by simp[printL]
 | a::l,b,k+1=>by have:=FN l false k;simp only[aDX,printL,aDd];omega
theorem KX:∀(l:List T) (t:T),fitsAll l=true->t∈l->BC t=true
 | [],t,h,ht=>by cases ht
 | a::l,t,h,ht=>by simp only[fitsAll,aC9]at h;rcases aDg.1 ht with rfl|h2;exact h.1;exact KX l t h.2 h2
mutual
def xTree:T->T
 | .mk k s n l p=>if k==1 then .mk 2 s 0 [] 0 else if k==2 then .mk 3 [] n [] 0 else if k==3 then .mk 4 s 0 [] 0 else .mk 1 [] 0 (.mk 2 s 0 [] 0::xTrees l) 0
def xTrees:List T->List T
 | []=>[]
 | t::l=>xTree t::xTrees l
end
theorem xC:∀l:List T,xTrees l=l.map xTree
 | []=>rfl
 | t::l=>by simp[xTrees,xC l]
theorem F8(s:By):∀(rs:List FV) (done:List T),(xReads s done rs).2.1=0->(∀r∈rs,r.2.1=0)/\xReads s done rs=(.mk 4 s 0 (done++rs.map (·.1)) 0,0,0)
 | [],done,_=>⟨(λ_ h=>by cases h),by simp[xReads]⟩
 | r::rs,done,h=>by unfold xReads at h|-;by_cases hr:r.2.1=0;rw[if_pos (by simp[hr])]at h|-;obtain⟨h1,h2⟩:=F8 s rs (done++[r.1]) h;refine⟨λx hx=>?_,by rw[h2];simp⟩;rcases aDg.1 hx with rfl|hx;exact hr;exact h1 x hx;rw[if_neg (by simp[hr])]at h;exact absurd h hr
theorem LH(s:By):∀(rs:List FV) (done:List T),(∀r∈rs,r.2.1=0)->xReads s done rs=(.mk 4 s 0 (done++rs.map (·.1)) 0,0,0)
 | [],done,_=>by simp[xReads]
 | r::rs,done,h=>by unfold xReads;rw[if_pos (by simp[h r (aC' ..)]),LH s rs (done++[r.1]) λx hx=>h x (aDc _ hx)];simp
def U3(t:T):Prop:=(xRead t).2.1=0->xRead (xTree (xRead t).1)=((xRead t).1,0,0)/\printS (xTree (xRead t).1)=printS t
theorem PD:∀(q q':List T) (b:Bool),q.map printS=q'.map printS->printL b q=printL b q'
 | [],[],b,_=>rfl
 | [],_::_,b,h=>by simp at h
 | _::_,[],b,h=>by simp at h
 | t::q,t'::q',b,h=>by simp only[aDe,List.cons.injEq]at h;unfold printL;rw[h.1,PD q q' false h.2]
theorem Ci(s:By)(n:Int)(l:List T)(p:Nat):xRead (.mk 1 s n l p)=(match l with
  | []=>lF 12 p
  | h::q=>if h.kind==2&&!(dU h.s==0) then (if q.length==dU h.s then xReads h.s [] (q.map xRead) else lF 23 p) else lF 12 p):=by
 cases l with
 | nil=>rfl
 | cons h q=>simp only[xRead,rf];rfl
theorem abv(k:Int)(s:By)(n:Int)(l:List T)(p:Nat)(hb0:∀t∈l,U3 t):U3 (.mk k s n l p):=by
  intro h;by_cases k1:k=1;subst k1;rw[Ci]at h|-
  cases l with
  | nil=>simp[lF]at h
  | cons hd q=>
   simp only at h|-;by_cases hk:(hd.kind==2&&!(dU hd.s==0))=true;rw[if_pos hk]at h|-;by_cases hq:(q.length==dU hd.s)=true;rw[if_pos hq]at h|-;obtain⟨h1,h2⟩:=F8 hd.s _ [] h;have hb:∀t∈q,U3 t:=λt ht=>hb0 t (aDc _ ht);have hb1:∀t∈q,xRead (xTree (xRead t).1)=((xRead t).1,0,0)/\printS (xTree (xRead t).1)=printS t:=λt ht=>hb t ht (h1 _ (aDz.2 ⟨t,ht,rfl⟩));rw[h2];simp only[aDW,aDx];have ht:xTree (.mk 4 hd.s 0 (q.map ((λx=>x.1) ∘ xRead)) 0)=.mk 1 [] 0 (.mk 2 hd.s 0 [] 0::(q.map ((λx=>x.1) ∘ xRead)).map xTree) 0:=by rw[xTree,xC];rfl
   rw[ht,Ci];simp only[aC9,aDn]at hk;have hk2:(((T.mk 2 hd.s 0 [] 0).kind==2)&&!(dU (T.mk 2 hd.s 0 [] 0).s==0))=true:=by show ((2:Int)==2&&!(dU hd.s==0))=true;rw[hk.2];rfl
   refine⟨?_,?_⟩;simp only[hk2,aDL];rw[if_pos (by rw[aC_,aC_];exact hq),aDx,aDx];have he:q.map ((xRead ∘ xTree) ∘ ((λx=>x.1) ∘ xRead))=q.map λt=>((xRead t).1,(0:Int),0):=aDT λt ht=>(hb1 t ht).1;rw[he,LH _ _ _ (λr hr=>by obtain⟨t,_,rfl⟩:=aDz.1 hr;rfl)];simp only[aDW,aDx];rfl;have hp:printS hd=hd.s:=by
    cases hd with
    | mk k' s' n' l' p'=>
     have:k'=2:=hk.1;subst this;simp[printS,T.s]
   simp only[printS,aDL];rw[printL,printL];simp only[printS,aDL,hp];rw[PD _ q false (by
    rw[aDx,aDx];exact aDT λt ht=>(hb1 t ht).2)]
   simp;rw[if_neg hq]at h;exact absurd h (by simp[lF]);rw[if_neg hk]at h;exact absurd h (by simp[lF])
  by_cases k2:k=2;subst k2;simp only[xRead,aD_,aDL]at h|-;by_cases hn:kZ s=true;rw[if_pos hn];simp[xTree,xRead,hn,printS];rw[if_neg hn]at h;exact absurd h (by simp[lF]);by_cases k3:k=3;subst k3;exact⟨rfl,by simp[xRead,xTree,printS]⟩;by_cases k4:k=4;subst k4;exact⟨rfl,by simp[xRead,xTree,printS]⟩
  cases l<;>simp[xRead,k1,k2,k3,k4,lF]at h
mutual
theorem PG:∀t:T,U3 t
 | .mk k s n l p=>abv k s n l p (LJ l)
theorem LJ:∀(l:List T),∀t∈l,U3 t
 | [],t,h=>by cases h
 | a::l,t,h=>by rcases aDg.1 h with h|h;rw[h];exact PG a;exact LJ l t h
end
structure rG(w0:ak)(b:Nat)(x v:au)(l:By)(w:ak):Prop where
 bd:Bd b x v l w
 ev:Ev w0 w
 base:w0.heap.size<=b
 high:∀g,v.ownBlock=some g->w0.heap.size<=g
 good:l≠[]->x=.pointer ↑b
theorem rG.evs{w0:ak}{b:Nat}{x v:au}{l:By}{w w':ak}(h:rG w0 b x v l w)(hE:Ev w w'):rG w0 b x v l w':=⟨h.bd.ev hE,h.ev.trans hE,h.base,h.high,h.good⟩
theorem rG.step{w0:ak}{b:Nat}{x v v':au}{l l':By}{w w':ak}(h:rG w0 b x v l w)(hb:Bd b (.pointer ↑b) v' l' w')(hB:But (b::foot v) w w')(hs:dE w v v'):rG w0 b (.pointer ↑b) v' l' w':=
 ⟨hb,((But.aU (K:=b::foot v) h.ev).then hB).ev λk hk=>by
  rcases aDg.1 hk with rfl|hk;exact h.base;exact h.high k (aG.1 hk),h.base,λg hg=>by
  rcases hs g hg with h1|h1;exact h.high g h1;exact aDr h.ev.size h1,λ_=>rfl⟩
theorem rG.box{w0:ak}{b:Nat}{x v:au}{l:By}{w w1 w2:ak}{g:Nat}{o:Obj}(h:rG w0 b x v l w)(hg:w.heap.size<=g)(hE:Ev w w1)(ho:w1.heap[g]?=some o)(hB:But (b::foot v) w1 w2):w2.heap[g]?=some o:=by refine hB.heap ho λhm=>?_;rcases aDg.1 hm with h1|h1;have:=h.bd.lt;omega;have:=h.bd.2.2.lt (aG.1 h1);omega
def WriteAt(m:M)(w0:ak):Prop:=
 ∀(b:Nat) (x v:au) (l:By) (w':ak),rG w0 b x v l w'->l.length+(printS m.t).length<=1000000->BC m.t=true->
  Calls ax 173 #[.pointer ↑b,.agg ↑m] w' λr w''=>r=.returned (.tuple #[])/\∃x' v',rG w0 b x' v' (l++printS m.t) w''
theorem RV{w0:ak}{A:Option Addr}{nk cap:Nat}{kids:List M}(fU:Ms w0 A nk cap kids)(ih:∀k∈kids,WriteAt k w0)(L:List T)(hL:L=kids.map M.t)(hfit:fitsAll L=true)
  (b:Nat) (x v:au) (l:By) (w':ak) (hW:rG w0 b x v l w') (hlen:l.length+(printL true L).length+2<=1000000):
  Calls ax 222 #[.pointer ↑b,.slice A nk cap] w' λr w''=>r=.returned (.tuple #[])/\∃x' v',rG w0 b x' v' (l++(40::(printL true L++[41]))) w'':=by
 have H1:=λw1 (h1:rG w0 b x v l w1)=>iT b x v l 40 w1 h1.bd ae;simp only[show (((40:UInt8).toNat:Nat):Int)=40 from rfl]at H1;have H1:=zq H1;have Ob:kids.length=nk:=fU.len;have hc1:=fU.le;have hc2:=fU.max;have HNK:=zq Ob;have HL:=zq hL;have HF:=zq hfit;have Dk:=zq ih;have Px:=zq fU;clear Ob hL hfit ih fU;go_enter func222,ntmps222
 go_wp2_with (first|((with_reducible refine(H1.out _ hW).mono ?_);rintro e w1 ⟨rfl,v1,Oo,hB1,hS1⟩))
 have S1:=hW.step Oo hB1 hS1
 go_loopw [10] (λiv wr=>∃(q:Nat) (x v:au),q<=nk/\iv=↑q/\rG w0 b x v (l++(40::printL true (L.take q))) wr) (λiv _=>nk-(intOf iv).toNat)
 case atStart=>exact⟨0,_,_,aDl _,rfl,by simpa[printL] using S1⟩
 case round=>
  obtain⟨q,xr,vr,hq,rfl,SR⟩:=hrel;clear S1 hS1 hB1 Oo;have kN:=FN L true q;by_cases hlt:q<nk
  ·obtain⟨k,hk⟩:∃k,kids[q]?=some k:=⟨_,aDo (by rw[HNK.out];exact hlt)⟩
   have hmr:Ms wr A nk cap kids:=Px.out.ev SR.ev;obtain⟨bb,off,hAA,hbl,d0,d1,d2,d3,d4⟩:=hmr.cell hk;have hxL:L[q]?=some k.t:=by rw[HL.out,aDG,hk];rfl
   have wP:=UC L q k.t hxL;have hle:=FN L true (q+1);have hfx:=KX L k.t HF.out (aDb hxL);unfold M.kv at d3;have j1:(0:Int)<=(q:Int):=ae;have j2:(q:Int)<(nk:Int):=ae;have Gx:=KU wr k;by_cases hq0:q=0
   ·subst hq0;simp only[aDH,aDw]at d0 d1 d2 d3 d4;have hHP:∀w1,rG w0 b xr vr (l++(40::printL true (L.take 0))) w1->_:=λw1 (h1:rG w0 b xr vr (l++(40::printL true (L.take 0))) w1)=>Dk.out k (aDb hk) b xr vr _ w1 h1 (by rw[wP]at hle;simp at hle|-;omega) hfx;have HP:=zq hHP;have hout:l++(40::printL true (L.take 0))++printS k.t=l++(40::printL true (L.take (0+1))):=by rw[wP];simp
    have HO:=zq hout;simp only[Int.natCast_zero];rw[hAA];clear hout wP hle hfx hxL hmr hk hHP kN
    go_wp2_with (first|((with_reducible refine(HP.out _ (SR.evs aC)).mono ?_);rintro r w9 ⟨rfl,x9,v9,S9⟩;rw[HO.out]at S9))
    go_roundw
    case rel=>exact⟨1,x9,v9,ae,rfl,S9⟩
    case measure=>simp[intOf];omega
   have BU:0<q:=ae;have HB:=λw1 (h1:rG w0 b xr vr (l++(40::printL true (L.take q))) w1)=>iT b xr vr _ 32 w1 h1.bd (by simp;omega);simp only[show (((32:UInt8).toNat:Nat):Int)=32 from rfl]at HB;have HB:=zq HB;have HP:=zq (λw1 x v (h1:rG w0 b x v (l++(40::printL true (L.take q))++[32]) w1)=>Dk.out k (aDb hk) b x v _ w1 h1 (by rw[wP]at hle;simp[hq0]at hle|-;omega) hfx);have hout:l++(40::printL true (L.take q))++[32]++printS k.t=l++(40::printL true (L.take (q+1))):=by rw[wP];simp[hq0]
   have HO:=zq hout;rw[hAA];clear hout wP hle hfx hxL hmr hk kN
   go_wp2_with (first
    | ((with_reducible refine(HB.out _ (SR.evs aC)).mono ?_);rintro r w8 ⟨rfl,v8,hD8,Gy,TK⟩;have S8:=(SR.evs aC).step hD8 Gy TK;obtain⟨c0,c1,c2,c3,c4⟩:=FK (SR.box (aC8 _) aC Gx Gy))
    | ((with_reducible refine(HP.out _ _ _ S8).mono ?_);rintro r w9 ⟨rfl,x9,v9,S9⟩;rw[HO.out]at S9))
   go_roundw
   case rel=>exact⟨q+1,x9,v9,ae,by go_num,S9⟩
   case measure=>simp[intOf];omega
  obtain rfl:q=nk:=ae;have HB:=λw1 (h1:rG w0 b xr vr (l++(40::printL true (L.take q))) w1)=>iT b xr vr _ 41 w1 h1.bd (by simp;omega);simp only[show (((41:UInt8).toNat:Nat):Int)=41 from rfl]at HB;have HB:=zq HB;have hout:l++(40::printL true (L.take q))++[41]=l++(40::(printL true L++[41])):=by rw[aDj (by rw[HL.out,aC_,HNK.out];exact aC8 _)];simp
  have HO:=zq hout;clear hout kN
  go_wp2_with (first|((with_reducible refine(HB.out _ SR).mono ?_);rintro r w8 ⟨rfl,v8,hD8,Gy,TK⟩;have S8:=SR.step hD8 Gy TK;rw[HO.out]at S8))
  go_end0;exact⟨rfl,_,_,S8⟩
theorem P_(n:Int):showV 1 n ⟨#[]⟩=Lib.itoa n:=by
 have h:ed 1 n ⟨#[]⟩=true:=by unfold ed;rw[if_pos rfl];simp[Lib.toList_data]
 unfold showV;rw[if_pos h,if_pos rfl]
theorem ae5{w0:ak}(hT:Tab w0){b0:Nat}{K:List Nat}{m:M}(h:Lies b0 K w0 m):WriteAt m w0:=by
 induction h with
 | @mk kind s n A cap kids pos fU hA qm ih=>
  intro b x v l w' hW hlen hfit;simp only[M.t,M.vz,printS,BC,aC9,aDV]at hlen hfit|-;obtain⟨⟨KO,uC⟩,hfk⟩:=hfit;simp only[M.kind,M.s,M.n,M.A,M.kids,M.cap,M.pos] at*;have hTr:Tab w':=hT.ev hW.ev;by_cases k1:kind=1
  ·subst k1;simp only[aDL]at hlen|-;have HO:=zq (λw1 (h1:rG w0 b x v l w1)=>RV fU ih (kids.map M.t) rfl hfk b x v l w1 h1 (by simp at hlen;omega));have hc1:=fU.le;have hc2:=fU.max;have HW:=zq hW;clear fU ih hfk KO uC hlen hA qm;go_enter func173,ntmps173
   go_wp2_with (first|((with_reducible refine(HO.out _ (HW.out.evs aC)).mono ?_);rintro r w9 ⟨rfl,x9,v9,S9⟩))
   go_end0;exact⟨rfl,_,_,S9⟩
  rw[if_neg k1]at hlen|-;by_cases k2:kind=2
  ·subst k2;simp only[aDL]at hlen|-;have HB:=zq (λw1 (h1:rG w0 b x v l w1)=>zM b x v l ⟨s.toArray⟩ w1 h1.bd (by rw[fJ];omega));have HW:=zq hW;clear fU ih hfk KO uC hlen hA qm;go_enter func173,ntmps173
   go_wp2_with (first|((with_reducible refine(HB.out _ (HW.out.evs aC)).mono ?_);rintro r w9 ⟨rfl,v9,hD9,hB9,hS9⟩;have S9:=(HW.out.evs aC).step hD9 hB9 hS9))
   go_end0;exact⟨rfl,_,_,S9⟩
  rw[if_neg k2]at hlen|-;by_cases k3:kind=3
  ·subst k3;simp only[aDL]at hlen|-;have HN:=zq (λw1=>value_num n w1);have HS:=zq (λw1 (h1:Tab w1)=>KW 1 n ⟨#[]⟩ w1 h1 KO uC);have HB:=zq (λw1 (h1:rG w0 b x v l w1)=>zM b x v l ⟨(showV 1 n ⟨#[]⟩).toArray⟩ w1 h1.bd (by rw[fJ,P_];omega));have HW:=zq hW;have HT:=zq hTr;clear fU ih hfk KO uC hlen hA qm hTr;go_enter func173,ntmps173
   go_wp2_with (first
    | ((with_reducible refine(HN.out _).mono ?_);rintro r w7 ⟨rfl,hE7⟩)
    | ((with_reducible refine(HS.out _ (HT.out.ev (aC.trans hE7))).mono ?_);rintro r w8 ⟨rfl,Bf⟩)
    | ((with_reducible refine(HB.out _ (HW.out.evs ((aC.trans hE7).trans Bf))).mono ?_);rintro r w9 ⟨rfl,v9,hD9,hB9,hS9⟩;have S9:=(HW.out.evs ((aC.trans hE7).trans Bf)).step hD9 hB9 hS9))
   go_end0;rw[P_]at S9;exact⟨rfl,_,_,S9⟩
  rw[if_neg k3]at hlen|-;by_cases k4:kind=4
  ·subst k4;simp only[aDL]at hlen|-;have HN:=zq (λw1=>aaD ⟨s.toArray⟩ w1);have HS:=zq (λw1 (h1:Tab w1)=>KW 2 0 ⟨s.toArray⟩ w1 h1 ae ae);have HB:=zq (λw1 (h1:rG w0 b x v l w1)=>zM b x v l ⟨(showV 2 0 ⟨s.toArray⟩).toArray⟩ w1 h1.bd (by rw[fJ];omega));have HW:=zq hW;have HT:=zq hTr;clear fU ih hfk KO uC hlen hA qm hTr;go_enter func173,ntmps173
   go_wp2_with (first
    | ((with_reducible refine(HN.out _).mono ?_);rintro r w7 ⟨rfl,hE7⟩)
    | ((with_reducible refine(HS.out _ (HT.out.ev (aC.trans hE7))).mono ?_);rintro r w8 ⟨rfl,Bf⟩)
    | ((with_reducible refine(HB.out _ (HW.out.evs ((aC.trans hE7).trans Bf))).mono ?_);rintro r w9 ⟨rfl,v9,hD9,hB9,hS9⟩;have S9:=(HW.out.evs ((aC.trans hE7).trans Bf)).step hD9 hB9 hS9))
   go_end0;exact⟨rfl,_,_,S9⟩
  rw[if_neg k4];simp only[aD5];have HW:=zq hW;clear fU ih hfk KO uC hlen hA qm hTr;go_enter func173,ntmps173;go_wp2;go_end0;exact⟨rfl,_,_,HW.out.evs aC⟩
theorem ae6{w0:ak}(hT:Tab w0){b0:Nat}{K:List Nat}{m:M}(h:Lies b0 K w0 m)(hlen:(printS m.t).length<=1000000)(hne:printS m.t≠[])(hfit:BC m.t=true)
  (hend:∀w',Ev w0 w'->Calls ax 172 #[.agg ↑m] w' λr w''=>r=.returned (.bool true)/\Ev w' w''):
  Calls ax 120 #[.agg ↑m] w0 λr w''=>r=.returned (.string ⟨(printS m.t).toArray⟩)/\Ev w0 w'':=by
 have HE:=zq hend;have HW:=zq (λwa (hE:Ev w0 wa) wb (ZF:wb=wa.alloc (.cells #[.pointer none,↑()] 244))=>by
  have D0:Bd wa.heap.size (.pointer none) ↑() [] wb:=by rw[ZF];exact⟨aFd wa _,.inl rfl,Row.nil_ _⟩
  have aV:Ev wa wb:=ZF▸Ev.alloc wa _;exact ae5 (hT.ev hE) (h.ev hE) wa.heap.size (.pointer none) ↑() [] wb ⟨D0,aV,aC8 _,λg hg=>(by cases hg),λh=>absurd rfl h⟩ (by simpa using hlen) hfit)
 have HS:=zq (λ(wa:ak) (x v:au) (w4:ak) (h4:rG wa wa.heap.size x v (([]:By)++printS m.t) w4)=>Tryz.Builder_String_k wa.heap.size wa.heap.size (printS m.t) w4 (.inr ⟨aC8 _,v,(h4.good (by rw[aDW];exact hne))▸h4.bd.1,by have:=World.ownsRowF_of (h4.bd.2.2.base h4.high);rw[Lib.byteCells_length];exact this,h4.bd.ne⟩) hne);have hc1:=h.ms.le;have hc2:=h.ms.max;clear hlen hfit hend;go_enter func120,ntmps120
 go_wp2_with (first
  | ((with_reducible refine(HE.out _ aC).mono ?_);rintro r w1 ⟨rfl,aJ⟩;obtain⟨c0,c1,c2,c3,c4⟩:=FK (adO (KU w0 m) (aJ.trans (Ev.alloc w1 (.cells #[.pointer none,↑()] 244)))))
  | ((with_reducible refine(HW.out _ (aC.trans aJ) _ rfl).mono ?_);rintro r w2 ⟨rfl,x2,v2,S2⟩)
  | ((with_reducible refine(HS.out _ _ _ _ S2).mono ?_);rintro r w4 ⟨rfl,_,hb4,_⟩))
 go_ret;exact⟨rfl,(aC.trans aJ).trans (Below.trans S2.ev hb4)⟩
end Go.Proofs.YtbgmhhfjkkfhpaaGreatDoor
