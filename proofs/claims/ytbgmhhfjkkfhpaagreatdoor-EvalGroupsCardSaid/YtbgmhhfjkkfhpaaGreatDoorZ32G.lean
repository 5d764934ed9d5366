import Derived.Test.YtbgmhhfjkkfhpaaGreatDoorZ29G
import Derived.Test.YtbgmhhfjkkfhpaaGreatDoorZ30G
set_option linter.unusedVariables false
set_option maxRecDepth 100000
set_option maxHeartbeats 64000000
namespace Go.Proofs.YtbgmhhfjkkfhpaaGreatDoor
open Go.RowKit
open Go.Lib renaming hid → zq
open Go renaming World → ak
open Go.Proofs.Tryz renaming prog → ax
variable {U:Prop}
open Go.Proofs.Tryz
theorem Py{p:UInt8->Bool}{c:UInt8}{q:By}(h:p c=true):(c::q).take (sxRun p (c::q))=c::q.take (sxRun p q):=by simp[sxRun,h]
theorem Pz(c:UInt8)(q:By)(hq:q.length<=600)(h:(bJ (c::q)).why=0):
  ((bJ (c::q)).kind=1/\(bJ (c::q)).s=[]/\(bJ (c::q)).n=0)∨(bJ (c::q)).kind=-1∨gB (bJ (c::q)).kind (bJ (c::q)).s (bJ (c::q)).n []=true:=by
 revert h
 simp only[bJ];split;exact λ_=>.inl ⟨rfl,rfl,rfl⟩;split;exact λ_=>.inr (.inl rfl);split;intro h;have h1:=DN q.length q [] 1 (aC8 _);have h2:=La q.length q [] 1 (aC8 _);have h3:=((kU q.length q [] 1 (aC8 _)).2 h).1;right;right;rw[h2,h3];unfold gB;simp[h1];split;simp only[dL];split;intro h;have h1:=Jp false (dC q) (eF q);have h2:=((kP false (dC q) (eF q)).2 h).1;right;right;rw[h1.2,h2];have h3:=h1.1;unfold y7 at h3;unfold gB;simp[h3];intro h;have h1:=Jp true (dC (c::q)) (eF (c::q));have h2:=((kP true (dC (c::q)) (eF (c::q))).2 h).1;right;right;rw[h1.2,h2];have h3:=h1.1;unfold y7 at h3;unfold gB;simp[h3];split;rename_i hl;intro _;right;right;rw[Py hl];have hall:(c::q.take (sxRun bC q)).all bC=true:=by rw[<-Py hl,aDs];exact FC bC (c::q)
 have hlen:(c::q.take (sxRun bC q)).length<=1000:=by simp only[aDh,aDP];omega
 unfold gB;rw[hall,aDE hlen];rfl;intro h;simp[aW]at h
theorem XN(c:UInt8)(q:By)(h:(c.toNat==41)=false):(bJ (c::q)).kind≠-1:=by simp only[bJ,h,aDq,aDU];split;intro h1;cases h1;split;intro h1;by_cases uM:(sxTextGo [] q 1).why=0;rw[((kU q.length q [] 1 (aC8 _)).2 uM).1]at h1;cases h1;rw[((kU q.length q [] 1 (aC8 _)).1 uM).1]at h1;cases h1;split;simp only[dL];split;intro h1;by_cases uM:(sxNum false (dC q)).why=0;rw[((kP false (dC q) (eF q)).2 uM).1]at h1;cases h1;rw[((kP false (dC q) (eF q)).1 uM).1]at h1;cases h1;intro h1;by_cases uM:(sxNum true (dC (c::q))).why=0;rw[((kP true (dC (c::q)) (eF (c::q))).2 uM).1]at h1;cases h1;rw[((kP true (dC (c::q)) (eF (c::q))).1 uM).1]at h1;cases h1;split;intro h1;cases h1;intro h1;cases h1
def InvAt:Nat->List T->Prop
 | _,[]=>True
 | j,e::os=>(j=0∨(e.kind=1/\e.s=[]/\e.n=0/\j<=12))/\(∀k∈e.kids,k.fine=true/\j+k.deep<=12)/\InvAt (j+1) os
theorem Q9:∀(os:List T) (j:Nat) (t:T),InvAt j os->t.fine=true->j+os.length+t.deep<=13->InvAt j (sxPut os t)
 | [],j,t,h,_,_=>trivial
 | [e],j,t,h,ht,hd=>by refine⟨h.1.imp id λh=>h,λk hk=>?_,trivial⟩;rw[T.Uy]at hk;rcases aDm.1 hk with h1|h1;exact h.2.1 k h1;simp at h1;subst h1;simp at hd;exact⟨ht,ae⟩
 | e::e'::os,j,t,h,ht,hd=>by refine⟨h.1,h.2.1,Q9 (e'::os) (j+1) t h.2.2 ht ?_⟩;simp only[aDh]at hd|-;omega
theorem LC:∀(os:List T) (j:Nat) (e:T),InvAt j (os++[e])↔(InvAt j os/\InvAt (j+os.length) [e])
 | [],j,e=>by simp[InvAt]
 | a::os,j,e=>by simp only[aDR,InvAt,LC os (j+1) e,aDh];rw[show j+1+os.length=j+(os.length+1) by omega];constructor;rintro⟨h1,h2,h3,h4⟩;exact⟨⟨h1,h2,h3⟩,h4⟩;rintro⟨⟨h1,h2,h3⟩,h4⟩;exact⟨h1,h2,h3,h4⟩
theorem U0:∀(l:List T) (d:Nat),(∀k∈l,k.deep<=d)->T.lM l<=d
 | [],d,_=>by simp[T.lM]
 | a::l,d,h=>by have h1:=h a (aC' ..);have h2:=U0 l d λk hk=>h k (aDc _ hk);rw[T.lM];omega
theorem FZ:∀l:List T,T.uI l=l.all T.fine
 | []=>rfl
 | t::l=>by simp[T.uI,FZ l]
theorem ahL(os:List T)(e:T)(h0:os≠[])(h:InvAt 0 (os++[e])):InvAt 0 (sxPut os e):=by
 obtain⟨h1,h2,h3,_⟩:=(LC os 0 e).1 h;have hpos:0<os.length:=by cases os with|nil=>exact absurd rfl h0|cons a b=>simp
 rcases h2 with h2|⟨k1,k2,k3,k4⟩
 omega;rw[aDt]at h3 k4;refine Q9 os 0 e h1 ?_ ?_;cases e with
 | mk k s n l p=>
  simp only[T.kind,T.s,T.n]at k1 k2 k3;subst k1 k2 k3;rw[T.fine,FZ];have:l.all T.fine=true:=aDs.2 λx hx=>(h3 x hx).1;rw[this];rfl
 cases e with
 | mk k s n l p=>
  simp only[T.kind]at k1;subst k1;rw[T.deep,if_pos rfl];have:=U0 l (12-os.length) λx hx=>by have:=(h3 x hx).2;omega
  omega
theorem U1(os:List T)(pos:Nat)(h:InvAt 0 os)(hl:os.length<=12):InvAt 0 (os++[.mk 1 [] 0 [] pos]):=by refine(LC os 0 _).2 ⟨h,.inr ⟨rfl,rfl,rfl,ae⟩,(λk hk=>by cases hk),trivial⟩
theorem abu{k:Int}{s:By}{n:Int}{p:Nat}(h:gB k s n []=true):(T.mk k s n [] p).fine=true/\(T.mk k s n [] p).deep=0/\k≠1/\k≠-1:=by obtain⟨c,q,h1,h2,h3,h4,h5,_⟩:=FY (p:=p) h (r:=[]) (.inl rfl);have h4':=aC7.1 h4;refine⟨by rw[T.fine,h,Bool.or_true],by rw[T.deep,if_neg h4'],h4',aC7.1 h5⟩
def F7(r:Res):Prop:=r.2.1=0->r.1.fine=true/\r.1.deep<=12/\r.1.size<=601
theorem jd{t:T}{why:Int}{pos:Nat}(h:why≠0):F7 (t,why,pos):=λh0=>absurd h0 h
theorem Ia(os:List T)(pos:Nat)(h:InvAt 0 os)(hs:(os.map T.size).sum<=601):F7 (jX os pos):=by
 unfold jX
 cases os with
 | nil=>exact jd ai
 | cons e os=>
  cases hk:e.kids with
  | nil=>simp only[hk];exact jd ai
  | cons t l=>
   simp only[hk];intro _;have h1:=h.2.1 t (by rw[hk];exact aC' ..);have:=T.size_eq e;rw[hk]at this;simp only[aDe,aDI]at this hs;exact⟨h1.1,(by show t.deep<=12;omega),(by show t.size<=601;omega)⟩
theorem aei{os:List T}(h:os≠[])(t:T):sxPut os t≠[]:=by
 intro h2;have:=rP os t;rw[h2]at this
 cases os with
 | nil=>exact h rfl
 | cons a b=>simp at this
theorem Cf(os:List T)(x:Tk)(pos:Nat)(h0:os≠[])(h:InvAt 0 os)(h13:os.length<=13)(hx:(x.kind=1/\x.s=[]/\x.n=0)∨x.kind=-1∨gB x.kind x.s x.n []=true)(h1:x.kind=-1->os.length≠1)(h2:x.kind=1->os.length<=12):
  sxTake os (x.tree pos)≠[]/\InvAt 0 (sxTake os (x.tree pos))/\(sxTake os (x.tree pos)).length<=13/\((sxTake os (x.tree pos)).map T.size).sum<=(os.map T.size).sum+1:=by
 rcases hx with⟨k1,k2,k3⟩|k1|k1;have e:sxTake os (x.tree pos)=os++[.mk 1 [] 0 [] pos]:=by unfold sxTake Tk.tree;simp[T.kind,k1,k2,k3]
 rw[e];refine⟨aj,U1 os pos h (h2 k1),by have:=h2 k1;simp;omega,by simp[T.size,T.sizes]⟩;have e:sxTake os (x.tree pos)=rfPop os:=by unfold sxTake Tk.tree rfPop;simp only[T.kind,k1];rfl
 rw[e];have hsum:=ZM os;unfold rfPop at hsum|-
 cases hl:os.getLast? with
 | none=>
  rw[List.getLast?_eq_none_iff]at hl;exact absurd hl h0
 | some y=>
  rw[aEX]at hl;obtain⟨l,rfl⟩:=hl;simp only[List.dropLast_concat,List.getLast?_concat]at hsum|-;have hl0:l≠[]:=by rintro rfl;exact h1 k1 rfl
  refine⟨aei hl0 y,ahL l y hl0 h,?_,ae⟩;rw[rP];simp at h13;omega
 obtain⟨f1,f2,f3,f4⟩:=abu (p:=pos) k1;have e:sxTake os (x.tree pos)=sxPut os (.mk x.kind x.s x.n [] pos):=by unfold sxTake Tk.tree;simp[T.kind,f3,f4]
 rw[e];have hp:=Jq os (.mk x.kind x.s x.n [] pos);have hz:(T.mk x.kind x.s x.n [] pos).size=1:=rfl;refine⟨aei h0 _,Q9 os 0 _ h f1 (by rw[f2];omega),by rw[rP];exact h13,ae⟩
theorem LD:∀(f:Nat) (os:List T) (r:By) (pos:Nat),os≠[]->InvAt 0 os->os.length<=13->(os.map T.size).sum<=pos+1->pos+r.length<=600->F7 (sxGo f os r pos)
 | 0,_,_,_,_,_,_,_,_=>jd ai
 | f+1,os,r,pos,h0,h,h13,hs,hp=>by
  unfold sxGo;have hrl:=jJ dA r;have hdl:(r.drop (sxRun dA r)).length=r.length-sxRun dA r:=aDD ..
  cases hd:r.drop (sxRun dA r) with
  | nil=>exact Ia os _ h ae
  | cons c q=>
   simp only;rw[hd]at hdl;simp only[aDh]at hdl;split;rename_i hj;have wO:=vV c q;obtain⟨j1,j2,j3,j4⟩:=KR wO (by simpa using hj);have hg:=wO.good j1;have zk:=Pz c q ae j1;generalize bJ (c::q)=x at*;obtain⟨t1,t2,t3,t4⟩:=Cf os x (pos+sxRun dA r) h0 h h13 zk j2 j4;refine LD f _ _ _ t1 t2 t3 (by have:=hg.1;omega) ?_;rw[aDD,aDh];have:=hg.2.1;simp only[aDh]at this;omega;rename_i hj;exact jd (by simpa using hj)
theorem aej(l:By):F7 (fH l):=by unfold fH;split;exact jd ai;exact LD _ _ _ _ aj ⟨.inl rfl,(λk hk=>by cases hk),trivial⟩ aj (by decide+kernel) ae
theorem sU:∀(f:Nat) (os:List T) (r:By) (pos:Nat),os≠[]->InvAt 0 os->os.length<=13->(os.map T.size).sum<=pos+1->pos+r.length<=600->F7 (rfGo f os r pos)
 | 0,_,_,_,_,_,_,_,_=>jd ai
 | f+1,os,[],pos,h0,h,h13,hs,hp=>by unfold rfGo Jn;split;exact jd ai;exact Ia _ _ h (by simp at hp;omega)
 | f+1,os,c::q,pos,h0,h,h13,hs,hp=>by
  simp only[aDh]at hp;unfold rfGo;split;exact sU f _ _ _ h0 h h13 ae ae;split;split;exact jd ai;rename_i h41 Uj;obtain⟨t1,t2,t3,t4⟩:=Cf os ⟨-1,[],0,1,0,0⟩ pos h0 h h13 (.inr (.inl rfl)) (λ_=>by simpa using Uj) (λh=>by cases h);have e:sxTake os ((Tk.mk (-1) [] 0 1 0 0).tree pos)=rfPop os:=rfl;rw[e]at t1 t2 t3 t4;exact sU f _ _ _ t1 t2 t3 ae ae;split;exact jd ai;split;exact jd ai;split;split;exact jd ai;rename_i h12;refine sU f _ _ _ aj (U1 os pos h ae) (by simp;omega) ?_ ae;simp[T.size,T.sizes];omega;split;rename_i IU hw;have h41:¬(c.toNat==41)=true:=by assumption
  have hw':(bJ (c::q)).why=0:=by simpa using hw
  have hg:=(vV c q).good hw';have zk:=Pz c q ae hw';have hk:(bJ (c::q)).kind≠1/\(bJ (c::q)).kind≠-1:=by
   constructor;intro h1;rcases hg.2.2 with⟨_,h2⟩|h2|⟨h2,_⟩|⟨h2,_⟩|⟨h2,_⟩
   rw[h2]at IU;exact absurd rfl IU;rw[h1]at h2;cases h2;rw[h1]at h2;cases h2;rw[h1]at h2;cases h2;rw[h1]at h2;cases h2;exact XN c q (by simpa using h41)
  generalize bJ (c::q)=x at*;obtain⟨t1,t2,t3,t4⟩:=Cf os x pos h0 h h13 zk (λh=>absurd h hk.2) (λh=>absurd h hk.1);have e:sxTake os (x.tree pos)=sxPut os (x.tree pos):=by unfold sxTake Tk.tree;simp[T.kind,hk.1,hk.2]
  rw[e]at t1 t2 t3 t4;refine sU f _ _ _ t1 t2 t3 (by have:=hg.1;omega) ?_;rw[aDD,aDh];have:=hg.2.1;simp only[aDh]at this;omega;rename_i hw;exact jd (by simpa using hw)
theorem U2(l:By):F7 (fP l):=by unfold fP;split;exact jd ai;exact sU _ _ _ _ aj ⟨.inl rfl,(λk hk=>by cases hk),trivial⟩ aj (by decide+kernel) ae
mutual
theorem lC:∀t:T,t.fine=true->t.every dY=true/\t.every Lr=true
 | .mk k s n l p,h=>by
  have hl:=LG l;have uj:y7 0:=ai;rw[T.fine,aDC]at h;rw[T.every,T.every];rcases h with h|h;simp only[aC9,aDn,aEZ]at h;obtain⟨⟨⟨rfl,rfl⟩,rfl⟩,h4⟩:=h;obtain⟨h5,h6⟩:=hl h4;rw[h5,h6,qx uj aj];exact⟨rfl,rfl⟩;unfold gB at h;simp only[aDC,aC9,aDn,aDV,aEJ,aEZ,aDs]at h;rcases h with (⟨⟨⟨rfl,hs,_⟩,rfl,h1⟩,rfl⟩|⟨⟨⟨rfl,rfl⟩,h1,h2⟩,rfl⟩)|⟨⟨⟨rfl,hs⟩,rfl⟩,rfl⟩
  rw[qx uj ae];exact⟨rfl,rfl⟩;rw[qx ⟨h1,h2⟩ aj];exact⟨rfl,rfl⟩;rw[qx uj ae];refine⟨rfl,?_⟩;unfold Lr;simp[T.kind,T.s,hs,T.everys]
theorem LG:∀l:List T,T.uI l=true->T.everys dY l=true/\T.everys Lr l=true
 | [],_=>⟨rfl,rfl⟩
 | t::l,h=>by rw[T.uI,aC9]at h;have h1:=lC t h.1;have h2:=LG l h.2;rw[T.everys,T.everys,h1.1,h1.2,h2.1,h2.2];exact⟨rfl,rfl⟩
end
abbrev Ag:=By×By×By
inductive Pl where
 | mk (kind:Int) (name:By) (exprs:List T) (cols left right:List By) (zo:List Ag) (kids:List Pl):Pl
def Pl.kind:Pl->Int
 | .mk k _ _ _ _ _ _ _=>k
def Pl.name:Pl->By
 | .mk _ s _ _ _ _ _ _=>s
def Pl.exprs:Pl->List T
 | .mk _ _ l _ _ _ _ _=>l
def Pl.cols:Pl->List By
 | .mk _ _ _ l _ _ _ _=>l
def Pl.left:Pl->List By
 | .mk _ _ _ _ l _ _ _=>l
def Pl.right:Pl->List By
 | .mk _ _ _ _ _ l _ _=>l
def Pl.zo:Pl->List Ag
 | .mk _ _ _ _ _ _ l _=>l
def Pl.kids:Pl->List Pl
 | .mk _ _ _ _ _ _ _ l=>l
def uN:Pl:=.mk 0 [] [] [] [] [] [] []
def gm:By:=[116,97,98,108,101]
def gK:By:=[102,105,108,116,101,114]
def fA:By:=[112,114,111,106,101,99,116]
def lS:By:=[106,111,105,110]
def iw:By:=[117,110,105,111,110]
def fD:By:=[100,105,115,116,105,110,99,116]
def dX:By:=[103,114,111,117,112]
def dW:By:=[99,111,117,110,116]
def lG:By:=[115,117,109]
def lY:By:=[109,105,110]
def lZ:By:=[109,97,120]
def aT(s:By):T:=.mk 2 s 0 [] 0
def dh(l:List T):T:=.mk 1 [] 0 l 0
def bH(l:List By):T:=dh (l.map aT)
def eH(a:Ag):T:=dh (if a.2.2.isEmpty then [aT a.1,aT a.2.1] else [aT a.1,aT a.2.1,aT a.2.2])
def iV(c:By)(e:T):T:=dh [aT c,xTree e]
def kQ(k:Int)(nm:By)(es:List T)(cs lf rt:List By)(ag:List Ag):List T:=
 if k=1 then [aT gm,aT nm]
 else if k=2 then aT gK::es.map xTree
 else if k=3 then aT fA::List.zipWith iV cs es
 else if k=4 then [aT lS,bH lf,bH rt]
 else if k=5 then [aT iw]
 else if k=6 then [aT fD]
 else if k=7 then aT dX::bH lf::ag.map eH
 else []
mutual
def aI:Pl->T
 | .mk k nm es cs lf rt ag l=>dh (kQ k nm es cs lf rt ag++pTrees l)
def pTrees:List Pl->List T
 | []=>[]
 | p::l=>aI p::pTrees l
end
theorem sW:∀l:List Pl,pTrees l=l.map aI
 | []=>by simp[pTrees]
 | p::l=>by simp[pTrees,sW l]
def fG(s:By):Nat:=if s==gm then 1 else if s==gK then 2 else if s==fA then 3 else if s==lS then 4 else if s==iw then 5 else if s==fD then 6 else if s==dX then 7 else 0
abbrev at_(l:List T)(i:Nat):T:=l.getD i dQ
def bT(t:T):Bool:=t.kind==2
def dI(t:T):Bool:=t.kind==1&&t.kids.all bT
def fM(t:T):Bool:=t.kind==1&&t.kids.length==2&&bT (at_ t.kids 0)
def dR(t:T):Bool:=dI t&&(t.kids.length==2||t.kids.length==3)
def pFormOf(k:Nat)(q:List T):Bool:=
 match k with
 | 1=>q.length==1&&bT (at_ q 0)
 | 2=>q.length==2
 | 3=>decide (2<=q.length)&&(q.take (q.length-1)).all fM
 | 4=>q.length==4&&(q.take 2).all dI
 | 5=>q.length==2
 | 6=>q.length==1
 | 7=>decide (2<=q.length)&&dI (at_ q 0)&&((q.take (q.length-1)).drop 1).all dR
 | _=>false
def h_(t:T):Bool:=t.kind==1&&decide (2<=t.kids.length)&&bT (at_ t.kids 0)&&pFormOf (fG (at_ t.kids 0).s) (t.kids.drop 1)
def LP(t:T):By:=(at_ t.kids 0).s
def LQ(t:T):T:=(xRead (at_ t.kids 1)).1
def jV(t:T):Ag:=((at_ t.kids 0).s,(at_ t.kids 1).s,if t.kids.length==3 then (at_ t.kids 2).s else [])
def pMake(k:Nat)(q:List T)(ps:List Pl):Pl:=
 match k with
 | 1=>.mk 1 (at_ q 0).s [] [] [] [] [] []
 | 2=>.mk 2 [] [(xRead (at_ q 0)).1] [] [] [] [] (ps.drop 1)
 | 3=>.mk 3 [] ((q.take (q.length-1)).map LQ) ((q.take (q.length-1)).map LP) [] [] [] (ps.drop (q.length-1))
 | 4=>.mk 4 [] [] [] ((at_ q 0).kids.map T.s) ((at_ q 1).kids.map T.s) [] (ps.drop 2)
 | 5=>.mk 5 [] [] [] [] [] [] ps
 | 6=>.mk 6 [] [] [] [] [] [] ps
 | _=>.mk 7 [] [] [] ((at_ q 0).kids.map T.s) [] (((q.take (q.length-1)).drop 1).map jV) (ps.drop (q.length-1))
mutual
def pPlan:T->Pl
 | .mk k s n l p=>if h_ (.mk k s n l p) then pMake (fG (at_ l 0).s) (l.drop 1) ((pPlans l).drop 1) else uN
def pPlans:List T->List Pl
 | []=>[]
 | t::l=>pPlan t::pPlans l
end
theorem xE:∀l:List T,pPlans l=l.map pPlan
 | []=>by simp[pPlans]
 | p::l=>by simp[pPlans,xE l]
abbrev Er:=Int×Nat
def iy(a b:Er):Er:=if a.1==0&&!(b.1==0) then b else a
def aX(l:List Er):Er:=l.foldl iy (0,0)
def bQ(t:T):Er:=if kZ t.s then (0,0) else (20,t.pos)
def oC(t:T):Er:=((xRead t).2.1,(xRead t).2.2)
def isFun(f:By)(of:Bool):Bool:=if f==lG||f==lY||f==lZ then of else if f==dW then !of else false
def ru(t:T):List Er:=[bQ (at_ t.kids 0),oC (at_ t.kids 1)]
def dS(t:T):List Er:=[bQ (at_ t.kids 0),if isFun (at_ t.kids 1).s (t.kids.length==3) then (0,0) else (12,(at_ t.kids 1).pos),if t.kids.length==3 then bQ (at_ t.kids 2) else (0,0)]
def xG(k:Nat)(q:List T)(es:List Er):List Er:=
 match k with
 | 1=>[bQ (at_ q 0)]
 | 2=>oC (at_ q 0)::es.drop 1
 | 3=>(q.take (q.length-1)).flatMap ru++es.drop (q.length-1)
 | 4=>(at_ q 0).kids.map bQ++((at_ q 1).kids.map bQ++es.drop 2)
 | 5=>es
 | 6=>es
 | _=>(at_ q 0).kids.map bQ++(((q.take (q.length-1)).drop 1).flatMap dS++es.drop (q.length-1))
mutual
def dD:T->Er
 | .mk k s n l p=>if h_ (.mk k s n l p) then aX (xG (fG (at_ l 0).s) (l.drop 1) ((DR l).drop 1)) else (12,p)
def DR:List T->List Er
 | []=>[]
 | t::l=>dD t::DR l
end
theorem Aq:∀l:List T,DR l=l.map dD
 | []=>by simp[DR]
 | p::l=>by simp[DR,Aq l]
theorem F_(a b c:Er):iy (iy a b) c=iy a (iy b c):=by
 unfold iy
 cases h1:a.1==0<;>cases h2:b.1==0<;>cases h3:c.1==0<;>simp[h1,h2,h3]
theorem zt(a:Er):iy a (0,0)=a:=by simp[iy]
theorem DT(a b:Er):(iy a b).1=0↔a.1=0/\b.1=0:=by
 unfold iy
 cases h1:a.1==0<;>cases h2:b.1==0<;>simp_all
theorem U4(a y:Er):iy a (iy (0,0) y)=iy a y:=by cases h:y.1==0<;>simp[iy,h]
theorem jF:∀(l:List Er) (a:Er),l.foldl iy a=iy a (aX l)
 | [],a=>by simp[aX,zt]
 | e::l,a=>by unfold aX;rw[aEw,jF l,aEw,jF l (iy (0,0) e),F_,F_];rw[U4]
theorem gG:∀l:List Er,(aX l).1=0↔∀e∈l,e.1=0
 | []=>by simp[aX]
 | e::l=>by
  have:aX (e::l)=iy (iy (0,0) e) (aX l):=by unfold aX;rw[aEw,jF];rfl
  rw[this,DT,DT,gG l];simp
theorem XO(a:Er)(e:Er)(l:List Er):iy (iy a e) (aX l)=iy a (aX (e::l)):=by rw[<-jF,<-jF];rfl
theorem vF(a:Er)(l m:List Er):iy (iy a (aX l)) (aX m)=iy a (aX (l++m)):=by rw[<-jF,<-jF,<-jF,aEz]
abbrev aem:=Pl×Int×Nat
def pFrom(t:T):aem:=if (dD t).1==0 then (if 600<(printS (aI (pPlan t))).length then (uN,3,0) else (pPlan t,0,0)) else (uN,(dD t).1,(dD t).2)
def yz(s:By):aem:=if (fH s).2.1==0 then pFrom (fH s).1 else (uN,(fH s).2.1,(fH s).2.2)
def Cj(p:Pl):By:=if (printS (aI p)).length<=600/\(aI p).deep<=12 then printS (aI p) else []
mutual
def Pl.size:Pl->Nat
 | .mk _ _ _ _ _ _ _ l=>Pl.sizes l+1
def Pl.sizes:List Pl->Nat
 | []=>0
 | p::l=>p.size+Pl.sizes l
end
theorem Pl.rU:∀l:List Pl,Pl.sizes l=(l.map Pl.size).sum
 | []=>by simp[Pl.sizes]
 | p::l=>by simp[Pl.sizes,Pl.rU l]
structure vX(e:T):Prop where
 right:pI e=true
 text:e.every zg=true
 fair:e.every dY=true
 back:xRead (xTree e)=(e,0,0)
def PI(a:Ag):Prop:=kZ a.1=true/\((a.2.1=dW/\a.2.2=[])∨((a.2.1=lG∨a.2.1=lY∨a.2.1=lZ)/\kZ a.2.2=true))
def Nms(l:List By):Prop:=∀s∈l,kZ s=true
def zu(k:Int)(nm:By)(es:List T)(cs lf rt:List By)(ag:List Ag)(nk:Nat):Prop:=
 (k=1/\kZ nm=true/\es=[]/\cs=[]/\lf=[]/\rt=[]/\ag=[]/\nk=0)∨
 (k=2/\nm=[]/\(∃e,es=[e]/\vX e)/\cs=[]/\lf=[]/\rt=[]/\ag=[]/\nk=1)∨
 (k=3/\nm=[]/\(∀e∈es,vX e)/\es.length=cs.length/\1<=cs.length/\Nms cs/\lf=[]/\rt=[]/\ag=[]/\nk=1)∨
 (k=4/\nm=[]/\es=[]/\cs=[]/\Nms lf/\Nms rt/\ag=[]/\nk=2)∨
 (k=5/\nm=[]/\es=[]/\cs=[]/\lf=[]/\rt=[]/\ag=[]/\nk=2)∨
 (k=6/\nm=[]/\es=[]/\cs=[]/\lf=[]/\rt=[]/\ag=[]/\nk=1)∨
 (k=7/\nm=[]/\es=[]/\cs=[]/\Nms lf/\rt=[]/\(∀a∈ag,PI a)/\nk=1)
mutual
def Pl.good:Pl->Prop
 | .mk k nm es cs lf rt ag l=>zu k nm es cs lf rt ag l.length/\Pl.U5 l
def Pl.U5:List Pl->Prop
 | []=>True
 | p::l=>p.good/\Pl.U5 l
end
theorem Pl.rW:∀l:List Pl,Pl.U5 l↔∀p∈l,p.good
 | []=>by simp[Pl.U5]
 | p::l=>by simp[Pl.U5,Pl.rW l]
theorem Md(L:List M)(i:Nat)(x:M)(h:L[i]?=some x):at_ (L.map M.t) i=x.t:=by unfold at_;rw[aEx,aDG,h];rfl
theorem oD(m:M):bT m.t=(m.kind==2):=by unfold bT;rw[M.xm]
theorem qC{p:M->Bool}{l:List M}{k:Nat}{x:M}(h:(l.take k).all p=true)(hx:l[k]?=some x):(l.take (k+1)).all p=p x:=by obtain⟨hk,e⟩:=aC6.1 hx;rw[aDi hk,aET,h,e];simp
theorem all_false{p:M->Bool}{l:List M}{k:Nat}{x:M}(hx:l[k]?=some x)(h:p x=false):l.all p=false:=by
 cases hl:l.all p
 rfl;have:=aDs.1 hl x (aDb hx);rw[h]at this;cases this
theorem Au(m:M)(w:ak):
  Calls ax 237 #[.agg ↑m] w λe w'=>e=.returned (.bool (bT m.t))/\Ev w w':=by
 rw[oD];have hB:=Bx.new 186 ↑m w;obtain⟨⟨c0,c1,c2,c3,c4⟩,_⟩:=hB.five;clear hB;go_enter func237,ntmps237;go_wp2;go_ret;exact⟨rfl,Ev.alloc _ _⟩
theorem aFH(h:U:=by
 rw[<-hq]at hF;have HF:=zq hF;have HQ:=zq hq;have HX:=zq hx;have jE:=zq (HE.out.trans (Ev.alloc wr (.cells ↑x 186)));have i1:(0:Int)<=(k:Int):=ae;have i2:(k:Int)<(n:Int):=ae;clear hx hF hq hf h
 cases q
 ·go_wp2_with (first
   | ((with_reducible refine(HF.out _ jE.out).mono ?_);rintro e w1 ⟨rfl,aJ⟩))
  go_ret;exact⟨by rw[all_false HX.out HQ.out.symm];rfl,jE.out.trans aJ⟩
 go_wp2_with (first
  | ((with_reducible refine(HF.out _ jE.out).mono ?_);rintro e w1 ⟨rfl,aJ⟩))
 go_roundw
 case rel=>exact⟨k+1,ae,by go_num,zq (by rw[qC HT.out HX.out,<-HQ.out]),zq (jE.out.trans aJ)⟩
 case measure=>simp[intOf];omega):U:=h
theorem aG3(h:U:=by obtain rfl:k=n:=ae;have HA:Hid (l.all (λx=>bT x.t)=true):=zq (by have:=HT.out;rwa [aDj (by rw[HL.out];exact aC8 _)]at this);go_wp2;go_ret;exact⟨by rw[HA.out];rfl,HE.out⟩):U:=h
theorem Ox{A:Option Addr}{n cap:Nat}{l:List M}(w:ak)(h:Ms w A n cap l)(hf:∀x∈l,∀w1,Ev w w1->Calls ax 237 #[.agg ↑x] w1 λe w'=>e=.returned (.bool (bT x.t))/\Ev w1 w'):
  Calls ax 238 #[.slice A n cap,.func (.func 237) #[] #[]] w λe w'=>e=.returned (.bool ((l.map M.t).all bT))/\Ev w w':=by
 have hn:=h.le;have hm:=h.max;have HL:=zq h.len;have HLA:Hid ((l.map M.t).all bT=l.all λx=>bT x.t):=zq (by rw[aEy];rfl);rw[HLA.out];go_enter func238,ntmps238;go_wp2
 go_loopw [9] (λi wr=>∃k:Nat,k<=n/\i=↑k/\Hid ((l.take k).all (λx=>bT x.t)=true)/\Hid (Ev w wr)) (λi _=>n-(intOf i).toNat)
 case atStart=>exact⟨0,aDl _,rfl,zq aj,zq aS⟩
 case round=>
  obtain⟨k,hk,rfl,HT,HE⟩:=hrel;by_cases hlt:k<n;obtain⟨x,hx⟩:=h.at hlt;obtain⟨b,off,rfl,hb,c0,c1,c2,c3,c4⟩:=Ms.cell (h.ev HE.out) hx;unfold M.kv at c3;have hF:=hf x (aDb hx);obtain⟨q,hq⟩:∃q,q=bT x.t:=⟨_,rfl⟩
  exact aFH;exact aG3
theorem CB(m:M)(b0:Nat)(w:ak)(h:Lies b0 [] w m):
  Calls ax 240 #[.agg ↑m] w λe w'=>e=.returned (.bool (dI m.t))/\Ev w w':=by
 have hB:=Bx.new 186 ↑m w;have aV:=Ev.alloc w (.cells ↑m 186);have HA:=zq (λw1 (hE:Ev w w1)=>Ox w1 (h.ms.ev hE) λx _ w2 _=>Au x w2);have hF:dI m.t=(m.kind==1&&(m.kids.map M.t).all bT):=by unfold dI;rw[M.xm,M.dO]
 rw[hF];have cO:=zq aV;obtain⟨⟨c0,c1,c2,c3,c4⟩,_⟩:=hB.five;generalize (m.kids.map M.t).all bT=q at*;clear hB aV h hF;by_cases hk:m.kind=1
 ·rw[hk]at c0 cO|-;go_enter func240,ntmps240
  go_wp2_with (first
   | ((with_reducible refine(HA.out _ cO.out).mono ?_);rintro e w1 ⟨rfl,aJ⟩))
  go_ret;exact⟨rfl,cO.out.trans aJ⟩
 have hk':(m.kind==1)=false:=aC7.2 hk;rw[hk'];go_enter func240,ntmps240;go_wp2;go_ret;exact⟨rfl,cO.out⟩
theorem Me{A:Option Addr}{n cap:Nat}{l:List M}(w:ak)(h:Ms w A n cap l)(hf:∀x∈l,∀w1,Ev w w1->Calls ax 240 #[.agg ↑x] w1 λe w'=>e=.returned (.bool (dI x.t))/\Ev w1 w'):
  Calls ax 238 #[.slice A n cap,.func (.func 240) #[] #[]] w λe w'=>e=.returned (.bool ((l.map M.t).all dI))/\Ev w w':=by
 have hn:=h.le;have hm:=h.max;have HL:=zq h.len;have HLA:Hid ((l.map M.t).all dI=l.all λx=>dI x.t):=zq (by rw[aEy];rfl);rw[HLA.out];go_enter func238,ntmps238;go_wp2
 go_loopw [9] (λi wr=>∃k:Nat,k<=n/\i=↑k/\Hid ((l.take k).all (λx=>dI x.t)=true)/\Hid (Ev w wr)) (λi _=>n-(intOf i).toNat)
 case atStart=>exact⟨0,aDl _,rfl,zq aj,zq aS⟩
 case round=>
  obtain⟨k,hk,rfl,HT,HE⟩:=hrel;by_cases hlt:k<n;obtain⟨x,hx⟩:=h.at hlt;obtain⟨b,off,rfl,hb,c0,c1,c2,c3,c4⟩:=Ms.cell (h.ev HE.out) hx;unfold M.kv at c3;have hF:=hf x (aDb hx);obtain⟨q,hq⟩:∃q,q=dI x.t:=⟨_,rfl⟩
  exact aFH;obtain rfl:k=n:=ae;have HA:Hid (l.all (λx=>dI x.t)=true):=zq (by have:=HT.out;rwa [aDj (by rw[HL.out];exact aC8 _)]at this);go_wp2;go_ret;exact⟨by rw[HA.out];rfl,HE.out⟩
theorem aHv(h:U:=by
 go_wp2_with (first
  | ((with_reducible refine(HX.out _).mono ?_);rintro e w1 ⟨rfl,aJ⟩))
 go_ret;exact⟨rfl,cO.out.trans aJ⟩):U:=h
theorem Ve(m:M)(b0:Nat)(w:ak)(h:Lies b0 [] w m):
  Calls ax 239 #[.agg ↑m] w λe w'=>e=.returned (.bool (fM m.t))/\Ev w w':=by
 have hB:=Bx.new 186 ↑m w;have aV:=Ev.alloc w (.cells ↑m 186);have fU:=h.ms;have hF:fM m.t=(m.kind==1&&(m.kids.length==2&&bT (at_ (m.kids.map M.t) 0))):=by unfold fM;rw[M.xm,M.dO,aC_,Bool.and_assoc]
 rw[hF];have cO:=zq aV;obtain⟨⟨c0,c1,c2,c3,c4⟩,_⟩:=hB.five;clear hB h hF;by_cases hk:m.kind=1
 ·by_cases hl:m.kids.length=2
  ·obtain⟨x,hx⟩:=fU.at (i:=0) ae;obtain⟨b,off,hA,hb,d0,d1,d2,d3,d4⟩:=Ms.cell (fU.ev aV) hx;unfold M.kv at d3;have hX:=λw1=>Au x w1;have hat:=Md m.kids 0 x hx;rw[hat];generalize bT x.t=q at*;have HX:=zq hX;rw[hA]at c3 cO|-;rw[hl]at c3 cO|-;rw[hk]at c0 cO|-;rw[hA,hl,hk]at d0 d1 d2 d3 d4;simp only[aDH,aDw]at d0 d1 d2 d3 d4;have hcap:2<=m.cap:=by have:=fU.le;omega
   clear hX hat hx aV fU hA hb;go_enter func239,ntmps239;exact aHv
  have hl':(m.kids.length==2)=false:=aC7.2 hl;have hl2:((m.kids.length:Int)==2)=false:=by rw[aC7];omega
  rw[hk]at c0 cO|-;rw[hl'];clear fU aV;go_enter func239,ntmps239;go_wp2;go_ret;exact⟨rfl,cO.out⟩
 have hk':(m.kind==1)=false:=aC7.2 hk;rw[hk'];clear fU aV;go_enter func239,ntmps239;go_wp2;go_ret;exact⟨rfl,cO.out⟩
theorem aGs(h:U:=by
 go_enter func241,ntmps241
 go_wp2_with (first
  | ((with_reducible refine(HN.out _ cO.out).mono ?_);rintro e w1 ⟨rfl,aJ⟩;clear c0 c1 c2 c3 c4;obtain⟨⟨c0,c1,c2,c3,c4⟩,_⟩:=(HB.out.ev aJ).five))
 go_ret;exact⟨rfl,cO.out.trans aJ⟩):U:=h
theorem aeB(m:M)(b0:Nat)(w:ak)(h:Lies b0 [] w m):
  Calls ax 241 #[.agg ↑m] w λe w'=>e=.returned (.bool (dR m.t))/\Ev w w':=by
 have hB:=Bx.new 186 ↑m w;have aV:=Ev.alloc w (.cells ↑m 186);have HN:=zq (λw1 (hE:Ev w w1)=>CB m b0 w1 (h.ev hE));have hF:dR m.t=(dI m.t&&(m.kids.length==2||m.kids.length==3)):=by unfold dR;rw[M.dO,aC_]
 rw[hF];have cO:=zq aV;have HB:=zq hB;obtain⟨⟨c0,c1,c2,c3,c4⟩,_⟩:=hB.five;have hmx:=h.ms.max;have hmc:=h.ms.le;generalize dI m.t=q at*;clear hB aV h hF;generalize m.kids.length=n at*
 cases q
 exact aGs;by_cases h2:n=2;subst h2;exact aGs;have h2':(n==2)=false:=aC7.2 h2;have h2i:((n:Int)==2)=false:=by rw[aC7];omega
 have h3i:((n:Int)==3)=(n==3):=by rw[aDY,aDn,aDn];omega
 rw[h2',Bool.false_or];exact aGs
theorem I5{A:Option Addr}{n cap:Nat}{l:List M}(w:ak)(h:Ms w A n cap l)(hf:∀x∈l,∀w1,Ev w w1->Calls ax 239 #[.agg ↑x] w1 λe w'=>e=.returned (.bool (fM x.t))/\Ev w1 w'):
  Calls ax 238 #[.slice A n cap,.func (.func 239) #[] #[]] w λe w'=>e=.returned (.bool ((l.map M.t).all fM))/\Ev w w':=by
 have hn:=h.le;have hm:=h.max;have HL:=zq h.len;have HLA:Hid ((l.map M.t).all fM=l.all λx=>fM x.t):=zq (by rw[aEy];rfl);rw[HLA.out];go_enter func238,ntmps238;go_wp2
 go_loopw [9] (λi wr=>∃k:Nat,k<=n/\i=↑k/\Hid ((l.take k).all (λx=>fM x.t)=true)/\Hid (Ev w wr)) (λi _=>n-(intOf i).toNat)
 case atStart=>exact⟨0,aDl _,rfl,zq aj,zq aS⟩
 case round=>
  obtain⟨k,hk,rfl,HT,HE⟩:=hrel;by_cases hlt:k<n;obtain⟨x,hx⟩:=h.at hlt;obtain⟨b,off,rfl,hb,c0,c1,c2,c3,c4⟩:=Ms.cell (h.ev HE.out) hx;unfold M.kv at c3;have hF:=hf x (aDb hx);obtain⟨q,hq⟩:∃q,q=fM x.t:=⟨_,rfl⟩
  exact aFH;obtain rfl:k=n:=ae;have HA:Hid (l.all (λx=>fM x.t)=true):=zq (by have:=HT.out;rwa [aDj (by rw[HL.out];exact aC8 _)]at this);go_wp2;go_ret;exact⟨by rw[HA.out];rfl,HE.out⟩
theorem Rq{A:Option Addr}{n cap:Nat}{l:List M}(w:ak)(h:Ms w A n cap l)(hf:∀x∈l,∀w1,Ev w w1->Calls ax 241 #[.agg ↑x] w1 λe w'=>e=.returned (.bool (dR x.t))/\Ev w1 w'):
  Calls ax 238 #[.slice A n cap,.func (.func 241) #[] #[]] w λe w'=>e=.returned (.bool ((l.map M.t).all dR))/\Ev w w':=by
 have hn:=h.le;have hm:=h.max;have HL:=zq h.len;have HLA:Hid ((l.map M.t).all dR=l.all λx=>dR x.t):=zq (by rw[aEy];rfl);rw[HLA.out];go_enter func238,ntmps238;go_wp2
 go_loopw [9] (λi wr=>∃k:Nat,k<=n/\i=↑k/\Hid ((l.take k).all (λx=>dR x.t)=true)/\Hid (Ev w wr)) (λi _=>n-(intOf i).toNat)
 case atStart=>exact⟨0,aDl _,rfl,zq aj,zq aS⟩
 case round=>
  obtain⟨k,hk,rfl,HT,HE⟩:=hrel;by_cases hlt:k<n;obtain⟨x,hx⟩:=h.at hlt;obtain⟨b,off,rfl,hb,c0,c1,c2,c3,c4⟩:=Ms.cell (h.ev HE.out) hx;unfold M.kv at c3;have hF:=hf x (aDb hx);obtain⟨q,hq⟩:∃q,q=dR x.t:=⟨_,rfl⟩
  exact aFH;obtain rfl:k=n:=ae;have HA:Hid (l.all (λx=>dR x.t)=true):=zq (by have:=HT.out;rwa [aDj (by rw[HL.out];exact aC8 _)]at this);go_wp2;go_ret;exact⟨by rw[HA.out];rfl,HE.out⟩
theorem aIj(h:U:=by go_enter func243,ntmps243;go_wp2;go_ret;exact⟨rfl,Ev.refl _⟩):U:=h
theorem Oy(s:By)(o:Bool)(w:ak):
  Calls ax 243 #[↑s,.bool o] w λe w'=>e=.returned (.bool (isFun s o))/\Ev w w':=by
 by_cases DY:s=lG;subst DY;rw[show isFun lG o=(o) from rfl];unfold lG;exact aIj;by_cases DZ:s=lY;subst DZ;rw[show isFun lY o=(o) from rfl];unfold lY;exact aIj;by_cases D5:s=lZ;subst D5;rw[show isFun lZ o=(o) from rfl];unfold lZ;exact aIj;by_cases ZQ:s=dW;subst ZQ;rw[show isFun dW o=(!o) from rfl];unfold dW;exact aIj;have gS:(s==lG)=false:=aC7.2 DY;have gN:(s==lY)=false:=aC7.2 DZ;have gX:(s==lZ)=false:=aC7.2 D5;have gC:(s==dW)=false:=aC7.2 ZQ;rw[show isFun s o=false by unfold isFun;rw[gS,gN,gX,gC];rfl];unfold lG lY lZ dW at*;go_enter func243,ntmps243;go_wp2;go_ret;exact⟨rfl,Ev.refl _⟩
theorem zH(m:M):h_ m.t=(m.kind==1&&(decide (2<=m.kids.length)&&(bT (at_ (m.kids.map M.t) 0)&&pFormOf (fG (at_ (m.kids.map M.t) 0).s) ((m.kids.map M.t).drop 1)))):=by unfold h_;rw[M.xm,M.dO,aC_,Bool.and_assoc,Bool.and_assoc]
theorem Ms.rest{w:ak}{b off k c:Nat}{x:M}{q:List M}(h:Ms w ↑(b,off) (k+2) (c+2) (x::q)):Ms w ↑(b,off+5) (k+1) (c+1) q:=by
 refine⟨by have:=h.len;simp at this;omega,by have:=h.le;omega,by have:=h.max;omega,(λe=>by cases e),λ_=>?_⟩;obtain⟨b',off',e,hlt,hc⟩:=h.rd ae;injection e with e
 injection e with e1 e2 _
 subst e1 e2;refine⟨b,off+5,rfl,hlt,λi y hy j u hu=>?_⟩;have:=hc (i+1) y (by simpa using hy) j u hu;rwa [show off+(i+1)*5+j=off+5+i*5+j by omega]at this
theorem Ms.oW{w:ak}{b off n cap:Nat}{l:List M}(h:Ms w ↑(b,off) n cap l){i:Nat}{x:M}(hx:l[i]?=some x):
  w.cell? ⟨b,off+i*5,none⟩=some ↑x.kind/\w.cell? ⟨b,off+i*5+1,none⟩=some ↑x.s/\w.cell? ⟨b,off+i*5+2,none⟩=some ↑x.n/\w.cell? ⟨b,off+i*5+3,none⟩=some (.slice x.A x.kids.length x.cap)/\w.cell? ⟨b,off+i*5+4,none⟩=some ↑x.pos:=by
 obtain⟨b',off',e,_,h0,h1,h2,h3,h4⟩:=Ms.cell h hx;injection e with e
 injection e with e1 e2 _
 subst e1 e2;exact⟨h0,h1,h2,h3,h4⟩
theorem Yj{s:By}(h:¬(s=gm)/\¬(s=gK)/\¬(s=fA)/\¬(s=lS)/\¬(s=iw)/\¬(s=fD)/\¬(s=dX)):fG s=0:=by obtain⟨h1,h2,h3,h4,h5,h6,h7⟩:=h;unfold fG;simp[h1,h2,h3,h4,h5,h6,h7]
theorem aF6(h:U:=by
 go_enter func186,ntmps186
 go_wp2_with (first
  | ((with_reducible refine(HX.out _).mono ?_);rintro e w1 ⟨rfl,aJ⟩;have E1:=zq (cO.out.trans aJ);clear c0 c1 c2 c3 c4 d0 d1 d2 d3 d4;obtain⟨⟨c0,c1,c2,c3,c4⟩,_⟩:=(HB.out.ev aJ).five;obtain⟨d0,d1,d2,d3,d4⟩:=nM.out _ E1.out))
 go_ret;exact⟨rfl,E1.out⟩):U:=h
theorem aFN(h:U:=by
 clear hP;go_enter func186,ntmps186
 go_wp2_with (first
  | ((with_reducible refine(HC.out _ E1.out).mono ?_);rintro e w2 ⟨rfl,dJ⟩)
  | ((with_reducible refine(HX.out _).mono ?_);rintro e w1 ⟨rfl,aJ⟩;have E1:=zq (cO.out.trans aJ);clear c0 c1 c2 c3 c4 d0 d1 d2 d3 d4;obtain⟨⟨c0,c1,c2,c3,c4⟩,_⟩:=(HB.out.ev aJ).five;obtain⟨d0,d1,d2,d3,d4⟩:=nM.out _ E1.out))
 go_ret;exact⟨rfl,E1.out.trans dJ⟩):U:=h
theorem tK(m:M)(b0:Nat)(w:ak)(h:Lies b0 [] w m):
  Calls ax 186 #[.agg ↑m] w λe w'=>e=.returned (.bool (h_ m.t))/\Ev w w':=by
 have hB:=Bx.new 186 ↑m w;have aV:=Ev.alloc w (.cells ↑m 186);have fU:=h.ms;have hk0:=h.kid;rw[zH];have cO:=zq aV;have HB:=zq hB;obtain⟨⟨c0,c1,c2,c3,c4⟩,_⟩:=hB.five;clear hB h;have hlk:(m.kids.map M.t).length=m.kids.length:=aC_ ..;generalize KF:m.kind=kd at*;generalize hmA:m.A=mA at*;generalize hkn:m.kids.length=kn at*;generalize hmc:m.cap=mc at*;generalize hLL:m.kids=L at*;clear KF hmA hmc hLL;by_cases hk:kd=1
 ·subst hk;by_cases hl:2<=kn
  ·obtain⟨x,q,hq⟩:∃x q,L=x::q:=by
    cases L with
    | nil=>simp at hkn;omega
    | cons x q=>exact⟨x,q,rfl⟩
   obtain⟨k,rfl⟩:∃k,kn=k+2:=⟨kn-2,ae⟩
   have hcl:=fU.le;have hcm:=fU.max;obtain⟨c,rfl⟩:∃c,mc=c+2:=⟨mc-2,ae⟩
   subst hq;obtain⟨b,off,rfl,hb,_⟩:=Ms.cell fU (i:=0) (x:=x) rfl;have xw:q.length=k+1:=by simpa using hkn
   rw[aDE hl];have nM:=zq (λw1 (hE:Ev w w1)=>Ms.oW (fU.ev hE) (i:=0) (x:=x) rfl);simp only[aDH,aDw]at nM;have HR:=zq (λw1 (hE:Ev w w1)=>Ms.rest (fU.ev hE));have N_:=zq (λy (hy:y∈q) w1 (hE:Ev w w1)=>(hk0 y (aDc _ hy)).ev hE);have IX:=zq xw;have HX:=zq (λw1=>Au x w1);simp only[aDe,aDJ,aEc,at_,aEO,M.DK,aD_,aD']at HX|-;obtain⟨d0,d1,d2,d3,d4⟩:=nM.out _ cO.out;clear fU hk0 xw hl hb aV hkn hlk;have ARM:=trivial;generalize hqa:bT x.t=qa at*
   cases qa
   ·rw[aD0];go_enter func186,ntmps186;exact aHv
   rw[aD'];generalize hxs:x.s=s at*;by_cases Yk:s=gm
   ·subst Yk;by_cases hz:k=0
    ·subst hz;obtain⟨y,hy⟩:∃y,q=[y]:=by
      have:=IX.out
      match q,this with
      | [y],_=>exact⟨y,rfl⟩
     have hP:pFormOf (fG gm) (q.map M.t)=bT y.t:=by rw[hy];rfl
     rw[hP];have HY:=zq (λw1=>Au y w1);have HYC:=zq (λw1 (hE:Ev w w1)=>Ms.oW (HR.out w1 hE) (i:=0) (x:=y) (by rw[hy];rfl));simp only[aDH,aDw]at HYC;generalize bT y.t=qy at*;unfold gm at*;clear hy hP;go_enter func186,ntmps186
     go_wp2_with (first
      | ((with_reducible refine(HY.out _).mono ?_);rintro e w2 ⟨rfl,dJ⟩)
      | ((with_reducible refine(HX.out _).mono ?_);rintro e w1 ⟨rfl,aJ⟩;have E1:=zq (cO.out.trans aJ);clear c0 c1 c2 c3 c4 d0 d1 d2 d3 d4;obtain⟨⟨c0,c1,c2,c3,c4⟩,_⟩:=(HB.out.ev aJ).five;obtain⟨d0,d1,d2,d3,d4⟩:=nM.out _ E1.out;obtain⟨e0,e1,e2,e3,e4⟩:=HYC.out _ E1.out))
     go_ret;exact⟨rfl,E1.out.trans dJ⟩
    have hP:pFormOf (fG gm) (q.map M.t)=false:=by show ((q.map M.t).length==1&&bT (at_ (q.map M.t) 0))=false;rw[aC_,IX.out,show (k+1==1)=false from aC7.2 ae,aD0]
    rw[hP];have i1:((k:Int)+1==1)=false:=by rw[aC7];omega
    unfold gm at*;exact aF6
   by_cases Rx:s=gK;subst Rx;have hP:pFormOf (fG gK) (q.map M.t)=((k:Int)+1==2):=by show ((q.map M.t).length==2)=_;rw[aC_,IX.out,aDY,aDn,aDn];omega
   rw[hP];unfold gK at*;exact aF6;by_cases MF:s=fA;subst MF;by_cases hz:1<=k;have hP:pFormOf (fG fA) (q.map M.t)=((q.take k).map M.t).all fM:=by show (decide (2<=(q.map M.t).length)&&((q.map M.t).take ((q.map M.t).length-1)).all fM)=_;rw[aC_,IX.out,aDE ae,aD',aEC,<-aEf]
   rw[hP];have HC:=zq (λw1 (hE:Ev w w1)=>I5 w1 ((HR.out w1 hE).to k ae) λy hy w2 dJ=>Ve y b0 w2 (N_.out y (aD2 hy) w2 (hE.trans dJ)));generalize ((q.take k).map M.t).all fM=qc at*;have i1:(2:Int)<=(k:Int)+1:=ae;have i2:(0:Int)<=(k:Int):=ae;have i3:(k:Int)<=(c:Int)+1:=ae;unfold fA at*;exact aFN;have hP:pFormOf (fG fA) (q.map M.t)=false:=by show (decide (2<=(q.map M.t).length)&&((q.map M.t).take ((q.map M.t).length-1)).all fM)=_;rw[aC_,IX.out,aDB ae,aD0]
   rw[hP];have i1:¬(2:Int)<=(k:Int)+1:=ae;unfold fA at*;exact aF6;by_cases aeI:s=lS;subst aeI;by_cases hz:k=3;subst hz;have hP:pFormOf (fG lS) (q.map M.t)=((q.take 2).map M.t).all dI:=by show ((q.map M.t).length==4&&((q.map M.t).take 2).all dI)=_;rw[aC_,IX.out,<-aEf];rfl
   rw[hP];have HC:=zq (λw1 (hE:Ev w w1)=>Me w1 ((HR.out w1 hE).to 2 ae) λy hy w2 dJ=>CB y b0 w2 (N_.out y (aD2 hy) w2 (hE.trans dJ)));generalize ((q.take 2).map M.t).all dI=qc at*;have i3:(2:Int)<=(c:Int)+1:=ae;unfold lS at*;exact aFN;have hP:pFormOf (fG lS) (q.map M.t)=false:=by show ((q.map M.t).length==4&&((q.map M.t).take 2).all dI)=_;rw[aC_,IX.out,show (k+1==4)=false from aC7.2 ae,aD0]
   rw[hP];have i1:((k:Int)+1==4)=false:=by rw[aC7];omega
   unfold lS at*;exact aF6;by_cases Yl:s=iw;subst Yl;have hP:pFormOf (fG iw) (q.map M.t)=((k:Int)+1==2):=by show ((q.map M.t).length==2)=_;rw[aC_,IX.out,aDY,aDn,aDn];omega
   rw[hP];unfold iw at*;exact aF6;by_cases Gj:s=fD;subst Gj;have hP:pFormOf (fG fD) (q.map M.t)=((k:Int)+1==1):=by show ((q.map M.t).length==1)=_;rw[aC_,IX.out,aDY,aDn,aDn];omega
   rw[hP];unfold fD at*;exact aF6;by_cases Ym:s=dX
   ·subst Ym;by_cases hz:1<=k
    ·obtain⟨y,r,hy⟩:∃y r,q=y::r:=by
      cases q with
      | nil=>have:=IX.out;simp at this
      | cons y r=>exact⟨y,r,rfl⟩
     obtain⟨k1,rfl⟩:∃k1,k=k1+1:=⟨k-1,ae⟩
     have hrl:r.length=k1+1:=by have:=IX.out;rw[hy]at this;simpa using this
     have hP:pFormOf (fG dX) (q.map M.t)=(dI y.t&&((r.take k1).map M.t).all dR):=by show (decide (2<=(q.map M.t).length)&&dI (at_ (q.map M.t) 0)&&(((q.map M.t).take ((q.map M.t).length-1)).drop 1).all dR)=_;rw[aC_,IX.out,aDE ae,aD',aEC,<-aEf,hy,aDX];rfl
     rw[hP];have HY:=zq (λw1 (hE:Ev w w1)=>CB y b0 w1 (N_.out y (by rw[hy];exact aC' ..) w1 hE));have HYC:=zq (λw1 (hE:Ev w w1)=>Ms.oW (HR.out w1 hE) (i:=0) (x:=y) (by rw[hy];rfl));simp only[aDH,aDw]at HYC;obtain⟨oO,rfl⟩:∃c1,c=c1+1:=⟨c-1,ae⟩
     have HRR:=zq (λw1 (hE:Ev w w1)=>Ms.rest (x:=y) (q:=r) (by have:=HR.out w1 hE;rw[hy]at this;exact this));have HC:=zq (λw1 (hE:Ev w w1)=>Rq w1 ((HRR.out w1 hE).to k1 ae) λz Jk w2 dJ=>aeB z b0 w2 (N_.out z (by rw[hy];exact aDc _ (aD2 Jk)) w2 (hE.trans dJ)));generalize dI y.t=qy at*;generalize ((r.take k1).map M.t).all dR=qc at*;have i1:(2:Int)<=(k1:Int)+1+1:=ae;have i2:(1:Int)<=(k1:Int)+1:=ae;have i3:(k1:Int)+1<=(oO:Int)+1+1:=ae;unfold dX at*;clear hP hy hrl
     cases qy
     ·go_enter func186,ntmps186
      go_wp2_with (first
       | ((with_reducible refine(HY.out _ E1.out).mono ?_);rintro e w2 ⟨rfl,dJ⟩)
       | ((with_reducible refine(HX.out _).mono ?_);rintro e w1 ⟨rfl,aJ⟩;have E1:=zq (cO.out.trans aJ);clear c0 c1 c2 c3 c4 d0 d1 d2 d3 d4;obtain⟨⟨c0,c1,c2,c3,c4⟩,_⟩:=(HB.out.ev aJ).five;obtain⟨d0,d1,d2,d3,d4⟩:=nM.out _ E1.out;obtain⟨e0,e1,e2,e3,e4⟩:=HYC.out _ E1.out))
      go_ret;exact⟨rfl,E1.out.trans dJ⟩
     go_enter func186,ntmps186
     go_wp2_with (first
      | ((with_reducible refine(HY.out _ E1.out).mono ?_);rintro e w2 ⟨rfl,dJ⟩;have E2:=zq (E1.out.trans dJ))
      | ((with_reducible refine(HC.out _ E2.out).mono ?_);rintro e w3 ⟨rfl,jW⟩)
      | ((with_reducible refine(HX.out _).mono ?_);rintro e w1 ⟨rfl,aJ⟩;have E1:=zq (cO.out.trans aJ);clear c0 c1 c2 c3 c4 d0 d1 d2 d3 d4;obtain⟨⟨c0,c1,c2,c3,c4⟩,_⟩:=(HB.out.ev aJ).five;obtain⟨d0,d1,d2,d3,d4⟩:=nM.out _ E1.out;obtain⟨e0,e1,e2,e3,e4⟩:=HYC.out _ E1.out))
     go_ret;exact⟨rfl,E2.out.trans jW⟩
    have hP:pFormOf (fG dX) (q.map M.t)=false:=by show (decide (2<=(q.map M.t).length)&&dI (at_ (q.map M.t) 0)&&(((q.map M.t).take ((q.map M.t).length-1)).drop 1).all dR)=_;rw[aC_,IX.out,aDB ae,aD0,aD0]
    rw[hP];have i1:¬(2:Int)<=(k:Int)+1:=ae;unfold dX at*;exact aF6
   rw[Yj ⟨Yk,Rx,MF,aeI,Yl,Gj,Ym⟩];have alj:(s==gm)=false:=aC7.2 Yk;have ahW:(s==gK)=false:=aC7.2 Rx;have aeJ:(s==fA)=false:=aC7.2 MF;have aoE:(s==lS)=false:=aC7.2 aeI;have alk:(s==iw)=false:=aC7.2 Yl;have abK:(s==fD)=false:=aC7.2 Gj;have alm:(s==dX)=false:=aC7.2 Ym;unfold gm gK fA lS iw fD dX at*;rw[show pFormOf 0 (q.map M.t)=false from rfl];exact aF6
  rw[aDB hl,aD0,Bool.and_false];have i1:(kn:Int)<2:=ae;clear fU hk0 aV;go_enter func186,ntmps186;go_wp2;go_ret;exact⟨rfl,cO.out⟩
 have hk':(kd==1)=false:=aC7.2 hk;have azs:(kd !=1)=true:=by simp[hk]
 rw[hk',aD0];clear fU hk0 aV;go_enter func186,ntmps186;go_wp2;go_ret;exact⟨rfl,cO.out⟩
theorem tN(t:T):t.strip.kind=t.kind:=by cases t;rw[T.jo];rfl
theorem mQ(t:T):t.strip.s=t.s:=by cases t;rw[T.jo];rfl
theorem jq(t:T):t.strip.kids=t.kids.map T.strip:=by cases t;rw[T.jo];rfl
mutual
theorem MG:∀t:T,t.strip.deep=t.deep
 | .mk k s n l p=>by rw[T.strip,T.deep,T.deep,Ic l]
theorem Ic:∀l:List T,T.lM (T.strips l)=T.lM l
 | []=>by rw[T.strips]
 | t::l=>by rw[T.strips,T.lM,T.lM,MG t,Ic l]
end
mutual
theorem CG:∀t:T,t.strip.size=t.size
 | .mk k s n l p=>by rw[T.strip,T.size,T.size,Ie l]
theorem Ie:∀l:List T,T.sizes (T.strips l)=T.sizes l
 | []=>by rw[T.strips]
 | t::l=>by rw[T.strips,T.sizes,T.sizes,CG t,Ie l]
end
theorem Yn(k:Int)(s:By)(n:Int)(l:List T):gB k s n (T.strips l)=gB k s n l:=by unfold gB;rw[T.pJ,List.isEmpty_map]
mutual
theorem MH:∀t:T,t.strip.fine=t.fine
 | .mk k s n l p=>by rw[T.strip,T.fine,T.fine,Ig l,Yn]
theorem Ig:∀l:List T,T.uI (T.strips l)=T.uI l
 | []=>by rw[T.strips]
 | t::l=>by rw[T.strips,T.uI,T.uI,MH t,Ig l]
end
mutual
theorem zI:∀t:T,printS t.strip=printS t
 | .mk k s n l p=>by rw[T.strip,printS,printS,D8 l true]
theorem D8:∀(l:List T) (b:Bool),printL b (T.strips l)=printL b l
 | [],b=>by rw[T.strips]
 | t::l,b=>by rw[T.strips,printL,printL,zI t,D8 l false]
end
theorem Ih(s:By):∀(rs rs':List FV) (done:List T),rs.map (λr=>(r.1,r.2.1))=rs'.map (λr=>(r.1,r.2.1))->(xReads s done rs).1=(xReads s done rs').1/\(xReads s done rs).2.1=(xReads s done rs').2.1
 | [],[],done,_=>⟨rfl,rfl⟩
 | [],r'::rs',done,h=>by simp at h
 | r::rs,[],done,h=>by simp at h
 | r::rs,r'::rs',done,h=>by simp only[aDe,List.cons.injEq,Prod.mk.injEq]at h;obtain⟨⟨h1,h2⟩,h3⟩:=h;unfold xReads;rw[h1,h2];split;exact Ih s rs rs' _ h3;exact⟨rfl,rfl⟩
mutual
theorem uQ:∀t:T,(xRead t.strip).1=(xRead t).1/\(xRead t.strip).2.1=(xRead t).2.1
 | .mk k s n l p=>by
  have hl:=D9 l;by_cases k1:k=1;subst k1;rw[T.jo,nD,nD]
  cases l with
  | nil=>exact⟨rfl,rfl⟩
  | cons h q=>
   simp only[aDe,tN,mQ,aC_];split;split;have hq:∀t∈q,(xRead t.strip).1=(xRead t).1/\(xRead t.strip).2.1=(xRead t).2.1:=λt ht=>hl t (aDc _ ht);refine Ih h.s _ _ [] ?_;rw[aDx,aDx,aDx];refine aDT λt ht=>?_;have:=hq t ht;simp[this.1,this.2];exact⟨rfl,rfl⟩;exact⟨rfl,rfl⟩
  rw[T.jo,jL s n _ 0 k1,jL s n l p k1];split;split;exact⟨rfl,rfl⟩;exact⟨rfl,rfl⟩;split;exact⟨rfl,rfl⟩;split<;>exact⟨rfl,rfl⟩
theorem D9:∀l:List T,∀t∈l,(xRead t.strip).1=(xRead t).1/\(xRead t.strip).2.1=(xRead t).2.1
 | []=>λt ht=>by cases ht
 | a::l=>by intro t ht;rcases aDg.1 ht with h1|h1;rw[h1];exact uQ a;exact D9 l t h1
end
theorem jP(l:List T)(i:Nat):at_ (l.map T.strip) i=(at_ l i).strip:=by
 unfold at_;rw[aEx,aEx,aDG]
 cases l[i]? with
 | none=>simp[dQ,T.jo]
 | some t=>rfl
theorem rF(t:T):bT t.strip=bT t:=by unfold bT;rw[tN]
theorem zJ(t:T):dI t.strip=dI t:=by unfold dI;rw[tN,jq,aEy];congr 2;funext x;exact rF x
theorem Vo(t:T):fM t.strip=fM t:=by unfold fM;rw[tN,jq,aC_,jP,rF]
theorem Vp(t:T):dR t.strip=dR t:=by unfold dR;rw[zJ,jq,aC_]
theorem Gl{f:T->Bool}(hf:∀t:T,f t.strip=f t)(l:List T):(l.map T.strip).all f=l.all f:=by rw[aEy];congr 1;funext x;exact hf x
theorem Ry(k:Nat)(q:List T):pFormOf k (q.map T.strip)=pFormOf k q:=by unfold pFormOf;split<;>simp only[aC_,jP,rF,zJ,<-aEf,<-aEo,Gl Vo,Gl zJ,Gl Vp]
theorem MI(t:T):h_ t.strip=h_ t:=by unfold h_;rw[tN,jq,aC_,jP,rF,mQ,<-aEo,Ry]
theorem Yo(t:T):LP t.strip=LP t:=by unfold LP;rw[jq,jP,mQ]
theorem Yp(t:T):LQ t.strip=LQ t:=by unfold LQ;rw[jq,jP,(uQ _).1]
theorem Yq(t:T):jV t.strip=jV t:=by unfold jV;rw[jq,jP,jP,jP,mQ,mQ,mQ,aC_]
theorem Aw{α:Type}{f:T->α}(hf:∀t:T,f t.strip=f t)(l:List T):(l.map T.strip).map f=l.map f:=by rw[aDx];exact aDT λt _=>hf t
theorem Yr(k:Nat)(q:List T)(ps:List Pl):pMake k (q.map T.strip) ps=pMake k q ps:=by unfold pMake;split<;>simp only[aC_,jP,mQ,jq,(uQ _).1,<-aEf,<-aEo,Aw Yp,Aw Yo,Aw Yq,Aw mQ]
mutual
theorem CJ:∀t:T,pPlan t.strip=pPlan t
 | .mk k s n l p=>by have hl:=Ii l;have hf:=MI (.mk k s n l p);rw[T.strip,pPlan,pPlan,hl];rw[T.strip]at hf;rw[hf];split;rw[T.pJ,jP,mQ,<-aEo,Yr];rfl
theorem Ii:∀l:List T,pPlans (T.strips l)=pPlans l
 | []=>by rw[T.strips]
 | t::l=>by rw[T.strips,pPlans,pPlans,CJ t,Ii l]
end
theorem Rz:∀(l l':List Er),l.map (·.1)=l'.map (·.1)->(aX l).1=(aX l').1:=by
 have key:∀(l l':List Er) (a a':Er),a.1=a'.1->l.map (·.1)=l'.map (·.1)->(l.foldl iy a).1=(l'.foldl iy a').1:=by
  intro l
  induction l with
  | nil=>
   intro l' a a' ha h
   cases l' with
   | nil=>exact ha
   | cons e l'=>simp at h
  | cons e l ih=>
   intro l' a a' ha h
   cases l' with
   | nil=>simp at h
   | cons e' l'=>
    simp only[aDe,List.cons.injEq]at h;rw[aEw,aEw];refine ih l' _ _ ?_ h.2;unfold iy;rw[ha,h.1];split;exact h.1;exact ha
 intro l l' h;exact key l l' _ _ rfl h
theorem qE(t:T):(bQ t.strip).1=(bQ t).1:=by unfold bQ;rw[mQ];split<;>rfl
theorem Ij(t:T):(oC t.strip).1=(oC t).1:=(uQ t).2
theorem OA(t:T):(ru t.strip).map (·.1)=(ru t).map (·.1):=by unfold ru;simp only[aDe,aDu,jq,jP,qE,Ij]
theorem RD(t:T):(dS t.strip).map (·.1)=(dS t).map (·.1):=by
 unfold dS;simp only[aDe,aDu,jq,jP,qE,mQ,aC_];congr 1;congr 1
 ·split<;>rfl
 congr 1;split;exact qE _;rfl
theorem vH{f:T->List Er}(hf:∀t:T,(f t.strip).map (·.1)=(f t).map (·.1)):∀l:List T,((l.map T.strip).flatMap f).map (·.1)=(l.flatMap f).map (·.1)
 | []=>rfl
 | t::l=>by simp only[aDe,aEp,aDk,hf t,vH hf l]
theorem abL{f:T->Er}(hf:∀t:T,(f t.strip).1=(f t).1)(l:List T):((l.map T.strip).map f).map (·.1)=(l.map f).map (·.1):=by rw[aDx,aDx,aDx];exact aDT λt _=>hf t
theorem Vq(k:Nat)(q:List T)(es es':List Er)(h:es'.map (·.1)=es.map (·.1)):(xG k (q.map T.strip) es').map (·.1)=(xG k q es).map (·.1):=by unfold xG;split<;>simp only[aDe,aDu,aDk,aC_,jP,jq,qE,Ij,<-aEf,<-aEo,vH OA,vH RD,abL qE,h]<;>(try rw[aEo,aEo,h])
mutual
theorem Gm:∀t:T,(dD t.strip).1=(dD t).1
 | .mk k s n l p=>by have hl:=MJ l;have hf:=MI (.mk k s n l p);rw[T.strip,dD,dD];rw[T.strip]at hf;rw[hf];split;rw[T.pJ,jP,mQ,<-aEo];refine Rz _ _ (Vq _ _ _ _ ?_);rw[aEo,aEo,<-T.pJ,hl];rfl
theorem MJ:∀l:List T,(DR (T.strips l)).map (·.1)=(DR l).map (·.1)
 | []=>by rw[T.strips]
 | t::l=>by rw[T.strips,DR,DR,aDe,aDe,Gm t,MJ l]
end
theorem pM(a:T)(q:List T)(hf:h_ (dh (a::q))=true):pPlan (dh (a::q))=pMake (fG a.s) q (q.map pPlan):=by unfold dh at hf|-;rw[pPlan,if_pos hf,xE];rfl
theorem tV(a:T)(q:List T)(hf:h_ (dh (a::q))=true):dD (dh (a::q))=aX (xG (fG a.s) q (q.map dD)):=by unfold dh at hf|-;rw[dD,if_pos hf,Aq];rfl
theorem Gn(w:By)(q:List T)(hq:1<=q.length):h_ (dh (aT w::q))=pFormOf (fG w) q:=by
 unfold h_ dh;have h1:(2<=(T.mk 1 [] 0 (aT w::q) 0).kids.length):=by simp[T.kids];omega
 rw[aDE h1];rfl
theorem abM{s:By}(h:s≠[])(hl:∀c∈s,bC c=true)(hn:s.length<=1000):(aT s).fine=true:=by
 unfold aT;rw[T.fine];have h1:s.isEmpty=false:=by cases s with|nil=>exact absurd rfl h|cons a b=>rfl
 have h2:s.all bC=true:=aDs.2 hl;unfold gB;rw[h1,h2,aDE hn];rfl
theorem pO{s:By}(h:kZ s=true):(aT s).fine=true/\s≠[]:=by
 have hl:=aek h;have h0:s≠[]:=by rintro rfl;simp at hl
 refine⟨abM h0 (λc hc=>?_) ae,h0⟩;unfold kZ gU at h;simp only[aC9,aDs]at h;exact h.2.1 c (by simpa[dV] using hc)
theorem jG{l:List T}(h:∀t∈l,t.fine=true):(dh l).fine=true:=by unfold dh;rw[T.fine,FZ,aDs.2 h];rfl
theorem CO{l:List By}(h:Nms l):(bH l).fine=true:=jG λt ht=>by obtain⟨s,hs,rfl⟩:=aDz.1 ht;exact(pO (h s hs)).1
theorem ahX{s:By}(h:dU s≠0):(aT s).fine=true:=by
 cases hi:s==bIf
 ·rcases aeh (ad6 h hi).1 with h1|h1|h1|h1|h1|h1|h1|h1|h1|h1|h1<;>subst h1<;>decide+kernel
 have:=aDn.1 hi;subst this;decide+kernel
mutual
theorem MK:∀e:T,pI e=true->e.every zg=true->e.every dY=true->(xTree e).fine=true
 | .mk k s n l p,hr,he,hf=>by
  have hl:=Ik l;rw[pI,y5,aC9,aDs]at hr;rw[T.every,T.Ce,aC9,aDs]at he hf;obtain⟨yF,hrs⟩:=hr;obtain⟨he1,hes⟩:=he;obtain⟨hf1,hfs⟩:=hf;obtain⟨aoF,azt⟩:=vW hf1;simp only[aEJ,DF,T.kind,T.s,T.n,T.kids]at yF;by_cases k1:k=1;subst k1;simp only[aD_,aDL,Bool.or_eq_false_iff,Bool.not_eq_false']at yF;have e:xTree (.mk 1 s n l p)=aT s:=by simp[xTree,aT]
  rw[e];exact(pO yF.1.1).1;have k1':(k==1)=false:=aC7.2 k1;by_cases k2:k=2;subst k2;have e:xTree (.mk 2 s n l p)=.mk 3 [] n [] 0:=by simp[xTree]
  rw[e,T.fine];unfold y7 at aoF;unfold gB;simp[aoF];have k2':(k==2)=false:=aC7.2 k2;by_cases k3:k=3;subst k3;have e:xTree (.mk 3 s n l p)=.mk 4 s 0 [] 0:=by simp[xTree]
  rw[e,T.fine];have WQ:s.length<=40:=by unfold zg at he1;rw[show (T.mk 3 s n l p).kind=3 from rfl,show (!((3:Int)==3))=false from rfl,Bool.false_or]at he1;exact aEq he1
  unfold gB;simp[WQ];have k3':(k==3)=false:=aC7.2 k3;by_cases k4:k=4;subst k4;simp only[k1',k2',k3',aDq,aDU,aD_,aDL,Bool.or_eq_false_iff,Bool.not_eq_false',aDn,aC7]at yF;obtain⟨⟨ht0,_⟩,_⟩:=yF;have e:xTree (.mk 4 s n l p)=dh (aT s::l.map xTree):=by rw[xTree,xC];rfl
  rw[e];refine jG λt ht=>?_;rcases aDg.1 ht with rfl|ht;exact ahX ht0;obtain⟨u,hu,rfl⟩:=aDz.1 ht;exact hl u hu (hrs u hu) (hes u hu) (hfs u hu);simp[k1',k2',k3',k4]at yF
theorem Ik:∀l:List T,∀e∈l,pI e=true->e.every zg=true->e.every dY=true->(xTree e).fine=true
 | []=>λe he=>by cases he
 | a::l=>by intro e he;rcases aDg.1 he with h1|h1;rw[h1];exact MK a;exact Ik l e h1
end
theorem vX.tree{e:T}(h:vX e):(xTree e).fine=true:=MK e h.right h.text h.fair
theorem vX.err{e:T}(h:vX e):oC (xTree e)=(0,0):=by unfold oC;rw[h.back]
theorem Vr{s:By}(h:kZ s=true):bQ (aT s)=(0,0):=by unfold bQ;rw[show (aT s).s=s from rfl,if_pos h]
theorem ML{l:List By}(h:Nms l):∀e∈(l.map aT).map bQ,e.1=0:=by intro e he;obtain⟨t,ht,rfl⟩:=aDz.1 he;obtain⟨s,hs,rfl⟩:=aDz.1 ht;rw[Vr (h s hs)]
theorem CP(l:List By):(bH l).kids.map T.s=l:=by show (l.map aT).map T.s=l;rw[aDx];have:(T.s ∘ aT)=id:=rfl;rw[this,List.map_id]
theorem Il(l:List By):dI (bH l)=true:=by unfold dI;show ((1:Int)==1&&(l.map aT).all bT)=true;rw[aEy];have:(bT ∘ aT)=λ_=>true:=rfl;rw[this];simp
theorem abN{a:Ag}(h:PI a):(a.2.1=dW/\a.2.2=[]/\eH a=dh [aT a.1,aT dW])∨((a.2.1=lG∨a.2.1=lY∨a.2.1=lZ)/\kZ a.2.2=true/\eH a=dh [aT a.1,aT a.2.1,aT a.2.2]):=by
 rcases h.2 with⟨h1,h2⟩|⟨h1,h2⟩
 left;refine⟨h1,h2,?_⟩;unfold eH;rw[h1,h2];rfl;right;refine⟨h1,h2,?_⟩;have h0:=(pO h2).2;have:a.2.2.isEmpty=false:=by cases h3:a.2.2 with|nil=>exact absurd h3 h0|cons x y=>rfl
 unfold eH;rw[this];rfl
theorem D_{a:Ag}(h:PI a):dR (eH a)=true/\jV (eH a)=a/\(∀e∈dS (eH a),e.1=0)/\(eH a).fine=true:=by
 obtain⟨n,f,c⟩:=a;have hn:bQ (aT n)=(0,0):=Vr h.1;have hnf:=(pO h.1).1;simp only at hn hnf;rcases abN h with⟨h1,h2,h3⟩|⟨h1,h2,h3⟩
 simp only at h1 h2 h3;subst h1 h2;rw[h3];refine⟨rfl,rfl,?_,jG ?_⟩;have:dS (dh [aT n,aT dW])=[bQ (aT n),(0,0),(0,0)]:=rfl;rw[this,hn];simp;intro t ht;simp at ht;rcases ht with rfl|rfl;exact hnf;decide+kernel;simp only at h1 h2 h3;rw[h3];have hc:=Vr h2;refine⟨rfl,rfl,?_,jG ?_⟩
 ·have:dS (dh [aT n,aT f,aT c])=[bQ (aT n),if isFun f true then (0,0) else (12,0),bQ (aT c)]:=rfl;rw[this,hn,hc];rcases h1 with rfl|rfl|rfl<;>simp[isFun]
 intro t ht;simp at ht;rcases ht with rfl|rfl|rfl;exact hnf
 ·rcases h1 with rfl|rfl|rfl<;>decide+kernel
 exact(pO h2).1
theorem Vt:∀(cs:List By) (es:List T),es.length=cs.length->(∀e∈es,vX e)->Nms cs->
  (List.zipWith iV cs es).all fM=true/\(List.zipWith iV cs es).map LQ=es/\(List.zipWith iV cs es).map LP=cs/\(∀e∈(List.zipWith iV cs es).flatMap ru,e.1=0)/\(∀t∈List.zipWith iV cs es,t.fine=true)/\(List.zipWith iV cs es).length=cs.length
 | [],[],_,_,_=>by simp
 | [],_::_,h,_,_=>by simp at h
 | _::_,[],h,_,_=>by simp at h
 | c::cs,e::es,h,he,hc=>by obtain⟨h1,h2,h3,h4,h5,h6⟩:=Vt cs es (by simpa using h) (λx hx=>he x (aDc _ hx)) (λx hx=>hc x (aDc _ hx));have hge:=he e (aC' ..);have hgc:=hc c (aC' ..);simp only[List.zipWith_cons_cons,List.all_cons,aDe,aEp,h1,h2,h3,aDh,h6,aEU];refine⟨rfl,?_,?_,?_,?_,by trivial⟩;congr 1;show (xRead (xTree e)).1=e;rw[hge.back];rfl;intro x hx;rcases aDm.1 hx with hx|hx;have:ru (iV c e)=[bQ (aT c),oC (xTree e)]:=rfl;rw[this,Vr hgc,hge.err]at hx;simp at hx;rw[hx];exact h4 x hx;intro t ht;rcases aDg.1 ht with rfl|ht;refine jG λt ht=>?_;simp at ht;rcases ht with rfl|rfl;exact(pO hgc).1;exact hge.tree;exact h5 t ht
def ZW(p:Pl):Prop:=p.good->pPlan (aI p)=p/\(dD (aI p)).1=0/\(aI p).fine=true
theorem uS{α:Type}{l:List α}(h:l.length=1):∃a,l=[a]:=by
 match l,h with
 | [a],_=>exact⟨a,rfl⟩
theorem Az{α:Type}{l:List α}(h:l.length=2):∃a b,l=[a,b]:=by
 match l,h with
 | [a,b],_=>exact⟨a,b,rfl⟩
theorem pR:∀w∈[gm,gK,fA,lS,iw,fD,dX],(aT w).fine=true:=by decide+kernel
theorem Yt(k:Int)(nm:By)(es:List T)(cs lf rt:List By)(ag:List Ag)(l:List Pl)(hl:∀p∈l,ZW p):ZW (.mk k nm es cs lf rt ag l):=by
 intro hg;rw[Pl.good,Pl.rW]at hg;obtain⟨hg,hgl⟩:=hg;have hk:∀p∈l,pPlan (aI p)=p/\(dD (aI p)).1=0/\(aI p).fine=true:=λp hp=>hl p hp (hgl p hp);rw[aI,sW];rcases hg with⟨rfl,h1,rfl,rfl,rfl,rfl,rfl,h2⟩|⟨rfl,rfl,⟨e,rfl,he⟩,rfl,rfl,rfl,rfl,h2⟩|⟨rfl,rfl,he,hlen,h1,hc,rfl,rfl,rfl,h2⟩|⟨rfl,rfl,rfl,rfl,h3,h4,rfl,h2⟩|⟨rfl,rfl,rfl,rfl,rfl,rfl,rfl,h2⟩|⟨rfl,rfl,rfl,rfl,rfl,rfl,rfl,h2⟩|⟨rfl,rfl,rfl,rfl,h3,rfl,h4,h2⟩
 have:l=[]:=aDv h2;subst this;have e:dh (kQ 1 nm [] [] [] [] []++([]:List Pl).map aI)=dh (aT gm::[aT nm]):=rfl;have hf:h_ (dh (aT gm::[aT nm]))=true:=rfl;rw[e,pM _ _ hf,tV _ _ hf];refine⟨rfl,?_,jG ?_⟩;rw[gG];intro x hx;have:xG (fG (aT gm).s) [aT nm] ([aT nm].map dD)=[bQ (aT nm)]:=rfl;rw[this,Vr h1]at hx;simp at hx;rw[hx];intro t ht;simp at ht;rcases ht with rfl|rfl;exact pR _ aj;exact(pO h1).1;obtain⟨q,rfl⟩:=uS h2;obtain⟨k1,k2,k3⟩:=hk q aj;have e':dh (kQ 2 [] [e] [] [] [] []++[q].map aI)=dh (aT gK::[xTree e,aI q]):=rfl;have hf:h_ (dh (aT gK::[xTree e,aI q]))=true:=rfl;rw[e',pM _ _ hf,tV _ _ hf];refine⟨?_,?_,jG ?_⟩;show Pl.mk 2 [] [(xRead (xTree e)).1] [] [] [] [] [pPlan (aI q)]=_;rw[he.back,k1];rw[gG];intro x hx;have:xG (fG (aT gK).s) [xTree e,aI q] ([xTree e,aI q].map dD)=[oC (xTree e),dD (aI q)]:=rfl;rw[this,he.err]at hx;simp at hx;rcases hx with rfl|rfl;rfl;exact k2;intro t ht;simp at ht;rcases ht with rfl|rfl|rfl;exact pR _ aj;exact he.tree;exact k3;obtain⟨q,rfl⟩:=uS h2;obtain⟨k1,k2,k3⟩:=hk q aj;obtain⟨z1,z2,z3,z4,z5,z6⟩:=Vt cs es hlen he hc;have e':dh (kQ 3 [] es cs [] [] []++[q].map aI)=dh (aT fA::(List.zipWith iV cs es++[aI q])):=rfl;generalize List.zipWith iV cs es=Z at*;have ht:(Z++[aI q]).length-1=Z.length:=aj;have hf:h_ (dh (aT fA::(Z++[aI q])))=true:=by rw[Gn _ _ aj];show (decide (2<=(Z++[aI q]).length)&&((Z++[aI q]).take ((Z++[aI q]).length-1)).all fM)=true;rw[ht,aEY,z1,aEU];exact aDE (by simp;omega)
 rw[e',pM _ _ hf,tV _ _ hf];refine⟨?_,?_,jG ?_⟩;show Pl.mk 3 [] (((Z++[aI q]).take ((Z++[aI q]).length-1)).map LQ) (((Z++[aI q]).take ((Z++[aI q]).length-1)).map LP) [] [] [] (((Z++[aI q]).map pPlan).drop ((Z++[aI q]).length-1))=_;rw[ht,aEY,z2,z3,aDk,aE4 aj,aDe,aDu,k1];rw[gG];show ∀x∈((Z++[aI q]).take ((Z++[aI q]).length-1)).flatMap ru++((Z++[aI q]).map dD).drop ((Z++[aI q]).length-1),x.1=0;rw[ht,aEY,aDk,aE4 aj];intro x hx;rcases aDm.1 hx with hx|hx;exact z4 x hx;simp at hx;rw[hx];exact k2;intro t ht;rcases aDg.1 ht with rfl|ht;exact pR _ aj;rcases aDm.1 ht with ht|ht;exact z5 t ht;simp at ht;rw[ht];exact k3;obtain⟨q,q',rfl⟩:=Az h2;obtain⟨k1,k2,k3⟩:=hk q aj;obtain⟨m1,m2,m3⟩:=hk q' aj;have e':dh (kQ 4 [] [] [] lf rt []++[q,q'].map aI)=dh (aT lS::[bH lf,bH rt,aI q,aI q']):=rfl;have hf:h_ (dh (aT lS::[bH lf,bH rt,aI q,aI q']))=true:=by rw[Gn _ _ aj];show ((4:Nat)==4&&[bH lf,bH rt].all dI)=true;simp[Il]
 rw[e',pM _ _ hf,tV _ _ hf];refine⟨?_,?_,jG ?_⟩;show Pl.mk 4 [] [] [] ((bH lf).kids.map T.s) ((bH rt).kids.map T.s) [] [pPlan (aI q),pPlan (aI q')]=_;rw[CP,CP,k1,m1];rw[gG];show ∀x∈(lf.map aT).map bQ++((rt.map aT).map bQ++[dD (aI q),dD (aI q')]),x.1=0;intro x hx;rcases aDm.1 hx with hx|hx;exact ML h3 x hx;rcases aDm.1 hx with hx|hx;exact ML h4 x hx;simp at hx;rcases hx with rfl|rfl;exact k2;exact m2;intro t ht;simp at ht;rcases ht with rfl|rfl|rfl|rfl|rfl;exact pR _ aj;exact CO h3;exact CO h4;exact k3;exact m3;obtain⟨q,q',rfl⟩:=Az h2;obtain⟨k1,k2,k3⟩:=hk q aj;obtain⟨m1,m2,m3⟩:=hk q' aj;have e':dh (kQ 5 [] [] [] [] [] []++[q,q'].map aI)=dh (aT iw::[aI q,aI q']):=rfl;have hf:h_ (dh (aT iw::[aI q,aI q']))=true:=rfl;rw[e',pM _ _ hf,tV _ _ hf];refine⟨?_,?_,jG ?_⟩;show Pl.mk 5 [] [] [] [] [] [] [pPlan (aI q),pPlan (aI q')]=_;rw[k1,m1];rw[gG];show ∀x∈[dD (aI q),dD (aI q')],x.1=0;intro x hx;simp at hx;rcases hx with rfl|rfl;exact k2;exact m2;intro t ht;simp at ht;rcases ht with rfl|rfl|rfl;exact pR _ aj;exact k3;exact m3;obtain⟨q,rfl⟩:=uS h2;obtain⟨k1,k2,k3⟩:=hk q aj;have e':dh (kQ 6 [] [] [] [] [] []++[q].map aI)=dh (aT fD::[aI q]):=rfl;have hf:h_ (dh (aT fD::[aI q]))=true:=rfl;rw[e',pM _ _ hf,tV _ _ hf];refine⟨?_,?_,jG ?_⟩;show Pl.mk 6 [] [] [] [] [] [] [pPlan (aI q)]=_;rw[k1];rw[gG];show ∀x∈[dD (aI q)],x.1=0;intro x hx;simp at hx;rw[hx];exact k2;intro t ht;simp at ht;rcases ht with rfl|rfl;exact pR _ aj;exact k3;obtain⟨q,rfl⟩:=uS h2;obtain⟨k1,k2,k3⟩:=hk q aj;have e':dh (kQ 7 [] [] [] lf [] ag++[q].map aI)=dh (aT dX::(bH lf::(ag.map eH++[aI q]))):=rfl;have hall:(ag.map eH).all dR=true:=by rw[aEy,aDs];exact λa ha=>(D_ (h4 a ha)).1
 have hmap:(ag.map eH).map jV=ag:=by
  rw[aDx]
  conv=>rhs;rw[<-List.map_id ag]
  exact aDT λa ha=>(D_ (h4 a ha)).2.1
 have herr:∀e∈(ag.map eH).flatMap dS,e.1=0:=by intro e he;obtain⟨t,ht,he⟩:=aEh.1 he;obtain⟨a,ha,rfl⟩:=aDz.1 ht;exact(D_ (h4 a ha)).2.2.1 e he
 have hfin:∀t∈ag.map eH,t.fine=true:=by intro t ht;obtain⟨a,ha,rfl⟩:=aDz.1 ht;exact(D_ (h4 a ha)).2.2.2
 generalize ag.map eH=Z at*;have ht:(bH lf::(Z++[aI q])).length-1=Z.length+1:=aj;have wP:((bH lf::(Z++[aI q])).take (Z.length+1)).drop 1=Z:=by rw[aDX,aEY];rfl
 have hf:h_ (dh (aT dX::(bH lf::(Z++[aI q]))))=true:=by rw[Gn _ _ aj];show (decide (2<=(bH lf::(Z++[aI q])).length)&&dI (bH lf)&&(((bH lf::(Z++[aI q])).take ((bH lf::(Z++[aI q])).length-1)).drop 1).all dR)=true;rw[ht,wP,hall,Il,aEU,aEU];exact aDE aj
 rw[e',pM _ _ hf,tV _ _ hf];refine⟨?_,?_,jG ?_⟩;show Pl.mk 7 [] [] [] ((bH lf).kids.map T.s) [] ((((bH lf::(Z++[aI q])).take ((bH lf::(Z++[aI q])).length-1)).drop 1).map jV) (((bH lf::(Z++[aI q])).map pPlan).drop ((bH lf::(Z++[aI q])).length-1))=_;rw[ht,wP,hmap,CP,aDe,aDJ,aDk,aE4 aj,aDe,aDu,k1];rw[gG];show ∀x∈(bH lf).kids.map bQ++((((bH lf::(Z++[aI q])).take ((bH lf::(Z++[aI q])).length-1)).drop 1).flatMap dS++((bH lf::(Z++[aI q])).map dD).drop ((bH lf::(Z++[aI q])).length-1)),x.1=0;rw[ht,wP,aDe,aDJ,aDk,aE4 aj];intro x hx;rcases aDm.1 hx with hx|hx;exact ML h3 x hx;rcases aDm.1 hx with hx|hx;exact herr x hx;simp at hx;rw[hx];exact k2;intro t ht;rcases aDg.1 ht with rfl|ht;exact pR _ aj;rcases aDg.1 ht with rfl|ht;exact CO h3;rcases aDm.1 ht with ht|ht;exact hfin t ht;simp at ht;rw[ht];exact k3
mutual
theorem MM:∀p:Pl,ZW p
 | .mk k nm es cs lf rt ag l=>Yt k nm es cs lf rt ag l (aeL l)
theorem aeL:∀l:List Pl,∀p∈l,ZW p
 | []=>λp hp=>by cases hp
 | a::l=>by intro p hp;rcases aDg.1 hp with h1|h1;rw[h1];exact MM a;exact aeL l p h1
end
theorem PZ:∀l:List T,T.uI l=true->∀t∈l,t.fine=true
 | [],_,t,h=>by cases h
 | a::l,hf,t,h=>by rw[T.uI,aC9]at hf;rcases aDg.1 h with rfl|h;exact hf.1;exact PZ l hf.2 t h
theorem tX{k:Int}{s:By}{n:Int}{l:List T}{p:Nat}(h:(T.mk k s n l p).fine=true):(k=1/\s=[]/\n=0/\∀t∈l,t.fine=true)∨(k=2/\n=0/\l=[]/\s≠[])∨(k=3/\s=[]/\l=[])∨(k=4/\n=0/\l=[]/\s.length<=40):=by
 rw[T.fine]at h;unfold gB at h;simp only[aDC,aC9,aDn,aDV,aEZ,aEJ,List.isEmpty_eq_false_iff]at h;rcases h with h|((h|h)|h)
 exact .inl ⟨h.1.1.1,h.1.1.2,h.1.2,PZ l h.2⟩;exact .inr (.inl ⟨h.1.1.1,h.1.2.1,h.2,h.1.1.2.1⟩);exact .inr (.inr (.inl ⟨h.1.1.1,h.1.1.2,h.2⟩));exact .inr (.inr (.inr ⟨h.1.1.1,h.1.2,h.2,h.1.1.2⟩))
theorem pU{t:T}(h:t.fine=true)(ha:t.kind=2):t.strip=aT t.s/\t.s≠[]:=by obtain⟨k,s,n,l,p⟩:=t;change k=2 at ha;subst ha;rcases tX h with h1|h1|h1|h1;exact absurd h1.1 ai;obtain⟨_,h2,h3,h4⟩:=h1;subst h2 h3;exact⟨by rw[T.jo];rfl,h4⟩;exact absurd h1.1 ai;exact absurd h1.1 ai
theorem xQ{t:T}(h:t.fine=true)(ha:t.kind=1):t.strip=dh (t.kids.map T.strip)/\∀x∈t.kids,x.fine=true:=by obtain⟨k,s,n,l,p⟩:=t;change k=1 at ha;subst ha;rcases tX h with h1|h1|h1|h1;obtain⟨_,h2,h3,h4⟩:=h1;subst h2 h3;exact⟨by rw[T.jo];rfl,h4⟩;exact absurd h1.1 ai;exact absurd h1.1 ai;exact absurd h1.1 ai
mutual
theorem CQ:∀t:T,t.fine=true->(xRead t).2.1=0->xTree (xRead t).1=t.strip
 | .mk k s n l p,hf,h=>by
  have hl:=Io l;rcases tX hf with⟨h1,h2,h3,h4⟩|⟨h1,h2,h3,_⟩|⟨h1,h2,h3⟩|⟨h1,h2,h3,_⟩
  subst h1 h2 h3;rw[Ci]at h|-
  cases l with
  | nil=>simp[lF]at h
  | cons hd q=>
   simp only at h|-;by_cases hk:(hd.kind==2&&!(dU hd.s==0))=true;rw[if_pos hk]at h|-;by_cases hq:(q.length==dU hd.s)=true;rw[if_pos hq]at h|-;obtain⟨h5,h6⟩:=F8 hd.s (q.map xRead) [] h;rw[h6];rw[aC9,aDn]at hk;have ha:=(pU (h4 hd (aC' ..)) hk.1).1;rw[T.jo,aDe,ha,xTree,xC,aDW,aDx,aDx];have hm:q.map ((xTree ∘ λx:FV=>x.1) ∘ xRead)=q.map T.strip:=aDT λt ht=>hl t (aDc _ ht) (h4 t (aDc _ ht)) (h5 _ (aDF ht));rw[hm];rfl;rw[if_neg hq]at h;simp[lF]at h;rw[if_neg hk]at h;simp[lF]at h
  subst h1 h2 h3;rw[jL s 0 [] p ai]at h|-;rw[if_pos (show ((2:Int)==2)=true from rfl)]at h|-;by_cases hn:kZ s=true;rw[if_pos hn,T.jo];rfl;rw[if_neg hn]at h;simp[lF]at h;subst h1 h2 h3;rw[jL [] n [] p ai,T.jo];rfl;subst h1 h2 h3;rw[jL s 0 [] p ai,T.jo];rfl
theorem Io:∀l:List T,∀t∈l,t.fine=true->(xRead t).2.1=0->xTree (xRead t).1=t.strip
 | [],t,h=>by cases h
 | a::l,t,h=>by rcases aDg.1 h with h1|h1;rw[h1];exact CQ a;exact Io l t h1
end
theorem AA{t:T}(h:t.fine=true)(ha:dI t=true):t.strip=bH (t.kids.map T.s)/\∀s∈t.kids.map T.s,s≠[]:=by unfold dI bT at ha;rw[aC9,aDn,aDs]at ha;obtain⟨h1,h2⟩:=xQ h ha.1;refine⟨?_,λs hs=>?_⟩;rw[h1];unfold bH;rw[aDx];exact aD8 dh (aDT λx hx=>(pU (h2 x hx) (by simpa using ha.2 x hx)).1);obtain⟨x,hx,rfl⟩:=aDz.1 hs;exact(pU (h2 x hx) (by simpa using ha.2 x hx)).2
theorem Yu{l:List T}(h:l.length=2):l=[at_ l 0,at_ l 1]:=by
 match l,h with
 | [a,b],_=>rfl
theorem aeM{l:List T}(h:l.length=3):l=[at_ l 0,at_ l 1,at_ l 2]:=by
 match l,h with
 | [a,b,c],_=>rfl
theorem abO{t:T}(h:t.fine=true)(ha:fM t=true)(he:(oC (at_ t.kids 1)).1=0):t.strip=iV (LP t) (LQ t):=by
 unfold fM bT at ha;simp only[aC9,aDn]at ha;obtain⟨h1,h2⟩:=xQ h ha.1.1;have hk:=Yu ha.1.2;have m0:at_ t.kids 0∈t.kids:=by rw[hk];simp
 have m1:at_ t.kids 1∈t.kids:=by rw[hk];simp
 rw[h1,hk,aDe,aDe,aDu,(pU (h2 _ m0) ha.2).1,<-CQ _ (h2 _ m1) he];rfl
theorem abP{t:T}(h:t.fine=true)(ha:dR t=true):t.strip=eH (jV t):=by
 unfold dR at ha;simp only[aC9,aDC,aDn]at ha;obtain⟨h1,h2⟩:=AA h ha.1;rw[h1];rcases ha.2 with hl|hl;have hk:=Yu hl;unfold eH jV bH;rw[hl];rw[hk];rfl;have hk:=aeM hl;have hne:(at_ t.kids 2).s≠[]:=h2 _ (by rw[hk];simp);unfold eH jV bH;rw[hl];simp only[aD_,aDL];rw[show (at_ t.kids 2).s.isEmpty=false by
  cases hc:(at_ t.kids 2).s with
  | nil=>exact absurd hc hne
  | cons _ _=>rfl]
 conv=>lhs;rw[hk]
 rfl
theorem xR{t:T}(h:(bQ t).1=0):kZ t.s=true:=by unfold bQ at h;split at h;assumption;cases h
theorem ZX{t:T}(ht:t.every Lr=true)(hf:t.every dY=true)(h:(oC t).1=0):vX (xRead t).1:=⟨H_ t h,H8 t ht,Ls t hf,(PG t h).1⟩
theorem zK(s:By):(fG s=1/\s=gm)∨(fG s=2/\s=gK)∨(fG s=3/\s=fA)∨(fG s=4/\s=lS)∨(fG s=5/\s=iw)∨(fG s=6/\s=fD)∨(fG s=7/\s=dX)∨fG s=0:=by by_cases h1:s=gm;exact .inl ⟨by rw[h1];decide+kernel,h1⟩;by_cases h2:s=gK;exact .inr (.inl ⟨by rw[h2];decide+kernel,h2⟩);by_cases h3:s=fA;exact .inr (.inr (.inl ⟨by rw[h3];decide+kernel,h3⟩));by_cases h4:s=lS;exact .inr (.inr (.inr (.inl ⟨by rw[h4];decide+kernel,h4⟩)));by_cases h5:s=iw;exact .inr (.inr (.inr (.inr (.inl ⟨by rw[h5];decide+kernel,h5⟩))));by_cases h6:s=fD;exact .inr (.inr (.inr (.inr (.inr (.inl ⟨by rw[h6];decide+kernel,h6⟩)))));by_cases h7:s=dX;exact .inr (.inr (.inr (.inr (.inr (.inr (.inl ⟨by rw[h7];decide+kernel,h7⟩))))));refine .inr (.inr (.inr (.inr (.inr (.inr (.inr ?_))))));unfold fG;simp[h1,h2,h3,h4,h5,h6,h7]
theorem aeN{t:T}(h:t.fine=true)(ha:dR t=true)(he:∀e∈dS t,e.1=0):PI (jV t):=by
 unfold dS at he;have e0:=he _ (aC' ..);have e1:=he _ (aDc _ (aC' ..));have e2:=he _ (aDc _ (aDc _ (aC' ..)));have hfn:isFun (at_ t.kids 1).s (t.kids.length==3)=true:=by
  cases hc:isFun (at_ t.kids 1).s (t.kids.length==3)
  rw[hc]at e1;simp at e1;rfl
 refine⟨xR e0,?_⟩;unfold jV;unfold isFun at hfn;by_cases h3:(t.kids.length==3)=true;rw[h3]at hfn e2;rw[if_pos rfl]at e2;simp only[h3,aDL];refine .inr ⟨?_,xR e2⟩;by_cases hs:((at_ t.kids 1).s==lG||(at_ t.kids 1).s==lY||(at_ t.kids 1).s==lZ)=true;simp only[aDC,aDn]at hs;rcases hs with (hs|hs)|hs;exact .inl hs;exact .inr (.inl hs);exact .inr (.inr hs);rw[if_neg hs]at hfn;by_cases hc:((at_ t.kids 1).s==dW)=true;rw[if_pos hc]at hfn;cases hfn;rw[if_neg hc]at hfn;cases hfn;have h3':(t.kids.length==3)=false:=by simpa using h3
 rw[h3']at hfn;simp only[h3',aDq,aDU];refine .inl ⟨?_,trivial⟩;by_cases hs:((at_ t.kids 1).s==lG||(at_ t.kids 1).s==lY||(at_ t.kids 1).s==lZ)=true;rw[if_pos hs]at hfn;cases hfn;rw[if_neg hs]at hfn;by_cases hc:((at_ t.kids 1).s==dW)=true;exact aDn.1 hc;rw[if_neg hc]at hfn;cases hfn
def FwP(t:T):Prop:=t.fine=true->(dD t).1=0->aI (pPlan t)=t.strip/\(pPlan t).good
theorem Vu{α:Type}{l:List α}(h:1<=l.length):∃c z,l=c++[z]:=by
 have hne:l≠[]:=λe=>by rw[e]at h;simp at h
 exact⟨l.dropLast,l.getLast hne,(List.dropLast_concat_getLast hne).symm⟩
theorem aeO(k:Int)(s:By)(n:Int)(l:List T)(p:Nat)(hl:∀x∈l,FwP x):FwP (.mk k s n l p):=by
 intro hfi he;have hf:h_ (.mk k s n l p)=true:=by
  cases hc:h_ (.mk k s n l p) with
  | true=>rfl
  | false=>rw[dD,hc]at he;simp at he
 rw[dD,if_pos hf,Aq,gG]at he;rw[pPlan,if_pos hf,xE];have hf2:k=1/\2<=l.length/\(at_ l 0).kind=2/\pFormOf (fG (at_ l 0).s) (l.drop 1)=true:=by unfold h_ at hf;rw[aC9,aC9,aC9,aDn,aDV]at hf;exact⟨hf.1.1.1,hf.1.1.2,aDn.1 hf.1.2,hf.2⟩
 obtain⟨rfl,h2,h3,h4⟩:=hf2;obtain⟨hst,hfk⟩:=xQ hfi rfl
 cases l with
 | nil=>simp at h2
 | cons a q=>
  rw[hst];have ha:a.strip=aT a.s:=(pU (hfk a (aC' ..)) h3).1;have hq:∀x∈q,x.fine=true:=λx hx=>hfk x (aDc _ hx);have Be:∀x∈q,(dD x).1=0->aI (pPlan x)=x.strip/\(pPlan x).good:=λx hx h=>hl x (aDc _ hx) (hq x hx) h;have hex:∀x∈q,(oC x).1=0->vX (xRead x).1/\xTree (xRead x).1=x.strip:=λx hx h=>⟨ZX (lC x (hq x hx)).2 (lC x (hq x hx)).1 h,CQ x (hq x hx) h⟩
  change aI (pMake (fG a.s) q (q.map pPlan))=dh (a.strip::q.map T.strip)/\(pMake (fG a.s) q (q.map pPlan)).good;change pFormOf (fG a.s) q=true at h4;change ∀e∈xG (fG a.s) q (q.map dD),e.1=0 at he;rw[ha];rcases zK a.s with⟨hk,hs⟩|⟨hk,hs⟩|⟨hk,hs⟩|⟨hk,hs⟩|⟨hk,hs⟩|⟨hk,hs⟩|⟨hk,hs⟩|hk;rw[hk]at h4 he|-;rw[hs];have h5:(q.length==1&&bT (at_ q 0))=true:=h4;rw[aC9,aDn]at h5;obtain⟨y,rfl⟩:=uS h5.1;have hy:=(pU (hq y (aC' ..)) (aDn.1 h5.2)).1;have hn:=xR (he (bQ y) (aC' ..));exact⟨by
   show dh ([aT gm,aT y.s]++[])=dh (aT gm::[y.strip]);rw[hy];rfl,.inl ⟨rfl,hn,rfl,rfl,rfl,rfl,rfl,rfl⟩,trivial⟩
  rw[hk]at h4 he|-;rw[hs];have h5:(q.length==2)=true:=h4;rw[aDn]at h5;obtain⟨x,y,rfl⟩:=Az h5;obtain⟨g1,g2⟩:=hex x (aC' ..) (he (oC x) (aC' ..));obtain⟨g3,g4⟩:=Be y (aDc _ (aC' ..)) (he (dD y) (aDc _ (aC' ..)));refine⟨?_,.inr (.inl ⟨rfl,rfl,⟨_,rfl,g1⟩,rfl,rfl,rfl,rfl,rfl⟩),g4,trivial⟩;show dh (aT gK::[xTree (xRead x).1]++[aI (pPlan y)])=_;rw[g2,g3];rfl;rw[hk]at h4 he|-;rw[hs];have h5:(decide (2<=q.length)&&(q.take (q.length-1)).all fM)=true:=h4;rw[aC9,aDV]at h5;obtain⟨c,z,rfl⟩:=Vu (l:=q) ae;have hlen:(c++[z]).length-1=c.length:=aj;have wP:(c++[z]).take ((c++[z]).length-1)=c:=by rw[hlen,List.take_left'];rfl
  have hdr:∀{α:Type} (f:T->α),((c++[z]).map f).drop ((c++[z]).length-1)=[f z]:=λf=>by rw[hlen,aDk,aE4 (by rw[aC_])];rfl
  rw[wP,aDs]at h5;have WQ:∀e∈c.flatMap ru++[dD z],e.1=0:=by have h6:∀e∈((c++[z]).take ((c++[z]).length-1)).flatMap ru++((c++[z]).map dD).drop ((c++[z]).length-1),e.1=0:=he;rwa [wP,hdr]at h6
  have hc:∀x∈c,(bQ (at_ x.kids 0)).1=0/\(oC (at_ x.kids 1)).1=0:=λx hx=>⟨WQ _ (aDy _ (aEh.2 ⟨x,hx,aC' ..⟩)),WQ _ (aDy _ (aEh.2 ⟨x,hx,aDc _ (aC' ..)⟩))⟩
  obtain⟨g3,g4⟩:=Be z (aD7 _ (aC' ..)) (WQ _ (aD7 _ (aC' ..)));have hcs:c.map (λx=>iV (LP x) (LQ x))=c.map T.strip:=aDT λx hx=>(abO (hq x (aDy _ hx)) (h5.2 x hx) (hc x hx).2).symm;have hkf:∀x∈c,(at_ x.kids 1).fine=true:=λx hx=>by have ahY:=h5.2 x hx;unfold fM at ahY;simp only[aC9,aDn]at ahY;have hk2:=Yu ahY.1.2;exact(xQ (hq x (aDy _ hx)) ahY.1.1).2 _ (by rw[hk2];simp)
  have hmk:pMake 3 (c++[z]) ((c++[z]).map pPlan)=.mk 3 [] (c.map LQ) (c.map LP) [] [] [] [pPlan z]:=by show Pl.mk 3 [] (((c++[z]).take ((c++[z]).length-1)).map LQ) (((c++[z]).take ((c++[z]).length-1)).map LP) [] [] [] (((c++[z]).map pPlan).drop ((c++[z]).length-1))=_;rw[wP,hdr]
  rw[hmk];refine⟨?_,.inr (.inr (.inl ⟨rfl,rfl,λe he=>?_,by rw[aC_,aC_],by rw[aC_];have:=h5.1;simp at this;omega,λs hs=>?_,rfl,rfl,rfl,rfl⟩)),g4,trivial⟩;show dh ((aT fA::List.zipWith iV (c.map LP) (c.map LQ))++[aI (pPlan z)])=_;rw[List.zipWith_map,List.zipWith_self,hcs,g3,aDk];rfl;obtain⟨x,hx,rfl⟩:=aDz.1 he;exact ZX (lC _ (hkf x hx)).2 (lC _ (hkf x hx)).1 (hc x hx).2;obtain⟨x,hx,rfl⟩:=aDz.1 hs;exact xR (hc x hx).1;rw[hk]at h4 he|-;rw[hs];have h5:(q.length==4&&(q.take 2).all dI)=true:=h4;rw[aC9,aDn]at h5
  match q,h5.1 with
  | [x,y,u,v],_=>
   have h6:(dI x&&(dI y&&true))=true:=h5.2;rw[aC9,aC9]at h6;have WQ:∀e∈x.kids.map bQ++(y.kids.map bQ++[dD u,dD v]),e.1=0:=he;obtain⟨g1,g2⟩:=Be u aj (WQ _ aj);obtain⟨g3,g4⟩:=Be v aj (WQ _ aj);have hx:=(AA (hq x aj) h6.1).1;have hy:=(AA (hq y aj) h6.2.1).1;refine⟨?_,.inr (.inr (.inr (.inl ⟨rfl,rfl,rfl,rfl,λs hs=>?_,λs hs=>?_,rfl,rfl⟩))),g2,g4,trivial⟩;show dh ([aT lS,bH (x.kids.map T.s),bH (y.kids.map T.s)]++[aI (pPlan u),aI (pPlan v)])=_;rw[<-hx,<-hy,g1,g3];rfl;obtain⟨z,hz,rfl⟩:=aDz.1 hs;exact xR (WQ _ (aDy _ (aDF hz)));obtain⟨z,hz,rfl⟩:=aDz.1 hs;exact xR (WQ _ (aD7 _ (aDy _ (aDF hz))))
  rw[hk]at h4 he|-;rw[hs];have h5:(q.length==2)=true:=h4;rw[aDn]at h5;obtain⟨x,y,rfl⟩:=Az h5;obtain⟨g1,g2⟩:=Be x aj (he (dD x) (aC' ..));obtain⟨g3,g4⟩:=Be y aj (he (dD y) (aDc _ (aC' ..)));refine⟨?_,.inr (.inr (.inr (.inr (.inl ⟨rfl,rfl,rfl,rfl,rfl,rfl,rfl,rfl⟩)))),g2,g4,trivial⟩;show dh ([aT iw]++[aI (pPlan x),aI (pPlan y)])=_;rw[g1,g3];rfl;rw[hk]at h4 he|-;rw[hs];have h5:(q.length==1)=true:=h4;rw[aDn]at h5;obtain⟨x,rfl⟩:=uS h5;obtain⟨g1,g2⟩:=Be x aj (he (dD x) (aC' ..));refine⟨?_,.inr (.inr (.inr (.inr (.inr (.inl ⟨rfl,rfl,rfl,rfl,rfl,rfl,rfl,rfl⟩))))),g2,trivial⟩;show dh ([aT fD]++[aI (pPlan x)])=_;rw[g1];rfl;rw[hk]at h4 he|-;rw[hs];have h5:(decide (2<=q.length)&&dI (at_ q 0)&&((q.take (q.length-1)).drop 1).all dR)=true:=h4;rw[aC9,aC9,aDV]at h5;obtain⟨x,r,rfl⟩:∃x r,q=x::r:=by
   cases q with
   | nil=>simp at h5
   | cons x r=>exact⟨x,r,rfl⟩
  obtain⟨c,z,rfl⟩:=Vu (l:=r) (by have:=h5.1.1;simp at this;omega);have hlen:(x::(c++[z])).length-1=c.length+1:=aj;have wP:((x::(c++[z])).take ((x::(c++[z])).length-1)).drop 1=c:=by rw[hlen,aDX,aDJ,aEc,List.take_left'];rfl
  have hdr:∀{α:Type} (f:T->α),((x::(c++[z])).map f).drop ((x::(c++[z])).length-1)=[f z]:=λf=>by rw[hlen,aDe,aDJ,aDk,aE4 (by rw[aC_])];rfl
  rw[wP,aDs]at h5;have WQ:∀e∈x.kids.map bQ++(c.flatMap dS++[dD z]),e.1=0:=by have h6:∀e∈x.kids.map bQ++((((x::(c++[z])).take ((x::(c++[z])).length-1)).drop 1).flatMap dS++((x::(c++[z])).map dD).drop ((x::(c++[z])).length-1)),e.1=0:=he;rwa [wP,hdr]at h6
  obtain⟨g3,g4⟩:=Be z aj (WQ _ aj);have hx:=(AA (hq x aj) h5.1.2).1;have hcs:(c.map jV).map eH=c.map T.strip:=by rw[aDx];exact aDT λy hy=>(abP (hq y (by simp[hy])) (h5.2 y hy)).symm
  have hmk:pMake 7 (x::(c++[z])) ((x::(c++[z])).map pPlan)=.mk 7 [] [] [] (x.kids.map T.s) [] (c.map jV) [pPlan z]:=by show Pl.mk 7 [] [] [] (x.kids.map T.s) [] ((((x::(c++[z])).take ((x::(c++[z])).length-1)).drop 1).map jV) (((x::(c++[z])).map pPlan).drop ((x::(c++[z])).length-1))=_;rw[wP,hdr]
  rw[hmk];refine⟨?_,.inr (.inr (.inr (.inr (.inr (.inr ⟨rfl,rfl,rfl,rfl,λs hs=>?_,rfl,λa ha=>?_,rfl⟩))))),g4,trivial⟩;show dh ((aT dX::bH (x.kids.map T.s)::(c.map jV).map eH)++[aI (pPlan z)])=_;rw[<-hx,hcs,g3,aDe,aDk];rfl;obtain⟨y,hy,rfl⟩:=aDz.1 hs;exact xR (WQ _ (aDy _ (aDF hy)));obtain⟨y,hy,rfl⟩:=aDz.1 ha;exact aeN (hq y (by simp[hy])) (h5.2 y hy) λe he=>WQ _ (aD7 _ (aDy _ (aEh.2 ⟨y,hy,he⟩)));rw[hk]at h4
  cases h4
mutual
theorem aoG:∀t:T,FwP t
 | .mk k s n l p=>aeO k s n l p (ajS l)
theorem ajS:∀l:List T,∀t∈l,FwP t
 | []=>λt h=>by cases h
 | a::l=>by intro t h;rcases aDg.1 h with h1|h1;rw[h1];exact aoG a;exact ajS l t h1
end
end Go.Proofs.YtbgmhhfjkkfhpaaGreatDoor
