import Derived.Test.YtbgmhhfjkkfhpaaGreatDoorZ21G
import Derived.Test.YtbgmhhfjkkfhpaaGreatDoorZ32G
set_option linter.unusedVariables false
set_option maxRecDepth 100000
set_option maxHeartbeats 64000000
namespace Go.Proofs.YtbgmhhfjkkfhpaaGreatDoor
open Go.RowKit
open Go.Lib renaming hid → zq
open Go renaming World → ak
open Go.Proofs.Tryz renaming prog → ax
variable {U:Prop}
open Go.Proofs.Tryz
def hasKey{α κ:Type}[DecidableEq κ](key:α->κ)(x:α):List α->Bool
 | []=>false
 | y::_=>decide (key y=key x)
def DU{α κ:Type}[DecidableEq κ](key:α->κ)(gs:List (List α))(x:α):List (List α):=match gs.findIdx? (hasKey key x) with
 | some i=>gs.set i ((gs.getD i [])++[x])
 | none=>gs++[[x]]
def dB{α κ:Type}[DecidableEq κ](key:α->κ)(s:List α):List (List α):=s.foldl (DU key) []
structure rC{α κ:Type}(key:α->κ)(s:List α)(gs:List (List α)):Prop where
 ne:∀g∈gs,g≠[]
 same:∀g∈gs,∀x∈g,∀y∈g,key x=key y
 apart:gs.Pairwise λg h=>∀x∈g,∀y∈h,key x≠key y
 sum:∀f:α->Int,(gs.map λg=>(g.map f).sum).sum=(s.map f).sum
 mem:∀g∈gs,∀x∈g,x∈s
theorem rC.nil{α κ:Type}(key:α->κ):rC key [] []:=⟨aj,aj,.nil,aj,aj⟩
theorem rC.add{α κ:Type}[DecidableEq κ]{key:α->κ}{s:List α}{gs:List (List α)}(h:rC key s gs)(x:α):rC key (s++[x]) (DU key gs x):=by
 unfold DU
 cases hf:gs.findIdx? (hasKey key x) with
 | none=>
  have hn:∀g∈gs,∀y∈g,key y≠key x:=λg hg y hy e=>by
   have h1:=aEA.1 hf g hg
   cases g with
   | nil=>cases hy
   | cons z g=>
    have h2:=h.same _ hg z aC' y hy;simp[hasKey]at h1;exact h1 (h2.trans e)
  refine⟨?_,?_,?_,?_,?_⟩;intro g hg;rcases aDm.1 hg with h1|h1;exact h.ne g h1;simp at h1;simp[h1];intro g hg;rcases aDm.1 hg with h1|h1;exact h.same g h1;simp at h1;subst h1;simp;refine aEE.2 ⟨h.apart,aEr _ _,λg hg k hk y hy z hz=>?_⟩;simp at hk;subst hk;simp at hz;subst hz;exact hn g hg y hy;intro f;simp[h.sum f];intro g hg y hy;rcases aDm.1 hg with h1|h1;exact aDy _ (h.mem g h1 y hy);simp at h1;subst h1;exact aD7 _ hy
 | some i=>
  obtain⟨hi,hk,_⟩:=aD6.1 hf;obtain⟨g0,hg0⟩:∃g0,g0=gs[i]:=⟨_,rfl⟩
  have hgm:g0∈gs:=hg0▸List.getElem_mem hi;have hkx:∀y∈g0,key y=key x:=λy hy=>by
   rw[<-hg0]at hk
   cases g0 with
   | nil=>cases hk
   | cons z g=>
    have h2:=h.same _ hgm y hy z aC';simp[hasKey]at hk;exact h2.trans hk
  have hgd:gs.getD i []=g0:=by rw[hg0];simp[List.getD,hi]
  have hsplit:gs=gs.take i++g0::gs.drop (i+1):=by rw[hg0,aEQ,aDS]
  have hset:gs.set i (g0++[x])=gs.take i++(g0++[x])::gs.drop (i+1):=by rw[List.set_eq_take_append_cons_drop,if_pos hi]
  simp only[hgd];rw[hset];have hap:=h.apart;rw[hsplit]at hap;have hm1:∀g,g∈gs.take i∨g∈gs.drop (i+1)->g∈gs:=λg hg=>hg.elim aD2 aEm;refine⟨?_,?_,?_,?_,?_⟩;intro g hg;rcases aDm.1 hg with h1|h1;exact h.ne g (hm1 g (.inl h1));rcases aDg.1 h1 with rfl|h1;simp;exact h.ne g (hm1 g (.inr h1));intro g hg;rcases aDm.1 hg with h1|h1;exact h.same g (hm1 g (.inl h1));rcases aDg.1 h1 with rfl|h1;have hall:∀y∈g0++[x],key y=key x:=λy hy=>by rcases aDm.1 hy with h3|h3;exact hkx y h3;simp at h3;rw[h3]
  intro y hy z hz;rw[hall y hy,hall z hz];exact h.same g (hm1 g (.inr h1));obtain⟨p1,p2,p3⟩:=aEE.1 hap;obtain⟨p4,p5⟩:=aDQ.1 p2;obtain⟨y0,hy0⟩:=aEB _ (h.ne g0 hgm);refine aEE.2 ⟨p1,aDQ.2 ⟨λk hk y hy z hz=>?_,p5⟩,λk hk l hl y hy z hz=>?_⟩;rcases aDm.1 hy with h3|h3;exact p4 k hk y h3 z hz;simp at h3;rw[h3,<-hkx y0 hy0];exact p4 k hk y0 hy0 z hz;rcases aDg.1 hl with rfl|hl;rcases aDm.1 hz with h3|h3;exact p3 k hk g0 aC' y hy z h3;simp at h3;rw[h3,<-hkx y0 hy0];exact p3 k hk g0 aC' y hy y0 hy0;exact p3 k hk l (aDc _ hl) y hy z hz;intro f;have:=h.sum f;rw[hsplit]at this;simp at this|-;omega;intro g hg y hy;rcases aDm.1 hg with h1|h1;exact aDy _ (h.mem g (hm1 g (.inl h1)) y hy);rcases aDg.1 h1 with rfl|h1;rcases aDm.1 hy with h3|h3;exact aDy _ (h.mem g0 hgm y h3);exact aD7 _ h3;exact aDy _ (h.mem g (hm1 g (.inr h1)) y hy)
theorem pK{α κ:Type}[DecidableEq κ](key:α->κ)(s:List α):rC key s (dB key s):=by
 suffices H:∀(l p:List α) (gs:List (List α)),rC key p gs->rC key (p++l) (l.foldl (DU key) gs) from H s [] [] (rC.nil key)
 intro l
 induction l with
 | nil=>intro p gs h;simpa using h
 | cons x l ih=>
  intro p gs h;have:=ih (p++[x]) _ (h.add x);rw[aDA]at this;exact this
theorem xH{α κ:Type}[DecidableEq κ](key:α->κ)(l:List α)(x:α):dB key (l++[x])=DU key (dB key l) x:=by unfold dB;rw[aEz];rfl
def vG{α:Type}(before:α->α->Bool)(d:α):List α->α
 | []=>d
 | x::l=>(x::l).foldl (λv y=>if before y v then y else v) x
theorem PK{α:Type}(f:α->Int)(before:α->α->Bool)(s:Int)(l:List α)(hs:s=1∨s=-1)(hb:∀x∈l,∀y∈l,before x y=decide (s*f x<s*f y))(d:α)(hl:l≠[]):
  vG before d l∈l/\∀x∈l,s*f (vG before d l)<=s*f x:=by
 have H:∀(m:List α) (v:α),v∈l->(∀x∈m,x∈l)->(m.foldl (λv y=>if before y v then y else v) v)∈l/\s*f (m.foldl (λv y=>if before y v then y else v) v)<=s*f v/\∀x∈m,s*f (m.foldl (λv y=>if before y v then y else v) v)<=s*f x:=by
  intro m
  induction m with
  | nil=>intro v hv _;exact⟨hv,aEI _,aj⟩
  | cons y m ih=>
   intro v hv hm;have hy:=hm y aC';have WE:∀x∈m,x∈l:=λx hx=>hm x (aDc _ hx);rw[aEw,hb y hy v hv];by_cases hc:s*f y<s*f v;rw[aDE hc,if_pos rfl];obtain⟨h1,h2,h3⟩:=ih y hy WE;refine⟨h1,ae,λx hx=>?_⟩;rcases aDg.1 hx with rfl|hx;exact h2;exact h3 x hx;rw[aDB hc,if_neg aEs];obtain⟨h1,h2,h3⟩:=ih v hv WE;refine⟨h1,h2,λx hx=>?_⟩;rcases aDg.1 hx with rfl|hx;omega;exact h3 x hx
 cases l with
 | nil=>exact absurd rfl hl
 | cons x l=>
  obtain⟨h1,_,h3⟩:=H (x::l) x aC' λy hy=>hy;exact⟨h1,h3⟩
theorem PN{α:Type}(p f:α->Int)(lo hi:Int):∀l:List α,(∀x∈l,0<=p x/\lo<=f x/\f x<=hi)->(l.map p).sum*lo<=(l.map λx=>f x*p x).sum/\(l.map λx=>f x*p x).sum<=(l.map p).sum*hi
 | [],_=>by simp
 | x::l,h=>by
  obtain⟨h1,h2⟩:=PN p f lo hi l λy hy=>h y (aDc _ hy);obtain⟨a,b,c⟩:=h x aC';simp only[aDe,aDI,Int.add_mul];have e1:p x*lo<=f x*p x:=by rw[Int.mul_comm (f x)];exact aEM b a
  have e2:f x*p x<=p x*hi:=by rw[Int.mul_comm (f x)];exact aEM c a
  omega
theorem Q_{α:Type}(p:α->Int):∀l:List α,(∀x∈l,1<=p x)->(l.length:Int)<=(l.map p).sum
 | [],_=>by simp
 | x::l,h=>by have h1:=Q_ p l λy hy=>h y (aDc _ hy);have h2:=h x aC';simp only[aDe,aDI,aDh];omega
def lg:V:=(0,0,⟨#[]⟩)
def jT(r:List V)(i:Nat):V:=r.getD i lg
def jM(cols:List C)(l:List By):List Nat:=l.map λnm=>(gZ cols (dV nm)).getD 0
def dF(r:List V)(at_:List Nat):List V:=at_.map (jT r)
def sZ(a b:V):Bool:=eG [a] [b]
def xI(a b:V):Bool:=sZ b a
def qA(g:List I)(i:Nat):Int:=(g.map λx=>(jT x.1 i).2.1*x.2.1).sum
def Ou(fn:By)(g:List I)(i:Nat):V:=
 if fn=lG then bI (qA g i)
 else if fn=lY then vG sZ lg (g.map λx=>jT x.1 i)
 else if fn=lZ then vG xI lg (g.map λx=>jT x.1 i)
 else bI (bU g)
def uO(cols:List C)(g:List I)(a:Ag):V:=Ou a.2.1 g ((gZ cols (dV a.2.2)).getD 0)
def ajG:I:=([],0,0)
def groupRow(cols:List C)(left:List Nat)(ag:List Ag)(g:List I):I:=(dF (g.headD ajG).1 left++ag.map (uO cols g),1,0)
def keyAt(left:List Nat)(x:I):List V:=dF x.1 left
def fQ(cols:List C)(lf:List By)(ag:List Ag)(rows:List I):List I:=(dB (keyAt (jM cols lf)) rows).map (groupRow cols (jM cols lf) ag)
theorem XP(a b:Int):sZ (bI a) (bI b)=decide (a<b):=by
 have hr:∀x:Int,bZ [bI x]=true:=λx=>by unfold bZ okR iQ bI ed;simp
 unfold sZ eG;rw[hr a,hr b];simp only[aE3,aDL];unfold lessL;by_cases h:bI a=bI b;rw[if_pos h];have:a=b:=by unfold bI at h;injection h with _ h;injection h
 subst this;simp[lessL];rw[if_neg h];unfold qK mD bI ed;simp
theorem Y6{α:Type}(f:α->Int):∀l:List α,(∀x∈l,0<=f x)->∀x∈l,f x<=(l.map f).sum
 | [],_,x,hx=>by cases hx
 | y::l,h,x,hx=>by
  have h0:0<=(l.map f).sum:=by
   have:∀m:List α,(∀x∈m,0<=f x)->0<=(m.map f).sum:=by
    intro m
    induction m with
    | nil=>intro _;simp
    | cons z m ih=>intro hm;simp only[aDe,aDI];have:=hm z aC';have:=ih λw hw=>hm w (aDc _ hw);omega
   exact this l λz hz=>h z (aDc _ hz)
  have hy:=h y aC';simp only[aDe,aDI];rcases aDg.1 hx with rfl|hx;omega;have:=Y6 f l (λz hz=>h z (aDc _ hz)) x hx;omega
theorem Made.once{l s:List I}(h:Made l s)(hd:l.Pairwise λx y=>x.1≠y.1)(h1:∀x∈l,x.2=(1,0)):(∀x∈s,x.2=(1,0))/\∀f:List V->Int,(s.map λx=>f x.1).sum=(l.map λx=>f x.1).sum:=by
 have hone:∀r:List V,(l.map λx=>(if x.1=r then 1 else 0)*x.2.1).sum<=1:=by
  intro r;clear h
  induction l with
  | nil=>simp
  | cons x l ih=>
   obtain⟨p1,p2⟩:=aDQ.1 hd;have ih:=ih p2 λy hy=>h1 y (aDc _ hy);simp only[aDe,aDI];rw[h1 x aC'];by_cases hx:x.1=r
   ·have hz:∀m:List I,(∀y∈m,x.1≠y.1)->(m.map λy=>(if y.1=r then (1:Int) else 0)*y.2.1).sum=0:=by
     intro m
     induction m with
     | nil=>intro _;simp
     | cons y m ihm=>
      intro hm;have hy:¬y.1=r:=λe=>hm y aC' (hx.trans e.symm);simp only[aDe,aDI,if_neg hy,ihm λz hz=>hm z (aDc _ hz)];omega
    rw[hz l p1,if_pos hx];decide
   rw[if_neg hx];omega
 have hall:∀x∈s,x.2=(1,0):=λx hx=>by obtain⟨a1,a2⟩:=h.adds.pos x hx;have h3:=Y6 (λy:I=>(if y.1=x.1 then 1 else 0)*y.2.1) s (λy hy=>by have:=(h.adds.pos y hy).1;split<;>omega) x hx;rw[if_pos rfl]at h3;have h4:=hone x.1;rw[<-h.sum (λr=>if r=x.1 then 1 else 0)]at h4;have h5:x.2.1=1:=ae;exact Prod.ext h5 a2
 refine⟨hall,λf=>?_⟩;have h6:=h.sum f;have e:∀m:List I,(∀x∈m,x.2=(1,0))->(m.map λx=>f x.1*x.2.1)=m.map λx=>f x.1:=λm hm=>aDT λx hx=>by rw[hm x hx];simp
 rw[e s hall,e l h1]at h6;exact h6
structure oI(S:List I):Prop where
 adds:jc S
 rows:∀x∈S,∃a c:Int,x.1=[bI a,bI c]/\-3<=a/\a<=3/\-3<=c/\c<=3
 tot:bU S<=20
def OM:List Ag:=[([110],dW,[]),([109],lG,[99]),([111],lY,[99]),([112],lZ,[99])]
def ag2:List Ag:=[([110],dW,[]),([109],lG,[99])]
def Qo:List Ag:=[([109],dW,[])]
def agN:List Ag:=[([110],dW,[])]
theorem aiQ:jM cZ [[97]]=[0]:=by decide+kernel
structure Wh(g:List I)(a lo hi:Int):Prop where
 row:groupRow cZ [0] OM g=([bI a,bI (bU g),bI (qA g 1),bI lo,bI hi],1,0)
 key:∀x∈g,keyAt [0] x=[bI a]
 pos:1<=bU g
 le:lo<=hi
 least:bU g*lo<=qA g 1
 most:qA g 1<=bU g*hi
 small:-3<=a/\a<=3/\-3<=lo/\lo<=3/\-3<=hi/\hi<=3/\bU g<=20
theorem told{S g:List I}(h:oI S)(hne:g≠[])(hm:∀x∈g,x∈S)(hk:∀x∈g,∀y∈g,keyAt [0] x=keyAt [0] y)(ht:bU g<=20):∃a lo hi,Wh g a lo hi:=by
 obtain⟨x0,hx0⟩:=aEB _ hne;have hA:jc g:=h.adds.sub hm;have hv:∀x∈g,∃a c:Int,x.1=[bI a,bI c]/\-3<=a/\a<=3/\-3<=c/\c<=3:=λx hx=>h.rows x (hm x hx);have hc:∀v∈g.map (λx=>jT x.1 1),∃c:Int,v=bI c/\-3<=c/\c<=3:=λv hv'=>by obtain⟨x,hx,rfl⟩:=aDz.1 hv';obtain⟨a,c,e,_,_,h3,h4⟩:=hv x hx;exact⟨c,by rw[e];rfl,h3,h4⟩
 have hb:∀x∈g.map (λx=>jT x.1 1),∀y∈g.map (λx=>jT x.1 1),sZ x y=decide (1*x.2.1<1*y.2.1):=λx hx y hy=>by obtain⟨c,rfl,_⟩:=hc x hx;obtain⟨d,rfl,_⟩:=hc y hy;rw[XP];simp[bI]
 have hb':∀x∈g.map (λx=>jT x.1 1),∀y∈g.map (λx=>jT x.1 1),xI x y=decide (-1*x.2.1 < -1*y.2.1):=λx hx y hy=>by unfold xI;rw[hb y hy x hx];congr 1;apply propext;constructor<;>intro h<;>omega
 have hn:g.map (λx=>jT x.1 1)≠[]:=by simpa using hne
 obtain⟨l1,l2⟩:=PK (λv:V=>v.2.1) sZ 1 (g.map λx=>jT x.1 1) (.inl rfl) hb lg hn;obtain⟨m1,m2⟩:=PK (λv:V=>v.2.1) xI (-1) (g.map λx=>jT x.1 1) (.inr rfl) hb' lg hn;obtain⟨lo,elo,lo1,lo2⟩:=hc _ l1;obtain⟨hi,ehi,hi1,hi2⟩:=hc _ m1;rw[elo]at l2;rw[ehi]at m2;have hbd:∀x∈g,0<=x.2.1/\lo<=(jT x.1 1).2.1/\(jT x.1 1).2.1<=hi:=λx hx=>by have h1:=(hA.pos x hx).1;have h2:=l2 _ (aDF hx);have h3:=m2 _ (aDF hx);simp only[bI]at h2 h3;exact⟨ae,ae,ae⟩
 obtain⟨s1,s2⟩:=PN (λx:I=>x.2.1) (λx=>(jT x.1 1).2.1) lo hi g hbd;obtain⟨y0,q,rfl⟩:∃y q,g=y::q:=by
  cases g with
  | nil=>exact absurd rfl hne
  | cons y q=>exact⟨y,q,rfl⟩
 obtain⟨a,c0,e0,a1,a2,_,_⟩:=hv y0 aC';have hka:keyAt [0] y0=[bI a]:=by unfold keyAt dF;rw[e0];rfl
 have h5:=hA.tot.2 y0 aC';have h6:=(hA.pos y0 aC').1;have h7:=hbd y0 aC';refine⟨a,lo,hi,?_,λx hx=>(hk x hx y0 aC').trans hka,ae,ae,s1,s2,a1,a2,lo1,lo2,hi1,hi2,ht⟩;have f0:(gZ cZ (dV [])).getD 0=0:=by decide+kernel
 have f1:(gZ cZ (dV [99])).getD 0=1:=by decide+kernel
 have n1:dW≠lG:=ai;have n2:dW≠lY:=ai;have n3:dW≠lZ:=ai;have n4:lY≠lG:=ai;have n5:lZ≠lG:=ai;have n6:lZ≠lY:=ai;unfold groupRow OM uO Ou;simp only[aDe,aDu,List.headD_cons,f0,f1,if_neg n1,if_neg n2,if_neg n3,if_neg n4,if_neg n5,if_neg n6,aDL];have hvl:dF y0.1 [0]=[bI a]:=hka;rw[hvl];have e1:vG sZ lg (jT y0.1 1::q.map λx=>jT x.1 1)=bI lo:=elo;have e2:vG xI lg (jT y0.1 1::q.map λx=>jT x.1 1)=bI hi:=ehi;rw[e1,e2];rfl
theorem NH{S:List I}{κ:Type}[DecidableEq κ](key:I->κ)(h:jc S):∀g∈dB key S,bU g<=bU S:=λg hg=>by have hG:=pK key S;have h1:=hG.sum λx=>x.2.1;have h2:=Y6 (λg:List I=>bU g) (dB key S) (λk hk=>(h.sub λx hx=>hG.mem k hk x hx).tot.1) g hg;have h3:((dB key S).map λg=>bU g).sum=bU S:=h1;omega
theorem BN(l:List I)(left:List Nat)(hk:∀x∈l,keyAt left x=[]):dB (keyAt left) l=if l=[] then [] else [l]:=by
 suffices H:∀(m p:List I),(∀x∈p++m,keyAt left x=[])->dB (keyAt left) p=(if p=[] then [] else [p])->dB (keyAt left) (p++m)=if p++m=[] then [] else [p++m] from H l [] hk rfl
 intro m
 induction m with
 | nil=>intro p _ h;simpa using h
 | cons x m ih=>
  intro p hp h;have:=ih (p++[x]) (by simpa using hp) ?_;simpa using this;rw[xH,h]
  cases p with
  | nil=>simp[DU]
  | cons y p=>
   have e1:keyAt left y=[]:=hp y aj;have e2:keyAt left x=[]:=hp x aj;simp[DU,hasKey,e1,e2]
structure afI(S G:List I):Prop where
 ones:∀x∈G,x.2=(1,0)
 told:∀x∈G,∃(g:List I) (a lo hi:Int),Wh g a lo hi/\x.1=[bI a,bI (bU g),bI (qA g 1),bI lo,bI hi]
 cnt:(G.map λx=>(jT x.1 1).2.1).sum=bU S
 sum:(G.map λx=>(jT x.1 2).2.1).sum=qA S 1
 len:G.length=(dB (keyAt [0]) S).length
theorem uh{α:Type}(l:List α):(l.map λ_=>(1:Int)).sum=(l.length:Int):=by
 induction l with
 | nil=>rfl
 | cons x l ih=>simp only[aDe,aDI,ih,aDh];omega
theorem acz{S:List I}(h:oI S):∃G,uD (fQ cZ [[97]] OM S)=some G/\Made (fQ cZ [[97]] OM S) G/\setB G=true/\afI S G/\bU (fQ cZ [[97]] OM S)<=20:=by
 have hG:=pK (keyAt [0]) S;have hT:∀g∈dB (keyAt [0]) S,∃a lo hi,Wh g a lo hi:=λg hg=>told h (hG.ne g hg) (hG.mem g hg) (hG.same g hg) (by have:=NH (keyAt [0]) h.adds g hg;have:=h.tot;omega);obtain⟨L,hL⟩:∃L,L=dB (keyAt [0]) S:=⟨_,rfl⟩
 have hgi:fQ cZ [[97]] OM S=L.map (groupRow cZ [0] OM):=by unfold fQ;rw[aiQ,hL]
 have hr:∀x∈L.map (groupRow cZ [0] OM),x.2=(1,0)/\bZ x.1=true/\∃g∈L,∃a lo hi,Wh g a lo hi/\x.1=[bI a,bI (bU g),bI (qA g 1),bI lo,bI hi]:=λx hx=>by obtain⟨g,hg,rfl⟩:=aDz.1 hx;obtain⟨a,lo,hi,ht⟩:=hT g (hL▸hg);rw[ht.row];exact⟨rfl,by unfold bZ okR iQ bI ed;simp,g,hg,a,lo,hi,ht,rfl⟩
 have hA:jc (L.map (groupRow cZ [0] OM)):=⟨λx hx=>(hr x hx).2.1,λx hx=>by rw[(hr x hx).1];exact⟨aEI _,rfl⟩⟩
 have hlen:bU (L.map (groupRow cZ [0] OM))=(L.length:Int):=by
  have e:(L.map (groupRow cZ [0] OM)).map (λx=>x.2.1)=(L.map (groupRow cZ [0] OM)).map λ_=>(1:Int):=aDT λx hx=>by rw[(hr x hx).1]
  unfold bU;rw[e,uh,aC_]
 have aki:(L.map λg=>bU g).sum=bU S:=by rw[hL];exact hG.sum λx=>x.2.1
 have aqt:(L.map λg=>qA g 1).sum=qA S 1:=by rw[hL];exact hG.sum λx=>(jT x.1 1).2.1*x.2.1
 have hLl:(L.length:Int)<=20:=by
  have h1:=Q_ (λg:List I=>bU g) L λg hg=>by obtain⟨a,lo,hi,ht⟩:=hT g (hL▸hg);exact ht.pos
  have:=h.tot;omega
 obtain⟨G,g1,g2,g3⟩:=pz _ hA ae;have hd:(L.map (groupRow cZ [0] OM)).Pairwise λx y=>x.1≠y.1:=by rw[List.pairwise_map,hL];refine hG.apart.imp_of_mem λ{g k} hg hk hh e=>?_;obtain⟨a,lo,hi,ht⟩:=hT g hg;obtain⟨a',lo',hi',ht'⟩:=hT k hk;rw[ht.row,ht'.row]at e;have ea:bI a=bI a':=(List.cons.inj e).1;obtain⟨x,hx⟩:=aEB _ (hG.ne g hg);obtain⟨y,hy⟩:=aEB _ (hG.ne k hk);exact hh x hx y hy (by rw[ht.key x hx,ht'.key y hy,ea])
 obtain⟨o1,o2⟩:=g2.once hd λx hx=>(hr x hx).1;rw[hgi];refine⟨G,g1,g2,g3,⟨o1,λx hx=>?_,?_,?_,?_⟩,ae⟩;obtain⟨y,hy,e⟩:=g2.from_ x hx;obtain⟨_,_,g,_,a,lo,hi,ht,e2⟩:=hr y hy;exact⟨g,a,lo,hi,ht,by rw[<-e,e2]⟩;have:=o2 λr=>(jT r 1).2.1;rw[this,aDx,<-aki];refine aD8 List.sum (aDT λg hg=>?_);obtain⟨a,lo,hi,ht⟩:=hT g (hL▸hg);show (jT (groupRow cZ [0] OM g).1 1).2.1=_;rw[ht.row];rfl;have:=o2 λr=>(jT r 2).2.1;rw[this,aDx,<-aqt];refine aD8 List.sum (aDT λg hg=>?_);obtain⟨a,lo,hi,ht⟩:=hT g (hL▸hg);show (jT (groupRow cZ [0] OM g).1 2).2.1=_;rw[ht.row];rfl;have:=o2 λ_=>1;rw[uh,uh,aC_,hL]at this;omega
def BO:List C:=[(⟨#[97]⟩,1),(⟨#[109]⟩,1)]
theorem JI(l:List C):jM l []=[]:=rfl
theorem aiR(S:List I):fQ cZ [] ag2 S=if S=[] then [] else [([bI (bU S),bI (qA S 1)],1,0)]:=by
 unfold fQ;rw[JI,BN S [] λ_ _=>rfl];by_cases h:S=[];rw[if_pos h,if_pos h];rfl;rw[if_neg h,if_neg h];have f0:(gZ cZ (dV [])).getD 0=0:=by decide+kernel
 have f1:(gZ cZ (dV [99])).getD 0=1:=by decide+kernel
 have n1:dW≠lG:=ai;have n2:dW≠lY:=ai;have n3:dW≠lZ:=ai;simp only[aDe,aDu];unfold groupRow ag2 uO Ou;simp only[aDe,aDu,f0,f1,if_neg n1,if_neg n2,if_neg n3,aDL];rfl
theorem amj(S:List I):fQ BO [] agN S=if S=[] then [] else [([bI (bU S)],1,0)]:=by
 unfold fQ;rw[JI,BN S [] λ_ _=>rfl];by_cases h:S=[];rw[if_pos h,if_pos h];rfl;rw[if_neg h,if_neg h];have f0:(gZ BO (dV [])).getD 0=0:=by decide+kernel
 have n1:dW≠lG:=ai;have n2:dW≠lY:=ai;have n3:dW≠lZ:=ai;simp only[aDe,aDu];unfold groupRow agN uO Ou;simp only[aDe,aDu,f0,if_neg n1,if_neg n2,if_neg n3];rfl
theorem afJ{S:List I}(h:oI S):∃G,uD (fQ cZ [[97]] Qo S)=some G/\Made (fQ cZ [[97]] Qo S) G/\setB G=true/\(∀x∈G,x.2=(1,0)/\∃a n:Int,x.1=[bI a,bI n]/\-3<=a/\a<=3/\1<=n/\n<=20)/\bU (fQ cZ [[97]] Qo S)<=20/\bU G=((dB (keyAt [0]) S).length:Int)/\G.length=(dB (keyAt [0]) S).length:=by
 have hG:=pK (keyAt [0]) S;have hT:∀g∈dB (keyAt [0]) S,∃a lo hi,Wh g a lo hi:=λg hg=>told h (hG.ne g hg) (hG.mem g hg) (hG.same g hg) (by have:=NH (keyAt [0]) h.adds g hg;have:=h.tot;omega);obtain⟨L,hL⟩:∃L,L=dB (keyAt [0]) S:=⟨_,rfl⟩
 have hgi:fQ cZ [[97]] Qo S=L.map (groupRow cZ [0] Qo):=by unfold fQ;rw[aiQ,hL]
 have hrow:∀g∈L,∃a:Int,groupRow cZ [0] Qo g=([bI a,bI (bU g)],1,0)/\(∀x∈g,keyAt [0] x=[bI a])/\-3<=a/\a<=3/\1<=bU g/\bU g<=20:=λg hg=>by
  obtain⟨a,lo,hi,ht⟩:=hT g (hL▸hg);refine⟨a,?_,ht.key,ht.small.1,ht.small.2.1,ht.pos,ht.small.2.2.2.2.2.2⟩;have h1:g≠[]:=hG.ne g (hL▸hg);obtain⟨y,q,rfl⟩:∃y q,g=y::q:=by
   cases g with
   | nil=>exact absurd rfl h1
   | cons y q=>exact⟨y,q,rfl⟩
  have h2:=ht.key y aC';have f0:(gZ cZ (dV [])).getD 0=0:=by decide+kernel
  have n1:dW≠lG:=ai;have n2:dW≠lY:=ai;have n3:dW≠lZ:=ai;unfold groupRow Qo uO Ou;simp only[aDe,aDu,List.headD_cons,f0,if_neg n1,if_neg n2,if_neg n3];have h3:dF y.1 [0]=[bI a]:=h2;rw[h3];rfl
 have hr:∀x∈L.map (groupRow cZ [0] Qo),x.2=(1,0)/\∃a n:Int,x.1=[bI a,bI n]/\-3<=a/\a<=3/\1<=n/\n<=20:=λx hx=>by obtain⟨g,hg,rfl⟩:=aDz.1 hx;obtain⟨a,e,_,h1,h2,h3,h4⟩:=hrow g hg;rw[e];exact⟨rfl,a,bU g,rfl,h1,h2,h3,h4⟩
 have hA:jc (L.map (groupRow cZ [0] Qo)):=⟨λx hx=>by obtain⟨_,a,n,e,_⟩:=hr x hx;rw[e];unfold bZ okR iQ bI ed;simp,λx hx=>by rw[(hr x hx).1];exact⟨aEI _,rfl⟩⟩
 have hlen:bU (L.map (groupRow cZ [0] Qo))=(L.length:Int):=by
  have e:(L.map (groupRow cZ [0] Qo)).map (λx=>x.2.1)=(L.map (groupRow cZ [0] Qo)).map λ_=>(1:Int):=aDT λx hx=>by rw[(hr x hx).1]
  unfold bU;rw[e,uh,aC_]
 have aki:(L.map λg=>bU g).sum=bU S:=by rw[hL];exact hG.sum λx=>x.2.1
 have hLl:(L.length:Int)<=20:=by
  have h1:=Q_ (λg:List I=>bU g) L λg hg=>by obtain⟨a,_,_,_,_,h,_⟩:=hrow g hg;exact h
  have:=h.tot;omega
 obtain⟨G,g1,g2,g3⟩:=pz _ hA ae;have hd:(L.map (groupRow cZ [0] Qo)).Pairwise λx y=>x.1≠y.1:=by rw[List.pairwise_map,hL];refine hG.apart.imp_of_mem λ{g k} hg hk hh e=>?_;obtain⟨a,ea,ka,_⟩:=hrow g (hL▸hg);obtain⟨b,eb,kb,_⟩:=hrow k (hL▸hk);rw[ea,eb]at e;have e2:bI a=bI b:=(List.cons.inj e).1;obtain⟨x,hx⟩:=aEB _ (hG.ne g hg);obtain⟨y,hy⟩:=aEB _ (hG.ne k hk);exact hh x hx y hy (by rw[ka x hx,kb y hy,e2])
 obtain⟨o1,o2⟩:=g2.once hd λx hx=>(hr x hx).1;have hGl:G.length=L.length:=by have:=o2 λ_=>1;rw[uh,uh,aC_]at this;omega
 rw[hgi];refine⟨G,g1,g2,g3,λx hx=>⟨o1 x hx,?_⟩,ae,?_,by rw[hGl,hL]⟩;obtain⟨y,hy,e⟩:=g2.from_ x hx;rw[<-e];exact(hr y hy).2;have e:G.map (λx=>x.2.1)=G.map λ_=>(1:Int):=aDT λx hx=>by rw[o1 x hx]
 unfold bU;rw[e,uh,hGl,hL]
def Dh(x:Int):Int:=x.tmod 4
theorem Wq(x:Int):-3<=Dh x/\Dh x<=3:=by unfold Dh;have h1:=Int.lt_tmod_of_pos x (by decide:(0:Int)<4);have h2:=Int.tmod_lt_of_pos x (by decide:(0:Int)<4);omega
def G5(s:ByteArray):ByteArray:=if 2<s.size then s.extract 0 2 else s
theorem Qu(s:ByteArray):(G5 s).size<=2:=by unfold G5;split;rw[ByteArray.size_extract];omega;omega
def jB(r:List V):List V:=[bI (Dh (r.getD 0 lg).2.1),bI (Dh (r.getD 1 lg).2.1)]
def iM(r:List V):List V:=[bI (Dh (r.getD 0 lg).2.1),bI (Dh (r.getD 1 lg).2.1),(2,0,G5 (r.getD 1 lg).2.2)]
theorem Ws{α:Type}(f:α->List V):∀l:List α,bU (l.map λr=>(f r,1,0))=(l.length:Int)
 | []=>rfl
 | x::l=>by rw[aDe,ni,Ws f l,aDh];show (1:Int)+(l.length:Int)=((l.length+1:Nat):Int);omega
theorem IJ(r:List V):bZ (jB r)=true:=by unfold jB bZ okR iQ bI ed;simp
theorem IK(r:List V):bZ (iM r)=true:=by have h:=Qu (r.getD 1 lg).2.2;unfold iM;generalize G5 (r.getD 1 lg).2.2=s at h|-;unfold bZ okR iQ bI ed;simp;omega
theorem AP(f:List V->List V)(hf:∀r,bZ (f r)=true)(L:List (List V)):jc (L.map λr=>(f r,1,0)):=⟨λx hx=>by
 obtain⟨r,_,rfl⟩:=aDz.1 hx;exact hf r,λx hx=>by
 obtain⟨r,_,rfl⟩:=aDz.1 hx;exact⟨aEI _,rfl⟩⟩
theorem EN(f:List V->List V)(L:List (List V)):bU ((L.take 20).map λr=>(f r,1,0))<=20:=by rw[Ws,aDP];omega
theorem Tryz.lW:(Tryz.prog.info? 84).map (·.size)=some 3:=ah
theorem af7(w:ak)(tab:ByteArray)(A:Option Addr)(n cap:Nat):∃w0,(w.alloc (.cells #[.string tab,.slice A n cap,.bool false] 84)).alloc (.cells #[.string ⟨#[]⟩,↑(),.bool false] 84)=w0/\Ev w w0/\w0.heap.size=w.heap.size+2/\Bx 84 w.heap.size #[.string tab,.slice A n cap,.bool false] w0/\Bx 84 (w.heap.size+1) #[.string ⟨#[]⟩,↑(),.bool false] w0:=by have hB:=Bx.new 84 #[.string ⟨#[]⟩,↑(),.bool false] (w.alloc (.cells #[.string tab,.slice A n cap,.bool false] 84));rw[show (w.alloc (.cells #[.string tab,.slice A n cap,.bool false] 84)).heap.size=w.heap.size+1 by simp]at hB;exact⟨_,rfl,(Ev.alloc w _).trans aC,aj,(Bx.new 84 #[.string tab,.slice A n cap,.bool false] w).ev aC,hB⟩
def AQ(tab:ByteArray)(r:List V)(w:ak)(e:Ending)(w':ak):Prop:=∃B k c,e=.returned (.agg #[.string tab,.slice B k c,.bool false])/\Vs w' B k c r/\(∀ad,B=some ad->w.heap.size<=ad.block/\ad.block<w'.heap.size)/\Ev w w'
theorem aFD(h:U:=by rw[uM];have Zh:w.heap.size+1<wn.heap.size:=aDf Jg.out.lt G9.out.size;have IB:=zq yK;have Ja:=zq NT;have Zi:=zq NU;have NV:=zq hb5;clear p0 p1 p2 q0 q1 q2 uM yK NT NU hb5;obtain⟨⟨p0,p1,p2⟩,q0,q1,q2⟩:=IB.out.three;obtain⟨⟨t0,t1,t2⟩,z0,z1,z2⟩:=Ja.out.three;go_wp2;(try simp only[Exit.inBlock,Exit.then]);rw[bM];refine aFe (aZ rfl _ _ _ _ _ rfl (Ja.out.kL _ _ _) underlying84 rfl Tryz.lW) rfl ?_;have Dj:=NV.out.size;refine⟨_,_,_,rfl,Zi.out.but (bP _ _ _ _ _) (λad ea=>by cases ea;simp;omega),λad ea=>by(cases ea;have h7:=(bP (w.heap.size+1) (.string ⟨#[117]⟩) (.slice ↑wn 2 2) (.bool false) w5).size;simp at Dj|-;omega),?_⟩;exact(((cO.out.box Zg.out (aC8 _)).trans E9.out).box NV.out (aC8 _)).box (bP _ _ _ _ _) (aD3 _)):U:=h
theorem aFm(h:U:=by
 go_enter func34,ntmps34;have Di:Hid ((jB (x::y::r'))=[bI (x.2.1.tmod 4),bI (y.2.1.tmod 4)]):=zq (rfl);go_upto_region 15 with fail
 obtain⟨w1,hw1,hB1,IY,hb1⟩:∃w1,w0.setCell ⟨↑w,0,none⟩ (.string ⟨#[117]⟩)=w1/\Bx 84 w.heap.size #[.string ⟨#[117]⟩,.slice (some ⟨b,off,none⟩) n cap,.bool false] w1/\Bx 84 (w.heap.size+1) #[.string ⟨#[]⟩,.slice none 0 0,.bool false] w1/\But [w.heap.size] w0 w1:=⟨_,rfl,by have h9:=HB.out.set 0 (.string ⟨#[117]⟩);simpa using h9,HT.out.but (K:=[w.heap.size]) (But.setCell ⟨↑w,0,none⟩ _ aj) aj,But.setCell ⟨↑w,0,none⟩ _ aj⟩
 rw[hw1];have nY:=zq hB1;have Jg:=zq IY;have Zg:=zq hb1;clear p0 p1 p2 q0 q1 q2 hw1 hB1 IY hb1 hw0;obtain⟨⟨p0,p1,p2⟩,q0,q1,q2⟩:=nY.out.three;go_upto_region 16 with (first
  | (have EP:=TE;(with_reducible refine(EU.out _ _).mono ?_);rintro e wn ⟨rfl,hE⟩;have E9:=zq (EP.out.trans (hE.trans (Ev.alloc _ (.cells #[.int .i64 1,.int .i64 (x.2.1.tmod 4),.string ⟨#[]⟩,.int .i64 1,.int .i64 (y.2.1.tmod 4),.string ⟨#[]⟩] 42))));have G9:=zq (EP.out.trans hE);clear hE p0 p1 p2 q0 q1 q2;obtain⟨⟨p0,p1,p2⟩,q0,q1,q2⟩:=(nY.out.ev E9.out).three)
  | ((with_reducible refine(EU.out _ _).mono ?_);rintro e wk ⟨rfl,hE⟩;have TE:=zq hE;clear hE))
 obtain⟨w5,uM,yK,NT,hb5,NU⟩:∃w5,(wn.alloc (.cells #[.int .i64 1,.int .i64 (x.2.1.tmod 4),.string ⟨#[]⟩,.int .i64 1,.int .i64 (y.2.1.tmod 4),.string ⟨#[]⟩] 42)).setCell ⟨w.heap.size,1,none⟩ (.slice ↑wn 2 2)=w5/\Bx 84 w.heap.size #[.string ⟨#[117]⟩,.slice ↑wn 2 2,.bool false] w5/\Bx 84 (w.heap.size+1) #[.string ⟨#[]⟩,↑(),.bool false] w5/\But [w.heap.size] (wn.alloc (.cells #[.int .i64 1,.int .i64 (x.2.1.tmod 4),.string ⟨#[]⟩,.int .i64 1,.int .i64 (y.2.1.tmod 4),.string ⟨#[]⟩] 42)) w5/\Vs w5 ↑wn 2 2 (jB (x::y::r')):=⟨_,rfl,by have h9:=(nY.out.ev E9.out).set 1 (.slice ↑wn 2 2);simpa using h9,(Jg.out.ev E9.out).but (K:=[w.heap.size]) (But.setCell ⟨w.heap.size,1,none⟩ _ aj) aj,But.setCell ⟨w.heap.size,1,none⟩ _ aj,(by rw[Di.out];exact(Vs.made [bI (x.2.1.tmod 4),bI (y.2.1.tmod 4)] 2 rfl ai wn _ rfl).but (K:=[w.heap.size]) (But.setCell ⟨w.heap.size,1,none⟩ _ aj) (λad ea=>by cases ea;have h9:=nY.out.lt;have h8:=G9.out.size;simp;omega))⟩
 exact aFD):U:=h
theorem amD(tab:ByteArray)(htab:tab.size=3)(r:List V)(A:Option Addr)(n cap:Nat)(w:ak)(h:Vs w A n cap r):
  Calls ax 34 #[.agg #[.string tab,.slice A n cap,.bool false]] w (AQ ⟨#[117]⟩ (jB r) w):=by
 obtain⟨w0,hw0,aV,hs0,hB,hT⟩:=af7 w tab A n cap;have HT:=zq hT;have HB:=zq hB;have cO:=zq aV;have EU:=zq (λ(x:Int) (w1:ak)=>Lh x w1);obtain⟨⟨p0,p1,p2⟩,q0,q1,q2⟩:=hB.three;have hcl:=h.le;have hcm:=h.max;have hl:=h.len;have HV:=zq (h.ev aV);have hl8:tab.size % 2=1:=by rw[htab]
 have hmod:((tab.size:Int).tmod 2)=1:=by rw[htab];rfl
 unfold AQ;rcases r with _|⟨x,_|⟨y,r'⟩⟩
 ·simp at hl;subst hl;go_enter func34,ntmps34;have Di:Hid ((jB [])=[bI 0,bI 0]):=zq (rfl);go_upto_region 15 with fail
  obtain⟨w1,hw1,hB1,IY,hb1⟩:∃w1,w0.setCell ⟨↑w,0,none⟩ (.string ⟨#[117]⟩)=w1/\Bx 84 w.heap.size #[.string ⟨#[117]⟩,.slice A 0 cap,.bool false] w1/\Bx 84 (w.heap.size+1) #[.string ⟨#[]⟩,.slice none 0 0,.bool false] w1/\But [w.heap.size] w0 w1:=⟨_,rfl,by have h9:=HB.out.set 0 (.string ⟨#[117]⟩);simpa using h9,HT.out.but (K:=[w.heap.size]) (But.setCell ⟨↑w,0,none⟩ _ aj) aj,But.setCell ⟨↑w,0,none⟩ _ aj⟩
  rw[hw1];have nY:=zq hB1;have Jg:=zq IY;have Zg:=zq hb1;clear p0 p1 p2 q0 q1 q2 hw1 hB1 IY hb1 hw0;obtain⟨⟨p0,p1,p2⟩,q0,q1,q2⟩:=nY.out.three;go_upto_region 16 with (first
   | (have EP:=TE;(with_reducible refine(EU.out _ _).mono ?_);rintro e wn ⟨rfl,hE⟩;have E9:=zq (EP.out.trans (hE.trans (Ev.alloc _ (.cells #[.int .i64 1,.int .i64 0,.string ⟨#[]⟩,.int .i64 1,.int .i64 0,.string ⟨#[]⟩] 42))));have G9:=zq (EP.out.trans hE);clear hE p0 p1 p2 q0 q1 q2;obtain⟨⟨p0,p1,p2⟩,q0,q1,q2⟩:=(nY.out.ev E9.out).three)
   | ((with_reducible refine(EU.out _ _).mono ?_);rintro e wk ⟨rfl,hE⟩;have TE:=zq hE;clear hE))
  obtain⟨w5,uM,yK,NT,hb5,NU⟩:∃w5,(wn.alloc (.cells #[.int .i64 1,.int .i64 0,.string ⟨#[]⟩,.int .i64 1,.int .i64 0,.string ⟨#[]⟩] 42)).setCell ⟨w.heap.size,1,none⟩ (.slice ↑wn 2 2)=w5/\Bx 84 w.heap.size #[.string ⟨#[117]⟩,.slice ↑wn 2 2,.bool false] w5/\Bx 84 (w.heap.size+1) #[.string ⟨#[]⟩,↑(),.bool false] w5/\But [w.heap.size] (wn.alloc (.cells #[.int .i64 1,.int .i64 0,.string ⟨#[]⟩,.int .i64 1,.int .i64 0,.string ⟨#[]⟩] 42)) w5/\Vs w5 ↑wn 2 2 (jB []):=⟨_,rfl,by have h9:=(nY.out.ev E9.out).set 1 (.slice ↑wn 2 2);simpa using h9,(Jg.out.ev E9.out).but (K:=[w.heap.size]) (But.setCell ⟨w.heap.size,1,none⟩ _ aj) aj,But.setCell ⟨w.heap.size,1,none⟩ _ aj,(by rw[Di.out];exact(Vs.made [bI 0,bI 0] 2 rfl ai wn _ rfl).but (K:=[w.heap.size]) (But.setCell ⟨w.heap.size,1,none⟩ _ aj) (λad ea=>by cases ea;have h9:=nY.out.lt;have h8:=G9.out.size;simp;omega))⟩
  exact aFD
 ·simp at hl;subst hl;obtain⟨b,off,rfl,hb,hc⟩:=HV.out.rd ae;have c0:=hc 0 x rfl 1 _ rfl;simp only[aDH,aDw]at c0;clear hc;go_enter func34,ntmps34;have Di:Hid ((jB [x])=[bI (x.2.1.tmod 4),bI 0]):=zq (rfl);go_upto_region 15 with fail
  obtain⟨w1,hw1,hB1,IY,hb1⟩:∃w1,w0.setCell ⟨↑w,0,none⟩ (.string ⟨#[117]⟩)=w1/\Bx 84 w.heap.size #[.string ⟨#[117]⟩,.slice (some ⟨b,off,none⟩) 1 cap,.bool false] w1/\Bx 84 (w.heap.size+1) #[.string ⟨#[]⟩,.slice none 0 0,.bool false] w1/\But [w.heap.size] w0 w1:=⟨_,rfl,by have h9:=HB.out.set 0 (.string ⟨#[117]⟩);simpa using h9,HT.out.but (K:=[w.heap.size]) (But.setCell ⟨↑w,0,none⟩ _ aj) aj,But.setCell ⟨↑w,0,none⟩ _ aj⟩
  rw[hw1];have nY:=zq hB1;have Jg:=zq IY;have Zg:=zq hb1;clear p0 p1 p2 q0 q1 q2 hw1 hB1 IY hb1 hw0;obtain⟨⟨p0,p1,p2⟩,q0,q1,q2⟩:=nY.out.three;go_upto_region 16 with (first
   | (have EP:=TE;(with_reducible refine(EU.out _ _).mono ?_);rintro e wn ⟨rfl,hE⟩;have E9:=zq (EP.out.trans (hE.trans (Ev.alloc _ (.cells #[.int .i64 1,.int .i64 (x.2.1.tmod 4),.string ⟨#[]⟩,.int .i64 1,.int .i64 0,.string ⟨#[]⟩] 42))));have G9:=zq (EP.out.trans hE);clear hE p0 p1 p2 q0 q1 q2;obtain⟨⟨p0,p1,p2⟩,q0,q1,q2⟩:=(nY.out.ev E9.out).three)
   | ((with_reducible refine(EU.out _ _).mono ?_);rintro e wk ⟨rfl,hE⟩;have TE:=zq hE;clear hE))
  obtain⟨w5,uM,yK,NT,hb5,NU⟩:∃w5,(wn.alloc (.cells #[.int .i64 1,.int .i64 (x.2.1.tmod 4),.string ⟨#[]⟩,.int .i64 1,.int .i64 0,.string ⟨#[]⟩] 42)).setCell ⟨w.heap.size,1,none⟩ (.slice ↑wn 2 2)=w5/\Bx 84 w.heap.size #[.string ⟨#[117]⟩,.slice ↑wn 2 2,.bool false] w5/\Bx 84 (w.heap.size+1) #[.string ⟨#[]⟩,↑(),.bool false] w5/\But [w.heap.size] (wn.alloc (.cells #[.int .i64 1,.int .i64 (x.2.1.tmod 4),.string ⟨#[]⟩,.int .i64 1,.int .i64 0,.string ⟨#[]⟩] 42)) w5/\Vs w5 ↑wn 2 2 (jB [x]):=⟨_,rfl,by have h9:=(nY.out.ev E9.out).set 1 (.slice ↑wn 2 2);simpa using h9,(Jg.out.ev E9.out).but (K:=[w.heap.size]) (But.setCell ⟨w.heap.size,1,none⟩ _ aj) aj,But.setCell ⟨w.heap.size,1,none⟩ _ aj,(by rw[Di.out];exact(Vs.made [bI (x.2.1.tmod 4),bI 0] 2 rfl ai wn _ rfl).but (K:=[w.heap.size]) (But.setCell ⟨w.heap.size,1,none⟩ _ aj) (λad ea=>by cases ea;have h9:=nY.out.lt;have h8:=G9.out.size;simp;omega))⟩
  exact aFD
 obtain⟨b,off,rfl,hb,hc⟩:=HV.out.rd (by simp at hl;omega);have c0:=hc 0 x rfl 1 _ rfl;have c1:=hc 1 y rfl 1 _ rfl;have c2:=hc 1 y rfl 2 _ rfl;simp only[aDH,aDw,aEi]at c0 c1 c2;have i0:(0:Int)<(n:Int):=by simp at hl;omega
 have i1:(1:Int)<(n:Int):=by simp at hl;omega
 clear hc;by_cases hcut:2<y.2.2.size;have hcut':(2:Int)<(y.2.2.size:Int):=ae;have HCU:Hid (G5 y.2.2=y.2.2.extract 0 2):=zq (by unfold G5;rw[if_pos hcut]);exact aFm;have hcut':¬(2:Int)<(y.2.2.size:Int):=ae;have HCU:Hid (G5 y.2.2=y.2.2):=zq (by unfold G5;rw[if_neg hcut]);exact aFm
theorem aFE(h:U:=by rw[uM];have Zh:w.heap.size+1<wn.heap.size:=aDf Jg.out.lt G9.out.size;have IB:=zq yK;have Ja:=zq NT;have Zi:=zq NU;have NV:=zq hb5;clear p0 p1 p2 q0 q1 q2 uM yK NT NU hb5;obtain⟨⟨p0,p1,p2⟩,q0,q1,q2⟩:=IB.out.three;obtain⟨⟨t0,t1,t2⟩,z0,z1,z2⟩:=Ja.out.three;go_wp2;(try simp only[Exit.inBlock,Exit.then]);rw[bM];refine aFe (aZ rfl _ _ _ _ _ rfl (Ja.out.kL _ _ _) underlying84 rfl Tryz.lW) rfl ?_;have Dj:=NV.out.size;refine⟨_,_,_,rfl,Zi.out.but (bP _ _ _ _ _) (λad ea=>by cases ea;simp;omega),λad ea=>by(cases ea;have h7:=(bP (w.heap.size+1) (.string ⟨#[116]⟩) (.slice ↑wn 3 3) (.bool false) w5).size;simp at Dj|-;omega),?_⟩;exact(((cO.out.box Zg.out (aC8 _)).trans E9.out).box NV.out (aC8 _)).box (bP _ _ _ _ _) (aD3 _)):U:=h
theorem amE(tab:ByteArray)(htab:tab.size=2)(r:List V)(A:Option Addr)(n cap:Nat)(w:ak)(h:Vs w A n cap r):
  Calls ax 34 #[.agg #[.string tab,.slice A n cap,.bool false]] w (AQ ⟨#[116]⟩ (iM r) w):=by
 obtain⟨w0,hw0,aV,hs0,hB,hT⟩:=af7 w tab A n cap;have HT:=zq hT;have HB:=zq hB;have cO:=zq aV;have EU:=zq (λ(x:Int) (w1:ak)=>Lh x w1);have HST:=zq (λ(x:ByteArray) (w1:ak)=>ad3 x w1);obtain⟨⟨p0,p1,p2⟩,q0,q1,q2⟩:=hB.three;have hcl:=h.le;have hcm:=h.max;have hl:=h.len;have HV:=zq (h.ev aV);have hl8:tab.size % 2=0:=by rw[htab]
 have hmod:((tab.size:Int).tmod 2)=0:=by rw[htab];rfl
 unfold AQ;rcases r with _|⟨x,_|⟨y,r'⟩⟩
 ·simp at hl;subst hl;go_enter func34,ntmps34;have Di:Hid ((iM [])=[bI 0,bI 0,(2,0,⟨#[]⟩)]):=zq (rfl);go_upto_region 13 with fail
  obtain⟨w1,hw1,hB1,IY,hb1⟩:∃w1,w0.setCell ⟨↑w,0,none⟩ (.string ⟨#[116]⟩)=w1/\Bx 84 w.heap.size #[.string ⟨#[116]⟩,.slice A 0 cap,.bool false] w1/\Bx 84 (w.heap.size+1) #[.string ⟨#[]⟩,.slice none 0 0,.bool false] w1/\But [w.heap.size] w0 w1:=⟨_,rfl,by have h9:=HB.out.set 0 (.string ⟨#[116]⟩);simpa using h9,HT.out.but (K:=[w.heap.size]) (But.setCell ⟨↑w,0,none⟩ _ aj) aj,But.setCell ⟨↑w,0,none⟩ _ aj⟩
  rw[hw1];have nY:=zq hB1;have Jg:=zq IY;have Zg:=zq hb1;clear p0 p1 p2 q0 q1 q2 hw1 hB1 IY hb1 hw0;obtain⟨⟨p0,p1,p2⟩,q0,q1,q2⟩:=nY.out.three;go_upto_region 16 with (first
   | ((with_reducible refine(HST.out _ _).mono ?_);rintro e wn ⟨rfl,hE⟩;have EP:=EQ;have E9:=zq (EP.out.trans (hE.trans (Ev.alloc _ (.cells #[.int .i64 1,.int .i64 0,.string ⟨#[]⟩,.int .i64 1,.int .i64 0,.string ⟨#[]⟩,.int .i64 2,.int .i64 0,.string ⟨#[]⟩] 42))));have G9:=zq (EP.out.trans hE);clear hE p0 p1 p2 q0 q1 q2;obtain⟨⟨p0,p1,p2⟩,q0,q1,q2⟩:=(nY.out.ev E9.out).three)
   | (have hh:=TE;(with_reducible refine(EU.out _ _).mono ?_);rintro e wm ⟨rfl,hE⟩;have EQ:=zq (TE.out.trans hE);clear hE)
   | ((with_reducible refine(EU.out _ _).mono ?_);rintro e wk ⟨rfl,hE⟩;have TE:=zq hE;clear hE))
  obtain⟨w5,uM,yK,NT,hb5,NU⟩:∃w5,(wn.alloc (.cells #[.int .i64 1,.int .i64 0,.string ⟨#[]⟩,.int .i64 1,.int .i64 0,.string ⟨#[]⟩,.int .i64 2,.int .i64 0,.string ⟨#[]⟩] 42)).setCell ⟨w.heap.size,1,none⟩ (.slice ↑wn 3 3)=w5/\Bx 84 w.heap.size #[.string ⟨#[116]⟩,.slice ↑wn 3 3,.bool false] w5/\Bx 84 (w.heap.size+1) #[.string ⟨#[]⟩,↑(),.bool false] w5/\But [w.heap.size] (wn.alloc (.cells #[.int .i64 1,.int .i64 0,.string ⟨#[]⟩,.int .i64 1,.int .i64 0,.string ⟨#[]⟩,.int .i64 2,.int .i64 0,.string ⟨#[]⟩] 42)) w5/\Vs w5 ↑wn 3 3 (iM []):=⟨_,rfl,by have h9:=(nY.out.ev E9.out).set 1 (.slice ↑wn 3 3);simpa using h9,(Jg.out.ev E9.out).but (K:=[w.heap.size]) (But.setCell ⟨w.heap.size,1,none⟩ _ aj) aj,But.setCell ⟨w.heap.size,1,none⟩ _ aj,(by rw[Di.out];exact(Vs.made [bI 0,bI 0,(2,0,⟨#[]⟩)] 3 rfl ai wn _ rfl).but (K:=[w.heap.size]) (But.setCell ⟨w.heap.size,1,none⟩ _ aj) (λad ea=>by cases ea;have h9:=nY.out.lt;have h8:=G9.out.size;simp;omega))⟩
  exact aFE
 ·simp at hl;subst hl;obtain⟨b,off,rfl,hb,hc⟩:=HV.out.rd ae;have c0:=hc 0 x rfl 1 _ rfl;simp only[aDH,aDw]at c0;clear hc;go_enter func34,ntmps34;have Di:Hid ((iM [x])=[bI (x.2.1.tmod 4),bI 0,(2,0,⟨#[]⟩)]):=zq (rfl);go_upto_region 13 with fail
  obtain⟨w1,hw1,hB1,IY,hb1⟩:∃w1,w0.setCell ⟨↑w,0,none⟩ (.string ⟨#[116]⟩)=w1/\Bx 84 w.heap.size #[.string ⟨#[116]⟩,.slice (some ⟨b,off,none⟩) 1 cap,.bool false] w1/\Bx 84 (w.heap.size+1) #[.string ⟨#[]⟩,.slice none 0 0,.bool false] w1/\But [w.heap.size] w0 w1:=⟨_,rfl,by have h9:=HB.out.set 0 (.string ⟨#[116]⟩);simpa using h9,HT.out.but (K:=[w.heap.size]) (But.setCell ⟨↑w,0,none⟩ _ aj) aj,But.setCell ⟨↑w,0,none⟩ _ aj⟩
  rw[hw1];have nY:=zq hB1;have Jg:=zq IY;have Zg:=zq hb1;clear p0 p1 p2 q0 q1 q2 hw1 hB1 IY hb1 hw0;obtain⟨⟨p0,p1,p2⟩,q0,q1,q2⟩:=nY.out.three;go_upto_region 16 with (first
   | ((with_reducible refine(HST.out _ _).mono ?_);rintro e wn ⟨rfl,hE⟩;have EP:=EQ;have E9:=zq (EP.out.trans (hE.trans (Ev.alloc _ (.cells #[.int .i64 1,.int .i64 (x.2.1.tmod 4),.string ⟨#[]⟩,.int .i64 1,.int .i64 0,.string ⟨#[]⟩,.int .i64 2,.int .i64 0,.string ⟨#[]⟩] 42))));have G9:=zq (EP.out.trans hE);clear hE p0 p1 p2 q0 q1 q2;obtain⟨⟨p0,p1,p2⟩,q0,q1,q2⟩:=(nY.out.ev E9.out).three)
   | (have hh:=TE;(with_reducible refine(EU.out _ _).mono ?_);rintro e wm ⟨rfl,hE⟩;have EQ:=zq (TE.out.trans hE);clear hE)
   | ((with_reducible refine(EU.out _ _).mono ?_);rintro e wk ⟨rfl,hE⟩;have TE:=zq hE;clear hE))
  obtain⟨w5,uM,yK,NT,hb5,NU⟩:∃w5,(wn.alloc (.cells #[.int .i64 1,.int .i64 (x.2.1.tmod 4),.string ⟨#[]⟩,.int .i64 1,.int .i64 0,.string ⟨#[]⟩,.int .i64 2,.int .i64 0,.string ⟨#[]⟩] 42)).setCell ⟨w.heap.size,1,none⟩ (.slice ↑wn 3 3)=w5/\Bx 84 w.heap.size #[.string ⟨#[116]⟩,.slice ↑wn 3 3,.bool false] w5/\Bx 84 (w.heap.size+1) #[.string ⟨#[]⟩,↑(),.bool false] w5/\But [w.heap.size] (wn.alloc (.cells #[.int .i64 1,.int .i64 (x.2.1.tmod 4),.string ⟨#[]⟩,.int .i64 1,.int .i64 0,.string ⟨#[]⟩,.int .i64 2,.int .i64 0,.string ⟨#[]⟩] 42)) w5/\Vs w5 ↑wn 3 3 (iM [x]):=⟨_,rfl,by have h9:=(nY.out.ev E9.out).set 1 (.slice ↑wn 3 3);simpa using h9,(Jg.out.ev E9.out).but (K:=[w.heap.size]) (But.setCell ⟨w.heap.size,1,none⟩ _ aj) aj,But.setCell ⟨w.heap.size,1,none⟩ _ aj,(by rw[Di.out];exact(Vs.made [bI (x.2.1.tmod 4),bI 0,(2,0,⟨#[]⟩)] 3 rfl ai wn _ rfl).but (K:=[w.heap.size]) (But.setCell ⟨w.heap.size,1,none⟩ _ aj) (λad ea=>by cases ea;have h9:=nY.out.lt;have h8:=G9.out.size;simp;omega))⟩
  exact aFE
 obtain⟨b,off,rfl,hb,hc⟩:=HV.out.rd (by simp at hl;omega);have c0:=hc 0 x rfl 1 _ rfl;have c1:=hc 1 y rfl 1 _ rfl;have c2:=hc 1 y rfl 2 _ rfl;simp only[aDH,aDw,aEi]at c0 c1 c2;have i0:(0:Int)<(n:Int):=by simp at hl;omega
 have i1:(1:Int)<(n:Int):=by simp at hl;omega
 clear hc;by_cases hcut:2<y.2.2.size
 ·have hcut':(2:Int)<(y.2.2.size:Int):=ae;have HCU:Hid (G5 y.2.2=y.2.2.extract 0 2):=zq (by unfold G5;rw[if_pos hcut]);go_enter func34,ntmps34;have Di:Hid ((iM (x::y::r'))=[bI (x.2.1.tmod 4),bI (y.2.1.tmod 4),(2,0,(y.2.2.extract 0 2))]):=zq (by unfold iM;rw[show ((x::y::r').getD 1 lg)=y from rfl,HCU.out];rfl);go_upto_region 13 with fail
  obtain⟨w1,hw1,hB1,IY,hb1⟩:∃w1,w0.setCell ⟨↑w,0,none⟩ (.string ⟨#[116]⟩)=w1/\Bx 84 w.heap.size #[.string ⟨#[116]⟩,.slice (some ⟨b,off,none⟩) n cap,.bool false] w1/\Bx 84 (w.heap.size+1) #[.string ⟨#[]⟩,.slice none 0 0,.bool false] w1/\But [w.heap.size] w0 w1:=⟨_,rfl,by have h9:=HB.out.set 0 (.string ⟨#[116]⟩);simpa using h9,HT.out.but (K:=[w.heap.size]) (But.setCell ⟨↑w,0,none⟩ _ aj) aj,But.setCell ⟨↑w,0,none⟩ _ aj⟩
  rw[hw1];have nY:=zq hB1;have Jg:=zq IY;have Zg:=zq hb1;clear p0 p1 p2 q0 q1 q2 hw1 hB1 IY hb1 hw0;obtain⟨⟨p0,p1,p2⟩,q0,q1,q2⟩:=nY.out.three;go_upto_region 16 with (first
   | ((with_reducible refine(HST.out _ _).mono ?_);rintro e wn ⟨rfl,hE⟩;have EP:=EQ;have E9:=zq (EP.out.trans (hE.trans (Ev.alloc _ (.cells #[.int .i64 1,.int .i64 (x.2.1.tmod 4),.string ⟨#[]⟩,.int .i64 1,.int .i64 (y.2.1.tmod 4),.string ⟨#[]⟩,.int .i64 2,.int .i64 0,.string (y.2.2.extract 0 2)] 42))));have G9:=zq (EP.out.trans hE);clear hE p0 p1 p2 q0 q1 q2;obtain⟨⟨p0,p1,p2⟩,q0,q1,q2⟩:=(nY.out.ev E9.out).three)
   | (have hh:=TE;(with_reducible refine(EU.out _ _).mono ?_);rintro e wm ⟨rfl,hE⟩;have EQ:=zq (TE.out.trans hE);clear hE)
   | ((with_reducible refine(EU.out _ _).mono ?_);rintro e wk ⟨rfl,hE⟩;have TE:=zq hE;clear hE))
  obtain⟨w5,uM,yK,NT,hb5,NU⟩:∃w5,(wn.alloc (.cells #[.int .i64 1,.int .i64 (x.2.1.tmod 4),.string ⟨#[]⟩,.int .i64 1,.int .i64 (y.2.1.tmod 4),.string ⟨#[]⟩,.int .i64 2,.int .i64 0,.string (y.2.2.extract 0 2)] 42)).setCell ⟨w.heap.size,1,none⟩ (.slice ↑wn 3 3)=w5/\Bx 84 w.heap.size #[.string ⟨#[116]⟩,.slice ↑wn 3 3,.bool false] w5/\Bx 84 (w.heap.size+1) #[.string ⟨#[]⟩,↑(),.bool false] w5/\But [w.heap.size] (wn.alloc (.cells #[.int .i64 1,.int .i64 (x.2.1.tmod 4),.string ⟨#[]⟩,.int .i64 1,.int .i64 (y.2.1.tmod 4),.string ⟨#[]⟩,.int .i64 2,.int .i64 0,.string (y.2.2.extract 0 2)] 42)) w5/\Vs w5 ↑wn 3 3 (iM (x::y::r')):=⟨_,rfl,by have h9:=(nY.out.ev E9.out).set 1 (.slice ↑wn 3 3);simpa using h9,(Jg.out.ev E9.out).but (K:=[w.heap.size]) (But.setCell ⟨w.heap.size,1,none⟩ _ aj) aj,But.setCell ⟨w.heap.size,1,none⟩ _ aj,(by rw[Di.out];exact(Vs.made [bI (x.2.1.tmod 4),bI (y.2.1.tmod 4),(2,0,(y.2.2.extract 0 2))] 3 rfl ai wn _ rfl).but (K:=[w.heap.size]) (But.setCell ⟨w.heap.size,1,none⟩ _ aj) (λad ea=>by cases ea;have h9:=nY.out.lt;have h8:=G9.out.size;simp;omega))⟩
  exact aFE
 have hcut':¬(2:Int)<(y.2.2.size:Int):=ae;have HCU:Hid (G5 y.2.2=y.2.2):=zq (by unfold G5;rw[if_neg hcut]);go_enter func34,ntmps34;have Di:Hid ((iM (x::y::r'))=[bI (x.2.1.tmod 4),bI (y.2.1.tmod 4),(2,0,y.2.2)]):=zq (by unfold iM;rw[show ((x::y::r').getD 1 lg)=y from rfl,HCU.out];rfl);go_upto_region 13 with fail
 obtain⟨w1,hw1,hB1,IY,hb1⟩:∃w1,w0.setCell ⟨↑w,0,none⟩ (.string ⟨#[116]⟩)=w1/\Bx 84 w.heap.size #[.string ⟨#[116]⟩,.slice (some ⟨b,off,none⟩) n cap,.bool false] w1/\Bx 84 (w.heap.size+1) #[.string ⟨#[]⟩,.slice none 0 0,.bool false] w1/\But [w.heap.size] w0 w1:=⟨_,rfl,by have h9:=HB.out.set 0 (.string ⟨#[116]⟩);simpa using h9,HT.out.but (K:=[w.heap.size]) (But.setCell ⟨↑w,0,none⟩ _ aj) aj,But.setCell ⟨↑w,0,none⟩ _ aj⟩
 rw[hw1];have nY:=zq hB1;have Jg:=zq IY;have Zg:=zq hb1;clear p0 p1 p2 q0 q1 q2 hw1 hB1 IY hb1 hw0;obtain⟨⟨p0,p1,p2⟩,q0,q1,q2⟩:=nY.out.three;go_upto_region 16 with (first
  | ((with_reducible refine(HST.out _ _).mono ?_);rintro e wn ⟨rfl,hE⟩;have EP:=EQ;have E9:=zq (EP.out.trans (hE.trans (Ev.alloc _ (.cells #[.int .i64 1,.int .i64 (x.2.1.tmod 4),.string ⟨#[]⟩,.int .i64 1,.int .i64 (y.2.1.tmod 4),.string ⟨#[]⟩,.int .i64 2,.int .i64 0,.string y.2.2] 42))));have G9:=zq (EP.out.trans hE);clear hE p0 p1 p2 q0 q1 q2;obtain⟨⟨p0,p1,p2⟩,q0,q1,q2⟩:=(nY.out.ev E9.out).three)
  | (have hh:=TE;(with_reducible refine(EU.out _ _).mono ?_);rintro e wm ⟨rfl,hE⟩;have EQ:=zq (TE.out.trans hE);clear hE)
  | ((with_reducible refine(EU.out _ _).mono ?_);rintro e wk ⟨rfl,hE⟩;have TE:=zq hE;clear hE))
 obtain⟨w5,uM,yK,NT,hb5,NU⟩:∃w5,(wn.alloc (.cells #[.int .i64 1,.int .i64 (x.2.1.tmod 4),.string ⟨#[]⟩,.int .i64 1,.int .i64 (y.2.1.tmod 4),.string ⟨#[]⟩,.int .i64 2,.int .i64 0,.string y.2.2] 42)).setCell ⟨w.heap.size,1,none⟩ (.slice ↑wn 3 3)=w5/\Bx 84 w.heap.size #[.string ⟨#[116]⟩,.slice ↑wn 3 3,.bool false] w5/\Bx 84 (w.heap.size+1) #[.string ⟨#[]⟩,↑(),.bool false] w5/\But [w.heap.size] (wn.alloc (.cells #[.int .i64 1,.int .i64 (x.2.1.tmod 4),.string ⟨#[]⟩,.int .i64 1,.int .i64 (y.2.1.tmod 4),.string ⟨#[]⟩,.int .i64 2,.int .i64 0,.string y.2.2] 42)) w5/\Vs w5 ↑wn 3 3 (iM (x::y::r')):=⟨_,rfl,by have h9:=(nY.out.ev E9.out).set 1 (.slice ↑wn 3 3);simpa using h9,(Jg.out.ev E9.out).but (K:=[w.heap.size]) (But.setCell ⟨w.heap.size,1,none⟩ _ aj) aj,But.setCell ⟨w.heap.size,1,none⟩ _ aj,(by rw[Di.out];exact(Vs.made [bI (x.2.1.tmod 4),bI (y.2.1.tmod 4),(2,0,y.2.2)] 3 rfl ai wn _ rfl).but (K:=[w.heap.size]) (But.setCell ⟨w.heap.size,1,none⟩ _ aj) (λad ea=>by cases ea;have h9:=nY.out.lt;have h8:=G9.out.size;simp;omega))⟩
 exact aFE
end Go.Proofs.YtbgmhhfjkkfhpaaGreatDoor
