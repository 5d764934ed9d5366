import Derived.Test.YtbgmhhfjkkfhpaaGreatDoorZ33G
import Derived.Test.YtbgmhhfjkkfhpaaGreatDoorZ31G
set_option linter.unusedVariables false
set_option maxRecDepth 100000
set_option maxHeartbeats 64000000
namespace Go.Proofs.YtbgmhhfjkkfhpaaGreatDoor
open Go.RowKit
open Go.Lib renaming hid → zq
open Go renaming World → ak
open Go renaming Value → au
open Go.Proofs.Tryz renaming prog → ax
variable {U:Prop}
open Go.Proofs.Tryz
def aoW(e:T):Prop:=pI e=true/\e.size<=16000/\e.every (λt=>decide (t.s.length<=1000000))=true
def Z9(k:Int)(es:List T)(cs lf rt:List By)(ag:List Ag)(nk:Nat):Prop:=
 (k=1∨k=2∨k=3∨k=4∨k=5∨k=6∨k=7)/\(∀e∈es,aoW e)/\(k=3->es.length=cs.length)/\es.length<=10000/\lf.length<=10000/\rt.length<=10000/\ag.length<=10000/\nk<=10000
mutual
def Pl.fit:Pl->Prop
 | .mk k _ es cs lf rt ag l=>Z9 k es cs lf rt ag l.length/\Pl.fits l
def Pl.fits:List Pl->Prop
 | []=>True
 | p::l=>p.fit/\Pl.fits l
end
theorem Pl.fits_all:∀l:List Pl,Pl.fits l↔∀p∈l,p.fit
 | []=>by simp[Pl.fits]
 | p::l=>by simp[Pl.fits,Pl.fits_all l]
theorem ae7{m:PM}(h:m.p.fit):Z9 m.kind (m.ex.l.map M.t) m.co.l m.lf.l m.rt.l m.ag.l m.kids.length/\∀x∈m.kids,x.p.fit:=by rw[PM.tu,Pl.fit,Pl.fits_all,aC_]at h;exact⟨h.1,λx hx=>h.2 x.p (aDF hx)⟩
theorem OG{s:By}{n:Int}{l:List T}{p:Nat}(h:(T.mk 2 s n l p).fine=true):s.length<=1000:=by
 rw[T.fine]at h;unfold gB at h;simp only[aDC,aC9,aDn,aDV]at h;rcases h with h|((h|h)|h)
 exact absurd h.1.1.1 ai;exact h.1.2.2;exact absurd h.1.1.1 ai;exact absurd h.1.1.1 ai
mutual
theorem wG:∀t:T,t.fine=true->1<=(printS t).length/\(printS t).length+1<=1002*t.size
 | .mk k s n l p,h=>by
  have hl:=Qb l;have hff:=(lC _ h).1;rw[T.every,aC9]at hff;have hn:=(vW hff.1).1;have hz:=T.size_eq (.mk k s n l p);simp only[T.kids]at hz;rcases tX h with⟨h1,h2,h3,h4⟩|⟨h1,h2,h3,h4⟩|⟨h1,h2,h3⟩|⟨h1,h2,h3,h4⟩
  subst h1 h2 h3;have h5:=hl h4;have h6:=LK l true;refine⟨by simp[printS],?_⟩;rw[printS,if_pos rfl,aDh,aDd,aDh,aDZ];omega;subst h1 h2 h3;have h5:=OG h;have h6:=aE1.2 h4;rw[printS,if_neg ai,if_pos rfl];simp at hz;omega
  ·subst h1 h2 h3;have h5:=Lib.itoa_length_le n hn.1 hn.2;have h6:1<=(Lib.itoa n).length:=by unfold Lib.itoa;split;simp;rw[Lib.decDigits_length];unfold Lib.nDigits;split<;>omega
   rw[printS,if_neg ai,if_neg ai,if_pos rfl];simp at hz;omega
  subst h1 h2 h3;have h5:=ael h4;rw[printS,if_neg ai,if_neg ai,if_neg ai,if_pos rfl];simp at hz;omega
theorem Qb:∀l:List T,(∀t∈l,t.fine=true)->(l.map λt=>(printS t).length+1).sum<=1002*(l.map T.size).sum
 | [],_=>by simp
 | a::l,h=>by have h1:=(wG a (h a (aC' ..))).2;have h2:=Qb l λt ht=>h t (aDc _ ht);simp only[aDe,aDI];omega
end
theorem vX.size{e:T}(h:vX e):e.size<=(xTree e).size:=by have:=Lu (xTree e);rwa [h.back]at this
mutual
theorem MV{p q:T->Bool}(WB:∀t,p t=true->q t=true):∀t:T,t.every p=true->t.every q=true
 | .mk k s n l o,h=>by rw[T.every,aC9]at h|-;exact⟨WB _ h.1,Iq WB l h.2⟩
theorem Iq{p q:T->Bool}(WB:∀t,p t=true->q t=true):∀l:List T,T.everys p l=true->T.everys q l=true
 | [],_=>rfl
 | a::l,h=>by rw[T.everys,aC9]at h|-;exact⟨MV WB a h.1,Iq WB l h.2⟩
end
theorem vX.fit{e:T}(h:vX e)(hs:(xTree e).size<=10000):aoW e:=⟨h.right,by have:=h.size;omega,MV (λt ht=>by
 unfold dY at ht;rw[aC9,aDV,aDV]at ht;rw[aDV];omega) e h.fair⟩
theorem su(l:List T):(dh l).size=(l.map T.size).sum+1:=by have:=T.size_eq (dh l);simpa[dh,T.kids] using this
theorem VI:∀l:List By,(l.map λ_=>1).sum=l.length
 | []=>rfl
 | a::l=>by rw[aDe,aDI,VI l,aDh];omega
theorem MW(l:List By):(bH l).size=l.length+1:=by
 unfold bH;rw[su,aDx];have:l.map (T.size ∘ aT)=l.map λ_=>1:=aDT λs _=>by have:=T.size_eq (aT s);simpa[aT,T.kids] using this
 rw[this,VI]
theorem OH(k:Int)(nm:By)(es:List T)(cs lf rt:List By)(ag:List Ag)(l:List Pl)(hl:∀p∈l,p.good->(aI p).size<=10000->p.fit):(Pl.mk k nm es cs lf rt ag l).good->(aI (.mk k nm es cs lf rt ag l)).size<=10000->(Pl.mk k nm es cs lf rt ag l).fit:=by
 intro hg hs;rw[Pl.good,Pl.rW]at hg;rw[Pl.fit,Pl.fits_all];rw[aI,sW,su,aDk,aEb]at hs;obtain⟨hh,hk⟩:=hg;have Be:∀p∈l,p.fit:=λp hp=>hl p hp (hk p hp) (by
  have h1:=lN (aDF (f:=T.size) (aDF (f:=aI) hp));omega)
 have Ob:l.length<=10000:=by have h1:=p_ (l.map aI);rw[aC_]at h1;omega
 refine⟨?_,Be⟩;rcases hh with⟨rfl,_,rfl,rfl,rfl,rfl,rfl,_⟩|⟨rfl,_,⟨e,rfl,he⟩,rfl,rfl,rfl,rfl,_⟩|⟨rfl,_,he,hec,_,_,rfl,rfl,rfl,_⟩|⟨rfl,_,rfl,rfl,_,_,rfl,_⟩|⟨rfl,_,rfl,rfl,rfl,rfl,rfl,_⟩|⟨rfl,_,rfl,rfl,rfl,rfl,rfl,_⟩|⟨rfl,_,rfl,rfl,_,rfl,_,_⟩
 exact⟨.inl rfl,(λe h=>by cases h),(λh=>by cases h),aj,aj,aj,aj,Ob⟩;have h1:(([aT gK,xTree e]:List T).map T.size).sum+((l.map aI).map T.size).sum+1<=10000:=hs;simp only[aDe,aDu,aDI,aE0]at h1;exact⟨.inr (.inl rfl),(λe' h=>by simp at h;subst h;exact he.fit ae),(λh=>by cases h),aj,aj,aj,aj,Ob⟩;have h1:(((aT fA::List.zipWith iV cs es):List T).map T.size).sum+((l.map aI).map T.size).sum+1<=10000:=hs;simp only[aDe,aDI]at h1;have h2:=p_ (List.zipWith iV cs es);rw[List.length_zipWith]at h2;refine⟨.inr (.inr (.inl rfl)),λe h=>(he e h).fit ?_,λ_=>hec,ae,aj,aj,aj,Ob⟩;obtain⟨i,hi⟩:=aEn h;have WA:=(aC6.1 hi).1;obtain⟨c,hc⟩:∃c,cs[i]?=some c:=⟨_,aDo ae⟩
 have hm:iV c e∈List.zipWith iV cs es:=aDb (i:=i) (by rw[List.getElem?_zipWith,hc,hi]);have h3:=lN (aDF (f:=T.size) hm);have h4:(iV c e).size=(([aT c,xTree e]:List T).map T.size).sum+1:=su _;simp only[aDe,aDu,aDI,aE0]at h4;omega;have h1:(([aT lS,bH lf,bH rt]:List T).map T.size).sum+((l.map aI).map T.size).sum+1<=10000:=hs;simp only[aDe,aDu,aDI,aE0,MW]at h1;exact⟨.inr (.inr (.inr (.inl rfl))),(λe h=>by cases h),(λh=>by cases h),aj,ae,ae,aj,Ob⟩;exact⟨.inr (.inr (.inr (.inr (.inl rfl)))),(λe h=>by cases h),(λh=>by cases h),aj,aj,aj,aj,Ob⟩;exact⟨.inr (.inr (.inr (.inr (.inr (.inl rfl))))),(λe h=>by cases h),(λh=>by cases h),aj,aj,aj,aj,Ob⟩;have h1:(((aT dX::bH lf::ag.map eH):List T).map T.size).sum+((l.map aI).map T.size).sum+1<=10000:=hs;simp only[aDe,aDI,MW]at h1;have h2:=p_ (ag.map eH);rw[aC_]at h2;exact⟨.inr (.inr (.inr (.inr (.inr (.inr rfl))))),(λe h=>by cases h),(λh=>by cases h),aj,ae,aj,ae,Ob⟩
mutual
theorem Ej:∀p:Pl,p.good->(aI p).size<=10000->p.fit
 | .mk k nm es cs lf rt ag l=>OH k nm es cs lf rt ag l (Qc l)
theorem Qc:∀l:List Pl,∀p∈l,p.good->(aI p).size<=10000->p.fit
 | []=>λp h=>by cases h
 | a::l=>by intro p h;rcases aDg.1 h with h1|h1;rw[h1];exact Ej a;exact Qc l p h1
end
structure WrT(p:Pl):Prop where
 good:p.good
 fit:p.fit
 size:(aI p).size<=601
 len:(printS (aI p)).length<=1000000
 ne:printS (aI p)≠[]
 fits:BC (aI p)=true
theorem RX{t:T}(hf:t.fine=true)(hs:t.size<=601)(he:(dD t).1=0):WrT (pPlan t)/\aI (pPlan t)=t.strip:=by obtain⟨h1,h2⟩:=aoG t hf he;have h3:=wG t hf;refine⟨⟨h2,Ej _ h2 (by rw[h1,CG];omega),by rw[h1,CG];exact hs,by rw[h1,zI];omega,?_,?_⟩,h1⟩;rw[h1,zI];intro e;rw[e]at h3;simp at h3;rw[h1];exact Ap _ (lC _ (by rw[MH];exact hf)).1
structure WrP(p:Pl):Prop where
 wr:WrT p
 deep:(aI p).deep<=12
 YF:(printS (aI p)).length<=600
theorem Ir(p:Pl)(h:p.good):((printS (aI p)).length<=600->(aI p).deep<=12->yz (printS (aI p))=(p,0,0))/\
  (600<(printS (aI p)).length->(yz (printS (aI p))).2.1=3)/\((printS (aI p)).length<=600->12<(aI p).deep->(yz (printS (aI p))).2.1=14):=by
 obtain⟨h1,h2,h3⟩:=MM p h;obtain⟨r1,r2,r3⟩:=XG (aI p) h3;refine⟨λhl hd=>?_,λhl=>?_,λhl hd=>?_⟩;obtain⟨t',ht,hr⟩:=r2 hl hd;have hp:pPlan t'=p:=by rw[<-CJ,ht,CJ,h1]
 have he:(dD t').1=0:=by rw[<-Gm,ht,Gm,h2]
 unfold yz pFrom;rw[hr];simp only[aD_,aDL,he,hp];rw[if_neg ae];unfold yz;rw[r1 hl];rfl;obtain⟨x,hx⟩:=r3 hl hd;unfold yz;rw[hx];rfl
theorem ah8{p:Pl}(hg:p.good)(hs:(aI p).size<=601)(hl:(printS (aI p)).length<=600):WrT p:=by obtain⟨_,_,h3⟩:=MM p hg;have h4:=wG _ h3;refine⟨hg,Ej p hg ae,hs,ae,λe=>?_,Ap _ (lC _ h3).1⟩;rw[e]at h4;simp at h4
theorem CW:∀(l:List T) (b:Bool) (t:T),t∈l->(printS t).length<=(printL b l).length
 | [],_,_,h=>by cases h
 | a::l,b,t,h=>by rw[printL,aDd,aDd];rcases aDg.1 h with h1|h1;rw[h1];omega;have:=CW l false t h1;omega
theorem Qd:∀(l:List T) (t:T),t∈l->t.deep<=T.lM l
 | [],_,h=>by cases h
 | a::l,t,h=>by rw[T.lM];rcases aDg.1 h with h1|h1;rw[h1];exact Nat.le_max_left _ _;exact aDr (Qd l t h1) (Nat.le_max_right _ _)
theorem Em(l:List T):(printS (dh l)).length=(printL true l).length+2:=by rw[dh,sN,aDh,aDd];rfl
theorem abY(l:List T):(dh l).deep=T.lM l+1:=by rw[dh,T.deep,if_pos rfl]
theorem wH(p:Pl):aI p=dh (kQ p.kind p.name p.exprs p.cols p.left p.right p.zo++p.kids.map aI):=by
 cases p
 rw[aI,sW];rfl
theorem Gz{p:Pl}(h:p.good):∀k∈p.kids,k.good:=by
 cases p
 rw[Pl.good,Pl.rW]at h;exact h.2
theorem YG{p k:Pl}(h:WrP p)(hk:k∈p.kids):WrP k:=by have hm:aI k∈kQ p.kind p.name p.exprs p.cols p.left p.right p.zo++p.kids.map aI:=aD7 _ (aDF hk);have h1:=h.wr.size;have h2:=h.YF;have h3:=h.deep;rw[wH p]at h1 h2 h3;rw[su]at h1;rw[Em]at h2;rw[abY]at h3;have e1:=lN (aDF (f:=T.size) hm);have e2:=CW _ true _ hm;have e3:=Qd _ _ hm;exact⟨ah8 (Gz h.wr.good k hk) ae ae,ae,ae⟩
mutual
def Pl.sum(f:Pl->Nat):Pl->Nat
 | .mk k nm es cs lf rt ag l=>f (.mk k nm es cs lf rt ag l)+Pl.sums f l
def Pl.sums(f:Pl->Nat):List Pl->Nat
 | []=>0
 | p::l=>p.sum f+Pl.sums f l
end
theorem Pl.VJ(f:Pl->Nat):∀l:List Pl,Pl.sums f l=(l.map (Pl.sum f)).sum
 | []=>by simp[Pl.sums]
 | p::l=>by simp[Pl.sums,Pl.VJ f l]
theorem Pl.alC(f:Pl->Nat)(p:Pl):p.sum f=f p+(p.kids.map (Pl.sum f)).sum:=by
 cases p
 rw[Pl.sum,Pl.VJ];rfl
mutual
theorem En:∀p:Pl,p.sum (λ_=>1)=p.size
 | .mk k nm es cs lf rt ag l=>by rw[Pl.sum,Pl.size,MX l];omega
theorem MX:∀l:List Pl,Pl.sums (λ_=>1) l=Pl.sizes l
 | []=>by simp[Pl.sums,Pl.sizes]
 | p::l=>by rw[Pl.sums,Pl.sizes,En p,MX l]
end
theorem Pl.size_eq(p:Pl):p.size=(p.kids.map Pl.size).sum+1:=by
 cases p
 rw[Pl.size,Pl.rU];rfl
theorem Pl.size_pos(p:Pl):1<=p.size:=by rw[Pl.size_eq];omega
def t_(s:By)(p:Pl):Nat:=if p.kind=1/\p.name=s then 1 else 0
def l_(p:Pl):Nat:=p.exprs.length+p.cols.length+p.left.length+p.right.length+p.zo.length
theorem xZ{α:Type}{f g:α->Nat}:∀l:List α,(∀x∈l,f x<=g x)->(l.map f).sum<=(l.map g).sum
 | [],_=>by simp
 | a::l,h=>by have h1:=h a (aC' ..);have h2:=xZ l λx hx=>h x (aDc _ hx);simp only[aDe,aDI];omega
theorem GG:∀(l:List T) (b:Bool),(∀t∈l,1<=(printS t).length)->(l.map λt=>(printS t).length).sum+l.length<=(printL b l).length+(if b then 1 else 0)
 | [],b,_=>by simp
 | a::l,b,h=>by
  have h2:=GG l false λt ht=>h t (aDc _ ht);rw[printL,aDd,aDd,aDe,aDI,aDh]
  cases b<;>simp at h2|-<;>omega
theorem GH{l:List T}(h:∀t∈l,t.fine=true):∀t∈l,1<=(printS t).length:=λt ht=>(wG t (h t ht)).1
theorem MZ{l:List T}(h:∀t∈l,1<=(printS t).length):l.length<=(l.map λt=>(printS t).length).sum:=by
 have:=xZ (f:=λ_=>1) l h;have e:∀l:List T,(l.map λ_=>1).sum=l.length:=λl=>by
  induction l with
  | nil=>rfl
  | cons a l ih=>rw[aDe,aDI,ih,aDh];omega
 rw[e]at this;exact this
theorem qh{l:List T}(h:(dh l).fine=true):∀t∈l,t.fine=true:=by
 rcases tX h with⟨_,_,_,h4⟩|⟨h1,_⟩|⟨h1,_⟩|⟨h1,_⟩
 exact h4;exact absurd h1 ai;exact absurd h1 ai;exact absurd h1 ai
theorem M_(l:List By)(h:(bH l).fine=true):l.length+1<=(printS (bH l)).length:=by have h1:=GG (l.map aT) true (GH (qh h));have h2:=MZ (GH (qh h));rw[bH,Em];rw[aC_]at h1 h2;simp at h1;omega
theorem ae8{p:Pl}(hg:p.good):l_ p+1+(p.kids.map λk=>(printS (aI k)).length).sum<=(printS (aI p)).length:=by
 obtain⟨_,_,hf⟩:=MM p hg;rw[wH p]at hf;have hall:=qh hf;have hpos:=GH hall;have h1:=GG _ true hpos;rw[wH p,Em];rw[aDk,aEb,aDd,aC_,aDx]at h1;have ek:(p.kids.map ((λt=>(printS t).length) ∘ aI)).sum=(p.kids.map λk=>(printS (aI k)).length).sum:=rfl;rw[ek]at h1;have hgl:zu p.kind p.name p.exprs p.cols p.left p.right p.zo p.kids.length:=by
  cases p
  rw[Pl.good]at hg;exact hg.1
 have hhead:∀t∈kQ p.kind p.name p.exprs p.cols p.left p.right p.zo,1<=(printS t).length:=λt ht=>hpos t (aDy _ ht);have Na:∀t∈kQ p.kind p.name p.exprs p.cols p.left p.right p.zo,t.fine=true:=λt ht=>hall t (aDy _ ht);have h2:=MZ hhead;simp only[aDL]at h1
 suffices hp:l_ p<=((kQ p.kind p.name p.exprs p.cols p.left p.right p.zo).map λt=>(printS t).length).sum+(kQ p.kind p.name p.exprs p.cols p.left p.right p.zo).length by omega
 unfold l_;rcases hgl with⟨hk,_,he,hc,hl,hr,ha,_⟩|⟨hk,_,⟨e,he,_⟩,hc,hl,hr,ha,_⟩|⟨hk,_,_,hec,_,_,hl,hr,ha,_⟩|⟨hk,_,he,hc,_,_,ha,_⟩|⟨hk,_,he,hc,hl,hr,ha,_⟩|⟨hk,_,he,hc,hl,hr,ha,_⟩|⟨hk,_,he,hc,_,hr,_,_⟩
 rw[he,hc,hl,hr,ha];simp;rw[he,hc,hl,hr,ha,hk];rw[he,hk]at h2;simp[kQ]at h2|-;rw[hl,hr,ha,hk];rw[hk]at h2;have e1:(kQ 3 p.name p.exprs p.cols p.left p.right p.zo).length=1+p.cols.length:=by show (aT fA::List.zipWith iV p.cols p.exprs).length=_;rw[aDh,List.length_zipWith];omega
 rw[hl,hr,ha]at h2 e1;simp only[aDZ];omega;rw[he,hc,ha,hk];rw[hk]at Na;have f1:=M_ p.left (Na _ (by simp[kQ]));have f2:=M_ p.right (Na _ (by simp[kQ]));simp[kQ];omega;rw[he,hc,hl,hr,ha];simp;rw[he,hc,hl,hr,ha];simp;rw[he,hc,hr,hk];rw[hk]at Na;have f1:=M_ p.left (Na _ (by simp[kQ]));simp[kQ];omega
mutual
theorem GK:∀p:Pl,p.good->p.sum (λq=>l_ q+1)<=(printS (aI p)).length
 | .mk k nm es cs lf rt ag l,hg=>by have h1:=ae8 hg;have h2:=Nb l (Gz hg);rw[Pl.sum];simp only[Pl.kids]at h1;omega
theorem Nb:∀l:List Pl,(∀p∈l,p.good)->Pl.sums (λq=>l_ q+1) l<=(l.map λk=>(printS (aI k)).length).sum
 | [],_=>by simp[Pl.sums]
 | p::l,h=>by have h1:=GK p (h p (aC' ..));have h2:=Nb l λx hx=>h x (aDc _ hx);rw[Pl.sums,aDe,aDI];omega
end
theorem VK(f g:Pl->Nat):(∀p:Pl,p.sum (λq=>f q+g q)=p.sum f+p.sum g)/\∀l:List Pl,Pl.sums (λq=>f q+g q) l=Pl.sums f l+Pl.sums g l:=by
 have step:∀(N:Nat),(∀p:Pl,p.size<=N->p.sum (λq=>f q+g q)=p.sum f+p.sum g)/\∀l:List Pl,Pl.sizes l<=N->Pl.sums (λq=>f q+g q) l=Pl.sums f l+Pl.sums g l:=by
  intro N
  induction N with
  | zero=>
   refine⟨λp hp=>by have:=Pl.size_pos p;omega,λl hl=>?_⟩
   cases l with
   | nil=>simp[Pl.sums]
   | cons p l=>rw[Pl.sizes]at hl;have:=Pl.size_pos p;omega
  | succ N ih=>
   have hp:∀p:Pl,p.size<=N+1->p.sum (λq=>f q+g q)=p.sum f+p.sum g:=by
    intro p hp
    cases p with
    | mk k nm es cs lf rt ag l=>
     rw[Pl.size]at hp;have:=ih.2 l ae;rw[Pl.sum,Pl.sum,Pl.sum,this];omega
   refine⟨hp,λl=>?_⟩
   induction l with
   | nil=>intro _;simp[Pl.sums]
   | cons p l ihl=>
    intro hl;rw[Pl.sizes]at hl;rw[Pl.sums,Pl.sums,Pl.sums,hp p ae,ihl ae];omega
 exact⟨λp=>(step p.size).1 p (aC8 _),λl=>(step (Pl.sizes l)).2 l (aC8 _)⟩
theorem VL{p:Pl}(h:WrP p):p.size+p.sum l_<=600:=by have h1:=GK p h.wr.good;rw[(VK l_ (λ_=>1)).1,En]at h1;have:=h.YF;omega
theorem Nc{a:Er}(h:a.1≠0):∀l:List Er,l.foldl iy a=a
 | []=>rfl
 | e::l=>by rw[aEw,show iy a e=a by unfold iy;simp[h]];exact Nc h l
theorem CX{a:Er}:∀l:List Er,(∀e∈l,e.1=0)->l.foldl iy a=a
 | [],_=>rfl
 | e::l,h=>by rw[aEw,show iy a e=a by unfold iy;simp[h e (aC' ..)]];exact CX l λx hx=>h x (aDc _ hx)
theorem uf{l:List Er}{k:Nat}{e:Er}(h0:∀x∈l.take k,x.1=0)(he:l[k]?=some e)(hne:e.1≠0):aX l=e:=by
 obtain⟨hk,hx⟩:=aC6.1 he;have hl:l=l.take k++e::l.drop (k+1):=by rw[<-hx,aEQ,aDS]
 unfold aX;rw[hl,aEz,CX _ h0,aEw,show iy (0,0) e=e by unfold iy;simp[hne],Nc hne]
theorem zN{l:List Er}(h0:∀x∈l,x.1=0):aX l=(0,0):=CX l h0
theorem aab(m:M):TJ m.t=if gU ⟨m.s.toArray⟩ then (m.s,(0,0)) else ([],(20,m.pos)):=by unfold TJ kZ dV;rw[M.DK,M.H6]
theorem Jy(m:M):bQ m.t=(TJ m.t).2:=by unfold bQ TJ;split<;>rfl
def Nh(l:List T):List By×Er:=if (aX (l.map bQ)).1=0 then (l.map T.s,(0,0)) else ([],aX (l.map bQ))
theorem ah9{l:List M}(h:∀x∈l,(bQ x.t).1=0):Nh (l.map M.t)=(l.map M.s,(0,0)):=by unfold Nh;rw[if_pos ((gG _).2 λe he=>?_)];rw[aDx];congr 1;exact aDT λx _=>M.DK x;rw[aDx]at he;obtain⟨x,hx,rfl⟩:=aDz.1 he;exact h x hx
theorem VM{l:List M}{k:Nat}{x:M}(h:∀y∈l.take k,(bQ y.t).1=0)(hx:l[k]?=some x)(hne:(bQ x.t).1≠0):Nh (l.map M.t)=([],bQ x.t):=by
 have hf:aX ((l.map M.t).map bQ)=bQ x.t:=by refine uf (k:=k) (λe he=>?_) ?_ hne;rw[aDx,<-aEf]at he;obtain⟨y,hy,rfl⟩:=aDz.1 he;exact h y hy;rw[aDx,aDG,hx];rfl
 unfold Nh;rw[if_neg (by rw[hf];exact hne),hf]
def ae9(R:List By×Er)(w:ak)(e:Ending)(w':ak):Prop:=∃X:dK By,e=.returned (.tuple #[.slice X.A X.l.length X.cap,.int .i64 R.2.1,.int .i64 (R.2.2:Int)])/\X.l=R.1/\bY 1 sc w.heap.size [] w' X/\Ev w w'
theorem ae_(l:List M)(A:Option Addr)(n cap:Nat)(w:ak)(h:Ms w A n cap l)(hn:n<=100000)(hs:∀x∈l,x.s.length<=1000000):
  Calls ax 96 #[.slice A n cap] w (ae9 (Nh (l.map M.t)) w):=by
 have hcl:=h.le;have hcm:=h.max;have HL:=zq h.len;have H:=zq h;have HRN:=zq (λm (hm:m∈l) w1=>D7 m w1 (hs m hm));have rE:Hid (ahN w ↑() [] w):=zq ⟨Ow.nil_ _,Ev.refl _⟩;clear h hs;go_enter func96,ntmps96;go_wp2
 go_loopw [5,6] (λav iv wr=>∃(A1:Option Addr) (cap1 k:Nat),av=.slice A1 k cap1/\iv=↑k/\k<=n/\Hid (∀y∈l.take k,(bQ y.t).1=0)/\Hid (ahN w (.slice A1 k cap1) ((l.take k).map M.s) wr)) (λ_ iv _=>n-(intOf iv).toNat)
 case atStart=>exact⟨none,0,0,rfl,rfl,aDl _,zq (λy hy=>by simp at hy),rE⟩
 case round=>
  obtain⟨A1,cap1,k,rfl,rfl,hk,HZ,HS⟩:=hrel;by_cases hlt:k<n
  ·obtain⟨x,hx⟩:=H.out.at hlt;obtain⟨b,off,rfl,hb,c0,c1,c2,c3,c4⟩:=Ms.cell (H.out.ev HS.out.ev) hx;unfold M.kv at c3;have tq:=aDb hx;have HN:=zq (HRN.out x tq);have hR:=aab x;have hE:=Jy x;rw[hR]at HN hE;have wR:Hid (((l.take k).map M.s).length=k):=zq (by rw[aC_,aDP,HL.out];omega);have mr:Hid ((l.take (k+1)).map M.s=(l.take k).map M.s++[x.s]/\((bQ x.t).1=0->∀y∈l.take (k+1),(bQ y.t).1=0)):=zq (by
    obtain⟨hk2,e1⟩:=aC6.1 hx;rw[aDi hk2,e1,aDk];refine⟨rfl,λh0 y hy=>?_⟩;rcases aDm.1 hy with h1|h1;exact HZ.out y h1;simp at h1;subst h1;exact h0)
   have HX:=zq hx;have HE:=zq hE;have i1:(0:Int)<=(k:Int):=ae;have i2:(k:Int)<(n:Int):=ae;clear hx tq hR hE;generalize gU ⟨x.s.toArray⟩=q at*
   cases q
   ·simp only[aDq,aDU]at HN HE
    go_wp2_with (first
     | ((with_reducible refine(HN.out _).mono ?_);rintro r w1 ⟨rfl,aJ⟩))
    go_ret3
    refine⟨dK.nil,?_,?_,bY.nil ..,HS.out.ev.trans aJ⟩;rw[VM HZ.out HX.out (by rw[HE.out];simp),HE.out];rfl;rw[VM HZ.out HX.out (by rw[HE.out];simp)];rfl
   simp only[aDL]at HN HE
   go_wp2_with (first
    | ((with_reducible refine(HN.out _).mono ?_);rintro r w1 ⟨rfl,aJ⟩;simp only[];have S1:=zq (⟨HS.out.own.ev aJ,HS.out.ev.trans aJ⟩:ahN w (.slice A1 k cap1) ((l.take k).map M.s) w1))
    | ((show wpList _ _ _ (⟨some 32,_,_,_,_,_⟩::_) _ _);refine aQ (o:=⟨some 32,_,_,_,_,_⟩) rfl 31 (.tmp 29) (.tmp 31) rfl qU underlying31 Tryz.Rj rfl rfl (S1.out.own.ev aC) ↑w1 1 1 [x.s] rfl (Sl.one (et:=9) qU w1 x.s _ rfl) (by rw[wR.out];simp;omega) (by rw[wR.out];simp;omega) (S1.out.ev.trans aC).size ?_;intro v2 w2 iq;have E2:Ev w w2:=((But.aU (S1.out.ev.trans aC)).then iq.2.1).ev (λk hk=>(S1.out.own.lt (aG.1 hk)).1);obtain⟨A2,cap2,rfl,_,Mc⟩:=iq.1.form qU;clear Mc;generalize qX:((l.take k).map M.s++[x.s]).length=nn at iq|-;have xy:Hid (nn=k+1):=zq (by rw[<-qX,aDd,wR.out];rfl);clear qX;obtain rfl:=xy.out))
   go_roundw
   case rel=>exact⟨A2,cap2,k+1,rfl,by go_num,ae,zq (mr.out.2 (by rw[HE.out])),zq ⟨by rw[mr.out.1];exact iq.1,E2⟩⟩
   case measure=>simp[intOf];omega
  obtain rfl:k=n:=ae;have HT:Hid (l.take k=l):=zq (aDj (by rw[HL.out];exact aC8 _));go_wp2
  go_ret3
  have wO:=ah9 (l:=l) (by have:=HZ.out;rwa [HT.out]at this);obtain⟨X,hXv,TL,VN⟩:=HS.out.own.sle qU;rw[HT.out]at TL;rw[wO];refine⟨X,?_,TL,VN,HS.out.ev⟩;unfold dK.v at hXv;rw[hXv];rfl
theorem Tryz.oH:(Tryz.prog.info? 161).map (·.size)=some 3:=ah
def WW(t:T):Ag×Er:=if (aX (dS t)).1=0 then (jV t,(0,0)) else (([],[],[]),aX (dS t))
theorem ae'(a:Er)(h:a.1≠0)(l:List Er):aX (a::l)=a:=uf (k:=0) (λx hx=>by simp at hx) rfl h
theorem alD(a b:Er)(h0:a.1=0)(h:b.1≠0)(l:List Er):aX (a::b::l)=b:=uf (k:=1) (λx hx=>by simp at hx;subst hx;exact h0) rfl h
theorem Nj(a b c:Er)(h0:a.1=0)(h1:b.1=0)(h:c.1≠0)(l:List Er):aX (a::b::c::l)=c:=uf (k:=2) (λx hx=>by simp at hx;rcases hx with rfl|rfl;exact h0;exact h1) rfl h
def Qe(R:Ag×Er)(w:ak)(e:Ending)(w':ak):Prop:=e=.returned (.tuple #[.agg #[.string ⟨R.1.1.toArray⟩,.string ⟨R.1.2.1.toArray⟩,.string ⟨R.1.2.2.toArray⟩],.int .i64 R.2.1,.int .i64 (R.2.2:Int)])/\Ev w w'
theorem ajZ(w:ak):∃w0,w.alloc (.cells #[.string ⟨#[]⟩,.string ⟨#[]⟩,.string ⟨#[]⟩] 161)=w0/\Ev w w0/\Bx 161 w.heap.size #[.string ⟨#[]⟩,.string ⟨#[]⟩,.string ⟨#[]⟩] w0/\w0.heap.size=w.heap.size+1:=⟨_,rfl,Ev.alloc _ _,Bx.new _ _ _,aj⟩
theorem ug{w w1:ak}{g:Nat}{c0 c1 c2:au}(hg:w.heap.size<=g)(hE:Ev w w1)(hB:Bx 161 g #[c0,c1,c2] w1)(v0 v1 v2:au):Bx 161 g #[v0,v1,v2] (kL g v0 v1 v2 w1)/\Ev w (kL g v0 v1 v2 w1):=⟨hB.kL _ _ _,But.ae0 hE (bP g v0 v1 v2 w1) λk hk=>by simp at hk;omega⟩
theorem aH8(h:U:=by refine aFe (aN rfl _ _ _ _ _ rfl f1 underlying161 rfl Tryz.oH) rfl ?_;exact⟨rfl,f2⟩):U:=h
theorem aGt(h:U:=by(try simp only[Exit.inBlock,Exit.then]);rw[bM];obtain⟨f1,f2⟩:=ug (w:=w) (aC8 _) E1.out B1.out (.string ⟨#[]⟩) (.string ⟨#[]⟩) (.string ⟨#[]⟩);exact aH8):U:=h
theorem aF5(h:U:=by
 go_region
 all_goals (
  go_wp2;(try simp only[Exit.inBlock,Exit.then]);rw[bM];obtain⟨f1,f2⟩:=ug (w:=w) (aC8 _) (E1.out.trans (Ev.drew _)) (B1.out.ev (Ev.drew _)) (.string ⟨#[]⟩) (.string ⟨#[]⟩) (.string ⟨#[]⟩);refine aFe (aN rfl _ _ _ _ _ rfl f1 underlying161 rfl Tryz.oH) rfl ?_;exact⟨rfl,f2⟩
 )):U:=h
theorem ah_(y a b:M)(w:ak)(h:Ms w y.A y.kids.length y.cap y.kids)(hk:y.kids=[a,b])(hs:∀x∈y.kids,x.s.length<=1000000):
  Calls ax 97 #[.slice y.A y.kids.length y.cap] w (Qe (WW y.t) w):=by
 have hR:WW y.t=if (aX [bQ a.t,if isFun b.s false then (0,0) else (12,b.pos),(0,0)]).1=0 then ((a.s,b.s,[]),(0,0)) else (([],[],[]),aX [bQ a.t,if isFun b.s false then (0,0) else (12,b.pos),(0,0)]):=by unfold WW dS jV;rw[M.dO,hk];simp[at_,M.DK,M.H6]
 obtain⟨V,hV⟩:∃V,V=WW y.t:=⟨_,rfl⟩
 rw[<-hV];rw[hR]at hV;rw[hk]at h hs|-;have Iu:=zq (λw1=>D7 a w1 (hs a aj));have hRA:=aab a;have hEA:=Jy a;have hcl:=h.le;have hcm:=h.max;obtain⟨bb,off,hA,Zt,_⟩:=Ms.cell h (i:=0) (x:=a) rfl;rw[hA]at h|-;have GL:=zq (λw1 (hE:Ev w w1)=>Ms.oW (h.ev hE) (i:=0) (x:=a) rfl);have Dl:=zq (λw1 (hE:Ev w w1)=>Ms.oW (h.ev hE) (i:=1) (x:=b) rfl);simp only[aDH,aDw]at GL;simp only[aEi]at Dl;simp only[aDh,aDZ,aDt,Nat.reduceAdd]at hcl|-;obtain⟨w0,hw0,aV,hB0,afa⟩:=ajZ w;have cO:=zq aV;have um:=zq hB0;obtain⟨⟨p0,p1,p2⟩,q0,q1,q2⟩:=hB0.three;obtain⟨a0,a1,a2,a3,a4⟩:=GL.out _ aV;obtain⟨b0,b1,b2,b3,b4⟩:=Dl.out _ aV;rw[hRA]at Iu hEA;rw[hEA]at hV;clear hRA hEA hs h hA aV hB0 hk afa hR;generalize gU ⟨a.s.toArray⟩=qa at*;unfold Qe
 cases qa
 ·simp only[aDq,aDU]at Iu hV;rw[ae' (20,a.pos) aj,if_neg aj]at hV;subst hV;go_enter func97,ntmps97
  go_wp2_with (first
   | ((with_reducible refine(Iu.out _).mono ?_);rintro r w1 ⟨rfl,aJ⟩;simp only[];have E1:=zq (cO.out.trans aJ);have B1:=zq (um.out.ev aJ);clear aJ p0 p1 p2 q0 q1 q2 a0 a1 a2 a3 a4 b0 b1 b2 b3 b4;obtain⟨⟨p0,p1,p2⟩,q0,q1,q2⟩:=B1.out.three;obtain⟨a0,a1,a2,a3,a4⟩:=GL.out _ E1.out;obtain⟨b0,b1,b2,b3,b4⟩:=Dl.out _ E1.out))
  exact aGt
 simp only[aDL]at Iu hV;by_cases hc:b.s=dW
 ·have hv2:V=((a.s,dW,[]),(0,0)):=by rw[hV,hc];rfl
  subst hv2;clear hV;rw[hc]at b1 Dl;clear hc;unfold dW at*;go_enter func97,ntmps97
  go_wp2_with (first
   | ((with_reducible refine(Iu.out _).mono ?_);rintro r w1 ⟨rfl,aJ⟩;simp only[];have E1:=zq (cO.out.trans aJ);have B1:=zq (um.out.ev aJ);clear aJ p0 p1 p2 q0 q1 q2 a0 a1 a2 a3 a4 b0 b1 b2 b3 b4;obtain⟨⟨p0,p1,p2⟩,q0,q1,q2⟩:=B1.out.three;obtain⟨a0,a1,a2,a3,a4⟩:=GL.out _ E1.out;obtain⟨b0,b1,b2,b3,b4⟩:=Dl.out _ E1.out))
  (try simp only[Exit.inBlock,Exit.then]);rw[bM];obtain⟨f1,f2⟩:=ug (w:=w) (aC8 _) E1.out B1.out ↑a.s (.string ⟨#[99,111,117,110,116]⟩) (.string ⟨#[]⟩);exact aH8
 have hcb:(b.s==dW)=false:=aC7.2 hc;have hf:isFun b.s false=false:=by unfold isFun;rw[hcb];split<;>rfl
 have hv2:V=(([],[],[]),(12,b.pos)):=by rw[hV,hf];rfl
 subst hv2;clear hV hf;unfold dW at*;go_enter func97,ntmps97;go_upto_region 5 with (first
  | ((with_reducible refine(Iu.out _).mono ?_);rintro r w1 ⟨rfl,aJ⟩;simp only[];have E1:=zq (cO.out.trans aJ);have B1:=zq (um.out.ev aJ);clear aJ p0 p1 p2 q0 q1 q2 a0 a1 a2 a3 a4 b0 b1 b2 b3 b4;obtain⟨⟨p0,p1,p2⟩,q0,q1,q2⟩:=B1.out.three;obtain⟨a0,a1,a2,a3,a4⟩:=GL.out _ E1.out;obtain⟨b0,b1,b2,b3,b4⟩:=Dl.out _ E1.out))
 exact aF5
theorem aFt(h:U:=by
 simp only[aDq,aDU]at WX hV;rw[Nj (0,0) (0,0) (20,c.pos) rfl rfl aj,if_neg aj]at hV;subst hV
 try unfold lG at*
 try unfold lY at*
 try unfold lZ at*
 go_enter func97,ntmps97
 go_wp2_with (first
  | (have hh:=E1.out;(with_reducible refine(WX.out _).mono ?_);rintro r w2 ⟨rfl,dJ⟩;simp only[];have E2:=zq (E1.out.trans dJ);have B2:=zq (B1.out.ev dJ);clear dJ p0 p1 p2 q0 q1 q2 a0 a1 a2 a3 a4 b0 b1 b2 b3 b4 d0 d1 d2 d3 d4;obtain⟨⟨p0,p1,p2⟩,q0,q1,q2⟩:=B2.out.three;obtain⟨a0,a1,a2,a3,a4⟩:=GL.out _ E2.out;obtain⟨b0,b1,b2,b3,b4⟩:=Dl.out _ E2.out;obtain⟨d0,d1,d2,d3,d4⟩:=Oa.out _ E2.out)
  | ((with_reducible refine(Iu.out _).mono ?_);rintro r w1 ⟨rfl,aJ⟩;simp only[];have E1:=zq (cO.out.trans aJ);have B1:=zq (um.out.ev aJ);clear aJ p0 p1 p2 q0 q1 q2 a0 a1 a2 a3 a4 b0 b1 b2 b3 b4 d0 d1 d2 d3 d4;obtain⟨⟨p0,p1,p2⟩,q0,q1,q2⟩:=B1.out.three;obtain⟨a0,a1,a2,a3,a4⟩:=GL.out _ E1.out;obtain⟨b0,b1,b2,b3,b4⟩:=Dl.out _ E1.out;obtain⟨d0,d1,d2,d3,d4⟩:=Oa.out _ E1.out))
 (try simp only[Exit.inBlock,Exit.then]);rw[bM];obtain⟨f1,f2⟩:=ug (w:=w) (aC8 _) E2.out B2.out (.string ⟨#[]⟩) (.string ⟨#[]⟩) (.string ⟨#[]⟩);exact aH8):U:=h
theorem ah'(y a b c:M)(w:ak)(h:Ms w y.A y.kids.length y.cap y.kids)(hk:y.kids=[a,b,c])(hs:∀x∈y.kids,x.s.length<=1000000):
  Calls ax 97 #[.slice y.A y.kids.length y.cap] w (Qe (WW y.t) w):=by
 have hR:WW y.t=if (aX [bQ a.t,if isFun b.s true then (0,0) else (12,b.pos),bQ c.t]).1=0 then ((a.s,b.s,c.s),(0,0)) else (([],[],[]),aX [bQ a.t,if isFun b.s true then (0,0) else (12,b.pos),bQ c.t]):=by unfold WW dS jV;rw[M.dO,hk];simp[at_,M.DK,M.H6]
 obtain⟨V,hV⟩:∃V,V=WW y.t:=⟨_,rfl⟩
 rw[<-hV];rw[hR]at hV;rw[hk]at h hs|-;have Iu:=zq (λw1=>D7 a w1 (hs a aj));have WX:=zq (λw1=>D7 c w1 (hs c aj));have hRC:=aab c;have hEC:=Jy c;rw[hRC]at WX hEC;rw[hEC]at hV;clear hRC hEC;generalize gU ⟨c.s.toArray⟩=qc at*;have hRA:=aab a;have hEA:=Jy a;have hcl:=h.le;have hcm:=h.max;obtain⟨bb,off,hA,Zt,_⟩:=Ms.cell h (i:=0) (x:=a) rfl;rw[hA]at h|-;have GL:=zq (λw1 (hE:Ev w w1)=>Ms.oW (h.ev hE) (i:=0) (x:=a) rfl);have Dl:=zq (λw1 (hE:Ev w w1)=>Ms.oW (h.ev hE) (i:=1) (x:=b) rfl);have Oa:=zq (λw1 (hE:Ev w w1)=>Ms.oW (h.ev hE) (i:=2) (x:=c) rfl);simp only[aDH,aDw]at GL;simp only[aEi]at Dl;simp only[aDh,aDZ,aDt,Nat.reduceAdd]at hcl|-;obtain⟨w0,hw0,aV,hB0,afa⟩:=ajZ w;have cO:=zq aV;have um:=zq hB0;obtain⟨⟨p0,p1,p2⟩,q0,q1,q2⟩:=hB0.three;obtain⟨a0,a1,a2,a3,a4⟩:=GL.out _ aV;obtain⟨b0,b1,b2,b3,b4⟩:=Dl.out _ aV;obtain⟨d0,d1,d2,d3,d4⟩:=Oa.out _ aV;rw[hRA]at Iu hEA;rw[hEA]at hV;clear hRA hEA hs h hA aV hB0 hk afa hR;generalize gU ⟨a.s.toArray⟩=qa at*;unfold Qe
 cases qa
 ·simp only[aDq,aDU]at Iu hV;rw[ae' (20,a.pos) aj,if_neg aj]at hV;subst hV;go_enter func97,ntmps97
  go_wp2_with (first
   | ((with_reducible refine(Iu.out _).mono ?_);rintro r w1 ⟨rfl,aJ⟩;simp only[];have E1:=zq (cO.out.trans aJ);have B1:=zq (um.out.ev aJ);clear aJ p0 p1 p2 q0 q1 q2 a0 a1 a2 a3 a4 b0 b1 b2 b3 b4 d0 d1 d2 d3 d4;obtain⟨⟨p0,p1,p2⟩,q0,q1,q2⟩:=B1.out.three;obtain⟨a0,a1,a2,a3,a4⟩:=GL.out _ E1.out;obtain⟨b0,b1,b2,b3,b4⟩:=Dl.out _ E1.out;obtain⟨d0,d1,d2,d3,d4⟩:=Oa.out _ E1.out))
  exact aGt
 simp only[aDL]at Iu hV;by_cases DY:b.s=lG
 ·have hf:isFun b.s true=true:=by rw[DY];rfl
  rw[hf,if_pos rfl]at hV;have HBS:=zq DY;rw[DY]at b1 Dl hV;clear hf DY
  cases qc
  exact aFt;simp only[aDL]at WX hV;have hv2:V=((a.s,lG,c.s),(0,0)):=by rw[hV];rfl
  subst hv2;clear hV
  try unfold lG at*
  try unfold lY at*
  try unfold lZ at*
  go_enter func97,ntmps97
  go_wp2_with (first
   | (have hh:=E1.out;(with_reducible refine(WX.out _).mono ?_);rintro r w2 ⟨rfl,dJ⟩;simp only[];have E2:=zq (E1.out.trans dJ);have B2:=zq (B1.out.ev dJ);clear dJ p0 p1 p2 q0 q1 q2 a0 a1 a2 a3 a4 b0 b1 b2 b3 b4 d0 d1 d2 d3 d4;obtain⟨⟨p0,p1,p2⟩,q0,q1,q2⟩:=B2.out.three;obtain⟨a0,a1,a2,a3,a4⟩:=GL.out _ E2.out;obtain⟨b0,b1,b2,b3,b4⟩:=Dl.out _ E2.out;obtain⟨d0,d1,d2,d3,d4⟩:=Oa.out _ E2.out)
   | ((with_reducible refine(Iu.out _).mono ?_);rintro r w1 ⟨rfl,aJ⟩;simp only[];have E1:=zq (cO.out.trans aJ);have B1:=zq (um.out.ev aJ);clear aJ p0 p1 p2 q0 q1 q2 a0 a1 a2 a3 a4 b0 b1 b2 b3 b4 d0 d1 d2 d3 d4;obtain⟨⟨p0,p1,p2⟩,q0,q1,q2⟩:=B1.out.three;obtain⟨a0,a1,a2,a3,a4⟩:=GL.out _ E1.out;obtain⟨b0,b1,b2,b3,b4⟩:=Dl.out _ E1.out;obtain⟨d0,d1,d2,d3,d4⟩:=Oa.out _ E1.out))
  (try simp only[Exit.inBlock,Exit.then]);rw[bM];obtain⟨f1,f2⟩:=ug (w:=w) (aC8 _) E2.out B2.out ↑a.s (.string ⟨#[115,117,109]⟩) ↑c.s;exact aH8
 have aoY:(b.s==lG)=false:=aC7.2 DY;by_cases DZ:b.s=lY
 ·have hf:isFun b.s true=true:=by rw[DZ];rfl
  rw[hf,if_pos rfl]at hV;have HBS:=zq DZ;rw[DZ]at b1 Dl hV;clear hf DZ
  cases qc
  exact aFt;simp only[aDL]at WX hV;have hv2:V=((a.s,lY,c.s),(0,0)):=by rw[hV];rfl
  subst hv2;clear hV
  try unfold lG at*
  try unfold lY at*
  try unfold lZ at*
  go_enter func97,ntmps97
  go_wp2_with (first
   | (have hh:=E1.out;(with_reducible refine(WX.out _).mono ?_);rintro r w2 ⟨rfl,dJ⟩;simp only[];have E2:=zq (E1.out.trans dJ);have B2:=zq (B1.out.ev dJ);clear dJ p0 p1 p2 q0 q1 q2 a0 a1 a2 a3 a4 b0 b1 b2 b3 b4 d0 d1 d2 d3 d4;obtain⟨⟨p0,p1,p2⟩,q0,q1,q2⟩:=B2.out.three;obtain⟨a0,a1,a2,a3,a4⟩:=GL.out _ E2.out;obtain⟨b0,b1,b2,b3,b4⟩:=Dl.out _ E2.out;obtain⟨d0,d1,d2,d3,d4⟩:=Oa.out _ E2.out)
   | ((with_reducible refine(Iu.out _).mono ?_);rintro r w1 ⟨rfl,aJ⟩;simp only[];have E1:=zq (cO.out.trans aJ);have B1:=zq (um.out.ev aJ);clear aJ p0 p1 p2 q0 q1 q2 a0 a1 a2 a3 a4 b0 b1 b2 b3 b4 d0 d1 d2 d3 d4;obtain⟨⟨p0,p1,p2⟩,q0,q1,q2⟩:=B1.out.three;obtain⟨a0,a1,a2,a3,a4⟩:=GL.out _ E1.out;obtain⟨b0,b1,b2,b3,b4⟩:=Dl.out _ E1.out;obtain⟨d0,d1,d2,d3,d4⟩:=Oa.out _ E1.out))
  (try simp only[Exit.inBlock,Exit.then]);rw[bM];obtain⟨f1,f2⟩:=ug (w:=w) (aC8 _) E2.out B2.out ↑a.s (.string ⟨#[109,105,110]⟩) ↑c.s;exact aH8
 have aoZ:(b.s==lY)=false:=aC7.2 DZ;by_cases D5:b.s=lZ
 ·have hf:isFun b.s true=true:=by rw[D5];rfl
  rw[hf,if_pos rfl]at hV;have HBS:=zq D5;rw[D5]at b1 Dl hV;clear hf D5
  cases qc
  exact aFt;simp only[aDL]at WX hV;have hv2:V=((a.s,lZ,c.s),(0,0)):=by rw[hV];rfl
  subst hv2;clear hV
  try unfold lG at*
  try unfold lY at*
  try unfold lZ at*
  go_enter func97,ntmps97
  go_wp2_with (first
   | (have hh:=E1.out;(with_reducible refine(WX.out _).mono ?_);rintro r w2 ⟨rfl,dJ⟩;simp only[];have E2:=zq (E1.out.trans dJ);have B2:=zq (B1.out.ev dJ);clear dJ p0 p1 p2 q0 q1 q2 a0 a1 a2 a3 a4 b0 b1 b2 b3 b4 d0 d1 d2 d3 d4;obtain⟨⟨p0,p1,p2⟩,q0,q1,q2⟩:=B2.out.three;obtain⟨a0,a1,a2,a3,a4⟩:=GL.out _ E2.out;obtain⟨b0,b1,b2,b3,b4⟩:=Dl.out _ E2.out;obtain⟨d0,d1,d2,d3,d4⟩:=Oa.out _ E2.out)
   | ((with_reducible refine(Iu.out _).mono ?_);rintro r w1 ⟨rfl,aJ⟩;simp only[];have E1:=zq (cO.out.trans aJ);have B1:=zq (um.out.ev aJ);clear aJ p0 p1 p2 q0 q1 q2 a0 a1 a2 a3 a4 b0 b1 b2 b3 b4 d0 d1 d2 d3 d4;obtain⟨⟨p0,p1,p2⟩,q0,q1,q2⟩:=B1.out.three;obtain⟨a0,a1,a2,a3,a4⟩:=GL.out _ E1.out;obtain⟨b0,b1,b2,b3,b4⟩:=Dl.out _ E1.out;obtain⟨d0,d1,d2,d3,d4⟩:=Oa.out _ E1.out))
  (try simp only[Exit.inBlock,Exit.then]);rw[bM];obtain⟨f1,f2⟩:=ug (w:=w) (aC8 _) E2.out B2.out ↑a.s (.string ⟨#[109,97,120]⟩) ↑c.s;exact aH8
 have ao0:(b.s==lZ)=false:=aC7.2 D5;have hf:isFun b.s true=false:=by unfold isFun;rw[aoY,aoZ,ao0];simp only[Bool.or_false,aDq,aDU];split<;>rfl
 rw[hf]at hV;simp only[aDq,aDU]at hV;rw[alD (0,0) (12,b.pos) rfl aj,if_neg aj]at hV;subst hV;clear hf DY DZ D5
 try unfold lG at*
 try unfold lY at*
 try unfold lZ at*
 go_enter func97,ntmps97;go_upto_region 9 with (first
  | ((with_reducible refine(Iu.out _).mono ?_);rintro r w1 ⟨rfl,aJ⟩;simp only[];have E1:=zq (cO.out.trans aJ);have B1:=zq (um.out.ev aJ);clear aJ p0 p1 p2 q0 q1 q2 a0 a1 a2 a3 a4 b0 b1 b2 b3 b4 d0 d1 d2 d3 d4;obtain⟨⟨p0,p1,p2⟩,q0,q1,q2⟩:=B1.out.three;obtain⟨a0,a1,a2,a3,a4⟩:=GL.out _ E1.out;obtain⟨b0,b1,b2,b3,b4⟩:=Dl.out _ E1.out;obtain⟨d0,d1,d2,d3,d4⟩:=Oa.out _ E1.out))
 exact aF5
theorem iW.aj0{gr base j:Nat}{r:CR}{v:au}{w:ak}(h:iW gr base r v w)(hj:r.cols.length=j+1):∃g cap,v=.slice (some ⟨g,0,none⟩) (j+1) cap:=by
 obtain⟨A,cap,hv,hS,hA⟩:=h.own.form rD;rw[hj]at hv hS;obtain⟨b,off,e,_,_⟩:=hS.rd ae;have h2:=(hA _ e).2.2.2.1;injection h2 with _ h3 _
 exact⟨b,cap,by rw[hv,e,h3]⟩
theorem iW.last{gr base g cap n:Nat}{l:List C}{nm s:ByteArray}{k why:Int}{w:ak}{j:Nat}(h:iW gr base ⟨l++[(nm,k)],why,s⟩ (.slice ↑g n cap) w)(hj:l.length=j):w.cell? ⟨g,j*2+1,none⟩=some ↑k/\w.frozen? ⟨g,j*2+1,none⟩=false:=by
 obtain⟨A,cap2,hv,hS,hA⟩:=h.own.form rD;injection hv with h1 h2 h3
 subst h1;obtain⟨b,off,e,_,k1⟩:=Cs.tC hS (i:=j) (c:=(nm,k)) (by rw[<-hj];simp);injection e with e
 injection e with e1 e2 _
 subst e1 e2;refine⟨by simpa using k1,?_⟩;have:=(hA _ rfl).2.2.2.2 (j*2+1);exact this
theorem alF(w:ak)(c0 c1 c2:au):∃w0,w.alloc (.cells #[c0,c1,c2] 161)=w0/\Ev w w0/\Bx 161 w.heap.size #[c0,c1,c2] w0/\w0.heap.size=w.heap.size+1:=⟨_,rfl,Ev.alloc _ _,Bx.new _ _ _,aj⟩
theorem iW.kinds{gr base g cap:Nat}{why:Int}{nm s:ByteArray}{k k2:Int}{l:List C}{w:ak}{n:Nat}(h:iW gr base ⟨l++[(nm,k)],why,s⟩ (.slice ↑g n cap) w):
  iW gr base ⟨l++[(nm,k2)],why,s⟩ (.slice ↑g n cap) (w.setCell ⟨g,l.length*2+1,none⟩ ↑k2):=by
 have hne:gr≠g:=λe=>h.gf (aG.2 (by rw[e];rfl));refine⟨h.box.but (But.setCell (K:=[g]) ⟨g,_,none⟩ _ aj) (by simpa using hne),?_,h.gf⟩;have h1:=h.own.set rD (i:=l.length) (j:=1) (x:=(nm,k)) (x':=(nm,k2)) (u:=↑k2) aj ai rfl;rwa [show (l++[(nm,k)]).set l.length (nm,k2)=l++[(nm,k2)] by rw[List.set_append_right _ _ (aC8 _)];simp]at h1
theorem CR.abZ(r:CR)(nm:ByteArray)(k:Int):∃why name,∀k2,r.add nm k2=⟨r.cols++[(nm,k2)],why,name⟩:=by
 unfold CR.add;simp only
 cases (gZ r.cols nm).isSome
 exact⟨r.why,r.name,λk2=>rfl⟩;refine⟨(r.fail 21 nm).why,(r.fail 21 nm).name,λk2=>?_⟩;simp only[aDL];rw[CR.kF]
theorem CR.VO(r:CR)(nm:ByteArray)(k k2:Int)(l:List C)(s:ByteArray):∃why name,(r.add nm k).find l s=⟨r.cols++[(nm,k)],why,name⟩/\(r.add nm k2).find l s=⟨r.cols++[(nm,k2)],why,name⟩:=by
 obtain⟨why,name,h⟩:=CR.abZ r nm k;rw[h k,h k2];unfold CR.find CR.fail
 cases (gZ l s).isSome
 simp only[aDq,aDU];by_cases hw:why=0;exact⟨20,s,by simp[hw],by simp[hw]⟩;exact⟨why,name,by simp[hw],by simp[hw]⟩;exact⟨why,name,rfl,rfl⟩
theorem aHi(h:U:=by simp at hx;rcases hx with rfl|rfl;exact .inl (aC' ..);rcases N9.out _ rfl with h1|h1;exact .inl (aDc _ (aG.2 h1));exact .inr h1):U:=h
theorem aFk(h:U:=by
 refine kG dH (λu=>But [gr,g] w1 u/\u.cell? ⟨gr,0,none⟩=some (.slice ↑g (j+1) cap1)) (But [gr,g]) [14,17] (λp u=>iW gr base (if p=0 then r.add ⟨a.1.toArray⟩ 1 else if p=1 then (r.add ⟨a.1.toArray⟩ 1).find kid ⟨a.2.2.toArray⟩ else (r.add ⟨a.1.toArray⟩ (gQ kid ⟨a.2.2.toArray⟩)).find kid ⟨a.2.2.toArray⟩) (.slice ↑g (j+1) cap1) u) [λv _=>v=.pointer ↑gr,λv _=>v=.pointer ↑gr,λv _=>v=.pointer ↑gr,λv _=>v=.slice ↑g (j+1) cap1,λv _=>v=.pointer ↑gr,λv _=>v=.pointer ↑gr,λv _=>v=.pointer ↑gr,λv _=>v=.slice ↑g (j+1) cap1,λv _=>v=.int .i64 ((j:Int)+1),λv _=>v=↑j,λv _=>v=.pointer ↑gr,λv _=>v=.slice A n cap,λv _=>v=.pointer (some ⟨w.heap.size,2,none⟩),λv _=>v=.string ⟨a.2.2.toArray⟩,λv _=>v=.int .i64 (gQ kid ⟨a.2.2.toArray⟩),λv _=>v=.pointer ↑(g,j*2),λv _=>v=.pointer ↑(g,j*2+1),λ_ _=>True]
  44 2 rfl ah ⟨aB _,aB _,aB _,aB _,aB _,aB _,aB _,aB _,aB _,aB _,aB _,aB _,aB _,aB _,aB _,aB _,aB _,fC,trivial⟩ ⟨λ_ _ _ _ h=>h,λ_ _ _ _ h=>h,λ_ _ _ _ h=>h,λ_ _ _ _ h=>h,λ_ _ _ _ h=>h,λ_ _ _ _ h=>h,λ_ _ _ _ h=>h,λ_ _ _ _ h=>h,λ_ _ _ _ h=>h,λ_ _ _ _ h=>h,λ_ _ _ _ h=>h,λ_ _ _ _ h=>h,λ_ _ _ _ h=>h,λ_ _ _ _ h=>h,λ_ _ _ _ h=>h,λ_ _ _ _ h=>h,λ_ _ _ _ h=>h,λ_ _ _ _ h=>h,trivial⟩ ah (λ_ _ _ hE h=>h.ev hE) (λu u' hE h=>⟨h.1.then (But.aU hE),(hE.cell (p:=⟨gr,0,none⟩) (aDf HGL.out h.1.size)).trans h.2⟩) (⟨But.refl _ _,Bo.out.box.cell 0⟩) (Bo.out) ah ?_ ?_ ?_
 ·refine aO 0 ?_ (aO 1 ?_ (aO 2 ?_ (aO 3 ?_ (aO 4 ?_ (aO 5 ?_ (aO 6 ?_ (aO 7 ?_ (aO 8 ?_ (aO 9 ?_ (aO 10 ?_ (aO 11 ?_ (aO 12 ?_ (aO 13 ?_ (gq 14 ai (aO 15 ?_ (aO 16 ?_ (gq 17 ai (uU 18))))))))))))))))));exact aIu
  ·refine aP λa_ wq c=>⟨(ay rfl),.pointer ↑gr,?_,rfl⟩
   have bn:a_.eval (.tmp 27)=.pointer ↑gr:=(c.new 0 27)
   generalize a_.eval=ρ at bn|-;simp[execOp,bn,go_sem]
  ·refine aP λa_ wq c=>⟨(ay rfl),.pointer ↑gr,?_,rfl⟩
   have bn:a_.eval (.tmp 28)=.pointer ↑gr:=(c.new 1 28)
   generalize a_.eval=ρ at bn|-;simp[execOp,bn,go_sem]
  ·refine aP λa_ wq c=>⟨(ay rfl),.slice ↑g (j+1) cap1,?_,rfl⟩
   have bn:a_.eval (.tmp 29)=.pointer ↑gr:=(c.new 2 29)
   have hc:=c.inv.2;generalize a_.eval=ρ at bn|-;simp[execOp,bn,hc,go_sem]
  exact aIu
  ·refine aP λa_ wq c=>⟨(ay rfl),.pointer ↑gr,?_,rfl⟩
   have bn:a_.eval (.tmp 31)=.pointer ↑gr:=(c.new 4 31)
   generalize a_.eval=ρ at bn|-;simp[execOp,bn,go_sem]
  ·refine aP λa_ wq c=>⟨(ay rfl),.pointer ↑gr,?_,rfl⟩
   have bn:a_.eval (.tmp 32)=.pointer ↑gr:=(c.new 5 32)
   generalize a_.eval=ρ at bn|-;simp[execOp,bn,go_sem]
  ·refine aP λa_ wq c=>⟨(ay rfl),.slice ↑g (j+1) cap1,?_,rfl⟩
   have bn:a_.eval (.tmp 33)=.pointer ↑gr:=(c.new 6 33)
   have hc:=c.inv.2;generalize a_.eval=ρ at bn|-;simp[execOp,bn,hc,go_sem]
  ·refine aP λa_ wq c=>⟨(ay rfl),.int .i64 ((j:Int)+1),?_,rfl⟩
   have bn:a_.eval (.tmp 34)=.slice ↑g (j+1) cap1:=(c.new 7 34)
   generalize a_.eval=ρ at bn|-;simp[bn,go_sem]
  ·refine aP λa_ wq c=>⟨(ay rfl),↑j,?_,rfl⟩
   have bn:a_.eval (.tmp 35)=.int .i64 ((j:Int)+1):=(c.new 8 35)
   have jS:a_.eval (.const (.int .i64 1))=.int .i64 1:=rfl;generalize a_.eval=ρ at bn jS|-;simp[execOp,bn,jS,go_sem,hj1]
  exact aIu;refine aP λa w c=>⟨(ay rfl),_,run_move _ rfl w,(c.was 2 rfl)⟩
  ·refine aP λa_ wq c=>⟨(ay rfl),.pointer (some ⟨w.heap.size,2,none⟩),?_,rfl⟩
   have bn:a_.eval (.tmp 4)=.pointer ↑w:=(c.was 4 rfl)
   generalize a_.eval=ρ at bn|-;simp[execOp,bn,go_sem]
  ·refine aP λa_ wq c=>⟨(ay rfl),.string ⟨a.2.2.toArray⟩,?_,rfl⟩
   have bn:a_.eval (.tmp 39)=.pointer (some ⟨w.heap.size,2,none⟩):=(c.new 12 39)
   have hc:=(HBW.out wq c.inv.1).cell 2;have hc:wq.cell? ⟨w.heap.size,2,none⟩=some (.string ⟨a.2.2.toArray⟩):=hc;generalize a_.eval=ρ at bn|-;simp[execOp,bn,hc,go_sem]
  ·refine aP λa_ wq c=>⟨(ay rfl),.pointer ↑(g,j*2),?_,rfl⟩
   have bn:a_.eval (.tmp 30)=.slice ↑g (j+1) cap1:=(c.new 3 30)
   have jk:a_.eval (.tmp 36)=↑j:=(c.new 9 36)
   generalize a_.eval=ρ at bn jk|-;simp[execOp,bn,jk,go_sem,hj2]
  refine aP λa_ wq c=>⟨(ay rfl),.pointer ↑(g,j*2+1),?_,rfl⟩
  have bn:a_.eval (.tmp 42)=.pointer ↑(g,j*2):=(c.new 15 42)
  generalize a_.eval=ρ at bn|-;simp[execOp,bn,go_sem]
 ·refine jr 0 rfl ?_ (jr 1 rfl ?_ (xX 2));refine qF λa_ wq c st=>⟨ay rfl,135,#[.pointer ↑gr,.slice A n cap,.string ⟨a.2.2.toArray⟩],?_,?_⟩
  rw[bK 135 _ _ rfl ah];have bn:a_.eval (.tmp 37)=.pointer ↑gr:=(c.new 10 37)
  have jk:a_.eval (.tmp 38)=.slice A n cap:=(c.new 11 38)
  have e_2:a_.eval (.tmp 40)=.string ⟨a.2.2.toArray⟩:=(c.new 13 40)
  simp[bn,jk,e_2];refine(HFF.out _ wq st (HBK.out wq c.inv.1)).mono ?_;rintro e wp ⟨rfl,hR2,hB2⟩;have sK:But [gr,g] wq wp:=hB2.wide λk hk=>.inl (by simp at hk;simp[hk]);exact⟨_,rfl,sK,⟨c.inv.1.then sK,hR2.box.cell 0⟩,hR2,rfl⟩;refine rZ rfl λa_ wq c st=>?_;have bn:a_.eval (.tmp 43)=.pointer ↑(g,j*2+1):=(c.new 16 43)
  have jk:a_.eval (.tmp 41)=.int .i64 (gQ kid ⟨a.2.2.toArray⟩):=(c.new 14 41)
  have hst:iW gr base ⟨r.cols++[(⟨a.1.toArray⟩,1)],y1,s1⟩ (.slice ↑g (j+1) cap1) wq:=HF1.out▸st;obtain⟨hc,hfz⟩:=hst.last HJ.out;refine⟨ay rfl,wq.setCell ⟨g,j*2+1,none⟩ (.int .i64 (gQ kid ⟨a.2.2.toArray⟩)),?_,But.setCell _ _ aj,⟨c.inv.1.then (But.setCell _ _ aj),?_⟩,?_,trivial⟩
  ·generalize a_.eval=ρ at bn jk|-;simp[execOp,bn,jk,go_sem,hc,hfz]
  have hk:=hst.kinds (k2:=gQ kid ⟨a.2.2.toArray⟩);rw[HJ.out]at hk;exact hk.box.cell 0;have hk:=hst.kinds (k2:=gQ kid ⟨a.2.2.toArray⟩);rw[HJ.out]at hk;show iW gr base ((r.add ⟨a.1.toArray⟩ (gQ kid ⟨a.2.2.toArray⟩)).find kid ⟨a.2.2.toArray⟩) _ _;rw[XH.out];exact hk
 intro sl w9 hI hold hnew hst;have f0:sl 0=.pointer ↑gr:=hold 0;have f2:sl 2=.slice A n cap:=hold 2;have f4:sl 4=.pointer ↑w:=hold 4;have f43:sl 43=.pointer ↑(g,j*2+1):=hnew 16 43;change Exit.inBlock _ _ .normal ⟨_,_⟩ _;simp only[List.range,List.range.loop,List.map];simp only[f0,f2,f4,f43];clear hold hnew;go_wp2;go_end0;exact⟨rfl,_,hst,(But.aU cO.out).then (HBK.out w9 hI.1),λg' hg=>(N9.out g' hg).imp_right λh=>aDr cO.out.size h⟩):U:=h
theorem alG(gr base:Nat)(r:CR)(v:au)(a:Ag)(kid:List C)(A:Option Addr)(n cap:Nat)(w:ak)(h:iW gr base r v w)(hl:r.cols.length<=100000)(hb:base<=w.heap.size)(hC:Cs w A n cap kid)(hK:∀ad,A=some ad->ad.block∉gr::foot v)(hAl:∀ad,A=some ad->ad.block<w.heap.size):
  Calls ax 137 #[.pointer ↑gr,.agg #[.string ⟨a.1.toArray⟩,.string ⟨a.2.1.toArray⟩,.string ⟨a.2.2.toArray⟩],.slice A n cap] w (L8 gr base (r.agg kid a) v w):=by
 have dH:Tryz.prog.follows .mixedOrders=true:=ah;obtain⟨w0,hw0,aV,hB0,hs0⟩:=alF w (.string ⟨a.1.toArray⟩) (.string ⟨a.2.1.toArray⟩) (.string ⟨a.2.2.toArray⟩);have HA1:=zq (aev gr base r v (dV a.1) 1 w0 (h.ev aV) hl (aDr hb aV.size));have hgl:=h.box.lt;have HFF:=λ(v':au) (w1:ak) (hR:iW gr base (r.add (dV a.1) 1) v' w1) (hb1:But (gr::foot v) w0 w1)=>ZP gr base (r.add (dV a.1) 1) v' kid A n cap (dV a.2.2) w1 hR ((hC.ev aV).but hb1 hK);have HFW:=λ(v':au) (w1:ak) (hR:iW gr base ((r.add (dV a.1) 1).find kid (dV a.2.2)) v' w1)=>uP gr base ((r.add (dV a.1) 1).find kid (dV a.2.2)) v' 22 (dV a.2.2) w1 hR;unfold dV L8 at HA1;unfold dV at HFF HFW;have HFF:=zq HFF;have HFW:=zq HFW;have cO:=zq aV;have um:=zq hB0;have hgf:w.heap.size∉gr::foot v:=by intro hm;rcases aDg.1 hm with e|e;omega;have:=(h.own.lt (aG.1 e)).2;omega
 have HGF:=zq hgf;obtain⟨⟨c0,c1,c2⟩,_⟩:=hB0.three;have hAg:CR.agg r kid a=if a.2.1==lG then (if gQ kid ⟨a.2.2.toArray⟩=1 then (r.add ⟨a.1.toArray⟩ 1).find kid ⟨a.2.2.toArray⟩ else ((r.add ⟨a.1.toArray⟩ 1).find kid ⟨a.2.2.toArray⟩).fail 22 ⟨a.2.2.toArray⟩) else if a.2.1==lY||a.2.1==lZ then (r.add ⟨a.1.toArray⟩ (gQ kid ⟨a.2.2.toArray⟩)).find kid ⟨a.2.2.toArray⟩ else r.add ⟨a.1.toArray⟩ 1:=rfl;rw[hAg];clear h hC aV hB0 hs0 hgf hAg;generalize ha2:a.2.1=f2 at*;clear ha2;unfold lG lY lZ
 cases hsm:(f2==([115,117,109]:By))
 ·have azK:¬f2=[115,117,109]:=by simpa using hsm
  cases hmn:(f2==([109,105,110]:By))
  ·have azL:¬f2=[109,105,110]:=by simpa using hmn
   cases hmx:(f2==([109,97,120]:By))
   ·have at1:¬f2=[109,97,120]:=by simpa using hmx
    simp only[aDq,aDU,Bool.or_self];go_enter func137,ntmps137
    go_wp2_with (first
     | ((with_reducible refine(HA1.out).mono ?_);rintro e w1 ⟨rfl,v1,hR1,hB1,hS1⟩;have Bo:=zq hR1;have nY:=zq hB1;have N9:=zq hS1;clear c0 c1 c2;obtain⟨⟨c0,c1,c2⟩,_⟩:=(um.out.but hB1 HGF.out).three;clear hR1 hB1 hS1))
    go_end0;exact⟨rfl,v1,Bo.out,(But.aU cO.out).then nY.out,λg hg=>(N9.out g hg).imp_right λh=>aDr cO.out.size h⟩
   obtain rfl:f2=[109,97,120]:=by simpa using hmx
   simp only[aDq,aDU,aDL,Bool.or_true];obtain⟨j,hj⟩:∃j,r.cols.length=j:=⟨_,rfl⟩
   have HJ:=zq hj;obtain⟨y1,s1,hf1,hf2⟩:=CR.VO r ⟨a.1.toArray⟩ 1 (gQ kid ⟨a.2.2.toArray⟩) kid ⟨a.2.2.toArray⟩;have HF1:=zq hf1;have XH:=zq hf2;have hjl:j<=100000:=hj▸hl;have hj1:IntKind.i64.wrap (j:Int)=(j:Int):=IntWalk.i64_in _ ae;have hj2:((j:Int)+1<=(j:Int))=False:=eq_false ae;clear hj hf1 hf2;go_enter func137,ntmps137;go_upto_region 8 with (first
    | ((with_reducible refine(HA1.out).mono ?_);rintro e w1 ⟨rfl,v1,hR1,hB1,hS1⟩;obtain⟨g,cap1,rfl⟩:=hR1.aj0 (j:=j) (by rw[CR.tH,aDd,HJ.out];rfl);have Bo:=zq hR1;have nY:=zq hB1;have N9:=zq hS1;have HGL:=zq hR1.box.lt;clear c0 c1 c2;obtain⟨⟨c0,c1,c2⟩,_⟩:=(um.out.but hB1 HGF.out).three;clear hR1 hB1 hS1))
   have HBK:Hid (∀u,But [gr,g] w1 u->But (gr::foot v) w0 u):=zq λu hb1=>nY.out.trans hb1 λx hx=>by exact aHi
   have HBW:Hid (∀u,But [gr,g] w1 u->Bx 161 w.heap.size #[.string ⟨a.1.toArray⟩,.string ⟨#[109,97,120]⟩,.string ⟨a.2.2.toArray⟩] u):=zq λu hb1=>um.out.but (HBK.out u hb1) HGF.out;exact aFk
  obtain rfl:f2=[109,105,110]:=by simpa using hmn
  simp only[aDq,aDU,aDL,Bool.true_or];obtain⟨j,hj⟩:∃j,r.cols.length=j:=⟨_,rfl⟩
  have HJ:=zq hj;obtain⟨y1,s1,hf1,hf2⟩:=CR.VO r ⟨a.1.toArray⟩ 1 (gQ kid ⟨a.2.2.toArray⟩) kid ⟨a.2.2.toArray⟩;have HF1:=zq hf1;have XH:=zq hf2;have hjl:j<=100000:=hj▸hl;have hj1:IntKind.i64.wrap (j:Int)=(j:Int):=IntWalk.i64_in _ ae;have hj2:((j:Int)+1<=(j:Int))=False:=eq_false ae;clear hj hf1 hf2;go_enter func137,ntmps137;go_upto_region 8 with (first
   | ((with_reducible refine(HA1.out).mono ?_);rintro e w1 ⟨rfl,v1,hR1,hB1,hS1⟩;obtain⟨g,cap1,rfl⟩:=hR1.aj0 (j:=j) (by rw[CR.tH,aDd,HJ.out];rfl);have Bo:=zq hR1;have nY:=zq hB1;have N9:=zq hS1;have HGL:=zq hR1.box.lt;clear c0 c1 c2;obtain⟨⟨c0,c1,c2⟩,_⟩:=(um.out.but hB1 HGF.out).three;clear hR1 hB1 hS1))
  have HBK:Hid (∀u,But [gr,g] w1 u->But (gr::foot v) w0 u):=zq λu hb1=>nY.out.trans hb1 λx hx=>by exact aHi
  have HBW:Hid (∀u,But [gr,g] w1 u->Bx 161 w.heap.size #[.string ⟨a.1.toArray⟩,.string ⟨#[109,105,110]⟩,.string ⟨a.2.2.toArray⟩] u):=zq λu hb1=>um.out.but (HBK.out u hb1) HGF.out;exact aFk
 obtain rfl:f2=[115,117,109]:=by simpa using hsm
 simp only[aDL];by_cases hk:gQ kid ⟨a.2.2.toArray⟩=1
 ·rw[if_pos hk];rw[hk]at HFF;go_enter func137,ntmps137
  go_wp2_with (first
   | ((with_reducible refine(HA1.out).mono ?_);rintro e w1 ⟨rfl,v1,hR1,hB1,hS1⟩;have Bo:=zq hR1;have nY:=zq hB1;have N9:=zq hS1;clear c0 c1 c2;obtain⟨⟨c0,c1,c2⟩,_⟩:=(um.out.but hB1 HGF.out).three;have HF3:=zq (HFF.out _ _ hR1 hB1);clear hR1 hB1 hS1)
   | ((with_reducible refine(HF3.out).mono ?_);rintro e w2 ⟨rfl,hR2,hB2⟩))
  go_end0;exact⟨rfl,v1,hR2,(But.aU cO.out).then (nY.out.then (hB2.wide λk hk=>.inl (by simp at hk;subst hk;exact aC' ..))),λg hg=>(N9.out g hg).imp_right λh=>aDr cO.out.size h⟩
 rw[if_neg hk];have hkb:(gQ kid ⟨a.2.2.toArray⟩==1)=false:=aC7.2 hk;have hkn:(gQ kid ⟨a.2.2.toArray⟩ !=1)=true:=by simp[hk]
 go_enter func137,ntmps137
 go_wp2_with (first
  | ((with_reducible refine(HA1.out).mono ?_);rintro e w1 ⟨rfl,v1,hR1,hB1,hS1⟩;have Bo:=zq hR1;have nY:=zq hB1;have N9:=zq hS1;clear c0 c1 c2;obtain⟨⟨c0,c1,c2⟩,_⟩:=(um.out.but hB1 HGF.out).three;have HF3:=zq (HFF.out _ _ hR1 hB1);clear hR1 hB1 hS1)
  | ((with_reducible refine(HF3.out).mono ?_);rintro e w2 ⟨rfl,hR2,hB2⟩;have Ht:=zq hR2;have N8:=zq (nY.out.then (hB2.wide λk hk=>.inl (by simp at hk;subst hk;exact aC' ..)));clear c0 c1 c2;obtain⟨⟨c0,c1,c2⟩,_⟩:=(um.out.but N8.out HGF.out).three;have HF4:=zq (HFW.out _ _ hR2);clear hR2 hB2)
  | ((with_reducible refine(HF4.out).mono ?_);rintro e w3 ⟨rfl,hR3,sK⟩))
 go_end0;exact⟨rfl,v1,hR3,(But.aU cO.out).then (N8.out.then (sK.wide λk hk=>.inl (by simp at hk;subst hk;exact aC' ..))),λg hg=>(N9.out g hg).imp_right λh=>aDr cO.out.size h⟩
theorem Tryz.jR:(Tryz.prog.info? 93).map (·.size)=some 3:=ah
def nI(base:Nat)(va:au)(r:CR)(w:ak)(e:Ending)(w':ak):Prop:=∃v,e=.returned (.agg #[v,↑r.why,.string r.name])/\Ow 82 2 jY base w' v r.cols/\But (foot va) w w'/\dE w va v
theorem wI{w w0 wl:ak}{gr g base:Nat}{r:CR}{va v c0 c1 c2:au}(hE:Ev w w0)(hB:Bx 93 g #[c0,c1,c2] w0)(h:iW gr base r v wl)(hb:But (gr::foot va) w0 wl)(hS:dE w0 va v)(hva:∀k∈foot va,k<w.heap.size)(hg:w.heap.size<=g)(hgr:w.heap.size<=gr)(hne:g≠gr):
  Bx 93 g #[v,↑r.why,.string r.name] (kL g v ↑r.why (.string r.name) wl)/\nI base va r w (.returned (.agg #[v,↑r.why,.string r.name])) (kL g v ↑r.why (.string r.name) wl):=by
 have hgl:=hB.lt;have hga:g∉gr::foot va:=λhm=>by rcases aDg.1 hm with e|e;exact hne e;have:=hva g e;omega
 have hgv:g∉foot v:=λhm=>by rcases hS g (aG.1 hm) with h1|h1;have:=hva g (aG.2 h1);omega;omega
 have Oq:=bP g v ↑r.why (.string r.name) wl;refine⟨(hB.but hb hga).kL _ _ _,v,rfl,h.own.but Oq λk hk=>by simp;intro e;exact hgv (aG.2 (e▸hk)),?_,λk hk=>(hS k hk).imp_right λh1=>aDr hE.size h1⟩;have h1:But (foot va) w wl:=(But.aU hE).trans hb λx hx=>by rcases aDg.1 hx with rfl|hx;exact .inr hgr;exact .inl hx
 exact h1.trans Oq λx hx=>by simp at hx;subst hx;exact .inr hg
theorem iW.new{w:ak}{base:Nat}{v:au}{l:List C}(h:Ow 82 2 jY base w v l)(hv:∀k∈foot v,k<w.heap.size):iW w.heap.size base (CR.of l) v (w.alloc (.cells #[v,.int .i64 0,.string ⟨#[]⟩] 93)):=
 ⟨Bx.new _ _ _,h.ev aC,λhm=>by have:=hv _ hm;omega⟩
theorem wZ{w:ak}{base:Nat}{v:au}{l:List C}(h:Ow 82 2 jY base w v l):∀k∈foot v,k<w.heap.size:=λk hk=>(h.lt (aG.1 hk)).2
theorem RY(w:ak)(T1:TypeId)(cs:Array au):∃w0,(w.alloc (.cells cs T1)).alloc (.cells ↑Zz.d 93)=w0/\Ev w w0/\Bx T1 w.heap.size cs w0/\Bx 93 (w.heap.size+1) ↑Zz.d w0/\w0.heap.size=w.heap.size+2:=by
 have hB:Bx 93 (w.heap.size+1) ↑Zz.d ((w.alloc (.cells cs T1)).alloc (.cells ↑Zz.d 93)):=by have:=Bx.new 93 ↑Zz.d (w.alloc (.cells cs T1));simpa using this
 exact⟨_,rfl,(Ev.alloc w _).trans aC,(Bx.new T1 cs w).ev aC,hB,aj⟩
theorem afd(d:DM)(nm:By)(gb:Nat)(w:ak)(hB:w.cell? ⟨gb,0,none⟩=some ↑nm)(hlt:gb<w.heap.size):
  Calls ax 130 #[.agg #[↑d.name,.slice d.A d.cols.length d.cap],.pointer ↑gb] w λe w'=>e=.returned (.bool (d.name==nm))/\Ev w w':=by
 have hE:=Ev.alloc w (.cells #[↑d.name,.slice d.A d.cols.length d.cap] 97);have hX:=Bx.new 97 #[↑d.name,.slice d.A d.cols.length d.cap] w;have c0:=hX.cell 0;have c0:(w.alloc (.cells #[↑d.name,.slice d.A d.cols.length d.cap] 97)).cell? ⟨↑w,0,none⟩=some ↑d.name:=c0;have n0:=(hE.cell (p:=⟨gb,0,none⟩) hlt).trans hB;have HE:=zq hE;clear hX hE;go_enter func130,ntmps130;go_wp2;go_ret;exact⟨rfl,HE.out⟩
abbrev alI(gb:Nat):au:=.func (.func 130) #[] #[.pointer ↑gb]
def ixD(l:List DM)(nm:By):Int:=match l.findIdx? (λd=>d.name==nm) with|some i=>(i:Int)|none=>-1
theorem aGA(h:U:=by
 clear ht
 go_wp2_with (first
  | ((with_reducible refine(EY.out _ HE.out).mono ?_);rintro e w1 ⟨rfl,aJ⟩;have E1:=zq (HE.out.trans aJ);clear aJ))
 go_roundw
 case rel=>exact⟨k+1,ae,by go_num,HF,E1⟩
 case measure=>simp[intOf];omega):U:=h
theorem aFL(h:U:=by
 rw[ht]at EY;have EY:=zq EY;have HF:Hid (∀i d,i<k+1->l[i]?=some d->(d.name==nm)=false):=zq (λi d' hi W9=>by
  by_cases hik:i<k;exact HT.out i d' hik W9;obtain rfl:i=k:=ae;rw[HD.out]at W9;obtain rfl:=aDp W9;exact ht)
 exact aGA):U:=h
theorem aH0(h:U:=by rw[aD6];obtain⟨hk2,rfl⟩:=aC6.1 HD.out;exact⟨hk2,ht,λj hj=>by simp[HT.out j _ hj (aDo ae)]⟩):U:=h
theorem aGV(h:U:=by
 clear ht
 go_wp2_with (first
  | ((with_reducible refine(EY.out _ HE.out).mono ?_);rintro e w1 ⟨rfl,aJ⟩;have E1:=zq (HE.out.trans aJ);clear aJ))
 go_ret;exact⟨by rw[HF.out];rfl,E1.out⟩):U:=h
theorem aHS(h:U:=by rw[aEA];intro d hd;obtain⟨i,hi,e⟩:=aEN hd;exact HT.out i d (by rw[<-HN.out];exact hi) (by rw[aDo hi,e])):U:=h
theorem RZ{A:Option Addr}{n cap:Nat}{l:List DM}(nm:By)(gb:Nat)(w:ak)(h:yH w A n cap l)(hB:w.cell? ⟨gb,0,none⟩=some ↑nm)(hlt:gb<w.heap.size):
  Calls ax 129 #[.slice A n cap,alI gb] w λe w'=>e=.returned (.int .i64 (ixD l nm))/\Ev w w':=by
 have hn:=h.sl.le;have hm:=h.sl.max;have HN:=zq h.sl.len;have H:=zq h;have HC:=zq (λd w1 (hE:Ev w w1)=>afd d nm gb w1 ((hE.cell (p:=⟨gb,0,none⟩) hlt).trans hB) (aDf hlt hE.size));clear h hB;go_enter func129,ntmps129;go_wp2
 go_loopw [8] (λi wr=>∃k:Nat,k<=n/\i=↑k/\Hid (∀i d,i<k->l[i]?=some d->(d.name==nm)=false)/\Hid (Ev w wr)) (λi _=>n-(intOf i).toNat)
 case atStart=>exact⟨0,aDl _,rfl,zq (λi d hi=>by omega),zq aS⟩
 case round=>
  obtain⟨k,hk,rfl,HT,HE⟩:=hrel;by_cases hlk:k<n;obtain⟨d,hd⟩:=H.out.sl.at hlk;obtain⟨b,off,rfl,hb,c0,c1⟩:=(H.out.ev HE.out).cell hd;have HD:=zq hd;have i1:(0:Int)<=(k:Int):=ae;have i2:(k:Int)<(n:Int):=ae;have EY:=HC.out d;clear hd
  cases ht:(d.name==nm)
  exact aFL;rw[ht]at EY;have EY:=zq EY;have HF:Hid (ixD l nm=(k:Int)):=zq (by
   have h1:l.findIdx? (λd=>d.name==nm)=some k:=by exact aH0
   unfold ixD;rw[h1])
  exact aGV;obtain rfl:k=n:=ae;have HF:Hid (ixD l nm=-1):=zq (by
   have h1:l.findIdx? (λd=>d.name==nm)=none:=by exact aHS
   unfold ixD;rw[h1])
  go_wp2;go_ret;exact⟨by rw[HF.out];rfl,HE.out⟩
theorem YH(l:List DM)(nm:By):(ixD l nm=-1/\xM (l.map DM.df) nm=CR.zero.fail 20 (dV nm))∨∃(i:Nat) (d:DM),l[i]?=some d/\ixD l nm=(i:Int)/\xM (l.map DM.df) nm=CR.of d.cols:=by
 unfold ixD xM;cases h:l.findIdx? (λd=>d.name==nm) with
 | none=>
  left;refine⟨rfl,?_⟩;rw[aEA]at h;rw[show (l.map DM.df).find? (λd=>d.1==nm)=none by
   rw[List.find?_eq_none];intro x hx;obtain⟨d,hd,rfl⟩:=aDz.1 hx;simpa[DM.df] using h d hd]
 | some i=>
  right;obtain⟨hi,h1,h2⟩:=aD6.1 h;refine⟨i,l[i],aDo hi,rfl,?_⟩;rw[show (l.map DM.df).find? (λd=>d.1==nm)=some (l[i]).df by
   rw[List.find?_eq_some_iff_getElem];refine⟨by simpa[DM.df] using h1,i,by simpa using hi,aj,λj hj=>?_⟩;have:=h2 j hj;simpa[DM.df] using this]
  rfl
theorem Nk{A:Option Addr}{n cap:Nat}{l:List C}(w:ak)(h:Cs w A n cap l)(hl:l.length<=100000)(h0:0<l.length):
  Calls ax 42 #[.slice A n cap] w λe w'=>∃v,e=.returned v/\Ow 82 2 jY w.heap.size w' v l/\Ev w w':=by
 have q22:∀(w:ak) (a:Option Addr) (n c n' c':Nat),(binOp .eql 38 (.slice a n c) (.slice none n' c')).run ax w=.ok (.bool a.isNone) w:=λw a n c n' c'=>Lib.run_eql_slice_nil w 38 82 a n c n' c' underlying38;obtain⟨b,off,rfl,_,_⟩:=h.rd (by rw[<-h.len];exact h0);have hE:kE 82 w.heap.size (.slice ↑w 0 0) (w.alloc (.cells #[] 82)):=kE.new (aC8 _);go_enter func42,ntmps42
 go_wp2_with (at_builtin;refine uJ (o:=⟨some 7,_,_,_,_,_⟩) rfl 38 (.tmp 5) (.tmp 6) rfl rD underlying38 Tryz.Rn rfl rfl hE ↑(b,off) n cap l rfl (h.ev aC) ae ae aj ?_;intro v1 w1 hO1 aJ)
 go_ret;exact⟨v1,rfl,hO1,aC.trans aJ⟩
theorem Ow.VP{α:Type}{et:TypeId}{k:Nat}{enc:α->List au}{base Nl:Nat}{w:ak}{v:au}{Z:List α}(h:Ow et k enc base w v Z)(hb:Nl<=base):Ow et k enc Nl w v Z:=by
 refine⟨h.1,?_⟩;rcases h.2 with h2|⟨g,cap,cur,rfl,hg,hh,r⟩
 exact .inl h2;exact .inr ⟨g,cap,cur,rfl,aDr hb hg,hh,r⟩
theorem aIg(h:U:=by refine aFe (aZ rfl _ _ _ _ _ rfl f1 underlying93 rfl Tryz.jR) rfl ?_;exact f2):U:=h
theorem afe(l:List DM)(A:Option Addr)(n cap:Nat)(nm:By)(w:ak)(h:yH w A n cap l)(hD:∀d∈l,0<d.cols.length/\d.cols.length<=6):
  Calls ax 73 #[↑nm,.slice A n cap] w (nI w.heap.size ↑() (xM (l.map DM.df) nm) w):=by
 have hmf:∀(fn:Fn) (first cap:Array au) (w:ak),(Instr.makeFunc fn first cap).run ax w=.ok (.func fn first cap) w:=λ_ _ _ _=>rfl;obtain⟨w0,hw0,aV,hBn,hBr,hs0⟩:=RY w 9 #[↑nm];have aJ:=Ev.alloc w0 (.cells ↑Zz.d 93);have hB2:=Bx.new 93 ↑Zz.d w0;have KO:(w0.alloc (.cells ↑Zz.d 93)).cell? ⟨↑w,0,none⟩=some ↑nm:=(hBn.ev aJ).cell 0;have HI:=zq (RZ nm w.heap.size _ (h.ev (aV.trans aJ)) KO (by simp;omega));have HBN:=zq (hBn.ev aJ);have uk:=zq (hBr.ev aJ);have N8:=zq hB2;have cO:=zq (aV.trans aJ);have rE:=zq hs0;have hle:=h.sl.le;have hmx:=h.sl.max;have H:=zq h;have vU:=zq h.sl.len;have HD:=zq hD;have hR0:iW w0.heap.size w.heap.size CR.zero ↑() (w0.alloc (.cells ↑Zz.d 93)):=⟨hB2,Ow.nil_ _,λhm=>by cases hm⟩
 have HF:=zq (λw2 (hE:Ev _ w2)=>uP w0.heap.size w.heap.size CR.zero ↑() 20 ⟨nm.toArray⟩ w2 (hR0.ev hE));clear h aV aJ hBn hBr hB2 hs0 hR0 hD KO;have HVA:Hid (∀k∈foot ↑(),k<w.heap.size):=zq λk hk=>by cases hk
 rcases YH l nm with⟨h1,h2⟩|⟨i,d,hd,h1,h2⟩
 ·rw[h1]at HI;rw[h2];unfold dV;have n0:=HBN.out.cell 0;have n0:(w0.alloc (.cells ↑Zz.d 93)).cell? ⟨↑w,0,none⟩=some ↑nm:=n0;clear h1 h2;go_enter func73,ntmps73
  go_wp2_with (first
   | ((with_reducible refine(HI.out).mono ?_);rintro e w1 ⟨rfl,aJ⟩;have E1:=zq aJ;clear n0;have n0:=(HBN.out.ev aJ).cell 0;have n0:w1.cell? ⟨↑w,0,none⟩=some ↑nm:=n0;clear aJ)
   | ((with_reducible refine(HF.out _ E1.out).mono ?_);rintro e w2 ⟨rfl,hR2,hB2⟩;have Ht:=zq hR2;have HBB:=zq ((But.aU E1.out).then hB2);obtain⟨⟨d0,d1,d2⟩,_⟩:=hR2.box.three;obtain⟨⟨q0,q1,q2⟩,z0,z1,z2⟩:=(uk.out.but ((But.aU E1.out).then hB2) (by have:=rE.out;simp;omega)).three;clear hR2 hB2))
  (try simp only[Exit.inBlock,Exit.then]);rw[bM];obtain⟨f1,f2⟩:=wI cO.out uk.out Ht.out (HBB.out.wide λk hk=>.inl (by simp at hk;subst hk;exact aC' ..)) (λg hg=>.inl hg) HVA.out ae (by have:=rE.out;omega) (by have:=rE.out;omega);exact aIg
 rw[h1]at HI;rw[h2];have hdl:=HD.out d (aDb hd);obtain⟨b,off,hA,hb,_⟩:=H.out.cell hd;have HDC:=zq (λw1 (hE:Ev w w1)=>H.out.ev hE |>.cell hd);have HCL:=zq (λw1 (hE:Ev w w1)=>Nk w1 ((H.out.cols d (aDb hd)).ev hE) ae hdl.1);have hin:i<n:=by rw[<-vU.out];exact(aC6.1 hd).1
 have i0:¬((i:Int)<0):=ae;have i1:(0:Int)<=(i:Int):=ae;have i2:(i:Int)<(n:Int):=ae;subst hA;clear h1 h2 hd hdl;obtain⟨dl,hdl⟩:∃dl,dl=d.cols.length:=⟨_,rfl⟩
 rw[<-hdl]at HDC HCL;clear hdl;have uC:w.heap.size+1≠w0.heap.size:=by have:=rE.out;omega
 have hn2:w0.heap.size≠w.heap.size+1:=by have:=rE.out;omega
 go_enter func73,ntmps73
 go_wp2_with (first
  | ((with_reducible refine(HI.out).mono ?_);rintro e w1 ⟨rfl,aJ⟩;have E1:=zq aJ;obtain⟨b',off',hbe,_,k0,k1⟩:=HDC.out _ (cO.out.trans aJ);injection hbe with hbe;injection hbe with e1 e2 _;subst e1 e2;clear aJ)
  | ((with_reducible refine(HCL.out _ (cO.out.trans E1.out)).mono ?_);rintro e w2 ⟨v1,rfl,hO,dJ⟩;obtain⟨A1,cap1,rfl,zB,zC⟩:=hO.form rD;clear zB zC;have E2:=zq (E1.out.trans dJ);have HO:=zq (Ow.VP hO (cO.out.trans E1.out).size);have HOL:=zq (λk hk=>(hO.lt (aG.1 hk)).1:∀k∈foot (.slice A1 d.cols.length cap1),w1.heap.size<=k);obtain⟨⟨d0,d1,d2⟩,g0,g1,g2⟩:=(N8.out.ev (E1.out.trans dJ)).three;obtain⟨⟨q0,q1,q2⟩,z0,z1,z2⟩:=(uk.out.ev (E1.out.trans dJ)).three;clear dJ hO))
 (try simp only[Exit.inBlock,Exit.then]);have hbu:But [w0.heap.size] w2 (w2.setCell ⟨↑w0,0,none⟩ (.slice A1 d.cols.length cap1)):=But.setCell _ _ aj;have hsz:w0.heap.size+1<=w1.heap.size:=by have:=E1.out.size;simp at this;omega
 have hRR:iW w0.heap.size w.heap.size (CR.of d.cols) (.slice A1 d.cols.length cap1) (w2.setCell ⟨↑w0,0,none⟩ (.slice A1 d.cols.length cap1)):=⟨by have:=(N8.out.ev E2.out).set 0 (.slice A1 d.cols.length cap1);exact(by simpa using this:Bx 93 w0.heap.size #[.slice A1 d.cols.length cap1,.int .i64 0,.string ⟨#[]⟩] _),HO.out.but hbu λg hg=>by have:=HOL.out g (aG.2 hg);simp;omega,λhm=>by have:=HOL.out _ hm;omega⟩
 rw[bM];obtain⟨f1,f2⟩:=wI (va:=↑()) cO.out uk.out hRR (((But.aU E2.out).then hbu).wide λk hk=>.inl (by simp at hk;subst hk;exact aC' ..)) (λg hg=>.inr (by have:=HOL.out g (aG.2 hg);have:=E1.out.size;omega)) HVA.out ae (by have:=rE.out;omega) (by have:=rE.out;omega);exact aIg
theorem alK(w:ak):∃w0,w.alloc (.cells ↑Zz.d 93)=w0/\Ev w w0/\Bx 93 w.heap.size ↑Zz.d w0/\w0.heap.size=w.heap.size+1:=⟨_,rfl,Ev.alloc _ _,Bx.new _ _ _,aj⟩
theorem aac{l:List C}{i:Nat}{c d:C}(h:l[i]?=some c):l.getD i d=c:=by rw[aEx,h];rfl
theorem afg(base:Nat)(va:au)(a b:List C)(B:Option Addr)(m alL:Nat)(w:ak)(h:Ow 82 2 jY base w va a)(hb:Cs w B m alL b)(hbl:∀ad,B=some ad->ad.block<w.heap.size):
  Calls ax 77 #[va,.slice B m alL] w (nI base va (Ar a b) w):=by
 obtain⟨A,cap,rfl,hC,I7⟩:∃A cap,va=.slice A a.length cap/\Cs w A a.length cap a/\∀ad,A=some ad->ad.block<w.heap.size:=by obtain⟨A,cap,hv,hS,hA⟩:=h.form rD;exact⟨A,cap,hv,hS,λad e=>(hA ad e).2.2.1⟩
 have hva:=wZ h;have hbn:=hb.len;have hle:=hC.le;have hmx:=hC.max;have asH:=hb.le;have at1:=hb.max;obtain⟨w0,hw0,aV,hBr,hs0⟩:=alK w;have hR0:=iW.new (h.ev aV) (λk hk=>by have:=hva k hk;omega);obtain⟨wa,hwa⟩:∃wa,wa=w0.alloc (.cells #[.slice A a.length cap,.int .i64 0,.string ⟨#[]⟩] 93):=⟨_,rfl⟩
 have aJ:Ev w0 wa:=by rw[hwa];exact Ev.alloc _ _
 rw[<-hwa]at hR0;have HR0:=zq hR0;have uk:=zq (hBr.ev aJ);have HEA:=zq (aV.trans aJ);have HVA:=zq hva;have hS0:w0.heap.size=w.heap.size+1:=hs0;have rE:=zq hS0;have GL:Hid (∀w1,But [w0.heap.size] wa w1->Cs w1 A a.length cap a):=zq λw1 hb1=>(hC.ev (aV.trans aJ)).but hb1 λad e=>by have:=I7 ad e;simp;omega
 have Dl:Hid (∀w1,But [w0.heap.size] wa w1->Cs w1 B m alL b):=zq λw1 hb1=>(hb.ev (aV.trans aJ)).but hb1 λad e=>by have:=hbl ad e;simp;omega
 have HFL:=zq (λr nm w1 (hR:iW w0.heap.size base r (.slice A a.length cap) w1)=>uP w0.heap.size base r (.slice A a.length cap) 22 nm w1 hR);have HF0:=zq (uP w0.heap.size base (CR.of a) (.slice A a.length cap) 23 ⟨#[]⟩ wa hR0);have HU:Hid (Ar a b=if a.length=m then (List.range a.length).foldl (xN a b) (CR.of a) else (CR.of a).fail 23 ⟨#[]⟩):=zq (by unfold Ar;rw[hbn]);rw[HU.out];obtain⟨n,hn⟩:∃n,n=a.length:=⟨_,rfl⟩
 rw[<-hn]at hle;rw[<-hn]at hwa HR0 GL HFL HF0 HVA|-;clear h hb hC hR0 hBr aV aJ hva hs0 hS0 hn hbn I7 hbl;by_cases hm:n=m
 ·subst hm;rw[if_pos rfl];go_enter func77,ntmps77;go_upto_region 5 with fail
  rw[<-hwa];clear hwa;go_wp2
  go_loopw [19] (λiv wr=>∃k:Nat,iv=↑k/\k<=n/\Hid (iW w0.heap.size base ((List.range k).foldl (xN a b) (CR.of a)) (.slice A n cap) wr)/\Hid (But [w0.heap.size] wa wr)) (λiv _=>n-(intOf iv).toNat)
  case atStart=>exact⟨0,rfl,aDl _,HR0,zq (But.refl _ _)⟩
  case round=>
   obtain⟨k,rfl,hk,HR,HB⟩:=hrel;by_cases hlt:k<n
   ·obtain⟨c,hc⟩:=(GL.out wr HB.out).at hlt;obtain⟨d,hd⟩:=(Dl.out wr HB.out).at hlt;obtain⟨ba,oa,rfl,ka0,ka1⟩:=Cs.tC (GL.out wr HB.out) hc;obtain⟨bb,ob,rfl,kb0,kb1⟩:=Cs.tC (Dl.out wr HB.out) hd;obtain⟨_,_,e1,hba,_⟩:=(GL.out wr HB.out).rd ae;injection e1 with e1
    injection e1 with e1 e2 _
    subst e1 e2;obtain⟨_,_,e1,Zt,_⟩:=(Dl.out wr HB.out).rd ae;injection e1 with e1
    injection e1 with e1 e2 _
    subst e1 e2;have i1:(0:Int)<=(k:Int):=ae;have i2:(k:Int)<(n:Int):=ae;have hBC:=Bx.new 82 #[.string c.1,.int .i64 c.2] wr;have hstep:(List.range (k+1)).foldl (xN a b) (CR.of a)=if c.2=d.2 then (List.range k).foldl (xN a b) (CR.of a) else ((List.range k).foldl (xN a b) (CR.of a)).fail 22 c.1:=by rw[Ib];unfold xN;rw[aac hc,aac hd]
    have HST:=zq hstep;have hgr:=HR.out.box.lt;have HBC:=zq hBC;have c1:=hBC.cell 1;have c1:(wr.alloc (.cells #[.string c.1,.int .i64 c.2] 82)).cell? ⟨wr.heap.size,1,none⟩=some (.int .i64 c.2):=c1;clear hc hd hstep hBC;go_upto_region 8 with fail
    go_quiet (fail)
    generalize hwq:World.drewN _ _=wq;have hEQ:Ev (wr.alloc (.cells #[.string c.1,.int .i64 c.2] 82)) wq:=hwq▸Ev.drewN _ _;have HEQ:=zq (aC.trans hEQ);have n0:=(HBC.out.ev hEQ).cell 0;have n0:wq.cell? ⟨↑wr,0,none⟩=some (.string c.1):=n0;clear hwq hEQ c1 ka0 ka1 kb0 kb1;by_cases Kr:c.2=d.2
    ·have hb1:(c.2==d.2)=true:=by simp[Kr]
     have hb2:(c.2 !=d.2)=false:=by simp[Kr]
     have HKK:=zq Kr;clear Kr;go_wp2;go_roundw
     case rel=>exact⟨k+1,by go_num,ae,zq (by rw[HST.out,if_pos HKK.out];exact HR.out.ev HEQ.out),zq (HB.out.then (But.aU HEQ.out))⟩
     case measure=>simp[intOf];omega
    have hb1:(c.2==d.2)=false:=aC7.2 Kr;have hb2:(c.2 !=d.2)=true:=by simp[Kr]
    have HKK:=zq Kr;clear Kr;have HF1:=zq (HFL.out _ c.1 _ (HR.out.ev HEQ.out))
    go_wp2_with (first
     | ((with_reducible refine(HF1.out).mono ?_);rintro e w2 ⟨rfl,hR2,hB2⟩;have Ht:=zq hR2;have N8:=zq hB2;clear hR2 hB2))
    go_roundw
    case rel=>exact⟨k+1,by go_num,ae,zq (by rw[HST.out,if_neg HKK.out];exact Ht.out),zq ((HB.out.then (But.aU HEQ.out)).then N8.out)⟩
    case measure=>simp[intOf];omega
   obtain rfl:k=n:=ae;have ao7:=uk.out.but HB.out (by have:=rE.out;simp;omega);obtain⟨⟨d0,d1,d2⟩,_⟩:=HR.out.box.three;obtain⟨⟨g0,g1,g2⟩,z0,z1,z2⟩:=ao7.three;clear ao7;go_wp2;(try simp only[Exit.inBlock,Exit.then]);rw[bM];obtain⟨f1,f2⟩:=wI HEA.out uk.out HR.out (HB.out.wide λk hk=>.inl (by simp at hk;subst hk;exact aC' ..)) (λg hg=>.inl hg) HVA.out ae (by have:=rE.out;omega) (by have:=rE.out;omega);exact aIg
 rw[if_neg hm];have i1:¬((n:Int)=(m:Int)):=ae;have i2:((n:Int)==(m:Int))=false:=aC7.2 i1;have i3:((n:Int) !=(m:Int))=true:=by simp;omega
 have i4:(n==m)=false:=aC7.2 hm;have i5:(n !=m)=true:=by simp[hm]
 go_enter func77,ntmps77;go_upto_region 2 with fail
 rw[<-hwa];clear hwa
 go_wp2_with (first
  | ((with_reducible refine(HF0.out).mono ?_);rintro e w2 ⟨rfl,hR2,hB2⟩;have Ht:=zq hR2;have N8:=zq hB2;obtain⟨⟨d0,d1,d2⟩,_⟩:=hR2.box.three;obtain⟨⟨g0,g1,g2⟩,z0,z1,z2⟩:=(uk.out.but hB2 (by have:=rE.out;simp;omega)).three;clear hR2 hB2))
 (try simp only[Exit.inBlock,Exit.then]);rw[bM];obtain⟨f1,f2⟩:=wI HEA.out uk.out Ht.out (N8.out.wide λk hk=>.inl (by simp at hk;subst hk;exact aC' ..)) (λg hg=>.inl hg) HVA.out ae (by have:=rE.out;omega) (by have:=rE.out;omega);exact aIg
def gJ(R:aem)(w:ak)(e:Ending)(w':ak):Prop:=∃m:PM,e=.returned (.tuple #[.agg ↑m,.int .i64 R.2.1,.int .i64 (R.2.2:Int)])/\m.p=R.1/\Qx w.heap.size [] w' m/\Ev w w'
theorem SA(w:ak):∃w0,w.alloc (.cells ↑Zz.b 35)=w0/\Ev w w0/\Bx 35 w.heap.size ↑Zz.b w0/\w0.heap.size=w.heap.size+1:=⟨_,rfl,Ev.alloc _ _,Bx.new _ _ _,aj⟩
theorem apa(w:ak)(c0 c1 c2 c3 c4:au):∃w2,(w.alloc (.cells #[c0,c1,c2,c3,c4] 186)).alloc (.cells #[.int .i64 0,.int .i64 0] 191)=w2/\Ev w w2/\Bx 186 w.heap.size #[c0,c1,c2,c3,c4] w2/\Rb (w.heap.size+1) (0,0) w2/\w2.heap.size=w.heap.size+2:=by have hB:=Bx.new 191 #[.int .i64 0,.int .i64 0] (w.alloc (.cells #[c0,c1,c2,c3,c4] 186));rw[show (w.alloc (.cells #[c0,c1,c2,c3,c4] 186)).heap.size=w.heap.size+1 by simp]at hB;exact⟨_,rfl,(Ev.alloc w _).trans aC,(Bx.new 186 #[c0,c1,c2,c3,c4] w).ev aC,hB,aj⟩
theorem aij(w:ak)(c0 c1 c2 c3 c4 c5 c6 c7:au):∃w4,w.alloc (.cells #[c0,c1,c2,c3,c4,c5,c6,c7] 35)=w4/\Ev w w4/\Bx 35 w.heap.size #[c0,c1,c2,c3,c4,c5,c6,c7] w4:=⟨_,rfl,Ev.alloc _ _,Bx.new _ _ _⟩
theorem apb(e:Er):((iy (0,0) e).1=0↔e.1=0)/\(e.1≠0->iy (0,0) e=e):=by unfold iy;by_cases h:e.1=0;simp[h];simp[h]
theorem aGv(h:U:=by
 have i1:(0:Int)<=(k:Int):=ae;have i2:(k:Int)<(n:Int):=ae;clear hx hc hc';go_upto_region 6 with fail
 go_region
 all_goals (
  go_wp2;go_roundw
  case rel=>exact⟨k+1,by go_num,ae,zq (HE.out.trans (Ev.drew _))⟩
  case measure=>simp[intOf];omega)):U:=h
theorem Nr(l:List By)(A A':Option Addr)(n cap cap':Nat)(w:ak)(h:Ss w A n cap l)(h':Ss w A' n cap' l)(hn:n<=100000):
  Calls ax 126 #[.slice A n cap,.slice A' n cap'] w λe w'=>e=.returned (.bool true)/\Ev w w':=by
 have H:=zq h;have H':=zq h';have cO:=zq (Ev.refl w);clear h h';go_enter func126,ntmps126;go_wp2
 go_loopw [13] (λiv wr=>∃k:Nat,iv=↑k/\k<=n/\Hid (Ev w wr)) (λiv _=>n-(intOf iv).toNat)
 case atStart=>exact⟨0,rfl,aDl _,cO⟩
 case round=>
  obtain⟨k,rfl,hk,HE⟩:=hrel;by_cases hlt:k<n;obtain⟨x,hx⟩:=H.out.at hlt;obtain⟨b,off,rfl,hb,hc⟩:=(H.out.ev HE.out).rd ae;obtain⟨b',off',rfl,hb',hc'⟩:=(H'.out.ev HE.out).rd ae;have c0:=hc k x hx 0 _ rfl;have d0:=hc' k x hx 0 _ rfl;simp only[aED,aDw]at c0 d0;exact aGv;obtain rfl:k=n:=ae;go_wp2;go_ret;exact⟨rfl,HE.out⟩
theorem aik(l:List Ag)(A A':Option Addr)(n cap cap':Nat)(w:ak)(h:Sl 3 ac w A n cap l)(h':Sl 3 ac w A' n cap' l)(hn:n<=100000):
  Calls ax 127 #[.slice A n cap,.slice A' n cap'] w λe w'=>e=.returned (.bool true)/\Ev w w':=by
 have H:=zq h;have H':=zq h';have cO:=zq (Ev.refl w);clear h h';go_enter func127,ntmps127;go_wp2
 go_loopw [13] (λiv wr=>∃k:Nat,iv=↑k/\k<=n/\Hid (Ev w wr)) (λiv _=>n-(intOf iv).toNat)
 case atStart=>exact⟨0,rfl,aDl _,cO⟩
 case round=>
  obtain⟨k,rfl,hk,HE⟩:=hrel;by_cases hlt:k<n;obtain⟨x,hx⟩:=H.out.at hlt;obtain⟨b,off,rfl,hb,hc⟩:=(H.out.ev HE.out).rd ae;obtain⟨b',off',rfl,hb',hc'⟩:=(H'.out.ev HE.out).rd ae;have c0:=hc k x hx 0 _ rfl;have d0:=hc' k x hx 0 _ rfl;have c1:=hc k x hx 1 _ rfl;have d1:=hc' k x hx 1 _ rfl;have c2:=hc k x hx 2 _ rfl;have d2:=hc' k x hx 2 _ rfl;simp only[aDw]at c0 d0;exact aGv;obtain rfl:k=n:=ae;go_wp2;go_ret;exact⟨rfl,HE.out⟩
def Yes(w:ak)(e:Ending)(w':ak):Prop:=e=.returned (.bool true)/\Ev w w'
theorem aGS(h:U:=by
 go_wp2_with (first
  | ((with_reducible refine(HC.out _ I_.out).mono ?_);rintro e w6 ⟨rfl,uK⟩))
 go_roundw
 case rel=>exact⟨k+1,by go_num,ae,zq (I_.out.trans uK)⟩
 case measure=>simp[intOf];omega):U:=h
theorem ab6(X X':List M)(A A':Option Addr)(n cap cap':Nat)(w:ak)(h:Es w A n cap X)(h':Es w A' n cap' X')(hn:n<=100000)(hf:∀(i:Nat) (x x':M),X[i]?=some x->X'[i]?=some x'->∀w1,Ev w w1->Calls ax 125 #[ev_ x,ev_ x'] w1 (Yes w1)):
  Calls ax 124 #[.slice A n cap,.slice A' n cap',.func (.func 125) #[] #[]] w (Yes w):=by
 have hc1:=h.le;have hc2:=h.max;have hc3:=h'.le;have hc4:=h'.max;have H:=zq h;have H':=zq h';have HF:=zq hf;have cO:=zq (Ev.refl w);unfold Yes;clear h h' hf;go_enter func124,ntmps124;go_wp2
 go_loopw [17] (λiv wr=>∃k:Nat,iv=↑k/\k<=n/\Hid (Ev w wr)) (λiv _=>n-(intOf iv).toNat)
 case atStart=>exact⟨0,rfl,aDl _,by first|exact cO|exact zq aC|exact zq (aC.trans aC)⟩
 case round=>
  obtain⟨k,rfl,hk,HE⟩:=hrel;by_cases hlt:k<n;obtain⟨x,hx⟩:=H.out.at hlt;obtain⟨x',hx'⟩:=H'.out.at hlt;obtain⟨b,off,rfl,hb,c0,c1,c2,c3⟩:=Es.cell (H.out.ev HE.out) hx;obtain⟨b',off',rfl,hb',d0,d1,d2,d3⟩:=Es.cell (H'.out.ev HE.out) hx';have HC:=zq (λw1 (hE:Ev w w1)=>HF.out k x x' hx hx' w1 hE);unfold M.kv at c3 d3;unfold ev_ M.kv Yes at HC;obtain⟨w4,hw4,gy,TP⟩:∃w4,wr.alloc (.cells ↑(x,()) 135)=w4/\Ev wr w4/\Bx 135 wr.heap.size ↑(x,()) w4:=⟨_,rfl,Ev.alloc _ _,Bx.new _ _ _⟩
  have e0:=(gy.cell (p:=⟨b',off'+k*4,none⟩) hb').trans d0;have e1:=(gy.cell (p:=⟨b',off'+k*4+1,none⟩) hb').trans d1;have e2:=(gy.cell (p:=⟨b',off'+k*4+2,none⟩) hb').trans d2;have e3:=(gy.cell (p:=⟨b',off'+k*4+3,none⟩) hb').trans d3;obtain⟨w5,uM,qP,yK⟩:∃w5,w4.alloc (.cells ↑(x',()) 135)=w5/\Ev w4 w5/\Bx 135 w4.heap.size ↑(x',()) w5:=⟨_,rfl,Ev.alloc _ _,Bx.new _ _ _⟩
  obtain⟨⟨f0,f1,f2,f3⟩,_⟩:=(TP.ev qP).four;obtain⟨⟨g0,g1,g2,g3⟩,_⟩:=yK.four;have I_:=zq ((HE.out.trans gy).trans qP);have i1:(0:Int)<=(k:Int):=ae;have i2:(k:Int)<(n:Int):=ae;clear hx hx' d0 d1 d2 d3 gy TP qP yK;exact aGS;obtain rfl:k=n:=ae;go_wp2;go_ret;exact⟨rfl,HE.out⟩
theorem ab7(X X':List PM)(A A':Option Addr)(n cap cap':Nat)(w:ak)(h:Ps w A n cap X)(h':Ps w A' n cap' X')(hn:n<=100000)(hf:∀(i:Nat) (x x':PM),X[i]?=some x->X'[i]?=some x'->∀w1,Ev w w1->Calls ax 72 #[pv x,pv x'] w1 (Yes w1)):
  Calls ax 128 #[.slice A n cap,.slice A' n cap',.func (.func 72) #[] #[]] w (Yes w):=by
 have hc1:=h.le;have hc2:=h.max;have hc3:=h'.le;have hc4:=h'.max;have H:=zq h;have H':=zq h';have HF:=zq hf;have cO:=zq (Ev.refl w);unfold Yes;clear h h' hf;go_enter func128,ntmps128;go_wp2
 go_loopw [17] (λiv wr=>∃k:Nat,iv=↑k/\k<=n/\Hid (Ev w wr)) (λiv _=>n-(intOf iv).toNat)
 case atStart=>exact⟨0,rfl,aDl _,cO⟩
 case round=>
  obtain⟨k,rfl,hk,HE⟩:=hrel;by_cases hlt:k<n;obtain⟨x,hx⟩:=H.out.at hlt;obtain⟨x',hx'⟩:=H'.out.at hlt;obtain⟨b,off,rfl,hb,_⟩:=(H.out.ev HE.out).rd ae;obtain⟨b',off',rfl,hb',_⟩:=(H'.out.ev HE.out).rd ae;obtain⟨c0,c1,c2,c3,c4,c5,c6,c7⟩:=Ps.cell (H.out.ev HE.out) hx;obtain⟨d0,d1,d2,d3,d4,d5,d6,d7⟩:=Ps.cell (H'.out.ev HE.out) hx';have HC:=zq (λw1 (hE:Ev w w1)=>HF.out k x x' hx hx' w1 hE);unfold pv Yes at HC;unfold dK.v PM.kv at*;obtain⟨w4,hw4,gy,TP⟩:∃w4,wr.alloc (.cells ↑x 35)=w4/\Ev wr w4/\Bx 35 wr.heap.size ↑x w4:=⟨_,rfl,Ev.alloc _ _,Bx.new _ _ _⟩
  have e0:=(gy.cell (p:=⟨b',off'+k*8,none⟩) hb').trans d0;have e1:=(gy.cell (p:=⟨b',off'+k*8+1,none⟩) hb').trans d1;have e2:=(gy.cell (p:=⟨b',off'+k*8+2,none⟩) hb').trans d2;have e3:=(gy.cell (p:=⟨b',off'+k*8+3,none⟩) hb').trans d3;have e4:=(gy.cell (p:=⟨b',off'+k*8+4,none⟩) hb').trans d4;have e5:=(gy.cell (p:=⟨b',off'+k*8+5,none⟩) hb').trans d5;have e6:=(gy.cell (p:=⟨b',off'+k*8+6,none⟩) hb').trans d6;have e7:=(gy.cell (p:=⟨b',off'+k*8+7,none⟩) hb').trans d7;obtain⟨w5,uM,qP,yK⟩:∃w5,w4.alloc (.cells ↑x' 35)=w5/\Ev w4 w5/\Bx 35 w4.heap.size ↑x' w5:=⟨_,rfl,Ev.alloc _ _,Bx.new _ _ _⟩
  obtain⟨⟨f0,f1,f2,f3,f4,f5,f6,f7⟩,_⟩:=(TP.ev qP).eight;obtain⟨⟨g0,g1,g2,g3,g4,g5,g6,g7⟩,_⟩:=yK.eight;have I_:=zq ((HE.out.trans gy).trans qP);have i1:(0:Int)<=(k:Int):=ae;have i2:(k:Int)<(n:Int):=ae;clear hx hx' d0 d1 d2 d3 d4 d5 d6 d7 gy TP qP yK;exact aGS;obtain rfl:k=n:=ae;go_wp2;go_ret;exact⟨rfl,HE.out⟩
theorem apc(w:ak)(c0 c1 c2 c3 c4 c5 c6 c7 d0 d1 d2 d3 d4 d5 d6 d7:au):∃w0,(w.alloc (.cells #[c0,c1,c2,c3,c4,c5,c6,c7] 35)).alloc (.cells #[d0,d1,d2,d3,d4,d5,d6,d7] 35)=w0/\Ev w w0/\Bx 35 w.heap.size #[c0,c1,c2,c3,c4,c5,c6,c7] w0/\Bx 35 (w.heap.size+1) #[d0,d1,d2,d3,d4,d5,d6,d7] w0:=by have hB:=Bx.new 35 #[d0,d1,d2,d3,d4,d5,d6,d7] (w.alloc (.cells #[c0,c1,c2,c3,c4,c5,c6,c7] 35));rw[show (w.alloc (.cells #[c0,c1,c2,c3,c4,c5,c6,c7] 35)).heap.size=w.heap.size+1 by simp]at hB;exact⟨_,rfl,(Ev.alloc w _).trans aC,(Bx.new 35 #[c0,c1,c2,c3,c4,c5,c6,c7] w).ev aC,hB⟩
theorem ab8{k:Int}{nm:By}{es:List T}{cs lf rt:List By}{ag:List Ag}{nk:Nat}(h:zu k nm es cs lf rt ag nk)(hes:es.length<=10000):cs.length<=10000:=by rcases h with⟨_,_,_,rfl,_⟩|⟨_,_,_,rfl,_⟩|⟨_,_,_,h,_⟩|⟨_,_,_,rfl,_⟩|⟨_,_,_,rfl,_⟩|⟨_,_,_,rfl,_⟩|⟨_,_,_,rfl,_⟩<;>first|omega|simp
abbrev Pp:=Addr×PM
def ppc(x:Pp):List au:=[.pointer (some x.1)]
theorem VT:Enc 1 ppc:=⟨ae,λ_=>rfl,λx u hu=>by
 simp[ppc]at hu;subst hu;rfl⟩
theorem Tryz.alP:(Tryz.prog.info? 104).map (λi=>(i.zero,i.size,i.bytes))=some (some (.pointer none),1,8):=ah
theorem Tryz.Ns:Tryz.prog.underlying 101=some (.slice 104):=ah
def aim(w:ak)(b off:Nat)(m:PM):Prop:=
 w.cell? ⟨b,off,none⟩=some ↑m.kind/\w.cell? ⟨b,off+1,none⟩=some ↑m.name/\w.cell? ⟨b,off+2,none⟩=some (.slice m.ex.A m.ex.l.length m.ex.cap)/\w.cell? ⟨b,off+3,none⟩=some (.slice m.co.A m.co.l.length m.co.cap)/\w.cell? ⟨b,off+4,none⟩=some (.slice m.lf.A m.lf.l.length m.lf.cap)/\w.cell? ⟨b,off+5,none⟩=some (.slice m.rt.A m.rt.l.length m.rt.cap)/\w.cell? ⟨b,off+6,none⟩=some (.slice m.ag.A m.ag.l.length m.ag.cap)/\w.cell? ⟨b,off+7,none⟩=some (.slice m.A m.kids.length m.cap)
def SB(w:ak)(x:Pp):Prop:=∃b off,x.1=⟨b,off,none⟩/\b<w.heap.size/\aim w b off x.2
theorem SB.ev{w w':ak}{x:Pp}(h:SB w x)(hE:Ev w w'):SB w' x:=by obtain⟨b,off,e,hb,h0,h1,h2,h3,h4,h5,h6,h7⟩:=h;exact⟨b,off,e,aDf hb hE.size,(hE.cell (p:=⟨b,_,none⟩) hb).trans h0,(hE.cell (p:=⟨b,_,none⟩) hb).trans h1,(hE.cell (p:=⟨b,_,none⟩) hb).trans h2,(hE.cell (p:=⟨b,_,none⟩) hb).trans h3,(hE.cell (p:=⟨b,_,none⟩) hb).trans h4,(hE.cell (p:=⟨b,_,none⟩) hb).trans h5,(hE.cell (p:=⟨b,_,none⟩) hb).trans h6,(hE.cell (p:=⟨b,_,none⟩) hb).trans h7⟩
def kAddr(A:Option Addr)(i:Nat):Addr:=
 match A with
 | none=>⟨0,0,none⟩
 | some ⟨b,off,_⟩=>⟨b,off+i*8,none⟩
def kX(x:PM):List Pp:=x.kids.mapIdx λi m=>(kAddr x.A i,m)
theorem CY(x:PM):(kX x).length=x.kids.length:=by simp[kX]
theorem YM(x:PM):(kX x).map (·.2)=x.kids:=by
 unfold kX;refine List.ext_getElem? λi=>?_;rw[aDG,List.getElem?_mapIdx]
 cases x.kids[i]?<;>rfl
theorem YN(x:PM){i:Nat}{y:PM}(h:x.kids[i]?=some y):(kX x)[i]?=some (kAddr x.A i,y):=by unfold kX;rw[List.getElem?_mapIdx,h];rfl
theorem YO{b0:Nat}{w:ak}{x:PM}(h:Qx b0 [] w x):∀y∈kX x,Qx b0 [] w y.2/\SB w y:=by
 intro y hy;obtain⟨i,hi⟩:=aEn hy;unfold kX at hi;rw[List.getElem?_mapIdx]at hi
 cases hk:x.kids[i]? with
 | none=>rw[hk]at hi;cases hi
 | some m=>
  rw[hk]at hi;obtain rfl:=aDp hi;have WA:=(aC6.1 hk).1;refine⟨h.kid m (aDb hk),?_⟩;obtain⟨b,off,e,hb,_⟩:=h.ps.rd ae;have yG:=h.ps;rw[e]at yG;have hc:=Ps.cell yG hk;unfold dK.v PM.kv at hc;refine⟨b,off+i*8,?_,hb,hc⟩;show kAddr x.A i=_;rw[e]
  try rfl
def kH(f:Pl->Nat)(L:List Pp):Nat:=(L.map λx=>f x.2.p).sum
theorem uZ(f:Pl->Nat)(L K:List Pp):kH f (L++K)=kH f L+kH f K:=by simp[kH]
theorem ab9(f:Pl->Nat)(x:PM):kH f (kX x)=(x.p.kids.map f).sum:=by
 have:kH f (kX x)=(((kX x).map (·.2)).map λy=>f y.p).sum:=by simp[kH,Function.comp_def]
 rw[this,YM];have hk:x.p.kids=x.kids.map PM.p:=by rw[PM.tu];rfl
 rw[hk,aDx];rfl
theorem AO(L:List Pp):kH (λ_=>1) L=L.length:=by
 unfold kH
 induction L with
 | nil=>rfl
 | cons a L ih=>
  rw[aDe,aDI,ih,aDh];show 1+L.length=L.length+1;omega
theorem Qg(L:List Pp):L.length<=kH Pl.size L:=by rw[<-AO];unfold kH;exact xZ L λx _=>Pl.size_pos _
theorem alQ(x:PM):x.p.kids.length=x.kids.length:=by rw[PM.tu];simp[Pl.kids]
structure Et(m:PM)(b0:Nat)(w1:ak)(v:au)(L:List Pp)(i:Nat)(w:ak):Prop where
 own:Ow 104 1 ppc w1.heap.size w v L
 ev:Ev w1 w
 lies:∀x∈L,Qx b0 [] w1 x.2/\SB w1 x
 le:i<=L.length
 sum:∀f:Pl->Nat,kH f (L.take i)+kH (Pl.sum f) (L.drop i)=m.p.sum f
theorem drop_at{α:Type}{L:List α}{i:Nat}{x:α}(hx:L[i]?=some x):L.drop i=x::L.drop (i+1)/\L.take (i+1)=L.take i++[x]:=by obtain⟨hi,e⟩:=aC6.1 hx;exact⟨by rw[aEl hi,e],by rw[aDi hi,e]⟩
theorem JC(p:Pl):p.sum (λ_=>1)=p.size:=En p
theorem Et.size{m:PM}{b0:Nat}{w1 w:ak}{v:au}{L:List Pp}{i:Nat}(h:Et m b0 w1 v L i w):i+kH Pl.size (L.drop i)=m.p.size:=by have h1:=h.sum λ_=>1;rw[AO,aDP,JC,Nat.min_eq_left h.le]at h1;have:(Pl.sum λ_=>1)=Pl.size:=funext JC;rwa [this]at h1
theorem Et.short{m:PM}{b0:Nat}{w1 w:ak}{v:au}{L:List Pp}{i:Nat}(h:Et m b0 w1 v L i w):L.length<=m.p.size:=by have h1:=h.size;have h2:=Qg (L.drop i);rw[aDD]at h2;have:=h.le;omega
theorem Et.room{m:PM}{b0:Nat}{w1 w:ak}{v:au}{L:List Pp}{i:Nat}{x:Pp}(h:Et m b0 w1 v L i w)(hx:L[i]?=some x):L.length+x.2.kids.length<=m.p.size:=by
 have h1:=h.size;rw[(drop_at hx).1]at h1;have h2:=Qg (L.drop (i+1));rw[aDD]at h2;have h3:kH Pl.size (x::L.drop (i+1))=x.2.p.size+kH Pl.size (L.drop (i+1)):=by simp[kH]
 have h4:=Pl.size_eq x.2.p;have h5:=xZ (f:=λ_=>1) (g:=Pl.size) x.2.p.kids λy _=>Pl.size_pos y;have h6:(x.2.p.kids.map λ_=>1).sum=x.2.p.kids.length:=by
  generalize x.2.p.kids=l
  induction l with
  | nil=>rfl
  | cons a l ih=>
   rw[aDe,aDI,ih,aDh];omega
 rw[alQ]at h6;have:=(aC6.1 hx).1;omega
theorem Et.next{m:PM}{b0:Nat}{w1 w w':ak}{v v':au}{L:List Pp}{i:Nat}{x:Pp}(h:Et m b0 w1 v L i w)(hx:L[i]?=some x)(ho:Ow 104 1 ppc w1.heap.size w' v' (L++kX x.2))(hE:Ev w1 w'):Et m b0 w1 v' (L++kX x.2) (i+1) w':=by
 have hi:=(aC6.1 hx).1;have hi1:i+1<=L.length:=hi;obtain⟨hd,ht⟩:=drop_at hx;refine⟨ho,hE,λy hy=>?_,by rw[aDd];omega,λf=>?_⟩;rcases aDm.1 hy with h1|h1;exact h.lies y h1;exact YO (h.lies x (aDb hx)).1 y h1;have h1:=h.sum f;rw[hd]at h1;rw[List.take_append_of_le_length hi1,List.drop_append_of_le_length hi1,ht,uZ,uZ,ab9];have h2:kH (Pl.sum f) (x::L.drop (i+1))=x.2.p.sum f+kH (Pl.sum f) (L.drop (i+1)):=by simp[kH]
 have h3:kH f [x]=f x.2.p:=by simp[kH]
 have h4:=Pl.alC f x.2.p;omega
theorem Et.init{m:PM}{b0:Nat}{w w1 w2:ak}{v:au}{a:Addr}(hL:Qx b0 [] w m)(hE:Ev w w1)(hp:SB w1 (a,m))(ho:Ow 104 1 ppc w1.heap.size w2 v [(a,m)])(dJ:Ev w1 w2):Et m b0 w1 v [(a,m)] 0 w2:=
 ⟨ho,dJ,λx hx=>by simp at hx;subst hx;exact⟨hL.ev hE,hp⟩,aj,λf=>by simp[kH]⟩
def Qh(m:PM)(most:Nat)(w:ak)(e:Ending)(w':ak):Prop:=
 (∃(A:Option Addr) (n cap:Nat) (L:List Pp) (b0:Nat),e=.returned (.tuple #[.slice A n cap,.bool true])/\Sl 1 ppc w' A n cap L/\(∀x∈L,SB w' x)/\(∀f:Pl->Nat,kH f L=m.p.sum f)/\m.p.size<=most/\Ev w w')∨
 (e=.returned (.tuple #[↑(),.bool false])/\most<m.p.size/\Ev w w')
theorem SC{w:ak}{b off n cap:Nat}{L:List Pp}(h:Sl 1 ppc w ↑(b,off) n cap L){i:Nat}{x:Pp}(hx:L[i]?=some x):w.cell? ⟨b,off+i,none⟩=some (.pointer (some x.1)):=by
 have hi:=(aC6.1 hx).1;have hl:=h.len;obtain⟨b',off',e,hlt,hc⟩:=h.rd ae;injection e with e
 injection e with e1 e2 _
 subst e1 e2;have:=hc i x hx 0 _ rfl;rwa [aED,aDw]at this
theorem Qi(m:PM)(b0 most:Nat)(w:ak)(h:Qx b0 [] w m)(hsz:m.p.size<=1000000)(h1:1<=most)(hm:most<=1000000):
  Calls ax 45 #[pv m,↑most] w (Qh m most w):=by
 have hB:=Bx.new 35 ↑m w;have aV:=Ev.alloc w (.cells ↑m 35);unfold pv dK.v PM.kv;obtain⟨w1,hw1⟩:∃w1,w.alloc (.cells ↑m 35)=w1:=⟨_,rfl⟩
 rw[hw1]at hB aV;have aeZ:w1.heap.size=w.heap.size+1:=by rw[<-hw1];simp
 have kW:SB w1 (⟨↑w,0,none⟩,m):=⟨w.heap.size,0,rfl,ae,by
  obtain⟨⟨p0,p1,p2,p3,p4,p5,p6,p7⟩,_⟩:=hB.eight;exact⟨p0,p1,p2,p3,p4,p5,p6,p7⟩⟩
 have HE:=zq aV;have hO:=Ow.made (et:=104) (base:=w1.heap.size) VT w1 [(⟨↑w,0,none⟩,m)] #[.pointer (some ⟨↑w,0,none⟩)] rfl (aC8 _) aj;have HP:Hid (Et m b0 w1 (.slice ↑w1 1 1) [(⟨↑w,0,none⟩,m)] 0 (w1.alloc (.cells #[.pointer ↑w] 104))):=zq (Et.init h aV kW hO aC);clear h hB aV kW aeZ hO;go_enter func45,ntmps45;go_wp2
 go_loopw [6,7] (λav iv wr=>∃(A:Option Addr) (n cap i:Nat) (L:List Pp),av=.slice A n cap/\iv=↑i/\n<=most/\Hid (n=L.length)/\Hid (Et m b0 w1 (.slice A n cap) L i wr)) (λ_ iv _=>m.p.size-(intOf iv).toNat)
 case atStart=>exact⟨_,1,1,0,[(⟨↑w,0,none⟩,m)],rfl,rfl,h1,zq rfl,HP⟩
 case round=>
  obtain⟨A,n,cap,i,L,rfl,rfl,hnm,oU,HS⟩:=hrel;have hns:=HS.out.short;rw[<-oU.out]at hns;obtain⟨_,cap',hvv,qJ,hA⟩:=HS.out.own.form VT;injection hvv with h1 h2 h3
  subst h1 h3;clear h2 hA;rw[<-oU.out]at qJ;have AU:=qJ.le;have hcm:=qJ.max;by_cases hi:i<n
  ·obtain⟨x,hx⟩:=qJ.at hi;obtain⟨b,off,rfl,hb,_⟩:=qJ.rd ae;have c0:=SC qJ hx;have HX:=zq hx;have hLx:=HS.out.lies x (aDb hx);obtain⟨b',off',e',hb',p0,p1,p2,p3,p4,p5,p6,p7⟩:=hLx.2.ev HS.out.ev;rw[e']at c0;have hro:=HS.out.room hx;rw[<-oU.out]at hro;have yG:=hLx.1.ps;have ET:=yG.le;have hkm:=yG.max;have Jw:=zq yG;obtain⟨kn,hkn⟩:∃kn,kn=x.2.kids.length:=⟨_,rfl⟩
   rw[<-hkn]at p7 hro ET Jw;have qg:=zq hkn;have qQ:=zq qJ;have i1:(0:Int)<=(i:Int):=ae;have i2:(i:Int)<(n:Int):=ae;clear hx hLx yG hkn e' hb p0 p1 p2 p3 p4 p5 p6 qJ;by_cases hfit:kn+n<=most
   ·have i3:¬((most:Int)-(n:Int)<(kn:Int)):=ae;go_wp2
    go_loopw [6,33] (λav jv wr2=>∃(A2:Option Addr) (n2 cap2 j:Nat),av=.slice A2 n2 cap2/\jv=↑j/\j<=kn/\n2=n+j/\Hid (Ow 104 1 ppc w1.heap.size wr2 (.slice A2 n2 cap2) (L++(kX x.2).take j))/\Hid (Ev w1 wr2)) (λ_ jv _=>kn-(intOf jv).toNat)
    case atStart=>exact⟨_,n,cap,0,rfl,rfl,aDl _,rfl,zq (by simpa using HS.out.own),zq HS.out.ev⟩
    case round=>
     rename ak=>wr2;obtain⟨A2,n2,cap2,j,rfl,rfl,hj,hn2,HO,uX⟩:=hrel;have HN2:=zq hn2;by_cases hlt:j<kn
     ·obtain⟨y,hy⟩:=Jw.out.at hlt;have hky:=YN x.2 hy;obtain⟨b2,jC,hA2e,hb2,_⟩:=Jw.out.rd ae;rw[hA2e]at hky;simp only[kAddr]at hky;rw[hA2e];have mr:Hid ((kX x.2).take (j+1)=(kX x.2).take j++[(⟨b2,jC+j*8,none⟩,y)]):=zq (drop_at hky).2;have wR:Hid ((L++(kX x.2).take j).length=n2):=zq (by rw[aDd,aDP,CY,<-qg.out,<-oU.out];omega);have j1:(0:Int)<=(j:Int):=ae;have j2:(j:Int)<(kn:Int):=ae;clear hy hky hn2
      go_wp2_with (first
       | ((show wpList _ _ _ (⟨some 41,_,_,_,_,_⟩::_) _ _);refine aQ (o:=⟨some 41,_,_,_,_,_⟩) rfl 101 (.tmp 36) (.tmp 40) rfl VT Tryz.Ns Tryz.alP rfl rfl (HO.out.ev (Ev.alloc wr2 (.cells #[.pointer ↑(b2,jC+j*8)] 104))) ↑wr2 1 1 [(⟨b2,jC+j*8,none⟩,y)] rfl (Sl.one (et:=104) VT wr2 (⟨b2,jC+j*8,none⟩,y) #[.pointer ↑(b2,jC+j*8)] rfl) (by rw[wR.out];have:=HN2.out;simp;omega) (by rw[wR.out];have:=HN2.out;simp;omega) (uX.out.trans aC).size ?_;intro v2 w2 iq;have E2:=((But.aU (uX.out.trans aC)).then iq.2.1).ev (λk hk=>(HO.out.lt (aG.1 hk)).1);have O2:=iq.1;obtain⟨A3,cap3,rfl,_,_⟩:=iq.1.form VT;generalize qX:((L++(kX x.2).take j)++[((⟨b2,jC+j*8,none⟩,y):Pp)]).length=nn at O2|-;have xy:=zq qX.symm;clear qX))
      go_roundw
      case rel=>exact⟨A3,nn,cap3,j+1,rfl,by go_num,ae,by rw[xy.out,aDd,wR.out,HN2.out];rfl,zq (by rw[mr.out,<-aDA];exact O2),zq E2⟩
      case measure=>simp[intOf];omega
     have hjk:j=kn:=ae;subst hjk;have S2:=HS.out.next HX.out (v':=.slice A2 n2 cap2) (by
      have:=HO.out;rwa [aDj (by rw[CY,<-qg.out];exact aC8 _)]at this) uX.out
     have S2:=zq S2;have rQ:Hid (n2=(L++kX x.2).length):=zq (by rw[aDd,CY,<-qg.out,<-oU.out];exact hn2);have aup:n2<=most:=ae;clear hn2;go_wp2;go_roundw
     case rel=>exact⟨A2,n2,cap2,i+1,_,rfl,by go_num,aup,rQ,S2⟩
     case measure=>simp[intOf];omega
   have i3:((most:Int)-(n:Int)<(kn:Int)):=ae;have hgt:most<m.p.size:=ae;go_wp2
   go_ret2
   unfold Qh;exact .inr ⟨rfl,hgt,HE.out.trans HS.out.ev⟩
  have hin:i=L.length:=by have:=HS.out.le;have:=oU.out;omega
  have i2:¬((i:Int)<(n:Int)):=ae;have WS:=zq hin;have qQ:=zq qJ;have HZ:Hid (m.p.size<=most):=zq (by
   have h4:=HS.out.size;rw[hin,List.drop_length]at h4;have:kH Pl.size []=0:=rfl;rw[this,<-oU.out]at h4;omega)
  clear hin qJ;go_wp2
  go_ret2
  unfold Qh;refine .inl ⟨A,n,cap,L,b0,rfl,qQ.out,λx hx=>(HS.out.lies x hx).2.ev HS.out.ev,λf=>?_,HZ.out,HE.out.trans HS.out.ev⟩;have:=HS.out.sum f;rw[WS.out,aEt,List.drop_length]at this;simpa[kH] using this
theorem nI.VP{base Nl:Nat}{va:au}{r:CR}{w:ak}{e:Ending}{w':ak}(h:nI base va r w e w')(hb:Nl<=base):nI Nl va r w e w':=by obtain⟨v,he,ho,hbu,hs⟩:=h;exact⟨v,he,ho.VP hb,hbu,hs⟩
theorem As.PO{w:ak}{A:Option Addr}{n cap:Nat}{l:List Ag}(h:As w A n cap l){i:Nat}{x:Ag}(hx:l[i]?=some x):∃b off,A=some ⟨b,off,none⟩/\w.cell? ⟨b,off+i*3,none⟩=some (.string ⟨x.1.toArray⟩)/\w.cell? ⟨b,off+i*3+1,none⟩=some (.string ⟨x.2.1.toArray⟩)/\w.cell? ⟨b,off+i*3+2,none⟩=some (.string ⟨x.2.2.toArray⟩):=by have hi:=(aC6.1 hx).1;have hl:=h.len;obtain⟨b,off,e,_,hc⟩:=h.rd ae;exact⟨b,off,e,hc i x hx 0 _ rfl,hc i x hx 1 _ rfl,hc i x hx 2 _ rfl⟩
theorem YP(kid:List C)(r:CR)(x:By):(xO kid r x).cols.length<=r.cols.length+1:=by unfold xO;rw[CR.tH,CR.wC];simp
theorem ab_(kid:List C)(r:CR)(x:Ag):(r.agg kid x).cols.length<=r.cols.length+1:=by rw[CR.aez];omega
theorem aFS(h:U:=by obtain⟨f1,f2⟩:=wI (va:=↑()) HEA.out uk.out HRL.out (HBL.out.wide λk hk=>.inl (by simp at hk;subst hk;exact aC' ..)) (λg hg=>.inr (hfin g hg)) (λk hk=>by cases hk) ae (by have:=rE.out;omega) (by have:=rE.out;omega);refine aFe (aZ rfl _ _ _ _ _ rfl f1 underlying93 rfl Tryz.jR) rfl ?_;rw[<-alS.out];exact nI.VP (base:=wa.heap.size) (Nl:=w.heap.size) f2 (by have:=HSA.out;omega)):U:=h
theorem afj(m:PM)(b0:Nat)(w:ak)(hQ:Qx b0 [] w m)(kid:List C)(A:Option Addr)(n cap:Nat)(hC:Cs w A n cap kid)(hA:∀ad,A=some ad->ad.block<w.heap.size)(kN:m.lf.l.length<=10000)(hla:m.ag.l.length<=10000):
  Calls ax 78 #[.agg ↑m,.slice A n cap] w (nI w.heap.size ↑() (DW m.lf.l m.ag.l kid) w):=by
 obtain⟨_,_,_,zf,_,OE,_,_⟩:=hQ.at;obtain⟨w0,hw0,aV,TQ,hBr,hs0⟩:=RY w 35 ↑m;obtain⟨wa,hwa⟩:∃wa,wa=w0.alloc (.cells ↑Zz.d 93):=⟨_,rfl⟩
 have aJ:Ev w0 wa:=by rw[hwa];exact Ev.alloc _ _
 have hBR:=Bx.new 93 ↑Zz.d w0;rw[<-hwa]at hBR;have hsa:wa.heap.size=w.heap.size+3:=by rw[hwa];simp;omega
 have HR0:Hid (iW w0.heap.size wa.heap.size CR.zero ↑() wa):=zq ⟨hBR,Ow.nil_ _,λhm=>by cases hm⟩;have uk:=zq (hBr.ev aJ);have HPB:Hid (∀w1,But [w0.heap.size] wa w1->Bx 35 w.heap.size ↑m w1):=zq λw1 hb=>(TQ.ev aJ).but hb (by simp;omega);have HEA:=zq (aV.trans aJ);have hS0:w0.heap.size=w.heap.size+2:=hs0;have rE:=zq hS0;have HSA:=zq hsa;have HCK:Hid (∀w1,But [w0.heap.size] wa w1->Cs w1 A n cap kid):=zq λw1 hb1=>(hC.ev (aV.trans aJ)).but hb1 λad e=>by have:=hA ad e;simp;omega
 have HOB:Hid (∀w1 b,But [w0.heap.size] wa w1->b<w.heap.size->b<w1.heap.size):=zq λw1 b hb hlt=>by have:=hb.size;omega
 have HBM:Hid (∀(v:au) (Z:List C) w1 w2,But [w0.heap.size] wa w1->Ow 82 2 jY wa.heap.size w1 v Z->But (w0.heap.size::foot v) w1 w2->But [w0.heap.size] wa w2):=zq λv Z w1 w2 h1 h2 h3=>h1.trans h3 λx hx=>by rcases aDg.1 hx with rfl|hx;exact .inl aj;exact .inr (h2.lt (aG.1 hx)).1
 have XL:Hid (∀w1,But [w0.heap.size] wa w1->Ss w1 m.lf.A m.lf.l.length m.lf.cap m.lf.l):=zq λw1 hb1=>(zf.sl.ev (aV.trans aJ)).but hb1 λad e=>by have:=(zf.WR ad e).2.1;simp;omega
 have Ip:Hid (∀w1,But [w0.heap.size] wa w1->As w1 m.ag.A m.ag.l.length m.ag.cap m.ag.l):=zq λw1 hb1=>(OE.sl.ev (aV.trans aJ)).but hb1 λad e=>by have:=(OE.WR ad e).2.1;simp;omega
 have HAR:Hid (∀ad,m.ag.A=some ad->ad.block<w.heap.size):=zq λad e=>(OE.WR ad e).2.1;have SE:=zq (λs r v w1 (hR:iW w0.heap.size wa.heap.size r v w1) (hb1:But [w0.heap.size] wa w1)=>ZP w0.heap.size wa.heap.size r v kid A n cap s w1 hR (HCK.out w1 hb1));have HAD:=zq (λr v nm k w1 (hR:iW w0.heap.size wa.heap.size r v w1) (Uj:r.cols.length<=100000) (hb1:But [w0.heap.size] wa w1)=>aev w0.heap.size wa.heap.size r v nm k w1 hR Uj hb1.size);have HAA:=zq (λ(a:Ag) r v w1 (hR:iW w0.heap.size wa.heap.size r v w1) (Uj:r.cols.length<=100000) (hb1:But [w0.heap.size] wa w1)=>alG w0.heap.size wa.heap.size r v a kid A n cap w1 hR Uj hb1.size (HCK.out w1 hb1) (λad e hm=>by
  have:=hA ad e;rcases aDg.1 hm with h1|h1;omega;have:=(hR.own.lt (aG.1 h1)).1;omega) (λad e=>by have:=hA ad e;have:=hb1.size;omega))
 have auq:=zf.sl.le;have az1:=zf.sl.max;have apf:=OE.sl.le;have aur:=OE.sl.max;unfold L8 at HAD HAA;unfold DW;simp only;obtain⟨R1,hR1⟩:∃R1,R1=m.lf.l.foldl (xO kid) CR.zero:=⟨_,rfl⟩
 rw[<-hR1];obtain⟨R2,hR2⟩:∃R2,R2=m.ag.l.foldl (λr a=>r.agg kid a) R1:=⟨_,rfl⟩
 rw[<-hR2];have Bo:=zq hR1;have Ht:=zq hR2;obtain⟨R3,hR3⟩:∃R3,R3=(if R2.cols.length=0 then R2.fail 23 ⟨#[]⟩ else R2).limit:=⟨_,rfl⟩
 rw[<-hR3];have apg:=zq hR3;obtain⟨nl,hnl⟩:∃nl,nl=m.lf.l.length:=⟨_,rfl⟩
 obtain⟨na,hna⟩:∃na,na=m.ag.l.length:=⟨_,rfl⟩
 have oU:=zq hnl;have Iu:=zq hna;have IV:Hid (∀k,((m.lf.l.take k).foldl (xO kid) CR.zero).cols.length<=10000):=zq λk=>by
  have h1:=Gh (xO kid) 1 (YP kid) (m.lf.l.take k) CR.zero;have h2:(m.lf.l.take k).length<=m.lf.l.length:=by rw[aDP];omega
  have h3:CR.zero.cols.length=0:=rfl;omega
 have aus:Hid (R1.cols.length<=10000):=zq (by rw[hR1];have:=IV.out m.lf.l.length;rwa [aEt]at this);have aut:Hid (∀k,((m.ag.l.take k).foldl (λr a=>r.agg kid a) R1).cols.length<=20000):=zq λk=>by
  have h1:=Gh (λr (a:Ag)=>r.agg kid a) 1 (ab_ kid) (m.ag.l.take k) R1;have h2:(m.ag.l.take k).length<=m.ag.l.length:=by rw[aDP];omega
  have:=aus.out;omega
 obtain⟨⟨p0,p1,p2,p3,p4,p5,p6,p7⟩,_⟩:=(HPB.out wa (But.refl _ _)).eight;rw[<-hnl]at auq p4 kN;rw[<-hna]at apf p6 hla;simp only[<-hnl,<-hna]at HPB XL Ip hw0 hwa|-;clear hQ zf OE hC hA aV aJ TQ hBr hBR hs0 hsa hS0 hR1 hR2 hR3 hnl hna;generalize m.lf.A=lfA at*;generalize m.ag.A=agA at*;go_enter func78,ntmps78;go_upto_region 2 with fail
 rw[<-hwa];clear hwa;go_wp2
 go_loopw [14] (λiv wr=>∃(k:Nat) (v:au),iv=↑k/\k<=nl/\Hid (iW w0.heap.size wa.heap.size ((m.lf.l.take k).foldl (xO kid) CR.zero) v wr)/\Hid (But [w0.heap.size] wa wr)) (λiv _=>nl-(intOf iv).toNat)
 case atStart=>exact⟨0,↑(),rfl,aDl _,HR0,zq (But.refl _ _)⟩
 case round=>
  obtain⟨k,v,rfl,hk,HR,HB⟩:=hrel;by_cases hlt:k<nl
  ·obtain⟨s,hs⟩:=(XL.out wr HB.out).at hlt;have HST:Hid ((m.lf.l.take (k+1)).foldl (xO kid) CR.zero=(((m.lf.l.take k).foldl (xO kid) CR.zero).find kid (dV s)).add (dV s) (gQ kid (dV s))):=zq (L9 hs);obtain⟨be,oe,rfl,hcs⟩:=Ss.PO (XL.out wr HB.out) hs;have Ul:=SE.out (dV s) _ v wr HR.out HB.out;unfold dV at Ul;have Ul:=zq Ul;have i1:(0:Int)<=(k:Int):=ae;have i2:(k:Int)<(nl:Int):=ae;clear hs
   go_wp2_with (first
    | ((with_reducible refine(Ul.out).mono ?_);rintro r_ w2 ⟨rfl,hR2,hB2⟩;have auu:=zq hR2;have N8:=zq (HB.out.then hB2);have Um:=HAD.out _ v (dV s) (gQ kid (dV s)) w2 hR2 (by rw[CR.wC];have:=IV.out k;omega) (HB.out.then hB2);unfold dV at Um;have Um:=zq Um;clear hR2 hB2)
    | ((with_reducible refine(Um.out).mono ?_);rintro r_ w3 ⟨rfl,v3,hR3,sK,Oq⟩;have HR3:=zq hR3;have HB3:=zq (HBM.out v _ w2 w3 N8.out auu.out.own sK);clear hR3 sK Oq))
   go_roundw
   case rel=>exact⟨k+1,v3,by go_num,ae,zq (by rw[HST.out];exact HR3.out),HB3⟩
   case measure=>simp[intOf];omega
  obtain rfl:k=nl:=ae;have HT:Hid (m.lf.l.take k=m.lf.l):=zq (aDj (by rw[oU.out];exact aC8 _));rw[HT.out,<-Bo.out]at HR;have HRa:Hid (iW w0.heap.size wa.heap.size ((m.ag.l.take 0).foldl (λr a=>r.agg kid a) R1) v wr):=zq (by simpa using HR.out);obtain⟨wo,rfl⟩:∃wo:ak,wo=wr:=⟨_,rfl⟩
  obtain⟨⟨q0,q1,q2,q3,q4,q5,q6,q7⟩,_⟩:=(HPB.out wo HB.out).eight;clear p0 p1 p2 p3 p4 p5 p6 p7;go_wp2
  go_loopw [28] (λiv wr=>∃(j:Nat) (v:au),iv=↑j/\j<=na/\Hid (iW w0.heap.size wa.heap.size ((m.ag.l.take j).foldl (λr a=>r.agg kid a) R1) v wr)/\Hid (But [w0.heap.size] wa wr)) (λiv _=>na-(intOf iv).toNat)
  case atStart=>exact⟨0,v,rfl,aDl _,HRa,HB⟩
  case round=>
   obtain⟨j,v5,rfl,hj,HR5,IB⟩:=hrel;by_cases hlj:j<na
   ·obtain⟨a,ha⟩:=(Ip.out wr IB.out).at hlj;have HST:Hid ((m.ag.l.take (j+1)).foldl (λr a=>r.agg kid a) R1=((m.ag.l.take j).foldl (λr a=>r.agg kid a) R1).agg kid a):=zq (L9 ha);obtain⟨be,oe,rfl,a0,a1,a2⟩:=As.PO (Ip.out wr IB.out) ha;have az4:=HOB.out wr be IB.out (HAR.out _ rfl);have hBA:=Bx.new 161 #[.string ⟨a.1.toArray⟩,.string ⟨a.2.1.toArray⟩,.string ⟨a.2.2.toArray⟩] wr;obtain⟨⟨c0,c1,c2⟩,_⟩:=hBA.three;have Nu:=zq (IB.out.then (But.aU (Ev.alloc wr (.cells #[.string ⟨a.1.toArray⟩,.string ⟨a.2.1.toArray⟩,.string ⟨a.2.2.toArray⟩] 161))));have HR6:=HR5.out.ev (Ev.alloc wr (.cells #[.string ⟨a.1.toArray⟩,.string ⟨a.2.1.toArray⟩,.string ⟨a.2.2.toArray⟩] 161));have Ul:=zq (HAA.out a _ v5 _ HR6 (by have:=aut.out j;omega) Nu.out);have HR6:=zq HR6;have i1:(0:Int)<=(j:Int):=ae;have i2:(j:Int)<(na:Int):=ae;clear ha hBA
    go_wp2_with (first
     | ((with_reducible refine(Ul.out).mono ?_);rintro r_ w3 ⟨rfl,v3,hR3,sK,Oq⟩;have HR3:=zq hR3;have HB3:=zq (HBM.out v5 _ _ w3 Nu.out HR6.out.own sK);clear hR3 sK Oq))
    go_roundw
    case rel=>exact⟨j+1,v3,by go_num,ae,zq (by rw[HST.out];exact HR3.out),HB3⟩
    case measure=>simp[intOf];omega
   obtain rfl:j=na:=ae;have Ja:Hid (m.ag.l.take j=m.ag.l):=zq (aDj (by rw[Iu.out];exact aC8 _));rw[Ja.out,<-Ht.out]at HR5;obtain⟨A1,cap1,rfl,hC1⟩:=HR5.out.form;obtain⟨nc,AU⟩:∃nc,nc=R2.cols.length:=⟨_,rfl⟩
   have WX:=zq AU;rw[<-AU]at HR5;obtain⟨⟨k0,k1,k2⟩,_⟩:=HR5.out.box.three;have az5:nc<=9223372036854775807:=by have h1:=hC1.le;have h2:=hC1.max;omega
   by_cases hz:nc=0
   ·have HFL:=zq (uP w0.heap.size wa.heap.size R2 (.slice A1 nc cap1) 23 ⟨#[]⟩ wr HR5.out);have alS:Hid ((R2.fail 23 ⟨#[]⟩).limit=R3):=zq (by rw[apg.out,if_pos (by rw[<-WX.out];exact hz)]);subst hz;clear hC1 AU
    go_wp2_with (first
     | ((with_reducible refine(HFL.out).mono ?_);rintro r_ w2 ⟨rfl,hR2,hB2⟩;have HLM:=zq (U9 w0.heap.size wa.heap.size _ A1 0 cap1 w2 hR2);have HB7:=zq (IB.out.then hB2);clear hR2 hB2)
     | ((with_reducible refine(HLM.out).mono ?_);rintro r_ w4 ⟨rfl,hR2,hB2⟩;have HRL:=zq hR2;have HBL:=zq (HB7.out.then hB2);obtain⟨⟨d0,d1,d2⟩,_⟩:=hR2.box.three;obtain⟨⟨g0,g1,g2⟩,z0,z1,z2⟩:=(uk.out.but (HB7.out.then hB2) (by have:=rE.out;simp;omega)).three;clear hR2 hB2))
    (try simp only[Exit.inBlock,Exit.then]);rw[bM];have hv3:=HRL.out.own;have hfin:∀g,(Value.slice A1 0 cap1).ownBlock=some g->wa.heap.size<=g:=λg hg=>(hv3.lt hg).1;exact aFS
   have HLM:=zq (U9 w0.heap.size wa.heap.size _ A1 nc cap1 wr HR5.out);have alS:Hid (R2.limit=R3):=zq (by rw[apg.out,if_neg (by rw[<-WX.out];exact hz)]);have hz2:(nc==0)=false:=aC7.2 hz;have hz3:((nc:Int)==0)=false:=aC7.2 ae;clear hC1 AU
   go_wp2_with (first
    | ((with_reducible refine(HLM.out).mono ?_);rintro r_ w4 ⟨rfl,hR2,hB2⟩;have HRL:=zq hR2;have HBL:=zq (IB.out.then hB2);obtain⟨⟨d0,d1,d2⟩,_⟩:=hR2.box.three;obtain⟨⟨g0,g1,g2⟩,z0,z1,z2⟩:=(uk.out.but (IB.out.then hB2) (by have:=rE.out;simp;omega)).three;clear hR2 hB2))
   (try simp only[Exit.inBlock,Exit.then]);rw[bM];have hv3:=HRL.out.own;have hfin:∀g,(Value.slice A1 nc cap1).ownBlock=some g->wa.heap.size<=g:=λg hg=>(hv3.lt hg).1;exact aFS
theorem Ez(w:ak)(m:PM):∃w0,w.alloc (.cells ↑m 35)=w0/\Ev w w0/\Bx 35 w.heap.size ↑m w0/\w0.heap.size=w.heap.size+1:=⟨_,rfl,Ev.alloc _ _,Bx.new _ _ _,aj⟩
def akf(m:PM)(most:Nat)(w:ak)(e:Ending)(w':ak):Prop:=
 ∃(A:Option Addr) (n cap:Nat) (L:List Pp),e=.returned (.tuple #[.slice A n cap,.bool (decide (m.p.size<=most))])/\Sl 1 ppc w' A n cap L/\(∀x∈L,SB w' x)/\(m.p.size<=most->∀f:Pl->Nat,kH f L=m.p.sum f)/\(¬m.p.size<=most->L=[])/\n<=most/\Ev w w'
theorem Qh.any{m:PM}{most:Nat}{w w':ak}{e:Ending}(h:Qh m most w e w'):akf m most w e w':=by
 rcases h with⟨A,n,cap,L,b0,rfl,hS,hP,hf,hs,hE⟩|⟨rfl,hs,hE⟩
 refine⟨A,n,cap,L,by rw[aDE hs],hS,hP,λ_=>hf,λh=>absurd hs h,?_,hE⟩;have h1:=hf λ_=>1;rw[AO,JC,hS.len]at h1;omega;exact⟨none,0,0,[],by rw[aDB ae],Sl.nil_ w',(λx hx=>by cases hx),λh=>absurd h ae,λ_=>rfl,aDl _,hE⟩
theorem acm(f:Pl->Nat)(L:List Pp){k:Nat}{x:Pp}(h:L[k]?=some x):kH f (L.take (k+1))=kH f (L.take k)+f x.2.p:=by rw[(drop_at h).2,uZ];simp[kH]
theorem aiz(f:Pl->Nat)(L:List Pp)(k:Nat):kH f (L.take k)<=kH f L:=by have:=uZ f (L.take k) (L.drop k);rw[aDS]at this;omega
theorem aiA(x:PM):l_ x.p=x.ex.l.length+x.co.l.length+x.lf.l.length+x.rt.l.length+x.ag.l.length:=by rw[PM.tu];simp[l_,Pl.exprs,Pl.cols,Pl.left,Pl.right,Pl.zo]
theorem aHp(h:U:=by go_wp2;go_ret;exact⟨by first|(rw[HQ.out];rfl)|(have h:=HQ.out;rw[Bool.decide_and]at h;rw[h];rfl),(HE.out.trans uX.out).trans yh.out⟩):U:=h
theorem YY(m:PM)(b0:Nat)(w:ak)(h:Qx b0 [] w m)(hsz:m.p.size<=1000000)(hpt:m.p.sum l_<=1000000000):
  Calls ax 69 #[pv m] w λe w'=>e=.returned (.bool (decide (m.p.size<=600/\m.p.sum l_<=600)))/\Ev w w':=by
 have HW:=zq (λw1 (hE:Ev w w1)=>(Qi m b0 600 w1 (h.ev hE) hsz ae ae).mono λe w2 h=>h.any);unfold akf at HW;obtain⟨w0,hw0,aV,hB,_⟩:=Ez w m;obtain⟨⟨p0,p1,p2,p3,p4,p5,p6,p7⟩,_⟩:=hB.eight;have HE:=zq aV;have HPT:=zq hpt;obtain⟨ok,wO⟩:∃ok,ok=decide (m.p.size<=600):=⟨_,rfl⟩
 have HOK:=zq wO;rw[<-wO]at HW;unfold pv dK.v PM.kv at*;rw[show ((600:Nat):Int)=600 from rfl]at HW;clear h hB aV hsz hpt wO;go_enter func69,ntmps69
 go_wp2_with (first
  | ((with_reducible refine(HW.out _ HE.out).mono ?_);rintro e w2 ⟨A,n,cap,L,rfl,hS,hP,hf,hno,hn6,dJ⟩;simp only[];have HS:=zq hS;have HP:=zq hP;have HF:=zq hf;have HNO:=zq hno;have hcl:=hS.le;have hcm:=hS.max;have uX:=zq dJ;have vU:=zq hS.len;clear hS hP hf hno dJ p0 p1 p2 p3 p4 p5 p6 p7))
 have HB:=zq (by
  by_cases hs:m.p.size<=600;rw[HF.out hs];exact HPT.out;rw[HNO.out hs];simp[kH]:kH l_ L<=1000000000)
 go_loopw [5,15] (λrv iv wr=>∃(k s:Nat),rv=.int .i64 (600-(s:Int))/\iv=↑k/\k<=n/\s<=1000000000/\Hid (s=kH l_ (L.take k))/\Hid (Ev w2 wr)) (λ_ iv _=>n-(intOf iv).toNat)
 case atStart=>exact⟨0,0,rfl,rfl,aDl _,ae,zq rfl,zq aS⟩
 case round=>
  obtain⟨k,s,rfl,rfl,hk,hsb,HSS,yh⟩:=hrel;by_cases hlt:k<n
  ·obtain⟨x,hx⟩:=HS.out.at hlt;obtain⟨b,off,rfl,hb,_⟩:=(HS.out.ev yh.out).rd ae;have c0:=SC (HS.out.ev yh.out) hx;obtain⟨b',off',e',hb',p0,p1,p2,p3,p4,p5,p6,p7⟩:=(HP.out x (aDb hx)).ev yh.out;rw[e']at c0;have hst:=acm l_ L hx;have H5:=aiz l_ L (k+1);rw[aiA,<-HSS.out]at hst;have hbd:=HB.out;have HST:=zq hst;have b1:s+(x.2.ex.l.length+x.2.co.l.length+x.2.lf.l.length+x.2.rt.l.length+x.2.ag.l.length)<=1000000000:=ae;generalize x.2.ex.l.length=n1 at*;generalize x.2.co.l.length=n2 at*;generalize x.2.lf.l.length=n3 at*;generalize x.2.rt.l.length=n4 at*;generalize x.2.ag.l.length=n5 at*;have i1:(0:Int)<=(k:Int):=ae;have i2:(k:Int)<(n:Int):=ae;clear hx hst H5 hbd e' p0 p1 p7;go_upto_region 6 with fail
   go_quiet (fail)
   go_wp2;go_roundw
   case rel=>exact⟨k+1,s+(n1+n2+n3+n4+n5),by congr 1;omega,by go_num,ae,b1,zq HST.out.symm,zq (yh.out.trans (Ev.drewN _ _))⟩
   case measure=>simp[intOf];omega
  obtain rfl:k=n:=ae;have auR:Hid (s=kH l_ L):=zq (by
   have h1:=HSS.out;rwa [aDj (by rw[vU.out];exact aC8 _)]at h1)
  have aaW:Hid (decide (m.p.size<=600/\m.p.sum l_<=600)=(ok&&decide (s<=600))):=zq (by
   rw[HOK.out];by_cases hs:m.p.size<=600;rw[auR.out,HF.out hs,aDE hs,aD'];simp[hs];rw[aDB hs,aD0];simp[hs])
  cases ok
  have HQ:Hid (decide (m.p.size<=600/\m.p.sum l_<=600)=false):=zq (by rw[aaW.out];rfl);exact aHp;by_cases hs6:s<=600;have i3:(s:Int)<=600:=ae;have HQ:Hid (decide (m.p.size<=600/\m.p.sum l_<=600)=true):=zq (by rw[aaW.out,aDE hs6];rfl);exact aHp;have i3:¬((s:Int)<=600):=ae;have HQ:Hid (decide (m.p.size<=600/\m.p.sum l_<=600)=false):=zq (by rw[aaW.out,aDB hs6];rfl);exact aHp
mutual
def Pl.inK(K:List Int):Pl->Bool
 | .mk k _ _ _ _ _ _ l=>K.contains k&&Pl.insK K l
def Pl.insK(K:List Int):List Pl->Bool
 | []=>true
 | p::l=>p.inK K&&Pl.insK K l
end
theorem Pl.V6(K:List Int):∀l:List Pl,Pl.insK K l=true↔∀p∈l,p.inK K=true
 | []=>by simp[Pl.insK]
 | p::l=>by simp[Pl.insK,Pl.V6 K l]
theorem aal{K:List Int}{m:PM}(h:m.p.inK K=true):K.contains m.kind=true/\∀x∈m.kids,x.p.inK K=true:=by rw[PM.tu,Pl.inK,aC9,Pl.V6]at h;exact⟨h.1,λx hx=>h.2 x.p (aDF hx)⟩
def noT(B:List By)(t:T):Bool:=!B.contains t.s
theorem SV{B:List By}{m x:M}(h:m.t.every (noT B)=true)(hx:x∈m.kids):x.t.every (noT B)=true/\B.contains x.s=false:=by
 rw[T.kD,aC9]at h;have h1:=aDs.1 h.2 x.t (by rw[M.dO];exact aDz.2 ⟨x,hx,rfl⟩);refine⟨h1,?_⟩;rw[T.kD,aC9]at h1;have h2:=h1.1;unfold noT at h2;have h3:x.t.s=x.s:=by rw[M.yE];rfl
 rw[h3]at h2
 cases hc:B.contains x.s
 rfl;rw[hc]at h2;cases h2
def lsS(l:List By):By:=40::printL true (l.map aT)
theorem V7(l:List By)(s:By):lsS (l++[s])=lsS l++((if l.isEmpty then [] else [32])++s):=by unfold lsS;rw[aDk,aDe,aDu,qw,show (l.map aT).isEmpty=l.isEmpty by cases l<;>rfl];show 40::(_++(_++printS (aT s)))=_;rw[show printS (aT s)=s by unfold aT;simp[printS]];simp
theorem Qm(l:List By):printS (bH l)=lsS l++[41]:=by unfold lsS bH dh;rw[sN];rfl
theorem V8:∀(m l:List By),(lsS l).length<=(lsS (l++m)).length
 | [],l=>by simp
 | s::m,l=>by
  have h1:=V8 m (l++[s]);rw[aDA]at h1;have h2:(lsS l).length<=(lsS (l++[s])).length:=by rw[V7,aDd];omega
  exact aDr h2 h1
theorem afz(l:List By)(k:Nat):(lsS (l.take k)).length<=(lsS l).length:=by have:=V8 (l.drop k) (l.take k);rwa [aDS]at this
theorem aiE(l:List By)(A:Option Addr)(n cap:Nat)(w:ak)(h:Ss w A n cap l)(hb:(lsS l).length<=1000000):
  Calls ax 100 #[.slice A n cap] w λe w'=>e=.returned (.string ⟨(printS (bH l)).toArray⟩)/\Ev w w':=by
 have hcl:=h.le;have hcm:=h.max;have HL:=zq h.len;have H:=zq h;have ap7:=zq (λk=>aDr (afz l k) hb);have HPR:=zq (Qm l);clear h;go_enter func100,ntmps100;go_wp2
 go_loopw [3,4] (λsv iv wr=>∃(k:Nat) (S:By),sv=↑S/\iv=↑k/\k<=n/\Hid (S=lsS (l.take k))/\Hid (Ev w wr)) (λ_ iv _=>n-(intOf iv).toNat)
 case atStart=>exact⟨0,[40],rfl,rfl,aDl _,zq rfl,zq aS⟩
 case round=>
  obtain⟨k,S,rfl,rfl,hk,HS,HE⟩:=hrel;have H5:S.length<=1000000:=by rw[HS.out];exact ap7.out k
  have hz:=fJ S;by_cases hlt:k<n
  ·obtain⟨x,hx⟩:=H.out.at hlt;obtain⟨b,off,rfl,hbl,c0⟩:=Ss.cell2 (H.out.ev HE.out) hx;have qm:k<l.length:=by rw[HL.out];exact hlt
   have wP:lsS (l.take (k+1))=S++((if k=0 then [] else [32])++x):=by
    obtain⟨_,e1⟩:=aC6.1 hx;rw[aDi qm,e1,V7,HS.out]
    cases k with
    | zero=>simp
    | succ k=>
     cases l with
     | nil=>simp at qm
     | cons a l=>simp
   have hlen:=ap7.out (k+1);rw[wP]at hlen;have mr:=zq wP;have i1:(0:Int)<=(k:Int):=ae;have i2:(k:Int)<(n:Int):=ae;have hz2:=fJ x;clear hx wP qm;by_cases hk0:k=0
   ·have i3:¬((0:Int)<(k:Int)):=ae;obtain⟨Y,hY⟩:∃Y,Y=S++x:=⟨_,rfl⟩
    have GV:(⟨S.toArray⟩:ByteArray)++⟨x.toArray⟩=⟨Y.toArray⟩:=by rw[hY];exact jD _ _
    rw[if_pos hk0]at mr hlen;have hb2:S.length+x.length<=1000000:=by simp at hlen;omega
    have HY:Hid (Y=lsS (l.take (k+1))):=zq (by rw[mr.out,hY];simp);clear hY hlen hk0;go_wp2;go_roundw
    case rel=>exact⟨k+1,Y,rfl,by go_num,ae,HY,HE⟩
    case measure=>simp[intOf];omega
   have i3:(0:Int)<(k:Int):=ae;obtain⟨Z,hZ⟩:∃Z,Z=S++[32]:=⟨_,rfl⟩
   obtain⟨Y,hY⟩:∃Y,Y=Z++x:=⟨_,rfl⟩
   have GV:(⟨S.toArray⟩:ByteArray)++⟨#[32]⟩=⟨Z.toArray⟩:=by rw[hZ];exact jD S [32]
   have afA:(⟨Z.toArray⟩:ByteArray)++⟨x.toArray⟩=⟨Y.toArray⟩:=by rw[hY];exact jD _ _
   have hz3:=fJ Z;have hzl:Z.length=S.length+1:=by rw[hZ];simp
   rw[if_neg hk0]at mr hlen;have hb2:Z.length+x.length<=1000000:=by simp at hlen;omega
   have HY:Hid (Y=lsS (l.take (k+1))):=zq (by rw[mr.out,hY,hZ];simp);clear hY hZ hlen hk0;go_wp2;go_roundw
   case rel=>exact⟨k+1,Y,rfl,by go_num,ae,HY,HE⟩
   case measure=>simp[intOf];omega
  obtain rfl:k=n:=ae;have HF:Hid (S=lsS l):=zq (by have:=HS.out;rwa [aDj (by rw[HL.out];exact aC8 _)]at this);have GV:(⟨S.toArray⟩:ByteArray)++⟨#[41]⟩=⟨(S++[41]).toArray⟩:=jD S [41];have HC:=zq GV;clear GV;go_wp2;go_ret;refine⟨?_,HE.out⟩;rw[HPR.out,<-HF.out,<-HC.out];rfl
def Dc(l:List T):By:=40::printL true l
theorem qH{l:List T}(h:l≠[])(t:T):Dc (l++[t])=Dc l++(32::printS t):=by
 unfold Dc;rw[qw]
 cases l with
 | nil=>exact absurd rfl h
 | cons a l=>simp
theorem aiF(l:List T)(t:T):(Dc l).length<=(Dc (l++[t])).length:=by unfold Dc;rw[qw];simp
theorem zS:∀(m l:List T),(Dc l).length<=(Dc (l++m)).length
 | [],l=>by simp
 | s::m,l=>by have h1:=zS m (l++[s]);rw[aDA]at h1;exact aDr (aiF l s) h1
theorem ND(l:List T):printS (dh l)=Dc l++[41]:=by unfold dh Dc;rw[sN];rfl
theorem NF(m:PM):printS (aI m.p)=Dc (kQ m.kind m.name (m.ex.l.map M.t) m.co.l m.lf.l m.rt.l m.ag.l++m.kids.map λx=>aI x.p)++[41]:=by rw[wH,ND,PM.tu];simp[Pl.kind,Pl.name,Pl.exprs,Pl.cols,Pl.left,Pl.right,Pl.zo,Pl.kids,Function.comp_def]
def zT(p:Pl)(w:ak)(e:Ending)(w':ak):Prop:=e=.returned (.string ⟨(printS (aI p)).toArray⟩)/\Ev w w'
theorem afB(w:ak)(c0 c1 c2 c3 c4 c5 c6 c7:au):∃w0,w.alloc (.cells #[c0,c1,c2,c3,c4,c5,c6,c7] 35)=w0/\Ev w w0/\Bx 35 w.heap.size #[c0,c1,c2,c3,c4,c5,c6,c7] w0:=⟨_,rfl,Ev.alloc _ _,Bx.new _ _ _⟩
theorem Qn{l:List PM}{k:Nat}{x:PM}(hx:l[k]?=some x):(l.take (k+1)).map (λy=>aI y.p)=(l.take k).map (λy=>aI y.p)++[aI x.p]:=by obtain⟨hk,e⟩:=aC6.1 hx;rw[aDi hk,e,aDk];rfl
theorem aG4(h:U:=by have h1:=zS ((m.kids.drop j).map λx=>aI x.p) (HD++(m.kids.take j).map λx=>aI x.p);rw[aDA,<-aDk,aDS]at h1;have h2:=aD8 List.length HPR.out;rw[aDd]at h2;have:=IV.out;omega):U:=h
theorem aFA(h:U:=by
 have QU:Y.length<=1000000:=by rw[hYT];exact HTL.out (j+1)
 have GV:(⟨S.toArray⟩:ByteArray)++⟨#[32]⟩=⟨Z.toArray⟩:=by rw[hZ];exact jD S [32]
 have afA:(⟨Z.toArray⟩:ByteArray)++⟨PX.toArray⟩=⟨Y.toArray⟩:=by rw[hY];exact jD _ _
 have hz2:=fJ Z;have hz3:=fJ PX;have hyz:Z.length+PX.length<=1000000:=by rw[hY,aDd]at QU;exact QU
 have hzl:Z.length=S.length+1:=by rw[hZ];simp
 have HI:=λw2 (hE:Ev w w2)=>HQK.out x tq w2 hE;rw[<-hPX]at HI;have HI:=zq HI;have HYT:=zq hYT;have i1:(0:Int)<=(j:Int):=ae;have i2:(j:Int)<(nk:Int):=ae;clear hx tq yG hbA wP hPX hZ hY hYT QU
 go_wp2_with (first
  | ((with_reducible refine(HI.out _ (EW.out.trans yh.out)).mono ?_);rintro r w8 ⟨rfl,Bf⟩;have E8:=zq (yh.out.trans Bf)))
 go_roundw
 case rel=>exact⟨j+1,Y,rfl,by go_num,ae,HYT,E8⟩
 case measure=>simp[intOf];omega):U:=h
theorem aGf(h:U:=by obtain rfl:j=nk:=ae;have GV:(⟨S.toArray⟩:ByteArray)++⟨#[41]⟩=⟨(S++[41]).toArray⟩:=jD S [41];have HC:=zq GV;have HF:Hid (PS=S++[41]):=zq (by rw[HPR.out,HS.out,HNK.out,aEt]);clear GV;go_wp2;go_ret;refine⟨?_,EW.out.trans yh.out⟩;rw[HF.out,<-HC.out];rfl):U:=h
theorem SX(m:PM)(b0:Nat)(w:ak)(h:Qx b0 [] w m)(hk:m.kind=5)(hlen:(printS (aI m.p)).length<=1000000)(ih:∀x∈m.kids,∀w1,Ev w w1->Calls ax 50 #[pv x] w1 (zT x.p w1)):
  Calls ax 50 #[pv m] w (zT m.p w):=by
 obtain⟨PS,JB⟩:∃PS,PS=printS (aI m.p):=⟨_,rfl⟩
 have SY:=NF m;rw[hk]at SY;unfold zT at*;rw[<-JB]at SY hlen|-;have hQ:=h;have hkp:=h.ps;have hle:=hkp.le;have hmx:=hkp.max;obtain⟨w0,hw0,aV,hB0⟩:=afB w (.int .i64 5) ↑m.name (.slice m.ex.A m.ex.l.length m.ex.cap) (.slice m.co.A m.co.l.length m.co.cap) (.slice m.lf.A m.lf.l.length m.lf.cap) (.slice m.rt.A m.rt.l.length m.rt.cap) (.slice m.ag.A m.ag.l.length m.ag.cap) (.slice m.A m.kids.length m.cap);have cO:=zq aV;have um:=zq hB0;obtain⟨⟨p0,p1,p2,p3,p4,p5,p6,p7⟩,_⟩:=hB0.eight;unfold pv at ih|-;unfold dK.v PM.kv at*;rw[hk];obtain⟨HD,ED⟩:∃HD,HD=[aT iw]:=⟨_,rfl⟩
 have SY:PS=Dc (HD++m.kids.map λx=>aI x.p)++[41]:=by rw[ED];exact SY
 have rE:Hid (([40,117,110,105,111,110]:By)=Dc HD):=zq (by rw[ED];rfl);have EW:=cO;have BW:=um;clear aV hB0 hQ h hk;go_enter func50,ntmps50;go_wp2;have IV:=zq hlen;have HPR:=zq SY;have HKS:=zq hkp;have HQK:=zq (λx (hx:x∈m.kids) w1 (hE:Ev w w1)=>ih x hx w1 hE);have HTL:Hid (∀j,(Dc (HD++(m.kids.take j).map λx=>aI x.p)).length<=1000000):=zq λj=>by exact aG4
 obtain⟨nk,Ob⟩:∃nk,nk=m.kids.length:=⟨_,rfl⟩
 have HNK:=zq Ob;rw[<-Ob]at hle;have HB7:Hid (∀wz,Ev w0 wz->wz.cell? ⟨w.heap.size,7,none⟩=some (.slice m.A nk m.cap)):=zq λwz hE=>by obtain⟨⟨_,_,_,_,_,_,_,h7⟩,_⟩:=(BW.out.ev hE).eight;rw[HNK.out];exact h7
 clear SY hlen hkp ih Ob p0 p1 p2 p3 p4 p5 p6 p7;have b7:=HB7.out _ aS
 go_loopw [3,7] (λsv iv wr=>∃(j:Nat) (S:By),sv=↑S/\iv=↑j/\j<=nk/\Hid (S=Dc (HD++(m.kids.take j).map λx=>aI x.p))/\Hid (Ev w0 wr)) (λ_ iv _=>nk-(intOf iv).toNat)
 case atStart=>exact⟨0,_,rfl,rfl,aDl _,zq (by simpa using rE.out),zq aS⟩
 case round=>
  obtain⟨j,S,rfl,rfl,hj,HS,yh⟩:=hrel;clear b7;have b7:=HB7.out _ yh.out;have hz:=fJ S;have H5:S.length<=1000000:=by rw[HS.out];exact HTL.out j
  by_cases hlt:j<nk;obtain⟨x,hx⟩:=HKS.out.at (by rw[<-HNK.out];exact hlt);have tq:=aDb hx;obtain⟨b,off,hbA,hb,_⟩:=(HKS.out.ev (EW.out.trans yh.out)).rd (by rw[<-HNK.out];omega);have yG:=HKS.out.ev (EW.out.trans yh.out);rw[hbA]at yG b7;obtain⟨c0,c1,c2,c3,c4,c5,c6,c7⟩:=Ps.cell yG hx;unfold dK.v PM.kv at*;have wP:=Qn hx;obtain⟨PX,hPX⟩:∃PX,PX=printS (aI x.p):=⟨_,rfl⟩
  obtain⟨Z,hZ⟩:∃Z,Z=S++[32]:=⟨_,rfl⟩
  obtain⟨Y,hY⟩:∃Y,Y=Z++PX:=⟨_,rfl⟩
  have hYT:Y=Dc (HD++(m.kids.take (j+1)).map λx=>aI x.p):=by rw[wP,<-aDA,qH (by simp[ED]),<-HS.out,hY,hZ,hPX];simp
  exact aFA;exact aGf
theorem S_(m:PM)(b0:Nat)(w:ak)(h:Qx b0 [] w m)(hk:m.kind=1)(KF:m.kids=[])(hlen:(printS (aI m.p)).length<=1000000):
  Calls ax 50 #[pv m] w (zT m.p w):=by
 obtain⟨PS,JB⟩:∃PS,PS=printS (aI m.p):=⟨_,rfl⟩
 have SY:=NF m;rw[hk,KF]at SY;unfold zT;rw[<-JB]at SY hlen|-;have hS1:PS=[40,116,97,98,108,101,32]++m.name++[41]:=by rw[SY];show Dc ([aT gm]++[aT m.name]++[])++[41]=_;rw[aD5,qH aj,show printS (aT m.name)=m.name by unfold aT;simp[printS]];rfl
 obtain⟨w0,hw0,aV,hB0⟩:=afB w (.int .i64 1) ↑m.name (.slice m.ex.A m.ex.l.length m.ex.cap) (.slice m.co.A m.co.l.length m.co.cap) (.slice m.lf.A m.lf.l.length m.lf.cap) (.slice m.rt.A m.rt.l.length m.rt.cap) (.slice m.ag.A m.ag.l.length m.ag.cap) (.slice m.A m.kids.length m.cap);have cO:=zq aV;obtain⟨⟨p0,p1,p2,p3,p4,p5,p6,p7⟩,_⟩:=hB0.eight;unfold pv dK.v PM.kv;rw[hk];obtain⟨Z,hZ⟩:∃Z,Z=[40,116,97,98,108,101,32]++m.name:=⟨_,rfl⟩
 have GV:(⟨#[40,116,97,98,108,101,32]⟩:ByteArray)++⟨m.name.toArray⟩=⟨Z.toArray⟩:=by rw[hZ];exact jD [40,116,97,98,108,101,32] _
 have afA:(⟨Z.toArray⟩:ByteArray)++⟨#[41]⟩=⟨PS.toArray⟩:=by rw[hS1,<-hZ];exact jD Z [41]
 have hz:=fJ m.name;have hz2:=fJ Z;have hl2:Z.length+1<=1000000:=by rw[hS1,<-hZ,aDd]at hlen;exact hlen
 have hl3:7+m.name.length=Z.length:=by rw[hZ,aDd];rfl
 clear aV hB0 h hk KF SY JB hlen hS1 hZ;go_enter func50,ntmps50;go_wp2;go_ret;exact⟨rfl,cO.out⟩
theorem aiG(l:List By)(A:Option Addr)(n cap:Nat)(P:By)(hP:P=printS (bH l))(w:ak)(h:Ss w A n cap l)(hb:P.length<=1000000):
  Calls ax 100 #[.slice A n cap] w λe w'=>e=.returned ↑P/\Ev w w':=by
 subst hP;refine aiE l A n cap w h ?_;rw[Qm,aDd]at hb;omega
theorem ap_(w:ak)(c0 c1 c2:au):∃w0,w.alloc (.cells #[c0,c1,c2] 161)=w0/\Ev w w0/\Bx 161 w.heap.size #[c0,c1,c2] w0:=⟨_,rfl,Ev.alloc _ _,Bx.new _ _ _⟩
theorem afC{s:By}(h:kZ s=true):s≠[]:=λe=>by rw[e]at h;exact absurd h (by decide+kernel)
theorem afD{a:Ag}(h:PI a):printS (eH a)=40::(a.1++(32::(a.2.1++((if a.2.1=dW then [] else 32::a.2.2)++[41])))):=by
 have hp:∀s:By,printS (aT s)=s:=λs=>by unfold aT;simp[printS]
 have h1:∀s:By,Dc [aT s]=40::s:=λs=>by unfold Dc;simp[printL,hp]
 unfold eH;rcases h.2 with⟨hf,hc⟩|⟨hf,hc⟩
 rw[hc];simp only[List.isEmpty_nil,aDL];rw[if_pos hf,ND,show [aT a.1,aT a.2.1]=[aT a.1]++[aT a.2.1] from rfl,qH aj,h1,hp];simp;have hne:=afC hc;have hcf:¬a.2.1=dW:=by rcases hf with e|e|e<;>rw[e]<;>decide
 have hie:a.2.2.isEmpty=false:=by
  cases hh:a.2.2 with
  | nil=>exact absurd hh hne
  | cons x l=>rfl
 rw[hie,if_neg hcf,ND,if_neg aj,show [aT a.1,aT a.2.1,aT a.2.2]=([aT a.1]++[aT a.2.1])++[aT a.2.2] from rfl,qH aj,qH aj,h1,hp,hp];simp
theorem aH5(h:U:=by
 go_wp2;go_roundw
 case rel=>exact⟨j+1,Q7,rfl,by go_num,ae,HY,U8⟩
 case measure=>simp[intOf];omega):U:=h
theorem Tc(m:PM)(b0:Nat)(w:ak)(h:Qx b0 [] w m)(hk:m.kind=7)(hg:∀a∈m.ag.l,PI a)(hlen:(printS (aI m.p)).length<=1000000)(ih:∀x∈m.kids,∀w1,Ev w w1->Calls ax 50 #[pv x] w1 (zT x.p w1)):
  Calls ax 50 #[pv m] w (zT m.p w):=by
 obtain⟨PS,JB⟩:∃PS,PS=printS (aI m.p):=⟨_,rfl⟩
 have SY:=NF m;rw[hk]at SY;unfold zT at*;rw[<-JB]at SY hlen|-;have hQ:=h;have hkp:=h.ps;have hle:=hkp.le;have hmx:=hkp.max;obtain⟨w0,hw0,aV,hB0⟩:=afB w (.int .i64 7) ↑m.name (.slice m.ex.A m.ex.l.length m.ex.cap) (.slice m.co.A m.co.l.length m.co.cap) (.slice m.lf.A m.lf.l.length m.lf.cap) (.slice m.rt.A m.rt.l.length m.rt.cap) (.slice m.ag.A m.ag.l.length m.ag.cap) (.slice m.A m.kids.length m.cap);have cO:=zq aV;have um:=zq hB0;obtain⟨⟨p0,p1,p2,p3,p4,p5,p6,p7⟩,_⟩:=hB0.eight;unfold pv at ih|-;unfold dK.v PM.kv at*;rw[hk];obtain⟨PL,hPL⟩:∃PL,PL=printS (bH m.lf.l):=⟨_,rfl⟩
 obtain⟨H0,V9⟩:∃H0:List T,H0=[aT dX,bH m.lf.l]:=⟨_,rfl⟩
 obtain⟨HA,aan⟩:∃HA,HA=m.ag.l.map eH:=⟨_,rfl⟩
 obtain⟨HD,ED⟩:∃HD,HD=H0++HA:=⟨_,rfl⟩
 have ap':H0≠[]:=by rw[V9];simp
 have aqa:HD≠[]:=by rw[ED,V9];simp
 have SY:PS=Dc (HD++m.kids.map λx=>aI x.p)++[41]:=by rw[ED,V9,aan];exact SY
 have hl0:(Dc HD).length<=1000000:=by have h1:=zS (m.kids.map λx=>aI x.p) HD;have h2:=aD8 List.length SY;rw[aDd,List.length_singleton]at h2;omega
 have xx:Hid (∀j,(Dc (H0++HA.take j)).length<=1000000):=zq λj=>by have h1:=zS (HA.drop j) (H0++HA.take j);rw[aDA,aDS,<-ED]at h1;omega
 obtain⟨G0,hG0⟩:∃G0:By,G0=[40,103,114,111,117,112,32]++PL:=⟨_,rfl⟩
 have amd:G0=Dc H0:=by rw[V9,show [aT dX,bH m.lf.l]=[aT dX]++[bH m.lf.l] from rfl,qH aj,<-hPL,hG0];rfl
 have hlg:G0.length<=1000000:=by have:=xx.out 0;rw[List.take_zero,aD5,<-amd]at this;exact this
 have hlp:PL.length<=999993:=by rw[hG0,aDd]at hlg;simp only[aDh,aDZ]at hlg;omega
 have aqb:(⟨#[40,103,114,111,117,112,32]⟩:ByteArray)++⟨PL.toArray⟩=⟨G0.toArray⟩:=by rw[hG0];exact jD [40,103,114,111,117,112,32] _
 have hz0:=fJ PL;obtain⟨_,_,_,zf,_,OE,_⟩:=hQ.at;have XL:=zq (λw1 (hE:Ev w w1)=>aiG m.lf.l m.lf.A m.lf.l.length m.lf.cap PL hPL w1 (zf.sl.ev hE) ae);have aiH:=OE.sl;have hca:=aiH.le;have hcm:=aiH.max;have HAS:=zq aiH;obtain⟨na,hna⟩:∃na,na=m.ag.l.length:=⟨_,rfl⟩
 have Iu:=zq hna;rw[<-hna]at p6 um hw0 hca|-;have N7:=zq (show HA.length=na by rw[aan,aC_,hna]);have HAD:=zq aan;have HDD:=zq ED;have au2:=zq amd;have HGA:=zq hg;have HNE:=zq ap';have au3:=zq aqa;have Nu:Hid (∀wz,Ev w0 wz->wz.cell? ⟨w.heap.size,6,none⟩=some (.slice m.ag.A na m.ag.cap)):=zq λwz hE=>by obtain⟨⟨_,_,_,_,_,_,h6,_⟩,_⟩:=(um.out.ev hE).eight;exact h6
 clear aV hB0 hQ h hk zf OE aiH hPL hG0 amd hna aan ED V9 hl0 hg ap' aqa;go_enter func50,ntmps50
 go_wp2_with (first
  | ((with_reducible refine(XL.out _ cO.out).mono ?_);rintro r w1 ⟨rfl,aJ⟩;have F1:=zq aJ;clear aJ))
 clear p0 p1 p2 p3 p4 p5 p6 p7 aqb;have q6:=Nu.out _ F1.out
 go_loopw [3,5] (λsv iv wr=>∃(j:Nat) (S:By),sv=↑S/\iv=↑j/\j<=na/\Hid (S=Dc (H0++HA.take j))/\Hid (Ev w0 wr)) (λ_ iv _=>na-(intOf iv).toNat)
 case atStart=>exact⟨0,G0,rfl,rfl,aDl _,zq (by rw[List.take_zero,aD5];exact au2.out),F1⟩
 case round=>
  obtain⟨j,S,rfl,rfl,hj,HS,yh⟩:=hrel;rename ak=>wa;clear q6;have q6:=Nu.out _ yh.out;have H5:S.length<=1000000:=by rw[HS.out];exact xx.out j
  have hz:=fJ S;by_cases hlt:j<na;obtain⟨a,ha⟩:=HAS.out.at (by rw[<-Iu.out];exact hlt);obtain⟨b,off,haA,hb,hcells⟩:=(HAS.out.ev (cO.out.trans yh.out)).rd (by rw[<-Iu.out];omega);have c0:=hcells j a ha 0 _ rfl;have c1:=hcells j a ha 1 _ rfl;have c2:=hcells j a ha 2 _ rfl;simp only[aDw]at c0;rw[haA]at q6;have hga:=HGA.out a (aDb ha);have hzj:HA[j]?=some (eH a):=by rw[HAD.out,aDG,ha];rfl
  have hap:=afD hga;have hlj:=xx.out (j+1);have htj:Dc (H0++HA.take (j+1))=S++(32::printS (eH a)):=by obtain⟨hk2,hz2⟩:=aC6.1 hzj;rw[aDi hk2,hz2,<-aDA,qH (by simp[HNE.out]),<-HS.out]
  rw[htj,hap]at hlj;rw[hap]at htj;obtain⟨an,af,ac_⟩:=a;simp only at c0 c1 c2 hlj htj hga;obtain⟨w3,hw3,jW,sK⟩:=ap_ wa ↑an ↑af ↑ac_;obtain⟨⟨e0,e1,e2⟩,_⟩:=sK.three;have U8:=zq (yh.out.trans jW);obtain⟨Q1,hQ1⟩:∃Q1,Q1=S++[32,40]:=⟨_,rfl⟩
  obtain⟨Q2,hQ2⟩:∃Q2,Q2=Q1++an:=⟨_,rfl⟩
  obtain⟨Q3,hQ3⟩:∃Q3,Q3=Q2++[32]:=⟨_,rfl⟩
  have k1:(⟨S.toArray⟩:ByteArray)++⟨#[32,40]⟩=⟨Q1.toArray⟩:=by rw[hQ1];exact jD S [32,40]
  have k2:(⟨Q1.toArray⟩:ByteArray)++⟨an.toArray⟩=⟨Q2.toArray⟩:=by rw[hQ2];exact jD _ _
  have k3:(⟨Q2.toArray⟩:ByteArray)++⟨#[32]⟩=⟨Q3.toArray⟩:=by rw[hQ3];exact jD Q2 [32]
  have s1:=fJ Q1;have s2:=fJ Q2;have s3:=fJ Q3;have s4:=fJ an;have i1:(0:Int)<=(j:Int):=ae;have i2:(j:Int)<(na:Int):=ae;by_cases hcn:af=dW;subst hcn;rw[if_pos rfl]at htj hlj;obtain⟨Q4,hQ4⟩:∃Q4,Q4=Q3++dW:=⟨_,rfl⟩
  obtain⟨Q7,hQ7⟩:∃Q7,Q7=Q4++[41]:=⟨_,rfl⟩
  have hY:Q7=Dc (H0++HA.take (j+1)):=by rw[htj,hQ7,hQ4,hQ3,hQ2,hQ1];simp
  have hl7:Q7.length<=1000000:=by rw[hY];exact xx.out (j+1)
  have hl4:Q4.length+1<=1000000:=by rw[hQ7,aDd]at hl7;exact hl7
  have hl3:Q3.length+5<=1000000:=by rw[hQ4,aDd]at hl4;simp only[dW,aDh,aDZ]at hl4;omega
  have hl2:Q2.length+1<=1000000:=by rw[hQ3,aDd]at hl3;simp only[aDh,aDZ]at hl3;omega
  have Uj:Q1.length+an.length<=1000000:=by rw[hQ2,aDd]at hl2;omega
  have aly:S.length+2<=1000000:=by rw[hQ1,aDd]at Uj;simp only[aDh,aDZ]at Uj;omega
  have k4:(⟨Q3.toArray⟩:ByteArray)++⟨dW.toArray⟩=⟨Q4.toArray⟩:=by rw[hQ4];exact jD _ _
  have k7:(⟨Q4.toArray⟩:ByteArray)++⟨#[41]⟩=⟨Q7.toArray⟩:=by rw[hQ7];exact jD Q4 [41]
  have s5:=fJ Q4;have HY:=zq hY;clear hY hQ1 hQ2 hQ3 hQ4 hQ7 htj hlj hap hzj hga ha hcells haA jW sK;unfold dW at*;simp only[List.toArray]at k4 c1 e1 hw3;exact aH5;rw[if_neg hcn]at htj hlj;have hcb:(af==dW)=false:=aC7.2 hcn;obtain⟨Q4,hQ4⟩:∃Q4,Q4=Q3++af:=⟨_,rfl⟩
  obtain⟨Q5,hQ5⟩:∃Q5,Q5=Q4++[32]:=⟨_,rfl⟩
  obtain⟨Q6,hQ6⟩:∃Q6,Q6=Q5++ac_:=⟨_,rfl⟩
  obtain⟨Q7,hQ7⟩:∃Q7,Q7=Q6++[41]:=⟨_,rfl⟩
  have hY:Q7=Dc (H0++HA.take (j+1)):=by rw[htj,hQ7,hQ6,hQ5,hQ4,hQ3,hQ2,hQ1];simp
  have hl7:Q7.length<=1000000:=by rw[hY];exact xx.out (j+1)
  have hl6:Q6.length+1<=1000000:=by rw[hQ7,aDd]at hl7;exact hl7
  have hl5:Q5.length+ac_.length<=1000000:=by rw[hQ6,aDd]at hl6;omega
  have hl4:Q4.length+1<=1000000:=by rw[hQ5,aDd]at hl5;simp only[aDh,aDZ]at hl5;omega
  have hl3:Q3.length+af.length<=1000000:=by rw[hQ4,aDd]at hl4;omega
  have hl2:Q2.length+1<=1000000:=by rw[hQ3,aDd]at hl3;simp only[aDh,aDZ]at hl3;omega
  have Uj:Q1.length+an.length<=1000000:=by rw[hQ2,aDd]at hl2;omega
  have aly:S.length+2<=1000000:=by rw[hQ1,aDd]at Uj;simp only[aDh,aDZ]at Uj;omega
  have k4:(⟨Q3.toArray⟩:ByteArray)++⟨af.toArray⟩=⟨Q4.toArray⟩:=by rw[hQ4];exact jD _ _
  have k5:(⟨Q4.toArray⟩:ByteArray)++⟨#[32]⟩=⟨Q5.toArray⟩:=by rw[hQ5];exact jD Q4 [32]
  have k6:(⟨Q5.toArray⟩:ByteArray)++⟨ac_.toArray⟩=⟨Q6.toArray⟩:=by rw[hQ6];exact jD _ _
  have k7:(⟨Q6.toArray⟩:ByteArray)++⟨#[41]⟩=⟨Q7.toArray⟩:=by rw[hQ7];exact jD Q6 [41]
  have s5:=fJ Q4;have s6:=fJ Q5;have s7:=fJ Q6;have s8:=fJ af;have s9:=fJ ac_;have HY:=zq hY;clear hY hQ1 hQ2 hQ3 hQ4 hQ5 hQ6 hQ7 htj hlj hap hzj hga ha hcells haA jW sK hcn;unfold dW at*;exact aH5;obtain rfl:j=na:=ae;have rE:Hid (S=Dc HD):=zq (by rw[HS.out,HDD.out,aDj (by rw[N7.out];exact aC8 _)]);have EW:=zq (cO.out.trans yh.out);have BW:=zq (um.out.ev yh.out);go_wp2;have IV:=zq hlen;have HPR:=zq SY;have HKS:=zq hkp;have HQK:=zq (λx (hx:x∈m.kids) w1 (hE:Ev w w1)=>ih x hx w1 hE);have HTL:Hid (∀j,(Dc (HD++(m.kids.take j).map λx=>aI x.p)).length<=1000000):=zq λj=>by exact aG4
  obtain⟨nk,Ob⟩:∃nk,nk=m.kids.length:=⟨_,rfl⟩
  have HNK:=zq Ob;rw[<-Ob]at hle;have HB7:Hid (∀wz,Ev wa wz->wz.cell? ⟨w.heap.size,7,none⟩=some (.slice m.A nk m.cap)):=zq λwz hE=>by obtain⟨⟨_,_,_,_,_,_,_,h7⟩,_⟩:=(BW.out.ev hE).eight;rw[HNK.out];exact h7
  clear SY hlen hkp ih Ob;have b7:=HB7.out _ aS
  go_loopw [3,7] (λsv iv wr=>∃(j:Nat) (S:By),sv=↑S/\iv=↑j/\j<=nk/\Hid (S=Dc (HD++(m.kids.take j).map λx=>aI x.p))/\Hid (Ev wa wr)) (λ_ iv _=>nk-(intOf iv).toNat)
  case atStart=>exact⟨0,_,rfl,rfl,aDl _,zq (by simpa using rE.out),zq aS⟩
  case round=>
   obtain⟨j,S,rfl,rfl,hj,HS,yh⟩:=hrel;clear b7;have b7:=HB7.out _ yh.out;have hz:=fJ S;have H5:S.length<=1000000:=by rw[HS.out];exact HTL.out j
   by_cases hlt:j<nk;obtain⟨x,hx⟩:=HKS.out.at (by rw[<-HNK.out];exact hlt);have tq:=aDb hx;obtain⟨b,off,hbA,hb,_⟩:=(HKS.out.ev (EW.out.trans yh.out)).rd (by rw[<-HNK.out];omega);have yG:=HKS.out.ev (EW.out.trans yh.out);rw[hbA]at yG b7;obtain⟨c0,c1,c2,c3,c4,c5,c6,c7⟩:=Ps.cell yG hx;unfold dK.v PM.kv at*;have wP:=Qn hx;obtain⟨PX,hPX⟩:∃PX,PX=printS (aI x.p):=⟨_,rfl⟩
   obtain⟨Z,hZ⟩:∃Z,Z=S++[32]:=⟨_,rfl⟩
   obtain⟨Y,hY⟩:∃Y,Y=Z++PX:=⟨_,rfl⟩
   have hYT:Y=Dc (HD++(m.kids.take (j+1)).map λx=>aI x.p):=by rw[wP,<-aDA,qH (by simp[au3.out]),<-HS.out,hY,hZ,hPX];simp
   exact aFA;exact aGf
theorem acu{m:PM}(hg:m.p.good):∀t∈kQ m.kind m.name (m.ex.l.map M.t) m.co.l m.lf.l m.rt.l m.ag.l,t.fine=true/\t.size<=(aI m.p).size:=by
 obtain⟨_,_,hf⟩:=MM m.p hg;have he:=wH m.p;rw[he]at hf;have hall:=qh hf;intro t ht;have ht2:t∈kQ m.p.kind m.p.name m.p.exprs m.p.cols m.p.left m.p.right m.p.zo:=by rw[PM.tu];exact ht
 refine⟨hall t (aDy _ ht2),?_⟩;rw[he,su];have:=lN (aDF (f:=T.size) (aDy (m.p.kids.map aI) ht2));omega
theorem Y3{p k:Pl}(hk:k∈p.kids):(aI k).size<=(aI p).size/\(printS (aI k)).length<=(printS (aI p)).length:=by have hm:aI k∈kQ p.kind p.name p.exprs p.cols p.left p.right p.zo++p.kids.map aI:=aD7 _ (aDF hk);rw[wH p,su,Em];have e1:=lN (aDF (f:=T.size) hm);have e2:=CW _ true _ hm;exact⟨ae,ae⟩
def qL:List Int:=[1,5,7]
def EE:List By:=[gK,fA,lS,fD]
theorem afE(N:Nat):∀(m:PM) (b0:Nat) (w:ak),m.dep<=N->Qx b0 [] w m->m.p.inK qL=true->m.p.good->(aI m.p).size<=10000->(printS (aI m.p)).length<=1000000->
  Calls ax 50 #[pv m] w (zT m.p w):=by
 induction N with
 | zero=>
  intro m b0 w hd;rw[PM.vC]at hd;omega
 | succ N ih=>
  intro m b0 w hd h hK hg hs hl;obtain⟨TS,hKq⟩:=aal hK;have Be:m.p.kids=m.kids.map PM.p:=by rw[PM.tu];rfl
  have hI:∀x∈m.kids,∀w1,Ev w w1->Calls ax 50 #[pv x] w1 (zT x.p w1):=λx hx w1 hE=>by
   have hm:x.p∈m.p.kids:=by rw[Be];exact aDF hx
   have hb:=Y3 hm;exact ih x b0 w1 (by have:=PM.uH hx;omega) ((h.kid x hx).ev hE) (hKq x hx) (Gz hg _ hm) ae ae
  have hF:=acu hg;have hgh:zu m.kind m.name (m.ex.l.map M.t) m.co.l m.lf.l m.rt.l m.ag.l m.kids.length:=by have h1:=hg;rw[PM.tu,Pl.good,aC_]at h1;exact h1.1
  rcases hgh with⟨hk,_,_,_,_,_,_,hn⟩|⟨hk,_,⟨e,he,hge⟩,_⟩|⟨hk,_,he,hec,_⟩|⟨hk,_⟩|⟨hk,_⟩|⟨hk,_⟩|⟨hk,_,_,_,_,_,ha,_⟩
  exact S_ m b0 w h hk (aDv hn) hl;exact absurd TS (by rw[hk];decide);exact absurd TS (by rw[hk];decide);exact absurd TS (by rw[hk];decide);exact SX m b0 w h hk hl hI;exact absurd TS (by rw[hk];decide);exact Tc m b0 w h hk ha hl hI
theorem afF(N:Nat):∀(m:M) (gr:Nat) (e:Er) (b0:Nat) (w:ak),m.dep<=N->Rb gr e w->Lies b0 [gr] w m->m.t.every dY=true->m.t.size<=10000->m.t.every (noT EE)=true->
  Calls ax 123 #[.pointer ↑gr,.agg ↑m] w (yJ gr e m.t w):=by
 induction N with
 | zero=>
  intro m gr e b0 w hd;rw[M.vC]at hd;omega
 | succ N ih=>
  intro m gr e b0 w hd hB hL hfair hsz hno
  cases hf:h_ m.t
  exact VS m gr e b0 w hB hL hf;obtain⟨x,q,hq⟩:∃x q,m.kids=x::q:=by
   cases hk:m.kids with
   | nil=>
    rw[zH,hk]at hf;simp at hf
   | cons x q=>exact⟨x,q,rfl⟩
  have hih:∀y∈q,∀w1 e1,But [gr] w w1->Rb gr e1 w1->Calls ax 123 #[.pointer ↑gr,.agg ↑y] w1 (yJ gr e1 y.t w1):=λy hy w1 e1 hb hB1=>by
   have WG:y∈m.kids:=by rw[hq];exact aDc _ hy
   have hqs:=yc hq hy hfair hsz;exact ih y gr e1 b0 w1 (by have:=M.uH WG;omega) hB1 ((hL.kid y WG).move hb λ_ hz=>.inl hz) hqs.1 hqs.2 (SV hno WG).1
  have hk:fG x.s≠0:=λh0=>by
   have:=(x8 hq hf).2.2.1;rw[h0]at this
   cases this
  have hxb:=(SV hno (show x∈m.kids by rw[hq];exact aC')).2;rcases Iz hk with hs|hs|hs|hs|hs|hs|hs;exact Sr m gr e b0 w hB hL hfair hsz hf x q hq hs hih;rw[hs]at hxb;exact absurd hxb ai;rw[hs]at hxb;exact absurd hxb ai;rw[hs]at hxb;exact absurd hxb ai;exact Sv m gr e b0 w hB hL hfair hsz hf x q hq hs hih;rw[hs]at hxb;exact absurd hxb ai;exact Sz m gr e b0 w hB hL hfair hsz hf x q hq hs hih
theorem afG(N:Nat):∀(m:PM) (b0:Nat) (w:ak),m.dep<=N->Qx b0 [] w m->m.p.fit->m.p.inK qL=true->
  Calls ax 121 #[pv m] w (oV (aI m.p) w):=by
 induction N with
 | zero=>
  intro m b0 w hd;rw[PM.vC]at hd;omega
 | succ N ih=>
  intro m b0 w hd h hf hK;obtain⟨TS,hKq⟩:=aal hK;obtain⟨⟨hk,hes,h3,hel,kN,hrl,Jj,hkn⟩,hkf⟩:=ae7 hf;rw[aC_]at hel h3;have hrx:∀x∈m.ex.l,pI x.t=true/\x.t.size<=16000/\x.t.every (λt=>decide (t.s.length<=1000000))=true:=λx hx=>hes x.t (aDF hx);have ih2:∀x∈m.kids,∀w1,Ev w w1->Calls ax 121 #[pv x] w1 (oV (aI x.p) w1):=λx hx w1 hE=>ih x b0 w1 (by have:=PM.uH hx;omega) ((h.kid x hx).ev hE) (hkf x hx) (hKq x hx);rcases hk with hk|hk|hk|hk|hk|hk|hk;exact RN m b0 w h hk hkn ih2;exact absurd TS (by rw[hk];decide);exact absurd TS (by rw[hk];decide);exact absurd TS (by rw[hk];decide);exact RS m b0 w h hk hkn ih2;exact absurd TS (by rw[hk];decide);exact RU m b0 w h hk kN Jj hkn ih2
theorem V_(m:PM)(b0:Nat)(w:ak)(hT:Tab w)(h:Qx b0 [] w m)(hf:m.p.fit)(hK:m.p.inK qL=true)(hsz:(aI m.p).size<=100000)(hlen:(printS (aI m.p)).length<=1000000)(hne:printS (aI m.p)≠[])(hfit:BC (aI m.p)=true):
  Calls ax 70 #[pv m] w λr w'=>r=.returned (.string ⟨(printS (aI m.p)).toArray⟩)/\Ev w w':=by
 have HT:=zq (λw1 (hE:Ev w w1)=>afG m.dep m b0 w1 (aC8 _) (h.ev hE) hf hK);have HP:=zq (λ(x:M) (hx:x.t=aI m.p) b1 w1 (hE:Ev w w1) (hl:Lies b1 [] w1 x)=>VH (hT.ev hE) hl (by rw[hx];exact hsz) (by rw[hx];exact hlen) (.inl (by rw[hx];exact hne)) (by rw[hx];exact hfit));unfold pv dK.v PM.kv oV at*;obtain⟨R,hR⟩:∃R,R=aI m.p:=⟨_,rfl⟩
 rw[<-hR]at HT HP|-;have hB:=Bx.new 35 ↑m w;obtain⟨⟨p0,p1,p2,p3,p4,p5,p6,p7⟩,_⟩:=hB.eight;clear hT h hf hK hsz hlen hne hfit hR hB;go_enter func70,ntmps70
 go_wp2_with (first
  | ((with_reducible refine(HT.out _ (Ev.alloc w _)).mono ?_);rintro r w1 ⟨x,rfl,qB,lD,aJ⟩;have Am:=zq qB;have IZ:=zq lD;have E1:=zq ((Ev.alloc w _).trans aJ);have HPX:=zq (HP.out x qB _ w1 E1.out lD);rw[Am.out]at HPX;clear qB lD p0 p1 p2 p3 p4 p5 p6 p7)
  | ((with_reducible refine(HPX.out).mono ?_);rintro r w2 ⟨rfl,dJ⟩))
 go_ret;exact⟨rfl,E1.out.trans dJ⟩
theorem afH(s:By)(w:ak)(hT:Tab w)(hs:s.length<=100000)(hno:(fH s).1.every (noT EE)=true)(hin:(pPlan (fH s).1).inK qL=true)(hc:(fH s).2.1=0)(he:(dD (fH s).1).1=0)(hlong:¬600<(printS (aI (pPlan (fH s).1))).length):Calls ax 71 #[↑s] w (gJ (yz s) w):=by
 have hP:yz s=pFrom (fH s).1:=by unfold yz;rw[if_pos (by simpa using hc)]
 obtain⟨zk,aqf,hsize⟩:=aej s hc;have hS:=λw1=>aht ⟨s.toArray⟩ w1 (by simpa[ByteArray.size] using hs);simp only at hS;unfold Jl at hS;rw[hc]at hS;rw[hP];unfold gJ;generalize (fH s).2.2=ps at*;generalize (fH s).1=TT at*;obtain⟨hW,Oc⟩:=RX zk hsize he;have HW:=zq hW;have hR1:pFrom TT=(pPlan TT,0,0):=by unfold pFrom;rw[if_pos (by simpa using he),if_neg hlong]
 rw[hR1];simp only;have HNO:=zq hno;have WS:=zq hin;have HLG:=zq hlong;have HO:=zq ((apb (dD TT)).1.2 he);clear hW Oc hR1 hlong hno hin;have HS:=zq hS;have HF:=zq zk;have HZ:=zq hsize;have au6:=zq hT;obtain⟨w0,hw0,aV,hR,hs0⟩:=SA w;have HR:=zq hR;have HE:=zq aV;clear hP hS hR aV hs hc zk aqf hsize hT;go_enter func71,ntmps71
 go_wp2_with (first
  | ((with_reducible refine(HS.out _).mono ?_);rintro r w1 ⟨t,rfl,ht,hl,aJ⟩;obtain⟨w2,hw2,dJ,hT2,aqg,hs2⟩:=apa w1 ↑t.kind ↑t.s ↑t.n (.slice t.A t.kids.length t.cap) ↑t.pos;have jE:=zq aJ;have uX:=zq dJ;have HT:=zq ht;have HL:=zq hl;have HRB:=zq aqg;have N9:=zq aJ.size;obtain⟨⟨d0,d1,d2,d3,d4⟩,_⟩:=hT2.five;clear ht hl aJ dJ hT2 aqg))
 have hLL:=(HL.out.less (K':=[w1.heap.size+1]) λk hk=>by simp at hk;subst hk;exact .inr (.inr ae)).ev uX.out;have HPL:=zq (afF t.dep t (w1.heap.size+1) (0,0) w0.heap.size w2 (aC8 _) HRB.out hLL (by rw[HT.out];exact(lC _ HF.out).1) (by rw[HT.out];have:=HZ.out;omega) (by rw[HT.out];exact HNO.out));clear hLL;refine(HPL.out).mono ?_;rintro r w3 ⟨p,rfl,wJ,WB,rX⟩;rw[HT.out]at wJ rX;obtain⟨⟨ec,ep⟩,OJ⟩:∃e,e=iy (0,0) (dD TT):=⟨_,rfl⟩;rw[<-OJ]at rX HO;obtain rfl:ec=0:=HO.out;clear HO OJ;obtain⟨w4,hw4,gy,TP⟩:=aij w3 ↑p.kind ↑p.name (.slice p.ex.A p.ex.l.length p.ex.cap) (.slice p.co.A p.co.l.length p.co.cap) (.slice p.lf.A p.lf.l.length p.lf.cap) (.slice p.rt.A p.rt.l.length p.rt.cap) (.slice p.ag.A p.ag.l.length p.ag.cap) (.slice p.A p.kids.length p.cap);have Nq:=zq wJ;have HPQ:=zq WB;have HE4:=zq gy;have HB4:=zq TP;have aqh:Ev w w3:=But.ae0 (HE.out.trans (jE.out.trans uX.out)) rX.but λk hk=>by simp at hk;subst hk;have:=N9.out;omega
 have HEV:=zq (aqh.trans gy);have HRX:=zq (((HR.out.ev (jE.out.trans uX.out)).but rX.but (by simp;have:=N9.out;omega)).ev gy);obtain⟨⟨q0,q1⟩,_⟩:=(rX.bx.ev gy).two;(try simp only at q0 q1);obtain⟨⟨p0,p1,p2,p3,p4,p5,p6,p7⟩,_⟩:=TP.eight;obtain⟨⟨r0,r1,r2,r3,r4,r5,r6,r7⟩,s0,s1,s2,s3,s4,s5,s6,s7⟩:=HRX.out.eight;clear aqh wJ WB rX gy TP d0 d1 d2 d3 d4 HPL
 go_wp2_with (first
  | fail
  | (have HSH:=zq (V_ p w2.heap.size w4 (au6.out.ev HEV.out) (HPQ.out.ev HE4.out) (by rw[Nq.out];exact HW.out.fit) (by rw[Nq.out];exact WS.out) (by rw[Nq.out];have:=HW.out.size;omega) (by rw[Nq.out];exact HW.out.len) (by rw[Nq.out];exact HW.out.ne) (by rw[Nq.out];exact HW.out.fits));unfold pv dK.v PM.kv at HSH;rw[Nq.out]at HSH;generalize printS (aI (pPlan TT))=PS at HSH HLG;have i9:¬((600:Int)<(PS.length:Int)):=(by have:=HLG.out;omega);(with_reducible refine(HSH.out).mono ?_);rintro r w5 ⟨rfl,qP⟩;have I_:=zq qP;clear qP p0 p1 p2 p3 p4 p5 p6 p7 r0 r1 r2 r3 r4 r5 r6 r7 s0 s1 s2 s3 s4 s5 s6 s7 q0 q1;obtain⟨⟨p0,p1,p2,p3,p4,p5,p6,p7⟩,_⟩:=(HB4.out.ev I_.out).eight;obtain⟨⟨r0,r1,r2,r3,r4,r5,r6,r7⟩,s0,s1,s2,s3,s4,s5,s6,s7⟩:=(HRX.out.ev I_.out).eight;skip))
 (try simp only[Exit.inBlock,Exit.then]);rw[gI];refine aFe (aN rfl _ _ _ _ _ rfl ((HRX.out.ev I_.out).mi _ _ _ _ _ _ _ _) underlying35 rfl Tryz.iI) rfl ?_;have hlt:w.heap.size<w2.heap.size:=by have:=N9.out;omega
 exact⟨p,rfl,Nq.out,((((HPQ.out.ev HE4.out).ev I_.out).less (K':=[w.heap.size]) λk hk=>by simp at hk;subst hk;exact .inr (.inl hlt)).move (fB _ _ _ _ _ _ _ _ _ _) λk hk=>by cases hk).low (Nat.le_of_lt hlt),(HEV.out.trans I_.out).box (fB _ _ _ _ _ _ _ _ _ _) (aC8 _)⟩
def qI(L:List Pp):List By:=(L.filter λx=>x.2.kind==1).map λx=>x.2.name
theorem amh(s:By)(x:PM):t_ s x.p=if x.kind=1/\x.name=s then 1 else 0:=by rw[PM.tu];rfl
theorem aao(s:By):∀L:List Pp,s∈qI L↔0<kH (t_ s) L
 | []=>by simp[qI,kH]
 | x::L=>by
  have ih:=aao s L;have hs:kH (t_ s) (x::L)=t_ s x.2.p+kH (t_ s) L:=by simp[kH]
  rw[hs,amh];unfold qI at ih|-;by_cases hk:x.2.kind=1;rw[List.filter_cons,if_pos (by simp[hk]),aDe,aDg,ih];by_cases hn:x.2.name=s;rw[if_pos ⟨hk,hn⟩];constructor;intro _;omega;intro _;exact .inl hn.symm;rw[if_neg (λh=>hn h.2)];constructor;rintro (h|h);exact absurd h.symm hn;omega;intro h;exact .inr ae;rw[List.filter_cons,if_neg (by simp[hk]),if_neg (λh=>hk h.1),ih];omega
theorem OL(L:List Pp){j:Nat}{x:Pp}(hx:L[j]?=some x):qI (L.take (j+1))=qI (L.take j)++(if x.2.kind==1 then [x.2.name] else []):=by
 unfold qI;rw[(drop_at hx).2,List.filter_append,aDk];congr 1
 cases hk:x.2.kind==1<;>simp[hk]
def Y4(p:Pl)(w:ak)(e:Ending)(w':ak):Prop:=∃(A:Option Addr) (n cap:Nat) (ns:List By),e=.returned (.slice A n cap)/\Ss w' A n cap (Lib.compact (nG ns))/\(∀s,s∈ns↔0<p.sum (t_ s))/\n<=131072/\Ev w w'
theorem acw(m:PM)(b0:Nat)(w:ak)(h:Qx b0 [] w m)(hsz:m.p.size<=131072):
  Calls ax 25 #[pv m] w (Y4 m.p w):=by
 have HW:=zq (λw1 (hE:Ev w w1)=>Qi m b0 131072 w1 (h.ev hE) ae ae ae);unfold Qh at HW;have hB:=Bx.new 35 ↑m w;have aV:=Ev.alloc w (.cells ↑m 35);obtain⟨⟨p0,p1,p2,p3,p4,p5,p6,p7⟩,_⟩:=hB.eight;have HE:=zq aV;have Kw:=zq hsz;unfold Y4;unfold pv dK.v PM.kv at*;rw[show ((131072:Nat):Int)=131072 from rfl]at HW;clear h hB aV hsz;go_enter func25,ntmps25
 go_wp2_with (first
  | ((with_reducible refine(HW.out _ HE.out).mono ?_);rintro e w1 (⟨A,n,cap,L,_,rfl,hS,hP,hf,_,dJ⟩|⟨_,hgt,_⟩);rotate_left;exact absurd Kw.out ae;simp only[];have HL:=zq hS;have HP:=zq hP;have HF:=zq hf;have hnl:=zq hS.len;have HN:Hid (n<=131072):=zq (by rw[<-hS.len,<-AO,hf,JC];exact Kw.out);have hcp:=hS.le;have hcm:=hS.max;have jE:=zq (HE.out.trans dJ);clear hS hP hf dJ p0 p1 p2 p3 p4 p5 p6 p7))
 have aAI:=HN.out
 go_loopw [5,15] (λnv iv wr=>∃(A1:Option Addr) (n1 cap1 j:Nat) (ns:List By),nv=.slice A1 n1 cap1/\iv=↑j/\j<=n/\Hid (n1=ns.length/\ns.length<=j)/\Hid (ahN w1 (.slice A1 n1 cap1) ns wr)/\Hid (ns=qI (L.take j))) (λ_ iv _=>n-(intOf iv).toNat)
 case atStart=>exact⟨none,0,0,0,[],rfl,rfl,aDl _,zq ⟨rfl,aC8 _⟩,zq ⟨Ow.nil_ _,Ev.refl _⟩,zq rfl⟩
 case round=>
  obtain⟨A1,n1,cap1,j,ns,rfl,rfl,hj,rQ,HS,HR⟩:=hrel;by_cases hlt:j<n
  ·obtain⟨x,hx⟩:=HL.out.at hlt;obtain⟨b,off,rfl,hb,_⟩:=(HL.out.ev HS.out.ev).rd ae;have c0:=SC (HL.out.ev HS.out.ev) hx;obtain⟨b',off',e',hb',p0,p1,p2,p3,p4,p5,p6,p7⟩:=(HP.out x (aDb hx)).ev HS.out.ev;rw[e']at c0;have mr:Hid (qI (L.take (j+1))=ns++(if x.2.kind==1 then [x.2.name] else [])):=zq (by rw[OL L hx,<-HR.out]);have i1:(0:Int)<=(j:Int):=ae;have i2:(j:Int)<(n:Int):=ae;clear hx e' p2 p3 p4 p5 p6 p7;by_cases hk:x.2.kind=1
   ·have hkb:(x.2.kind==1)=true:=aDn.2 hk;rw[hkb]at mr;simp only[aDL]at mr;have hns:=zq rQ.out.2;rw[hk]at p0;clear hk hkb
    go_wp2_with (first
     | ((show wpList _ _ _ (⟨some 30,_,_,_,_,_⟩::_) _ _);refine aQ (o:=⟨some 30,_,_,_,_,_⟩) rfl 31 (.tmp 24) (.tmp 29) rfl qU underlying31 Tryz.Rj rfl rfl (HS.out.own.ev aC) _ 1 1 [x.2.name] rfl (Sl.one (et:=9) qU _ x.2.name _ rfl) (by have:=hns.out;simp;omega) (by have:=hns.out;simp;omega) (HS.out.ev.trans aC).size ?_;intro v2 w2 iq;have E2:Ev w1 w2:=((But.aU (HS.out.ev.trans aC)).then iq.2.1).ev (λk hk=>(HS.out.own.lt (aG.1 hk)).1);obtain⟨A2,cap2,rfl,_,Mc⟩:=iq.1.form qU;clear Mc;generalize qX:(ns++[x.2.name]).length=nn at iq|-;have xy:=zq qX.symm;clear qX))
    go_roundw
    case rel=>exact⟨A2,nn,cap2,j+1,ns++[x.2.name],rfl,by go_num,ae,zq ⟨xy.out,by rw[aDd];have:=hns.out;simp;omega⟩,zq ⟨iq.1,E2⟩,zq mr.out.symm⟩
    case measure=>simp[intOf];omega
   have hkb:(x.2.kind==1)=false:=aC7.2 hk;rw[hkb]at mr;simp only[aDq,aDU,aD5]at mr;go_wp2;go_roundw
   case rel=>exact⟨A1,n1,cap1,j+1,ns,rfl,by go_num,ae,zq ⟨rQ.out.1,Nat.le_succ_of_le rQ.out.2⟩,HS,zq mr.out.symm⟩
   case measure=>simp[intOf];omega
  have hjn:j=n:=ae;have i2:¬((j:Int)<(n:Int)):=ae;have N7:Hid (∀s,s∈ns↔0<m.p.sum (t_ s)):=zq λs=>by rw[HR.out,hjn,aDj (by rw[hnl.out];exact aC8 _),aao,HF.out]
  have aqi:Hid (ns.length<=131072):=zq (by have:=rQ.out.2;omega);have HN1:=zq rQ.out.1;clear hjn HR rQ;by_cases hz:ns=[]
  ·subst hz;obtain rfl:n1=0:=HN1.out;have HSN:=zq (λw5=>Tryz.slices_Sort_string_none A1 cap1 w5);have HCN:=zq (λw5=>Tryz.slices_Compact_string_empty A1 cap1 w5);have HF0:Hid (Ss wr A1 0 cap1 []):=zq (by
    obtain⟨A2,cap2,hv,qJ,I7⟩:=HS.out.own.form qU;injection hv with h1 h2 h3
    subst h1 h3;exact qJ)
   go_wp2_with (first
    | ((with_reducible refine(HSN.out _).mono ?_);rintro e w3 ⟨rfl,rfl⟩)
    | ((with_reducible refine(HCN.out _).mono ?_);rintro e w4 ⟨rfl,rfl⟩))
   go_ret;exact⟨A1,0,cap1,[],rfl,by rw[show Lib.compact (nG [])=[] by unfold nG;simp[Lib.compact,Lib.compactUpTo]];exact HF0.out,N7.out,aDl _,jE.out.trans HS.out.ev⟩
  have hgg:∃g,A1=some ⟨g,0,none⟩:=by
   rcases HS.out.own.2 with⟨_,h2⟩|⟨g,cap,cur,e,_⟩
   exact absurd (aDv h2) hz;injection e with e1
   exact⟨g,e1⟩
  obtain⟨g,rfl⟩:=hgg;have H5:(nG ns).length=ns.length:=by unfold nG;simp
  have aqj:(nG ns).length<=131072:=by rw[H5];exact aqi.out
  have HSO:=zq (ahM HS.out.own (by have:=aqi.out;omega));have HCO:=zq (λw5 (h5:Ow 9 1 sc w1.heap.size w5 (.slice ↑g n1 cap1) (nG ns))=>XV h5 ae);have HGL:=zq (HS.out.own.lt (g:=g) rfl).1;have HCL:Hid ((Lib.compact (nG ns)).length<=131072):=zq (aDr (LX (nG ns)) aqj);clear H5 aqj;generalize hcc:(Lib.compact (nG ns)).length=cc at*;have Oa:=zq hcc;clear hz hcc
  go_wp2_with (first
   | ((with_reducible refine(HSO.out).mono ?_);rintro e w3 ⟨rfl,hO3,sK⟩;have HO3:=zq hO3;have HB3:=zq sK;clear hO3 sK)
   | ((with_reducible refine(HCO.out _ HO3.out).mono ?_);rintro e w4 ⟨rfl,hO4,TP⟩;have HO4:=zq hO4;have HB4:=zq TP;clear hO4 TP))
  go_ret;refine⟨some ⟨g,0,none⟩,cc,cap1,ns,rfl,?_,N7.out,HCL.out,jE.out.trans (((But.aU HS.out.ev).then (HB3.out.then HB4.out)).ev λk hk=>?_)⟩;obtain⟨A2,cap2,hv,qJ,_⟩:=HO4.out.form qU;injection hv with h1 h2 h3
  subst h1 h3;rw[Oa.out]at qJ;exact qJ;simp at hk;subst hk;exact HGL.out
theorem WrP.print{p:Pl}(h:WrP p):Cj p=printS (aI p):=by unfold Cj;rw[if_pos ⟨h.YF,h.deep⟩]
theorem WrP.ne{p:Pl}(h:WrP p):1<=(printS (aI p)).length:=(wG _ (MM p h.wr.good).2.2).1
end Go.Proofs.YtbgmhhfjkkfhpaaGreatDoor
