import Derived.Test.YtpbfokkocaemlaaGreatDoorZ27P
import Derived.Test.YtpbfokkocaemlaaGreatDoorZ24P
set_option linter.unusedVariables false
set_option maxRecDepth 100000
set_option maxHeartbeats 64000000
namespace Go.Proofs.YtpbfokkocaemlaaGreatDoor
open Go.RowKit
open Go.Lib renaming hid → zq
open Go renaming World → ak
open Go renaming Value → au
open Go.Proofs.Tryz renaming prog → ax
variable {U:Prop}
open Go.Proofs.Tryz
def akI(e:T):Prop:=dX e=true/\e.size<=16000/\e.every (λt=>decide (t.s.length<=1000000))=true
def Yg(k:Int)(es:List T)(cs lf rt:List By)(ag:List Ag)(nk:Nat):Prop:=
 (k=1∨k=2∨k=3∨k=4∨k=5∨k=6∨k=7)/\(∀e∈es,akI e)/\(k=3->es.length=cs.length)/\es.length<=10000/\lf.length<=10000/\rt.length<=10000/\ag.length<=10000/\nk<=10000
mutual
def Pl.fit:Pl->Prop
 | .mk k _ es cs lf rt ag l=>Yg k es cs lf rt ag l.length/\Pl.fits l
def Pl.fits:List Pl->Prop
 | []=>True
 | p::l=>p.fit/\Pl.fits l
end
theorem Pl.fits_all:∀l:List Pl,Pl.fits l↔∀p∈l,p.fit
 | []=>by simp[Pl.fits]
 | p::l=>by simp[Pl.fits,Pl.fits_all l]
theorem Yh{m:PM}(h:m.p.fit):Yg m.kind (m.ex.l.map M.t) m.co.l m.lf.l m.rt.l m.ag.l m.kids.length/\∀x∈m.kids,x.p.fit:=by rw[PM.sW,Pl.fit,Pl.fits_all,awD]at h;exact⟨h.1,λx hx=>h.2 x.p (aw9 hx)⟩
theorem ae7(N:Nat):∀(m:PM) (b0:Nat) (w:ak),m.dep<=N->Qx b0 [] w m->m.p.fit->
  Calls ax 56 #[pv m] w (gB (aH m.p) w):=by
 induction N with
 | zero=>
  intro m b0 w hd;rw[PM.lh]at hd;omega
 | succ N ih=>
  intro m b0 w hd h hf;obtain⟨⟨hk,hes,h3,hel,jg,hrl,JW,hkn⟩,hkf⟩:=Yh hf;rw[awD]at hel h3;have hrx:∀x∈m.ex.l,dX x.t=true/\x.t.size<=16000/\x.t.every (λt=>decide (t.s.length<=1000000))=true:=λx hx=>hes x.t (aw9 hx);have ih2:∀x∈m.kids,∀w1,Ev w w1->Calls ax 56 #[pv x] w1 (gB (aH x.p) w1):=λx hx w1 hE=>ih x b0 w1 (by have:=PM.jY hx;omega) ((h.kid x hx).ev hE) (hkf x hx);rcases hk with hk|hk|hk|hk|hk|hk|hk;exact Qz m b0 w h hk hkn ih2;exact NQ m b0 w h hk hrx hel hkn ih2;exact KZ m b0 w h hk hrx hel (h3 hk) hkn ih2;exact Ua m b0 w h hk jg hrl hkn ih2;exact QB m b0 w h hk hkn ih2;exact IB m b0 w h hk hkn ih2;exact QC m b0 w h hk jg JW hkn ih2
theorem QE(m:PM)(b0:Nat)(w:ak)(hT:Tab w)(h:Qx b0 [] w m)(hf:m.p.fit)(hsz:(aH m.p).size<=100000)(hlen:(printS (aH m.p)).length<=1000000)(hne:printS (aH m.p)≠[])(hfit:xX (aH m.p)=true):
  Calls ax 29 #[pv m] w λr w'=>r=.returned (.string ⟨(printS (aH m.p)).toArray⟩)/\Ev w w':=by
 have HT:=zq (λw1 (hE:Ev w w1)=>ae7 m.dep m b0 w1 (awC _) (h.ev hE) hf);have HP:=zq (λ(x:M) (hx:x.t=aH m.p) b1 w1 (hE:Ev w w1) (hl:Lies b1 [] w1 x)=>Ie (hT.ev hE) hl (by rw[hx];exact hsz) (by rw[hx];exact hlen) (.inl (by rw[hx];exact hne)) (by rw[hx];exact hfit));unfold pv fH.v PM.kv gB at*;obtain⟨R,hR⟩:∃R,R=aH m.p:=⟨_,rfl⟩
 rw[<-hR]at HT HP|-;have hB:=Bx.new 32 ↑m w;obtain⟨⟨p0,p1,p2,p3,p4,p5,p6,p7⟩,_⟩:=hB.eight;clear hT h hf hsz hlen hne hfit hR hB;go_enter func29,ntmps29
 go_wp2_with (first
  | ((with_reducible refine(HT.out _ (Ev.alloc w _)).mono ?_);rintro r w1 ⟨x,rfl,jM,iH,aN⟩;have qK:=zq jM;have pX:=zq iH;have E1:=zq ((Ev.alloc w _).trans aN);have HPX:=zq (HP.out x jM _ w1 E1.out iH);rw[qK.out]at HPX;clear jM iH p0 p1 p2 p3 p4 p5 p6 p7)
  | ((with_reducible refine(HPX.out).mono ?_);rintro r w2 ⟨rfl,bM⟩))
 go_ret;exact⟨rfl,E1.out.trans bM⟩
theorem NS{s:By}{n:Int}{l:List T}{p:Nat}(h:(T.mk 2 s n l p).fine=true):s.length<=1000:=by
 rw[T.fine]at h;unfold iw at h;simp only[aw_,awF,awO,axq]at h;rcases h with h|((h|h)|h)
 exact absurd h.1.1.1 ai;exact h.1.2.2;exact absurd h.1.1.1 ai;exact absurd h.1.1.1 ai
mutual
theorem EG:∀t:T,t.fine=true->1<=(printS t).length/\(printS t).length+1<=1002*t.size
 | .mk k s n l p,h=>by
  have hl:=OX l;have hff:=(jT _ h).1;rw[T.every,awF]at hff;have hn:=(qo hff.1).1;have hz:=T.size_eq (.mk k s n l p);simp only[T.kids]at hz;rcases vI h with⟨h1,h2,h3,h4⟩|⟨h1,h2,h3,h4⟩|⟨h1,h2,h3⟩|⟨h1,h2,h3,h4⟩
  subst h1 h2 h3;have h5:=hl h4;have h6:=Kz l true;refine⟨by simp[printS],?_⟩;rw[printS,if_pos rfl,awR,awE,awR,axw];omega;subst h1 h2 h3;have h5:=NS h;have h6:=List.length_pos_iff.2 h4;rw[printS,if_neg ai,if_pos rfl];simp at hz;omega
  ·subst h1 h2 h3;have h5:=Lib.itoa_length_le n hn.1 hn.2;have h6:1<=(Lib.itoa n).length:=by unfold Lib.itoa;split;simp;rw[Lib.decDigits_length];unfold Lib.nDigits;split<;>omega
   rw[printS,if_neg ai,if_neg ai,if_pos rfl];simp at hz;omega
  subst h1 h2 h3;have h5:=abI h4;rw[printS,if_neg ai,if_neg ai,if_neg ai,if_pos rfl];simp at hz;omega
theorem OX:∀l:List T,(∀t∈l,t.fine=true)->(l.map λt=>(printS t).length+1).sum<=1002*(l.map T.size).sum
 | [],_=>by simp
 | a::l,h=>by have h1:=(EG a (h a (awL ..))).2;have h2:=OX l λt ht=>h t (awK _ ht);simp only[awI,axr];omega
end
theorem wY.size{e:T}(h:wY e):e.size<=(xTree e).size:=by have:=Kq (xTree e);rwa [h.back]at this
mutual
theorem K_{p q:T->Bool}(U7:∀t,p t=true->q t=true):∀t:T,t.every p=true->t.every q=true
 | .mk k s n l o,h=>by rw[T.every,awF]at h|-;exact⟨U7 _ h.1,Ig U7 l h.2⟩
theorem Ig{p q:T->Bool}(U7:∀t,p t=true->q t=true):∀l:List T,T.everys p l=true->T.everys q l=true
 | [],_=>rfl
 | a::l,h=>by rw[T.everys,awF]at h|-;exact⟨K_ U7 a h.1,Ig U7 l h.2⟩
end
theorem wY.fit{e:T}(h:wY e)(hs:(xTree e).size<=10000):akI e:=⟨h.right,by have:=h.size;omega,K_ (λt ht=>by
 unfold dh at ht;rw[awF,axq,axq]at ht;rw[axq];omega) e h.fair⟩
theorem uS(l:List T):(dG l).size=(l.map T.size).sum+1:=by have:=T.size_eq (dG l);simpa[dG,T.kids] using this
theorem Ue:∀l:List By,(l.map λ_=>1).sum=l.length
 | []=>rfl
 | a::l=>by rw[awI,axr,Ue l,awR];omega
theorem La(l:List By):(aX l).size=l.length+1:=by
 unfold aX;rw[uS,awT];have:l.map (T.size ∘ aS)=l.map λ_=>1:=axl λs _=>by have:=T.size_eq (aS s);simpa[aS,T.kids] using this
 rw[this,Ue]
theorem NT(k:Int)(nm:By)(es:List T)(cs lf rt:List By)(ag:List Ag)(l:List Pl)(hl:∀p∈l,p.good->(aH p).size<=10000->p.fit):(Pl.mk k nm es cs lf rt ag l).good->(aH (.mk k nm es cs lf rt ag l)).size<=10000->(Pl.mk k nm es cs lf rt ag l).fit:=by
 intro hg hs;rw[Pl.good,Pl.uM]at hg;rw[Pl.fit,Pl.fits_all];rw[aH,vF,uS,awM,axP]at hs;obtain⟨hh,hk⟩:=hg;have IA:∀p∈l,p.fit:=λp hp=>hl p hp (hk p hp) (by
  have h1:=iQ (aw9 (f:=T.size) (aw9 (f:=aH) hp));omega)
 have xO:l.length<=10000:=by have h1:=jZ (l.map aH);rw[awD]at h1;omega
 refine⟨?_,IA⟩;rcases hh with⟨rfl,_,rfl,rfl,rfl,rfl,rfl,_⟩|⟨rfl,_,⟨e,rfl,he⟩,rfl,rfl,rfl,rfl,_⟩|⟨rfl,_,he,TW,_,_,rfl,rfl,rfl,_⟩|⟨rfl,_,rfl,rfl,_,_,rfl,_⟩|⟨rfl,_,rfl,rfl,rfl,rfl,rfl,_⟩|⟨rfl,_,rfl,rfl,rfl,rfl,rfl,_⟩|⟨rfl,_,rfl,rfl,_,rfl,_,_⟩
 exact⟨.inl rfl,(λe h=>by cases h),(λh=>by cases h),aj,aj,aj,aj,xO⟩;have h1:(([aS eP,xTree e]:List T).map T.size).sum+((l.map aH).map T.size).sum+1<=10000:=hs;simp only[awI,awY,axr,aye]at h1;exact⟨.inr (.inl rfl),(λe' h=>by simp at h;subst h;exact he.fit ae),(λh=>by cases h),aj,aj,aj,aj,xO⟩;have h1:(((aS cZ::List.zipWith b_ cs es):List T).map T.size).sum+((l.map aH).map T.size).sum+1<=10000:=hs;simp only[awI,axr]at h1;have h2:=jZ (List.zipWith b_ cs es);rw[ax6]at h2;refine⟨.inr (.inr (.inl rfl)),λe h=>(he e h).fit ?_,λ_=>TW,ae,aj,aj,aj,xO⟩;obtain⟨i,hi⟩:=axU h;have MM:=(awz.1 hi).1;obtain⟨c,hc⟩:∃c,cs[i]?=some c:=⟨_,awX ae⟩
 have hm:b_ c e∈List.zipWith b_ cs es:=awG (i:=i) (by rw[List.getElem?_zipWith,hc,hi]);have h3:=iQ (aw9 (f:=T.size) hm);have h4:(b_ c e).size=(([aS c,xTree e]:List T).map T.size).sum+1:=uS _;simp only[awI,awY,axr,aye]at h4;omega;have h1:(([aS iD,aX lf,aX rt]:List T).map T.size).sum+((l.map aH).map T.size).sum+1<=10000:=hs;simp only[awI,awY,axr,aye,La]at h1;exact⟨.inr (.inr (.inr (.inl rfl))),(λe h=>by cases h),(λh=>by cases h),aj,ae,ae,aj,xO⟩;exact⟨.inr (.inr (.inr (.inr (.inl rfl)))),(λe h=>by cases h),(λh=>by cases h),aj,aj,aj,aj,xO⟩;exact⟨.inr (.inr (.inr (.inr (.inr (.inl rfl))))),(λe h=>by cases h),(λh=>by cases h),aj,aj,aj,aj,xO⟩;have h1:(((aS fB::aX lf::ag.map fK):List T).map T.size).sum+((l.map aH).map T.size).sum+1<=10000:=hs;simp only[awI,axr,La]at h1;have h2:=jZ (ag.map fK);rw[awD]at h2;exact⟨.inr (.inr (.inr (.inr (.inr (.inr rfl))))),(λe h=>by cases h),(λh=>by cases h),aj,ae,aj,ae,xO⟩
mutual
theorem Az:∀p:Pl,p.good->(aH p).size<=10000->p.fit
 | .mk k nm es cs lf rt ag l=>NT k nm es cs lf rt ag l (OY l)
theorem OY:∀l:List Pl,∀p∈l,p.good->(aH p).size<=10000->p.fit
 | []=>λp h=>by cases h
 | a::l=>by intro p h;rcases awN.1 h with h1|h1;rw[h1];exact Az a;exact OY l p h1
end
structure WrT(p:Pl):Prop where
 good:p.good
 fit:p.fit
 size:(aH p).size<=601
 len:(printS (aH p)).length<=1000000
 ne:printS (aH p)≠[]
 fits:xX (aH p)=true
theorem EH{t:T}(hf:t.fine=true)(hs:t.size<=601)(he:(bF t).1=0):WrT (pPlan t)/\aH (pPlan t)=t.strip:=by obtain⟨h1,h2⟩:=akj t hf he;have h3:=EG t hf;refine⟨⟨h2,Az _ h2 (by rw[h1,Dq];omega),by rw[h1,Dq];exact hs,by rw[h1,Aj];omega,?_,?_⟩,h1⟩;rw[h1,Aj];intro e;rw[e]at h3;simp at h3;rw[h1];exact Bh _ (jT _ (by rw[KJ];exact hf)).1
structure WrP(p:Pl):Prop where
 wr:WrT p
 deep:(aH p).deep<=12
 ae8:(printS (aH p)).length<=600
theorem Uf(p:Pl)(h:p.good):((printS (aH p)).length<=600->(aH p).deep<=12->ng (printS (aH p))=(p,0,0))/\
  (600<(printS (aH p)).length->(ng (printS (aH p))).2.1=3)/\((printS (aH p)).length<=600->12<(aH p).deep->(ng (printS (aH p))).2.1=14):=by
 obtain⟨h1,h2,h3⟩:=TJ p h;obtain⟨r1,r2,r3⟩:=VG (aH p) h3;refine⟨λhl hd=>?_,λhl=>?_,λhl hd=>?_⟩;obtain⟨t',ht,hr⟩:=r2 hl hd;have hp:pPlan t'=p:=by rw[<-Dt,ht,Dt,h1]
 have he:(bF t').1=0:=by rw[<-Gy,ht,Gy,h2]
 unfold ng pFrom;rw[hr];simp only[axe,aw4,he,hp];rw[if_neg ae];unfold ng;rw[r1 hl];rfl;obtain⟨x,hx⟩:=r3 hl hd;unfold ng;rw[hx];rfl
theorem Lc:∀(l:List T) (b:Bool) (t:T),t∈l->(printS t).length<=(printL b l).length
 | [],_,_,h=>by cases h
 | a::l,b,t,h=>by rw[printL,awE,awE];rcases awN.1 h with h1|h1;rw[h1];omega;have:=Lc l false t h1;omega
theorem Ld(l:List T):(printS (dG l)).length=(printL true l).length+2:=by rw[dG,u_,awR,awE];rfl
theorem AB(p:Pl):aH p=dG (kN p.kind p.name p.exprs p.cols p.left p.right p.Gs++p.kids.map aH):=by
 cases p
 rw[aH,vF];rfl
theorem OZ{p:Pl}(h:p.good):∀k∈p.kids,k.good:=by
 cases p
 rw[Pl.good,Pl.uM]at h;exact h.2
mutual
def Pl.sum(f:Pl->Nat):Pl->Nat
 | .mk k nm es cs lf rt ag l=>f (.mk k nm es cs lf rt ag l)+Pl.sums f l
def Pl.sums(f:Pl->Nat):List Pl->Nat
 | []=>0
 | p::l=>p.sum f+Pl.sums f l
end
theorem Pl.Ug(f:Pl->Nat):∀l:List Pl,Pl.sums f l=(l.map (Pl.sum f)).sum
 | []=>by simp[Pl.sums]
 | p::l=>by simp[Pl.sums,Pl.Ug f l]
theorem Pl.ahZ(f:Pl->Nat)(p:Pl):p.sum f=f p+(p.kids.map (Pl.sum f)).sum:=by
 cases p
 rw[Pl.sum,Pl.Ug];rfl
mutual
theorem Le:∀p:Pl,p.sum (λ_=>1)=p.size
 | .mk k nm es cs lf rt ag l=>by rw[Pl.sum,Pl.size,Lh l];omega
theorem Lh:∀l:List Pl,Pl.sums (λ_=>1) l=Pl.sizes l
 | []=>by simp[Pl.sums,Pl.sizes]
 | p::l=>by rw[Pl.sums,Pl.sizes,Le p,Lh l]
end
theorem Pl.size_eq(p:Pl):p.size=(p.kids.map Pl.size).sum+1:=by
 cases p
 rw[Pl.size,Pl.rD];rfl
theorem Pl.size_pos(p:Pl):1<=p.size:=by rw[Pl.size_eq];omega
def oW(p:Pl):Nat:=p.exprs.length+p.cols.length+p.left.length+p.right.length+p.Gs.length
theorem zx{α:Type}{f g:α->Nat}:∀l:List α,(∀x∈l,f x<=g x)->(l.map f).sum<=(l.map g).sum
 | [],_=>by simp
 | a::l,h=>by have h1:=h a (awL ..);have h2:=zx l λx hx=>h x (awK _ hx);simp only[awI,axr];omega
theorem GN:∀(l:List T) (b:Bool),(∀t∈l,1<=(printS t).length)->(l.map λt=>(printS t).length).sum+l.length<=(printL b l).length+(if b then 1 else 0)
 | [],b,_=>by simp
 | a::l,b,h=>by
  have h2:=GN l false λt ht=>h t (awK _ ht);rw[printL,awE,awE,awI,axr,awR]
  cases b<;>simp at h2|-<;>omega
theorem GR{l:List T}(h:∀t∈l,t.fine=true):∀t∈l,1<=(printS t).length:=λt ht=>(EG t (h t ht)).1
theorem Lj{l:List T}(h:∀t∈l,1<=(printS t).length):l.length<=(l.map λt=>(printS t).length).sum:=by
 have:=zx (f:=λ_=>1) l h;have e:∀l:List T,(l.map λ_=>1).sum=l.length:=λl=>by
  induction l with
  | nil=>rfl
  | cons a l ih=>rw[awI,axr,ih,awR];omega
 rw[e]at this;exact this
theorem oZ{l:List T}(h:(dG l).fine=true):∀t∈l,t.fine=true:=by
 rcases vI h with⟨_,_,_,h4⟩|⟨h1,_⟩|⟨h1,_⟩|⟨h1,_⟩
 exact h4;exact absurd h1 ai;exact absurd h1 ai;exact absurd h1 ai
theorem Ll(l:List By)(h:(aX l).fine=true):l.length+1<=(printS (aX l)).length:=by have h1:=GN (l.map aS) true (GR (oZ h));have h2:=Lj (GR (oZ h));rw[aX,Ld];rw[awD]at h1 h2;simp at h1;omega
theorem acm{p:Pl}(hg:p.good):oW p+1+(p.kids.map λk=>(printS (aH k)).length).sum<=(printS (aH p)).length:=by
 obtain⟨_,_,hf⟩:=TJ p hg;rw[AB p]at hf;have hall:=oZ hf;have hpos:=GR hall;have h1:=GN _ true hpos;rw[AB p,Ld];rw[awM,axP,awE,awD,awT]at h1;have ek:(p.kids.map ((λt=>(printS t).length) ∘ aH)).sum=(p.kids.map λk=>(printS (aH k)).length).sum:=rfl;rw[ek]at h1;have Ny:Ac p.kind p.name p.exprs p.cols p.left p.right p.Gs p.kids.length:=by
  cases p
  rw[Pl.good]at hg;exact hg.1
 have hhead:∀t∈kN p.kind p.name p.exprs p.cols p.left p.right p.Gs,1<=(printS t).length:=λt ht=>hpos t (awZ _ ht);have Lm:∀t∈kN p.kind p.name p.exprs p.cols p.left p.right p.Gs,t.fine=true:=λt ht=>hall t (awZ _ ht);have h2:=Lj hhead;simp only[aw4]at h1
 suffices hp:oW p<=((kN p.kind p.name p.exprs p.cols p.left p.right p.Gs).map λt=>(printS t).length).sum+(kN p.kind p.name p.exprs p.cols p.left p.right p.Gs).length by omega
 unfold oW;rcases Ny with⟨hk,_,he,hc,hl,hr,ha,_⟩|⟨hk,_,⟨e,he,_⟩,hc,hl,hr,ha,_⟩|⟨hk,_,_,TW,_,_,hl,hr,ha,_⟩|⟨hk,_,he,hc,_,_,ha,_⟩|⟨hk,_,he,hc,hl,hr,ha,_⟩|⟨hk,_,he,hc,hl,hr,ha,_⟩|⟨hk,_,he,hc,_,hr,_,_⟩
 rw[he,hc,hl,hr,ha];simp;rw[he,hc,hl,hr,ha,hk];rw[he,hk]at h2;simp[kN]at h2|-;rw[hl,hr,ha,hk];rw[hk]at h2;have e1:(kN 3 p.name p.exprs p.cols p.left p.right p.Gs).length=1+p.cols.length:=by show (aS cZ::List.zipWith b_ p.cols p.exprs).length=_;rw[awR,ax6];omega
 rw[hl,hr,ha]at h2 e1;simp only[axw];omega;rw[he,hc,ha,hk];rw[hk]at Lm;have f1:=Ll p.left (Lm _ (by simp[kN]));have f2:=Ll p.right (Lm _ (by simp[kN]));simp[kN];omega;rw[he,hc,hl,hr,ha];simp;rw[he,hc,hl,hr,ha];simp;rw[he,hc,hr,hk];rw[hk]at Lm;have f1:=Ll p.left (Lm _ (by simp[kN]));simp[kN];omega
mutual
theorem O0:∀p:Pl,p.good->p.sum (λq=>oW q+1)<=(printS (aH p)).length
 | .mk k nm es cs lf rt ag l,hg=>by have h1:=acm hg;have h2:=Lp l (OZ hg);rw[Pl.sum];simp only[Pl.kids]at h1;omega
theorem Lp:∀l:List Pl,(∀p∈l,p.good)->Pl.sums (λq=>oW q+1) l<=(l.map λk=>(printS (aH k)).length).sum
 | [],_=>by simp[Pl.sums]
 | p::l,h=>by have h1:=O0 p (h p (awL ..));have h2:=Lp l λx hx=>h x (awK _ hx);rw[Pl.sums,awI,axr];omega
end
theorem acn(f g:Pl->Nat):(∀p:Pl,p.sum (λq=>f q+g q)=p.sum f+p.sum g)/\∀l:List Pl,Pl.sums (λq=>f q+g q) l=Pl.sums f l+Pl.sums g l:=by
 have step:∀(N:Nat),(∀p:Pl,p.size<=N->p.sum (λq=>f q+g q)=p.sum f+p.sum g)/\∀l:List Pl,Pl.sizes l<=N->Pl.sums (λq=>f q+g q) l=Pl.sums f l+Pl.sums g l:=by
  intro N
  induction N with
  | zero=>
   refine⟨λp hp=>by have:=Pl.size_pos p;omega,λl hl=>?_⟩
   cases l with
   | nil=>simp[Pl.sums]
   | cons p l=>rw[Pl.sizes]at hl;have:=Pl.size_pos p;omega
  | succ N ih=>
   have hp:∀p:Pl,p.size<=N+1->p.sum (λq=>f q+g q)=p.sum f+p.sum g:=by
    intro p hp
    cases p with
    | mk k nm es cs lf rt ag l=>
     rw[Pl.size]at hp;have:=ih.2 l ae;rw[Pl.sum,Pl.sum,Pl.sum,this];omega
   refine⟨hp,λl=>?_⟩
   induction l with
   | nil=>intro _;simp[Pl.sums]
   | cons p l ihl=>
    intro hl;rw[Pl.sizes]at hl;rw[Pl.sums,Pl.sums,Pl.sums,hp p ae,ihl ae];omega
 exact⟨λp=>(step p.size).1 p (awC _),λl=>(step (Pl.sizes l)).2 l (awC _)⟩
def exA:T:=.mk 1 [97] 0 [] 0
theorem Lr{a:Er}(h:a.1≠0):∀l:List Er,l.foldl fU a=a
 | []=>rfl
 | e::l=>by rw[axT,show fU a e=a by unfold fU;simp[h]];exact Lr h l
theorem DI{a:Er}:∀l:List Er,(∀e∈l,e.1=0)->l.foldl fU a=a
 | [],_=>rfl
 | e::l,h=>by rw[axT,show fU a e=a by unfold fU;simp[h e (awL ..)]];exact DI l λx hx=>h x (awK _ hx)
theorem vK{l:List Er}{k:Nat}{e:Er}(h0:∀x∈l.take k,x.1=0)(he:l[k]?=some e)(hne:e.1≠0):aU l=e:=by
 obtain⟨hk,hx⟩:=awz.1 he;have hl:l=l.take k++e::l.drop (k+1):=by rw[<-hx,ax8,axs]
 unfold aU;rw[hl,axW,DI _ h0,axT,show fU (0,0) e=e by unfold fU;simp[hne],Lr hne]
theorem xu{l:List Er}(h0:∀x∈l,x.1=0):aU l=(0,0):=DI l h0
theorem Yi(m:M):Hu m.t=if f_ ⟨m.s.toArray⟩ then (m.s,(0,0)) else ([],(20,m.pos)):=by unfold Hu jO aY;rw[M.uK,M.G6]
theorem Jf(m:M):bK m.t=(Hu m.t).2:=by unfold bK Hu;split<;>rfl
def zM(l:List T):List By×Er:=if (aU (l.map bK)).1=0 then (l.map T.s,(0,0)) else ([],aU (l.map bK))
theorem ae9{l:List M}(h:∀x∈l,(bK x.t).1=0):zM (l.map M.t)=(l.map M.s,(0,0)):=by unfold zM;rw[if_pos ((gU _).2 λe he=>?_)];rw[awT];congr 1;exact axl λx _=>M.uK x;rw[awT]at he;obtain⟨x,hx,rfl⟩:=aw6.1 he;exact h x hx
theorem Uh{l:List M}{k:Nat}{x:M}(h:∀y∈l.take k,(bK y.t).1=0)(hx:l[k]?=some x)(hne:(bK x.t).1≠0):zM (l.map M.t)=([],bK x.t):=by
 have hf:aU ((l.map M.t).map bK)=bK x.t:=by refine vK (k:=k) (λe he=>?_) ?_ hne;rw[awT,<-axy]at he;obtain⟨y,hy,rfl⟩:=aw6.1 he;exact h y hy;rw[awT,axh,hx];rfl
 unfold zM;rw[if_neg (by rw[hf];exact hne),hf]
def QF(R:List By×Er)(w:ak)(e:Ending)(w':ak):Prop:=∃X:fH By,e=.returned (.tuple #[.slice X.A X.l.length X.cap,.int .i64 R.2.1,.int .i64 (R.2.2:Int)])/\X.l=R.1/\bI 1 sc w.heap.size [] w' X/\Ev w w'
theorem AL(l:List M)(A:Option Addr)(n cap:Nat)(w:ak)(h:Ms w A n cap l)(hn:n<=100000)(hs:∀x∈l,x.s.length<=1000000):
  Calls ax 82 #[.slice A n cap] w (QF (zM (l.map M.t)) w):=by
 have hcl:=h.le;have hcm:=h.max;have HL:=zq h.len;have H:=zq h;have HRN:=zq (λm (hm:m∈l) w1=>Bv m w1 (hs m hm));have kT:Hid (ahw w ↑() [] w):=zq ⟨Ow.nil_ _,Ev.refl _⟩;clear h hs;go_enter func82,ntmps82;go_wp2
 go_loopw [5,6] (λav iv wr=>∃(A1:Option Addr) (cap1 k:Nat),av=.slice A1 k cap1/\iv=↑k/\k<=n/\Hid (∀y∈l.take k,(bK y.t).1=0)/\Hid (ahw w (.slice A1 k cap1) ((l.take k).map M.s) wr)) (λ_ iv _=>n-(intOf iv).toNat)
 case atStart=>exact⟨none,0,0,rfl,rfl,awJ _,zq (λy hy=>by simp at hy),kT⟩
 case round=>
  obtain⟨A1,cap1,k,rfl,rfl,hk,HZ,HS⟩:=hrel;by_cases hlt:k<n
  ·obtain⟨x,hx⟩:=H.out.at hlt;obtain⟨b,off,rfl,hb,c0,c1,c2,c3,c4⟩:=Ms.cell (H.out.ev HS.out.ev) hx;unfold M.kv at c3;have gJ:=awG hx;have HN:=zq (HRN.out x gJ);have hR:=Yi x;have hE:=Jf x;rw[hR]at HN hE;have uf:Hid (((l.take k).map M.s).length=k):=zq (by rw[awD,axa,HL.out];omega);have jP:Hid ((l.take (k+1)).map M.s=(l.take k).map M.s++[x.s]/\((bK x.t).1=0->∀y∈l.take (k+1),(bK y.t).1=0)):=zq (by
    obtain⟨hk2,e1⟩:=awz.1 hx;rw[awH hk2,e1,awM];refine⟨rfl,λh0 y hy=>?_⟩;rcases awV.1 hy with h1|h1;exact HZ.out y h1;simp at h1;subst h1;exact h0)
   have HX:=zq hx;have HE:=zq hE;have i1:(0:Int)<=(k:Int):=ae;have i2:(k:Int)<(n:Int):=ae;clear hx gJ hR hE;generalize f_ ⟨x.s.toArray⟩=q at*
   cases q
   ·simp only[awP,aw7]at HN HE
    go_wp2_with (first
     | ((with_reducible refine(HN.out _).mono ?_);rintro r w1 ⟨rfl,aN⟩))
    go_ret3
    refine⟨fH.nil,?_,?_,bI.nil ..,HS.out.ev.trans aN⟩;rw[Uh HZ.out HX.out (by rw[HE.out];simp),HE.out];rfl;rw[Uh HZ.out HX.out (by rw[HE.out];simp)];rfl
   simp only[aw4]at HN HE
   go_wp2_with (first
    | ((with_reducible refine(HN.out _).mono ?_);rintro r w1 ⟨rfl,aN⟩;simp only[];have S1:=zq (⟨HS.out.own.ev aN,HS.out.ev.trans aN⟩:ahw w (.slice A1 k cap1) ((l.take k).map M.s) w1))
    | ((show wpList _ _ _ (⟨some 32,_,_,_,_,_⟩::_) _ _);refine aO (o:=⟨some 32,_,_,_,_,_⟩) rfl 22 (.tmp 29) (.tmp 31) rfl qY underlying22 Tryz.I_ rfl rfl (S1.out.own.ev aB) ↑w1 1 1 [x.s] rfl (Sl.one (et:=9) qY w1 x.s _ rfl) (by rw[uf.out];simp;omega) (by rw[uf.out];simp;omega) (S1.out.ev.trans aB).size ?_;intro v2 w2 dY;have E2:Ev w w2:=((But.aW (S1.out.ev.trans aB)).then dY.2.1).ev (λk hk=>(S1.out.own.lt (aG.1 hk)).1);obtain⟨A2,cap2,rfl,_,aoH⟩:=dY.1.form qY;clear aoH;generalize BO:((l.take k).map M.s++[x.s]).length=nn at dY|-;have Dh:Hid (nn=k+1):=zq (by rw[<-BO,awE,uf.out];rfl);clear BO;obtain rfl:=Dh.out))
   go_roundw
   case rel=>exact⟨A2,cap2,k+1,rfl,by go_num,ae,zq (jP.out.2 (by rw[HE.out])),zq ⟨by rw[jP.out.1];exact dY.1,E2⟩⟩
   case measure=>simp[intOf];omega
  obtain rfl:k=n:=ae;have HT:Hid (l.take k=l):=zq (awS (by rw[HL.out];exact awC _));go_wp2
  go_ret3
  have D8:=ae9 (l:=l) (by have:=HZ.out;rwa [HT.out]at this);obtain⟨X,hXv,wQ,yH⟩:=HS.out.own.sle qY;rw[HT.out]at wQ;rw[D8];refine⟨X,?_,wQ,yH,HS.out.ev⟩;unfold fH.v at hXv;rw[hXv];rfl
theorem Tryz.qC:(Tryz.prog.info? 54).map (·.size)=some 3:=ah
def Vb(t:T):Ag×Er:=if (aU (eG t)).1=0 then (kS t,(0,0)) else (([],[],[]),aU (eG t))
theorem aco(a:Er)(h:a.1≠0)(l:List Er):aU (a::l)=a:=vK (k:=0) (λx hx=>by simp at hx) rfl h
theorem ah0(a b:Er)(h0:a.1=0)(h:b.1≠0)(l:List Er):aU (a::b::l)=b:=vK (k:=1) (λx hx=>by simp at hx;subst hx;exact h0) rfl h
theorem Ls(a b c:Er)(h0:a.1=0)(h1:b.1=0)(h:c.1≠0)(l:List Er):aU (a::b::c::l)=c:=vK (k:=2) (λx hx=>by simp at hx;rcases hx with rfl|rfl;exact h0;exact h1) rfl h
def O3(R:Ag×Er)(w:ak)(e:Ending)(w':ak):Prop:=e=.returned (.tuple #[.agg #[.string ⟨R.1.1.toArray⟩,.string ⟨R.1.2.1.toArray⟩,.string ⟨R.1.2.2.toArray⟩],.int .i64 R.2.1,.int .i64 (R.2.2:Int)])/\Ev w w'
theorem agr(w:ak):∃w0,w.alloc (.cells #[.string ⟨#[]⟩,.string ⟨#[]⟩,.string ⟨#[]⟩] 54)=w0/\Ev w w0/\Bx 54 w.heap.size #[.string ⟨#[]⟩,.string ⟨#[]⟩,.string ⟨#[]⟩] w0/\w0.heap.size=w.heap.size+1:=⟨_,rfl,Ev.alloc _ _,Bx.new _ _ _,aj⟩
theorem vM{w w1:ak}{g:Nat}{c0 c1 c2:au}(hg:w.heap.size<=g)(hE:Ev w w1)(hB:Bx 54 g #[c0,c1,c2] w1)(v0 v1 v2:au):Bx 54 g #[v0,v1,v2] (yf g v0 v1 v2 w1)/\Ev w (yf g v0 v1 v2 w1):=⟨hB.yf _ _ _,But.yx hE (ve g v0 v1 v2 w1) λk hk=>by simp at hk;omega⟩
theorem aBU(h:U:=by refine ayr (aI rfl _ _ _ _ _ rfl f1 underlying54 rfl Tryz.qC) rfl ?_;exact⟨rfl,f2⟩):U:=h
theorem azT(h:U:=by(try simp only[Exit.inBlock,Exit.then]);rw[dI];obtain⟨f1,f2⟩:=vM (w:=w) (awC _) E1.out B1.out (.string ⟨#[]⟩) (.string ⟨#[]⟩) (.string ⟨#[]⟩);exact aBU):U:=h
theorem azq(h:U:=by
 go_region
 all_goals (
  go_wp2;(try simp only[Exit.inBlock,Exit.then]);rw[dI];obtain⟨f1,f2⟩:=vM (w:=w) (awC _) (E1.out.trans (Ev.drew _)) (B1.out.ev (Ev.drew _)) (.string ⟨#[]⟩) (.string ⟨#[]⟩) (.string ⟨#[]⟩);refine ayr (aI rfl _ _ _ _ _ rfl f1 underlying54 rfl Tryz.qC) rfl ?_;exact⟨rfl,f2⟩
 )):U:=h
theorem ae_(y a b:M)(w:ak)(h:Ms w y.A y.kids.length y.cap y.kids)(hk:y.kids=[a,b])(hs:∀x∈y.kids,x.s.length<=1000000):
  Calls ax 83 #[.slice y.A y.kids.length y.cap] w (O3 (Vb y.t) w):=by
 have hR:Vb y.t=if (aU [bK a.t,if isFun b.s false then (0,0) else (12,b.pos),(0,0)]).1=0 then ((a.s,b.s,[]),(0,0)) else (([],[],[]),aU [bK a.t,if isFun b.s false then (0,0) else (12,b.pos),(0,0)]):=by unfold Vb eG kS;rw[M.bD,hk];simp[at_,M.uK,M.G6]
 obtain⟨V,hV⟩:∃V,V=Vb y.t:=⟨_,rfl⟩
 rw[<-hV];rw[hR]at hV;rw[hk]at h hs|-;have AO:=zq (λw1=>Bv a w1 (hs a aj));have hRA:=Yi a;have hEA:=Jf a;have hcl:=h.le;have hcm:=h.max;obtain⟨bb,off,hA,Zr,_⟩:=Ms.cell h (i:=0) (x:=a) rfl;rw[hA]at h|-;have AP:=zq (λw1 (hE:Ev w w1)=>Ms.rf (h.ev hE) (i:=0) (x:=a) rfl);have uQ:=zq (λw1 (hE:Ev w w1)=>Ms.rf (h.ev hE) (i:=1) (x:=b) rfl);simp only[axi,aw2]at AP;simp only[axK]at uQ;simp only[awR,axw,aw3,Nat.reduceAdd]at hcl|-;obtain⟨w0,hw0,aV,hB0,acp⟩:=agr w;have cu:=zq aV;have ui:=zq hB0;obtain⟨⟨p0,p1,p2⟩,q0,q1,q2⟩:=hB0.three;obtain⟨a0,a1,a2,a3,a4⟩:=AP.out _ aV;obtain⟨b0,b1,b2,b3,b4⟩:=uQ.out _ aV;rw[hRA]at AO hEA;rw[hEA]at hV;clear hRA hEA hs h hA aV hB0 hk acp hR;generalize f_ ⟨a.s.toArray⟩=qa at*;unfold O3
 cases qa
 ·simp only[awP,aw7]at AO hV;rw[aco (20,a.pos) aj,if_neg aj]at hV;subst hV;go_enter func83,ntmps83
  go_wp2_with (first
   | ((with_reducible refine(AO.out _).mono ?_);rintro r w1 ⟨rfl,aN⟩;simp only[];have E1:=zq (cu.out.trans aN);have B1:=zq (ui.out.ev aN);clear aN p0 p1 p2 q0 q1 q2 a0 a1 a2 a3 a4 b0 b1 b2 b3 b4;obtain⟨⟨p0,p1,p2⟩,q0,q1,q2⟩:=B1.out.three;obtain⟨a0,a1,a2,a3,a4⟩:=AP.out _ E1.out;obtain⟨b0,b1,b2,b3,b4⟩:=uQ.out _ E1.out))
  exact azT
 simp only[aw4]at AO hV;by_cases hc:b.s=gK
 ·have hv2:V=((a.s,gK,[]),(0,0)):=by rw[hV,hc];rfl
  subst hv2;clear hV;rw[hc]at b1 uQ;clear hc;unfold gK at*;go_enter func83,ntmps83
  go_wp2_with (first
   | ((with_reducible refine(AO.out _).mono ?_);rintro r w1 ⟨rfl,aN⟩;simp only[];have E1:=zq (cu.out.trans aN);have B1:=zq (ui.out.ev aN);clear aN p0 p1 p2 q0 q1 q2 a0 a1 a2 a3 a4 b0 b1 b2 b3 b4;obtain⟨⟨p0,p1,p2⟩,q0,q1,q2⟩:=B1.out.three;obtain⟨a0,a1,a2,a3,a4⟩:=AP.out _ E1.out;obtain⟨b0,b1,b2,b3,b4⟩:=uQ.out _ E1.out))
  (try simp only[Exit.inBlock,Exit.then]);rw[dI];obtain⟨f1,f2⟩:=vM (w:=w) (awC _) E1.out B1.out ↑a.s (.string ⟨#[99,111,117,110,116]⟩) (.string ⟨#[]⟩);exact aBU
 have hcb:(b.s==gK)=false:=awy.2 hc;have hf:isFun b.s false=false:=by unfold isFun;rw[hcb];split<;>rfl
 have hv2:V=(([],[],[]),(12,b.pos)):=by rw[hV,hf];rfl
 subst hv2;clear hV hf;unfold gK at*;go_enter func83,ntmps83;go_upto_region 5 with (first
  | ((with_reducible refine(AO.out _).mono ?_);rintro r w1 ⟨rfl,aN⟩;simp only[];have E1:=zq (cu.out.trans aN);have B1:=zq (ui.out.ev aN);clear aN p0 p1 p2 q0 q1 q2 a0 a1 a2 a3 a4 b0 b1 b2 b3 b4;obtain⟨⟨p0,p1,p2⟩,q0,q1,q2⟩:=B1.out.three;obtain⟨a0,a1,a2,a3,a4⟩:=AP.out _ E1.out;obtain⟨b0,b1,b2,b3,b4⟩:=uQ.out _ E1.out))
 exact azq
theorem ayN(h:U:=by
 simp only[awP,aw7]at Jg hV;rw[Ls (0,0) (0,0) (20,c.pos) rfl rfl aj,if_neg aj]at hV;subst hV
 try unfold kR at*
 try unfold oU at*
 try unfold oV at*
 go_enter func83,ntmps83
 go_wp2_with (first
  | (have hh:=E1.out;(with_reducible refine(Jg.out _).mono ?_);rintro r w2 ⟨rfl,bM⟩;simp only[];have E2:=zq (E1.out.trans bM);have B2:=zq (B1.out.ev bM);clear bM p0 p1 p2 q0 q1 q2 a0 a1 a2 a3 a4 b0 b1 b2 b3 b4 d0 d1 d2 d3 d4;obtain⟨⟨p0,p1,p2⟩,q0,q1,q2⟩:=B2.out.three;obtain⟨a0,a1,a2,a3,a4⟩:=AP.out _ E2.out;obtain⟨b0,b1,b2,b3,b4⟩:=uQ.out _ E2.out;obtain⟨d0,d1,d2,d3,d4⟩:=Ht.out _ E2.out)
  | ((with_reducible refine(AO.out _).mono ?_);rintro r w1 ⟨rfl,aN⟩;simp only[];have E1:=zq (cu.out.trans aN);have B1:=zq (ui.out.ev aN);clear aN p0 p1 p2 q0 q1 q2 a0 a1 a2 a3 a4 b0 b1 b2 b3 b4 d0 d1 d2 d3 d4;obtain⟨⟨p0,p1,p2⟩,q0,q1,q2⟩:=B1.out.three;obtain⟨a0,a1,a2,a3,a4⟩:=AP.out _ E1.out;obtain⟨b0,b1,b2,b3,b4⟩:=uQ.out _ E1.out;obtain⟨d0,d1,d2,d3,d4⟩:=Ht.out _ E1.out))
 (try simp only[Exit.inBlock,Exit.then]);rw[dI];obtain⟨f1,f2⟩:=vM (w:=w) (awC _) E2.out B2.out (.string ⟨#[]⟩) (.string ⟨#[]⟩) (.string ⟨#[]⟩);exact aBU):U:=h
theorem ae'(y a b c:M)(w:ak)(h:Ms w y.A y.kids.length y.cap y.kids)(hk:y.kids=[a,b,c])(hs:∀x∈y.kids,x.s.length<=1000000):
  Calls ax 83 #[.slice y.A y.kids.length y.cap] w (O3 (Vb y.t) w):=by
 have hR:Vb y.t=if (aU [bK a.t,if isFun b.s true then (0,0) else (12,b.pos),bK c.t]).1=0 then ((a.s,b.s,c.s),(0,0)) else (([],[],[]),aU [bK a.t,if isFun b.s true then (0,0) else (12,b.pos),bK c.t]):=by unfold Vb eG kS;rw[M.bD,hk];simp[at_,M.uK,M.G6]
 obtain⟨V,hV⟩:∃V,V=Vb y.t:=⟨_,rfl⟩
 rw[<-hV];rw[hR]at hV;rw[hk]at h hs|-;have AO:=zq (λw1=>Bv a w1 (hs a aj));have Jg:=zq (λw1=>Bv c w1 (hs c aj));have hRC:=Yi c;have hEC:=Jf c;rw[hRC]at Jg hEC;rw[hEC]at hV;clear hRC hEC;generalize f_ ⟨c.s.toArray⟩=qc at*;have hRA:=Yi a;have hEA:=Jf a;have hcl:=h.le;have hcm:=h.max;obtain⟨bb,off,hA,Zr,_⟩:=Ms.cell h (i:=0) (x:=a) rfl;rw[hA]at h|-;have AP:=zq (λw1 (hE:Ev w w1)=>Ms.rf (h.ev hE) (i:=0) (x:=a) rfl);have uQ:=zq (λw1 (hE:Ev w w1)=>Ms.rf (h.ev hE) (i:=1) (x:=b) rfl);have Ht:=zq (λw1 (hE:Ev w w1)=>Ms.rf (h.ev hE) (i:=2) (x:=c) rfl);simp only[axi,aw2]at AP;simp only[axK]at uQ;simp only[awR,axw,aw3,Nat.reduceAdd]at hcl|-;obtain⟨w0,hw0,aV,hB0,acp⟩:=agr w;have cu:=zq aV;have ui:=zq hB0;obtain⟨⟨p0,p1,p2⟩,q0,q1,q2⟩:=hB0.three;obtain⟨a0,a1,a2,a3,a4⟩:=AP.out _ aV;obtain⟨b0,b1,b2,b3,b4⟩:=uQ.out _ aV;obtain⟨d0,d1,d2,d3,d4⟩:=Ht.out _ aV;rw[hRA]at AO hEA;rw[hEA]at hV;clear hRA hEA hs h hA aV hB0 hk acp hR;generalize f_ ⟨a.s.toArray⟩=qa at*;unfold O3
 cases qa
 ·simp only[awP,aw7]at AO hV;rw[aco (20,a.pos) aj,if_neg aj]at hV;subst hV;go_enter func83,ntmps83
  go_wp2_with (first
   | ((with_reducible refine(AO.out _).mono ?_);rintro r w1 ⟨rfl,aN⟩;simp only[];have E1:=zq (cu.out.trans aN);have B1:=zq (ui.out.ev aN);clear aN p0 p1 p2 q0 q1 q2 a0 a1 a2 a3 a4 b0 b1 b2 b3 b4 d0 d1 d2 d3 d4;obtain⟨⟨p0,p1,p2⟩,q0,q1,q2⟩:=B1.out.three;obtain⟨a0,a1,a2,a3,a4⟩:=AP.out _ E1.out;obtain⟨b0,b1,b2,b3,b4⟩:=uQ.out _ E1.out;obtain⟨d0,d1,d2,d3,d4⟩:=Ht.out _ E1.out))
  exact azT
 simp only[aw4]at AO hV;by_cases En:b.s=kR
 ·have hf:isFun b.s true=true:=by rw[En];rfl
  rw[hf,if_pos rfl]at hV;have HBS:=zq En;rw[En]at b1 uQ hV;clear hf En
  cases qc
  exact ayN;simp only[aw4]at Jg hV;have hv2:V=((a.s,kR,c.s),(0,0)):=by rw[hV];rfl
  subst hv2;clear hV
  try unfold kR at*
  try unfold oU at*
  try unfold oV at*
  go_enter func83,ntmps83
  go_wp2_with (first
   | (have hh:=E1.out;(with_reducible refine(Jg.out _).mono ?_);rintro r w2 ⟨rfl,bM⟩;simp only[];have E2:=zq (E1.out.trans bM);have B2:=zq (B1.out.ev bM);clear bM p0 p1 p2 q0 q1 q2 a0 a1 a2 a3 a4 b0 b1 b2 b3 b4 d0 d1 d2 d3 d4;obtain⟨⟨p0,p1,p2⟩,q0,q1,q2⟩:=B2.out.three;obtain⟨a0,a1,a2,a3,a4⟩:=AP.out _ E2.out;obtain⟨b0,b1,b2,b3,b4⟩:=uQ.out _ E2.out;obtain⟨d0,d1,d2,d3,d4⟩:=Ht.out _ E2.out)
   | ((with_reducible refine(AO.out _).mono ?_);rintro r w1 ⟨rfl,aN⟩;simp only[];have E1:=zq (cu.out.trans aN);have B1:=zq (ui.out.ev aN);clear aN p0 p1 p2 q0 q1 q2 a0 a1 a2 a3 a4 b0 b1 b2 b3 b4 d0 d1 d2 d3 d4;obtain⟨⟨p0,p1,p2⟩,q0,q1,q2⟩:=B1.out.three;obtain⟨a0,a1,a2,a3,a4⟩:=AP.out _ E1.out;obtain⟨b0,b1,b2,b3,b4⟩:=uQ.out _ E1.out;obtain⟨d0,d1,d2,d3,d4⟩:=Ht.out _ E1.out))
  (try simp only[Exit.inBlock,Exit.then]);rw[dI];obtain⟨f1,f2⟩:=vM (w:=w) (awC _) E2.out B2.out ↑a.s (.string ⟨#[115,117,109]⟩) ↑c.s;exact aBU
 have akK:(b.s==kR)=false:=awy.2 En;by_cases Eo:b.s=oU
 ·have hf:isFun b.s true=true:=by rw[Eo];rfl
  rw[hf,if_pos rfl]at hV;have HBS:=zq Eo;rw[Eo]at b1 uQ hV;clear hf Eo
  cases qc
  exact ayN;simp only[aw4]at Jg hV;have hv2:V=((a.s,oU,c.s),(0,0)):=by rw[hV];rfl
  subst hv2;clear hV
  try unfold kR at*
  try unfold oU at*
  try unfold oV at*
  go_enter func83,ntmps83
  go_wp2_with (first
   | (have hh:=E1.out;(with_reducible refine(Jg.out _).mono ?_);rintro r w2 ⟨rfl,bM⟩;simp only[];have E2:=zq (E1.out.trans bM);have B2:=zq (B1.out.ev bM);clear bM p0 p1 p2 q0 q1 q2 a0 a1 a2 a3 a4 b0 b1 b2 b3 b4 d0 d1 d2 d3 d4;obtain⟨⟨p0,p1,p2⟩,q0,q1,q2⟩:=B2.out.three;obtain⟨a0,a1,a2,a3,a4⟩:=AP.out _ E2.out;obtain⟨b0,b1,b2,b3,b4⟩:=uQ.out _ E2.out;obtain⟨d0,d1,d2,d3,d4⟩:=Ht.out _ E2.out)
   | ((with_reducible refine(AO.out _).mono ?_);rintro r w1 ⟨rfl,aN⟩;simp only[];have E1:=zq (cu.out.trans aN);have B1:=zq (ui.out.ev aN);clear aN p0 p1 p2 q0 q1 q2 a0 a1 a2 a3 a4 b0 b1 b2 b3 b4 d0 d1 d2 d3 d4;obtain⟨⟨p0,p1,p2⟩,q0,q1,q2⟩:=B1.out.three;obtain⟨a0,a1,a2,a3,a4⟩:=AP.out _ E1.out;obtain⟨b0,b1,b2,b3,b4⟩:=uQ.out _ E1.out;obtain⟨d0,d1,d2,d3,d4⟩:=Ht.out _ E1.out))
  (try simp only[Exit.inBlock,Exit.then]);rw[dI];obtain⟨f1,f2⟩:=vM (w:=w) (awC _) E2.out B2.out ↑a.s (.string ⟨#[109,105,110]⟩) ↑c.s;exact aBU
 have akL:(b.s==oU)=false:=awy.2 Eo;by_cases Ep:b.s=oV
 ·have hf:isFun b.s true=true:=by rw[Ep];rfl
  rw[hf,if_pos rfl]at hV;have HBS:=zq Ep;rw[Ep]at b1 uQ hV;clear hf Ep
  cases qc
  exact ayN;simp only[aw4]at Jg hV;have hv2:V=((a.s,oV,c.s),(0,0)):=by rw[hV];rfl
  subst hv2;clear hV
  try unfold kR at*
  try unfold oU at*
  try unfold oV at*
  go_enter func83,ntmps83
  go_wp2_with (first
   | (have hh:=E1.out;(with_reducible refine(Jg.out _).mono ?_);rintro r w2 ⟨rfl,bM⟩;simp only[];have E2:=zq (E1.out.trans bM);have B2:=zq (B1.out.ev bM);clear bM p0 p1 p2 q0 q1 q2 a0 a1 a2 a3 a4 b0 b1 b2 b3 b4 d0 d1 d2 d3 d4;obtain⟨⟨p0,p1,p2⟩,q0,q1,q2⟩:=B2.out.three;obtain⟨a0,a1,a2,a3,a4⟩:=AP.out _ E2.out;obtain⟨b0,b1,b2,b3,b4⟩:=uQ.out _ E2.out;obtain⟨d0,d1,d2,d3,d4⟩:=Ht.out _ E2.out)
   | ((with_reducible refine(AO.out _).mono ?_);rintro r w1 ⟨rfl,aN⟩;simp only[];have E1:=zq (cu.out.trans aN);have B1:=zq (ui.out.ev aN);clear aN p0 p1 p2 q0 q1 q2 a0 a1 a2 a3 a4 b0 b1 b2 b3 b4 d0 d1 d2 d3 d4;obtain⟨⟨p0,p1,p2⟩,q0,q1,q2⟩:=B1.out.three;obtain⟨a0,a1,a2,a3,a4⟩:=AP.out _ E1.out;obtain⟨b0,b1,b2,b3,b4⟩:=uQ.out _ E1.out;obtain⟨d0,d1,d2,d3,d4⟩:=Ht.out _ E1.out))
  (try simp only[Exit.inBlock,Exit.then]);rw[dI];obtain⟨f1,f2⟩:=vM (w:=w) (awC _) E2.out B2.out ↑a.s (.string ⟨#[109,97,120]⟩) ↑c.s;exact aBU
 have akM:(b.s==oV)=false:=awy.2 Ep;have hf:isFun b.s true=false:=by unfold isFun;rw[akK,akL,akM];simp only[Bool.or_false,awP,aw7];split<;>rfl
 rw[hf]at hV;simp only[awP,aw7]at hV;rw[ah0 (0,0) (12,b.pos) rfl aj,if_neg aj]at hV;subst hV;clear hf En Eo Ep
 try unfold kR at*
 try unfold oU at*
 try unfold oV at*
 go_enter func83,ntmps83;go_upto_region 9 with (first
  | ((with_reducible refine(AO.out _).mono ?_);rintro r w1 ⟨rfl,aN⟩;simp only[];have E1:=zq (cu.out.trans aN);have B1:=zq (ui.out.ev aN);clear aN p0 p1 p2 q0 q1 q2 a0 a1 a2 a3 a4 b0 b1 b2 b3 b4 d0 d1 d2 d3 d4;obtain⟨⟨p0,p1,p2⟩,q0,q1,q2⟩:=B1.out.three;obtain⟨a0,a1,a2,a3,a4⟩:=AP.out _ E1.out;obtain⟨b0,b1,b2,b3,b4⟩:=uQ.out _ E1.out;obtain⟨d0,d1,d2,d3,d4⟩:=Ht.out _ E1.out))
 exact azq
theorem gz.ags{gr base j:Nat}{r:CR}{v:au}{w:ak}(h:gz gr base r v w)(hj:r.cols.length=j+1):∃g cap,v=.slice (some ⟨g,0,none⟩) (j+1) cap:=by
 obtain⟨A,cap,hv,hS,hA⟩:=h.own.form iF;rw[hj]at hv hS;obtain⟨b,off,e,_,_⟩:=hS.rd ae;have h2:=(hA _ e).2.2.2.1;injection h2 with _ h3 _
 exact⟨b,cap,by rw[hv,e,h3]⟩
theorem gz.last{gr base g cap n:Nat}{l:List C}{nm s:ByteArray}{k why:Int}{w:ak}{j:Nat}(h:gz gr base ⟨l++[(nm,k)],why,s⟩ (.slice ↑g n cap) w)(hj:l.length=j):w.cell? ⟨g,j*2+1,none⟩=some ↑k/\w.frozen? ⟨g,j*2+1,none⟩=false:=by
 obtain⟨A,cap2,hv,hS,hA⟩:=h.own.form iF;injection hv with h1 h2 h3
 subst h1;obtain⟨b,off,e,_,k1⟩:=Cs.qp hS (i:=j) (c:=(nm,k)) (by rw[<-hj];simp);injection e with e
 injection e with e1 e2 _
 subst e1 e2;refine⟨by simpa using k1,?_⟩;have:=(hA _ rfl).2.2.2.2 (j*2+1);exact this
theorem ah1(w:ak)(c0 c1 c2:au):∃w0,w.alloc (.cells #[c0,c1,c2] 54)=w0/\Ev w w0/\Bx 54 w.heap.size #[c0,c1,c2] w0/\w0.heap.size=w.heap.size+1:=⟨_,rfl,Ev.alloc _ _,Bx.new _ _ _,aj⟩
theorem gz.kinds{gr base g cap:Nat}{why:Int}{nm s:ByteArray}{k k2:Int}{l:List C}{w:ak}{n:Nat}(h:gz gr base ⟨l++[(nm,k)],why,s⟩ (.slice ↑g n cap) w):
  gz gr base ⟨l++[(nm,k2)],why,s⟩ (.slice ↑g n cap) (w.setCell ⟨g,l.length*2+1,none⟩ ↑k2):=by
 have hne:gr≠g:=λe=>h.gf (aG.2 (by rw[e];rfl));refine⟨h.box.but (But.setCell (K:=[g]) ⟨g,_,none⟩ _ aj) (by simpa using hne),?_,h.gf⟩;have h1:=h.own.set iF (i:=l.length) (j:=1) (x:=(nm,k)) (x':=(nm,k2)) (u:=↑k2) aj ai rfl;rwa [show (l++[(nm,k)]).set l.length (nm,k2)=l++[(nm,k2)] by rw[List.set_append_right _ _ (awC _)];simp]at h1
theorem CR.Zy(r:CR)(nm:ByteArray)(k:Int):∃why name,∀k2,r.add nm k2=⟨r.cols++[(nm,k2)],why,name⟩:=by
 unfold CR.add;simp only
 cases (bZ r.cols nm).isSome
 exact⟨r.why,r.name,λk2=>rfl⟩;refine⟨(r.fail 21 nm).why,(r.fail 21 nm).name,λk2=>?_⟩;simp only[aw4];rw[CR.jC]
theorem CR.Ui(r:CR)(nm:ByteArray)(k k2:Int)(l:List C)(s:ByteArray):∃why name,(r.add nm k).find l s=⟨r.cols++[(nm,k)],why,name⟩/\(r.add nm k2).find l s=⟨r.cols++[(nm,k2)],why,name⟩:=by
 obtain⟨why,name,h⟩:=CR.Zy r nm k;rw[h k,h k2];unfold CR.find CR.fail
 cases (bZ l s).isSome
 simp only[awP,aw7];by_cases hw:why=0;exact⟨20,s,by simp[hw],by simp[hw]⟩;exact⟨why,name,by simp[hw],by simp[hw]⟩;exact⟨why,name,rfl,rfl⟩
theorem aAQ(h:U:=by simp at hx;rcases hx with rfl|rfl;exact .inl (awL ..);rcases Lt.out _ rfl with h1|h1;exact .inl (awK _ (aG.2 h1));exact .inr h1):U:=h
theorem ayA(h:U:=by
 refine jD ed (λu=>But [gr,g] w1 u/\u.cell? ⟨gr,0,none⟩=some (.slice ↑g (j+1) cap1)) (But [gr,g]) [14,17] (λp u=>gz gr base (if p=0 then r.add ⟨a.1.toArray⟩ 1 else if p=1 then (r.add ⟨a.1.toArray⟩ 1).find kid ⟨a.2.2.toArray⟩ else (r.add ⟨a.1.toArray⟩ (dL kid ⟨a.2.2.toArray⟩)).find kid ⟨a.2.2.toArray⟩) (.slice ↑g (j+1) cap1) u) [λv _=>v=.pointer ↑gr,λv _=>v=.pointer ↑gr,λv _=>v=.pointer ↑gr,λv _=>v=.slice ↑g (j+1) cap1,λv _=>v=.pointer ↑gr,λv _=>v=.pointer ↑gr,λv _=>v=.pointer ↑gr,λv _=>v=.slice ↑g (j+1) cap1,λv _=>v=.int .i64 ((j:Int)+1),λv _=>v=↑j,λv _=>v=.pointer ↑gr,λv _=>v=.slice A n cap,λv _=>v=.pointer (some ⟨w.heap.size,2,none⟩),λv _=>v=.string ⟨a.2.2.toArray⟩,λv _=>v=.int .i64 (dL kid ⟨a.2.2.toArray⟩),λv _=>v=.pointer ↑(g,j*2),λv _=>v=.pointer ↑(g,j*2+1),λ_ _=>True]
  44 2 rfl ah ⟨az _,az _,az _,az _,az _,az _,az _,az _,az _,az _,az _,az _,az _,az _,az _,az _,az _,eH,trivial⟩ ⟨λ_ _ _ _ h=>h,λ_ _ _ _ h=>h,λ_ _ _ _ h=>h,λ_ _ _ _ h=>h,λ_ _ _ _ h=>h,λ_ _ _ _ h=>h,λ_ _ _ _ h=>h,λ_ _ _ _ h=>h,λ_ _ _ _ h=>h,λ_ _ _ _ h=>h,λ_ _ _ _ h=>h,λ_ _ _ _ h=>h,λ_ _ _ _ h=>h,λ_ _ _ _ h=>h,λ_ _ _ _ h=>h,λ_ _ _ _ h=>h,λ_ _ _ _ h=>h,λ_ _ _ _ h=>h,trivial⟩ ah (λ_ _ _ hE h=>h.ev hE) (λu u' hE h=>⟨h.1.then (But.aW hE),(hE.cell (p:=⟨gr,0,none⟩) (awU HGL.out h.1.size)).trans h.2⟩) (⟨But.refl _ _,gG.out.box.cell 0⟩) (gG.out) ah ?_ ?_ ?_
 ·refine aJ 0 ?_ (aJ 1 ?_ (aJ 2 ?_ (aJ 3 ?_ (aJ 4 ?_ (aJ 5 ?_ (aJ 6 ?_ (aJ 7 ?_ (aJ 8 ?_ (aJ 9 ?_ (aJ 10 ?_ (aJ 11 ?_ (aJ 12 ?_ (aJ 13 ?_ (cO 14 ai (aJ 15 ?_ (aJ 16 ?_ (cO 17 ai (oD 18))))))))))))))))));exact aCr
  ·refine aQ λa_ wq c=>⟨(ay rfl),.pointer ↑gr,?_,rfl⟩
   have bC:a_.eval (.tmp 27)=.pointer ↑gr:=(c.new 0 27)
   generalize a_.eval=ρ at bC|-;simp[execOp,bC,go_sem]
  ·refine aQ λa_ wq c=>⟨(ay rfl),.pointer ↑gr,?_,rfl⟩
   have bC:a_.eval (.tmp 28)=.pointer ↑gr:=(c.new 1 28)
   generalize a_.eval=ρ at bC|-;simp[execOp,bC,go_sem]
  ·refine aQ λa_ wq c=>⟨(ay rfl),.slice ↑g (j+1) cap1,?_,rfl⟩
   have bC:a_.eval (.tmp 29)=.pointer ↑gr:=(c.new 2 29)
   have hc:=c.inv.2;generalize a_.eval=ρ at bC|-;simp[execOp,bC,hc,go_sem]
  exact aCr
  ·refine aQ λa_ wq c=>⟨(ay rfl),.pointer ↑gr,?_,rfl⟩
   have bC:a_.eval (.tmp 31)=.pointer ↑gr:=(c.new 4 31)
   generalize a_.eval=ρ at bC|-;simp[execOp,bC,go_sem]
  ·refine aQ λa_ wq c=>⟨(ay rfl),.pointer ↑gr,?_,rfl⟩
   have bC:a_.eval (.tmp 32)=.pointer ↑gr:=(c.new 5 32)
   generalize a_.eval=ρ at bC|-;simp[execOp,bC,go_sem]
  ·refine aQ λa_ wq c=>⟨(ay rfl),.slice ↑g (j+1) cap1,?_,rfl⟩
   have bC:a_.eval (.tmp 33)=.pointer ↑gr:=(c.new 6 33)
   have hc:=c.inv.2;generalize a_.eval=ρ at bC|-;simp[execOp,bC,hc,go_sem]
  ·refine aQ λa_ wq c=>⟨(ay rfl),.int .i64 ((j:Int)+1),?_,rfl⟩
   have bC:a_.eval (.tmp 34)=.slice ↑g (j+1) cap1:=(c.new 7 34)
   generalize a_.eval=ρ at bC|-;simp[bC,go_sem]
  ·refine aQ λa_ wq c=>⟨(ay rfl),↑j,?_,rfl⟩
   have bC:a_.eval (.tmp 35)=.int .i64 ((j:Int)+1):=(c.new 8 35)
   have j_:a_.eval (.const (.int .i64 1))=.int .i64 1:=rfl;generalize a_.eval=ρ at bC j_|-;simp[execOp,bC,j_,go_sem,YY]
  exact aCr;refine aQ λa w c=>⟨(ay rfl),_,run_move _ rfl w,(c.was 2 rfl)⟩
  ·refine aQ λa_ wq c=>⟨(ay rfl),.pointer (some ⟨w.heap.size,2,none⟩),?_,rfl⟩
   have bC:a_.eval (.tmp 4)=.pointer ↑w:=(c.was 4 rfl)
   generalize a_.eval=ρ at bC|-;simp[execOp,bC,go_sem]
  ·refine aQ λa_ wq c=>⟨(ay rfl),.string ⟨a.2.2.toArray⟩,?_,rfl⟩
   have bC:a_.eval (.tmp 39)=.pointer (some ⟨w.heap.size,2,none⟩):=(c.new 12 39)
   have hc:=(HBW.out wq c.inv.1).cell 2;have hc:wq.cell? ⟨w.heap.size,2,none⟩=some (.string ⟨a.2.2.toArray⟩):=hc;generalize a_.eval=ρ at bC|-;simp[execOp,bC,hc,go_sem]
  ·refine aQ λa_ wq c=>⟨(ay rfl),.pointer ↑(g,j*2),?_,rfl⟩
   have bC:a_.eval (.tmp 30)=.slice ↑g (j+1) cap1:=(c.new 3 30)
   have iO:a_.eval (.tmp 36)=↑j:=(c.new 9 36)
   generalize a_.eval=ρ at bC iO|-;simp[execOp,bC,iO,go_sem,hj2]
  refine aQ λa_ wq c=>⟨(ay rfl),.pointer ↑(g,j*2+1),?_,rfl⟩
  have bC:a_.eval (.tmp 42)=.pointer ↑(g,j*2):=(c.new 15 42)
  generalize a_.eval=ρ at bC|-;simp[execOp,bC,go_sem]
 ·refine fQ 0 rfl ?_ (fQ 1 rfl ?_ (pq 2));refine nS λa_ wq c st=>⟨ay rfl,71,#[.pointer ↑gr,.slice A n cap,.string ⟨a.2.2.toArray⟩],?_,?_⟩
  rw[bT 71 _ _ rfl ah];have bC:a_.eval (.tmp 37)=.pointer ↑gr:=(c.new 10 37)
  have iO:a_.eval (.tmp 38)=.slice A n cap:=(c.new 11 38)
  have ZB:a_.eval (.tmp 40)=.string ⟨a.2.2.toArray⟩:=(c.new 13 40)
  simp[bC,iO,ZB];refine(Ej.out _ wq st (HBK.out wq c.inv.1)).mono ?_;rintro e wp ⟨rfl,hR2,hB2⟩;have qU:But [gr,g] wq wp:=hB2.wide λk hk=>.inl (by simp at hk;simp[hk]);exact⟨_,rfl,qU,⟨c.inv.1.then qU,hR2.box.cell 0⟩,hR2,rfl⟩;refine uN rfl λa_ wq c st=>?_;have bC:a_.eval (.tmp 43)=.pointer ↑(g,j*2+1):=(c.new 16 43)
  have iO:a_.eval (.tmp 41)=.int .i64 (dL kid ⟨a.2.2.toArray⟩):=(c.new 14 41)
  have hst:gz gr base ⟨r.cols++[(⟨a.1.toArray⟩,1)],y1,s1⟩ (.slice ↑g (j+1) cap1) wq:=HF1.out▸st;obtain⟨hc,hfz⟩:=hst.last HJ.out;refine⟨ay rfl,wq.setCell ⟨g,j*2+1,none⟩ (.int .i64 (dL kid ⟨a.2.2.toArray⟩)),?_,But.setCell _ _ aj,⟨c.inv.1.then (But.setCell _ _ aj),?_⟩,?_,trivial⟩
  ·generalize a_.eval=ρ at bC iO|-;simp[execOp,bC,iO,go_sem,hc,hfz]
  have hk:=hst.kinds (k2:=dL kid ⟨a.2.2.toArray⟩);rw[HJ.out]at hk;exact hk.box.cell 0;have hk:=hst.kinds (k2:=dL kid ⟨a.2.2.toArray⟩);rw[HJ.out]at hk;show gz gr base ((r.add ⟨a.1.toArray⟩ (dL kid ⟨a.2.2.toArray⟩)).find kid ⟨a.2.2.toArray⟩) _ _;rw[JZ.out];exact hk
 intro sl w9 hI hold hnew hst;have f0:sl 0=.pointer ↑gr:=hold 0;have f2:sl 2=.slice A n cap:=hold 2;have f4:sl 4=.pointer ↑w:=hold 4;have f43:sl 43=.pointer ↑(g,j*2+1):=hnew 16 43;change Exit.inBlock _ _ .normal ⟨_,_⟩ _;simp only[List.range,List.range.loop,List.map];simp only[f0,f2,f4,f43];clear hold hnew;go_wp2;go_end0;exact⟨rfl,_,hst,(But.aW cu.out).then (HBK.out w9 hI.1),λg' hg=>(Lt.out g' hg).imp_right λh=>aw0 cu.out.size h⟩):U:=h
theorem ah2(gr base:Nat)(r:CR)(v:au)(a:Ag)(kid:List C)(A:Option Addr)(n cap:Nat)(w:ak)(h:gz gr base r v w)(hl:r.cols.length<=100000)(hb:base<=w.heap.size)(hC:Cs w A n cap kid)(hK:∀ad,A=some ad->ad.block∉gr::foot v)(hAl:∀ad,A=some ad->ad.block<w.heap.size):
  Calls ax 74 #[.pointer ↑gr,.agg #[.string ⟨a.1.toArray⟩,.string ⟨a.2.1.toArray⟩,.string ⟨a.2.2.toArray⟩],.slice A n cap] w (Dk gr base (r.agg kid a) v w):=by
 have ed:Tryz.prog.follows .mixedOrders=true:=ah;obtain⟨w0,hw0,aV,hB0,hs0⟩:=ah1 w (.string ⟨a.1.toArray⟩) (.string ⟨a.2.1.toArray⟩) (.string ⟨a.2.2.toArray⟩);have HA1:=zq (Ql gr base r v (aY a.1) 1 w0 (h.ev aV) hl (aw0 hb aV.size));have Ny:=h.box.lt;have Ej:=λ(v':au) (w1:ak) (hR:gz gr base (r.add (aY a.1) 1) v' w1) (hb1:But (gr::foot v) w0 w1)=>Ja gr base (r.add (aY a.1) 1) v' kid A n cap (aY a.2.2) w1 hR ((hC.ev aV).but hb1 hK);have HFW:=λ(v':au) (w1:ak) (hR:gz gr base ((r.add (aY a.1) 1).find kid (aY a.2.2)) v' w1)=>ou gr base ((r.add (aY a.1) 1).find kid (aY a.2.2)) v' 22 (aY a.2.2) w1 hR;unfold aY Dk at HA1;unfold aY at Ej HFW;have Ej:=zq Ej;have HFW:=zq HFW;have cu:=zq aV;have ui:=zq hB0;have hgf:w.heap.size∉gr::foot v:=by intro hm;rcases awN.1 hm with e|e;omega;have:=(h.own.lt (aG.1 e)).2;omega
 have HGF:=zq hgf;obtain⟨⟨c0,c1,c2⟩,_⟩:=hB0.three;have hAg:CR.agg r kid a=if a.2.1==kR then (if dL kid ⟨a.2.2.toArray⟩=1 then (r.add ⟨a.1.toArray⟩ 1).find kid ⟨a.2.2.toArray⟩ else ((r.add ⟨a.1.toArray⟩ 1).find kid ⟨a.2.2.toArray⟩).fail 22 ⟨a.2.2.toArray⟩) else if a.2.1==oU||a.2.1==oV then (r.add ⟨a.1.toArray⟩ (dL kid ⟨a.2.2.toArray⟩)).find kid ⟨a.2.2.toArray⟩ else r.add ⟨a.1.toArray⟩ 1:=rfl;rw[hAg];clear h hC aV hB0 hs0 hgf hAg;generalize ha2:a.2.1=f2 at*;clear ha2;unfold kR oU oV
 cases hsm:(f2==([115,117,109]:By))
 ·have atU:¬f2=[115,117,109]:=by simpa using hsm
  cases hmn:(f2==([109,105,110]:By))
  ·have atV:¬f2=[109,105,110]:=by simpa using hmn
   cases hmx:(f2==([109,97,120]:By))
   ·have afa:¬f2=[109,97,120]:=by simpa using hmx
    simp only[awP,aw7,Bool.or_self];go_enter func74,ntmps74
    go_wp2_with (first
     | ((with_reducible refine(HA1.out).mono ?_);rintro e w1 ⟨rfl,v1,hR1,hB1,hS1⟩;have gG:=zq hR1;have sN:=zq hB1;have Lt:=zq hS1;clear c0 c1 c2;obtain⟨⟨c0,c1,c2⟩,_⟩:=(ui.out.but hB1 HGF.out).three;clear hR1 hB1 hS1))
    go_end0;exact⟨rfl,v1,gG.out,(But.aW cu.out).then sN.out,λg hg=>(Lt.out g hg).imp_right λh=>aw0 cu.out.size h⟩
   obtain rfl:f2=[109,97,120]:=by simpa using hmx
   simp only[awP,aw7,aw4,Bool.or_true];obtain⟨j,hj⟩:∃j,r.cols.length=j:=⟨_,rfl⟩
   have HJ:=zq hj;obtain⟨y1,s1,hf1,hf2⟩:=CR.Ui r ⟨a.1.toArray⟩ 1 (dL kid ⟨a.2.2.toArray⟩) kid ⟨a.2.2.toArray⟩;have HF1:=zq hf1;have JZ:=zq hf2;have hjl:j<=100000:=hj▸hl;have YY:IntKind.i64.wrap (j:Int)=(j:Int):=ayu _ ae;have hj2:((j:Int)+1<=(j:Int))=False:=eq_false ae;clear hj hf1 hf2;go_enter func74,ntmps74;go_upto_region 8 with (first
    | ((with_reducible refine(HA1.out).mono ?_);rintro e w1 ⟨rfl,v1,hR1,hB1,hS1⟩;obtain⟨g,cap1,rfl⟩:=hR1.ags (j:=j) (by rw[CR.nP,awE,HJ.out];rfl);have gG:=zq hR1;have sN:=zq hB1;have Lt:=zq hS1;have HGL:=zq hR1.box.lt;clear c0 c1 c2;obtain⟨⟨c0,c1,c2⟩,_⟩:=(ui.out.but hB1 HGF.out).three;clear hR1 hB1 hS1))
   have HBK:Hid (∀u,But [gr,g] w1 u->But (gr::foot v) w0 u):=zq λu hb1=>sN.out.trans hb1 λx hx=>by exact aAQ
   have HBW:Hid (∀u,But [gr,g] w1 u->Bx 54 w.heap.size #[.string ⟨a.1.toArray⟩,.string ⟨#[109,97,120]⟩,.string ⟨a.2.2.toArray⟩] u):=zq λu hb1=>ui.out.but (HBK.out u hb1) HGF.out;exact ayA
  obtain rfl:f2=[109,105,110]:=by simpa using hmn
  simp only[awP,aw7,aw4,Bool.true_or];obtain⟨j,hj⟩:∃j,r.cols.length=j:=⟨_,rfl⟩
  have HJ:=zq hj;obtain⟨y1,s1,hf1,hf2⟩:=CR.Ui r ⟨a.1.toArray⟩ 1 (dL kid ⟨a.2.2.toArray⟩) kid ⟨a.2.2.toArray⟩;have HF1:=zq hf1;have JZ:=zq hf2;have hjl:j<=100000:=hj▸hl;have YY:IntKind.i64.wrap (j:Int)=(j:Int):=ayu _ ae;have hj2:((j:Int)+1<=(j:Int))=False:=eq_false ae;clear hj hf1 hf2;go_enter func74,ntmps74;go_upto_region 8 with (first
   | ((with_reducible refine(HA1.out).mono ?_);rintro e w1 ⟨rfl,v1,hR1,hB1,hS1⟩;obtain⟨g,cap1,rfl⟩:=hR1.ags (j:=j) (by rw[CR.nP,awE,HJ.out];rfl);have gG:=zq hR1;have sN:=zq hB1;have Lt:=zq hS1;have HGL:=zq hR1.box.lt;clear c0 c1 c2;obtain⟨⟨c0,c1,c2⟩,_⟩:=(ui.out.but hB1 HGF.out).three;clear hR1 hB1 hS1))
  have HBK:Hid (∀u,But [gr,g] w1 u->But (gr::foot v) w0 u):=zq λu hb1=>sN.out.trans hb1 λx hx=>by exact aAQ
  have HBW:Hid (∀u,But [gr,g] w1 u->Bx 54 w.heap.size #[.string ⟨a.1.toArray⟩,.string ⟨#[109,105,110]⟩,.string ⟨a.2.2.toArray⟩] u):=zq λu hb1=>ui.out.but (HBK.out u hb1) HGF.out;exact ayA
 obtain rfl:f2=[115,117,109]:=by simpa using hsm
 simp only[aw4];by_cases hk:dL kid ⟨a.2.2.toArray⟩=1
 ·rw[if_pos hk];rw[hk]at Ej;go_enter func74,ntmps74
  go_wp2_with (first
   | ((with_reducible refine(HA1.out).mono ?_);rintro e w1 ⟨rfl,v1,hR1,hB1,hS1⟩;have gG:=zq hR1;have sN:=zq hB1;have Lt:=zq hS1;clear c0 c1 c2;obtain⟨⟨c0,c1,c2⟩,_⟩:=(ui.out.but hB1 HGF.out).three;have HF3:=zq (Ej.out _ _ hR1 hB1);clear hR1 hB1 hS1)
   | ((with_reducible refine(HF3.out).mono ?_);rintro e w2 ⟨rfl,hR2,hB2⟩))
  go_end0;exact⟨rfl,v1,hR2,(But.aW cu.out).then (sN.out.then (hB2.wide λk hk=>.inl (by simp at hk;subst hk;exact awL ..))),λg hg=>(Lt.out g hg).imp_right λh=>aw0 cu.out.size h⟩
 rw[if_neg hk];have hkb:(dL kid ⟨a.2.2.toArray⟩==1)=false:=awy.2 hk;have hkn:(dL kid ⟨a.2.2.toArray⟩ !=1)=true:=by simp[hk]
 go_enter func74,ntmps74
 go_wp2_with (first
  | ((with_reducible refine(HA1.out).mono ?_);rintro e w1 ⟨rfl,v1,hR1,hB1,hS1⟩;have gG:=zq hR1;have sN:=zq hB1;have Lt:=zq hS1;clear c0 c1 c2;obtain⟨⟨c0,c1,c2⟩,_⟩:=(ui.out.but hB1 HGF.out).three;have HF3:=zq (Ej.out _ _ hR1 hB1);clear hR1 hB1 hS1)
  | ((with_reducible refine(HF3.out).mono ?_);rintro e w2 ⟨rfl,hR2,hB2⟩;have jF:=zq hR2;have FH:=zq (sN.out.then (hB2.wide λk hk=>.inl (by simp at hk;subst hk;exact awL ..)));clear c0 c1 c2;obtain⟨⟨c0,c1,c2⟩,_⟩:=(ui.out.but FH.out HGF.out).three;have HF4:=zq (HFW.out _ _ hR2);clear hR2 hB2)
  | ((with_reducible refine(HF4.out).mono ?_);rintro e w3 ⟨rfl,O4,qU⟩))
 go_end0;exact⟨rfl,v1,O4,(But.aW cu.out).then (FH.out.then (qU.wide λk hk=>.inl (by simp at hk;subst hk;exact awL ..))),λg hg=>(Lt.out g hg).imp_right λh=>aw0 cu.out.size h⟩
theorem Tryz.fD:(Tryz.prog.info? 58).map (·.size)=some 3:=ah
def kE(base:Nat)(va:au)(r:CR)(w:ak)(e:Ending)(w':ak):Prop:=∃v,e=.returned (.agg #[v,↑r.why,.string r.name])/\Ow 50 2 dM base w' v r.cols/\But (foot va) w w'/\fO w va v
theorem mF{w w0 wl:ak}{gr g base:Nat}{r:CR}{va v c0 c1 c2:au}(hE:Ev w w0)(hB:Bx 58 g #[c0,c1,c2] w0)(h:gz gr base r v wl)(hb:But (gr::foot va) w0 wl)(hS:fO w0 va v)(Jh:∀k∈foot va,k<w.heap.size)(hg:w.heap.size<=g)(hgr:w.heap.size<=gr)(hne:g≠gr):
  Bx 58 g #[v,↑r.why,.string r.name] (yf g v ↑r.why (.string r.name) wl)/\kE base va r w (.returned (.agg #[v,↑r.why,.string r.name])) (yf g v ↑r.why (.string r.name) wl):=by
 have Ny:=hB.lt;have XY:g∉gr::foot va:=λhm=>by rcases awN.1 hm with e|e;exact hne e;have:=Jh g e;omega
 have hgv:g∉foot v:=λhm=>by rcases hS g (aG.1 hm) with h1|h1;have:=Jh g (aG.2 h1);omega;omega
 have Fv:=ve g v ↑r.why (.string r.name) wl;refine⟨(hB.but hb XY).yf _ _ _,v,rfl,h.own.but Fv λk hk=>by simp;intro e;exact hgv (aG.2 (e▸hk)),?_,λk hk=>(hS k hk).imp_right λh1=>aw0 hE.size h1⟩;have h1:But (foot va) w wl:=(But.aW hE).trans hb λx hx=>by rcases awN.1 hx with rfl|hx;exact .inr hgr;exact .inl hx
 exact h1.trans Fv λx hx=>by simp at hx;subst hx;exact .inr hg
theorem gz.new{w:ak}{base:Nat}{v:au}{l:List C}(h:Ow 50 2 dM base w v l)(hv:∀k∈foot v,k<w.heap.size):gz w.heap.size base (CR.of l) v (w.alloc (.cells #[v,.int .i64 0,.string ⟨#[]⟩] 58)):=
 ⟨Bx.new _ _ _,h.ev aB,λhm=>by have:=hv _ hm;omega⟩
theorem qA{w:ak}{base:Nat}{v:au}{l:List C}(h:Ow 50 2 dM base w v l):∀k∈foot v,k<w.heap.size:=λk hk=>(h.lt (aG.1 hk)).2
theorem EI(w:ak)(T1:TypeId)(cs:Array au):∃w0,(w.alloc (.cells cs T1)).alloc (.cells ↑Zz.d 58)=w0/\Ev w w0/\Bx T1 w.heap.size cs w0/\Bx 58 (w.heap.size+1) ↑Zz.d w0/\w0.heap.size=w.heap.size+2:=by
 have hB:Bx 58 (w.heap.size+1) ↑Zz.d ((w.alloc (.cells cs T1)).alloc (.cells ↑Zz.d 58)):=by have:=Bx.new 58 ↑Zz.d (w.alloc (.cells cs T1));simpa using this
 exact⟨_,rfl,(Ev.alloc w _).trans aB,(Bx.new T1 cs w).ev aB,hB,aj⟩
theorem aB'(h:U:=by refine ayr (aT rfl _ _ _ _ _ rfl f1 underlying58 rfl Tryz.fD) rfl ?_;exact f2):U:=h
theorem ZC(base:Nat)(va:au)(kid:List C)(m:M)(b0:Nat)(w:ak)(h:Ow 50 2 dM base w va kid)(hL:Lx b0 [] w m)(hsz:m.t.size<=16000)(hf:m.t.every (λt=>decide (t.s.length<=1000000))=true):
  Calls ax 33 #[.agg ↑(m,()),va] w (kE base va (mi m.t kid) w):=by
 obtain⟨A,cap,rfl,hC⟩:∃A cap,va=.slice A kid.length cap/\Cs w A kid.length cap kid:=by obtain⟨A,cap,hv,hS,_⟩:=h.form iF;exact⟨A,cap,hv,hS⟩
 have Jh:=qA h;obtain⟨w0,hw0,aV,hBe,Ji,hs0⟩:=EI w 47 ↑(m,());have Lu:=gz.new (h.ev aV) (λk hk=>by have:=Jh k hk;have:=aV.size;omega);have aN:=Ev.alloc w0 (.cells #[.slice A kid.length cap,.int .i64 0,.string ⟨#[]⟩] 58);have HK:=XZ w0.heap.size base (CR.of kid) (.slice A kid.length cap) m b0 kid A kid.length cap _ Lu (hL.ev (aV.trans aN)) (hC.ev (aV.trans aN)) hsz hf;have cu:=zq aV;have WI:=zq Jh;have jV:=zq (Ji.ev aN);obtain⟨⟨c0,c1,c2,c3⟩,_⟩:=(hBe.ev aN).four;have HK:=zq HK;unfold mi;simp only;generalize hr:(CR.of kid).kind kid m.t=R1 at*;generalize hk:(xType kid m.t).1=K1 at*;have HF:=zq (λw2 (hR:gz w0.heap.size base R1 (.slice A kid.length cap) w2)=>ou w0.heap.size base R1 (.slice A kid.length cap) 22 ⟨#[]⟩ w2 hR);have hs1:w0.heap.size=w.heap.size+2:=hs0;have kT:=zq hs1;clear h hL hC Lu hBe Ji aV aN Jh hr hk hsz hf hs0 hs1;generalize kid.length=kl at*;by_cases hK:K1=1
 ·subst hK;rw[if_pos rfl];go_enter func33,ntmps33
  go_wp2_with (first
   | ((with_reducible refine(HK.out).mono ?_);rintro e w1 ⟨rfl,hR1,hB1⟩;have gG:=zq hR1;have sN:=zq hB1;obtain⟨⟨d0,d1,d2⟩,_⟩:=hR1.box.three;obtain⟨⟨q0,q1,q2⟩,z0,z1,z2⟩:=(jV.out.but hB1 (by have:=kT.out;simp;omega)).three;clear hR1 hB1 c0 c1 c2 c3))
  (try simp only[Exit.inBlock,Exit.then]);rw[dI];obtain⟨f1,f2⟩:=mF (cu.out.trans aB) jV.out gG.out (sN.out.wide λk hk=>.inl (by simp at hk;subst hk;exact awL ..)) (λg hg=>.inl hg) WI.out ae (by have:=kT.out;omega) (by have:=kT.out;omega);exact aB'
 rw[if_neg hK];have hKb:(K1==1)=false:=awy.2 hK;have hKn:(K1 !=1)=true:=by simp[hK]
 go_enter func33,ntmps33
 go_wp2_with (first
  | ((with_reducible refine(HK.out).mono ?_);rintro e w1 ⟨rfl,hR1,hB1⟩;have gG:=zq hR1;have sN:=zq hB1;clear hR1 hB1 c0 c1 c2 c3)
  | ((with_reducible refine(HF.out _ gG.out).mono ?_);rintro e w2 ⟨rfl,hR2,hB2⟩;have jF:=zq hR2;have FH:=zq (sN.out.then hB2);obtain⟨⟨d0,d1,d2⟩,_⟩:=hR2.box.three;obtain⟨⟨q0,q1,q2⟩,z0,z1,z2⟩:=(jV.out.but FH.out (by have:=kT.out;simp;omega)).three;clear hR2 hB2))
 (try simp only[Exit.inBlock,Exit.then]);rw[dI];obtain⟨f1,f2⟩:=mF (cu.out.trans aB) jV.out jF.out (FH.out.wide λk hk=>.inl (by simp at hk;subst hk;exact awL ..)) (λg hg=>.inl hg) WI.out ae (by have:=kT.out;omega) (by have:=kT.out;omega);exact aB'
theorem acr(d:DM)(nm:By)(gb:Nat)(w:ak)(hB:w.cell? ⟨gb,0,none⟩=some ↑nm)(hlt:gb<w.heap.size):
  Calls ax 65 #[.agg #[↑d.name,.slice d.A d.cols.length d.cap],.pointer ↑gb] w λe w'=>e=.returned (.bool (d.name==nm))/\Ev w w':=by
 have hE:=Ev.alloc w (.cells #[↑d.name,.slice d.A d.cols.length d.cap] 42);have hX:=Bx.new 42 #[↑d.name,.slice d.A d.cols.length d.cap] w;have c0:=hX.cell 0;have c0:(w.alloc (.cells #[↑d.name,.slice d.A d.cols.length d.cap] 42)).cell? ⟨↑w,0,none⟩=some ↑d.name:=c0;have n0:=(hE.cell (p:=⟨gb,0,none⟩) hlt).trans hB;have HE:=zq hE;clear hX hE;go_enter func65,ntmps65;go_wp2;go_ret;exact⟨rfl,HE.out⟩
abbrev ah4(gb:Nat):au:=.func (.func 65) #[] #[.pointer ↑gb]
def ixD(l:List DM)(nm:By):Int:=match l.findIdx? (λd=>d.name==nm) with|some i=>(i:Int)|none=>-1
theorem QG{A:Option Addr}{n cap:Nat}{l:List DM}(nm:By)(gb:Nat)(w:ak)(h:pV w A n cap l)(hB:w.cell? ⟨gb,0,none⟩=some ↑nm)(hlt:gb<w.heap.size):
  Calls ax 64 #[.slice A n cap,ah4 gb] w λe w'=>e=.returned (.int .i64 (ixD l nm))/\Ev w w':=by
 have hn:=h.sl.le;have hm:=h.sl.max;have HN:=zq h.sl.len;have H:=zq h;have HC:=zq (λd w1 (hE:Ev w w1)=>acr d nm gb w1 ((hE.cell (p:=⟨gb,0,none⟩) hlt).trans hB) (awU hlt hE.size));clear h hB;go_enter func64,ntmps64;go_wp2
 go_loopw [8] (λi wr=>∃k:Nat,k<=n/\i=↑k/\Hid (∀i d,i<k->l[i]?=some d->(d.name==nm)=false)/\Hid (Ev w wr)) (λi _=>n-(intOf i).toNat)
 case atStart=>exact⟨0,awJ _,rfl,zq (λi d hi=>by omega),zq aK⟩
 case round=>
  obtain⟨k,hk,rfl,HT,HE⟩:=hrel;by_cases hlk:k<n
  ·obtain⟨d,hd⟩:=H.out.sl.at hlk;obtain⟨b,off,rfl,hb,c0,c1⟩:=(H.out.ev HE.out).cell hd;have HD:=zq hd;have i1:(0:Int)<=(k:Int):=ae;have i2:(k:Int)<(n:Int):=ae;have HCd:=HC.out d;clear hd
   cases ht:(d.name==nm)
   ·rw[ht]at HCd;have HCd:=zq HCd;have HF:Hid (∀i d,i<k+1->l[i]?=some d->(d.name==nm)=false):=zq (λi d' hi hd'=>by
     by_cases hik:i<k;exact HT.out i d' hik hd';obtain rfl:i=k:=ae;rw[HD.out]at hd';obtain rfl:=axd hd';exact ht)
    clear ht
    go_wp2_with (first
     | ((with_reducible refine(HCd.out _ HE.out).mono ?_);rintro e w1 ⟨rfl,aN⟩;have E1:=zq (HE.out.trans aN);clear aN))
    go_roundw
    case rel=>exact⟨k+1,ae,by go_num,HF,E1⟩
    case measure=>simp[intOf];omega
   rw[ht]at HCd;have HCd:=zq HCd;have HF:Hid (ixD l nm=(k:Int)):=zq (by
    have h1:l.findIdx? (λd=>d.name==nm)=some k:=by rw[axH];obtain⟨hk2,rfl⟩:=awz.1 HD.out;exact⟨hk2,ht,λj hj=>by simp[HT.out j _ hj (awX ae)]⟩
    unfold ixD;rw[h1])
   clear ht
   go_wp2_with (first
    | ((with_reducible refine(HCd.out _ HE.out).mono ?_);rintro e w1 ⟨rfl,aN⟩;have E1:=zq (HE.out.trans aN);clear aN))
   go_ret;exact⟨by rw[HF.out];rfl,E1.out⟩
  obtain rfl:k=n:=ae;have HF:Hid (ixD l nm=-1):=zq (by
   have h1:l.findIdx? (λd=>d.name==nm)=none:=by rw[List.findIdx?_eq_none_iff];intro d hd;obtain⟨i,hi,e⟩:=List.getElem_of_mem hd;exact HT.out i d (by rw[<-HN.out];exact hi) (by rw[awX hi,e])
   unfold ixD;rw[h1])
  go_wp2;go_ret;exact⟨by rw[HF.out];rfl,HE.out⟩
theorem WJ(l:List DM)(nm:By):(ixD l nm=-1/\o_ (l.map DM.df) nm=CR.zero.fail 20 (aY nm))∨∃(i:Nat) (d:DM),l[i]?=some d/\ixD l nm=(i:Int)/\o_ (l.map DM.df) nm=CR.of d.cols:=by
 unfold ixD o_;cases h:l.findIdx? (λd=>d.name==nm) with
 | none=>
  left;refine⟨rfl,?_⟩;rw[List.findIdx?_eq_none_iff]at h;rw[show (l.map DM.df).find? (λd=>d.1==nm)=none by
   rw[ax9];intro x hx;obtain⟨d,hd,rfl⟩:=aw6.1 hx;simpa[DM.df] using h d hd]
 | some i=>
  right;obtain⟨hi,h1,h2⟩:=axH.1 h;refine⟨i,l[i],awX hi,rfl,?_⟩;rw[show (l.map DM.df).find? (λd=>d.1==nm)=some (l[i]).df by
   rw[List.find?_eq_some_iff_getElem];refine⟨by simpa[DM.df] using h1,i,by simpa using hi,aj,λj hj=>?_⟩;have:=h2 j hj;simpa[DM.df] using this]
  rfl
theorem WL{A:Option Addr}{n cap:Nat}{l:List C}(w:ak)(h:Cs w A n cap l)(hl:l.length<=100000)(h0:0<l.length):
  Calls ax 67 #[.slice A n cap] w λe w'=>∃v,e=.returned v/\Ow 50 2 dM w.heap.size w' v l/\Ev w w':=by
 have q22:∀(w:ak) (a:Option Addr) (n c n' c':Nat),(binOp .eql 24 (.slice a n c) (.slice none n' c')).run ax w=.ok (.bool a.isNone) w:=λw a n c n' c'=>Lib.run_eql_slice_nil w 24 50 a n c n' c' underlying24;obtain⟨b,off,rfl,_,_⟩:=h.rd (by rw[<-h.len];exact h0);have hE:jl 50 w.heap.size (.slice ↑w 0 0) (w.alloc (.cells #[] 50)):=jl.new (awC _);go_enter func67,ntmps67
 go_wp2_with (at_builtin;refine wX (o:=⟨some 7,_,_,_,_,_⟩) rfl 24 (.tmp 5) (.tmp 6) rfl iF underlying24 Tryz.o9 rfl rfl hE ↑(b,off) n cap l rfl (h.ev aB) ae ae aj ?_;intro v1 w1 hO1 aN)
 go_ret;exact⟨v1,rfl,hO1,aB.trans aN⟩
theorem Ow.wK{α:Type}{et:TypeId}{k:Nat}{enc:α->List au}{base Ih:Nat}{w:ak}{v:au}{Z:List α}(h:Ow et k enc base w v Z)(hb:Ih<=base):Ow et k enc Ih w v Z:=by
 refine⟨h.1,?_⟩;rcases h.2 with h2|⟨g,cap,cur,rfl,hg,hh,r⟩
 exact .inl h2;exact .inr ⟨g,cap,cur,rfl,aw0 hb hg,hh,r⟩
theorem acs(l:List DM)(A:Option Addr)(n cap:Nat)(nm:By)(w:ak)(h:pV w A n cap l)(hD:∀d∈l,0<d.cols.length/\d.cols.length<=6):
  Calls ax 32 #[↑nm,.slice A n cap] w (kE w.heap.size ↑() (o_ (l.map DM.df) nm) w):=by
 have hmf:∀(fn:Fn) (first cap:Array au) (w:ak),(Instr.makeFunc fn first cap).run ax w=.ok (.func fn first cap) w:=λ_ _ _ _=>rfl;obtain⟨w0,hw0,aV,hBn,Ji,hs0⟩:=EI w 9 #[↑nm];have aN:=Ev.alloc w0 (.cells ↑Zz.d 58);have hB2:=Bx.new 58 ↑Zz.d w0;have U1:(w0.alloc (.cells ↑Zz.d 58)).cell? ⟨↑w,0,none⟩=some ↑nm:=(hBn.ev aN).cell 0;have HI:=zq (QG nm w.heap.size _ (h.ev (aV.trans aN)) U1 (by simp;omega));have HBN:=zq (hBn.ev aN);have jV:=zq (Ji.ev aN);have FH:=zq hB2;have cu:=zq (aV.trans aN);have kT:=zq hs0;have hle:=h.sl.le;have hmx:=h.sl.max;have H:=zq h;have qX:=zq h.sl.len;have HD:=zq hD;have Lu:gz w0.heap.size w.heap.size CR.zero ↑() (w0.alloc (.cells ↑Zz.d 58)):=⟨hB2,Ow.nil_ _,λhm=>by cases hm⟩
 have HF:=zq (λw2 (hE:Ev _ w2)=>ou w0.heap.size w.heap.size CR.zero ↑() 20 ⟨nm.toArray⟩ w2 (Lu.ev hE));clear h aV aN hBn Ji hB2 hs0 Lu hD U1;have WI:Hid (∀k∈foot ↑(),k<w.heap.size):=zq λk hk=>by cases hk
 rcases WJ l nm with⟨h1,h2⟩|⟨i,d,hd,h1,h2⟩
 ·rw[h1]at HI;rw[h2];unfold aY;have n0:=HBN.out.cell 0;have n0:(w0.alloc (.cells ↑Zz.d 58)).cell? ⟨↑w,0,none⟩=some ↑nm:=n0;clear h1 h2;go_enter func32,ntmps32
  go_wp2_with (first
   | ((with_reducible refine(HI.out).mono ?_);rintro e w1 ⟨rfl,aN⟩;have E1:=zq aN;clear n0;have n0:=(HBN.out.ev aN).cell 0;have n0:w1.cell? ⟨↑w,0,none⟩=some ↑nm:=n0;clear aN)
   | ((with_reducible refine(HF.out _ E1.out).mono ?_);rintro e w2 ⟨rfl,hR2,hB2⟩;have jF:=zq hR2;have HBB:=zq ((But.aW E1.out).then hB2);obtain⟨⟨d0,d1,d2⟩,_⟩:=hR2.box.three;obtain⟨⟨q0,q1,q2⟩,z0,z1,z2⟩:=(jV.out.but ((But.aW E1.out).then hB2) (by have:=kT.out;simp;omega)).three;clear hR2 hB2))
  (try simp only[Exit.inBlock,Exit.then]);rw[dI];obtain⟨f1,f2⟩:=mF cu.out jV.out jF.out (HBB.out.wide λk hk=>.inl (by simp at hk;subst hk;exact awL ..)) (λg hg=>.inl hg) WI.out ae (by have:=kT.out;omega) (by have:=kT.out;omega);exact aB'
 rw[h1]at HI;rw[h2];have YH:=HD.out d (awG hd);obtain⟨b,off,hA,hb,_⟩:=H.out.cell hd;have HDC:=zq (λw1 (hE:Ev w w1)=>H.out.ev hE |>.cell hd);have Si:=zq (λw1 (hE:Ev w w1)=>WL w1 ((H.out.cols d (awG hd)).ev hE) ae YH.1);have hin:i<n:=by rw[<-qX.out];exact(awz.1 hd).1
 have i0:¬((i:Int)<0):=ae;have i1:(0:Int)<=(i:Int):=ae;have i2:(i:Int)<(n:Int):=ae;subst hA;clear h1 h2 hd YH;obtain⟨dl,YH⟩:∃dl,dl=d.cols.length:=⟨_,rfl⟩
 rw[<-YH]at HDC Si;clear YH;have pG:w.heap.size+1≠w0.heap.size:=by have:=kT.out;omega
 have G5:w0.heap.size≠w.heap.size+1:=by have:=kT.out;omega
 go_enter func32,ntmps32
 go_wp2_with (first
  | ((with_reducible refine(HI.out).mono ?_);rintro e w1 ⟨rfl,aN⟩;have E1:=zq aN;obtain⟨b',off',RF,_,k0,k1⟩:=HDC.out _ (cu.out.trans aN);injection RF with RF;injection RF with e1 e2 _;subst e1 e2;clear aN)
  | ((with_reducible refine(Si.out _ (cu.out.trans E1.out)).mono ?_);rintro e w2 ⟨v1,rfl,hO,bM⟩;obtain⟨A1,cap1,rfl,lq,mW⟩:=hO.form iF;clear lq mW;have E2:=zq (E1.out.trans bM);have HO:=zq (Ow.wK hO (cu.out.trans E1.out).size);have HOL:=zq (λk hk=>(hO.lt (aG.1 hk)).1:∀k∈foot (.slice A1 d.cols.length cap1),w1.heap.size<=k);obtain⟨⟨d0,d1,d2⟩,g0,g1,g2⟩:=(FH.out.ev (E1.out.trans bM)).three;obtain⟨⟨q0,q1,q2⟩,z0,z1,z2⟩:=(jV.out.ev (E1.out.trans bM)).three;clear bM hO))
 (try simp only[Exit.inBlock,Exit.then]);have IG:But [w0.heap.size] w2 (w2.setCell ⟨↑w0,0,none⟩ (.slice A1 d.cols.length cap1)):=But.setCell _ _ aj;have hsz:w0.heap.size+1<=w1.heap.size:=by have:=E1.out.size;simp at this;omega
 have hRR:gz w0.heap.size w.heap.size (CR.of d.cols) (.slice A1 d.cols.length cap1) (w2.setCell ⟨↑w0,0,none⟩ (.slice A1 d.cols.length cap1)):=⟨by have:=(FH.out.ev E2.out).set 0 (.slice A1 d.cols.length cap1);exact(by simpa using this:Bx 58 w0.heap.size #[.slice A1 d.cols.length cap1,.int .i64 0,.string ⟨#[]⟩] _),HO.out.but IG λg hg=>by have:=HOL.out g (aG.2 hg);simp;omega,λhm=>by have:=HOL.out _ hm;omega⟩
 rw[dI];obtain⟨f1,f2⟩:=mF (va:=↑()) cu.out jV.out hRR (((But.aW E2.out).then IG).wide λk hk=>.inl (by simp at hk;subst hk;exact awL ..)) (λg hg=>.inr (by have:=HOL.out g (aG.2 hg);have:=E1.out.size;omega)) WI.out ae (by have:=kT.out;omega) (by have:=kT.out;omega);exact aB'
theorem WM(w:ak):∃w0,w.alloc (.cells ↑Zz.d 58)=w0/\Ev w w0/\Bx 58 w.heap.size ↑Zz.d w0/\w0.heap.size=w.heap.size+1:=⟨_,rfl,Ev.alloc _ _,Bx.new _ _ _,aj⟩
theorem Jj{l:List C}{i:Nat}{c d:C}(h:l[i]?=some c):l.getD i d=c:=by rw[axD,h];rfl
theorem aB2(h:U:=by obtain⟨A,cap,hv,hS,hA⟩:=h.form iF;exact⟨A,cap,hv,hS,λad e=>(hA ad e).2.2.1⟩):U:=h
theorem ay2(h:U:=by
 go_upto_region 2 with fail
 rw[<-zy];clear zy
 go_wp2_with (first
  | ((with_reducible refine(HF0.out).mono ?_);rintro e w2 ⟨rfl,hR2,hB2⟩;have jF:=zq hR2;have FH:=zq hB2;obtain⟨⟨d0,d1,d2⟩,_⟩:=hR2.box.three;obtain⟨⟨g0,g1,g2⟩,z0,z1,z2⟩:=(jV.out.but hB2 (by have:=kT.out;simp;omega)).three;clear hR2 hB2))
 (try simp only[Exit.inBlock,Exit.then]);rw[dI];obtain⟨f1,f2⟩:=mF Qg.out jV.out jF.out (FH.out.wide λk hk=>.inl (by simp at hk;subst hk;exact awL ..)) (λg hg=>.inl hg) WI.out ae (by have:=kT.out;omega) (by have:=kT.out;omega);exact aB'):U:=h
theorem acu(base:Nat)(va:au)(a b:List C)(B:Option Addr)(m LC:Nat)(w:ak)(h:Ow 50 2 dM base w va a)(hb:Cs w B m LC b)(hbl:∀ad,B=some ad->ad.block<w.heap.size):
  Calls ax 36 #[va,.slice B m LC] w (kE base va (oz a b) w):=by
 obtain⟨A,cap,rfl,hC,xJ⟩:∃A cap,va=.slice A a.length cap/\Cs w A a.length cap a/\∀ad,A=some ad->ad.block<w.heap.size:=by exact aB2
 have Jh:=qA h;have hbn:=hb.len;have hle:=hC.le;have hmx:=hC.max;have ah5:=hb.le;have afa:=hb.max;obtain⟨w0,hw0,aV,Ji,hs0⟩:=WM w;have Lu:=gz.new (h.ev aV) (λk hk=>by have:=Jh k hk;omega);obtain⟨wa,zy⟩:∃wa,wa=w0.alloc (.cells #[.slice A a.length cap,.int .i64 0,.string ⟨#[]⟩] 58):=⟨_,rfl⟩
 have aN:Ev w0 wa:=by rw[zy];exact Ev.alloc _ _
 rw[<-zy]at Lu;have HR0:=zq Lu;have jV:=zq (Ji.ev aN);have Qg:=zq (aV.trans aN);have WI:=zq Jh;have Yj:w0.heap.size=w.heap.size+1:=hs0;have kT:=zq Yj;have AP:Hid (∀w1,But [w0.heap.size] wa w1->Cs w1 A a.length cap a):=zq λw1 hb1=>(hC.ev (aV.trans aN)).but hb1 λad e=>by have:=xJ ad e;simp;omega
 have uQ:Hid (∀w1,But [w0.heap.size] wa w1->Cs w1 B m LC b):=zq λw1 hb1=>(hb.ev (aV.trans aN)).but hb1 λad e=>by have:=hbl ad e;simp;omega
 have OH:=zq (λr nm w1 (hR:gz w0.heap.size base r (.slice A a.length cap) w1)=>ou w0.heap.size base r (.slice A a.length cap) 22 nm w1 hR);have HF0:=zq (ou w0.heap.size base (CR.of a) (.slice A a.length cap) 23 ⟨#[]⟩ wa Lu);have HU:Hid (oz a b=if a.length=m then (List.range a.length).foldl (nO a b) (CR.of a) else (CR.of a).fail 23 ⟨#[]⟩):=zq (by unfold oz;rw[hbn]);rw[HU.out];obtain⟨n,hn⟩:∃n,n=a.length:=⟨_,rfl⟩
 rw[<-hn]at hle;rw[<-hn]at zy HR0 AP OH HF0 WI|-;clear h hb hC Lu Ji aV aN Jh hs0 Yj hn hbn xJ hbl;by_cases hm:n=m
 ·subst hm;rw[if_pos rfl];go_enter func36,ntmps36;go_upto_region 5 with fail
  rw[<-zy];clear zy;go_wp2
  go_loopw [19] (λiv wr=>∃k:Nat,iv=↑k/\k<=n/\Hid (gz w0.heap.size base ((List.range k).foldl (nO a b) (CR.of a)) (.slice A n cap) wr)/\Hid (But [w0.heap.size] wa wr)) (λiv _=>n-(intOf iv).toNat)
  case atStart=>exact⟨0,rfl,awJ _,HR0,zq (But.refl _ _)⟩
  case round=>
   obtain⟨k,rfl,hk,HR,HB⟩:=hrel;by_cases hlt:k<n
   ·obtain⟨c,hc⟩:=(AP.out wr HB.out).at hlt;obtain⟨d,hd⟩:=(uQ.out wr HB.out).at hlt;obtain⟨ba,oa,rfl,ka0,ka1⟩:=Cs.qp (AP.out wr HB.out) hc;obtain⟨bb,ob,rfl,kb0,kb1⟩:=Cs.qp (uQ.out wr HB.out) hd;obtain⟨_,_,e1,hba,_⟩:=(AP.out wr HB.out).rd ae;injection e1 with e1
    injection e1 with e1 e2 _
    subst e1 e2;obtain⟨_,_,e1,Zr,_⟩:=(uQ.out wr HB.out).rd ae;injection e1 with e1
    injection e1 with e1 e2 _
    subst e1 e2;have i1:(0:Int)<=(k:Int):=ae;have i2:(k:Int)<(n:Int):=ae;have hBC:=Bx.new 50 #[.string c.1,.int .i64 c.2] wr;have hstep:(List.range (k+1)).foldl (nO a b) (CR.of a)=if c.2=d.2 then (List.range k).foldl (nO a b) (CR.of a) else ((List.range k).foldl (nO a b) (CR.of a)).fail 22 c.1:=by rw[tq];unfold nO;rw[Jj hc,Jj hd]
    have HST:=zq hstep;have hgr:=HR.out.box.lt;have HBC:=zq hBC;have c1:=hBC.cell 1;have c1:(wr.alloc (.cells #[.string c.1,.int .i64 c.2] 50)).cell? ⟨wr.heap.size,1,none⟩=some (.int .i64 c.2):=c1;clear hc hd hstep hBC;go_upto_region 8 with fail
    go_quiet (fail)
    generalize EJ:World.drewN _ _=wq;have hEQ:Ev (wr.alloc (.cells #[.string c.1,.int .i64 c.2] 50)) wq:=EJ▸Ev.drewN _ _;have HEQ:=zq (aB.trans hEQ);have n0:=(HBC.out.ev hEQ).cell 0;have n0:wq.cell? ⟨↑wr,0,none⟩=some (.string c.1):=n0;clear EJ hEQ c1 ka0 ka1 kb0 kb1;by_cases qW:c.2=d.2
    ·have hb1:(c.2==d.2)=true:=by simp[qW]
     have hb2:(c.2 !=d.2)=false:=by simp[qW]
     have HKK:=zq qW;clear qW;go_wp2;go_roundw
     case rel=>exact⟨k+1,by go_num,ae,zq (by rw[HST.out,if_pos HKK.out];exact HR.out.ev HEQ.out),zq (HB.out.then (But.aW HEQ.out))⟩
     case measure=>simp[intOf];omega
    have hb1:(c.2==d.2)=false:=awy.2 qW;have hb2:(c.2 !=d.2)=true:=by simp[qW]
    have HKK:=zq qW;clear qW;have HF1:=zq (OH.out _ c.1 _ (HR.out.ev HEQ.out))
    go_wp2_with (first
     | ((with_reducible refine(HF1.out).mono ?_);rintro e w2 ⟨rfl,hR2,hB2⟩;have jF:=zq hR2;have FH:=zq hB2;clear hR2 hB2))
    go_roundw
    case rel=>exact⟨k+1,by go_num,ae,zq (by rw[HST.out,if_neg HKK.out];exact jF.out),zq ((HB.out.then (But.aW HEQ.out)).then FH.out)⟩
    case measure=>simp[intOf];omega
   obtain rfl:k=n:=ae;have akQ:=jV.out.but HB.out (by have:=kT.out;simp;omega);obtain⟨⟨d0,d1,d2⟩,_⟩:=HR.out.box.three;obtain⟨⟨g0,g1,g2⟩,z0,z1,z2⟩:=akQ.three;clear akQ;go_wp2;(try simp only[Exit.inBlock,Exit.then]);rw[dI];obtain⟨f1,f2⟩:=mF Qg.out jV.out HR.out (HB.out.wide λk hk=>.inl (by simp at hk;subst hk;exact awL ..)) (λg hg=>.inl hg) WI.out ae (by have:=kT.out;omega) (by have:=kT.out;omega);exact aB'
 rw[if_neg hm];have i1:¬((n:Int)=(m:Int)):=ae;have i2:((n:Int)==(m:Int))=false:=awy.2 i1;have i3:((n:Int) !=(m:Int))=true:=by simp;omega
 have i4:(n==m)=false:=awy.2 hm;have i5:(n !=m)=true:=by simp[hm]
 go_enter func36,ntmps36;exact ay2
def bP(R:abJ)(w:ak)(e:Ending)(w':ak):Prop:=∃m:PM,e=.returned (.tuple #[.agg ↑m,.int .i64 R.2.1,.int .i64 (R.2.2:Int)])/\m.p=R.1/\Qx w.heap.size [] w' m/\Ev w w'
theorem uF(w:ak):∃w0,w.alloc (.cells ↑Zz.b 32)=w0/\Ev w w0/\Bx 32 w.heap.size ↑Zz.b w0/\w0.heap.size=w.heap.size+1:=⟨_,rfl,Ev.alloc _ _,Bx.new _ _ _,aj⟩
theorem WQ(s:By)(w:ak)(hs:s.length<=100000)(hc:¬(fF s).2.1=0):Calls ax 30 #[↑s] w (bP (ng s) w):=by
 have hP:ng s=(iC,(fF s).2.1,(fF s).2.2):=by unfold ng;rw[if_neg (by simpa using hc)]
 rw[hP];have hS:=λw1=>IZ ⟨s.toArray⟩ w1 (by simpa[ByteArray.size] using hs);simp only at hS;unfold sF at hS;unfold bP;generalize (fF s).2.1=c at*;generalize (fF s).2.2=ps at*;have HS:=zq hS;obtain⟨w0,hw0,aV,hR,hs0⟩:=uF w;have HR:=zq hR;have HE:=zq aV;clear hP hS hR aV hs;go_enter func30,ntmps30
 go_wp2_with (first
  | ((with_reducible refine(HS.out _).mono ?_);rintro r w1 ⟨t,rfl,ht,hl,aN⟩;have oK:=zq aN;obtain⟨⟨r0,r1,r2,r3,r4,r5,r6,r7⟩,s0,s1,s2,s3,s4,s5,s6,s7⟩:=(HR.out.ev (aN.trans (Ev.alloc w1 (.cells ↑t 101)))).eight;clear ht hl aN))
 (try simp only[Exit.inBlock,Exit.then]);rw[bH];have NH:=HR.out.ev (oK.out.trans (Ev.alloc w1 (.cells ↑t 101)));refine ayr (aI rfl _ _ _ _ _ rfl (NH.iP _ _ _ _ _ _ _ _) underlying32 rfl Tryz.bY) rfl ?_;exact⟨jR,rfl,iE,Qx.zero _ _ _,(HE.out.trans (oK.out.trans aB)).box (dw _ _ _ _ _ _ _ _ _ _) (awC _)⟩
theorem acz(w:ak)(c0 c1 c2 c3 c4:au):∃w2,(w.alloc (.cells #[c0,c1,c2,c3,c4] 101)).alloc (.cells #[.int .i64 0,.int .i64 0] 106)=w2/\Ev w w2/\Bx 101 w.heap.size #[c0,c1,c2,c3,c4] w2/\Rb (w.heap.size+1) (0,0) w2/\w2.heap.size=w.heap.size+2:=by have hB:=Bx.new 106 #[.int .i64 0,.int .i64 0] (w.alloc (.cells #[c0,c1,c2,c3,c4] 101));rw[show (w.alloc (.cells #[c0,c1,c2,c3,c4] 101)).heap.size=w.heap.size+1 by simp]at hB;exact⟨_,rfl,(Ev.alloc w _).trans aB,(Bx.new 101 #[c0,c1,c2,c3,c4] w).ev aB,hB,aj⟩
theorem QL(w:ak)(c0 c1 c2 c3 c4 c5 c6 c7:au):∃w4,w.alloc (.cells #[c0,c1,c2,c3,c4,c5,c6,c7] 32)=w4/\Ev w w4/\Bx 32 w.heap.size #[c0,c1,c2,c3,c4,c5,c6,c7] w4:=⟨_,rfl,Ev.alloc _ _,Bx.new _ _ _⟩
theorem acA(e:Er):((fU (0,0) e).1=0↔e.1=0)/\(e.1≠0->fU (0,0) e=e):=by unfold fU;by_cases h:e.1=0;simp[h];simp[h]
theorem WR(s:By)(w:ak)(hT:Tab w)(hs:s.length<=100000)(hc:(fF s).2.1=0)(he:¬(bF (fF s).1).1=0):Calls ax 30 #[↑s] w (bP (ng s) w):=by
 have hP:ng s=pFrom (fF s).1:=by unfold ng;rw[if_pos (by simpa using hc)]
 obtain⟨pU,Ul,hsize⟩:=Ku s hc;have hS:=λw1=>IZ ⟨s.toArray⟩ w1 (by simpa[ByteArray.size] using hs);simp only at hS;unfold sF at hS;rw[hc]at hS;rw[hP];unfold bP;generalize (fF s).2.2=ps at*;generalize (fF s).1=TT at*;have hR1:pFrom TT=(iC,(bF TT).1,(bF TT).2):=by unfold pFrom;rw[if_neg (by simpa using he)]
 rw[hR1];have HO:=zq ((acA (bF TT)).2 he);obtain⟨⟨ec,ep⟩,vO⟩:∃e,e=bF TT:=⟨_,rfl⟩
 rw[<-vO]at he HO|-;simp only at he|-;have vP:=zq vO;clear hR1 vO;have HS:=zq hS;have HF:=zq pU;have HZ:=zq hsize;obtain⟨w0,hw0,aV,hR,hs0⟩:=uF w;have HR:=zq hR;have HE:=zq aV;clear hP hS hR aV hs hc pU Ul hsize hT;go_enter func30,ntmps30
 go_wp2_with (first
  | ((with_reducible refine(HS.out _).mono ?_);rintro r w1 ⟨t,rfl,ht,hl,aN⟩;obtain⟨w2,hw2,bM,hT2,Um,hs2⟩:=acz w1 ↑t.kind ↑t.s ↑t.n (.slice t.A t.kids.length t.cap) ↑t.pos;have oK:=zq aN;have lH:=zq bM;have HT:=zq ht;have HL:=zq hl;have HRB:=zq Um;have Lt:=zq aN.size;obtain⟨⟨d0,d1,d2,d3,d4⟩,_⟩:=hT2.five;clear ht hl aN bM hT2 Um))
 have hLL:=(HL.out.less (K':=[w1.heap.size+1]) λk hk=>by simp at hk;subst hk;exact .inr (.inr ae)).ev lH.out;have HPL:=zq (QK t.dep t (w1.heap.size+1) (0,0) w0.heap.size w2 (awC _) HRB.out hLL (by rw[HT.out];exact(jT _ HF.out).1) (by rw[HT.out];have:=HZ.out;omega));clear hLL;refine(HPL.out).mono ?_;rintro r w3 ⟨p,rfl,kF,U7,kJ⟩;rw[HT.out]at kF kJ;rw[<-vP.out,HO.out]at kJ;obtain⟨w4,hw4,fG,FK⟩:=QL w3 ↑p.kind ↑p.name (.slice p.ex.A p.ex.l.length p.ex.cap) (.slice p.co.A p.co.l.length p.co.cap) (.slice p.lf.A p.lf.l.length p.lf.cap) (.slice p.rt.A p.rt.l.length p.rt.cap) (.slice p.ag.A p.ag.l.length p.ag.cap) (.slice p.A p.kids.length p.cap);have Un:Ev w w3:=But.yx (HE.out.trans (oK.out.trans lH.out)) kJ.but λk hk=>by simp at hk;subst hk;have:=Lt.out;omega
 have HEV:=zq (Un.trans fG);have QN:=zq (((HR.out.ev (oK.out.trans lH.out)).but kJ.but (by simp;have:=Lt.out;omega)).ev fG);obtain⟨⟨q0,q1⟩,_⟩:=(kJ.bx.ev fG).two;(try simp only at q0 q1);obtain⟨⟨p0,p1,p2,p3,p4,p5,p6,p7⟩,_⟩:=FK.eight;obtain⟨⟨r0,r1,r2,r3,r4,r5,r6,r7⟩,s0,s1,s2,s3,s4,s5,s6,s7⟩:=QN.out.eight;clear Un kF U7 kJ fG FK d0 d1 d2 d3 d4 HPL
 go_wp2_with (first
  | fail)
 have g1:¬(w1.heap.size+1=w.heap.size):=by have:=Lt.out;omega
 have g2:¬(w.heap.size=w1.heap.size+1):=by have:=Lt.out;omega
 go_region
 all_goals (
  go_wp2;(try simp only[Exit.inBlock,Exit.then]);rw[bH]
  first
   | (refine ayr (aI rfl _ _ _ _ _ rfl ((QN.out.iP _ _ _ _ _ _ _ _).ev (Ev.drew _)) underlying32 rfl Tryz.bY) rfl ?_;exact⟨jR,rfl,iE,Qx.zero _ _ _,((HEV.out).box (dw _ _ _ _ _ _ _ _ _ _) (awC _)).trans (Ev.drew _)⟩)
   | (refine ayr (aI rfl _ _ _ _ _ rfl ((QN.out.ev (Ev.drew _)).iP _ _ _ _ _ _ _ _) underlying32 rfl Tryz.bY) rfl ?_;exact⟨jR,rfl,iE,Qx.zero _ _ _,(HEV.out.trans (Ev.drew _)).box (dw _ _ _ _ _ _ _ _ _ _) (awC _)⟩))
theorem Uo(s:By)(w:ak)(hT:Tab w)(hs:s.length<=100000)(hc:(fF s).2.1=0)(he:(bF (fF s).1).1=0)(hlong:600<(printS (aH (pPlan (fF s).1))).length):Calls ax 30 #[↑s] w (bP (ng s) w):=by
 have hP:ng s=pFrom (fF s).1:=by unfold ng;rw[if_pos (by simpa using hc)]
 obtain⟨pU,Ul,hsize⟩:=Ku s hc;have hS:=λw1=>IZ ⟨s.toArray⟩ w1 (by simpa[ByteArray.size] using hs);simp only at hS;unfold sF at hS;rw[hc]at hS;rw[hP];unfold bP;generalize (fF s).2.2=ps at*;generalize (fF s).1=TT at*;obtain⟨hW,uU⟩:=EH pU hsize he;have HW:=zq hW;have hR1:pFrom TT=(iC,3,0):=by unfold pFrom;rw[if_pos (by simpa using he),if_pos hlong]
 rw[hR1];simp only;have HLG:=zq hlong;have HO:=zq ((acA (bF TT)).1.2 he);clear hW uU hR1 hlong;have HS:=zq hS;have HF:=zq pU;have HZ:=zq hsize;have QM:=zq hT;obtain⟨w0,hw0,aV,hR,hs0⟩:=uF w;have HR:=zq hR;have HE:=zq aV;clear hP hS hR aV hs hc pU Ul hsize hT;go_enter func30,ntmps30
 go_wp2_with (first
  | ((with_reducible refine(HS.out _).mono ?_);rintro r w1 ⟨t,rfl,ht,hl,aN⟩;obtain⟨w2,hw2,bM,hT2,Um,hs2⟩:=acz w1 ↑t.kind ↑t.s ↑t.n (.slice t.A t.kids.length t.cap) ↑t.pos;have oK:=zq aN;have lH:=zq bM;have HT:=zq ht;have HL:=zq hl;have HRB:=zq Um;have Lt:=zq aN.size;obtain⟨⟨d0,d1,d2,d3,d4⟩,_⟩:=hT2.five;clear ht hl aN bM hT2 Um))
 have hLL:=(HL.out.less (K':=[w1.heap.size+1]) λk hk=>by simp at hk;subst hk;exact .inr (.inr ae)).ev lH.out;have HPL:=zq (QK t.dep t (w1.heap.size+1) (0,0) w0.heap.size w2 (awC _) HRB.out hLL (by rw[HT.out];exact(jT _ HF.out).1) (by rw[HT.out];have:=HZ.out;omega));clear hLL;refine(HPL.out).mono ?_;rintro r w3 ⟨p,rfl,kF,U7,kJ⟩;rw[HT.out]at kF kJ;obtain⟨⟨ec,ep⟩,vO⟩:∃e,e=fU (0,0) (bF TT):=⟨_,rfl⟩;rw[<-vO]at kJ HO;obtain rfl:ec=0:=HO.out;clear HO vO;obtain⟨w4,hw4,fG,FK⟩:=QL w3 ↑p.kind ↑p.name (.slice p.ex.A p.ex.l.length p.ex.cap) (.slice p.co.A p.co.l.length p.co.cap) (.slice p.lf.A p.lf.l.length p.lf.cap) (.slice p.rt.A p.rt.l.length p.rt.cap) (.slice p.ag.A p.ag.l.length p.ag.cap) (.slice p.A p.kids.length p.cap);have rX:=zq kF;have HPQ:=zq U7;have HE4:=zq fG;have HB4:=zq FK;have Un:Ev w w3:=But.yx (HE.out.trans (oK.out.trans lH.out)) kJ.but λk hk=>by simp at hk;subst hk;have:=Lt.out;omega
 have HEV:=zq (Un.trans fG);have QN:=zq (((HR.out.ev (oK.out.trans lH.out)).but kJ.but (by simp;have:=Lt.out;omega)).ev fG);obtain⟨⟨q0,q1⟩,_⟩:=(kJ.bx.ev fG).two;(try simp only at q0 q1);obtain⟨⟨p0,p1,p2,p3,p4,p5,p6,p7⟩,_⟩:=FK.eight;obtain⟨⟨r0,r1,r2,r3,r4,r5,r6,r7⟩,s0,s1,s2,s3,s4,s5,s6,s7⟩:=QN.out.eight;clear Un kF U7 kJ fG FK d0 d1 d2 d3 d4 HPL
 go_wp2_with (first
  | fail
  | (have Ur:=zq (QE p w2.heap.size w4 (QM.out.ev HEV.out) (HPQ.out.ev HE4.out) (by rw[rX.out];exact HW.out.fit) (by rw[rX.out];have:=HW.out.size;omega) (by rw[rX.out];exact HW.out.len) (by rw[rX.out];exact HW.out.ne) (by rw[rX.out];exact HW.out.fits));unfold pv fH.v PM.kv at Ur;rw[rX.out]at Ur;generalize printS (aH (pPlan TT))=PS at Ur HLG;have i9:(600:Int)<(PS.length:Int):=(by have:=HLG.out;omega);(with_reducible refine(Ur.out).mono ?_);rintro r w5 ⟨rfl,kH⟩;have zN:=zq kH;clear kH p0 p1 p2 p3 p4 p5 p6 p7 r0 r1 r2 r3 r4 r5 r6 r7 s0 s1 s2 s3 s4 s5 s6 s7 q0 q1;obtain⟨⟨p0,p1,p2,p3,p4,p5,p6,p7⟩,_⟩:=(HB4.out.ev zN.out).eight;obtain⟨⟨r0,r1,r2,r3,r4,r5,r6,r7⟩,s0,s1,s2,s3,s4,s5,s6,s7⟩:=(QN.out.ev zN.out).eight;skip))
 (try simp only[Exit.inBlock,Exit.then]);rw[bH];refine ayr (aI rfl _ _ _ _ _ rfl ((QN.out.ev zN.out).iP _ _ _ _ _ _ _ _) underlying32 rfl Tryz.bY) rfl ?_;exact⟨jR,rfl,iE,Qx.zero _ _ _,(HEV.out.trans zN.out).box (dw _ _ _ _ _ _ _ _ _ _) (awC _)⟩
theorem ZG(s:By)(w:ak)(hT:Tab w)(hs:s.length<=100000)(hc:(fF s).2.1=0)(he:(bF (fF s).1).1=0)(hlong:¬600<(printS (aH (pPlan (fF s).1))).length):Calls ax 30 #[↑s] w (bP (ng s) w):=by
 have hP:ng s=pFrom (fF s).1:=by unfold ng;rw[if_pos (by simpa using hc)]
 obtain⟨pU,Ul,hsize⟩:=Ku s hc;have hS:=λw1=>IZ ⟨s.toArray⟩ w1 (by simpa[ByteArray.size] using hs);simp only at hS;unfold sF at hS;rw[hc]at hS;rw[hP];unfold bP;generalize (fF s).2.2=ps at*;generalize (fF s).1=TT at*;obtain⟨hW,uU⟩:=EH pU hsize he;have HW:=zq hW;have hR1:pFrom TT=(pPlan TT,0,0):=by unfold pFrom;rw[if_pos (by simpa using he),if_neg hlong]
 rw[hR1];simp only;have HLG:=zq hlong;have HO:=zq ((acA (bF TT)).1.2 he);clear hW uU hR1 hlong;have HS:=zq hS;have HF:=zq pU;have HZ:=zq hsize;have QM:=zq hT;obtain⟨w0,hw0,aV,hR,hs0⟩:=uF w;have HR:=zq hR;have HE:=zq aV;clear hP hS hR aV hs hc pU Ul hsize hT;go_enter func30,ntmps30
 go_wp2_with (first
  | ((with_reducible refine(HS.out _).mono ?_);rintro r w1 ⟨t,rfl,ht,hl,aN⟩;obtain⟨w2,hw2,bM,hT2,Um,hs2⟩:=acz w1 ↑t.kind ↑t.s ↑t.n (.slice t.A t.kids.length t.cap) ↑t.pos;have oK:=zq aN;have lH:=zq bM;have HT:=zq ht;have HL:=zq hl;have HRB:=zq Um;have Lt:=zq aN.size;obtain⟨⟨d0,d1,d2,d3,d4⟩,_⟩:=hT2.five;clear ht hl aN bM hT2 Um))
 have hLL:=(HL.out.less (K':=[w1.heap.size+1]) λk hk=>by simp at hk;subst hk;exact .inr (.inr ae)).ev lH.out;have HPL:=zq (QK t.dep t (w1.heap.size+1) (0,0) w0.heap.size w2 (awC _) HRB.out hLL (by rw[HT.out];exact(jT _ HF.out).1) (by rw[HT.out];have:=HZ.out;omega));clear hLL;refine(HPL.out).mono ?_;rintro r w3 ⟨p,rfl,kF,U7,kJ⟩;rw[HT.out]at kF kJ;obtain⟨⟨ec,ep⟩,vO⟩:∃e,e=fU (0,0) (bF TT):=⟨_,rfl⟩;rw[<-vO]at kJ HO;obtain rfl:ec=0:=HO.out;clear HO vO;obtain⟨w4,hw4,fG,FK⟩:=QL w3 ↑p.kind ↑p.name (.slice p.ex.A p.ex.l.length p.ex.cap) (.slice p.co.A p.co.l.length p.co.cap) (.slice p.lf.A p.lf.l.length p.lf.cap) (.slice p.rt.A p.rt.l.length p.rt.cap) (.slice p.ag.A p.ag.l.length p.ag.cap) (.slice p.A p.kids.length p.cap);have rX:=zq kF;have HPQ:=zq U7;have HE4:=zq fG;have HB4:=zq FK;have Un:Ev w w3:=But.yx (HE.out.trans (oK.out.trans lH.out)) kJ.but λk hk=>by simp at hk;subst hk;have:=Lt.out;omega
 have HEV:=zq (Un.trans fG);have QN:=zq (((HR.out.ev (oK.out.trans lH.out)).but kJ.but (by simp;have:=Lt.out;omega)).ev fG);obtain⟨⟨q0,q1⟩,_⟩:=(kJ.bx.ev fG).two;(try simp only at q0 q1);obtain⟨⟨p0,p1,p2,p3,p4,p5,p6,p7⟩,_⟩:=FK.eight;obtain⟨⟨r0,r1,r2,r3,r4,r5,r6,r7⟩,s0,s1,s2,s3,s4,s5,s6,s7⟩:=QN.out.eight;clear Un kF U7 kJ fG FK d0 d1 d2 d3 d4 HPL
 go_wp2_with (first
  | fail
  | (have Ur:=zq (QE p w2.heap.size w4 (QM.out.ev HEV.out) (HPQ.out.ev HE4.out) (by rw[rX.out];exact HW.out.fit) (by rw[rX.out];have:=HW.out.size;omega) (by rw[rX.out];exact HW.out.len) (by rw[rX.out];exact HW.out.ne) (by rw[rX.out];exact HW.out.fits));unfold pv fH.v PM.kv at Ur;rw[rX.out]at Ur;generalize printS (aH (pPlan TT))=PS at Ur HLG;have i9:¬((600:Int)<(PS.length:Int)):=(by have:=HLG.out;omega);(with_reducible refine(Ur.out).mono ?_);rintro r w5 ⟨rfl,kH⟩;have zN:=zq kH;clear kH p0 p1 p2 p3 p4 p5 p6 p7 r0 r1 r2 r3 r4 r5 r6 r7 s0 s1 s2 s3 s4 s5 s6 s7 q0 q1;obtain⟨⟨p0,p1,p2,p3,p4,p5,p6,p7⟩,_⟩:=(HB4.out.ev zN.out).eight;obtain⟨⟨r0,r1,r2,r3,r4,r5,r6,r7⟩,s0,s1,s2,s3,s4,s5,s6,s7⟩:=(QN.out.ev zN.out).eight;skip))
 (try simp only[Exit.inBlock,Exit.then]);rw[bH];refine ayr (aI rfl _ _ _ _ _ rfl ((QN.out.ev zN.out).iP _ _ _ _ _ _ _ _) underlying32 rfl Tryz.bY) rfl ?_;have hlt:w.heap.size<w2.heap.size:=by have:=Lt.out;omega
 exact⟨p,rfl,rX.out,((((HPQ.out.ev HE4.out).ev zN.out).less (K':=[w.heap.size]) λk hk=>by simp at hk;subst hk;exact .inr (.inl hlt)).move (dw _ _ _ _ _ _ _ _ _ _) λk hk=>by cases hk).low (Nat.le_of_lt hlt),(HEV.out.trans zN.out).box (dw _ _ _ _ _ _ _ _ _ _) (awC _)⟩
theorem Yk(s:By)(w:ak)(hT:Tab w)(hs:s.length<=100000):Calls ax 30 #[↑s] w (bP (ng s) w):=by by_cases hc:(fF s).2.1=0;by_cases he:(bF (fF s).1).1=0;by_cases hl:600<(printS (aH (pPlan (fF s).1))).length;exact Uo s w hT hs hc he hl;exact ZG s w hT hs hc he hl;exact WR s w hT hs hc he;exact WQ s w hs hc
theorem azY(h:U:=by
 have i1:(0:Int)<=(k:Int):=ae;have i2:(k:Int)<(n:Int):=ae;clear hx hc hc';go_upto_region 6 with fail
 go_region
 all_goals (
  go_wp2;go_roundw
  case rel=>exact⟨k+1,by go_num,ae,zq (HE.out.trans (Ev.drew _))⟩
  case measure=>simp[intOf];omega)):U:=h
theorem LH(l:List By)(A A':Option Addr)(n cap cap':Nat)(w:ak)(h:Ss w A n cap l)(h':Ss w A' n cap' l)(hn:n<=100000):
  Calls ax 61 #[.slice A n cap,.slice A' n cap'] w λe w'=>e=.returned (.bool true)/\Ev w w':=by
 have H:=zq h;have H':=zq h';have cu:=zq (Ev.refl w);clear h h';go_enter func61,ntmps61;go_wp2
 go_loopw [13] (λiv wr=>∃k:Nat,iv=↑k/\k<=n/\Hid (Ev w wr)) (λiv _=>n-(intOf iv).toNat)
 case atStart=>exact⟨0,rfl,awJ _,cu⟩
 case round=>
  obtain⟨k,rfl,hk,HE⟩:=hrel;by_cases hlt:k<n;obtain⟨x,hx⟩:=H.out.at hlt;obtain⟨b,off,rfl,hb,hc⟩:=(H.out.ev HE.out).rd ae;obtain⟨b',off',rfl,hb',hc'⟩:=(H'.out.ev HE.out).rd ae;have c0:=hc k x hx 0 _ rfl;have d0:=hc' k x hx 0 _ rfl;simp only[ayj,aw2]at c0 d0;exact azY;obtain rfl:k=n:=ae;go_wp2;go_ret;exact⟨rfl,HE.out⟩
theorem afc(l:List Ag)(A A':Option Addr)(n cap cap':Nat)(w:ak)(h:Sl 3 ac w A n cap l)(h':Sl 3 ac w A' n cap' l)(hn:n<=100000):
  Calls ax 62 #[.slice A n cap,.slice A' n cap'] w λe w'=>e=.returned (.bool true)/\Ev w w':=by
 have H:=zq h;have H':=zq h';have cu:=zq (Ev.refl w);clear h h';go_enter func62,ntmps62;go_wp2
 go_loopw [13] (λiv wr=>∃k:Nat,iv=↑k/\k<=n/\Hid (Ev w wr)) (λiv _=>n-(intOf iv).toNat)
 case atStart=>exact⟨0,rfl,awJ _,cu⟩
 case round=>
  obtain⟨k,rfl,hk,HE⟩:=hrel;by_cases hlt:k<n;obtain⟨x,hx⟩:=H.out.at hlt;obtain⟨b,off,rfl,hb,hc⟩:=(H.out.ev HE.out).rd ae;obtain⟨b',off',rfl,hb',hc'⟩:=(H'.out.ev HE.out).rd ae;have c0:=hc k x hx 0 _ rfl;have d0:=hc' k x hx 0 _ rfl;have c1:=hc k x hx 1 _ rfl;have d1:=hc' k x hx 1 _ rfl;have c2:=hc k x hx 2 _ rfl;have d2:=hc' k x hx 2 _ rfl;simp only[aw2]at c0 d0;exact azY;obtain rfl:k=n:=ae;go_wp2;go_ret;exact⟨rfl,HE.out⟩
def Yes(w:ak)(e:Ending)(w':ak):Prop:=e=.returned (.bool true)/\Ev w w'
theorem aAp(h:U:=by
 go_wp2_with (first
  | ((with_reducible refine(HC.out _ zN.out).mono ?_);rintro e w6 ⟨rfl,lS⟩))
 go_roundw
 case rel=>exact⟨k+1,by go_num,ae,zq (zN.out.trans lS)⟩
 case measure=>simp[intOf];omega):U:=h
theorem O6(X X':List M)(A A':Option Addr)(n cap cap':Nat)(w:ak)(h:Es w A n cap X)(h':Es w A' n cap' X')(hn:n<=100000)(hf:∀(i:Nat) (x x':M),X[i]?=some x->X'[i]?=some x'->∀w1,Ev w w1->Calls ax 60 #[xZ x,xZ x'] w1 (Yes w1)):
  Calls ax 59 #[.slice A n cap,.slice A' n cap',.func (.func 60) #[] #[]] w (Yes w):=by
 have hc1:=h.le;have hc2:=h.max;have hc3:=h'.le;have hc4:=h'.max;have H:=zq h;have H':=zq h';have HF:=zq hf;have cu:=zq (Ev.refl w);unfold Yes;clear h h' hf;go_enter func59,ntmps59;go_wp2
 go_loopw [17] (λiv wr=>∃k:Nat,iv=↑k/\k<=n/\Hid (Ev w wr)) (λiv _=>n-(intOf iv).toNat)
 case atStart=>exact⟨0,rfl,awJ _,by first|exact cu|exact zq aB|exact zq (aB.trans aB)⟩
 case round=>
  obtain⟨k,rfl,hk,HE⟩:=hrel;by_cases hlt:k<n;obtain⟨x,hx⟩:=H.out.at hlt;obtain⟨x',hx'⟩:=H'.out.at hlt;obtain⟨b,off,rfl,hb,c0,c1,c2,c3⟩:=Es.cell (H.out.ev HE.out) hx;obtain⟨b',off',rfl,hb',d0,d1,d2,d3⟩:=Es.cell (H'.out.ev HE.out) hx';have HC:=zq (λw1 (hE:Ev w w1)=>HF.out k x x' hx hx' w1 hE);unfold M.kv at c3 d3;unfold xZ M.kv Yes at HC;obtain⟨w4,hw4,fG,FK⟩:∃w4,wr.alloc (.cells ↑(x,()) 47)=w4/\Ev wr w4/\Bx 47 wr.heap.size ↑(x,()) w4:=⟨_,rfl,Ev.alloc _ _,Bx.new _ _ _⟩
  have e0:=(fG.cell (p:=⟨b',off'+k*4,none⟩) hb').trans d0;have e1:=(fG.cell (p:=⟨b',off'+k*4+1,none⟩) hb').trans d1;have e2:=(fG.cell (p:=⟨b',off'+k*4+2,none⟩) hb').trans d2;have e3:=(fG.cell (p:=⟨b',off'+k*4+3,none⟩) hb').trans d3;obtain⟨w5,FD,kH,MX⟩:∃w5,w4.alloc (.cells ↑(x',()) 47)=w5/\Ev w4 w5/\Bx 47 w4.heap.size ↑(x',()) w5:=⟨_,rfl,Ev.alloc _ _,Bx.new _ _ _⟩
  obtain⟨⟨f0,f1,f2,f3⟩,_⟩:=(FK.ev kH).four;obtain⟨⟨g0,g1,g2,g3⟩,_⟩:=MX.four;have zN:=zq ((HE.out.trans fG).trans kH);have i1:(0:Int)<=(k:Int):=ae;have i2:(k:Int)<(n:Int):=ae;clear hx hx' d0 d1 d2 d3 fG FK kH MX;exact aAp;obtain rfl:k=n:=ae;go_wp2;go_ret;exact⟨rfl,HE.out⟩
theorem akX(w:ak)(c0 c1 c2 c3 d0 d1 d2 d3:au):∃w0,(w.alloc (.cells #[c0,c1,c2,c3] 47)).alloc (.cells #[d0,d1,d2,d3] 47)=w0/\Ev w w0/\Bx 47 w.heap.size #[c0,c1,c2,c3] w0/\Bx 47 (w.heap.size+1) #[d0,d1,d2,d3] w0:=by have hB:=Bx.new 47 #[d0,d1,d2,d3] (w.alloc (.cells #[c0,c1,c2,c3] 47));rw[show (w.alloc (.cells #[c0,c1,c2,c3] 47)).heap.size=w.heap.size+1 by simp]at hB;exact aCc
theorem ZH(N:Nat):∀(m m':M) (b0 b0':Nat) (w:ak),m.dep<=N->Lx b0 [] w m->Lx b0' [] w m'->m.t=m'.t->m.t.size<=100000->
  Calls ax 60 #[xZ m,xZ m'] w (Yes w):=by
 induction N with
 | zero=>
  intro m m' b0 b0' w hd;rw[M.lh]at hd;omega
 | succ N ih=>
  intro m m' b0 b0' w hd hL hL' ht hsz;have hz:=T.size_eq m.t;have hzl:=jZ m.t.kids;rw[M.bD,awD]at hzl;rw[M.bD]at hz;have SL:=ht;rw[M.qR,M.qR m']at SL;injection SL with e1 e2 e3 e4 e5
  have hlen:m'.kids.length=m.kids.length:=by have:=axc List.length e4;simpa using this.symm
  have hEF:=λw1 (hE:Ev w w1)=>O6 m.kids m'.kids m.A m'.A m.kids.length m.cap m'.cap w1 (hL.es.ev hE) (by have:=hL'.es.ev hE;rwa [hlen]at this) ae λi x x' hx hx' w2 bM=>by
   have gJ:=awG hx;have aoT:=awG hx';refine ih x x' b0 b0' w2 (by have:=M.jY gJ;omega) ((hL.kid x gJ).ev (hE.trans bM)) ((hL'.kid x' aoT).ev (hE.trans bM)) ?_ ?_;have h1:(m.kids.map M.t)[i]?=some x.t:=by rw[axh,hx];rfl
   have h2:(m'.kids.map M.t)[i]?=some x'.t:=by rw[axh,hx'];rfl
   rw[e4,h2]at h1;exact(axd h1).symm;have:=iQ (aw9 (f:=T.size) (aw9 (f:=M.t) gJ));omega
  unfold Yes at hEF|-;unfold xZ M.kv;rw[<-e1,<-e2,<-e3,hlen];have HEF:=zq hEF;obtain⟨w0,hw0,aV,hX,hB⟩:=akX w ↑m.kind ↑m.s ↑m.n (.slice m.A m.kids.length m.cap) ↑m.kind ↑m.s ↑m.n (.slice m'.A m.kids.length m'.cap);obtain⟨⟨c0,c1,c2,c3⟩,_⟩:=hX.four;obtain⟨⟨d0,d1,d2,d3⟩,_⟩:=hB.four;have HE:=zq aV;clear hEF hX hB aV ih hd hL hL' ht hsz hz hzl e1 e2 e3 e4 e5 hlen;go_enter func60,ntmps60
  go_wp2_with (first
   | ((with_reducible refine(HEF.out _ HE.out).mono ?_);rintro e w6 ⟨rfl,lS⟩))
  go_ret;exact⟨rfl,HE.out.trans lS⟩
theorem ZI(X X':List PM)(A A':Option Addr)(n cap cap':Nat)(w:ak)(h:Ps w A n cap X)(h':Ps w A' n cap' X')(hn:n<=100000)(hf:∀(i:Nat) (x x':PM),X[i]?=some x->X'[i]?=some x'->∀w1,Ev w w1->Calls ax 31 #[pv x,pv x'] w1 (Yes w1)):
  Calls ax 63 #[.slice A n cap,.slice A' n cap',.func (.func 31) #[] #[]] w (Yes w):=by
 have hc1:=h.le;have hc2:=h.max;have hc3:=h'.le;have hc4:=h'.max;have H:=zq h;have H':=zq h';have HF:=zq hf;have cu:=zq (Ev.refl w);unfold Yes;clear h h' hf;go_enter func63,ntmps63;go_wp2
 go_loopw [17] (λiv wr=>∃k:Nat,iv=↑k/\k<=n/\Hid (Ev w wr)) (λiv _=>n-(intOf iv).toNat)
 case atStart=>exact⟨0,rfl,awJ _,cu⟩
 case round=>
  obtain⟨k,rfl,hk,HE⟩:=hrel;by_cases hlt:k<n;obtain⟨x,hx⟩:=H.out.at hlt;obtain⟨x',hx'⟩:=H'.out.at hlt;obtain⟨b,off,rfl,hb,_⟩:=(H.out.ev HE.out).rd ae;obtain⟨b',off',rfl,hb',_⟩:=(H'.out.ev HE.out).rd ae;obtain⟨c0,c1,c2,c3,c4,c5,c6,c7⟩:=Ps.cell (H.out.ev HE.out) hx;obtain⟨d0,d1,d2,d3,d4,d5,d6,d7⟩:=Ps.cell (H'.out.ev HE.out) hx';have HC:=zq (λw1 (hE:Ev w w1)=>HF.out k x x' hx hx' w1 hE);unfold pv Yes at HC;unfold fH.v PM.kv at*;obtain⟨w4,hw4,fG,FK⟩:∃w4,wr.alloc (.cells ↑x 32)=w4/\Ev wr w4/\Bx 32 wr.heap.size ↑x w4:=⟨_,rfl,Ev.alloc _ _,Bx.new _ _ _⟩
  have e0:=(fG.cell (p:=⟨b',off'+k*8,none⟩) hb').trans d0;have e1:=(fG.cell (p:=⟨b',off'+k*8+1,none⟩) hb').trans d1;have e2:=(fG.cell (p:=⟨b',off'+k*8+2,none⟩) hb').trans d2;have e3:=(fG.cell (p:=⟨b',off'+k*8+3,none⟩) hb').trans d3;have e4:=(fG.cell (p:=⟨b',off'+k*8+4,none⟩) hb').trans d4;have e5:=(fG.cell (p:=⟨b',off'+k*8+5,none⟩) hb').trans d5;have e6:=(fG.cell (p:=⟨b',off'+k*8+6,none⟩) hb').trans d6;have e7:=(fG.cell (p:=⟨b',off'+k*8+7,none⟩) hb').trans d7;obtain⟨w5,FD,kH,MX⟩:∃w5,w4.alloc (.cells ↑x' 32)=w5/\Ev w4 w5/\Bx 32 w4.heap.size ↑x' w5:=⟨_,rfl,Ev.alloc _ _,Bx.new _ _ _⟩
  obtain⟨⟨f0,f1,f2,f3,f4,f5,f6,f7⟩,_⟩:=(FK.ev kH).eight;obtain⟨⟨g0,g1,g2,g3,g4,g5,g6,g7⟩,_⟩:=MX.eight;have zN:=zq ((HE.out.trans fG).trans kH);have i1:(0:Int)<=(k:Int):=ae;have i2:(k:Int)<(n:Int):=ae;clear hx hx' d0 d1 d2 d3 d4 d5 d6 d7 fG FK kH MX;exact aAp;obtain rfl:k=n:=ae;go_wp2;go_ret;exact⟨rfl,HE.out⟩
theorem agD(w:ak)(c0 c1 c2 c3 c4 c5 c6 c7 d0 d1 d2 d3 d4 d5 d6 d7:au):∃w0,(w.alloc (.cells #[c0,c1,c2,c3,c4,c5,c6,c7] 32)).alloc (.cells #[d0,d1,d2,d3,d4,d5,d6,d7] 32)=w0/\Ev w w0/\Bx 32 w.heap.size #[c0,c1,c2,c3,c4,c5,c6,c7] w0/\Bx 32 (w.heap.size+1) #[d0,d1,d2,d3,d4,d5,d6,d7] w0:=by have hB:=Bx.new 32 #[d0,d1,d2,d3,d4,d5,d6,d7] (w.alloc (.cells #[c0,c1,c2,c3,c4,c5,c6,c7] 32));rw[show (w.alloc (.cells #[c0,c1,c2,c3,c4,c5,c6,c7] 32)).heap.size=w.heap.size+1 by simp]at hB;exact⟨_,rfl,(Ev.alloc w _).trans aB,(Bx.new 32 #[c0,c1,c2,c3,c4,c5,c6,c7] w).ev aB,hB⟩
theorem ZJ{k:Int}{nm:By}{es:List T}{cs lf rt:List By}{ag:List Ag}{nk:Nat}(h:Ac k nm es cs lf rt ag nk)(hes:es.length<=10000):cs.length<=10000:=by rcases h with⟨_,_,_,rfl,_⟩|⟨_,_,_,rfl,_⟩|⟨_,_,_,h,_⟩|⟨_,_,_,rfl,_⟩|⟨_,_,_,rfl,_⟩|⟨_,_,_,rfl,_⟩|⟨_,_,_,rfl,_⟩<;>first|omega|simp
theorem ZK(N:Nat):∀(m m':PM) (b0 b0':Nat) (w:ak),m.dep<=N->Qx b0 [] w m->Qx b0' [] w m'->m.p=m'.p->m.p.good->m.p.fit->
  Calls ax 31 #[pv m,pv m'] w (Yes w):=by
 induction N with
 | zero=>
  intro m m' b0 b0' w hd;rw[PM.lh]at hd;omega
 | succ N ih=>
  intro m m' b0 b0' w hd hL hL' ht hg hf;obtain⟨⟨_,hfe,_,hel,jg,hrl,JW,hkn⟩,hkf⟩:=Yh hf;rw[awD]at hel;have hg2:=hg;rw[PM.sW,Pl.good,Pl.uM]at hg2;have hcl:=ZJ hg2.1 (by rw[awD];exact hel);have hkg:∀x∈m.kids,x.p.good:=λx hx=>hg2.2 x.p (aw9 hx);have SL:=ht;rw[PM.sW m,PM.sW m']at SL;injection SL with e1 e2 e3 e4 e5 e6 e7 e8
  have hlex:m'.ex.l.length=m.ex.l.length:=by have:=axc List.length e3;simpa using this.symm
  have hlk:m'.kids.length=m.kids.length:=by have:=axc List.length e8;simpa using this.symm
  obtain⟨hex,hlx,xQ,pJ,hrt,yz,BM,QA⟩:=hL.at;obtain⟨acC,acD,acE,acF,acG,acH,aib,acI⟩:=hL'.at;have hEX:=λw1 (hE:Ev w w1)=>O6 m.ex.l m'.ex.l m.ex.A m'.ex.A m.ex.l.length m.ex.cap m'.ex.cap w1 (hex.sl.ev hE) (by have:=acC.sl.ev hE;rwa [hlex]at this) ae λi x x' hx hx' w2 bM=>by
   have gJ:=awG hx;refine ZH x.dep x x' b0 b0' w2 (awC _) ((hlx x gJ).ev (hE.trans bM)) ((acD x' (awG hx')).ev (hE.trans bM)) ?_ (by have:=(hfe x.t (aw9 gJ)).2.1;omega);have h1:(m.ex.l.map M.t)[i]?=some x.t:=by rw[axh,hx];rfl
   have h2:(m'.ex.l.map M.t)[i]?=some x'.t:=by rw[axh,hx'];rfl
   rw[e3,h2]at h1;exact(axd h1).symm
  have hCO:=λw1 (hE:Ev w w1)=>LH m.co.l m.co.A m'.co.A m.co.l.length m.co.cap m'.co.cap w1 (xQ.sl.ev hE) (by have:=acE.sl.ev hE;rwa [<-e4]at this) ae;have hLF:=λw1 (hE:Ev w w1)=>LH m.lf.l m.lf.A m'.lf.A m.lf.l.length m.lf.cap m'.lf.cap w1 (pJ.sl.ev hE) (by have:=acF.sl.ev hE;rwa [<-e5]at this) ae;have hRT:=λw1 (hE:Ev w w1)=>LH m.rt.l m.rt.A m'.rt.A m.rt.l.length m.rt.cap m'.rt.cap w1 (hrt.sl.ev hE) (by have:=acG.sl.ev hE;rwa [<-e6]at this) ae;have Ya:=λw1 (hE:Ev w w1)=>afc m.ag.l m.ag.A m'.ag.A m.ag.l.length m.ag.cap m'.ag.cap w1 (yz.sl.ev hE) (by have:=acH.sl.ev hE;rwa [<-e7]at this) ae;have hKD:=λw1 (hE:Ev w w1)=>ZI m.kids m'.kids m.A m'.A m.kids.length m.cap m'.cap w1 (hL.ps.ev hE) (by have:=hL'.ps.ev hE;rwa [hlk]at this) ae λi x x' hx hx' w2 bM=>by
   have gJ:=awG hx;refine ih x x' b0 b0' w2 (by have:=PM.jY gJ;omega) ((QA x gJ).ev (hE.trans bM)) ((acI x' (awG hx')).ev (hE.trans bM)) ?_ (hkg x gJ) (hkf x gJ);have h1:(m.kids.map PM.p)[i]?=some x.p:=by rw[axh,hx];rfl
   have h2:(m'.kids.map PM.p)[i]?=some x'.p:=by rw[axh,hx'];rfl
   rw[e8,h2]at h1;exact(axd h1).symm
  unfold Yes at hEX hKD|-;unfold pv fH.v PM.kv;rw[<-e1,<-e2,hlex,hlk,<-e4,<-e5,<-e6,<-e7];have GL:=zq hEX;have EE:=zq hCO;have zS:=zq hLF;have zG:=zq hRT;have Ar:=zq Ya;have uT:=zq hKD;obtain⟨w0,hw0,aV,hX,hB⟩:=agD w ↑m.kind ↑m.name (.slice m.ex.A m.ex.l.length m.ex.cap) (.slice m.co.A m.co.l.length m.co.cap) (.slice m.lf.A m.lf.l.length m.lf.cap) (.slice m.rt.A m.rt.l.length m.rt.cap) (.slice m.ag.A m.ag.l.length m.ag.cap) (.slice m.A m.kids.length m.cap) ↑m.kind ↑m.name (.slice m'.ex.A m.ex.l.length m'.ex.cap) (.slice m'.co.A m.co.l.length m'.co.cap) (.slice m'.lf.A m.lf.l.length m'.lf.cap) (.slice m'.rt.A m.rt.l.length m'.rt.cap) (.slice m'.ag.A m.ag.l.length m'.ag.cap) (.slice m'.A m.kids.length m'.cap);obtain⟨⟨p0,p1,p2,p3,p4,p5,p6,p7⟩,_⟩:=hX.eight;obtain⟨⟨q0,q1,q2,q3,q4,q5,q6,q7⟩,_⟩:=hB.eight;have HE:=zq aV;have HX:=zq hX;have HB:=zq hB;clear hEX hCO hLF hRT Ya hKD hX hB aV ih hd hL hL' ht hg hf hfe hel jg hrl JW hkn hkf hg2 hcl hkg e1 e2 e3 e4 e5 e6 e7 e8 hlex hlk hex hlx xQ pJ hrt yz BM QA acC acD acE acF acG acH aib acI;go_enter func31,ntmps31
  go_wp2_with (first
   | ((with_reducible refine(GL.out _ HE.out).mono ?_);rintro e w1 ⟨rfl,aN⟩;have F1:=zq aN;have E1:=zq (HE.out.trans F1.out);clear aN p0 p1 p2 p3 p4 p5 p6 p7 q0 q1 q2 q3 q4 q5 q6 q7;obtain⟨⟨p0,p1,p2,p3,p4,p5,p6,p7⟩,_⟩:=(HX.out.ev F1.out).eight;obtain⟨⟨q0,q1,q2,q3,q4,q5,q6,q7⟩,_⟩:=(HB.out.ev F1.out).eight)
   | ((with_reducible refine(EE.out _ E1.out).mono ?_);rintro e w2 ⟨rfl,bM⟩;have F2:=zq (F1.out.trans bM);have E2:=zq (HE.out.trans F2.out);clear bM p0 p1 p2 p3 p4 p5 p6 p7 q0 q1 q2 q3 q4 q5 q6 q7;obtain⟨⟨p0,p1,p2,p3,p4,p5,p6,p7⟩,_⟩:=(HX.out.ev F2.out).eight;obtain⟨⟨q0,q1,q2,q3,q4,q5,q6,q7⟩,_⟩:=(HB.out.ev F2.out).eight)
   | ((with_reducible refine(zS.out _ E2.out).mono ?_);rintro e w3 ⟨rfl,dV⟩;have F3:=zq (F2.out.trans dV);have E3:=zq (HE.out.trans F3.out);clear dV p0 p1 p2 p3 p4 p5 p6 p7 q0 q1 q2 q3 q4 q5 q6 q7;obtain⟨⟨p0,p1,p2,p3,p4,p5,p6,p7⟩,_⟩:=(HX.out.ev F3.out).eight;obtain⟨⟨q0,q1,q2,q3,q4,q5,q6,q7⟩,_⟩:=(HB.out.ev F3.out).eight)
   | ((with_reducible refine(zG.out _ E3.out).mono ?_);rintro e w4 ⟨rfl,fG⟩;have F4:=zq (F3.out.trans fG);have E4:=zq (HE.out.trans F4.out);clear fG p0 p1 p2 p3 p4 p5 p6 p7 q0 q1 q2 q3 q4 q5 q6 q7;obtain⟨⟨p0,p1,p2,p3,p4,p5,p6,p7⟩,_⟩:=(HX.out.ev F4.out).eight;obtain⟨⟨q0,q1,q2,q3,q4,q5,q6,q7⟩,_⟩:=(HB.out.ev F4.out).eight)
   | ((with_reducible refine(Ar.out _ E4.out).mono ?_);rintro e w5 ⟨rfl,kH⟩;have F5:=zq (F4.out.trans kH);have E5:=zq (HE.out.trans F5.out);clear kH p0 p1 p2 p3 p4 p5 p6 p7 q0 q1 q2 q3 q4 q5 q6 q7;obtain⟨⟨p0,p1,p2,p3,p4,p5,p6,p7⟩,_⟩:=(HX.out.ev F5.out).eight;obtain⟨⟨q0,q1,q2,q3,q4,q5,q6,q7⟩,_⟩:=(HB.out.ev F5.out).eight)
   | ((with_reducible refine(uT.out _ E5.out).mono ?_);rintro e w6 ⟨rfl,lS⟩;have F6:=zq (F5.out.trans lS);have E6:=zq (HE.out.trans F6.out);clear lS p0 p1 p2 p3 p4 p5 p6 p7 q0 q1 q2 q3 q4 q5 q6 q7;obtain⟨⟨p0,p1,p2,p3,p4,p5,p6,p7⟩,_⟩:=(HX.out.ev F6.out).eight;obtain⟨⟨q0,q1,q2,q3,q4,q5,q6,q7⟩,_⟩:=(HB.out.ev F6.out).eight))
  go_ret;exact⟨rfl,E6.out⟩
abbrev Pp:=Addr×PM
def ppc(x:Pp):List au:=[.pointer (some x.1)]
theorem Ut:Enc 1 ppc:=⟨ae,λ_=>rfl,λx u hu=>by
 simp[ppc]at hu;subst hu;rfl⟩
theorem Tryz.aic:(Tryz.prog.info? 97).map (λi=>(i.zero,i.size,i.bytes))=some (some (.pointer none),1,8):=ah
theorem Tryz.LJ:Tryz.prog.underlying 94=some (.slice 97):=ah
def BI(w:ak)(b off:Nat)(m:PM):Prop:=
 w.cell? ⟨b,off,none⟩=some ↑m.kind/\w.cell? ⟨b,off+1,none⟩=some ↑m.name/\w.cell? ⟨b,off+2,none⟩=some (.slice m.ex.A m.ex.l.length m.ex.cap)/\w.cell? ⟨b,off+3,none⟩=some (.slice m.co.A m.co.l.length m.co.cap)/\w.cell? ⟨b,off+4,none⟩=some (.slice m.lf.A m.lf.l.length m.lf.cap)/\w.cell? ⟨b,off+5,none⟩=some (.slice m.rt.A m.rt.l.length m.rt.cap)/\w.cell? ⟨b,off+6,none⟩=some (.slice m.ag.A m.ag.l.length m.ag.cap)/\w.cell? ⟨b,off+7,none⟩=some (.slice m.A m.kids.length m.cap)
def QO(w:ak)(x:Pp):Prop:=∃b off,x.1=⟨b,off,none⟩/\b<w.heap.size/\BI w b off x.2
theorem QO.ev{w w':ak}{x:Pp}(h:QO w x)(hE:Ev w w'):QO w' x:=by obtain⟨b,off,e,hb,h0,h1,h2,h3,h4,h5,h6,h7⟩:=h;exact⟨b,off,e,awU hb hE.size,(hE.cell (p:=⟨b,_,none⟩) hb).trans h0,(hE.cell (p:=⟨b,_,none⟩) hb).trans h1,(hE.cell (p:=⟨b,_,none⟩) hb).trans h2,(hE.cell (p:=⟨b,_,none⟩) hb).trans h3,(hE.cell (p:=⟨b,_,none⟩) hb).trans h4,(hE.cell (p:=⟨b,_,none⟩) hb).trans h5,(hE.cell (p:=⟨b,_,none⟩) hb).trans h6,(hE.cell (p:=⟨b,_,none⟩) hb).trans h7⟩
def kAddr(A:Option Addr)(i:Nat):Addr:=
 match A with
 | none=>⟨0,0,none⟩
 | some ⟨b,off,_⟩=>⟨b,off+i*8,none⟩
def lY(x:PM):List Pp:=x.kids.mapIdx λi m=>(kAddr x.A i,m)
theorem DL(x:PM):(lY x).length=x.kids.length:=by simp[lY]
theorem WS(x:PM):(lY x).map (·.2)=x.kids:=by
 unfold lY;refine List.ext_getElem? λi=>?_;rw[axh,List.getElem?_mapIdx]
 cases x.kids[i]?<;>rfl
theorem WT(x:PM){i:Nat}{y:PM}(h:x.kids[i]?=some y):(lY x)[i]?=some (kAddr x.A i,y):=by unfold lY;rw[List.getElem?_mapIdx,h];rfl
theorem WU{b0:Nat}{w:ak}{x:PM}(h:Qx b0 [] w x):∀y∈lY x,Qx b0 [] w y.2/\QO w y:=by
 intro y hy;obtain⟨i,hi⟩:=axU hy;unfold lY at hi;rw[List.getElem?_mapIdx]at hi
 cases hk:x.kids[i]? with
 | none=>rw[hk]at hi;cases hi
 | some m=>
  rw[hk]at hi;obtain rfl:=axd hi;have MM:=(awz.1 hk).1;refine⟨h.kid m (awG hk),?_⟩;obtain⟨b,off,e,hb,_⟩:=h.ps.rd ae;have qO:=h.ps;rw[e]at qO;have hc:=Ps.cell qO hk;unfold fH.v PM.kv at hc;refine⟨b,off+i*8,?_,hb,hc⟩;show kAddr x.A i=_;rw[e]
  try rfl
def nz(f:Pl->Nat)(L:List Pp):Nat:=(L.map λx=>f x.2.p).sum
theorem xx(f:Pl->Nat)(L K:List Pp):nz f (L++K)=nz f L+nz f K:=by simp[nz]
theorem ZL(f:Pl->Nat)(x:PM):nz f (lY x)=(x.p.kids.map f).sum:=by
 have:nz f (lY x)=(((lY x).map (·.2)).map λy=>f y.p).sum:=by simp[nz,Function.comp_def]
 rw[this,WS];have hk:x.p.kids=x.kids.map PM.p:=by rw[PM.sW];rfl
 rw[hk,awT];rfl
theorem GU(L:List Pp):nz (λ_=>1) L=L.length:=by
 unfold nz
 induction L with
 | nil=>rfl
 | cons a L ih=>
  rw[awI,axr,ih,awR];show 1+L.length=L.length+1;omega
theorem O7(L:List Pp):L.length<=nz Pl.size L:=by rw[<-GU];unfold nz;exact zx L λx _=>Pl.size_pos _
theorem aid(x:PM):x.p.kids.length=x.kids.length:=by rw[PM.sW];simp[Pl.kids]
structure EO(m:PM)(b0:Nat)(w1:ak)(v:au)(L:List Pp)(i:Nat)(w:ak):Prop where
 own:Ow 97 1 ppc w1.heap.size w v L
 ev:Ev w1 w
 lies:∀x∈L,Qx b0 [] w1 x.2/\QO w1 x
 le:i<=L.length
 sum:∀f:Pl->Nat,nz f (L.take i)+nz (Pl.sum f) (L.drop i)=m.p.sum f
theorem drop_at{α:Type}{L:List α}{i:Nat}{x:α}(hx:L[i]?=some x):L.drop i=x::L.drop (i+1)/\L.take (i+1)=L.take i++[x]:=by obtain⟨hi,e⟩:=awz.1 hx;exact⟨by rw[axt hi,e],by rw[awH hi,e]⟩
theorem QP(p:Pl):p.sum (λ_=>1)=p.size:=Le p
theorem EO.size{m:PM}{b0:Nat}{w1 w:ak}{v:au}{L:List Pp}{i:Nat}(h:EO m b0 w1 v L i w):i+nz Pl.size (L.drop i)=m.p.size:=by have h1:=h.sum λ_=>1;rw[GU,axa,QP,Nat.min_eq_left h.le]at h1;have:(Pl.sum λ_=>1)=Pl.size:=funext QP;rwa [this]at h1
theorem EO.short{m:PM}{b0:Nat}{w1 w:ak}{v:au}{L:List Pp}{i:Nat}(h:EO m b0 w1 v L i w):L.length<=m.p.size:=by have h1:=h.size;have h2:=O7 (L.drop i);rw[aw']at h2;have:=h.le;omega
theorem EO.room{m:PM}{b0:Nat}{w1 w:ak}{v:au}{L:List Pp}{i:Nat}{x:Pp}(h:EO m b0 w1 v L i w)(hx:L[i]?=some x):L.length+x.2.kids.length<=m.p.size:=by
 have h1:=h.size;rw[(drop_at hx).1]at h1;have h2:=O7 (L.drop (i+1));rw[aw']at h2;have h3:nz Pl.size (x::L.drop (i+1))=x.2.p.size+nz Pl.size (L.drop (i+1)):=by simp[nz]
 have h4:=Pl.size_eq x.2.p;have h5:=zx (f:=λ_=>1) (g:=Pl.size) x.2.p.kids λy _=>Pl.size_pos y;have h6:(x.2.p.kids.map λ_=>1).sum=x.2.p.kids.length:=by
  generalize x.2.p.kids=l
  induction l with
  | nil=>rfl
  | cons a l ih=>
   rw[awI,axr,ih,awR];omega
 rw[aid]at h6;have:=(awz.1 hx).1;omega
theorem EO.next{m:PM}{b0:Nat}{w1 w w':ak}{v v':au}{L:List Pp}{i:Nat}{x:Pp}(h:EO m b0 w1 v L i w)(hx:L[i]?=some x)(ho:Ow 97 1 ppc w1.heap.size w' v' (L++lY x.2))(hE:Ev w1 w'):EO m b0 w1 v' (L++lY x.2) (i+1) w':=by
 have hi:=(awz.1 hx).1;have hi1:i+1<=L.length:=hi;obtain⟨hd,ht⟩:=drop_at hx;refine⟨ho,hE,λy hy=>?_,by rw[awE];omega,λf=>?_⟩;rcases awV.1 hy with h1|h1;exact h.lies y h1;exact WU (h.lies x (awG hx)).1 y h1;have h1:=h.sum f;rw[hd]at h1;rw[List.take_append_of_le_length hi1,List.drop_append_of_le_length hi1,ht,xx,xx,ZL];have h2:nz (Pl.sum f) (x::L.drop (i+1))=x.2.p.sum f+nz (Pl.sum f) (L.drop (i+1)):=by simp[nz]
 have h3:nz f [x]=f x.2.p:=by simp[nz]
 have h4:=Pl.ahZ f x.2.p;omega
theorem EO.init{m:PM}{b0:Nat}{w w1 w2:ak}{v:au}{a:Addr}(hL:Qx b0 [] w m)(hE:Ev w w1)(hp:QO w1 (a,m))(ho:Ow 97 1 ppc w1.heap.size w2 v [(a,m)])(bM:Ev w1 w2):EO m b0 w1 v [(a,m)] 0 w2:=
 ⟨ho,bM,λx hx=>by simp at hx;subst hx;exact⟨hL.ev hE,hp⟩,aj,λf=>by simp[nz]⟩
def Uu(m:PM)(most:Nat)(w:ak)(e:Ending)(w':ak):Prop:=
 (∃(A:Option Addr) (n cap:Nat) (L:List Pp) (b0:Nat),e=.returned (.tuple #[.slice A n cap,.bool true])/\Sl 1 ppc w' A n cap L/\(∀x∈L,QO w' x)/\(∀f:Pl->Nat,nz f L=m.p.sum f)/\m.p.size<=most/\Ev w w')∨
 (e=.returned (.tuple #[↑(),.bool false])/\most<m.p.size/\Ev w w')
theorem Yl{w:ak}{b off n cap:Nat}{L:List Pp}(h:Sl 1 ppc w ↑(b,off) n cap L){i:Nat}{x:Pp}(hx:L[i]?=some x):w.cell? ⟨b,off+i,none⟩=some (.pointer (some x.1)):=by
 have hi:=(awz.1 hx).1;have hl:=h.len;obtain⟨b',off',e,hlt,hc⟩:=h.rd ae;injection e with e
 injection e with e1 e2 _
 subst e1 e2;have:=hc i x hx 0 _ rfl;rwa [ayj,aw2]at this
theorem ZM(m:PM)(b0 most:Nat)(w:ak)(h:Qx b0 [] w m)(hsz:m.p.size<=1000000)(h1:1<=most)(hm:most<=1000000):
  Calls ax 54 #[pv m,↑most] w (Uu m most w):=by
 have hB:=Bx.new 32 ↑m w;have aV:=Ev.alloc w (.cells ↑m 32);unfold pv fH.v PM.kv;obtain⟨w1,hw1⟩:∃w1,w.alloc (.cells ↑m 32)=w1:=⟨_,rfl⟩
 rw[hw1]at hB aV;have Zt:w1.heap.size=w.heap.size+1:=by rw[<-hw1];simp
 have fE:QO w1 (⟨↑w,0,none⟩,m):=⟨w.heap.size,0,rfl,ae,by
  obtain⟨⟨p0,p1,p2,p3,p4,p5,p6,p7⟩,_⟩:=hB.eight;exact⟨p0,p1,p2,p3,p4,p5,p6,p7⟩⟩
 have HE:=zq aV;have hO:=Ow.made (et:=97) (base:=w1.heap.size) Ut w1 [(⟨↑w,0,none⟩,m)] #[.pointer (some ⟨↑w,0,none⟩)] rfl (awC _) aj;have HP:Hid (EO m b0 w1 (.slice ↑w1 1 1) [(⟨↑w,0,none⟩,m)] 0 (w1.alloc (.cells #[.pointer ↑w] 97))):=zq (EO.init h aV fE hO aB);clear h hB aV fE Zt hO;go_enter func54,ntmps54;go_wp2
 go_loopw [6,7] (λav iv wr=>∃(A:Option Addr) (n cap i:Nat) (L:List Pp),av=.slice A n cap/\iv=↑i/\n<=most/\Hid (n=L.length)/\Hid (EO m b0 w1 (.slice A n cap) L i wr)) (λ_ iv _=>m.p.size-(intOf iv).toNat)
 case atStart=>exact⟨_,1,1,0,[(⟨↑w,0,none⟩,m)],rfl,rfl,h1,zq rfl,HP⟩
 case round=>
  obtain⟨A,n,cap,i,L,rfl,rfl,hnm,jd,HS⟩:=hrel;have hns:=HS.out.short;rw[<-jd.out]at hns;obtain⟨_,cap',hvv,qL,hA⟩:=HS.out.own.form Ut;injection hvv with h1 h2 h3
  subst h1 h3;clear h2 hA;rw[<-jd.out]at qL;have yK:=qL.le;have hcm:=qL.max;by_cases hi:i<n
  ·obtain⟨x,hx⟩:=qL.at hi;obtain⟨b,off,rfl,hb,_⟩:=qL.rd ae;have c0:=Yl qL hx;have HX:=zq hx;have U4:=HS.out.lies x (awG hx);obtain⟨b',off',e',hb',p0,p1,p2,p3,p4,p5,p6,p7⟩:=U4.2.ev HS.out.ev;rw[e']at c0;have hro:=HS.out.room hx;rw[<-jd.out]at hro;have qO:=U4.1.ps;have qM:=qO.le;have Vy:=qO.max;have tJ:=zq qO;obtain⟨kn,hkn⟩:∃kn,kn=x.2.kids.length:=⟨_,rfl⟩
   rw[<-hkn]at p7 hro qM tJ;have mg:=zq hkn;have oJ:=zq qL;have i1:(0:Int)<=(i:Int):=ae;have i2:(i:Int)<(n:Int):=ae;clear hx U4 qO hkn e' hb p0 p1 p2 p3 p4 p5 p6 qL;by_cases hfit:kn+n<=most
   ·have i3:¬((most:Int)-(n:Int)<(kn:Int)):=ae;go_wp2
    go_loopw [6,33] (λav jv wr2=>∃(A2:Option Addr) (n2 cap2 j:Nat),av=.slice A2 n2 cap2/\jv=↑j/\j<=kn/\n2=n+j/\Hid (Ow 97 1 ppc w1.heap.size wr2 (.slice A2 n2 cap2) (L++(lY x.2).take j))/\Hid (Ev w1 wr2)) (λ_ jv _=>kn-(intOf jv).toNat)
    case atStart=>exact⟨_,n,cap,0,rfl,rfl,awJ _,rfl,zq (by simpa using HS.out.own),zq HS.out.ev⟩
    case round=>
     rename ak=>wr2;obtain⟨A2,n2,cap2,j,rfl,rfl,hj,G5,HO,lH⟩:=hrel;have Qe:=zq G5;by_cases hlt:j<kn
     ·obtain⟨y,hy⟩:=tJ.out.at hlt;have hky:=WT x.2 hy;obtain⟨b2,y5,hA2e,hb2,_⟩:=tJ.out.rd ae;rw[hA2e]at hky;simp only[kAddr]at hky;rw[hA2e];have jP:Hid ((lY x.2).take (j+1)=(lY x.2).take j++[(⟨b2,y5+j*8,none⟩,y)]):=zq (drop_at hky).2;have uf:Hid ((L++(lY x.2).take j).length=n2):=zq (by rw[awE,axa,DL,<-mg.out,<-jd.out];omega);have j1:(0:Int)<=(j:Int):=ae;have j2:(j:Int)<(kn:Int):=ae;clear hy hky G5
      go_wp2_with (first
       | ((show wpList _ _ _ (⟨some 41,_,_,_,_,_⟩::_) _ _);refine aO (o:=⟨some 41,_,_,_,_,_⟩) rfl 94 (.tmp 36) (.tmp 40) rfl Ut Tryz.LJ Tryz.aic rfl rfl (HO.out.ev (Ev.alloc wr2 (.cells #[.pointer ↑(b2,y5+j*8)] 97))) ↑wr2 1 1 [(⟨b2,y5+j*8,none⟩,y)] rfl (Sl.one (et:=97) Ut wr2 (⟨b2,y5+j*8,none⟩,y) #[.pointer ↑(b2,y5+j*8)] rfl) (by rw[uf.out];have:=Qe.out;simp;omega) (by rw[uf.out];have:=Qe.out;simp;omega) (lH.out.trans aB).size ?_;intro v2 w2 dY;have E2:=((But.aW (lH.out.trans aB)).then dY.2.1).ev (λk hk=>(HO.out.lt (aG.1 hk)).1);have O2:=dY.1;obtain⟨A3,cap3,rfl,_,_⟩:=dY.1.form Ut;generalize BO:((L++(lY x.2).take j)++[((⟨b2,y5+j*8,none⟩,y):Pp)]).length=nn at O2|-;have Dh:=zq BO.symm;clear BO))
      go_roundw
      case rel=>exact⟨A3,nn,cap3,j+1,rfl,by go_num,ae,by rw[Dh.out,awE,uf.out,Qe.out];rfl,zq (by rw[jP.out,<-aw1];exact O2),zq E2⟩
      case measure=>simp[intOf];omega
     have hjk:j=kn:=ae;subst hjk;have S2:=HS.out.next HX.out (v':=.slice A2 n2 cap2) (by
      have:=HO.out;rwa [awS (by rw[DL,<-mg.out];exact awC _)]at this) lH.out
     have S2:=zq S2;have wF:Hid (n2=(L++lY x.2).length):=zq (by rw[awE,DL,<-mg.out,<-jd.out];exact G5);have aoW:n2<=most:=ae;clear G5;go_wp2;go_roundw
     case rel=>exact⟨A2,n2,cap2,i+1,_,rfl,by go_num,aoW,wF,S2⟩
     case measure=>simp[intOf];omega
   have i3:((most:Int)-(n:Int)<(kn:Int)):=ae;have hgt:most<m.p.size:=ae;go_wp2
   go_ret2
   unfold Uu;exact .inr ⟨rfl,hgt,HE.out.trans HS.out.ev⟩
  have hin:i=L.length:=by have:=HS.out.le;have:=jd.out;omega
  have i2:¬((i:Int)<(n:Int)):=ae;have HIN:=zq hin;have oJ:=zq qL;have HZ:Hid (m.p.size<=most):=zq (by
   have h4:=HS.out.size;rw[hin,List.drop_length]at h4;have:nz Pl.size []=0:=rfl;rw[this,<-jd.out]at h4;omega)
  clear hin qL;go_wp2
  go_ret2
  unfold Uu;refine .inl ⟨A,n,cap,L,b0,rfl,oJ.out,λx hx=>(HS.out.lies x hx).2.ev HS.out.ev,λf=>?_,HZ.out,HE.out.trans HS.out.ev⟩;have:=HS.out.sum f;rw[HIN.out,axk,List.drop_length]at this;simpa[nz] using this
theorem kE.wK{base Ih:Nat}{va:au}{r:CR}{w:ak}{e:Ending}{w':ak}(h:kE base va r w e w')(hb:Ih<=base):kE Ih va r w e w':=by obtain⟨v,he,ho,IG,hs⟩:=h;exact⟨v,he,ho.wK hb,IG,hs⟩
theorem ZN(kid:List C)(r:CR)(x:T×By):(jr kid r x).cols.length<=r.cols.length+1:=by unfold jr;rw[CR.nP,CR.yj];simp
theorem acJ{es:List M}{cs:List By}{k:Nat}{e:M}{s:By}(he:es[k]?=some e)(hs:cs[k]?=some s):((es.map M.t).zip cs)[k]?=some (e.t,s):=by rw[List.getElem?_zip_eq_some];exact⟨by rw[axh,he];rfl,hs⟩
theorem aBi(h:U:=by
 go_roundw
 case rel=>exact⟨k+1,v3,by go_num,ae,zq (by rw[HST.out];exact ZO.out),EP⟩
 case measure=>simp[intOf];omega):U:=h
theorem azd(h:U:=by obtain⟨f1,f2⟩:=mF (va:=↑()) Qg.out jV.out HRL.out (TV.out.wide λk hk=>.inl (by simp at hk;subst hk;exact awL ..)) (λg hg=>.inr (hfin g hg)) (λk hk=>by cases hk) ae (by have:=kT.out;omega) (by have:=kT.out;omega);refine ayr (aT rfl _ _ _ _ _ rfl f1 underlying58 rfl Tryz.fD) rfl ?_;rw[<-WG.out];exact kE.wK (base:=wa.heap.size) (Ih:=w.heap.size) f2 (by have:=HSA.out;omega)):U:=h
theorem WV(m:PM)(b0:Nat)(w:ak)(hQ:Qx b0 [] w m)(kid:List C)(A:Option Addr)(n cap:Nat)(hC:Cs w A n cap kid)(hA:∀ad,A=some ad->ad.block<w.heap.size)(hel:m.ex.l.length=m.co.l.length)(hl:m.ex.l.length<=10000)(hfe:∀e∈m.ex.l,e.t.size<=16000/\e.t.every (λt=>decide (t.s.length<=1000000))=true):
  Calls ax 34 #[.agg ↑m,.slice A n cap] w (kE w.heap.size ↑() (mM (m.ex.l.map M.t) m.co.l kid) w):=by
 obtain⟨hex,hlx,xQ,_⟩:=hQ.at;obtain⟨w0,hw0,aV,o8,Ji,hs0⟩:=EI w 32 ↑m;obtain⟨wa,zy⟩:∃wa,wa=w0.alloc (.cells ↑Zz.d 58):=⟨_,rfl⟩
 have aN:Ev w0 wa:=by rw[zy];exact Ev.alloc _ _
 have NH:=Bx.new 58 ↑Zz.d w0;rw[<-zy]at NH;have hsa:wa.heap.size=w.heap.size+3:=by rw[zy];simp;omega
 have HR0:Hid (gz w0.heap.size wa.heap.size CR.zero ↑() wa):=zq ⟨NH,Ow.nil_ _,λhm=>by cases hm⟩;have jV:=zq (Ji.ev aN);have rq:Hid (∀w1,But [w0.heap.size] wa w1->Bx 32 w.heap.size ↑m w1):=zq λw1 hb=>(o8.ev aN).but hb (by simp;omega);have Qg:=zq (aV.trans aN);have Yj:w0.heap.size=w.heap.size+2:=hs0;have kT:=zq Yj;have HSA:=zq hsa;have WW:Hid (∀w1,But [w0.heap.size] wa w1->Cs w1 A n cap kid):=zq λw1 hb1=>(hC.ev (aV.trans aN)).but hb1 λad e=>by have:=hA ad e;simp;omega
 have HOB:Hid (∀w1 b,But [w0.heap.size] wa w1->b<w.heap.size->b<w1.heap.size):=zq λw1 b hb hlt=>by have:=hb.size;omega
 have HBM:Hid (∀(v:au) (Z:List C) w1 w2,But [w0.heap.size] wa w1->Ow 50 2 dM wa.heap.size w1 v Z->But (w0.heap.size::foot v) w1 w2->But [w0.heap.size] wa w2):=zq λv Z w1 w2 h1 h2 h3=>h1.trans h3 λx hx=>by rcases awN.1 hx with rfl|hx;exact .inl aj;exact .inr (h2.lt (aG.1 hx)).1
 have GL:Hid (∀w1,But [w0.heap.size] wa w1->Es w1 m.ex.A m.ex.l.length m.ex.cap m.ex.l):=zq λw1 hb1=>(hex.sl.ev (aV.trans aN)).but hb1 λad e=>by have:=(hex.BQ ad e).2.1;simp;omega
 have EE:Hid (∀w1,But [w0.heap.size] wa w1->Ss w1 m.co.A m.co.l.length m.co.cap m.co.l):=zq λw1 hb1=>(xQ.sl.ev (aV.trans aN)).but hb1 λad e=>by have:=(xQ.BQ ad e).2.1;simp;omega
 have TS:Hid (∀e∈m.ex.l,∀w1,But [w0.heap.size] wa w1->Lx b0 [] w1 e):=zq λe he w1 hb1=>by
  have h1:Lx b0 [w0.heap.size] w e:=(hlx e he).less λk hk=>by simp at hk;exact .inr (.inr ae)
  exact((h1.ev (aV.trans aN)).move hb1 λx hx=>.inl hx).less λk hk=>by cases hk
 have kU:Hid (∀ad,m.ex.A=some ad->ad.block<w.heap.size):=zq λad e=>(hex.BQ ad e).2.1;have HKF:=zq (λe (he:e∈m.ex.l) r v w1 (hR:gz w0.heap.size wa.heap.size r v w1) (hb1:But [w0.heap.size] wa w1)=>XZ w0.heap.size wa.heap.size r v e b0 kid A n cap w1 hR (TS.out e he w1 hb1) (WW.out w1 hb1) (hfe e he).1 (hfe e he).2);have HAD:=zq (λr v nm k w1 (hR:gz w0.heap.size wa.heap.size r v w1) (MV:r.cols.length<=100000) (hb1:But [w0.heap.size] wa w1)=>Ql w0.heap.size wa.heap.size r v nm k w1 hR MV hb1.size);have afe:=hex.sl.le;have aoX:=hex.sl.max;have wH:=xQ.sl.le;have hcom:=xQ.sl.max;unfold Dk at HAD;unfold mM;obtain⟨L,hL⟩:∃L,L=(m.ex.l.map M.t).zip m.co.l:=⟨_,rfl⟩
 rw[<-hL];have HL:=zq hL;obtain⟨ne,hne⟩:∃ne,ne=m.ex.l.length:=⟨_,rfl⟩
 have uf:Hid (L.length=ne):=zq (by rw[hL,List.length_zip,awD,hne];omega);have Si:Hid (m.co.l.length=ne):=zq (by rw[hne,hel]);have qQ:Hid (∀k,k<=ne->((L.take k).foldl (jr kid) CR.zero).cols.length<=10000):=zq λk hk=>by have h1:=rM (jr kid) 1 (ZN kid) (L.take k) CR.zero;have h2:(L.take k).length<=k:=List.length_take_le _ _;have h3:CR.zero.cols.length=0:=rfl;omega
 obtain⟨⟨p0,p1,p2,p3,p4,p5,p6,p7⟩,_⟩:=(rq.out wa (But.refl _ _)).eight;rw[<-hne]at afe p2 hl;rw[Si.out]at wH p3;simp only[<-hne,Si.out]at rq GL EE hw0 zy|-;clear hQ hex hlx xQ hC hA hfe aV aN o8 Ji NH hs0 hsa Yj hel hL hne;generalize m.ex.A=exA at*;generalize m.co.A=coA at*;go_enter func34,ntmps34;go_upto_region 2 with fail
 rw[<-zy];clear zy;go_wp2
 go_loopw [12] (λiv wr=>∃(k:Nat) (v:au),iv=↑k/\k<=ne/\Hid (gz w0.heap.size wa.heap.size ((L.take k).foldl (jr kid) CR.zero) v wr)/\Hid (But [w0.heap.size] wa wr)) (λiv _=>ne-(intOf iv).toNat)
 case atStart=>exact⟨0,↑(),rfl,awJ _,HR0,zq (But.refl _ _)⟩
 case round=>
  obtain⟨k,v,rfl,hk,HR,HB⟩:=hrel;by_cases hlt:k<ne
  ·obtain⟨e,he⟩:=(GL.out wr HB.out).at hlt;obtain⟨s,hs⟩:∃s,m.co.l[k]?=some s:=⟨_,awX (by rw[Si.out];exact hlt)⟩
   have hz:=acJ he hs;rw[<-HL.out]at hz;have HST:Hid ((L.take (k+1)).foldl (jr kid) CR.zero=(((L.take k).foldl (jr kid) CR.zero).kind kid e.t).add (aY s) (xType kid e.t).1):=zq (lU hz);obtain⟨be,oe,rfl,_,e0,e1,e2,e3⟩:=Es.cell (GL.out wr HB.out) he;have aoZ:=HOB.out wr be HB.out (kU.out _ rfl);unfold M.kv at e3;have HCS:Hid (∀w1,But [w0.heap.size] wa w1->∃b off,coA=some ⟨b,off,none⟩/\w1.cell? ⟨b,off+k,none⟩=some ↑s):=zq λw1 hb1=>Ss.qZ (EE.out w1 hb1) hs;have hgr:=HR.out.box.lt;have hBE:=Bx.new 47 ↑(e,()) wr;obtain⟨⟨c0,c1,c2,c3⟩,_⟩:=hBE.four;have sN:=zq (HB.out.then (But.aW (Ev.alloc wr (.cells ↑(e,()) 47))));have xy:=zq (HKF.out e (awG he) _ v _ (HR.out.ev (Ev.alloc wr (.cells ↑(e,()) 47))) sN.out);have i1:(0:Int)<=(k:Int):=ae;have i2:(k:Int)<(ne:Int):=ae;clear he hs hz hBE
   go_wp2_with (first
    | ((with_reducible refine(xy.out).mono ?_);rintro r_ w2 ⟨rfl,hR2,hB2⟩;have jF:=zq hR2;have FH:=zq (sN.out.then hB2);have vU:=HAD.out _ v (aY s) (xType kid e.t).1 w2 hR2 (by rw[CR.yj];have:=qQ.out k ae;omega) (sN.out.then hB2);unfold aY at vU;have vU:=zq vU;obtain⟨⟨q0,q1,q2,q3,q4,q5,q6,q7⟩,_⟩:=(rq.out w2 (sN.out.then hB2)).eight;obtain⟨bc,oc,rfl,hcs⟩:=HCS.out w2 (sN.out.then hB2);clear hR2 hB2 c0 c1 c2 c3)
    | ((with_reducible refine(vU.out).mono ?_);rintro r_ w3 ⟨rfl,v3,O4,qU,Fv⟩;have ZO:=zq O4;have EP:=zq (HBM.out v _ w2 w3 FH.out jF.out.own qU);clear O4 qU Fv))
   exact aBi
  obtain rfl:k=ne:=ae;have HT:Hid (L.take k=L):=zq (awS (by rw[uf.out];exact awC _));rw[HT.out]at HR;obtain⟨A1,cap1,rfl,hC1⟩:=HR.out.form;have HLM:=zq (Em w0.heap.size wa.heap.size _ A1 _ cap1 wr HR.out);obtain⟨RL,hRL⟩:∃RL,RL=L.foldl (jr kid) CR.zero:=⟨_,rfl⟩
  have WG:=zq hRL;rw[<-hRL]at HLM;clear hC1 hRL
  go_wp2_with (first
   | ((with_reducible refine(HLM.out).mono ?_);rintro r_ w2 ⟨rfl,hR2,hB2⟩;have HRL:=zq hR2;have TV:=zq (HB.out.then hB2);obtain⟨⟨d0,d1,d2⟩,_⟩:=hR2.box.three;obtain⟨⟨g0,g1,g2⟩,z0,z1,z2⟩:=(jV.out.but (HB.out.then hB2) (by have:=kT.out;simp;omega)).three;clear hR2 hB2))
  (try simp only[Exit.inBlock,Exit.then]);rw[dI];have hv3:=HRL.out.own;have hfin:∀g,(Value.slice A1 RL.cols.length cap1).ownBlock=some g->wa.heap.size<=g:=λg hg=>(hv3.lt hg).1;exact azd
theorem As.qZ{w:ak}{A:Option Addr}{n cap:Nat}{l:List Ag}(h:As w A n cap l){i:Nat}{x:Ag}(hx:l[i]?=some x):∃b off,A=some ⟨b,off,none⟩/\w.cell? ⟨b,off+i*3,none⟩=some (.string ⟨x.1.toArray⟩)/\w.cell? ⟨b,off+i*3+1,none⟩=some (.string ⟨x.2.1.toArray⟩)/\w.cell? ⟨b,off+i*3+2,none⟩=some (.string ⟨x.2.2.toArray⟩):=by have hi:=(awz.1 hx).1;have hl:=h.len;obtain⟨b,off,e,_,hc⟩:=h.rd ae;exact⟨b,off,e,hc i x hx 0 _ rfl,hc i x hx 1 _ rfl,hc i x hx 2 _ rfl⟩
theorem WX(kid:List C)(r:CR)(x:By):(gy kid r x).cols.length<=r.cols.length+1:=by unfold gy;rw[CR.nP,CR.oC];simp
theorem ZP(kid:List C)(r:CR)(x:Ag):(r.agg kid x).cols.length<=r.cols.length+1:=by rw[CR.abS];omega
theorem acK(m:PM)(b0:Nat)(w:ak)(hQ:Qx b0 [] w m)(kid:List C)(A:Option Addr)(n cap:Nat)(hC:Cs w A n cap kid)(hA:∀ad,A=some ad->ad.block<w.heap.size)(jg:m.lf.l.length<=10000)(hla:m.ag.l.length<=10000):
  Calls ax 37 #[.agg ↑m,.slice A n cap] w (kE w.heap.size ↑() (ni m.lf.l m.ag.l kid) w):=by
 obtain⟨_,_,_,pJ,_,yz,_,_⟩:=hQ.at;obtain⟨w0,hw0,aV,o8,Ji,hs0⟩:=EI w 32 ↑m;obtain⟨wa,zy⟩:∃wa,wa=w0.alloc (.cells ↑Zz.d 58):=⟨_,rfl⟩
 have aN:Ev w0 wa:=by rw[zy];exact Ev.alloc _ _
 have NH:=Bx.new 58 ↑Zz.d w0;rw[<-zy]at NH;have hsa:wa.heap.size=w.heap.size+3:=by rw[zy];simp;omega
 have HR0:Hid (gz w0.heap.size wa.heap.size CR.zero ↑() wa):=zq ⟨NH,Ow.nil_ _,λhm=>by cases hm⟩;have jV:=zq (Ji.ev aN);have rq:Hid (∀w1,But [w0.heap.size] wa w1->Bx 32 w.heap.size ↑m w1):=zq λw1 hb=>(o8.ev aN).but hb (by simp;omega);have Qg:=zq (aV.trans aN);have Yj:w0.heap.size=w.heap.size+2:=hs0;have kT:=zq Yj;have HSA:=zq hsa;have WW:Hid (∀w1,But [w0.heap.size] wa w1->Cs w1 A n cap kid):=zq λw1 hb1=>(hC.ev (aV.trans aN)).but hb1 λad e=>by have:=hA ad e;simp;omega
 have HOB:Hid (∀w1 b,But [w0.heap.size] wa w1->b<w.heap.size->b<w1.heap.size):=zq λw1 b hb hlt=>by have:=hb.size;omega
 have HBM:Hid (∀(v:au) (Z:List C) w1 w2,But [w0.heap.size] wa w1->Ow 50 2 dM wa.heap.size w1 v Z->But (w0.heap.size::foot v) w1 w2->But [w0.heap.size] wa w2):=zq λv Z w1 w2 h1 h2 h3=>h1.trans h3 λx hx=>by rcases awN.1 hx with rfl|hx;exact .inl aj;exact .inr (h2.lt (aG.1 hx)).1
 have zS:Hid (∀w1,But [w0.heap.size] wa w1->Ss w1 m.lf.A m.lf.l.length m.lf.cap m.lf.l):=zq λw1 hb1=>(pJ.sl.ev (aV.trans aN)).but hb1 λad e=>by have:=(pJ.BQ ad e).2.1;simp;omega
 have Ar:Hid (∀w1,But [w0.heap.size] wa w1->As w1 m.ag.A m.ag.l.length m.ag.cap m.ag.l):=zq λw1 hb1=>(yz.sl.ev (aV.trans aN)).but hb1 λad e=>by have:=(yz.BQ ad e).2.1;simp;omega
 have HAR:Hid (∀ad,m.ag.A=some ad->ad.block<w.heap.size):=zq λad e=>(yz.BQ ad e).2.1;have wM:=zq (λs r v w1 (hR:gz w0.heap.size wa.heap.size r v w1) (hb1:But [w0.heap.size] wa w1)=>Ja w0.heap.size wa.heap.size r v kid A n cap s w1 hR (WW.out w1 hb1));have HAD:=zq (λr v nm k w1 (hR:gz w0.heap.size wa.heap.size r v w1) (MV:r.cols.length<=100000) (hb1:But [w0.heap.size] wa w1)=>Ql w0.heap.size wa.heap.size r v nm k w1 hR MV hb1.size);have HAA:=zq (λ(a:Ag) r v w1 (hR:gz w0.heap.size wa.heap.size r v w1) (MV:r.cols.length<=100000) (hb1:But [w0.heap.size] wa w1)=>ah2 w0.heap.size wa.heap.size r v a kid A n cap w1 hR MV hb1.size (WW.out w1 hb1) (λad e hm=>by
  have:=hA ad e;rcases awN.1 hm with h1|h1;omega;have:=(hR.own.lt (aG.1 h1)).1;omega) (λad e=>by have:=hA ad e;have:=hb1.size;omega))
 have acL:=pJ.sl.le;have ak0:=pJ.sl.max;have acM:=yz.sl.le;have ao1:=yz.sl.max;unfold Dk at HAD HAA;unfold ni;simp only;obtain⟨R1,hR1⟩:∃R1,R1=m.lf.l.foldl (gy kid) CR.zero:=⟨_,rfl⟩
 rw[<-hR1];obtain⟨R2,hR2⟩:∃R2,R2=m.ag.l.foldl (λr a=>r.agg kid a) R1:=⟨_,rfl⟩
 rw[<-hR2];have gG:=zq hR1;have jF:=zq hR2;obtain⟨R3,O4⟩:∃R3,R3=(if R2.cols.length=0 then R2.fail 23 ⟨#[]⟩ else R2).limit:=⟨_,rfl⟩
 rw[<-O4];have afg:=zq O4;obtain⟨nl,hnl⟩:∃nl,nl=m.lf.l.length:=⟨_,rfl⟩
 obtain⟨na,DX⟩:∃na,na=m.ag.l.length:=⟨_,rfl⟩
 have jd:=zq hnl;have AO:=zq DX;have qQ:Hid (∀k,((m.lf.l.take k).foldl (gy kid) CR.zero).cols.length<=10000):=zq λk=>by
  have h1:=rM (gy kid) 1 (WX kid) (m.lf.l.take k) CR.zero;have h2:(m.lf.l.take k).length<=m.lf.l.length:=by rw[axa];omega
  have h3:CR.zero.cols.length=0:=rfl;omega
 have ak1:Hid (R1.cols.length<=10000):=zq (by rw[hR1];have:=qQ.out m.lf.l.length;rwa [axk]at this);have ao2:Hid (∀k,((m.ag.l.take k).foldl (λr a=>r.agg kid a) R1).cols.length<=20000):=zq λk=>by
  have h1:=rM (λr (a:Ag)=>r.agg kid a) 1 (ZP kid) (m.ag.l.take k) R1;have h2:(m.ag.l.take k).length<=m.ag.l.length:=by rw[axa];omega
  have:=ak1.out;omega
 obtain⟨⟨p0,p1,p2,p3,p4,p5,p6,p7⟩,_⟩:=(rq.out wa (But.refl _ _)).eight;rw[<-hnl]at acL p4 jg;rw[<-DX]at acM p6 hla;simp only[<-hnl,<-DX]at rq zS Ar hw0 zy|-;clear hQ pJ yz hC hA aV aN o8 Ji NH hs0 hsa Yj hR1 hR2 O4 hnl DX;generalize m.lf.A=lfA at*;generalize m.ag.A=agA at*;go_enter func37,ntmps37;go_upto_region 2 with fail
 rw[<-zy];clear zy;go_wp2
 go_loopw [14] (λiv wr=>∃(k:Nat) (v:au),iv=↑k/\k<=nl/\Hid (gz w0.heap.size wa.heap.size ((m.lf.l.take k).foldl (gy kid) CR.zero) v wr)/\Hid (But [w0.heap.size] wa wr)) (λiv _=>nl-(intOf iv).toNat)
 case atStart=>exact⟨0,↑(),rfl,awJ _,HR0,zq (But.refl _ _)⟩
 case round=>
  obtain⟨k,v,rfl,hk,HR,HB⟩:=hrel;by_cases hlt:k<nl
  ·obtain⟨s,hs⟩:=(zS.out wr HB.out).at hlt;have HST:Hid ((m.lf.l.take (k+1)).foldl (gy kid) CR.zero=(((m.lf.l.take k).foldl (gy kid) CR.zero).find kid (aY s)).add (aY s) (dL kid (aY s))):=zq (lU hs);obtain⟨be,oe,rfl,hcs⟩:=Ss.qZ (zS.out wr HB.out) hs;have xy:=wM.out (aY s) _ v wr HR.out HB.out;unfold aY at xy;have xy:=zq xy;have i1:(0:Int)<=(k:Int):=ae;have i2:(k:Int)<(nl:Int):=ae;clear hs
   go_wp2_with (first
    | ((with_reducible refine(xy.out).mono ?_);rintro r_ w2 ⟨rfl,hR2,hB2⟩;have ak2:=zq hR2;have FH:=zq (HB.out.then hB2);have vU:=HAD.out _ v (aY s) (dL kid (aY s)) w2 hR2 (by rw[CR.oC];have:=qQ.out k;omega) (HB.out.then hB2);unfold aY at vU;have vU:=zq vU;clear hR2 hB2)
    | ((with_reducible refine(vU.out).mono ?_);rintro r_ w3 ⟨rfl,v3,O4,qU,Fv⟩;have ZO:=zq O4;have EP:=zq (HBM.out v _ w2 w3 FH.out ak2.out.own qU);clear O4 qU Fv))
   exact aBi
  obtain rfl:k=nl:=ae;have HT:Hid (m.lf.l.take k=m.lf.l):=zq (awS (by rw[jd.out];exact awC _));rw[HT.out,<-gG.out]at HR;have HRa:Hid (gz w0.heap.size wa.heap.size ((m.ag.l.take 0).foldl (λr a=>r.agg kid a) R1) v wr):=zq (by simpa using HR.out);obtain⟨wo,rfl⟩:∃wo:ak,wo=wr:=⟨_,rfl⟩
  obtain⟨⟨q0,q1,q2,q3,q4,q5,q6,q7⟩,_⟩:=(rq.out wo HB.out).eight;clear p0 p1 p2 p3 p4 p5 p6 p7;go_wp2
  go_loopw [28] (λiv wr=>∃(j:Nat) (v:au),iv=↑j/\j<=na/\Hid (gz w0.heap.size wa.heap.size ((m.ag.l.take j).foldl (λr a=>r.agg kid a) R1) v wr)/\Hid (But [w0.heap.size] wa wr)) (λiv _=>na-(intOf iv).toNat)
  case atStart=>exact⟨0,v,rfl,awJ _,HRa,HB⟩
  case round=>
   obtain⟨j,v5,rfl,hj,HR5,MZ⟩:=hrel;by_cases XU:j<na
   ·obtain⟨a,ha⟩:=(Ar.out wr MZ.out).at XU;have HST:Hid ((m.ag.l.take (j+1)).foldl (λr a=>r.agg kid a) R1=((m.ag.l.take j).foldl (λr a=>r.agg kid a) R1).agg kid a):=zq (lU ha);obtain⟨be,oe,rfl,a0,a1,a2⟩:=As.qZ (Ar.out wr MZ.out) ha;have aoZ:=HOB.out wr be MZ.out (HAR.out _ rfl);have hBA:=Bx.new 54 #[.string ⟨a.1.toArray⟩,.string ⟨a.2.1.toArray⟩,.string ⟨a.2.2.toArray⟩] wr;obtain⟨⟨c0,c1,c2⟩,_⟩:=hBA.three;have qF:=zq (MZ.out.then (But.aW (Ev.alloc wr (.cells #[.string ⟨a.1.toArray⟩,.string ⟨a.2.1.toArray⟩,.string ⟨a.2.2.toArray⟩] 54))));have HR6:=HR5.out.ev (Ev.alloc wr (.cells #[.string ⟨a.1.toArray⟩,.string ⟨a.2.1.toArray⟩,.string ⟨a.2.2.toArray⟩] 54));have xy:=zq (HAA.out a _ v5 _ HR6 (by have:=ao2.out j;omega) qF.out);have HR6:=zq HR6;have i1:(0:Int)<=(j:Int):=ae;have i2:(j:Int)<(na:Int):=ae;clear ha hBA
    go_wp2_with (first
     | ((with_reducible refine(xy.out).mono ?_);rintro r_ w3 ⟨rfl,v3,O4,qU,Fv⟩;have ZO:=zq O4;have EP:=zq (HBM.out v5 _ _ w3 qF.out HR6.out.own qU);clear O4 qU Fv))
    go_roundw
    case rel=>exact⟨j+1,v3,by go_num,ae,zq (by rw[HST.out];exact ZO.out),EP⟩
    case measure=>simp[intOf];omega
   obtain rfl:j=na:=ae;have HT5:Hid (m.ag.l.take j=m.ag.l):=zq (awS (by rw[AO.out];exact awC _));rw[HT5.out,<-jF.out]at HR5;obtain⟨A1,cap1,rfl,hC1⟩:=HR5.out.form;obtain⟨nc,yK⟩:∃nc,nc=R2.cols.length:=⟨_,rfl⟩
   have Jg:=zq yK;rw[<-yK]at HR5;obtain⟨⟨k0,k1,k2⟩,_⟩:=HR5.out.box.three;have aui:nc<=9223372036854775807:=by have h1:=hC1.le;have h2:=hC1.max;omega
   by_cases hz:nc=0
   ·have OH:=zq (ou w0.heap.size wa.heap.size R2 (.slice A1 nc cap1) 23 ⟨#[]⟩ wr HR5.out);have WG:Hid ((R2.fail 23 ⟨#[]⟩).limit=R3):=zq (by rw[afg.out,if_pos (by rw[<-Jg.out];exact hz)]);subst hz;clear hC1 yK
    go_wp2_with (first
     | ((with_reducible refine(OH.out).mono ?_);rintro r_ w2 ⟨rfl,hR2,hB2⟩;have HLM:=zq (Em w0.heap.size wa.heap.size _ A1 0 cap1 w2 hR2);have IJ:=zq (MZ.out.then hB2);clear hR2 hB2)
     | ((with_reducible refine(HLM.out).mono ?_);rintro r_ w4 ⟨rfl,hR2,hB2⟩;have HRL:=zq hR2;have TV:=zq (IJ.out.then hB2);obtain⟨⟨d0,d1,d2⟩,_⟩:=hR2.box.three;obtain⟨⟨g0,g1,g2⟩,z0,z1,z2⟩:=(jV.out.but (IJ.out.then hB2) (by have:=kT.out;simp;omega)).three;clear hR2 hB2))
    (try simp only[Exit.inBlock,Exit.then]);rw[dI];have hv3:=HRL.out.own;have hfin:∀g,(Value.slice A1 0 cap1).ownBlock=some g->wa.heap.size<=g:=λg hg=>(hv3.lt hg).1;exact azd
   have HLM:=zq (Em w0.heap.size wa.heap.size _ A1 nc cap1 wr HR5.out);have WG:Hid (R2.limit=R3):=zq (by rw[afg.out,if_neg (by rw[<-Jg.out];exact hz)]);have hz2:(nc==0)=false:=awy.2 hz;have hz3:((nc:Int)==0)=false:=awy.2 ae;clear hC1 yK
   go_wp2_with (first
    | ((with_reducible refine(HLM.out).mono ?_);rintro r_ w4 ⟨rfl,hR2,hB2⟩;have HRL:=zq hR2;have TV:=zq (MZ.out.then hB2);obtain⟨⟨d0,d1,d2⟩,_⟩:=hR2.box.three;obtain⟨⟨g0,g1,g2⟩,z0,z1,z2⟩:=(jV.out.but (MZ.out.then hB2) (by have:=kT.out;simp;omega)).three;clear hR2 hB2))
   (try simp only[Exit.inBlock,Exit.then]);rw[dI];have hv3:=HRL.out.own;have hfin:∀g,(Value.slice A1 nc cap1).ownBlock=some g->wa.heap.size<=g:=λg hg=>(hv3.lt hg).1;exact azd
theorem vV(w:ak)(m:PM):∃w0,w.alloc (.cells ↑m 32)=w0/\Ev w w0/\Bx 32 w.heap.size ↑m w0/\w0.heap.size=w.heap.size+1:=⟨_,rfl,Ev.alloc _ _,Bx.new _ _ _,aj⟩
def agO(m:PM)(most:Nat)(w:ak)(e:Ending)(w':ak):Prop:=
 ∃(A:Option Addr) (n cap:Nat) (L:List Pp),e=.returned (.tuple #[.slice A n cap,.bool (decide (m.p.size<=most))])/\Sl 1 ppc w' A n cap L/\(∀x∈L,QO w' x)/\(m.p.size<=most->∀f:Pl->Nat,nz f L=m.p.sum f)/\(¬m.p.size<=most->L=[])/\n<=most/\Ev w w'
theorem Uu.any{m:PM}{most:Nat}{w w':ak}{e:Ending}(h:Uu m most w e w'):agO m most w e w':=by
 rcases h with⟨A,n,cap,L,b0,rfl,hS,hP,hf,hs,hE⟩|⟨rfl,hs,hE⟩
 refine⟨A,n,cap,L,by rw[aw5 hs],hS,hP,λ_=>hf,λh=>absurd hs h,?_,hE⟩;have h1:=hf λ_=>1;rw[GU,QP,hS.len]at h1;omega;exact⟨none,0,0,[],by rw[axf ae],Sl.nil_ w',(λx hx=>by cases hx),λh=>absurd h ae,λ_=>rfl,awJ _,hE⟩
theorem ZX(f:Pl->Nat)(L:List Pp){k:Nat}{x:Pp}(h:L[k]?=some x):nz f (L.take (k+1))=nz f (L.take k)+f x.2.p:=by rw[(drop_at h).2,xx];simp[nz]
theorem afo(f:Pl->Nat)(L:List Pp)(k:Nat):nz f (L.take k)<=nz f L:=by have:=xx f (L.take k) (L.drop k);rw[axs]at this;omega
theorem afp(x:PM):oW x.p=x.ex.l.length+x.co.l.length+x.lf.l.length+x.rt.l.length+x.ag.l.length:=by rw[PM.sW];simp[oW,Pl.exprs,Pl.cols,Pl.left,Pl.right,Pl.Gs]
theorem aAX(h:U:=by go_wp2;go_ret;exact⟨by first|(rw[HQ.out];rfl)|(have h:=HQ.out;rw[Bool.decide_and]at h;rw[h];rfl),(HE.out.trans lH.out).trans kU.out⟩):U:=h
theorem LP(m:PM)(b0:Nat)(w:ak)(h:Qx b0 [] w m)(hsz:m.p.size<=1000000)(hpt:m.p.sum oW<=1000000000):
  Calls ax 28 #[pv m] w λe w'=>e=.returned (.bool (decide (m.p.size<=600/\m.p.sum oW<=600)))/\Ev w w':=by
 have HW:=zq (λw1 (hE:Ev w w1)=>(ZM m b0 600 w1 (h.ev hE) hsz ae ae).mono λe w2 h=>h.any);unfold agO at HW;obtain⟨w0,hw0,aV,hB,_⟩:=vV w m;obtain⟨⟨p0,p1,p2,p3,p4,p5,p6,p7⟩,_⟩:=hB.eight;have HE:=zq aV;have HPT:=zq hpt;obtain⟨ok,D8⟩:∃ok,ok=decide (m.p.size<=600):=⟨_,rfl⟩
 have HOK:=zq D8;rw[<-D8]at HW;unfold pv fH.v PM.kv at*;rw[show ((600:Nat):Int)=600 from rfl]at HW;clear h hB aV hsz hpt D8;go_enter func28,ntmps28
 go_wp2_with (first
  | ((with_reducible refine(HW.out _ HE.out).mono ?_);rintro e w2 ⟨A,n,cap,L,rfl,hS,hP,hf,hno,hn6,bM⟩;simp only[];have HS:=zq hS;have HP:=zq hP;have HF:=zq hf;have HNO:=zq hno;have hcl:=hS.le;have hcm:=hS.max;have lH:=zq bM;have qX:=zq hS.len;clear hS hP hf hno bM p0 p1 p2 p3 p4 p5 p6 p7))
 have HB:=zq (by
  by_cases hs:m.p.size<=600;rw[HF.out hs];exact HPT.out;rw[HNO.out hs];simp[nz]:nz oW L<=1000000000)
 go_loopw [5,15] (λrv iv wr=>∃(k s:Nat),rv=.int .i64 (600-(s:Int))/\iv=↑k/\k<=n/\s<=1000000000/\Hid (s=nz oW (L.take k))/\Hid (Ev w2 wr)) (λ_ iv _=>n-(intOf iv).toNat)
 case atStart=>exact⟨0,0,rfl,rfl,awJ _,ae,zq rfl,zq aK⟩
 case round=>
  obtain⟨k,s,rfl,rfl,hk,hsb,HSS,kU⟩:=hrel;by_cases hlt:k<n
  ·obtain⟨x,hx⟩:=HS.out.at hlt;obtain⟨b,off,rfl,hb,_⟩:=(HS.out.ev kU.out).rd ae;have c0:=Yl (HS.out.ev kU.out) hx;obtain⟨b',off',e',hb',p0,p1,p2,p3,p4,p5,p6,p7⟩:=(HP.out x (awG hx)).ev kU.out;rw[e']at c0;have hst:=ZX oW L hx;have FW:=afo oW L (k+1);rw[afp,<-HSS.out]at hst;have hbd:=HB.out;have HST:=zq hst;have b1:s+(x.2.ex.l.length+x.2.co.l.length+x.2.lf.l.length+x.2.rt.l.length+x.2.ag.l.length)<=1000000000:=ae;generalize x.2.ex.l.length=n1 at*;generalize x.2.co.l.length=n2 at*;generalize x.2.lf.l.length=n3 at*;generalize x.2.rt.l.length=n4 at*;generalize x.2.ag.l.length=n5 at*;have i1:(0:Int)<=(k:Int):=ae;have i2:(k:Int)<(n:Int):=ae;clear hx hst FW hbd e' p0 p1 p7;go_upto_region 6 with fail
   go_quiet (fail)
   go_wp2;go_roundw
   case rel=>exact⟨k+1,s+(n1+n2+n3+n4+n5),by congr 1;omega,by go_num,ae,b1,zq HST.out.symm,zq (kU.out.trans (Ev.drewN _ _))⟩
   case measure=>simp[intOf];omega
  obtain rfl:k=n:=ae;have apf:Hid (s=nz oW L):=zq (by
   have h1:=HSS.out;rwa [awS (by rw[qX.out];exact awC _)]at h1)
  have ait:Hid (decide (m.p.size<=600/\m.p.sum oW<=600)=(ok&&decide (s<=600))):=zq (by
   rw[HOK.out];by_cases hs:m.p.size<=600;rw[apf.out,HF.out hs,aw5 hs,axB];simp[hs];rw[axf hs,axp];simp[hs])
  cases ok
  have HQ:Hid (decide (m.p.size<=600/\m.p.sum oW<=600)=false):=zq (by rw[ait.out];rfl);exact aAX;by_cases hs6:s<=600;have i3:(s:Int)<=600:=ae;have HQ:Hid (decide (m.p.size<=600/\m.p.sum oW<=600)=true):=zq (by rw[ait.out,aw5 hs6];rfl);exact aAX;have i3:¬((s:Int)<=600):=ae;have HQ:Hid (decide (m.p.size<=600/\m.p.sum oW<=600)=false):=zq (by rw[ait.out,axf hs6];rfl);exact aAX
theorem acX(m:PM)(b0:Nat)(w:ak)(hT:Tab w)(h:Qx b0 [] w m)(hg:m.p.good)(hsz:(aH m.p).size<=10000)(hlen:(printS (aH m.p)).length<=100000):
  Calls ax 17 #[pv m] w λe w'=>e=.returned (.string ⟨(ug m.p).toArray⟩)/\Ev w w':=by
 have hfit:=Az _ hg hsz;have pU:=(TJ m.p hg).2.2;have hpl:=O0 m.p hg;rw[(acn oW (λ_=>1)).1,Le]at hpl;have HS:=zq (λw1 (hE:Ev w w1)=>LP m b0 w1 (h.ev hE) ae ae);have Ur:=zq (λw1 (hE:Ev w w1)=>QE m b0 w1 (hT.ev hE) (h.ev hE) hfit ae ae (λe=>by have:=(EG _ pU).1;rw[e]at this;simp at this) (Bh _ (jT _ pU).1));have Bq:=zq (λw1 (hE:Ev w w1)=>Yk (printS (aH m.p)) w1 (hT.ev hE) hlen);have HSM:=zq (λm2 (hp:m2.p=m.p) b1 w1 (hE:Ev w w1) (h2:Qx b1 [] w1 m2)=>ZK m.dep m m2 b0 b1 w1 (awC _) (h.ev hE) h2 hp.symm hg hfit);obtain⟨r1,r2,r3⟩:=Uf m.p hg;obtain⟨w0,hw0,aV,hB,_⟩:=vV w m;obtain⟨⟨p0,p1,p2,p3,p4,p5,p6,p7⟩,_⟩:=hB.eight;have HE:=zq aV;have HB:=zq hB;unfold bP at Bq;unfold Yes at HSM;unfold pv fH.v PM.kv at*;by_cases hsm:m.p.size<=600/\m.p.sum oW<=600
 ·rw[aw5 hsm]at HS;obtain⟨PS,vT⟩:∃PS,PS=printS (aH m.p):=⟨_,rfl⟩
  by_cases D8:(printS (aH m.p)).length<=600/\(aH m.p).deep<=12
  ·rw[show ug m.p=printS (aH m.p) by unfold ug;rw[if_pos D8]];rw[r1 D8.1 D8.2]at Bq;simp only at Bq;rw[<-vT]at Bq Ur|-;clear h hB aV hsz hlen hT hg hfit pU hpl r1 r2 r3 hsm D8 vT;go_enter func17,ntmps17
   go_wp2_with (first
    | ((with_reducible refine(HS.out _ HE.out).mono ?_);rintro e w1 ⟨rfl,aN⟩;have E1:=zq (HE.out.trans aN);clear p0 p1 p2 p3 p4 p5 p6 p7;obtain⟨⟨p0,p1,p2,p3,p4,p5,p6,p7⟩,_⟩:=(HB.out.ev aN).eight;have sN:=zq (HB.out.ev aN);clear aN)
    | ((with_reducible refine(Ur.out _ E1.out).mono ?_);rintro e w2 ⟨rfl,bM⟩;have E2:=zq (E1.out.trans bM);clear p0 p1 p2 p3 p4 p5 p6 p7;have FH:=zq (sN.out.ev bM);clear bM)
    | ((with_reducible refine(Bq.out _ E2.out).mono ?_);rintro e w3 ⟨m2,rfl,hp2,hq2,dV⟩;simp only[];obtain⟨w4,hw4,fG,FK,_⟩:=vV w3 m2;have E4:=zq (E2.out.trans (dV.trans fG));have HP2:=zq hp2;have HQ2:=zq (hq2.ev fG);obtain⟨⟨q0,q1,q2,q3,q4,q5,q6,q7⟩,_⟩:=FK.eight;obtain⟨⟨p0,p1,p2,p3,p4,p5,p6,p7⟩,_⟩:=(FH.out.ev (dV.trans fG)).eight;clear hp2 hq2 dV fG FK)
    | ((with_reducible refine(HSM.out m2 HP2.out _ _ E4.out HQ2.out).mono ?_);rintro e w5 ⟨rfl,kH⟩;have E5:=zq (E4.out.trans kH)))
   go_ret;exact⟨rfl,E5.out⟩
  rw[show ug m.p=[] by unfold ug;rw[if_neg D8]];have hne:(ng (printS (aH m.p))).2.1≠0:=by by_cases hl:(printS (aH m.p)).length<=600;rw[r3 hl ae];decide;rw[r2 ae];decide
  rw[<-vT]at Bq Ur hne;generalize ng PS=R at Bq hne;obtain⟨Rp,Rw,Rx⟩:=R;simp only at Bq hne;have hneb:(Rw !=0)=true:=axI.2 hne;clear h hB aV hsz hlen hT hg hfit pU hpl r1 r2 r3 hsm D8 vT hne;go_enter func17,ntmps17
  go_wp2_with (first
   | ((with_reducible refine(HS.out _ HE.out).mono ?_);rintro e w1 ⟨rfl,aN⟩;have E1:=zq (HE.out.trans aN);clear p0 p1 p2 p3 p4 p5 p6 p7;obtain⟨⟨p0,p1,p2,p3,p4,p5,p6,p7⟩,_⟩:=(HB.out.ev aN).eight;clear aN)
   | ((with_reducible refine(Ur.out _ E1.out).mono ?_);rintro e w2 ⟨rfl,bM⟩;have E2:=zq (E1.out.trans bM);clear p0 p1 p2 p3 p4 p5 p6 p7 bM)
   | ((with_reducible refine(Bq.out _ E2.out).mono ?_);rintro e w3 ⟨m2,rfl,hp2,hq2,dV⟩;simp only[];have E3:=zq (E2.out.trans dV);clear hp2 hq2 dV))
  go_ret;exact⟨rfl,E3.out.trans aB⟩
 rw[axf hsm]at HS;rw[show ug m.p=[] by unfold ug;rw[if_neg ae]];clear h hB aV hsz hlen hT hg hfit pU hpl r1 r2 r3 hsm Bq HSM Ur;go_enter func17,ntmps17
 go_wp2_with (first
  | ((with_reducible refine(HS.out _ HE.out).mono ?_);rintro e w1 ⟨rfl,aN⟩;have E1:=zq (HE.out.trans aN);clear aN))
 go_ret;exact⟨rfl,E1.out⟩
theorem aiv{m:PM}(h:m.p=iC):m.kind=0/\m.kids.length=0:=by
 rw[PM.sW]at h;unfold iC at h;injection h with h1 h2 h3 h4 h5 h6 h7 h8
 exact⟨h1,by have:=axc List.length h8;simpa using this⟩
theorem ZY:M.t (.mk 1 [] 0 none 0 [] 0)=aH iC:=by rfl
theorem acY(m:PM)(w:ak)(hm:m.p=iC):
  Calls ax 56 #[pv m] w (gB (aH iC) w):=by
 obtain⟨hk,hn⟩:=aiv hm;unfold pv fH.v PM.kv gB;rw[hk,hn];obtain⟨w0,hw0,aV,hX,hB⟩:=Au w (.int .i64 0) ↑m.name (.slice m.ex.A m.ex.l.length m.ex.cap) (.slice m.co.A m.co.l.length m.co.cap) (.slice m.lf.A m.lf.l.length m.lf.cap) (.slice m.rt.A m.rt.l.length m.rt.cap) (.slice m.ag.A m.ag.l.length m.ag.cap) (.slice m.A 0 m.cap);obtain⟨⟨p0,p1,p2,p3,p4,p5,p6,p7⟩,_⟩:=hX.eight;have HB:=zq hB;have HE:=zq aV;have HO:=zq (oH none 0 0 w0);clear hX hB aV hm hk hn;go_enter func56,ntmps56;go_wp2;refine wp_loop_rounds 1 ?_;rw[rounds_succ]
 go_wp2_with ((with_reducible refine HO.out.mono ?_);rintro e w2 ⟨rfl,bM⟩;have lH:=zq bM;have jV:=zq (HB.out.ev bM);obtain⟨⟨d0,d1,d2,d3,d4⟩,r0,r1,r2,r3,r4⟩:=jV.out.five;clear bM)
 (try simp only[Exit.inBlock,Exit.then]);rw[dE];refine ayr (aT rfl _ _ _ _ _ rfl (jV.out.kQ _ _ _ _ _) underlying101 rfl Tryz.iV) rfl ?_;refine⟨.mk 1 [] 0 none 0 [] 0,rfl,ZY,.mk (Sl.nil_ _) (λ_ h=>by cases h) (λ_ h=>by cases h),(HE.out.trans lH.out).box (bU _ _ _ _ _ _ _) ae⟩
theorem DR:printS (aH iC)=[40,41]:=by decide+kernel
theorem ZZ:xX (aH iC)=true:=by decide+kernel
theorem Z4:(aH iC).size<=100000:=by decide+kernel
theorem zero_read:(ng [40,41]).2.1=12:=ah
theorem acZ(m:PM)(w:ak)(hT:Tab w)(hm:m.p=iC):
  Calls ax 29 #[pv m] w λr w'=>r=.returned (.string ⟨#[40,41]⟩)/\Ev w w':=by
 have HT:=zq (λw1=>acY m w1 hm);have HP:=zq (λ(x:M) (hx:x.t=aH iC) b1 w1 (hE:Ev w w1) (hl:Lies b1 [] w1 x)=>Ie (hT.ev hE) hl (by rw[hx];exact Z4) (by rw[hx,DR];simp) (.inl (by rw[hx,DR];simp)) (by rw[hx];exact ZZ));unfold pv fH.v PM.kv gB at*;have hB:=Bx.new 32 ↑m w;obtain⟨⟨p0,p1,p2,p3,p4,p5,p6,p7⟩,_⟩:=hB.eight;clear hT hB hm;go_enter func29,ntmps29
 go_wp2_with (first
  | ((with_reducible refine(HT.out _).mono ?_);rintro r w1 ⟨x,rfl,jM,iH,aN⟩;have E1:=zq ((Ev.alloc w _).trans aN);have HPX:=zq (HP.out x jM _ w1 E1.out iH);rw[jM,DR]at HPX;clear jM iH p0 p1 p2 p3 p4 p5 p6 p7)
  | ((with_reducible refine(HPX.out).mono ?_);rintro r w2 ⟨rfl,bM⟩))
 go_ret;exact⟨rfl,E1.out.trans bM⟩
theorem Z5(m:PM)(b0:Nat)(w:ak)(hT:Tab w)(h:Qx b0 [] w m)(hm:m.p=iC):
  Calls ax 17 #[pv m] w λe w'=>e=.returned (.string ⟨#[]⟩)/\Ev w w':=by
 have HS:=zq (λw1 (hE:Ev w w1)=>LP m b0 w1 (h.ev hE) (by rw[hm];decide+kernel) (by rw[hm];decide+kernel));rw[show (decide (m.p.size<=600/\m.p.sum oW<=600))=true by rw[hm];decide+kernel]at HS;have Ur:=zq (λw1 (hE:Ev w w1)=>acZ m w1 (hT.ev hE) hm);have Bq:=zq (λw1 (hE:Ev w w1)=>Yk [40,41] w1 (hT.ev hE) aj);have hne:(ng [40,41]).2.1≠0:=by rw[zero_read];decide
 obtain⟨w0,hw0,aV,hB,_⟩:=vV w m;obtain⟨⟨p0,p1,p2,p3,p4,p5,p6,p7⟩,_⟩:=hB.eight;have HE:=zq aV;have HB:=zq hB;unfold bP at Bq;unfold pv fH.v PM.kv at*;generalize ng [40,41]=R at Bq hne;obtain⟨Rp,Rw,Rx⟩:=R;simp only at Bq hne;have hneb:(Rw !=0)=true:=axI.2 hne;clear h hB aV hT hm hne;go_enter func17,ntmps17
 go_wp2_with (first
  | ((with_reducible refine(HS.out _ HE.out).mono ?_);rintro e w1 ⟨rfl,aN⟩;have E1:=zq (HE.out.trans aN);clear p0 p1 p2 p3 p4 p5 p6 p7;obtain⟨⟨p0,p1,p2,p3,p4,p5,p6,p7⟩,_⟩:=(HB.out.ev aN).eight;clear aN)
  | ((with_reducible refine(Ur.out _ E1.out).mono ?_);rintro e w2 ⟨rfl,bM⟩;have E2:=zq (E1.out.trans bM);clear p0 p1 p2 p3 p4 p5 p6 p7 bM)
  | ((with_reducible refine(Bq.out _ E2.out).mono ?_);rintro e w3 ⟨m2,rfl,hp2,hq2,dV⟩;simp only[];have E3:=zq (E2.out.trans dV);clear hp2 hq2 dV))
 go_ret;exact⟨rfl,E3.out.trans aB⟩
theorem Ps.eight{w:ak}{b off n cap:Nat}{l:List PM}(h:Ps w ↑(b,off) n cap l){i:Nat}{x:PM}(hx:l[i]?=some x):BI w b (off+i*8) x:=Ps.cell h hx
theorem BI.ev{w w':ak}{b off:Nat}{m:PM}(h:BI w b off m)(hb:b<w.heap.size)(hE:Ev w w'):BI w' b off m:=by obtain⟨h0,h1,h2,h3,h4,h5,h6,h7⟩:=h;exact⟨(hE.cell (p:=⟨b,_,none⟩) hb).trans h0,(hE.cell (p:=⟨b,_,none⟩) hb).trans h1,(hE.cell (p:=⟨b,_,none⟩) hb).trans h2,(hE.cell (p:=⟨b,_,none⟩) hb).trans h3,(hE.cell (p:=⟨b,_,none⟩) hb).trans h4,(hE.cell (p:=⟨b,_,none⟩) hb).trans h5,(hE.cell (p:=⟨b,_,none⟩) hb).trans h6,(hE.cell (p:=⟨b,_,none⟩) hb).trans h7⟩
theorem CO{ρ:Operand->au}{o:Oper}{x:Operand}{b off:Nat}{w:ak}(m:PM)(ho:o.op=.load 32 x)(hx:ρ x=.pointer ↑(b,off))(hc:BI w b off m):
  (execOp ρ o).run ax w=.ok (.value (pv m)) w:=by
 obtain⟨c0,c1,c2,c3,c4,c5,c6,c7⟩:=hc;unfold pv fH.v PM.kv execOp;rw[ho];simp[hx,go_sem,c0,c1,c2,c3,c4,c5,c6,c7]
theorem aBG(h:U:=by
 have e2:a.eval (.tmp 2)=.pointer ↑w:=(c.was 2 rfl)
 generalize a.eval=ρ at e2|-;simp[execOp,e2,go_sem]):U:=h
theorem Z7(N:Nat):∀(m m':PM) (b0 b0':Nat) (w:ak),m.dep<=N->Qx b0 [] w m->Qx b0' [] w m'->m.p=m'.p->
  Calls ax 43 #[pv m,pv m'] w (Yes w):=by
 have ed:Tryz.prog.follows .mixedOrders=true:=ah
 induction N with
 | zero=>
  intro m m' b0 b0' w hd;rw[PM.lh]at hd;omega
 | succ N ih=>
  intro m m' b0 b0' w hd hL hL' ht;have SL:=ht;rw[PM.sW m,PM.sW m']at SL;injection SL with e1 e2 e3 e4 e5 e6 e7 e8
  have hlex:m'.ex.l.length=m.ex.l.length:=by have:=axc List.length e3;simpa using this.symm
  have hlk:m'.kids.length=m.kids.length:=by have:=axc List.length e8;simpa using this.symm
  obtain⟨hex,hlx,xQ,pJ,hrt,yz,BM,QA⟩:=hL.at;obtain⟨acC,acD,acE,acF,acG,acH,aib,acI⟩:=hL'.at;have GL:=zq (λw1 (hE:Ev w w1)=>Xa (M.deps m.ex.l) m.ex.l m'.ex.l b0 b0' w1 m.ex.A m.ex.l.length m.ex.cap m'.ex.A m'.ex.cap (awC _) e3 (hex.sl.ev hE) (by have:=acC.sl.ev hE;rwa [hlex]at this) (λx hx=>(hlx x hx).ev hE) (λx hx=>(acD x hx).ev hE));have EE:=zq (λw1 (hE:Ev w w1)=>DT w1 (xQ.sl.ev hE) (by have:=acE.sl.ev hE;rwa [<-e4]at this));have zS:=zq (λw1 (hE:Ev w w1)=>DT w1 (pJ.sl.ev hE) (by have:=acF.sl.ev hE;rwa [<-e5]at this));have zG:=zq (λw1 (hE:Ev w w1)=>DT w1 (hrt.sl.ev hE) (by have:=acG.sl.ev hE;rwa [<-e6]at this));have uT:=zq (λi x x' (hx:m.kids[i]?=some x) (hx':m'.kids[i]?=some x') w1 (hE:Ev w w1)=>by
   have gJ:=awG hx;refine ih x x' b0 b0' w1 (by have:=PM.jY gJ;omega) ((QA x gJ).ev hE) ((acI x' (awG hx')).ev hE) ?_;have h1:(m.kids.map PM.p)[i]?=some x.p:=by rw[axh,hx];rfl
   have h2:(m'.kids.map PM.p)[i]?=some x'.p:=by rw[axh,hx'];rfl
   rw[e8,h2]at h1;exact(axd h1).symm:∀i x x',m.kids[i]?=some x->m'.kids[i]?=some x'->∀w1,Ev w w1->Calls ax 43 #[pv x,pv x'] w1 (Yes w1))
  have Ya:=yz.sl;have ac0:=acH.sl;have hKS:=hL.ps;have ac1:=hL'.ps;rw[<-e7]at ac0;rw[hlk]at ac1;unfold Yes at uT|-;unfold pv fH.v PM.kv;rw[<-e1,<-e2,hlex,hlk,<-e4,<-e5,<-e6,<-e7];obtain⟨w0,hw0,aV,hX,hB⟩:=agD w ↑m.kind ↑m.name (.slice m.ex.A m.ex.l.length m.ex.cap) (.slice m.co.A m.co.l.length m.co.cap) (.slice m.lf.A m.lf.l.length m.lf.cap) (.slice m.rt.A m.rt.l.length m.rt.cap) (.slice m.ag.A m.ag.l.length m.ag.cap) (.slice m.A m.kids.length m.cap) ↑m.kind ↑m.name (.slice m'.ex.A m.ex.l.length m'.ex.cap) (.slice m'.co.A m.co.l.length m'.co.cap) (.slice m'.lf.A m.lf.l.length m'.lf.cap) (.slice m'.rt.A m.rt.l.length m'.rt.cap) (.slice m'.ag.A m.ag.l.length m'.ag.cap) (.slice m'.A m.kids.length m'.cap);obtain⟨⟨p0,p1,p2,p3,p4,p5,p6,p7⟩,_⟩:=hX.eight;obtain⟨⟨q0,q1,q2,q3,q4,q5,q6,q7⟩,_⟩:=hB.eight;have auj:=Ya.le;have auk:=Ya.max;have ah5:=ac0.le;have afa:=ac0.max;have ak4:=hKS.le;have ak5:=hKS.max;have ak6:=ac1.le;have ak7:=ac1.max;have HE:=zq aV;have HX:=zq hX;have HB:=zq hB;have Ar:=zq Ya;have aph:=zq ac0;have zJ:=zq hKS;have aix:=zq ac1;clear Ya ac0 hKS ac1 hX hB aV ih hd hL hL' ht e1 e2 e3 e4 e5 e6 e7 e8 hlex hlk hex hlx xQ pJ hrt yz BM QA acC acD acE acF acG acH aib acI;generalize acM:m.ag.l=agl at*;generalize api:m.kids=kdl at*;generalize alh:m'.kids=aun at*;generalize DX:agl.length=na at*;generalize xO:kdl.length=nk at*;clear acM api alh DX xO;generalize m.ag.A=agA at*;generalize m'.ag.A=ali at*;generalize m.A=kA at*;generalize m'.A=kA' at*;generalize m.ag.cap=agc at*;generalize m'.ag.cap=alj at*;generalize m.cap=kc at*;generalize m'.cap=kc' at*;go_enter func43,ntmps43
  go_wp2_with (first
   | ((with_reducible refine(GL.out _ HE.out).mono ?_);rintro e w1 ⟨rfl,aN⟩;have F1:=zq aN;have E1:=zq (HE.out.trans F1.out);clear aN p0 p1 p2 p3 p4 p5 p6 p7 q0 q1 q2 q3 q4 q5 q6 q7;obtain⟨⟨p0,p1,p2,p3,p4,p5,p6,p7⟩,_⟩:=(HX.out.ev F1.out).eight;obtain⟨⟨q0,q1,q2,q3,q4,q5,q6,q7⟩,_⟩:=(HB.out.ev F1.out).eight)
   | ((with_reducible refine(EE.out _ E1.out).mono ?_);rintro e w2 ⟨rfl,bM⟩;have F2:=zq (F1.out.trans bM);have E2:=zq (HE.out.trans F2.out);clear bM p0 p1 p2 p3 p4 p5 p6 p7 q0 q1 q2 q3 q4 q5 q6 q7;obtain⟨⟨p0,p1,p2,p3,p4,p5,p6,p7⟩,_⟩:=(HX.out.ev F2.out).eight;obtain⟨⟨q0,q1,q2,q3,q4,q5,q6,q7⟩,_⟩:=(HB.out.ev F2.out).eight)
   | ((with_reducible refine(zS.out _ E2.out).mono ?_);rintro e w3 ⟨rfl,dV⟩;have F3:=zq (F2.out.trans dV);have E3:=zq (HE.out.trans F3.out);clear dV p0 p1 p2 p3 p4 p5 p6 p7 q0 q1 q2 q3 q4 q5 q6 q7;obtain⟨⟨p0,p1,p2,p3,p4,p5,p6,p7⟩,_⟩:=(HX.out.ev F3.out).eight;obtain⟨⟨q0,q1,q2,q3,q4,q5,q6,q7⟩,_⟩:=(HB.out.ev F3.out).eight)
   | ((with_reducible refine(zG.out _ E3.out).mono ?_);rintro e w4 ⟨rfl,fG⟩;have F4:=zq (F3.out.trans fG);clear fG p0 p1 p2 p3 p4 p5 p6 p7 q0 q1 q2 q3 q4 q5 q6 q7;obtain⟨⟨p0,p1,p2,p3,p4,p5,p6,p7⟩,_⟩:=(HX.out.ev F4.out).eight;obtain⟨⟨q0,q1,q2,q3,q4,q5,q6,q7⟩,_⟩:=(HB.out.ev F4.out).eight))
  clear p0 p1 p2 p3 p4 p5 p6 p7 q0 q1 q2 q3 q4 q5 q6 q7
  go_loopw [5] (λiv wr=>∃k:Nat,iv=↑k/\k<=na/\Hid (Ev w0 wr)) (λiv _=>na-(intOf iv).toNat)
  case atStart=>exact⟨0,rfl,awJ _,F4⟩
  case round=>
   obtain⟨k,rfl,hk,kU⟩:=hrel;obtain⟨⟨p0,p1,p2,p3,p4,p5,p6,p7⟩,_⟩:=(HX.out.ev kU.out).eight;obtain⟨⟨q0,q1,q2,q3,q4,q5,q6,q7⟩,_⟩:=(HB.out.ev kU.out).eight;clear p0 p1 p2 p3 p4 p5 q0 q1 q2 q3 q4 q5;by_cases hlt:k<na
   ·obtain⟨x,hx⟩:=Ar.out.at hlt;obtain⟨b,off,rfl,hb,hc⟩:=(Ar.out.ev (HE.out.trans kU.out)).rd ae;obtain⟨b',off',rfl,hb',hc'⟩:=(aph.out.ev (HE.out.trans kU.out)).rd ae;have c0:=hc k x hx 0 _ rfl;have d0:=hc' k x hx 0 _ rfl;have c1:=hc k x hx 1 _ rfl;have d1:=hc' k x hx 1 _ rfl;have c2:=hc k x hx 2 _ rfl;have d2:=hc' k x hx 2 _ rfl;simp only[aw2]at c0 d0;have i1:(0:Int)<=(k:Int):=ae;have i2:(k:Int)<(na:Int):=ae;clear hx hc hc';go_upto_region 6 with fail
    go_region
    all_goals (
     go_wp2;go_roundw
     case rel=>exact⟨k+1,by go_num,ae,zq (kU.out.trans (Ev.drew _))⟩
     case measure=>simp[intOf];omega)
   obtain rfl:k=na:=ae;go_wp2
   go_loopw [6] (λiv wr2=>∃j:Nat,iv=↑j/\j<=nk/\Hid (Ev w0 wr2)) (λiv _=>nk-(intOf iv).toNat)
   case atStart=>exact⟨0,rfl,awJ _,kU⟩
   case round=>
    rename ak=>wr2;obtain⟨j,rfl,hj,lH⟩:=hrel;clear p6 p7 q6 q7;obtain⟨⟨p0,p1,p2,p3,p4,p5,p6,p7⟩,_⟩:=(HX.out.ev lH.out).eight;obtain⟨⟨q0,q1,q2,q3,q4,q5,q6,q7⟩,_⟩:=(HB.out.ev lH.out).eight;clear p0 p1 p2 p3 p4 p5 p6 q0 q1 q2 q3 q4 q5 q6;by_cases hlt2:j<nk
    ·obtain⟨x,hx⟩:=zJ.out.at hlt2;obtain⟨x',hx'⟩:=aix.out.at hlt2;obtain⟨b,off,rfl,hb,_⟩:=(zJ.out.ev (HE.out.trans lH.out)).rd ae;obtain⟨b',off',rfl,hb',_⟩:=(aix.out.ev (HE.out.trans lH.out)).rd ae;have HPX:=zq (Ps.eight (zJ.out.ev (HE.out.trans lH.out)) hx);have HPY:=zq (Ps.eight (aix.out.ev (HE.out.trans lH.out)) hx');have HC:=zq (λwq (hE:Ev wr2 wq)=>uT.out j x x' hx hx' wq ((HE.out.trans lH.out).trans hE));have D_:=(HX.out.ev lH.out).lt;have hby:=(HB.out.ev lH.out).lt;have i1:(0:Int)<=(j:Int):=ae;have i2:(j:Int)<(nk:Int):=ae;clear hx hx';go_upto_region 11 with fail
     refine bV ed [λv _=>v=.pointer (some ⟨w.heap.size,7,none⟩),λv _=>v=.slice ↑(b,off) nk kc,λv _=>v=↑j,λv _=>v=.pointer ↑(b,off+j*8),λv _=>v=pv x,λv _=>v=.pointer (some ⟨w.heap.size+1,7,none⟩),λv _=>v=.slice ↑(b',off') nk kc',λv _=>v=↑j,λv _=>v=.pointer ↑(b',off'+j*8),λv _=>v=pv x',λv _=>v=.bool true,λv _=>v=.bool false]
      106 rfl ah ⟨az _,az _,az _,az _,az _,az _,az _,az _,az _,az _,az _,az _,trivial⟩ ?_ ?_
     ·refine aC 0 ?_ (aC 1 ?_ (aC 2 ?_ (aC 3 ?_ (aC 4 ?_ (aC 5 ?_ (aC 6 ?_ (aC 7 ?_ (aC 8 ?_ (aC 9 ?_ (aC 10 ?_ (aC 11 ?_ (iT 12))))))))))));refine aF λa wq c=>⟨(ay rfl),.pointer (some ⟨w.heap.size,7,none⟩),?_,rfl⟩
      exact aBG
      ·refine aF λa wq c=>⟨(ay rfl),.slice ↑(b,off) nk kc,?_,rfl⟩
       have bC:a.eval (.tmp 94)=.pointer (some ⟨w.heap.size,7,none⟩):=(c.new 0 94)
       have hc:=(c.ev.cell (p:=⟨w.heap.size,7,none⟩) D_).trans p7;generalize a.eval=ρ at bC|-;simp[execOp,bC,hc,go_sem]
      refine aF λa wq c=>⟨(ay rfl),_,run_move _ rfl wq,(c.was 6 rfl)⟩
      ·refine aF λa wq c=>⟨(ay rfl),.pointer ↑(b,off+j*8),?_,rfl⟩
       have e95:a.eval (.tmp 95)=.slice ↑(b,off) nk kc:=(c.new 1 95)
       have e96:a.eval (.tmp 96)=↑j:=(c.new 2 96)
       generalize a.eval=ρ at e95 e96|-;simp[execOp,e95,e96,go_sem,i1,i2]
      refine aF λa wq c=>⟨(ay rfl),_,CO x rfl (c.new 3 97) (HPX.out.ev hb c.ev),rfl⟩
      ·refine aF λa wq c=>⟨(ay rfl),.pointer (some ⟨w.heap.size+1,7,none⟩),?_,rfl⟩
       have e3:a.eval (.tmp 3)=.pointer (some ⟨w.heap.size+1,0,none⟩):=(c.was 3 rfl)
       generalize a.eval=ρ at e3|-;simp[execOp,e3,go_sem]
      ·refine aF λa wq c=>⟨(ay rfl),.slice ↑(b',off') nk kc',?_,rfl⟩
       have bC:a.eval (.tmp 99)=.pointer (some ⟨w.heap.size+1,7,none⟩):=(c.new 5 99)
       have hc:=(c.ev.cell (p:=⟨w.heap.size+1,7,none⟩) hby).trans q7;generalize a.eval=ρ at bC|-;simp[execOp,bC,hc,go_sem]
      refine aF λa wq c=>⟨(ay rfl),_,run_move _ rfl wq,(c.was 6 rfl)⟩
      ·refine aF λa wq c=>⟨(ay rfl),.pointer ↑(b',off'+j*8),?_,rfl⟩
       have alm:a.eval (.tmp 100)=.slice ↑(b',off') nk kc':=(c.new 6 100)
       have aln:a.eval (.tmp 101)=↑j:=(c.new 7 101)
       generalize a.eval=ρ at alm aln|-;simp[execOp,alm,aln,go_sem,i1,i2]
      refine aF λa wq c=>⟨(ay rfl),_,CO x' rfl (c.new 8 102) (HPY.out.ev hb' c.ev),rfl⟩
      refine ig λa wq c=>⟨(ay rfl),43,#[pv x,pv x'],?_,?_⟩
      rw[bT 43 _ _ rfl ah];have e98:a.eval (.tmp 98)=pv x:=(c.new 4 98)
      have afs:a.eval (.tmp 103)=pv x':=(c.new 9 103)
      simp[e98,afs];refine(HC.out wq c.ev).mono ?_;rintro e w2 ⟨rfl,hE⟩;exact⟨_,rfl,hE,rfl⟩;refine aF λa wq c=>⟨(ay rfl),.bool false,?_,rfl⟩
      have alo:a.eval (.tmp 104)=.bool true:=(c.new 10 104)
      generalize a.eval=ρ at alo|-;simp[execOp,alo,go_sem]
     intro sl wv Bg hold hnew;have f0:sl 0=.agg #[↑m.kind,↑m.name,.slice m.ex.A m.ex.l.length m.ex.cap,.slice m.co.A m.co.l.length m.co.cap,.slice m.lf.A m.lf.l.length m.lf.cap,.slice m.rt.A m.rt.l.length m.rt.cap,.slice agA k agc,.slice ↑(b,off) nk kc]:=hold 0;have f1:sl 1=.agg #[↑m.kind,↑m.name,.slice m'.ex.A m.ex.l.length m'.ex.cap,.slice m'.co.A m.co.l.length m'.co.cap,.slice m'.lf.A m.lf.l.length m'.lf.cap,.slice m'.rt.A m.rt.l.length m'.rt.cap,.slice ali k alj,.slice ↑(b',off') nk kc']:=hold 1;have f2:sl 2=.pointer ↑w:=hold 2;have f3:sl 3=.pointer (some ⟨w.heap.size+1,0,none⟩):=hold 3;have f4:sl 4=u4:=hold 4;have f5:sl 5=↑k:=hold 5;have f6:sl 6=↑j:=hold 6;have f7:sl 7=.pointer ↑w:=hold 7;have f8:sl 8=↑m.kind:=hold 8;have f9:sl 9=.pointer (some ⟨w.heap.size+1,0,none⟩):=hold 9;have f10:sl 10=↑m.kind:=hold 10;have f11:sl 11=.bool false:=hold 11;have f12:sl 12=.bool false:=hold 12;have f13:sl 13=.pointer (some ⟨w.heap.size,1,none⟩):=hold 13;have f14:sl 14=↑m.name:=hold 14;have f15:sl 15=.pointer (some ⟨w.heap.size+1,1,none⟩):=hold 15;have f16:sl 16=↑m.name:=hold 16;have f17:sl 17=.bool false:=hold 17;have f18:sl 18=.bool false:=hold 18;have f19:sl 19=.bool false:=hold 19;have f20:sl 20=.pointer (some ⟨w.heap.size,2,none⟩):=hold 20;have f21:sl 21=.slice m.ex.A m.ex.l.length m.ex.cap:=hold 21;have f22:sl 22=.pointer (some ⟨w.heap.size+1,2,none⟩):=hold 22;have f23:sl 23=.slice m'.ex.A m.ex.l.length m'.ex.cap:=hold 23;have f24:sl 24=.bool true:=hold 24;have f25:sl 25=.bool false:=hold 25;have f26:sl 26=.bool false:=hold 26;have f27:sl 27=.bool false:=hold 27;have f28:sl 28=.pointer (some ⟨w.heap.size,3,none⟩):=hold 28;have f29:sl 29=.slice m.co.A m.co.l.length m.co.cap:=hold 29;have f30:sl 30=.pointer (some ⟨w.heap.size+1,3,none⟩):=hold 30;have f31:sl 31=.slice m'.co.A m.co.l.length m'.co.cap:=hold 31;have f32:sl 32=.bool true:=hold 32;have f33:sl 33=.bool false:=hold 33;have f34:sl 34=.bool false:=hold 34;have f35:sl 35=.bool false:=hold 35
     have f36:sl 36=.pointer (some ⟨w.heap.size,4,none⟩):=hold 36;have f37:sl 37=.slice m.lf.A m.lf.l.length m.lf.cap:=hold 37;have f38:sl 38=.pointer (some ⟨w.heap.size+1,4,none⟩):=hold 38;have f39:sl 39=.slice m'.lf.A m.lf.l.length m'.lf.cap:=hold 39;have f40:sl 40=.bool true:=hold 40;have f41:sl 41=.bool false:=hold 41;have f42:sl 42=.bool false:=hold 42;have f43:sl 43=.bool false:=hold 43;have f44:sl 44=.pointer (some ⟨w.heap.size,5,none⟩):=hold 44;have f45:sl 45=.slice m.rt.A m.rt.l.length m.rt.cap:=hold 45;have f46:sl 46=.pointer (some ⟨w.heap.size+1,5,none⟩):=hold 46;have f47:sl 47=.slice m'.rt.A m.rt.l.length m'.rt.cap:=hold 47;have f48:sl 48=.bool true:=hold 48;have f49:sl 49=.bool false:=hold 49;have f50:sl 50=.bool false:=hold 50;have f51:sl 51=.bool false:=hold 51;have f52:sl 52=.pointer (some ⟨w.heap.size,6,none⟩):=hold 52;have f53:sl 53=.slice agA k agc:=hold 53;have f54:sl 54=↑k:=hold 54;have f55:sl 55=.pointer (some ⟨w.heap.size+1,6,none⟩):=hold 55;have f56:sl 56=.slice ali k alj:=hold 56;have f57:sl 57=↑k:=hold 57;have f58:sl 58=.bool false:=hold 58;have f59:sl 59=.bool false:=hold 59;have f60:sl 60=.bool false:=hold 60;have f61:sl 61=.pointer (some ⟨w.heap.size,7,none⟩):=hold 61;have f62:sl 62=.slice ↑(b,off) nk kc:=hold 62;have f63:sl 63=↑nk:=hold 63;have f64:sl 64=.pointer (some ⟨w.heap.size+1,7,none⟩):=hold 64;have f65:sl 65=.slice ↑(b',off') nk kc':=hold 65;have f66:sl 66=↑nk:=hold 66;have f67:sl 67=.bool false:=hold 67;have f68:sl 68=.bool false:=hold 68;have f69:sl 69=↑k:=hold 69;have f70:sl 70=.pointer (some ⟨w.heap.size,6,none⟩):=hold 70;have f71:sl 71=.slice agA k agc:=hold 71;have f72:sl 72=↑k:=hold 72;have f73:sl 73=.bool false:=hold 73;have f74:sl 74=u74:=hold 74;have f75:sl 75=u75:=hold 75;have f76:sl 76=u76:=hold 76;have f77:sl 77=u77:=hold 77;have f78:sl 78=u78:=hold 78;have f79:sl 79=u79:=hold 79;have f80:sl 80=u80:=hold 80;have f81:sl 81=u81:=hold 81;have f82:sl 82=u82:=hold 82;have f83:sl 83=u83:=hold 83;have f84:sl 84=u84:=hold 84
     have f85:sl 85=u85:=hold 85;have f86:sl 86=u86:=hold 86;have f87:sl 87=↑j:=hold 87;have f88:sl 88=.pointer (some ⟨w.heap.size,7,none⟩):=hold 88;have f89:sl 89=.slice ↑(b,off) nk kc:=hold 89;have f90:sl 90=↑nk:=hold 90;have f91:sl 91=.bool true:=hold 91;have f92:sl 92=u92:=hold 92;have f93:sl 93=u93:=hold 93;have f105:sl 105=.bool false:=hnew 11 105;change Exit.then _ _ .normal ⟨_,_⟩ _;simp only[List.range,List.range.loop,List.map];simp only[f0,f1,f2,f3,f4,f5,f6,f7,f8,f9,f10,f11,f12,f13,f14,f15,f16,f17,f18,f19,f20,f21,f22,f23,f24,f25,f26,f27,f28,f29,f30,f31,f32,f33,f34,f35,f36,f37,f38,f39,f40,f41,f42,f43,f44,f45,f46,f47,f48,f49,f50,f51,f52,f53,f54,f55,f56,f57,f58,f59,f60,f61,f62,f63,f64,f65,f66,f67,f68,f69,f70,f71,f72,f73,f74,f75,f76,f77,f78,f79,f80,f81,f82,f83,f84,f85,f86,f87,f88,f89,f90,f91,f92,f93,f105];clear hold hnew;go_wp2;go_roundw
     case rel=>exact⟨j+1,by go_num,ae,zq (lH.out.trans Bg)⟩
     case measure=>simp[intOf];omega
    obtain rfl:j=nk:=ae;go_wp2;go_ret;exact⟨rfl,HE.out.trans lH.out⟩
end Go.Proofs.YtpbfokkocaemlaaGreatDoor
