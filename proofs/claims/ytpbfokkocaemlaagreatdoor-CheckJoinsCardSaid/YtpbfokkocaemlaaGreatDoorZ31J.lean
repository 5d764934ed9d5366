import Derived.Test.YtpbfokkocaemlaaGreatDoorZ25J
import Derived.Test.YtpbfokkocaemlaaGreatDoorZ30J
set_option linter.unusedVariables false
set_option maxRecDepth 100000
set_option maxHeartbeats 64000000
namespace Go.Proofs.YtpbfokkocaemlaaGreatDoor
open Go.RowKit
open Go.Lib renaming hid → zq
open Go renaming World → ak
open Go renaming Value → au
open Go.Proofs.Tryz renaming prog → ax
variable {U:Prop}
open Go.Proofs.Tryz
def ajb(e:T):Prop:=dQ e=true/\e.size<=16000/\e.every (λt=>decide (t.s.length<=1000000))=true
def XK(k:Int)(es:List T)(cs lf rt:List By)(ag:List Ag)(nk:Nat):Prop:=
 (k=1∨k=2∨k=3∨k=4∨k=5∨k=6∨k=7)/\(∀e∈es,ajb e)/\(k=3->es.length=cs.length)/\es.length<=10000/\lf.length<=10000/\rt.length<=10000/\ag.length<=10000/\nk<=10000
mutual
def Pl.fit:Pl->Prop
 | .mk k _ es cs lf rt ag l=>XK k es cs lf rt ag l.length/\Pl.fits l
def Pl.fits:List Pl->Prop
 | []=>True
 | p::l=>p.fit/\Pl.fits l
end
theorem Pl.fits_all:∀l:List Pl,Pl.fits l↔∀p∈l,p.fit
 | []=>by simp[Pl.fits]
 | p::l=>by simp[Pl.fits,Pl.fits_all l]
theorem aby{m:PM}(h:m.p.fit):XK m.kind (m.ex.l.map M.t) m.co.l m.lf.l m.rt.l m.ag.l m.kids.length/\∀x∈m.kids,x.p.fit:=by rw[PM.sD,Pl.fit,Pl.fits_all,awh]at h;exact⟨h.1,λx hx=>h.2 x.p (awS hx)⟩
theorem adO(N:Nat):∀(m:PM) (b0:Nat) (w:ak),m.dep<=N->Qx b0 [] w m->m.p.fit->
  Calls ax 56 #[pv m] w (gq (aH m.p) w):=by
 induction N with
 | zero=>
  intro m b0 w hd;rw[PM.nT]at hd;omega
 | succ N ih=>
  intro m b0 w hd h hf;obtain⟨⟨hk,hes,h3,hel,jG,hrl,JK,hkn⟩,hkf⟩:=aby hf;rw[awh]at hel h3;have hrx:∀x∈m.ex.l,dQ x.t=true/\x.t.size<=16000/\x.t.every (λt=>decide (t.s.length<=1000000))=true:=λx hx=>hes x.t (awS hx);have ih2:∀x∈m.kids,∀w1,Ev w w1->Calls ax 56 #[pv x] w1 (gq (aH x.p) w1):=λx hx w1 hE=>ih x b0 w1 (by have:=PM.mg hx;omega) ((h.kid x hx).ev hE) (hkf x hx);rcases hk with hk|hk|hk|hk|hk|hk|hk;exact Ql m b0 w h hk hkn ih2;exact NM m b0 w h hk hrx hel hkn ih2;exact KQ m b0 w h hk hrx hel (h3 hk) hkn ih2;exact TC m b0 w h hk jG hrl hkn ih2;exact Qm m b0 w h hk hkn ih2;exact Iu m b0 w h hk hkn ih2;exact Qn m b0 w h hk jG JK hkn ih2
theorem Qp(m:PM)(b0:Nat)(w:ak)(hT:Tab w)(h:Qx b0 [] w m)(hf:m.p.fit)(hsz:(aH m.p).size<=100000)(hlen:(printS (aH m.p)).length<=1000000)(hne:printS (aH m.p)≠[])(hfit:xQ (aH m.p)=true):
  Calls ax 29 #[pv m] w λr w'=>r=.returned (.string ⟨(printS (aH m.p)).toArray⟩)/\Ev w w':=by
 have HT:=zq (λw1 (hE:Ev w w1)=>adO m.dep m b0 w1 (awj _) (h.ev hE) hf);have HP:=zq (λ(x:M) (hx:x.t=aH m.p) b1 w1 (hE:Ev w w1) (hl:Lies b1 [] w1 x)=>Hz (hT.ev hE) hl (by rw[hx];exact hsz) (by rw[hx];exact hlen) (.inl (by rw[hx];exact hne)) (by rw[hx];exact hfit));unfold pv fE.v PM.kv gq at*;obtain⟨R,hR⟩:∃R,R=aH m.p:=⟨_,rfl⟩
 rw[<-hR]at HT HP|-;have hB:=Bx.new 32 ↑m w;obtain⟨⟨p0,p1,p2,p3,p4,p5,p6,p7⟩,_⟩:=hB.eight;clear hT h hf hsz hlen hne hfit hR hB;go_enter func29,ntmps29
 go_wp2_with (first
  | ((with_reducible refine(HT.out _ (Ev.alloc w _)).mono ?_);rintro r w1 ⟨x,rfl,jI,iJ,aK⟩;have qj:=zq jI;have qC:=zq iJ;have E1:=zq ((Ev.alloc w _).trans aK);have HPX:=zq (HP.out x jI _ w1 E1.out iJ);rw[qj.out]at HPX;clear jI iJ p0 p1 p2 p3 p4 p5 p6 p7)
  | ((with_reducible refine(HPX.out).mono ?_);rintro r w2 ⟨rfl,bQ⟩))
 go_ret;exact⟨rfl,E1.out.trans bQ⟩
theorem NP{s:By}{n:Int}{l:List T}{p:Nat}(h:(T.mk 2 s n l p).fine=true):s.length<=1000:=by
 rw[T.fine]at h;unfold gZ at h;simp only[awP,awk,awx,aw7]at h;rcases h with h|((h|h)|h)
 exact absurd h.1.1.1 ai;exact h.1.2.2;exact absurd h.1.1.1 ai;exact absurd h.1.1.1 ai
mutual
theorem Et:∀t:T,t.fine=true->1<=(printS t).length/\(printS t).length+1<=1002*t.size
 | .mk k s n l p,h=>by
  have hl:=OI l;have hff:=(jL _ h).1;rw[T.every,awk]at hff;have hn:=(pK hff.1).1;have hz:=T.size_eq (.mk k s n l p);simp only[T.kids]at hz;rcases vH h with⟨h1,h2,h3,h4⟩|⟨h1,h2,h3,h4⟩|⟨h1,h2,h3⟩|⟨h1,h2,h3,h4⟩
  subst h1 h2 h3;have h5:=hl h4;have h6:=J_ l true;refine⟨by simp[printS],?_⟩;rw[printS,if_pos rfl,awr,awl,awr,aw'];omega;subst h1 h2 h3;have h5:=NP h;have h6:=List.length_pos_iff.2 h4;rw[printS,if_neg ai,if_pos rfl];simp at hz;omega
  ·subst h1 h2 h3;have h5:=Lib.itoa_length_le n hn.1 hn.2;have h6:1<=(Lib.itoa n).length:=by unfold Lib.itoa;split;simp;rw[Lib.decDigits_length];unfold Lib.nDigits;split<;>omega
   rw[printS,if_neg ai,if_neg ai,if_pos rfl];simp at hz;omega
  subst h1 h2 h3;have h5:=aaU h4;rw[printS,if_neg ai,if_neg ai,if_neg ai,if_pos rfl];simp at hz;omega
theorem OI:∀l:List T,(∀t∈l,t.fine=true)->(l.map λt=>(printS t).length+1).sum<=1002*(l.map T.size).sum
 | [],_=>by simp
 | a::l,h=>by have h1:=(Et a (h a (awp ..))).2;have h2:=OI l λt ht=>h t (awn _ ht);simp only[awo,aw8];omega
end
theorem wR.size{e:T}(h:wR e):e.size<=(xTree e).size:=by have:=JZ (xTree e);rwa [h.back]at this
mutual
theorem KR{p q:T->Bool}(UK:∀t,p t=true->q t=true):∀t:T,t.every p=true->t.every q=true
 | .mk k s n l o,h=>by rw[T.every,awk]at h|-;exact⟨UK _ h.1,H5 UK l h.2⟩
theorem H5{p q:T->Bool}(UK:∀t,p t=true->q t=true):∀l:List T,T.everys p l=true->T.everys q l=true
 | [],_=>rfl
 | a::l,h=>by rw[T.everys,awk]at h|-;exact⟨KR UK a h.1,H5 UK l h.2⟩
end
theorem wR.fit{e:T}(h:wR e)(hs:(xTree e).size<=10000):ajb e:=⟨h.right,by have:=h.size;omega,KR (λt ht=>by
 unfold cO at ht;rw[awk,aw7,aw7]at ht;rw[aw7];omega) e h.fair⟩
theorem lX(l:List T):(bU l).size=(l.map T.size).sum+1:=by have:=T.size_eq (bU l);simpa[bU,T.kids] using this
theorem TG:∀l:List By,(l.map λ_=>1).sum=l.length
 | []=>rfl
 | a::l=>by rw[awo,aw8,TG l,awr];omega
theorem KT(l:List By):(aU l).size=l.length+1:=by
 unfold aU;rw[lX,awy];have:l.map (T.size ∘ aP)=l.map λ_=>1:=aw1 λs _=>by have:=T.size_eq (aP s);simpa[aP,T.kids] using this
 rw[this,TG]
theorem NQ(k:Int)(nm:By)(es:List T)(cs lf rt:List By)(ag:List Ag)(l:List Pl)(hl:∀p∈l,p.good->(aH p).size<=10000->p.fit):(Pl.mk k nm es cs lf rt ag l).good->(aH (.mk k nm es cs lf rt ag l)).size<=10000->(Pl.mk k nm es cs lf rt ag l).fit:=by
 intro hg hs;rw[Pl.good,Pl.uK]at hg;rw[Pl.fit,Pl.fits_all];rw[aH,vw,lX,awt,axt]at hs;obtain⟨hh,hk⟩:=hg;have yc:∀p∈l,p.fit:=λp hp=>hl p hp (hk p hp) (by
  have h1:=iL (awS (f:=T.size) (awS (f:=aH) hp));omega)
 have yG:l.length<=10000:=by have h1:=jS (l.map aH);rw[awh]at h1;omega
 refine⟨?_,yc⟩;rcases hh with⟨rfl,_,rfl,rfl,rfl,rfl,rfl,_⟩|⟨rfl,_,⟨e,rfl,he⟩,rfl,rfl,rfl,rfl,_⟩|⟨rfl,_,he,UT,_,_,rfl,rfl,rfl,_⟩|⟨rfl,_,rfl,rfl,_,_,rfl,_⟩|⟨rfl,_,rfl,rfl,rfl,rfl,rfl,_⟩|⟨rfl,_,rfl,rfl,rfl,rfl,rfl,_⟩|⟨rfl,_,rfl,rfl,_,rfl,_,_⟩
 exact⟨.inl rfl,(λe h=>by cases h),(λh=>by cases h),aj,aj,aj,aj,yG⟩;have h1:(([aP d_,xTree e]:List T).map T.size).sum+((l.map aH).map T.size).sum+1<=10000:=hs;simp only[awo,awG,aw8,axT]at h1;exact⟨.inr (.inl rfl),(λe' h=>by simp at h;subst h;exact he.fit ae),(λh=>by cases h),aj,aj,aj,aj,yG⟩;have h1:(((aP bT::List.zipWith bM cs es):List T).map T.size).sum+((l.map aH).map T.size).sum+1<=10000:=hs;simp only[awo,aw8]at h1;have h2:=jS (List.zipWith bM cs es);rw[axK]at h2;refine⟨.inr (.inr (.inl rfl)),λe h=>(he e h).fit ?_,λ_=>UT,ae,aj,aj,aj,yG⟩;obtain⟨i,hi⟩:=axw h;have Pg:=(awi.1 hi).1;obtain⟨c,hc⟩:∃c,cs[i]?=some c:=⟨_,awE ae⟩
 have hm:bM c e∈List.zipWith bM cs es:=awm (i:=i) (by rw[List.getElem?_zipWith,hc,hi]);have h3:=iL (awS (f:=T.size) hm);have h4:(bM c e).size=(([aP c,xTree e]:List T).map T.size).sum+1:=lX _;simp only[awo,awG,aw8,axT]at h4;omega;have h1:(([aP gB,aU lf,aU rt]:List T).map T.size).sum+((l.map aH).map T.size).sum+1<=10000:=hs;simp only[awo,awG,aw8,axT,KT]at h1;exact⟨.inr (.inr (.inr (.inl rfl))),(λe h=>by cases h),(λh=>by cases h),aj,ae,ae,aj,yG⟩;exact⟨.inr (.inr (.inr (.inr (.inl rfl)))),(λe h=>by cases h),(λh=>by cases h),aj,aj,aj,aj,yG⟩;exact⟨.inr (.inr (.inr (.inr (.inr (.inl rfl))))),(λe h=>by cases h),(λh=>by cases h),aj,aj,aj,aj,yG⟩;have h1:(((aP dU::aU lf::ag.map eF):List T).map T.size).sum+((l.map aH).map T.size).sum+1<=10000:=hs;simp only[awo,aw8,KT]at h1;have h2:=jS (ag.map eF);rw[awh]at h2;exact⟨.inr (.inr (.inr (.inr (.inr (.inr rfl))))),(λe h=>by cases h),(λh=>by cases h),aj,ae,aj,ae,yG⟩
mutual
theorem Eu:∀p:Pl,p.good->(aH p).size<=10000->p.fit
 | .mk k nm es cs lf rt ag l=>NQ k nm es cs lf rt ag l (OJ l)
theorem OJ:∀l:List Pl,∀p∈l,p.good->(aH p).size<=10000->p.fit
 | []=>λp h=>by cases h
 | a::l=>by intro p h;rcases awq.1 h with h1|h1;rw[h1];exact Eu a;exact OJ l p h1
end
structure WrT(p:Pl):Prop where
 good:p.good
 fit:p.fit
 size:(aH p).size<=601
 len:(printS (aH p)).length<=1000000
 ne:printS (aH p)≠[]
 fits:xQ (aH p)=true
theorem Ew{t:T}(hf:t.fine=true)(hs:t.size<=601)(he:(bf t).1=0):WrT (pPlan t)/\aH (pPlan t)=t.strip:=by obtain⟨h1,h2⟩:=aiL t hf he;have h3:=Et t hf;refine⟨⟨h2,Eu _ h2 (by rw[h1,Dc];omega),by rw[h1,Dc];exact hs,by rw[h1,zT];omega,?_,?_⟩,h1⟩;rw[h1,zT];intro e;rw[e]at h3;simp at h3;rw[h1];exact AA _ (jL _ (by rw[KD];exact hf)).1
structure WrP(p:Pl):Prop where
 wr:WrT p
 deep:(aH p).deep<=12
 abz:(printS (aH p)).length<=600
theorem TI(p:Pl)(h:p.good):((printS (aH p)).length<=600->(aH p).deep<=12->mi (printS (aH p))=(p,0,0))/\
  (600<(printS (aH p)).length->(mi (printS (aH p))).2.1=3)/\((printS (aH p)).length<=600->12<(aH p).deep->(mi (printS (aH p))).2.1=14):=by
 obtain⟨h1,h2,h3⟩:=Ti p h;obtain⟨r1,r2,r3⟩:=Vo (aH p) h3;refine⟨λhl hd=>?_,λhl=>?_,λhl hd=>?_⟩;obtain⟨t',ht,hr⟩:=r2 hl hd;have hp:pPlan t'=p:=by rw[<-Dh,ht,Dh,h1]
 have he:(bf t').1=0:=by rw[<-Gg,ht,Gg,h2]
 unfold mi pFrom;rw[hr];simp only[awZ,if_true,he,hp];rw[if_neg ae];unfold mi;rw[r1 hl];rfl;obtain⟨x,hx⟩:=r3 hl hd;unfold mi;rw[hx];rfl
theorem KU:∀(l:List T) (b:Bool) (t:T),t∈l->(printS t).length<=(printL b l).length
 | [],_,_,h=>by cases h
 | a::l,b,t,h=>by rw[printL,awl,awl];rcases awq.1 h with h1|h1;rw[h1];omega;have:=KU l false t h1;omega
theorem KW(l:List T):(printS (bU l)).length=(printL true l).length+2:=by rw[bU,qM,awr,awl];rfl
theorem vJ(p:Pl):aH p=bU (kF p.kind p.name p.exprs p.cols p.left p.right p.F7++p.kids.map aH):=by
 cases p
 rw[aH,vw];rfl
theorem OL{p:Pl}(h:p.good):∀k∈p.kids,k.good:=by
 cases p
 rw[Pl.good,Pl.uK]at h;exact h.2
mutual
def Pl.sum(f:Pl->Nat):Pl->Nat
 | .mk k nm es cs lf rt ag l=>f (.mk k nm es cs lf rt ag l)+Pl.sums f l
def Pl.sums(f:Pl->Nat):List Pl->Nat
 | []=>0
 | p::l=>p.sum f+Pl.sums f l
end
theorem Pl.TJ(f:Pl->Nat):∀l:List Pl,Pl.sums f l=(l.map (Pl.sum f)).sum
 | []=>by simp[Pl.sums]
 | p::l=>by simp[Pl.sums,Pl.TJ f l]
theorem Pl.agC(f:Pl->Nat)(p:Pl):p.sum f=f p+(p.kids.map (Pl.sum f)).sum:=by
 cases p
 rw[Pl.sum,Pl.TJ];rfl
mutual
theorem KX:∀p:Pl,p.sum (λ_=>1)=p.size
 | .mk k nm es cs lf rt ag l=>by rw[Pl.sum,Pl.size,KZ l];omega
theorem KZ:∀l:List Pl,Pl.sums (λ_=>1) l=Pl.sizes l
 | []=>by simp[Pl.sums,Pl.sizes]
 | p::l=>by rw[Pl.sums,Pl.sizes,KX p,KZ l]
end
theorem Pl.size_eq(p:Pl):p.size=(p.kids.map Pl.size).sum+1:=by
 cases p
 rw[Pl.size,Pl.qK];rfl
theorem Pl.size_pos(p:Pl):1<=p.size:=by rw[Pl.size_eq];omega
def og(p:Pl):Nat:=p.exprs.length+p.cols.length+p.left.length+p.right.length+p.F7.length
theorem yX{α:Type}{f g:α->Nat}:∀l:List α,(∀x∈l,f x<=g x)->(l.map f).sum<=(l.map g).sum
 | [],_=>by simp
 | a::l,h=>by have h1:=h a (awp ..);have h2:=yX l λx hx=>h x (awn _ hx);simp only[awo,aw8];omega
theorem Gq:∀(l:List T) (b:Bool),(∀t∈l,1<=(printS t).length)->(l.map λt=>(printS t).length).sum+l.length<=(printL b l).length+(if b then 1 else 0)
 | [],b,_=>by simp
 | a::l,b,h=>by
  have h2:=Gq l false λt ht=>h t (awn _ ht);rw[printL,awl,awl,awo,aw8,awr]
  cases b<;>simp at h2|-<;>omega
theorem Gs{l:List T}(h:∀t∈l,t.fine=true):∀t∈l,1<=(printS t).length:=λt ht=>(Et t (h t ht)).1
theorem K_{l:List T}(h:∀t∈l,1<=(printS t).length):l.length<=(l.map λt=>(printS t).length).sum:=by
 have:=yX (f:=λ_=>1) l h;have e:∀l:List T,(l.map λ_=>1).sum=l.length:=λl=>by
  induction l with
  | nil=>rfl
  | cons a l ih=>rw[awo,aw8,ih,awr];omega
 rw[e]at this;exact this
theorem oh{l:List T}(h:(bU l).fine=true):∀t∈l,t.fine=true:=by
 rcases vH h with⟨_,_,_,h4⟩|⟨h1,_⟩|⟨h1,_⟩|⟨h1,_⟩
 exact h4;exact absurd h1 ai;exact absurd h1 ai;exact absurd h1 ai
theorem La(l:List By)(h:(aU l).fine=true):l.length+1<=(printS (aU l)).length:=by have h1:=Gq (l.map aP) true (Gs (oh h));have h2:=K_ (Gs (oh h));rw[aU,KW];rw[awh]at h1 h2;simp at h1;omega
theorem abA{p:Pl}(hg:p.good):og p+1+(p.kids.map λk=>(printS (aH k)).length).sum<=(printS (aH p)).length:=by
 obtain⟨_,_,hf⟩:=Ti p hg;rw[vJ p]at hf;have hall:=oh hf;have hpos:=Gs hall;have h1:=Gq _ true hpos;rw[vJ p,KW];rw[awt,axt,awl,awh,awy]at h1;have ek:(p.kids.map ((λt=>(printS t).length) ∘ aH)).sum=(p.kids.map λk=>(printS (aH k)).length).sum:=rfl;rw[ek]at h1;have P5:x8 p.kind p.name p.exprs p.cols p.left p.right p.F7 p.kids.length:=by
  cases p
  rw[Pl.good]at hg;exact hg.1
 have hhead:∀t∈kF p.kind p.name p.exprs p.cols p.left p.right p.F7,1<=(printS t).length:=λt ht=>hpos t (awH _ ht);have Lc:∀t∈kF p.kind p.name p.exprs p.cols p.left p.right p.F7,t.fine=true:=λt ht=>hall t (awH _ ht);have h2:=K_ hhead;simp only[if_true]at h1
 suffices hp:og p<=((kF p.kind p.name p.exprs p.cols p.left p.right p.F7).map λt=>(printS t).length).sum+(kF p.kind p.name p.exprs p.cols p.left p.right p.F7).length by omega
 unfold og;rcases P5 with⟨hk,_,he,hc,hl,hr,ha,_⟩|⟨hk,_,⟨e,he,_⟩,hc,hl,hr,ha,_⟩|⟨hk,_,_,UT,_,_,hl,hr,ha,_⟩|⟨hk,_,he,hc,_,_,ha,_⟩|⟨hk,_,he,hc,hl,hr,ha,_⟩|⟨hk,_,he,hc,hl,hr,ha,_⟩|⟨hk,_,he,hc,_,hr,_,_⟩
 rw[he,hc,hl,hr,ha];simp;rw[he,hc,hl,hr,ha,hk];rw[he,hk]at h2;simp[kF]at h2|-;rw[hl,hr,ha,hk];rw[hk]at h2;have e1:(kF 3 p.name p.exprs p.cols p.left p.right p.F7).length=1+p.cols.length:=by show (aP bT::List.zipWith bM p.cols p.exprs).length=_;rw[awr,axK];omega
 rw[hl,hr,ha]at h2 e1;simp only[aw'];omega;rw[he,hc,ha,hk];rw[hk]at Lc;have f1:=La p.left (Lc _ (by simp[kF]));have f2:=La p.right (Lc _ (by simp[kF]));simp[kF];omega;rw[he,hc,hl,hr,ha];simp;rw[he,hc,hl,hr,ha];simp;rw[he,hc,hr,hk];rw[hk]at Lc;have f1:=La p.left (Lc _ (by simp[kF]));simp[kF];omega
mutual
theorem OM:∀p:Pl,p.good->p.sum (λq=>og q+1)<=(printS (aH p)).length
 | .mk k nm es cs lf rt ag l,hg=>by have h1:=abA hg;have h2:=Ld l (OL hg);rw[Pl.sum];simp only[Pl.kids]at h1;omega
theorem Ld:∀l:List Pl,(∀p∈l,p.good)->Pl.sums (λq=>og q+1) l<=(l.map λk=>(printS (aH k)).length).sum
 | [],_=>by simp[Pl.sums]
 | p::l,h=>by have h1:=OM p (h p (awp ..));have h2:=Ld l λx hx=>h x (awn _ hx);rw[Pl.sums,awo,aw8];omega
end
theorem abB(f g:Pl->Nat):(∀p:Pl,p.sum (λq=>f q+g q)=p.sum f+p.sum g)/\∀l:List Pl,Pl.sums (λq=>f q+g q) l=Pl.sums f l+Pl.sums g l:=by
 have step:∀(N:Nat),(∀p:Pl,p.size<=N->p.sum (λq=>f q+g q)=p.sum f+p.sum g)/\∀l:List Pl,Pl.sizes l<=N->Pl.sums (λq=>f q+g q) l=Pl.sums f l+Pl.sums g l:=by
  intro N
  induction N with
  | zero=>
   refine⟨λp hp=>by have:=Pl.size_pos p;omega,λl hl=>?_⟩
   cases l with
   | nil=>simp[Pl.sums]
   | cons p l=>rw[Pl.sizes]at hl;have:=Pl.size_pos p;omega
  | succ N ih=>
   have hp:∀p:Pl,p.size<=N+1->p.sum (λq=>f q+g q)=p.sum f+p.sum g:=by
    intro p hp
    cases p with
    | mk k nm es cs lf rt ag l=>
     rw[Pl.size]at hp;have:=ih.2 l ae;rw[Pl.sum,Pl.sum,Pl.sum,this];omega
   refine⟨hp,λl=>?_⟩
   induction l with
   | nil=>intro _;simp[Pl.sums]
   | cons p l ihl=>
    intro hl;rw[Pl.sizes]at hl;rw[Pl.sums,Pl.sums,Pl.sums,hp p ae,ihl ae];omega
 exact⟨λp=>(step p.size).1 p (awj _),λl=>(step (Pl.sizes l)).2 l (awj _)⟩
def exA:T:=.mk 1 [97] 0 [] 0
theorem Le{a:Er}(h:a.1≠0):∀l:List Er,l.foldl fO a=a
 | []=>rfl
 | e::l=>by rw[axj,show fO a e=a by unfold fO;simp[h]];exact Le h l
theorem Du{a:Er}:∀l:List Er,(∀e∈l,e.1=0)->l.foldl fO a=a
 | [],_=>rfl
 | e::l,h=>by rw[axj,show fO a e=a by unfold fO;simp[h e (awp ..)]];exact Du l λx hx=>h x (awn _ hx)
theorem vK{l:List Er}{k:Nat}{e:Er}(h0:∀x∈l.take k,x.1=0)(he:l[k]?=some e)(hne:e.1≠0):aT l=e:=by
 obtain⟨hk,hx⟩:=awi.1 he;have hl:l=l.take k++e::l.drop (k+1):=by rw[<-hx,axZ,axf]
 unfold aT;rw[hl,axD,Du _ h0,axj,show fO (0,0) e=e by unfold fO;simp[hne],Le hne]
theorem wY{l:List Er}(h0:∀x∈l,x.1=0):aT l=(0,0):=Du l h0
theorem XL(m:M):G9 m.t=if fK ⟨m.s.toArray⟩ then (m.s,(0,0)) else ([],(20,m.pos)):=by unfold G9 iC dh;rw[M.uJ,M.GK]
theorem Ja(m:M):bF m.t=(G9 m.t).2:=by unfold bF G9;split<;>rfl
def zt(l:List T):List By×Er:=if (aT (l.map bF)).1=0 then (l.map T.s,(0,0)) else ([],aT (l.map bF))
theorem adP{l:List M}(h:∀x∈l,(bF x.t).1=0):zt (l.map M.t)=(l.map M.s,(0,0)):=by unfold zt;rw[if_pos ((gI _).2 λe he=>?_)];rw[awy];congr 1;exact aw1 λx _=>M.uJ x;rw[awy]at he;obtain⟨x,hx,rfl⟩:=awN.1 he;exact h x hx
theorem TL{l:List M}{k:Nat}{x:M}(h:∀y∈l.take k,(bF y.t).1=0)(hx:l[k]?=some x)(hne:(bF x.t).1≠0):zt (l.map M.t)=([],bF x.t):=by
 have hf:aT ((l.map M.t).map bF)=bF x.t:=by refine vK (k:=k) (λe he=>?_) ?_ hne;rw[awy,<-axe]at he;obtain⟨y,hy,rfl⟩:=awN.1 he;exact h y hy;rw[awy,aw5,hx];rfl
 unfold zt;rw[if_neg (by rw[hf];exact hne),hf]
def Qq(R:List By×Er)(w:ak)(e:Ending)(w':ak):Prop:=∃X:fE By,e=.returned (.tuple #[.slice X.A X.l.length X.cap,.int .i64 R.2.1,.int .i64 (R.2.2:Int)])/\X.l=R.1/\bg 1 sc w.heap.size [] w' X/\Ev w w'
theorem Ae(l:List M)(A:Option Addr)(n cap:Nat)(w:ak)(h:Ms w A n cap l)(hn:n<=100000)(hs:∀x∈l,x.s.length<=1000000):
  Calls ax 82 #[.slice A n cap] w (Qq (zt (l.map M.t)) w):=by
 have hcl:=h.le;have hcm:=h.max;have HL:=zq h.len;have H:=zq h;have HRN:=zq (λm (hm:m∈l) w1=>AP m w1 (hs m hm));have kL:Hid (af6 w ↑() [] w):=zq ⟨Ow.nil_ _,Ev.refl _⟩;clear h hs;go_enter func82,ntmps82;go_wp2
 go_loopw [5,6] (λav iv wr=>∃(A1:Option Addr) (cap1 k:Nat),av=.slice A1 k cap1/\iv=↑k/\k<=n/\Hid (∀y∈l.take k,(bF y.t).1=0)/\Hid (af6 w (.slice A1 k cap1) ((l.take k).map M.s) wr)) (λ_ iv _=>n - (intOf iv).toNat)
 case atStart=>exact⟨none,0,0,rfl,rfl,aww _,zq (λy hy=>by simp at hy),kL⟩
 case round=>
  obtain⟨A1,cap1,k,rfl,rfl,hk,HZ,HS⟩:=hrel;by_cases hlt:k<n
  ·obtain⟨x,hx⟩:=H.out.at hlt;obtain⟨b,off,rfl,hb,c0,c1,c2,c3,c4⟩:=Ms.cell (H.out.ev HS.out.ev) hx;unfold M.kv at c3;have iP:=awm hx;have HN:=zq (HRN.out x iP);have hR:=XL x;have hE:=Ja x;rw[hR]at HN hE;have t_:Hid (((l.take k).map M.s).length=k):=zq (by rw[awh,awT,HL.out];omega);have qo:Hid ((l.take (k+1)).map M.s=(l.take k).map M.s++[x.s]/\((bF x.t).1=0->∀y∈l.take (k+1),(bF y.t).1=0)):=zq (by
    obtain⟨hk2,e1⟩:=awi.1 hx;rw[aws hk2,e1,awt];refine⟨rfl,λh0 y hy=>?_⟩;rcases awD.1 hy with h1|h1;exact HZ.out y h1;simp at h1;subst h1;exact h0)
   have HX:=zq hx;have HE:=zq hE;have i1:(0:Int)<=(k:Int):=ae;have i2:(k:Int)<(n:Int):=ae;clear hx iP hR hE;generalize fK ⟨x.s.toArray⟩=q at*
   cases q
   ·simp only[awv,if_false]at HN HE
    go_wp2_with (first
     | ((with_reducible refine(HN.out _).mono ?_);rintro r w1 ⟨rfl,aK⟩))
    go_ret3
    refine⟨fE.nil,?_,?_,bg.nil ..,HS.out.ev.trans aK⟩;rw[TL HZ.out HX.out (by rw[HE.out];simp),HE.out];rfl;rw[TL HZ.out HX.out (by rw[HE.out];simp)];rfl
   simp only[if_true]at HN HE
   go_wp2_with (first
    | ((with_reducible refine(HN.out _).mono ?_);rintro r w1 ⟨rfl,aK⟩;simp only[];have S1:=zq (⟨HS.out.own.ev aK,HS.out.ev.trans aK⟩:af6 w (.slice A1 k cap1) ((l.take k).map M.s) w1))
    | ((show wpList _ _ _ (⟨some 32,_,_,_,_,_⟩::_) _ _);refine aO (o:=⟨some 32,_,_,_,_,_⟩) rfl 22 (.tmp 29) (.tmp 31) rfl qH underlying22 Tryz.I4 rfl rfl (S1.out.own.ev az) ↑w1.heap.size 1 1 [x.s] rfl (Sl.one (et:=9) qH w1 x.s _ rfl) (by rw[t_.out];simp;omega) (by rw[t_.out];simp;omega) (S1.out.ev.trans az).size ?_;intro v2 w2 gV;have E2:Ev w w2:=((But.aV (S1.out.ev.trans az)).then gV.2.1).ev (λk hk=>(S1.out.own.lt (aG.1 hk)).1);obtain⟨A2,cap2,rfl,_,anv⟩:=gV.1.form qH;clear anv;generalize CU:((l.take k).map M.s++[x.s]).length=nn at gV|-;have FQ:Hid (nn=k+1):=zq (by rw[<-CU,awl,t_.out];rfl);clear CU;obtain rfl:=FQ.out))
   go_roundw
   case rel=>exact⟨A2,cap2,k+1,rfl,by go_num,ae,zq (qo.out.2 (by rw[HE.out])),zq ⟨by rw[qo.out.1];exact gV.1,E2⟩⟩
   case measure=>simp[intOf];omega
  obtain rfl:k=n:=ae;have HT:Hid (l.take k=l):=zq (awC (by rw[HL.out];exact awj _));go_wp2
  go_ret3
  have CE:=adP (l:=l) (by have:=HZ.out;rwa [HT.out]at this);obtain⟨X,hXv,wK,yw⟩:=HS.out.own.sle qH;rw[HT.out]at wK;rw[CE];refine⟨X,?_,wK,yw,HS.out.ev⟩;unfold fE.v at hXv;rw[hXv];rfl
theorem Tryz.p_:(Tryz.prog.info? 54).map (·.size)=some 3:=ah
def UW(t:T):Ag×Er:=if (aT (dY t)).1=0 then (kK t,(0,0)) else (([],[],[]),aT (dY t))
theorem abC(a:Er)(h:a.1≠0)(l:List Er):aT (a::l)=a:=vK (k:=0) (λx hx=>by simp at hx) rfl h
theorem agD(a b:Er)(h0:a.1=0)(h:b.1≠0)(l:List Er):aT (a::b::l)=b:=vK (k:=1) (λx hx=>by simp at hx;subst hx;exact h0) rfl h
theorem Lh(a b c:Er)(h0:a.1=0)(h1:b.1=0)(h:c.1≠0)(l:List Er):aT (a::b::c::l)=c:=vK (k:=2) (λx hx=>by simp at hx;rcases hx with rfl|rfl;exact h0;exact h1) rfl h
def OO(R:Ag×Er)(w:ak)(e:Ending)(w':ak):Prop:=e=.returned (.tuple #[.agg #[.string ⟨R.1.1.toArray⟩,.string ⟨R.1.2.1.toArray⟩,.string ⟨R.1.2.2.toArray⟩],.int .i64 R.2.1,.int .i64 (R.2.2:Int)])/\Ev w w'
theorem ae6(w:ak):∃w0,w.alloc (.cells #[.string ⟨#[]⟩,.string ⟨#[]⟩,.string ⟨#[]⟩] 54)=w0/\Ev w w0/\Bx 54 w.heap.size #[.string ⟨#[]⟩,.string ⟨#[]⟩,.string ⟨#[]⟩] w0/\w0.heap.size=w.heap.size+1:=⟨_,rfl,Ev.alloc _ _,Bx.new _ _ _,aj⟩
theorem vM{w w1:ak}{g:Nat}{c0 c1 c2:au}(hg:w.heap.size<=g)(hE:Ev w w1)(hB:Bx 54 g #[c0,c1,c2] w1)(v0 v1 v2:au):Bx 54 g #[v0,v1,v2] (xX g v0 v1 v2 w1)/\Ev w (xX g v0 v1 v2 w1):=⟨hB.xX _ _ _,But.zZ hE (uV g v0 v1 v2 w1) λk hk=>by simp at hk;omega⟩
theorem aAG(h:U:=by refine bodyPost_ret (aI rfl _ _ _ _ _ rfl f1 underlying54 rfl Tryz.p_) rfl ?_;exact⟨rfl,f2⟩):U:=h
theorem ay_(h:U:=by(try simp only[Exit.inBlock,Exit.then]);rw[dw];obtain⟨f1,f2⟩:=vM (w:=w) (awj _) E1.out B1.out (.string ⟨#[]⟩) (.string ⟨#[]⟩) (.string ⟨#[]⟩);exact aAG):U:=h
theorem ayJ(h:U:=by
 go_region
 all_goals (
  go_wp2;(try simp only[Exit.inBlock,Exit.then]);rw[dw];obtain⟨f1,f2⟩:=vM (w:=w) (awj _) (E1.out.trans (Ev.drew _)) (B1.out.ev (Ev.drew _)) (.string ⟨#[]⟩) (.string ⟨#[]⟩) (.string ⟨#[]⟩);refine bodyPost_ret (aI rfl _ _ _ _ _ rfl f1 underlying54 rfl Tryz.p_) rfl ?_;exact⟨rfl,f2⟩
 )):U:=h
theorem adQ(y a b:M)(w:ak)(h:Ms w y.A y.kids.length y.cap y.kids)(hk:y.kids=[a,b])(hs:∀x∈y.kids,x.s.length<=1000000):
  Calls ax 83 #[.slice y.A y.kids.length y.cap] w (OO (UW y.t) w):=by
 have hR:UW y.t=if (aT [bF a.t,if isFun b.s false then (0,0) else (12,b.pos),(0,0)]).1=0 then ((a.s,b.s,[]),(0,0)) else (([],[],[]),aT [bF a.t,if isFun b.s false then (0,0) else (12,b.pos),(0,0)]):=by unfold UW dY kK;rw[M.aZ,hk];simp[at_,M.uJ,M.GK]
 obtain⟨V,hV⟩:∃V,V=UW y.t:=⟨_,rfl⟩
 rw[<-hV];rw[hR]at hV;rw[hk]at h hs|-;have Cb:=zq (λw1=>AP a w1 (hs a aj));have hRA:=XL a;have hEA:=Ja a;have hcl:=h.le;have hcm:=h.max;obtain⟨bb,off,hA,OE,_⟩:=Ms.cell h (i:=0) (x:=a) rfl;rw[hA]at h|-;have oW:=zq (λw1 (hE:Ev w w1)=>Ms.qI (h.ev hE) (i:=0) (x:=a) rfl);have pV:=zq (λw1 (hE:Ev w w1)=>Ms.qI (h.ev hE) (i:=1) (x:=b) rfl);simp only[awW,awM]at oW;simp only[axn]at pV;simp only[awr,aw',awL,Nat.reduceAdd]at hcl|-;obtain⟨w0,hw0,aW,hB0,abD⟩:=ae6 w;have dM:=zq aW;have tV:=zq hB0;obtain⟨⟨p0,p1,p2⟩,q0,q1,q2⟩:=hB0.three;obtain⟨a0,a1,a2,a3,a4⟩:=oW.out _ aW;obtain⟨b0,b1,b2,b3,b4⟩:=pV.out _ aW;rw[hRA]at Cb hEA;rw[hEA]at hV;clear hRA hEA hs h hA aW hB0 hk abD hR;generalize fK ⟨a.s.toArray⟩=qa at*;unfold OO
 cases qa
 ·simp only[awv,if_false]at Cb hV;rw[abC (20,a.pos) aj,if_neg aj]at hV;subst hV;go_enter func83,ntmps83
  go_wp2_with (first
   | ((with_reducible refine(Cb.out _).mono ?_);rintro r w1 ⟨rfl,aK⟩;simp only[];have E1:=zq (dM.out.trans aK);have B1:=zq (tV.out.ev aK);clear aK p0 p1 p2 q0 q1 q2 a0 a1 a2 a3 a4 b0 b1 b2 b3 b4;obtain⟨⟨p0,p1,p2⟩,q0,q1,q2⟩:=B1.out.three;obtain⟨a0,a1,a2,a3,a4⟩:=oW.out _ E1.out;obtain⟨b0,b1,b2,b3,b4⟩:=pV.out _ E1.out))
  exact ay_
 simp only[if_true]at Cb hV;by_cases hc:b.s=fH
 ·have hv2:V=((a.s,fH,[]),(0,0)):=by rw[hV,hc];rfl
  subst hv2;clear hV;rw[hc]at b1 pV;clear hc;unfold fH at*;go_enter func83,ntmps83
  go_wp2_with (first
   | ((with_reducible refine(Cb.out _).mono ?_);rintro r w1 ⟨rfl,aK⟩;simp only[];have E1:=zq (dM.out.trans aK);have B1:=zq (tV.out.ev aK);clear aK p0 p1 p2 q0 q1 q2 a0 a1 a2 a3 a4 b0 b1 b2 b3 b4;obtain⟨⟨p0,p1,p2⟩,q0,q1,q2⟩:=B1.out.three;obtain⟨a0,a1,a2,a3,a4⟩:=oW.out _ E1.out;obtain⟨b0,b1,b2,b3,b4⟩:=pV.out _ E1.out))
  (try simp only[Exit.inBlock,Exit.then]);rw[dw];obtain⟨f1,f2⟩:=vM (w:=w) (awj _) E1.out B1.out ↑a.s (.string ⟨#[99,111,117,110,116]⟩) (.string ⟨#[]⟩);exact aAG
 have hcb:(b.s==fH)=false:=awg.2 hc;have hf:isFun b.s false=false:=by unfold isFun;rw[hcb];split<;>rfl
 have hv2:V=(([],[],[]),(12,b.pos)):=by rw[hV,hf];rfl
 subst hv2;clear hV hf;unfold fH at*;go_enter func83,ntmps83;go_upto_region 5 with (first
  | ((with_reducible refine(Cb.out _).mono ?_);rintro r w1 ⟨rfl,aK⟩;simp only[];have E1:=zq (dM.out.trans aK);have B1:=zq (tV.out.ev aK);clear aK p0 p1 p2 q0 q1 q2 a0 a1 a2 a3 a4 b0 b1 b2 b3 b4;obtain⟨⟨p0,p1,p2⟩,q0,q1,q2⟩:=B1.out.three;obtain⟨a0,a1,a2,a3,a4⟩:=oW.out _ E1.out;obtain⟨b0,b1,b2,b3,b4⟩:=pV.out _ E1.out))
 exact ayJ
theorem ayd(h:U:=by
 simp only[awv,if_false]at Qr hV;rw[Lh (0,0) (0,0) (20,c.pos) rfl rfl aj,if_neg aj]at hV;subst hV
 try unfold ve at*
 try unfold vg at*
 try unfold vk at*
 go_enter func83,ntmps83
 go_wp2_with (first
  | (have hh:=E1.out;(with_reducible refine(Qr.out _).mono ?_);rintro r w2 ⟨rfl,bQ⟩;simp only[];have E2:=zq (E1.out.trans bQ);have B2:=zq (B1.out.ev bQ);clear bQ p0 p1 p2 q0 q1 q2 a0 a1 a2 a3 a4 b0 b1 b2 b3 b4 d0 d1 d2 d3 d4;obtain⟨⟨p0,p1,p2⟩,q0,q1,q2⟩:=B2.out.three;obtain⟨a0,a1,a2,a3,a4⟩:=oW.out _ E2.out;obtain⟨b0,b1,b2,b3,b4⟩:=pV.out _ E2.out;obtain⟨d0,d1,d2,d3,d4⟩:=SL.out _ E2.out)
  | ((with_reducible refine(Cb.out _).mono ?_);rintro r w1 ⟨rfl,aK⟩;simp only[];have E1:=zq (dM.out.trans aK);have B1:=zq (tV.out.ev aK);clear aK p0 p1 p2 q0 q1 q2 a0 a1 a2 a3 a4 b0 b1 b2 b3 b4 d0 d1 d2 d3 d4;obtain⟨⟨p0,p1,p2⟩,q0,q1,q2⟩:=B1.out.three;obtain⟨a0,a1,a2,a3,a4⟩:=oW.out _ E1.out;obtain⟨b0,b1,b2,b3,b4⟩:=pV.out _ E1.out;obtain⟨d0,d1,d2,d3,d4⟩:=SL.out _ E1.out))
 (try simp only[Exit.inBlock,Exit.then]);rw[dw];obtain⟨f1,f2⟩:=vM (w:=w) (awj _) E2.out B2.out (.string ⟨#[]⟩) (.string ⟨#[]⟩) (.string ⟨#[]⟩);exact aAG):U:=h
theorem adR(y a b c:M)(w:ak)(h:Ms w y.A y.kids.length y.cap y.kids)(hk:y.kids=[a,b,c])(hs:∀x∈y.kids,x.s.length<=1000000):
  Calls ax 83 #[.slice y.A y.kids.length y.cap] w (OO (UW y.t) w):=by
 have hR:UW y.t=if (aT [bF a.t,if isFun b.s true then (0,0) else (12,b.pos),bF c.t]).1=0 then ((a.s,b.s,c.s),(0,0)) else (([],[],[]),aT [bF a.t,if isFun b.s true then (0,0) else (12,b.pos),bF c.t]):=by unfold UW dY kK;rw[M.aZ,hk];simp[at_,M.uJ,M.GK]
 obtain⟨V,hV⟩:∃V,V=UW y.t:=⟨_,rfl⟩
 rw[<-hV];rw[hR]at hV;rw[hk]at h hs|-;have Cb:=zq (λw1=>AP a w1 (hs a aj));have Qr:=zq (λw1=>AP c w1 (hs c aj));have hRC:=XL c;have hEC:=Ja c;rw[hRC]at Qr hEC;rw[hEC]at hV;clear hRC hEC;generalize fK ⟨c.s.toArray⟩=qc at*;have hRA:=XL a;have hEA:=Ja a;have hcl:=h.le;have hcm:=h.max;obtain⟨bb,off,hA,OE,_⟩:=Ms.cell h (i:=0) (x:=a) rfl;rw[hA]at h|-;have oW:=zq (λw1 (hE:Ev w w1)=>Ms.qI (h.ev hE) (i:=0) (x:=a) rfl);have pV:=zq (λw1 (hE:Ev w w1)=>Ms.qI (h.ev hE) (i:=1) (x:=b) rfl);have SL:=zq (λw1 (hE:Ev w w1)=>Ms.qI (h.ev hE) (i:=2) (x:=c) rfl);simp only[awW,awM]at oW;simp only[axn]at pV;simp only[awr,aw',awL,Nat.reduceAdd]at hcl|-;obtain⟨w0,hw0,aW,hB0,abD⟩:=ae6 w;have dM:=zq aW;have tV:=zq hB0;obtain⟨⟨p0,p1,p2⟩,q0,q1,q2⟩:=hB0.three;obtain⟨a0,a1,a2,a3,a4⟩:=oW.out _ aW;obtain⟨b0,b1,b2,b3,b4⟩:=pV.out _ aW;obtain⟨d0,d1,d2,d3,d4⟩:=SL.out _ aW;rw[hRA]at Cb hEA;rw[hEA]at hV;clear hRA hEA hs h hA aW hB0 hk abD hR;generalize fK ⟨a.s.toArray⟩=qa at*;unfold OO
 cases qa
 ·simp only[awv,if_false]at Cb hV;rw[abC (20,a.pos) aj,if_neg aj]at hV;subst hV;go_enter func83,ntmps83
  go_wp2_with (first
   | ((with_reducible refine(Cb.out _).mono ?_);rintro r w1 ⟨rfl,aK⟩;simp only[];have E1:=zq (dM.out.trans aK);have B1:=zq (tV.out.ev aK);clear aK p0 p1 p2 q0 q1 q2 a0 a1 a2 a3 a4 b0 b1 b2 b3 b4 d0 d1 d2 d3 d4;obtain⟨⟨p0,p1,p2⟩,q0,q1,q2⟩:=B1.out.three;obtain⟨a0,a1,a2,a3,a4⟩:=oW.out _ E1.out;obtain⟨b0,b1,b2,b3,b4⟩:=pV.out _ E1.out;obtain⟨d0,d1,d2,d3,d4⟩:=SL.out _ E1.out))
  exact ay_
 simp only[if_true]at Cb hV;by_cases Ea:b.s=ve
 ·have hf:isFun b.s true=true:=by rw[Ea];rfl
  rw[hf,if_pos rfl]at hV;have HBS:=zq Ea;rw[Ea]at b1 pV hV;clear hf Ea
  cases qc
  exact ayd;simp only[if_true]at Qr hV;have hv2:V=((a.s,ve,c.s),(0,0)):=by rw[hV];rfl
  subst hv2;clear hV
  try unfold ve at*
  try unfold vg at*
  try unfold vk at*
  go_enter func83,ntmps83
  go_wp2_with (first
   | (have hh:=E1.out;(with_reducible refine(Qr.out _).mono ?_);rintro r w2 ⟨rfl,bQ⟩;simp only[];have E2:=zq (E1.out.trans bQ);have B2:=zq (B1.out.ev bQ);clear bQ p0 p1 p2 q0 q1 q2 a0 a1 a2 a3 a4 b0 b1 b2 b3 b4 d0 d1 d2 d3 d4;obtain⟨⟨p0,p1,p2⟩,q0,q1,q2⟩:=B2.out.three;obtain⟨a0,a1,a2,a3,a4⟩:=oW.out _ E2.out;obtain⟨b0,b1,b2,b3,b4⟩:=pV.out _ E2.out;obtain⟨d0,d1,d2,d3,d4⟩:=SL.out _ E2.out)
   | ((with_reducible refine(Cb.out _).mono ?_);rintro r w1 ⟨rfl,aK⟩;simp only[];have E1:=zq (dM.out.trans aK);have B1:=zq (tV.out.ev aK);clear aK p0 p1 p2 q0 q1 q2 a0 a1 a2 a3 a4 b0 b1 b2 b3 b4 d0 d1 d2 d3 d4;obtain⟨⟨p0,p1,p2⟩,q0,q1,q2⟩:=B1.out.three;obtain⟨a0,a1,a2,a3,a4⟩:=oW.out _ E1.out;obtain⟨b0,b1,b2,b3,b4⟩:=pV.out _ E1.out;obtain⟨d0,d1,d2,d3,d4⟩:=SL.out _ E1.out))
  (try simp only[Exit.inBlock,Exit.then]);rw[dw];obtain⟨f1,f2⟩:=vM (w:=w) (awj _) E2.out B2.out ↑a.s (.string ⟨#[115,117,109]⟩) ↑c.s;exact aAG
 have aje:(b.s==ve)=false:=awg.2 Ea;by_cases Eb:b.s=vg
 ·have hf:isFun b.s true=true:=by rw[Eb];rfl
  rw[hf,if_pos rfl]at hV;have HBS:=zq Eb;rw[Eb]at b1 pV hV;clear hf Eb
  cases qc
  exact ayd;simp only[if_true]at Qr hV;have hv2:V=((a.s,vg,c.s),(0,0)):=by rw[hV];rfl
  subst hv2;clear hV
  try unfold ve at*
  try unfold vg at*
  try unfold vk at*
  go_enter func83,ntmps83
  go_wp2_with (first
   | (have hh:=E1.out;(with_reducible refine(Qr.out _).mono ?_);rintro r w2 ⟨rfl,bQ⟩;simp only[];have E2:=zq (E1.out.trans bQ);have B2:=zq (B1.out.ev bQ);clear bQ p0 p1 p2 q0 q1 q2 a0 a1 a2 a3 a4 b0 b1 b2 b3 b4 d0 d1 d2 d3 d4;obtain⟨⟨p0,p1,p2⟩,q0,q1,q2⟩:=B2.out.three;obtain⟨a0,a1,a2,a3,a4⟩:=oW.out _ E2.out;obtain⟨b0,b1,b2,b3,b4⟩:=pV.out _ E2.out;obtain⟨d0,d1,d2,d3,d4⟩:=SL.out _ E2.out)
   | ((with_reducible refine(Cb.out _).mono ?_);rintro r w1 ⟨rfl,aK⟩;simp only[];have E1:=zq (dM.out.trans aK);have B1:=zq (tV.out.ev aK);clear aK p0 p1 p2 q0 q1 q2 a0 a1 a2 a3 a4 b0 b1 b2 b3 b4 d0 d1 d2 d3 d4;obtain⟨⟨p0,p1,p2⟩,q0,q1,q2⟩:=B1.out.three;obtain⟨a0,a1,a2,a3,a4⟩:=oW.out _ E1.out;obtain⟨b0,b1,b2,b3,b4⟩:=pV.out _ E1.out;obtain⟨d0,d1,d2,d3,d4⟩:=SL.out _ E1.out))
  (try simp only[Exit.inBlock,Exit.then]);rw[dw];obtain⟨f1,f2⟩:=vM (w:=w) (awj _) E2.out B2.out ↑a.s (.string ⟨#[109,105,110]⟩) ↑c.s;exact aAG
 have ajf:(b.s==vg)=false:=awg.2 Eb;by_cases Ec:b.s=vk
 ·have hf:isFun b.s true=true:=by rw[Ec];rfl
  rw[hf,if_pos rfl]at hV;have HBS:=zq Ec;rw[Ec]at b1 pV hV;clear hf Ec
  cases qc
  exact ayd;simp only[if_true]at Qr hV;have hv2:V=((a.s,vk,c.s),(0,0)):=by rw[hV];rfl
  subst hv2;clear hV
  try unfold ve at*
  try unfold vg at*
  try unfold vk at*
  go_enter func83,ntmps83
  go_wp2_with (first
   | (have hh:=E1.out;(with_reducible refine(Qr.out _).mono ?_);rintro r w2 ⟨rfl,bQ⟩;simp only[];have E2:=zq (E1.out.trans bQ);have B2:=zq (B1.out.ev bQ);clear bQ p0 p1 p2 q0 q1 q2 a0 a1 a2 a3 a4 b0 b1 b2 b3 b4 d0 d1 d2 d3 d4;obtain⟨⟨p0,p1,p2⟩,q0,q1,q2⟩:=B2.out.three;obtain⟨a0,a1,a2,a3,a4⟩:=oW.out _ E2.out;obtain⟨b0,b1,b2,b3,b4⟩:=pV.out _ E2.out;obtain⟨d0,d1,d2,d3,d4⟩:=SL.out _ E2.out)
   | ((with_reducible refine(Cb.out _).mono ?_);rintro r w1 ⟨rfl,aK⟩;simp only[];have E1:=zq (dM.out.trans aK);have B1:=zq (tV.out.ev aK);clear aK p0 p1 p2 q0 q1 q2 a0 a1 a2 a3 a4 b0 b1 b2 b3 b4 d0 d1 d2 d3 d4;obtain⟨⟨p0,p1,p2⟩,q0,q1,q2⟩:=B1.out.three;obtain⟨a0,a1,a2,a3,a4⟩:=oW.out _ E1.out;obtain⟨b0,b1,b2,b3,b4⟩:=pV.out _ E1.out;obtain⟨d0,d1,d2,d3,d4⟩:=SL.out _ E1.out))
  (try simp only[Exit.inBlock,Exit.then]);rw[dw];obtain⟨f1,f2⟩:=vM (w:=w) (awj _) E2.out B2.out ↑a.s (.string ⟨#[109,97,120]⟩) ↑c.s;exact aAG
 have ajg:(b.s==vk)=false:=awg.2 Ec;have hf:isFun b.s true=false:=by unfold isFun;rw[aje,ajf,ajg];simp only[Bool.or_false,awv,if_false];split<;>rfl
 rw[hf]at hV;simp only[awv,if_false]at hV;rw[agD (0,0) (12,b.pos) rfl aj,if_neg aj]at hV;subst hV;clear hf Ea Eb Ec
 try unfold ve at*
 try unfold vg at*
 try unfold vk at*
 go_enter func83,ntmps83;go_upto_region 9 with (first
  | ((with_reducible refine(Cb.out _).mono ?_);rintro r w1 ⟨rfl,aK⟩;simp only[];have E1:=zq (dM.out.trans aK);have B1:=zq (tV.out.ev aK);clear aK p0 p1 p2 q0 q1 q2 a0 a1 a2 a3 a4 b0 b1 b2 b3 b4 d0 d1 d2 d3 d4;obtain⟨⟨p0,p1,p2⟩,q0,q1,q2⟩:=B1.out.three;obtain⟨a0,a1,a2,a3,a4⟩:=oW.out _ E1.out;obtain⟨b0,b1,b2,b3,b4⟩:=pV.out _ E1.out;obtain⟨d0,d1,d2,d3,d4⟩:=SL.out _ E1.out))
 exact ayJ
theorem f_.ae7{gr base j:Nat}{r:CR}{v:au}{w:ak}(h:f_ gr base r v w)(hj:r.cols.length=j+1):∃g cap,v=.slice (some ⟨g,0,none⟩) (j+1) cap:=by
 obtain⟨A,cap,hv,hS,hA⟩:=h.own.form nV;rw[hj]at hv hS;obtain⟨b,off,e,_,_⟩:=hS.rd ae;have h2:=(hA _ e).2.2.2.1;injection h2 with _ h3 _
 exact⟨b,cap,by rw[hv,e,h3]⟩
theorem f_.last{gr base g cap n:Nat}{l:List C}{nm s:ByteArray}{k why:Int}{w:ak}{j:Nat}(h:f_ gr base ⟨l++[(nm,k)],why,s⟩ (.slice ↑g n cap) w)(hj:l.length=j):w.cell? ⟨g,j*2+1,none⟩=some ↑k/\w.frozen? ⟨g,j*2+1,none⟩=false:=by
 obtain⟨A,cap2,hv,hS,hA⟩:=h.own.form nV;injection hv with h1 h2 h3
 subst h1;obtain⟨b,off,e,_,k1⟩:=Cs.zM hS (i:=j) (c:=(nm,k)) (by rw[<-hj];simp);injection e with e
 injection e with e1 e2 _
 subst e1 e2;refine⟨by simpa using k1,?_⟩;have:=(hA _ rfl).2.2.2.2 (j*2+1);exact this
theorem agE(w:ak)(c0 c1 c2:au):∃w0,w.alloc (.cells #[c0,c1,c2] 54)=w0/\Ev w w0/\Bx 54 w.heap.size #[c0,c1,c2] w0/\w0.heap.size=w.heap.size+1:=⟨_,rfl,Ev.alloc _ _,Bx.new _ _ _,aj⟩
theorem f_.kinds{gr base g cap:Nat}{why:Int}{nm s:ByteArray}{k k2:Int}{l:List C}{w:ak}{n:Nat}(h:f_ gr base ⟨l++[(nm,k)],why,s⟩ (.slice ↑g n cap) w):
  f_ gr base ⟨l++[(nm,k2)],why,s⟩ (.slice ↑g n cap) (w.setCell ⟨g,l.length*2+1,none⟩ ↑k2):=by
 have hne:gr≠g:=λe=>h.gf (aG.2 (by rw[e];rfl));refine⟨h.box.but (But.setCell (K:=[g]) ⟨g,_,none⟩ _ aj) (by simpa using hne),?_,h.gf⟩;have h1:=h.own.set nV (i:=l.length) (j:=1) (x:=(nm,k)) (x':=(nm,k2)) (u:=↑k2) aj ai rfl;rwa [show (l++[(nm,k)]).set l.length (nm,k2)=l++[(nm,k2)] by rw[List.set_append_right _ _ (awj _)];simp]at h1
theorem CR.Y0(r:CR)(nm:ByteArray)(k:Int):∃why name,∀k2,r.add nm k2=⟨r.cols++[(nm,k2)],why,name⟩:=by
 unfold CR.add;simp only
 cases (fM r.cols nm).isSome
 exact⟨r.why,r.name,λk2=>rfl⟩;refine⟨(r.fail 21 nm).why,(r.fail 21 nm).name,λk2=>?_⟩;simp only[if_true];rw[CR.gQ]
theorem CR.TM(r:CR)(nm:ByteArray)(k k2:Int)(l:List C)(s:ByteArray):∃why name,(r.add nm k).find l s=⟨r.cols++[(nm,k)],why,name⟩/\(r.add nm k2).find l s=⟨r.cols++[(nm,k2)],why,name⟩:=by
 obtain⟨why,name,h⟩:=CR.Y0 r nm k;rw[h k,h k2];unfold CR.find CR.fail
 cases (fM l s).isSome
 simp only[awv,if_false];by_cases hw:why=0;exact⟨20,s,by simp[hw],by simp[hw]⟩;exact⟨why,name,by simp[hw],by simp[hw]⟩;exact⟨why,name,rfl,rfl⟩
theorem azV(h:U:=by simp at hx;rcases hx with rfl|rfl;exact .inl (awp ..);rcases Lj.out _ rfl with h1|h1;exact .inl (awn _ (aG.2 h1));exact .inr h1):U:=h
theorem ax5(h:U:=by
 refine jq fD (λu=>But [gr,g] w1 u/\u.cell? ⟨gr,0,none⟩=some (.slice ↑g (j+1) cap1)) (But [gr,g]) [14,17] (λp u=>f_ gr base (if p=0 then r.add ⟨a.1.toArray⟩ 1 else if p=1 then (r.add ⟨a.1.toArray⟩ 1).find kid ⟨a.2.2.toArray⟩ else (r.add ⟨a.1.toArray⟩ (dS kid ⟨a.2.2.toArray⟩)).find kid ⟨a.2.2.toArray⟩) (.slice ↑g (j+1) cap1) u) [λv _=>v=.pointer ↑gr,λv _=>v=.pointer ↑gr,λv _=>v=.pointer ↑gr,λv _=>v=.slice ↑g (j+1) cap1,λv _=>v=.pointer ↑gr,λv _=>v=.pointer ↑gr,λv _=>v=.pointer ↑gr,λv _=>v=.slice ↑g (j+1) cap1,λv _=>v=.int .i64 ((j:Int)+1),λv _=>v=↑j,λv _=>v=.pointer ↑gr,λv _=>v=.slice A n cap,λv _=>v=.pointer (some ⟨w.heap.size,2,none⟩),λv _=>v=.string ⟨a.2.2.toArray⟩,λv _=>v=.int .i64 (dS kid ⟨a.2.2.toArray⟩),λv _=>v=.pointer ↑(g,j*2),λv _=>v=.pointer ↑(g,j*2+1),λ_ _=>True]
  44 2 rfl ah ⟨aB _,aB _,aB _,aB _,aB _,aB _,aB _,aB _,aB _,aB _,aB _,aB _,aB _,aB _,aB _,aB _,aB _,fB,trivial⟩ ⟨λ_ _ _ _ h=>h,λ_ _ _ _ h=>h,λ_ _ _ _ h=>h,λ_ _ _ _ h=>h,λ_ _ _ _ h=>h,λ_ _ _ _ h=>h,λ_ _ _ _ h=>h,λ_ _ _ _ h=>h,λ_ _ _ _ h=>h,λ_ _ _ _ h=>h,λ_ _ _ _ h=>h,λ_ _ _ _ h=>h,λ_ _ _ _ h=>h,λ_ _ _ _ h=>h,λ_ _ _ _ h=>h,λ_ _ _ _ h=>h,λ_ _ _ _ h=>h,λ_ _ _ _ h=>h,trivial⟩ ah (λ_ _ _ hE h=>h.ev hE) (λu u' hE h=>⟨h.1.then (But.aV hE),(hE.cell (p:=⟨gr,0,none⟩) (awz HGL.out h.1.size)).trans h.2⟩) (⟨But.refl _ _,mY.out.box.cell 0⟩) (mY.out) ah ?_ ?_ ?_
 ·refine aN 0 ?_ (aN 1 ?_ (aN 2 ?_ (aN 3 ?_ (aN 4 ?_ (aN 5 ?_ (aN 6 ?_ (aN 7 ?_ (aN 8 ?_ (aN 9 ?_ (aN 10 ?_ (aN 11 ?_ (aN 12 ?_ (aN 13 ?_ (bZ 14 ai (aN 15 ?_ (aN 16 ?_ (bZ 17 ai (oC 18))))))))))))))))));exact aA'
  ·refine aQ λa_ wq c=>⟨(ay rfl),.pointer ↑gr,?_,rfl⟩
   have bD:a_.eval (.tmp 27)=.pointer ↑gr:=(c.new 0 27)
   generalize a_.eval=ρ at bD|-;simp[execOp,bD,go_sem]
  ·refine aQ λa_ wq c=>⟨(ay rfl),.pointer ↑gr,?_,rfl⟩
   have bD:a_.eval (.tmp 28)=.pointer ↑gr:=(c.new 1 28)
   generalize a_.eval=ρ at bD|-;simp[execOp,bD,go_sem]
  ·refine aQ λa_ wq c=>⟨(ay rfl),.slice ↑g (j+1) cap1,?_,rfl⟩
   have bD:a_.eval (.tmp 29)=.pointer ↑gr:=(c.new 2 29)
   have hc:=c.inv.2;generalize a_.eval=ρ at bD|-;simp[execOp,bD,hc,go_sem]
  exact aA'
  ·refine aQ λa_ wq c=>⟨(ay rfl),.pointer ↑gr,?_,rfl⟩
   have bD:a_.eval (.tmp 31)=.pointer ↑gr:=(c.new 4 31)
   generalize a_.eval=ρ at bD|-;simp[execOp,bD,go_sem]
  ·refine aQ λa_ wq c=>⟨(ay rfl),.pointer ↑gr,?_,rfl⟩
   have bD:a_.eval (.tmp 32)=.pointer ↑gr:=(c.new 5 32)
   generalize a_.eval=ρ at bD|-;simp[execOp,bD,go_sem]
  ·refine aQ λa_ wq c=>⟨(ay rfl),.slice ↑g (j+1) cap1,?_,rfl⟩
   have bD:a_.eval (.tmp 33)=.pointer ↑gr:=(c.new 6 33)
   have hc:=c.inv.2;generalize a_.eval=ρ at bD|-;simp[execOp,bD,hc,go_sem]
  ·refine aQ λa_ wq c=>⟨(ay rfl),.int .i64 ((j:Int)+1),?_,rfl⟩
   have bD:a_.eval (.tmp 34)=.slice ↑g (j+1) cap1:=(c.new 7 34)
   generalize a_.eval=ρ at bD|-;simp[bD,go_sem]
  ·refine aQ λa_ wq c=>⟨(ay rfl),↑j,?_,rfl⟩
   have bD:a_.eval (.tmp 35)=.int .i64 ((j:Int)+1):=(c.new 8 35)
   have lh:a_.eval (.const (.int .i64 1))=.int .i64 1:=rfl;generalize a_.eval=ρ at bD lh|-;simp[execOp,bD,lh,go_sem,hj1]
  exact aA';refine aQ λa w c=>⟨(ay rfl),_,run_move _ rfl w,(c.was 2 rfl)⟩
  ·refine aQ λa_ wq c=>⟨(ay rfl),.pointer (some ⟨w.heap.size,2,none⟩),?_,rfl⟩
   have bD:a_.eval (.tmp 4)=.pointer ↑w.heap.size:=(c.was 4 rfl)
   generalize a_.eval=ρ at bD|-;simp[execOp,bD,go_sem]
  ·refine aQ λa_ wq c=>⟨(ay rfl),.string ⟨a.2.2.toArray⟩,?_,rfl⟩
   have bD:a_.eval (.tmp 39)=.pointer (some ⟨w.heap.size,2,none⟩):=(c.new 12 39)
   have hc:=(HBW.out wq c.inv.1).cell 2;have hc:wq.cell? ⟨w.heap.size,2,none⟩=some (.string ⟨a.2.2.toArray⟩):=hc;generalize a_.eval=ρ at bD|-;simp[execOp,bD,hc,go_sem]
  ·refine aQ λa_ wq c=>⟨(ay rfl),.pointer ↑(g,j*2),?_,rfl⟩
   have bD:a_.eval (.tmp 30)=.slice ↑g (j+1) cap1:=(c.new 3 30)
   have mQ:a_.eval (.tmp 36)=↑j:=(c.new 9 36)
   generalize a_.eval=ρ at bD mQ|-;simp[execOp,bD,mQ,go_sem,hj2]
  refine aQ λa_ wq c=>⟨(ay rfl),.pointer ↑(g,j*2+1),?_,rfl⟩
  have bD:a_.eval (.tmp 42)=.pointer ↑(g,j*2):=(c.new 15 42)
  generalize a_.eval=ρ at bD|-;simp[execOp,bD,go_sem]
 ·refine gG 0 rfl ?_ (gG 1 rfl ?_ (pU 2));refine ny λa_ wq c st=>⟨ay rfl,71,#[.pointer ↑gr,.slice A n cap,.string ⟨a.2.2.toArray⟩],?_,?_⟩
  rw[bC 71 _ _ rfl ah];have bD:a_.eval (.tmp 37)=.pointer ↑gr:=(c.new 10 37)
  have mQ:a_.eval (.tmp 38)=.slice A n cap:=(c.new 11 38)
  have e_2:a_.eval (.tmp 40)=.string ⟨a.2.2.toArray⟩:=(c.new 13 40)
  simp[bD,mQ,e_2];refine(HFF.out _ wq st (HBK.out wq c.inv.1)).mono ?_;rintro e wp ⟨rfl,hR2,hB2⟩;have qB:But [gr,g] wq wp:=hB2.wide λk hk=>.inl (by simp at hk;simp[hk]);exact⟨_,rfl,qB,⟨c.inv.1.then qB,hR2.box.cell 0⟩,hR2,rfl⟩;refine uN rfl λa_ wq c st=>?_;have bD:a_.eval (.tmp 43)=.pointer ↑(g,j*2+1):=(c.new 16 43)
  have mQ:a_.eval (.tmp 41)=.int .i64 (dS kid ⟨a.2.2.toArray⟩):=(c.new 14 41)
  have hst:f_ gr base ⟨r.cols++[(⟨a.1.toArray⟩,1)],y1,s1⟩ (.slice ↑g (j+1) cap1) wq:=HF1.out▸st;obtain⟨hc,hfz⟩:=hst.last HJ.out;refine⟨ay rfl,wq.setCell ⟨g,j*2+1,none⟩ (.int .i64 (dS kid ⟨a.2.2.toArray⟩)),?_,But.setCell _ _ aj,⟨c.inv.1.then (But.setCell _ _ aj),?_⟩,?_,trivial⟩
  ·generalize a_.eval=ρ at bD mQ|-;simp[execOp,bD,mQ,go_sem,hc,hfz]
  have hk:=hst.kinds (k2:=dS kid ⟨a.2.2.toArray⟩);rw[HJ.out]at hk;exact hk.box.cell 0;have hk:=hst.kinds (k2:=dS kid ⟨a.2.2.toArray⟩);rw[HJ.out]at hk;show f_ gr base ((r.add ⟨a.1.toArray⟩ (dS kid ⟨a.2.2.toArray⟩)).find kid ⟨a.2.2.toArray⟩) _ _;rw[Vw.out];exact hk
 intro sl w9 hI hold hnew hst;have f0:sl 0=.pointer ↑gr:=hold 0;have f2:sl 2=.slice A n cap:=hold 2;have f4:sl 4=.pointer ↑w.heap.size:=hold 4;have f43:sl 43=.pointer ↑(g,j*2+1):=hnew 16 43;change Exit.inBlock _ _ .normal ⟨_,_⟩ _;simp only[List.range,List.range.loop,List.map];simp only[f0,f2,f4,f43];clear hold hnew;go_wp2;go_end0;exact⟨rfl,_,hst,(But.aV dM.out).then (HBK.out w9 hI.1),λg' hg=>(Lj.out g' hg).imp_right λh=>awJ dM.out.size h⟩):U:=h
theorem agF(gr base:Nat)(r:CR)(v:au)(a:Ag)(kid:List C)(A:Option Addr)(n cap:Nat)(w:ak)(h:f_ gr base r v w)(hl:r.cols.length<=100000)(hb:base<=w.heap.size)(hC:Cs w A n cap kid)(hK:∀ad,A=some ad->ad.block∉gr::foot v)(hAl:∀ad,A=some ad->ad.block<w.heap.size):
  Calls ax 74 #[.pointer ↑gr,.agg #[.string ⟨a.1.toArray⟩,.string ⟨a.2.1.toArray⟩,.string ⟨a.2.2.toArray⟩],.slice A n cap] w (CX gr base (r.agg kid a) v w):=by
 have fD:Tryz.prog.follows .mixedOrders=true:=ah;obtain⟨w0,hw0,aW,hB0,hs0⟩:=agE w (.string ⟨a.1.toArray⟩) (.string ⟨a.2.1.toArray⟩) (.string ⟨a.2.2.toArray⟩);have HA1:=zq (P_ gr base r v (dh a.1) 1 w0 (h.ev aW) hl (awJ hb aW.size));have P5:=h.box.lt;have HFF:=λ(v':au) (w1:ak) (hR:f_ gr base (r.add (dh a.1) 1) v' w1) (hb1:But (gr::foot v) w0 w1)=>I5 gr base (r.add (dh a.1) 1) v' kid A n cap (dh a.2.2) w1 hR ((hC.ev aW).but hb1 hK);have HFW:=λ(v':au) (w1:ak) (hR:f_ gr base ((r.add (dh a.1) 1).find kid (dh a.2.2)) v' w1)=>nM gr base ((r.add (dh a.1) 1).find kid (dh a.2.2)) v' 22 (dh a.2.2) w1 hR;unfold dh CX at HA1;unfold dh at HFF HFW;have HFF:=zq HFF;have HFW:=zq HFW;have dM:=zq aW;have tV:=zq hB0;have hgf:w.heap.size∉gr::foot v:=by intro hm;rcases awq.1 hm with e|e;omega;have:=(h.own.lt (aG.1 e)).2;omega
 have HGF:=zq hgf;obtain⟨⟨c0,c1,c2⟩,_⟩:=hB0.three;have hAg:CR.agg r kid a=if a.2.1==ve then (if dS kid ⟨a.2.2.toArray⟩=1 then (r.add ⟨a.1.toArray⟩ 1).find kid ⟨a.2.2.toArray⟩ else ((r.add ⟨a.1.toArray⟩ 1).find kid ⟨a.2.2.toArray⟩).fail 22 ⟨a.2.2.toArray⟩) else if a.2.1==vg||a.2.1==vk then (r.add ⟨a.1.toArray⟩ (dS kid ⟨a.2.2.toArray⟩)).find kid ⟨a.2.2.toArray⟩ else r.add ⟨a.1.toArray⟩ 1:=rfl;rw[hAg];clear h hC aW hB0 hs0 hgf hAg;generalize ha2:a.2.1=f2 at*;clear ha2;unfold ve vg vk
 cases hsm:(f2==([115,117,109]:By))
 ·have atv:¬f2=[115,117,109]:=by simpa using hsm
  cases hmn:(f2==([109,105,110]:By))
  ·have atw:¬f2=[109,105,110]:=by simpa using hmn
   cases hmx:(f2==([109,97,120]:By))
   ·have agG:¬f2=[109,97,120]:=by simpa using hmx
    simp only[awv,if_false,Bool.or_self];go_enter func74,ntmps74
    go_wp2_with (first
     | ((with_reducible refine(HA1.out).mono ?_);rintro e w1 ⟨rfl,v1,hR1,hB1,hS1⟩;have mY:=zq hR1;have uG:=zq hB1;have Lj:=zq hS1;clear c0 c1 c2;obtain⟨⟨c0,c1,c2⟩,_⟩:=(tV.out.but hB1 HGF.out).three;clear hR1 hB1 hS1))
    go_end0;exact⟨rfl,v1,mY.out,(But.aV dM.out).then uG.out,λg hg=>(Lj.out g hg).imp_right λh=>awJ dM.out.size h⟩
   obtain rfl:f2=[109,97,120]:=by simpa using hmx
   simp only[awv,if_false,if_true,Bool.or_true];obtain⟨j,hj⟩:∃j,r.cols.length=j:=⟨_,rfl⟩
   have HJ:=zq hj;obtain⟨y1,s1,hf1,hf2⟩:=CR.TM r ⟨a.1.toArray⟩ 1 (dS kid ⟨a.2.2.toArray⟩) kid ⟨a.2.2.toArray⟩;have HF1:=zq hf1;have Vw:=zq hf2;have hjl:j<=100000:=hj▸hl;have hj1:IntKind.i64.wrap (j:Int)=(j:Int):=IntWalk.i64_in _ ae;have hj2:((j:Int)+1<=(j:Int))=False:=eq_false ae;clear hj hf1 hf2;go_enter func74,ntmps74;go_upto_region 8 with (first
    | ((with_reducible refine(HA1.out).mono ?_);rintro e w1 ⟨rfl,v1,hR1,hB1,hS1⟩;obtain⟨g,cap1,rfl⟩:=hR1.ae7 (j:=j) (by rw[CR.jV,awl,HJ.out];rfl);have mY:=zq hR1;have uG:=zq hB1;have Lj:=zq hS1;have HGL:=zq hR1.box.lt;clear c0 c1 c2;obtain⟨⟨c0,c1,c2⟩,_⟩:=(tV.out.but hB1 HGF.out).three;clear hR1 hB1 hS1))
   have HBK:Hid (∀u,But [gr,g] w1 u->But (gr::foot v) w0 u):=zq λu hb1=>uG.out.trans hb1 λx hx=>by exact azV
   have HBW:Hid (∀u,But [gr,g] w1 u->Bx 54 w.heap.size #[.string ⟨a.1.toArray⟩,.string ⟨#[109,97,120]⟩,.string ⟨a.2.2.toArray⟩] u):=zq λu hb1=>tV.out.but (HBK.out u hb1) HGF.out;exact ax5
  obtain rfl:f2=[109,105,110]:=by simpa using hmn
  simp only[awv,if_false,if_true,Bool.true_or];obtain⟨j,hj⟩:∃j,r.cols.length=j:=⟨_,rfl⟩
  have HJ:=zq hj;obtain⟨y1,s1,hf1,hf2⟩:=CR.TM r ⟨a.1.toArray⟩ 1 (dS kid ⟨a.2.2.toArray⟩) kid ⟨a.2.2.toArray⟩;have HF1:=zq hf1;have Vw:=zq hf2;have hjl:j<=100000:=hj▸hl;have hj1:IntKind.i64.wrap (j:Int)=(j:Int):=IntWalk.i64_in _ ae;have hj2:((j:Int)+1<=(j:Int))=False:=eq_false ae;clear hj hf1 hf2;go_enter func74,ntmps74;go_upto_region 8 with (first
   | ((with_reducible refine(HA1.out).mono ?_);rintro e w1 ⟨rfl,v1,hR1,hB1,hS1⟩;obtain⟨g,cap1,rfl⟩:=hR1.ae7 (j:=j) (by rw[CR.jV,awl,HJ.out];rfl);have mY:=zq hR1;have uG:=zq hB1;have Lj:=zq hS1;have HGL:=zq hR1.box.lt;clear c0 c1 c2;obtain⟨⟨c0,c1,c2⟩,_⟩:=(tV.out.but hB1 HGF.out).three;clear hR1 hB1 hS1))
  have HBK:Hid (∀u,But [gr,g] w1 u->But (gr::foot v) w0 u):=zq λu hb1=>uG.out.trans hb1 λx hx=>by exact azV
  have HBW:Hid (∀u,But [gr,g] w1 u->Bx 54 w.heap.size #[.string ⟨a.1.toArray⟩,.string ⟨#[109,105,110]⟩,.string ⟨a.2.2.toArray⟩] u):=zq λu hb1=>tV.out.but (HBK.out u hb1) HGF.out;exact ax5
 obtain rfl:f2=[115,117,109]:=by simpa using hsm
 simp only[if_true];by_cases hk:dS kid ⟨a.2.2.toArray⟩=1
 ·rw[if_pos hk];rw[hk]at HFF;go_enter func74,ntmps74
  go_wp2_with (first
   | ((with_reducible refine(HA1.out).mono ?_);rintro e w1 ⟨rfl,v1,hR1,hB1,hS1⟩;have mY:=zq hR1;have uG:=zq hB1;have Lj:=zq hS1;clear c0 c1 c2;obtain⟨⟨c0,c1,c2⟩,_⟩:=(tV.out.but hB1 HGF.out).three;have HF3:=zq (HFF.out _ _ hR1 hB1);clear hR1 hB1 hS1)
   | ((with_reducible refine(HF3.out).mono ?_);rintro e w2 ⟨rfl,hR2,hB2⟩))
  go_end0;exact⟨rfl,v1,hR2,(But.aV dM.out).then (uG.out.then (hB2.wide λk hk=>.inl (by simp at hk;subst hk;exact awp ..))),λg hg=>(Lj.out g hg).imp_right λh=>awJ dM.out.size h⟩
 rw[if_neg hk];have hkb:(dS kid ⟨a.2.2.toArray⟩==1)=false:=awg.2 hk;have hkn:(dS kid ⟨a.2.2.toArray⟩ !=1)=true:=by simp[hk]
 go_enter func74,ntmps74
 go_wp2_with (first
  | ((with_reducible refine(HA1.out).mono ?_);rintro e w1 ⟨rfl,v1,hR1,hB1,hS1⟩;have mY:=zq hR1;have uG:=zq hB1;have Lj:=zq hS1;clear c0 c1 c2;obtain⟨⟨c0,c1,c2⟩,_⟩:=(tV.out.but hB1 HGF.out).three;have HF3:=zq (HFF.out _ _ hR1 hB1);clear hR1 hB1 hS1)
  | ((with_reducible refine(HF3.out).mono ?_);rintro e w2 ⟨rfl,hR2,hB2⟩;have uX:=zq hR2;have EX:=zq (uG.out.then (hB2.wide λk hk=>.inl (by simp at hk;subst hk;exact awp ..)));clear c0 c1 c2;obtain⟨⟨c0,c1,c2⟩,_⟩:=(tV.out.but EX.out HGF.out).three;have HF4:=zq (HFW.out _ _ hR2);clear hR2 hB2)
  | ((with_reducible refine(HF4.out).mono ?_);rintro e w3 ⟨rfl,OQ,qB⟩))
 go_end0;exact⟨rfl,v1,OQ,(But.aV dM.out).then (EX.out.then (qB.wide λk hk=>.inl (by simp at hk;subst hk;exact awp ..))),λg hg=>(Lj.out g hg).imp_right λh=>awJ dM.out.size h⟩
theorem Tryz.eX:(Tryz.prog.info? 58).map (·.size)=some 3:=ah
def jX(base:Nat)(va:au)(r:CR)(w:ak)(e:Ending)(w':ak):Prop:=∃v,e=.returned (.agg #[v,↑r.why,.string r.name])/\Ow 50 2 dZ base w' v r.cols/\But (foot va) w w'/\fF w va v
theorem lV{w w0 wl:ak}{gr g base:Nat}{r:CR}{va v c0 c1 c2:au}(hE:Ev w w0)(hB:Bx 58 g #[c0,c1,c2] w0)(h:f_ gr base r v wl)(hb:But (gr::foot va) w0 wl)(hS:fF w0 va v)(H6:∀k∈foot va,k<w.heap.size)(hg:w.heap.size<=g)(hgr:w.heap.size<=gr)(hne:g≠gr):
  Bx 58 g #[v,↑r.why,.string r.name] (xX g v ↑r.why (.string r.name) wl)/\jX base va r w (.returned (.agg #[v,↑r.why,.string r.name])) (xX g v ↑r.why (.string r.name) wl):=by
 have P5:=hB.lt;have hga:g∉gr::foot va:=λhm=>by rcases awq.1 hm with e|e;exact hne e;have:=H6 g e;omega
 have hgv:g∉foot v:=λhm=>by rcases hS g (aG.1 hm) with h1|h1;have:=H6 g (aG.2 h1);omega;omega
 have ER:=uV g v ↑r.why (.string r.name) wl;refine⟨(hB.but hb hga).xX _ _ _,v,rfl,h.own.but ER λk hk=>by simp;intro e;exact hgv (aG.2 (e▸hk)),?_,λk hk=>(hS k hk).imp_right λh1=>awJ hE.size h1⟩;have h1:But (foot va) w wl:=(But.aV hE).trans hb λx hx=>by rcases awq.1 hx with rfl|hx;exact .inr hgr;exact .inl hx
 exact h1.trans ER λx hx=>by simp at hx;subst hx;exact .inr hg
theorem f_.new{w:ak}{base:Nat}{v:au}{l:List C}(h:Ow 50 2 dZ base w v l)(hv:∀k∈foot v,k<w.heap.size):f_ w.heap.size base (CR.of l) v (w.alloc (.cells #[v,.int .i64 0,.string ⟨#[]⟩] 58)):=
 ⟨Bx.new _ _ _,h.ev az,λhm=>by have:=hv _ hm;omega⟩
theorem pX{w:ak}{base:Nat}{v:au}{l:List C}(h:Ow 50 2 dZ base w v l):∀k∈foot v,k<w.heap.size:=λk hk=>(h.lt (aG.1 hk)).2
theorem Ey(w:ak)(T1:TypeId)(cs:Array au):∃w0,(w.alloc (.cells cs T1)).alloc (.cells ↑Zz.d 58)=w0/\Ev w w0/\Bx T1 w.heap.size cs w0/\Bx 58 (w.heap.size+1) ↑Zz.d w0/\w0.heap.size=w.heap.size+2:=by
 have hB:Bx 58 (w.heap.size+1) ↑Zz.d ((w.alloc (.cells cs T1)).alloc (.cells ↑Zz.d 58)):=by have:=Bx.new 58 ↑Zz.d (w.alloc (.cells cs T1));simpa using this
 exact⟨_,rfl,(Ev.alloc w _).trans az,(Bx.new T1 cs w).ev az,hB,aj⟩
theorem aAO(h:U:=by refine bodyPost_ret (aS rfl _ _ _ _ _ rfl f1 underlying58 rfl Tryz.eX) rfl ?_;exact f2):U:=h
theorem Y1(base:Nat)(va:au)(kid:List C)(m:M)(b0:Nat)(w:ak)(h:Ow 50 2 dZ base w va kid)(hL:Lx b0 [] w m)(hsz:m.t.size<=16000)(hf:m.t.every (λt=>decide (t.s.length<=1000000))=true):
  Calls ax 33 #[.agg ↑(m,()),va] w (jX base va (sG m.t kid) w):=by
 obtain⟨A,cap,rfl,hC⟩:∃A cap,va=.slice A kid.length cap/\Cs w A kid.length cap kid:=by obtain⟨A,cap,hv,hS,_⟩:=h.form nV;exact⟨A,cap,hv,hS⟩
 have H6:=pX h;obtain⟨w0,hw0,aW,hBe,Jb,hs0⟩:=Ey w 47 ↑(m,());have Ll:=f_.new (h.ev aW) (λk hk=>by have:=H6 k hk;have:=aW.size;omega);have aK:=Ev.alloc w0 (.cells #[.slice A kid.length cap,.int .i64 0,.string ⟨#[]⟩] 58);have HK:=Xy w0.heap.size base (CR.of kid) (.slice A kid.length cap) m b0 kid A kid.length cap _ Ll (hL.ev (aW.trans aK)) (hC.ev (aW.trans aK)) hsz hf;have dM:=zq aW;have Wh:=zq H6;have jP:=zq (Jb.ev aK);obtain⟨⟨c0,c1,c2,c3⟩,_⟩:=(hBe.ev aK).four;have HK:=zq HK;unfold sG;simp only;generalize hr:(CR.of kid).kind kid m.t=R1 at*;generalize hk:(xType kid m.t).1=K1 at*;have HF:=zq (λw2 (hR:f_ w0.heap.size base R1 (.slice A kid.length cap) w2)=>nM w0.heap.size base R1 (.slice A kid.length cap) 22 ⟨#[]⟩ w2 hR);have hs1:w0.heap.size=w.heap.size+2:=hs0;have kL:=zq hs1;clear h hL hC Ll hBe Jb aW aK H6 hr hk hsz hf hs0 hs1;generalize kid.length=kl at*;by_cases hK:K1=1
 ·subst hK;rw[if_pos rfl];go_enter func33,ntmps33
  go_wp2_with (first
   | ((with_reducible refine(HK.out).mono ?_);rintro e w1 ⟨rfl,hR1,hB1⟩;have mY:=zq hR1;have uG:=zq hB1;obtain⟨⟨d0,d1,d2⟩,_⟩:=hR1.box.three;obtain⟨⟨q0,q1,q2⟩,z0,z1,z2⟩:=(jP.out.but hB1 (by have:=kL.out;simp;omega)).three;clear hR1 hB1 c0 c1 c2 c3))
  (try simp only[Exit.inBlock,Exit.then]);rw[dw];obtain⟨f1,f2⟩:=lV (dM.out.trans az) jP.out mY.out (uG.out.wide λk hk=>.inl (by simp at hk;subst hk;exact awp ..)) (λg hg=>.inl hg) Wh.out ae (by have:=kL.out;omega) (by have:=kL.out;omega);exact aAO
 rw[if_neg hK];have hKb:(K1==1)=false:=awg.2 hK;have hKn:(K1 !=1)=true:=by simp[hK]
 go_enter func33,ntmps33
 go_wp2_with (first
  | ((with_reducible refine(HK.out).mono ?_);rintro e w1 ⟨rfl,hR1,hB1⟩;have mY:=zq hR1;have uG:=zq hB1;clear hR1 hB1 c0 c1 c2 c3)
  | ((with_reducible refine(HF.out _ mY.out).mono ?_);rintro e w2 ⟨rfl,hR2,hB2⟩;have uX:=zq hR2;have EX:=zq (uG.out.then hB2);obtain⟨⟨d0,d1,d2⟩,_⟩:=hR2.box.three;obtain⟨⟨q0,q1,q2⟩,z0,z1,z2⟩:=(jP.out.but EX.out (by have:=kL.out;simp;omega)).three;clear hR2 hB2))
 (try simp only[Exit.inBlock,Exit.then]);rw[dw];obtain⟨f1,f2⟩:=lV (dM.out.trans az) jP.out uX.out (EX.out.wide λk hk=>.inl (by simp at hk;subst hk;exact awp ..)) (λg hg=>.inl hg) Wh.out ae (by have:=kL.out;omega) (by have:=kL.out;omega);exact aAO
theorem abE(d:DM)(nm:By)(gb:Nat)(w:ak)(hB:w.cell? ⟨gb,0,none⟩=some ↑nm)(hlt:gb<w.heap.size):
  Calls ax 65 #[.agg #[↑d.name,.slice d.A d.cols.length d.cap],.pointer ↑gb] w λe w'=>e=.returned (.bool (d.name==nm))/\Ev w w':=by
 have hE:=Ev.alloc w (.cells #[↑d.name,.slice d.A d.cols.length d.cap] 42);have hX:=Bx.new 42 #[↑d.name,.slice d.A d.cols.length d.cap] w;have c0:=hX.cell 0;have c0:(w.alloc (.cells #[↑d.name,.slice d.A d.cols.length d.cap] 42)).cell? ⟨w.heap.size,0,none⟩=some ↑d.name:=c0;have n0:=(hE.cell (p:=⟨gb,0,none⟩) hlt).trans hB;have HE:=zq hE;clear hX hE;go_enter func65,ntmps65;go_wp2;go_ret;exact⟨rfl,HE.out⟩
abbrev agJ(gb:Nat):au:=.func (.func 65) #[] #[.pointer ↑gb]
def ixD(l:List DM)(nm:By):Int:=match l.findIdx? (λd=>d.name==nm) with|some i=>(i:Int)|none=>-1
theorem Qs{A:Option Addr}{n cap:Nat}{l:List DM}(nm:By)(gb:Nat)(w:ak)(h:Kv w A n cap l)(hB:w.cell? ⟨gb,0,none⟩=some ↑nm)(hlt:gb<w.heap.size):
  Calls ax 64 #[.slice A n cap,agJ gb] w λe w'=>e=.returned (.int .i64 (ixD l nm))/\Ev w w':=by
 have hn:=h.sl.le;have hm:=h.sl.max;have HN:=zq h.sl.len;have H:=zq h;have HC:=zq (λd w1 (hE:Ev w w1)=>abE d nm gb w1 ((hE.cell (p:=⟨gb,0,none⟩) hlt).trans hB) (awz hlt hE.size));clear h hB;go_enter func64,ntmps64;go_wp2
 go_loopw [8] (λi wr=>∃k:Nat,k<=n/\i=↑k/\Hid (∀i d,i<k->l[i]?=some d->(d.name==nm)=false)/\Hid (Ev w wr)) (λi _=>n - (intOf i).toNat)
 case atStart=>exact⟨0,aww _,rfl,zq (λi d hi=>by omega),zq aJ⟩
 case round=>
  obtain⟨k,hk,rfl,HT,HE⟩:=hrel;by_cases hlk:k<n
  ·obtain⟨d,hd⟩:=H.out.sl.at hlk;obtain⟨b,off,rfl,hb,c0,c1⟩:=(H.out.ev HE.out).cell hd;have HD:=zq hd;have i1:(0:Int)<=(k:Int):=ae;have i2:(k:Int)<(n:Int):=ae;have HCd:=HC.out d;clear hd
   cases ht:(d.name==nm)
   ·rw[ht]at HCd;have HCd:=zq HCd;have HF:Hid (∀i d,i<k+1->l[i]?=some d->(d.name==nm)=false):=zq (λi d' hi hd'=>by
     by_cases hik:i<k;exact HT.out i d' hik hd';obtain rfl:i=k:=ae;rw[HD.out]at hd';obtain rfl:=aw3 hd';exact ht)
    clear ht
    go_wp2_with (first
     | ((with_reducible refine(HCd.out _ HE.out).mono ?_);rintro e w1 ⟨rfl,aK⟩;have E1:=zq (HE.out.trans aK);clear aK))
    go_roundw
    case rel=>exact⟨k+1,ae,by go_num,HF,E1⟩
    case measure=>simp[intOf];omega
   rw[ht]at HCd;have HCd:=zq HCd;have HF:Hid (ixD l nm=(k:Int)):=zq (by
    have h1:l.findIdx? (λd=>d.name==nm)=some k:=by rw[axy];obtain⟨hk2,rfl⟩:=awi.1 HD.out;exact⟨hk2,ht,λj hj=>by simp[HT.out j _ hj (awE ae)]⟩
    unfold ixD;rw[h1])
   clear ht
   go_wp2_with (first
    | ((with_reducible refine(HCd.out _ HE.out).mono ?_);rintro e w1 ⟨rfl,aK⟩;have E1:=zq (HE.out.trans aK);clear aK))
   go_ret;exact⟨by rw[HF.out];rfl,E1.out⟩
  obtain rfl:k=n:=ae;have HF:Hid (ixD l nm=-1):=zq (by
   have h1:l.findIdx? (λd=>d.name==nm)=none:=by rw[axR];intro d hd;obtain⟨i,hi,e⟩:=List.getElem_of_mem hd;exact HT.out i d (by rw[<-HN.out];exact hi) (by rw[awE hi,e])
   unfold ixD;rw[h1])
  go_wp2;go_ret;exact⟨by rw[HF.out];rfl,HE.out⟩
theorem Wi(l:List DM)(nm:By):(ixD l nm=-1/\uu (l.map DM.df) nm=CR.zero.fail 20 (dh nm))∨∃(i:Nat) (d:DM),l[i]?=some d/\ixD l nm=(i:Int)/\uu (l.map DM.df) nm=CR.of d.cols:=by
 unfold ixD uu;cases h:l.findIdx? (λd=>d.name==nm) with
 | none=>
  left;refine⟨rfl,?_⟩;rw[axR]at h;rw[show (l.map DM.df).find? (λd=>d.1==nm)=none by
   rw[List.find?_eq_none];intro x hx;obtain⟨d,hd,rfl⟩:=awN.1 hx;simpa[DM.df] using h d hd]
 | some i=>
  right;obtain⟨hi,h1,h2⟩:=axy.1 h;refine⟨i,l[i],awE hi,rfl,?_⟩;rw[show (l.map DM.df).find? (λd=>d.1==nm)=some (l[i]).df by
   rw[List.find?_eq_some_iff_getElem];refine⟨by simpa[DM.df] using h1,i,by simpa using hi,aj,λj hj=>?_⟩;have:=h2 j hj;simpa[DM.df] using this]
  rfl
theorem Wj{A:Option Addr}{n cap:Nat}{l:List C}(w:ak)(h:Cs w A n cap l)(hl:l.length<=100000)(h0:0<l.length):
  Calls ax 67 #[.slice A n cap] w λe w'=>∃v,e=.returned v/\Ow 50 2 dZ w.heap.size w' v l/\Ev w w':=by
 have q22:∀(w:ak) (a:Option Addr) (n c n' c':Nat),(binOp .eql 24 (.slice a n c) (.slice none n' c')).run ax w=.ok (.bool a.isNone) w:=λw a n c n' c'=>Lib.run_eql_slice_nil w 24 50 a n c n' c' underlying24;obtain⟨b,off,rfl,_,_⟩:=h.rd (by rw[<-h.len];exact h0);have hE:iZ 50 w.heap.size (.slice ↑w.heap.size 0 0) (w.alloc (.cells #[] 50)):=iZ.new (awj _);go_enter func67,ntmps67
 go_wp2_with (at_builtin;refine wQ (o:=⟨some 7,_,_,_,_,_⟩) rfl 24 (.tmp 5) (.tmp 6) rfl nV underlying24 Tryz.D_ rfl rfl hE ↑(b,off) n cap l rfl (h.ev az) ae ae aj ?_;intro v1 w1 hO1 aK)
 go_ret;exact⟨v1,rfl,hO1,az.trans aK⟩
theorem Ow.Af{α:Type}{et:TypeId}{k:Nat}{enc:α->List au}{base H7:Nat}{w:ak}{v:au}{Z:List α}(h:Ow et k enc base w v Z)(hb:H7<=base):Ow et k enc H7 w v Z:=by
 refine⟨h.1,?_⟩;rcases h.2 with h2|⟨g,cap,cur,rfl,hg,hh,r⟩
 exact .inl h2;exact .inr ⟨g,cap,cur,rfl,awJ hb hg,hh,r⟩
theorem abG(l:List DM)(A:Option Addr)(n cap:Nat)(nm:By)(w:ak)(h:Kv w A n cap l)(hD:∀d∈l,0<d.cols.length/\d.cols.length<=6):
  Calls ax 32 #[↑nm,.slice A n cap] w (jX w.heap.size ↑() (uu (l.map DM.df) nm) w):=by
 have hmf:∀(fn:Fn) (first cap:Array au) (w:ak),(Instr.makeFunc fn first cap).run ax w=.ok (.func fn first cap) w:=λ_ _ _ _=>rfl;obtain⟨w0,hw0,aW,hBn,Jb,hs0⟩:=Ey w 9 #[↑nm];have aK:=Ev.alloc w0 (.cells ↑Zz.d 58);have hB2:=Bx.new 58 ↑Zz.d w0;have U_:(w0.alloc (.cells ↑Zz.d 58)).cell? ⟨w.heap.size,0,none⟩=some ↑nm:=(hBn.ev aK).cell 0;have HI:=zq (Qs nm w.heap.size _ (h.ev (aW.trans aK)) U_ (by simp;omega));have HBN:=zq (hBn.ev aK);have jP:=zq (Jb.ev aK);have EX:=zq hB2;have dM:=zq (aW.trans aK);have kL:=zq hs0;have hle:=h.sl.le;have hmx:=h.sl.max;have H:=zq h;have xH:=zq h.sl.len;have HD:=zq hD;have Ll:f_ w0.heap.size w.heap.size CR.zero ↑() (w0.alloc (.cells ↑Zz.d 58)):=⟨hB2,Ow.nil_ _,λhm=>by cases hm⟩
 have HF:=zq (λw2 (hE:Ev _ w2)=>nM w0.heap.size w.heap.size CR.zero ↑() 20 ⟨nm.toArray⟩ w2 (Ll.ev hE));clear h aW aK hBn Jb hB2 hs0 Ll hD U_;have Wh:Hid (∀k∈foot ↑(),k<w.heap.size):=zq λk hk=>by cases hk
 rcases Wi l nm with⟨h1,h2⟩|⟨i,d,hd,h1,h2⟩
 ·rw[h1]at HI;rw[h2];unfold dh;have n0:=HBN.out.cell 0;have n0:(w0.alloc (.cells ↑Zz.d 58)).cell? ⟨w.heap.size,0,none⟩=some ↑nm:=n0;clear h1 h2;go_enter func32,ntmps32
  go_wp2_with (first
   | ((with_reducible refine(HI.out).mono ?_);rintro e w1 ⟨rfl,aK⟩;have E1:=zq aK;clear n0;have n0:=(HBN.out.ev aK).cell 0;have n0:w1.cell? ⟨w.heap.size,0,none⟩=some ↑nm:=n0;clear aK)
   | ((with_reducible refine(HF.out _ E1.out).mono ?_);rintro e w2 ⟨rfl,hR2,hB2⟩;have uX:=zq hR2;have HBB:=zq ((But.aV E1.out).then hB2);obtain⟨⟨d0,d1,d2⟩,_⟩:=hR2.box.three;obtain⟨⟨q0,q1,q2⟩,z0,z1,z2⟩:=(jP.out.but ((But.aV E1.out).then hB2) (by have:=kL.out;simp;omega)).three;clear hR2 hB2))
  (try simp only[Exit.inBlock,Exit.then]);rw[dw];obtain⟨f1,f2⟩:=lV dM.out jP.out uX.out (HBB.out.wide λk hk=>.inl (by simp at hk;subst hk;exact awp ..)) (λg hg=>.inl hg) Wh.out ae (by have:=kL.out;omega) (by have:=kL.out;omega);exact aAO
 rw[h1]at HI;rw[h2];have ZI:=HD.out d (awm hd);obtain⟨b,off,hA,hb,_⟩:=H.out.cell hd;have HDC:=zq (λw1 (hE:Ev w w1)=>H.out.ev hE |>.cell hd);have HCL:=zq (λw1 (hE:Ev w w1)=>Wj w1 ((H.out.cols d (awm hd)).ev hE) ae ZI.1);have hin:i<n:=by rw[<-xH.out];exact(awi.1 hd).1
 have i0:¬((i:Int)<0):=ae;have i1:(0:Int)<=(i:Int):=ae;have i2:(i:Int)<(n:Int):=ae;subst hA;clear h1 h2 hd ZI;obtain⟨dl,ZI⟩:∃dl,dl=d.cols.length:=⟨_,rfl⟩
 rw[<-ZI]at HDC HCL;clear ZI;have rH:w.heap.size+1≠w0.heap.size:=by have:=kL.out;omega
 have Jq:w0.heap.size≠w.heap.size+1:=by have:=kL.out;omega
 go_enter func32,ntmps32
 go_wp2_with (first
  | ((with_reducible refine(HI.out).mono ?_);rintro e w1 ⟨rfl,aK⟩;have E1:=zq aK;obtain⟨b',off',Yl,_,k0,k1⟩:=HDC.out _ (dM.out.trans aK);injection Yl with Yl;injection Yl with e1 e2 _;subst e1 e2;clear aK)
  | ((with_reducible refine(HCL.out _ (dM.out.trans E1.out)).mono ?_);rintro e w2 ⟨v1,rfl,hO,bQ⟩;obtain⟨A1,cap1,rfl,oJ,pM⟩:=hO.form nV;clear oJ pM;have E2:=zq (E1.out.trans bQ);have HO:=zq (Ow.Af hO (dM.out.trans E1.out).size);have HOL:=zq (λk hk=>(hO.lt (aG.1 hk)).1:∀k∈foot (.slice A1 d.cols.length cap1),w1.heap.size<=k);obtain⟨⟨d0,d1,d2⟩,g0,g1,g2⟩:=(EX.out.ev (E1.out.trans bQ)).three;obtain⟨⟨q0,q1,q2⟩,z0,z1,z2⟩:=(jP.out.ev (E1.out.trans bQ)).three;clear bQ hO))
 (try simp only[Exit.inBlock,Exit.then]);have Iz:But [w0.heap.size] w2 (w2.setCell ⟨w0.heap.size,0,none⟩ (.slice A1 d.cols.length cap1)):=But.setCell _ _ aj;have hsz:w0.heap.size+1<=w1.heap.size:=by have:=E1.out.size;simp at this;omega
 have hRR:f_ w0.heap.size w.heap.size (CR.of d.cols) (.slice A1 d.cols.length cap1) (w2.setCell ⟨w0.heap.size,0,none⟩ (.slice A1 d.cols.length cap1)):=⟨by have:=(EX.out.ev E2.out).set 0 (.slice A1 d.cols.length cap1);exact(by simpa using this:Bx 58 w0.heap.size #[.slice A1 d.cols.length cap1,.int .i64 0,.string ⟨#[]⟩] _),HO.out.but Iz λg hg=>by have:=HOL.out g (aG.2 hg);simp;omega,λhm=>by have:=HOL.out _ hm;omega⟩
 rw[dw];obtain⟨f1,f2⟩:=lV (va:=↑()) dM.out jP.out hRR (((But.aV E2.out).then Iz).wide λk hk=>.inl (by simp at hk;subst hk;exact awp ..)) (λg hg=>.inr (by have:=HOL.out g (aG.2 hg);have:=E1.out.size;omega)) Wh.out ae (by have:=kL.out;omega) (by have:=kL.out;omega);exact aAO
theorem Wl(w:ak):∃w0,w.alloc (.cells ↑Zz.d 58)=w0/\Ev w w0/\Bx 58 w.heap.size ↑Zz.d w0/\w0.heap.size=w.heap.size+1:=⟨_,rfl,Ev.alloc _ _,Bx.new _ _ _,aj⟩
theorem XM{l:List C}{i:Nat}{c d:C}(h:l[i]?=some c):l.getD i d=c:=by rw[axa,h];rfl
theorem aAT(h:U:=by obtain⟨A,cap,hv,hS,hA⟩:=h.form nV;exact⟨A,cap,hv,hS,λad e=>(hA ad e).2.2.1⟩):U:=h
theorem ayp(h:U:=by
 go_upto_region 2 with fail
 rw[<-zu];clear zu
 go_wp2_with (first
  | ((with_reducible refine(HF0.out).mono ?_);rintro e w2 ⟨rfl,hR2,hB2⟩;have uX:=zq hR2;have EX:=zq hB2;obtain⟨⟨d0,d1,d2⟩,_⟩:=hR2.box.three;obtain⟨⟨g0,g1,g2⟩,z0,z1,z2⟩:=(jP.out.but hB2 (by have:=kL.out;simp;omega)).three;clear hR2 hB2))
 (try simp only[Exit.inBlock,Exit.then]);rw[dw];obtain⟨f1,f2⟩:=lV P6.out jP.out uX.out (EX.out.wide λk hk=>.inl (by simp at hk;subst hk;exact awp ..)) (λg hg=>.inl hg) Wh.out ae (by have:=kL.out;omega) (by have:=kL.out;omega);exact aAO):U:=h
theorem abH(base:Nat)(va:au)(a b:List C)(B:Option Addr)(m Lm:Nat)(w:ak)(h:Ow 50 2 dZ base w va a)(hb:Cs w B m Lm b)(hbl:∀ad,B=some ad->ad.block<w.heap.size):
  Calls ax 36 #[va,.slice B m Lm] w (jX base va (uw a b) w):=by
 obtain⟨A,cap,rfl,hC,xY⟩:∃A cap,va=.slice A a.length cap/\Cs w A a.length cap a/\∀ad,A=some ad->ad.block<w.heap.size:=by exact aAT
 have H6:=pX h;have hbn:=hb.len;have hle:=hC.le;have hmx:=hC.max;have ajk:=hb.le;have agG:=hb.max;obtain⟨w0,hw0,aW,Jb,hs0⟩:=Wl w;have Ll:=f_.new (h.ev aW) (λk hk=>by have:=H6 k hk;omega);obtain⟨wa,zu⟩:∃wa,wa=w0.alloc (.cells #[.slice A a.length cap,.int .i64 0,.string ⟨#[]⟩] 58):=⟨_,rfl⟩
 have aK:Ev w0 wa:=by rw[zu];exact Ev.alloc _ _
 rw[<-zu]at Ll;have ZR:=zq Ll;have jP:=zq (Jb.ev aK);have P6:=zq (aW.trans aK);have Wh:=zq H6;have XN:w0.heap.size=w.heap.size+1:=hs0;have kL:=zq XN;have oW:Hid (∀w1,But [w0.heap.size] wa w1->Cs w1 A a.length cap a):=zq λw1 hb1=>(hC.ev (aW.trans aK)).but hb1 λad e=>by have:=xY ad e;simp;omega
 have pV:Hid (∀w1,But [w0.heap.size] wa w1->Cs w1 B m Lm b):=zq λw1 hb1=>(hb.ev (aW.trans aK)).but hb1 λad e=>by have:=hbl ad e;simp;omega
 have Ox:=zq (λr nm w1 (hR:f_ w0.heap.size base r (.slice A a.length cap) w1)=>nM w0.heap.size base r (.slice A a.length cap) 22 nm w1 hR);have HF0:=zq (nM w0.heap.size base (CR.of a) (.slice A a.length cap) 23 ⟨#[]⟩ wa Ll);have HU:Hid (uw a b=if a.length=m then (List.range a.length).foldl (vC a b) (CR.of a) else (CR.of a).fail 23 ⟨#[]⟩):=zq (by unfold uw;rw[hbn]);rw[HU.out];obtain⟨n,hn⟩:∃n,n=a.length:=⟨_,rfl⟩
 rw[<-hn]at hle;rw[<-hn]at zu ZR oW Ox HF0 Wh|-;clear h hb hC Ll Jb aW aK H6 hs0 XN hn hbn xY hbl;by_cases hm:n=m
 ·subst hm;rw[if_pos rfl];go_enter func36,ntmps36;go_upto_region 5 with fail
  rw[<-zu];clear zu;go_wp2
  go_loopw [19] (λiv wr=>∃k:Nat,iv=↑k/\k<=n/\Hid (f_ w0.heap.size base ((List.range k).foldl (vC a b) (CR.of a)) (.slice A n cap) wr)/\Hid (But [w0.heap.size] wa wr)) (λiv _=>n - (intOf iv).toNat)
  case atStart=>exact⟨0,rfl,aww _,ZR,zq (But.refl _ _)⟩
  case round=>
   obtain⟨k,rfl,hk,HR,HB⟩:=hrel;by_cases hlt:k<n
   ·obtain⟨c,hc⟩:=(oW.out wr HB.out).at hlt;obtain⟨d,hd⟩:=(pV.out wr HB.out).at hlt;obtain⟨ba,oa,rfl,ka0,ka1⟩:=Cs.zM (oW.out wr HB.out) hc;obtain⟨bb,ob,rfl,kb0,kb1⟩:=Cs.zM (pV.out wr HB.out) hd;obtain⟨_,_,e1,hba,_⟩:=(oW.out wr HB.out).rd ae;injection e1 with e1
    injection e1 with e1 e2 _
    subst e1 e2;obtain⟨_,_,e1,OE,_⟩:=(pV.out wr HB.out).rd ae;injection e1 with e1
    injection e1 with e1 e2 _
    subst e1 e2;have i1:(0:Int)<=(k:Int):=ae;have i2:(k:Int)<(n:Int):=ae;have hBC:=Bx.new 50 #[.string c.1,.int .i64 c.2] wr;have hstep:(List.range (k+1)).foldl (vC a b) (CR.of a)=if c.2=d.2 then (List.range k).foldl (vC a b) (CR.of a) else ((List.range k).foldl (vC a b) (CR.of a)).fail 22 c.1:=by rw[zO];unfold vC;rw[XM hc,XM hd]
    have HST:=zq hstep;have hgr:=HR.out.box.lt;have HBC:=zq hBC;have c1:=hBC.cell 1;have c1:(wr.alloc (.cells #[.string c.1,.int .i64 c.2] 50)).cell? ⟨wr.heap.size,1,none⟩=some (.int .i64 c.2):=c1;clear hc hd hstep hBC;go_upto_region 8 with fail
    go_quiet (fail)
    generalize XO:World.drewN _ _=wq;have hEQ:Ev (wr.alloc (.cells #[.string c.1,.int .i64 c.2] 50)) wq:=XO▸Ev.drewN _ _;have HEQ:=zq (az.trans hEQ);have n0:=(HBC.out.ev hEQ).cell 0;have n0:wq.cell? ⟨wr.heap.size,0,none⟩=some (.string c.1):=n0;clear XO hEQ c1 ka0 ka1 kb0 kb1;by_cases Ip:c.2=d.2
    ·have hb1:(c.2==d.2)=true:=by simp[Ip]
     have hb2:(c.2 !=d.2)=false:=by simp[Ip]
     have HKK:=zq Ip;clear Ip;go_wp2;go_roundw
     case rel=>exact⟨k+1,by go_num,ae,zq (by rw[HST.out,if_pos HKK.out];exact HR.out.ev HEQ.out),zq (HB.out.then (But.aV HEQ.out))⟩
     case measure=>simp[intOf];omega
    have hb1:(c.2==d.2)=false:=awg.2 Ip;have hb2:(c.2 !=d.2)=true:=by simp[Ip]
    have HKK:=zq Ip;clear Ip;have HF1:=zq (Ox.out _ c.1 _ (HR.out.ev HEQ.out))
    go_wp2_with (first
     | ((with_reducible refine(HF1.out).mono ?_);rintro e w2 ⟨rfl,hR2,hB2⟩;have uX:=zq hR2;have EX:=zq hB2;clear hR2 hB2))
    go_roundw
    case rel=>exact⟨k+1,by go_num,ae,zq (by rw[HST.out,if_neg HKK.out];exact uX.out),zq ((HB.out.then (But.aV HEQ.out)).then EX.out)⟩
    case measure=>simp[intOf];omega
   obtain rfl:k=n:=ae;have ajl:=jP.out.but HB.out (by have:=kL.out;simp;omega);obtain⟨⟨d0,d1,d2⟩,_⟩:=HR.out.box.three;obtain⟨⟨g0,g1,g2⟩,z0,z1,z2⟩:=ajl.three;clear ajl;go_wp2;(try simp only[Exit.inBlock,Exit.then]);rw[dw];obtain⟨f1,f2⟩:=lV P6.out jP.out HR.out (HB.out.wide λk hk=>.inl (by simp at hk;subst hk;exact awp ..)) (λg hg=>.inl hg) Wh.out ae (by have:=kL.out;omega) (by have:=kL.out;omega);exact aAO
 rw[if_neg hm];have i1:¬((n:Int)=(m:Int)):=ae;have i2:((n:Int)==(m:Int))=false:=awg.2 i1;have i3:((n:Int) !=(m:Int))=true:=by simp;omega
 have i4:(n==m)=false:=awg.2 hm;have i5:(n !=m)=true:=by simp[hm]
 go_enter func36,ntmps36;exact ayp
def bH(R:aaV)(w:ak)(e:Ending)(w':ak):Prop:=∃m:PM,e=.returned (.tuple #[.agg ↑m,.int .i64 R.2.1,.int .i64 (R.2.2:Int)])/\m.p=R.1/\Qx w.heap.size [] w' m/\Ev w w'
theorem uC(w:ak):∃w0,w.alloc (.cells ↑Zz.b 32)=w0/\Ev w w0/\Bx 32 w.heap.size ↑Zz.b w0/\w0.heap.size=w.heap.size+1:=⟨_,rfl,Ev.alloc _ _,Bx.new _ _ _,aj⟩
theorem Wp(s:By)(w:ak)(hs:s.length<=100000)(hc:¬(fA s).2.1=0):Calls ax 30 #[↑s] w (bH (mi s) w):=by
 have hP:mi s=(ik,(fA s).2.1,(fA s).2.2):=by unfold mi;rw[if_neg (by simpa using hc)]
 rw[hP];have hS:=λw1=>IU ⟨s.toArray⟩ w1 (by simpa[ByteArray.size] using hs);simp only at hS;unfold rJ at hS;unfold bH;generalize (fA s).2.1=c at*;generalize (fA s).2.2=ps at*;have HS:=zq hS;obtain⟨w0,hw0,aW,hR,hs0⟩:=uC w;have HR:=zq hR;have HE:=zq aW;clear hP hS hR aW hs;go_enter func30,ntmps30
 go_wp2_with (first
  | ((with_reducible refine(HS.out _).mono ?_);rintro r w1 ⟨t,rfl,ht,hl,aK⟩;have oO:=zq aK;obtain⟨⟨r0,r1,r2,r3,r4,r5,r6,r7⟩,s0,s1,s2,s3,s4,s5,s6,s7⟩:=(HR.out.ev (aK.trans (Ev.alloc w1 (.cells ↑t 101)))).eight;clear ht hl aK))
 (try simp only[Exit.inBlock,Exit.then]);rw[bu];have ND:=HR.out.ev (oO.out.trans (Ev.alloc w1 (.cells ↑t 101)));refine bodyPost_ret (aI rfl _ _ _ _ _ rfl (ND.iK _ _ _ _ _ _ _ _) underlying32 rfl Tryz.bG) rfl ?_;exact⟨kD,rfl,iD,Qx.zero _ _ _,(HE.out.trans (oO.out.trans az)).box (bV _ _ _ _ _ _ _ _ _ _) (awj _)⟩
end Go.Proofs.YtpbfokkocaemlaaGreatDoor
