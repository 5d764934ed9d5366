import Derived.Test.YtpbfokkocaemlaaGreatDoorZ25S
import Derived.Test.YtpbfokkocaemlaaGreatDoorZ30S
set_option linter.unusedVariables false
set_option maxRecDepth 100000
set_option maxHeartbeats 64000000
namespace Go.Proofs.YtpbfokkocaemlaaGreatDoor
open Go.RowKit
open Go.Lib renaming hid → zq
def ahg (e:T):Prop:=dK e=true∧e.size≤16000∧e.every (fun t=>decide (t.s.length≤1000000))=true
def VX (k:Int) (es:List T) (cs lf rt:List By) (ag:List Ag) (nk:Nat):Prop:=
 (k=1∨k=2∨k=3∨k=4∨k=5∨k=6∨k=7)∧(∀e∈es,ahg e)∧(k=3→es.length=cs.length)∧es.length≤10000∧lf.length≤10000∧rt.length≤10000∧ag.length≤10000∧nk≤10000
mutual
def Pl.fit:Pl→Prop
 | .mk k _ es cs lf rt ag l=>VX k es cs lf rt ag l.length∧Pl.fits l
def Pl.fits:List Pl→Prop
 | []=>True
 | p::l=>p.fit∧Pl.fits l
end
theorem Pl.fits_all:∀l:List Pl,Pl.fits l↔∀p∈l,p.fit
 | []=>by simp[Pl.fits]
 | p::l=>by simp[Pl.fits,Pl.fits_all l]
theorem ZZ {m:PM} (h:m.p.fit):VX m.kind (m.ex.l.map M.t) m.co.l m.lf.l m.rt.l m.ag.l m.kids.length∧∀x∈m.kids,x.p.fit:=by rw[PM.pY,Pl.fit,Pl.fits_all,atq]at h;exact⟨h.1,fun x hx=>h.2 x.p (at7 hx)⟩
theorem aca (N:Nat):∀(m:PM) (b0:Nat) (w:World),m.dep≤N→Qx b0 [] w m→m.p.fit→
  Calls Tryz.prog 56 #[pv m] w (fO (aC m.p) w):=by
 induction N with
 | zero=>
  intro m b0 w hd;rw[PM.mX]at hd;omega
 | succ N ih=>
  intro m b0 w hd h hf;obtain⟨⟨hk,hes,h3,hel,jd,hrl,Iw,hkn⟩,hkf⟩:=ZZ hf;rw[atq]at hel h3;have hrx:∀x∈m.ex.l,dK x.t=true∧x.t.size≤16000∧x.t.every (fun t=>decide (t.s.length≤1000000))=true:=fun x hx=>hes x.t (at7 hx);have ih2:∀x∈m.kids,∀w1,Ev w w1→Calls Tryz.prog 56 #[pv x] w1 (fO (aC x.p) w1):=fun x hx w1 hE=>ih x b0 w1 (by have:=PM.lF hx;omega) ((h.kid x hx).ev hE) (hkf x hx);rcases hk with hk|hk|hk|hk|hk|hk|hk;exact OO m b0 w h hk hkn ih2;exact L6 m b0 w h hk hrx hel hkn ih2;exact Js m b0 w h hk hrx hel (h3 hk) hkn ih2;exact Rf m b0 w h hk jd hrl hkn ih2;exact OQ m b0 w h hk hkn ih2;exact Gy m b0 w h hk hkn ih2;exact OT m b0 w h hk jd Iw hkn ih2
theorem OV (m:PM) (b0:Nat) (w:World) (hT:Tab w) (h:Qx b0 [] w m) (hf:m.p.fit) (hsz:(aC m.p).size≤100000) (hlen:(printS (aC m.p)).length≤1000000) (hne:printS (aC m.p)≠[]) (hfit:wJ (aC m.p)=true):
  Calls Tryz.prog 29 #[pv m] w fun r w'=>r=.returned (.string ⟨(printS (aC m.p)).toArray⟩)∧Ev w w':=by
 have HT:=zq (fun w1 (hE:Ev w w1)=>aca m.dep m b0 w1 (att _) (h.ev hE) hf);have HP:=zq (fun (x:M) (hx:x.t=aC m.p) b1 w1 (hE:Ev w w1) (hl:Lies b1 [] w1 x)=>Gf (hT.ev hE) hl (by rw[hx];exact hsz) (by rw[hx];exact hlen) (.inl (by rw[hx];exact hne)) (by rw[hx];exact hfit));unfold pv eU.v PM.kv fO at*;obtain⟨R,hR⟩:∃R,R=aC m.p:=⟨_,rfl⟩
 rw[←hR]at HT HP⊢;have hB:=Bx.new 32 #[.int .i64 m.kind,.string ⟨m.name.toArray⟩,.slice m.ex.A m.ex.l.length m.ex.cap,.slice m.co.A m.co.l.length m.co.cap,.slice m.lf.A m.lf.l.length m.lf.cap,.slice m.rt.A m.rt.l.length m.rt.cap,.slice m.ag.A m.ag.l.length m.ag.cap,.slice m.A m.kids.length m.cap] w;obtain⟨⟨p0,p1,p2,p3,p4,p5,p6,p7⟩,_⟩:=hB.eight;clear hT h hf hsz hlen hne hfit hR hB;go_enter Tryz.func29,Tryz.ntmps29
 go_wp2_with (first
  | ((with_reducible refine (HT.out _ (Ev.alloc w _)).mono ?_);rintro r w1 ⟨x,rfl,jg,iq,aH⟩;have oW:=zq jg;have pz:=zq iq;have E1:=zq ((Ev.alloc w _).trans aH);have HPX:=zq (HP.out x jg _ w1 E1.out iq);rw[oW.out]at HPX;clear jg iq p0 p1 p2 p3 p4 p5 p6 p7)
  | ((with_reducible refine (HPX.out).mono ?_);rintro r w2 ⟨rfl,bK⟩))
 go_ret;exact⟨rfl,E1.out.trans bK⟩
theorem L8 {s:By} {n:Int} {l:List T} {p:Nat} (h:(T.mk 2 s n l p).fine=true):s.length≤1000:=by
 rw[T.fine]at h;unfold gJ at h;simp only[atZ,atu,atH,aun]at h;rcases h with h|((h|h)|h)
 exact absurd h.1.1.1 (by decide);exact h.1.2.2;exact absurd h.1.1.1 (by decide);exact absurd h.1.1.1 (by decide)
mutual
theorem Dv:∀t:T,t.fine=true→1≤(printS t).length∧(printS t).length+1≤1002*t.size
 | .mk k s n l p,h=>by
  have hl:=Nr l;have hff:=(jl _ h).1;rw[T.every,atu]at hff;have hn:=(oG hff.1).1;have hz:=T.size_eq (.mk k s n l p);simp only[T.kids]at hz;rcases uz h with⟨h1,h2,h3,h4⟩|⟨h1,h2,h3,h4⟩|⟨h1,h2,h3⟩|⟨h1,h2,h3,h4⟩
  subst h1;subst h2;subst h3;have h5:=hl h4;have h6:=IZ l true;refine⟨by simp[printS],?_⟩;rw[printS,if_pos rfl,atF,atv,atF,aur];omega;subst h1;subst h2;subst h3;have h5:=L8 h;have h6:=List.length_pos_iff.2 h4;rw[printS,if_neg (by decide),if_pos rfl];simp at hz;omega
  ·subst h1;subst h2;subst h3;have h5:=Lib.itoa_length_le n hn.1 hn.2;have h6:1≤(Lib.itoa n).length:=by unfold Lib.itoa;split;simp;rw[Lib.decDigits_length];unfold Lib.nDigits;split<;>omega
   rw[printS,if_neg (by decide),if_neg (by decide),if_pos rfl];simp at hz;omega
  subst h1;subst h2;subst h3;have h5:=Zk h4;rw[printS,if_neg (by decide),if_neg (by decide),if_neg (by decide),if_pos rfl];simp at hz;omega
theorem Nr:∀l:List T,(∀t∈l,t.fine=true)→(l.map fun t=>(printS t).length+1).sum≤1002*(l.map T.size).sum
 | [],_=>by simp
 | a::l,h=>by have h1:=(Dv a (h a (atz ..))).2;have h2:=Nr l fun t ht=>h t (aty _ ht);simp only[atx,auo];omega
end
theorem uq.size {e:T} (h:uq e):e.size≤(xTree e).size:=by have:=IP (xTree e);rwa [h.back]at this
mutual
theorem Jt {p q:T→Bool} (SX:∀t,p t=true→q t=true):∀t:T,t.every p=true→t.every q=true
 | .mk k s n l o,h=>by rw[T.every,atu]at h⊢;exact⟨SX _ h.1,Gg SX l h.2⟩
theorem Gg {p q:T→Bool} (SX:∀t,p t=true→q t=true):∀l:List T,T.everys p l=true→T.everys q l=true
 | [],_=>rfl
 | a::l,h=>by rw[T.everys,atu]at h⊢;exact⟨Jt SX a h.1,Gg SX l h.2⟩
end
theorem uq.fit {e:T} (h:uq e) (hs:(xTree e).size≤10000):ahg e:=⟨h.right,by have:=h.size;omega,Jt (fun t ht=>by
 unfold bZ at ht;rw[atu,aun,aun]at ht;rw[aun];omega) e h.fair⟩
theorem qw (l:List T):(bU l).size=(l.map T.size).sum+1:=by have:=T.size_eq (bU l);simpa[bU,T.kids] using this
theorem Rk:∀l:List By,(l.map fun _=>1).sum=l.length
 | []=>rfl
 | a::l=>by rw[atx,auo,Rk l,atF];omega
theorem Ju (l:List By):(aU l).size=l.length+1:=by
 unfold aU;rw[qw,atI];have:l.map (T.size ∘ aN)=l.map fun _=>1:=aug fun s _=>by have:=T.size_eq (aN s);simpa[aN,T.kids] using this
 rw[this,Rk]
theorem L9 (k:Int) (nm:By) (es:List T) (cs lf rt:List By) (ag:List Ag) (l:List Pl) (hl:∀p∈l,p.good→(aC p).size≤10000→p.fit):(Pl.mk k nm es cs lf rt ag l).good→(aC (.mk k nm es cs lf rt ag l)).size≤10000→(Pl.mk k nm es cs lf rt ag l).fit:=by
 intro hg hs;rw[Pl.good,Pl.tC]at hg;rw[Pl.fit,Pl.fits_all];rw[aC,uo,qw,atB,auL]at hs;obtain⟨hh,hk⟩:=hg;have wU:∀p∈l,p.fit:=fun p hp=>hl p hp (hk p hp) (by
  have h1:=iy (at7 (f:=T.size) (at7 (f:=aC) hp));omega)
 have xK:l.length≤10000:=by have h1:=jA (l.map aC);rw[atq]at h1;omega
 refine⟨?_,wU⟩;rcases hh with⟨rfl,_,rfl,rfl,rfl,rfl,rfl,_⟩|⟨rfl,_,⟨e,rfl,he⟩,rfl,rfl,rfl,rfl,_⟩|⟨rfl,_,he,Tj,_,_,rfl,rfl,rfl,_⟩|⟨rfl,_,rfl,rfl,_,_,rfl,_⟩|⟨rfl,_,rfl,rfl,rfl,rfl,rfl,_⟩|⟨rfl,_,rfl,rfl,rfl,rfl,rfl,_⟩|⟨rfl,_,rfl,rfl,_,rfl,_,_⟩
 exact⟨.inl rfl,(fun e h=>by cases h),(fun h=>by cases h),by simp,by simp,by simp,by simp,xK⟩;have h1:(([aN dL,xTree e]:List T).map T.size).sum+((l.map aC).map T.size).sum+1≤10000:=hs;simp only[atx,atQ,auo,ava]at h1;exact⟨.inr (.inl rfl),(fun e' h=>by simp at h;subst h;exact he.fit (by omega)),(fun h=>by cases h),by simp,by simp,by simp,by simp,xK⟩;have h1:(((aN bM::List.zipWith bG cs es):List T).map T.size).sum+((l.map aC).map T.size).sum+1≤10000:=hs;simp only[atx,auo]at h1;have h2:=jA (List.zipWith bG cs es);rw[au3]at h2;refine⟨.inr (.inr (.inl rfl)),fun e h=>(he e h).fit ?_,fun _=>Tj,by omega,by simp,by simp,by simp,xK⟩;obtain⟨i,hi⟩:=auO h;have NS:=(atr.1 hi).1;obtain⟨c,hc⟩:∃c,cs[i]?=some c:=⟨_,atN (by omega)⟩
 have hm:bG c e∈List.zipWith bG cs es:=atw (i:=i) (by rw[List.getElem?_zipWith,hc,hi]);have h3:=iy (at7 (f:=T.size) hm);have h4:(bG c e).size=(([aN c,xTree e]:List T).map T.size).sum+1:=qw _;simp only[atx,atQ,auo,ava]at h4;omega;have h1:(([aN gU,aU lf,aU rt]:List T).map T.size).sum+((l.map aC).map T.size).sum+1≤10000:=hs;simp only[atx,atQ,auo,ava,Ju]at h1;exact⟨.inr (.inr (.inr (.inl rfl))),(fun e h=>by cases h),(fun h=>by cases h),by simp,by omega,by omega,by simp,xK⟩;exact⟨.inr (.inr (.inr (.inr (.inl rfl)))),(fun e h=>by cases h),(fun h=>by cases h),by simp,by simp,by simp,by simp,xK⟩;exact⟨.inr (.inr (.inr (.inr (.inr (.inl rfl))))),(fun e h=>by cases h),(fun h=>by cases h),by simp,by simp,by simp,by simp,xK⟩;have h1:(((aN dY::aU lf::ag.map eQ):List T).map T.size).sum+((l.map aC).map T.size).sum+1≤10000:=hs;simp only[atx,auo,Ju]at h1;have h2:=jA (ag.map eQ);rw[atq]at h2;exact⟨.inr (.inr (.inr (.inr (.inr (.inr rfl))))),(fun e h=>by cases h),(fun h=>by cases h),by simp,by omega,by simp,by omega,xK⟩
mutual
theorem Dw:∀p:Pl,p.good→(aC p).size≤10000→p.fit
 | .mk k nm es cs lf rt ag l=>L9 k nm es cs lf rt ag l (Ns l)
theorem Ns:∀l:List Pl,∀p∈l,p.good→(aC p).size≤10000→p.fit
 | []=>fun p h=>by cases h
 | a::l=>by intro p h;rcases atA.1 h with h1|h1;rw[h1];exact Dw a;exact Ns l p h1
end
structure WrT (p:Pl):Prop where
 good:p.good
 fit:p.fit
 size:(aC p).size≤601
 len:(printS (aC p)).length≤1000000
 ne:printS (aC p)≠[]
 fits:wJ (aC p)=true
theorem Dx {t:T} (hf:t.fine=true) (hs:t.size≤601) (he:(aZ t).1=0):WrT (pPlan t)∧aC (pPlan t)=t.strip:=by obtain⟨h1,h2⟩:=agN t hf he;have h3:=Dv t hf;refine⟨⟨h2,Dw _ h2 (by rw[h1,Bz];omega),by rw[h1,Bz];exact hs,by rw[h1,yY];omega,?_,?_⟩,h1⟩;rw[h1,yY];intro e;rw[e]at h3;simp at h3;rw[h1];exact zB _ (jl _ (by rw[Jh];exact hf)).1
structure WrP (p:Pl):Prop where
 wr:WrT p
 deep:(aC p).deep≤12
 aeQ:(printS (aC p)).length≤600
theorem Rl (p:Pl) (h:p.good):((printS (aC p)).length≤600→(aC p).deep≤12→lG (printS (aC p))=(p,0,0))∧
  (600<(printS (aC p)).length→(lG (printS (aC p))).2.1=3)∧((printS (aC p)).length≤600→12<(aC p).deep→(lG (printS (aC p))).2.1=14):=by
 obtain⟨h1,h2,h3⟩:=QT p h;obtain⟨r1,r2,r3⟩:=TS (aC p) h3;refine⟨fun hl hd=>?_,fun hl=>?_,fun hl hd=>?_⟩;obtain⟨t',ht,hr⟩:=r2 hl hd;have hp:pPlan t'=p:=by rw[←BB,ht,BB,h1]
 have he:(aZ t').1=0:=by rw[←EG,ht,EG,h2]
 unfold lG pFrom;rw[hr];simp only[auc,if_true,he,hp];rw[if_neg (by omega)];unfold lG;rw[r1 hl];rfl;obtain⟨x,hx⟩:=r3 hl hd;unfold lG;rw[hx];rfl
theorem Jv:∀(l:List T) (b:Bool) (t:T),t∈l→(printS t).length≤(printL b l).length
 | [],_,_,h=>by cases h
 | a::l,b,t,h=>by rw[printL,atv,atv];rcases atA.1 h with h1|h1;rw[h1];omega;have:=Jv l false t h1;omega
theorem Jw (l:List T):(printS (bU l)).length=(printL true l).length+2:=by rw[bU,pR,atF,atv];rfl
theorem xm (p:Pl):aC p=bU (jL p.kind p.name p.exprs p.cols p.left p.right p.Ez++p.kids.map aC):=by
 cases p
 rw[aC,uo];rfl
theorem Nu {p:Pl} (h:p.good):∀k∈p.kids,k.good:=by
 cases p
 rw[Pl.good,Pl.tC]at h;exact h.2
mutual
def Pl.sum (f:Pl→Nat):Pl→Nat
 | .mk k nm es cs lf rt ag l=>f (.mk k nm es cs lf rt ag l)+Pl.sums f l
def Pl.sums (f:Pl→Nat):List Pl→Nat
 | []=>0
 | p::l=>p.sum f+Pl.sums f l
end
theorem Pl.Rn (f:Pl→Nat):∀l:List Pl,Pl.sums f l=(l.map (Pl.sum f)).sum
 | []=>by simp[Pl.sums]
 | p::l=>by simp[Pl.sums,Pl.Rn f l]
theorem Pl.aeR (f:Pl→Nat) (p:Pl):p.sum f=f p+(p.kids.map (Pl.sum f)).sum:=by
 cases p
 rw[Pl.sum,Pl.Rn];rfl
mutual
theorem Jy:∀p:Pl,p.sum (fun _=>1)=p.size
 | .mk k nm es cs lf rt ag l=>by rw[Pl.sum,Pl.size,Jz l];omega
theorem Jz:∀l:List Pl,Pl.sums (fun _=>1) l=Pl.sizes l
 | []=>by simp[Pl.sums,Pl.sizes]
 | p::l=>by rw[Pl.sums,Pl.sizes,Jy p,Jz l]
end
theorem Pl.size_eq (p:Pl):p.size=(p.kids.map Pl.size).sum+1:=by
 cases p
 rw[Pl.size,Pl.pM];rfl
theorem Pl.size_pos (p:Pl):1≤p.size:=by rw[Pl.size_eq];omega
def nC (p:Pl):Nat:=p.exprs.length+p.cols.length+p.left.length+p.right.length+p.Ez.length
theorem yj {α:Type} {f g:α→Nat}:∀l:List α,(∀x∈l,f x≤g x)→(l.map f).sum≤(l.map g).sum
 | [],_=>by simp
 | a::l,h=>by have h1:=h a (atz ..);have h2:=yj l fun x hx=>h x (aty _ hx);simp only[atx,auo];omega
theorem EP:∀(l:List T) (b:Bool),(∀t∈l,1≤(printS t).length)→(l.map fun t=>(printS t).length).sum+l.length≤(printL b l).length+(if b then 1 else 0)
 | [],b,_=>by simp
 | a::l,b,h=>by
  have h2:=EP l false fun t ht=>h t (aty _ ht);rw[printL,atv,atv,atx,auo,atF]
  cases b<;>simp at h2⊢<;>omega
theorem ER {l:List T} (h:∀t∈l,t.fine=true):∀t∈l,1≤(printS t).length:=fun t ht=>(Dv t (h t ht)).1
theorem JB {l:List T} (h:∀t∈l,1≤(printS t).length):l.length≤(l.map fun t=>(printS t).length).sum:=by
 have:=yj (f:=fun _=>1) l h;have e:∀l:List T,(l.map fun _=>1).sum=l.length:=fun l=>by
  induction l with
  | nil=>rfl
  | cons a l ih=>rw[atx,auo,ih,atF];omega
 rw[e]at this;exact this
theorem nD {l:List T} (h:(bU l).fine=true):∀t∈l,t.fine=true:=by
 rcases uz h with⟨_,_,_,h4⟩|⟨h1,_⟩|⟨h1,_⟩|⟨h1,_⟩
 exact h4;exact absurd h1 (by decide);exact absurd h1 (by decide);exact absurd h1 (by decide)
theorem JC (l:List By) (h:(aU l).fine=true):l.length+1≤(printS (aU l)).length:=by have h1:=EP (l.map aN) true (ER (nD h));have h2:=JB (ER (nD h));rw[aU,Jw];rw[atq]at h1 h2;simp at h1;omega
theorem Z4 {p:Pl} (hg:p.good):nC p+1+(p.kids.map fun k=>(printS (aC k)).length).sum≤(printS (aC p)).length:=by
 obtain⟨_,_,hf⟩:=QT p hg;rw[xm p]at hf;have hall:=nD hf;have hpos:=ER hall;have h1:=EP _ true hpos;rw[xm p,Jw];rw[atB,auL,atv,atq,atI]at h1;have ek:(p.kids.map ((fun t=>(printS t).length) ∘ aC)).sum=(p.kids.map fun k=>(printS (aC k)).length).sum:=rfl;rw[ek]at h1;have Ot:wS p.kind p.name p.exprs p.cols p.left p.right p.Ez p.kids.length:=by
  cases p
  rw[Pl.good]at hg;exact hg.1
 have hhead:∀t∈jL p.kind p.name p.exprs p.cols p.left p.right p.Ez,1≤(printS t).length:=fun t ht=>hpos t (atO _ ht);have JE:∀t∈jL p.kind p.name p.exprs p.cols p.left p.right p.Ez,t.fine=true:=fun t ht=>hall t (atO _ ht);have h2:=JB hhead;simp only[if_true]at h1
 suffices hp:nC p≤((jL p.kind p.name p.exprs p.cols p.left p.right p.Ez).map fun t=>(printS t).length).sum+(jL p.kind p.name p.exprs p.cols p.left p.right p.Ez).length by omega
 unfold nC;rcases Ot with⟨hk,_,he,hc,hl,hr,ha,_⟩|⟨hk,_,⟨e,he,_⟩,hc,hl,hr,ha,_⟩|⟨hk,_,_,Tj,_,_,hl,hr,ha,_⟩|⟨hk,_,he,hc,_,_,ha,_⟩|⟨hk,_,he,hc,hl,hr,ha,_⟩|⟨hk,_,he,hc,hl,hr,ha,_⟩|⟨hk,_,he,hc,_,hr,_,_⟩
 rw[he,hc,hl,hr,ha];simp;rw[he,hc,hl,hr,ha,hk];rw[he,hk]at h2;simp[jL]at h2⊢;rw[hl,hr,ha,hk];rw[hk]at h2;have e1:(jL 3 p.name p.exprs p.cols p.left p.right p.Ez).length=1+p.cols.length:=by show (aN bM::List.zipWith bG p.cols p.exprs).length=_;rw[atF,au3];omega
 rw[hl,hr,ha]at h2 e1;simp only[aur];omega;rw[he,hc,ha,hk];rw[hk]at JE;have f1:=JC p.left (JE _ (by simp[jL]));have f2:=JC p.right (JE _ (by simp[jL]));simp[jL];omega;rw[he,hc,hl,hr,ha];simp;rw[he,hc,hl,hr,ha];simp;rw[he,hc,hr,hk];rw[hk]at JE;have f1:=JC p.left (JE _ (by simp[jL]));simp[jL];omega
mutual
theorem Nv:∀p:Pl,p.good→p.sum (fun q=>nC q+1)≤(printS (aC p)).length
 | .mk k nm es cs lf rt ag l,hg=>by have h1:=Z4 hg;have h2:=JG l (Nu hg);rw[Pl.sum];simp only[Pl.kids]at h1;omega
theorem JG:∀l:List Pl,(∀p∈l,p.good)→Pl.sums (fun q=>nC q+1) l≤(l.map fun k=>(printS (aC k)).length).sum
 | [],_=>by simp[Pl.sums]
 | p::l,h=>by have h1:=Nv p (h p (atz ..));have h2:=JG l fun x hx=>h x (aty _ hx);rw[Pl.sums,atx,auo];omega
end
theorem Z5 (f g:Pl→Nat):(∀p:Pl,p.sum (fun q=>f q+g q)=p.sum f+p.sum g)∧∀l:List Pl,Pl.sums (fun q=>f q+g q) l=Pl.sums f l+Pl.sums g l:=by
 have step:∀(N:Nat),(∀p:Pl,p.size≤N→p.sum (fun q=>f q+g q)=p.sum f+p.sum g)∧∀l:List Pl,Pl.sizes l≤N→Pl.sums (fun q=>f q+g q) l=Pl.sums f l+Pl.sums g l:=by
  intro N
  induction N with
  | zero=>
   refine⟨fun p hp=>by have:=Pl.size_pos p;omega,fun l hl=>?_⟩
   cases l with
   | nil=>simp[Pl.sums]
   | cons p l=>rw[Pl.sizes]at hl;have:=Pl.size_pos p;omega
  | succ N ih=>
   have hp:∀p:Pl,p.size≤N+1→p.sum (fun q=>f q+g q)=p.sum f+p.sum g:=by
    intro p hp
    cases p with
    | mk k nm es cs lf rt ag l=>
     rw[Pl.size]at hp;have:=ih.2 l (by omega);rw[Pl.sum,Pl.sum,Pl.sum,this];omega
   refine⟨hp,fun l=>?_⟩
   induction l with
   | nil=>intro _;simp[Pl.sums]
   | cons p l ihl=>
    intro hl;rw[Pl.sizes]at hl;rw[Pl.sums,Pl.sums,Pl.sums,hp p (by omega),ihl (by omega)];omega
 exact⟨fun p=>(step p.size).1 p (att _),fun l=>(step (Pl.sizes l)).2 l (att _)⟩
def exA:T:=.mk 1 [97] 0 [] 0
theorem JH {a:Er} (h:a.1≠0):∀l:List Er,l.foldl fB a=a
 | []=>rfl
 | e::l=>by rw[auR,show fB a e=a by unfold fB;simp[h]];exact JH h l
theorem BN {a:Er}:∀l:List Er,(∀e∈l,e.1=0)→l.foldl fB a=a
 | [],_=>rfl
 | e::l,h=>by rw[auR,show fB a e=a by unfold fB;simp[h e (atz ..)]];exact BN l fun x hx=>h x (aty _ hx)
theorem uB {l:List Er} {k:Nat} {e:Er} (h0:∀x∈l.take k,x.1=0) (he:l[k]?=some e) (hne:e.1≠0):aQ l=e:=by
 obtain⟨hk,hx⟩:=atr.1 he;have hl:l=l.take k++e::l.drop (k+1):=by rw[←hx,avg,auy]
 unfold aQ;rw[hl,auW,BN _ h0,auR,show fB (0,0) e=e by unfold fB;simp[hne],JH hne]
theorem vK {l:List Er} (h0:∀x∈l,x.1=0):aQ l=(0,0):=BN l h0
theorem VY (m:M):FN m.t=if fM ⟨m.s.toArray⟩ then (m.s,(0,0)) else ([],(20,m.pos)):=by unfold FN jh dh;rw[M.tu,M.Ff]
theorem Ho (m:M):bn m.t=(FN m.t).2:=by unfold bn FN;split<;>rfl
def yG (l:List T):List By×Er:=if (aQ (l.map bn)).1=0 then (l.map T.s,(0,0)) else ([],aQ (l.map bn))
theorem acb {l:List M} (h:∀x∈l,(bn x.t).1=0):yG (l.map M.t)=(l.map M.s,(0,0)):=by unfold yG;rw[if_pos ((fU _).2 fun e he=>?_)];rw[atI];congr 1;exact aug fun x _=>M.tu x;rw[atI]at he;obtain⟨x,hx,rfl⟩:=atV.1 he;exact h x hx
theorem Ro {l:List M} {k:Nat} {x:M} (h:∀y∈l.take k,(bn y.t).1=0) (hx:l[k]?=some x) (hne:(bn x.t).1≠0):yG (l.map M.t)=([],bn x.t):=by
 have hf:aQ ((l.map M.t).map bn)=bn x.t:=by refine uB (k:=k) (fun e he=>?_) ?_ hne;rw[atI,←auw]at he;obtain⟨y,hy,rfl⟩:=atV.1 he;exact h y hy;rw[atI,aul,hx];rfl
 unfold yG;rw[if_neg (by rw[hf];exact hne),hf]
def OW (R:List By×Er) (w:World) (e:Ending) (w':World):Prop:=∃X:eU By,e=.returned (.tuple #[.slice X.A X.l.length X.cap,.int .i64 R.2.1,.int .i64 (R.2.2:Int)])∧X.l=R.1∧aX 1 sc w.heap.size [] w' X∧Ev w w'
theorem zh (l:List M) (A:Option Addr) (n cap:Nat) (w:World) (h:Ms w A n cap l) (hn:n≤100000) (hs:∀x∈l,x.s.length≤1000000):
  Calls Tryz.prog 82 #[.slice A n cap] w (OW (yG (l.map M.t)) w):=by
 have hcl:=h.le;have hcm:=h.max;have HL:=zq h.len;have H:=zq h;have HRN:=zq (fun m (hm:m∈l) w1=>zG m w1 (hs m hm));have jR:Hid (aej w (.slice none 0 0) [] w):=zq ⟨Ow.nil_ _,Ev.refl _⟩;clear h hs;go_enter Tryz.func82,Tryz.ntmps82;go_wp2
 go_loopw [5,6] (fun av iv wr=>∃(A1:Option Addr) (cap1 k:Nat),av=.slice A1 k cap1∧iv=.int .i64 (k:Int)∧k≤n∧Hid (∀y∈l.take k,(bn y.t).1=0)∧Hid (aej w (.slice A1 k cap1) ((l.take k).map M.s) wr)) (fun _ iv _=>n - (intOf iv).toNat)
 case atStart=>exact⟨none,0,0,rfl,rfl,atG _,zq (fun y hy=>by simp at hy),jR⟩
 case round=>
  obtain⟨A1,cap1,k,rfl,rfl,hk,HZ,HS⟩:=hrel;by_cases hlt:k<n
  ·obtain⟨x,hx⟩:=H.out.at hlt;obtain⟨b,off,rfl,hb,c0,c1,c2,c3,c4⟩:=Ms.cell (H.out.ev HS.out.ev) hx;unfold M.kv at c3;have iF:=atw hx;have HN:=zq (HRN.out x iF);have hR:=VY x;have hE:=Ho x;rw[hR]at HN hE;have uS:Hid (((l.take k).map M.s).length=k):=zq (by rw[atq,aua,HL.out];omega);have pI:Hid ((l.take (k+1)).map M.s=(l.take k).map M.s++[x.s]∧((bn x.t).1=0→∀y∈l.take (k+1),(bn y.t).1=0)):=zq (by
    obtain⟨hk2,e1⟩:=atr.1 hx;rw[atD hk2,e1,atB];refine⟨rfl,fun h0 y hy=>?_⟩;rcases atK.1 hy with h1|h1;exact HZ.out y h1;simp at h1;subst h1;exact h0)
   have HX:=zq hx;have HE:=zq hE;have i1:(0:Int)≤(k:Int):=by omega
   have i2:(k:Int)<(n:Int):=by omega
   clear hx iF hR hE;generalize fM ⟨x.s.toArray⟩=q at*
   cases q
   ·simp only[atE,if_false]at HN HE
    go_wp2_with (first
     | ((with_reducible refine (HN.out _).mono ?_);rintro r w1 ⟨rfl,aH⟩))
    go_ret3
    refine⟨eU.nil,?_,?_,aX.nil ..,HS.out.ev.trans aH⟩;rw[Ro HZ.out HX.out (by rw[HE.out];simp),HE.out];rfl;rw[Ro HZ.out HX.out (by rw[HE.out];simp)];rfl
   simp only[if_true]at HN HE
   go_wp2_with (first
    | ((with_reducible refine (HN.out _).mono ?_);rintro r w1 ⟨rfl,aH⟩;simp only[];have S1:=zq (⟨HS.out.own.ev aH,HS.out.ev.trans aH⟩:aej w (.slice A1 k cap1) ((l.take k).map M.s) w1))
    | ((show wpList _ _ _ (⟨some 32,_,_,_,_,_⟩::_) _ _);refine aK (o:=⟨some 32,_,_,_,_,_⟩) rfl 22 (.tmp 29) (.tmp 31) rfl pG Tryz.underlying22 Tryz.G9 rfl rfl (S1.out.own.ev (Ev.alloc _ _)) (some ⟨w1.heap.size,0,none⟩) 1 1 [x.s] rfl (Sl.one (et:=9) pG w1 x.s _ rfl) (by rw[uS.out];simp;omega) (by rw[uS.out];simp;omega) (S1.out.ev.trans (Ev.alloc _ _)).size ?_;intro v2 w2 gz;have E2:Ev w w2:=((But.aS (S1.out.ev.trans (Ev.alloc _ _))).then gz.2.1).ev (fun k hk=>(S1.out.own.lt (aB.1 hk)).1);obtain⟨A2,cap2,rfl,_,ak'⟩:=gz.1.form pG;clear ak';generalize BX:((l.take k).map M.s++[x.s]).length=nn at gz⊢;have En:Hid (nn=k+1):=zq (by rw[←BX,atv,uS.out];rfl);clear BX;obtain rfl:=En.out))
   go_roundw
   case rel=>exact⟨A2,cap2,k+1,rfl,by go_num,by omega,zq (pI.out.2 (by rw[HE.out])),zq ⟨by rw[pI.out.1];exact gz.1,E2⟩⟩
   case measure=>simp[intOf];omega
  obtain rfl:k=n:=by omega
  have HT:Hid (l.take k=l):=zq (atJ (by rw[HL.out];exact att _));go_wp2
  go_ret3
  have A8:=acb (l:=l) (by have:=HZ.out;rwa [HT.out]at this);obtain⟨X,hXv,uZ,xy⟩:=HS.out.own.sle pG;rw[HT.out]at uZ;rw[A8];refine⟨X,?_,uZ,xy,HS.out.ev⟩;unfold eU.v at hXv;rw[hXv];rfl
theorem Tryz.oP:(Tryz.prog.info? 54).map (·.size)=some 3:=by kernel_rfl
def Tm (t:T):Ag×Er:=if (aQ (dQ t)).1=0 then (jQ t,(0,0)) else (([],[],[]),aQ (dQ t))
theorem Z7 (a:Er) (h:a.1≠0) (l:List Er):aQ (a::l)=a:=uB (k:=0) (fun x hx=>by simp at hx) rfl h
theorem aeS (a b:Er) (h0:a.1=0) (h:b.1≠0) (l:List Er):aQ (a::b::l)=b:=uB (k:=1) (fun x hx=>by simp at hx;subst hx;exact h0) rfl h
theorem JI (a b c:Er) (h0:a.1=0) (h1:b.1=0) (h:c.1≠0) (l:List Er):aQ (a::b::c::l)=c:=uB (k:=2) (fun x hx=>by simp at hx;rcases hx with rfl|rfl;exact h0;exact h1) rfl h
def Nw (R:Ag×Er) (w:World) (e:Ending) (w':World):Prop:=e=.returned (.tuple #[.agg #[.string ⟨R.1.1.toArray⟩,.string ⟨R.1.2.1.toArray⟩,.string ⟨R.1.2.2.toArray⟩],.int .i64 R.2.1,.int .i64 (R.2.2:Int)])∧Ev w w'
theorem adl (w:World):∃w0,w.alloc (.cells #[.string ⟨#[]⟩,.string ⟨#[]⟩,.string ⟨#[]⟩] 54)=w0∧Ev w w0∧Bx 54 w.heap.size #[.string ⟨#[]⟩,.string ⟨#[]⟩,.string ⟨#[]⟩] w0∧w0.heap.size=w.heap.size+1:=⟨_,rfl,Ev.alloc _ _,Bx.new _ _ _,by simp⟩
theorem uC {w w1:World} {g:Nat} {c0 c1 c2:Value} (hg:w.heap.size≤g) (hE:Ev w w1) (hB:Bx 54 g #[c0,c1,c2] w1) (v0 v1 v2:Value):Bx 54 g #[v0,v1,v2] (wP g v0 v1 v2 w1)∧Ev w (wP g v0 v1 v2 w1):=⟨hB.wP _ _ _,But.AP hE (tY g v0 v1 v2 w1) fun k hk=>by simp at hk;omega⟩
theorem ax0 {P:Prop} (h:P:=by refine bodyPost_ret (aF rfl _ _ _ _ _ rfl f1 Tryz.underlying54 rfl Tryz.oP) rfl ?_;exact⟨rfl,f2⟩):P:=h
theorem awu {P:Prop} (h:P:=by (try simp only[Exit.inBlock,Exit.then]);rw[cO];obtain⟨f1,f2⟩:=uC (w:=w) (att _) E1.out B1.out (.string ⟨#[]⟩) (.string ⟨#[]⟩) (.string ⟨#[]⟩);exact ax0):P:=h
theorem av3 {P:Prop} (h:P:=by
 go_region
 all_goals (
  go_wp2;(try simp only[Exit.inBlock,Exit.then]);rw[cO];obtain⟨f1,f2⟩:=uC (w:=w) (att _) (E1.out.trans (Ev.drew _)) (B1.out.ev (Ev.drew _)) (.string ⟨#[]⟩) (.string ⟨#[]⟩) (.string ⟨#[]⟩);refine bodyPost_ret (aF rfl _ _ _ _ _ rfl f1 Tryz.underlying54 rfl Tryz.oP) rfl ?_;exact⟨rfl,f2⟩
 )):P:=h
theorem acd (y a b:M) (w:World) (h:Ms w y.A y.kids.length y.cap y.kids) (hk:y.kids=[a,b]) (hs:∀x∈y.kids,x.s.length≤1000000):
  Calls Tryz.prog 83 #[.slice y.A y.kids.length y.cap] w (Nw (Tm y.t) w):=by
 have hR:Tm y.t=if (aQ [bn a.t,if isFun b.s false then (0,0) else (12,b.pos),(0,0)]).1=0 then ((a.s,b.s,[]),(0,0)) else (([],[],[]),aQ [bn a.t,if isFun b.s false then (0,0) else (12,b.pos),(0,0)]):=by unfold Tm dQ jQ;rw[M.aY,hk];simp[at_,M.tu,M.Ff]
 obtain⟨V,hV⟩:∃V,V=Tm y.t:=⟨_,rfl⟩
 rw[←hV];rw[hR]at hV;rw[hk]at h hs⊢;have ES:=zq (fun w1=>zG a w1 (hs a (by simp)));have hRA:=VY a;have Y6:=Ho a;have hcl:=h.le;have hcm:=h.max;obtain⟨bb,off,hA,Xo,_⟩:=Ms.cell h (i:=0) (x:=a) rfl;rw[hA]at h⊢;have Cc:=zq (fun w1 (hE:Ev w w1)=>Ms.pJ (h.ev hE) (i:=0) (x:=a) rfl);have wZ:=zq (fun w1 (hE:Ev w w1)=>Ms.pJ (h.ev hE) (i:=1) (x:=b) rfl);simp only[aud,atW]at Cc;simp only[auE]at wZ;simp only[atF,aur,atT,Nat.reduceAdd]at hcl⊢;obtain⟨w0,hw0,aT,hB0,Z8⟩:=adl w;have dH:=zq aT;have rQ:=zq hB0;obtain⟨⟨p0,p1,p2⟩,q0,q1,q2⟩:=hB0.three;obtain⟨a0,a1,a2,a3,a4⟩:=Cc.out _ aT;obtain⟨b0,b1,b2,b3,b4⟩:=wZ.out _ aT;rw[hRA]at ES Y6;rw[Y6]at hV;clear hRA Y6 hs h hA aT hB0 hk Z8 hR;generalize fM ⟨a.s.toArray⟩=qa at*;unfold Nw
 cases qa
 ·simp only[atE,if_false]at ES hV;rw[Z7 (20,a.pos) (by simp),if_neg (by simp)]at hV;subst hV;go_enter Tryz.func83,Tryz.ntmps83
  go_wp2_with (first
   | ((with_reducible refine (ES.out _).mono ?_);rintro r w1 ⟨rfl,aH⟩;simp only[];have E1:=zq (dH.out.trans aH);have B1:=zq (rQ.out.ev aH);clear aH p0 p1 p2 q0 q1 q2 a0 a1 a2 a3 a4 b0 b1 b2 b3 b4;obtain⟨⟨p0,p1,p2⟩,q0,q1,q2⟩:=B1.out.three;obtain⟨a0,a1,a2,a3,a4⟩:=Cc.out _ E1.out;obtain⟨b0,b1,b2,b3,b4⟩:=wZ.out _ E1.out))
  exact awu
 simp only[if_true]at ES hV;by_cases hc:b.s=iH
 ·have hv2:V=((a.s,iH,[]),(0,0)):=by rw[hV,hc];rfl
  subst hv2;clear hV;rw[hc]at b1 wZ;clear hc;unfold iH at*;go_enter Tryz.func83,Tryz.ntmps83
  go_wp2_with (first
   | ((with_reducible refine (ES.out _).mono ?_);rintro r w1 ⟨rfl,aH⟩;simp only[];have E1:=zq (dH.out.trans aH);have B1:=zq (rQ.out.ev aH);clear aH p0 p1 p2 q0 q1 q2 a0 a1 a2 a3 a4 b0 b1 b2 b3 b4;obtain⟨⟨p0,p1,p2⟩,q0,q1,q2⟩:=B1.out.three;obtain⟨a0,a1,a2,a3,a4⟩:=Cc.out _ E1.out;obtain⟨b0,b1,b2,b3,b4⟩:=wZ.out _ E1.out))
  (try simp only[Exit.inBlock,Exit.then]);rw[cO];obtain⟨f1,f2⟩:=uC (w:=w) (att _) E1.out B1.out (.string ⟨a.s.toArray⟩) (.string ⟨#[99,111,117,110,116]⟩) (.string ⟨#[]⟩);exact ax0
 have hcb:(b.s==iH)=false:=atp.2 hc;have hf:isFun b.s false=false:=by unfold isFun;rw[hcb];split<;>rfl
 have hv2:V=(([],[],[]),(12,b.pos)):=by rw[hV,hf];rfl
 subst hv2;clear hV hf;unfold iH at*;go_enter Tryz.func83,Tryz.ntmps83;go_upto_region 5 with (first
  | ((with_reducible refine (ES.out _).mono ?_);rintro r w1 ⟨rfl,aH⟩;simp only[];have E1:=zq (dH.out.trans aH);have B1:=zq (rQ.out.ev aH);clear aH p0 p1 p2 q0 q1 q2 a0 a1 a2 a3 a4 b0 b1 b2 b3 b4;obtain⟨⟨p0,p1,p2⟩,q0,q1,q2⟩:=B1.out.three;obtain⟨a0,a1,a2,a3,a4⟩:=Cc.out _ E1.out;obtain⟨b0,b1,b2,b3,b4⟩:=wZ.out _ E1.out))
 exact av3
theorem avv {P:Prop} (h:P:=by
 simp only[atE,if_false]at OX hV;rw[JI (0,0) (0,0) (20,c.pos) rfl rfl (by simp),if_neg (by simp)]at hV;subst hV
 try unfold uj at*
 try unfold uk at*
 try unfold um at*
 go_enter Tryz.func83,Tryz.ntmps83
 go_wp2_with (first
  | (have hh:=E1.out;(with_reducible refine (OX.out _).mono ?_);rintro r w2 ⟨rfl,bK⟩;simp only[];have E2:=zq (E1.out.trans bK);have B2:=zq (B1.out.ev bK);clear bK p0 p1 p2 q0 q1 q2 a0 a1 a2 a3 a4 b0 b1 b2 b3 b4 d0 d1 d2 d3 d4;obtain⟨⟨p0,p1,p2⟩,q0,q1,q2⟩:=B2.out.three;obtain⟨a0,a1,a2,a3,a4⟩:=Cc.out _ E2.out;obtain⟨b0,b1,b2,b3,b4⟩:=wZ.out _ E2.out;obtain⟨d0,d1,d2,d3,d4⟩:=QJ.out _ E2.out)
  | ((with_reducible refine (ES.out _).mono ?_);rintro r w1 ⟨rfl,aH⟩;simp only[];have E1:=zq (dH.out.trans aH);have B1:=zq (rQ.out.ev aH);clear aH p0 p1 p2 q0 q1 q2 a0 a1 a2 a3 a4 b0 b1 b2 b3 b4 d0 d1 d2 d3 d4;obtain⟨⟨p0,p1,p2⟩,q0,q1,q2⟩:=B1.out.three;obtain⟨a0,a1,a2,a3,a4⟩:=Cc.out _ E1.out;obtain⟨b0,b1,b2,b3,b4⟩:=wZ.out _ E1.out;obtain⟨d0,d1,d2,d3,d4⟩:=QJ.out _ E1.out))
 (try simp only[Exit.inBlock,Exit.then]);rw[cO];obtain⟨f1,f2⟩:=uC (w:=w) (att _) E2.out B2.out (.string ⟨#[]⟩) (.string ⟨#[]⟩) (.string ⟨#[]⟩);exact ax0):P:=h
theorem ace (y a b c:M) (w:World) (h:Ms w y.A y.kids.length y.cap y.kids) (hk:y.kids=[a,b,c]) (hs:∀x∈y.kids,x.s.length≤1000000):
  Calls Tryz.prog 83 #[.slice y.A y.kids.length y.cap] w (Nw (Tm y.t) w):=by
 have hR:Tm y.t=if (aQ [bn a.t,if isFun b.s true then (0,0) else (12,b.pos),bn c.t]).1=0 then ((a.s,b.s,c.s),(0,0)) else (([],[],[]),aQ [bn a.t,if isFun b.s true then (0,0) else (12,b.pos),bn c.t]):=by unfold Tm dQ jQ;rw[M.aY,hk];simp[at_,M.tu,M.Ff]
 obtain⟨V,hV⟩:∃V,V=Tm y.t:=⟨_,rfl⟩
 rw[←hV];rw[hR]at hV;rw[hk]at h hs⊢;have ES:=zq (fun w1=>zG a w1 (hs a (by simp)));have OX:=zq (fun w1=>zG c w1 (hs c (by simp)));have hRC:=VY c;have hEC:=Ho c;rw[hRC]at OX hEC;rw[hEC]at hV;clear hRC hEC;generalize fM ⟨c.s.toArray⟩=qc at*;have hRA:=VY a;have Y6:=Ho a;have hcl:=h.le;have hcm:=h.max;obtain⟨bb,off,hA,Xo,_⟩:=Ms.cell h (i:=0) (x:=a) rfl;rw[hA]at h⊢;have Cc:=zq (fun w1 (hE:Ev w w1)=>Ms.pJ (h.ev hE) (i:=0) (x:=a) rfl);have wZ:=zq (fun w1 (hE:Ev w w1)=>Ms.pJ (h.ev hE) (i:=1) (x:=b) rfl);have QJ:=zq (fun w1 (hE:Ev w w1)=>Ms.pJ (h.ev hE) (i:=2) (x:=c) rfl);simp only[aud,atW]at Cc;simp only[auE]at wZ;simp only[atF,aur,atT,Nat.reduceAdd]at hcl⊢;obtain⟨w0,hw0,aT,hB0,Z8⟩:=adl w;have dH:=zq aT;have rQ:=zq hB0;obtain⟨⟨p0,p1,p2⟩,q0,q1,q2⟩:=hB0.three;obtain⟨a0,a1,a2,a3,a4⟩:=Cc.out _ aT;obtain⟨b0,b1,b2,b3,b4⟩:=wZ.out _ aT;obtain⟨d0,d1,d2,d3,d4⟩:=QJ.out _ aT;rw[hRA]at ES Y6;rw[Y6]at hV;clear hRA Y6 hs h hA aT hB0 hk Z8 hR;generalize fM ⟨a.s.toArray⟩=qa at*;unfold Nw
 cases qa
 ·simp only[atE,if_false]at ES hV;rw[Z7 (20,a.pos) (by simp),if_neg (by simp)]at hV;subst hV;go_enter Tryz.func83,Tryz.ntmps83
  go_wp2_with (first
   | ((with_reducible refine (ES.out _).mono ?_);rintro r w1 ⟨rfl,aH⟩;simp only[];have E1:=zq (dH.out.trans aH);have B1:=zq (rQ.out.ev aH);clear aH p0 p1 p2 q0 q1 q2 a0 a1 a2 a3 a4 b0 b1 b2 b3 b4 d0 d1 d2 d3 d4;obtain⟨⟨p0,p1,p2⟩,q0,q1,q2⟩:=B1.out.three;obtain⟨a0,a1,a2,a3,a4⟩:=Cc.out _ E1.out;obtain⟨b0,b1,b2,b3,b4⟩:=wZ.out _ E1.out;obtain⟨d0,d1,d2,d3,d4⟩:=QJ.out _ E1.out))
  exact awu
 simp only[if_true]at ES hV;by_cases C9:b.s=uj
 ·have hf:isFun b.s true=true:=by rw[C9];rfl
  rw[hf,if_pos rfl]at hV;have HBS:=zq C9;rw[C9]at b1 wZ hV;clear hf C9
  cases qc
  exact avv;simp only[if_true]at OX hV;have hv2:V=((a.s,uj,c.s),(0,0)):=by rw[hV];rfl
  subst hv2;clear hV
  try unfold uj at*
  try unfold uk at*
  try unfold um at*
  go_enter Tryz.func83,Tryz.ntmps83
  go_wp2_with (first
   | (have hh:=E1.out;(with_reducible refine (OX.out _).mono ?_);rintro r w2 ⟨rfl,bK⟩;simp only[];have E2:=zq (E1.out.trans bK);have B2:=zq (B1.out.ev bK);clear bK p0 p1 p2 q0 q1 q2 a0 a1 a2 a3 a4 b0 b1 b2 b3 b4 d0 d1 d2 d3 d4;obtain⟨⟨p0,p1,p2⟩,q0,q1,q2⟩:=B2.out.three;obtain⟨a0,a1,a2,a3,a4⟩:=Cc.out _ E2.out;obtain⟨b0,b1,b2,b3,b4⟩:=wZ.out _ E2.out;obtain⟨d0,d1,d2,d3,d4⟩:=QJ.out _ E2.out)
   | ((with_reducible refine (ES.out _).mono ?_);rintro r w1 ⟨rfl,aH⟩;simp only[];have E1:=zq (dH.out.trans aH);have B1:=zq (rQ.out.ev aH);clear aH p0 p1 p2 q0 q1 q2 a0 a1 a2 a3 a4 b0 b1 b2 b3 b4 d0 d1 d2 d3 d4;obtain⟨⟨p0,p1,p2⟩,q0,q1,q2⟩:=B1.out.three;obtain⟨a0,a1,a2,a3,a4⟩:=Cc.out _ E1.out;obtain⟨b0,b1,b2,b3,b4⟩:=wZ.out _ E1.out;obtain⟨d0,d1,d2,d3,d4⟩:=QJ.out _ E1.out))
  (try simp only[Exit.inBlock,Exit.then]);rw[cO];obtain⟨f1,f2⟩:=uC (w:=w) (att _) E2.out B2.out (.string ⟨a.s.toArray⟩) (.string ⟨#[115,117,109]⟩) (.string ⟨c.s.toArray⟩);exact ax0
 have ahj:(b.s==uj)=false:=atp.2 C9;by_cases C_:b.s=uk
 ·have hf:isFun b.s true=true:=by rw[C_];rfl
  rw[hf,if_pos rfl]at hV;have HBS:=zq C_;rw[C_]at b1 wZ hV;clear hf C_
  cases qc
  exact avv;simp only[if_true]at OX hV;have hv2:V=((a.s,uk,c.s),(0,0)):=by rw[hV];rfl
  subst hv2;clear hV
  try unfold uj at*
  try unfold uk at*
  try unfold um at*
  go_enter Tryz.func83,Tryz.ntmps83
  go_wp2_with (first
   | (have hh:=E1.out;(with_reducible refine (OX.out _).mono ?_);rintro r w2 ⟨rfl,bK⟩;simp only[];have E2:=zq (E1.out.trans bK);have B2:=zq (B1.out.ev bK);clear bK p0 p1 p2 q0 q1 q2 a0 a1 a2 a3 a4 b0 b1 b2 b3 b4 d0 d1 d2 d3 d4;obtain⟨⟨p0,p1,p2⟩,q0,q1,q2⟩:=B2.out.three;obtain⟨a0,a1,a2,a3,a4⟩:=Cc.out _ E2.out;obtain⟨b0,b1,b2,b3,b4⟩:=wZ.out _ E2.out;obtain⟨d0,d1,d2,d3,d4⟩:=QJ.out _ E2.out)
   | ((with_reducible refine (ES.out _).mono ?_);rintro r w1 ⟨rfl,aH⟩;simp only[];have E1:=zq (dH.out.trans aH);have B1:=zq (rQ.out.ev aH);clear aH p0 p1 p2 q0 q1 q2 a0 a1 a2 a3 a4 b0 b1 b2 b3 b4 d0 d1 d2 d3 d4;obtain⟨⟨p0,p1,p2⟩,q0,q1,q2⟩:=B1.out.three;obtain⟨a0,a1,a2,a3,a4⟩:=Cc.out _ E1.out;obtain⟨b0,b1,b2,b3,b4⟩:=wZ.out _ E1.out;obtain⟨d0,d1,d2,d3,d4⟩:=QJ.out _ E1.out))
  (try simp only[Exit.inBlock,Exit.then]);rw[cO];obtain⟨f1,f2⟩:=uC (w:=w) (att _) E2.out B2.out (.string ⟨a.s.toArray⟩) (.string ⟨#[109,105,110]⟩) (.string ⟨c.s.toArray⟩);exact ax0
 have ahk:(b.s==uk)=false:=atp.2 C_;by_cases Dc:b.s=um
 ·have hf:isFun b.s true=true:=by rw[Dc];rfl
  rw[hf,if_pos rfl]at hV;have HBS:=zq Dc;rw[Dc]at b1 wZ hV;clear hf Dc
  cases qc
  exact avv;simp only[if_true]at OX hV;have hv2:V=((a.s,um,c.s),(0,0)):=by rw[hV];rfl
  subst hv2;clear hV
  try unfold uj at*
  try unfold uk at*
  try unfold um at*
  go_enter Tryz.func83,Tryz.ntmps83
  go_wp2_with (first
   | (have hh:=E1.out;(with_reducible refine (OX.out _).mono ?_);rintro r w2 ⟨rfl,bK⟩;simp only[];have E2:=zq (E1.out.trans bK);have B2:=zq (B1.out.ev bK);clear bK p0 p1 p2 q0 q1 q2 a0 a1 a2 a3 a4 b0 b1 b2 b3 b4 d0 d1 d2 d3 d4;obtain⟨⟨p0,p1,p2⟩,q0,q1,q2⟩:=B2.out.three;obtain⟨a0,a1,a2,a3,a4⟩:=Cc.out _ E2.out;obtain⟨b0,b1,b2,b3,b4⟩:=wZ.out _ E2.out;obtain⟨d0,d1,d2,d3,d4⟩:=QJ.out _ E2.out)
   | ((with_reducible refine (ES.out _).mono ?_);rintro r w1 ⟨rfl,aH⟩;simp only[];have E1:=zq (dH.out.trans aH);have B1:=zq (rQ.out.ev aH);clear aH p0 p1 p2 q0 q1 q2 a0 a1 a2 a3 a4 b0 b1 b2 b3 b4 d0 d1 d2 d3 d4;obtain⟨⟨p0,p1,p2⟩,q0,q1,q2⟩:=B1.out.three;obtain⟨a0,a1,a2,a3,a4⟩:=Cc.out _ E1.out;obtain⟨b0,b1,b2,b3,b4⟩:=wZ.out _ E1.out;obtain⟨d0,d1,d2,d3,d4⟩:=QJ.out _ E1.out))
  (try simp only[Exit.inBlock,Exit.then]);rw[cO];obtain⟨f1,f2⟩:=uC (w:=w) (att _) E2.out B2.out (.string ⟨a.s.toArray⟩) (.string ⟨#[109,97,120]⟩) (.string ⟨c.s.toArray⟩);exact ax0
 have ahl:(b.s==um)=false:=atp.2 Dc;have hf:isFun b.s true=false:=by unfold isFun;rw[ahj,ahk,ahl];simp only[Bool.or_false,atE,if_false];split<;>rfl
 rw[hf]at hV;simp only[atE,if_false]at hV;rw[aeS (0,0) (12,b.pos) rfl (by simp),if_neg (by simp)]at hV;subst hV;clear hf C9 C_ Dc
 try unfold uj at*
 try unfold uk at*
 try unfold um at*
 go_enter Tryz.func83,Tryz.ntmps83;go_upto_region 9 with (first
  | ((with_reducible refine (ES.out _).mono ?_);rintro r w1 ⟨rfl,aH⟩;simp only[];have E1:=zq (dH.out.trans aH);have B1:=zq (rQ.out.ev aH);clear aH p0 p1 p2 q0 q1 q2 a0 a1 a2 a3 a4 b0 b1 b2 b3 b4 d0 d1 d2 d3 d4;obtain⟨⟨p0,p1,p2⟩,q0,q1,q2⟩:=B1.out.three;obtain⟨a0,a1,a2,a3,a4⟩:=Cc.out _ E1.out;obtain⟨b0,b1,b2,b3,b4⟩:=wZ.out _ E1.out;obtain⟨d0,d1,d2,d3,d4⟩:=QJ.out _ E1.out))
 exact av3
theorem fK.adm {gr base j:Nat} {r:CR} {v:Value} {w:World} (h:fK gr base r v w) (hj:r.cols.length=j+1):∃g cap,v=.slice (some ⟨g,0,none⟩) (j+1) cap:=by
 obtain⟨A,cap,hv,hS,hA⟩:=h.own.form nM;rw[hj]at hv hS;obtain⟨b,off,e,_,_⟩:=hS.rd (by omega);have h2:=(hA _ e).2.2.2.1;injection h2 with _ h3 _
 exact⟨b,cap,by rw[hv,e,h3]⟩
theorem fK.last {gr base g cap n:Nat} {l:List C} {nm s:ByteArray} {k why:Int} {w:World} {j:Nat} (h:fK gr base ⟨l++[(nm,k)],why,s⟩ (.slice (some ⟨g,0,none⟩) n cap) w) (hj:l.length=j):w.cell? ⟨g,j*2+1,none⟩=some (.int .i64 k)∧w.frozen? ⟨g,j*2+1,none⟩=false:=by
 obtain⟨A,cap2,hv,hS,hA⟩:=h.own.form nM;injection hv with h1 h2 h3
 subst h1;obtain⟨b,off,e,_,k1⟩:=Cs.I_ hS (i:=j) (c:=(nm,k)) (by rw[←hj];simp);injection e with e
 injection e with e1 e2 _
 subst e1;subst e2;refine⟨by simpa using k1,?_⟩;have:=(hA _ rfl).2.2.2.2 (j*2+1);exact this
theorem aeT (w:World) (c0 c1 c2:Value):∃w0,w.alloc (.cells #[c0,c1,c2] 54)=w0∧Ev w w0∧Bx 54 w.heap.size #[c0,c1,c2] w0∧w0.heap.size=w.heap.size+1:=⟨_,rfl,Ev.alloc _ _,Bx.new _ _ _,by simp⟩
theorem fK.kinds {gr base g cap:Nat} {why:Int} {nm s:ByteArray} {k k2:Int} {l:List C} {w:World} {n:Nat} (h:fK gr base ⟨l++[(nm,k)],why,s⟩ (.slice (some ⟨g,0,none⟩) n cap) w):
  fK gr base ⟨l++[(nm,k2)],why,s⟩ (.slice (some ⟨g,0,none⟩) n cap) (w.setCell ⟨g,l.length*2+1,none⟩ (.int .i64 k2)):=by
 have hne:gr≠g:=fun e=>h.gf (aB.2 (by rw[e];rfl));refine⟨h.box.but (But.setCell (K:=[g]) ⟨g,_,none⟩ _ (by simp)) (by simpa using hne),?_,h.gf⟩;have h1:=h.own.set nM (i:=l.length) (j:=1) (x:=(nm,k)) (x':=(nm,k2)) (u:=.int .i64 k2) (by simp) (by decide) rfl;rwa [show (l++[(nm,k)]).set l.length (nm,k2)=l++[(nm,k2)] by rw[List.set_append_right _ _ (att _)];simp]at h1
theorem CR.Xv (r:CR) (nm:ByteArray) (k:Int):∃why name,∀k2,r.add nm k2=⟨r.cols++[(nm,k2)],why,name⟩:=by
 unfold CR.add;simp only
 cases (iO r.cols nm).isSome
 exact⟨r.why,r.name,fun k2=>rfl⟩;refine⟨(r.fail 21 nm).why,(r.fail 21 nm).name,fun k2=>?_⟩;simp only[if_true];rw[CR.f_]
theorem CR.Rq (r:CR) (nm:ByteArray) (k k2:Int) (l:List C) (s:ByteArray):∃why name,(r.add nm k).find l s=⟨r.cols++[(nm,k)],why,name⟩∧(r.add nm k2).find l s=⟨r.cols++[(nm,k2)],why,name⟩:=by
 obtain⟨why,name,h⟩:=CR.Xv r nm k;rw[h k,h k2];unfold CR.find CR.fail
 cases (iO l s).isSome
 simp only[atE,if_false];by_cases hw:why=0;exact⟨20,s,by simp[hw],by simp[hw]⟩;exact⟨why,name,by simp[hw],by simp[hw]⟩;exact⟨why,name,rfl,rfl⟩
theorem axd {P:Prop} (h:P:=by simp at hx;rcases hx with rfl|rfl;exact .inl (atz ..);rcases JK.out _ rfl with h1|h1;exact .inl (aty _ (aB.2 h1));exact .inr h1):P:=h
theorem avj {P:Prop} (h:P:=by
 refine iW fJ (fun u=>But [gr,g] w1 u∧u.cell? ⟨gr,0,none⟩=some (.slice (some ⟨g,0,none⟩) (j+1) cap1)) (But [gr,g]) [14,17] (fun p u=>fK gr base (if p=0 then r.add ⟨a.1.toArray⟩ 1 else if p=1 then (r.add ⟨a.1.toArray⟩ 1).find kid ⟨a.2.2.toArray⟩ else (r.add ⟨a.1.toArray⟩ (dR kid ⟨a.2.2.toArray⟩)).find kid ⟨a.2.2.toArray⟩) (.slice (some ⟨g,0,none⟩) (j+1) cap1) u) [fun v _=>v=.pointer (some ⟨gr,0,none⟩),fun v _=>v=.pointer (some ⟨gr,0,none⟩),fun v _=>v=.pointer (some ⟨gr,0,none⟩),fun v _=>v=.slice (some ⟨g,0,none⟩) (j+1) cap1,fun v _=>v=.pointer (some ⟨gr,0,none⟩),fun v _=>v=.pointer (some ⟨gr,0,none⟩),fun v _=>v=.pointer (some ⟨gr,0,none⟩),fun v _=>v=.slice (some ⟨g,0,none⟩) (j+1) cap1,fun v _=>v=.int .i64 ((j:Int)+1),fun v _=>v=.int .i64 (j:Int),fun v _=>v=.pointer (some ⟨gr,0,none⟩),fun v _=>v=.slice A n cap,fun v _=>v=.pointer (some ⟨w.heap.size,2,none⟩),fun v _=>v=.string ⟨a.2.2.toArray⟩,fun v _=>v=.int .i64 (dR kid ⟨a.2.2.toArray⟩),fun v _=>v=.pointer (some ⟨g,j*2,none⟩),fun v _=>v=.pointer (some ⟨g,j*2+1,none⟩),fun _ _=>True]
  44 2 rfl (by kernel_rfl) ⟨az _,az _,az _,az _,az _,az _,az _,az _,az _,az _,az _,az _,az _,az _,az _,az _,az _,eG,trivial⟩ ⟨fun _ _ _ _ h=>h,fun _ _ _ _ h=>h,fun _ _ _ _ h=>h,fun _ _ _ _ h=>h,fun _ _ _ _ h=>h,fun _ _ _ _ h=>h,fun _ _ _ _ h=>h,fun _ _ _ _ h=>h,fun _ _ _ _ h=>h,fun _ _ _ _ h=>h,fun _ _ _ _ h=>h,fun _ _ _ _ h=>h,fun _ _ _ _ h=>h,fun _ _ _ _ h=>h,fun _ _ _ _ h=>h,fun _ _ _ _ h=>h,fun _ _ _ _ h=>h,fun _ _ _ _ h=>h,trivial⟩ (by kernel_rfl) (fun _ _ _ hE h=>h.ev hE) (fun u u' hE h=>⟨h.1.then (But.aS hE),(hE.cell (p:=⟨gr,0,none⟩) (atM HGL.out h.1.size)).trans h.2⟩) (⟨But.refl _ _,lX.out.box.cell 0⟩) (lX.out) (by kernel_rfl) ?_ ?_ ?_
 ·refine aI 0 ?_ (aI 1 ?_ (aI 2 ?_ (aI 3 ?_ (aI 4 ?_ (aI 5 ?_ (aI 6 ?_ (aI 7 ?_ (aI 8 ?_ (aI 9 ?_ (aI 10 ?_ (aI 11 ?_ (aI 12 ?_ (aI 13 ?_ (cu 14 (by decide) (aI 15 ?_ (aI 16 ?_ (cu 17 (by decide) (oL 18))))))))))))))))));exact ayn
  ·refine aO fun a_ wq c=>⟨(ay rfl),.pointer (some ⟨gr,0,none⟩),?_,rfl⟩
   have bI:a_.eval (.tmp 27)=.pointer (some ⟨gr,0,none⟩):=(c.new 0 27)
   generalize a_.eval=ρ at bI⊢;simp[execOp,bI,go_sem]
  ·refine aO fun a_ wq c=>⟨(ay rfl),.pointer (some ⟨gr,0,none⟩),?_,rfl⟩
   have bI:a_.eval (.tmp 28)=.pointer (some ⟨gr,0,none⟩):=(c.new 1 28)
   generalize a_.eval=ρ at bI⊢;simp[execOp,bI,go_sem]
  ·refine aO fun a_ wq c=>⟨(ay rfl),.slice (some ⟨g,0,none⟩) (j+1) cap1,?_,rfl⟩
   have bI:a_.eval (.tmp 29)=.pointer (some ⟨gr,0,none⟩):=(c.new 2 29)
   have hc:=c.inv.2;generalize a_.eval=ρ at bI⊢;simp[execOp,bI,hc,go_sem]
  exact ayn
  ·refine aO fun a_ wq c=>⟨(ay rfl),.pointer (some ⟨gr,0,none⟩),?_,rfl⟩
   have bI:a_.eval (.tmp 31)=.pointer (some ⟨gr,0,none⟩):=(c.new 4 31)
   generalize a_.eval=ρ at bI⊢;simp[execOp,bI,go_sem]
  ·refine aO fun a_ wq c=>⟨(ay rfl),.pointer (some ⟨gr,0,none⟩),?_,rfl⟩
   have bI:a_.eval (.tmp 32)=.pointer (some ⟨gr,0,none⟩):=(c.new 5 32)
   generalize a_.eval=ρ at bI⊢;simp[execOp,bI,go_sem]
  ·refine aO fun a_ wq c=>⟨(ay rfl),.slice (some ⟨g,0,none⟩) (j+1) cap1,?_,rfl⟩
   have bI:a_.eval (.tmp 33)=.pointer (some ⟨gr,0,none⟩):=(c.new 6 33)
   have hc:=c.inv.2;generalize a_.eval=ρ at bI⊢;simp[execOp,bI,hc,go_sem]
  ·refine aO fun a_ wq c=>⟨(ay rfl),.int .i64 ((j:Int)+1),?_,rfl⟩
   have bI:a_.eval (.tmp 34)=.slice (some ⟨g,0,none⟩) (j+1) cap1:=(c.new 7 34)
   generalize a_.eval=ρ at bI⊢;simp[bI,go_sem]
  ·refine aO fun a_ wq c=>⟨(ay rfl),.int .i64 (j:Int),?_,rfl⟩
   have bI:a_.eval (.tmp 35)=.int .i64 ((j:Int)+1):=(c.new 8 35)
   have uf:a_.eval (.const (.int .i64 1))=.int .i64 1:=rfl;generalize a_.eval=ρ at bI uf⊢;simp[execOp,bI,uf,go_sem,hj1]
  exact ayn;refine aO fun a w c=>⟨(ay rfl),_,run_move _ rfl w,(c.was 2 rfl)⟩
  ·refine aO fun a_ wq c=>⟨(ay rfl),.pointer (some ⟨w.heap.size,2,none⟩),?_,rfl⟩
   have bI:a_.eval (.tmp 4)=.pointer (some ⟨w.heap.size,0,none⟩):=(c.was 4 rfl)
   generalize a_.eval=ρ at bI⊢;simp[execOp,bI,go_sem]
  ·refine aO fun a_ wq c=>⟨(ay rfl),.string ⟨a.2.2.toArray⟩,?_,rfl⟩
   have bI:a_.eval (.tmp 39)=.pointer (some ⟨w.heap.size,2,none⟩):=(c.new 12 39)
   have hc:=(HBW.out wq c.inv.1).cell 2;have hc:wq.cell? ⟨w.heap.size,2,none⟩=some (.string ⟨a.2.2.toArray⟩):=hc;generalize a_.eval=ρ at bI⊢;simp[execOp,bI,hc,go_sem]
  ·refine aO fun a_ wq c=>⟨(ay rfl),.pointer (some ⟨g,j*2,none⟩),?_,rfl⟩
   have bI:a_.eval (.tmp 30)=.slice (some ⟨g,0,none⟩) (j+1) cap1:=(c.new 3 30)
   have nz:a_.eval (.tmp 36)=.int .i64 (j:Int):=(c.new 9 36)
   generalize a_.eval=ρ at bI nz⊢;simp[execOp,bI,nz,go_sem,hj2]
  refine aO fun a_ wq c=>⟨(ay rfl),.pointer (some ⟨g,j*2+1,none⟩),?_,rfl⟩
  have bI:a_.eval (.tmp 42)=.pointer (some ⟨g,j*2,none⟩):=(c.new 15 42)
  generalize a_.eval=ρ at bI⊢;simp[execOp,bI,go_sem]
 ·refine gy 0 rfl ?_ (gy 1 rfl ?_ (qM 2));refine l9 fun a_ wq c st=>⟨ay rfl,71,#[.pointer (some ⟨gr,0,none⟩),.slice A n cap,.string ⟨a.2.2.toArray⟩],?_,?_⟩
  rw[bP 71 _ _ rfl (by kernel_rfl)];have bI:a_.eval (.tmp 37)=.pointer (some ⟨gr,0,none⟩):=(c.new 10 37)
  have nz:a_.eval (.tmp 38)=.slice A n cap:=(c.new 11 38)
  have e_2:a_.eval (.tmp 40)=.string ⟨a.2.2.toArray⟩:=(c.new 13 40)
  simp[bI,nz,e_2];refine (HFF.out _ wq st (HBK.out wq c.inv.1)).mono ?_;rintro e wp ⟨rfl,hR2,hB2⟩;have pq:But [gr,g] wq wp:=hB2.wide fun k hk=>.inl (by simp at hk;simp[hk]);exact⟨_,rfl,pq,⟨c.inv.1.then pq,hR2.box.cell 0⟩,hR2,rfl⟩;refine tJ rfl fun a_ wq c st=>?_;have bI:a_.eval (.tmp 43)=.pointer (some ⟨g,j*2+1,none⟩):=(c.new 16 43)
  have nz:a_.eval (.tmp 41)=.int .i64 (dR kid ⟨a.2.2.toArray⟩):=(c.new 14 41)
  have hst:fK gr base ⟨r.cols++[(⟨a.1.toArray⟩,1)],y1,s1⟩ (.slice (some ⟨g,0,none⟩) (j+1) cap1) wq:=HF1.out▸st;obtain⟨hc,hfz⟩:=hst.last HJ.out;refine⟨ay rfl,wq.setCell ⟨g,j*2+1,none⟩ (.int .i64 (dR kid ⟨a.2.2.toArray⟩)),?_,But.setCell _ _ (by simp),⟨c.inv.1.then (But.setCell _ _ (by simp)),?_⟩,?_,trivial⟩
  ·generalize a_.eval=ρ at bI nz⊢;simp[execOp,bI,nz,go_sem,hc,hfz]
  have hk:=hst.kinds (k2:=dR kid ⟨a.2.2.toArray⟩);rw[HJ.out]at hk;exact hk.box.cell 0;have hk:=hst.kinds (k2:=dR kid ⟨a.2.2.toArray⟩);rw[HJ.out]at hk;show fK gr base ((r.add ⟨a.1.toArray⟩ (dR kid ⟨a.2.2.toArray⟩)).find kid ⟨a.2.2.toArray⟩) _ _;rw[Ua.out];exact hk
 intro sl w9 hI hold hnew hst;have f0:sl 0=.pointer (some ⟨gr,0,none⟩):=hold 0;have f2:sl 2=.slice A n cap:=hold 2;have f4:sl 4=.pointer (some ⟨w.heap.size,0,none⟩):=hold 4;have f43:sl 43=.pointer (some ⟨g,j*2+1,none⟩):=hnew 16 43;change Exit.inBlock _ _ .normal ⟨_,_⟩ _;simp only[List.range,List.range.loop,List.map];simp only[f0,f2,f4,f43];clear hold hnew;go_wp2;go_end0;exact⟨rfl,_,hst,(But.aS dH.out).then (HBK.out w9 hI.1),fun g' hg=>(JK.out g' hg).imp_right fun h=>atP dH.out.size h⟩):P:=h
theorem aeU (gr base:Nat) (r:CR) (v:Value) (a:Ag) (kid:List C) (A:Option Addr) (n cap:Nat) (w:World) (h:fK gr base r v w) (hl:r.cols.length≤100000) (hb:base≤w.heap.size) (hC:Cs w A n cap kid) (hK:∀ad,A=some ad→ad.block∉gr::foot v) (hAl:∀ad,A=some ad→ad.block<w.heap.size):
  Calls Tryz.prog 74 #[.pointer (some ⟨gr,0,none⟩),.agg #[.string ⟨a.1.toArray⟩,.string ⟨a.2.1.toArray⟩,.string ⟨a.2.2.toArray⟩],.slice A n cap] w (Bo gr base (r.agg kid a) v w):=by
 have fJ:Tryz.prog.follows .mixedOrders=true:=by kernel_rfl
 obtain⟨w0,hw0,aT,hB0,hs0⟩:=aeT w (.string ⟨a.1.toArray⟩) (.string ⟨a.2.1.toArray⟩) (.string ⟨a.2.2.toArray⟩);have HA1:=zq (OA gr base r v (dh a.1) 1 w0 (h.ev aT) hl (atP hb aT.size));have Ot:=h.box.lt;have HFF:=fun (v':Value) (w1:World) (hR:fK gr base (r.add (dh a.1) 1) v' w1) (hb1:But (gr::foot v) w0 w1)=>Ha gr base (r.add (dh a.1) 1) v' kid A n cap (dh a.2.2) w1 hR ((hC.ev aT).but hb1 hK);have HFW:=fun (v':Value) (w1:World) (hR:fK gr base ((r.add (dh a.1) 1).find kid (dh a.2.2)) v' w1)=>mM gr base ((r.add (dh a.1) 1).find kid (dh a.2.2)) v' 22 (dh a.2.2) w1 hR;unfold dh Bo at HA1;unfold dh at HFF HFW;have HFF:=zq HFF;have HFW:=zq HFW;have dH:=zq aT;have rQ:=zq hB0;have hgf:w.heap.size∉gr::foot v:=by intro hm;rcases atA.1 hm with e|e;omega;have:=(h.own.lt (aB.1 e)).2;omega
 have HGF:=zq hgf;obtain⟨⟨c0,c1,c2⟩,_⟩:=hB0.three;have hAg:CR.agg r kid a=if a.2.1==uj then (if dR kid ⟨a.2.2.toArray⟩=1 then (r.add ⟨a.1.toArray⟩ 1).find kid ⟨a.2.2.toArray⟩ else ((r.add ⟨a.1.toArray⟩ 1).find kid ⟨a.2.2.toArray⟩).fail 22 ⟨a.2.2.toArray⟩) else if a.2.1==uk||a.2.1==um then (r.add ⟨a.1.toArray⟩ (dR kid ⟨a.2.2.toArray⟩)).find kid ⟨a.2.2.toArray⟩ else r.add ⟨a.1.toArray⟩ 1:=rfl;rw[hAg];clear h hC aT hB0 hs0 hgf hAg;generalize ha2:a.2.1=f2 at*;clear ha2;unfold uj uk um
 cases hsm:(f2==([115,117,109]:By))
 ·have aqJ:¬f2=[115,117,109]:=by simpa using hsm
  cases hmn:(f2==([109,105,110]:By))
  ·have aqK:¬f2=[109,105,110]:=by simpa using hmn
   cases hmx:(f2==([109,97,120]:By))
   ·have aeV:¬f2=[109,97,120]:=by simpa using hmx
    simp only[atE,if_false,Bool.or_self];go_enter Tryz.func74,Tryz.ntmps74
    go_wp2_with (first
     | ((with_reducible refine (HA1.out).mono ?_);rintro e w1 ⟨rfl,v1,hR1,hB1,hS1⟩;have lX:=zq hR1;have sW:=zq hB1;have JK:=zq hS1;clear c0 c1 c2;obtain⟨⟨c0,c1,c2⟩,_⟩:=(rQ.out.but hB1 HGF.out).three;clear hR1 hB1 hS1))
    go_end0;exact⟨rfl,v1,lX.out,(But.aS dH.out).then sW.out,fun g hg=>(JK.out g hg).imp_right fun h=>atP dH.out.size h⟩
   obtain rfl:f2=[109,97,120]:=by simpa using hmx
   simp only[atE,if_false,if_true,Bool.or_true];obtain⟨j,hj⟩:∃j,r.cols.length=j:=⟨_,rfl⟩
   have HJ:=zq hj;obtain⟨y1,s1,hf1,hf2⟩:=CR.Rq r ⟨a.1.toArray⟩ 1 (dR kid ⟨a.2.2.toArray⟩) kid ⟨a.2.2.toArray⟩;have HF1:=zq hf1;have Ua:=zq hf2;have hjl:j≤100000:=hj▸hl;have hj1:IntKind.i64.wrap (j:Int)=(j:Int):=IntWalk.i64_in _ (by omega);have hj2:((j:Int)+1≤(j:Int))=False:=eq_false (by omega);clear hj hf1 hf2;go_enter Tryz.func74,Tryz.ntmps74;go_upto_region 8 with (first
    | ((with_reducible refine (HA1.out).mono ?_);rintro e w1 ⟨rfl,v1,hR1,hB1,hS1⟩;obtain⟨g,cap1,rfl⟩:=hR1.adm (j:=j) (by rw[CR.kU,atv,HJ.out];rfl);have lX:=zq hR1;have sW:=zq hB1;have JK:=zq hS1;have HGL:=zq hR1.box.lt;clear c0 c1 c2;obtain⟨⟨c0,c1,c2⟩,_⟩:=(rQ.out.but hB1 HGF.out).three;clear hR1 hB1 hS1))
   have HBK:Hid (∀u,But [gr,g] w1 u→But (gr::foot v) w0 u):=zq fun u hb1=>sW.out.trans hb1 fun x hx=>by exact axd
   have HBW:Hid (∀u,But [gr,g] w1 u→Bx 54 w.heap.size #[.string ⟨a.1.toArray⟩,.string ⟨#[109,97,120]⟩,.string ⟨a.2.2.toArray⟩] u):=zq fun u hb1=>rQ.out.but (HBK.out u hb1) HGF.out;exact avj
  obtain rfl:f2=[109,105,110]:=by simpa using hmn
  simp only[atE,if_false,if_true,Bool.true_or];obtain⟨j,hj⟩:∃j,r.cols.length=j:=⟨_,rfl⟩
  have HJ:=zq hj;obtain⟨y1,s1,hf1,hf2⟩:=CR.Rq r ⟨a.1.toArray⟩ 1 (dR kid ⟨a.2.2.toArray⟩) kid ⟨a.2.2.toArray⟩;have HF1:=zq hf1;have Ua:=zq hf2;have hjl:j≤100000:=hj▸hl;have hj1:IntKind.i64.wrap (j:Int)=(j:Int):=IntWalk.i64_in _ (by omega);have hj2:((j:Int)+1≤(j:Int))=False:=eq_false (by omega);clear hj hf1 hf2;go_enter Tryz.func74,Tryz.ntmps74;go_upto_region 8 with (first
   | ((with_reducible refine (HA1.out).mono ?_);rintro e w1 ⟨rfl,v1,hR1,hB1,hS1⟩;obtain⟨g,cap1,rfl⟩:=hR1.adm (j:=j) (by rw[CR.kU,atv,HJ.out];rfl);have lX:=zq hR1;have sW:=zq hB1;have JK:=zq hS1;have HGL:=zq hR1.box.lt;clear c0 c1 c2;obtain⟨⟨c0,c1,c2⟩,_⟩:=(rQ.out.but hB1 HGF.out).three;clear hR1 hB1 hS1))
  have HBK:Hid (∀u,But [gr,g] w1 u→But (gr::foot v) w0 u):=zq fun u hb1=>sW.out.trans hb1 fun x hx=>by exact axd
  have HBW:Hid (∀u,But [gr,g] w1 u→Bx 54 w.heap.size #[.string ⟨a.1.toArray⟩,.string ⟨#[109,105,110]⟩,.string ⟨a.2.2.toArray⟩] u):=zq fun u hb1=>rQ.out.but (HBK.out u hb1) HGF.out;exact avj
 obtain rfl:f2=[115,117,109]:=by simpa using hsm
 simp only[if_true];by_cases hk:dR kid ⟨a.2.2.toArray⟩=1
 ·rw[if_pos hk];rw[hk]at HFF;go_enter Tryz.func74,Tryz.ntmps74
  go_wp2_with (first
   | ((with_reducible refine (HA1.out).mono ?_);rintro e w1 ⟨rfl,v1,hR1,hB1,hS1⟩;have lX:=zq hR1;have sW:=zq hB1;have JK:=zq hS1;clear c0 c1 c2;obtain⟨⟨c0,c1,c2⟩,_⟩:=(rQ.out.but hB1 HGF.out).three;have HF3:=zq (HFF.out _ _ hR1 hB1);clear hR1 hB1 hS1)
   | ((with_reducible refine (HF3.out).mono ?_);rintro e w2 ⟨rfl,hR2,hB2⟩))
  go_end0;exact⟨rfl,v1,hR2,(But.aS dH.out).then (sW.out.then (hB2.wide fun k hk=>.inl (by simp at hk;subst hk;exact atz ..))),fun g hg=>(JK.out g hg).imp_right fun h=>atP dH.out.size h⟩
 rw[if_neg hk];have hkb:(dR kid ⟨a.2.2.toArray⟩==1)=false:=atp.2 hk;have hkn:(dR kid ⟨a.2.2.toArray⟩ !=1)=true:=by simp[hk]
 go_enter Tryz.func74,Tryz.ntmps74
 go_wp2_with (first
  | ((with_reducible refine (HA1.out).mono ?_);rintro e w1 ⟨rfl,v1,hR1,hB1,hS1⟩;have lX:=zq hR1;have sW:=zq hB1;have JK:=zq hS1;clear c0 c1 c2;obtain⟨⟨c0,c1,c2⟩,_⟩:=(rQ.out.but hB1 HGF.out).three;have HF3:=zq (HFF.out _ _ hR1 hB1);clear hR1 hB1 hS1)
  | ((with_reducible refine (HF3.out).mono ?_);rintro e w2 ⟨rfl,hR2,hB2⟩;have tZ:=zq hR2;have DY:=zq (sW.out.then (hB2.wide fun k hk=>.inl (by simp at hk;subst hk;exact atz ..)));clear c0 c1 c2;obtain⟨⟨c0,c1,c2⟩,_⟩:=(rQ.out.but DY.out HGF.out).three;have HF4:=zq (HFW.out _ _ hR2);clear hR2 hB2)
  | ((with_reducible refine (HF4.out).mono ?_);rintro e w3 ⟨rfl,Ny,pq⟩))
 go_end0;exact⟨rfl,v1,Ny,(But.aS dH.out).then (DY.out.then (pq.wide fun k hk=>.inl (by simp at hk;subst hk;exact atz ..))),fun g hg=>(JK.out g hg).imp_right fun h=>atP dH.out.size h⟩
theorem Tryz.ed:(Tryz.prog.info? 58).map (·.size)=some 3:=by kernel_rfl
def jE (base:Nat) (va:Value) (r:CR) (w:World) (e:Ending) (w':World):Prop:=∃v,e=.returned (.agg #[v,.int .i64 r.why,.string r.name])∧Ow 50 2 eP base w' v r.cols∧But (foot va) w w'∧eX w va v
theorem kX {w w0 wl:World} {gr g base:Nat} {r:CR} {va v c0 c1 c2:Value} (hE:Ev w w0) (hB:Bx 58 g #[c0,c1,c2] w0) (h:fK gr base r v wl) (hb:But (gr::foot va) w0 wl) (hS:eX w0 va v) (Hq:∀k∈foot va,k<w.heap.size) (hg:w.heap.size≤g) (hgr:w.heap.size≤gr) (hne:g≠gr):
  Bx 58 g #[v,.int .i64 r.why,.string r.name] (wP g v (.int .i64 r.why) (.string r.name) wl)∧jE base va r w (.returned (.agg #[v,.int .i64 r.why,.string r.name])) (wP g v (.int .i64 r.why) (.string r.name) wl):=by
 have Ot:=hB.lt;have hga:g∉gr::foot va:=fun hm=>by rcases atA.1 hm with e|e;exact hne e;have:=Hq g e;omega
 have hgv:g∉foot v:=fun hm=>by rcases hS g (aB.1 hm) with h1|h1;have:=Hq g (aB.2 h1);omega;omega
 have DV:=tY g v (.int .i64 r.why) (.string r.name) wl;refine⟨(hB.but hb hga).wP _ _ _,v,rfl,h.own.but DV fun k hk=>by simp;intro e;exact hgv (aB.2 (e▸hk)),?_,fun k hk=>(hS k hk).imp_right fun h1=>atP hE.size h1⟩;have h1:But (foot va) w wl:=(But.aS hE).trans hb fun x hx=>by rcases atA.1 hx with rfl|hx;exact .inr hgr;exact .inl hx
 exact h1.trans DV fun x hx=>by simp at hx;subst hx;exact .inr hg
theorem fK.new {w:World} {base:Nat} {v:Value} {l:List C} (h:Ow 50 2 eP base w v l) (hv:∀k∈foot v,k<w.heap.size):fK w.heap.size base (CR.of l) v (w.alloc (.cells #[v,.int .i64 0,.string ⟨#[]⟩] 58)):=
 ⟨Bx.new _ _ _,h.ev (Ev.alloc _ _),fun hm=>by have:=hv _ hm;omega⟩
theorem oN {w:World} {base:Nat} {v:Value} {l:List C} (h:Ow 50 2 eP base w v l):∀k∈foot v,k<w.heap.size:=fun k hk=>(h.lt (aB.1 hk)).2
theorem Dy (w:World) (T1:TypeId) (cs:Array Value):∃w0,(w.alloc (.cells cs T1)).alloc (.cells #[.slice none 0 0,.int .i64 0,.string ⟨#[]⟩] 58)=w0∧Ev w w0∧Bx T1 w.heap.size cs w0∧Bx 58 (w.heap.size+1) #[.slice none 0 0,.int .i64 0,.string ⟨#[]⟩] w0∧w0.heap.size=w.heap.size+2:=by
 have hB:Bx 58 (w.heap.size+1) #[.slice none 0 0,.int .i64 0,.string ⟨#[]⟩] ((w.alloc (.cells cs T1)).alloc (.cells #[.slice none 0 0,.int .i64 0,.string ⟨#[]⟩] 58)):=by have:=Bx.new 58 #[.slice none 0 0,.int .i64 0,.string ⟨#[]⟩] (w.alloc (.cells cs T1));simpa using this
 exact⟨_,rfl,(Ev.alloc w _).trans (Ev.alloc _ _),(Bx.new T1 cs w).ev (Ev.alloc _ _),hB,by simp⟩
theorem ax5 {P:Prop} (h:P:=by refine bodyPost_ret (aP rfl _ _ _ _ _ rfl f1 Tryz.underlying58 rfl Tryz.ed) rfl ?_;exact f2):P:=h
theorem Xw (base:Nat) (va:Value) (kid:List C) (m:M) (b0:Nat) (w:World) (h:Ow 50 2 eP base w va kid) (hL:Lx b0 [] w m) (hsz:m.t.size≤16000) (hf:m.t.every (fun t=>decide (t.s.length≤1000000))=true):
  Calls Tryz.prog 33 #[.agg #[.int .i64 m.kind,.string ⟨m.s.toArray⟩,.int .i64 m.n,.slice m.A m.kids.length m.cap],va] w (jE base va (ny m.t kid) w):=by
 obtain⟨A,cap,rfl,hC⟩:∃A cap,va=.slice A kid.length cap∧Cs w A kid.length cap kid:=by obtain⟨A,cap,hv,hS,_⟩:=h.form nM;exact⟨A,cap,hv,hS⟩
 have Hq:=oN h;obtain⟨w0,hw0,aT,hBe,Hr,hs0⟩:=Dy w 47 #[.int .i64 m.kind,.string ⟨m.s.toArray⟩,.int .i64 m.n,.slice m.A m.kids.length m.cap];have JL:=fK.new (h.ev aT) (fun k hk=>by have:=Hq k hk;have:=aT.size;omega);have aH:=Ev.alloc w0 (.cells #[.slice A kid.length cap,.int .i64 0,.string ⟨#[]⟩] 58);have HK:=VL w0.heap.size base (CR.of kid) (.slice A kid.length cap) m b0 kid A kid.length cap _ JL (hL.ev (aT.trans aH)) (hC.ev (aT.trans aH)) hsz hf;have dH:=zq aT;have UR:=zq Hq;have jq:=zq (Hr.ev aH);obtain⟨⟨c0,c1,c2,c3⟩,_⟩:=(hBe.ev aH).four;have HK:=zq HK;unfold ny;simp only;generalize hr:(CR.of kid).kind kid m.t=R1 at*;generalize hk:(xType kid m.t).1=K1 at*;have HF:=zq (fun w2 (hR:fK w0.heap.size base R1 (.slice A kid.length cap) w2)=>mM w0.heap.size base R1 (.slice A kid.length cap) 22 ⟨#[]⟩ w2 hR);have hs1:w0.heap.size=w.heap.size+2:=hs0;have jR:=zq hs1;clear h hL hC JL hBe Hr aT aH Hq hr hk hsz hf hs0 hs1;generalize kid.length=kl at*;by_cases hK:K1=1
 ·subst hK;rw[if_pos rfl];go_enter Tryz.func33,Tryz.ntmps33
  go_wp2_with (first
   | ((with_reducible refine (HK.out).mono ?_);rintro e w1 ⟨rfl,hR1,hB1⟩;have lX:=zq hR1;have sW:=zq hB1;obtain⟨⟨d0,d1,d2⟩,_⟩:=hR1.box.three;obtain⟨⟨q0,q1,q2⟩,z0,z1,z2⟩:=(jq.out.but hB1 (by have:=jR.out;simp;omega)).three;clear hR1 hB1 c0 c1 c2 c3))
  (try simp only[Exit.inBlock,Exit.then]);rw[cO];obtain⟨f1,f2⟩:=kX (dH.out.trans (Ev.alloc _ _)) jq.out lX.out (sW.out.wide fun k hk=>.inl (by simp at hk;subst hk;exact atz ..)) (fun g hg=>.inl hg) UR.out (by omega) (by have:=jR.out;omega) (by have:=jR.out;omega);exact ax5
 rw[if_neg hK];have hKb:(K1==1)=false:=atp.2 hK;have hKn:(K1 !=1)=true:=by simp[hK]
 go_enter Tryz.func33,Tryz.ntmps33
 go_wp2_with (first
  | ((with_reducible refine (HK.out).mono ?_);rintro e w1 ⟨rfl,hR1,hB1⟩;have lX:=zq hR1;have sW:=zq hB1;clear hR1 hB1 c0 c1 c2 c3)
  | ((with_reducible refine (HF.out _ lX.out).mono ?_);rintro e w2 ⟨rfl,hR2,hB2⟩;have tZ:=zq hR2;have DY:=zq (sW.out.then hB2);obtain⟨⟨d0,d1,d2⟩,_⟩:=hR2.box.three;obtain⟨⟨q0,q1,q2⟩,z0,z1,z2⟩:=(jq.out.but DY.out (by have:=jR.out;simp;omega)).three;clear hR2 hB2))
 (try simp only[Exit.inBlock,Exit.then]);rw[cO];obtain⟨f1,f2⟩:=kX (dH.out.trans (Ev.alloc _ _)) jq.out tZ.out (DY.out.wide fun k hk=>.inl (by simp at hk;subst hk;exact atz ..)) (fun g hg=>.inl hg) UR.out (by omega) (by have:=jR.out;omega) (by have:=jR.out;omega);exact ax5
theorem Z9 (d:DM) (nm:By) (gb:Nat) (w:World) (hB:w.cell? ⟨gb,0,none⟩=some (.string ⟨nm.toArray⟩)) (hlt:gb<w.heap.size):
  Calls Tryz.prog 65 #[.agg #[.string ⟨d.name.toArray⟩,.slice d.A d.cols.length d.cap],.pointer (some ⟨gb,0,none⟩)] w fun e w'=>e=.returned (.bool (d.name==nm))∧Ev w w':=by
 have hE:=Ev.alloc w (.cells #[.string ⟨d.name.toArray⟩,.slice d.A d.cols.length d.cap] 42);have hX:=Bx.new 42 #[.string ⟨d.name.toArray⟩,.slice d.A d.cols.length d.cap] w;have c0:=hX.cell 0;have c0:(w.alloc (.cells #[.string ⟨d.name.toArray⟩,.slice d.A d.cols.length d.cap] 42)).cell? ⟨w.heap.size,0,none⟩=some (.string ⟨d.name.toArray⟩):=c0;have n0:=(hE.cell (p:=⟨gb,0,none⟩) hlt).trans hB;have HE:=zq hE;clear hX hE;go_enter Tryz.func65,Tryz.ntmps65;go_wp2;go_ret;exact⟨rfl,HE.out⟩
abbrev aeX (gb:Nat):Value:=.func (.func 65) #[] #[.pointer (some ⟨gb,0,none⟩)]
def ixD (l:List DM) (nm:By):Int:=match l.findIdx? (fun d=>d.name==nm) with|some i=>(i:Int)|none=>-1
theorem OY {A:Option Addr} {n cap:Nat} {l:List DM} (nm:By) (gb:Nat) (w:World) (h:Ja w A n cap l) (hB:w.cell? ⟨gb,0,none⟩=some (.string ⟨nm.toArray⟩)) (hlt:gb<w.heap.size):
  Calls Tryz.prog 64 #[.slice A n cap,aeX gb] w fun e w'=>e=.returned (.int .i64 (ixD l nm))∧Ev w w':=by
 have hn:=h.sl.le;have hm:=h.sl.max;have HN:=zq h.sl.len;have H:=zq h;have HC:=zq (fun d w1 (hE:Ev w w1)=>Z9 d nm gb w1 ((hE.cell (p:=⟨gb,0,none⟩) hlt).trans hB) (atM hlt hE.size));clear h hB;go_enter Tryz.func64,Tryz.ntmps64;go_wp2
 go_loopw [8] (fun i wr=>∃k:Nat,k≤n∧i=.int .i64 (k:Int)∧Hid (∀i d,i<k→l[i]?=some d→(d.name==nm)=false)∧Hid (Ev w wr)) (fun i _=>n - (intOf i).toNat)
 case atStart=>exact⟨0,atG _,rfl,zq (fun i d hi=>by omega),zq (Ev.refl _)⟩
 case round=>
  obtain⟨k,hk,rfl,HT,HE⟩:=hrel;by_cases hlk:k<n
  ·obtain⟨d,hd⟩:=H.out.sl.at hlk;obtain⟨b,off,rfl,hb,c0,c1⟩:=(H.out.ev HE.out).cell hd;have HD:=zq hd;have i1:(0:Int)≤(k:Int):=by omega
   have i2:(k:Int)<(n:Int):=by omega
   have HCd:=HC.out d;clear hd
   cases ht:(d.name==nm)
   ·rw[ht]at HCd;have HCd:=zq HCd;have HF:Hid (∀i d,i<k+1→l[i]?=some d→(d.name==nm)=false):=zq (fun i d' hi hd'=>by
     by_cases hik:i<k;exact HT.out i d' hik hd';obtain rfl:i=k:=by omega
     rw[HD.out]at hd';obtain rfl:=aui hd';exact ht)
    clear ht
    go_wp2_with (first
     | ((with_reducible refine (HCd.out _ HE.out).mono ?_);rintro e w1 ⟨rfl,aH⟩;have E1:=zq (HE.out.trans aH);clear aH))
    go_roundw
    case rel=>exact⟨k+1,by omega,by go_num,HF,E1⟩
    case measure=>simp[intOf];omega
   rw[ht]at HCd;have HCd:=zq HCd;have HF:Hid (ixD l nm=(k:Int)):=zq (by
    have h1:l.findIdx? (fun d=>d.name==nm)=some k:=by rw[auQ];obtain⟨hk2,rfl⟩:=atr.1 HD.out;exact⟨hk2,ht,fun j hj=>by simp[HT.out j _ hj (atN (by omega))]⟩
    unfold ixD;rw[h1])
   clear ht
   go_wp2_with (first
    | ((with_reducible refine (HCd.out _ HE.out).mono ?_);rintro e w1 ⟨rfl,aH⟩;have E1:=zq (HE.out.trans aH);clear aH))
   go_ret;exact⟨by rw[HF.out];rfl,E1.out⟩
  obtain rfl:k=n:=by omega
  have HF:Hid (ixD l nm=-1):=zq (by
   have h1:l.findIdx? (fun d=>d.name==nm)=none:=by rw[au_];intro d hd;obtain⟨i,hi,e⟩:=List.getElem_of_mem hd;exact HT.out i d (by rw[←HN.out];exact hi) (by rw[atN hi,e])
   unfold ixD;rw[h1])
  go_wp2;go_ret;exact⟨by rw[HF.out];rfl,HE.out⟩
theorem UT (l:List DM) (nm:By):(ixD l nm=-1∧sK (l.map DM.df) nm=CR.zero.fail 20 (dh nm))∨∃(i:Nat) (d:DM),l[i]?=some d∧ixD l nm=(i:Int)∧sK (l.map DM.df) nm=CR.of d.cols:=by
 unfold ixD sK;cases h:l.findIdx? (fun d=>d.name==nm) with
 | none=>
  left;refine⟨rfl,?_⟩;rw[au_]at h;rw[show (l.map DM.df).find? (fun d=>d.1==nm)=none by
   rw[List.find?_eq_none];intro x hx;obtain⟨d,hd,rfl⟩:=atV.1 hx;simpa[DM.df] using h d hd]
 | some i=>
  right;obtain⟨hi,h1,h2⟩:=auQ.1 h;refine⟨i,l[i],atN hi,rfl,?_⟩;rw[show (l.map DM.df).find? (fun d=>d.1==nm)=some (l[i]).df by
   rw[List.find?_eq_some_iff_getElem];refine⟨by simpa[DM.df] using h1,i,by simpa using hi,by simp,fun j hj=>?_⟩;have:=h2 j hj;simpa[DM.df] using this]
  rfl
theorem UU {A:Option Addr} {n cap:Nat} {l:List C} (w:World) (h:Cs w A n cap l) (hl:l.length≤100000) (h0:0<l.length):
  Calls Tryz.prog 67 #[.slice A n cap] w fun e w'=>∃v,e=.returned v∧Ow 50 2 eP w.heap.size w' v l∧Ev w w':=by
 have q22:∀(w:World) (a:Option Addr) (n c n' c':Nat),(binOp .eql 24 (.slice a n c) (.slice none n' c')).run Tryz.prog w=.ok (.bool a.isNone) w:=fun w a n c n' c'=>Lib.run_eql_slice_nil w 24 50 a n c n' c' Tryz.underlying24;obtain⟨b,off,rfl,_,_⟩:=h.rd (by rw[←h.len];exact h0);have hE:jY 50 w.heap.size (.slice (some ⟨w.heap.size,0,none⟩) 0 0) (w.alloc (.cells #[] 50)):=jY.new (att _);go_enter Tryz.func67,Tryz.ntmps67
 go_wp2_with (at_builtin;refine vw (o:=⟨some 7,_,_,_,_,_⟩) rfl 24 (.tmp 5) (.tmp 6) rfl nM Tryz.underlying24 Tryz.Oz rfl rfl hE (some ⟨b,off,none⟩) n cap l rfl (h.ev (Ev.alloc _ _)) (by omega) (by omega) (by simp) ?_;intro v1 w1 hO1 aH)
 go_ret;exact⟨v1,rfl,hO1,(Ev.alloc _ _).trans aH⟩
theorem Ow.GH {α:Type} {et:TypeId} {k:Nat} {enc:α→List Value} {base Gh:Nat} {w:World} {v:Value} {Z:List α} (h:Ow et k enc base w v Z) (hb:Gh≤base):Ow et k enc Gh w v Z:=by
 refine⟨h.1,?_⟩;rcases h.2 with h2|⟨g,cap,cur,rfl,hg,hh,r⟩
 exact .inl h2;exact .inr ⟨g,cap,cur,rfl,atP hb hg,hh,r⟩
theorem aab (l:List DM) (A:Option Addr) (n cap:Nat) (nm:By) (w:World) (h:Ja w A n cap l) (hD:∀d∈l,0<d.cols.length∧d.cols.length≤6):
  Calls Tryz.prog 32 #[.string ⟨nm.toArray⟩,.slice A n cap] w (jE w.heap.size (.slice none 0 0) (sK (l.map DM.df) nm) w):=by
 have hmf:∀(fn:Fn) (first cap:Array Value) (w:World),(Instr.makeFunc fn first cap).run Tryz.prog w=.ok (.func fn first cap) w:=fun _ _ _ _=>rfl;obtain⟨w0,hw0,aT,hBn,Hr,hs0⟩:=Dy w 9 #[.string ⟨nm.toArray⟩];have aH:=Ev.alloc w0 (.cells #[.slice none 0 0,.int .i64 0,.string ⟨#[]⟩] 58);have hB2:=Bx.new 58 #[.slice none 0 0,.int .i64 0,.string ⟨#[]⟩] w0;have TE:(w0.alloc (.cells #[.slice none 0 0,.int .i64 0,.string ⟨#[]⟩] 58)).cell? ⟨w.heap.size,0,none⟩=some (.string ⟨nm.toArray⟩):=(hBn.ev aH).cell 0;have HI:=zq (OY nm w.heap.size _ (h.ev (aT.trans aH)) TE (by simp;omega));have HBN:=zq (hBn.ev aH);have jq:=zq (Hr.ev aH);have DY:=zq hB2;have dH:=zq (aT.trans aH);have jR:=zq hs0;have hle:=h.sl.le;have hmx:=h.sl.max;have H:=zq h;have vZ:=zq h.sl.len;have HD:=zq hD;have JL:fK w0.heap.size w.heap.size CR.zero (.slice none 0 0) (w0.alloc (.cells #[.slice none 0 0,.int .i64 0,.string ⟨#[]⟩] 58)):=⟨hB2,Ow.nil_ _,fun hm=>by cases hm⟩
 have HF:=zq (fun w2 (hE:Ev _ w2)=>mM w0.heap.size w.heap.size CR.zero (.slice none 0 0) 20 ⟨nm.toArray⟩ w2 (JL.ev hE));clear h aT aH hBn Hr hB2 hs0 JL hD TE;have UR:Hid (∀k∈foot (.slice none 0 0),k<w.heap.size):=zq fun k hk=>by cases hk
 rcases UT l nm with⟨h1,h2⟩|⟨i,d,hd,h1,h2⟩
 ·rw[h1]at HI;rw[h2];unfold dh;have n0:=HBN.out.cell 0;have n0:(w0.alloc (.cells #[.slice none 0 0,.int .i64 0,.string ⟨#[]⟩] 58)).cell? ⟨w.heap.size,0,none⟩=some (.string ⟨nm.toArray⟩):=n0;clear h1 h2;go_enter Tryz.func32,Tryz.ntmps32
  go_wp2_with (first
   | ((with_reducible refine (HI.out).mono ?_);rintro e w1 ⟨rfl,aH⟩;have E1:=zq aH;clear n0;have n0:=(HBN.out.ev aH).cell 0;have n0:w1.cell? ⟨w.heap.size,0,none⟩=some (.string ⟨nm.toArray⟩):=n0;clear aH)
   | ((with_reducible refine (HF.out _ E1.out).mono ?_);rintro e w2 ⟨rfl,hR2,hB2⟩;have tZ:=zq hR2;have HBB:=zq ((But.aS E1.out).then hB2);obtain⟨⟨d0,d1,d2⟩,_⟩:=hR2.box.three;obtain⟨⟨q0,q1,q2⟩,z0,z1,z2⟩:=(jq.out.but ((But.aS E1.out).then hB2) (by have:=jR.out;simp;omega)).three;clear hR2 hB2))
  (try simp only[Exit.inBlock,Exit.then]);rw[cO];obtain⟨f1,f2⟩:=kX dH.out jq.out tZ.out (HBB.out.wide fun k hk=>.inl (by simp at hk;subst hk;exact atz ..)) (fun g hg=>.inl hg) UR.out (by omega) (by have:=jR.out;omega) (by have:=jR.out;omega);exact ax5
 rw[h1]at HI;rw[h2];have Ye:=HD.out d (atw hd);obtain⟨b,off,hA,hb,_⟩:=H.out.cell hd;have HDC:=zq (fun w1 (hE:Ev w w1)=>H.out.ev hE |>.cell hd);have HCL:=zq (fun w1 (hE:Ev w w1)=>UU w1 ((H.out.cols d (atw hd)).ev hE) (by omega) Ye.1);have hin:i<n:=by rw[←vZ.out];exact (atr.1 hd).1
 have i0:¬((i:Int)<0):=by omega
 have i1:(0:Int)≤(i:Int):=by omega
 have i2:(i:Int)<(n:Int):=by omega
 subst hA;clear h1 h2 hd Ye;obtain⟨dl,Ye⟩:∃dl,dl=d.cols.length:=⟨_,rfl⟩
 rw[←Ye]at HDC HCL;clear Ye;have qF:w.heap.size+1≠w0.heap.size:=by have:=jR.out;omega
 have Ia:w0.heap.size≠w.heap.size+1:=by have:=jR.out;omega
 go_enter Tryz.func32,Tryz.ntmps32
 go_wp2_with (first
  | ((with_reducible refine (HI.out).mono ?_);rintro e w1 ⟨rfl,aH⟩;have E1:=zq aH;obtain⟨b',off',WE,_,k0,k1⟩:=HDC.out _ (dH.out.trans aH);injection WE with WE;injection WE with e1 e2 _;subst e1;subst e2;clear aH)
  | ((with_reducible refine (HCL.out _ (dH.out.trans E1.out)).mono ?_);rintro e w2 ⟨v1,rfl,hO,bK⟩;obtain⟨A1,cap1,rfl,nN,oH⟩:=hO.form nM;clear nN oH;have E2:=zq (E1.out.trans bK);have HO:=zq (Ow.GH hO (dH.out.trans E1.out).size);have HOL:=zq (fun k hk=>(hO.lt (aB.1 hk)).1:∀k∈foot (.slice A1 d.cols.length cap1),w1.heap.size≤k);obtain⟨⟨d0,d1,d2⟩,g0,g1,g2⟩:=(DY.out.ev (E1.out.trans bK)).three;obtain⟨⟨q0,q1,q2⟩,z0,z1,z2⟩:=(jq.out.ev (E1.out.trans bK)).three;clear bK hO))
 (try simp only[Exit.inBlock,Exit.then]);have GI:But [w0.heap.size] w2 (w2.setCell ⟨w0.heap.size,0,none⟩ (.slice A1 d.cols.length cap1)):=But.setCell _ _ (by simp);have hsz:w0.heap.size+1≤w1.heap.size:=by have:=E1.out.size;simp at this;omega
 have hRR:fK w0.heap.size w.heap.size (CR.of d.cols) (.slice A1 d.cols.length cap1) (w2.setCell ⟨w0.heap.size,0,none⟩ (.slice A1 d.cols.length cap1)):=⟨by have:=(DY.out.ev E2.out).set 0 (.slice A1 d.cols.length cap1);exact (by simpa using this:Bx 58 w0.heap.size #[.slice A1 d.cols.length cap1,.int .i64 0,.string ⟨#[]⟩] _),HO.out.but GI fun g hg=>by have:=HOL.out g (aB.2 hg);simp;omega,fun hm=>by have:=HOL.out _ hm;omega⟩
 rw[cO];obtain⟨f1,f2⟩:=kX (va:=.slice none 0 0) dH.out jq.out hRR (((But.aS E2.out).then GI).wide fun k hk=>.inl (by simp at hk;subst hk;exact atz ..)) (fun g hg=>.inr (by have:=HOL.out g (aB.2 hg);have:=E1.out.size;omega)) UR.out (by omega) (by have:=jR.out;omega) (by have:=jR.out;omega);exact ax5
theorem UW (w:World):∃w0,w.alloc (.cells #[.slice none 0 0,.int .i64 0,.string ⟨#[]⟩] 58)=w0∧Ev w w0∧Bx 58 w.heap.size #[.slice none 0 0,.int .i64 0,.string ⟨#[]⟩] w0∧w0.heap.size=w.heap.size+1:=⟨_,rfl,Ev.alloc _ _,Bx.new _ _ _,by simp⟩
theorem VZ {l:List C} {i:Nat} {c d:C} (h:l[i]?=some c):l.getD i d=c:=by rw[aus,h];rfl
theorem ax_ {P:Prop} (h:P:=by obtain⟨A,cap,hv,hS,hA⟩:=h.form nM;exact⟨A,cap,hv,hS,fun ad e=>(hA ad e).2.2.1⟩):P:=h
theorem avJ {P:Prop} (h:P:=by
 go_upto_region 2 with fail
 rw[←zM];clear zM
 go_wp2_with (first
  | ((with_reducible refine (HF0.out).mono ?_);rintro e w2 ⟨rfl,hR2,hB2⟩;have tZ:=zq hR2;have DY:=zq hB2;obtain⟨⟨d0,d1,d2⟩,_⟩:=hR2.box.three;obtain⟨⟨g0,g1,g2⟩,z0,z1,z2⟩:=(jq.out.but hB2 (by have:=jR.out;simp;omega)).three;clear hR2 hB2))
 (try simp only[Exit.inBlock,Exit.then]);rw[cO];obtain⟨f1,f2⟩:=kX Ou.out jq.out tZ.out (DY.out.wide fun k hk=>.inl (by simp at hk;subst hk;exact atz ..)) (fun g hg=>.inl hg) UR.out (by omega) (by have:=jR.out;omega) (by have:=jR.out;omega);exact ax5):P:=h
theorem aac (base:Nat) (va:Value) (a b:List C) (B:Option Addr) (m JM:Nat) (w:World) (h:Ow 50 2 eP base w va a) (hb:Cs w B m JM b) (hbl:∀ad,B=some ad→ad.block<w.heap.size):
  Calls Tryz.prog 36 #[va,.slice B m JM] w (jE base va (oJ a b) w):=by
 obtain⟨A,cap,rfl,hC,wQ⟩:∃A cap,va=.slice A a.length cap∧Cs w A a.length cap a∧∀ad,A=some ad→ad.block<w.heap.size:=by exact ax_
 have Hq:=oN h;have hbn:=hb.len;have hle:=hC.le;have hmx:=hC.max;have ahp:=hb.le;have aeV:=hb.max;obtain⟨w0,hw0,aT,Hr,hs0⟩:=UW w;have JL:=fK.new (h.ev aT) (fun k hk=>by have:=Hq k hk;omega);obtain⟨wa,zM⟩:∃wa,wa=w0.alloc (.cells #[.slice A a.length cap,.int .i64 0,.string ⟨#[]⟩] 58):=⟨_,rfl⟩
 have aH:Ev w0 wa:=by rw[zM];exact Ev.alloc _ _
 rw[←zM]at JL;have Yn:=zq JL;have jq:=zq (Hr.ev aH);have Ou:=zq (aT.trans aH);have UR:=zq Hq;have V3:w0.heap.size=w.heap.size+1:=hs0;have jR:=zq V3;have Cc:Hid (∀w1,But [w0.heap.size] wa w1→Cs w1 A a.length cap a):=zq fun w1 hb1=>(hC.ev (aT.trans aH)).but hb1 fun ad e=>by have:=wQ ad e;simp;omega
 have wZ:Hid (∀w1,But [w0.heap.size] wa w1→Cs w1 B m JM b):=zq fun w1 hb1=>(hb.ev (aT.trans aH)).but hb1 fun ad e=>by have:=hbl ad e;simp;omega
 have Na:=zq (fun r nm w1 (hR:fK w0.heap.size base r (.slice A a.length cap) w1)=>mM w0.heap.size base r (.slice A a.length cap) 22 nm w1 hR);have HF0:=zq (mM w0.heap.size base (CR.of a) (.slice A a.length cap) 23 ⟨#[]⟩ wa JL);have HU:Hid (oJ a b=if a.length=m then (List.range a.length).foldl (qf a b) (CR.of a) else (CR.of a).fail 23 ⟨#[]⟩):=zq (by unfold oJ;rw[hbn]);rw[HU.out];obtain⟨n,hn⟩:∃n,n=a.length:=⟨_,rfl⟩
 rw[←hn]at hle;rw[←hn]at zM Yn Cc Na HF0 UR⊢;clear h hb hC JL Hr aT aH Hq hs0 V3 hn hbn wQ hbl;by_cases hm:n=m
 ·subst hm;rw[if_pos rfl];go_enter Tryz.func36,Tryz.ntmps36;go_upto_region 5 with fail
  rw[←zM];clear zM;go_wp2
  go_loopw [19] (fun iv wr=>∃k:Nat,iv=.int .i64 (k:Int)∧k≤n∧Hid (fK w0.heap.size base ((List.range k).foldl (qf a b) (CR.of a)) (.slice A n cap) wr)∧Hid (But [w0.heap.size] wa wr)) (fun iv _=>n - (intOf iv).toNat)
  case atStart=>exact⟨0,rfl,atG _,Yn,zq (But.refl _ _)⟩
  case round=>
   obtain⟨k,rfl,hk,HR,HB⟩:=hrel;by_cases hlt:k<n
   ·obtain⟨c,hc⟩:=(Cc.out wr HB.out).at hlt;obtain⟨d,hd⟩:=(wZ.out wr HB.out).at hlt;obtain⟨ba,oa,rfl,ka0,ka1⟩:=Cs.I_ (Cc.out wr HB.out) hc;obtain⟨bb,ob,rfl,kb0,kb1⟩:=Cs.I_ (wZ.out wr HB.out) hd;obtain⟨_,_,e1,hba,_⟩:=(Cc.out wr HB.out).rd (by omega);injection e1 with e1
    injection e1 with e1 e2 _
    subst e1;subst e2;obtain⟨_,_,e1,Xo,_⟩:=(wZ.out wr HB.out).rd (by omega);injection e1 with e1
    injection e1 with e1 e2 _
    subst e1;subst e2;have i1:(0:Int)≤(k:Int):=by omega
    have i2:(k:Int)<(n:Int):=by omega
    have ZM:=Bx.new 50 #[.string c.1,.int .i64 c.2] wr;have hstep:(List.range (k+1)).foldl (qf a b) (CR.of a)=if c.2=d.2 then (List.range k).foldl (qf a b) (CR.of a) else ((List.range k).foldl (qf a b) (CR.of a)).fail 22 c.1:=by rw[vC];unfold qf;rw[VZ hc,VZ hd]
    have HST:=zq hstep;have hgr:=HR.out.box.lt;have HBC:=zq ZM;have c1:=ZM.cell 1;have c1:(wr.alloc (.cells #[.string c.1,.int .i64 c.2] 50)).cell? ⟨wr.heap.size,1,none⟩=some (.int .i64 c.2):=c1;clear hc hd hstep ZM;go_upto_region 8 with fail
    go_quiet (fail)
    generalize hwq:World.drewN _ _=wq;have hEQ:Ev (wr.alloc (.cells #[.string c.1,.int .i64 c.2] 50)) wq:=hwq▸Ev.drewN _ _;have HEQ:=zq ((Ev.alloc _ _).trans hEQ);have n0:=(HBC.out.ev hEQ).cell 0;have n0:wq.cell? ⟨wr.heap.size,0,none⟩=some (.string c.1):=n0;clear hwq hEQ c1 ka0 ka1 kb0 kb1;by_cases Gv:c.2=d.2
    ·have hb1:(c.2==d.2)=true:=by simp[Gv]
     have hb2:(c.2 !=d.2)=false:=by simp[Gv]
     have HKK:=zq Gv;clear Gv;go_wp2;go_roundw
     case rel=>exact⟨k+1,by go_num,by omega,zq (by rw[HST.out,if_pos HKK.out];exact HR.out.ev HEQ.out),zq (HB.out.then (But.aS HEQ.out))⟩
     case measure=>simp[intOf];omega
    have hb1:(c.2==d.2)=false:=atp.2 Gv;have hb2:(c.2 !=d.2)=true:=by simp[Gv]
    have HKK:=zq Gv;clear Gv;have HF1:=zq (Na.out _ c.1 _ (HR.out.ev HEQ.out))
    go_wp2_with (first
     | ((with_reducible refine (HF1.out).mono ?_);rintro e w2 ⟨rfl,hR2,hB2⟩;have tZ:=zq hR2;have DY:=zq hB2;clear hR2 hB2))
    go_roundw
    case rel=>exact⟨k+1,by go_num,by omega,zq (by rw[HST.out,if_neg HKK.out];exact tZ.out),zq ((HB.out.then (But.aS HEQ.out)).then DY.out)⟩
    case measure=>simp[intOf];omega
   obtain rfl:k=n:=by omega
   have ahq:=jq.out.but HB.out (by have:=jR.out;simp;omega);obtain⟨⟨d0,d1,d2⟩,_⟩:=HR.out.box.three;obtain⟨⟨g0,g1,g2⟩,z0,z1,z2⟩:=ahq.three;clear ahq;go_wp2;(try simp only[Exit.inBlock,Exit.then]);rw[cO];obtain⟨f1,f2⟩:=kX Ou.out jq.out HR.out (HB.out.wide fun k hk=>.inl (by simp at hk;subst hk;exact atz ..)) (fun g hg=>.inl hg) UR.out (by omega) (by have:=jR.out;omega) (by have:=jR.out;omega);exact ax5
 rw[if_neg hm];have i1:¬((n:Int)=(m:Int)):=by omega
 have i2:((n:Int)==(m:Int))=false:=atp.2 i1;have i3:((n:Int) !=(m:Int))=true:=by simp;omega
 have i4:(n==m)=false:=atp.2 hm;have i5:(n !=m)=true:=by simp[hm]
 go_enter Tryz.func36,Tryz.ntmps36;exact avJ
def bu (R:Zl) (w:World) (e:Ending) (w':World):Prop:=∃m:PM,e=.returned (.tuple #[.agg #[.int .i64 m.kind,.string ⟨m.name.toArray⟩,.slice m.ex.A m.ex.l.length m.ex.cap,.slice m.co.A m.co.l.length m.co.cap,.slice m.lf.A m.lf.l.length m.lf.cap,.slice m.rt.A m.rt.l.length m.rt.cap,.slice m.ag.A m.ag.l.length m.ag.cap,.slice m.A m.kids.length m.cap],.int .i64 R.2.1,.int .i64 (R.2.2:Int)])∧m.p=R.1∧Qx w.heap.size [] w' m∧Ev w w'
theorem sS (w:World):∃w0,w.alloc (.cells #[.int .i64 0,.string ⟨#[]⟩,.slice none 0 0,.slice none 0 0,.slice none 0 0,.slice none 0 0,.slice none 0 0,.slice none 0 0] 32)=w0∧Ev w w0∧Bx 32 w.heap.size #[.int .i64 0,.string ⟨#[]⟩,.slice none 0 0,.slice none 0 0,.slice none 0 0,.slice none 0 0,.slice none 0 0,.slice none 0 0] w0∧w0.heap.size=w.heap.size+1:=⟨_,rfl,Ev.alloc _ _,Bx.new _ _ _,by simp⟩
theorem UY (s:By) (w:World) (hs:s.length≤100000) (hc:¬(eF s).2.1=0):Calls Tryz.prog 30 #[.string ⟨s.toArray⟩] w (bu (lG s) w):=by
 have hP:lG s=(gQ,(eF s).2.1,(eF s).2.2):=by unfold lG;rw[if_neg (by simpa using hc)]
 rw[hP];have hS:=fun w1=>GZ ⟨s.toArray⟩ w1 (by simpa[ByteArray.size] using hs);simp only at hS;unfold qG at hS;unfold bu;generalize (eF s).2.1=c at*;generalize (eF s).2.2=ps at*;have HS:=zq hS;obtain⟨w0,hw0,aT,hR,hs0⟩:=sS w;have HR:=zq hR;have HE:=zq aT;clear hP hS hR aT hs;go_enter Tryz.func30,Tryz.ntmps30
 go_wp2_with (first
  | ((with_reducible refine (HS.out _).mono ?_);rintro r w1 ⟨t,rfl,ht,hl,aH⟩;have nS:=zq aH;obtain⟨⟨r0,r1,r2,r3,r4,r5,r6,r7⟩,s0,s1,s2,s3,s4,s5,s6,s7⟩:=(HR.out.ev (aH.trans (Ev.alloc w1 (.cells #[.int .i64 t.kind,.string ⟨t.s.toArray⟩,.int .i64 t.n,.slice t.A t.kids.length t.cap,.int .i64 (t.pos:Int)] 101)))).eight;clear ht hl aH))
 (try simp only[Exit.inBlock,Exit.then]);rw[bg];have LP:=HR.out.ev (nS.out.trans (Ev.alloc w1 (.cells #[.int .i64 t.kind,.string ⟨t.s.toArray⟩,.int .i64 t.n,.slice t.A t.kids.length t.cap,.int .i64 (t.pos:Int)] 101)));refine bodyPost_ret (aF rfl _ _ _ _ _ rfl (LP.iw _ _ _ _ _ _ _ _) Tryz.underlying32 rfl Tryz.bJ) rfl ?_;exact⟨jJ,rfl,gY,Qx.zero _ _ _,(HE.out.trans (nS.out.trans (Ev.alloc _ _))).box (bQ _ _ _ _ _ _ _ _ _ _) (att _)⟩
end Go.Proofs.YtpbfokkocaemlaaGreatDoor
