import Derived.Test.YtpbfokkocaemlaaGreatDoorZ18P
import Derived.Test.YtpbfokkocaemlaaGreatDoorZ15P
set_option linter.unusedVariables false
set_option maxRecDepth 100000
set_option maxHeartbeats 64000000
namespace Go.Proofs.YtpbfokkocaemlaaGreatDoor
open Go.RowKit
open Go.Lib renaming hid → zq
open Go renaming World → ak
open Go renaming Value → au
open Go.Proofs.Tryz renaming prog → ax
variable {U:Prop}
open Go.Proofs.Tryz
theorem Eg:∀(N:Nat) (r b:By) (i:Nat),r.length<=N->(sxTextGo b r i).s.length<=40
 | 0,[],b,i,_=>by simp[sxTextGo,bf]
 | N+1,[],b,i,_=>by simp[sxTextGo,bf]
 | 0,c::q,b,i,h=>by simp at h
 | N+1,c::q,b,i,h=>by
  have hq:q.length<=N:=by simpa using h
  unfold sxTextGo;split;exact Eg N q _ _ hq;split
  cases q with
  | nil=>simp[bf]
  | cons x q1=>
   simp only[]
   cases iG x with
   | none=>simp[bf]
   | some a=>
    cases q1 with
    | nil=>simp[bf]
    | cons y q2=>
     simp only[]
     cases iG y with
     | none=>simp[bf]
     | some k=>exact Eg N q2 _ _ (by simp at hq;omega)
  split;split;simp[bf];rename_i h;simp;omega;simp[bf]
theorem I8(plus:Bool)(d:By)(hd:∀c∈d,bg c=true):zW (sxNum plus d).n/\(sxNum plus d).s=[]:=by
 unfold sxNum
 cases hb:sxBelow d 0 with
 | none=>exact⟨(show zW 0 by decide),rfl⟩
 | some n=>
  have hr:=sD d hd 0 n ae ae hb;simp only[];split;exact⟨(show zW 0 by decide),rfl⟩;rename_i h1
  cases plus
  simp only[awP,aw7];exact⟨⟨hr.1,ae⟩,aj⟩;simp at h1;simp only[aw4];exact⟨⟨ae,by have:=h1.2;omega⟩,aj⟩
theorem Zc(c:UInt8)(q:By):(bW (c::q)).s.length<=q.length+41/\zW (bW (c::q)).n:=by simp only[bW];split;exact⟨aj,ai⟩;split;exact⟨aj,ai⟩;split;have:=Eg q.length q [] 1 (awC _);rw[JL q.length q [] 1 (awC _)];exact⟨ae,ai⟩;split;simp only[dW];split;obtain⟨h1,h2⟩:=I8 false (dR q) (fJ q);exact⟨by rw[h2];simp,h1⟩;obtain⟨h1,h2⟩:=I8 true (dR (c::q)) (fJ (c::q));exact⟨by rw[h2];simp,h1⟩;split;exact⟨by simp only[axa,awR];omega,by show zW 0;decide⟩;exact⟨by simp[bf],by show zW 0;decide⟩
theorem T.abB(e t:T):(e.add t).size=e.size+t.size:=by rw[T.size_eq,T.size_eq e];show ((e.kids++[t]).map T.size).sum+1=_;rw[awM,axP];simp;omega
theorem T.abC(e t:T):(e.add t).every dh=(e.every dh&&t.every dh):=by rw[T.gI,T.gI dh e];show (dh e&&(e.kids++[t]).all (T.every dh))=_;rw[axJ,Bool.and_assoc];simp
theorem I9:∀(os:List T) (t:T),((sxPut os t).map T.size).sum<=(os.map T.size).sum+t.size
 | [],t=>by simp[sxPut]
 | [e],t=>by simp[sxPut,T.abB]
 | e::e'::os,t=>by have:=I9 (e'::os) t;simp only[sxPut,awI,axr]at this|-;omega
theorem J8:∀(os:List T) (t:T),os.all (T.every dh)=true->t.every dh=true->(sxPut os t).all (T.every dh)=true
 | [],t,_,_=>rfl
 | [e],t,h,ht=>by simp only[ayh,List.all_nil,ayb]at h;simp[sxPut,T.abC,h,ht]
 | e::e'::os,t,h,ht=>by rw[ayh,awF]at h;have:=J8 (e'::os) t h.2 ht;simp only[sxPut,ayh,h.1,axB]at this|-;exact this
theorem XV(os:List T):((rfPop os).map T.size).sum<=(os.map T.size).sum:=by
 unfold rfPop;cases h:os.getLast? with
 | none=>exact awC _
 | some e=>
  have h1:=I9 os.dropLast e;have h2:os=os.dropLast++[e]:=by rw[ayd]at h;obtain⟨l,rfl⟩:=h;simp
  have h3:(os.map T.size).sum=(os.dropLast.map T.size).sum+e.size:=by
   conv=>lhs;rw[h2]
   rw[awM,axP];simp
  simp only[];omega
theorem abD(os:List T)(h:os.all (T.every dh)=true):(rfPop os).all (T.every dh)=true:=by
 unfold rfPop
 cases hl:os.getLast? with
 | none=>exact h
 | some e=>
  rw[ayd]at hl;obtain⟨l,rfl⟩:=hl;rw[axJ,awF]at h;simp only[List.dropLast_concat];exact J8 _ _ h.1 (by simpa using h.2)
def Qh(N:Nat)(t:T):Prop:=t.every dh=true/\t.size<=N
theorem kM{N:Nat}(h:1<=N):Qh N eu:=⟨by decide+kernel,h⟩
theorem Tf{N:Nat}(hN:1<=N):∀(os:List T) (pos:Nat),os.all (T.every dh)=true->(os.map T.size).sum<=N->Qh N (kV os pos).1
 | [],_,_,_=>kM hN
 | e::os,pos,h,hs=>by
  unfold kV
  cases hk:e.kids with
  | nil=>simp only[hk];exact kM hN
  | cons t l=>
   simp only[hk];rw[ayh,awF,T.gI,awF,hk,ayh,awF]at h;refine⟨h.1.2.1,?_⟩;have:=T.size_eq e;rw[hk]at this;simp only[awI,axr]at this hs;omega
theorem vw(N:Nat)(hN:1<=N)(U5:N<=1000):∀(f:Nat) (os:List T) (r:By) (pos:Nat),os.all (T.every dh)=true->(os.map T.size).sum<=pos+1->pos+r.length+1<=N->Qh N (rfGo f os r pos).1
 | 0,_,_,_,_,_,_=>kM hN
 | f+1,os,[],pos,h,hs,hp=>by unfold rfGo I5;split;exact kM hN;exact Tf hN _ _ h (by simp at hp;omega)
 | f+1,os,c::q,pos,h,hs,hp=>by
  simp only[awR]at hp;unfold rfGo;split;exact vw N hN U5 f _ _ _ h ae ae;split;split;exact kM hN;exact vw N hN U5 f _ _ _ (abD _ h) (by have:=XV os;omega) ae;split;exact kM hN;split;exact kM hN;split;split;exact kM hN;refine vw N hN U5 f _ _ _ ?_ ?_ ae;rw[axJ,h];rfl;rw[awM,axP];simp[T.size,T.sizes];omega;split;rename_i hw;have D8:=(xW c q).good (by simpa using hw);have hsn:=Zc c q;generalize bW (c::q)=x at*;have ht:(x.tree pos).every dh=true/\(x.tree pos).size=1:=by refine⟨?_,rfl⟩;simp only[Tk.tree,T.every,T.everys,ayb,dh,T.n,T.s,awF];exact⟨aw5 hsn.2,aw5 ae⟩
  refine vw N hN U5 f _ _ _ (J8 _ _ h ht.1) ?_ ?_;have h1:=I9 os (x.tree pos);have h2:=D8.1;rw[ht.2]at h1;omega;rw[aw'];have:=D8.2.1;simp only[awR]at this|-;omega;exact kM hN
theorem abE(l:By):Qh 601 (dO l).1:=by unfold dO;split;exact kM ae;exact vw 601 ae ae _ _ _ _ (by decide+kernel) (by decide+kernel) ae
def J9(t:T):Bool:=!(t.kind==4)||decide (t.s.length<=40)
def zZ(e:T):Bool:=!(e.kind==3)||decide (e.s.length<=40)
theorem VS{k:Int}{s:By}{n:Int}{l:List T}{p:Nat}(h:s.length<=40):zZ (.mk k s n l p)=true:=by unfold zZ;rw[aw_];exact .inr (aw5 h)
theorem sV{k:Int}{s:By}{n:Int}{l:List T}{p:Nat}(h1:zW n)(h2:s.length<=100000):dh (.mk k s n l p)=true:=by unfold dh;rw[awF];exact⟨aw5 h1,aw5 h2⟩
theorem qo{k:Int}{s:By}{n:Int}{l:List T}{p:Nat}(h:dh (.mk k s n l p)=true):zW n/\s.length<=100000:=by unfold dh at h;rw[awF]at h;exact⟨ax1 h.1,ax1 h.2⟩
theorem zf{p:T->Bool}(hz:eu.every p=true)(s:By)(hp:∀l,p (.mk 4 s 0 l 0)=true):∀(rs:List Ea) (done:List T),(∀t∈done,t.every p=true)->(∀r∈rs,r.1.every p=true)->(xReads s done rs).1.every p=true
 | [],done,hd,_=>by simp only[xReads];rw[T.gI,hp];show (true&&done.all (T.every p))=true;rw[axB,awW];exact hd
 | r::rs,done,hd,hr=>by unfold xReads;split;refine zf hz s hp rs _ (λt ht=>?_) λx hx=>hr x (awK _ hx);rcases awV.1 ht with h|h;exact hd t h;simp at h;subst h;exact hr r (awL ..);exact hz
theorem pR(s:By)(n:Int)(l:List T)(p:Nat):xRead (.mk 1 s n l p)=(match l with
  | []=>kK 12 p
  | h::q=>if h.kind==2&&!(bQ h.s==0) then (if q.length==bQ h.s then xReads h.s [] (q.map xRead) else kK 23 p) else kK 12 p):=by
 cases l with
 | nil=>rfl
 | cons h q=>simp only[xRead,uw];rfl
theorem ku{k:Int}(s:By)(n:Int)(l:List T)(p:Nat)(h1:k≠1):xRead (.mk k s n l p)=if k==2 then (if jO s then (.mk 1 s 0 [] 0,0,0) else kK 20 p) else if k==3 then (.mk 2 [] n [] 0,0,0) else if k==4 then (.mk 3 s 0 [] 0,0,0) else kK 12 p:=by
 have h:(k==1)=false:=awy.2 h1
 cases l<;>simp only[xRead,h,awP,aw7]
mutual
theorem Hm:∀t:T,t.every J9=true->(xRead t).1.every zZ=true
 | .mk k s n l p,h=>by
  have hz:eu.every zZ=true:=by decide+kernel
  rw[T.every,awF]at h;have hl:=z_ l h.2;by_cases k1:k=1;subst k1;rw[pR]
  cases l with
  | nil=>exact hz
  | cons hd q=>
   simp only;split;split;refine zf hz hd.s (λl=>rfl) _ [] (λt ht=>by cases ht) λr hr=>?_;obtain⟨t,ht,rfl⟩:=aw6.1 hr;exact hl t (awK _ ht);exact hz;exact hz
  rw[ku s n l p k1];split;split;simp[T.every,T.everys,zZ,T.kind];exact hz;split;simp[T.every,T.everys,zZ,T.kind];split;rename_i h4;have h5:=h.1;unfold J9 at h5;have h6:s.length<=40:=by rw[show (T.mk k s n l p).kind=k from rfl,h4,Bool.not_true,Bool.false_or]at h5;exact ax1 h5
  simp[T.every,T.everys,VS h6];exact hz
theorem z_:∀l:List T,T.everys J9 l=true->∀t∈l,(xRead t).1.every zZ=true
 | [],_=>λt ht=>by cases ht
 | a::l,h=>by rw[T.everys,awF]at h;intro t ht;rcases awN.1 ht with h3|h3;rw[h3];exact Hm a h.1;exact z_ l h.2 t h3
end
mutual
theorem J_:∀t:T,t.every dh=true->(xRead t).1.every dh=true
 | .mk k s n l p,h=>by
  have hz:eu.every dh=true:=by decide+kernel
  rw[T.every,awF]at h;have hl:=CB l h.2;have hl2:=h.2;have h1:=qo h.1;have D5:zW 0:=ai;by_cases k1:k=1;subst k1;rw[pR]
  cases l with
  | nil=>exact hz
  | cons hd q=>
   simp only;have hh:hd.s.length<=100000:=by rw[T.everys,awF,T.gI,awF]at hl2;have:=hl2.1.1;unfold dh at this;rw[awF]at this;exact ax1 this.2
   split;split;refine zf hz hd.s (λl=>?_) _ [] (λt ht=>by cases ht) λr hr=>?_;exact sV D5 hh;obtain⟨t,ht,rfl⟩:=aw6.1 hr;exact hl t (awK _ ht);exact hz;exact hz
  rw[ku s n l p k1];split;split;simp[T.every,T.everys,sV D5 h1.2];exact hz;split;simp[T.every,T.everys,sV h1.1 (show ([]:By).length<=100000 by simp)];split;simp[T.every,T.everys,sV D5 h1.2];exact hz
theorem CB:∀l:List T,T.everys dh l=true->∀t∈l,(xRead t).1.every dh=true
 | [],_=>λt ht=>by cases ht
 | a::l,h=>by rw[T.everys,awF]at h;intro t ht;rcases awN.1 ht with h3|h3;rw[h3];exact J_ a h.1;exact CB l h.2 t h3
end
theorem Ho(s:By):∀(rs:List Ea) (done:List T),(xReads s done rs).1.size<=(done.map T.size).sum+(rs.map λr=>r.1.size).sum+1
 | [],done=>by simp only[xReads];rw[T.size_eq];simp[T.kids]
 | r::rs,done=>by unfold xReads;split;have:=Ho s rs (done++[r.1]);simp only[awM,axP,awI,axr,awY,aye]at this|-;omega;simp[eu,T.size,T.sizes]
theorem Ko{α:Type}{f g:α->Nat}:∀{l:List α},(∀x∈l,f x<=g x)->(l.map f).sum<=(l.map g).sum
 | [],_=>awC _
 | a::l,h=>by have h1:=h a (awL ..);have h2:=Ko (l:=l) λx hx=>h x (awK _ hx);simp only[awI,axr];omega
mutual
theorem Kq:∀t:T,(xRead t).1.size<=t.size
 | .mk k s n l p=>by
  have hp:=T.size_pos (.mk k s n l p);have hb:eu.size<=(T.mk k s n l p).size:=hp;have hl:=CE l;by_cases k1:k=1;subst k1;rw[pR]
  cases l with
  | nil=>exact hb
  | cons hd q=>
   simp only;split;split;have h1:=Ho hd.s (q.map xRead) [];have h2:((q.map xRead).map λr=>r.1.size).sum<=(q.map T.size).sum:=by rw[awT];exact Ko λt ht=>hl t (awK _ ht)
   rw[T.size_eq (.mk 1 s n (hd::q) p)];simp only[T.kids,awI,axr,awY,aye]at h1|-;omega;exact hb;exact hb
  rw[ku s n l p k1];split;split;exact hp;exact hb;split;exact hp;split;exact hp;exact hb
theorem CE:∀l:List T,∀t∈l,(xRead t).1.size<=t.size
 | []=>λt ht=>by cases ht
 | a::l=>by intro t ht;rcases awN.1 ht with h3|h3;rw[h3];exact Kq a;exact CE l t h3
end
mutual
theorem Hq:∀t:T,(xRead t).2.1=0->dX (xRead t).1=true
 | .mk k s n l p=>by
  intro h;have hl:=Aa l;by_cases k1:k=1
  ·subst k1;rw[pR]at h|-
   cases l with
   | nil=>simp[kK]at h
   | cons hd q=>
    simp only at h|-;by_cases hk:(hd.kind==2&&!(bQ hd.s==0))=true
    ·rw[if_pos hk]at h|-;by_cases hq:(q.length==bQ hd.s)=true
     ·rw[if_pos hq]at h|-;have h3:∀(rs:List Ea) (done:List T),(xReads hd.s done rs).2.1=0->(∀r∈rs,r.2.1=0)/\xReads hd.s done rs=(.mk 4 hd.s 0 (done++rs.map (·.1)) 0,0,0):=by
       intro rs
       induction rs with
       | nil=>intro done _;exact⟨(λ_ h=>by cases h),by simp[xReads]⟩
       | cons r rs ih=>
        intro done h;unfold xReads at h|-;by_cases hr:r.2.1=0;rw[if_pos (by simp[hr])]at h|-;obtain⟨h1,h2⟩:=ih (done++[r.1]) h;refine⟨λx hx=>?_,by rw[h2];simp⟩;rcases awN.1 hx with rfl|hx;exact hr;exact h1 x hx;rw[if_neg (by simp[hr])]at h;exact absurd h hr
      obtain⟨h1,h2⟩:=h3 _ [] h;rw[h2];simp only[axA,awT];simp only[awF,awO,ax0,awy]at hk hq;rw[dX,wS,awF,awW];refine⟨?_,λt ht=>?_⟩;have:(bQ hd.s==0)=false:=awy.2 hk.2;have e:∀L:List T,oQ (.mk 4 hd.s 0 L 0)=(bQ hd.s==0||!((0:Int)==0)||!(L.length==bQ hd.s)):=λL=>rfl;rw[e,this,awD,hq];simp;obtain⟨u,hu,rfl⟩:=aw6.1 ht;exact hl u (awK _ hu) (h1 _ (aw6.2 ⟨u,hu,rfl⟩))
     rw[if_neg hq]at h;exact absurd h (by simp[kK])
    rw[if_neg hk]at h;exact absurd h (by simp[kK])
  rw[ku s n l p k1]at h|-;by_cases k2:k=2;subst k2;by_cases hn:jO s=true;simp[hn,dX,wR,oQ,T.kind,T.s,T.n,T.kids];simp[hn,kK]at h;by_cases k3:k=3;subst k3;rfl;by_cases k4:k=4;subst k4;rfl;simp[k2,k3,k4,kK]at h
theorem Aa:∀l:List T,∀t∈l,(xRead t).2.1=0->dX (xRead t).1=true
 | []=>λt ht=>by cases ht
 | a::l=>by intro t ht;rcases awN.1 ht with h3|h3;rw[h3];exact Hq a;exact Aa l t h3
end
theorem Ti{s:By}(h:(P5 s||P6 s)=true):s=yQ∨s=yR∨s=yS∨s=PV∨s=PW∨s=yT∨s=PY∨s=yU∨s=yV∨s=yX∨s=yY:=by unfold P5 P6 at h;simp only[aw_,awO]at h;rcases h with (((((((h1|h1)|h1)|h1)|h1)|h1)|h1)|h1)|((h1|h1)|h1)<;>simp[h1]
theorem VV{s:By}(h0:bQ s≠0):s=yQ∨s=yR∨s=yS∨s=yT∨s=PY∨s=yV∨s=yX∨s=PV∨s=PW∨s=yU∨s=yY∨s=JP:=by
 cases hi:s==JP
 ·rcases Ti (SY h0 hi).1 with h1|h1|h1|h1|h1|h1|h1|h1|h1|h1|h1<;>simp[h1]
 have:=awO.1 hi;simp[this]
theorem ay5(h:U:=by
 clear hx
 cases F
 ·go_wp2;go_roundw
  case rel=>exact⟨q+1,false,rfl,by go_num,ae,zq (by rw[jP.out];rfl),kH⟩
  case measure=>simp[intOf];omega
 by_cases hx1:x=1
 ·have hxb:(x==1)=true:=awO.2 hx1;rw[hx1]at x0;clear hx1;go_wp2;go_roundw
  case rel=>exact⟨q+1,true,rfl,by go_num,ae,zq (by rw[jP.out,hxb];rfl),kH⟩
  case measure=>simp[intOf];omega
 have hxb:(x==1)=false:=awy.2 hx1;clear hx1;go_wp2;go_roundw
 case rel=>exact⟨q+1,false,rfl,by go_num,ae,zq (by rw[jP.out,hxb];rfl),kH⟩
 case measure=>simp[intOf];omega):U:=h
theorem azQ(h:U:=by
 have Ej:Hid (lQ ks 1=F):=zq (by
  rw[HF.out,OG,awS (by rw[qV.out.len];exact awC _)];rfl)
 clear OG
 cases F
 ·go_wp2
  go_ret2
  exact⟨by rw[jF.out,Ej.out];rfl,jy.out.trans kH⟩
 go_wp2
 go_ret2
 exact⟨by rw[jF.out,Ej.out];rfl,jy.out.trans kH⟩):U:=h
theorem ayH(h:U:=by
 have jF:=zq gG;have qV:=zq t_;clear gG t_;go_wp2
 go_loopw [12,14] (λfv iv w5=>∃(q:Nat) (F:Bool),fv=.bool F/\iv=↑q/\q<=2/\Hid (F=(ks.take q).all (·==1))/\Ev wr w5) (λ_ iv _=>2-(intOf iv).toNat)
 case atStart=>exact⟨0,true,rfl,rfl,awJ _,zq rfl,Ev.refl _⟩
 case round=>
  obtain⟨q,F,rfl,rfl,hq,HF,kH⟩:=hrel;by_cases Zf:q<2;obtain⟨x,hx⟩:=qV.out.at Zf;obtain⟨b,off,rfl,hb,x0⟩:=Ks.cell (qV.out.ev kH) hx;have jP:Hid ((ks.take (q+1)).all (·==1)=(F&&(x==1))):=zq (by
   obtain⟨hk2,e⟩:=awz.1 hx;rw[awH hk2,axJ,<-HF.out,e];simp)
  have j1:(0:Int)<=(q:Int):=ae;have j2:(q:Int)<2:=ae;exact ay5;have OG:q=2:=ae;have j2:¬((q:Int)<2):=ae;exact azQ):U:=h
theorem ayI(h:U:=by
 have jF:=zq gG;have qV:=zq t_;clear gG t_;go_wp2
 go_loopw [12,14] (λfv iv w5=>∃(q:Nat) (F:Bool),fv=.bool F/\iv=↑q/\q<=1/\Hid (F=(ks.take q).all (·==1))/\Ev wr w5) (λ_ iv _=>1-(intOf iv).toNat)
 case atStart=>exact⟨0,true,rfl,rfl,awJ _,zq rfl,Ev.refl _⟩
 case round=>
  obtain⟨q,F,rfl,rfl,hq,HF,kH⟩:=hrel;by_cases Zf:q<1;obtain⟨x,hx⟩:=qV.out.at Zf;obtain⟨b,off,rfl,hb,x0⟩:=Ks.cell (qV.out.ev kH) hx;have jP:Hid ((ks.take (q+1)).all (·==1)=(F&&(x==1))):=zq (by
   obtain⟨hk2,e⟩:=awz.1 hx;rw[awH hk2,axJ,<-HF.out,e];simp)
  have j1:(0:Int)<=(q:Int):=ae;have j2:(q:Int)<1:=ae;exact ay5;have OG:q=1:=ae;have j2:¬((q:Int)<1):=ae;exact azQ):U:=h
theorem aBS(h:U:=by
 go_wp2
 go_quiet (fail)
 go_wp2
 go_ret2
 exact⟨by rw[jF.out];rfl,jy.out.trans (Ev.drewN _ _)⟩):U:=h
theorem aBA(h:U:=by clear gG t_ hx;exact aBS):U:=h
theorem aza(h:U:=by by_cases hx:y=z;have g:(y==z)=true:=awO.2 hx;have jF:Hid (R=(1,0)):=zq (by rw[gG,if_pos g]);exact aBA;have g:(y==z)=false:=awy.2 hx;have jF:Hid (R=(0,22)):=zq (by rw[gG,g];rfl);exact aBA):U:=h
theorem aAU(h:U:=by
 have g:(y==2)=false:=awy.2 hy;have jF:Hid (R=(0,22)):=zq (by rw[gG,g];rfl);clear gG t_ hy;go_wp2
 go_ret2
 exact⟨by rw[jF.out];rfl,jy.out⟩):U:=h
theorem aA7(h:U:=by rw[hy]at x0;clear gG t_ hy hz;exact aBS):U:=h
theorem aeN(N:Nat):∀(m:M) (b0:Nat) (w:ak) (A:Option Addr) (n cap:Nat) (cols:List C),m.dep<=N->Lx b0 [] w m->Cs w A n cap cols->dX m.t=true->
  Calls ax 91 #[xZ m,.slice A n cap] w λe w'=>e=.returned (.tuple #[.int .i64 (xKind cols m.t).1,.int .i64 (xKind cols m.t).2])/\Ev w w':=by
 induction N with
 | zero=>
  intro m b0 w A n cap cols hd;rw[M.lh]at hd;omega
 | succ N ih=>
  intro m b0 w A n cap cols hd hL hC hr;obtain⟨hf,VN⟩:=Ef hr;have dK:=xKind_eq cols m;obtain⟨ms,fM⟩:∃ms,ms=m.s:=⟨_,rfl⟩
  have aV:=Ev.alloc w (.cells #[↑m.kind,↑ms,↑m.n,m.kv] 47);have hB:=Bx.new 47 #[↑m.kind,↑ms,↑m.n,m.kv] w;obtain⟨w0,hw0⟩:∃w0,w.alloc (.cells #[↑m.kind,↑ms,↑m.n,m.kv] 47)=w0:=⟨_,rfl⟩
  rw[hw0]at aV hB;have HE:=zq aV;have HB:=zq hB;have lM:=zq ih;have HL:=zq hL;have HC:=zq hC;have HKR:=zq VN;have HD:=zq hd;have hes:=hL.es;obtain⟨kn,hkn⟩:∃kn,kn=m.kids.length:=⟨_,rfl⟩
  unfold xZ;unfold M.kv at*;rw[<-hkn]at hf hw0 HB hes|-;rw[<-fM]at hf dK|-;have mg:=zq hkn;obtain⟨⟨c0,c1,c2,c3⟩,_⟩:=HB.out.four;clear ih hL hC hr VN hd hkn aV hB fM;rcases wW hf with hk|hk|hk|⟨hk,pG,G5⟩
  ·rw[hk]at dK hw0 c0|-;simp only[axe,aw4]at dK;have HF:=λw1 (hE:Ev w w1)=>og (aY ms) w1 (HC.out.ev hE);unfold aY at HF dK
   cases MN:bZ cols ⟨ms.toArray⟩ with
   | none=>
    rw[MN]at dK HF;have HK:=zq dK;have HF:=zq HF;clear dK MN;go_enter func91,ntmps91;exact aAN
   | some i=>
    rw[MN]at dK HF;have MM:=SV MN;rw[HC.out.len]at MM;obtain⟨b,off,x,rfl,hb,hx,d0,d1⟩:=HC.out.Oj MM;have hx2:cols.getD i (⟨#[]⟩,0)=x:=by simp[List.getD,hx]
    simp only[hx2]at dK;have HK:=zq dK;have HF:=zq HF;have HD1:=zq (λw1 (hE:Ev w w1)=>(hE.cell (p:=⟨b,off+i*2+1,none⟩) hb).trans d1);have i1:(0:Int)<=(i:Int):=ae;have i2:(i:Int)<(n:Int):=ae;clear dK MN hx hx2 d0 d1;go_enter func91,ntmps91;exact aAc
  ·rw[hk]at dK hw0 c0|-;have HK:Hid (xKind cols m.t=(1,0)):=zq (by rw[dK];rfl);clear dK;go_enter func91,ntmps91;go_wp2
   go_ret2
   exact⟨by rw[HK.out];rfl,HE.out⟩
  ·rw[hk]at dK hw0 c0|-;have HK:Hid (xKind cols m.t=(2,0)):=zq (by rw[dK];rfl);clear dK;go_enter func91,ntmps91;go_wp2
   go_ret2
   exact⟨by rw[HK.out];rfl,HE.out⟩
  rw[hk]at dK hw0 c0|-;obtain⟨R,hR⟩:∃R,R=xKind cols m.t:=⟨_,rfl⟩
  rw[<-hR]at dK|-;have HK:Hid (R=xKindsGo ms [] ((m.kids.drop 0).map λx=>xKind cols x.t)):=zq (by rw[dK];rfl);generalize m.A=mA at*;generalize m.cap=kL at*;have Oy:=zq hes;have HN1:=zq pG;have Qe:=zq G5;have qM:=hes.le;have Vy:=hes.max;have hkb:kn<=3:=by rw[pG];unfold bQ;split<;>(try split)<;>(try split)<;>omega
  have sN:=HB.out;rw[hk]at sN;have sN:=zq sN;clear dK hR pG G5 hes hk hf;go_enter func91,ntmps91;go_wp2
  go_loopw [8,9] (λkv iv wr=>∃(A1:Option Addr) (n1 cap1 j:Nat) (ks:List Int),kv=.slice A1 n1 cap1/\iv=↑j/\j<=kn/\Hid (n1=j/\ks.length=j)/\Hid (KSt w0 (.slice A1 n1 cap1) ks wr)/\Hid (R=xKindsGo ms ks ((m.kids.drop j).map λx=>xKind cols x.t))) (λ_ iv _=>kn-(intOf iv).toNat)
  case atStart=>exact⟨none,0,0,0,[],rfl,rfl,awJ _,zq ⟨rfl,rfl⟩,zq ⟨Ow.nil_ _,Ev.refl _⟩,HK⟩
  case round=>
   obtain⟨A1,n1,cap1,j,ks,rfl,rfl,hj,HN,HS,HR⟩:=hrel;obtain⟨⟨c0,c1,c2,c3⟩,_⟩:=(sN.out.ev HS.out.ev).four;have jy:=zq (HE.out.trans HS.out.ev);by_cases hlt:j<kn
   ·obtain⟨x,hx⟩:=Oy.out.at hlt;obtain⟨b,off,rfl,hb,x0,x1,x2,x3⟩:=Es.cell (Oy.out.ev jy.out) hx;have gJ:=awG hx;have hdj:m.kids.drop j=x::m.kids.drop (j+1):=by obtain⟨hj',e⟩:=awz.1 hx;rw[axt hj',e]
    have gG:=HR.out;rw[hdj,awI]at gG;unfold xKindsGo at gG;have HI:=λw1 (hE:Ev w w1)=>lM.out x b0 w1 A n cap cols (by have:=M.jY gJ;have:=HD.out;omega) ((HL.out.kid x gJ).ev hE) (HC.out.ev hE) (HKR.out x gJ);generalize xKind cols x.t=rx at*;obtain⟨rk,rw_⟩:=rx;simp only at HI gG;unfold xZ M.kv at HI;unfold M.kv at x3;have HI:=zq HI;have i1:(0:Int)<=(j:Int):=ae;have i2:(j:Int)<(kn:Int):=ae;have wF:=HN;obtain⟨pG,BM⟩:=HN.out;subst pG;have zJ:=zq BM;clear hx gJ hdj BM HN;by_cases hw:rw_=0
    ·subst hw;simp only[axe,aw4]at gG;have jF:=zq gG;clear gG
     go_wp2_with (first
      | ((with_reducible refine(HI.out _ jy.out).mono ?_);rintro e w1 ⟨rfl,aN⟩;have E1:=zq aN)
      | ((show wpList _ _ _ (⟨some 60,_,_,_,_,_⟩::_) _ _);refine aO (o:=⟨some 60,_,_,_,_,_⟩) rfl 88 (.tmp 57) (.tmp 59) rfl encI underlying88 Tryz.XN rfl rfl (HS.out.own.ev (E1.out.trans (Ev.alloc w1 _))) ↑w1 1 1 [rk] rfl (Sl.one encI w1 rk _ rfl) (by rw[zJ.out];simp;omega) (by rw[zJ.out];simp;omega) ((HS.out.ev.trans E1.out).trans (Ev.alloc w1 _)).size ?_;intro v2 w2 dY;have E2:Ev w0 w2:=((But.aW ((HS.out.ev.trans E1.out).trans (Ev.alloc w1 _))).then dY.2.1).ev (λk hk=>(HS.out.own.lt (aG.1 hk)).1);obtain⟨A2,cap2,rfl,_,_⟩:=dY.1.form encI;generalize BO:(ks++[rk]).length=nn at dY|-;have Dh:=zq BO.symm;clear BO))
     exact aAs
    have Nk:(rw_==0)=false:=awy.2 hw;have hwn:(rw_ !=0)=true:=by simp[hw]
    rw[Nk]at gG;simp only[awP,aw7]at gG;have jF:=zq gG;clear gG
    go_wp2_with (first
     | ((with_reducible refine(HI.out _ jy.out).mono ?_);rintro e w1 ⟨rfl,aN⟩;have E1:=zq aN))
    go_ret2
    exact⟨by rw[jF.out];rfl,jy.out.trans E1.out⟩
   have hjk:j=kn:=ae;have i2:¬((j:Int)<(kn:Int)):=ae;have gG:=HR.out;rw[hjk,mg.out,List.drop_length]at gG;simp only[awY,xKindsGo]at gG;obtain⟨pG,BM⟩:=HN.out;obtain⟨_,aj7,hvS,t_,aok⟩:=HS.out.own.form encI;clear aok;injection hvS with Jy hv2 hv3
   subst Jy hv3;have hl:ks.length=bQ ms:=by rw[BM,hjk,HN1.out]
   rw[<-hv2]at t_ hl;have hcl:=t_.le;have hcm:=t_.max;have hop:=VV Qe.out;clear pG BM hjk HN hv2 HN1 Qe HR;rcases hop with h1|h1|h1|h1|h1|h1|h1|h1|h1|h1|h1|h1;subst h1;obtain rfl:n1=2:=hl;rw[show bJ yQ ks=if lQ ks 1 then (1,0) else (0,22) from rfl]at gG;simp only[yQ]at c1;exact ayH;subst h1;obtain rfl:n1=2:=hl;rw[show bJ yR ks=if lQ ks 1 then (1,0) else (0,22) from rfl]at gG;simp only[yR]at c1;exact ayH;subst h1;obtain rfl:n1=2:=hl;rw[show bJ yS ks=if lQ ks 1 then (1,0) else (0,22) from rfl]at gG;simp only[yS]at c1;exact ayH;subst h1;obtain rfl:n1=2:=hl;rw[show bJ yT ks=if lQ ks 1 then (1,0) else (0,22) from rfl]at gG;simp only[yT]at c1;exact ayH;subst h1;obtain rfl:n1=2:=hl;rw[show bJ PY ks=if lQ ks 1 then (1,0) else (0,22) from rfl]at gG;simp only[PY]at c1;exact ayH;subst h1;obtain rfl:n1=1:=hl;rw[show bJ yV ks=if lQ ks 1 then (1,0) else (0,22) from rfl]at gG;simp only[yV]at c1;exact ayI;subst h1;obtain rfl:n1=1:=hl;rw[show bJ yX ks=if lQ ks 1 then (1,0) else (0,22) from rfl]at gG;simp only[yX]at c1;exact ayI;subst h1;obtain rfl:n1=2:=hl;simp only[PV]at c1;obtain⟨y,z,rfl⟩:=yZ t_.len;obtain⟨b,off,rfl,hb,x0⟩:=Ks.cell t_ (i:=0) (x:=y) rfl;obtain⟨b',off',e',_,x1⟩:=Ks.cell t_ (i:=1) (x:=z) rfl;injection e' with e'
   injection e' with e1 e2 _
   subst e1 e2;simp only[aw2]at x0;rw[show bJ PV [y,z]=if y==z then (1,0) else (0,22) from rfl]at gG;exact aza;subst h1;obtain rfl:n1=2:=hl;simp only[PW]at c1;obtain⟨y,z,rfl⟩:=yZ t_.len;obtain⟨b,off,rfl,hb,x0⟩:=Ks.cell t_ (i:=0) (x:=y) rfl;obtain⟨b',off',e',_,x1⟩:=Ks.cell t_ (i:=1) (x:=z) rfl;injection e' with e'
   injection e' with e1 e2 _
   subst e1 e2;simp only[aw2]at x0;rw[show bJ PW [y,z]=if y==z then (1,0) else (0,22) from rfl]at gG;exact aza
   ·subst h1;obtain rfl:n1=2:=hl;simp only[yU]at c1;obtain⟨y,z,rfl⟩:=yZ t_.len;obtain⟨b,off,rfl,hb,x0⟩:=Ks.cell t_ (i:=0) (x:=y) rfl;obtain⟨b',off',e',_,x1⟩:=Ks.cell t_ (i:=1) (x:=z) rfl;injection e' with e'
    injection e' with e1 e2 _
    subst e1 e2;simp only[aw2]at x0;rw[show bJ yU [y,z]=if (y==2&&(z==2&&true)) then (2,0) else (0,22) from rfl]at gG;by_cases hy:y=2
    ·by_cases hz:z=2
     ·have jF:Hid (R=(2,0)):=zq (by rw[gG,hy,hz];rfl);rw[hy]at x0;rw[hz]at x1;clear gG t_ hy hz;go_wp2
      go_ret2
      exact⟨by rw[jF.out];rfl,jy.out⟩
     have g:(z==2)=false:=awy.2 hz;have jF:Hid (R=(0,22)):=zq (by rw[gG,hy,g];rfl);rw[hy]at x0;clear gG t_ hy hz;go_wp2
     go_ret2
     exact⟨by rw[jF.out];rfl,jy.out⟩
    exact aAU
   ·subst h1;obtain rfl:n1=1:=hl;simp only[yY]at c1;obtain⟨y,rfl⟩:∃y,ks=[y]:=by
     have:=t_.len
     cases ks with
     | nil=>simp at this
     | cons y q=>cases q with
      | nil=>exact⟨y,rfl⟩
      | cons z q=>simp at this
    obtain⟨b,off,rfl,hb,x0⟩:=Ks.cell t_ (i:=0) (x:=y) rfl;simp only[aw2]at x0;rw[show bJ yY [y]=if (y==2&&true) then (1,0) else (0,22) from rfl]at gG;by_cases hy:y=2
    ·have jF:Hid (R=(1,0)):=zq (by rw[gG,hy];rfl);rw[hy]at x0;clear gG t_ hy;go_wp2
     go_ret2
     exact⟨by rw[jF.out];rfl,jy.out⟩
    exact aAU
   subst h1;obtain rfl:n1=3:=hl;simp only[JP]at c1;obtain⟨y,z,u,rfl⟩:=SS t_.len;obtain⟨b,off,rfl,hb,x0⟩:=Ks.cell t_ (i:=0) (x:=y) rfl;obtain⟨b',off',e',_,x1⟩:=Ks.cell t_ (i:=1) (x:=z) rfl;injection e' with e'
   injection e' with e1 e2 _
   subst e1 e2;obtain⟨b',off',e',_,x2⟩:=Ks.cell t_ (i:=2) (x:=u) rfl;injection e' with e'
   injection e' with e1 e2 _
   subst e1 e2;simp only[aw2]at x0;rw[show bJ JP [y,z,u]=if (y==1&&z==u) then (z,0) else (0,22) from rfl]at gG;by_cases hy:y=1;by_cases hz:z=u;have g:(z==u)=true:=awO.2 hz;have jF:Hid (R=(z,0)):=zq (by rw[gG,hy,g];rfl);exact aA7;have g:(z==u)=false:=awy.2 hz;have jF:Hid (R=(0,22)):=zq (by rw[gG,hy,g];rfl);exact aA7;have g:(y==1)=false:=awy.2 hy;have jF:Hid (R=(0,22)):=zq (by rw[gG,g];rfl);clear gG t_ hy;exact aBS
theorem XX(m:M)(b0:Nat)(w:ak)(A:Option Addr)(n cap:Nat)(cols:List C)(hL:Lx b0 [] w m)(hC:Cs w A n cap cols)(hsz:m.t.size<=100000)(hf:m.t.every dh=true):
  Calls ax 44 #[xZ m,.slice A n cap] w λe w'=>e=.returned (.tuple #[.int .i64 (xType cols m.t).1,.int .i64 (xType cols m.t).2])/\Ev w w':=by
 have HR:=λw1 (hE:Ev w w1)=>Tu m.dep m b0 w1 (awC _) (hL.ev hE) hf hsz;have HK:=λw1 (hE:Ev w w1) (hr:dX m.t=true)=>aeN m.dep m b0 w1 A n cap cols (awC _) (hL.ev hE) (hC.ev hE) hr;have aV:=Ev.alloc w (.cells #[↑m.kind,↑m.s,↑m.n,m.kv] 47);have hB:=Bx.new 47 #[↑m.kind,↑m.s,↑m.n,m.kv] w;obtain⟨w0,hw0⟩:∃w0,w.alloc (.cells #[↑m.kind,↑m.s,↑m.n,m.kv] 47)=w0:=⟨_,rfl⟩
 rw[hw0]at aV hB;have HE:=zq aV;have HB:=zq hB;obtain⟨⟨c0,c1,c2,c3⟩,_⟩:=hB.four;unfold xType;generalize xKind cols m.t=rk at*;obtain⟨k,y⟩:=rk;unfold xZ at*;unfold M.kv at*;simp only at HK;clear hL hC hsz hf aV hB
 cases hr:dX m.t with
 | false=>
  rw[hr]at HR;have HR:=zq HR;clear HK hr;simp only[awP,aw7];go_enter func44,ntmps44
  go_wp2_with (first|((with_reducible refine(HR.out _ HE.out).mono ?_);rintro e w1 ⟨rfl,aN⟩))
  go_ret2
  exact⟨rfl,HE.out.trans aN⟩
 | true=>
  rw[hr]at HR;have HR:=zq HR;have HK:=zq (λw1 hE=>HK w1 hE hr);clear hr;simp only[aw4];go_enter func44,ntmps44
  go_wp2_with (first|((with_reducible refine(HR.out _ HE.out).mono ?_);rintro e w1 ⟨rfl,aN⟩;obtain⟨⟨c0,c1,c2,c3⟩,_⟩:=(HB.out.ev aN).four)|((with_reducible refine(HK.out _ (HE.out.trans aN)).mono ?_);rintro e w2 ⟨rfl,bM⟩))
  go_ret2
  exact⟨rfl,(HE.out.trans aN).trans bM⟩
def nN:List C:=[(⟨#[97]⟩,1),(⟨#[99]⟩,1)]
abbrev ahz:au:=.func (.func 182) #[] #[]
structure ahA(b0:Nat)(w:ak)(x:M)(A:Option Addr)(n cap:Nat)(Z:List M):Prop where
 call:∀w1,Calls ax 182 #[.agg ↑x] w1 λe w'=>e=.returned (.slice A n cap)/\Ev w1 w'
 sl:Ms w A n cap Z
 lies:∀y∈Z,Lies b0 [] w y
 size:(Z.map λx=>x.t.size).sum+1<=x.t.size
 len:Z.length=n
theorem aeO{b0:Nat}{w:ak}{x:M}(h:Lies b0 [] w x):∃A n cap Z,ahA b0 w x A n cap Z:=by
 by_cases hk:x.kind=1
 ·refine⟨x.A,x.kids.length,x.cap,x.kids,λw1=>?_,h.ms,h.kid,?_,rfl⟩
  ·rw[hk];go_enter func182,ntmps182;go_wp2;go_ret;exact⟨rfl,Ev.alloc _ _⟩
  have h1:=T.size_eq x.t;rw[M.bD,awT]at h1;have:(T.size ∘ M.t)=(λx:M=>x.t.size):=rfl;rw[this]at h1;omega
 refine⟨none,0,0,[],λw1=>?_,Sl.nil_ w,(λy hy=>by cases hy),?_,rfl⟩
 ·have hk':(x.kind !=1)=true:=by simp[hk]
  go_enter func182,ntmps182;go_wp2;go_ret;exact⟨rfl,Ev.alloc _ _⟩
 have:=T.size_pos x.t;simp;omega
structure PtT(m:M)(b0:Nat)(w0:ak)(v:au)(L:List M)(i:Nat)(w:ak):Prop where
 own:Ow 101 5 mc w0.heap.size w v L
 ev:Ev w0 w
 lies:∀x∈L,Lies b0 [] w0 x
 le:i<=L.length
 size:i+((L.drop i).map λx=>x.t.size).sum<=m.t.size
theorem PtT.short{m:M}{b0:Nat}{w0 w:ak}{v:au}{L:List M}{i:Nat}(h:PtT m b0 w0 v L i w):L.length<=m.t.size:=by exact aAM
theorem PtT.next{m:M}{b0:Nat}{w0 w w':ak}{v v':au}{L Z:List M}{i:Nat}{x:M}(h:PtT m b0 w0 v L i w)(hx:L[i]?=some x)(hZ:∀y∈Z,Lies b0 [] w0 y)(hs:(Z.map λx=>x.t.size).sum+1<=x.t.size)(ho:Ow 101 5 mc w0.heap.size w' v' (L++Z))(hE:Ev w0 w'):PtT m b0 w0 v' (L++Z) (i+1) w':=by
 obtain⟨hi,U3⟩:=awz.1 hx;have hd:L.drop i=x::L.drop (i+1):=by rw[axt hi,U3]
 have hd2:(L++Z).drop (i+1)=L.drop (i+1)++Z:=by rw[List.drop_append_of_le_length hi]
 refine⟨ho,hE,λy hy=>?_,by rw[awE];omega,?_⟩;rcases awV.1 hy with h1|h1;exact h.lies y h1;exact hZ y h1;have h1:=h.size;rw[hd]at h1;rw[hd2];simp only[awM,axP,awI,axr]at h1|-;omega
theorem Zg(m:M)(b0:Nat)(w:ak)(h:Lies b0 [] w m)(hsz:m.t.size<=16000):
  Calls ax 181 #[.agg ↑m,ahz] w λe w'=>∃(A:Option Addr) (n cap:Nat),e=.returned (.tuple #[.slice A n cap,.bool true])/\Ev w w':=by
 have aV:=(Ev.alloc w (.cells ↑m 101)).trans (Ev.alloc _ (.cells ↑m 101));have hP:PtT m b0 w (.slice (some ⟨w.heap.size+1,0,none⟩) 1 1) [m] 0 ((w.alloc (.cells ↑m 101)).alloc (.cells ↑m 101)):=by refine⟨?_,aV,λx hx=>by simp at hx;subst hx;exact h,aj,aj⟩;have:=Ow.made (et:=101) (base:=w.heap.size) ik (w.alloc (.cells ↑m 101)) [m] ↑m rfl aj aj;simpa using this
 have HP:=zq hP;clear hP aV;go_enter func181,ntmps181;go_wp2
 go_loopw [6,7] (λav iv wr=>∃(A:Option Addr) (n cap i:Nat) (L:List M),av=.slice A n cap/\iv=↑i/\n=L.length/\Hid (PtT m b0 w (.slice A n cap) L i wr)) (λ_ iv _=>m.t.size-(intOf iv).toNat)
 case atStart=>exact⟨_,1,1,0,[m],rfl,rfl,rfl,HP⟩
 case round=>
  obtain⟨A,n,cap,i,L,rfl,rfl,hn,HS⟩:=hrel;have hns:=HS.out.short;rw[<-hn]at hns;have jd:=zq hn;clear hn;obtain⟨_,cap',hvv,qL,hA⟩:=HS.out.own.form ik;injection hvv with h1 h2 h3
  subst h1 h3;clear h2;rw[<-jd.out]at qL;have yK:=qL.le;have hcm:=qL.max;by_cases hi:i<n
  ·obtain⟨x,hx⟩:=qL.at hi;obtain⟨b,off,rfl,hb,c0,c1,c2,c3,c4⟩:=Ms.cell qL hx;have HX:=zq hx;have U4:=HS.out.lies x (awG hx);obtain⟨xA,xn,aol,Z,hKA⟩:=aeO U4;have BM:xn+n<=m.t.size:=by
    have h4:=HS.out.size;have hd:L.drop i=x::L.drop (i+1):=by obtain⟨hi',e⟩:=awz.1 hx;rw[axt hi',e]
    rw[hd]at h4;have h5:=hKA.size;have h6:=jZ (Z.map M.t);rw[awD,awT,hKA.len]at h6;have h7:=jZ ((L.drop (i+1)).map M.t);rw[awD,awT,aw',<-jd.out]at h7;have:(T.size ∘ M.t)=(λx:M=>x.t.size):=rfl;rw[this]at h6 h7;simp only[awI,axr]at h4;omega
   have HKA:=zq hKA;have l9:=zq hKA.call;have Gt:=zq hKA.len;have kc1:=hKA.sl.le;have kc2:=hKA.sl.max;unfold M.kv at c3;have i1:(0:Int)<=(i:Int):=ae;have i2:(i:Int)<(n:Int):=ae;have i3:¬((16384:Int)-(n:Int)<(xn:Int)):=ae;clear hx U4 hA qL hb hKA
   go_wp2_with (first
    | ((with_reducible refine(l9.out _).mono ?_);rintro e w1 ⟨rfl,aN⟩)
    | ((show wpList _ _ _ (⟨some 31,_,_,_,_,_⟩::_) _ _);refine aO (o:=⟨some 31,_,_,_,_,_⟩) rfl 99 (.tmp 29) (.tmp 30) rfl ik underlying99 Tryz.infoTree rfl rfl (HS.out.own.ev aN) xA xn aol Z rfl (HKA.out.sl.ev (HS.out.ev.trans aN)) (by rw[Gt.out,<-jd.out];omega) (by rw[Gt.out,<-jd.out];omega) (HS.out.ev.trans aN).size ?_;intro v2 w2 dY;have E2:=((But.aW (HS.out.ev.trans aN)).then dY.2.1).ev (λk hk=>(HS.out.own.lt (aG.1 hk)).1);have S2:=HS.out.next HX.out HKA.out.lies HKA.out.size dY.1 E2;obtain⟨A2,cap2,rfl,_,_⟩:=dY.1.form ik;generalize BO:(L++Z).length=nn at S2|-;have Dh:=zq BO.symm;clear BO))
   exact aBE
  have hin:i=L.length:=by have:=HS.out.le;have:=jd.out;omega
  have i2:¬((i:Int)<(n:Int)):=ae;go_wp2
  go_ret2
  exact⟨⟨_,_,_,rfl⟩,HS.out.ev⟩
theorem oh{w wa wb:ak}{x:M}{g:Nat}(hE:Ev w wb)(hg:w.heap.size<=g)(hL:Lx wa.heap.size [] wb x)(XY:g<wa.heap.size)(v0 v1 v2 v3:au):Lx w.heap.size [] (kP g v0 v1 v2 v3 wb) x/\Ev w (kP g v0 v1 v2 v3 wb):=
 ⟨((hL.less (K':=[g]) λk hk=>by simp at hk;subst hk;exact .inr (.inl XY)).move (eY _ _ _ _ _ _) λk hk=>by cases hk).low ae,hE.box (eY _ _ _ _ _ _) hg⟩
theorem KD(w:ak)(c0 c1 c2 c3 c4:au):∃w0,(w.alloc (.cells #[c0,c1,c2,c3,c4] 101)).alloc (.cells ↑Zz.e 47)=w0/\Ev w w0/\Bx 101 w.heap.size #[c0,c1,c2,c3,c4] w0/\Bx 47 (w.heap.size+1) ↑Zz.e w0/\w.heap.size+1<w0.heap.size:=by
 have hB:Bx 47 (w.heap.size+1) ↑Zz.e ((w.alloc (.cells #[c0,c1,c2,c3,c4] 101)).alloc (.cells ↑Zz.e 47)):=by have:=Bx.new 47 ↑Zz.e (w.alloc (.cells #[c0,c1,c2,c3,c4] 101));simpa using this
 exact⟨_,rfl,(Ev.alloc w _).trans aB,(Bx.new 101 #[c0,c1,c2,c3,c4] w).ev aB,hB,hB.lt⟩
theorem Tv(why:Int)(m:M)(w:ak):Calls ax 183 #[↑why,.agg ↑m] w (Cf (eu,why,m.pos) w):=by
 obtain⟨w0,hw0,aV,hX,hB,hlt⟩:=KD w ↑m.kind ↑m.s ↑m.n (.slice m.A m.kids.length m.cap) ↑m.pos;have HE:=zq aV;have HB:=zq hB;obtain⟨⟨c0,c1,c2,c3,c4⟩,_⟩:=hX.five;obtain⟨⟨y7,y8,y9,MO⟩,MP,MQ,MR,MS⟩:=hB.four;clear aV hX hB;go_enter func183,ntmps183;go_wp2
 go_region
 all_goals (
  go_wp2;(try simp only[Exit.inBlock,Exit.then]);rw[dS];refine ayr (aI rfl _ _ _ _ _ rfl ((HB.out.ev (Ev.drew w0)).kP _ _ _ _) underlying47 rfl Tryz.fA) rfl ?_;exact⟨ja,rfl,rfl,Lx.leaf,(HE.out.trans (Ev.drew w0)).box (eY _ _ _ _ _ _) ae⟩
  )
theorem VW{α:Type}{P:Program}{ops:Array Oper}{o:Oper}{a:Act}{w:ak}{K:Act->ak->Prop}{Q:Exit->Act->ak->Prop}{E:Prop}
  (hg:o.guard=none) (f:FuncId) (xs:Array Operand) (ts:Array TypeId) (hop:o.op=.call {callee:=.value (.func f),args:=xs,argTypes:=ts}) (hb:FQ P f=true) (args:Array au) (ha:xs.map a.eval=args) {F:α->au} {S:α->ak->Prop}
  (hc:Calls P f args w λe w'=>∃x:α,e=.returned (F x)/\S x w') (hK:∀x w',S x w'->K (a.put o.dst (F x)) w'):
  if Region.wanted o (yielded ops a.tmps)=true then Oper.wp P o a w K Q else E:=by
 rw[if_pos (ay hg)];unfold Oper.wp;rw[bT f xs ts hop hb w,ha];refine hc.mono ?_;rintro e w' ⟨x,rfl,h⟩;exact hK x w' h
theorem KE{α:Type}{k:Nat}{enc:α->List au}{et:TypeId}{base:Nat}{v:au}{Z:List α}{P:Program}{ops:Array Oper}{o:Oper}{a:Act}{w:ak}{K:Act->ak->Prop}{Q:Exit->Act->ak->Prop}{E0:Prop}
  (hg:o.guard=none) (T:TypeId) (s x:Operand) (hop:o.op=.call {callee:=.builtin .append,args:=#[s,x],argTypes:=#[T,T]}) (E:Enc k enc)
  (ht:P.underlying T=some (.slice et)) {zero:au} {bytes:Nat} (hi:(P.info? et).map (λi=>(i.zero,i.size,i.bytes))=some (some zero,k,bytes)) (hz:zero.cells.size=k)
  (hs:a.eval s=v) (hown:Ow et k enc base w v Z) (A:Option Addr) (m c:Nat) (l:List α) (hx:a.eval x=.slice A m c) (hB:Sl k enc w A m c l)
  (hbytes:(Z.length+l.length)*bytes<=140737488355328) (hsm:Z.length+l.length<=1000000000) (hbase:base<=w.heap.size)
  (hK:∀v' w',mf et k enc base w v (Z++l) v' w'->K (a.put o.dst v') w'):
  if Region.wanted o (yielded ops a.tmps)=true then Oper.wp P o a w K Q else E0:=by
 rw[if_pos (ay hg)];obtain⟨v',w',hr,h2,h3,h4,_⟩:=jq (P:=P) E T o.type ht hi hz hown A m c l hB hbytes hsm hbase;unfold Oper.wp execOp;simp only[hop,resolve,invoke,builtin,ayn,ayo,ayp,axF,awI,awY,hs,hx,hr];exact hK _ _ ⟨h2,h3,h4⟩
def gB(t:T)(w:ak)(e:Ending)(w':ak):Prop:=∃x:M,e=.returned (.agg ↑x)/\x.t=t/\Lies w.heap.size [] w' x/\Ev w w'
def VX(N:Nat):Prop:=∀(m:M) (b0:Nat) (w:ak),m.dep<=N->Lies b0 [] w m->m.t.every dh=true->m.t.size<=16000->
 Calls ax 184 #[.agg ↑m] w (Cf (xRead m.t) w)
theorem aAn(h:U:=by(try simp only[Exit.inBlock,Exit.then]);rw[dS];refine ayr (aI rfl _ _ _ _ _ rfl (B1.kP _ _ _ _) underlying47 rfl Tryz.fA) rfl ?_;exact⟨x,by rw[HK.out];rfl,by rw[qK.out,HK.out];rfl,FIN.out _ _ _ _⟩):U:=h
theorem ay6(h:U:=by
 go_wp2_with (first
  | ((with_reducible refine(HWR.out 12 _).mono ?_);rintro e w1 ⟨x,rfl,jM,iH,aN⟩;have qK:=zq jM;have B1:=HB.out.ev aN;have FIN:=zq (λv0 v1 v2 v3=>oh (g:=w.heap.size+1) (HE.out.trans aN) ae iH sH.out v0 v1 v2 v3);obtain⟨⟨y7,y8,y9,MO⟩,MP,MQ,MR,MS⟩:=B1.four;clear jM iH))
 exact aAn):U:=h
theorem Qk(N:Nat)(ih:VX N)(m:M)(b0:Nat)(w:ak)(hd:m.dep<=N+1)(hL:Lies b0 [] w m)(hfair:m.t.every dh=true)(hsz:m.t.size<=16000)(um:m.kind=1):
  Calls ax 197 #[.agg ↑m] w (Cf (xRead m.t) w):=by
 have qg:m.kids.length<=16000:=by have h1:=T.size_eq m.t;have h2:=jZ m.t.kids;rw[M.bD,awD]at h2;rw[M.bD]at h1;omega
 have zQ:=zq hsz;have dK:=xRead_eq m;rw[um]at dK;have fM:=hL.ms;unfold VX at ih;have lM:=zq ih;have HL:=zq hL;have HD:=zq hd;have J5:=zq hfair;have hwr:=λwhy w1=>Tv why m w1;rw[um]at hwr|-;have HWR:=zq hwr;clear hwr;obtain⟨R,hR⟩:∃R,R=xRead m.t:=⟨_,rfl⟩
 rw[<-hR]at dK|-;obtain⟨kn,hkn⟩:∃kn,kn=m.kids.length:=⟨_,rfl⟩
 rw[<-hkn]at fM qg HWR|-;have mg:=zq hkn;generalize VP:m.A=mA at*;generalize hmc:m.cap=kL at*;have hcm:=fM.max;have hcl:=fM.le;have qV:=zq fM;obtain⟨w0,hw0,aV,hX,hB,hlt⟩:=KD w (.int .i64 1) ↑m.s ↑m.n (.slice mA kn kL) ↑m.pos;have HE:=zq aV;have HX:=zq hX;have HB:=zq hB;have sH:=zq hlt;obtain⟨⟨c0,c1,c2,c3,c4⟩,_⟩:=hX.five;obtain⟨⟨y7,y8,y9,MO⟩,MP,MQ,MR,MS⟩:=hB.four;simp only[axe,aw4,show ((1:Int)==2)=false from rfl,show ((1:Int)==3)=false from rfl,show ((1:Int)==4)=false from rfl,awP,aw7]at dK;clear ih hL hd hfair hkn aV hX hB hR VP hmc fM hlt hsz um
 cases hk:m.kids with
 | nil=>
  obtain rfl:kn=0:=by rw[mg.out,hk];rfl
  rw[hk]at dK;have HK:Hid (R=kK 12 m.pos):=zq dK;clear dK;go_enter func197,ntmps197
  go_wp2_with (first
   | ((with_reducible refine(HWR.out 12 _).mono ?_);rintro e w1 ⟨x,rfl,jM,iH,aN⟩;have qK:=zq jM;have B1:=HB.out.ev aN;have FIN:=zq (λv0 v1 v2 v3=>oh (g:=w.heap.size+1) (HE.out.trans aN) ae iH sH.out v0 v1 v2 v3);obtain⟨⟨y7,y8,y9,MO⟩,MP,MQ,MR,MS⟩:=B1.four;clear jM iH))
  (try simp only[Exit.inBlock,Exit.then]);rw[dS];refine ayr (aI rfl _ _ _ _ _ rfl (B1.kP _ _ _ _) underlying47 rfl Tryz.fA) rfl ?_;exact⟨x,by rw[HK.out];rfl,by rw[qK.out,HK.out];rfl,FIN.out _ _ _ _⟩
 | cons hm1 q=>
  have abr:kn=q.length+1:=by rw[mg.out,hk];rfl
  rw[hk]at dK;obtain⟨b,off,rfl,hb,h0,h1,_,_,_⟩:=qV.out.cell (i:=0) (x:=hm1) (by rw[hk];rfl);simp only[axi,aw2]at h0 h1;have HH:Hid (∀w1,Ev w w1->w1.cell? ⟨b,off,none⟩=some ↑hm1.kind/\w1.cell? ⟨b,off+1,none⟩=some ↑hm1.s):=zq λw1 hE=>⟨(hE.cell (p:=⟨_,_,none⟩) hb).trans h0,(hE.cell (p:=⟨_,_,none⟩) hb).trans h1⟩
  clear h0 h1;obtain⟨h0,h1⟩:=HH.out _ HE.out;have i0:¬((kn:Int)=0):=ae;have i0':((kn:Int)==0)=false:=awy.2 i0;have i1:(0:Int)<(kn:Int):=ae;have HKQ:=zq abr;have abt:=zq hk;clear abr hk;by_cases hh:hm1.kind=2
  ·have hhb:(hm1.kind==2)=true:=awO.2 hh;have hhn:(hm1.kind !=2)=false:=by simp[hh]
   have HT:=λw1=>Hf hm1.s w1;unfold aY at HT;obtain⟨t,ht⟩:∃t,t=bQ hm1.s:=⟨_,rfl⟩
   simp only[hhb,axB]at dK;rw[<-ht]at HT dK;have HT:=zq HT;have E3:=Ev.alloc w0 (.cells #[.int .i64 4,↑hm1.s,.int .i64 0,↑()] 47);have HI0:=zq (Gl.init w0 hm1.s);have VY:=zq E3;have MW:=zq (HB.out.ev VY.out);have HXA:=zq (HX.out.ev VY.out);obtain⟨⟨d0,d1,d2,d3⟩,r0,r1,r2,r3⟩:=HI0.out.box.four;obtain⟨⟨cc0,cc1,cc2,cc3,cc4⟩,_⟩:=HXA.out.five;obtain⟨⟨atl,atm,atn,ato⟩,atp,atq,atr,att⟩:=MW.out.four;obtain⟨hh0,hh1⟩:=HH.out _ (HE.out.trans VY.out);clear hh ht E3;by_cases hz:t=0
   ·subst hz;have HK:Hid (R=kK 12 m.pos):=zq (by rw[dK];rfl);clear dK;go_enter func197,ntmps197
    go_wp2_with (first
     | ((with_reducible refine(HT.out _).mono ?_);rintro e w1 ⟨rfl,rfl⟩)
     | ((with_reducible refine(HWR.out 12 _).mono ?_);rintro e w1 ⟨x,rfl,jM,iH,aN⟩;have qK:=zq jM;have B1:=MW.out.ev aN;have FIN:=zq (λv0 v1 v2 v3=>oh (g:=w.heap.size+1) ((HE.out.trans VY.out).trans aN) ae iH (awU sH.out VY.out.size) v0 v1 v2 v3);obtain⟨⟨y7,y8,y9,MO⟩,MP,MQ,MR,MS⟩:=B1.four;clear jM iH))
    exact aAn
   have z1:¬((t:Int)=0):=ae;have z2:((t:Int)==0)=false:=awy.2 z1;have htb:(t==0)=false:=awy.2 hz;rw[htb]at dK;simp only[Bool.not_false,aw4]at dK;by_cases hq:q.length=t
   ·rw[if_pos (awO.2 hq)]at dK;have HK:=zq dK;have HQ:=zq hq;have XP:(t:Int)=(kn:Int)-1:=by have:=HKQ.out;omega
    have ahs:((t:Int)==((kn:Int)-1))=true:=awO.2 XP;have aht:((t:Int) !=((kn:Int)-1))=false:=by simp;exact XP
    have m1:¬(kL=1):=by have:=HKQ.out;omega
    have m2:(1:Int)<=(kn:Int):=ae;have m3:(1:Int)<=(kL:Int):=ae;have m4:(kn:Int)<=(kL:Int):=ae;clear dK XP hq;go_enter func197,ntmps197
    go_wp2_with (first
     | ((with_reducible refine(HT.out _).mono ?_);rintro e w1 ⟨rfl,rfl⟩))
    have abN:Hid (kn=t+1):=zq (by have:=HKQ.out;have:=HQ.out;omega)
    go_loopw [62] (λiv wr=>∃(A:Option Addr) (n cap:Nat) (L:List M),iv=↑n/\n<=t/\Hid (Gl w0 w0.heap.size hm1.s A n cap L wr)/\Hid (R=xReads hm1.s (L.map M.t) ((q.drop n).map λx=>xRead x.t))) (λiv _=>t-(intOf iv).toNat)
    case atStart=>exact⟨none,0,0,[],rfl,awJ _,HI0,HK⟩
    case round=>
     obtain⟨A,n,cap,L,rfl,hj,HS,HR⟩:=hrel;have jy:=zq (HE.out.trans HS.out.ev);have Gm:=zq HS.out.ev;obtain⟨⟨c0,c1,c2,c3,c4⟩,_⟩:=(HX.out.ev Gm.out).five;obtain⟨⟨y7,y8,y9,MO⟩,MP,MQ,MR,MS⟩:=(HB.out.ev Gm.out).four;obtain⟨⟨d0,d1,d2,d3⟩,r0,r1,r2,r3⟩:=HS.out.box.four;have uf:=zq HS.out.len;by_cases hlt:n<t
     ·obtain⟨x,hx⟩:∃x,q[n]?=some x:=⟨_,awX (by have:=HQ.out;omega)⟩
      have gJ:m.kids[n+1]?=some x:=by rw[abt.out];simpa using hx
      obtain⟨b',off',he,_,x0,x1,x2,x3,x4⟩:=Ms.cell (qV.out.ev jy.out) gJ;injection he with he
      injection he with he1 J6 _
      subst he1 J6;have akd:off+(n+1)*5=off+5+n*5:=ae;rw[akd]at x0 x1 x2 x3 x4;have hdj:q.drop n=x::q.drop (n+1):=by obtain⟨hj',e⟩:=awz.1 hx;rw[axt hj',e]
      have gG:=HR.out;rw[hdj,awI]at gG;unfold xReads at gG;have RH:=awG gJ;have hxf:x.t.every dh=true:=by exact aBR
      have PG:x.t.size<=16000:=by exact aA1
      have HI:=λw1 (hE:Ev w w1)=>lM.out x b0 w1 (by have:=M.jY RH;have:=HD.out;omega) ((HL.out.kid x RH).ev hE) hxf PG;unfold Cf at HI;unfold M.kv at x3;generalize xRead x.t=rx at*;obtain⟨rt,ry,rp⟩:=rx;simp only at gG HI;have HI:=zq HI;have hnb:n<=20000:=by have:=abN.out;omega
      have i2:(n:Int)<(t:Int):=ae;have i3:(0:Int)<=(n:Int):=ae;have i4:(n:Int)<(kn:Int)-1:=by have:=abN.out;omega
      have i5:(n:Int)<((kn-1:Nat):Int):=by have:=abN.out;omega
      have Iu:=zq (Ev.alloc wr (.cells ↑x 101));clear hx gJ hdj RH hxf PG akd;by_cases hw:ry=0
      ·subst hw;rw[if_pos (by rfl)]at gG;have jF:=zq gG;clear gG
       go_wp2_with (first
        | ((with_reducible refine(HI.out _ (jy.out.trans Iu.out)).mono ?_);rintro e w1 ⟨x',rfl,jM,iH,aN⟩;have qK:=zq jM;have pX:=zq (iH.low Iu.out.size);have E1:=zq (Iu.out.trans aN);obtain⟨⟨d0,d1,d2,d3⟩,r0,r1,r2,r3⟩:=(HS.out.box.ev (E1.out.trans (Ev.alloc w1 (.cells ↑(x',()) 47)))).four;clear jM iH)
        | ((show wpList _ _ _ (⟨some 81,_,_,_,_,_⟩::_) _ _);refine aO (o:=⟨some 81,_,_,_,_,_⟩) rfl 28 (.tmp 78) (.tmp 80) rfl x8 underlying28 Tryz.zX rfl rfl (HS.out.own.ev (E1.out.trans ((Ev.alloc w1 _).trans aB))) (some ⟨w1.heap.size+1,0,none⟩) 1 1 [x'] rfl (by have:=Sl.one (et:=47) x8 (w1.alloc (.cells ↑(x',()) 47)) x' ↑(x',()) rfl;simpa using this) (by rw[uf.out];simp;omega) (by rw[uf.out];simp;omega) (by have h7:=HS.out.box.lt;have h8:=(E1.out.trans ((Ev.alloc w1 (.cells ↑(x',()) 47)).trans (Ev.alloc _ (.cells ↑(x',()) 47)))).size;omega) ?_;intro v2 w2 dY;obtain⟨⟨d0,d1,d2,d3⟩,r0,r1,r2,r3⟩:=(HS.out.after (E1.out.trans ((Ev.alloc w1 _).trans aB)) dY).four;obtain⟨A2,cap2,rfl,ST2⟩:=HS.out.next (E1.out.trans ((Ev.alloc w1 _).trans aB)) (pX.out.ev ((Ev.alloc w1 _).trans aB)) dY))
       go_roundw
       case rel=>exact⟨A2,n+1,cap2,L++[x'],by go_num,ae,zq ST2,zq (by rw[jF.out,awM,awI,awY,qK.out])⟩
       case measure=>simp[intOf];omega
      have Nk:(ry==0)=false:=awy.2 hw;have hwn:(ry !=0)=true:=by simp[hw]
      rw[Nk]at gG;simp only[awP,aw7]at gG;have jF:=zq gG;clear gG
      go_wp2_with (first
       | ((with_reducible refine(HI.out _ (jy.out.trans Iu.out)).mono ?_);rintro e w1 ⟨x',rfl,jM,iH,aN⟩;have E1:=jy.out.trans (Iu.out.trans (aN.trans (Ev.alloc w1 (.cells ↑(x',()) 47))));have B1:=HB.out.ev (Gm.out.trans (Iu.out.trans (aN.trans (Ev.alloc w1 (.cells ↑(x',()) 47)))));obtain⟨⟨y7,y8,y9,MO⟩,MP,MQ,MR,MS⟩:=B1.four))
      exact aAe
     have hjk:n=t:=ae;have i2:¬((n:Int)<(t:Int)):=ae;have i4:¬((n:Int)<(kn:Int)-1):=by have:=abN.out;omega
     have i5:¬((n:Int)<((kn-1:Nat):Int)):=by have:=abN.out;omega
     have gG:=HR.out;rw[axm (by have:=HQ.out;omega)]at gG;simp only[awY,xReads]at gG;have jF:=zq gG;obtain⟨hlx,hnl⟩:=HS.out.done (b0:=w.heap.size) HE.out.size;have hlg:=(HS.out.done (b0:=w0.heap.size) (awC _)).1;have abv:=zq (hlg.less (K':=[w.heap.size+1]) λk hk=>by simp at hk;subst hk;exact .inr (.inl sH.out));clear hlg;have jd:=zq hnl;clear gG hjk hlx hnl;go_wp2;(try simp only[Exit.inBlock,Exit.then]);rw[dS];refine ayr (aI rfl _ _ _ _ _ rfl ((HB.out.ev Gm.out).kP _ _ _ _) underlying47 rfl Tryz.fA) rfl ?_;refine⟨.mk 4 hm1.s 0 A cap L 0,by rw[jF.out];simp only[M.kids];rw[<-jd.out];rfl,by rw[jF.out];simp[M.t,M.jQ],?_,jy.out.box (eY _ _ _ _ _ _) ae⟩;exact(abv.out.move (eY _ _ _ _ _ _) λk hk=>by cases hk).low (by have:=sH.out;omega)
   rw[if_neg (by simp;exact hq)]at dK;have HK:Hid (R=kK 23 m.pos):=zq dK;have XP:¬((t:Int)=(kn:Int)-1):=by have:=HKQ.out;omega
   have ahs:((t:Int)==((kn:Int)-1))=false:=awy.2 XP;have aht:((t:Int) !=((kn:Int)-1))=true:=by simp;exact XP
   clear dK;go_enter func197,ntmps197
   go_wp2_with (first
    | ((with_reducible refine(HT.out _).mono ?_);rintro e w1 ⟨rfl,rfl⟩)
    | ((with_reducible refine(HWR.out 23 _).mono ?_);rintro e w1 ⟨x,rfl,jM,iH,aN⟩;have qK:=zq jM;have B1:=MW.out.ev aN;have FIN:=zq (λv0 v1 v2 v3=>oh (g:=w.heap.size+1) ((HE.out.trans VY.out).trans aN) ae iH (awU sH.out VY.out.size) v0 v1 v2 v3);obtain⟨⟨y7,y8,y9,MO⟩,MP,MQ,MR,MS⟩:=B1.four;clear jM iH))
   exact aAn
  have hhb:(hm1.kind==2)=false:=awy.2 hh;have hhn:(hm1.kind !=2)=true:=by simp[hh]
  simp only[hhb,axp,awP,aw7]at dK;have HK:Hid (R=kK 12 m.pos):=zq dK;clear dK;go_enter func197,ntmps197;exact ay6
theorem aeP(N:Nat):VX N:=by
 induction N with
 | zero=>
  intro m b0 w hd;rw[M.lh]at hd;omega
 | succ N ih=>
  intro m b0 w hd hL hfair hsz;have dK:=xRead_eq m;have FW:m.s.length<=100000:=by exact aBq
  have HWR:=zq (λwhy w1=>Tv why m w1);have HAP:=zq (λw1 (hE:Ev w w1) (hk:m.kind=1)=>Qk N ih m b0 w1 hd (hL.ev hE) hfair hsz hk);have hc1:=hL.ms.le;have hc2:=hL.ms.max;obtain⟨w0,hw0,aV,hX,hB,hlt⟩:=KD w ↑m.kind ↑m.s ↑m.n (.slice m.A m.kids.length m.cap) ↑m.pos;have HE:=zq aV;have HB:=zq hB;have HX:=zq hX;have sH:=zq hlt;obtain⟨⟨c0,c1,c2,c3,c4⟩,_⟩:=hX.five;obtain⟨⟨y7,y8,y9,MO⟩,MP,MQ,MR,MS⟩:=hB.four;obtain⟨R,hR⟩:∃R,R=xRead m.t:=⟨_,rfl⟩
  rw[<-hR]at dK HAP|-;clear ih hL hd hfair aV hX hB hR hlt hsz;by_cases k1:m.kind=1
  ·have aoo:=zq (λw1 hE=>HAP.out w1 hE k1);have k1b:(m.kind==1)=true:=awO.2 k1;clear HAP dK k1;go_enter func184,ntmps184
   go_wp2_with (first
    | ((with_reducible refine(aoo.out _ HE.out).mono ?_);rintro e w1 ⟨x,rfl,jM,iH,aN⟩;have qK:=zq jM;have B1:=HB.out.ev aN;have FIN:=zq (λv0 v1 v2 v3=>oh (g:=w.heap.size+1) (HE.out.trans aN) ae iH sH.out v0 v1 v2 v3);obtain⟨⟨y7,y8,y9,MO⟩,MP,MQ,MR,MS⟩:=B1.four;clear jM iH))
   (try simp only[Exit.inBlock,Exit.then]);rw[dS];refine ayr (aI rfl _ _ _ _ _ rfl (B1.kP _ _ _ _) underlying47 rfl Tryz.fA) rfl ?_;exact⟨x,rfl,qK.out,FIN.out _ _ _ _⟩
  have k1':(m.kind==1)=false:=awy.2 k1;rw[k1']at dK;by_cases k2:m.kind=2
  ·have k2b:(m.kind==2)=true:=awO.2 k2;rw[k2b]at dK;simp only[aw4]at dK;have HN:=λw1=>nK (aY m.s) w1;unfold aY at HN;rw[show jO m.s=f_ ⟨m.s.toArray⟩ from rfl]at dK;clear k1 k2
   cases hn:f_ ⟨m.s.toArray⟩ with
   | false=>
    rw[hn]at dK HN;simp only[awP,aw7]at dK;have HK:=zq dK;have HN:=zq HN;clear dK;go_enter func184,ntmps184
    go_wp2_with (first
     | ((with_reducible refine(HN.out _).mono ?_);rintro e wn ⟨rfl,hEn⟩;have HEN:=zq hEn;obtain⟨⟨c0,c1,c2,c3,c4⟩,_⟩:=(HX.out.ev hEn).five)
     | ((with_reducible refine(HWR.out 20 _).mono ?_);rintro e w1 ⟨x,rfl,jM,iH,aN⟩;have qK:=zq jM;have B1:=HB.out.ev (HEN.out.trans aN);have FIN:=zq (λv0 v1 v2 v3=>oh (g:=w.heap.size+1) ((HE.out.trans HEN.out).trans aN) ae iH (awU sH.out HEN.out.size) v0 v1 v2 v3);obtain⟨⟨y7,y8,y9,MO⟩,MP,MQ,MR,MS⟩:=B1.four;clear jM iH))
    exact aAn
   | true=>
    rw[hn]at dK HN;simp only[aw4]at dK;have HK:=zq dK;have HN:=zq HN;clear dK;go_enter func184,ntmps184
    go_wp2_with (first|((with_reducible refine(HN.out _).mono ?_);rintro e w1 ⟨rfl,aN⟩;have E1:=HE.out.trans aN;have B1:=HB.out.ev aN;obtain⟨⟨c0,c1,c2,c3,c4⟩,_⟩:=(HX.out.ev aN).five;obtain⟨⟨y7,y8,y9,MO⟩,MP,MQ,MR,MS⟩:=B1.four))
    exact azP
  have k2':(m.kind==2)=false:=awy.2 k2;rw[k2']at dK;by_cases k3:m.kind=3
  ·have k3b:(m.kind==3)=true:=awO.2 k3;rw[k3b]at dK;have HK:Hid (R=(.mk 2 [] m.n [] 0,0,0)):=zq dK;clear dK k1 k2 k3;go_enter func184,ntmps184;exact azD
  have k3':(m.kind==3)=false:=awy.2 k3;rw[k3']at dK;by_cases k4:m.kind=4
  ·have k4b:(m.kind==4)=true:=awO.2 k4;rw[k4b]at dK;have HK:Hid (R=(.mk 3 m.s 0 [] 0,0,0)):=zq dK;clear dK k1 k2 k3 k4;go_enter func184,ntmps184;exact azE
  have k4':(m.kind==4)=false:=awy.2 k4;rw[k4']at dK;have HK:Hid (R=kK 12 m.pos):=zq dK;clear dK k1 k2 k3 k4;go_enter func184,ntmps184;exact ay6
theorem aeQ(m:M)(b0:Nat)(w:ak)(hL:Lies b0 [] w m)(hfair:m.t.every dh=true)(hsz:m.t.size<=16000):
  Calls ax 157 #[.agg ↑m] w (Cf (xRead m.t) w):=by
 have HP:=zq (λw1 (hE:Ev w w1)=>Zg m b0 w1 (hL.ev hE) hsz);have HR:=zq (λw1 (hE:Ev w w1)=>aeP m.dep m b0 w1 (awC _) (hL.ev hE) hfair hsz);have hc1:=hL.ms.le;have hc2:=hL.ms.max;obtain⟨w0,hw0,aV,hX,hB,hlt⟩:=KD w ↑m.kind ↑m.s ↑m.n (.slice m.A m.kids.length m.cap) ↑m.pos;have HE:=zq aV;have HB:=zq hB;have HX:=zq hX;have sH:=zq hlt;obtain⟨⟨c0,c1,c2,c3,c4⟩,_⟩:=hX.five;obtain⟨⟨y7,y8,y9,MO⟩,MP,MQ,MR,MS⟩:=hB.four;generalize xRead m.t=R at*;clear hL hfair aV hX hB hlt hsz;go_enter func157,ntmps157
 go_wp2_with (first
  | ((with_reducible refine(HP.out _ HE.out).mono ?_);rintro e wn ⟨A,n,cap,rfl,hEn⟩;have HEN:=zq hEn;obtain⟨⟨c0,c1,c2,c3,c4⟩,_⟩:=(HX.out.ev hEn).five)
  | ((with_reducible refine(HR.out _ (HE.out.trans HEN.out)).mono ?_);rintro e w1 ⟨x,rfl,jM,iH,aN⟩;have qK:=zq jM;have B1:=HB.out.ev (HEN.out.trans aN);have FIN:=zq (λv0 v1 v2 v3=>oh (g:=w.heap.size+1) ((HE.out.trans HEN.out).trans aN) ae iH (awU sH.out HEN.out.size) v0 v1 v2 v3);obtain⟨⟨y7,y8,y9,MO⟩,MP,MQ,MR,MS⟩:=B1.four;clear jM iH))
 (try simp only[Exit.inBlock,Exit.then]);rw[dS];refine ayr (aI rfl _ _ _ _ _ rfl (B1.kP _ _ _ _) underlying47 rfl Tryz.fA) rfl ?_;exact⟨x,rfl,qK.out,FIN.out _ _ _ _⟩
theorem xK{P:Program}{ρ:Operand->au}{o:Oper}{x:Operand}{T:TypeId}{g:Nat}{cs:Array au}{w:ak}{d:TypeDesc}(ho:o.op=.load T x)(hx:ρ x=.pointer ↑g)(hB:Bx T g cs w)
  (hu:P.underlying T=some d) (hd:(match d with|.struct _|.array _ _=>true|_=>false)=true) (hi:(P.info? T).map (·.size)=some cs.size):
  (execOp ρ o).run P w=.ok (.value (.agg cs)) w:=by
 have h:=run_loadVar_row w g T T _ (0,0) _ hB.blk hu hd hi;unfold execOp;rw[ho];simp only[hx,Instr.loadAt,Instr.sureAddr,ayn,ayo,ayp,h]
end Go.Proofs.YtpbfokkocaemlaaGreatDoor
