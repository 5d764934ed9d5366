import Derived.Test.YtpbfokkocaemlaaGreatDoorZ28P
set_option linter.unusedVariables false
set_option maxRecDepth 100000
set_option maxHeartbeats 64000000
namespace Go.Proofs.YtpbfokkocaemlaaGreatDoor
open Go.RowKit
open Go.Lib renaming hid → zq
open Go renaming World → ak
open Go renaming Value → au
open Go.Proofs.Tryz renaming prog → ax
variable {U:Prop}
open Go.Proofs.Tryz
def lsS(l:List By):By:=40::printL true (l.map aS)
theorem Uz(l:List By)(s:By):lsS (l++[s])=lsS l++((if l.isEmpty then [] else [32])++s):=by unfold lsS;rw[awM,awI,awY,sS,show (l.map aS).isEmpty=l.isEmpty by cases l<;>rfl];show 40::(_++(_++printS (aS s)))=_;rw[show printS (aS s)=s by unfold aS;simp[printS]];simp
theorem O_(l:List By):printS (aX l)=lsS l++[41]:=by unfold lsS aX dG;rw[u_];rfl
theorem UA:∀(m l:List By),(lsS l).length<=(lsS (l++m)).length
 | [],l=>by simp
 | s::m,l=>by
  have h1:=UA m (l++[s]);rw[aw1]at h1;have h2:(lsS l).length<=(lsS (l++[s])).length:=by rw[Uz,awE];omega
  exact aw0 h2 h1
theorem ac3(l:List By)(k:Nat):(lsS (l.take k)).length<=(lsS l).length:=by have:=UA (l.drop k) (l.take k);rwa [axs]at this
theorem afu(l:List By)(A:Option Addr)(n cap:Nat)(w:ak)(h:Ss w A n cap l)(hb:(lsS l).length<=1000000):
  Calls ax 86 #[.slice A n cap] w λe w'=>e=.returned (.string ⟨(printS (aX l)).toArray⟩)/\Ev w w':=by
 have hcl:=h.le;have hcm:=h.max;have HL:=zq h.len;have H:=zq h;have alq:=zq (λk=>aw0 (ac3 l k) hb);have BR:=zq (O_ l);clear h;go_enter func86,ntmps86;go_wp2
 go_loopw [3,4] (λsv iv wr=>∃(k:Nat) (S:By),sv=↑S/\iv=↑k/\k<=n/\Hid (S=lsS (l.take k))/\Hid (Ev w wr)) (λ_ iv _=>n-(intOf iv).toNat)
 case atStart=>exact⟨0,[40],rfl,rfl,awJ _,zq rfl,zq aK⟩
 case round=>
  obtain⟨k,S,rfl,rfl,hk,HS,HE⟩:=hrel;have FW:S.length<=1000000:=by rw[HS.out];exact alq.out k
  have hz:=dJ S;by_cases hlt:k<n
  ·obtain⟨x,hx⟩:=H.out.at hlt;obtain⟨b,off,rfl,hbl,c0⟩:=Ss.cell2 (H.out.ev HE.out) hx;have qg:k<l.length:=by rw[HL.out];exact hlt
   have oO:lsS (l.take (k+1))=S++((if k=0 then [] else [32])++x):=by
    obtain⟨_,e1⟩:=awz.1 hx;rw[awH qg,e1,Uz,HS.out]
    cases k with
    | zero=>simp
    | succ k=>
     cases l with
     | nil=>simp at qg
     | cons a l=>simp
   have hlen:=alq.out (k+1);rw[oO]at hlen;have jP:=zq oO;have i1:(0:Int)<=(k:Int):=ae;have i2:(k:Int)<(n:Int):=ae;have hz2:=dJ x;clear hx oO qg;by_cases hk0:k=0
   ·have i3:¬((0:Int)<(k:Int)):=ae;obtain⟨Y,hY⟩:∃Y,Y=S++x:=⟨_,rfl⟩
    have mV:(⟨S.toArray⟩:ByteArray)++⟨x.toArray⟩=⟨Y.toArray⟩:=by rw[hY];exact eX _ _
    rw[if_pos hk0]at jP hlen;have hb2:S.length+x.length<=1000000:=by simp at hlen;omega
    have HY:Hid (Y=lsS (l.take (k+1))):=zq (by rw[jP.out,hY];simp);clear hY hlen hk0;go_wp2;go_roundw
    case rel=>exact⟨k+1,Y,rfl,by go_num,ae,HY,HE⟩
    case measure=>simp[intOf];omega
   have i3:(0:Int)<(k:Int):=ae;obtain⟨Z,hZ⟩:∃Z,Z=S++[32]:=⟨_,rfl⟩
   obtain⟨Y,hY⟩:∃Y,Y=Z++x:=⟨_,rfl⟩
   have mV:(⟨S.toArray⟩:ByteArray)++⟨#[32]⟩=⟨Z.toArray⟩:=by rw[hZ];exact eX S [32]
   have LV:(⟨Z.toArray⟩:ByteArray)++⟨x.toArray⟩=⟨Y.toArray⟩:=by rw[hY];exact eX _ _
   have hz3:=dJ Z;have hzl:Z.length=S.length+1:=by rw[hZ];simp
   rw[if_neg hk0]at jP hlen;have hb2:Z.length+x.length<=1000000:=by simp at hlen;omega
   have HY:Hid (Y=lsS (l.take (k+1))):=zq (by rw[jP.out,hY,hZ];simp);clear hY hZ hlen hk0;go_wp2;go_roundw
   case rel=>exact⟨k+1,Y,rfl,by go_num,ae,HY,HE⟩
   case measure=>simp[intOf];omega
  obtain rfl:k=n:=ae;have HF:Hid (S=lsS l):=zq (by have:=HS.out;rwa [awS (by rw[HL.out];exact awC _)]at this);have mV:(⟨S.toArray⟩:ByteArray)++⟨#[41]⟩=⟨(S++[41]).toArray⟩:=eX S [41];have HC:=zq mV;clear mV;go_wp2;go_ret;refine⟨?_,HE.out⟩;rw[BR.out,<-HF.out,<-HC.out];rfl
def qP(l:List T):By:=40::printL true l
theorem iY{l:List T}(h:l≠[])(t:T):qP (l++[t])=qP l++(32::printS t):=by
 unfold qP;rw[sS]
 cases l with
 | nil=>exact absurd rfl h
 | cons a l=>simp
theorem afv(l:List T)(t:T):(qP l).length<=(qP (l++[t])).length:=by unfold qP;rw[sS];simp
theorem lD:∀(m l:List T),(qP l).length<=(qP (l++m)).length
 | [],l=>by simp
 | s::m,l=>by have h1:=lD m (l++[s]);rw[aw1]at h1;exact aw0 (afv l s) h1
theorem EY(l:List T):printS (dG l)=qP l++[41]:=by unfold dG qP;rw[u_];rfl
theorem vW(m:PM):printS (aH m.p)=qP (kN m.kind m.name (m.ex.l.map M.t) m.co.l m.lf.l m.rt.l m.ag.l++m.kids.map λx=>aH x.p)++[41]:=by rw[AB,EY,PM.sW];simp[Pl.kind,Pl.name,Pl.exprs,Pl.cols,Pl.left,Pl.right,Pl.Gs,Pl.kids,Function.comp_def]
def mG(p:Pl)(w:ak)(e:Ending)(w':ak):Prop:=e=.returned (.string ⟨(printS (aH p)).toArray⟩)/\Ev w w'
theorem LW(w:ak)(c0 c1 c2 c3 c4 c5 c6 c7:au):∃w0,w.alloc (.cells #[c0,c1,c2,c3,c4,c5,c6,c7] 32)=w0/\Ev w w0/\Bx 32 w.heap.size #[c0,c1,c2,c3,c4,c5,c6,c7] w0:=⟨_,rfl,Ev.alloc _ _,Bx.new _ _ _⟩
theorem uV{l:List PM}{k:Nat}{x:PM}(hx:l[k]?=some x):(l.take (k+1)).map (λy=>aH y.p)=(l.take k).map (λy=>aH y.p)++[aH x.p]:=by obtain⟨hk,e⟩:=awz.1 hx;rw[awH hk,e,awM];rfl
theorem aAy(h:U:=by have h1:=lD ((m.kids.drop j).map λx=>aH x.p) (HD++(m.kids.take j).map λx=>aH x.p);rw[aw1,<-awM,axs]at h1;have h2:=axc List.length BR.out;rw[awE]at h2;have:=qQ.out;omega):U:=h
theorem aCd(h:U:=by obtain⟨⟨_,_,_,_,_,_,_,h7⟩,_⟩:=(BW.out.ev hE).eight;rw[xP.out];exact h7):U:=h
theorem ayT(h:U:=by
 have yF:Y.length<=1000000:=by rw[LY];exact UB.out (j+1)
 have mV:(⟨S.toArray⟩:ByteArray)++⟨#[32]⟩=⟨Z.toArray⟩:=by rw[hZ];exact eX S [32]
 have LV:(⟨Z.toArray⟩:ByteArray)++⟨PX.toArray⟩=⟨Y.toArray⟩:=by rw[hY];exact eX _ _
 have hz2:=dJ Z;have hz3:=dJ PX;have hyz:Z.length+PX.length<=1000000:=by rw[hY,awE]at yF;exact yF
 have hzl:Z.length=S.length+1:=by rw[hZ];simp
 have HI:=λw2 (hE:Ev w w2)=>HQK.out x gJ w2 hE;rw[<-LX]at HI;have HI:=zq HI;have Vh:=zq LY;have i1:(0:Int)<=(j:Int):=ae;have i2:(j:Int)<(nk:Int):=ae;clear hx gJ qO RQ oO LX hZ hY LY yF
 go_wp2_with (first
  | ((with_reducible refine(HI.out _ (EW.out.trans kU.out)).mono ?_);rintro r w8 ⟨rfl,mD⟩;have E8:=zq (kU.out.trans mD)))
 go_roundw
 case rel=>exact⟨j+1,Y,rfl,by go_num,ae,Vh,E8⟩
 case measure=>simp[intOf];omega):U:=h
theorem ayL(h:U:=by
 obtain⟨x,hx⟩:=zJ.out.at (by rw[<-xP.out];exact hlt);have gJ:=awG hx;obtain⟨b,off,RQ,hb,_⟩:=(zJ.out.ev (EW.out.trans kU.out)).rd (by rw[<-xP.out];omega);have qO:=zJ.out.ev (EW.out.trans kU.out);rw[RQ]at qO b7;obtain⟨c0,c1,c2,c3,c4,c5,c6,c7⟩:=Ps.cell qO hx;unfold fH.v PM.kv at*;have oO:=uV hx;obtain⟨PX,LX⟩:∃PX,PX=printS (aH x.p):=⟨_,rfl⟩
 obtain⟨Z,hZ⟩:∃Z,Z=S++[32]:=⟨_,rfl⟩
 obtain⟨Y,hY⟩:∃Y,Y=Z++PX:=⟨_,rfl⟩
 have LY:Y=qP (HD++(m.kids.take (j+1)).map λx=>aH x.p):=by rw[oO,<-aw1,iY (by simp[lI]),<-HS.out,hY,hZ,LX];simp
 exact ayT):U:=h
theorem azI(h:U:=by obtain rfl:j=nk:=ae;have mV:(⟨S.toArray⟩:ByteArray)++⟨#[41]⟩=⟨(S++[41]).toArray⟩:=eX S [41];have HC:=zq mV;have HF:Hid (PS=S++[41]):=zq (by rw[BR.out,HS.out,xP.out,axk]);clear mV;go_wp2;go_ret;refine⟨?_,EW.out.trans kU.out⟩;rw[HF.out,<-HC.out];rfl):U:=h
theorem QT(m:PM)(b0:Nat)(w:ak)(h:Qx b0 [] w m)(hk:m.kind=5)(hlen:(printS (aH m.p)).length<=1000000)(ih:∀x∈m.kids,∀w1,Ev w w1->Calls ax 40 #[pv x] w1 (mG x.p w1)):
  Calls ax 40 #[pv m] w (mG m.p w):=by
 obtain⟨PS,vT⟩:∃PS,PS=printS (aH m.p):=⟨_,rfl⟩
 have uj:=vW m;rw[hk]at uj;unfold mG at*;rw[<-vT]at uj hlen|-;have hQ:=h;have zA:=h.ps;have hle:=zA.le;have hmx:=zA.max;obtain⟨w0,hw0,aV,hB0⟩:=LW w (.int .i64 5) ↑m.name (.slice m.ex.A m.ex.l.length m.ex.cap) (.slice m.co.A m.co.l.length m.co.cap) (.slice m.lf.A m.lf.l.length m.lf.cap) (.slice m.rt.A m.rt.l.length m.rt.cap) (.slice m.ag.A m.ag.l.length m.ag.cap) (.slice m.A m.kids.length m.cap);have cu:=zq aV;have ui:=zq hB0;obtain⟨⟨p0,p1,p2,p3,p4,p5,p6,p7⟩,_⟩:=hB0.eight;unfold pv at ih|-;unfold fH.v PM.kv at*;rw[hk];obtain⟨HD,lI⟩:∃HD,HD=[aS iM]:=⟨_,rfl⟩
 have uj:PS=qP (HD++m.kids.map λx=>aH x.p)++[41]:=by rw[lI];exact uj
 have kT:Hid (([40,117,110,105,111,110]:By)=qP HD):=zq (by rw[lI];rfl);have EW:=cu;have BW:=ui;clear aV hB0 hQ h hk;go_enter func40,ntmps40;go_wp2;have qQ:=zq hlen;have BR:=zq uj;have zJ:=zq zA;have HQK:=zq (λx (hx:x∈m.kids) w1 (hE:Ev w w1)=>ih x hx w1 hE);have UB:Hid (∀j,(qP (HD++(m.kids.take j).map λx=>aH x.p)).length<=1000000):=zq λj=>by exact aAy
 obtain⟨nk,xO⟩:∃nk,nk=m.kids.length:=⟨_,rfl⟩
 have xP:=zq xO;rw[<-xO]at hle;have IJ:Hid (∀wz,Ev w0 wz->wz.cell? ⟨w.heap.size,7,none⟩=some (.slice m.A nk m.cap)):=zq λwz hE=>by exact aCd
 clear uj hlen zA ih xO p0 p1 p2 p3 p4 p5 p6 p7;have b7:=IJ.out _ aK
 go_loopw [3,7] (λsv iv wr=>∃(j:Nat) (S:By),sv=↑S/\iv=↑j/\j<=nk/\Hid (S=qP (HD++(m.kids.take j).map λx=>aH x.p))/\Hid (Ev w0 wr)) (λ_ iv _=>nk-(intOf iv).toNat)
 case atStart=>exact⟨0,_,rfl,rfl,awJ _,zq (by simpa using kT.out),zq aK⟩
 case round=>
  obtain⟨j,S,rfl,rfl,hj,HS,kU⟩:=hrel;clear b7;have b7:=IJ.out _ kU.out;have hz:=dJ S;have FW:S.length<=1000000:=by rw[HS.out];exact UB.out j
  by_cases hlt:j<nk;exact ayL;exact azI
theorem IP(m:PM)(b0:Nat)(w:ak)(h:Qx b0 [] w m)(hk:m.kind=6)(hlen:(printS (aH m.p)).length<=1000000)(ih:∀x∈m.kids,∀w1,Ev w w1->Calls ax 40 #[pv x] w1 (mG x.p w1)):
  Calls ax 40 #[pv m] w (mG m.p w):=by
 obtain⟨PS,vT⟩:∃PS,PS=printS (aH m.p):=⟨_,rfl⟩
 have uj:=vW m;rw[hk]at uj;unfold mG at*;rw[<-vT]at uj hlen|-;have hQ:=h;have zA:=h.ps;have hle:=zA.le;have hmx:=zA.max;obtain⟨w0,hw0,aV,hB0⟩:=LW w (.int .i64 6) ↑m.name (.slice m.ex.A m.ex.l.length m.ex.cap) (.slice m.co.A m.co.l.length m.co.cap) (.slice m.lf.A m.lf.l.length m.lf.cap) (.slice m.rt.A m.rt.l.length m.rt.cap) (.slice m.ag.A m.ag.l.length m.ag.cap) (.slice m.A m.kids.length m.cap);have cu:=zq aV;have ui:=zq hB0;obtain⟨⟨p0,p1,p2,p3,p4,p5,p6,p7⟩,_⟩:=hB0.eight;unfold pv at ih|-;unfold fH.v PM.kv at*;rw[hk];obtain⟨HD,lI⟩:∃HD,HD=[aS dU]:=⟨_,rfl⟩
 have uj:PS=qP (HD++m.kids.map λx=>aH x.p)++[41]:=by rw[lI];exact uj
 have kT:Hid (([40,100,105,115,116,105,110,99,116]:By)=qP HD):=zq (by rw[lI];rfl);have EW:=cu;have BW:=ui;clear aV hB0 hQ h hk;go_enter func40,ntmps40;go_wp2;have qQ:=zq hlen;have BR:=zq uj;have zJ:=zq zA;have HQK:=zq (λx (hx:x∈m.kids) w1 (hE:Ev w w1)=>ih x hx w1 hE);have UB:Hid (∀j,(qP (HD++(m.kids.take j).map λx=>aH x.p)).length<=1000000):=zq λj=>by exact aAy
 obtain⟨nk,xO⟩:∃nk,nk=m.kids.length:=⟨_,rfl⟩
 have xP:=zq xO;rw[<-xO]at hle;have IJ:Hid (∀wz,Ev w0 wz->wz.cell? ⟨w.heap.size,7,none⟩=some (.slice m.A nk m.cap)):=zq λwz hE=>by exact aCd
 clear uj hlen zA ih xO p0 p1 p2 p3 p4 p5 p6 p7;have b7:=IJ.out _ aK
 go_loopw [3,7] (λsv iv wr=>∃(j:Nat) (S:By),sv=↑S/\iv=↑j/\j<=nk/\Hid (S=qP (HD++(m.kids.take j).map λx=>aH x.p))/\Hid (Ev w0 wr)) (λ_ iv _=>nk-(intOf iv).toNat)
 case atStart=>exact⟨0,_,rfl,rfl,awJ _,zq (by simpa using kT.out),zq aK⟩
 case round=>
  obtain⟨j,S,rfl,rfl,hj,HS,kU⟩:=hrel;clear b7;have b7:=IJ.out _ kU.out;have hz:=dJ S;have FW:S.length<=1000000:=by rw[HS.out];exact UB.out j
  by_cases hlt:j<nk;exact ayL;exact azI
theorem LZ(e:M)(b0:Nat)(w:ak)(hL:Lx b0 [] w e)(hr:dX e.t=true)(hf:e.t.every dh=true)(hz:e.t.size<=10000)(hn:(xTree e.t).fine=true)(hl:(printS (xTree e.t)).length<=1000000):
  (Calls ax 85 #[.agg ↑(e,())] w λr w'=>∃x:M,r=.returned (.agg ↑x)/\(∀w2,Ev w' w2->Calls ax 84 #[.agg ↑x] w2 λr w''=>r=.returned (.string ⟨(printS (xTree e.t)).toArray⟩)/\Ev w2 w'')/\Ev w w'):=by
 refine(aft e.dep e b0 w (awC _) hL hr hf ae).mono ?_;rintro r w' ⟨x,rfl,hx,U4,hE⟩;refine⟨x,rfl,λw2 bM=>?_,hE⟩;have h1:=abd U4 w2 bM (by rw[hx];exact hl) (by rw[hx];exact Bh _ (jT _ hn).1);rw[hx]at h1;exact h1
theorem NY(m:PM)(b0:Nat)(w:ak)(h:Qx b0 [] w m)(hk:m.kind=2)(e:M)(he:m.ex.l=[e])(hr:dX e.t=true)(hf:e.t.every dh=true)(hz:e.t.size<=10000)(hn:(xTree e.t).fine=true)(hlen:(printS (aH m.p)).length<=1000000)(ih:∀x∈m.kids,∀w1,Ev w w1->Calls ax 40 #[pv x] w1 (mG x.p w1)):
  Calls ax 40 #[pv m] w (mG m.p w):=by
 obtain⟨PS,vT⟩:∃PS,PS=printS (aH m.p):=⟨_,rfl⟩
 have uj:=vW m;rw[hk]at uj;unfold mG at*;rw[<-vT]at uj hlen|-;have hQ:=h;have zA:=h.ps;have hle:=zA.le;have hmx:=zA.max;obtain⟨w0,hw0,aV,hB0⟩:=LW w (.int .i64 2) ↑m.name (.slice m.ex.A m.ex.l.length m.ex.cap) (.slice m.co.A m.co.l.length m.co.cap) (.slice m.lf.A m.lf.l.length m.lf.cap) (.slice m.rt.A m.rt.l.length m.rt.cap) (.slice m.ag.A m.ag.l.length m.ag.cap) (.slice m.A m.kids.length m.cap);have cu:=zq aV;have ui:=zq hB0;obtain⟨⟨p0,p1,p2,p3,p4,p5,p6,p7⟩,_⟩:=hB0.eight;unfold pv at ih|-;unfold fH.v PM.kv at*;rw[hk];obtain⟨PE,vO⟩:∃PE,PE=printS (xTree e.t):=⟨_,rfl⟩
 rw[he]at uj;obtain⟨HD,lI⟩:∃HD,HD=[aS eP,xTree e.t]:=⟨_,rfl⟩
 have uj:PS=qP (HD++m.kids.map λx=>aH x.p)++[41]:=by rw[lI];exact uj
 have hS1:qP HD=[40,102,105,108,116,101,114]++[32]++PE:=by rw[lI,show [aS eP,xTree e.t]=[aS eP]++[xTree e.t] from rfl,iY aj,vO];rfl
 have hpl:PE.length<=1000000:=by have h1:=lD (m.kids.map λx=>aH x.p) HD;have h2:=axc List.length uj;have h3:=axc List.length hS1;simp only[awE,awR,axw]at h2 h3;omega
 obtain⟨hex,hlx,_⟩:=hQ.at;have hes:=hex.sl;have hel:m.ex.l.length=1:=by rw[he];rfl
 rw[he]at hes;have hLe:=hlx e (by rw[he];simp);have TW:=hes.le;have auq:=hes.max;obtain⟨be,aur,heA,RF,_⟩:=Es.cell hes (i:=0) (x:=e) rfl;rw[heA]at hes;have HEC:=zq (λw1 (hE:Ev w w1)=>Es.cell (hes.ev hE) (i:=0) (x:=e) rfl);have HTR:=zq (λw1 (hE:Ev w w1)=>LZ e b0 w1 (hLe.ev hE) hr hf hz hn (by rw[<-vO];exact hpl));rw[<-vO]at HTR;rw[hel,heA]at p2 ui hw0|-;obtain⟨be',arO,Zr,_,e0,e1,e2,e3⟩:=HEC.out _ cu.out;injection Zr with Zr
 injection Zr with h1 h2 _
 subst h1 h2;simp only[axi,aw2]at e0 e1 e2 e3;unfold M.kv at e3;obtain⟨S1,aiy⟩:∃S1,S1=qP HD:=⟨_,rfl⟩
 have ac5:(⟨#[40,102,105,108,116,101,114]⟩:ByteArray)++⟨#[32]⟩=⟨#[40,102,105,108,116,101,114,32]⟩:=eX [40,102,105,108,116,101,114] [32];have mV:(⟨#[40,102,105,108,116,101,114,32]⟩:ByteArray)++⟨PE.toArray⟩=⟨S1.toArray⟩:=by rw[aiy,hS1];exact eX [40,102,105,108,116,101,114,32] PE
 have hze:=dJ PE;have kT:Hid (S1=qP HD):=zq aiy;clear aV hB0 hQ h hk hes hex hlx hLe he hel heA vO hS1 aiy hr hf hz hn;go_enter func40,ntmps40
 go_wp2_with (first
  | ((with_reducible refine(HTR.out _ cu.out).mono ?_);rintro r w1 ⟨x1,rfl,hPr,aN⟩;have apk:=zq hPr;have E1:=zq (cu.out.trans aN);have F1:=zq aN;clear hPr aN)
  | ((with_reducible refine(apk.out _ aK).mono ?_);rintro r w2 ⟨rfl,bM⟩;have EW:=zq (E1.out.trans bM);have BW:=zq (ui.out.ev (F1.out.trans bM));clear bM))
 have qQ:=zq hlen;have BR:=zq uj;have zJ:=zq zA;have HQK:=zq (λx (hx:x∈m.kids) w1 (hE:Ev w w1)=>ih x hx w1 hE);have UB:Hid (∀j,(qP (HD++(m.kids.take j).map λx=>aH x.p)).length<=1000000):=zq λj=>by exact aAy
 obtain⟨nk,xO⟩:∃nk,nk=m.kids.length:=⟨_,rfl⟩
 have xP:=zq xO;rw[<-xO]at hle;have IJ:Hid (∀wz,Ev w2 wz->wz.cell? ⟨w.heap.size,7,none⟩=some (.slice m.A nk m.cap)):=zq λwz hE=>by exact aCd
 clear uj hlen zA ih xO p0 p1 p2 p3 p4 p5 p6 p7 mV ac5;have b7:=IJ.out _ aK
 go_loopw [3,7] (λsv iv wr=>∃(j:Nat) (S:By),sv=↑S/\iv=↑j/\j<=nk/\Hid (S=qP (HD++(m.kids.take j).map λx=>aH x.p))/\Hid (Ev w2 wr)) (λ_ iv _=>nk-(intOf iv).toNat)
 case atStart=>exact⟨0,_,rfl,rfl,awJ _,zq (by simpa using kT.out),zq aK⟩
 case round=>
  obtain⟨j,S,rfl,rfl,hj,HS,kU⟩:=hrel;clear b7;have b7:=IJ.out _ kU.out;have hz:=dJ S;have FW:S.length<=1000000:=by rw[HS.out];exact UB.out j
  by_cases hlt:j<nk;exact ayL;exact azI
theorem QU(m:PM)(b0:Nat)(w:ak)(h:Qx b0 [] w m)(hk:m.kind=1)(PH:m.kids=[])(hlen:(printS (aH m.p)).length<=1000000):
  Calls ax 40 #[pv m] w (mG m.p w):=by
 obtain⟨PS,vT⟩:∃PS,PS=printS (aH m.p):=⟨_,rfl⟩
 have uj:=vW m;rw[hk,PH]at uj;unfold mG;rw[<-vT]at uj hlen|-;have hS1:PS=[40,116,97,98,108,101,32]++m.name++[41]:=by rw[uj];show qP ([aS gY]++[aS m.name]++[])++[41]=_;rw[ax2,iY aj,show printS (aS m.name)=m.name by unfold aS;simp[printS]];rfl
 obtain⟨w0,hw0,aV,hB0⟩:=LW w (.int .i64 1) ↑m.name (.slice m.ex.A m.ex.l.length m.ex.cap) (.slice m.co.A m.co.l.length m.co.cap) (.slice m.lf.A m.lf.l.length m.lf.cap) (.slice m.rt.A m.rt.l.length m.rt.cap) (.slice m.ag.A m.ag.l.length m.ag.cap) (.slice m.A m.kids.length m.cap);have cu:=zq aV;obtain⟨⟨p0,p1,p2,p3,p4,p5,p6,p7⟩,_⟩:=hB0.eight;unfold pv fH.v PM.kv;rw[hk];obtain⟨Z,hZ⟩:∃Z,Z=[40,116,97,98,108,101,32]++m.name:=⟨_,rfl⟩
 have mV:(⟨#[40,116,97,98,108,101,32]⟩:ByteArray)++⟨m.name.toArray⟩=⟨Z.toArray⟩:=by rw[hZ];exact eX [40,116,97,98,108,101,32] _
 have LV:(⟨Z.toArray⟩:ByteArray)++⟨#[41]⟩=⟨PS.toArray⟩:=by rw[hS1,<-hZ];exact eX Z [41]
 have hz:=dJ m.name;have hz2:=dJ Z;have hl2:Z.length+1<=1000000:=by rw[hS1,<-hZ,awE]at hlen;exact hlen
 have hl3:7+m.name.length=Z.length:=by rw[hZ,awE];rfl
 clear aV hB0 h hk PH uj vT hlen hS1 hZ;go_enter func40,ntmps40;go_wp2;go_ret;exact⟨rfl,cu.out⟩
theorem tN{ρ:Operand->au}{o:Oper}{x y:Operand}{a b c:By}(ho:o.op=.binOp .add 9 x y 9)(hx:ρ x=↑a)(hy:ρ y=↑b)(hc:c=a++b)(hl:c.length<=1000000)(w:ak):
  (execOp ρ o).run ax w=.ok (.value ↑c) w:=by
 have h1:=dJ a;have h2:=dJ b;have h3:=eX a b;rw[<-hc]at h3;have h4:a.length+b.length<=1000000:=by rw[hc,awE]at hl;exact hl
 unfold execOp;rw[ho];simp[hx,hy,go_sem,h1,h2,h3,show a.length+b.length<=9223372036854775807 by omega]
theorem QV(l:List By)(A:Option Addr)(n cap:Nat)(P:By)(hP:P=printS (aX l))(w:ak)(h:Ss w A n cap l)(hb:P.length<=1000000):
  Calls ax 86 #[.slice A n cap] w λe w'=>e=.returned ↑P/\Ev w w':=by
 subst hP;refine afu l A n cap w h ?_;rw[O_,awE]at hb;omega
theorem aBH(h:U:=by
 have e1:a.eval (.tmp 1)=.pointer ↑w:=(c.was 1 rfl)
 generalize a.eval=ρ at e1|-;simp[execOp,e1,go_sem]):U:=h
theorem UC(m:PM)(b0:Nat)(w:ak)(h:Qx b0 [] w m)(hk:m.kind=4)(hlen:(printS (aH m.p)).length<=1000000)(ih:∀x∈m.kids,∀w1,Ev w w1->Calls ax 40 #[pv x] w1 (mG x.p w1)):
  Calls ax 40 #[pv m] w (mG m.p w):=by
 obtain⟨PS,vT⟩:∃PS,PS=printS (aH m.p):=⟨_,rfl⟩
 have uj:=vW m;rw[hk]at uj;unfold mG at*;rw[<-vT]at uj hlen|-;have hQ:=h;have zA:=h.ps;have hle:=zA.le;have hmx:=zA.max;obtain⟨w0,hw0,aV,hB0⟩:=LW w (.int .i64 4) ↑m.name (.slice m.ex.A m.ex.l.length m.ex.cap) (.slice m.co.A m.co.l.length m.co.cap) (.slice m.lf.A m.lf.l.length m.lf.cap) (.slice m.rt.A m.rt.l.length m.rt.cap) (.slice m.ag.A m.ag.l.length m.ag.cap) (.slice m.A m.kids.length m.cap);have cu:=zq aV;have ui:=zq hB0;obtain⟨⟨p0,p1,p2,p3,p4,p5,p6,p7⟩,_⟩:=hB0.eight;unfold pv at ih|-;unfold fH.v PM.kv at*;rw[hk];obtain⟨PL,hPL⟩:∃PL,PL=printS (aX m.lf.l):=⟨_,rfl⟩
 obtain⟨PR,hPR⟩:∃PR,PR=printS (aX m.rt.l):=⟨_,rfl⟩
 obtain⟨HD,lI⟩:∃HD,HD=[aS iD,aX m.lf.l,aX m.rt.l]:=⟨_,rfl⟩
 have uj:PS=qP (HD++m.kids.map λx=>aH x.p)++[41]:=by rw[lI];exact uj
 obtain⟨J1,hJ1⟩:∃J1:By,J1=[40,106,111,105,110,32]++PL:=⟨_,rfl⟩
 obtain⟨J2,hJ2⟩:∃J2,J2=J1++[32]:=⟨_,rfl⟩
 obtain⟨J3,hJ3⟩:∃J3,J3=J2++PR:=⟨_,rfl⟩
 have hS1:J3=qP HD:=by rw[lI,show [aS iD,aX m.lf.l,aX m.rt.l]=([aS iD]++[aX m.lf.l])++[aX m.rt.l] from rfl,iY aj,iY aj,<-hPL,<-hPR,hJ3,hJ2,hJ1];show _=([40,106,111,105,110]++_)++_;simp
 have hl3:J3.length<=1000000:=by have h1:=lD (m.kids.map λx=>aH x.p) HD;have h2:=axc List.length uj;rw[awE,List.length_singleton]at h2;rw[hS1];omega
 have hl2:J2.length<=1000000:=by rw[hJ3,awE]at hl3;omega
 have MV:J1.length<=1000000:=by rw[hJ2,awE]at hl2;omega
 have hpl:PL.length<=1000000:=by rw[hJ1,awE]at MV;omega
 have apm:PR.length<=1000000:=by rw[hJ3,awE]at hl3;omega
 obtain⟨_,_,_,pJ,hrt,_⟩:=hQ.at;have zS:=zq (λw1 (hE:Ev w w1)=>QV m.lf.l m.lf.A m.lf.l.length m.lf.cap PL hPL w1 (pJ.sl.ev hE) hpl);have zG:=zq (λw1 (hE:Ev w w1)=>QV m.rt.l m.rt.A m.rt.l.length m.rt.cap PR hPR w1 (hrt.sl.ev hE) apm);have hb0:=hB0.lt;have HJ1:=zq hJ1;have HJ2:=zq hJ2;have HJ3:=zq hJ3;have kT:Hid (J3=qP HD):=zq hS1;have ed:Tryz.prog.follows .mixedOrders=true:=ah;clear aV hB0 hQ h hk pJ hrt hPL hPR hS1 hJ1 hJ2 hJ3;go_enter func40,ntmps40;go_upto_region 17 with fail
 refine bV ed [λv _=>v=.pointer (some ⟨w.heap.size,4,none⟩),λv _=>v=.slice m.lf.A m.lf.l.length m.lf.cap,λv _=>v=↑PL,λv _=>v=↑J1,λv _=>v=↑J2,λv _=>v=.pointer (some ⟨w.heap.size,5,none⟩),λv _=>v=.slice m.rt.A m.rt.l.length m.rt.cap,λv _=>v=↑PR,λv _=>v=↑J3,λv _=>v=↑J3]
  135 rfl ah ⟨az _,az _,az _,az _,az _,az _,az _,az _,az _,az _,trivial⟩ ?_ ?_
 ·refine aC 0 ?_ (aC 1 ?_ (aC 2 ?_ (aC 3 ?_ (aC 4 ?_ (aC 5 ?_ (aC 6 ?_ (aC 7 ?_ (aC 8 ?_ (aC 9 ?_ (iT 10))))))))));refine aF λa wq c=>⟨(ay rfl),.pointer (some ⟨w.heap.size,4,none⟩),?_,rfl⟩
  exact aBH
  ·refine aF λa wq c=>⟨(ay rfl),.slice m.lf.A m.lf.l.length m.lf.cap,?_,rfl⟩
   have bC:a.eval (.tmp 67)=.pointer (some ⟨w.heap.size,4,none⟩):=(c.new 0 67)
   have hc:=(c.ev.cell (p:=⟨w.heap.size,4,none⟩) hb0).trans p4;generalize a.eval=ρ at bC|-;simp[execOp,bC,hc,go_sem]
  refine ig λa wq c=>⟨(ay rfl),86,#[.slice m.lf.A m.lf.l.length m.lf.cap],?_,?_⟩
  rw[bT 86 _ _ rfl ah];have e68:a.eval (.tmp 68)=.slice m.lf.A m.lf.l.length m.lf.cap:=(c.new 1 68)
  simp[e68];refine(zS.out wq (cu.out.trans c.ev)).mono ?_;rintro e w2 ⟨rfl,hE⟩;exact⟨_,rfl,hE,rfl⟩;refine aF λa wq c=>⟨(ay rfl),_,tN (a:=[40,106,111,105,110,32]) rfl (evc a _) (c.new 2 69) HJ1.out MV wq,rfl⟩
  refine aF λa wq c=>⟨(ay rfl),_,tN (b:=[32]) rfl (c.new 3 70) (evc a _) HJ2.out hl2 wq,rfl⟩
  refine aF λa wq c=>⟨(ay rfl),.pointer (some ⟨w.heap.size,5,none⟩),?_,rfl⟩
  exact aBH
  ·refine aF λa wq c=>⟨(ay rfl),.slice m.rt.A m.rt.l.length m.rt.cap,?_,rfl⟩
   have bC:a.eval (.tmp 72)=.pointer (some ⟨w.heap.size,5,none⟩):=(c.new 5 72)
   have hc:=(c.ev.cell (p:=⟨w.heap.size,5,none⟩) hb0).trans p5;generalize a.eval=ρ at bC|-;simp[execOp,bC,hc,go_sem]
  refine ig λa wq c=>⟨(ay rfl),86,#[.slice m.rt.A m.rt.l.length m.rt.cap],?_,?_⟩
  rw[bT 86 _ _ rfl ah];have e73:a.eval (.tmp 73)=.slice m.rt.A m.rt.l.length m.rt.cap:=(c.new 6 73)
  simp[e73];refine(zG.out wq (cu.out.trans c.ev)).mono ?_;rintro e w2 ⟨rfl,hE⟩;exact⟨_,rfl,hE,rfl⟩;refine aF λa wq c=>⟨(ay rfl),_,tN rfl (c.new 4 71) (c.new 7 74) HJ3.out hl3 wq,rfl⟩
  refine aF λa wq c=>⟨(ay rfl),_,run_assign _ rfl wq,(c.new 8 75)⟩
 intro sl wv Bg hold hnew;have f0:sl 0=.agg #[.int .i64 4,↑m.name,.slice m.ex.A m.ex.l.length m.ex.cap,.slice m.co.A m.co.l.length m.co.cap,.slice m.lf.A m.lf.l.length m.lf.cap,.slice m.rt.A m.rt.l.length m.rt.cap,.slice m.ag.A m.ag.l.length m.ag.cap,.slice m.A m.kids.length m.cap]:=hold 0;have f1:sl 1=.pointer ↑w:=hold 1;have f2:sl 2=.string ⟨#[]⟩:=hold 2;have f4:_=undef:=hold 4;have f5:_=undef:=hold 5;have f6:_=undef:=hold 6;have f7:_=undef:=hold 7;have f8:sl 8=.pointer ↑w:=hold 8;have f9:sl 9=.int .i64 4:=hold 9;have f10:sl 10=.bool false:=hold 10;have f11:sl 11=.bool false:=hold 11;have f12:_=undef:=hold 12;have f13:_=undef:=hold 13;have f14:_=undef:=hold 14;have f15:_=undef:=hold 15;have f16:sl 16=.bool false:=hold 16;have f17:sl 17=.bool false:=hold 17;have f18:_=undef:=hold 18;have f19:_=undef:=hold 19;have f20:_=undef:=hold 20;have f21:_=undef:=hold 21;have f22:_=undef:=hold 22;have f23:_=undef:=hold 23;have f24:_=undef:=hold 24;have f25:_=undef:=hold 25;have f26:_=undef:=hold 26;have f27:_=undef:=hold 27;have f28:_=undef:=hold 28;have f29:_=undef:=hold 29;have f30:_=undef:=hold 30;have f31:sl 31=.bool false:=hold 31;have f32:sl 32=.bool false:=hold 32;have f33:_=undef:=hold 33;have f34:_=undef:=hold 34;have f35:_=undef:=hold 35;have f36:_=undef:=hold 36;have f37:_=undef:=hold 37;have f38:_=undef:=hold 38;have f39:_=undef:=hold 39;have f40:_=undef:=hold 40;have f41:_=undef:=hold 41;have f42:_=undef:=hold 42;have f43:_=undef:=hold 43;have f44:_=undef:=hold 44;have f45:_=undef:=hold 45;have f46:_=undef:=hold 46;have f47:_=undef:=hold 47;have f48:_=undef:=hold 48;have f49:_=undef:=hold 49;have f50:_=undef:=hold 50;have f51:_=undef:=hold 51;have f52:_=undef:=hold 52;have f53:_=undef:=hold 53;have f54:_=undef:=hold 54;have f55:_=undef:=hold 55;have f56:_=undef:=hold 56
 have f57:_=undef:=hold 57;have f58:_=undef:=hold 58;have f59:_=undef:=hold 59;have f60:_=undef:=hold 60;have f61:_=undef:=hold 61;have f62:_=undef:=hold 62;have f63:_=undef:=hold 63;have f64:_=undef:=hold 64;have f65:sl 65=.bool true:=hold 65;have f66:sl 66=.bool true:=hold 66;have f76:_=undef:=hold 76;have f77:_=undef:=hold 77;have f78:_=undef:=hold 78;have f79:_=undef:=hold 79;have f80:_=undef:=hold 80;have f81:_=undef:=hold 81;have f82:_=undef:=hold 82;have f83:_=undef:=hold 83;have f84:_=undef:=hold 84;have f85:_=undef:=hold 85;have f86:_=undef:=hold 86;have f87:_=undef:=hold 87;have f88:_=undef:=hold 88;have f89:_=undef:=hold 89;have f90:_=undef:=hold 90;have f91:_=undef:=hold 91;have f92:_=undef:=hold 92;have f93:_=undef:=hold 93;have f94:_=undef:=hold 94;have f95:_=undef:=hold 95;have f96:_=undef:=hold 96;have f97:_=undef:=hold 97;have f98:_=undef:=hold 98;have f99:_=undef:=hold 99;have f100:_=undef:=hold 100;have f101:_=undef:=hold 101;have f102:_=undef:=hold 102;have f103:_=undef:=hold 103;have f104:_=undef:=hold 104;have f105:_=undef:=hold 105;have f106:_=undef:=hold 106;have f107:_=undef:=hold 107;have f108:_=undef:=hold 108;have f109:_=undef:=hold 109;have f110:_=undef:=hold 110;have f111:_=undef:=hold 111;have f112:_=undef:=hold 112;have f113:_=undef:=hold 113;have f114:_=undef:=hold 114;have f115:_=undef:=hold 115;have f116:_=undef:=hold 116;have f117:_=undef:=hold 117;have f118:_=undef:=hold 118;have f119:_=undef:=hold 119;have f120:_=undef:=hold 120;have f121:_=undef:=hold 121;have f122:_=undef:=hold 122;have f123:_=undef:=hold 123;have f124:_=undef:=hold 124;have f125:_=undef:=hold 125;have f126:_=undef:=hold 126;have f127:_=undef:=hold 127;have f128:_=undef:=hold 128
 have f129:_=undef:=hold 129;have f130:_=undef:=hold 130;have f131:_=undef:=hold 131;have f132:_=undef:=hold 132;have f133:_=undef:=hold 133;have f134:_=undef:=hold 134;have f3:sl 3=↑J3:=hnew 9 3;change Exit.inBlock _ _ .normal ⟨_,_⟩ _;simp only[List.range,List.range.loop,List.map];simp only[f0,f1,f2,f4,f5,f6,f7,f8,f9,f10,f11,f12,f13,f14,f15,f16,f17,f18,f19,f20,f21,f22,f23,f24,f25,f26,f27,f28,f29,f30,f31,f32,f33,f34,f35,f36,f37,f38,f39,f40,f41,f42,f43,f44,f45,f46,f47,f48,f49,f50,f51,f52,f53,f54,f55,f56,f57,f58,f59,f60,f61,f62,f63,f64,f65,f66,f76,f77,f78,f79,f80,f81,f82,f83,f84,f85,f86,f87,f88,f89,f90,f91,f92,f93,f94,f95,f96,f97,f98,f99,f100,f101,f102,f103,f104,f105,f106,f107,f108,f109,f110,f111,f112,f113,f114,f115,f116,f117,f118,f119,f120,f121,f122,f123,f124,f125,f126,f127,f128,f129,f130,f131,f132,f133,f134,f3];clear hold hnew;have EW:=zq (cu.out.trans Bg);have BW:=zq (ui.out.ev Bg);clear Bg;go_wp2;have qQ:=zq hlen;have BR:=zq uj;have zJ:=zq zA;have HQK:=zq (λx (hx:x∈m.kids) w1 (hE:Ev w w1)=>ih x hx w1 hE);have UB:Hid (∀j,(qP (HD++(m.kids.take j).map λx=>aH x.p)).length<=1000000):=zq λj=>by exact aAy
 obtain⟨nk,xO⟩:∃nk,nk=m.kids.length:=⟨_,rfl⟩
 have xP:=zq xO;rw[<-xO]at hle;have IJ:Hid (∀wz,Ev wv wz->wz.cell? ⟨w.heap.size,7,none⟩=some (.slice m.A nk m.cap)):=zq λwz hE=>by exact aCd
 clear uj hlen zA ih xO p0 p1 p2 p3 p4 p5 p6 p7;have b7:=IJ.out _ aK
 go_loopw [3,7] (λsv iv wr=>∃(j:Nat) (S:By),sv=↑S/\iv=↑j/\j<=nk/\Hid (S=qP (HD++(m.kids.take j).map λx=>aH x.p))/\Hid (Ev wv wr)) (λ_ iv _=>nk-(intOf iv).toNat)
 case atStart=>exact⟨0,_,rfl,rfl,awJ _,zq (by simpa using kT.out),zq aK⟩
 case round=>
  obtain⟨j,S,rfl,rfl,hj,HS,kU⟩:=hrel;clear b7;have b7:=IJ.out _ kU.out;have hz:=dJ S;have FW:S.length<=1000000:=by rw[HS.out];exact UB.out j
  by_cases hlt:j<nk;exact ayL;exact azI
def PrF(P:By)(v:au)(w:ak):Prop:=∀w2,Ev w w2->Calls ax 84 #[v] w2 λr w'=>r=.returned ↑P/\Ev w2 w'
theorem PrF.mono(P:By):ru (PrF P):=λv w w' hE h w2 bM=>h w2 (hE.trans bM)
theorem Z8(c:By)(e:T):printS (b_ c e)=40::(c++(32::(printS (xTree e)++[41]))):=by unfold b_;rw[EY,show [aS c,xTree e]=[aS c]++[xTree e] from rfl,iY aj];show (40::(printL true [aS c])++_)++_=_;rw[show printL true [aS c]=c by unfold aS;simp[printL,printS]];simp
theorem aBz(h:U:=by have h1:=lD (m.kids.map λx=>aH x.p) HD;have h2:=axc List.length uj;rw[awE,List.length_singleton]at h2;omega):U:=h
theorem L6(m:PM)(b0:Nat)(w:ak)(h:Qx b0 [] w m)(hk:m.kind=3)(hn:m.ex.l.length=m.co.l.length)(hx:∀e∈m.ex.l,dX e.t=true/\e.t.every dh=true/\e.t.size<=10000/\(xTree e.t).fine=true)(hlen:(printS (aH m.p)).length<=1000000)(ih:∀x∈m.kids,∀w1,Ev w w1->Calls ax 40 #[pv x] w1 (mG x.p w1)):
  Calls ax 40 #[pv m] w (mG m.p w):=by
 obtain⟨PS,vT⟩:∃PS,PS=printS (aH m.p):=⟨_,rfl⟩
 have uj:=vW m;rw[hk]at uj;unfold mG at*;rw[<-vT]at uj hlen|-;have hQ:=h;have zA:=h.ps;have hle:=zA.le;have hmx:=zA.max;obtain⟨w0,hw0,aV,hB0⟩:=LW w (.int .i64 3) ↑m.name (.slice m.ex.A m.ex.l.length m.ex.cap) (.slice m.co.A m.co.l.length m.co.cap) (.slice m.lf.A m.lf.l.length m.lf.cap) (.slice m.rt.A m.rt.l.length m.rt.cap) (.slice m.ag.A m.ag.l.length m.ag.cap) (.slice m.A m.kids.length m.cap);have cu:=zq aV;have ui:=zq hB0;obtain⟨⟨p0,p1,p2,p3,p4,p5,p6,p7⟩,_⟩:=hB0.eight;unfold pv at ih|-;unfold fH.v PM.kv at*;rw[hk];obtain⟨HD0,QW⟩:∃HD0,HD0=List.zipWith b_ m.co.l (m.ex.l.map M.t):=⟨_,rfl⟩
 obtain⟨HD,lI⟩:∃HD,HD=aS cZ::HD0:=⟨_,rfl⟩
 have uj:PS=qP (HD++m.kids.map λx=>aH x.p)++[41]:=by rw[lI,QW];exact uj
 have hl0:(qP HD).length<=1000000:=by exact aBz
 have sH:Hid (∀j,(qP (aS cZ::HD0.take j)).length<=1000000):=zq λj=>by have h1:=lD (HD0.drop j) (aS cZ::HD0.take j);rw[axj,axs,<-lI]at h1;omega
 obtain⟨hex,hlx,xQ,_⟩:=hQ.at;have hcs:=xQ.sl;have hes:=hex.sl;rw[hn]at hes;have aky:=hcs.le;have aoy:=hcs.max;have akz:=hes.le;have aoz:=hes.max;have HCS:=zq hcs;have Oy:=zq hes;have GL:=zq (λe (he:e∈m.ex.l) w1 (hE:Ev w w1) (hl:(printS (xTree e.t)).length<=1000000)=>LZ e b0 w1 ((hlx e he).ev hE) (hx e he).1 (hx e he).2.1 (hx e he).2.2.1 (hx e he).2.2.2 hl);rw[hn]at p2 ui hw0|-;obtain⟨nc,yK⟩:∃nc,nc=m.co.l.length:=⟨_,rfl⟩
 have Jg:=zq yK;rw[<-yK]at p2 p3 ui hw0 aky akz|-;have hzl:HD0.length=nc:=by rw[QW,ax6,awD,hn,<-yK,Nat.min_self]
 have HZL:=zq hzl;have HZD:=zq QW;have HDD:=zq lI;have als:Hid (∀wz,Ev w0 wz->wz.cell? ⟨w.heap.size,2,none⟩=some (.slice m.ex.A nc m.ex.cap)/\wz.cell? ⟨w.heap.size,3,none⟩=some (.slice m.co.A nc m.co.cap)):=zq λwz hE=>by obtain⟨⟨_,_,h2,h3,_⟩,_⟩:=(ui.out.ev hE).eight;exact⟨h2,h3⟩
 have ed:Tryz.prog.follows .mixedOrders=true:=ah;have HGX:=zq hB0.lt;clear aV hB0 hQ h hk hex hlx xQ hcs hes yK hzl hl0 hn hx QW p0 p1 p2 p3 p4 p5 p6 p7;obtain⟨⟨p0,p1,p2,p3,p4,p5,p6,p7⟩,_⟩:=ui.out.eight;clear p1 p4 p5 p6 p7;go_enter func40,ntmps40;go_wp2;clear p0 p2 p3;obtain⟨q2,q3⟩:=als.out _ aK
 go_loopw [3,4] (λsv iv wr=>∃(j:Nat) (S:By),sv=↑S/\iv=↑j/\j<=nc/\Hid (S=qP (aS cZ::HD0.take j))/\Hid (Ev w0 wr)) (λ_ iv _=>nc-(intOf iv).toNat)
 case atStart=>exact⟨0,[40,112,114,111,106,101,99,116],rfl,rfl,awJ _,zq rfl,zq aK⟩
 case round=>
  obtain⟨j,S,rfl,rfl,hj,HS,kU⟩:=hrel;rename ak=>wa;clear q2 q3;obtain⟨q2,q3⟩:=als.out _ kU.out;have FW:S.length<=1000000:=by rw[HS.out];exact sH.out j
  by_cases hlt:j<nc
  ·obtain⟨c,hc⟩:=HCS.out.at (by rw[<-Jg.out];exact hlt);obtain⟨e,he⟩:=Oy.out.at (by rw[<-Jg.out];exact hlt);obtain⟨b,off,hcA,hb,c0⟩:=Ss.cell2 (HCS.out.ev (cu.out.trans kU.out)) hc;obtain⟨b',off',heA,hb',e0,e1,e2,e3⟩:=Es.cell (Oy.out.ev (cu.out.trans kU.out)) he;rw[hcA]at q3;rw[heA]at q2;unfold M.kv at e3;obtain⟨PE,vO⟩:∃PE,PE=printS (xTree e.t):=⟨_,rfl⟩
   have hzj:HD0[j]?=some (b_ c e.t):=by rw[HZD.out,List.getElem?_zipWith,hc,axh,he];rfl
   obtain⟨Q1,hQ1⟩:∃Q1,Q1=S++[32,40]:=⟨_,rfl⟩
   obtain⟨Q2,hQ2⟩:∃Q2,Q2=Q1++c:=⟨_,rfl⟩
   obtain⟨Q3,Xb⟩:∃Q3,Q3=Q2++[32]:=⟨_,rfl⟩
   obtain⟨Q4,Xc⟩:∃Q4,Q4=Q3++PE:=⟨_,rfl⟩
   obtain⟨Q5,hQ5⟩:∃Q5,Q5=Q4++[41]:=⟨_,rfl⟩
   have hY:Q5=qP (aS cZ::HD0.take (j+1)):=by obtain⟨hk2,hz2⟩:=awz.1 hzj;rw[awH hk2,hz2,<-axj,iY aj,<-HS.out,Z8,<-vO,hQ5,Xc,Xb,hQ2,hQ1];simp
   have hl5:Q5.length<=1000000:=by rw[hY];exact sH.out (j+1)
   have hl4:Q4.length<=1000000:=by rw[hQ5,awE]at hl5;omega
   have hl3:Q3.length<=1000000:=by rw[Xc,awE]at hl4;omega
   have hl2:Q2.length<=1000000:=by rw[Xb,awE]at hl3;omega
   have MV:Q1.length<=1000000:=by rw[hQ2,awE]at hl2;omega
   have hlp:PE.length<=1000000:=by rw[Xc,awE]at hl4;omega
   have HTR:=zq (λw1 (hE:Ev wa w1)=>GL.out e (awG he) w1 ((cu.out.trans kU.out).trans hE) (by rw[<-vO];exact hlp));rw[<-vO]at HTR;have HQ1:=zq hQ1;have HQ2:=zq hQ2;have HQ3:=zq Xb;have HQ4:=zq Xc;have HQ5:=zq hQ5;have HY:=zq hY;have hgx:w.heap.size<wa.heap.size:=awU HGX.out kU.out.size;have i1:(0:Int)<=(j:Int):=ae;have i2:(j:Int)<(nc:Int):=ae;clear hc he hcA heA vO hzj hQ1 hQ2 Xb Xc hQ5 hY;go_upto_region 15 with fail
   refine bV ed [λv _=>v=↑S,λv _=>v=↑Q1,λv _=>v=.pointer (some ⟨w.heap.size,3,none⟩),λv _=>v=.slice ↑(b,off) nc m.co.cap,λv _=>v=↑j,λv _=>v=.pointer ↑(b,off+j),λv _=>v=↑c,λv _=>v=↑Q2,λv _=>v=↑Q3,λv _=>v=.pointer (some ⟨w.heap.size,2,none⟩),λv _=>v=.slice ↑(b',off') nc m.ex.cap,λv _=>v=↑j,λv _=>v=.pointer ↑(b',off'+j*4),λv _=>v=.agg ↑(e,()),PrF PE,λv _=>v=↑PE,λv _=>v=↑Q4,λv _=>v=↑Q5,λv _=>v=↑Q5]
    135 rfl ah ⟨az _,az _,az _,az _,az _,az _,az _,az _,az _,az _,az _,az _,az _,az _,PrF.mono _,az _,az _,az _,az _,trivial⟩ ?_ ?_
   ·refine aC 0 ?_ (aC 1 ?_ (aC 2 ?_ (aC 3 ?_ (aC 4 ?_ (aC 5 ?_ (aC 6 ?_ (aC 7 ?_ (aC 8 ?_ (aC 9 ?_ (aC 10 ?_ (aC 11 ?_ (aC 12 ?_ (aC 13 ?_ (aC 14 ?_ (aC 15 ?_ (aC 16 ?_ (aC 17 ?_ (aC 18 ?_ (iT 19)))))))))))))))))));refine aF λa wq c=>⟨(ay rfl),_,run_move _ rfl wq,(c.was 3 rfl)⟩
    refine aF λa wq c_=>⟨(ay rfl),_,tN (b:=[32,40]) rfl (c_.new 0 47 ah ah) (evc a _) HQ1.out MV wq,rfl⟩
    refine aF λa wq c=>⟨(ay rfl),.pointer (some ⟨w.heap.size,3,none⟩),?_,rfl⟩
    exact aBH
    ·refine aF λa wq c_=>⟨(ay rfl),.slice ↑(b,off) nc m.co.cap,?_,rfl⟩
     have bC:a.eval (.tmp 49)=.pointer (some ⟨w.heap.size,3,none⟩):=(c_.new 2 49 ah ah)
     have hc:=(c_.ev.cell (p:=⟨w.heap.size,3,none⟩) hgx).trans q3;generalize a.eval=ρ at bC|-;simp[execOp,bC,hc,go_sem]
    refine aF λa wq c=>⟨(ay rfl),_,run_move _ rfl wq,(c.was 4 rfl)⟩
    ·refine aF λa wq c=>⟨(ay rfl),.pointer ↑(b,off+j),?_,rfl⟩
     have e50:a.eval (.tmp 50)=.slice ↑(b,off) nc m.co.cap:=(c.new 3 50)
     have e51:a.eval (.tmp 51)=↑j:=(c.new 4 51)
     generalize a.eval=ρ at e50 e51|-;simp[execOp,e50,e51,go_sem,i1,i2]
    ·refine aF λa wq c_=>⟨(ay rfl),↑c,?_,rfl⟩
     have bC:a.eval (.tmp 52)=.pointer ↑(b,off+j):=(c_.new 5 52 ah ah)
     have hc:=(c_.ev.cell (p:=⟨b,off+j,none⟩) hb).trans c0;generalize a.eval=ρ at bC|-;simp[execOp,bC,hc,go_sem]
    refine aF λa wq c_=>⟨(ay rfl),_,tN rfl (c_.new 1 48 ah ah) (c_.new 6 53 ah ah) HQ2.out hl2 wq,rfl⟩
    refine aF λa wq c_=>⟨(ay rfl),_,tN (b:=[32]) rfl (c_.new 7 54 ah ah) (evc a _) HQ3.out hl3 wq,rfl⟩
    refine aF λa wq c=>⟨(ay rfl),.pointer (some ⟨w.heap.size,2,none⟩),?_,rfl⟩
    exact aBH
    ·refine aF λa wq c_=>⟨(ay rfl),.slice ↑(b',off') nc m.ex.cap,?_,rfl⟩
     have bC:a.eval (.tmp 56)=.pointer (some ⟨w.heap.size,2,none⟩):=(c_.new 9 56 ah ah)
     have hc:=(c_.ev.cell (p:=⟨w.heap.size,2,none⟩) hgx).trans q2;generalize a.eval=ρ at bC|-;simp[execOp,bC,hc,go_sem]
    refine aF λa wq c=>⟨(ay rfl),_,run_move _ rfl wq,(c.was 4 rfl)⟩
    ·refine aF λa wq c=>⟨(ay rfl),.pointer ↑(b',off'+j*4),?_,rfl⟩
     have e57:a.eval (.tmp 57)=.slice ↑(b',off') nc m.ex.cap:=(c.new 10 57)
     have e58:a.eval (.tmp 58)=↑j:=(c.new 11 58)
     generalize a.eval=ρ at e57 e58|-;simp[execOp,e57,e58,go_sem,i1,i2]
    ·refine aF λa wq c_=>⟨(ay rfl),.agg ↑(e,()),?_,rfl⟩
     have bC:a.eval (.tmp 59)=.pointer ↑(b',off'+j*4):=(c_.new 12 59 ah ah)
     have h0_:=(c_.ev.cell (p:=⟨b',off'+j*4,none⟩) hb').trans e0;have h1_:=(c_.ev.cell (p:=⟨b',off'+j*4+1,none⟩) hb').trans e1;have h2_:=(c_.ev.cell (p:=⟨b',off'+j*4+2,none⟩) hb').trans e2;have h3_:=(c_.ev.cell (p:=⟨b',off'+j*4+3,none⟩) hb').trans e3;generalize a.eval=ρ at bC|-;simp[execOp,bC,h0_,h1_,h2_,h3_,go_sem]
    refine ig λa wq c_=>⟨(ay rfl),85,#[.agg ↑(e,())],?_,?_⟩
    rw[bT 85 _ _ rfl ah];have bC:a.eval (.tmp 60)=.agg ↑(e,()):=(c_.new 13 60 ah ah)
    simp[bC];refine(HTR.out wq c_.ev).mono ?_;rintro r w3 ⟨x1,rfl,Ic,mX⟩;exact⟨_,rfl,mX,Ic⟩;refine ig λa wq c_=>?_;have Ic:=(c_.got 14 61 ah ah rfl:PrF PE _ _)
    refine⟨(ay rfl),84,#[a.eval (.tmp 61)],?_,?_⟩;rw[bT 84 _ _ rfl ah];simp;refine(Ic wq aK).mono ?_;rintro r w3 ⟨rfl,mX⟩;exact⟨_,rfl,mX,rfl⟩;refine aF λa wq c_=>⟨(ay rfl),_,tN rfl (c_.new 8 55 ah ah) (c_.new 15 62 ah ah) HQ4.out hl4 wq,rfl⟩
    refine aF λa wq c_=>⟨(ay rfl),_,tN (b:=[41]) rfl (c_.new 16 63 ah ah) (evc a _) HQ5.out hl5 wq,rfl⟩
    refine aF λa wq c=>⟨(ay rfl),_,run_assign _ rfl wq,(c.new 17 64)⟩
   intro sl wv Bg hold hnew;have f0:sl 0=.agg #[.int .i64 3,↑m.name,.slice m.ex.A nc m.ex.cap,.slice m.co.A nc m.co.cap,.slice m.lf.A m.lf.l.length m.lf.cap,.slice m.rt.A m.rt.l.length m.rt.cap,.slice m.ag.A m.ag.l.length m.ag.cap,.slice m.A m.kids.length m.cap]:=hold 0;have f1:sl 1=.pointer ↑w:=hold 1;have f2:sl 2=.string ⟨#[]⟩:=hold 2;have f4:sl 4=↑j:=hold 4;have f5:_=undef:=hold 5;have f6:_=undef:=hold 6;have f7:_=undef:=hold 7;have f8:sl 8=.pointer ↑w:=hold 8;have f9:sl 9=.int .i64 3:=hold 9;have f10:sl 10=.bool false:=hold 10;have f11:sl 11=.bool false:=hold 11;have f12:_=undef:=hold 12;have f13:_=undef:=hold 13;have f14:_=undef:=hold 14;have f15:_=undef:=hold 15;have f16:sl 16=.bool false:=hold 16;have f17:sl 17=.bool false:=hold 17;have f18:_=undef:=hold 18;have f19:_=undef:=hold 19;have f20:_=undef:=hold 20;have f21:_=undef:=hold 21;have f22:_=undef:=hold 22;have f23:_=undef:=hold 23;have f24:_=undef:=hold 24;have f25:_=undef:=hold 25;have f26:_=undef:=hold 26;have f27:_=undef:=hold 27;have f28:_=undef:=hold 28;have f29:_=undef:=hold 29;have f30:_=undef:=hold 30;have f31:sl 31=.bool true:=hold 31;have f32:sl 32=.bool true:=hold 32;have f33:sl 33=↑j:=hold 33;have f34:sl 34=.pointer (some ⟨w.heap.size,3,none⟩):=hold 34;have f35:sl 35=.slice ↑(b,off) nc m.co.cap:=hold 35;have f36:sl 36=↑nc:=hold 36;have f37:sl 37=.bool true:=hold 37;have f38:sl 38=.bool true:=hold 38;have f39:sl 39=↑j:=hold 39;have f40:sl 40=.pointer (some ⟨w.heap.size,2,none⟩):=hold 40;have f41:sl 41=.slice ↑(b',off') nc m.ex.cap:=hold 41;have f42:sl 42=↑nc:=hold 42;have f43:sl 43=.bool true:=hold 43;have f44:sl 44=.bool true:=hold 44;have f45:sl 45=u45:=hold 45;have f46:sl 46=u46:=hold 46;have f65:_=undef:=hold 65;have f66:_=undef:=hold 66;have f67:_=undef:=hold 67;have f68:_=undef:=hold 68;have f69:_=undef:=hold 69;have f70:_=undef:=hold 70;have f71:_=undef:=hold 71
   have f72:_=undef:=hold 72;have f73:_=undef:=hold 73;have f74:_=undef:=hold 74;have f75:_=undef:=hold 75;have f76:_=undef:=hold 76;have f77:_=undef:=hold 77;have f78:_=undef:=hold 78;have f79:_=undef:=hold 79;have f80:_=undef:=hold 80;have f81:_=undef:=hold 81;have f82:_=undef:=hold 82;have f83:_=undef:=hold 83;have f84:_=undef:=hold 84;have f85:_=undef:=hold 85;have f86:_=undef:=hold 86;have f87:_=undef:=hold 87;have f88:_=undef:=hold 88;have f89:_=undef:=hold 89;have f90:_=undef:=hold 90;have f91:_=undef:=hold 91;have f92:_=undef:=hold 92;have f93:_=undef:=hold 93;have f94:_=undef:=hold 94;have f95:_=undef:=hold 95;have f96:_=undef:=hold 96;have f97:_=undef:=hold 97;have f98:_=undef:=hold 98;have f99:_=undef:=hold 99;have f100:_=undef:=hold 100;have f101:_=undef:=hold 101;have f102:_=undef:=hold 102;have f103:_=undef:=hold 103;have f104:_=undef:=hold 104;have f105:_=undef:=hold 105;have f106:_=undef:=hold 106;have f107:_=undef:=hold 107;have f108:_=undef:=hold 108;have f109:_=undef:=hold 109;have f110:_=undef:=hold 110;have f111:_=undef:=hold 111;have f112:_=undef:=hold 112;have f113:_=undef:=hold 113;have f114:_=undef:=hold 114;have f115:_=undef:=hold 115;have f116:_=undef:=hold 116;have f117:_=undef:=hold 117;have f118:_=undef:=hold 118;have f119:_=undef:=hold 119;have f120:_=undef:=hold 120;have f121:_=undef:=hold 121;have f122:_=undef:=hold 122;have f123:_=undef:=hold 123;have f124:_=undef:=hold 124;have f125:_=undef:=hold 125;have f126:_=undef:=hold 126;have f127:_=undef:=hold 127;have f128:_=undef:=hold 128;have f129:_=undef:=hold 129;have f130:_=undef:=hold 130;have f131:_=undef:=hold 131;have f132:_=undef:=hold 132;have f133:_=undef:=hold 133;have f134:_=undef:=hold 134
   have f3:sl 3=↑Q5:=hnew 18 3;change (_:Act->ak->Prop) ⟨_,_⟩ _;simp only[List.range,List.range.loop,List.map];simp only[f0,f1,f2,f4,f5,f6,f7,f8,f9,f10,f11,f12,f13,f14,f15,f16,f17,f18,f19,f20,f21,f22,f23,f24,f25,f26,f27,f28,f29,f30,f31,f32,f33,f34,f35,f36,f37,f38,f39,f40,f41,f42,f43,f44,f45,f46,f65,f66,f67,f68,f69,f70,f71,f72,f73,f74,f75,f76,f77,f78,f79,f80,f81,f82,f83,f84,f85,f86,f87,f88,f89,f90,f91,f92,f93,f94,f95,f96,f97,f98,f99,f100,f101,f102,f103,f104,f105,f106,f107,f108,f109,f110,f111,f112,f113,f114,f115,f116,f117,f118,f119,f120,f121,f122,f123,f124,f125,f126,f127,f128,f129,f130,f131,f132,f133,f134,f3];clear hold hnew;go_wp2;go_roundw
   case rel=>exact⟨j+1,Q5,rfl,by go_num,ae,HY,zq (kU.out.trans Bg)⟩
   case measure=>simp[intOf];omega
  obtain rfl:j=nc:=ae;have kT:Hid (S=qP HD):=zq (by rw[HS.out,HDD.out,awS (by rw[HZL.out];exact awC _)]);have EW:=zq (cu.out.trans kU.out);have BW:=zq (ui.out.ev kU.out);have q0:=trivial;go_wp2;have qQ:=zq hlen;have BR:=zq uj;have zJ:=zq zA;have HQK:=zq (λx (hx:x∈m.kids) w1 (hE:Ev w w1)=>ih x hx w1 hE);have UB:Hid (∀j,(qP (HD++(m.kids.take j).map λx=>aH x.p)).length<=1000000):=zq λj=>by exact aAy
  obtain⟨nk,xO⟩:∃nk,nk=m.kids.length:=⟨_,rfl⟩
  have xP:=zq xO;rw[<-xO]at hle;have IJ:Hid (∀wz,Ev wa wz->wz.cell? ⟨w.heap.size,7,none⟩=some (.slice m.A nk m.cap)):=zq λwz hE=>by exact aCd
  clear uj hlen zA ih xO;have b7:=IJ.out _ aK
  go_loopw [3,7] (λsv iv wr=>∃(j:Nat) (S:By),sv=↑S/\iv=↑j/\j<=nk/\Hid (S=qP (HD++(m.kids.take j).map λx=>aH x.p))/\Hid (Ev wa wr)) (λ_ iv _=>nk-(intOf iv).toNat)
  case atStart=>exact⟨0,_,rfl,rfl,awJ _,zq (by simpa using kT.out),zq aK⟩
  case round=>
   obtain⟨j,S,rfl,rfl,hj,HS,kU⟩:=hrel;clear b7;have b7:=IJ.out _ kU.out;have hz:=dJ S;have FW:S.length<=1000000:=by rw[HS.out];exact UB.out j
   by_cases hlt:j<nk;exact ayL;exact azI
theorem alx(w:ak)(c0 c1 c2:au):∃w0,w.alloc (.cells #[c0,c1,c2] 54)=w0/\Ev w w0/\Bx 54 w.heap.size #[c0,c1,c2] w0:=⟨_,rfl,Ev.alloc _ _,Bx.new _ _ _⟩
theorem ac7{s:By}(h:jO s=true):s≠[]:=λe=>by rw[e]at h;exact absurd h (by decide+kernel)
theorem ac9{a:Ag}(h:KC a):printS (fK a)=40::(a.1++(32::(a.2.1++((if a.2.1=gK then [] else 32::a.2.2)++[41])))):=by
 have hp:∀s:By,printS (aS s)=s:=λs=>by unfold aS;simp[printS]
 have h1:∀s:By,qP [aS s]=40::s:=λs=>by unfold qP;simp[printL,hp]
 unfold fK;rcases h.2 with⟨hf,hc⟩|⟨hf,hc⟩
 rw[hc];simp only[List.isEmpty_nil,aw4];rw[if_pos hf,EY,show [aS a.1,aS a.2.1]=[aS a.1]++[aS a.2.1] from rfl,iY aj,h1,hp];simp;have hne:=ac7 hc;have hcf:¬a.2.1=gK:=by rcases hf with e|e|e<;>rw[e]<;>decide
 have hie:a.2.2.isEmpty=false:=by
  cases hh:a.2.2 with
  | nil=>exact absurd hh hne
  | cons x l=>rfl
 rw[hie,if_neg hcf,EY,if_neg aj,show [aS a.1,aS a.2.1,aS a.2.2]=([aS a.1]++[aS a.2.1])++[aS a.2.2] from rfl,iY aj,iY aj,h1,hp,hp];simp
theorem aBQ(h:U:=by
 go_wp2;go_roundw
 case rel=>exact⟨j+1,Q7,rfl,by go_num,ae,HY,VY⟩
 case measure=>simp[intOf];omega):U:=h
theorem QX(m:PM)(b0:Nat)(w:ak)(h:Qx b0 [] w m)(hk:m.kind=7)(hg:∀a∈m.ag.l,KC a)(hlen:(printS (aH m.p)).length<=1000000)(ih:∀x∈m.kids,∀w1,Ev w w1->Calls ax 40 #[pv x] w1 (mG x.p w1)):
  Calls ax 40 #[pv m] w (mG m.p w):=by
 obtain⟨PS,vT⟩:∃PS,PS=printS (aH m.p):=⟨_,rfl⟩
 have uj:=vW m;rw[hk]at uj;unfold mG at*;rw[<-vT]at uj hlen|-;have hQ:=h;have zA:=h.ps;have hle:=zA.le;have hmx:=zA.max;obtain⟨w0,hw0,aV,hB0⟩:=LW w (.int .i64 7) ↑m.name (.slice m.ex.A m.ex.l.length m.ex.cap) (.slice m.co.A m.co.l.length m.co.cap) (.slice m.lf.A m.lf.l.length m.lf.cap) (.slice m.rt.A m.rt.l.length m.rt.cap) (.slice m.ag.A m.ag.l.length m.ag.cap) (.slice m.A m.kids.length m.cap);have cu:=zq aV;have ui:=zq hB0;obtain⟨⟨p0,p1,p2,p3,p4,p5,p6,p7⟩,_⟩:=hB0.eight;unfold pv at ih|-;unfold fH.v PM.kv at*;rw[hk];obtain⟨PL,hPL⟩:∃PL,PL=printS (aX m.lf.l):=⟨_,rfl⟩
 obtain⟨H0,UD⟩:∃H0:List T,H0=[aS fB,aX m.lf.l]:=⟨_,rfl⟩
 obtain⟨HA,Yt⟩:∃HA,HA=m.ag.l.map fK:=⟨_,rfl⟩
 obtain⟨HD,lI⟩:∃HD,HD=H0++HA:=⟨_,rfl⟩
 have aly:H0≠[]:=by rw[UD];simp
 have alz:HD≠[]:=by rw[lI,UD];simp
 have uj:PS=qP (HD++m.kids.map λx=>aH x.p)++[41]:=by rw[lI,UD,Yt];exact uj
 have hl0:(qP HD).length<=1000000:=by exact aBz
 have sH:Hid (∀j,(qP (H0++HA.take j)).length<=1000000):=zq λj=>by have h1:=lD (HA.drop j) (H0++HA.take j);rw[aw1,axs,<-lI]at h1;omega
 obtain⟨G0,hG0⟩:∃G0:By,G0=[40,103,114,111,117,112,32]++PL:=⟨_,rfl⟩
 have aiA:G0=qP H0:=by rw[UD,show [aS fB,aX m.lf.l]=[aS fB]++[aX m.lf.l] from rfl,iY aj,<-hPL,hG0];rfl
 have hlg:G0.length<=1000000:=by have:=sH.out 0;rw[List.take_zero,ax2,<-aiA]at this;exact this
 have hlp:PL.length<=999993:=by rw[hG0,awE]at hlg;simp only[awR,axw]at hlg;omega
 have ac5:(⟨#[40,103,114,111,117,112,32]⟩:ByteArray)++⟨PL.toArray⟩=⟨G0.toArray⟩:=by rw[hG0];exact eX [40,103,114,111,117,112,32] _
 have hz0:=dJ PL;obtain⟨_,_,_,pJ,_,yz,_⟩:=hQ.at;have zS:=zq (λw1 (hE:Ev w w1)=>QV m.lf.l m.lf.A m.lf.l.length m.lf.cap PL hPL w1 (pJ.sl.ev hE) ae);have afx:=yz.sl;have Vj:=afx.le;have hcm:=afx.max;have HAS:=zq afx;obtain⟨na,DX⟩:∃na,na=m.ag.l.length:=⟨_,rfl⟩
 have AO:=zq DX;rw[<-DX]at p6 ui hw0 Vj|-;have Iu:=zq (show HA.length=na by rw[Yt,awD,DX]);have HAD:=zq Yt;have HDD:=zq lI;have apn:=zq aiA;have HGA:=zq hg;have HNE:=zq aly;have apo:=zq alz;have qF:Hid (∀wz,Ev w0 wz->wz.cell? ⟨w.heap.size,6,none⟩=some (.slice m.ag.A na m.ag.cap)):=zq λwz hE=>by obtain⟨⟨_,_,_,_,_,_,h6,_⟩,_⟩:=(ui.out.ev hE).eight;exact h6
 clear aV hB0 hQ h hk pJ yz afx hPL hG0 aiA DX Yt lI UD hl0 hg aly alz;go_enter func40,ntmps40
 go_wp2_with (first
  | ((with_reducible refine(zS.out _ cu.out).mono ?_);rintro r w1 ⟨rfl,aN⟩;have F1:=zq aN;clear aN))
 clear p0 p1 p2 p3 p4 p5 p6 p7 ac5;have q6:=qF.out _ F1.out
 go_loopw [3,5] (λsv iv wr=>∃(j:Nat) (S:By),sv=↑S/\iv=↑j/\j<=na/\Hid (S=qP (H0++HA.take j))/\Hid (Ev w0 wr)) (λ_ iv _=>na-(intOf iv).toNat)
 case atStart=>exact⟨0,G0,rfl,rfl,awJ _,zq (by rw[List.take_zero,ax2];exact apn.out),F1⟩
 case round=>
  obtain⟨j,S,rfl,rfl,hj,HS,kU⟩:=hrel;rename ak=>wa;clear q6;have q6:=qF.out _ kU.out;have FW:S.length<=1000000:=by rw[HS.out];exact sH.out j
  have hz:=dJ S;by_cases hlt:j<na;obtain⟨a,ha⟩:=HAS.out.at (by rw[<-AO.out];exact hlt);obtain⟨b,off,haA,hb,hcells⟩:=(HAS.out.ev (cu.out.trans kU.out)).rd (by rw[<-AO.out];omega);have c0:=hcells j a ha 0 _ rfl;have c1:=hcells j a ha 1 _ rfl;have c2:=hcells j a ha 2 _ rfl;simp only[aw2]at c0;rw[haA]at q6;have XY:=HGA.out a (awG ha);have hzj:HA[j]?=some (fK a):=by rw[HAD.out,axh,ha];rfl
  have hap:=ac9 XY;have XU:=sH.out (j+1);have htj:qP (H0++HA.take (j+1))=S++(32::printS (fK a)):=by obtain⟨hk2,hz2⟩:=awz.1 hzj;rw[awH hk2,hz2,<-aw1,iY (by simp[HNE.out]),<-HS.out]
  rw[htj,hap]at XU;rw[hap]at htj;obtain⟨an,af,ac_⟩:=a;simp only at c0 c1 c2 XU htj XY;obtain⟨w3,hw3,dV,qU⟩:=alx wa ↑an ↑af ↑ac_;obtain⟨⟨e0,e1,e2⟩,_⟩:=qU.three;have VY:=zq (kU.out.trans dV);obtain⟨Q1,hQ1⟩:∃Q1,Q1=S++[32,40]:=⟨_,rfl⟩
  obtain⟨Q2,hQ2⟩:∃Q2,Q2=Q1++an:=⟨_,rfl⟩
  obtain⟨Q3,Xb⟩:∃Q3,Q3=Q2++[32]:=⟨_,rfl⟩
  have k1:(⟨S.toArray⟩:ByteArray)++⟨#[32,40]⟩=⟨Q1.toArray⟩:=by rw[hQ1];exact eX S [32,40]
  have k2:(⟨Q1.toArray⟩:ByteArray)++⟨an.toArray⟩=⟨Q2.toArray⟩:=by rw[hQ2];exact eX _ _
  have k3:(⟨Q2.toArray⟩:ByteArray)++⟨#[32]⟩=⟨Q3.toArray⟩:=by rw[Xb];exact eX Q2 [32]
  have s1:=dJ Q1;have s2:=dJ Q2;have s3:=dJ Q3;have s4:=dJ an;have i1:(0:Int)<=(j:Int):=ae;have i2:(j:Int)<(na:Int):=ae;by_cases XH:af=gK;subst XH;rw[if_pos rfl]at htj XU;obtain⟨Q4,Xc⟩:∃Q4,Q4=Q3++gK:=⟨_,rfl⟩
  obtain⟨Q7,hQ7⟩:∃Q7,Q7=Q4++[41]:=⟨_,rfl⟩
  have hY:Q7=qP (H0++HA.take (j+1)):=by rw[htj,hQ7,Xc,Xb,hQ2,hQ1];simp
  have hl7:Q7.length<=1000000:=by rw[hY];exact sH.out (j+1)
  have hl4:Q4.length+1<=1000000:=by rw[hQ7,awE]at hl7;exact hl7
  have hl3:Q3.length+5<=1000000:=by rw[Xc,awE]at hl4;simp only[gK,awR,axw]at hl4;omega
  have hl2:Q2.length+1<=1000000:=by rw[Xb,awE]at hl3;simp only[awR,axw]at hl3;omega
  have MV:Q1.length+an.length<=1000000:=by rw[hQ2,awE]at hl2;omega
  have aci:S.length+2<=1000000:=by rw[hQ1,awE]at MV;simp only[awR,axw]at MV;omega
  have k4:(⟨Q3.toArray⟩:ByteArray)++⟨gK.toArray⟩=⟨Q4.toArray⟩:=by rw[Xc];exact eX _ _
  have k7:(⟨Q4.toArray⟩:ByteArray)++⟨#[41]⟩=⟨Q7.toArray⟩:=by rw[hQ7];exact eX Q4 [41]
  have s5:=dJ Q4;have HY:=zq hY;clear hY hQ1 hQ2 Xb Xc hQ7 htj XU hap hzj XY ha hcells haA dV qU;unfold gK at*;simp only[List.toArray]at k4 c1 e1 hw3;exact aBQ;rw[if_neg XH]at htj XU;have hcb:(af==gK)=false:=awy.2 XH;obtain⟨Q4,Xc⟩:∃Q4,Q4=Q3++af:=⟨_,rfl⟩
  obtain⟨Q5,hQ5⟩:∃Q5,Q5=Q4++[32]:=⟨_,rfl⟩
  obtain⟨Q6,hQ6⟩:∃Q6,Q6=Q5++ac_:=⟨_,rfl⟩
  obtain⟨Q7,hQ7⟩:∃Q7,Q7=Q6++[41]:=⟨_,rfl⟩
  have hY:Q7=qP (H0++HA.take (j+1)):=by rw[htj,hQ7,hQ6,hQ5,Xc,Xb,hQ2,hQ1];simp
  have hl7:Q7.length<=1000000:=by rw[hY];exact sH.out (j+1)
  have hl6:Q6.length+1<=1000000:=by rw[hQ7,awE]at hl7;exact hl7
  have hl5:Q5.length+ac_.length<=1000000:=by rw[hQ6,awE]at hl6;omega
  have hl4:Q4.length+1<=1000000:=by rw[hQ5,awE]at hl5;simp only[awR,axw]at hl5;omega
  have hl3:Q3.length+af.length<=1000000:=by rw[Xc,awE]at hl4;omega
  have hl2:Q2.length+1<=1000000:=by rw[Xb,awE]at hl3;simp only[awR,axw]at hl3;omega
  have MV:Q1.length+an.length<=1000000:=by rw[hQ2,awE]at hl2;omega
  have aci:S.length+2<=1000000:=by rw[hQ1,awE]at MV;simp only[awR,axw]at MV;omega
  have k4:(⟨Q3.toArray⟩:ByteArray)++⟨af.toArray⟩=⟨Q4.toArray⟩:=by rw[Xc];exact eX _ _
  have k5:(⟨Q4.toArray⟩:ByteArray)++⟨#[32]⟩=⟨Q5.toArray⟩:=by rw[hQ5];exact eX Q4 [32]
  have k6:(⟨Q5.toArray⟩:ByteArray)++⟨ac_.toArray⟩=⟨Q6.toArray⟩:=by rw[hQ6];exact eX _ _
  have k7:(⟨Q6.toArray⟩:ByteArray)++⟨#[41]⟩=⟨Q7.toArray⟩:=by rw[hQ7];exact eX Q6 [41]
  have s5:=dJ Q4;have s6:=dJ Q5;have s7:=dJ Q6;have s8:=dJ af;have s9:=dJ ac_;have HY:=zq hY;clear hY hQ1 hQ2 Xb Xc hQ5 hQ6 hQ7 htj XU hap hzj XY ha hcells haA dV qU XH;unfold gK at*;exact aBQ;obtain rfl:j=na:=ae;have kT:Hid (S=qP HD):=zq (by rw[HS.out,HDD.out,awS (by rw[Iu.out];exact awC _)]);have EW:=zq (cu.out.trans kU.out);have BW:=zq (ui.out.ev kU.out);go_wp2;have qQ:=zq hlen;have BR:=zq uj;have zJ:=zq zA;have HQK:=zq (λx (hx:x∈m.kids) w1 (hE:Ev w w1)=>ih x hx w1 hE);have UB:Hid (∀j,(qP (HD++(m.kids.take j).map λx=>aH x.p)).length<=1000000):=zq λj=>by exact aAy
  obtain⟨nk,xO⟩:∃nk,nk=m.kids.length:=⟨_,rfl⟩
  have xP:=zq xO;rw[<-xO]at hle;have IJ:Hid (∀wz,Ev wa wz->wz.cell? ⟨w.heap.size,7,none⟩=some (.slice m.A nk m.cap)):=zq λwz hE=>by exact aCd
  clear uj hlen zA ih xO;have b7:=IJ.out _ aK
  go_loopw [3,7] (λsv iv wr=>∃(j:Nat) (S:By),sv=↑S/\iv=↑j/\j<=nk/\Hid (S=qP (HD++(m.kids.take j).map λx=>aH x.p))/\Hid (Ev wa wr)) (λ_ iv _=>nk-(intOf iv).toNat)
  case atStart=>exact⟨0,_,rfl,rfl,awJ _,zq (by simpa using kT.out),zq aK⟩
  case round=>
   obtain⟨j,S,rfl,rfl,hj,HS,kU⟩:=hrel;clear b7;have b7:=IJ.out _ kU.out;have hz:=dJ S;have FW:S.length<=1000000:=by rw[HS.out];exact UB.out j
   by_cases hlt:j<nk;obtain⟨x,hx⟩:=zJ.out.at (by rw[<-xP.out];exact hlt);have gJ:=awG hx;obtain⟨b,off,RQ,hb,_⟩:=(zJ.out.ev (EW.out.trans kU.out)).rd (by rw[<-xP.out];omega);have qO:=zJ.out.ev (EW.out.trans kU.out);rw[RQ]at qO b7;obtain⟨c0,c1,c2,c3,c4,c5,c6,c7⟩:=Ps.cell qO hx;unfold fH.v PM.kv at*;have oO:=uV hx;obtain⟨PX,LX⟩:∃PX,PX=printS (aH x.p):=⟨_,rfl⟩
   obtain⟨Z,hZ⟩:∃Z,Z=S++[32]:=⟨_,rfl⟩
   obtain⟨Y,hY⟩:∃Y,Y=Z++PX:=⟨_,rfl⟩
   have LY:Y=qP (HD++(m.kids.take (j+1)).map λx=>aH x.p):=by rw[oO,<-aw1,iY (by simp[apo.out]),<-HS.out,hY,hZ,LX];simp
   exact ayT;exact azI
theorem Z9{m:PM}(hg:m.p.good):∀t∈kN m.kind m.name (m.ex.l.map M.t) m.co.l m.lf.l m.rt.l m.ag.l,t.fine=true/\t.size<=(aH m.p).size:=by
 obtain⟨_,_,hf⟩:=TJ m.p hg;have he:=AB m.p;rw[he]at hf;have hall:=oZ hf;intro t ht;have SL:t∈kN m.p.kind m.p.name m.p.exprs m.p.cols m.p.left m.p.right m.p.Gs:=by rw[PM.sW];exact ht
 refine⟨hall t (awZ _ SL),?_⟩;rw[he,uS];have:=iQ (aw9 (f:=T.size) (awZ (m.p.kids.map aH) SL));omega
theorem Xd{p k:Pl}(hk:k∈p.kids):(aH k).size<=(aH p).size/\(printS (aH k)).length<=(printS (aH p)).length:=by have hm:aH k∈kN p.kind p.name p.exprs p.cols p.left p.right p.Gs++p.kids.map aH:=axo _ (aw9 hk);rw[AB p,uS,Ld];have e1:=iQ (aw9 (f:=T.size) hm);have e2:=Lc _ true _ hm;exact⟨ae,ae⟩
theorem agP{e:M}(h:wY e.t)(hs:(xTree e.t).size<=10000)(hf:(xTree e.t).fine=true):dX e.t=true/\e.t.every dh=true/\e.t.size<=10000/\(xTree e.t).fine=true:=
 ⟨h.right,h.fair,by have:=h.size;omega,hf⟩
theorem QY(N:Nat):∀(m:PM) (b0:Nat) (w:ak),m.dep<=N->Qx b0 [] w m->m.p.good->(aH m.p).size<=10000->(printS (aH m.p)).length<=1000000->
  Calls ax 40 #[pv m] w (mG m.p w):=by
 induction N with
 | zero=>
  intro m b0 w hd;rw[PM.lh]at hd;omega
 | succ N ih=>
  intro m b0 w hd h hg hs hl;have IA:m.p.kids=m.kids.map PM.p:=by rw[PM.sW];rfl
  have hI:∀x∈m.kids,∀w1,Ev w w1->Calls ax 40 #[pv x] w1 (mG x.p w1):=λx hx w1 hE=>by
   have hm:x.p∈m.p.kids:=by rw[IA];exact aw9 hx
   have hb:=Xd hm;exact ih x b0 w1 (by have:=PM.jY hx;omega) ((h.kid x hx).ev hE) (OZ hg _ hm) ae ae
  have hF:=Z9 hg;have hgh:Ac m.kind m.name (m.ex.l.map M.t) m.co.l m.lf.l m.rt.l m.ag.l m.kids.length:=by have h1:=hg;rw[PM.sW,Pl.good,awD]at h1;exact h1.1
  rcases hgh with⟨hk,_,_,_,_,_,_,hn⟩|⟨hk,_,⟨e,he,hge⟩,_⟩|⟨hk,_,he,TW,_⟩|⟨hk,_⟩|⟨hk,_⟩|⟨hk,_⟩|⟨hk,_,_,_,_,_,ha,_⟩
  exact QU m b0 w h hk (axu hn) hl;obtain⟨e1,he1,J6⟩:∃e1,m.ex.l=[e1]/\e1.t=e:=by
   match hh:m.ex.l,he with
   | [e1],he=>exact⟨e1,rfl,by simpa using he⟩
  subst J6;have hin:xTree e1.t∈kN m.kind m.name (m.ex.l.map M.t) m.co.l m.lf.l m.rt.l m.ag.l:=by rw[hk,he1];simp[kN]
  obtain⟨x1,x2,x3,x4⟩:=agP hge (by have:=(hF _ hin).2;omega) (hF _ hin).1;exact NY m b0 w h hk e1 he1 x1 x2 x3 x4 hl hI;rw[awD]at TW;refine L6 m b0 w h hk TW (λe hx=>?_) hl hI;obtain⟨i,hi⟩:=axU hx;have MM:=(awz.1 hi).1;obtain⟨c,hc⟩:∃c,m.co.l[i]?=some c:=⟨_,awX ae⟩
  have hin:b_ c e.t∈kN m.kind m.name (m.ex.l.map M.t) m.co.l m.lf.l m.rt.l m.ag.l:=by rw[hk];refine awK _ (awG (i:=i) ?_);rw[List.getElem?_zipWith,hc,axh,hi];rfl
  have h1:=hF _ hin;have h2:xTree e.t∈[aS c,xTree e.t]:=aj;have h3:(xTree e.t).size<=(b_ c e.t).size:=by unfold b_;rw[uS];have:=iQ (aw9 (f:=T.size) h2);omega
  exact agP (he _ (aw9 hx)) ae (oZ h1.1 _ h2);exact UC m b0 w h hk hl hI;exact QT m b0 w h hk hl hI;exact IP m b0 w h hk hl hI;exact QX m b0 w h hk ha hl hI
theorem uG{m x:M}{q:List M}(hq:m.kids=x::q)(hk:m.kind=1)(hx:x.kind=2):Qq m.t=x.s:=by rw[Gw,hq];simp[hk,lV,hx,at_,M.uK]
theorem Pe{m x:M}{q:List M}(hq:m.kids=x::q)(hk:m.kind=1)(hx:x.kind=2):gu m.t=pFormOf (gq x.s) (q.map M.t):=by
 rw[Ah,hq];simp only[hk,axe,awI,at_,ax5,lV,hx,M.uK,axb,axE,axB]
 cases q with
 | cons y r=>rw[aw5 aj,axB]
 | nil=>
  simp only[awY,awR,axw];rcases Am x.s with⟨h,_⟩|⟨h,_⟩|⟨h,_⟩|⟨h,_⟩|⟨h,_⟩|⟨h,_⟩|⟨h,_⟩|h<;>rw[h]<;>rfl
theorem GV{m:M}(h:Qq m.t=[]∨gq (Qq m.t)=0):gu m.t=false:=by
 by_cases hk:m.kind=1
 cases hq:m.kids with
 | nil=>rw[Ah,hq];simp
 | cons x q=>
  by_cases hx:x.kind=2;rw[Pe hq hk hx];rw[uG hq hk hx]at h;have h0:gq x.s=0:=by rcases h with h|h;rw[h];rfl;exact h
  rw[h0];rfl;rw[Ah,hq];simp[at_,lV,hx]
 rw[Ah];simp[hk]
theorem QZ(m:M)(b0:Nat)(w:ak)(h:Lies b0 [] w m)(x:M)(q:List M)(hq:m.kids=x::q)(um:m.kind=1)(hx2:x.kind=2)(hs:x.s=gY):
  Calls ax 78 #[.agg ↑m] w λe w'=>e=.returned (.bool (pFormOf 1 (q.map M.t)))/\Ev w w':=by
 have hH:=λw1 (hE:Ev w w1)=>kW m b0 w1 (h.ev hE);rw[uG hq um hx2,hs]at hH;have hB:=Bx.new 79 ↑m w;have aV:=Ev.alloc w (.cells ↑m 79);have fM:=h.ms;have qg:=h.kid;rw[hq]at fM qg;have hkn:m.kids.length=q.length+1:=by rw[hq];rfl
 have hcl:=fM.le;have hcm:=fM.max;obtain⟨b,off,hA,hb,_⟩:=Ms.cell fM (i:=0) (x:=x) rfl;simp only[awR]at fM hcl;rw[hkn,hA]at hB hH;rw[hkn]at aV|-;rw[hA]at aV fM|-;rw[um]at hB aV hH|-;have l9:=zq (λi y (hy:(x::q)[i]?=some y) w1 (hE:Ev w w1)=>Ms.rf (fM.ev hE) hy);have HH:=zq hH;have cu:=zq aV;have HB:=zq hB;obtain⟨⟨c0,c1,c2,c3,c4⟩,_⟩:=hB.five;obtain⟨kn,hk⟩:∃kn,kn=q.length:=⟨_,rfl⟩
 have mg:=zq hk;rw[<-hk]at HH cu HB c3 hcl|-;clear hH hB aV fM qg hkn hk h hq hA um hs;generalize m.s=ms at*;generalize m.n=mn at*;generalize m.cap=mc at*;generalize m.pos=mp at*;unfold gY at*
 match q,mg with
 | [],mg=>
  obtain rfl:kn=0:=mg.out;go_enter func78,ntmps78
  go_wp2_with (first
   | ((with_reducible refine(HH.out _ cu.out).mono ?_);rintro e w1 ⟨rfl,aN⟩;have E1:=zq (cu.out.trans aN);have F1:=zq aN;clear c0 c1 c2 c3 c4 aN;obtain⟨⟨c0,c1,c2,c3,c4⟩,_⟩:=(HB.out.ev F1.out).five))
  go_ret;exact⟨rfl,E1.out⟩
 | [y],mg=>
  obtain rfl:kn=1:=mg.out;rw[show pFormOf 1 ([y].map M.t)=(y.kind==2) by show (true&&dB y.t)=_;rw[lV,axB]];by_cases hy:y.kind=2
  ·rw[hy];go_enter func78,ntmps78
   go_wp2_with (first
    | ((with_reducible refine(HH.out _ cu.out).mono ?_);rintro e w1 ⟨rfl,aN⟩;have E1:=zq (cu.out.trans aN);have F1:=zq aN;clear c0 c1 c2 c3 c4 aN;obtain⟨⟨c0,c1,c2,c3,c4⟩,_⟩:=(HB.out.ev F1.out).five;obtain⟨d0,d1,d2,d3,d4⟩:=l9.out 1 y (rfl) _ E1.out;simp only[axK]at d0 d1 d2 d3 d4;rw[hy]at d0))
   go_ret;exact⟨rfl,E1.out⟩
  have hyb:(y.kind==2)=false:=awy.2 hy;rw[hyb];go_enter func78,ntmps78
  go_wp2_with (first
   | ((with_reducible refine(HH.out _ cu.out).mono ?_);rintro e w1 ⟨rfl,aN⟩;have E1:=zq (cu.out.trans aN);have F1:=zq aN;clear c0 c1 c2 c3 c4 aN;obtain⟨⟨c0,c1,c2,c3,c4⟩,_⟩:=(HB.out.ev F1.out).five;obtain⟨d0,d1,d2,d3,d4⟩:=l9.out 1 y (rfl) _ E1.out;simp only[axK]at d0 d1 d2 d3 d4))
  go_ret;exact⟨rfl,E1.out⟩
 | y::z::r,mg=>
  obtain⟨k,rfl⟩:∃k,kn=k+2:=⟨r.length,mg.out⟩
  have i1:((k:Int)+2+1==2)=false:=by rw[awy];omega
  rw[show pFormOf 1 ((y::z::r).map M.t)=false by show ((r.map M.t).length+1+1==1&&dB y.t)=false;simp];go_enter func78,ntmps78
  go_wp2_with (first
   | ((with_reducible refine(HH.out _ cu.out).mono ?_);rintro e w1 ⟨rfl,aN⟩;have E1:=zq (cu.out.trans aN);have F1:=zq aN;clear c0 c1 c2 c3 c4 aN;obtain⟨⟨c0,c1,c2,c3,c4⟩,_⟩:=(HB.out.ev F1.out).five))
  go_ret;exact⟨rfl,E1.out⟩
theorem NZ(m:M)(b0:Nat)(w:ak)(h:Lies b0 [] w m)(x:M)(q:List M)(hq:m.kids=x::q)(um:m.kind=1)(hx2:x.kind=2)(hs:x.s=eP):
  Calls ax 78 #[.agg ↑m] w λe w'=>e=.returned (.bool (pFormOf 2 (q.map M.t)))/\Ev w w':=by
 have hH:=λw1 (hE:Ev w w1)=>kW m b0 w1 (h.ev hE);rw[uG hq um hx2,hs]at hH;have hB:=Bx.new 79 ↑m w;have aV:=Ev.alloc w (.cells ↑m 79);have fM:=h.ms;have qg:=h.kid;rw[hq]at fM qg;have hkn:m.kids.length=q.length+1:=by rw[hq];rfl
 have hcl:=fM.le;have hcm:=fM.max;obtain⟨b,off,hA,hb,_⟩:=Ms.cell fM (i:=0) (x:=x) rfl;simp only[awR]at fM hcl;rw[hkn,hA]at hB hH;rw[hkn]at aV|-;rw[hA]at aV fM|-;rw[um]at hB aV hH|-;have HH:=zq hH;have cu:=zq aV;have HB:=zq hB;obtain⟨⟨c0,c1,c2,c3,c4⟩,_⟩:=hB.five;obtain⟨kn,hk⟩:∃kn,kn=q.length:=⟨_,rfl⟩
 have mg:=zq hk;rw[<-hk]at HH cu HB c3 hcl|-;clear hH hB aV fM qg hkn hk h hq hA um hs;generalize m.s=ms at*;generalize m.n=mn at*;generalize m.cap=mc at*;generalize m.pos=mp at*;unfold eP at*;have hP:pFormOf 2 (q.map M.t)=((kn:Int)+1==3):=by show ((q.map M.t).length==2)=_;rw[awD,<-mg.out,axv,awO,awO];omega
 rw[hP];go_enter func78,ntmps78
 go_wp2_with (first
  | ((with_reducible refine(HH.out _ cu.out).mono ?_);rintro e w1 ⟨rfl,aN⟩;have E1:=zq (cu.out.trans aN);have F1:=zq aN;clear c0 c1 c2 c3 c4 aN;obtain⟨⟨c0,c1,c2,c3,c4⟩,_⟩:=(HB.out.ev F1.out).five))
 go_ret;exact⟨rfl,E1.out⟩
theorem Q8(m:M)(b0:Nat)(w:ak)(h:Lies b0 [] w m)(x:M)(q:List M)(hq:m.kids=x::q)(um:m.kind=1)(hx2:x.kind=2)(hs:x.s=iM):
  Calls ax 78 #[.agg ↑m] w λe w'=>e=.returned (.bool (pFormOf 5 (q.map M.t)))/\Ev w w':=by
 have hH:=λw1 (hE:Ev w w1)=>kW m b0 w1 (h.ev hE);rw[uG hq um hx2,hs]at hH;have hB:=Bx.new 79 ↑m w;have aV:=Ev.alloc w (.cells ↑m 79);have fM:=h.ms;have qg:=h.kid;rw[hq]at fM qg;have hkn:m.kids.length=q.length+1:=by rw[hq];rfl
 have hcl:=fM.le;have hcm:=fM.max;obtain⟨b,off,hA,hb,_⟩:=Ms.cell fM (i:=0) (x:=x) rfl;simp only[awR]at fM hcl;rw[hkn,hA]at hB hH;rw[hkn]at aV|-;rw[hA]at aV fM|-;rw[um]at hB aV hH|-;have HH:=zq hH;have cu:=zq aV;have HB:=zq hB;obtain⟨⟨c0,c1,c2,c3,c4⟩,_⟩:=hB.five;obtain⟨kn,hk⟩:∃kn,kn=q.length:=⟨_,rfl⟩
 have mg:=zq hk;rw[<-hk]at HH cu HB c3 hcl|-;clear hH hB aV fM qg hkn hk h hq hA um hs;generalize m.s=ms at*;generalize m.n=mn at*;generalize m.cap=mc at*;generalize m.pos=mp at*;unfold iM at*;have hP:pFormOf 5 (q.map M.t)=((kn:Int)+1==3):=by show ((q.map M.t).length==2)=_;rw[awD,<-mg.out,axv,awO,awO];omega
 rw[hP];go_enter func78,ntmps78
 go_wp2_with (first
  | ((with_reducible refine(HH.out _ cu.out).mono ?_);rintro e w1 ⟨rfl,aN⟩;have E1:=zq (cu.out.trans aN);have F1:=zq aN;clear c0 c1 c2 c3 c4 aN;obtain⟨⟨c0,c1,c2,c3,c4⟩,_⟩:=(HB.out.ev F1.out).five))
 go_ret;exact⟨rfl,E1.out⟩
theorem IQ(m:M)(b0:Nat)(w:ak)(h:Lies b0 [] w m)(x:M)(q:List M)(hq:m.kids=x::q)(um:m.kind=1)(hx2:x.kind=2)(hs:x.s=dU):
  Calls ax 78 #[.agg ↑m] w λe w'=>e=.returned (.bool (pFormOf 6 (q.map M.t)))/\Ev w w':=by
 have hH:=λw1 (hE:Ev w w1)=>kW m b0 w1 (h.ev hE);rw[uG hq um hx2,hs]at hH;have hB:=Bx.new 79 ↑m w;have aV:=Ev.alloc w (.cells ↑m 79);have fM:=h.ms;have qg:=h.kid;rw[hq]at fM qg;have hkn:m.kids.length=q.length+1:=by rw[hq];rfl
 have hcl:=fM.le;have hcm:=fM.max;obtain⟨b,off,hA,hb,_⟩:=Ms.cell fM (i:=0) (x:=x) rfl;simp only[awR]at fM hcl;rw[hkn,hA]at hB hH;rw[hkn]at aV|-;rw[hA]at aV fM|-;rw[um]at hB aV hH|-;have HH:=zq hH;have cu:=zq aV;have HB:=zq hB;obtain⟨⟨c0,c1,c2,c3,c4⟩,_⟩:=hB.five;obtain⟨kn,hk⟩:∃kn,kn=q.length:=⟨_,rfl⟩
 have mg:=zq hk;rw[<-hk]at HH cu HB c3 hcl|-;clear hH hB aV fM qg hkn hk h hq hA um hs;generalize m.s=ms at*;generalize m.n=mn at*;generalize m.cap=mc at*;generalize m.pos=mp at*;unfold dU at*;have hP:pFormOf 6 (q.map M.t)=((kn:Int)+1==2):=by show ((q.map M.t).length==1)=_;rw[awD,<-mg.out,axv,awO,awO];omega
 rw[hP];go_enter func78,ntmps78
 go_wp2_with (first
  | ((with_reducible refine(HH.out _ cu.out).mono ?_);rintro e w1 ⟨rfl,aN⟩;have E1:=zq (cu.out.trans aN);have F1:=zq aN;clear c0 c1 c2 c3 c4 aN;obtain⟨⟨c0,c1,c2,c3,c4⟩,_⟩:=(HB.out.ev F1.out).five))
 go_ret;exact⟨rfl,E1.out⟩
theorem xC(m:M)(b0:Nat)(w:ak)(h:Lies b0 [] w m)(hn:gq (Qq m.t)=0):
  Calls ax 78 #[.agg ↑m] w λe w'=>e=.returned (.bool false)/\Ev w w':=by
 have hH:=λw1 (hE:Ev w w1)=>kW m b0 w1 (h.ev hE);have hB:=Bx.new 79 ↑m w;have aV:=Ev.alloc w (.cells ↑m 79);generalize Qq m.t=s at*;have hcl:=h.ms.le;have hcm:=h.ms.max;have ahC:(s==gY)=false:=awy.2 λe=>by rw[e]at hn;exact absurd hn ai
 have aeS:(s==eP)=false:=awy.2 λe=>by rw[e]at hn;exact absurd hn ai
 have abV:(s==cZ)=false:=awy.2 λe=>by rw[e]at hn;exact absurd hn ai
 have akf:(s==iD)=false:=awy.2 λe=>by rw[e]at hn;exact absurd hn ai
 have ahD:(s==iM)=false:=awy.2 λe=>by rw[e]at hn;exact absurd hn ai
 have Zj:(s==dU)=false:=awy.2 λe=>by rw[e]at hn;exact absurd hn ai
 have ahE:(s==fB)=false:=awy.2 λe=>by rw[e]at hn;exact absurd hn ai
 unfold gY eP cZ iD iM dU fB at*;have HH:=zq hH;have cu:=zq aV;have HB:=zq hB;obtain⟨⟨c0,c1,c2,c3,c4⟩,_⟩:=hB.five;clear hH hB aV h hn;go_enter func78,ntmps78
 go_wp2_with (first
  | ((with_reducible refine(HH.out _ cu.out).mono ?_);rintro e w1 ⟨rfl,aN⟩;have E1:=zq (cu.out.trans aN);have F1:=zq aN;clear c0 c1 c2 c3 c4 aN;obtain⟨⟨c0,c1,c2,c3,c4⟩,_⟩:=(HB.out.ev F1.out).five))
 go_ret;exact⟨rfl,E1.out⟩
theorem alC(y:M):fC y.t=(y.kind==1&&(y.kids.length==2&&dB (at_ (y.kids.map M.t) 0))):=by unfold fC;rw[M.xI,M.bD,awD,Bool.and_assoc]
theorem azx(h:U:=by
 go_enter func78,ntmps78
 go_wp2_with (first
  | ((with_reducible refine(HH.out _ cu.out).mono ?_);rintro e w1 ⟨rfl,aN⟩;have E1:=zq (cu.out.trans aN);have F1:=zq aN;clear c0 c1 c2 c3 c4 aN;obtain⟨⟨c0,c1,c2,c3,c4⟩,_⟩:=(HB.out.ev F1.out).five))
 go_ret;exact⟨rfl,E1.out⟩):U:=h
theorem azo(h:U:=by rw[hP];have i1:((kn:Int)+1<3):=ae;exact azx):U:=h
theorem L8(m:M)(b0:Nat)(w:ak)(h:Lies b0 [] w m)(x:M)(q:List M)(hq:m.kids=x::q)(um:m.kind=1)(hx2:x.kind=2)(hs:x.s=cZ):
  Calls ax 78 #[.agg ↑m] w λe w'=>e=.returned (.bool (pFormOf 3 (q.map M.t)))/\Ev w w':=by
 have hH:=λw1 (hE:Ev w w1)=>kW m b0 w1 (h.ev hE);rw[uG hq um hx2,hs]at hH;have hB:=Bx.new 79 ↑m w;have aV:=Ev.alloc w (.cells ↑m 79);have fM:=h.ms;have qg:=h.kid;rw[hq]at fM qg;have hkn:m.kids.length=q.length+1:=by rw[hq];rfl
 have hcl:=fM.le;have hcm:=fM.max;obtain⟨b,off,hA,hb,_⟩:=Ms.cell fM (i:=0) (x:=x) rfl;simp only[awR]at fM hcl;rw[hkn,hA]at hB hH;rw[hkn]at aV|-;rw[hA]at aV fM|-;rw[um]at hB aV hH|-;have l9:=zq (λi y (hy:(x::q)[i]?=some y) w1 (hE:Ev w w1)=>Ms.rf (fM.ev hE) hy);have Gt:=zq (λy (hy:y∈q) w1 (hE:Ev w w1)=>(qg y (awK _ hy)).ev hE);have HH:=zq hH;have cu:=zq aV;have HB:=zq hB;obtain⟨⟨c0,c1,c2,c3,c4⟩,_⟩:=hB.five;obtain⟨kn,hk⟩:∃kn,kn=q.length:=⟨_,rfl⟩
 have mg:=zq hk;rw[<-hk]at HH cu HB c3 hcl|-;clear hH hB aV fM qg hkn hk h hq hA um hs;generalize m.s=ms at*;generalize m.n=mn at*;generalize m.cap=mc at*;generalize m.pos=mp at*;unfold cZ at*;by_cases hz:2<=kn
 ·obtain⟨k,rfl⟩:∃k,kn=k+1:=⟨kn-1,ae⟩
  have hP:pFormOf 3 (q.map M.t)=(q.take k).all λy=>fC y.t:=by show (decide (2<=(q.map M.t).length)&&((q.map M.t).take ((q.map M.t).length-1)).all fC)=_;rw[awD,<-mg.out,aw5 ae,axB,axM,<-axy,axN];rfl
  rw[hP];have i1:¬((k:Int)+1+1<3):=ae;have qX:=zq (show (q.take k).length=k by rw[axa,<-mg.out];omega);clear hP;go_enter func78,ntmps78
  go_wp2_with (first
   | ((with_reducible refine(HH.out _ cu.out).mono ?_);rintro e w1 ⟨rfl,aN⟩;have E1:=zq (cu.out.trans aN);have F1:=zq aN;clear c0 c1 c2 c3 c4 aN;obtain⟨⟨c0,c1,c2,c3,c4⟩,_⟩:=(HB.out.ev F1.out).five))
  go_loopw [5] (λiv wr=>∃j:Nat,iv=.int .i64 ((j:Int)+1)/\j<=k/\Hid (((q.take k).take j).all (λy=>fC y.t)=true)/\Hid (Ev w1 wr)) (λiv _=>k+1-(intOf iv).toNat)
  case atStart=>exact⟨0,rfl,awJ _,zq aj,zq aK⟩
  case round=>
   obtain⟨j,rfl,hj,HT,kU⟩:=hrel;by_cases hlt:j<k
   ·obtain⟨y,hy⟩:∃y,q[j]?=some y:=⟨_,awX (by rw[<-mg.out];omega)⟩
    have hyt:(q.take k)[j]?=some y:=by rw[List.getElem?_take_of_lt hlt];exact hy
    have Vh:=zq hyt;have WN:=awG hy;have HYL:=zq (Gt.out y WN);obtain⟨d0,d1,d2,d3,d4⟩:=l9.out (j+1) y hy _ (E1.out.trans kU.out);have i2:(0:Int)<=(j:Int)+1:=ae;have i3:(j:Int)+1<(k:Int)+1+1:=ae;have i4:(j:Int)+1<(k:Int)+1:=ae;have alD:=alC y;have HCM:=zq alD;clear hyt hy WN alD;by_cases hyk:y.kind=1
    ·rw[hyk]at d0 HCM;by_cases yF:y.kids.length=2
     ·rw[yF]at d3 HCM;obtain⟨z0,z1,hz2⟩:∃z0 z1,y.kids=[z0,z1]:=by
       match hh:y.kids,yF with
       | [z0,z1],_=>exact⟨z0,z1,rfl⟩
      have hzs:=(HYL.out _ (E1.out.trans kU.out)).ms;have hzc:=hzs.le;rw[hz2]at hzs hzc;simp only[awR,axw,aw3,Nat.reduceAdd]at hzs hzc;obtain⟨bz,auF,hzA,hbz,z0_,_⟩:=Ms.cell hzs (i:=0) (x:=z0) rfl;simp only[axi,aw2]at z0_;rw[hzA]at d3;have FN:Hid (fC y.t=(z0.kind==2)):=zq (by rw[HCM.out,hz2];simp[at_,lV]);by_cases IK:z0.kind=2
      ·rw[IK]at z0_ FN;go_wp2;go_roundw
       case rel=>exact⟨j+1,by go_num,ae,zq (by rw[tu HT.out Vh.out,FN.out];rfl),kU⟩
       case measure=>simp[intOf];omega
      go_wp2;go_ret;exact⟨by rw[all_false Vh.out (by rw[FN.out];exact awy.2 IK)];rfl,E1.out.trans kU.out⟩
     have auG:((y.kids.length:Int)==2)=false:=by rw[awy];omega
     have FN:Hid (fC y.t=false):=zq (by rw[HCM.out];simp[yF]);go_wp2;go_ret;exact⟨by rw[all_false Vh.out FN.out];rfl,E1.out.trans kU.out⟩
    have FN:Hid (fC y.t=false):=zq (by rw[HCM.out];simp[hyk]);go_wp2;go_ret;exact⟨by rw[all_false Vh.out FN.out];rfl,E1.out.trans kU.out⟩
   obtain rfl:j=k:=ae;have HA:Hid ((q.take j).all (λy=>fC y.t)=true):=zq (by have:=HT.out;rwa [awS (by rw[qX.out];exact awC _)]at this);have i4:¬((j:Int)+1<(j:Int)+1):=ae;go_wp2;go_ret;exact⟨by rw[HA.out];rfl,E1.out.trans kU.out⟩
 have hP:pFormOf 3 (q.map M.t)=false:=by show (decide (2<=(q.map M.t).length)&&((q.map M.t).take ((q.map M.t).length-1)).all fC)=_;rw[awD,<-mg.out,axf hz,axp]
 exact azo
theorem Yu(y:M):dP y.t=(y.kind==1&&(y.kids.map M.t).all dB):=by unfold dP;rw[M.xI,M.bD]
theorem alF(y:M):eF y.t=(dP y.t&&(y.kids.length==2||y.kids.length==3)):=by unfold eF;rw[M.bD,awD]
theorem alG(w:ak)(c0 c1 c2 c3 c4:au):∃w0,w.alloc (.cells #[c0,c1,c2,c3,c4] 79)=w0/\Ev w w0/\Bx 79 w.heap.size #[c0,c1,c2,c3,c4] w0:=⟨_,rfl,Ev.alloc _ _,Bx.new _ _ _⟩
theorem aze(h:U:=by
 have hyb:(y.kind==1)=false:=awy.2 hy;rw[hyb,axp,axp];go_enter func78,ntmps78
 go_wp2_with (first
  | ((with_reducible refine(HH.out _ cu.out).mono ?_);rintro e w1 ⟨rfl,aN⟩;have E1:=zq (cu.out.trans aN);have F1:=zq aN;clear c0 c1 c2 c3 c4 aN;obtain⟨⟨c0,c1,c2,c3,c4⟩,_⟩:=(HB.out.ev F1.out).five;obtain⟨d0,d1,d2,d3,d4⟩:=N7.out _ E1.out))
 go_ret;exact⟨rfl,E1.out⟩):U:=h
theorem UE(m:M)(b0:Nat)(w:ak)(h:Lies b0 [] w m)(x:M)(q:List M)(hq:m.kids=x::q)(um:m.kind=1)(hx2:x.kind=2)(hs:x.s=iD):
  Calls ax 78 #[.agg ↑m] w λe w'=>e=.returned (.bool (pFormOf 4 (q.map M.t)))/\Ev w w':=by
 have hH:=λw1 (hE:Ev w w1)=>kW m b0 w1 (h.ev hE);rw[uG hq um hx2,hs]at hH;have hB:=Bx.new 79 ↑m w;have aV:=Ev.alloc w (.cells ↑m 79);have fM:=h.ms;have qg:=h.kid;rw[hq]at fM qg;have hkn:m.kids.length=q.length+1:=by rw[hq];rfl
 have hcl:=fM.le;have hcm:=fM.max;obtain⟨b,off,hA,hb,_⟩:=Ms.cell fM (i:=0) (x:=x) rfl;simp only[awR]at fM hcl;rw[hkn,hA]at hB hH;rw[hkn]at aV|-;rw[hA]at aV fM|-;rw[um]at hB aV hH|-;have l9:=zq (λi y (hy:(x::q)[i]?=some y) w1 (hE:Ev w w1)=>Ms.rf (fM.ev hE) hy);have Gt:=zq (λy (hy:y∈q) w1 (hE:Ev w w1)=>(qg y (awK _ hy)).ev hE);have HH:=zq hH;have cu:=zq aV;have HB:=zq hB;obtain⟨⟨c0,c1,c2,c3,c4⟩,_⟩:=hB.five;obtain⟨kn,hk⟩:∃kn,kn=q.length:=⟨_,rfl⟩
 have mg:=zq hk;rw[<-hk]at HH cu HB c3 hcl|-;clear hH hB aV fM qg hkn hk h hq hA um hs;generalize m.s=ms at*;generalize m.n=mn at*;generalize m.cap=mc at*;generalize m.pos=mp at*;unfold iD at*;by_cases hz:kn=4
 ·subst hz;obtain⟨y,z,u,v,hq⟩:∃y z u v,q=[y,z,u,v]:=by
   match q,mg with
   | [y,z,u,v],_=>exact⟨y,z,u,v,rfl⟩
   | [],H=>exact absurd H.out aj
   | [_],H=>exact absurd H.out aj
   | [_,_],H=>exact absurd H.out aj
   | [_,_,_],H=>exact absurd H.out aj
   | _::_::_::_::_::r,H=>exact absurd H.out aj
  subst hq;have hP:pFormOf 4 ([y,z,u,v].map M.t)=(dP y.t&&dP z.t):=by show (true&&([y.t,z.t].all dP))=_;simp
  rw[hP,Yu,Yu];have HAY:=zq (λw1 (hE:Ev w w1)=>Et w1 ((Gt.out y aj w1 hE).ms));have HAZ:=zq (λw1 (hE:Ev w w1)=>Et w1 ((Gt.out z aj w1 hE).ms));generalize (y.kids.map M.t).all dB=qa at*;generalize (z.kids.map M.t).all dB=qb at*;have N7:=zq (λw1 (hE:Ev w w1)=>l9.out 1 y rfl w1 hE);have FN:=zq (λw1 (hE:Ev w w1)=>l9.out 2 z rfl w1 hE);simp only[axK]at N7;clear hP;by_cases hy:y.kind=1
  ·rw[hy]at N7|-;by_cases hz1:z.kind=1
   ·rw[hz1]at FN|-
    cases qa
    ·simp only[axe,axB,axp,Bool.and_false];go_enter func78,ntmps78
     go_wp2_with (first
      | ((with_reducible refine(HAY.out _ E1.out).mono ?_);rintro e w2 ⟨rfl,bM⟩;have E2:=zq (E1.out.trans bM))
      | ((with_reducible refine(HH.out _ cu.out).mono ?_);rintro e w1 ⟨rfl,aN⟩;have E1:=zq (cu.out.trans aN);have F1:=zq aN;clear c0 c1 c2 c3 c4 aN;obtain⟨⟨c0,c1,c2,c3,c4⟩,_⟩:=(HB.out.ev F1.out).five;obtain⟨d0,d1,d2,d3,d4⟩:=N7.out _ E1.out;obtain⟨e0,e1,e2,e3,e4⟩:=FN.out _ E1.out))
     go_ret;exact⟨rfl,E2.out⟩
    simp only[axe,axB];go_enter func78,ntmps78
    go_wp2_with (first
     | ((with_reducible refine(HAY.out _ E1.out).mono ?_);rintro e w2 ⟨rfl,bM⟩;have E2:=zq (E1.out.trans bM);clear d0 d1 d2 d3 d4 e0 e1 e2 e3 e4;obtain⟨d0,d1,d2,d3,d4⟩:=N7.out _ E2.out;obtain⟨e0,e1,e2,e3,e4⟩:=FN.out _ E2.out;clear c0 c1 c2 c3 c4;obtain⟨⟨c0,c1,c2,c3,c4⟩,_⟩:=((HB.out.ev F1.out).ev bM).five)
     | ((with_reducible refine(HAZ.out _ E2.out).mono ?_);rintro e w3 ⟨rfl,dV⟩;have E3:=zq (E2.out.trans dV))
     | ((with_reducible refine(HH.out _ cu.out).mono ?_);rintro e w1 ⟨rfl,aN⟩;have E1:=zq (cu.out.trans aN);have F1:=zq aN;clear c0 c1 c2 c3 c4 aN;obtain⟨⟨c0,c1,c2,c3,c4⟩,_⟩:=(HB.out.ev F1.out).five;obtain⟨d0,d1,d2,d3,d4⟩:=N7.out _ E1.out;obtain⟨e0,e1,e2,e3,e4⟩:=FN.out _ E1.out))
    go_ret;exact⟨rfl,E3.out⟩
   have hzb:(z.kind==1)=false:=awy.2 hz1;rw[hzb,axp,Bool.and_false];go_enter func78,ntmps78
   go_wp2_with (first
    | ((with_reducible refine(HH.out _ cu.out).mono ?_);rintro e w1 ⟨rfl,aN⟩;have E1:=zq (cu.out.trans aN);have F1:=zq aN;clear c0 c1 c2 c3 c4 aN;obtain⟨⟨c0,c1,c2,c3,c4⟩,_⟩:=(HB.out.ev F1.out).five;obtain⟨d0,d1,d2,d3,d4⟩:=N7.out _ E1.out;obtain⟨e0,e1,e2,e3,e4⟩:=FN.out _ E1.out))
   go_ret;exact⟨rfl,E1.out⟩
  exact aze
 have hP:pFormOf 4 (q.map M.t)=false:=by show ((q.map M.t).length==4&&((q.map M.t).take 2).all dP)=_;rw[awD,<-mg.out,show (kn==4)=false from awy.2 hz,axp]
 rw[hP];have i1:((kn:Int)+1==5)=false:=by rw[awy];omega
 exact azx
theorem azn(h:U:=by
 go_wp2_with (first
  | ((with_reducible refine(HAZ.out _ E3.out).mono ?_);rintro e w4 ⟨rfl,fG⟩;have E4:=zq (E3.out.trans fG);clear e0 e1 e2 e3 e4;obtain⟨⟨e0,e1,e2,e3,e4⟩,_⟩:=(EP.out.ev fG).five))
 go_roundw
 case rel=>exact⟨j+1,by go_num,ae,zq (by rw[tu HT.out HZT.out,Ye.out]),E4⟩
 case measure=>simp[intOf];omega):U:=h
theorem Q9(m:M)(b0:Nat)(w:ak)(h:Lies b0 [] w m)(x:M)(q:List M)(hq:m.kids=x::q)(um:m.kind=1)(hx2:x.kind=2)(hs:x.s=fB):
  Calls ax 78 #[.agg ↑m] w λe w'=>e=.returned (.bool (pFormOf 7 (q.map M.t)))/\Ev w w':=by
 have hH:=λw1 (hE:Ev w w1)=>kW m b0 w1 (h.ev hE);rw[uG hq um hx2,hs]at hH;have hB:=Bx.new 79 ↑m w;have aV:=Ev.alloc w (.cells ↑m 79);have fM:=h.ms;have qg:=h.kid;rw[hq]at fM qg;have hkn:m.kids.length=q.length+1:=by rw[hq];rfl
 have hcl:=fM.le;have hcm:=fM.max;obtain⟨b,off,hA,hb,_⟩:=Ms.cell fM (i:=0) (x:=x) rfl;simp only[awR]at fM hcl;rw[hkn,hA]at hB hH;rw[hkn]at aV|-;rw[hA]at aV fM|-;rw[um]at hB aV hH|-;have l9:=zq (λi y (hy:(x::q)[i]?=some y) w1 (hE:Ev w w1)=>Ms.rf (fM.ev hE) hy);have Gt:=zq (λy (hy:y∈q) w1 (hE:Ev w w1)=>(qg y (awK _ hy)).ev hE);have HH:=zq hH;have cu:=zq aV;have HB:=zq hB;obtain⟨⟨c0,c1,c2,c3,c4⟩,_⟩:=hB.five;obtain⟨kn,hk⟩:∃kn,kn=q.length:=⟨_,rfl⟩
 have mg:=zq hk;rw[<-hk]at HH cu HB c3 hcl|-;clear hH hB aV fM qg hkn hk h hq hA um hs;generalize m.s=ms at*;generalize m.n=mn at*;generalize m.cap=mc at*;generalize m.pos=mp at*;unfold fB at*;by_cases hz:2<=kn
 ·obtain⟨y,r,hq⟩:∃y r,q=y::r:=by
   cases q with
   | nil=>have:=mg.out;simp at this;omega
   | cons y r=>exact⟨y,r,rfl⟩
  subst hq;obtain⟨k,rfl⟩:∃k,kn=k+2:=⟨kn-2,ae⟩
  have hrl:r.length=k+1:=by have:=mg.out;simp at this;omega
  have hP:pFormOf 7 ((y::r).map M.t)=(dP y.t&&(r.take k).all λz=>eF z.t):=by show (decide (2<=((y::r).map M.t).length)&&dP y.t&&((((y::r).map M.t).take (((y::r).map M.t).length-1)).drop 1).all eF)=_;rw[awD,awR,hrl,aw5 ae,axB,axM,<-axy,axz,awI,axb,axE,axN];rfl
  rw[hP,Yu];have HAY:=zq (λw1 (hE:Ev w w1)=>Et w1 ((Gt.out y aj w1 hE).ms));generalize (y.kids.map M.t).all dB=qa at*;have N7:=zq (λw1 (hE:Ev w w1)=>l9.out 1 y rfl w1 hE);simp only[axK]at N7;have i1:¬((k:Int)+2+1<3):=ae;have qX:=zq (show (r.take k).length=k by rw[axa,hrl];omega);have HRL:=zq hrl;clear hP hrl;by_cases hy:y.kind=1
  ·rw[hy]at N7|-
   cases qa
   ·simp only[axe,axB,axp];go_enter func78,ntmps78
    go_wp2_with (first
     | ((with_reducible refine(HAY.out _ E1.out).mono ?_);rintro e w2 ⟨rfl,bM⟩;have E2:=zq (E1.out.trans bM))
     | ((with_reducible refine(HH.out _ cu.out).mono ?_);rintro e w1 ⟨rfl,aN⟩;have E1:=zq (cu.out.trans aN);have F1:=zq aN;clear c0 c1 c2 c3 c4 aN;obtain⟨⟨c0,c1,c2,c3,c4⟩,_⟩:=(HB.out.ev F1.out).five;obtain⟨d0,d1,d2,d3,d4⟩:=N7.out _ E1.out))
    go_ret;exact⟨rfl,E2.out⟩
   simp only[axe,axB];go_enter func78,ntmps78
   go_wp2_with (first
    | ((with_reducible refine(HAY.out _ E1.out).mono ?_);rintro e w2 ⟨rfl,bM⟩;have E2:=zq (E1.out.trans bM);clear d0 d1 d2 d3 d4)
    | ((with_reducible refine(HH.out _ cu.out).mono ?_);rintro e w1 ⟨rfl,aN⟩;have E1:=zq (cu.out.trans aN);have F1:=zq aN;clear c0 c1 c2 c3 c4 aN;obtain⟨⟨c0,c1,c2,c3,c4⟩,_⟩:=(HB.out.ev F1.out).five;obtain⟨d0,d1,d2,d3,d4⟩:=N7.out _ E1.out))
   go_loopw [6] (λiv wr=>∃j:Nat,iv=.int .i64 ((j:Int)+2)/\j<=k/\Hid (((r.take k).take j).all (λz=>eF z.t)=true)/\Hid (Ev w wr)) (λiv _=>k+2-(intOf iv).toNat)
   case atStart=>exact⟨0,rfl,awJ _,zq aj,E2⟩
   case round=>
    obtain⟨j,rfl,hj,HT,kU⟩:=hrel;by_cases hlt:j<k
    ·obtain⟨z,hz2⟩:∃z,r[j]?=some z:=⟨_,awX (by rw[HRL.out];omega)⟩
     have HZT:=zq (show (r.take k)[j]?=some z by rw[List.getElem?_take_of_lt hlt];exact hz2);have hzm:z∈y::r:=awK _ (awG hz2);obtain⟨d0,d1,d2,d3,d4⟩:=l9.out (j+2) z hz2 _ kU.out;have HAZ:=zq (λw1 (hE:Ev w w1)=>Et w1 ((Gt.out z hzm w1 hE).ms));have HNM:=zq (Yu z);generalize (z.kids.map M.t).all dB=qb at*;have HAM:=zq (alF z);have i2:(0:Int)<=(j:Int)+2:=ae;have i3:(j:Int)+2<(k:Int)+2+1:=ae;have i4:(j:Int)+2<(k:Int)+2:=ae;generalize hzl:z.kids.length=zl at*;clear hzl;obtain⟨w3,hw3,dV,qU⟩:=alG wr ↑z.kind ↑z.s ↑z.n (.slice z.A zl z.cap) ↑z.pos;have E3:=zq (kU.out.trans dV);have EP:=zq qU;obtain⟨⟨e0,e1,e2,e3,e4⟩,_⟩:=qU.five;clear hz2 hzm dV qU;by_cases IK:z.kind=1
     ·have HZK:=zq IK;rw[IK]at e0;clear IK
      cases qb
      ·have HCF:Hid (eF z.t=false):=zq (by rw[HAM.out,HNM.out,Bool.and_false,axp])
       go_wp2_with (first
        | ((with_reducible refine(HAZ.out _ E3.out).mono ?_);rintro e w4 ⟨rfl,fG⟩;have E4:=zq (E3.out.trans fG)))
       go_ret;exact⟨by rw[all_false HZT.out HCF.out];rfl,E4.out⟩
      have HNT:Hid (dP z.t=true):=zq (by rw[HNM.out,HZK.out];rfl);by_cases h2:zl=2;subst h2;have Ye:Hid (eF z.t=true):=zq (by rw[HAM.out,HNT.out];rfl);exact azn;have h2b:((zl:Int)==2)=false:=by rw[awy];omega
      by_cases h3:zl=3;subst h3;have Ye:Hid (eF z.t=true):=zq (by rw[HAM.out,HNT.out];rfl);clear h2b;exact azn;have h3b:((zl:Int)==3)=false:=by rw[awy];omega
      have h3c:((zl:Int) !=3)=true:=by rw[axI];omega
      have h2c:((zl:Int) !=2)=true:=by rw[axI];omega
      have HCF:Hid (eF z.t=false):=zq (by rw[HAM.out];simp[h2,h3])
      go_wp2_with (first
       | ((with_reducible refine(HAZ.out _ E3.out).mono ?_);rintro e w4 ⟨rfl,fG⟩;have E4:=zq (E3.out.trans fG);clear e0 e1 e2 e3 e4;obtain⟨⟨e0,e1,e2,e3,e4⟩,_⟩:=(EP.out.ev fG).five))
      go_ret;exact⟨by rw[all_false HZT.out HCF.out];rfl,E4.out⟩
     have HCF:Hid (eF z.t=false):=zq (by rw[HAM.out,HNM.out];simp[IK]);go_wp2;go_ret;exact⟨by rw[all_false HZT.out HCF.out];rfl,E3.out⟩
    obtain rfl:j=k:=ae;have HA:Hid ((r.take j).all (λz=>eF z.t)=true):=zq (by have:=HT.out;rwa [awS (by rw[qX.out];exact awC _)]at this);have i4:¬((j:Int)+2<(j:Int)+2):=ae;go_wp2;go_ret;exact⟨by rw[HA.out];rfl,kU.out⟩
  exact aze
 have hP:pFormOf 7 (q.map M.t)=false:=by show (decide (2<=(q.map M.t).length)&&dP (at_ (q.map M.t) 0)&&(((q.map M.t).take ((q.map M.t).length-1)).drop 1).all eF)=_;rw[awD,<-mg.out,axf hz,axp,axp]
 exact azo
theorem uH(m:M)(b0:Nat)(w:ak)(h:Lies b0 [] w m):
  Calls ax 78 #[.agg ↑m] w λe w'=>e=.returned (.bool (gu m.t))/\Ev w w':=by
 by_cases hk:m.kind=1
 ·cases hq:m.kids with
  | nil=>
   have h0:Qq m.t=[]:=by rw[Gw,hq];simp
   rw[GV (.inl h0)];have:=xC m b0 w h (by rw[h0];rfl);rwa [hq]at this
  | cons x q=>
   have hl:m.kids.length=(x::q).length:=by rw[hq]
   rw[<-hl];by_cases hx:x.kind=2
   ·rw[Pe hq hk hx];rcases Am x.s with⟨h1,h2⟩|⟨h1,h2⟩|⟨h1,h2⟩|⟨h1,h2⟩|⟨h1,h2⟩|⟨h1,h2⟩|⟨h1,h2⟩|h1<;>rw[h1];exact QZ m b0 w h x q hq hk hx h2;exact NZ m b0 w h x q hq hk hx h2;exact L8 m b0 w h x q hq hk hx h2;exact UE m b0 w h x q hq hk hx h2;exact Q8 m b0 w h x q hq hk hx h2;exact IQ m b0 w h x q hq hk hx h2;exact Q9 m b0 w h x q hq hk hx h2;exact xC m b0 w h (by rw[uG hq hk hx];exact h1)
   have h0:Qq m.t=[]:=by rw[Gw,hq];simp[at_,lV,hx]
   rw[GV (.inl h0)];exact xC m b0 w h (by rw[h0];rfl)
 have h0:Qq m.t=[]:=by rw[Gw];simp[hk]
 rw[GV (.inl h0)];exact xC m b0 w h (by rw[h0];rfl)
def nV(t:T):abJ:=if (bF t).1=0 then (pPlan t,0,0) else (iC,(bF t).1,(bF t).2)
theorem mP(e:Er):fU (0,0) e=if e.1=0 then (0,0) else e:=by unfold fU;by_cases h:e.1=0<;>simp[h]
theorem AX(l:List Er)(h:(aU l).1=0):aU l=(0,0):=xu λe he=>(gU l).1 h e he
def rY(m:PM):Array au:=↑m
def PM.kG(m:PM)(A:Option Addr)(cap:Nat)(l:List PM):PM:=.mk m.kind m.name m.ex m.co m.lf m.rt m.ag A cap l
structure Q_(b0:Nat)(K:List Nat)(w:ak)(m:PM):Prop where
 ex:bI 4 ec b0 K w m.ex
 lx:∀e∈m.ex.l,Lx b0 K w e
 co:bI 1 sc b0 K w m.co
 lf:bI 1 sc b0 K w m.lf
 rt:bI 1 sc b0 K w m.rt
 ag:bI 3 ac b0 K w m.ag
theorem Q_.move{b0:Nat}{K K':List Nat}{w w':ak}{m:PM}(h:Q_ b0 K w m)(hb:But K w w')(hs:∀x∈K',x∈K∨x<b0∨w.heap.size<=x):Q_ b0 K' w' m:=
 ⟨h.ex.move hb hs,λe he=>(h.lx e he).move hb hs,h.co.move hb hs,h.lf.move hb hs,h.rt.move hb hs,h.ag.move hb hs⟩
theorem Q_.ev{b0:Nat}{K:List Nat}{w w':ak}{m:PM}(h:Q_ b0 K w m)(hE:Ev w w'):Q_ b0 K w' m:=h.move (But.aW hE) λ_ hx=>.inl hx
structure tZ(w1:ak)(gp:Nat)(p:PM)(w:ak):Prop where
 box:Bx 32 gp (rY p) w
 own:Ow 32 8 pc (gp+1) w (.slice p.A p.kids.length p.cap) p.kids
 hd:Q_ (gp+1) (foot (.slice p.A p.kids.length p.cap)) w p
 kids:∀k∈p.kids,Qx (gp+1) (foot (.slice p.A p.kids.length p.cap)) w k
 ev:Ev w1 w
 Hl:w1.heap.size<=gp
theorem tZ.up{w1 w w':ak}{gp:Nat}{p:PM}(h:tZ w1 gp p w)(hE:Ev w w'):tZ w1 gp p w':=
 ⟨h.box.ev hE,h.own.ev hE,h.hd.ev hE,λk hk=>(h.kids k hk).ev hE,h.ev.trans hE,h.Hl⟩
theorem tZ.next{w1 wq w2:ak}{gp:Nat}{p x:PM}{bx:Nat}{v2:au}(h:tZ w1 gp p wq)(hx:Qx bx [] wq x)(D_:gp<bx)(hk:∀k∈foot (.slice p.A p.kids.length p.cap),k<bx)(hA:mf 32 8 pc (gp+1) wq (.slice p.A p.kids.length p.cap) (p.kids++[x]) v2 w2):
  ∃A2 cap2,v2=.slice A2 (p.kids.length+1) cap2/\tZ w1 gp (p.kG A2 cap2 (p.kids++[x])) (w2.setCell ⟨gp,7,none⟩ v2):=by
 obtain⟨ho,hb,hs⟩:=hA;obtain⟨A2,cap2,rfl,qL,xJ⟩:=ho.form sZ;have hl:(p.kids++[x]).length=p.kids.length+1:=by rw[awE];rfl
 have Ny:=h.box.lt;have hK:gp∉foot (.slice p.A p.kids.length p.cap):=λhm=>by have:=(h.own.lt (aG.1 hm)).1;omega
 have hB2:=(h.box).but hb hK;have Iy:But [gp] w2 (w2.setCell ⟨gp,7,none⟩ (.slice A2 (p.kids++[x]).length cap2)):=But.setCell _ _ aj;have hf2:∀k∈foot (.slice A2 (p.kids++[x]).length cap2),k∈foot (.slice p.A p.kids.length p.cap)∨k<gp+1∨wq.heap.size<=k:=λk hk=>by exact aB_
 have hst:∀k∈gp::foot (.slice A2 (p.kids++[x]).length cap2),k∈foot (.slice A2 (p.kids++[x]).length cap2)∨k<gp+1∨w2.heap.size<=k:=λk hk=>by exact aCi
 have afA:But (gp::foot (.slice A2 (p.kids++[x]).length cap2)) w2 (w2.setCell ⟨gp,7,none⟩ (.slice A2 (p.kids++[x]).length cap2)):=Iy.wide λk hk=>by simp at hk;subst hk;exact .inl aj
 have hin:∀k∈foot (.slice A2 (p.kids++[x]).length cap2),k∈gp::foot (.slice A2 (p.kids++[x]).length cap2)∨k<gp+1∨w2.heap.size<=k:=λk hk=>.inl (awK _ hk);refine⟨A2,cap2,by rw[hl],?_⟩;refine⟨?_,?_,?_,λy hy=>?_,?_,h.Hl⟩;have:=hB2.set 7 (.slice A2 (p.kids++[x]).length cap2);simpa[rY,PM.kG,PM.kind,PM.name,PM.ex,PM.co,PM.lf,PM.rt,PM.ag,PM.A,PM.cap,PM.kids] using this;exact ho.but Iy λg hg=>by have:=(ho.lt hg).1;simp;omega
 have h1:Q_ (gp+1) (foot (.slice A2 (p.kids++[x]).length cap2)) w2 p:=h.hd.move hb hf2;have h2:=(h1.move (But.refl _ _) hst).move afA hin;exact⟨h2.ex,h2.lx,h2.co,h2.lf,h2.rt,h2.ag⟩;have hy1:Qx (gp+1) (foot (.slice p.A p.kids.length p.cap)) wq y:=by rcases awV.1 hy with h1|h1;exact h.kids y h1;simp at h1;subst h1;exact(hx.less λk hk2=>.inr (.inl (hk k hk2))).low ae
 exact(((hy1.move hb hf2).move (But.refl _ _) hst).move afA hin);have h1:Ev w1 w2:=((But.aW h.ev).then hb).ev λk hk=>by have:=(h.own.lt (aG.1 hk)).1;have:=h.Hl;omega
 exact h1.box Iy h.Hl
theorem tZ.after{w1 wq w2:ak}{gp:Nat}{p:PM}{v2:au}{L:List PM}(h:tZ w1 gp p wq)(hA:mf 32 8 pc (gp+1) wq (.slice p.A p.kids.length p.cap) L v2 w2):Bx 32 gp (rY p) w2:=
 h.box.but hA.2.1 λhm=>by have:=(h.own.lt (aG.1 hm)).1;omega
theorem tZ.done{w1 w:ak}{gp:Nat}{p:PM}(h:tZ w1 gp p w):Qx (gp+1) [] w p:=by
 obtain⟨A2,cap2,hv,qL,xJ⟩:=h.own.form sZ;injection hv with h1 h2 h3
 have hH:=h.hd.move (K':=[]) (But.aW (Ev.refl w)) λk hk=>by cases hk
 have hQ:∀k∈p.kids,Qx (gp+1) [] w k:=λk hk=>(h.kids k hk).less λx hx=>by cases hx
 have FW:bI 8 pc (gp+1) [] w ⟨p.A,p.cap,p.kids⟩:=⟨by rw[h1,h3];exact qL,λad e=>by rw[h1]at e;exact⟨(xJ ad e).2.1,(xJ ad e).2.2.1,aj⟩⟩
 cases p
 exact .mk hH.ex hH.lx hH.co hH.lf hH.rt hH.ag FW hQ
theorem tZ.init(w1 w:ak)(gp:Nat)(k:Int)(hB:Bx 32 gp (rY (.mk k [] .nil .nil .nil .nil .nil none 0 [])) w)(hE:Ev w1 w)(hg:w1.heap.size<=gp):tZ w1 gp (.mk k [] .nil .nil .nil .nil .nil none 0 []) w:=
 ⟨hB,Ow.nil_ _,⟨bI.nil ..,(λe he=>by cases he),bI.nil ..,bI.nil ..,bI.nil ..,bI.nil ..⟩,(λk hk=>by cases hk),hE,hg⟩
theorem EZ(w:ak)(c0 c1 c2 c3 c4:au):∃w0,(w.alloc (.cells #[c0,c1,c2,c3,c4] 79)).alloc (.cells ↑Zz.b 32)=w0/\Ev w w0/\Bx 79 w.heap.size #[c0,c1,c2,c3,c4] w0/\Bx 32 (w.heap.size+1) ↑Zz.b w0:=by have hB:=Bx.new 32 ↑Zz.b (w.alloc (.cells #[c0,c1,c2,c3,c4] 79));rw[show (w.alloc (.cells #[c0,c1,c2,c3,c4] 79)).heap.size=w.heap.size+1 by simp]at hB;exact⟨_,rfl,(Ev.alloc w _).trans aB,(Bx.new 79 #[c0,c1,c2,c3,c4] w).ev aB,hB⟩
theorem aab{t:T}(h:gu t=false):bF t=(12,t.pos):=by
 cases t
 rw[bF,h];rfl
theorem ac'{t:T}(h:gu t=false):nV t=(iC,12,t.pos):=by unfold nV;rw[aab h];rfl
theorem lZ{w w1:ak}{g:Nat}{c0 c1 c2 c3 c4 c5 c6 c7:au}(hg:w.heap.size<=g)(hE:Ev w w1)(hB:Bx 32 g #[c0,c1,c2,c3,c4,c5,c6,c7] w1)(v0 v1 v2 v3 v4 v5 v6 v7:au):Bx 32 g #[v0,v1,v2,v3,v4,v5,v6,v7] (iP g v0 v1 v2 v3 v4 v5 v6 v7 w1)/\Ev w (iP g v0 v1 v2 v3 v4 v5 v6 v7 w1):=⟨hB.iP _ _ _ _ _ _ _ _,hE.box (dw _ _ _ _ _ _ _ _ _ _) hg⟩
structure tV(ql:List M)(e0:Er)(p0:PM)(j:Nat)(p:PM)(e:Er):Prop where
 same:p=p0.kG p.A p.cap p.kids
 len:p.kids.length<=j
 ok:e.1=0->e=(0,0)/\e0=(0,0)/\(∀y∈ql.take j,(bF y.t).1=0)/\p.kids.map PM.p=(ql.take j).map λy=>pPlan y.t
 bad:e.1≠0->fU e0 (aU (ql.map λy=>bF y.t))=e
theorem tV.next{ql:List M}{e0:Er}{p0 p x:PM}{j:Nat}{A2:Option Addr}{cap2:Nat}{y:M}(h:tV ql e0 p0 j p (0,0))(hy:ql[j]?=some y)(hx:x.p=(nV y.t).1):tV ql e0 p0 (j+1) (p.kG A2 cap2 (p.kids++[x])) (nV y.t).2:=by
 obtain⟨_,h2,h3,h4⟩:=h.ok rfl;obtain⟨hk,e1⟩:=awz.1 hy;have oO:ql.take (j+1)=ql.take j++[y]:=by rw[awH hk,e1]
 refine⟨?_,?_,λhe=>?_,λhe=>?_⟩;rw[h.same];rfl;show (p.kids++[x]).length<=j+1;have:=h.len;simp;omega;have hz:(bF y.t).1=0:=by unfold nV at he;by_cases hz:(bF y.t).1=0;exact hz;rw[if_neg hz]at he;exact he
 refine⟨by unfold nV;rw[if_pos hz],h2,λz hz2=>?_,?_⟩;rw[oO]at hz2;rcases awV.1 hz2 with h5|h5;exact h3 z h5;simp at h5;rw[h5];exact hz;show (p.kids++[x]).map PM.p=_;rw[oO,awM,awM,h4,awI,awY,hx];unfold nV;rw[if_pos hz];rfl;have hz:(bF y.t).1≠0:=λhz=>he (by unfold nV;rw[if_pos hz]);have h5:(nV y.t).2=bF y.t:=by unfold nV;rw[if_neg hz]
 rw[h5,h2,vK (k:=j) (e:=bF y.t) (λx hx=>?_) (by rw[axh,hy];rfl) hz,mP,if_neg hz];rw[<-axy]at hx;obtain⟨z,hz2,rfl⟩:=aw6.1 hx;exact h3 z hz2
theorem tV.vX{ql:List M}{e0 e:Er}{p0 p:PM}{t:T}(h:tV ql e0 p0 ql.length p e)(he:e.1=0)(vO:bF t=fU e0 (aU (ql.map λy=>bF y.t)))
  (hPP:(bF t).1=0->pPlan t=.mk p0.kind p0.name (p0.ex.l.map M.t) p0.co.l p0.lf.l p0.rt.l p0.ag.l (ql.map λy=>pPlan y.t)):nV t=(p.p,0,0):=by
 obtain⟨_,h2,h3,h4⟩:=h.ok he;rw[axk]at h3 h4;have hz:aU (ql.map λy=>bF y.t)=(0,0):=xu λx hx=>by obtain⟨y,hy,rfl⟩:=aw6.1 hx;exact h3 y hy
 rw[h2,hz]at vO;unfold nV;rw[vO,if_pos (by rfl),hPP (by rw[vO];rfl),PM.sW,h.same];show (Pl.mk p0.kind p0.name (p0.ex.l.map M.t) p0.co.l p0.lf.l p0.rt.l p0.ag.l _,_,_)=(Pl.mk p0.kind p0.name (p0.ex.l.map M.t) p0.co.l p0.lf.l p0.rt.l p0.ag.l (p.kids.map PM.p),_,_);rw[h4]
theorem tV.qG{ql:List M}{e0 e:Er}{p0 p:PM}{j:Nat}{t:T}(h:tV ql e0 p0 j p e)(he:e.1≠0)(vO:bF t=fU e0 (aU (ql.map λy=>bF y.t))):nV t=(iC,e.1,e.2):=by rw[h.bad he]at vO;unfold nV;rw[vO,if_neg he]
theorem tV.start(ql:List M)(e0:Er)(p0:PM)(hk:p0.kids=[])(hz:e0.1=0->e0=(0,0)):tV ql e0 p0 0 p0 e0:=
 ⟨by cases p0;rfl,by rw[hk];simp,λh=>⟨hz h,hz h,aj,by rw[hk];simp⟩,λh=>by unfold fU;simp[h]⟩
theorem xE(l:List Er):fU (0,0) (aU l)=aU l:=by rw[mP];split;rename_i h;exact(AX l h).symm;rfl
theorem qH{w w0 wz:ak}{g gp:Nat}{p:PM}{c0 c1 c2 c3 c4 c5 c6 c7:au}(hK:tZ w0 gp p wz)(hE:Ev w w0)(hg:w.heap.size<=g)(hgp:g<gp)(hB:Bx 32 g #[c0,c1,c2,c3,c4,c5,c6,c7] wz):
  Bx 32 g ↑p (iP g ↑p.kind ↑p.name (.slice p.ex.A p.ex.l.length p.ex.cap) (.slice p.co.A p.co.l.length p.co.cap) (.slice p.lf.A p.lf.l.length p.lf.cap) (.slice p.rt.A p.rt.l.length p.rt.cap) (.slice p.ag.A p.ag.l.length p.ag.cap) (.slice p.A p.kids.length p.cap) wz)/\Qx w.heap.size [] (iP g ↑p.kind ↑p.name (.slice p.ex.A p.ex.l.length p.ex.cap) (.slice p.co.A p.co.l.length p.co.cap) (.slice p.lf.A p.lf.l.length p.lf.cap) (.slice p.rt.A p.rt.l.length p.rt.cap) (.slice p.ag.A p.ag.l.length p.ag.cap) (.slice p.A p.kids.length p.cap) wz) p/\Ev w (iP g ↑p.kind ↑p.name (.slice p.ex.A p.ex.l.length p.ex.cap) (.slice p.co.A p.co.l.length p.co.cap) (.slice p.lf.A p.lf.l.length p.lf.cap) (.slice p.rt.A p.rt.l.length p.rt.cap) (.slice p.ag.A p.ag.l.length p.ag.cap) (.slice p.A p.kids.length p.cap) wz):=
 ⟨hB.iP _ _ _ _ _ _ _ _,(lW hK.done (dw _ _ _ _ _ _ _ _ _ _) (λk hk=>by simp at hk;omega)).low ae,(hE.trans hK.ev).box (dw _ _ _ _ _ _ _ _ _ _) hg⟩
theorem UF(m:M)(b0:Nat)(w:ak)(h:Lies b0 [] w m)(hf:gu m.t=false):
  Calls ax 39 #[.agg ↑m] w (bP (nV m.t) w):=by
 have ed:Tryz.prog.follows .mixedOrders=true:=ah;rw[ac' hf,M.G6];have CP:=zq (λw1 (hE:Ev w w1)=>uH m b0 w1 (h.ev hE));rw[hf]at CP;have hcl:=h.ms.le;have hcm:=h.ms.max;obtain⟨w0,hw0,aV,hT0,Lu⟩:=EZ w ↑m.kind ↑m.s ↑m.n (.slice m.A m.kids.length m.cap) ↑m.pos;have cu:=zq aV;have zL:=zq hT0;have HR0:=zq Lu;obtain⟨⟨c0,c1,c2,c3,c4⟩,_⟩:=hT0.five;unfold bP;clear h aV hT0 Lu hf;go_enter func39,ntmps39;go_upto_region 2 with (first
  | ((with_reducible refine(CP.out _ cu.out).mono ?_);rintro r w1 ⟨rfl,aN⟩;have E1:=zq (cu.out.trans aN);have gG:=zq (HR0.out.ev aN);have HT1:=zq (zL.out.ev aN);clear c0 c1 c2 c3 c4;obtain⟨⟨c0,c1,c2,c3,c4⟩,_⟩:=(zL.out.ev aN).five;obtain⟨⟨r0,r1,r2,r3,r4,r5,r6,r7⟩,s0,s1,s2,s3,s4,s5,s6,s7⟩:=gG.out.eight;clear aN))
 refine jD ed (λu=>But [w.heap.size+1] w1 u) (But [w.heap.size+1]) [3] (λ_ u=>Bx 32 (w.heap.size+1) ↑Zz.b u) [λv _=>v=.agg ↑Zz.b,λv _=>v=.pointer (some ⟨w.heap.size,4,none⟩),λv _=>v=↑m.pos,λ_ _=>True,λv _=>v=.int .i64 12,λv _=>v=↑m.pos]
  227 1 rfl ah ⟨az _,az _,az _,eH,az _,az _,trivial⟩ ⟨λ_ _ _ _ h=>h,λ_ _ _ _ h=>h,λ_ _ _ _ h=>h,λ_ _ _ _ h=>h,λ_ _ _ _ h=>h,λ_ _ _ _ h=>h,trivial⟩ ah (λ_ _ _ hE h=>h.ev hE) (λu u' hE h=>h.then (But.aW hE)) (But.refl _ _) (gG.out) ah ?_ ?_ ?_
 ·refine aJ 0 ?_ (aJ 1 ?_ (aJ 2 ?_ (cO 3 ai (aJ 4 ?_ (aJ 5 ?_ (oD 6))))))
  ·refine aQ λa wq c=>⟨(ay rfl),.agg ↑Zz.b,?_,rfl⟩
   generalize a.eval=ρ;simp[execOp,go_sem]
  refine aQ λa wq c=>⟨(ay rfl),.pointer (some ⟨w.heap.size,4,none⟩),?_,rfl⟩
  exact aBF
  ·refine aQ λa wq c=>⟨(ay rfl),↑m.pos,?_,rfl⟩
   have bC:a.eval (.tmp 22)=.pointer (some ⟨w.heap.size,4,none⟩):=(c.new 1 22)
   have hc:=(HT1.out.but c.inv aj).cell 4;have hc:wq.cell? ⟨w.heap.size,4,none⟩=some ↑m.pos:=hc;generalize a.eval=ρ at bC|-;simp[execOp,bC,hc,go_sem]
  refine aQ λa w c=>⟨(ay rfl),_,run_assign _ rfl w,(evc a _)⟩
  refine aQ λa w c=>⟨(ay rfl),_,run_assign _ rfl w,(c.new 2 23)⟩
 ·refine fQ 0 rfl ?_ (pq 1);refine uN rfl λa wq c st=>?_;have em:a.eval (.tmp 21)=.agg ↑Zz.b:=(c.new 0 21)
  have e2:a.eval (.tmp 2)=.pointer (some ⟨w.heap.size+1,0,none⟩):=(c.was 2 rfl)
  have D_:Bx 32 (w.heap.size+1) ↑Zz.b wq:=st;obtain⟨⟨r0,r1,r2,r3,r4,r5,r6,r7⟩,s0,s1,s2,s3,s4,s5,s6,s7⟩:=D_.eight;refine⟨ay rfl,iP (w.heap.size+1) (.int .i64 0) (.string ⟨#[]⟩) ↑() ↑() ↑() ↑() ↑() ↑() wq,?_,dw _ _ _ _ _ _ _ _ _ _,c.inv.then (dw _ _ _ _ _ _ _ _ _ _),D_.iP _ _ _ _ _ _ _ _,trivial⟩;generalize a.eval=ρ at em e2|-;simp[execOp,em,e2,go_sem,r0,r1,r2,r3,r4,r5,r6,r7,s0,s1,s2,s3,s4,s5,s6,s7,iP,kQ,kP]
 intro sl w9 hI hold hnew hst;have f1:sl 1=.pointer ↑w:=hold 1;have f2:sl 2=.pointer (some ⟨w.heap.size+1,0,none⟩):=hold 2;have f3:sl 3=.int .i64 12:=hnew 4 3;have f4:sl 4=↑m.pos:=hnew 5 4;change Exit.then _ _ .normal ⟨_,_⟩ _;simp only[List.range,List.range.loop,List.map];simp only[f1,f2,f3,f4];clear hold hnew;go_wp2;(try simp only[Exit.inBlock,Exit.then]);refine ayr (aI rfl _ _ _ _ _ rfl hst underlying32 rfl Tryz.bY) rfl ?_;exact⟨jR,rfl,iE,Qx.zero _ _ _,E1.out.box hI ae⟩
theorem ayG(h:U:=by
 have AV:=Bx.new 32 ↑Zz.b wr;clear hy;go_upto_region 57 with (first
  | ((with_reducible refine(Rh.out _ ((HE.out.trans HK.out.ev).trans aB)).mono ?_);rintro r w6 ⟨x,rfl,tX,wO,lS⟩;have Ik:=zq tX;have E6:=zq ((Ev.alloc wr _).trans lS);have qF:=zq (AV.ev lS);obtain⟨⟨u0,u1,u2,u3,u4,u5,u6,u7⟩,v0,v1,v2,v3,v4,v5,v6,v7⟩:=qF.out.eight;have DW:=zq wO;clear tX wO lS AV q0 q1 q2 q3 q4 q5 q6 q7))
 rw[bH];obtain⟨w8,vY⟩:∃w8,w8=iP wr.heap.size ↑x.kind ↑x.name (.slice x.ex.A x.ex.l.length x.ex.cap) (.slice x.co.A x.co.l.length x.co.cap) (.slice x.lf.A x.lf.l.length x.lf.cap) (.slice x.rt.A x.rt.l.length x.rt.cap) (.slice x.ag.A x.ag.l.length x.ag.cap) (.slice x.A x.kids.length x.cap) w6:=⟨_,rfl⟩
 rw[<-vY];have uo:=dw wr.heap.size ↑x.kind ↑x.name (.slice x.ex.A x.ex.l.length x.ex.cap) (.slice x.co.A x.co.l.length x.co.cap) (.slice x.lf.A x.lf.l.length x.lf.cap) (.slice x.rt.A x.rt.l.length x.rt.cap) (.slice x.ag.A x.ag.l.length x.ag.cap) (.slice x.A x.kids.length x.cap) w6;have pK:=qF.out.iP ↑x.kind ↑x.name (.slice x.ex.A x.ex.l.length x.ex.cap) (.slice x.co.A x.co.l.length x.co.cap) (.slice x.lf.A x.lf.l.length x.lf.cap) (.slice x.rt.A x.rt.l.length x.rt.cap) (.slice x.ag.A x.ag.l.length x.ag.cap) (.slice x.A x.kids.length x.cap);have mD:=E6.out.box uo (awC _);have l7:=lW DW.out uo (λk hk=>by simp at hk;simp;omega);rw[<-vY]at pK mD l7;have nC:=zq (HK.out.up mD);have zC:=zq l7;obtain⟨⟨q0,q1,q2,q3,q4,q5,q6,q7⟩,_⟩:=nC.out.box.eight;clear u0 u1 u2 u3 u4 u5 u6 u7 v0 v1 v2 v3 v4 v5 v6 v7;obtain⟨⟨u0,u1,u2,u3,u4,u5,u6,u7⟩,_⟩:=pK.eight;have Md:=mD.size;have Me:=nC.out.box.lt;have N_:=pK.lt;clear vY uo pK mD l7
 go_wp2_with (first
  | ((show wpList _ _ _ (⟨some 219,_,_,_,_,_⟩::_) _ _);refine aO (o:=⟨some 219,_,_,_,_,_⟩) rfl 30 (.tmp 216) (.tmp 218) rfl sZ underlying30 Tryz.nT rfl rfl (nC.out.up aB).own (some ⟨_,0,none⟩) 1 1 [x] rfl (Sl.one (et:=32) sZ _ x _ rfl) (by simp;omega) (by simp;omega) (by simp;omega) ?_;intro v2 w7 dY;have vU:=zq dY;obtain⟨A2,cap2,rfl,CQ⟩:=tZ.next (nC.out.up aB) (zC.out.ev aB) (by simp;omega) (by intro k hk;have:=(HK.out.own.lt (aG.1 hk)).2;simp;omega) vU.out;obtain⟨⟨o0,o1,o2,o3,o4,o5,o6,o7⟩,t0,t1,t2,t3,t4,t5,t6,t7⟩:=((nC.out.up aB).after vU.out).eight;have Oa:=zq CQ;clear CQ dY))
 go_roundw
 case rel=>exact⟨j+1,p.kG A2 cap2 (p.kids++[x]),(nV y.t).2,rfl,rfl,by go_num,ae,zq (HI.out.next HY.out Ik.out),Oa⟩
 case measure=>simp[intOf];omega):U:=h
theorem ayE(h:U:=by
 obtain⟨y,hy⟩:=(HQ.out w aK).at hlt;obtain⟨bq,oq,yI,hbl,d0,d1,d2,d3,d4⟩:=Ms.cell (HQ.out _ (HE.out.trans HK.out.ev)) hy;unfold M.kv at d3;injection yI with yI
 injection yI with h1 h2 _
 subst h1 h2;obtain⟨⟨q0,q1,q2,q3,q4,q5,q6,q7⟩,_⟩:=HK.out.box.eight;have HY:=zq hy;have hsw:=HK.out.ev.size;have Rh:=zq (Pg.out y (awG hy));have hpl:p.kids.length<=10000:=by have:=HI.out.len;omega
 have Mc:=HK.out.box.lt;have i1:(0:Int)<=(j:Int):=ae;have i2:(j:Int)<(2:Int):=ae;exact ayG):U:=h
theorem azb(h:U:=by obtain⟨⟨q0,q1,q2,q3,q4,q5,q6,q7⟩,_⟩:=HK.out.box.eight;obtain⟨⟨r0,r1,r2,r3,r4,r5,r6,r7⟩,s0,s1,s2,s3,s4,s5,s6,s7⟩:=(HR.out.ev HK.out.ev).eight;go_wp2;(try simp only[Exit.inBlock,Exit.then]);rw[bH];obtain⟨f1,f2,f3⟩:=qH HK.out HE.out (axg w.heap.size) ae (HR.out.ev HK.out.ev);refine ayr (aI rfl _ _ _ _ _ rfl f1 underlying32 rfl Tryz.bY) rfl ?_;rw[wM.out];exact⟨p,rfl,rfl,f2,f3⟩):U:=h
theorem ay0(h:U:=by
 have heb:(e.1==0)=false:=awy.2 he;have hen:(e.1 !=0)=true:=by simp[he]
 have wM:Hid (nV PT=(iC,e.1,e.2)):=zq (tV.qG HI.out he vP.out);obtain⟨⟨r0,r1,r2,r3,r4,r5,r6,r7⟩,s0,s1,s2,s3,s4,s5,s6,s7⟩:=(HR.out.ev HK.out.ev).eight;have i1:(0:Int)<=(j:Int):=ae;by_cases hlt:(j:Int)<(2:Int)
 all_goals (
  go_wp2;(try simp only[Exit.inBlock,Exit.then]);rw[bH];obtain⟨f1,f2⟩:=lZ (axg w.heap.size) (HE.out.trans HK.out.ev) (HR.out.ev HK.out.ev) (.int .i64 0) (.string ⟨#[]⟩) ↑() ↑() ↑() ↑() ↑() ↑();refine ayr (aI rfl _ _ _ _ _ rfl f1 underlying32 rfl Tryz.bY) rfl ?_;rw[wM.out];exact⟨jR,rfl,iE,Qx.zero _ _ _,f2⟩)):U:=h
theorem Rf(m:M)(b0:Nat)(w:ak)(hL:Lies b0 [] w m)(hfair:m.t.every dh=true)(hsz:m.t.size<=10000)(hf:gu m.t=true)(x:M)(q:List M)(hq:m.kids=x::q)(hs:x.s=iM)
  (ih:∀y∈q,∀w1,Ev w w1->Calls ax 39 #[.agg ↑y] w1 (bP (nV y.t) w1)):
  Calls ax 39 #[.agg ↑m] w (bP (nV m.t) w):=by
 have ed:Tryz.prog.follows .mixedOrders=true:=ah;obtain⟨kF,l_,nG,hm1,hx2,sO⟩:=mY hq hf;have L9:Lies b0 [w.heap.size] w m:=hL.less λk hk=>by simp at hk;exact .inr (.inr ae)
 obtain⟨b,off,k,c,fE⟩:=vN L9 hq sO;have CP:=zq (λw1 (hE:Ev w w1)=>uH m b0 w1 (hL.ev hE));rw[hf]at CP;have xq:=zq (λw1 (hE:Ev w w1)=>kW m b0 w1 (hL.ev hE));have uh:Qq m.t=x.s:=by rw[Gw,hq];simp[hm1,M.uK,lV,hx2]
 rw[uh,hs]at xq;have ND:=q_len hq hsz;rw[hs]at kF l_ nG;unfold bP at ih|-;obtain⟨PT,uU⟩:∃PT,PT=m.t:=⟨_,rfl⟩
 rw[<-uU]at kF l_|-;have hA:=fE.hA;have hn:=fE.hn;have hc:=fE.hc;have qM:=fE.qM;have hcm:=fE.hcm;have nD:=fE.nD;have hbl:b<w.heap.size:=(fE.BQ w (But.refl _ _) off _ rfl).2.1;have pW:=zq fE;clear fE uU hq hL L9 hfair hsz sO hf hx2 uh;generalize AQ:m.kids.length=kn at*;generalize wJ:m.A=mA at*;generalize EM:m.cap=mc at*;generalize qE:m.kind=kd at*;generalize hs_:m.s=ms at*;generalize wI:m.n=mn at*;generalize EN:m.pos=mp at*;clear AQ wJ EM qE hs_ wI EN;subst hm1 hA hn hc;obtain⟨w0,hw0,aV,hX,hR⟩:=EZ w (.int .i64 1) ↑ms ↑mn (.slice ↑(b,off) (k+2) (c+2)) ↑mp;have HX:=zq hX;have HR:=zq hR;have HE:=zq aV;have lM:=zq ih;unfold iM at*;obtain⟨⟨c0,c1,c2,c3,c4⟩,_⟩:=hX.five;clear hX hR aV ih hs;have hk2:q.length=2:=by exact aCy
 obtain rfl:k=1:=ae;have rX:Hid ((bF PT).1=0->pPlan PT=.mk 5 [] [] [] [] [] [] (q.map λy=>pPlan y.t)):=zq (λ_=>by rw[kF];show Pl.mk 5 [] [] [] [] [] [] ((q.map M.t).map pPlan)=_;rw[awT];rfl);have vP:Hid (bF PT=fU (0,0) (aU (q.map λy=>bF y.t))):=zq (by rw[l_,xE];show aU ((q.map M.t).map bF)=_;rw[awT];rfl);have HQ:Hid (∀w1,Ev w w1->Ms w1 ↑(b,off+5) 2 (c+1) q):=zq λw1 hE=>pW.out.rest w1 (But.aW hE);have RS:Hid (∀y∈q,y∈q):=zq λy hy=>hy;clear kF l_ nG;go_enter func39,ntmps39;go_upto_region 38 with (first
  | ((with_reducible refine(CP.out _ HE.out).mono ?_);rintro r w1 ⟨rfl,aN⟩;have E1:=zq (HE.out.trans aN);have F1:=zq aN;have hx1:=(HX.out.ev aN).lt;have hr1:=(HR.out.ev aN).lt;clear c0 c1 c2 c3 c4;obtain⟨⟨c0,c1,c2,c3,c4⟩,_⟩:=(HX.out.ev aN).five;have o8:=Bx.new 32 ↑Zz.b w1;clear aN)
  | ((with_reducible refine(xq.out _ (E1.out.trans aB)).mono ?_);rintro r w2 ⟨rfl,bM⟩;have F2:=zq ((F1.out.trans aB).trans bM);have BP:=zq (o8.ev bM);obtain⟨⟨p0,p1,p2,p3,p4,p5,p6,p7⟩,z0,z1,z2,z3,z4,z5,z6,z7⟩:=(o8.ev bM).eight;clear bM o8 c0 c1 c2 c3 c4;obtain⟨⟨c0,c1,c2,c3,c4⟩,_⟩:=(HX.out.ev F2.out).five))
 obtain⟨wL,DZ⟩:∃wL,wL=w2.setCell ⟨↑w1,0,none⟩ (.int .i64 5):=⟨_,rfl⟩
 rw[<-DZ];have DN:Hid (tZ w0 w1.heap.size (.mk 5 [] .nil .nil .nil .nil .nil none 0 []) wL):=zq (tZ.init w0 wL w1.heap.size 5 (by rw[DZ];have:=BP.out.set 0 (.int .i64 5);simpa[rY,PM.kind,PM.name,PM.ex,PM.co,PM.lf,PM.rt,PM.ag,PM.A,PM.cap,PM.kids,fH.nil] using this) (by rw[DZ];exact F2.out.box (But.setCell _ _ aj) F1.out.size) F1.out.size);clear DZ p0 p1 p2 p3 p4 p5 p6 p7 z0 z1 z2 z3 z4 z5 z6 z7 c0 c1 c2 c3 c4;obtain⟨⟨c0,c1,c2,c3,c4⟩,_⟩:=(HX.out.ev DN.out.ev).five;go_wp2;have Pg:=zq (λy (hy:y∈q) w1 (hE:Ev w w1)=>lM.out y (RS.out y hy) w1 hE);have qQ:=zq (HQ.out w aK).len;have N8:=(HQ.out w aK).le;have N9:=(HQ.out w aK).max
 go_loopw [7,8,16] (λyv av iv wr=>∃(j:Nat) (p:PM) (e:Er),yv=.int .i64 e.1/\av=.int .i64 (e.2:Int)/\iv=↑j/\j<=2/\Hid (tV q (0,0) (.mk 5 [] .nil .nil .nil .nil .nil none 0 []) j p e)/\Hid (tZ w0 w1.heap.size p wr)) (λ_ _ iv _=>2-(intOf iv).toNat)
 case atStart=>exact⟨0,.mk 5 [] .nil .nil .nil .nil .nil none 0 [],(0,0),rfl,rfl,rfl,awJ _,zq (tV.start _ _ _ rfl (λ_=>rfl)),DN⟩
 case round=>
  obtain⟨j,p,e,rfl,rfl,rfl,hj,HI,HK⟩:=hrel;have IU:=F1.out.size;have IV:=HR.out.lt;by_cases he:e.1=0;have IW:=(HI.out.ok he).1;subst IW;by_cases hlt:j<2;exact ayE;obtain rfl:j=2:=ae;have wM:Hid (nV PT=(p.p,0,0)):=zq (tV.vX (p0:=.mk 5 [] .nil .nil .nil .nil .nil none 0 []) (by rw[qQ.out];exact HI.out) rfl vP.out rX.out);exact azb;exact ay0
theorem ayF(h:U:=by
 obtain⟨y,hy⟩:=(HQ.out w aK).at hlt;obtain⟨bq,oq,yI,hbl,d0,d1,d2,d3,d4⟩:=Ms.cell (HQ.out _ (HE.out.trans HK.out.ev)) hy;unfold M.kv at d3;injection yI with yI
 injection yI with h1 h2 _
 subst h1 h2;obtain⟨⟨q0,q1,q2,q3,q4,q5,q6,q7⟩,_⟩:=HK.out.box.eight;have HY:=zq hy;have hsw:=HK.out.ev.size;have Rh:=zq (Pg.out y (awG hy));have hpl:p.kids.length<=10000:=by have:=HI.out.len;omega
 have Mc:=HK.out.box.lt;have i1:(0:Int)<=(j:Int):=ae;have i2:(j:Int)<(1:Int):=ae;exact ayG):U:=h
theorem ay1(h:U:=by
 have heb:(e.1==0)=false:=awy.2 he;have hen:(e.1 !=0)=true:=by simp[he]
 have wM:Hid (nV PT=(iC,e.1,e.2)):=zq (tV.qG HI.out he vP.out);obtain⟨⟨r0,r1,r2,r3,r4,r5,r6,r7⟩,s0,s1,s2,s3,s4,s5,s6,s7⟩:=(HR.out.ev HK.out.ev).eight;have i1:(0:Int)<=(j:Int):=ae;by_cases hlt:(j:Int)<(1:Int)
 all_goals (
  go_wp2;(try simp only[Exit.inBlock,Exit.then]);rw[bH];obtain⟨f1,f2⟩:=lZ (axg w.heap.size) (HE.out.trans HK.out.ev) (HR.out.ev HK.out.ev) (.int .i64 0) (.string ⟨#[]⟩) ↑() ↑() ↑() ↑() ↑() ↑();refine ayr (aI rfl _ _ _ _ _ rfl f1 underlying32 rfl Tryz.bY) rfl ?_;rw[wM.out];exact⟨jR,rfl,iE,Qx.zero _ _ _,f2⟩)):U:=h
theorem IX(m:M)(b0:Nat)(w:ak)(hL:Lies b0 [] w m)(hfair:m.t.every dh=true)(hsz:m.t.size<=10000)(hf:gu m.t=true)(x:M)(q:List M)(hq:m.kids=x::q)(hs:x.s=dU)
  (ih:∀y∈q,∀w1,Ev w w1->Calls ax 39 #[.agg ↑y] w1 (bP (nV y.t) w1)):
  Calls ax 39 #[.agg ↑m] w (bP (nV m.t) w):=by
 have ed:Tryz.prog.follows .mixedOrders=true:=ah;obtain⟨kF,l_,nG,hm1,hx2,sO⟩:=mY hq hf;have L9:Lies b0 [w.heap.size] w m:=hL.less λk hk=>by simp at hk;exact .inr (.inr ae)
 obtain⟨b,off,k,c,fE⟩:=vN L9 hq sO;have CP:=zq (λw1 (hE:Ev w w1)=>uH m b0 w1 (hL.ev hE));rw[hf]at CP;have xq:=zq (λw1 (hE:Ev w w1)=>kW m b0 w1 (hL.ev hE));have uh:Qq m.t=x.s:=by rw[Gw,hq];simp[hm1,M.uK,lV,hx2]
 rw[uh,hs]at xq;have ND:=q_len hq hsz;rw[hs]at kF l_ nG;unfold bP at ih|-;obtain⟨PT,uU⟩:∃PT,PT=m.t:=⟨_,rfl⟩
 rw[<-uU]at kF l_|-;have hA:=fE.hA;have hn:=fE.hn;have hc:=fE.hc;have qM:=fE.qM;have hcm:=fE.hcm;have nD:=fE.nD;have hbl:b<w.heap.size:=(fE.BQ w (But.refl _ _) off _ rfl).2.1;have pW:=zq fE;clear fE uU hq hL L9 hfair hsz sO hf hx2 uh;generalize AQ:m.kids.length=kn at*;generalize wJ:m.A=mA at*;generalize EM:m.cap=mc at*;generalize qE:m.kind=kd at*;generalize hs_:m.s=ms at*;generalize wI:m.n=mn at*;generalize EN:m.pos=mp at*;clear AQ wJ EM qE hs_ wI EN;subst hm1 hA hn hc;obtain⟨w0,hw0,aV,hX,hR⟩:=EZ w (.int .i64 1) ↑ms ↑mn (.slice ↑(b,off) (k+2) (c+2)) ↑mp;have HX:=zq hX;have HR:=zq hR;have HE:=zq aV;have lM:=zq ih;unfold dU at*;obtain⟨⟨c0,c1,c2,c3,c4⟩,_⟩:=hX.five;clear hX hR aV ih hs;have hk2:q.length=1:=by have h1:((q.map M.t).length==1)=true:=nG;rw[awO,awD]at h1;exact h1
 obtain rfl:k=0:=ae;have rX:Hid ((bF PT).1=0->pPlan PT=.mk 6 [] [] [] [] [] [] (q.map λy=>pPlan y.t)):=zq (λ_=>by rw[kF];show Pl.mk 6 [] [] [] [] [] [] ((q.map M.t).map pPlan)=_;rw[awT];rfl);have vP:Hid (bF PT=fU (0,0) (aU (q.map λy=>bF y.t))):=zq (by rw[l_,xE];show aU ((q.map M.t).map bF)=_;rw[awT];rfl);have HQ:Hid (∀w1,Ev w w1->Ms w1 ↑(b,off+5) 1 (c+1) q):=zq λw1 hE=>pW.out.rest w1 (But.aW hE);have RS:Hid (∀y∈q,y∈q):=zq λy hy=>hy;clear kF l_ nG;go_enter func39,ntmps39;go_upto_region 41 with (first
  | ((with_reducible refine(CP.out _ HE.out).mono ?_);rintro r w1 ⟨rfl,aN⟩;have E1:=zq (HE.out.trans aN);have F1:=zq aN;have hx1:=(HX.out.ev aN).lt;have hr1:=(HR.out.ev aN).lt;clear c0 c1 c2 c3 c4;obtain⟨⟨c0,c1,c2,c3,c4⟩,_⟩:=(HX.out.ev aN).five;have o8:=Bx.new 32 ↑Zz.b w1;clear aN)
  | ((with_reducible refine(xq.out _ (E1.out.trans aB)).mono ?_);rintro r w2 ⟨rfl,bM⟩;have F2:=zq ((F1.out.trans aB).trans bM);have BP:=zq (o8.ev bM);obtain⟨⟨p0,p1,p2,p3,p4,p5,p6,p7⟩,z0,z1,z2,z3,z4,z5,z6,z7⟩:=(o8.ev bM).eight;clear bM o8 c0 c1 c2 c3 c4;obtain⟨⟨c0,c1,c2,c3,c4⟩,_⟩:=(HX.out.ev F2.out).five))
 obtain⟨wL,DZ⟩:∃wL,wL=w2.setCell ⟨↑w1,0,none⟩ (.int .i64 6):=⟨_,rfl⟩
 rw[<-DZ];have DN:Hid (tZ w0 w1.heap.size (.mk 6 [] .nil .nil .nil .nil .nil none 0 []) wL):=zq (tZ.init w0 wL w1.heap.size 6 (by rw[DZ];have:=BP.out.set 0 (.int .i64 6);simpa[rY,PM.kind,PM.name,PM.ex,PM.co,PM.lf,PM.rt,PM.ag,PM.A,PM.cap,PM.kids,fH.nil] using this) (by rw[DZ];exact F2.out.box (But.setCell _ _ aj) F1.out.size) F1.out.size);clear DZ p0 p1 p2 p3 p4 p5 p6 p7 z0 z1 z2 z3 z4 z5 z6 z7 c0 c1 c2 c3 c4;obtain⟨⟨c0,c1,c2,c3,c4⟩,_⟩:=(HX.out.ev DN.out.ev).five;go_wp2;have Pg:=zq (λy (hy:y∈q) w1 (hE:Ev w w1)=>lM.out y (RS.out y hy) w1 hE);have qQ:=zq (HQ.out w aK).len;have N8:=(HQ.out w aK).le;have N9:=(HQ.out w aK).max
 go_loopw [7,8,16] (λyv av iv wr=>∃(j:Nat) (p:PM) (e:Er),yv=.int .i64 e.1/\av=.int .i64 (e.2:Int)/\iv=↑j/\j<=1/\Hid (tV q (0,0) (.mk 6 [] .nil .nil .nil .nil .nil none 0 []) j p e)/\Hid (tZ w0 w1.heap.size p wr)) (λ_ _ iv _=>1-(intOf iv).toNat)
 case atStart=>exact⟨0,.mk 6 [] .nil .nil .nil .nil .nil none 0 [],(0,0),rfl,rfl,rfl,awJ _,zq (tV.start _ _ _ rfl (λ_=>rfl)),DN⟩
 case round=>
  obtain⟨j,p,e,rfl,rfl,rfl,hj,HI,HK⟩:=hrel;have IU:=F1.out.size;have IV:=HR.out.lt;by_cases he:e.1=0;have IW:=(HI.out.ok he).1;subst IW;by_cases hlt:j<1;exact ayF;obtain rfl:j=1:=ae;have wM:Hid (nV PT=(p.p,0,0)):=zq (tV.vX (p0:=.mk 6 [] .nil .nil .nil .nil .nil none 0 []) (by rw[qQ.out];exact HI.out) rfl vP.out rX.out);exact azb;exact ay1
theorem MB(s:By):∀(rs:List Ea) (done:List T),(xReads s done rs).2.1=0->(xReads s done rs).2.2=0
 | [],done,h=>rfl
 | r::rs,done,h=>by unfold xReads at h|-;split;rename_i h0;rw[if_pos h0]at h;exact MB s rs _ h;rename_i h0;rw[if_neg h0]at h;exact absurd (by simpa using h) h0
theorem E_{why:Int}{p:Nat}(hw:why≠0)(h:(kK why p).2.1=0):False:=hw h
theorem ada(t:T)(h:(xRead t).2.1=0):(xRead t).2.2=0:=by
 cases t with
 | mk k s n l p=>
  unfold xRead at h|-;by_cases k2:(k==2)=true;rw[if_pos k2]at h|-;by_cases hx:jO s=true;rw[if_pos hx];rw[if_neg hx]at h;exact(E_ ai h).elim;rw[if_neg k2]at h|-;by_cases k3:(k==3)=true;rw[if_pos k3];rw[if_neg k3]at h|-;by_cases k4:(k==4)=true;rw[if_pos k4];rw[if_neg k4]at h|-;by_cases k1:(k==1)=true;rw[if_pos k1]at h|-
  cases l with
  | nil=>exact(E_ ai h).elim
  | cons hd q=>
   simp only at h|-;by_cases h1:(hd.kind==2&&!(bQ hd.s==0))=true;rw[if_pos h1]at h|-;by_cases h2:(q.length==bQ hd.s)=true;rw[if_pos h2]at h|-;exact MB _ _ _ h;rw[if_neg h2]at h;exact(E_ ai h).elim;rw[if_neg h1]at h;exact(E_ ai h).elim
  rw[if_neg k1]at h;exact(E_ ai h).elim
theorem AY(t:T)(h:(kC t).1=0):kC t=(0,0):=Prod.ext h (ada t h)
theorem aBp(h:U:=by unfold Hu at h|-;split;rfl;rename_i hx;rw[if_neg hx]at h;exact absurd h (show ¬((20:Int)=0) by decide)):U:=h
theorem MC(t:T)(h:(Hu t).2.1=0):(Hu t).2=(0,0):=by exact aBp
theorem Ri(t:T):bK t=(Hu t).2:=by unfold bK Hu;split<;>rfl
theorem UG(t:T)(h:(Hu t).2.1=0):(Hu t).1=t.s:=by exact aBp
theorem GX{a:Er}(h:a.1=0->a=(0,0)):fU (0,0) a=a:=by rw[mP];by_cases ha:a.1=0;rw[if_pos ha,h ha];rw[if_neg ha]
theorem xG{a:Er}(h:a.1=0->a=(0,0))(l:List Er):aU (a::l)=fU a (aU l):=by rw[show aU (a::l)=(a::l).foldl fU (0,0) from rfl,axT,GX h,jB]
theorem yD(l:List Er)(h:(aU l).1=0):aU l=(0,0):=AX l h
theorem jK(l m:List Er):aU (l++m)=fU (aU l) (aU m):=by have:=mJ (0,0) l m;rw[xE,xE]at this;exact this.symm
theorem tZ.aac{w0 wL:ak}{gp:Nat}{p:PM}(hk:p.kids=[])(hA:p.A=none)(hc:p.cap=0)(hB:Bx 32 gp (rY p) wL)(hH:Q_ (gp+1) [] wL p)(hE:Ev w0 wL)(hg:w0.heap.size<=gp):tZ w0 gp p wL:=by refine⟨hB,?_,?_,(λk hk2=>by rw[hk]at hk2;cases hk2),hE,hg⟩;rw[hk,hA,hc];exact Ow.nil_ _;rw[hk,hA,hc];exact hH
theorem Ms.next{w:ak}{b off n c:Nat}{x:M}{q:List M}(h:Ms w ↑(b,off) (n+1) (c+1) (x::q))(hn:1<=n)(hc:n<=c):Ms w ↑(b,off+5) n c q:=by
 obtain⟨k,rfl⟩:∃k,n=k+1:=⟨n-1,ae⟩
 obtain⟨d,rfl⟩:∃d,c=d+1:=⟨c-1,ae⟩
 exact Ms.rest h
theorem Rj(m:M)(b0:Nat)(w:ak)(hL:Lies b0 [] w m)(hfair:m.t.every dh=true)(hsz:m.t.size<=10000)(hf:gu m.t=true)(x:M)(q:List M)(hq:m.kids=x::q)(hs:x.s=gY)
  (ih:∀y∈q,∀w1,Ev w w1->Calls ax 39 #[.agg ↑y] w1 (bP (nV y.t) w1)):
  Calls ax 39 #[.agg ↑m] w (bP (nV m.t) w):=by
 have ed:Tryz.prog.follows .mixedOrders=true:=ah;obtain⟨kF,l_,nG,hm1,hx2,sO⟩:=mY hq hf;have L9:Lies b0 [w.heap.size] w m:=hL.less λk hk=>by simp at hk;exact .inr (.inr ae)
 obtain⟨b,off,k,c,fE⟩:=vN L9 hq sO;have CP:=zq (λw1 (hE:Ev w w1)=>uH m b0 w1 (hL.ev hE));rw[hf]at CP;have xq:=zq (λw1 (hE:Ev w w1)=>kW m b0 w1 (hL.ev hE));have uh:Qq m.t=x.s:=by rw[Gw,hq];simp[hm1,M.uK,lV,hx2]
 rw[uh,hs]at xq;have zT:=zq (λy (hy:y∈q)=>mZ hq hy hfair hsz);have ND:=q_len hq hsz;have uT:=zq (λi y (hy:q[i]?=some y) w1 (hE:Ev w w1)=>fE.kid (i+1) y (by rw[hq];simpa using hy) w1 (But.aW hE));rw[hs]at kF l_ nG;unfold bP at ih|-;obtain⟨PT,uU⟩:∃PT,PT=m.t:=⟨_,rfl⟩
 rw[<-uU]at kF l_|-;have hA:=fE.hA;have hn:=fE.hn;have hc:=fE.hc;have qM:=fE.qM;have hcm:=fE.hcm;have nD:=fE.nD;have hbl:b<w.heap.size:=(fE.BQ w (But.refl _ _) off _ rfl).2.1;clear fE uU hq hL L9 hfair hsz sO hf hx2 uh;generalize AQ:m.kids.length=kn at*;generalize wJ:m.A=mA at*;generalize EM:m.cap=mc at*;generalize qE:m.kind=kd at*;generalize hs_:m.s=ms at*;generalize wI:m.n=mn at*;generalize EN:m.pos=mp at*;clear AQ wJ EM qE hs_ wI EN;subst hm1 hA hn hc;obtain⟨w0,hw0,aV,hX,hR⟩:=EZ w (.int .i64 1) ↑ms ↑mn (.slice ↑(b,off) (k+2) (c+2)) ↑mp;have HX:=zq hX;have HR:=zq hR;have HE:=zq aV;unfold gY at*;obtain⟨⟨c0,c1,c2,c3,c4⟩,_⟩:=hX.five;clear hX hR aV ih hs;have hk2:q.length=1:=by have h1:((q.map M.t).length==1&&dB (at_ (q.map M.t) 0))=true:=nG;rw[awF,awO,awD]at h1;exact h1.1
 obtain rfl:k=0:=ae;have HQF:=zq (λy (hy:y∈q)=>(zT.out y hy).1);have HSL:Hid (∀y∈q,y.s.length<=1000000):=zq λy hy=>by have h1:=HQF.out y hy;rw[T.gI,awF]at h1;have h2:=h1.1;rw[M.qR]at h2;have:=(qo h2).2;omega
 obtain⟨y,rfl⟩:=uC hk2;obtain⟨NR,hNR⟩:∃NR,NR=Hu y.t:=⟨_,rfl⟩
 have HNZ:=zq (MC y.t);have rX:Hid ((bF PT).1=0->pPlan PT=.mk 1 NR.1 [] [] [] [] [] (([]:List M).map λy=>pPlan y.t)):=zq (λh0=>by
  rw[kF];rw[l_]at h0;have h1:(aU [bK y.t]).1=0:=h0;have h2:=(gU _).1 h1 _ (awL ..);rw[Ri]at h2;rw[hNR,UG _ h2];rfl)
 have vP:Hid (bF PT=fU NR.2 (aU (([]:List M).map λy=>bF y.t))):=zq (by
  rw[l_];show aU [bK y.t]=_;rw[Ri,hNR,xG (MC y.t)];rfl)
 have HN:=zq (λw1=>Bv y w1 (HSL.out y aj));have HQ:Hid (∀w1,Ev w w1->Ms w1 none 0 0 ([]:List M)):=zq λw1 _=>Sl.nil_ w1;rw[<-hNR]at HN HNZ;clear kF l_ nG hNR;go_enter func39,ntmps39;go_upto_region 10 with (first
  | ((with_reducible refine(CP.out _ HE.out).mono ?_);rintro r w1 ⟨rfl,aN⟩;have E1:=zq (HE.out.trans aN);have F1:=zq aN;have hx1:=(HX.out.ev aN).lt;have hr1:=(HR.out.ev aN).lt;clear c0 c1 c2 c3 c4;obtain⟨⟨c0,c1,c2,c3,c4⟩,_⟩:=(HX.out.ev aN).five;have o8:=Bx.new 32 ↑Zz.b w1;clear aN)
  | ((with_reducible refine(xq.out _ (E1.out.trans aB)).mono ?_);rintro r w2 ⟨rfl,bM⟩;have F2:=zq ((F1.out.trans aB).trans bM);have BP:=zq (o8.ev bM);obtain⟨⟨p0,p1,p2,p3,p4,p5,p6,p7⟩,z0,z1,z2,z3,z4,z5,z6,z7⟩:=(o8.ev bM).eight;clear bM o8 c0 c1 c2 c3 c4;obtain⟨⟨c0,c1,c2,c3,c4⟩,_⟩:=(HX.out.ev F2.out).five))
 obtain⟨wA,zK⟩:∃wA,wA=w2.setCell ⟨↑w1,0,none⟩ (.int .i64 1):=⟨_,rfl⟩
 rw[<-zK];have Fa:Hid (Bx 32 w1.heap.size #[.int .i64 1,.string ⟨#[]⟩,↑(),↑(),↑(),↑(),↑(),↑()] wA):=zq (by rw[zK];have:=BP.out.set 0 (.int .i64 1);simpa using this);have FA:Hid (Ev w0 wA):=zq (by rw[zK];exact F2.out.box (But.setCell _ _ aj) F1.out.size);have EA:Hid (Ev w wA):=zq (HE.out.trans FA.out);clear zK p0 p1 p2 p3 p4 p5 p6 p7 z0 z1 z2 z3 z4 z5 z6 z7 c0 c1 c2 c3 c4;obtain⟨⟨p0,p1,p2,p3,p4,p5,p6,p7⟩,z0,z1,z2,z3,z4,z5,z6,z7⟩:=Fa.out.eight;obtain⟨⟨c0,c1,c2,c3,c4⟩,_⟩:=(HX.out.ev FA.out).five;have hpA:=Fa.out.lt;obtain⟨y0,y1,y2,y3,y4⟩:=uT.out 0 y rfl _ EA.out;simp only[aw3,axK]at y0 y1 y2 y3 y4;go_upto_region 52 with (first
  | ((with_reducible refine(HN.out _).mono ?_);rintro r w3 ⟨rfl,dV⟩;have E3:=zq dV;clear p0 p1 p2 p3 p4 p5 p6 p7 z0 z1 z2 z3 z4 z5 z6 z7;obtain⟨⟨p0,p1,p2,p3,p4,p5,p6,p7⟩,z0,z1,z2,z3,z4,z5,z6,z7⟩:=(Fa.out.ev dV).eight;clear dV))
 obtain⟨wL,DZ⟩:∃wL,wL=w3.setCell ⟨w1.heap.size,1,none⟩ (.string ⟨NR.1.toArray⟩):=⟨_,rfl⟩
 rw[<-DZ];have DN:Hid (tZ w0 w1.heap.size (.mk 1 NR.1 .nil .nil .nil .nil .nil none 0 []) wL):=zq (tZ.aac rfl rfl rfl (by rw[DZ];have:=(Fa.out.ev E3.out).set 1 (.string ⟨NR.1.toArray⟩);simpa[rY,PM.kind,PM.name,PM.ex,PM.co,PM.lf,PM.rt,PM.ag,PM.A,PM.cap,PM.kids,fH.nil] using this) ⟨bI.nil ..,(λe he=>by cases he),bI.nil ..,bI.nil ..,bI.nil ..,bI.nil ..⟩ (by rw[DZ];exact(FA.out.trans E3.out).box (But.setCell _ _ aj) F1.out.size) F1.out.size);clear DZ p0 p1 p2 p3 p4 p5 p6 p7 z0 z1 z2 z3 z4 z5 z6 z7 c0 c1 c2 c3 c4 y0 y1 y2 y3 y4;go_wp2;have qQ:=zq (HQ.out w aK).len;have N8:=(HQ.out w aK).le;have N9:=(HQ.out w aK).max
 go_loopw [7,8,16] (λyv av iv wr=>∃(j:Nat) (p:PM) (e:Er),yv=.int .i64 e.1/\av=.int .i64 (e.2:Int)/\iv=↑j/\j<=0/\Hid (tV ([]:List M) NR.2 (.mk 1 NR.1 .nil .nil .nil .nil .nil none 0 []) j p e)/\Hid (tZ w0 w1.heap.size p wr)) (λ_ _ iv _=>0-(intOf iv).toNat)
 case atStart=>exact⟨0,.mk 1 NR.1 .nil .nil .nil .nil .nil none 0 [],NR.2,rfl,rfl,rfl,awJ _,zq (tV.start _ _ _ rfl HNZ.out),DN⟩
 case round=>
  obtain⟨j,p,e,rfl,rfl,rfl,hj,HI,HK⟩:=hrel;have IU:=F1.out.size;have IV:=HR.out.lt;by_cases he:e.1=0;have IW:=(HI.out.ok he).1;subst IW;obtain rfl:j=0:=ae;have wM:Hid (nV PT=(p.p,0,0)):=zq (tV.vX (p0:=.mk 1 NR.1 .nil .nil .nil .nil .nil none 0 []) (by rw[qQ.out];exact HI.out) rfl vP.out rX.out);exact azb;have heb:(e.1==0)=false:=awy.2 he;have hen:(e.1 !=0)=true:=by simp[he]
  have wM:Hid (nV PT=(iC,e.1,e.2)):=zq (tV.qG HI.out he vP.out);obtain⟨⟨r0,r1,r2,r3,r4,r5,r6,r7⟩,s0,s1,s2,s3,s4,s5,s6,s7⟩:=(HR.out.ev HK.out.ev).eight;have i1:(0:Int)<=(j:Int):=ae;obtain rfl:j=0:=ae
  (
   go_wp2;(try simp only[Exit.inBlock,Exit.then]);rw[bH];obtain⟨f1,f2⟩:=lZ (axg w.heap.size) (HE.out.trans HK.out.ev) (HR.out.ev HK.out.ev) (.int .i64 0) (.string ⟨#[]⟩) ↑() ↑() ↑() ↑() ↑() ↑();refine ayr (aI rfl _ _ _ _ _ rfl f1 underlying32 rfl Tryz.bY) rfl ?_;rw[wM.out];exact⟨jR,rfl,iE,Qx.zero _ _ _,f2⟩)
theorem Ob(m:M)(b0:Nat)(w:ak)(hL:Lies b0 [] w m)(hfair:m.t.every dh=true)(hsz:m.t.size<=10000)(hf:gu m.t=true)(x:M)(q:List M)(hq:m.kids=x::q)(hs:x.s=eP)
  (ih:∀y∈q,∀w1,Ev w w1->Calls ax 39 #[.agg ↑y] w1 (bP (nV y.t) w1)):
  Calls ax 39 #[.agg ↑m] w (bP (nV m.t) w):=by
 have ed:Tryz.prog.follows .mixedOrders=true:=ah;obtain⟨kF,l_,nG,hm1,hx2,sO⟩:=mY hq hf;have L9:Lies b0 [w.heap.size] w m:=hL.less λk hk=>by simp at hk;exact .inr (.inr ae)
 obtain⟨b,off,k,c,fE⟩:=vN L9 hq sO;have CP:=zq (λw1 (hE:Ev w w1)=>uH m b0 w1 (hL.ev hE));rw[hf]at CP;have xq:=zq (λw1 (hE:Ev w w1)=>kW m b0 w1 (hL.ev hE));have uh:Qq m.t=x.s:=by rw[Gw,hq];simp[hm1,M.uK,lV,hx2]
 rw[uh,hs]at xq;have zT:=zq (λy (hy:y∈q)=>mZ hq hy hfair hsz);have ND:=q_len hq hsz;have uT:=zq (λi y (hy:q[i]?=some y) w1 (hE:Ev w w1)=>fE.kid (i+1) y (by rw[hq];simpa using hy) w1 (But.aW hE));rw[hs]at kF l_ nG;unfold bP at ih|-;obtain⟨PT,uU⟩:∃PT,PT=m.t:=⟨_,rfl⟩
 rw[<-uU]at kF l_|-;have hA:=fE.hA;have hn:=fE.hn;have hc:=fE.hc;have qM:=fE.qM;have hcm:=fE.hcm;have nD:=fE.nD;have hbl:b<w.heap.size:=(fE.BQ w (But.refl _ _) off _ rfl).2.1;have pW:=zq fE;clear fE uU hq hL L9 hfair hsz sO hf hx2 uh;generalize AQ:m.kids.length=kn at*;generalize wJ:m.A=mA at*;generalize EM:m.cap=mc at*;generalize qE:m.kind=kd at*;generalize hs_:m.s=ms at*;generalize wI:m.n=mn at*;generalize EN:m.pos=mp at*;clear AQ wJ EM qE hs_ wI EN;subst hm1 hA hn hc;obtain⟨w0,hw0,aV,hX,hR⟩:=EZ w (.int .i64 1) ↑ms ↑mn (.slice ↑(b,off) (k+2) (c+2)) ↑mp;have HX:=zq hX;have HR:=zq hR;have HE:=zq aV;have lM:=zq ih;unfold eP at*;obtain⟨⟨c0,c1,c2,c3,c4⟩,_⟩:=hX.five;clear hX hR aV ih hs;have hk2:q.length=2:=by exact aCy
 obtain rfl:k=1:=ae;have HQF:=zq (λy (hy:y∈q)=>(zT.out y hy).1);obtain⟨y,z,rfl⟩:=xg hk2;obtain⟨qN,rfl⟩:∃c1,c=c1+1:=⟨c-1,ae⟩
 obtain⟨XR,hXR⟩:∃XR,XR=xRead y.t:=⟨_,rfl⟩
 have HNZ:Hid (XR.2.1=0->XR.2=(0,0)):=zq (by rw[hXR];exact AY y.t);have rX:Hid ((bF PT).1=0->pPlan PT=.mk 2 [] [XR.1] [] [] [] [] ([z].map λy=>pPlan y.t)):=zq (λ_=>by rw[kF,hXR];rfl);have vP:Hid (bF PT=fU XR.2 (aU ([z].map λy=>bF y.t))):=zq (by
  rw[l_];show aU (kC y.t::[bF z.t])=_;rw[xG (AY y.t),hXR];rfl)
 have QN:=zq (λw1 (hE:Ev w w1)=>XO y.dep y b0 w1 (awC _) (((pW.out.lies y aj w (But.refl _ _)).less λk hk=>by cases hk).ev hE) (HQF.out y aj) (by have:=(zT.out y aj).2;omega));have HQ:Hid (∀w1,Ev w w1->Ms w1 ↑(b,off+10) 1 (qN+1) [z]):=zq λw1 hE=>(pW.out.rest w1 (But.aW hE)).next ae ae
 have RS:Hid (∀y_∈[z],y_∈[y,z]):=zq λy_ hy=>by simp at hy;simp[hy]
 unfold Cf mv M.kv at QN;rw[<-hXR]at QN;clear kF l_ nG hXR;go_enter func39,ntmps39;go_upto_region 13 with (first
  | ((with_reducible refine(CP.out _ HE.out).mono ?_);rintro r w1 ⟨rfl,aN⟩;have E1:=zq (HE.out.trans aN);have F1:=zq aN;have hx1:=(HX.out.ev aN).lt;have hr1:=(HR.out.ev aN).lt;clear c0 c1 c2 c3 c4;obtain⟨⟨c0,c1,c2,c3,c4⟩,_⟩:=(HX.out.ev aN).five;have o8:=Bx.new 32 ↑Zz.b w1;clear aN)
  | ((with_reducible refine(xq.out _ (E1.out.trans aB)).mono ?_);rintro r w2 ⟨rfl,bM⟩;have F2:=zq ((F1.out.trans aB).trans bM);have BP:=zq (o8.ev bM);obtain⟨⟨p0,p1,p2,p3,p4,p5,p6,p7⟩,z0,z1,z2,z3,z4,z5,z6,z7⟩:=(o8.ev bM).eight;clear bM o8 c0 c1 c2 c3 c4;obtain⟨⟨c0,c1,c2,c3,c4⟩,_⟩:=(HX.out.ev F2.out).five))
 obtain⟨wA,zK⟩:∃wA,wA=w2.setCell ⟨↑w1,0,none⟩ (.int .i64 2):=⟨_,rfl⟩
 rw[<-zK];have Fa:Hid (Bx 32 w1.heap.size #[.int .i64 2,.string ⟨#[]⟩,↑(),↑(),↑(),↑(),↑(),↑()] wA):=zq (by rw[zK];have:=BP.out.set 0 (.int .i64 2);simpa using this);have FA:Hid (Ev w0 wA):=zq (by rw[zK];exact F2.out.box (But.setCell _ _ aj) F1.out.size);have EA:Hid (Ev w wA):=zq (HE.out.trans FA.out);clear zK p0 p1 p2 p3 p4 p5 p6 p7 z0 z1 z2 z3 z4 z5 z6 z7 c0 c1 c2 c3 c4;obtain⟨⟨p0,p1,p2,p3,p4,p5,p6,p7⟩,z0,z1,z2,z3,z4,z5,z6,z7⟩:=Fa.out.eight;obtain⟨⟨c0,c1,c2,c3,c4⟩,_⟩:=(HX.out.ev FA.out).five;have hpA:=Fa.out.lt;obtain⟨y0,y1,y2,y3,y4⟩:=uT.out 0 y rfl _ EA.out;simp only[aw3,axK]at y0 y1 y2 y3 y4;have hBE:=Bx.new 47 ↑Zz.e wA;have RQ:b<wA.heap.size:=awU hbl EA.out.size;go_upto_region 15 with (first
  | ((with_reducible refine(QN.out _ (EA.out.trans aB)).mono ?_);rintro r w3 ⟨x,rfl,jM,iH,dV⟩;have qK:=zq jM;have pX:=zq iH;have E3:=zq ((Ev.alloc wA _).trans dV);have HBE:=zq (hBE.ev dV);obtain⟨⟨u0,u1,u2,u3⟩,v0,v1,v2,v3⟩:=HBE.out.four;clear jM iH dV hBE))
 rw[dS];obtain⟨wB,hwB⟩:∃wB,wB=kP wA.heap.size ↑x.kind ↑x.s ↑x.n (.slice x.A x.kids.length x.cap) w3:=⟨_,rfl⟩
 rw[<-hwB];have hS4:=eY wA.heap.size ↑x.kind ↑x.s ↑x.n (.slice x.A x.kids.length x.cap) w3;have FK:=HBE.out.kP ↑x.kind ↑x.s ↑x.n (.slice x.A x.kids.length x.cap);have fG:=E3.out.box hS4 (awC _);have aiB:=GI pX.out hS4 (λk hk=>by simp at hk;simp;omega);rw[<-hwB]at FK fG aiB;have apt:=zq aiB;have EB:=zq fG;clear u0 u1 u2 u3 v0 v1 v2 v3 p0 p1 p2 p3 p4 p5 p6 p7 z0 z1 z2 z3 z4 z5 z6 z7 y0 y1 y2 y3 y4 c0 c1 c2 c3 c4;obtain⟨⟨u0,u1,u2,u3⟩,_⟩:=FK.four;obtain⟨⟨p0,p1,p2,p3,p4,p5,p6,p7⟩,z0,z1,z2,z3,z4,z5,z6,z7⟩:=(Fa.out.ev fG).eight;have hpB:=(Fa.out.ev fG).lt;have auK:=fG.size;clear hwB hS4 FK fG aiB;go_upto_region 52 with fail
 obtain⟨wC,hwC⟩:∃wC,wC=wB.setCell ⟨w1.heap.size,2,none⟩ (.slice ↑wB 1 1):=⟨_,rfl⟩
 have alL:wC.heap.size=wB.heap.size:=by rw[hwC];simp
 obtain⟨wL,DZ⟩:∃wL,wL=wC.alloc (.cells ↑(x,()) 47):=⟨_,rfl⟩
 rw[<-hwC,<-DZ];have IG:But [w1.heap.size] wB wC:=by rw[hwC];exact But.setCell _ _ aj
 have hS1:=Sl.one (et:=47) x8 wC x ↑(x,()) rfl;rw[<-DZ,alL]at hS1;have hEL:Ev wC wL:=by rw[DZ];exact Ev.alloc _ _
 have auL:wL.heap.size=wB.heap.size+1:=by rw[DZ];simp[alL]
 have DN:Hid (tZ w0 w1.heap.size (.mk 2 [] ⟨some ⟨↑wB,0,none⟩,1,[x]⟩ .nil .nil .nil .nil none 0 []) wL):=zq (tZ.aac rfl rfl rfl (by refine Bx.ev ?_ hEL;rw[hwC];have:=(Fa.out.ev EB.out).set 2 (.slice ↑wB 1 1);simpa[rY,PM.kind,PM.name,PM.ex,PM.co,PM.lf,PM.rt,PM.ag,PM.A,PM.cap,PM.kids,fH.nil] using this)
  ⟨⟨hS1,λad ea=>by cases ea;exact⟨by show w1.heap.size+1<=wB.heap.size;omega,by show wB.heap.size<wL.heap.size;omega,aj⟩⟩,(λe he=>by have he:e∈[x]:=he;simp at he;subst he;exact((GI apt.out IG (λk hk=>by simp at hk;first|omega|(simp;omega))).ev hEL).low (by first|omega|(simp;omega))),bI.nil ..,bI.nil ..,bI.nil ..,bI.nil ..⟩ (((FA.out.trans EB.out).box IG F1.out.size).trans hEL) F1.out.size)
 have rX:Hid ((bF PT).1=0->pPlan PT=.mk 2 [] [x.t] [] [] [] [] ([z].map λy=>pPlan y.t)):=zq (λh=>by rw[rX.out h,qK.out]);clear DZ hwC hS1 hEL IG p0 p1 p2 p3 p4 p5 p6 p7 z0 z1 z2 z3 z4 z5 z6 z7 u0 u1 u2 u3;go_wp2;have Pg:=zq (λy (hy:y∈[z]) w1 (hE:Ev w w1)=>lM.out y (RS.out y hy) w1 hE);have qQ:=zq (HQ.out w aK).len;have N8:=(HQ.out w aK).le;have N9:=(HQ.out w aK).max
 go_loopw [7,8,16] (λyv av iv wr=>∃(j:Nat) (p:PM) (e:Er),yv=.int .i64 e.1/\av=.int .i64 (e.2:Int)/\iv=↑j/\j<=1/\Hid (tV [z] XR.2 (.mk 2 [] ⟨some ⟨↑wB,0,none⟩,1,[x]⟩ .nil .nil .nil .nil none 0 []) j p e)/\Hid (tZ w0 w1.heap.size p wr)) (λ_ _ iv _=>1-(intOf iv).toNat)
 case atStart=>exact⟨0,.mk 2 [] ⟨some ⟨↑wB,0,none⟩,1,[x]⟩ .nil .nil .nil .nil none 0 [],XR.2,rfl,rfl,rfl,awJ _,zq (tV.start _ _ _ rfl HNZ.out),DN⟩
 case round=>
  obtain⟨j,p,e,rfl,rfl,rfl,hj,HI,HK⟩:=hrel;have IU:=F1.out.size;have IV:=HR.out.lt;by_cases he:e.1=0;have IW:=(HI.out.ok he).1;subst IW;by_cases hlt:j<1;exact ayF;obtain rfl:j=1:=ae;have wM:Hid (nV PT=(p.p,0,0)):=zq (tV.vX (p0:=.mk 2 [] ⟨some ⟨↑wB,0,none⟩,1,[x]⟩ .nil .nil .nil .nil none 0 []) (by rw[qQ.out];exact HI.out) rfl vP.out rX.out);exact azb;exact ay1
theorem UH{α:Type}{l:List α}(h:l.length=4):∃a b c d,l=[a,b,c,d]:=by
 match l,h with
 | [a,b,c,d],_=>exact⟨a,b,c,d,rfl⟩
theorem nX(l:List T):(zM l).2=aU (l.map bK):=by unfold zM;split;rename_i h;exact(AX _ h).symm;rfl
theorem vZ(l:List T)(h:(zM l).2.1=0):(zM l).1=l.map T.s:=by rw[nX]at h;unfold zM;rw[if_pos h]
theorem wu{a:Er}(h:a.1≠0)(b:Er):fU a b=a:=by unfold fU;simp[h]
theorem yE{y:M}(h:y.t.size<=10000):y.kids.length<=10000:=by have h1:=T.size_eq y.t;have h2:=jZ y.t.kids;rw[M.bD,awD]at h2;rw[M.bD]at h1;omega
theorem rZ{y:M}(h:y.t.every dh=true):∀x∈y.kids,x.s.length<=1000000:=λx hx=>by rw[T.gI,awF]at h;have h1:=awW.1 h.2 x.t (by rw[M.bD];exact aw6.2 ⟨x,hx,rfl⟩);rw[T.gI,awF]at h1;have h2:=h1.1;rw[M.qR]at h2;have:=(qo h2).2;omega
theorem aBL(h:U:=by have h1:((q.map M.t).length==4&&((q.map M.t).take 2).all dP)=true:=nG;rw[awF,awO,awD]at h1;exact h1.1):U:=h
theorem aBl(h:U:=by rw[l_];show aU ((l1.t).kids.map bK++((l2.t).kids.map bK++[bF y1.t,bF y2.t]))=_;rw[jK,jK,M.bD,M.bD,Rk,U5,nX,nX];rfl):U:=h
theorem azU(h:U:=by rw[kF];show Pl.mk 4 [] [] [] ((l1.t).kids.map T.s) ((l2.t).kids.map T.s) [] _=_;rw[M.bD,M.bD,awT,awT,show l1.kids.map (T.s ∘ M.t)=l1.kids.map M.s from axl λx _=>M.uK x,show l2.kids.map (T.s ∘ M.t)=l2.kids.map M.s from axl λx _=>M.uK x];rfl):U:=h
theorem MF(m:M)(b0:Nat)(w:ak)(hL:Lies b0 [] w m)(hfair:m.t.every dh=true)(hsz:m.t.size<=10000)(hf:gu m.t=true)(x:M)(q:List M)(hq:m.kids=x::q)(hs:x.s=iD)(hl:∀l r,q=l::r->(zM (l.kids.map M.t)).2.1≠0)
  (ih:∀y∈q,∀w1,Ev w w1->Calls ax 39 #[.agg ↑y] w1 (bP (nV y.t) w1)):
  Calls ax 39 #[.agg ↑m] w (bP (nV m.t) w):=by
 have ed:Tryz.prog.follows .mixedOrders=true:=ah;obtain⟨kF,l_,nG,hm1,hx2,sO⟩:=mY hq hf;have L9:Lies b0 [w.heap.size] w m:=hL.less λk hk=>by simp at hk;exact .inr (.inr ae)
 obtain⟨b,off,k,c,fE⟩:=vN L9 hq sO;have CP:=zq (λw1 (hE:Ev w w1)=>uH m b0 w1 (hL.ev hE));rw[hf]at CP;have xq:=zq (λw1 (hE:Ev w w1)=>kW m b0 w1 (hL.ev hE));have uh:Qq m.t=x.s:=by rw[Gw,hq];simp[hm1,M.uK,lV,hx2]
 rw[uh,hs]at xq;have zT:=zq (λy (hy:y∈q)=>mZ hq hy hfair hsz);have ND:=q_len hq hsz;have uT:=zq (λi y (hy:q[i]?=some y) w1 (hE:Ev w w1)=>fE.kid (i+1) y (by rw[hq];simpa using hy) w1 (But.aW hE));rw[hs]at kF l_ nG;unfold bP at ih|-;obtain⟨PT,uU⟩:∃PT,PT=m.t:=⟨_,rfl⟩
 rw[<-uU]at kF l_|-;have hA:=fE.hA;have hn:=fE.hn;have hc:=fE.hc;have qM:=fE.qM;have hcm:=fE.hcm;have nD:=fE.nD;have hbl:b<w.heap.size:=(fE.BQ w (But.refl _ _) off _ rfl).2.1;have pW:=zq fE;clear fE uU hq hL L9 hfair hsz sO hf hx2 uh;generalize AQ:m.kids.length=kn at*;generalize wJ:m.A=mA at*;generalize EM:m.cap=mc at*;generalize qE:m.kind=kd at*;generalize hs_:m.s=ms at*;generalize wI:m.n=mn at*;generalize EN:m.pos=mp at*;clear AQ wJ EM qE hs_ wI EN;subst hm1 hA hn hc;obtain⟨w0,hw0,aV,hX,hR⟩:=EZ w (.int .i64 1) ↑ms ↑mn (.slice ↑(b,off) (k+2) (c+2)) ↑mp;have HX:=zq hX;have HR:=zq hR;have HE:=zq aV;have lM:=zq ih;unfold iD at*;obtain⟨⟨c0,c1,c2,c3,c4⟩,_⟩:=hX.five;clear hX hR aV ih hs;have hk2:q.length=4:=by exact aBL
 obtain rfl:k=3:=ae;have HQF:=zq (λy (hy:y∈q)=>(zT.out y hy).1);obtain⟨l1,l2,y1,y2,rfl⟩:=UH hk2;obtain⟨qN,rfl⟩:∃c1,c=c1+3:=⟨c-3,ae⟩
 have hl:=hl _ _ rfl;obtain⟨N1,Rk⟩:∃N1,N1=zM (l1.kids.map M.t):=⟨_,rfl⟩
 obtain⟨N2,U5⟩:∃N2,N2=zM (l2.kids.map M.t):=⟨_,rfl⟩
 have hz1:N1.2.1=0->N1.2=(0,0):=by rw[Rk,nX];exact yD _
 have hz2:N2.2.1=0->N2.2=(0,0):=by rw[U5,nX];exact yD _
 have Oc:bF PT=fU N1.2 (fU N2.2 (aU ([y1,y2].map λy=>bF y.t))):=by exact aBl
 have Xe:pPlan PT=.mk 4 [] [] [] (l1.kids.map M.s) (l2.kids.map M.s) [] ([y1,y2].map λy=>pPlan y.t):=by exact azU
 have pG:N1.2.1=0->N1.1=l1.kids.map M.s:=λh=>by rw[Rk]at h|-;rw[vZ _ h,awT];exact axl λx _=>M.uK x
 have G5:N2.2.1=0->N2.1=l2.kids.map M.s:=λh=>by rw[U5]at h|-;rw[vZ _ h,awT];exact axl λx _=>M.uK x
 rw[<-Rk]at hl;have GY:=zq (λw1 (hE:Ev w w1)=>AL l1.kids l1.A l1.kids.length l1.cap w1 ((pW.out.lies l1 aj w (But.refl _ _)).ms.ev hE) (by have:=yE (zT.out l1 aj).2;omega) (rZ (HQF.out l1 aj)));have Xf:=zq (λw1 (hE:Ev w w1)=>AL l2.kids l2.A l2.kids.length l2.cap w1 ((pW.out.lies l2 aj w (But.refl _ _)).ms.ev hE) (by have:=yE (zT.out l2 aj).2;omega) (rZ (HQF.out l2 aj)));have HQ:Hid (∀w1,Ev w w1->Ms w1 ↑(b,off+15) 2 (qN+2) [y1,y2]):=zq λw1 hE=>((pW.out.rest w1 (But.aW hE)).next (n:=3) (c:=qN+3) ae ae).next (n:=2) (c:=qN+2) ae ae |> λh=>by exact h
 have RS:Hid (∀y_∈[y1,y2],y_∈[l1,l2,y1,y2]):=zq λy_ hy=>by simp at hy|-;rcases hy with rfl|rfl<;>simp
 unfold QF at GY Xf;rw[<-Rk]at GY;rw[<-U5]at Xf;clear kF l_ nG Rk U5;have rX:Hid ((bF PT).1=0->pPlan PT=.mk 4 [] [] [] N1.1 [] [] ([y1,y2].map λy=>pPlan y.t)):=zq (λh=>by rw[Oc,wu hl]at h;exact absurd h hl);have vP:Hid (bF PT=fU N1.2 (aU ([y1,y2].map λy=>bF y.t))):=zq (by rw[Oc,wu hl,wu hl]);have hlb:(N1.2.1==0)=false:=awy.2 hl;have HL:=zq hl;clear Oc Xe pG G5 hz1 hz2 hl Xf;go_enter func39,ntmps39;go_upto_region 32 with (first
  | ((with_reducible refine(CP.out _ HE.out).mono ?_);rintro r w1 ⟨rfl,aN⟩;have E1:=zq (HE.out.trans aN);have F1:=zq aN;have hx1:=(HX.out.ev aN).lt;have hr1:=(HR.out.ev aN).lt;clear c0 c1 c2 c3 c4;obtain⟨⟨c0,c1,c2,c3,c4⟩,_⟩:=(HX.out.ev aN).five;have o8:=Bx.new 32 ↑Zz.b w1;clear aN)
  | ((with_reducible refine(xq.out _ (E1.out.trans aB)).mono ?_);rintro r w2 ⟨rfl,bM⟩;have F2:=zq ((F1.out.trans aB).trans bM);have BP:=zq (o8.ev bM);obtain⟨⟨p0,p1,p2,p3,p4,p5,p6,p7⟩,z0,z1,z2,z3,z4,z5,z6,z7⟩:=(o8.ev bM).eight;clear bM o8 c0 c1 c2 c3 c4;obtain⟨⟨c0,c1,c2,c3,c4⟩,_⟩:=(HX.out.ev F2.out).five))
 obtain⟨wA,zK⟩:∃wA,wA=w2.setCell ⟨↑w1,0,none⟩ (.int .i64 4):=⟨_,rfl⟩
 rw[<-zK];have Fa:Hid (Bx 32 w1.heap.size #[.int .i64 4,.string ⟨#[]⟩,↑(),↑(),↑(),↑(),↑(),↑()] wA):=zq (by rw[zK];have:=BP.out.set 0 (.int .i64 4);simpa using this);have FA:Hid (Ev w0 wA):=zq (by rw[zK];exact F2.out.box (But.setCell _ _ aj) F1.out.size);have EA:Hid (Ev w wA):=zq (HE.out.trans FA.out);clear zK p0 p1 p2 p3 p4 p5 p6 p7 z0 z1 z2 z3 z4 z5 z6 z7 c0 c1 c2 c3 c4;obtain⟨⟨p0,p1,p2,p3,p4,p5,p6,p7⟩,z0,z1,z2,z3,z4,z5,z6,z7⟩:=Fa.out.eight;obtain⟨⟨c0,c1,c2,c3,c4⟩,_⟩:=(HX.out.ev FA.out).five;have hpA:=Fa.out.lt;obtain⟨y0,y1_,y2_,y3,y4⟩:=uT.out 0 l1 rfl _ EA.out;simp only[aw3,axK]at y3;clear y0 y1_ y2_ y4;go_upto_region 52 with (first
  | ((with_reducible refine(GY.out _ EA.out).mono ?_);rintro r w3 ⟨X1,rfl,wQ,yH,dV⟩;have ade:=zq wQ;have adf:=zq yH;have E3:=zq dV;clear p0 p1 p2 p3 p4 p5 p6 p7 z0 z1 z2 z3 z4 z5 z6 z7;obtain⟨⟨p0,p1,p2,p3,p4,p5,p6,p7⟩,z0,z1,z2,z3,z4,z5,z6,z7⟩:=(Fa.out.ev dV).eight;clear dV wQ yH))
 obtain⟨wL,DZ⟩:∃wL,wL=w3.setCell ⟨w1.heap.size,4,none⟩ (.slice X1.A X1.l.length X1.cap):=⟨_,rfl⟩
 rw[<-DZ];have IG:But [w1.heap.size] w3 wL:=by rw[DZ];exact But.setCell _ _ aj
 have DN:Hid (tZ w0 w1.heap.size (.mk 4 [] .nil .nil X1 .nil .nil none 0 []) wL):=zq (tZ.aac rfl rfl rfl (by rw[DZ];have:=(Fa.out.ev E3.out).set 4 (.slice X1.A X1.l.length X1.cap);simpa[rY,PM.kind,PM.name,PM.ex,PM.co,PM.lf,PM.rt,PM.ag,PM.A,PM.cap,PM.kids,fH.nil] using this) ⟨bI.nil ..,(λe he=>by cases he),bI.nil ..,(qx adf.out IG (λk hk=>by simp at hk;omega)).low hpA,bI.nil ..,bI.nil ..⟩ ((FA.out.trans E3.out).box IG F1.out.size) F1.out.size);have rX:Hid ((bF PT).1=0->pPlan PT=.mk 4 [] [] [] X1.l [] [] ([y1,y2].map λy=>pPlan y.t)):=zq (λh=>by rw[rX.out h,ade.out]);clear DZ IG p0 p1 p2 p3 p4 p5 p6 p7 z0 z1 z2 z3 z4 z5 z6 z7 c0 c1 c2 c3 c4 y3 hlb;go_wp2;have Pg:=zq (λy (hy:y∈[y1,y2]) w1 (hE:Ev w w1)=>lM.out y (RS.out y hy) w1 hE);have qQ:=zq (HQ.out w aK).len;have N8:=(HQ.out w aK).le;have N9:=(HQ.out w aK).max
 go_loopw [7,8,16] (λyv av iv wr=>∃(j:Nat) (p:PM) (e:Er),yv=.int .i64 e.1/\av=.int .i64 (e.2:Int)/\iv=↑j/\j<=2/\Hid (tV [y1,y2] N1.2 (.mk 4 [] .nil .nil X1 .nil .nil none 0 []) j p e)/\Hid (tZ w0 w1.heap.size p wr)) (λ_ _ iv _=>2-(intOf iv).toNat)
 case atStart=>exact⟨0,.mk 4 [] .nil .nil X1 .nil .nil none 0 [],N1.2,rfl,rfl,rfl,awJ _,zq (tV.start _ _ _ rfl (λh=>absurd h HL.out)),DN⟩
 case round=>
  obtain⟨j,p,e,rfl,rfl,rfl,hj,HI,HK⟩:=hrel;have IU:=F1.out.size;have IV:=HR.out.lt;by_cases he:e.1=0;have IW:=(HI.out.ok he).1;subst IW;by_cases hlt:j<2;exact ayE;obtain rfl:j=2:=ae;have wM:Hid (nV PT=(p.p,0,0)):=zq (tV.vX (p0:=.mk 4 [] .nil .nil X1 .nil .nil none 0 []) (by rw[qQ.out];exact HI.out) rfl vP.out rX.out);exact azb;exact ay0
theorem Oe(m:M)(b0:Nat)(w:ak)(hL:Lies b0 [] w m)(hfair:m.t.every dh=true)(hsz:m.t.size<=10000)(hf:gu m.t=true)(x:M)(q:List M)(hq:m.kids=x::q)(hs:x.s=iD)(hl:∀l r,q=l::r->(zM (l.kids.map M.t)).2.1=0)
  (ih:∀y∈q,∀w1,Ev w w1->Calls ax 39 #[.agg ↑y] w1 (bP (nV y.t) w1)):
  Calls ax 39 #[.agg ↑m] w (bP (nV m.t) w):=by
 have ed:Tryz.prog.follows .mixedOrders=true:=ah;obtain⟨kF,l_,nG,hm1,hx2,sO⟩:=mY hq hf;have L9:Lies b0 [w.heap.size] w m:=hL.less λk hk=>by simp at hk;exact .inr (.inr ae)
 obtain⟨b,off,k,c,fE⟩:=vN L9 hq sO;have CP:=zq (λw1 (hE:Ev w w1)=>uH m b0 w1 (hL.ev hE));rw[hf]at CP;have xq:=zq (λw1 (hE:Ev w w1)=>kW m b0 w1 (hL.ev hE));have uh:Qq m.t=x.s:=by rw[Gw,hq];simp[hm1,M.uK,lV,hx2]
 rw[uh,hs]at xq;have zT:=zq (λy (hy:y∈q)=>mZ hq hy hfair hsz);have ND:=q_len hq hsz;have uT:=zq (λi y (hy:q[i]?=some y) w1 (hE:Ev w w1)=>fE.kid (i+1) y (by rw[hq];simpa using hy) w1 (But.aW hE));rw[hs]at kF l_ nG;unfold bP at ih|-;obtain⟨PT,uU⟩:∃PT,PT=m.t:=⟨_,rfl⟩
 rw[<-uU]at kF l_|-;have hA:=fE.hA;have hn:=fE.hn;have hc:=fE.hc;have qM:=fE.qM;have hcm:=fE.hcm;have nD:=fE.nD;have hbl:b<w.heap.size:=(fE.BQ w (But.refl _ _) off _ rfl).2.1;have pW:=zq fE;clear fE uU hq hL L9 hfair hsz sO hf hx2 uh;generalize AQ:m.kids.length=kn at*;generalize wJ:m.A=mA at*;generalize EM:m.cap=mc at*;generalize qE:m.kind=kd at*;generalize hs_:m.s=ms at*;generalize wI:m.n=mn at*;generalize EN:m.pos=mp at*;clear AQ wJ EM qE hs_ wI EN;subst hm1 hA hn hc;obtain⟨w0,hw0,aV,hX,hR⟩:=EZ w (.int .i64 1) ↑ms ↑mn (.slice ↑(b,off) (k+2) (c+2)) ↑mp;have HX:=zq hX;have HR:=zq hR;have HE:=zq aV;have lM:=zq ih;unfold iD at*;obtain⟨⟨c0,c1,c2,c3,c4⟩,_⟩:=hX.five;clear hX hR aV ih hs;have hk2:q.length=4:=by exact aBL
 obtain rfl:k=3:=ae;have HQF:=zq (λy (hy:y∈q)=>(zT.out y hy).1);obtain⟨l1,l2,y1,y2,rfl⟩:=UH hk2;obtain⟨qN,rfl⟩:∃c1,c=c1+3:=⟨c-3,ae⟩
 have hl:=hl _ _ rfl;obtain⟨N1,Rk⟩:∃N1,N1=zM (l1.kids.map M.t):=⟨_,rfl⟩
 obtain⟨N2,U5⟩:∃N2,N2=zM (l2.kids.map M.t):=⟨_,rfl⟩
 have hz1:N1.2.1=0->N1.2=(0,0):=by rw[Rk,nX];exact yD _
 have hz2:N2.2.1=0->N2.2=(0,0):=by rw[U5,nX];exact yD _
 have Oc:bF PT=fU N1.2 (fU N2.2 (aU ([y1,y2].map λy=>bF y.t))):=by exact aBl
 have Xe:pPlan PT=.mk 4 [] [] [] (l1.kids.map M.s) (l2.kids.map M.s) [] ([y1,y2].map λy=>pPlan y.t):=by exact azU
 have pG:N1.2.1=0->N1.1=l1.kids.map M.s:=λh=>by rw[Rk]at h|-;rw[vZ _ h,awT];exact axl λx _=>M.uK x
 have G5:N2.2.1=0->N2.1=l2.kids.map M.s:=λh=>by rw[U5]at h|-;rw[vZ _ h,awT];exact axl λx _=>M.uK x
 rw[<-Rk]at hl;have GY:=zq (λw1 (hE:Ev w w1)=>AL l1.kids l1.A l1.kids.length l1.cap w1 ((pW.out.lies l1 aj w (But.refl _ _)).ms.ev hE) (by have:=yE (zT.out l1 aj).2;omega) (rZ (HQF.out l1 aj)));have Xf:=zq (λw1 (hE:Ev w w1)=>AL l2.kids l2.A l2.kids.length l2.cap w1 ((pW.out.lies l2 aj w (But.refl _ _)).ms.ev hE) (by have:=yE (zT.out l2 aj).2;omega) (rZ (HQF.out l2 aj)));have HQ:Hid (∀w1,Ev w w1->Ms w1 ↑(b,off+15) 2 (qN+2) [y1,y2]):=zq λw1 hE=>((pW.out.rest w1 (But.aW hE)).next (n:=3) (c:=qN+3) ae ae).next (n:=2) (c:=qN+2) ae ae |> λh=>by exact h
 have RS:Hid (∀y_∈[y1,y2],y_∈[l1,l2,y1,y2]):=zq λy_ hy=>by simp at hy|-;rcases hy with rfl|rfl<;>simp
 unfold QF at GY Xf;rw[<-Rk]at GY;rw[<-U5]at Xf;clear kF l_ nG Rk U5;have hz:=hz1 hl;have vP:Hid (bF PT=fU N2.2 (aU ([y1,y2].map λy=>bF y.t))):=zq (by rw[Oc,hz,<-Bj,GX hz2]);have rX:Hid ((bF PT).1=0->pPlan PT=.mk 4 [] [] [] N1.1 N2.1 [] ([y1,y2].map λy=>pPlan y.t)):=zq (λh=>by
  rw[Oc,uA,uA]at h;rw[Xe,pG h.1,G5 h.2.1])
 have HZ2:=zq hz2;rw[hz]at GY;simp only at GY;clear Oc Xe pG G5 hz1 hz2 hl hz;go_enter func39,ntmps39;go_upto_region 32 with (first
  | ((with_reducible refine(CP.out _ HE.out).mono ?_);rintro r w1 ⟨rfl,aN⟩;have E1:=zq (HE.out.trans aN);have F1:=zq aN;have hx1:=(HX.out.ev aN).lt;have hr1:=(HR.out.ev aN).lt;clear c0 c1 c2 c3 c4;obtain⟨⟨c0,c1,c2,c3,c4⟩,_⟩:=(HX.out.ev aN).five;have o8:=Bx.new 32 ↑Zz.b w1;clear aN)
  | ((with_reducible refine(xq.out _ (E1.out.trans aB)).mono ?_);rintro r w2 ⟨rfl,bM⟩;have F2:=zq ((F1.out.trans aB).trans bM);have BP:=zq (o8.ev bM);obtain⟨⟨p0,p1,p2,p3,p4,p5,p6,p7⟩,z0,z1,z2,z3,z4,z5,z6,z7⟩:=(o8.ev bM).eight;clear bM o8 c0 c1 c2 c3 c4;obtain⟨⟨c0,c1,c2,c3,c4⟩,_⟩:=(HX.out.ev F2.out).five))
 obtain⟨wA,zK⟩:∃wA,wA=w2.setCell ⟨↑w1,0,none⟩ (.int .i64 4):=⟨_,rfl⟩
 rw[<-zK];have Fa:Hid (Bx 32 w1.heap.size #[.int .i64 4,.string ⟨#[]⟩,↑(),↑(),↑(),↑(),↑(),↑()] wA):=zq (by rw[zK];have:=BP.out.set 0 (.int .i64 4);simpa using this);have FA:Hid (Ev w0 wA):=zq (by rw[zK];exact F2.out.box (But.setCell _ _ aj) F1.out.size);have EA:Hid (Ev w wA):=zq (HE.out.trans FA.out);clear zK p0 p1 p2 p3 p4 p5 p6 p7 z0 z1 z2 z3 z4 z5 z6 z7 c0 c1 c2 c3 c4;obtain⟨⟨p0,p1,p2,p3,p4,p5,p6,p7⟩,z0,z1,z2,z3,z4,z5,z6,z7⟩:=Fa.out.eight;obtain⟨⟨c0,c1,c2,c3,c4⟩,_⟩:=(HX.out.ev FA.out).five;have hpA:=Fa.out.lt;obtain⟨y0,y1_,y2_,y3,y4⟩:=uT.out 0 l1 rfl _ EA.out;simp only[aw3,axK]at y3;clear y0 y1_ y2_ y4;go_upto_region 34 with (first
  | ((with_reducible refine(GY.out _ EA.out).mono ?_);rintro r w3 ⟨X1,rfl,wQ,yH,dV⟩;have ade:=zq wQ;have adf:=zq yH;have E3:=zq dV;clear p0 p1 p2 p3 p4 p5 p6 p7 z0 z1 z2 z3 z4 z5 z6 z7;obtain⟨⟨p0,p1,p2,p3,p4,p5,p6,p7⟩,z0,z1,z2,z3,z4,z5,z6,z7⟩:=(Fa.out.ev dV).eight;clear dV wQ yH))
 obtain⟨wB,hwB⟩:∃wB,wB=w3.setCell ⟨w1.heap.size,4,none⟩ (.slice X1.A X1.l.length X1.cap):=⟨_,rfl⟩
 rw[<-hwB];have IG:But [w1.heap.size] w3 wB:=by rw[hwB];exact But.setCell _ _ aj
 have BPB:Hid (Bx 32 w1.heap.size #[.int .i64 4,.string ⟨#[]⟩,↑(),↑(),.slice X1.A X1.l.length X1.cap,↑(),↑(),↑()] wB):=zq (by rw[hwB];have:=(Fa.out.ev E3.out).set 4 (.slice X1.A X1.l.length X1.cap);simpa using this);have FB:Hid (Ev w0 wB):=zq ((FA.out.trans E3.out).box IG F1.out.size);have EB:Hid (Ev w wB):=zq (HE.out.trans FB.out);have HXB:=zq (qx adf.out IG (λk hk=>by simp at hk;omega));clear hwB IG p0 p1 p2 p3 p4 p5 p6 p7 z0 z1 z2 z3 z4 z5 z6 z7 c0 c1 c2 c3 c4 y3;obtain⟨⟨p0,p1,p2,p3,p4,p5,p6,p7⟩,z0,z1,z2,z3,z4,z5,z6,z7⟩:=BPB.out.eight;obtain⟨⟨c0,c1,c2,c3,c4⟩,_⟩:=(HX.out.ev FB.out).five;obtain⟨y0,y1_,y2_,y3,y4⟩:=uT.out 1 l2 rfl _ EB.out;simp only[show (1+1)*5=10 from rfl]at y3;have hpB:=BPB.out.lt;clear y0 y1_ y2_ y4;go_upto_region 52 with (first
  | ((with_reducible refine(Xf.out _ EB.out).mono ?_);rintro r w4 ⟨X2,rfl,wQ,yH,dV⟩;have apu:=zq wQ;have apv:=zq yH;have E4:=zq dV;clear p0 p1 p2 p3 p4 p5 p6 p7 z0 z1 z2 z3 z4 z5 z6 z7;obtain⟨⟨p0,p1,p2,p3,p4,p5,p6,p7⟩,z0,z1,z2,z3,z4,z5,z6,z7⟩:=(BPB.out.ev dV).eight;clear dV wQ yH))
 obtain⟨wL,DZ⟩:∃wL,wL=w4.setCell ⟨w1.heap.size,5,none⟩ (.slice X2.A X2.l.length X2.cap):=⟨_,rfl⟩
 rw[<-DZ];have IG:But [w1.heap.size] w4 wL:=by rw[DZ];exact But.setCell _ _ aj
 have DN:Hid (tZ w0 w1.heap.size (.mk 4 [] .nil .nil X1 X2 .nil none 0 []) wL):=zq (tZ.aac rfl rfl rfl (by rw[DZ];have:=(BPB.out.ev E4.out).set 5 (.slice X2.A X2.l.length X2.cap);simpa[rY,PM.kind,PM.name,PM.ex,PM.co,PM.lf,PM.rt,PM.ag,PM.A,PM.cap,PM.kids,fH.nil] using this) ⟨bI.nil ..,(λe he=>by cases he),bI.nil ..,(qx (HXB.out.move (But.aW E4.out) (λx hx=>.inl hx)) IG (λk hk=>by simp at hk;omega)).low hpA,(qx apv.out IG (λk hk=>by simp at hk;omega)).low hpB,bI.nil ..⟩ ((FB.out.trans E4.out).box IG F1.out.size) F1.out.size);have rX:Hid ((bF PT).1=0->pPlan PT=.mk 4 [] [] [] X1.l X2.l [] ([y1,y2].map λy=>pPlan y.t)):=zq (λh=>by rw[rX.out h,ade.out,apu.out]);clear DZ IG p0 p1 p2 p3 p4 p5 p6 p7 z0 z1 z2 z3 z4 z5 z6 z7 c0 c1 c2 c3 c4 y3;go_wp2;have Pg:=zq (λy (hy:y∈[y1,y2]) w1 (hE:Ev w w1)=>lM.out y (RS.out y hy) w1 hE);have qQ:=zq (HQ.out w aK).len;have N8:=(HQ.out w aK).le;have N9:=(HQ.out w aK).max
 go_loopw [7,8,16] (λyv av iv wr=>∃(j:Nat) (p:PM) (e:Er),yv=.int .i64 e.1/\av=.int .i64 (e.2:Int)/\iv=↑j/\j<=2/\Hid (tV [y1,y2] N2.2 (.mk 4 [] .nil .nil X1 X2 .nil none 0 []) j p e)/\Hid (tZ w0 w1.heap.size p wr)) (λ_ _ iv _=>2-(intOf iv).toNat)
 case atStart=>exact⟨0,.mk 4 [] .nil .nil X1 X2 .nil none 0 [],N2.2,rfl,rfl,rfl,awJ _,zq (tV.start _ _ _ rfl HZ2.out),DN⟩
 case round=>
  obtain⟨j,p,e,rfl,rfl,rfl,hj,HI,HK⟩:=hrel;have IU:=F1.out.size;have IV:=HR.out.lt;by_cases he:e.1=0;have IW:=(HI.out.ok he).1;subst IW;by_cases hlt:j<2;exact ayE;obtain rfl:j=2:=ae;have wM:Hid (nV PT=(p.p,0,0)):=zq (tV.vX (p0:=.mk 4 [] .nil .nil X1 X2 .nil none 0 []) (by rw[qQ.out];exact HI.out) rfl vP.out rX.out);exact azb;exact ay0
structure FaI(al:List M)(e1:Er)(j:Nat)(L:List Ag)(e:Er):Prop where
 len:L.length<=j
 ok:e.1=0->e=(0,0)/\e1=(0,0)/\(∀y∈al.take j,(aU (eG y.t)).1=0)/\L=(al.take j).map λy=>kS y.t
 bad:e.1≠0->fU e1 (aU (al.flatMap λy=>eG y.t))=e
theorem Ph{al:List M}(h:∀y∈al,(aU (eG y.t)).1=0):aU (al.flatMap λy=>eG y.t)=(0,0):=xu λx hx=>by obtain⟨y,hy,hx⟩:=axV.1 hx;exact(gU _).1 (h y hy) x hx
theorem adg{al:List M}{j:Nat}{y:M}(h:∀y∈al.take j,(aU (eG y.t)).1=0)(hy:al[j]?=some y)(hne:(aU (eG y.t)).1≠0):aU (al.flatMap λy=>eG y.t)=aU (eG y.t):=by
 obtain⟨hk,hx⟩:=awz.1 hy;have hl:al=al.take j++y::al.drop (j+1):=by rw[<-hx,ax8,axs]
 rw[hl,ayf,axS,jK,jK,Ph h,wu hne,mP,if_neg hne]
theorem FaI.start(al:List M)(e1:Er)(hz:e1.1=0->e1=(0,0)):FaI al e1 0 [] e1:=
 ⟨awC _,λh=>⟨hz h,hz h,aj,aj⟩,λh=>wu h _⟩
theorem FaI.next{al:List M}{e1:Er}{j:Nat}{L:List Ag}{y:M}(h:FaI al e1 j L (0,0))(hy:al[j]?=some y):FaI al e1 (j+1) (L++[(Vb y.t).1]) (Vb y.t).2:=by
 obtain⟨_,h2,h3,h4⟩:=h.ok rfl;obtain⟨hk,e0⟩:=awz.1 hy;have oO:al.take (j+1)=al.take j++[y]:=by rw[awH hk,e0]
 by_cases hz:(aU (eG y.t)).1=0;have hR:Vb y.t=(kS y.t,(0,0)):=by unfold Vb;rw[if_pos hz]
 rw[hR];refine⟨by have:=h.len;simp;omega,λ_=>⟨rfl,h2,λz hz2=>?_,?_⟩,λhb=>absurd rfl hb⟩;rw[oO]at hz2;rcases awV.1 hz2 with h5|h5;exact h3 z h5;simp at h5;rw[h5];exact hz;rw[oO,awM,h4];rfl;have hR:Vb y.t=(([],[],[]),aU (eG y.t)):=by unfold Vb;rw[if_neg hz]
 rw[hR];refine⟨by have:=h.len;simp;omega,λhb=>absurd hb hz,λ_=>?_⟩;rw[adg h3 hy hz,h2,mP,if_neg hz]
theorem FaI.fin{al:List M}{e1 e:Er}{j:Nat}{L:List Ag}(h:FaI al e1 j L e)(hj:e.1=0->j=al.length):fU e1 (aU (al.flatMap λy=>eG y.t))=e/\(e.1=0->L=al.map λy=>kS y.t):=by by_cases he:e.1=0;obtain⟨h1,h2,h3,h4⟩:=h.ok he;rw[hj he,axk]at h3 h4;exact⟨by rw[Ph h3,h2,h1];rfl,λ_=>h4⟩;exact⟨h.bad he,λh0=>absurd h0 he⟩
structure FgK(w0:ak)(gp:Nat)(lf:fH By)(ag:fH Ag)(w:ak):Prop where
 box:Bx 32 gp #[.int .i64 7,.string ⟨#[]⟩,↑(),↑(),.slice lf.A lf.l.length lf.cap,↑(),.slice ag.A ag.l.length ag.cap,↑()] w
 own:Ow 54 3 ac (gp+1) w (.slice ag.A ag.l.length ag.cap) ag.l
 lf:bI 1 sc (gp+1) (foot (.slice ag.A ag.l.length ag.cap)) w lf
 ev:Ev w0 w
 Hl:w0.heap.size<=gp
theorem FgK.up{w0 w w':ak}{gp:Nat}{lf:fH By}{ag:fH Ag}(h:FgK w0 gp lf ag w)(hE:Ev w w'):FgK w0 gp lf ag w':=
 ⟨h.box.ev hE,h.own.ev hE,h.lf.move (But.aW hE) λ_ hx=>.inl hx,h.ev.trans hE,h.Hl⟩
theorem FgK.next{w0 wq w2:ak}{gp:Nat}{lf:fH By}{ag:fH Ag}{a:Ag}{v2:au}(h:FgK w0 gp lf ag wq)(hA:mf 54 3 ac (gp+1) wq (.slice ag.A ag.l.length ag.cap) (ag.l++[a]) v2 w2):
  ∃A2 cap2,v2=.slice A2 (ag.l.length+1) cap2/\FgK w0 gp lf ⟨A2,cap2,ag.l++[a]⟩ (w2.setCell ⟨gp,6,none⟩ v2):=by
 obtain⟨ho,hb,hs⟩:=hA;obtain⟨A2,cap2,rfl,qL,xJ⟩:=ho.form Ad;have hl:(ag.l++[a]).length=ag.l.length+1:=by rw[awE];rfl
 have Ny:=h.box.lt;have hK:gp∉foot (.slice ag.A ag.l.length ag.cap):=λhm=>by have:=(h.own.lt (aG.1 hm)).1;omega
 have hB2:=(h.box).but hb hK;have Iy:But [gp] w2 (w2.setCell ⟨gp,6,none⟩ (.slice A2 (ag.l++[a]).length cap2)):=But.setCell _ _ aj;have hf2:∀k∈foot (.slice A2 (ag.l++[a]).length cap2),k∈foot (.slice ag.A ag.l.length ag.cap)∨k<gp+1∨wq.heap.size<=k:=λk hk=>by exact aB_
 have hst:∀k∈gp::foot (.slice A2 (ag.l++[a]).length cap2),k∈foot (.slice A2 (ag.l++[a]).length cap2)∨k<gp+1∨w2.heap.size<=k:=λk hk=>by exact aCi
 have afA:But (gp::foot (.slice A2 (ag.l++[a]).length cap2)) w2 (w2.setCell ⟨gp,6,none⟩ (.slice A2 (ag.l++[a]).length cap2)):=Iy.wide λk hk=>by simp at hk;subst hk;exact .inl aj
 have hin:∀k∈foot (.slice A2 (ag.l++[a]).length cap2),k∈gp::foot (.slice A2 (ag.l++[a]).length cap2)∨k<gp+1∨w2.heap.size<=k:=λk hk=>.inl (awK _ hk);refine⟨A2,cap2,by rw[hl],?_,?_,?_,?_,h.Hl⟩;have:=hB2.set 6 (.slice A2 (ag.l++[a]).length cap2);simpa using this;exact ho.but Iy λg hg=>by have:=(ho.lt hg).1;simp;omega
 have h1:bI 1 sc (gp+1) (foot (.slice A2 (ag.l++[a]).length cap2)) w2 lf:=h.lf.move hb hf2;exact(h1.move (But.refl _ _) hst).move afA hin;have h1:Ev w0 w2:=((But.aW h.ev).then hb).ev λk hk=>by have:=(h.own.lt (aG.1 hk)).1;have:=h.Hl;omega
 exact h1.box Iy h.Hl
theorem FgK.after{w0 wq w2:ak}{gp:Nat}{lf:fH By}{ag:fH Ag}{v2:au}{L:List Ag}(h:FgK w0 gp lf ag wq)(hA:mf 54 3 ac (gp+1) wq (.slice ag.A ag.l.length ag.cap) L v2 w2):Bx 32 gp #[.int .i64 7,.string ⟨#[]⟩,↑(),↑(),.slice lf.A lf.l.length lf.cap,↑(),.slice ag.A ag.l.length ag.cap,↑()] w2:=
 h.box.but hA.2.1 λhm=>by have:=(h.own.lt (aG.1 hm)).1;omega
theorem aBI(h:U:=by have:=h.box;simpa[rY,PM.kind,PM.name,PM.ex,PM.co,PM.lf,PM.rt,PM.ag,PM.A,PM.cap,PM.kids,fH.nil] using this):U:=h
theorem FgK.done{w0 w:ak}{gp:Nat}{lf:fH By}{ag:fH Ag}(h:FgK w0 gp lf ag w):tZ w0 gp (.mk 7 [] .nil .nil lf .nil ag none 0 []) w:=by
 obtain⟨A2,cap2,hv,qL,xJ⟩:=h.own.form Ad;injection hv with h1 h2 h3
 refine tZ.aac rfl rfl rfl ?_ ⟨bI.nil ..,(λe he=>by cases he),bI.nil ..,h.lf.move (But.refl _ _) (λk hk=>by cases hk),bI.nil ..,⟨by show Sl 3 ac w ag.A ag.l.length ag.cap ag.l;rw[h1,h3];exact qL,λad e=>by have e:ag.A=some ad:=e;rw[h1]at e;exact⟨(xJ ad e).2.1,(xJ ad e).2.2.1,aj⟩⟩⟩ h.ev h.Hl;exact aBI
theorem Tryz.adh:(Tryz.prog.info? 54).map (λi=>(i.zero,i.size,i.bytes))=some (some (.agg #[.string ⟨#[]⟩,.string ⟨#[]⟩,.string ⟨#[]⟩]),3,48):=ah
theorem aaf(y:M)(b0:Nat)(w:ak)(h:Lies b0 [] w y)(hk:eF y.t=true)(hs:∀x∈y.kids,x.s.length<=1000000):
  Calls ax 83 #[.slice y.A y.kids.length y.cap] w (O3 (Vb y.t) w):=by
 unfold eF at hk;rw[awF,M.bD,awD,aw_,awO,awO]at hk;rcases hk.2 with h2|h2;obtain⟨a,b,e⟩:=xg h2;exact ae_ y a b w h.ms e hs;obtain⟨a,b,c,e⟩:∃a b c,y.kids=[a,b,c]:=by
  match hq:y.kids,h2 with
  | [a,b,c],_=>exact⟨a,b,c,rfl⟩
 exact ae' y a b c w h.ms e hs
end Go.Proofs.YtpbfokkocaemlaaGreatDoor
