import Derived.Test.YtpbfokkocaemlaaGreatDoorZ32J
set_option linter.unusedVariables false
set_option maxRecDepth 100000
set_option maxHeartbeats 64000000
namespace Go.Proofs.YtpbfokkocaemlaaGreatDoor
open Go.RowKit
open Go.Lib renaming hid → zq
open Go renaming World → ak
open Go renaming Value → au
open Go.Proofs.Tryz renaming prog → ax
variable {U:Prop}
open Go.Proofs.Tryz
def qx(l:List T):By:=40::printL true l
theorem iR{l:List T}(h:l≠[])(t:T):qx (l++[t])=qx l++(32::printS t):=by
 unfold qx;rw[rY]
 cases l with
 | nil=>exact absurd rfl h
 | cons a l=>simp
theorem aec(l:List T)(t:T):(qx l).length<=(qx (l++[t])).length:=by unfold qx;rw[rY];simp
theorem kX:∀(m l:List T),(qx l).length<=(qx (l++m)).length
 | [],l=>by simp
 | s::m,l=>by have h1:=kX m (l++[s]);rw[awI]at h1;exact awJ (aec l s) h1
theorem EF(l:List T):printS (bU l)=qx l++[41]:=by unfold bU qx;rw[qM];rfl
theorem vU(m:PM):printS (aH m.p)=qx (kF m.kind m.name (m.ex.l.map M.t) m.co.l m.lf.l m.rt.l m.ag.l++m.kids.map λx=>aH x.p)++[41]:=by rw[vJ,EF,PM.sD];simp[Pl.kind,Pl.name,Pl.exprs,Pl.cols,Pl.left,Pl.right,Pl.F7,Pl.kids,Function.comp_def]
def mr(p:Pl)(w:ak)(e:Ending)(w':ak):Prop:=e=.returned (.string ⟨(printS (aH p)).toArray⟩)/\Ev w w'
theorem LM(w:ak)(c0 c1 c2 c3 c4 c5 c6 c7:au):∃w0,w.alloc (.cells #[c0,c1,c2,c3,c4,c5,c6,c7] 32)=w0/\Ev w w0/\Bx 32 w.heap.size #[c0,c1,c2,c3,c4,c5,c6,c7] w0:=⟨_,rfl,Ev.alloc _ _,Bx.new _ _ _⟩
theorem uQ{l:List PM}{k:Nat}{x:PM}(hx:l[k]?=some x):(l.take (k+1)).map (λy=>aH y.p)=(l.take k).map (λy=>aH y.p)++[aH x.p]:=by obtain⟨hk,e⟩:=awi.1 hx;rw[aws hk,e,awt];rfl
theorem azB(h:U:=by have h1:=kX ((m.kids.drop j).map λx=>aH x.p) (HD++(m.kids.take j).map λx=>aH x.p);rw[awI,<-awt,axf]at h1;have h2:=congrArg List.length Gv.out;rw[awl]at h2;have:=qA.out;omega):U:=h
theorem aA0(h:U:=by obtain⟨⟨_,_,_,_,_,_,_,h7⟩,_⟩:=(BW.out.ev hE).eight;rw[xI.out];exact h7):U:=h
theorem ayj(h:U:=by
 have zh:Y.length<=1000000:=by rw[LQ];exact Uf.out (j+1)
 have l7:(⟨S.toArray⟩:ByteArray)++⟨#[32]⟩=⟨Z.toArray⟩:=by rw[hZ];exact eH S [32]
 have LK:(⟨Z.toArray⟩:ByteArray)++⟨PX.toArray⟩=⟨Y.toArray⟩:=by rw[hY];exact eH _ _
 have hz2:=dB Z;have hz3:=dB PX;have hyz:Z.length+PX.length<=1000000:=by rw[hY,awl]at zh;exact zh
 have hzl:Z.length=S.length+1:=by rw[hZ];simp
 have HI:=λw2 (hE:Ev w w2)=>HQK.out x iP w2 hE;rw[<-LP]at HI;have HI:=zq HI;have UZ:=zq LQ;have i1:(0:Int)<=(j:Int):=ae;have i2:(j:Int)<(nk:Int):=ae;clear hx iP qw Ri oV LP hZ hY LQ zh
 go_wp2_with (first
  | ((with_reducible refine(HI.out _ (EW.out.trans lN.out)).mono ?_);rintro r w8 ⟨rfl,lU⟩;have E8:=zq (lN.out.trans lU)))
 go_roundw
 case rel=>exact⟨j+1,Y,rfl,by go_num,ae,UZ,E8⟩
 case measure=>simp[intOf];omega):U:=h
theorem ayb(h:U:=by
 obtain⟨x,hx⟩:=ES.out.at (by rw[<-xI.out];exact hlt);have iP:=awm hx;obtain⟨b,off,Ri,hb,_⟩:=(ES.out.ev (EW.out.trans lN.out)).rd (by rw[<-xI.out];omega);have qw:=ES.out.ev (EW.out.trans lN.out);rw[Ri]at qw b7;obtain⟨c0,c1,c2,c3,c4,c5,c6,c7⟩:=Ps.cell qw hx;unfold fE.v PM.kv at*;have oV:=uQ hx;obtain⟨PX,LP⟩:∃PX,PX=printS (aH x.p):=⟨_,rfl⟩
 obtain⟨Z,hZ⟩:∃Z,Z=S++[32]:=⟨_,rfl⟩
 obtain⟨Y,hY⟩:∃Y,Y=Z++PX:=⟨_,rfl⟩
 have LQ:Y=qx (HD++(m.kids.take (j+1)).map λx=>aH x.p):=by rw[oV,<-awI,iR (by simp[lq]),<-HS.out,hY,hZ,LP];simp
 exact ayj):U:=h
theorem ay4(h:U:=by obtain rfl:j=nk:=ae;have l7:(⟨S.toArray⟩:ByteArray)++⟨#[41]⟩=⟨(S++[41]).toArray⟩:=eH S [41];have HC:=zq l7;have HF:Hid (PS=S++[41]):=zq (by rw[Gv.out,HS.out,xI.out,aw0]);clear l7;go_wp2;go_ret;refine⟨?_,EW.out.trans lN.out⟩;rw[HF.out,<-HC.out];rfl):U:=h
theorem QF(m:PM)(b0:Nat)(w:ak)(h:Qx b0 [] w m)(hk:m.kind=5)(hlen:(printS (aH m.p)).length<=1000000)(ih:∀x∈m.kids,∀w1,Ev w w1->Calls ax 40 #[pv x] w1 (mr x.p w1)):
  Calls ax 40 #[pv m] w (mr m.p w):=by
 obtain⟨PS,xg⟩:∃PS,PS=printS (aH m.p):=⟨_,rfl⟩
 have qF:=vU m;rw[hk]at qF;unfold mr at*;rw[<-xg]at qF hlen|-;have hQ:=h;have A7:=h.ps;have hle:=A7.le;have hmx:=A7.max;obtain⟨w0,hw0,aW,hB0⟩:=LM w (.int .i64 5) ↑m.name (.slice m.ex.A m.ex.l.length m.ex.cap) (.slice m.co.A m.co.l.length m.co.cap) (.slice m.lf.A m.lf.l.length m.lf.cap) (.slice m.rt.A m.rt.l.length m.rt.cap) (.slice m.ag.A m.ag.l.length m.ag.cap) (.slice m.A m.kids.length m.cap);have dM:=zq aW;have tV:=zq hB0;obtain⟨⟨p0,p1,p2,p3,p4,p5,p6,p7⟩,_⟩:=hB0.eight;unfold pv at ih|-;unfold fE.v PM.kv at*;rw[hk];obtain⟨HD,lq⟩:∃HD,HD=[aP iH]:=⟨_,rfl⟩
 have qF:PS=qx (HD++m.kids.map λx=>aH x.p)++[41]:=by rw[lq];exact qF
 have kL:Hid (([40,117,110,105,111,110]:By)=qx HD):=zq (by rw[lq];rfl);have EW:=dM;have BW:=tV;clear aW hB0 hQ h hk;go_enter func40,ntmps40;go_wp2;have qA:=zq hlen;have Gv:=zq qF;have ES:=zq A7;have HQK:=zq (λx (hx:x∈m.kids) w1 (hE:Ev w w1)=>ih x hx w1 hE);have Uf:Hid (∀j,(qx (HD++(m.kids.take j).map λx=>aH x.p)).length<=1000000):=zq λj=>by exact azB
 obtain⟨nk,yG⟩:∃nk,nk=m.kids.length:=⟨_,rfl⟩
 have xI:=zq yG;rw[<-yG]at hle;have IC:Hid (∀wz,Ev w0 wz->wz.cell? ⟨w.heap.size,7,none⟩=some (.slice m.A nk m.cap)):=zq λwz hE=>by exact aA0
 clear qF hlen A7 ih yG p0 p1 p2 p3 p4 p5 p6 p7;have b7:=IC.out _ aJ
 go_loopw [3,7] (λsv iv wr=>∃(j:Nat) (S:By),sv=↑S/\iv=↑j/\j<=nk/\Hid (S=qx (HD++(m.kids.take j).map λx=>aH x.p))/\Hid (Ev w0 wr)) (λ_ iv _=>nk - (intOf iv).toNat)
 case atStart=>exact⟨0,_,rfl,rfl,aww _,zq (by simpa using kL.out),zq aJ⟩
 case round=>
  obtain⟨j,S,rfl,rfl,hj,HS,lN⟩:=hrel;clear b7;have b7:=IC.out _ lN.out;have hz:=dB S;have Ij:S.length<=1000000:=by rw[HS.out];exact Uf.out j
  by_cases hlt:j<nk;exact ayb;exact ay4
theorem IE(m:PM)(b0:Nat)(w:ak)(h:Qx b0 [] w m)(hk:m.kind=6)(hlen:(printS (aH m.p)).length<=1000000)(ih:∀x∈m.kids,∀w1,Ev w w1->Calls ax 40 #[pv x] w1 (mr x.p w1)):
  Calls ax 40 #[pv m] w (mr m.p w):=by
 obtain⟨PS,xg⟩:∃PS,PS=printS (aH m.p):=⟨_,rfl⟩
 have qF:=vU m;rw[hk]at qF;unfold mr at*;rw[<-xg]at qF hlen|-;have hQ:=h;have A7:=h.ps;have hle:=A7.le;have hmx:=A7.max;obtain⟨w0,hw0,aW,hB0⟩:=LM w (.int .i64 6) ↑m.name (.slice m.ex.A m.ex.l.length m.ex.cap) (.slice m.co.A m.co.l.length m.co.cap) (.slice m.lf.A m.lf.l.length m.lf.cap) (.slice m.rt.A m.rt.l.length m.rt.cap) (.slice m.ag.A m.ag.l.length m.ag.cap) (.slice m.A m.kids.length m.cap);have dM:=zq aW;have tV:=zq hB0;obtain⟨⟨p0,p1,p2,p3,p4,p5,p6,p7⟩,_⟩:=hB0.eight;unfold pv at ih|-;unfold fE.v PM.kv at*;rw[hk];obtain⟨HD,lq⟩:∃HD,HD=[aP dN]:=⟨_,rfl⟩
 have qF:PS=qx (HD++m.kids.map λx=>aH x.p)++[41]:=by rw[lq];exact qF
 have kL:Hid (([40,100,105,115,116,105,110,99,116]:By)=qx HD):=zq (by rw[lq];rfl);have EW:=dM;have BW:=tV;clear aW hB0 hQ h hk;go_enter func40,ntmps40;go_wp2;have qA:=zq hlen;have Gv:=zq qF;have ES:=zq A7;have HQK:=zq (λx (hx:x∈m.kids) w1 (hE:Ev w w1)=>ih x hx w1 hE);have Uf:Hid (∀j,(qx (HD++(m.kids.take j).map λx=>aH x.p)).length<=1000000):=zq λj=>by exact azB
 obtain⟨nk,yG⟩:∃nk,nk=m.kids.length:=⟨_,rfl⟩
 have xI:=zq yG;rw[<-yG]at hle;have IC:Hid (∀wz,Ev w0 wz->wz.cell? ⟨w.heap.size,7,none⟩=some (.slice m.A nk m.cap)):=zq λwz hE=>by exact aA0
 clear qF hlen A7 ih yG p0 p1 p2 p3 p4 p5 p6 p7;have b7:=IC.out _ aJ
 go_loopw [3,7] (λsv iv wr=>∃(j:Nat) (S:By),sv=↑S/\iv=↑j/\j<=nk/\Hid (S=qx (HD++(m.kids.take j).map λx=>aH x.p))/\Hid (Ev w0 wr)) (λ_ iv _=>nk - (intOf iv).toNat)
 case atStart=>exact⟨0,_,rfl,rfl,aww _,zq (by simpa using kL.out),zq aJ⟩
 case round=>
  obtain⟨j,S,rfl,rfl,hj,HS,lN⟩:=hrel;clear b7;have b7:=IC.out _ lN.out;have hz:=dB S;have Ij:S.length<=1000000:=by rw[HS.out];exact Uf.out j
  by_cases hlt:j<nk;exact ayb;exact ay4
theorem LU(e:M)(b0:Nat)(w:ak)(hL:Lx b0 [] w e)(hr:dQ e.t=true)(hf:e.t.every cO=true)(hz:e.t.size<=10000)(hn:(xTree e.t).fine=true)(hl:(printS (xTree e.t)).length<=1000000):
  (Calls ax 85 #[.agg ↑(e,())] w λr w'=>∃x:M,r=.returned (.agg ↑x)/\(∀w2,Ev w' w2->Calls ax 84 #[.agg ↑x] w2 λr w''=>r=.returned (.string ⟨(printS (xTree e.t)).toArray⟩)/\Ev w2 w'')/\Ev w w'):=by
 refine(aea e.dep e b0 w (awj _) hL hr hf ae).mono ?_;rintro r w' ⟨x,rfl,hx,UI,hE⟩;refine⟨x,rfl,λw2 bQ=>?_,hE⟩;have h1:=aap UI w2 bQ (by rw[hx];exact hl) (by rw[hx];exact AA _ (jL _ hn).1);rw[hx]at h1;exact h1
theorem NU(m:PM)(b0:Nat)(w:ak)(h:Qx b0 [] w m)(hk:m.kind=2)(e:M)(he:m.ex.l=[e])(hr:dQ e.t=true)(hf:e.t.every cO=true)(hz:e.t.size<=10000)(hn:(xTree e.t).fine=true)(hlen:(printS (aH m.p)).length<=1000000)(ih:∀x∈m.kids,∀w1,Ev w w1->Calls ax 40 #[pv x] w1 (mr x.p w1)):
  Calls ax 40 #[pv m] w (mr m.p w):=by
 obtain⟨PS,xg⟩:∃PS,PS=printS (aH m.p):=⟨_,rfl⟩
 have qF:=vU m;rw[hk]at qF;unfold mr at*;rw[<-xg]at qF hlen|-;have hQ:=h;have A7:=h.ps;have hle:=A7.le;have hmx:=A7.max;obtain⟨w0,hw0,aW,hB0⟩:=LM w (.int .i64 2) ↑m.name (.slice m.ex.A m.ex.l.length m.ex.cap) (.slice m.co.A m.co.l.length m.co.cap) (.slice m.lf.A m.lf.l.length m.lf.cap) (.slice m.rt.A m.rt.l.length m.rt.cap) (.slice m.ag.A m.ag.l.length m.ag.cap) (.slice m.A m.kids.length m.cap);have dM:=zq aW;have tV:=zq hB0;obtain⟨⟨p0,p1,p2,p3,p4,p5,p6,p7⟩,_⟩:=hB0.eight;unfold pv at ih|-;unfold fE.v PM.kv at*;rw[hk];obtain⟨PE,vO⟩:∃PE,PE=printS (xTree e.t):=⟨_,rfl⟩
 rw[he]at qF;obtain⟨HD,lq⟩:∃HD,HD=[aP d_,xTree e.t]:=⟨_,rfl⟩
 have qF:PS=qx (HD++m.kids.map λx=>aH x.p)++[41]:=by rw[lq];exact qF
 have hS1:qx HD=[40,102,105,108,116,101,114]++[32]++PE:=by rw[lq,show [aP d_,xTree e.t]=[aP d_]++[xTree e.t] from rfl,iR aj,vO];rfl
 have hpl:PE.length<=1000000:=by have h1:=kX (m.kids.map λx=>aH x.p) HD;have h2:=congrArg List.length qF;have h3:=congrArg List.length hS1;simp only[awl,awr,aw']at h2 h3;omega
 obtain⟨hex,hlx,_⟩:=hQ.at;have hes:=hex.sl;have hel:m.ex.l.length=1:=by rw[he];rfl
 rw[he]at hes;have hLe:=hlx e (by rw[he];simp);have UT:=hes.le;have at7:=hes.max;obtain⟨be,aua,heA,Yl,_⟩:=Es.cell hes (i:=0) (x:=e) rfl;rw[heA]at hes;have HEC:=zq (λw1 (hE:Ev w w1)=>Es.cell (hes.ev hE) (i:=0) (x:=e) rfl);have HTR:=zq (λw1 (hE:Ev w w1)=>LU e b0 w1 (hLe.ev hE) hr hf hz hn (by rw[<-vO];exact hpl));rw[<-vO]at HTR;rw[hel,heA]at p2 tV hw0|-;obtain⟨be',aqz,OE,_,e0,e1,e2,e3⟩:=HEC.out _ dM.out;injection OE with OE
 injection OE with h1 h2 _
 subst h1 h2;simp only[awW,awM]at e0 e1 e2 e3;unfold M.kv at e3;obtain⟨S1,ag5⟩:∃S1,S1=qx HD:=⟨_,rfl⟩
 have ab3:(⟨#[40,102,105,108,116,101,114]⟩:ByteArray)++⟨#[32]⟩=⟨#[40,102,105,108,116,101,114,32]⟩:=eH [40,102,105,108,116,101,114] [32];have l7:(⟨#[40,102,105,108,116,101,114,32]⟩:ByteArray)++⟨PE.toArray⟩=⟨S1.toArray⟩:=by rw[ag5,hS1];exact eH [40,102,105,108,116,101,114,32] PE
 have hze:=dB PE;have kL:Hid (S1=qx HD):=zq ag5;clear aW hB0 hQ h hk hes hex hlx hLe he hel heA vO hS1 ag5 hr hf hz hn;go_enter func40,ntmps40
 go_wp2_with (first
  | ((with_reducible refine(HTR.out _ dM.out).mono ?_);rintro r w1 ⟨x1,rfl,hPr,aK⟩;have aoe:=zq hPr;have E1:=zq (dM.out.trans aK);have F1:=zq aK;clear hPr aK)
  | ((with_reducible refine(aoe.out _ aJ).mono ?_);rintro r w2 ⟨rfl,bQ⟩;have EW:=zq (E1.out.trans bQ);have BW:=zq (tV.out.ev (F1.out.trans bQ));clear bQ))
 have qA:=zq hlen;have Gv:=zq qF;have ES:=zq A7;have HQK:=zq (λx (hx:x∈m.kids) w1 (hE:Ev w w1)=>ih x hx w1 hE);have Uf:Hid (∀j,(qx (HD++(m.kids.take j).map λx=>aH x.p)).length<=1000000):=zq λj=>by exact azB
 obtain⟨nk,yG⟩:∃nk,nk=m.kids.length:=⟨_,rfl⟩
 have xI:=zq yG;rw[<-yG]at hle;have IC:Hid (∀wz,Ev w2 wz->wz.cell? ⟨w.heap.size,7,none⟩=some (.slice m.A nk m.cap)):=zq λwz hE=>by exact aA0
 clear qF hlen A7 ih yG p0 p1 p2 p3 p4 p5 p6 p7 l7 ab3;have b7:=IC.out _ aJ
 go_loopw [3,7] (λsv iv wr=>∃(j:Nat) (S:By),sv=↑S/\iv=↑j/\j<=nk/\Hid (S=qx (HD++(m.kids.take j).map λx=>aH x.p))/\Hid (Ev w2 wr)) (λ_ iv _=>nk - (intOf iv).toNat)
 case atStart=>exact⟨0,_,rfl,rfl,aww _,zq (by simpa using kL.out),zq aJ⟩
 case round=>
  obtain⟨j,S,rfl,rfl,hj,HS,lN⟩:=hrel;clear b7;have b7:=IC.out _ lN.out;have hz:=dB S;have Ij:S.length<=1000000:=by rw[HS.out];exact Uf.out j
  by_cases hlt:j<nk;exact ayb;exact ay4
theorem QG(m:PM)(b0:Nat)(w:ak)(h:Qx b0 [] w m)(hk:m.kind=1)(Po:m.kids=[])(hlen:(printS (aH m.p)).length<=1000000):
  Calls ax 40 #[pv m] w (mr m.p w):=by
 obtain⟨PS,xg⟩:∃PS,PS=printS (aH m.p):=⟨_,rfl⟩
 have qF:=vU m;rw[hk,Po]at qF;unfold mr;rw[<-xg]at qF hlen|-;have hS1:PS=[40,116,97,98,108,101,32]++m.name++[41]:=by rw[qF];show qx ([aP gU]++[aP m.name]++[])++[41]=_;rw[axE,iR aj,show printS (aP m.name)=m.name by unfold aP;simp[printS]];rfl
 obtain⟨w0,hw0,aW,hB0⟩:=LM w (.int .i64 1) ↑m.name (.slice m.ex.A m.ex.l.length m.ex.cap) (.slice m.co.A m.co.l.length m.co.cap) (.slice m.lf.A m.lf.l.length m.lf.cap) (.slice m.rt.A m.rt.l.length m.rt.cap) (.slice m.ag.A m.ag.l.length m.ag.cap) (.slice m.A m.kids.length m.cap);have dM:=zq aW;obtain⟨⟨p0,p1,p2,p3,p4,p5,p6,p7⟩,_⟩:=hB0.eight;unfold pv fE.v PM.kv;rw[hk];obtain⟨Z,hZ⟩:∃Z,Z=[40,116,97,98,108,101,32]++m.name:=⟨_,rfl⟩
 have l7:(⟨#[40,116,97,98,108,101,32]⟩:ByteArray)++⟨m.name.toArray⟩=⟨Z.toArray⟩:=by rw[hZ];exact eH [40,116,97,98,108,101,32] _
 have LK:(⟨Z.toArray⟩:ByteArray)++⟨#[41]⟩=⟨PS.toArray⟩:=by rw[hS1,<-hZ];exact eH Z [41]
 have hz:=dB m.name;have hz2:=dB Z;have hl2:Z.length+1<=1000000:=by rw[hS1,<-hZ,awl]at hlen;exact hlen
 have hl3:7+m.name.length=Z.length:=by rw[hZ,awl];rfl
 clear aW hB0 h hk Po qF xg hlen hS1 hZ;go_enter func40,ntmps40;go_wp2;go_ret;exact⟨rfl,dM.out⟩
theorem sU{ρ:Operand->au}{o:Oper}{x y:Operand}{a b c:By}(ho:o.op=.binOp .add 9 x y 9)(hx:ρ x=↑a)(hy:ρ y=↑b)(hc:c=a++b)(hl:c.length<=1000000)(w:ak):
  (execOp ρ o).run ax w=.ok (.value ↑c) w:=by
 have h1:=dB a;have h2:=dB b;have h3:=eH a b;rw[<-hc]at h3;have h4:a.length+b.length<=1000000:=by rw[hc,awl]at hl;exact hl
 unfold execOp;rw[ho];simp[hx,hy,go_sem,h1,h2,h3,show a.length+b.length<=9223372036854775807 by omega]
theorem QH(l:List By)(A:Option Addr)(n cap:Nat)(P:By)(hP:P=printS (aU l))(w:ak)(h:Ss w A n cap l)(hb:P.length<=1000000):
  Calls ax 86 #[.slice A n cap] w λe w'=>e=.returned ↑P/\Ev w w':=by
 subst hP;refine aeb l A n cap w h ?_;rw[OY,awl]at hb;omega
theorem aAn(h:U:=by
 have e1:a.eval (.tmp 1)=.pointer ↑w.heap.size:=(c.was 1 rfl)
 generalize a.eval=ρ at e1|-;simp[execOp,e1,go_sem]):U:=h
theorem Ug(m:PM)(b0:Nat)(w:ak)(h:Qx b0 [] w m)(hk:m.kind=4)(hlen:(printS (aH m.p)).length<=1000000)(ih:∀x∈m.kids,∀w1,Ev w w1->Calls ax 40 #[pv x] w1 (mr x.p w1)):
  Calls ax 40 #[pv m] w (mr m.p w):=by
 obtain⟨PS,xg⟩:∃PS,PS=printS (aH m.p):=⟨_,rfl⟩
 have qF:=vU m;rw[hk]at qF;unfold mr at*;rw[<-xg]at qF hlen|-;have hQ:=h;have A7:=h.ps;have hle:=A7.le;have hmx:=A7.max;obtain⟨w0,hw0,aW,hB0⟩:=LM w (.int .i64 4) ↑m.name (.slice m.ex.A m.ex.l.length m.ex.cap) (.slice m.co.A m.co.l.length m.co.cap) (.slice m.lf.A m.lf.l.length m.lf.cap) (.slice m.rt.A m.rt.l.length m.rt.cap) (.slice m.ag.A m.ag.l.length m.ag.cap) (.slice m.A m.kids.length m.cap);have dM:=zq aW;have tV:=zq hB0;obtain⟨⟨p0,p1,p2,p3,p4,p5,p6,p7⟩,_⟩:=hB0.eight;unfold pv at ih|-;unfold fE.v PM.kv at*;rw[hk];obtain⟨PL,hPL⟩:∃PL,PL=printS (aU m.lf.l):=⟨_,rfl⟩
 obtain⟨PR,hPR⟩:∃PR,PR=printS (aU m.rt.l):=⟨_,rfl⟩
 obtain⟨HD,lq⟩:∃HD,HD=[aP gB,aU m.lf.l,aU m.rt.l]:=⟨_,rfl⟩
 have qF:PS=qx (HD++m.kids.map λx=>aH x.p)++[41]:=by rw[lq];exact qF
 obtain⟨J1,hJ1⟩:∃J1:By,J1=[40,106,111,105,110,32]++PL:=⟨_,rfl⟩
 obtain⟨J2,hJ2⟩:∃J2,J2=J1++[32]:=⟨_,rfl⟩
 obtain⟨J3,hJ3⟩:∃J3,J3=J2++PR:=⟨_,rfl⟩
 have hS1:J3=qx HD:=by rw[lq,show [aP gB,aU m.lf.l,aU m.rt.l]=([aP gB]++[aU m.lf.l])++[aU m.rt.l] from rfl,iR aj,iR aj,<-hPL,<-hPR,hJ3,hJ2,hJ1];show _=([40,106,111,105,110]++_)++_;simp
 have hl3:J3.length<=1000000:=by have h1:=kX (m.kids.map λx=>aH x.p) HD;have h2:=congrArg List.length qF;rw[awl,List.length_singleton]at h2;rw[hS1];omega
 have hl2:J2.length<=1000000:=by rw[hJ3,awl]at hl3;omega
 have MR:J1.length<=1000000:=by rw[hJ2,awl]at hl2;omega
 have hpl:PL.length<=1000000:=by rw[hJ1,awl]at MR;omega
 have aog:PR.length<=1000000:=by rw[hJ3,awl]at hl3;omega
 obtain⟨_,_,_,tq,hrt,_⟩:=hQ.at;have MQ:=zq (λw1 (hE:Ev w w1)=>QH m.lf.l m.lf.A m.lf.l.length m.lf.cap PL hPL w1 (tq.sl.ev hE) hpl);have Eo:=zq (λw1 (hE:Ev w w1)=>QH m.rt.l m.rt.A m.rt.l.length m.rt.cap PR hPR w1 (hrt.sl.ev hE) aog);have hb0:=hB0.lt;have HJ1:=zq hJ1;have HJ2:=zq hJ2;have HJ3:=zq hJ3;have kL:Hid (J3=qx HD):=zq hS1;have fD:Tryz.prog.follows .mixedOrders=true:=ah;clear aW hB0 hQ h hk tq hrt hPL hPR hS1 hJ1 hJ2 hJ3;go_enter func40,ntmps40;go_upto_region 17 with fail
 refine dD fD [λv _=>v=.pointer (some ⟨w.heap.size,4,none⟩),λv _=>v=.slice m.lf.A m.lf.l.length m.lf.cap,λv _=>v=↑PL,λv _=>v=↑J1,λv _=>v=↑J2,λv _=>v=.pointer (some ⟨w.heap.size,5,none⟩),λv _=>v=.slice m.rt.A m.rt.l.length m.rt.cap,λv _=>v=↑PR,λv _=>v=↑J3,λv _=>v=↑J3]
  135 rfl ah ⟨aB _,aB _,aB _,aB _,aB _,aB _,aB _,aB _,aB _,aB _,trivial⟩ ?_ ?_
 ·refine aC 0 ?_ (aC 1 ?_ (aC 2 ?_ (aC 3 ?_ (aC 4 ?_ (aC 5 ?_ (aC 6 ?_ (aC 7 ?_ (aC 8 ?_ (aC 9 ?_ (kM 10))))))))));refine aF λa wq c=>⟨(ay rfl),.pointer (some ⟨w.heap.size,4,none⟩),?_,rfl⟩
  exact aAn
  ·refine aF λa wq c=>⟨(ay rfl),.slice m.lf.A m.lf.l.length m.lf.cap,?_,rfl⟩
   have bD:a.eval (.tmp 67)=.pointer (some ⟨w.heap.size,4,none⟩):=(c.new 0 67)
   have hc:=(c.ev.cell (p:=⟨w.heap.size,4,none⟩) hb0).trans p4;generalize a.eval=ρ at bD|-;simp[execOp,bD,hc,go_sem]
  refine gu λa wq c=>⟨(ay rfl),86,#[.slice m.lf.A m.lf.l.length m.lf.cap],?_,?_⟩
  rw[bC 86 _ _ rfl ah];have e68:a.eval (.tmp 68)=.slice m.lf.A m.lf.l.length m.lf.cap:=(c.new 1 68)
  simp[e68];refine(MQ.out wq (dM.out.trans c.ev)).mono ?_;rintro e w2 ⟨rfl,hE⟩;exact⟨_,rfl,hE,rfl⟩;refine aF λa wq c=>⟨(ay rfl),_,sU (a:=[40,106,111,105,110,32]) rfl (Z4 a _) (c.new 2 69) HJ1.out MR wq,rfl⟩
  refine aF λa wq c=>⟨(ay rfl),_,sU (b:=[32]) rfl (c.new 3 70) (Z4 a _) HJ2.out hl2 wq,rfl⟩
  refine aF λa wq c=>⟨(ay rfl),.pointer (some ⟨w.heap.size,5,none⟩),?_,rfl⟩
  exact aAn
  ·refine aF λa wq c=>⟨(ay rfl),.slice m.rt.A m.rt.l.length m.rt.cap,?_,rfl⟩
   have bD:a.eval (.tmp 72)=.pointer (some ⟨w.heap.size,5,none⟩):=(c.new 5 72)
   have hc:=(c.ev.cell (p:=⟨w.heap.size,5,none⟩) hb0).trans p5;generalize a.eval=ρ at bD|-;simp[execOp,bD,hc,go_sem]
  refine gu λa wq c=>⟨(ay rfl),86,#[.slice m.rt.A m.rt.l.length m.rt.cap],?_,?_⟩
  rw[bC 86 _ _ rfl ah];have e73:a.eval (.tmp 73)=.slice m.rt.A m.rt.l.length m.rt.cap:=(c.new 6 73)
  simp[e73];refine(Eo.out wq (dM.out.trans c.ev)).mono ?_;rintro e w2 ⟨rfl,hE⟩;exact⟨_,rfl,hE,rfl⟩;refine aF λa wq c=>⟨(ay rfl),_,sU rfl (c.new 4 71) (c.new 7 74) HJ3.out hl3 wq,rfl⟩
  refine aF λa wq c=>⟨(ay rfl),_,run_assign _ rfl wq,(c.new 8 75)⟩
 intro sl wv nU hold hnew;have f0:sl 0=.agg #[.int .i64 4,↑m.name,.slice m.ex.A m.ex.l.length m.ex.cap,.slice m.co.A m.co.l.length m.co.cap,.slice m.lf.A m.lf.l.length m.lf.cap,.slice m.rt.A m.rt.l.length m.rt.cap,.slice m.ag.A m.ag.l.length m.ag.cap,.slice m.A m.kids.length m.cap]:=hold 0;have f1:sl 1=.pointer ↑w.heap.size:=hold 1;have f2:sl 2=.string ⟨#[]⟩:=hold 2;have f4:_=undef:=hold 4;have f5:_=undef:=hold 5;have f6:_=undef:=hold 6;have f7:_=undef:=hold 7;have f8:sl 8=.pointer ↑w.heap.size:=hold 8;have f9:sl 9=.int .i64 4:=hold 9;have f10:sl 10=.bool false:=hold 10;have f11:sl 11=.bool false:=hold 11;have f12:_=undef:=hold 12;have f13:_=undef:=hold 13;have f14:_=undef:=hold 14;have f15:_=undef:=hold 15;have f16:sl 16=.bool false:=hold 16;have f17:sl 17=.bool false:=hold 17;have f18:_=undef:=hold 18;have f19:_=undef:=hold 19;have f20:_=undef:=hold 20;have f21:_=undef:=hold 21;have f22:_=undef:=hold 22;have f23:_=undef:=hold 23;have f24:_=undef:=hold 24;have f25:_=undef:=hold 25;have f26:_=undef:=hold 26;have f27:_=undef:=hold 27;have f28:_=undef:=hold 28;have f29:_=undef:=hold 29;have f30:_=undef:=hold 30;have f31:sl 31=.bool false:=hold 31;have f32:sl 32=.bool false:=hold 32;have f33:_=undef:=hold 33;have f34:_=undef:=hold 34;have f35:_=undef:=hold 35;have f36:_=undef:=hold 36;have f37:_=undef:=hold 37;have f38:_=undef:=hold 38;have f39:_=undef:=hold 39;have f40:_=undef:=hold 40;have f41:_=undef:=hold 41;have f42:_=undef:=hold 42;have f43:_=undef:=hold 43;have f44:_=undef:=hold 44;have f45:_=undef:=hold 45;have f46:_=undef:=hold 46;have f47:_=undef:=hold 47;have f48:_=undef:=hold 48;have f49:_=undef:=hold 49;have f50:_=undef:=hold 50;have f51:_=undef:=hold 51;have f52:_=undef:=hold 52;have f53:_=undef:=hold 53;have f54:_=undef:=hold 54;have f55:_=undef:=hold 55;have f56:_=undef:=hold 56
 have f57:_=undef:=hold 57;have f58:_=undef:=hold 58;have f59:_=undef:=hold 59;have f60:_=undef:=hold 60;have f61:_=undef:=hold 61;have f62:_=undef:=hold 62;have f63:_=undef:=hold 63;have f64:_=undef:=hold 64;have f65:sl 65=.bool true:=hold 65;have f66:sl 66=.bool true:=hold 66;have f76:_=undef:=hold 76;have f77:_=undef:=hold 77;have f78:_=undef:=hold 78;have f79:_=undef:=hold 79;have f80:_=undef:=hold 80;have f81:_=undef:=hold 81;have f82:_=undef:=hold 82;have f83:_=undef:=hold 83;have f84:_=undef:=hold 84;have f85:_=undef:=hold 85;have f86:_=undef:=hold 86;have f87:_=undef:=hold 87;have f88:_=undef:=hold 88;have f89:_=undef:=hold 89;have f90:_=undef:=hold 90;have f91:_=undef:=hold 91;have f92:_=undef:=hold 92;have f93:_=undef:=hold 93;have f94:_=undef:=hold 94;have f95:_=undef:=hold 95;have f96:_=undef:=hold 96;have f97:_=undef:=hold 97;have f98:_=undef:=hold 98;have f99:_=undef:=hold 99;have f100:_=undef:=hold 100;have f101:_=undef:=hold 101;have f102:_=undef:=hold 102;have f103:_=undef:=hold 103;have f104:_=undef:=hold 104;have f105:_=undef:=hold 105;have f106:_=undef:=hold 106;have f107:_=undef:=hold 107;have f108:_=undef:=hold 108;have f109:_=undef:=hold 109;have f110:_=undef:=hold 110;have f111:_=undef:=hold 111;have f112:_=undef:=hold 112;have f113:_=undef:=hold 113;have f114:_=undef:=hold 114;have f115:_=undef:=hold 115;have f116:_=undef:=hold 116;have f117:_=undef:=hold 117;have f118:_=undef:=hold 118;have f119:_=undef:=hold 119;have f120:_=undef:=hold 120;have f121:_=undef:=hold 121;have f122:_=undef:=hold 122;have f123:_=undef:=hold 123;have f124:_=undef:=hold 124;have f125:_=undef:=hold 125;have f126:_=undef:=hold 126;have f127:_=undef:=hold 127;have f128:_=undef:=hold 128
 have f129:_=undef:=hold 129;have f130:_=undef:=hold 130;have f131:_=undef:=hold 131;have f132:_=undef:=hold 132;have f133:_=undef:=hold 133;have f134:_=undef:=hold 134;have f3:sl 3=↑J3:=hnew 9 3;change Exit.inBlock _ _ .normal ⟨_,_⟩ _;simp only[List.range,List.range.loop,List.map];simp only[f0,f1,f2,f4,f5,f6,f7,f8,f9,f10,f11,f12,f13,f14,f15,f16,f17,f18,f19,f20,f21,f22,f23,f24,f25,f26,f27,f28,f29,f30,f31,f32,f33,f34,f35,f36,f37,f38,f39,f40,f41,f42,f43,f44,f45,f46,f47,f48,f49,f50,f51,f52,f53,f54,f55,f56,f57,f58,f59,f60,f61,f62,f63,f64,f65,f66,f76,f77,f78,f79,f80,f81,f82,f83,f84,f85,f86,f87,f88,f89,f90,f91,f92,f93,f94,f95,f96,f97,f98,f99,f100,f101,f102,f103,f104,f105,f106,f107,f108,f109,f110,f111,f112,f113,f114,f115,f116,f117,f118,f119,f120,f121,f122,f123,f124,f125,f126,f127,f128,f129,f130,f131,f132,f133,f134,f3];clear hold hnew;have EW:=zq (dM.out.trans nU);have BW:=zq (tV.out.ev nU);clear nU;go_wp2;have qA:=zq hlen;have Gv:=zq qF;have ES:=zq A7;have HQK:=zq (λx (hx:x∈m.kids) w1 (hE:Ev w w1)=>ih x hx w1 hE);have Uf:Hid (∀j,(qx (HD++(m.kids.take j).map λx=>aH x.p)).length<=1000000):=zq λj=>by exact azB
 obtain⟨nk,yG⟩:∃nk,nk=m.kids.length:=⟨_,rfl⟩
 have xI:=zq yG;rw[<-yG]at hle;have IC:Hid (∀wz,Ev wv wz->wz.cell? ⟨w.heap.size,7,none⟩=some (.slice m.A nk m.cap)):=zq λwz hE=>by exact aA0
 clear qF hlen A7 ih yG p0 p1 p2 p3 p4 p5 p6 p7;have b7:=IC.out _ aJ
 go_loopw [3,7] (λsv iv wr=>∃(j:Nat) (S:By),sv=↑S/\iv=↑j/\j<=nk/\Hid (S=qx (HD++(m.kids.take j).map λx=>aH x.p))/\Hid (Ev wv wr)) (λ_ iv _=>nk - (intOf iv).toNat)
 case atStart=>exact⟨0,_,rfl,rfl,aww _,zq (by simpa using kL.out),zq aJ⟩
 case round=>
  obtain⟨j,S,rfl,rfl,hj,HS,lN⟩:=hrel;clear b7;have b7:=IC.out _ lN.out;have hz:=dB S;have Ij:S.length<=1000000:=by rw[HS.out];exact Uf.out j
  by_cases hlt:j<nk;exact ayb;exact ay4
def PrF(P:By)(v:au)(w:ak):Prop:=∀w2,Ev w w2->Calls ax 84 #[v] w2 λr w'=>r=.returned ↑P/\Ev w2 w'
theorem PrF.mono(P:By):o8 (PrF P):=λv w w' hE h w2 bQ=>h w2 (hE.trans bQ)
theorem Zo(c:By)(e:T):printS (bM c e)=40::(c++(32::(printS (xTree e)++[41]))):=by unfold bM;rw[EF,show [aP c,xTree e]=[aP c]++[xTree e] from rfl,iR aj];show (40::(printL true [aP c])++_)++_=_;rw[show printL true [aP c]=c by unfold aP;simp[printL,printS]];simp
theorem aAo(h:U:=by have h1:=kX (m.kids.map λx=>aH x.p) HD;have h2:=congrArg List.length qF;rw[awl,List.length_singleton]at h2;omega):U:=h
theorem LV(m:PM)(b0:Nat)(w:ak)(h:Qx b0 [] w m)(hk:m.kind=3)(hn:m.ex.l.length=m.co.l.length)(hx:∀e∈m.ex.l,dQ e.t=true/\e.t.every cO=true/\e.t.size<=10000/\(xTree e.t).fine=true)(hlen:(printS (aH m.p)).length<=1000000)(ih:∀x∈m.kids,∀w1,Ev w w1->Calls ax 40 #[pv x] w1 (mr x.p w1)):
  Calls ax 40 #[pv m] w (mr m.p w):=by
 obtain⟨PS,xg⟩:∃PS,PS=printS (aH m.p):=⟨_,rfl⟩
 have qF:=vU m;rw[hk]at qF;unfold mr at*;rw[<-xg]at qF hlen|-;have hQ:=h;have A7:=h.ps;have hle:=A7.le;have hmx:=A7.max;obtain⟨w0,hw0,aW,hB0⟩:=LM w (.int .i64 3) ↑m.name (.slice m.ex.A m.ex.l.length m.ex.cap) (.slice m.co.A m.co.l.length m.co.cap) (.slice m.lf.A m.lf.l.length m.lf.cap) (.slice m.rt.A m.rt.l.length m.rt.cap) (.slice m.ag.A m.ag.l.length m.ag.cap) (.slice m.A m.kids.length m.cap);have dM:=zq aW;have tV:=zq hB0;obtain⟨⟨p0,p1,p2,p3,p4,p5,p6,p7⟩,_⟩:=hB0.eight;unfold pv at ih|-;unfold fE.v PM.kv at*;rw[hk];obtain⟨HD0,QI⟩:∃HD0,HD0=List.zipWith bM m.co.l (m.ex.l.map M.t):=⟨_,rfl⟩
 obtain⟨HD,lq⟩:∃HD,HD=aP bT::HD0:=⟨_,rfl⟩
 have qF:PS=qx (HD++m.kids.map λx=>aH x.p)++[41]:=by rw[lq,QI];exact qF
 have hl0:(qx HD).length<=1000000:=by exact aAo
 have rO:Hid (∀j,(qx (aP bT::HD0.take j)).length<=1000000):=zq λj=>by have h1:=kX (HD0.drop j) (aP bT::HD0.take j);rw[awV,axf,<-lq]at h1;omega
 obtain⟨hex,hlx,AX,_⟩:=hQ.at;have hcs:=AX.sl;have hes:=hex.sl;rw[hn]at hes;have ai1:=hcs.le;have anm:=hcs.max;have ai2:=hes.le;have ann:=hes.max;have HCS:=zq hcs;have Sm:=zq hes;have NL:=zq (λe (he:e∈m.ex.l) w1 (hE:Ev w w1) (hl:(printS (xTree e.t)).length<=1000000)=>LU e b0 w1 ((hlx e he).ev hE) (hx e he).1 (hx e he).2.1 (hx e he).2.2.1 (hx e he).2.2.2 hl);rw[hn]at p2 tV hw0|-;obtain⟨nc,zA⟩:∃nc,nc=m.co.l.length:=⟨_,rfl⟩
 have Qr:=zq zA;rw[<-zA]at p2 p3 tV hw0 ai1 ai2|-;have hzl:HD0.length=nc:=by rw[QI,axK,awh,hn,<-zA,Nat.min_self]
 have HZL:=zq hzl;have HZD:=zq QI;have HDD:=zq lq;have ajW:Hid (∀wz,Ev w0 wz->wz.cell? ⟨w.heap.size,2,none⟩=some (.slice m.ex.A nc m.ex.cap)/\wz.cell? ⟨w.heap.size,3,none⟩=some (.slice m.co.A nc m.co.cap)):=zq λwz hE=>by obtain⟨⟨_,_,h2,h3,_⟩,_⟩:=(tV.out.ev hE).eight;exact⟨h2,h3⟩
 have fD:Tryz.prog.follows .mixedOrders=true:=ah;have HGX:=zq hB0.lt;clear aW hB0 hQ h hk hex hlx AX hcs hes zA hzl hl0 hn hx QI p0 p1 p2 p3 p4 p5 p6 p7;obtain⟨⟨p0,p1,p2,p3,p4,p5,p6,p7⟩,_⟩:=tV.out.eight;clear p1 p4 p5 p6 p7;go_enter func40,ntmps40;go_wp2;clear p0 p2 p3;obtain⟨q2,q3⟩:=ajW.out _ aJ
 go_loopw [3,4] (λsv iv wr=>∃(j:Nat) (S:By),sv=↑S/\iv=↑j/\j<=nc/\Hid (S=qx (aP bT::HD0.take j))/\Hid (Ev w0 wr)) (λ_ iv _=>nc - (intOf iv).toNat)
 case atStart=>exact⟨0,[40,112,114,111,106,101,99,116],rfl,rfl,aww _,zq rfl,zq aJ⟩
 case round=>
  obtain⟨j,S,rfl,rfl,hj,HS,lN⟩:=hrel;rename ak=>wa;clear q2 q3;obtain⟨q2,q3⟩:=ajW.out _ lN.out;have Ij:S.length<=1000000:=by rw[HS.out];exact rO.out j
  by_cases hlt:j<nc
  ·obtain⟨c,hc⟩:=HCS.out.at (by rw[<-Qr.out];exact hlt);obtain⟨e,he⟩:=Sm.out.at (by rw[<-Qr.out];exact hlt);obtain⟨b,off,hcA,hb,c0⟩:=Ss.cell2 (HCS.out.ev (dM.out.trans lN.out)) hc;obtain⟨b',off',heA,hb',e0,e1,e2,e3⟩:=Es.cell (Sm.out.ev (dM.out.trans lN.out)) he;rw[hcA]at q3;rw[heA]at q2;unfold M.kv at e3;obtain⟨PE,vO⟩:∃PE,PE=printS (xTree e.t):=⟨_,rfl⟩
   have hzj:HD0[j]?=some (bM c e.t):=by rw[HZD.out,List.getElem?_zipWith,hc,aw5,he];rfl
   obtain⟨Q1,hQ1⟩:∃Q1,Q1=S++[32,40]:=⟨_,rfl⟩
   obtain⟨Q2,ZV⟩:∃Q2,Q2=Q1++c:=⟨_,rfl⟩
   obtain⟨Q3,ZW⟩:∃Q3,Q3=Q2++[32]:=⟨_,rfl⟩
   obtain⟨Q4,WI⟩:∃Q4,Q4=Q3++PE:=⟨_,rfl⟩
   obtain⟨Q5,hQ5⟩:∃Q5,Q5=Q4++[41]:=⟨_,rfl⟩
   have hY:Q5=qx (aP bT::HD0.take (j+1)):=by obtain⟨hk2,hz2⟩:=awi.1 hzj;rw[aws hk2,hz2,<-awV,iR aj,<-HS.out,Zo,<-vO,hQ5,WI,ZW,ZV,hQ1];simp
   have hl5:Q5.length<=1000000:=by rw[hY];exact rO.out (j+1)
   have hl4:Q4.length<=1000000:=by rw[hQ5,awl]at hl5;omega
   have hl3:Q3.length<=1000000:=by rw[WI,awl]at hl4;omega
   have hl2:Q2.length<=1000000:=by rw[ZW,awl]at hl3;omega
   have MR:Q1.length<=1000000:=by rw[ZV,awl]at hl2;omega
   have hlp:PE.length<=1000000:=by rw[WI,awl]at hl4;omega
   have HTR:=zq (λw1 (hE:Ev wa w1)=>NL.out e (awm he) w1 ((dM.out.trans lN.out).trans hE) (by rw[<-vO];exact hlp));rw[<-vO]at HTR;have HQ1:=zq hQ1;have HQ2:=zq ZV;have HQ3:=zq ZW;have HQ4:=zq WI;have HQ5:=zq hQ5;have HY:=zq hY;have hgx:w.heap.size<wa.heap.size:=awz HGX.out lN.out.size;have i1:(0:Int)<=(j:Int):=ae;have i2:(j:Int)<(nc:Int):=ae;clear hc he hcA heA vO hzj hQ1 ZV ZW WI hQ5 hY;go_upto_region 15 with fail
   refine dD fD [λv _=>v=↑S,λv _=>v=↑Q1,λv _=>v=.pointer (some ⟨w.heap.size,3,none⟩),λv _=>v=.slice ↑(b,off) nc m.co.cap,λv _=>v=↑j,λv _=>v=.pointer ↑(b,off+j),λv _=>v=↑c,λv _=>v=↑Q2,λv _=>v=↑Q3,λv _=>v=.pointer (some ⟨w.heap.size,2,none⟩),λv _=>v=.slice ↑(b',off') nc m.ex.cap,λv _=>v=↑j,λv _=>v=.pointer ↑(b',off'+j*4),λv _=>v=.agg ↑(e,()),PrF PE,λv _=>v=↑PE,λv _=>v=↑Q4,λv _=>v=↑Q5,λv _=>v=↑Q5]
    135 rfl ah ⟨aB _,aB _,aB _,aB _,aB _,aB _,aB _,aB _,aB _,aB _,aB _,aB _,aB _,aB _,PrF.mono _,aB _,aB _,aB _,aB _,trivial⟩ ?_ ?_
   ·refine aC 0 ?_ (aC 1 ?_ (aC 2 ?_ (aC 3 ?_ (aC 4 ?_ (aC 5 ?_ (aC 6 ?_ (aC 7 ?_ (aC 8 ?_ (aC 9 ?_ (aC 10 ?_ (aC 11 ?_ (aC 12 ?_ (aC 13 ?_ (aC 14 ?_ (aC 15 ?_ (aC 16 ?_ (aC 17 ?_ (aC 18 ?_ (kM 19)))))))))))))))))));refine aF λa wq c=>⟨(ay rfl),_,run_move _ rfl wq,(c.was 3 rfl)⟩
    refine aF λa wq c_=>⟨(ay rfl),_,sU (b:=[32,40]) rfl (c_.new 0 47 ah ah) (Z4 a _) HQ1.out MR wq,rfl⟩
    refine aF λa wq c=>⟨(ay rfl),.pointer (some ⟨w.heap.size,3,none⟩),?_,rfl⟩
    exact aAn
    ·refine aF λa wq c_=>⟨(ay rfl),.slice ↑(b,off) nc m.co.cap,?_,rfl⟩
     have bD:a.eval (.tmp 49)=.pointer (some ⟨w.heap.size,3,none⟩):=(c_.new 2 49 ah ah)
     have hc:=(c_.ev.cell (p:=⟨w.heap.size,3,none⟩) hgx).trans q3;generalize a.eval=ρ at bD|-;simp[execOp,bD,hc,go_sem]
    refine aF λa wq c=>⟨(ay rfl),_,run_move _ rfl wq,(c.was 4 rfl)⟩
    ·refine aF λa wq c=>⟨(ay rfl),.pointer ↑(b,off+j),?_,rfl⟩
     have e50:a.eval (.tmp 50)=.slice ↑(b,off) nc m.co.cap:=(c.new 3 50)
     have e51:a.eval (.tmp 51)=↑j:=(c.new 4 51)
     generalize a.eval=ρ at e50 e51|-;simp[execOp,e50,e51,go_sem,i1,i2]
    ·refine aF λa wq c_=>⟨(ay rfl),↑c,?_,rfl⟩
     have bD:a.eval (.tmp 52)=.pointer ↑(b,off+j):=(c_.new 5 52 ah ah)
     have hc:=(c_.ev.cell (p:=⟨b,off+j,none⟩) hb).trans c0;generalize a.eval=ρ at bD|-;simp[execOp,bD,hc,go_sem]
    refine aF λa wq c_=>⟨(ay rfl),_,sU rfl (c_.new 1 48 ah ah) (c_.new 6 53 ah ah) HQ2.out hl2 wq,rfl⟩
    refine aF λa wq c_=>⟨(ay rfl),_,sU (b:=[32]) rfl (c_.new 7 54 ah ah) (Z4 a _) HQ3.out hl3 wq,rfl⟩
    refine aF λa wq c=>⟨(ay rfl),.pointer (some ⟨w.heap.size,2,none⟩),?_,rfl⟩
    exact aAn
    ·refine aF λa wq c_=>⟨(ay rfl),.slice ↑(b',off') nc m.ex.cap,?_,rfl⟩
     have bD:a.eval (.tmp 56)=.pointer (some ⟨w.heap.size,2,none⟩):=(c_.new 9 56 ah ah)
     have hc:=(c_.ev.cell (p:=⟨w.heap.size,2,none⟩) hgx).trans q2;generalize a.eval=ρ at bD|-;simp[execOp,bD,hc,go_sem]
    refine aF λa wq c=>⟨(ay rfl),_,run_move _ rfl wq,(c.was 4 rfl)⟩
    ·refine aF λa wq c=>⟨(ay rfl),.pointer ↑(b',off'+j*4),?_,rfl⟩
     have e57:a.eval (.tmp 57)=.slice ↑(b',off') nc m.ex.cap:=(c.new 10 57)
     have e58:a.eval (.tmp 58)=↑j:=(c.new 11 58)
     generalize a.eval=ρ at e57 e58|-;simp[execOp,e57,e58,go_sem,i1,i2]
    ·refine aF λa wq c_=>⟨(ay rfl),.agg ↑(e,()),?_,rfl⟩
     have bD:a.eval (.tmp 59)=.pointer ↑(b',off'+j*4):=(c_.new 12 59 ah ah)
     have U0:=(c_.ev.cell (p:=⟨b',off'+j*4,none⟩) hb').trans e0;have WJ:=(c_.ev.cell (p:=⟨b',off'+j*4+1,none⟩) hb').trans e1;have U1:=(c_.ev.cell (p:=⟨b',off'+j*4+2,none⟩) hb').trans e2;have h3_:=(c_.ev.cell (p:=⟨b',off'+j*4+3,none⟩) hb').trans e3;generalize a.eval=ρ at bD|-;simp[execOp,bD,U0,WJ,U1,h3_,go_sem]
    refine gu λa wq c_=>⟨(ay rfl),85,#[.agg ↑(e,())],?_,?_⟩
    rw[bC 85 _ _ rfl ah];have bD:a.eval (.tmp 60)=.agg ↑(e,()):=(c_.new 13 60 ah ah)
    simp[bD];refine(HTR.out wq c_.ev).mono ?_;rintro r w3 ⟨x1,rfl,Hw,lT⟩;exact⟨_,rfl,lT,Hw⟩;refine gu λa wq c_=>?_;have Hw:=(c_.got 14 61 ah ah rfl:PrF PE _ _)
    refine⟨(ay rfl),84,#[a.eval (.tmp 61)],?_,?_⟩;rw[bC 84 _ _ rfl ah];simp;refine(Hw wq aJ).mono ?_;rintro r w3 ⟨rfl,lT⟩;exact⟨_,rfl,lT,rfl⟩;refine aF λa wq c_=>⟨(ay rfl),_,sU rfl (c_.new 8 55 ah ah) (c_.new 15 62 ah ah) HQ4.out hl4 wq,rfl⟩
    refine aF λa wq c_=>⟨(ay rfl),_,sU (b:=[41]) rfl (c_.new 16 63 ah ah) (Z4 a _) HQ5.out hl5 wq,rfl⟩
    refine aF λa wq c=>⟨(ay rfl),_,run_assign _ rfl wq,(c.new 17 64)⟩
   intro sl wv nU hold hnew;have f0:sl 0=.agg #[.int .i64 3,↑m.name,.slice m.ex.A nc m.ex.cap,.slice m.co.A nc m.co.cap,.slice m.lf.A m.lf.l.length m.lf.cap,.slice m.rt.A m.rt.l.length m.rt.cap,.slice m.ag.A m.ag.l.length m.ag.cap,.slice m.A m.kids.length m.cap]:=hold 0;have f1:sl 1=.pointer ↑w.heap.size:=hold 1;have f2:sl 2=.string ⟨#[]⟩:=hold 2;have f4:sl 4=↑j:=hold 4;have f5:_=undef:=hold 5;have f6:_=undef:=hold 6;have f7:_=undef:=hold 7;have f8:sl 8=.pointer ↑w.heap.size:=hold 8;have f9:sl 9=.int .i64 3:=hold 9;have f10:sl 10=.bool false:=hold 10;have f11:sl 11=.bool false:=hold 11;have f12:_=undef:=hold 12;have f13:_=undef:=hold 13;have f14:_=undef:=hold 14;have f15:_=undef:=hold 15;have f16:sl 16=.bool false:=hold 16;have f17:sl 17=.bool false:=hold 17;have f18:_=undef:=hold 18;have f19:_=undef:=hold 19;have f20:_=undef:=hold 20;have f21:_=undef:=hold 21;have f22:_=undef:=hold 22;have f23:_=undef:=hold 23;have f24:_=undef:=hold 24;have f25:_=undef:=hold 25;have f26:_=undef:=hold 26;have f27:_=undef:=hold 27;have f28:_=undef:=hold 28;have f29:_=undef:=hold 29;have f30:_=undef:=hold 30;have f31:sl 31=.bool true:=hold 31;have f32:sl 32=.bool true:=hold 32;have f33:sl 33=↑j:=hold 33;have f34:sl 34=.pointer (some ⟨w.heap.size,3,none⟩):=hold 34;have f35:sl 35=.slice ↑(b,off) nc m.co.cap:=hold 35;have f36:sl 36=↑nc:=hold 36;have f37:sl 37=.bool true:=hold 37;have f38:sl 38=.bool true:=hold 38;have f39:sl 39=↑j:=hold 39;have f40:sl 40=.pointer (some ⟨w.heap.size,2,none⟩):=hold 40;have f41:sl 41=.slice ↑(b',off') nc m.ex.cap:=hold 41;have f42:sl 42=↑nc:=hold 42;have f43:sl 43=.bool true:=hold 43;have f44:sl 44=.bool true:=hold 44;have f45:sl 45=u45:=hold 45;have f46:sl 46=u46:=hold 46;have f65:_=undef:=hold 65;have f66:_=undef:=hold 66;have f67:_=undef:=hold 67;have f68:_=undef:=hold 68;have f69:_=undef:=hold 69;have f70:_=undef:=hold 70;have f71:_=undef:=hold 71
   have f72:_=undef:=hold 72;have f73:_=undef:=hold 73;have f74:_=undef:=hold 74;have f75:_=undef:=hold 75;have f76:_=undef:=hold 76;have f77:_=undef:=hold 77;have f78:_=undef:=hold 78;have f79:_=undef:=hold 79;have f80:_=undef:=hold 80;have f81:_=undef:=hold 81;have f82:_=undef:=hold 82;have f83:_=undef:=hold 83;have f84:_=undef:=hold 84;have f85:_=undef:=hold 85;have f86:_=undef:=hold 86;have f87:_=undef:=hold 87;have f88:_=undef:=hold 88;have f89:_=undef:=hold 89;have f90:_=undef:=hold 90;have f91:_=undef:=hold 91;have f92:_=undef:=hold 92;have f93:_=undef:=hold 93;have f94:_=undef:=hold 94;have f95:_=undef:=hold 95;have f96:_=undef:=hold 96;have f97:_=undef:=hold 97;have f98:_=undef:=hold 98;have f99:_=undef:=hold 99;have f100:_=undef:=hold 100;have f101:_=undef:=hold 101;have f102:_=undef:=hold 102;have f103:_=undef:=hold 103;have f104:_=undef:=hold 104;have f105:_=undef:=hold 105;have f106:_=undef:=hold 106;have f107:_=undef:=hold 107;have f108:_=undef:=hold 108;have f109:_=undef:=hold 109;have f110:_=undef:=hold 110;have f111:_=undef:=hold 111;have f112:_=undef:=hold 112;have f113:_=undef:=hold 113;have f114:_=undef:=hold 114;have f115:_=undef:=hold 115;have f116:_=undef:=hold 116;have f117:_=undef:=hold 117;have f118:_=undef:=hold 118;have f119:_=undef:=hold 119;have f120:_=undef:=hold 120;have f121:_=undef:=hold 121;have f122:_=undef:=hold 122;have f123:_=undef:=hold 123;have f124:_=undef:=hold 124;have f125:_=undef:=hold 125;have f126:_=undef:=hold 126;have f127:_=undef:=hold 127;have f128:_=undef:=hold 128;have f129:_=undef:=hold 129;have f130:_=undef:=hold 130;have f131:_=undef:=hold 131;have f132:_=undef:=hold 132;have f133:_=undef:=hold 133;have f134:_=undef:=hold 134
   have f3:sl 3=↑Q5:=hnew 18 3;change (_:Act->ak->Prop) ⟨_,_⟩ _;simp only[List.range,List.range.loop,List.map];simp only[f0,f1,f2,f4,f5,f6,f7,f8,f9,f10,f11,f12,f13,f14,f15,f16,f17,f18,f19,f20,f21,f22,f23,f24,f25,f26,f27,f28,f29,f30,f31,f32,f33,f34,f35,f36,f37,f38,f39,f40,f41,f42,f43,f44,f45,f46,f65,f66,f67,f68,f69,f70,f71,f72,f73,f74,f75,f76,f77,f78,f79,f80,f81,f82,f83,f84,f85,f86,f87,f88,f89,f90,f91,f92,f93,f94,f95,f96,f97,f98,f99,f100,f101,f102,f103,f104,f105,f106,f107,f108,f109,f110,f111,f112,f113,f114,f115,f116,f117,f118,f119,f120,f121,f122,f123,f124,f125,f126,f127,f128,f129,f130,f131,f132,f133,f134,f3];clear hold hnew;go_wp2;go_roundw
   case rel=>exact⟨j+1,Q5,rfl,by go_num,ae,HY,zq (lN.out.trans nU)⟩
   case measure=>simp[intOf];omega
  obtain rfl:j=nc:=ae;have kL:Hid (S=qx HD):=zq (by rw[HS.out,HDD.out,awC (by rw[HZL.out];exact awj _)]);have EW:=zq (dM.out.trans lN.out);have BW:=zq (tV.out.ev lN.out);have q0:=trivial;go_wp2;have qA:=zq hlen;have Gv:=zq qF;have ES:=zq A7;have HQK:=zq (λx (hx:x∈m.kids) w1 (hE:Ev w w1)=>ih x hx w1 hE);have Uf:Hid (∀j,(qx (HD++(m.kids.take j).map λx=>aH x.p)).length<=1000000):=zq λj=>by exact azB
  obtain⟨nk,yG⟩:∃nk,nk=m.kids.length:=⟨_,rfl⟩
  have xI:=zq yG;rw[<-yG]at hle;have IC:Hid (∀wz,Ev wa wz->wz.cell? ⟨w.heap.size,7,none⟩=some (.slice m.A nk m.cap)):=zq λwz hE=>by exact aA0
  clear qF hlen A7 ih yG;have b7:=IC.out _ aJ
  go_loopw [3,7] (λsv iv wr=>∃(j:Nat) (S:By),sv=↑S/\iv=↑j/\j<=nk/\Hid (S=qx (HD++(m.kids.take j).map λx=>aH x.p))/\Hid (Ev wa wr)) (λ_ iv _=>nk - (intOf iv).toNat)
  case atStart=>exact⟨0,_,rfl,rfl,aww _,zq (by simpa using kL.out),zq aJ⟩
  case round=>
   obtain⟨j,S,rfl,rfl,hj,HS,lN⟩:=hrel;clear b7;have b7:=IC.out _ lN.out;have hz:=dB S;have Ij:S.length<=1000000:=by rw[HS.out];exact Uf.out j
   by_cases hlt:j<nk;exact ayb;exact ay4
theorem ajY(w:ak)(c0 c1 c2:au):∃w0,w.alloc (.cells #[c0,c1,c2] 54)=w0/\Ev w w0/\Bx 54 w.heap.size #[c0,c1,c2] w0:=⟨_,rfl,Ev.alloc _ _,Bx.new _ _ _⟩
theorem ab5{s:By}(h:iC s=true):s≠[]:=λe=>by rw[e]at h;exact absurd h (by decide+kernel)
theorem ab6{a:Ag}(h:Kq a):printS (eF a)=40::(a.1++(32::(a.2.1++((if a.2.1=fH then [] else 32::a.2.2)++[41])))):=by
 have hp:∀s:By,printS (aP s)=s:=λs=>by unfold aP;simp[printS]
 have h1:∀s:By,qx [aP s]=40::s:=λs=>by unfold qx;simp[printL,hp]
 unfold eF;rcases h.2 with⟨hf,hc⟩|⟨hf,hc⟩
 rw[hc];simp only[List.isEmpty_nil,if_true];rw[if_pos hf,EF,show [aP a.1,aP a.2.1]=[aP a.1]++[aP a.2.1] from rfl,iR aj,h1,hp];simp;have hne:=ab5 hc;have hcf:¬a.2.1=fH:=by rcases hf with e|e|e<;>rw[e]<;>decide
 have hie:a.2.2.isEmpty=false:=by
  cases hh:a.2.2 with
  | nil=>exact absurd hh hne
  | cons x l=>rfl
 rw[hie,if_neg hcf,EF,if_neg aj,show [aP a.1,aP a.2.1,aP a.2.2]=([aP a.1]++[aP a.2.1])++[aP a.2.2] from rfl,iR aj,iR aj,h1,hp,hp];simp
theorem aAK(h:U:=by
 go_wp2;go_roundw
 case rel=>exact⟨j+1,Q7,rfl,by go_num,ae,HY,YJ⟩
 case measure=>simp[intOf];omega):U:=h
theorem QJ(m:PM)(b0:Nat)(w:ak)(h:Qx b0 [] w m)(hk:m.kind=7)(hg:∀a∈m.ag.l,Kq a)(hlen:(printS (aH m.p)).length<=1000000)(ih:∀x∈m.kids,∀w1,Ev w w1->Calls ax 40 #[pv x] w1 (mr x.p w1)):
  Calls ax 40 #[pv m] w (mr m.p w):=by
 obtain⟨PS,xg⟩:∃PS,PS=printS (aH m.p):=⟨_,rfl⟩
 have qF:=vU m;rw[hk]at qF;unfold mr at*;rw[<-xg]at qF hlen|-;have hQ:=h;have A7:=h.ps;have hle:=A7.le;have hmx:=A7.max;obtain⟨w0,hw0,aW,hB0⟩:=LM w (.int .i64 7) ↑m.name (.slice m.ex.A m.ex.l.length m.ex.cap) (.slice m.co.A m.co.l.length m.co.cap) (.slice m.lf.A m.lf.l.length m.lf.cap) (.slice m.rt.A m.rt.l.length m.rt.cap) (.slice m.ag.A m.ag.l.length m.ag.cap) (.slice m.A m.kids.length m.cap);have dM:=zq aW;have tV:=zq hB0;obtain⟨⟨p0,p1,p2,p3,p4,p5,p6,p7⟩,_⟩:=hB0.eight;unfold pv at ih|-;unfold fE.v PM.kv at*;rw[hk];obtain⟨PL,hPL⟩:∃PL,PL=printS (aU m.lf.l):=⟨_,rfl⟩
 obtain⟨H0,Uh⟩:∃H0:List T,H0=[aP dU,aU m.lf.l]:=⟨_,rfl⟩
 obtain⟨HA,XV⟩:∃HA,HA=m.ag.l.map eF:=⟨_,rfl⟩
 obtain⟨HD,lq⟩:∃HD,HD=H0++HA:=⟨_,rfl⟩
 have ajZ:H0≠[]:=by rw[Uh];simp
 have aj0:HD≠[]:=by rw[lq,Uh];simp
 have qF:PS=qx (HD++m.kids.map λx=>aH x.p)++[41]:=by rw[lq,Uh,XV];exact qF
 have hl0:(qx HD).length<=1000000:=by exact aAo
 have rO:Hid (∀j,(qx (H0++HA.take j)).length<=1000000):=zq λj=>by have h1:=kX (HA.drop j) (H0++HA.take j);rw[awI,axf,<-lq]at h1;omega
 obtain⟨G0,hG0⟩:∃G0:By,G0=[40,103,114,111,117,112,32]++PL:=⟨_,rfl⟩
 have ag7:G0=qx H0:=by rw[Uh,show [aP dU,aU m.lf.l]=[aP dU]++[aU m.lf.l] from rfl,iR aj,<-hPL,hG0];rfl
 have hlg:G0.length<=1000000:=by have:=rO.out 0;rw[List.take_zero,axE,<-ag7]at this;exact this
 have hlp:PL.length<=999993:=by rw[hG0,awl]at hlg;simp only[awr,aw']at hlg;omega
 have ab3:(⟨#[40,103,114,111,117,112,32]⟩:ByteArray)++⟨PL.toArray⟩=⟨G0.toArray⟩:=by rw[hG0];exact eH [40,103,114,111,117,112,32] _
 have hz0:=dB PL;obtain⟨_,_,_,tq,_,Ac,_⟩:=hQ.at;have MQ:=zq (λw1 (hE:Ev w w1)=>QH m.lf.l m.lf.A m.lf.l.length m.lf.cap PL hPL w1 (tq.sl.ev hE) ae);have aee:=Ac.sl;have hca:=aee.le;have hcm:=aee.max;have HAS:=zq aee;obtain⟨na,E_⟩:∃na,na=m.ag.l.length:=⟨_,rfl⟩
 have Cb:=zq E_;rw[<-E_]at p6 tV hw0 hca|-;have PK:=zq (show HA.length=na by rw[XV,awh,E_]);have HAD:=zq XV;have HDD:=zq lq;have aoj:=zq ag7;have HGA:=zq hg;have HNE:=zq ajZ;have aol:=zq aj0;have qE:Hid (∀wz,Ev w0 wz->wz.cell? ⟨w.heap.size,6,none⟩=some (.slice m.ag.A na m.ag.cap)):=zq λwz hE=>by obtain⟨⟨_,_,_,_,_,_,h6,_⟩,_⟩:=(tV.out.ev hE).eight;exact h6
 clear aW hB0 hQ h hk tq Ac aee hPL hG0 ag7 E_ XV lq Uh hl0 hg ajZ aj0;go_enter func40,ntmps40
 go_wp2_with (first
  | ((with_reducible refine(MQ.out _ dM.out).mono ?_);rintro r w1 ⟨rfl,aK⟩;have F1:=zq aK;clear aK))
 clear p0 p1 p2 p3 p4 p5 p6 p7 ab3;have q6:=qE.out _ F1.out
 go_loopw [3,5] (λsv iv wr=>∃(j:Nat) (S:By),sv=↑S/\iv=↑j/\j<=na/\Hid (S=qx (H0++HA.take j))/\Hid (Ev w0 wr)) (λ_ iv _=>na - (intOf iv).toNat)
 case atStart=>exact⟨0,G0,rfl,rfl,aww _,zq (by rw[List.take_zero,axE];exact aoj.out),F1⟩
 case round=>
  obtain⟨j,S,rfl,rfl,hj,HS,lN⟩:=hrel;rename ak=>wa;clear q6;have q6:=qE.out _ lN.out;have Ij:S.length<=1000000:=by rw[HS.out];exact rO.out j
  have hz:=dB S;by_cases hlt:j<na;obtain⟨a,ha⟩:=HAS.out.at (by rw[<-Cb.out];exact hlt);obtain⟨b,off,haA,hb,hcells⟩:=(HAS.out.ev (dM.out.trans lN.out)).rd (by rw[<-Cb.out];omega);have c0:=hcells j a ha 0 _ rfl;have c1:=hcells j a ha 1 _ rfl;have c2:=hcells j a ha 2 _ rfl;simp only[awM]at c0;rw[haA]at q6;have hga:=HGA.out a (awm ha);have hzj:HA[j]?=some (eF a):=by rw[HAD.out,aw5,ha];rfl
  have hap:=ab6 hga;have ZP:=rO.out (j+1);have htj:qx (H0++HA.take (j+1))=S++(32::printS (eF a)):=by obtain⟨hk2,hz2⟩:=awi.1 hzj;rw[aws hk2,hz2,<-awI,iR (by simp[HNE.out]),<-HS.out]
  rw[htj,hap]at ZP;rw[hap]at htj;obtain⟨an,af,ac_⟩:=a;simp only at c0 c1 c2 ZP htj hga;obtain⟨w3,hw3,iI,qB⟩:=ajY wa ↑an ↑af ↑ac_;obtain⟨⟨e0,e1,e2⟩,_⟩:=qB.three;have YJ:=zq (lN.out.trans iI);obtain⟨Q1,hQ1⟩:∃Q1,Q1=S++[32,40]:=⟨_,rfl⟩
  obtain⟨Q2,ZV⟩:∃Q2,Q2=Q1++an:=⟨_,rfl⟩
  obtain⟨Q3,ZW⟩:∃Q3,Q3=Q2++[32]:=⟨_,rfl⟩
  have k1:(⟨S.toArray⟩:ByteArray)++⟨#[32,40]⟩=⟨Q1.toArray⟩:=by rw[hQ1];exact eH S [32,40]
  have k2:(⟨Q1.toArray⟩:ByteArray)++⟨an.toArray⟩=⟨Q2.toArray⟩:=by rw[ZV];exact eH _ _
  have k3:(⟨Q2.toArray⟩:ByteArray)++⟨#[32]⟩=⟨Q3.toArray⟩:=by rw[ZW];exact eH Q2 [32]
  have s1:=dB Q1;have s2:=dB Q2;have s3:=dB Q3;have s4:=dB an;have i1:(0:Int)<=(j:Int):=ae;have i2:(j:Int)<(na:Int):=ae;by_cases hcn:af=fH;subst hcn;rw[if_pos rfl]at htj ZP;obtain⟨Q4,WI⟩:∃Q4,Q4=Q3++fH:=⟨_,rfl⟩
  obtain⟨Q7,hQ7⟩:∃Q7,Q7=Q4++[41]:=⟨_,rfl⟩
  have hY:Q7=qx (H0++HA.take (j+1)):=by rw[htj,hQ7,WI,ZW,ZV,hQ1];simp
  have hl7:Q7.length<=1000000:=by rw[hY];exact rO.out (j+1)
  have hl4:Q4.length+1<=1000000:=by rw[hQ7,awl]at hl7;exact hl7
  have hl3:Q3.length+5<=1000000:=by rw[WI,awl]at hl4;simp only[fH,awr,aw']at hl4;omega
  have hl2:Q2.length+1<=1000000:=by rw[ZW,awl]at hl3;simp only[awr,aw']at hl3;omega
  have MR:Q1.length+an.length<=1000000:=by rw[ZV,awl]at hl2;omega
  have abv:S.length+2<=1000000:=by rw[hQ1,awl]at MR;simp only[awr,aw']at MR;omega
  have k4:(⟨Q3.toArray⟩:ByteArray)++⟨fH.toArray⟩=⟨Q4.toArray⟩:=by rw[WI];exact eH _ _
  have k7:(⟨Q4.toArray⟩:ByteArray)++⟨#[41]⟩=⟨Q7.toArray⟩:=by rw[hQ7];exact eH Q4 [41]
  have s5:=dB Q4;have HY:=zq hY;clear hY hQ1 ZV ZW WI hQ7 htj ZP hap hzj hga ha hcells haA iI qB;unfold fH at*;simp only[List.toArray]at k4 c1 e1 hw3;exact aAK;rw[if_neg hcn]at htj ZP;have hcb:(af==fH)=false:=awg.2 hcn;obtain⟨Q4,WI⟩:∃Q4,Q4=Q3++af:=⟨_,rfl⟩
  obtain⟨Q5,hQ5⟩:∃Q5,Q5=Q4++[32]:=⟨_,rfl⟩
  obtain⟨Q6,hQ6⟩:∃Q6,Q6=Q5++ac_:=⟨_,rfl⟩
  obtain⟨Q7,hQ7⟩:∃Q7,Q7=Q6++[41]:=⟨_,rfl⟩
  have hY:Q7=qx (H0++HA.take (j+1)):=by rw[htj,hQ7,hQ6,hQ5,WI,ZW,ZV,hQ1];simp
  have hl7:Q7.length<=1000000:=by rw[hY];exact rO.out (j+1)
  have hl6:Q6.length+1<=1000000:=by rw[hQ7,awl]at hl7;exact hl7
  have hl5:Q5.length+ac_.length<=1000000:=by rw[hQ6,awl]at hl6;omega
  have hl4:Q4.length+1<=1000000:=by rw[hQ5,awl]at hl5;simp only[awr,aw']at hl5;omega
  have hl3:Q3.length+af.length<=1000000:=by rw[WI,awl]at hl4;omega
  have hl2:Q2.length+1<=1000000:=by rw[ZW,awl]at hl3;simp only[awr,aw']at hl3;omega
  have MR:Q1.length+an.length<=1000000:=by rw[ZV,awl]at hl2;omega
  have abv:S.length+2<=1000000:=by rw[hQ1,awl]at MR;simp only[awr,aw']at MR;omega
  have k4:(⟨Q3.toArray⟩:ByteArray)++⟨af.toArray⟩=⟨Q4.toArray⟩:=by rw[WI];exact eH _ _
  have k5:(⟨Q4.toArray⟩:ByteArray)++⟨#[32]⟩=⟨Q5.toArray⟩:=by rw[hQ5];exact eH Q4 [32]
  have k6:(⟨Q5.toArray⟩:ByteArray)++⟨ac_.toArray⟩=⟨Q6.toArray⟩:=by rw[hQ6];exact eH _ _
  have k7:(⟨Q6.toArray⟩:ByteArray)++⟨#[41]⟩=⟨Q7.toArray⟩:=by rw[hQ7];exact eH Q6 [41]
  have s5:=dB Q4;have s6:=dB Q5;have s7:=dB Q6;have s8:=dB af;have s9:=dB ac_;have HY:=zq hY;clear hY hQ1 ZV ZW WI hQ5 hQ6 hQ7 htj ZP hap hzj hga ha hcells haA iI qB hcn;unfold fH at*;exact aAK;obtain rfl:j=na:=ae;have kL:Hid (S=qx HD):=zq (by rw[HS.out,HDD.out,awC (by rw[PK.out];exact awj _)]);have EW:=zq (dM.out.trans lN.out);have BW:=zq (tV.out.ev lN.out);go_wp2;have qA:=zq hlen;have Gv:=zq qF;have ES:=zq A7;have HQK:=zq (λx (hx:x∈m.kids) w1 (hE:Ev w w1)=>ih x hx w1 hE);have Uf:Hid (∀j,(qx (HD++(m.kids.take j).map λx=>aH x.p)).length<=1000000):=zq λj=>by exact azB
  obtain⟨nk,yG⟩:∃nk,nk=m.kids.length:=⟨_,rfl⟩
  have xI:=zq yG;rw[<-yG]at hle;have IC:Hid (∀wz,Ev wa wz->wz.cell? ⟨w.heap.size,7,none⟩=some (.slice m.A nk m.cap)):=zq λwz hE=>by exact aA0
  clear qF hlen A7 ih yG;have b7:=IC.out _ aJ
  go_loopw [3,7] (λsv iv wr=>∃(j:Nat) (S:By),sv=↑S/\iv=↑j/\j<=nk/\Hid (S=qx (HD++(m.kids.take j).map λx=>aH x.p))/\Hid (Ev wa wr)) (λ_ iv _=>nk - (intOf iv).toNat)
  case atStart=>exact⟨0,_,rfl,rfl,aww _,zq (by simpa using kL.out),zq aJ⟩
  case round=>
   obtain⟨j,S,rfl,rfl,hj,HS,lN⟩:=hrel;clear b7;have b7:=IC.out _ lN.out;have hz:=dB S;have Ij:S.length<=1000000:=by rw[HS.out];exact Uf.out j
   by_cases hlt:j<nk;obtain⟨x,hx⟩:=ES.out.at (by rw[<-xI.out];exact hlt);have iP:=awm hx;obtain⟨b,off,Ri,hb,_⟩:=(ES.out.ev (EW.out.trans lN.out)).rd (by rw[<-xI.out];omega);have qw:=ES.out.ev (EW.out.trans lN.out);rw[Ri]at qw b7;obtain⟨c0,c1,c2,c3,c4,c5,c6,c7⟩:=Ps.cell qw hx;unfold fE.v PM.kv at*;have oV:=uQ hx;obtain⟨PX,LP⟩:∃PX,PX=printS (aH x.p):=⟨_,rfl⟩
   obtain⟨Z,hZ⟩:∃Z,Z=S++[32]:=⟨_,rfl⟩
   obtain⟨Y,hY⟩:∃Y,Y=Z++PX:=⟨_,rfl⟩
   have LQ:Y=qx (HD++(m.kids.take (j+1)).map λx=>aH x.p):=by rw[oV,<-awI,iR (by simp[aol.out]),<-HS.out,hY,hZ,LP];simp
   exact ayj;exact ay4
theorem Zp{m:PM}(hg:m.p.good):∀t∈kF m.kind m.name (m.ex.l.map M.t) m.co.l m.lf.l m.rt.l m.ag.l,t.fine=true/\t.size<=(aH m.p).size:=by
 obtain⟨_,_,hf⟩:=Ti m.p hg;have he:=vJ m.p;rw[he]at hf;have hall:=oh hf;intro t ht;have ZK:t∈kF m.p.kind m.p.name m.p.exprs m.p.cols m.p.left m.p.right m.p.F7:=by rw[PM.sD];exact ht
 refine⟨hall t (awH _ ZK),?_⟩;rw[he,lX];have:=iL (awS (f:=T.size) (awH (m.p.kids.map aH) ZK));omega
theorem WL{p k:Pl}(hk:k∈p.kids):(aH k).size<=(aH p).size/\(printS (aH k)).length<=(printS (aH p)).length:=by have hm:aH k∈kF p.kind p.name p.exprs p.cols p.left p.right p.F7++p.kids.map aH:=aw4 _ (awS hk);rw[vJ p,lX,KW];have e1:=iL (awS (f:=T.size) hm);have e2:=KU _ true _ hm;exact⟨ae,ae⟩
theorem afp{e:M}(h:wR e.t)(hs:(xTree e.t).size<=10000)(hf:(xTree e.t).fine=true):dQ e.t=true/\e.t.every cO=true/\e.t.size<=10000/\(xTree e.t).fine=true:=
 ⟨h.right,h.fair,by have:=h.size;omega,hf⟩
theorem XW(N:Nat):∀(m:PM) (b0:Nat) (w:ak),m.dep<=N->Qx b0 [] w m->m.p.good->(aH m.p).size<=10000->(printS (aH m.p)).length<=1000000->
  Calls ax 40 #[pv m] w (mr m.p w):=by
 induction N with
 | zero=>
  intro m b0 w hd;rw[PM.nT]at hd;omega
 | succ N ih=>
  intro m b0 w hd h hg hs hl;have yc:m.p.kids=m.kids.map PM.p:=by rw[PM.sD];rfl
  have hI:∀x∈m.kids,∀w1,Ev w w1->Calls ax 40 #[pv x] w1 (mr x.p w1):=λx hx w1 hE=>by
   have hm:x.p∈m.p.kids:=by rw[yc];exact awS hx
   have hb:=WL hm;exact ih x b0 w1 (by have:=PM.mg hx;omega) ((h.kid x hx).ev hE) (OL hg _ hm) ae ae
  have hF:=Zp hg;have hgh:x8 m.kind m.name (m.ex.l.map M.t) m.co.l m.lf.l m.rt.l m.ag.l m.kids.length:=by have h1:=hg;rw[PM.sD,Pl.good,awh]at h1;exact h1.1
  rcases hgh with⟨hk,_,_,_,_,_,_,hn⟩|⟨hk,_,⟨e,he,hge⟩,_⟩|⟨hk,_,he,UT,_⟩|⟨hk,_⟩|⟨hk,_⟩|⟨hk,_⟩|⟨hk,_,_,_,_,_,ha,_⟩
  exact QG m b0 w h hk (aw9 hn) hl;obtain⟨e1,he1,JS⟩:∃e1,m.ex.l=[e1]/\e1.t=e:=by
   match hh:m.ex.l,he with
   | [e1],he=>exact⟨e1,rfl,by simpa using he⟩
  subst JS;have hin:xTree e1.t∈kF m.kind m.name (m.ex.l.map M.t) m.co.l m.lf.l m.rt.l m.ag.l:=by rw[hk,he1];simp[kF]
  obtain⟨x1,x2,x3,x4⟩:=afp hge (by have:=(hF _ hin).2;omega) (hF _ hin).1;exact NU m b0 w h hk e1 he1 x1 x2 x3 x4 hl hI;rw[awh]at UT;refine LV m b0 w h hk UT (λe hx=>?_) hl hI;obtain⟨i,hi⟩:=axw hx;have Pg:=(awi.1 hi).1;obtain⟨c,hc⟩:∃c,m.co.l[i]?=some c:=⟨_,awE ae⟩
  have hin:bM c e.t∈kF m.kind m.name (m.ex.l.map M.t) m.co.l m.lf.l m.rt.l m.ag.l:=by rw[hk];refine awn _ (awm (i:=i) ?_);rw[List.getElem?_zipWith,hc,aw5,hi];rfl
  have h1:=hF _ hin;have h2:xTree e.t∈[aP c,xTree e.t]:=aj;have h3:(xTree e.t).size<=(bM c e.t).size:=by unfold bM;rw[lX];have:=iL (awS (f:=T.size) h2);omega
  exact afp (he _ (awS hx)) ae (oh h1.1 _ h2);exact Ug m b0 w h hk hl hI;exact QF m b0 w h hk hl hI;exact IE m b0 w h hk hl hI;exact QJ m b0 w h hk ha hl hI
theorem uD{m x:M}{q:List M}(hq:m.kids=x::q)(hk:m.kind=1)(hx:x.kind=2):Qd m.t=x.s:=by rw[F_,hq];simp[hk,lG,hx,at_,M.uJ]
theorem OZ{m x:M}{q:List M}(hq:m.kids=x::q)(hk:m.kind=1)(hx:x.kind=2):fZ m.t=pFormOf (fV x.s) (q.map M.t):=by
 rw[zQ,hq];simp only[hk,awZ,awo,at_,axJ,lG,hx,M.uJ,awR,axh,axi]
 cases q with
 | cons y r=>rw[awO aj,axi]
 | nil=>
  simp only[awG,awr,aw'];rcases zV x.s with⟨h,_⟩|⟨h,_⟩|⟨h,_⟩|⟨h,_⟩|⟨h,_⟩|⟨h,_⟩|⟨h,_⟩|h<;>rw[h]<;>rfl
theorem Gw{m:M}(h:Qd m.t=[]∨fV (Qd m.t)=0):fZ m.t=false:=by
 by_cases hk:m.kind=1
 cases hq:m.kids with
 | nil=>rw[zQ,hq];simp
 | cons x q=>
  by_cases hx:x.kind=2;rw[OZ hq hk hx];rw[uD hq hk hx]at h;have h0:fV x.s=0:=by rcases h with h|h;rw[h];rfl;exact h
  rw[h0];rfl;rw[zQ,hq];simp[at_,lG,hx]
 rw[zQ];simp[hk]
theorem QK(m:M)(b0:Nat)(w:ak)(h:Lies b0 [] w m)(x:M)(q:List M)(hq:m.kids=x::q)(wE:m.kind=1)(hx2:x.kind=2)(hs:x.s=gU):
  Calls ax 78 #[.agg ↑m] w λe w'=>e=.returned (.bool (pFormOf 1 (q.map M.t)))/\Ev w w':=by
 have hH:=λw1 (hE:Ev w w1)=>kP m b0 w1 (h.ev hE);rw[uD hq wE hx2,hs]at hH;have hB:=Bx.new 79 ↑m w;have aW:=Ev.alloc w (.cells ↑m 79);have fJ:=h.ms;have pq:=h.kid;rw[hq]at fJ pq;have hkn:m.kids.length=q.length+1:=by rw[hq];rfl
 have hcl:=fJ.le;have hcm:=fJ.max;obtain⟨b,off,hA,hb,_⟩:=Ms.cell fJ (i:=0) (x:=x) rfl;simp only[awr]at fJ hcl;rw[hkn,hA]at hB hH;rw[hkn]at aW|-;rw[hA]at aW fJ|-;rw[wE]at hB aW hH|-;have kZ:=zq (λi y (hy:(x::q)[i]?=some y) w1 (hE:Ev w w1)=>Ms.qI (fJ.ev hE) hy);have HH:=zq hH;have dM:=zq aW;have HB:=zq hB;obtain⟨⟨c0,c1,c2,c3,c4⟩,_⟩:=hB.five;obtain⟨kn,hk⟩:∃kn,kn=q.length:=⟨_,rfl⟩
 have mF:=zq hk;rw[<-hk]at HH dM HB c3 hcl|-;clear hH hB aW fJ pq hkn hk h hq hA wE hs;generalize m.s=ms at*;generalize m.n=mn at*;generalize m.cap=mc at*;generalize m.pos=mp at*;unfold gU at*
 match q,mF with
 | [],mF=>
  obtain rfl:kn=0:=mF.out;go_enter func78,ntmps78
  go_wp2_with (first
   | ((with_reducible refine(HH.out _ dM.out).mono ?_);rintro e w1 ⟨rfl,aK⟩;have E1:=zq (dM.out.trans aK);have F1:=zq aK;clear c0 c1 c2 c3 c4 aK;obtain⟨⟨c0,c1,c2,c3,c4⟩,_⟩:=(HB.out.ev F1.out).five))
  go_ret;exact⟨rfl,E1.out⟩
 | [y],mF=>
  obtain rfl:kn=1:=mF.out;rw[show pFormOf 1 ([y].map M.t)=(y.kind==2) by show (true&&bW y.t)=_;rw[lG,axi]];by_cases hy:y.kind=2
  ·rw[hy];go_enter func78,ntmps78
   go_wp2_with (first
    | ((with_reducible refine(HH.out _ dM.out).mono ?_);rintro e w1 ⟨rfl,aK⟩;have E1:=zq (dM.out.trans aK);have F1:=zq aK;clear c0 c1 c2 c3 c4 aK;obtain⟨⟨c0,c1,c2,c3,c4⟩,_⟩:=(HB.out.ev F1.out).five;obtain⟨d0,d1,d2,d3,d4⟩:=kZ.out 1 y (rfl) _ E1.out;simp only[axn]at d0 d1 d2 d3 d4;rw[hy]at d0))
   go_ret;exact⟨rfl,E1.out⟩
  have hyb:(y.kind==2)=false:=awg.2 hy;rw[hyb];go_enter func78,ntmps78
  go_wp2_with (first
   | ((with_reducible refine(HH.out _ dM.out).mono ?_);rintro e w1 ⟨rfl,aK⟩;have E1:=zq (dM.out.trans aK);have F1:=zq aK;clear c0 c1 c2 c3 c4 aK;obtain⟨⟨c0,c1,c2,c3,c4⟩,_⟩:=(HB.out.ev F1.out).five;obtain⟨d0,d1,d2,d3,d4⟩:=kZ.out 1 y (rfl) _ E1.out;simp only[axn]at d0 d1 d2 d3 d4))
  go_ret;exact⟨rfl,E1.out⟩
 | y::z::r,mF=>
  obtain⟨k,rfl⟩:∃k,kn=k+2:=⟨r.length,mF.out⟩
  have i1:((k:Int)+2+1==2)=false:=by rw[awg];omega
  rw[show pFormOf 1 ((y::z::r).map M.t)=false by show ((r.map M.t).length+1+1==1&&bW y.t)=false;simp];go_enter func78,ntmps78
  go_wp2_with (first
   | ((with_reducible refine(HH.out _ dM.out).mono ?_);rintro e w1 ⟨rfl,aK⟩;have E1:=zq (dM.out.trans aK);have F1:=zq aK;clear c0 c1 c2 c3 c4 aK;obtain⟨⟨c0,c1,c2,c3,c4⟩,_⟩:=(HB.out.ev F1.out).five))
  go_ret;exact⟨rfl,E1.out⟩
theorem NV(m:M)(b0:Nat)(w:ak)(h:Lies b0 [] w m)(x:M)(q:List M)(hq:m.kids=x::q)(wE:m.kind=1)(hx2:x.kind=2)(hs:x.s=d_):
  Calls ax 78 #[.agg ↑m] w λe w'=>e=.returned (.bool (pFormOf 2 (q.map M.t)))/\Ev w w':=by
 have hH:=λw1 (hE:Ev w w1)=>kP m b0 w1 (h.ev hE);rw[uD hq wE hx2,hs]at hH;have hB:=Bx.new 79 ↑m w;have aW:=Ev.alloc w (.cells ↑m 79);have fJ:=h.ms;have pq:=h.kid;rw[hq]at fJ pq;have hkn:m.kids.length=q.length+1:=by rw[hq];rfl
 have hcl:=fJ.le;have hcm:=fJ.max;obtain⟨b,off,hA,hb,_⟩:=Ms.cell fJ (i:=0) (x:=x) rfl;simp only[awr]at fJ hcl;rw[hkn,hA]at hB hH;rw[hkn]at aW|-;rw[hA]at aW fJ|-;rw[wE]at hB aW hH|-;have HH:=zq hH;have dM:=zq aW;have HB:=zq hB;obtain⟨⟨c0,c1,c2,c3,c4⟩,_⟩:=hB.five;obtain⟨kn,hk⟩:∃kn,kn=q.length:=⟨_,rfl⟩
 have mF:=zq hk;rw[<-hk]at HH dM HB c3 hcl|-;clear hH hB aW fJ pq hkn hk h hq hA wE hs;generalize m.s=ms at*;generalize m.n=mn at*;generalize m.cap=mc at*;generalize m.pos=mp at*;unfold d_ at*;have hP:pFormOf 2 (q.map M.t)=((kn:Int)+1==3):=by show ((q.map M.t).length==2)=_;rw[awh,<-mF.out,aw_,awx,awx];omega
 rw[hP];go_enter func78,ntmps78
 go_wp2_with (first
  | ((with_reducible refine(HH.out _ dM.out).mono ?_);rintro e w1 ⟨rfl,aK⟩;have E1:=zq (dM.out.trans aK);have F1:=zq aK;clear c0 c1 c2 c3 c4 aK;obtain⟨⟨c0,c1,c2,c3,c4⟩,_⟩:=(HB.out.ev F1.out).five))
 go_ret;exact⟨rfl,E1.out⟩
theorem QL(m:M)(b0:Nat)(w:ak)(h:Lies b0 [] w m)(x:M)(q:List M)(hq:m.kids=x::q)(wE:m.kind=1)(hx2:x.kind=2)(hs:x.s=iH):
  Calls ax 78 #[.agg ↑m] w λe w'=>e=.returned (.bool (pFormOf 5 (q.map M.t)))/\Ev w w':=by
 have hH:=λw1 (hE:Ev w w1)=>kP m b0 w1 (h.ev hE);rw[uD hq wE hx2,hs]at hH;have hB:=Bx.new 79 ↑m w;have aW:=Ev.alloc w (.cells ↑m 79);have fJ:=h.ms;have pq:=h.kid;rw[hq]at fJ pq;have hkn:m.kids.length=q.length+1:=by rw[hq];rfl
 have hcl:=fJ.le;have hcm:=fJ.max;obtain⟨b,off,hA,hb,_⟩:=Ms.cell fJ (i:=0) (x:=x) rfl;simp only[awr]at fJ hcl;rw[hkn,hA]at hB hH;rw[hkn]at aW|-;rw[hA]at aW fJ|-;rw[wE]at hB aW hH|-;have HH:=zq hH;have dM:=zq aW;have HB:=zq hB;obtain⟨⟨c0,c1,c2,c3,c4⟩,_⟩:=hB.five;obtain⟨kn,hk⟩:∃kn,kn=q.length:=⟨_,rfl⟩
 have mF:=zq hk;rw[<-hk]at HH dM HB c3 hcl|-;clear hH hB aW fJ pq hkn hk h hq hA wE hs;generalize m.s=ms at*;generalize m.n=mn at*;generalize m.cap=mc at*;generalize m.pos=mp at*;unfold iH at*;have hP:pFormOf 5 (q.map M.t)=((kn:Int)+1==3):=by show ((q.map M.t).length==2)=_;rw[awh,<-mF.out,aw_,awx,awx];omega
 rw[hP];go_enter func78,ntmps78
 go_wp2_with (first
  | ((with_reducible refine(HH.out _ dM.out).mono ?_);rintro e w1 ⟨rfl,aK⟩;have E1:=zq (dM.out.trans aK);have F1:=zq aK;clear c0 c1 c2 c3 c4 aK;obtain⟨⟨c0,c1,c2,c3,c4⟩,_⟩:=(HB.out.ev F1.out).five))
 go_ret;exact⟨rfl,E1.out⟩
theorem IG(m:M)(b0:Nat)(w:ak)(h:Lies b0 [] w m)(x:M)(q:List M)(hq:m.kids=x::q)(wE:m.kind=1)(hx2:x.kind=2)(hs:x.s=dN):
  Calls ax 78 #[.agg ↑m] w λe w'=>e=.returned (.bool (pFormOf 6 (q.map M.t)))/\Ev w w':=by
 have hH:=λw1 (hE:Ev w w1)=>kP m b0 w1 (h.ev hE);rw[uD hq wE hx2,hs]at hH;have hB:=Bx.new 79 ↑m w;have aW:=Ev.alloc w (.cells ↑m 79);have fJ:=h.ms;have pq:=h.kid;rw[hq]at fJ pq;have hkn:m.kids.length=q.length+1:=by rw[hq];rfl
 have hcl:=fJ.le;have hcm:=fJ.max;obtain⟨b,off,hA,hb,_⟩:=Ms.cell fJ (i:=0) (x:=x) rfl;simp only[awr]at fJ hcl;rw[hkn,hA]at hB hH;rw[hkn]at aW|-;rw[hA]at aW fJ|-;rw[wE]at hB aW hH|-;have HH:=zq hH;have dM:=zq aW;have HB:=zq hB;obtain⟨⟨c0,c1,c2,c3,c4⟩,_⟩:=hB.five;obtain⟨kn,hk⟩:∃kn,kn=q.length:=⟨_,rfl⟩
 have mF:=zq hk;rw[<-hk]at HH dM HB c3 hcl|-;clear hH hB aW fJ pq hkn hk h hq hA wE hs;generalize m.s=ms at*;generalize m.n=mn at*;generalize m.cap=mc at*;generalize m.pos=mp at*;unfold dN at*;have hP:pFormOf 6 (q.map M.t)=((kn:Int)+1==2):=by show ((q.map M.t).length==1)=_;rw[awh,<-mF.out,aw_,awx,awx];omega
 rw[hP];go_enter func78,ntmps78
 go_wp2_with (first
  | ((with_reducible refine(HH.out _ dM.out).mono ?_);rintro e w1 ⟨rfl,aK⟩;have E1:=zq (dM.out.trans aK);have F1:=zq aK;clear c0 c1 c2 c3 c4 aK;obtain⟨⟨c0,c1,c2,c3,c4⟩,_⟩:=(HB.out.ev F1.out).five))
 go_ret;exact⟨rfl,E1.out⟩
theorem xq(m:M)(b0:Nat)(w:ak)(h:Lies b0 [] w m)(hn:fV (Qd m.t)=0):
  Calls ax 78 #[.agg ↑m] w λe w'=>e=.returned (.bool false)/\Ev w w':=by
 have hH:=λw1 (hE:Ev w w1)=>kP m b0 w1 (h.ev hE);have hB:=Bx.new 79 ↑m w;have aW:=Ev.alloc w (.cells ↑m 79);generalize Qd m.t=s at*;have hcl:=h.ms.le;have hcm:=h.ms.max;have agb:(s==gU)=false:=awg.2 λe=>by rw[e]at hn;exact absurd hn ai
 have adC:(s==d_)=false:=awg.2 λe=>by rw[e]at hn;exact absurd hn ai
 have aa7:(s==bT)=false:=awg.2 λe=>by rw[e]at hn;exact absurd hn ai
 have aiG:(s==gB)=false:=awg.2 λe=>by rw[e]at hn;exact absurd hn ai
 have agc:(s==iH)=false:=awg.2 λe=>by rw[e]at hn;exact absurd hn ai
 have YM:(s==dN)=false:=awg.2 λe=>by rw[e]at hn;exact absurd hn ai
 have agd:(s==dU)=false:=awg.2 λe=>by rw[e]at hn;exact absurd hn ai
 unfold gU d_ bT gB iH dN dU at*;have HH:=zq hH;have dM:=zq aW;have HB:=zq hB;obtain⟨⟨c0,c1,c2,c3,c4⟩,_⟩:=hB.five;clear hH hB aW h hn;go_enter func78,ntmps78
 go_wp2_with (first
  | ((with_reducible refine(HH.out _ dM.out).mono ?_);rintro e w1 ⟨rfl,aK⟩;have E1:=zq (dM.out.trans aK);have F1:=zq aK;clear c0 c1 c2 c3 c4 aK;obtain⟨⟨c0,c1,c2,c3,c4⟩,_⟩:=(HB.out.ev F1.out).five))
 go_ret;exact⟨rfl,E1.out⟩
theorem aj3(y:M):eU y.t=(y.kind==1&&(y.kids.length==2&&bW (at_ (y.kids.map M.t) 0))):=by unfold eU;rw[M.xB,M.aZ,awh,Bool.and_assoc]
theorem ayU(h:U:=by
 go_enter func78,ntmps78
 go_wp2_with (first
  | ((with_reducible refine(HH.out _ dM.out).mono ?_);rintro e w1 ⟨rfl,aK⟩;have E1:=zq (dM.out.trans aK);have F1:=zq aK;clear c0 c1 c2 c3 c4 aK;obtain⟨⟨c0,c1,c2,c3,c4⟩,_⟩:=(HB.out.ev F1.out).five))
 go_ret;exact⟨rfl,E1.out⟩):U:=h
theorem ayM(h:U:=by rw[hP];have i1:((kn:Int)+1<3):=ae;exact ayU):U:=h
theorem LW(m:M)(b0:Nat)(w:ak)(h:Lies b0 [] w m)(x:M)(q:List M)(hq:m.kids=x::q)(wE:m.kind=1)(hx2:x.kind=2)(hs:x.s=bT):
  Calls ax 78 #[.agg ↑m] w λe w'=>e=.returned (.bool (pFormOf 3 (q.map M.t)))/\Ev w w':=by
 have hH:=λw1 (hE:Ev w w1)=>kP m b0 w1 (h.ev hE);rw[uD hq wE hx2,hs]at hH;have hB:=Bx.new 79 ↑m w;have aW:=Ev.alloc w (.cells ↑m 79);have fJ:=h.ms;have pq:=h.kid;rw[hq]at fJ pq;have hkn:m.kids.length=q.length+1:=by rw[hq];rfl
 have hcl:=fJ.le;have hcm:=fJ.max;obtain⟨b,off,hA,hb,_⟩:=Ms.cell fJ (i:=0) (x:=x) rfl;simp only[awr]at fJ hcl;rw[hkn,hA]at hB hH;rw[hkn]at aW|-;rw[hA]at aW fJ|-;rw[wE]at hB aW hH|-;have kZ:=zq (λi y (hy:(x::q)[i]?=some y) w1 (hE:Ev w w1)=>Ms.qI (fJ.ev hE) hy);have Ny:=zq (λy (hy:y∈q) w1 (hE:Ev w w1)=>(pq y (awn _ hy)).ev hE);have HH:=zq hH;have dM:=zq aW;have HB:=zq hB;obtain⟨⟨c0,c1,c2,c3,c4⟩,_⟩:=hB.five;obtain⟨kn,hk⟩:∃kn,kn=q.length:=⟨_,rfl⟩
 have mF:=zq hk;rw[<-hk]at HH dM HB c3 hcl|-;clear hH hB aW fJ pq hkn hk h hq hA wE hs;generalize m.s=ms at*;generalize m.n=mn at*;generalize m.cap=mc at*;generalize m.pos=mp at*;unfold bT at*;by_cases hz:2<=kn
 ·obtain⟨k,rfl⟩:∃k,kn=k+1:=⟨kn - 1,ae⟩
  have hP:pFormOf 3 (q.map M.t)=(q.take k).all λy=>eU y.t:=by show (decide (2<=(q.map M.t).length)&&((q.map M.t).take ((q.map M.t).length - 1)).all eU)=_;rw[awh,<-mF.out,awO ae,axi,axq,<-axe,axs];rfl
  rw[hP];have i1:¬((k:Int)+1+1<3):=ae;have xH:=zq (show (q.take k).length=k by rw[awT,<-mF.out];omega);clear hP;go_enter func78,ntmps78
  go_wp2_with (first
   | ((with_reducible refine(HH.out _ dM.out).mono ?_);rintro e w1 ⟨rfl,aK⟩;have E1:=zq (dM.out.trans aK);have F1:=zq aK;clear c0 c1 c2 c3 c4 aK;obtain⟨⟨c0,c1,c2,c3,c4⟩,_⟩:=(HB.out.ev F1.out).five))
  go_loopw [5] (λiv wr=>∃j:Nat,iv=.int .i64 ((j:Int)+1)/\j<=k/\Hid (((q.take k).take j).all (λy=>eU y.t)=true)/\Hid (Ev w1 wr)) (λiv _=>k+1 - (intOf iv).toNat)
  case atStart=>exact⟨0,rfl,aww _,zq aj,zq aJ⟩
  case round=>
   obtain⟨j,rfl,hj,HT,lN⟩:=hrel;by_cases hlt:j<k
   ·obtain⟨y,hy⟩:∃y,q[j]?=some y:=⟨_,awE (by rw[<-mF.out];omega)⟩
    have hyt:(q.take k)[j]?=some y:=by rw[List.getElem?_take_of_lt hlt];exact hy
    have UZ:=zq hyt;have hym:=awm hy;have HYL:=zq (Ny.out y hym);obtain⟨d0,d1,d2,d3,d4⟩:=kZ.out (j+1) y hy _ (E1.out.trans lN.out);have i2:(0:Int)<=(j:Int)+1:=ae;have i3:(j:Int)+1<(k:Int)+1+1:=ae;have i4:(j:Int)+1<(k:Int)+1:=ae;have aj6:=aj3 y;have HCM:=zq aj6;clear hyt hy hym aj6;by_cases hyk:y.kind=1
    ·rw[hyk]at d0 HCM;by_cases zh:y.kids.length=2
     ·rw[zh]at d3 HCM;obtain⟨z0,z1,hz2⟩:∃z0 z1,y.kids=[z0,z1]:=by
       match hh:y.kids,zh with
       | [z0,z1],_=>exact⟨z0,z1,rfl⟩
      have hzs:=(HYL.out _ (E1.out.trans lN.out)).ms;have hzc:=hzs.le;rw[hz2]at hzs hzc;simp only[awr,aw',awL,Nat.reduceAdd]at hzs hzc;obtain⟨bz,auo,hzA,hbz,z0_,_⟩:=Ms.cell hzs (i:=0) (x:=z0) rfl;simp only[awW,awM]at z0_;rw[hzA]at d3;have Zq:Hid (eU y.t=(z0.kind==2)):=zq (by rw[HCM.out,hz2];simp[at_,lG]);by_cases UY:z0.kind=2
      ·rw[UY]at z0_ Zq;go_wp2;go_roundw
       case rel=>exact⟨j+1,by go_num,ae,zq (by rw[sK HT.out UZ.out,Zq.out];rfl),lN⟩
       case measure=>simp[intOf];omega
      go_wp2;go_ret;exact⟨by rw[all_false UZ.out (by rw[Zq.out];exact awg.2 UY)];rfl,E1.out.trans lN.out⟩
     have aup:((y.kids.length:Int)==2)=false:=by rw[awg];omega
     have Zq:Hid (eU y.t=false):=zq (by rw[HCM.out];simp[zh]);go_wp2;go_ret;exact⟨by rw[all_false UZ.out Zq.out];rfl,E1.out.trans lN.out⟩
    have Zq:Hid (eU y.t=false):=zq (by rw[HCM.out];simp[hyk]);go_wp2;go_ret;exact⟨by rw[all_false UZ.out Zq.out];rfl,E1.out.trans lN.out⟩
   obtain rfl:j=k:=ae;have HA:Hid ((q.take j).all (λy=>eU y.t)=true):=zq (by have:=HT.out;rwa [awC (by rw[xH.out];exact awj _)]at this);have i4:¬((j:Int)+1<(j:Int)+1):=ae;go_wp2;go_ret;exact⟨by rw[HA.out];rfl,E1.out.trans lN.out⟩
 have hP:pFormOf 3 (q.map M.t)=false:=by show (decide (2<=(q.map M.t).length)&&((q.map M.t).take ((q.map M.t).length - 1)).all eU)=_;rw[awh,<-mF.out,awY hz,aw6]
 exact ayM
theorem XX(y:M):dH y.t=(y.kind==1&&(y.kids.map M.t).all bW):=by unfold dH;rw[M.xB,M.aZ]
theorem aj8(y:M):dX y.t=(dH y.t&&(y.kids.length==2||y.kids.length==3)):=by unfold dX;rw[M.aZ,awh]
theorem aj9(w:ak)(c0 c1 c2 c3 c4:au):∃w0,w.alloc (.cells #[c0,c1,c2,c3,c4] 79)=w0/\Ev w w0/\Bx 79 w.heap.size #[c0,c1,c2,c3,c4] w0:=⟨_,rfl,Ev.alloc _ _,Bx.new _ _ _⟩
theorem ayD(h:U:=by
 have hyb:(y.kind==1)=false:=awg.2 hy;rw[hyb,aw6,aw6];go_enter func78,ntmps78
 go_wp2_with (first
  | ((with_reducible refine(HH.out _ dM.out).mono ?_);rintro e w1 ⟨rfl,aK⟩;have E1:=zq (dM.out.trans aK);have F1:=zq aK;clear c0 c1 c2 c3 c4 aK;obtain⟨⟨c0,c1,c2,c3,c4⟩,_⟩:=(HB.out.ev F1.out).five;obtain⟨d0,d1,d2,d3,d4⟩:=Zr.out _ E1.out))
 go_ret;exact⟨rfl,E1.out⟩):U:=h
theorem Ui(m:M)(b0:Nat)(w:ak)(h:Lies b0 [] w m)(x:M)(q:List M)(hq:m.kids=x::q)(wE:m.kind=1)(hx2:x.kind=2)(hs:x.s=gB):
  Calls ax 78 #[.agg ↑m] w λe w'=>e=.returned (.bool (pFormOf 4 (q.map M.t)))/\Ev w w':=by
 have hH:=λw1 (hE:Ev w w1)=>kP m b0 w1 (h.ev hE);rw[uD hq wE hx2,hs]at hH;have hB:=Bx.new 79 ↑m w;have aW:=Ev.alloc w (.cells ↑m 79);have fJ:=h.ms;have pq:=h.kid;rw[hq]at fJ pq;have hkn:m.kids.length=q.length+1:=by rw[hq];rfl
 have hcl:=fJ.le;have hcm:=fJ.max;obtain⟨b,off,hA,hb,_⟩:=Ms.cell fJ (i:=0) (x:=x) rfl;simp only[awr]at fJ hcl;rw[hkn,hA]at hB hH;rw[hkn]at aW|-;rw[hA]at aW fJ|-;rw[wE]at hB aW hH|-;have kZ:=zq (λi y (hy:(x::q)[i]?=some y) w1 (hE:Ev w w1)=>Ms.qI (fJ.ev hE) hy);have Ny:=zq (λy (hy:y∈q) w1 (hE:Ev w w1)=>(pq y (awn _ hy)).ev hE);have HH:=zq hH;have dM:=zq aW;have HB:=zq hB;obtain⟨⟨c0,c1,c2,c3,c4⟩,_⟩:=hB.five;obtain⟨kn,hk⟩:∃kn,kn=q.length:=⟨_,rfl⟩
 have mF:=zq hk;rw[<-hk]at HH dM HB c3 hcl|-;clear hH hB aW fJ pq hkn hk h hq hA wE hs;generalize m.s=ms at*;generalize m.n=mn at*;generalize m.cap=mc at*;generalize m.pos=mp at*;unfold gB at*;by_cases hz:kn=4
 ·subst hz;obtain⟨y,z,u,v,hq⟩:∃y z u v,q=[y,z,u,v]:=by
   match q,mF with
   | [y,z,u,v],_=>exact⟨y,z,u,v,rfl⟩
   | [],H=>exact absurd H.out aj
   | [_],H=>exact absurd H.out aj
   | [_,_],H=>exact absurd H.out aj
   | [_,_,_],H=>exact absurd H.out aj
   | _::_::_::_::_::r,H=>exact absurd H.out aj
  subst hq;have hP:pFormOf 4 ([y,z,u,v].map M.t)=(dH y.t&&dH z.t):=by show (true&&([y.t,z.t].all dH))=_;simp
  rw[hP,XX,XX];have HAY:=zq (λw1 (hE:Ev w w1)=>Ed w1 ((Ny.out y aj w1 hE).ms));have HAZ:=zq (λw1 (hE:Ev w w1)=>Ed w1 ((Ny.out z aj w1 hE).ms));generalize (y.kids.map M.t).all bW=qa at*;generalize (z.kids.map M.t).all bW=qb at*;have Zr:=zq (λw1 (hE:Ev w w1)=>kZ.out 1 y rfl w1 hE);have Zq:=zq (λw1 (hE:Ev w w1)=>kZ.out 2 z rfl w1 hE);simp only[axn]at Zr;clear hP;by_cases hy:y.kind=1
  ·rw[hy]at Zr|-;by_cases hz1:z.kind=1
   ·rw[hz1]at Zq|-
    cases qa
    ·simp only[awZ,axi,aw6,Bool.and_false];go_enter func78,ntmps78
     go_wp2_with (first
      | ((with_reducible refine(HAY.out _ E1.out).mono ?_);rintro e w2 ⟨rfl,bQ⟩;have E2:=zq (E1.out.trans bQ))
      | ((with_reducible refine(HH.out _ dM.out).mono ?_);rintro e w1 ⟨rfl,aK⟩;have E1:=zq (dM.out.trans aK);have F1:=zq aK;clear c0 c1 c2 c3 c4 aK;obtain⟨⟨c0,c1,c2,c3,c4⟩,_⟩:=(HB.out.ev F1.out).five;obtain⟨d0,d1,d2,d3,d4⟩:=Zr.out _ E1.out;obtain⟨e0,e1,e2,e3,e4⟩:=Zq.out _ E1.out))
     go_ret;exact⟨rfl,E2.out⟩
    simp only[awZ,axi];go_enter func78,ntmps78
    go_wp2_with (first
     | ((with_reducible refine(HAY.out _ E1.out).mono ?_);rintro e w2 ⟨rfl,bQ⟩;have E2:=zq (E1.out.trans bQ);clear d0 d1 d2 d3 d4 e0 e1 e2 e3 e4;obtain⟨d0,d1,d2,d3,d4⟩:=Zr.out _ E2.out;obtain⟨e0,e1,e2,e3,e4⟩:=Zq.out _ E2.out;clear c0 c1 c2 c3 c4;obtain⟨⟨c0,c1,c2,c3,c4⟩,_⟩:=((HB.out.ev F1.out).ev bQ).five)
     | ((with_reducible refine(HAZ.out _ E2.out).mono ?_);rintro e w3 ⟨rfl,iI⟩;have E3:=zq (E2.out.trans iI))
     | ((with_reducible refine(HH.out _ dM.out).mono ?_);rintro e w1 ⟨rfl,aK⟩;have E1:=zq (dM.out.trans aK);have F1:=zq aK;clear c0 c1 c2 c3 c4 aK;obtain⟨⟨c0,c1,c2,c3,c4⟩,_⟩:=(HB.out.ev F1.out).five;obtain⟨d0,d1,d2,d3,d4⟩:=Zr.out _ E1.out;obtain⟨e0,e1,e2,e3,e4⟩:=Zq.out _ E1.out))
    go_ret;exact⟨rfl,E3.out⟩
   have hzb:(z.kind==1)=false:=awg.2 hz1;rw[hzb,aw6,Bool.and_false];go_enter func78,ntmps78
   go_wp2_with (first
    | ((with_reducible refine(HH.out _ dM.out).mono ?_);rintro e w1 ⟨rfl,aK⟩;have E1:=zq (dM.out.trans aK);have F1:=zq aK;clear c0 c1 c2 c3 c4 aK;obtain⟨⟨c0,c1,c2,c3,c4⟩,_⟩:=(HB.out.ev F1.out).five;obtain⟨d0,d1,d2,d3,d4⟩:=Zr.out _ E1.out;obtain⟨e0,e1,e2,e3,e4⟩:=Zq.out _ E1.out))
   go_ret;exact⟨rfl,E1.out⟩
  exact ayD
 have hP:pFormOf 4 (q.map M.t)=false:=by show ((q.map M.t).length==4&&((q.map M.t).take 2).all dH)=_;rw[awh,<-mF.out,show (kn==4)=false from awg.2 hz,aw6]
 rw[hP];have i1:((kn:Int)+1==5)=false:=by rw[awg];omega
 exact ayU
theorem ayL(h:U:=by
 go_wp2_with (first
  | ((with_reducible refine(HAZ.out _ E3.out).mono ?_);rintro e w4 ⟨rfl,iw⟩;have E4:=zq (E3.out.trans iw);clear e0 e1 e2 e3 e4;obtain⟨⟨e0,e1,e2,e3,e4⟩,_⟩:=(XT.out.ev iw).five))
 go_roundw
 case rel=>exact⟨j+1,by go_num,ae,zq (by rw[sK HT.out HZT.out,HCT.out]),E4⟩
 case measure=>simp[intOf];omega):U:=h
theorem QM(m:M)(b0:Nat)(w:ak)(h:Lies b0 [] w m)(x:M)(q:List M)(hq:m.kids=x::q)(wE:m.kind=1)(hx2:x.kind=2)(hs:x.s=dU):
  Calls ax 78 #[.agg ↑m] w λe w'=>e=.returned (.bool (pFormOf 7 (q.map M.t)))/\Ev w w':=by
 have hH:=λw1 (hE:Ev w w1)=>kP m b0 w1 (h.ev hE);rw[uD hq wE hx2,hs]at hH;have hB:=Bx.new 79 ↑m w;have aW:=Ev.alloc w (.cells ↑m 79);have fJ:=h.ms;have pq:=h.kid;rw[hq]at fJ pq;have hkn:m.kids.length=q.length+1:=by rw[hq];rfl
 have hcl:=fJ.le;have hcm:=fJ.max;obtain⟨b,off,hA,hb,_⟩:=Ms.cell fJ (i:=0) (x:=x) rfl;simp only[awr]at fJ hcl;rw[hkn,hA]at hB hH;rw[hkn]at aW|-;rw[hA]at aW fJ|-;rw[wE]at hB aW hH|-;have kZ:=zq (λi y (hy:(x::q)[i]?=some y) w1 (hE:Ev w w1)=>Ms.qI (fJ.ev hE) hy);have Ny:=zq (λy (hy:y∈q) w1 (hE:Ev w w1)=>(pq y (awn _ hy)).ev hE);have HH:=zq hH;have dM:=zq aW;have HB:=zq hB;obtain⟨⟨c0,c1,c2,c3,c4⟩,_⟩:=hB.five;obtain⟨kn,hk⟩:∃kn,kn=q.length:=⟨_,rfl⟩
 have mF:=zq hk;rw[<-hk]at HH dM HB c3 hcl|-;clear hH hB aW fJ pq hkn hk h hq hA wE hs;generalize m.s=ms at*;generalize m.n=mn at*;generalize m.cap=mc at*;generalize m.pos=mp at*;unfold dU at*;by_cases hz:2<=kn
 ·obtain⟨y,r,hq⟩:∃y r,q=y::r:=by
   cases q with
   | nil=>have:=mF.out;simp at this;omega
   | cons y r=>exact⟨y,r,rfl⟩
  subst hq;obtain⟨k,rfl⟩:∃k,kn=k+2:=⟨kn - 2,ae⟩
  have hrl:r.length=k+1:=by have:=mF.out;simp at this;omega
  have hP:pFormOf 7 ((y::r).map M.t)=(dH y.t&&(r.take k).all λz=>dX z.t):=by show (decide (2<=((y::r).map M.t).length)&&dH y.t&&((((y::r).map M.t).take (((y::r).map M.t).length - 1)).drop 1).all dX)=_;rw[awh,awr,hrl,awO ae,axi,axq,<-axe,axg,awo,awR,axh,axs];rfl
  rw[hP,XX];have HAY:=zq (λw1 (hE:Ev w w1)=>Ed w1 ((Ny.out y aj w1 hE).ms));generalize (y.kids.map M.t).all bW=qa at*;have Zr:=zq (λw1 (hE:Ev w w1)=>kZ.out 1 y rfl w1 hE);simp only[axn]at Zr;have i1:¬((k:Int)+2+1<3):=ae;have xH:=zq (show (r.take k).length=k by rw[awT,hrl];omega);have ZT:=zq hrl;clear hP hrl;by_cases hy:y.kind=1
  ·rw[hy]at Zr|-
   cases qa
   ·simp only[awZ,axi,aw6];go_enter func78,ntmps78
    go_wp2_with (first
     | ((with_reducible refine(HAY.out _ E1.out).mono ?_);rintro e w2 ⟨rfl,bQ⟩;have E2:=zq (E1.out.trans bQ))
     | ((with_reducible refine(HH.out _ dM.out).mono ?_);rintro e w1 ⟨rfl,aK⟩;have E1:=zq (dM.out.trans aK);have F1:=zq aK;clear c0 c1 c2 c3 c4 aK;obtain⟨⟨c0,c1,c2,c3,c4⟩,_⟩:=(HB.out.ev F1.out).five;obtain⟨d0,d1,d2,d3,d4⟩:=Zr.out _ E1.out))
    go_ret;exact⟨rfl,E2.out⟩
   simp only[awZ,axi];go_enter func78,ntmps78
   go_wp2_with (first
    | ((with_reducible refine(HAY.out _ E1.out).mono ?_);rintro e w2 ⟨rfl,bQ⟩;have E2:=zq (E1.out.trans bQ);clear d0 d1 d2 d3 d4)
    | ((with_reducible refine(HH.out _ dM.out).mono ?_);rintro e w1 ⟨rfl,aK⟩;have E1:=zq (dM.out.trans aK);have F1:=zq aK;clear c0 c1 c2 c3 c4 aK;obtain⟨⟨c0,c1,c2,c3,c4⟩,_⟩:=(HB.out.ev F1.out).five;obtain⟨d0,d1,d2,d3,d4⟩:=Zr.out _ E1.out))
   go_loopw [6] (λiv wr=>∃j:Nat,iv=.int .i64 ((j:Int)+2)/\j<=k/\Hid (((r.take k).take j).all (λz=>dX z.t)=true)/\Hid (Ev w wr)) (λiv _=>k+2 - (intOf iv).toNat)
   case atStart=>exact⟨0,rfl,aww _,zq aj,E2⟩
   case round=>
    obtain⟨j,rfl,hj,HT,lN⟩:=hrel;by_cases hlt:j<k
    ·obtain⟨z,hz2⟩:∃z,r[j]?=some z:=⟨_,awE (by rw[ZT.out];omega)⟩
     have HZT:=zq (show (r.take k)[j]?=some z by rw[List.getElem?_take_of_lt hlt];exact hz2);have hzm:z∈y::r:=awn _ (awm hz2);obtain⟨d0,d1,d2,d3,d4⟩:=kZ.out (j+2) z hz2 _ lN.out;have HAZ:=zq (λw1 (hE:Ev w w1)=>Ed w1 ((Ny.out z hzm w1 hE).ms));have HNM:=zq (XX z);generalize (z.kids.map M.t).all bW=qb at*;have HAM:=zq (aj8 z);have i2:(0:Int)<=(j:Int)+2:=ae;have i3:(j:Int)+2<(k:Int)+2+1:=ae;have i4:(j:Int)+2<(k:Int)+2:=ae;generalize hzl:z.kids.length=zl at*;clear hzl;obtain⟨w3,hw3,iI,qB⟩:=aj9 wr ↑z.kind ↑z.s ↑z.n (.slice z.A zl z.cap) ↑z.pos;have E3:=zq (lN.out.trans iI);have XT:=zq qB;obtain⟨⟨e0,e1,e2,e3,e4⟩,_⟩:=qB.five;clear hz2 hzm iI qB;by_cases UY:z.kind=1
     ·have HZK:=zq UY;rw[UY]at e0;clear UY
      cases qb
      ·have HCF:Hid (dX z.t=false):=zq (by rw[HAM.out,HNM.out,Bool.and_false,aw6])
       go_wp2_with (first
        | ((with_reducible refine(HAZ.out _ E3.out).mono ?_);rintro e w4 ⟨rfl,iw⟩;have E4:=zq (E3.out.trans iw)))
       go_ret;exact⟨by rw[all_false HZT.out HCF.out];rfl,E4.out⟩
      have HNT:Hid (dH z.t=true):=zq (by rw[HNM.out,HZK.out];rfl);by_cases h2:zl=2;subst h2;have HCT:Hid (dX z.t=true):=zq (by rw[HAM.out,HNT.out];rfl);exact ayL;have h2b:((zl:Int)==2)=false:=by rw[awg];omega
      by_cases h3:zl=3;subst h3;have HCT:Hid (dX z.t=true):=zq (by rw[HAM.out,HNT.out];rfl);clear h2b;exact ayL;have h3b:((zl:Int)==3)=false:=by rw[awg];omega
      have h3c:((zl:Int) !=3)=true:=by rw[axr];omega
      have h2c:((zl:Int) !=2)=true:=by rw[axr];omega
      have HCF:Hid (dX z.t=false):=zq (by rw[HAM.out];simp[h2,h3])
      go_wp2_with (first
       | ((with_reducible refine(HAZ.out _ E3.out).mono ?_);rintro e w4 ⟨rfl,iw⟩;have E4:=zq (E3.out.trans iw);clear e0 e1 e2 e3 e4;obtain⟨⟨e0,e1,e2,e3,e4⟩,_⟩:=(XT.out.ev iw).five))
      go_ret;exact⟨by rw[all_false HZT.out HCF.out];rfl,E4.out⟩
     have HCF:Hid (dX z.t=false):=zq (by rw[HAM.out,HNM.out];simp[UY]);go_wp2;go_ret;exact⟨by rw[all_false HZT.out HCF.out];rfl,E3.out⟩
    obtain rfl:j=k:=ae;have HA:Hid ((r.take j).all (λz=>dX z.t)=true):=zq (by have:=HT.out;rwa [awC (by rw[xH.out];exact awj _)]at this);have i4:¬((j:Int)+2<(j:Int)+2):=ae;go_wp2;go_ret;exact⟨by rw[HA.out];rfl,lN.out⟩
  exact ayD
 have hP:pFormOf 7 (q.map M.t)=false:=by show (decide (2<=(q.map M.t).length)&&dH (at_ (q.map M.t) 0)&&(((q.map M.t).take ((q.map M.t).length - 1)).drop 1).all dX)=_;rw[awh,<-mF.out,awY hz,aw6,aw6]
 exact ayM
theorem uF(m:M)(b0:Nat)(w:ak)(h:Lies b0 [] w m):
  Calls ax 78 #[.agg ↑m] w λe w'=>e=.returned (.bool (fZ m.t))/\Ev w w':=by
 by_cases hk:m.kind=1
 ·cases hq:m.kids with
  | nil=>
   have h0:Qd m.t=[]:=by rw[F_,hq];simp
   rw[Gw (.inl h0)];have:=xq m b0 w h (by rw[h0];rfl);rwa [hq]at this
  | cons x q=>
   have hl:m.kids.length=(x::q).length:=by rw[hq]
   rw[<-hl];by_cases hx:x.kind=2
   ·rw[OZ hq hk hx];rcases zV x.s with⟨h1,h2⟩|⟨h1,h2⟩|⟨h1,h2⟩|⟨h1,h2⟩|⟨h1,h2⟩|⟨h1,h2⟩|⟨h1,h2⟩|h1<;>rw[h1];exact QK m b0 w h x q hq hk hx h2;exact NV m b0 w h x q hq hk hx h2;exact LW m b0 w h x q hq hk hx h2;exact Ui m b0 w h x q hq hk hx h2;exact QL m b0 w h x q hq hk hx h2;exact IG m b0 w h x q hq hk hx h2;exact QM m b0 w h x q hq hk hx h2;exact xq m b0 w h (by rw[uD hq hk hx];exact h1)
   have h0:Qd m.t=[]:=by rw[F_,hq];simp[at_,lG,hx]
   rw[Gw (.inl h0)];exact xq m b0 w h (by rw[h0];rfl)
 have h0:Qd m.t=[]:=by rw[F_];simp[hk]
 rw[Gw (.inl h0)];exact xq m b0 w h (by rw[h0];rfl)
end Go.Proofs.YtpbfokkocaemlaaGreatDoor
