import Derived.Test.YtbgmhhfjkkfhpaaGreatDoorZ34G
set_option linter.unusedVariables false
set_option maxRecDepth 100000
set_option maxHeartbeats 64000000
namespace Go.Proofs.YtbgmhhfjkkfhpaaGreatDoor
open Go.RowKit
open Go.Lib renaming hid → zq
open Go renaming World → ak
open Go renaming Value → au
open Go.Proofs.Tryz renaming prog → ax
variable {U:Prop}
open Go.Proofs.Tryz
theorem Y5(N:Nat):∀(m m':PM) (b0 b0':Nat) (w:ak),m.dep<=N->Qx b0 [] w m->Qx b0' [] w m'->m.p=m'.p->m.p.good->m.p.fit->m.p.inK qL=true->
  Calls ax 72 #[pv m,pv m'] w (Yes w):=by
 induction N with
 | zero=>
  intro m m' b0 b0' w hd;rw[PM.vC]at hd;omega
 | succ N ih=>
  intro m m' b0 b0' w hd hL hL' ht hg hf hK;obtain⟨TS,hKq⟩:=aal hK;obtain⟨⟨_,hfe,_,hel,kN,hrl,Jj,hkn⟩,hkf⟩:=ae7 hf;rw[aC_]at hel;have hg2:=hg;rw[PM.tu,Pl.good,Pl.rW]at hg2;have hcl:=ab8 hg2.1 (by rw[aC_];exact hel);have hkg:∀x∈m.kids,x.p.good:=λx hx=>hg2.2 x.p (aDF hx);have ht2:=ht;rw[PM.tu m,PM.tu m']at ht2;injection ht2 with e1 e2 e3 e4 e5 e6 e7 e8
  have hlex:m'.ex.l.length=m.ex.l.length:=by have:=aD8 List.length e3;simpa using this.symm
  have hlk:m'.kids.length=m.kids.length:=by have:=aD8 List.length e8;simpa using this.symm
  obtain⟨hex,hlx,hco,zf,hrt,OE,hks,hkq⟩:=hL.at;obtain⟨aql,au_,aqm,aqn,aqo,aqp,au',aqr⟩:=hL'.at;have hx0:m.ex.l=[]:=by rcases hg2.1 with h|h|h|h|h|h|h;exact List.map_eq_nil_iff.1 h.2.2.1;exact absurd TS (by rw[h.1];decide);exact absurd TS (by rw[h.1];decide);exact absurd TS (by rw[h.1];decide);exact List.map_eq_nil_iff.1 h.2.2.1;exact absurd TS (by rw[h.1];decide);exact List.map_eq_nil_iff.1 h.2.2.1
  have hEX:=λw1 (hE:Ev w w1)=>ab6 m.ex.l m'.ex.l m.ex.A m'.ex.A m.ex.l.length m.ex.cap m'.ex.cap w1 (hex.sl.ev hE) (by have:=aql.sl.ev hE;rwa [hlex]at this) ae λi x x' hx hx' w2 dJ=>by rw[hx0]at hx;simp at hx
  have hCO:=λw1 (hE:Ev w w1)=>Nr m.co.l m.co.A m'.co.A m.co.l.length m.co.cap m'.co.cap w1 (hco.sl.ev hE) (by have:=aqm.sl.ev hE;rwa [<-e4]at this) ae;have hLF:=λw1 (hE:Ev w w1)=>Nr m.lf.l m.lf.A m'.lf.A m.lf.l.length m.lf.cap m'.lf.cap w1 (zf.sl.ev hE) (by have:=aqn.sl.ev hE;rwa [<-e5]at this) ae;have hRT:=λw1 (hE:Ev w w1)=>Nr m.rt.l m.rt.A m'.rt.A m.rt.l.length m.rt.cap m'.rt.cap w1 (hrt.sl.ev hE) (by have:=aqo.sl.ev hE;rwa [<-e6]at this) ae;have hAG:=λw1 (hE:Ev w w1)=>aik m.ag.l m.ag.A m'.ag.A m.ag.l.length m.ag.cap m'.ag.cap w1 (OE.sl.ev hE) (by have:=aqp.sl.ev hE;rwa [<-e7]at this) ae;have hKD:=λw1 (hE:Ev w w1)=>ab7 m.kids m'.kids m.A m'.A m.kids.length m.cap m'.cap w1 (hL.ps.ev hE) (by have:=hL'.ps.ev hE;rwa [hlk]at this) ae λi x x' hx hx' w2 dJ=>by
   have tq:=aDb hx;refine ih x x' b0 b0' w2 (by have:=PM.uH tq;omega) ((hkq x tq).ev (hE.trans dJ)) ((aqr x' (aDb hx')).ev (hE.trans dJ)) ?_ (hkg x tq) (hkf x tq) (hKq x tq);have h1:(m.kids.map PM.p)[i]?=some x.p:=by rw[aDG,hx];rfl
   have h2:(m'.kids.map PM.p)[i]?=some x'.p:=by rw[aDG,hx'];rfl
   rw[e8,h2]at h1;exact(aDp h1).symm
  unfold Yes at hEX hKD|-;unfold pv dK.v PM.kv;rw[<-e1,<-e2,hlex,hlk,<-e4,<-e5,<-e6,<-e7];have Jt:=zq hEX;have HCO:=zq hCO;have XL:=zq hLF;have HRT:=zq hRT;have Ip:=zq hAG;have VQ:=zq hKD;obtain⟨w0,hw0,aV,hX,hB⟩:=apc w ↑m.kind ↑m.name (.slice m.ex.A m.ex.l.length m.ex.cap) (.slice m.co.A m.co.l.length m.co.cap) (.slice m.lf.A m.lf.l.length m.lf.cap) (.slice m.rt.A m.rt.l.length m.rt.cap) (.slice m.ag.A m.ag.l.length m.ag.cap) (.slice m.A m.kids.length m.cap) ↑m.kind ↑m.name (.slice m'.ex.A m.ex.l.length m'.ex.cap) (.slice m'.co.A m.co.l.length m'.co.cap) (.slice m'.lf.A m.lf.l.length m'.lf.cap) (.slice m'.rt.A m.rt.l.length m'.rt.cap) (.slice m'.ag.A m.ag.l.length m'.ag.cap) (.slice m'.A m.kids.length m'.cap);obtain⟨⟨p0,p1,p2,p3,p4,p5,p6,p7⟩,_⟩:=hX.eight;obtain⟨⟨q0,q1,q2,q3,q4,q5,q6,q7⟩,_⟩:=hB.eight;have HE:=zq aV;have HX:=zq hX;have HB:=zq hB;clear hK TS hKq hx0 hEX hCO hLF hRT hAG hKD hX hB aV ih hd hL hL' ht hg hf hfe hel kN hrl Jj hkn hkf hg2 hcl hkg e1 e2 e3 e4 e5 e6 e7 e8 hlex hlk hex hlx hco zf hrt OE hks hkq aql au_ aqm aqn aqo aqp au' aqr;go_enter func72,ntmps72
  go_wp2_with (first
   | ((with_reducible refine(Jt.out _ HE.out).mono ?_);rintro e w1 ⟨rfl,aJ⟩;have F1:=zq aJ;have E1:=zq (HE.out.trans F1.out);clear aJ p0 p1 p2 p3 p4 p5 p6 p7 q0 q1 q2 q3 q4 q5 q6 q7;obtain⟨⟨p0,p1,p2,p3,p4,p5,p6,p7⟩,_⟩:=(HX.out.ev F1.out).eight;obtain⟨⟨q0,q1,q2,q3,q4,q5,q6,q7⟩,_⟩:=(HB.out.ev F1.out).eight)
   | ((with_reducible refine(HCO.out _ E1.out).mono ?_);rintro e w2 ⟨rfl,dJ⟩;have F2:=zq (F1.out.trans dJ);have E2:=zq (HE.out.trans F2.out);clear dJ p0 p1 p2 p3 p4 p5 p6 p7 q0 q1 q2 q3 q4 q5 q6 q7;obtain⟨⟨p0,p1,p2,p3,p4,p5,p6,p7⟩,_⟩:=(HX.out.ev F2.out).eight;obtain⟨⟨q0,q1,q2,q3,q4,q5,q6,q7⟩,_⟩:=(HB.out.ev F2.out).eight)
   | ((with_reducible refine(XL.out _ E2.out).mono ?_);rintro e w3 ⟨rfl,jW⟩;have F3:=zq (F2.out.trans jW);have E3:=zq (HE.out.trans F3.out);clear jW p0 p1 p2 p3 p4 p5 p6 p7 q0 q1 q2 q3 q4 q5 q6 q7;obtain⟨⟨p0,p1,p2,p3,p4,p5,p6,p7⟩,_⟩:=(HX.out.ev F3.out).eight;obtain⟨⟨q0,q1,q2,q3,q4,q5,q6,q7⟩,_⟩:=(HB.out.ev F3.out).eight)
   | ((with_reducible refine(HRT.out _ E3.out).mono ?_);rintro e w4 ⟨rfl,gy⟩;have F4:=zq (F3.out.trans gy);have E4:=zq (HE.out.trans F4.out);clear gy p0 p1 p2 p3 p4 p5 p6 p7 q0 q1 q2 q3 q4 q5 q6 q7;obtain⟨⟨p0,p1,p2,p3,p4,p5,p6,p7⟩,_⟩:=(HX.out.ev F4.out).eight;obtain⟨⟨q0,q1,q2,q3,q4,q5,q6,q7⟩,_⟩:=(HB.out.ev F4.out).eight)
   | ((with_reducible refine(Ip.out _ E4.out).mono ?_);rintro e w5 ⟨rfl,qP⟩;have F5:=zq (F4.out.trans qP);have E5:=zq (HE.out.trans F5.out);clear qP p0 p1 p2 p3 p4 p5 p6 p7 q0 q1 q2 q3 q4 q5 q6 q7;obtain⟨⟨p0,p1,p2,p3,p4,p5,p6,p7⟩,_⟩:=(HX.out.ev F5.out).eight;obtain⟨⟨q0,q1,q2,q3,q4,q5,q6,q7⟩,_⟩:=(HB.out.ev F5.out).eight)
   | ((with_reducible refine(VQ.out _ E5.out).mono ?_);rintro e w6 ⟨rfl,uK⟩;have F6:=zq (F5.out.trans uK);have E6:=zq (HE.out.trans F6.out);clear uK p0 p1 p2 p3 p4 p5 p6 p7 q0 q1 q2 q3 q4 q5 q6 q7;obtain⟨⟨p0,p1,p2,p3,p4,p5,p6,p7⟩,_⟩:=(HX.out.ev F6.out).eight;obtain⟨⟨q0,q1,q2,q3,q4,q5,q6,q7⟩,_⟩:=(HB.out.ev F6.out).eight))
  go_ret;exact⟨rfl,E6.out⟩
theorem We(p:Pl)(hW:WrP p)(hK:p.inK qL=true)(hno:(fH (printS (aI p))).1.every (noT EE)=true)(w:ak)(hT:Tab w):Calls ax 71 #[.string ⟨(printS (aI p)).toArray⟩] w (gJ (yz (printS (aI p))) w):=by
 obtain⟨r1,_,_⟩:=Ir p hW.wr.good;have h1:=r1 hW.YF hW.deep;have hc:(fH (printS (aI p))).2.1=0:=by by_cases hc:(fH (printS (aI p))).2.1=0;exact hc;unfold yz at h1;rw[if_neg (by simpa using hc)]at h1;exact absurd (aD8 (λx=>x.2.1) h1) hc
 have h2:pFrom (fH (printS (aI p))).1=(p,0,0):=by unfold yz at h1;rwa [if_pos (by simpa using hc)]at h1
 have he:(dD (fH (printS (aI p))).1).1=0:=by by_cases he:(dD (fH (printS (aI p))).1).1=0;exact he;unfold pFrom at h2;rw[if_neg (by simpa using he)]at h2;exact absurd (aD8 (λx=>x.2.1) h2) he
 have hl:¬600<(printS (aI (pPlan (fH (printS (aI p))).1))).length:=by intro hl;unfold pFrom at h2;rw[if_pos (by simpa using he),if_pos hl]at h2;have h3:(3:Int)=0:=aD8 (λx=>x.2.1) h2;exact absurd h3 ai
 have hp:pPlan (fH (printS (aI p))).1=p:=by unfold pFrom at h2;rw[if_pos (by simpa using he),if_neg hl]at h2;exact aD8 (λx=>x.1) h2
 exact afH (printS (aI p)) w hT (by have:=hW.YF;omega) hno (by rw[hp];exact hK) hc he hl
theorem acx(m:PM)(b0:Nat)(w:ak)(hT:Tab w)(h:Qx b0 [] w m)(hW:WrP m.p)(hK:m.p.inK qL=true)(hno:(fH (printS (aI m.p))).1.every (noT EE)=true):
  Calls ax 40 #[pv m] w λe w'=>e=.returned (.string ⟨(Cj m.p).toArray⟩)/\Ev w w':=by
 have hg:=hW.wr.good;have hsz:(aI m.p).size<=10000:=by have:=hW.wr.size;omega
 have hlen:(printS (aI m.p)).length<=100000:=by have:=hW.YF;omega
 have hfit:=Ej _ hg hsz;have zk:=(MM m.p hg).2.2;have hpl:=GK m.p hg;rw[(VK l_ (λ_=>1)).1,En]at hpl;have HS:=zq (λw1 (hE:Ev w w1)=>YY m b0 w1 (h.ev hE) ae ae);have HSH:=zq (λw1 (hE:Ev w w1)=>V_ m b0 w1 (hT.ev hE) (h.ev hE) hfit hK ae ae (λe=>by have:=(wG _ zk).1;rw[e]at this;simp at this) (Ap _ (lC _ zk).1));have ZR:=zq (λw1 (hE:Ev w w1)=>We m.p hW hK hno w1 (hT.ev hE));have HSM:=zq (λm2 (hp:m2.p=m.p) b1 w1 (hE:Ev w w1) (h2:Qx b1 [] w1 m2)=>Y5 m.dep m m2 b0 b1 w1 (aC8 _) (h.ev hE) h2 hp.symm hg hfit hK);obtain⟨r1,r2,r3⟩:=Ir m.p hg;obtain⟨w0,hw0,aV,hB,_⟩:=Ez w m;obtain⟨⟨p0,p1,p2,p3,p4,p5,p6,p7⟩,_⟩:=hB.eight;have HE:=zq aV;have HB:=zq hB;unfold gJ at ZR;unfold Yes at HSM;unfold pv dK.v PM.kv at*;have hsm:m.p.size<=600/\m.p.sum l_<=600:=by have:=VL hW;omega
 rw[aDE hsm]at HS;obtain⟨PS,JB⟩:∃PS,PS=printS (aI m.p):=⟨_,rfl⟩
 have wO:(printS (aI m.p)).length<=600/\(aI m.p).deep<=12:=⟨hW.YF,hW.deep⟩
 rw[show Cj m.p=printS (aI m.p) by unfold Cj;rw[if_pos wO]];rw[r1 wO.1 wO.2]at ZR;simp only at ZR;rw[<-JB]at ZR HSH|-;clear hW hK hno h hB aV hsz hlen hT hg hfit zk hpl r1 r2 r3 hsm wO JB;go_enter func40,ntmps40
 go_wp2_with (first
  | ((with_reducible refine(HS.out _ HE.out).mono ?_);rintro e w1 ⟨rfl,aJ⟩;have E1:=zq (HE.out.trans aJ);clear p0 p1 p2 p3 p4 p5 p6 p7;obtain⟨⟨p0,p1,p2,p3,p4,p5,p6,p7⟩,_⟩:=(HB.out.ev aJ).eight;have nY:=zq (HB.out.ev aJ);clear aJ)
  | ((with_reducible refine(HSH.out _ E1.out).mono ?_);rintro e w2 ⟨rfl,dJ⟩;have E2:=zq (E1.out.trans dJ);clear p0 p1 p2 p3 p4 p5 p6 p7;have N8:=zq (nY.out.ev dJ);clear dJ)
  | ((with_reducible refine(ZR.out _ E2.out).mono ?_);rintro e w3 ⟨m2,rfl,hp2,hq2,jW⟩;simp only[];obtain⟨w4,hw4,gy,TP,_⟩:=Ez w3 m2;have E4:=zq (E2.out.trans (jW.trans gy));have HP2:=zq hp2;have HQ2:=zq (hq2.ev gy);obtain⟨⟨q0,q1,q2,q3,q4,q5,q6,q7⟩,_⟩:=TP.eight;obtain⟨⟨p0,p1,p2,p3,p4,p5,p6,p7⟩,_⟩:=(N8.out.ev (jW.trans gy)).eight;clear hp2 hq2 jW gy TP)
  | ((with_reducible refine(HSM.out m2 HP2.out _ _ E4.out HQ2.out).mono ?_);rintro e w5 ⟨rfl,qP⟩;have E5:=zq (E4.out.trans qP)))
 go_ret;exact⟨rfl,E5.out⟩
theorem rJ{m x:M}{q:List M}(hq:m.kids=x::q)(hk:m.kind=1)(hx:x.kind=2):ZV m.t=x.s:=by rw[Vm,hq];simp[hk,oD,hx,at_,M.DK]
theorem Qp{m x:M}{q:List M}(hq:m.kids=x::q)(hk:m.kind=1)(hx:x.kind=2):h_ m.t=pFormOf (fG x.s) (q.map M.t):=by
 rw[zH,hq];simp only[hk,aD_,aDe,at_,aEO,oD,hx,M.DK,aDJ,aEc,aD']
 cases q with
 | cons y r=>rw[aDE aj,aD']
 | nil=>
  simp only[aDu,aDh,aDZ];rcases zK x.s with⟨h,_⟩|⟨h,_⟩|⟨h,_⟩|⟨h,_⟩|⟨h,_⟩|⟨h,_⟩|⟨h,_⟩|h<;>rw[h]<;>rfl
theorem GX{m:M}(h:ZV m.t=[]∨fG (ZV m.t)=0):h_ m.t=false:=by
 by_cases hk:m.kind=1
 cases hq:m.kids with
 | nil=>rw[zH,hq];simp
 | cons x q=>
  by_cases hx:x.kind=2;rw[Qp hq hk hx];rw[rJ hq hk hx]at h;have h0:fG x.s=0:=by rcases h with h|h;rw[h];rfl;exact h
  rw[h0];rfl;rw[zH,hq];simp[at_,oD,hx]
 rw[zH];simp[hk]
theorem Tf(m:M)(b0:Nat)(w:ak)(h:Lies b0 [] w m)(x:M)(q:List M)(hq:m.kids=x::q)(nX:m.kind=1)(hx2:x.kind=2)(hs:x.s=gm):
  Calls ax 92 #[.agg ↑m] w λe w'=>e=.returned (.bool (pFormOf 1 (q.map M.t)))/\Ev w w':=by
 have hH:=λw1 (hE:Ev w w1)=>oG m b0 w1 (h.ev hE);rw[rJ hq nX hx2,hs]at hH;have hB:=Bx.new 109 ↑m w;have aV:=Ev.alloc w (.cells ↑m 109);have fU:=h.ms;have qm:=h.kid;rw[hq]at fU qm;have hkn:m.kids.length=q.length+1:=by rw[hq];rfl
 have hcl:=fU.le;have hcm:=fU.max;obtain⟨b,off,hA,hb,_⟩:=Ms.cell fU (i:=0) (x:=x) rfl;simp only[aDh]at fU hcl;rw[hkn,hA]at hB hH;rw[hkn]at aV|-;rw[hA]at aV fU|-;rw[nX]at hB aV hH|-;have nM:=zq (λi y (hy:(x::q)[i]?=some y) w1 (hE:Ev w w1)=>Ms.oW (fU.ev hE) hy);have HH:=zq hH;have cO:=zq aV;have HB:=zq hB;obtain⟨⟨c0,c1,c2,c3,c4⟩,_⟩:=hB.five;obtain⟨kn,hk⟩:∃kn,kn=q.length:=⟨_,rfl⟩
 have qg:=zq hk;rw[<-hk]at HH cO HB c3 hcl|-;clear hH hB aV fU qm hkn hk h hq hA nX hs;generalize m.s=ms at*;generalize m.n=mn at*;generalize m.cap=mc at*;generalize m.pos=mp at*;unfold gm at*
 match q,qg with
 | [],qg=>
  obtain rfl:kn=0:=qg.out;go_enter func92,ntmps92
  go_wp2_with (first
   | ((with_reducible refine(HH.out _ cO.out).mono ?_);rintro e w1 ⟨rfl,aJ⟩;have E1:=zq (cO.out.trans aJ);have F1:=zq aJ;clear c0 c1 c2 c3 c4 aJ;obtain⟨⟨c0,c1,c2,c3,c4⟩,_⟩:=(HB.out.ev F1.out).five))
  go_ret;exact⟨rfl,E1.out⟩
 | [y],qg=>
  obtain rfl:kn=1:=qg.out;rw[show pFormOf 1 ([y].map M.t)=(y.kind==2) by show (true&&bT y.t)=_;rw[oD,aD']];by_cases hy:y.kind=2
  ·rw[hy];go_enter func92,ntmps92
   go_wp2_with (first
    | ((with_reducible refine(HH.out _ cO.out).mono ?_);rintro e w1 ⟨rfl,aJ⟩;have E1:=zq (cO.out.trans aJ);have F1:=zq aJ;clear c0 c1 c2 c3 c4 aJ;obtain⟨⟨c0,c1,c2,c3,c4⟩,_⟩:=(HB.out.ev F1.out).five;obtain⟨d0,d1,d2,d3,d4⟩:=nM.out 1 y (rfl) _ E1.out;simp only[aEi]at d0 d1 d2 d3 d4;rw[hy]at d0))
   go_ret;exact⟨rfl,E1.out⟩
  have hyb:(y.kind==2)=false:=aC7.2 hy;rw[hyb];go_enter func92,ntmps92
  go_wp2_with (first
   | ((with_reducible refine(HH.out _ cO.out).mono ?_);rintro e w1 ⟨rfl,aJ⟩;have E1:=zq (cO.out.trans aJ);have F1:=zq aJ;clear c0 c1 c2 c3 c4 aJ;obtain⟨⟨c0,c1,c2,c3,c4⟩,_⟩:=(HB.out.ev F1.out).five;obtain⟨d0,d1,d2,d3,d4⟩:=nM.out 1 y (rfl) _ E1.out;simp only[aEi]at d0 d1 d2 d3 d4))
  go_ret;exact⟨rfl,E1.out⟩
 | y::z::r,qg=>
  obtain⟨k,rfl⟩:∃k,kn=k+2:=⟨r.length,qg.out⟩
  have i1:((k:Int)+2+1==2)=false:=by rw[aC7];omega
  rw[show pFormOf 1 ((y::z::r).map M.t)=false by show ((r.map M.t).length+1+1==1&&bT y.t)=false;simp];go_enter func92,ntmps92
  go_wp2_with (first
   | ((with_reducible refine(HH.out _ cO.out).mono ?_);rintro e w1 ⟨rfl,aJ⟩;have E1:=zq (cO.out.trans aJ);have F1:=zq aJ;clear c0 c1 c2 c3 c4 aJ;obtain⟨⟨c0,c1,c2,c3,c4⟩,_⟩:=(HB.out.ev F1.out).five))
  go_ret;exact⟨rfl,E1.out⟩
theorem OO(m:M)(b0:Nat)(w:ak)(h:Lies b0 [] w m)(x:M)(q:List M)(hq:m.kids=x::q)(nX:m.kind=1)(hx2:x.kind=2)(hs:x.s=gK):
  Calls ax 92 #[.agg ↑m] w λe w'=>e=.returned (.bool (pFormOf 2 (q.map M.t)))/\Ev w w':=by
 have hH:=λw1 (hE:Ev w w1)=>oG m b0 w1 (h.ev hE);rw[rJ hq nX hx2,hs]at hH;have hB:=Bx.new 109 ↑m w;have aV:=Ev.alloc w (.cells ↑m 109);have fU:=h.ms;have qm:=h.kid;rw[hq]at fU qm;have hkn:m.kids.length=q.length+1:=by rw[hq];rfl
 have hcl:=fU.le;have hcm:=fU.max;obtain⟨b,off,hA,hb,_⟩:=Ms.cell fU (i:=0) (x:=x) rfl;simp only[aDh]at fU hcl;rw[hkn,hA]at hB hH;rw[hkn]at aV|-;rw[hA]at aV fU|-;rw[nX]at hB aV hH|-;have HH:=zq hH;have cO:=zq aV;have HB:=zq hB;obtain⟨⟨c0,c1,c2,c3,c4⟩,_⟩:=hB.five;obtain⟨kn,hk⟩:∃kn,kn=q.length:=⟨_,rfl⟩
 have qg:=zq hk;rw[<-hk]at HH cO HB c3 hcl|-;clear hH hB aV fU qm hkn hk h hq hA nX hs;generalize m.s=ms at*;generalize m.n=mn at*;generalize m.cap=mc at*;generalize m.pos=mp at*;unfold gK at*;have hP:pFormOf 2 (q.map M.t)=((kn:Int)+1==3):=by show ((q.map M.t).length==2)=_;rw[aC_,<-qg.out,aDY,aDn,aDn];omega
 rw[hP];go_enter func92,ntmps92
 go_wp2_with (first
  | ((with_reducible refine(HH.out _ cO.out).mono ?_);rintro e w1 ⟨rfl,aJ⟩;have E1:=zq (cO.out.trans aJ);have F1:=zq aJ;clear c0 c1 c2 c3 c4 aJ;obtain⟨⟨c0,c1,c2,c3,c4⟩,_⟩:=(HB.out.ev F1.out).five))
 go_ret;exact⟨rfl,E1.out⟩
theorem Ti(m:M)(b0:Nat)(w:ak)(h:Lies b0 [] w m)(x:M)(q:List M)(hq:m.kids=x::q)(nX:m.kind=1)(hx2:x.kind=2)(hs:x.s=iw):
  Calls ax 92 #[.agg ↑m] w λe w'=>e=.returned (.bool (pFormOf 5 (q.map M.t)))/\Ev w w':=by
 have hH:=λw1 (hE:Ev w w1)=>oG m b0 w1 (h.ev hE);rw[rJ hq nX hx2,hs]at hH;have hB:=Bx.new 109 ↑m w;have aV:=Ev.alloc w (.cells ↑m 109);have fU:=h.ms;have qm:=h.kid;rw[hq]at fU qm;have hkn:m.kids.length=q.length+1:=by rw[hq];rfl
 have hcl:=fU.le;have hcm:=fU.max;obtain⟨b,off,hA,hb,_⟩:=Ms.cell fU (i:=0) (x:=x) rfl;simp only[aDh]at fU hcl;rw[hkn,hA]at hB hH;rw[hkn]at aV|-;rw[hA]at aV fU|-;rw[nX]at hB aV hH|-;have HH:=zq hH;have cO:=zq aV;have HB:=zq hB;obtain⟨⟨c0,c1,c2,c3,c4⟩,_⟩:=hB.five;obtain⟨kn,hk⟩:∃kn,kn=q.length:=⟨_,rfl⟩
 have qg:=zq hk;rw[<-hk]at HH cO HB c3 hcl|-;clear hH hB aV fU qm hkn hk h hq hA nX hs;generalize m.s=ms at*;generalize m.n=mn at*;generalize m.cap=mc at*;generalize m.pos=mp at*;unfold iw at*;have hP:pFormOf 5 (q.map M.t)=((kn:Int)+1==3):=by show ((q.map M.t).length==2)=_;rw[aC_,<-qg.out,aDY,aDn,aDn];omega
 rw[hP];go_enter func92,ntmps92
 go_wp2_with (first
  | ((with_reducible refine(HH.out _ cO.out).mono ?_);rintro e w1 ⟨rfl,aJ⟩;have E1:=zq (cO.out.trans aJ);have F1:=zq aJ;clear c0 c1 c2 c3 c4 aJ;obtain⟨⟨c0,c1,c2,c3,c4⟩,_⟩:=(HB.out.ev F1.out).five))
 go_ret;exact⟨rfl,E1.out⟩
theorem Je(m:M)(b0:Nat)(w:ak)(h:Lies b0 [] w m)(x:M)(q:List M)(hq:m.kids=x::q)(nX:m.kind=1)(hx2:x.kind=2)(hs:x.s=fD):
  Calls ax 92 #[.agg ↑m] w λe w'=>e=.returned (.bool (pFormOf 6 (q.map M.t)))/\Ev w w':=by
 have hH:=λw1 (hE:Ev w w1)=>oG m b0 w1 (h.ev hE);rw[rJ hq nX hx2,hs]at hH;have hB:=Bx.new 109 ↑m w;have aV:=Ev.alloc w (.cells ↑m 109);have fU:=h.ms;have qm:=h.kid;rw[hq]at fU qm;have hkn:m.kids.length=q.length+1:=by rw[hq];rfl
 have hcl:=fU.le;have hcm:=fU.max;obtain⟨b,off,hA,hb,_⟩:=Ms.cell fU (i:=0) (x:=x) rfl;simp only[aDh]at fU hcl;rw[hkn,hA]at hB hH;rw[hkn]at aV|-;rw[hA]at aV fU|-;rw[nX]at hB aV hH|-;have HH:=zq hH;have cO:=zq aV;have HB:=zq hB;obtain⟨⟨c0,c1,c2,c3,c4⟩,_⟩:=hB.five;obtain⟨kn,hk⟩:∃kn,kn=q.length:=⟨_,rfl⟩
 have qg:=zq hk;rw[<-hk]at HH cO HB c3 hcl|-;clear hH hB aV fU qm hkn hk h hq hA nX hs;generalize m.s=ms at*;generalize m.n=mn at*;generalize m.cap=mc at*;generalize m.pos=mp at*;unfold fD at*;have hP:pFormOf 6 (q.map M.t)=((kn:Int)+1==2):=by show ((q.map M.t).length==1)=_;rw[aC_,<-qg.out,aDY,aDn,aDn];omega
 rw[hP];go_enter func92,ntmps92
 go_wp2_with (first
  | ((with_reducible refine(HH.out _ cO.out).mono ?_);rintro e w1 ⟨rfl,aJ⟩;have E1:=zq (cO.out.trans aJ);have F1:=zq aJ;clear c0 c1 c2 c3 c4 aJ;obtain⟨⟨c0,c1,c2,c3,c4⟩,_⟩:=(HB.out.ev F1.out).five))
 go_ret;exact⟨rfl,E1.out⟩
theorem u_(m:M)(b0:Nat)(w:ak)(h:Lies b0 [] w m)(hn:fG (ZV m.t)=0):
  Calls ax 92 #[.agg ↑m] w λe w'=>e=.returned (.bool false)/\Ev w w':=by
 have hH:=λw1 (hE:Ev w w1)=>oG m b0 w1 (h.ev hE);have hB:=Bx.new 109 ↑m w;have aV:=Ev.alloc w (.cells ↑m 109);generalize ZV m.t=s at*;have hcl:=h.ms.le;have hcm:=h.ms.max;have alj:(s==gm)=false:=aC7.2 λe=>by rw[e]at hn;exact absurd hn ai
 have ahW:(s==gK)=false:=aC7.2 λe=>by rw[e]at hn;exact absurd hn ai
 have aeJ:(s==fA)=false:=aC7.2 λe=>by rw[e]at hn;exact absurd hn ai
 have aoE:(s==lS)=false:=aC7.2 λe=>by rw[e]at hn;exact absurd hn ai
 have alk:(s==iw)=false:=aC7.2 λe=>by rw[e]at hn;exact absurd hn ai
 have abK:(s==fD)=false:=aC7.2 λe=>by rw[e]at hn;exact absurd hn ai
 have alm:(s==dX)=false:=aC7.2 λe=>by rw[e]at hn;exact absurd hn ai
 unfold gm gK fA lS iw fD dX at*;have HH:=zq hH;have cO:=zq aV;have HB:=zq hB;obtain⟨⟨c0,c1,c2,c3,c4⟩,_⟩:=hB.five;clear hH hB aV h hn;go_enter func92,ntmps92
 go_wp2_with (first
  | ((with_reducible refine(HH.out _ cO.out).mono ?_);rintro e w1 ⟨rfl,aJ⟩;have E1:=zq (cO.out.trans aJ);have F1:=zq aJ;clear c0 c1 c2 c3 c4 aJ;obtain⟨⟨c0,c1,c2,c3,c4⟩,_⟩:=(HB.out.ev F1.out).five))
 go_ret;exact⟨rfl,E1.out⟩
theorem aqu(y:M):fM y.t=(y.kind==1&&(y.kids.length==2&&bT (at_ (y.kids.map M.t) 0))):=by unfold fM;rw[M.xm,M.dO,aC_,Bool.and_assoc]
theorem aF'(h:U:=by
 go_enter func92,ntmps92
 go_wp2_with (first
  | ((with_reducible refine(HH.out _ cO.out).mono ?_);rintro e w1 ⟨rfl,aJ⟩;have E1:=zq (cO.out.trans aJ);have F1:=zq aJ;clear c0 c1 c2 c3 c4 aJ;obtain⟨⟨c0,c1,c2,c3,c4⟩,_⟩:=(HB.out.ev F1.out).five))
 go_ret;exact⟨rfl,E1.out⟩):U:=h
theorem aF4(h:U:=by rw[hP];have i1:((kn:Int)+1<3):=ae;exact aF'):U:=h
theorem NI(m:M)(b0:Nat)(w:ak)(h:Lies b0 [] w m)(x:M)(q:List M)(hq:m.kids=x::q)(nX:m.kind=1)(hx2:x.kind=2)(hs:x.s=fA):
  Calls ax 92 #[.agg ↑m] w λe w'=>e=.returned (.bool (pFormOf 3 (q.map M.t)))/\Ev w w':=by
 have hH:=λw1 (hE:Ev w w1)=>oG m b0 w1 (h.ev hE);rw[rJ hq nX hx2,hs]at hH;have hB:=Bx.new 109 ↑m w;have aV:=Ev.alloc w (.cells ↑m 109);have fU:=h.ms;have qm:=h.kid;rw[hq]at fU qm;have hkn:m.kids.length=q.length+1:=by rw[hq];rfl
 have hcl:=fU.le;have hcm:=fU.max;obtain⟨b,off,hA,hb,_⟩:=Ms.cell fU (i:=0) (x:=x) rfl;simp only[aDh]at fU hcl;rw[hkn,hA]at hB hH;rw[hkn]at aV|-;rw[hA]at aV fU|-;rw[nX]at hB aV hH|-;have nM:=zq (λi y (hy:(x::q)[i]?=some y) w1 (hE:Ev w w1)=>Ms.oW (fU.ev hE) hy);have N_:=zq (λy (hy:y∈q) w1 (hE:Ev w w1)=>(qm y (aDc _ hy)).ev hE);have HH:=zq hH;have cO:=zq aV;have HB:=zq hB;obtain⟨⟨c0,c1,c2,c3,c4⟩,_⟩:=hB.five;obtain⟨kn,hk⟩:∃kn,kn=q.length:=⟨_,rfl⟩
 have qg:=zq hk;rw[<-hk]at HH cO HB c3 hcl|-;clear hH hB aV fU qm hkn hk h hq hA nX hs;generalize m.s=ms at*;generalize m.n=mn at*;generalize m.cap=mc at*;generalize m.pos=mp at*;unfold fA at*;by_cases hz:2<=kn
 ·obtain⟨k,rfl⟩:∃k,kn=k+1:=⟨kn-1,ae⟩
  have hP:pFormOf 3 (q.map M.t)=(q.take k).all λy=>fM y.t:=by show (decide (2<=(q.map M.t).length)&&((q.map M.t).take ((q.map M.t).length-1)).all fM)=_;rw[aC_,<-qg.out,aDE ae,aD',aEC,<-aEf,aEy];rfl
  rw[hP];have i1:¬((k:Int)+1+1<3):=ae;have vU:=zq (show (q.take k).length=k by rw[aDP,<-qg.out];omega);clear hP;go_enter func92,ntmps92
  go_wp2_with (first
   | ((with_reducible refine(HH.out _ cO.out).mono ?_);rintro e w1 ⟨rfl,aJ⟩;have E1:=zq (cO.out.trans aJ);have F1:=zq aJ;clear c0 c1 c2 c3 c4 aJ;obtain⟨⟨c0,c1,c2,c3,c4⟩,_⟩:=(HB.out.ev F1.out).five))
  go_loopw [5] (λiv wr=>∃j:Nat,iv=.int .i64 ((j:Int)+1)/\j<=k/\Hid (((q.take k).take j).all (λy=>fM y.t)=true)/\Hid (Ev w1 wr)) (λiv _=>k+1-(intOf iv).toNat)
  case atStart=>exact⟨0,rfl,aDl _,zq aj,zq aS⟩
  case round=>
   obtain⟨j,rfl,hj,HT,yh⟩:=hrel;by_cases hlt:j<k
   ·obtain⟨y,hy⟩:∃y,q[j]?=some y:=⟨_,aDo (by rw[<-qg.out];omega)⟩
    have hyt:(q.take k)[j]?=some y:=by rw[List.getElem?_take_of_lt hlt];exact hy
    have HYT:=zq hyt;have WG:=aDb hy;have HYL:=zq (N_.out y WG);obtain⟨d0,d1,d2,d3,d4⟩:=nM.out (j+1) y hy _ (E1.out.trans yh.out);have i2:(0:Int)<=(j:Int)+1:=ae;have i3:(j:Int)+1<(k:Int)+1+1:=ae;have i4:(j:Int)+1<(k:Int)+1:=ae;have aqv:=aqu y;have HCM:=zq aqv;clear hyt hy WG aqv;by_cases hyk:y.kind=1
    ·rw[hyk]at d0 HCM;by_cases QU:y.kids.length=2
     ·rw[QU]at d3 HCM;obtain⟨z0,z1,hz2⟩:∃z0 z1,y.kids=[z0,z1]:=by
       match hh:y.kids,QU with
       | [z0,z1],_=>exact⟨z0,z1,rfl⟩
      have hzs:=(HYL.out _ (E1.out.trans yh.out)).ms;have hzc:=hzs.le;rw[hz2]at hzs hzc;simp only[aDh,aDZ,aDt,Nat.reduceAdd]at hzs hzc;obtain⟨bz,aAZ,hzA,hbz,z0_,_⟩:=Ms.cell hzs (i:=0) (x:=z0) rfl;simp only[aDH,aDw]at z0_;rw[hzA]at d3;have HCZ:Hid (fM y.t=(z0.kind==2)):=zq (by rw[HCM.out,hz2];simp[at_,oD]);by_cases hzk:z0.kind=2
      ·rw[hzk]at z0_ HCZ;go_wp2;go_roundw
       case rel=>exact⟨j+1,by go_num,ae,zq (by rw[qC HT.out HYT.out,HCZ.out];rfl),yh⟩
       case measure=>simp[intOf];omega
      go_wp2;go_ret;exact⟨by rw[all_false HYT.out (by rw[HCZ.out];exact aC7.2 hzk)];rfl,E1.out.trans yh.out⟩
     have aA0:((y.kids.length:Int)==2)=false:=by rw[aC7];omega
     have HCZ:Hid (fM y.t=false):=zq (by rw[HCM.out];simp[QU]);go_wp2;go_ret;exact⟨by rw[all_false HYT.out HCZ.out];rfl,E1.out.trans yh.out⟩
    have HCZ:Hid (fM y.t=false):=zq (by rw[HCM.out];simp[hyk]);go_wp2;go_ret;exact⟨by rw[all_false HYT.out HCZ.out];rfl,E1.out.trans yh.out⟩
   obtain rfl:j=k:=ae;have HA:Hid ((q.take j).all (λy=>fM y.t)=true):=zq (by have:=HT.out;rwa [aDj (by rw[vU.out];exact aC8 _)]at this);have i4:¬((j:Int)+1<(j:Int)+1):=ae;go_wp2;go_ret;exact⟨by rw[HA.out];rfl,E1.out.trans yh.out⟩
 have hP:pFormOf 3 (q.map M.t)=false:=by show (decide (2<=(q.map M.t).length)&&((q.map M.t).take ((q.map M.t).length-1)).all fM)=_;rw[aC_,<-qg.out,aDB hz,aD0]
 exact aF4
theorem aaq(y:M):dI y.t=(y.kind==1&&(y.kids.map M.t).all bT):=by unfold dI;rw[M.xm,M.dO]
theorem aqx(y:M):dR y.t=(dI y.t&&(y.kids.length==2||y.kids.length==3)):=by unfold dR;rw[M.dO,aC_]
theorem aqy(w:ak)(c0 c1 c2 c3 c4:au):∃w0,w.alloc (.cells #[c0,c1,c2,c3,c4] 109)=w0/\Ev w w0/\Bx 109 w.heap.size #[c0,c1,c2,c3,c4] w0:=⟨_,rfl,Ev.alloc _ _,Bx.new _ _ _⟩
theorem aFT(h:U:=by
 have hyb:(y.kind==1)=false:=aC7.2 hy;rw[hyb,aD0,aD0];go_enter func92,ntmps92
 go_wp2_with (first
  | ((with_reducible refine(HH.out _ cO.out).mono ?_);rintro e w1 ⟨rfl,aJ⟩;have E1:=zq (cO.out.trans aJ);have F1:=zq aJ;clear c0 c1 c2 c3 c4 aJ;obtain⟨⟨c0,c1,c2,c3,c4⟩,_⟩:=(HB.out.ev F1.out).five;obtain⟨d0,d1,d2,d3,d4⟩:=HCY.out _ E1.out))
 go_ret;exact⟨rfl,E1.out⟩):U:=h
theorem Wi(m:M)(b0:Nat)(w:ak)(h:Lies b0 [] w m)(x:M)(q:List M)(hq:m.kids=x::q)(nX:m.kind=1)(hx2:x.kind=2)(hs:x.s=lS):
  Calls ax 92 #[.agg ↑m] w λe w'=>e=.returned (.bool (pFormOf 4 (q.map M.t)))/\Ev w w':=by
 have hH:=λw1 (hE:Ev w w1)=>oG m b0 w1 (h.ev hE);rw[rJ hq nX hx2,hs]at hH;have hB:=Bx.new 109 ↑m w;have aV:=Ev.alloc w (.cells ↑m 109);have fU:=h.ms;have qm:=h.kid;rw[hq]at fU qm;have hkn:m.kids.length=q.length+1:=by rw[hq];rfl
 have hcl:=fU.le;have hcm:=fU.max;obtain⟨b,off,hA,hb,_⟩:=Ms.cell fU (i:=0) (x:=x) rfl;simp only[aDh]at fU hcl;rw[hkn,hA]at hB hH;rw[hkn]at aV|-;rw[hA]at aV fU|-;rw[nX]at hB aV hH|-;have nM:=zq (λi y (hy:(x::q)[i]?=some y) w1 (hE:Ev w w1)=>Ms.oW (fU.ev hE) hy);have N_:=zq (λy (hy:y∈q) w1 (hE:Ev w w1)=>(qm y (aDc _ hy)).ev hE);have HH:=zq hH;have cO:=zq aV;have HB:=zq hB;obtain⟨⟨c0,c1,c2,c3,c4⟩,_⟩:=hB.five;obtain⟨kn,hk⟩:∃kn,kn=q.length:=⟨_,rfl⟩
 have qg:=zq hk;rw[<-hk]at HH cO HB c3 hcl|-;clear hH hB aV fU qm hkn hk h hq hA nX hs;generalize m.s=ms at*;generalize m.n=mn at*;generalize m.cap=mc at*;generalize m.pos=mp at*;unfold lS at*;by_cases hz:kn=4
 ·subst hz;obtain⟨y,z,u,v,hq⟩:∃y z u v,q=[y,z,u,v]:=by
   match q,qg with
   | [y,z,u,v],_=>exact⟨y,z,u,v,rfl⟩
   | [],H=>exact absurd H.out aj
   | [_],H=>exact absurd H.out aj
   | [_,_],H=>exact absurd H.out aj
   | [_,_,_],H=>exact absurd H.out aj
   | _::_::_::_::_::r,H=>exact absurd H.out aj
  subst hq;have hP:pFormOf 4 ([y,z,u,v].map M.t)=(dI y.t&&dI z.t):=by show (true&&([y.t,z.t].all dI))=_;simp
  rw[hP,aaq,aaq];have HAY:=zq (λw1 (hE:Ev w w1)=>D6 w1 ((N_.out y aj w1 hE).ms));have HAZ:=zq (λw1 (hE:Ev w w1)=>D6 w1 ((N_.out z aj w1 hE).ms));generalize (y.kids.map M.t).all bT=qa at*;generalize (z.kids.map M.t).all bT=qb at*;have HCY:=zq (λw1 (hE:Ev w w1)=>nM.out 1 y rfl w1 hE);have HCZ:=zq (λw1 (hE:Ev w w1)=>nM.out 2 z rfl w1 hE);simp only[aEi]at HCY;clear hP;by_cases hy:y.kind=1
  ·rw[hy]at HCY|-;by_cases hz1:z.kind=1
   ·rw[hz1]at HCZ|-
    cases qa
    ·simp only[aD_,aD',aD0,Bool.and_false];go_enter func92,ntmps92
     go_wp2_with (first
      | ((with_reducible refine(HAY.out _ E1.out).mono ?_);rintro e w2 ⟨rfl,dJ⟩;have E2:=zq (E1.out.trans dJ))
      | ((with_reducible refine(HH.out _ cO.out).mono ?_);rintro e w1 ⟨rfl,aJ⟩;have E1:=zq (cO.out.trans aJ);have F1:=zq aJ;clear c0 c1 c2 c3 c4 aJ;obtain⟨⟨c0,c1,c2,c3,c4⟩,_⟩:=(HB.out.ev F1.out).five;obtain⟨d0,d1,d2,d3,d4⟩:=HCY.out _ E1.out;obtain⟨e0,e1,e2,e3,e4⟩:=HCZ.out _ E1.out))
     go_ret;exact⟨rfl,E2.out⟩
    simp only[aD_,aD'];go_enter func92,ntmps92
    go_wp2_with (first
     | ((with_reducible refine(HAY.out _ E1.out).mono ?_);rintro e w2 ⟨rfl,dJ⟩;have E2:=zq (E1.out.trans dJ);clear d0 d1 d2 d3 d4 e0 e1 e2 e3 e4;obtain⟨d0,d1,d2,d3,d4⟩:=HCY.out _ E2.out;obtain⟨e0,e1,e2,e3,e4⟩:=HCZ.out _ E2.out;clear c0 c1 c2 c3 c4;obtain⟨⟨c0,c1,c2,c3,c4⟩,_⟩:=((HB.out.ev F1.out).ev dJ).five)
     | ((with_reducible refine(HAZ.out _ E2.out).mono ?_);rintro e w3 ⟨rfl,jW⟩;have E3:=zq (E2.out.trans jW))
     | ((with_reducible refine(HH.out _ cO.out).mono ?_);rintro e w1 ⟨rfl,aJ⟩;have E1:=zq (cO.out.trans aJ);have F1:=zq aJ;clear c0 c1 c2 c3 c4 aJ;obtain⟨⟨c0,c1,c2,c3,c4⟩,_⟩:=(HB.out.ev F1.out).five;obtain⟨d0,d1,d2,d3,d4⟩:=HCY.out _ E1.out;obtain⟨e0,e1,e2,e3,e4⟩:=HCZ.out _ E1.out))
    go_ret;exact⟨rfl,E3.out⟩
   have hzb:(z.kind==1)=false:=aC7.2 hz1;rw[hzb,aD0,Bool.and_false];go_enter func92,ntmps92
   go_wp2_with (first
    | ((with_reducible refine(HH.out _ cO.out).mono ?_);rintro e w1 ⟨rfl,aJ⟩;have E1:=zq (cO.out.trans aJ);have F1:=zq aJ;clear c0 c1 c2 c3 c4 aJ;obtain⟨⟨c0,c1,c2,c3,c4⟩,_⟩:=(HB.out.ev F1.out).five;obtain⟨d0,d1,d2,d3,d4⟩:=HCY.out _ E1.out;obtain⟨e0,e1,e2,e3,e4⟩:=HCZ.out _ E1.out))
   go_ret;exact⟨rfl,E1.out⟩
  exact aFT
 have hP:pFormOf 4 (q.map M.t)=false:=by show ((q.map M.t).length==4&&((q.map M.t).take 2).all dI)=_;rw[aC_,<-qg.out,show (kn==4)=false from aC7.2 hz,aD0]
 rw[hP];have i1:((kn:Int)+1==5)=false:=by rw[aC7];omega
 exact aF'
theorem aF2(h:U:=by
 go_wp2_with (first
  | ((with_reducible refine(HAZ.out _ E3.out).mono ?_);rintro e w4 ⟨rfl,gy⟩;have E4:=zq (E3.out.trans gy);clear e0 e1 e2 e3 e4;obtain⟨⟨e0,e1,e2,e3,e4⟩,_⟩:=(HB3.out.ev gy).five))
 go_roundw
 case rel=>exact⟨j+1,by go_num,ae,zq (by rw[qC HT.out HZT.out,HCT.out]),E4⟩
 case measure=>simp[intOf];omega):U:=h
theorem Tj(m:M)(b0:Nat)(w:ak)(h:Lies b0 [] w m)(x:M)(q:List M)(hq:m.kids=x::q)(nX:m.kind=1)(hx2:x.kind=2)(hs:x.s=dX):
  Calls ax 92 #[.agg ↑m] w λe w'=>e=.returned (.bool (pFormOf 7 (q.map M.t)))/\Ev w w':=by
 have hH:=λw1 (hE:Ev w w1)=>oG m b0 w1 (h.ev hE);rw[rJ hq nX hx2,hs]at hH;have hB:=Bx.new 109 ↑m w;have aV:=Ev.alloc w (.cells ↑m 109);have fU:=h.ms;have qm:=h.kid;rw[hq]at fU qm;have hkn:m.kids.length=q.length+1:=by rw[hq];rfl
 have hcl:=fU.le;have hcm:=fU.max;obtain⟨b,off,hA,hb,_⟩:=Ms.cell fU (i:=0) (x:=x) rfl;simp only[aDh]at fU hcl;rw[hkn,hA]at hB hH;rw[hkn]at aV|-;rw[hA]at aV fU|-;rw[nX]at hB aV hH|-;have nM:=zq (λi y (hy:(x::q)[i]?=some y) w1 (hE:Ev w w1)=>Ms.oW (fU.ev hE) hy);have N_:=zq (λy (hy:y∈q) w1 (hE:Ev w w1)=>(qm y (aDc _ hy)).ev hE);have HH:=zq hH;have cO:=zq aV;have HB:=zq hB;obtain⟨⟨c0,c1,c2,c3,c4⟩,_⟩:=hB.five;obtain⟨kn,hk⟩:∃kn,kn=q.length:=⟨_,rfl⟩
 have qg:=zq hk;rw[<-hk]at HH cO HB c3 hcl|-;clear hH hB aV fU qm hkn hk h hq hA nX hs;generalize m.s=ms at*;generalize m.n=mn at*;generalize m.cap=mc at*;generalize m.pos=mp at*;unfold dX at*;by_cases hz:2<=kn
 ·obtain⟨y,r,hq⟩:∃y r,q=y::r:=by
   cases q with
   | nil=>have:=qg.out;simp at this;omega
   | cons y r=>exact⟨y,r,rfl⟩
  subst hq;obtain⟨k,rfl⟩:∃k,kn=k+2:=⟨kn-2,ae⟩
  have hrl:r.length=k+1:=by have:=qg.out;simp at this;omega
  have hP:pFormOf 7 ((y::r).map M.t)=(dI y.t&&(r.take k).all λz=>dR z.t):=by show (decide (2<=((y::r).map M.t).length)&&dI y.t&&((((y::r).map M.t).take (((y::r).map M.t).length-1)).drop 1).all dR)=_;rw[aC_,aDh,hrl,aDE ae,aD',aEC,<-aEf,aDX,aDe,aDJ,aEc,aEy];rfl
  rw[hP,aaq];have HAY:=zq (λw1 (hE:Ev w w1)=>D6 w1 ((N_.out y aj w1 hE).ms));generalize (y.kids.map M.t).all bT=qa at*;have HCY:=zq (λw1 (hE:Ev w w1)=>nM.out 1 y rfl w1 hE);simp only[aEi]at HCY;have i1:¬((k:Int)+2+1<3):=ae;have vU:=zq (show (r.take k).length=k by rw[aDP,hrl];omega);have HRL:=zq hrl;clear hP hrl;by_cases hy:y.kind=1
  ·rw[hy]at HCY|-
   cases qa
   ·simp only[aD_,aD',aD0];go_enter func92,ntmps92
    go_wp2_with (first
     | ((with_reducible refine(HAY.out _ E1.out).mono ?_);rintro e w2 ⟨rfl,dJ⟩;have E2:=zq (E1.out.trans dJ))
     | ((with_reducible refine(HH.out _ cO.out).mono ?_);rintro e w1 ⟨rfl,aJ⟩;have E1:=zq (cO.out.trans aJ);have F1:=zq aJ;clear c0 c1 c2 c3 c4 aJ;obtain⟨⟨c0,c1,c2,c3,c4⟩,_⟩:=(HB.out.ev F1.out).five;obtain⟨d0,d1,d2,d3,d4⟩:=HCY.out _ E1.out))
    go_ret;exact⟨rfl,E2.out⟩
   simp only[aD_,aD'];go_enter func92,ntmps92
   go_wp2_with (first
    | ((with_reducible refine(HAY.out _ E1.out).mono ?_);rintro e w2 ⟨rfl,dJ⟩;have E2:=zq (E1.out.trans dJ);clear d0 d1 d2 d3 d4)
    | ((with_reducible refine(HH.out _ cO.out).mono ?_);rintro e w1 ⟨rfl,aJ⟩;have E1:=zq (cO.out.trans aJ);have F1:=zq aJ;clear c0 c1 c2 c3 c4 aJ;obtain⟨⟨c0,c1,c2,c3,c4⟩,_⟩:=(HB.out.ev F1.out).five;obtain⟨d0,d1,d2,d3,d4⟩:=HCY.out _ E1.out))
   go_loopw [6] (λiv wr=>∃j:Nat,iv=.int .i64 ((j:Int)+2)/\j<=k/\Hid (((r.take k).take j).all (λz=>dR z.t)=true)/\Hid (Ev w wr)) (λiv _=>k+2-(intOf iv).toNat)
   case atStart=>exact⟨0,rfl,aDl _,zq aj,E2⟩
   case round=>
    obtain⟨j,rfl,hj,HT,yh⟩:=hrel;by_cases hlt:j<k
    ·obtain⟨z,hz2⟩:∃z,r[j]?=some z:=⟨_,aDo (by rw[HRL.out];omega)⟩
     have HZT:=zq (show (r.take k)[j]?=some z by rw[List.getElem?_take_of_lt hlt];exact hz2);have Jk:z∈y::r:=aDc _ (aDb hz2);obtain⟨d0,d1,d2,d3,d4⟩:=nM.out (j+2) z hz2 _ yh.out;have HAZ:=zq (λw1 (hE:Ev w w1)=>D6 w1 ((N_.out z Jk w1 hE).ms));have EU:=zq (aaq z);generalize (z.kids.map M.t).all bT=qb at*;have HAM:=zq (aqx z);have i2:(0:Int)<=(j:Int)+2:=ae;have i3:(j:Int)+2<(k:Int)+2+1:=ae;have i4:(j:Int)+2<(k:Int)+2:=ae;generalize hzl:z.kids.length=zl at*;clear hzl;obtain⟨w3,hw3,jW,sK⟩:=aqy wr ↑z.kind ↑z.s ↑z.n (.slice z.A zl z.cap) ↑z.pos;have E3:=zq (yh.out.trans jW);have HB3:=zq sK;obtain⟨⟨e0,e1,e2,e3,e4⟩,_⟩:=sK.five;clear hz2 Jk jW sK;by_cases hzk:z.kind=1
     ·have HZK:=zq hzk;rw[hzk]at e0;clear hzk
      cases qb
      ·have HCF:Hid (dR z.t=false):=zq (by rw[HAM.out,EU.out,Bool.and_false,aD0])
       go_wp2_with (first
        | ((with_reducible refine(HAZ.out _ E3.out).mono ?_);rintro e w4 ⟨rfl,gy⟩;have E4:=zq (E3.out.trans gy)))
       go_ret;exact⟨by rw[all_false HZT.out HCF.out];rfl,E4.out⟩
      have LV:Hid (dI z.t=true):=zq (by rw[EU.out,HZK.out];rfl);by_cases h2:zl=2;subst h2;have HCT:Hid (dR z.t=true):=zq (by rw[HAM.out,LV.out];rfl);exact aF2;have h2b:((zl:Int)==2)=false:=by rw[aC7];omega
      by_cases h3:zl=3;subst h3;have HCT:Hid (dR z.t=true):=zq (by rw[HAM.out,LV.out];rfl);clear h2b;exact aF2;have h3b:((zl:Int)==3)=false:=by rw[aC7];omega
      have h3c:((zl:Int) !=3)=true:=by rw[aEk];omega
      have h2c:((zl:Int) !=2)=true:=by rw[aEk];omega
      have HCF:Hid (dR z.t=false):=zq (by rw[HAM.out];simp[h2,h3])
      go_wp2_with (first
       | ((with_reducible refine(HAZ.out _ E3.out).mono ?_);rintro e w4 ⟨rfl,gy⟩;have E4:=zq (E3.out.trans gy);clear e0 e1 e2 e3 e4;obtain⟨⟨e0,e1,e2,e3,e4⟩,_⟩:=(HB3.out.ev gy).five))
      go_ret;exact⟨by rw[all_false HZT.out HCF.out];rfl,E4.out⟩
     have HCF:Hid (dR z.t=false):=zq (by rw[HAM.out,EU.out];simp[hzk]);go_wp2;go_ret;exact⟨by rw[all_false HZT.out HCF.out];rfl,E3.out⟩
    obtain rfl:j=k:=ae;have HA:Hid ((r.take j).all (λz=>dR z.t)=true):=zq (by have:=HT.out;rwa [aDj (by rw[vU.out];exact aC8 _)]at this);have i4:¬((j:Int)+2<(j:Int)+2):=ae;go_wp2;go_ret;exact⟨by rw[HA.out];rfl,yh.out⟩
  exact aFT
 have hP:pFormOf 7 (q.map M.t)=false:=by show (decide (2<=(q.map M.t).length)&&dI (at_ (q.map M.t) 0)&&(((q.map M.t).take ((q.map M.t).length-1)).drop 1).all dR)=_;rw[aC_,<-qg.out,aDB hz,aD0,aD0]
 exact aF4
theorem JK(m:M)(b0:Nat)(w:ak)(h:Lies b0 [] w m):
  Calls ax 92 #[.agg ↑m] w λe w'=>e=.returned (.bool (h_ m.t))/\Ev w w':=by
 by_cases hk:m.kind=1
 ·cases hq:m.kids with
  | nil=>
   have h0:ZV m.t=[]:=by rw[Vm,hq];simp
   rw[GX (.inl h0)];have:=u_ m b0 w h (by rw[h0];rfl);rwa [hq]at this
  | cons x q=>
   have hl:m.kids.length=(x::q).length:=by rw[hq]
   rw[<-hl];by_cases hx:x.kind=2
   ·rw[Qp hq hk hx];rcases zK x.s with⟨h1,h2⟩|⟨h1,h2⟩|⟨h1,h2⟩|⟨h1,h2⟩|⟨h1,h2⟩|⟨h1,h2⟩|⟨h1,h2⟩|h1<;>rw[h1];exact Tf m b0 w h x q hq hk hx h2;exact OO m b0 w h x q hq hk hx h2;exact NI m b0 w h x q hq hk hx h2;exact Wi m b0 w h x q hq hk hx h2;exact Ti m b0 w h x q hq hk hx h2;exact Je m b0 w h x q hq hk hx h2;exact Tj m b0 w h x q hq hk hx h2;exact u_ m b0 w h (by rw[rJ hq hk hx];exact h1)
   have h0:ZV m.t=[]:=by rw[Vm,hq];simp[at_,oD,hx]
   rw[GX (.inl h0)];exact u_ m b0 w h (by rw[h0];rfl)
 have h0:ZV m.t=[]:=by rw[Vm];simp[hk]
 rw[GX (.inl h0)];exact u_ m b0 w h (by rw[h0];rfl)
def yL(t:T):aem:=if (dD t).1=0 then (pPlan t,0,0) else (uN,(dD t).1,(dD t).2)
theorem mO(e:Er):iy (0,0) e=if e.1=0 then (0,0) else e:=by unfold iy;by_cases h:e.1=0<;>simp[h]
theorem zU(l:List Er)(h:(aX l).1=0):aX l=(0,0):=zN λe he=>(gG l).1 h e he
def zV(m:PM):Array au:=↑m
def PM.ui(m:PM)(A:Option Addr)(cap:Nat)(l:List PM):PM:=.mk m.kind m.name m.ex m.co m.lf m.rt m.ag A cap l
structure Tm(b0:Nat)(K:List Nat)(w:ak)(m:PM):Prop where
 ex:bY 4 ec b0 K w m.ex
 lx:∀e∈m.ex.l,Lx b0 K w e
 co:bY 1 sc b0 K w m.co
 lf:bY 1 sc b0 K w m.lf
 rt:bY 1 sc b0 K w m.rt
 ag:bY 3 ac b0 K w m.ag
theorem Tm.move{b0:Nat}{K K':List Nat}{w w':ak}{m:PM}(h:Tm b0 K w m)(hb:But K w w')(hs:∀x∈K',x∈K∨x<b0∨w.heap.size<=x):Tm b0 K' w' m:=
 ⟨h.ex.move hb hs,λe he=>(h.lx e he).move hb hs,h.co.move hb hs,h.lf.move hb hs,h.rt.move hb hs,h.ag.move hb hs⟩
theorem Tm.ev{b0:Nat}{K:List Nat}{w w':ak}{m:PM}(h:Tm b0 K w m)(hE:Ev w w'):Tm b0 K w' m:=h.move (But.aU hE) λ_ hx=>.inl hx
structure EZ(w1:ak)(gp:Nat)(p:PM)(w:ak):Prop where
 box:Bx 35 gp (zV p) w
 own:Ow 35 8 pc (gp+1) w (.slice p.A p.kids.length p.cap) p.kids
 hd:Tm (gp+1) (foot (.slice p.A p.kids.length p.cap)) w p
 kids:∀k∈p.kids,Qx (gp+1) (foot (.slice p.A p.kids.length p.cap)) w k
 ev:Ev w1 w
 ge_:w1.heap.size<=gp
theorem EZ.up{w1 w w':ak}{gp:Nat}{p:PM}(h:EZ w1 gp p w)(hE:Ev w w'):EZ w1 gp p w':=
 ⟨h.box.ev hE,h.own.ev hE,h.hd.ev hE,λk hk=>(h.kids k hk).ev hE,h.ev.trans hE,h.ge_⟩
theorem EZ.next{w1 wq w2:ak}{gp:Nat}{p x:PM}{bx:Nat}{v2:au}(h:EZ w1 gp p wq)(hx:Qx bx [] wq x)(Gx:gp<bx)(hk:∀k∈foot (.slice p.A p.kids.length p.cap),k<bx)(hA:uG 35 8 pc (gp+1) wq (.slice p.A p.kids.length p.cap) (p.kids++[x]) v2 w2):
  ∃A2 cap2,v2=.slice A2 (p.kids.length+1) cap2/\EZ w1 gp (p.ui A2 cap2 (p.kids++[x])) (w2.setCell ⟨gp,7,none⟩ v2):=by
 obtain⟨ho,hb,hs⟩:=hA;obtain⟨A2,cap2,rfl,qJ,I7⟩:=ho.form I4;have hl:(p.kids++[x]).length=p.kids.length+1:=by rw[aDd];rfl
 have hgl:=h.box.lt;have hK:gp∉foot (.slice p.A p.kids.length p.cap):=λhm=>by have:=(h.own.lt (aG.1 hm)).1;omega
 have hB2:=(h.box).but hb hK;have hBS:But [gp] w2 (w2.setCell ⟨gp,7,none⟩ (.slice A2 (p.kids++[x]).length cap2)):=But.setCell _ _ aj;have hf2:∀k∈foot (.slice A2 (p.kids++[x]).length cap2),k∈foot (.slice p.A p.kids.length p.cap)∨k<gp+1∨wq.heap.size<=k:=λk hk=>by exact aIf
 have hst:∀k∈gp::foot (.slice A2 (p.kids++[x]).length cap2),k∈foot (.slice A2 (p.kids++[x]).length cap2)∨k<gp+1∨w2.heap.size<=k:=λk hk=>by rcases aDg.1 hk with rfl|h1;exact .inr (.inl ae);exact .inl h1
 have aiS:But (gp::foot (.slice A2 (p.kids++[x]).length cap2)) w2 (w2.setCell ⟨gp,7,none⟩ (.slice A2 (p.kids++[x]).length cap2)):=hBS.wide λk hk=>by simp at hk;subst hk;exact .inl aj
 have hin:∀k∈foot (.slice A2 (p.kids++[x]).length cap2),k∈gp::foot (.slice A2 (p.kids++[x]).length cap2)∨k<gp+1∨w2.heap.size<=k:=λk hk=>.inl (aDc _ hk);refine⟨A2,cap2,by rw[hl],?_⟩;refine⟨?_,?_,?_,λy hy=>?_,?_,h.ge_⟩;have:=hB2.set 7 (.slice A2 (p.kids++[x]).length cap2);simpa[zV,PM.ui,PM.kind,PM.name,PM.ex,PM.co,PM.lf,PM.rt,PM.ag,PM.A,PM.cap,PM.kids] using this;exact ho.but hBS λg hg=>by have:=(ho.lt hg).1;simp;omega
 have h1:Tm (gp+1) (foot (.slice A2 (p.kids++[x]).length cap2)) w2 p:=h.hd.move hb hf2;have h2:=(h1.move (But.refl _ _) hst).move aiS hin;exact⟨h2.ex,h2.lx,h2.co,h2.lf,h2.rt,h2.ag⟩;have hy1:Qx (gp+1) (foot (.slice p.A p.kids.length p.cap)) wq y:=by rcases aDm.1 hy with h1|h1;exact h.kids y h1;simp at h1;subst h1;exact(hx.less λk hk2=>.inr (.inl (hk k hk2))).low ae
 exact(((hy1.move hb hf2).move (But.refl _ _) hst).move aiS hin);have h1:Ev w1 w2:=((But.aU h.ev).then hb).ev λk hk=>by have:=(h.own.lt (aG.1 hk)).1;have:=h.ge_;omega
 exact h1.box hBS h.ge_
theorem EZ.after{w1 wq w2:ak}{gp:Nat}{p:PM}{v2:au}{L:List PM}(h:EZ w1 gp p wq)(hA:uG 35 8 pc (gp+1) wq (.slice p.A p.kids.length p.cap) L v2 w2):Bx 35 gp (zV p) w2:=
 h.box.but hA.2.1 λhm=>by have:=(h.own.lt (aG.1 hm)).1;omega
theorem EZ.done{w1 w:ak}{gp:Nat}{p:PM}(h:EZ w1 gp p w):Qx (gp+1) [] w p:=by
 obtain⟨A2,cap2,hv,qJ,I7⟩:=h.own.form I4;injection hv with h1 h2 h3
 have hH:=h.hd.move (K':=[]) (But.aU (Ev.refl w)) λk hk=>by cases hk
 have hQ:∀k∈p.kids,Qx (gp+1) [] w k:=λk hk=>(h.kids k hk).less λx hx=>by cases hx
 have H5:bY 8 pc (gp+1) [] w ⟨p.A,p.cap,p.kids⟩:=⟨by rw[h1,h3];exact qJ,λad e=>by rw[h1]at e;exact⟨(I7 ad e).2.1,(I7 ad e).2.2.1,aj⟩⟩
 cases p
 exact .mk hH.ex hH.lx hH.co hH.lf hH.rt hH.ag H5 hQ
theorem EZ.init(w1 w:ak)(gp:Nat)(k:Int)(hB:Bx 35 gp (zV (.mk k [] .nil .nil .nil .nil .nil none 0 [])) w)(hE:Ev w1 w)(hg:w1.heap.size<=gp):EZ w1 gp (.mk k [] .nil .nil .nil .nil .nil none 0 []) w:=
 ⟨hB,Ow.nil_ _,⟨bY.nil ..,(λe he=>by cases he),bY.nil ..,bY.nil ..,bY.nil ..,bY.nil ..⟩,(λk hk=>by cases hk),hE,hg⟩
theorem aar(w:ak)(c0 c1 c2 c3 c4:au):∃w0,(w.alloc (.cells #[c0,c1,c2,c3,c4] 109)).alloc (.cells ↑Zz.b 35)=w0/\Ev w w0/\Bx 109 w.heap.size #[c0,c1,c2,c3,c4] w0/\Bx 35 (w.heap.size+1) ↑Zz.b w0:=by have hB:=Bx.new 35 ↑Zz.b (w.alloc (.cells #[c0,c1,c2,c3,c4] 109));rw[show (w.alloc (.cells #[c0,c1,c2,c3,c4] 109)).heap.size=w.heap.size+1 by simp]at hB;exact⟨_,rfl,(Ev.alloc w _).trans aC,(Bx.new 109 #[c0,c1,c2,c3,c4] w).ev aC,hB⟩
theorem acC{t:T}(h:h_ t=false):dD t=(12,t.pos):=by
 cases t
 rw[dD,h];rfl
theorem afK{t:T}(h:h_ t=false):yL t=(uN,12,t.pos):=by unfold yL;rw[acC h];rfl
theorem EF{w w1:ak}{g:Nat}{c0 c1 c2 c3 c4 c5 c6 c7:au}(hg:w.heap.size<=g)(hE:Ev w w1)(hB:Bx 35 g #[c0,c1,c2,c3,c4,c5,c6,c7] w1)(v0 v1 v2 v3 v4 v5 v6 v7:au):Bx 35 g #[v0,v1,v2,v3,v4,v5,v6,v7] (mi g v0 v1 v2 v3 v4 v5 v6 v7 w1)/\Ev w (mi g v0 v1 v2 v3 v4 v5 v6 v7 w1):=⟨hB.mi _ _ _ _ _ _ _ _,hE.box (fB _ _ _ _ _ _ _ _ _ _) hg⟩
structure Jf(ql:List M)(e0:Er)(p0:PM)(j:Nat)(p:PM)(e:Er):Prop where
 same:p=p0.ui p.A p.cap p.kids
 len:p.kids.length<=j
 ok:e.1=0->e=(0,0)/\e0=(0,0)/\(∀y∈ql.take j,(dD y.t).1=0)/\p.kids.map PM.p=(ql.take j).map λy=>pPlan y.t
 bad:e.1≠0->iy e0 (aX (ql.map λy=>dD y.t))=e
theorem Jf.next{ql:List M}{e0:Er}{p0 p x:PM}{j:Nat}{A2:Option Addr}{cap2:Nat}{y:M}(h:Jf ql e0 p0 j p (0,0))(hy:ql[j]?=some y)(hx:x.p=(yL y.t).1):Jf ql e0 p0 (j+1) (p.ui A2 cap2 (p.kids++[x])) (yL y.t).2:=by
 obtain⟨_,h2,h3,h4⟩:=h.ok rfl;obtain⟨hk,e1⟩:=aC6.1 hy;have wP:ql.take (j+1)=ql.take j++[y]:=by rw[aDi hk,e1]
 refine⟨?_,?_,λhe=>?_,λhe=>?_⟩;rw[h.same];rfl;show (p.kids++[x]).length<=j+1;have:=h.len;simp;omega;have hz:(dD y.t).1=0:=by unfold yL at he;by_cases hz:(dD y.t).1=0;exact hz;rw[if_neg hz]at he;exact he
 refine⟨by unfold yL;rw[if_pos hz],h2,λz hz2=>?_,?_⟩;rw[wP]at hz2;rcases aDm.1 hz2 with h5|h5;exact h3 z h5;simp at h5;rw[h5];exact hz;show (p.kids++[x]).map PM.p=_;rw[wP,aDk,aDk,h4,aDe,aDu,hx];unfold yL;rw[if_pos hz];rfl;have hz:(dD y.t).1≠0:=λhz=>he (by unfold yL;rw[if_pos hz]);have h5:(yL y.t).2=dD y.t:=by unfold yL;rw[if_neg hz]
 rw[h5,h2,uf (k:=j) (e:=dD y.t) (λx hx=>?_) (by rw[aDG,hy];rfl) hz,mO,if_neg hz];rw[<-aEf]at hx;obtain⟨z,hz2,rfl⟩:=aDz.1 hx;exact h3 z hz2
theorem Jf.Tn{ql:List M}{e0 e:Er}{p0 p:PM}{t:T}(h:Jf ql e0 p0 ql.length p e)(he:e.1=0)(OJ:dD t=iy e0 (aX (ql.map λy=>dD y.t)))
  (hPP:(dD t).1=0->pPlan t=.mk p0.kind p0.name (p0.ex.l.map M.t) p0.co.l p0.lf.l p0.rt.l p0.ag.l (ql.map λy=>pPlan y.t)):yL t=(p.p,0,0):=by
 obtain⟨_,h2,h3,h4⟩:=h.ok he;rw[aEt]at h3 h4;have hz:aX (ql.map λy=>dD y.t)=(0,0):=zN λx hx=>by obtain⟨y,hy,rfl⟩:=aDz.1 hx;exact h3 y hy
 rw[h2,hz]at OJ;unfold yL;rw[OJ,if_pos (by rfl),hPP (by rw[OJ];rfl),PM.tu,h.same];show (Pl.mk p0.kind p0.name (p0.ex.l.map M.t) p0.co.l p0.lf.l p0.rt.l p0.ag.l _,_,_)=(Pl.mk p0.kind p0.name (p0.ex.l.map M.t) p0.co.l p0.lf.l p0.rt.l p0.ag.l (p.kids.map PM.p),_,_);rw[h4]
theorem Jf.JL{ql:List M}{e0 e:Er}{p0 p:PM}{j:Nat}{t:T}(h:Jf ql e0 p0 j p e)(he:e.1≠0)(OJ:dD t=iy e0 (aX (ql.map λy=>dD y.t))):yL t=(uN,e.1,e.2):=by rw[h.bad he]at OJ;unfold yL;rw[OJ,if_neg he]
theorem Jf.start(ql:List M)(e0:Er)(p0:PM)(hk:p0.kids=[])(hz:e0.1=0->e0=(0,0)):Jf ql e0 p0 0 p0 e0:=
 ⟨by cases p0;rfl,by rw[hk];simp,λh=>⟨hz h,hz h,aj,by rw[hk];simp⟩,λh=>by unfold iy;simp[h]⟩
theorem zW(l:List Er):iy (0,0) (aX l)=aX l:=by rw[mO];split;rename_i h;exact(zU l h).symm;rfl
theorem JM{w w0 wz:ak}{g gp:Nat}{p:PM}{c0 c1 c2 c3 c4 c5 c6 c7:au}(hK:EZ w0 gp p wz)(hE:Ev w w0)(hg:w.heap.size<=g)(hgp:g<gp)(hB:Bx 35 g #[c0,c1,c2,c3,c4,c5,c6,c7] wz):
  Bx 35 g ↑p (mi g ↑p.kind ↑p.name (.slice p.ex.A p.ex.l.length p.ex.cap) (.slice p.co.A p.co.l.length p.co.cap) (.slice p.lf.A p.lf.l.length p.lf.cap) (.slice p.rt.A p.rt.l.length p.rt.cap) (.slice p.ag.A p.ag.l.length p.ag.cap) (.slice p.A p.kids.length p.cap) wz)/\Qx w.heap.size [] (mi g ↑p.kind ↑p.name (.slice p.ex.A p.ex.l.length p.ex.cap) (.slice p.co.A p.co.l.length p.co.cap) (.slice p.lf.A p.lf.l.length p.lf.cap) (.slice p.rt.A p.rt.l.length p.rt.cap) (.slice p.ag.A p.ag.l.length p.ag.cap) (.slice p.A p.kids.length p.cap) wz) p/\Ev w (mi g ↑p.kind ↑p.name (.slice p.ex.A p.ex.l.length p.ex.cap) (.slice p.co.A p.co.l.length p.co.cap) (.slice p.lf.A p.lf.l.length p.lf.cap) (.slice p.rt.A p.rt.l.length p.rt.cap) (.slice p.ag.A p.ag.l.length p.ag.cap) (.slice p.A p.kids.length p.cap) wz):=
 ⟨hB.mi _ _ _ _ _ _ _ _,(vI hK.done (fB _ _ _ _ _ _ _ _ _ _) (λk hk=>by simp at hk;omega)).low ae,(hE.trans hK.ev).box (fB _ _ _ _ _ _ _ _ _ _) hg⟩
theorem Wj(m:M)(b0:Nat)(w:ak)(h:Lies b0 [] w m)(hf:h_ m.t=false):
  Calls ax 49 #[.agg ↑m] w (gJ (yL m.t) w):=by
 have dH:Tryz.prog.follows .mixedOrders=true:=ah;rw[afK hf,M.H6];have HFO:=zq (λw1 (hE:Ev w w1)=>JK m b0 w1 (h.ev hE));rw[hf]at HFO;have hcl:=h.ms.le;have hcm:=h.ms.max;obtain⟨w0,hw0,aV,hT0,hR0⟩:=aar w ↑m.kind ↑m.s ↑m.n (.slice m.A m.kids.length m.cap) ↑m.pos;have cO:=zq aV;have VA:=zq hT0;have HR0:=zq hR0;obtain⟨⟨c0,c1,c2,c3,c4⟩,_⟩:=hT0.five;unfold gJ;clear h aV hT0 hR0 hf;go_enter func49,ntmps49;go_upto_region 2 with (first
  | ((with_reducible refine(HFO.out _ cO.out).mono ?_);rintro r w1 ⟨rfl,aJ⟩;have E1:=zq (cO.out.trans aJ);have Bo:=zq (HR0.out.ev aJ);have Jg:=zq (VA.out.ev aJ);clear c0 c1 c2 c3 c4;obtain⟨⟨c0,c1,c2,c3,c4⟩,_⟩:=(VA.out.ev aJ).five;obtain⟨⟨r0,r1,r2,r3,r4,r5,r6,r7⟩,s0,s1,s2,s3,s4,s5,s6,s7⟩:=Bo.out.eight;clear aJ))
 refine kG dH (λu=>But [w.heap.size+1] w1 u) (But [w.heap.size+1]) [3] (λ_ u=>Bx 35 (w.heap.size+1) ↑Zz.b u) [λv _=>v=.agg ↑Zz.b,λv _=>v=.pointer (some ⟨w.heap.size,4,none⟩),λv _=>v=↑m.pos,λ_ _=>True,λv _=>v=.int .i64 12,λv _=>v=↑m.pos]
  227 1 rfl ah ⟨aB _,aB _,aB _,fC,aB _,aB _,trivial⟩ ⟨λ_ _ _ _ h=>h,λ_ _ _ _ h=>h,λ_ _ _ _ h=>h,λ_ _ _ _ h=>h,λ_ _ _ _ h=>h,λ_ _ _ _ h=>h,trivial⟩ ah (λ_ _ _ hE h=>h.ev hE) (λu u' hE h=>h.then (But.aU hE)) (But.refl _ _) (Bo.out) ah ?_ ?_ ?_
 ·refine aO 0 ?_ (aO 1 ?_ (aO 2 ?_ (gq 3 ai (aO 4 ?_ (aO 5 ?_ (uU 6))))))
  ·refine aP λa wq c=>⟨(ay rfl),.agg ↑Zz.b,?_,rfl⟩
   generalize a.eval=ρ;simp[execOp,go_sem]
  refine aP λa wq c=>⟨(ay rfl),.pointer (some ⟨w.heap.size,4,none⟩),?_,rfl⟩
  exact aHW
  ·refine aP λa wq c=>⟨(ay rfl),↑m.pos,?_,rfl⟩
   have bn:a.eval (.tmp 22)=.pointer (some ⟨w.heap.size,4,none⟩):=(c.new 1 22)
   have hc:=(Jg.out.but c.inv aj).cell 4;have hc:wq.cell? ⟨w.heap.size,4,none⟩=some ↑m.pos:=hc;generalize a.eval=ρ at bn|-;simp[execOp,bn,hc,go_sem]
  refine aP λa w c=>⟨(ay rfl),_,run_assign _ rfl w,(evc a _)⟩
  refine aP λa w c=>⟨(ay rfl),_,run_assign _ rfl w,(c.new 2 23)⟩
 ·refine jr 0 rfl ?_ (xX 1);refine rZ rfl λa wq c st=>?_;have em:a.eval (.tmp 21)=.agg ↑Zz.b:=(c.new 0 21)
  have e2:a.eval (.tmp 2)=.pointer (some ⟨w.heap.size+1,0,none⟩):=(c.was 2 rfl)
  have Gx:Bx 35 (w.heap.size+1) ↑Zz.b wq:=st;obtain⟨⟨r0,r1,r2,r3,r4,r5,r6,r7⟩,s0,s1,s2,s3,s4,s5,s6,s7⟩:=Gx.eight;refine⟨ay rfl,mi (w.heap.size+1) (.int .i64 0) (.string ⟨#[]⟩) ↑() ↑() ↑() ↑() ↑() ↑() wq,?_,fB _ _ _ _ _ _ _ _ _ _,c.inv.then (fB _ _ _ _ _ _ _ _ _ _),Gx.mi _ _ _ _ _ _ _ _,trivial⟩;generalize a.eval=ρ at em e2|-;simp[execOp,em,e2,go_sem,r0,r1,r2,r3,r4,r5,r6,r7,s0,s1,s2,s3,s4,s5,s6,s7,mi,pG,qZ]
 intro sl w9 hI hold hnew hst;have f1:sl 1=.pointer ↑w:=hold 1;have f2:sl 2=.pointer (some ⟨w.heap.size+1,0,none⟩):=hold 2;have f3:sl 3=.int .i64 12:=hnew 4 3;have f4:sl 4=↑m.pos:=hnew 5 4;change Exit.then _ _ .normal ⟨_,_⟩ _;simp only[List.range,List.range.loop,List.map];simp only[f1,f2,f3,f4];clear hold hnew;go_wp2;(try simp only[Exit.inBlock,Exit.then]);refine aFe (aN rfl _ _ _ _ _ rfl hst underlying35 rfl Tryz.iI) rfl ?_;exact⟨zA,rfl,vZ,Qx.zero _ _ _,E1.out.box hI ae⟩
theorem aFo(h:U:=by
 have hBQ:=Bx.new 35 ↑Zz.b wr;clear hy;go_upto_region 57 with (first
  | ((with_reducible refine(HIY.out _ ((HE.out.trans HK.out.ev).trans aC)).mono ?_);rintro r w6 ⟨x,rfl,TU,Y7,uK⟩;have HXP:=zq TU;have E6:=zq ((Ev.alloc wr _).trans uK);have Nu:=zq (hBQ.ev uK);obtain⟨⟨u0,u1,u2,u3,u4,u5,u6,u7⟩,v0,v1,v2,v3,v4,v5,v6,v7⟩:=Nu.out.eight;have HXQ:=zq Y7;clear TU Y7 uK hBQ q0 q1 q2 q3 q4 q5 q6 q7))
 rw[gI];obtain⟨w8,TR⟩:∃w8,w8=mi wr.heap.size ↑x.kind ↑x.name (.slice x.ex.A x.ex.l.length x.ex.cap) (.slice x.co.A x.co.l.length x.co.cap) (.slice x.lf.A x.lf.l.length x.lf.cap) (.slice x.rt.A x.rt.l.length x.rt.cap) (.slice x.ag.A x.ag.l.length x.ag.cap) (.slice x.A x.kids.length x.cap) w6:=⟨_,rfl⟩
 rw[<-TR];have TK:=fB wr.heap.size ↑x.kind ↑x.name (.slice x.ex.A x.ex.l.length x.ex.cap) (.slice x.co.A x.co.l.length x.co.cap) (.slice x.lf.A x.lf.l.length x.lf.cap) (.slice x.rt.A x.rt.l.length x.rt.cap) (.slice x.ag.A x.ag.l.length x.ag.cap) (.slice x.A x.kids.length x.cap) w6;have Gy:=Nu.out.mi ↑x.kind ↑x.name (.slice x.ex.A x.ex.l.length x.ex.cap) (.slice x.co.A x.co.l.length x.co.cap) (.slice x.lf.A x.lf.l.length x.lf.cap) (.slice x.rt.A x.rt.l.length x.rt.cap) (.slice x.ag.A x.ag.l.length x.ag.cap) (.slice x.A x.kids.length x.cap);have Bf:=E6.out.box TK (aC8 _);have NJ:=vI HXQ.out TK (λk hk=>by simp at hk;simp;omega);rw[<-TR]at Gy Bf NJ;have II:=zq (HK.out.up Bf);have afN:=zq NJ;obtain⟨⟨q0,q1,q2,q3,q4,q5,q6,q7⟩,_⟩:=II.out.box.eight;clear u0 u1 u2 u3 u4 u5 u6 u7 v0 v1 v2 v3 v4 v5 v6 v7;obtain⟨⟨u0,u1,u2,u3,u4,u5,u6,u7⟩,_⟩:=Gy.eight;have amq:=Bf.size;have amr:=II.out.box.lt;have ams:=Gy.lt;clear TR TK Gy Bf NJ
 go_wp2_with (first
  | ((show wpList _ _ _ (⟨some 219,_,_,_,_,_⟩::_) _ _);refine aQ (o:=⟨some 219,_,_,_,_,_⟩) rfl 33 (.tmp 216) (.tmp 218) rfl I4 underlying33 Tryz.Ee rfl rfl (II.out.up aC).own (some ⟨_,0,none⟩) 1 1 [x] rfl (Sl.one (et:=35) I4 _ x _ rfl) (by simp;omega) (by simp;omega) (by simp;omega) ?_;intro v2 w7 iq;have Um:=zq iq;obtain⟨A2,cap2,rfl,hF7⟩:=EZ.next (II.out.up aC) (afN.out.ev aC) (by simp;omega) (by intro k hk;have:=(HK.out.own.lt (aG.1 hk)).2;simp;omega) Um.out;obtain⟨⟨o0,o1,o2,o3,o4,o5,o6,o7⟩,t0,t1,t2,t3,t4,t5,t6,t7⟩:=((II.out.up aC).after Um.out).eight;have HF7:=zq hF7;clear hF7 iq))
 go_roundw
 case rel=>exact⟨j+1,p.ui A2 cap2 (p.kids++[x]),(yL y.t).2,rfl,rfl,by go_num,ae,zq (HI.out.next HY.out HXP.out),HF7⟩
 case measure=>simp[intOf];omega):U:=h
theorem aFQ(h:U:=by obtain⟨⟨q0,q1,q2,q3,q4,q5,q6,q7⟩,_⟩:=HK.out.box.eight;obtain⟨⟨r0,r1,r2,r3,r4,r5,r6,r7⟩,s0,s1,s2,s3,s4,s5,s6,s7⟩:=(HR.out.ev HK.out.ev).eight;go_wp2;(try simp only[Exit.inBlock,Exit.then]);rw[gI];obtain⟨f1,f2,f3⟩:=JM HK.out HE.out (aD3 w.heap.size) ae (HR.out.ev HK.out.ev);refine aFe (aN rfl _ _ _ _ _ rfl f1 underlying35 rfl Tryz.iI) rfl ?_;rw[SE.out];exact⟨p,rfl,rfl,f2,f3⟩):U:=h
theorem Tq(m:M)(b0:Nat)(w:ak)(hL:Lies b0 [] w m)(hfair:m.t.every dY=true)(hsz:m.t.size<=10000)(hf:h_ m.t=true)(x:M)(q:List M)(hq:m.kids=x::q)(hs:x.s=iw)
  (ih:∀y∈q,∀w1,Ev w w1->Calls ax 49 #[.agg ↑y] w1 (gJ (yL y.t) w1)):
  Calls ax 49 #[.agg ↑m] w (gJ (yL m.t) w):=by
 have dH:Tryz.prog.follows .mixedOrders=true:=ah;obtain⟨wJ,yC,yF,hm1,hx2,BU⟩:=x8 hq hf;have hLg:Lies b0 [w.heap.size] w m:=hL.less λk hk=>by simp at hk;exact .inr (.inr ae)
 obtain⟨b,off,k,c,kW⟩:=Np hLg hq BU;have HFO:=zq (λw1 (hE:Ev w w1)=>JK m b0 w1 (hL.ev hE));rw[hf]at HFO;have RQ:=zq (λw1 (hE:Ev w w1)=>oG m b0 w1 (hL.ev hE));have P9:ZV m.t=x.s:=by rw[Vm,hq];simp[hm1,M.DK,oD,hx2]
 rw[P9,hs]at RQ;have hqn:=q_len hq hsz;rw[hs]at wJ yC yF;unfold gJ at ih|-;obtain⟨PT,Oc⟩:∃PT,PT=m.t:=⟨_,rfl⟩
 rw[<-Oc]at wJ yC|-;have hA:=kW.hA;have hn:=kW.hn;have hc:=kW.hc;have ET:=kW.ET;have hcm:=kW.hcm;have xw:=kW.xw;have hbl:b<w.heap.size:=(kW.WR w (But.refl _ _) off _ rfl).2.1;have Iw:=zq kW;clear kW Oc hq hL hLg hfair hsz BU hf hx2 P9;generalize VR:m.kids.length=kn at*;generalize VB:m.A=mA at*;generalize hc_:m.cap=mc at*;generalize GM:m.kind=kd at*;generalize hs_:m.s=ms at*;generalize VC:m.n=mn at*;generalize hp_:m.pos=mp at*;clear VR VB hc_ GM hs_ VC hp_;subst hm1 hA hn hc;obtain⟨w0,hw0,aV,hX,hR⟩:=aar w (.int .i64 1) ↑ms ↑mn (.slice ↑(b,off) (k+2) (c+2)) ↑mp;have HX:=zq hX;have HR:=zq hR;have HE:=zq aV;have Dk:=zq ih;unfold iw at*;obtain⟨⟨c0,c1,c2,c3,c4⟩,_⟩:=hX.five;clear hX hR aV ih hs;have hk2:q.length=2:=by exact aIz
 obtain rfl:k=1:=ae;have Nq:Hid ((dD PT).1=0->pPlan PT=.mk 5 [] [] [] [] [] [] (q.map λy=>pPlan y.t)):=zq (λ_=>by rw[wJ];show Pl.mk 5 [] [] [] [] [] [] ((q.map M.t).map pPlan)=_;rw[aDx];rfl);have TN:Hid (dD PT=iy (0,0) (aX (q.map λy=>dD y.t))):=zq (by rw[yC,zW];show aX ((q.map M.t).map dD)=_;rw[aDx];rfl);have HQ:Hid (∀w1,Ev w w1->Ms w1 ↑(b,off+5) 2 (c+1) q):=zq λw1 hE=>Iw.out.rest w1 (But.aU hE);have HQM:Hid (∀y∈q,y∈q):=zq λy hy=>hy;clear wJ yC yF;go_enter func49,ntmps49;go_upto_region 38 with (first
  | ((with_reducible refine(HFO.out _ HE.out).mono ?_);rintro r w1 ⟨rfl,aJ⟩;have E1:=zq (HE.out.trans aJ);have F1:=zq aJ;have hx1:=(HX.out.ev aJ).lt;have hr1:=(HR.out.ev aJ).lt;clear c0 c1 c2 c3 c4;obtain⟨⟨c0,c1,c2,c3,c4⟩,_⟩:=(HX.out.ev aJ).five;have TQ:=Bx.new 35 ↑Zz.b w1;clear aJ)
  | ((with_reducible refine(RQ.out _ (E1.out.trans aC)).mono ?_);rintro r w2 ⟨rfl,dJ⟩;have F2:=zq ((F1.out.trans aC).trans dJ);have BP:=zq (TQ.ev dJ);obtain⟨⟨p0,p1,p2,p3,p4,p5,p6,p7⟩,z0,z1,z2,z3,z4,z5,z6,z7⟩:=(TQ.ev dJ).eight;clear dJ TQ c0 c1 c2 c3 c4;obtain⟨⟨c0,c1,c2,c3,c4⟩,_⟩:=(HX.out.ev F2.out).five))
 obtain⟨wL,hwL⟩:∃wL,wL=w2.setCell ⟨↑w1,0,none⟩ (.int .i64 5):=⟨_,rfl⟩
 rw[<-hwL];have WY:Hid (EZ w0 w1.heap.size (.mk 5 [] .nil .nil .nil .nil .nil none 0 []) wL):=zq (EZ.init w0 wL w1.heap.size 5 (by rw[hwL];have:=BP.out.set 0 (.int .i64 5);simpa[zV,PM.kind,PM.name,PM.ex,PM.co,PM.lf,PM.rt,PM.ag,PM.A,PM.cap,PM.kids,dK.nil] using this) (by rw[hwL];exact F2.out.box (But.setCell _ _ aj) F1.out.size) F1.out.size);clear hwL p0 p1 p2 p3 p4 p5 p6 p7 z0 z1 z2 z3 z4 z5 z6 z7 c0 c1 c2 c3 c4;obtain⟨⟨c0,c1,c2,c3,c4⟩,_⟩:=(HX.out.ev WY.out.ev).five;go_wp2;have HIQ:=zq (λy (hy:y∈q) w1 (hE:Ev w w1)=>Dk.out y (HQM.out y hy) w1 hE);have IV:=zq (HQ.out w aS).len;have aml:=(HQ.out w aS).le;have amm:=(HQ.out w aS).max
 go_loopw [7,8,16] (λyv av iv wr=>∃(j:Nat) (p:PM) (e:Er),yv=.int .i64 e.1/\av=.int .i64 (e.2:Int)/\iv=↑j/\j<=2/\Hid (Jf q (0,0) (.mk 5 [] .nil .nil .nil .nil .nil none 0 []) j p e)/\Hid (EZ w0 w1.heap.size p wr)) (λ_ _ iv _=>2-(intOf iv).toNat)
 case atStart=>exact⟨0,.mk 5 [] .nil .nil .nil .nil .nil none 0 [],(0,0),rfl,rfl,rfl,aDl _,zq (Jf.start _ _ _ rfl (λ_=>rfl)),WY⟩
 case round=>
  obtain⟨j,p,e,rfl,rfl,rfl,hj,HI,HK⟩:=hrel;have aiU:=F1.out.size;have aiV:=HR.out.lt;by_cases he:e.1=0;have hee:=(HI.out.ok he).1;subst hee;by_cases hlt:j<2;obtain⟨y,hy⟩:=(HQ.out w aS).at hlt;obtain⟨bq,oq,hbq,hbl,d0,d1,d2,d3,d4⟩:=Ms.cell (HQ.out _ (HE.out.trans HK.out.ev)) hy;unfold M.kv at d3;injection hbq with hbq
  injection hbq with h1 h2 _
  subst h1 h2;obtain⟨⟨q0,q1,q2,q3,q4,q5,q6,q7⟩,_⟩:=HK.out.box.eight;have HY:=zq hy;have hsw:=HK.out.ev.size;have HIY:=zq (HIQ.out y (aDb hy));have hpl:p.kids.length<=10000:=by have:=HI.out.len;omega
  have amn:=HK.out.box.lt;have i1:(0:Int)<=(j:Int):=ae;have i2:(j:Int)<(2:Int):=ae;exact aFo;obtain rfl:j=2:=ae;have SE:Hid (yL PT=(p.p,0,0)):=zq (Jf.Tn (p0:=.mk 5 [] .nil .nil .nil .nil .nil none 0 []) (by rw[IV.out];exact HI.out) rfl TN.out Nq.out);exact aFQ;have heb:(e.1==0)=false:=aC7.2 he;have hen:(e.1 !=0)=true:=by simp[he]
  have SE:Hid (yL PT=(uN,e.1,e.2)):=zq (Jf.JL HI.out he TN.out);obtain⟨⟨r0,r1,r2,r3,r4,r5,r6,r7⟩,s0,s1,s2,s3,s4,s5,s6,s7⟩:=(HR.out.ev HK.out.ev).eight;have i1:(0:Int)<=(j:Int):=ae;by_cases hlt:(j:Int)<(2:Int)
  all_goals (
   go_wp2;(try simp only[Exit.inBlock,Exit.then]);rw[gI];obtain⟨f1,f2⟩:=EF (aD3 w.heap.size) (HE.out.trans HK.out.ev) (HR.out.ev HK.out.ev) (.int .i64 0) (.string ⟨#[]⟩) ↑() ↑() ↑() ↑() ↑() ↑();refine aFe (aN rfl _ _ _ _ _ rfl f1 underlying35 rfl Tryz.iI) rfl ?_;rw[SE.out];exact⟨zA,rfl,vZ,Qx.zero _ _ _,f2⟩)
theorem aHP(h:U:=by unfold TJ at h|-;split;rfl;rename_i hx;rw[if_neg hx]at h;exact absurd h (show ¬((20:Int)=0) by decide)):U:=h
theorem afP(t:T)(h:(TJ t).2.1=0):(TJ t).2=(0,0):=by exact aHP
theorem aas(t:T):bQ t=(TJ t).2:=by unfold bQ TJ;split<;>rfl
theorem afQ(t:T)(h:(TJ t).2.1=0):(TJ t).1=t.s:=by exact aHP
theorem acD{a:Er}(h:a.1=0->a=(0,0)):iy (0,0) a=a:=by rw[mO];by_cases ha:a.1=0;rw[if_pos ha,h ha];rw[if_neg ha]
theorem Wl{a:Er}(h:a.1=0->a=(0,0))(l:List Er):aX (a::l)=iy a (aX l):=by rw[show aX (a::l)=(a::l).foldl iy (0,0) from rfl,aEw,acD h,jF]
theorem acE(l:List Er)(h:(aX l).1=0):aX l=(0,0):=zU l h
theorem yl(l m:List Er):aX (l++m)=iy (aX l) (aX m):=by have:=vF (0,0) l m;rw[zW,zW]at this;exact this.symm
theorem EZ.aqD{w0 wL:ak}{gp:Nat}{p:PM}(hk:p.kids=[])(hA:p.A=none)(hc:p.cap=0)(hB:Bx 35 gp (zV p) wL)(hH:Tm (gp+1) [] wL p)(hE:Ev w0 wL)(hg:w0.heap.size<=gp):EZ w0 gp p wL:=by refine⟨hB,?_,?_,(λk hk2=>by rw[hk]at hk2;cases hk2),hE,hg⟩;rw[hk,hA,hc];exact Ow.nil_ _;rw[hk,hA,hc];exact hH
theorem Tt(m:M)(b0:Nat)(w:ak)(hL:Lies b0 [] w m)(hfair:m.t.every dY=true)(hsz:m.t.size<=10000)(hf:h_ m.t=true)(x:M)(q:List M)(hq:m.kids=x::q)(hs:x.s=gm)
  (ih:∀y∈q,∀w1,Ev w w1->Calls ax 49 #[.agg ↑y] w1 (gJ (yL y.t) w1)):
  Calls ax 49 #[.agg ↑m] w (gJ (yL m.t) w):=by
 have dH:Tryz.prog.follows .mixedOrders=true:=ah;obtain⟨wJ,yC,yF,hm1,hx2,BU⟩:=x8 hq hf;have hLg:Lies b0 [w.heap.size] w m:=hL.less λk hk=>by simp at hk;exact .inr (.inr ae)
 obtain⟨b,off,k,c,kW⟩:=Np hLg hq BU;have HFO:=zq (λw1 (hE:Ev w w1)=>JK m b0 w1 (hL.ev hE));rw[hf]at HFO;have RQ:=zq (λw1 (hE:Ev w w1)=>oG m b0 w1 (hL.ev hE));have P9:ZV m.t=x.s:=by rw[Vm,hq];simp[hm1,M.DK,oD,hx2]
 rw[P9,hs]at RQ;have HQS:=zq (λy (hy:y∈q)=>yc hq hy hfair hsz);have hqn:=q_len hq hsz;have VQ:=zq (λi y (hy:q[i]?=some y) w1 (hE:Ev w w1)=>kW.kid (i+1) y (by rw[hq];simpa using hy) w1 (But.aU hE));rw[hs]at wJ yC yF;unfold gJ at ih|-;obtain⟨PT,Oc⟩:∃PT,PT=m.t:=⟨_,rfl⟩
 rw[<-Oc]at wJ yC|-;have hA:=kW.hA;have hn:=kW.hn;have hc:=kW.hc;have ET:=kW.ET;have hcm:=kW.hcm;have xw:=kW.xw;have hbl:b<w.heap.size:=(kW.WR w (But.refl _ _) off _ rfl).2.1;clear kW Oc hq hL hLg hfair hsz BU hf hx2 P9;generalize VR:m.kids.length=kn at*;generalize VB:m.A=mA at*;generalize hc_:m.cap=mc at*;generalize GM:m.kind=kd at*;generalize hs_:m.s=ms at*;generalize VC:m.n=mn at*;generalize hp_:m.pos=mp at*;clear VR VB hc_ GM hs_ VC hp_;subst hm1 hA hn hc;obtain⟨w0,hw0,aV,hX,hR⟩:=aar w (.int .i64 1) ↑ms ↑mn (.slice ↑(b,off) (k+2) (c+2)) ↑mp;have HX:=zq hX;have HR:=zq hR;have HE:=zq aV;unfold gm at*;obtain⟨⟨c0,c1,c2,c3,c4⟩,_⟩:=hX.five;clear hX hR aV ih hs;have hk2:q.length=1:=by have h1:((q.map M.t).length==1&&bT (at_ (q.map M.t) 0))=true:=yF;rw[aC9,aDn,aC_]at h1;exact h1.1
 obtain rfl:k=0:=ae;have HQF:=zq (λy (hy:y∈q)=>(HQS.out y hy).1);have HSL:Hid (∀y∈q,y.s.length<=1000000):=zq λy hy=>by have h1:=HQF.out y hy;rw[T.kD,aC9]at h1;have h2:=h1.1;rw[M.yE]at h2;have:=(vW h2).2;omega
 obtain⟨y,rfl⟩:=uS hk2;obtain⟨NR,hNR⟩:∃NR,NR=TJ y.t:=⟨_,rfl⟩
 have HNZ:=zq (afP y.t);have Nq:Hid ((dD PT).1=0->pPlan PT=.mk 1 NR.1 [] [] [] [] [] (([]:List M).map λy=>pPlan y.t)):=zq (λh0=>by
  rw[wJ];rw[yC]at h0;have h1:(aX [bQ y.t]).1=0:=h0;have h2:=(gG _).1 h1 _ (aC' ..);rw[aas]at h2;rw[hNR,afQ _ h2];rfl)
 have TN:Hid (dD PT=iy NR.2 (aX (([]:List M).map λy=>dD y.t))):=zq (by
  rw[yC];show aX [bQ y.t]=_;rw[aas,hNR,Wl (afP y.t)];rfl)
 have HN:=zq (λw1=>D7 y w1 (HSL.out y aj));have HQ:Hid (∀w1,Ev w w1->Ms w1 none 0 0 ([]:List M)):=zq λw1 _=>Sl.nil_ w1;rw[<-hNR]at HN HNZ;clear wJ yC yF hNR;go_enter func49,ntmps49;go_upto_region 10 with (first
  | ((with_reducible refine(HFO.out _ HE.out).mono ?_);rintro r w1 ⟨rfl,aJ⟩;have E1:=zq (HE.out.trans aJ);have F1:=zq aJ;have hx1:=(HX.out.ev aJ).lt;have hr1:=(HR.out.ev aJ).lt;clear c0 c1 c2 c3 c4;obtain⟨⟨c0,c1,c2,c3,c4⟩,_⟩:=(HX.out.ev aJ).five;have TQ:=Bx.new 35 ↑Zz.b w1;clear aJ)
  | ((with_reducible refine(RQ.out _ (E1.out.trans aC)).mono ?_);rintro r w2 ⟨rfl,dJ⟩;have F2:=zq ((F1.out.trans aC).trans dJ);have BP:=zq (TQ.ev dJ);obtain⟨⟨p0,p1,p2,p3,p4,p5,p6,p7⟩,z0,z1,z2,z3,z4,z5,z6,z7⟩:=(TQ.ev dJ).eight;clear dJ TQ c0 c1 c2 c3 c4;obtain⟨⟨c0,c1,c2,c3,c4⟩,_⟩:=(HX.out.ev F2.out).five))
 obtain⟨wA,hwA⟩:∃wA,wA=w2.setCell ⟨↑w1,0,none⟩ (.int .i64 1):=⟨_,rfl⟩
 rw[<-hwA];have BPA:Hid (Bx 35 w1.heap.size #[.int .i64 1,.string ⟨#[]⟩,↑(),↑(),↑(),↑(),↑(),↑()] wA):=zq (by rw[hwA];have:=BP.out.set 0 (.int .i64 1);simpa using this);have FA:Hid (Ev w0 wA):=zq (by rw[hwA];exact F2.out.box (But.setCell _ _ aj) F1.out.size);have EA:Hid (Ev w wA):=zq (HE.out.trans FA.out);clear hwA p0 p1 p2 p3 p4 p5 p6 p7 z0 z1 z2 z3 z4 z5 z6 z7 c0 c1 c2 c3 c4;obtain⟨⟨p0,p1,p2,p3,p4,p5,p6,p7⟩,z0,z1,z2,z3,z4,z5,z6,z7⟩:=BPA.out.eight;obtain⟨⟨c0,c1,c2,c3,c4⟩,_⟩:=(HX.out.ev FA.out).five;have hpA:=BPA.out.lt;obtain⟨y0,y1,y2,y3,y4⟩:=VQ.out 0 y rfl _ EA.out;simp only[aDt,aEi]at y0 y1 y2 y3 y4;go_upto_region 52 with (first
  | ((with_reducible refine(HN.out _).mono ?_);rintro r w3 ⟨rfl,jW⟩;have E3:=zq jW;clear p0 p1 p2 p3 p4 p5 p6 p7 z0 z1 z2 z3 z4 z5 z6 z7;obtain⟨⟨p0,p1,p2,p3,p4,p5,p6,p7⟩,z0,z1,z2,z3,z4,z5,z6,z7⟩:=(BPA.out.ev jW).eight;clear jW))
 obtain⟨wL,hwL⟩:∃wL,wL=w3.setCell ⟨w1.heap.size,1,none⟩ (.string ⟨NR.1.toArray⟩):=⟨_,rfl⟩
 rw[<-hwL];have WY:Hid (EZ w0 w1.heap.size (.mk 1 NR.1 .nil .nil .nil .nil .nil none 0 []) wL):=zq (EZ.aqD rfl rfl rfl (by rw[hwL];have:=(BPA.out.ev E3.out).set 1 (.string ⟨NR.1.toArray⟩);simpa[zV,PM.kind,PM.name,PM.ex,PM.co,PM.lf,PM.rt,PM.ag,PM.A,PM.cap,PM.kids,dK.nil] using this) ⟨bY.nil ..,(λe he=>by cases he),bY.nil ..,bY.nil ..,bY.nil ..,bY.nil ..⟩ (by rw[hwL];exact(FA.out.trans E3.out).box (But.setCell _ _ aj) F1.out.size) F1.out.size);clear hwL p0 p1 p2 p3 p4 p5 p6 p7 z0 z1 z2 z3 z4 z5 z6 z7 c0 c1 c2 c3 c4 y0 y1 y2 y3 y4;go_wp2;have IV:=zq (HQ.out w aS).len;have aml:=(HQ.out w aS).le;have amm:=(HQ.out w aS).max
 go_loopw [7,8,16] (λyv av iv wr=>∃(j:Nat) (p:PM) (e:Er),yv=.int .i64 e.1/\av=.int .i64 (e.2:Int)/\iv=↑j/\j<=0/\Hid (Jf ([]:List M) NR.2 (.mk 1 NR.1 .nil .nil .nil .nil .nil none 0 []) j p e)/\Hid (EZ w0 w1.heap.size p wr)) (λ_ _ iv _=>0-(intOf iv).toNat)
 case atStart=>exact⟨0,.mk 1 NR.1 .nil .nil .nil .nil .nil none 0 [],NR.2,rfl,rfl,rfl,aDl _,zq (Jf.start _ _ _ rfl HNZ.out),WY⟩
 case round=>
  obtain⟨j,p,e,rfl,rfl,rfl,hj,HI,HK⟩:=hrel;have aiU:=F1.out.size;have aiV:=HR.out.lt;by_cases he:e.1=0;have hee:=(HI.out.ok he).1;subst hee;obtain rfl:j=0:=ae;have SE:Hid (yL PT=(p.p,0,0)):=zq (Jf.Tn (p0:=.mk 1 NR.1 .nil .nil .nil .nil .nil none 0 []) (by rw[IV.out];exact HI.out) rfl TN.out Nq.out);exact aFQ;have heb:(e.1==0)=false:=aC7.2 he;have hen:(e.1 !=0)=true:=by simp[he]
  have SE:Hid (yL PT=(uN,e.1,e.2)):=zq (Jf.JL HI.out he TN.out);obtain⟨⟨r0,r1,r2,r3,r4,r5,r6,r7⟩,s0,s1,s2,s3,s4,s5,s6,s7⟩:=(HR.out.ev HK.out.ev).eight;have i1:(0:Int)<=(j:Int):=ae;obtain rfl:j=0:=ae
  (
   go_wp2;(try simp only[Exit.inBlock,Exit.then]);rw[gI];obtain⟨f1,f2⟩:=EF (aD3 w.heap.size) (HE.out.trans HK.out.ev) (HR.out.ev HK.out.ev) (.int .i64 0) (.string ⟨#[]⟩) ↑() ↑() ↑() ↑() ↑() ↑();refine aFe (aN rfl _ _ _ _ _ rfl f1 underlying35 rfl Tryz.iI) rfl ?_;rw[SE.out];exact⟨zA,rfl,vZ,Qx.zero _ _ _,f2⟩)
theorem NK(l:List T):(Nh l).2=aX (l.map bQ):=by unfold Nh;split;rename_i h;exact(zU _ h).symm;rfl
theorem Y8(l:List T)(h:(Nh l).2.1=0):(Nh l).1=l.map T.s:=by rw[NK]at h;unfold Nh;rw[if_pos h]
theorem Wn{a:Er}(h:a.1≠0)(b:Er):iy a b=a:=by unfold iy;simp[h]
theorem acF{y:M}(h:y.t.size<=10000):y.kids.length<=10000:=by have h1:=T.size_eq y.t;have h2:=p_ y.t.kids;rw[M.dO,aC_]at h2;rw[M.dO]at h1;omega
theorem Qq{y:M}(h:y.t.every dY=true):∀x∈y.kids,x.s.length<=1000000:=λx hx=>by rw[T.kD,aC9]at h;have h1:=aDs.1 h.2 x.t (by rw[M.dO];exact aDz.2 ⟨x,hx,rfl⟩);rw[T.kD,aC9]at h1;have h2:=h1.1;rw[M.yE]at h2;have:=(vW h2).2;omega
structure FaI(al:List M)(e1:Er)(j:Nat)(L:List Ag)(e:Er):Prop where
 len:L.length<=j
 ok:e.1=0->e=(0,0)/\e1=(0,0)/\(∀y∈al.take j,(aX (dS y.t)).1=0)/\L=(al.take j).map λy=>jV y.t
 bad:e.1≠0->iy e1 (aX (al.flatMap λy=>dS y.t))=e
theorem Qr{al:List M}(h:∀y∈al,(aX (dS y.t)).1=0):aX (al.flatMap λy=>dS y.t)=(0,0):=zN λx hx=>by obtain⟨y,hy,hx⟩:=aEh.1 hx;exact(gG _).1 (h y hy) x hx
theorem afR{al:List M}{j:Nat}{y:M}(h:∀y∈al.take j,(aX (dS y.t)).1=0)(hy:al[j]?=some y)(hne:(aX (dS y.t)).1≠0):aX (al.flatMap λy=>dS y.t)=aX (dS y.t):=by
 obtain⟨hk,hx⟩:=aC6.1 hy;have hl:al=al.take j++y::al.drop (j+1):=by rw[<-hx,aEQ,aDS]
 rw[hl,List.flatMap_append,aEp,yl,yl,Qr h,Wn hne,mO,if_neg hne]
theorem FaI.start(al:List M)(e1:Er)(hz:e1.1=0->e1=(0,0)):FaI al e1 0 [] e1:=
 ⟨aC8 _,λh=>⟨hz h,hz h,aj,aj⟩,λh=>Wn h _⟩
theorem FaI.next{al:List M}{e1:Er}{j:Nat}{L:List Ag}{y:M}(h:FaI al e1 j L (0,0))(hy:al[j]?=some y):FaI al e1 (j+1) (L++[(WW y.t).1]) (WW y.t).2:=by
 obtain⟨_,h2,h3,h4⟩:=h.ok rfl;obtain⟨hk,e0⟩:=aC6.1 hy;have wP:al.take (j+1)=al.take j++[y]:=by rw[aDi hk,e0]
 by_cases hz:(aX (dS y.t)).1=0;have hR:WW y.t=(jV y.t,(0,0)):=by unfold WW;rw[if_pos hz]
 rw[hR];refine⟨by have:=h.len;simp;omega,λ_=>⟨rfl,h2,λz hz2=>?_,?_⟩,λhb=>absurd rfl hb⟩;rw[wP]at hz2;rcases aDm.1 hz2 with h5|h5;exact h3 z h5;simp at h5;rw[h5];exact hz;rw[wP,aDk,h4];rfl;have hR:WW y.t=(([],[],[]),aX (dS y.t)):=by unfold WW;rw[if_neg hz]
 rw[hR];refine⟨by have:=h.len;simp;omega,λhb=>absurd hb hz,λ_=>?_⟩;rw[afR h3 hy hz,h2,mO,if_neg hz]
theorem FaI.fin{al:List M}{e1 e:Er}{j:Nat}{L:List Ag}(h:FaI al e1 j L e)(hj:e.1=0->j=al.length):iy e1 (aX (al.flatMap λy=>dS y.t))=e/\(e.1=0->L=al.map λy=>jV y.t):=by by_cases he:e.1=0;obtain⟨h1,h2,h3,h4⟩:=h.ok he;rw[hj he,aEt]at h3 h4;exact⟨by rw[Qr h3,h2,h1];rfl,λ_=>h4⟩;exact⟨h.bad he,λh0=>absurd h0 he⟩
structure FgK(w0:ak)(gp:Nat)(lf:dK By)(ag:dK Ag)(w:ak):Prop where
 box:Bx 35 gp #[.int .i64 7,.string ⟨#[]⟩,↑(),↑(),.slice lf.A lf.l.length lf.cap,↑(),.slice ag.A ag.l.length ag.cap,↑()] w
 own:Ow 161 3 ac (gp+1) w (.slice ag.A ag.l.length ag.cap) ag.l
 lf:bY 1 sc (gp+1) (foot (.slice ag.A ag.l.length ag.cap)) w lf
 ev:Ev w0 w
 ge_:w0.heap.size<=gp
theorem FgK.up{w0 w w':ak}{gp:Nat}{lf:dK By}{ag:dK Ag}(h:FgK w0 gp lf ag w)(hE:Ev w w'):FgK w0 gp lf ag w':=
 ⟨h.box.ev hE,h.own.ev hE,h.lf.move (But.aU hE) λ_ hx=>.inl hx,h.ev.trans hE,h.ge_⟩
theorem FgK.next{w0 wq w2:ak}{gp:Nat}{lf:dK By}{ag:dK Ag}{a:Ag}{v2:au}(h:FgK w0 gp lf ag wq)(hA:uG 161 3 ac (gp+1) wq (.slice ag.A ag.l.length ag.cap) (ag.l++[a]) v2 w2):
  ∃A2 cap2,v2=.slice A2 (ag.l.length+1) cap2/\FgK w0 gp lf ⟨A2,cap2,ag.l++[a]⟩ (w2.setCell ⟨gp,6,none⟩ v2):=by
 obtain⟨ho,hb,hs⟩:=hA;obtain⟨A2,cap2,rfl,qJ,I7⟩:=ho.form zy;have hl:(ag.l++[a]).length=ag.l.length+1:=by rw[aDd];rfl
 have hgl:=h.box.lt;have hK:gp∉foot (.slice ag.A ag.l.length ag.cap):=λhm=>by have:=(h.own.lt (aG.1 hm)).1;omega
 have hB2:=(h.box).but hb hK;have hBS:But [gp] w2 (w2.setCell ⟨gp,6,none⟩ (.slice A2 (ag.l++[a]).length cap2)):=But.setCell _ _ aj;have hf2:∀k∈foot (.slice A2 (ag.l++[a]).length cap2),k∈foot (.slice ag.A ag.l.length ag.cap)∨k<gp+1∨wq.heap.size<=k:=λk hk=>by exact aIf
 have hst:∀k∈gp::foot (.slice A2 (ag.l++[a]).length cap2),k∈foot (.slice A2 (ag.l++[a]).length cap2)∨k<gp+1∨w2.heap.size<=k:=λk hk=>by rcases aDg.1 hk with rfl|h1;exact .inr (.inl ae);exact .inl h1
 have aiS:But (gp::foot (.slice A2 (ag.l++[a]).length cap2)) w2 (w2.setCell ⟨gp,6,none⟩ (.slice A2 (ag.l++[a]).length cap2)):=hBS.wide λk hk=>by simp at hk;subst hk;exact .inl aj
 have hin:∀k∈foot (.slice A2 (ag.l++[a]).length cap2),k∈gp::foot (.slice A2 (ag.l++[a]).length cap2)∨k<gp+1∨w2.heap.size<=k:=λk hk=>.inl (aDc _ hk);refine⟨A2,cap2,by rw[hl],?_,?_,?_,?_,h.ge_⟩;have:=hB2.set 6 (.slice A2 (ag.l++[a]).length cap2);simpa using this;exact ho.but hBS λg hg=>by have:=(ho.lt hg).1;simp;omega
 have h1:bY 1 sc (gp+1) (foot (.slice A2 (ag.l++[a]).length cap2)) w2 lf:=h.lf.move hb hf2;exact(h1.move (But.refl _ _) hst).move aiS hin;have h1:Ev w0 w2:=((But.aU h.ev).then hb).ev λk hk=>by have:=(h.own.lt (aG.1 hk)).1;have:=h.ge_;omega
 exact h1.box hBS h.ge_
theorem FgK.after{w0 wq w2:ak}{gp:Nat}{lf:dK By}{ag:dK Ag}{v2:au}{L:List Ag}(h:FgK w0 gp lf ag wq)(hA:uG 161 3 ac (gp+1) wq (.slice ag.A ag.l.length ag.cap) L v2 w2):Bx 35 gp #[.int .i64 7,.string ⟨#[]⟩,↑(),↑(),.slice lf.A lf.l.length lf.cap,↑(),.slice ag.A ag.l.length ag.cap,↑()] w2:=
 h.box.but hA.2.1 λhm=>by have:=(h.own.lt (aG.1 hm)).1;omega
theorem FgK.done{w0 w:ak}{gp:Nat}{lf:dK By}{ag:dK Ag}(h:FgK w0 gp lf ag w):EZ w0 gp (.mk 7 [] .nil .nil lf .nil ag none 0 []) w:=by
 obtain⟨A2,cap2,hv,qJ,I7⟩:=h.own.form zy;injection hv with h1 h2 h3
 refine EZ.aqD rfl rfl rfl ?_ ⟨bY.nil ..,(λe he=>by cases he),bY.nil ..,h.lf.move (But.refl _ _) (λk hk=>by cases hk),bY.nil ..,⟨by show Sl 3 ac w ag.A ag.l.length ag.cap ag.l;rw[h1,h3];exact qJ,λad e=>by have e:ag.A=some ad:=e;rw[h1]at e;exact⟨(I7 ad e).2.1,(I7 ad e).2.2.1,aj⟩⟩⟩ h.ev h.ge_;have:=h.box;simpa[zV,PM.kind,PM.name,PM.ex,PM.co,PM.lf,PM.rt,PM.ag,PM.A,PM.cap,PM.kids,dK.nil] using this
theorem Tryz.afS:(Tryz.prog.info? 161).map (λi=>(i.zero,i.size,i.bytes))=some (some (.agg #[.string ⟨#[]⟩,.string ⟨#[]⟩,.string ⟨#[]⟩]),3,48):=ah
theorem acH(y:M)(b0:Nat)(w:ak)(h:Lies b0 [] w y)(hk:dR y.t=true)(hs:∀x∈y.kids,x.s.length<=1000000):
  Calls ax 97 #[.slice y.A y.kids.length y.cap] w (Qe (WW y.t) w):=by
 unfold dR at hk;rw[aC9,M.dO,aC_,aDC,aDn,aDn]at hk;rcases hk.2 with h2|h2;obtain⟨a,b,e⟩:=Az h2;exact ah_ y a b w h.ms e hs;obtain⟨a,b,c,e⟩:∃a b c,y.kids=[a,b,c]:=by
  match hq:y.kids,h2 with
  | [a,b,c],_=>exact⟨a,b,c,rfl⟩
 exact ah' y a b c w h.ms e hs
theorem aFl(h:U:=by
 go_upto_region 52 with fail
 go_wp2;have HIQ:=zq (λy (hy:y∈[z]) w1 (hE:Ev w w1)=>Dk.out y (HQM.out y hy) w1 hE);have IV:=zq (HQ.out w aS).len;have aml:=(HQ.out w aS).le;have amm:=(HQ.out w aS).max
 go_loopw [7,8,16] (λyv av iv wr=>∃(j:Nat) (p:PM) (e:Er),yv=.int .i64 e.1/\av=.int .i64 (e.2:Int)/\iv=↑j/\j<=1/\Hid (Jf [z] e5 (.mk 7 [] .nil .nil X1 .nil ag none 0 []) j p e)/\Hid (EZ w0 w1.heap.size p wr)) (λ_ _ iv _=>1-(intOf iv).toNat)
 case atStart=>exact⟨0,.mk 7 [] .nil .nil X1 .nil ag none 0 [],e5,rfl,rfl,rfl,aDl _,zq (Jf.start _ _ _ rfl HZ5.out),WY⟩
 case round=>
  obtain⟨j,p,e,rfl,rfl,rfl,hj,HI,HK⟩:=hrel;have aiU:=F1.out.size;have aiV:=HR.out.lt;by_cases he:e.1=0;have hee:=(HI.out.ok he).1;subst hee;by_cases hlt:j<1;obtain⟨y,hy⟩:=(HQ.out w aS).at hlt;obtain⟨bq,oq,hbq,hbl,d0,d1,d2,d3,d4⟩:=Ms.cell (HQ.out _ (HE.out.trans HK.out.ev)) hy;unfold M.kv at d3;injection hbq with hbq
  injection hbq with h1 h2 _
  subst h1 h2;obtain⟨⟨q0,q1,q2,q3,q4,q5,q6,q7⟩,_⟩:=HK.out.box.eight;have HY:=zq hy;have hsw:=HK.out.ev.size;have HIY:=zq (HIQ.out y (aDb hy));have hpl:p.kids.length<=10000:=by have:=HI.out.len;omega
  have amn:=HK.out.box.lt;have i1:(0:Int)<=(j:Int):=ae;have i2:(j:Int)<(1:Int):=ae;exact aFo;obtain rfl:j=1:=ae;have SE:Hid (yL PT=(p.p,0,0)):=zq (Jf.Tn (p0:=.mk 7 [] .nil .nil X1 .nil ag none 0 []) (by rw[IV.out];exact HI.out) rfl TN.out Nq.out);exact aFQ;have heb:(e.1==0)=false:=aC7.2 he;have hen:(e.1 !=0)=true:=by simp[he]
  have SE:Hid (yL PT=(uN,e.1,e.2)):=zq (Jf.JL HI.out he TN.out);obtain⟨⟨r0,r1,r2,r3,r4,r5,r6,r7⟩,s0,s1,s2,s3,s4,s5,s6,s7⟩:=(HR.out.ev HK.out.ev).eight;have i1:(0:Int)<=(j:Int):=ae;by_cases hlt:(j:Int)<(1:Int)
  all_goals (
   go_wp2;(try simp only[Exit.inBlock,Exit.then]);rw[gI];obtain⟨f1,f2⟩:=EF (aD3 w.heap.size) (HE.out.trans HK.out.ev) (HR.out.ev HK.out.ev) (.int .i64 0) (.string ⟨#[]⟩) ↑() ↑() ↑() ↑() ↑() ↑();refine aFe (aN rfl _ _ _ _ _ rfl f1 underlying35 rfl Tryz.iI) rfl ?_;rw[SE.out];exact⟨zA,rfl,vZ,Qx.zero _ _ _,f2⟩)):U:=h
theorem Tu(m:M)(b0:Nat)(w:ak)(hL:Lies b0 [] w m)(hfair:m.t.every dY=true)(hsz:m.t.size<=10000)(hf:h_ m.t=true)(x:M)(q:List M)(hq:m.kids=x::q)(hs:x.s=dX)
  (ih:∀y∈q,∀w1,Ev w w1->Calls ax 49 #[.agg ↑y] w1 (gJ (yL y.t) w1)):
  Calls ax 49 #[.agg ↑m] w (gJ (yL m.t) w):=by
 have dH:Tryz.prog.follows .mixedOrders=true:=ah;obtain⟨wJ,yC,yF,hm1,hx2,BU⟩:=x8 hq hf;have hLg:Lies b0 [w.heap.size] w m:=hL.less λk hk=>by simp at hk;exact .inr (.inr ae)
 obtain⟨b,off,k,c,kW⟩:=Np hLg hq BU;have HFO:=zq (λw1 (hE:Ev w w1)=>JK m b0 w1 (hL.ev hE));rw[hf]at HFO;have RQ:=zq (λw1 (hE:Ev w w1)=>oG m b0 w1 (hL.ev hE));have P9:ZV m.t=x.s:=by rw[Vm,hq];simp[hm1,M.DK,oD,hx2]
 rw[P9,hs]at RQ;have HQS:=zq (λy (hy:y∈q)=>yc hq hy hfair hsz);have hqn:=q_len hq hsz;have VQ:=zq (λi y (hy:q[i]?=some y) w1 (hE:Ev w w1)=>kW.kid (i+1) y (by rw[hq];simpa using hy) w1 (But.aU hE));rw[hs]at wJ yC yF;unfold gJ at ih|-;obtain⟨PT,Oc⟩:∃PT,PT=m.t:=⟨_,rfl⟩
 rw[<-Oc]at wJ yC|-;have hA:=kW.hA;have hn:=kW.hn;have hc:=kW.hc;have ET:=kW.ET;have hcm:=kW.hcm;have xw:=kW.xw;have hbl:b<w.heap.size:=(kW.WR w (But.refl _ _) off _ rfl).2.1;have Iw:=zq kW;clear kW Oc hq hL hLg hfair hsz BU hf hx2 P9;generalize VR:m.kids.length=kn at*;generalize VB:m.A=mA at*;generalize hc_:m.cap=mc at*;generalize GM:m.kind=kd at*;generalize hs_:m.s=ms at*;generalize VC:m.n=mn at*;generalize hp_:m.pos=mp at*;clear VR VB hc_ GM hs_ VC hp_;subst hm1 hA hn hc;obtain⟨w0,hw0,aV,hX,hR⟩:=aar w (.int .i64 1) ↑ms ↑mn (.slice ↑(b,off) (k+2) (c+2)) ↑mp;have HX:=zq hX;have HR:=zq hR;have HE:=zq aV;have Dk:=zq ih;unfold dX at*;obtain⟨⟨c0,c1,c2,c3,c4⟩,_⟩:=hX.five;clear hX hR aV ih hs;have afi:(decide (2<=(q.map M.t).length)&&dI (at_ (q.map M.t) 0)&&(((q.map M.t).take ((q.map M.t).length-1)).drop 1).all dR)=true:=yF;rw[aC9,aC9,aDV,aC_,xw,aEC,<-aEf]at afi;obtain⟨⟨nX,_⟩,hagg⟩:=afi;obtain⟨k1,rfl⟩:∃k1,k=k1+1:=⟨k-1,ae⟩
 obtain⟨oO,rfl⟩:∃c1,c=c1+1:=⟨c-1,ae⟩
 obtain⟨l1,r,rfl⟩:∃l1 r,q=l1::r:=by
  cases q with
  | nil=>simp at xw
  | cons a b=>exact⟨a,b,rfl⟩
 have hrl:r.length=k1+1:=by simpa using xw
 rw[aDX,aDe,aDJ,aEc,aEy,aDs]at hagg;have hlen:((l1::r).map M.t).length-1=k1+1:=by simp[hrl]
 obtain⟨z,hz⟩:∃z,r.drop k1=[z]:=uS (by rw[aDD,hrl];omega);obtain⟨al,Jj⟩:∃al,al=r.take k1:=⟨_,rfl⟩
 have hall:al.length=k1:=by rw[Jj,aDP];omega
 have aqE:pPlan PT=.mk 7 [] [] [] (l1.kids.map M.s) [] (al.map λv=>jV v.t) ([z].map λv=>pPlan v.t):=by rw[wJ,Jj,<-hz];show Pl.mk 7 [] [] [] (l1.t.kids.map T.s) [] (((((l1::r).map M.t).take (((l1::r).map M.t).length-1)).drop 1).map jV) ((((l1::r).map M.t).map pPlan).drop (((l1::r).map M.t).length-1))=_;rw[hlen,M.dO,aDx,funext M.DK |> λh=>(show (T.s ∘ M.t)=M.s from h),aDe,aDX,aDJ,aEc,aDe,aDJ,<-aEf,aDx,aDx,<-aEo];rfl
 obtain⟨N1,hN1⟩:∃N1,N1=Nh (l1.kids.map M.t):=⟨_,rfl⟩
 have aqG:dD PT=iy (iy N1.2 (aX (al.flatMap λv=>dS v.t))) (aX ([z].map λv=>dD v.t)):=by rw[yC,Jj,<-hz,hN1,NK];show aX (l1.t.kids.map bQ++(((((l1::r).map M.t).take (((l1::r).map M.t).length-1)).drop 1).flatMap dS++(((l1::r).map M.t).map dD).drop (((l1::r).map M.t).length-1)))=_;rw[hlen,M.dO,aDe,aDX,aDJ,aEc,aDe,aDJ,<-aEf,aDx (l:=r),List.flatMap_map,<-aEo,yl,yl,F_];rfl
 have hz1:N1.2.1=0->N1.2=(0,0):=by rw[hN1,NK];exact acE _
 have uC:N1.2.1=0->N1.1=l1.kids.map M.s:=λh=>by rw[hN1]at h|-;rw[Y8 _ h,aDx];exact aDT λx _=>M.DK x
 have amv:=zq (λw1 (hE:Ev w w1)=>ae_ l1.kids l1.A l1.kids.length l1.cap w1 ((Iw.out.lies l1 aj w (But.refl _ _)).ms.ev hE) (by have:=acF (HQS.out l1 aj).2;omega) (Qq (HQS.out l1 aj).1));have HQ:Hid (∀w1,Ev w w1->Ms w1 (some ⟨b,off+(k1+2)*5,none⟩) 1 (oO+1-k1) [z]):=zq λw1 hE=>by have h1:=(Iw.out.rest w1 (But.aU hE)).drop (k:=k1+1) ae;rw[show (l1::r).drop (k1+1)=[z] from hz]at h1;have e1:off+5+(k1+1)*5=off+(k1+2)*5:=ae;have e2:k1+1+1-(k1+1)=1:=ae;have e3:oO+1+1-(k1+1)=oO+1-k1:=ae;rw[e1,e2,e3]at h1;exact h1
 have HQM:Hid (∀y_∈[z],y_∈l1::r):=zq λy_ hy=>by refine aDc _ (aEm (i:=k1) ?_);rw[hz];exact hy
 have Ip:=zq (λj y (hy:al[j]?=some y) w1 (hE:Ev w w1)=>acH y b0 w1 ((((Iw.out.lies y (by rw[Jj]at hy;exact aDc _ (aD2 (aDb hy))) w (But.refl _ _)).less λk hk=>by cases hk).ev hE)) (hagg y (by rw[<-Jj];exact aDb hy)) (Qq (HQS.out y (by rw[Jj]at hy;exact aDc _ (aD2 (aDb hy)))).1));have HKA:=zq (λj y (hy:al[j]?=some y) w1 (hE:Ev w w1)=>(VQ.out (j+1) y (by rw[Jj]at hy;rw[List.getElem?_cons_succ];rw[List.getElem?_take]at hy;split at hy;exact hy;cases hy) w1 hE).2.2.2.1);simp only[show ∀j:Nat,j+1+1=j+2 from λj=>rfl]at HKA;have Ul:=zq (λw1 (hE:Ev w w1)=>(VQ.out 0 l1 rfl w1 hE).2.2.2.1);simp only[aDt,aEi]at Ul;unfold ae9 at amv;unfold Qe at Ip;rw[<-hN1]at amv;have amw:=zq hall;have HZ1:=zq hz1;have avk:=zq aqE;have aqH:=zq aqG;have rQ:=zq uC;have aA2:k1<=10000:=by simp at hqn;omega
 have aA3:k1<=oO:=ae;clear wJ yC yF hN1 aqE aqG uC hz1 hall Jj hz hagg hrl hlen nX hqn ET xw VQ HQS;go_enter func49,ntmps49;go_upto_region 44 with (first
  | ((with_reducible refine(HFO.out _ HE.out).mono ?_);rintro r w1 ⟨rfl,aJ⟩;have E1:=zq (HE.out.trans aJ);have F1:=zq aJ;have hx1:=(HX.out.ev aJ).lt;have hr1:=(HR.out.ev aJ).lt;clear c0 c1 c2 c3 c4;obtain⟨⟨c0,c1,c2,c3,c4⟩,_⟩:=(HX.out.ev aJ).five;have TQ:=Bx.new 35 ↑Zz.b w1;clear aJ)
  | ((with_reducible refine(RQ.out _ (E1.out.trans aC)).mono ?_);rintro r w2 ⟨rfl,dJ⟩;have F2:=zq ((F1.out.trans aC).trans dJ);have BP:=zq (TQ.ev dJ);obtain⟨⟨p0,p1,p2,p3,p4,p5,p6,p7⟩,z0,z1,z2,z3,z4,z5,z6,z7⟩:=(TQ.ev dJ).eight;clear dJ TQ c0 c1 c2 c3 c4;obtain⟨⟨c0,c1,c2,c3,c4⟩,_⟩:=(HX.out.ev F2.out).five))
 obtain⟨wA,hwA⟩:∃wA,wA=w2.setCell ⟨↑w1,0,none⟩ (.int .i64 7):=⟨_,rfl⟩
 rw[<-hwA];have BPA:Hid (Bx 35 w1.heap.size #[.int .i64 7,.string ⟨#[]⟩,↑(),↑(),↑(),↑(),↑(),↑()] wA):=zq (by rw[hwA];have:=BP.out.set 0 (.int .i64 7);simpa using this);have FA:Hid (Ev w0 wA):=zq (by rw[hwA];exact F2.out.box (But.setCell _ _ aj) F1.out.size);have EA:Hid (Ev w wA):=zq (HE.out.trans FA.out);clear hwA p0 p1 p2 p3 p4 p5 p6 p7 z0 z1 z2 z3 z4 z5 z6 z7 c0 c1 c2 c3 c4;obtain⟨⟨p0,p1,p2,p3,p4,p5,p6,p7⟩,z0,z1,z2,z3,z4,z5,z6,z7⟩:=BPA.out.eight;obtain⟨⟨c0,c1,c2,c3,c4⟩,_⟩:=(HX.out.ev FA.out).five;have hpA:=BPA.out.lt;have y3:=Ul.out _ EA.out;go_upto_region 45 with (first
  | ((with_reducible refine(amv.out _ EA.out).mono ?_);rintro r w3 ⟨X1,rfl,TL,VN,jW⟩;have avl:=zq TL;have avm:=zq VN;have E3:=zq jW;clear p0 p1 p2 p3 p4 p5 p6 p7 z0 z1 z2 z3 z4 z5 z6 z7;obtain⟨⟨p0,p1,p2,p3,p4,p5,p6,p7⟩,z0,z1,z2,z3,z4,z5,z6,z7⟩:=(BPA.out.ev jW).eight;clear jW TL VN))
 obtain⟨wB,hwB⟩:∃wB,wB=w3.setCell ⟨w1.heap.size,4,none⟩ (.slice X1.A X1.l.length X1.cap):=⟨_,rfl⟩
 rw[<-hwB];have hbu:But [w1.heap.size] w3 wB:=by rw[hwB];exact But.setCell _ _ aj
 have HGK:Hid (FgK w0 w1.heap.size X1 .nil wB):=zq ⟨by rw[hwB];have:=(BPA.out.ev E3.out).set 4 (.slice X1.A X1.l.length X1.cap);simpa[dK.nil] using this,Ow.nil_ _,(Ef avm.out hbu (λk hk=>by simp at hk;omega)).low hpA,(FA.out.trans E3.out).box hbu F1.out.size,F1.out.size⟩;clear hwB hbu p0 p1 p2 p3 p4 p5 p6 p7 z0 z1 z2 z3 z4 z5 z6 z7 c0 c1 c2 c3 c4 y3;have n3:((k1:Int)+1+2-1).toNat=k1+2:=ae;go_wp2
 go_loopw [7,8,14] (λyv av iv wr=>∃(j:Nat) (ag:dK Ag) (e:Er),yv=.int .i64 e.1/\av=.int .i64 (e.2:Int)/\iv=.int .i64 ((j:Int)+2)/\j<=k1/\Hid (FaI al N1.2 j ag.l e)/\Hid (FgK w0 w1.heap.size X1 ag wr)) (λ_ _ iv _=>(k1+2)-(intOf iv).toNat)
 case atStart=>exact⟨0,.nil,N1.2,rfl,rfl,rfl,aDl _,zq (FaI.start _ _ HZ1.out),HGK⟩
 case round=>
  obtain⟨j5,ag,e5,rfl,rfl,rfl,hj,HI,HK⟩:=hrel;have aiU:=F1.out.size;have aiV:=HR.out.lt;by_cases hcont:j5<k1/\e5.1=0
  ·obtain⟨hlt,he⟩:=hcont;have hee:=(HI.out.ok he).1;subst hee;obtain⟨y,hy⟩:∃y,al[j5]?=some y:=⟨_,aDo (by rw[amw.out];exact hlt)⟩
   have HY:=zq hy;have k3:=HKA.out j5 y hy _ (HE.out.trans HK.out.ev);obtain⟨⟨q0,q1,q2,q3,q4,q5,q6,q7⟩,_⟩:=HK.out.box.eight;obtain⟨AR,hAR⟩:∃AR,AR=WW y.t:=⟨_,rfl⟩
   have amx:=Ip.out j5 y hy;rw[<-hAR]at amx;have avo:=zq amx;have HNX:Hid (FaI al N1.2 (j5+1) (ag.l++[AR.1]) AR.2):=zq (by rw[hAR];exact HI.out.next hy);have hsw:=HK.out.ev.size;have hpl:ag.l.length<=10000:=by have:=HI.out.len;omega
   have amn:=HK.out.box.lt;have hbr:b<wr.heap.size:=aDf hbl (HE.out.trans HK.out.ev).size;have t2:((j5:Int)+2).toNat=j5+2:=ae;have i1:(0:Int)<=(j5:Int)+2:=ae;have i2:(j5:Int)+2<(k1:Int)+1+2-1:=ae;have i3:(j5:Int)+2<(k1:Int)+1+2:=ae;have hBQ:=Bx.new 161 #[.string ⟨#[]⟩,.string ⟨#[]⟩,.string ⟨#[]⟩] wr;clear hy hAR amx;go_upto_region 50 with (first
    | ((with_reducible refine(avo.out _ ((HE.out.trans HK.out.ev).trans aC)).mono ?_);rintro r_ w6 ⟨rfl,uK⟩;have E6:=zq ((Ev.alloc wr _).trans uK);have Nu:=zq (hBQ.ev uK);obtain⟨⟨u0,u1,u2⟩,v0,v1,v2⟩:=Nu.out.three;clear uK hBQ q0 q1 q2 q3 q4 q5 q6 q7))
   rw[bM];obtain⟨w8,TR⟩:∃w8,w8=kL wr.heap.size (.string ⟨AR.1.1.toArray⟩) (.string ⟨AR.1.2.1.toArray⟩) (.string ⟨AR.1.2.2.toArray⟩) w6:=⟨_,rfl⟩
   rw[<-TR];have TK:=bP wr.heap.size (.string ⟨AR.1.1.toArray⟩) (.string ⟨AR.1.2.1.toArray⟩) (.string ⟨AR.1.2.2.toArray⟩) w6;have Gy:=Nu.out.kL (.string ⟨AR.1.1.toArray⟩) (.string ⟨AR.1.2.1.toArray⟩) (.string ⟨AR.1.2.2.toArray⟩);have Bf:=E6.out.box TK (aC8 _);rw[<-TR]at Gy Bf;have II:=zq (HK.out.up Bf);obtain⟨⟨q0,q1,q2,q3,q4,q5,q6,q7⟩,_⟩:=II.out.box.eight;clear u0 u1 u2 v0 v1 v2;obtain⟨⟨u0,u1,u2⟩,_⟩:=Gy.three;have amq:=Bf.size;have amr:=II.out.box.lt;have ams:=Gy.lt;clear TR TK Gy Bf
   go_wp2_with (first
    | ((show wpList _ _ _ (⟨some 189,_,_,_,_,_⟩::_) _ _);refine aQ (o:=⟨some 189,_,_,_,_,_⟩) rfl 32 (.tmp 186) (.tmp 188) rfl zy underlying32 Tryz.afS rfl rfl (II.out.up aC).own (some ⟨_,0,none⟩) 1 1 [AR.1] rfl (Sl.one (et:=161) zy _ AR.1 _ rfl) (by simp;omega) (by simp;omega) (by simp;omega) ?_;intro v2 w7 iq;have Um:=zq iq;obtain⟨A2,cap2,rfl,hF7⟩:=FgK.next (II.out.up aC) Um.out;obtain⟨⟨o0,o1,o2,o3,o4,o5,o6,o7⟩,t0,t1,t2_,t3,t4,t5,t6,t7⟩:=((II.out.up aC).after Um.out).eight;have HF7:=zq hF7;clear hF7 iq))
   go_roundw
   case rel=>exact⟨j5+1,⟨A2,cap2,ag.l++[AR.1]⟩,AR.2,rfl,rfl,by go_num,ae,HNX,HF7⟩
   case measure=>simp[intOf];omega
  have hex:e5.1=0->j5=al.length:=λh0=>by have:=amw.out;by_cases hjk:j5<k1;exact absurd ⟨hjk,h0⟩ hcont;omega
  have hfin:=HI.out.fin hex;have TN:Hid (dD PT=iy e5 (aX ([z].map λv=>dD v.t))):=zq (by rw[aqH.out,hfin.1]);have Nq:Hid ((dD PT).1=0->pPlan PT=.mk 7 [] [] [] X1.l [] ag.l ([z].map λv=>pPlan v.t)):=zq (λh=>by
   rw[aqH.out,DT,DT]at h;have h5:e5.1=0:=by rw[<-hfin.1,DT];exact h.1
   rw[avk.out,hfin.2 h5,avl.out,rQ.out h.1.1])
  have HZ5:Hid (e5.1=0->e5=(0,0)):=zq λh=>(HI.out.ok h).1;have WY:=zq HK.out.done;have Jt:=zq hex;obtain⟨wo,rfl⟩:∃wo:ak,wo=wr:=⟨_,rfl⟩
  have i1:(0:Int)<=(j5:Int)+2:=ae;have i4:(0:Int)<=(k1:Int)+1+2-1:=ae;have i5:(k1:Int)+1+2-1<=(k1:Int)+1+2:=ae;have i6:(k1:Int)+1+2-1<=(oO:Int)+1+2:=ae;have i7:¬(oO+1+2=k1+2):=ae;clear hfin hex HI HK;by_cases hlt:(j5:Int)+2<(k1:Int)+1+2-1;have he5:(e5.1==0)=false:=aC7.2 λh=>by have:=Jt.out h;have:=amw.out;omega
  exact aFl;exact aFl
def yt(s:By):aem:=if (fP s).2.1==0 then pFrom (fP s).1 else (uN,(fP s).2.1,(fP s).2.2)
theorem Y9(s:By)(h:(yt s).2.1=0):WrP (yt s).1:=by unfold yt at h|-;by_cases hc:(fP s).2.1=0;rw[if_pos (by simp[hc])]at h|-;obtain⟨h1,h2,h3⟩:=U2 s hc;unfold pFrom at h|-;by_cases he:(dD (fP s).1).1=0;rw[if_pos (by simp[he])]at h|-;by_cases hl:600<(printS (aI (pPlan (fP s).1))).length;rw[if_pos hl]at h;exact absurd h ai;rw[if_neg hl];obtain⟨h4,h5⟩:=RX h1 h3 he;refine⟨h4,?_,by show (printS (aI (pPlan (fP s).1))).length<=600;omega⟩;show (aI (pPlan (fP s).1)).deep<=12;rw[h5,MG];exact h2;rw[if_neg (by simpa using he)]at h;exact absurd h he;rw[if_neg (by simpa using hc)]at h;exact absurd h hc
theorem afT(s:By):(fP s).1.every dY=true:=(aeg s).1
theorem age(N:Nat):∀(m:M) (b0:Nat) (w:ak),m.dep<=N->Lies b0 [] w m->m.t.every dY=true->m.t.size<=10000->m.t.every (noT EE)=true->
  Calls ax 49 #[.agg ↑m] w (gJ (yL m.t) w):=by
 induction N with
 | zero=>
  intro m b0 w hd;rw[M.vC]at hd;omega
 | succ N ih=>
  intro m b0 w hd hL hfair hsz hno
  cases hf:h_ m.t
  exact Wj m b0 w hL hf;obtain⟨x,q,hq⟩:∃x q,m.kids=x::q:=by
   cases hk:m.kids with
   | nil=>
    rw[zH,hk]at hf;simp at hf
   | cons x q=>exact⟨x,q,rfl⟩
  have hih:∀y∈q,∀w1,Ev w w1->Calls ax 49 #[.agg ↑y] w1 (gJ (yL y.t) w1):=λy hy w1 hE=>by
   have WG:y∈m.kids:=by rw[hq];exact aDc _ hy
   have hqs:=yc hq hy hfair hsz;exact ih y b0 w1 (by have:=M.uH WG;omega) ((hL.kid y WG).ev hE) hqs.1 hqs.2 (SV hno WG).1
  have hk:fG x.s≠0:=λh0=>by
   have:=(x8 hq hf).2.2.1;rw[h0]at this
   cases this
  have hxb:=(SV hno (show x∈m.kids by rw[hq];exact aC')).2;rcases Iz hk with hs|hs|hs|hs|hs|hs|hs;exact Tt m b0 w hL hfair hsz hf x q hq hs hih;rw[hs]at hxb;exact absurd hxb ai;rw[hs]at hxb;exact absurd hxb ai;rw[hs]at hxb;exact absurd hxb ai;exact Tq m b0 w hL hfair hsz hf x q hq hs hih;rw[hs]at hxb;exact absurd hxb ai;exact Tu m b0 w hL hfair hsz hf x q hq hs hih
theorem agf(s:By)(w:ak)(hs:s.length<=100000)(hno:(fP s).1.every (noT EE)=true)(hin:(pPlan (fP s).1).inK qL=true)(hc:(fP s).2.1=0)(he:(dD (fP s).1).1=0)(hl:¬600<(printS (aI (pPlan (fP s).1))).length):
  Calls ax 26 #[↑s] w (gJ (yt s) w):=by
 have HRR:=zq (λw1=>ahG ⟨s.toArray⟩ w1 hs);obtain⟨w0,hw0,aV,hB0,hs0⟩:=SA w;have um:=zq hB0;have cO:=zq aV;have hg:=hB0.lt;have hR:yt s=(pPlan (fP s).1,0,0):=by unfold yt pFrom;rw[if_pos (by simp[hc]),if_pos (by simp[he]),if_neg hl]
 have hF:yL (fP s).1=(pPlan (fP s).1,0,0):=by unfold yL;rw[if_pos he]
 rw[hR];obtain⟨h1,h2,h3⟩:=U2 s hc;have HFA:=zq (afT s);have Kw:=zq h3;have hcb:((fP s).2.1==0)=true:=by simp[hc]
 unfold Jl at HRR;simp only at HRR;rw[hc]at HRR;unfold gJ;obtain⟨TT,hTT⟩:∃TT,TT=(fP s).1:=⟨_,rfl⟩
 obtain⟨hwr,_⟩:=RX h1 h3 he;have hgood:=hwr.good;have hz6:=hwr.size;have hlen:=hwr.len;obtain⟨PS,JB⟩:∃PS,PS=printS (aI (pPlan (fP s).1)):=⟨_,rfl⟩
 rw[<-JB]at hl;rw[<-hTT]at HFA Kw hF hgood hz6 hlen JB|-;rw[<-hTT]at hno hin;have HNO:=zq hno;have WS:=zq hin;have HTT:=zq hTT;have HF:=zq hF;have HG:=zq hgood;have HZ6:=zq hz6;have vU:=zq hlen;have Jw:=zq JB;have hpl:PS.length<=1000000:=by rw[JB];exact hlen
 have hsz:=fJ PS;have Uj:¬((600:Int)<(PS.length:Int)):=ae;clear hno hin aV hB0 hs hc he hR hs0 h1 h2 h3 hcb hTT hF hwr hgood hz6 hlen JB hl;go_enter func26,ntmps26
 go_wp2_with (first
  | ((with_reducible refine(HRR.out _).mono ?_);rintro r w1 ⟨m,rfl,hmt,hmL,aJ⟩;have hmt:=hmt.trans HTT.out.symm;have E1:=zq (cO.out.trans aJ);have F1:=zq aJ;have hBT:=Bx.new 109 ↑m w1;obtain⟨⟨k0,k1,k2,k3,k4⟩,_⟩:=hBT.five;have hFR:=age m.dep m w0.heap.size (w1.alloc (.cells ↑m 109)) (aC8 _) (hmL.ev aC) (by rw[hmt];exact HFA.out) (by rw[hmt];have:=Kw.out;omega) (by rw[hmt];exact HNO.out);rw[hmt,HF.out]at hFR;have HFR:=zq hFR;clear hmt hmL aJ hFR hBT)
  | ((with_reducible refine(HFR.out).mono ?_);rintro r w2 ⟨x,rfl,TU,Y7,dJ⟩;have TU:x.p=pPlan TT:=TU;have HXP:=zq TU;have HXQ:=zq Y7;have E2:=zq ((Ev.alloc w1 _).trans dJ);have hg2:w.heap.size<w2.heap.size:=aDf hg (F1.out.trans E2.out).size;have hBX:=Bx.new 35 ↑x w2;have ZT:=zq hBX;obtain⟨⟨q0,q1,q2,q3,q4,q5,q6,q7⟩,_⟩:=hBX.eight;have hT9:=afE x.dep x _ (w2.alloc (.cells ↑x 35)) (aC8 _) (Y7.ev aC) (by rw[TU];exact WS.out) (by rw[TU];exact HG.out) (by rw[TU];have:=HZ6.out;omega) (by rw[TU];exact vU.out);unfold zT at hT9;rw[TU]at hT9;unfold pv dK.v PM.kv at hT9;have hT9:=hT9;rw[<-Jw.out]at hT9;have HT9:=zq hT9;clear TU Y7 dJ hT9 hBX)
  | ((with_reducible refine(HT9.out).mono ?_);rintro r w3 ⟨rfl,jW⟩;have E3:=zq ((Ev.alloc w2 _).trans jW);have F3:=zq jW;have HR3:=zq (um.out.ev ((F1.out.trans E2.out).trans E3.out));obtain⟨⟨r0,r1,r2,r3,r4,r5,r6,r7⟩,s0,s1,s2,s3,s4,s5,s6,s7⟩:=HR3.out.eight;clear q0 q1 q2 q3 q4 q5 q6 q7;obtain⟨⟨q0,q1,q2,q3,q4,q5,q6,q7⟩,_⟩:=(ZT.out.ev jW).eight;clear jW))
 (try simp only[Exit.inBlock,Exit.then]);rw[gI];obtain⟨f1,f2⟩:=EF (aC8 w.heap.size) ((E1.out.trans E2.out).trans E3.out) HR3.out ↑x.kind ↑x.name (.slice x.ex.A x.ex.l.length x.ex.cap) (.slice x.co.A x.co.l.length x.co.cap) (.slice x.lf.A x.lf.l.length x.lf.cap) (.slice x.rt.A x.rt.l.length x.rt.cap) (.slice x.ag.A x.ag.l.length x.ag.cap) (.slice x.A x.kids.length x.cap);refine aFe (aN rfl _ _ _ _ _ rfl f1 underlying35 rfl Tryz.iI) rfl ?_;refine⟨x,rfl,HXP.out,?_,f2⟩;exact(vI ((HXQ.out.ev aC).ev F3.out) (fB _ _ _ _ _ _ _ _ _ _) (λk hk=>by simp at hk;simp;have:=E1.out.size;omega)).low (by simp;have:=E1.out.size;omega)
end Go.Proofs.YtbgmhhfjkkfhpaaGreatDoor
