import Derived.StillTailTactics
import Derived.Test.YtpbfokkocaemlaaGreatDoorZ28P
set_option linter.unusedVariables false
set_option maxRecDepth 100000
set_option maxHeartbeats 64000000
namespace Go.Proofs.YtpbfokkocaemlaaGreatDoor
open Go.RowKit
open Go.Lib renaming hid → zq
open Go renaming World → ak
open Go renaming Value → au
open Go.Proofs.Tryz renaming prog → ax
variable {U:Prop}
open Go.Proofs.Tryz
theorem WY(lf rt:List By)(a b:List C)(r:CR)(i:Nat):(iR lf rt a b r i).cols=r.cols:=by unfold iR;simp only;split;rw[CR.Bl,CR.Bl,CR.oC,CR.oC];rw[CR.jC,CR.Bl,CR.Bl,CR.oC,CR.oC]
theorem WZ(rt:List By)(r:CR)(c:C):(gQ rt r c).cols.length<=r.cols.length+1:=by unfold gQ;split;omega;rw[CR.nP];simp
theorem ayY(h:U:=by clear hne;go_enter func35,ntmps35;exact ay2):U:=h
theorem W9(base:Nat)(va:au)(a b:List C)(lf rt:List By)(LA RA B:Option Addr)(ln yB rn DF m LC:Nat)(w:ak)(h:Ow 50 2 dM base w va a)(hb:Cs w B m LC b)(hl:Ss w LA ln yB lf)(hr:Ss w RA rn DF rt)(hbl:∀ad,B=some ad->ad.block<w.heap.size/\ad.block∉foot va)(jg:∀ad,LA=some ad->ad.block<w.heap.size/\ad.block∉foot va)(hrl:∀ad,RA=some ad->ad.block<w.heap.size/\ad.block∉foot va)(hbase:base<=w.heap.size)(JW:a.length<=1000)(hbn:b.length<=1000)(hln:lf.length<=10000)(hne:¬(lf.length=rt.length/\lf.length≠0)):
  Calls ax 35 #[.slice LA ln yB,.slice RA rn DF,va,.slice B m LC] w (kE base va (lT lf rt a b) w):=by
 obtain⟨A,cap,rfl,hC,xJ⟩:∃A cap,va=.slice A a.length cap/\Cs w A a.length cap a/\∀ad,A=some ad->ad.block<w.heap.size:=by exact aB2
 have Jh:=qA h;have hle:=hC.le;have hmx:=hC.max;have ah5:=hb.le;have afa:=hb.max;have ak4:=hl.le;have ak5:=hl.max;have ak6:=hr.le;have ak7:=hr.max;have hL1:=hl.len;have hR1:=hr.len;have hB1:=hb.len;obtain⟨w0,hw0,aV,Ji,hs0⟩:=WM w;have Lu:=gz.new (h.ev aV) (λk hk=>by have:=Jh k hk;omega);obtain⟨wa,zy⟩:∃wa,wa=w0.alloc (.cells #[.slice A a.length cap,.int .i64 0,.string ⟨#[]⟩] 58):=⟨_,rfl⟩
 have aN:Ev w0 wa:=by rw[zy];exact Ev.alloc _ _
 rw[<-zy]at Lu;have jV:=zq (Ji.ev aN);have Qg:=zq (aV.trans aN);have WI:=zq Jh;have Yj:w0.heap.size=w.heap.size+1:=hs0;have kT:=zq Yj;have HF0:=zq (ou w0.heap.size base (CR.of a) (.slice A a.length cap) 23 ⟨#[]⟩ wa Lu);have HU:Hid (lT lf rt a b=(CR.of a).fail 23 ⟨#[]⟩):=zq (by unfold lT;rw[if_neg hne]);rw[HU.out];rw[hL1,hR1]at hne;generalize a.length=na at*;clear h hb hl hr hC Lu Ji aV aN Jh hs0 Yj xJ hbl jg hrl hL1 hR1 hB1 hbase;by_cases hm:ln=rn;subst hm;obtain rfl:ln=0:=by by_cases h0:ln=0;exact h0;exact absurd ⟨rfl,h0⟩ hne
 exact ayY;have i1:¬((ln:Int)=(rn:Int)):=ae;have i2:((ln:Int)==(rn:Int))=false:=awy.2 i1;have i3:((ln:Int) !=(rn:Int))=true:=by simp;omega
 have i4:(ln==rn)=false:=awy.2 hm;have i5:(ln !=rn)=true:=by simp[hm]
 exact ayY
theorem ZQ(base:Nat)(va:au)(a b:List C)(lf rt:List By)(LA RA B:Option Addr)(ln yB rn DF m LC:Nat)(w:ak)(h:Ow 50 2 dM base w va a)(hb:Cs w B m LC b)(hl:Ss w LA ln yB lf)(hr:Ss w RA rn DF rt)(hbl:∀ad,B=some ad->ad.block<w.heap.size/\ad.block∉foot va)(jg:∀ad,LA=some ad->ad.block<w.heap.size/\ad.block∉foot va)(hrl:∀ad,RA=some ad->ad.block<w.heap.size/\ad.block∉foot va)(hbase:base<=w.heap.size)(JW:a.length<=1000)(hbn:b.length<=1000)(hln:lf.length<=10000)(hne:lf.length=rt.length/\lf.length≠0):
  Calls ax 35 #[.slice LA ln yB,.slice RA rn DF,va,.slice B m LC] w (kE base va (lT lf rt a b) w):=by
 obtain⟨A,cap,rfl,hC,xJ⟩:∃A cap,va=.slice A a.length cap/\Cs w A a.length cap a/\∀ad,A=some ad->ad.block<w.heap.size:=by exact aB2
 have Jh:=qA h;have hle:=hC.le;have hmx:=hC.max;have ah5:=hb.le;have afa:=hb.max;have ak4:=hl.le;have ak5:=hl.max;have ak6:=hr.le;have ak7:=hr.max;have hL1:=hl.len;have hR1:=hr.len;have hB1:=hb.len;obtain⟨w0,hw0,aV,Ji,hs0⟩:=WM w;have Lu:=gz.new (h.ev aV) (λk hk=>by have:=Jh k hk;omega);obtain⟨wa,zy⟩:∃wa,wa=w0.alloc (.cells #[.slice A a.length cap,.int .i64 0,.string ⟨#[]⟩] 58):=⟨_,rfl⟩
 have aN:Ev w0 wa:=by rw[zy];exact Ev.alloc _ _
 rw[<-zy]at Lu;have HR0:=zq Lu;have jV:=zq (Ji.ev aN);have Qg:=zq (aV.trans aN);have WI:=zq Jh;have Yj:w0.heap.size=w.heap.size+1:=hs0;have kT:=zq Yj;have AP:Hid (∀w1,But [w0.heap.size] wa w1->Cs w1 A a.length cap a):=zq λw1 hb1=>(hC.ev (aV.trans aN)).but hb1 λad e=>by have:=xJ ad e;simp;omega
 have uQ:Hid (∀w1,But (w0.heap.size::foot (.slice A a.length cap)) wa w1->Cs w1 B m LC b):=zq λw1 hb1=>(hb.ev (aV.trans aN)).but hb1 λad e hm=>by have:=hbl ad e;rcases awN.1 hm with h1|h1;omega;exact this.2 h1
 have HSL:Hid (∀w1,But (w0.heap.size::foot (.slice A a.length cap)) wa w1->Ss w1 LA ln yB lf):=zq λw1 hb1=>(hl.ev (aV.trans aN)).but hb1 λad e hm=>by have:=jg ad e;rcases awN.1 hm with h1|h1;omega;exact this.2 h1
 have HSR:Hid (∀w1,But (w0.heap.size::foot (.slice A a.length cap)) wa w1->Ss w1 RA rn DF rt):=zq λw1 hb1=>(hr.ev (aV.trans aN)).but hb1 λad e hm=>by have:=hrl ad e;rcases awN.1 hm with h1|h1;omega;exact this.2 h1
 have HW:Hid (∀w1,But [w0.heap.size] wa w1->But (w0.heap.size::foot (.slice A a.length cap)) wa w1):=zq λw1 h1=>h1.wide λk hk=>.inl (by simp at hk;subst hk;exact awL ..);have Ij:=zq (λs r w1 (hR:gz w0.heap.size base r (.slice A a.length cap) w1) (hb1:But [w0.heap.size] wa w1)=>Ja w0.heap.size base r (.slice A a.length cap) a A a.length cap s w1 hR (AP.out w1 hb1));have HFB:=zq (λs r w1 (hR:gz w0.heap.size base r (.slice A a.length cap) w1) (hb1:But [w0.heap.size] wa w1)=>Ja w0.heap.size base r (.slice A a.length cap) b B m LC s w1 hR (uQ.out w1 (HW.out w1 hb1)));have OH:=zq (λr nm w1 (hR:gz w0.heap.size base r (.slice A a.length cap) w1)=>ou w0.heap.size base r (.slice A a.length cap) 22 nm w1 hR);have HOL:=zq (λi r s w1 (hi:i<=lf.length) (hR:gz w0.heap.size base r (.slice A a.length cap) w1) (hb1:But [w0.heap.size] wa w1)=>X0 w0.heap.size base r (.slice A a.length cap) (lf.take i) LA i yB s w1 hR ((HSL.out w1 (HW.out w1 hb1)).to i (by rw[<-hL1];exact hi)));have HOR:=zq (λi r s w1 (hi:i<=rt.length) (hR:gz w0.heap.size base r (.slice A a.length cap) w1) (hb1:But [w0.heap.size] wa w1)=>X0 w0.heap.size base r (.slice A a.length cap) (rt.take i) RA i DF s w1 hR ((HSR.out w1 (HW.out w1 hb1)).to i (by rw[<-hR1];exact hi)));have HAD:=zq (λr v nm k w1 (hR:gz w0.heap.size base r v w1) (MV:r.cols.length<=100000) (hb1:But (w0.heap.size::foot (.slice A a.length cap)) wa w1)=>Ql w0.heap.size base r v nm k w1 hR MV (by have:=hb1.size;have:=(aV.trans aN).size;omega));have HMR:Hid (∀(v:au) w1 w2,But (w0.heap.size::foot (.slice A a.length cap)) wa w1->fO wa (.slice A a.length cap) v->But (w0.heap.size::foot v) w1 w2->But (w0.heap.size::foot (.slice A a.length cap)) wa w2):=zq λv w1 w2 h1 h2 h3=>h1.trans h3 λx hx=>by rcases awN.1 hx with rfl|hx;exact .inl (awL ..);rcases h2 x (aG.1 hx) with h4|h4;exact .inl (awK _ (aG.2 h4));exact .inr h4
 have qV:Hid (∀(v v2:au) w1,But (w0.heap.size::foot (.slice A a.length cap)) wa w1->fO wa (.slice A a.length cap) v->fO w1 v v2->fO wa (.slice A a.length cap) v2):=zq λv v2 w1 h1 h2 h3 g hg=>by rcases h3 g hg with h4|h4;exact h2 g h4;exact .inr (aw0 h1.size h4)
 have HGN:Hid (w.heap.size∉w0.heap.size::foot (.slice A a.length cap)):=zq λhm=>by rcases awN.1 hm with h1|h1;omega;have:=Jh _ h1;omega
 have ao4:ln=rn:=by rw[<-hL1,<-hR1];exact hne.1
 have ao5:ln≠0:=by rw[<-hL1];exact hne.2
 obtain⟨R1,afh⟩:∃R1,R1=(List.range lf.length).foldl (iR lf rt a b) (CR.of a):=⟨_,rfl⟩
 obtain⟨R2,aie⟩:∃R2,R2=b.foldl (gQ rt) R1:=⟨_,rfl⟩
 have HU:Hid (lT lf rt a b=R2.limit):=zq (by unfold lT;rw[if_pos hne,<-afh,<-aie]);rw[HU.out];have gG:=zq afh;have jF:=zq aie;have ak1:R1.cols.length<=1000:=by have h1:=rM (iR lf rt a b) 0 (λr i=>by rw[WY];omega) (List.range lf.length) (CR.of a);have h3:(CR.of a).cols.length=a.length:=rfl;rw[<-afh]at h1;omega
 have qQ:Hid (∀k,((b.take k).foldl (gQ rt) R1).cols.length<=2000):=zq λk=>by
  have h1:=rM (gQ rt) 1 (WZ rt) (b.take k) R1;have h2:(b.take k).length<=b.length:=by rw[axa];omega
  omega
 unfold Dk at HAD;have uf:=zq hL1;have HRL:=zq hR1;have TV:=zq hB1;obtain⟨na,DX⟩:∃na,na=a.length:=⟨_,rfl⟩
 simp only[<-DX]at hle AP uQ HSL HSR HW Ij HFB OH HOL HOR WI HR0 HAD HMR qV HGN zy|-;subst ao4;clear h hb hl hr hC Lu Ji aV aN Jh hs0 Yj xJ hbl jg hrl hL1 hR1 hB1 hbase hne afh aie DX;have z1:(ln==0)=false:=awy.2 ao5;have z2:((ln:Int)==0)=false:=awy.2 ae;go_enter func35,ntmps35;go_upto_region 2 with fail
 rw[<-zy];clear zy;go_wp2
 go_loopw [31] (λiv wr=>∃(k:Nat),iv=↑k/\k<=ln/\Hid (gz w0.heap.size base ((List.range k).foldl (iR lf rt a b) (CR.of a)) (.slice A na cap) wr)/\Hid (But [w0.heap.size] wa wr)) (λiv _=>ln-(intOf iv).toNat)
 case atStart=>exact⟨0,rfl,awJ _,HR0,zq (But.refl _ _)⟩
 case round=>
  obtain⟨k,rfl,hk,HR,HB⟩:=hrel;by_cases hlt:k<ln
  ·obtain⟨l,hl⟩:=(HSL.out wr (HW.out wr HB.out)).at hlt;obtain⟨s,hs⟩:=(HSR.out wr (HW.out wr HB.out)).at hlt;obtain⟨bl,ol,rfl,l0⟩:=Ss.qZ (HSL.out wr (HW.out wr HB.out)) hl;obtain⟨br,or_,rfl,s0⟩:=Ss.qZ (HSR.out wr (HW.out wr HB.out)) hs;have O8:Hid (∀w1,But [w0.heap.size] wa w1->w1.cell? ⟨bl,ol+k,none⟩=some ↑l/\w1.cell? ⟨br,or_+k,none⟩=some ↑s):=zq λw1 hb1=>by
    obtain⟨_,_,e1,h1⟩:=Ss.qZ (HSL.out w1 (HW.out w1 hb1)) hl;injection e1 with e1
    injection e1 with e1 e2 _
    subst e1 e2;obtain⟨_,_,e1,h2⟩:=Ss.qZ (HSR.out w1 (HW.out w1 hb1)) hs;injection e1 with e1
    injection e1 with e1 e2 _
    subst e1 e2;exact⟨h1,h2⟩
   obtain⟨r0,hr0⟩:∃r0,r0=(List.range k).foldl (iR lf rt a b) (CR.of a):=⟨_,rfl⟩
   have HST:Hid ((List.range (k+1)).foldl (iR lf rt a b) (CR.of a)=if dL a (aY l)=dL b (aY s) then ((((r0.find a (aY l)).find b (aY s)).once (lf.take k) (aY l)).once (rt.take k) (aY s)) else ((((r0.find a (aY l)).find b (aY s)).once (lf.take k) (aY l)).once (rt.take k) (aY s)).fail 22 (aY l)):=zq (by
    rw[tq,<-hr0];unfold iR;simp only;rw[show lf.getD k []=l by rw[axD,hl];rfl,show rt.getD k []=s by rw[axD,hs];rfl])
   rw[<-hr0]at HR;have K1:=Ij.out (aY l) r0 wr HR.out HB.out;have qg:k<=lf.length:=by rw[uf.out];exact hk
   have VN:k<=rt.length:=by rw[HRL.out];exact hk
   unfold aY at K1;have K1:=zq K1;have i1:(0:Int)<=(k:Int):=ae;have i2:(k:Int)<(ln:Int):=ae;have i3:(k:Int)<=(yB:Int):=ae;have i4:(k:Int)<=(DF:Int):=ae;have Gt:=zq qg;have HKR:=zq VN;clear hl hs hr0 qg VN;go_upto_region 10 with (first
    | ((with_reducible refine(K1.out).mono ?_);rintro r_ w2 ⟨rfl,hR2,hB2⟩;have ak2:=zq hR2;have FH:=zq (HB.out.then hB2);have K2:=HFB.out (aY s) _ w2 hR2 (HB.out.then hB2);unfold aY at K2;have K2:=zq K2;clear l0 s0;obtain⟨l0,s0⟩:=O8.out w2 (HB.out.then hB2);clear hR2 hB2)
    | ((with_reducible refine(K2.out).mono ?_);rintro r_ w3 ⟨rfl,O4,qU⟩;have afg:=zq O4;have EP:=zq (FH.out.then qU);clear l0 s0;obtain⟨l0,s0⟩:=O8.out w3 (FH.out.then qU);clear O4 qU))
   go_still_tail 7,ah
   generalize hwd:({heap:=w3.heap,tape:=w3.tape,drawn:=w3.drawn+1,os:=w3.os,output:=w3.output}:ak)=wd;have mO:Ev w3 wd:=hwd▸Ev.drew w3;have K3:=HOL.out k _ (aY l) wd Gt.out (afg.out.ev mO) (EP.out.then (But.aW mO));unfold aY at K3;have K3:=zq K3;have HBd:=zq (EP.out.then (But.aW mO));clear l0 s0;obtain⟨l0,s0⟩:=O8.out wd HBd.out;clear hwd mO
   go_wp2_with (first
    | ((with_reducible refine(K3.out).mono ?_);rintro r_ w4 ⟨rfl,hR4,FK⟩;have ao7:=zq hR4;have HB4:=zq (HBd.out.then FK);clear l0 s0;obtain⟨l0,s0⟩:=O8.out w4 (HBd.out.then FK);clear hR4 FK))
   go_still_tail 7,ah
   generalize hwd:({heap:=w4.heap,tape:=w4.tape,drawn:=w4.drawn+1,os:=w4.os,output:=w4.output}:ak)=we;have hEe:Ev w4 we:=hwd▸Ev.drew w4;have K4:=HOR.out k _ (aY s) we HKR.out (ao7.out.ev hEe) (HB4.out.then (But.aW hEe));unfold aY at K4;have K4:=zq K4;have HBe:=zq (HB4.out.then (But.aW hEe));clear l0 s0 hwd hEe;unfold aY at HST;by_cases qW:dL a ⟨l.toArray⟩=dL b ⟨s.toArray⟩
   ·have hb1:(dL a ⟨l.toArray⟩==dL b ⟨s.toArray⟩)=true:=by simp[qW]
    have hb2:(dL a ⟨l.toArray⟩ !=dL b ⟨s.toArray⟩)=false:=by simp[qW]
    have HKK:=zq qW;clear qW
    go_wp2_with (first
     | ((with_reducible refine(K4.out).mono ?_);rintro r_ w5 ⟨rfl,hR5,MX⟩;have ao9:=zq hR5;have MZ:=zq (HBe.out.then MX);clear hR5 MX))
    go_roundw
    case rel=>exact⟨k+1,by go_num,ae,zq (by rw[HST.out,if_pos HKK.out];exact ao9.out),MZ⟩
    case measure=>simp[intOf];omega
   have hb1:(dL a ⟨l.toArray⟩==dL b ⟨s.toArray⟩)=false:=awy.2 qW;have hb2:(dL a ⟨l.toArray⟩ !=dL b ⟨s.toArray⟩)=true:=by simp[qW]
   have HKK:=zq qW;clear qW
   go_wp2_with (first
    | ((with_reducible refine(K4.out).mono ?_);rintro r_ w5 ⟨rfl,hR5,MX⟩;have MZ:=zq (HBe.out.then MX);have K5:=zq (OH.out _ ⟨l.toArray⟩ w5 hR5);obtain⟨l0,s0⟩:=O8.out w5 (HBe.out.then MX);clear hR5 MX)
    | ((with_reducible refine(K5.out).mono ?_);rintro r_ w6 ⟨rfl,hR6,wG⟩;have ao_:=zq hR6;have qF:=zq (MZ.out.then wG);clear hR6 wG))
   go_roundw
   case rel=>exact⟨k+1,by go_num,ae,zq (by rw[HST.out,if_neg HKK.out];exact ao_.out),qF⟩
   case measure=>simp[intOf];omega
  obtain rfl:k=ln:=ae;have HRa:Hid (gz w0.heap.size base ((b.take 0).foldl (gQ rt) R1) (.slice A na cap) wr):=zq (by rw[gG.out,uf.out];exact HR.out);obtain⟨wo,rfl⟩:∃wo:ak,wo=wr:=⟨_,rfl⟩
  have HBW:=zq (HW.out wo HB.out);go_wp2
  go_loopw [73] (λiv wr=>∃(j:Nat) (v:au),iv=↑j/\j<=m/\Hid (gz w0.heap.size base ((b.take j).foldl (gQ rt) R1) v wr)/\Hid (But (w0.heap.size::foot (.slice A na cap)) wa wr)/\Hid (fO wa (.slice A na cap) v)) (λiv _=>m-(intOf iv).toNat)
  case atStart=>exact⟨0,_,rfl,awJ _,HRa,HBW,zq (λg hg=>.inl hg)⟩
  case round=>
   obtain⟨j,v5,rfl,hj,HR5,MZ,HS5⟩:=hrel;by_cases XU:j<m
   ·obtain⟨c,hc⟩:=(uQ.out wr MZ.out).at XU;have HST:Hid ((b.take (j+1)).foldl (gQ rt) R1=if oL rt c.1 then (b.take j).foldl (gQ rt) R1 else ((b.take j).foldl (gQ rt) R1).add c.1 c.2):=zq (lU hc);obtain⟨bc,oc,rfl,a0,a1⟩:=Cs.qp (uQ.out wr MZ.out) hc;obtain⟨_,_,e1,hbc,_⟩:=(uQ.out wr MZ.out).rd ae;injection e1 with e1
    injection e1 with e1 e2 _
    subst e1 e2;have hBC:=Bx.new 50 #[.string c.1,.int .i64 c.2] wr;have HBC:=zq hBC;have c0:=hBC.cell 0;have c0:(wr.alloc (.cells #[.string c.1,.int .i64 c.2] 50)).cell? ⟨↑wr,0,none⟩=some (.string c.1):=c0;have c1:=hBC.cell 1;have c1:(wr.alloc (.cells #[.string c.1,.int .i64 c.2] 50)).cell? ⟨wr.heap.size,1,none⟩=some (.int .i64 c.2):=c1;have qF:=zq (MZ.out.then (But.aW (Ev.alloc wr (.cells #[.string c.1,.int .i64 c.2] 50))));have HR6:=zq (HR5.out.ev (Ev.alloc wr (.cells #[.string c.1,.int .i64 c.2] 50)));have K1:=Ae rt RA k DF c.1 _ (HSR.out _ qF.out);have i1:(0:Int)<=(j:Int):=ae;have i2:(j:Int)<(m:Int):=ae;clear hc hBC
    cases hh:oL rt c.1
    ·rw[hh]at K1 HST;have K1:=zq K1;clear hh
     go_wp2_with (first
      | ((with_reducible refine(K1.out).mono ?_);rintro r_ w2 ⟨rfl,bM⟩;have IJ:=zq (qF.out.then (But.aW bM));have HR7:=zq (HR6.out.ev bM);have K2:=HAD.out _ v5 c.1 c.2 w2 (HR6.out.ev bM) (by have:=qQ.out j;omega) (qF.out.then (But.aW bM));have K2:=zq K2;clear c0 c1;have c0:=(HBC.out.ev bM).cell 0;have c0:w2.cell? ⟨↑wr,0,none⟩=some (.string c.1):=c0;have c1:=(HBC.out.ev bM).cell 1;have c1:w2.cell? ⟨wr.heap.size,1,none⟩=some (.int .i64 c.2):=c1;clear bM)
      | ((with_reducible refine(K2.out).mono ?_);rintro r_ w3 ⟨rfl,v3,O4,qU,Fv⟩;have ZO:=zq O4;have EP:=zq (HMR.out v5 w2 w3 IJ.out HS5.out qU);have HS3:=zq (qV.out v5 v3 w2 IJ.out HS5.out Fv);clear O4 qU Fv))
     go_roundw
     case rel=>exact⟨j+1,v3,by go_num,ae,zq (by rw[HST.out];exact ZO.out),EP,HS3⟩
     case measure=>simp[intOf];omega
    rw[hh]at K1 HST;have K1:=zq K1;clear hh
    go_wp2_with (first
     | ((with_reducible refine(K1.out).mono ?_);rintro r_ w2 ⟨rfl,bM⟩;have IJ:=zq (qF.out.then (But.aW bM));have HR7:=zq (HR6.out.ev bM);clear bM))
    go_roundw
    case rel=>exact⟨j+1,v5,by go_num,ae,zq (by rw[HST.out];exact HR7.out),IJ,HS5⟩
    case measure=>simp[intOf];omega
   obtain rfl:j=m:=ae;have HT5:Hid (b.take j=b):=zq (awS (by rw[TV.out];exact awC _));rw[HT5.out,<-jF.out]at HR5;obtain⟨A1,cap1,rfl,hC1⟩:=HR5.out.form;have HLM:=zq (Em w0.heap.size base _ A1 _ cap1 wr HR5.out);clear hC1
   go_wp2_with (first
    | ((with_reducible refine(HLM.out).mono ?_);rintro r_ w4 ⟨rfl,hR2,hB2⟩;have HRF:=zq hR2;have HBF:=zq (MZ.out.then (hB2.wide λk hk=>.inl (by simp at hk;subst hk;exact awL ..)));obtain⟨⟨d0,d1,d2⟩,_⟩:=hR2.box.three;obtain⟨⟨g0,g1,g2⟩,y0,y1,y2⟩:=(jV.out.but HBF.out HGN.out).three;clear hR2 hB2))
   (try simp only[Exit.inBlock,Exit.then]);rw[dI];obtain⟨f1,f2⟩:=mF Qg.out jV.out HRF.out HBF.out HS5.out WI.out ae (by have:=kT.out;omega) (by have:=kT.out;omega);exact aB'
mutual
theorem LK{D:List Df}(hD:∀d∈D,d.2.length<=6):∀p:Pl,(ckOf D p).why=0->(ckOf D p).cols.length<=6
 | .mk k nm es cs lf rt ag l=>λh=>by
  have hl:=O9 hD l;rw[ckOf]at h|-
  cases hb:Af (ckAll D l) with
  | some r=>
   rw[hb]at h;exact absurd h (Zi hb)
  | none=>
   rw[hb]at h;simp only at h|-;have hk:∀i,(((ckAll D l).map CR.cols).getD i []).length<=6:=λi=>by
    rw[axD,axh]
    cases hi:(ckAll D l)[i]? with
    | none=>simp
    | some r=>exact hl r (awG hi) (abQ hb r (awG hi))
   generalize (ckAll D l).map CR.cols=K at*;unfold Qn at h|-;by_cases h1:k=1;rw[if_pos h1]at h|-;unfold o_ at h|-
   cases hf:D.find? (λd=>d.1==nm) with
   | none=>simp[CR.zero,CR.fail]
   | some d=>exact hD d (List.mem_of_find?_eq_some hf)
   rw[if_neg h1]at h|-;by_cases h2:k=2;rw[if_pos h2]at h|-;unfold mi;simp only;split;rw[CR.yj];exact hk 0;rw[CR.jC,CR.yj];exact hk 0;rw[if_neg h2]at h|-;by_cases h3:k=3;rw[if_pos h3]at h|-;unfold mM at h|-;rw[CR.Dl];exact(CR.Gu.1 h).2;rw[if_neg h3]at h|-;by_cases h4:k=4;rw[if_pos h4]at h|-;unfold lT at h|-;split at h;rename_i hj;rw[if_pos hj,CR.Dl];exact(CR.Gu.1 h).2;rename_i hj;rw[if_neg hj,CR.jC];exact hk 0;rw[if_neg h4]at h|-;by_cases h5:k=5
   ·rw[if_pos h5]at h|-;unfold oz;split
    ·have:∀(n:Nat) (r:CR),((List.range n).foldl (nO (K.getD 0 []) (K.getD 1 [])) r).cols=r.cols:=λn r=>by
      induction n with
      | zero=>rfl
      | succ n ih=>
       rw[tq];unfold nO;split;exact ih;rw[CR.jC];exact ih
     rw[this];exact hk 0
    rw[CR.jC];exact hk 0
   rw[if_neg h5]at h|-;by_cases h6:k=6;rw[if_pos h6];exact hk 0;rw[if_neg h6]at h|-;unfold ni at h|-;simp only at h|-;rw[CR.Dl];exact(CR.Gu.1 h).2
theorem O9{D:List Df}(hD:∀d∈D,d.2.length<=6):∀l:List Pl,∀r∈ckAll D l,r.why=0->r.cols.length<=6
 | []=>λr hr=>by rw[ckAll]at hr;cases hr
 | p::l=>λr hr h0=>by have hp:=LK hD p;have hl:=O9 hD l;rw[ckAll]at hr;rcases awN.1 hr with h1|h1;rw[h1]at h0|-;exact hp h0;exact hl r h1 h0
end
def kc(x:fH C):List au:=[.slice x.A x.l.length x.cap]
theorem ZR:Enc 1 kc:=⟨ae,λ_=>rfl,λx u hu=>by
 simp[kc]at hu;rcases hu with rfl;rfl⟩
theorem Tryz.Uw:(Tryz.prog.info? 24).map (λi=>(i.zero,i.size,i.bytes))=some (some ↑(),1,24):=ah
structure zO(w0:ak)(A:Option Addr)(cap:Nat)(Z:List (fH C))(w:ak):Prop where
 own:Ow 24 1 kc w0.heap.size w (.slice A Z.length cap) Z
 each:∀x∈Z,Ow 50 2 dM w0.heap.size w (.slice x.A x.l.length x.cap) x.l
 apart:Z.Pairwise λx y=>∀g∈foot (.slice x.A x.l.length x.cap),g∉foot (.slice y.A y.l.length y.cap)
 off:∀x∈Z,∀g∈foot (.slice x.A x.l.length x.cap),g∉foot (.slice A Z.length cap)
 ev:Ev w0 w
theorem zO.start(w0:ak):zO w0 none 0 [] w0:=⟨Ow.nil_ _,(λx hx=>by cases hx),List.Pairwise.nil,(λx hx=>by cases hx),Ev.refl _⟩
theorem zO.up{w0 w w':ak}{A:Option Addr}{cap:Nat}{Z:List (fH C)}(h:zO w0 A cap Z w)(hE:Ev w w'):zO w0 A cap Z w':=
 ⟨h.own.ev hE,λx hx=>(h.each x hx).ev hE,h.apart,h.off,h.ev.trans hE⟩
theorem zO.next{w0 wr wp wq w2:ak}{A:Option Addr}{cap:Nat}{Z:List (fH C)}{x:fH C}{v2:au}(h:zO w0 A cap Z wr)(hp:wr.heap.size<=wp.heap.size)(hE:Ev wr wq)(hx:Ow 50 2 dM wp.heap.size wq (.slice x.A x.l.length x.cap) x.l)(hA:mf 24 1 kc w0.heap.size wq (.slice A Z.length cap) (Z++[x]) v2 w2):
  ∃A2 cap2,v2=.slice A2 (Z.length+1) cap2/\zO w0 A2 cap2 (Z++[x]) w2:=by
 obtain⟨ho,hb,hs⟩:=hA;obtain⟨A2,cap2,rfl,_,_⟩:=ho.form ZR;have hl:(Z++[x]).length=Z.length+1:=aj;have hxb:∀g∈foot (.slice x.A x.l.length x.cap),wp.heap.size<=g/\g<wq.heap.size:=λg hg=>⟨(hx.lt (aG.1 hg)).1,(hx.lt (aG.1 hg)).2⟩
 have hzb:∀g∈foot (.slice A Z.length cap),g<wr.heap.size:=λg hg=>(h.own.lt (aG.1 hg)).2;have hyb:∀y∈Z,∀g∈foot (.slice y.A y.l.length y.cap),g<wr.heap.size:=λy hy g hg=>((h.each y hy).lt (aG.1 hg)).2;have hw0:=h.ev.size;have hK:∀k∈foot (.slice A Z.length cap),w0.heap.size<=k:=λk hk=>(h.own.lt (aG.1 hk)).1;refine⟨A2,cap2,by rw[hl],ho,λy hy=>?_,?_,λy hy g hg hm=>?_,((But.aW (h.ev.trans hE)).then hb).ev λk hk=>hK k hk⟩;rcases awV.1 hy with h1|h1;exact((h.each y h1).ev hE).but hb λg hg hm=>h.off y h1 g (aG.2 hg) hm;simp at h1;subst h1;refine Ow.wK (hx.but hb λg hg hm=>?_) (aw0 hw0 hp);have h2:=(hxb g (aG.2 hg)).1;have h3:=hzb g hm;omega;rw[List.pairwise_append];refine⟨h.apart,List.pairwise_singleton _ _,λy hy z hz g hg hm=>?_⟩;simp at hz;subst hz;have h2:=(hxb g hm).1;have h3:=hyb y hy g hg;omega;have hlt:g<wq.heap.size:=by rcases awV.1 hy with h1|h1;exact awU (hyb y h1 g hg) hE.size;simp at h1;subst h1;exact(hxb g hg).2
 rcases hs g (aG.1 hm) with h2|h2;rcases awV.1 hy with h1|h1;exact h.off y h1 g hg (aG.2 h2);simp at h1;subst h1;have h3:=(hxb g hg).1;have h4:=hzb g (aG.2 h2);omega;omega
theorem zO.cell{w0 w:ak}{A:Option Addr}{cap:Nat}{Z:List (fH C)}(h:zO w0 A cap Z w){i:Nat}{x:fH C}(hx:Z[i]?=some x):∃b,A=some ⟨b,0,none⟩/\b<w.heap.size/\∀w1,Ev w w1->w1.cell? ⟨b,i,none⟩=some (.slice x.A x.l.length x.cap):=by
 obtain⟨A1,cap1,hv,hS,xJ⟩:=h.own.form ZR;injection hv with h1 h2 h3
 subst h1;have hi:=(awz.1 hx).1;obtain⟨b,off,e,hlt,hc⟩:=hS.rd ae;have h5:=(xJ _ e).2.2.2.1;injection h5 with _ h6 _
 subst h6;refine⟨b,e,hlt,λw1 hE=>?_⟩;have:=hc i x hx 0 _ rfl;rw[ayj,aw2,aw3]at this;exact(hE.cell (p:=⟨_,_,none⟩) hlt).trans this
theorem xB{w wr w2:ak}{g base:Nat}{r:CR}{va v c0 c1 c2:au}(hE:Ev w wr)(hB:Bx 58 g #[c0,c1,c2] wr)(ho:Ow 50 2 dM base w2 v r.cols)(hb:But (foot va) wr w2)(hs:fO wr va v)(Jh:∀k∈foot va,w.heap.size<=k/\k≠g)(hg:w.heap.size<=g)(hbase:w.heap.size<=base):
  Bx 58 g #[v,↑r.why,.string r.name] (yf g v ↑r.why (.string r.name) w2)/\kE w.heap.size ↑() r w (.returned (.agg #[v,↑r.why,.string r.name])) (yf g v ↑r.why (.string r.name) w2):=by
 have Ny:=hB.lt;have hgv:g∉foot v:=λhm=>by rcases hs g (aG.1 hm) with h1|h1;exact(Jh g (aG.2 h1)).2 rfl;omega
 have Fv:=ve g v ↑r.why (.string r.name) w2;refine⟨(hB.but hb λhm=>(Jh g hm).2 rfl).yf _ _ _,v,rfl,(ho.but Fv λk hk=>by simp;intro e;exact hgv (aG.2 (e▸hk))).wK hbase,?_,λk hk=>.inr ?_⟩;have h1:Ev w w2:=((But.aW hE).then hb).ev λk hk=>(Jh k hk).1;exact But.aW (h1.box Fv hg);rcases hs k hk with h1|h1;exact(Jh k (aG.2 h1)).1;exact aw0 hE.size h1
theorem ak_(w:ak)(cs:Array au):∃w0,(w.alloc (.cells cs 32)).alloc (.cells ↑Zz.d 58)=w0/\Ev w w0/\Bx 32 w.heap.size cs w0/\Bx 58 (w.heap.size+1) ↑Zz.d w0/\w0.heap.size=w.heap.size+2:=EI w _ _
structure NV(D:List Df)(l:List PM)(k:Nat)(Z:List (fH C)):Prop where
 len:Z.length=k
 ok:∀r∈(l.take k).map (λx=>ckOf D x.p),r.why=0
 cols:Z.map fH.l=((l.take k).map λx=>ckOf D x.p).map CR.cols
theorem NV.next{D:List Df}{l:List PM}{k:Nat}{Z:List (fH C)}{x:PM}{z:fH C}(h:NV D l k Z)(hx:l[k]?=some x)(h0:(ckOf D x.p).why=0)(hz:z.l=(ckOf D x.p).cols):NV D l (k+1) (Z++[z]):=by
 obtain⟨hk,e⟩:=awz.1 hx;have ht:l.take (k+1)=l.take k++[x]:=by rw[awH hk,e]
 refine⟨by simp[h.len],λr hr=>?_,?_⟩;rw[ht,awM]at hr;rcases awV.1 hr with h1|h1;exact h.ok r h1;simp at h1;rw[h1];exact h0;rw[ht,awM,awM,awM,h.cols,awI,awY,hz];rfl
theorem acN(D:List Df)(m:PM):ckOf D m.p=match Af (m.kids.map λx=>ckOf D x.p) with
  | some r=>r
  | none=>Qn D m.kind m.name (m.ex.l.map M.t) m.co.l m.lf.l m.rt.l m.ag.l ((m.kids.map λx=>ckOf D x.p).map CR.cols):=by
 rw[PM.sW,ckOf,OJ,awT];rfl
theorem NV.bad{D:List Df}{m:PM}{k:Nat}{Z:List (fH C)}{x:PM}(h:NV D m.kids k Z)(hx:m.kids[k]?=some x)(h0:(ckOf D x.p).why≠0):ckOf D m.p=ckOf D x.p:=by rw[acN,Zh (k:=k) (r:=ckOf D x.p) (λy hy=>h.ok y (by rwa [axy])) (by rw[axh,hx];rfl) h0]
theorem NV.fin{D:List Df}{m:PM}{Z:List (fH C)}(h:NV D m.kids m.kids.length Z):ckOf D m.p=Qn D m.kind m.name (m.ex.l.map M.t) m.co.l m.lf.l m.rt.l m.ag.l (Z.map fH.l):=by have h1:=h.ok;have h2:=h.cols;rw[axk]at h1 h2;rw[acN,VZ h1,h2]
theorem acO{m:PM}(h:m.p.good):Ac m.kind m.name (m.ex.l.map M.t) m.co.l m.lf.l m.rt.l m.ag.l m.kids.length/\∀x∈m.kids,x.p.good:=by rw[PM.sW,Pl.good,Pl.uM,awD]at h;exact⟨h.1,λx hx=>h.2 x.p (aw9 hx)⟩
theorem kE.up{base:Nat}{va:au}{r:CR}{w:ak}{e:Ending}{w1 w2:ak}(h:kE base va r w e w1)(hE:Ev w1 w2):kE base va r w e w2:=by obtain⟨v,he,ho,hb,hs⟩:=h;exact⟨v,he,ho.ev hE,hb.then (But.aW hE),hs⟩
theorem agK{l:List M}{e:T}(h:l.map M.t=[e]):∃x,l=[x]:=by
 match l,h with
 | [x],_=>exact⟨x,rfl⟩
theorem NV.small{D:List Df}{l:List PM}{k:Nat}{Z:List (fH C)}(h:NV D l k Z)(hD:∀p,(ckOf D p).why=0->(ckOf D p).cols.length<=6):∀z∈Z,z.l.length<=6:=λz hz=>by have h1:z.l∈Z.map fH.l:=aw9 hz;rw[h.cols]at h1;obtain⟨r,hr,e⟩:=aw6.1 h1;have h2:=h.ok r hr;obtain⟨x,_,rfl⟩:=aw6.1 hr;rw[<-e];exact hD x.p h2
theorem yC{base:Nat}{w:ak}{x:fH C}(h:Ow 50 2 dM base w (.slice x.A x.l.length x.cap) x.l):Cs w x.A x.l.length x.cap x.l/\∀ad,x.A=some ad->base<=ad.block/\ad.block<w.heap.size/\ad.block∈foot (.slice x.A x.l.length x.cap):=by
 obtain⟨A,cap,hv,hS,hA⟩:=h.form iF;injection hv with h1 h2 h3
 rw[<-h1,<-h3]at hS;refine⟨hS,λad e=>?_⟩;have h4:=hA ad (h1▸e);exact⟨h4.2.1,h4.2.2.1,aG.2 h4.1⟩
theorem zO.kid{w0 w wd:ak}{A:Option Addr}{cap:Nat}{Z:List (fH C)}{z:fH C}{i:Nat}(h:zO w0 A cap Z w)(hz:Z[i]?=some z)(hE:Ev w wd):Ow 50 2 dM w0.heap.size wd (.slice z.A z.l.length z.cap) z.l:=(h.each z (awG hz)).ev hE
theorem zO.pair{w0 w:ak}{A:Option Addr}{cap:Nat}{Z:List (fH C)}{x y:fH C}(h:zO w0 A cap Z w)(hz:Z=[x,y]):∀g∈foot (.slice y.A y.l.length y.cap),g∉foot (.slice x.A x.l.length x.cap):=λg hg hm=>by have:=h.apart;rw[hz]at this;have:=List.pairwise_cons.1 this;exact this.1 y aj g hm hg
theorem AU{α:Type}{l:List α}(h:l.length=1):∃x,l=[x]:=by
 match l,h with
 | [x],_=>exact⟨x,rfl⟩
theorem aAS(h:U:=by
 go_roundw
 case rel=>exact⟨Z.length+1,Z++[⟨vA,vc,R.cols⟩],A2,cap2,rfl,by go_num,ae,HN7,zq (HNX.out _ rfl)⟩
 case measure=>simp[intOf];omega):U:=h
theorem aBT(h:U:=by refine ayr (aT rfl _ _ _ _ _ rfl f1 underlying58 rfl Tryz.fD) rfl ?_;rw[xy.out];exact f2):U:=h
theorem ayR(h:U:=by
 unfold kE at HT
 go_wp2_with (first
  | ((with_reducible refine(HT.out).mono ?_);rintro r_ w6 ⟨v,rfl,hO,wG,M_⟩;obtain⟨vA,vc,rfl,lq,mW⟩:=hO.form iF;clear lq mW;have HO:=zq hO;have qF:=zq wG;have ZT:=zq M_;obtain⟨⟨g0,g1,g2⟩,z0,z1,z2⟩:=(((jV.out.ev HS.out.ev).ev mO).but wG (λhm=>by have h1:=((HS.out.kid (i:=0) (z:=z) (by rw[hz];rfl) mO).lt (aG.1 hm)).1;omega)).three;have hg6:=(((jV.out.ev HS.out.ev).ev mO).but wG (λhm=>by have h1:=((HS.out.kid (i:=0) (z:=z) (by rw[hz];rfl) mO).lt (aG.1 hm)).1;omega)).lt;clear hO wG M_))
 (try simp only[Exit.inBlock,Exit.then]);rw[dI];obtain⟨f1,f2⟩:=xB (va:=.slice z.A z.l.length z.cap) ((cu.out.trans HS.out.ev).trans mO) ((jV.out.ev HS.out.ev).ev mO) HO.out qF.out ZT.out (λk hk=>by have h1:=((HS.out.kid (i:=0) (z:=z) (by rw[hz];rfl) aK).lt (aG.1 hk)).1;omega) ae (by have:=kT.out;simp;omega);exact aBT):U:=h
theorem ayV(h:U:=by
 unfold kE at HT;rw[hmk,Vf.out,HMA.out,HMC.out]at HT
 go_wp2_with (first
  | ((with_reducible refine(HT.out).mono ?_);rintro r_ w6 ⟨v,rfl,hO,wG,M_⟩;obtain⟨vA,vc,rfl,lq,mW⟩:=hO.form iF;clear lq mW;have HO:=zq hO;have qF:=zq wG;have ZT:=zq M_;obtain⟨⟨g0,g1,g2⟩,z0,z1,z2⟩:=(((jV.out.ev HS.out.ev).ev mO).ev (wG.ev (λk hk=>by cases hk))).three;have hg6:=(((jV.out.ev HS.out.ev).ev mO).ev (wG.ev (λk hk=>by cases hk))).lt;clear hO wG M_))
 (try simp only[Exit.inBlock,Exit.then]);rw[dI];obtain⟨f1,f2⟩:=xB (va:=.slice none 0 0) ((cu.out.trans HS.out.ev).trans mO) ((jV.out.ev HS.out.ev).ev mO) HO.out qF.out ZT.out (λk hk=>by cases hk) ae (by have:=kT.out;simp;omega);exact aBT):U:=h
theorem aA3(h:U:=by
 obtain⟨b2,e2,_,hcy⟩:=HS.out.cell (i:=1) (x:=y) (by rw[hz];rfl);injection e2 with e2
 injection e2 with e2
 subst e2;exact hcy wr aK):U:=h
theorem ak'(N:Nat):∀(m:PM) (b0:Nat) (D:List DM) (DA:Option Addr) (dn jJ:Nat) (w:ak),m.dep<=N->Qx b0 [] w m->m.p.good->m.p.fit->pV w DA dn jJ D->(∀d∈D,0<d.cols.length/\d.cols.length<=6)->
  Calls ax 18 #[.agg ↑m,.slice DA dn jJ] w (kE w.heap.size ↑() (ckOf (D.map DM.df) m.p) w):=by
 induction N with
 | zero=>
  intro m b0 D DA dn jJ w hd;rw[PM.lh]at hd;omega
 | succ N ih=>
  intro m b0 D DA dn jJ w hd hQ hg hf Ym hDl;have ed:Tryz.prog.follows .mixedOrders=true:=ah;obtain⟨hgh,hgk⟩:=acO hg;obtain⟨hfh,hfk⟩:=Yh hf;have lM:Hid (∀x∈m.kids,∀w1,Ev w w1->Calls ax 18 #[.agg ↑x,.slice DA dn jJ] w1 (kE w1.heap.size ↑() (ckOf (D.map DM.df) x.p) w1)):=zq λx hx w1 hE=>ih x b0 D DA dn jJ w1 (by have:=PM.jY hx;omega) ((hQ.kid x hx).ev hE) (hgk x hx) (hfk x hx) (Ym.ev hE) hDl;have HD6:Hid (∀p,(ckOf (D.map DM.df) p).why=0->(ckOf (D.map DM.df) p).cols.length<=6):=zq λp=>LK (λd hd=>by obtain⟨x,hx,rfl⟩:=aw6.1 hd;exact(hDl x hx).2) p;have HTB:=zq (λw1 (hE:Ev w w1)=>acs D DA dn jJ m.name w1 (Ym.ev hE) hDl);have HKB:Hid (∀k Z (x:PM),NV (D.map DM.df) m.kids k Z->m.kids[k]?=some x->(ckOf (D.map DM.df) x.p).why≠0->ckOf (D.map DM.df) m.p=ckOf (D.map DM.df) x.p):=zq λk Z x h hx h0=>NV.bad h hx h0;have HKF:=zq (λZ (h:NV (D.map DM.df) m.kids m.kids.length Z)=>NV.fin h);obtain⟨D2,hD2⟩:∃D2,D2=D.map DM.df:=⟨_,rfl⟩
  rw[<-hD2]at lM HD6 HTB HKB HKF|-;obtain⟨CK,hCK⟩:∃CK,CK=ckOf D2 m.p:=⟨_,rfl⟩
  rw[<-hCK]at HKB HKF|-;have zA:=hQ.ps;have hkn:=zA.le;have Vy:=zA.max;have VN:∀ad,m.A=some ad->ad.block<w.heap.size:=λad e=>(hQ.at.2.2.2.2.2.2.1.BQ ad e).2.1;have DN:Hid (∀w1,Ev w w1->Ps w1 m.A m.kids.length m.cap m.kids):=zq λw1 hE=>zA.ev hE;have HQ:=zq hQ;have HGH:=zq hgh;have Ve:=zq hfh;have xO:m.kids.length<=10000:=hfh.2.2.2.2.2.2.2;obtain⟨w0,hw0,aV,o8,Ji,hs0⟩:=ak_ w ↑m;have cu:=zq aV;have rq:=zq o8;have jV:=zq Ji;have kT:=zq hs0;obtain⟨⟨p0,p1,p2,p3,p4,p5,p6,p7⟩,_⟩:=o8.eight;have qX:Hid (∀k x,m.kids[k]?=some x->x∈m.kids):=zq λk x h=>awG h;have hgw:=Ji.lt;clear hQ hg hf Ym hDl hgh hgk hfh hfk hD2 hCK ih hd zA aV o8 Ji hs0;generalize VP:m.A=mA at*;generalize hmn:m.kids.length=nk at*;generalize hmc:m.cap=mc at*;generalize hmk:m.kind=kd at*;have HMA:=zq VP;have HMC:=zq hmc;clear VP hmc;have Vf:=zq hmn;clear hmn;go_enter func18,ntmps18;go_wp2
  go_loopw [5,12] (λzv iv wr=>∃(k:Nat) (Z:List (fH C)) (ZA:Option Addr) (zc:Nat),zv=.slice ZA k zc/\iv=↑k/\k<=nk/\Hid (zO w0 ZA zc Z wr)/\Hid (NV D2 m.kids k Z)) (λ_ iv _=>nk-(intOf iv).toNat)
  case atStart=>exact⟨0,[],none,0,rfl,rfl,awJ _,zq (zO.start w0),zq ⟨rfl,(λr hr=>by simp at hr),aj⟩⟩
  case round=>
   obtain⟨k,Z,ZA,zc,rfl,rfl,hk,HS,HI⟩:=hrel;have hzl:=HI.out.len;subst hzl;by_cases hlt:Z.length<nk
   ·obtain⟨x,hx⟩:=(DN.out _ (cu.out.trans HS.out.ev)).at hlt;obtain⟨bk,ok,rfl,hbk,_⟩:=(DN.out _ (cu.out.trans HS.out.ev)).rd ae;obtain⟨x0,x1,x2,x3,x4,x5,x6,x7⟩:=Ps.cell (DN.out _ (cu.out.trans HS.out.ev)) hx;unfold fH.v PM.kv at*;have gJ:=qX.out _ x hx;have Yn:=zq (lM.out x gJ);unfold kE at Yn;have HX:=zq hx;have AV:=Bx.new 32 ↑x wr;obtain⟨⟨q0,q1,q2,q3,q4,q5,q6,q7⟩,_⟩:=AV.eight;obtain⟨R,hR⟩:∃R,R=ckOf D2 x.p:=⟨_,rfl⟩
    rw[<-hR]at Yn;have HR:=zq hR;have i1:(0:Int)<=(Z.length:Int):=ae;have i2:(Z.length:Int)<(nk:Int):=ae;have hsw:=HS.out.ev.size;clear hx gJ AV hR;by_cases hw:R.why=0
    ·have HNX:Hid (∀z:fH C,z.l=R.cols->NV D2 m.kids (Z.length+1) (Z++[z])):=zq λz hz=>HI.out.next HX.out (by rw[<-HR.out];exact hw) (by rw[hz,HR.out])
     have Nk:(R.why==0)=true:=by simp[hw]
     rw[hw]at Yn
     go_wp2_with (first
      | ((with_reducible refine(Yn.out _ ((cu.out.trans HS.out.ev).trans aB)).mono ?_);rintro r_ w6 ⟨v,rfl,hO,wG,M_⟩;obtain⟨vA,vc,rfl,lq,mW⟩:=hO.form iF;clear lq mW;have lS:=wG.ev (λk hk=>by cases hk);have E6:=zq ((Ev.alloc wr _).trans lS);have HO:=zq hO;have hzl:Z.length<=10000:=ae;clear hO wG M_ lS q0 q1 q2 q3 q4 q5 q6 q7)
      | ((show wpList _ _ _ (⟨some 27,_,_,_,_,_⟩::_) _ _);refine aO (o:=⟨some 27,_,_,_,_,_⟩) rfl 71 (.tmp 23) (.tmp 26) rfl ZR underlying71 Tryz.Uw rfl rfl (HS.out.up (E6.out.trans (aB.trans aB))).own (some ⟨w6.heap.size+1,0,none⟩) 1 1 [⟨vA,vc,R.cols⟩] rfl (by have:=Sl.one (et:=24) ZR (w6.alloc (.cells #[.slice vA R.cols.length vc,.int .i64 0,.string R.name] 58)) ⟨vA,vc,R.cols⟩ #[.slice vA R.cols.length vc] rfl;simpa using this) (by simp;omega) (by simp;omega) (by have:=E6.out.size;simp;omega) ?_;intro v2 w7 dY;obtain⟨A2,cap2,rfl,hN7⟩:=HS.out.next aj (E6.out.trans (aB.trans aB)) (HO.out.ev (aB.trans aB)) dY;have HN7:=zq hN7;clear hN7 dY))
     exact aAS
    have Nk:(R.why==0)=false:=awy.2 hw;have hwn:(R.why !=0)=true:=by simp[hw]
    have WW:Hid (CK=R):=zq (by rw[HR.out];exact HKB.out _ _ x HI.out HX.out (by rw[<-HR.out];exact hw));rw[WW.out]
    go_wp2_with (first
     | ((with_reducible refine(Yn.out _ ((cu.out.trans HS.out.ev).trans aB)).mono ?_);rintro r_ w6 ⟨v,rfl,hO,wG,M_⟩;obtain⟨vA,vc,rfl,lq,mW⟩:=hO.form iF;clear lq mW;have lS:=wG.ev (λk hk=>by cases hk);have E6:=zq ((Ev.alloc wr _).trans lS);have HO:=zq hO;have ZT:=zq M_;obtain⟨⟨g0,g1,g2⟩,z0,z1,z2⟩:=((jV.out.ev HS.out.ev).ev ((Ev.alloc wr _).trans lS)).three;have hg6:=((jV.out.ev HS.out.ev).ev ((Ev.alloc wr _).trans lS)).lt;clear hO wG M_ lS q0 q1 q2 q3 q4 q5 q6 q7))
    (try simp only[Exit.inBlock,Exit.then]);rw[dI];obtain⟨f1,f2⟩:=xB (va:=.slice none 0 0) (cu.out.trans HS.out.ev) (jV.out.ev HS.out.ev) HO.out (But.aW E6.out) (λg hg=>by rcases ZT.out g hg with h1|h1;exact .inl h1;exact .inr (by simp at h1;omega)) (λk hk=>by cases hk) ae (by have:=kT.out;simp;omega);refine ayr (aT rfl _ _ _ _ _ rfl (f1.ev aB) underlying58 rfl Tryz.fD) rfl ?_;exact f2.up aB
   have IK:Z.length=nk:=ae;have HK:=zq (HKF.out Z (by have:=HI.out;rwa [IK]at this));have ZU:=HI.out.small HD6.out;obtain⟨⟨p0,p1,p2,p3,p4,p5,p6,p7⟩,_⟩:=(rq.out.ev HS.out.ev).eight;obtain⟨⟨g0,g1,g2⟩,z0,z1,z2⟩:=(jV.out.ev HS.out.ev).three;have hg6:=(jV.out.ev HS.out.ev).lt;have hsz:=cu.out.size;have hs0:=kT.out;have hsw:=HS.out.ev.size;go_upto_region 10 with fail
   rw[IK];rcases HGH.out with⟨rfl,-,-,-,-,-,-,hn⟩|⟨rfl,-,hes,-,-,-,-,hn⟩|⟨rfl,-,-,TW,-,-,-,-,-,hn⟩|⟨rfl,-,-,-,-,-,-,hn⟩|⟨rfl,-,-,-,-,-,-,hn⟩|⟨rfl,-,-,-,-,-,-,hn⟩|⟨rfl,-,-,-,-,-,-,hn⟩
   ·have HT:=zq (HTB.out wr (cu.out.trans HS.out.ev));unfold kE at HT;have xy:Hid (CK=o_ D2 m.name):=HK;clear HK
    go_wp2_with (first
     | ((with_reducible refine(HT.out).mono ?_);rintro r_ w6 ⟨v,rfl,hO,wG,M_⟩;obtain⟨vA,vc,rfl,lq,mW⟩:=hO.form iF;clear lq mW;have HO:=zq hO;have qF:=zq wG;have ZT:=zq M_;obtain⟨⟨g0,g1,g2⟩,z0,z1,z2⟩:=((jV.out.ev HS.out.ev).ev (wG.ev (λk hk=>by cases hk))).three;have hg6:=((jV.out.ev HS.out.ev).ev (wG.ev (λk hk=>by cases hk))).lt;clear hO wG M_))
    (try simp only[Exit.inBlock,Exit.then]);rw[dI];obtain⟨f1,f2⟩:=xB (va:=.slice none 0 0) (cu.out.trans HS.out.ev) (jV.out.ev HS.out.ev) HO.out qF.out ZT.out (λk hk=>by cases hk) ae (by have:=kT.out;simp;omega);exact aBT
   ·subst hn;obtain⟨z,hz⟩:=AU IK;obtain⟨bz,rfl,hbz,DY⟩:=HS.out.cell (i:=0) (x:=z) (by rw[hz];rfl);have hc0:=DY wr aK;obtain⟨hzC,hzA⟩:=yC (HS.out.kid (i:=0) (z:=z) (by rw[hz];rfl) aK);obtain⟨_,hes,_⟩:=hes;obtain⟨xe,U3⟩:=agK hes;have iH:m.ex.l[0]?=some xe:=by rw[U3];rfl
    clear hes;have gJ:xe∈m.ex.l:=awG iH;obtain⟨be,oe,RF,hbl,e0,e1,e2,e3⟩:=Es.cell ((HQ.out.at.1.sl.ev (cu.out.trans HS.out.ev))) iH;unfold M.kv at e3;simp only[axi,aw2]at e0 e1 e2 e3;have xy:Hid (CK=mi xe.t z.l):=zq (by rw[HK.out,hz,U3];rfl);clear HK;have hel:m.ex.l.length=1:=by rw[U3];rfl
    rw[RF,hel]at p2;clear RF hel iH;have HFE:=zq (Ve.out.2.1 xe.t (aw9 gJ)).2;clear U3;go_upto_region 15 with fail
    go_still_tail 7,ah
    generalize hwd:({heap:=wr.heap,tape:=wr.tape,drawn:=wr.drawn+1,os:=wr.os,output:=wr.output}:ak)=wd;have mO:Ev wr wd:=hwd▸Ev.drew wr;have hds:=mO.size;clear hwd;have HT:=zq (ZC w0.heap.size (.slice z.A z.l.length z.cap) z.l xe b0 wd (HS.out.kid (i:=0) (z:=z) (by rw[hz];rfl) mO) ((HQ.out.at.2.1 xe gJ).ev ((cu.out.trans HS.out.ev).trans mO)) HFE.out.1 HFE.out.2);exact ayR
   ·subst hn;obtain⟨z,hz⟩:=AU IK;obtain⟨bz,rfl,hbz,DY⟩:=HS.out.cell (i:=0) (x:=z) (by rw[hz];rfl);have hc0:=DY wr aK;obtain⟨hzC,hzA⟩:=yC (HS.out.kid (i:=0) (z:=z) (by rw[hz];rfl) aK);have xy:Hid (CK=mM (m.ex.l.map M.t) m.co.l z.l):=zq (by rw[HK.out,hz];rfl);clear HK;have HEL:Hid (m.ex.l.length=m.co.l.length):=zq<|by have:=TW;rwa [awD]at this
    clear TW;have aij:Hid (m.ex.l.length<=10000):=zq<|by have:=Ve.out.2.2.2.1;rwa [awD]at this
    go_upto_region 17 with fail
    go_still_tail 4,ah
    generalize hwd:({heap:=wr.heap,tape:=wr.tape,drawn:=wr.drawn+1,os:=wr.os,output:=wr.output}:ak)=wd;have mO:Ev wr wd:=hwd▸Ev.drew wr;have hds:=mO.size;clear hwd;have HT:=zq (WV m b0 wd (HQ.out.ev ((cu.out.trans HS.out.ev).trans mO)) z.l z.A z.l.length z.cap (hzC.ev mO) (λad e=>by have:=(hzA ad e).2.1;have:=mO.size;omega) HEL.out aij.out (λe he=>(Ve.out.2.1 e.t (aw9 he)).2));exact ayV
   ·subst hn;obtain⟨z,y,hz⟩:=yZ IK;obtain⟨bz,rfl,hbz,DY⟩:=HS.out.cell (i:=0) (x:=z) (by rw[hz];rfl);have hc0:=DY wr aK;have hc1:wr.cell? ⟨bz,1,none⟩=some (.slice y.A y.l.length y.cap):=by exact aA3
    obtain⟨hyC,hyA⟩:=yC (HS.out.kid (i:=1) (z:=y) (by rw[hz];rfl) aK);have xy:Hid (CK=lT m.lf.l m.rt.l z.l y.l):=zq (by rw[HK.out,hz];rfl);clear HK;have htw:∀g∈foot (.slice y.A y.l.length y.cap),g∉foot (.slice z.A z.l.length z.cap):=HS.out.pair hz;go_upto_region 19 with fail
    go_still_tail 10,ah
    generalize hwd:({heap:=wr.heap,tape:=wr.tape,drawn:=wr.drawn+1,os:=wr.os,output:=wr.output}:ak)=wd;have mO:Ev wr wd:=hwd▸Ev.drew wr;have hds:=mO.size;clear hwd
    have HT:Hid (Calls ax 35 #[.slice m.lf.A m.lf.l.length m.lf.cap,.slice m.rt.A m.rt.l.length m.rt.cap,.slice z.A z.l.length z.cap,.slice y.A y.l.length y.cap] wd (kE w0.heap.size (.slice z.A z.l.length z.cap) (lT m.lf.l m.rt.l z.l y.l) wd)):=by by_cases hj:m.lf.l.length=m.rt.l.length/\m.lf.l.length≠0;exact zq (ZQ w0.heap.size (.slice z.A z.l.length z.cap) z.l y.l m.lf.l m.rt.l m.lf.A m.rt.A y.A m.lf.l.length m.lf.cap m.rt.l.length m.rt.cap y.l.length y.cap wd (HS.out.kid (i:=0) (z:=z) (by rw[hz];rfl) mO) (hyC.ev mO) (HQ.out.at.2.2.2.1.sl.ev ((cu.out.trans HS.out.ev).trans mO)) (HQ.out.at.2.2.2.2.1.sl.ev ((cu.out.trans HS.out.ev).trans mO)) (λad e=>by have h1:=hyA ad e;have h2:=mO.size;exact⟨ae,htw ad.block h1.2.2⟩) (λad e=>by have h1:=(HQ.out.at.2.2.2.1.BQ ad e).2.1;have h2:=mO.size;exact⟨ae,λhm=>by have h3:=((HS.out.kid (i:=0) (z:=z) (by rw[hz];rfl) mO).lt (aG.1 hm)).1;omega⟩) (λad e=>by have h1:=(HQ.out.at.2.2.2.2.1.BQ ad e).2.1;have h2:=mO.size;exact⟨ae,λhm=>by have h3:=((HS.out.kid (i:=0) (z:=z) (by rw[hz];rfl) mO).lt (aG.1 hm)).1;omega⟩) (by have:=mO.size;omega) (by have:=ZU z (by rw[hz];simp);omega) (by have:=ZU y (by rw[hz];simp);omega) Ve.out.2.2.2.2.1 hj);exact zq (W9 w0.heap.size (.slice z.A z.l.length z.cap) z.l y.l m.lf.l m.rt.l m.lf.A m.rt.A y.A m.lf.l.length m.lf.cap m.rt.l.length m.rt.cap y.l.length y.cap wd (HS.out.kid (i:=0) (z:=z) (by rw[hz];rfl) mO) (hyC.ev mO) (HQ.out.at.2.2.2.1.sl.ev ((cu.out.trans HS.out.ev).trans mO)) (HQ.out.at.2.2.2.2.1.sl.ev ((cu.out.trans HS.out.ev).trans mO)) (λad e=>by have h1:=hyA ad e;have h2:=mO.size;exact⟨ae,htw ad.block h1.2.2⟩) (λad e=>by have h1:=(HQ.out.at.2.2.2.1.BQ ad e).2.1;have h2:=mO.size;exact⟨ae,λhm=>by have h3:=((HS.out.kid (i:=0) (z:=z) (by rw[hz];rfl) mO).lt (aG.1 hm)).1;omega⟩) (λad e=>by have h1:=(HQ.out.at.2.2.2.2.1.BQ ad e).2.1;have h2:=mO.size;exact⟨ae,λhm=>by have h3:=((HS.out.kid (i:=0) (z:=z) (by rw[hz];rfl) mO).lt (aG.1 hm)).1;omega⟩) (by have:=mO.size;omega) (by have:=ZU z (by rw[hz];simp);omega) (by have:=ZU y (by rw[hz];simp);omega) Ve.out.2.2.2.2.1 hj)
    exact ayR
   ·subst hn;obtain⟨z,y,hz⟩:=yZ IK;obtain⟨bz,rfl,hbz,DY⟩:=HS.out.cell (i:=0) (x:=z) (by rw[hz];rfl);have hc0:=DY wr aK;have hc1:wr.cell? ⟨bz,1,none⟩=some (.slice y.A y.l.length y.cap):=by exact aA3
    obtain⟨hyC,hyA⟩:=yC (HS.out.kid (i:=1) (z:=y) (by rw[hz];rfl) aK);have xy:Hid (CK=oz z.l y.l):=zq (by rw[HK.out,hz];rfl);clear HK;go_upto_region 21 with fail
    go_still_tail 6,ah
    generalize hwd:({heap:=wr.heap,tape:=wr.tape,drawn:=wr.drawn+1,os:=wr.os,output:=wr.output}:ak)=wd;have mO:Ev wr wd:=hwd▸Ev.drew wr;have hds:=mO.size;clear hwd;have HT:=zq (acu w0.heap.size (.slice z.A z.l.length z.cap) z.l y.l y.A y.l.length y.cap wd (HS.out.kid (i:=0) (z:=z) (by rw[hz];rfl) mO) (hyC.ev mO) (λad e=>by have:=(hyA ad e).2.1;have:=mO.size;omega));exact ayR
   ·subst hn;obtain⟨z,hz⟩:=AU IK;obtain⟨bz,rfl,hbz,DY⟩:=HS.out.cell (i:=0) (x:=z) (by rw[hz];rfl);have hc0:=DY wr aK;have xy:Hid (CK=CR.of z.l):=zq (by rw[HK.out,hz];rfl);clear HK;have HO:=zq (HS.out.kid (i:=0) (z:=z) (by rw[hz];rfl) (Ev.refl wr))
    go_wp2_with fail
    (try simp only[Exit.inBlock,Exit.then]);rw[dI];obtain⟨f1,f2⟩:=xB (r:=CR.of z.l) (va:=.slice z.A z.l.length z.cap) (cu.out.trans HS.out.ev) (jV.out.ev HS.out.ev) HO.out (But.refl _ _) (fO.refl _ _) (λk hk=>by have h1:=((HS.out.kid (i:=0) (z:=z) (by rw[hz];rfl) aK).lt (aG.1 hk)).1;omega) ae (by have:=kT.out;simp;omega);exact aBT
   subst hn;obtain⟨z,hz⟩:=AU IK;obtain⟨bz,rfl,hbz,DY⟩:=HS.out.cell (i:=0) (x:=z) (by rw[hz];rfl);have hc0:=DY wr aK;obtain⟨hzC,hzA⟩:=yC (HS.out.kid (i:=0) (z:=z) (by rw[hz];rfl) aK);have xy:Hid (CK=ni m.lf.l m.ag.l z.l):=zq (by rw[HK.out,hz];rfl);clear HK;go_upto_region 11 with fail
   go_still_tail 4,ah
   generalize hwd:({heap:=wr.heap,tape:=wr.tape,drawn:=wr.drawn+1,os:=wr.os,output:=wr.output}:ak)=wd;have mO:Ev wr wd:=hwd▸Ev.drew wr;have hds:=mO.size;clear hwd;have HT:=zq (acK m b0 wd (HQ.out.ev ((cu.out.trans HS.out.ev).trans mO)) z.l z.A z.l.length z.cap (hzC.ev mO) (λad e=>by have:=(hzA ad e).2.1;have:=mO.size;omega) Ve.out.2.2.2.2.1 Ve.out.2.2.2.2.2.2.1);exact ayV
abbrev ayw:=@Go.wp_loop_rounds
abbrev ayx:=@Go.rounds_succ
def ER(s t:ByteArray):Int:=if Op.bytesLess s.toList t.toList then -1 else if s.toList==t.toList then 0 else 1
def ET(a b:Int):Int:=if a<b then -1 else if b<a then 1 else 0
theorem ZV(s t:ByteArray)(w:ak):(binOp .gtr 9 (.string s) (.string t)).run ax w=.ok (.bool !(Op.bytesLess s.toList t.toList||s.toList==t.toList)) w:=by unfold binOp;simp[go_sem,Op.stringOp]
theorem aCz(h:U:=by go_enter func51,ntmps51;go_wp2;go_ret;exact⟨rfl,rfl⟩):U:=h
theorem afj(s t:ByteArray)(w:ak):Calls ax 51 #[.string s,.string t] w λe w'=>e=.returned (.int .i64 (ER s t))/\w'=w:=by
 have hG:=ZV s t;unfold ER
 cases h1:Op.bytesLess s.toList t.toList with
 | true=>
  exact aCz
 | false=>
  cases h2:s.toList==t.toList with
  | true=>
   simp only[h1,h2]at hG;exact aCz
  | false=>
   simp only[h1,h2]at hG;exact aCz
theorem aCA(h:U:=by go_enter func52,ntmps52;go_wp2;go_ret;exact⟨rfl,rfl⟩):U:=h
theorem afk(a b:Int)(w:ak):Calls ax 52 #[↑a,↑b] w λe w'=>e=.returned (.int .i64 (ET a b))/\w'=w:=by unfold ET;by_cases h1:a<b;rw[if_pos h1];exact aCA;rw[if_neg h1];by_cases h2:b<a;rw[if_pos h2];exact aCA;rw[if_neg h2];exact aCA
def or2(x y:Int):Int:=if x=0 then y else x
theorem ail(g:Nat)(x y:Int)(w:ak)(h:Bx 3 g #[↑x,↑y] w):Calls ax 50 #[.slice ↑g 2 2] w λe w'=>e=.returned (.int .i64 (or2 x y))/\w'=w:=by
 have c0:=h.cell 0;have c1:=h.cell 1;have c0:w.cell? ⟨g,0,none⟩=some ↑x:=c0;have c1:w.cell? ⟨g,1,none⟩=some ↑y:=c1;clear h;unfold or2;by_cases hx:x=0
 ·subst hx;rw[if_pos rfl];by_cases hy:y=0
  ·subst hy;go_enter func50,ntmps50;go_wp2;refine ayw 3 ?_;rw[ayx];go_wp2;rw[ayx];go_wp2;rw[ayx];go_wp2;go_ret;exact⟨rfl,rfl⟩
  have hyn:(y==0)=false:=by simpa using hy
  go_enter func50,ntmps50;go_wp2;refine ayw 3 ?_;rw[ayx];go_wp2;rw[ayx];go_wp2;go_ret;exact⟨rfl,rfl⟩
 have hxn:(x==0)=false:=by simpa using hx
 rw[if_neg hx];go_enter func50,ntmps50;go_wp2;refine ayw 3 ?_;rw[ayx];go_wp2;go_ret;exact⟨rfl,rfl⟩
def LM(x y:Int)(v:au)(w:ak):Prop:=∃g,v=.slice (some ⟨g,0,none⟩) 2 2/\Bx 3 g #[↑x,↑y] w
theorem LM.mono(x y:Int):ru (LM x y):=λv w w' hE ⟨g,e,h⟩=>⟨g,e,h.ev hE⟩
def NW(di dj:DM)(i j:Nat):Int:=or2 (ER ⟨di.name.toArray⟩ ⟨dj.name.toArray⟩) (ET (i:Int) (j:Int))
theorem az7(h:U:=by
 refine aF λa w c=>⟨(ay rfl),.slice ↑(bd,od) n cap,?_,rfl⟩
 have e2:a.eval (.tmp 2)=.pointer ↑gb:=(c.was 2 rfl)
 have hc:=(c.ev.cell (p:=⟨gb,0,none⟩) Ny).trans HB;generalize a.eval=ρ at e2|-;simp[execOp,e2,hc,go_sem]):U:=h
theorem aCu(h:U:=by refine aF λa w c=>⟨(ay rfl),_,run_move _ rfl w,(c.was 1 rfl)⟩):U:=h
theorem Jk(gb bd od n cap:Nat)(l:List DM)(i j:Nat)(di dj:DM)(w:ak)(hB:Bx 34 gb #[.slice ↑(bd,od) n cap] w)(h:pV w ↑(bd,od) n cap l)(hi:l[i]?=some di)(hj:l[j]?=some dj):
  Calls ax 49 #[↑i,↑j,.pointer ↑gb] w λe w'=>e=.returned (.int .i64 (NW di dj i j))/\Ev w w':=by
 have ed:Tryz.prog.follows .mixedOrders=true:=ah;have HB:w.cell? ⟨gb,0,none⟩=some (.slice ↑(bd,od) n cap):=hB.cell 0;have Ny:=hB.lt;have hnl:=h.sl.len;have yK:=h.sl.le;have hcm:=h.sl.max;obtain⟨b,o,e,hbl,ci,_⟩:=h.cell hi;obtain⟨b',o',e',_,cj,_⟩:=h.cell hj;injection e with e
 injection e with e1 e2 _
 injection e' with e'
 injection e' with e3 e4 _
 subst e1 e2 e3 e4;have MM:=(awz.1 hi).1;have hjl:=(awz.1 hj).1;have i1:(0:Int)<=(i:Int):=ae;have i2:(i:Int)<(n:Int):=ae;have j1:(0:Int)<=(j:Int):=ae;have j2:(j:Int)<(n:Int):=ae;unfold NW;clear hB h hi hj MM hjl;go_enter func49,ntmps49;go_upto_region 1 with fail
 refine bV ed [λv _=>v=.slice ↑(bd,od) n cap,λv _=>v=↑i,λv _=>v=.pointer ↑(bd,od+i*2),λv _=>v=.pointer ↑(bd,od+i*2),λv _=>v=↑di.name,λv _=>v=.slice ↑(bd,od) n cap,λv _=>v=↑j,λv _=>v=.pointer ↑(bd,od+j*2),λv _=>v=.pointer ↑(bd,od+j*2),λv _=>v=↑dj.name,λv _=>v=.int .i64 (ER ⟨di.name.toArray⟩ ⟨dj.name.toArray⟩),λv _=>v=↑i,λv _=>v=↑j,λv _=>v=.int .i64 (ET (i:Int) (j:Int)),LM (ER ⟨di.name.toArray⟩ ⟨dj.name.toArray⟩) (ET (i:Int) (j:Int)),λv _=>v=.int .i64 (or2 (ER ⟨di.name.toArray⟩ ⟨dj.name.toArray⟩) (ET (i:Int) (j:Int))),λv _=>v=.int .i64 (or2 (ER ⟨di.name.toArray⟩ ⟨dj.name.toArray⟩) (ET (i:Int) (j:Int)))]
  22 rfl ah ⟨az _,az _,az _,az _,az _,az _,az _,az _,az _,az _,az _,az _,az _,az _,LM.mono _ _,az _,az _,trivial⟩ ?_ ?_
 ·refine aC 0 ?_ (aC 1 ?_ (aC 2 ?_ (aC 3 ?_ (aC 4 ?_ (aC 5 ?_ (aC 6 ?_ (aC 7 ?_ (aC 8 ?_ (aC 9 ?_ (aC 10 ?_ (aC 11 ?_ (aC 12 ?_ (aC 13 ?_ (aC 14 ?_ (aC 15 ?_ (aC 16 ?_ (iT 17)))))))))))))))));exact az7;exact aCo
  ·refine aF λa wq c=>⟨(ay rfl),.pointer ↑(bd,od+i*2),?_,rfl⟩
   have bC:a.eval (.tmp 6)=.slice ↑(bd,od) n cap:=(c.new 0 6)
   have iO:a.eval (.tmp 7)=↑i:=(c.new 1 7)
   generalize a.eval=ρ at bC iO|-;simp[execOp,bC,iO,go_sem,i1,i2]
  ·refine aF λa w c=>⟨(ay rfl),.pointer ↑(bd,od+i*2),?_,rfl⟩
   have e8:a.eval (.tmp 8)=.pointer ↑(bd,od+i*2):=(c.new 2 8)
   generalize a.eval=ρ at e8|-;simp[execOp,e8,go_sem]
  ·refine aF λa w c=>⟨(ay rfl),↑di.name,?_,rfl⟩
   have e9:a.eval (.tmp 9)=.pointer ↑(bd,od+i*2):=(c.new 3 9)
   have hc:=(c.ev.cell (p:=⟨bd,od+i*2,none⟩) hbl).trans ci;generalize a.eval=ρ at e9|-;simp[execOp,e9,hc,go_sem]
  exact az7;exact aCu
  ·refine aF λa wq c=>⟨(ay rfl),.pointer ↑(bd,od+j*2),?_,rfl⟩
   have bC:a.eval (.tmp 11)=.slice ↑(bd,od) n cap:=(c.new 5 11)
   have iO:a.eval (.tmp 12)=↑j:=(c.new 6 12)
   generalize a.eval=ρ at bC iO|-;simp[execOp,bC,iO,go_sem,j1,j2]
  ·refine aF λa w c=>⟨(ay rfl),.pointer ↑(bd,od+j*2),?_,rfl⟩
   have e13:a.eval (.tmp 13)=.pointer ↑(bd,od+j*2):=(c.new 7 13)
   generalize a.eval=ρ at e13|-;simp[execOp,e13,go_sem]
  ·refine aF λa w c=>⟨(ay rfl),↑dj.name,?_,rfl⟩
   have e14:a.eval (.tmp 14)=.pointer ↑(bd,od+j*2):=(c.new 8 14)
   have hc:=(c.ev.cell (p:=⟨bd,od+j*2,none⟩) hbl).trans cj;generalize a.eval=ρ at e14|-;simp[execOp,e14,hc,go_sem]
  refine ig λa wq c=>⟨(ay rfl),51,#[↑di.name,↑dj.name],?_,?_⟩
  rw[bT 51 _ _ rfl ah];have bC:a.eval (.tmp 10)=↑di.name:=(c.new 4 10)
  have iO:a.eval (.tmp 15)=↑dj.name:=(c.new 9 15)
  simp[bC,iO];refine(afj _ _ wq).mono ?_;rintro e wp ⟨rfl,rfl⟩;exact⟨_,rfl,Ev.refl _,rfl⟩;exact aCo;exact aCu;refine ig λa wq c=>⟨(ay rfl),52,#[↑i,↑j],?_,?_⟩
  rw[bT 52 _ _ rfl ah];have bC:a.eval (.tmp 17)=↑i:=(c.new 11 17)
  have iO:a.eval (.tmp 18)=↑j:=(c.new 12 18)
  simp[bC,iO];refine(afk _ _ wq).mono ?_;rintro e wp ⟨rfl,rfl⟩;exact⟨_,rfl,Ev.refl _,rfl⟩
  ·refine aaW λa wq c=>?_;have bC:a.eval (.tmp 16)=.int .i64 (ER ⟨di.name.toArray⟩ ⟨dj.name.toArray⟩):=(c.new 10 16)
   have iO:a.eval (.tmp 19)=.int .i64 (ET (i:Int) (j:Int)):=(c.new 13 19)
   refine⟨(ay rfl),.slice ↑wq 2 2,wq.alloc (.cells #[.int .i64 (ER ⟨di.name.toArray⟩ ⟨dj.name.toArray⟩),.int .i64 (ET (i:Int) (j:Int))] 3),?_,Ev.alloc _ _,⟨wq.heap.size,rfl,Bx.new _ _ _⟩⟩;generalize a.eval=ρ at bC iO|-;simp[execOp,bC,iO,go_sem]
  refine ig λa wq c=>?_;obtain⟨g_,eg_,hB_⟩:=(c.got 14 20 ah ah rfl:LM _ _ _ _)
  refine⟨(ay rfl),50,#[.slice ↑g_ 2 2],?_,?_⟩;rw[bT 50 _ _ rfl ah];simp[eg_];refine(ail g_ _ _ wq hB_).mono ?_;rintro e wp ⟨rfl,rfl⟩;exact⟨_,rfl,Ev.refl _,rfl⟩;refine aF λa w c=>⟨(ay rfl),_,run_assign _ rfl w,(c.new 15 21)⟩
 intro s w2 hE hold hnew;have f0:s 0=↑i:=hold 0;have f1:s 1=↑j:=hold 1;have f2:s 2=.pointer ↑gb:=hold 2;have f5:s 5=.int .i64 (or2 (ER ⟨di.name.toArray⟩ ⟨dj.name.toArray⟩) (ET (i:Int) (j:Int))):=hnew 16 5;change Exit.then _ _ .normal ⟨#[s 0,s 1,s 2,s 3,s 4,s 5,s 6,s 7,s 8,s 9,s 10,s 11,s 12,s 13,s 14,s 15,s 16,s 17,s 18,s 19,s 20,s 21],_⟩ _;simp only[f0,f1,f2,f5];go_wp2;go_ret;exact⟨rfl,hE⟩
theorem BJ{a:Act}{o:Oper}(f:FuncId)(cb:Array au)(x:Operand)(xs:Array Operand)(ts:Array TypeId)(ho:o.op=.call {callee:=.value x,args:=xs,argTypes:=ts})(h:FQ ax f=true)(hx:a.eval x=.func (.func f) #[] cb)(w:ak):
  (execOp a.eval o).run ax w=.ok (.enter f (xs.map a.eval++cb)) w:=by
 unfold execOp;rw[ho];simp[resolve,Deferred.ofValue,invoke,hx];exact Oi h _ w
theorem aCv(h:U:=by refine aF λa w c=>⟨(ay rfl),_,run_move _ rfl w,(c.was 9 rfl)⟩):U:=h
theorem aBk(h:U:=by
 have e19:a.eval (.tmp 19)=.int .i64 0:=(c.new 1 19)
 generalize a.eval=ρ at e18 e19|-;simp[execOp,e18,e19,go_sem]):U:=h
theorem aAd(h:U:=by
 refine aF λa w c=>⟨(ay rfl),.bool true,?_,rfl⟩
 have e18:a.eval (.tmp 18)=.int .i64 1:=(c.new 0 18)
 exact aBk):U:=h
theorem aCx(h:U:=by refine aF λa w c=>⟨(ay rfl),_,run_move _ rfl w,(c.new 2 20)⟩):U:=h
theorem aB5(h:U:=by refine aF λa w c=>⟨(aP rfl ah (c.new 3 21)),_,run_move _ rfl w,(c.was 3 rfl)⟩):U:=h
theorem aB6(h:U:=by refine aF λa w c=>⟨(aP rfl ah (c.new 3 21)),_,run_move _ rfl w,(c.was 0 rfl)⟩):U:=h
theorem aB7(h:U:=by refine aF λa w c=>⟨(aP rfl ah (c.new 3 21)),_,run_move _ rfl w,(c.was 9 rfl)⟩):U:=h
theorem aBB(h:U:=by
 have iO:a.eval (.tmp 24)=.int .i64 1:=(c.new 6 24)
 generalize a.eval=ρ at bC iO|-;simp[execOp,bC,iO,go_sem]):U:=h
theorem aAt(h:U:=by
 have e25:a.eval (.tmp 25)=.pointer (some ⟨go,1,none⟩):=(c.new 7 25)
 have hc:=(c.ev.cell (p:=⟨go,1,none⟩) hgo).trans o1;generalize a.eval=ρ at e25|-;simp[execOp,e25,hc,go_sem]):U:=h
theorem azO(h:U:=by
 refine aF λa w c=>⟨(aP rfl ah (c.new 3 21)),.int .i64 1,?_,rfl⟩
 exact aAt):U:=h
theorem azC(h:U:=by
 refine aF λa w c=>⟨(aP rfl ah (c.new 3 21)),.int .i64 0,?_,rfl⟩
 have e28:a.eval (.tmp 28)=.int .i64 1:=(c.new 10 28)
 have j_:a.eval (.const (.int .i64 1))=.int .i64 1:=rfl;generalize a.eval=ρ at e28 j_|-;simp[execOp,e28,j_,go_sem,show IntKind.i64.wrap 0=0 from rfl]):U:=h
theorem aBy(h:U:=by
 have iO:a.eval (.tmp 29)=.int .i64 0:=(c.new 11 29)
 generalize a.eval=ρ at bC iO|-;simp[execOp,bC,iO,go_sem]):U:=h
theorem az1(h:U:=by
 refine aF λa w c=>⟨(aP rfl ah (c.new 3 21)),.int .i64 0,?_,rfl⟩
 have e30:a.eval (.tmp 30)=.pointer ↑go:=(c.new 12 30)
 have hc:=(c.ev.cell (p:=⟨go,0,none⟩) hgo).trans o0;generalize a.eval=ρ at e30|-;simp[execOp,e30,hc,go_sem]):U:=h
theorem aBC(h:U:=by
 have ZB:a.eval (.tmp 31)=.int .i64 0:=(c.new 13 31)
 rw[BJ 49 #[.pointer ↑gb] _ _ _ rfl ah bC];simp[iO,ZB]):U:=h
theorem az4(h:U:=by
 have bC:a.eval (.tmp 22)=.func (.func 49) #[] #[.pointer ↑gb]:=(c.new 4 22)
 have iO:a.eval (.tmp 26)=.int .i64 1:=(c.new 8 26)
 exact aBC):U:=h
theorem aCf(h:U:=by refine aF λa w c=>⟨(ay rfl),_,su rfl (c.new 3 21) w,(c.new 15 33)⟩):U:=h
theorem afl(go gb:Nat)(r:Int)(w:ak)(hO:Bx 3 go #[.int .i64 0,.int .i64 1] w)(hr0:0<=r)(hC:∀w1,Ev w w1->Calls ax 49 #[.int .i64 1,.int .i64 0,.pointer ↑gb] w1 λe w'=>e=.returned ↑r/\Ev w1 w'):
  Calls ax 127 #[.slice ↑go 2 2,.int .i64 0,.int .i64 2,.func (.func 49) #[] #[.pointer ↑gb]] w λe w'=>e=.returned (.tuple #[])/\Ev w w':=by
 have ed:Tryz.prog.follows .mixedOrders=true:=ah;have o0:w.cell? ⟨go,0,none⟩=some (.int .i64 0):=hO.cell 0;have o1:w.cell? ⟨go,1,none⟩=some (.int .i64 1):=hO.cell 1;have hgo:=hO.lt;have hr:decide (r<0)=false:=by simp;omega
 have acP:=zq hC;have HE:=zq (Ev.refl w);clear hO hC;go_enter func127,ntmps127;go_wp2;refine ayw 3 ?_;rw[ayx];go_wp2;refine ayw 2 ?_;rw[ayx];go_wp2;refine bV ed [λv _=>v=.int .i64 1,λv _=>v=.int .i64 0,λv _=>v=.bool true,λv _=>v=.bool true,λv _=>v=.func (.func 49) #[] #[.pointer ↑gb],λv _=>v=.slice ↑go 2 2,λv _=>v=.int .i64 1,λv _=>v=.pointer (some ⟨go,1,none⟩),λv _=>v=.int .i64 1,λv _=>v=.slice ↑go 2 2,λv _=>v=.int .i64 1,λv _=>v=.int .i64 0,λv _=>v=.pointer ↑go,λv _=>v=.int .i64 0,λv _=>v=↑r,λv _=>v=.bool false,λv _=>v=.bool false]
  53 rfl ah ⟨az _,az _,az _,az _,az _,az _,az _,az _,az _,az _,az _,az _,az _,az _,az _,az _,az _,trivial⟩ ?_ ?_
 ·refine aC 0 ?_ (aC 1 ?_ (aC 2 ?_ (aC 3 ?_ (aC 4 ?_ (aC 5 ?_ (aC 6 ?_ (aC 7 ?_ (aC 8 ?_ (aC 9 ?_ (aC 10 ?_ (aC 11 ?_ (aC 12 ?_ (aC 13 ?_ (aC 14 ?_ (aC 15 ?_ (aC 16 ?_ (iT 17)))))))))))))))));exact aCv;exact aCu;exact aAd;exact aCx;exact aB5;exact aB6;exact aB7;refine aF λa wq c=>⟨(aP rfl ah (c.new 3 21)),.pointer (some ⟨go,1,none⟩),?_,rfl⟩
  have bC:a.eval (.tmp 23)=.slice ↑go 2 2:=(c.new 5 23)
  exact aBB;exact azO;exact aB6;exact aB7;exact azC;refine aF λa wq c=>⟨(aP rfl ah (c.new 3 21)),.pointer ↑go,?_,rfl⟩
  have bC:a.eval (.tmp 27)=.slice ↑go 2 2:=(c.new 9 27)
  exact aBy;exact az1;refine ig λa wq c=>⟨(aP rfl ah (c.new 3 21)),49,#[.int .i64 1,.int .i64 0,.pointer ↑gb],?_,?_⟩
  exact az4;refine(acP.out wq (HE.out.trans c.ev)).mono ?_;rintro e wp ⟨rfl,mX⟩;exact⟨_,rfl,mX,rfl⟩
  ·refine aF λa w c=>⟨(aP rfl ah (c.new 3 21)),.bool false,?_,rfl⟩
   have e32:a.eval (.tmp 32)=↑r:=(c.new 14 32)
   have j_:a.eval (.const (.int .i64 0))=.int .i64 0:=rfl;generalize a.eval=ρ at e32 j_|-;simp[execOp,e32,j_,go_sem,hr]
  exact aCf
 intro s w2 hE hold hnew;have f0:s 0=.slice ↑go 2 2:=hold 0;have f1:s 1=.int .i64 0:=hold 1;have f2:s 2=.int .i64 2:=hold 2;have f3:s 3=.func (.func 49) #[] #[.pointer ↑gb]:=hold 3;have f8:s 8=.int .i64 1:=hold 8;have f9:s 9=.int .i64 1:=hold 9;have f34:s 34=.bool false:=hnew 16 34;change Exit.then _ _ .normal ⟨_,_⟩ _;simp only[List.range,List.range.loop,List.map];simp only[f0,f1,f2,f3,f8,f9,f34];clear hold hnew;go_wp2;rw[ayx];go_wp2;go_end0;exact⟨rfl,hE⟩
end Go.Proofs.YtpbfokkocaemlaaGreatDoor
