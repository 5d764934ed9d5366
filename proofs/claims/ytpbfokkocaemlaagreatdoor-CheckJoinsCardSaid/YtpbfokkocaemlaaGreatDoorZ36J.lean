import Derived.StillTailTactics
import Derived.Test.YtpbfokkocaemlaaGreatDoorZ32J
set_option linter.unusedVariables false
set_option maxRecDepth 100000
set_option maxHeartbeats 64000000
namespace Go.Proofs.YtpbfokkocaemlaaGreatDoor
open Go.RowKit
open Go.Lib renaming hid → zq
open Go renaming World → ak
open Go renaming Value → au
open Go.Proofs.Tryz renaming prog → ax
variable {U:Prop}
open Go.Proofs.Tryz
theorem WA(lf rt:List By)(a b:List C)(r:CR)(i:Nat):(sH lf rt a b r i).cols=r.cols:=by unfold sH;simp only;split;rw[CR.nN,CR.nN,CR.iM,CR.iM];rw[CR.gQ,CR.nN,CR.nN,CR.iM,CR.iM]
theorem WB(rt:List By)(r:CR)(c:C):(l9 rt r c).cols.length<=r.cols.length+1:=by unfold l9;split;omega;rw[CR.jV];simp
theorem ayo(h:U:=by clear hne;go_enter func35,ntmps35;exact ayp):U:=h
theorem WC(base:Nat)(va:au)(a b:List C)(lf rt:List By)(LA RA B:Option Addr)(ln yh rn Dt m Lm:Nat)(w:ak)(h:Ow 50 2 dZ base w va a)(hb:Cs w B m Lm b)(hl:Ss w LA ln yh lf)(hr:Ss w RA rn Dt rt)(hbl:∀ad,B=some ad->ad.block<w.heap.size/\ad.block∉foot va)(jG:∀ad,LA=some ad->ad.block<w.heap.size/\ad.block∉foot va)(hrl:∀ad,RA=some ad->ad.block<w.heap.size/\ad.block∉foot va)(hbase:base<=w.heap.size)(JK:a.length<=1000)(hbn:b.length<=1000)(hln:lf.length<=10000)(hne:¬(lf.length=rt.length/\lf.length≠0)):
  Calls ax 35 #[.slice LA ln yh,.slice RA rn Dt,va,.slice B m Lm] w (jX base va (oK lf rt a b) w):=by
 obtain⟨A,cap,rfl,hC,xY⟩:∃A cap,va=.slice A a.length cap/\Cs w A a.length cap a/\∀ad,A=some ad->ad.block<w.heap.size:=by exact aAT
 have H6:=pX h;have hle:=hC.le;have hmx:=hC.max;have ajk:=hb.le;have agG:=hb.max;have anV:=hl.le;have anW:=hl.max;have anX:=hr.le;have anY:=hr.max;have hL1:=hl.len;have hR1:=hr.len;have hB1:=hb.len;obtain⟨w0,hw0,aW,Jb,hs0⟩:=Wl w;have Ll:=f_.new (h.ev aW) (λk hk=>by have:=H6 k hk;omega);obtain⟨wa,zu⟩:∃wa,wa=w0.alloc (.cells #[.slice A a.length cap,.int .i64 0,.string ⟨#[]⟩] 58):=⟨_,rfl⟩
 have aK:Ev w0 wa:=by rw[zu];exact Ev.alloc _ _
 rw[<-zu]at Ll;have jP:=zq (Jb.ev aK);have P6:=zq (aW.trans aK);have Wh:=zq H6;have XN:w0.heap.size=w.heap.size+1:=hs0;have kL:=zq XN;have HF0:=zq (nM w0.heap.size base (CR.of a) (.slice A a.length cap) 23 ⟨#[]⟩ wa Ll);have HU:Hid (oK lf rt a b=(CR.of a).fail 23 ⟨#[]⟩):=zq (by unfold oK;rw[if_neg hne]);rw[HU.out];rw[hL1,hR1]at hne;generalize a.length=na at*;clear h hb hl hr hC Ll Jb aW aK H6 hs0 XN xY hbl jG hrl hL1 hR1 hB1 hbase;by_cases hm:ln=rn;subst hm;obtain rfl:ln=0:=by by_cases h0:ln=0;exact h0;exact absurd ⟨rfl,h0⟩ hne
 exact ayo;have i1:¬((ln:Int)=(rn:Int)):=ae;have i2:((ln:Int)==(rn:Int))=false:=awg.2 i1;have i3:((ln:Int) !=(rn:Int))=true:=by simp;omega
 have i4:(ln==rn)=false:=awg.2 hm;have i5:(ln !=rn)=true:=by simp[hm]
 exact ayo
theorem Ze(base:Nat)(va:au)(a b:List C)(lf rt:List By)(LA RA B:Option Addr)(ln yh rn Dt m Lm:Nat)(w:ak)(h:Ow 50 2 dZ base w va a)(hb:Cs w B m Lm b)(hl:Ss w LA ln yh lf)(hr:Ss w RA rn Dt rt)(hbl:∀ad,B=some ad->ad.block<w.heap.size/\ad.block∉foot va)(jG:∀ad,LA=some ad->ad.block<w.heap.size/\ad.block∉foot va)(hrl:∀ad,RA=some ad->ad.block<w.heap.size/\ad.block∉foot va)(hbase:base<=w.heap.size)(JK:a.length<=1000)(hbn:b.length<=1000)(hln:lf.length<=10000)(hne:lf.length=rt.length/\lf.length≠0):
  Calls ax 35 #[.slice LA ln yh,.slice RA rn Dt,va,.slice B m Lm] w (jX base va (oK lf rt a b) w):=by
 obtain⟨A,cap,rfl,hC,xY⟩:∃A cap,va=.slice A a.length cap/\Cs w A a.length cap a/\∀ad,A=some ad->ad.block<w.heap.size:=by exact aAT
 have H6:=pX h;have hle:=hC.le;have hmx:=hC.max;have ajk:=hb.le;have agG:=hb.max;have anV:=hl.le;have anW:=hl.max;have anX:=hr.le;have anY:=hr.max;have hL1:=hl.len;have hR1:=hr.len;have hB1:=hb.len;obtain⟨w0,hw0,aW,Jb,hs0⟩:=Wl w;have Ll:=f_.new (h.ev aW) (λk hk=>by have:=H6 k hk;omega);obtain⟨wa,zu⟩:∃wa,wa=w0.alloc (.cells #[.slice A a.length cap,.int .i64 0,.string ⟨#[]⟩] 58):=⟨_,rfl⟩
 have aK:Ev w0 wa:=by rw[zu];exact Ev.alloc _ _
 rw[<-zu]at Ll;have ZR:=zq Ll;have jP:=zq (Jb.ev aK);have P6:=zq (aW.trans aK);have Wh:=zq H6;have XN:w0.heap.size=w.heap.size+1:=hs0;have kL:=zq XN;have oW:Hid (∀w1,But [w0.heap.size] wa w1->Cs w1 A a.length cap a):=zq λw1 hb1=>(hC.ev (aW.trans aK)).but hb1 λad e=>by have:=xY ad e;simp;omega
 have pV:Hid (∀w1,But (w0.heap.size::foot (.slice A a.length cap)) wa w1->Cs w1 B m Lm b):=zq λw1 hb1=>(hb.ev (aW.trans aK)).but hb1 λad e hm=>by have:=hbl ad e;rcases awq.1 hm with h1|h1;omega;exact this.2 h1
 have HSL:Hid (∀w1,But (w0.heap.size::foot (.slice A a.length cap)) wa w1->Ss w1 LA ln yh lf):=zq λw1 hb1=>(hl.ev (aW.trans aK)).but hb1 λad e hm=>by have:=jG ad e;rcases awq.1 hm with h1|h1;omega;exact this.2 h1
 have HSR:Hid (∀w1,But (w0.heap.size::foot (.slice A a.length cap)) wa w1->Ss w1 RA rn Dt rt):=zq λw1 hb1=>(hr.ev (aW.trans aK)).but hb1 λad e hm=>by have:=hrl ad e;rcases awq.1 hm with h1|h1;omega;exact this.2 h1
 have HW:Hid (∀w1,But [w0.heap.size] wa w1->But (w0.heap.size::foot (.slice A a.length cap)) wa w1):=zq λw1 h1=>h1.wide λk hk=>.inl (by simp at hk;subst hk;exact awp ..);have Zf:=zq (λs r w1 (hR:f_ w0.heap.size base r (.slice A a.length cap) w1) (hb1:But [w0.heap.size] wa w1)=>I5 w0.heap.size base r (.slice A a.length cap) a A a.length cap s w1 hR (oW.out w1 hb1));have HFB:=zq (λs r w1 (hR:f_ w0.heap.size base r (.slice A a.length cap) w1) (hb1:But [w0.heap.size] wa w1)=>I5 w0.heap.size base r (.slice A a.length cap) b B m Lm s w1 hR (pV.out w1 (HW.out w1 hb1)));have Ox:=zq (λr nm w1 (hR:f_ w0.heap.size base r (.slice A a.length cap) w1)=>nM w0.heap.size base r (.slice A a.length cap) 22 nm w1 hR);have HOL:=zq (λi r s w1 (hi:i<=lf.length) (hR:f_ w0.heap.size base r (.slice A a.length cap) w1) (hb1:But [w0.heap.size] wa w1)=>Xz w0.heap.size base r (.slice A a.length cap) (lf.take i) LA i yh s w1 hR ((HSL.out w1 (HW.out w1 hb1)).to i (by rw[<-hL1];exact hi)));have HOR:=zq (λi r s w1 (hi:i<=rt.length) (hR:f_ w0.heap.size base r (.slice A a.length cap) w1) (hb1:But [w0.heap.size] wa w1)=>Xz w0.heap.size base r (.slice A a.length cap) (rt.take i) RA i Dt s w1 hR ((HSR.out w1 (HW.out w1 hb1)).to i (by rw[<-hR1];exact hi)));have HAD:=zq (λr v nm k w1 (hR:f_ w0.heap.size base r v w1) (MR:r.cols.length<=100000) (hb1:But (w0.heap.size::foot (.slice A a.length cap)) wa w1)=>P_ w0.heap.size base r v nm k w1 hR MR (by have:=hb1.size;have:=(aW.trans aK).size;omega));have HMR:Hid (∀(v:au) w1 w2,But (w0.heap.size::foot (.slice A a.length cap)) wa w1->fF wa (.slice A a.length cap) v->But (w0.heap.size::foot v) w1 w2->But (w0.heap.size::foot (.slice A a.length cap)) wa w2):=zq λv w1 w2 h1 h2 h3=>h1.trans h3 λx hx=>by rcases awq.1 hx with rfl|hx;exact .inl (awp ..);rcases h2 x (aG.1 hx) with h4|h4;exact .inl (awn _ (aG.2 h4));exact .inr h4
 have DT:Hid (∀(v v2:au) w1,But (w0.heap.size::foot (.slice A a.length cap)) wa w1->fF wa (.slice A a.length cap) v->fF w1 v v2->fF wa (.slice A a.length cap) v2):=zq λv v2 w1 h1 h2 h3 g hg=>by rcases h3 g hg with h4|h4;exact h2 g h4;exact .inr (awJ h1.size h4)
 have HGN:Hid (w.heap.size∉w0.heap.size::foot (.slice A a.length cap)):=zq λhm=>by rcases awq.1 hm with h1|h1;omega;have:=H6 _ h1;omega
 have anZ:ln=rn:=by rw[<-hL1,<-hR1];exact hne.1
 have an0:ln≠0:=by rw[<-hL1];exact hne.2
 obtain⟨R1,adY⟩:∃R1,R1=(List.range lf.length).foldl (sH lf rt a b) (CR.of a):=⟨_,rfl⟩
 obtain⟨R2,agU⟩:∃R2,R2=b.foldl (l9 rt) R1:=⟨_,rfl⟩
 have HU:Hid (oK lf rt a b=R2.limit):=zq (by unfold oK;rw[if_pos hne,<-adY,<-agU]);rw[HU.out];have mY:=zq adY;have uX:=zq agU;have ajF:R1.cols.length<=1000:=by have h1:=uM (sH lf rt a b) 0 (λr i=>by rw[WA];omega) (List.range lf.length) (CR.of a);have h3:(CR.of a).cols.length=a.length:=rfl;rw[<-adY]at h1;omega
 have qA:Hid (∀k,((b.take k).foldl (l9 rt) R1).cols.length<=2000):=zq λk=>by
  have h1:=uM (l9 rt) 1 (WB rt) (b.take k) R1;have h2:(b.take k).length<=b.length:=by rw[awT];omega
  omega
 unfold CX at HAD;have t_:=zq hL1;have ZT:=zq hR1;have XI:=zq hB1;obtain⟨na,E_⟩:∃na,na=a.length:=⟨_,rfl⟩
 simp only[<-E_]at hle oW pV HSL HSR HW Zf HFB Ox HOL HOR Wh ZR HAD HMR DT HGN zu|-;subst anZ;clear h hb hl hr hC Ll Jb aW aK H6 hs0 XN xY hbl jG hrl hL1 hR1 hB1 hbase hne adY agU E_;have z1:(ln==0)=false:=awg.2 an0;have z2:((ln:Int)==0)=false:=awg.2 ae;go_enter func35,ntmps35;go_upto_region 2 with fail
 rw[<-zu];clear zu;go_wp2
 go_loopw [31] (λiv wr=>∃(k:Nat),iv=↑k/\k<=ln/\Hid (f_ w0.heap.size base ((List.range k).foldl (sH lf rt a b) (CR.of a)) (.slice A na cap) wr)/\Hid (But [w0.heap.size] wa wr)) (λiv _=>ln - (intOf iv).toNat)
 case atStart=>exact⟨0,rfl,aww _,ZR,zq (But.refl _ _)⟩
 case round=>
  obtain⟨k,rfl,hk,HR,HB⟩:=hrel;by_cases hlt:k<ln
  ·obtain⟨l,hl⟩:=(HSL.out wr (HW.out wr HB.out)).at hlt;obtain⟨s,hs⟩:=(HSR.out wr (HW.out wr HB.out)).at hlt;obtain⟨bl,ol,rfl,l0⟩:=Ss.D9 (HSL.out wr (HW.out wr HB.out)) hl;obtain⟨br,or_,rfl,s0⟩:=Ss.D9 (HSR.out wr (HW.out wr HB.out)) hs;have HLC:Hid (∀w1,But [w0.heap.size] wa w1->w1.cell? ⟨bl,ol+k,none⟩=some ↑l/\w1.cell? ⟨br,or_+k,none⟩=some ↑s):=zq λw1 hb1=>by
    obtain⟨_,_,e1,h1⟩:=Ss.D9 (HSL.out w1 (HW.out w1 hb1)) hl;injection e1 with e1
    injection e1 with e1 e2 _
    subst e1 e2;obtain⟨_,_,e1,h2⟩:=Ss.D9 (HSR.out w1 (HW.out w1 hb1)) hs;injection e1 with e1
    injection e1 with e1 e2 _
    subst e1 e2;exact⟨h1,h2⟩
   obtain⟨r0,hr0⟩:∃r0,r0=(List.range k).foldl (sH lf rt a b) (CR.of a):=⟨_,rfl⟩
   have HST:Hid ((List.range (k+1)).foldl (sH lf rt a b) (CR.of a)=if dS a (dh l)=dS b (dh s) then ((((r0.find a (dh l)).find b (dh s)).once (lf.take k) (dh l)).once (rt.take k) (dh s)) else ((((r0.find a (dh l)).find b (dh s)).once (lf.take k) (dh l)).once (rt.take k) (dh s)).fail 22 (dh l)):=zq (by
    rw[zO,<-hr0];unfold sH;simp only;rw[show lf.getD k []=l by rw[axa,hl];rfl,show rt.getD k []=s by rw[axa,hs];rfl])
   rw[<-hr0]at HR;have K1:=Zf.out (dh l) r0 wr HR.out HB.out;have pq:k<=lf.length:=by rw[t_.out];exact hk
   have ZM:k<=rt.length:=by rw[ZT.out];exact hk
   unfold dh at K1;have K1:=zq K1;have i1:(0:Int)<=(k:Int):=ae;have i2:(k:Int)<(ln:Int):=ae;have i3:(k:Int)<=(yh:Int):=ae;have i4:(k:Int)<=(Dt:Int):=ae;have Ny:=zq pq;have HKR:=zq ZM;clear hl hs hr0 pq ZM;go_upto_region 10 with (first
    | ((with_reducible refine(K1.out).mono ?_);rintro r_ w2 ⟨rfl,hR2,hB2⟩;have ajG:=zq hR2;have EX:=zq (HB.out.then hB2);have K2:=HFB.out (dh s) _ w2 hR2 (HB.out.then hB2);unfold dh at K2;have K2:=zq K2;clear l0 s0;obtain⟨l0,s0⟩:=HLC.out w2 (HB.out.then hB2);clear hR2 hB2)
    | ((with_reducible refine(K2.out).mono ?_);rintro r_ w3 ⟨rfl,OQ,qB⟩;have adX:=zq OQ;have XT:=zq (EX.out.then qB);clear l0 s0;obtain⟨l0,s0⟩:=HLC.out w3 (EX.out.then qB);clear OQ qB))
   go_still_tail 7,ah
   generalize hwd:({heap:=w3.heap,tape:=w3.tape,drawn:=w3.drawn+1,os:=w3.os,output:=w3.output}:ak)=wd;have nD:Ev w3 wd:=hwd▸Ev.drew w3;have K3:=HOL.out k _ (dh l) wd Ny.out (adX.out.ev nD) (XT.out.then (But.aV nD));unfold dh at K3;have K3:=zq K3;have HBd:=zq (XT.out.then (But.aV nD));clear l0 s0;obtain⟨l0,s0⟩:=HLC.out wd HBd.out;clear hwd nD
   go_wp2_with (first
    | ((with_reducible refine(K3.out).mono ?_);rintro r_ w4 ⟨rfl,hR4,EZ⟩;have an2:=zq hR4;have HB4:=zq (HBd.out.then EZ);clear l0 s0;obtain⟨l0,s0⟩:=HLC.out w4 (HBd.out.then EZ);clear hR4 EZ))
   go_still_tail 7,ah
   generalize hwd:({heap:=w4.heap,tape:=w4.tape,drawn:=w4.drawn+1,os:=w4.os,output:=w4.output}:ak)=we;have hEe:Ev w4 we:=hwd▸Ev.drew w4;have K4:=HOR.out k _ (dh s) we HKR.out (an2.out.ev hEe) (HB4.out.then (But.aV hEe));unfold dh at K4;have K4:=zq K4;have HBe:=zq (HB4.out.then (But.aV hEe));clear l0 s0 hwd hEe;unfold dh at HST;by_cases Ip:dS a ⟨l.toArray⟩=dS b ⟨s.toArray⟩
   ·have hb1:(dS a ⟨l.toArray⟩==dS b ⟨s.toArray⟩)=true:=by simp[Ip]
    have hb2:(dS a ⟨l.toArray⟩ !=dS b ⟨s.toArray⟩)=false:=by simp[Ip]
    have HKK:=zq Ip;clear Ip
    go_wp2_with (first
     | ((with_reducible refine(K4.out).mono ?_);rintro r_ w5 ⟨rfl,hR5,TY⟩;have an4:=zq hR5;have OW:=zq (HBe.out.then TY);clear hR5 TY))
    go_roundw
    case rel=>exact⟨k+1,by go_num,ae,zq (by rw[HST.out,if_pos HKK.out];exact an4.out),OW⟩
    case measure=>simp[intOf];omega
   have hb1:(dS a ⟨l.toArray⟩==dS b ⟨s.toArray⟩)=false:=awg.2 Ip;have hb2:(dS a ⟨l.toArray⟩ !=dS b ⟨s.toArray⟩)=true:=by simp[Ip]
   have HKK:=zq Ip;clear Ip
   go_wp2_with (first
    | ((with_reducible refine(K4.out).mono ?_);rintro r_ w5 ⟨rfl,hR5,TY⟩;have OW:=zq (HBe.out.then TY);have K5:=zq (Ox.out _ ⟨l.toArray⟩ w5 hR5);obtain⟨l0,s0⟩:=HLC.out w5 (HBe.out.then TY);clear hR5 TY)
    | ((with_reducible refine(K5.out).mono ?_);rintro r_ w6 ⟨rfl,hR6,xK⟩;have an5:=zq hR6;have qE:=zq (OW.out.then xK);clear hR6 xK))
   go_roundw
   case rel=>exact⟨k+1,by go_num,ae,zq (by rw[HST.out,if_neg HKK.out];exact an5.out),qE⟩
   case measure=>simp[intOf];omega
  obtain rfl:k=ln:=ae;have HRa:Hid (f_ w0.heap.size base ((b.take 0).foldl (l9 rt) R1) (.slice A na cap) wr):=zq (by rw[mY.out,t_.out];exact HR.out);obtain⟨wo,rfl⟩:∃wo:ak,wo=wr:=⟨_,rfl⟩
  have HBW:=zq (HW.out wo HB.out);go_wp2
  go_loopw [73] (λiv wr=>∃(j:Nat) (v:au),iv=↑j/\j<=m/\Hid (f_ w0.heap.size base ((b.take j).foldl (l9 rt) R1) v wr)/\Hid (But (w0.heap.size::foot (.slice A na cap)) wa wr)/\Hid (fF wa (.slice A na cap) v)) (λiv _=>m - (intOf iv).toNat)
  case atStart=>exact⟨0,_,rfl,aww _,HRa,HBW,zq (λg hg=>.inl hg)⟩
  case round=>
   obtain⟨j,v5,rfl,hj,ZU,OW,HS5⟩:=hrel;by_cases ZP:j<m
   ·obtain⟨c,hc⟩:=(pV.out wr OW.out).at ZP;have HST:Hid ((b.take (j+1)).foldl (l9 rt) R1=if yP rt c.1 then (b.take j).foldl (l9 rt) R1 else ((b.take j).foldl (l9 rt) R1).add c.1 c.2):=zq (yQ hc);obtain⟨bc,oc,rfl,a0,a1⟩:=Cs.zM (pV.out wr OW.out) hc;obtain⟨_,_,e1,hbc,_⟩:=(pV.out wr OW.out).rd ae;injection e1 with e1
    injection e1 with e1 e2 _
    subst e1 e2;have hBC:=Bx.new 50 #[.string c.1,.int .i64 c.2] wr;have HBC:=zq hBC;have c0:=hBC.cell 0;have c0:(wr.alloc (.cells #[.string c.1,.int .i64 c.2] 50)).cell? ⟨wr.heap.size,0,none⟩=some (.string c.1):=c0;have c1:=hBC.cell 1;have c1:(wr.alloc (.cells #[.string c.1,.int .i64 c.2] 50)).cell? ⟨wr.heap.size,1,none⟩=some (.int .i64 c.2):=c1;have qE:=zq (OW.out.then (But.aV (Ev.alloc wr (.cells #[.string c.1,.int .i64 c.2] 50))));have HR6:=zq (ZU.out.ev (Ev.alloc wr (.cells #[.string c.1,.int .i64 c.2] 50)));have K1:=zN rt RA k Dt c.1 _ (HSR.out _ qE.out);have i1:(0:Int)<=(j:Int):=ae;have i2:(j:Int)<(m:Int):=ae;clear hc hBC
    cases hh:yP rt c.1
    ·rw[hh]at K1 HST;have K1:=zq K1;clear hh
     go_wp2_with (first
      | ((with_reducible refine(K1.out).mono ?_);rintro r_ w2 ⟨rfl,bQ⟩;have IC:=zq (qE.out.then (But.aV bQ));have HR7:=zq (HR6.out.ev bQ);have K2:=HAD.out _ v5 c.1 c.2 w2 (HR6.out.ev bQ) (by have:=qA.out j;omega) (qE.out.then (But.aV bQ));have K2:=zq K2;clear c0 c1;have c0:=(HBC.out.ev bQ).cell 0;have c0:w2.cell? ⟨wr.heap.size,0,none⟩=some (.string c.1):=c0;have c1:=(HBC.out.ev bQ).cell 1;have c1:w2.cell? ⟨wr.heap.size,1,none⟩=some (.int .i64 c.2):=c1;clear bQ)
      | ((with_reducible refine(K2.out).mono ?_);rintro r_ w3 ⟨rfl,v3,OQ,qB,ER⟩;have Zc:=zq OQ;have XT:=zq (HMR.out v5 w2 w3 IC.out HS5.out qB);have HS3:=zq (DT.out v5 v3 w2 IC.out HS5.out ER);clear OQ qB ER))
     go_roundw
     case rel=>exact⟨j+1,v3,by go_num,ae,zq (by rw[HST.out];exact Zc.out),XT,HS3⟩
     case measure=>simp[intOf];omega
    rw[hh]at K1 HST;have K1:=zq K1;clear hh
    go_wp2_with (first
     | ((with_reducible refine(K1.out).mono ?_);rintro r_ w2 ⟨rfl,bQ⟩;have IC:=zq (qE.out.then (But.aV bQ));have HR7:=zq (HR6.out.ev bQ);clear bQ))
    go_roundw
    case rel=>exact⟨j+1,v5,by go_num,ae,zq (by rw[HST.out];exact HR7.out),IC,HS5⟩
    case measure=>simp[intOf];omega
   obtain rfl:j=m:=ae;have HT5:Hid (b.take j=b):=zq (awC (by rw[XI.out];exact awj _));rw[HT5.out,<-uX.out]at ZU;obtain⟨A1,cap1,rfl,hC1⟩:=ZU.out.form;have HLM:=zq (D8 w0.heap.size base _ A1 _ cap1 wr ZU.out);clear hC1
   go_wp2_with (first
    | ((with_reducible refine(HLM.out).mono ?_);rintro r_ w4 ⟨rfl,hR2,hB2⟩;have HRF:=zq hR2;have HBF:=zq (OW.out.then (hB2.wide λk hk=>.inl (by simp at hk;subst hk;exact awp ..)));obtain⟨⟨d0,d1,d2⟩,_⟩:=hR2.box.three;obtain⟨⟨g0,g1,g2⟩,y0,y1,y2⟩:=(jP.out.but HBF.out HGN.out).three;clear hR2 hB2))
   (try simp only[Exit.inBlock,Exit.then]);rw[dw];obtain⟨f1,f2⟩:=lV P6.out jP.out HRF.out HBF.out HS5.out Wh.out ae (by have:=kL.out;omega) (by have:=kL.out;omega);exact aAO
mutual
theorem Ub{D:List Df}(hD:∀d∈D,d.2.length<=6):∀p:Pl,(ckOf D p).why=0->(ckOf D p).cols.length<=6
 | .mk k nm es cs lf rt ag l=>λh=>by
  have hl:=OX hD l;rw[ckOf]at h|-
  cases hb:zf (ckAll D l) with
  | some r=>
   rw[hb]at h;exact absurd h (Oy hb)
  | none=>
   rw[hb]at h;simp only at h|-;have hk:∀i,(((ckAll D l).map CR.cols).getD i []).length<=6:=λi=>by
    rw[axa,aw5]
    cases hi:(ckAll D l)[i]? with
    | none=>simp
    | some r=>exact hl r (awm hi) (SQ hb r (awm hi))
   generalize (ckAll D l).map CR.cols=K at*;unfold CY at h|-;by_cases h1:k=1;rw[if_pos h1]at h|-;unfold uu at h|-
   cases hf:D.find? (λd=>d.1==nm) with
   | none=>simp[CR.zero,CR.fail]
   | some d=>exact hD d (List.mem_of_find?_eq_some hf)
   rw[if_neg h1]at h|-;by_cases h2:k=2;rw[if_pos h2]at h|-;unfold sG;simp only;split;rw[CR.oU];exact hk 0;rw[CR.gQ,CR.oU];exact hk 0;rw[if_neg h2]at h|-;by_cases h3:k=3;rw[if_pos h3]at h|-;unfold qU at h|-;rw[CR.kE];exact(CR.qV.1 h).2;rw[if_neg h3]at h|-;by_cases h4:k=4;rw[if_pos h4]at h|-;unfold oK at h|-;split at h;rename_i hj;rw[if_pos hj,CR.kE];exact(CR.qV.1 h).2;rename_i hj;rw[if_neg hj,CR.gQ];exact hk 0;rw[if_neg h4]at h|-;by_cases h5:k=5
   ·rw[if_pos h5]at h|-;unfold uw;split
    ·have:∀(n:Nat) (r:CR),((List.range n).foldl (vC (K.getD 0 []) (K.getD 1 [])) r).cols=r.cols:=λn r=>by
      induction n with
      | zero=>rfl
      | succ n ih=>
       rw[zO];unfold vC;split;exact ih;rw[CR.gQ];exact ih
     rw[this];exact hk 0
    rw[CR.gQ];exact hk 0
   rw[if_neg h5]at h|-;by_cases h6:k=6;rw[if_pos h6];exact hk 0;rw[if_neg h6]at h|-;unfold uy at h|-;simp only at h|-;rw[CR.kE];exact(CR.qV.1 h).2
theorem OX{D:List Df}(hD:∀d∈D,d.2.length<=6):∀l:List Pl,∀r∈ckAll D l,r.why=0->r.cols.length<=6
 | []=>λr hr=>by rw[ckAll]at hr;cases hr
 | p::l=>λr hr h0=>by have hp:=Ub hD p;have hl:=OX hD l;rw[ckAll]at hr;rcases awq.1 hr with h1|h1;rw[h1]at h0|-;exact hp h0;exact hl r h1 h0
end
def kc(x:fE C):List au:=[.slice x.A x.l.length x.cap]
theorem adZ:Enc 1 kc:=⟨ae,λ_=>rfl,λx u hu=>by
 simp[kc]at hu;rcases hu with rfl;rfl⟩
theorem Tryz.abP:(Tryz.prog.info? 24).map (λi=>(i.zero,i.size,i.bytes))=some (some ↑(),1,24):=ah
structure Bz(w0:ak)(A:Option Addr)(cap:Nat)(Z:List (fE C))(w:ak):Prop where
 own:Ow 24 1 kc w0.heap.size w (.slice A Z.length cap) Z
 each:∀x∈Z,Ow 50 2 dZ w0.heap.size w (.slice x.A x.l.length x.cap) x.l
 apart:Z.Pairwise λx y=>∀g∈foot (.slice x.A x.l.length x.cap),g∉foot (.slice y.A y.l.length y.cap)
 off:∀x∈Z,∀g∈foot (.slice x.A x.l.length x.cap),g∉foot (.slice A Z.length cap)
 ev:Ev w0 w
theorem Bz.start(w0:ak):Bz w0 none 0 [] w0:=⟨Ow.nil_ _,(λx hx=>by cases hx),List.Pairwise.nil,(λx hx=>by cases hx),Ev.refl _⟩
theorem Bz.up{w0 w w':ak}{A:Option Addr}{cap:Nat}{Z:List (fE C)}(h:Bz w0 A cap Z w)(hE:Ev w w'):Bz w0 A cap Z w':=
 ⟨h.own.ev hE,λx hx=>(h.each x hx).ev hE,h.apart,h.off,h.ev.trans hE⟩
theorem Bz.next{w0 wr wp wq w2:ak}{A:Option Addr}{cap:Nat}{Z:List (fE C)}{x:fE C}{v2:au}(h:Bz w0 A cap Z wr)(hp:wr.heap.size<=wp.heap.size)(hE:Ev wr wq)(hx:Ow 50 2 dZ wp.heap.size wq (.slice x.A x.l.length x.cap) x.l)(hA:nR 24 1 kc w0.heap.size wq (.slice A Z.length cap) (Z++[x]) v2 w2):
  ∃A2 cap2,v2=.slice A2 (Z.length+1) cap2/\Bz w0 A2 cap2 (Z++[x]) w2:=by
 obtain⟨ho,hb,hs⟩:=hA;obtain⟨A2,cap2,rfl,_,_⟩:=ho.form adZ;have hl:(Z++[x]).length=Z.length+1:=aj;have hxb:∀g∈foot (.slice x.A x.l.length x.cap),wp.heap.size<=g/\g<wq.heap.size:=λg hg=>⟨(hx.lt (aG.1 hg)).1,(hx.lt (aG.1 hg)).2⟩
 have hzb:∀g∈foot (.slice A Z.length cap),g<wr.heap.size:=λg hg=>(h.own.lt (aG.1 hg)).2;have hyb:∀y∈Z,∀g∈foot (.slice y.A y.l.length y.cap),g<wr.heap.size:=λy hy g hg=>((h.each y hy).lt (aG.1 hg)).2;have hw0:=h.ev.size;have hK:∀k∈foot (.slice A Z.length cap),w0.heap.size<=k:=λk hk=>(h.own.lt (aG.1 hk)).1;refine⟨A2,cap2,by rw[hl],ho,λy hy=>?_,?_,λy hy g hg hm=>?_,((But.aV (h.ev.trans hE)).then hb).ev λk hk=>hK k hk⟩;rcases awD.1 hy with h1|h1;exact((h.each y h1).ev hE).but hb λg hg hm=>h.off y h1 g (aG.2 hg) hm;simp at h1;subst h1;refine Ow.Af (hx.but hb λg hg hm=>?_) (awJ hw0 hp);have h2:=(hxb g (aG.2 hg)).1;have h3:=hzb g hm;omega;rw[List.pairwise_append];refine⟨h.apart,List.pairwise_singleton _ _,λy hy z hz g hg hm=>?_⟩;simp at hz;subst hz;have h2:=(hxb g hm).1;have h3:=hyb y hy g hg;omega;have hlt:g<wq.heap.size:=by rcases awD.1 hy with h1|h1;exact awz (hyb y h1 g hg) hE.size;simp at h1;subst h1;exact(hxb g hg).2
 rcases hs g (aG.1 hm) with h2|h2;rcases awD.1 hy with h1|h1;exact h.off y h1 g hg (aG.2 h2);simp at h1;subst h1;have h3:=(hxb g hg).1;have h4:=hzb g (aG.2 h2);omega;omega
theorem Bz.cell{w0 w:ak}{A:Option Addr}{cap:Nat}{Z:List (fE C)}(h:Bz w0 A cap Z w){i:Nat}{x:fE C}(hx:Z[i]?=some x):∃b,A=some ⟨b,0,none⟩/\b<w.heap.size/\∀w1,Ev w w1->w1.cell? ⟨b,i,none⟩=some (.slice x.A x.l.length x.cap):=by
 obtain⟨A1,cap1,hv,hS,xY⟩:=h.own.form adZ;injection hv with h1 h2 h3
 subst h1;have hi:=(awi.1 hx).1;obtain⟨b,off,e,hlt,hc⟩:=hS.rd ae;have h5:=(xY _ e).2.2.2.1;injection h5 with _ h6 _
 subst h6;refine⟨b,e,hlt,λw1 hE=>?_⟩;have:=hc i x hx 0 _ rfl;rw[axY,awM,awL]at this;exact(hE.cell (p:=⟨_,_,none⟩) hlt).trans this
theorem xm{w wr w2:ak}{g base:Nat}{r:CR}{va v c0 c1 c2:au}(hE:Ev w wr)(hB:Bx 58 g #[c0,c1,c2] wr)(ho:Ow 50 2 dZ base w2 v r.cols)(hb:But (foot va) wr w2)(hs:fF wr va v)(H6:∀k∈foot va,w.heap.size<=k/\k≠g)(hg:w.heap.size<=g)(hbase:w.heap.size<=base):
  Bx 58 g #[v,↑r.why,.string r.name] (xX g v ↑r.why (.string r.name) w2)/\jX w.heap.size ↑() r w (.returned (.agg #[v,↑r.why,.string r.name])) (xX g v ↑r.why (.string r.name) w2):=by
 have P5:=hB.lt;have hgv:g∉foot v:=λhm=>by rcases hs g (aG.1 hm) with h1|h1;exact(H6 g (aG.2 h1)).2 rfl;omega
 have ER:=uV g v ↑r.why (.string r.name) w2;refine⟨(hB.but hb λhm=>(H6 g hm).2 rfl).xX _ _ _,v,rfl,(ho.but ER λk hk=>by simp;intro e;exact hgv (aG.2 (e▸hk))).Af hbase,?_,λk hk=>.inr ?_⟩;have h1:Ev w w2:=((But.aV hE).then hb).ev λk hk=>(H6 k hk).1;exact But.aV (h1.box ER hg);rcases hs k hk with h1|h1;exact(H6 k (aG.2 h1)).1;exact awJ hE.size h1
theorem ajK(w:ak)(cs:Array au):∃w0,(w.alloc (.cells cs 32)).alloc (.cells ↑Zz.d 58)=w0/\Ev w w0/\Bx 32 w.heap.size cs w0/\Bx 58 (w.heap.size+1) ↑Zz.d w0/\w0.heap.size=w.heap.size+2:=Ey w _ _
structure WE(D:List Df)(l:List PM)(k:Nat)(Z:List (fE C)):Prop where
 len:Z.length=k
 ok:∀r∈(l.take k).map (λx=>ckOf D x.p),r.why=0
 cols:Z.map fE.l=((l.take k).map λx=>ckOf D x.p).map CR.cols
theorem WE.next{D:List Df}{l:List PM}{k:Nat}{Z:List (fE C)}{x:PM}{z:fE C}(h:WE D l k Z)(hx:l[k]?=some x)(h0:(ckOf D x.p).why=0)(hz:z.l=(ckOf D x.p).cols):WE D l (k+1) (Z++[z]):=by
 obtain⟨hk,e⟩:=awi.1 hx;have ht:l.take (k+1)=l.take k++[x]:=by rw[aws hk,e]
 refine⟨by simp[h.len],λr hr=>?_,?_⟩;rw[ht,awt]at hr;rcases awD.1 hr with h1|h1;exact h.ok r h1;simp at h1;rw[h1];exact h0;rw[ht,awt,awt,awt,h.cols,awo,awG,hz];rfl
theorem abQ(D:List Df)(m:PM):ckOf D m.p=match zf (m.kids.map λx=>ckOf D x.p) with
  | some r=>r
  | none=>CY D m.kind m.name (m.ex.l.map M.t) m.co.l m.lf.l m.rt.l m.ag.l ((m.kids.map λx=>ckOf D x.p).map CR.cols):=by
 rw[PM.sD,ckOf,F8,awy];rfl
theorem WE.bad{D:List Df}{m:PM}{k:Nat}{Z:List (fE C)}{x:PM}(h:WE D m.kids k Z)(hx:m.kids[k]?=some x)(h0:(ckOf D x.p).why≠0):ckOf D m.p=ckOf D x.p:=by rw[abQ,YL (k:=k) (r:=ckOf D x.p) (λy hy=>h.ok y (by rwa [axe])) (by rw[aw5,hx];rfl) h0]
theorem WE.fin{D:List Df}{m:PM}{Z:List (fE C)}(h:WE D m.kids m.kids.length Z):ckOf D m.p=CY D m.kind m.name (m.ex.l.map M.t) m.co.l m.lf.l m.rt.l m.ag.l (Z.map fE.l):=by have h1:=h.ok;have h2:=h.cols;rw[aw0]at h1 h2;rw[abQ,CZ h1,h2]
theorem agV{m:PM}(h:m.p.good):x8 m.kind m.name (m.ex.l.map M.t) m.co.l m.lf.l m.rt.l m.ag.l m.kids.length/\∀x∈m.kids,x.p.good:=by rw[PM.sD,Pl.good,Pl.uK,awh]at h;exact⟨h.1,λx hx=>h.2 x.p (awS hx)⟩
theorem jX.up{base:Nat}{va:au}{r:CR}{w:ak}{e:Ending}{w1 w2:ak}(h:jX base va r w e w1)(hE:Ev w1 w2):jX base va r w e w2:=by obtain⟨v,he,ho,hb,hs⟩:=h;exact⟨v,he,ho.ev hE,hb.then (But.aV hE),hs⟩
theorem ajL{l:List M}{e:T}(h:l.map M.t=[e]):∃x,l=[x]:=by
 match l,h with
 | [x],_=>exact⟨x,rfl⟩
theorem WE.small{D:List Df}{l:List PM}{k:Nat}{Z:List (fE C)}(h:WE D l k Z)(hD:∀p,(ckOf D p).why=0->(ckOf D p).cols.length<=6):∀z∈Z,z.l.length<=6:=λz hz=>by have h1:z.l∈Z.map fE.l:=awS hz;rw[h.cols]at h1;obtain⟨r,hr,e⟩:=awN.1 h1;have h2:=h.ok r hr;obtain⟨x,_,rfl⟩:=awN.1 hr;rw[<-e];exact hD x.p h2
theorem Uc{base:Nat}{w:ak}{x:fE C}(h:Ow 50 2 dZ base w (.slice x.A x.l.length x.cap) x.l):Cs w x.A x.l.length x.cap x.l/\∀ad,x.A=some ad->base<=ad.block/\ad.block<w.heap.size/\ad.block∈foot (.slice x.A x.l.length x.cap):=by
 obtain⟨A,cap,hv,hS,hA⟩:=h.form nV;injection hv with h1 h2 h3
 rw[<-h1,<-h3]at hS;refine⟨hS,λad e=>?_⟩;have h4:=hA ad (h1▸e);exact⟨h4.2.1,h4.2.2.1,aG.2 h4.1⟩
theorem Bz.kid{w0 w wd:ak}{A:Option Addr}{cap:Nat}{Z:List (fE C)}{z:fE C}{i:Nat}(h:Bz w0 A cap Z w)(hz:Z[i]?=some z)(hE:Ev w wd):Ow 50 2 dZ w0.heap.size wd (.slice z.A z.l.length z.cap) z.l:=(h.each z (awm hz)).ev hE
theorem Bz.pair{w0 w:ak}{A:Option Addr}{cap:Nat}{Z:List (fE C)}{x y:fE C}(h:Bz w0 A cap Z w)(hz:Z=[x,y]):∀g∈foot (.slice y.A y.l.length y.cap),g∉foot (.slice x.A x.l.length x.cap):=λg hg hm=>by have:=h.apart;rw[hz]at this;have:=List.pairwise_cons.1 this;exact this.1 y aj g hm hg
theorem QD{α:Type}{l:List α}(h:l.length=1):∃x,l=[x]:=by
 match l,h with
 | [x],_=>exact⟨x,rfl⟩
theorem aAD(h:U:=by refine bodyPost_ret (aS rfl _ _ _ _ _ rfl f1 underlying58 rfl Tryz.eX) rfl ?_;rw[IB.out];exact f2):U:=h
theorem ayh(h:U:=by
 unfold jX at HT
 go_wp2_with (first
  | ((with_reducible refine(HT.out).mono ?_);rintro r_ w6 ⟨v,rfl,hO,xK,MS⟩;obtain⟨vA,vc,rfl,oJ,pM⟩:=hO.form nV;clear oJ pM;have HO:=zq hO;have qE:=zq xK;have Zg:=zq MS;obtain⟨⟨g0,g1,g2⟩,z0,z1,z2⟩:=(((jP.out.ev HS.out.ev).ev nD).but xK (λhm=>by have h1:=((HS.out.kid (i:=0) (z:=z) (by rw[hz];rfl) nD).lt (aG.1 hm)).1;omega)).three;have hg6:=(((jP.out.ev HS.out.ev).ev nD).but xK (λhm=>by have h1:=((HS.out.kid (i:=0) (z:=z) (by rw[hz];rfl) nD).lt (aG.1 hm)).1;omega)).lt;clear hO xK MS))
 (try simp only[Exit.inBlock,Exit.then]);rw[dw];obtain⟨f1,f2⟩:=xm (va:=.slice z.A z.l.length z.cap) ((dM.out.trans HS.out.ev).trans nD) ((jP.out.ev HS.out.ev).ev nD) HO.out qE.out Zg.out (λk hk=>by have h1:=((HS.out.kid (i:=0) (z:=z) (by rw[hz];rfl) aJ).lt (aG.1 hk)).1;omega) ae (by have:=kL.out;simp;omega);exact aAD):U:=h
theorem ayl(h:U:=by
 unfold jX at HT;rw[hmk,HMN.out,HMA.out,HMC.out]at HT
 go_wp2_with (first
  | ((with_reducible refine(HT.out).mono ?_);rintro r_ w6 ⟨v,rfl,hO,xK,MS⟩;obtain⟨vA,vc,rfl,oJ,pM⟩:=hO.form nV;clear oJ pM;have HO:=zq hO;have qE:=zq xK;have Zg:=zq MS;obtain⟨⟨g0,g1,g2⟩,z0,z1,z2⟩:=(((jP.out.ev HS.out.ev).ev nD).ev (xK.ev (λk hk=>by cases hk))).three;have hg6:=(((jP.out.ev HS.out.ev).ev nD).ev (xK.ev (λk hk=>by cases hk))).lt;clear hO xK MS))
 (try simp only[Exit.inBlock,Exit.then]);rw[dw];obtain⟨f1,f2⟩:=xm (va:=.slice none 0 0) ((dM.out.trans HS.out.ev).trans nD) ((jP.out.ev HS.out.ev).ev nD) HO.out qE.out Zg.out (λk hk=>by cases hk) ae (by have:=kL.out;simp;omega);exact aAD):U:=h
theorem az7(h:U:=by
 obtain⟨b2,e2,_,hcy⟩:=HS.out.cell (i:=1) (x:=y) (by rw[hz];rfl);injection e2 with e2
 injection e2 with e2
 subst e2;exact hcy wr aJ):U:=h
theorem ajM(N:Nat):∀(m:PM) (b0:Nat) (D:List DM) (DA:Option Addr) (dn WG:Nat) (w:ak),m.dep<=N->Qx b0 [] w m->m.p.good->m.p.fit->Kv w DA dn WG D->(∀d∈D,0<d.cols.length/\d.cols.length<=6)->
  Calls ax 18 #[.agg ↑m,.slice DA dn WG] w (jX w.heap.size ↑() (ckOf (D.map DM.df) m.p) w):=by
 induction N with
 | zero=>
  intro m b0 D DA dn WG w hd;rw[PM.nT]at hd;omega
 | succ N ih=>
  intro m b0 D DA dn WG w hd hQ hg hf hDs hDl;have fD:Tryz.prog.follows .mixedOrders=true:=ah;obtain⟨hgh,hgk⟩:=agV hg;obtain⟨hfh,hfk⟩:=aby hf;have mP:Hid (∀x∈m.kids,∀w1,Ev w w1->Calls ax 18 #[.agg ↑x,.slice DA dn WG] w1 (jX w1.heap.size ↑() (ckOf (D.map DM.df) x.p) w1)):=zq λx hx w1 hE=>ih x b0 D DA dn WG w1 (by have:=PM.mg hx;omega) ((hQ.kid x hx).ev hE) (hgk x hx) (hfk x hx) (hDs.ev hE) hDl;have HD6:Hid (∀p,(ckOf (D.map DM.df) p).why=0->(ckOf (D.map DM.df) p).cols.length<=6):=zq λp=>Ub (λd hd=>by obtain⟨x,hx,rfl⟩:=awN.1 hd;exact(hDl x hx).2) p;have HTB:=zq (λw1 (hE:Ev w w1)=>abG D DA dn WG m.name w1 (hDs.ev hE) hDl);have HKB:Hid (∀k Z (x:PM),WE (D.map DM.df) m.kids k Z->m.kids[k]?=some x->(ckOf (D.map DM.df) x.p).why≠0->ckOf (D.map DM.df) m.p=ckOf (D.map DM.df) x.p):=zq λk Z x h hx h0=>WE.bad h hx h0;have HKF:=zq (λZ (h:WE (D.map DM.df) m.kids m.kids.length Z)=>WE.fin h);obtain⟨D2,hD2⟩:∃D2,D2=D.map DM.df:=⟨_,rfl⟩
  rw[<-hD2]at mP HD6 HTB HKB HKF|-;obtain⟨CK,hCK⟩:∃CK,CK=ckOf D2 m.p:=⟨_,rfl⟩
  rw[<-hCK]at HKB HKF|-;have A7:=hQ.ps;have hkn:=A7.le;have Yk:=A7.max;have ZM:∀ad,m.A=some ad->ad.block<w.heap.size:=λad e=>(hQ.at.2.2.2.2.2.2.1.Bq ad e).2.1;have Gu:Hid (∀w1,Ev w w1->Ps w1 m.A m.kids.length m.cap m.kids):=zq λw1 hE=>A7.ev hE;have HQ:=zq hQ;have HGH:=zq hgh;have HFH:=zq hfh;have yG:m.kids.length<=10000:=hfh.2.2.2.2.2.2.2;obtain⟨w0,hw0,aW,yj,Jb,hs0⟩:=ajK w ↑m;have dM:=zq aW;have HPB:=zq yj;have jP:=zq Jb;have kL:=zq hs0;obtain⟨⟨p0,p1,p2,p3,p4,p5,p6,p7⟩,_⟩:=yj.eight;have xH:Hid (∀k x,m.kids[k]?=some x->x∈m.kids):=zq λk x h=>awm h;have hgw:=Jb.lt;clear hQ hg hf hDs hDl hgh hgk hfh hfk hD2 hCK ih hd A7 aW yj Jb hs0;generalize ZN:m.A=mA at*;generalize hmn:m.kids.length=nk at*;generalize hmc:m.cap=mc at*;generalize hmk:m.kind=kd at*;have HMA:=zq ZN;have HMC:=zq hmc;clear ZN hmc;have HMN:=zq hmn;clear hmn;go_enter func18,ntmps18;go_wp2
  go_loopw [5,12] (λzv iv wr=>∃(k:Nat) (Z:List (fE C)) (ZA:Option Addr) (zc:Nat),zv=.slice ZA k zc/\iv=↑k/\k<=nk/\Hid (Bz w0 ZA zc Z wr)/\Hid (WE D2 m.kids k Z)) (λ_ iv _=>nk - (intOf iv).toNat)
  case atStart=>exact⟨0,[],none,0,rfl,rfl,aww _,zq (Bz.start w0),zq ⟨rfl,(λr hr=>by simp at hr),aj⟩⟩
  case round=>
   obtain⟨k,Z,ZA,zc,rfl,rfl,hk,HS,HI⟩:=hrel;have hzl:=HI.out.len;subst hzl;by_cases hlt:Z.length<nk
   ·obtain⟨x,hx⟩:=(Gu.out _ (dM.out.trans HS.out.ev)).at hlt;obtain⟨bk,ok,rfl,hbk,_⟩:=(Gu.out _ (dM.out.trans HS.out.ev)).rd ae;obtain⟨x0,x1,x2,x3,x4,x5,x6,x7⟩:=Ps.cell (Gu.out _ (dM.out.trans HS.out.ev)) hx;unfold fE.v PM.kv at*;have iP:=xH.out _ x hx;have HIX:=zq (mP.out x iP);unfold jX at HIX;have HX:=zq hx;have Ai:=Bx.new 32 ↑x wr;obtain⟨⟨q0,q1,q2,q3,q4,q5,q6,q7⟩,_⟩:=Ai.eight;obtain⟨R,hR⟩:∃R,R=ckOf D2 x.p:=⟨_,rfl⟩
    rw[<-hR]at HIX;have HR:=zq hR;have i1:(0:Int)<=(Z.length:Int):=ae;have i2:(Z.length:Int)<(nk:Int):=ae;have hsw:=HS.out.ev.size;clear hx iP Ai hR;by_cases hw:R.why=0
    ·have HNX:Hid (∀z:fE C,z.l=R.cols->WE D2 m.kids (Z.length+1) (Z++[z])):=zq λz hz=>HI.out.next HX.out (by rw[<-HR.out];exact hw) (by rw[hz,HR.out])
     have MN:(R.why==0)=true:=by simp[hw]
     rw[hw]at HIX
     go_wp2_with (first
      | ((with_reducible refine(HIX.out _ ((dM.out.trans HS.out.ev).trans az)).mono ?_);rintro r_ w6 ⟨v,rfl,hO,xK,MS⟩;obtain⟨vA,vc,rfl,oJ,pM⟩:=hO.form nV;clear oJ pM;have nS:=xK.ev (λk hk=>by cases hk);have E6:=zq ((Ev.alloc wr _).trans nS);have HO:=zq hO;have hzl:Z.length<=10000:=ae;clear hO xK MS nS q0 q1 q2 q3 q4 q5 q6 q7)
      | ((show wpList _ _ _ (⟨some 27,_,_,_,_,_⟩::_) _ _);refine aO (o:=⟨some 27,_,_,_,_,_⟩) rfl 71 (.tmp 23) (.tmp 26) rfl adZ underlying71 Tryz.abP rfl rfl (HS.out.up (E6.out.trans (az.trans az))).own (some ⟨w6.heap.size+1,0,none⟩) 1 1 [⟨vA,vc,R.cols⟩] rfl (by have:=Sl.one (et:=24) adZ (w6.alloc (.cells #[.slice vA R.cols.length vc,.int .i64 0,.string R.name] 58)) ⟨vA,vc,R.cols⟩ #[.slice vA R.cols.length vc] rfl;simpa using this) (by simp;omega) (by simp;omega) (by have:=E6.out.size;simp;omega) ?_;intro v2 w7 gV;obtain⟨A2,cap2,rfl,hN7⟩:=HS.out.next aj (E6.out.trans (az.trans az)) (HO.out.ev (az.trans az)) gV;have HN7:=zq hN7;clear hN7 gV))
     go_roundw
     case rel=>exact⟨Z.length+1,Z++[⟨vA,vc,R.cols⟩],A2,cap2,rfl,by go_num,ae,HN7,zq (HNX.out _ rfl)⟩
     case measure=>simp[intOf];omega
    have MN:(R.why==0)=false:=awg.2 hw;have hwn:(R.why !=0)=true:=by simp[hw]
    have HCK:Hid (CK=R):=zq (by rw[HR.out];exact HKB.out _ _ x HI.out HX.out (by rw[<-HR.out];exact hw));rw[HCK.out]
    go_wp2_with (first
     | ((with_reducible refine(HIX.out _ ((dM.out.trans HS.out.ev).trans az)).mono ?_);rintro r_ w6 ⟨v,rfl,hO,xK,MS⟩;obtain⟨vA,vc,rfl,oJ,pM⟩:=hO.form nV;clear oJ pM;have nS:=xK.ev (λk hk=>by cases hk);have E6:=zq ((Ev.alloc wr _).trans nS);have HO:=zq hO;have Zg:=zq MS;obtain⟨⟨g0,g1,g2⟩,z0,z1,z2⟩:=((jP.out.ev HS.out.ev).ev ((Ev.alloc wr _).trans nS)).three;have hg6:=((jP.out.ev HS.out.ev).ev ((Ev.alloc wr _).trans nS)).lt;clear hO xK MS nS q0 q1 q2 q3 q4 q5 q6 q7))
    (try simp only[Exit.inBlock,Exit.then]);rw[dw];obtain⟨f1,f2⟩:=xm (va:=.slice none 0 0) (dM.out.trans HS.out.ev) (jP.out.ev HS.out.ev) HO.out (But.aV E6.out) (λg hg=>by rcases Zg.out g hg with h1|h1;exact .inl h1;exact .inr (by simp at h1;omega)) (λk hk=>by cases hk) ae (by have:=kL.out;simp;omega);refine bodyPost_ret (aS rfl _ _ _ _ _ rfl (f1.ev az) underlying58 rfl Tryz.eX) rfl ?_;exact f2.up az
   have UY:Z.length=nk:=ae;have HK:=zq (HKF.out Z (by have:=HI.out;rwa [UY]at this));have HZ6:=HI.out.small HD6.out;obtain⟨⟨p0,p1,p2,p3,p4,p5,p6,p7⟩,_⟩:=(HPB.out.ev HS.out.ev).eight;obtain⟨⟨g0,g1,g2⟩,z0,z1,z2⟩:=(jP.out.ev HS.out.ev).three;have hg6:=(jP.out.ev HS.out.ev).lt;have hsz:=dM.out.size;have hs0:=kL.out;have hsw:=HS.out.ev.size;go_upto_region 10 with fail
   rw[UY];rcases HGH.out with⟨rfl,-,-,-,-,-,-,hn⟩|⟨rfl,-,hes,-,-,-,-,hn⟩|⟨rfl,-,-,UT,-,-,-,-,-,hn⟩|⟨rfl,-,-,-,-,-,-,hn⟩|⟨rfl,-,-,-,-,-,-,hn⟩|⟨rfl,-,-,-,-,-,-,hn⟩|⟨rfl,-,-,-,-,-,-,hn⟩
   ·have HT:=zq (HTB.out wr (dM.out.trans HS.out.ev));unfold jX at HT;have IB:Hid (CK=uu D2 m.name):=HK;clear HK
    go_wp2_with (first
     | ((with_reducible refine(HT.out).mono ?_);rintro r_ w6 ⟨v,rfl,hO,xK,MS⟩;obtain⟨vA,vc,rfl,oJ,pM⟩:=hO.form nV;clear oJ pM;have HO:=zq hO;have qE:=zq xK;have Zg:=zq MS;obtain⟨⟨g0,g1,g2⟩,z0,z1,z2⟩:=((jP.out.ev HS.out.ev).ev (xK.ev (λk hk=>by cases hk))).three;have hg6:=((jP.out.ev HS.out.ev).ev (xK.ev (λk hk=>by cases hk))).lt;clear hO xK MS))
    (try simp only[Exit.inBlock,Exit.then]);rw[dw];obtain⟨f1,f2⟩:=xm (va:=.slice none 0 0) (dM.out.trans HS.out.ev) (jP.out.ev HS.out.ev) HO.out qE.out Zg.out (λk hk=>by cases hk) ae (by have:=kL.out;simp;omega);exact aAD
   ·subst hn;obtain⟨z,hz⟩:=QD UY;obtain⟨bz,rfl,hbz,hcz⟩:=HS.out.cell (i:=0) (x:=z) (by rw[hz];rfl);have hc0:=hcz wr aJ;obtain⟨hzC,hzA⟩:=Uc (HS.out.kid (i:=0) (z:=z) (by rw[hz];rfl) aJ);obtain⟨_,hes,_⟩:=hes;obtain⟨xe,hxe⟩:=ajL hes;have iJ:m.ex.l[0]?=some xe:=by rw[hxe];rfl
    clear hes;have iP:xe∈m.ex.l:=awm iJ;obtain⟨be,oe,Yl,hbl,e0,e1,e2,e3⟩:=Es.cell ((HQ.out.at.1.sl.ev (dM.out.trans HS.out.ev))) iJ;unfold M.kv at e3;simp only[awW,awM]at e0 e1 e2 e3;have IB:Hid (CK=sG xe.t z.l):=zq (by rw[HK.out,hz,hxe];rfl);clear HK;have hel:m.ex.l.length=1:=by rw[hxe];rfl
    rw[Yl,hel]at p2;clear Yl hel iJ;have HFE:=zq (HFH.out.2.1 xe.t (awS iP)).2;clear hxe;go_upto_region 15 with fail
    go_still_tail 7,ah
    generalize hwd:({heap:=wr.heap,tape:=wr.tape,drawn:=wr.drawn+1,os:=wr.os,output:=wr.output}:ak)=wd;have nD:Ev wr wd:=hwd▸Ev.drew wr;have hds:=nD.size;clear hwd;have HT:=zq (Y1 w0.heap.size (.slice z.A z.l.length z.cap) z.l xe b0 wd (HS.out.kid (i:=0) (z:=z) (by rw[hz];rfl) nD) ((HQ.out.at.2.1 xe iP).ev ((dM.out.trans HS.out.ev).trans nD)) HFE.out.1 HFE.out.2);exact ayh
   ·subst hn;obtain⟨z,hz⟩:=QD UY;obtain⟨bz,rfl,hbz,hcz⟩:=HS.out.cell (i:=0) (x:=z) (by rw[hz];rfl);have hc0:=hcz wr aJ;obtain⟨hzC,hzA⟩:=Uc (HS.out.kid (i:=0) (z:=z) (by rw[hz];rfl) aJ);have IB:Hid (CK=qU (m.ex.l.map M.t) m.co.l z.l):=zq (by rw[HK.out,hz];rfl);clear HK;have HEL:Hid (m.ex.l.length=m.co.l.length):=zq<|by have:=UT;rwa [awh]at this
    clear UT;have an9:Hid (m.ex.l.length<=10000):=zq<|by have:=HFH.out.2.2.2.1;rwa [awh]at this
    go_upto_region 17 with fail
    go_still_tail 4,ah
    generalize hwd:({heap:=wr.heap,tape:=wr.tape,drawn:=wr.drawn+1,os:=wr.os,output:=wr.output}:ak)=wd;have nD:Ev wr wd:=hwd▸Ev.drew wr;have hds:=nD.size;clear hwd;have HT:=zq (Wx m b0 wd (HQ.out.ev ((dM.out.trans HS.out.ev).trans nD)) z.l z.A z.l.length z.cap (hzC.ev nD) (λad e=>by have:=(hzA ad e).2.1;have:=nD.size;omega) HEL.out an9.out (λe he=>(HFH.out.2.1 e.t (awS he)).2));exact ayl
   ·subst hn;obtain⟨z,y,hz⟩:=PU UY;obtain⟨bz,rfl,hbz,hcz⟩:=HS.out.cell (i:=0) (x:=z) (by rw[hz];rfl);have hc0:=hcz wr aJ;have hc1:wr.cell? ⟨bz,1,none⟩=some (.slice y.A y.l.length y.cap):=by exact az7
    obtain⟨hyC,hyA⟩:=Uc (HS.out.kid (i:=1) (z:=y) (by rw[hz];rfl) aJ);have IB:Hid (CK=oK m.lf.l m.rt.l z.l y.l):=zq (by rw[HK.out,hz];rfl);clear HK;have htw:∀g∈foot (.slice y.A y.l.length y.cap),g∉foot (.slice z.A z.l.length z.cap):=HS.out.pair hz;go_upto_region 19 with fail
    go_still_tail 10,ah
    generalize hwd:({heap:=wr.heap,tape:=wr.tape,drawn:=wr.drawn+1,os:=wr.os,output:=wr.output}:ak)=wd;have nD:Ev wr wd:=hwd▸Ev.drew wr;have hds:=nD.size;clear hwd
    have HT:Hid (Calls ax 35 #[.slice m.lf.A m.lf.l.length m.lf.cap,.slice m.rt.A m.rt.l.length m.rt.cap,.slice z.A z.l.length z.cap,.slice y.A y.l.length y.cap] wd (jX w0.heap.size (.slice z.A z.l.length z.cap) (oK m.lf.l m.rt.l z.l y.l) wd)):=by by_cases hj:m.lf.l.length=m.rt.l.length/\m.lf.l.length≠0;exact zq (Ze w0.heap.size (.slice z.A z.l.length z.cap) z.l y.l m.lf.l m.rt.l m.lf.A m.rt.A y.A m.lf.l.length m.lf.cap m.rt.l.length m.rt.cap y.l.length y.cap wd (HS.out.kid (i:=0) (z:=z) (by rw[hz];rfl) nD) (hyC.ev nD) (HQ.out.at.2.2.2.1.sl.ev ((dM.out.trans HS.out.ev).trans nD)) (HQ.out.at.2.2.2.2.1.sl.ev ((dM.out.trans HS.out.ev).trans nD)) (λad e=>by have h1:=hyA ad e;have h2:=nD.size;exact⟨ae,htw ad.block h1.2.2⟩) (λad e=>by have h1:=(HQ.out.at.2.2.2.1.Bq ad e).2.1;have h2:=nD.size;exact⟨ae,λhm=>by have h3:=((HS.out.kid (i:=0) (z:=z) (by rw[hz];rfl) nD).lt (aG.1 hm)).1;omega⟩) (λad e=>by have h1:=(HQ.out.at.2.2.2.2.1.Bq ad e).2.1;have h2:=nD.size;exact⟨ae,λhm=>by have h3:=((HS.out.kid (i:=0) (z:=z) (by rw[hz];rfl) nD).lt (aG.1 hm)).1;omega⟩) (by have:=nD.size;omega) (by have:=HZ6 z (by rw[hz];simp);omega) (by have:=HZ6 y (by rw[hz];simp);omega) HFH.out.2.2.2.2.1 hj);exact zq (WC w0.heap.size (.slice z.A z.l.length z.cap) z.l y.l m.lf.l m.rt.l m.lf.A m.rt.A y.A m.lf.l.length m.lf.cap m.rt.l.length m.rt.cap y.l.length y.cap wd (HS.out.kid (i:=0) (z:=z) (by rw[hz];rfl) nD) (hyC.ev nD) (HQ.out.at.2.2.2.1.sl.ev ((dM.out.trans HS.out.ev).trans nD)) (HQ.out.at.2.2.2.2.1.sl.ev ((dM.out.trans HS.out.ev).trans nD)) (λad e=>by have h1:=hyA ad e;have h2:=nD.size;exact⟨ae,htw ad.block h1.2.2⟩) (λad e=>by have h1:=(HQ.out.at.2.2.2.1.Bq ad e).2.1;have h2:=nD.size;exact⟨ae,λhm=>by have h3:=((HS.out.kid (i:=0) (z:=z) (by rw[hz];rfl) nD).lt (aG.1 hm)).1;omega⟩) (λad e=>by have h1:=(HQ.out.at.2.2.2.2.1.Bq ad e).2.1;have h2:=nD.size;exact⟨ae,λhm=>by have h3:=((HS.out.kid (i:=0) (z:=z) (by rw[hz];rfl) nD).lt (aG.1 hm)).1;omega⟩) (by have:=nD.size;omega) (by have:=HZ6 z (by rw[hz];simp);omega) (by have:=HZ6 y (by rw[hz];simp);omega) HFH.out.2.2.2.2.1 hj)
    exact ayh
   ·subst hn;obtain⟨z,y,hz⟩:=PU UY;obtain⟨bz,rfl,hbz,hcz⟩:=HS.out.cell (i:=0) (x:=z) (by rw[hz];rfl);have hc0:=hcz wr aJ;have hc1:wr.cell? ⟨bz,1,none⟩=some (.slice y.A y.l.length y.cap):=by exact az7
    obtain⟨hyC,hyA⟩:=Uc (HS.out.kid (i:=1) (z:=y) (by rw[hz];rfl) aJ);have IB:Hid (CK=uw z.l y.l):=zq (by rw[HK.out,hz];rfl);clear HK;go_upto_region 21 with fail
    go_still_tail 6,ah
    generalize hwd:({heap:=wr.heap,tape:=wr.tape,drawn:=wr.drawn+1,os:=wr.os,output:=wr.output}:ak)=wd;have nD:Ev wr wd:=hwd▸Ev.drew wr;have hds:=nD.size;clear hwd;have HT:=zq (abH w0.heap.size (.slice z.A z.l.length z.cap) z.l y.l y.A y.l.length y.cap wd (HS.out.kid (i:=0) (z:=z) (by rw[hz];rfl) nD) (hyC.ev nD) (λad e=>by have:=(hyA ad e).2.1;have:=nD.size;omega));exact ayh
   ·subst hn;obtain⟨z,hz⟩:=QD UY;obtain⟨bz,rfl,hbz,hcz⟩:=HS.out.cell (i:=0) (x:=z) (by rw[hz];rfl);have hc0:=hcz wr aJ;have IB:Hid (CK=CR.of z.l):=zq (by rw[HK.out,hz];rfl);clear HK;have HO:=zq (HS.out.kid (i:=0) (z:=z) (by rw[hz];rfl) (Ev.refl wr))
    go_wp2_with fail
    (try simp only[Exit.inBlock,Exit.then]);rw[dw];obtain⟨f1,f2⟩:=xm (r:=CR.of z.l) (va:=.slice z.A z.l.length z.cap) (dM.out.trans HS.out.ev) (jP.out.ev HS.out.ev) HO.out (But.refl _ _) (fF.refl _ _) (λk hk=>by have h1:=((HS.out.kid (i:=0) (z:=z) (by rw[hz];rfl) aJ).lt (aG.1 hk)).1;omega) ae (by have:=kL.out;simp;omega);exact aAD
   subst hn;obtain⟨z,hz⟩:=QD UY;obtain⟨bz,rfl,hbz,hcz⟩:=HS.out.cell (i:=0) (x:=z) (by rw[hz];rfl);have hc0:=hcz wr aJ;obtain⟨hzC,hzA⟩:=Uc (HS.out.kid (i:=0) (z:=z) (by rw[hz];rfl) aJ);have IB:Hid (CK=uy m.lf.l m.ag.l z.l):=zq (by rw[HK.out,hz];rfl);clear HK;go_upto_region 11 with fail
   go_still_tail 4,ah
   generalize hwd:({heap:=wr.heap,tape:=wr.tape,drawn:=wr.drawn+1,os:=wr.os,output:=wr.output}:ak)=wd;have nD:Ev wr wd:=hwd▸Ev.drew wr;have hds:=nD.size;clear hwd;have HT:=zq (abO m b0 wd (HQ.out.ev ((dM.out.trans HS.out.ev).trans nD)) z.l z.A z.l.length z.cap (hzC.ev nD) (λad e=>by have:=(hzA ad e).2.1;have:=nD.size;omega) HFH.out.2.2.2.2.1 HFH.out.2.2.2.2.2.2.1);exact ayl
def Lu(s t:ByteArray):Int:=if Op.bytesLess s.toList t.toList then -1 else if s.toList==t.toList then 0 else 1
def LC(a b:Int):Int:=if a<b then -1 else if b<a then 1 else 0
theorem Zh(s t:ByteArray)(w:ak):(binOp .gtr 9 (.string s) (.string t)).run ax w=.ok (.bool !(Op.bytesLess s.toList t.toList||s.toList==t.toList)) w:=by unfold binOp;simp[go_sem,Op.stringOp]
theorem aBd(h:U:=by go_enter func51,ntmps51;go_wp2;go_ret;exact⟨rfl,rfl⟩):U:=h
theorem ad1(s t:ByteArray)(w:ak):Calls ax 51 #[.string s,.string t] w λe w'=>e=.returned (.int .i64 (Lu s t))/\w'=w:=by
 have hG:=Zh s t;unfold Lu
 cases h1:Op.bytesLess s.toList t.toList with
 | true=>
  exact aBd
 | false=>
  cases h2:s.toList==t.toList with
  | true=>
   simp only[h1,h2]at hG;exact aBd
  | false=>
   simp only[h1,h2]at hG;exact aBd
theorem aBe(h:U:=by go_enter func52,ntmps52;go_wp2;go_ret;exact⟨rfl,rfl⟩):U:=h
theorem ad2(a b:Int)(w:ak):Calls ax 52 #[↑a,↑b] w λe w'=>e=.returned (.int .i64 (LC a b))/\w'=w:=by unfold LC;by_cases h1:a<b;rw[if_pos h1];exact aBe;rw[if_neg h1];by_cases h2:b<a;rw[if_pos h2];exact aBe;rw[if_neg h2];exact aBe
def or2(x y:Int):Int:=if x=0 then y else x
theorem agZ(g:Nat)(x y:Int)(w:ak)(h:Bx 3 g #[↑x,↑y] w):Calls ax 50 #[.slice ↑g 2 2] w λe w'=>e=.returned (.int .i64 (or2 x y))/\w'=w:=by
 have c0:=h.cell 0;have c1:=h.cell 1;have c0:w.cell? ⟨g,0,none⟩=some ↑x:=c0;have c1:w.cell? ⟨g,1,none⟩=some ↑y:=c1;clear h;unfold or2;by_cases hx:x=0
 ·subst hx;rw[if_pos rfl];by_cases hy:y=0
  ·subst hy;go_enter func50,ntmps50;go_wp2;refine wp_loop_rounds 3 ?_;rw[rounds_succ];go_wp2;rw[rounds_succ];go_wp2;rw[rounds_succ];go_wp2;go_ret;exact⟨rfl,rfl⟩
  have hyn:(y==0)=false:=by simpa using hy
  go_enter func50,ntmps50;go_wp2;refine wp_loop_rounds 3 ?_;rw[rounds_succ];go_wp2;rw[rounds_succ];go_wp2;go_ret;exact⟨rfl,rfl⟩
 have hxn:(x==0)=false:=by simpa using hx
 rw[if_neg hx];go_enter func50,ntmps50;go_wp2;refine wp_loop_rounds 3 ?_;rw[rounds_succ];go_wp2;go_ret;exact⟨rfl,rfl⟩
def LD(x y:Int)(v:au)(w:ak):Prop:=∃g,v=.slice (some ⟨g,0,none⟩) 2 2/\Bx 3 g #[↑x,↑y] w
theorem LD.mono(x y:Int):o8 (LD x y):=λv w w' hE ⟨g,e,h⟩=>⟨g,e,h.ev hE⟩
def ad3(di dj:DM)(i j:Nat):Int:=or2 (Lu ⟨di.name.toArray⟩ ⟨dj.name.toArray⟩) (LC (i:Int) (j:Int))
theorem azl(h:U:=by
 refine aF λa w c=>⟨(ay rfl),.slice ↑(bd,od) n cap,?_,rfl⟩
 have e2:a.eval (.tmp 2)=.pointer ↑gb:=(c.was 2 rfl)
 have hc:=(c.ev.cell (p:=⟨gb,0,none⟩) P5).trans HB;generalize a.eval=ρ at e2|-;simp[execOp,e2,hc,go_sem]):U:=h
theorem aBb(h:U:=by refine aF λa w c=>⟨(ay rfl),_,run_move _ rfl w,(c.was 1 rfl)⟩):U:=h
theorem ad4(gb bd od n cap:Nat)(l:List DM)(i j:Nat)(di dj:DM)(w:ak)(hB:Bx 34 gb #[.slice ↑(bd,od) n cap] w)(h:Kv w ↑(bd,od) n cap l)(hi:l[i]?=some di)(hj:l[j]?=some dj):
  Calls ax 49 #[↑i,↑j,.pointer ↑gb] w λe w'=>e=.returned (.int .i64 (ad3 di dj i j))/\Ev w w':=by
 have fD:Tryz.prog.follows .mixedOrders=true:=ah;have HB:w.cell? ⟨gb,0,none⟩=some (.slice ↑(bd,od) n cap):=hB.cell 0;have P5:=hB.lt;have hnl:=h.sl.len;have zA:=h.sl.le;have hcm:=h.sl.max;obtain⟨b,o,e,hbl,ci,_⟩:=h.cell hi;obtain⟨b',o',e',_,cj,_⟩:=h.cell hj;injection e with e
 injection e with e1 e2 _
 injection e' with e'
 injection e' with e3 e4 _
 subst e1 e2 e3 e4;have Pg:=(awi.1 hi).1;have hjl:=(awi.1 hj).1;have i1:(0:Int)<=(i:Int):=ae;have i2:(i:Int)<(n:Int):=ae;have j1:(0:Int)<=(j:Int):=ae;have j2:(j:Int)<(n:Int):=ae;unfold ad3;clear hB h hi hj Pg hjl;go_enter func49,ntmps49;go_upto_region 1 with fail
 refine dD fD [λv _=>v=.slice ↑(bd,od) n cap,λv _=>v=↑i,λv _=>v=.pointer ↑(bd,od+i*2),λv _=>v=.pointer ↑(bd,od+i*2),λv _=>v=↑di.name,λv _=>v=.slice ↑(bd,od) n cap,λv _=>v=↑j,λv _=>v=.pointer ↑(bd,od+j*2),λv _=>v=.pointer ↑(bd,od+j*2),λv _=>v=↑dj.name,λv _=>v=.int .i64 (Lu ⟨di.name.toArray⟩ ⟨dj.name.toArray⟩),λv _=>v=↑i,λv _=>v=↑j,λv _=>v=.int .i64 (LC (i:Int) (j:Int)),LD (Lu ⟨di.name.toArray⟩ ⟨dj.name.toArray⟩) (LC (i:Int) (j:Int)),λv _=>v=.int .i64 (or2 (Lu ⟨di.name.toArray⟩ ⟨dj.name.toArray⟩) (LC (i:Int) (j:Int))),λv _=>v=.int .i64 (or2 (Lu ⟨di.name.toArray⟩ ⟨dj.name.toArray⟩) (LC (i:Int) (j:Int)))]
  22 rfl ah ⟨aB _,aB _,aB _,aB _,aB _,aB _,aB _,aB _,aB _,aB _,aB _,aB _,aB _,aB _,LD.mono _ _,aB _,aB _,trivial⟩ ?_ ?_
 ·refine aC 0 ?_ (aC 1 ?_ (aC 2 ?_ (aC 3 ?_ (aC 4 ?_ (aC 5 ?_ (aC 6 ?_ (aC 7 ?_ (aC 8 ?_ (aC 9 ?_ (aC 10 ?_ (aC 11 ?_ (aC 12 ?_ (aC 13 ?_ (aC 14 ?_ (aC 15 ?_ (aC 16 ?_ (kM 17)))))))))))))))));exact azl;exact aA_
  ·refine aF λa wq c=>⟨(ay rfl),.pointer ↑(bd,od+i*2),?_,rfl⟩
   have bD:a.eval (.tmp 6)=.slice ↑(bd,od) n cap:=(c.new 0 6)
   have mQ:a.eval (.tmp 7)=↑i:=(c.new 1 7)
   generalize a.eval=ρ at bD mQ|-;simp[execOp,bD,mQ,go_sem,i1,i2]
  ·refine aF λa w c=>⟨(ay rfl),.pointer ↑(bd,od+i*2),?_,rfl⟩
   have e8:a.eval (.tmp 8)=.pointer ↑(bd,od+i*2):=(c.new 2 8)
   generalize a.eval=ρ at e8|-;simp[execOp,e8,go_sem]
  ·refine aF λa w c=>⟨(ay rfl),↑di.name,?_,rfl⟩
   have e9:a.eval (.tmp 9)=.pointer ↑(bd,od+i*2):=(c.new 3 9)
   have hc:=(c.ev.cell (p:=⟨bd,od+i*2,none⟩) hbl).trans ci;generalize a.eval=ρ at e9|-;simp[execOp,e9,hc,go_sem]
  exact azl;exact aBb
  ·refine aF λa wq c=>⟨(ay rfl),.pointer ↑(bd,od+j*2),?_,rfl⟩
   have bD:a.eval (.tmp 11)=.slice ↑(bd,od) n cap:=(c.new 5 11)
   have mQ:a.eval (.tmp 12)=↑j:=(c.new 6 12)
   generalize a.eval=ρ at bD mQ|-;simp[execOp,bD,mQ,go_sem,j1,j2]
  ·refine aF λa w c=>⟨(ay rfl),.pointer ↑(bd,od+j*2),?_,rfl⟩
   have e13:a.eval (.tmp 13)=.pointer ↑(bd,od+j*2):=(c.new 7 13)
   generalize a.eval=ρ at e13|-;simp[execOp,e13,go_sem]
  ·refine aF λa w c=>⟨(ay rfl),↑dj.name,?_,rfl⟩
   have e14:a.eval (.tmp 14)=.pointer ↑(bd,od+j*2):=(c.new 8 14)
   have hc:=(c.ev.cell (p:=⟨bd,od+j*2,none⟩) hbl).trans cj;generalize a.eval=ρ at e14|-;simp[execOp,e14,hc,go_sem]
  refine gu λa wq c=>⟨(ay rfl),51,#[↑di.name,↑dj.name],?_,?_⟩
  rw[bC 51 _ _ rfl ah];have bD:a.eval (.tmp 10)=↑di.name:=(c.new 4 10)
  have mQ:a.eval (.tmp 15)=↑dj.name:=(c.new 9 15)
  simp[bD,mQ];refine(ad1 _ _ wq).mono ?_;rintro e wp ⟨rfl,rfl⟩;exact⟨_,rfl,Ev.refl _,rfl⟩;exact aA_;exact aBb;refine gu λa wq c=>⟨(ay rfl),52,#[↑i,↑j],?_,?_⟩
  rw[bC 52 _ _ rfl ah];have bD:a.eval (.tmp 17)=↑i:=(c.new 11 17)
  have mQ:a.eval (.tmp 18)=↑j:=(c.new 12 18)
  simp[bD,mQ];refine(ad2 _ _ wq).mono ?_;rintro e wp ⟨rfl,rfl⟩;exact⟨_,rfl,Ev.refl _,rfl⟩
  ·refine je λa wq c=>?_;have bD:a.eval (.tmp 16)=.int .i64 (Lu ⟨di.name.toArray⟩ ⟨dj.name.toArray⟩):=(c.new 10 16)
   have mQ:a.eval (.tmp 19)=.int .i64 (LC (i:Int) (j:Int)):=(c.new 13 19)
   refine⟨(ay rfl),.slice ↑wq.heap.size 2 2,wq.alloc (.cells #[.int .i64 (Lu ⟨di.name.toArray⟩ ⟨dj.name.toArray⟩),.int .i64 (LC (i:Int) (j:Int))] 3),?_,Ev.alloc _ _,⟨wq.heap.size,rfl,Bx.new _ _ _⟩⟩;generalize a.eval=ρ at bD mQ|-;simp[execOp,bD,mQ,go_sem]
  refine gu λa wq c=>?_;obtain⟨g_,eg_,hB_⟩:=(c.got 14 20 ah ah rfl:LD _ _ _ _)
  refine⟨(ay rfl),50,#[.slice ↑g_ 2 2],?_,?_⟩;rw[bC 50 _ _ rfl ah];simp[eg_];refine(agZ g_ _ _ wq hB_).mono ?_;rintro e wp ⟨rfl,rfl⟩;exact⟨_,rfl,Ev.refl _,rfl⟩;refine aF λa w c=>⟨(ay rfl),_,run_assign _ rfl w,(c.new 15 21)⟩
 intro s w2 hE hold hnew;have f0:s 0=↑i:=hold 0;have f1:s 1=↑j:=hold 1;have f2:s 2=.pointer ↑gb:=hold 2;have f5:s 5=.int .i64 (or2 (Lu ⟨di.name.toArray⟩ ⟨dj.name.toArray⟩) (LC (i:Int) (j:Int))):=hnew 16 5;change Exit.then _ _ .normal ⟨#[s 0,s 1,s 2,s 3,s 4,s 5,s 6,s 7,s 8,s 9,s 10,s 11,s 12,s 13,s 14,s 15,s 16,s 17,s 18,s 19,s 20,s 21],_⟩ _;simp only[f0,f1,f2,f5];go_wp2;go_ret;exact⟨rfl,hE⟩
theorem Zi{a:Act}{o:Oper}(f:FuncId)(cb:Array au)(x:Operand)(xs:Array Operand)(ts:Array TypeId)(ho:o.op=.call {callee:=.value x,args:=xs,argTypes:=ts})(h:Fb ax f=true)(hx:a.eval x=.func (.func f) #[] cb)(w:ak):
  (execOp a.eval o).run ax w=.ok (.enter f (xs.map a.eval++cb)) w:=by
 unfold execOp;rw[ho];simp[resolve,Deferred.ofValue,invoke,hx];exact Oc h _ w
theorem ad5(go gb:Nat)(r:Int)(w:ak)(hO:Bx 3 go #[.int .i64 0,.int .i64 1] w)(hr0:0<=r)(hC:∀w1,Ev w w1->Calls ax 49 #[.int .i64 1,.int .i64 0,.pointer ↑gb] w1 λe w'=>e=.returned ↑r/\Ev w1 w'):
  Calls ax 127 #[.slice ↑go 2 2,.int .i64 0,.int .i64 2,.func (.func 49) #[] #[.pointer ↑gb]] w λe w'=>e=.returned (.tuple #[])/\Ev w w':=by
 have fD:Tryz.prog.follows .mixedOrders=true:=ah;have o0:w.cell? ⟨go,0,none⟩=some (.int .i64 0):=hO.cell 0;have o1:w.cell? ⟨go,1,none⟩=some (.int .i64 1):=hO.cell 1;have hgo:=hO.lt;have hr:decide (r<0)=false:=by simp;omega
 have an':=zq hC;have HE:=zq (Ev.refl w);clear hO hC;go_enter func127,ntmps127;go_wp2;refine wp_loop_rounds 3 ?_;rw[rounds_succ];go_wp2;refine wp_loop_rounds 2 ?_;rw[rounds_succ];go_wp2;refine dD fD [λv _=>v=.int .i64 1,λv _=>v=.int .i64 0,λv _=>v=.bool true,λv _=>v=.bool true,λv _=>v=.func (.func 49) #[] #[.pointer ↑gb],λv _=>v=.slice ↑go 2 2,λv _=>v=.int .i64 1,λv _=>v=.pointer (some ⟨go,1,none⟩),λv _=>v=.int .i64 1,λv _=>v=.slice ↑go 2 2,λv _=>v=.int .i64 1,λv _=>v=.int .i64 0,λv _=>v=.pointer ↑go,λv _=>v=.int .i64 0,λv _=>v=↑r,λv _=>v=.bool false,λv _=>v=.bool false]
  53 rfl ah ⟨aB _,aB _,aB _,aB _,aB _,aB _,aB _,aB _,aB _,aB _,aB _,aB _,aB _,aB _,aB _,aB _,aB _,trivial⟩ ?_ ?_
 ·refine aC 0 ?_ (aC 1 ?_ (aC 2 ?_ (aC 3 ?_ (aC 4 ?_ (aC 5 ?_ (aC 6 ?_ (aC 7 ?_ (aC 8 ?_ (aC 9 ?_ (aC 10 ?_ (aC 11 ?_ (aC 12 ?_ (aC 13 ?_ (aC 14 ?_ (aC 15 ?_ (aC 16 ?_ (kM 17)))))))))))))))));refine aF λa w c=>⟨(ay rfl),_,run_move _ rfl w,(c.was 9 rfl)⟩
  exact aBb
  ·refine aF λa w c=>⟨(ay rfl),.bool true,?_,rfl⟩
   have e18:a.eval (.tmp 18)=.int .i64 1:=(c.new 0 18)
   have e19:a.eval (.tmp 19)=.int .i64 0:=(c.new 1 19)
   generalize a.eval=ρ at e18 e19|-;simp[execOp,e18,e19,go_sem]
  refine aF λa w c=>⟨(ay rfl),_,run_move _ rfl w,(c.new 2 20)⟩
  refine aF λa w c=>⟨(iY rfl ah (c.new 3 21)),_,run_move _ rfl w,(c.was 3 rfl)⟩
  refine aF λa w c=>⟨(iY rfl ah (c.new 3 21)),_,run_move _ rfl w,(c.was 0 rfl)⟩
  refine aF λa w c=>⟨(iY rfl ah (c.new 3 21)),_,run_move _ rfl w,(c.was 9 rfl)⟩
  ·refine aF λa wq c=>⟨(iY rfl ah (c.new 3 21)),.pointer (some ⟨go,1,none⟩),?_,rfl⟩
   have bD:a.eval (.tmp 23)=.slice ↑go 2 2:=(c.new 5 23)
   have mQ:a.eval (.tmp 24)=.int .i64 1:=(c.new 6 24)
   generalize a.eval=ρ at bD mQ|-;simp[execOp,bD,mQ,go_sem]
  ·refine aF λa w c=>⟨(iY rfl ah (c.new 3 21)),.int .i64 1,?_,rfl⟩
   have e25:a.eval (.tmp 25)=.pointer (some ⟨go,1,none⟩):=(c.new 7 25)
   have hc:=(c.ev.cell (p:=⟨go,1,none⟩) hgo).trans o1;generalize a.eval=ρ at e25|-;simp[execOp,e25,hc,go_sem]
  refine aF λa w c=>⟨(iY rfl ah (c.new 3 21)),_,run_move _ rfl w,(c.was 0 rfl)⟩
  refine aF λa w c=>⟨(iY rfl ah (c.new 3 21)),_,run_move _ rfl w,(c.was 9 rfl)⟩
  ·refine aF λa w c=>⟨(iY rfl ah (c.new 3 21)),.int .i64 0,?_,rfl⟩
   have e28:a.eval (.tmp 28)=.int .i64 1:=(c.new 10 28)
   have lh:a.eval (.const (.int .i64 1))=.int .i64 1:=rfl;generalize a.eval=ρ at e28 lh|-;simp[execOp,e28,lh,go_sem,show IntKind.i64.wrap 0=0 from rfl]
  ·refine aF λa wq c=>⟨(iY rfl ah (c.new 3 21)),.pointer ↑go,?_,rfl⟩
   have bD:a.eval (.tmp 27)=.slice ↑go 2 2:=(c.new 9 27)
   have mQ:a.eval (.tmp 29)=.int .i64 0:=(c.new 11 29)
   generalize a.eval=ρ at bD mQ|-;simp[execOp,bD,mQ,go_sem]
  ·refine aF λa w c=>⟨(iY rfl ah (c.new 3 21)),.int .i64 0,?_,rfl⟩
   have e30:a.eval (.tmp 30)=.pointer ↑go:=(c.new 12 30)
   have hc:=(c.ev.cell (p:=⟨go,0,none⟩) hgo).trans o0;generalize a.eval=ρ at e30|-;simp[execOp,e30,hc,go_sem]
  refine gu λa wq c=>⟨(iY rfl ah (c.new 3 21)),49,#[.int .i64 1,.int .i64 0,.pointer ↑gb],?_,?_⟩
  have bD:a.eval (.tmp 22)=.func (.func 49) #[] #[.pointer ↑gb]:=(c.new 4 22)
  have mQ:a.eval (.tmp 26)=.int .i64 1:=(c.new 8 26)
  have e_2:a.eval (.tmp 31)=.int .i64 0:=(c.new 13 31)
  rw[Zi 49 #[.pointer ↑gb] _ _ _ rfl ah bD];simp[mQ,e_2];refine(an'.out wq (HE.out.trans c.ev)).mono ?_;rintro e wp ⟨rfl,lT⟩;exact⟨_,rfl,lT,rfl⟩
  ·refine aF λa w c=>⟨(iY rfl ah (c.new 3 21)),.bool false,?_,rfl⟩
   have e32:a.eval (.tmp 32)=↑r:=(c.new 14 32)
   have lh:a.eval (.const (.int .i64 0))=.int .i64 0:=rfl;generalize a.eval=ρ at e32 lh|-;simp[execOp,e32,lh,go_sem,hr]
  refine aF λa w c=>⟨(ay rfl),_,MW rfl (c.new 3 21) w,(c.new 15 33)⟩
 intro s w2 hE hold hnew;have f0:s 0=.slice ↑go 2 2:=hold 0;have f1:s 1=.int .i64 0:=hold 1;have f2:s 2=.int .i64 2:=hold 2;have f3:s 3=.func (.func 49) #[] #[.pointer ↑gb]:=hold 3;have f8:s 8=.int .i64 1:=hold 8;have f9:s 9=.int .i64 1:=hold 9;have f34:s 34=.bool false:=hnew 16 34;change Exit.then _ _ .normal ⟨_,_⟩ _;simp only[List.range,List.range.loop,List.map];simp only[f0,f1,f2,f3,f8,f9,f34];clear hold hnew;go_wp2;rw[rounds_succ];go_wp2;go_end0;exact⟨rfl,hE⟩
end Go.Proofs.YtpbfokkocaemlaaGreatDoor
