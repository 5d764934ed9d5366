import Derived.StillTailTactics
import Derived.Test.YtpbfokkocaemlaaGreatDoorZ32S
set_option linter.unusedVariables false
set_option maxRecDepth 100000
set_option maxHeartbeats 64000000
namespace Go.Proofs.YtpbfokkocaemlaaGreatDoor
open Go.RowKit
open Go.Lib renaming hid → zq
theorem U5 (lf rt:List By) (a b:List C) (r:CR) (i:Nat):(vz lf rt a b r i).cols=r.cols:=by unfold vz;simp only;split;rw[CR.mO,CR.mO,CR.iC,CR.iC];rw[CR.f_,CR.mO,CR.mO,CR.iC,CR.iC]
theorem U6 (rt:List By) (r:CR) (c:C):(oI rt r c).cols.length≤r.cols.length+1:=by unfold oI;split;omega;rw[CR.kU];simp
theorem avI {P:Prop} (h:P:=by clear hne;go_enter Tryz.func35,Tryz.ntmps35;exact avJ):P:=h
theorem U7 (base:Nat) (va:Value) (a b:List C) (lf rt:List By) (LA RA B:Option Addr) (ln xh rn BL m JM:Nat) (w:World) (h:Ow 50 2 eP base w va a) (hb:Cs w B m JM b) (hl:Ss w LA ln xh lf) (hr:Ss w RA rn BL rt) (hbl:∀ad,B=some ad→ad.block<w.heap.size∧ad.block∉foot va) (jd:∀ad,LA=some ad→ad.block<w.heap.size∧ad.block∉foot va) (hrl:∀ad,RA=some ad→ad.block<w.heap.size∧ad.block∉foot va) (hbase:base≤w.heap.size) (Iw:a.length≤1000) (hbn:b.length≤1000) (hln:lf.length≤10000) (hne:¬(lf.length=rt.length∧lf.length≠0)):
  Calls Tryz.prog 35 #[.slice LA ln xh,.slice RA rn BL,va,.slice B m JM] w (jE base va (rM lf rt a b) w):=by
 obtain⟨A,cap,rfl,hC,wQ⟩:∃A cap,va=.slice A a.length cap∧Cs w A a.length cap a∧∀ad,A=some ad→ad.block<w.heap.size:=by exact ax_
 have Hq:=oN h;have hle:=hC.le;have hmx:=hC.max;have ahp:=hb.le;have aeV:=hb.max;have alB:=hl.le;have alC:=hl.max;have alD:=hr.le;have alE:=hr.max;have hL1:=hl.len;have hR1:=hr.len;have hB1:=hb.len;obtain⟨w0,hw0,aT,Hr,hs0⟩:=UW w;have JL:=fK.new (h.ev aT) (fun k hk=>by have:=Hq k hk;omega);obtain⟨wa,zM⟩:∃wa,wa=w0.alloc (.cells #[.slice A a.length cap,.int .i64 0,.string ⟨#[]⟩] 58):=⟨_,rfl⟩
 have aH:Ev w0 wa:=by rw[zM];exact Ev.alloc _ _
 rw[←zM]at JL;have jq:=zq (Hr.ev aH);have Ou:=zq (aT.trans aH);have UR:=zq Hq;have V3:w0.heap.size=w.heap.size+1:=hs0;have jR:=zq V3;have HF0:=zq (mM w0.heap.size base (CR.of a) (.slice A a.length cap) 23 ⟨#[]⟩ wa JL);have HU:Hid (rM lf rt a b=(CR.of a).fail 23 ⟨#[]⟩):=zq (by unfold rM;rw[if_neg hne]);rw[HU.out];rw[hL1,hR1]at hne;generalize a.length=na at*;clear h hb hl hr hC JL Hr aT aH Hq hs0 V3 wQ hbl jd hrl hL1 hR1 hB1 hbase;by_cases hm:ln=rn;subst hm;obtain rfl:ln=0:=by by_cases h0:ln=0;exact h0;exact absurd ⟨rfl,h0⟩ hne
 exact avI;have i1:¬((ln:Int)=(rn:Int)):=by omega
 have i2:((ln:Int)==(rn:Int))=false:=atp.2 i1;have i3:((ln:Int) !=(rn:Int))=true:=by simp;omega
 have i4:(ln==rn)=false:=atp.2 hm;have i5:(ln !=rn)=true:=by simp[hm]
 exact avI
theorem XJ (base:Nat) (va:Value) (a b:List C) (lf rt:List By) (LA RA B:Option Addr) (ln xh rn BL m JM:Nat) (w:World) (h:Ow 50 2 eP base w va a) (hb:Cs w B m JM b) (hl:Ss w LA ln xh lf) (hr:Ss w RA rn BL rt) (hbl:∀ad,B=some ad→ad.block<w.heap.size∧ad.block∉foot va) (jd:∀ad,LA=some ad→ad.block<w.heap.size∧ad.block∉foot va) (hrl:∀ad,RA=some ad→ad.block<w.heap.size∧ad.block∉foot va) (hbase:base≤w.heap.size) (Iw:a.length≤1000) (hbn:b.length≤1000) (hln:lf.length≤10000) (hne:lf.length=rt.length∧lf.length≠0):
  Calls Tryz.prog 35 #[.slice LA ln xh,.slice RA rn BL,va,.slice B m JM] w (jE base va (rM lf rt a b) w):=by
 obtain⟨A,cap,rfl,hC,wQ⟩:∃A cap,va=.slice A a.length cap∧Cs w A a.length cap a∧∀ad,A=some ad→ad.block<w.heap.size:=by exact ax_
 have Hq:=oN h;have hle:=hC.le;have hmx:=hC.max;have ahp:=hb.le;have aeV:=hb.max;have alB:=hl.le;have alC:=hl.max;have alD:=hr.le;have alE:=hr.max;have hL1:=hl.len;have hR1:=hr.len;have hB1:=hb.len;obtain⟨w0,hw0,aT,Hr,hs0⟩:=UW w;have JL:=fK.new (h.ev aT) (fun k hk=>by have:=Hq k hk;omega);obtain⟨wa,zM⟩:∃wa,wa=w0.alloc (.cells #[.slice A a.length cap,.int .i64 0,.string ⟨#[]⟩] 58):=⟨_,rfl⟩
 have aH:Ev w0 wa:=by rw[zM];exact Ev.alloc _ _
 rw[←zM]at JL;have Yn:=zq JL;have jq:=zq (Hr.ev aH);have Ou:=zq (aT.trans aH);have UR:=zq Hq;have V3:w0.heap.size=w.heap.size+1:=hs0;have jR:=zq V3;have Cc:Hid (∀w1,But [w0.heap.size] wa w1→Cs w1 A a.length cap a):=zq fun w1 hb1=>(hC.ev (aT.trans aH)).but hb1 fun ad e=>by have:=wQ ad e;simp;omega
 have wZ:Hid (∀w1,But (w0.heap.size::foot (.slice A a.length cap)) wa w1→Cs w1 B m JM b):=zq fun w1 hb1=>(hb.ev (aT.trans aH)).but hb1 fun ad e hm=>by have:=hbl ad e;rcases atA.1 hm with h1|h1;omega;exact this.2 h1
 have HSL:Hid (∀w1,But (w0.heap.size::foot (.slice A a.length cap)) wa w1→Ss w1 LA ln xh lf):=zq fun w1 hb1=>(hl.ev (aT.trans aH)).but hb1 fun ad e hm=>by have:=jd ad e;rcases atA.1 hm with h1|h1;omega;exact this.2 h1
 have HSR:Hid (∀w1,But (w0.heap.size::foot (.slice A a.length cap)) wa w1→Ss w1 RA rn BL rt):=zq fun w1 hb1=>(hr.ev (aT.trans aH)).but hb1 fun ad e hm=>by have:=hrl ad e;rcases atA.1 hm with h1|h1;omega;exact this.2 h1
 have HW:Hid (∀w1,But [w0.heap.size] wa w1→But (w0.heap.size::foot (.slice A a.length cap)) wa w1):=zq fun w1 h1=>h1.wide fun k hk=>.inl (by simp at hk;subst hk;exact atz ..);have XK:=zq (fun s r w1 (hR:fK w0.heap.size base r (.slice A a.length cap) w1) (hb1:But [w0.heap.size] wa w1)=>Ha w0.heap.size base r (.slice A a.length cap) a A a.length cap s w1 hR (Cc.out w1 hb1));have HFB:=zq (fun s r w1 (hR:fK w0.heap.size base r (.slice A a.length cap) w1) (hb1:But [w0.heap.size] wa w1)=>Ha w0.heap.size base r (.slice A a.length cap) b B m JM s w1 hR (wZ.out w1 (HW.out w1 hb1)));have Na:=zq (fun r nm w1 (hR:fK w0.heap.size base r (.slice A a.length cap) w1)=>mM w0.heap.size base r (.slice A a.length cap) 22 nm w1 hR);have HOL:=zq (fun i r s w1 (hi:i≤lf.length) (hR:fK w0.heap.size base r (.slice A a.length cap) w1) (hb1:But [w0.heap.size] wa w1)=>VM w0.heap.size base r (.slice A a.length cap) (lf.take i) LA i xh s w1 hR ((HSL.out w1 (HW.out w1 hb1)).to i (by rw[←hL1];exact hi)));have HOR:=zq (fun i r s w1 (hi:i≤rt.length) (hR:fK w0.heap.size base r (.slice A a.length cap) w1) (hb1:But [w0.heap.size] wa w1)=>VM w0.heap.size base r (.slice A a.length cap) (rt.take i) RA i BL s w1 hR ((HSR.out w1 (HW.out w1 hb1)).to i (by rw[←hR1];exact hi)));have HAD:=zq (fun r v nm k w1 (hR:fK w0.heap.size base r v w1) (KT:r.cols.length≤100000) (hb1:But (w0.heap.size::foot (.slice A a.length cap)) wa w1)=>OA w0.heap.size base r v nm k w1 hR KT (by have:=hb1.size;have:=(aT.trans aH).size;omega));have HMR:Hid (∀(v:Value) w1 w2,But (w0.heap.size::foot (.slice A a.length cap)) wa w1→eX wa (.slice A a.length cap) v→But (w0.heap.size::foot v) w1 w2→But (w0.heap.size::foot (.slice A a.length cap)) wa w2):=zq fun v w1 w2 h1 h2 h3=>h1.trans h3 fun x hx=>by rcases atA.1 hx with rfl|hx;exact .inl (atz ..);rcases h2 x (aB.1 hx) with h4|h4;exact .inl (aty _ (aB.2 h4));exact .inr h4
 have CE:Hid (∀(v v2:Value) w1,But (w0.heap.size::foot (.slice A a.length cap)) wa w1→eX wa (.slice A a.length cap) v→eX w1 v v2→eX wa (.slice A a.length cap) v2):=zq fun v v2 w1 h1 h2 h3 g hg=>by rcases h3 g hg with h4|h4;exact h2 g h4;exact .inr (atP h1.size h4)
 have HGN:Hid (w.heap.size∉w0.heap.size::foot (.slice A a.length cap)):=zq fun hm=>by rcases atA.1 hm with h1|h1;omega;have:=Hq _ h1;omega
 have alF:ln=rn:=by rw[←hL1,←hR1];exact hne.1
 have alG:ln≠0:=by rw[←hL1];exact hne.2
 obtain⟨R1,acm⟩:∃R1,R1=(List.range lf.length).foldl (vz lf rt a b) (CR.of a):=⟨_,rfl⟩
 obtain⟨R2,ae8⟩:∃R2,R2=b.foldl (oI rt) R1:=⟨_,rfl⟩
 have HU:Hid (rM lf rt a b=R2.limit):=zq (by unfold rM;rw[if_pos hne,←acm,←ae8]);rw[HU.out];have lX:=zq acm;have tZ:=zq ae8;have ahK:R1.cols.length≤1000:=by have h1:=tH (vz lf rt a b) 0 (fun r i=>by rw[U5];omega) (List.range lf.length) (CR.of a);have h3:(CR.of a).cols.length=a.length:=rfl;rw[←acm]at h1;omega
 have pg:Hid (∀k,((b.take k).foldl (oI rt) R1).cols.length≤2000):=zq fun k=>by
  have h1:=tH (oI rt) 1 (U6 rt) (b.take k) R1;have h2:(b.take k).length≤b.length:=by rw[aua];omega
  omega
 unfold Bo at HAD;have uS:=zq hL1;have Yo:=zq hR1;have VV:=zq hB1;obtain⟨na,JS⟩:∃na,na=a.length:=⟨_,rfl⟩
 simp only[←JS]at hle Cc wZ HSL HSR HW XK HFB Na HOL HOR UR Yn HAD HMR CE HGN zM⊢;subst alF;clear h hb hl hr hC JL Hr aT aH Hq hs0 V3 wQ hbl jd hrl hL1 hR1 hB1 hbase hne acm ae8 JS;have z1:(ln==0)=false:=atp.2 alG;have z2:((ln:Int)==0)=false:=atp.2 (by omega);go_enter Tryz.func35,Tryz.ntmps35;go_upto_region 2 with fail
 rw[←zM];clear zM;go_wp2
 go_loopw [31] (fun iv wr=>∃(k:Nat),iv=.int .i64 (k:Int)∧k≤ln∧Hid (fK w0.heap.size base ((List.range k).foldl (vz lf rt a b) (CR.of a)) (.slice A na cap) wr)∧Hid (But [w0.heap.size] wa wr)) (fun iv _=>ln - (intOf iv).toNat)
 case atStart=>exact⟨0,rfl,atG _,Yn,zq (But.refl _ _)⟩
 case round=>
  obtain⟨k,rfl,hk,HR,HB⟩:=hrel;by_cases hlt:k<ln
  ·obtain⟨l,hl⟩:=(HSL.out wr (HW.out wr HB.out)).at hlt;obtain⟨s,hs⟩:=(HSR.out wr (HW.out wr HB.out)).at hlt;obtain⟨bl,ol,rfl,l0⟩:=Ss.CZ (HSL.out wr (HW.out wr HB.out)) hl;obtain⟨br,or_,rfl,s0⟩:=Ss.CZ (HSR.out wr (HW.out wr HB.out)) hs;have HLC:Hid (∀w1,But [w0.heap.size] wa w1→w1.cell? ⟨bl,ol+k,none⟩=some (.string ⟨l.toArray⟩)∧w1.cell? ⟨br,or_+k,none⟩=some (.string ⟨s.toArray⟩)):=zq fun w1 hb1=>by
    obtain⟨_,_,e1,h1⟩:=Ss.CZ (HSL.out w1 (HW.out w1 hb1)) hl;injection e1 with e1
    injection e1 with e1 e2 _
    subst e1;subst e2;obtain⟨_,_,e1,h2⟩:=Ss.CZ (HSR.out w1 (HW.out w1 hb1)) hs;injection e1 with e1
    injection e1 with e1 e2 _
    subst e1;subst e2;exact⟨h1,h2⟩
   obtain⟨r0,hr0⟩:∃r0,r0=(List.range k).foldl (vz lf rt a b) (CR.of a):=⟨_,rfl⟩
   have HST:Hid ((List.range (k+1)).foldl (vz lf rt a b) (CR.of a)=if dR a (dh l)=dR b (dh s) then ((((r0.find a (dh l)).find b (dh s)).once (lf.take k) (dh l)).once (rt.take k) (dh s)) else ((((r0.find a (dh l)).find b (dh s)).once (lf.take k) (dh l)).once (rt.take k) (dh s)).fail 22 (dh l)):=zq (by
    rw[vC,←hr0];unfold vz;simp only;rw[show lf.getD k []=l by rw[aus,hl];rfl,show rt.getD k []=s by rw[aus,hs];rfl])
   rw[←hr0]at HR;have K1:=XK.out (dh l) r0 wr HR.out HB.out;have ou:k≤lf.length:=by rw[uS.out];exact hk
   have Yi:k≤rt.length:=by rw[Yo.out];exact hk
   unfold dh at K1;have K1:=zq K1;have i1:(0:Int)≤(k:Int):=by omega
   have i2:(k:Int)<(ln:Int):=by omega
   have i3:(k:Int)≤(xh:Int):=by omega
   have i4:(k:Int)≤(BL:Int):=by omega
   have LJ:=zq ou;have HKR:=zq Yi;clear hl hs hr0 ou Yi;go_upto_region 10 with (first
    | ((with_reducible refine (K1.out).mono ?_);rintro r_ w2 ⟨rfl,hR2,hB2⟩;have ahL:=zq hR2;have DY:=zq (HB.out.then hB2);have K2:=HFB.out (dh s) _ w2 hR2 (HB.out.then hB2);unfold dh at K2;have K2:=zq K2;clear l0 s0;obtain⟨l0,s0⟩:=HLC.out w2 (HB.out.then hB2);clear hR2 hB2)
    | ((with_reducible refine (K2.out).mono ?_);rintro r_ w3 ⟨rfl,Ny,pq⟩;have ack:=zq Ny;have V6:=zq (DY.out.then pq);clear l0 s0;obtain⟨l0,s0⟩:=HLC.out w3 (DY.out.then pq);clear Ny pq))
   go_still_tail 7,(by kernel_rfl)
   generalize hwd:({heap:=w3.heap,tape:=w3.tape,drawn:=w3.drawn+1,os:=w3.os,output:=w3.output}:World)=wd;have mg:Ev w3 wd:=hwd▸Ev.drew w3;have K3:=HOL.out k _ (dh l) wd LJ.out (ack.out.ev mg) (V6.out.then (But.aS mg));unfold dh at K3;have K3:=zq K3;have HBd:=zq (V6.out.then (But.aS mg));clear l0 s0;obtain⟨l0,s0⟩:=HLC.out wd HBd.out;clear hwd mg
   go_wp2_with (first
    | ((with_reducible refine (K3.out).mono ?_);rintro r_ w4 ⟨rfl,hR4,D5⟩;have alI:=zq hR4;have HB4:=zq (HBd.out.then D5);clear l0 s0;obtain⟨l0,s0⟩:=HLC.out w4 (HBd.out.then D5);clear hR4 D5))
   go_still_tail 7,(by kernel_rfl)
   generalize hwd:({heap:=w4.heap,tape:=w4.tape,drawn:=w4.drawn+1,os:=w4.os,output:=w4.output}:World)=we;have hEe:Ev w4 we:=hwd▸Ev.drew w4;have K4:=HOR.out k _ (dh s) we HKR.out (alI.out.ev hEe) (HB4.out.then (But.aS hEe));unfold dh at K4;have K4:=zq K4;have HBe:=zq (HB4.out.then (But.aS hEe));clear l0 s0;clear hwd hEe;unfold dh at HST;by_cases Gv:dR a ⟨l.toArray⟩=dR b ⟨s.toArray⟩
   ·have hb1:(dR a ⟨l.toArray⟩==dR b ⟨s.toArray⟩)=true:=by simp[Gv]
    have hb2:(dR a ⟨l.toArray⟩ !=dR b ⟨s.toArray⟩)=false:=by simp[Gv]
    have HKK:=zq Gv;clear Gv
    go_wp2_with (first
     | ((with_reducible refine (K4.out).mono ?_);rintro r_ w5 ⟨rfl,hR5,RI⟩;have alK:=zq hR5;have NF:=zq (HBe.out.then RI);clear hR5 RI))
    go_roundw
    case rel=>exact⟨k+1,by go_num,by omega,zq (by rw[HST.out,if_pos HKK.out];exact alK.out),NF⟩
    case measure=>simp[intOf];omega
   have hb1:(dR a ⟨l.toArray⟩==dR b ⟨s.toArray⟩)=false:=atp.2 Gv;have hb2:(dR a ⟨l.toArray⟩ !=dR b ⟨s.toArray⟩)=true:=by simp[Gv]
   have HKK:=zq Gv;clear Gv
   go_wp2_with (first
    | ((with_reducible refine (K4.out).mono ?_);rintro r_ w5 ⟨rfl,hR5,RI⟩;have NF:=zq (HBe.out.then RI);have K5:=zq (Na.out _ ⟨l.toArray⟩ w5 hR5);obtain⟨l0,s0⟩:=HLC.out w5 (HBe.out.then RI);clear hR5 RI)
    | ((with_reducible refine (K5.out).mono ?_);rintro r_ w6 ⟨rfl,hR6,wE⟩;have alL:=zq hR6;have pF:=zq (NF.out.then wE);clear hR6 wE))
   go_roundw
   case rel=>exact⟨k+1,by go_num,by omega,zq (by rw[HST.out,if_neg HKK.out];exact alL.out),pF⟩
   case measure=>simp[intOf];omega
  obtain rfl:k=ln:=by omega
  have HRa:Hid (fK w0.heap.size base ((b.take 0).foldl (oI rt) R1) (.slice A na cap) wr):=zq (by rw[lX.out,uS.out];exact HR.out);obtain⟨wo,rfl⟩:∃wo:World,wo=wr:=⟨_,rfl⟩
  have HBW:=zq (HW.out wo HB.out);go_wp2
  go_loopw [73] (fun iv wr=>∃(j:Nat) (v:Value),iv=.int .i64 (j:Int)∧j≤m∧Hid (fK w0.heap.size base ((b.take j).foldl (oI rt) R1) v wr)∧Hid (But (w0.heap.size::foot (.slice A na cap)) wa wr)∧Hid (eX wa (.slice A na cap) v)) (fun iv _=>m - (intOf iv).toNat)
  case atStart=>exact⟨0,_,rfl,atG _,HRa,HBW,zq (fun g hg=>.inl hg)⟩
  case round=>
   obtain⟨j,v5,rfl,hj,Yp,NF,HS5⟩:=hrel;by_cases Yl:j<m
   ·obtain⟨c,hc⟩:=(wZ.out wr NF.out).at Yl;have HST:Hid ((b.take (j+1)).foldl (oI rt) R1=if Bl rt c.1 then (b.take j).foldl (oI rt) R1 else ((b.take j).foldl (oI rt) R1).add c.1 c.2):=zq (xZ hc);obtain⟨bc,oc,rfl,a0,a1⟩:=Cs.I_ (wZ.out wr NF.out) hc;obtain⟨_,_,e1,hbc,_⟩:=(wZ.out wr NF.out).rd (by omega);injection e1 with e1
    injection e1 with e1 e2 _
    subst e1;subst e2;have ZM:=Bx.new 50 #[.string c.1,.int .i64 c.2] wr;have HBC:=zq ZM;have c0:=ZM.cell 0;have c0:(wr.alloc (.cells #[.string c.1,.int .i64 c.2] 50)).cell? ⟨wr.heap.size,0,none⟩=some (.string c.1):=c0;have c1:=ZM.cell 1;have c1:(wr.alloc (.cells #[.string c.1,.int .i64 c.2] 50)).cell? ⟨wr.heap.size,1,none⟩=some (.int .i64 c.2):=c1;have pF:=zq (NF.out.then (But.aS (Ev.alloc wr (.cells #[.string c.1,.int .i64 c.2] 50))));have HR6:=zq (Yp.out.ev (Ev.alloc wr (.cells #[.string c.1,.int .i64 c.2] 50)));have K1:=yU rt RA k BL c.1 _ (HSR.out _ pF.out);have i1:(0:Int)≤(j:Int):=by omega
    have i2:(j:Int)<(m:Int):=by omega
    clear hc ZM
    cases hh:Bl rt c.1
    ·rw[hh]at K1 HST;have K1:=zq K1;clear hh
     go_wp2_with (first
      | ((with_reducible refine (K1.out).mono ?_);rintro r_ w2 ⟨rfl,bK⟩;have GM:=zq (pF.out.then (But.aS bK));have HR7:=zq (HR6.out.ev bK);have K2:=HAD.out _ v5 c.1 c.2 w2 (HR6.out.ev bK) (by have:=pg.out j;omega) (pF.out.then (But.aS bK));have K2:=zq K2;clear c0 c1;have c0:=(HBC.out.ev bK).cell 0;have c0:w2.cell? ⟨wr.heap.size,0,none⟩=some (.string c.1):=c0;have c1:=(HBC.out.ev bK).cell 1;have c1:w2.cell? ⟨wr.heap.size,1,none⟩=some (.int .i64 c.2):=c1;clear bK)
      | ((with_reducible refine (K2.out).mono ?_);rintro r_ w3 ⟨rfl,v3,Ny,pq,DV⟩;have XH:=zq Ny;have V6:=zq (HMR.out v5 w2 w3 GM.out HS5.out pq);have HS3:=zq (CE.out v5 v3 w2 GM.out HS5.out DV);clear Ny pq DV))
     go_roundw
     case rel=>exact⟨j+1,v3,by go_num,by omega,zq (by rw[HST.out];exact XH.out),V6,HS3⟩
     case measure=>simp[intOf];omega
    rw[hh]at K1 HST;have K1:=zq K1;clear hh
    go_wp2_with (first
     | ((with_reducible refine (K1.out).mono ?_);rintro r_ w2 ⟨rfl,bK⟩;have GM:=zq (pF.out.then (But.aS bK));have HR7:=zq (HR6.out.ev bK);clear bK))
    go_roundw
    case rel=>exact⟨j+1,v5,by go_num,by omega,zq (by rw[HST.out];exact HR7.out),GM,HS5⟩
    case measure=>simp[intOf];omega
   obtain rfl:j=m:=by omega
   have HT5:Hid (b.take j=b):=zq (atJ (by rw[VV.out];exact att _));rw[HT5.out,←tZ.out]at Yp;obtain⟨A1,cap1,rfl,hC1⟩:=Yp.out.form;have HLM:=zq (CY w0.heap.size base _ A1 _ cap1 wr Yp.out);clear hC1
   go_wp2_with (first
    | ((with_reducible refine (HLM.out).mono ?_);rintro r_ w4 ⟨rfl,hR2,hB2⟩;have HRF:=zq hR2;have HBF:=zq (NF.out.then (hB2.wide fun k hk=>.inl (by simp at hk;subst hk;exact atz ..)));obtain⟨⟨d0,d1,d2⟩,_⟩:=hR2.box.three;obtain⟨⟨g0,g1,g2⟩,y0,y1,y2⟩:=(jq.out.but HBF.out HGN.out).three;clear hR2 hB2))
   (try simp only[Exit.inBlock,Exit.then]);rw[cO];obtain⟨f1,f2⟩:=kX Ou.out jq.out HRF.out HBF.out HS5.out UR.out (by omega) (by have:=jR.out;omega) (by have:=jR.out;omega);exact ax5
mutual
theorem RQ {D:List Df} (hD:∀d∈D,d.2.length≤6):∀p:Pl,(ckOf D p).why=0→(ckOf D p).cols.length≤6
 | .mk k nm es cs lf rt ag l=>fun h=>by
  have hl:=NG hD l;rw[ckOf]at h⊢
  cases hb:yA (ckAll D l) with
  | some r=>
   rw[hb]at h;exact absurd h (Nb hb)
  | none=>
   rw[hb]at h;simp only at h⊢;have hk:∀i,(((ckAll D l).map CR.cols).getD i []).length≤6:=fun i=>by
    rw[aus,aul]
    cases hi:(ckAll D l)[i]? with
    | none=>simp
    | some r=>exact hl r (atw hi) (QL hb r (atw hi))
   generalize (ckAll D l).map CR.cols=K at*;unfold Jb at h⊢;by_cases h1:k=1;rw[if_pos h1]at h⊢;unfold sK at h⊢
   cases hf:D.find? (fun d=>d.1==nm) with
   | none=>simp[CR.zero,CR.fail]
   | some d=>exact hD d (List.mem_of_find?_eq_some hf)
   rw[if_neg h1]at h⊢;by_cases h2:k=2;rw[if_pos h2]at h⊢;unfold ny;simp only;split;rw[CR.nV];exact hk 0;rw[CR.f_,CR.nV];exact hk 0;rw[if_neg h2]at h⊢;by_cases h3:k=3;rw[if_pos h3]at h⊢;unfold p_ at h⊢;rw[CR.jK];exact (CR.qg.1 h).2;rw[if_neg h3]at h⊢;by_cases h4:k=4;rw[if_pos h4]at h⊢;unfold rM at h⊢;split at h;rename_i hj;rw[if_pos hj,CR.jK];exact (CR.qg.1 h).2;rename_i hj;rw[if_neg hj,CR.f_];exact hk 0;rw[if_neg h4]at h⊢;by_cases h5:k=5
   ·rw[if_pos h5]at h⊢;unfold oJ;split
    ·have:∀(n:Nat) (r:CR),((List.range n).foldl (qf (K.getD 0 []) (K.getD 1 [])) r).cols=r.cols:=fun n r=>by
      induction n with
      | zero=>rfl
      | succ n ih=>
       rw[vC];unfold qf;split;exact ih;rw[CR.f_];exact ih
     rw[this];exact hk 0
    rw[CR.f_];exact hk 0
   rw[if_neg h5]at h⊢;by_cases h6:k=6;rw[if_pos h6];exact hk 0;rw[if_neg h6]at h⊢;unfold xX at h⊢;simp only at h⊢;rw[CR.jK];exact (CR.qg.1 h).2
theorem NG {D:List Df} (hD:∀d∈D,d.2.length≤6):∀l:List Pl,∀r∈ckAll D l,r.why=0→r.cols.length≤6
 | []=>fun r hr=>by rw[ckAll]at hr;cases hr
 | p::l=>fun r hr h0=>by have hp:=RQ hD p;have hl:=NG hD l;rw[ckAll]at hr;rcases atA.1 hr with h1|h1;rw[h1]at h0⊢;exact hp h0;exact hl r h1 h0
end
def kc (x:eU C):List Value:=[.slice x.A x.l.length x.cap]
theorem acn:Enc 1 kc:=⟨by omega,fun _=>rfl,fun x u hu=>by
 simp[kc]at hu;rcases hu with rfl;rfl⟩
theorem Tryz.aal:(Tryz.prog.info? 24).map (fun i=>(i.zero,i.size,i.bytes))=some (some (.slice none 0 0),1,24):=by kernel_rfl
structure Ac (w0:World) (A:Option Addr) (cap:Nat) (Z:List (eU C)) (w:World):Prop where
 own:Ow 24 1 kc w0.heap.size w (.slice A Z.length cap) Z
 each:∀x∈Z,Ow 50 2 eP w0.heap.size w (.slice x.A x.l.length x.cap) x.l
 apart:Z.Pairwise fun x y=>∀g∈foot (.slice x.A x.l.length x.cap),g∉foot (.slice y.A y.l.length y.cap)
 off:∀x∈Z,∀g∈foot (.slice x.A x.l.length x.cap),g∉foot (.slice A Z.length cap)
 ev:Ev w0 w
theorem Ac.start (w0:World):Ac w0 none 0 [] w0:=⟨Ow.nil_ _,(fun x hx=>by cases hx),List.Pairwise.nil,(fun x hx=>by cases hx),Ev.refl _⟩
theorem Ac.up {w0 w w':World} {A:Option Addr} {cap:Nat} {Z:List (eU C)} (h:Ac w0 A cap Z w) (hE:Ev w w'):Ac w0 A cap Z w':=
 ⟨h.own.ev hE,fun x hx=>(h.each x hx).ev hE,h.apart,h.off,h.ev.trans hE⟩
theorem Ac.next {w0 wr wp wq w2:World} {A:Option Addr} {cap:Nat} {Z:List (eU C)} {x:eU C} {v2:Value} (h:Ac w0 A cap Z wr) (hp:wr.heap.size≤wp.heap.size) (hE:Ev wr wq) (hx:Ow 50 2 eP wp.heap.size wq (.slice x.A x.l.length x.cap) x.l) (hA:mW 24 1 kc w0.heap.size wq (.slice A Z.length cap) (Z++[x]) v2 w2):
  ∃A2 cap2,v2=.slice A2 (Z.length+1) cap2∧Ac w0 A2 cap2 (Z++[x]) w2:=by
 obtain⟨ho,hb,hs⟩:=hA;obtain⟨A2,cap2,rfl,_,_⟩:=ho.form acn;have hl:(Z++[x]).length=Z.length+1:=by simp
 have hxb:∀g∈foot (.slice x.A x.l.length x.cap),wp.heap.size≤g∧g<wq.heap.size:=fun g hg=>⟨(hx.lt (aB.1 hg)).1,(hx.lt (aB.1 hg)).2⟩
 have hzb:∀g∈foot (.slice A Z.length cap),g<wr.heap.size:=fun g hg=>(h.own.lt (aB.1 hg)).2;have hyb:∀y∈Z,∀g∈foot (.slice y.A y.l.length y.cap),g<wr.heap.size:=fun y hy g hg=>((h.each y hy).lt (aB.1 hg)).2;have hw0:=h.ev.size;have hK:∀k∈foot (.slice A Z.length cap),w0.heap.size≤k:=fun k hk=>(h.own.lt (aB.1 hk)).1;refine⟨A2,cap2,by rw[hl],ho,fun y hy=>?_,?_,fun y hy g hg hm=>?_,((But.aS (h.ev.trans hE)).then hb).ev fun k hk=>hK k hk⟩;rcases atK.1 hy with h1|h1;exact ((h.each y h1).ev hE).but hb fun g hg hm=>h.off y h1 g (aB.2 hg) hm;simp at h1;subst h1;refine Ow.GH (hx.but hb fun g hg hm=>?_) (atP hw0 hp);have h2:=(hxb g (aB.2 hg)).1;have h3:=hzb g hm;omega;rw[List.pairwise_append];refine⟨h.apart,List.pairwise_singleton _ _,fun y hy z hz g hg hm=>?_⟩;simp at hz;subst hz;have h2:=(hxb g hm).1;have h3:=hyb y hy g hg;omega;have hlt:g<wq.heap.size:=by rcases atK.1 hy with h1|h1;exact atM (hyb y h1 g hg) hE.size;simp at h1;subst h1;exact (hxb g hg).2
 rcases hs g (aB.1 hm) with h2|h2;rcases atK.1 hy with h1|h1;exact h.off y h1 g hg (aB.2 h2);simp at h1;subst h1;have h3:=(hxb g hg).1;have h4:=hzb g (aB.2 h2);omega;omega
theorem Ac.cell {w0 w:World} {A:Option Addr} {cap:Nat} {Z:List (eU C)} (h:Ac w0 A cap Z w) {i:Nat} {x:eU C} (hx:Z[i]?=some x):∃b,A=some ⟨b,0,none⟩∧b<w.heap.size∧∀w1,Ev w w1→w1.cell? ⟨b,i,none⟩=some (.slice x.A x.l.length x.cap):=by
 obtain⟨A1,cap1,hv,hS,wQ⟩:=h.own.form acn;injection hv with h1 h2 h3
 subst h1;have hi:=(atr.1 hx).1;obtain⟨b,off,e,hlt,hc⟩:=hS.rd (by omega);have h5:=(wQ _ e).2.2.2.1;injection h5 with _ h6 _
 subst h6;refine⟨b,e,hlt,fun w1 hE=>?_⟩;have:=hc i x hx 0 _ rfl;rw[avf,atW,atT]at this;exact (hE.cell (p:=⟨_,_,none⟩) hlt).trans this
theorem vP {w wr w2:World} {g base:Nat} {r:CR} {va v c0 c1 c2:Value} (hE:Ev w wr) (hB:Bx 58 g #[c0,c1,c2] wr) (ho:Ow 50 2 eP base w2 v r.cols) (hb:But (foot va) wr w2) (hs:eX wr va v) (Hq:∀k∈foot va,w.heap.size≤k∧k≠g) (hg:w.heap.size≤g) (hbase:w.heap.size≤base):
  Bx 58 g #[v,.int .i64 r.why,.string r.name] (wP g v (.int .i64 r.why) (.string r.name) w2)∧jE w.heap.size (.slice none 0 0) r w (.returned (.agg #[v,.int .i64 r.why,.string r.name])) (wP g v (.int .i64 r.why) (.string r.name) w2):=by
 have Ot:=hB.lt;have hgv:g∉foot v:=fun hm=>by rcases hs g (aB.1 hm) with h1|h1;exact (Hq g (aB.2 h1)).2 rfl;omega
 have DV:=tY g v (.int .i64 r.why) (.string r.name) w2;refine⟨(hB.but hb fun hm=>(Hq g hm).2 rfl).wP _ _ _,v,rfl,(ho.but DV fun k hk=>by simp;intro e;exact hgv (aB.2 (e▸hk))).GH hbase,?_,fun k hk=>.inr ?_⟩;have h1:Ev w w2:=((But.aS hE).then hb).ev fun k hk=>(Hq k hk).1;exact But.aS (h1.box DV hg);rcases hs k hk with h1|h1;exact (Hq k (aB.2 h1)).1;exact atP hE.size h1
theorem ahP (w:World) (cs:Array Value):∃w0,(w.alloc (.cells cs 32)).alloc (.cells #[.slice none 0 0,.int .i64 0,.string ⟨#[]⟩] 58)=w0∧Ev w w0∧Bx 32 w.heap.size cs w0∧Bx 58 (w.heap.size+1) #[.slice none 0 0,.int .i64 0,.string ⟨#[]⟩] w0∧w0.heap.size=w.heap.size+2:=Dy w _ _
structure U8 (D:List Df) (l:List PM) (k:Nat) (Z:List (eU C)):Prop where
 len:Z.length=k
 ok:∀r∈(l.take k).map (fun x=>ckOf D x.p),r.why=0
 cols:Z.map eU.l=((l.take k).map fun x=>ckOf D x.p).map CR.cols
theorem U8.next {D:List Df} {l:List PM} {k:Nat} {Z:List (eU C)} {x:PM} {z:eU C} (h:U8 D l k Z) (hx:l[k]?=some x) (h0:(ckOf D x.p).why=0) (hz:z.l=(ckOf D x.p).cols):U8 D l (k+1) (Z++[z]):=by
 obtain⟨hk,e⟩:=atr.1 hx;have ht:l.take (k+1)=l.take k++[x]:=by rw[atD hk,e]
 refine⟨by simp[h.len],fun r hr=>?_,?_⟩;rw[ht,atB]at hr;rcases atK.1 hr with h1|h1;exact h.ok r h1;simp at h1;rw[h1];exact h0;rw[ht,atB,atB,atB,h.cols,atx,atQ,hz];rfl
theorem aam (D:List Df) (m:PM):ckOf D m.p=match yA (m.kids.map fun x=>ckOf D x.p) with
  | some r=>r
  | none=>Jb D m.kind m.name (m.ex.l.map M.t) m.co.l m.lf.l m.rt.l m.ag.l ((m.kids.map fun x=>ckOf D x.p).map CR.cols):=by
 rw[PM.pY,ckOf,EC,atI];rfl
theorem U8.bad {D:List Df} {m:PM} {k:Nat} {Z:List (eU C)} {x:PM} (h:U8 D m.kids k Z) (hx:m.kids[k]?=some x) (h0:(ckOf D x.p).why≠0):ckOf D m.p=ckOf D x.p:=by rw[aam,Xf (k:=k) (r:=ckOf D x.p) (fun y hy=>h.ok y (by rwa [auw])) (by rw[aul,hx];rfl) h0]
theorem U8.fin {D:List Df} {m:PM} {Z:List (eU C)} (h:U8 D m.kids m.kids.length Z):ckOf D m.p=Jb D m.kind m.name (m.ex.l.map M.t) m.co.l m.lf.l m.rt.l m.ag.l (Z.map eU.l):=by have h1:=h.ok;have h2:=h.cols;rw[auf]at h1 h2;rw[aam,xY h1,h2]
theorem ae9 {m:PM} (h:m.p.good):wS m.kind m.name (m.ex.l.map M.t) m.co.l m.lf.l m.rt.l m.ag.l m.kids.length∧∀x∈m.kids,x.p.good:=by rw[PM.pY,Pl.good,Pl.tC,atq]at h;exact⟨h.1,fun x hx=>h.2 x.p (at7 hx)⟩
theorem jE.up {base:Nat} {va:Value} {r:CR} {w:World} {e:Ending} {w1 w2:World} (h:jE base va r w e w1) (hE:Ev w1 w2):jE base va r w e w2:=by obtain⟨v,he,ho,hb,hs⟩:=h;exact⟨v,he,ho.ev hE,hb.then (But.aS hE),hs⟩
theorem ahQ {l:List M} {e:T} (h:l.map M.t=[e]):∃x,l=[x]:=by
 match l,h with
 | [x],_=>exact⟨x,rfl⟩
theorem U8.small {D:List Df} {l:List PM} {k:Nat} {Z:List (eU C)} (h:U8 D l k Z) (hD:∀p,(ckOf D p).why=0→(ckOf D p).cols.length≤6):∀z∈Z,z.l.length≤6:=fun z hz=>by have h1:z.l∈Z.map eU.l:=at7 hz;rw[h.cols]at h1;obtain⟨r,hr,e⟩:=atV.1 h1;have h2:=h.ok r hr;obtain⟨x,_,rfl⟩:=atV.1 hr;rw[←e];exact hD x.p h2
theorem RS {base:Nat} {w:World} {x:eU C} (h:Ow 50 2 eP base w (.slice x.A x.l.length x.cap) x.l):Cs w x.A x.l.length x.cap x.l∧∀ad,x.A=some ad→base≤ad.block∧ad.block<w.heap.size∧ad.block∈foot (.slice x.A x.l.length x.cap):=by
 obtain⟨A,cap,hv,hS,hA⟩:=h.form nM;injection hv with h1 h2 h3
 rw[←h1,←h3]at hS;refine⟨hS,fun ad e=>?_⟩;have h4:=hA ad (h1▸e);exact⟨h4.2.1,h4.2.2.1,aB.2 h4.1⟩
theorem Ac.kid {w0 w wd:World} {A:Option Addr} {cap:Nat} {Z:List (eU C)} {z:eU C} {i:Nat} (h:Ac w0 A cap Z w) (hz:Z[i]?=some z) (hE:Ev w wd):Ow 50 2 eP w0.heap.size wd (.slice z.A z.l.length z.cap) z.l:=(h.each z (atw hz)).ev hE
theorem Ac.pair {w0 w:World} {A:Option Addr} {cap:Nat} {Z:List (eU C)} {x y:eU C} (h:Ac w0 A cap Z w) (hz:Z=[x,y]):∀g∈foot (.slice y.A y.l.length y.cap),g∉foot (.slice x.A x.l.length x.cap):=fun g hg hm=>by have:=h.apart;rw[hz]at this;have:=List.pairwise_cons.1 this;exact this.1 y (by simp) g hm hg
theorem O9 {α:Type} {l:List α} (h:l.length=1):∃x,l=[x]:=by
 match l,h with
 | [x],_=>exact⟨x,rfl⟩
theorem axX {P:Prop} (h:P:=by refine bodyPost_ret (aP rfl _ _ _ _ _ rfl f1 Tryz.underlying58 rfl Tryz.ed) rfl ?_;rw[GL.out];exact f2):P:=h
theorem avy {P:Prop} (h:P:=by
 unfold jE at HT
 go_wp2_with (first
  | ((with_reducible refine (HT.out).mono ?_);rintro r_ w6 ⟨v,rfl,hO,wE,KU⟩;obtain⟨vA,vc,rfl,nN,oH⟩:=hO.form nM;clear nN oH;have HO:=zq hO;have pF:=zq wE;have XL:=zq KU;obtain⟨⟨g0,g1,g2⟩,z0,z1,z2⟩:=(((jq.out.ev HS.out.ev).ev mg).but wE (fun hm=>by have h1:=((HS.out.kid (i:=0) (z:=z) (by rw[hz];rfl) mg).lt (aB.1 hm)).1;omega)).three;have hg6:=(((jq.out.ev HS.out.ev).ev mg).but wE (fun hm=>by have h1:=((HS.out.kid (i:=0) (z:=z) (by rw[hz];rfl) mg).lt (aB.1 hm)).1;omega)).lt;clear hO wE KU))
 (try simp only[Exit.inBlock,Exit.then]);rw[cO];obtain⟨f1,f2⟩:=vP (va:=.slice z.A z.l.length z.cap) ((dH.out.trans HS.out.ev).trans mg) ((jq.out.ev HS.out.ev).ev mg) HO.out pF.out XL.out (fun k hk=>by have h1:=((HS.out.kid (i:=0) (z:=z) (by rw[hz];rfl) (Ev.refl _)).lt (aB.1 hk)).1;omega) (by omega) (by have:=jR.out;simp;omega);exact axX):P:=h
theorem avC {P:Prop} (h:P:=by
 unfold jE at HT;rw[hmk,HMN.out,HMA.out,HMC.out]at HT
 go_wp2_with (first
  | ((with_reducible refine (HT.out).mono ?_);rintro r_ w6 ⟨v,rfl,hO,wE,KU⟩;obtain⟨vA,vc,rfl,nN,oH⟩:=hO.form nM;clear nN oH;have HO:=zq hO;have pF:=zq wE;have XL:=zq KU;obtain⟨⟨g0,g1,g2⟩,z0,z1,z2⟩:=(((jq.out.ev HS.out.ev).ev mg).ev (wE.ev (fun k hk=>by cases hk))).three;have hg6:=(((jq.out.ev HS.out.ev).ev mg).ev (wE.ev (fun k hk=>by cases hk))).lt;clear hO wE KU))
 (try simp only[Exit.inBlock,Exit.then]);rw[cO];obtain⟨f1,f2⟩:=vP (va:=.slice none 0 0) ((dH.out.trans HS.out.ev).trans mg) ((jq.out.ev HS.out.ev).ev mg) HO.out pF.out XL.out (fun k hk=>by cases hk) (by omega) (by have:=jR.out;simp;omega);exact axX):P:=h
theorem axh {P:Prop} (h:P:=by
 obtain⟨b2,e2,_,hcy⟩:=HS.out.cell (i:=1) (x:=y) (by rw[hz];rfl);injection e2 with e2
 injection e2 with e2
 subst e2;exact hcy wr (Ev.refl _)):P:=h
theorem ahR (N:Nat):∀(m:PM) (b0:Nat) (D:List DM) (DA:Option Addr) (dn U9:Nat) (w:World),m.dep≤N→Qx b0 [] w m→m.p.good→m.p.fit→Ja w DA dn U9 D→(∀d∈D,0<d.cols.length∧d.cols.length≤6)→
  Calls Tryz.prog 18 #[.agg #[.int .i64 m.kind,.string ⟨m.name.toArray⟩,.slice m.ex.A m.ex.l.length m.ex.cap,.slice m.co.A m.co.l.length m.co.cap,.slice m.lf.A m.lf.l.length m.lf.cap,.slice m.rt.A m.rt.l.length m.rt.cap,.slice m.ag.A m.ag.l.length m.ag.cap,.slice m.A m.kids.length m.cap],.slice DA dn U9] w (jE w.heap.size (.slice none 0 0) (ckOf (D.map DM.df) m.p) w):=by
 induction N with
 | zero=>
  intro m b0 D DA dn U9 w hd;rw[PM.mX]at hd;omega
 | succ N ih=>
  intro m b0 D DA dn U9 w hd hQ hg hf hDs hDl;have fJ:Tryz.prog.follows .mixedOrders=true:=by kernel_rfl
  obtain⟨hgh,hgk⟩:=ae9 hg;obtain⟨hfh,hfk⟩:=ZZ hf;have lS:Hid (∀x∈m.kids,∀w1,Ev w w1→Calls Tryz.prog 18 #[.agg #[.int .i64 x.kind,.string ⟨x.name.toArray⟩,.slice x.ex.A x.ex.l.length x.ex.cap,.slice x.co.A x.co.l.length x.co.cap,.slice x.lf.A x.lf.l.length x.lf.cap,.slice x.rt.A x.rt.l.length x.rt.cap,.slice x.ag.A x.ag.l.length x.ag.cap,.slice x.A x.kids.length x.cap],.slice DA dn U9] w1 (jE w1.heap.size (.slice none 0 0) (ckOf (D.map DM.df) x.p) w1)):=zq fun x hx w1 hE=>ih x b0 D DA dn U9 w1 (by have:=PM.lF hx;omega) ((hQ.kid x hx).ev hE) (hgk x hx) (hfk x hx) (hDs.ev hE) hDl;have HD6:Hid (∀p,(ckOf (D.map DM.df) p).why=0→(ckOf (D.map DM.df) p).cols.length≤6):=zq fun p=>RQ (fun d hd=>by obtain⟨x,hx,rfl⟩:=atV.1 hd;exact (hDl x hx).2) p;have HTB:=zq (fun w1 (hE:Ev w w1)=>aab D DA dn U9 m.name w1 (hDs.ev hE) hDl);have HKB:Hid (∀k Z (x:PM),U8 (D.map DM.df) m.kids k Z→m.kids[k]?=some x→(ckOf (D.map DM.df) x.p).why≠0→ckOf (D.map DM.df) m.p=ckOf (D.map DM.df) x.p):=zq fun k Z x h hx h0=>U8.bad h hx h0;have HKF:=zq (fun Z (h:U8 (D.map DM.df) m.kids m.kids.length Z)=>U8.fin h);obtain⟨D2,hD2⟩:∃D2,D2=D.map DM.df:=⟨_,rfl⟩
  rw[←hD2]at lS HD6 HTB HKB HKF⊢;obtain⟨CK,hCK⟩:∃CK,CK=ckOf D2 m.p:=⟨_,rfl⟩
  rw[←hCK]at HKB HKF⊢;have zO:=hQ.ps;have hkn:=zO.le;have WC:=zO.max;have Yi:∀ad,m.A=some ad→ad.block<w.heap.size:=fun ad e=>(hQ.at.2.2.2.2.2.2.1.z_ ad e).2.1;have EU:Hid (∀w1,Ev w w1→Ps w1 m.A m.kids.length m.cap m.kids):=zq fun w1 hE=>zO.ev hE;have HQ:=zq hQ;have HGH:=zq hgh;have HFH:=zq hfh;have xK:m.kids.length≤10000:=hfh.2.2.2.2.2.2.2;obtain⟨w0,hw0,aT,xq,Hr,hs0⟩:=ahP w #[.int .i64 m.kind,.string ⟨m.name.toArray⟩,.slice m.ex.A m.ex.l.length m.ex.cap,.slice m.co.A m.co.l.length m.co.cap,.slice m.lf.A m.lf.l.length m.lf.cap,.slice m.rt.A m.rt.l.length m.rt.cap,.slice m.ag.A m.ag.l.length m.ag.cap,.slice m.A m.kids.length m.cap];have dH:=zq aT;have HPB:=zq xq;have jq:=zq Hr;have jR:=zq hs0;obtain⟨⟨p0,p1,p2,p3,p4,p5,p6,p7⟩,_⟩:=xq.eight;have vZ:Hid (∀k x,m.kids[k]?=some x→x∈m.kids):=zq fun k x h=>atw h;have hgw:=Hr.lt;clear hQ hg hf hDs hDl hgh hgk hfh hfk hD2 hCK ih hd zO aT xq Hr hs0;generalize Yj:m.A=mA at*;generalize hmn:m.kids.length=nk at*;generalize hmc:m.cap=mc at*;generalize hmk:m.kind=kd at*;have HMA:=zq Yj;have HMC:=zq hmc;clear Yj hmc;have HMN:=zq hmn;clear hmn;go_enter Tryz.func18,Tryz.ntmps18;go_wp2
  go_loopw [5,12] (fun zv iv wr=>∃(k:Nat) (Z:List (eU C)) (ZA:Option Addr) (zc:Nat),zv=.slice ZA k zc∧iv=.int .i64 (k:Int)∧k≤nk∧Hid (Ac w0 ZA zc Z wr)∧Hid (U8 D2 m.kids k Z)) (fun _ iv _=>nk - (intOf iv).toNat)
  case atStart=>exact⟨0,[],none,0,rfl,rfl,atG _,zq (Ac.start w0),zq ⟨rfl,(fun r hr=>by simp at hr),by simp⟩⟩
  case round=>
   obtain⟨k,Z,ZA,zc,rfl,rfl,hk,HS,HI⟩:=hrel;have hzl:=HI.out.len;subst hzl;by_cases hlt:Z.length<nk
   ·obtain⟨x,hx⟩:=(EU.out _ (dH.out.trans HS.out.ev)).at hlt;obtain⟨bk,ok,rfl,hbk,_⟩:=(EU.out _ (dH.out.trans HS.out.ev)).rd (by omega);obtain⟨x0,x1,x2,x3,x4,x5,x6,x7⟩:=Ps.cell (EU.out _ (dH.out.trans HS.out.ev)) hx;unfold eU.v PM.kv at*;have iF:=vZ.out _ x hx;have HIX:=zq (lS.out x iF);unfold jE at HIX;have HX:=zq hx;have zk:=Bx.new 32 #[.int .i64 x.kind,.string ⟨x.name.toArray⟩,.slice x.ex.A x.ex.l.length x.ex.cap,.slice x.co.A x.co.l.length x.co.cap,.slice x.lf.A x.lf.l.length x.lf.cap,.slice x.rt.A x.rt.l.length x.rt.cap,.slice x.ag.A x.ag.l.length x.ag.cap,.slice x.A x.kids.length x.cap] wr;obtain⟨⟨q0,q1,q2,q3,q4,q5,q6,q7⟩,_⟩:=zk.eight;obtain⟨R,hR⟩:∃R,R=ckOf D2 x.p:=⟨_,rfl⟩
    rw[←hR]at HIX;have HR:=zq hR;have i1:(0:Int)≤(Z.length:Int):=by omega
    have i2:(Z.length:Int)<(nk:Int):=by omega
    have hsw:=HS.out.ev.size;clear hx iF zk hR;by_cases hw:R.why=0
    ·have HNX:Hid (∀z:eU C,z.l=R.cols→U8 D2 m.kids (Z.length+1) (Z++[z])):=zq fun z hz=>HI.out.next HX.out (by rw[←HR.out];exact hw) (by rw[hz,HR.out])
     have Le:(R.why==0)=true:=by simp[hw]
     rw[hw]at HIX
     go_wp2_with (first
      | ((with_reducible refine (HIX.out _ ((dH.out.trans HS.out.ev).trans (Ev.alloc _ _))).mono ?_);rintro r_ w6 ⟨v,rfl,hO,wE,KU⟩;obtain⟨vA,vc,rfl,nN,oH⟩:=hO.form nM;clear nN oH;have lL:=wE.ev (fun k hk=>by cases hk);have E6:=zq ((Ev.alloc wr _).trans lL);have HO:=zq hO;have hzl:Z.length≤10000:=(by omega);clear hO wE KU lL q0 q1 q2 q3 q4 q5 q6 q7)
      | ((show wpList _ _ _ (⟨some 27,_,_,_,_,_⟩::_) _ _);refine aK (o:=⟨some 27,_,_,_,_,_⟩) rfl 71 (.tmp 23) (.tmp 26) rfl acn Tryz.underlying71 Tryz.aal rfl rfl (HS.out.up (E6.out.trans ((Ev.alloc _ _).trans (Ev.alloc _ _)))).own (some ⟨w6.heap.size+1,0,none⟩) 1 1 [⟨vA,vc,R.cols⟩] rfl (by have:=Sl.one (et:=24) acn (w6.alloc (.cells #[.slice vA R.cols.length vc,.int .i64 0,.string R.name] 58)) ⟨vA,vc,R.cols⟩ #[.slice vA R.cols.length vc] rfl;simpa using this) (by simp;omega) (by simp;omega) (by have:=E6.out.size;simp;omega) ?_;intro v2 w7 gz;obtain⟨A2,cap2,rfl,hN7⟩:=HS.out.next (by simp) (E6.out.trans ((Ev.alloc _ _).trans (Ev.alloc _ _))) (HO.out.ev ((Ev.alloc _ _).trans (Ev.alloc _ _))) gz;have HN7:=zq hN7;clear hN7 gz))
     go_roundw
     case rel=>exact⟨Z.length+1,Z++[⟨vA,vc,R.cols⟩],A2,cap2,rfl,by go_num,by omega,HN7,zq (HNX.out _ rfl)⟩
     case measure=>simp[intOf];omega
    have Le:(R.why==0)=false:=atp.2 hw;have hwn:(R.why !=0)=true:=by simp[hw]
    have HCK:Hid (CK=R):=zq (by rw[HR.out];exact HKB.out _ _ x HI.out HX.out (by rw[←HR.out];exact hw));rw[HCK.out]
    go_wp2_with (first
     | ((with_reducible refine (HIX.out _ ((dH.out.trans HS.out.ev).trans (Ev.alloc _ _))).mono ?_);rintro r_ w6 ⟨v,rfl,hO,wE,KU⟩;obtain⟨vA,vc,rfl,nN,oH⟩:=hO.form nM;clear nN oH;have lL:=wE.ev (fun k hk=>by cases hk);have E6:=zq ((Ev.alloc wr _).trans lL);have HO:=zq hO;have XL:=zq KU;obtain⟨⟨g0,g1,g2⟩,z0,z1,z2⟩:=((jq.out.ev HS.out.ev).ev ((Ev.alloc wr _).trans lL)).three;have hg6:=((jq.out.ev HS.out.ev).ev ((Ev.alloc wr _).trans lL)).lt;clear hO wE KU lL q0 q1 q2 q3 q4 q5 q6 q7))
    (try simp only[Exit.inBlock,Exit.then]);rw[cO];obtain⟨f1,f2⟩:=vP (va:=.slice none 0 0) (dH.out.trans HS.out.ev) (jq.out.ev HS.out.ev) HO.out (But.aS E6.out) (fun g hg=>by rcases XL.out g hg with h1|h1;exact .inl h1;exact .inr (by simp at h1;omega)) (fun k hk=>by cases hk) (by omega) (by have:=jR.out;simp;omega);refine bodyPost_ret (aP rfl _ _ _ _ _ rfl (f1.ev (Ev.alloc _ _)) Tryz.underlying58 rfl Tryz.ed) rfl ?_;exact f2.up (Ev.alloc _ _)
   have Tq:Z.length=nk:=by omega
   have HK:=zq (HKF.out Z (by have:=HI.out;rwa [Tq]at this));have HZ6:=HI.out.small HD6.out;obtain⟨⟨p0,p1,p2,p3,p4,p5,p6,p7⟩,_⟩:=(HPB.out.ev HS.out.ev).eight;obtain⟨⟨g0,g1,g2⟩,z0,z1,z2⟩:=(jq.out.ev HS.out.ev).three;have hg6:=(jq.out.ev HS.out.ev).lt;have hsz:=dH.out.size;have hs0:=jR.out;have hsw:=HS.out.ev.size;go_upto_region 10 with fail
   rw[Tq];rcases HGH.out with⟨rfl,-,-,-,-,-,-,hn⟩|⟨rfl,-,hes,-,-,-,-,hn⟩|⟨rfl,-,-,Tj,-,-,-,-,-,hn⟩|⟨rfl,-,-,-,-,-,-,hn⟩|⟨rfl,-,-,-,-,-,-,hn⟩|⟨rfl,-,-,-,-,-,-,hn⟩|⟨rfl,-,-,-,-,-,-,hn⟩
   ·have HT:=zq (HTB.out wr (dH.out.trans HS.out.ev));unfold jE at HT;have GL:Hid (CK=sK D2 m.name):=HK;clear HK
    go_wp2_with (first
     | ((with_reducible refine (HT.out).mono ?_);rintro r_ w6 ⟨v,rfl,hO,wE,KU⟩;obtain⟨vA,vc,rfl,nN,oH⟩:=hO.form nM;clear nN oH;have HO:=zq hO;have pF:=zq wE;have XL:=zq KU;obtain⟨⟨g0,g1,g2⟩,z0,z1,z2⟩:=((jq.out.ev HS.out.ev).ev (wE.ev (fun k hk=>by cases hk))).three;have hg6:=((jq.out.ev HS.out.ev).ev (wE.ev (fun k hk=>by cases hk))).lt;clear hO wE KU))
    (try simp only[Exit.inBlock,Exit.then]);rw[cO];obtain⟨f1,f2⟩:=vP (va:=.slice none 0 0) (dH.out.trans HS.out.ev) (jq.out.ev HS.out.ev) HO.out pF.out XL.out (fun k hk=>by cases hk) (by omega) (by have:=jR.out;simp;omega);exact axX
   ·subst hn;obtain⟨z,hz⟩:=O9 Tq;obtain⟨bz,rfl,hbz,hcz⟩:=HS.out.cell (i:=0) (x:=z) (by rw[hz];rfl);have hc0:=hcz wr (Ev.refl _);obtain⟨hzC,hzA⟩:=RS (HS.out.kid (i:=0) (z:=z) (by rw[hz];rfl) (Ev.refl _));obtain⟨_,hes,_⟩:=hes;obtain⟨xe,hxe⟩:=ahQ hes;have iq:m.ex.l[0]?=some xe:=by rw[hxe];rfl
    clear hes;have iF:xe∈m.ex.l:=atw iq;obtain⟨be,oe,WE,hbl,e0,e1,e2,e3⟩:=Es.cell ((HQ.out.at.1.sl.ev (dH.out.trans HS.out.ev))) iq;unfold M.kv at e3;simp only[aud,atW]at e0 e1 e2 e3;have GL:Hid (CK=ny xe.t z.l):=zq (by rw[HK.out,hz,hxe];rfl);clear HK;have hel:m.ex.l.length=1:=by rw[hxe];rfl
    rw[WE,hel]at p2;clear WE hel iq;have HFE:=zq (HFH.out.2.1 xe.t (at7 iF)).2;clear hxe;go_upto_region 15 with fail
    go_still_tail 7,(by kernel_rfl)
    generalize hwd:({heap:=wr.heap,tape:=wr.tape,drawn:=wr.drawn+1,os:=wr.os,output:=wr.output}:World)=wd;have mg:Ev wr wd:=hwd▸Ev.drew wr;have hds:=mg.size;clear hwd;have HT:=zq (Xw w0.heap.size (.slice z.A z.l.length z.cap) z.l xe b0 wd (HS.out.kid (i:=0) (z:=z) (by rw[hz];rfl) mg) ((HQ.out.at.2.1 xe iF).ev ((dH.out.trans HS.out.ev).trans mg)) HFE.out.1 HFE.out.2);exact avy
   ·subst hn;obtain⟨z,hz⟩:=O9 Tq;obtain⟨bz,rfl,hbz,hcz⟩:=HS.out.cell (i:=0) (x:=z) (by rw[hz];rfl);have hc0:=hcz wr (Ev.refl _);obtain⟨hzC,hzA⟩:=RS (HS.out.kid (i:=0) (z:=z) (by rw[hz];rfl) (Ev.refl _));have GL:Hid (CK=p_ (m.ex.l.map M.t) m.co.l z.l):=zq (by rw[HK.out,hz];rfl);clear HK;have HEL:Hid (m.ex.l.length=m.co.l.length):=zq<|by have:=Tj;rwa [atq]at this
    clear Tj;have alP:Hid (m.ex.l.length≤10000):=zq<|by have:=HFH.out.2.2.2.1;rwa [atq]at this
    go_upto_region 17 with fail
    go_still_tail 4,(by kernel_rfl)
    generalize hwd:({heap:=wr.heap,tape:=wr.tape,drawn:=wr.drawn+1,os:=wr.os,output:=wr.output}:World)=wd;have mg:Ev wr wd:=hwd▸Ev.drew wr;have hds:=mg.size;clear hwd;have HT:=zq (U3 m b0 wd (HQ.out.ev ((dH.out.trans HS.out.ev).trans mg)) z.l z.A z.l.length z.cap (hzC.ev mg) (fun ad e=>by have:=(hzA ad e).2.1;have:=mg.size;omega) HEL.out alP.out (fun e he=>(HFH.out.2.1 e.t (at7 he)).2));exact avC
   ·subst hn;obtain⟨z,y,hz⟩:=Oj Tq;obtain⟨bz,rfl,hbz,hcz⟩:=HS.out.cell (i:=0) (x:=z) (by rw[hz];rfl);have hc0:=hcz wr (Ev.refl _);have hc1:wr.cell? ⟨bz,1,none⟩=some (.slice y.A y.l.length y.cap):=by exact axh
    obtain⟨hyC,hyA⟩:=RS (HS.out.kid (i:=1) (z:=y) (by rw[hz];rfl) (Ev.refl _));have GL:Hid (CK=rM m.lf.l m.rt.l z.l y.l):=zq (by rw[HK.out,hz];rfl);clear HK;have htw:∀g∈foot (.slice y.A y.l.length y.cap),g∉foot (.slice z.A z.l.length z.cap):=HS.out.pair hz;go_upto_region 19 with fail
    go_still_tail 10,(by kernel_rfl)
    generalize hwd:({heap:=wr.heap,tape:=wr.tape,drawn:=wr.drawn+1,os:=wr.os,output:=wr.output}:World)=wd;have mg:Ev wr wd:=hwd▸Ev.drew wr;have hds:=mg.size;clear hwd
    have HT:Hid (Calls Tryz.prog 35 #[.slice m.lf.A m.lf.l.length m.lf.cap,.slice m.rt.A m.rt.l.length m.rt.cap,.slice z.A z.l.length z.cap,.slice y.A y.l.length y.cap] wd (jE w0.heap.size (.slice z.A z.l.length z.cap) (rM m.lf.l m.rt.l z.l y.l) wd)):=by by_cases hj:m.lf.l.length=m.rt.l.length∧m.lf.l.length≠0;exact zq (XJ w0.heap.size (.slice z.A z.l.length z.cap) z.l y.l m.lf.l m.rt.l m.lf.A m.rt.A y.A m.lf.l.length m.lf.cap m.rt.l.length m.rt.cap y.l.length y.cap wd (HS.out.kid (i:=0) (z:=z) (by rw[hz];rfl) mg) (hyC.ev mg) (HQ.out.at.2.2.2.1.sl.ev ((dH.out.trans HS.out.ev).trans mg)) (HQ.out.at.2.2.2.2.1.sl.ev ((dH.out.trans HS.out.ev).trans mg)) (fun ad e=>by have h1:=hyA ad e;have h2:=mg.size;exact⟨by omega,htw ad.block h1.2.2⟩) (fun ad e=>by have h1:=(HQ.out.at.2.2.2.1.z_ ad e).2.1;have h2:=mg.size;exact⟨by omega,fun hm=>by have h3:=((HS.out.kid (i:=0) (z:=z) (by rw[hz];rfl) mg).lt (aB.1 hm)).1;omega⟩) (fun ad e=>by have h1:=(HQ.out.at.2.2.2.2.1.z_ ad e).2.1;have h2:=mg.size;exact⟨by omega,fun hm=>by have h3:=((HS.out.kid (i:=0) (z:=z) (by rw[hz];rfl) mg).lt (aB.1 hm)).1;omega⟩) (by have:=mg.size;omega) (by have:=HZ6 z (by rw[hz];simp);omega) (by have:=HZ6 y (by rw[hz];simp);omega) HFH.out.2.2.2.2.1 hj);exact zq (U7 w0.heap.size (.slice z.A z.l.length z.cap) z.l y.l m.lf.l m.rt.l m.lf.A m.rt.A y.A m.lf.l.length m.lf.cap m.rt.l.length m.rt.cap y.l.length y.cap wd (HS.out.kid (i:=0) (z:=z) (by rw[hz];rfl) mg) (hyC.ev mg) (HQ.out.at.2.2.2.1.sl.ev ((dH.out.trans HS.out.ev).trans mg)) (HQ.out.at.2.2.2.2.1.sl.ev ((dH.out.trans HS.out.ev).trans mg)) (fun ad e=>by have h1:=hyA ad e;have h2:=mg.size;exact⟨by omega,htw ad.block h1.2.2⟩) (fun ad e=>by have h1:=(HQ.out.at.2.2.2.1.z_ ad e).2.1;have h2:=mg.size;exact⟨by omega,fun hm=>by have h3:=((HS.out.kid (i:=0) (z:=z) (by rw[hz];rfl) mg).lt (aB.1 hm)).1;omega⟩) (fun ad e=>by have h1:=(HQ.out.at.2.2.2.2.1.z_ ad e).2.1;have h2:=mg.size;exact⟨by omega,fun hm=>by have h3:=((HS.out.kid (i:=0) (z:=z) (by rw[hz];rfl) mg).lt (aB.1 hm)).1;omega⟩) (by have:=mg.size;omega) (by have:=HZ6 z (by rw[hz];simp);omega) (by have:=HZ6 y (by rw[hz];simp);omega) HFH.out.2.2.2.2.1 hj)
    exact avy
   ·subst hn;obtain⟨z,y,hz⟩:=Oj Tq;obtain⟨bz,rfl,hbz,hcz⟩:=HS.out.cell (i:=0) (x:=z) (by rw[hz];rfl);have hc0:=hcz wr (Ev.refl _);have hc1:wr.cell? ⟨bz,1,none⟩=some (.slice y.A y.l.length y.cap):=by exact axh
    obtain⟨hyC,hyA⟩:=RS (HS.out.kid (i:=1) (z:=y) (by rw[hz];rfl) (Ev.refl _));have GL:Hid (CK=oJ z.l y.l):=zq (by rw[HK.out,hz];rfl);clear HK;go_upto_region 21 with fail
    go_still_tail 6,(by kernel_rfl)
    generalize hwd:({heap:=wr.heap,tape:=wr.tape,drawn:=wr.drawn+1,os:=wr.os,output:=wr.output}:World)=wd;have mg:Ev wr wd:=hwd▸Ev.drew wr;have hds:=mg.size;clear hwd;have HT:=zq (aac w0.heap.size (.slice z.A z.l.length z.cap) z.l y.l y.A y.l.length y.cap wd (HS.out.kid (i:=0) (z:=z) (by rw[hz];rfl) mg) (hyC.ev mg) (fun ad e=>by have:=(hyA ad e).2.1;have:=mg.size;omega));exact avy
   ·subst hn;obtain⟨z,hz⟩:=O9 Tq;obtain⟨bz,rfl,hbz,hcz⟩:=HS.out.cell (i:=0) (x:=z) (by rw[hz];rfl);have hc0:=hcz wr (Ev.refl _);have GL:Hid (CK=CR.of z.l):=zq (by rw[HK.out,hz];rfl);clear HK;have HO:=zq (HS.out.kid (i:=0) (z:=z) (by rw[hz];rfl) (Ev.refl wr))
    go_wp2_with fail
    (try simp only[Exit.inBlock,Exit.then]);rw[cO];obtain⟨f1,f2⟩:=vP (r:=CR.of z.l) (va:=.slice z.A z.l.length z.cap) (dH.out.trans HS.out.ev) (jq.out.ev HS.out.ev) HO.out (But.refl _ _) (eX.refl _ _) (fun k hk=>by have h1:=((HS.out.kid (i:=0) (z:=z) (by rw[hz];rfl) (Ev.refl _)).lt (aB.1 hk)).1;omega) (by omega) (by have:=jR.out;simp;omega);exact axX
   subst hn;obtain⟨z,hz⟩:=O9 Tq;obtain⟨bz,rfl,hbz,hcz⟩:=HS.out.cell (i:=0) (x:=z) (by rw[hz];rfl);have hc0:=hcz wr (Ev.refl _);obtain⟨hzC,hzA⟩:=RS (HS.out.kid (i:=0) (z:=z) (by rw[hz];rfl) (Ev.refl _));have GL:Hid (CK=xX m.lf.l m.ag.l z.l):=zq (by rw[HK.out,hz];rfl);clear HK;go_upto_region 11 with fail
   go_still_tail 4,(by kernel_rfl)
   generalize hwd:({heap:=wr.heap,tape:=wr.tape,drawn:=wr.drawn+1,os:=wr.os,output:=wr.output}:World)=wd;have mg:Ev wr wd:=hwd▸Ev.drew wr;have hds:=mg.size;clear hwd;have HT:=zq (aak m b0 wd (HQ.out.ev ((dH.out.trans HS.out.ev).trans mg)) z.l z.A z.l.length z.cap (hzC.ev mg) (fun ad e=>by have:=(hzA ad e).2.1;have:=mg.size;omega) HFH.out.2.2.2.2.1 HFH.out.2.2.2.2.2.2.1);exact avC
def JU (s t:ByteArray):Int:=if Op.bytesLess s.toList t.toList then -1 else if s.toList==t.toList then 0 else 1
def JV (a b:Int):Int:=if a<b then -1 else if b<a then 1 else 0
theorem XM (s t:ByteArray) (w:World):(binOp .gtr 9 (.string s) (.string t)).run Tryz.prog w=.ok (.bool !(Op.bytesLess s.toList t.toList||s.toList==t.toList)) w:=by unfold binOp;simp[go_sem,Op.stringOp]
theorem ayr {P:Prop} (h:P:=by go_enter Tryz.func51,Tryz.ntmps51;go_wp2;go_ret;exact⟨rfl,rfl⟩):P:=h
theorem aco (s t:ByteArray) (w:World):Calls Tryz.prog 51 #[.string s,.string t] w fun e w'=>e=.returned (.int .i64 (JU s t))∧w'=w:=by
 have hG:=XM s t;unfold JU
 cases h1:Op.bytesLess s.toList t.toList with
 | true=>
  exact ayr
 | false=>
  cases h2:s.toList==t.toList with
  | true=>
   simp only[h1,h2]at hG;exact ayr
  | false=>
   simp only[h1,h2]at hG;exact ayr
theorem ays {P:Prop} (h:P:=by go_enter Tryz.func52,Tryz.ntmps52;go_wp2;go_ret;exact⟨rfl,rfl⟩):P:=h
theorem acp (a b:Int) (w:World):Calls Tryz.prog 52 #[.int .i64 a,.int .i64 b] w fun e w'=>e=.returned (.int .i64 (JV a b))∧w'=w:=by unfold JV;by_cases h1:a<b;rw[if_pos h1];exact ays;rw[if_neg h1];by_cases h2:b<a;rw[if_pos h2];exact ays;rw[if_neg h2];exact ays
def or2 (x y:Int):Int:=if x=0 then y else x
theorem afb (g:Nat) (x y:Int) (w:World) (h:Bx 3 g #[.int .i64 x,.int .i64 y] w):Calls Tryz.prog 50 #[.slice (some ⟨g,0,none⟩) 2 2] w fun e w'=>e=.returned (.int .i64 (or2 x y))∧w'=w:=by
 have c0:=h.cell 0;have c1:=h.cell 1;have c0:w.cell? ⟨g,0,none⟩=some (.int .i64 x):=c0;have c1:w.cell? ⟨g,1,none⟩=some (.int .i64 y):=c1;clear h;unfold or2;by_cases hx:x=0
 ·subst hx;rw[if_pos rfl];by_cases hy:y=0
  ·subst hy;go_enter Tryz.func50,Tryz.ntmps50;go_wp2;refine wp_loop_rounds 3 ?_;rw[rounds_succ];go_wp2;rw[rounds_succ];go_wp2;rw[rounds_succ];go_wp2;go_ret;exact⟨rfl,rfl⟩
  have hyn:(y==0)=false:=by simpa using hy
  go_enter Tryz.func50,Tryz.ntmps50;go_wp2;refine wp_loop_rounds 3 ?_;rw[rounds_succ];go_wp2;rw[rounds_succ];go_wp2;go_ret;exact⟨rfl,rfl⟩
 have hxn:(x==0)=false:=by simpa using hx
 rw[if_neg hx];go_enter Tryz.func50,Tryz.ntmps50;go_wp2;refine wp_loop_rounds 3 ?_;rw[rounds_succ];go_wp2;go_ret;exact⟨rfl,rfl⟩
def JW (x y:Int) (v:Value) (w:World):Prop:=∃g,v=.slice (some ⟨g,0,none⟩) 2 2∧Bx 3 g #[.int .i64 x,.int .i64 y] w
theorem JW.mono (x y:Int):rF (JW x y):=fun v w w' hE ⟨g,e,h⟩=>⟨g,e,h.ev hE⟩
def acr (di dj:DM) (i j:Nat):Int:=or2 (JU ⟨di.name.toArray⟩ ⟨dj.name.toArray⟩) (JV (i:Int) (j:Int))
theorem aws {P:Prop} (h:P:=by
 refine aJ fun a w c=>⟨(ay rfl),.slice (some ⟨bd,od,none⟩) n cap,?_,rfl⟩
 have e2:a.eval (.tmp 2)=.pointer (some ⟨gb,0,none⟩):=(c.was 2 rfl)
 have hc:=(c.ev.cell (p:=⟨gb,0,none⟩) Ot).trans HB;generalize a.eval=ρ at e2⊢;simp[execOp,e2,hc,go_sem]):P:=h
theorem ayp {P:Prop} (h:P:=by refine aJ fun a w c=>⟨(ay rfl),_,run_move _ rfl w,(c.was 1 rfl)⟩):P:=h
theorem acs (gb bd od n cap:Nat) (l:List DM) (i j:Nat) (di dj:DM) (w:World) (hB:Bx 34 gb #[.slice (some ⟨bd,od,none⟩) n cap] w) (h:Ja w (some ⟨bd,od,none⟩) n cap l) (hi:l[i]?=some di) (hj:l[j]?=some dj):
  Calls Tryz.prog 49 #[.int .i64 (i:Int),.int .i64 (j:Int),.pointer (some ⟨gb,0,none⟩)] w fun e w'=>e=.returned (.int .i64 (acr di dj i j))∧Ev w w':=by
 have fJ:Tryz.prog.follows .mixedOrders=true:=by kernel_rfl
 have HB:w.cell? ⟨gb,0,none⟩=some (.slice (some ⟨bd,od,none⟩) n cap):=hB.cell 0;have Ot:=hB.lt;have hnl:=h.sl.len;have yI:=h.sl.le;have hcm:=h.sl.max;obtain⟨b,o,e,hbl,ci,_⟩:=h.cell hi;obtain⟨b',o',e',_,cj,_⟩:=h.cell hj;injection e with e
 injection e with e1 e2 _
 injection e' with e'
 injection e' with e3 e4 _
 subst e1;subst e2;subst e3;subst e4;have NS:=(atr.1 hi).1;have hjl:=(atr.1 hj).1;have i1:(0:Int)≤(i:Int):=by omega
 have i2:(i:Int)<(n:Int):=by omega
 have j1:(0:Int)≤(j:Int):=by omega
 have j2:(j:Int)<(n:Int):=by omega
 unfold acr;clear hB h hi hj NS hjl;go_enter Tryz.func49,Tryz.ntmps49;go_upto_region 1 with fail
 refine fH fJ [fun v _=>v=.slice (some ⟨bd,od,none⟩) n cap,fun v _=>v=.int .i64 (i:Int),fun v _=>v=.pointer (some ⟨bd,od+i*2,none⟩),fun v _=>v=.pointer (some ⟨bd,od+i*2,none⟩),fun v _=>v=.string ⟨di.name.toArray⟩,fun v _=>v=.slice (some ⟨bd,od,none⟩) n cap,fun v _=>v=.int .i64 (j:Int),fun v _=>v=.pointer (some ⟨bd,od+j*2,none⟩),fun v _=>v=.pointer (some ⟨bd,od+j*2,none⟩),fun v _=>v=.string ⟨dj.name.toArray⟩,fun v _=>v=.int .i64 (JU ⟨di.name.toArray⟩ ⟨dj.name.toArray⟩),fun v _=>v=.int .i64 (i:Int),fun v _=>v=.int .i64 (j:Int),fun v _=>v=.int .i64 (JV (i:Int) (j:Int)),JW (JU ⟨di.name.toArray⟩ ⟨dj.name.toArray⟩) (JV (i:Int) (j:Int)),fun v _=>v=.int .i64 (or2 (JU ⟨di.name.toArray⟩ ⟨dj.name.toArray⟩) (JV (i:Int) (j:Int))),fun v _=>v=.int .i64 (or2 (JU ⟨di.name.toArray⟩ ⟨dj.name.toArray⟩) (JV (i:Int) (j:Int)))]
  22 rfl (by kernel_rfl) ⟨az _,az _,az _,az _,az _,az _,az _,az _,az _,az _,az _,az _,az _,az _,JW.mono _ _,az _,az _,trivial⟩ ?_ ?_
 ·refine aG 0 ?_ (aG 1 ?_ (aG 2 ?_ (aG 3 ?_ (aG 4 ?_ (aG 5 ?_ (aG 6 ?_ (aG 7 ?_ (aG 8 ?_ (aG 9 ?_ (aG 10 ?_ (aG 11 ?_ (aG 12 ?_ (aG 13 ?_ (aG 14 ?_ (aG 15 ?_ (aG 16 ?_ (qC 17)))))))))))))))));exact aws;exact aym
  ·refine aJ fun a wq c=>⟨(ay rfl),.pointer (some ⟨bd,od+i*2,none⟩),?_,rfl⟩
   have bI:a.eval (.tmp 6)=.slice (some ⟨bd,od,none⟩) n cap:=(c.new 0 6)
   have nz:a.eval (.tmp 7)=.int .i64 (i:Int):=(c.new 1 7)
   generalize a.eval=ρ at bI nz⊢;simp[execOp,bI,nz,go_sem,i1,i2]
  ·refine aJ fun a w c=>⟨(ay rfl),.pointer (some ⟨bd,od+i*2,none⟩),?_,rfl⟩
   have e8:a.eval (.tmp 8)=.pointer (some ⟨bd,od+i*2,none⟩):=(c.new 2 8)
   generalize a.eval=ρ at e8⊢;simp[execOp,e8,go_sem]
  ·refine aJ fun a w c=>⟨(ay rfl),.string ⟨di.name.toArray⟩,?_,rfl⟩
   have e9:a.eval (.tmp 9)=.pointer (some ⟨bd,od+i*2,none⟩):=(c.new 3 9)
   have hc:=(c.ev.cell (p:=⟨bd,od+i*2,none⟩) hbl).trans ci;generalize a.eval=ρ at e9⊢;simp[execOp,e9,hc,go_sem]
  exact aws;exact ayp
  ·refine aJ fun a wq c=>⟨(ay rfl),.pointer (some ⟨bd,od+j*2,none⟩),?_,rfl⟩
   have bI:a.eval (.tmp 11)=.slice (some ⟨bd,od,none⟩) n cap:=(c.new 5 11)
   have nz:a.eval (.tmp 12)=.int .i64 (j:Int):=(c.new 6 12)
   generalize a.eval=ρ at bI nz⊢;simp[execOp,bI,nz,go_sem,j1,j2]
  ·refine aJ fun a w c=>⟨(ay rfl),.pointer (some ⟨bd,od+j*2,none⟩),?_,rfl⟩
   have e13:a.eval (.tmp 13)=.pointer (some ⟨bd,od+j*2,none⟩):=(c.new 7 13)
   generalize a.eval=ρ at e13⊢;simp[execOp,e13,go_sem]
  ·refine aJ fun a w c=>⟨(ay rfl),.string ⟨dj.name.toArray⟩,?_,rfl⟩
   have e14:a.eval (.tmp 14)=.pointer (some ⟨bd,od+j*2,none⟩):=(c.new 8 14)
   have hc:=(c.ev.cell (p:=⟨bd,od+j*2,none⟩) hbl).trans cj;generalize a.eval=ρ at e14⊢;simp[execOp,e14,hc,go_sem]
  refine jS fun a wq c=>⟨(ay rfl),51,#[.string ⟨di.name.toArray⟩,.string ⟨dj.name.toArray⟩],?_,?_⟩
  rw[bP 51 _ _ rfl (by kernel_rfl)];have bI:a.eval (.tmp 10)=.string ⟨di.name.toArray⟩:=(c.new 4 10)
  have nz:a.eval (.tmp 15)=.string ⟨dj.name.toArray⟩:=(c.new 9 15)
  simp[bI,nz];refine (aco _ _ wq).mono ?_;rintro e wp ⟨rfl,rfl⟩;exact⟨_,rfl,Ev.refl _,rfl⟩;exact aym;exact ayp;refine jS fun a wq c=>⟨(ay rfl),52,#[.int .i64 (i:Int),.int .i64 (j:Int)],?_,?_⟩
  rw[bP 52 _ _ rfl (by kernel_rfl)];have bI:a.eval (.tmp 17)=.int .i64 (i:Int):=(c.new 11 17)
  have nz:a.eval (.tmp 18)=.int .i64 (j:Int):=(c.new 12 18)
  simp[bI,nz];refine (acp _ _ wq).mono ?_;rintro e wp ⟨rfl,rfl⟩;exact⟨_,rfl,Ev.refl _,rfl⟩
  ·refine Yx fun a wq c=>?_;have bI:a.eval (.tmp 16)=.int .i64 (JU ⟨di.name.toArray⟩ ⟨dj.name.toArray⟩):=(c.new 10 16)
   have nz:a.eval (.tmp 19)=.int .i64 (JV (i:Int) (j:Int)):=(c.new 13 19)
   refine⟨(ay rfl),.slice (some ⟨wq.heap.size,0,none⟩) 2 2,wq.alloc (.cells #[.int .i64 (JU ⟨di.name.toArray⟩ ⟨dj.name.toArray⟩),.int .i64 (JV (i:Int) (j:Int))] 3),?_,Ev.alloc _ _,⟨wq.heap.size,rfl,Bx.new _ _ _⟩⟩;generalize a.eval=ρ at bI nz⊢;simp[execOp,bI,nz,go_sem]
  refine jS fun a wq c=>?_;obtain⟨g_,eg_,hB_⟩:=(c.got 14 20 (by kernel_rfl) (by kernel_rfl) rfl:JW _ _ _ _)
  refine⟨(ay rfl),50,#[.slice (some ⟨g_,0,none⟩) 2 2],?_,?_⟩;rw[bP 50 _ _ rfl (by kernel_rfl)];simp[eg_];refine (afb g_ _ _ wq hB_).mono ?_;rintro e wp ⟨rfl,rfl⟩;exact⟨_,rfl,Ev.refl _,rfl⟩;refine aJ fun a w c=>⟨(ay rfl),_,run_assign _ rfl w,(c.new 15 21)⟩
 intro s w2 hE hold hnew;have f0:s 0=.int .i64 (i:Int):=hold 0;have f1:s 1=.int .i64 (j:Int):=hold 1;have f2:s 2=.pointer (some ⟨gb,0,none⟩):=hold 2;have f5:s 5=.int .i64 (or2 (JU ⟨di.name.toArray⟩ ⟨dj.name.toArray⟩) (JV (i:Int) (j:Int))):=hnew 16 5;change Exit.then _ _ .normal ⟨#[s 0,s 1,s 2,s 3,s 4,s 5,s 6,s 7,s 8,s 9,s 10,s 11,s 12,s 13,s 14,s 15,s 16,s 17,s 18,s 19,s 20,s 21],_⟩ _;simp only[f0,f1,f2,f5];go_wp2;go_ret;exact⟨rfl,hE⟩
theorem XN {a:Act} {o:Oper} (f:FuncId) (cb:Array Value) (x:Operand) (xs:Array Operand) (ts:Array TypeId) (ho:o.op=.call {callee:=.value x,args:=xs,argTypes:=ts}) (h:D7 Tryz.prog f=true) (hx:a.eval x=.func (.func f) #[] cb) (w:World):
  (execOp a.eval o).run Tryz.prog w=.ok (.enter f (xs.map a.eval++cb)) w:=by
 unfold execOp;rw[ho];simp[resolve,Deferred.ofValue,invoke,hx];exact ML h _ w
theorem acu (go gb:Nat) (r:Int) (w:World) (hO:Bx 3 go #[.int .i64 0,.int .i64 1] w) (hr0:0≤r) (hC:∀w1,Ev w w1→Calls Tryz.prog 49 #[.int .i64 1,.int .i64 0,.pointer (some ⟨gb,0,none⟩)] w1 fun e w'=>e=.returned (.int .i64 r)∧Ev w1 w'):
  Calls Tryz.prog 127 #[.slice (some ⟨go,0,none⟩) 2 2,.int .i64 0,.int .i64 2,.func (.func 49) #[] #[.pointer (some ⟨gb,0,none⟩)]] w fun e w'=>e=.returned (.tuple #[])∧Ev w w':=by
 have fJ:Tryz.prog.follows .mixedOrders=true:=by kernel_rfl
 have o0:w.cell? ⟨go,0,none⟩=some (.int .i64 0):=hO.cell 0;have o1:w.cell? ⟨go,1,none⟩=some (.int .i64 1):=hO.cell 1;have hgo:=hO.lt;have hr:decide (r<0)=false:=by simp;omega
 have alR:=zq hC;have HE:=zq (Ev.refl w);clear hO hC;go_enter Tryz.func127,Tryz.ntmps127;go_wp2;refine wp_loop_rounds 3 ?_;rw[rounds_succ];go_wp2;refine wp_loop_rounds 2 ?_;rw[rounds_succ];go_wp2;refine fH fJ [fun v _=>v=.int .i64 1,fun v _=>v=.int .i64 0,fun v _=>v=.bool true,fun v _=>v=.bool true,fun v _=>v=.func (.func 49) #[] #[.pointer (some ⟨gb,0,none⟩)],fun v _=>v=.slice (some ⟨go,0,none⟩) 2 2,fun v _=>v=.int .i64 1,fun v _=>v=.pointer (some ⟨go,1,none⟩),fun v _=>v=.int .i64 1,fun v _=>v=.slice (some ⟨go,0,none⟩) 2 2,fun v _=>v=.int .i64 1,fun v _=>v=.int .i64 0,fun v _=>v=.pointer (some ⟨go,0,none⟩),fun v _=>v=.int .i64 0,fun v _=>v=.int .i64 r,fun v _=>v=.bool false,fun v _=>v=.bool false]
  53 rfl (by kernel_rfl) ⟨az _,az _,az _,az _,az _,az _,az _,az _,az _,az _,az _,az _,az _,az _,az _,az _,az _,trivial⟩ ?_ ?_
 ·refine aG 0 ?_ (aG 1 ?_ (aG 2 ?_ (aG 3 ?_ (aG 4 ?_ (aG 5 ?_ (aG 6 ?_ (aG 7 ?_ (aG 8 ?_ (aG 9 ?_ (aG 10 ?_ (aG 11 ?_ (aG 12 ?_ (aG 13 ?_ (aG 14 ?_ (aG 15 ?_ (aG 16 ?_ (qC 17)))))))))))))))));refine aJ fun a w c=>⟨(ay rfl),_,run_move _ rfl w,(c.was 9 rfl)⟩
  exact ayp
  ·refine aJ fun a w c=>⟨(ay rfl),.bool true,?_,rfl⟩
   have e18:a.eval (.tmp 18)=.int .i64 1:=(c.new 0 18)
   have e19:a.eval (.tmp 19)=.int .i64 0:=(c.new 1 19)
   generalize a.eval=ρ at e18 e19⊢;simp[execOp,e18,e19,go_sem]
  refine aJ fun a w c=>⟨(ay rfl),_,run_move _ rfl w,(c.new 2 20)⟩
  refine aJ fun a w c=>⟨(iP rfl (by kernel_rfl) (c.new 3 21)),_,run_move _ rfl w,(c.was 3 rfl)⟩
  refine aJ fun a w c=>⟨(iP rfl (by kernel_rfl) (c.new 3 21)),_,run_move _ rfl w,(c.was 0 rfl)⟩
  refine aJ fun a w c=>⟨(iP rfl (by kernel_rfl) (c.new 3 21)),_,run_move _ rfl w,(c.was 9 rfl)⟩
  ·refine aJ fun a wq c=>⟨(iP rfl (by kernel_rfl) (c.new 3 21)),.pointer (some ⟨go,1,none⟩),?_,rfl⟩
   have bI:a.eval (.tmp 23)=.slice (some ⟨go,0,none⟩) 2 2:=(c.new 5 23)
   have nz:a.eval (.tmp 24)=.int .i64 1:=(c.new 6 24)
   generalize a.eval=ρ at bI nz⊢;simp[execOp,bI,nz,go_sem]
  ·refine aJ fun a w c=>⟨(iP rfl (by kernel_rfl) (c.new 3 21)),.int .i64 1,?_,rfl⟩
   have e25:a.eval (.tmp 25)=.pointer (some ⟨go,1,none⟩):=(c.new 7 25)
   have hc:=(c.ev.cell (p:=⟨go,1,none⟩) hgo).trans o1;generalize a.eval=ρ at e25⊢;simp[execOp,e25,hc,go_sem]
  refine aJ fun a w c=>⟨(iP rfl (by kernel_rfl) (c.new 3 21)),_,run_move _ rfl w,(c.was 0 rfl)⟩
  refine aJ fun a w c=>⟨(iP rfl (by kernel_rfl) (c.new 3 21)),_,run_move _ rfl w,(c.was 9 rfl)⟩
  ·refine aJ fun a w c=>⟨(iP rfl (by kernel_rfl) (c.new 3 21)),.int .i64 0,?_,rfl⟩
   have e28:a.eval (.tmp 28)=.int .i64 1:=(c.new 10 28)
   have uf:a.eval (.const (.int .i64 1))=.int .i64 1:=rfl;generalize a.eval=ρ at e28 uf⊢;simp[execOp,e28,uf,go_sem,show IntKind.i64.wrap 0=0 from rfl]
  ·refine aJ fun a wq c=>⟨(iP rfl (by kernel_rfl) (c.new 3 21)),.pointer (some ⟨go,0,none⟩),?_,rfl⟩
   have bI:a.eval (.tmp 27)=.slice (some ⟨go,0,none⟩) 2 2:=(c.new 9 27)
   have nz:a.eval (.tmp 29)=.int .i64 0:=(c.new 11 29)
   generalize a.eval=ρ at bI nz⊢;simp[execOp,bI,nz,go_sem]
  ·refine aJ fun a w c=>⟨(iP rfl (by kernel_rfl) (c.new 3 21)),.int .i64 0,?_,rfl⟩
   have e30:a.eval (.tmp 30)=.pointer (some ⟨go,0,none⟩):=(c.new 12 30)
   have hc:=(c.ev.cell (p:=⟨go,0,none⟩) hgo).trans o0;generalize a.eval=ρ at e30⊢;simp[execOp,e30,hc,go_sem]
  refine jS fun a wq c=>⟨(iP rfl (by kernel_rfl) (c.new 3 21)),49,#[.int .i64 1,.int .i64 0,.pointer (some ⟨gb,0,none⟩)],?_,?_⟩
  have bI:a.eval (.tmp 22)=.func (.func 49) #[] #[.pointer (some ⟨gb,0,none⟩)]:=(c.new 4 22)
  have nz:a.eval (.tmp 26)=.int .i64 1:=(c.new 8 26)
  have e_2:a.eval (.tmp 31)=.int .i64 0:=(c.new 13 31)
  rw[XN 49 #[.pointer (some ⟨gb,0,none⟩)] _ _ _ rfl (by kernel_rfl) bI];simp[nz,e_2];refine (alR.out wq (HE.out.trans c.ev)).mono ?_;rintro e wp ⟨rfl,mY⟩;exact⟨_,rfl,mY,rfl⟩
  ·refine aJ fun a w c=>⟨(iP rfl (by kernel_rfl) (c.new 3 21)),.bool false,?_,rfl⟩
   have e32:a.eval (.tmp 32)=.int .i64 r:=(c.new 14 32)
   have uf:a.eval (.const (.int .i64 0))=.int .i64 0:=rfl;generalize a.eval=ρ at e32 uf⊢;simp[execOp,e32,uf,go_sem,hr]
  refine aJ fun a w c=>⟨(ay rfl),_,KX rfl (c.new 3 21) w,(c.new 15 33)⟩
 intro s w2 hE hold hnew;have f0:s 0=.slice (some ⟨go,0,none⟩) 2 2:=hold 0;have f1:s 1=.int .i64 0:=hold 1;have f2:s 2=.int .i64 2:=hold 2;have f3:s 3=.func (.func 49) #[] #[.pointer (some ⟨gb,0,none⟩)]:=hold 3;have f8:s 8=.int .i64 1:=hold 8;have f9:s 9=.int .i64 1:=hold 9;have f34:s 34=.bool false:=hnew 16 34;change Exit.then _ _ .normal ⟨_,_⟩ _;simp only[List.range,List.range.loop,List.map];simp only[f0,f1,f2,f3,f8,f9,f34];clear hold hnew;go_wp2;rw[rounds_succ];go_wp2;go_end0;exact⟨rfl,hE⟩
end Go.Proofs.YtpbfokkocaemlaaGreatDoor
