import Derived.Test.YtpbfokkocaemlaaGreatDoorZ38S
set_option linter.unusedVariables false
set_option maxRecDepth 100000
set_option maxHeartbeats 64000000
namespace Go.Proofs.YtpbfokkocaemlaaGreatDoor
open Go.RowKit
open Go.Lib renaming hid → zq
theorem axR {P:Prop} (h:P:=by
 refine jS fun a wq c=>⟨(ay rfl),9,#[],?_,?_⟩
 rw[bP 9 _ _ rfl (by kernel_rfl)];simp;exact JX wq):P:=h
theorem SH (s0:ByteArray) (w:World) (aip:Tab w) (u0:s0.size≤maxLen):
  Calls Tryz.prog 4 #[.string s0] w fun e w'=>e=.returned (.bool true)∧Ev w w':=by
 have fJ:Tryz.prog.follows .mixedOrders=true:=by kernel_rfl
 unfold maxLen at u0;have afx:=zq aip;clear aip;go_enter Tryz.func4,Tryz.ntmps4
 go_upto_if 14 with fail
 go_cut [0] (fun v wx=>∃s1:ByteArray,v=.string s1∧s1.size≤250∧w=wx)
 case first=>
  by_cases hs:(250:Int)<(s0.size:Int)
  ·have hz:(s0.extract 0 250).size=250:=by
    have h1:(s0.extract 0 250).data.toList.length=(s0.extract 0 250).size:=by rw[atU];rfl
    have h2:s0.data.toList.length=s0.size:=by rw[atU];rfl
    rw[←h1,Lib.extract_eq,auC,aua,h2];omega
   have HZ:=zq hz;have i1:(250:Int)≤(s0.size:Int):=by omega
   clear hz
   go_wp2_with fail
   go_meet
   exact⟨s0.extract 0 250,rfl,by rw[HZ.out];exact att _,rfl⟩
  go_wp2_with fail
  go_meet
  exact⟨s0,rfl,by omega,rfl⟩
 case rest=>
 obtain⟨s1,rfl,hs1,rfl⟩:=hcut;clear u0;obtain⟨L,rfl⟩:∃L:By,s1=⟨L.toArray⟩:=⟨s1.data.toList,by simp⟩
 have hL7:L.length≤250:=by simpa[ByteArray.size] using hs1
 have HOF:=zq (fun w1=>Vg L w1 (by omega));have HKn:=zq (fun w1 (hE:Ev w w1)=>acJ w1 (afx.out.ev hE));have HO0:=zq (fun (m:PM) (hm:m.p=(dJ L).1) (v:Value) w1 (hE:Ev w w1) (h:Qx 0 [] w1 m) (hv:Md v w1)=>PO L m v w1 (afx.out.ev hE) h hm hv);have hcase:=Vp L;unfold NP at HOF;unfold zn at HO0;generalize KF L=R at*;generalize (dJ L).1=P at*;obtain⟨rc,ry,rs⟩:=R;simp only at HO0 hcase;have aaO:=zq hcase;clear hcase;go_upto_region 4 with (first
  | ((with_reducible refine (HOF.out _).mono ?_);rintro r w1 ⟨m,rfl,hmp,ZO,aH⟩;obtain⟨w2,hw2,bK,hB2,_⟩:=DI w1 m;have E2:=zq (aH.trans bK);have HMP:=zq hmp;have HMQ:=zq (ZO.ev bK);have BM:=hB2;clear hmp ZO aH bK hB2))
 generalize w1.heap.size=gm at*;clear hw2;have HO1:Hid (∀(v:Value) w3,Ev w2 w3→Md v w3→Calls Tryz.prog 7 #[.agg #[.int .i64 m.kind,.string ⟨m.name.toArray⟩,.slice m.ex.A m.ex.l.length m.ex.cap,.slice m.co.A m.co.l.length m.co.cap,.slice m.lf.A m.lf.l.length m.lf.cap,.slice m.rt.A m.rt.l.length m.rt.cap,.slice m.ag.A m.ag.l.length m.ag.cap,.slice m.A m.kids.length m.cap],v] w3 fun e w'=>∃x,e=.returned (.tuple #[x,.int .i64 ry,.string rs])∧Ow 50 2 eP w3.heap.size w' x rc∧Ev w3 w'):=zq fun v w3 hE hv=>HO0.out m HMP.out v w3 (E2.out.trans hE) (HMQ.out.ev hE) hv;clear HO0;refine fH fJ [fun v _=>v=pv m,Md,Ad w2.heap.size rc ry rs,Ad w2.heap.size rc ry rs,DR w2.heap.size rc,fun v _=>v=.int .i64 ry,fun v _=>v=.string rs,DR w2.heap.size rc,fun v _=>v=.int .i64 ry,fun v _=>v=.string rs]
  76 rfl (by kernel_rfl) ⟨az _,Md.mono,Ad.mono _ _ _ _,Ad.mono _ _ _ _,DR.mono _ _,az _,az _,DR.mono _ _,az _,az _,trivial⟩ ?_ ?_
 ·refine aG 0 ?_ (aG 1 ?_ (aG 2 ?_ (aG 3 ?_ (aG 4 ?_ (aG 5 ?_ (aG 6 ?_ (aG 7 ?_ (aG 8 ?_ (aG 9 ?_ (qC 10))))))))));refine aJ fun a wq c=>⟨(ay rfl),_,AA rfl ((c.was 3 rfl):a.eval (.tmp 3)=.pointer (some ⟨gm,0,none⟩)) (BM.ev c.ev) Tryz.underlying32 rfl Tryz.bJ,rfl⟩
  exact axR;refine jS fun a wq c=>?_;have hT_:=(c.got 1 21 (by kernel_rfl) (by kernel_rfl) rfl:Md _ _)
  refine⟨(ay rfl),7,#[pv m,a.eval (.tmp 21)],?_,?_⟩;rw[bP 7 _ _ rfl (by kernel_rfl)];have bI:a.eval (.tmp 20)=pv m:=(c.new 0 20)
  simp[bI];refine (HO1.out _ wq c.ev hT_).mono ?_;rintro e wp ⟨x_,rfl,hO_,mY⟩;exact⟨_,rfl,mY,x_,rfl,hO_.GH c.ev.size⟩;refine aJ fun a wq c=>⟨(ay rfl),_,run_move _ rfl wq,(c.new 2 22)⟩
  ·refine aJ fun a wq c=>?_;obtain⟨x_,e_,h_⟩:=(c.got 3 19 (by kernel_rfl) (by kernel_rfl) rfl:Ad _ _ _ _ _ _)
   refine⟨(ay rfl),x_,?_,h_⟩;generalize a.eval=ρ at e_⊢;simp[execOp,e_,go_sem]
  ·refine aJ fun a wq c=>?_;obtain⟨x_,e_,h_⟩:=(c.got 3 19 (by kernel_rfl) (by kernel_rfl) rfl:Ad _ _ _ _ _ _)
   refine⟨(ay rfl),.int .i64 ry,?_,rfl⟩;generalize a.eval=ρ at e_⊢;simp[execOp,e_,go_sem]
  ·refine aJ fun a wq c=>?_;obtain⟨x_,e_,h_⟩:=(c.got 3 19 (by kernel_rfl) (by kernel_rfl) rfl:Ad _ _ _ _ _ _)
   refine⟨(ay rfl),.string rs,?_,rfl⟩;generalize a.eval=ρ at e_⊢;simp[execOp,e_,go_sem]
  refine aJ fun a wq c=>⟨(ay rfl),_,run_assign _ rfl wq,(c.new 4 23)⟩
  refine aJ fun a wq c=>⟨(ay rfl),_,run_assign _ rfl wq,(c.new 5 24)⟩
  refine aJ fun a wq c=>⟨(ay rfl),_,run_assign _ rfl wq,(c.new 6 25)⟩
 intro sl wv Lj hold hnew;have wV:DR w2.heap.size rc (sl 4) wv:=hnew 7 4;have f2:sl 2=.bool false:=hold 2;have f3:sl 3=.pointer (some ⟨gm,0,none⟩):=hold 3;have f5:sl 5=.int .i64 ry:=hnew 8 5;have f6:sl 6=.string rs:=hnew 9 6;have f20:sl 20=pv m:=hnew 0 20;have f24:sl 24=.int .i64 ry:=hnew 5 24;have f25:sl 25=.string rs:=hnew 6 25;change Exit.then _ _ .normal ⟨_,_⟩ _;simp only[List.range,List.range.loop,List.map];simp only[f2,f3,f5,f6,f20,f24,f25];clear hold hnew;generalize sl 21=a21;generalize sl 22=a22;generalize sl 19=a19;generalize sl 23=a23;generalize sl 0=u0;generalize sl 1=u1;generalize sl 7=u7;generalize sl 8=u8;generalize sl 9=u9;generalize sl 10=u10;generalize sl 11=u11;generalize sl 12=u12;generalize sl 13=u13;generalize sl 14=u14;generalize sl 15=u15;generalize sl 16=u16;generalize sl 17=u17;generalize sl 18=u18;generalize sl 26=u26;generalize sl 27=u27;generalize sl 28=u28;generalize sl 29=u29;generalize sl 30=u30;generalize sl 31=u31;generalize sl 32=u32;generalize sl 33=u33;generalize sl 34=u34;generalize sl 35=u35;generalize sl 36=u36;generalize sl 37=u37;generalize sl 38=u38;generalize sl 39=u39;generalize sl 40=u40;generalize sl 41=u41;generalize sl 42=u42;generalize sl 43=u43;generalize sl 44=u44;generalize sl 45=u45;generalize sl 46=u46;generalize sl 47=u47;generalize sl 48=u48;generalize sl 49=u49;generalize sl 50=u50;generalize sl 51=u51;generalize sl 52=u52;generalize sl 53=u53;generalize sl 54=u54;generalize sl 55=u55;generalize sl 56=u56;generalize sl 57=u57;generalize sl 58=u58;generalize sl 59=u59;generalize sl 60=u60;generalize sl 61=u61;generalize sl 62=u62;generalize sl 63=u63;generalize sl 64=u64;generalize sl 65=u65;generalize sl 66=u66;generalize sl 67=u67;generalize sl 68=u68;generalize sl 69=u69;generalize sl 70=u70;generalize sl 71=u71;generalize sl 72=u72;generalize sl 73=u73;generalize sl 74=u74;generalize sl 75=u75;obtain⟨cA,ccp,hs4,hCs⟩:=wV.form;have HCS:=zq hCs;rw[hs4];have E3:=zq (E2.out.trans Lj);have BM:=BM.ev Lj
 have HMQ:=zq (HMQ.out.ev Lj);clear hs4 wV hCs Lj HO1;rcases aaO.out with⟨hy,hc0⟩|⟨hy,hW,hw0,hce,hcv⟩
 ·subst hc0;have hyb:(ry !=0)=true:=auJ.2 hy;clear hy aaO
  go_wp2_with ((with_reducible refine (HKn.out _ E3.out).mono ?_);rintro r w4 ⟨rfl,gI⟩)
  go_ret;exact⟨rfl,E3.out.trans gI⟩
 subst hy;have HW:=zq hW;have HW0:=zq hw0;have HCE:=zq hce;have HRC:=zq (yN wv HCS.out);rw[hcv]at HRC;have hgm:=BM.lt;clear hW hw0 hce hcv aaO;go_upto_region 9 with (first
  | ((with_reducible refine (HRC.out).mono ?_);rintro r w4 ⟨rfl,gI⟩;have E4:=zq (E3.out.trans gI);have amn:=zq (HCS.out.ev gI);have BM4:=BM.ev gI;have amq:=zq (HMQ.out.ev gI);clear gI))
 have asc:=BM4.lt;obtain⟨⟨p0,p1,p2,p3,p4,p5,p6,p7⟩,_⟩:=BM4.eight;obtain⟨w5,QC,Cm,hPs,amr,hQs⟩:=aml w4 m amq.out;have qZ:=zq hPs;have yB:=zq hQs;have E5:=zq (E4.out.trans Cm);have ams:=zq (amn.out.ev Cm);have UO:=zq amr;clear hPs hQs Cm hgm;obtain⟨⟨r0,r1,r2,r3,r4,r5,r6,r7⟩,_⟩:=(show Bx 32 gm #[.int .i64 m.kind,.string ⟨m.name.toArray⟩,.slice m.ex.A m.ex.l.length m.ex.cap,.slice m.co.A m.co.l.length m.co.cap,.slice m.lf.A m.lf.l.length m.lf.cap,.slice m.rt.A m.rt.l.length m.rt.cap,.slice m.ag.A m.ag.l.length m.ag.cap,.slice m.A m.kids.length m.cap] (((w4.alloc (.cells #[.int .i64 2,.string ⟨#[]⟩,.int .i64 1,.slice none 0 0] 47)).alloc (.cells #[.int .i64 m.kind,.string ⟨m.name.toArray⟩,.slice m.ex.A m.ex.l.length m.ex.cap,.slice m.co.A m.co.l.length m.co.cap,.slice m.lf.A m.lf.l.length m.lf.cap,.slice m.rt.A m.rt.l.length m.rt.cap,.slice m.ag.A m.ag.l.length m.ag.cap,.slice m.A m.kids.length m.cap] 32)).alloc (.cells #[.int .i64 m.kind,.string ⟨m.name.toArray⟩,.slice m.ex.A m.ex.l.length m.ex.cap,.slice m.co.A m.co.l.length m.co.cap,.slice m.lf.A m.lf.l.length m.lf.cap,.slice m.rt.A m.rt.l.length m.rt.cap,.slice m.ag.A m.ag.l.length m.ag.cap,.slice m.A m.kids.length m.cap] 32)) from BM4.ev (((Ev.alloc _ _).trans (Ev.alloc _ _)).trans (Ev.alloc _ _))).eight;have hb5:0<w4.heap.size+4:=by omega
 go_wp2;clear QC p0 p1 p2 p3 p4 p5 p6 p7 r0 r1 r2 r3 r4 r5 r6 r7
 go_loopw [51] (fun iv wr=>∃k:Nat,k≤3∧iv=.int .i64 (k:Int)∧Hid (Ev w5 wr)) (fun iv _=>3 - (intOf iv).toNat)
 case atStart=>exact⟨0,by omega,rfl,zq (Ev.refl _)⟩
 case round=>
  obtain⟨k,hk,rfl,HE⟩:=hrel;by_cases hlt:k<3
  ·obtain⟨u,hu,hup⟩:=amk w4.heap.size m hlt;obtain⟨x0,x1,x2,x3,x4,x5,x6,x7⟩:=Ps.cell (qZ.out.ev HE.out) hu;unfold eU.v at x2 x3 x4 x5 x6;unfold PM.kv at x7;rw[HMP.out]at hup;have HUP:=zq hup;have HUQ:=zq ((yB.out u (atw hu)).ev HE.out);have i1:(0:Int)≤(k:Int):=by omega
   have i2:(k:Int)<(3:Int):=by omega
   have hl5:w4.heap.size+4<wr.heap.size:=atM UO.out HE.out.size;obtain⟨wb,Le,hEb,hBb,_⟩:=DI wr u;have HEB:=zq (HE.out.trans hEb);have HUB:=zq (HUQ.out.ev hEb);have BU:=hBb;simp only[atT]at x0 x1 x2 x3 x4 x5 x6 x7;clear hu hup hEb hBb;go_upto_region 12 with fail
   have hgu:=BU.lt;generalize wr.heap.size=gu at*;clear Le x0 x1 x2 x3 x4 x5 x6 x7;have hq:=aio hlt HW0.out;rw[←HCE.out]at hq;have HQO:=zq hq;have hWq:=Vm hlt HW.out.wr.good;have HO2:=zq (fun (v:Value) w3 (hE:Ev wb w3) (hv:Md v w3)=>aav u 0 v w3 (afx.out.ev ((E5.out.trans HEB.out).trans hE)) (HUB.out.ev hE) (by rw[HUP.out];exact hWq) (by rw[HUP.out];have:=Vo hlt P;have:=HW.out.wr.size;omega) (by rw[HUP.out];have:=Yb hlt P;have:=HW.out.aeQ;omega) hv);rw[HUP.out]at HO2;unfold zn at HO2;generalize JZ (qPlan k P)=RK at*;obtain⟨kc,ky,ks⟩:=RK;simp only at HO2;clear hq hWq;refine fH fJ [fun v _=>v=pv u,Md,Ad wb.heap.size kc ky ks,Ad wb.heap.size kc ky ks,DR wb.heap.size kc,fun v _=>v=.int .i64 ky,fun v _=>v=.string ks,DR wb.heap.size kc,fun v _=>v=.int .i64 ky,fun v _=>v=.string ks]
    76 rfl (by kernel_rfl) ⟨az _,Md.mono,Ad.mono _ _ _ _,Ad.mono _ _ _ _,DR.mono _ _,az _,az _,DR.mono _ _,az _,az _,trivial⟩ ?_ ?_
   ·refine aG 0 ?_ (aG 1 ?_ (aG 2 ?_ (aG 3 ?_ (aG 4 ?_ (aG 5 ?_ (aG 6 ?_ (aG 7 ?_ (aG 8 ?_ (aG 9 ?_ (qC 10))))))))));refine aJ fun a wq c=>⟨(ay rfl),_,AA rfl ((c.was 8 rfl):a.eval (.tmp 8)=.pointer (some ⟨gu,0,none⟩)) (BU.ev c.ev) Tryz.underlying32 rfl Tryz.bJ,rfl⟩
    exact axR;refine jS fun a wq c=>?_;have hT_:=(c.got 1 57 (by kernel_rfl) (by kernel_rfl) rfl:Md _ _)
    refine⟨(ay rfl),7,#[pv u,a.eval (.tmp 57)],?_,?_⟩;rw[bP 7 _ _ rfl (by kernel_rfl)];have bI:a.eval (.tmp 56)=pv u:=(c.new 0 56)
    simp[bI];refine (HO2.out _ wq c.ev hT_).mono ?_;rintro e wp ⟨x_,rfl,hO_,mY⟩;exact⟨_,rfl,mY,x_,rfl,hO_.GH c.ev.size⟩;refine aJ fun a wq c=>⟨(ay rfl),_,run_move _ rfl wq,(c.new 2 58)⟩
    ·refine aJ fun a wq c=>?_;obtain⟨x_,e_,h_⟩:=(c.got 3 55 (by kernel_rfl) (by kernel_rfl) rfl:Ad _ _ _ _ _ _)
     refine⟨(ay rfl),x_,?_,h_⟩;generalize a.eval=ρ at e_⊢;simp[execOp,e_,go_sem]
    ·refine aJ fun a wq c=>?_;obtain⟨x_,e_,h_⟩:=(c.got 3 55 (by kernel_rfl) (by kernel_rfl) rfl:Ad _ _ _ _ _ _)
     refine⟨(ay rfl),.int .i64 ky,?_,rfl⟩;generalize a.eval=ρ at e_⊢;simp[execOp,e_,go_sem]
    ·refine aJ fun a wq c=>?_;obtain⟨x_,e_,h_⟩:=(c.got 3 55 (by kernel_rfl) (by kernel_rfl) rfl:Ad _ _ _ _ _ _)
     refine⟨(ay rfl),.string ks,?_,rfl⟩;generalize a.eval=ρ at e_⊢;simp[execOp,e_,go_sem]
    refine aJ fun a wq c=>⟨(ay rfl),_,run_assign _ rfl wq,(c.new 4 59)⟩
    refine aJ fun a wq c=>⟨(ay rfl),_,run_assign _ rfl wq,(c.new 5 60)⟩
    refine aJ fun a wq c=>⟨(ay rfl),_,run_assign _ rfl wq,(c.new 6 61)⟩
   intro sl wv2 Lj hold hnew;have wV:DR wb.heap.size kc (sl 9) wv2:=hnew 7 9;have f0:sl 0=u0:=hold 0;have f1:sl 1=u1:=hold 1;have f2:sl 2=u2:=hold 2;have f3:sl 3=.pointer (some ⟨gm,0,none⟩):=hold 3;have f4:sl 4=.slice cA rc.length ccp:=hold 4;have f5:sl 5=.int .i64 0:=hold 5;have f6:sl 6=.string rs:=hold 6;have f7:sl 7=u7:=hold 7;have f8:sl 8=.pointer (some ⟨gu,0,none⟩):=hold 8;have f12:sl 12=u12:=hold 12;have f13:sl 13=u13:=hold 13;have f14:sl 14=u14:=hold 14;have f15:sl 15=u15:=hold 15;have f16:sl 16=u16:=hold 16;have f17:sl 17=u17:=hold 17;have f18:sl 18=u18:=hold 18;have f19:sl 19=a19:=hold 19;have f20:sl 20=pv m:=hold 20;have f21:sl 21=a21:=hold 21;have f22:sl 22=a22:=hold 22;have f23:sl 23=a23:=hold 23;have f24:sl 24=.int .i64 0:=hold 24;have f25:sl 25=.string rs:=hold 25;have f26:sl 26=.int .i64 0:=hold 26;have f27:sl 27=.bool false:=hold 27;have f28:sl 28=u28:=hold 28;have f29:sl 29=u29:=hold 29;have f30:sl 30=u30:=hold 30;have f31:sl 31=u31:=hold 31;have f32:sl 32=u32:=hold 32;have f33:sl 33=u33:=hold 33;have f34:sl 34=.slice cA rc.length ccp:=hold 34;have f35:sl 35=.int .i64 0:=hold 35;have f36:sl 36=.bool false:=hold 36;have f37:sl 37=.agg #[.int .i64 2,.string ⟨#[]⟩,.int .i64 1,.slice none 0 0]:=hold 37;have f38:sl 38=.slice (some ⟨w4.heap.size,0,none⟩) 1 1:=hold 38;have f39:sl 39=.agg #[.int .i64 m.kind,.string ⟨m.name.toArray⟩,.slice m.ex.A m.ex.l.length m.ex.cap,.slice m.co.A m.co.l.length m.co.cap,.slice m.lf.A m.lf.l.length m.lf.cap,.slice m.rt.A m.rt.l.length m.rt.cap,.slice m.ag.A m.ag.l.length m.ag.cap,.slice m.A m.kids.length m.cap]:=hold 39;have f40:sl 40=.slice (some ⟨w4.heap.size+1,0,none⟩) 1 1:=hold 40;have f41:sl 41=.agg #[.int .i64 2,.string ⟨#[]⟩,.slice (some ⟨w4.heap.size,0,none⟩) 1 1,.slice none 0 0,.slice none 0 0,.slice none 0 0,.slice none 0 0,.slice (some ⟨w4.heap.size+1,0,none⟩) 1 1]:=hold 41
   have f42:sl 42=.agg #[.int .i64 m.kind,.string ⟨m.name.toArray⟩,.slice m.ex.A m.ex.l.length m.ex.cap,.slice m.co.A m.co.l.length m.co.cap,.slice m.lf.A m.lf.l.length m.lf.cap,.slice m.rt.A m.rt.l.length m.rt.cap,.slice m.ag.A m.ag.l.length m.ag.cap,.slice m.A m.kids.length m.cap]:=hold 42;have f43:sl 43=.slice (some ⟨w4.heap.size+1+1,0,none⟩) 1 1:=hold 43;have f44:sl 44=.agg #[.int .i64 6,.string ⟨#[]⟩,.slice none 0 0,.slice none 0 0,.slice none 0 0,.slice none 0 0,.slice none 0 0,.slice (some ⟨w4.heap.size+1+1,0,none⟩) 1 1]:=hold 44;have f45:sl 45=.agg #[.int .i64 m.kind,.string ⟨m.name.toArray⟩,.slice m.ex.A m.ex.l.length m.ex.cap,.slice m.co.A m.co.l.length m.co.cap,.slice m.lf.A m.lf.l.length m.lf.cap,.slice m.rt.A m.rt.l.length m.rt.cap,.slice m.ag.A m.ag.l.length m.ag.cap,.slice m.A m.kids.length m.cap]:=hold 45;have f46:sl 46=.agg #[.int .i64 m.kind,.string ⟨m.name.toArray⟩,.slice m.ex.A m.ex.l.length m.ex.cap,.slice m.co.A m.co.l.length m.co.cap,.slice m.lf.A m.lf.l.length m.lf.cap,.slice m.rt.A m.rt.l.length m.rt.cap,.slice m.ag.A m.ag.l.length m.ag.cap,.slice m.A m.kids.length m.cap]:=hold 46;have f47:sl 47=.slice (some ⟨w4.heap.size+1+1+1,0,none⟩) 2 2:=hold 47;have f48:sl 48=.agg #[.int .i64 5,.string ⟨#[]⟩,.slice none 0 0,.slice none 0 0,.slice none 0 0,.slice none 0 0,.slice none 0 0,.slice (some ⟨w4.heap.size+1+1+1,0,none⟩) 2 2]:=hold 48;have f49:sl 49=.slice (some ⟨w4.heap.size+1+1+1+1,0,none⟩) 3 3:=hold 49;have f50:sl 50=.int .i64 3:=hold 50;have f51:sl 51=.int .i64 (k:Int):=hold 51;have f52:sl 52=.bool true:=hold 52;have f53:sl 53=.pointer (some ⟨w4.heap.size+1+1+1+1,k*8,none⟩):=hold 53;have f54:sl 54=.agg #[.int .i64 u.kind,.string ⟨u.name.toArray⟩,.slice u.ex.A u.ex.l.length u.ex.cap,.slice u.co.A u.co.l.length u.co.cap,.slice u.lf.A u.lf.l.length u.lf.cap,.slice u.rt.A u.rt.l.length u.rt.cap,.slice u.ag.A u.ag.l.length u.ag.cap,.slice u.A u.kids.length u.cap]:=hold 54;have f62:sl 62=u62:=hold 62;have f63:sl 63=u63:=hold 63
   have f64:sl 64=u64:=hold 64;have f65:sl 65=u65:=hold 65;have f66:sl 66=u66:=hold 66;have f67:sl 67=u67:=hold 67;have f68:sl 68=u68:=hold 68;have f69:sl 69=u69:=hold 69;have f70:sl 70=u70:=hold 70;have f71:sl 71=u71:=hold 71;have f72:sl 72=u72:=hold 72;have f73:sl 73=u73:=hold 73;have f74:sl 74=u74:=hold 74;have f75:sl 75=u75:=hold 75;have f10:sl 10=.int .i64 ky:=hnew 8 10;have f11:sl 11=.string ks:=hnew 9 11;change Exit.then _ _ .normal ⟨_,_⟩ _;simp only[List.range,List.range.loop,List.map];simp only[f0,f1,f2,f3,f4,f5,f6,f7,f8,f12,f13,f14,f15,f16,f17,f18,f19,f20,f21,f22,f23,f24,f25,f26,f27,f28,f29,f30,f31,f32,f33,f34,f35,f36,f37,f38,f39,f40,f41,f42,f43,f44,f45,f46,f47,f48,f49,f50,f51,f52,f53,f54,f62,f63,f64,f65,f66,f67,f68,f69,f70,f71,f72,f73,f74,f75,f10,f11];clear hold hnew;generalize sl 57=a57;generalize sl 58=a58;generalize sl 55=a55;generalize sl 59=a59;obtain⟨kA,kcp,hs9,hKs⟩:=wV.form;have BZ:=zq hKs;rw[hs9];have E6:=zq (HEB.out.trans Lj);clear hs9 wV hKs Lj HO2;rcases HQO.out with hq|hq
   ·obtain⟨rfl,Yq⟩:=Prod.mk.inj hq;obtain⟨rfl,rfl⟩:=Prod.mk.inj Yq;clear hq Yq HQO;go_wp2;go_roundw
    case rel=>exact⟨k+1,by omega,by go_num,E6⟩
    case measure=>simp[intOf];omega
   obtain⟨rfl,Yq⟩:=Prod.mk.inj hq;obtain⟨rfl,rfl⟩:=Prod.mk.inj Yq;have lu:=zq (NM wv2 (ams.out.ev E6.out) BZ.out);clear hq Yq HQO
   go_wp2_with ((with_reducible refine (lu.out).mono ?_);rintro r w6 ⟨rfl,lL⟩;have E7:=zq (E6.out.trans lL);clear lL)
   go_roundw
   case rel=>exact⟨k+1,by omega,by go_num,E7⟩
   case measure=>simp[intOf];omega
  obtain rfl:k=3:=by omega
  go_wp2_with ((with_reducible refine (HKn.out _ (E5.out.trans HE.out)).mono ?_);rintro r w6 ⟨rfl,lL⟩)
  go_ret;exact⟨rfl,(E5.out.trans HE.out).trans lL⟩
end Go.Proofs.YtpbfokkocaemlaaGreatDoor
