import Derived.Test.YtpbfokkocaemlaaGreatDoorZ34S
set_option linter.unusedVariables false
set_option maxRecDepth 100000
set_option maxHeartbeats 64000000
namespace Go.Proofs.YtpbfokkocaemlaaGreatDoor
open Go.RowKit
open Go.Lib renaming hid → zq
theorem Sm {α:Type} {l:List α} (h:l.length=4):∃a b c d,l=[a,b,c,d]:=by
 match l,h with
 | [a,b,c,d],_=>exact⟨a,b,c,d,rfl⟩
theorem mr (l:List T):(yG l).2=aQ (l.map bn):=by unfold yG;split;rename_i h;exact (zo _ h).symm;rfl
theorem uN (l:List T) (h:(yG l).2.1=0):(yG l).1=l.map T.s:=by rw[mr]at h;unfold yG;rw[if_pos h]
theorem uO {a:Er} (h:a.1≠0) (b:Er):fB a b=a:=by unfold fB;simp[h]
theorem xw {y:M} (h:y.t.size≤10000):y.kids.length≤10000:=by have h1:=T.size_eq y.t;have h2:=jA y.t.kids;rw[M.aY,atq]at h2;rw[M.aY]at h1;omega
theorem qB {y:M} (h:y.t.every bZ=true):∀x∈y.kids,x.s.length≤1000000:=fun x hx=>by rw[T.fQ,atu]at h;have h1:=atL.1 h.2 x.t (by rw[M.aY];exact atV.2 ⟨x,hx,rfl⟩);rw[T.fQ,atu]at h1;have h2:=h1.1;rw[M.qO]at h2;have:=(oG h2).2;omega
theorem axZ {P:Prop} (h:P:=by have h1:((q.map M.t).length==4&&((q.map M.t).take 2).all dC)=true:=lK;rw[atu,atH,atq]at h1;exact h1.1):P:=h
theorem axH {P:Prop} (h:P:=by rw[kR];show aQ ((l1.t).kids.map bn++((l2.t).kids.map bn++[aZ y1.t,aZ y2.t]))=_;rw[jc,jc,M.aY,M.aY,PH,SV,mr,mr];rfl):P:=h
theorem aww {P:Prop} (h:P:=by rw[jF];show Pl.mk 4 [] [] [] ((l1.t).kids.map T.s) ((l2.t).kids.map T.s) [] _=_;rw[M.aY,M.aY,atI,atI,show l1.kids.map (T.s ∘ M.t)=l1.kids.map M.s from aug fun x _=>M.tu x,show l2.kids.map (T.s ∘ M.t)=l2.kids.map M.s from aug fun x _=>M.tu x];rfl):P:=h
theorem Ky (m:M) (b0:Nat) (w:World) (hL:Lies b0 [] w m) (hfair:m.t.every bZ=true) (hsz:m.t.size≤10000) (hf:fG m.t=true) (x:M) (q:List M) (hq:m.kids=x::q) (hs:x.s=gU) (hl:∀l r,q=l::r→(yG (l.kids.map M.t)).2.1≠0)
  (ih:∀y∈q,∀w1,Ev w w1→Calls Tryz.prog 39 #[.agg #[.int .i64 y.kind,.string ⟨y.s.toArray⟩,.int .i64 y.n,.slice y.A y.kids.length y.cap,.int .i64 (y.pos:Int)]] w1 (bu (mi y.t) w1)):
  Calls Tryz.prog 39 #[.agg #[.int .i64 m.kind,.string ⟨m.s.toArray⟩,.int .i64 m.n,.slice m.A m.kids.length m.cap,.int .i64 (m.pos:Int)]] w (bu (mi m.t) w):=by
 have fJ:Tryz.prog.follows .mixedOrders=true:=by kernel_rfl
 obtain⟨jF,kR,lK,hm1,hx2,qP⟩:=lC hq hf;have Kq:Lies b0 [w.heap.size] w m:=hL.less fun k hk=>by simp at hk;exact .inr (.inr (by omega))
 obtain⟨b,off,k,c,eu⟩:=uD Kq hq qP;have Gj:=zq (fun w1 (hE:Ev w w1)=>sV m b0 w1 (hL.ev hE));rw[hf]at Gj;have vJ:=zq (fun w1 (hE:Ev w w1)=>jU m b0 w1 (hL.ev hE));have rP:OE m.t=x.s:=by rw[EE,hq];simp[hm1,M.tu,kK,hx2]
 rw[rP,hs]at vJ;have yB:=zq (fun y (hy:y∈q)=>lD hq hy hfair hsz);have LH:=q_len hq hsz;have Aa:=zq (fun i y (hy:q[i]?=some y) w1 (hE:Ev w w1)=>eu.kid (i+1) y (by rw[hq];simpa using hy) w1 (But.aS hE));rw[hs]at jF kR lK;unfold bu at ih⊢;obtain⟨PT,tK⟩:∃PT,PT=m.t:=⟨_,rfl⟩
 rw[←tK]at jF kR⊢;have hA:=eu.hA;have hn:=eu.hn;have hc:=eu.hc;have rH:=eu.rH;have hcm:=eu.hcm;have lQ:=eu.lQ;have hbl:b<w.heap.size:=(eu.z_ w (But.refl _ _) off _ rfl).2.1;have nY:=zq eu;clear eu tK hq hL Kq hfair hsz qP hf hx2 rP;generalize zi:m.kids.length=kn at*;generalize uV:m.A=mA at*;generalize DC:m.cap=mc at*;generalize oQ:m.kind=kd at*;generalize hs_:m.s=ms at*;generalize uU:m.n=mn at*;generalize DD:m.pos=mp at*;clear zi uV DC oQ hs_ uU DD;subst hm1;subst hA;subst hn;subst hc;obtain⟨w0,hw0,aT,hX,hR⟩:=DK w (.int .i64 1) (.string ⟨ms.toArray⟩) (.int .i64 mn) (.slice (some ⟨b,off,none⟩) (k+2) (c+2)) (.int .i64 (mp:Int));have HX:=zq hX;have HR:=zq hR;have HE:=zq aT;have lS:=zq ih;unfold gU at*;obtain⟨⟨c0,c1,c2,c3,c4⟩,_⟩:=hX.five;clear hX hR aT ih hs;have hk2:q.length=4:=by exact axZ
 obtain rfl:k=3:=by omega
 have Yv:=zq (fun y (hy:y∈q)=>(yB.out y hy).1);obtain⟨l1,l2,y1,y2,rfl⟩:=Sm hk2;obtain⟨o8,rfl⟩:∃c1,c=c1+3:=⟨c - 3,by omega⟩
 have hl:=hl _ _ rfl;obtain⟨N1,PH⟩:∃N1,N1=yG (l1.kids.map M.t):=⟨_,rfl⟩
 obtain⟨N2,SV⟩:∃N2,N2=yG (l2.kids.map M.t):=⟨_,rfl⟩
 have hz1:N1.2.1=0→N1.2=(0,0):=by rw[PH,mr];exact xu _
 have hz2:N2.2.1=0→N2.2=(0,0):=by rw[SV,mr];exact xu _
 have MJ:aZ PT=fB N1.2 (fB N2.2 (aQ ([y1,y2].map fun y=>aZ y.t))):=by exact axH
 have Vb:pPlan PT=.mk 4 [] [] [] (l1.kids.map M.s) (l2.kids.map M.s) [] ([y1,y2].map fun y=>pPlan y.t):=by exact aww
 have qF:N1.2.1=0→N1.1=l1.kids.map M.s:=fun h=>by rw[PH]at h⊢;rw[uN _ h,atI];exact aug fun x _=>M.tu x
 have Ia:N2.2.1=0→N2.1=l2.kids.map M.s:=fun h=>by rw[SV]at h⊢;rw[uN _ h,atI];exact aug fun x _=>M.tu x
 rw[←PH]at hl;have Fa:=zq (fun w1 (hE:Ev w w1)=>zh l1.kids l1.A l1.kids.length l1.cap w1 ((nY.out.lies l1 (by simp) w (But.refl _ _)).ms.ev hE) (by have:=xw (yB.out l1 (by simp)).2;omega) (qB (Yv.out l1 (by simp))));have Vd:=zq (fun w1 (hE:Ev w w1)=>zh l2.kids l2.A l2.kids.length l2.cap w1 ((nY.out.lies l2 (by simp) w (But.refl _ _)).ms.ev hE) (by have:=xw (yB.out l2 (by simp)).2;omega) (qB (Yv.out l2 (by simp))));have HQ:Hid (∀w1,Ev w w1→Ms w1 (some ⟨b,off+15,none⟩) 2 (o8+2) [y1,y2]):=zq fun w1 hE=>((nY.out.rest w1 (But.aS hE)).next (n:=3) (c:=o8+3) (by omega) (by omega)).next (n:=2) (c:=o8+2) (by omega) (by omega) |> fun h=>by exact h
 have P6:Hid (∀y_∈[y1,y2],y_∈[l1,l2,y1,y2]):=zq fun y_ hy=>by simp at hy⊢;rcases hy with rfl|rfl<;>simp
 unfold OW at Fa Vd;rw[←PH]at Fa;rw[←SV]at Vd;clear jF kR lK PH SV;have qx:Hid ((aZ PT).1=0→pPlan PT=.mk 4 [] [] [] N1.1 [] [] ([y1,y2].map fun y=>pPlan y.t)):=zq (fun h=>by rw[MJ,uO hl]at h;exact absurd h hl);have uG:Hid (aZ PT=fB N1.2 (aQ ([y1,y2].map fun y=>aZ y.t))):=zq (by rw[MJ,uO hl,uO hl]);have hlb:(N1.2.1==0)=false:=atp.2 hl;have HL:=zq hl;clear MJ Vb qF Ia hz1 hz2 hl Vd;go_enter Tryz.func39,Tryz.ntmps39;go_upto_region 32 with (first
  | ((with_reducible refine (Gj.out _ HE.out).mono ?_);rintro r w1 ⟨rfl,aH⟩;have E1:=zq (HE.out.trans aH);have F1:=zq aH;have hx1:=(HX.out.ev aH).lt;have hr1:=(HR.out.ev aH).lt;clear c0 c1 c2 c3 c4;obtain⟨⟨c0,c1,c2,c3,c4⟩,_⟩:=(HX.out.ev aH).five;have xq:=Bx.new 32 #[.int .i64 0,.string ⟨#[]⟩,.slice none 0 0,.slice none 0 0,.slice none 0 0,.slice none 0 0,.slice none 0 0,.slice none 0 0] w1;clear aH)
  | ((with_reducible refine (vJ.out _ (E1.out.trans (Ev.alloc _ _))).mono ?_);rintro r w2 ⟨rfl,bK⟩;have F2:=zq ((F1.out.trans (Ev.alloc _ _)).trans bK);have BP:=zq (xq.ev bK);obtain⟨⟨p0,p1,p2,p3,p4,p5,p6,p7⟩,z0,z1,z2,z3,z4,z5,z6,z7⟩:=(xq.ev bK).eight;clear bK xq;clear c0 c1 c2 c3 c4;obtain⟨⟨c0,c1,c2,c3,c4⟩,_⟩:=(HX.out.ev F2.out).five))
 obtain⟨wA,yE⟩:∃wA,wA=w2.setCell ⟨w1.heap.size,0,none⟩ (.int .i64 4):=⟨_,rfl⟩
 rw[←yE];have DN:Hid (Bx 32 w1.heap.size #[.int .i64 4,.string ⟨#[]⟩,.slice none 0 0,.slice none 0 0,.slice none 0 0,.slice none 0 0,.slice none 0 0,.slice none 0 0] wA):=zq (by rw[yE];have:=BP.out.set 0 (.int .i64 4);simpa using this);have FA:Hid (Ev w0 wA):=zq (by rw[yE];exact F2.out.box (But.setCell _ _ (by simp)) F1.out.size);have EA:Hid (Ev w wA):=zq (HE.out.trans FA.out);clear yE p0 p1 p2 p3 p4 p5 p6 p7 z0 z1 z2 z3 z4 z5 z6 z7 c0 c1 c2 c3 c4;obtain⟨⟨p0,p1,p2,p3,p4,p5,p6,p7⟩,z0,z1,z2,z3,z4,z5,z6,z7⟩:=DN.out.eight;obtain⟨⟨c0,c1,c2,c3,c4⟩,_⟩:=(HX.out.ev FA.out).five;have hpA:=DN.out.lt;obtain⟨y0,y1_,y2_,y3,y4⟩:=Aa.out 0 l1 rfl _ EA.out;simp only[atT,auE]at y3;clear y0 y1_ y2_ y4;go_upto_region 52 with (first
  | ((with_reducible refine (Fa.out _ EA.out).mono ?_);rintro r w3 ⟨X1,rfl,uZ,xy,iE⟩;have aaG:=zq uZ;have aaH:=zq xy;have E3:=zq iE;clear p0 p1 p2 p3 p4 p5 p6 p7 z0 z1 z2 z3 z4 z5 z6 z7;obtain⟨⟨p0,p1,p2,p3,p4,p5,p6,p7⟩,z0,z1,z2,z3,z4,z5,z6,z7⟩:=(DN.out.ev iE).eight;clear iE uZ xy))
 obtain⟨wL,Ce⟩:∃wL,wL=w3.setCell ⟨w1.heap.size,4,none⟩ (.slice X1.A X1.l.length X1.cap):=⟨_,rfl⟩
 rw[←Ce];have GI:But [w1.heap.size] w3 wL:=by rw[Ce];exact But.setCell _ _ (by simp)
 have EU:Hid (rE w0 w1.heap.size (.mk 4 [] .nil .nil X1 .nil .nil none 0 []) wL):=zq (rE.X0 rfl rfl rfl (by rw[Ce];have:=(DN.out.ev E3.out).set 4 (.slice X1.A X1.l.length X1.cap);simpa[qA,PM.kind,PM.name,PM.ex,PM.co,PM.lf,PM.rt,PM.ag,PM.A,PM.cap,PM.kids,eU.nil] using this) ⟨aX.nil ..,(fun e he=>by cases he),aX.nil ..,(oM aaH.out GI (fun k hk=>by simp at hk;omega)).low hpA,aX.nil ..,aX.nil ..⟩ ((FA.out.trans E3.out).box GI F1.out.size) F1.out.size);have qx:Hid ((aZ PT).1=0→pPlan PT=.mk 4 [] [] [] X1.l [] [] ([y1,y2].map fun y=>pPlan y.t)):=zq (fun h=>by rw[qx.out h,aaG.out]);clear Ce GI p0 p1 p2 p3 p4 p5 p6 p7 z0 z1 z2 z3 z4 z5 z6 z7 c0 c1 c2 c3 c4 y3 hlb;go_wp2;have NJ:=zq (fun y (hy:y∈[y1,y2]) w1 (hE:Ev w w1)=>lS.out y (P6.out y hy) w1 hE);have pg:=zq (HQ.out w (Ev.refl _)).len;have MC:=(HQ.out w (Ev.refl _)).le;have MF:=(HQ.out w (Ev.refl _)).max
 go_loopw [7,8,16] (fun yv av iv wr=>∃(j:Nat) (p:PM) (e:Er),yv=.int .i64 e.1∧av=.int .i64 (e.2:Int)∧iv=.int .i64 (j:Int)∧j≤2∧Hid (ru [y1,y2] N1.2 (.mk 4 [] .nil .nil X1 .nil .nil none 0 []) j p e)∧Hid (rE w0 w1.heap.size p wr)) (fun _ _ iv _=>2 - (intOf iv).toNat)
 case atStart=>exact⟨0,.mk 4 [] .nil .nil X1 .nil .nil none 0 [],N1.2,rfl,rfl,rfl,atG _,zq (ru.start _ _ _ rfl (fun h=>absurd h HL.out)),EU⟩
 case round=>
  obtain⟨j,p,e,rfl,rfl,rfl,hj,HI,HK⟩:=hrel;have GU:=F1.out.size;have GV:=HR.out.lt;by_cases he:e.1=0;have GX:=(HI.out.ok he).1;subst GX;by_cases hlt:j<2;exact avn;obtain rfl:j=2:=by omega
  have uX:Hid (mi PT=(p.p,0,0)):=zq (ru.uK (p0:=.mk 4 [] .nil .nil X1 .nil .nil none 0 []) (by rw[pg.out];exact HI.out) rfl uG.out qx.out);exact avQ;exact avE
theorem MK (m:M) (b0:Nat) (w:World) (hL:Lies b0 [] w m) (hfair:m.t.every bZ=true) (hsz:m.t.size≤10000) (hf:fG m.t=true) (x:M) (q:List M) (hq:m.kids=x::q) (hs:x.s=gU) (hl:∀l r,q=l::r→(yG (l.kids.map M.t)).2.1=0)
  (ih:∀y∈q,∀w1,Ev w w1→Calls Tryz.prog 39 #[.agg #[.int .i64 y.kind,.string ⟨y.s.toArray⟩,.int .i64 y.n,.slice y.A y.kids.length y.cap,.int .i64 (y.pos:Int)]] w1 (bu (mi y.t) w1)):
  Calls Tryz.prog 39 #[.agg #[.int .i64 m.kind,.string ⟨m.s.toArray⟩,.int .i64 m.n,.slice m.A m.kids.length m.cap,.int .i64 (m.pos:Int)]] w (bu (mi m.t) w):=by
 have fJ:Tryz.prog.follows .mixedOrders=true:=by kernel_rfl
 obtain⟨jF,kR,lK,hm1,hx2,qP⟩:=lC hq hf;have Kq:Lies b0 [w.heap.size] w m:=hL.less fun k hk=>by simp at hk;exact .inr (.inr (by omega))
 obtain⟨b,off,k,c,eu⟩:=uD Kq hq qP;have Gj:=zq (fun w1 (hE:Ev w w1)=>sV m b0 w1 (hL.ev hE));rw[hf]at Gj;have vJ:=zq (fun w1 (hE:Ev w w1)=>jU m b0 w1 (hL.ev hE));have rP:OE m.t=x.s:=by rw[EE,hq];simp[hm1,M.tu,kK,hx2]
 rw[rP,hs]at vJ;have yB:=zq (fun y (hy:y∈q)=>lD hq hy hfair hsz);have LH:=q_len hq hsz;have Aa:=zq (fun i y (hy:q[i]?=some y) w1 (hE:Ev w w1)=>eu.kid (i+1) y (by rw[hq];simpa using hy) w1 (But.aS hE));rw[hs]at jF kR lK;unfold bu at ih⊢;obtain⟨PT,tK⟩:∃PT,PT=m.t:=⟨_,rfl⟩
 rw[←tK]at jF kR⊢;have hA:=eu.hA;have hn:=eu.hn;have hc:=eu.hc;have rH:=eu.rH;have hcm:=eu.hcm;have lQ:=eu.lQ;have hbl:b<w.heap.size:=(eu.z_ w (But.refl _ _) off _ rfl).2.1;have nY:=zq eu;clear eu tK hq hL Kq hfair hsz qP hf hx2 rP;generalize zi:m.kids.length=kn at*;generalize uV:m.A=mA at*;generalize DC:m.cap=mc at*;generalize oQ:m.kind=kd at*;generalize hs_:m.s=ms at*;generalize uU:m.n=mn at*;generalize DD:m.pos=mp at*;clear zi uV DC oQ hs_ uU DD;subst hm1;subst hA;subst hn;subst hc;obtain⟨w0,hw0,aT,hX,hR⟩:=DK w (.int .i64 1) (.string ⟨ms.toArray⟩) (.int .i64 mn) (.slice (some ⟨b,off,none⟩) (k+2) (c+2)) (.int .i64 (mp:Int));have HX:=zq hX;have HR:=zq hR;have HE:=zq aT;have lS:=zq ih;unfold gU at*;obtain⟨⟨c0,c1,c2,c3,c4⟩,_⟩:=hX.five;clear hX hR aT ih hs;have hk2:q.length=4:=by exact axZ
 obtain rfl:k=3:=by omega
 have Yv:=zq (fun y (hy:y∈q)=>(yB.out y hy).1);obtain⟨l1,l2,y1,y2,rfl⟩:=Sm hk2;obtain⟨o8,rfl⟩:∃c1,c=c1+3:=⟨c - 3,by omega⟩
 have hl:=hl _ _ rfl;obtain⟨N1,PH⟩:∃N1,N1=yG (l1.kids.map M.t):=⟨_,rfl⟩
 obtain⟨N2,SV⟩:∃N2,N2=yG (l2.kids.map M.t):=⟨_,rfl⟩
 have hz1:N1.2.1=0→N1.2=(0,0):=by rw[PH,mr];exact xu _
 have hz2:N2.2.1=0→N2.2=(0,0):=by rw[SV,mr];exact xu _
 have MJ:aZ PT=fB N1.2 (fB N2.2 (aQ ([y1,y2].map fun y=>aZ y.t))):=by exact axH
 have Vb:pPlan PT=.mk 4 [] [] [] (l1.kids.map M.s) (l2.kids.map M.s) [] ([y1,y2].map fun y=>pPlan y.t):=by exact aww
 have qF:N1.2.1=0→N1.1=l1.kids.map M.s:=fun h=>by rw[PH]at h⊢;rw[uN _ h,atI];exact aug fun x _=>M.tu x
 have Ia:N2.2.1=0→N2.1=l2.kids.map M.s:=fun h=>by rw[SV]at h⊢;rw[uN _ h,atI];exact aug fun x _=>M.tu x
 rw[←PH]at hl;have Fa:=zq (fun w1 (hE:Ev w w1)=>zh l1.kids l1.A l1.kids.length l1.cap w1 ((nY.out.lies l1 (by simp) w (But.refl _ _)).ms.ev hE) (by have:=xw (yB.out l1 (by simp)).2;omega) (qB (Yv.out l1 (by simp))));have Vd:=zq (fun w1 (hE:Ev w w1)=>zh l2.kids l2.A l2.kids.length l2.cap w1 ((nY.out.lies l2 (by simp) w (But.refl _ _)).ms.ev hE) (by have:=xw (yB.out l2 (by simp)).2;omega) (qB (Yv.out l2 (by simp))));have HQ:Hid (∀w1,Ev w w1→Ms w1 (some ⟨b,off+15,none⟩) 2 (o8+2) [y1,y2]):=zq fun w1 hE=>((nY.out.rest w1 (But.aS hE)).next (n:=3) (c:=o8+3) (by omega) (by omega)).next (n:=2) (c:=o8+2) (by omega) (by omega) |> fun h=>by exact h
 have P6:Hid (∀y_∈[y1,y2],y_∈[l1,l2,y1,y2]):=zq fun y_ hy=>by simp at hy⊢;rcases hy with rfl|rfl<;>simp
 unfold OW at Fa Vd;rw[←PH]at Fa;rw[←SV]at Vd;clear jF kR lK PH SV;have hz:=hz1 hl;have uG:Hid (aZ PT=fB N2.2 (aQ ([y1,y2].map fun y=>aZ y.t))):=zq (by rw[MJ,hz,←zD,E_ hz2]);have qx:Hid ((aZ PT).1=0→pPlan PT=.mk 4 [] [] [] N1.1 N2.1 [] ([y1,y2].map fun y=>pPlan y.t)):=zq (fun h=>by
  rw[MJ,sJ,sJ]at h;rw[Vb,qF h.1,Ia h.2.1])
 have HZ2:=zq hz2;rw[hz]at Fa;simp only at Fa;clear MJ Vb qF Ia hz1 hz2 hl hz;go_enter Tryz.func39,Tryz.ntmps39;go_upto_region 32 with (first
  | ((with_reducible refine (Gj.out _ HE.out).mono ?_);rintro r w1 ⟨rfl,aH⟩;have E1:=zq (HE.out.trans aH);have F1:=zq aH;have hx1:=(HX.out.ev aH).lt;have hr1:=(HR.out.ev aH).lt;clear c0 c1 c2 c3 c4;obtain⟨⟨c0,c1,c2,c3,c4⟩,_⟩:=(HX.out.ev aH).five;have xq:=Bx.new 32 #[.int .i64 0,.string ⟨#[]⟩,.slice none 0 0,.slice none 0 0,.slice none 0 0,.slice none 0 0,.slice none 0 0,.slice none 0 0] w1;clear aH)
  | ((with_reducible refine (vJ.out _ (E1.out.trans (Ev.alloc _ _))).mono ?_);rintro r w2 ⟨rfl,bK⟩;have F2:=zq ((F1.out.trans (Ev.alloc _ _)).trans bK);have BP:=zq (xq.ev bK);obtain⟨⟨p0,p1,p2,p3,p4,p5,p6,p7⟩,z0,z1,z2,z3,z4,z5,z6,z7⟩:=(xq.ev bK).eight;clear bK xq;clear c0 c1 c2 c3 c4;obtain⟨⟨c0,c1,c2,c3,c4⟩,_⟩:=(HX.out.ev F2.out).five))
 obtain⟨wA,yE⟩:∃wA,wA=w2.setCell ⟨w1.heap.size,0,none⟩ (.int .i64 4):=⟨_,rfl⟩
 rw[←yE];have DN:Hid (Bx 32 w1.heap.size #[.int .i64 4,.string ⟨#[]⟩,.slice none 0 0,.slice none 0 0,.slice none 0 0,.slice none 0 0,.slice none 0 0,.slice none 0 0] wA):=zq (by rw[yE];have:=BP.out.set 0 (.int .i64 4);simpa using this);have FA:Hid (Ev w0 wA):=zq (by rw[yE];exact F2.out.box (But.setCell _ _ (by simp)) F1.out.size);have EA:Hid (Ev w wA):=zq (HE.out.trans FA.out);clear yE p0 p1 p2 p3 p4 p5 p6 p7 z0 z1 z2 z3 z4 z5 z6 z7 c0 c1 c2 c3 c4;obtain⟨⟨p0,p1,p2,p3,p4,p5,p6,p7⟩,z0,z1,z2,z3,z4,z5,z6,z7⟩:=DN.out.eight;obtain⟨⟨c0,c1,c2,c3,c4⟩,_⟩:=(HX.out.ev FA.out).five;have hpA:=DN.out.lt;obtain⟨y0,y1_,y2_,y3,y4⟩:=Aa.out 0 l1 rfl _ EA.out;simp only[atT,auE]at y3;clear y0 y1_ y2_ y4;go_upto_region 34 with (first
  | ((with_reducible refine (Fa.out _ EA.out).mono ?_);rintro r w3 ⟨X1,rfl,uZ,xy,iE⟩;have aaG:=zq uZ;have aaH:=zq xy;have E3:=zq iE;clear p0 p1 p2 p3 p4 p5 p6 p7 z0 z1 z2 z3 z4 z5 z6 z7;obtain⟨⟨p0,p1,p2,p3,p4,p5,p6,p7⟩,z0,z1,z2,z3,z4,z5,z6,z7⟩:=(DN.out.ev iE).eight;clear iE uZ xy))
 obtain⟨wB,X3⟩:∃wB,wB=w3.setCell ⟨w1.heap.size,4,none⟩ (.slice X1.A X1.l.length X1.cap):=⟨_,rfl⟩
 rw[←X3];have GI:But [w1.heap.size] w3 wB:=by rw[X3];exact But.setCell _ _ (by simp)
 have BPB:Hid (Bx 32 w1.heap.size #[.int .i64 4,.string ⟨#[]⟩,.slice none 0 0,.slice none 0 0,.slice X1.A X1.l.length X1.cap,.slice none 0 0,.slice none 0 0,.slice none 0 0] wB):=zq (by rw[X3];have:=(DN.out.ev E3.out).set 4 (.slice X1.A X1.l.length X1.cap);simpa using this);have FB:Hid (Ev w0 wB):=zq ((FA.out.trans E3.out).box GI F1.out.size);have EB:Hid (Ev w wB):=zq (HE.out.trans FB.out);have HXB:=zq (oM aaH.out GI (fun k hk=>by simp at hk;omega));clear X3 GI p0 p1 p2 p3 p4 p5 p6 p7 z0 z1 z2 z3 z4 z5 z6 z7 c0 c1 c2 c3 c4 y3;obtain⟨⟨p0,p1,p2,p3,p4,p5,p6,p7⟩,z0,z1,z2,z3,z4,z5,z6,z7⟩:=BPB.out.eight;obtain⟨⟨c0,c1,c2,c3,c4⟩,_⟩:=(HX.out.ev FB.out).five;obtain⟨y0,y1_,y2_,y3,y4⟩:=Aa.out 1 l2 rfl _ EB.out;simp only[show (1+1)*5=10 from rfl]at y3;have hpB:=BPB.out.lt;clear y0 y1_ y2_ y4;go_upto_region 52 with (first
  | ((with_reducible refine (Vd.out _ EB.out).mono ?_);rintro r w4 ⟨X2,rfl,uZ,xy,iE⟩;have al7:=zq uZ;have al8:=zq xy;have E4:=zq iE;clear p0 p1 p2 p3 p4 p5 p6 p7 z0 z1 z2 z3 z4 z5 z6 z7;obtain⟨⟨p0,p1,p2,p3,p4,p5,p6,p7⟩,z0,z1,z2,z3,z4,z5,z6,z7⟩:=(BPB.out.ev iE).eight;clear iE uZ xy))
 obtain⟨wL,Ce⟩:∃wL,wL=w4.setCell ⟨w1.heap.size,5,none⟩ (.slice X2.A X2.l.length X2.cap):=⟨_,rfl⟩
 rw[←Ce];have GI:But [w1.heap.size] w4 wL:=by rw[Ce];exact But.setCell _ _ (by simp)
 have EU:Hid (rE w0 w1.heap.size (.mk 4 [] .nil .nil X1 X2 .nil none 0 []) wL):=zq (rE.X0 rfl rfl rfl (by rw[Ce];have:=(BPB.out.ev E4.out).set 5 (.slice X2.A X2.l.length X2.cap);simpa[qA,PM.kind,PM.name,PM.ex,PM.co,PM.lf,PM.rt,PM.ag,PM.A,PM.cap,PM.kids,eU.nil] using this) ⟨aX.nil ..,(fun e he=>by cases he),aX.nil ..,(oM (HXB.out.move (But.aS E4.out) (fun x hx=>.inl hx)) GI (fun k hk=>by simp at hk;omega)).low hpA,(oM al8.out GI (fun k hk=>by simp at hk;omega)).low hpB,aX.nil ..⟩ ((FB.out.trans E4.out).box GI F1.out.size) F1.out.size);have qx:Hid ((aZ PT).1=0→pPlan PT=.mk 4 [] [] [] X1.l X2.l [] ([y1,y2].map fun y=>pPlan y.t)):=zq (fun h=>by rw[qx.out h,aaG.out,al7.out]);clear Ce GI p0 p1 p2 p3 p4 p5 p6 p7 z0 z1 z2 z3 z4 z5 z6 z7 c0 c1 c2 c3 c4 y3;go_wp2;have NJ:=zq (fun y (hy:y∈[y1,y2]) w1 (hE:Ev w w1)=>lS.out y (P6.out y hy) w1 hE);have pg:=zq (HQ.out w (Ev.refl _)).len;have MC:=(HQ.out w (Ev.refl _)).le;have MF:=(HQ.out w (Ev.refl _)).max
 go_loopw [7,8,16] (fun yv av iv wr=>∃(j:Nat) (p:PM) (e:Er),yv=.int .i64 e.1∧av=.int .i64 (e.2:Int)∧iv=.int .i64 (j:Int)∧j≤2∧Hid (ru [y1,y2] N2.2 (.mk 4 [] .nil .nil X1 X2 .nil none 0 []) j p e)∧Hid (rE w0 w1.heap.size p wr)) (fun _ _ iv _=>2 - (intOf iv).toNat)
 case atStart=>exact⟨0,.mk 4 [] .nil .nil X1 X2 .nil none 0 [],N2.2,rfl,rfl,rfl,atG _,zq (ru.start _ _ _ rfl HZ2.out),EU⟩
 case round=>
  obtain⟨j,p,e,rfl,rfl,rfl,hj,HI,HK⟩:=hrel;have GU:=F1.out.size;have GV:=HR.out.lt;by_cases he:e.1=0;have GX:=(HI.out.ok he).1;subst GX;by_cases hlt:j<2;exact avn;obtain rfl:j=2:=by omega
  have uX:Hid (mi PT=(p.p,0,0)):=zq (ru.uK (p0:=.mk 4 [] .nil .nil X1 X2 .nil none 0 []) (by rw[pg.out];exact HI.out) rfl uG.out qx.out);exact avQ;exact avE
structure FaI (al:List M) (e1:Er) (j:Nat) (L:List Ag) (e:Er):Prop where
 len:L.length≤j
 ok:e.1=0→e=(0,0)∧e1=(0,0)∧(∀y∈al.take j,(aQ (dQ y.t)).1=0)∧L=(al.take j).map fun y=>jQ y.t
 bad:e.1≠0→fB e1 (aQ (al.flatMap fun y=>dQ y.t))=e
theorem NK {al:List M} (h:∀y∈al,(aQ (dQ y.t)).1=0):aQ (al.flatMap fun y=>dQ y.t)=(0,0):=vK fun x hx=>by obtain⟨y,hy,hx⟩:=auP.1 hx;exact (fU _).1 (h y hy) x hx
theorem aaI {al:List M} {j:Nat} {y:M} (h:∀y∈al.take j,(aQ (dQ y.t)).1=0) (hy:al[j]?=some y) (hne:(aQ (dQ y.t)).1≠0):aQ (al.flatMap fun y=>dQ y.t)=aQ (dQ y.t):=by
 obtain⟨hk,hx⟩:=atr.1 hy;have hl:al=al.take j++y::al.drop (j+1):=by rw[←hx,avg,auy]
 rw[hl,avb,auN,jc,jc,NK h,uO hne,lg,if_neg hne]
theorem FaI.start (al:List M) (e1:Er) (hz:e1.1=0→e1=(0,0)):FaI al e1 0 [] e1:=
 ⟨att _,fun h=>⟨hz h,hz h,by simp,by simp⟩,fun h=>uO h _⟩
theorem FaI.next {al:List M} {e1:Er} {j:Nat} {L:List Ag} {y:M} (h:FaI al e1 j L (0,0)) (hy:al[j]?=some y):FaI al e1 (j+1) (L++[(Tm y.t).1]) (Tm y.t).2:=by
 obtain⟨_,h2,h3,h4⟩:=h.ok rfl;obtain⟨hk,e0⟩:=atr.1 hy;have nX:al.take (j+1)=al.take j++[y]:=by rw[atD hk,e0]
 by_cases hz:(aQ (dQ y.t)).1=0;have hR:Tm y.t=(jQ y.t,(0,0)):=by unfold Tm;rw[if_pos hz]
 rw[hR];refine⟨by have:=h.len;simp;omega,fun _=>⟨rfl,h2,fun z hz2=>?_,?_⟩,fun hb=>absurd rfl hb⟩;rw[nX]at hz2;rcases atK.1 hz2 with h5|h5;exact h3 z h5;simp at h5;rw[h5];exact hz;rw[nX,atB,h4];rfl;have hR:Tm y.t=(([],[],[]),aQ (dQ y.t)):=by unfold Tm;rw[if_neg hz]
 rw[hR];refine⟨by have:=h.len;simp;omega,fun hb=>absurd hb hz,fun _=>?_⟩;rw[aaI h3 hy hz,h2,lg,if_neg hz]
theorem FaI.fin {al:List M} {e1 e:Er} {j:Nat} {L:List Ag} (h:FaI al e1 j L e) (hj:e.1=0→j=al.length):fB e1 (aQ (al.flatMap fun y=>dQ y.t))=e∧(e.1=0→L=al.map fun y=>jQ y.t):=by by_cases he:e.1=0;obtain⟨h1,h2,h3,h4⟩:=h.ok he;rw[hj he,auf]at h3 h4;exact⟨by rw[NK h3,h2,h1];rfl,fun _=>h4⟩;exact⟨h.bad he,fun h0=>absurd h0 he⟩
structure X5 (w0:World) (gp:Nat) (lf:eU By) (ag:eU Ag) (w:World):Prop where
 box:Bx 32 gp #[.int .i64 7,.string ⟨#[]⟩,.slice none 0 0,.slice none 0 0,.slice lf.A lf.l.length lf.cap,.slice none 0 0,.slice ag.A ag.l.length ag.cap,.slice none 0 0] w
 own:Ow 54 3 ac (gp+1) w (.slice ag.A ag.l.length ag.cap) ag.l
 lf:aX 1 sc (gp+1) (foot (.slice ag.A ag.l.length ag.cap)) w lf
 ev:Ev w0 w
 FC:w0.heap.size≤gp
theorem X5.up {w0 w w':World} {gp:Nat} {lf:eU By} {ag:eU Ag} (h:X5 w0 gp lf ag w) (hE:Ev w w'):X5 w0 gp lf ag w':=
 ⟨h.box.ev hE,h.own.ev hE,h.lf.move (But.aS hE) fun _ hx=>.inl hx,h.ev.trans hE,h.FC⟩
theorem X5.next {w0 wq w2:World} {gp:Nat} {lf:eU By} {ag:eU Ag} {a:Ag} {v2:Value} (h:X5 w0 gp lf ag wq) (hA:mW 54 3 ac (gp+1) wq (.slice ag.A ag.l.length ag.cap) (ag.l++[a]) v2 w2):
  ∃A2 cap2,v2=.slice A2 (ag.l.length+1) cap2∧X5 w0 gp lf ⟨A2,cap2,ag.l++[a]⟩ (w2.setCell ⟨gp,6,none⟩ v2):=by
 obtain⟨ho,hb,hs⟩:=hA;obtain⟨A2,cap2,rfl,oZ,wQ⟩:=ho.form yT;have hl:(ag.l++[a]).length=ag.l.length+1:=by rw[atv];rfl
 have Ot:=h.box.lt;have hK:gp∉foot (.slice ag.A ag.l.length ag.cap):=fun hm=>by have:=(h.own.lt (aB.1 hm)).1;omega
 have hB2:=(h.box).but hb hK;have Gw:But [gp] w2 (w2.setCell ⟨gp,6,none⟩ (.slice A2 (ag.l++[a]).length cap2)):=But.setCell _ _ (by simp);have hf2:∀k∈foot (.slice A2 (ag.l++[a]).length cap2),k∈foot (.slice ag.A ag.l.length ag.cap)∨k<gp+1∨wq.heap.size≤k:=fun k hk=>by exact ayc
 have hst:∀k∈gp::foot (.slice A2 (ag.l++[a]).length cap2),k∈foot (.slice A2 (ag.l++[a]).length cap2)∨k<gp+1∨w2.heap.size≤k:=fun k hk=>by exact ayf
 have acH:But (gp::foot (.slice A2 (ag.l++[a]).length cap2)) w2 (w2.setCell ⟨gp,6,none⟩ (.slice A2 (ag.l++[a]).length cap2)):=Gw.wide fun k hk=>by simp at hk;subst hk;exact .inl (by simp)
 have hin:∀k∈foot (.slice A2 (ag.l++[a]).length cap2),k∈gp::foot (.slice A2 (ag.l++[a]).length cap2)∨k<gp+1∨w2.heap.size≤k:=fun k hk=>.inl (aty _ hk);refine⟨A2,cap2,by rw[hl],?_,?_,?_,?_,h.FC⟩;have:=hB2.set 6 (.slice A2 (ag.l++[a]).length cap2);simpa using this;exact ho.but Gw fun g hg=>by have:=(ho.lt hg).1;simp;omega
 have h1:aX 1 sc (gp+1) (foot (.slice A2 (ag.l++[a]).length cap2)) w2 lf:=h.lf.move hb hf2;exact (h1.move (But.refl _ _) hst).move acH hin;have h1:Ev w0 w2:=((But.aS h.ev).then hb).ev fun k hk=>by have:=(h.own.lt (aB.1 hk)).1;have:=h.FC;omega
 exact h1.box Gw h.FC
theorem X5.after {w0 wq w2:World} {gp:Nat} {lf:eU By} {ag:eU Ag} {v2:Value} {L:List Ag} (h:X5 w0 gp lf ag wq) (hA:mW 54 3 ac (gp+1) wq (.slice ag.A ag.l.length ag.cap) L v2 w2):Bx 32 gp #[.int .i64 7,.string ⟨#[]⟩,.slice none 0 0,.slice none 0 0,.slice lf.A lf.l.length lf.cap,.slice none 0 0,.slice ag.A ag.l.length ag.cap,.slice none 0 0] w2:=
 h.box.but hA.2.1 fun hm=>by have:=(h.own.lt (aB.1 hm)).1;omega
theorem axU {P:Prop} (h:P:=by have:=h.box;simpa[qA,PM.kind,PM.name,PM.ex,PM.co,PM.lf,PM.rt,PM.ag,PM.A,PM.cap,PM.kids,eU.nil] using this):P:=h
theorem X5.done {w0 w:World} {gp:Nat} {lf:eU By} {ag:eU Ag} (h:X5 w0 gp lf ag w):rE w0 gp (.mk 7 [] .nil .nil lf .nil ag none 0 []) w:=by
 obtain⟨A2,cap2,hv,oZ,wQ⟩:=h.own.form yT;injection hv with h1 h2 h3
 refine rE.X0 rfl rfl rfl ?_ ⟨aX.nil ..,(fun e he=>by cases he),aX.nil ..,h.lf.move (But.refl _ _) (fun k hk=>by cases hk),aX.nil ..,⟨by show Sl 3 ac w ag.A ag.l.length ag.cap ag.l;rw[h1,h3];exact oZ,fun ad e=>by have e:ag.A=some ad:=e;rw[h1]at e;exact⟨(wQ ad e).2.1,(wQ ad e).2.2.1,by simp⟩⟩⟩ h.ev h.FC;exact axU
theorem Tryz.aaJ:(Tryz.prog.info? 54).map (fun i=>(i.zero,i.size,i.bytes))=some (some (.agg #[.string ⟨#[]⟩,.string ⟨#[]⟩,.string ⟨#[]⟩]),3,48):=by kernel_rfl
theorem X6 (y:M) (b0:Nat) (w:World) (h:Lies b0 [] w y) (hk:dP y.t=true) (hs:∀x∈y.kids,x.s.length≤1000000):
  Calls Tryz.prog 83 #[.slice y.A y.kids.length y.cap] w (Nw (Tm y.t) w):=by
 unfold dP at hk;rw[atu,M.aY,atq,atZ,atH,atH]at hk;rcases hk.2 with h2|h2;obtain⟨a,b,e⟩:=vG h2;exact acd y a b w h.ms e hs;obtain⟨a,b,c,e⟩:∃a b c,y.kids=[a,b,c]:=by
  match hq:y.kids,h2 with
  | [a,b,c],_=>exact⟨a,b,c,rfl⟩
 exact ace y a b c w h.ms e hs
theorem avk {P:Prop} (h:P:=by
 go_upto_region 52 with fail
 go_wp2;have NJ:=zq (fun y (hy:y∈[z]) w1 (hE:Ev w w1)=>lS.out y (P6.out y hy) w1 hE);have pg:=zq (HQ.out w (Ev.refl _)).len;have MC:=(HQ.out w (Ev.refl _)).le;have MF:=(HQ.out w (Ev.refl _)).max
 go_loopw [7,8,16] (fun yv av iv wr=>∃(j:Nat) (p:PM) (e:Er),yv=.int .i64 e.1∧av=.int .i64 (e.2:Int)∧iv=.int .i64 (j:Int)∧j≤1∧Hid (ru [z] e5 (.mk 7 [] .nil .nil X1 .nil ag none 0 []) j p e)∧Hid (rE w0 w1.heap.size p wr)) (fun _ _ iv _=>1 - (intOf iv).toNat)
 case atStart=>exact⟨0,.mk 7 [] .nil .nil X1 .nil ag none 0 [],e5,rfl,rfl,rfl,atG _,zq (ru.start _ _ _ rfl HZ5.out),EU⟩
 case round=>
  obtain⟨j,p,e,rfl,rfl,rfl,hj,HI,HK⟩:=hrel;have GU:=F1.out.size;have GV:=HR.out.lt;by_cases he:e.1=0;have GX:=(HI.out.ok he).1;subst GX;by_cases hlt:j<1;exact avo;obtain rfl:j=1:=by omega
  have uX:Hid (mi PT=(p.p,0,0)):=zq (ru.uK (p0:=.mk 7 [] .nil .nil X1 .nil ag none 0 []) (by rw[pg.out];exact HI.out) rfl uG.out qx.out);exact avQ;exact avF):P:=h
theorem PI (m:M) (b0:Nat) (w:World) (hL:Lies b0 [] w m) (hfair:m.t.every bZ=true) (hsz:m.t.size≤10000) (hf:fG m.t=true) (x:M) (q:List M) (hq:m.kids=x::q) (hs:x.s=dY)
  (ih:∀y∈q,∀w1,Ev w w1→Calls Tryz.prog 39 #[.agg #[.int .i64 y.kind,.string ⟨y.s.toArray⟩,.int .i64 y.n,.slice y.A y.kids.length y.cap,.int .i64 (y.pos:Int)]] w1 (bu (mi y.t) w1)):
  Calls Tryz.prog 39 #[.agg #[.int .i64 m.kind,.string ⟨m.s.toArray⟩,.int .i64 m.n,.slice m.A m.kids.length m.cap,.int .i64 (m.pos:Int)]] w (bu (mi m.t) w):=by
 have fJ:Tryz.prog.follows .mixedOrders=true:=by kernel_rfl
 obtain⟨jF,kR,lK,hm1,hx2,qP⟩:=lC hq hf;have Kq:Lies b0 [w.heap.size] w m:=hL.less fun k hk=>by simp at hk;exact .inr (.inr (by omega))
 obtain⟨b,off,k,c,eu⟩:=uD Kq hq qP;have Gj:=zq (fun w1 (hE:Ev w w1)=>sV m b0 w1 (hL.ev hE));rw[hf]at Gj;have vJ:=zq (fun w1 (hE:Ev w w1)=>jU m b0 w1 (hL.ev hE));have rP:OE m.t=x.s:=by rw[EE,hq];simp[hm1,M.tu,kK,hx2]
 rw[rP,hs]at vJ;have yB:=zq (fun y (hy:y∈q)=>lD hq hy hfair hsz);have LH:=q_len hq hsz;have Aa:=zq (fun i y (hy:q[i]?=some y) w1 (hE:Ev w w1)=>eu.kid (i+1) y (by rw[hq];simpa using hy) w1 (But.aS hE));rw[hs]at jF kR lK;unfold bu at ih⊢;obtain⟨PT,tK⟩:∃PT,PT=m.t:=⟨_,rfl⟩
 rw[←tK]at jF kR⊢;have hA:=eu.hA;have hn:=eu.hn;have hc:=eu.hc;have rH:=eu.rH;have hcm:=eu.hcm;have lQ:=eu.lQ;have hbl:b<w.heap.size:=(eu.z_ w (But.refl _ _) off _ rfl).2.1;have nY:=zq eu;clear eu tK hq hL Kq hfair hsz qP hf hx2 rP;generalize zi:m.kids.length=kn at*;generalize uV:m.A=mA at*;generalize DC:m.cap=mc at*;generalize oQ:m.kind=kd at*;generalize hs_:m.s=ms at*;generalize uU:m.n=mn at*;generalize DD:m.pos=mp at*;clear zi uV DC oQ hs_ uU DD;subst hm1;subst hA;subst hn;subst hc;obtain⟨w0,hw0,aT,hX,hR⟩:=DK w (.int .i64 1) (.string ⟨ms.toArray⟩) (.int .i64 mn) (.slice (some ⟨b,off,none⟩) (k+2) (c+2)) (.int .i64 (mp:Int));have HX:=zq hX;have HR:=zq hR;have HE:=zq aT;have lS:=zq ih;unfold dY at*;obtain⟨⟨c0,c1,c2,c3,c4⟩,_⟩:=hX.five;clear hX hR aT ih hs;have BQ:(decide (2≤(q.map M.t).length)&&dC (at_ (q.map M.t) 0)&&(((q.map M.t).take ((q.map M.t).length - 1)).drop 1).all dP)=true:=lK;rw[atu,atu,aun,atq,lQ,auG,←auw]at BQ;obtain⟨⟨uQ,_⟩,hagg⟩:=BQ;obtain⟨k1,rfl⟩:∃k1,k=k1+1:=⟨k - 1,by omega⟩
 obtain⟨o8,rfl⟩:∃c1,c=c1+1:=⟨c - 1,by omega⟩
 obtain⟨l1,r,rfl⟩:∃l1 r,q=l1::r:=by
  cases q with
  | nil=>simp at lQ
  | cons a b=>exact⟨a,b,rfl⟩
 have hrl:r.length=k1+1:=by simpa using lQ
 rw[auz,atx,at6,auC,auI,atL]at hagg;have hlen:((l1::r).map M.t).length - 1=k1+1:=by simp[hrl]
 obtain⟨z,hz⟩:∃z,r.drop k1=[z]:=sO (by rw[at1,hrl];omega);obtain⟨al,Iw⟩:∃al,al=r.take k1:=⟨_,rfl⟩
 have hall:al.length=k1:=by rw[Iw,aua];omega
 have Vb:pPlan PT=.mk 7 [] [] [] (l1.kids.map M.s) [] (al.map fun v=>jQ v.t) ([z].map fun v=>pPlan v.t):=by rw[jF,Iw,←hz];show Pl.mk 7 [] [] [] (l1.t.kids.map T.s) [] (((((l1::r).map M.t).take (((l1::r).map M.t).length - 1)).drop 1).map jQ) ((((l1::r).map M.t).map pPlan).drop (((l1::r).map M.t).length - 1))=_;rw[hlen,M.aY,atI,funext M.tu |> fun h=>(show (T.s ∘ M.t)=M.s from h),atx,auz,at6,auC,atx,at6,←auw,atI,atI,←auD];rfl
 obtain⟨N1,PH⟩:∃N1,N1=yG (l1.kids.map M.t):=⟨_,rfl⟩
 have MJ:aZ PT=fB (fB N1.2 (aQ (al.flatMap fun v=>dQ v.t))) (aQ ([z].map fun v=>aZ v.t)):=by rw[kR,Iw,←hz,PH,mr];show aQ (l1.t.kids.map bn++(((((l1::r).map M.t).take (((l1::r).map M.t).length - 1)).drop 1).flatMap dQ++(((l1::r).map M.t).map aZ).drop (((l1::r).map M.t).length - 1)))=_;rw[hlen,M.aY,atx,auz,at6,auC,atx,at6,←auw,atI (l:=r),List.flatMap_map,←auD,jc,jc,zD];rfl
 have hz1:N1.2.1=0→N1.2=(0,0):=by rw[PH,mr];exact xu _
 have qF:N1.2.1=0→N1.1=l1.kids.map M.s:=fun h=>by rw[PH]at h⊢;rw[uN _ h,atI];exact aug fun x _=>M.tu x
 have Fa:=zq (fun w1 (hE:Ev w w1)=>zh l1.kids l1.A l1.kids.length l1.cap w1 ((nY.out.lies l1 (by simp) w (But.refl _ _)).ms.ev hE) (by have:=xw (yB.out l1 (by simp)).2;omega) (qB (yB.out l1 (by simp)).1));have HQ:Hid (∀w1,Ev w w1→Ms w1 (some ⟨b,off+(k1+2)*5,none⟩) 1 (o8+1 - k1) [z]):=zq fun w1 hE=>by
  have h1:=(nY.out.rest w1 (But.aS hE)).drop (k:=k1+1) (by omega);rw[show (l1::r).drop (k1+1)=[z] from hz]at h1;have e1:off+5+(k1+1)*5=off+(k1+2)*5:=by omega
  have e2:k1+1+1 - (k1+1)=1:=by omega
  have e3:o8+1+1 - (k1+1)=o8+1 - k1:=by omega
  rw[e1,e2,e3]at h1;exact h1
 have P6:Hid (∀y_∈[z],y_∈l1::r):=zq fun y_ hy=>by refine aty _ (List.mem_of_mem_drop (i:=k1) ?_);rw[hz];exact hy
 have DX:=zq (fun j y (hy:al[j]?=some y) w1 (hE:Ev w w1)=>X6 y b0 w1 ((((nY.out.lies y (by rw[Iw]at hy;exact aty _ (auK (atw hy))) w (But.refl _ _)).less fun k hk=>by cases hk).ev hE)) (hagg y (by rw[←Iw];exact atw hy)) (qB (yB.out y (by rw[Iw]at hy;exact aty _ (auK (atw hy)))).1));have HKA:=zq (fun j y (hy:al[j]?=some y) w1 (hE:Ev w w1)=>(Aa.out (j+1) y (by rw[Iw]at hy;rw[List.getElem?_cons_succ];rw[List.getElem?_take]at hy;split at hy;exact hy;cases hy) w1 hE).2.2.2.1);simp only[show ∀j:Nat,j+1+1=j+2 from fun j=>rfl]at HKA;have GL:=zq (fun w1 (hE:Ev w w1)=>(Aa.out 0 l1 rfl w1 hE).2.2.2.1);simp only[atT,auE]at GL;unfold OW at Fa;unfold Nw at DX;rw[←PH]at Fa;have LG:=zq hall;have HZ1:=zq hz1;have afm:=zq Vb;have X7:=zq MJ;have uT:=zq qF;have arM:k1≤10000:=by simp at LH;omega
 have arN:k1≤o8:=by omega
 clear jF kR lK PH Vb MJ qF hz1 hall Iw hz hagg hrl hlen uQ LH rH lQ Aa yB;go_enter Tryz.func39,Tryz.ntmps39;go_upto_region 44 with (first
  | ((with_reducible refine (Gj.out _ HE.out).mono ?_);rintro r w1 ⟨rfl,aH⟩;have E1:=zq (HE.out.trans aH);have F1:=zq aH;have hx1:=(HX.out.ev aH).lt;have hr1:=(HR.out.ev aH).lt;clear c0 c1 c2 c3 c4;obtain⟨⟨c0,c1,c2,c3,c4⟩,_⟩:=(HX.out.ev aH).five;have xq:=Bx.new 32 #[.int .i64 0,.string ⟨#[]⟩,.slice none 0 0,.slice none 0 0,.slice none 0 0,.slice none 0 0,.slice none 0 0,.slice none 0 0] w1;clear aH)
  | ((with_reducible refine (vJ.out _ (E1.out.trans (Ev.alloc _ _))).mono ?_);rintro r w2 ⟨rfl,bK⟩;have F2:=zq ((F1.out.trans (Ev.alloc _ _)).trans bK);have BP:=zq (xq.ev bK);obtain⟨⟨p0,p1,p2,p3,p4,p5,p6,p7⟩,z0,z1,z2,z3,z4,z5,z6,z7⟩:=(xq.ev bK).eight;clear bK xq;clear c0 c1 c2 c3 c4;obtain⟨⟨c0,c1,c2,c3,c4⟩,_⟩:=(HX.out.ev F2.out).five))
 obtain⟨wA,yE⟩:∃wA,wA=w2.setCell ⟨w1.heap.size,0,none⟩ (.int .i64 7):=⟨_,rfl⟩
 rw[←yE];have DN:Hid (Bx 32 w1.heap.size #[.int .i64 7,.string ⟨#[]⟩,.slice none 0 0,.slice none 0 0,.slice none 0 0,.slice none 0 0,.slice none 0 0,.slice none 0 0] wA):=zq (by rw[yE];have:=BP.out.set 0 (.int .i64 7);simpa using this);have FA:Hid (Ev w0 wA):=zq (by rw[yE];exact F2.out.box (But.setCell _ _ (by simp)) F1.out.size);have EA:Hid (Ev w wA):=zq (HE.out.trans FA.out);clear yE p0 p1 p2 p3 p4 p5 p6 p7 z0 z1 z2 z3 z4 z5 z6 z7 c0 c1 c2 c3 c4;obtain⟨⟨p0,p1,p2,p3,p4,p5,p6,p7⟩,z0,z1,z2,z3,z4,z5,z6,z7⟩:=DN.out.eight;obtain⟨⟨c0,c1,c2,c3,c4⟩,_⟩:=(HX.out.ev FA.out).five;have hpA:=DN.out.lt;have y3:=GL.out _ EA.out;go_upto_region 45 with (first
  | ((with_reducible refine (Fa.out _ EA.out).mono ?_);rintro r w3 ⟨X1,rfl,uZ,xy,iE⟩;have aaG:=zq uZ;have aaH:=zq xy;have E3:=zq iE;clear p0 p1 p2 p3 p4 p5 p6 p7 z0 z1 z2 z3 z4 z5 z6 z7;obtain⟨⟨p0,p1,p2,p3,p4,p5,p6,p7⟩,z0,z1,z2,z3,z4,z5,z6,z7⟩:=(DN.out.ev iE).eight;clear iE uZ xy))
 obtain⟨wB,X3⟩:∃wB,wB=w3.setCell ⟨w1.heap.size,4,none⟩ (.slice X1.A X1.l.length X1.cap):=⟨_,rfl⟩
 rw[←X3];have GI:But [w1.heap.size] w3 wB:=by rw[X3];exact But.setCell _ _ (by simp)
 have HGK:Hid (X5 w0 w1.heap.size X1 .nil wB):=zq ⟨by rw[X3];have:=(DN.out.ev E3.out).set 4 (.slice X1.A X1.l.length X1.cap);simpa[eU.nil] using this,Ow.nil_ _,(oM aaH.out GI (fun k hk=>by simp at hk;omega)).low hpA,(FA.out.trans E3.out).box GI F1.out.size,F1.out.size⟩;clear X3 GI p0 p1 p2 p3 p4 p5 p6 p7 z0 z1 z2 z3 z4 z5 z6 z7 c0 c1 c2 c3 c4 y3;have n3:((k1:Int)+1+2 - 1).toNat=k1+2:=by omega
 go_wp2
 go_loopw [7,8,14] (fun yv av iv wr=>∃(j:Nat) (ag:eU Ag) (e:Er),yv=.int .i64 e.1∧av=.int .i64 (e.2:Int)∧iv=.int .i64 ((j:Int)+2)∧j≤k1∧Hid (FaI al N1.2 j ag.l e)∧Hid (X5 w0 w1.heap.size X1 ag wr)) (fun _ _ iv _=>(k1+2) - (intOf iv).toNat)
 case atStart=>exact⟨0,.nil,N1.2,rfl,rfl,rfl,atG _,zq (FaI.start _ _ HZ1.out),HGK⟩
 case round=>
  obtain⟨j5,ag,e5,rfl,rfl,rfl,hj,HI,HK⟩:=hrel;have GU:=F1.out.size;have GV:=HR.out.lt;by_cases hcont:j5<k1∧e5.1=0
  ·obtain⟨hlt,he⟩:=hcont;have GX:=(HI.out.ok he).1;subst GX;obtain⟨y,hy⟩:∃y,al[j5]?=some y:=⟨_,atN (by rw[LG.out];exact hlt)⟩
   have HY:=zq hy;have k3:=HKA.out j5 y hy _ (HE.out.trans HK.out.ev);obtain⟨⟨q0,q1,q2,q3,q4,q5,q6,q7⟩,_⟩:=HK.out.box.eight;obtain⟨AR,hAR⟩:∃AR,AR=Tm y.t:=⟨_,rfl⟩
   have afn:=DX.out j5 y hy;rw[←hAR]at afn;have al_:=zq afn;have HNX:Hid (FaI al N1.2 (j5+1) (ag.l++[AR.1]) AR.2):=zq (by rw[hAR];exact HI.out.next hy);have hsw:=HK.out.ev.size;have hpl:ag.l.length≤10000:=by have:=HI.out.len;omega
   have Kr:=HK.out.box.lt;have hbr:b<wr.heap.size:=atM hbl (HE.out.trans HK.out.ev).size;have t2:((j5:Int)+2).toNat=j5+2:=by omega
   have i1:(0:Int)≤(j5:Int)+2:=by omega
   have i2:(j5:Int)+2<(k1:Int)+1+2 - 1:=by omega
   have i3:(j5:Int)+2<(k1:Int)+1+2:=by omega
   have zk:=Bx.new 54 #[.string ⟨#[]⟩,.string ⟨#[]⟩,.string ⟨#[]⟩] wr;clear hy hAR afn;go_upto_region 50 with (first
    | ((with_reducible refine (al_.out _ ((HE.out.trans HK.out.ev).trans (Ev.alloc _ _))).mono ?_);rintro r_ w6 ⟨rfl,lL⟩;have E6:=zq ((Ev.alloc wr _).trans lL);have pF:=zq (zk.ev lL);obtain⟨⟨u0,u1,u2⟩,v0,v1,v2⟩:=pF.out.three;clear lL zk;clear q0 q1 q2 q3 q4 q5 q6 q7))
   rw[cO];obtain⟨w8,uM⟩:∃w8,w8=wP wr.heap.size (.string ⟨AR.1.1.toArray⟩) (.string ⟨AR.1.2.1.toArray⟩) (.string ⟨AR.1.2.2.toArray⟩) w6:=⟨_,rfl⟩
   rw[←uM];have rY:=tY wr.heap.size (.string ⟨AR.1.1.toArray⟩) (.string ⟨AR.1.2.1.toArray⟩) (.string ⟨AR.1.2.2.toArray⟩) w6;have nO:=pF.out.wP (.string ⟨AR.1.1.toArray⟩) (.string ⟨AR.1.2.1.toArray⟩) (.string ⟨AR.1.2.2.toArray⟩);have kW:=E6.out.box rY (att _);rw[←uM]at nO kW;have lN:=zq (HK.out.up kW);obtain⟨⟨q0,q1,q2,q3,q4,q5,q6,q7⟩,_⟩:=lN.out.box.eight;clear u0 u1 u2 v0 v1 v2;obtain⟨⟨u0,u1,u2⟩,_⟩:=nO.three;have Kt:=kW.size;have Ku:=lN.out.box.lt;have MG:=nO.lt;clear uM rY nO kW
   go_wp2_with (first
    | ((show wpList _ _ _ (⟨some 189,_,_,_,_,_⟩::_) _ _);refine aK (o:=⟨some 189,_,_,_,_,_⟩) rfl 29 (.tmp 186) (.tmp 188) rfl yT Tryz.underlying29 Tryz.aaJ rfl rfl (lN.out.up (Ev.alloc _ _)).own (some ⟨_,0,none⟩) 1 1 [AR.1] rfl (Sl.one (et:=54) yT _ AR.1 _ rfl) (by simp;omega) (by simp;omega) (by simp;omega) ?_;intro v2 w7 gz;have uI:=zq gz;obtain⟨A2,cap2,rfl,AQ⟩:=X5.next (lN.out.up (Ev.alloc _ _)) uI.out;obtain⟨⟨o0,o1,o2,o3,o4,o5,o6,o7⟩,t0,t1,t2_,t3,t4,t5,t6,t7⟩:=((lN.out.up (Ev.alloc _ _)).after uI.out).eight;have MH:=zq AQ;clear AQ gz))
   go_roundw
   case rel=>exact⟨j5+1,⟨A2,cap2,ag.l++[AR.1]⟩,AR.2,rfl,rfl,by go_num,by omega,HNX,MH⟩
   case measure=>simp[intOf];omega
  have hex:e5.1=0→j5=al.length:=fun h0=>by have:=LG.out;by_cases hjk:j5<k1;exact absurd ⟨hjk,h0⟩ hcont;omega
  have hfin:=HI.out.fin hex;have uG:Hid (aZ PT=fB e5 (aQ ([z].map fun v=>aZ v.t))):=zq (by rw[X7.out,hfin.1]);have qx:Hid ((aZ PT).1=0→pPlan PT=.mk 7 [] [] [] X1.l [] ag.l ([z].map fun v=>pPlan v.t)):=zq (fun h=>by
   rw[X7.out,sJ,sJ]at h;have h5:e5.1=0:=by rw[←hfin.1,sJ];exact h.1
   rw[afm.out,hfin.2 h5,aaG.out,uT.out h.1.1])
  have HZ5:Hid (e5.1=0→e5=(0,0)):=zq fun h=>(HI.out.ok h).1;have EU:=zq HK.out.done;have LZ:=zq hex;obtain⟨wo,rfl⟩:∃wo:World,wo=wr:=⟨_,rfl⟩
  have i1:(0:Int)≤(j5:Int)+2:=by omega
  have i4:(0:Int)≤(k1:Int)+1+2 - 1:=by omega
  have i5:(k1:Int)+1+2 - 1≤(k1:Int)+1+2:=by omega
  have i6:(k1:Int)+1+2 - 1≤(o8:Int)+1+2:=by omega
  have i7:¬(o8+1+2=k1+2):=by omega
  clear hfin hex HI HK;by_cases hlt:(j5:Int)+2<(k1:Int)+1+2 - 1;have he5:(e5.1==0)=false:=atp.2 fun h=>by have:=LZ.out h;have:=LG.out;omega
  exact avk;exact avk
structure Yw (cl:List M) (j:Nat) (N:List By) (X:List T) (e:Er):Prop where
 len:N.length=X.length
 le:N.length≤j
 ok:e.1=0→e=(0,0)∧(∀y∈cl.take j,(aQ (dS y.t)).1=0)∧N=((cl.take j).map fun y=>pW y.t)∧X=(cl.take j).map fun y=>pX y.t
 bad:e.1≠0→aQ (cl.flatMap fun y=>dS y.t)=e
theorem Kz {cl:List M} (h:∀y∈cl,(aQ (dS y.t)).1=0):aQ (cl.flatMap fun y=>dS y.t)=(0,0):=vK fun x hx=>by obtain⟨y,hy,hx⟩:=auP.1 hx;exact (fU _).1 (h y hy) x hx
theorem NL {cl:List M} {j:Nat} {y:M} (h:∀y∈cl.take j,(aQ (dS y.t)).1=0) (hy:cl[j]?=some y) (hne:(aQ (dS y.t)).1≠0):aQ (cl.flatMap fun y=>dS y.t)=aQ (dS y.t):=by
 obtain⟨hk,hx⟩:=atr.1 hy;have hl:cl=cl.take j++y::cl.drop (j+1):=by rw[←hx,avg,auy]
 rw[hl,avb,auN,jc,jc,Kz h,uO hne,lg,if_neg hne]
theorem Yw.start (cl:List M):Yw cl 0 [] [] (0,0):=⟨rfl,att _,fun _=>⟨rfl,by simp,by simp,by simp⟩,fun h=>absurd rfl h⟩
theorem aaK {y a b:M} (hk:y.kids=[a,b]):dS y.t=[bn a.t,jC b.t]:=by unfold dS;rw[M.aY,hk];rfl
theorem KA {y a b:M} (hk:y.kids=[a,b]):aQ (dS y.t)=fB (FN a.t).2 (jC b.t):=by rw[aaK hk,PD,vU (Kw a.t),vU (zt b.t)];show fB _ (fB _ (0,0))=_;rw[wR]
theorem Yw.brk {cl:List M} {j:Nat} {N:List By} {X:List T} {y a b:M} (h:Yw cl j N X (0,0)) (hy:cl[j]?=some y) (hk:y.kids=[a,b]) (hn:(FN a.t).2.1≠0):aQ (cl.flatMap fun y=>dS y.t)=(FN a.t).2:=by
 obtain⟨_,h3,_⟩:=h.ok rfl;have hf:aQ (dS y.t)=(FN a.t).2:=by rw[KA hk,uO hn]
 rw[NL h3 hy (by rw[hf];exact hn),hf]
theorem Yw.next {cl:List M} {j:Nat} {N:List By} {X:List T} {y a b:M} (h:Yw cl j N X (0,0)) (hy:cl[j]?=some y) (hk:y.kids=[a,b]) (hn:(FN a.t).2.1=0):Yw cl (j+1) (N++[(FN a.t).1]) (X++[(xRead b.t).1]) (xRead b.t).2:=by
 obtain⟨_,h3,h4,h5⟩:=h.ok rfl;obtain⟨hj,e0⟩:=atr.1 hy;have nX:cl.take (j+1)=cl.take j++[y]:=by rw[atD hj,e0]
 have hf:aQ (dS y.t)=jC b.t:=by rw[KA hk,Kw _ hn,E_ (zt b.t)]
 have YN:pW y.t=(FN a.t).1:=by unfold pW;rw[M.aY,hk,Sj _ hn];rfl
 have hce:pX y.t=(xRead b.t).1:=by unfold pX;rw[M.aY,hk];rfl
 refine⟨by simp[h.len],by have:=h.le;simp;omega,fun he=>?_,fun he=>?_⟩;have hz:(jC b.t).1=0:=he;refine⟨zt b.t hz,fun z hz2=>?_,?_,?_⟩;rw[nX]at hz2;rcases atK.1 hz2 with h6|h6;exact h3 z h6;simp at h6;rw[h6,hf];exact hz;rw[nX,atB,h4,←YN];rfl;rw[nX,atB,h5,←hce];rfl;have hz:(jC b.t).1≠0:=he;rw[NL h3 hy (by rw[hf];exact hz),hf];rfl
theorem Yw.fin {cl:List M} {e:Er} {j:Nat} {N:List By} {X:List T} (h:Yw cl j N X e) (hj:e.1=0→j=cl.length):aQ (cl.flatMap fun y=>dS y.t)=e∧(e.1=0→N=(cl.map fun y=>pW y.t)∧X=cl.map fun y=>pX y.t):=by by_cases he:e.1=0;obtain⟨h1,h3,h4,h5⟩:=h.ok he;rw[hj he,auf]at h3 h4 h5;exact⟨by rw[Kz h3,h1],fun _=>⟨h4,h5⟩⟩;exact⟨h.bad he,fun h0=>absurd h0 he⟩
structure P7 (w0:World) (gp:Nat) (co:eU By) (ex:eU M) (w:World):Prop where
 box:Bx 32 gp #[.int .i64 3,.string ⟨#[]⟩,.slice ex.A ex.l.length ex.cap,.slice co.A co.l.length co.cap,.slice none 0 0,.slice none 0 0,.slice none 0 0,.slice none 0 0] w
 ns:Ow 9 1 sc (gp+1) w (.slice co.A co.l.length co.cap) co.l
 es:Ow 47 4 ec (gp+1) w (.slice ex.A ex.l.length ex.cap) ex.l
 apart:∀g,(Value.slice co.A co.l.length co.cap).ownBlock=some g→(Value.slice ex.A ex.l.length ex.cap).ownBlock≠some g
 lies:∀x∈ex.l,Lx (gp+1) (foot (.slice co.A co.l.length co.cap)++foot (.slice ex.A ex.l.length ex.cap)) w x
 ev:Ev w0 w
 FC:w0.heap.size≤gp
theorem P7.up {w0 w w':World} {gp:Nat} {co:eU By} {ex:eU M} (h:P7 w0 gp co ex w) (hE:Ev w w'):P7 w0 gp co ex w':=
 ⟨h.box.ev hE,h.ns.ev hE,h.es.ev hE,h.apart,fun x hx=>(h.lies x hx).move (But.aS hE) fun _ hy=>.inl hy,h.ev.trans hE,h.FC⟩
theorem P7.PK {w0 w:World} {gp:Nat} {co:eU By} {ex:eU M} (h:P7 w0 gp co ex w):gp∉foot (.slice co.A co.l.length co.cap)∧gp∉foot (.slice ex.A ex.l.length ex.cap):=
 ⟨fun hm=>by have:=(h.ns.lt (aB.1 hm)).1;omega,fun hm=>by have:=(h.es.lt (aB.1 hm)).1;omega⟩
theorem aaL {gp:Nat} {K:List Nat} {w w':World} {x:M} (h:Lx (gp+1) K w x) (hb:But [gp] w w') (hg:gp<w.heap.size):Lx (gp+1) K w' x:=by
 have h1:Lx (gp+1) (gp::K) w x:=h.less fun k hk=>by rcases atA.1 hk with rfl|hk;exact .inr (.inl (by omega));exact .inl hk
 exact h1.move (hb.wide fun k hk=>.inl (by simp at hk;subst hk;exact atz ..)) fun k hk=>.inl (aty _ hk)
theorem P7.name {w0 wq w2:World} {gp:Nat} {co:eU By} {ex:eU M} {s:By} {v2:Value} (h:P7 w0 gp co ex wq) (hA:mW 9 1 sc (gp+1) wq (.slice co.A co.l.length co.cap) (co.l++[s]) v2 w2):
  ∃A2 cap2,v2=.slice A2 (co.l.length+1) cap2∧P7 w0 gp ⟨A2,cap2,co.l++[s]⟩ ex (w2.setCell ⟨gp,3,none⟩ v2)∧∀x,Lx (gp+1) (foot (.slice co.A co.l.length co.cap)++foot (.slice ex.A ex.l.length ex.cap)) wq x→Lx (gp+1) (foot (.slice A2 (co.l++[s]).length cap2)++foot (.slice ex.A ex.l.length ex.cap)) (w2.setCell ⟨gp,3,none⟩ v2) x:=by
 obtain⟨ho,hb,hs⟩:=hA;obtain⟨A2,cap2,rfl,_,_⟩:=ho.form pG;have hl:(co.l++[s]).length=co.l.length+1:=by simp
 have Ot:=h.box.lt;have hB2:=h.box.but hb h.PK.1;have Gw:But [gp] w2 (w2.setCell ⟨gp,3,none⟩ (.slice A2 (co.l++[s]).length cap2)):=But.setCell _ _ (by simp);have IG:Ow 47 4 ec (gp+1) w2 (.slice ex.A ex.l.length ex.cap) ex.l:=h.es.but hb fun g xE hm=>h.apart g (aB.1 hm) xE;have hlx:∀x,Lx (gp+1) (foot (.slice co.A co.l.length co.cap)++foot (.slice ex.A ex.l.length ex.cap)) wq x→Lx (gp+1) (foot (.slice A2 (co.l++[s]).length cap2)++foot (.slice ex.A ex.l.length ex.cap)) (w2.setCell ⟨gp,3,none⟩ (.slice A2 (co.l++[s]).length cap2)) x:=by intro x hx;refine aaL ?_ Gw (atM Ot hb.size);refine hx.move (hb.wide fun y hy=>.inl (atO _ hy)) fun y hy=>?_;exact axa
 refine⟨A2,cap2,by rw[hl],⟨?_,?_,?_,?_,?_,?_,h.FC⟩,hlx⟩;have:=hB2.set 3 (.slice A2 (co.l++[s]).length cap2);simpa using this;exact ho.but Gw fun g hg=>by have:=(ho.lt hg).1;simp;omega
 exact IG.but Gw fun g hg=>by have:=(IG.lt hg).1;simp;omega
 intro g xE he;rcases hs g xE with h1|h1;exact h.apart g h1 he;have:=(h.es.lt he).2;omega;exact fun x hx=>hlx x (h.lies x hx);have h1:Ev w0 w2:=((But.aS h.ev).then hb).ev fun k hk=>by have:=(h.ns.lt (aB.1 hk)).1;have:=h.FC;omega
 exact h1.box Gw h.FC
theorem P7.expr {w0 wq w2:World} {gp:Nat} {co:eU By} {ex:eU M} {x:M} {v2:Value} (h:P7 w0 gp co ex wq) (hx:Lx (gp+1) (foot (.slice co.A co.l.length co.cap)++foot (.slice ex.A ex.l.length ex.cap)) wq x)
  (hA:mW 47 4 ec (gp+1) wq (.slice ex.A ex.l.length ex.cap) (ex.l++[x]) v2 w2):
  ∃A2 cap2,v2=.slice A2 (ex.l.length+1) cap2∧P7 w0 gp co ⟨A2,cap2,ex.l++[x]⟩ (w2.setCell ⟨gp,2,none⟩ v2):=by
 obtain⟨ho,hb,hs⟩:=hA;obtain⟨A2,cap2,rfl,_,_⟩:=ho.form wM;have hl:(ex.l++[x]).length=ex.l.length+1:=by simp
 have Ot:=h.box.lt;have hB2:=h.box.but hb h.PK.2;have Gw:But [gp] w2 (w2.setCell ⟨gp,2,none⟩ (.slice A2 (ex.l++[x]).length cap2)):=But.setCell _ _ (by simp);have Ia:Ow 9 1 sc (gp+1) w2 (.slice co.A co.l.length co.cap) co.l:=h.ns.but hb fun g xE hm=>h.apart g xE (aB.1 hm);refine⟨A2,cap2,by rw[hl],?_,?_,?_,?_,?_,?_,h.FC⟩;have:=hB2.set 2 (.slice A2 (ex.l++[x]).length cap2);simpa using this;exact Ia.but Gw fun g hg=>by have:=(Ia.lt hg).1;simp;omega
 exact ho.but Gw fun g hg=>by have:=(ho.lt hg).1;simp;omega
 intro g xE he;rcases hs g he with h1|h1;exact h.apart g xE h1;have:=(h.ns.lt xE).2;omega;intro y hy;refine aaL ?_ Gw (atM Ot hb.size);have hy2:Lx (gp+1) (foot (.slice co.A co.l.length co.cap)++foot (.slice ex.A ex.l.length ex.cap)) wq y:=by rcases atK.1 hy with h1|h1;exact h.lies y h1;simp at h1;subst h1;exact hx
 exact awO;have h1:Ev w0 w2:=((But.aS h.ev).then hb).ev fun k hk=>by have:=(h.es.lt (aB.1 hk)).1;have:=h.FC;omega
 exact h1.box Gw h.FC
theorem P7.done {w0 w:World} {gp:Nat} {co:eU By} {ex:eU M} (h:P7 w0 gp co ex w):rE w0 gp (.mk 3 [] ex co .nil .nil .nil none 0 []) w:=by
 obtain⟨A2,cap2,hv,oZ,wQ⟩:=h.ns.form pG;injection hv with h1 h2 h3
 obtain⟨A4,cap4,hv4,amb,aii⟩:=h.es.form wM;injection hv4 with h4 h5 h6
 refine rE.X0 rfl rfl rfl ?_ ⟨⟨by show Sl 4 ec w ex.A ex.l.length ex.cap ex.l;rw[h4,h6];exact amb,fun ad e=>by have e:ex.A=some ad:=e;rw[h4]at e;exact⟨(aii ad e).2.1,(aii ad e).2.2.1,by simp⟩⟩,(fun x hx=>(h.lies x hx).less fun k hk=>by cases hk),⟨by show Sl 1 sc w co.A co.l.length co.cap co.l;rw[h1,h3];exact oZ,fun ad e=>by have e:co.A=some ad:=e;rw[h1]at e;exact⟨(wQ ad e).2.1,(wQ ad e).2.2.1,by simp⟩⟩,aX.nil ..,aX.nil ..,aX.nil ..⟩ h.ev h.FC;exact axU
theorem afo {y:M} {b0:Nat} {w:World} (h:Lies b0 [] w y) (hk:dZ y.t=true):∃a e b o,y.kids=[a,e]∧y.A=some ⟨b,o,none⟩∧b<w.heap.size∧(∀w1,Ev w w1→(w1.cell? ⟨b,o,none⟩=some (.int .i64 a.kind)∧w1.cell? ⟨b,o+1,none⟩=some (.string ⟨a.s.toArray⟩)∧w1.cell? ⟨b,o+2,none⟩=some (.int .i64 a.n)∧w1.cell? ⟨b,o+3,none⟩=some (.slice a.A a.kids.length a.cap)∧w1.cell? ⟨b,o+4,none⟩=some (.int .i64 (a.pos:Int)))∧
  (w1.cell? ⟨b,o+5,none⟩=some (.int .i64 e.kind)∧w1.cell? ⟨b,o+5+1,none⟩=some (.string ⟨e.s.toArray⟩)∧w1.cell? ⟨b,o+5+2,none⟩=some (.int .i64 e.n)∧w1.cell? ⟨b,o+5+3,none⟩=some (.slice e.A e.kids.length e.cap)∧w1.cell? ⟨b,o+5+4,none⟩=some (.int .i64 (e.pos:Int))))∧Lies b0 [] w a∧Lies b0 [] w e∧2≤y.cap:=by
 unfold dZ at hk;rw[atu,atu,M.aY,atq,atH,atH]at hk;obtain⟨a,e,hq⟩:=vG hk.1.2;obtain⟨b,o,hA,hb,_⟩:=Ms.cell h.ms (i:=0) (x:=a) (by rw[hq];rfl);refine⟨a,e,b,o,hq,hA,hb,fun w1 hE=>?_,h.kid a (by rw[hq];simp),h.kid e (by rw[hq];simp),by have:=h.ms.le;rw[hq]at this;exact this⟩;obtain⟨b1,o1,hA1,_,c0,c1,c2,c3,c4⟩:=Ms.cell (h.ms.ev hE) (i:=0) (x:=a) (by rw[hq];rfl);obtain⟨b2,o2,gz,_,d0,d1,d2,d3,d4⟩:=Ms.cell (h.ms.ev hE) (i:=1) (x:=e) (by rw[hq];rfl);rw[hA]at hA1 gz;injection hA1 with hA1
 injection hA1 with e1 e2 _
 injection gz with gz
 injection gz with e3 e4 _
 subst e1;subst e2;subst e3;subst e4;simp only[aud,atW,auE,M.kv]at c0 c1 c2 c3 c4 d0 d1 d2 d3 d4;exact⟨⟨c0,c1,c2,c3,c4⟩,d0,d1,d2,d3,d4⟩
theorem avm {P:Prop} (h:P:=by
 obtain⟨j,p,e,rfl,rfl,rfl,hj,HI,HK⟩:=hrel;have GU:=F1.out.size;have GV:=HR.out.lt;by_cases he:e.1=0;have GX:=(HI.out.ok he).1;subst GX;by_cases hlt:j<1;exact avo;obtain rfl:j=1:=by omega
 have uX:Hid (mi PT=(p.p,0,0)):=zq (ru.uK (p0:=.mk 3 [] ex co .nil .nil .nil none 0 []) (by rw[pg.out];exact HI.out) rfl uG.out qx.out);exact avQ;exact avF):P:=h
theorem avl {P:Prop} (h:P:=by
 go_upto_region 52 with fail
 go_wp2;have NJ:=zq (fun y (hy:y∈[z]) w1 (hE:Ev w w1)=>lS.out y (P6.out y hy) w1 hE);have pg:=zq (HQ.out w (Ev.refl _)).len;have MC:=(HQ.out w (Ev.refl _)).le;have MF:=(HQ.out w (Ev.refl _)).max
 go_loopw [7,8,16] (fun yv av iv wr=>∃(j:Nat) (p:PM) (e:Er),yv=.int .i64 e.1∧av=.int .i64 (e.2:Int)∧iv=.int .i64 (j:Int)∧j≤1∧Hid (ru [z] e5 (.mk 3 [] ex co .nil .nil .nil none 0 []) j p e)∧Hid (rE w0 w1.heap.size p wr)) (fun _ _ iv _=>1 - (intOf iv).toNat)
 case atStart=>exact⟨0,.mk 3 [] ex co .nil .nil .nil none 0 [],e5,rfl,rfl,rfl,atG _,zq (ru.start _ _ _ rfl HZ5.out),EU⟩
 case round=>
  exact avm):P:=h
theorem KC (m:M) (b0:Nat) (w:World) (hL:Lies b0 [] w m) (hfair:m.t.every bZ=true) (hsz:m.t.size≤10000) (hf:fG m.t=true) (x:M) (q:List M) (hq:m.kids=x::q) (hs:x.s=bM)
  (ih:∀y∈q,∀w1,Ev w w1→Calls Tryz.prog 39 #[.agg #[.int .i64 y.kind,.string ⟨y.s.toArray⟩,.int .i64 y.n,.slice y.A y.kids.length y.cap,.int .i64 (y.pos:Int)]] w1 (bu (mi y.t) w1)):
  Calls Tryz.prog 39 #[.agg #[.int .i64 m.kind,.string ⟨m.s.toArray⟩,.int .i64 m.n,.slice m.A m.kids.length m.cap,.int .i64 (m.pos:Int)]] w (bu (mi m.t) w):=by
 have fJ:Tryz.prog.follows .mixedOrders=true:=by kernel_rfl
 obtain⟨jF,kR,lK,hm1,hx2,qP⟩:=lC hq hf;have Kq:Lies b0 [w.heap.size] w m:=hL.less fun k hk=>by simp at hk;exact .inr (.inr (by omega))
 obtain⟨b,off,k,c,eu⟩:=uD Kq hq qP;have Gj:=zq (fun w1 (hE:Ev w w1)=>sV m b0 w1 (hL.ev hE));rw[hf]at Gj;have vJ:=zq (fun w1 (hE:Ev w w1)=>jU m b0 w1 (hL.ev hE));have rP:OE m.t=x.s:=by rw[EE,hq];simp[hm1,M.tu,kK,hx2]
 rw[rP,hs]at vJ;have yB:=zq (fun y (hy:y∈q)=>lD hq hy hfair hsz);have LH:=q_len hq hsz;have Aa:=zq (fun i y (hy:q[i]?=some y) w1 (hE:Ev w w1)=>eu.kid (i+1) y (by rw[hq];simpa using hy) w1 (But.aS hE));rw[hs]at jF kR lK;unfold bu at ih⊢;obtain⟨PT,tK⟩:∃PT,PT=m.t:=⟨_,rfl⟩
 rw[←tK]at jF kR⊢;have hA:=eu.hA;have hn:=eu.hn;have hc:=eu.hc;have rH:=eu.rH;have hcm:=eu.hcm;have lQ:=eu.lQ;have hbl:b<w.heap.size:=(eu.z_ w (But.refl _ _) off _ rfl).2.1;have nY:=zq eu;clear eu tK hq hL Kq hfair hsz qP hf hx2 rP;generalize zi:m.kids.length=kn at*;generalize uV:m.A=mA at*;generalize DC:m.cap=mc at*;generalize oQ:m.kind=kd at*;generalize hs_:m.s=ms at*;generalize uU:m.n=mn at*;generalize DD:m.pos=mp at*;clear zi uV DC oQ hs_ uU DD;subst hm1;subst hA;subst hn;subst hc;obtain⟨w0,hw0,aT,hX,hR⟩:=DK w (.int .i64 1) (.string ⟨ms.toArray⟩) (.int .i64 mn) (.slice (some ⟨b,off,none⟩) (k+2) (c+2)) (.int .i64 (mp:Int));have HX:=zq hX;have HR:=zq hR;have HE:=zq aT;have lS:=zq ih;unfold bM at*;obtain⟨⟨c0,c1,c2,c3,c4⟩,_⟩:=hX.five;clear hX hR aT ih hs;have BQ:(decide (2≤(q.map M.t).length)&&((q.map M.t).take ((q.map M.t).length - 1)).all dZ)=true:=lK;rw[atu,aun,atq,lQ,auG,←auw,auI,atL]at BQ;obtain⟨uQ,wV⟩:=BQ;obtain⟨z,hz⟩:∃z,q.drop k=[z]:=sO (by rw[at1,lQ];omega);obtain⟨cl,hcl⟩:∃cl,cl=q.take k:=⟨_,rfl⟩
 have hall:cl.length=k:=by rw[hcl,aua];omega
 have afm:Hid (pPlan PT=.mk 3 [] (cl.map fun y=>pX y.t) (cl.map fun y=>pW y.t) [] [] [] ([z].map fun y=>pPlan y.t)):=zq (by
  rw[jF,hcl,←hz];show Pl.mk 3 [] (((q.map M.t).take ((q.map M.t).length - 1)).map pX) (((q.map M.t).take ((q.map M.t).length - 1)).map pW) [] [] [] (((q.map M.t).map pPlan).drop ((q.map M.t).length - 1))=_;rw[atq,lQ,auG,←auw,atI,atI,atI,←auD];rfl)
 have X7:Hid (aZ PT=fB (aQ (cl.flatMap fun y=>dS y.t)) (aQ ([z].map fun y=>aZ y.t))):=zq (by
  rw[kR,hcl,←hz];show aQ (((q.map M.t).take ((q.map M.t).length - 1)).flatMap dS++((q.map M.t).map aZ).drop ((q.map M.t).length - 1))=_;rw[atq,lQ,auG,←auw,atI,←auD,List.flatMap_map,jc];rfl)
 have HQ:Hid (∀w1,Ev w w1→Ms w1 (some ⟨b,off+(k+1)*5,none⟩) 1 (c+1 - k) [z]):=zq fun w1 hE=>by
  have h1:=(nY.out.rest w1 (But.aS hE)).drop (k:=k) (by omega);rw[hz]at h1;have e1:off+5+k*5=off+(k+1)*5:=by omega
  have e2:k+1 - k=1:=by omega
  rw[e1,e2]at h1;exact h1
 have P6:Hid (∀y_∈[z],y_∈q):=zq fun y_ hy=>List.mem_of_mem_drop (i:=k) (by rw[hz];exact hy);have hin:∀j y,cl[j]?=some y→q[j]?=some y∧y∈q∧y∈q.take k:=fun j y hy=>by
  have hm:=atw hy;rw[hcl]at hy hm;refine⟨?_,auK hm,hm⟩;rw[List.getElem?_take]at hy;split at hy;exact hy
  cases hy
 have HCL:=zq (fun j y (hy:cl[j]?=some y)=>afo ((nY.out.lies y (hin j y hy).2.1 w (But.refl _ _)).less fun k hk=>by cases hk) (wV y (hin j y hy).2.2));have HKA:=zq (fun j y (hy:cl[j]?=some y) w1 (hE:Ev w w1)=>(Aa.out j y (hin j y hy).1 w1 hE).2.2.2.1);have XK:=zq (fun j y (hy:cl[j]?=some y)=>yB.out y (hin j y hy).2.1);have LG:=zq hall;have ou:k≤10000:=by omega
 have agq:1≤k:=by omega
 clear jF kR lK hall hcl hz wV hin LH lQ Aa yB uQ;go_enter Tryz.func39,Tryz.ntmps39;go_upto_region 19 with (first
  | ((with_reducible refine (Gj.out _ HE.out).mono ?_);rintro r w1 ⟨rfl,aH⟩;have E1:=zq (HE.out.trans aH);have F1:=zq aH;have hx1:=(HX.out.ev aH).lt;have hr1:=(HR.out.ev aH).lt;clear c0 c1 c2 c3 c4;obtain⟨⟨c0,c1,c2,c3,c4⟩,_⟩:=(HX.out.ev aH).five;have xq:=Bx.new 32 #[.int .i64 0,.string ⟨#[]⟩,.slice none 0 0,.slice none 0 0,.slice none 0 0,.slice none 0 0,.slice none 0 0,.slice none 0 0] w1;clear aH)
  | ((with_reducible refine (vJ.out _ (E1.out.trans (Ev.alloc _ _))).mono ?_);rintro r w2 ⟨rfl,bK⟩;have F2:=zq ((F1.out.trans (Ev.alloc _ _)).trans bK);have BP:=zq (xq.ev bK);obtain⟨⟨p0,p1,p2,p3,p4,p5,p6,p7⟩,z0,z1,z2,z3,z4,z5,z6,z7⟩:=(xq.ev bK).eight;clear bK xq;clear c0 c1 c2 c3 c4;obtain⟨⟨c0,c1,c2,c3,c4⟩,_⟩:=(HX.out.ev F2.out).five))
 obtain⟨wA,yE⟩:∃wA,wA=w2.setCell ⟨w1.heap.size,0,none⟩ (.int .i64 3):=⟨_,rfl⟩
 rw[←yE];have DN:Hid (Bx 32 w1.heap.size #[.int .i64 3,.string ⟨#[]⟩,.slice none 0 0,.slice none 0 0,.slice none 0 0,.slice none 0 0,.slice none 0 0,.slice none 0 0] wA):=zq (by rw[yE];have:=BP.out.set 0 (.int .i64 3);simpa using this);have FA:Hid (Ev w0 wA):=zq (by rw[yE];exact F2.out.box (But.setCell _ _ (by simp)) F1.out.size);clear yE p0 p1 p2 p3 p4 p5 p6 p7 z0 z1 z2 z3 z4 z5 z6 z7 c0 c1 c2 c3 c4;obtain⟨⟨p0,p1,p2,p3,p4,p5,p6,p7⟩,z0,z1,z2,z3,z4,z5,z6,z7⟩:=DN.out.eight;obtain⟨⟨c0,c1,c2,c3,c4⟩,_⟩:=(HX.out.ev FA.out).five;have hpA:=DN.out.lt;have HFK:Hid (P7 w0 w1.heap.size .nil .nil wA):=zq ⟨by have:=DN.out;simpa[eU.nil] using this,Ow.nil_ _,Ow.nil_ _,(fun g hg=>by cases hg),(fun x hx=>by cases hx),FA.out,F1.out.size⟩;clear p0 p1 p2 p3 p4 p5 p6 p7 z0 z1 z2 z3 z4 z5 z6 z7 c0 c1 c2 c3 c4;have n3:((k:Int)+2 - 1).toNat=k+1:=by omega
 go_wp2
 go_loopw [7,8,11] (fun yv av iv wr=>∃(j5:Nat) (co:eU By) (ex:eU M) (e5:Er),yv=.int .i64 e5.1∧av=.int .i64 (e5.2:Int)∧iv=.int .i64 ((j5:Int)+1)∧j5≤k∧Hid (Yw cl j5 co.l (ex.l.map M.t) e5)∧Hid (P7 w0 w1.heap.size co ex wr)) (fun _ _ iv _=>(k+2) - (intOf iv).toNat)
 case atStart=>exact⟨0,.nil,.nil,(0,0),rfl,rfl,rfl,atG _,zq (Yw.start _),HFK⟩
 case round=>
  obtain⟨j5,co,ex,e5,rfl,rfl,rfl,hj,HI,HK⟩:=hrel;have GU:=F1.out.size;have GV:=HR.out.lt;obtain⟨wo,rfl⟩:∃wo:World,wo=wr:=⟨_,rfl⟩
  have i1:(0:Int)≤(j5:Int)+1:=by omega
  have i4:(0:Int)≤(k:Int)+2 - 1:=by omega
  have i5:(k:Int)+2 - 1≤(k:Int)+2:=by omega
  have i6:(k:Int)+2 - 1≤(c:Int)+2:=by omega
  have i7:¬(c+2=k+1):=by omega
  by_cases hcont:j5<k∧e5.1=0
  ·obtain⟨hlt,he⟩:=hcont;have GX:=(HI.out.ok he).1;subst GX;obtain⟨y,hy⟩:∃y,cl[j5]?=some y:=⟨_,atN (by rw[LG.out];exact hlt)⟩
   obtain⟨a,eb,by_,oy,hyk,hyA,yD,hyc,hLa,hLe,aom⟩:=HCL.out j5 y hy;have ZR:Hid (∀w1,Ev w w1→w1.cell? ⟨b,off+(j5+1)*5+3,none⟩=some (.slice (some ⟨by_,oy,none⟩) 2 y.cap)):=zq fun w1 hE=>by have k3:=HKA.out j5 y hy w1 hE;rw[hyA,hyk]at k3;exact k3
   have k3:=ZR.out _ (HE.out.trans HK.out.ev);have HYC:=zq hyc;have hFA:=XK.out j5 y hy;have haf:a.s.length≤1000000:=qB hFA.1 a (by rw[hyk];simp);obtain⟨NA,hNA⟩:∃NA,NA=FN a.t:=⟨_,rfl⟩
   have HN:=zq (fun w1=>zG a w1 haf);rw[←hNA]at HN;obtain⟨⟨a0,a1,a2,a3,a4⟩,_⟩:=HYC.out _ (HE.out.trans HK.out.ev);have hbr:b<wo.heap.size:=atM hbl (HE.out.trans HK.out.ev).size;have hyr:by_<wo.heap.size:=atM yD (HE.out.trans HK.out.ev).size;have t2:((j5:Int)+1).toNat=j5+1:=by omega
   have i2:(j5:Int)+1<(k:Int)+2 - 1:=by omega
   have i3:(j5:Int)+1<(k:Int)+2:=by omega
   by_cases JS:NA.2.1=0
   ·have hNz:NA.2=(0,0):=by rw[hNA]at JS⊢;exact Kw _ JS
    have HNX:Hid (Yw cl (j5+1) (co.l++[NA.1]) ((ex.l.map M.t)++[(xRead eb.t).1]) (xRead eb.t).2):=zq (by rw[hNA];exact HI.out.next hy hyk (by rw[←hNA];exact JS));rw[hNz]at HN;simp only at HN;have hes:eb.t.every bZ=true∧eb.t.size≤10000:=lD (m:=y) (x:=a) hyk (by simp) hFA.1 hFA.2;obtain⟨XR,hXR⟩:∃XR,XR=xRead eb.t:=⟨_,rfl⟩
    have O6:=zq (fun w1 (hE:Ev w w1)=>VF eb.dep eb b0 w1 (att _) (hLe.ev hE) hes.1 (by have:=hes.2;omega));unfold Ap mv M.kv at O6;rw[←hXR]at O6 HNX;have zK:co.l.length≤10000:=by have:=HI.out.le;omega
    have ahJ:ex.l.length≤10000:=by have h1:=HI.out.len;have h2:=HI.out.le;rw[atq]at h1;omega
    have Kr:=HK.out.box.lt;clear hy hyk hyA hyc hLa hLe hNA hFA JS hNz hes hXR;go_upto_region 27 with (first
     | ((with_reducible refine (HN.out _).mono ?_);rintro r_ w3 ⟨rfl,iE⟩;have E3:=zq iE;clear k3 a0 a1 a2 a3 a4;have k3:=ZR.out _ ((HE.out.trans HK.out.ev).trans iE);obtain⟨_,⟨a0,a1,a2,a3,a4⟩⟩:=HYC.out _ ((HE.out.trans HK.out.ev).trans iE);have arR:b<w3.heap.size:=atM hbr iE.size;have arS:by_<w3.heap.size:=atM hyr iE.size;have hBE:=Bx.new 47 #[.int .i64 0,.string ⟨#[]⟩,.int .i64 0,.slice none 0 0] w3;clear iE)
     | ((with_reducible refine (O6.out _ (((HE.out.trans HK.out.ev).trans E3.out).trans (Ev.alloc _ _))).mono ?_);rintro r_ w4 ⟨x,rfl,jg,iq,gI⟩;have oW:=zq jg;have pz:=zq iq;have E4:=zq ((Ev.alloc w3 _).trans gI);have HBE:=zq (hBE.ev gI);obtain⟨⟨u0,u1,u2,u3⟩,v0,v1,v2,v3⟩:=HBE.out.four;clear jg iq gI hBE))
    rw[dF];obtain⟨w8,uM⟩:∃w8,w8=jM w3.heap.size (.int .i64 x.kind) (.string ⟨x.s.toArray⟩) (.int .i64 x.n) (.slice x.A x.kids.length x.cap) w4:=⟨_,rfl⟩
    rw[←uM];have rY:=dW w3.heap.size (.int .i64 x.kind) (.string ⟨x.s.toArray⟩) (.int .i64 x.n) (.slice x.A x.kids.length x.cap) w4;have nO:=HBE.out.jM (.int .i64 x.kind) (.string ⟨x.s.toArray⟩) (.int .i64 x.n) (.slice x.A x.kids.length x.cap);have kW:=E4.out.box rY (att _);have afp:=EM pz.out rY (fun k hk=>by simp at hk;simp;omega);rw[←uM]at nO kW afp;have lN:=zq (HK.out.up (E3.out.trans kW));have HB8:=zq nO;have afq:∀k∈foot (.slice co.A co.l.length co.cap),k<w3.heap.size:=fun k hk=>atM (HK.out.ns.lt (aB.1 hk)).2 E3.out.size;have aik:∀k∈foot (.slice ex.A ex.l.length ex.cap),k<w3.heap.size:=fun k hk=>atM (HK.out.es.lt (aB.1 hk)).2 E3.out.size;have arT:w1.heap.size<w3.heap.size:=atM HK.out.box.lt E3.out.size;have HXK:Hid (Lx (w1.heap.size+1) (foot (.slice co.A co.l.length co.cap)++foot (.slice ex.A ex.l.length ex.cap)) w8 x):=zq ((afp.less fun k hk=>by
     rcases atK.1 hk with h1|h1;exact .inr (.inl (by have:=afq k h1;simp;omega));exact .inr (.inl (by have:=aik k h1;simp;omega))).low (by simp;omega))
    have ame:=zq afq;obtain⟨⟨q0,q1,q2,q3,q4,q5,q6,q7⟩,_⟩:=lN.out.box.eight;have Kt:=kW.size;have Ku:=lN.out.box.lt;have aoo:=lN.out.ev.size;clear u0 u1 u2 u3 v0 v1 v2 v3 a0 a1 a2 a3 a4 k3 uM rY nO kW afp afq aik;go_upto_region 28 with (first
     | ((show wpList _ _ _ (⟨some 101,_,_,_,_,_⟩::_) _ _);refine aK (o:=⟨some 101,_,_,_,_,_⟩) rfl 22 (.tmp 98) (.tmp 100) rfl pG Tryz.underlying22 Tryz.G9 rfl rfl (lN.out.up (Ev.alloc _ _)).ns (some ⟨_,0,none⟩) 1 1 [NA.1] rfl (Sl.one (et:=9) pG _ NA.1 _ rfl) (by simp;omega) (by simp;omega) (by simp;omega) ?_;intro v2 w9 gz;have uI:=zq gz;obtain⟨A2,cap2,rfl,hF9,hX9⟩:=P7.name (lN.out.up (Ev.alloc _ _)) uI.out;have HX9:=zq (hX9 x ((HXK.out.move (But.aS (Ev.alloc _ _)) fun _ h=>.inl h)));obtain⟨⟨o0,o1,o2,o3,o4,o5,o6,o7⟩,t0,t1,t2_,t3,t4,t5,t6,t7⟩:=((lN.out.up (Ev.alloc _ _)).box.but uI.out.2.1 lN.out.PK.1).eight;have HF9:=zq hF9;have HB9:=zq ((HB8.out.ev (Ev.alloc _ _)).but uI.out.2.1 fun hm=>by have:=ame.out _ hm;omega);have arY:=uI.out.2.1.size;clear hF9 gz hX9;clear q0 q1 q2 q3 q4 q5 q6 q7))
    obtain⟨wC,hwC⟩:∃wC,wC=w9.setCell ⟨w1.heap.size,3,none⟩ (.slice A2 (co.l.length+1) cap2):=⟨_,rfl⟩
    rw[←hwC];have HFC:Hid (P7 w0 w1.heap.size ⟨A2,cap2,co.l++[NA.1]⟩ ex wC):=zq (by rw[hwC];exact HF9.out);have HXC:Hid (Lx (w1.heap.size+1) (foot (.slice A2 (co.l++[NA.1]).length cap2)++foot (.slice ex.A ex.l.length ex.cap)) wC x):=zq (by rw[hwC];exact HX9.out);have HBC:Hid (Bx 47 w3.heap.size #[.int .i64 x.kind,.string ⟨x.s.toArray⟩,.int .i64 x.n,.slice x.A x.kids.length x.cap] wC):=zq (by rw[hwC];exact HB9.out.but (But.setCell (K:=[w1.heap.size]) _ _ (by simp)) (by simp;omega));obtain⟨⟨q0,q1,q2,q3,q4,q5,q6,q7⟩,_⟩:=HFC.out.box.eight;obtain⟨⟨u0,u1,u2,u3⟩,_⟩:=HBC.out.four;have ar0:=HFC.out.box.lt;have ar1:=HBC.out.lt;have ar2:=HFC.out.ev.size;clear hwC o0 o1 o2 o3 o4 o5 o6 o7 t0 t1 t2_ t3 t4 t5 t6 t7;simp only at q0 q1 q2 q3 q4 q5 q6 q7
    go_wp2_with (first
     | ((show wpList _ _ _ (⟨some 107,_,_,_,_,_⟩::_) _ _);refine aK (o:=⟨some 107,_,_,_,_,_⟩) rfl 28 (.tmp 104) (.tmp 106) rfl wM Tryz.underlying28 Tryz.yM rfl rfl (HFC.out.up (Ev.alloc _ _)).es (some ⟨_,0,none⟩) 1 1 [x] rfl (Sl.one (et:=47) wM _ x _ rfl) (by simp;omega) (by simp;omega) (by simp;omega) ?_;intro v2 w10 hA3;have HA3:=zq hA3;obtain⟨A3,cap3,rfl,ail⟩:=P7.expr (HFC.out.up (Ev.alloc _ _)) (HXC.out.move (But.aS (Ev.alloc _ _)) fun _ h=>.inl h) HA3.out;obtain⟨⟨o0,o1,o2,o3,o4,o5,o6,o7⟩,t0,t1,t2_,t3,t4,t5,t6,t7⟩:=((HFC.out.up (Ev.alloc _ _)).box.but HA3.out.2.1 HFC.out.PK.2).eight;have amf:=zq ail;clear ail hA3))
    go_roundw
    case rel=>exact⟨j5+1,⟨A2,cap2,co.l++[NA.1]⟩,⟨A3,cap3,ex.l++[x]⟩,XR.2,rfl,rfl,by go_num,by omega,zq (by have h1:=HNX.out;rw[←oW.out]at h1;simpa using h1),amf⟩
    case measure=>simp[intOf];omega
   have hnb:(NA.2.1==0)=false:=atp.2 JS;have BX:(NA.2.1 !=0)=true:=by simp[JS]
   have hbk:=HI.out.brk hy hyk (by rw[←hNA];exact JS);have uG:Hid (aZ PT=fB NA.2 (aQ ([z].map fun v=>aZ v.t))):=zq (by rw[X7.out,hbk,hNA]);have ES:=zq JS;have qx:Hid ((aZ PT).1=0→pPlan PT=.mk 3 [] (ex.l.map M.t) co.l [] [] [] ([z].map fun v=>pPlan v.t)):=zq (fun h=>by rw[uG.out,sJ]at h;exact absurd h.1 ES.out);clear hy hyk hyA hyc hLa hLe hNA hFA JS hbk;go_upto_region 52 with (first
    | ((with_reducible refine (HN.out _).mono ?_);rintro r_ w3 ⟨rfl,iE⟩;have EU:=zq (HK.out.up iE).done;clear iE))
   go_wp2;have NJ:=zq (fun y (hy:y∈[z]) w1 (hE:Ev w w1)=>lS.out y (P6.out y hy) w1 hE);have pg:=zq (HQ.out w (Ev.refl _)).len;have MC:=(HQ.out w (Ev.refl _)).le;have MF:=(HQ.out w (Ev.refl _)).max
   go_loopw [7,8,16] (fun yv av iv wr=>∃(j:Nat) (p:PM) (e:Er),yv=.int .i64 e.1∧av=.int .i64 (e.2:Int)∧iv=.int .i64 (j:Int)∧j≤1∧Hid (ru [z] NA.2 (.mk 3 [] ex co .nil .nil .nil none 0 []) j p e)∧Hid (rE w0 w1.heap.size p wr)) (fun _ _ iv _=>1 - (intOf iv).toNat)
   case atStart=>exact⟨0,.mk 3 [] ex co .nil .nil .nil none 0 [],NA.2,rfl,rfl,rfl,atG _,zq (ru.start _ _ _ rfl (fun h=>absurd h ES.out)),EU⟩
   case round=>
    exact avm
  have hex:e5.1=0→j5=cl.length:=fun h0=>by have:=LG.out;by_cases hjk:j5<k;exact absurd ⟨hjk,h0⟩ hcont;omega
  have hfin:=HI.out.fin hex;have uG:Hid (aZ PT=fB e5 (aQ ([z].map fun v=>aZ v.t))):=zq (by rw[X7.out,hfin.1]);have qx:Hid ((aZ PT).1=0→pPlan PT=.mk 3 [] (ex.l.map M.t) co.l [] [] [] ([z].map fun v=>pPlan v.t)):=zq (fun h=>by
   rw[X7.out,sJ]at h;have h5:e5.1=0:=by rw[←hfin.1];exact h.1
   rw[afm.out,(hfin.2 h5).1,(hfin.2 h5).2])
  have HZ5:Hid (e5.1=0→e5=(0,0)):=zq fun h=>(HI.out.ok h).1;have EU:=zq HK.out.done;have LZ:=zq hex;clear hfin hex HI HK;by_cases hlt:(j5:Int)+1<(k:Int)+2 - 1;have he5:(e5.1==0)=false:=atp.2 fun h=>by have:=LZ.out h;have:=LG.out;omega
  exact avl;exact avl
end Go.Proofs.YtpbfokkocaemlaaGreatDoor
