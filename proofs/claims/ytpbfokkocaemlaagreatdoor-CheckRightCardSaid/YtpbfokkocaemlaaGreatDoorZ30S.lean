import Derived.Test.YtpbfokkocaemlaaGreatDoorZ29S
set_option linter.unusedVariables false
set_option maxRecDepth 100000
set_option maxHeartbeats 64000000
namespace Go.Proofs.YtpbfokkocaemlaaGreatDoor
open Go.RowKit
open Go.Lib renaming hid → zq
theorem lC {m x:M} {q:List M} (hq:m.kids=x::q) (hf:fG m.t=true):pPlan m.t=pMake (fF x.s) (q.map M.t) ((q.map M.t).map pPlan)∧aZ m.t=aQ (xW (fF x.s) (q.map M.t) ((q.map M.t).map aZ))∧pFormOf (fF x.s) (q.map M.t)=true∧m.kind=1∧x.kind=2∧1≤q.length:=by have hf2:=hf;rw[yV,hq]at hf2;simp only[atu,atH,aun,atx,at_,au2,at6,auC,M.tu,kK,atF]at hf2;obtain⟨h1,h2,h3,h4⟩:=hf2;rw[M.qO]at hf⊢;rw[pPlan,if_pos hf,aZ,if_pos hf,xU,zC,hq];refine⟨?_,?_,h4,h1,h3,by omega⟩;simp only[atx,at_,au2,M.tu,at6,auC];simp only[atx,at_,au2,M.tu,at6,auC]
theorem Dz {gr base:Nat} {e:Er} {w wz:World} {m:PM} (hr:ig gr e w wz) (hg:gr<w.heap.size) (hb:w.heap.size+2≤base) (hq:Qx base [] wz m) (v0 v1 v2 v3 v4 v5 v6 v7:Value):Qx w.heap.size [] (iw (w.heap.size+1) v0 v1 v2 v3 v4 v5 v6 v7 wz) m∧ig gr e w (iw (w.heap.size+1) v0 v1 v2 v3 v4 v5 v6 v7 wz):=
 ⟨(kL hq (bQ _ _ _ _ _ _ _ _ _ _) (fun k hk=>by simp at hk;omega)).low (by omega),hr.bx.but (bQ _ _ _ _ _ _ _ _ _ _) (by simp;omega),hr.but.trans (bQ _ _ _ _ _ _ _ _ _ _) fun k hk=>by simp at hk;exact .inr (by omega)⟩
structure ale (m:M) (gr b0:Nat) (w:World) (x:M) (q:List M) (b off k c:Nat):Prop where
 hA:m.A=some ⟨b,off,none⟩
 hn:m.kids.length=k+2
 hc:m.cap=c+2
 rH:k≤c
 hcm:c+2≤9223372036854775807
 lQ:q.length=k+1
 kid:∀i y,m.kids[i]?=some y→∀w1,But [gr] w w1→(w1.cell? ⟨b,off+i*5,none⟩=some (.int .i64 y.kind)∧w1.cell? ⟨b,off+i*5+1,none⟩=some (.string ⟨y.s.toArray⟩)∧w1.cell? ⟨b,off+i*5+2,none⟩=some (.int .i64 y.n)∧w1.cell? ⟨b,off+i*5+3,none⟩=some (.slice y.A y.kids.length y.cap)∧w1.cell? ⟨b,off+i*5+4,none⟩=some (.int .i64 (y.pos:Int)))
 rest:∀w1,But [gr] w w1→Ms w1 (some ⟨b,off+5,none⟩) (k+1) (c+1) q
 z_:∀w1,But [gr] w w1→∀o,QI b0 [gr] w1 (some ⟨b,o,none⟩)
 lies:∀y∈q,∀w1,But [gr] w w1→Lies b0 [gr] w1 y
 bgr:b≠gr
theorem uD {m x:M} {q:List M} {gr b0:Nat} {w:World} (hL:Lies b0 [gr] w m) (hq:m.kids=x::q) (h1:1≤q.length):∃b off k c,ale m gr b0 w x q b off k c:=by
 have fA:=hL.ms;have hlen:m.kids.length=q.length+1:=by rw[hq];rfl
 have hcl:=fA.le;have hcm:=fA.max;obtain⟨b,off,hA,hb,_⟩:=Ms.cell fA (i:=0) (x:=x) (by rw[hq];rfl);have hrg:∀ad,m.A=some ad→b0≤ad.block∧ad.block<w.heap.size∧ad.block∉[gr]:=by
  cases hL with
  | mk a1 a2 a3=>exact a2
 have hr:=hrg _ hA;refine⟨b,off,q.length - 1,m.cap - 2,hA,by omega,by omega,by omega,by omega,by omega,fun i y hy=>Nl hL hA hy,fun w1 hb1=>?_,fun w1 hb1 o ad ea=>?_,fun y hy w1 hb1=>?_,by have:=hr.2.2;simpa using this⟩;have h2:=fA.but hb1 fun ad e=>(hrg ad e).2.2;rw[hA,hq,show (x::q).length=(q.length - 1)+2 by simp;omega,show m.cap=(m.cap - 2)+2 by omega]at h2;exact Ms.rest h2
 cases ea
 exact⟨hr.1,atM hr.2.1 hb1.size,hr.2.2⟩;exact (hL.kid y (by rw[hq];exact aty _ hy)).move hb1 fun _ hz=>.inl hz
theorem lD {m x y:M} {q:List M} (hq:m.kids=x::q) (hy:y∈q) (hfair:m.t.every bZ=true) (hsz:m.t.size≤10000):y.t.every bZ=true∧y.t.size≤10000:=by
 have hym:y∈m.kids:=by rw[hq];exact aty _ hy
 rw[T.fQ,atu]at hfair;have h7:=T.size_eq m.t;rw[M.aY,atI]at h7;have h8:=iy (atV.2 ⟨y,hym,rfl⟩:y.t.size∈m.kids.map (T.size ∘ M.t));exact⟨atL.1 hfair.2 y.t (by rw[M.aY];exact atV.2 ⟨y,hym,rfl⟩),by omega⟩
theorem q_len {m x:M} {q:List M} (hq:m.kids=x::q) (hsz:m.t.size≤10000):q.length≤10000:=by have h7:=T.size_eq m.t;have h8:=jA m.t.kids;rw[M.aY,atq]at h8;rw[M.aY]at h7;rw[hq]at h8;simp only[atF]at h8;rw[hq]at h7;omega
theorem OZ (m:M) (gr:Nat) (e:Er) (b0:Nat) (w:World) (hB:Rb gr e w) (hL:Lies b0 [gr] w m) (hfair:m.t.every bZ=true) (hsz:m.t.size≤10000) (hf:fG m.t=true) (x:M) (q:List M) (hq:m.kids=x::q) (hs:x.s=gq)
  (ih:∀y∈q,∀w1 e1,But [gr] w w1→Rb gr e1 w1→Calls Tryz.prog 58 #[.pointer (some ⟨gr,0,none⟩),.agg #[.int .i64 y.kind,.string ⟨y.s.toArray⟩,.int .i64 y.n,.slice y.A y.kids.length y.cap,.int .i64 (y.pos:Int)]] w1 (qp gr e1 y.t w1)):
  Calls Tryz.prog 58 #[.pointer (some ⟨gr,0,none⟩),.agg #[.int .i64 m.kind,.string ⟨m.s.toArray⟩,.int .i64 m.n,.slice m.A m.kids.length m.cap,.int .i64 (m.pos:Int)]] w (qp gr e m.t w):=by
 have fJ:Tryz.prog.follows .mixedOrders=true:=by kernel_rfl
 obtain⟨jF,kR,lK,hm1,hx2,qP⟩:=lC hq hf;obtain⟨b,off,k,c,eu⟩:=uD hL hq qP;have hgr:=hB.lt;have BO:=fun w1 (hE:Ev w w1)=>l7 m b0 w1 ((hL.ev hE).less fun k hk=>by cases hk);rw[hf]at BO;have LH:=q_len hq hsz;have lu:=zq (fun w1 (hb:But [gr] w w1)=>eu.kid 0 x (by rw[hq];rfl) w1 hb);have Aa:=zq (fun i y (hy:q[i]?=some y) w1 (hb:But [gr] w w1)=>eu.kid (i+1) y (by rw[hq];simpa using hy) w1 hb);simp only[aud,atW,hs,hx2]at lu;rw[hs]at jF kR lK;unfold qp;obtain⟨PT,tK⟩:∃PT,PT=pPlan m.t:=⟨_,rfl⟩
 obtain⟨PE,uF⟩:∃PE,PE=aZ m.t:=⟨_,rfl⟩
 rw[←tK]at jF⊢;rw[←uF]at kR⊢;have hA:=eu.hA;have hn:=eu.hn;have hc:=eu.hc;have rH:=eu.rH;have hcm:=eu.hcm;have lQ:=eu.lQ;have nY:=zq eu;clear eu tK uF hq hL hfair hsz qP hf hx2;generalize zi:m.kids.length=kn at*;generalize uV:m.A=mA at*;generalize DC:m.cap=mc at*;generalize oQ:m.kind=kd at*;generalize hs_:m.s=ms at*;generalize uU:m.n=mn at*;generalize DD:m.pos=mp at*;clear zi uV DC oQ hs_ uU DD;subst hm1;subst hA;subst hn;subst hc;obtain⟨w0,hw0,aT,hX,hR,hs0⟩:=vH w (.int .i64 1) (.string ⟨ms.toArray⟩) (.int .i64 mn) (.slice (some ⟨b,off,none⟩) (k+2) (c+2)) (.int .i64 (mp:Int));have UX:=zq BO;have HX:=zq hX;have HR:=zq hR;have HE:=zq aT;have HB:=zq hB;have Xx:=nY.out.bgr;unfold gq at*;obtain⟨⟨c0,c1,c2,c3,c4⟩,_⟩:=hX.five;obtain⟨d0,d1,d2,d3,d4⟩:=lu.out _ (But.aS aT);clear hX hR aT hB BO ih hs;obtain⟨y,hy⟩:∃y,q=[y]:=by
  have h1:((q.map M.t).length==1&&bT (at_ (q.map M.t) 0))=true:=lK;rw[atu,atH,atq]at h1
  match q,h1.1 with
  | [y],_=>exact⟨y,rfl⟩
 subst hy;obtain rfl:k=0:=by simpa using lQ
 have qx:Hid (PT=.mk 1 y.s [] [] [] [] [] []):=zq (by rw[jF];show Pl.mk 1 (y.t).s [] [] [] [] [] []=_;rw[M.tu]);have uG:Hid (PE=aQ [bn y.t]):=zq kR;have HN:=zq (fun w1 (hE:Ev w w1)=>Hf gr e y w1 (HB.out.ev hE));obtain⟨y0,y1,y2,y3,y4⟩:=Aa.out 0 y rfl _ (But.aS HE.out);simp only[atT,auE]at Aa y0 y1 y2 y3 y4;clear jF kR lK;go_enter Tryz.func58,Tryz.ntmps58
 go_wp2_with (first
  | ((with_reducible refine (UX.out _ HE.out).mono ?_);rintro r w1 ⟨rfl,aH⟩;have E1:=zq (HE.out.trans aH);clear c0 c1 c2 c3 c4 d0 d1 d2 d3 d4;obtain⟨⟨c0,c1,c2,c3,c4⟩,_⟩:=(HX.out.ev aH).five;obtain⟨d0,d1,d2,d3,d4⟩:=lu.out _ (But.aS E1.out);clear y0 y1 y2 y3 y4;obtain⟨y0,y1,y2,y3,y4⟩:=Aa.out 0 y rfl _ (But.aS E1.out);simp only[atT,auE]at y0 y1 y2 y3 y4)
  | ((with_reducible refine (HN.out _ E1.out).mono ?_);rintro r w2 ⟨rfl,jZ⟩;have Cb:=zq jZ;obtain⟨⟨r0,r1,r2,r3,r4,r5,r6,r7⟩,s0,s1,s2,s3,s4,s5,s6,s7⟩:=((HR.out.ev aH).but jZ.but (by simp;omega)).eight;clear jZ))
 (try simp only[Exit.inBlock,Exit.then]);rw[bg];have LP:=(HR.out.ev aH).but Cb.out.but (by simp;omega);refine bodyPost_ret (aP rfl _ _ _ _ _ rfl (LP.iw _ _ _ _ _ _ _ _) Tryz.underlying32 rfl Tryz.bJ) rfl ?_;obtain⟨f1,f2⟩:=Dz (e:=fB e PE) (base:=w.heap.size+2) (⟨by rw[uG.out,show fB e (aQ [bn y.t])=fB e (bn y.t) by unfold aQ;simp only[List.foldl];rw[QG]];exact Cb.out.bx,(But.aS E1.out).then Cb.out.but⟩) hgr (att _) (Qx.mk (aX.nil ..) (fun _ h=>by cases h) (aX.nil ..) (aX.nil ..) (aX.nil ..) (aX.nil ..) (aX.nil ..) (fun _ h=>by cases h)) _ _ _ _ _ _ _ _;exact⟨.mk 1 y.s .nil .nil .nil .nil .nil none 0 [],rfl,by rw[qx.out,PM.pY];rfl,f1,f2⟩
theorem ayq {P:Prop} (h:P:=by have h1:((q.map M.t).length==2)=true:=lK;rw[atH,atq]at h1;exact h1):P:=h
theorem O0 (m:M) (gr:Nat) (e:Er) (b0:Nat) (w:World) (hB:Rb gr e w) (hL:Lies b0 [gr] w m) (hfair:m.t.every bZ=true) (hsz:m.t.size≤10000) (hf:fG m.t=true) (x:M) (q:List M) (hq:m.kids=x::q) (hs:x.s=fP)
  (ih:∀y∈q,∀w1 e1,But [gr] w w1→Rb gr e1 w1→Calls Tryz.prog 58 #[.pointer (some ⟨gr,0,none⟩),.agg #[.int .i64 y.kind,.string ⟨y.s.toArray⟩,.int .i64 y.n,.slice y.A y.kids.length y.cap,.int .i64 (y.pos:Int)]] w1 (qp gr e1 y.t w1)):
  Calls Tryz.prog 58 #[.pointer (some ⟨gr,0,none⟩),.agg #[.int .i64 m.kind,.string ⟨m.s.toArray⟩,.int .i64 m.n,.slice m.A m.kids.length m.cap,.int .i64 (m.pos:Int)]] w (qp gr e m.t w):=by
 have fJ:Tryz.prog.follows .mixedOrders=true:=by kernel_rfl
 obtain⟨jF,kR,lK,hm1,hx2,qP⟩:=lC hq hf;obtain⟨b,off,k,c,eu⟩:=uD hL hq qP;have hgr:=hB.lt;have BO:=fun w1 (hE:Ev w w1)=>l7 m b0 w1 ((hL.ev hE).less fun k hk=>by cases hk);rw[hf]at BO;have LH:=q_len hq hsz;have lu:=zq (fun w1 (hb:But [gr] w w1)=>eu.kid 0 x (by rw[hq];rfl) w1 hb);simp only[aud,atW,hs,hx2]at lu;rw[hs]at jF kR lK;unfold qp;obtain⟨PT,tK⟩:∃PT,PT=pPlan m.t:=⟨_,rfl⟩
 obtain⟨PE,uF⟩:∃PE,PE=aZ m.t:=⟨_,rfl⟩
 rw[←tK]at jF⊢;rw[←uF]at kR⊢;have hA:=eu.hA;have hn:=eu.hn;have hc:=eu.hc;have rH:=eu.rH;have hcm:=eu.hcm;have lQ:=eu.lQ;have nY:=zq eu;clear eu tK uF hq hL hfair hsz qP hf hx2;generalize zi:m.kids.length=kn at*;generalize uV:m.A=mA at*;generalize DC:m.cap=mc at*;generalize oQ:m.kind=kd at*;generalize hs_:m.s=ms at*;generalize uU:m.n=mn at*;generalize DD:m.pos=mp at*;clear zi uV DC oQ hs_ uU DD;subst hm1;subst hA;subst hn;subst hc;obtain⟨w0,hw0,aT,hX,hR,hs0⟩:=vH w (.int .i64 1) (.string ⟨ms.toArray⟩) (.int .i64 mn) (.slice (some ⟨b,off,none⟩) (k+2) (c+2)) (.int .i64 (mp:Int));have UX:=zq BO;have HX:=zq hX;have HR:=zq hR;have HE:=zq aT;have HB:=zq hB;have lS:=zq ih;have Xx:=nY.out.bgr;unfold fP at*;obtain⟨⟨c0,c1,c2,c3,c4⟩,_⟩:=hX.five;obtain⟨d0,d1,d2,d3,d4⟩:=lu.out _ (But.aS aT);clear hX hR aT hB BO ih hs;have hk2:q.length=2:=by exact ayq
 obtain rfl:k=1:=by omega
 have qx:Hid (PT=.mk 5 [] [] [] [] [] [] (q.map fun y=>pPlan y.t)):=zq (by rw[jF];show Pl.mk 5 [] [] [] [] [] [] ((q.map M.t).map pPlan)=_;rw[atI];rfl);have uG:Hid (PE=aQ (q.map fun y=>aZ y.t)):=zq (by rw[kR];show aQ ((q.map M.t).map aZ)=_;rw[atI];rfl);have qZ:=zq (fun w1 (hE:Ev w w1)=>xg gr e q _ _ _ b0 w1 (HB.out.ev hE) (nY.out.rest w1 (But.aS hE)) (nY.out.z_ w1 (But.aS hE) _) (by omega) (fun y hy w2 e2 hb hB2=>lS.out y hy w2 e2 ((But.aS hE).then hb) hB2));unfold eU.v at qZ;clear jF kR lK;go_enter Tryz.func58,Tryz.ntmps58
 go_wp2_with (first
  | ((with_reducible refine (UX.out _ HE.out).mono ?_);rintro r w1 ⟨rfl,aH⟩;have E1:=zq (HE.out.trans aH);clear c0 c1 c2 c3 c4 d0 d1 d2 d3 d4;obtain⟨⟨c0,c1,c2,c3,c4⟩,_⟩:=(HX.out.ev aH).five;obtain⟨d0,d1,d2,d3,d4⟩:=lu.out _ (But.aS E1.out))
  | ((with_reducible refine (qZ.out _ E1.out).mono ?_);rintro r w2 ⟨X,rfl,uZ,xy,hXq,jZ⟩;have Cb:=zq jZ;have pz:=zq uZ;have HXS:=zq xy;have DZ:=zq hXq;obtain⟨⟨r0,r1,r2,r3,r4,r5,r6,r7⟩,s0,s1,s2,s3,s4,s5,s6,s7⟩:=((HR.out.ev aH).but jZ.but (by simp;omega)).eight;clear jZ uZ xy hXq))
 (try simp only[Exit.inBlock,Exit.then]);rw[bg];have LP:=(HR.out.ev aH).but Cb.out.but (by simp;omega);refine bodyPost_ret (aP rfl _ _ _ _ _ rfl (LP.iw _ _ _ _ _ _ _ _) Tryz.underlying32 rfl Tryz.bJ) rfl ?_;obtain⟨f1,f2⟩:=Dz (e:=fB e PE) (base:=w1.heap.size) (⟨by rw[uG.out];exact Cb.out.bx,(But.aS E1.out).then Cb.out.but⟩) hgr (by have:=aH.size;omega) (Qx.mk (aX.nil ..) (fun _ h=>by cases h) (aX.nil ..) (aX.nil ..) (aX.nil ..) (aX.nil ..) HXS.out DZ.out) _ _ _ _ _ _ _ _;exact⟨.mk 5 [] .nil .nil .nil .nil .nil X.A X.cap X.l,rfl,by rw[qx.out,PM.pY,←pz.out];rfl,f1,f2⟩
theorem GK (m:M) (gr:Nat) (e:Er) (b0:Nat) (w:World) (hB:Rb gr e w) (hL:Lies b0 [gr] w m) (hfair:m.t.every bZ=true) (hsz:m.t.size≤10000) (hf:fG m.t=true) (x:M) (q:List M) (hq:m.kids=x::q) (hs:x.s=dw)
  (ih:∀y∈q,∀w1 e1,But [gr] w w1→Rb gr e1 w1→Calls Tryz.prog 58 #[.pointer (some ⟨gr,0,none⟩),.agg #[.int .i64 y.kind,.string ⟨y.s.toArray⟩,.int .i64 y.n,.slice y.A y.kids.length y.cap,.int .i64 (y.pos:Int)]] w1 (qp gr e1 y.t w1)):
  Calls Tryz.prog 58 #[.pointer (some ⟨gr,0,none⟩),.agg #[.int .i64 m.kind,.string ⟨m.s.toArray⟩,.int .i64 m.n,.slice m.A m.kids.length m.cap,.int .i64 (m.pos:Int)]] w (qp gr e m.t w):=by
 have fJ:Tryz.prog.follows .mixedOrders=true:=by kernel_rfl
 obtain⟨jF,kR,lK,hm1,hx2,qP⟩:=lC hq hf;obtain⟨b,off,k,c,eu⟩:=uD hL hq qP;have hgr:=hB.lt;have BO:=fun w1 (hE:Ev w w1)=>l7 m b0 w1 ((hL.ev hE).less fun k hk=>by cases hk);rw[hf]at BO;have LH:=q_len hq hsz;have lu:=zq (fun w1 (hb:But [gr] w w1)=>eu.kid 0 x (by rw[hq];rfl) w1 hb);simp only[aud,atW,hs,hx2]at lu;rw[hs]at jF kR lK;unfold qp;obtain⟨PT,tK⟩:∃PT,PT=pPlan m.t:=⟨_,rfl⟩
 obtain⟨PE,uF⟩:∃PE,PE=aZ m.t:=⟨_,rfl⟩
 rw[←tK]at jF⊢;rw[←uF]at kR⊢;have hA:=eu.hA;have hn:=eu.hn;have hc:=eu.hc;have rH:=eu.rH;have hcm:=eu.hcm;have lQ:=eu.lQ;have nY:=zq eu;clear eu tK uF hq hL hfair hsz qP hf hx2;generalize zi:m.kids.length=kn at*;generalize uV:m.A=mA at*;generalize DC:m.cap=mc at*;generalize oQ:m.kind=kd at*;generalize hs_:m.s=ms at*;generalize uU:m.n=mn at*;generalize DD:m.pos=mp at*;clear zi uV DC oQ hs_ uU DD;subst hm1;subst hA;subst hn;subst hc;obtain⟨w0,hw0,aT,hX,hR,hs0⟩:=vH w (.int .i64 1) (.string ⟨ms.toArray⟩) (.int .i64 mn) (.slice (some ⟨b,off,none⟩) (k+2) (c+2)) (.int .i64 (mp:Int));have UX:=zq BO;have HX:=zq hX;have HR:=zq hR;have HE:=zq aT;have HB:=zq hB;have lS:=zq ih;have Xx:=nY.out.bgr;unfold dw at*;obtain⟨⟨c0,c1,c2,c3,c4⟩,_⟩:=hX.five;obtain⟨d0,d1,d2,d3,d4⟩:=lu.out _ (But.aS aT);clear hX hR aT hB BO ih hs;have hk2:q.length=1:=by have h1:((q.map M.t).length==1)=true:=lK;rw[atH,atq]at h1;exact h1
 obtain rfl:k=0:=by omega
 have qx:Hid (PT=.mk 6 [] [] [] [] [] [] (q.map fun y=>pPlan y.t)):=zq (by rw[jF];show Pl.mk 6 [] [] [] [] [] [] ((q.map M.t).map pPlan)=_;rw[atI];rfl);have uG:Hid (PE=aQ (q.map fun y=>aZ y.t)):=zq (by rw[kR];show aQ ((q.map M.t).map aZ)=_;rw[atI];rfl);have qZ:=zq (fun w1 (hE:Ev w w1)=>xg gr e q _ _ _ b0 w1 (HB.out.ev hE) (nY.out.rest w1 (But.aS hE)) (nY.out.z_ w1 (But.aS hE) _) (by omega) (fun y hy w2 e2 hb hB2=>lS.out y hy w2 e2 ((But.aS hE).then hb) hB2));unfold eU.v at qZ;clear jF kR lK;go_enter Tryz.func58,Tryz.ntmps58
 go_wp2_with (first
  | ((with_reducible refine (UX.out _ HE.out).mono ?_);rintro r w1 ⟨rfl,aH⟩;have E1:=zq (HE.out.trans aH);clear c0 c1 c2 c3 c4 d0 d1 d2 d3 d4;obtain⟨⟨c0,c1,c2,c3,c4⟩,_⟩:=(HX.out.ev aH).five;obtain⟨d0,d1,d2,d3,d4⟩:=lu.out _ (But.aS E1.out))
  | ((with_reducible refine (qZ.out _ E1.out).mono ?_);rintro r w2 ⟨X,rfl,uZ,xy,hXq,jZ⟩;have Cb:=zq jZ;have pz:=zq uZ;have HXS:=zq xy;have DZ:=zq hXq;obtain⟨⟨r0,r1,r2,r3,r4,r5,r6,r7⟩,s0,s1,s2,s3,s4,s5,s6,s7⟩:=((HR.out.ev aH).but jZ.but (by simp;omega)).eight;clear jZ uZ xy hXq))
 (try simp only[Exit.inBlock,Exit.then]);rw[bg];have LP:=(HR.out.ev aH).but Cb.out.but (by simp;omega);refine bodyPost_ret (aP rfl _ _ _ _ _ rfl (LP.iw _ _ _ _ _ _ _ _) Tryz.underlying32 rfl Tryz.bJ) rfl ?_;obtain⟨f1,f2⟩:=Dz (e:=fB e PE) (base:=w1.heap.size) (⟨by rw[uG.out];exact Cb.out.bx,(But.aS E1.out).then Cb.out.but⟩) hgr (by have:=aH.size;omega) (Qx.mk (aX.nil ..) (fun _ h=>by cases h) (aX.nil ..) (aX.nil ..) (aX.nil ..) (aX.nil ..) HXS.out DZ.out) _ _ _ _ _ _ _ _;exact⟨.mk 6 [] .nil .nil .nil .nil .nil X.A X.cap X.l,rfl,by rw[qx.out,PM.pY,←pz.out];rfl,f1,f2⟩
theorem Ms.drop {w:World} {b off n cap k:Nat} {l:List M} (h:Ms w (some ⟨b,off,none⟩) n cap l) (hk:k<n):Ms w (some ⟨b,off+k*5,none⟩) (n - k) (cap - k) (l.drop k):=by
 have hl:=h.len;have hle:=h.le;refine⟨by rw[at1];omega,by omega,by have:=h.max;omega,(fun e=>by cases e),fun _=>?_⟩;obtain⟨b',off',e,hlt,hc⟩:=h.rd (by omega);injection e with e
 injection e with e1 e2 _
 subst e1;subst e2;refine⟨b,off+k*5,rfl,hlt,fun i y hy j u hu=>?_⟩;have:=hc (k+i) y (by rw[←hy,List.getElem?_drop]) j u hu;rwa [show off+(k+i)*5+j=off+k*5+i*5+j by rw[auU];omega]at this
theorem JO (m:M) (gr:Nat) (e:Er) (b0:Nat) (w:World) (hB:Rb gr e w) (hL:Lies b0 [gr] w m) (hfair:m.t.every bZ=true) (hsz:m.t.size≤10000) (hf:fG m.t=true) (x:M) (q:List M) (hq:m.kids=x::q) (hs:x.s=bM)
  (ih:∀y∈q,∀w1 e1,But [gr] w w1→Rb gr e1 w1→Calls Tryz.prog 58 #[.pointer (some ⟨gr,0,none⟩),.agg #[.int .i64 y.kind,.string ⟨y.s.toArray⟩,.int .i64 y.n,.slice y.A y.kids.length y.cap,.int .i64 (y.pos:Int)]] w1 (qp gr e1 y.t w1)):
  Calls Tryz.prog 58 #[.pointer (some ⟨gr,0,none⟩),.agg #[.int .i64 m.kind,.string ⟨m.s.toArray⟩,.int .i64 m.n,.slice m.A m.kids.length m.cap,.int .i64 (m.pos:Int)]] w (qp gr e m.t w):=by
 have fJ:Tryz.prog.follows .mixedOrders=true:=by kernel_rfl
 obtain⟨jF,kR,lK,hm1,hx2,qP⟩:=lC hq hf;obtain⟨b,off,k,c,eu⟩:=uD hL hq qP;have hgr:=hB.lt;have BO:=fun w1 (hE:Ev w w1)=>l7 m b0 w1 ((hL.ev hE).less fun k hk=>by cases hk);rw[hf]at BO;have yB:=zq (fun y (hy:y∈q)=>lD hq hy hfair hsz);have LH:=q_len hq hsz;have lu:=zq (fun w1 (hb:But [gr] w w1)=>eu.kid 0 x (by rw[hq];rfl) w1 hb);simp only[aud,atW,hs,hx2]at lu;rw[hs]at jF kR lK;unfold qp;obtain⟨PT,tK⟩:∃PT,PT=pPlan m.t:=⟨_,rfl⟩
 obtain⟨PE,uF⟩:∃PE,PE=aZ m.t:=⟨_,rfl⟩
 rw[←tK]at jF⊢;rw[←uF]at kR⊢;have hA:=eu.hA;have hn:=eu.hn;have hc:=eu.hc;have rH:=eu.rH;have hcm:=eu.hcm;have lQ:=eu.lQ;have nY:=zq eu;clear eu tK uF hq hL hfair hsz qP hf hx2;generalize zi:m.kids.length=kn at*;generalize uV:m.A=mA at*;generalize DC:m.cap=mc at*;generalize oQ:m.kind=kd at*;generalize hs_:m.s=ms at*;generalize uU:m.n=mn at*;generalize DD:m.pos=mp at*;clear zi uV DC oQ hs_ uU DD;subst hm1;subst hA;subst hn;subst hc;obtain⟨w0,hw0,aT,hX,hR,hs0⟩:=vH w (.int .i64 1) (.string ⟨ms.toArray⟩) (.int .i64 mn) (.slice (some ⟨b,off,none⟩) (k+2) (c+2)) (.int .i64 (mp:Int));have UX:=zq BO;have HX:=zq hX;have HR:=zq hR;have HE:=zq aT;have HB:=zq hB;have lS:=zq ih;have Xx:=nY.out.bgr;unfold bM at*;obtain⟨⟨c0,c1,c2,c3,c4⟩,_⟩:=hX.five;obtain⟨d0,d1,d2,d3,d4⟩:=lu.out _ (But.aS aT);clear hX hR aT hB BO ih hs;have BQ:(decide (2≤(q.map M.t).length)&&((q.map M.t).take ((q.map M.t).length - 1)).all dZ)=true:=lK;rw[atu,aun,atq,lQ,auG,←auw,auI,atL]at BQ;obtain⟨uQ,wV⟩:=BQ;have qx:Hid (PT=.mk 3 [] ((q.take k).map fun y=>pX y.t) ((q.take k).map fun y=>pW y.t) [] [] [] ((q.drop k).map fun y=>pPlan y.t)):=zq (by
  rw[jF];show Pl.mk 3 [] (((q.map M.t).take ((q.map M.t).length - 1)).map pX) (((q.map M.t).take ((q.map M.t).length - 1)).map pW) [] [] [] (((q.map M.t).map pPlan).drop ((q.map M.t).length - 1))=_;rw[atq,lQ,auG,←auw,atI,atI,atI,←auD];rfl)
 have uG:Hid (PE=aQ (((q.take k).flatMap fun y=>dS y.t)++(q.drop k).map fun y=>aZ y.t)):=zq (by
  rw[kR];show aQ (((q.map M.t).take ((q.map M.t).length - 1)).flatMap dS++((q.map M.t).map aZ).drop ((q.map M.t).length - 1))=_;rw[atq,lQ,auG,←auw,atI,←auD,List.flatMap_map];rfl)
 have Ti:=zq (fun w1 (hE:Ev w w1)=>UH gr e (q.take k) _ _ _ b0 w1 (HB.out.ev hE) ((nY.out.rest w1 (But.aS hE)).to k (by omega)) (nY.out.z_ w1 (But.aS hE) _) (by omega) (fun y hy=>wV y hy) (fun y hy=>nY.out.lies y (auK hy) w1 (But.aS hE)) (fun y hy=>(yB.out y (auK hy)).1) (fun y hy=>by have:=(yB.out y (auK hy)).2;omega));have qZ:=zq (fun e1 w1 (hb:But [gr] w w1) (hB1:Rb gr e1 w1)=>xg gr e1 (q.drop k) _ _ _ b0 w1 hB1 ((nY.out.rest w1 hb).drop (k:=k) (by omega)) (nY.out.z_ w1 hb _) (by omega) (fun y hy w2 e2 hb2 hB2=>lS.out y (List.mem_of_mem_drop hy) w2 e2 (hb.then hb2) hB2));unfold eU.v at Ti qZ;simp only[Nat.add_sub_cancel_left]at qZ;have i1:(0:Int)≤(k:Int):=by omega
 have i2:(k:Int)≤(c:Int)+1:=by omega
 have i3:(k:Int)≤(k:Int)+1:=by omega
 have i4:¬c+1=k:=by omega
 clear jF kR lK;go_enter Tryz.func58,Tryz.ntmps58
 go_wp2_with (first
  | ((with_reducible refine (UX.out _ HE.out).mono ?_);rintro r w1 ⟨rfl,aH⟩;have E1:=zq (HE.out.trans aH);clear c0 c1 c2 c3 c4 d0 d1 d2 d3 d4;obtain⟨⟨c0,c1,c2,c3,c4⟩,_⟩:=(HX.out.ev aH).five;obtain⟨d0,d1,d2,d3,d4⟩:=lu.out _ (But.aS E1.out))
  | ((with_reducible refine (Ti.out _ E1.out).mono ?_);rintro r w2 ⟨N,X,rfl,hNl,uZ,hNs,xy,hXx,jZ⟩;have Cb:=zq jZ;have iQ:=zq hNl;have pz:=zq uZ;have HNS:=zq hNs;have HXS:=zq xy;have HXX:=zq hXx;clear jZ hNl uZ hNs xy hXx)
  | ((with_reducible refine (qZ.out _ _ ((But.aS E1.out).then Cb.out.but) Cb.out.bx).mono ?_);rintro r w3 ⟨Y,rfl,hYl,hYs,hYq,ae0⟩;have Xy:=zq ae0;have HYL:=zq hYl;have HYS:=zq hYs;have HYQ:=zq hYq;obtain⟨⟨r0,r1,r2,r3,r4,r5,r6,r7⟩,s0,s1,s2,s3,s4,s5,s6,s7⟩:=((HR.out.ev aH).but (Cb.out.but.then ae0.but) (by simp;omega)).eight;clear ae0 hYl hYs hYq))
 have ahr:=Cb.out.but.size;have hg1:∀z∈[gr],z<w1.heap.size:=fun z hz=>by simp at hz;have:=aH.size;omega
 (try simp only[Exit.inBlock,Exit.then]);rw[bg];have LP:=(HR.out.ev aH).but (Cb.out.but.then Xy.out.but) (by simp;omega);refine bodyPost_ret (aP rfl _ _ _ _ _ rfl (LP.iw _ _ _ _ _ _ _ _) Tryz.underlying32 rfl Tryz.bJ) rfl ?_;obtain⟨f1,f2⟩:=Dz (e:=fB e PE) (base:=w1.heap.size) (⟨by rw[uG.out,←kZ];exact Xy.out.bx,(But.aS E1.out).then (Cb.out.but.then Xy.out.but)⟩) hgr (by have:=aH.size;omega) (Qx.mk (oM HXS.out Xy.out.but hg1) (fun z hz=>EM (HXX.out z hz) Xy.out.but hg1) (oM HNS.out Xy.out.but hg1) (aX.nil ..) (aX.nil ..) (aX.nil ..) (HYS.out.low ahr) (fun z hz=>(HYQ.out z hz).low ahr)) _ _ _ _ _ _ _ _;exact⟨.mk 3 [] X N .nil .nil .nil Y.A Y.cap Y.l,rfl,by rw[qx.out,PM.pY,←pz.out,←iQ.out,←HYL.out];rfl,f1,f2⟩
def PmB (g4 base:Nat) (PT:Pl) (u:World):Prop:=∃m:PM,Bx 32 g4 #[.int .i64 m.kind,.string ⟨m.name.toArray⟩,.slice m.ex.A m.ex.l.length m.ex.cap,.slice m.co.A m.co.l.length m.co.cap,.slice m.lf.A m.lf.l.length m.lf.cap,.slice m.rt.A m.rt.l.length m.rt.cap,.slice m.ag.A m.ag.l.length m.ag.cap,.slice m.A m.kids.length m.cap] u∧m.p=PT∧Qx base [] u m
def StF (gr g4 base:Nat) (es:List Er) (PT:Pl) (p:Nat) (u:World):Prop:=Rb gr (es.getD p (0,0)) u∧if p+1=es.length then PmB g4 base PT u else Bx 32 g4 #[.int .i64 0,.string ⟨#[]⟩,.slice none 0 0,.slice none 0 0,.slice none 0 0,.slice none 0 0,.slice none 0 0,.slice none 0 0] u
theorem StF.ev (gr g4 base:Nat) (es:List Er) (PT:Pl):∀p u u',Ev u u'→StF gr g4 base es PT p u→StF gr g4 base es PT p u':=fun p u u' hE h=>by refine⟨h.1.ev hE,?_⟩;have h2:=h.2;split at h2;rename_i hp;rw[if_pos hp];obtain⟨m,hB,hm,hQ⟩:=h2;exact⟨m,hB.ev hE,hm,hQ.ev hE⟩;rename_i hp;rw[if_neg hp];exact h2.ev hE
theorem uH {w w1 wq:World} {gr g4:Nat} (hE:Ev w w1) (h:But [gr,g4] w1 wq) (h4:w.heap.size≤g4):But [gr] w wq:=(But.aS hE).trans h fun y hy=>by simp at hy;rcases hy with rfl|rfl;exact .inl (by simp);exact .inr h4
theorem rZ {w w1:World} {gr g4:Nat} (h:But [gr] w w1):But [gr,g4] w w1:=h.wide fun y hy=>.inl (by simp at hy;simp[hy])
theorem Nz {w w1:World} {gr g4:Nat} (h:But [g4] w w1):But [gr,g4] w w1:=h.wide fun y hy=>.inl (by simp at hy;simp[hy])
theorem yC {gr g4 base:Nat} (h1:gr<base) (h2:g4<base):∀k∈[gr,g4],k<base:=fun k hk=>by simp at hk;rcases hk with rfl|rfl<;>assumption
theorem vM {gr g4 base:Nat} {es:List Er} {PT:Pl} {p:Nat} {E E':Er} {u u':World} (h:StF gr g4 base es PT p u) (hr:ig gr E' u u') (Wl:es.getD (p+1) (0,0)=E') (hp:p+2<es.length) (h4:g4≠gr):StF gr g4 base es PT (p+1) u':=by refine⟨by rw[Wl];exact hr.bx,?_⟩;have h2:=h.2;rw[if_neg (by omega)]at h2⊢;exact h2.but hr.but (by simp;exact h4)
theorem zN {b0 gr:Nat} {w:World} {y:M} (h:Lies b0 [gr] w y):Ms w y.A y.kids.length y.cap y.kids∧QI b0 [gr] w y.A:=by
 refine⟨h.ms,?_⟩;cases h with
 | mk h1 h2 h3=>exact h2
theorem JP {y:M} (h:y.t.size≤10000):y.kids.length≤100000:=by have h7:=T.size_eq y.t;have h8:=jA y.t.kids;rw[M.aY,atq]at h8;rw[M.aY]at h7;omega
theorem ayo {P:Prop} (h:P:=by refine aO fun a w c=>⟨(ay rfl),_,run_move _ rfl w,(c.was 5 rfl)⟩):P:=h
theorem axL {P:Prop} (h:P:=by have uf:a.eval (.const (.int .i64 0))=.int .i64 0:=rfl;generalize a.eval=ρ at bI uf⊢;simp[execOp,bI,uf,go_sem]):P:=h
theorem awm {P:Prop} (h:P:=by have MN:=uH E1.out c.inv (aub _);have hsz:=c.inv.size;refine (qZ.out _ wq MN st.1).mono ?_;rintro r wp ⟨X_,rfl,uZ,xy,hXq,jZ⟩;exact⟨_,rfl,rZ jZ.but,c.inv.then (rZ jZ.but),vM (E:=e) st jZ rfl (by simp) hg4,⟨X_,rfl,uZ,xy.low hsz,fun k_ zi=>(hXq k_ zi).low hsz⟩⟩):P:=h
theorem avx {P:Prop} (h:P:=by
 have e4:a.eval (.tmp 4)=.pointer (some ⟨w.heap.size+1,0,none⟩):=(c.was 4 rfl)
 have Ee:Bx 32 (w.heap.size+1) #[.int .i64 0,.string ⟨#[]⟩,.slice none 0 0,.slice none 0 0,.slice none 0 0,.slice none 0 0,.slice none 0 0,.slice none 0 0] wq:=st.2;obtain⟨⟨r0,r1,r2,r3,r4,r5,r6,r7⟩,s0,s1,s2,s3,s4,s5,s6,s7⟩:=Ee.eight;refine⟨ay rfl,iw (w.heap.size+1) (.int .i64 m_.kind) (.string ⟨m_.name.toArray⟩) (.slice m_.ex.A m_.ex.l.length m_.ex.cap) (.slice m_.co.A m_.co.l.length m_.co.cap) (.slice m_.lf.A m_.lf.l.length m_.lf.cap) (.slice m_.rt.A m_.rt.l.length m_.rt.cap) (.slice m_.ag.A m_.ag.l.length m_.ag.cap) (.slice m_.A m_.kids.length m_.cap) wq,?_,Nz (bQ _ _ _ _ _ _ _ _ _ _),c.inv.then (Nz (bQ _ _ _ _ _ _ _ _ _ _)),⟨st.1.but (bQ _ _ _ _ _ _ _ _ _ _) (by simp;omega),⟨m_,Ee.iw _ _ _ _ _ _ _ _,Xq,kL hq_ (bQ _ _ _ _ _ _ _ _ _ _) (fun y hy=>by simp at hy;omega)⟩⟩,trivial⟩;generalize a.eval=ρ at em_ e4⊢;simp[execOp,em_,e4,go_sem,r0,r1,r2,r3,r4,r5,r6,r7,s0,s1,s2,s3,s4,s5,s6,s7,iw,jO,jM]):P:=h
theorem Mc (m:M) (gr:Nat) (e:Er) (b0:Nat) (w:World) (hB:Rb gr e w) (hL:Lies b0 [gr] w m) (hfair:m.t.every bZ=true) (hsz:m.t.size≤10000) (hf:fG m.t=true) (x:M) (q:List M) (hq:m.kids=x::q) (hs:x.s=dL)
  (ih:∀y∈q,∀w1 e1,But [gr] w w1→Rb gr e1 w1→Calls Tryz.prog 58 #[.pointer (some ⟨gr,0,none⟩),.agg #[.int .i64 y.kind,.string ⟨y.s.toArray⟩,.int .i64 y.n,.slice y.A y.kids.length y.cap,.int .i64 (y.pos:Int)]] w1 (qp gr e1 y.t w1)):
  Calls Tryz.prog 58 #[.pointer (some ⟨gr,0,none⟩),.agg #[.int .i64 m.kind,.string ⟨m.s.toArray⟩,.int .i64 m.n,.slice m.A m.kids.length m.cap,.int .i64 (m.pos:Int)]] w (qp gr e m.t w):=by
 have fJ:Tryz.prog.follows .mixedOrders=true:=by kernel_rfl
 obtain⟨jF,kR,lK,hm1,hx2,qP⟩:=lC hq hf;obtain⟨b,off,k,c,eu⟩:=uD hL hq qP;have hgr:=hB.lt;have BO:=fun w1 (hE:Ev w w1)=>l7 m b0 w1 ((hL.ev hE).less fun k hk=>by cases hk);rw[hf]at BO;have yB:=zq (fun y (hy:y∈q)=>lD hq hy hfair hsz);have LH:=q_len hq hsz;have lu:=zq (fun w1 (hb:But [gr] w w1)=>eu.kid 0 x (by rw[hq];rfl) w1 hb);have Aa:=zq (fun i y (hy:q[i]?=some y) w1 (hb:But [gr] w w1)=>eu.kid (i+1) y (by rw[hq];simpa using hy) w1 hb);simp only[aud,atW,hs,hx2]at lu;rw[hs]at jF kR lK;unfold qp;obtain⟨PT,tK⟩:∃PT,PT=pPlan m.t:=⟨_,rfl⟩
 obtain⟨PE,uF⟩:∃PE,PE=aZ m.t:=⟨_,rfl⟩
 rw[←tK]at jF⊢;rw[←uF]at kR⊢;have hA:=eu.hA;have hn:=eu.hn;have hc:=eu.hc;have rH:=eu.rH;have hcm:=eu.hcm;have lQ:=eu.lQ;have nY:=zq eu;clear eu tK uF hq hL hfair hsz qP hf hx2;generalize zi:m.kids.length=kn at*;generalize uV:m.A=mA at*;generalize DC:m.cap=mc at*;generalize oQ:m.kind=kd at*;generalize hs_:m.s=ms at*;generalize uU:m.n=mn at*;generalize DD:m.pos=mp at*;clear zi uV DC oQ hs_ uU DD;subst hm1;subst hA;subst hn;subst hc;obtain⟨w0,hw0,aT,hX,hR,hs0⟩:=vH w (.int .i64 1) (.string ⟨ms.toArray⟩) (.int .i64 mn) (.slice (some ⟨b,off,none⟩) (k+2) (c+2)) (.int .i64 (mp:Int));have UX:=zq BO;have HX:=zq hX;have HR:=zq hR;have HE:=zq aT;have HB:=zq hB;have lS:=zq ih;have Xx:=nY.out.bgr;unfold dL at*;obtain⟨⟨c0,c1,c2,c3,c4⟩,_⟩:=hX.five;obtain⟨d0,d1,d2,d3,d4⟩:=lu.out _ (But.aS aT);clear hX hR aT hB BO ih hs;have hk2:q.length=2:=by exact ayq
 obtain rfl:k=1:=by omega
 obtain⟨y,z,rfl⟩:=vG hk2;obtain⟨o8,rfl⟩:∃c1,c=c1+1:=⟨c - 1,by omega⟩
 have qx:Hid (PT=.mk 2 [] [(xRead y.t).1] [] [] [] [] [pPlan z.t]):=zq jF;have uG:Hid (PE=aQ [jC y.t,aZ z.t]):=zq kR;have hRE:=fun e1 w1 hB1 hL1=>AB gr e1 y b0 w1 hB1 hL1 (yB.out y (by simp)).1 (by have:=(yB.out y (by simp)).2;omega);unfold zA M.kv at hRE;have HRE:=zq hRE;have vN:=fun e1 w1 (hb:But [gr] w w1) (hB1:Rb gr e1 w1)=>xg gr e1 [z] _ _ _ b0 w1 hB1 (Ms.rest (nY.out.rest w1 hb)) (nY.out.z_ w1 hb _) (by omega) (fun v hv w2 e2 hb2 hB2=>lS.out v (by simp at hv;subst hv;simp) w2 e2 (hb.then hb2) hB2);unfold eU.v at vN;have qZ:=zq vN;have hKY:=Aa.out 0 y rfl;simp only[atT,auE]at hKY;have KY:=zq hKY;clear jF kR lK hRE vN hKY;go_enter Tryz.func58,Tryz.ntmps58;go_upto_region 11 with (first
  | ((with_reducible refine (UX.out _ HE.out).mono ?_);rintro r w1 ⟨rfl,aH⟩;have E1:=zq (HE.out.trans aH);clear c0 c1 c2 c3 c4 d0 d1 d2 d3 d4;obtain⟨⟨c0,c1,c2,c3,c4⟩,_⟩:=(HX.out.ev aH).five;obtain⟨d0,d1,d2,d3,d4⟩:=lu.out _ (But.aS E1.out)))
 clear c0 c1 c2 c3 c4 d0 d1 d2 d3 d4;have hw1:=E1.out.size;have Xp:=aH.size;have hg4:w.heap.size+1≠gr:=by omega
 refine iW fJ (fun u=>But [gr,w.heap.size+1] w1 u) (But [gr,w.heap.size+1]) [4,9,11] (StF gr (w.heap.size+1) w1.heap.size [e,fB e (jC y.t),fB (fB e (jC y.t)) (aQ [aZ z.t]),fB (fB e (jC y.t)) (aQ [aZ z.t])] (.mk 2 [] [(xRead y.t).1] [] [] [] [] [pPlan z.t])) [fun v _=>v=.pointer (some ⟨gr,0,none⟩),fun v _=>v=.slice (some ⟨b,off+5,none⟩) (2) (o8+2),fun v _=>v=.pointer (some ⟨b,off+5,none⟩),fun v _=>v=.agg #[.int .i64 y.kind,.string ⟨y.s.toArray⟩,.int .i64 y.n,.slice y.A y.kids.length y.cap,.int .i64 (y.pos:Int)],ExF w1.heap.size (xRead y.t).1,XsF w1.heap.size [(xRead y.t).1],fun v _=>v=.pointer (some ⟨gr,0,none⟩),fun v _=>v=.slice (some ⟨b,off+5,none⟩) (2) (o8+2),fun v _=>v=.slice (some ⟨b,off+10,none⟩) 1 (o8+1),PY w1.heap.size [pPlan z.t],PZ w1.heap.size (.mk 2 [] [(xRead y.t).1] [] [] [] [] [pPlan z.t]),fun _ _=>True]
  115 3 rfl (by kernel_rfl) ⟨az _,az _,az _,az _,ExF.mono _ _,XsF.mono _ _,az _,az _,az _,PY.mono _ _,PZ.mono _ _,eG,trivial⟩ ⟨fun _ _ _ _ h=>h,fun _ _ _ _ h=>h,fun _ _ _ _ h=>h,fun _ _ _ _ h=>h,ExF.old (yC (by omega) (by omega)),XsF.old (yC (by omega) (by omega)),fun _ _ _ _ h=>h,fun _ _ _ _ h=>h,fun _ _ _ _ h=>h,PY.old (yC (by omega) (by omega)),PZ.old (yC (by omega) (by omega)),fun _ _ _ _ h=>h,trivial⟩ (by kernel_rfl) (StF.ev _ _ _ _ _) (fun u u' hE h=>h.then (But.aS hE)) (But.refl _ _) (⟨HB.out.ev E1.out,HR.out.ev aH⟩) (by kernel_rfl) ?_ ?_ ?_
 ·refine aI 0 ?_ (aI 1 ?_ (aI 2 ?_ (aI 3 ?_ (cu 4 (by decide) (aI 5 ?_ (aI 6 ?_ (aI 7 ?_ (aI 8 ?_ (cu 9 (by decide) (aI 10 ?_ (cu 11 (by decide) (oL 12))))))))))));exact ayn;exact ayo;refine aO fun a wq c=>⟨(ay rfl),.pointer (some ⟨b,off+5,none⟩),?_,rfl⟩
  have bI:a.eval (.tmp 56)=.slice (some ⟨b,off+5,none⟩) (2) (o8+2):=(c.new 1 56)
  exact axL
  ·refine aO fun a wq c=>⟨(ay rfl),.agg #[.int .i64 y.kind,.string ⟨y.s.toArray⟩,.int .i64 y.n,.slice y.A y.kids.length y.cap,.int .i64 (y.pos:Int)],?_,rfl⟩
   have bI:a.eval (.tmp 57)=.pointer (some ⟨b,off+5,none⟩):=(c.new 2 57)
   obtain⟨q0,q1,q2,q3,q4⟩:=KY.out wq (uH E1.out c.inv (aub _));generalize a.eval=ρ at bI⊢;simp[execOp,bI,q0,q1,q2,q3,q4,go_sem]
  ·refine Nk fun a wq c=>?_;obtain⟨x_,ex_,jg,iq⟩:=(c.got 4 59 (by kernel_rfl) (by kernel_rfl) rfl:ExF _ _ _ _)
   refine⟨(ay rfl),.slice (some ⟨wq.heap.size,0,none⟩) 1 1,wq.alloc (.cells #[.int .i64 x_.kind,.string ⟨x_.s.toArray⟩,.int .i64 x_.n,.slice x_.A x_.kids.length x_.cap] 47),?_,Ev.alloc _ _,c.inv.then (But.aS (Ev.alloc _ _)),⟨⟨some ⟨wq.heap.size,0,none⟩,1,[x_]⟩,rfl,by simp[jg],⟨Sl.one (et:=47) wM wq x_ _ rfl,fun ad ea=>by cases ea;exact⟨c.inv.size,by simp,by simp⟩⟩,fun z hz=>by simp at hz;subst hz;exact iq.ev (Ev.alloc _ _)⟩⟩;generalize a.eval=ρ at ex_⊢;simp[execOp,ex_,go_sem]
  exact ayn;exact ayo
  ·refine aO fun a wq c=>⟨(ay rfl),.slice (some ⟨b,off+10,none⟩) 1 (o8+1),?_,rfl⟩
   have bI:a.eval (.tmp 62)=.slice (some ⟨b,off+5,none⟩) (2) (o8+2):=(c.new 7 62)
   have kc1:a.eval (.const (.int .i64 1))=.int .i64 1:=rfl;generalize a.eval=ρ at bI kc1⊢;simp[execOp,bI,kc1,go_sem]
  refine aO fun a wq c=>?_;obtain⟨X_,eX_,uZ,xy,hXx⟩:=(c.got 5 60 (by kernel_rfl) (by kernel_rfl) rfl:XsF _ _ _ _)
  obtain⟨Y_,eY_,hYl,hYs,hYq⟩:=(c.got 9 64 (by kernel_rfl) (by kernel_rfl) rfl:PY _ _ _ _)
  refine⟨(ay rfl),_,?_,⟨.mk 2 [] X_ .nil .nil .nil .nil Y_.A Y_.cap Y_.l,rfl,by rw[PM.pY,←uZ,←hYl];rfl,.mk xy hXx (aX.nil ..) (aX.nil ..) (aX.nil ..) (aX.nil ..) hYs hYq⟩⟩;have uf:a.eval (.const (.int .i64 2))=.int .i64 2:=rfl;generalize a.eval=ρ at eX_ eY_ uf⊢;simp[execOp,eX_,eY_,uf,go_sem,PM.kind,PM.name,PM.ex,PM.co,PM.lf,PM.rt,PM.ag,PM.A,PM.cap,PM.kids,eU.nil]
 refine gy 0 rfl ?_ (gy 1 rfl ?_ (gy 2 rfl ?_ (qM 3)));refine l9 fun a wq c st=>⟨ay rfl,114,#[.pointer (some ⟨gr,0,none⟩),.agg #[.int .i64 y.kind,.string ⟨y.s.toArray⟩,.int .i64 y.n,.slice y.A y.kids.length y.cap,.int .i64 (y.pos:Int)]],?_,?_⟩
 rw[bP 114 _ _ rfl (by kernel_rfl)];have bI:a.eval (.tmp 55)=.pointer (some ⟨gr,0,none⟩):=(c.new 0 55)
 have nz:a.eval (.tmp 58)=.agg #[.int .i64 y.kind,.string ⟨y.s.toArray⟩,.int .i64 y.n,.slice y.A y.kids.length y.cap,.int .i64 (y.pos:Int)]:=(c.new 3 58)
 simp[bI,nz];have MN:=uH E1.out c.inv (aub _);have hsz:=c.inv.size;refine (HRE.out e wq st.1 (nY.out.lies y (by simp) wq MN)).mono ?_;rintro r wp ⟨x_,rfl,jg,iq,jZ⟩;exact⟨_,rfl,rZ jZ.but,c.inv.then (rZ jZ.but),vM (E:=e) st jZ rfl (by simp) hg4,⟨x_,rfl,jg,iq.low hsz⟩⟩;refine l9 fun a wq c st=>⟨ay rfl,115,#[.pointer (some ⟨gr,0,none⟩),.slice (some ⟨b,off+10,none⟩) 1 (o8+1)],?_,?_⟩
 rw[bP 115 _ _ rfl (by kernel_rfl)];have bI:a.eval (.tmp 61)=.pointer (some ⟨gr,0,none⟩):=(c.new 6 61)
 have nz:a.eval (.tmp 63)=.slice (some ⟨b,off+10,none⟩) 1 (o8+1):=(c.new 8 63)
 simp[bI,nz];exact awm;refine tJ rfl fun a wq c st=>?_;obtain⟨m_,em_,Xq,hq_⟩:=(c.got 10 65 (by kernel_rfl) (by kernel_rfl) rfl:PZ _ _ _ _)
 exact avx;intro sl w9 hI hold hnew hst;have f0:sl 0=.pointer (some ⟨gr,0,none⟩):=hold 0;have f4:sl 4=.pointer (some ⟨w.heap.size+1,0,none⟩):=hold 4;have f5:sl 5=.slice (some ⟨b,off+5,none⟩) (2) (o8+2):=hold 5;change Exit.then _ _ .normal ⟨_,_⟩ _;simp only[List.range,List.range.loop,List.map];simp only[f0,f4,f5];clear hold hnew;obtain⟨hrb,m_,Ee,Xq,hq_⟩:=(⟨hst.1,hst.2⟩:_∧PmB _ _ _ _)
 go_wp2;(try simp only[Exit.inBlock,Exit.then]);refine bodyPost_ret (aP rfl _ _ _ _ _ rfl Ee Tryz.underlying32 rfl Tryz.bJ) rfl ?_;exact⟨m_,rfl,by rw[Xq];exact qx.out.symm,hq_.low (by have:=E1.out.size;omega),⟨by rw[uG.out,←Uh];exact hrb,uH E1.out hI (aub _)⟩⟩
theorem axP {P:Prop} (h:P:=by have hc:=(KY1.out wq (uH E1.out c.inv (aub _))).2.2.2.1;generalize a.eval=ρ at bI⊢;simp[execOp,bI,hc,go_sem]):P:=h
theorem axf {P:Prop} (h:P:=by rintro r wp ⟨X_,rfl,uZ,xy,jZ⟩;exact⟨_,rfl,rZ jZ.but,c.inv.then (rZ jZ.but),vM (E:=e) st jZ rfl (by simp) hg4,⟨X_,rfl,uZ,xy.low hsz⟩⟩):P:=h
theorem avZ {P:Prop} (h:P:=by have MN:=uH E1.out c.inv (aub _);have hsz:=c.inv.size;refine (Jf gr _ l1.kids _ _ _ b0 wq st.1 (zN (nY.out.lies l1 (by simp) wq MN)).1 (zN (nY.out.lies l1 (by simp) wq MN)).2 (JP (yB.out l1 (by simp)).2)).mono ?_;exact axf):P:=h
theorem Ru (m:M) (gr:Nat) (e:Er) (b0:Nat) (w:World) (hB:Rb gr e w) (hL:Lies b0 [gr] w m) (hfair:m.t.every bZ=true) (hsz:m.t.size≤10000) (hf:fG m.t=true) (x:M) (q:List M) (hq:m.kids=x::q) (hs:x.s=gU)
  (ih:∀y∈q,∀w1 e1,But [gr] w w1→Rb gr e1 w1→Calls Tryz.prog 58 #[.pointer (some ⟨gr,0,none⟩),.agg #[.int .i64 y.kind,.string ⟨y.s.toArray⟩,.int .i64 y.n,.slice y.A y.kids.length y.cap,.int .i64 (y.pos:Int)]] w1 (qp gr e1 y.t w1)):
  Calls Tryz.prog 58 #[.pointer (some ⟨gr,0,none⟩),.agg #[.int .i64 m.kind,.string ⟨m.s.toArray⟩,.int .i64 m.n,.slice m.A m.kids.length m.cap,.int .i64 (m.pos:Int)]] w (qp gr e m.t w):=by
 have fJ:Tryz.prog.follows .mixedOrders=true:=by kernel_rfl
 obtain⟨jF,kR,lK,hm1,hx2,qP⟩:=lC hq hf;obtain⟨b,off,k,c,eu⟩:=uD hL hq qP;have hgr:=hB.lt;have BO:=fun w1 (hE:Ev w w1)=>l7 m b0 w1 ((hL.ev hE).less fun k hk=>by cases hk);rw[hf]at BO;have yB:=zq (fun y (hy:y∈q)=>lD hq hy hfair hsz);have LH:=q_len hq hsz;have lu:=zq (fun w1 (hb:But [gr] w w1)=>eu.kid 0 x (by rw[hq];rfl) w1 hb);have Aa:=zq (fun i y (hy:q[i]?=some y) w1 (hb:But [gr] w w1)=>eu.kid (i+1) y (by rw[hq];simpa using hy) w1 hb);simp only[aud,atW,hs,hx2]at lu;rw[hs]at jF kR lK;unfold qp;obtain⟨PT,tK⟩:∃PT,PT=pPlan m.t:=⟨_,rfl⟩
 obtain⟨PE,uF⟩:∃PE,PE=aZ m.t:=⟨_,rfl⟩
 rw[←tK]at jF⊢;rw[←uF]at kR⊢;have hA:=eu.hA;have hn:=eu.hn;have hc:=eu.hc;have rH:=eu.rH;have hcm:=eu.hcm;have lQ:=eu.lQ;have nY:=zq eu;clear eu tK uF hq hL hfair hsz qP hf hx2;generalize zi:m.kids.length=kn at*;generalize uV:m.A=mA at*;generalize DC:m.cap=mc at*;generalize oQ:m.kind=kd at*;generalize hs_:m.s=ms at*;generalize uU:m.n=mn at*;generalize DD:m.pos=mp at*;clear zi uV DC oQ hs_ uU DD;subst hm1;subst hA;subst hn;subst hc;obtain⟨w0,hw0,aT,hX,hR,hs0⟩:=vH w (.int .i64 1) (.string ⟨ms.toArray⟩) (.int .i64 mn) (.slice (some ⟨b,off,none⟩) (k+2) (c+2)) (.int .i64 (mp:Int));have UX:=zq BO;have HX:=zq hX;have HR:=zq hR;have HE:=zq aT;have HB:=zq hB;have lS:=zq ih;have Xx:=nY.out.bgr;unfold gU at*;obtain⟨⟨c0,c1,c2,c3,c4⟩,_⟩:=hX.five;obtain⟨d0,d1,d2,d3,d4⟩:=lu.out _ (But.aS aT);clear hX hR aT hB BO ih hs;have BQ:((q.map M.t).length==4&&((q.map M.t).take 2).all dC)=true:=lK;rw[atu,atH,atq]at BQ;obtain⟨l1,l2,y1,y2,rfl⟩:∃l1 l2 y1 y2,q=[l1,l2,y1,y2]:=by
  match q,BQ.1 with
  | [a,b,c,d],_=>exact⟨a,b,c,d,rfl⟩
 obtain rfl:k=3:=by simpa using lQ
 obtain⟨o8,rfl⟩:∃c1,c=c1+2:=⟨c - 2,by omega⟩
 have qx:Hid (PT=.mk 4 [] [] [] (l1.kids.map M.s) (l2.kids.map M.s) [] [pPlan y1.t,pPlan y2.t]):=zq (by rw[jF];show Pl.mk 4 [] [] [] (l1.t.kids.map T.s) (l2.t.kids.map T.s) [] [pPlan y1.t,pPlan y2.t]=_;rw[M.aY,M.aY,atI,atI,funext M.tu |> fun h=>(show (T.s ∘ M.t)=M.s from h)]);have uG:Hid (PE=aQ ((l1.kids.map fun v=>bn v.t)++((l2.kids.map fun v=>bn v.t)++[aZ y1.t,aZ y2.t]))):=zq (by rw[kR];show aQ (l1.t.kids.map bn++(l2.t.kids.map bn++[aZ y1.t,aZ y2.t]))=_;rw[M.aY,M.aY,atI,atI];rfl);have vN:=fun e1 w1 (hb:But [gr] w w1) (hB1:Rb gr e1 w1)=>xg gr e1 [y1,y2] _ _ _ b0 w1 hB1 (Ms.rest (Ms.rest (nY.out.rest w1 hb))) (nY.out.z_ w1 hb _) (by omega) (fun v hv w2 e2 hb2 hB2=>lS.out v (by simp at hv;rcases hv with rfl|rfl<;>simp) w2 e2 (hb.then hb2) hB2);unfold eU.v at vN;have qZ:=zq vN;have hK1:=Aa.out 0 l1 rfl;have hK2:=Aa.out 1 l2 rfl;simp only[atT,auE,show (1+1)*5=10 from rfl]at hK1 hK2;have KY1:=zq hK1;have KY2:=zq hK2;clear jF kR lK BQ vN hK1 hK2;go_enter Tryz.func58,Tryz.ntmps58;go_upto_region 16 with (first
  | ((with_reducible refine (UX.out _ HE.out).mono ?_);rintro r w1 ⟨rfl,aH⟩;have E1:=zq (HE.out.trans aH);clear c0 c1 c2 c3 c4 d0 d1 d2 d3 d4;obtain⟨⟨c0,c1,c2,c3,c4⟩,_⟩:=(HX.out.ev aH).five;obtain⟨d0,d1,d2,d3,d4⟩:=lu.out _ (But.aS E1.out)))
 clear c0 c1 c2 c3 c4 d0 d1 d2 d3 d4;have hw1:=E1.out.size;have Xp:=aH.size;have hg4:w.heap.size+1≠gr:=by omega
 refine iW fJ (fun u=>But [gr,w.heap.size+1] w1 u) (But [gr,w.heap.size+1]) [5,11,15,17] (StF gr (w.heap.size+1) w1.heap.size [e,fB e (aQ (l1.kids.map fun v=>bn v.t)),fB (fB e (aQ (l1.kids.map fun v=>bn v.t))) (aQ (l2.kids.map fun v=>bn v.t)),fB (fB (fB e (aQ (l1.kids.map fun v=>bn v.t))) (aQ (l2.kids.map fun v=>bn v.t))) (aQ [aZ y1.t,aZ y2.t]),fB (fB (fB e (aQ (l1.kids.map fun v=>bn v.t))) (aQ (l2.kids.map fun v=>bn v.t))) (aQ [aZ y1.t,aZ y2.t])] (.mk 4 [] [] [] (l1.kids.map M.s) (l2.kids.map M.s) [] [pPlan y1.t,pPlan y2.t])) [fun v _=>v=.pointer (some ⟨gr,0,none⟩),fun v _=>v=.slice (some ⟨b,off+5,none⟩) (4) (o8+3),fun v _=>v=.pointer (some ⟨b,off+5,none⟩),fun v _=>v=.pointer (some ⟨b,off+5+3,none⟩),fun v _=>v=.slice l1.A l1.kids.length l1.cap,PW w1.heap.size (l1.kids.map M.s),fun v _=>v=.pointer (some ⟨gr,0,none⟩),fun v _=>v=.slice (some ⟨b,off+5,none⟩) (4) (o8+3),fun v _=>v=.pointer (some ⟨b,off+10,none⟩),fun v _=>v=.pointer (some ⟨b,off+10+3,none⟩),fun v _=>v=.slice l2.A l2.kids.length l2.cap,PW w1.heap.size (l2.kids.map M.s),fun v _=>v=.pointer (some ⟨gr,0,none⟩),fun v _=>v=.slice (some ⟨b,off+5,none⟩) (4) (o8+3),fun v _=>v=.slice (some ⟨b,off+15,none⟩) 2 (o8+1),PY w1.heap.size [pPlan y1.t,pPlan y2.t],PZ w1.heap.size (.mk 4 [] [] [] (l1.kids.map M.s) (l2.kids.map M.s) [] [pPlan y1.t,pPlan y2.t]),fun _ _=>True]
  115 4 rfl (by kernel_rfl) ⟨az _,az _,az _,az _,az _,PW.mono _ _,az _,az _,az _,az _,az _,PW.mono _ _,az _,az _,az _,PY.mono _ _,PZ.mono _ _,eG,trivial⟩ ⟨fun _ _ _ _ h=>h,fun _ _ _ _ h=>h,fun _ _ _ _ h=>h,fun _ _ _ _ h=>h,fun _ _ _ _ h=>h,PW.old (yC (by omega) (by omega)),fun _ _ _ _ h=>h,fun _ _ _ _ h=>h,fun _ _ _ _ h=>h,fun _ _ _ _ h=>h,fun _ _ _ _ h=>h,PW.old (yC (by omega) (by omega)),fun _ _ _ _ h=>h,fun _ _ _ _ h=>h,fun _ _ _ _ h=>h,PY.old (yC (by omega) (by omega)),PZ.old (yC (by omega) (by omega)),fun _ _ _ _ h=>h,trivial⟩ (by kernel_rfl) (StF.ev _ _ _ _ _) (fun u u' hE h=>h.then (But.aS hE)) (But.refl _ _) (⟨HB.out.ev E1.out,HR.out.ev aH⟩) (by kernel_rfl) ?_ ?_ ?_
 ·refine aI 0 ?_ (aI 1 ?_ (aI 2 ?_ (aI 3 ?_ (aI 4 ?_ (cu 5 (by decide) (aI 6 ?_ (aI 7 ?_ (aI 8 ?_ (aI 9 ?_ (aI 10 ?_ (cu 11 (by decide) (aI 12 ?_ (aI 13 ?_ (aI 14 ?_ (cu 15 (by decide) (aI 16 ?_ (cu 17 (by decide) (oL 18))))))))))))))))));exact ayn;exact ayo;refine aO fun a wq c=>⟨(ay rfl),.pointer (some ⟨b,off+5,none⟩),?_,rfl⟩
  have bI:a.eval (.tmp 87)=.slice (some ⟨b,off+5,none⟩) (4) (o8+3):=(c.new 1 87)
  exact axL
  ·refine aO fun a wq c=>⟨(ay rfl),.pointer (some ⟨b,off+5+3,none⟩),?_,rfl⟩
   have bI:a.eval (.tmp 88)=.pointer (some ⟨b,off+5,none⟩):=(c.new 2 88)
   generalize a.eval=ρ at bI⊢;simp[execOp,bI,go_sem]
  refine aO fun a wq c=>⟨(ay rfl),.slice l1.A l1.kids.length l1.cap,?_,rfl⟩
  have bI:a.eval (.tmp 89)=.pointer (some ⟨b,off+5+3,none⟩):=(c.new 3 89)
  exact axP;exact ayn;exact ayo
  ·refine aO fun a wq c=>⟨(ay rfl),.pointer (some ⟨b,off+10,none⟩),?_,rfl⟩
   have bI:a.eval (.tmp 93)=.slice (some ⟨b,off+5,none⟩) (4) (o8+3):=(c.new 7 93)
   have uf:a.eval (.const (.int .i64 1))=.int .i64 1:=rfl;generalize a.eval=ρ at bI uf⊢;simp[execOp,bI,uf,go_sem]
  ·refine aO fun a wq c=>⟨(ay rfl),.pointer (some ⟨b,off+10+3,none⟩),?_,rfl⟩
   have bI:a.eval (.tmp 94)=.pointer (some ⟨b,off+10,none⟩):=(c.new 8 94)
   generalize a.eval=ρ at bI⊢;simp[execOp,bI,go_sem]
  ·refine aO fun a wq c=>⟨(ay rfl),.slice l2.A l2.kids.length l2.cap,?_,rfl⟩
   have bI:a.eval (.tmp 95)=.pointer (some ⟨b,off+10+3,none⟩):=(c.new 9 95)
   have hc:=(KY2.out wq (uH E1.out c.inv (aub _))).2.2.2.1;generalize a.eval=ρ at bI⊢;simp[execOp,bI,hc,go_sem]
  exact ayn;exact ayo
  ·refine aO fun a wq c=>⟨(ay rfl),.slice (some ⟨b,off+15,none⟩) 2 (o8+1),?_,rfl⟩
   have bI:a.eval (.tmp 99)=.slice (some ⟨b,off+5,none⟩) (4) (o8+3):=(c.new 13 99)
   have kc2:a.eval (.const (.int .i64 2))=.int .i64 2:=rfl;generalize a.eval=ρ at bI kc2⊢;simp[execOp,bI,kc2,go_sem]
  refine aO fun a wq c=>?_;obtain⟨N1_,aah,h1l,h1s⟩:=(c.got 5 91 (by kernel_rfl) (by kernel_rfl) rfl:PW _ _ _ _)
  obtain⟨N2_,aht,h2l,h2s⟩:=(c.got 11 97 (by kernel_rfl) (by kernel_rfl) rfl:PW _ _ _ _)
  obtain⟨Y_,eY_,hYl,hYs,hYq⟩:=(c.got 15 101 (by kernel_rfl) (by kernel_rfl) rfl:PY _ _ _ _)
  refine⟨(ay rfl),_,?_,⟨.mk 4 [] .nil .nil N1_ N2_ .nil Y_.A Y_.cap Y_.l,rfl,by rw[PM.pY,←h1l,←h2l,←hYl];rfl,.mk (aX.nil ..) (fun _ h=>by cases h) (aX.nil ..) h1s h2s (aX.nil ..) hYs hYq⟩⟩;have uf:a.eval (.const (.int .i64 4))=.int .i64 4:=rfl;generalize a.eval=ρ at aah aht eY_ uf⊢;simp[execOp,aah,aht,eY_,uf,go_sem,PM.kind,PM.name,PM.ex,PM.co,PM.lf,PM.rt,PM.ag,PM.A,PM.cap,PM.kids,eU.nil]
 refine gy 0 rfl ?_ (gy 1 rfl ?_ (gy 2 rfl ?_ (gy 3 rfl ?_ (qM 4))));refine l9 fun a wq c st=>⟨ay rfl,117,#[.pointer (some ⟨gr,0,none⟩),.slice l1.A l1.kids.length l1.cap],?_,?_⟩
 rw[bP 117 _ _ rfl (by kernel_rfl)];have bI:a.eval (.tmp 86)=.pointer (some ⟨gr,0,none⟩):=(c.new 0 86)
 have nz:a.eval (.tmp 90)=.slice l1.A l1.kids.length l1.cap:=(c.new 4 90)
 simp[bI,nz];exact avZ;refine l9 fun a wq c st=>⟨ay rfl,117,#[.pointer (some ⟨gr,0,none⟩),.slice l2.A l2.kids.length l2.cap],?_,?_⟩
 rw[bP 117 _ _ rfl (by kernel_rfl)];have bI:a.eval (.tmp 92)=.pointer (some ⟨gr,0,none⟩):=(c.new 6 92)
 have nz:a.eval (.tmp 96)=.slice l2.A l2.kids.length l2.cap:=(c.new 10 96)
 simp[bI,nz];have MN:=uH E1.out c.inv (aub _);have hsz:=c.inv.size;refine (Jf gr _ l2.kids _ _ _ b0 wq st.1 (zN (nY.out.lies l2 (by simp) wq MN)).1 (zN (nY.out.lies l2 (by simp) wq MN)).2 (JP (yB.out l2 (by simp)).2)).mono ?_;exact axf;refine l9 fun a wq c st=>⟨ay rfl,115,#[.pointer (some ⟨gr,0,none⟩),.slice (some ⟨b,off+15,none⟩) 2 (o8+1)],?_,?_⟩
 rw[bP 115 _ _ rfl (by kernel_rfl)];have bI:a.eval (.tmp 98)=.pointer (some ⟨gr,0,none⟩):=(c.new 12 98)
 have nz:a.eval (.tmp 100)=.slice (some ⟨b,off+15,none⟩) 2 (o8+1):=(c.new 14 100)
 simp[bI,nz];exact awm;refine tJ rfl fun a wq c st=>?_;obtain⟨m_,em_,Xq,hq_⟩:=(c.got 16 102 (by kernel_rfl) (by kernel_rfl) rfl:PZ _ _ _ _)
 exact avx;intro sl w9 hI hold hnew hst;have f0:sl 0=.pointer (some ⟨gr,0,none⟩):=hold 0;have f4:sl 4=.pointer (some ⟨w.heap.size+1,0,none⟩):=hold 4;have f5:sl 5=.slice (some ⟨b,off+5,none⟩) (4) (o8+3):=hold 5;change Exit.then _ _ .normal ⟨_,_⟩ _;simp only[List.range,List.range.loop,List.map];simp only[f0,f4,f5];clear hold hnew;obtain⟨hrb,m_,Ee,Xq,hq_⟩:=(⟨hst.1,hst.2⟩:_∧PmB _ _ _ _)
 go_wp2;(try simp only[Exit.inBlock,Exit.then]);refine bodyPost_ret (aP rfl _ _ _ _ _ rfl Ee Tryz.underlying32 rfl Tryz.bJ) rfl ?_;exact⟨m_,rfl,by rw[Xq];exact qx.out.symm,hq_.low (by have:=E1.out.size;omega),⟨by rw[uG.out,←kZ,←kZ];exact hrb,uH E1.out hI (aub _)⟩⟩
theorem O3 (m:M) (gr:Nat) (e:Er) (b0:Nat) (w:World) (hB:Rb gr e w) (hL:Lies b0 [gr] w m) (hfair:m.t.every bZ=true) (hsz:m.t.size≤10000) (hf:fG m.t=true) (x:M) (q:List M) (hq:m.kids=x::q) (hs:x.s=dY)
  (ih:∀y∈q,∀w1 e1,But [gr] w w1→Rb gr e1 w1→Calls Tryz.prog 58 #[.pointer (some ⟨gr,0,none⟩),.agg #[.int .i64 y.kind,.string ⟨y.s.toArray⟩,.int .i64 y.n,.slice y.A y.kids.length y.cap,.int .i64 (y.pos:Int)]] w1 (qp gr e1 y.t w1)):
  Calls Tryz.prog 58 #[.pointer (some ⟨gr,0,none⟩),.agg #[.int .i64 m.kind,.string ⟨m.s.toArray⟩,.int .i64 m.n,.slice m.A m.kids.length m.cap,.int .i64 (m.pos:Int)]] w (qp gr e m.t w):=by
 have fJ:Tryz.prog.follows .mixedOrders=true:=by kernel_rfl
 obtain⟨jF,kR,lK,hm1,hx2,qP⟩:=lC hq hf;obtain⟨b,off,k,c,eu⟩:=uD hL hq qP;have hgr:=hB.lt;have BO:=fun w1 (hE:Ev w w1)=>l7 m b0 w1 ((hL.ev hE).less fun k hk=>by cases hk);rw[hf]at BO;have yB:=zq (fun y (hy:y∈q)=>lD hq hy hfair hsz);have LH:=q_len hq hsz;have lu:=zq (fun w1 (hb:But [gr] w w1)=>eu.kid 0 x (by rw[hq];rfl) w1 hb);have Aa:=zq (fun i y (hy:q[i]?=some y) w1 (hb:But [gr] w w1)=>eu.kid (i+1) y (by rw[hq];simpa using hy) w1 hb);simp only[aud,atW,hs,hx2]at lu;rw[hs]at jF kR lK;unfold qp;obtain⟨PT,tK⟩:∃PT,PT=pPlan m.t:=⟨_,rfl⟩
 obtain⟨PE,uF⟩:∃PE,PE=aZ m.t:=⟨_,rfl⟩
 rw[←tK]at jF⊢;rw[←uF]at kR⊢;have hA:=eu.hA;have hn:=eu.hn;have hc:=eu.hc;have rH:=eu.rH;have hcm:=eu.hcm;have lQ:=eu.lQ;have nY:=zq eu;clear eu tK uF hq hL hfair hsz qP hf hx2;generalize zi:m.kids.length=kn at*;generalize uV:m.A=mA at*;generalize DC:m.cap=mc at*;generalize oQ:m.kind=kd at*;generalize hs_:m.s=ms at*;generalize uU:m.n=mn at*;generalize DD:m.pos=mp at*;clear zi uV DC oQ hs_ uU DD;subst hm1;subst hA;subst hn;subst hc;obtain⟨w0,hw0,aT,hX,hR,hs0⟩:=vH w (.int .i64 1) (.string ⟨ms.toArray⟩) (.int .i64 mn) (.slice (some ⟨b,off,none⟩) (k+2) (c+2)) (.int .i64 (mp:Int));have UX:=zq BO;have HX:=zq hX;have HR:=zq hR;have HE:=zq aT;have HB:=zq hB;have lS:=zq ih;have Xx:=nY.out.bgr;unfold dY at*;obtain⟨⟨c0,c1,c2,c3,c4⟩,_⟩:=hX.five;obtain⟨d0,d1,d2,d3,d4⟩:=lu.out _ (But.aS aT);clear hX hR aT hB BO ih hs;have BQ:(decide (2≤(q.map M.t).length)&&dC (at_ (q.map M.t) 0)&&(((q.map M.t).take ((q.map M.t).length - 1)).drop 1).all dP)=true:=lK;rw[atu,atu,aun,atq,lQ,auG,←auw]at BQ;obtain⟨⟨uQ,_⟩,hagg⟩:=BQ;obtain⟨k1,rfl⟩:∃k1,k=k1+1:=⟨k - 1,by omega⟩
 obtain⟨o8,rfl⟩:∃c1,c=c1+1:=⟨c - 1,by omega⟩
 obtain⟨l1,r,rfl⟩:∃l1 r,q=l1::r:=by
  cases q with
  | nil=>simp at lQ
  | cons a b=>exact⟨a,b,rfl⟩
 have hrl:r.length=k1+1:=by simpa using lQ
 rw[auz,atx,at6,auC,auI,atL]at hagg;have hlen:((l1::r).map M.t).length - 1=k1+1:=by simp[hrl]
 have qx:Hid (PT=.mk 7 [] [] [] (l1.kids.map M.s) [] ((r.take k1).map fun v=>jQ v.t) ((r.drop k1).map fun v=>pPlan v.t)):=zq (by
  rw[jF];show Pl.mk 7 [] [] [] (l1.t.kids.map T.s) [] (((((l1::r).map M.t).take (((l1::r).map M.t).length - 1)).drop 1).map jQ) ((((l1::r).map M.t).map pPlan).drop (((l1::r).map M.t).length - 1))=_;rw[hlen,M.aY,atI,funext M.tu |> fun h=>(show (T.s ∘ M.t)=M.s from h),atx,auz,at6,auC,atx,at6,←auw,atI,atI,←auD];rfl)
 have uG:Hid (PE=aQ ((l1.kids.map fun v=>bn v.t)++(((r.take k1).flatMap fun v=>dQ v.t)++(r.drop k1).map fun v=>aZ v.t))):=zq (by
  rw[kR];show aQ (l1.t.kids.map bn++(((((l1::r).map M.t).take (((l1::r).map M.t).length - 1)).drop 1).flatMap dQ++(((l1::r).map M.t).map aZ).drop (((l1::r).map M.t).length - 1)))=_;rw[hlen,M.aY,atI,atx,auz,at6,auC,atx,at6,←auw,atI,List.flatMap_map,←auD];rfl)
 have hAG:=fun e1 w1 (hb:But [gr] w w1) (hB1:Rb gr e1 w1)=>ab4 gr e1 (r.take k1) _ _ _ b0 w1 hB1 ((Ms.rest (nY.out.rest w1 hb)).to k1 (by omega)) (nY.out.z_ w1 hb _) (by simp at LH;omega) (fun v hv=>hagg v hv) (fun v hv=>nY.out.lies v (aty _ (auK hv)) w1 hb);have vN:=fun e1 w1 (hb:But [gr] w w1) (hB1:Rb gr e1 w1)=>xg gr e1 (r.drop k1) _ _ _ b0 w1 hB1 ((nY.out.rest w1 hb).drop (k:=k1+1) (by omega)) (nY.out.z_ w1 hb _) (by omega) (fun v hv w2 e2 hb2 hB2=>lS.out v (aty _ (List.mem_of_mem_drop hv)) w2 e2 (hb.then hb2) hB2);unfold eU.v at vN hAG;simp only[Nat.add_sub_cancel_left]at vN;have DX:=zq hAG;have qZ:=zq vN;have hK1:=Aa.out 0 l1 rfl;simp only[atT,auE]at hK1;have KY1:=zq hK1;have n00:¬((k1:Int)+1+1≤0):=by omega
 have t2:((k1:Int)+2).toNat=k1+2:=by omega
 have p1:(1:Int)≤(k1:Int)+2:=by omega
 have p2:(k1:Int)+2 - 1≤(o8:Int)+1+1:=by omega
 have p3:¬((k1:Int)+1<1):=by omega
 have p4:(k1:Int)+2 - 1≤(k1:Int)+1+1:=by omega
 have i5:¬o8+1=k1:=by omega
 clear jF kR lK hagg vN hAG hK1;go_enter Tryz.func58,Tryz.ntmps58;go_upto_region 7 with (first
  | ((with_reducible refine (UX.out _ HE.out).mono ?_);rintro r w1 ⟨rfl,aH⟩;have E1:=zq (HE.out.trans aH);clear c0 c1 c2 c3 c4 d0 d1 d2 d3 d4;obtain⟨⟨c0,c1,c2,c3,c4⟩,_⟩:=(HX.out.ev aH).five;obtain⟨d0,d1,d2,d3,d4⟩:=lu.out _ (But.aS E1.out)))
 clear c0 c1 c2 c3 c4 d0 d1 d2 d3 d4;have hw1:=E1.out.size;have Xp:=aH.size;have hg4:w.heap.size+1≠gr:=by omega
 refine iW fJ (fun u=>But [gr,w.heap.size+1] w1 u) (But [gr,w.heap.size+1]) [5,10,15,17] (StF gr (w.heap.size+1) w1.heap.size [e,fB e (aQ (l1.kids.map fun v=>bn v.t)),fB (fB e (aQ (l1.kids.map fun v=>bn v.t))) (aQ ((r.take k1).flatMap fun v=>dQ v.t)),fB (fB (fB e (aQ (l1.kids.map fun v=>bn v.t))) (aQ ((r.take k1).flatMap fun v=>dQ v.t))) (aQ ((r.drop k1).map fun v=>aZ v.t)),fB (fB (fB e (aQ (l1.kids.map fun v=>bn v.t))) (aQ ((r.take k1).flatMap fun v=>dQ v.t))) (aQ ((r.drop k1).map fun v=>aZ v.t))] (.mk 7 [] [] [] (l1.kids.map M.s) [] ((r.take k1).map fun v=>jQ v.t) ((r.drop k1).map fun v=>pPlan v.t))) [fun v _=>v=.pointer (some ⟨gr,0,none⟩),fun v _=>v=.slice (some ⟨b,off+5,none⟩) (k1+1+1) (o8+1+1),fun v _=>v=.pointer (some ⟨b,off+5,none⟩),fun v _=>v=.pointer (some ⟨b,off+5+3,none⟩),fun v _=>v=.slice l1.A l1.kids.length l1.cap,PW w1.heap.size (l1.kids.map M.s),fun v _=>v=.pointer (some ⟨gr,0,none⟩),fun v _=>v=.slice (some ⟨b,off+5,none⟩) (k1+1+1) (o8+1+1),fun v _=>v=.int .i64 ((k1:Int)+2 - 1),fun v _=>v=.slice (some ⟨b,off+10,none⟩) k1 (o8+1),AsF w1.heap.size ((r.take k1).map fun v=>jQ v.t),fun v _=>v=.pointer (some ⟨gr,0,none⟩),fun v _=>v=.slice (some ⟨b,off+5,none⟩) (k1+1+1) (o8+1+1),fun v _=>v=.int .i64 ((k1:Int)+2 - 1),fun v _=>v=.slice (some ⟨b,off+5+(k1+1)*5,none⟩) 1 (o8+1+1 - (k1+1)),PY w1.heap.size ((r.drop k1).map fun v=>pPlan v.t),PZ w1.heap.size (.mk 7 [] [] [] (l1.kids.map M.s) [] ((r.take k1).map fun v=>jQ v.t) ((r.drop k1).map fun v=>pPlan v.t)),fun _ _=>True]
  115 4 rfl (by kernel_rfl) ⟨az _,az _,az _,az _,az _,PW.mono _ _,az _,az _,az _,az _,AsF.mono _ _,az _,az _,az _,az _,PY.mono _ _,PZ.mono _ _,eG,trivial⟩ ⟨fun _ _ _ _ h=>h,fun _ _ _ _ h=>h,fun _ _ _ _ h=>h,fun _ _ _ _ h=>h,fun _ _ _ _ h=>h,PW.old (yC (by omega) (by omega)),fun _ _ _ _ h=>h,fun _ _ _ _ h=>h,fun _ _ _ _ h=>h,fun _ _ _ _ h=>h,AsF.old (yC (by omega) (by omega)),fun _ _ _ _ h=>h,fun _ _ _ _ h=>h,fun _ _ _ _ h=>h,fun _ _ _ _ h=>h,PY.old (yC (by omega) (by omega)),PZ.old (yC (by omega) (by omega)),fun _ _ _ _ h=>h,trivial⟩ (by kernel_rfl) (StF.ev _ _ _ _ _) (fun u u' hE h=>h.then (But.aS hE)) (But.refl _ _) (⟨HB.out.ev E1.out,HR.out.ev aH⟩) (by kernel_rfl) ?_ ?_ ?_
 ·refine aI 0 ?_ (aI 1 ?_ (aI 2 ?_ (aI 3 ?_ (aI 4 ?_ (cu 5 (by decide) (aI 6 ?_ (aI 7 ?_ (aI 8 ?_ (aI 9 ?_ (cu 10 (by decide) (aI 11 ?_ (aI 12 ?_ (aI 13 ?_ (aI 14 ?_ (cu 15 (by decide) (aI 16 ?_ (cu 17 (by decide) (oL 18))))))))))))))))));exact ayn;exact ayo
  ·refine aO fun a wq c=>⟨(ay rfl),.pointer (some ⟨b,off+5,none⟩),?_,rfl⟩
   have bI:a.eval (.tmp 29)=.slice (some ⟨b,off+5,none⟩) (k1+1+1) (o8+1+1):=(c.new 1 29)
   have uf:a.eval (.const (.int .i64 0))=.int .i64 0:=rfl;generalize a.eval=ρ at bI uf⊢;simp[execOp,bI,uf,go_sem,n00]
  ·refine aO fun a wq c=>⟨(ay rfl),.pointer (some ⟨b,off+5+3,none⟩),?_,rfl⟩
   have bI:a.eval (.tmp 30)=.pointer (some ⟨b,off+5,none⟩):=(c.new 2 30)
   generalize a.eval=ρ at bI⊢;simp[execOp,bI,go_sem]
  refine aO fun a wq c=>⟨(ay rfl),.slice l1.A l1.kids.length l1.cap,?_,rfl⟩
  have bI:a.eval (.tmp 31)=.pointer (some ⟨b,off+5+3,none⟩):=(c.new 3 31)
  exact axP;exact ayn;exact ayo;refine aO fun a w c=>⟨(ay rfl),_,run_move _ rfl w,(c.was 6 rfl)⟩
  ·refine aO fun a wq c=>⟨(ay rfl),.slice (some ⟨b,off+10,none⟩) k1 (o8+1),?_,rfl⟩
   have bI:a.eval (.tmp 35)=.slice (some ⟨b,off+5,none⟩) (k1+1+1) (o8+1+1):=(c.new 7 35)
   have nz:a.eval (.tmp 36)=.int .i64 ((k1:Int)+2 - 1):=(c.new 8 36)
   have uf:a.eval (.const (.int .i64 1))=.int .i64 1:=rfl;generalize a.eval=ρ at bI nz uf⊢;simp[execOp,bI,nz,uf,go_sem,t2,p1,p2,p3]
  exact ayn;exact ayo;refine aO fun a w c=>⟨(ay rfl),_,run_move _ rfl w,(c.was 6 rfl)⟩
  ·refine aO fun a wq c=>⟨(ay rfl),.slice (some ⟨b,off+5+(k1+1)*5,none⟩) 1 (o8+1+1 - (k1+1)),?_,rfl⟩
   have bI:a.eval (.tmp 40)=.slice (some ⟨b,off+5,none⟩) (k1+1+1) (o8+1+1):=(c.new 12 40)
   have nz:a.eval (.tmp 41)=.int .i64 ((k1:Int)+2 - 1):=(c.new 13 41)
   generalize a.eval=ρ at bI nz⊢;simp[execOp,bI,nz,go_sem,t2,p1,p4,i5]
  refine aO fun a wq c=>?_;obtain⟨N1_,aah,h1l,h1s⟩:=(c.got 5 33 (by kernel_rfl) (by kernel_rfl) rfl:PW _ _ _ _)
  obtain⟨G_,eG_,hGl,hGs⟩:=(c.got 10 38 (by kernel_rfl) (by kernel_rfl) rfl:AsF _ _ _ _)
  obtain⟨Y_,eY_,hYl,hYs,hYq⟩:=(c.got 15 43 (by kernel_rfl) (by kernel_rfl) rfl:PY _ _ _ _)
  refine⟨(ay rfl),_,?_,⟨.mk 7 [] .nil .nil N1_ .nil G_ Y_.A Y_.cap Y_.l,rfl,by rw[PM.pY,←h1l,←hGl,←hYl];rfl,.mk (aX.nil ..) (fun _ h=>by cases h) (aX.nil ..) h1s (aX.nil ..) hGs hYs hYq⟩⟩;have uf:a.eval (.const (.int .i64 7))=.int .i64 7:=rfl;generalize a.eval=ρ at aah eG_ eY_ uf⊢;simp[execOp,aah,eG_,eY_,uf,go_sem,PM.kind,PM.name,PM.ex,PM.co,PM.lf,PM.rt,PM.ag,PM.A,PM.cap,PM.kids,eU.nil]
 refine gy 0 rfl ?_ (gy 1 rfl ?_ (gy 2 rfl ?_ (gy 3 rfl ?_ (qM 4))));refine l9 fun a wq c st=>⟨ay rfl,117,#[.pointer (some ⟨gr,0,none⟩),.slice l1.A l1.kids.length l1.cap],?_,?_⟩
 rw[bP 117 _ _ rfl (by kernel_rfl)];have bI:a.eval (.tmp 28)=.pointer (some ⟨gr,0,none⟩):=(c.new 0 28)
 have nz:a.eval (.tmp 32)=.slice l1.A l1.kids.length l1.cap:=(c.new 4 32)
 simp[bI,nz];exact avZ;refine l9 fun a wq c st=>⟨ay rfl,118,#[.pointer (some ⟨gr,0,none⟩),.slice (some ⟨b,off+10,none⟩) k1 (o8+1)],?_,?_⟩
 rw[bP 118 _ _ rfl (by kernel_rfl)];have bI:a.eval (.tmp 34)=.pointer (some ⟨gr,0,none⟩):=(c.new 6 34)
 have nz:a.eval (.tmp 37)=.slice (some ⟨b,off+10,none⟩) k1 (o8+1):=(c.new 9 37)
 simp[bI,nz];have MN:=uH E1.out c.inv (aub _);have hsz:=c.inv.size;refine (DX.out _ wq MN st.1).mono ?_;exact axf;refine l9 fun a wq c st=>⟨ay rfl,115,#[.pointer (some ⟨gr,0,none⟩),.slice (some ⟨b,off+5+(k1+1)*5,none⟩) 1 (o8+1+1 - (k1+1))],?_,?_⟩
 rw[bP 115 _ _ rfl (by kernel_rfl)];have bI:a.eval (.tmp 39)=.pointer (some ⟨gr,0,none⟩):=(c.new 11 39)
 have nz:a.eval (.tmp 42)=.slice (some ⟨b,off+5+(k1+1)*5,none⟩) 1 (o8+1+1 - (k1+1)):=(c.new 14 42)
 simp[bI,nz];exact awm;refine tJ rfl fun a wq c st=>?_;obtain⟨m_,em_,Xq,hq_⟩:=(c.got 16 44 (by kernel_rfl) (by kernel_rfl) rfl:PZ _ _ _ _)
 exact avx;intro sl w9 hI hold hnew hst;have f0:sl 0=.pointer (some ⟨gr,0,none⟩):=hold 0;have f4:sl 4=.pointer (some ⟨w.heap.size+1,0,none⟩):=hold 4;have f5:sl 5=.slice (some ⟨b,off+5,none⟩) (k1+1+1) (o8+1+1):=hold 5;have f6:sl 6=.int .i64 ((k1:Int)+2 - 1):=hold 6;change Exit.then _ _ .normal ⟨_,_⟩ _;simp only[List.range,List.range.loop,List.map];simp only[f0,f4,f5,f6];clear hold hnew;obtain⟨hrb,m_,Ee,Xq,hq_⟩:=(⟨hst.1,hst.2⟩:_∧PmB _ _ _ _)
 go_wp2;(try simp only[Exit.inBlock,Exit.then]);refine bodyPost_ret (aP rfl _ _ _ _ _ rfl Ee Tryz.underlying32 rfl Tryz.bJ) rfl ?_;exact⟨m_,rfl,by rw[Xq];exact qx.out.symm,hq_.low (by have:=E1.out.size;omega),⟨by rw[uG.out,←kZ,←kZ];exact hrb,uH E1.out hI (aub _)⟩⟩
theorem Gi {s:By} (h:fF s≠0):s=gq∨s=dL∨s=bM∨s=gU∨s=fP∨s=dw∨s=dY:=by
 unfold fF at h
 repeat' (split at h)
 all_goals simp_all
theorem Ry (m:M) (gr:Nat) (e:Er) (b0:Nat) (w:World) (hB:Rb gr e w) (hL:Lies b0 [gr] w m) (hf:fG m.t=false):
  Calls Tryz.prog 58 #[.pointer (some ⟨gr,0,none⟩),.agg #[.int .i64 m.kind,.string ⟨m.s.toArray⟩,.int .i64 m.n,.slice m.A m.kids.length m.cap,.int .i64 (m.pos:Int)]] w (qp gr e m.t w):=by
 have jF:pPlan m.t=gQ:=by rw[M.qO]at hf⊢;rw[pPlan,if_neg (by rw[hf];exact au5)]
 have kR:aZ m.t=(12,m.pos):=by rw[M.qO]at hf⊢;rw[aZ,if_neg (by rw[hf];exact au5)]
 have hgr:=hB.lt;have BO:=fun w1 (hE:Ev w w1)=>l7 m b0 w1 ((hL.ev hE).less fun k hk=>by cases hk);rw[hf]at BO;unfold qp;rw[jF,kR];obtain⟨w0,hw0,aT,hX,hR,hs0⟩:=vH w (.int .i64 m.kind) (.string ⟨m.s.toArray⟩) (.int .i64 m.n) (.slice m.A m.kids.length m.cap) (.int .i64 (m.pos:Int));have UX:=zq BO;have HX:=zq hX;have HR:=zq hR;have HE:=zq aT;have HB:=zq hB;have HF:=zq (fun w1 (hE:Ev w w1)=>He gr e 12 m.pos (by decide) w1 (HB.out.ev hE));obtain⟨⟨c0,c1,c2,c3,c4⟩,_⟩:=hX.five;clear hX hR aT hB BO hL hf jF kR;go_enter Tryz.func58,Tryz.ntmps58
 go_wp2_with (first
  | ((with_reducible refine (UX.out _ HE.out).mono ?_);rintro r w1 ⟨rfl,aH⟩;have E1:=zq (HE.out.trans aH);clear c0 c1 c2 c3 c4;obtain⟨⟨c0,c1,c2,c3,c4⟩,_⟩:=(HX.out.ev aH).five)
  | ((with_reducible refine (HF.out _ E1.out).mono ?_);rintro r w2 ⟨rfl,jZ⟩;have Cb:=zq jZ;obtain⟨⟨r0,r1,r2,r3,r4,r5,r6,r7⟩,s0,s1,s2,s3,s4,s5,s6,s7⟩:=((HR.out.ev aH).but jZ.but (by simp;omega)).eight;clear jZ))
 (try simp only[Exit.inBlock,Exit.then]);rw[bg];have LP:=(HR.out.ev aH).but Cb.out.but (by simp;omega);refine bodyPost_ret (aP rfl _ _ _ _ _ rfl (LP.iw _ _ _ _ _ _ _ _) Tryz.underlying32 rfl Tryz.bJ) rfl ?_;obtain⟨f1,f2⟩:=Dz (base:=w.heap.size+2) (⟨Cb.out.bx,(But.aS E1.out).then Cb.out.but⟩) hgr (att _) (Qx.zero _ _ _) _ _ _ _ _ _ _ _;exact⟨jJ,rfl,gY,f1,f2⟩
theorem O4 (N:Nat):∀(m:M) (gr:Nat) (e:Er) (b0:Nat) (w:World),m.dep≤N→Rb gr e w→Lies b0 [gr] w m→m.t.every bZ=true→m.t.size≤10000→
  Calls Tryz.prog 58 #[.pointer (some ⟨gr,0,none⟩),.agg #[.int .i64 m.kind,.string ⟨m.s.toArray⟩,.int .i64 m.n,.slice m.A m.kids.length m.cap,.int .i64 (m.pos:Int)]] w (qp gr e m.t w):=by
 induction N with
 | zero=>
  intro m gr e b0 w hd;rw[M.mX]at hd;omega
 | succ N ih=>
  intro m gr e b0 w hd hB hL hfair hsz
  cases hf:fG m.t
  exact Ry m gr e b0 w hB hL hf;obtain⟨x,q,hq⟩:∃x q,m.kids=x::q:=by
   cases hk:m.kids with
   | nil=>
    rw[yV,hk]at hf;simp at hf
   | cons x q=>exact⟨x,q,rfl⟩
  have Tn:∀y∈q,∀w1 e1,But [gr] w w1→Rb gr e1 w1→Calls Tryz.prog 58 #[.pointer (some ⟨gr,0,none⟩),.agg #[.int .i64 y.kind,.string ⟨y.s.toArray⟩,.int .i64 y.n,.slice y.A y.kids.length y.cap,.int .i64 (y.pos:Int)]] w1 (qp gr e1 y.t w1):=fun y hy w1 e1 hb hB1=>by
   have hym:y∈m.kids:=by rw[hq];exact aty _ hy
   have hqs:=lD hq hy hfair hsz;exact ih y gr e1 b0 w1 (by have:=M.lF hym;omega) hB1 ((hL.kid y hym).move hb fun _ hz=>.inl hz) hqs.1 hqs.2
  have hk:fF x.s≠0:=fun h0=>by
   have:=(lC hq hf).2.2.1;rw[h0]at this
   cases this
  rcases Gi hk with hs|hs|hs|hs|hs|hs|hs;exact OZ m gr e b0 w hB hL hfair hsz hf x q hq hs Tn;exact Mc m gr e b0 w hB hL hfair hsz hf x q hq hs Tn;exact JO m gr e b0 w hB hL hfair hsz hf x q hq hs Tn;exact Ru m gr e b0 w hB hL hfair hsz hf x q hq hs Tn;exact O0 m gr e b0 w hB hL hfair hsz hf x q hq hs Tn;exact GK m gr e b0 w hB hL hfair hsz hf x q hq hs Tn;exact O3 m gr e b0 w hB hL hfair hsz hf x q hq hs Tn
end Go.Proofs.YtpbfokkocaemlaaGreatDoor
