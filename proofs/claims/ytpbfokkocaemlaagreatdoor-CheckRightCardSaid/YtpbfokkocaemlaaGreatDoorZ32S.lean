import Derived.Test.YtpbfokkocaemlaaGreatDoorZ31S
set_option linter.unusedVariables false
set_option maxRecDepth 100000
set_option maxHeartbeats 64000000
namespace Go.Proofs.YtpbfokkocaemlaaGreatDoor
open Go.RowKit
open Go.Lib renaming hid → zq
theorem aai (w:World) (c0 c1 c2 c3 c4:Value):∃w2,(w.alloc (.cells #[c0,c1,c2,c3,c4] 101)).alloc (.cells #[.int .i64 0,.int .i64 0] 106)=w2∧Ev w w2∧Bx 101 w.heap.size #[c0,c1,c2,c3,c4] w2∧Rb (w.heap.size+1) (0,0) w2∧w2.heap.size=w.heap.size+2:=by have hB:=Bx.new 106 #[.int .i64 0,.int .i64 0] (w.alloc (.cells #[c0,c1,c2,c3,c4] 101));rw[show (w.alloc (.cells #[c0,c1,c2,c3,c4] 101)).heap.size=w.heap.size+1 by simp]at hB;exact axF
theorem O5 (w:World) (c0 c1 c2 c3 c4 c5 c6 c7:Value):∃w4,w.alloc (.cells #[c0,c1,c2,c3,c4,c5,c6,c7] 32)=w4∧Ev w w4∧Bx 32 w.heap.size #[c0,c1,c2,c3,c4,c5,c6,c7] w4:=⟨_,rfl,Ev.alloc _ _,Bx.new _ _ _⟩
theorem aaj (e:Er):((fB (0,0) e).1=0↔e.1=0)∧(e.1≠0→fB (0,0) e=e):=by unfold fB;by_cases h:e.1=0;simp[h];simp[h]
theorem UZ (s:By) (w:World) (hT:Tab w) (hs:s.length≤100000) (hc:(eF s).2.1=0) (he:¬(aZ (eF s).1).1=0):Calls Tryz.prog 30 #[.string ⟨s.toArray⟩] w (bu (lG s) w):=by
 have hP:lG s=pFrom (eF s).1:=by unfold lG;rw[if_pos (by simpa using hc)]
 obtain⟨nU,Rz,hsize⟩:=IV s hc;have hS:=fun w1=>GZ ⟨s.toArray⟩ w1 (by simpa[ByteArray.size] using hs);simp only at hS;unfold qG at hS;rw[hc]at hS;rw[hP];unfold bu;generalize (eF s).2.2=ps at*;generalize (eF s).1=TT at*;have hR1:pFrom TT=(gQ,(aZ TT).1,(aZ TT).2):=by unfold pFrom;rw[if_neg (by simpa using he)]
 rw[hR1];have HO:=zq ((aaj (aZ TT)).2 he);obtain⟨⟨ec,ep⟩,uF⟩:∃e,e=aZ TT:=⟨_,rfl⟩
 rw[←uF]at he HO⊢;simp only at he⊢;have uG:=zq uF;clear hR1 uF;have HS:=zq hS;have HF:=zq nU;have HZ:=zq hsize;obtain⟨w0,hw0,aT,hR,hs0⟩:=sS w;have HR:=zq hR;have HE:=zq aT;clear hP hS hR aT hs hc nU Rz hsize hT;go_enter Tryz.func30,Tryz.ntmps30
 go_wp2_with (first
  | ((with_reducible refine (HS.out _).mono ?_);rintro r w1 ⟨t,rfl,ht,hl,aH⟩;obtain⟨w2,hw2,bK,Yk,RD,hs2⟩:=aai w1 (.int .i64 t.kind) (.string ⟨t.s.toArray⟩) (.int .i64 t.n) (.slice t.A t.kids.length t.cap) (.int .i64 (t.pos:Int));have nS:=zq aH;have rD:=zq bK;have HT:=zq ht;have HL:=zq hl;have HRB:=zq RD;have JK:=zq aH.size;obtain⟨⟨d0,d1,d2,d3,d4⟩,_⟩:=Yk.five;clear ht hl aH bK Yk RD))
 have Ym:=(HL.out.less (K':=[w1.heap.size+1]) fun k hk=>by simp at hk;subst hk;exact .inr (.inr (by omega))).ev rD.out;have HPL:=zq (O4 t.dep t (w1.heap.size+1) (0,0) w0.heap.size w2 (att _) HRB.out Ym (by rw[HT.out];exact (jl _ HF.out).1) (by rw[HT.out];have:=HZ.out;omega));clear Ym;refine (HPL.out).mono ?_;rintro r w3 ⟨p,rfl,jF,SX,jZ⟩;rw[HT.out]at jF jZ;rw[←uG.out,HO.out]at jZ;obtain⟨w4,hw4,gI,D5⟩:=O5 w3 (.int .i64 p.kind) (.string ⟨p.name.toArray⟩) (.slice p.ex.A p.ex.l.length p.ex.cap) (.slice p.co.A p.co.l.length p.co.cap) (.slice p.lf.A p.lf.l.length p.lf.cap) (.slice p.rt.A p.rt.l.length p.rt.cap) (.slice p.ag.A p.ag.l.length p.ag.cap) (.slice p.A p.kids.length p.cap);have RF:Ev w w3:=But.AP (HE.out.trans (nS.out.trans rD.out)) jZ.but fun k hk=>by simp at hk;subst hk;have:=JK.out;omega
 have HEV:=zq (RF.trans gI);have O6:=zq (((HR.out.ev (nS.out.trans rD.out)).but jZ.but (by simp;have:=JK.out;omega)).ev gI);obtain⟨⟨q0,q1⟩,_⟩:=(jZ.bx.ev gI).two;(try simp only at q0 q1);obtain⟨⟨p0,p1,p2,p3,p4,p5,p6,p7⟩,_⟩:=D5.eight;obtain⟨⟨r0,r1,r2,r3,r4,r5,r6,r7⟩,s0,s1,s2,s3,s4,s5,s6,s7⟩:=O6.out.eight;clear RF jF SX jZ gI D5 d0 d1 d2 d3 d4 HPL
 go_wp2_with (first
  | fail)
 have g1:¬(w1.heap.size+1=w.heap.size):=by have:=JK.out;omega
 have g2:¬(w.heap.size=w1.heap.size+1):=by have:=JK.out;omega
 go_region
 all_goals (
  go_wp2;(try simp only[Exit.inBlock,Exit.then]);rw[bg]
  first
   | (refine bodyPost_ret (aF rfl _ _ _ _ _ rfl ((O6.out.iw _ _ _ _ _ _ _ _).ev (Ev.drew _)) Tryz.underlying32 rfl Tryz.bJ) rfl ?_;exact⟨jJ,rfl,gY,Qx.zero _ _ _,((HEV.out).box (bQ _ _ _ _ _ _ _ _ _ _) (att _)).trans (Ev.drew _)⟩)
   | (refine bodyPost_ret (aF rfl _ _ _ _ _ rfl ((O6.out.ev (Ev.drew _)).iw _ _ _ _ _ _ _ _) Tryz.underlying32 rfl Tryz.bJ) rfl ?_;exact⟨jJ,rfl,gY,Qx.zero _ _ _,(HEV.out.trans (Ev.drew _)).box (bQ _ _ _ _ _ _ _ _ _ _) (att _)⟩))
theorem RG (s:By) (w:World) (hT:Tab w) (hs:s.length≤100000) (hc:(eF s).2.1=0) (he:(aZ (eF s).1).1=0) (hlong:600<(printS (aC (pPlan (eF s).1))).length):Calls Tryz.prog 30 #[.string ⟨s.toArray⟩] w (bu (lG s) w):=by
 have hP:lG s=pFrom (eF s).1:=by unfold lG;rw[if_pos (by simpa using hc)]
 obtain⟨nU,Rz,hsize⟩:=IV s hc;have hS:=fun w1=>GZ ⟨s.toArray⟩ w1 (by simpa[ByteArray.size] using hs);simp only at hS;unfold qG at hS;rw[hc]at hS;rw[hP];unfold bu;generalize (eF s).2.2=ps at*;generalize (eF s).1=TT at*;obtain⟨hW,tK⟩:=Dx nU hsize he;have HW:=zq hW;have hR1:pFrom TT=(gQ,3,0):=by unfold pFrom;rw[if_pos (by simpa using he),if_pos hlong]
 rw[hR1];simp only;have HLG:=zq hlong;have HO:=zq ((aaj (aZ TT)).1.2 he);clear hW tK hR1 hlong;have HS:=zq hS;have HF:=zq nU;have HZ:=zq hsize;have acf:=zq hT;obtain⟨w0,hw0,aT,hR,hs0⟩:=sS w;have HR:=zq hR;have HE:=zq aT;clear hP hS hR aT hs hc nU Rz hsize hT;go_enter Tryz.func30,Tryz.ntmps30
 go_wp2_with (first
  | ((with_reducible refine (HS.out _).mono ?_);rintro r w1 ⟨t,rfl,ht,hl,aH⟩;obtain⟨w2,hw2,bK,Yk,RD,hs2⟩:=aai w1 (.int .i64 t.kind) (.string ⟨t.s.toArray⟩) (.int .i64 t.n) (.slice t.A t.kids.length t.cap) (.int .i64 (t.pos:Int));have nS:=zq aH;have rD:=zq bK;have HT:=zq ht;have HL:=zq hl;have HRB:=zq RD;have JK:=zq aH.size;obtain⟨⟨d0,d1,d2,d3,d4⟩,_⟩:=Yk.five;clear ht hl aH bK Yk RD))
 have Ym:=(HL.out.less (K':=[w1.heap.size+1]) fun k hk=>by simp at hk;subst hk;exact .inr (.inr (by omega))).ev rD.out;have HPL:=zq (O4 t.dep t (w1.heap.size+1) (0,0) w0.heap.size w2 (att _) HRB.out Ym (by rw[HT.out];exact (jl _ HF.out).1) (by rw[HT.out];have:=HZ.out;omega));clear Ym;refine (HPL.out).mono ?_;rintro r w3 ⟨p,rfl,jF,SX,jZ⟩;rw[HT.out]at jF jZ;obtain⟨⟨ec,ep⟩,uF⟩:∃e,e=fB (0,0) (aZ TT):=⟨_,rfl⟩;rw[←uF]at jZ HO;obtain rfl:ec=0:=HO.out;clear HO uF;obtain⟨w4,hw4,gI,D5⟩:=O5 w3 (.int .i64 p.kind) (.string ⟨p.name.toArray⟩) (.slice p.ex.A p.ex.l.length p.ex.cap) (.slice p.co.A p.co.l.length p.co.cap) (.slice p.lf.A p.lf.l.length p.lf.cap) (.slice p.rt.A p.rt.l.length p.rt.cap) (.slice p.ag.A p.ag.l.length p.ag.cap) (.slice p.A p.kids.length p.cap);have qx:=zq jF;have HPQ:=zq SX;have HE4:=zq gI;have HB4:=zq D5;have RF:Ev w w3:=But.AP (HE.out.trans (nS.out.trans rD.out)) jZ.but fun k hk=>by simp at hk;subst hk;have:=JK.out;omega
 have HEV:=zq (RF.trans gI);have O6:=zq (((HR.out.ev (nS.out.trans rD.out)).but jZ.but (by simp;have:=JK.out;omega)).ev gI);obtain⟨⟨q0,q1⟩,_⟩:=(jZ.bx.ev gI).two;(try simp only at q0 q1);obtain⟨⟨p0,p1,p2,p3,p4,p5,p6,p7⟩,_⟩:=D5.eight;obtain⟨⟨r0,r1,r2,r3,r4,r5,r6,r7⟩,s0,s1,s2,s3,s4,s5,s6,s7⟩:=O6.out.eight;clear RF jF SX jZ gI D5 d0 d1 d2 d3 d4 HPL
 go_wp2_with (first
  | fail
  | (have RH:=zq (OV p w2.heap.size w4 (acf.out.ev HEV.out) (HPQ.out.ev HE4.out) (by rw[qx.out];exact HW.out.fit) (by rw[qx.out];have:=HW.out.size;omega) (by rw[qx.out];exact HW.out.len) (by rw[qx.out];exact HW.out.ne) (by rw[qx.out];exact HW.out.fits));unfold pv eU.v PM.kv at RH;rw[qx.out]at RH;generalize printS (aC (pPlan TT))=PS at RH HLG;have i9:(600:Int)<(PS.length:Int):=(by have:=HLG.out;omega);(with_reducible refine (RH.out).mono ?_);rintro r w5 ⟨rfl,Cm⟩;have Ht:=zq Cm;clear Cm p0 p1 p2 p3 p4 p5 p6 p7 r0 r1 r2 r3 r4 r5 r6 r7 s0 s1 s2 s3 s4 s5 s6 s7 q0 q1;obtain⟨⟨p0,p1,p2,p3,p4,p5,p6,p7⟩,_⟩:=(HB4.out.ev Ht.out).eight;obtain⟨⟨r0,r1,r2,r3,r4,r5,r6,r7⟩,s0,s1,s2,s3,s4,s5,s6,s7⟩:=(O6.out.ev Ht.out).eight;skip))
 (try simp only[Exit.inBlock,Exit.then]);rw[bg];refine bodyPost_ret (aF rfl _ _ _ _ _ rfl ((O6.out.ev Ht.out).iw _ _ _ _ _ _ _ _) Tryz.underlying32 rfl Tryz.bJ) rfl ?_;exact⟨jJ,rfl,gY,Qx.zero _ _ _,(HEV.out.trans Ht.out).box (bQ _ _ _ _ _ _ _ _ _ _) (att _)⟩
theorem Xz (s:By) (w:World) (hT:Tab w) (hs:s.length≤100000) (hc:(eF s).2.1=0) (he:(aZ (eF s).1).1=0) (hlong:¬600<(printS (aC (pPlan (eF s).1))).length):Calls Tryz.prog 30 #[.string ⟨s.toArray⟩] w (bu (lG s) w):=by
 have hP:lG s=pFrom (eF s).1:=by unfold lG;rw[if_pos (by simpa using hc)]
 obtain⟨nU,Rz,hsize⟩:=IV s hc;have hS:=fun w1=>GZ ⟨s.toArray⟩ w1 (by simpa[ByteArray.size] using hs);simp only at hS;unfold qG at hS;rw[hc]at hS;rw[hP];unfold bu;generalize (eF s).2.2=ps at*;generalize (eF s).1=TT at*;obtain⟨hW,tK⟩:=Dx nU hsize he;have HW:=zq hW;have hR1:pFrom TT=(pPlan TT,0,0):=by unfold pFrom;rw[if_pos (by simpa using he),if_neg hlong]
 rw[hR1];simp only;have HLG:=zq hlong;have HO:=zq ((aaj (aZ TT)).1.2 he);clear hW tK hR1 hlong;have HS:=zq hS;have HF:=zq nU;have HZ:=zq hsize;have acf:=zq hT;obtain⟨w0,hw0,aT,hR,hs0⟩:=sS w;have HR:=zq hR;have HE:=zq aT;clear hP hS hR aT hs hc nU Rz hsize hT;go_enter Tryz.func30,Tryz.ntmps30
 go_wp2_with (first
  | ((with_reducible refine (HS.out _).mono ?_);rintro r w1 ⟨t,rfl,ht,hl,aH⟩;obtain⟨w2,hw2,bK,Yk,RD,hs2⟩:=aai w1 (.int .i64 t.kind) (.string ⟨t.s.toArray⟩) (.int .i64 t.n) (.slice t.A t.kids.length t.cap) (.int .i64 (t.pos:Int));have nS:=zq aH;have rD:=zq bK;have HT:=zq ht;have HL:=zq hl;have HRB:=zq RD;have JK:=zq aH.size;obtain⟨⟨d0,d1,d2,d3,d4⟩,_⟩:=Yk.five;clear ht hl aH bK Yk RD))
 have Ym:=(HL.out.less (K':=[w1.heap.size+1]) fun k hk=>by simp at hk;subst hk;exact .inr (.inr (by omega))).ev rD.out;have HPL:=zq (O4 t.dep t (w1.heap.size+1) (0,0) w0.heap.size w2 (att _) HRB.out Ym (by rw[HT.out];exact (jl _ HF.out).1) (by rw[HT.out];have:=HZ.out;omega));clear Ym;refine (HPL.out).mono ?_;rintro r w3 ⟨p,rfl,jF,SX,jZ⟩;rw[HT.out]at jF jZ;obtain⟨⟨ec,ep⟩,uF⟩:∃e,e=fB (0,0) (aZ TT):=⟨_,rfl⟩;rw[←uF]at jZ HO;obtain rfl:ec=0:=HO.out;clear HO uF;obtain⟨w4,hw4,gI,D5⟩:=O5 w3 (.int .i64 p.kind) (.string ⟨p.name.toArray⟩) (.slice p.ex.A p.ex.l.length p.ex.cap) (.slice p.co.A p.co.l.length p.co.cap) (.slice p.lf.A p.lf.l.length p.lf.cap) (.slice p.rt.A p.rt.l.length p.rt.cap) (.slice p.ag.A p.ag.l.length p.ag.cap) (.slice p.A p.kids.length p.cap);have qx:=zq jF;have HPQ:=zq SX;have HE4:=zq gI;have HB4:=zq D5;have RF:Ev w w3:=But.AP (HE.out.trans (nS.out.trans rD.out)) jZ.but fun k hk=>by simp at hk;subst hk;have:=JK.out;omega
 have HEV:=zq (RF.trans gI);have O6:=zq (((HR.out.ev (nS.out.trans rD.out)).but jZ.but (by simp;have:=JK.out;omega)).ev gI);obtain⟨⟨q0,q1⟩,_⟩:=(jZ.bx.ev gI).two;(try simp only at q0 q1);obtain⟨⟨p0,p1,p2,p3,p4,p5,p6,p7⟩,_⟩:=D5.eight;obtain⟨⟨r0,r1,r2,r3,r4,r5,r6,r7⟩,s0,s1,s2,s3,s4,s5,s6,s7⟩:=O6.out.eight;clear RF jF SX jZ gI D5 d0 d1 d2 d3 d4 HPL
 go_wp2_with (first
  | fail
  | (have RH:=zq (OV p w2.heap.size w4 (acf.out.ev HEV.out) (HPQ.out.ev HE4.out) (by rw[qx.out];exact HW.out.fit) (by rw[qx.out];have:=HW.out.size;omega) (by rw[qx.out];exact HW.out.len) (by rw[qx.out];exact HW.out.ne) (by rw[qx.out];exact HW.out.fits));unfold pv eU.v PM.kv at RH;rw[qx.out]at RH;generalize printS (aC (pPlan TT))=PS at RH HLG;have i9:¬((600:Int)<(PS.length:Int)):=(by have:=HLG.out;omega);(with_reducible refine (RH.out).mono ?_);rintro r w5 ⟨rfl,Cm⟩;have Ht:=zq Cm;clear Cm p0 p1 p2 p3 p4 p5 p6 p7 r0 r1 r2 r3 r4 r5 r6 r7 s0 s1 s2 s3 s4 s5 s6 s7 q0 q1;obtain⟨⟨p0,p1,p2,p3,p4,p5,p6,p7⟩,_⟩:=(HB4.out.ev Ht.out).eight;obtain⟨⟨r0,r1,r2,r3,r4,r5,r6,r7⟩,s0,s1,s2,s3,s4,s5,s6,s7⟩:=(O6.out.ev Ht.out).eight;skip))
 (try simp only[Exit.inBlock,Exit.then]);rw[bg];refine bodyPost_ret (aF rfl _ _ _ _ _ rfl ((O6.out.ev Ht.out).iw _ _ _ _ _ _ _ _) Tryz.underlying32 rfl Tryz.bJ) rfl ?_;have hlt:w.heap.size<w2.heap.size:=by have:=JK.out;omega
 exact⟨p,rfl,qx.out,((((HPQ.out.ev HE4.out).ev Ht.out).less (K':=[w.heap.size]) fun k hk=>by simp at hk;subst hk;exact .inr (.inl hlt)).move (bQ _ _ _ _ _ _ _ _ _ _) fun k hk=>by cases hk).low (Nat.le_of_lt hlt),(HEV.out.trans Ht.out).box (bQ _ _ _ _ _ _ _ _ _ _) (att _)⟩
theorem V4 (s:By) (w:World) (hT:Tab w) (hs:s.length≤100000):Calls Tryz.prog 30 #[.string ⟨s.toArray⟩] w (bu (lG s) w):=by by_cases hc:(eF s).2.1=0;by_cases he:(aZ (eF s).1).1=0;by_cases hl:600<(printS (aC (pPlan (eF s).1))).length;exact RG s w hT hs hc he hl;exact Xz s w hT hs hc he hl;exact UZ s w hT hs hc he;exact UY s w hs hc
theorem awr {P:Prop} (h:P:=by
 have i1:(0:Int)≤(k:Int):=by omega
 have i2:(k:Int)<(n:Int):=by omega
 clear hx hc hc';go_upto_region 6 with fail
 go_region
 all_goals (
  go_wp2;go_roundw
  case rel=>exact⟨k+1,by go_num,by omega,zq (HE.out.trans (Ev.drew _))⟩
  case measure=>simp[intOf];omega)):P:=h
theorem ayv {P:Prop} (h:P:=by
 obtain rfl:k=n:=by omega
 go_wp2;go_ret;exact⟨rfl,HE.out⟩):P:=h
theorem JQ (l:List By) (A A':Option Addr) (n cap cap':Nat) (w:World) (h:Ss w A n cap l) (h':Ss w A' n cap' l) (hn:n≤100000):
  Calls Tryz.prog 61 #[.slice A n cap,.slice A' n cap'] w fun e w'=>e=.returned (.bool true)∧Ev w w':=by
 have H:=zq h;have H':=zq h';have dH:=zq (Ev.refl w);clear h h';go_enter Tryz.func61,Tryz.ntmps61;go_wp2
 go_loopw [13] (fun iv wr=>∃k:Nat,iv=.int .i64 (k:Int)∧k≤n∧Hid (Ev w wr)) (fun iv _=>n - (intOf iv).toNat)
 case atStart=>exact⟨0,rfl,atG _,dH⟩
 case round=>
  obtain⟨k,rfl,hk,HE⟩:=hrel;by_cases hlt:k<n;obtain⟨x,hx⟩:=H.out.at hlt;obtain⟨b,off,rfl,hb,hc⟩:=(H.out.ev HE.out).rd (by omega);obtain⟨b',off',rfl,hb',hc'⟩:=(H'.out.ev HE.out).rd (by omega);have c0:=hc k x hx 0 _ rfl;have d0:=hc' k x hx 0 _ rfl;simp only[avf,atW]at c0 d0;exact awr;exact ayv
theorem acg (l:List Ag) (A A':Option Addr) (n cap cap':Nat) (w:World) (h:Sl 3 ac w A n cap l) (h':Sl 3 ac w A' n cap' l) (hn:n≤100000):
  Calls Tryz.prog 62 #[.slice A n cap,.slice A' n cap'] w fun e w'=>e=.returned (.bool true)∧Ev w w':=by
 have H:=zq h;have H':=zq h';have dH:=zq (Ev.refl w);clear h h';go_enter Tryz.func62,Tryz.ntmps62;go_wp2
 go_loopw [13] (fun iv wr=>∃k:Nat,iv=.int .i64 (k:Int)∧k≤n∧Hid (Ev w wr)) (fun iv _=>n - (intOf iv).toNat)
 case atStart=>exact⟨0,rfl,atG _,dH⟩
 case round=>
  obtain⟨k,rfl,hk,HE⟩:=hrel;by_cases hlt:k<n;obtain⟨x,hx⟩:=H.out.at hlt;obtain⟨b,off,rfl,hb,hc⟩:=(H.out.ev HE.out).rd (by omega);obtain⟨b',off',rfl,hb',hc'⟩:=(H'.out.ev HE.out).rd (by omega);have c0:=hc k x hx 0 _ rfl;have d0:=hc' k x hx 0 _ rfl;have c1:=hc k x hx 1 _ rfl;have d1:=hc' k x hx 1 _ rfl;have c2:=hc k x hx 2 _ rfl;have d2:=hc' k x hx 2 _ rfl;simp only[atW]at c0 d0;exact awr;exact ayv
def Yes (w:World) (e:Ending) (w':World):Prop:=e=.returned (.bool true)∧Ev w w'
theorem awT {P:Prop} (h:P:=by
 go_wp2_with (first
  | ((with_reducible refine (HC.out _ Ht.out).mono ?_);rintro e w6 ⟨rfl,lL⟩))
 go_roundw
 case rel=>exact⟨k+1,by go_num,by omega,zq (Ht.out.trans lL)⟩
 case measure=>simp[intOf];omega):P:=h
theorem NC (X X':List M) (A A':Option Addr) (n cap cap':Nat) (w:World) (h:Es w A n cap X) (h':Es w A' n cap' X') (hn:n≤100000) (hf:∀(i:Nat) (x x':M),X[i]?=some x→X'[i]?=some x'→∀w1,Ev w w1→Calls Tryz.prog 60 #[zA x,zA x'] w1 (Yes w1)):
  Calls Tryz.prog 59 #[.slice A n cap,.slice A' n cap',.func (.func 60) #[] #[]] w (Yes w):=by
 have hc1:=h.le;have hc2:=h.max;have hc3:=h'.le;have hc4:=h'.max;have H:=zq h;have H':=zq h';have HF:=zq hf;have dH:=zq (Ev.refl w);unfold Yes;clear h h' hf;go_enter Tryz.func59,Tryz.ntmps59;go_wp2
 go_loopw [17] (fun iv wr=>∃k:Nat,iv=.int .i64 (k:Int)∧k≤n∧Hid (Ev w wr)) (fun iv _=>n - (intOf iv).toNat)
 case atStart=>exact⟨0,rfl,atG _,by first|exact dH|exact zq (Ev.alloc _ _)|exact zq ((Ev.alloc _ _).trans (Ev.alloc _ _))⟩
 case round=>
  obtain⟨k,rfl,hk,HE⟩:=hrel;by_cases hlt:k<n;obtain⟨x,hx⟩:=H.out.at hlt;obtain⟨x',hx'⟩:=H'.out.at hlt;obtain⟨b,off,rfl,hb,c0,c1,c2,c3⟩:=Es.cell (H.out.ev HE.out) hx;obtain⟨b',off',rfl,hb',d0,d1,d2,d3⟩:=Es.cell (H'.out.ev HE.out) hx';have HC:=zq (fun w1 (hE:Ev w w1)=>HF.out k x x' hx hx' w1 hE);unfold M.kv at c3 d3;unfold zA M.kv Yes at HC;obtain⟨w4,hw4,gI,D5⟩:∃w4,wr.alloc (.cells #[.int .i64 x.kind,.string ⟨x.s.toArray⟩,.int .i64 x.n,.slice x.A x.kids.length x.cap] 47)=w4∧Ev wr w4∧Bx 47 wr.heap.size #[.int .i64 x.kind,.string ⟨x.s.toArray⟩,.int .i64 x.n,.slice x.A x.kids.length x.cap] w4:=⟨_,rfl,Ev.alloc _ _,Bx.new _ _ _⟩
  have e0:=(gI.cell (p:=⟨b',off'+k*4,none⟩) hb').trans d0;have e1:=(gI.cell (p:=⟨b',off'+k*4+1,none⟩) hb').trans d1;have e2:=(gI.cell (p:=⟨b',off'+k*4+2,none⟩) hb').trans d2;have e3:=(gI.cell (p:=⟨b',off'+k*4+3,none⟩) hb').trans d3;obtain⟨w5,QC,Cm,RI⟩:∃w5,w4.alloc (.cells #[.int .i64 x'.kind,.string ⟨x'.s.toArray⟩,.int .i64 x'.n,.slice x'.A x'.kids.length x'.cap] 47)=w5∧Ev w4 w5∧Bx 47 w4.heap.size #[.int .i64 x'.kind,.string ⟨x'.s.toArray⟩,.int .i64 x'.n,.slice x'.A x'.kids.length x'.cap] w5:=⟨_,rfl,Ev.alloc _ _,Bx.new _ _ _⟩
  obtain⟨⟨f0,f1,f2,f3⟩,_⟩:=(D5.ev Cm).four;obtain⟨⟨g0,g1,g2,g3⟩,_⟩:=RI.four;have Ht:=zq ((HE.out.trans gI).trans Cm);have i1:(0:Int)≤(k:Int):=by omega
  have i2:(k:Int)<(n:Int):=by omega
  clear hx hx' d0 d1 d2 d3 gI D5 Cm RI;exact awT;exact ayv
theorem ahz (w:World) (c0 c1 c2 c3 d0 d1 d2 d3:Value):∃w0,(w.alloc (.cells #[c0,c1,c2,c3] 47)).alloc (.cells #[d0,d1,d2,d3] 47)=w0∧Ev w w0∧Bx 47 w.heap.size #[c0,c1,c2,c3] w0∧Bx 47 (w.heap.size+1) #[d0,d1,d2,d3] w0:=by have hB:=Bx.new 47 #[d0,d1,d2,d3] (w.alloc (.cells #[c0,c1,c2,c3] 47));rw[show (w.alloc (.cells #[c0,c1,c2,c3] 47)).heap.size=w.heap.size+1 by simp]at hB;exact axW
theorem XA (N:Nat):∀(m m':M) (b0 b0':Nat) (w:World),m.dep≤N→Lx b0 [] w m→Lx b0' [] w m'→m.t=m'.t→m.t.size≤100000→
  Calls Tryz.prog 60 #[zA m,zA m'] w (Yes w):=by
 induction N with
 | zero=>
  intro m m' b0 b0' w hd;rw[M.mX]at hd;omega
 | succ N ih=>
  intro m m' b0 b0' w hd hL hL' ht hsz;have hz:=T.size_eq m.t;have hzl:=jA m.t.kids;rw[M.aY,atq]at hzl;rw[M.aY]at hz;have Yg:=ht;rw[M.qO,M.qO m']at Yg;injection Yg with e1 e2 e3 e4 e5
  have hlen:m'.kids.length=m.kids.length:=by have:=congrArg List.length e4;simpa using this.symm
  have hEF:=fun w1 (hE:Ev w w1)=>NC m.kids m'.kids m.A m'.A m.kids.length m.cap m'.cap w1 (hL.es.ev hE) (by have:=hL'.es.ev hE;rwa [hlen]at this) (by omega) fun i x x' hx hx' w2 bK=>by
   have iF:=atw hx;have alm:=atw hx';refine ih x x' b0 b0' w2 (by have:=M.lF iF;omega) ((hL.kid x iF).ev (hE.trans bK)) ((hL'.kid x' alm).ev (hE.trans bK)) ?_ ?_;have h1:(m.kids.map M.t)[i]?=some x.t:=by rw[aul,hx];rfl
   have h2:(m'.kids.map M.t)[i]?=some x'.t:=by rw[aul,hx'];rfl
   rw[e4,h2]at h1;exact (aui h1).symm;have:=iy (at7 (f:=T.size) (at7 (f:=M.t) iF));omega
  unfold Yes at hEF⊢;unfold zA M.kv;rw[←e1,←e2,←e3,hlen];have HEF:=zq hEF;obtain⟨w0,hw0,aT,hX,hB⟩:=ahz w (.int .i64 m.kind) (.string ⟨m.s.toArray⟩) (.int .i64 m.n) (.slice m.A m.kids.length m.cap) (.int .i64 m.kind) (.string ⟨m.s.toArray⟩) (.int .i64 m.n) (.slice m'.A m.kids.length m'.cap);obtain⟨⟨c0,c1,c2,c3⟩,_⟩:=hX.four;obtain⟨⟨d0,d1,d2,d3⟩,_⟩:=hB.four;have HE:=zq aT;clear hEF hX hB aT ih hd hL hL' ht hsz hz hzl e1 e2 e3 e4 e5 hlen;go_enter Tryz.func60,Tryz.ntmps60
  go_wp2_with (first
   | ((with_reducible refine (HEF.out _ HE.out).mono ?_);rintro e w6 ⟨rfl,lL⟩))
  go_ret;exact⟨rfl,HE.out.trans lL⟩
theorem XB (X X':List PM) (A A':Option Addr) (n cap cap':Nat) (w:World) (h:Ps w A n cap X) (h':Ps w A' n cap' X') (hn:n≤100000) (hf:∀(i:Nat) (x x':PM),X[i]?=some x→X'[i]?=some x'→∀w1,Ev w w1→Calls Tryz.prog 31 #[pv x,pv x'] w1 (Yes w1)):
  Calls Tryz.prog 63 #[.slice A n cap,.slice A' n cap',.func (.func 31) #[] #[]] w (Yes w):=by
 have hc1:=h.le;have hc2:=h.max;have hc3:=h'.le;have hc4:=h'.max;have H:=zq h;have H':=zq h';have HF:=zq hf;have dH:=zq (Ev.refl w);unfold Yes;clear h h' hf;go_enter Tryz.func63,Tryz.ntmps63;go_wp2
 go_loopw [17] (fun iv wr=>∃k:Nat,iv=.int .i64 (k:Int)∧k≤n∧Hid (Ev w wr)) (fun iv _=>n - (intOf iv).toNat)
 case atStart=>exact⟨0,rfl,atG _,dH⟩
 case round=>
  obtain⟨k,rfl,hk,HE⟩:=hrel;by_cases hlt:k<n;obtain⟨x,hx⟩:=H.out.at hlt;obtain⟨x',hx'⟩:=H'.out.at hlt;obtain⟨b,off,rfl,hb,_⟩:=(H.out.ev HE.out).rd (by omega);obtain⟨b',off',rfl,hb',_⟩:=(H'.out.ev HE.out).rd (by omega);obtain⟨c0,c1,c2,c3,c4,c5,c6,c7⟩:=Ps.cell (H.out.ev HE.out) hx;obtain⟨d0,d1,d2,d3,d4,d5,d6,d7⟩:=Ps.cell (H'.out.ev HE.out) hx';have HC:=zq (fun w1 (hE:Ev w w1)=>HF.out k x x' hx hx' w1 hE);unfold pv Yes at HC;unfold eU.v PM.kv at*;obtain⟨w4,hw4,gI,D5⟩:∃w4,wr.alloc (.cells #[.int .i64 x.kind,.string ⟨x.name.toArray⟩,.slice x.ex.A x.ex.l.length x.ex.cap,.slice x.co.A x.co.l.length x.co.cap,.slice x.lf.A x.lf.l.length x.lf.cap,.slice x.rt.A x.rt.l.length x.rt.cap,.slice x.ag.A x.ag.l.length x.ag.cap,.slice x.A x.kids.length x.cap] 32)=w4∧Ev wr w4∧Bx 32 wr.heap.size #[.int .i64 x.kind,.string ⟨x.name.toArray⟩,.slice x.ex.A x.ex.l.length x.ex.cap,.slice x.co.A x.co.l.length x.co.cap,.slice x.lf.A x.lf.l.length x.lf.cap,.slice x.rt.A x.rt.l.length x.rt.cap,.slice x.ag.A x.ag.l.length x.ag.cap,.slice x.A x.kids.length x.cap] w4:=⟨_,rfl,Ev.alloc _ _,Bx.new _ _ _⟩
  have e0:=(gI.cell (p:=⟨b',off'+k*8,none⟩) hb').trans d0;have e1:=(gI.cell (p:=⟨b',off'+k*8+1,none⟩) hb').trans d1;have e2:=(gI.cell (p:=⟨b',off'+k*8+2,none⟩) hb').trans d2;have e3:=(gI.cell (p:=⟨b',off'+k*8+3,none⟩) hb').trans d3;have e4:=(gI.cell (p:=⟨b',off'+k*8+4,none⟩) hb').trans d4;have e5:=(gI.cell (p:=⟨b',off'+k*8+5,none⟩) hb').trans d5;have e6:=(gI.cell (p:=⟨b',off'+k*8+6,none⟩) hb').trans d6;have e7:=(gI.cell (p:=⟨b',off'+k*8+7,none⟩) hb').trans d7;obtain⟨w5,QC,Cm,RI⟩:∃w5,w4.alloc (.cells #[.int .i64 x'.kind,.string ⟨x'.name.toArray⟩,.slice x'.ex.A x'.ex.l.length x'.ex.cap,.slice x'.co.A x'.co.l.length x'.co.cap,.slice x'.lf.A x'.lf.l.length x'.lf.cap,.slice x'.rt.A x'.rt.l.length x'.rt.cap,.slice x'.ag.A x'.ag.l.length x'.ag.cap,.slice x'.A x'.kids.length x'.cap] 32)=w5∧Ev w4 w5∧Bx 32 w4.heap.size #[.int .i64 x'.kind,.string ⟨x'.name.toArray⟩,.slice x'.ex.A x'.ex.l.length x'.ex.cap,.slice x'.co.A x'.co.l.length x'.co.cap,.slice x'.lf.A x'.lf.l.length x'.lf.cap,.slice x'.rt.A x'.rt.l.length x'.rt.cap,.slice x'.ag.A x'.ag.l.length x'.ag.cap,.slice x'.A x'.kids.length x'.cap] w5:=⟨_,rfl,Ev.alloc _ _,Bx.new _ _ _⟩
  obtain⟨⟨f0,f1,f2,f3,f4,f5,f6,f7⟩,_⟩:=(D5.ev Cm).eight;obtain⟨⟨g0,g1,g2,g3,g4,g5,g6,g7⟩,_⟩:=RI.eight;have Ht:=zq ((HE.out.trans gI).trans Cm);have i1:(0:Int)≤(k:Int):=by omega
  have i2:(k:Int)<(n:Int):=by omega
  clear hx hx' d0 d1 d2 d3 d4 d5 d6 d7 gI D5 Cm RI;exact awT;exact ayv
theorem ahA (w:World) (c0 c1 c2 c3 c4 c5 c6 c7 d0 d1 d2 d3 d4 d5 d6 d7:Value):∃w0,(w.alloc (.cells #[c0,c1,c2,c3,c4,c5,c6,c7] 32)).alloc (.cells #[d0,d1,d2,d3,d4,d5,d6,d7] 32)=w0∧Ev w w0∧Bx 32 w.heap.size #[c0,c1,c2,c3,c4,c5,c6,c7] w0∧Bx 32 (w.heap.size+1) #[d0,d1,d2,d3,d4,d5,d6,d7] w0:=by have hB:=Bx.new 32 #[d0,d1,d2,d3,d4,d5,d6,d7] (w.alloc (.cells #[c0,c1,c2,c3,c4,c5,c6,c7] 32));rw[show (w.alloc (.cells #[c0,c1,c2,c3,c4,c5,c6,c7] 32)).heap.size=w.heap.size+1 by simp]at hB;exact axG
theorem XC {k:Int} {nm:By} {es:List T} {cs lf rt:List By} {ag:List Ag} {nk:Nat} (h:wS k nm es cs lf rt ag nk) (hes:es.length≤10000):cs.length≤10000:=by rcases h with⟨_,_,_,rfl,_⟩|⟨_,_,_,rfl,_⟩|⟨_,_,_,h,_⟩|⟨_,_,_,rfl,_⟩|⟨_,_,_,rfl,_⟩|⟨_,_,_,rfl,_⟩|⟨_,_,_,rfl,_⟩<;>first|omega|simp
theorem XD (N:Nat):∀(m m':PM) (b0 b0':Nat) (w:World),m.dep≤N→Qx b0 [] w m→Qx b0' [] w m'→m.p=m'.p→m.p.good→m.p.fit→
  Calls Tryz.prog 31 #[pv m,pv m'] w (Yes w):=by
 induction N with
 | zero=>
  intro m m' b0 b0' w hd;rw[PM.mX]at hd;omega
 | succ N ih=>
  intro m m' b0 b0' w hd hL hL' ht hg hf;obtain⟨⟨_,hfe,_,hel,jd,hrl,Iw,hkn⟩,hkf⟩:=ZZ hf;rw[atq]at hel;have hg2:=hg;rw[PM.pY,Pl.good,Pl.tC]at hg2;have hcl:=XC hg2.1 (by rw[atq];exact hel);have hkg:∀x∈m.kids,x.p.good:=fun x hx=>hg2.2 x.p (at7 hx);have Yg:=ht;rw[PM.pY m,PM.pY m']at Yg;injection Yg with e1 e2 e3 e4 e5 e6 e7 e8
  have hlex:m'.ex.l.length=m.ex.l.length:=by have:=congrArg List.length e3;simpa using this.symm
  have hlk:m'.kids.length=m.kids.length:=by have:=congrArg List.length e8;simpa using this.symm
  obtain⟨hex,hlx,zK,rC,hrt,zf,Gp,Tf⟩:=hL.at;obtain⟨ahB,ahC,ahD,ahE,ahF,ahG,aln,ahH⟩:=hL'.at;have hEX:=fun w1 (hE:Ev w w1)=>NC m.ex.l m'.ex.l m.ex.A m'.ex.A m.ex.l.length m.ex.cap m'.ex.cap w1 (hex.sl.ev hE) (by have:=ahB.sl.ev hE;rwa [hlex]at this) (by omega) fun i x x' hx hx' w2 bK=>by
   have iF:=atw hx;refine XA x.dep x x' b0 b0' w2 (att _) ((hlx x iF).ev (hE.trans bK)) ((ahC x' (atw hx')).ev (hE.trans bK)) ?_ (by have:=(hfe x.t (at7 iF)).2.1;omega);have h1:(m.ex.l.map M.t)[i]?=some x.t:=by rw[aul,hx];rfl
   have h2:(m'.ex.l.map M.t)[i]?=some x'.t:=by rw[aul,hx'];rfl
   rw[e3,h2]at h1;exact (aui h1).symm
  have hCO:=fun w1 (hE:Ev w w1)=>JQ m.co.l m.co.A m'.co.A m.co.l.length m.co.cap m'.co.cap w1 (zK.sl.ev hE) (by have:=ahD.sl.ev hE;rwa [←e4]at this) (by omega);have hLF:=fun w1 (hE:Ev w w1)=>JQ m.lf.l m.lf.A m'.lf.A m.lf.l.length m.lf.cap m'.lf.cap w1 (rC.sl.ev hE) (by have:=ahE.sl.ev hE;rwa [←e5]at this) (by omega);have hRT:=fun w1 (hE:Ev w w1)=>JQ m.rt.l m.rt.A m'.rt.A m.rt.l.length m.rt.cap m'.rt.cap w1 (hrt.sl.ev hE) (by have:=ahF.sl.ev hE;rwa [←e6]at this) (by omega);have hAG:=fun w1 (hE:Ev w w1)=>acg m.ag.l m.ag.A m'.ag.A m.ag.l.length m.ag.cap m'.ag.cap w1 (zf.sl.ev hE) (by have:=ahG.sl.ev hE;rwa [←e7]at this) (by omega);have hKD:=fun w1 (hE:Ev w w1)=>XB m.kids m'.kids m.A m'.A m.kids.length m.cap m'.cap w1 (hL.ps.ev hE) (by have:=hL'.ps.ev hE;rwa [hlk]at this) (by omega) fun i x x' hx hx' w2 bK=>by
   have iF:=atw hx;refine ih x x' b0 b0' w2 (by have:=PM.lF iF;omega) ((Tf x iF).ev (hE.trans bK)) ((ahH x' (atw hx')).ev (hE.trans bK)) ?_ (hkg x iF) (hkf x iF);have h1:(m.kids.map PM.p)[i]?=some x.p:=by rw[aul,hx];rfl
   have h2:(m'.kids.map PM.p)[i]?=some x'.p:=by rw[aul,hx'];rfl
   rw[e8,h2]at h1;exact (aui h1).symm
  unfold Yes at hEX hKD⊢;unfold pv eU.v PM.kv;rw[←e1,←e2,hlex,hlk,←e4,←e5,←e6,←e7];have LZ:=zq hEX;have Ti:=zq hCO;have KR:=zq hLF;have Dt:=zq hRT;have DX:=zq hAG;have Aa:=zq hKD;obtain⟨w0,hw0,aT,hX,hB⟩:=ahA w (.int .i64 m.kind) (.string ⟨m.name.toArray⟩) (.slice m.ex.A m.ex.l.length m.ex.cap) (.slice m.co.A m.co.l.length m.co.cap) (.slice m.lf.A m.lf.l.length m.lf.cap) (.slice m.rt.A m.rt.l.length m.rt.cap) (.slice m.ag.A m.ag.l.length m.ag.cap) (.slice m.A m.kids.length m.cap) (.int .i64 m.kind) (.string ⟨m.name.toArray⟩) (.slice m'.ex.A m.ex.l.length m'.ex.cap) (.slice m'.co.A m.co.l.length m'.co.cap) (.slice m'.lf.A m.lf.l.length m'.lf.cap) (.slice m'.rt.A m.rt.l.length m'.rt.cap) (.slice m'.ag.A m.ag.l.length m'.ag.cap) (.slice m'.A m.kids.length m'.cap);obtain⟨⟨p0,p1,p2,p3,p4,p5,p6,p7⟩,_⟩:=hX.eight;obtain⟨⟨q0,q1,q2,q3,q4,q5,q6,q7⟩,_⟩:=hB.eight;have HE:=zq aT;have HX:=zq hX;have HB:=zq hB;clear hEX hCO hLF hRT hAG hKD hX hB aT ih hd hL hL' ht hg hf hfe hel jd hrl Iw hkn hkf hg2 hcl hkg e1 e2 e3 e4 e5 e6 e7 e8 hlex hlk hex hlx zK rC hrt zf Gp Tf ahB ahC ahD ahE ahF ahG aln ahH;go_enter Tryz.func31,Tryz.ntmps31
  go_wp2_with (first
   | ((with_reducible refine (LZ.out _ HE.out).mono ?_);rintro e w1 ⟨rfl,aH⟩;have F1:=zq aH;have E1:=zq (HE.out.trans F1.out);clear aH;clear p0 p1 p2 p3 p4 p5 p6 p7 q0 q1 q2 q3 q4 q5 q6 q7;obtain⟨⟨p0,p1,p2,p3,p4,p5,p6,p7⟩,_⟩:=(HX.out.ev F1.out).eight;obtain⟨⟨q0,q1,q2,q3,q4,q5,q6,q7⟩,_⟩:=(HB.out.ev F1.out).eight)
   | ((with_reducible refine (Ti.out _ E1.out).mono ?_);rintro e w2 ⟨rfl,bK⟩;have F2:=zq (F1.out.trans bK);have E2:=zq (HE.out.trans F2.out);clear bK;clear p0 p1 p2 p3 p4 p5 p6 p7 q0 q1 q2 q3 q4 q5 q6 q7;obtain⟨⟨p0,p1,p2,p3,p4,p5,p6,p7⟩,_⟩:=(HX.out.ev F2.out).eight;obtain⟨⟨q0,q1,q2,q3,q4,q5,q6,q7⟩,_⟩:=(HB.out.ev F2.out).eight)
   | ((with_reducible refine (KR.out _ E2.out).mono ?_);rintro e w3 ⟨rfl,iE⟩;have F3:=zq (F2.out.trans iE);have E3:=zq (HE.out.trans F3.out);clear iE;clear p0 p1 p2 p3 p4 p5 p6 p7 q0 q1 q2 q3 q4 q5 q6 q7;obtain⟨⟨p0,p1,p2,p3,p4,p5,p6,p7⟩,_⟩:=(HX.out.ev F3.out).eight;obtain⟨⟨q0,q1,q2,q3,q4,q5,q6,q7⟩,_⟩:=(HB.out.ev F3.out).eight)
   | ((with_reducible refine (Dt.out _ E3.out).mono ?_);rintro e w4 ⟨rfl,gI⟩;have F4:=zq (F3.out.trans gI);have E4:=zq (HE.out.trans F4.out);clear gI;clear p0 p1 p2 p3 p4 p5 p6 p7 q0 q1 q2 q3 q4 q5 q6 q7;obtain⟨⟨p0,p1,p2,p3,p4,p5,p6,p7⟩,_⟩:=(HX.out.ev F4.out).eight;obtain⟨⟨q0,q1,q2,q3,q4,q5,q6,q7⟩,_⟩:=(HB.out.ev F4.out).eight)
   | ((with_reducible refine (DX.out _ E4.out).mono ?_);rintro e w5 ⟨rfl,Cm⟩;have F5:=zq (F4.out.trans Cm);have E5:=zq (HE.out.trans F5.out);clear Cm;clear p0 p1 p2 p3 p4 p5 p6 p7 q0 q1 q2 q3 q4 q5 q6 q7;obtain⟨⟨p0,p1,p2,p3,p4,p5,p6,p7⟩,_⟩:=(HX.out.ev F5.out).eight;obtain⟨⟨q0,q1,q2,q3,q4,q5,q6,q7⟩,_⟩:=(HB.out.ev F5.out).eight)
   | ((with_reducible refine (Aa.out _ E5.out).mono ?_);rintro e w6 ⟨rfl,lL⟩;have F6:=zq (F5.out.trans lL);have E6:=zq (HE.out.trans F6.out);clear lL;clear p0 p1 p2 p3 p4 p5 p6 p7 q0 q1 q2 q3 q4 q5 q6 q7;obtain⟨⟨p0,p1,p2,p3,p4,p5,p6,p7⟩,_⟩:=(HX.out.ev F6.out).eight;obtain⟨⟨q0,q1,q2,q3,q4,q5,q6,q7⟩,_⟩:=(HB.out.ev F6.out).eight))
  go_ret;exact⟨rfl,E6.out⟩
abbrev Pp:=Addr×PM
def ppc (x:Pp):List Value:=[.pointer (some x.1)]
theorem RJ:Enc 1 ppc:=⟨by omega,fun _=>rfl,fun x u hu=>by
 simp[ppc]at hu;subst hu;rfl⟩
theorem Tryz.ae4:(Tryz.prog.info? 97).map (fun i=>(i.zero,i.size,i.bytes))=some (some (.pointer none),1,8):=by kernel_rfl
theorem Tryz.JR:Tryz.prog.underlying 94=some (.slice 97):=by kernel_rfl
def aci (w:World) (b off:Nat) (m:PM):Prop:=
 w.cell? ⟨b,off,none⟩=some (.int .i64 m.kind)∧w.cell? ⟨b,off+1,none⟩=some (.string ⟨m.name.toArray⟩)∧w.cell? ⟨b,off+2,none⟩=some (.slice m.ex.A m.ex.l.length m.ex.cap)∧w.cell? ⟨b,off+3,none⟩=some (.slice m.co.A m.co.l.length m.co.cap)∧w.cell? ⟨b,off+4,none⟩=some (.slice m.lf.A m.lf.l.length m.lf.cap)∧w.cell? ⟨b,off+5,none⟩=some (.slice m.rt.A m.rt.l.length m.rt.cap)∧w.cell? ⟨b,off+6,none⟩=some (.slice m.ag.A m.ag.l.length m.ag.cap)∧w.cell? ⟨b,off+7,none⟩=some (.slice m.A m.kids.length m.cap)
def O7 (w:World) (x:Pp):Prop:=∃b off,x.1=⟨b,off,none⟩∧b<w.heap.size∧aci w b off x.2
theorem O7.ev {w w':World} {x:Pp} (h:O7 w x) (hE:Ev w w'):O7 w' x:=by obtain⟨b,off,e,hb,h0,h1,h2,h3,h4,h5,h6,h7⟩:=h;exact⟨b,off,e,atM hb hE.size,(hE.cell (p:=⟨b,_,none⟩) hb).trans h0,(hE.cell (p:=⟨b,_,none⟩) hb).trans h1,(hE.cell (p:=⟨b,_,none⟩) hb).trans h2,(hE.cell (p:=⟨b,_,none⟩) hb).trans h3,(hE.cell (p:=⟨b,_,none⟩) hb).trans h4,(hE.cell (p:=⟨b,_,none⟩) hb).trans h5,(hE.cell (p:=⟨b,_,none⟩) hb).trans h6,(hE.cell (p:=⟨b,_,none⟩) hb).trans h7⟩
def kAddr (A:Option Addr) (i:Nat):Addr:=
 match A with
 | none=>⟨0,0,none⟩
 | some ⟨b,off,_⟩=>⟨b,off+i*8,none⟩
def kN (x:PM):List Pp:=x.kids.mapIdx fun i m=>(kAddr x.A i,m)
theorem BR (x:PM):(kN x).length=x.kids.length:=by simp[kN]
theorem U0 (x:PM):(kN x).map (·.2)=x.kids:=by
 unfold kN;refine List.ext_getElem? fun i=>?_;rw[aul,List.getElem?_mapIdx]
 cases x.kids[i]?<;>rfl
theorem U1 (x:PM) {i:Nat} {y:PM} (h:x.kids[i]?=some y):(kN x)[i]?=some (kAddr x.A i,y):=by unfold kN;rw[List.getElem?_mapIdx,h];rfl
theorem U2 {b0:Nat} {w:World} {x:PM} (h:Qx b0 [] w x):∀y∈kN x,Qx b0 [] w y.2∧O7 w y:=by
 intro y hy;obtain⟨i,hi⟩:=auO hy;unfold kN at hi;rw[List.getElem?_mapIdx]at hi
 cases hk:x.kids[i]? with
 | none=>rw[hk]at hi;cases hi
 | some m=>
  rw[hk]at hi;obtain rfl:=aui hi;have NS:=(atr.1 hk).1;refine⟨h.kid m (atw hk),?_⟩;obtain⟨b,off,e,hb,_⟩:=h.ps.rd (by omega);have o9:=h.ps;rw[e]at o9;have hc:=Ps.cell o9 hk;unfold eU.v PM.kv at hc;refine⟨b,off+i*8,?_,hb,hc⟩;show kAddr x.A i=_;rw[e]
  try rfl
def lM (f:Pl→Nat) (L:List Pp):Nat:=(L.map fun x=>f x.2.p).sum
theorem vO (f:Pl→Nat) (L K:List Pp):lM f (L++K)=lM f L+lM f K:=by simp[lM]
theorem XE (f:Pl→Nat) (x:PM):lM f (kN x)=(x.p.kids.map f).sum:=by
 have:lM f (kN x)=(((kN x).map (·.2)).map fun y=>f y.p).sum:=by simp[lM,Function.comp_def]
 rw[this,U0];have hk:x.p.kids=x.kids.map PM.p:=by rw[PM.pY];rfl
 rw[hk,atI];rfl
theorem ET (L:List Pp):lM (fun _=>1) L=L.length:=by
 unfold lM
 induction L with
 | nil=>rfl
 | cons a L ih=>
  rw[atx,auo,ih,atF];show 1+L.length=L.length+1;omega
theorem ND (L:List Pp):L.length≤lM Pl.size L:=by rw[←ET];unfold lM;exact yj L fun x _=>Pl.size_pos _
theorem ae5 (x:PM):x.p.kids.length=x.kids.length:=by rw[PM.pY];simp[Pl.kids]
structure DF (m:PM) (b0:Nat) (w1:World) (v:Value) (L:List Pp) (i:Nat) (w:World):Prop where
 own:Ow 97 1 ppc w1.heap.size w v L
 ev:Ev w1 w
 lies:∀x∈L,Qx b0 [] w1 x.2∧O7 w1 x
 le:i≤L.length
 sum:∀f:Pl→Nat,lM f (L.take i)+lM (Pl.sum f) (L.drop i)=m.p.sum f
theorem drop_at {α:Type} {L:List α} {i:Nat} {x:α} (hx:L[i]?=some x):L.drop i=x::L.drop (i+1)∧L.take (i+1)=L.take i++[x]:=by obtain⟨hi,e⟩:=atr.1 hx;exact⟨by rw[auu hi,e],by rw[atD hi,e]⟩
theorem O8 (p:Pl):p.sum (fun _=>1)=p.size:=Jy p
theorem DF.size {m:PM} {b0:Nat} {w1 w:World} {v:Value} {L:List Pp} {i:Nat} (h:DF m b0 w1 v L i w):i+lM Pl.size (L.drop i)=m.p.size:=by have h1:=h.sum fun _=>1;rw[ET,aua,O8,Nat.min_eq_left h.le]at h1;have:(Pl.sum fun _=>1)=Pl.size:=funext O8;rwa [this]at h1
theorem DF.short {m:PM} {b0:Nat} {w1 w:World} {v:Value} {L:List Pp} {i:Nat} (h:DF m b0 w1 v L i w):L.length≤m.p.size:=by have h1:=h.size;have h2:=ND (L.drop i);rw[at1]at h2;have:=h.le;omega
theorem DF.room {m:PM} {b0:Nat} {w1 w:World} {v:Value} {L:List Pp} {i:Nat} {x:Pp} (h:DF m b0 w1 v L i w) (hx:L[i]?=some x):L.length+x.2.kids.length≤m.p.size:=by
 have h1:=h.size;rw[(drop_at hx).1]at h1;have h2:=ND (L.drop (i+1));rw[at1]at h2;have h3:lM Pl.size (x::L.drop (i+1))=x.2.p.size+lM Pl.size (L.drop (i+1)):=by simp[lM]
 have h4:=Pl.size_eq x.2.p;have h5:=yj (f:=fun _=>1) (g:=Pl.size) x.2.p.kids fun y _=>Pl.size_pos y;have h6:(x.2.p.kids.map fun _=>1).sum=x.2.p.kids.length:=by
  generalize x.2.p.kids=l
  induction l with
  | nil=>rfl
  | cons a l ih=>
   rw[atx,auo,ih,atF];omega
 rw[ae5]at h6;have:=(atr.1 hx).1;omega
theorem DF.next {m:PM} {b0:Nat} {w1 w w':World} {v v':Value} {L:List Pp} {i:Nat} {x:Pp} (h:DF m b0 w1 v L i w) (hx:L[i]?=some x) (ho:Ow 97 1 ppc w1.heap.size w' v' (L++kN x.2)) (hE:Ev w1 w'):DF m b0 w1 v' (L++kN x.2) (i+1) w':=by
 have hi:=(atr.1 hx).1;have hi1:i+1≤L.length:=hi;obtain⟨hd,ht⟩:=drop_at hx;refine⟨ho,hE,fun y hy=>?_,by rw[atv];omega,fun f=>?_⟩;rcases atK.1 hy with h1|h1;exact h.lies y h1;exact U2 (h.lies x (atw hx)).1 y h1;have h1:=h.sum f;rw[hd]at h1;rw[List.take_append_of_le_length hi1,List.drop_append_of_le_length hi1,ht,vO,vO,XE];have h2:lM (Pl.sum f) (x::L.drop (i+1))=x.2.p.sum f+lM (Pl.sum f) (L.drop (i+1)):=by simp[lM]
 have h3:lM f [x]=f x.2.p:=by simp[lM]
 have h4:=Pl.aeR f x.2.p;omega
theorem DF.init {m:PM} {b0:Nat} {w w1 w2:World} {v:Value} {a:Addr} (hL:Qx b0 [] w m) (hE:Ev w w1) (hp:O7 w1 (a,m)) (ho:Ow 97 1 ppc w1.heap.size w2 v [(a,m)]) (bK:Ev w1 w2):DF m b0 w1 v [(a,m)] 0 w2:=
 ⟨ho,bK,fun x hx=>by simp at hx;subst hx;exact⟨hL.ev hE,hp⟩,by simp,fun f=>by simp[lM]⟩
def RN (m:PM) (most:Nat) (w:World) (e:Ending) (w':World):Prop:=
 (∃(A:Option Addr) (n cap:Nat) (L:List Pp) (b0:Nat),e=.returned (.tuple #[.slice A n cap,.bool true])∧Sl 1 ppc w' A n cap L∧(∀x∈L,O7 w' x)∧(∀f:Pl→Nat,lM f L=m.p.sum f)∧m.p.size≤most∧Ev w w')∨
 (e=.returned (.tuple #[.slice none 0 0,.bool false])∧most<m.p.size∧Ev w w')
theorem V5 {w:World} {b off n cap:Nat} {L:List Pp} (h:Sl 1 ppc w (some ⟨b,off,none⟩) n cap L) {i:Nat} {x:Pp} (hx:L[i]?=some x):w.cell? ⟨b,off+i,none⟩=some (.pointer (some x.1)):=by
 have hi:=(atr.1 hx).1;have hl:=h.len;obtain⟨b',off',e,hlt,hc⟩:=h.rd (by omega);injection e with e
 injection e with e1 e2 _
 subst e1;subst e2;have:=hc i x hx 0 _ rfl;rwa [avf,atW]at this
theorem XF (m:PM) (b0 most:Nat) (w:World) (h:Qx b0 [] w m) (hsz:m.p.size≤1000000) (h1:1≤most) (hm:most≤1000000):
  Calls Tryz.prog 54 #[pv m,.int .i64 (most:Int)] w (RN m most w):=by
 have hB:=Bx.new 32 #[.int .i64 m.kind,.string ⟨m.name.toArray⟩,.slice m.ex.A m.ex.l.length m.ex.cap,.slice m.co.A m.co.l.length m.co.cap,.slice m.lf.A m.lf.l.length m.lf.cap,.slice m.rt.A m.rt.l.length m.rt.cap,.slice m.ag.A m.ag.l.length m.ag.cap,.slice m.A m.kids.length m.cap] w;have aT:=Ev.alloc w (.cells #[.int .i64 m.kind,.string ⟨m.name.toArray⟩,.slice m.ex.A m.ex.l.length m.ex.cap,.slice m.co.A m.co.l.length m.co.cap,.slice m.lf.A m.lf.l.length m.lf.cap,.slice m.rt.A m.rt.l.length m.rt.cap,.slice m.ag.A m.ag.l.length m.ag.cap,.slice m.A m.kids.length m.cap] 32);unfold pv eU.v PM.kv;obtain⟨w1,hw1⟩:∃w1,w.alloc (.cells #[.int .i64 m.kind,.string ⟨m.name.toArray⟩,.slice m.ex.A m.ex.l.length m.ex.cap,.slice m.co.A m.co.l.length m.co.cap,.slice m.lf.A m.lf.l.length m.lf.cap,.slice m.rt.A m.rt.l.length m.rt.cap,.slice m.ag.A m.ag.l.length m.ag.cap,.slice m.A m.kids.length m.cap] 32)=w1:=⟨_,rfl⟩
 rw[hw1]at hB aT;have Xp:w1.heap.size=w.heap.size+1:=by rw[←hw1];simp
 have eu:O7 w1 (⟨w.heap.size,0,none⟩,m):=⟨w.heap.size,0,rfl,by omega,by
  obtain⟨⟨p0,p1,p2,p3,p4,p5,p6,p7⟩,_⟩:=hB.eight;exact⟨p0,p1,p2,p3,p4,p5,p6,p7⟩⟩
 have HE:=zq aT;have hO:=Ow.made (et:=97) (base:=w1.heap.size) RJ w1 [(⟨w.heap.size,0,none⟩,m)] #[.pointer (some ⟨w.heap.size,0,none⟩)] rfl (att _) (by simp);have HP:Hid (DF m b0 w1 (.slice (some ⟨w1.heap.size,0,none⟩) 1 1) [(⟨w.heap.size,0,none⟩,m)] 0 (w1.alloc (.cells #[.pointer (some ⟨w.heap.size,0,none⟩)] 97))):=zq (DF.init h aT eu hO (Ev.alloc _ _));clear h hB aT eu Xp hO;go_enter Tryz.func54,Tryz.ntmps54;go_wp2
 go_loopw [6,7] (fun av iv wr=>∃(A:Option Addr) (n cap i:Nat) (L:List Pp),av=.slice A n cap∧iv=.int .i64 (i:Int)∧n≤most∧Hid (n=L.length)∧Hid (DF m b0 w1 (.slice A n cap) L i wr)) (fun _ iv _=>m.p.size - (intOf iv).toNat)
 case atStart=>exact⟨_,1,1,0,[(⟨w.heap.size,0,none⟩,m)],rfl,rfl,h1,zq rfl,HP⟩
 case round=>
  obtain⟨A,n,cap,i,L,rfl,rfl,hnm,iQ,HS⟩:=hrel;have hns:=HS.out.short;rw[←iQ.out]at hns;obtain⟨_,cap',Yf,oZ,hA⟩:=HS.out.own.form RJ;injection Yf with h1 h2 h3
  subst h1;subst h3;clear h2 hA;rw[←iQ.out]at oZ;have yI:=oZ.le;have hcm:=oZ.max;by_cases hi:i<n
  ·obtain⟨x,hx⟩:=oZ.at hi;obtain⟨b,off,rfl,hb,_⟩:=oZ.rd (by omega);have c0:=V5 oZ hx;have HX:=zq hx;have SS:=HS.out.lies x (atw hx);obtain⟨b',off',e',hb',p0,p1,p2,p3,p4,p5,p6,p7⟩:=SS.2.ev HS.out.ev;rw[e']at c0;have hro:=HS.out.room hx;rw[←iQ.out]at hro;have o9:=SS.1.ps;have rH:=o9.le;have WC:=o9.max;have qZ:=zq o9;obtain⟨kn,hkn⟩:∃kn,kn=x.2.kids.length:=⟨_,rfl⟩
   rw[←hkn]at p7 hro rH qZ;have lJ:=zq hkn;have rV:=zq oZ;have i1:(0:Int)≤(i:Int):=by omega
   have i2:(i:Int)<(n:Int):=by omega
   clear hx SS o9 hkn e' hb p0 p1 p2 p3 p4 p5 p6 oZ;by_cases hfit:kn+n≤most
   ·have i3:¬((most:Int) - (n:Int)<(kn:Int)):=by omega
    go_wp2
    go_loopw [6,33] (fun av jv wr2=>∃(A2:Option Addr) (n2 cap2 j:Nat),av=.slice A2 n2 cap2∧jv=.int .i64 (j:Int)∧j≤kn∧n2=n+j∧Hid (Ow 97 1 ppc w1.heap.size wr2 (.slice A2 n2 cap2) (L++(kN x.2).take j))∧Hid (Ev w1 wr2)) (fun _ jv _=>kn - (intOf jv).toNat)
    case atStart=>exact⟨_,n,cap,0,rfl,rfl,atG _,rfl,zq (by simpa using HS.out.own),zq HS.out.ev⟩
    case round=>
     rename World=>wr2;obtain⟨A2,n2,cap2,j,rfl,rfl,hj,Ia,HO,rD⟩:=hrel;have HN2:=zq Ia;by_cases hlt:j<kn
     ·obtain⟨y,hy⟩:=qZ.out.at hlt;have hky:=U1 x.2 hy;obtain⟨b2,xM,hA2e,hb2,_⟩:=qZ.out.rd (by omega);rw[hA2e]at hky;simp only[kAddr]at hky;rw[hA2e];have pI:Hid ((kN x.2).take (j+1)=(kN x.2).take j++[(⟨b2,xM+j*8,none⟩,y)]):=zq (drop_at hky).2;have uS:Hid ((L++(kN x.2).take j).length=n2):=zq (by rw[atv,aua,BR,←lJ.out,←iQ.out];omega);have j1:(0:Int)≤(j:Int):=by omega
      have j2:(j:Int)<(kn:Int):=by omega
      clear hy hky Ia
      go_wp2_with (first
       | ((show wpList _ _ _ (⟨some 41,_,_,_,_,_⟩::_) _ _);refine aK (o:=⟨some 41,_,_,_,_,_⟩) rfl 94 (.tmp 36) (.tmp 40) rfl RJ Tryz.JR Tryz.ae4 rfl rfl (HO.out.ev (Ev.alloc wr2 (.cells #[.pointer (some ⟨b2,xM+j*8,none⟩)] 97))) (some ⟨wr2.heap.size,0,none⟩) 1 1 [(⟨b2,xM+j*8,none⟩,y)] rfl (Sl.one (et:=97) RJ wr2 (⟨b2,xM+j*8,none⟩,y) #[.pointer (some ⟨b2,xM+j*8,none⟩)] rfl) (by rw[uS.out];have:=HN2.out;simp;omega) (by rw[uS.out];have:=HN2.out;simp;omega) (rD.out.trans (Ev.alloc _ _)).size ?_;intro v2 w2 gz;have E2:=((But.aS (rD.out.trans (Ev.alloc _ _))).then gz.2.1).ev (fun k hk=>(HO.out.lt (aB.1 hk)).1);have O2:=gz.1;obtain⟨A3,cap3,rfl,_,_⟩:=gz.1.form RJ;generalize BX:((L++(kN x.2).take j)++[((⟨b2,xM+j*8,none⟩,y):Pp)]).length=nn at O2⊢;have En:=zq BX.symm;clear BX))
      go_roundw
      case rel=>exact⟨A3,nn,cap3,j+1,rfl,by go_num,by omega,by rw[En.out,atv,uS.out,HN2.out];rfl,zq (by rw[pI.out,←atS];exact O2),zq E2⟩
      case measure=>simp[intOf];omega
     have hjk:j=kn:=by omega
     subst hjk;have S2:=HS.out.next HX.out (v':=.slice A2 n2 cap2) (by
      have:=HO.out;rwa [atJ (by rw[BR,←lJ.out];exact att _)]at this) rD.out
     have S2:=zq S2;have uT:Hid (n2=(L++kN x.2).length):=zq (by rw[atv,BR,←lJ.out,←iQ.out];exact Ia);have alq:n2≤most:=by omega
     clear Ia;go_wp2;go_roundw
     case rel=>exact⟨A2,n2,cap2,i+1,_,rfl,by go_num,alq,uT,S2⟩
     case measure=>simp[intOf];omega
   have i3:((most:Int) - (n:Int)<(kn:Int)):=by omega
   have hgt:most<m.p.size:=by omega
   go_wp2
   go_ret2
   unfold RN;exact .inr ⟨rfl,hgt,HE.out.trans HS.out.ev⟩
  have hin:i=L.length:=by have:=HS.out.le;have:=iQ.out;omega
  have i2:¬((i:Int)<(n:Int)):=by omega
  have HIN:=zq hin;have rV:=zq oZ;have HZ:Hid (m.p.size≤most):=zq (by
   have h4:=HS.out.size;rw[hin,List.drop_length]at h4;have:lM Pl.size []=0:=rfl;rw[this,←iQ.out]at h4;omega)
  clear hin oZ;go_wp2
  go_ret2
  unfold RN;refine .inl ⟨A,n,cap,L,b0,rfl,rV.out,fun x hx=>(HS.out.lies x hx).2.ev HS.out.ev,fun f=>?_,HZ.out,HE.out.trans HS.out.ev⟩;have:=HS.out.sum f;rw[HIN.out,auf,List.drop_length]at this;simpa[lM] using this
theorem jE.GH {base Gh:Nat} {va:Value} {r:CR} {w:World} {e:Ending} {w':World} (h:jE base va r w e w') (hb:Gh≤base):jE Gh va r w e w':=by obtain⟨v,he,ho,GI,hs⟩:=h;exact⟨v,he,ho.GH hb,GI,hs⟩
theorem XG (kid:List C) (r:CR) (x:T×By):(uu kid r x).cols.length≤r.cols.length+1:=by unfold uu;rw[CR.kU,CR.nV];simp
theorem ae6 {es:List M} {cs:List By} {k:Nat} {e:M} {s:By} (he:es[k]?=some e) (hs:cs[k]?=some s):((es.map M.t).zip cs)[k]?=some (e.t,s):=by rw[List.getElem?_zip_eq_some];exact⟨by rw[aul,he];rfl,hs⟩
theorem axx {P:Prop} (h:P:=by
 go_roundw
 case rel=>exact⟨k+1,v3,by go_num,by omega,zq (by rw[HST.out];exact XH.out),V6⟩
 case measure=>simp[intOf];omega):P:=h
theorem avR {P:Prop} (h:P:=by obtain⟨f1,f2⟩:=kX (va:=.slice none 0 0) Ou.out jq.out Yo.out (VV.out.wide fun k hk=>.inl (by simp at hk;subst hk;exact atz ..)) (fun g hg=>.inr (hfin g hg)) (fun k hk=>by cases hk) (by omega) (by have:=jR.out;omega) (by have:=jR.out;omega);refine bodyPost_ret (aP rfl _ _ _ _ _ rfl f1 Tryz.underlying58 rfl Tryz.ed) rfl ?_;rw[←UQ.out];exact jE.GH (base:=wa.heap.size) (Gh:=w.heap.size) f2 (by have:=HSA.out;omega)):P:=h
theorem U3 (m:PM) (b0:Nat) (w:World) (hQ:Qx b0 [] w m) (kid:List C) (A:Option Addr) (n cap:Nat) (hC:Cs w A n cap kid) (hA:∀ad,A=some ad→ad.block<w.heap.size) (hel:m.ex.l.length=m.co.l.length) (hl:m.ex.l.length≤10000) (hfe:∀e∈m.ex.l,e.t.size≤16000∧e.t.every (fun t=>decide (t.s.length≤1000000))=true):
  Calls Tryz.prog 34 #[.agg #[.int .i64 m.kind,.string ⟨m.name.toArray⟩,.slice m.ex.A m.ex.l.length m.ex.cap,.slice m.co.A m.co.l.length m.co.cap,.slice m.lf.A m.lf.l.length m.lf.cap,.slice m.rt.A m.rt.l.length m.rt.cap,.slice m.ag.A m.ag.l.length m.ag.cap,.slice m.A m.kids.length m.cap],.slice A n cap] w (jE w.heap.size (.slice none 0 0) (p_ (m.ex.l.map M.t) m.co.l kid) w):=by
 obtain⟨hex,hlx,zK,_⟩:=hQ.at;obtain⟨w0,hw0,aT,xq,Hr,hs0⟩:=Dy w 32 #[.int .i64 m.kind,.string ⟨m.name.toArray⟩,.slice m.ex.A m.ex.l.length m.ex.cap,.slice m.co.A m.co.l.length m.co.cap,.slice m.lf.A m.lf.l.length m.lf.cap,.slice m.rt.A m.rt.l.length m.rt.cap,.slice m.ag.A m.ag.l.length m.ag.cap,.slice m.A m.kids.length m.cap];obtain⟨wa,zM⟩:∃wa,wa=w0.alloc (.cells #[.slice none 0 0,.int .i64 0,.string ⟨#[]⟩] 58):=⟨_,rfl⟩
 have aH:Ev w0 wa:=by rw[zM];exact Ev.alloc _ _
 have LP:=Bx.new 58 #[.slice none 0 0,.int .i64 0,.string ⟨#[]⟩] w0;rw[←zM]at LP;have hsa:wa.heap.size=w.heap.size+3:=by rw[zM];simp;omega
 have Yn:Hid (fK w0.heap.size wa.heap.size CR.zero (.slice none 0 0) wa):=zq ⟨LP,Ow.nil_ _,fun hm=>by cases hm⟩;have jq:=zq (Hr.ev aH);have HPB:Hid (∀w1,But [w0.heap.size] wa w1→Bx 32 w.heap.size #[.int .i64 m.kind,.string ⟨m.name.toArray⟩,.slice m.ex.A m.ex.l.length m.ex.cap,.slice m.co.A m.co.l.length m.co.cap,.slice m.lf.A m.lf.l.length m.lf.cap,.slice m.rt.A m.rt.l.length m.rt.cap,.slice m.ag.A m.ag.l.length m.ag.cap,.slice m.A m.kids.length m.cap] w1):=zq fun w1 hb=>(xq.ev aH).but hb (by simp;omega);have Ou:=zq (aT.trans aH);have V3:w0.heap.size=w.heap.size+2:=hs0;have jR:=zq V3;have HSA:=zq hsa;have HCK:Hid (∀w1,But [w0.heap.size] wa w1→Cs w1 A n cap kid):=zq fun w1 hb1=>(hC.ev (aT.trans aH)).but hb1 fun ad e=>by have:=hA ad e;simp;omega
 have HOB:Hid (∀w1 b,But [w0.heap.size] wa w1→b<w.heap.size→b<w1.heap.size):=zq fun w1 b hb hlt=>by have:=hb.size;omega
 have HBM:Hid (∀(v:Value) (Z:List C) w1 w2,But [w0.heap.size] wa w1→Ow 50 2 eP wa.heap.size w1 v Z→But (w0.heap.size::foot v) w1 w2→But [w0.heap.size] wa w2):=zq fun v Z w1 w2 h1 h2 h3=>h1.trans h3 fun x hx=>by rcases atA.1 hx with rfl|hx;exact .inl (by simp);exact .inr (h2.lt (aB.1 hx)).1
 have LZ:Hid (∀w1,But [w0.heap.size] wa w1→Es w1 m.ex.A m.ex.l.length m.ex.cap m.ex.l):=zq fun w1 hb1=>(hex.sl.ev (aT.trans aH)).but hb1 fun ad e=>by have:=(hex.z_ ad e).2.1;simp;omega
 have Ti:Hid (∀w1,But [w0.heap.size] wa w1→Ss w1 m.co.A m.co.l.length m.co.cap m.co.l):=zq fun w1 hb1=>(zK.sl.ev (aT.trans aH)).but hb1 fun ad e=>by have:=(zK.z_ ad e).2.1;simp;omega
 have UK:Hid (∀e∈m.ex.l,∀w1,But [w0.heap.size] wa w1→Lx b0 [] w1 e):=zq fun e he w1 hb1=>by
  have h1:Lx b0 [w0.heap.size] w e:=(hlx e he).less fun k hk=>by simp at hk;exact .inr (.inr (by omega))
  exact ((h1.ev (aT.trans aH)).move hb1 fun x hx=>.inl hx).less fun k hk=>by cases hk
 have kS:Hid (∀ad,m.ex.A=some ad→ad.block<w.heap.size):=zq fun ad e=>(hex.z_ ad e).2.1;have HKF:=zq (fun e (he:e∈m.ex.l) r v w1 (hR:fK w0.heap.size wa.heap.size r v w1) (hb1:But [w0.heap.size] wa w1)=>VL w0.heap.size wa.heap.size r v e b0 kid A n cap w1 hR (UK.out e he w1 hb1) (HCK.out w1 hb1) (hfe e he).1 (hfe e he).2);have HAD:=zq (fun r v nm k w1 (hR:fK w0.heap.size wa.heap.size r v w1) (KT:r.cols.length≤100000) (hb1:But [w0.heap.size] wa w1)=>OA w0.heap.size wa.heap.size r v nm k w1 hR KT hb1.size);have ahJ:=hex.sl.le;have aq4:=hex.sl.max;have wV:=zK.sl.le;have hcom:=zK.sl.max;unfold Bo at HAD;unfold p_;obtain⟨L,hL⟩:∃L,L=(m.ex.l.map M.t).zip m.co.l:=⟨_,rfl⟩
 rw[←hL];have HL:=zq hL;obtain⟨ne,hne⟩:∃ne,ne=m.ex.l.length:=⟨_,rfl⟩
 have uS:Hid (L.length=ne):=zq (by rw[hL,List.length_zip,atq,hne];omega);have HCL:Hid (m.co.l.length=ne):=zq (by rw[hne,hel]);have pg:Hid (∀k,k≤ne→((L.take k).foldl (uu kid) CR.zero).cols.length≤10000):=zq fun k hk=>by have h1:=tH (uu kid) 1 (XG kid) (L.take k) CR.zero;have h2:(L.take k).length≤k:=List.length_take_le _ _;have h3:CR.zero.cols.length=0:=rfl;omega
 obtain⟨⟨p0,p1,p2,p3,p4,p5,p6,p7⟩,_⟩:=(HPB.out wa (But.refl _ _)).eight;rw[←hne]at ahJ p2 hl;rw[HCL.out]at wV p3;simp only[←hne,HCL.out]at HPB LZ Ti hw0 zM⊢;clear hQ hex hlx zK hC hA hfe aT aH xq Hr LP hs0 hsa V3 hel hL hne;generalize m.ex.A=exA at*;generalize m.co.A=coA at*;go_enter Tryz.func34,Tryz.ntmps34;go_upto_region 2 with fail
 rw[←zM];clear zM;go_wp2
 go_loopw [12] (fun iv wr=>∃(k:Nat) (v:Value),iv=.int .i64 (k:Int)∧k≤ne∧Hid (fK w0.heap.size wa.heap.size ((L.take k).foldl (uu kid) CR.zero) v wr)∧Hid (But [w0.heap.size] wa wr)) (fun iv _=>ne - (intOf iv).toNat)
 case atStart=>exact⟨0,.slice none 0 0,rfl,atG _,Yn,zq (But.refl _ _)⟩
 case round=>
  obtain⟨k,v,rfl,hk,HR,HB⟩:=hrel;by_cases hlt:k<ne
  ·obtain⟨e,he⟩:=(LZ.out wr HB.out).at hlt;obtain⟨s,hs⟩:∃s,m.co.l[k]?=some s:=⟨_,atN (by rw[HCL.out];exact hlt)⟩
   have hz:=ae6 he hs;rw[←HL.out]at hz;have HST:Hid ((L.take (k+1)).foldl (uu kid) CR.zero=(((L.take k).foldl (uu kid) CR.zero).kind kid e.t).add (dh s) (xType kid e.t).1):=zq (xZ hz);obtain⟨be,oe,rfl,_,e0,e1,e2,e3⟩:=Es.cell (LZ.out wr HB.out) he;have als:=HOB.out wr be HB.out (kS.out _ rfl);unfold M.kv at e3;have HCS:Hid (∀w1,But [w0.heap.size] wa w1→∃b off,coA=some ⟨b,off,none⟩∧w1.cell? ⟨b,off+k,none⟩=some (.string ⟨s.toArray⟩)):=zq fun w1 hb1=>Ss.CZ (Ti.out w1 hb1) hs;have hgr:=HR.out.box.lt;have hBE:=Bx.new 47 #[.int .i64 e.kind,.string ⟨e.s.toArray⟩,.int .i64 e.n,.slice e.A e.kids.length e.cap] wr;obtain⟨⟨c0,c1,c2,c3⟩,_⟩:=hBE.four;have sW:=zq (HB.out.then (But.aS (Ev.alloc wr (.cells #[.int .i64 e.kind,.string ⟨e.s.toArray⟩,.int .i64 e.n,.slice e.A e.kids.length e.cap] 47))));have GL:=zq (HKF.out e (atw he) _ v _ (HR.out.ev (Ev.alloc wr (.cells #[.int .i64 e.kind,.string ⟨e.s.toArray⟩,.int .i64 e.n,.slice e.A e.kids.length e.cap] 47))) sW.out);have i1:(0:Int)≤(k:Int):=by omega
   have i2:(k:Int)<(ne:Int):=by omega
   clear he hs hz hBE
   go_wp2_with (first
    | ((with_reducible refine (GL.out).mono ?_);rintro r_ w2 ⟨rfl,hR2,hB2⟩;have tZ:=zq hR2;have DY:=zq (sW.out.then hB2);have uI:=HAD.out _ v (dh s) (xType kid e.t).1 w2 hR2 (by rw[CR.nV];have:=pg.out k (by omega);omega) (sW.out.then hB2);unfold dh at uI;have uI:=zq uI;obtain⟨⟨q0,q1,q2,q3,q4,q5,q6,q7⟩,_⟩:=(HPB.out w2 (sW.out.then hB2)).eight;obtain⟨bc,oc,rfl,hcs⟩:=HCS.out w2 (sW.out.then hB2);clear hR2 hB2 c0 c1 c2 c3)
    | ((with_reducible refine (uI.out).mono ?_);rintro r_ w3 ⟨rfl,v3,Ny,pq,DV⟩;have XH:=zq Ny;have V6:=zq (HBM.out v _ w2 w3 DY.out tZ.out.own pq);clear Ny pq DV))
   exact axx
  obtain rfl:k=ne:=by omega
  have HT:Hid (L.take k=L):=zq (atJ (by rw[uS.out];exact att _));rw[HT.out]at HR;obtain⟨A1,cap1,rfl,hC1⟩:=HR.out.form;have HLM:=zq (CY w0.heap.size wa.heap.size _ A1 _ cap1 wr HR.out);obtain⟨RL,hRL⟩:∃RL,RL=L.foldl (uu kid) CR.zero:=⟨_,rfl⟩
  have UQ:=zq hRL;rw[←hRL]at HLM;clear hC1 hRL
  go_wp2_with (first
   | ((with_reducible refine (HLM.out).mono ?_);rintro r_ w2 ⟨rfl,hR2,hB2⟩;have Yo:=zq hR2;have VV:=zq (HB.out.then hB2);obtain⟨⟨d0,d1,d2⟩,_⟩:=hR2.box.three;obtain⟨⟨g0,g1,g2⟩,z0,z1,z2⟩:=(jq.out.but (HB.out.then hB2) (by have:=jR.out;simp;omega)).three;clear hR2 hB2))
  (try simp only[Exit.inBlock,Exit.then]);rw[cO];have hv3:=Yo.out.own;have hfin:∀g,(Value.slice A1 RL.cols.length cap1).ownBlock=some g→wa.heap.size≤g:=fun g hg=>(hv3.lt hg).1;exact avR
theorem As.CZ {w:World} {A:Option Addr} {n cap:Nat} {l:List Ag} (h:As w A n cap l) {i:Nat} {x:Ag} (hx:l[i]?=some x):∃b off,A=some ⟨b,off,none⟩∧w.cell? ⟨b,off+i*3,none⟩=some (.string ⟨x.1.toArray⟩)∧w.cell? ⟨b,off+i*3+1,none⟩=some (.string ⟨x.2.1.toArray⟩)∧w.cell? ⟨b,off+i*3+2,none⟩=some (.string ⟨x.2.2.toArray⟩):=by have hi:=(atr.1 hx).1;have hl:=h.len;obtain⟨b,off,e,_,hc⟩:=h.rd (by omega);exact⟨b,off,e,hc i x hx 0 _ rfl,hc i x hx 1 _ rfl,hc i x hx 2 _ rfl⟩
theorem U4 (kid:List C) (r:CR) (x:By):(rO kid r x).cols.length≤r.cols.length+1:=by unfold rO;rw[CR.kU,CR.iC];simp
theorem XI (kid:List C) (r:CR) (x:Ag):(r.agg kid x).cols.length≤r.cols.length+1:=by rw[CR.Zu];omega
theorem aak (m:PM) (b0:Nat) (w:World) (hQ:Qx b0 [] w m) (kid:List C) (A:Option Addr) (n cap:Nat) (hC:Cs w A n cap kid) (hA:∀ad,A=some ad→ad.block<w.heap.size) (jd:m.lf.l.length≤10000) (hla:m.ag.l.length≤10000):
  Calls Tryz.prog 37 #[.agg #[.int .i64 m.kind,.string ⟨m.name.toArray⟩,.slice m.ex.A m.ex.l.length m.ex.cap,.slice m.co.A m.co.l.length m.co.cap,.slice m.lf.A m.lf.l.length m.lf.cap,.slice m.rt.A m.rt.l.length m.rt.cap,.slice m.ag.A m.ag.l.length m.ag.cap,.slice m.A m.kids.length m.cap],.slice A n cap] w (jE w.heap.size (.slice none 0 0) (xX m.lf.l m.ag.l kid) w):=by
 obtain⟨_,_,_,rC,_,zf,_,_⟩:=hQ.at;obtain⟨w0,hw0,aT,xq,Hr,hs0⟩:=Dy w 32 #[.int .i64 m.kind,.string ⟨m.name.toArray⟩,.slice m.ex.A m.ex.l.length m.ex.cap,.slice m.co.A m.co.l.length m.co.cap,.slice m.lf.A m.lf.l.length m.lf.cap,.slice m.rt.A m.rt.l.length m.rt.cap,.slice m.ag.A m.ag.l.length m.ag.cap,.slice m.A m.kids.length m.cap];obtain⟨wa,zM⟩:∃wa,wa=w0.alloc (.cells #[.slice none 0 0,.int .i64 0,.string ⟨#[]⟩] 58):=⟨_,rfl⟩
 have aH:Ev w0 wa:=by rw[zM];exact Ev.alloc _ _
 have LP:=Bx.new 58 #[.slice none 0 0,.int .i64 0,.string ⟨#[]⟩] w0;rw[←zM]at LP;have hsa:wa.heap.size=w.heap.size+3:=by rw[zM];simp;omega
 have Yn:Hid (fK w0.heap.size wa.heap.size CR.zero (.slice none 0 0) wa):=zq ⟨LP,Ow.nil_ _,fun hm=>by cases hm⟩;have jq:=zq (Hr.ev aH);have HPB:Hid (∀w1,But [w0.heap.size] wa w1→Bx 32 w.heap.size #[.int .i64 m.kind,.string ⟨m.name.toArray⟩,.slice m.ex.A m.ex.l.length m.ex.cap,.slice m.co.A m.co.l.length m.co.cap,.slice m.lf.A m.lf.l.length m.lf.cap,.slice m.rt.A m.rt.l.length m.rt.cap,.slice m.ag.A m.ag.l.length m.ag.cap,.slice m.A m.kids.length m.cap] w1):=zq fun w1 hb=>(xq.ev aH).but hb (by simp;omega);have Ou:=zq (aT.trans aH);have V3:w0.heap.size=w.heap.size+2:=hs0;have jR:=zq V3;have HSA:=zq hsa;have HCK:Hid (∀w1,But [w0.heap.size] wa w1→Cs w1 A n cap kid):=zq fun w1 hb1=>(hC.ev (aT.trans aH)).but hb1 fun ad e=>by have:=hA ad e;simp;omega
 have HOB:Hid (∀w1 b,But [w0.heap.size] wa w1→b<w.heap.size→b<w1.heap.size):=zq fun w1 b hb hlt=>by have:=hb.size;omega
 have HBM:Hid (∀(v:Value) (Z:List C) w1 w2,But [w0.heap.size] wa w1→Ow 50 2 eP wa.heap.size w1 v Z→But (w0.heap.size::foot v) w1 w2→But [w0.heap.size] wa w2):=zq fun v Z w1 w2 h1 h2 h3=>h1.trans h3 fun x hx=>by rcases atA.1 hx with rfl|hx;exact .inl (by simp);exact .inr (h2.lt (aB.1 hx)).1
 have KR:Hid (∀w1,But [w0.heap.size] wa w1→Ss w1 m.lf.A m.lf.l.length m.lf.cap m.lf.l):=zq fun w1 hb1=>(rC.sl.ev (aT.trans aH)).but hb1 fun ad e=>by have:=(rC.z_ ad e).2.1;simp;omega
 have DX:Hid (∀w1,But [w0.heap.size] wa w1→As w1 m.ag.A m.ag.l.length m.ag.cap m.ag.l):=zq fun w1 hb1=>(zf.sl.ev (aT.trans aH)).but hb1 fun ad e=>by have:=(zf.z_ ad e).2.1;simp;omega
 have HAR:Hid (∀ad,m.ag.A=some ad→ad.block<w.heap.size):=zq fun ad e=>(zf.z_ ad e).2.1;have uX:=zq (fun s r v w1 (hR:fK w0.heap.size wa.heap.size r v w1) (hb1:But [w0.heap.size] wa w1)=>Ha w0.heap.size wa.heap.size r v kid A n cap s w1 hR (HCK.out w1 hb1));have HAD:=zq (fun r v nm k w1 (hR:fK w0.heap.size wa.heap.size r v w1) (KT:r.cols.length≤100000) (hb1:But [w0.heap.size] wa w1)=>OA w0.heap.size wa.heap.size r v nm k w1 hR KT hb1.size);have HAA:=zq (fun (a:Ag) r v w1 (hR:fK w0.heap.size wa.heap.size r v w1) (KT:r.cols.length≤100000) (hb1:But [w0.heap.size] wa w1)=>aeU w0.heap.size wa.heap.size r v a kid A n cap w1 hR KT hb1.size (HCK.out w1 hb1) (fun ad e hm=>by
  have:=hA ad e;rcases atA.1 hm with h1|h1;omega;have:=(hR.own.lt (aB.1 h1)).1;omega) (fun ad e=>by have:=hA ad e;have:=hb1.size;omega))
 have alv:=rC.sl.le;have aq7:=rC.sl.max;have alx:=zf.sl.le;have aq8:=zf.sl.max;unfold Bo at HAD HAA;unfold xX;simp only;obtain⟨R1,hR1⟩:∃R1,R1=m.lf.l.foldl (rO kid) CR.zero:=⟨_,rfl⟩
 rw[←hR1];obtain⟨R2,hR2⟩:∃R2,R2=m.ag.l.foldl (fun r a=>r.agg kid a) R1:=⟨_,rfl⟩
 rw[←hR2];have lX:=zq hR1;have tZ:=zq hR2;obtain⟨R3,Ny⟩:∃R3,R3=(if R2.cols.length=0 then R2.fail 23 ⟨#[]⟩ else R2).limit:=⟨_,rfl⟩
 rw[←Ny];have ack:=zq Ny;obtain⟨nl,hnl⟩:∃nl,nl=m.lf.l.length:=⟨_,rfl⟩
 obtain⟨na,JS⟩:∃na,na=m.ag.l.length:=⟨_,rfl⟩
 have iQ:=zq hnl;have ES:=zq JS;have pg:Hid (∀k,((m.lf.l.take k).foldl (rO kid) CR.zero).cols.length≤10000):=zq fun k=>by
  have h1:=tH (rO kid) 1 (U4 kid) (m.lf.l.take k) CR.zero;have h2:(m.lf.l.take k).length≤m.lf.l.length:=by rw[aua];omega
  have h3:CR.zero.cols.length=0:=rfl;omega
 have ahK:Hid (R1.cols.length≤10000):=zq (by rw[hR1];have:=pg.out m.lf.l.length;rwa [auf]at this);have aly:Hid (∀k,((m.ag.l.take k).foldl (fun r a=>r.agg kid a) R1).cols.length≤20000):=zq fun k=>by
  have h1:=tH (fun r (a:Ag)=>r.agg kid a) 1 (XI kid) (m.ag.l.take k) R1;have h2:(m.ag.l.take k).length≤m.ag.l.length:=by rw[aua];omega
  have:=ahK.out;omega
 obtain⟨⟨p0,p1,p2,p3,p4,p5,p6,p7⟩,_⟩:=(HPB.out wa (But.refl _ _)).eight;rw[←hnl]at alv p4 jd;rw[←JS]at alx p6 hla;simp only[←hnl,←JS]at HPB KR DX hw0 zM⊢;clear hQ rC zf hC hA aT aH xq Hr LP hs0 hsa V3 hR1 hR2 Ny hnl JS;generalize m.lf.A=lfA at*;generalize m.ag.A=agA at*;go_enter Tryz.func37,Tryz.ntmps37;go_upto_region 2 with fail
 rw[←zM];clear zM;go_wp2
 go_loopw [14] (fun iv wr=>∃(k:Nat) (v:Value),iv=.int .i64 (k:Int)∧k≤nl∧Hid (fK w0.heap.size wa.heap.size ((m.lf.l.take k).foldl (rO kid) CR.zero) v wr)∧Hid (But [w0.heap.size] wa wr)) (fun iv _=>nl - (intOf iv).toNat)
 case atStart=>exact⟨0,.slice none 0 0,rfl,atG _,Yn,zq (But.refl _ _)⟩
 case round=>
  obtain⟨k,v,rfl,hk,HR,HB⟩:=hrel;by_cases hlt:k<nl
  ·obtain⟨s,hs⟩:=(KR.out wr HB.out).at hlt;have HST:Hid ((m.lf.l.take (k+1)).foldl (rO kid) CR.zero=(((m.lf.l.take k).foldl (rO kid) CR.zero).find kid (dh s)).add (dh s) (dR kid (dh s))):=zq (xZ hs);obtain⟨be,oe,rfl,hcs⟩:=Ss.CZ (KR.out wr HB.out) hs;have GL:=uX.out (dh s) _ v wr HR.out HB.out;unfold dh at GL;have GL:=zq GL;have i1:(0:Int)≤(k:Int):=by omega
   have i2:(k:Int)<(nl:Int):=by omega
   clear hs
   go_wp2_with (first
    | ((with_reducible refine (GL.out).mono ?_);rintro r_ w2 ⟨rfl,hR2,hB2⟩;have ahL:=zq hR2;have DY:=zq (HB.out.then hB2);have uI:=HAD.out _ v (dh s) (dR kid (dh s)) w2 hR2 (by rw[CR.iC];have:=pg.out k;omega) (HB.out.then hB2);unfold dh at uI;have uI:=zq uI;clear hR2 hB2)
    | ((with_reducible refine (uI.out).mono ?_);rintro r_ w3 ⟨rfl,v3,Ny,pq,DV⟩;have XH:=zq Ny;have V6:=zq (HBM.out v _ w2 w3 DY.out ahL.out.own pq);clear Ny pq DV))
   exact axx
  obtain rfl:k=nl:=by omega
  have HT:Hid (m.lf.l.take k=m.lf.l):=zq (atJ (by rw[iQ.out];exact att _));rw[HT.out,←lX.out]at HR;have HRa:Hid (fK w0.heap.size wa.heap.size ((m.ag.l.take 0).foldl (fun r a=>r.agg kid a) R1) v wr):=zq (by simpa using HR.out);obtain⟨wo,rfl⟩:∃wo:World,wo=wr:=⟨_,rfl⟩
  obtain⟨⟨q0,q1,q2,q3,q4,q5,q6,q7⟩,_⟩:=(HPB.out wo HB.out).eight;clear p0 p1 p2 p3 p4 p5 p6 p7;go_wp2
  go_loopw [28] (fun iv wr=>∃(j:Nat) (v:Value),iv=.int .i64 (j:Int)∧j≤na∧Hid (fK w0.heap.size wa.heap.size ((m.ag.l.take j).foldl (fun r a=>r.agg kid a) R1) v wr)∧Hid (But [w0.heap.size] wa wr)) (fun iv _=>na - (intOf iv).toNat)
  case atStart=>exact⟨0,v,rfl,atG _,HRa,HB⟩
  case round=>
   obtain⟨j,v5,rfl,hj,Yp,NF⟩:=hrel;by_cases Yl:j<na
   ·obtain⟨a,ha⟩:=(DX.out wr NF.out).at Yl;have HST:Hid ((m.ag.l.take (j+1)).foldl (fun r a=>r.agg kid a) R1=((m.ag.l.take j).foldl (fun r a=>r.agg kid a) R1).agg kid a):=zq (xZ ha);obtain⟨be,oe,rfl,a0,a1,a2⟩:=As.CZ (DX.out wr NF.out) ha;have als:=HOB.out wr be NF.out (HAR.out _ rfl);have hBA:=Bx.new 54 #[.string ⟨a.1.toArray⟩,.string ⟨a.2.1.toArray⟩,.string ⟨a.2.2.toArray⟩] wr;obtain⟨⟨c0,c1,c2⟩,_⟩:=hBA.three;have pF:=zq (NF.out.then (But.aS (Ev.alloc wr (.cells #[.string ⟨a.1.toArray⟩,.string ⟨a.2.1.toArray⟩,.string ⟨a.2.2.toArray⟩] 54))));have HR6:=Yp.out.ev (Ev.alloc wr (.cells #[.string ⟨a.1.toArray⟩,.string ⟨a.2.1.toArray⟩,.string ⟨a.2.2.toArray⟩] 54));have GL:=zq (HAA.out a _ v5 _ HR6 (by have:=aly.out j;omega) pF.out);have HR6:=zq HR6;have i1:(0:Int)≤(j:Int):=by omega
    have i2:(j:Int)<(na:Int):=by omega
    clear ha hBA
    go_wp2_with (first
     | ((with_reducible refine (GL.out).mono ?_);rintro r_ w3 ⟨rfl,v3,Ny,pq,DV⟩;have XH:=zq Ny;have V6:=zq (HBM.out v5 _ _ w3 pF.out HR6.out.own pq);clear Ny pq DV))
    go_roundw
    case rel=>exact⟨j+1,v3,by go_num,by omega,zq (by rw[HST.out];exact XH.out),V6⟩
    case measure=>simp[intOf];omega
   obtain rfl:j=na:=by omega
   have HT5:Hid (m.ag.l.take j=m.ag.l):=zq (atJ (by rw[ES.out];exact att _));rw[HT5.out,←tZ.out]at Yp;obtain⟨A1,cap1,rfl,hC1⟩:=Yp.out.form;obtain⟨nc,yI⟩:∃nc,nc=R2.cols.length:=⟨_,rfl⟩
   have OX:=zq yI;rw[←yI]at Yp;obtain⟨⟨k0,k1,k2⟩,_⟩:=Yp.out.box.three;have aq9:nc≤9223372036854775807:=by have h1:=hC1.le;have h2:=hC1.max;omega
   by_cases hz:nc=0
   ·have Na:=zq (mM w0.heap.size wa.heap.size R2 (.slice A1 nc cap1) 23 ⟨#[]⟩ wr Yp.out);have UQ:Hid ((R2.fail 23 ⟨#[]⟩).limit=R3):=zq (by rw[ack.out,if_pos (by rw[←OX.out];exact hz)]);subst hz;clear hC1 yI
    go_wp2_with (first
     | ((with_reducible refine (Na.out).mono ?_);rintro r_ w2 ⟨rfl,hR2,hB2⟩;have HLM:=zq (CY w0.heap.size wa.heap.size _ A1 0 cap1 w2 hR2);have GM:=zq (NF.out.then hB2);clear hR2 hB2)
     | ((with_reducible refine (HLM.out).mono ?_);rintro r_ w4 ⟨rfl,hR2,hB2⟩;have Yo:=zq hR2;have VV:=zq (GM.out.then hB2);obtain⟨⟨d0,d1,d2⟩,_⟩:=hR2.box.three;obtain⟨⟨g0,g1,g2⟩,z0,z1,z2⟩:=(jq.out.but (GM.out.then hB2) (by have:=jR.out;simp;omega)).three;clear hR2 hB2))
    (try simp only[Exit.inBlock,Exit.then]);rw[cO];have hv3:=Yo.out.own;have hfin:∀g,(Value.slice A1 0 cap1).ownBlock=some g→wa.heap.size≤g:=fun g hg=>(hv3.lt hg).1;exact avR
   have HLM:=zq (CY w0.heap.size wa.heap.size _ A1 nc cap1 wr Yp.out);have UQ:Hid (R2.limit=R3):=zq (by rw[ack.out,if_neg (by rw[←OX.out];exact hz)]);have hz2:(nc==0)=false:=atp.2 hz;have hz3:((nc:Int)==0)=false:=atp.2 (by omega);clear hC1 yI
   go_wp2_with (first
    | ((with_reducible refine (HLM.out).mono ?_);rintro r_ w4 ⟨rfl,hR2,hB2⟩;have Yo:=zq hR2;have VV:=zq (NF.out.then hB2);obtain⟨⟨d0,d1,d2⟩,_⟩:=hR2.box.three;obtain⟨⟨g0,g1,g2⟩,z0,z1,z2⟩:=(jq.out.but (NF.out.then hB2) (by have:=jR.out;simp;omega)).three;clear hR2 hB2))
   (try simp only[Exit.inBlock,Exit.then]);rw[cO];have hv3:=Yo.out.own;have hfin:∀g,(Value.slice A1 nc cap1).ownBlock=some g→wa.heap.size≤g:=fun g hg=>(hv3.lt hg).1;exact avR
theorem DI (w:World) (m:PM):∃w0,w.alloc (.cells #[.int .i64 m.kind,.string ⟨m.name.toArray⟩,.slice m.ex.A m.ex.l.length m.ex.cap,.slice m.co.A m.co.l.length m.co.cap,.slice m.lf.A m.lf.l.length m.lf.cap,.slice m.rt.A m.rt.l.length m.rt.cap,.slice m.ag.A m.ag.l.length m.ag.cap,.slice m.A m.kids.length m.cap] 32)=w0∧Ev w w0∧Bx 32 w.heap.size #[.int .i64 m.kind,.string ⟨m.name.toArray⟩,.slice m.ex.A m.ex.l.length m.ex.cap,.slice m.co.A m.co.l.length m.co.cap,.slice m.lf.A m.lf.l.length m.lf.cap,.slice m.rt.A m.rt.l.length m.rt.cap,.slice m.ag.A m.ag.l.length m.ag.cap,.slice m.A m.kids.length m.cap] w0∧w0.heap.size=w.heap.size+1:=⟨_,rfl,Ev.alloc _ _,Bx.new _ _ _,by simp⟩
def adE (m:PM) (most:Nat) (w:World) (e:Ending) (w':World):Prop:=
 ∃(A:Option Addr) (n cap:Nat) (L:List Pp),e=.returned (.tuple #[.slice A n cap,.bool (decide (m.p.size≤most))])∧Sl 1 ppc w' A n cap L∧(∀x∈L,O7 w' x)∧(m.p.size≤most→∀f:Pl→Nat,lM f L=m.p.sum f)∧(¬m.p.size≤most→L=[])∧n≤most∧Ev w w'
theorem RN.any {m:PM} {most:Nat} {w w':World} {e:Ending} (h:RN m most w e w'):adE m most w e w':=by
 rcases h with⟨A,n,cap,L,b0,rfl,hS,hP,hf,hs,hE⟩|⟨rfl,hs,hE⟩
 refine⟨A,n,cap,L,by rw[atX hs],hS,hP,fun _=>hf,fun h=>absurd hs h,?_,hE⟩;have h1:=hf fun _=>1;rw[ET,O8,hS.len]at h1;omega;exact⟨none,0,0,[],by rw[auj (by omega)],Sl.nil_ w',(fun x hx=>by cases hx),fun h=>absurd h (by omega),fun _=>rfl,atG _,hE⟩
theorem XO (f:Pl→Nat) (L:List Pp) {k:Nat} {x:Pp} (h:L[k]?=some x):lM f (L.take (k+1))=lM f (L.take k)+f x.2.p:=by rw[(drop_at h).2,vO];simp[lM]
theorem acx (f:Pl→Nat) (L:List Pp) (k:Nat):lM f (L.take k)≤lM f L:=by have:=vO f (L.take k) (L.drop k);rw[auy]at this;omega
theorem acy (x:PM):nC x.p=x.ex.l.length+x.co.l.length+x.lf.l.length+x.rt.l.length+x.ag.l.length:=by rw[PM.pY];simp[nC,Pl.exprs,Pl.cols,Pl.left,Pl.right,Pl.Ez]
theorem axj {P:Prop} (h:P:=by go_wp2;go_ret;exact⟨by first|(rw[HQ.out];rfl)|(have h:=HQ.out;rw[Bool.decide_and]at h;rw[h];rfl),(HE.out.trans rD.out).trans kS.out⟩):P:=h
theorem JY (m:PM) (b0:Nat) (w:World) (h:Qx b0 [] w m) (hsz:m.p.size≤1000000) (hpt:m.p.sum nC≤1000000000):
  Calls Tryz.prog 28 #[pv m] w fun e w'=>e=.returned (.bool (decide (m.p.size≤600∧m.p.sum nC≤600)))∧Ev w w':=by
 have HW:=zq (fun w1 (hE:Ev w w1)=>(XF m b0 600 w1 (h.ev hE) hsz (by omega) (by omega)).mono fun e w2 h=>h.any);unfold adE at HW;obtain⟨w0,hw0,aT,hB,_⟩:=DI w m;obtain⟨⟨p0,p1,p2,p3,p4,p5,p6,p7⟩,_⟩:=hB.eight;have HE:=zq aT;have HPT:=zq hpt;obtain⟨ok,A8⟩:∃ok,ok=decide (m.p.size≤600):=⟨_,rfl⟩
 have HOK:=zq A8;rw[←A8]at HW;unfold pv eU.v PM.kv at*;rw[show ((600:Nat):Int)=600 from rfl]at HW;clear h hB aT hsz hpt A8;go_enter Tryz.func28,Tryz.ntmps28
 go_wp2_with (first
  | ((with_reducible refine (HW.out _ HE.out).mono ?_);rintro e w2 ⟨A,n,cap,L,rfl,hS,hP,hf,hno,hn6,bK⟩;simp only[];have HS:=zq hS;have HP:=zq hP;have HF:=zq hf;have HNO:=zq hno;have hcl:=hS.le;have hcm:=hS.max;have rD:=zq bK;have vZ:=zq hS.len;clear hS hP hf hno bK p0 p1 p2 p3 p4 p5 p6 p7))
 have HB:=zq (by
  by_cases hs:m.p.size≤600;rw[HF.out hs];exact HPT.out;rw[HNO.out hs];simp[lM]:lM nC L≤1000000000)
 go_loopw [5,15] (fun rv iv wr=>∃(k s:Nat),rv=.int .i64 (600 - (s:Int))∧iv=.int .i64 (k:Int)∧k≤n∧s≤1000000000∧Hid (s=lM nC (L.take k))∧Hid (Ev w2 wr)) (fun _ iv _=>n - (intOf iv).toNat)
 case atStart=>exact⟨0,0,rfl,rfl,atG _,by omega,zq rfl,zq (Ev.refl _)⟩
 case round=>
  obtain⟨k,s,rfl,rfl,hk,hsb,HSS,kS⟩:=hrel;by_cases hlt:k<n
  ·obtain⟨x,hx⟩:=HS.out.at hlt;obtain⟨b,off,rfl,hb,_⟩:=(HS.out.ev kS.out).rd (by omega);have c0:=V5 (HS.out.ev kS.out) hx;obtain⟨b',off',e',hb',p0,p1,p2,p3,p4,p5,p6,p7⟩:=(HP.out x (atw hx)).ev kS.out;rw[e']at c0;have hst:=XO nC L hx;have Gs:=acx nC L (k+1);rw[acy,←HSS.out]at hst;have hbd:=HB.out;have HST:=zq hst;have b1:s+(x.2.ex.l.length+x.2.co.l.length+x.2.lf.l.length+x.2.rt.l.length+x.2.ag.l.length)≤1000000000:=by omega
   generalize x.2.ex.l.length=n1 at*;generalize x.2.co.l.length=n2 at*;generalize x.2.lf.l.length=n3 at*;generalize x.2.rt.l.length=n4 at*;generalize x.2.ag.l.length=n5 at*;have i1:(0:Int)≤(k:Int):=by omega
   have i2:(k:Int)<(n:Int):=by omega
   clear hx hst Gs hbd e' p0 p1 p7;go_upto_region 6 with fail
   go_quiet (fail)
   go_wp2;go_roundw
   case rel=>exact⟨k+1,s+(n1+n2+n3+n4+n5),by congr 1;omega,by go_num,by omega,b1,zq HST.out.symm,zq (kS.out.trans (Ev.drewN _ _))⟩
   case measure=>simp[intOf];omega
  obtain rfl:k=n:=by omega
  have alU:Hid (s=lM nC L):=zq (by
   have h1:=HSS.out;rwa [atJ (by rw[vZ.out];exact att _)]at h1)
  have aff:Hid (decide (m.p.size≤600∧m.p.sum nC≤600)=(ok&&decide (s≤600))):=zq (by
   rw[HOK.out];by_cases hs:m.p.size≤600;rw[alU.out,HF.out hs,atX hs,auA];simp[hs];rw[auj hs,aum];simp[hs])
  cases ok
  have HQ:Hid (decide (m.p.size≤600∧m.p.sum nC≤600)=false):=zq (by rw[aff.out];rfl);exact axj;by_cases hs6:s≤600;have i3:(s:Int)≤600:=by omega
  have HQ:Hid (decide (m.p.size≤600∧m.p.sum nC≤600)=true):=zq (by rw[aff.out,atX hs6];rfl);exact axj;have i3:¬((s:Int)≤600):=by omega
  have HQ:Hid (decide (m.p.size≤600∧m.p.sum nC≤600)=false):=zq (by rw[aff.out,auj hs6];rfl);exact axj
theorem aas (m:PM) (b0:Nat) (w:World) (hT:Tab w) (h:Qx b0 [] w m) (hg:m.p.good) (hsz:(aC m.p).size≤10000) (hlen:(printS (aC m.p)).length≤100000):
  Calls Tryz.prog 17 #[pv m] w fun e w'=>e=.returned (.string ⟨(rJ m.p).toArray⟩)∧Ev w w':=by
 have hfit:=Dw _ hg hsz;have nU:=(QT m.p hg).2.2;have hpl:=Nv m.p hg;rw[(Z5 nC (fun _=>1)).1,Jy]at hpl;have HS:=zq (fun w1 (hE:Ev w w1)=>JY m b0 w1 (h.ev hE) (by omega) (by omega));have RH:=zq (fun w1 (hE:Ev w w1)=>OV m b0 w1 (hT.ev hE) (h.ev hE) hfit (by omega) (by omega) (fun e=>by have:=(Dv _ nU).1;rw[e]at this;simp at this) (zB _ (jl _ nU).1));have AL:=zq (fun w1 (hE:Ev w w1)=>V4 (printS (aC m.p)) w1 (hT.ev hE) hlen);have HSM:=zq (fun m2 (hp:m2.p=m.p) b1 w1 (hE:Ev w w1) (h2:Qx b1 [] w1 m2)=>XD m.dep m m2 b0 b1 w1 (att _) (h.ev hE) h2 hp.symm hg hfit);obtain⟨r1,r2,r3⟩:=Rl m.p hg;obtain⟨w0,hw0,aT,hB,_⟩:=DI w m;obtain⟨⟨p0,p1,p2,p3,p4,p5,p6,p7⟩,_⟩:=hB.eight;have HE:=zq aT;have HB:=zq hB;unfold bu at AL;unfold Yes at HSM;unfold pv eU.v PM.kv at*;by_cases hsm:m.p.size≤600∧m.p.sum nC≤600
 ·rw[atX hsm]at HS;obtain⟨PS,vN⟩:∃PS,PS=printS (aC m.p):=⟨_,rfl⟩
  by_cases A8:(printS (aC m.p)).length≤600∧(aC m.p).deep≤12
  ·rw[show rJ m.p=printS (aC m.p) by unfold rJ;rw[if_pos A8]];rw[r1 A8.1 A8.2]at AL;simp only at AL;rw[←vN]at AL RH⊢;clear h hB aT hsz hlen hT hg hfit nU hpl r1 r2 r3 hsm A8 vN;go_enter Tryz.func17,Tryz.ntmps17
   go_wp2_with (first
    | ((with_reducible refine (HS.out _ HE.out).mono ?_);rintro e w1 ⟨rfl,aH⟩;have E1:=zq (HE.out.trans aH);clear p0 p1 p2 p3 p4 p5 p6 p7;obtain⟨⟨p0,p1,p2,p3,p4,p5,p6,p7⟩,_⟩:=(HB.out.ev aH).eight;have sW:=zq (HB.out.ev aH);clear aH)
    | ((with_reducible refine (RH.out _ E1.out).mono ?_);rintro e w2 ⟨rfl,bK⟩;have E2:=zq (E1.out.trans bK);clear p0 p1 p2 p3 p4 p5 p6 p7;have DY:=zq (sW.out.ev bK);clear bK)
    | ((with_reducible refine (AL.out _ E2.out).mono ?_);rintro e w3 ⟨m2,rfl,hp2,Yq,iE⟩;simp only[];obtain⟨w4,hw4,gI,D5,_⟩:=DI w3 m2;have E4:=zq (E2.out.trans (iE.trans gI));have HP2:=zq hp2;have HQ2:=zq (Yq.ev gI);obtain⟨⟨q0,q1,q2,q3,q4,q5,q6,q7⟩,_⟩:=D5.eight;obtain⟨⟨p0,p1,p2,p3,p4,p5,p6,p7⟩,_⟩:=(DY.out.ev (iE.trans gI)).eight;clear hp2 Yq iE gI D5)
    | ((with_reducible refine (HSM.out m2 HP2.out _ _ E4.out HQ2.out).mono ?_);rintro e w5 ⟨rfl,Cm⟩;have E5:=zq (E4.out.trans Cm)))
   go_ret;exact⟨rfl,E5.out⟩
  rw[show rJ m.p=[] by unfold rJ;rw[if_neg A8]];have hne:(lG (printS (aC m.p))).2.1≠0:=by by_cases hl:(printS (aC m.p)).length≤600;rw[r3 hl (by omega)];decide;rw[r2 (by omega)];decide
  rw[←vN]at AL RH hne;generalize lG PS=R at AL hne;obtain⟨Rp,Rw,Rx⟩:=R;simp only at AL hne;have hneb:(Rw !=0)=true:=auJ.2 hne;clear h hB aT hsz hlen hT hg hfit nU hpl r1 r2 r3 hsm A8 vN hne;go_enter Tryz.func17,Tryz.ntmps17
  go_wp2_with (first
   | ((with_reducible refine (HS.out _ HE.out).mono ?_);rintro e w1 ⟨rfl,aH⟩;have E1:=zq (HE.out.trans aH);clear p0 p1 p2 p3 p4 p5 p6 p7;obtain⟨⟨p0,p1,p2,p3,p4,p5,p6,p7⟩,_⟩:=(HB.out.ev aH).eight;clear aH)
   | ((with_reducible refine (RH.out _ E1.out).mono ?_);rintro e w2 ⟨rfl,bK⟩;have E2:=zq (E1.out.trans bK);clear p0 p1 p2 p3 p4 p5 p6 p7 bK)
   | ((with_reducible refine (AL.out _ E2.out).mono ?_);rintro e w3 ⟨m2,rfl,hp2,Yq,iE⟩;simp only[];have E3:=zq (E2.out.trans iE);clear hp2 Yq iE))
  go_ret;exact⟨rfl,E3.out.trans (Ev.alloc _ _)⟩
 rw[auj hsm]at HS;rw[show rJ m.p=[] by unfold rJ;rw[if_neg (by omega)]];clear h hB aT hsz hlen hT hg hfit nU hpl r1 r2 r3 hsm AL HSM RH;go_enter Tryz.func17,Tryz.ntmps17
 go_wp2_with (first
  | ((with_reducible refine (HS.out _ HE.out).mono ?_);rintro e w1 ⟨rfl,aH⟩;have E1:=zq (HE.out.trans aH);clear aH))
 go_ret;exact⟨rfl,E1.out⟩
theorem afg {m:PM} (h:m.p=gQ):m.kind=0∧m.kids.length=0:=by
 rw[PM.pY]at h;unfold gQ at h;injection h with h1 h2 h3 h4 h5 h6 h7 h8
 exact⟨h1,by have:=congrArg List.length h8;simpa using this⟩
theorem XP:M.t (.mk 1 [] 0 none 0 [] 0)=aC gQ:=by rfl
theorem aat (m:PM) (w:World) (hm:m.p=gQ):
  Calls Tryz.prog 56 #[pv m] w (fO (aC gQ) w):=by
 obtain⟨hk,hn⟩:=afg hm;unfold pv eU.v PM.kv fO;rw[hk,hn];obtain⟨w0,hw0,aT,hX,hB⟩:=y9 w (.int .i64 0) (.string ⟨m.name.toArray⟩) (.slice m.ex.A m.ex.l.length m.ex.cap) (.slice m.co.A m.co.l.length m.co.cap) (.slice m.lf.A m.lf.l.length m.lf.cap) (.slice m.rt.A m.rt.l.length m.rt.cap) (.slice m.ag.A m.ag.l.length m.ag.cap) (.slice m.A 0 m.cap);obtain⟨⟨p0,p1,p2,p3,p4,p5,p6,p7⟩,_⟩:=hX.eight;have HB:=zq hB;have HE:=zq aT;have HO:=zq (mV none 0 0 w0);clear hX hB aT hm hk hn;go_enter Tryz.func56,Tryz.ntmps56;go_wp2;refine wp_loop_rounds 1 ?_;rw[rounds_succ]
 go_wp2_with ((with_reducible refine HO.out.mono ?_);rintro e w2 ⟨rfl,bK⟩;have rD:=zq bK;have jq:=zq (HB.out.ev bK);obtain⟨⟨d0,d1,d2,d3,d4⟩,r0,r1,r2,r3,r4⟩:=jq.out.five;clear bK)
 (try simp only[Exit.inBlock,Exit.then]);rw[bW];refine bodyPost_ret (aP rfl _ _ _ _ _ rfl (jq.out.jO _ _ _ _ _) Tryz.underlying101 rfl Tryz.iG) rfl ?_;refine⟨.mk 1 [] 0 none 0 [] 0,rfl,XP,.mk (Sl.nil_ _) (fun _ h=>by cases h) (fun _ h=>by cases h),(HE.out.trans rD.out).box (bD _ _ _ _ _ _ _) (by omega)⟩
theorem BV:printS (aC gQ)=[40,41]:=by decide+kernel
theorem XQ:wJ (aC gQ)=true:=by decide+kernel
theorem XT:(aC gQ).size≤100000:=by decide+kernel
theorem zero_read:(lG [40,41]).2.1=12:=by kernel_rfl
theorem aau (m:PM) (w:World) (hT:Tab w) (hm:m.p=gQ):
  Calls Tryz.prog 29 #[pv m] w fun r w'=>r=.returned (.string ⟨#[40,41]⟩)∧Ev w w':=by
 have HT:=zq (fun w1=>aat m w1 hm);have HP:=zq (fun (x:M) (hx:x.t=aC gQ) b1 w1 (hE:Ev w w1) (hl:Lies b1 [] w1 x)=>Gf (hT.ev hE) hl (by rw[hx];exact XT) (by rw[hx,BV];simp) (.inl (by rw[hx,BV];simp)) (by rw[hx];exact XQ));unfold pv eU.v PM.kv fO at*;have hB:=Bx.new 32 #[.int .i64 m.kind,.string ⟨m.name.toArray⟩,.slice m.ex.A m.ex.l.length m.ex.cap,.slice m.co.A m.co.l.length m.co.cap,.slice m.lf.A m.lf.l.length m.lf.cap,.slice m.rt.A m.rt.l.length m.rt.cap,.slice m.ag.A m.ag.l.length m.ag.cap,.slice m.A m.kids.length m.cap] w;obtain⟨⟨p0,p1,p2,p3,p4,p5,p6,p7⟩,_⟩:=hB.eight;clear hT hB hm;go_enter Tryz.func29,Tryz.ntmps29
 go_wp2_with (first
  | ((with_reducible refine (HT.out _).mono ?_);rintro r w1 ⟨x,rfl,jg,iq,aH⟩;have E1:=zq ((Ev.alloc w _).trans aH);have HPX:=zq (HP.out x jg _ w1 E1.out iq);rw[jg,BV]at HPX;clear jg iq p0 p1 p2 p3 p4 p5 p6 p7)
  | ((with_reducible refine (HPX.out).mono ?_);rintro r w2 ⟨rfl,bK⟩))
 go_ret;exact⟨rfl,E1.out.trans bK⟩
theorem XU (m:PM) (b0:Nat) (w:World) (hT:Tab w) (h:Qx b0 [] w m) (hm:m.p=gQ):
  Calls Tryz.prog 17 #[pv m] w fun e w'=>e=.returned (.string ⟨#[]⟩)∧Ev w w':=by
 have HS:=zq (fun w1 (hE:Ev w w1)=>JY m b0 w1 (h.ev hE) (by rw[hm];decide+kernel) (by rw[hm];decide+kernel));rw[show (decide (m.p.size≤600∧m.p.sum nC≤600))=true by rw[hm];decide+kernel]at HS;have RH:=zq (fun w1 (hE:Ev w w1)=>aau m w1 (hT.ev hE) hm);have AL:=zq (fun w1 (hE:Ev w w1)=>V4 [40,41] w1 (hT.ev hE) (by simp));have hne:(lG [40,41]).2.1≠0:=by rw[zero_read];decide
 obtain⟨w0,hw0,aT,hB,_⟩:=DI w m;obtain⟨⟨p0,p1,p2,p3,p4,p5,p6,p7⟩,_⟩:=hB.eight;have HE:=zq aT;have HB:=zq hB;unfold bu at AL;unfold pv eU.v PM.kv at*;generalize lG [40,41]=R at AL hne;obtain⟨Rp,Rw,Rx⟩:=R;simp only at AL hne;have hneb:(Rw !=0)=true:=auJ.2 hne;clear h hB aT hT hm hne;go_enter Tryz.func17,Tryz.ntmps17
 go_wp2_with (first
  | ((with_reducible refine (HS.out _ HE.out).mono ?_);rintro e w1 ⟨rfl,aH⟩;have E1:=zq (HE.out.trans aH);clear p0 p1 p2 p3 p4 p5 p6 p7;obtain⟨⟨p0,p1,p2,p3,p4,p5,p6,p7⟩,_⟩:=(HB.out.ev aH).eight;clear aH)
  | ((with_reducible refine (RH.out _ E1.out).mono ?_);rintro e w2 ⟨rfl,bK⟩;have E2:=zq (E1.out.trans bK);clear p0 p1 p2 p3 p4 p5 p6 p7 bK)
  | ((with_reducible refine (AL.out _ E2.out).mono ?_);rintro e w3 ⟨m2,rfl,hp2,Yq,iE⟩;simp only[];have E3:=zq (E2.out.trans iE);clear hp2 Yq iE))
 go_ret;exact⟨rfl,E3.out.trans (Ev.alloc _ _)⟩
end Go.Proofs.YtpbfokkocaemlaaGreatDoor
