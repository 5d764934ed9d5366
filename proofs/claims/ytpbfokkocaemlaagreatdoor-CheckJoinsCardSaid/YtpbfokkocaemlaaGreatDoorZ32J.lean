import Derived.Test.YtpbfokkocaemlaaGreatDoorZ31J
set_option linter.unusedVariables false
set_option maxRecDepth 100000
set_option maxHeartbeats 64000000
namespace Go.Proofs.YtpbfokkocaemlaaGreatDoor
open Go.RowKit
open Go.Lib renaming hid → zq
open Go renaming World → ak
open Go renaming Value → au
open Go.Proofs.Tryz renaming prog → ax
variable {U:Prop}
open Go.Proofs.Tryz
theorem abM(w:ak)(c0 c1 c2 c3 c4:au):∃w2,(w.alloc (.cells #[c0,c1,c2,c3,c4] 101)).alloc (.cells #[.int .i64 0,.int .i64 0] 106)=w2/\Ev w w2/\Bx 101 w.heap.size #[c0,c1,c2,c3,c4] w2/\Rb (w.heap.size+1) (0,0) w2/\w2.heap.size=w.heap.size+2:=by have hB:=Bx.new 106 #[.int .i64 0,.int .i64 0] (w.alloc (.cells #[c0,c1,c2,c3,c4] 101));rw[show (w.alloc (.cells #[c0,c1,c2,c3,c4] 101)).heap.size=w.heap.size+1 by simp]at hB;exact⟨_,rfl,(Ev.alloc w _).trans az,(Bx.new 101 #[c0,c1,c2,c3,c4] w).ev az,hB,aj⟩
theorem Qz(w:ak)(c0 c1 c2 c3 c4 c5 c6 c7:au):∃w4,w.alloc (.cells #[c0,c1,c2,c3,c4,c5,c6,c7] 32)=w4/\Ev w w4/\Bx 32 w.heap.size #[c0,c1,c2,c3,c4,c5,c6,c7] w4:=⟨_,rfl,Ev.alloc _ _,Bx.new _ _ _⟩
theorem abN(e:Er):((fO (0,0) e).1=0↔e.1=0)/\(e.1≠0->fO (0,0) e=e):=by unfold fO;by_cases h:e.1=0;simp[h];simp[h]
theorem Wq(s:By)(w:ak)(hT:Tab w)(hs:s.length<=100000)(hc:(fA s).2.1=0)(he:¬(bf (fA s).1).1=0):Calls ax 30 #[↑s] w (bH (mi s) w):=by
 have hP:mi s=pFrom (fA s).1:=by unfold mi;rw[if_pos (by simpa using hc)]
 obtain⟨oQ,TQ,hsize⟩:=J6 s hc;have hS:=λw1=>IU ⟨s.toArray⟩ w1 (by simpa[ByteArray.size] using hs);simp only at hS;unfold rJ at hS;rw[hc]at hS;rw[hP];unfold bH;generalize (fA s).2.2=ps at*;generalize (fA s).1=TT at*;have hR1:pFrom TT=(ik,(bf TT).1,(bf TT).2):=by unfold pFrom;rw[if_neg (by simpa using he)]
 rw[hR1];have HO:=zq ((abN (bf TT)).2 he);obtain⟨⟨ec,ep⟩,vO⟩:∃e,e=bf TT:=⟨_,rfl⟩
 rw[<-vO]at he HO|-;simp only at he|-;have vP:=zq vO;clear hR1 vO;have HS:=zq hS;have HF:=zq oQ;have HZ:=zq hsize;obtain⟨w0,hw0,aW,hR,hs0⟩:=uC w;have HR:=zq hR;have HE:=zq aW;clear hP hS hR aW hs hc oQ TQ hsize hT;go_enter func30,ntmps30
 go_wp2_with (first
  | ((with_reducible refine(HS.out _).mono ?_);rintro r w1 ⟨t,rfl,ht,hl,aK⟩;obtain⟨w2,hw2,bQ,ZO,TR,hs2⟩:=abM w1 ↑t.kind ↑t.s ↑t.n (.slice t.A t.kids.length t.cap) ↑t.pos;have oO:=zq aK;have tu:=zq bQ;have HT:=zq ht;have HL:=zq hl;have HRB:=zq TR;have Lj:=zq aK.size;obtain⟨⟨d0,d1,d2,d3,d4⟩,_⟩:=ZO.five;clear ht hl aK bQ ZO TR))
 have ZQ:=(HL.out.less (K':=[w1.heap.size+1]) λk hk=>by simp at hk;subst hk;exact .inr (.inr ae)).ev tu.out;have HPL:=zq (Qy t.dep t (w1.heap.size+1) (0,0) w0.heap.size w2 (awj _) HRB.out ZQ (by rw[HT.out];exact(jL _ HF.out).1) (by rw[HT.out];have:=HZ.out;omega));clear ZQ;refine(HPL.out).mono ?_;rintro r w3 ⟨p,rfl,jY,UK,kT⟩;rw[HT.out]at jY kT;rw[<-vP.out,HO.out]at kT;obtain⟨w4,hw4,iw,EZ⟩:=Qz w3 ↑p.kind ↑p.name (.slice p.ex.A p.ex.l.length p.ex.cap) (.slice p.co.A p.co.l.length p.co.cap) (.slice p.lf.A p.lf.l.length p.lf.cap) (.slice p.rt.A p.rt.l.length p.rt.cap) (.slice p.ag.A p.ag.l.length p.ag.cap) (.slice p.A p.kids.length p.cap);have TS:Ev w w3:=But.zZ (HE.out.trans (oO.out.trans tu.out)) kT.but λk hk=>by simp at hk;subst hk;have:=Lj.out;omega
 have HEV:=zq (TS.trans iw);have QA:=zq (((HR.out.ev (oO.out.trans tu.out)).but kT.but (by simp;have:=Lj.out;omega)).ev iw);obtain⟨⟨q0,q1⟩,_⟩:=(kT.bx.ev iw).two;(try simp only at q0 q1);obtain⟨⟨p0,p1,p2,p3,p4,p5,p6,p7⟩,_⟩:=EZ.eight;obtain⟨⟨r0,r1,r2,r3,r4,r5,r6,r7⟩,s0,s1,s2,s3,s4,s5,s6,s7⟩:=QA.out.eight;clear TS jY UK kT iw EZ d0 d1 d2 d3 d4 HPL
 go_wp2_with (first
  | fail)
 have g1:¬(w1.heap.size+1=w.heap.size):=by have:=Lj.out;omega
 have g2:¬(w.heap.size=w1.heap.size+1):=by have:=Lj.out;omega
 go_region
 all_goals (
  go_wp2;(try simp only[Exit.inBlock,Exit.then]);rw[bu]
  first
   | (refine bodyPost_ret (aI rfl _ _ _ _ _ rfl ((QA.out.iK _ _ _ _ _ _ _ _).ev (Ev.drew _)) underlying32 rfl Tryz.bG) rfl ?_;exact⟨kD,rfl,iD,Qx.zero _ _ _,((HEV.out).box (bV _ _ _ _ _ _ _ _ _ _) (awj _)).trans (Ev.drew _)⟩)
   | (refine bodyPost_ret (aI rfl _ _ _ _ _ rfl ((QA.out.ev (Ev.drew _)).iK _ _ _ _ _ _ _ _) underlying32 rfl Tryz.bG) rfl ?_;exact⟨kD,rfl,iD,Qx.zero _ _ _,(HEV.out.trans (Ev.drew _)).box (bV _ _ _ _ _ _ _ _ _ _) (awj _)⟩))
theorem TU(s:By)(w:ak)(hT:Tab w)(hs:s.length<=100000)(hc:(fA s).2.1=0)(he:(bf (fA s).1).1=0)(hlong:600<(printS (aH (pPlan (fA s).1))).length):Calls ax 30 #[↑s] w (bH (mi s) w):=by
 have hP:mi s=pFrom (fA s).1:=by unfold mi;rw[if_pos (by simpa using hc)]
 obtain⟨oQ,TQ,hsize⟩:=J6 s hc;have hS:=λw1=>IU ⟨s.toArray⟩ w1 (by simpa[ByteArray.size] using hs);simp only at hS;unfold rJ at hS;rw[hc]at hS;rw[hP];unfold bH;generalize (fA s).2.2=ps at*;generalize (fA s).1=TT at*;obtain⟨hW,uP⟩:=Ew oQ hsize he;have HW:=zq hW;have hR1:pFrom TT=(ik,3,0):=by unfold pFrom;rw[if_pos (by simpa using he),if_pos hlong]
 rw[hR1];simp only;have HLG:=zq hlong;have HO:=zq ((abN (bf TT)).1.2 he);clear hW uP hR1 hlong;have HS:=zq hS;have HF:=zq oQ;have HZ:=zq hsize;have adS:=zq hT;obtain⟨w0,hw0,aW,hR,hs0⟩:=uC w;have HR:=zq hR;have HE:=zq aW;clear hP hS hR aW hs hc oQ TQ hsize hT;go_enter func30,ntmps30
 go_wp2_with (first
  | ((with_reducible refine(HS.out _).mono ?_);rintro r w1 ⟨t,rfl,ht,hl,aK⟩;obtain⟨w2,hw2,bQ,ZO,TR,hs2⟩:=abM w1 ↑t.kind ↑t.s ↑t.n (.slice t.A t.kids.length t.cap) ↑t.pos;have oO:=zq aK;have tu:=zq bQ;have HT:=zq ht;have HL:=zq hl;have HRB:=zq TR;have Lj:=zq aK.size;obtain⟨⟨d0,d1,d2,d3,d4⟩,_⟩:=ZO.five;clear ht hl aK bQ ZO TR))
 have ZQ:=(HL.out.less (K':=[w1.heap.size+1]) λk hk=>by simp at hk;subst hk;exact .inr (.inr ae)).ev tu.out;have HPL:=zq (Qy t.dep t (w1.heap.size+1) (0,0) w0.heap.size w2 (awj _) HRB.out ZQ (by rw[HT.out];exact(jL _ HF.out).1) (by rw[HT.out];have:=HZ.out;omega));clear ZQ;refine(HPL.out).mono ?_;rintro r w3 ⟨p,rfl,jY,UK,kT⟩;rw[HT.out]at jY kT;obtain⟨⟨ec,ep⟩,vO⟩:∃e,e=fO (0,0) (bf TT):=⟨_,rfl⟩;rw[<-vO]at kT HO;obtain rfl:ec=0:=HO.out;clear HO vO;obtain⟨w4,hw4,iw,EZ⟩:=Qz w3 ↑p.kind ↑p.name (.slice p.ex.A p.ex.l.length p.ex.cap) (.slice p.co.A p.co.l.length p.co.cap) (.slice p.lf.A p.lf.l.length p.lf.cap) (.slice p.rt.A p.rt.l.length p.rt.cap) (.slice p.ag.A p.ag.l.length p.ag.cap) (.slice p.A p.kids.length p.cap);have rC:=zq jY;have HPQ:=zq UK;have HE4:=zq iw;have HB4:=zq EZ;have TS:Ev w w3:=But.zZ (HE.out.trans (oO.out.trans tu.out)) kT.but λk hk=>by simp at hk;subst hk;have:=Lj.out;omega
 have HEV:=zq (TS.trans iw);have QA:=zq (((HR.out.ev (oO.out.trans tu.out)).but kT.but (by simp;have:=Lj.out;omega)).ev iw);obtain⟨⟨q0,q1⟩,_⟩:=(kT.bx.ev iw).two;(try simp only at q0 q1);obtain⟨⟨p0,p1,p2,p3,p4,p5,p6,p7⟩,_⟩:=EZ.eight;obtain⟨⟨r0,r1,r2,r3,r4,r5,r6,r7⟩,s0,s1,s2,s3,s4,s5,s6,s7⟩:=QA.out.eight;clear TS jY UK kT iw EZ d0 d1 d2 d3 d4 HPL
 go_wp2_with (first
  | fail
  | (have TW:=zq (Qp p w2.heap.size w4 (adS.out.ev HEV.out) (HPQ.out.ev HE4.out) (by rw[rC.out];exact HW.out.fit) (by rw[rC.out];have:=HW.out.size;omega) (by rw[rC.out];exact HW.out.len) (by rw[rC.out];exact HW.out.ne) (by rw[rC.out];exact HW.out.fits));unfold pv fE.v PM.kv at TW;rw[rC.out]at TW;generalize printS (aH (pPlan TT))=PS at TW HLG;have i9:(600:Int)<(PS.length:Int):=(by have:=HLG.out;omega);(with_reducible refine(TW.out).mono ?_);rintro r w5 ⟨rfl,Il⟩;have Jc:=zq Il;clear Il p0 p1 p2 p3 p4 p5 p6 p7 r0 r1 r2 r3 r4 r5 r6 r7 s0 s1 s2 s3 s4 s5 s6 s7 q0 q1;obtain⟨⟨p0,p1,p2,p3,p4,p5,p6,p7⟩,_⟩:=(HB4.out.ev Jc.out).eight;obtain⟨⟨r0,r1,r2,r3,r4,r5,r6,r7⟩,s0,s1,s2,s3,s4,s5,s6,s7⟩:=(QA.out.ev Jc.out).eight;skip))
 (try simp only[Exit.inBlock,Exit.then]);rw[bu];refine bodyPost_ret (aI rfl _ _ _ _ _ rfl ((QA.out.ev Jc.out).iK _ _ _ _ _ _ _ _) underlying32 rfl Tryz.bG) rfl ?_;exact⟨kD,rfl,iD,Qx.zero _ _ _,(HEV.out.trans Jc.out).box (bV _ _ _ _ _ _ _ _ _ _) (awj _)⟩
theorem Y4(s:By)(w:ak)(hT:Tab w)(hs:s.length<=100000)(hc:(fA s).2.1=0)(he:(bf (fA s).1).1=0)(hlong:¬600<(printS (aH (pPlan (fA s).1))).length):Calls ax 30 #[↑s] w (bH (mi s) w):=by
 have hP:mi s=pFrom (fA s).1:=by unfold mi;rw[if_pos (by simpa using hc)]
 obtain⟨oQ,TQ,hsize⟩:=J6 s hc;have hS:=λw1=>IU ⟨s.toArray⟩ w1 (by simpa[ByteArray.size] using hs);simp only at hS;unfold rJ at hS;rw[hc]at hS;rw[hP];unfold bH;generalize (fA s).2.2=ps at*;generalize (fA s).1=TT at*;obtain⟨hW,uP⟩:=Ew oQ hsize he;have HW:=zq hW;have hR1:pFrom TT=(pPlan TT,0,0):=by unfold pFrom;rw[if_pos (by simpa using he),if_neg hlong]
 rw[hR1];simp only;have HLG:=zq hlong;have HO:=zq ((abN (bf TT)).1.2 he);clear hW uP hR1 hlong;have HS:=zq hS;have HF:=zq oQ;have HZ:=zq hsize;have adS:=zq hT;obtain⟨w0,hw0,aW,hR,hs0⟩:=uC w;have HR:=zq hR;have HE:=zq aW;clear hP hS hR aW hs hc oQ TQ hsize hT;go_enter func30,ntmps30
 go_wp2_with (first
  | ((with_reducible refine(HS.out _).mono ?_);rintro r w1 ⟨t,rfl,ht,hl,aK⟩;obtain⟨w2,hw2,bQ,ZO,TR,hs2⟩:=abM w1 ↑t.kind ↑t.s ↑t.n (.slice t.A t.kids.length t.cap) ↑t.pos;have oO:=zq aK;have tu:=zq bQ;have HT:=zq ht;have HL:=zq hl;have HRB:=zq TR;have Lj:=zq aK.size;obtain⟨⟨d0,d1,d2,d3,d4⟩,_⟩:=ZO.five;clear ht hl aK bQ ZO TR))
 have ZQ:=(HL.out.less (K':=[w1.heap.size+1]) λk hk=>by simp at hk;subst hk;exact .inr (.inr ae)).ev tu.out;have HPL:=zq (Qy t.dep t (w1.heap.size+1) (0,0) w0.heap.size w2 (awj _) HRB.out ZQ (by rw[HT.out];exact(jL _ HF.out).1) (by rw[HT.out];have:=HZ.out;omega));clear ZQ;refine(HPL.out).mono ?_;rintro r w3 ⟨p,rfl,jY,UK,kT⟩;rw[HT.out]at jY kT;obtain⟨⟨ec,ep⟩,vO⟩:∃e,e=fO (0,0) (bf TT):=⟨_,rfl⟩;rw[<-vO]at kT HO;obtain rfl:ec=0:=HO.out;clear HO vO;obtain⟨w4,hw4,iw,EZ⟩:=Qz w3 ↑p.kind ↑p.name (.slice p.ex.A p.ex.l.length p.ex.cap) (.slice p.co.A p.co.l.length p.co.cap) (.slice p.lf.A p.lf.l.length p.lf.cap) (.slice p.rt.A p.rt.l.length p.rt.cap) (.slice p.ag.A p.ag.l.length p.ag.cap) (.slice p.A p.kids.length p.cap);have rC:=zq jY;have HPQ:=zq UK;have HE4:=zq iw;have HB4:=zq EZ;have TS:Ev w w3:=But.zZ (HE.out.trans (oO.out.trans tu.out)) kT.but λk hk=>by simp at hk;subst hk;have:=Lj.out;omega
 have HEV:=zq (TS.trans iw);have QA:=zq (((HR.out.ev (oO.out.trans tu.out)).but kT.but (by simp;have:=Lj.out;omega)).ev iw);obtain⟨⟨q0,q1⟩,_⟩:=(kT.bx.ev iw).two;(try simp only at q0 q1);obtain⟨⟨p0,p1,p2,p3,p4,p5,p6,p7⟩,_⟩:=EZ.eight;obtain⟨⟨r0,r1,r2,r3,r4,r5,r6,r7⟩,s0,s1,s2,s3,s4,s5,s6,s7⟩:=QA.out.eight;clear TS jY UK kT iw EZ d0 d1 d2 d3 d4 HPL
 go_wp2_with (first
  | fail
  | (have TW:=zq (Qp p w2.heap.size w4 (adS.out.ev HEV.out) (HPQ.out.ev HE4.out) (by rw[rC.out];exact HW.out.fit) (by rw[rC.out];have:=HW.out.size;omega) (by rw[rC.out];exact HW.out.len) (by rw[rC.out];exact HW.out.ne) (by rw[rC.out];exact HW.out.fits));unfold pv fE.v PM.kv at TW;rw[rC.out]at TW;generalize printS (aH (pPlan TT))=PS at TW HLG;have i9:¬((600:Int)<(PS.length:Int)):=(by have:=HLG.out;omega);(with_reducible refine(TW.out).mono ?_);rintro r w5 ⟨rfl,Il⟩;have Jc:=zq Il;clear Il p0 p1 p2 p3 p4 p5 p6 p7 r0 r1 r2 r3 r4 r5 r6 r7 s0 s1 s2 s3 s4 s5 s6 s7 q0 q1;obtain⟨⟨p0,p1,p2,p3,p4,p5,p6,p7⟩,_⟩:=(HB4.out.ev Jc.out).eight;obtain⟨⟨r0,r1,r2,r3,r4,r5,r6,r7⟩,s0,s1,s2,s3,s4,s5,s6,s7⟩:=(QA.out.ev Jc.out).eight;skip))
 (try simp only[Exit.inBlock,Exit.then]);rw[bu];refine bodyPost_ret (aI rfl _ _ _ _ _ rfl ((QA.out.ev Jc.out).iK _ _ _ _ _ _ _ _) underlying32 rfl Tryz.bG) rfl ?_;have hlt:w.heap.size<w2.heap.size:=by have:=Lj.out;omega
 exact⟨p,rfl,rC.out,((((HPQ.out.ev HE4.out).ev Jc.out).less (K':=[w.heap.size]) λk hk=>by simp at hk;subst hk;exact .inr (.inl hlt)).move (bV _ _ _ _ _ _ _ _ _ _) λk hk=>by cases hk).low (Nat.le_of_lt hlt),(HEV.out.trans Jc.out).box (bV _ _ _ _ _ _ _ _ _ _) (awj _)⟩
theorem XP(s:By)(w:ak)(hT:Tab w)(hs:s.length<=100000):Calls ax 30 #[↑s] w (bH (mi s) w):=by by_cases hc:(fA s).2.1=0;by_cases he:(bf (fA s).1).1=0;by_cases hl:600<(printS (aH (pPlan (fA s).1))).length;exact TU s w hT hs hc he hl;exact Y4 s w hT hs hc he hl;exact Wq s w hT hs hc he;exact Wp s w hs hc
theorem aze(h:U:=by
 have i1:(0:Int)<=(k:Int):=ae;have i2:(k:Int)<(n:Int):=ae;clear hx hc hc';go_upto_region 6 with fail
 go_region
 all_goals (
  go_wp2;go_roundw
  case rel=>exact⟨k+1,by go_num,ae,zq (HE.out.trans (Ev.drew _))⟩
  case measure=>simp[intOf];omega)):U:=h
theorem Ls(l:List By)(A A':Option Addr)(n cap cap':Nat)(w:ak)(h:Ss w A n cap l)(h':Ss w A' n cap' l)(hn:n<=100000):
  Calls ax 61 #[.slice A n cap,.slice A' n cap'] w λe w'=>e=.returned (.bool true)/\Ev w w':=by
 have H:=zq h;have H':=zq h';have dM:=zq (Ev.refl w);clear h h';go_enter func61,ntmps61;go_wp2
 go_loopw [13] (λiv wr=>∃k:Nat,iv=↑k/\k<=n/\Hid (Ev w wr)) (λiv _=>n - (intOf iv).toNat)
 case atStart=>exact⟨0,rfl,aww _,dM⟩
 case round=>
  obtain⟨k,rfl,hk,HE⟩:=hrel;by_cases hlt:k<n;obtain⟨x,hx⟩:=H.out.at hlt;obtain⟨b,off,rfl,hb,hc⟩:=(H.out.ev HE.out).rd ae;obtain⟨b',off',rfl,hb',hc'⟩:=(H'.out.ev HE.out).rd ae;have c0:=hc k x hx 0 _ rfl;have d0:=hc' k x hx 0 _ rfl;simp only[axY,awM]at c0 d0;exact aze;obtain rfl:k=n:=ae;go_wp2;go_ret;exact⟨rfl,HE.out⟩
theorem adT(l:List Ag)(A A':Option Addr)(n cap cap':Nat)(w:ak)(h:Sl 3 ac w A n cap l)(h':Sl 3 ac w A' n cap' l)(hn:n<=100000):
  Calls ax 62 #[.slice A n cap,.slice A' n cap'] w λe w'=>e=.returned (.bool true)/\Ev w w':=by
 have H:=zq h;have H':=zq h';have dM:=zq (Ev.refl w);clear h h';go_enter func62,ntmps62;go_wp2
 go_loopw [13] (λiv wr=>∃k:Nat,iv=↑k/\k<=n/\Hid (Ev w wr)) (λiv _=>n - (intOf iv).toNat)
 case atStart=>exact⟨0,rfl,aww _,dM⟩
 case round=>
  obtain⟨k,rfl,hk,HE⟩:=hrel;by_cases hlt:k<n;obtain⟨x,hx⟩:=H.out.at hlt;obtain⟨b,off,rfl,hb,hc⟩:=(H.out.ev HE.out).rd ae;obtain⟨b',off',rfl,hb',hc'⟩:=(H'.out.ev HE.out).rd ae;have c0:=hc k x hx 0 _ rfl;have d0:=hc' k x hx 0 _ rfl;have c1:=hc k x hx 1 _ rfl;have d1:=hc' k x hx 1 _ rfl;have c2:=hc k x hx 2 _ rfl;have d2:=hc' k x hx 2 _ rfl;simp only[awM]at c0 d0;exact aze;obtain rfl:k=n:=ae;go_wp2;go_ret;exact⟨rfl,HE.out⟩
def Yes(w:ak)(e:Ending)(w':ak):Prop:=e=.returned (.bool true)/\Ev w w'
theorem azy(h:U:=by
 go_wp2_with (first
  | ((with_reducible refine(HC.out _ Jc.out).mono ?_);rintro e w6 ⟨rfl,nS⟩))
 go_roundw
 case rel=>exact⟨k+1,by go_num,ae,zq (Jc.out.trans nS)⟩
 case measure=>simp[intOf];omega):U:=h
theorem OU(X X':List M)(A A':Option Addr)(n cap cap':Nat)(w:ak)(h:Es w A n cap X)(h':Es w A' n cap' X')(hn:n<=100000)(hf:∀(i:Nat) (x x':M),X[i]?=some x->X'[i]?=some x'->∀w1,Ev w w1->Calls ax 60 #[Az x,Az x'] w1 (Yes w1)):
  Calls ax 59 #[.slice A n cap,.slice A' n cap',.func (.func 60) #[] #[]] w (Yes w):=by
 have hc1:=h.le;have hc2:=h.max;have hc3:=h'.le;have hc4:=h'.max;have H:=zq h;have H':=zq h';have HF:=zq hf;have dM:=zq (Ev.refl w);unfold Yes;clear h h' hf;go_enter func59,ntmps59;go_wp2
 go_loopw [17] (λiv wr=>∃k:Nat,iv=↑k/\k<=n/\Hid (Ev w wr)) (λiv _=>n - (intOf iv).toNat)
 case atStart=>exact⟨0,rfl,aww _,by first|exact dM|exact zq az|exact zq (az.trans az)⟩
 case round=>
  obtain⟨k,rfl,hk,HE⟩:=hrel;by_cases hlt:k<n;obtain⟨x,hx⟩:=H.out.at hlt;obtain⟨x',hx'⟩:=H'.out.at hlt;obtain⟨b,off,rfl,hb,c0,c1,c2,c3⟩:=Es.cell (H.out.ev HE.out) hx;obtain⟨b',off',rfl,hb',d0,d1,d2,d3⟩:=Es.cell (H'.out.ev HE.out) hx';have HC:=zq (λw1 (hE:Ev w w1)=>HF.out k x x' hx hx' w1 hE);unfold M.kv at c3 d3;unfold Az M.kv Yes at HC;obtain⟨w4,hw4,iw,EZ⟩:∃w4,wr.alloc (.cells ↑(x,()) 47)=w4/\Ev wr w4/\Bx 47 wr.heap.size ↑(x,()) w4:=⟨_,rfl,Ev.alloc _ _,Bx.new _ _ _⟩
  have e0:=(iw.cell (p:=⟨b',off'+k*4,none⟩) hb').trans d0;have e1:=(iw.cell (p:=⟨b',off'+k*4+1,none⟩) hb').trans d1;have e2:=(iw.cell (p:=⟨b',off'+k*4+2,none⟩) hb').trans d2;have e3:=(iw.cell (p:=⟨b',off'+k*4+3,none⟩) hb').trans d3;obtain⟨w5,VD,Il,TY⟩:∃w5,w4.alloc (.cells ↑(x',()) 47)=w5/\Ev w4 w5/\Bx 47 w4.heap.size ↑(x',()) w5:=⟨_,rfl,Ev.alloc _ _,Bx.new _ _ _⟩
  obtain⟨⟨f0,f1,f2,f3⟩,_⟩:=(EZ.ev Il).four;obtain⟨⟨g0,g1,g2,g3⟩,_⟩:=TY.four;have Jc:=zq ((HE.out.trans iw).trans Il);have i1:(0:Int)<=(k:Int):=ae;have i2:(k:Int)<(n:Int):=ae;clear hx hx' d0 d1 d2 d3 iw EZ Il TY;exact azy;obtain rfl:k=n:=ae;go_wp2;go_ret;exact⟨rfl,HE.out⟩
theorem aju(w:ak)(c0 c1 c2 c3 d0 d1 d2 d3:au):∃w0,(w.alloc (.cells #[c0,c1,c2,c3] 47)).alloc (.cells #[d0,d1,d2,d3] 47)=w0/\Ev w w0/\Bx 47 w.heap.size #[c0,c1,c2,c3] w0/\Bx 47 (w.heap.size+1) #[d0,d1,d2,d3] w0:=by have hB:=Bx.new 47 #[d0,d1,d2,d3] (w.alloc (.cells #[c0,c1,c2,c3] 47));rw[show (w.alloc (.cells #[c0,c1,c2,c3] 47)).heap.size=w.heap.size+1 by simp]at hB;exact aAZ
theorem Y5(N:Nat):∀(m m':M) (b0 b0':Nat) (w:ak),m.dep<=N->Lx b0 [] w m->Lx b0' [] w m'->m.t=m'.t->m.t.size<=100000->
  Calls ax 60 #[Az m,Az m'] w (Yes w):=by
 induction N with
 | zero=>
  intro m m' b0 b0' w hd;rw[M.nT]at hd;omega
 | succ N ih=>
  intro m m' b0 b0' w hd hL hL' ht hsz;have hz:=T.size_eq m.t;have hzl:=jS m.t.kids;rw[M.aZ,awh]at hzl;rw[M.aZ]at hz;have ZK:=ht;rw[M.rV,M.rV m']at ZK;injection ZK with e1 e2 e3 e4 e5
  have hlen:m'.kids.length=m.kids.length:=by have:=congrArg List.length e4;simpa using this.symm
  have hEF:=λw1 (hE:Ev w w1)=>OU m.kids m'.kids m.A m'.A m.kids.length m.cap m'.cap w1 (hL.es.ev hE) (by have:=hL'.es.ev hE;rwa [hlen]at this) ae λi x x' hx hx' w2 bQ=>by
   have iP:=awm hx;have anI:=awm hx';refine ih x x' b0 b0' w2 (by have:=M.mg iP;omega) ((hL.kid x iP).ev (hE.trans bQ)) ((hL'.kid x' anI).ev (hE.trans bQ)) ?_ ?_;have h1:(m.kids.map M.t)[i]?=some x.t:=by rw[aw5,hx];rfl
   have h2:(m'.kids.map M.t)[i]?=some x'.t:=by rw[aw5,hx'];rfl
   rw[e4,h2]at h1;exact(aw3 h1).symm;have:=iL (awS (f:=T.size) (awS (f:=M.t) iP));omega
  unfold Yes at hEF|-;unfold Az M.kv;rw[<-e1,<-e2,<-e3,hlen];have HEF:=zq hEF;obtain⟨w0,hw0,aW,hX,hB⟩:=aju w ↑m.kind ↑m.s ↑m.n (.slice m.A m.kids.length m.cap) ↑m.kind ↑m.s ↑m.n (.slice m'.A m.kids.length m'.cap);obtain⟨⟨c0,c1,c2,c3⟩,_⟩:=hX.four;obtain⟨⟨d0,d1,d2,d3⟩,_⟩:=hB.four;have HE:=zq aW;clear hEF hX hB aW ih hd hL hL' ht hsz hz hzl e1 e2 e3 e4 e5 hlen;go_enter func60,ntmps60
  go_wp2_with (first
   | ((with_reducible refine(HEF.out _ HE.out).mono ?_);rintro e w6 ⟨rfl,nS⟩))
  go_ret;exact⟨rfl,HE.out.trans nS⟩
theorem Y6(X X':List PM)(A A':Option Addr)(n cap cap':Nat)(w:ak)(h:Ps w A n cap X)(h':Ps w A' n cap' X')(hn:n<=100000)(hf:∀(i:Nat) (x x':PM),X[i]?=some x->X'[i]?=some x'->∀w1,Ev w w1->Calls ax 31 #[pv x,pv x'] w1 (Yes w1)):
  Calls ax 63 #[.slice A n cap,.slice A' n cap',.func (.func 31) #[] #[]] w (Yes w):=by
 have hc1:=h.le;have hc2:=h.max;have hc3:=h'.le;have hc4:=h'.max;have H:=zq h;have H':=zq h';have HF:=zq hf;have dM:=zq (Ev.refl w);unfold Yes;clear h h' hf;go_enter func63,ntmps63;go_wp2
 go_loopw [17] (λiv wr=>∃k:Nat,iv=↑k/\k<=n/\Hid (Ev w wr)) (λiv _=>n - (intOf iv).toNat)
 case atStart=>exact⟨0,rfl,aww _,dM⟩
 case round=>
  obtain⟨k,rfl,hk,HE⟩:=hrel;by_cases hlt:k<n;obtain⟨x,hx⟩:=H.out.at hlt;obtain⟨x',hx'⟩:=H'.out.at hlt;obtain⟨b,off,rfl,hb,_⟩:=(H.out.ev HE.out).rd ae;obtain⟨b',off',rfl,hb',_⟩:=(H'.out.ev HE.out).rd ae;obtain⟨c0,c1,c2,c3,c4,c5,c6,c7⟩:=Ps.cell (H.out.ev HE.out) hx;obtain⟨d0,d1,d2,d3,d4,d5,d6,d7⟩:=Ps.cell (H'.out.ev HE.out) hx';have HC:=zq (λw1 (hE:Ev w w1)=>HF.out k x x' hx hx' w1 hE);unfold pv Yes at HC;unfold fE.v PM.kv at*;obtain⟨w4,hw4,iw,EZ⟩:∃w4,wr.alloc (.cells ↑x 32)=w4/\Ev wr w4/\Bx 32 wr.heap.size ↑x w4:=⟨_,rfl,Ev.alloc _ _,Bx.new _ _ _⟩
  have e0:=(iw.cell (p:=⟨b',off'+k*8,none⟩) hb').trans d0;have e1:=(iw.cell (p:=⟨b',off'+k*8+1,none⟩) hb').trans d1;have e2:=(iw.cell (p:=⟨b',off'+k*8+2,none⟩) hb').trans d2;have e3:=(iw.cell (p:=⟨b',off'+k*8+3,none⟩) hb').trans d3;have e4:=(iw.cell (p:=⟨b',off'+k*8+4,none⟩) hb').trans d4;have e5:=(iw.cell (p:=⟨b',off'+k*8+5,none⟩) hb').trans d5;have e6:=(iw.cell (p:=⟨b',off'+k*8+6,none⟩) hb').trans d6;have e7:=(iw.cell (p:=⟨b',off'+k*8+7,none⟩) hb').trans d7;obtain⟨w5,VD,Il,TY⟩:∃w5,w4.alloc (.cells ↑x' 32)=w5/\Ev w4 w5/\Bx 32 w4.heap.size ↑x' w5:=⟨_,rfl,Ev.alloc _ _,Bx.new _ _ _⟩
  obtain⟨⟨f0,f1,f2,f3,f4,f5,f6,f7⟩,_⟩:=(EZ.ev Il).eight;obtain⟨⟨g0,g1,g2,g3,g4,g5,g6,g7⟩,_⟩:=TY.eight;have Jc:=zq ((HE.out.trans iw).trans Il);have i1:(0:Int)<=(k:Int):=ae;have i2:(k:Int)<(n:Int):=ae;clear hx hx' d0 d1 d2 d3 d4 d5 d6 d7 iw EZ Il TY;exact azy;obtain rfl:k=n:=ae;go_wp2;go_ret;exact⟨rfl,HE.out⟩
theorem ajv(w:ak)(c0 c1 c2 c3 c4 c5 c6 c7 d0 d1 d2 d3 d4 d5 d6 d7:au):∃w0,(w.alloc (.cells #[c0,c1,c2,c3,c4,c5,c6,c7] 32)).alloc (.cells #[d0,d1,d2,d3,d4,d5,d6,d7] 32)=w0/\Ev w w0/\Bx 32 w.heap.size #[c0,c1,c2,c3,c4,c5,c6,c7] w0/\Bx 32 (w.heap.size+1) #[d0,d1,d2,d3,d4,d5,d6,d7] w0:=by have hB:=Bx.new 32 #[d0,d1,d2,d3,d4,d5,d6,d7] (w.alloc (.cells #[c0,c1,c2,c3,c4,c5,c6,c7] 32));rw[show (w.alloc (.cells #[c0,c1,c2,c3,c4,c5,c6,c7] 32)).heap.size=w.heap.size+1 by simp]at hB;exact⟨_,rfl,(Ev.alloc w _).trans az,(Bx.new 32 #[c0,c1,c2,c3,c4,c5,c6,c7] w).ev az,hB⟩
theorem Y7{k:Int}{nm:By}{es:List T}{cs lf rt:List By}{ag:List Ag}{nk:Nat}(h:x8 k nm es cs lf rt ag nk)(hes:es.length<=10000):cs.length<=10000:=by rcases h with⟨_,_,_,rfl,_⟩|⟨_,_,_,rfl,_⟩|⟨_,_,_,h,_⟩|⟨_,_,_,rfl,_⟩|⟨_,_,_,rfl,_⟩|⟨_,_,_,rfl,_⟩|⟨_,_,_,rfl,_⟩<;>first|omega|simp
theorem Y8(N:Nat):∀(m m':PM) (b0 b0':Nat) (w:ak),m.dep<=N->Qx b0 [] w m->Qx b0' [] w m'->m.p=m'.p->m.p.good->m.p.fit->
  Calls ax 31 #[pv m,pv m'] w (Yes w):=by
 induction N with
 | zero=>
  intro m m' b0 b0' w hd;rw[PM.nT]at hd;omega
 | succ N ih=>
  intro m m' b0 b0' w hd hL hL' ht hg hf;obtain⟨⟨_,hfe,_,hel,jG,hrl,JK,hkn⟩,hkf⟩:=aby hf;rw[awh]at hel;have hg2:=hg;rw[PM.sD,Pl.good,Pl.uK]at hg2;have hcl:=Y7 hg2.1 (by rw[awh];exact hel);have hkg:∀x∈m.kids,x.p.good:=λx hx=>hg2.2 x.p (awS hx);have ZK:=ht;rw[PM.sD m,PM.sD m']at ZK;injection ZK with e1 e2 e3 e4 e5 e6 e7 e8
  have hlex:m'.ex.l.length=m.ex.l.length:=by have:=congrArg List.length e3;simpa using this.symm
  have hlk:m'.kids.length=m.kids.length:=by have:=congrArg List.length e8;simpa using this.symm
  obtain⟨hex,hlx,AX,tq,hrt,Ac,Ih,UQ⟩:=hL.at;obtain⟨ajw,ajx,ajy,ajz,ajA,ajB,anJ,ajC⟩:=hL'.at;have hEX:=λw1 (hE:Ev w w1)=>OU m.ex.l m'.ex.l m.ex.A m'.ex.A m.ex.l.length m.ex.cap m'.ex.cap w1 (hex.sl.ev hE) (by have:=ajw.sl.ev hE;rwa [hlex]at this) ae λi x x' hx hx' w2 bQ=>by
   have iP:=awm hx;refine Y5 x.dep x x' b0 b0' w2 (awj _) ((hlx x iP).ev (hE.trans bQ)) ((ajx x' (awm hx')).ev (hE.trans bQ)) ?_ (by have:=(hfe x.t (awS iP)).2.1;omega);have h1:(m.ex.l.map M.t)[i]?=some x.t:=by rw[aw5,hx];rfl
   have h2:(m'.ex.l.map M.t)[i]?=some x'.t:=by rw[aw5,hx'];rfl
   rw[e3,h2]at h1;exact(aw3 h1).symm
  have hCO:=λw1 (hE:Ev w w1)=>Ls m.co.l m.co.A m'.co.A m.co.l.length m.co.cap m'.co.cap w1 (AX.sl.ev hE) (by have:=ajy.sl.ev hE;rwa [<-e4]at this) ae;have hLF:=λw1 (hE:Ev w w1)=>Ls m.lf.l m.lf.A m'.lf.A m.lf.l.length m.lf.cap m'.lf.cap w1 (tq.sl.ev hE) (by have:=ajz.sl.ev hE;rwa [<-e5]at this) ae;have hRT:=λw1 (hE:Ev w w1)=>Ls m.rt.l m.rt.A m'.rt.A m.rt.l.length m.rt.cap m'.rt.cap w1 (hrt.sl.ev hE) (by have:=ajA.sl.ev hE;rwa [<-e6]at this) ae;have hAG:=λw1 (hE:Ev w w1)=>adT m.ag.l m.ag.A m'.ag.A m.ag.l.length m.ag.cap m'.ag.cap w1 (Ac.sl.ev hE) (by have:=ajB.sl.ev hE;rwa [<-e7]at this) ae;have hKD:=λw1 (hE:Ev w w1)=>Y6 m.kids m'.kids m.A m'.A m.kids.length m.cap m'.cap w1 (hL.ps.ev hE) (by have:=hL'.ps.ev hE;rwa [hlk]at this) ae λi x x' hx hx' w2 bQ=>by
   have iP:=awm hx;refine ih x x' b0 b0' w2 (by have:=PM.mg iP;omega) ((UQ x iP).ev (hE.trans bQ)) ((ajC x' (awm hx')).ev (hE.trans bQ)) ?_ (hkg x iP) (hkf x iP);have h1:(m.kids.map PM.p)[i]?=some x.p:=by rw[aw5,hx];rfl
   have h2:(m'.kids.map PM.p)[i]?=some x'.p:=by rw[aw5,hx'];rfl
   rw[e8,h2]at h1;exact(aw3 h1).symm
  unfold Yes at hEX hKD|-;unfold pv fE.v PM.kv;rw[<-e1,<-e2,hlex,hlk,<-e4,<-e5,<-e6,<-e7];have NL:=zq hEX;have UR:=zq hCO;have MQ:=zq hLF;have Eo:=zq hRT;have EU:=zq hAG;have Bv:=zq hKD;obtain⟨w0,hw0,aW,hX,hB⟩:=ajv w ↑m.kind ↑m.name (.slice m.ex.A m.ex.l.length m.ex.cap) (.slice m.co.A m.co.l.length m.co.cap) (.slice m.lf.A m.lf.l.length m.lf.cap) (.slice m.rt.A m.rt.l.length m.rt.cap) (.slice m.ag.A m.ag.l.length m.ag.cap) (.slice m.A m.kids.length m.cap) ↑m.kind ↑m.name (.slice m'.ex.A m.ex.l.length m'.ex.cap) (.slice m'.co.A m.co.l.length m'.co.cap) (.slice m'.lf.A m.lf.l.length m'.lf.cap) (.slice m'.rt.A m.rt.l.length m'.rt.cap) (.slice m'.ag.A m.ag.l.length m'.ag.cap) (.slice m'.A m.kids.length m'.cap);obtain⟨⟨p0,p1,p2,p3,p4,p5,p6,p7⟩,_⟩:=hX.eight;obtain⟨⟨q0,q1,q2,q3,q4,q5,q6,q7⟩,_⟩:=hB.eight;have HE:=zq aW;have HX:=zq hX;have HB:=zq hB;clear hEX hCO hLF hRT hAG hKD hX hB aW ih hd hL hL' ht hg hf hfe hel jG hrl JK hkn hkf hg2 hcl hkg e1 e2 e3 e4 e5 e6 e7 e8 hlex hlk hex hlx AX tq hrt Ac Ih UQ ajw ajx ajy ajz ajA ajB anJ ajC;go_enter func31,ntmps31
  go_wp2_with (first
   | ((with_reducible refine(NL.out _ HE.out).mono ?_);rintro e w1 ⟨rfl,aK⟩;have F1:=zq aK;have E1:=zq (HE.out.trans F1.out);clear aK p0 p1 p2 p3 p4 p5 p6 p7 q0 q1 q2 q3 q4 q5 q6 q7;obtain⟨⟨p0,p1,p2,p3,p4,p5,p6,p7⟩,_⟩:=(HX.out.ev F1.out).eight;obtain⟨⟨q0,q1,q2,q3,q4,q5,q6,q7⟩,_⟩:=(HB.out.ev F1.out).eight)
   | ((with_reducible refine(UR.out _ E1.out).mono ?_);rintro e w2 ⟨rfl,bQ⟩;have F2:=zq (F1.out.trans bQ);have E2:=zq (HE.out.trans F2.out);clear bQ p0 p1 p2 p3 p4 p5 p6 p7 q0 q1 q2 q3 q4 q5 q6 q7;obtain⟨⟨p0,p1,p2,p3,p4,p5,p6,p7⟩,_⟩:=(HX.out.ev F2.out).eight;obtain⟨⟨q0,q1,q2,q3,q4,q5,q6,q7⟩,_⟩:=(HB.out.ev F2.out).eight)
   | ((with_reducible refine(MQ.out _ E2.out).mono ?_);rintro e w3 ⟨rfl,iI⟩;have F3:=zq (F2.out.trans iI);have E3:=zq (HE.out.trans F3.out);clear iI p0 p1 p2 p3 p4 p5 p6 p7 q0 q1 q2 q3 q4 q5 q6 q7;obtain⟨⟨p0,p1,p2,p3,p4,p5,p6,p7⟩,_⟩:=(HX.out.ev F3.out).eight;obtain⟨⟨q0,q1,q2,q3,q4,q5,q6,q7⟩,_⟩:=(HB.out.ev F3.out).eight)
   | ((with_reducible refine(Eo.out _ E3.out).mono ?_);rintro e w4 ⟨rfl,iw⟩;have F4:=zq (F3.out.trans iw);have E4:=zq (HE.out.trans F4.out);clear iw p0 p1 p2 p3 p4 p5 p6 p7 q0 q1 q2 q3 q4 q5 q6 q7;obtain⟨⟨p0,p1,p2,p3,p4,p5,p6,p7⟩,_⟩:=(HX.out.ev F4.out).eight;obtain⟨⟨q0,q1,q2,q3,q4,q5,q6,q7⟩,_⟩:=(HB.out.ev F4.out).eight)
   | ((with_reducible refine(EU.out _ E4.out).mono ?_);rintro e w5 ⟨rfl,Il⟩;have F5:=zq (F4.out.trans Il);have E5:=zq (HE.out.trans F5.out);clear Il p0 p1 p2 p3 p4 p5 p6 p7 q0 q1 q2 q3 q4 q5 q6 q7;obtain⟨⟨p0,p1,p2,p3,p4,p5,p6,p7⟩,_⟩:=(HX.out.ev F5.out).eight;obtain⟨⟨q0,q1,q2,q3,q4,q5,q6,q7⟩,_⟩:=(HB.out.ev F5.out).eight)
   | ((with_reducible refine(Bv.out _ E5.out).mono ?_);rintro e w6 ⟨rfl,nS⟩;have F6:=zq (F5.out.trans nS);have E6:=zq (HE.out.trans F6.out);clear nS p0 p1 p2 p3 p4 p5 p6 p7 q0 q1 q2 q3 q4 q5 q6 q7;obtain⟨⟨p0,p1,p2,p3,p4,p5,p6,p7⟩,_⟩:=(HX.out.ev F6.out).eight;obtain⟨⟨q0,q1,q2,q3,q4,q5,q6,q7⟩,_⟩:=(HB.out.ev F6.out).eight))
  go_ret;exact⟨rfl,E6.out⟩
abbrev Pp:=Addr×PM
def ppc(x:Pp):List au:=[.pointer (some x.1)]
theorem TZ:Enc 1 ppc:=⟨ae,λ_=>rfl,λx u hu=>by
 simp[ppc]at hu;subst hu;rfl⟩
theorem Tryz.agQ:(Tryz.prog.info? 97).map (λi=>(i.zero,i.size,i.bytes))=some (some (.pointer none),1,8):=ah
theorem Tryz.Lt:Tryz.prog.underlying 94=some (.slice 97):=ah
def adV(w:ak)(b off:Nat)(m:PM):Prop:=
 w.cell? ⟨b,off,none⟩=some ↑m.kind/\w.cell? ⟨b,off+1,none⟩=some ↑m.name/\w.cell? ⟨b,off+2,none⟩=some (.slice m.ex.A m.ex.l.length m.ex.cap)/\w.cell? ⟨b,off+3,none⟩=some (.slice m.co.A m.co.l.length m.co.cap)/\w.cell? ⟨b,off+4,none⟩=some (.slice m.lf.A m.lf.l.length m.lf.cap)/\w.cell? ⟨b,off+5,none⟩=some (.slice m.rt.A m.rt.l.length m.rt.cap)/\w.cell? ⟨b,off+6,none⟩=some (.slice m.ag.A m.ag.l.length m.ag.cap)/\w.cell? ⟨b,off+7,none⟩=some (.slice m.A m.kids.length m.cap)
def QB(w:ak)(x:Pp):Prop:=∃b off,x.1=⟨b,off,none⟩/\b<w.heap.size/\adV w b off x.2
theorem QB.ev{w w':ak}{x:Pp}(h:QB w x)(hE:Ev w w'):QB w' x:=by obtain⟨b,off,e,hb,h0,h1,h2,h3,h4,h5,h6,h7⟩:=h;exact⟨b,off,e,awz hb hE.size,(hE.cell (p:=⟨b,_,none⟩) hb).trans h0,(hE.cell (p:=⟨b,_,none⟩) hb).trans h1,(hE.cell (p:=⟨b,_,none⟩) hb).trans h2,(hE.cell (p:=⟨b,_,none⟩) hb).trans h3,(hE.cell (p:=⟨b,_,none⟩) hb).trans h4,(hE.cell (p:=⟨b,_,none⟩) hb).trans h5,(hE.cell (p:=⟨b,_,none⟩) hb).trans h6,(hE.cell (p:=⟨b,_,none⟩) hb).trans h7⟩
def kAddr(A:Option Addr)(i:Nat):Addr:=
 match A with
 | none=>⟨0,0,none⟩
 | some ⟨b,off,_⟩=>⟨b,off+i*8,none⟩
def lJ(x:PM):List Pp:=x.kids.mapIdx λi m=>(kAddr x.A i,m)
theorem Dx(x:PM):(lJ x).length=x.kids.length:=by simp[lJ]
theorem Ws(x:PM):(lJ x).map (·.2)=x.kids:=by
 unfold lJ;refine List.ext_getElem? λi=>?_;rw[aw5,List.getElem?_mapIdx]
 cases x.kids[i]?<;>rfl
theorem Wu(x:PM){i:Nat}{y:PM}(h:x.kids[i]?=some y):(lJ x)[i]?=some (kAddr x.A i,y):=by unfold lJ;rw[List.getElem?_mapIdx,h];rfl
theorem Wv{b0:Nat}{w:ak}{x:PM}(h:Qx b0 [] w x):∀y∈lJ x,Qx b0 [] w y.2/\QB w y:=by
 intro y hy;obtain⟨i,hi⟩:=axw hy;unfold lJ at hi;rw[List.getElem?_mapIdx]at hi
 cases hk:x.kids[i]? with
 | none=>rw[hk]at hi;cases hi
 | some m=>
  rw[hk]at hi;obtain rfl:=aw3 hi;have Pg:=(awi.1 hk).1;refine⟨h.kid m (awm hk),?_⟩;obtain⟨b,off,e,hb,_⟩:=h.ps.rd ae;have qw:=h.ps;rw[e]at qw;have hc:=Ps.cell qw hk;unfold fE.v PM.kv at hc;refine⟨b,off+i*8,?_,hb,hc⟩;show kAddr x.A i=_;rw[e]
  try rfl
def mJ(f:Pl->Nat)(L:List Pp):Nat:=(L.map λx=>f x.2.p).sum
theorem xh(f:Pl->Nat)(L K:List Pp):mJ f (L++K)=mJ f L+mJ f K:=by simp[mJ]
theorem Y9(f:Pl->Nat)(x:PM):mJ f (lJ x)=(x.p.kids.map f).sum:=by
 have:mJ f (lJ x)=(((lJ x).map (·.2)).map λy=>f y.p).sum:=by simp[mJ,Function.comp_def]
 rw[this,Ws];have hk:x.p.kids=x.kids.map PM.p:=by rw[PM.sD];rfl
 rw[hk,awy];rfl
theorem Gt(L:List Pp):mJ (λ_=>1) L=L.length:=by
 unfold mJ
 induction L with
 | nil=>rfl
 | cons a L ih=>
  rw[awo,aw8,ih,awr];show 1+L.length=L.length+1;omega
theorem OV(L:List Pp):L.length<=mJ Pl.size L:=by rw[<-Gt];unfold mJ;exact yX L λx _=>Pl.size_pos _
theorem agS(x:PM):x.p.kids.length=x.kids.length:=by rw[PM.sD];simp[Pl.kids]
structure EE(m:PM)(b0:Nat)(w1:ak)(v:au)(L:List Pp)(i:Nat)(w:ak):Prop where
 own:Ow 97 1 ppc w1.heap.size w v L
 ev:Ev w1 w
 lies:∀x∈L,Qx b0 [] w1 x.2/\QB w1 x
 le:i<=L.length
 sum:∀f:Pl->Nat,mJ f (L.take i)+mJ (Pl.sum f) (L.drop i)=m.p.sum f
theorem drop_at{α:Type}{L:List α}{i:Nat}{x:α}(hx:L[i]?=some x):L.drop i=x::L.drop (i+1)/\L.take (i+1)=L.take i++[x]:=by obtain⟨hi,e⟩:=awi.1 hx;exact⟨by rw[axc hi,e],by rw[aws hi,e]⟩
theorem QC(p:Pl):p.sum (λ_=>1)=p.size:=KX p
theorem EE.size{m:PM}{b0:Nat}{w1 w:ak}{v:au}{L:List Pp}{i:Nat}(h:EE m b0 w1 v L i w):i+mJ Pl.size (L.drop i)=m.p.size:=by have h1:=h.sum λ_=>1;rw[Gt,awT,QC,Nat.min_eq_left h.le]at h1;have:(Pl.sum λ_=>1)=Pl.size:=funext QC;rwa [this]at h1
theorem EE.short{m:PM}{b0:Nat}{w1 w:ak}{v:au}{L:List Pp}{i:Nat}(h:EE m b0 w1 v L i w):L.length<=m.p.size:=by have h1:=h.size;have h2:=OV (L.drop i);rw[awQ]at h2;have:=h.le;omega
theorem EE.room{m:PM}{b0:Nat}{w1 w:ak}{v:au}{L:List Pp}{i:Nat}{x:Pp}(h:EE m b0 w1 v L i w)(hx:L[i]?=some x):L.length+x.2.kids.length<=m.p.size:=by
 have h1:=h.size;rw[(drop_at hx).1]at h1;have h2:=OV (L.drop (i+1));rw[awQ]at h2;have h3:mJ Pl.size (x::L.drop (i+1))=x.2.p.size+mJ Pl.size (L.drop (i+1)):=by simp[mJ]
 have h4:=Pl.size_eq x.2.p;have h5:=yX (f:=λ_=>1) (g:=Pl.size) x.2.p.kids λy _=>Pl.size_pos y;have h6:(x.2.p.kids.map λ_=>1).sum=x.2.p.kids.length:=by
  generalize x.2.p.kids=l
  induction l with
  | nil=>rfl
  | cons a l ih=>
   rw[awo,aw8,ih,awr];omega
 rw[agS]at h6;have:=(awi.1 hx).1;omega
theorem EE.next{m:PM}{b0:Nat}{w1 w w':ak}{v v':au}{L:List Pp}{i:Nat}{x:Pp}(h:EE m b0 w1 v L i w)(hx:L[i]?=some x)(ho:Ow 97 1 ppc w1.heap.size w' v' (L++lJ x.2))(hE:Ev w1 w'):EE m b0 w1 v' (L++lJ x.2) (i+1) w':=by
 have hi:=(awi.1 hx).1;have hi1:i+1<=L.length:=hi;obtain⟨hd,ht⟩:=drop_at hx;refine⟨ho,hE,λy hy=>?_,by rw[awl];omega,λf=>?_⟩;rcases awD.1 hy with h1|h1;exact h.lies y h1;exact Wv (h.lies x (awm hx)).1 y h1;have h1:=h.sum f;rw[hd]at h1;rw[List.take_append_of_le_length hi1,List.drop_append_of_le_length hi1,ht,xh,xh,Y9];have h2:mJ (Pl.sum f) (x::L.drop (i+1))=x.2.p.sum f+mJ (Pl.sum f) (L.drop (i+1)):=by simp[mJ]
 have h3:mJ f [x]=f x.2.p:=by simp[mJ]
 have h4:=Pl.agC f x.2.p;omega
theorem EE.init{m:PM}{b0:Nat}{w w1 w2:ak}{v:au}{a:Addr}(hL:Qx b0 [] w m)(hE:Ev w w1)(hp:QB w1 (a,m))(ho:Ow 97 1 ppc w1.heap.size w2 v [(a,m)])(bQ:Ev w1 w2):EE m b0 w1 v [(a,m)] 0 w2:=
 ⟨ho,bQ,λx hx=>by simp at hx;subst hx;exact⟨hL.ev hE,hp⟩,aj,λf=>by simp[mJ]⟩
def Ua(m:PM)(most:Nat)(w:ak)(e:Ending)(w':ak):Prop:=
 (∃(A:Option Addr) (n cap:Nat) (L:List Pp) (b0:Nat),e=.returned (.tuple #[.slice A n cap,.bool true])/\Sl 1 ppc w' A n cap L/\(∀x∈L,QB w' x)/\(∀f:Pl->Nat,mJ f L=m.p.sum f)/\m.p.size<=most/\Ev w w')∨
 (e=.returned (.tuple #[↑(),.bool false])/\most<m.p.size/\Ev w w')
theorem XQ{w:ak}{b off n cap:Nat}{L:List Pp}(h:Sl 1 ppc w ↑(b,off) n cap L){i:Nat}{x:Pp}(hx:L[i]?=some x):w.cell? ⟨b,off+i,none⟩=some (.pointer (some x.1)):=by
 have hi:=(awi.1 hx).1;have hl:=h.len;obtain⟨b',off',e,hlt,hc⟩:=h.rd ae;injection e with e
 injection e with e1 e2 _
 subst e1 e2;have:=hc i x hx 0 _ rfl;rwa [axY,awM]at this
theorem Za(m:PM)(b0 most:Nat)(w:ak)(h:Qx b0 [] w m)(hsz:m.p.size<=1000000)(h1:1<=most)(hm:most<=1000000):
  Calls ax 54 #[pv m,↑most] w (Ua m most w):=by
 have hB:=Bx.new 32 ↑m w;have aW:=Ev.alloc w (.cells ↑m 32);unfold pv fE.v PM.kv;obtain⟨w1,hw1⟩:∃w1,w.alloc (.cells ↑m 32)=w1:=⟨_,rfl⟩
 rw[hw1]at hB aW;have YU:w1.heap.size=w.heap.size+1:=by rw[<-hw1];simp
 have eY:QB w1 (⟨w.heap.size,0,none⟩,m):=⟨w.heap.size,0,rfl,ae,by
  obtain⟨⟨p0,p1,p2,p3,p4,p5,p6,p7⟩,_⟩:=hB.eight;exact⟨p0,p1,p2,p3,p4,p5,p6,p7⟩⟩
 have HE:=zq aW;have hO:=Ow.made (et:=97) (base:=w1.heap.size) TZ w1 [(⟨w.heap.size,0,none⟩,m)] #[.pointer (some ⟨w.heap.size,0,none⟩)] rfl (awj _) aj;have HP:Hid (EE m b0 w1 (.slice ↑w1.heap.size 1 1) [(⟨w.heap.size,0,none⟩,m)] 0 (w1.alloc (.cells #[.pointer ↑w.heap.size] 97))):=zq (EE.init h aW eY hO az);clear h hB aW eY YU hO;go_enter func54,ntmps54;go_wp2
 go_loopw [6,7] (λav iv wr=>∃(A:Option Addr) (n cap i:Nat) (L:List Pp),av=.slice A n cap/\iv=↑i/\n<=most/\Hid (n=L.length)/\Hid (EE m b0 w1 (.slice A n cap) L i wr)) (λ_ iv _=>m.p.size - (intOf iv).toNat)
 case atStart=>exact⟨_,1,1,0,[(⟨w.heap.size,0,none⟩,m)],rfl,rfl,h1,zq rfl,HP⟩
 case round=>
  obtain⟨A,n,cap,i,L,rfl,rfl,hnm,jg,HS⟩:=hrel;have hns:=HS.out.short;rw[<-jg.out]at hns;obtain⟨_,cap',ZJ,qm,hA⟩:=HS.out.own.form TZ;injection ZJ with h1 h2 h3
  subst h1 h3;clear h2 hA;rw[<-jg.out]at qm;have zA:=qm.le;have hcm:=qm.max;by_cases hi:i<n
  ·obtain⟨x,hx⟩:=qm.at hi;obtain⟨b,off,rfl,hb,_⟩:=qm.rd ae;have c0:=XQ qm hx;have HX:=zq hx;have UI:=HS.out.lies x (awm hx);obtain⟨b',off',e',hb',p0,p1,p2,p3,p4,p5,p6,p7⟩:=UI.2.ev HS.out.ev;rw[e']at c0;have hro:=HS.out.room hx;rw[<-jg.out]at hro;have qw:=UI.1.ps;have tJ:=qw.le;have Yk:=qw.max;have tK:=zq qw;obtain⟨kn,hkn⟩:∃kn,kn=x.2.kids.length:=⟨_,rfl⟩
   rw[<-hkn]at p7 hro tJ tK;have mF:=zq hkn;have tY:=zq qm;have i1:(0:Int)<=(i:Int):=ae;have i2:(i:Int)<(n:Int):=ae;clear hx UI qw hkn e' hb p0 p1 p2 p3 p4 p5 p6 qm;by_cases hfit:kn+n<=most
   ·have i3:¬((most:Int) - (n:Int)<(kn:Int)):=ae;go_wp2
    go_loopw [6,33] (λav jv wr2=>∃(A2:Option Addr) (n2 cap2 j:Nat),av=.slice A2 n2 cap2/\jv=↑j/\j<=kn/\n2=n+j/\Hid (Ow 97 1 ppc w1.heap.size wr2 (.slice A2 n2 cap2) (L++(lJ x.2).take j))/\Hid (Ev w1 wr2)) (λ_ jv _=>kn - (intOf jv).toNat)
    case atStart=>exact⟨_,n,cap,0,rfl,rfl,aww _,rfl,zq (by simpa using HS.out.own),zq HS.out.ev⟩
    case round=>
     rename ak=>wr2;obtain⟨A2,n2,cap2,j,rfl,rfl,hj,Jq,HO,tu⟩:=hrel;have HN2:=zq Jq;by_cases hlt:j<kn
     ·obtain⟨y,hy⟩:=tK.out.at hlt;have hky:=Wu x.2 hy;obtain⟨b2,yH,hA2e,hb2,_⟩:=tK.out.rd ae;rw[hA2e]at hky;simp only[kAddr]at hky;rw[hA2e];have qo:Hid ((lJ x.2).take (j+1)=(lJ x.2).take j++[(⟨b2,yH+j*8,none⟩,y)]):=zq (drop_at hky).2;have t_:Hid ((L++(lJ x.2).take j).length=n2):=zq (by rw[awl,awT,Dx,<-mF.out,<-jg.out];omega);have j1:(0:Int)<=(j:Int):=ae;have j2:(j:Int)<(kn:Int):=ae;clear hy hky Jq
      go_wp2_with (first
       | ((show wpList _ _ _ (⟨some 41,_,_,_,_,_⟩::_) _ _);refine aO (o:=⟨some 41,_,_,_,_,_⟩) rfl 94 (.tmp 36) (.tmp 40) rfl TZ Tryz.Lt Tryz.agQ rfl rfl (HO.out.ev (Ev.alloc wr2 (.cells #[.pointer ↑(b2,yH+j*8)] 97))) ↑wr2.heap.size 1 1 [(⟨b2,yH+j*8,none⟩,y)] rfl (Sl.one (et:=97) TZ wr2 (⟨b2,yH+j*8,none⟩,y) #[.pointer ↑(b2,yH+j*8)] rfl) (by rw[t_.out];have:=HN2.out;simp;omega) (by rw[t_.out];have:=HN2.out;simp;omega) (tu.out.trans az).size ?_;intro v2 w2 gV;have E2:=((But.aV (tu.out.trans az)).then gV.2.1).ev (λk hk=>(HO.out.lt (aG.1 hk)).1);have O2:=gV.1;obtain⟨A3,cap3,rfl,_,_⟩:=gV.1.form TZ;generalize CU:((L++(lJ x.2).take j)++[((⟨b2,yH+j*8,none⟩,y):Pp)]).length=nn at O2|-;have FQ:=zq CU.symm;clear CU))
      go_roundw
      case rel=>exact⟨A3,nn,cap3,j+1,rfl,by go_num,ae,by rw[FQ.out,awl,t_.out,HN2.out];rfl,zq (by rw[qo.out,<-awI];exact O2),zq E2⟩
      case measure=>simp[intOf];omega
     have hjk:j=kn:=ae;subst hjk;have S2:=HS.out.next HX.out (v':=.slice A2 n2 cap2) (by
      have:=HO.out;rwa [awC (by rw[Dx,<-mF.out];exact awj _)]at this) tu.out
     have S2:=zq S2;have wF:Hid (n2=(L++lJ x.2).length):=zq (by rw[awl,Dx,<-mF.out,<-jg.out];exact Jq);have anM:n2<=most:=ae;clear Jq;go_wp2;go_roundw
     case rel=>exact⟨A2,n2,cap2,i+1,_,rfl,by go_num,anM,wF,S2⟩
     case measure=>simp[intOf];omega
   have i3:((most:Int) - (n:Int)<(kn:Int)):=ae;have hgt:most<m.p.size:=ae;go_wp2
   go_ret2
   unfold Ua;exact .inr ⟨rfl,hgt,HE.out.trans HS.out.ev⟩
  have hin:i=L.length:=by have:=HS.out.le;have:=jg.out;omega
  have i2:¬((i:Int)<(n:Int)):=ae;have HIN:=zq hin;have tY:=zq qm;have HZ:Hid (m.p.size<=most):=zq (by
   have h4:=HS.out.size;rw[hin,List.drop_length]at h4;have:mJ Pl.size []=0:=rfl;rw[this,<-jg.out]at h4;omega)
  clear hin qm;go_wp2
  go_ret2
  unfold Ua;refine .inl ⟨A,n,cap,L,b0,rfl,tY.out,λx hx=>(HS.out.lies x hx).2.ev HS.out.ev,λf=>?_,HZ.out,HE.out.trans HS.out.ev⟩;have:=HS.out.sum f;rw[HIN.out,aw0,List.drop_length]at this;simpa[mJ] using this
theorem jX.Af{base H7:Nat}{va:au}{r:CR}{w:ak}{e:Ending}{w':ak}(h:jX base va r w e w')(hb:H7<=base):jX H7 va r w e w':=by obtain⟨v,he,ho,Iz,hs⟩:=h;exact⟨v,he,ho.Af hb,Iz,hs⟩
theorem Zb(kid:List C)(r:CR)(x:T×By):(vz kid r x).cols.length<=r.cols.length+1:=by unfold vz;rw[CR.jV,CR.oU];simp
theorem agT{es:List M}{cs:List By}{k:Nat}{e:M}{s:By}(he:es[k]?=some e)(hs:cs[k]?=some s):((es.map M.t).zip cs)[k]?=some (e.t,s):=by rw[List.getElem?_zip_eq_some];exact⟨by rw[aw5,he];rfl,hs⟩
theorem aAl(h:U:=by
 go_roundw
 case rel=>exact⟨k+1,v3,by go_num,ae,zq (by rw[HST.out];exact Zc.out),XT⟩
 case measure=>simp[intOf];omega):U:=h
theorem ayA(h:U:=by obtain⟨f1,f2⟩:=lV (va:=↑()) P6.out jP.out ZT.out (XI.out.wide λk hk=>.inl (by simp at hk;subst hk;exact awp ..)) (λg hg=>.inr (hfin g hg)) (λk hk=>by cases hk) ae (by have:=kL.out;omega) (by have:=kL.out;omega);refine bodyPost_ret (aS rfl _ _ _ _ _ rfl f1 underlying58 rfl Tryz.eX) rfl ?_;rw[<-We.out];exact jX.Af (base:=wa.heap.size) (H7:=w.heap.size) f2 (by have:=HSA.out;omega)):U:=h
theorem Wx(m:PM)(b0:Nat)(w:ak)(hQ:Qx b0 [] w m)(kid:List C)(A:Option Addr)(n cap:Nat)(hC:Cs w A n cap kid)(hA:∀ad,A=some ad->ad.block<w.heap.size)(hel:m.ex.l.length=m.co.l.length)(hl:m.ex.l.length<=10000)(hfe:∀e∈m.ex.l,e.t.size<=16000/\e.t.every (λt=>decide (t.s.length<=1000000))=true):
  Calls ax 34 #[.agg ↑m,.slice A n cap] w (jX w.heap.size ↑() (qU (m.ex.l.map M.t) m.co.l kid) w):=by
 obtain⟨hex,hlx,AX,_⟩:=hQ.at;obtain⟨w0,hw0,aW,yj,Jb,hs0⟩:=Ey w 32 ↑m;obtain⟨wa,zu⟩:∃wa,wa=w0.alloc (.cells ↑Zz.d 58):=⟨_,rfl⟩
 have aK:Ev w0 wa:=by rw[zu];exact Ev.alloc _ _
 have ND:=Bx.new 58 ↑Zz.d w0;rw[<-zu]at ND;have hsa:wa.heap.size=w.heap.size+3:=by rw[zu];simp;omega
 have ZR:Hid (f_ w0.heap.size wa.heap.size CR.zero ↑() wa):=zq ⟨ND,Ow.nil_ _,λhm=>by cases hm⟩;have jP:=zq (Jb.ev aK);have HPB:Hid (∀w1,But [w0.heap.size] wa w1->Bx 32 w.heap.size ↑m w1):=zq λw1 hb=>(yj.ev aK).but hb (by simp;omega);have P6:=zq (aW.trans aK);have XN:w0.heap.size=w.heap.size+2:=hs0;have kL:=zq XN;have HSA:=zq hsa;have HCK:Hid (∀w1,But [w0.heap.size] wa w1->Cs w1 A n cap kid):=zq λw1 hb1=>(hC.ev (aW.trans aK)).but hb1 λad e=>by have:=hA ad e;simp;omega
 have HOB:Hid (∀w1 b,But [w0.heap.size] wa w1->b<w.heap.size->b<w1.heap.size):=zq λw1 b hb hlt=>by have:=hb.size;omega
 have HBM:Hid (∀(v:au) (Z:List C) w1 w2,But [w0.heap.size] wa w1->Ow 50 2 dZ wa.heap.size w1 v Z->But (w0.heap.size::foot v) w1 w2->But [w0.heap.size] wa w2):=zq λv Z w1 w2 h1 h2 h3=>h1.trans h3 λx hx=>by rcases awq.1 hx with rfl|hx;exact .inl aj;exact .inr (h2.lt (aG.1 hx)).1
 have NL:Hid (∀w1,But [w0.heap.size] wa w1->Es w1 m.ex.A m.ex.l.length m.ex.cap m.ex.l):=zq λw1 hb1=>(hex.sl.ev (aW.trans aK)).but hb1 λad e=>by have:=(hex.Bq ad e).2.1;simp;omega
 have UR:Hid (∀w1,But [w0.heap.size] wa w1->Ss w1 m.co.A m.co.l.length m.co.cap m.co.l):=zq λw1 hb1=>(AX.sl.ev (aW.trans aK)).but hb1 λad e=>by have:=(AX.Bq ad e).2.1;simp;omega
 have V6:Hid (∀e∈m.ex.l,∀w1,But [w0.heap.size] wa w1->Lx b0 [] w1 e):=zq λe he w1 hb1=>by
  have h1:Lx b0 [w0.heap.size] w e:=(hlx e he).less λk hk=>by simp at hk;exact .inr (.inr ae)
  exact((h1.ev (aW.trans aK)).move hb1 λx hx=>.inl hx).less λk hk=>by cases hk
 have lN:Hid (∀ad,m.ex.A=some ad->ad.block<w.heap.size):=zq λad e=>(hex.Bq ad e).2.1;have HKF:=zq (λe (he:e∈m.ex.l) r v w1 (hR:f_ w0.heap.size wa.heap.size r v w1) (hb1:But [w0.heap.size] wa w1)=>Xy w0.heap.size wa.heap.size r v e b0 kid A n cap w1 hR (V6.out e he w1 hb1) (HCK.out w1 hb1) (hfe e he).1 (hfe e he).2);have HAD:=zq (λr v nm k w1 (hR:f_ w0.heap.size wa.heap.size r v w1) (MR:r.cols.length<=100000) (hb1:But [w0.heap.size] wa w1)=>P_ w0.heap.size wa.heap.size r v nm k w1 hR MR hb1.size);have ajE:=hex.sl.le;have atQ:=hex.sl.max;have zW:=AX.sl.le;have hcom:=AX.sl.max;unfold CX at HAD;unfold qU;obtain⟨L,hL⟩:∃L,L=(m.ex.l.map M.t).zip m.co.l:=⟨_,rfl⟩
 rw[<-hL];have HL:=zq hL;obtain⟨ne,hne⟩:∃ne,ne=m.ex.l.length:=⟨_,rfl⟩
 have t_:Hid (L.length=ne):=zq (by rw[hL,List.length_zip,awh,hne];omega);have HCL:Hid (m.co.l.length=ne):=zq (by rw[hne,hel]);have qA:Hid (∀k,k<=ne->((L.take k).foldl (vz kid) CR.zero).cols.length<=10000):=zq λk hk=>by have h1:=uM (vz kid) 1 (Zb kid) (L.take k) CR.zero;have h2:(L.take k).length<=k:=List.length_take_le _ _;have h3:CR.zero.cols.length=0:=rfl;omega
 obtain⟨⟨p0,p1,p2,p3,p4,p5,p6,p7⟩,_⟩:=(HPB.out wa (But.refl _ _)).eight;rw[<-hne]at ajE p2 hl;rw[HCL.out]at zW p3;simp only[<-hne,HCL.out]at HPB NL UR hw0 zu|-;clear hQ hex hlx AX hC hA hfe aW aK yj Jb ND hs0 hsa XN hel hL hne;generalize m.ex.A=exA at*;generalize m.co.A=coA at*;go_enter func34,ntmps34;go_upto_region 2 with fail
 rw[<-zu];clear zu;go_wp2
 go_loopw [12] (λiv wr=>∃(k:Nat) (v:au),iv=↑k/\k<=ne/\Hid (f_ w0.heap.size wa.heap.size ((L.take k).foldl (vz kid) CR.zero) v wr)/\Hid (But [w0.heap.size] wa wr)) (λiv _=>ne - (intOf iv).toNat)
 case atStart=>exact⟨0,↑(),rfl,aww _,ZR,zq (But.refl _ _)⟩
 case round=>
  obtain⟨k,v,rfl,hk,HR,HB⟩:=hrel;by_cases hlt:k<ne
  ·obtain⟨e,he⟩:=(NL.out wr HB.out).at hlt;obtain⟨s,hs⟩:∃s,m.co.l[k]?=some s:=⟨_,awE (by rw[HCL.out];exact hlt)⟩
   have hz:=agT he hs;rw[<-HL.out]at hz;have HST:Hid ((L.take (k+1)).foldl (vz kid) CR.zero=(((L.take k).foldl (vz kid) CR.zero).kind kid e.t).add (dh s) (xType kid e.t).1):=zq (yQ hz);obtain⟨be,oe,rfl,_,e0,e1,e2,e3⟩:=Es.cell (NL.out wr HB.out) he;have anO:=HOB.out wr be HB.out (lN.out _ rfl);unfold M.kv at e3;have HCS:Hid (∀w1,But [w0.heap.size] wa w1->∃b off,coA=some ⟨b,off,none⟩/\w1.cell? ⟨b,off+k,none⟩=some ↑s):=zq λw1 hb1=>Ss.D9 (UR.out w1 hb1) hs;have hgr:=HR.out.box.lt;have hBE:=Bx.new 47 ↑(e,()) wr;obtain⟨⟨c0,c1,c2,c3⟩,_⟩:=hBE.four;have uG:=zq (HB.out.then (But.aV (Ev.alloc wr (.cells ↑(e,()) 47))));have IB:=zq (HKF.out e (awm he) _ v _ (HR.out.ev (Ev.alloc wr (.cells ↑(e,()) 47))) uG.out);have i1:(0:Int)<=(k:Int):=ae;have i2:(k:Int)<(ne:Int):=ae;clear he hs hz hBE
   go_wp2_with (first
    | ((with_reducible refine(IB.out).mono ?_);rintro r_ w2 ⟨rfl,hR2,hB2⟩;have uX:=zq hR2;have EX:=zq (uG.out.then hB2);have vT:=HAD.out _ v (dh s) (xType kid e.t).1 w2 hR2 (by rw[CR.oU];have:=qA.out k ae;omega) (uG.out.then hB2);unfold dh at vT;have vT:=zq vT;obtain⟨⟨q0,q1,q2,q3,q4,q5,q6,q7⟩,_⟩:=(HPB.out w2 (uG.out.then hB2)).eight;obtain⟨bc,oc,rfl,hcs⟩:=HCS.out w2 (uG.out.then hB2);clear hR2 hB2 c0 c1 c2 c3)
    | ((with_reducible refine(vT.out).mono ?_);rintro r_ w3 ⟨rfl,v3,OQ,qB,ER⟩;have Zc:=zq OQ;have XT:=zq (HBM.out v _ w2 w3 EX.out uX.out.own qB);clear OQ qB ER))
   exact aAl
  obtain rfl:k=ne:=ae;have HT:Hid (L.take k=L):=zq (awC (by rw[t_.out];exact awj _));rw[HT.out]at HR;obtain⟨A1,cap1,rfl,hC1⟩:=HR.out.form;have HLM:=zq (D8 w0.heap.size wa.heap.size _ A1 _ cap1 wr HR.out);obtain⟨RL,hRL⟩:∃RL,RL=L.foldl (vz kid) CR.zero:=⟨_,rfl⟩
  have We:=zq hRL;rw[<-hRL]at HLM;clear hC1 hRL
  go_wp2_with (first
   | ((with_reducible refine(HLM.out).mono ?_);rintro r_ w2 ⟨rfl,hR2,hB2⟩;have ZT:=zq hR2;have XI:=zq (HB.out.then hB2);obtain⟨⟨d0,d1,d2⟩,_⟩:=hR2.box.three;obtain⟨⟨g0,g1,g2⟩,z0,z1,z2⟩:=(jP.out.but (HB.out.then hB2) (by have:=kL.out;simp;omega)).three;clear hR2 hB2))
  (try simp only[Exit.inBlock,Exit.then]);rw[dw];have hv3:=ZT.out.own;have hfin:∀g,(Value.slice A1 RL.cols.length cap1).ownBlock=some g->wa.heap.size<=g:=λg hg=>(hv3.lt hg).1;exact ayA
theorem As.D9{w:ak}{A:Option Addr}{n cap:Nat}{l:List Ag}(h:As w A n cap l){i:Nat}{x:Ag}(hx:l[i]?=some x):∃b off,A=some ⟨b,off,none⟩/\w.cell? ⟨b,off+i*3,none⟩=some (.string ⟨x.1.toArray⟩)/\w.cell? ⟨b,off+i*3+1,none⟩=some (.string ⟨x.2.1.toArray⟩)/\w.cell? ⟨b,off+i*3+2,none⟩=some (.string ⟨x.2.2.toArray⟩):=by have hi:=(awi.1 hx).1;have hl:=h.len;obtain⟨b,off,e,_,hc⟩:=h.rd ae;exact⟨b,off,e,hc i x hx 0 _ rfl,hc i x hx 1 _ rfl,hc i x hx 2 _ rfl⟩
theorem Wy(kid:List C)(r:CR)(x:By):(pO kid r x).cols.length<=r.cols.length+1:=by unfold pO;rw[CR.jV,CR.iM];simp
theorem Zd(kid:List C)(r:CR)(x:Ag):(r.agg kid x).cols.length<=r.cols.length+1:=by rw[CR.aa4];omega
theorem abO(m:PM)(b0:Nat)(w:ak)(hQ:Qx b0 [] w m)(kid:List C)(A:Option Addr)(n cap:Nat)(hC:Cs w A n cap kid)(hA:∀ad,A=some ad->ad.block<w.heap.size)(jG:m.lf.l.length<=10000)(hla:m.ag.l.length<=10000):
  Calls ax 37 #[.agg ↑m,.slice A n cap] w (jX w.heap.size ↑() (uy m.lf.l m.ag.l kid) w):=by
 obtain⟨_,_,_,tq,_,Ac,_,_⟩:=hQ.at;obtain⟨w0,hw0,aW,yj,Jb,hs0⟩:=Ey w 32 ↑m;obtain⟨wa,zu⟩:∃wa,wa=w0.alloc (.cells ↑Zz.d 58):=⟨_,rfl⟩
 have aK:Ev w0 wa:=by rw[zu];exact Ev.alloc _ _
 have ND:=Bx.new 58 ↑Zz.d w0;rw[<-zu]at ND;have hsa:wa.heap.size=w.heap.size+3:=by rw[zu];simp;omega
 have ZR:Hid (f_ w0.heap.size wa.heap.size CR.zero ↑() wa):=zq ⟨ND,Ow.nil_ _,λhm=>by cases hm⟩;have jP:=zq (Jb.ev aK);have HPB:Hid (∀w1,But [w0.heap.size] wa w1->Bx 32 w.heap.size ↑m w1):=zq λw1 hb=>(yj.ev aK).but hb (by simp;omega);have P6:=zq (aW.trans aK);have XN:w0.heap.size=w.heap.size+2:=hs0;have kL:=zq XN;have HSA:=zq hsa;have HCK:Hid (∀w1,But [w0.heap.size] wa w1->Cs w1 A n cap kid):=zq λw1 hb1=>(hC.ev (aW.trans aK)).but hb1 λad e=>by have:=hA ad e;simp;omega
 have HOB:Hid (∀w1 b,But [w0.heap.size] wa w1->b<w.heap.size->b<w1.heap.size):=zq λw1 b hb hlt=>by have:=hb.size;omega
 have HBM:Hid (∀(v:au) (Z:List C) w1 w2,But [w0.heap.size] wa w1->Ow 50 2 dZ wa.heap.size w1 v Z->But (w0.heap.size::foot v) w1 w2->But [w0.heap.size] wa w2):=zq λv Z w1 w2 h1 h2 h3=>h1.trans h3 λx hx=>by rcases awq.1 hx with rfl|hx;exact .inl aj;exact .inr (h2.lt (aG.1 hx)).1
 have MQ:Hid (∀w1,But [w0.heap.size] wa w1->Ss w1 m.lf.A m.lf.l.length m.lf.cap m.lf.l):=zq λw1 hb1=>(tq.sl.ev (aW.trans aK)).but hb1 λad e=>by have:=(tq.Bq ad e).2.1;simp;omega
 have EU:Hid (∀w1,But [w0.heap.size] wa w1->As w1 m.ag.A m.ag.l.length m.ag.cap m.ag.l):=zq λw1 hb1=>(Ac.sl.ev (aW.trans aK)).but hb1 λad e=>by have:=(Ac.Bq ad e).2.1;simp;omega
 have HAR:Hid (∀ad,m.ag.A=some ad->ad.block<w.heap.size):=zq λad e=>(Ac.Bq ad e).2.1;have wI:=zq (λs r v w1 (hR:f_ w0.heap.size wa.heap.size r v w1) (hb1:But [w0.heap.size] wa w1)=>I5 w0.heap.size wa.heap.size r v kid A n cap s w1 hR (HCK.out w1 hb1));have HAD:=zq (λr v nm k w1 (hR:f_ w0.heap.size wa.heap.size r v w1) (MR:r.cols.length<=100000) (hb1:But [w0.heap.size] wa w1)=>P_ w0.heap.size wa.heap.size r v nm k w1 hR MR hb1.size);have HAA:=zq (λ(a:Ag) r v w1 (hR:f_ w0.heap.size wa.heap.size r v w1) (MR:r.cols.length<=100000) (hb1:But [w0.heap.size] wa w1)=>agF w0.heap.size wa.heap.size r v a kid A n cap w1 hR MR hb1.size (HCK.out w1 hb1) (λad e hm=>by
  have:=hA ad e;rcases awq.1 hm with h1|h1;omega;have:=(hR.own.lt (aG.1 h1)).1;omega) (λad e=>by have:=hA ad e;have:=hb1.size;omega))
 have anQ:=tq.sl.le;have atT:=tq.sl.max;have anR:=Ac.sl.le;have atU:=Ac.sl.max;unfold CX at HAD HAA;unfold uy;simp only;obtain⟨R1,hR1⟩:∃R1,R1=m.lf.l.foldl (pO kid) CR.zero:=⟨_,rfl⟩
 rw[<-hR1];obtain⟨R2,hR2⟩:∃R2,R2=m.ag.l.foldl (λr a=>r.agg kid a) R1:=⟨_,rfl⟩
 rw[<-hR2];have mY:=zq hR1;have uX:=zq hR2;obtain⟨R3,OQ⟩:∃R3,R3=(if R2.cols.length=0 then R2.fail 23 ⟨#[]⟩ else R2).limit:=⟨_,rfl⟩
 rw[<-OQ];have adX:=zq OQ;obtain⟨nl,hnl⟩:∃nl,nl=m.lf.l.length:=⟨_,rfl⟩
 obtain⟨na,E_⟩:∃na,na=m.ag.l.length:=⟨_,rfl⟩
 have jg:=zq hnl;have Cb:=zq E_;have qA:Hid (∀k,((m.lf.l.take k).foldl (pO kid) CR.zero).cols.length<=10000):=zq λk=>by
  have h1:=uM (pO kid) 1 (Wy kid) (m.lf.l.take k) CR.zero;have h2:(m.lf.l.take k).length<=m.lf.l.length:=by rw[awT];omega
  have h3:CR.zero.cols.length=0:=rfl;omega
 have ajF:Hid (R1.cols.length<=10000):=zq (by rw[hR1];have:=qA.out m.lf.l.length;rwa [aw0]at this);have anS:Hid (∀k,((m.ag.l.take k).foldl (λr a=>r.agg kid a) R1).cols.length<=20000):=zq λk=>by
  have h1:=uM (λr (a:Ag)=>r.agg kid a) 1 (Zd kid) (m.ag.l.take k) R1;have h2:(m.ag.l.take k).length<=m.ag.l.length:=by rw[awT];omega
  have:=ajF.out;omega
 obtain⟨⟨p0,p1,p2,p3,p4,p5,p6,p7⟩,_⟩:=(HPB.out wa (But.refl _ _)).eight;rw[<-hnl]at anQ p4 jG;rw[<-E_]at anR p6 hla;simp only[<-hnl,<-E_]at HPB MQ EU hw0 zu|-;clear hQ tq Ac hC hA aW aK yj Jb ND hs0 hsa XN hR1 hR2 OQ hnl E_;generalize m.lf.A=lfA at*;generalize m.ag.A=agA at*;go_enter func37,ntmps37;go_upto_region 2 with fail
 rw[<-zu];clear zu;go_wp2
 go_loopw [14] (λiv wr=>∃(k:Nat) (v:au),iv=↑k/\k<=nl/\Hid (f_ w0.heap.size wa.heap.size ((m.lf.l.take k).foldl (pO kid) CR.zero) v wr)/\Hid (But [w0.heap.size] wa wr)) (λiv _=>nl - (intOf iv).toNat)
 case atStart=>exact⟨0,↑(),rfl,aww _,ZR,zq (But.refl _ _)⟩
 case round=>
  obtain⟨k,v,rfl,hk,HR,HB⟩:=hrel;by_cases hlt:k<nl
  ·obtain⟨s,hs⟩:=(MQ.out wr HB.out).at hlt;have HST:Hid ((m.lf.l.take (k+1)).foldl (pO kid) CR.zero=(((m.lf.l.take k).foldl (pO kid) CR.zero).find kid (dh s)).add (dh s) (dS kid (dh s))):=zq (yQ hs);obtain⟨be,oe,rfl,hcs⟩:=Ss.D9 (MQ.out wr HB.out) hs;have IB:=wI.out (dh s) _ v wr HR.out HB.out;unfold dh at IB;have IB:=zq IB;have i1:(0:Int)<=(k:Int):=ae;have i2:(k:Int)<(nl:Int):=ae;clear hs
   go_wp2_with (first
    | ((with_reducible refine(IB.out).mono ?_);rintro r_ w2 ⟨rfl,hR2,hB2⟩;have ajG:=zq hR2;have EX:=zq (HB.out.then hB2);have vT:=HAD.out _ v (dh s) (dS kid (dh s)) w2 hR2 (by rw[CR.iM];have:=qA.out k;omega) (HB.out.then hB2);unfold dh at vT;have vT:=zq vT;clear hR2 hB2)
    | ((with_reducible refine(vT.out).mono ?_);rintro r_ w3 ⟨rfl,v3,OQ,qB,ER⟩;have Zc:=zq OQ;have XT:=zq (HBM.out v _ w2 w3 EX.out ajG.out.own qB);clear OQ qB ER))
   exact aAl
  obtain rfl:k=nl:=ae;have HT:Hid (m.lf.l.take k=m.lf.l):=zq (awC (by rw[jg.out];exact awj _));rw[HT.out,<-mY.out]at HR;have HRa:Hid (f_ w0.heap.size wa.heap.size ((m.ag.l.take 0).foldl (λr a=>r.agg kid a) R1) v wr):=zq (by simpa using HR.out);obtain⟨wo,rfl⟩:∃wo:ak,wo=wr:=⟨_,rfl⟩
  obtain⟨⟨q0,q1,q2,q3,q4,q5,q6,q7⟩,_⟩:=(HPB.out wo HB.out).eight;clear p0 p1 p2 p3 p4 p5 p6 p7;go_wp2
  go_loopw [28] (λiv wr=>∃(j:Nat) (v:au),iv=↑j/\j<=na/\Hid (f_ w0.heap.size wa.heap.size ((m.ag.l.take j).foldl (λr a=>r.agg kid a) R1) v wr)/\Hid (But [w0.heap.size] wa wr)) (λiv _=>na - (intOf iv).toNat)
  case atStart=>exact⟨0,v,rfl,aww _,HRa,HB⟩
  case round=>
   obtain⟨j,v5,rfl,hj,ZU,OW⟩:=hrel;by_cases ZP:j<na
   ·obtain⟨a,ha⟩:=(EU.out wr OW.out).at ZP;have HST:Hid ((m.ag.l.take (j+1)).foldl (λr a=>r.agg kid a) R1=((m.ag.l.take j).foldl (λr a=>r.agg kid a) R1).agg kid a):=zq (yQ ha);obtain⟨be,oe,rfl,a0,a1,a2⟩:=As.D9 (EU.out wr OW.out) ha;have anO:=HOB.out wr be OW.out (HAR.out _ rfl);have hBA:=Bx.new 54 #[.string ⟨a.1.toArray⟩,.string ⟨a.2.1.toArray⟩,.string ⟨a.2.2.toArray⟩] wr;obtain⟨⟨c0,c1,c2⟩,_⟩:=hBA.three;have qE:=zq (OW.out.then (But.aV (Ev.alloc wr (.cells #[.string ⟨a.1.toArray⟩,.string ⟨a.2.1.toArray⟩,.string ⟨a.2.2.toArray⟩] 54))));have HR6:=ZU.out.ev (Ev.alloc wr (.cells #[.string ⟨a.1.toArray⟩,.string ⟨a.2.1.toArray⟩,.string ⟨a.2.2.toArray⟩] 54));have IB:=zq (HAA.out a _ v5 _ HR6 (by have:=anS.out j;omega) qE.out);have HR6:=zq HR6;have i1:(0:Int)<=(j:Int):=ae;have i2:(j:Int)<(na:Int):=ae;clear ha hBA
    go_wp2_with (first
     | ((with_reducible refine(IB.out).mono ?_);rintro r_ w3 ⟨rfl,v3,OQ,qB,ER⟩;have Zc:=zq OQ;have XT:=zq (HBM.out v5 _ _ w3 qE.out HR6.out.own qB);clear OQ qB ER))
    go_roundw
    case rel=>exact⟨j+1,v3,by go_num,ae,zq (by rw[HST.out];exact Zc.out),XT⟩
    case measure=>simp[intOf];omega
   obtain rfl:j=na:=ae;have HT5:Hid (m.ag.l.take j=m.ag.l):=zq (awC (by rw[Cb.out];exact awj _));rw[HT5.out,<-uX.out]at ZU;obtain⟨A1,cap1,rfl,hC1⟩:=ZU.out.form;obtain⟨nc,zA⟩:∃nc,nc=R2.cols.length:=⟨_,rfl⟩
   have Qr:=zq zA;rw[<-zA]at ZU;obtain⟨⟨k0,k1,k2⟩,_⟩:=ZU.out.box.three;have atV:nc<=9223372036854775807:=by have h1:=hC1.le;have h2:=hC1.max;omega
   by_cases hz:nc=0
   ·have Ox:=zq (nM w0.heap.size wa.heap.size R2 (.slice A1 nc cap1) 23 ⟨#[]⟩ wr ZU.out);have We:Hid ((R2.fail 23 ⟨#[]⟩).limit=R3):=zq (by rw[adX.out,if_pos (by rw[<-Qr.out];exact hz)]);subst hz;clear hC1 zA
    go_wp2_with (first
     | ((with_reducible refine(Ox.out).mono ?_);rintro r_ w2 ⟨rfl,hR2,hB2⟩;have HLM:=zq (D8 w0.heap.size wa.heap.size _ A1 0 cap1 w2 hR2);have IC:=zq (OW.out.then hB2);clear hR2 hB2)
     | ((with_reducible refine(HLM.out).mono ?_);rintro r_ w4 ⟨rfl,hR2,hB2⟩;have ZT:=zq hR2;have XI:=zq (IC.out.then hB2);obtain⟨⟨d0,d1,d2⟩,_⟩:=hR2.box.three;obtain⟨⟨g0,g1,g2⟩,z0,z1,z2⟩:=(jP.out.but (IC.out.then hB2) (by have:=kL.out;simp;omega)).three;clear hR2 hB2))
    (try simp only[Exit.inBlock,Exit.then]);rw[dw];have hv3:=ZT.out.own;have hfin:∀g,(Value.slice A1 0 cap1).ownBlock=some g->wa.heap.size<=g:=λg hg=>(hv3.lt hg).1;exact ayA
   have HLM:=zq (D8 w0.heap.size wa.heap.size _ A1 nc cap1 wr ZU.out);have We:Hid (R2.limit=R3):=zq (by rw[adX.out,if_neg (by rw[<-Qr.out];exact hz)]);have hz2:(nc==0)=false:=awg.2 hz;have hz3:((nc:Int)==0)=false:=awg.2 ae;clear hC1 zA
   go_wp2_with (first
    | ((with_reducible refine(HLM.out).mono ?_);rintro r_ w4 ⟨rfl,hR2,hB2⟩;have ZT:=zq hR2;have XI:=zq (OW.out.then hB2);obtain⟨⟨d0,d1,d2⟩,_⟩:=hR2.box.three;obtain⟨⟨g0,g1,g2⟩,z0,z1,z2⟩:=(jP.out.but (OW.out.then hB2) (by have:=kL.out;simp;omega)).three;clear hR2 hB2))
   (try simp only[Exit.inBlock,Exit.then]);rw[dw];have hv3:=ZT.out.own;have hfin:∀g,(Value.slice A1 nc cap1).ownBlock=some g->wa.heap.size<=g:=λg hg=>(hv3.lt hg).1;exact ayA
theorem LG(w:ak)(m:PM):∃w0,w.alloc (.cells ↑m 32)=w0/\Ev w w0/\Bx 32 w.heap.size ↑m w0/\w0.heap.size=w.heap.size+1:=⟨_,rfl,Ev.alloc _ _,Bx.new _ _ _,aj⟩
def afn(m:PM)(most:Nat)(w:ak)(e:Ending)(w':ak):Prop:=
 ∃(A:Option Addr) (n cap:Nat) (L:List Pp),e=.returned (.tuple #[.slice A n cap,.bool (decide (m.p.size<=most))])/\Sl 1 ppc w' A n cap L/\(∀x∈L,QB w' x)/\(m.p.size<=most->∀f:Pl->Nat,mJ f L=m.p.sum f)/\(¬m.p.size<=most->L=[])/\n<=most/\Ev w w'
theorem Ua.any{m:PM}{most:Nat}{w w':ak}{e:Ending}(h:Ua m most w e w'):afn m most w e w':=by
 rcases h with⟨A,n,cap,L,b0,rfl,hS,hP,hf,hs,hE⟩|⟨rfl,hs,hE⟩
 refine⟨A,n,cap,L,by rw[awO hs],hS,hP,λ_=>hf,λh=>absurd hs h,?_,hE⟩;have h1:=hf λ_=>1;rw[Gt,QC,hS.len]at h1;omega;exact⟨none,0,0,[],by rw[awY ae],Sl.nil_ w',(λx hx=>by cases hx),λh=>absurd h ae,λ_=>rfl,aww _,hE⟩
theorem Zj(f:Pl->Nat)(L:List Pp){k:Nat}{x:Pp}(h:L[k]?=some x):mJ f (L.take (k+1))=mJ f (L.take k)+f x.2.p:=by rw[(drop_at h).2,xh];simp[mJ]
theorem ad8(f:Pl->Nat)(L:List Pp)(k:Nat):mJ f (L.take k)<=mJ f L:=by have:=xh f (L.take k) (L.drop k);rw[axf]at this;omega
theorem ad9(x:PM):og x.p=x.ex.l.length+x.co.l.length+x.lf.l.length+x.rt.l.length+x.ag.l.length:=by rw[PM.sD];simp[og,Pl.exprs,Pl.cols,Pl.left,Pl.right,Pl.F7]
theorem az1(h:U:=by go_wp2;go_ret;exact⟨by first|(rw[HQ.out];rfl)|(have h:=HQ.out;rw[Bool.decide_and]at h;rw[h];rfl),(HE.out.trans tu.out).trans lN.out⟩):U:=h
theorem LH(m:PM)(b0:Nat)(w:ak)(h:Qx b0 [] w m)(hsz:m.p.size<=1000000)(hpt:m.p.sum og<=1000000000):
  Calls ax 28 #[pv m] w λe w'=>e=.returned (.bool (decide (m.p.size<=600/\m.p.sum og<=600)))/\Ev w w':=by
 have HW:=zq (λw1 (hE:Ev w w1)=>(Za m b0 600 w1 (h.ev hE) hsz ae ae).mono λe w2 h=>h.any);unfold afn at HW;obtain⟨w0,hw0,aW,hB,_⟩:=LG w m;obtain⟨⟨p0,p1,p2,p3,p4,p5,p6,p7⟩,_⟩:=hB.eight;have HE:=zq aW;have HPT:=zq hpt;obtain⟨ok,CE⟩:∃ok,ok=decide (m.p.size<=600):=⟨_,rfl⟩
 have HOK:=zq CE;rw[<-CE]at HW;unfold pv fE.v PM.kv at*;rw[show ((600:Nat):Int)=600 from rfl]at HW;clear h hB aW hsz hpt CE;go_enter func28,ntmps28
 go_wp2_with (first
  | ((with_reducible refine(HW.out _ HE.out).mono ?_);rintro e w2 ⟨A,n,cap,L,rfl,hS,hP,hf,hno,hn6,bQ⟩;simp only[];have HS:=zq hS;have HP:=zq hP;have HF:=zq hf;have HNO:=zq hno;have hcl:=hS.le;have hcm:=hS.max;have tu:=zq bQ;have xH:=zq hS.len;clear hS hP hf hno bQ p0 p1 p2 p3 p4 p5 p6 p7))
 have HB:=zq (by
  by_cases hs:m.p.size<=600;rw[HF.out hs];exact HPT.out;rw[HNO.out hs];simp[mJ]:mJ og L<=1000000000)
 go_loopw [5,15] (λrv iv wr=>∃(k s:Nat),rv=.int .i64 (600 - (s:Int))/\iv=↑k/\k<=n/\s<=1000000000/\Hid (s=mJ og (L.take k))/\Hid (Ev w2 wr)) (λ_ iv _=>n - (intOf iv).toNat)
 case atStart=>exact⟨0,0,rfl,rfl,aww _,ae,zq rfl,zq aJ⟩
 case round=>
  obtain⟨k,s,rfl,rfl,hk,hsb,HSS,lN⟩:=hrel;by_cases hlt:k<n
  ·obtain⟨x,hx⟩:=HS.out.at hlt;obtain⟨b,off,rfl,hb,_⟩:=(HS.out.ev lN.out).rd ae;have c0:=XQ (HS.out.ev lN.out) hx;obtain⟨b',off',e',hb',p0,p1,p2,p3,p4,p5,p6,p7⟩:=(HP.out x (awm hx)).ev lN.out;rw[e']at c0;have hst:=Zj og L hx;have Ij:=ad8 og L (k+1);rw[ad9,<-HSS.out]at hst;have hbd:=HB.out;have HST:=zq hst;have b1:s+(x.2.ex.l.length+x.2.co.l.length+x.2.lf.l.length+x.2.rt.l.length+x.2.ag.l.length)<=1000000000:=ae;generalize x.2.ex.l.length=n1 at*;generalize x.2.co.l.length=n2 at*;generalize x.2.lf.l.length=n3 at*;generalize x.2.rt.l.length=n4 at*;generalize x.2.ag.l.length=n5 at*;have i1:(0:Int)<=(k:Int):=ae;have i2:(k:Int)<(n:Int):=ae;clear hx hst Ij hbd e' p0 p1 p7;go_upto_region 6 with fail
   go_quiet (fail)
   go_wp2;go_roundw
   case rel=>exact⟨k+1,s+(n1+n2+n3+n4+n5),by congr 1;omega,by go_num,ae,b1,zq HST.out.symm,zq (lN.out.trans (Ev.drewN _ _))⟩
   case measure=>simp[intOf];omega
  obtain rfl:k=n:=ae;have aoc:Hid (s=mJ og L):=zq (by
   have h1:=HSS.out;rwa [awC (by rw[xH.out];exact awj _)]at h1)
  have ag3:Hid (decide (m.p.size<=600/\m.p.sum og<=600)=(ok&&decide (s<=600))):=zq (by
   rw[HOK.out];by_cases hs:m.p.size<=600;rw[aoc.out,HF.out hs,awO hs,axi];simp[hs];rw[awY hs,aw6];simp[hs])
  cases ok
  have HQ:Hid (decide (m.p.size<=600/\m.p.sum og<=600)=false):=zq (by rw[ag3.out];rfl);exact az1;by_cases hs6:s<=600;have i3:(s:Int)<=600:=ae;have HQ:Hid (decide (m.p.size<=600/\m.p.sum og<=600)=true):=zq (by rw[ag3.out,awO hs6];rfl);exact az1;have i3:¬((s:Int)<=600):=ae;have HQ:Hid (decide (m.p.size<=600/\m.p.sum og<=600)=false):=zq (by rw[ag3.out,awY hs6];rfl);exact az1
theorem abW(m:PM)(b0:Nat)(w:ak)(hT:Tab w)(h:Qx b0 [] w m)(hg:m.p.good)(hsz:(aH m.p).size<=10000)(hlen:(printS (aH m.p)).length<=100000):
  Calls ax 17 #[pv m] w λe w'=>e=.returned (.string ⟨(qR m.p).toArray⟩)/\Ev w w':=by
 have hfit:=Eu _ hg hsz;have oQ:=(Ti m.p hg).2.2;have hpl:=OM m.p hg;rw[(abB og (λ_=>1)).1,KX]at hpl;have HS:=zq (λw1 (hE:Ev w w1)=>LH m b0 w1 (h.ev hE) ae ae);have TW:=zq (λw1 (hE:Ev w w1)=>Qp m b0 w1 (hT.ev hE) (h.ev hE) hfit ae ae (λe=>by have:=(Et _ oQ).1;rw[e]at this;simp at this) (AA _ (jL _ oQ).1));have BX:=zq (λw1 (hE:Ev w w1)=>XP (printS (aH m.p)) w1 (hT.ev hE) hlen);have HSM:=zq (λm2 (hp:m2.p=m.p) b1 w1 (hE:Ev w w1) (h2:Qx b1 [] w1 m2)=>Y8 m.dep m m2 b0 b1 w1 (awj _) (h.ev hE) h2 hp.symm hg hfit);obtain⟨r1,r2,r3⟩:=TI m.p hg;obtain⟨w0,hw0,aW,hB,_⟩:=LG w m;obtain⟨⟨p0,p1,p2,p3,p4,p5,p6,p7⟩,_⟩:=hB.eight;have HE:=zq aW;have HB:=zq hB;unfold bH at BX;unfold Yes at HSM;unfold pv fE.v PM.kv at*;by_cases hsm:m.p.size<=600/\m.p.sum og<=600
 ·rw[awO hsm]at HS;obtain⟨PS,xg⟩:∃PS,PS=printS (aH m.p):=⟨_,rfl⟩
  by_cases CE:(printS (aH m.p)).length<=600/\(aH m.p).deep<=12
  ·rw[show qR m.p=printS (aH m.p) by unfold qR;rw[if_pos CE]];rw[r1 CE.1 CE.2]at BX;simp only at BX;rw[<-xg]at BX TW|-;clear h hB aW hsz hlen hT hg hfit oQ hpl r1 r2 r3 hsm CE xg;go_enter func17,ntmps17
   go_wp2_with (first
    | ((with_reducible refine(HS.out _ HE.out).mono ?_);rintro e w1 ⟨rfl,aK⟩;have E1:=zq (HE.out.trans aK);clear p0 p1 p2 p3 p4 p5 p6 p7;obtain⟨⟨p0,p1,p2,p3,p4,p5,p6,p7⟩,_⟩:=(HB.out.ev aK).eight;have uG:=zq (HB.out.ev aK);clear aK)
    | ((with_reducible refine(TW.out _ E1.out).mono ?_);rintro e w2 ⟨rfl,bQ⟩;have E2:=zq (E1.out.trans bQ);clear p0 p1 p2 p3 p4 p5 p6 p7;have EX:=zq (uG.out.ev bQ);clear bQ)
    | ((with_reducible refine(BX.out _ E2.out).mono ?_);rintro e w3 ⟨m2,rfl,hp2,hq2,iI⟩;simp only[];obtain⟨w4,hw4,iw,EZ,_⟩:=LG w3 m2;have E4:=zq (E2.out.trans (iI.trans iw));have HP2:=zq hp2;have HQ2:=zq (hq2.ev iw);obtain⟨⟨q0,q1,q2,q3,q4,q5,q6,q7⟩,_⟩:=EZ.eight;obtain⟨⟨p0,p1,p2,p3,p4,p5,p6,p7⟩,_⟩:=(EX.out.ev (iI.trans iw)).eight;clear hp2 hq2 iI iw EZ)
    | ((with_reducible refine(HSM.out m2 HP2.out _ _ E4.out HQ2.out).mono ?_);rintro e w5 ⟨rfl,Il⟩;have E5:=zq (E4.out.trans Il)))
   go_ret;exact⟨rfl,E5.out⟩
  rw[show qR m.p=[] by unfold qR;rw[if_neg CE]];have hne:(mi (printS (aH m.p))).2.1≠0:=by by_cases hl:(printS (aH m.p)).length<=600;rw[r3 hl ae];decide;rw[r2 ae];decide
  rw[<-xg]at BX TW hne;generalize mi PS=R at BX hne;obtain⟨Rp,Rw,Rx⟩:=R;simp only at BX hne;have hneb:(Rw !=0)=true:=axr.2 hne;clear h hB aW hsz hlen hT hg hfit oQ hpl r1 r2 r3 hsm CE xg hne;go_enter func17,ntmps17
  go_wp2_with (first
   | ((with_reducible refine(HS.out _ HE.out).mono ?_);rintro e w1 ⟨rfl,aK⟩;have E1:=zq (HE.out.trans aK);clear p0 p1 p2 p3 p4 p5 p6 p7;obtain⟨⟨p0,p1,p2,p3,p4,p5,p6,p7⟩,_⟩:=(HB.out.ev aK).eight;clear aK)
   | ((with_reducible refine(TW.out _ E1.out).mono ?_);rintro e w2 ⟨rfl,bQ⟩;have E2:=zq (E1.out.trans bQ);clear p0 p1 p2 p3 p4 p5 p6 p7 bQ)
   | ((with_reducible refine(BX.out _ E2.out).mono ?_);rintro e w3 ⟨m2,rfl,hp2,hq2,iI⟩;simp only[];have E3:=zq (E2.out.trans iI);clear hp2 hq2 iI))
  go_ret;exact⟨rfl,E3.out.trans az⟩
 rw[awY hsm]at HS;rw[show qR m.p=[] by unfold qR;rw[if_neg ae]];clear h hB aW hsz hlen hT hg hfit oQ hpl r1 r2 r3 hsm BX HSM TW;go_enter func17,ntmps17
 go_wp2_with (first
  | ((with_reducible refine(HS.out _ HE.out).mono ?_);rintro e w1 ⟨rfl,aK⟩;have E1:=zq (HE.out.trans aK);clear aK))
 go_ret;exact⟨rfl,E1.out⟩
theorem ag4{m:PM}(h:m.p=ik):m.kind=0/\m.kids.length=0:=by
 rw[PM.sD]at h;unfold ik at h;injection h with h1 h2 h3 h4 h5 h6 h7 h8
 exact⟨h1,by have:=congrArg List.length h8;simpa using this⟩
theorem Zk:M.t (.mk 1 [] 0 none 0 [] 0)=aH ik:=by rfl
theorem abX(m:PM)(w:ak)(hm:m.p=ik):
  Calls ax 56 #[pv m] w (gq (aH ik) w):=by
 obtain⟨hk,hn⟩:=ag4 hm;unfold pv fE.v PM.kv gq;rw[hk,hn];obtain⟨w0,hw0,aW,hX,hB⟩:=Aa w (.int .i64 0) ↑m.name (.slice m.ex.A m.ex.l.length m.ex.cap) (.slice m.co.A m.co.l.length m.co.cap) (.slice m.lf.A m.lf.l.length m.lf.cap) (.slice m.rt.A m.rt.l.length m.rt.cap) (.slice m.ag.A m.ag.l.length m.ag.cap) (.slice m.A 0 m.cap);obtain⟨⟨p0,p1,p2,p3,p4,p5,p6,p7⟩,_⟩:=hX.eight;have HB:=zq hB;have HE:=zq aW;have HO:=zq (nP none 0 0 w0);clear hX hB aW hm hk hn;go_enter func56,ntmps56;go_wp2;refine wp_loop_rounds 1 ?_;rw[rounds_succ]
 go_wp2_with ((with_reducible refine HO.out.mono ?_);rintro e w2 ⟨rfl,bQ⟩;have tu:=zq bQ;have jP:=zq (HB.out.ev bQ);obtain⟨⟨d0,d1,d2,d3,d4⟩,r0,r1,r2,r3,r4⟩:=jP.out.five;clear bQ)
 (try simp only[Exit.inBlock,Exit.then]);rw[b_];refine bodyPost_ret (aS rfl _ _ _ _ _ rfl (jP.out.kH _ _ _ _ _) underlying101 rfl Tryz.iQ) rfl ?_;refine⟨.mk 1 [] 0 none 0 [] 0,rfl,Zk,.mk (Sl.nil_ _) (λ_ h=>by cases h) (λ_ h=>by cases h),(HE.out.trans tu.out).box (bJ _ _ _ _ _ _ _) ae⟩
theorem Dy:printS (aH ik)=[40,41]:=by decide+kernel
theorem Zl:xQ (aH ik)=true:=by decide+kernel
theorem Zm:(aH ik).size<=100000:=by decide+kernel
theorem zero_read:(mi [40,41]).2.1=12:=ah
theorem abY(m:PM)(w:ak)(hT:Tab w)(hm:m.p=ik):
  Calls ax 29 #[pv m] w λr w'=>r=.returned (.string ⟨#[40,41]⟩)/\Ev w w':=by
 have HT:=zq (λw1=>abX m w1 hm);have HP:=zq (λ(x:M) (hx:x.t=aH ik) b1 w1 (hE:Ev w w1) (hl:Lies b1 [] w1 x)=>Hz (hT.ev hE) hl (by rw[hx];exact Zm) (by rw[hx,Dy];simp) (.inl (by rw[hx,Dy];simp)) (by rw[hx];exact Zl));unfold pv fE.v PM.kv gq at*;have hB:=Bx.new 32 ↑m w;obtain⟨⟨p0,p1,p2,p3,p4,p5,p6,p7⟩,_⟩:=hB.eight;clear hT hB hm;go_enter func29,ntmps29
 go_wp2_with (first
  | ((with_reducible refine(HT.out _).mono ?_);rintro r w1 ⟨x,rfl,jI,iJ,aK⟩;have E1:=zq ((Ev.alloc w _).trans aK);have HPX:=zq (HP.out x jI _ w1 E1.out iJ);rw[jI,Dy]at HPX;clear jI iJ p0 p1 p2 p3 p4 p5 p6 p7)
  | ((with_reducible refine(HPX.out).mono ?_);rintro r w2 ⟨rfl,bQ⟩))
 go_ret;exact⟨rfl,E1.out.trans bQ⟩
theorem Zn(m:PM)(b0:Nat)(w:ak)(hT:Tab w)(h:Qx b0 [] w m)(hm:m.p=ik):
  Calls ax 17 #[pv m] w λe w'=>e=.returned (.string ⟨#[]⟩)/\Ev w w':=by
 have HS:=zq (λw1 (hE:Ev w w1)=>LH m b0 w1 (h.ev hE) (by rw[hm];decide+kernel) (by rw[hm];decide+kernel));rw[show (decide (m.p.size<=600/\m.p.sum og<=600))=true by rw[hm];decide+kernel]at HS;have TW:=zq (λw1 (hE:Ev w w1)=>abY m w1 (hT.ev hE) hm);have BX:=zq (λw1 (hE:Ev w w1)=>XP [40,41] w1 (hT.ev hE) aj);have hne:(mi [40,41]).2.1≠0:=by rw[zero_read];decide
 obtain⟨w0,hw0,aW,hB,_⟩:=LG w m;obtain⟨⟨p0,p1,p2,p3,p4,p5,p6,p7⟩,_⟩:=hB.eight;have HE:=zq aW;have HB:=zq hB;unfold bH at BX;unfold pv fE.v PM.kv at*;generalize mi [40,41]=R at BX hne;obtain⟨Rp,Rw,Rx⟩:=R;simp only at BX hne;have hneb:(Rw !=0)=true:=axr.2 hne;clear h hB aW hT hm hne;go_enter func17,ntmps17
 go_wp2_with (first
  | ((with_reducible refine(HS.out _ HE.out).mono ?_);rintro e w1 ⟨rfl,aK⟩;have E1:=zq (HE.out.trans aK);clear p0 p1 p2 p3 p4 p5 p6 p7;obtain⟨⟨p0,p1,p2,p3,p4,p5,p6,p7⟩,_⟩:=(HB.out.ev aK).eight;clear aK)
  | ((with_reducible refine(TW.out _ E1.out).mono ?_);rintro e w2 ⟨rfl,bQ⟩;have E2:=zq (E1.out.trans bQ);clear p0 p1 p2 p3 p4 p5 p6 p7 bQ)
  | ((with_reducible refine(BX.out _ E2.out).mono ?_);rintro e w3 ⟨m2,rfl,hp2,hq2,iI⟩;simp only[];have E3:=zq (E2.out.trans iI);clear hp2 hq2 iI))
 go_ret;exact⟨rfl,E3.out.trans az⟩
def lsS(l:List By):By:=40::printL true (l.map aP)
theorem Ud(l:List By)(s:By):lsS (l++[s])=lsS l++((if l.isEmpty then [] else [32])++s):=by unfold lsS;rw[awt,awo,awG,rY,show (l.map aP).isEmpty=l.isEmpty by cases l<;>rfl];show 40::(_++(_++printS (aP s)))=_;rw[show printS (aP s)=s by unfold aP;simp[printS]];simp
theorem OY(l:List By):printS (aU l)=lsS l++[41]:=by unfold lsS aU bU;rw[qM];rfl
theorem Ue:∀(m l:List By),(lsS l).length<=(lsS (l++m)).length
 | [],l=>by simp
 | s::m,l=>by
  have h1:=Ue m (l++[s]);rw[awI]at h1;have h2:(lsS l).length<=(lsS (l++[s])).length:=by rw[Ud,awl];omega
  exact awJ h2 h1
theorem ab1(l:List By)(k:Nat):(lsS (l.take k)).length<=(lsS l).length:=by have:=Ue (l.drop k) (l.take k);rwa [axf]at this
theorem aeb(l:List By)(A:Option Addr)(n cap:Nat)(w:ak)(h:Ss w A n cap l)(hb:(lsS l).length<=1000000):
  Calls ax 86 #[.slice A n cap] w λe w'=>e=.returned (.string ⟨(printS (aU l)).toArray⟩)/\Ev w w':=by
 have hcl:=h.le;have hcm:=h.max;have HL:=zq h.len;have H:=zq h;have ajU:=zq (λk=>awJ (ab1 l k) hb);have Gv:=zq (OY l);clear h;go_enter func86,ntmps86;go_wp2
 go_loopw [3,4] (λsv iv wr=>∃(k:Nat) (S:By),sv=↑S/\iv=↑k/\k<=n/\Hid (S=lsS (l.take k))/\Hid (Ev w wr)) (λ_ iv _=>n - (intOf iv).toNat)
 case atStart=>exact⟨0,[40],rfl,rfl,aww _,zq rfl,zq aJ⟩
 case round=>
  obtain⟨k,S,rfl,rfl,hk,HS,HE⟩:=hrel;have Ij:S.length<=1000000:=by rw[HS.out];exact ajU.out k
  have hz:=dB S;by_cases hlt:k<n
  ·obtain⟨x,hx⟩:=H.out.at hlt;obtain⟨b,off,rfl,hbl,c0⟩:=Ss.cell2 (H.out.ev HE.out) hx;have pq:k<l.length:=by rw[HL.out];exact hlt
   have oV:lsS (l.take (k+1))=S++((if k=0 then [] else [32])++x):=by
    obtain⟨_,e1⟩:=awi.1 hx;rw[aws pq,e1,Ud,HS.out]
    cases k with
    | zero=>simp
    | succ k=>
     cases l with
     | nil=>simp at pq
     | cons a l=>simp
   have hlen:=ajU.out (k+1);rw[oV]at hlen;have qo:=zq oV;have i1:(0:Int)<=(k:Int):=ae;have i2:(k:Int)<(n:Int):=ae;have hz2:=dB x;clear hx oV pq;by_cases hk0:k=0
   ·have i3:¬((0:Int)<(k:Int)):=ae;obtain⟨Y,hY⟩:∃Y,Y=S++x:=⟨_,rfl⟩
    have l7:(⟨S.toArray⟩:ByteArray)++⟨x.toArray⟩=⟨Y.toArray⟩:=by rw[hY];exact eH _ _
    rw[if_pos hk0]at qo hlen;have hb2:S.length+x.length<=1000000:=by simp at hlen;omega
    have HY:Hid (Y=lsS (l.take (k+1))):=zq (by rw[qo.out,hY];simp);clear hY hlen hk0;go_wp2;go_roundw
    case rel=>exact⟨k+1,Y,rfl,by go_num,ae,HY,HE⟩
    case measure=>simp[intOf];omega
   have i3:(0:Int)<(k:Int):=ae;obtain⟨Z,hZ⟩:∃Z,Z=S++[32]:=⟨_,rfl⟩
   obtain⟨Y,hY⟩:∃Y,Y=Z++x:=⟨_,rfl⟩
   have l7:(⟨S.toArray⟩:ByteArray)++⟨#[32]⟩=⟨Z.toArray⟩:=by rw[hZ];exact eH S [32]
   have LK:(⟨Z.toArray⟩:ByteArray)++⟨x.toArray⟩=⟨Y.toArray⟩:=by rw[hY];exact eH _ _
   have hz3:=dB Z;have hzl:Z.length=S.length+1:=by rw[hZ];simp
   rw[if_neg hk0]at qo hlen;have hb2:Z.length+x.length<=1000000:=by simp at hlen;omega
   have HY:Hid (Y=lsS (l.take (k+1))):=zq (by rw[qo.out,hY,hZ];simp);clear hY hZ hlen hk0;go_wp2;go_roundw
   case rel=>exact⟨k+1,Y,rfl,by go_num,ae,HY,HE⟩
   case measure=>simp[intOf];omega
  obtain rfl:k=n:=ae;have HF:Hid (S=lsS l):=zq (by have:=HS.out;rwa [awC (by rw[HL.out];exact awj _)]at this);have l7:(⟨S.toArray⟩:ByteArray)++⟨#[41]⟩=⟨(S++[41]).toArray⟩:=eH S [41];have HC:=zq l7;clear l7;go_wp2;go_ret;refine⟨?_,HE.out⟩;rw[Gv.out,<-HF.out,<-HC.out];rfl
end Go.Proofs.YtpbfokkocaemlaaGreatDoor
