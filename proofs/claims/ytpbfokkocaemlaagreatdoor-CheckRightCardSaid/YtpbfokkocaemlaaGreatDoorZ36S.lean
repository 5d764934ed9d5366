import Derived.Test.YtpbfokkocaemlaaGreatDoorZ35S
set_option linter.unusedVariables false
set_option maxRecDepth 100000
set_option maxHeartbeats 64000000
namespace Go.Proofs.YtpbfokkocaemlaaGreatDoor
open Go.RowKit
open Go.Lib renaming hid → zq
theorem PN (N:Nat):∀(m:M) (b0:Nat) (w:World),m.dep≤N→Lies b0 [] w m→m.t.every bZ=true→m.t.size≤10000→
  Calls Tryz.prog 39 #[.agg #[.int .i64 m.kind,.string ⟨m.s.toArray⟩,.int .i64 m.n,.slice m.A m.kids.length m.cap,.int .i64 (m.pos:Int)]] w (bu (mi m.t) w):=by
 induction N with
 | zero=>
  intro m b0 w hd;rw[M.mX]at hd;omega
 | succ N ih=>
  intro m b0 w hd hL hfair hsz
  cases hf:fG m.t
  exact Si m b0 w hL hf;obtain⟨x,q,hq⟩:∃x q,m.kids=x::q:=by
   cases hk:m.kids with
   | nil=>
    rw[yV,hk]at hf;simp at hf
   | cons x q=>exact⟨x,q,rfl⟩
  have Tn:∀y∈q,∀w1,Ev w w1→Calls Tryz.prog 39 #[.agg #[.int .i64 y.kind,.string ⟨y.s.toArray⟩,.int .i64 y.n,.slice y.A y.kids.length y.cap,.int .i64 (y.pos:Int)]] w1 (bu (mi y.t) w1):=fun y hy w1 hE=>by
   have hym:y∈m.kids:=by rw[hq];exact aty _ hy
   have hqs:=lD hq hy hfair hsz;exact ih y b0 w1 (by have:=M.lF hym;omega) ((hL.kid y hym).ev hE) hqs.1 hqs.2
  have hk:fF x.s≠0:=fun h0=>by
   have:=(lC hq hf).2.2.1;rw[h0]at this
   cases this
  rcases Gi hk with hs|hs|hs|hs|hs|hs|hs;exact PG m b0 w hL hfair hsz hf x q hq hs Tn;exact MI m b0 w hL hfair hsz hf x q hq hs Tn;exact KC m b0 w hL hfair hsz hf x q hq hs Tn;obtain⟨l,r,hlr⟩:∃l r,q=l::r:=by
   cases hk:q with
   | nil=>have:=(lC hq hf).2.2.2.2.2;rw[hk]at this;simp at this
   | cons l r=>exact⟨l,r,rfl⟩
  by_cases h0:(yG (l.kids.map M.t)).2.1=0;exact MK m b0 w hL hfair hsz hf x q hq hs (fun l' r' e=>by rw[hlr]at e;injection e with e1 e2;rw[←e1];exact h0) Tn;exact Ky m b0 w hL hfair hsz hf x q hq hs (fun l' r' e=>by rw[hlr]at e;injection e with e1 e2;rw[←e1];exact h0) Tn;exact Py m b0 w hL hfair hsz hf x q hq hs Tn;exact GY m b0 w hL hfair hsz hf x q hq hs Tn;exact PI m b0 w hL hfair hsz hf x q hq hs Tn
def dJ (s:By):Zl:=if (dB s).2.1==0 then pFrom (dB s).1 else (gQ,(dB s).2.1,(dB s).2.2)
theorem KD (s:By) (h:(dJ s).2.1=0):WrP (dJ s).1:=by unfold dJ at h⊢;by_cases hc:(dB s).2.1=0;rw[if_pos (by simp[hc])]at h⊢;obtain⟨h1,h2,h3⟩:=CW s hc;unfold pFrom at h⊢;by_cases he:(aZ (dB s).1).1=0;rw[if_pos (by simp[he])]at h⊢;by_cases hl:600<(printS (aC (pPlan (dB s).1))).length;rw[if_pos hl]at h;exact absurd h (by decide);rw[if_neg hl];obtain⟨h4,h5⟩:=Dx h1 h3 he;refine⟨h4,?_,by show (printS (aC (pPlan (dB s).1))).length≤600;omega⟩;show (aC (pPlan (dB s).1)).deep≤12;rw[h5,Jg];exact h2;rw[if_neg (by simpa using he)]at h;exact absurd h he;rw[if_neg (by simpa using hc)]at h;exact absurd h hc
theorem KE (s:By):(dB s).1.every bZ=true:=(Zg s).1
theorem Sr (s:By) (h:(dJ s).2.1≠0):(dJ s).1=gQ:=by unfold dJ at h⊢;split;rename_i hc;rw[if_pos hc]at h;unfold pFrom at h⊢;split;rename_i he;rw[if_pos he]at h;split;rfl;rename_i hl;rw[if_neg hl]at h;exact absurd rfl h;rfl;rfl
theorem Ve (s:By) (w:World) (hs:s.length≤100000) (hc:(dB s).2.1≠0):
  Calls Tryz.prog 19 #[.string ⟨s.toArray⟩] w (bu (dJ s) w):=by
 have OD:=zq (fun w1=>G6 ⟨s.toArray⟩ w1 hs);obtain⟨w0,hw0,aT,hB0,hs0⟩:=sS w;have rQ:=zq hB0;have dH:=zq aT;have hg:=hB0.lt;have hR:dJ s=(gQ,(dB s).2.1,(dB s).2.2):=by unfold dJ;rw[if_neg (by simpa using hc)]
 rw[hR];have hcb:((dB s).2.1==0)=false:=atp.2 hc;have YN:((dB s).2.1 !=0)=true:=by simp[hc]
 unfold qG at OD;unfold bu;clear aT hB0 hs hc hR hs0;go_enter Tryz.func19,Tryz.ntmps19
 go_wp2_with (first
  | ((with_reducible refine (OD.out _).mono ?_);rintro r w1 ⟨m,rfl,DU,hmL,aH⟩;have E1:=zq (dH.out.trans aH);have lX:=zq ((rQ.out.ev aH).ev (Ev.alloc w1 (.cells #[.int .i64 m.kind,.string ⟨m.s.toArray⟩,.int .i64 m.n,.slice m.A m.kids.length m.cap,.int .i64 (m.pos:Int)] 79)));obtain⟨⟨r0,r1,r2,r3,r4,r5,r6,r7⟩,s0,s1,s2,s3,s4,s5,s6,s7⟩:=lX.out.eight;clear DU hmL aH))
 (try simp only[Exit.inBlock,Exit.then]);rw[bg];obtain⟨f1,f2⟩:=kP (att w.heap.size) (E1.out.trans (Ev.alloc _ _)) lX.out (.int .i64 0) (.string ⟨#[]⟩) (.slice none 0 0) (.slice none 0 0) (.slice none 0 0) (.slice none 0 0) (.slice none 0 0) (.slice none 0 0);refine bodyPost_ret (aF rfl _ _ _ _ _ rfl f1 Tryz.underlying32 rfl Tryz.bJ) rfl ?_;exact⟨jJ,rfl,gY,Qx.zero _ _ _,f2⟩
theorem Vf (s:By) (w:World) (hs:s.length≤100000) (hc:(dB s).2.1=0) (he:(aZ (dB s).1).1≠0):
  Calls Tryz.prog 19 #[.string ⟨s.toArray⟩] w (bu (dJ s) w):=by
 have OD:=zq (fun w1=>G6 ⟨s.toArray⟩ w1 hs);obtain⟨w0,hw0,aT,hB0,hs0⟩:=sS w;have rQ:=zq hB0;have dH:=zq aT;have hg:=hB0.lt;have hR:dJ s=(gQ,(aZ (dB s).1).1,(aZ (dB s).1).2):=by unfold dJ pFrom;rw[if_pos (by simp[hc]),if_neg (by simpa using he)]
 have hF:mi (dB s).1=(gQ,(aZ (dB s).1).1,(aZ (dB s).1).2):=by unfold mi;rw[if_neg he]
 rw[hR];have Yu:((aZ (dB s).1).1==0)=false:=atp.2 he;obtain⟨h1,h2,h3⟩:=CW s hc;have XK:=zq (KE s);have yH:=zq h3;have hcb:((dB s).2.1==0)=true:=by simp[hc]
 unfold qG at OD;simp only at OD;rw[hc]at OD;unfold bu;obtain⟨TT,hTT⟩:∃TT,TT=(dB s).1:=⟨_,rfl⟩
 rw[←hTT]at XK yH hF Yu⊢;have LD:=zq hTT;have HF:=zq hF;clear aT hB0 hs hc he hR hs0 h1 h2 h3 hcb hTT hF;go_enter Tryz.func19,Tryz.ntmps19
 go_wp2_with (first
  | ((with_reducible refine (OD.out _).mono ?_);rintro r w1 ⟨m,rfl,DU,hmL,aH⟩;have DU:=DU.trans LD.out.symm;have E1:=zq (dH.out.trans aH);have F1:=zq aH;have hBT:=Bx.new 79 #[.int .i64 m.kind,.string ⟨m.s.toArray⟩,.int .i64 m.n,.slice m.A m.kids.length m.cap,.int .i64 (m.pos:Int)] w1;obtain⟨⟨k0,k1,k2,k3,k4⟩,_⟩:=hBT.five;have hFR:=PN m.dep m w0.heap.size (w1.alloc (.cells #[.int .i64 m.kind,.string ⟨m.s.toArray⟩,.int .i64 m.n,.slice m.A m.kids.length m.cap,.int .i64 (m.pos:Int)] 79)) (att _) (hmL.ev (Ev.alloc _ _)) (by rw[DU];exact XK.out) (by rw[DU];have:=yH.out;omega);rw[DU,HF.out]at hFR;have HFR:=zq hFR;clear DU hmL aH hFR hBT)
  | ((with_reducible refine (HFR.out).mono ?_);rintro r w2 ⟨x,rfl,su,xB,bK⟩;have Hu:=zq su;have DZ:=zq xB;have E2:=zq ((Ev.alloc w1 _).trans bK);have tZ:=zq (rQ.out.ev (F1.out.trans E2.out));obtain⟨⟨r0,r1,r2,r3,r4,r5,r6,r7⟩,s0,s1,s2,s3,s4,s5,s6,s7⟩:=tZ.out.eight;have hg2:w.heap.size<w2.heap.size:=atM hg (F1.out.trans E2.out).size;clear su xB bK))
 (try simp only[Exit.inBlock,Exit.then]);rw[bg];obtain⟨f1,f2⟩:=kP (att w.heap.size) (E1.out.trans E2.out) tZ.out (.int .i64 x.kind) (.string ⟨x.name.toArray⟩) (.slice x.ex.A x.ex.l.length x.ex.cap) (.slice x.co.A x.co.l.length x.co.cap) (.slice x.lf.A x.lf.l.length x.lf.cap) (.slice x.rt.A x.rt.l.length x.rt.cap) (.slice x.ag.A x.ag.l.length x.ag.cap) (.slice x.A x.kids.length x.cap);refine bodyPost_ret (aF rfl _ _ _ _ _ rfl (f1.ev (Ev.alloc _ _)) Tryz.underlying32 rfl Tryz.bJ) rfl ?_;refine⟨x,rfl,Hu.out,?_,f2.trans (Ev.alloc _ _)⟩;exact ((kL DZ.out (bQ _ _ _ _ _ _ _ _ _ _) (fun k hk=>by simp at hk;simp;have:=E1.out.size;omega)).ev (Ev.alloc _ _)).low (by simp;have:=E1.out.size;omega)
theorem Su (s:By) (w:World) (hs:s.length≤100000) (hc:(dB s).2.1=0) (he:(aZ (dB s).1).1=0) (hl:600<(printS (aC (pPlan (dB s).1))).length):
  Calls Tryz.prog 19 #[.string ⟨s.toArray⟩] w (bu (dJ s) w):=by
 have OD:=zq (fun w1=>G6 ⟨s.toArray⟩ w1 hs);obtain⟨w0,hw0,aT,hB0,hs0⟩:=sS w;have rQ:=zq hB0;have dH:=zq aT;have hg:=hB0.lt;have hR:dJ s=(gQ,3,0):=by unfold dJ pFrom;rw[if_pos (by simp[hc]),if_pos (by simp[he]),if_pos hl]
 have hF:mi (dB s).1=(pPlan (dB s).1,0,0):=by unfold mi;rw[if_pos he]
 rw[hR];obtain⟨h1,h2,h3⟩:=CW s hc;have XK:=zq (KE s);have yH:=zq h3;have hcb:((dB s).2.1==0)=true:=by simp[hc]
 unfold qG at OD;simp only at OD;rw[hc]at OD;unfold bu;obtain⟨TT,hTT⟩:∃TT,TT=(dB s).1:=⟨_,rfl⟩
 obtain⟨hwr,_⟩:=Dx h1 h3 he;have hgood:=hwr.good;have hz6:=hwr.size;have hlen:=hwr.len;obtain⟨PS,vN⟩:∃PS,PS=printS (aC (pPlan (dB s).1)):=⟨_,rfl⟩
 rw[←vN]at hl;rw[←hTT]at XK yH hF hgood hz6 hlen vN;have LD:=zq hTT;have HF:=zq hF;have HG:=zq hgood;have HZ6:=zq hz6;have vZ:=zq hlen;have qZ:=zq vN;have hpl:PS.length≤1000000:=by rw[vN];exact hlen
 have hsz:=cZ PS;have KT:(600:Int)<(PS.length:Int):=by omega
 clear aT hB0 hs hc he hR hs0 h1 h2 h3 hcb hTT hF hwr hgood hz6 hlen vN hl;go_enter Tryz.func19,Tryz.ntmps19
 go_wp2_with (first
  | ((with_reducible refine (OD.out _).mono ?_);rintro r w1 ⟨m,rfl,DU,hmL,aH⟩;have DU:=DU.trans LD.out.symm;have E1:=zq (dH.out.trans aH);have F1:=zq aH;have hBT:=Bx.new 79 #[.int .i64 m.kind,.string ⟨m.s.toArray⟩,.int .i64 m.n,.slice m.A m.kids.length m.cap,.int .i64 (m.pos:Int)] w1;obtain⟨⟨k0,k1,k2,k3,k4⟩,_⟩:=hBT.five;have hFR:=PN m.dep m w0.heap.size (w1.alloc (.cells #[.int .i64 m.kind,.string ⟨m.s.toArray⟩,.int .i64 m.n,.slice m.A m.kids.length m.cap,.int .i64 (m.pos:Int)] 79)) (att _) (hmL.ev (Ev.alloc _ _)) (by rw[DU];exact XK.out) (by rw[DU];have:=yH.out;omega);rw[DU,HF.out]at hFR;have HFR:=zq hFR;clear DU hmL aH hFR hBT)
  | ((with_reducible refine (HFR.out).mono ?_);rintro r w2 ⟨x,rfl,su,xB,bK⟩;have su:x.p=pPlan TT:=su;have Hu:=zq su;have DZ:=zq xB;have E2:=zq ((Ev.alloc w1 _).trans bK);have hg2:w.heap.size<w2.heap.size:=atM hg (F1.out.trans E2.out).size;have hBX:=Bx.new 32 #[.int .i64 x.kind,.string ⟨x.name.toArray⟩,.slice x.ex.A x.ex.l.length x.ex.cap,.slice x.co.A x.co.l.length x.co.cap,.slice x.lf.A x.lf.l.length x.lf.cap,.slice x.rt.A x.rt.l.length x.rt.cap,.slice x.ag.A x.ag.l.length x.ag.cap,.slice x.A x.kids.length x.cap] w2;have HBX:=zq hBX;obtain⟨⟨q0,q1,q2,q3,q4,q5,q6,q7⟩,_⟩:=hBX.eight;have Sv:=V9 x.dep x _ (w2.alloc (.cells #[.int .i64 x.kind,.string ⟨x.name.toArray⟩,.slice x.ex.A x.ex.l.length x.ex.cap,.slice x.co.A x.co.l.length x.co.cap,.slice x.lf.A x.lf.l.length x.lf.cap,.slice x.rt.A x.rt.l.length x.rt.cap,.slice x.ag.A x.ag.l.length x.ag.cap,.slice x.A x.kids.length x.cap] 32)) (att _) (xB.ev (Ev.alloc _ _)) (by rw[su];exact HG.out) (by rw[su];have:=HZ6.out;omega) (by rw[su];exact vZ.out);unfold lH at Sv;rw[su]at Sv;unfold pv eU.v PM.kv at Sv;have Sv:=Sv;rw[←qZ.out]at Sv;have HT9:=zq Sv;clear su xB bK Sv hBX)
  | ((with_reducible refine (HT9.out).mono ?_);rintro r w3 ⟨rfl,iE⟩;have E3:=zq ((Ev.alloc w2 _).trans iE);have F3:=zq iE;have XH:=zq (rQ.out.ev ((F1.out.trans E2.out).trans E3.out));obtain⟨⟨r0,r1,r2,r3,r4,r5,r6,r7⟩,s0,s1,s2,s3,s4,s5,s6,s7⟩:=XH.out.eight;clear q0 q1 q2 q3 q4 q5 q6 q7;obtain⟨⟨q0,q1,q2,q3,q4,q5,q6,q7⟩,_⟩:=(HBX.out.ev iE).eight;clear iE))
 (try simp only[Exit.inBlock,Exit.then]);rw[bg];obtain⟨f1,f2⟩:=kP (att w.heap.size) ((E1.out.trans E2.out).trans E3.out) XH.out (.int .i64 0) (.string ⟨#[]⟩) (.slice none 0 0) (.slice none 0 0) (.slice none 0 0) (.slice none 0 0) (.slice none 0 0) (.slice none 0 0);refine bodyPost_ret (aF rfl _ _ _ _ _ rfl f1 Tryz.underlying32 rfl Tryz.bJ) rfl ?_;exact⟨jJ,rfl,gY,Qx.zero _ _ _,f2⟩
theorem X8 (s:By) (w:World) (hs:s.length≤100000) (hc:(dB s).2.1=0) (he:(aZ (dB s).1).1=0) (hl:¬600<(printS (aC (pPlan (dB s).1))).length):
  Calls Tryz.prog 19 #[.string ⟨s.toArray⟩] w (bu (dJ s) w):=by
 have OD:=zq (fun w1=>G6 ⟨s.toArray⟩ w1 hs);obtain⟨w0,hw0,aT,hB0,hs0⟩:=sS w;have rQ:=zq hB0;have dH:=zq aT;have hg:=hB0.lt;have hR:dJ s=(pPlan (dB s).1,0,0):=by unfold dJ pFrom;rw[if_pos (by simp[hc]),if_pos (by simp[he]),if_neg hl]
 have hF:mi (dB s).1=(pPlan (dB s).1,0,0):=by unfold mi;rw[if_pos he]
 rw[hR];obtain⟨h1,h2,h3⟩:=CW s hc;have XK:=zq (KE s);have yH:=zq h3;have hcb:((dB s).2.1==0)=true:=by simp[hc]
 unfold qG at OD;simp only at OD;rw[hc]at OD;unfold bu;obtain⟨TT,hTT⟩:∃TT,TT=(dB s).1:=⟨_,rfl⟩
 obtain⟨hwr,_⟩:=Dx h1 h3 he;have hgood:=hwr.good;have hz6:=hwr.size;have hlen:=hwr.len;obtain⟨PS,vN⟩:∃PS,PS=printS (aC (pPlan (dB s).1)):=⟨_,rfl⟩
 rw[←vN]at hl;rw[←hTT]at XK yH hF hgood hz6 hlen vN⊢;have LD:=zq hTT;have HF:=zq hF;have HG:=zq hgood;have HZ6:=zq hz6;have vZ:=zq hlen;have qZ:=zq vN;have hpl:PS.length≤1000000:=by rw[vN];exact hlen
 have hsz:=cZ PS;have KT:¬((600:Int)<(PS.length:Int)):=by omega
 clear aT hB0 hs hc he hR hs0 h1 h2 h3 hcb hTT hF hwr hgood hz6 hlen vN hl;go_enter Tryz.func19,Tryz.ntmps19
 go_wp2_with (first
  | ((with_reducible refine (OD.out _).mono ?_);rintro r w1 ⟨m,rfl,DU,hmL,aH⟩;have DU:=DU.trans LD.out.symm;have E1:=zq (dH.out.trans aH);have F1:=zq aH;have hBT:=Bx.new 79 #[.int .i64 m.kind,.string ⟨m.s.toArray⟩,.int .i64 m.n,.slice m.A m.kids.length m.cap,.int .i64 (m.pos:Int)] w1;obtain⟨⟨k0,k1,k2,k3,k4⟩,_⟩:=hBT.five;have hFR:=PN m.dep m w0.heap.size (w1.alloc (.cells #[.int .i64 m.kind,.string ⟨m.s.toArray⟩,.int .i64 m.n,.slice m.A m.kids.length m.cap,.int .i64 (m.pos:Int)] 79)) (att _) (hmL.ev (Ev.alloc _ _)) (by rw[DU];exact XK.out) (by rw[DU];have:=yH.out;omega);rw[DU,HF.out]at hFR;have HFR:=zq hFR;clear DU hmL aH hFR hBT)
  | ((with_reducible refine (HFR.out).mono ?_);rintro r w2 ⟨x,rfl,su,xB,bK⟩;have su:x.p=pPlan TT:=su;have Hu:=zq su;have DZ:=zq xB;have E2:=zq ((Ev.alloc w1 _).trans bK);have hg2:w.heap.size<w2.heap.size:=atM hg (F1.out.trans E2.out).size;have hBX:=Bx.new 32 #[.int .i64 x.kind,.string ⟨x.name.toArray⟩,.slice x.ex.A x.ex.l.length x.ex.cap,.slice x.co.A x.co.l.length x.co.cap,.slice x.lf.A x.lf.l.length x.lf.cap,.slice x.rt.A x.rt.l.length x.rt.cap,.slice x.ag.A x.ag.l.length x.ag.cap,.slice x.A x.kids.length x.cap] w2;have HBX:=zq hBX;obtain⟨⟨q0,q1,q2,q3,q4,q5,q6,q7⟩,_⟩:=hBX.eight;have Sv:=V9 x.dep x _ (w2.alloc (.cells #[.int .i64 x.kind,.string ⟨x.name.toArray⟩,.slice x.ex.A x.ex.l.length x.ex.cap,.slice x.co.A x.co.l.length x.co.cap,.slice x.lf.A x.lf.l.length x.lf.cap,.slice x.rt.A x.rt.l.length x.rt.cap,.slice x.ag.A x.ag.l.length x.ag.cap,.slice x.A x.kids.length x.cap] 32)) (att _) (xB.ev (Ev.alloc _ _)) (by rw[su];exact HG.out) (by rw[su];have:=HZ6.out;omega) (by rw[su];exact vZ.out);unfold lH at Sv;rw[su]at Sv;unfold pv eU.v PM.kv at Sv;have Sv:=Sv;rw[←qZ.out]at Sv;have HT9:=zq Sv;clear su xB bK Sv hBX)
  | ((with_reducible refine (HT9.out).mono ?_);rintro r w3 ⟨rfl,iE⟩;have E3:=zq ((Ev.alloc w2 _).trans iE);have F3:=zq iE;have XH:=zq (rQ.out.ev ((F1.out.trans E2.out).trans E3.out));obtain⟨⟨r0,r1,r2,r3,r4,r5,r6,r7⟩,s0,s1,s2,s3,s4,s5,s6,s7⟩:=XH.out.eight;clear q0 q1 q2 q3 q4 q5 q6 q7;obtain⟨⟨q0,q1,q2,q3,q4,q5,q6,q7⟩,_⟩:=(HBX.out.ev iE).eight;clear iE))
 (try simp only[Exit.inBlock,Exit.then]);rw[bg];obtain⟨f1,f2⟩:=kP (att w.heap.size) ((E1.out.trans E2.out).trans E3.out) XH.out (.int .i64 x.kind) (.string ⟨x.name.toArray⟩) (.slice x.ex.A x.ex.l.length x.ex.cap) (.slice x.co.A x.co.l.length x.co.cap) (.slice x.lf.A x.lf.l.length x.lf.cap) (.slice x.rt.A x.rt.l.length x.rt.cap) (.slice x.ag.A x.ag.l.length x.ag.cap) (.slice x.A x.kids.length x.cap);refine bodyPost_ret (aF rfl _ _ _ _ _ rfl f1 Tryz.underlying32 rfl Tryz.bJ) rfl ?_;refine⟨x,rfl,Hu.out,?_,f2⟩;exact (kL ((DZ.out.ev (Ev.alloc _ _)).ev F3.out) (bQ _ _ _ _ _ _ _ _ _ _) (fun k hk=>by simp at hk;simp;have:=E1.out.size;omega)).low (by simp;have:=E1.out.size;omega)
theorem acI (s:By) (w:World) (hs:s.length≤100000):Calls Tryz.prog 19 #[.string ⟨s.toArray⟩] w (bu (dJ s) w):=by by_cases hc:(dB s).2.1=0;by_cases he:(aZ (dB s).1).1=0;by_cases hl:600<(printS (aC (pPlan (dB s).1))).length;exact Su s w hs hc he hl;exact X8 s w hs hc he hl;exact Vf s w hs hc he;exact Ve s w hs hc
end Go.Proofs.YtpbfokkocaemlaaGreatDoor
