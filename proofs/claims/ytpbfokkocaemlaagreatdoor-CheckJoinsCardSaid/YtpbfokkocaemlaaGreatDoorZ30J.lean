import Derived.Test.YtpbfokkocaemlaaGreatDoorZ29J
set_option linter.unusedVariables false
set_option maxRecDepth 100000
set_option maxHeartbeats 64000000
namespace Go.Proofs.YtpbfokkocaemlaaGreatDoor
open Go.RowKit
open Go.Lib renaming hid → zq
open Go renaming World → ak
open Go.Proofs.Tryz renaming prog → ax
variable {U:Prop}
open Go.Proofs.Tryz
def PmB(g4 base:Nat)(PT:Pl)(u:ak):Prop:=∃m:PM,Bx 32 g4 ↑m u/\m.p=PT/\Qx base [] u m
def StF(gr g4 base:Nat)(es:List Er)(PT:Pl)(p:Nat)(u:ak):Prop:=Rb gr (es.getD p (0,0)) u/\if p+1=es.length then PmB g4 base PT u else Bx 32 g4 ↑Zz.b u
theorem StF.ev(gr g4 base:Nat)(es:List Er)(PT:Pl):∀p u u',Ev u u'->StF gr g4 base es PT p u->StF gr g4 base es PT p u':=λp u u' hE h=>by refine⟨h.1.ev hE,?_⟩;have h2:=h.2;split at h2;rename_i hp;rw[if_pos hp];obtain⟨m,hB,hm,hQ⟩:=h2;exact⟨m,hB.ev hE,hm,hQ.ev hE⟩;rename_i hp;rw[if_neg hp];exact h2.ev hE
theorem vS{w w1 wq:ak}{gr g4:Nat}(hE:Ev w w1)(h:But [gr,g4] w1 wq)(h4:w.heap.size<=g4):But [gr] w wq:=(But.aV hE).trans h λy hy=>by simp at hy;rcases hy with rfl|rfl;exact .inl aj;exact .inr h4
theorem uh{w w1:ak}{gr g4:Nat}(h:But [gr] w w1):But [gr,g4] w w1:=h.wide λy hy=>.inl (by simp at hy;simp[hy])
theorem OT{w w1:ak}{gr g4:Nat}(h:But [g4] w w1):But [gr,g4] w w1:=h.wide λy hy=>.inl (by simp at hy;simp[hy])
theorem zg{gr g4 base:Nat}(h1:gr<base)(h2:g4<base):∀k∈[gr,g4],k<base:=λk hk=>by simp at hk;rcases hk with rfl|rfl<;>assumption
theorem wZ{gr g4 base:Nat}{es:List Er}{PT:Pl}{p:Nat}{E E':Er}{u u':ak}(h:StF gr g4 base es PT p u)(hr:iF gr E' u u')(X9:es.getD (p+1) (0,0)=E')(hp:p+2<es.length)(h4:g4≠gr):StF gr g4 base es PT (p+1) u':=by refine⟨by rw[X9];exact hr.bx,?_⟩;have h2:=h.2;rw[if_neg ae]at h2|-;exact h2.but hr.but (by simp;exact h4)
theorem AZ{b0 gr:Nat}{w:ak}{y:M}(h:Lies b0 [gr] w y):Ms w y.A y.kids.length y.cap y.kids/\SK b0 [gr] w y.A:=by
 refine⟨h.ms,?_⟩;cases h with
 | mk h1 h2 h3=>exact h2
theorem Lr{y:M}(h:y.t.size<=10000):y.kids.length<=100000:=by have h7:=T.size_eq y.t;have h8:=jS y.t.kids;rw[M.aZ,awh]at h8;rw[M.aZ]at h7;omega
theorem aBa(h:U:=by refine aQ λa w c=>⟨(ay rfl),_,run_move _ rfl w,(c.was 5 rfl)⟩):U:=h
theorem aAt(h:U:=by have lh:a.eval (.const (.int .i64 0))=.int .i64 0:=rfl;generalize a.eval=ρ at bD lh|-;simp[execOp,bD,lh,go_sem]):U:=h
theorem ay5(h:U:=by have Og:=vS E1.out c.inv (awX _);have hsz:=c.inv.size;refine(tK.out _ wq Og st.1).mono ?_;rintro r wp ⟨X_,rfl,wK,yw,hXq,kT⟩;exact⟨_,rfl,uh kT.but,c.inv.then (uh kT.but),wZ (E:=e) st kT rfl aj hg4,⟨X_,rfl,wK,yw.low hsz,λk_ Ah=>(hXq k_ Ah).low hsz⟩⟩):U:=h
theorem ayi(h:U:=by
 have e4:a.eval (.tmp 4)=.pointer (some ⟨w.heap.size+1,0,none⟩):=(c.was 4 rfl)
 have Fv:Bx 32 (w.heap.size+1) ↑Zz.b wq:=st.2;obtain⟨⟨r0,r1,r2,r3,r4,r5,r6,r7⟩,s0,s1,s2,s3,s4,s5,s6,s7⟩:=Fv.eight;refine⟨ay rfl,iK (w.heap.size+1) ↑m_.kind ↑m_.name (.slice m_.ex.A m_.ex.l.length m_.ex.cap) (.slice m_.co.A m_.co.l.length m_.co.cap) (.slice m_.lf.A m_.lf.l.length m_.lf.cap) (.slice m_.rt.A m_.rt.l.length m_.rt.cap) (.slice m_.ag.A m_.ag.l.length m_.ag.cap) (.slice m_.A m_.kids.length m_.cap) wq,?_,OT (bV _ _ _ _ _ _ _ _ _ _),c.inv.then (OT (bV _ _ _ _ _ _ _ _ _ _)),⟨st.1.but (bV _ _ _ _ _ _ _ _ _ _) (by simp;omega),⟨m_,Fv.iK _ _ _ _ _ _ _ _,YW,lH NT (bV _ _ _ _ _ _ _ _ _ _) (λy hy=>by simp at hy;omega)⟩⟩,trivial⟩;generalize a.eval=ρ at em_ e4|-;simp[execOp,em_,e4,go_sem,r0,r1,r2,r3,r4,r5,r6,r7,s0,s1,s2,s3,s4,s5,s6,s7,iK,kH,kG]):U:=h
theorem NS(m:M)(gr:Nat)(e:Er)(b0:Nat)(w:ak)(hB:Rb gr e w)(hL:Lies b0 [gr] w m)(hfair:m.t.every cO=true)(hsz:m.t.size<=10000)(hf:fZ m.t=true)(x:M)(q:List M)(hq:m.kids=x::q)(hs:x.s=d_)
  (ih:∀y∈q,∀w1 e1,But [gr] w w1->Rb gr e1 w1->Calls ax 58 #[.pointer ↑gr,.agg ↑y] w1 (ru gr e1 y.t w1)):
  Calls ax 58 #[.pointer ↑gr,.agg ↑m] w (ru gr e m.t w):=by
 have fD:Tryz.prog.follows .mixedOrders=true:=ah;obtain⟨jY,lM,mG,hm1,hx2,rW⟩:=l_ hq hf;obtain⟨b,off,k,c,eY⟩:=vN hL hq rW;have hgr:=hB.lt;have Dv:=λw1 (hE:Ev w w1)=>ni m b0 w1 ((hL.ev hE).less λk hk=>by cases hk);rw[hf]at Dv;have zy:=zq (λy (hy:y∈q)=>mf hq hy hfair hsz);have Nw:=q_len hq hsz;have kZ:=zq (λw1 (hb:But [gr] w w1)=>eY.kid 0 x (by rw[hq];rfl) w1 hb);have Bv:=zq (λi y (hy:q[i]?=some y) w1 (hb:But [gr] w w1)=>eY.kid (i+1) y (by rw[hq];simpa using hy) w1 hb);simp only[awW,awM,hs,hx2]at kZ;rw[hs]at jY lM mG;unfold ru;obtain⟨PT,uP⟩:∃PT,PT=pPlan m.t:=⟨_,rfl⟩
 obtain⟨PE,vO⟩:∃PE,PE=bf m.t:=⟨_,rfl⟩
 rw[<-uP]at jY|-;rw[<-vO]at lM|-;have hA:=eY.hA;have hn:=eY.hn;have hc:=eY.hc;have tJ:=eY.tJ;have hcm:=eY.hcm;have mO:=eY.mO;have oZ:=zq eY;clear eY uP vO hq hL hfair hsz rW hf hx2;generalize Ah:m.kids.length=kn at*;generalize wH:m.A=mA at*;generalize EC:m.cap=mc at*;generalize qf:m.kind=kd at*;generalize hs_:m.s=ms at*;generalize wG:m.n=mn at*;generalize ED:m.pos=mp at*;clear Ah wH EC qf hs_ wG ED;subst hm1 hA hn hc;obtain⟨w0,hw0,aW,hX,hR,hs0⟩:=wV w (.int .i64 1) ↑ms ↑mn (.slice ↑(b,off) (k+2) (c+2)) ↑mp;have Wn:=zq Dv;have HX:=zq hX;have HR:=zq hR;have HE:=zq aW;have HB:=zq hB;have mP:=zq ih;have Y2:=oZ.out.bgr;unfold d_ at*;obtain⟨⟨c0,c1,c2,c3,c4⟩,_⟩:=hX.five;obtain⟨d0,d1,d2,d3,d4⟩:=kZ.out _ (But.aV aW);clear hX hR aW hB Dv ih hs;have hk2:q.length=2:=by exact aBc
 obtain rfl:k=1:=ae;obtain⟨y,z,rfl⟩:=wU hk2;obtain⟨qp,rfl⟩:∃c1,c=c1+1:=⟨c - 1,ae⟩
 have rC:Hid (PT=.mk 2 [] [(xRead y.t).1] [] [] [] [] [pPlan z.t]):=zq jY;have vP:Hid (PE=aT [jU y.t,bf z.t]):=zq lM;have hRE:=λe1 w1 hB1 hL1=>BV gr e1 y b0 w1 hB1 hL1 (zy.out y aj).1 (by have:=(zy.out y aj).2;omega);unfold Az M.kv at hRE;have HRE:=zq hRE;have xg:=λe1 w1 (hb:But [gr] w w1) (hB1:Rb gr e1 w1)=>yg gr e1 [z] _ _ _ b0 w1 hB1 (Ms.rest (oZ.out.rest w1 hb)) (oZ.out.Bq w1 hb _) ae (λv hv w2 e2 hb2 hB2=>mP.out v (by simp at hv;subst hv;simp) w2 e2 (hb.then hb2) hB2);unfold fE.v at xg;have tK:=zq xg;have hKY:=Bv.out 0 y rfl;simp only[awL,axn]at hKY;have KY:=zq hKY;clear jY lM mG hRE xg hKY;go_enter func58,ntmps58;go_upto_region 11 with (first
  | ((with_reducible refine(Wn.out _ HE.out).mono ?_);rintro r w1 ⟨rfl,aK⟩;have E1:=zq (HE.out.trans aK);clear c0 c1 c2 c3 c4 d0 d1 d2 d3 d4;obtain⟨⟨c0,c1,c2,c3,c4⟩,_⟩:=(HX.out.ev aK).five;obtain⟨d0,d1,d2,d3,d4⟩:=kZ.out _ (But.aV E1.out)))
 clear c0 c1 c2 c3 c4 d0 d1 d2 d3 d4;have hw1:=E1.out.size;have YU:=aK.size;have hg4:w.heap.size+1≠gr:=ae;refine jq fD (λu=>But [gr,w.heap.size+1] w1 u) (But [gr,w.heap.size+1]) [4,9,11] (StF gr (w.heap.size+1) w1.heap.size [e,fO e (jU y.t),fO (fO e (jU y.t)) (aT [bf z.t]),fO (fO e (jU y.t)) (aT [bf z.t])] (.mk 2 [] [(xRead y.t).1] [] [] [] [] [pPlan z.t])) [λv _=>v=.pointer ↑gr,λv _=>v=.slice ↑(b,off+5) (2) (qp+2),λv _=>v=.pointer ↑(b,off+5),λv _=>v=.agg ↑y,ExF w1.heap.size (xRead y.t).1,XsF w1.heap.size [(xRead y.t).1],λv _=>v=.pointer ↑gr,λv _=>v=.slice ↑(b,off+5) (2) (qp+2),λv _=>v=.slice ↑(b,off+10) 1 (qp+1),Q_ w1.heap.size [pPlan z.t],Rf w1.heap.size (.mk 2 [] [(xRead y.t).1] [] [] [] [] [pPlan z.t]),λ_ _=>True]
  115 3 rfl ah ⟨aB _,aB _,aB _,aB _,ExF.mono _ _,XsF.mono _ _,aB _,aB _,aB _,Q_.mono _ _,Rf.mono _ _,fB,trivial⟩ ⟨λ_ _ _ _ h=>h,λ_ _ _ _ h=>h,λ_ _ _ _ h=>h,λ_ _ _ _ h=>h,ExF.old (zg ae ae),XsF.old (zg ae ae),λ_ _ _ _ h=>h,λ_ _ _ _ h=>h,λ_ _ _ _ h=>h,Q_.old (zg ae ae),Rf.old (zg ae ae),λ_ _ _ _ h=>h,trivial⟩ ah (StF.ev _ _ _ _ _) (λu u' hE h=>h.then (But.aV hE)) (But.refl _ _) (⟨HB.out.ev E1.out,HR.out.ev aK⟩) ah ?_ ?_ ?_
 ·refine aN 0 ?_ (aN 1 ?_ (aN 2 ?_ (aN 3 ?_ (bZ 4 ai (aN 5 ?_ (aN 6 ?_ (aN 7 ?_ (aN 8 ?_ (bZ 9 ai (aN 10 ?_ (bZ 11 ai (oC 12))))))))))));exact aA';exact aBa;refine aQ λa wq c=>⟨(ay rfl),.pointer ↑(b,off+5),?_,rfl⟩
  have bD:a.eval (.tmp 56)=.slice ↑(b,off+5) (2) (qp+2):=(c.new 1 56)
  exact aAt
  ·refine aQ λa wq c=>⟨(ay rfl),.agg ↑y,?_,rfl⟩
   have bD:a.eval (.tmp 57)=.pointer ↑(b,off+5):=(c.new 2 57)
   obtain⟨q0,q1,q2,q3,q4⟩:=KY.out wq (vS E1.out c.inv (awX _));generalize a.eval=ρ at bD|-;simp[execOp,bD,q0,q1,q2,q3,q4,go_sem]
  ·refine OC λa wq c=>?_;obtain⟨x_,ex_,jI,iJ⟩:=(c.got 4 59 ah ah rfl:ExF _ _ _ _)
   refine⟨(ay rfl),.slice ↑wq.heap.size 1 1,wq.alloc (.cells ↑(x_,()) 47),?_,Ev.alloc _ _,c.inv.then (But.aV az),⟨⟨some ⟨wq.heap.size,0,none⟩,1,[x_]⟩,rfl,by simp[jI],⟨Sl.one (et:=47) xU wq x_ _ rfl,λad ea=>by cases ea;exact⟨c.inv.size,aj,aj⟩⟩,λz hz=>by simp at hz;subst hz;exact iJ.ev az⟩⟩;generalize a.eval=ρ at ex_|-;simp[execOp,ex_,go_sem]
  exact aA';exact aBa
  ·refine aQ λa wq c=>⟨(ay rfl),.slice ↑(b,off+10) 1 (qp+1),?_,rfl⟩
   have bD:a.eval (.tmp 62)=.slice ↑(b,off+5) (2) (qp+2):=(c.new 7 62)
   have kc1:a.eval (.const (.int .i64 1))=.int .i64 1:=rfl;generalize a.eval=ρ at bD kc1|-;simp[execOp,bD,kc1,go_sem]
  refine aQ λa wq c=>?_;obtain⟨X_,eX_,wK,yw,hXx⟩:=(c.got 5 60 ah ah rfl:XsF _ _ _ _)
  obtain⟨Y_,eY_,hYl,hYs,hYq⟩:=(c.got 9 64 ah ah rfl:Q_ _ _ _ _)
  refine⟨(ay rfl),_,?_,⟨.mk 2 [] X_ .nil .nil .nil .nil Y_.A Y_.cap Y_.l,rfl,by rw[PM.sD,<-wK,<-hYl];rfl,.mk yw hXx (bg.nil ..) (bg.nil ..) (bg.nil ..) (bg.nil ..) hYs hYq⟩⟩;have lh:a.eval (.const (.int .i64 2))=.int .i64 2:=rfl;generalize a.eval=ρ at eX_ eY_ lh|-;simp[execOp,eX_,eY_,lh,go_sem,PM.kind,PM.name,PM.ex,PM.co,PM.lf,PM.rt,PM.ag,PM.A,PM.cap,PM.kids,fE.nil]
 refine gG 0 rfl ?_ (gG 1 rfl ?_ (gG 2 rfl ?_ (pU 3)));refine ny λa wq c st=>⟨ay rfl,114,#[.pointer ↑gr,.agg ↑y],?_,?_⟩
 rw[bC 114 _ _ rfl ah];have bD:a.eval (.tmp 55)=.pointer ↑gr:=(c.new 0 55)
 have mQ:a.eval (.tmp 58)=.agg ↑y:=(c.new 3 58)
 simp[bD,mQ];have Og:=vS E1.out c.inv (awX _);have hsz:=c.inv.size;refine(HRE.out e wq st.1 (oZ.out.lies y aj wq Og)).mono ?_;rintro r wp ⟨x_,rfl,jI,iJ,kT⟩;exact⟨_,rfl,uh kT.but,c.inv.then (uh kT.but),wZ (E:=e) st kT rfl aj hg4,⟨x_,rfl,jI,iJ.low hsz⟩⟩;refine ny λa wq c st=>⟨ay rfl,115,#[.pointer ↑gr,.slice ↑(b,off+10) 1 (qp+1)],?_,?_⟩
 rw[bC 115 _ _ rfl ah];have bD:a.eval (.tmp 61)=.pointer ↑gr:=(c.new 6 61)
 have mQ:a.eval (.tmp 63)=.slice ↑(b,off+10) 1 (qp+1):=(c.new 8 63)
 simp[bD,mQ];exact ay5;refine uN rfl λa wq c st=>?_;obtain⟨m_,em_,YW,NT⟩:=(c.got 10 65 ah ah rfl:Rf _ _ _ _)
 exact ayi;intro sl w9 hI hold hnew hst;have f0:sl 0=.pointer ↑gr:=hold 0;have f4:sl 4=.pointer (some ⟨w.heap.size+1,0,none⟩):=hold 4;have f5:sl 5=.slice ↑(b,off+5) (2) (qp+2):=hold 5;change Exit.then _ _ .normal ⟨_,_⟩ _;simp only[List.range,List.range.loop,List.map];simp only[f0,f4,f5];clear hold hnew;obtain⟨hrb,m_,Fv,YW,NT⟩:=(⟨hst.1,hst.2⟩:_/\PmB _ _ _ _)
 go_wp2;(try simp only[Exit.inBlock,Exit.then]);refine bodyPost_ret (aS rfl _ _ _ _ _ rfl Fv underlying32 rfl Tryz.bG) rfl ?_;exact⟨m_,rfl,by rw[YW];exact rC.out.symm,NT.low (by have:=E1.out.size;omega),⟨by rw[vP.out,<-VE];exact hrb,vS E1.out hI (awX _)⟩⟩
theorem aAy(h:U:=by have hc:=(KY1.out wq (vS E1.out c.inv (awX _))).2.2.2.1;generalize a.eval=ρ at bD|-;simp[execOp,bD,hc,go_sem]):U:=h
theorem azZ(h:U:=by rintro r wp ⟨X_,rfl,wK,yw,kT⟩;exact⟨_,rfl,uh kT.but,c.inv.then (uh kT.but),wZ (E:=e) st kT rfl aj hg4,⟨X_,rfl,wK,yw.low hsz⟩⟩):U:=h
theorem ayK(h:U:=by have Og:=vS E1.out c.inv (awX _);have hsz:=c.inv.size;refine(KA gr _ l1.kids _ _ _ b0 wq st.1 (AZ (oZ.out.lies l1 aj wq Og)).1 (AZ (oZ.out.lies l1 aj wq Og)).2 (Lr (zy.out l1 aj).2)).mono ?_;exact azZ):U:=h
theorem TN(m:M)(gr:Nat)(e:Er)(b0:Nat)(w:ak)(hB:Rb gr e w)(hL:Lies b0 [gr] w m)(hfair:m.t.every cO=true)(hsz:m.t.size<=10000)(hf:fZ m.t=true)(x:M)(q:List M)(hq:m.kids=x::q)(hs:x.s=gB)
  (ih:∀y∈q,∀w1 e1,But [gr] w w1->Rb gr e1 w1->Calls ax 58 #[.pointer ↑gr,.agg ↑y] w1 (ru gr e1 y.t w1)):
  Calls ax 58 #[.pointer ↑gr,.agg ↑m] w (ru gr e m.t w):=by
 have fD:Tryz.prog.follows .mixedOrders=true:=ah;obtain⟨jY,lM,mG,hm1,hx2,rW⟩:=l_ hq hf;obtain⟨b,off,k,c,eY⟩:=vN hL hq rW;have hgr:=hB.lt;have Dv:=λw1 (hE:Ev w w1)=>ni m b0 w1 ((hL.ev hE).less λk hk=>by cases hk);rw[hf]at Dv;have zy:=zq (λy (hy:y∈q)=>mf hq hy hfair hsz);have Nw:=q_len hq hsz;have kZ:=zq (λw1 (hb:But [gr] w w1)=>eY.kid 0 x (by rw[hq];rfl) w1 hb);have Bv:=zq (λi y (hy:q[i]?=some y) w1 (hb:But [gr] w w1)=>eY.kid (i+1) y (by rw[hq];simpa using hy) w1 hb);simp only[awW,awM,hs,hx2]at kZ;rw[hs]at jY lM mG;unfold ru;obtain⟨PT,uP⟩:∃PT,PT=pPlan m.t:=⟨_,rfl⟩
 obtain⟨PE,vO⟩:∃PE,PE=bf m.t:=⟨_,rfl⟩
 rw[<-uP]at jY|-;rw[<-vO]at lM|-;have hA:=eY.hA;have hn:=eY.hn;have hc:=eY.hc;have tJ:=eY.tJ;have hcm:=eY.hcm;have mO:=eY.mO;have oZ:=zq eY;clear eY uP vO hq hL hfair hsz rW hf hx2;generalize Ah:m.kids.length=kn at*;generalize wH:m.A=mA at*;generalize EC:m.cap=mc at*;generalize qf:m.kind=kd at*;generalize hs_:m.s=ms at*;generalize wG:m.n=mn at*;generalize ED:m.pos=mp at*;clear Ah wH EC qf hs_ wG ED;subst hm1 hA hn hc;obtain⟨w0,hw0,aW,hX,hR,hs0⟩:=wV w (.int .i64 1) ↑ms ↑mn (.slice ↑(b,off) (k+2) (c+2)) ↑mp;have Wn:=zq Dv;have HX:=zq hX;have HR:=zq hR;have HE:=zq aW;have HB:=zq hB;have mP:=zq ih;have Y2:=oZ.out.bgr;unfold gB at*;obtain⟨⟨c0,c1,c2,c3,c4⟩,_⟩:=hX.five;obtain⟨d0,d1,d2,d3,d4⟩:=kZ.out _ (But.aV aW);clear hX hR aW hB Dv ih hs;have Dw:((q.map M.t).length==4&&((q.map M.t).take 2).all dH)=true:=mG;rw[awk,awx,awh]at Dw;obtain⟨l1,l2,y1,y2,rfl⟩:∃l1 l2 y1 y2,q=[l1,l2,y1,y2]:=by
  match q,Dw.1 with
  | [a,b,c,d],_=>exact⟨a,b,c,d,rfl⟩
 obtain rfl:k=3:=by simpa using mO
 obtain⟨qp,rfl⟩:∃c1,c=c1+2:=⟨c - 2,ae⟩
 have rC:Hid (PT=.mk 4 [] [] [] (l1.kids.map M.s) (l2.kids.map M.s) [] [pPlan y1.t,pPlan y2.t]):=zq (by rw[jY];show Pl.mk 4 [] [] [] (l1.t.kids.map T.s) (l2.t.kids.map T.s) [] [pPlan y1.t,pPlan y2.t]=_;rw[M.aZ,M.aZ,awy,awy,funext M.uJ |> λh=>(show (T.s ∘ M.t)=M.s from h)]);have vP:Hid (PE=aT ((l1.kids.map λv=>bF v.t)++((l2.kids.map λv=>bF v.t)++[bf y1.t,bf y2.t]))):=zq (by rw[lM];show aT (l1.t.kids.map bF++(l2.t.kids.map bF++[bf y1.t,bf y2.t]))=_;rw[M.aZ,M.aZ,awy,awy];rfl);have xg:=λe1 w1 (hb:But [gr] w w1) (hB1:Rb gr e1 w1)=>yg gr e1 [y1,y2] _ _ _ b0 w1 hB1 (Ms.rest (Ms.rest (oZ.out.rest w1 hb))) (oZ.out.Bq w1 hb _) ae (λv hv w2 e2 hb2 hB2=>mP.out v (by simp at hv;rcases hv with rfl|rfl<;>simp) w2 e2 (hb.then hb2) hB2);unfold fE.v at xg;have tK:=zq xg;have hK1:=Bv.out 0 l1 rfl;have hK2:=Bv.out 1 l2 rfl;simp only[awL,axn,show (1+1)*5=10 from rfl]at hK1 hK2;have KY1:=zq hK1;have KY2:=zq hK2;clear jY lM mG Dw xg hK1 hK2;go_enter func58,ntmps58;go_upto_region 16 with (first
  | ((with_reducible refine(Wn.out _ HE.out).mono ?_);rintro r w1 ⟨rfl,aK⟩;have E1:=zq (HE.out.trans aK);clear c0 c1 c2 c3 c4 d0 d1 d2 d3 d4;obtain⟨⟨c0,c1,c2,c3,c4⟩,_⟩:=(HX.out.ev aK).five;obtain⟨d0,d1,d2,d3,d4⟩:=kZ.out _ (But.aV E1.out)))
 clear c0 c1 c2 c3 c4 d0 d1 d2 d3 d4;have hw1:=E1.out.size;have YU:=aK.size;have hg4:w.heap.size+1≠gr:=ae;refine jq fD (λu=>But [gr,w.heap.size+1] w1 u) (But [gr,w.heap.size+1]) [5,11,15,17] (StF gr (w.heap.size+1) w1.heap.size [e,fO e (aT (l1.kids.map λv=>bF v.t)),fO (fO e (aT (l1.kids.map λv=>bF v.t))) (aT (l2.kids.map λv=>bF v.t)),fO (fO (fO e (aT (l1.kids.map λv=>bF v.t))) (aT (l2.kids.map λv=>bF v.t))) (aT [bf y1.t,bf y2.t]),fO (fO (fO e (aT (l1.kids.map λv=>bF v.t))) (aT (l2.kids.map λv=>bF v.t))) (aT [bf y1.t,bf y2.t])] (.mk 4 [] [] [] (l1.kids.map M.s) (l2.kids.map M.s) [] [pPlan y1.t,pPlan y2.t])) [λv _=>v=.pointer ↑gr,λv _=>v=.slice ↑(b,off+5) (4) (qp+3),λv _=>v=.pointer ↑(b,off+5),λv _=>v=.pointer ↑(b,off+5+3),λv _=>v=.slice l1.A l1.kids.length l1.cap,Q9 w1.heap.size (l1.kids.map M.s),λv _=>v=.pointer ↑gr,λv _=>v=.slice ↑(b,off+5) (4) (qp+3),λv _=>v=.pointer ↑(b,off+10),λv _=>v=.pointer ↑(b,off+10+3),λv _=>v=.slice l2.A l2.kids.length l2.cap,Q9 w1.heap.size (l2.kids.map M.s),λv _=>v=.pointer ↑gr,λv _=>v=.slice ↑(b,off+5) (4) (qp+3),λv _=>v=.slice ↑(b,off+15) 2 (qp+1),Q_ w1.heap.size [pPlan y1.t,pPlan y2.t],Rf w1.heap.size (.mk 4 [] [] [] (l1.kids.map M.s) (l2.kids.map M.s) [] [pPlan y1.t,pPlan y2.t]),λ_ _=>True]
  115 4 rfl ah ⟨aB _,aB _,aB _,aB _,aB _,Q9.mono _ _,aB _,aB _,aB _,aB _,aB _,Q9.mono _ _,aB _,aB _,aB _,Q_.mono _ _,Rf.mono _ _,fB,trivial⟩ ⟨λ_ _ _ _ h=>h,λ_ _ _ _ h=>h,λ_ _ _ _ h=>h,λ_ _ _ _ h=>h,λ_ _ _ _ h=>h,Q9.old (zg ae ae),λ_ _ _ _ h=>h,λ_ _ _ _ h=>h,λ_ _ _ _ h=>h,λ_ _ _ _ h=>h,λ_ _ _ _ h=>h,Q9.old (zg ae ae),λ_ _ _ _ h=>h,λ_ _ _ _ h=>h,λ_ _ _ _ h=>h,Q_.old (zg ae ae),Rf.old (zg ae ae),λ_ _ _ _ h=>h,trivial⟩ ah (StF.ev _ _ _ _ _) (λu u' hE h=>h.then (But.aV hE)) (But.refl _ _) (⟨HB.out.ev E1.out,HR.out.ev aK⟩) ah ?_ ?_ ?_
 ·refine aN 0 ?_ (aN 1 ?_ (aN 2 ?_ (aN 3 ?_ (aN 4 ?_ (bZ 5 ai (aN 6 ?_ (aN 7 ?_ (aN 8 ?_ (aN 9 ?_ (aN 10 ?_ (bZ 11 ai (aN 12 ?_ (aN 13 ?_ (aN 14 ?_ (bZ 15 ai (aN 16 ?_ (bZ 17 ai (oC 18))))))))))))))))));exact aA';exact aBa;refine aQ λa wq c=>⟨(ay rfl),.pointer ↑(b,off+5),?_,rfl⟩
  have bD:a.eval (.tmp 87)=.slice ↑(b,off+5) (4) (qp+3):=(c.new 1 87)
  exact aAt
  ·refine aQ λa wq c=>⟨(ay rfl),.pointer ↑(b,off+5+3),?_,rfl⟩
   have bD:a.eval (.tmp 88)=.pointer ↑(b,off+5):=(c.new 2 88)
   generalize a.eval=ρ at bD|-;simp[execOp,bD,go_sem]
  refine aQ λa wq c=>⟨(ay rfl),.slice l1.A l1.kids.length l1.cap,?_,rfl⟩
  have bD:a.eval (.tmp 89)=.pointer ↑(b,off+5+3):=(c.new 3 89)
  exact aAy;exact aA';exact aBa
  ·refine aQ λa wq c=>⟨(ay rfl),.pointer ↑(b,off+10),?_,rfl⟩
   have bD:a.eval (.tmp 93)=.slice ↑(b,off+5) (4) (qp+3):=(c.new 7 93)
   have lh:a.eval (.const (.int .i64 1))=.int .i64 1:=rfl;generalize a.eval=ρ at bD lh|-;simp[execOp,bD,lh,go_sem]
  ·refine aQ λa wq c=>⟨(ay rfl),.pointer ↑(b,off+10+3),?_,rfl⟩
   have bD:a.eval (.tmp 94)=.pointer ↑(b,off+10):=(c.new 8 94)
   generalize a.eval=ρ at bD|-;simp[execOp,bD,go_sem]
  ·refine aQ λa wq c=>⟨(ay rfl),.slice l2.A l2.kids.length l2.cap,?_,rfl⟩
   have bD:a.eval (.tmp 95)=.pointer ↑(b,off+10+3):=(c.new 9 95)
   have hc:=(KY2.out wq (vS E1.out c.inv (awX _))).2.2.2.1;generalize a.eval=ρ at bD|-;simp[execOp,bD,hc,go_sem]
  exact aA';exact aBa
  ·refine aQ λa wq c=>⟨(ay rfl),.slice ↑(b,off+15) 2 (qp+1),?_,rfl⟩
   have bD:a.eval (.tmp 99)=.slice ↑(b,off+5) (4) (qp+3):=(c.new 13 99)
   have kc2:a.eval (.const (.int .i64 2))=.int .i64 2:=rfl;generalize a.eval=ρ at bD kc2|-;simp[execOp,bD,kc2,go_sem]
  refine aQ λa wq c=>?_;obtain⟨N1_,abL,h1l,h1s⟩:=(c.got 5 91 ah ah rfl:Q9 _ _ _ _)
  obtain⟨N2_,ajo,h2l,h2s⟩:=(c.got 11 97 ah ah rfl:Q9 _ _ _ _)
  obtain⟨Y_,eY_,hYl,hYs,hYq⟩:=(c.got 15 101 ah ah rfl:Q_ _ _ _ _)
  refine⟨(ay rfl),_,?_,⟨.mk 4 [] .nil .nil N1_ N2_ .nil Y_.A Y_.cap Y_.l,rfl,by rw[PM.sD,<-h1l,<-h2l,<-hYl];rfl,.mk (bg.nil ..) (λ_ h=>by cases h) (bg.nil ..) h1s h2s (bg.nil ..) hYs hYq⟩⟩;have lh:a.eval (.const (.int .i64 4))=.int .i64 4:=rfl;generalize a.eval=ρ at abL ajo eY_ lh|-;simp[execOp,abL,ajo,eY_,lh,go_sem,PM.kind,PM.name,PM.ex,PM.co,PM.lf,PM.rt,PM.ag,PM.A,PM.cap,PM.kids,fE.nil]
 refine gG 0 rfl ?_ (gG 1 rfl ?_ (gG 2 rfl ?_ (gG 3 rfl ?_ (pU 4))));refine ny λa wq c st=>⟨ay rfl,117,#[.pointer ↑gr,.slice l1.A l1.kids.length l1.cap],?_,?_⟩
 rw[bC 117 _ _ rfl ah];have bD:a.eval (.tmp 86)=.pointer ↑gr:=(c.new 0 86)
 have mQ:a.eval (.tmp 90)=.slice l1.A l1.kids.length l1.cap:=(c.new 4 90)
 simp[bD,mQ];exact ayK;refine ny λa wq c st=>⟨ay rfl,117,#[.pointer ↑gr,.slice l2.A l2.kids.length l2.cap],?_,?_⟩
 rw[bC 117 _ _ rfl ah];have bD:a.eval (.tmp 92)=.pointer ↑gr:=(c.new 6 92)
 have mQ:a.eval (.tmp 96)=.slice l2.A l2.kids.length l2.cap:=(c.new 10 96)
 simp[bD,mQ];have Og:=vS E1.out c.inv (awX _);have hsz:=c.inv.size;refine(KA gr _ l2.kids _ _ _ b0 wq st.1 (AZ (oZ.out.lies l2 aj wq Og)).1 (AZ (oZ.out.lies l2 aj wq Og)).2 (Lr (zy.out l2 aj).2)).mono ?_;exact azZ;refine ny λa wq c st=>⟨ay rfl,115,#[.pointer ↑gr,.slice ↑(b,off+15) 2 (qp+1)],?_,?_⟩
 rw[bC 115 _ _ rfl ah];have bD:a.eval (.tmp 98)=.pointer ↑gr:=(c.new 12 98)
 have mQ:a.eval (.tmp 100)=.slice ↑(b,off+15) 2 (qp+1):=(c.new 14 100)
 simp[bD,mQ];exact ay5;refine uN rfl λa wq c st=>?_;obtain⟨m_,em_,YW,NT⟩:=(c.got 16 102 ah ah rfl:Rf _ _ _ _)
 exact ayi;intro sl w9 hI hold hnew hst;have f0:sl 0=.pointer ↑gr:=hold 0;have f4:sl 4=.pointer (some ⟨w.heap.size+1,0,none⟩):=hold 4;have f5:sl 5=.slice ↑(b,off+5) (4) (qp+3):=hold 5;change Exit.then _ _ .normal ⟨_,_⟩ _;simp only[List.range,List.range.loop,List.map];simp only[f0,f4,f5];clear hold hnew;obtain⟨hrb,m_,Fv,YW,NT⟩:=(⟨hst.1,hst.2⟩:_/\PmB _ _ _ _)
 go_wp2;(try simp only[Exit.inBlock,Exit.then]);refine bodyPost_ret (aS rfl _ _ _ _ _ rfl Fv underlying32 rfl Tryz.bG) rfl ?_;exact⟨m_,rfl,by rw[YW];exact rC.out.symm,NT.low (by have:=E1.out.size;omega),⟨by rw[vP.out,<-lW,<-lW];exact hrb,vS E1.out hI (awX _)⟩⟩
theorem Qw(m:M)(gr:Nat)(e:Er)(b0:Nat)(w:ak)(hB:Rb gr e w)(hL:Lies b0 [gr] w m)(hfair:m.t.every cO=true)(hsz:m.t.size<=10000)(hf:fZ m.t=true)(x:M)(q:List M)(hq:m.kids=x::q)(hs:x.s=dU)
  (ih:∀y∈q,∀w1 e1,But [gr] w w1->Rb gr e1 w1->Calls ax 58 #[.pointer ↑gr,.agg ↑y] w1 (ru gr e1 y.t w1)):
  Calls ax 58 #[.pointer ↑gr,.agg ↑m] w (ru gr e m.t w):=by
 have fD:Tryz.prog.follows .mixedOrders=true:=ah;obtain⟨jY,lM,mG,hm1,hx2,rW⟩:=l_ hq hf;obtain⟨b,off,k,c,eY⟩:=vN hL hq rW;have hgr:=hB.lt;have Dv:=λw1 (hE:Ev w w1)=>ni m b0 w1 ((hL.ev hE).less λk hk=>by cases hk);rw[hf]at Dv;have zy:=zq (λy (hy:y∈q)=>mf hq hy hfair hsz);have Nw:=q_len hq hsz;have kZ:=zq (λw1 (hb:But [gr] w w1)=>eY.kid 0 x (by rw[hq];rfl) w1 hb);have Bv:=zq (λi y (hy:q[i]?=some y) w1 (hb:But [gr] w w1)=>eY.kid (i+1) y (by rw[hq];simpa using hy) w1 hb);simp only[awW,awM,hs,hx2]at kZ;rw[hs]at jY lM mG;unfold ru;obtain⟨PT,uP⟩:∃PT,PT=pPlan m.t:=⟨_,rfl⟩
 obtain⟨PE,vO⟩:∃PE,PE=bf m.t:=⟨_,rfl⟩
 rw[<-uP]at jY|-;rw[<-vO]at lM|-;have hA:=eY.hA;have hn:=eY.hn;have hc:=eY.hc;have tJ:=eY.tJ;have hcm:=eY.hcm;have mO:=eY.mO;have oZ:=zq eY;clear eY uP vO hq hL hfair hsz rW hf hx2;generalize Ah:m.kids.length=kn at*;generalize wH:m.A=mA at*;generalize EC:m.cap=mc at*;generalize qf:m.kind=kd at*;generalize hs_:m.s=ms at*;generalize wG:m.n=mn at*;generalize ED:m.pos=mp at*;clear Ah wH EC qf hs_ wG ED;subst hm1 hA hn hc;obtain⟨w0,hw0,aW,hX,hR,hs0⟩:=wV w (.int .i64 1) ↑ms ↑mn (.slice ↑(b,off) (k+2) (c+2)) ↑mp;have Wn:=zq Dv;have HX:=zq hX;have HR:=zq hR;have HE:=zq aW;have HB:=zq hB;have mP:=zq ih;have Y2:=oZ.out.bgr;unfold dU at*;obtain⟨⟨c0,c1,c2,c3,c4⟩,_⟩:=hX.five;obtain⟨d0,d1,d2,d3,d4⟩:=kZ.out _ (But.aV aW);clear hX hR aW hB Dv ih hs;have Dw:(decide (2<=(q.map M.t).length)&&dH (at_ (q.map M.t) 0)&&(((q.map M.t).take ((q.map M.t).length - 1)).drop 1).all dX)=true:=mG;rw[awk,awk,aw7,awh,mO,axq,<-axe]at Dw;obtain⟨⟨wE,_⟩,hagg⟩:=Dw;obtain⟨k1,rfl⟩:∃k1,k=k1+1:=⟨k - 1,ae⟩
 obtain⟨qp,rfl⟩:∃c1,c=c1+1:=⟨c - 1,ae⟩
 obtain⟨l1,r,rfl⟩:∃l1 r,q=l1::r:=by
  cases q with
  | nil=>simp at mO
  | cons a b=>exact⟨a,b,rfl⟩
 have hrl:r.length=k1+1:=by simpa using mO
 rw[axg,awo,awR,axh,axs,awF]at hagg;have hlen:((l1::r).map M.t).length - 1=k1+1:=by simp[hrl]
 have rC:Hid (PT=.mk 7 [] [] [] (l1.kids.map M.s) [] ((r.take k1).map λv=>kK v.t) ((r.drop k1).map λv=>pPlan v.t)):=zq (by
  rw[jY];show Pl.mk 7 [] [] [] (l1.t.kids.map T.s) [] (((((l1::r).map M.t).take (((l1::r).map M.t).length - 1)).drop 1).map kK) ((((l1::r).map M.t).map pPlan).drop (((l1::r).map M.t).length - 1))=_;rw[hlen,M.aZ,awy,funext M.uJ |> λh=>(show (T.s ∘ M.t)=M.s from h),awo,axg,awR,axh,awo,awR,<-axe,awy,awy,<-axm];rfl)
 have vP:Hid (PE=aT ((l1.kids.map λv=>bF v.t)++(((r.take k1).flatMap λv=>dY v.t)++(r.drop k1).map λv=>bf v.t))):=zq (by
  rw[lM];show aT (l1.t.kids.map bF++(((((l1::r).map M.t).take (((l1::r).map M.t).length - 1)).drop 1).flatMap dY++(((l1::r).map M.t).map bf).drop (((l1::r).map M.t).length - 1)))=_;rw[hlen,M.aZ,awy,awo,axg,awR,axh,awo,awR,<-axe,awy,List.flatMap_map,<-axm];rfl)
 have hAG:=λe1 w1 (hb:But [gr] w w1) (hB1:Rb gr e1 w1)=>adI gr e1 (r.take k1) _ _ _ b0 w1 hB1 ((Ms.rest (oZ.out.rest w1 hb)).to k1 ae) (oZ.out.Bq w1 hb _) (by simp at Nw;omega) (λv hv=>hagg v hv) (λv hv=>oZ.out.lies v (awn _ (axo hv)) w1 hb);have xg:=λe1 w1 (hb:But [gr] w w1) (hB1:Rb gr e1 w1)=>yg gr e1 (r.drop k1) _ _ _ b0 w1 hB1 ((oZ.out.rest w1 hb).drop (k:=k1+1) ae) (oZ.out.Bq w1 hb _) ae (λv hv w2 e2 hb2 hB2=>mP.out v (awn _ (List.mem_of_mem_drop hv)) w2 e2 (hb.then hb2) hB2);unfold fE.v at xg hAG;simp only[Nat.add_sub_cancel_left]at xg;have EU:=zq hAG;have tK:=zq xg;have hK1:=Bv.out 0 l1 rfl;simp only[awL,axn]at hK1;have KY1:=zq hK1;have n00:¬((k1:Int)+1+1<=0):=ae;have t2:((k1:Int)+2).toNat=k1+2:=ae;have p1:(1:Int)<=(k1:Int)+2:=ae;have p2:(k1:Int)+2 - 1<=(qp:Int)+1+1:=ae;have p3:¬((k1:Int)+1<1):=ae;have p4:(k1:Int)+2 - 1<=(k1:Int)+1+1:=ae;have i5:¬qp+1=k1:=ae;clear jY lM mG hagg xg hAG hK1;go_enter func58,ntmps58;go_upto_region 7 with (first
  | ((with_reducible refine(Wn.out _ HE.out).mono ?_);rintro r w1 ⟨rfl,aK⟩;have E1:=zq (HE.out.trans aK);clear c0 c1 c2 c3 c4 d0 d1 d2 d3 d4;obtain⟨⟨c0,c1,c2,c3,c4⟩,_⟩:=(HX.out.ev aK).five;obtain⟨d0,d1,d2,d3,d4⟩:=kZ.out _ (But.aV E1.out)))
 clear c0 c1 c2 c3 c4 d0 d1 d2 d3 d4;have hw1:=E1.out.size;have YU:=aK.size;have hg4:w.heap.size+1≠gr:=ae;refine jq fD (λu=>But [gr,w.heap.size+1] w1 u) (But [gr,w.heap.size+1]) [5,10,15,17] (StF gr (w.heap.size+1) w1.heap.size [e,fO e (aT (l1.kids.map λv=>bF v.t)),fO (fO e (aT (l1.kids.map λv=>bF v.t))) (aT ((r.take k1).flatMap λv=>dY v.t)),fO (fO (fO e (aT (l1.kids.map λv=>bF v.t))) (aT ((r.take k1).flatMap λv=>dY v.t))) (aT ((r.drop k1).map λv=>bf v.t)),fO (fO (fO e (aT (l1.kids.map λv=>bF v.t))) (aT ((r.take k1).flatMap λv=>dY v.t))) (aT ((r.drop k1).map λv=>bf v.t))] (.mk 7 [] [] [] (l1.kids.map M.s) [] ((r.take k1).map λv=>kK v.t) ((r.drop k1).map λv=>pPlan v.t))) [λv _=>v=.pointer ↑gr,λv _=>v=.slice ↑(b,off+5) (k1+1+1) (qp+1+1),λv _=>v=.pointer ↑(b,off+5),λv _=>v=.pointer ↑(b,off+5+3),λv _=>v=.slice l1.A l1.kids.length l1.cap,Q9 w1.heap.size (l1.kids.map M.s),λv _=>v=.pointer ↑gr,λv _=>v=.slice ↑(b,off+5) (k1+1+1) (qp+1+1),λv _=>v=.int .i64 ((k1:Int)+2 - 1),λv _=>v=.slice ↑(b,off+10) k1 (qp+1),AsF w1.heap.size ((r.take k1).map λv=>kK v.t),λv _=>v=.pointer ↑gr,λv _=>v=.slice ↑(b,off+5) (k1+1+1) (qp+1+1),λv _=>v=.int .i64 ((k1:Int)+2 - 1),λv _=>v=.slice (some ⟨b,off+5+(k1+1)*5,none⟩) 1 (qp+1+1 - (k1+1)),Q_ w1.heap.size ((r.drop k1).map λv=>pPlan v.t),Rf w1.heap.size (.mk 7 [] [] [] (l1.kids.map M.s) [] ((r.take k1).map λv=>kK v.t) ((r.drop k1).map λv=>pPlan v.t)),λ_ _=>True]
  115 4 rfl ah ⟨aB _,aB _,aB _,aB _,aB _,Q9.mono _ _,aB _,aB _,aB _,aB _,AsF.mono _ _,aB _,aB _,aB _,aB _,Q_.mono _ _,Rf.mono _ _,fB,trivial⟩ ⟨λ_ _ _ _ h=>h,λ_ _ _ _ h=>h,λ_ _ _ _ h=>h,λ_ _ _ _ h=>h,λ_ _ _ _ h=>h,Q9.old (zg ae ae),λ_ _ _ _ h=>h,λ_ _ _ _ h=>h,λ_ _ _ _ h=>h,λ_ _ _ _ h=>h,AsF.old (zg ae ae),λ_ _ _ _ h=>h,λ_ _ _ _ h=>h,λ_ _ _ _ h=>h,λ_ _ _ _ h=>h,Q_.old (zg ae ae),Rf.old (zg ae ae),λ_ _ _ _ h=>h,trivial⟩ ah (StF.ev _ _ _ _ _) (λu u' hE h=>h.then (But.aV hE)) (But.refl _ _) (⟨HB.out.ev E1.out,HR.out.ev aK⟩) ah ?_ ?_ ?_
 ·refine aN 0 ?_ (aN 1 ?_ (aN 2 ?_ (aN 3 ?_ (aN 4 ?_ (bZ 5 ai (aN 6 ?_ (aN 7 ?_ (aN 8 ?_ (aN 9 ?_ (bZ 10 ai (aN 11 ?_ (aN 12 ?_ (aN 13 ?_ (aN 14 ?_ (bZ 15 ai (aN 16 ?_ (bZ 17 ai (oC 18))))))))))))))))));exact aA';exact aBa
  ·refine aQ λa wq c=>⟨(ay rfl),.pointer ↑(b,off+5),?_,rfl⟩
   have bD:a.eval (.tmp 29)=.slice ↑(b,off+5) (k1+1+1) (qp+1+1):=(c.new 1 29)
   have lh:a.eval (.const (.int .i64 0))=.int .i64 0:=rfl;generalize a.eval=ρ at bD lh|-;simp[execOp,bD,lh,go_sem,n00]
  ·refine aQ λa wq c=>⟨(ay rfl),.pointer ↑(b,off+5+3),?_,rfl⟩
   have bD:a.eval (.tmp 30)=.pointer ↑(b,off+5):=(c.new 2 30)
   generalize a.eval=ρ at bD|-;simp[execOp,bD,go_sem]
  refine aQ λa wq c=>⟨(ay rfl),.slice l1.A l1.kids.length l1.cap,?_,rfl⟩
  have bD:a.eval (.tmp 31)=.pointer ↑(b,off+5+3):=(c.new 3 31)
  exact aAy;exact aA';exact aBa;refine aQ λa w c=>⟨(ay rfl),_,run_move _ rfl w,(c.was 6 rfl)⟩
  ·refine aQ λa wq c=>⟨(ay rfl),.slice ↑(b,off+10) k1 (qp+1),?_,rfl⟩
   have bD:a.eval (.tmp 35)=.slice ↑(b,off+5) (k1+1+1) (qp+1+1):=(c.new 7 35)
   have mQ:a.eval (.tmp 36)=.int .i64 ((k1:Int)+2 - 1):=(c.new 8 36)
   have lh:a.eval (.const (.int .i64 1))=.int .i64 1:=rfl;generalize a.eval=ρ at bD mQ lh|-;simp[execOp,bD,mQ,lh,go_sem,t2,p1,p2,p3]
  exact aA';exact aBa;refine aQ λa w c=>⟨(ay rfl),_,run_move _ rfl w,(c.was 6 rfl)⟩
  ·refine aQ λa wq c=>⟨(ay rfl),.slice (some ⟨b,off+5+(k1+1)*5,none⟩) 1 (qp+1+1 - (k1+1)),?_,rfl⟩
   have bD:a.eval (.tmp 40)=.slice ↑(b,off+5) (k1+1+1) (qp+1+1):=(c.new 12 40)
   have mQ:a.eval (.tmp 41)=.int .i64 ((k1:Int)+2 - 1):=(c.new 13 41)
   generalize a.eval=ρ at bD mQ|-;simp[execOp,bD,mQ,go_sem,t2,p1,p4,i5]
  refine aQ λa wq c=>?_;obtain⟨N1_,abL,h1l,h1s⟩:=(c.got 5 33 ah ah rfl:Q9 _ _ _ _)
  obtain⟨G_,eG_,hGl,hGs⟩:=(c.got 10 38 ah ah rfl:AsF _ _ _ _)
  obtain⟨Y_,eY_,hYl,hYs,hYq⟩:=(c.got 15 43 ah ah rfl:Q_ _ _ _ _)
  refine⟨(ay rfl),_,?_,⟨.mk 7 [] .nil .nil N1_ .nil G_ Y_.A Y_.cap Y_.l,rfl,by rw[PM.sD,<-h1l,<-hGl,<-hYl];rfl,.mk (bg.nil ..) (λ_ h=>by cases h) (bg.nil ..) h1s (bg.nil ..) hGs hYs hYq⟩⟩;have lh:a.eval (.const (.int .i64 7))=.int .i64 7:=rfl;generalize a.eval=ρ at abL eG_ eY_ lh|-;simp[execOp,abL,eG_,eY_,lh,go_sem,PM.kind,PM.name,PM.ex,PM.co,PM.lf,PM.rt,PM.ag,PM.A,PM.cap,PM.kids,fE.nil]
 refine gG 0 rfl ?_ (gG 1 rfl ?_ (gG 2 rfl ?_ (gG 3 rfl ?_ (pU 4))));refine ny λa wq c st=>⟨ay rfl,117,#[.pointer ↑gr,.slice l1.A l1.kids.length l1.cap],?_,?_⟩
 rw[bC 117 _ _ rfl ah];have bD:a.eval (.tmp 28)=.pointer ↑gr:=(c.new 0 28)
 have mQ:a.eval (.tmp 32)=.slice l1.A l1.kids.length l1.cap:=(c.new 4 32)
 simp[bD,mQ];exact ayK;refine ny λa wq c st=>⟨ay rfl,118,#[.pointer ↑gr,.slice ↑(b,off+10) k1 (qp+1)],?_,?_⟩
 rw[bC 118 _ _ rfl ah];have bD:a.eval (.tmp 34)=.pointer ↑gr:=(c.new 6 34)
 have mQ:a.eval (.tmp 37)=.slice ↑(b,off+10) k1 (qp+1):=(c.new 9 37)
 simp[bD,mQ];have Og:=vS E1.out c.inv (awX _);have hsz:=c.inv.size;refine(EU.out _ wq Og st.1).mono ?_;exact azZ;refine ny λa wq c st=>⟨ay rfl,115,#[.pointer ↑gr,.slice (some ⟨b,off+5+(k1+1)*5,none⟩) 1 (qp+1+1 - (k1+1))],?_,?_⟩
 rw[bC 115 _ _ rfl ah];have bD:a.eval (.tmp 39)=.pointer ↑gr:=(c.new 11 39)
 have mQ:a.eval (.tmp 42)=.slice (some ⟨b,off+5+(k1+1)*5,none⟩) 1 (qp+1+1 - (k1+1)):=(c.new 14 42)
 simp[bD,mQ];exact ay5;refine uN rfl λa wq c st=>?_;obtain⟨m_,em_,YW,NT⟩:=(c.got 16 44 ah ah rfl:Rf _ _ _ _)
 exact ayi;intro sl w9 hI hold hnew hst;have f0:sl 0=.pointer ↑gr:=hold 0;have f4:sl 4=.pointer (some ⟨w.heap.size+1,0,none⟩):=hold 4;have f5:sl 5=.slice ↑(b,off+5) (k1+1+1) (qp+1+1):=hold 5;have f6:sl 6=.int .i64 ((k1:Int)+2 - 1):=hold 6;change Exit.then _ _ .normal ⟨_,_⟩ _;simp only[List.range,List.range.loop,List.map];simp only[f0,f4,f5,f6];clear hold hnew;obtain⟨hrb,m_,Fv,YW,NT⟩:=(⟨hst.1,hst.2⟩:_/\PmB _ _ _ _)
 go_wp2;(try simp only[Exit.inBlock,Exit.then]);refine bodyPost_ret (aS rfl _ _ _ _ _ rfl Fv underlying32 rfl Tryz.bG) rfl ?_;exact⟨m_,rfl,by rw[YW];exact rC.out.symm,NT.low (by have:=E1.out.size;omega),⟨by rw[vP.out,<-lW,<-lW];exact hrb,vS E1.out hI (awX _)⟩⟩
theorem H8{s:By}(h:fV s≠0):s=gU∨s=d_∨s=bT∨s=gB∨s=iH∨s=dN∨s=dU:=by
 unfold fV at h
 repeat' (split at h)
 all_goals simp_all
theorem TP(m:M)(gr:Nat)(e:Er)(b0:Nat)(w:ak)(hB:Rb gr e w)(hL:Lies b0 [gr] w m)(hf:fZ m.t=false):
  Calls ax 58 #[.pointer ↑gr,.agg ↑m] w (ru gr e m.t w):=by
 have jY:pPlan m.t=ik:=by rw[M.rV]at hf|-;rw[pPlan,if_neg (by rw[hf];exact axM)]
 have lM:bf m.t=(12,m.pos):=by rw[M.rV]at hf|-;rw[bf,if_neg (by rw[hf];exact axM)]
 have hgr:=hB.lt;have Dv:=λw1 (hE:Ev w w1)=>ni m b0 w1 ((hL.ev hE).less λk hk=>by cases hk);rw[hf]at Dv;unfold ru;rw[jY,lM];obtain⟨w0,hw0,aW,hX,hR,hs0⟩:=wV w ↑m.kind ↑m.s ↑m.n (.slice m.A m.kids.length m.cap) ↑m.pos;have Wn:=zq Dv;have HX:=zq hX;have HR:=zq hR;have HE:=zq aW;have HB:=zq hB;have HF:=zq (λw1 (hE:Ev w w1)=>I7 gr e 12 m.pos ai w1 (HB.out.ev hE));obtain⟨⟨c0,c1,c2,c3,c4⟩,_⟩:=hX.five;clear hX hR aW hB Dv hL hf jY lM;go_enter func58,ntmps58
 go_wp2_with (first
  | ((with_reducible refine(Wn.out _ HE.out).mono ?_);rintro r w1 ⟨rfl,aK⟩;have E1:=zq (HE.out.trans aK);clear c0 c1 c2 c3 c4;obtain⟨⟨c0,c1,c2,c3,c4⟩,_⟩:=(HX.out.ev aK).five)
  | ((with_reducible refine(HF.out _ E1.out).mono ?_);rintro r w2 ⟨rfl,kT⟩;have DI:=zq kT;obtain⟨⟨r0,r1,r2,r3,r4,r5,r6,r7⟩,s0,s1,s2,s3,s4,s5,s6,s7⟩:=((HR.out.ev aK).but kT.but (by simp;omega)).eight;clear kT))
 (try simp only[Exit.inBlock,Exit.then]);rw[bu];have ND:=(HR.out.ev aK).but DI.out.but (by simp;omega);refine bodyPost_ret (aS rfl _ _ _ _ _ rfl (ND.iK _ _ _ _ _ _ _ _) underlying32 rfl Tryz.bG) rfl ?_;obtain⟨f1,f2⟩:=Ez (base:=w.heap.size+2) (⟨DI.out.bx,(But.aV E1.out).then DI.out.but⟩) hgr (awj _) (Qx.zero _ _ _) _ _ _ _ _ _ _ _;exact⟨kD,rfl,iD,f1,f2⟩
theorem Qy(N:Nat):∀(m:M) (gr:Nat) (e:Er) (b0:Nat) (w:ak),m.dep<=N->Rb gr e w->Lies b0 [gr] w m->m.t.every cO=true->m.t.size<=10000->
  Calls ax 58 #[.pointer ↑gr,.agg ↑m] w (ru gr e m.t w):=by
 induction N with
 | zero=>
  intro m gr e b0 w hd;rw[M.nT]at hd;omega
 | succ N ih=>
  intro m gr e b0 w hd hB hL hfair hsz
  cases hf:fZ m.t
  exact TP m gr e b0 w hB hL hf;obtain⟨x,q,hq⟩:∃x q,m.kids=x::q:=by
   cases hk:m.kids with
   | nil=>
    rw[zQ,hk]at hf;simp at hf
   | cons x q=>exact⟨x,q,rfl⟩
  have UX:∀y∈q,∀w1 e1,But [gr] w w1->Rb gr e1 w1->Calls ax 58 #[.pointer ↑gr,.agg ↑y] w1 (ru gr e1 y.t w1):=λy hy w1 e1 hb hB1=>by
   have hym:y∈m.kids:=by rw[hq];exact awn _ hy
   have hqs:=mf hq hy hfair hsz;exact ih y gr e1 b0 w1 (by have:=M.mg hym;omega) hB1 ((hL.kid y hym).move hb λ_ hz=>.inl hz) hqs.1 hqs.2
  have hk:fV x.s≠0:=λh0=>by
   have:=(l_ hq hf).2.2.1;rw[h0]at this
   cases this
  rcases H8 hk with hs|hs|hs|hs|hs|hs|hs;exact Qu m gr e b0 w hB hL hfair hsz hf x q hq hs UX;exact NS m gr e b0 w hB hL hfair hsz hf x q hq hs UX;exact Lp m gr e b0 w hB hL hfair hsz hf x q hq hs UX;exact TN m gr e b0 w hB hL hfair hsz hf x q hq hs UX;exact Qv m gr e b0 w hB hL hfair hsz hf x q hq hs UX;exact IA m gr e b0 w hB hL hfair hsz hf x q hq hs UX;exact Qw m gr e b0 w hB hL hfair hsz hf x q hq hs UX
end Go.Proofs.YtpbfokkocaemlaaGreatDoor
