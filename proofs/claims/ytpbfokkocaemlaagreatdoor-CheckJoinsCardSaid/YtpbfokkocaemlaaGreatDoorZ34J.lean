import Derived.Test.YtpbfokkocaemlaaGreatDoorZ33J
set_option linter.unusedVariables false
set_option maxRecDepth 100000
set_option maxHeartbeats 64000000
namespace Go.Proofs.YtpbfokkocaemlaaGreatDoor
open Go.RowKit
open Go.Lib renaming hid → zq
open Go renaming World → ak
open Go renaming Value → au
open Go.Proofs.Tryz renaming prog → ax
variable {U:Prop}
open Go.Proofs.Tryz
def nG(t:T):aaV:=if (bf t).1=0 then (pPlan t,0,0) else (ik,(bf t).1,(bf t).2)
theorem lY(e:Er):fO (0,0) e=if e.1=0 then (0,0) else e:=by unfold fO;by_cases h:e.1=0<;>simp[h]
theorem Ak(l:List Er)(h:(aT l).1=0):aT l=(0,0):=wY λe he=>(gI l).1 h e he
def rD(m:PM):Array au:=↑m
def PM.jZ(m:PM)(A:Option Addr)(cap:Nat)(l:List PM):PM:=.mk m.kind m.name m.ex m.co m.lf m.rt m.ag A cap l
structure QN(b0:Nat)(K:List Nat)(w:ak)(m:PM):Prop where
 ex:bg 4 ec b0 K w m.ex
 lx:∀e∈m.ex.l,Lx b0 K w e
 co:bg 1 sc b0 K w m.co
 lf:bg 1 sc b0 K w m.lf
 rt:bg 1 sc b0 K w m.rt
 ag:bg 3 ac b0 K w m.ag
theorem QN.move{b0:Nat}{K K':List Nat}{w w':ak}{m:PM}(h:QN b0 K w m)(hb:But K w w')(hs:∀x∈K',x∈K∨x<b0∨w.heap.size<=x):QN b0 K' w' m:=
 ⟨h.ex.move hb hs,λe he=>(h.lx e he).move hb hs,h.co.move hb hs,h.lf.move hb hs,h.rt.move hb hs,h.ag.move hb hs⟩
theorem QN.ev{b0:Nat}{K:List Nat}{w w':ak}{m:PM}(h:QN b0 K w m)(hE:Ev w w'):QN b0 K w' m:=h.move (But.aV hE) λ_ hx=>.inl hx
structure tC(w1:ak)(gp:Nat)(p:PM)(w:ak):Prop where
 box:Bx 32 gp (rD p) w
 own:Ow 32 8 pc (gp+1) w (.slice p.A p.kids.length p.cap) p.kids
 hd:QN (gp+1) (foot (.slice p.A p.kids.length p.cap)) w p
 kids:∀k∈p.kids,Qx (gp+1) (foot (.slice p.A p.kids.length p.cap)) w k
 ev:Ev w1 w
 GZ:w1.heap.size<=gp
theorem tC.up{w1 w w':ak}{gp:Nat}{p:PM}(h:tC w1 gp p w)(hE:Ev w w'):tC w1 gp p w':=
 ⟨h.box.ev hE,h.own.ev hE,h.hd.ev hE,λk hk=>(h.kids k hk).ev hE,h.ev.trans hE,h.GZ⟩
theorem tC.next{w1 wq w2:ak}{gp:Nat}{p x:PM}{bx:Nat}{v2:au}(h:tC w1 gp p wq)(hx:Qx bx [] wq x)(Fv:gp<bx)(hk:∀k∈foot (.slice p.A p.kids.length p.cap),k<bx)(hA:nR 32 8 pc (gp+1) wq (.slice p.A p.kids.length p.cap) (p.kids++[x]) v2 w2):
  ∃A2 cap2,v2=.slice A2 (p.kids.length+1) cap2/\tC w1 gp (p.jZ A2 cap2 (p.kids++[x])) (w2.setCell ⟨gp,7,none⟩ v2):=by
 obtain⟨ho,hb,hs⟩:=hA;obtain⟨A2,cap2,rfl,qm,xY⟩:=ho.form sF;have hl:(p.kids++[x]).length=p.kids.length+1:=by rw[awl];rfl
 have P5:=h.box.lt;have hK:gp∉foot (.slice p.A p.kids.length p.cap):=λhm=>by have:=(h.own.lt (aG.1 hm)).1;omega
 have hB2:=(h.box).but hb hK;have Iq:But [gp] w2 (w2.setCell ⟨gp,7,none⟩ (.slice A2 (p.kids++[x]).length cap2)):=But.setCell _ _ aj;have hf2:∀k∈foot (.slice A2 (p.kids++[x]).length cap2),k∈foot (.slice p.A p.kids.length p.cap)∨k<gp+1∨wq.heap.size<=k:=λk hk=>by exact aAX
 have hst:∀k∈gp::foot (.slice A2 (p.kids++[x]).length cap2),k∈foot (.slice A2 (p.kids++[x]).length cap2)∨k<gp+1∨w2.heap.size<=k:=λk hk=>by exact aA5
 have aeh:But (gp::foot (.slice A2 (p.kids++[x]).length cap2)) w2 (w2.setCell ⟨gp,7,none⟩ (.slice A2 (p.kids++[x]).length cap2)):=Iq.wide λk hk=>by simp at hk;subst hk;exact .inl aj
 have hin:∀k∈foot (.slice A2 (p.kids++[x]).length cap2),k∈gp::foot (.slice A2 (p.kids++[x]).length cap2)∨k<gp+1∨w2.heap.size<=k:=λk hk=>.inl (awn _ hk);refine⟨A2,cap2,by rw[hl],?_⟩;refine⟨?_,?_,?_,λy hy=>?_,?_,h.GZ⟩;have:=hB2.set 7 (.slice A2 (p.kids++[x]).length cap2);simpa[rD,PM.jZ,PM.kind,PM.name,PM.ex,PM.co,PM.lf,PM.rt,PM.ag,PM.A,PM.cap,PM.kids] using this;exact ho.but Iq λg hg=>by have:=(ho.lt hg).1;simp;omega
 have h1:QN (gp+1) (foot (.slice A2 (p.kids++[x]).length cap2)) w2 p:=h.hd.move hb hf2;have h2:=(h1.move (But.refl _ _) hst).move aeh hin;exact⟨h2.ex,h2.lx,h2.co,h2.lf,h2.rt,h2.ag⟩;have hy1:Qx (gp+1) (foot (.slice p.A p.kids.length p.cap)) wq y:=by rcases awD.1 hy with h1|h1;exact h.kids y h1;simp at h1;subst h1;exact(hx.less λk hk2=>.inr (.inl (hk k hk2))).low ae
 exact(((hy1.move hb hf2).move (But.refl _ _) hst).move aeh hin);have h1:Ev w1 w2:=((But.aV h.ev).then hb).ev λk hk=>by have:=(h.own.lt (aG.1 hk)).1;have:=h.GZ;omega
 exact h1.box Iq h.GZ
theorem tC.after{w1 wq w2:ak}{gp:Nat}{p:PM}{v2:au}{L:List PM}(h:tC w1 gp p wq)(hA:nR 32 8 pc (gp+1) wq (.slice p.A p.kids.length p.cap) L v2 w2):Bx 32 gp (rD p) w2:=
 h.box.but hA.2.1 λhm=>by have:=(h.own.lt (aG.1 hm)).1;omega
theorem tC.done{w1 w:ak}{gp:Nat}{p:PM}(h:tC w1 gp p w):Qx (gp+1) [] w p:=by
 obtain⟨A2,cap2,hv,qm,xY⟩:=h.own.form sF;injection hv with h1 h2 h3
 have hH:=h.hd.move (K':=[]) (But.aV (Ev.refl w)) λk hk=>by cases hk
 have hQ:∀k∈p.kids,Qx (gp+1) [] w k:=λk hk=>(h.kids k hk).less λx hx=>by cases hx
 have Ij:bg 8 pc (gp+1) [] w ⟨p.A,p.cap,p.kids⟩:=⟨by rw[h1,h3];exact qm,λad e=>by rw[h1]at e;exact⟨(xY ad e).2.1,(xY ad e).2.2.1,aj⟩⟩
 cases p
 exact .mk hH.ex hH.lx hH.co hH.lf hH.rt hH.ag Ij hQ
theorem tC.init(w1 w:ak)(gp:Nat)(k:Int)(hB:Bx 32 gp (rD (.mk k [] .nil .nil .nil .nil .nil none 0 [])) w)(hE:Ev w1 w)(hg:w1.heap.size<=gp):tC w1 gp (.mk k [] .nil .nil .nil .nil .nil none 0 []) w:=
 ⟨hB,Ow.nil_ _,⟨bg.nil ..,(λe he=>by cases he),bg.nil ..,bg.nil ..,bg.nil ..,bg.nil ..⟩,(λk hk=>by cases hk),hE,hg⟩
theorem EH(w:ak)(c0 c1 c2 c3 c4:au):∃w0,(w.alloc (.cells #[c0,c1,c2,c3,c4] 79)).alloc (.cells ↑Zz.b 32)=w0/\Ev w w0/\Bx 79 w.heap.size #[c0,c1,c2,c3,c4] w0/\Bx 32 (w.heap.size+1) ↑Zz.b w0:=by have hB:=Bx.new 32 ↑Zz.b (w.alloc (.cells #[c0,c1,c2,c3,c4] 79));rw[show (w.alloc (.cells #[c0,c1,c2,c3,c4] 79)).heap.size=w.heap.size+1 by simp]at hB;exact⟨_,rfl,(Ev.alloc w _).trans az,(Bx.new 79 #[c0,c1,c2,c3,c4] w).ev az,hB⟩
theorem Zt{t:T}(h:fZ t=false):bf t=(12,t.pos):=by
 cases t
 rw[bf,h];rfl
theorem ab7{t:T}(h:fZ t=false):nG t=(ik,12,t.pos):=by unfold nG;rw[Zt h];rfl
theorem lK{w w1:ak}{g:Nat}{c0 c1 c2 c3 c4 c5 c6 c7:au}(hg:w.heap.size<=g)(hE:Ev w w1)(hB:Bx 32 g #[c0,c1,c2,c3,c4,c5,c6,c7] w1)(v0 v1 v2 v3 v4 v5 v6 v7:au):Bx 32 g #[v0,v1,v2,v3,v4,v5,v6,v7] (iK g v0 v1 v2 v3 v4 v5 v6 v7 w1)/\Ev w (iK g v0 v1 v2 v3 v4 v5 v6 v7 w1):=⟨hB.iK _ _ _ _ _ _ _ _,hE.box (bV _ _ _ _ _ _ _ _ _ _) hg⟩
structure sV(ql:List M)(e0:Er)(p0:PM)(j:Nat)(p:PM)(e:Er):Prop where
 same:p=p0.jZ p.A p.cap p.kids
 len:p.kids.length<=j
 ok:e.1=0->e=(0,0)/\e0=(0,0)/\(∀y∈ql.take j,(bf y.t).1=0)/\p.kids.map PM.p=(ql.take j).map λy=>pPlan y.t
 bad:e.1≠0->fO e0 (aT (ql.map λy=>bf y.t))=e
theorem sV.next{ql:List M}{e0:Er}{p0 p x:PM}{j:Nat}{A2:Option Addr}{cap2:Nat}{y:M}(h:sV ql e0 p0 j p (0,0))(hy:ql[j]?=some y)(hx:x.p=(nG y.t).1):sV ql e0 p0 (j+1) (p.jZ A2 cap2 (p.kids++[x])) (nG y.t).2:=by
 obtain⟨_,h2,h3,h4⟩:=h.ok rfl;obtain⟨hk,e1⟩:=awi.1 hy;have oV:ql.take (j+1)=ql.take j++[y]:=by rw[aws hk,e1]
 refine⟨?_,?_,λhe=>?_,λhe=>?_⟩;rw[h.same];rfl;show (p.kids++[x]).length<=j+1;have:=h.len;simp;omega;have hz:(bf y.t).1=0:=by unfold nG at he;by_cases hz:(bf y.t).1=0;exact hz;rw[if_neg hz]at he;exact he
 refine⟨by unfold nG;rw[if_pos hz],h2,λz hz2=>?_,?_⟩;rw[oV]at hz2;rcases awD.1 hz2 with h5|h5;exact h3 z h5;simp at h5;rw[h5];exact hz;show (p.kids++[x]).map PM.p=_;rw[oV,awt,awt,h4,awo,awG,hx];unfold nG;rw[if_pos hz];rfl;have hz:(bf y.t).1≠0:=λhz=>he (by unfold nG;rw[if_pos hz]);have h5:(nG y.t).2=bf y.t:=by unfold nG;rw[if_neg hz]
 rw[h5,h2,vK (k:=j) (e:=bf y.t) (λx hx=>?_) (by rw[aw5,hy];rfl) hz,lY,if_neg hz];rw[<-axe]at hx;obtain⟨z,hz2,rfl⟩:=awN.1 hx;exact h3 z hz2
theorem sV.vV{ql:List M}{e0 e:Er}{p0 p:PM}{t:T}(h:sV ql e0 p0 ql.length p e)(he:e.1=0)(vO:bf t=fO e0 (aT (ql.map λy=>bf y.t)))
  (hPP:(bf t).1=0->pPlan t=.mk p0.kind p0.name (p0.ex.l.map M.t) p0.co.l p0.lf.l p0.rt.l p0.ag.l (ql.map λy=>pPlan y.t)):nG t=(p.p,0,0):=by
 obtain⟨_,h2,h3,h4⟩:=h.ok he;rw[aw0]at h3 h4;have hz:aT (ql.map λy=>bf y.t)=(0,0):=wY λx hx=>by obtain⟨y,hy,rfl⟩:=awN.1 hx;exact h3 y hy
 rw[h2,hz]at vO;unfold nG;rw[vO,if_pos (by rfl),hPP (by rw[vO];rfl),PM.sD,h.same];show (Pl.mk p0.kind p0.name (p0.ex.l.map M.t) p0.co.l p0.lf.l p0.rt.l p0.ag.l _,_,_)=(Pl.mk p0.kind p0.name (p0.ex.l.map M.t) p0.co.l p0.lf.l p0.rt.l p0.ag.l (p.kids.map PM.p),_,_);rw[h4]
theorem sV.qg{ql:List M}{e0 e:Er}{p0 p:PM}{j:Nat}{t:T}(h:sV ql e0 p0 j p e)(he:e.1≠0)(vO:bf t=fO e0 (aT (ql.map λy=>bf y.t))):nG t=(ik,e.1,e.2):=by rw[h.bad he]at vO;unfold nG;rw[vO,if_neg he]
theorem sV.start(ql:List M)(e0:Er)(p0:PM)(hk:p0.kids=[])(hz:e0.1=0->e0=(0,0)):sV ql e0 p0 0 p0 e0:=
 ⟨by cases p0;rfl,by rw[hk];simp,λh=>⟨hz h,hz h,aj,by rw[hk];simp⟩,λh=>by unfold fO;simp[h]⟩
theorem xu(l:List Er):fO (0,0) (aT l)=aT l:=by rw[lY];split;rename_i h;exact(Ak l h).symm;rfl
theorem qh{w w0 wz:ak}{g gp:Nat}{p:PM}{c0 c1 c2 c3 c4 c5 c6 c7:au}(hK:tC w0 gp p wz)(hE:Ev w w0)(hg:w.heap.size<=g)(hgp:g<gp)(hB:Bx 32 g #[c0,c1,c2,c3,c4,c5,c6,c7] wz):
  Bx 32 g ↑p (iK g ↑p.kind ↑p.name (.slice p.ex.A p.ex.l.length p.ex.cap) (.slice p.co.A p.co.l.length p.co.cap) (.slice p.lf.A p.lf.l.length p.lf.cap) (.slice p.rt.A p.rt.l.length p.rt.cap) (.slice p.ag.A p.ag.l.length p.ag.cap) (.slice p.A p.kids.length p.cap) wz)/\Qx w.heap.size [] (iK g ↑p.kind ↑p.name (.slice p.ex.A p.ex.l.length p.ex.cap) (.slice p.co.A p.co.l.length p.co.cap) (.slice p.lf.A p.lf.l.length p.lf.cap) (.slice p.rt.A p.rt.l.length p.rt.cap) (.slice p.ag.A p.ag.l.length p.ag.cap) (.slice p.A p.kids.length p.cap) wz) p/\Ev w (iK g ↑p.kind ↑p.name (.slice p.ex.A p.ex.l.length p.ex.cap) (.slice p.co.A p.co.l.length p.co.cap) (.slice p.lf.A p.lf.l.length p.lf.cap) (.slice p.rt.A p.rt.l.length p.rt.cap) (.slice p.ag.A p.ag.l.length p.ag.cap) (.slice p.A p.kids.length p.cap) wz):=
 ⟨hB.iK _ _ _ _ _ _ _ _,(lH hK.done (bV _ _ _ _ _ _ _ _ _ _) (λk hk=>by simp at hk;omega)).low ae,(hE.trans hK.ev).box (bV _ _ _ _ _ _ _ _ _ _) hg⟩
theorem Uj(m:M)(b0:Nat)(w:ak)(h:Lies b0 [] w m)(hf:fZ m.t=false):
  Calls ax 39 #[.agg ↑m] w (bH (nG m.t) w):=by
 have fD:Tryz.prog.follows .mixedOrders=true:=ah;rw[ab7 hf,M.GK];have H_:=zq (λw1 (hE:Ev w w1)=>uF m b0 w1 (h.ev hE));rw[hf]at H_;have hcl:=h.ms.le;have hcm:=h.ms.max;obtain⟨w0,hw0,aW,hT0,Ll⟩:=EH w ↑m.kind ↑m.s ↑m.n (.slice m.A m.kids.length m.cap) ↑m.pos;have dM:=zq aW;have zo:=zq hT0;have ZR:=zq Ll;obtain⟨⟨c0,c1,c2,c3,c4⟩,_⟩:=hT0.five;unfold bH;clear h aW hT0 Ll hf;go_enter func39,ntmps39;go_upto_region 2 with (first
  | ((with_reducible refine(H_.out _ dM.out).mono ?_);rintro r w1 ⟨rfl,aK⟩;have E1:=zq (dM.out.trans aK);have mY:=zq (ZR.out.ev aK);have HT1:=zq (zo.out.ev aK);clear c0 c1 c2 c3 c4;obtain⟨⟨c0,c1,c2,c3,c4⟩,_⟩:=(zo.out.ev aK).five;obtain⟨⟨r0,r1,r2,r3,r4,r5,r6,r7⟩,s0,s1,s2,s3,s4,s5,s6,s7⟩:=mY.out.eight;clear aK))
 refine jq fD (λu=>But [w.heap.size+1] w1 u) (But [w.heap.size+1]) [3] (λ_ u=>Bx 32 (w.heap.size+1) ↑Zz.b u) [λv _=>v=.agg ↑Zz.b,λv _=>v=.pointer (some ⟨w.heap.size,4,none⟩),λv _=>v=↑m.pos,λ_ _=>True,λv _=>v=.int .i64 12,λv _=>v=↑m.pos]
  227 1 rfl ah ⟨aB _,aB _,aB _,fB,aB _,aB _,trivial⟩ ⟨λ_ _ _ _ h=>h,λ_ _ _ _ h=>h,λ_ _ _ _ h=>h,λ_ _ _ _ h=>h,λ_ _ _ _ h=>h,λ_ _ _ _ h=>h,trivial⟩ ah (λ_ _ _ hE h=>h.ev hE) (λu u' hE h=>h.then (But.aV hE)) (But.refl _ _) (mY.out) ah ?_ ?_ ?_
 ·refine aN 0 ?_ (aN 1 ?_ (aN 2 ?_ (bZ 3 ai (aN 4 ?_ (aN 5 ?_ (oC 6))))))
  ·refine aQ λa wq c=>⟨(ay rfl),.agg ↑Zz.b,?_,rfl⟩
   generalize a.eval=ρ;simp[execOp,go_sem]
  refine aQ λa wq c=>⟨(ay rfl),.pointer (some ⟨w.heap.size,4,none⟩),?_,rfl⟩
  exact aAm
  ·refine aQ λa wq c=>⟨(ay rfl),↑m.pos,?_,rfl⟩
   have bD:a.eval (.tmp 22)=.pointer (some ⟨w.heap.size,4,none⟩):=(c.new 1 22)
   have hc:=(HT1.out.but c.inv aj).cell 4;have hc:wq.cell? ⟨w.heap.size,4,none⟩=some ↑m.pos:=hc;generalize a.eval=ρ at bD|-;simp[execOp,bD,hc,go_sem]
  refine aQ λa w c=>⟨(ay rfl),_,run_assign _ rfl w,(Z4 a _)⟩
  refine aQ λa w c=>⟨(ay rfl),_,run_assign _ rfl w,(c.new 2 23)⟩
 ·refine gG 0 rfl ?_ (pU 1);refine uN rfl λa wq c st=>?_;have em:a.eval (.tmp 21)=.agg ↑Zz.b:=(c.new 0 21)
  have e2:a.eval (.tmp 2)=.pointer (some ⟨w.heap.size+1,0,none⟩):=(c.was 2 rfl)
  have Fv:Bx 32 (w.heap.size+1) ↑Zz.b wq:=st;obtain⟨⟨r0,r1,r2,r3,r4,r5,r6,r7⟩,s0,s1,s2,s3,s4,s5,s6,s7⟩:=Fv.eight;refine⟨ay rfl,iK (w.heap.size+1) (.int .i64 0) (.string ⟨#[]⟩) ↑() ↑() ↑() ↑() ↑() ↑() wq,?_,bV _ _ _ _ _ _ _ _ _ _,c.inv.then (bV _ _ _ _ _ _ _ _ _ _),Fv.iK _ _ _ _ _ _ _ _,trivial⟩;generalize a.eval=ρ at em e2|-;simp[execOp,em,e2,go_sem,r0,r1,r2,r3,r4,r5,r6,r7,s0,s1,s2,s3,s4,s5,s6,s7,iK,kH,kG]
 intro sl w9 hI hold hnew hst;have f1:sl 1=.pointer ↑w.heap.size:=hold 1;have f2:sl 2=.pointer (some ⟨w.heap.size+1,0,none⟩):=hold 2;have f3:sl 3=.int .i64 12:=hnew 4 3;have f4:sl 4=↑m.pos:=hnew 5 4;change Exit.then _ _ .normal ⟨_,_⟩ _;simp only[List.range,List.range.loop,List.map];simp only[f1,f2,f3,f4];clear hold hnew;go_wp2;(try simp only[Exit.inBlock,Exit.then]);refine bodyPost_ret (aI rfl _ _ _ _ _ rfl hst underlying32 rfl Tryz.bG) rfl ?_;exact⟨kD,rfl,iD,Qx.zero _ _ _,E1.out.box hI ae⟩
theorem ax'(h:U:=by
 have Ai:=Bx.new 32 ↑Zz.b wr;clear hy;go_upto_region 57 with (first
  | ((with_reducible refine(QP.out _ ((HE.out.trans HK.out.ev).trans az)).mono ?_);rintro r w6 ⟨x,rfl,ui,yz,nS⟩;have Jd:=zq ui;have E6:=zq ((Ev.alloc wr _).trans nS);have qE:=zq (Ai.ev nS);obtain⟨⟨u0,u1,u2,u3,u4,u5,u6,u7⟩,v0,v1,v2,v3,v4,v5,v6,v7⟩:=qE.out.eight;have EY:=zq yz;clear ui yz nS Ai q0 q1 q2 q3 q4 q5 q6 q7))
 rw[bu];obtain⟨w8,vW⟩:∃w8,w8=iK wr.heap.size ↑x.kind ↑x.name (.slice x.ex.A x.ex.l.length x.ex.cap) (.slice x.co.A x.co.l.length x.co.cap) (.slice x.lf.A x.lf.l.length x.lf.cap) (.slice x.rt.A x.rt.l.length x.rt.cap) (.slice x.ag.A x.ag.l.length x.ag.cap) (.slice x.A x.kids.length x.cap) w6:=⟨_,rfl⟩
 rw[<-vW];have ug:=bV wr.heap.size ↑x.kind ↑x.name (.slice x.ex.A x.ex.l.length x.ex.cap) (.slice x.co.A x.co.l.length x.co.cap) (.slice x.lf.A x.lf.l.length x.lf.cap) (.slice x.rt.A x.rt.l.length x.rt.cap) (.slice x.ag.A x.ag.l.length x.ag.cap) (.slice x.A x.kids.length x.cap) w6;have oL:=qE.out.iK ↑x.kind ↑x.name (.slice x.ex.A x.ex.l.length x.ex.cap) (.slice x.co.A x.co.l.length x.co.cap) (.slice x.lf.A x.lf.l.length x.lf.cap) (.slice x.rt.A x.rt.l.length x.rt.cap) (.slice x.ag.A x.ag.l.length x.ag.cap) (.slice x.A x.kids.length x.cap);have lU:=E6.out.box ug (awj _);have lL:=lH EY.out ug (λk hk=>by simp at hk;simp;omega);rw[<-vW]at oL lU lL;have mM:=zq (HK.out.up lU);have y5:=zq lL;obtain⟨⟨q0,q1,q2,q3,q4,q5,q6,q7⟩,_⟩:=mM.out.box.eight;clear u0 u1 u2 u3 u4 u5 u6 u7 v0 v1 v2 v3 v4 v5 v6 v7;obtain⟨⟨u0,u1,u2,u3,u4,u5,u6,u7⟩,_⟩:=oL.eight;have LZ:=lU.size;have L6:=mM.out.box.lt;have NZ:=oL.lt;clear vW ug oL lU lL
 go_wp2_with (first
  | ((show wpList _ _ _ (⟨some 219,_,_,_,_,_⟩::_) _ _);refine aO (o:=⟨some 219,_,_,_,_,_⟩) rfl 30 (.tmp 216) (.tmp 218) rfl sF underlying30 Tryz.nz rfl rfl (mM.out.up az).own (some ⟨_,0,none⟩) 1 1 [x] rfl (Sl.one (et:=32) sF _ x _ rfl) (by simp;omega) (by simp;omega) (by simp;omega) ?_;intro v2 w7 gV;have vT:=zq gV;obtain⟨A2,cap2,rfl,Cc⟩:=tC.next (mM.out.up az) (y5.out.ev az) (by simp;omega) (by intro k hk;have:=(HK.out.own.lt (aG.1 hk)).2;simp;omega) vT.out;obtain⟨⟨o0,o1,o2,o3,o4,o5,o6,o7⟩,t0,t1,t2,t3,t4,t5,t6,t7⟩:=((mM.out.up az).after vT.out).eight;have N7:=zq Cc;clear Cc gV))
 go_roundw
 case rel=>exact⟨j+1,p.jZ A2 cap2 (p.kids++[x]),(nG y.t).2,rfl,rfl,by go_num,ae,zq (HI.out.next HY.out Jd.out),N7⟩
 case measure=>simp[intOf];omega):U:=h
theorem ax9(h:U:=by
 obtain⟨y,hy⟩:=(HQ.out w aJ).at hlt;obtain⟨bq,oq,yZ,hbl,d0,d1,d2,d3,d4⟩:=Ms.cell (HQ.out _ (HE.out.trans HK.out.ev)) hy;unfold M.kv at d3;injection yZ with yZ
 injection yZ with h1 h2 _
 subst h1 h2;obtain⟨⟨q0,q1,q2,q3,q4,q5,q6,q7⟩,_⟩:=HK.out.box.eight;have HY:=zq hy;have hsw:=HK.out.ev.size;have QP:=zq (O0.out y (awm hy));have hpl:p.kids.length<=10000:=by have:=HI.out.len;omega
 have LY:=HK.out.box.lt;have i1:(0:Int)<=(j:Int):=ae;have i2:(j:Int)<(2:Int):=ae;exact ax'):U:=h
theorem ayz(h:U:=by obtain⟨⟨q0,q1,q2,q3,q4,q5,q6,q7⟩,_⟩:=HK.out.box.eight;obtain⟨⟨r0,r1,r2,r3,r4,r5,r6,r7⟩,s0,s1,s2,s3,s4,s5,s6,s7⟩:=(HR.out.ev HK.out.ev).eight;go_wp2;(try simp only[Exit.inBlock,Exit.then]);rw[bu];obtain⟨f1,f2,f3⟩:=qh HK.out HE.out (awX w.heap.size) ae (HR.out.ev HK.out.ev);refine bodyPost_ret (aI rfl _ _ _ _ _ rfl f1 underlying32 rfl Tryz.bG) rfl ?_;rw[wI.out];exact⟨p,rfl,rfl,f2,f3⟩):U:=h
theorem ayq(h:U:=by
 have ZX:(e.1==0)=false:=awg.2 he;have hen:(e.1 !=0)=true:=by simp[he]
 have wI:Hid (nG PT=(ik,e.1,e.2)):=zq (sV.qg HI.out he vP.out);obtain⟨⟨r0,r1,r2,r3,r4,r5,r6,r7⟩,s0,s1,s2,s3,s4,s5,s6,s7⟩:=(HR.out.ev HK.out.ev).eight;have i1:(0:Int)<=(j:Int):=ae;by_cases hlt:(j:Int)<(2:Int)
 all_goals (
  go_wp2;(try simp only[Exit.inBlock,Exit.then]);rw[bu];obtain⟨f1,f2⟩:=lK (awX w.heap.size) (HE.out.trans HK.out.ev) (HR.out.ev HK.out.ev) (.int .i64 0) (.string ⟨#[]⟩) ↑() ↑() ↑() ↑() ↑() ↑();refine bodyPost_ret (aI rfl _ _ _ _ _ rfl f1 underlying32 rfl Tryz.bG) rfl ?_;rw[wI.out];exact⟨kD,rfl,iD,Qx.zero _ _ _,f2⟩)):U:=h
theorem QO(m:M)(b0:Nat)(w:ak)(hL:Lies b0 [] w m)(hfair:m.t.every cO=true)(hsz:m.t.size<=10000)(hf:fZ m.t=true)(x:M)(q:List M)(hq:m.kids=x::q)(hs:x.s=iH)
  (ih:∀y∈q,∀w1,Ev w w1->Calls ax 39 #[.agg ↑y] w1 (bH (nG y.t) w1)):
  Calls ax 39 #[.agg ↑m] w (bH (nG m.t) w):=by
 have fD:Tryz.prog.follows .mixedOrders=true:=ah;obtain⟨jY,lM,mG,hm1,hx2,rW⟩:=l_ hq hf;have LX:Lies b0 [w.heap.size] w m:=hL.less λk hk=>by simp at hk;exact .inr (.inr ae)
 obtain⟨b,off,k,c,eY⟩:=vN LX hq rW;have H_:=zq (λw1 (hE:Ev w w1)=>uF m b0 w1 (hL.ev hE));rw[hf]at H_;have wX:=zq (λw1 (hE:Ev w w1)=>kP m b0 w1 (hL.ev hE));have tN:Qd m.t=x.s:=by rw[F_,hq];simp[hm1,M.uJ,lG,hx2]
 rw[tN,hs]at wX;have Nw:=q_len hq hsz;rw[hs]at jY lM mG;unfold bH at ih|-;obtain⟨PT,uP⟩:∃PT,PT=m.t:=⟨_,rfl⟩
 rw[<-uP]at jY lM|-;have hA:=eY.hA;have hn:=eY.hn;have hc:=eY.hc;have tJ:=eY.tJ;have hcm:=eY.hcm;have mO:=eY.mO;have hbl:b<w.heap.size:=(eY.Bq w (But.refl _ _) off _ rfl).2.1;have oZ:=zq eY;clear eY uP hq hL LX hfair hsz rW hf hx2 tN;generalize Ah:m.kids.length=kn at*;generalize wH:m.A=mA at*;generalize EC:m.cap=mc at*;generalize qf:m.kind=kd at*;generalize hs_:m.s=ms at*;generalize wG:m.n=mn at*;generalize ED:m.pos=mp at*;clear Ah wH EC qf hs_ wG ED;subst hm1 hA hn hc;obtain⟨w0,hw0,aW,hX,hR⟩:=EH w (.int .i64 1) ↑ms ↑mn (.slice ↑(b,off) (k+2) (c+2)) ↑mp;have HX:=zq hX;have HR:=zq hR;have HE:=zq aW;have mP:=zq ih;unfold iH at*;obtain⟨⟨c0,c1,c2,c3,c4⟩,_⟩:=hX.five;clear hX hR aW ih hs;have hk2:q.length=2:=by exact aBc
 obtain rfl:k=1:=ae;have rC:Hid ((bf PT).1=0->pPlan PT=.mk 5 [] [] [] [] [] [] (q.map λy=>pPlan y.t)):=zq (λ_=>by rw[jY];show Pl.mk 5 [] [] [] [] [] [] ((q.map M.t).map pPlan)=_;rw[awy];rfl);have vP:Hid (bf PT=fO (0,0) (aT (q.map λy=>bf y.t))):=zq (by rw[lM,xu];show aT ((q.map M.t).map bf)=_;rw[awy];rfl);have HQ:Hid (∀w1,Ev w w1->Ms w1 ↑(b,off+5) 2 (c+1) q):=zq λw1 hE=>oZ.out.rest w1 (But.aV hE);have Rj:Hid (∀y∈q,y∈q):=zq λy hy=>hy;clear jY lM mG;go_enter func39,ntmps39;go_upto_region 38 with (first
  | ((with_reducible refine(H_.out _ HE.out).mono ?_);rintro r w1 ⟨rfl,aK⟩;have E1:=zq (HE.out.trans aK);have F1:=zq aK;have hx1:=(HX.out.ev aK).lt;have hr1:=(HR.out.ev aK).lt;clear c0 c1 c2 c3 c4;obtain⟨⟨c0,c1,c2,c3,c4⟩,_⟩:=(HX.out.ev aK).five;have yj:=Bx.new 32 ↑Zz.b w1;clear aK)
  | ((with_reducible refine(wX.out _ (E1.out.trans az)).mono ?_);rintro r w2 ⟨rfl,bQ⟩;have F2:=zq ((F1.out.trans az).trans bQ);have BP:=zq (yj.ev bQ);obtain⟨⟨p0,p1,p2,p3,p4,p5,p6,p7⟩,z0,z1,z2,z3,z4,z5,z6,z7⟩:=(yj.ev bQ).eight;clear bQ yj c0 c1 c2 c3 c4;obtain⟨⟨c0,c1,c2,c3,c4⟩,_⟩:=(HX.out.ev F2.out).five))
 obtain⟨wL,DJ⟩:∃wL,wL=w2.setCell ⟨w1.heap.size,0,none⟩ (.int .i64 5):=⟨_,rfl⟩
 rw[<-DJ];have Gu:Hid (tC w0 w1.heap.size (.mk 5 [] .nil .nil .nil .nil .nil none 0 []) wL):=zq (tC.init w0 wL w1.heap.size 5 (by rw[DJ];have:=BP.out.set 0 (.int .i64 5);simpa[rD,PM.kind,PM.name,PM.ex,PM.co,PM.lf,PM.rt,PM.ag,PM.A,PM.cap,PM.kids,fE.nil] using this) (by rw[DJ];exact F2.out.box (But.setCell _ _ aj) F1.out.size) F1.out.size);clear DJ p0 p1 p2 p3 p4 p5 p6 p7 z0 z1 z2 z3 z4 z5 z6 z7 c0 c1 c2 c3 c4;obtain⟨⟨c0,c1,c2,c3,c4⟩,_⟩:=(HX.out.ev Gu.out.ev).five;go_wp2;have O0:=zq (λy (hy:y∈q) w1 (hE:Ev w w1)=>mP.out y (Rj.out y hy) w1 hE);have qA:=zq (HQ.out w aJ).len;have NW:=(HQ.out w aJ).le;have NY:=(HQ.out w aJ).max
 go_loopw [7,8,16] (λyv av iv wr=>∃(j:Nat) (p:PM) (e:Er),yv=.int .i64 e.1/\av=.int .i64 (e.2:Int)/\iv=↑j/\j<=2/\Hid (sV q (0,0) (.mk 5 [] .nil .nil .nil .nil .nil none 0 []) j p e)/\Hid (tC w0 w1.heap.size p wr)) (λ_ _ iv _=>2 - (intOf iv).toNat)
 case atStart=>exact⟨0,.mk 5 [] .nil .nil .nil .nil .nil none 0 [],(0,0),rfl,rfl,rfl,aww _,zq (sV.start _ _ _ rfl (λ_=>rfl)),Gu⟩
 case round=>
  obtain⟨j,p,e,rfl,rfl,rfl,hj,HI,HK⟩:=hrel;have II:=F1.out.size;have IJ:=HR.out.lt;by_cases he:e.1=0;have IK:=(HI.out.ok he).1;subst IK;by_cases hlt:j<2;exact ax9;obtain rfl:j=2:=ae;have wI:Hid (nG PT=(p.p,0,0)):=zq (sV.vV (p0:=.mk 5 [] .nil .nil .nil .nil .nil none 0 []) (by rw[qA.out];exact HI.out) rfl vP.out rC.out);exact ayz;exact ayq
theorem ax_(h:U:=by
 obtain⟨y,hy⟩:=(HQ.out w aJ).at hlt;obtain⟨bq,oq,yZ,hbl,d0,d1,d2,d3,d4⟩:=Ms.cell (HQ.out _ (HE.out.trans HK.out.ev)) hy;unfold M.kv at d3;injection yZ with yZ
 injection yZ with h1 h2 _
 subst h1 h2;obtain⟨⟨q0,q1,q2,q3,q4,q5,q6,q7⟩,_⟩:=HK.out.box.eight;have HY:=zq hy;have hsw:=HK.out.ev.size;have QP:=zq (O0.out y (awm hy));have hpl:p.kids.length<=10000:=by have:=HI.out.len;omega
 have LY:=HK.out.box.lt;have i1:(0:Int)<=(j:Int):=ae;have i2:(j:Int)<(1:Int):=ae;exact ax'):U:=h
theorem ayr(h:U:=by
 have ZX:(e.1==0)=false:=awg.2 he;have hen:(e.1 !=0)=true:=by simp[he]
 have wI:Hid (nG PT=(ik,e.1,e.2)):=zq (sV.qg HI.out he vP.out);obtain⟨⟨r0,r1,r2,r3,r4,r5,r6,r7⟩,s0,s1,s2,s3,s4,s5,s6,s7⟩:=(HR.out.ev HK.out.ev).eight;have i1:(0:Int)<=(j:Int):=ae;by_cases hlt:(j:Int)<(1:Int)
 all_goals (
  go_wp2;(try simp only[Exit.inBlock,Exit.then]);rw[bu];obtain⟨f1,f2⟩:=lK (awX w.heap.size) (HE.out.trans HK.out.ev) (HR.out.ev HK.out.ev) (.int .i64 0) (.string ⟨#[]⟩) ↑() ↑() ↑() ↑() ↑() ↑();refine bodyPost_ret (aI rfl _ _ _ _ _ rfl f1 underlying32 rfl Tryz.bG) rfl ?_;rw[wI.out];exact⟨kD,rfl,iD,Qx.zero _ _ _,f2⟩)):U:=h
theorem IL(m:M)(b0:Nat)(w:ak)(hL:Lies b0 [] w m)(hfair:m.t.every cO=true)(hsz:m.t.size<=10000)(hf:fZ m.t=true)(x:M)(q:List M)(hq:m.kids=x::q)(hs:x.s=dN)
  (ih:∀y∈q,∀w1,Ev w w1->Calls ax 39 #[.agg ↑y] w1 (bH (nG y.t) w1)):
  Calls ax 39 #[.agg ↑m] w (bH (nG m.t) w):=by
 have fD:Tryz.prog.follows .mixedOrders=true:=ah;obtain⟨jY,lM,mG,hm1,hx2,rW⟩:=l_ hq hf;have LX:Lies b0 [w.heap.size] w m:=hL.less λk hk=>by simp at hk;exact .inr (.inr ae)
 obtain⟨b,off,k,c,eY⟩:=vN LX hq rW;have H_:=zq (λw1 (hE:Ev w w1)=>uF m b0 w1 (hL.ev hE));rw[hf]at H_;have wX:=zq (λw1 (hE:Ev w w1)=>kP m b0 w1 (hL.ev hE));have tN:Qd m.t=x.s:=by rw[F_,hq];simp[hm1,M.uJ,lG,hx2]
 rw[tN,hs]at wX;have Nw:=q_len hq hsz;rw[hs]at jY lM mG;unfold bH at ih|-;obtain⟨PT,uP⟩:∃PT,PT=m.t:=⟨_,rfl⟩
 rw[<-uP]at jY lM|-;have hA:=eY.hA;have hn:=eY.hn;have hc:=eY.hc;have tJ:=eY.tJ;have hcm:=eY.hcm;have mO:=eY.mO;have hbl:b<w.heap.size:=(eY.Bq w (But.refl _ _) off _ rfl).2.1;have oZ:=zq eY;clear eY uP hq hL LX hfair hsz rW hf hx2 tN;generalize Ah:m.kids.length=kn at*;generalize wH:m.A=mA at*;generalize EC:m.cap=mc at*;generalize qf:m.kind=kd at*;generalize hs_:m.s=ms at*;generalize wG:m.n=mn at*;generalize ED:m.pos=mp at*;clear Ah wH EC qf hs_ wG ED;subst hm1 hA hn hc;obtain⟨w0,hw0,aW,hX,hR⟩:=EH w (.int .i64 1) ↑ms ↑mn (.slice ↑(b,off) (k+2) (c+2)) ↑mp;have HX:=zq hX;have HR:=zq hR;have HE:=zq aW;have mP:=zq ih;unfold dN at*;obtain⟨⟨c0,c1,c2,c3,c4⟩,_⟩:=hX.five;clear hX hR aW ih hs;have hk2:q.length=1:=by have h1:((q.map M.t).length==1)=true:=mG;rw[awx,awh]at h1;exact h1
 obtain rfl:k=0:=ae;have rC:Hid ((bf PT).1=0->pPlan PT=.mk 6 [] [] [] [] [] [] (q.map λy=>pPlan y.t)):=zq (λ_=>by rw[jY];show Pl.mk 6 [] [] [] [] [] [] ((q.map M.t).map pPlan)=_;rw[awy];rfl);have vP:Hid (bf PT=fO (0,0) (aT (q.map λy=>bf y.t))):=zq (by rw[lM,xu];show aT ((q.map M.t).map bf)=_;rw[awy];rfl);have HQ:Hid (∀w1,Ev w w1->Ms w1 ↑(b,off+5) 1 (c+1) q):=zq λw1 hE=>oZ.out.rest w1 (But.aV hE);have Rj:Hid (∀y∈q,y∈q):=zq λy hy=>hy;clear jY lM mG;go_enter func39,ntmps39;go_upto_region 41 with (first
  | ((with_reducible refine(H_.out _ HE.out).mono ?_);rintro r w1 ⟨rfl,aK⟩;have E1:=zq (HE.out.trans aK);have F1:=zq aK;have hx1:=(HX.out.ev aK).lt;have hr1:=(HR.out.ev aK).lt;clear c0 c1 c2 c3 c4;obtain⟨⟨c0,c1,c2,c3,c4⟩,_⟩:=(HX.out.ev aK).five;have yj:=Bx.new 32 ↑Zz.b w1;clear aK)
  | ((with_reducible refine(wX.out _ (E1.out.trans az)).mono ?_);rintro r w2 ⟨rfl,bQ⟩;have F2:=zq ((F1.out.trans az).trans bQ);have BP:=zq (yj.ev bQ);obtain⟨⟨p0,p1,p2,p3,p4,p5,p6,p7⟩,z0,z1,z2,z3,z4,z5,z6,z7⟩:=(yj.ev bQ).eight;clear bQ yj c0 c1 c2 c3 c4;obtain⟨⟨c0,c1,c2,c3,c4⟩,_⟩:=(HX.out.ev F2.out).five))
 obtain⟨wL,DJ⟩:∃wL,wL=w2.setCell ⟨w1.heap.size,0,none⟩ (.int .i64 6):=⟨_,rfl⟩
 rw[<-DJ];have Gu:Hid (tC w0 w1.heap.size (.mk 6 [] .nil .nil .nil .nil .nil none 0 []) wL):=zq (tC.init w0 wL w1.heap.size 6 (by rw[DJ];have:=BP.out.set 0 (.int .i64 6);simpa[rD,PM.kind,PM.name,PM.ex,PM.co,PM.lf,PM.rt,PM.ag,PM.A,PM.cap,PM.kids,fE.nil] using this) (by rw[DJ];exact F2.out.box (But.setCell _ _ aj) F1.out.size) F1.out.size);clear DJ p0 p1 p2 p3 p4 p5 p6 p7 z0 z1 z2 z3 z4 z5 z6 z7 c0 c1 c2 c3 c4;obtain⟨⟨c0,c1,c2,c3,c4⟩,_⟩:=(HX.out.ev Gu.out.ev).five;go_wp2;have O0:=zq (λy (hy:y∈q) w1 (hE:Ev w w1)=>mP.out y (Rj.out y hy) w1 hE);have qA:=zq (HQ.out w aJ).len;have NW:=(HQ.out w aJ).le;have NY:=(HQ.out w aJ).max
 go_loopw [7,8,16] (λyv av iv wr=>∃(j:Nat) (p:PM) (e:Er),yv=.int .i64 e.1/\av=.int .i64 (e.2:Int)/\iv=↑j/\j<=1/\Hid (sV q (0,0) (.mk 6 [] .nil .nil .nil .nil .nil none 0 []) j p e)/\Hid (tC w0 w1.heap.size p wr)) (λ_ _ iv _=>1 - (intOf iv).toNat)
 case atStart=>exact⟨0,.mk 6 [] .nil .nil .nil .nil .nil none 0 [],(0,0),rfl,rfl,rfl,aww _,zq (sV.start _ _ _ rfl (λ_=>rfl)),Gu⟩
 case round=>
  obtain⟨j,p,e,rfl,rfl,rfl,hj,HI,HK⟩:=hrel;have II:=F1.out.size;have IJ:=HR.out.lt;by_cases he:e.1=0;have IK:=(HI.out.ok he).1;subst IK;by_cases hlt:j<1;exact ax_;obtain rfl:j=1:=ae;have wI:Hid (nG PT=(p.p,0,0)):=zq (sV.vV (p0:=.mk 6 [] .nil .nil .nil .nil .nil none 0 []) (by rw[qA.out];exact HI.out) rfl vP.out rC.out);exact ayz;exact ayr
theorem L8(s:By):∀(rs:List DU) (done:List T),(xReads s done rs).2.1=0->(xReads s done rs).2.2=0
 | [],done,h=>rfl
 | r::rs,done,h=>by unfold xReads at h|-;split;rename_i h0;rw[if_pos h0]at h;exact L8 s rs _ h;rename_i h0;rw[if_neg h0]at h;exact absurd (by simpa using h) h0
theorem EI{why:Int}{p:Nat}(hw:why≠0)(h:(ku why p).2.1=0):False:=hw h
theorem ab8(t:T)(h:(xRead t).2.1=0):(xRead t).2.2=0:=by
 cases t with
 | mk k s n l p=>
  unfold xRead at h|-;by_cases k2:(k==2)=true;rw[if_pos k2]at h|-;by_cases hx:iC s=true;rw[if_pos hx];rw[if_neg hx]at h;exact(EI ai h).elim;rw[if_neg k2]at h|-;by_cases k3:(k==3)=true;rw[if_pos k3];rw[if_neg k3]at h|-;by_cases k4:(k==4)=true;rw[if_pos k4];rw[if_neg k4]at h|-;by_cases k1:(k==1)=true;rw[if_pos k1]at h|-
  cases l with
  | nil=>exact(EI ai h).elim
  | cons hd q=>
   simp only at h|-;by_cases h1:(hd.kind==2&&!(bI hd.s==0))=true;rw[if_pos h1]at h|-;by_cases h2:(q.length==bI hd.s)=true;rw[if_pos h2]at h|-;exact L8 _ _ _ h;rw[if_neg h2]at h;exact(EI ai h).elim;rw[if_neg h1]at h;exact(EI ai h).elim
  rw[if_neg k1]at h;exact(EI ai h).elim
theorem Am(t:T)(h:(jU t).1=0):jU t=(0,0):=Prod.ext h (ab8 t h)
theorem aAu(h:U:=by unfold G9 at h|-;split;rfl;rename_i hx;rw[if_neg hx]at h;exact absurd h (show ¬((20:Int)=0) by decide)):U:=h
theorem L9(t:T)(h:(G9 t).2.1=0):(G9 t).2=(0,0):=by exact aAu
theorem QQ(t:T):bF t=(G9 t).2:=by unfold bF G9;split<;>rfl
theorem Uk(t:T)(h:(G9 t).2.1=0):(G9 t).1=t.s:=by exact aAu
theorem Gx{a:Er}(h:a.1=0->a=(0,0)):fO (0,0) a=a:=by rw[lY];by_cases ha:a.1=0;rw[if_pos ha,h ha];rw[if_neg ha]
theorem xw{a:Er}(h:a.1=0->a=(0,0))(l:List Er):aT (a::l)=fO a (aT l):=by rw[show aT (a::l)=(a::l).foldl fO (0,0) from rfl,axj,Gx h,jo]
theorem yl(l:List Er)(h:(aT l).1=0):aT l=(0,0):=Ak l h
theorem jE(l m:List Er):aT (l++m)=fO (aT l) (aT m):=by have:=lW (0,0) l m;rw[xu,xu]at this;exact this.symm
theorem tC.Zu{w0 wL:ak}{gp:Nat}{p:PM}(hk:p.kids=[])(hA:p.A=none)(hc:p.cap=0)(hB:Bx 32 gp (rD p) wL)(hH:QN (gp+1) [] wL p)(hE:Ev w0 wL)(hg:w0.heap.size<=gp):tC w0 gp p wL:=by refine⟨hB,?_,?_,(λk hk2=>by rw[hk]at hk2;cases hk2),hE,hg⟩;rw[hk,hA,hc];exact Ow.nil_ _;rw[hk,hA,hc];exact hH
theorem Ms.next{w:ak}{b off n c:Nat}{x:M}{q:List M}(h:Ms w ↑(b,off) (n+1) (c+1) (x::q))(hn:1<=n)(hc:n<=c):Ms w ↑(b,off+5) n c q:=by
 obtain⟨k,rfl⟩:∃k,n=k+1:=⟨n - 1,ae⟩
 obtain⟨d,rfl⟩:∃d,c=d+1:=⟨c - 1,ae⟩
 exact Ms.rest h
theorem QR(m:M)(b0:Nat)(w:ak)(hL:Lies b0 [] w m)(hfair:m.t.every cO=true)(hsz:m.t.size<=10000)(hf:fZ m.t=true)(x:M)(q:List M)(hq:m.kids=x::q)(hs:x.s=gU)
  (ih:∀y∈q,∀w1,Ev w w1->Calls ax 39 #[.agg ↑y] w1 (bH (nG y.t) w1)):
  Calls ax 39 #[.agg ↑m] w (bH (nG m.t) w):=by
 have fD:Tryz.prog.follows .mixedOrders=true:=ah;obtain⟨jY,lM,mG,hm1,hx2,rW⟩:=l_ hq hf;have LX:Lies b0 [w.heap.size] w m:=hL.less λk hk=>by simp at hk;exact .inr (.inr ae)
 obtain⟨b,off,k,c,eY⟩:=vN LX hq rW;have H_:=zq (λw1 (hE:Ev w w1)=>uF m b0 w1 (hL.ev hE));rw[hf]at H_;have wX:=zq (λw1 (hE:Ev w w1)=>kP m b0 w1 (hL.ev hE));have tN:Qd m.t=x.s:=by rw[F_,hq];simp[hm1,M.uJ,lG,hx2]
 rw[tN,hs]at wX;have zy:=zq (λy (hy:y∈q)=>mf hq hy hfair hsz);have Nw:=q_len hq hsz;have Bv:=zq (λi y (hy:q[i]?=some y) w1 (hE:Ev w w1)=>eY.kid (i+1) y (by rw[hq];simpa using hy) w1 (But.aV hE));rw[hs]at jY lM mG;unfold bH at ih|-;obtain⟨PT,uP⟩:∃PT,PT=m.t:=⟨_,rfl⟩
 rw[<-uP]at jY lM|-;have hA:=eY.hA;have hn:=eY.hn;have hc:=eY.hc;have tJ:=eY.tJ;have hcm:=eY.hcm;have mO:=eY.mO;have hbl:b<w.heap.size:=(eY.Bq w (But.refl _ _) off _ rfl).2.1;clear eY uP hq hL LX hfair hsz rW hf hx2 tN;generalize Ah:m.kids.length=kn at*;generalize wH:m.A=mA at*;generalize EC:m.cap=mc at*;generalize qf:m.kind=kd at*;generalize hs_:m.s=ms at*;generalize wG:m.n=mn at*;generalize ED:m.pos=mp at*;clear Ah wH EC qf hs_ wG ED;subst hm1 hA hn hc;obtain⟨w0,hw0,aW,hX,hR⟩:=EH w (.int .i64 1) ↑ms ↑mn (.slice ↑(b,off) (k+2) (c+2)) ↑mp;have HX:=zq hX;have HR:=zq hR;have HE:=zq aW;unfold gU at*;obtain⟨⟨c0,c1,c2,c3,c4⟩,_⟩:=hX.five;clear hX hR aW ih hs;have hk2:q.length=1:=by have h1:((q.map M.t).length==1&&bW (at_ (q.map M.t) 0))=true:=mG;rw[awk,awx,awh]at h1;exact h1.1
 obtain rfl:k=0:=ae;have ZY:=zq (λy (hy:y∈q)=>(zy.out y hy).1);have HSL:Hid (∀y∈q,y.s.length<=1000000):=zq λy hy=>by have h1:=ZY.out y hy;rw[T.gz,awk]at h1;have h2:=h1.1;rw[M.rV]at h2;have:=(pK h2).2;omega
 obtain⟨y,rfl⟩:=uA hk2;obtain⟨NR,hNR⟩:∃NR,NR=G9 y.t:=⟨_,rfl⟩
 have HNZ:=zq (L9 y.t);have rC:Hid ((bf PT).1=0->pPlan PT=.mk 1 NR.1 [] [] [] [] [] (([]:List M).map λy=>pPlan y.t)):=zq (λh0=>by
  rw[jY];rw[lM]at h0;have h1:(aT [bF y.t]).1=0:=h0;have h2:=(gI _).1 h1 _ (awp ..);rw[QQ]at h2;rw[hNR,Uk _ h2];rfl)
 have vP:Hid (bf PT=fO NR.2 (aT (([]:List M).map λy=>bf y.t))):=zq (by
  rw[lM];show aT [bF y.t]=_;rw[QQ,hNR,xw (L9 y.t)];rfl)
 have HN:=zq (λw1=>AP y w1 (HSL.out y aj));have HQ:Hid (∀w1,Ev w w1->Ms w1 none 0 0 ([]:List M)):=zq λw1 _=>Sl.nil_ w1;rw[<-hNR]at HN HNZ;clear jY lM mG hNR;go_enter func39,ntmps39;go_upto_region 10 with (first
  | ((with_reducible refine(H_.out _ HE.out).mono ?_);rintro r w1 ⟨rfl,aK⟩;have E1:=zq (HE.out.trans aK);have F1:=zq aK;have hx1:=(HX.out.ev aK).lt;have hr1:=(HR.out.ev aK).lt;clear c0 c1 c2 c3 c4;obtain⟨⟨c0,c1,c2,c3,c4⟩,_⟩:=(HX.out.ev aK).five;have yj:=Bx.new 32 ↑Zz.b w1;clear aK)
  | ((with_reducible refine(wX.out _ (E1.out.trans az)).mono ?_);rintro r w2 ⟨rfl,bQ⟩;have F2:=zq ((F1.out.trans az).trans bQ);have BP:=zq (yj.ev bQ);obtain⟨⟨p0,p1,p2,p3,p4,p5,p6,p7⟩,z0,z1,z2,z3,z4,z5,z6,z7⟩:=(yj.ev bQ).eight;clear bQ yj c0 c1 c2 c3 c4;obtain⟨⟨c0,c1,c2,c3,c4⟩,_⟩:=(HX.out.ev F2.out).five))
 obtain⟨wA,zn⟩:∃wA,wA=w2.setCell ⟨w1.heap.size,0,none⟩ (.int .i64 1):=⟨_,rfl⟩
 rw[<-zn];have EJ:Hid (Bx 32 w1.heap.size #[.int .i64 1,.string ⟨#[]⟩,↑(),↑(),↑(),↑(),↑(),↑()] wA):=zq (by rw[zn];have:=BP.out.set 0 (.int .i64 1);simpa using this);have FA:Hid (Ev w0 wA):=zq (by rw[zn];exact F2.out.box (But.setCell _ _ aj) F1.out.size);have EA:Hid (Ev w wA):=zq (HE.out.trans FA.out);clear zn p0 p1 p2 p3 p4 p5 p6 p7 z0 z1 z2 z3 z4 z5 z6 z7 c0 c1 c2 c3 c4;obtain⟨⟨p0,p1,p2,p3,p4,p5,p6,p7⟩,z0,z1,z2,z3,z4,z5,z6,z7⟩:=EJ.out.eight;obtain⟨⟨c0,c1,c2,c3,c4⟩,_⟩:=(HX.out.ev FA.out).five;have hpA:=EJ.out.lt;obtain⟨y0,y1,y2,y3,y4⟩:=Bv.out 0 y rfl _ EA.out;simp only[awL,axn]at y0 y1 y2 y3 y4;go_upto_region 52 with (first
  | ((with_reducible refine(HN.out _).mono ?_);rintro r w3 ⟨rfl,iI⟩;have E3:=zq iI;clear p0 p1 p2 p3 p4 p5 p6 p7 z0 z1 z2 z3 z4 z5 z6 z7;obtain⟨⟨p0,p1,p2,p3,p4,p5,p6,p7⟩,z0,z1,z2,z3,z4,z5,z6,z7⟩:=(EJ.out.ev iI).eight;clear iI))
 obtain⟨wL,DJ⟩:∃wL,wL=w3.setCell ⟨w1.heap.size,1,none⟩ (.string ⟨NR.1.toArray⟩):=⟨_,rfl⟩
 rw[<-DJ];have Gu:Hid (tC w0 w1.heap.size (.mk 1 NR.1 .nil .nil .nil .nil .nil none 0 []) wL):=zq (tC.Zu rfl rfl rfl (by rw[DJ];have:=(EJ.out.ev E3.out).set 1 (.string ⟨NR.1.toArray⟩);simpa[rD,PM.kind,PM.name,PM.ex,PM.co,PM.lf,PM.rt,PM.ag,PM.A,PM.cap,PM.kids,fE.nil] using this) ⟨bg.nil ..,(λe he=>by cases he),bg.nil ..,bg.nil ..,bg.nil ..,bg.nil ..⟩ (by rw[DJ];exact(FA.out.trans E3.out).box (But.setCell _ _ aj) F1.out.size) F1.out.size);clear DJ p0 p1 p2 p3 p4 p5 p6 p7 z0 z1 z2 z3 z4 z5 z6 z7 c0 c1 c2 c3 c4 y0 y1 y2 y3 y4;go_wp2;have qA:=zq (HQ.out w aJ).len;have NW:=(HQ.out w aJ).le;have NY:=(HQ.out w aJ).max
 go_loopw [7,8,16] (λyv av iv wr=>∃(j:Nat) (p:PM) (e:Er),yv=.int .i64 e.1/\av=.int .i64 (e.2:Int)/\iv=↑j/\j<=0/\Hid (sV ([]:List M) NR.2 (.mk 1 NR.1 .nil .nil .nil .nil .nil none 0 []) j p e)/\Hid (tC w0 w1.heap.size p wr)) (λ_ _ iv _=>0 - (intOf iv).toNat)
 case atStart=>exact⟨0,.mk 1 NR.1 .nil .nil .nil .nil .nil none 0 [],NR.2,rfl,rfl,rfl,aww _,zq (sV.start _ _ _ rfl HNZ.out),Gu⟩
 case round=>
  obtain⟨j,p,e,rfl,rfl,rfl,hj,HI,HK⟩:=hrel;have II:=F1.out.size;have IJ:=HR.out.lt;by_cases he:e.1=0;have IK:=(HI.out.ok he).1;subst IK;obtain rfl:j=0:=ae;have wI:Hid (nG PT=(p.p,0,0)):=zq (sV.vV (p0:=.mk 1 NR.1 .nil .nil .nil .nil .nil none 0 []) (by rw[qA.out];exact HI.out) rfl vP.out rC.out);exact ayz;have ZX:(e.1==0)=false:=awg.2 he;have hen:(e.1 !=0)=true:=by simp[he]
  have wI:Hid (nG PT=(ik,e.1,e.2)):=zq (sV.qg HI.out he vP.out);obtain⟨⟨r0,r1,r2,r3,r4,r5,r6,r7⟩,s0,s1,s2,s3,s4,s5,s6,s7⟩:=(HR.out.ev HK.out.ev).eight;have i1:(0:Int)<=(j:Int):=ae;obtain rfl:j=0:=ae
  (
   go_wp2;(try simp only[Exit.inBlock,Exit.then]);rw[bu];obtain⟨f1,f2⟩:=lK (awX w.heap.size) (HE.out.trans HK.out.ev) (HR.out.ev HK.out.ev) (.int .i64 0) (.string ⟨#[]⟩) ↑() ↑() ↑() ↑() ↑() ↑();refine bodyPost_ret (aI rfl _ _ _ _ _ rfl f1 underlying32 rfl Tryz.bG) rfl ?_;rw[wI.out];exact⟨kD,rfl,iD,Qx.zero _ _ _,f2⟩)
theorem N8(m:M)(b0:Nat)(w:ak)(hL:Lies b0 [] w m)(hfair:m.t.every cO=true)(hsz:m.t.size<=10000)(hf:fZ m.t=true)(x:M)(q:List M)(hq:m.kids=x::q)(hs:x.s=d_)
  (ih:∀y∈q,∀w1,Ev w w1->Calls ax 39 #[.agg ↑y] w1 (bH (nG y.t) w1)):
  Calls ax 39 #[.agg ↑m] w (bH (nG m.t) w):=by
 have fD:Tryz.prog.follows .mixedOrders=true:=ah;obtain⟨jY,lM,mG,hm1,hx2,rW⟩:=l_ hq hf;have LX:Lies b0 [w.heap.size] w m:=hL.less λk hk=>by simp at hk;exact .inr (.inr ae)
 obtain⟨b,off,k,c,eY⟩:=vN LX hq rW;have H_:=zq (λw1 (hE:Ev w w1)=>uF m b0 w1 (hL.ev hE));rw[hf]at H_;have wX:=zq (λw1 (hE:Ev w w1)=>kP m b0 w1 (hL.ev hE));have tN:Qd m.t=x.s:=by rw[F_,hq];simp[hm1,M.uJ,lG,hx2]
 rw[tN,hs]at wX;have zy:=zq (λy (hy:y∈q)=>mf hq hy hfair hsz);have Nw:=q_len hq hsz;have Bv:=zq (λi y (hy:q[i]?=some y) w1 (hE:Ev w w1)=>eY.kid (i+1) y (by rw[hq];simpa using hy) w1 (But.aV hE));rw[hs]at jY lM mG;unfold bH at ih|-;obtain⟨PT,uP⟩:∃PT,PT=m.t:=⟨_,rfl⟩
 rw[<-uP]at jY lM|-;have hA:=eY.hA;have hn:=eY.hn;have hc:=eY.hc;have tJ:=eY.tJ;have hcm:=eY.hcm;have mO:=eY.mO;have hbl:b<w.heap.size:=(eY.Bq w (But.refl _ _) off _ rfl).2.1;have oZ:=zq eY;clear eY uP hq hL LX hfair hsz rW hf hx2 tN;generalize Ah:m.kids.length=kn at*;generalize wH:m.A=mA at*;generalize EC:m.cap=mc at*;generalize qf:m.kind=kd at*;generalize hs_:m.s=ms at*;generalize wG:m.n=mn at*;generalize ED:m.pos=mp at*;clear Ah wH EC qf hs_ wG ED;subst hm1 hA hn hc;obtain⟨w0,hw0,aW,hX,hR⟩:=EH w (.int .i64 1) ↑ms ↑mn (.slice ↑(b,off) (k+2) (c+2)) ↑mp;have HX:=zq hX;have HR:=zq hR;have HE:=zq aW;have mP:=zq ih;unfold d_ at*;obtain⟨⟨c0,c1,c2,c3,c4⟩,_⟩:=hX.five;clear hX hR aW ih hs;have hk2:q.length=2:=by exact aBc
 obtain rfl:k=1:=ae;have ZY:=zq (λy (hy:y∈q)=>(zy.out y hy).1);obtain⟨y,z,rfl⟩:=wU hk2;obtain⟨qp,rfl⟩:∃c1,c=c1+1:=⟨c - 1,ae⟩
 obtain⟨XR,hXR⟩:∃XR,XR=xRead y.t:=⟨_,rfl⟩
 have HNZ:Hid (XR.2.1=0->XR.2=(0,0)):=zq (by rw[hXR];exact Am y.t);have rC:Hid ((bf PT).1=0->pPlan PT=.mk 2 [] [XR.1] [] [] [] [] ([z].map λy=>pPlan y.t)):=zq (λ_=>by rw[jY,hXR];rfl);have vP:Hid (bf PT=fO XR.2 (aT ([z].map λy=>bf y.t))):=zq (by
  rw[lM];show aT (jU y.t::[bf z.t])=_;rw[xw (Am y.t),hXR];rfl)
 have QA:=zq (λw1 (hE:Ev w w1)=>Xr y.dep y b0 w1 (awj _) (((oZ.out.lies y aj w (But.refl _ _)).less λk hk=>by cases hk).ev hE) (ZY.out y aj) (by have:=(zy.out y aj).2;omega));have HQ:Hid (∀w1,Ev w w1->Ms w1 ↑(b,off+10) 1 (qp+1) [z]):=zq λw1 hE=>(oZ.out.rest w1 (But.aV hE)).next ae ae
 have Rj:Hid (∀y_∈[z],y_∈[y,z]):=zq λy_ hy=>by simp at hy;simp[hy]
 unfold BK mv M.kv at QA;rw[<-hXR]at QA;clear jY lM mG hXR;go_enter func39,ntmps39;go_upto_region 13 with (first
  | ((with_reducible refine(H_.out _ HE.out).mono ?_);rintro r w1 ⟨rfl,aK⟩;have E1:=zq (HE.out.trans aK);have F1:=zq aK;have hx1:=(HX.out.ev aK).lt;have hr1:=(HR.out.ev aK).lt;clear c0 c1 c2 c3 c4;obtain⟨⟨c0,c1,c2,c3,c4⟩,_⟩:=(HX.out.ev aK).five;have yj:=Bx.new 32 ↑Zz.b w1;clear aK)
  | ((with_reducible refine(wX.out _ (E1.out.trans az)).mono ?_);rintro r w2 ⟨rfl,bQ⟩;have F2:=zq ((F1.out.trans az).trans bQ);have BP:=zq (yj.ev bQ);obtain⟨⟨p0,p1,p2,p3,p4,p5,p6,p7⟩,z0,z1,z2,z3,z4,z5,z6,z7⟩:=(yj.ev bQ).eight;clear bQ yj c0 c1 c2 c3 c4;obtain⟨⟨c0,c1,c2,c3,c4⟩,_⟩:=(HX.out.ev F2.out).five))
 obtain⟨wA,zn⟩:∃wA,wA=w2.setCell ⟨w1.heap.size,0,none⟩ (.int .i64 2):=⟨_,rfl⟩
 rw[<-zn];have EJ:Hid (Bx 32 w1.heap.size #[.int .i64 2,.string ⟨#[]⟩,↑(),↑(),↑(),↑(),↑(),↑()] wA):=zq (by rw[zn];have:=BP.out.set 0 (.int .i64 2);simpa using this);have FA:Hid (Ev w0 wA):=zq (by rw[zn];exact F2.out.box (But.setCell _ _ aj) F1.out.size);have EA:Hid (Ev w wA):=zq (HE.out.trans FA.out);clear zn p0 p1 p2 p3 p4 p5 p6 p7 z0 z1 z2 z3 z4 z5 z6 z7 c0 c1 c2 c3 c4;obtain⟨⟨p0,p1,p2,p3,p4,p5,p6,p7⟩,z0,z1,z2,z3,z4,z5,z6,z7⟩:=EJ.out.eight;obtain⟨⟨c0,c1,c2,c3,c4⟩,_⟩:=(HX.out.ev FA.out).five;have hpA:=EJ.out.lt;obtain⟨y0,y1,y2,y3,y4⟩:=Bv.out 0 y rfl _ EA.out;simp only[awL,axn]at y0 y1 y2 y3 y4;have hBE:=Bx.new 47 ↑Zz.e wA;have Ri:b<wA.heap.size:=awz hbl EA.out.size;go_upto_region 15 with (first
  | ((with_reducible refine(QA.out _ (EA.out.trans az)).mono ?_);rintro r w3 ⟨x,rfl,jI,iJ,iI⟩;have qj:=zq jI;have qC:=zq iJ;have E3:=zq ((Ev.alloc wA _).trans iI);have HBE:=zq (hBE.ev iI);obtain⟨⟨u0,u1,u2,u3⟩,v0,v1,v2,v3⟩:=HBE.out.four;clear jI iJ iI hBE))
 rw[dK];obtain⟨wB,Zv⟩:∃wB,wB=kG wA.heap.size ↑x.kind ↑x.s ↑x.n (.slice x.A x.kids.length x.cap) w3:=⟨_,rfl⟩
 rw[<-Zv];have hS4:=eP wA.heap.size ↑x.kind ↑x.s ↑x.n (.slice x.A x.kids.length x.cap) w3;have EZ:=HBE.out.kG ↑x.kind ↑x.s ↑x.n (.slice x.A x.kids.length x.cap);have iw:=E3.out.box hS4 (awj _);have ag8:=Gm qC.out hS4 (λk hk=>by simp at hk;simp;omega);rw[<-Zv]at EZ iw ag8;have aop:=zq ag8;have EB:=zq iw;clear u0 u1 u2 u3 v0 v1 v2 v3 p0 p1 p2 p3 p4 p5 p6 p7 z0 z1 z2 z3 z4 z5 z6 z7 y0 y1 y2 y3 y4 c0 c1 c2 c3 c4;obtain⟨⟨u0,u1,u2,u3⟩,_⟩:=EZ.four;obtain⟨⟨p0,p1,p2,p3,p4,p5,p6,p7⟩,z0,z1,z2,z3,z4,z5,z6,z7⟩:=(EJ.out.ev iw).eight;have hpB:=(EJ.out.ev iw).lt;have aut:=iw.size;clear Zv hS4 EZ iw ag8;go_upto_region 52 with fail
 obtain⟨wC,hwC⟩:∃wC,wC=wB.setCell ⟨w1.heap.size,2,none⟩ (.slice ↑wB.heap.size 1 1):=⟨_,rfl⟩
 have akd:wC.heap.size=wB.heap.size:=by rw[hwC];simp
 obtain⟨wL,DJ⟩:∃wL,wL=wC.alloc (.cells ↑(x,()) 47):=⟨_,rfl⟩
 rw[<-hwC,<-DJ];have Iz:But [w1.heap.size] wB wC:=by rw[hwC];exact But.setCell _ _ aj
 have hS1:=Sl.one (et:=47) xU wC x ↑(x,()) rfl;rw[<-DJ,akd]at hS1;have hEL:Ev wC wL:=by rw[DJ];exact Ev.alloc _ _
 have auu:wL.heap.size=wB.heap.size+1:=by rw[DJ];simp[akd]
 have Gu:Hid (tC w0 w1.heap.size (.mk 2 [] ⟨some ⟨wB.heap.size,0,none⟩,1,[x]⟩ .nil .nil .nil .nil none 0 []) wL):=zq (tC.Zu rfl rfl rfl (by refine Bx.ev ?_ hEL;rw[hwC];have:=(EJ.out.ev EB.out).set 2 (.slice ↑wB.heap.size 1 1);simpa[rD,PM.kind,PM.name,PM.ex,PM.co,PM.lf,PM.rt,PM.ag,PM.A,PM.cap,PM.kids,fE.nil] using this)
  ⟨⟨hS1,λad ea=>by cases ea;exact⟨by show w1.heap.size+1<=wB.heap.size;omega,by show wB.heap.size<wL.heap.size;omega,aj⟩⟩,(λe he=>by have he:e∈[x]:=he;simp at he;subst he;exact((Gm aop.out Iz (λk hk=>by simp at hk;first|omega|(simp;omega))).ev hEL).low (by first|omega|(simp;omega))),bg.nil ..,bg.nil ..,bg.nil ..,bg.nil ..⟩ (((FA.out.trans EB.out).box Iz F1.out.size).trans hEL) F1.out.size)
 have rC:Hid ((bf PT).1=0->pPlan PT=.mk 2 [] [x.t] [] [] [] [] ([z].map λy=>pPlan y.t)):=zq (λh=>by rw[rC.out h,qj.out]);clear DJ hwC hS1 hEL Iz p0 p1 p2 p3 p4 p5 p6 p7 z0 z1 z2 z3 z4 z5 z6 z7 u0 u1 u2 u3;go_wp2;have O0:=zq (λy (hy:y∈[z]) w1 (hE:Ev w w1)=>mP.out y (Rj.out y hy) w1 hE);have qA:=zq (HQ.out w aJ).len;have NW:=(HQ.out w aJ).le;have NY:=(HQ.out w aJ).max
 go_loopw [7,8,16] (λyv av iv wr=>∃(j:Nat) (p:PM) (e:Er),yv=.int .i64 e.1/\av=.int .i64 (e.2:Int)/\iv=↑j/\j<=1/\Hid (sV [z] XR.2 (.mk 2 [] ⟨some ⟨wB.heap.size,0,none⟩,1,[x]⟩ .nil .nil .nil .nil none 0 []) j p e)/\Hid (tC w0 w1.heap.size p wr)) (λ_ _ iv _=>1 - (intOf iv).toNat)
 case atStart=>exact⟨0,.mk 2 [] ⟨some ⟨wB.heap.size,0,none⟩,1,[x]⟩ .nil .nil .nil .nil none 0 [],XR.2,rfl,rfl,rfl,aww _,zq (sV.start _ _ _ rfl HNZ.out),Gu⟩
 case round=>
  obtain⟨j,p,e,rfl,rfl,rfl,hj,HI,HK⟩:=hrel;have II:=F1.out.size;have IJ:=HR.out.lt;by_cases he:e.1=0;have IK:=(HI.out.ok he).1;subst IK;by_cases hlt:j<1;exact ax_;obtain rfl:j=1:=ae;have wI:Hid (nG PT=(p.p,0,0)):=zq (sV.vV (p0:=.mk 2 [] ⟨some ⟨wB.heap.size,0,none⟩,1,[x]⟩ .nil .nil .nil .nil none 0 []) (by rw[qA.out];exact HI.out) rfl vP.out rC.out);exact ayz;exact ayr
theorem Ul{α:Type}{l:List α}(h:l.length=4):∃a b c d,l=[a,b,c,d]:=by
 match l,h with
 | [a,b,c,d],_=>exact⟨a,b,c,d,rfl⟩
theorem nH(l:List T):(zt l).2=aT (l.map bF):=by unfold zt;split;rename_i h;exact(Ak _ h).symm;rfl
theorem vX(l:List T)(h:(zt l).2.1=0):(zt l).1=l.map T.s:=by rw[nH]at h;unfold zt;rw[if_pos h]
theorem vY{a:Er}(h:a.1≠0)(b:Er):fO a b=a:=by unfold fO;simp[h]
theorem yt{y:M}(h:y.t.size<=10000):y.kids.length<=10000:=by have h1:=T.size_eq y.t;have h2:=jS y.t.kids;rw[M.aZ,awh]at h2;rw[M.aZ]at h1;omega
theorem rE{y:M}(h:y.t.every cO=true):∀x∈y.kids,x.s.length<=1000000:=λx hx=>by rw[T.gz,awk]at h;have h1:=awF.1 h.2 x.t (by rw[M.aZ];exact awN.2 ⟨x,hx,rfl⟩);rw[T.gz,awk]at h1;have h2:=h1.1;rw[M.rV]at h2;have:=(pK h2).2;omega
theorem aAF(h:U:=by have h1:((q.map M.t).length==4&&((q.map M.t).take 2).all dH)=true:=mG;rw[awk,awx,awh]at h1;exact h1.1):U:=h
theorem aAp(h:U:=by rw[lM];show aT ((l1.t).kids.map bF++((l2.t).kids.map bF++[bf y1.t,bf y2.t]))=_;rw[jE,jE,M.aZ,M.aZ,QS,UJ,nH,nH];rfl):U:=h
theorem azb(h:U:=by rw[jY];show Pl.mk 4 [] [] [] ((l1.t).kids.map T.s) ((l2.t).kids.map T.s) [] _=_;rw[M.aZ,M.aZ,awy,awy,show l1.kids.map (T.s ∘ M.t)=l1.kids.map M.s from aw1 λx _=>M.uJ x,show l2.kids.map (T.s ∘ M.t)=l2.kids.map M.s from aw1 λx _=>M.uJ x];rfl):U:=h
theorem Mc(m:M)(b0:Nat)(w:ak)(hL:Lies b0 [] w m)(hfair:m.t.every cO=true)(hsz:m.t.size<=10000)(hf:fZ m.t=true)(x:M)(q:List M)(hq:m.kids=x::q)(hs:x.s=gB)(hl:∀l r,q=l::r->(zt (l.kids.map M.t)).2.1≠0)
  (ih:∀y∈q,∀w1,Ev w w1->Calls ax 39 #[.agg ↑y] w1 (bH (nG y.t) w1)):
  Calls ax 39 #[.agg ↑m] w (bH (nG m.t) w):=by
 have fD:Tryz.prog.follows .mixedOrders=true:=ah;obtain⟨jY,lM,mG,hm1,hx2,rW⟩:=l_ hq hf;have LX:Lies b0 [w.heap.size] w m:=hL.less λk hk=>by simp at hk;exact .inr (.inr ae)
 obtain⟨b,off,k,c,eY⟩:=vN LX hq rW;have H_:=zq (λw1 (hE:Ev w w1)=>uF m b0 w1 (hL.ev hE));rw[hf]at H_;have wX:=zq (λw1 (hE:Ev w w1)=>kP m b0 w1 (hL.ev hE));have tN:Qd m.t=x.s:=by rw[F_,hq];simp[hm1,M.uJ,lG,hx2]
 rw[tN,hs]at wX;have zy:=zq (λy (hy:y∈q)=>mf hq hy hfair hsz);have Nw:=q_len hq hsz;have Bv:=zq (λi y (hy:q[i]?=some y) w1 (hE:Ev w w1)=>eY.kid (i+1) y (by rw[hq];simpa using hy) w1 (But.aV hE));rw[hs]at jY lM mG;unfold bH at ih|-;obtain⟨PT,uP⟩:∃PT,PT=m.t:=⟨_,rfl⟩
 rw[<-uP]at jY lM|-;have hA:=eY.hA;have hn:=eY.hn;have hc:=eY.hc;have tJ:=eY.tJ;have hcm:=eY.hcm;have mO:=eY.mO;have hbl:b<w.heap.size:=(eY.Bq w (But.refl _ _) off _ rfl).2.1;have oZ:=zq eY;clear eY uP hq hL LX hfair hsz rW hf hx2 tN;generalize Ah:m.kids.length=kn at*;generalize wH:m.A=mA at*;generalize EC:m.cap=mc at*;generalize qf:m.kind=kd at*;generalize hs_:m.s=ms at*;generalize wG:m.n=mn at*;generalize ED:m.pos=mp at*;clear Ah wH EC qf hs_ wG ED;subst hm1 hA hn hc;obtain⟨w0,hw0,aW,hX,hR⟩:=EH w (.int .i64 1) ↑ms ↑mn (.slice ↑(b,off) (k+2) (c+2)) ↑mp;have HX:=zq hX;have HR:=zq hR;have HE:=zq aW;have mP:=zq ih;unfold gB at*;obtain⟨⟨c0,c1,c2,c3,c4⟩,_⟩:=hX.five;clear hX hR aW ih hs;have hk2:q.length=4:=by exact aAF
 obtain rfl:k=3:=ae;have ZY:=zq (λy (hy:y∈q)=>(zy.out y hy).1);obtain⟨l1,l2,y1,y2,rfl⟩:=Ul hk2;obtain⟨qp,rfl⟩:∃c1,c=c1+3:=⟨c - 3,ae⟩
 have hl:=hl _ _ rfl;obtain⟨N1,QS⟩:∃N1,N1=zt (l1.kids.map M.t):=⟨_,rfl⟩
 obtain⟨N2,UJ⟩:∃N2,N2=zt (l2.kids.map M.t):=⟨_,rfl⟩
 have hz1:N1.2.1=0->N1.2=(0,0):=by rw[QS,nH];exact yl _
 have hz2:N2.2.1=0->N2.2=(0,0):=by rw[UJ,nH];exact yl _
 have N9:bf PT=fO N1.2 (fO N2.2 (aT ([y1,y2].map λy=>bf y.t))):=by exact aAp
 have WM:pPlan PT=.mk 4 [] [] [] (l1.kids.map M.s) (l2.kids.map M.s) [] ([y1,y2].map λy=>pPlan y.t):=by exact azb
 have rH:N1.2.1=0->N1.1=l1.kids.map M.s:=λh=>by rw[QS]at h|-;rw[vX _ h,awy];exact aw1 λx _=>M.uJ x
 have Jq:N2.2.1=0->N2.1=l2.kids.map M.s:=λh=>by rw[UJ]at h|-;rw[vX _ h,awy];exact aw1 λx _=>M.uJ x
 rw[<-QS]at hl;have Gy:=zq (λw1 (hE:Ev w w1)=>Ae l1.kids l1.A l1.kids.length l1.cap w1 ((oZ.out.lies l1 aj w (But.refl _ _)).ms.ev hE) (by have:=yt (zy.out l1 aj).2;omega) (rE (ZY.out l1 aj)));have WN:=zq (λw1 (hE:Ev w w1)=>Ae l2.kids l2.A l2.kids.length l2.cap w1 ((oZ.out.lies l2 aj w (But.refl _ _)).ms.ev hE) (by have:=yt (zy.out l2 aj).2;omega) (rE (ZY.out l2 aj)));have HQ:Hid (∀w1,Ev w w1->Ms w1 ↑(b,off+15) 2 (qp+2) [y1,y2]):=zq λw1 hE=>((oZ.out.rest w1 (But.aV hE)).next (n:=3) (c:=qp+3) ae ae).next (n:=2) (c:=qp+2) ae ae |> λh=>by exact h
 have Rj:Hid (∀y_∈[y1,y2],y_∈[l1,l2,y1,y2]):=zq λy_ hy=>by simp at hy|-;rcases hy with rfl|rfl<;>simp
 unfold Qq at Gy WN;rw[<-QS]at Gy;rw[<-UJ]at WN;clear jY lM mG QS UJ;have rC:Hid ((bf PT).1=0->pPlan PT=.mk 4 [] [] [] N1.1 [] [] ([y1,y2].map λy=>pPlan y.t)):=zq (λh=>by rw[N9,vY hl]at h;exact absurd h hl);have vP:Hid (bf PT=fO N1.2 (aT ([y1,y2].map λy=>bf y.t))):=zq (by rw[N9,vY hl,vY hl]);have hlb:(N1.2.1==0)=false:=awg.2 hl;have HL:=zq hl;clear N9 WM rH Jq hz1 hz2 hl WN;go_enter func39,ntmps39;go_upto_region 32 with (first
  | ((with_reducible refine(H_.out _ HE.out).mono ?_);rintro r w1 ⟨rfl,aK⟩;have E1:=zq (HE.out.trans aK);have F1:=zq aK;have hx1:=(HX.out.ev aK).lt;have hr1:=(HR.out.ev aK).lt;clear c0 c1 c2 c3 c4;obtain⟨⟨c0,c1,c2,c3,c4⟩,_⟩:=(HX.out.ev aK).five;have yj:=Bx.new 32 ↑Zz.b w1;clear aK)
  | ((with_reducible refine(wX.out _ (E1.out.trans az)).mono ?_);rintro r w2 ⟨rfl,bQ⟩;have F2:=zq ((F1.out.trans az).trans bQ);have BP:=zq (yj.ev bQ);obtain⟨⟨p0,p1,p2,p3,p4,p5,p6,p7⟩,z0,z1,z2,z3,z4,z5,z6,z7⟩:=(yj.ev bQ).eight;clear bQ yj c0 c1 c2 c3 c4;obtain⟨⟨c0,c1,c2,c3,c4⟩,_⟩:=(HX.out.ev F2.out).five))
 obtain⟨wA,zn⟩:∃wA,wA=w2.setCell ⟨w1.heap.size,0,none⟩ (.int .i64 4):=⟨_,rfl⟩
 rw[<-zn];have EJ:Hid (Bx 32 w1.heap.size #[.int .i64 4,.string ⟨#[]⟩,↑(),↑(),↑(),↑(),↑(),↑()] wA):=zq (by rw[zn];have:=BP.out.set 0 (.int .i64 4);simpa using this);have FA:Hid (Ev w0 wA):=zq (by rw[zn];exact F2.out.box (But.setCell _ _ aj) F1.out.size);have EA:Hid (Ev w wA):=zq (HE.out.trans FA.out);clear zn p0 p1 p2 p3 p4 p5 p6 p7 z0 z1 z2 z3 z4 z5 z6 z7 c0 c1 c2 c3 c4;obtain⟨⟨p0,p1,p2,p3,p4,p5,p6,p7⟩,z0,z1,z2,z3,z4,z5,z6,z7⟩:=EJ.out.eight;obtain⟨⟨c0,c1,c2,c3,c4⟩,_⟩:=(HX.out.ev FA.out).five;have hpA:=EJ.out.lt;obtain⟨y0,y1_,y2_,y3,y4⟩:=Bv.out 0 l1 rfl _ EA.out;simp only[awL,axn]at y3;clear y0 y1_ y2_ y4;go_upto_region 52 with (first
  | ((with_reducible refine(Gy.out _ EA.out).mono ?_);rintro r w3 ⟨X1,rfl,wK,yw,iI⟩;have ab_:=zq wK;have aca:=zq yw;have E3:=zq iI;clear p0 p1 p2 p3 p4 p5 p6 p7 z0 z1 z2 z3 z4 z5 z6 z7;obtain⟨⟨p0,p1,p2,p3,p4,p5,p6,p7⟩,z0,z1,z2,z3,z4,z5,z6,z7⟩:=(EJ.out.ev iI).eight;clear iI wK yw))
 obtain⟨wL,DJ⟩:∃wL,wL=w3.setCell ⟨w1.heap.size,4,none⟩ (.slice X1.A X1.l.length X1.cap):=⟨_,rfl⟩
 rw[<-DJ];have Iz:But [w1.heap.size] w3 wL:=by rw[DJ];exact But.setCell _ _ aj
 have Gu:Hid (tC w0 w1.heap.size (.mk 4 [] .nil .nil X1 .nil .nil none 0 []) wL):=zq (tC.Zu rfl rfl rfl (by rw[DJ];have:=(EJ.out.ev E3.out).set 4 (.slice X1.A X1.l.length X1.cap);simpa[rD,PM.kind,PM.name,PM.ex,PM.co,PM.lf,PM.rt,PM.ag,PM.A,PM.cap,PM.kids,fE.nil] using this) ⟨bg.nil ..,(λe he=>by cases he),bg.nil ..,(pW aca.out Iz (λk hk=>by simp at hk;omega)).low hpA,bg.nil ..,bg.nil ..⟩ ((FA.out.trans E3.out).box Iz F1.out.size) F1.out.size);have rC:Hid ((bf PT).1=0->pPlan PT=.mk 4 [] [] [] X1.l [] [] ([y1,y2].map λy=>pPlan y.t)):=zq (λh=>by rw[rC.out h,ab_.out]);clear DJ Iz p0 p1 p2 p3 p4 p5 p6 p7 z0 z1 z2 z3 z4 z5 z6 z7 c0 c1 c2 c3 c4 y3 hlb;go_wp2;have O0:=zq (λy (hy:y∈[y1,y2]) w1 (hE:Ev w w1)=>mP.out y (Rj.out y hy) w1 hE);have qA:=zq (HQ.out w aJ).len;have NW:=(HQ.out w aJ).le;have NY:=(HQ.out w aJ).max
 go_loopw [7,8,16] (λyv av iv wr=>∃(j:Nat) (p:PM) (e:Er),yv=.int .i64 e.1/\av=.int .i64 (e.2:Int)/\iv=↑j/\j<=2/\Hid (sV [y1,y2] N1.2 (.mk 4 [] .nil .nil X1 .nil .nil none 0 []) j p e)/\Hid (tC w0 w1.heap.size p wr)) (λ_ _ iv _=>2 - (intOf iv).toNat)
 case atStart=>exact⟨0,.mk 4 [] .nil .nil X1 .nil .nil none 0 [],N1.2,rfl,rfl,rfl,aww _,zq (sV.start _ _ _ rfl (λh=>absurd h HL.out)),Gu⟩
 case round=>
  obtain⟨j,p,e,rfl,rfl,rfl,hj,HI,HK⟩:=hrel;have II:=F1.out.size;have IJ:=HR.out.lt;by_cases he:e.1=0;have IK:=(HI.out.ok he).1;subst IK;by_cases hlt:j<2;exact ax9;obtain rfl:j=2:=ae;have wI:Hid (nG PT=(p.p,0,0)):=zq (sV.vV (p0:=.mk 4 [] .nil .nil X1 .nil .nil none 0 []) (by rw[qA.out];exact HI.out) rfl vP.out rC.out);exact ayz;exact ayq
theorem N_(m:M)(b0:Nat)(w:ak)(hL:Lies b0 [] w m)(hfair:m.t.every cO=true)(hsz:m.t.size<=10000)(hf:fZ m.t=true)(x:M)(q:List M)(hq:m.kids=x::q)(hs:x.s=gB)(hl:∀l r,q=l::r->(zt (l.kids.map M.t)).2.1=0)
  (ih:∀y∈q,∀w1,Ev w w1->Calls ax 39 #[.agg ↑y] w1 (bH (nG y.t) w1)):
  Calls ax 39 #[.agg ↑m] w (bH (nG m.t) w):=by
 have fD:Tryz.prog.follows .mixedOrders=true:=ah;obtain⟨jY,lM,mG,hm1,hx2,rW⟩:=l_ hq hf;have LX:Lies b0 [w.heap.size] w m:=hL.less λk hk=>by simp at hk;exact .inr (.inr ae)
 obtain⟨b,off,k,c,eY⟩:=vN LX hq rW;have H_:=zq (λw1 (hE:Ev w w1)=>uF m b0 w1 (hL.ev hE));rw[hf]at H_;have wX:=zq (λw1 (hE:Ev w w1)=>kP m b0 w1 (hL.ev hE));have tN:Qd m.t=x.s:=by rw[F_,hq];simp[hm1,M.uJ,lG,hx2]
 rw[tN,hs]at wX;have zy:=zq (λy (hy:y∈q)=>mf hq hy hfair hsz);have Nw:=q_len hq hsz;have Bv:=zq (λi y (hy:q[i]?=some y) w1 (hE:Ev w w1)=>eY.kid (i+1) y (by rw[hq];simpa using hy) w1 (But.aV hE));rw[hs]at jY lM mG;unfold bH at ih|-;obtain⟨PT,uP⟩:∃PT,PT=m.t:=⟨_,rfl⟩
 rw[<-uP]at jY lM|-;have hA:=eY.hA;have hn:=eY.hn;have hc:=eY.hc;have tJ:=eY.tJ;have hcm:=eY.hcm;have mO:=eY.mO;have hbl:b<w.heap.size:=(eY.Bq w (But.refl _ _) off _ rfl).2.1;have oZ:=zq eY;clear eY uP hq hL LX hfair hsz rW hf hx2 tN;generalize Ah:m.kids.length=kn at*;generalize wH:m.A=mA at*;generalize EC:m.cap=mc at*;generalize qf:m.kind=kd at*;generalize hs_:m.s=ms at*;generalize wG:m.n=mn at*;generalize ED:m.pos=mp at*;clear Ah wH EC qf hs_ wG ED;subst hm1 hA hn hc;obtain⟨w0,hw0,aW,hX,hR⟩:=EH w (.int .i64 1) ↑ms ↑mn (.slice ↑(b,off) (k+2) (c+2)) ↑mp;have HX:=zq hX;have HR:=zq hR;have HE:=zq aW;have mP:=zq ih;unfold gB at*;obtain⟨⟨c0,c1,c2,c3,c4⟩,_⟩:=hX.five;clear hX hR aW ih hs;have hk2:q.length=4:=by exact aAF
 obtain rfl:k=3:=ae;have ZY:=zq (λy (hy:y∈q)=>(zy.out y hy).1);obtain⟨l1,l2,y1,y2,rfl⟩:=Ul hk2;obtain⟨qp,rfl⟩:∃c1,c=c1+3:=⟨c - 3,ae⟩
 have hl:=hl _ _ rfl;obtain⟨N1,QS⟩:∃N1,N1=zt (l1.kids.map M.t):=⟨_,rfl⟩
 obtain⟨N2,UJ⟩:∃N2,N2=zt (l2.kids.map M.t):=⟨_,rfl⟩
 have hz1:N1.2.1=0->N1.2=(0,0):=by rw[QS,nH];exact yl _
 have hz2:N2.2.1=0->N2.2=(0,0):=by rw[UJ,nH];exact yl _
 have N9:bf PT=fO N1.2 (fO N2.2 (aT ([y1,y2].map λy=>bf y.t))):=by exact aAp
 have WM:pPlan PT=.mk 4 [] [] [] (l1.kids.map M.s) (l2.kids.map M.s) [] ([y1,y2].map λy=>pPlan y.t):=by exact azb
 have rH:N1.2.1=0->N1.1=l1.kids.map M.s:=λh=>by rw[QS]at h|-;rw[vX _ h,awy];exact aw1 λx _=>M.uJ x
 have Jq:N2.2.1=0->N2.1=l2.kids.map M.s:=λh=>by rw[UJ]at h|-;rw[vX _ h,awy];exact aw1 λx _=>M.uJ x
 rw[<-QS]at hl;have Gy:=zq (λw1 (hE:Ev w w1)=>Ae l1.kids l1.A l1.kids.length l1.cap w1 ((oZ.out.lies l1 aj w (But.refl _ _)).ms.ev hE) (by have:=yt (zy.out l1 aj).2;omega) (rE (ZY.out l1 aj)));have WN:=zq (λw1 (hE:Ev w w1)=>Ae l2.kids l2.A l2.kids.length l2.cap w1 ((oZ.out.lies l2 aj w (But.refl _ _)).ms.ev hE) (by have:=yt (zy.out l2 aj).2;omega) (rE (ZY.out l2 aj)));have HQ:Hid (∀w1,Ev w w1->Ms w1 ↑(b,off+15) 2 (qp+2) [y1,y2]):=zq λw1 hE=>((oZ.out.rest w1 (But.aV hE)).next (n:=3) (c:=qp+3) ae ae).next (n:=2) (c:=qp+2) ae ae |> λh=>by exact h
 have Rj:Hid (∀y_∈[y1,y2],y_∈[l1,l2,y1,y2]):=zq λy_ hy=>by simp at hy|-;rcases hy with rfl|rfl<;>simp
 unfold Qq at Gy WN;rw[<-QS]at Gy;rw[<-UJ]at WN;clear jY lM mG QS UJ;have hz:=hz1 hl;have vP:Hid (bf PT=fO N2.2 (aT ([y1,y2].map λy=>bf y.t))):=zq (by rw[N9,hz,<-AL,Gx hz2]);have rC:Hid ((bf PT).1=0->pPlan PT=.mk 4 [] [] [] N1.1 N2.1 [] ([y1,y2].map λy=>pPlan y.t)):=zq (λh=>by
  rw[N9,uq,uq]at h;rw[WM,rH h.1,Jq h.2.1])
 have HZ2:=zq hz2;rw[hz]at Gy;simp only at Gy;clear N9 WM rH Jq hz1 hz2 hl hz;go_enter func39,ntmps39;go_upto_region 32 with (first
  | ((with_reducible refine(H_.out _ HE.out).mono ?_);rintro r w1 ⟨rfl,aK⟩;have E1:=zq (HE.out.trans aK);have F1:=zq aK;have hx1:=(HX.out.ev aK).lt;have hr1:=(HR.out.ev aK).lt;clear c0 c1 c2 c3 c4;obtain⟨⟨c0,c1,c2,c3,c4⟩,_⟩:=(HX.out.ev aK).five;have yj:=Bx.new 32 ↑Zz.b w1;clear aK)
  | ((with_reducible refine(wX.out _ (E1.out.trans az)).mono ?_);rintro r w2 ⟨rfl,bQ⟩;have F2:=zq ((F1.out.trans az).trans bQ);have BP:=zq (yj.ev bQ);obtain⟨⟨p0,p1,p2,p3,p4,p5,p6,p7⟩,z0,z1,z2,z3,z4,z5,z6,z7⟩:=(yj.ev bQ).eight;clear bQ yj c0 c1 c2 c3 c4;obtain⟨⟨c0,c1,c2,c3,c4⟩,_⟩:=(HX.out.ev F2.out).five))
 obtain⟨wA,zn⟩:∃wA,wA=w2.setCell ⟨w1.heap.size,0,none⟩ (.int .i64 4):=⟨_,rfl⟩
 rw[<-zn];have EJ:Hid (Bx 32 w1.heap.size #[.int .i64 4,.string ⟨#[]⟩,↑(),↑(),↑(),↑(),↑(),↑()] wA):=zq (by rw[zn];have:=BP.out.set 0 (.int .i64 4);simpa using this);have FA:Hid (Ev w0 wA):=zq (by rw[zn];exact F2.out.box (But.setCell _ _ aj) F1.out.size);have EA:Hid (Ev w wA):=zq (HE.out.trans FA.out);clear zn p0 p1 p2 p3 p4 p5 p6 p7 z0 z1 z2 z3 z4 z5 z6 z7 c0 c1 c2 c3 c4;obtain⟨⟨p0,p1,p2,p3,p4,p5,p6,p7⟩,z0,z1,z2,z3,z4,z5,z6,z7⟩:=EJ.out.eight;obtain⟨⟨c0,c1,c2,c3,c4⟩,_⟩:=(HX.out.ev FA.out).five;have hpA:=EJ.out.lt;obtain⟨y0,y1_,y2_,y3,y4⟩:=Bv.out 0 l1 rfl _ EA.out;simp only[awL,axn]at y3;clear y0 y1_ y2_ y4;go_upto_region 34 with (first
  | ((with_reducible refine(Gy.out _ EA.out).mono ?_);rintro r w3 ⟨X1,rfl,wK,yw,iI⟩;have ab_:=zq wK;have aca:=zq yw;have E3:=zq iI;clear p0 p1 p2 p3 p4 p5 p6 p7 z0 z1 z2 z3 z4 z5 z6 z7;obtain⟨⟨p0,p1,p2,p3,p4,p5,p6,p7⟩,z0,z1,z2,z3,z4,z5,z6,z7⟩:=(EJ.out.ev iI).eight;clear iI wK yw))
 obtain⟨wB,Zv⟩:∃wB,wB=w3.setCell ⟨w1.heap.size,4,none⟩ (.slice X1.A X1.l.length X1.cap):=⟨_,rfl⟩
 rw[<-Zv];have Iz:But [w1.heap.size] w3 wB:=by rw[Zv];exact But.setCell _ _ aj
 have BPB:Hid (Bx 32 w1.heap.size #[.int .i64 4,.string ⟨#[]⟩,↑(),↑(),.slice X1.A X1.l.length X1.cap,↑(),↑(),↑()] wB):=zq (by rw[Zv];have:=(EJ.out.ev E3.out).set 4 (.slice X1.A X1.l.length X1.cap);simpa using this);have FB:Hid (Ev w0 wB):=zq ((FA.out.trans E3.out).box Iz F1.out.size);have EB:Hid (Ev w wB):=zq (HE.out.trans FB.out);have HXB:=zq (pW aca.out Iz (λk hk=>by simp at hk;omega));clear Zv Iz p0 p1 p2 p3 p4 p5 p6 p7 z0 z1 z2 z3 z4 z5 z6 z7 c0 c1 c2 c3 c4 y3;obtain⟨⟨p0,p1,p2,p3,p4,p5,p6,p7⟩,z0,z1,z2,z3,z4,z5,z6,z7⟩:=BPB.out.eight;obtain⟨⟨c0,c1,c2,c3,c4⟩,_⟩:=(HX.out.ev FB.out).five;obtain⟨y0,y1_,y2_,y3,y4⟩:=Bv.out 1 l2 rfl _ EB.out;simp only[show (1+1)*5=10 from rfl]at y3;have hpB:=BPB.out.lt;clear y0 y1_ y2_ y4;go_upto_region 52 with (first
  | ((with_reducible refine(WN.out _ EB.out).mono ?_);rintro r w4 ⟨X2,rfl,wK,yw,iI⟩;have aoq:=zq wK;have aor:=zq yw;have E4:=zq iI;clear p0 p1 p2 p3 p4 p5 p6 p7 z0 z1 z2 z3 z4 z5 z6 z7;obtain⟨⟨p0,p1,p2,p3,p4,p5,p6,p7⟩,z0,z1,z2,z3,z4,z5,z6,z7⟩:=(BPB.out.ev iI).eight;clear iI wK yw))
 obtain⟨wL,DJ⟩:∃wL,wL=w4.setCell ⟨w1.heap.size,5,none⟩ (.slice X2.A X2.l.length X2.cap):=⟨_,rfl⟩
 rw[<-DJ];have Iz:But [w1.heap.size] w4 wL:=by rw[DJ];exact But.setCell _ _ aj
 have Gu:Hid (tC w0 w1.heap.size (.mk 4 [] .nil .nil X1 X2 .nil none 0 []) wL):=zq (tC.Zu rfl rfl rfl (by rw[DJ];have:=(BPB.out.ev E4.out).set 5 (.slice X2.A X2.l.length X2.cap);simpa[rD,PM.kind,PM.name,PM.ex,PM.co,PM.lf,PM.rt,PM.ag,PM.A,PM.cap,PM.kids,fE.nil] using this) ⟨bg.nil ..,(λe he=>by cases he),bg.nil ..,(pW (HXB.out.move (But.aV E4.out) (λx hx=>.inl hx)) Iz (λk hk=>by simp at hk;omega)).low hpA,(pW aor.out Iz (λk hk=>by simp at hk;omega)).low hpB,bg.nil ..⟩ ((FB.out.trans E4.out).box Iz F1.out.size) F1.out.size);have rC:Hid ((bf PT).1=0->pPlan PT=.mk 4 [] [] [] X1.l X2.l [] ([y1,y2].map λy=>pPlan y.t)):=zq (λh=>by rw[rC.out h,ab_.out,aoq.out]);clear DJ Iz p0 p1 p2 p3 p4 p5 p6 p7 z0 z1 z2 z3 z4 z5 z6 z7 c0 c1 c2 c3 c4 y3;go_wp2;have O0:=zq (λy (hy:y∈[y1,y2]) w1 (hE:Ev w w1)=>mP.out y (Rj.out y hy) w1 hE);have qA:=zq (HQ.out w aJ).len;have NW:=(HQ.out w aJ).le;have NY:=(HQ.out w aJ).max
 go_loopw [7,8,16] (λyv av iv wr=>∃(j:Nat) (p:PM) (e:Er),yv=.int .i64 e.1/\av=.int .i64 (e.2:Int)/\iv=↑j/\j<=2/\Hid (sV [y1,y2] N2.2 (.mk 4 [] .nil .nil X1 X2 .nil none 0 []) j p e)/\Hid (tC w0 w1.heap.size p wr)) (λ_ _ iv _=>2 - (intOf iv).toNat)
 case atStart=>exact⟨0,.mk 4 [] .nil .nil X1 X2 .nil none 0 [],N2.2,rfl,rfl,rfl,aww _,zq (sV.start _ _ _ rfl HZ2.out),Gu⟩
 case round=>
  obtain⟨j,p,e,rfl,rfl,rfl,hj,HI,HK⟩:=hrel;have II:=F1.out.size;have IJ:=HR.out.lt;by_cases he:e.1=0;have IK:=(HI.out.ok he).1;subst IK;by_cases hlt:j<2;exact ax9;obtain rfl:j=2:=ae;have wI:Hid (nG PT=(p.p,0,0)):=zq (sV.vV (p0:=.mk 4 [] .nil .nil X1 X2 .nil none 0 []) (by rw[qA.out];exact HI.out) rfl vP.out rC.out);exact ayz;exact ayq
structure FaI(al:List M)(e1:Er)(j:Nat)(L:List Ag)(e:Er):Prop where
 len:L.length<=j
 ok:e.1=0->e=(0,0)/\e1=(0,0)/\(∀y∈al.take j,(aT (dY y.t)).1=0)/\L=(al.take j).map λy=>kK y.t
 bad:e.1≠0->fO e1 (aT (al.flatMap λy=>dY y.t))=e
theorem O3{al:List M}(h:∀y∈al,(aT (dY y.t)).1=0):aT (al.flatMap λy=>dY y.t)=(0,0):=wY λx hx=>by obtain⟨y,hy,hx⟩:=axx.1 hx;exact(gI _).1 (h y hy) x hx
theorem acb{al:List M}{j:Nat}{y:M}(h:∀y∈al.take j,(aT (dY y.t)).1=0)(hy:al[j]?=some y)(hne:(aT (dY y.t)).1≠0):aT (al.flatMap λy=>dY y.t)=aT (dY y.t):=by
 obtain⟨hk,hx⟩:=awi.1 hy;have hl:al=al.take j++y::al.drop (j+1):=by rw[<-hx,axZ,axf]
 rw[hl,axU,axv,jE,jE,O3 h,vY hne,lY,if_neg hne]
theorem FaI.start(al:List M)(e1:Er)(hz:e1.1=0->e1=(0,0)):FaI al e1 0 [] e1:=
 ⟨awj _,λh=>⟨hz h,hz h,aj,aj⟩,λh=>vY h _⟩
theorem FaI.next{al:List M}{e1:Er}{j:Nat}{L:List Ag}{y:M}(h:FaI al e1 j L (0,0))(hy:al[j]?=some y):FaI al e1 (j+1) (L++[(UW y.t).1]) (UW y.t).2:=by
 obtain⟨_,h2,h3,h4⟩:=h.ok rfl;obtain⟨hk,e0⟩:=awi.1 hy;have oV:al.take (j+1)=al.take j++[y]:=by rw[aws hk,e0]
 by_cases hz:(aT (dY y.t)).1=0;have hR:UW y.t=(kK y.t,(0,0)):=by unfold UW;rw[if_pos hz]
 rw[hR];refine⟨by have:=h.len;simp;omega,λ_=>⟨rfl,h2,λz hz2=>?_,?_⟩,λhb=>absurd rfl hb⟩;rw[oV]at hz2;rcases awD.1 hz2 with h5|h5;exact h3 z h5;simp at h5;rw[h5];exact hz;rw[oV,awt,h4];rfl;have hR:UW y.t=(([],[],[]),aT (dY y.t)):=by unfold UW;rw[if_neg hz]
 rw[hR];refine⟨by have:=h.len;simp;omega,λhb=>absurd hb hz,λ_=>?_⟩;rw[acb h3 hy hz,h2,lY,if_neg hz]
theorem FaI.fin{al:List M}{e1 e:Er}{j:Nat}{L:List Ag}(h:FaI al e1 j L e)(hj:e.1=0->j=al.length):fO e1 (aT (al.flatMap λy=>dY y.t))=e/\(e.1=0->L=al.map λy=>kK y.t):=by by_cases he:e.1=0;obtain⟨h1,h2,h3,h4⟩:=h.ok he;rw[hj he,aw0]at h3 h4;exact⟨by rw[O3 h3,h2,h1];rfl,λ_=>h4⟩;exact⟨h.bad he,λh0=>absurd h0 he⟩
structure Zw(w0:ak)(gp:Nat)(lf:fE By)(ag:fE Ag)(w:ak):Prop where
 box:Bx 32 gp #[.int .i64 7,.string ⟨#[]⟩,↑(),↑(),.slice lf.A lf.l.length lf.cap,↑(),.slice ag.A ag.l.length ag.cap,↑()] w
 own:Ow 54 3 ac (gp+1) w (.slice ag.A ag.l.length ag.cap) ag.l
 lf:bg 1 sc (gp+1) (foot (.slice ag.A ag.l.length ag.cap)) w lf
 ev:Ev w0 w
 GZ:w0.heap.size<=gp
theorem Zw.up{w0 w w':ak}{gp:Nat}{lf:fE By}{ag:fE Ag}(h:Zw w0 gp lf ag w)(hE:Ev w w'):Zw w0 gp lf ag w':=
 ⟨h.box.ev hE,h.own.ev hE,h.lf.move (But.aV hE) λ_ hx=>.inl hx,h.ev.trans hE,h.GZ⟩
theorem Zw.next{w0 wq w2:ak}{gp:Nat}{lf:fE By}{ag:fE Ag}{a:Ag}{v2:au}(h:Zw w0 gp lf ag wq)(hA:nR 54 3 ac (gp+1) wq (.slice ag.A ag.l.length ag.cap) (ag.l++[a]) v2 w2):
  ∃A2 cap2,v2=.slice A2 (ag.l.length+1) cap2/\Zw w0 gp lf ⟨A2,cap2,ag.l++[a]⟩ (w2.setCell ⟨gp,6,none⟩ v2):=by
 obtain⟨ho,hb,hs⟩:=hA;obtain⟨A2,cap2,rfl,qm,xY⟩:=ho.form zL;have hl:(ag.l++[a]).length=ag.l.length+1:=by rw[awl];rfl
 have P5:=h.box.lt;have hK:gp∉foot (.slice ag.A ag.l.length ag.cap):=λhm=>by have:=(h.own.lt (aG.1 hm)).1;omega
 have hB2:=(h.box).but hb hK;have Iq:But [gp] w2 (w2.setCell ⟨gp,6,none⟩ (.slice A2 (ag.l++[a]).length cap2)):=But.setCell _ _ aj;have hf2:∀k∈foot (.slice A2 (ag.l++[a]).length cap2),k∈foot (.slice ag.A ag.l.length ag.cap)∨k<gp+1∨wq.heap.size<=k:=λk hk=>by exact aAX
 have hst:∀k∈gp::foot (.slice A2 (ag.l++[a]).length cap2),k∈foot (.slice A2 (ag.l++[a]).length cap2)∨k<gp+1∨w2.heap.size<=k:=λk hk=>by exact aA5
 have aeh:But (gp::foot (.slice A2 (ag.l++[a]).length cap2)) w2 (w2.setCell ⟨gp,6,none⟩ (.slice A2 (ag.l++[a]).length cap2)):=Iq.wide λk hk=>by simp at hk;subst hk;exact .inl aj
 have hin:∀k∈foot (.slice A2 (ag.l++[a]).length cap2),k∈gp::foot (.slice A2 (ag.l++[a]).length cap2)∨k<gp+1∨w2.heap.size<=k:=λk hk=>.inl (awn _ hk);refine⟨A2,cap2,by rw[hl],?_,?_,?_,?_,h.GZ⟩;have:=hB2.set 6 (.slice A2 (ag.l++[a]).length cap2);simpa using this;exact ho.but Iq λg hg=>by have:=(ho.lt hg).1;simp;omega
 have h1:bg 1 sc (gp+1) (foot (.slice A2 (ag.l++[a]).length cap2)) w2 lf:=h.lf.move hb hf2;exact(h1.move (But.refl _ _) hst).move aeh hin;have h1:Ev w0 w2:=((But.aV h.ev).then hb).ev λk hk=>by have:=(h.own.lt (aG.1 hk)).1;have:=h.GZ;omega
 exact h1.box Iq h.GZ
theorem Zw.after{w0 wq w2:ak}{gp:Nat}{lf:fE By}{ag:fE Ag}{v2:au}{L:List Ag}(h:Zw w0 gp lf ag wq)(hA:nR 54 3 ac (gp+1) wq (.slice ag.A ag.l.length ag.cap) L v2 w2):Bx 32 gp #[.int .i64 7,.string ⟨#[]⟩,↑(),↑(),.slice lf.A lf.l.length lf.cap,↑(),.slice ag.A ag.l.length ag.cap,↑()] w2:=
 h.box.but hA.2.1 λhm=>by have:=(h.own.lt (aG.1 hm)).1;omega
theorem aAC(h:U:=by have:=h.box;simpa[rD,PM.kind,PM.name,PM.ex,PM.co,PM.lf,PM.rt,PM.ag,PM.A,PM.cap,PM.kids,fE.nil] using this):U:=h
theorem Zw.done{w0 w:ak}{gp:Nat}{lf:fE By}{ag:fE Ag}(h:Zw w0 gp lf ag w):tC w0 gp (.mk 7 [] .nil .nil lf .nil ag none 0 []) w:=by
 obtain⟨A2,cap2,hv,qm,xY⟩:=h.own.form zL;injection hv with h1 h2 h3
 refine tC.Zu rfl rfl rfl ?_ ⟨bg.nil ..,(λe he=>by cases he),bg.nil ..,h.lf.move (But.refl _ _) (λk hk=>by cases hk),bg.nil ..,⟨by show Sl 3 ac w ag.A ag.l.length ag.cap ag.l;rw[h1,h3];exact qm,λad e=>by have e:ag.A=some ad:=e;rw[h1]at e;exact⟨(xY ad e).2.1,(xY ad e).2.2.1,aj⟩⟩⟩ h.ev h.GZ;exact aAC
theorem Tryz.acd:(Tryz.prog.info? 54).map (λi=>(i.zero,i.size,i.bytes))=some (some (.agg #[.string ⟨#[]⟩,.string ⟨#[]⟩,.string ⟨#[]⟩]),3,48):=ah
theorem Zx(y:M)(b0:Nat)(w:ak)(h:Lies b0 [] w y)(hk:dX y.t=true)(hs:∀x∈y.kids,x.s.length<=1000000):
  Calls ax 83 #[.slice y.A y.kids.length y.cap] w (OO (UW y.t) w):=by
 unfold dX at hk;rw[awk,M.aZ,awh,awP,awx,awx]at hk;rcases hk.2 with h2|h2;obtain⟨a,b,e⟩:=wU h2;exact adQ y a b w h.ms e hs;obtain⟨a,b,c,e⟩:∃a b c,y.kids=[a,b,c]:=by
  match hq:y.kids,h2 with
  | [a,b,c],_=>exact⟨a,b,c,rfl⟩
 exact adR y a b c w h.ms e hs
theorem ax6(h:U:=by
 go_upto_region 52 with fail
 go_wp2;have O0:=zq (λy (hy:y∈[z]) w1 (hE:Ev w w1)=>mP.out y (Rj.out y hy) w1 hE);have qA:=zq (HQ.out w aJ).len;have NW:=(HQ.out w aJ).le;have NY:=(HQ.out w aJ).max
 go_loopw [7,8,16] (λyv av iv wr=>∃(j:Nat) (p:PM) (e:Er),yv=.int .i64 e.1/\av=.int .i64 (e.2:Int)/\iv=↑j/\j<=1/\Hid (sV [z] e5 (.mk 7 [] .nil .nil X1 .nil ag none 0 []) j p e)/\Hid (tC w0 w1.heap.size p wr)) (λ_ _ iv _=>1 - (intOf iv).toNat)
 case atStart=>exact⟨0,.mk 7 [] .nil .nil X1 .nil ag none 0 [],e5,rfl,rfl,rfl,aww _,zq (sV.start _ _ _ rfl HZ5.out),Gu⟩
 case round=>
  obtain⟨j,p,e,rfl,rfl,rfl,hj,HI,HK⟩:=hrel;have II:=F1.out.size;have IJ:=HR.out.lt;by_cases he:e.1=0;have IK:=(HI.out.ok he).1;subst IK;by_cases hlt:j<1;exact ax_;obtain rfl:j=1:=ae;have wI:Hid (nG PT=(p.p,0,0)):=zq (sV.vV (p0:=.mk 7 [] .nil .nil X1 .nil ag none 0 []) (by rw[qA.out];exact HI.out) rfl vP.out rC.out);exact ayz;exact ayr):U:=h
theorem QT(m:M)(b0:Nat)(w:ak)(hL:Lies b0 [] w m)(hfair:m.t.every cO=true)(hsz:m.t.size<=10000)(hf:fZ m.t=true)(x:M)(q:List M)(hq:m.kids=x::q)(hs:x.s=dU)
  (ih:∀y∈q,∀w1,Ev w w1->Calls ax 39 #[.agg ↑y] w1 (bH (nG y.t) w1)):
  Calls ax 39 #[.agg ↑m] w (bH (nG m.t) w):=by
 have fD:Tryz.prog.follows .mixedOrders=true:=ah;obtain⟨jY,lM,mG,hm1,hx2,rW⟩:=l_ hq hf;have LX:Lies b0 [w.heap.size] w m:=hL.less λk hk=>by simp at hk;exact .inr (.inr ae)
 obtain⟨b,off,k,c,eY⟩:=vN LX hq rW;have H_:=zq (λw1 (hE:Ev w w1)=>uF m b0 w1 (hL.ev hE));rw[hf]at H_;have wX:=zq (λw1 (hE:Ev w w1)=>kP m b0 w1 (hL.ev hE));have tN:Qd m.t=x.s:=by rw[F_,hq];simp[hm1,M.uJ,lG,hx2]
 rw[tN,hs]at wX;have zy:=zq (λy (hy:y∈q)=>mf hq hy hfair hsz);have Nw:=q_len hq hsz;have Bv:=zq (λi y (hy:q[i]?=some y) w1 (hE:Ev w w1)=>eY.kid (i+1) y (by rw[hq];simpa using hy) w1 (But.aV hE));rw[hs]at jY lM mG;unfold bH at ih|-;obtain⟨PT,uP⟩:∃PT,PT=m.t:=⟨_,rfl⟩
 rw[<-uP]at jY lM|-;have hA:=eY.hA;have hn:=eY.hn;have hc:=eY.hc;have tJ:=eY.tJ;have hcm:=eY.hcm;have mO:=eY.mO;have hbl:b<w.heap.size:=(eY.Bq w (But.refl _ _) off _ rfl).2.1;have oZ:=zq eY;clear eY uP hq hL LX hfair hsz rW hf hx2 tN;generalize Ah:m.kids.length=kn at*;generalize wH:m.A=mA at*;generalize EC:m.cap=mc at*;generalize qf:m.kind=kd at*;generalize hs_:m.s=ms at*;generalize wG:m.n=mn at*;generalize ED:m.pos=mp at*;clear Ah wH EC qf hs_ wG ED;subst hm1 hA hn hc;obtain⟨w0,hw0,aW,hX,hR⟩:=EH w (.int .i64 1) ↑ms ↑mn (.slice ↑(b,off) (k+2) (c+2)) ↑mp;have HX:=zq hX;have HR:=zq hR;have HE:=zq aW;have mP:=zq ih;unfold dU at*;obtain⟨⟨c0,c1,c2,c3,c4⟩,_⟩:=hX.five;clear hX hR aW ih hs;have Dw:(decide (2<=(q.map M.t).length)&&dH (at_ (q.map M.t) 0)&&(((q.map M.t).take ((q.map M.t).length - 1)).drop 1).all dX)=true:=mG;rw[awk,awk,aw7,awh,mO,axq,<-axe]at Dw;obtain⟨⟨wE,_⟩,hagg⟩:=Dw;obtain⟨k1,rfl⟩:∃k1,k=k1+1:=⟨k - 1,ae⟩
 obtain⟨qp,rfl⟩:∃c1,c=c1+1:=⟨c - 1,ae⟩
 obtain⟨l1,r,rfl⟩:∃l1 r,q=l1::r:=by
  cases q with
  | nil=>simp at mO
  | cons a b=>exact⟨a,b,rfl⟩
 have hrl:r.length=k1+1:=by simpa using mO
 rw[axg,awo,awR,axh,axs,awF]at hagg;have hlen:((l1::r).map M.t).length - 1=k1+1:=by simp[hrl]
 obtain⟨z,hz⟩:∃z,r.drop k1=[z]:=uA (by rw[awQ,hrl];omega);obtain⟨al,JK⟩:∃al,al=r.take k1:=⟨_,rfl⟩
 have hall:al.length=k1:=by rw[JK,awT];omega
 have WM:pPlan PT=.mk 7 [] [] [] (l1.kids.map M.s) [] (al.map λv=>kK v.t) ([z].map λv=>pPlan v.t):=by rw[jY,JK,<-hz];show Pl.mk 7 [] [] [] (l1.t.kids.map T.s) [] (((((l1::r).map M.t).take (((l1::r).map M.t).length - 1)).drop 1).map kK) ((((l1::r).map M.t).map pPlan).drop (((l1::r).map M.t).length - 1))=_;rw[hlen,M.aZ,awy,funext M.uJ |> λh=>(show (T.s ∘ M.t)=M.s from h),awo,axg,awR,axh,awo,awR,<-axe,awy,awy,<-axm];rfl
 obtain⟨N1,QS⟩:∃N1,N1=zt (l1.kids.map M.t):=⟨_,rfl⟩
 have N9:bf PT=fO (fO N1.2 (aT (al.flatMap λv=>dY v.t))) (aT ([z].map λv=>bf v.t)):=by rw[lM,JK,<-hz,QS,nH];show aT (l1.t.kids.map bF++(((((l1::r).map M.t).take (((l1::r).map M.t).length - 1)).drop 1).flatMap dY++(((l1::r).map M.t).map bf).drop (((l1::r).map M.t).length - 1)))=_;rw[hlen,M.aZ,awo,axg,awR,axh,awo,awR,<-axe,awy (l:=r),List.flatMap_map,<-axm,jE,jE,AL];rfl
 have hz1:N1.2.1=0->N1.2=(0,0):=by rw[QS,nH];exact yl _
 have rH:N1.2.1=0->N1.1=l1.kids.map M.s:=λh=>by rw[QS]at h|-;rw[vX _ h,awy];exact aw1 λx _=>M.uJ x
 have Gy:=zq (λw1 (hE:Ev w w1)=>Ae l1.kids l1.A l1.kids.length l1.cap w1 ((oZ.out.lies l1 aj w (But.refl _ _)).ms.ev hE) (by have:=yt (zy.out l1 aj).2;omega) (rE (zy.out l1 aj).1));have HQ:Hid (∀w1,Ev w w1->Ms w1 (some ⟨b,off+(k1+2)*5,none⟩) 1 (qp+1 - k1) [z]):=zq λw1 hE=>by have h1:=(oZ.out.rest w1 (But.aV hE)).drop (k:=k1+1) ae;rw[show (l1::r).drop (k1+1)=[z] from hz]at h1;have e1:off+5+(k1+1)*5=off+(k1+2)*5:=ae;have e2:k1+1+1 - (k1+1)=1:=ae;have e3:qp+1+1 - (k1+1)=qp+1 - k1:=ae;rw[e1,e2,e3]at h1;exact h1
 have Rj:Hid (∀y_∈[z],y_∈l1::r):=zq λy_ hy=>by refine awn _ (List.mem_of_mem_drop (i:=k1) ?_);rw[hz];exact hy
 have EU:=zq (λj y (hy:al[j]?=some y) w1 (hE:Ev w w1)=>Zx y b0 w1 ((((oZ.out.lies y (by rw[JK]at hy;exact awn _ (axo (awm hy))) w (But.refl _ _)).less λk hk=>by cases hk).ev hE)) (hagg y (by rw[<-JK];exact awm hy)) (rE (zy.out y (by rw[JK]at hy;exact awn _ (axo (awm hy)))).1));have HKA:=zq (λj y (hy:al[j]?=some y) w1 (hE:Ev w w1)=>(Bv.out (j+1) y (by rw[JK]at hy;rw[List.getElem?_cons_succ];rw[List.getElem?_take]at hy;split at hy;exact hy;cases hy) w1 hE).2.2.2.1);simp only[show ∀j:Nat,j+1+1=j+2 from λj=>rfl]at HKA;have IB:=zq (λw1 (hE:Ev w w1)=>(Bv.out 0 l1 rfl w1 hE).2.2.2.1);simp only[awL,axn]at IB;unfold Qq at Gy;unfold OO at EU;rw[<-QS]at Gy;have Nv:=zq hall;have HZ1:=zq hz1;have ag9:=zq WM;have Zy:=zq N9;have wF:=zq rH;have auw:k1<=10000:=by simp at Nw;omega
 have auy:k1<=qp:=ae;clear jY lM mG QS WM N9 rH hz1 hall JK hz hagg hrl hlen wE Nw tJ mO Bv zy;go_enter func39,ntmps39;go_upto_region 44 with (first
  | ((with_reducible refine(H_.out _ HE.out).mono ?_);rintro r w1 ⟨rfl,aK⟩;have E1:=zq (HE.out.trans aK);have F1:=zq aK;have hx1:=(HX.out.ev aK).lt;have hr1:=(HR.out.ev aK).lt;clear c0 c1 c2 c3 c4;obtain⟨⟨c0,c1,c2,c3,c4⟩,_⟩:=(HX.out.ev aK).five;have yj:=Bx.new 32 ↑Zz.b w1;clear aK)
  | ((with_reducible refine(wX.out _ (E1.out.trans az)).mono ?_);rintro r w2 ⟨rfl,bQ⟩;have F2:=zq ((F1.out.trans az).trans bQ);have BP:=zq (yj.ev bQ);obtain⟨⟨p0,p1,p2,p3,p4,p5,p6,p7⟩,z0,z1,z2,z3,z4,z5,z6,z7⟩:=(yj.ev bQ).eight;clear bQ yj c0 c1 c2 c3 c4;obtain⟨⟨c0,c1,c2,c3,c4⟩,_⟩:=(HX.out.ev F2.out).five))
 obtain⟨wA,zn⟩:∃wA,wA=w2.setCell ⟨w1.heap.size,0,none⟩ (.int .i64 7):=⟨_,rfl⟩
 rw[<-zn];have EJ:Hid (Bx 32 w1.heap.size #[.int .i64 7,.string ⟨#[]⟩,↑(),↑(),↑(),↑(),↑(),↑()] wA):=zq (by rw[zn];have:=BP.out.set 0 (.int .i64 7);simpa using this);have FA:Hid (Ev w0 wA):=zq (by rw[zn];exact F2.out.box (But.setCell _ _ aj) F1.out.size);have EA:Hid (Ev w wA):=zq (HE.out.trans FA.out);clear zn p0 p1 p2 p3 p4 p5 p6 p7 z0 z1 z2 z3 z4 z5 z6 z7 c0 c1 c2 c3 c4;obtain⟨⟨p0,p1,p2,p3,p4,p5,p6,p7⟩,z0,z1,z2,z3,z4,z5,z6,z7⟩:=EJ.out.eight;obtain⟨⟨c0,c1,c2,c3,c4⟩,_⟩:=(HX.out.ev FA.out).five;have hpA:=EJ.out.lt;have y3:=IB.out _ EA.out;go_upto_region 45 with (first
  | ((with_reducible refine(Gy.out _ EA.out).mono ?_);rintro r w3 ⟨X1,rfl,wK,yw,iI⟩;have ab_:=zq wK;have aca:=zq yw;have E3:=zq iI;clear p0 p1 p2 p3 p4 p5 p6 p7 z0 z1 z2 z3 z4 z5 z6 z7;obtain⟨⟨p0,p1,p2,p3,p4,p5,p6,p7⟩,z0,z1,z2,z3,z4,z5,z6,z7⟩:=(EJ.out.ev iI).eight;clear iI wK yw))
 obtain⟨wB,Zv⟩:∃wB,wB=w3.setCell ⟨w1.heap.size,4,none⟩ (.slice X1.A X1.l.length X1.cap):=⟨_,rfl⟩
 rw[<-Zv];have Iz:But [w1.heap.size] w3 wB:=by rw[Zv];exact But.setCell _ _ aj
 have HGK:Hid (Zw w0 w1.heap.size X1 .nil wB):=zq ⟨by rw[Zv];have:=(EJ.out.ev E3.out).set 4 (.slice X1.A X1.l.length X1.cap);simpa[fE.nil] using this,Ow.nil_ _,(pW aca.out Iz (λk hk=>by simp at hk;omega)).low hpA,(FA.out.trans E3.out).box Iz F1.out.size,F1.out.size⟩;clear Zv Iz p0 p1 p2 p3 p4 p5 p6 p7 z0 z1 z2 z3 z4 z5 z6 z7 c0 c1 c2 c3 c4 y3;have n3:((k1:Int)+1+2 - 1).toNat=k1+2:=ae;go_wp2
 go_loopw [7,8,14] (λyv av iv wr=>∃(j:Nat) (ag:fE Ag) (e:Er),yv=.int .i64 e.1/\av=.int .i64 (e.2:Int)/\iv=.int .i64 ((j:Int)+2)/\j<=k1/\Hid (FaI al N1.2 j ag.l e)/\Hid (Zw w0 w1.heap.size X1 ag wr)) (λ_ _ iv _=>(k1+2) - (intOf iv).toNat)
 case atStart=>exact⟨0,.nil,N1.2,rfl,rfl,rfl,aww _,zq (FaI.start _ _ HZ1.out),HGK⟩
 case round=>
  obtain⟨j5,ag,e5,rfl,rfl,rfl,hj,HI,HK⟩:=hrel;have II:=F1.out.size;have IJ:=HR.out.lt;by_cases hcont:j5<k1/\e5.1=0
  ·obtain⟨hlt,he⟩:=hcont;have IK:=(HI.out.ok he).1;subst IK;obtain⟨y,hy⟩:∃y,al[j5]?=some y:=⟨_,awE (by rw[Nv.out];exact hlt)⟩
   have HY:=zq hy;have k3:=HKA.out j5 y hy _ (HE.out.trans HK.out.ev);obtain⟨⟨q0,q1,q2,q3,q4,q5,q6,q7⟩,_⟩:=HK.out.box.eight;obtain⟨AR,hAR⟩:∃AR,AR=UW y.t:=⟨_,rfl⟩
   have ag_:=EU.out j5 y hy;rw[<-hAR]at ag_;have aot:=zq ag_;have HNX:Hid (FaI al N1.2 (j5+1) (ag.l++[AR.1]) AR.2):=zq (by rw[hAR];exact HI.out.next hy);have hsw:=HK.out.ev.size;have hpl:ag.l.length<=10000:=by have:=HI.out.len;omega
   have LY:=HK.out.box.lt;have hbr:b<wr.heap.size:=awz hbl (HE.out.trans HK.out.ev).size;have t2:((j5:Int)+2).toNat=j5+2:=ae;have i1:(0:Int)<=(j5:Int)+2:=ae;have i2:(j5:Int)+2<(k1:Int)+1+2 - 1:=ae;have i3:(j5:Int)+2<(k1:Int)+1+2:=ae;have Ai:=Bx.new 54 #[.string ⟨#[]⟩,.string ⟨#[]⟩,.string ⟨#[]⟩] wr;clear hy hAR ag_;go_upto_region 50 with (first
    | ((with_reducible refine(aot.out _ ((HE.out.trans HK.out.ev).trans az)).mono ?_);rintro r_ w6 ⟨rfl,nS⟩;have E6:=zq ((Ev.alloc wr _).trans nS);have qE:=zq (Ai.ev nS);obtain⟨⟨u0,u1,u2⟩,v0,v1,v2⟩:=qE.out.three;clear nS Ai q0 q1 q2 q3 q4 q5 q6 q7))
   rw[dw];obtain⟨w8,vW⟩:∃w8,w8=xX wr.heap.size (.string ⟨AR.1.1.toArray⟩) (.string ⟨AR.1.2.1.toArray⟩) (.string ⟨AR.1.2.2.toArray⟩) w6:=⟨_,rfl⟩
   rw[<-vW];have ug:=uV wr.heap.size (.string ⟨AR.1.1.toArray⟩) (.string ⟨AR.1.2.1.toArray⟩) (.string ⟨AR.1.2.2.toArray⟩) w6;have oL:=qE.out.xX (.string ⟨AR.1.1.toArray⟩) (.string ⟨AR.1.2.1.toArray⟩) (.string ⟨AR.1.2.2.toArray⟩);have lU:=E6.out.box ug (awj _);rw[<-vW]at oL lU;have mM:=zq (HK.out.up lU);obtain⟨⟨q0,q1,q2,q3,q4,q5,q6,q7⟩,_⟩:=mM.out.box.eight;clear u0 u1 u2 v0 v1 v2;obtain⟨⟨u0,u1,u2⟩,_⟩:=oL.three;have LZ:=lU.size;have L6:=mM.out.box.lt;have NZ:=oL.lt;clear vW ug oL lU
   go_wp2_with (first
    | ((show wpList _ _ _ (⟨some 189,_,_,_,_,_⟩::_) _ _);refine aO (o:=⟨some 189,_,_,_,_,_⟩) rfl 29 (.tmp 186) (.tmp 188) rfl zL underlying29 Tryz.acd rfl rfl (mM.out.up az).own (some ⟨_,0,none⟩) 1 1 [AR.1] rfl (Sl.one (et:=54) zL _ AR.1 _ rfl) (by simp;omega) (by simp;omega) (by simp;omega) ?_;intro v2 w7 gV;have vT:=zq gV;obtain⟨A2,cap2,rfl,Cc⟩:=Zw.next (mM.out.up az) vT.out;obtain⟨⟨o0,o1,o2,o3,o4,o5,o6,o7⟩,t0,t1,t2_,t3,t4,t5,t6,t7⟩:=((mM.out.up az).after vT.out).eight;have N7:=zq Cc;clear Cc gV))
   go_roundw
   case rel=>exact⟨j5+1,⟨A2,cap2,ag.l++[AR.1]⟩,AR.2,rfl,rfl,by go_num,ae,HNX,N7⟩
   case measure=>simp[intOf];omega
  have hex:e5.1=0->j5=al.length:=λh0=>by have:=Nv.out;by_cases hjk:j5<k1;exact absurd ⟨hjk,h0⟩ hcont;omega
  have hfin:=HI.out.fin hex;have vP:Hid (bf PT=fO e5 (aT ([z].map λv=>bf v.t))):=zq (by rw[Zy.out,hfin.1]);have rC:Hid ((bf PT).1=0->pPlan PT=.mk 7 [] [] [] X1.l [] ag.l ([z].map λv=>pPlan v.t)):=zq (λh=>by
   rw[Zy.out,uq,uq]at h;have h5:e5.1=0:=by rw[<-hfin.1,uq];exact h.1
   rw[ag9.out,hfin.2 h5,ab_.out,wF.out h.1.1])
  have HZ5:Hid (e5.1=0->e5=(0,0)):=zq λh=>(HI.out.ok h).1;have Gu:=zq HK.out.done;have NL:=zq hex;obtain⟨wo,rfl⟩:∃wo:ak,wo=wr:=⟨_,rfl⟩
  have i1:(0:Int)<=(j5:Int)+2:=ae;have i4:(0:Int)<=(k1:Int)+1+2 - 1:=ae;have i5:(k1:Int)+1+2 - 1<=(k1:Int)+1+2:=ae;have i6:(k1:Int)+1+2 - 1<=(qp:Int)+1+2:=ae;have i7:¬(qp+1+2=k1+2):=ae;clear hfin hex HI HK;by_cases hlt:(j5:Int)+2<(k1:Int)+1+2 - 1;have he5:(e5.1==0)=false:=awg.2 λh=>by have:=NL.out h;have:=Nv.out;omega
  exact ax6;exact ax6
end Go.Proofs.YtpbfokkocaemlaaGreatDoor
