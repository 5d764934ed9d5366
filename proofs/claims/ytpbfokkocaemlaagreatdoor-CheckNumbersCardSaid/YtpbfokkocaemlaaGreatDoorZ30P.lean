import Derived.Test.YtpbfokkocaemlaaGreatDoorZ29P
set_option linter.unusedVariables false
set_option maxRecDepth 100000
set_option maxHeartbeats 64000000
namespace Go.Proofs.YtpbfokkocaemlaaGreatDoor
open Go.RowKit
open Go.Lib renaming hid → zq
open Go renaming World → ak
open Go renaming Value → au
open Go.Proofs.Tryz renaming prog → ax
variable {U:Prop}
open Go.Proofs.Tryz
theorem ayB(h:U:=by
 go_upto_region 52 with fail
 go_wp2;have Pg:=zq (λy (hy:y∈[z]) w1 (hE:Ev w w1)=>lM.out y (RS.out y hy) w1 hE);have qQ:=zq (HQ.out w aK).len;have N8:=(HQ.out w aK).le;have N9:=(HQ.out w aK).max
 go_loopw [7,8,16] (λyv av iv wr=>∃(j:Nat) (p:PM) (e:Er),yv=.int .i64 e.1/\av=.int .i64 (e.2:Int)/\iv=↑j/\j<=1/\Hid (tV [z] e5 (.mk 7 [] .nil .nil X1 .nil ag none 0 []) j p e)/\Hid (tZ w0 w1.heap.size p wr)) (λ_ _ iv _=>1-(intOf iv).toNat)
 case atStart=>exact⟨0,.mk 7 [] .nil .nil X1 .nil ag none 0 [],e5,rfl,rfl,rfl,awJ _,zq (tV.start _ _ _ rfl HZ5.out),DN⟩
 case round=>
  obtain⟨j,p,e,rfl,rfl,rfl,hj,HI,HK⟩:=hrel;have IU:=F1.out.size;have IV:=HR.out.lt;by_cases he:e.1=0;have IW:=(HI.out.ok he).1;subst IW;by_cases hlt:j<1;exact ayF;obtain rfl:j=1:=ae;have wM:Hid (nV PT=(p.p,0,0)):=zq (tV.vX (p0:=.mk 7 [] .nil .nil X1 .nil ag none 0 []) (by rw[qQ.out];exact HI.out) rfl vP.out rX.out);exact azb;exact ay1):U:=h
theorem Rl(m:M)(b0:Nat)(w:ak)(hL:Lies b0 [] w m)(hfair:m.t.every dh=true)(hsz:m.t.size<=10000)(hf:gu m.t=true)(x:M)(q:List M)(hq:m.kids=x::q)(hs:x.s=fB)
  (ih:∀y∈q,∀w1,Ev w w1->Calls ax 39 #[.agg ↑y] w1 (bP (nV y.t) w1)):
  Calls ax 39 #[.agg ↑m] w (bP (nV m.t) w):=by
 have ed:Tryz.prog.follows .mixedOrders=true:=ah;obtain⟨kF,l_,nG,hm1,hx2,sO⟩:=mY hq hf;have L9:Lies b0 [w.heap.size] w m:=hL.less λk hk=>by simp at hk;exact .inr (.inr ae)
 obtain⟨b,off,k,c,fE⟩:=vN L9 hq sO;have CP:=zq (λw1 (hE:Ev w w1)=>uH m b0 w1 (hL.ev hE));rw[hf]at CP;have xq:=zq (λw1 (hE:Ev w w1)=>kW m b0 w1 (hL.ev hE));have uh:Qq m.t=x.s:=by rw[Gw,hq];simp[hm1,M.uK,lV,hx2]
 rw[uh,hs]at xq;have zT:=zq (λy (hy:y∈q)=>mZ hq hy hfair hsz);have ND:=q_len hq hsz;have uT:=zq (λi y (hy:q[i]?=some y) w1 (hE:Ev w w1)=>fE.kid (i+1) y (by rw[hq];simpa using hy) w1 (But.aW hE));rw[hs]at kF l_ nG;unfold bP at ih|-;obtain⟨PT,uU⟩:∃PT,PT=m.t:=⟨_,rfl⟩
 rw[<-uU]at kF l_|-;have hA:=fE.hA;have hn:=fE.hn;have hc:=fE.hc;have qM:=fE.qM;have hcm:=fE.hcm;have nD:=fE.nD;have hbl:b<w.heap.size:=(fE.BQ w (But.refl _ _) off _ rfl).2.1;have pW:=zq fE;clear fE uU hq hL L9 hfair hsz sO hf hx2 uh;generalize AQ:m.kids.length=kn at*;generalize wJ:m.A=mA at*;generalize EM:m.cap=mc at*;generalize qE:m.kind=kd at*;generalize hs_:m.s=ms at*;generalize wI:m.n=mn at*;generalize EN:m.pos=mp at*;clear AQ wJ EM qE hs_ wI EN;subst hm1 hA hn hc;obtain⟨w0,hw0,aV,hX,hR⟩:=EZ w (.int .i64 1) ↑ms ↑mn (.slice ↑(b,off) (k+2) (c+2)) ↑mp;have HX:=zq hX;have HR:=zq hR;have HE:=zq aV;have lM:=zq ih;unfold fB at*;obtain⟨⟨c0,c1,c2,c3,c4⟩,_⟩:=hX.five;clear hX hR aV ih hs;have DK:(decide (2<=(q.map M.t).length)&&dP (at_ (q.map M.t) 0)&&(((q.map M.t).take ((q.map M.t).length-1)).drop 1).all eF)=true:=nG;rw[awF,awF,axq,awD,nD,axM,<-axy]at DK;obtain⟨⟨um,_⟩,hagg⟩:=DK;obtain⟨k1,rfl⟩:∃k1,k=k1+1:=⟨k-1,ae⟩
 obtain⟨qN,rfl⟩:∃c1,c=c1+1:=⟨c-1,ae⟩
 obtain⟨l1,r,rfl⟩:∃l1 r,q=l1::r:=by
  cases q with
  | nil=>simp at nD
  | cons a b=>exact⟨a,b,rfl⟩
 have hrl:r.length=k1+1:=by simpa using nD
 rw[axz,awI,axb,axE,axN,awW]at hagg;have hlen:((l1::r).map M.t).length-1=k1+1:=by simp[hrl]
 obtain⟨z,hz⟩:∃z,r.drop k1=[z]:=uC (by rw[aw',hrl];omega);obtain⟨al,JW⟩:∃al,al=r.take k1:=⟨_,rfl⟩
 have hall:al.length=k1:=by rw[JW,axa];omega
 have Xe:pPlan PT=.mk 7 [] [] [] (l1.kids.map M.s) [] (al.map λv=>kS v.t) ([z].map λv=>pPlan v.t):=by rw[kF,JW,<-hz];show Pl.mk 7 [] [] [] (l1.t.kids.map T.s) [] (((((l1::r).map M.t).take (((l1::r).map M.t).length-1)).drop 1).map kS) ((((l1::r).map M.t).map pPlan).drop (((l1::r).map M.t).length-1))=_;rw[hlen,M.bD,awT,funext M.uK |> λh=>(show (T.s ∘ M.t)=M.s from h),awI,axz,axb,axE,awI,axb,<-axy,awT,awT,<-axG];rfl
 obtain⟨N1,Rk⟩:∃N1,N1=zM (l1.kids.map M.t):=⟨_,rfl⟩
 have Oc:bF PT=fU (fU N1.2 (aU (al.flatMap λv=>eG v.t))) (aU ([z].map λv=>bF v.t)):=by rw[l_,JW,<-hz,Rk,nX];show aU (l1.t.kids.map bK++(((((l1::r).map M.t).take (((l1::r).map M.t).length-1)).drop 1).flatMap eG++(((l1::r).map M.t).map bF).drop (((l1::r).map M.t).length-1)))=_;rw[hlen,M.bD,awI,axz,axb,axE,awI,axb,<-axy,awT (l:=r),List.flatMap_map,<-axG,jK,jK,Bj];rfl
 have hz1:N1.2.1=0->N1.2=(0,0):=by rw[Rk,nX];exact yD _
 have pG:N1.2.1=0->N1.1=l1.kids.map M.s:=λh=>by rw[Rk]at h|-;rw[vZ _ h,awT];exact axl λx _=>M.uK x
 have GY:=zq (λw1 (hE:Ev w w1)=>AL l1.kids l1.A l1.kids.length l1.cap w1 ((pW.out.lies l1 aj w (But.refl _ _)).ms.ev hE) (by have:=yE (zT.out l1 aj).2;omega) (rZ (zT.out l1 aj).1));have HQ:Hid (∀w1,Ev w w1->Ms w1 (some ⟨b,off+(k1+2)*5,none⟩) 1 (qN+1-k1) [z]):=zq λw1 hE=>by have h1:=(pW.out.rest w1 (But.aW hE)).drop (k:=k1+1) ae;rw[show (l1::r).drop (k1+1)=[z] from hz]at h1;have e1:off+5+(k1+1)*5=off+(k1+2)*5:=ae;have e2:k1+1+1-(k1+1)=1:=ae;have e3:qN+1+1-(k1+1)=qN+1-k1:=ae;rw[e1,e2,e3]at h1;exact h1
 have RS:Hid (∀y_∈[z],y_∈l1::r):=zq λy_ hy=>by refine awK _ (List.mem_of_mem_drop (i:=k1) ?_);rw[hz];exact hy
 have Ar:=zq (λj y (hy:al[j]?=some y) w1 (hE:Ev w w1)=>aaf y b0 w1 ((((pW.out.lies y (by rw[JW]at hy;exact awK _ (axO (awG hy))) w (But.refl _ _)).less λk hk=>by cases hk).ev hE)) (hagg y (by rw[<-JW];exact awG hy)) (rZ (zT.out y (by rw[JW]at hy;exact awK _ (axO (awG hy)))).1));have HKA:=zq (λj y (hy:al[j]?=some y) w1 (hE:Ev w w1)=>(uT.out (j+1) y (by rw[JW]at hy;rw[List.getElem?_cons_succ];rw[List.getElem?_take]at hy;split at hy;exact hy;cases hy) w1 hE).2.2.2.1);simp only[show ∀j:Nat,j+1+1=j+2 from λj=>rfl]at HKA;have xy:=zq (λw1 (hE:Ev w w1)=>(uT.out 0 l1 rfl w1 hE).2.2.2.1);simp only[aw3,axK]at xy;unfold QF at GY;unfold O3 at Ar;rw[<-Rk]at GY;have NC:=zq hall;have HZ1:=zq hz1;have aiC:=zq Xe;have aag:=zq Oc;have wF:=zq pG;have auN:k1<=10000:=by simp at ND;omega
 have auO:k1<=qN:=ae;clear kF l_ nG Rk Xe Oc pG hz1 hall JW hz hagg hrl hlen um ND qM nD uT zT;go_enter func39,ntmps39;go_upto_region 44 with (first
  | ((with_reducible refine(CP.out _ HE.out).mono ?_);rintro r w1 ⟨rfl,aN⟩;have E1:=zq (HE.out.trans aN);have F1:=zq aN;have hx1:=(HX.out.ev aN).lt;have hr1:=(HR.out.ev aN).lt;clear c0 c1 c2 c3 c4;obtain⟨⟨c0,c1,c2,c3,c4⟩,_⟩:=(HX.out.ev aN).five;have o8:=Bx.new 32 ↑Zz.b w1;clear aN)
  | ((with_reducible refine(xq.out _ (E1.out.trans aB)).mono ?_);rintro r w2 ⟨rfl,bM⟩;have F2:=zq ((F1.out.trans aB).trans bM);have BP:=zq (o8.ev bM);obtain⟨⟨p0,p1,p2,p3,p4,p5,p6,p7⟩,z0,z1,z2,z3,z4,z5,z6,z7⟩:=(o8.ev bM).eight;clear bM o8 c0 c1 c2 c3 c4;obtain⟨⟨c0,c1,c2,c3,c4⟩,_⟩:=(HX.out.ev F2.out).five))
 obtain⟨wA,zK⟩:∃wA,wA=w2.setCell ⟨↑w1,0,none⟩ (.int .i64 7):=⟨_,rfl⟩
 rw[<-zK];have Fa:Hid (Bx 32 w1.heap.size #[.int .i64 7,.string ⟨#[]⟩,↑(),↑(),↑(),↑(),↑(),↑()] wA):=zq (by rw[zK];have:=BP.out.set 0 (.int .i64 7);simpa using this);have FA:Hid (Ev w0 wA):=zq (by rw[zK];exact F2.out.box (But.setCell _ _ aj) F1.out.size);have EA:Hid (Ev w wA):=zq (HE.out.trans FA.out);clear zK p0 p1 p2 p3 p4 p5 p6 p7 z0 z1 z2 z3 z4 z5 z6 z7 c0 c1 c2 c3 c4;obtain⟨⟨p0,p1,p2,p3,p4,p5,p6,p7⟩,z0,z1,z2,z3,z4,z5,z6,z7⟩:=Fa.out.eight;obtain⟨⟨c0,c1,c2,c3,c4⟩,_⟩:=(HX.out.ev FA.out).five;have hpA:=Fa.out.lt;have y3:=xy.out _ EA.out;go_upto_region 45 with (first
  | ((with_reducible refine(GY.out _ EA.out).mono ?_);rintro r w3 ⟨X1,rfl,wQ,yH,dV⟩;have ade:=zq wQ;have adf:=zq yH;have E3:=zq dV;clear p0 p1 p2 p3 p4 p5 p6 p7 z0 z1 z2 z3 z4 z5 z6 z7;obtain⟨⟨p0,p1,p2,p3,p4,p5,p6,p7⟩,z0,z1,z2,z3,z4,z5,z6,z7⟩:=(Fa.out.ev dV).eight;clear dV wQ yH))
 obtain⟨wB,hwB⟩:∃wB,wB=w3.setCell ⟨w1.heap.size,4,none⟩ (.slice X1.A X1.l.length X1.cap):=⟨_,rfl⟩
 rw[<-hwB];have IG:But [w1.heap.size] w3 wB:=by rw[hwB];exact But.setCell _ _ aj
 have HGK:Hid (FgK w0 w1.heap.size X1 .nil wB):=zq ⟨by rw[hwB];have:=(Fa.out.ev E3.out).set 4 (.slice X1.A X1.l.length X1.cap);simpa[fH.nil] using this,Ow.nil_ _,(qx adf.out IG (λk hk=>by simp at hk;omega)).low hpA,(FA.out.trans E3.out).box IG F1.out.size,F1.out.size⟩;clear hwB IG p0 p1 p2 p3 p4 p5 p6 p7 z0 z1 z2 z3 z4 z5 z6 z7 c0 c1 c2 c3 c4 y3;have n3:((k1:Int)+1+2-1).toNat=k1+2:=ae;go_wp2
 go_loopw [7,8,14] (λyv av iv wr=>∃(j:Nat) (ag:fH Ag) (e:Er),yv=.int .i64 e.1/\av=.int .i64 (e.2:Int)/\iv=.int .i64 ((j:Int)+2)/\j<=k1/\Hid (FaI al N1.2 j ag.l e)/\Hid (FgK w0 w1.heap.size X1 ag wr)) (λ_ _ iv _=>(k1+2)-(intOf iv).toNat)
 case atStart=>exact⟨0,.nil,N1.2,rfl,rfl,rfl,awJ _,zq (FaI.start _ _ HZ1.out),HGK⟩
 case round=>
  obtain⟨j5,ag,e5,rfl,rfl,rfl,hj,HI,HK⟩:=hrel;have IU:=F1.out.size;have IV:=HR.out.lt;by_cases hcont:j5<k1/\e5.1=0
  ·obtain⟨hlt,he⟩:=hcont;have IW:=(HI.out.ok he).1;subst IW;obtain⟨y,hy⟩:∃y,al[j5]?=some y:=⟨_,awX (by rw[NC.out];exact hlt)⟩
   have HY:=zq hy;have k3:=HKA.out j5 y hy _ (HE.out.trans HK.out.ev);obtain⟨⟨q0,q1,q2,q3,q4,q5,q6,q7⟩,_⟩:=HK.out.box.eight;obtain⟨AR,hAR⟩:∃AR,AR=Vb y.t:=⟨_,rfl⟩
   have aiD:=Ar.out j5 y hy;rw[<-hAR]at aiD;have apx:=zq aiD;have HNX:Hid (FaI al N1.2 (j5+1) (ag.l++[AR.1]) AR.2):=zq (by rw[hAR];exact HI.out.next hy);have hsw:=HK.out.ev.size;have hpl:ag.l.length<=10000:=by have:=HI.out.len;omega
   have Mc:=HK.out.box.lt;have hbr:b<wr.heap.size:=awU hbl (HE.out.trans HK.out.ev).size;have t2:((j5:Int)+2).toNat=j5+2:=ae;have i1:(0:Int)<=(j5:Int)+2:=ae;have i2:(j5:Int)+2<(k1:Int)+1+2-1:=ae;have i3:(j5:Int)+2<(k1:Int)+1+2:=ae;have AV:=Bx.new 54 #[.string ⟨#[]⟩,.string ⟨#[]⟩,.string ⟨#[]⟩] wr;clear hy hAR aiD;go_upto_region 50 with (first
    | ((with_reducible refine(apx.out _ ((HE.out.trans HK.out.ev).trans aB)).mono ?_);rintro r_ w6 ⟨rfl,lS⟩;have E6:=zq ((Ev.alloc wr _).trans lS);have qF:=zq (AV.ev lS);obtain⟨⟨u0,u1,u2⟩,v0,v1,v2⟩:=qF.out.three;clear lS AV q0 q1 q2 q3 q4 q5 q6 q7))
   rw[dI];obtain⟨w8,vY⟩:∃w8,w8=yf wr.heap.size (.string ⟨AR.1.1.toArray⟩) (.string ⟨AR.1.2.1.toArray⟩) (.string ⟨AR.1.2.2.toArray⟩) w6:=⟨_,rfl⟩
   rw[<-vY];have uo:=ve wr.heap.size (.string ⟨AR.1.1.toArray⟩) (.string ⟨AR.1.2.1.toArray⟩) (.string ⟨AR.1.2.2.toArray⟩) w6;have pK:=qF.out.yf (.string ⟨AR.1.1.toArray⟩) (.string ⟨AR.1.2.1.toArray⟩) (.string ⟨AR.1.2.2.toArray⟩);have mD:=E6.out.box uo (awC _);rw[<-vY]at pK mD;have nC:=zq (HK.out.up mD);obtain⟨⟨q0,q1,q2,q3,q4,q5,q6,q7⟩,_⟩:=nC.out.box.eight;clear u0 u1 u2 v0 v1 v2;obtain⟨⟨u0,u1,u2⟩,_⟩:=pK.three;have Md:=mD.size;have Me:=nC.out.box.lt;have N_:=pK.lt;clear vY uo pK mD
   go_wp2_with (first
    | ((show wpList _ _ _ (⟨some 189,_,_,_,_,_⟩::_) _ _);refine aO (o:=⟨some 189,_,_,_,_,_⟩) rfl 29 (.tmp 186) (.tmp 188) rfl Ad underlying29 Tryz.adh rfl rfl (nC.out.up aB).own (some ⟨_,0,none⟩) 1 1 [AR.1] rfl (Sl.one (et:=54) Ad _ AR.1 _ rfl) (by simp;omega) (by simp;omega) (by simp;omega) ?_;intro v2 w7 dY;have vU:=zq dY;obtain⟨A2,cap2,rfl,CQ⟩:=FgK.next (nC.out.up aB) vU.out;obtain⟨⟨o0,o1,o2,o3,o4,o5,o6,o7⟩,t0,t1,t2_,t3,t4,t5,t6,t7⟩:=((nC.out.up aB).after vU.out).eight;have Oa:=zq CQ;clear CQ dY))
   go_roundw
   case rel=>exact⟨j5+1,⟨A2,cap2,ag.l++[AR.1]⟩,AR.2,rfl,rfl,by go_num,ae,HNX,Oa⟩
   case measure=>simp[intOf];omega
  have hex:e5.1=0->j5=al.length:=λh0=>by have:=NC.out;by_cases hjk:j5<k1;exact absurd ⟨hjk,h0⟩ hcont;omega
  have hfin:=HI.out.fin hex;have vP:Hid (bF PT=fU e5 (aU ([z].map λv=>bF v.t))):=zq (by rw[aag.out,hfin.1]);have rX:Hid ((bF PT).1=0->pPlan PT=.mk 7 [] [] [] X1.l [] ag.l ([z].map λv=>pPlan v.t)):=zq (λh=>by
   rw[aag.out,uA,uA]at h;have h5:e5.1=0:=by rw[<-hfin.1,uA];exact h.1
   rw[aiC.out,hfin.2 h5,ade.out,wF.out h.1.1])
  have HZ5:Hid (e5.1=0->e5=(0,0)):=zq λh=>(HI.out.ok h).1;have DN:=zq HK.out.done;have GL:=zq hex;obtain⟨wo,rfl⟩:∃wo:ak,wo=wr:=⟨_,rfl⟩
  have i1:(0:Int)<=(j5:Int)+2:=ae;have i4:(0:Int)<=(k1:Int)+1+2-1:=ae;have i5:(k1:Int)+1+2-1<=(k1:Int)+1+2:=ae;have i6:(k1:Int)+1+2-1<=(qN:Int)+1+2:=ae;have i7:¬(qN+1+2=k1+2):=ae;clear hfin hex HI HK;by_cases hlt:(j5:Int)+2<(k1:Int)+1+2-1;have he5:(e5.1==0)=false:=awy.2 λh=>by have:=GL.out h;have:=NC.out;omega
  exact ayB;exact ayB
structure FcI(cl:List M)(j:Nat)(N:List By)(X:List T)(e:Er):Prop where
 len:N.length=X.length
 le:N.length<=j
 ok:e.1=0->e=(0,0)/\(∀y∈cl.take j,(aU (eQ y.t)).1=0)/\N=((cl.take j).map λy=>rH y.t)/\X=(cl.take j).map λy=>rJ y.t
 bad:e.1≠0->aU (cl.flatMap λy=>eQ y.t)=e
theorem MG{cl:List M}(h:∀y∈cl,(aU (eQ y.t)).1=0):aU (cl.flatMap λy=>eQ y.t)=(0,0):=xu λx hx=>by obtain⟨y,hy,hx⟩:=axV.1 hx;exact(gU _).1 (h y hy) x hx
theorem Pj{cl:List M}{j:Nat}{y:M}(h:∀y∈cl.take j,(aU (eQ y.t)).1=0)(hy:cl[j]?=some y)(hne:(aU (eQ y.t)).1≠0):aU (cl.flatMap λy=>eQ y.t)=aU (eQ y.t):=by
 obtain⟨hk,hx⟩:=awz.1 hy;have hl:cl=cl.take j++y::cl.drop (j+1):=by rw[<-hx,ax8,axs]
 rw[hl,ayf,axS,jK,jK,MG h,wu hne,mP,if_neg hne]
theorem FcI.start(cl:List M):FcI cl 0 [] [] (0,0):=⟨rfl,awC _,λ_=>⟨rfl,aj,aj,aj⟩,λh=>absurd rfl h⟩
theorem adi{y a b:M}(hk:y.kids=[a,b]):eQ y.t=[bK a.t,kC b.t]:=by unfold eQ;rw[M.bD,hk];rfl
theorem MH{y a b:M}(hk:y.kids=[a,b]):aU (eQ y.t)=fU (Hu a.t).2 (kC b.t):=by rw[adi hk,Ri,xG (MC a.t),xG (AY b.t)];show fU _ (fU _ (0,0))=_;rw[yh]
theorem FcI.brk{cl:List M}{j:Nat}{N:List By}{X:List T}{y a b:M}(h:FcI cl j N X (0,0))(hy:cl[j]?=some y)(hk:y.kids=[a,b])(hn:(Hu a.t).2.1≠0):aU (cl.flatMap λy=>eQ y.t)=(Hu a.t).2:=by
 obtain⟨_,h3,_⟩:=h.ok rfl;have hf:aU (eQ y.t)=(Hu a.t).2:=by rw[MH hk,wu hn]
 rw[Pj h3 hy (by rw[hf];exact hn),hf]
theorem FcI.next{cl:List M}{j:Nat}{N:List By}{X:List T}{y a b:M}(h:FcI cl j N X (0,0))(hy:cl[j]?=some y)(hk:y.kids=[a,b])(hn:(Hu a.t).2.1=0):FcI cl (j+1) (N++[(Hu a.t).1]) (X++[(xRead b.t).1]) (xRead b.t).2:=by
 obtain⟨_,h3,h4,h5⟩:=h.ok rfl;obtain⟨hj,e0⟩:=awz.1 hy;have oO:cl.take (j+1)=cl.take j++[y]:=by rw[awH hj,e0]
 have hf:aU (eQ y.t)=kC b.t:=by rw[MH hk,MC _ hn,GX (AY b.t)]
 have XH:rH y.t=(Hu a.t).1:=by unfold rH;rw[M.bD,hk,UG _ hn];rfl
 have hce:rJ y.t=(xRead b.t).1:=by unfold rJ;rw[M.bD,hk];rfl
 refine⟨by simp[h.len],by have:=h.le;simp;omega,λhe=>?_,λhe=>?_⟩;have hz:(kC b.t).1=0:=he;refine⟨AY b.t hz,λz hz2=>?_,?_,?_⟩;rw[oO]at hz2;rcases awV.1 hz2 with h6|h6;exact h3 z h6;simp at h6;rw[h6,hf];exact hz;rw[oO,awM,h4,<-XH];rfl;rw[oO,awM,h5,<-hce];rfl;have hz:(kC b.t).1≠0:=he;rw[Pj h3 hy (by rw[hf];exact hz),hf];rfl
theorem FcI.fin{cl:List M}{e:Er}{j:Nat}{N:List By}{X:List T}(h:FcI cl j N X e)(hj:e.1=0->j=cl.length):aU (cl.flatMap λy=>eQ y.t)=e/\(e.1=0->N=(cl.map λy=>rH y.t)/\X=cl.map λy=>rJ y.t):=by by_cases he:e.1=0;obtain⟨h1,h3,h4,h5⟩:=h.ok he;rw[hj he,axk]at h3 h4 h5;exact⟨by rw[MG h3,h1],λ_=>⟨h4,h5⟩⟩;exact⟨h.bad he,λh0=>absurd h0 he⟩
structure RU(w0:ak)(gp:Nat)(co:fH By)(ex:fH M)(w:ak):Prop where
 box:Bx 32 gp #[.int .i64 3,.string ⟨#[]⟩,.slice ex.A ex.l.length ex.cap,.slice co.A co.l.length co.cap,↑(),↑(),↑(),↑()] w
 ns:Ow 9 1 sc (gp+1) w (.slice co.A co.l.length co.cap) co.l
 es:Ow 47 4 ec (gp+1) w (.slice ex.A ex.l.length ex.cap) ex.l
 apart:∀g,(Value.slice co.A co.l.length co.cap).ownBlock=some g->(Value.slice ex.A ex.l.length ex.cap).ownBlock≠some g
 lies:∀x∈ex.l,Lx (gp+1) (foot (.slice co.A co.l.length co.cap)++foot (.slice ex.A ex.l.length ex.cap)) w x
 ev:Ev w0 w
 Hl:w0.heap.size<=gp
theorem RU.up{w0 w w':ak}{gp:Nat}{co:fH By}{ex:fH M}(h:RU w0 gp co ex w)(hE:Ev w w'):RU w0 gp co ex w':=
 ⟨h.box.ev hE,h.ns.ev hE,h.es.ev hE,h.apart,λx hx=>(h.lies x hx).move (But.aW hE) λ_ hy=>.inl hy,h.ev.trans hE,h.Hl⟩
theorem RU.Ro{w0 w:ak}{gp:Nat}{co:fH By}{ex:fH M}(h:RU w0 gp co ex w):gp∉foot (.slice co.A co.l.length co.cap)/\gp∉foot (.slice ex.A ex.l.length ex.cap):=
 ⟨λhm=>by have:=(h.ns.lt (aG.1 hm)).1;omega,λhm=>by have:=(h.es.lt (aG.1 hm)).1;omega⟩
theorem adk{gp:Nat}{K:List Nat}{w w':ak}{x:M}(h:Lx (gp+1) K w x)(hb:But [gp] w w')(hg:gp<w.heap.size):Lx (gp+1) K w' x:=by
 have h1:Lx (gp+1) (gp::K) w x:=h.less λk hk=>by rcases awN.1 hk with rfl|hk;exact .inr (.inl ae);exact .inl hk
 exact h1.move (hb.wide λk hk=>.inl (by simp at hk;subst hk;exact awL ..)) λk hk=>.inl (awK _ hk)
theorem RU.name{w0 wq w2:ak}{gp:Nat}{co:fH By}{ex:fH M}{s:By}{v2:au}(h:RU w0 gp co ex wq)(hA:mf 9 1 sc (gp+1) wq (.slice co.A co.l.length co.cap) (co.l++[s]) v2 w2):
  ∃A2 cap2,v2=.slice A2 (co.l.length+1) cap2/\RU w0 gp ⟨A2,cap2,co.l++[s]⟩ ex (w2.setCell ⟨gp,3,none⟩ v2)/\∀x,Lx (gp+1) (foot (.slice co.A co.l.length co.cap)++foot (.slice ex.A ex.l.length ex.cap)) wq x->Lx (gp+1) (foot (.slice A2 (co.l++[s]).length cap2)++foot (.slice ex.A ex.l.length ex.cap)) (w2.setCell ⟨gp,3,none⟩ v2) x:=by
 obtain⟨ho,hb,hs⟩:=hA;obtain⟨A2,cap2,rfl,_,_⟩:=ho.form qY;have hl:(co.l++[s]).length=co.l.length+1:=aj;have Ny:=h.box.lt;have hB2:=h.box.but hb h.Ro.1;have Iy:But [gp] w2 (w2.setCell ⟨gp,3,none⟩ (.slice A2 (co.l++[s]).length cap2)):=But.setCell _ _ aj;have J6:Ow 47 4 ec (gp+1) w2 (.slice ex.A ex.l.length ex.cap) ex.l:=h.es.but hb λg yL hm=>h.apart g (aG.1 hm) yL;have hlx:∀x,Lx (gp+1) (foot (.slice co.A co.l.length co.cap)++foot (.slice ex.A ex.l.length ex.cap)) wq x->Lx (gp+1) (foot (.slice A2 (co.l++[s]).length cap2)++foot (.slice ex.A ex.l.length ex.cap)) (w2.setCell ⟨gp,3,none⟩ (.slice A2 (co.l++[s]).length cap2)) x:=by intro x hx;refine adk ?_ Iy (awU Ny hb.size);refine hx.move (hb.wide λy hy=>.inl (awZ _ hy)) λy hy=>?_;exact aAL
 refine⟨A2,cap2,by rw[hl],⟨?_,?_,?_,?_,?_,?_,h.Hl⟩,hlx⟩;have:=hB2.set 3 (.slice A2 (co.l++[s]).length cap2);simpa using this;exact ho.but Iy λg hg=>by have:=(ho.lt hg).1;simp;omega
 exact J6.but Iy λg hg=>by have:=(J6.lt hg).1;simp;omega
 intro g yL he;rcases hs g yL with h1|h1;exact h.apart g h1 he;have:=(h.es.lt he).2;omega;exact λx hx=>hlx x (h.lies x hx);have h1:Ev w0 w2:=((But.aW h.ev).then hb).ev λk hk=>by have:=(h.ns.lt (aG.1 hk)).1;have:=h.Hl;omega
 exact h1.box Iy h.Hl
theorem RU.expr{w0 wq w2:ak}{gp:Nat}{co:fH By}{ex:fH M}{x:M}{v2:au}(h:RU w0 gp co ex wq)(hx:Lx (gp+1) (foot (.slice co.A co.l.length co.cap)++foot (.slice ex.A ex.l.length ex.cap)) wq x)
  (hA:mf 47 4 ec (gp+1) wq (.slice ex.A ex.l.length ex.cap) (ex.l++[x]) v2 w2):
  ∃A2 cap2,v2=.slice A2 (ex.l.length+1) cap2/\RU w0 gp co ⟨A2,cap2,ex.l++[x]⟩ (w2.setCell ⟨gp,2,none⟩ v2):=by
 obtain⟨ho,hb,hs⟩:=hA;obtain⟨A2,cap2,rfl,_,_⟩:=ho.form x8;have hl:(ex.l++[x]).length=ex.l.length+1:=aj;have Ny:=h.box.lt;have hB2:=h.box.but hb h.Ro.2;have Iy:But [gp] w2 (w2.setCell ⟨gp,2,none⟩ (.slice A2 (ex.l++[x]).length cap2)):=But.setCell _ _ aj;have G5:Ow 9 1 sc (gp+1) w2 (.slice co.A co.l.length co.cap) co.l:=h.ns.but hb λg yL hm=>h.apart g yL (aG.1 hm);refine⟨A2,cap2,by rw[hl],?_,?_,?_,?_,?_,?_,h.Hl⟩;have:=hB2.set 2 (.slice A2 (ex.l++[x]).length cap2);simpa using this;exact G5.but Iy λg hg=>by have:=(G5.lt hg).1;simp;omega
 exact ho.but Iy λg hg=>by have:=(ho.lt hg).1;simp;omega
 intro g yL he;rcases hs g he with h1|h1;exact h.apart g yL h1;have:=(h.ns.lt yL).2;omega;intro y hy;refine adk ?_ Iy (awU Ny hb.size);have hy2:Lx (gp+1) (foot (.slice co.A co.l.length co.cap)++foot (.slice ex.A ex.l.length ex.cap)) wq y:=by rcases awV.1 hy with h1|h1;exact h.lies y h1;simp at h1;subst h1;exact hx
 exact aAi;have h1:Ev w0 w2:=((But.aW h.ev).then hb).ev λk hk=>by have:=(h.es.lt (aG.1 hk)).1;have:=h.Hl;omega
 exact h1.box Iy h.Hl
theorem RU.done{w0 w:ak}{gp:Nat}{co:fH By}{ex:fH M}(h:RU w0 gp co ex w):tZ w0 gp (.mk 3 [] ex co .nil .nil .nil none 0 []) w:=by
 obtain⟨A2,cap2,hv,qL,xJ⟩:=h.ns.form qY;injection hv with h1 h2 h3
 obtain⟨A4,cap4,hv4,apz,alN⟩:=h.es.form x8;injection hv4 with h4 h5 h6
 refine tZ.aac rfl rfl rfl ?_ ⟨⟨by show Sl 4 ec w ex.A ex.l.length ex.cap ex.l;rw[h4,h6];exact apz,λad e=>by have e:ex.A=some ad:=e;rw[h4]at e;exact⟨(alN ad e).2.1,(alN ad e).2.2.1,aj⟩⟩,(λx hx=>(h.lies x hx).less λk hk=>by cases hk),⟨by show Sl 1 sc w co.A co.l.length co.cap co.l;rw[h1,h3];exact qL,λad e=>by have e:co.A=some ad:=e;rw[h1]at e;exact⟨(xJ ad e).2.1,(xJ ad e).2.2.1,aj⟩⟩,bI.nil ..,bI.nil ..,bI.nil ..⟩ h.ev h.Hl;exact aBI
theorem aiE{y:M}{b0:Nat}{w:ak}(h:Lies b0 [] w y)(hk:fC y.t=true):∃a e b o,y.kids=[a,e]/\y.A=some ⟨b,o,none⟩/\b<w.heap.size/\(∀w1,Ev w w1->(w1.cell? ⟨b,o,none⟩=some (.int .i64 a.kind)/\w1.cell? ⟨b,o+1,none⟩=some (.string ⟨a.s.toArray⟩)/\w1.cell? ⟨b,o+2,none⟩=some (.int .i64 a.n)/\w1.cell? ⟨b,o+3,none⟩=some (.slice a.A a.kids.length a.cap)/\w1.cell? ⟨b,o+4,none⟩=some (.int .i64 (a.pos:Int)))/\
  (w1.cell? ⟨b,o+5,none⟩=some ↑e.kind/\w1.cell? ⟨b,o+5+1,none⟩=some ↑e.s/\w1.cell? ⟨b,o+5+2,none⟩=some ↑e.n/\w1.cell? ⟨b,o+5+3,none⟩=some (.slice e.A e.kids.length e.cap)/\w1.cell? ⟨b,o+5+4,none⟩=some ↑e.pos))/\Lies b0 [] w a/\Lies b0 [] w e/\2<=y.cap:=by
 unfold fC at hk;rw[awF,awF,M.bD,awD,awO,awO]at hk;obtain⟨a,e,hq⟩:=xg hk.1.2;obtain⟨b,o,hA,hb,_⟩:=Ms.cell h.ms (i:=0) (x:=a) (by rw[hq];rfl);refine⟨a,e,b,o,hq,hA,hb,λw1 hE=>?_,h.kid a (by rw[hq];simp),h.kid e (by rw[hq];simp),by have:=h.ms.le;rw[hq]at this;exact this⟩;obtain⟨b1,o1,hA1,_,c0,c1,c2,c3,c4⟩:=Ms.cell (h.ms.ev hE) (i:=0) (x:=a) (by rw[hq];rfl);obtain⟨b2,o2,dY,_,d0,d1,d2,d3,d4⟩:=Ms.cell (h.ms.ev hE) (i:=1) (x:=e) (by rw[hq];rfl);rw[hA]at hA1 dY;injection hA1 with hA1
 injection hA1 with e1 e2 _
 injection dY with dY
 injection dY with e3 e4 _
 subst e1 e2 e3 e4;simp only[axi,aw2,axK,M.kv]at c0 c1 c2 c3 c4 d0 d1 d2 d3 d4;exact⟨⟨c0,c1,c2,c3,c4⟩,d0,d1,d2,d3,d4⟩
theorem ayD(h:U:=by obtain⟨j,p,e,rfl,rfl,rfl,hj,HI,HK⟩:=hrel;have IU:=F1.out.size;have IV:=HR.out.lt;by_cases he:e.1=0;have IW:=(HI.out.ok he).1;subst IW;by_cases hlt:j<1;exact ayF;obtain rfl:j=1:=ae;have wM:Hid (nV PT=(p.p,0,0)):=zq (tV.vX (p0:=.mk 3 [] ex co .nil .nil .nil none 0 []) (by rw[qQ.out];exact HI.out) rfl vP.out rX.out);exact azb;exact ay1):U:=h
theorem ayC(h:U:=by
 go_upto_region 52 with fail
 go_wp2;have Pg:=zq (λy (hy:y∈[z]) w1 (hE:Ev w w1)=>lM.out y (RS.out y hy) w1 hE);have qQ:=zq (HQ.out w aK).len;have N8:=(HQ.out w aK).le;have N9:=(HQ.out w aK).max
 go_loopw [7,8,16] (λyv av iv wr=>∃(j:Nat) (p:PM) (e:Er),yv=.int .i64 e.1/\av=.int .i64 (e.2:Int)/\iv=↑j/\j<=1/\Hid (tV [z] e5 (.mk 3 [] ex co .nil .nil .nil none 0 []) j p e)/\Hid (tZ w0 w1.heap.size p wr)) (λ_ _ iv _=>1-(intOf iv).toNat)
 case atStart=>exact⟨0,.mk 3 [] ex co .nil .nil .nil none 0 [],e5,rfl,rfl,rfl,awJ _,zq (tV.start _ _ _ rfl HZ5.out),DN⟩
 case round=>
  exact ayD):U:=h
theorem MI(m:M)(b0:Nat)(w:ak)(hL:Lies b0 [] w m)(hfair:m.t.every dh=true)(hsz:m.t.size<=10000)(hf:gu m.t=true)(x:M)(q:List M)(hq:m.kids=x::q)(hs:x.s=cZ)
  (ih:∀y∈q,∀w1,Ev w w1->Calls ax 39 #[.agg ↑y] w1 (bP (nV y.t) w1)):
  Calls ax 39 #[.agg ↑m] w (bP (nV m.t) w):=by
 have ed:Tryz.prog.follows .mixedOrders=true:=ah;obtain⟨kF,l_,nG,hm1,hx2,sO⟩:=mY hq hf;have L9:Lies b0 [w.heap.size] w m:=hL.less λk hk=>by simp at hk;exact .inr (.inr ae)
 obtain⟨b,off,k,c,fE⟩:=vN L9 hq sO;have CP:=zq (λw1 (hE:Ev w w1)=>uH m b0 w1 (hL.ev hE));rw[hf]at CP;have xq:=zq (λw1 (hE:Ev w w1)=>kW m b0 w1 (hL.ev hE));have uh:Qq m.t=x.s:=by rw[Gw,hq];simp[hm1,M.uK,lV,hx2]
 rw[uh,hs]at xq;have zT:=zq (λy (hy:y∈q)=>mZ hq hy hfair hsz);have ND:=q_len hq hsz;have uT:=zq (λi y (hy:q[i]?=some y) w1 (hE:Ev w w1)=>fE.kid (i+1) y (by rw[hq];simpa using hy) w1 (But.aW hE));rw[hs]at kF l_ nG;unfold bP at ih|-;obtain⟨PT,uU⟩:∃PT,PT=m.t:=⟨_,rfl⟩
 rw[<-uU]at kF l_|-;have hA:=fE.hA;have hn:=fE.hn;have hc:=fE.hc;have qM:=fE.qM;have hcm:=fE.hcm;have nD:=fE.nD;have hbl:b<w.heap.size:=(fE.BQ w (But.refl _ _) off _ rfl).2.1;have pW:=zq fE;clear fE uU hq hL L9 hfair hsz sO hf hx2 uh;generalize AQ:m.kids.length=kn at*;generalize wJ:m.A=mA at*;generalize EM:m.cap=mc at*;generalize qE:m.kind=kd at*;generalize hs_:m.s=ms at*;generalize wI:m.n=mn at*;generalize EN:m.pos=mp at*;clear AQ wJ EM qE hs_ wI EN;subst hm1 hA hn hc;obtain⟨w0,hw0,aV,hX,hR⟩:=EZ w (.int .i64 1) ↑ms ↑mn (.slice ↑(b,off) (k+2) (c+2)) ↑mp;have HX:=zq hX;have HR:=zq hR;have HE:=zq aV;have lM:=zq ih;unfold cZ at*;obtain⟨⟨c0,c1,c2,c3,c4⟩,_⟩:=hX.five;clear hX hR aV ih hs;have DK:(decide (2<=(q.map M.t).length)&&((q.map M.t).take ((q.map M.t).length-1)).all fC)=true:=nG;rw[awF,axq,awD,nD,axM,<-axy,axN,awW]at DK;obtain⟨um,wH⟩:=DK;obtain⟨z,hz⟩:∃z,q.drop k=[z]:=uC (by rw[aw',nD];omega);obtain⟨cl,hcl⟩:∃cl,cl=q.take k:=⟨_,rfl⟩
 have hall:cl.length=k:=by rw[hcl,axa];omega
 have aiC:Hid (pPlan PT=.mk 3 [] (cl.map λy=>rJ y.t) (cl.map λy=>rH y.t) [] [] [] ([z].map λy=>pPlan y.t)):=zq (by
  rw[kF,hcl,<-hz];show Pl.mk 3 [] (((q.map M.t).take ((q.map M.t).length-1)).map rJ) (((q.map M.t).take ((q.map M.t).length-1)).map rH) [] [] [] (((q.map M.t).map pPlan).drop ((q.map M.t).length-1))=_;rw[awD,nD,axM,<-axy,awT,awT,awT,<-axG];rfl)
 have aag:Hid (bF PT=fU (aU (cl.flatMap λy=>eQ y.t)) (aU ([z].map λy=>bF y.t))):=zq (by
  rw[l_,hcl,<-hz];show aU (((q.map M.t).take ((q.map M.t).length-1)).flatMap eQ++((q.map M.t).map bF).drop ((q.map M.t).length-1))=_;rw[awD,nD,axM,<-axy,awT,<-axG,List.flatMap_map,jK];rfl)
 have HQ:Hid (∀w1,Ev w w1->Ms w1 (some ⟨b,off+(k+1)*5,none⟩) 1 (c+1-k) [z]):=zq λw1 hE=>by have h1:=(pW.out.rest w1 (But.aW hE)).drop (k:=k) ae;rw[hz]at h1;have e1:off+5+k*5=off+(k+1)*5:=ae;have e2:k+1-k=1:=ae;rw[e1,e2]at h1;exact h1
 have RS:Hid (∀y_∈[z],y_∈q):=zq λy_ hy=>List.mem_of_mem_drop (i:=k) (by rw[hz];exact hy);have hin:∀j y,cl[j]?=some y->q[j]?=some y/\y∈q/\y∈q.take k:=λj y hy=>by
  have hm:=awG hy;rw[hcl]at hy hm;refine⟨?_,axO hm,hm⟩;rw[List.getElem?_take]at hy;split at hy;exact hy
  cases hy
 have Si:=zq (λj y (hy:cl[j]?=some y)=>aiE ((pW.out.lies y (hin j y hy).2.1 w (But.refl _ _)).less λk hk=>by cases hk) (wH y (hin j y hy).2.2));have HKA:=zq (λj y (hy:cl[j]?=some y) w1 (hE:Ev w w1)=>(uT.out j y (hin j y hy).1 w1 hE).2.2.2.1);have Ij:=zq (λj y (hy:cl[j]?=some y)=>zT.out y (hin j y hy).2.1);have NC:=zq hall;have qg:k<=10000:=ae;have ajV:1<=k:=ae;clear kF l_ nG hall hcl hz wH hin ND nD uT zT um;go_enter func39,ntmps39;go_upto_region 19 with (first
  | ((with_reducible refine(CP.out _ HE.out).mono ?_);rintro r w1 ⟨rfl,aN⟩;have E1:=zq (HE.out.trans aN);have F1:=zq aN;have hx1:=(HX.out.ev aN).lt;have hr1:=(HR.out.ev aN).lt;clear c0 c1 c2 c3 c4;obtain⟨⟨c0,c1,c2,c3,c4⟩,_⟩:=(HX.out.ev aN).five;have o8:=Bx.new 32 ↑Zz.b w1;clear aN)
  | ((with_reducible refine(xq.out _ (E1.out.trans aB)).mono ?_);rintro r w2 ⟨rfl,bM⟩;have F2:=zq ((F1.out.trans aB).trans bM);have BP:=zq (o8.ev bM);obtain⟨⟨p0,p1,p2,p3,p4,p5,p6,p7⟩,z0,z1,z2,z3,z4,z5,z6,z7⟩:=(o8.ev bM).eight;clear bM o8 c0 c1 c2 c3 c4;obtain⟨⟨c0,c1,c2,c3,c4⟩,_⟩:=(HX.out.ev F2.out).five))
 obtain⟨wA,zK⟩:∃wA,wA=w2.setCell ⟨↑w1,0,none⟩ (.int .i64 3):=⟨_,rfl⟩
 rw[<-zK];have Fa:Hid (Bx 32 w1.heap.size #[.int .i64 3,.string ⟨#[]⟩,↑(),↑(),↑(),↑(),↑(),↑()] wA):=zq (by rw[zK];have:=BP.out.set 0 (.int .i64 3);simpa using this);have FA:Hid (Ev w0 wA):=zq (by rw[zK];exact F2.out.box (But.setCell _ _ aj) F1.out.size);clear zK p0 p1 p2 p3 p4 p5 p6 p7 z0 z1 z2 z3 z4 z5 z6 z7 c0 c1 c2 c3 c4;obtain⟨⟨p0,p1,p2,p3,p4,p5,p6,p7⟩,z0,z1,z2,z3,z4,z5,z6,z7⟩:=Fa.out.eight;obtain⟨⟨c0,c1,c2,c3,c4⟩,_⟩:=(HX.out.ev FA.out).five;have hpA:=Fa.out.lt;have LU:Hid (RU w0 w1.heap.size .nil .nil wA):=zq ⟨by have:=Fa.out;simpa[fH.nil] using this,Ow.nil_ _,Ow.nil_ _,(λg hg=>by cases hg),(λx hx=>by cases hx),FA.out,F1.out.size⟩;clear p0 p1 p2 p3 p4 p5 p6 p7 z0 z1 z2 z3 z4 z5 z6 z7 c0 c1 c2 c3 c4;have n3:((k:Int)+2-1).toNat=k+1:=ae;go_wp2
 go_loopw [7,8,11] (λyv av iv wr=>∃(j5:Nat) (co:fH By) (ex:fH M) (e5:Er),yv=.int .i64 e5.1/\av=.int .i64 (e5.2:Int)/\iv=.int .i64 ((j5:Int)+1)/\j5<=k/\Hid (FcI cl j5 co.l (ex.l.map M.t) e5)/\Hid (RU w0 w1.heap.size co ex wr)) (λ_ _ iv _=>(k+2)-(intOf iv).toNat)
 case atStart=>exact⟨0,.nil,.nil,(0,0),rfl,rfl,rfl,awJ _,zq (FcI.start _),LU⟩
 case round=>
  obtain⟨j5,co,ex,e5,rfl,rfl,rfl,hj,HI,HK⟩:=hrel;have IU:=F1.out.size;have IV:=HR.out.lt;obtain⟨wo,rfl⟩:∃wo:ak,wo=wr:=⟨_,rfl⟩
  have i1:(0:Int)<=(j5:Int)+1:=ae;have i4:(0:Int)<=(k:Int)+2-1:=ae;have i5:(k:Int)+2-1<=(k:Int)+2:=ae;have i6:(k:Int)+2-1<=(c:Int)+2:=ae;have i7:¬(c+2=k+1):=ae;by_cases hcont:j5<k/\e5.1=0
  ·obtain⟨hlt,he⟩:=hcont;have IW:=(HI.out.ok he).1;subst IW;obtain⟨y,hy⟩:∃y,cl[j5]?=some y:=⟨_,awX (by rw[NC.out];exact hlt)⟩
   obtain⟨a,eb,by_,oy,hyk,hyA,yF,hyc,hLa,hLe,arV⟩:=Si.out j5 y hy;have HK3:Hid (∀w1,Ev w w1->w1.cell? ⟨b,off+(j5+1)*5+3,none⟩=some (.slice ↑(by_,oy) 2 y.cap)):=zq λw1 hE=>by have k3:=HKA.out j5 y hy w1 hE;rw[hyA,hyk]at k3;exact k3
   have k3:=HK3.out _ (HE.out.trans HK.out.ev);have TC:=zq hyc;have hFA:=Ij.out j5 y hy;have haf:a.s.length<=1000000:=rZ hFA.1 a (by rw[hyk];simp);obtain⟨NA,hNA⟩:∃NA,NA=Hu a.t:=⟨_,rfl⟩
   have HN:=zq (λw1=>Bv a w1 haf);rw[<-hNA]at HN;obtain⟨⟨a0,a1,a2,a3,a4⟩,_⟩:=TC.out _ (HE.out.trans HK.out.ev);have hbr:b<wo.heap.size:=awU hbl (HE.out.trans HK.out.ev).size;have hyr:by_<wo.heap.size:=awU yF (HE.out.trans HK.out.ev).size;have t2:((j5:Int)+1).toNat=j5+1:=ae;have i2:(j5:Int)+1<(k:Int)+2-1:=ae;have i3:(j5:Int)+1<(k:Int)+2:=ae;by_cases DX:NA.2.1=0
   ·have hNz:NA.2=(0,0):=by rw[hNA]at DX|-;exact MC _ DX
    have HNX:Hid (FcI cl (j5+1) (co.l++[NA.1]) ((ex.l.map M.t)++[(xRead eb.t).1]) (xRead eb.t).2):=zq (by rw[hNA];exact HI.out.next hy hyk (by rw[<-hNA];exact DX));rw[hNz]at HN;simp only at HN;have hes:eb.t.every dh=true/\eb.t.size<=10000:=mZ (m:=y) (x:=a) hyk aj hFA.1 hFA.2;obtain⟨XR,hXR⟩:∃XR,XR=xRead eb.t:=⟨_,rfl⟩
    have QN:=zq (λw1 (hE:Ev w w1)=>XO eb.dep eb b0 w1 (awC _) (hLe.ev hE) hes.1 (by have:=hes.2;omega));unfold Cf mv M.kv at QN;rw[<-hXR]at QN HNX;have xQ:co.l.length<=10000:=by have:=HI.out.le;omega
    have afe:ex.l.length<=10000:=by have h1:=HI.out.len;have h2:=HI.out.le;rw[awD]at h1;omega
    have Mc:=HK.out.box.lt;clear hy hyk hyA hyc hLa hLe hNA hFA DX hNz hes hXR;go_upto_region 27 with (first
     | ((with_reducible refine(HN.out _).mono ?_);rintro r_ w3 ⟨rfl,dV⟩;have E3:=zq dV;clear k3 a0 a1 a2 a3 a4;have k3:=HK3.out _ ((HE.out.trans HK.out.ev).trans dV);obtain⟨_,⟨a0,a1,a2,a3,a4⟩⟩:=TC.out _ ((HE.out.trans HK.out.ev).trans dV);have auS:b<w3.heap.size:=awU hbr dV.size;have auT:by_<w3.heap.size:=awU hyr dV.size;have hBE:=Bx.new 47 ↑Zz.e w3;clear dV)
     | ((with_reducible refine(QN.out _ (((HE.out.trans HK.out.ev).trans E3.out).trans aB)).mono ?_);rintro r_ w4 ⟨x,rfl,jM,iH,fG⟩;have qK:=zq jM;have pX:=zq iH;have E4:=zq ((Ev.alloc w3 _).trans fG);have HBE:=zq (hBE.ev fG);obtain⟨⟨u0,u1,u2,u3⟩,v0,v1,v2,v3⟩:=HBE.out.four;clear jM iH fG hBE))
    rw[dS];obtain⟨w8,vY⟩:∃w8,w8=kP w3.heap.size ↑x.kind ↑x.s ↑x.n (.slice x.A x.kids.length x.cap) w4:=⟨_,rfl⟩
    rw[<-vY];have uo:=eY w3.heap.size ↑x.kind ↑x.s ↑x.n (.slice x.A x.kids.length x.cap) w4;have pK:=HBE.out.kP ↑x.kind ↑x.s ↑x.n (.slice x.A x.kids.length x.cap);have mD:=E4.out.box uo (awC _);have aiF:=GI pX.out uo (λk hk=>by simp at hk;simp;omega);rw[<-vY]at pK mD aiF;have nC:=zq (HK.out.up (E3.out.trans mD));have HB8:=zq pK;have aiG:∀k∈foot (.slice co.A co.l.length co.cap),k<w3.heap.size:=λk hk=>awU (HK.out.ns.lt (aG.1 hk)).2 E3.out.size;have alP:∀k∈foot (.slice ex.A ex.l.length ex.cap),k<w3.heap.size:=λk hk=>awU (HK.out.es.lt (aG.1 hk)).2 E3.out.size;have auU:w1.heap.size<w3.heap.size:=awU HK.out.box.lt E3.out.size;have HXK:Hid (Lx (w1.heap.size+1) (foot (.slice co.A co.l.length co.cap)++foot (.slice ex.A ex.l.length ex.cap)) w8 x):=zq ((aiF.less λk hk=>by
     rcases awV.1 hk with h1|h1;exact .inr (.inl (by have:=aiG k h1;simp;omega));exact .inr (.inl (by have:=alP k h1;simp;omega))).low (by simp;omega))
    have apC:=zq aiG;obtain⟨⟨q0,q1,q2,q3,q4,q5,q6,q7⟩,_⟩:=nC.out.box.eight;have Md:=mD.size;have Me:=nC.out.box.lt;have arX:=nC.out.ev.size;clear u0 u1 u2 u3 v0 v1 v2 v3 a0 a1 a2 a3 a4 k3 vY uo pK mD aiF aiG alP;go_upto_region 28 with (first
     | ((show wpList _ _ _ (⟨some 101,_,_,_,_,_⟩::_) _ _);refine aO (o:=⟨some 101,_,_,_,_,_⟩) rfl 22 (.tmp 98) (.tmp 100) rfl qY underlying22 Tryz.I_ rfl rfl (nC.out.up aB).ns (some ⟨_,0,none⟩) 1 1 [NA.1] rfl (Sl.one (et:=9) qY _ NA.1 _ rfl) (by simp;omega) (by simp;omega) (by simp;omega) ?_;intro v2 w9 dY;have vU:=zq dY;obtain⟨A2,cap2,rfl,hF9,hX9⟩:=RU.name (nC.out.up aB) vU.out;have HX9:=zq (hX9 x ((HXK.out.move (But.aW aB) λ_ h=>.inl h)));obtain⟨⟨o0,o1,o2,o3,o4,o5,o6,o7⟩,t0,t1,t2_,t3,t4,t5,t6,t7⟩:=((nC.out.up aB).box.but vU.out.2.1 nC.out.Ro.1).eight;have HF9:=zq hF9;have HB9:=zq ((HB8.out.ev aB).but vU.out.2.1 λhm=>by have:=apC.out _ hm;omega);have auZ:=vU.out.2.1.size;clear hF9 dY hX9 q0 q1 q2 q3 q4 q5 q6 q7))
    obtain⟨wC,hwC⟩:∃wC,wC=w9.setCell ⟨w1.heap.size,3,none⟩ (.slice A2 (co.l.length+1) cap2):=⟨_,rfl⟩
    rw[<-hwC];have HFC:Hid (RU w0 w1.heap.size ⟨A2,cap2,co.l++[NA.1]⟩ ex wC):=zq (by rw[hwC];exact HF9.out);have HXC:Hid (Lx (w1.heap.size+1) (foot (.slice A2 (co.l++[NA.1]).length cap2)++foot (.slice ex.A ex.l.length ex.cap)) wC x):=zq (by rw[hwC];exact HX9.out);have HBC:Hid (Bx 47 w3.heap.size ↑(x,()) wC):=zq (by rw[hwC];exact HB9.out.but (But.setCell (K:=[w1.heap.size]) _ _ aj) (by simp;omega));obtain⟨⟨q0,q1,q2,q3,q4,q5,q6,q7⟩,_⟩:=HFC.out.box.eight;obtain⟨⟨u0,u1,u2,u3⟩,_⟩:=HBC.out.four;have au0:=HFC.out.box.lt;have au1:=HBC.out.lt;have au2:=HFC.out.ev.size;clear hwC o0 o1 o2 o3 o4 o5 o6 o7 t0 t1 t2_ t3 t4 t5 t6 t7;simp only at q0 q1 q2 q3 q4 q5 q6 q7
    go_wp2_with (first
     | ((show wpList _ _ _ (⟨some 107,_,_,_,_,_⟩::_) _ _);refine aO (o:=⟨some 107,_,_,_,_,_⟩) rfl 28 (.tmp 104) (.tmp 106) rfl x8 underlying28 Tryz.zX rfl rfl (HFC.out.up aB).es (some ⟨_,0,none⟩) 1 1 [x] rfl (Sl.one (et:=47) x8 _ x _ rfl) (by simp;omega) (by simp;omega) (by simp;omega) ?_;intro v2 w10 hA3;have HA3:=zq hA3;obtain⟨A3,cap3,rfl,alQ⟩:=RU.expr (HFC.out.up aB) (HXC.out.move (But.aW aB) λ_ h=>.inl h) HA3.out;obtain⟨⟨o0,o1,o2,o3,o4,o5,o6,o7⟩,t0,t1,t2_,t3,t4,t5,t6,t7⟩:=((HFC.out.up aB).box.but HA3.out.2.1 HFC.out.Ro.2).eight;have apE:=zq alQ;clear alQ hA3))
    go_roundw
    case rel=>exact⟨j5+1,⟨A2,cap2,co.l++[NA.1]⟩,⟨A3,cap3,ex.l++[x]⟩,XR.2,rfl,rfl,by go_num,ae,zq (by have h1:=HNX.out;rw[<-qK.out]at h1;simpa using h1),apE⟩
    case measure=>simp[intOf];omega
   have hnb:(NA.2.1==0)=false:=awy.2 DX;have BO:(NA.2.1 !=0)=true:=by simp[DX]
   have hbk:=HI.out.brk hy hyk (by rw[<-hNA];exact DX);have vP:Hid (bF PT=fU NA.2 (aU ([z].map λv=>bF v.t))):=zq (by rw[aag.out,hbk,hNA]);have AO:=zq DX;have rX:Hid ((bF PT).1=0->pPlan PT=.mk 3 [] (ex.l.map M.t) co.l [] [] [] ([z].map λv=>pPlan v.t)):=zq (λh=>by rw[vP.out,uA]at h;exact absurd h.1 AO.out);clear hy hyk hyA hyc hLa hLe hNA hFA DX hbk;go_upto_region 52 with (first
    | ((with_reducible refine(HN.out _).mono ?_);rintro r_ w3 ⟨rfl,dV⟩;have DN:=zq (HK.out.up dV).done;clear dV))
   go_wp2;have Pg:=zq (λy (hy:y∈[z]) w1 (hE:Ev w w1)=>lM.out y (RS.out y hy) w1 hE);have qQ:=zq (HQ.out w aK).len;have N8:=(HQ.out w aK).le;have N9:=(HQ.out w aK).max
   go_loopw [7,8,16] (λyv av iv wr=>∃(j:Nat) (p:PM) (e:Er),yv=.int .i64 e.1/\av=.int .i64 (e.2:Int)/\iv=↑j/\j<=1/\Hid (tV [z] NA.2 (.mk 3 [] ex co .nil .nil .nil none 0 []) j p e)/\Hid (tZ w0 w1.heap.size p wr)) (λ_ _ iv _=>1-(intOf iv).toNat)
   case atStart=>exact⟨0,.mk 3 [] ex co .nil .nil .nil none 0 [],NA.2,rfl,rfl,rfl,awJ _,zq (tV.start _ _ _ rfl (λh=>absurd h AO.out)),DN⟩
   case round=>
    exact ayD
  have hex:e5.1=0->j5=cl.length:=λh0=>by have:=NC.out;by_cases hjk:j5<k;exact absurd ⟨hjk,h0⟩ hcont;omega
  have hfin:=HI.out.fin hex;have vP:Hid (bF PT=fU e5 (aU ([z].map λv=>bF v.t))):=zq (by rw[aag.out,hfin.1]);have rX:Hid ((bF PT).1=0->pPlan PT=.mk 3 [] (ex.l.map M.t) co.l [] [] [] ([z].map λv=>pPlan v.t)):=zq (λh=>by
   rw[aag.out,uA]at h;have h5:e5.1=0:=by rw[<-hfin.1];exact h.1
   rw[aiC.out,(hfin.2 h5).1,(hfin.2 h5).2])
  have HZ5:Hid (e5.1=0->e5=(0,0)):=zq λh=>(HI.out.ok h).1;have DN:=zq HK.out.done;have GL:=zq hex;clear hfin hex HI HK;by_cases hlt:(j5:Int)+1<(k:Int)+2-1;have he5:(e5.1==0)=false:=awy.2 λh=>by have:=GL.out h;have:=NC.out;omega
  exact ayC;exact ayC
theorem Rq(N:Nat):∀(m:M) (b0:Nat) (w:ak),m.dep<=N->Lies b0 [] w m->m.t.every dh=true->m.t.size<=10000->
  Calls ax 39 #[.agg ↑m] w (bP (nV m.t) w):=by
 induction N with
 | zero=>
  intro m b0 w hd;rw[M.lh]at hd;omega
 | succ N ih=>
  intro m b0 w hd hL hfair hsz
  cases hf:gu m.t
  exact UF m b0 w hL hf;obtain⟨x,q,hq⟩:∃x q,m.kids=x::q:=by
   cases hk:m.kids with
   | nil=>
    rw[Ah,hk]at hf;simp at hf
   | cons x q=>exact⟨x,q,rfl⟩
  have Vd:∀y∈q,∀w1,Ev w w1->Calls ax 39 #[.agg ↑y] w1 (bP (nV y.t) w1):=λy hy w1 hE=>by
   have WN:y∈m.kids:=by rw[hq];exact awK _ hy
   have hqs:=mZ hq hy hfair hsz;exact ih y b0 w1 (by have:=M.jY WN;omega) ((hL.kid y WN).ev hE) hqs.1 hqs.2
  have hk:gq x.s≠0:=λh0=>by
   have:=(mY hq hf).2.2.1;rw[h0]at this
   cases this
  rcases Ii hk with hs|hs|hs|hs|hs|hs|hs;exact Rj m b0 w hL hfair hsz hf x q hq hs Vd;exact Ob m b0 w hL hfair hsz hf x q hq hs Vd;exact MI m b0 w hL hfair hsz hf x q hq hs Vd;obtain⟨l,r,hlr⟩:∃l r,q=l::r:=by
   cases hk:q with
   | nil=>have:=(mY hq hf).2.2.2.2.2;rw[hk]at this;simp at this
   | cons l r=>exact⟨l,r,rfl⟩
  by_cases h0:(zM (l.kids.map M.t)).2.1=0;exact Oe m b0 w hL hfair hsz hf x q hq hs (λl' r' e=>by rw[hlr]at e;injection e with e1 e2;rw[<-e1];exact h0) Vd;exact MF m b0 w hL hfair hsz hf x q hq hs (λl' r' e=>by rw[hlr]at e;injection e with e1 e2;rw[<-e1];exact h0) Vd;exact Rf m b0 w hL hfair hsz hf x q hq hs Vd;exact IX m b0 w hL hfair hsz hf x q hq hs Vd;exact Rl m b0 w hL hfair hsz hf x q hq hs Vd
def dH(s:By):abJ:=if (dO s).2.1==0 then pFrom (dO s).1 else (iC,(dO s).2.1,(dO s).2.2)
theorem MJ(s:By)(h:(dH s).2.1=0):WrP (dH s).1:=by unfold dH at h|-;by_cases hc:(dO s).2.1=0;rw[if_pos (by simp[hc])]at h|-;obtain⟨h1,h2,h3⟩:=Eh s hc;unfold pFrom at h|-;by_cases he:(bF (dO s).1).1=0;rw[if_pos (by simp[he])]at h|-;by_cases hl:600<(printS (aH (pPlan (dO s).1))).length;rw[if_pos hl]at h;exact absurd h ai;rw[if_neg hl];obtain⟨h4,h5⟩:=EH h1 h3 he;refine⟨h4,?_,by show (printS (aH (pPlan (dO s).1))).length<=600;omega⟩;show (aH (pPlan (dO s).1)).deep<=12;rw[h5,KI];exact h2;rw[if_neg (by simpa using he)]at h;exact absurd h he;rw[if_neg (by simpa using hc)]at h;exact absurd h hc
theorem MK(s:By):(dO s).1.every dh=true:=(abE s).1
theorem UI(s:By)(h:(dH s).2.1≠0):(dH s).1=iC:=by unfold dH at h|-;split;rename_i hc;rw[if_pos hc]at h;unfold pFrom at h|-;split;rename_i he;rw[if_pos he]at h;split;rfl;rename_i hl;rw[if_neg hl]at h;exact absurd rfl h;rfl;rfl
theorem Xg(s:By)(w:ak)(hs:s.length<=100000)(hc:(dO s).2.1≠0):
  Calls ax 19 #[↑s] w (bP (dH s) w):=by
 have DU:=zq (λw1=>I7 ⟨s.toArray⟩ w1 hs);obtain⟨w0,hw0,aV,hB0,hs0⟩:=uF w;have ui:=zq hB0;have cu:=zq aV;have hg:=hB0.lt;have hR:dH s=(iC,(dO s).2.1,(dO s).2.2):=by unfold dH;rw[if_neg (by simpa using hc)]
 rw[hR];have hcb:((dO s).2.1==0)=false:=awy.2 hc;have XH:((dO s).2.1 !=0)=true:=by simp[hc]
 unfold sF at DU;unfold bP;clear aV hB0 hs hc hR hs0;go_enter func19,ntmps19
 go_wp2_with (first
  | ((with_reducible refine(DU.out _).mono ?_);rintro r w1 ⟨m,rfl,Fq,hmL,aN⟩;have E1:=zq (cu.out.trans aN);have gG:=zq ((ui.out.ev aN).ev (Ev.alloc w1 (.cells ↑m 79)));obtain⟨⟨r0,r1,r2,r3,r4,r5,r6,r7⟩,s0,s1,s2,s3,s4,s5,s6,s7⟩:=gG.out.eight;clear Fq hmL aN))
 (try simp only[Exit.inBlock,Exit.then]);rw[bH];obtain⟨f1,f2⟩:=lZ (awC w.heap.size) (E1.out.trans aB) gG.out (.int .i64 0) (.string ⟨#[]⟩) ↑() ↑() ↑() ↑() ↑() ↑();refine ayr (aI rfl _ _ _ _ _ rfl f1 underlying32 rfl Tryz.bY) rfl ?_;exact⟨jR,rfl,iE,Qx.zero _ _ _,f2⟩
theorem Xh(s:By)(w:ak)(hs:s.length<=100000)(hc:(dO s).2.1=0)(he:(bF (dO s).1).1≠0):
  Calls ax 19 #[↑s] w (bP (dH s) w):=by
 have DU:=zq (λw1=>I7 ⟨s.toArray⟩ w1 hs);obtain⟨w0,hw0,aV,hB0,hs0⟩:=uF w;have ui:=zq hB0;have cu:=zq aV;have hg:=hB0.lt;have hR:dH s=(iC,(bF (dO s).1).1,(bF (dO s).1).2):=by unfold dH pFrom;rw[if_pos (by simp[hc]),if_neg (by simpa using he)]
 have hF:nV (dO s).1=(iC,(bF (dO s).1).1,(bF (dO s).1).2):=by unfold nV;rw[if_neg he]
 rw[hR];have heb:((bF (dO s).1).1==0)=false:=awy.2 he;obtain⟨h1,h2,h3⟩:=Eh s hc;have Ij:=zq (MK s);have zQ:=zq h3;have hcb:((dO s).2.1==0)=true:=by simp[hc]
 unfold sF at DU;simp only at DU;rw[hc]at DU;unfold bP;obtain⟨TT,hTT⟩:∃TT,TT=(dO s).1:=⟨_,rfl⟩
 rw[<-hTT]at Ij zQ hF heb|-;have Nz:=zq hTT;have HF:=zq hF;clear aV hB0 hs hc he hR hs0 h1 h2 h3 hcb hTT hF;go_enter func19,ntmps19
 go_wp2_with (first
  | ((with_reducible refine(DU.out _).mono ?_);rintro r w1 ⟨m,rfl,Fq,hmL,aN⟩;have Fq:=Fq.trans Nz.out.symm;have E1:=zq (cu.out.trans aN);have F1:=zq aN;have hBT:=Bx.new 79 ↑m w1;obtain⟨⟨k0,k1,k2,k3,k4⟩,_⟩:=hBT.five;have hFR:=Rq m.dep m w0.heap.size (w1.alloc (.cells ↑m 79)) (awC _) (hmL.ev aB) (by rw[Fq];exact Ij.out) (by rw[Fq];have:=zQ.out;omega);rw[Fq,HF.out]at hFR;have HFR:=zq hFR;clear Fq hmL aN hFR hBT)
  | ((with_reducible refine(HFR.out).mono ?_);rintro r w2 ⟨x,rfl,tX,wO,bM⟩;have Ik:=zq tX;have DW:=zq wO;have E2:=zq ((Ev.alloc w1 _).trans bM);have jF:=zq (ui.out.ev (F1.out.trans E2.out));obtain⟨⟨r0,r1,r2,r3,r4,r5,r6,r7⟩,s0,s1,s2,s3,s4,s5,s6,s7⟩:=jF.out.eight;have hg2:w.heap.size<w2.heap.size:=awU hg (F1.out.trans E2.out).size;clear tX wO bM))
 (try simp only[Exit.inBlock,Exit.then]);rw[bH];obtain⟨f1,f2⟩:=lZ (awC w.heap.size) (E1.out.trans E2.out) jF.out ↑x.kind ↑x.name (.slice x.ex.A x.ex.l.length x.ex.cap) (.slice x.co.A x.co.l.length x.co.cap) (.slice x.lf.A x.lf.l.length x.lf.cap) (.slice x.rt.A x.rt.l.length x.rt.cap) (.slice x.ag.A x.ag.l.length x.ag.cap) (.slice x.A x.kids.length x.cap);refine ayr (aI rfl _ _ _ _ _ rfl (f1.ev aB) underlying32 rfl Tryz.bY) rfl ?_;refine⟨x,rfl,Ik.out,?_,f2.trans aB⟩;exact((lW DW.out (dw _ _ _ _ _ _ _ _ _ _) (λk hk=>by simp at hk;simp;have:=E1.out.size;omega)).ev aB).low (by simp;have:=E1.out.size;omega)
theorem UJ(s:By)(w:ak)(hs:s.length<=100000)(hc:(dO s).2.1=0)(he:(bF (dO s).1).1=0)(hl:600<(printS (aH (pPlan (dO s).1))).length):
  Calls ax 19 #[↑s] w (bP (dH s) w):=by
 have DU:=zq (λw1=>I7 ⟨s.toArray⟩ w1 hs);obtain⟨w0,hw0,aV,hB0,hs0⟩:=uF w;have ui:=zq hB0;have cu:=zq aV;have hg:=hB0.lt;have hR:dH s=(iC,3,0):=by unfold dH pFrom;rw[if_pos (by simp[hc]),if_pos (by simp[he]),if_pos hl]
 have hF:nV (dO s).1=(pPlan (dO s).1,0,0):=by unfold nV;rw[if_pos he]
 rw[hR];obtain⟨h1,h2,h3⟩:=Eh s hc;have Ij:=zq (MK s);have zQ:=zq h3;have hcb:((dO s).2.1==0)=true:=by simp[hc]
 unfold sF at DU;simp only at DU;rw[hc]at DU;unfold bP;obtain⟨TT,hTT⟩:∃TT,TT=(dO s).1:=⟨_,rfl⟩
 obtain⟨hwr,_⟩:=EH h1 h3 he;have hgood:=hwr.good;have hz6:=hwr.size;have hlen:=hwr.len;obtain⟨PS,vT⟩:∃PS,PS=printS (aH (pPlan (dO s).1)):=⟨_,rfl⟩
 rw[<-vT]at hl;rw[<-hTT]at Ij zQ hF hgood hz6 hlen vT;have Nz:=zq hTT;have HF:=zq hF;have HG:=zq hgood;have ZU:=zq hz6;have qX:=zq hlen;have tJ:=zq vT;have hpl:PS.length<=1000000:=by rw[vT];exact hlen
 have hsz:=dJ PS;have MV:(600:Int)<(PS.length:Int):=ae;clear aV hB0 hs hc he hR hs0 h1 h2 h3 hcb hTT hF hwr hgood hz6 hlen vT hl;go_enter func19,ntmps19
 go_wp2_with (first
  | ((with_reducible refine(DU.out _).mono ?_);rintro r w1 ⟨m,rfl,Fq,hmL,aN⟩;have Fq:=Fq.trans Nz.out.symm;have E1:=zq (cu.out.trans aN);have F1:=zq aN;have hBT:=Bx.new 79 ↑m w1;obtain⟨⟨k0,k1,k2,k3,k4⟩,_⟩:=hBT.five;have hFR:=Rq m.dep m w0.heap.size (w1.alloc (.cells ↑m 79)) (awC _) (hmL.ev aB) (by rw[Fq];exact Ij.out) (by rw[Fq];have:=zQ.out;omega);rw[Fq,HF.out]at hFR;have HFR:=zq hFR;clear Fq hmL aN hFR hBT)
  | ((with_reducible refine(HFR.out).mono ?_);rintro r w2 ⟨x,rfl,tX,wO,bM⟩;have tX:x.p=pPlan TT:=tX;have Ik:=zq tX;have DW:=zq wO;have E2:=zq ((Ev.alloc w1 _).trans bM);have hg2:w.heap.size<w2.heap.size:=awU hg (F1.out.trans E2.out).size;have hBX:=Bx.new 32 ↑x w2;have HBX:=zq hBX;obtain⟨⟨q0,q1,q2,q3,q4,q5,q6,q7⟩,_⟩:=hBX.eight;have UK:=QY x.dep x _ (w2.alloc (.cells ↑x 32)) (awC _) (wO.ev aB) (by rw[tX];exact HG.out) (by rw[tX];have:=ZU.out;omega) (by rw[tX];exact qX.out);unfold mG at UK;rw[tX]at UK;unfold pv fH.v PM.kv at UK;have UK:=UK;rw[<-tJ.out]at UK;have HT9:=zq UK;clear tX wO bM UK hBX)
  | ((with_reducible refine(HT9.out).mono ?_);rintro r w3 ⟨rfl,dV⟩;have E3:=zq ((Ev.alloc w2 _).trans dV);have F3:=zq dV;have ZO:=zq (ui.out.ev ((F1.out.trans E2.out).trans E3.out));obtain⟨⟨r0,r1,r2,r3,r4,r5,r6,r7⟩,s0,s1,s2,s3,s4,s5,s6,s7⟩:=ZO.out.eight;clear q0 q1 q2 q3 q4 q5 q6 q7;obtain⟨⟨q0,q1,q2,q3,q4,q5,q6,q7⟩,_⟩:=(HBX.out.ev dV).eight;clear dV))
 (try simp only[Exit.inBlock,Exit.then]);rw[bH];obtain⟨f1,f2⟩:=lZ (awC w.heap.size) ((E1.out.trans E2.out).trans E3.out) ZO.out (.int .i64 0) (.string ⟨#[]⟩) ↑() ↑() ↑() ↑() ↑() ↑();refine ayr (aI rfl _ _ _ _ _ rfl f1 underlying32 rfl Tryz.bY) rfl ?_;exact⟨jR,rfl,iE,Qx.zero _ _ _,f2⟩
theorem aah(s:By)(w:ak)(hs:s.length<=100000)(hc:(dO s).2.1=0)(he:(bF (dO s).1).1=0)(hl:¬600<(printS (aH (pPlan (dO s).1))).length):
  Calls ax 19 #[↑s] w (bP (dH s) w):=by
 have DU:=zq (λw1=>I7 ⟨s.toArray⟩ w1 hs);obtain⟨w0,hw0,aV,hB0,hs0⟩:=uF w;have ui:=zq hB0;have cu:=zq aV;have hg:=hB0.lt;have hR:dH s=(pPlan (dO s).1,0,0):=by unfold dH pFrom;rw[if_pos (by simp[hc]),if_pos (by simp[he]),if_neg hl]
 have hF:nV (dO s).1=(pPlan (dO s).1,0,0):=by unfold nV;rw[if_pos he]
 rw[hR];obtain⟨h1,h2,h3⟩:=Eh s hc;have Ij:=zq (MK s);have zQ:=zq h3;have hcb:((dO s).2.1==0)=true:=by simp[hc]
 unfold sF at DU;simp only at DU;rw[hc]at DU;unfold bP;obtain⟨TT,hTT⟩:∃TT,TT=(dO s).1:=⟨_,rfl⟩
 obtain⟨hwr,_⟩:=EH h1 h3 he;have hgood:=hwr.good;have hz6:=hwr.size;have hlen:=hwr.len;obtain⟨PS,vT⟩:∃PS,PS=printS (aH (pPlan (dO s).1)):=⟨_,rfl⟩
 rw[<-vT]at hl;rw[<-hTT]at Ij zQ hF hgood hz6 hlen vT|-;have Nz:=zq hTT;have HF:=zq hF;have HG:=zq hgood;have ZU:=zq hz6;have qX:=zq hlen;have tJ:=zq vT;have hpl:PS.length<=1000000:=by rw[vT];exact hlen
 have hsz:=dJ PS;have MV:¬((600:Int)<(PS.length:Int)):=ae;clear aV hB0 hs hc he hR hs0 h1 h2 h3 hcb hTT hF hwr hgood hz6 hlen vT hl;go_enter func19,ntmps19
 go_wp2_with (first
  | ((with_reducible refine(DU.out _).mono ?_);rintro r w1 ⟨m,rfl,Fq,hmL,aN⟩;have Fq:=Fq.trans Nz.out.symm;have E1:=zq (cu.out.trans aN);have F1:=zq aN;have hBT:=Bx.new 79 ↑m w1;obtain⟨⟨k0,k1,k2,k3,k4⟩,_⟩:=hBT.five;have hFR:=Rq m.dep m w0.heap.size (w1.alloc (.cells ↑m 79)) (awC _) (hmL.ev aB) (by rw[Fq];exact Ij.out) (by rw[Fq];have:=zQ.out;omega);rw[Fq,HF.out]at hFR;have HFR:=zq hFR;clear Fq hmL aN hFR hBT)
  | ((with_reducible refine(HFR.out).mono ?_);rintro r w2 ⟨x,rfl,tX,wO,bM⟩;have tX:x.p=pPlan TT:=tX;have Ik:=zq tX;have DW:=zq wO;have E2:=zq ((Ev.alloc w1 _).trans bM);have hg2:w.heap.size<w2.heap.size:=awU hg (F1.out.trans E2.out).size;have hBX:=Bx.new 32 ↑x w2;have HBX:=zq hBX;obtain⟨⟨q0,q1,q2,q3,q4,q5,q6,q7⟩,_⟩:=hBX.eight;have UK:=QY x.dep x _ (w2.alloc (.cells ↑x 32)) (awC _) (wO.ev aB) (by rw[tX];exact HG.out) (by rw[tX];have:=ZU.out;omega) (by rw[tX];exact qX.out);unfold mG at UK;rw[tX]at UK;unfold pv fH.v PM.kv at UK;have UK:=UK;rw[<-tJ.out]at UK;have HT9:=zq UK;clear tX wO bM UK hBX)
  | ((with_reducible refine(HT9.out).mono ?_);rintro r w3 ⟨rfl,dV⟩;have E3:=zq ((Ev.alloc w2 _).trans dV);have F3:=zq dV;have ZO:=zq (ui.out.ev ((F1.out.trans E2.out).trans E3.out));obtain⟨⟨r0,r1,r2,r3,r4,r5,r6,r7⟩,s0,s1,s2,s3,s4,s5,s6,s7⟩:=ZO.out.eight;clear q0 q1 q2 q3 q4 q5 q6 q7;obtain⟨⟨q0,q1,q2,q3,q4,q5,q6,q7⟩,_⟩:=(HBX.out.ev dV).eight;clear dV))
 (try simp only[Exit.inBlock,Exit.then]);rw[bH];obtain⟨f1,f2⟩:=lZ (awC w.heap.size) ((E1.out.trans E2.out).trans E3.out) ZO.out ↑x.kind ↑x.name (.slice x.ex.A x.ex.l.length x.ex.cap) (.slice x.co.A x.co.l.length x.co.cap) (.slice x.lf.A x.lf.l.length x.lf.cap) (.slice x.rt.A x.rt.l.length x.rt.cap) (.slice x.ag.A x.ag.l.length x.ag.cap) (.slice x.A x.kids.length x.cap);refine ayr (aI rfl _ _ _ _ _ rfl f1 underlying32 rfl Tryz.bY) rfl ?_;refine⟨x,rfl,Ik.out,?_,f2⟩;exact(lW ((DW.out.ev aB).ev F3.out) (dw _ _ _ _ _ _ _ _ _ _) (λk hk=>by simp at hk;simp;have:=E1.out.size;omega)).low (by simp;have:=E1.out.size;omega)
theorem Yv(s:By)(w:ak)(hs:s.length<=100000):Calls ax 19 #[↑s] w (bP (dH s) w):=by by_cases hc:(dO s).2.1=0;by_cases he:(bF (dO s).1).1=0;by_cases hl:600<(printS (aH (pPlan (dO s).1))).length;exact UJ s w hs hc he hl;exact aah s w hs hc he hl;exact Xh s w hs hc he;exact Xg s w hs hc
end Go.Proofs.YtpbfokkocaemlaaGreatDoor
