import Derived.Test.YtpbfokkocaemlaaGreatDoorZ34J
set_option linter.unusedVariables false
set_option maxRecDepth 100000
set_option maxHeartbeats 64000000
namespace Go.Proofs.YtpbfokkocaemlaaGreatDoor
open Go.RowKit
open Go.Lib renaming hid → zq
open Go renaming World → ak
open Go renaming Value → au
open Go.Proofs.Tryz renaming prog → ax
variable {U:Prop}
open Go.Proofs.Tryz
structure ZZ(cl:List M)(j:Nat)(N:List By)(X:List T)(e:Er):Prop where
 len:N.length=X.length
 le:N.length<=j
 ok:e.1=0->e=(0,0)/\(∀y∈cl.take j,(aT (ed y.t)).1=0)/\N=((cl.take j).map λy=>qP y.t)/\X=(cl.take j).map λy=>qQ y.t
 bad:e.1≠0->aT (cl.flatMap λy=>ed y.t)=e
theorem Md{cl:List M}(h:∀y∈cl,(aT (ed y.t)).1=0):aT (cl.flatMap λy=>ed y.t)=(0,0):=wY λx hx=>by obtain⟨y,hy,hx⟩:=axx.1 hx;exact(gI _).1 (h y hy) x hx
theorem O4{cl:List M}{j:Nat}{y:M}(h:∀y∈cl.take j,(aT (ed y.t)).1=0)(hy:cl[j]?=some y)(hne:(aT (ed y.t)).1≠0):aT (cl.flatMap λy=>ed y.t)=aT (ed y.t):=by
 obtain⟨hk,hx⟩:=awi.1 hy;have hl:cl=cl.take j++y::cl.drop (j+1):=by rw[<-hx,axZ,axf]
 rw[hl,axU,axv,jE,jE,Md h,vY hne,lY,if_neg hne]
theorem ZZ.start(cl:List M):ZZ cl 0 [] [] (0,0):=⟨rfl,awj _,λ_=>⟨rfl,aj,aj,aj⟩,λh=>absurd rfl h⟩
theorem ace{y a b:M}(hk:y.kids=[a,b]):ed y.t=[bF a.t,jU b.t]:=by unfold ed;rw[M.aZ,hk];rfl
theorem Me{y a b:M}(hk:y.kids=[a,b]):aT (ed y.t)=fO (G9 a.t).2 (jU b.t):=by rw[ace hk,QQ,xw (L9 a.t),xw (Am b.t)];show fO _ (fO _ (0,0))=_;rw[xZ]
theorem ZZ.brk{cl:List M}{j:Nat}{N:List By}{X:List T}{y a b:M}(h:ZZ cl j N X (0,0))(hy:cl[j]?=some y)(hk:y.kids=[a,b])(hn:(G9 a.t).2.1≠0):aT (cl.flatMap λy=>ed y.t)=(G9 a.t).2:=by
 obtain⟨_,h3,_⟩:=h.ok rfl;have hf:aT (ed y.t)=(G9 a.t).2:=by rw[Me hk,vY hn]
 rw[O4 h3 hy (by rw[hf];exact hn),hf]
theorem ZZ.next{cl:List M}{j:Nat}{N:List By}{X:List T}{y a b:M}(h:ZZ cl j N X (0,0))(hy:cl[j]?=some y)(hk:y.kids=[a,b])(hn:(G9 a.t).2.1=0):ZZ cl (j+1) (N++[(G9 a.t).1]) (X++[(xRead b.t).1]) (xRead b.t).2:=by
 obtain⟨_,h3,h4,h5⟩:=h.ok rfl;obtain⟨hj,e0⟩:=awi.1 hy;have oV:cl.take (j+1)=cl.take j++[y]:=by rw[aws hj,e0]
 have hf:aT (ed y.t)=jU b.t:=by rw[Me hk,L9 _ hn,Gx (Am b.t)]
 have hcn:qP y.t=(G9 a.t).1:=by unfold qP;rw[M.aZ,hk,Uk _ hn];rfl
 have hce:qQ y.t=(xRead b.t).1:=by unfold qQ;rw[M.aZ,hk];rfl
 refine⟨by simp[h.len],by have:=h.le;simp;omega,λhe=>?_,λhe=>?_⟩;have hz:(jU b.t).1=0:=he;refine⟨Am b.t hz,λz hz2=>?_,?_,?_⟩;rw[oV]at hz2;rcases awD.1 hz2 with h6|h6;exact h3 z h6;simp at h6;rw[h6,hf];exact hz;rw[oV,awt,h4,<-hcn];rfl;rw[oV,awt,h5,<-hce];rfl;have hz:(jU b.t).1≠0:=he;rw[O4 h3 hy (by rw[hf];exact hz),hf];rfl
theorem ZZ.fin{cl:List M}{e:Er}{j:Nat}{N:List By}{X:List T}(h:ZZ cl j N X e)(hj:e.1=0->j=cl.length):aT (cl.flatMap λy=>ed y.t)=e/\(e.1=0->N=(cl.map λy=>qP y.t)/\X=cl.map λy=>qQ y.t):=by by_cases he:e.1=0;obtain⟨h1,h3,h4,h5⟩:=h.ok he;rw[hj he,aw0]at h3 h4 h5;exact⟨by rw[Md h3,h1],λ_=>⟨h4,h5⟩⟩;exact⟨h.bad he,λh0=>absurd h0 he⟩
structure Rk(w0:ak)(gp:Nat)(co:fE By)(ex:fE M)(w:ak):Prop where
 box:Bx 32 gp #[.int .i64 3,.string ⟨#[]⟩,.slice ex.A ex.l.length ex.cap,.slice co.A co.l.length co.cap,↑(),↑(),↑(),↑()] w
 ns:Ow 9 1 sc (gp+1) w (.slice co.A co.l.length co.cap) co.l
 es:Ow 47 4 ec (gp+1) w (.slice ex.A ex.l.length ex.cap) ex.l
 apart:∀g,(Value.slice co.A co.l.length co.cap).ownBlock=some g->(Value.slice ex.A ex.l.length ex.cap).ownBlock≠some g
 lies:∀x∈ex.l,Lx (gp+1) (foot (.slice co.A co.l.length co.cap)++foot (.slice ex.A ex.l.length ex.cap)) w x
 ev:Ev w0 w
 GZ:w0.heap.size<=gp
theorem Rk.up{w0 w w':ak}{gp:Nat}{co:fE By}{ex:fE M}(h:Rk w0 gp co ex w)(hE:Ev w w'):Rk w0 gp co ex w':=
 ⟨h.box.ev hE,h.ns.ev hE,h.es.ev hE,h.apart,λx hx=>(h.lies x hx).move (But.aV hE) λ_ hy=>.inl hy,h.ev.trans hE,h.GZ⟩
theorem Rk.QU{w0 w:ak}{gp:Nat}{co:fE By}{ex:fE M}(h:Rk w0 gp co ex w):gp∉foot (.slice co.A co.l.length co.cap)/\gp∉foot (.slice ex.A ex.l.length ex.cap):=
 ⟨λhm=>by have:=(h.ns.lt (aG.1 hm)).1;omega,λhm=>by have:=(h.es.lt (aG.1 hm)).1;omega⟩
theorem acf{gp:Nat}{K:List Nat}{w w':ak}{x:M}(h:Lx (gp+1) K w x)(hb:But [gp] w w')(hg:gp<w.heap.size):Lx (gp+1) K w' x:=by
 have h1:Lx (gp+1) (gp::K) w x:=h.less λk hk=>by rcases awq.1 hk with rfl|hk;exact .inr (.inl ae);exact .inl hk
 exact h1.move (hb.wide λk hk=>.inl (by simp at hk;subst hk;exact awp ..)) λk hk=>.inl (awn _ hk)
theorem Rk.name{w0 wq w2:ak}{gp:Nat}{co:fE By}{ex:fE M}{s:By}{v2:au}(h:Rk w0 gp co ex wq)(hA:nR 9 1 sc (gp+1) wq (.slice co.A co.l.length co.cap) (co.l++[s]) v2 w2):
  ∃A2 cap2,v2=.slice A2 (co.l.length+1) cap2/\Rk w0 gp ⟨A2,cap2,co.l++[s]⟩ ex (w2.setCell ⟨gp,3,none⟩ v2)/\∀x,Lx (gp+1) (foot (.slice co.A co.l.length co.cap)++foot (.slice ex.A ex.l.length ex.cap)) wq x->Lx (gp+1) (foot (.slice A2 (co.l++[s]).length cap2)++foot (.slice ex.A ex.l.length ex.cap)) (w2.setCell ⟨gp,3,none⟩ v2) x:=by
 obtain⟨ho,hb,hs⟩:=hA;obtain⟨A2,cap2,rfl,_,_⟩:=ho.form qH;have hl:(co.l++[s]).length=co.l.length+1:=aj;have P5:=h.box.lt;have hB2:=h.box.but hb h.QU.1;have Iq:But [gp] w2 (w2.setCell ⟨gp,3,none⟩ (.slice A2 (co.l++[s]).length cap2)):=But.setCell _ _ aj;have JS:Ow 47 4 ec (gp+1) w2 (.slice ex.A ex.l.length ex.cap) ex.l:=h.es.but hb λg yB hm=>h.apart g (aG.1 hm) yB;have hlx:∀x,Lx (gp+1) (foot (.slice co.A co.l.length co.cap)++foot (.slice ex.A ex.l.length ex.cap)) wq x->Lx (gp+1) (foot (.slice A2 (co.l++[s]).length cap2)++foot (.slice ex.A ex.l.length ex.cap)) (w2.setCell ⟨gp,3,none⟩ (.slice A2 (co.l++[s]).length cap2)) x:=by intro x hx;refine acf ?_ Iq (awz P5 hb.size);refine hx.move (hb.wide λy hy=>.inl (awH _ hy)) λy hy=>?_;exact azR
 refine⟨A2,cap2,by rw[hl],⟨?_,?_,?_,?_,?_,?_,h.GZ⟩,hlx⟩;have:=hB2.set 3 (.slice A2 (co.l++[s]).length cap2);simpa using this;exact ho.but Iq λg hg=>by have:=(ho.lt hg).1;simp;omega
 exact JS.but Iq λg hg=>by have:=(JS.lt hg).1;simp;omega
 intro g yB he;rcases hs g yB with h1|h1;exact h.apart g h1 he;have:=(h.es.lt he).2;omega;exact λx hx=>hlx x (h.lies x hx);have h1:Ev w0 w2:=((But.aV h.ev).then hb).ev λk hk=>by have:=(h.ns.lt (aG.1 hk)).1;have:=h.GZ;omega
 exact h1.box Iq h.GZ
theorem Rk.expr{w0 wq w2:ak}{gp:Nat}{co:fE By}{ex:fE M}{x:M}{v2:au}(h:Rk w0 gp co ex wq)(hx:Lx (gp+1) (foot (.slice co.A co.l.length co.cap)++foot (.slice ex.A ex.l.length ex.cap)) wq x)
  (hA:nR 47 4 ec (gp+1) wq (.slice ex.A ex.l.length ex.cap) (ex.l++[x]) v2 w2):
  ∃A2 cap2,v2=.slice A2 (ex.l.length+1) cap2/\Rk w0 gp co ⟨A2,cap2,ex.l++[x]⟩ (w2.setCell ⟨gp,2,none⟩ v2):=by
 obtain⟨ho,hb,hs⟩:=hA;obtain⟨A2,cap2,rfl,_,_⟩:=ho.form xU;have hl:(ex.l++[x]).length=ex.l.length+1:=aj;have P5:=h.box.lt;have hB2:=h.box.but hb h.QU.2;have Iq:But [gp] w2 (w2.setCell ⟨gp,2,none⟩ (.slice A2 (ex.l++[x]).length cap2)):=But.setCell _ _ aj;have Jq:Ow 9 1 sc (gp+1) w2 (.slice co.A co.l.length co.cap) co.l:=h.ns.but hb λg yB hm=>h.apart g yB (aG.1 hm);refine⟨A2,cap2,by rw[hl],?_,?_,?_,?_,?_,?_,h.GZ⟩;have:=hB2.set 2 (.slice A2 (ex.l++[x]).length cap2);simpa using this;exact Jq.but Iq λg hg=>by have:=(Jq.lt hg).1;simp;omega
 exact ho.but Iq λg hg=>by have:=(ho.lt hg).1;simp;omega
 intro g yB he;rcases hs g he with h1|h1;exact h.apart g yB h1;have:=(h.ns.lt yB).2;omega;intro y hy;refine acf ?_ Iq (awz P5 hb.size);have hy2:Lx (gp+1) (foot (.slice co.A co.l.length co.cap)++foot (.slice ex.A ex.l.length ex.cap)) wq y:=by rcases awD.1 hy with h1|h1;exact h.lies y h1;simp at h1;subst h1;exact hx
 exact azs;have h1:Ev w0 w2:=((But.aV h.ev).then hb).ev λk hk=>by have:=(h.es.lt (aG.1 hk)).1;have:=h.GZ;omega
 exact h1.box Iq h.GZ
theorem Rk.done{w0 w:ak}{gp:Nat}{co:fE By}{ex:fE M}(h:Rk w0 gp co ex w):tC w0 gp (.mk 3 [] ex co .nil .nil .nil none 0 []) w:=by
 obtain⟨A2,cap2,hv,qm,xY⟩:=h.ns.form qH;injection hv with h1 h2 h3
 obtain⟨A4,cap4,hv4,aov,akg⟩:=h.es.form xU;injection hv4 with h4 h5 h6
 refine tC.Zu rfl rfl rfl ?_ ⟨⟨by show Sl 4 ec w ex.A ex.l.length ex.cap ex.l;rw[h4,h6];exact aov,λad e=>by have e:ex.A=some ad:=e;rw[h4]at e;exact⟨(akg ad e).2.1,(akg ad e).2.2.1,aj⟩⟩,(λx hx=>(h.lies x hx).less λk hk=>by cases hk),⟨by show Sl 1 sc w co.A co.l.length co.cap co.l;rw[h1,h3];exact qm,λad e=>by have e:co.A=some ad:=e;rw[h1]at e;exact⟨(xY ad e).2.1,(xY ad e).2.2.1,aj⟩⟩,bg.nil ..,bg.nil ..,bg.nil ..⟩ h.ev h.GZ;exact aAC
theorem ag'{y:M}{b0:Nat}{w:ak}(h:Lies b0 [] w y)(hk:eU y.t=true):∃a e b o,y.kids=[a,e]/\y.A=some ⟨b,o,none⟩/\b<w.heap.size/\(∀w1,Ev w w1->(w1.cell? ⟨b,o,none⟩=some (.int .i64 a.kind)/\w1.cell? ⟨b,o+1,none⟩=some (.string ⟨a.s.toArray⟩)/\w1.cell? ⟨b,o+2,none⟩=some (.int .i64 a.n)/\w1.cell? ⟨b,o+3,none⟩=some (.slice a.A a.kids.length a.cap)/\w1.cell? ⟨b,o+4,none⟩=some (.int .i64 (a.pos:Int)))/\
  (w1.cell? ⟨b,o+5,none⟩=some ↑e.kind/\w1.cell? ⟨b,o+5+1,none⟩=some ↑e.s/\w1.cell? ⟨b,o+5+2,none⟩=some ↑e.n/\w1.cell? ⟨b,o+5+3,none⟩=some (.slice e.A e.kids.length e.cap)/\w1.cell? ⟨b,o+5+4,none⟩=some ↑e.pos))/\Lies b0 [] w a/\Lies b0 [] w e/\2<=y.cap:=by
 unfold eU at hk;rw[awk,awk,M.aZ,awh,awx,awx]at hk;obtain⟨a,e,hq⟩:=wU hk.1.2;obtain⟨b,o,hA,hb,_⟩:=Ms.cell h.ms (i:=0) (x:=a) (by rw[hq];rfl);refine⟨a,e,b,o,hq,hA,hb,λw1 hE=>?_,h.kid a (by rw[hq];simp),h.kid e (by rw[hq];simp),by have:=h.ms.le;rw[hq]at this;exact this⟩;obtain⟨b1,o1,hA1,_,c0,c1,c2,c3,c4⟩:=Ms.cell (h.ms.ev hE) (i:=0) (x:=a) (by rw[hq];rfl);obtain⟨b2,o2,gV,_,d0,d1,d2,d3,d4⟩:=Ms.cell (h.ms.ev hE) (i:=1) (x:=e) (by rw[hq];rfl);rw[hA]at hA1 gV;injection hA1 with hA1
 injection hA1 with e1 e2 _
 injection gV with gV
 injection gV with e3 e4 _
 subst e1 e2 e3 e4;simp only[awW,awM,axn,M.kv]at c0 c1 c2 c3 c4 d0 d1 d2 d3 d4;exact⟨⟨c0,c1,c2,c3,c4⟩,d0,d1,d2,d3,d4⟩
theorem ax8(h:U:=by obtain⟨j,p,e,rfl,rfl,rfl,hj,HI,HK⟩:=hrel;have II:=F1.out.size;have IJ:=HR.out.lt;by_cases he:e.1=0;have IK:=(HI.out.ok he).1;subst IK;by_cases hlt:j<1;exact ax_;obtain rfl:j=1:=ae;have wI:Hid (nG PT=(p.p,0,0)):=zq (sV.vV (p0:=.mk 3 [] ex co .nil .nil .nil none 0 []) (by rw[qA.out];exact HI.out) rfl vP.out rC.out);exact ayz;exact ayr):U:=h
theorem ax7(h:U:=by
 go_upto_region 52 with fail
 go_wp2;have O0:=zq (λy (hy:y∈[z]) w1 (hE:Ev w w1)=>mP.out y (Rj.out y hy) w1 hE);have qA:=zq (HQ.out w aJ).len;have NW:=(HQ.out w aJ).le;have NY:=(HQ.out w aJ).max
 go_loopw [7,8,16] (λyv av iv wr=>∃(j:Nat) (p:PM) (e:Er),yv=.int .i64 e.1/\av=.int .i64 (e.2:Int)/\iv=↑j/\j<=1/\Hid (sV [z] e5 (.mk 3 [] ex co .nil .nil .nil none 0 []) j p e)/\Hid (tC w0 w1.heap.size p wr)) (λ_ _ iv _=>1 - (intOf iv).toNat)
 case atStart=>exact⟨0,.mk 3 [] ex co .nil .nil .nil none 0 [],e5,rfl,rfl,rfl,aww _,zq (sV.start _ _ _ rfl HZ5.out),Gu⟩
 case round=>
  exact ax8):U:=h
theorem MB(m:M)(b0:Nat)(w:ak)(hL:Lies b0 [] w m)(hfair:m.t.every cO=true)(hsz:m.t.size<=10000)(hf:fZ m.t=true)(x:M)(q:List M)(hq:m.kids=x::q)(hs:x.s=bT)
  (ih:∀y∈q,∀w1,Ev w w1->Calls ax 39 #[.agg ↑y] w1 (bH (nG y.t) w1)):
  Calls ax 39 #[.agg ↑m] w (bH (nG m.t) w):=by
 have fD:Tryz.prog.follows .mixedOrders=true:=ah;obtain⟨jY,lM,mG,hm1,hx2,rW⟩:=l_ hq hf;have LX:Lies b0 [w.heap.size] w m:=hL.less λk hk=>by simp at hk;exact .inr (.inr ae)
 obtain⟨b,off,k,c,eY⟩:=vN LX hq rW;have H_:=zq (λw1 (hE:Ev w w1)=>uF m b0 w1 (hL.ev hE));rw[hf]at H_;have wX:=zq (λw1 (hE:Ev w w1)=>kP m b0 w1 (hL.ev hE));have tN:Qd m.t=x.s:=by rw[F_,hq];simp[hm1,M.uJ,lG,hx2]
 rw[tN,hs]at wX;have zy:=zq (λy (hy:y∈q)=>mf hq hy hfair hsz);have Nw:=q_len hq hsz;have Bv:=zq (λi y (hy:q[i]?=some y) w1 (hE:Ev w w1)=>eY.kid (i+1) y (by rw[hq];simpa using hy) w1 (But.aV hE));rw[hs]at jY lM mG;unfold bH at ih|-;obtain⟨PT,uP⟩:∃PT,PT=m.t:=⟨_,rfl⟩
 rw[<-uP]at jY lM|-;have hA:=eY.hA;have hn:=eY.hn;have hc:=eY.hc;have tJ:=eY.tJ;have hcm:=eY.hcm;have mO:=eY.mO;have hbl:b<w.heap.size:=(eY.Bq w (But.refl _ _) off _ rfl).2.1;have oZ:=zq eY;clear eY uP hq hL LX hfair hsz rW hf hx2 tN;generalize Ah:m.kids.length=kn at*;generalize wH:m.A=mA at*;generalize EC:m.cap=mc at*;generalize qf:m.kind=kd at*;generalize hs_:m.s=ms at*;generalize wG:m.n=mn at*;generalize ED:m.pos=mp at*;clear Ah wH EC qf hs_ wG ED;subst hm1 hA hn hc;obtain⟨w0,hw0,aW,hX,hR⟩:=EH w (.int .i64 1) ↑ms ↑mn (.slice ↑(b,off) (k+2) (c+2)) ↑mp;have HX:=zq hX;have HR:=zq hR;have HE:=zq aW;have mP:=zq ih;unfold bT at*;obtain⟨⟨c0,c1,c2,c3,c4⟩,_⟩:=hX.five;clear hX hR aW ih hs;have Dw:(decide (2<=(q.map M.t).length)&&((q.map M.t).take ((q.map M.t).length - 1)).all eU)=true:=mG;rw[awk,aw7,awh,mO,axq,<-axe,axs,awF]at Dw;obtain⟨wE,zW⟩:=Dw;obtain⟨z,hz⟩:∃z,q.drop k=[z]:=uA (by rw[awQ,mO];omega);obtain⟨cl,hcl⟩:∃cl,cl=q.take k:=⟨_,rfl⟩
 have hall:cl.length=k:=by rw[hcl,awT];omega
 have ag9:Hid (pPlan PT=.mk 3 [] (cl.map λy=>qQ y.t) (cl.map λy=>qP y.t) [] [] [] ([z].map λy=>pPlan y.t)):=zq (by
  rw[jY,hcl,<-hz];show Pl.mk 3 [] (((q.map M.t).take ((q.map M.t).length - 1)).map qQ) (((q.map M.t).take ((q.map M.t).length - 1)).map qP) [] [] [] (((q.map M.t).map pPlan).drop ((q.map M.t).length - 1))=_;rw[awh,mO,axq,<-axe,awy,awy,awy,<-axm];rfl)
 have Zy:Hid (bf PT=fO (aT (cl.flatMap λy=>ed y.t)) (aT ([z].map λy=>bf y.t))):=zq (by
  rw[lM,hcl,<-hz];show aT (((q.map M.t).take ((q.map M.t).length - 1)).flatMap ed++((q.map M.t).map bf).drop ((q.map M.t).length - 1))=_;rw[awh,mO,axq,<-axe,awy,<-axm,List.flatMap_map,jE];rfl)
 have HQ:Hid (∀w1,Ev w w1->Ms w1 (some ⟨b,off+(k+1)*5,none⟩) 1 (c+1 - k) [z]):=zq λw1 hE=>by have h1:=(oZ.out.rest w1 (But.aV hE)).drop (k:=k) ae;rw[hz]at h1;have e1:off+5+k*5=off+(k+1)*5:=ae;have e2:k+1 - k=1:=ae;rw[e1,e2]at h1;exact h1
 have Rj:Hid (∀y_∈[z],y_∈q):=zq λy_ hy=>List.mem_of_mem_drop (i:=k) (by rw[hz];exact hy);have hin:∀j y,cl[j]?=some y->q[j]?=some y/\y∈q/\y∈q.take k:=λj y hy=>by
  have hm:=awm hy;rw[hcl]at hy hm;refine⟨?_,axo hm,hm⟩;rw[List.getElem?_take]at hy;split at hy;exact hy
  cases hy
 have HCL:=zq (λj y (hy:cl[j]?=some y)=>ag' ((oZ.out.lies y (hin j y hy).2.1 w (But.refl _ _)).less λk hk=>by cases hk) (zW y (hin j y hy).2.2));have HKA:=zq (λj y (hy:cl[j]?=some y) w1 (hE:Ev w w1)=>(Bv.out j y (hin j y hy).1 w1 hE).2.2.2.1);have Zf:=zq (λj y (hy:cl[j]?=some y)=>zy.out y (hin j y hy).2.1);have Nv:=zq hall;have pq:k<=10000:=ae;have ail:1<=k:=ae;clear jY lM mG hall hcl hz zW hin Nw mO Bv zy wE;go_enter func39,ntmps39;go_upto_region 19 with (first
  | ((with_reducible refine(H_.out _ HE.out).mono ?_);rintro r w1 ⟨rfl,aK⟩;have E1:=zq (HE.out.trans aK);have F1:=zq aK;have hx1:=(HX.out.ev aK).lt;have hr1:=(HR.out.ev aK).lt;clear c0 c1 c2 c3 c4;obtain⟨⟨c0,c1,c2,c3,c4⟩,_⟩:=(HX.out.ev aK).five;have yj:=Bx.new 32 ↑Zz.b w1;clear aK)
  | ((with_reducible refine(wX.out _ (E1.out.trans az)).mono ?_);rintro r w2 ⟨rfl,bQ⟩;have F2:=zq ((F1.out.trans az).trans bQ);have BP:=zq (yj.ev bQ);obtain⟨⟨p0,p1,p2,p3,p4,p5,p6,p7⟩,z0,z1,z2,z3,z4,z5,z6,z7⟩:=(yj.ev bQ).eight;clear bQ yj c0 c1 c2 c3 c4;obtain⟨⟨c0,c1,c2,c3,c4⟩,_⟩:=(HX.out.ev F2.out).five))
 obtain⟨wA,zn⟩:∃wA,wA=w2.setCell ⟨w1.heap.size,0,none⟩ (.int .i64 3):=⟨_,rfl⟩
 rw[<-zn];have EJ:Hid (Bx 32 w1.heap.size #[.int .i64 3,.string ⟨#[]⟩,↑(),↑(),↑(),↑(),↑(),↑()] wA):=zq (by rw[zn];have:=BP.out.set 0 (.int .i64 3);simpa using this);have FA:Hid (Ev w0 wA):=zq (by rw[zn];exact F2.out.box (But.setCell _ _ aj) F1.out.size);clear zn p0 p1 p2 p3 p4 p5 p6 p7 z0 z1 z2 z3 z4 z5 z6 z7 c0 c1 c2 c3 c4;obtain⟨⟨p0,p1,p2,p3,p4,p5,p6,p7⟩,z0,z1,z2,z3,z4,z5,z6,z7⟩:=EJ.out.eight;obtain⟨⟨c0,c1,c2,c3,c4⟩,_⟩:=(HX.out.ev FA.out).five;have hpA:=EJ.out.lt;have HFK:Hid (Rk w0 w1.heap.size .nil .nil wA):=zq ⟨by have:=EJ.out;simpa[fE.nil] using this,Ow.nil_ _,Ow.nil_ _,(λg hg=>by cases hg),(λx hx=>by cases hx),FA.out,F1.out.size⟩;clear p0 p1 p2 p3 p4 p5 p6 p7 z0 z1 z2 z3 z4 z5 z6 z7 c0 c1 c2 c3 c4;have n3:((k:Int)+2 - 1).toNat=k+1:=ae;go_wp2
 go_loopw [7,8,11] (λyv av iv wr=>∃(j5:Nat) (co:fE By) (ex:fE M) (e5:Er),yv=.int .i64 e5.1/\av=.int .i64 (e5.2:Int)/\iv=.int .i64 ((j5:Int)+1)/\j5<=k/\Hid (ZZ cl j5 co.l (ex.l.map M.t) e5)/\Hid (Rk w0 w1.heap.size co ex wr)) (λ_ _ iv _=>(k+2) - (intOf iv).toNat)
 case atStart=>exact⟨0,.nil,.nil,(0,0),rfl,rfl,rfl,aww _,zq (ZZ.start _),HFK⟩
 case round=>
  obtain⟨j5,co,ex,e5,rfl,rfl,rfl,hj,HI,HK⟩:=hrel;have II:=F1.out.size;have IJ:=HR.out.lt;obtain⟨wo,rfl⟩:∃wo:ak,wo=wr:=⟨_,rfl⟩
  have i1:(0:Int)<=(j5:Int)+1:=ae;have i4:(0:Int)<=(k:Int)+2 - 1:=ae;have i5:(k:Int)+2 - 1<=(k:Int)+2:=ae;have i6:(k:Int)+2 - 1<=(c:Int)+2:=ae;have i7:¬(c+2=k+1):=ae;by_cases hcont:j5<k/\e5.1=0
  ·obtain⟨hlt,he⟩:=hcont;have IK:=(HI.out.ok he).1;subst IK;obtain⟨y,hy⟩:∃y,cl[j5]?=some y:=⟨_,awE (by rw[Nv.out];exact hlt)⟩
   obtain⟨a,eb,by_,oy,hyk,hyA,zh,hyc,hLa,hLe,aqG⟩:=HCL.out j5 y hy;have HK3:Hid (∀w1,Ev w w1->w1.cell? ⟨b,off+(j5+1)*5+3,none⟩=some (.slice ↑(by_,oy) 2 y.cap)):=zq λw1 hE=>by have k3:=HKA.out j5 y hy w1 hE;rw[hyA,hyk]at k3;exact k3
   have k3:=HK3.out _ (HE.out.trans HK.out.ev);have HYC:=zq hyc;have hFA:=Zf.out j5 y hy;have haf:a.s.length<=1000000:=rE hFA.1 a (by rw[hyk];simp);obtain⟨NA,hNA⟩:∃NA,NA=G9 a.t:=⟨_,rfl⟩
   have HN:=zq (λw1=>AP a w1 haf);rw[<-hNA]at HN;obtain⟨⟨a0,a1,a2,a3,a4⟩,_⟩:=HYC.out _ (HE.out.trans HK.out.ev);have hbr:b<wo.heap.size:=awz hbl (HE.out.trans HK.out.ev).size;have hyr:by_<wo.heap.size:=awz zh (HE.out.trans HK.out.ev).size;have t2:((j5:Int)+1).toNat=j5+1:=ae;have i2:(j5:Int)+1<(k:Int)+2 - 1:=ae;have i3:(j5:Int)+1<(k:Int)+2:=ae;by_cases E_:NA.2.1=0
   ·have hNz:NA.2=(0,0):=by rw[hNA]at E_|-;exact L9 _ E_
    have HNX:Hid (ZZ cl (j5+1) (co.l++[NA.1]) ((ex.l.map M.t)++[(xRead eb.t).1]) (xRead eb.t).2):=zq (by rw[hNA];exact HI.out.next hy hyk (by rw[<-hNA];exact E_));rw[hNz]at HN;simp only at HN;have hes:eb.t.every cO=true/\eb.t.size<=10000:=mf (m:=y) (x:=a) hyk aj hFA.1 hFA.2;obtain⟨XR,hXR⟩:∃XR,XR=xRead eb.t:=⟨_,rfl⟩
    have QA:=zq (λw1 (hE:Ev w w1)=>Xr eb.dep eb b0 w1 (awj _) (hLe.ev hE) hes.1 (by have:=hes.2;omega));unfold BK mv M.kv at QA;rw[<-hXR]at QA HNX;have AX:co.l.length<=10000:=by have:=HI.out.le;omega
    have ajE:ex.l.length<=10000:=by have h1:=HI.out.len;have h2:=HI.out.le;rw[awh]at h1;omega
    have LY:=HK.out.box.lt;clear hy hyk hyA hyc hLa hLe hNA hFA E_ hNz hes hXR;go_upto_region 27 with (first
     | ((with_reducible refine(HN.out _).mono ?_);rintro r_ w3 ⟨rfl,iI⟩;have E3:=zq iI;clear k3 a0 a1 a2 a3 a4;have k3:=HK3.out _ ((HE.out.trans HK.out.ev).trans iI);obtain⟨_,⟨a0,a1,a2,a3,a4⟩⟩:=HYC.out _ ((HE.out.trans HK.out.ev).trans iI);have auC:b<w3.heap.size:=awz hbr iI.size;have auD:by_<w3.heap.size:=awz hyr iI.size;have hBE:=Bx.new 47 ↑Zz.e w3;clear iI)
     | ((with_reducible refine(QA.out _ (((HE.out.trans HK.out.ev).trans E3.out).trans az)).mono ?_);rintro r_ w4 ⟨x,rfl,jI,iJ,iw⟩;have qj:=zq jI;have qC:=zq iJ;have E4:=zq ((Ev.alloc w3 _).trans iw);have HBE:=zq (hBE.ev iw);obtain⟨⟨u0,u1,u2,u3⟩,v0,v1,v2,v3⟩:=HBE.out.four;clear jI iJ iw hBE))
    rw[dK];obtain⟨w8,vW⟩:∃w8,w8=kG w3.heap.size ↑x.kind ↑x.s ↑x.n (.slice x.A x.kids.length x.cap) w4:=⟨_,rfl⟩
    rw[<-vW];have ug:=eP w3.heap.size ↑x.kind ↑x.s ↑x.n (.slice x.A x.kids.length x.cap) w4;have oL:=HBE.out.kG ↑x.kind ↑x.s ↑x.n (.slice x.A x.kids.length x.cap);have lU:=E4.out.box ug (awj _);have aha:=Gm qC.out ug (λk hk=>by simp at hk;simp;omega);rw[<-vW]at oL lU aha;have mM:=zq (HK.out.up (E3.out.trans lU));have HB8:=zq oL;have ahb:∀k∈foot (.slice co.A co.l.length co.cap),k<w3.heap.size:=λk hk=>awz (HK.out.ns.lt (aG.1 hk)).2 E3.out.size;have aki:∀k∈foot (.slice ex.A ex.l.length ex.cap),k<w3.heap.size:=λk hk=>awz (HK.out.es.lt (aG.1 hk)).2 E3.out.size;have auE:w1.heap.size<w3.heap.size:=awz HK.out.box.lt E3.out.size;have HXK:Hid (Lx (w1.heap.size+1) (foot (.slice co.A co.l.length co.cap)++foot (.slice ex.A ex.l.length ex.cap)) w8 x):=zq ((aha.less λk hk=>by
     rcases awD.1 hk with h1|h1;exact .inr (.inl (by have:=ahb k h1;simp;omega));exact .inr (.inl (by have:=aki k h1;simp;omega))).low (by simp;omega))
    have aoy:=zq ahb;obtain⟨⟨q0,q1,q2,q3,q4,q5,q6,q7⟩,_⟩:=mM.out.box.eight;have LZ:=lU.size;have L6:=mM.out.box.lt;have aqI:=mM.out.ev.size;clear u0 u1 u2 u3 v0 v1 v2 v3 a0 a1 a2 a3 a4 k3 vW ug oL lU aha ahb aki;go_upto_region 28 with (first
     | ((show wpList _ _ _ (⟨some 101,_,_,_,_,_⟩::_) _ _);refine aO (o:=⟨some 101,_,_,_,_,_⟩) rfl 22 (.tmp 98) (.tmp 100) rfl qH underlying22 Tryz.I4 rfl rfl (mM.out.up az).ns (some ⟨_,0,none⟩) 1 1 [NA.1] rfl (Sl.one (et:=9) qH _ NA.1 _ rfl) (by simp;omega) (by simp;omega) (by simp;omega) ?_;intro v2 w9 gV;have vT:=zq gV;obtain⟨A2,cap2,rfl,hF9,hX9⟩:=Rk.name (mM.out.up az) vT.out;have HX9:=zq (hX9 x ((HXK.out.move (But.aV az) λ_ h=>.inl h)));obtain⟨⟨o0,o1,o2,o3,o4,o5,o6,o7⟩,t0,t1,t2_,t3,t4,t5,t6,t7⟩:=((mM.out.up az).box.but vT.out.2.1 mM.out.QU.1).eight;have HF9:=zq hF9;have HB9:=zq ((HB8.out.ev az).but vT.out.2.1 λhm=>by have:=aoy.out _ hm;omega);have auJ:=vT.out.2.1.size;clear hF9 gV hX9 q0 q1 q2 q3 q4 q5 q6 q7))
    obtain⟨wC,hwC⟩:∃wC,wC=w9.setCell ⟨w1.heap.size,3,none⟩ (.slice A2 (co.l.length+1) cap2):=⟨_,rfl⟩
    rw[<-hwC];have HFC:Hid (Rk w0 w1.heap.size ⟨A2,cap2,co.l++[NA.1]⟩ ex wC):=zq (by rw[hwC];exact HF9.out);have HXC:Hid (Lx (w1.heap.size+1) (foot (.slice A2 (co.l++[NA.1]).length cap2)++foot (.slice ex.A ex.l.length ex.cap)) wC x):=zq (by rw[hwC];exact HX9.out);have HBC:Hid (Bx 47 w3.heap.size ↑(x,()) wC):=zq (by rw[hwC];exact HB9.out.but (But.setCell (K:=[w1.heap.size]) _ _ aj) (by simp;omega));obtain⟨⟨q0,q1,q2,q3,q4,q5,q6,q7⟩,_⟩:=HFC.out.box.eight;obtain⟨⟨u0,u1,u2,u3⟩,_⟩:=HBC.out.four;have auL:=HFC.out.box.lt;have auM:=HBC.out.lt;have auN:=HFC.out.ev.size;clear hwC o0 o1 o2 o3 o4 o5 o6 o7 t0 t1 t2_ t3 t4 t5 t6 t7;simp only at q0 q1 q2 q3 q4 q5 q6 q7
    go_wp2_with (first
     | ((show wpList _ _ _ (⟨some 107,_,_,_,_,_⟩::_) _ _);refine aO (o:=⟨some 107,_,_,_,_,_⟩) rfl 28 (.tmp 104) (.tmp 106) rfl xU underlying28 Tryz.zF rfl rfl (HFC.out.up az).es (some ⟨_,0,none⟩) 1 1 [x] rfl (Sl.one (et:=47) xU _ x _ rfl) (by simp;omega) (by simp;omega) (by simp;omega) ?_;intro v2 w10 hA3;have HA3:=zq hA3;obtain⟨A3,cap3,rfl,akj⟩:=Rk.expr (HFC.out.up az) (HXC.out.move (But.aV az) λ_ h=>.inl h) HA3.out;obtain⟨⟨o0,o1,o2,o3,o4,o5,o6,o7⟩,t0,t1,t2_,t3,t4,t5,t6,t7⟩:=((HFC.out.up az).box.but HA3.out.2.1 HFC.out.QU.2).eight;have aoz:=zq akj;clear akj hA3))
    go_roundw
    case rel=>exact⟨j5+1,⟨A2,cap2,co.l++[NA.1]⟩,⟨A3,cap3,ex.l++[x]⟩,XR.2,rfl,rfl,by go_num,ae,zq (by have h1:=HNX.out;rw[<-qj.out]at h1;simpa using h1),aoz⟩
    case measure=>simp[intOf];omega
   have hnb:(NA.2.1==0)=false:=awg.2 E_;have CU:(NA.2.1 !=0)=true:=by simp[E_]
   have hbk:=HI.out.brk hy hyk (by rw[<-hNA];exact E_);have vP:Hid (bf PT=fO NA.2 (aT ([z].map λv=>bf v.t))):=zq (by rw[Zy.out,hbk,hNA]);have Cb:=zq E_;have rC:Hid ((bf PT).1=0->pPlan PT=.mk 3 [] (ex.l.map M.t) co.l [] [] [] ([z].map λv=>pPlan v.t)):=zq (λh=>by rw[vP.out,uq]at h;exact absurd h.1 Cb.out);clear hy hyk hyA hyc hLa hLe hNA hFA E_ hbk;go_upto_region 52 with (first
    | ((with_reducible refine(HN.out _).mono ?_);rintro r_ w3 ⟨rfl,iI⟩;have Gu:=zq (HK.out.up iI).done;clear iI))
   go_wp2;have O0:=zq (λy (hy:y∈[z]) w1 (hE:Ev w w1)=>mP.out y (Rj.out y hy) w1 hE);have qA:=zq (HQ.out w aJ).len;have NW:=(HQ.out w aJ).le;have NY:=(HQ.out w aJ).max
   go_loopw [7,8,16] (λyv av iv wr=>∃(j:Nat) (p:PM) (e:Er),yv=.int .i64 e.1/\av=.int .i64 (e.2:Int)/\iv=↑j/\j<=1/\Hid (sV [z] NA.2 (.mk 3 [] ex co .nil .nil .nil none 0 []) j p e)/\Hid (tC w0 w1.heap.size p wr)) (λ_ _ iv _=>1 - (intOf iv).toNat)
   case atStart=>exact⟨0,.mk 3 [] ex co .nil .nil .nil none 0 [],NA.2,rfl,rfl,rfl,aww _,zq (sV.start _ _ _ rfl (λh=>absurd h Cb.out)),Gu⟩
   case round=>
    exact ax8
  have hex:e5.1=0->j5=cl.length:=λh0=>by have:=Nv.out;by_cases hjk:j5<k;exact absurd ⟨hjk,h0⟩ hcont;omega
  have hfin:=HI.out.fin hex;have vP:Hid (bf PT=fO e5 (aT ([z].map λv=>bf v.t))):=zq (by rw[Zy.out,hfin.1]);have rC:Hid ((bf PT).1=0->pPlan PT=.mk 3 [] (ex.l.map M.t) co.l [] [] [] ([z].map λv=>pPlan v.t)):=zq (λh=>by
   rw[Zy.out,uq]at h;have h5:e5.1=0:=by rw[<-hfin.1];exact h.1
   rw[ag9.out,(hfin.2 h5).1,(hfin.2 h5).2])
  have HZ5:Hid (e5.1=0->e5=(0,0)):=zq λh=>(HI.out.ok h).1;have Gu:=zq HK.out.done;have NL:=zq hex;clear hfin hex HI HK;by_cases hlt:(j5:Int)+1<(k:Int)+2 - 1;have he5:(e5.1==0)=false:=awg.2 λh=>by have:=NL.out h;have:=Nv.out;omega
  exact ax7;exact ax7
theorem QV(N:Nat):∀(m:M) (b0:Nat) (w:ak),m.dep<=N->Lies b0 [] w m->m.t.every cO=true->m.t.size<=10000->
  Calls ax 39 #[.agg ↑m] w (bH (nG m.t) w):=by
 induction N with
 | zero=>
  intro m b0 w hd;rw[M.nT]at hd;omega
 | succ N ih=>
  intro m b0 w hd hL hfair hsz
  cases hf:fZ m.t
  exact Uj m b0 w hL hf;obtain⟨x,q,hq⟩:∃x q,m.kids=x::q:=by
   cases hk:m.kids with
   | nil=>
    rw[zQ,hk]at hf;simp at hf
   | cons x q=>exact⟨x,q,rfl⟩
  have UX:∀y∈q,∀w1,Ev w w1->Calls ax 39 #[.agg ↑y] w1 (bH (nG y.t) w1):=λy hy w1 hE=>by
   have hym:y∈m.kids:=by rw[hq];exact awn _ hy
   have hqs:=mf hq hy hfair hsz;exact ih y b0 w1 (by have:=M.mg hym;omega) ((hL.kid y hym).ev hE) hqs.1 hqs.2
  have hk:fV x.s≠0:=λh0=>by
   have:=(l_ hq hf).2.2.1;rw[h0]at this
   cases this
  rcases H8 hk with hs|hs|hs|hs|hs|hs|hs;exact QR m b0 w hL hfair hsz hf x q hq hs UX;exact N8 m b0 w hL hfair hsz hf x q hq hs UX;exact MB m b0 w hL hfair hsz hf x q hq hs UX;obtain⟨l,r,hlr⟩:∃l r,q=l::r:=by
   cases hk:q with
   | nil=>have:=(l_ hq hf).2.2.2.2.2;rw[hk]at this;simp at this
   | cons l r=>exact⟨l,r,rfl⟩
  by_cases h0:(zt (l.kids.map M.t)).2.1=0;exact N_ m b0 w hL hfair hsz hf x q hq hs (λl' r' e=>by rw[hlr]at e;injection e with e1 e2;rw[<-e1];exact h0) UX;exact Mc m b0 w hL hfair hsz hf x q hq hs (λl' r' e=>by rw[hlr]at e;injection e with e1 e2;rw[<-e1];exact h0) UX;exact QO m b0 w hL hfair hsz hf x q hq hs UX;exact IL m b0 w hL hfair hsz hf x q hq hs UX;exact QT m b0 w hL hfair hsz hf x q hq hs UX
def dF(s:By):aaV:=if (dG s).2.1==0 then pFrom (dG s).1 else (ik,(dG s).2.1,(dG s).2.2)
theorem Dz(s:By)(h:(dF s).2.1=0):WrP (dF s).1:=by unfold dF at h|-;by_cases hc:(dG s).2.1=0;rw[if_pos (by simp[hc])]at h|-;obtain⟨h1,h2,h3⟩:=D6 s hc;unfold pFrom at h|-;by_cases he:(bf (dG s).1).1=0;rw[if_pos (by simp[he])]at h|-;by_cases hl:600<(printS (aH (pPlan (dG s).1))).length;rw[if_pos hl]at h;exact absurd h ai;rw[if_neg hl];obtain⟨h4,h5⟩:=Ew h1 h3 he;refine⟨h4,?_,by show (printS (aH (pPlan (dG s).1))).length<=600;omega⟩;show (aH (pPlan (dG s).1)).deep<=12;rw[h5,KC];exact h2;rw[if_neg (by simpa using he)]at h;exact absurd h he;rw[if_neg (by simpa using hc)]at h;exact absurd h hc
theorem MC(s:By):(dG s).1.every cO=true:=(aaR s).1
theorem Um(s:By)(h:(dF s).2.1≠0):(dF s).1=ik:=by unfold dF at h|-;split;rename_i hc;rw[if_pos hc]at h;unfold pFrom at h|-;split;rename_i he;rw[if_pos he]at h;split;rfl;rename_i hl;rw[if_neg hl]at h;exact absurd rfl h;rfl;rfl
theorem WO(s:By)(w:ak)(hs:s.length<=100000)(hc:(dG s).2.1≠0):
  Calls ax 19 #[↑s] w (bH (dF s) w):=by
 have Qc:=zq (λw1=>IX ⟨s.toArray⟩ w1 hs);obtain⟨w0,hw0,aW,hB0,hs0⟩:=uC w;have tV:=zq hB0;have dM:=zq aW;have hg:=hB0.lt;have hR:dF s=(ik,(dG s).2.1,(dG s).2.2):=by unfold dF;rw[if_neg (by simpa using hc)]
 rw[hR];have hcb:((dG s).2.1==0)=false:=awg.2 hc;have hcn:((dG s).2.1 !=0)=true:=by simp[hc]
 unfold rJ at Qc;unfold bH;clear aW hB0 hs hc hR hs0;go_enter func19,ntmps19
 go_wp2_with (first
  | ((with_reducible refine(Qc.out _).mono ?_);rintro r w1 ⟨m,rfl,EP,hmL,aK⟩;have E1:=zq (dM.out.trans aK);have mY:=zq ((tV.out.ev aK).ev (Ev.alloc w1 (.cells ↑m 79)));obtain⟨⟨r0,r1,r2,r3,r4,r5,r6,r7⟩,s0,s1,s2,s3,s4,s5,s6,s7⟩:=mY.out.eight;clear EP hmL aK))
 (try simp only[Exit.inBlock,Exit.then]);rw[bu];obtain⟨f1,f2⟩:=lK (awj w.heap.size) (E1.out.trans az) mY.out (.int .i64 0) (.string ⟨#[]⟩) ↑() ↑() ↑() ↑() ↑() ↑();refine bodyPost_ret (aI rfl _ _ _ _ _ rfl f1 underlying32 rfl Tryz.bG) rfl ?_;exact⟨kD,rfl,iD,Qx.zero _ _ _,f2⟩
theorem WQ(s:By)(w:ak)(hs:s.length<=100000)(hc:(dG s).2.1=0)(he:(bf (dG s).1).1≠0):
  Calls ax 19 #[↑s] w (bH (dF s) w):=by
 have Qc:=zq (λw1=>IX ⟨s.toArray⟩ w1 hs);obtain⟨w0,hw0,aW,hB0,hs0⟩:=uC w;have tV:=zq hB0;have dM:=zq aW;have hg:=hB0.lt;have hR:dF s=(ik,(bf (dG s).1).1,(bf (dG s).1).2):=by unfold dF pFrom;rw[if_pos (by simp[hc]),if_neg (by simpa using he)]
 have hF:nG (dG s).1=(ik,(bf (dG s).1).1,(bf (dG s).1).2):=by unfold nG;rw[if_neg he]
 rw[hR];have ZX:((bf (dG s).1).1==0)=false:=awg.2 he;obtain⟨h1,h2,h3⟩:=D6 s hc;have Zf:=zq (MC s);have zx:=zq h3;have hcb:((dG s).2.1==0)=true:=by simp[hc]
 unfold rJ at Qc;simp only at Qc;rw[hc]at Qc;unfold bH;obtain⟨TT,hTT⟩:∃TT,TT=(dG s).1:=⟨_,rfl⟩
 rw[<-hTT]at Zf zx hF ZX|-;have Nu:=zq hTT;have HF:=zq hF;clear aW hB0 hs hc he hR hs0 h1 h2 h3 hcb hTT hF;go_enter func19,ntmps19
 go_wp2_with (first
  | ((with_reducible refine(Qc.out _).mono ?_);rintro r w1 ⟨m,rfl,EP,hmL,aK⟩;have EP:=EP.trans Nu.out.symm;have E1:=zq (dM.out.trans aK);have F1:=zq aK;have hBT:=Bx.new 79 ↑m w1;obtain⟨⟨k0,k1,k2,k3,k4⟩,_⟩:=hBT.five;have hFR:=QV m.dep m w0.heap.size (w1.alloc (.cells ↑m 79)) (awj _) (hmL.ev az) (by rw[EP];exact Zf.out) (by rw[EP];have:=zx.out;omega);rw[EP,HF.out]at hFR;have HFR:=zq hFR;clear EP hmL aK hFR hBT)
  | ((with_reducible refine(HFR.out).mono ?_);rintro r w2 ⟨x,rfl,ui,yz,bQ⟩;have Jd:=zq ui;have EY:=zq yz;have E2:=zq ((Ev.alloc w1 _).trans bQ);have uX:=zq (tV.out.ev (F1.out.trans E2.out));obtain⟨⟨r0,r1,r2,r3,r4,r5,r6,r7⟩,s0,s1,s2,s3,s4,s5,s6,s7⟩:=uX.out.eight;have hg2:w.heap.size<w2.heap.size:=awz hg (F1.out.trans E2.out).size;clear ui yz bQ))
 (try simp only[Exit.inBlock,Exit.then]);rw[bu];obtain⟨f1,f2⟩:=lK (awj w.heap.size) (E1.out.trans E2.out) uX.out ↑x.kind ↑x.name (.slice x.ex.A x.ex.l.length x.ex.cap) (.slice x.co.A x.co.l.length x.co.cap) (.slice x.lf.A x.lf.l.length x.lf.cap) (.slice x.rt.A x.rt.l.length x.rt.cap) (.slice x.ag.A x.ag.l.length x.ag.cap) (.slice x.A x.kids.length x.cap);refine bodyPost_ret (aI rfl _ _ _ _ _ rfl (f1.ev az) underlying32 rfl Tryz.bG) rfl ?_;refine⟨x,rfl,Jd.out,?_,f2.trans az⟩;exact((lH EY.out (bV _ _ _ _ _ _ _ _ _ _) (λk hk=>by simp at hk;simp;have:=E1.out.size;omega)).ev az).low (by simp;have:=E1.out.size;omega)
theorem Un(s:By)(w:ak)(hs:s.length<=100000)(hc:(dG s).2.1=0)(he:(bf (dG s).1).1=0)(hl:600<(printS (aH (pPlan (dG s).1))).length):
  Calls ax 19 #[↑s] w (bH (dF s) w):=by
 have Qc:=zq (λw1=>IX ⟨s.toArray⟩ w1 hs);obtain⟨w0,hw0,aW,hB0,hs0⟩:=uC w;have tV:=zq hB0;have dM:=zq aW;have hg:=hB0.lt;have hR:dF s=(ik,3,0):=by unfold dF pFrom;rw[if_pos (by simp[hc]),if_pos (by simp[he]),if_pos hl]
 have hF:nG (dG s).1=(pPlan (dG s).1,0,0):=by unfold nG;rw[if_pos he]
 rw[hR];obtain⟨h1,h2,h3⟩:=D6 s hc;have Zf:=zq (MC s);have zx:=zq h3;have hcb:((dG s).2.1==0)=true:=by simp[hc]
 unfold rJ at Qc;simp only at Qc;rw[hc]at Qc;unfold bH;obtain⟨TT,hTT⟩:∃TT,TT=(dG s).1:=⟨_,rfl⟩
 obtain⟨hwr,_⟩:=Ew h1 h3 he;have hgood:=hwr.good;have hz6:=hwr.size;have hlen:=hwr.len;obtain⟨PS,xg⟩:∃PS,PS=printS (aH (pPlan (dG s).1)):=⟨_,rfl⟩
 rw[<-xg]at hl;rw[<-hTT]at Zf zx hF hgood hz6 hlen xg;have Nu:=zq hTT;have HF:=zq hF;have HG:=zq hgood;have HZ6:=zq hz6;have xH:=zq hlen;have tK:=zq xg;have hpl:PS.length<=1000000:=by rw[xg];exact hlen
 have hsz:=dB PS;have MR:(600:Int)<(PS.length:Int):=ae;clear aW hB0 hs hc he hR hs0 h1 h2 h3 hcb hTT hF hwr hgood hz6 hlen xg hl;go_enter func19,ntmps19
 go_wp2_with (first
  | ((with_reducible refine(Qc.out _).mono ?_);rintro r w1 ⟨m,rfl,EP,hmL,aK⟩;have EP:=EP.trans Nu.out.symm;have E1:=zq (dM.out.trans aK);have F1:=zq aK;have hBT:=Bx.new 79 ↑m w1;obtain⟨⟨k0,k1,k2,k3,k4⟩,_⟩:=hBT.five;have hFR:=QV m.dep m w0.heap.size (w1.alloc (.cells ↑m 79)) (awj _) (hmL.ev az) (by rw[EP];exact Zf.out) (by rw[EP];have:=zx.out;omega);rw[EP,HF.out]at hFR;have HFR:=zq hFR;clear EP hmL aK hFR hBT)
  | ((with_reducible refine(HFR.out).mono ?_);rintro r w2 ⟨x,rfl,ui,yz,bQ⟩;have ui:x.p=pPlan TT:=ui;have Jd:=zq ui;have EY:=zq yz;have E2:=zq ((Ev.alloc w1 _).trans bQ);have hg2:w.heap.size<w2.heap.size:=awz hg (F1.out.trans E2.out).size;have hBX:=Bx.new 32 ↑x w2;have HBX:=zq hBX;obtain⟨⟨q0,q1,q2,q3,q4,q5,q6,q7⟩,_⟩:=hBX.eight;have Uo:=XW x.dep x _ (w2.alloc (.cells ↑x 32)) (awj _) (yz.ev az) (by rw[ui];exact HG.out) (by rw[ui];have:=HZ6.out;omega) (by rw[ui];exact xH.out);unfold mr at Uo;rw[ui]at Uo;unfold pv fE.v PM.kv at Uo;have Uo:=Uo;rw[<-tK.out]at Uo;have HT9:=zq Uo;clear ui yz bQ Uo hBX)
  | ((with_reducible refine(HT9.out).mono ?_);rintro r w3 ⟨rfl,iI⟩;have E3:=zq ((Ev.alloc w2 _).trans iI);have F3:=zq iI;have Zc:=zq (tV.out.ev ((F1.out.trans E2.out).trans E3.out));obtain⟨⟨r0,r1,r2,r3,r4,r5,r6,r7⟩,s0,s1,s2,s3,s4,s5,s6,s7⟩:=Zc.out.eight;clear q0 q1 q2 q3 q4 q5 q6 q7;obtain⟨⟨q0,q1,q2,q3,q4,q5,q6,q7⟩,_⟩:=(HBX.out.ev iI).eight;clear iI))
 (try simp only[Exit.inBlock,Exit.then]);rw[bu];obtain⟨f1,f2⟩:=lK (awj w.heap.size) ((E1.out.trans E2.out).trans E3.out) Zc.out (.int .i64 0) (.string ⟨#[]⟩) ↑() ↑() ↑() ↑() ↑() ↑();refine bodyPost_ret (aI rfl _ _ _ _ _ rfl f1 underlying32 rfl Tryz.bG) rfl ?_;exact⟨kD,rfl,iD,Qx.zero _ _ _,f2⟩
theorem ZB(s:By)(w:ak)(hs:s.length<=100000)(hc:(dG s).2.1=0)(he:(bf (dG s).1).1=0)(hl:¬600<(printS (aH (pPlan (dG s).1))).length):
  Calls ax 19 #[↑s] w (bH (dF s) w):=by
 have Qc:=zq (λw1=>IX ⟨s.toArray⟩ w1 hs);obtain⟨w0,hw0,aW,hB0,hs0⟩:=uC w;have tV:=zq hB0;have dM:=zq aW;have hg:=hB0.lt;have hR:dF s=(pPlan (dG s).1,0,0):=by unfold dF pFrom;rw[if_pos (by simp[hc]),if_pos (by simp[he]),if_neg hl]
 have hF:nG (dG s).1=(pPlan (dG s).1,0,0):=by unfold nG;rw[if_pos he]
 rw[hR];obtain⟨h1,h2,h3⟩:=D6 s hc;have Zf:=zq (MC s);have zx:=zq h3;have hcb:((dG s).2.1==0)=true:=by simp[hc]
 unfold rJ at Qc;simp only at Qc;rw[hc]at Qc;unfold bH;obtain⟨TT,hTT⟩:∃TT,TT=(dG s).1:=⟨_,rfl⟩
 obtain⟨hwr,_⟩:=Ew h1 h3 he;have hgood:=hwr.good;have hz6:=hwr.size;have hlen:=hwr.len;obtain⟨PS,xg⟩:∃PS,PS=printS (aH (pPlan (dG s).1)):=⟨_,rfl⟩
 rw[<-xg]at hl;rw[<-hTT]at Zf zx hF hgood hz6 hlen xg|-;have Nu:=zq hTT;have HF:=zq hF;have HG:=zq hgood;have HZ6:=zq hz6;have xH:=zq hlen;have tK:=zq xg;have hpl:PS.length<=1000000:=by rw[xg];exact hlen
 have hsz:=dB PS;have MR:¬((600:Int)<(PS.length:Int)):=ae;clear aW hB0 hs hc he hR hs0 h1 h2 h3 hcb hTT hF hwr hgood hz6 hlen xg hl;go_enter func19,ntmps19
 go_wp2_with (first
  | ((with_reducible refine(Qc.out _).mono ?_);rintro r w1 ⟨m,rfl,EP,hmL,aK⟩;have EP:=EP.trans Nu.out.symm;have E1:=zq (dM.out.trans aK);have F1:=zq aK;have hBT:=Bx.new 79 ↑m w1;obtain⟨⟨k0,k1,k2,k3,k4⟩,_⟩:=hBT.five;have hFR:=QV m.dep m w0.heap.size (w1.alloc (.cells ↑m 79)) (awj _) (hmL.ev az) (by rw[EP];exact Zf.out) (by rw[EP];have:=zx.out;omega);rw[EP,HF.out]at hFR;have HFR:=zq hFR;clear EP hmL aK hFR hBT)
  | ((with_reducible refine(HFR.out).mono ?_);rintro r w2 ⟨x,rfl,ui,yz,bQ⟩;have ui:x.p=pPlan TT:=ui;have Jd:=zq ui;have EY:=zq yz;have E2:=zq ((Ev.alloc w1 _).trans bQ);have hg2:w.heap.size<w2.heap.size:=awz hg (F1.out.trans E2.out).size;have hBX:=Bx.new 32 ↑x w2;have HBX:=zq hBX;obtain⟨⟨q0,q1,q2,q3,q4,q5,q6,q7⟩,_⟩:=hBX.eight;have Uo:=XW x.dep x _ (w2.alloc (.cells ↑x 32)) (awj _) (yz.ev az) (by rw[ui];exact HG.out) (by rw[ui];have:=HZ6.out;omega) (by rw[ui];exact xH.out);unfold mr at Uo;rw[ui]at Uo;unfold pv fE.v PM.kv at Uo;have Uo:=Uo;rw[<-tK.out]at Uo;have HT9:=zq Uo;clear ui yz bQ Uo hBX)
  | ((with_reducible refine(HT9.out).mono ?_);rintro r w3 ⟨rfl,iI⟩;have E3:=zq ((Ev.alloc w2 _).trans iI);have F3:=zq iI;have Zc:=zq (tV.out.ev ((F1.out.trans E2.out).trans E3.out));obtain⟨⟨r0,r1,r2,r3,r4,r5,r6,r7⟩,s0,s1,s2,s3,s4,s5,s6,s7⟩:=Zc.out.eight;clear q0 q1 q2 q3 q4 q5 q6 q7;obtain⟨⟨q0,q1,q2,q3,q4,q5,q6,q7⟩,_⟩:=(HBX.out.ev iI).eight;clear iI))
 (try simp only[Exit.inBlock,Exit.then]);rw[bu];obtain⟨f1,f2⟩:=lK (awj w.heap.size) ((E1.out.trans E2.out).trans E3.out) Zc.out ↑x.kind ↑x.name (.slice x.ex.A x.ex.l.length x.ex.cap) (.slice x.co.A x.co.l.length x.co.cap) (.slice x.lf.A x.lf.l.length x.lf.cap) (.slice x.rt.A x.rt.l.length x.rt.cap) (.slice x.ag.A x.ag.l.length x.ag.cap) (.slice x.A x.kids.length x.cap);refine bodyPost_ret (aI rfl _ _ _ _ _ rfl f1 underlying32 rfl Tryz.bG) rfl ?_;refine⟨x,rfl,Jd.out,?_,f2⟩;exact(lH ((EY.out.ev az).ev F3.out) (bV _ _ _ _ _ _ _ _ _ _) (λk hk=>by simp at hk;simp;have:=E1.out.size;omega)).low (by simp;have:=E1.out.size;omega)
theorem aei(s:By)(w:ak)(hs:s.length<=100000):Calls ax 19 #[↑s] w (bH (dF s) w):=by by_cases hc:(dG s).2.1=0;by_cases he:(bf (dG s).1).1=0;by_cases hl:600<(printS (aH (pPlan (dG s).1))).length;exact Un s w hs hc he hl;exact ZB s w hs hc he hl;exact WQ s w hs hc he;exact WO s w hs hc
end Go.Proofs.YtpbfokkocaemlaaGreatDoor
