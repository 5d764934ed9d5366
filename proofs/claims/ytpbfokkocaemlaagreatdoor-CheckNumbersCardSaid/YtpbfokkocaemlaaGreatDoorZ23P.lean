import Derived.Test.YtpbfokkocaemlaaGreatDoorZ21P
import Derived.Test.YtpbfokkocaemlaaGreatDoorZ19P
set_option linter.unusedVariables false
set_option maxRecDepth 100000
set_option maxHeartbeats 64000000
namespace Go.Proofs.YtpbfokkocaemlaaGreatDoor
open Go.RowKit
open Go.Lib renaming hid → zq
open Go renaming World → ak
open Go renaming Value → au
open Go.Proofs.Tryz renaming prog → ax
variable {U:Prop}
open Go.Proofs.Tryz
theorem abH{s:By}(h:jO s=true):1<=s.length/\s.length<=12:=by
 unfold jO f_ at h;simp only[awF,axq]at h;have:(aY s).size=s.length:=by simp[aY,ByteArray.size]
 omega
theorem OE:∀l:By,(l.flatMap jb).length<=3*l.length
 | []=>by simp
 | c::l=>by
  have h1:(jb c).length<=3:=by unfold jb;split<;>simp
  have:=OE l;simp only[axS,awE,awR];omega
theorem abI{s:By}(h:s.length<=40):1<=(showV 2 0 ⟨s.toArray⟩).length/\(showV 2 0 ⟨s.toArray⟩).length<=122:=by
 have hr:iL 2 0 ⟨s.toArray⟩=true:=by simp[iL,ByteArray.size,h]
 have hq:=OE s;have e:showV 2 0 ⟨s.toArray⟩=nJ s:=by simp[showV,hr]
 rw[e];unfold nJ;rw[awR,awE];simp only[awR,axw];omega
theorem Kz:∀(l:List T) (b:Bool),(printL b l).length<=(l.map λt=>(printS t).length+1).sum
 | [],b=>by simp[printL]
 | t::l,b=>by
  have:=Kz l false;unfold printL
  cases b<;>simp<;>omega
mutual
theorem Bh:∀t:T,t.every dh=true->xX t=true
 | .mk k s n l p,h=>by rw[T.every,awF]at h;have h1:=(qo h.1).1;have h2:=KA l h.2;unfold zW at h1;simp only[xX,h2,ayb,awF,axq];exact h1
theorem KA:∀l:List T,T.everys dh l=true->fitsAll l=true
 | [],_=>rfl
 | a::l,h=>by rw[T.everys,awF]at h;simp only[fitsAll,Bh a h.1,KA l h.2,Bool.and_self]
end
theorem aCc(h:U:=by exact⟨_,rfl,(Ev.alloc w _).trans aB,(Bx.new 47 #[c0,c1,c2,c3] w).ev aB,hB⟩):U:=h
theorem TR(w:ak)(c0 c1 c2 c3:au):∃w0,(w.alloc (.cells #[c0,c1,c2,c3] 47)).alloc (.cells ↑Zz.a 101)=w0/\Ev w w0/\Bx 47 w.heap.size #[c0,c1,c2,c3] w0/\Bx 101 (w.heap.size+1) ↑Zz.a w0:=by
 have hB:Bx 101 (w.heap.size+1) ↑Zz.a ((w.alloc (.cells #[c0,c1,c2,c3] 47)).alloc (.cells ↑Zz.a 101)):=by have:=Bx.new 101 ↑Zz.a (w.alloc (.cells #[c0,c1,c2,c3] 47));simpa using this
 exact aCc
structure lX(w0:ak)(A:Option Addr)(n cap:Nat)(L:List M)(w:ak):Prop where
 own:Ow 101 5 mc w0.heap.size w (.slice A n cap) L
 len:L.length=n
 lies:∀x∈L,Lies w0.heap.size (foot (.slice A n cap)) w x
 ev:Ev w0 w
theorem lX.next{w0 wr wq w2:ak}{n cap:Nat}{A:Option Addr}{L:List M}{x:M}{v2:au}(h:lX w0 A n cap L wr)(hE:Ev wr wq)(hx:Lies wr.heap.size [] wq x)(hA:mf 101 5 mc w0.heap.size wq (.slice A n cap) (L++[x]) v2 w2):
  ∃A2 cap2,v2=.slice A2 (n+1) cap2/\lX w0 A2 (n+1) cap2 (L++[x]) w2:=by
 obtain⟨ho,hb,hs⟩:=hA;obtain⟨A2,cap2,rfl,qL,xJ⟩:=ho.form ik;have hl:(L++[x]).length=n+1:=by rw[awE,h.len];rfl
 rw[hl]at ho hs qL xJ|-;refine⟨A2,cap2,rfl,ho,hl,λy hy=>?_,?_⟩;have hy2:Lies w0.heap.size (foot (.slice A n cap)) wq y:=by rcases awV.1 hy with h1|h1;exact(h.lies y h1).ev hE;simp at h1;subst h1;refine(hx.less λk hk=>.inr (.inl ?_)).low h.ev.size;exact(h.own.lt (aG.1 hk)).2
 exact hy2.move hb λk hk=>by exact aB_
 exact((But.aW (h.ev.trans hE)).then hb).ev λk hk=>by have:=(h.own.lt (aG.1 hk)).1;omega
theorem aAf(h:U:=by
 obtain⟨A2,cap2,hv,qL,xJ⟩:=h.own.form ik;injection hv with h1 h2 h3
 subst h1 h3;refine⟨.mk qL (λad e=>⟨(xJ ad e).2.1,(xJ ad e).2.2.1,aj⟩) (λk hk=>(h.lies k hk).less (λx hx=>(by cases hx))),h2⟩):U:=h
theorem lX.done{w0 w:ak}{n cap:Nat}{A:Option Addr}{L:List M}(h:lX w0 A n cap L w):Lies w0.heap.size [] w (.mk 1 [] 0 A cap L 0)/\n=L.length:=by exact aAf
theorem oG(b:Nat)(K:List Nat)(w:ak)(k:Int)(s:By)(n:Int)(p:Nat):Lies b K w (.mk k s n none 0 [] p):=.mk (Sl.nil_ w) (λ_ h=>by cases h) (λ_ h=>by cases h)
theorem Yb(m:M):xTree m.t=if m.kind==1 then .mk 2 m.s 0 [] 0 else if m.kind==2 then .mk 3 [] m.n [] 0 else if m.kind==3 then .mk 4 m.s 0 [] 0 else .mk 1 [] 0 (.mk 2 m.s 0 [] 0::m.kids.map λx=>xTree x.t) 0:=by rw[M.qR,xTree,vC,awT];rfl
theorem aeZ(N:Nat):∀(m:M) (b0:Nat) (w:ak),m.dep<=N->Lx b0 [] w m->dX m.t=true->
  Calls ax 143 #[xZ m] w (gB (xTree m.t) w):=by
 induction N with
 | zero=>
  intro m b0 w hd;rw[M.lh]at hd;omega
 | succ N ih=>
  intro m b0 w hd hL hr;obtain⟨hf,VN⟩:=Ef hr;have dK:=Yb m;have lM:=zq ih;have HL:=zq hL;have HKR:=zq VN;have HD:=zq hd;have hes:=hL.es;obtain⟨ms,fM⟩:∃ms,ms=m.s:=⟨_,rfl⟩
  obtain⟨kn,hkn⟩:∃kn,kn=m.kids.length:=⟨_,rfl⟩
  unfold xZ M.kv;rw[<-hkn]at hf hes|-;rw[<-fM]at dK|-;have mg:=zq hkn;generalize m.A=mA at*;generalize m.cap=kL at*;have Oy:=zq hes;have qM:=hes.le;have Vy:=hes.max;obtain⟨R,hR⟩:∃R,R=xTree m.t:=⟨_,rfl⟩
  rw[<-hR]at dK|-;clear ih hL hr VN hd hkn hes hR fM;unfold gB;rcases wW hf with hk|hk|hk|⟨hk,pG,G5⟩
  ·rw[hk]at dK|-;have HK:Hid (R=.mk 2 ms 0 [] 0):=zq (by rw[dK];rfl);obtain⟨w0,hw0,aV,hX,hB⟩:=TR w (.int .i64 1) ↑ms ↑m.n (.slice mA kn kL);obtain⟨⟨c0,c1,c2,c3⟩,_⟩:=hX.four;obtain⟨⟨d0,d1,d2,d3,d4⟩,r0,r1,r2,r3,r4⟩:=hB.five;have HB:=zq hB;have HE:=zq aV;clear dK hk hf hX hB aV;go_enter func143,ntmps143;go_wp2;(try simp only[Exit.inBlock,Exit.then]);rw[dE];refine ayr (aT rfl _ _ _ _ _ rfl (HB.out.kQ _ _ _ _ _) underlying101 rfl Tryz.iV) rfl ?_;exact⟨.mk 2 ms 0 none 0 [] 0,rfl,HK.out.symm,oG _ _ _ _ _ _ _,HE.out.box (bU _ _ _ _ _ _ _) ae⟩
  ·rw[hk]at dK|-;have HK:Hid (R=.mk 3 [] m.n [] 0):=zq (by rw[dK];rfl);obtain⟨w0,hw0,aV,hX,hB⟩:=TR w (.int .i64 2) ↑ms ↑m.n (.slice mA kn kL);obtain⟨⟨c0,c1,c2,c3⟩,_⟩:=hX.four;obtain⟨⟨d0,d1,d2,d3,d4⟩,r0,r1,r2,r3,r4⟩:=hB.five;have HB:=zq hB;have HE:=zq aV;clear dK hk hf hX hB aV;go_enter func143,ntmps143;go_wp2;(try simp only[Exit.inBlock,Exit.then]);rw[dE];refine ayr (aT rfl _ _ _ _ _ rfl (HB.out.kQ _ _ _ _ _) underlying101 rfl Tryz.iV) rfl ?_;exact⟨.mk 3 [] m.n none 0 [] 0,rfl,HK.out.symm,oG _ _ _ _ _ _ _,HE.out.box (bU _ _ _ _ _ _ _) ae⟩
  ·rw[hk]at dK|-;have HK:Hid (R=.mk 4 ms 0 [] 0):=zq (by rw[dK];rfl);obtain⟨w0,hw0,aV,hX,hB⟩:=TR w (.int .i64 3) ↑ms ↑m.n (.slice mA kn kL);obtain⟨⟨c0,c1,c2,c3⟩,_⟩:=hX.four;obtain⟨⟨d0,d1,d2,d3,d4⟩,r0,r1,r2,r3,r4⟩:=hB.five;have HB:=zq hB;have HE:=zq aV;clear dK hk hf hX hB aV;go_enter func143,ntmps143;go_wp2;(try simp only[Exit.inBlock,Exit.then]);rw[dE];refine ayr (aT rfl _ _ _ _ _ rfl (HB.out.kQ _ _ _ _ _) underlying101 rfl Tryz.iV) rfl ?_;exact⟨.mk 4 ms 0 none 0 [] 0,rfl,HK.out.symm,oG _ _ _ _ _ _ _,HE.out.box (bU _ _ _ _ _ _ _) ae⟩
  rw[hk]at dK|-;have HK:Hid (R=.mk 1 [] 0 (.mk 2 ms 0 [] 0::m.kids.map λx=>xTree x.t) 0):=zq (by rw[dK];rfl);have hkb:kn<=3:=by rw[pG];unfold bQ;split<;>(try split)<;>(try split)<;>omega
  obtain⟨w0,hw0,aV,hX,hB⟩:=TR w (.int .i64 4) ↑ms ↑m.n (.slice mA kn kL);obtain⟨⟨c0,c1,c2,c3⟩,_⟩:=hX.four;have HB:=zq hB;have HE:=zq aV;have hI:lX w0 ↑w0 1 1 [.mk 2 ms 0 none 0 [] 0] (w0.alloc (.cells #[.int .i64 2,↑ms,.int .i64 0,↑(),.int .i64 0] 101)):=by refine⟨?_,rfl,λx hx=>?_,Ev.alloc _ _⟩;exact Ow.made (et:=101) (base:=w0.heap.size) ik w0 [.mk 2 ms 0 none 0 [] 0] #[.int .i64 2,↑ms,.int .i64 0,↑(),.int .i64 0] rfl (awC _) aj;simp at hx;subst hx;exact oG _ _ _ _ _ _ _
  have HI0:=zq hI;obtain⟨⟨c0',c1',c2',c3'⟩,_⟩:=(hX.ev (Ev.alloc w0 (.cells #[.int .i64 2,↑ms,.int .i64 0,↑(),.int .i64 0] 101))).four;clear dK hk hf hX hB aV hI pG G5;go_enter func143,ntmps143;go_wp2
  go_loopw [3,30] (λkv iv wr=>∃(A1:Option Addr) (n1 cap1 j:Nat) (L:List M),kv=.slice A1 n1 cap1/\iv=↑j/\j<=kn/\Hid (n1=j+1)/\Hid (lX w0 A1 n1 cap1 L wr)/\Hid (L.map M.t=.mk 2 ms 0 [] 0::(m.kids.take j).map λx=>xTree x.t)) (λ_ iv _=>kn-(intOf iv).toNat)
  case atStart=>exact⟨_,1,1,0,_,rfl,rfl,awJ _,zq rfl,HI0,zq rfl⟩
  case round=>
   obtain⟨A1,n1,cap1,j,L,rfl,rfl,hj,HN,HS,HR⟩:=hrel;have jy:=zq (HE.out.trans HS.out.ev);by_cases hlt:j<kn
   ·obtain⟨x,hx⟩:=Oy.out.at hlt;obtain⟨b,off,rfl,hb,x0,x1,x2,x3⟩:=Es.cell (Oy.out.ev jy.out) hx;have gJ:=awG hx;have jP:Hid ((m.kids.take (j+1)).map (λx=>xTree x.t)=(m.kids.take j).map (λx=>xTree x.t)++[xTree x.t]):=zq (by
     obtain⟨hk2,e⟩:=awz.1 hx;rw[awH hk2,e,awM];rfl)
    have HI:=λw1 (hE:Ev w w1)=>lM.out x b0 w1 (by have:=M.jY gJ;have:=HD.out;omega) ((HL.out.kid x gJ).ev hE) (HKR.out x gJ);unfold xZ M.kv gB at HI;unfold M.kv at x3;have HI:=zq HI;have jd:Hid (L.length<=4):=zq (by rw[HS.out.len,HN.out];omega);have i1:(0:Int)<=(j:Int):=ae;have i2:(j:Int)<(kn:Int):=ae;clear hx gJ
    go_wp2_with (first
     | ((with_reducible refine(HI.out _ (jy.out.trans (Ev.alloc wr _))).mono ?_);rintro e w1 ⟨x',rfl,jM,iH,aN⟩;have qK:=zq jM;have pX:=zq iH;have E1:=zq ((Ev.alloc wr _).trans aN);clear jM iH)
     | ((show wpList _ _ _ (⟨some 38,_,_,_,_,_⟩::_) _ _);refine aO (o:=⟨some 38,_,_,_,_,_⟩) rfl 99 (.tmp 34) (.tmp 37) rfl ik underlying99 Tryz.infoTree rfl rfl (HS.out.own.ev (E1.out.trans (Ev.alloc w1 _))) ↑w1 1 1 [x'] rfl (Sl.one (et:=101) ik w1 x' _ rfl) (by have:=jd.out;simp;omega) (by have:=jd.out;simp;omega) ((HS.out.ev.trans E1.out).trans (Ev.alloc w1 _)).size ?_;intro v2 w2 dY;obtain⟨A2,cap2,rfl,ST2⟩:=HS.out.next (E1.out.trans (Ev.alloc w1 _)) ((pX.out.low (Ev.alloc wr (.cells ↑(x,()) 47)).size).ev (Ev.alloc w1 _)) dY))
    go_roundw
    case rel=>exact⟨A2,n1+1,cap2,j+1,L++[x'],rfl,by go_num,ae,zq (by rw[HN.out]),zq ST2,zq (by rw[jP.out,awM,HR.out,awI,awY,qK.out];rfl)⟩
    case measure=>simp[intOf];omega
   have hjk:j=kn:=ae;have i2:¬((j:Int)<(kn:Int)):=ae;obtain⟨hlx,hnl⟩:=HS.out.done;have jd:=zq hnl;have hbl:=HB.out.lt;have TS:=zq (hlx.less (K':=[w.heap.size+1]) λk hk=>by simp at hk;subst hk;exact .inr (.inl hbl));have HT:Hid (M.t (.mk 1 [] 0 A1 cap1 L 0)=R):=zq (by
    have h5:=HR.out;rw[hjk,mg.out,axk]at h5;simp only[M.t,M.jQ];rw[h5,HK.out])
   have jV:=zq (HB.out.ev HS.out.ev);obtain⟨⟨d0,d1,d2,d3,d4⟩,r0,r1,r2,r3,r4⟩:=jV.out.five;have zQ:=zq HE.out.size;clear hjk hlx hnl hbl;go_wp2;(try simp only[Exit.inBlock,Exit.then]);rw[dE];refine ayr (aT rfl _ _ _ _ _ rfl (jV.out.kQ _ _ _ _ _) underlying101 rfl Tryz.iV) rfl ?_;refine⟨.mk 1 [] 0 A1 cap1 L 0,by simp only[M.kids,M.kind,M.s,M.n,M.A,M.cap,M.pos];rw[<-jd.out];rfl,HT.out,?_,jy.out.box (bU _ _ _ _ _ _ _) ae⟩;exact(TS.out.move (bU _ _ _ _ _ _ _) λk hk=>by cases hk).low zQ.out
theorem Yc(m:M)(b0:Nat)(w:ak)(hL:Lx b0 [] w m)(hr:dX m.t=true)(hsz:m.t.size<=16000)(hf:m.t.every (λt=>decide (t.s.length<=1000000))=true):
  Calls ax 101 #[xZ m] w (gB (xTree m.t) w):=by
 have hR:=λw1 (hE:Ev w w1)=>JY m b0 w1 (hL.ev hE) hsz hf;rw[hr]at hR;have HR:=zq hR;have HT:=zq (λw1 (hE:Ev w w1)=>aeZ m.dep m b0 w1 (awC _) (hL.ev hE) hr);unfold xZ M.kv gB at*;obtain⟨w0,hw0,aV,hX,hB⟩:=TR w ↑m.kind ↑m.s ↑m.n (.slice m.A m.kids.length m.cap);obtain⟨⟨c0,c1,c2,c3⟩,_⟩:=hX.four;have HX:=zq hX;have HB:=zq hB;have HE:=zq aV;have hbl:=zq hB.lt;clear hL hr hsz hf hR hX hB aV;go_enter func101,ntmps101
 go_wp2_with (first
  | ((with_reducible refine(HR.out _ HE.out).mono ?_);rintro e w1 ⟨rfl,aN⟩;have oK:=zq aN;clear c0 c1 c2 c3;obtain⟨⟨c0,c1,c2,c3⟩,_⟩:=(HX.out.ev aN).four;clear aN)
  | ((with_reducible refine(HT.out _ (HE.out.trans oK.out)).mono ?_);rintro e w2 ⟨x,rfl,jM,iH,bM⟩;have lH:=zq (oK.out.trans bM);have qK:=zq jM;have pX:=zq (iH.low (aw0 (Nat.le_succ_of_le hbl.out) (Nat.succ_le_succ oK.out.size) |> λh=>(by have:=oK.out.size;have:=hbl.out;omega:w.heap.size+2<=w1.heap.size)));clear jM iH bM;obtain⟨⟨d0,d1,d2,d3,d4⟩,r0,r1,r2,r3,r4⟩:=(HB.out.ev lH.out).five))
 (try simp only[Exit.inBlock,Exit.then]);rw[dE];refine ayr (aT rfl _ _ _ _ _ rfl ((HB.out.ev lH.out).kQ _ _ _ _ _) underlying101 rfl Tryz.iV) rfl ?_;refine⟨x,rfl,qK.out,?_,(HE.out.trans lH.out).box (bU _ _ _ _ _ _ _) ae⟩;exact((pX.out.less (K':=[w.heap.size+1]) λk hk=>by simp at hk;subst hk;exact .inr (.inl ae)).move (bU _ _ _ _ _ _ _) λk hk=>by cases hk).low ae
theorem Tryz.zB:(Tryz.prog.info? 79).map (·.size)=some 5:=ah
theorem QS(w:ak)(c0 c1 c2 c3:au):∃w0,(w.alloc (.cells #[c0,c1,c2,c3] 47)).alloc (.cells ↑Zz.a 79)=w0/\Ev w w0/\Bx 47 w.heap.size #[c0,c1,c2,c3] w0/\Bx 79 (w.heap.size+1) ↑Zz.a w0:=by have hB:=Bx.new 79 ↑Zz.a (w.alloc (.cells #[c0,c1,c2,c3] 47));rw[show (w.alloc (.cells #[c0,c1,c2,c3] 47)).heap.size=w.heap.size+1 by simp]at hB;exact aCc
structure LQ(w1:ak)(ge:Nat)(A:Option Addr)(n cap:Nat)(L:List M)(w:ak):Prop where
 box:Bx 79 ge #[.int .i64 1,.string ⟨#[]⟩,.int .i64 0,.slice A n cap,.int .i64 0] w
 own:Ow 79 5 mc w1.heap.size w (.slice A n cap) L
 len:L.length=n
 lies:∀x∈L,Lies w1.heap.size (ge::foot (.slice A n cap)) w x
 ev:Ev w1 w
 Hl:w1.heap.size<=ge
 gf:ge∉foot (.slice A n cap)
theorem LQ.next{w1 wr wq w2:ak}{ge n cap:Nat}{A:Option Addr}{L:List M}{x:M}{v2:au}(h:LQ w1 ge A n cap L wr)(hE:Ev wr wq)(hx:Lies wr.heap.size [] wq x)(hA:mf 79 5 mc w1.heap.size wq (.slice A n cap) (L++[x]) v2 w2):
  ∃A2 cap2,v2=.slice A2 (n+1) cap2/\LQ w1 ge A2 (n+1) cap2 (L++[x]) (w2.setCell ⟨ge,3,none⟩ v2):=by
 obtain⟨ho,hb,hs⟩:=hA;obtain⟨A2,cap2,rfl,qL,xJ⟩:=ho.form ik;have hl:(L++[x]).length=n+1:=by rw[awE,h.len];rfl
 rw[hl]at ho hs qL xJ|-;have Ny:=h.box.lt;have hgq:ge<wq.heap.size:=awU Ny hE.size;have alp:ge∉foot (.slice A2 (n+1) cap2):=λhm=>by rcases hs ge (aG.1 hm) with h1|h1;exact h.gf (aG.2 h1);omega
 have hB2:=(h.box.ev hE).but hb h.gf;have Iy:But [ge] w2 (w2.setCell ⟨ge,3,none⟩ (.slice A2 (n+1) cap2)):=But.setCell _ _ aj;refine⟨A2,cap2,rfl,?_,?_,hl,λy hy=>?_,?_,h.Hl,alp⟩;have:=hB2.set 3 (.slice A2 (n+1) cap2);simpa using this;exact ho.but Iy λg hg=>by simp;intro e;exact alp (aG.2 (e▸hg))
 have hy2:Lies w1.heap.size (ge::foot (.slice A n cap)) wq y:=by rcases awV.1 hy with h1|h1;exact(h.lies y h1).ev hE;simp at h1;subst h1;refine(hx.less λk hk=>.inr (.inl ?_)).low h.ev.size;rcases awN.1 hk with rfl|h2;exact Ny;exact(h.own.lt (aG.1 h2)).2
 have hy3:Lies w1.heap.size (ge::foot (.slice A2 (n+1) cap2)) w2 y:=hy2.move (hb.wide λk hk=>.inl (awK _ hk)) λk hk=>by rcases awN.1 hk with rfl|h2;exact .inl (awL ..);rcases hs k (aG.1 h2) with h1|h1;exact .inl (awK _ (aG.2 h1));exact .inr (.inr h1)
 exact hy3.move (Iy.wide λk hk=>by simp at hk;subst hk;exact .inl aj) λk hk=>.inl hk;have h1:Ev w1 w2:=((But.aW (h.ev.trans hE)).then hb).ev λk hk=>(h.own.lt (aG.1 hk)).1;exact h1.box Iy h.Hl
theorem LQ.after{w1 wr wq w2:ak}{ge n cap:Nat}{A:Option Addr}{L L':List M}{v2:au}(h:LQ w1 ge A n cap L wr)(hE:Ev wr wq)(hA:mf 79 5 mc w1.heap.size wq (.slice A n cap) L' v2 w2):
  Bx 79 ge #[.int .i64 1,.string ⟨#[]⟩,.int .i64 0,.slice A n cap,.int .i64 0] w2:=(h.box.ev hE).but hA.2.1 h.gf
theorem LQ.done{w1 w:ak}{ge n cap:Nat}{A:Option Addr}{L:List M}(h:LQ w1 ge A n cap L w):Lies w1.heap.size [] w (.mk 1 [] 0 A cap L 0)/\n=L.length:=by
 obtain⟨A2,cap2,hv,qL,xJ⟩:=h.own.form ik;injection hv with h1 h2 h3
 subst h1 h3;exact⟨.mk qL (λad e=>⟨(xJ ad e).2.1,(xJ ad e).2.2.1,aj⟩) (λk hk=>(h.lies k hk).less (λx hx=>(by cases hx))),h2⟩
theorem LQ.init(w1:ak)(ms:By):LQ w1 (w1.heap.size+1) ↑w1 1 1 [.mk 2 ms 0 none 0 [] 0] ((w1.alloc (.cells #[.int .i64 2,↑ms,.int .i64 0,↑(),.int .i64 0] 79)).alloc (.cells #[.int .i64 1,.string ⟨#[]⟩,.int .i64 0,.slice ↑w1 1 1,.int .i64 0] 79)):=by have hB:=Bx.new 79 #[.int .i64 1,.string ⟨#[]⟩,.int .i64 0,.slice ↑w1 1 1,.int .i64 0] (w1.alloc (.cells #[.int .i64 2,↑ms,.int .i64 0,↑(),.int .i64 0] 79));rw[show (w1.alloc (.cells #[.int .i64 2,↑ms,.int .i64 0,↑(),.int .i64 0] 79)).heap.size=w1.heap.size+1 by simp]at hB;refine⟨hB,(Ow.made (et:=79) (base:=w1.heap.size) ik w1 [.mk 2 ms 0 none 0 [] 0] #[.int .i64 2,↑ms,.int .i64 0,↑(),.int .i64 0] rfl (awC _) aj).ev aB,rfl,λx hx=>?_,aB.trans aB,ae,?_⟩;simp at hx;subst hx;exact oG _ _ _ _ _ _ _;intro hm;have:=aG.1 hm;simp[Value.ownBlock]at this
theorem ac2{m x:M}(hx:x∈m.kids)(hf:m.t.every dh=true)(hs:m.t.size<=100000):x.t.every dh=true/\x.t.size<=100000:=by
 have hm:x.t∈m.t.kids:=by rw[M.bD];exact aw9 hx
 constructor;rw[T.gI,awF]at hf;exact awW.1 hf.2 x.t hm;have h1:=T.size_eq m.t;have h2:=iQ (aw9 (f:=T.size) hm);omega
theorem aft(N:Nat):∀(m:M) (b0:Nat) (w:ak),m.dep<=N->Lx b0 [] w m->dX m.t=true->m.t.every dh=true->m.t.size<=100000->
  Calls ax 85 #[xZ m] w (gB (xTree m.t) w):=by
 induction N with
 | zero=>
  intro m b0 w hd;rw[M.lh]at hd;omega
 | succ N ih=>
  intro m b0 w hd hL hr hfr hsz;have zG:=zq (λw1 (hE:Ev w w1)=>Tu m.dep m b0 w1 (awC _) (hL.ev hE) hfr hsz);rw[hr]at zG;have LU:=zq (λx (hx:x∈m.kids)=>ac2 hx hfr hsz);obtain⟨hf,VN⟩:=Ef hr;have dK:=Yb m;have lM:=zq ih;have HL:=zq hL;have HKR:=zq VN;have HD:=zq hd;have hes:=hL.es;obtain⟨ms,fM⟩:∃ms,ms=m.s:=⟨_,rfl⟩
  obtain⟨kn,hkn⟩:∃kn,kn=m.kids.length:=⟨_,rfl⟩
  unfold xZ at*;unfold M.kv at*;rw[<-hkn]at hf hes zG|-;rw[<-fM]at dK zG|-;have mg:=zq hkn;generalize m.A=mA at*;generalize m.cap=kL at*;have Oy:=zq hes;have qM:=hes.le;have Vy:=hes.max;obtain⟨R,hR⟩:∃R,R=xTree m.t:=⟨_,rfl⟩
  rw[<-hR]at dK|-;clear ih hL hr VN hd hkn hes hR fM hfr hsz;unfold gB;rcases wW hf with hk|hk|hk|⟨hk,pG,G5⟩
  ·rw[hk]at dK zG|-;have HK:Hid (R=.mk 2 ms 0 [] 0):=zq (by rw[dK];rfl);obtain⟨w0,hw0,aV,hX,hB⟩:=QS w (.int .i64 1) ↑ms ↑m.n (.slice mA kn kL);obtain⟨⟨c0,c1,c2,c3⟩,_⟩:=hX.four;have HX:=zq hX;have HB:=zq hB;have HE:=zq aV;clear dK hk hf hX hB aV;go_enter func85,ntmps85
   go_wp2_with (first
    | ((with_reducible refine(zG.out _ HE.out).mono ?_);rintro e w1 ⟨rfl,aN⟩;have E1:=zq (HE.out.trans aN);have sN:=zq (HB.out.ev aN);clear c0 c1 c2 c3;obtain⟨⟨c0,c1,c2,c3⟩,_⟩:=(HX.out.ev aN).four;obtain⟨⟨d0,d1,d2,d3,d4⟩,r0,r1,r2,r3,r4⟩:=sN.out.five;clear aN))
   (try simp only[Exit.inBlock,Exit.then]);rw[dE];refine ayr (aT rfl _ _ _ _ _ rfl (sN.out.kQ _ _ _ _ _) underlying79 rfl Tryz.zB) rfl ?_;exact⟨.mk 2 ms 0 none 0 [] 0,rfl,HK.out.symm,oG _ _ _ _ _ _ _,E1.out.box (bU _ _ _ _ _ _ _) ae⟩
  ·rw[hk]at dK zG|-;have HK:Hid (R=.mk 3 [] m.n [] 0):=zq (by rw[dK];rfl);obtain⟨w0,hw0,aV,hX,hB⟩:=QS w (.int .i64 2) ↑ms ↑m.n (.slice mA kn kL);obtain⟨⟨c0,c1,c2,c3⟩,_⟩:=hX.four;have HX:=zq hX;have HB:=zq hB;have HE:=zq aV;clear dK hk hf hX hB aV;go_enter func85,ntmps85
   go_wp2_with (first
    | ((with_reducible refine(zG.out _ HE.out).mono ?_);rintro e w1 ⟨rfl,aN⟩;have E1:=zq (HE.out.trans aN);have sN:=zq (HB.out.ev aN);clear c0 c1 c2 c3;obtain⟨⟨c0,c1,c2,c3⟩,_⟩:=(HX.out.ev aN).four;obtain⟨⟨d0,d1,d2,d3,d4⟩,r0,r1,r2,r3,r4⟩:=sN.out.five;clear aN))
   (try simp only[Exit.inBlock,Exit.then]);rw[dE];refine ayr (aT rfl _ _ _ _ _ rfl (sN.out.kQ _ _ _ _ _) underlying79 rfl Tryz.zB) rfl ?_;exact⟨.mk 3 [] m.n none 0 [] 0,rfl,HK.out.symm,oG _ _ _ _ _ _ _,E1.out.box (bU _ _ _ _ _ _ _) ae⟩
  ·rw[hk]at dK zG|-;have HK:Hid (R=.mk 4 ms 0 [] 0):=zq (by rw[dK];rfl);obtain⟨w0,hw0,aV,hX,hB⟩:=QS w (.int .i64 3) ↑ms ↑m.n (.slice mA kn kL);obtain⟨⟨c0,c1,c2,c3⟩,_⟩:=hX.four;have HX:=zq hX;have HB:=zq hB;have HE:=zq aV;clear dK hk hf hX hB aV;go_enter func85,ntmps85
   go_wp2_with (first
    | ((with_reducible refine(zG.out _ HE.out).mono ?_);rintro e w1 ⟨rfl,aN⟩;have E1:=zq (HE.out.trans aN);have sN:=zq (HB.out.ev aN);clear c0 c1 c2 c3;obtain⟨⟨c0,c1,c2,c3⟩,_⟩:=(HX.out.ev aN).four;obtain⟨⟨d0,d1,d2,d3,d4⟩,r0,r1,r2,r3,r4⟩:=sN.out.five;clear aN))
   (try simp only[Exit.inBlock,Exit.then]);rw[dE];refine ayr (aT rfl _ _ _ _ _ rfl (sN.out.kQ _ _ _ _ _) underlying79 rfl Tryz.zB) rfl ?_;exact⟨.mk 4 ms 0 none 0 [] 0,rfl,HK.out.symm,oG _ _ _ _ _ _ _,E1.out.box (bU _ _ _ _ _ _ _) ae⟩
  rw[hk]at dK zG|-;have HK:Hid (R=.mk 1 [] 0 (.mk 2 ms 0 [] 0::m.kids.map λx=>xTree x.t) 0):=zq (by rw[dK];rfl);have hkb:kn<=3:=by rw[pG];unfold bQ;split<;>(try split)<;>(try split)<;>omega
  obtain⟨w0,hw0,aV,hX,hB⟩:=QS w (.int .i64 4) ↑ms ↑m.n (.slice mA kn kL);obtain⟨⟨c0,c1,c2,c3⟩,_⟩:=hX.four;have HX:=zq hX;have HB:=zq hB;have HE:=zq aV;clear dK hk hf hX hB aV pG G5;go_enter func85,ntmps85
  go_wp2_with (first
   | ((with_reducible refine(zG.out _ HE.out).mono ?_);rintro e w1 ⟨rfl,aN⟩;have E1:=zq (HE.out.trans aN);have S_:=zq (HX.out.ev aN);have sN:=zq (HB.out.ev aN);clear c0 c1 c2 c3;obtain⟨⟨c0,c1,c2,c3⟩,_⟩:=S_.out.four;clear aN))
  go_loopw [4] (λiv wr=>∃(A1:Option Addr) (n1 cap1 j:Nat) (L:List M),iv=↑j/\j<=kn/\Hid (n1=j+1)/\Hid (LQ w1 (w1.heap.size+1) A1 n1 cap1 L wr)/\Hid (L.map M.t=.mk 2 ms 0 [] 0::(m.kids.take j).map λx=>xTree x.t)) (λiv _=>kn-(intOf iv).toNat)
  case atStart=>exact⟨some ⟨↑w1,0,none⟩,1,1,0,[.mk 2 ms 0 none 0 [] 0],rfl,awJ _,zq rfl,zq (LQ.init w1 ms),zq rfl⟩
  case round=>
   obtain⟨A1,n1,cap1,j,L,rfl,hj,HN,HS,HR⟩:=hrel;have jy:=zq (E1.out.trans HS.out.ev);have Gm:=zq HS.out.ev;clear c0 c1 c2 c3;obtain⟨⟨c0,c1,c2,c3⟩,_⟩:=(S_.out.ev Gm.out).four;obtain⟨⟨d0,d1,d2,d3,d4⟩,r0,r1,r2,r3,r4⟩:=HS.out.box.five;by_cases hlt:j<kn
   ·obtain⟨x,hx⟩:=Oy.out.at hlt;obtain⟨b,off,rfl,hb,x0,x1,x2,x3⟩:=Es.cell (Oy.out.ev jy.out) hx;have gJ:=awG hx;have jP:Hid ((m.kids.take (j+1)).map (λx=>xTree x.t)=(m.kids.take j).map (λx=>xTree x.t)++[xTree x.t]):=zq (by
     obtain⟨hk2,e⟩:=awz.1 hx;rw[awH hk2,e,awM];rfl)
    have HI:=λw1 (hE:Ev w w1)=>lM.out x b0 w1 (by have:=M.jY gJ;have:=HD.out;omega) ((HL.out.kid x gJ).ev hE) (HKR.out x gJ) (LU.out x gJ).1 (LU.out x gJ).2
    try unfold xZ at HI
    try unfold M.kv at HI
    unfold gB at HI;unfold M.kv at x3;have HI:=zq HI;have jd:Hid (L.length<=4):=zq (by rw[HS.out.len,HN.out];omega);have i1:(0:Int)<=(j:Int):=ae;have i2:(j:Int)<(kn:Int):=ae;clear hx gJ;go_wp2
    go_region_law (first
     | (refine VW rfl 85 #[.tmp 44] #[47] rfl ah _ (by simp only[axF,awI,awY];rfl) (HI.out _ (jy.out.trans (Ev.drew wr))) ?_;rintro x' w3 ⟨jM,iH,dV⟩;dsimp only;have qK:=zq jM;have pX:=zq iH;have E3:=zq ((Ev.drew wr).trans dV);obtain⟨⟨d0',d1',d2',d3',d4'⟩,r0',r1',r2',r3',r4'⟩:=(HS.out.box.ev E3.out).five;obtain⟨⟨f0',f1',f2',f3'⟩,_⟩:=(S_.out.ev (Gm.out.trans E3.out)).four;obtain⟨⟨e0',e1',e2',e3',e4'⟩,s0',s1',s2',s3',s4'⟩:=(HS.out.box.ev (E3.out.trans (Ev.alloc w3 (.cells ↑x' 79)))).five;clear jM iH)
     | (refine KE rfl 77 (.tmp 39) (.tmp 46) rfl ik underlying77 Tryz.rG rfl rfl (HS.out.own.ev (E3.out.trans (Ev.alloc w3 _))) ↑w3 1 1 [x'] rfl (Sl.one (et:=79) ik w3 x' _ rfl) (by have:=jd.out;simp;omega) (by have:=jd.out;simp;omega) (by have h8:=(HS.out.ev.trans (E3.out.trans (Ev.alloc w3 (.cells ↑x' 79)))).size;exact h8) ?_;intro v2 w2 dY;obtain⟨⟨d0,d1,d2,d3,d4⟩,r0,r1,r2,r3,r4⟩:=(HS.out.after (E3.out.trans (Ev.alloc w3 _)) dY).five;obtain⟨A2,cap2,rfl,ST2⟩:=HS.out.next (E3.out.trans (Ev.alloc w3 _)) (pX.out.ev (Ev.alloc w3 _)) dY))
    all_goals (
     go_wp2;go_roundw
     case rel=>exact⟨A2,n1+1,cap2,j+1,L++[x'],by go_num,ae,zq (by rw[HN.out]),zq ST2,zq (by rw[jP.out,awM,HR.out,awI,awY,qK.out];rfl)⟩
     case measure=>simp[intOf];omega)
   have hjk:j=kn:=ae;have i2:¬((j:Int)<(kn:Int)):=ae;obtain⟨hlx,hnl⟩:=HS.out.done;have FH:=zq (sN.out.ev Gm.out);obtain⟨⟨y7,y8,y9,MO,b4_⟩,MP,MQ,MR,MS,g4_⟩:=FH.out.five;have aoa:w.heap.size+1<w1.heap.size:=sN.out.lt;have abv:=zq (hlx.less (K':=[w.heap.size+1]) λk hk=>by simp at hk;subst hk;exact .inr (.inl ae));have jd:=zq hnl;have HT:Hid (M.t (.mk 1 [] 0 A1 cap1 L 0)=R):=zq (by
    have h5:=HR.out;rw[hjk,mg.out,axk]at h5;simp only[M.t,M.jQ];rw[h5,HK.out])
   clear hjk hlx hnl;go_wp2;(try simp only[Exit.inBlock,Exit.then]);rw[dE];refine ayr (aT rfl _ _ _ _ _ rfl (FH.out.kQ _ _ _ _ _) underlying79 rfl Tryz.zB) rfl ?_;refine⟨.mk 1 [] 0 A1 cap1 L 0,by simp only[M.kids,M.kind,M.s,M.n,M.A,M.cap,M.pos];rw[<-jd.out];rfl,HT.out,?_,jy.out.box (bU _ _ _ _ _ _ _) ae⟩;exact(abv.out.move (bU _ _ _ _ _ _ _) λk hk=>by cases hk).low ae
end Go.Proofs.YtpbfokkocaemlaaGreatDoor
