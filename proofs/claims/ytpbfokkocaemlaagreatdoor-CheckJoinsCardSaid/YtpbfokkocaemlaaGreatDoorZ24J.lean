import Derived.Test.YtpbfokkocaemlaaGreatDoorZ22J
import Derived.Test.YtpbfokkocaemlaaGreatDoorZ20J
set_option linter.unusedVariables false
set_option maxRecDepth 100000
set_option maxHeartbeats 64000000
namespace Go.Proofs.YtpbfokkocaemlaaGreatDoor
open Go.RowKit
open Go.Lib renaming hid → zq
open Go renaming World → ak
open Go renaming Value → au
open Go.Proofs.Tryz renaming prog → ax
variable {U:Prop}
open Go.Proofs.Tryz
theorem SG{s:By}(h:iC s=true):1<=s.length/\s.length<=12:=by
 unfold iC fK at h;simp only[awk,aw7]at h;have:(dh s).size=s.length:=by simp[dh,ByteArray.size]
 omega
theorem Ov:∀l:By,(l.flatMap iV).length<=3*l.length
 | []=>by simp
 | c::l=>by
  have h1:(iV c).length<=3:=by unfold iV;split<;>simp
  have:=Ov l;simp only[axv,awl,awr];omega
theorem aaU{s:By}(h:s.length<=40):1<=(showV 2 0 ⟨s.toArray⟩).length/\(showV 2 0 ⟨s.toArray⟩).length<=122:=by
 have hr:iG 2 0 ⟨s.toArray⟩=true:=by simp[iG,ByteArray.size,h]
 have hq:=Ov s;have e:showV 2 0 ⟨s.toArray⟩=mX s:=by simp[showV,hr]
 rw[e];unfold mX;rw[awr,awl];simp only[awr,aw'];omega
theorem J_:∀(l:List T) (b:Bool),(printL b l).length<=(l.map λt=>(printS t).length+1).sum
 | [],b=>by simp[printL]
 | t::l,b=>by
  have:=J_ l false;unfold printL
  cases b<;>simp<;>omega
mutual
theorem AA:∀t:T,t.every cO=true->xQ t=true
 | .mk k s n l p,h=>by rw[T.every,awk]at h;have h1:=(pK h.1).1;have h2:=Ko l h.2;unfold zD at h1;simp only[xQ,h2,axP,awk,aw7];exact h1
theorem Ko:∀l:List T,T.everys cO l=true->fitsAll l=true
 | [],_=>rfl
 | a::l,h=>by rw[T.everys,awk]at h;simp only[fitsAll,AA a h.1,Ko l h.2,Bool.and_self]
end
theorem aAZ(h:U:=by exact⟨_,rfl,(Ev.alloc w _).trans az,(Bx.new 47 #[c0,c1,c2,c3] w).ev az,hB⟩):U:=h
theorem Tv(w:ak)(c0 c1 c2 c3:au):∃w0,(w.alloc (.cells #[c0,c1,c2,c3] 47)).alloc (.cells ↑Zz.a 101)=w0/\Ev w w0/\Bx 47 w.heap.size #[c0,c1,c2,c3] w0/\Bx 101 (w.heap.size+1) ↑Zz.a w0:=by
 have hB:Bx 101 (w.heap.size+1) ↑Zz.a ((w.alloc (.cells #[c0,c1,c2,c3] 47)).alloc (.cells ↑Zz.a 101)):=by have:=Bx.new 101 ↑Zz.a (w.alloc (.cells #[c0,c1,c2,c3] 47));simpa using this
 exact aAZ
structure lI(w0:ak)(A:Option Addr)(n cap:Nat)(L:List M)(w:ak):Prop where
 own:Ow 101 5 mc w0.heap.size w (.slice A n cap) L
 len:L.length=n
 lies:∀x∈L,Lies w0.heap.size (foot (.slice A n cap)) w x
 ev:Ev w0 w
theorem lI.next{w0 wr wq w2:ak}{n cap:Nat}{A:Option Addr}{L:List M}{x:M}{v2:au}(h:lI w0 A n cap L wr)(hE:Ev wr wq)(hx:Lies wr.heap.size [] wq x)(hA:nR 101 5 mc w0.heap.size wq (.slice A n cap) (L++[x]) v2 w2):
  ∃A2 cap2,v2=.slice A2 (n+1) cap2/\lI w0 A2 (n+1) cap2 (L++[x]) w2:=by
 obtain⟨ho,hb,hs⟩:=hA;obtain⟨A2,cap2,rfl,qm,xY⟩:=ho.form gW;have hl:(L++[x]).length=n+1:=by rw[awl,h.len];rfl
 rw[hl]at ho hs qm xY|-;refine⟨A2,cap2,rfl,ho,hl,λy hy=>?_,?_⟩;have hy2:Lies w0.heap.size (foot (.slice A n cap)) wq y:=by rcases awD.1 hy with h1|h1;exact(h.lies y h1).ev hE;simp at h1;subst h1;refine(hx.less λk hk=>.inr (.inl ?_)).low h.ev.size;exact(h.own.lt (aG.1 hk)).2
 exact hy2.move hb λk hk=>by exact aAX
 exact((But.aV (h.ev.trans hE)).then hb).ev λk hk=>by have:=(h.own.lt (aG.1 hk)).1;omega
theorem azr(h:U:=by
 obtain⟨A2,cap2,hv,qm,xY⟩:=h.own.form gW;injection hv with h1 h2 h3
 subst h1 h3;refine⟨.mk qm (λad e=>⟨(xY ad e).2.1,(xY ad e).2.2.1,aj⟩) (λk hk=>(h.lies k hk).less (λx hx=>(by cases hx))),h2⟩):U:=h
theorem lI.done{w0 w:ak}{n cap:Nat}{A:Option Addr}{L:List M}(h:lI w0 A n cap L w):Lies w0.heap.size [] w (.mk 1 [] 0 A cap L 0)/\n=L.length:=by exact azr
theorem nO(b:Nat)(K:List Nat)(w:ak)(k:Int)(s:By)(n:Int)(p:Nat):Lies b K w (.mk k s n none 0 [] p):=.mk (Sl.nil_ w) (λ_ h=>by cases h) (λ_ h=>by cases h)
theorem XF(m:M):xTree m.t=if m.kind==1 then .mk 2 m.s 0 [] 0 else if m.kind==2 then .mk 3 [] m.n [] 0 else if m.kind==3 then .mk 4 m.s 0 [] 0 else .mk 1 [] 0 (.mk 2 m.s 0 [] 0::m.kids.map λx=>xTree x.t) 0:=by rw[M.rV,xTree,u_,awy];rfl
theorem adL(N:Nat):∀(m:M) (b0:Nat) (w:ak),m.dep<=N->Lx b0 [] w m->dQ m.t=true->
  Calls ax 143 #[Az m] w (gq (xTree m.t) w):=by
 induction N with
 | zero=>
  intro m b0 w hd;rw[M.nT]at hd;omega
 | succ N ih=>
  intro m b0 w hd hL hr;obtain⟨hf,ZM⟩:=JO hr;have dL:=XF m;have mP:=zq ih;have HL:=zq hL;have HKR:=zq ZM;have HD:=zq hd;have hes:=hL.es;obtain⟨ms,fJ⟩:∃ms,ms=m.s:=⟨_,rfl⟩
  obtain⟨kn,hkn⟩:∃kn,kn=m.kids.length:=⟨_,rfl⟩
  unfold Az M.kv;rw[<-hkn]at hf hes|-;rw[<-fJ]at dL|-;have mF:=zq hkn;generalize m.A=mA at*;generalize m.cap=kJ at*;have Sm:=zq hes;have tJ:=hes.le;have Yk:=hes.max;obtain⟨R,hR⟩:∃R,R=xTree m.t:=⟨_,rfl⟩
  rw[<-hR]at dL|-;clear ih hL hr ZM hd hkn hes hR fJ;unfold gq;rcases zG hf with hk|hk|hk|⟨hk,rH,Jq⟩
  ·rw[hk]at dL|-;have HK:Hid (R=.mk 2 ms 0 [] 0):=zq (by rw[dL];rfl);obtain⟨w0,hw0,aW,hX,hB⟩:=Tv w (.int .i64 1) ↑ms ↑m.n (.slice mA kn kJ);obtain⟨⟨c0,c1,c2,c3⟩,_⟩:=hX.four;obtain⟨⟨d0,d1,d2,d3,d4⟩,r0,r1,r2,r3,r4⟩:=hB.five;have HB:=zq hB;have HE:=zq aW;clear dL hk hf hX hB aW;go_enter func143,ntmps143;go_wp2;(try simp only[Exit.inBlock,Exit.then]);rw[b_];refine bodyPost_ret (aS rfl _ _ _ _ _ rfl (HB.out.kH _ _ _ _ _) underlying101 rfl Tryz.iQ) rfl ?_;exact⟨.mk 2 ms 0 none 0 [] 0,rfl,HK.out.symm,nO _ _ _ _ _ _ _,HE.out.box (bJ _ _ _ _ _ _ _) ae⟩
  ·rw[hk]at dL|-;have HK:Hid (R=.mk 3 [] m.n [] 0):=zq (by rw[dL];rfl);obtain⟨w0,hw0,aW,hX,hB⟩:=Tv w (.int .i64 2) ↑ms ↑m.n (.slice mA kn kJ);obtain⟨⟨c0,c1,c2,c3⟩,_⟩:=hX.four;obtain⟨⟨d0,d1,d2,d3,d4⟩,r0,r1,r2,r3,r4⟩:=hB.five;have HB:=zq hB;have HE:=zq aW;clear dL hk hf hX hB aW;go_enter func143,ntmps143;go_wp2;(try simp only[Exit.inBlock,Exit.then]);rw[b_];refine bodyPost_ret (aS rfl _ _ _ _ _ rfl (HB.out.kH _ _ _ _ _) underlying101 rfl Tryz.iQ) rfl ?_;exact⟨.mk 3 [] m.n none 0 [] 0,rfl,HK.out.symm,nO _ _ _ _ _ _ _,HE.out.box (bJ _ _ _ _ _ _ _) ae⟩
  ·rw[hk]at dL|-;have HK:Hid (R=.mk 4 ms 0 [] 0):=zq (by rw[dL];rfl);obtain⟨w0,hw0,aW,hX,hB⟩:=Tv w (.int .i64 3) ↑ms ↑m.n (.slice mA kn kJ);obtain⟨⟨c0,c1,c2,c3⟩,_⟩:=hX.four;obtain⟨⟨d0,d1,d2,d3,d4⟩,r0,r1,r2,r3,r4⟩:=hB.five;have HB:=zq hB;have HE:=zq aW;clear dL hk hf hX hB aW;go_enter func143,ntmps143;go_wp2;(try simp only[Exit.inBlock,Exit.then]);rw[b_];refine bodyPost_ret (aS rfl _ _ _ _ _ rfl (HB.out.kH _ _ _ _ _) underlying101 rfl Tryz.iQ) rfl ?_;exact⟨.mk 4 ms 0 none 0 [] 0,rfl,HK.out.symm,nO _ _ _ _ _ _ _,HE.out.box (bJ _ _ _ _ _ _ _) ae⟩
  rw[hk]at dL|-;have HK:Hid (R=.mk 1 [] 0 (.mk 2 ms 0 [] 0::m.kids.map λx=>xTree x.t) 0):=zq (by rw[dL];rfl);have hkb:kn<=3:=by rw[rH];unfold bI;split<;>(try split)<;>(try split)<;>omega
  obtain⟨w0,hw0,aW,hX,hB⟩:=Tv w (.int .i64 4) ↑ms ↑m.n (.slice mA kn kJ);obtain⟨⟨c0,c1,c2,c3⟩,_⟩:=hX.four;have HB:=zq hB;have HE:=zq aW;have hI:lI w0 ↑w0.heap.size 1 1 [.mk 2 ms 0 none 0 [] 0] (w0.alloc (.cells #[.int .i64 2,↑ms,.int .i64 0,↑(),.int .i64 0] 101)):=by refine⟨?_,rfl,λx hx=>?_,Ev.alloc _ _⟩;exact Ow.made (et:=101) (base:=w0.heap.size) gW w0 [.mk 2 ms 0 none 0 [] 0] #[.int .i64 2,↑ms,.int .i64 0,↑(),.int .i64 0] rfl (awj _) aj;simp at hx;subst hx;exact nO _ _ _ _ _ _ _
  have HI0:=zq hI;obtain⟨⟨c0',c1',c2',c3'⟩,_⟩:=(hX.ev (Ev.alloc w0 (.cells #[.int .i64 2,↑ms,.int .i64 0,↑(),.int .i64 0] 101))).four;clear dL hk hf hX hB aW hI rH Jq;go_enter func143,ntmps143;go_wp2
  go_loopw [3,30] (λkv iv wr=>∃(A1:Option Addr) (n1 cap1 j:Nat) (L:List M),kv=.slice A1 n1 cap1/\iv=↑j/\j<=kn/\Hid (n1=j+1)/\Hid (lI w0 A1 n1 cap1 L wr)/\Hid (L.map M.t=.mk 2 ms 0 [] 0::(m.kids.take j).map λx=>xTree x.t)) (λ_ iv _=>kn - (intOf iv).toNat)
  case atStart=>exact⟨_,1,1,0,_,rfl,rfl,aww _,zq rfl,HI0,zq rfl⟩
  case round=>
   obtain⟨A1,n1,cap1,j,L,rfl,rfl,hj,HN,HS,HR⟩:=hrel;have ou:=zq (HE.out.trans HS.out.ev);by_cases hlt:j<kn
   ·obtain⟨x,hx⟩:=Sm.out.at hlt;obtain⟨b,off,rfl,hb,x0,x1,x2,x3⟩:=Es.cell (Sm.out.ev ou.out) hx;have iP:=awm hx;have qo:Hid ((m.kids.take (j+1)).map (λx=>xTree x.t)=(m.kids.take j).map (λx=>xTree x.t)++[xTree x.t]):=zq (by
     obtain⟨hk2,e⟩:=awi.1 hx;rw[aws hk2,e,awt];rfl)
    have HI:=λw1 (hE:Ev w w1)=>mP.out x b0 w1 (by have:=M.mg iP;have:=HD.out;omega) ((HL.out.kid x iP).ev hE) (HKR.out x iP);unfold Az M.kv gq at HI;unfold M.kv at x3;have HI:=zq HI;have jg:Hid (L.length<=4):=zq (by rw[HS.out.len,HN.out];omega);have i1:(0:Int)<=(j:Int):=ae;have i2:(j:Int)<(kn:Int):=ae;clear hx iP
    go_wp2_with (first
     | ((with_reducible refine(HI.out _ (ou.out.trans (Ev.alloc wr _))).mono ?_);rintro e w1 ⟨x',rfl,jI,iJ,aK⟩;have qj:=zq jI;have qC:=zq iJ;have E1:=zq ((Ev.alloc wr _).trans aK);clear jI iJ)
     | ((show wpList _ _ _ (⟨some 38,_,_,_,_,_⟩::_) _ _);refine aO (o:=⟨some 38,_,_,_,_,_⟩) rfl 99 (.tmp 34) (.tmp 37) rfl gW underlying99 Tryz.infoTree rfl rfl (HS.out.own.ev (E1.out.trans (Ev.alloc w1 _))) ↑w1.heap.size 1 1 [x'] rfl (Sl.one (et:=101) gW w1 x' _ rfl) (by have:=jg.out;simp;omega) (by have:=jg.out;simp;omega) ((HS.out.ev.trans E1.out).trans (Ev.alloc w1 _)).size ?_;intro v2 w2 gV;obtain⟨A2,cap2,rfl,ST2⟩:=HS.out.next (E1.out.trans (Ev.alloc w1 _)) ((qC.out.low (Ev.alloc wr (.cells ↑(x,()) 47)).size).ev (Ev.alloc w1 _)) gV))
    go_roundw
    case rel=>exact⟨A2,n1+1,cap2,j+1,L++[x'],rfl,by go_num,ae,zq (by rw[HN.out]),zq ST2,zq (by rw[qo.out,awt,HR.out,awo,awG,qj.out];rfl)⟩
    case measure=>simp[intOf];omega
   have hjk:j=kn:=ae;have i2:¬((j:Int)<(kn:Int)):=ae;obtain⟨hlx,hnl⟩:=HS.out.done;have jg:=zq hnl;have hbl:=HB.out.lt;have V6:=zq (hlx.less (K':=[w.heap.size+1]) λk hk=>by simp at hk;subst hk;exact .inr (.inl hbl));have HT:Hid (M.t (.mk 1 [] 0 A1 cap1 L 0)=R):=zq (by
    have h5:=HR.out;rw[hjk,mF.out,aw0]at h5;simp only[M.t,M.jJ];rw[h5,HK.out])
   have jP:=zq (HB.out.ev HS.out.ev);obtain⟨⟨d0,d1,d2,d3,d4⟩,r0,r1,r2,r3,r4⟩:=jP.out.five;have zx:=zq HE.out.size;clear hjk hlx hnl hbl;go_wp2;(try simp only[Exit.inBlock,Exit.then]);rw[b_];refine bodyPost_ret (aS rfl _ _ _ _ _ rfl (jP.out.kH _ _ _ _ _) underlying101 rfl Tryz.iQ) rfl ?_;refine⟨.mk 1 [] 0 A1 cap1 L 0,by simp only[M.kids,M.kind,M.s,M.n,M.A,M.cap,M.pos];rw[<-jg.out];rfl,HT.out,?_,ou.out.box (bJ _ _ _ _ _ _ _) ae⟩;exact(V6.out.move (bJ _ _ _ _ _ _ _) λk hk=>by cases hk).low zx.out
theorem XG(m:M)(b0:Nat)(w:ak)(hL:Lx b0 [] w m)(hr:dQ m.t=true)(hsz:m.t.size<=16000)(hf:m.t.every (λt=>decide (t.s.length<=1000000))=true):
  Calls ax 101 #[Az m] w (gq (xTree m.t) w):=by
 have hR:=λw1 (hE:Ev w w1)=>JM m b0 w1 (hL.ev hE) hsz hf;rw[hr]at hR;have HR:=zq hR;have HT:=zq (λw1 (hE:Ev w w1)=>adL m.dep m b0 w1 (awj _) (hL.ev hE) hr);unfold Az M.kv gq at*;obtain⟨w0,hw0,aW,hX,hB⟩:=Tv w ↑m.kind ↑m.s ↑m.n (.slice m.A m.kids.length m.cap);obtain⟨⟨c0,c1,c2,c3⟩,_⟩:=hX.four;have HX:=zq hX;have HB:=zq hB;have HE:=zq aW;have hbl:=zq hB.lt;clear hL hr hsz hf hR hX hB aW;go_enter func101,ntmps101
 go_wp2_with (first
  | ((with_reducible refine(HR.out _ HE.out).mono ?_);rintro e w1 ⟨rfl,aK⟩;have oO:=zq aK;clear c0 c1 c2 c3;obtain⟨⟨c0,c1,c2,c3⟩,_⟩:=(HX.out.ev aK).four;clear aK)
  | ((with_reducible refine(HT.out _ (HE.out.trans oO.out)).mono ?_);rintro e w2 ⟨x,rfl,jI,iJ,bQ⟩;have tu:=zq (oO.out.trans bQ);have qj:=zq jI;have qC:=zq (iJ.low (awJ (Nat.le_succ_of_le hbl.out) (Nat.succ_le_succ oO.out.size) |> λh=>(by have:=oO.out.size;have:=hbl.out;omega:w.heap.size+2<=w1.heap.size)));clear jI iJ bQ;obtain⟨⟨d0,d1,d2,d3,d4⟩,r0,r1,r2,r3,r4⟩:=(HB.out.ev tu.out).five))
 (try simp only[Exit.inBlock,Exit.then]);rw[b_];refine bodyPost_ret (aS rfl _ _ _ _ _ rfl ((HB.out.ev tu.out).kH _ _ _ _ _) underlying101 rfl Tryz.iQ) rfl ?_;refine⟨x,rfl,qj.out,?_,(HE.out.trans tu.out).box (bJ _ _ _ _ _ _ _) ae⟩;exact((qC.out.less (K':=[w.heap.size+1]) λk hk=>by simp at hk;subst hk;exact .inr (.inl ae)).move (bJ _ _ _ _ _ _ _) λk hk=>by cases hk).low ae
theorem Tryz.yY:(Tryz.prog.info? 79).map (·.size)=some 5:=ah
theorem QE(w:ak)(c0 c1 c2 c3:au):∃w0,(w.alloc (.cells #[c0,c1,c2,c3] 47)).alloc (.cells ↑Zz.a 79)=w0/\Ev w w0/\Bx 47 w.heap.size #[c0,c1,c2,c3] w0/\Bx 79 (w.heap.size+1) ↑Zz.a w0:=by have hB:=Bx.new 79 ↑Zz.a (w.alloc (.cells #[c0,c1,c2,c3] 47));rw[show (w.alloc (.cells #[c0,c1,c2,c3] 47)).heap.size=w.heap.size+1 by simp]at hB;exact aAZ
structure LJ(w1:ak)(ge:Nat)(A:Option Addr)(n cap:Nat)(L:List M)(w:ak):Prop where
 box:Bx 79 ge #[.int .i64 1,.string ⟨#[]⟩,.int .i64 0,.slice A n cap,.int .i64 0] w
 own:Ow 79 5 mc w1.heap.size w (.slice A n cap) L
 len:L.length=n
 lies:∀x∈L,Lies w1.heap.size (ge::foot (.slice A n cap)) w x
 ev:Ev w1 w
 GZ:w1.heap.size<=ge
 gf:ge∉foot (.slice A n cap)
theorem LJ.next{w1 wr wq w2:ak}{ge n cap:Nat}{A:Option Addr}{L:List M}{x:M}{v2:au}(h:LJ w1 ge A n cap L wr)(hE:Ev wr wq)(hx:Lies wr.heap.size [] wq x)(hA:nR 79 5 mc w1.heap.size wq (.slice A n cap) (L++[x]) v2 w2):
  ∃A2 cap2,v2=.slice A2 (n+1) cap2/\LJ w1 ge A2 (n+1) cap2 (L++[x]) (w2.setCell ⟨ge,3,none⟩ v2):=by
 obtain⟨ho,hb,hs⟩:=hA;obtain⟨A2,cap2,rfl,qm,xY⟩:=ho.form gW;have hl:(L++[x]).length=n+1:=by rw[awl,h.len];rfl
 rw[hl]at ho hs qm xY|-;have P5:=h.box.lt;have hgq:ge<wq.heap.size:=awz P5 hE.size;have ajT:ge∉foot (.slice A2 (n+1) cap2):=λhm=>by rcases hs ge (aG.1 hm) with h1|h1;exact h.gf (aG.2 h1);omega
 have hB2:=(h.box.ev hE).but hb h.gf;have Iq:But [ge] w2 (w2.setCell ⟨ge,3,none⟩ (.slice A2 (n+1) cap2)):=But.setCell _ _ aj;refine⟨A2,cap2,rfl,?_,?_,hl,λy hy=>?_,?_,h.GZ,ajT⟩;have:=hB2.set 3 (.slice A2 (n+1) cap2);simpa using this;exact ho.but Iq λg hg=>by simp;intro e;exact ajT (aG.2 (e▸hg))
 have hy2:Lies w1.heap.size (ge::foot (.slice A n cap)) wq y:=by rcases awD.1 hy with h1|h1;exact(h.lies y h1).ev hE;simp at h1;subst h1;refine(hx.less λk hk=>.inr (.inl ?_)).low h.ev.size;rcases awq.1 hk with rfl|h2;exact P5;exact(h.own.lt (aG.1 h2)).2
 have hy3:Lies w1.heap.size (ge::foot (.slice A2 (n+1) cap2)) w2 y:=hy2.move (hb.wide λk hk=>.inl (awn _ hk)) λk hk=>by rcases awq.1 hk with rfl|h2;exact .inl (awp ..);rcases hs k (aG.1 h2) with h1|h1;exact .inl (awn _ (aG.2 h1));exact .inr (.inr h1)
 exact hy3.move (Iq.wide λk hk=>by simp at hk;subst hk;exact .inl aj) λk hk=>.inl hk;have h1:Ev w1 w2:=((But.aV (h.ev.trans hE)).then hb).ev λk hk=>(h.own.lt (aG.1 hk)).1;exact h1.box Iq h.GZ
theorem LJ.after{w1 wr wq w2:ak}{ge n cap:Nat}{A:Option Addr}{L L':List M}{v2:au}(h:LJ w1 ge A n cap L wr)(hE:Ev wr wq)(hA:nR 79 5 mc w1.heap.size wq (.slice A n cap) L' v2 w2):
  Bx 79 ge #[.int .i64 1,.string ⟨#[]⟩,.int .i64 0,.slice A n cap,.int .i64 0] w2:=(h.box.ev hE).but hA.2.1 h.gf
theorem LJ.done{w1 w:ak}{ge n cap:Nat}{A:Option Addr}{L:List M}(h:LJ w1 ge A n cap L w):Lies w1.heap.size [] w (.mk 1 [] 0 A cap L 0)/\n=L.length:=by
 obtain⟨A2,cap2,hv,qm,xY⟩:=h.own.form gW;injection hv with h1 h2 h3
 subst h1 h3;exact⟨.mk qm (λad e=>⟨(xY ad e).2.1,(xY ad e).2.2.1,aj⟩) (λk hk=>(h.lies k hk).less (λx hx=>(by cases hx))),h2⟩
theorem LJ.init(w1:ak)(ms:By):LJ w1 (w1.heap.size+1) ↑w1.heap.size 1 1 [.mk 2 ms 0 none 0 [] 0] ((w1.alloc (.cells #[.int .i64 2,↑ms,.int .i64 0,↑(),.int .i64 0] 79)).alloc (.cells #[.int .i64 1,.string ⟨#[]⟩,.int .i64 0,.slice ↑w1.heap.size 1 1,.int .i64 0] 79)):=by have hB:=Bx.new 79 #[.int .i64 1,.string ⟨#[]⟩,.int .i64 0,.slice ↑w1.heap.size 1 1,.int .i64 0] (w1.alloc (.cells #[.int .i64 2,↑ms,.int .i64 0,↑(),.int .i64 0] 79));rw[show (w1.alloc (.cells #[.int .i64 2,↑ms,.int .i64 0,↑(),.int .i64 0] 79)).heap.size=w1.heap.size+1 by simp]at hB;refine⟨hB,(Ow.made (et:=79) (base:=w1.heap.size) gW w1 [.mk 2 ms 0 none 0 [] 0] #[.int .i64 2,↑ms,.int .i64 0,↑(),.int .i64 0] rfl (awj _) aj).ev az,rfl,λx hx=>?_,az.trans az,ae,?_⟩;simp at hx;subst hx;exact nO _ _ _ _ _ _ _;intro hm;have:=aG.1 hm;simp[Value.ownBlock]at this
theorem abZ{m x:M}(hx:x∈m.kids)(hf:m.t.every cO=true)(hs:m.t.size<=100000):x.t.every cO=true/\x.t.size<=100000:=by
 have hm:x.t∈m.t.kids:=by rw[M.aZ];exact awS hx
 constructor;rw[T.gz,awk]at hf;exact awF.1 hf.2 x.t hm;have h1:=T.size_eq m.t;have h2:=iL (awS (f:=T.size) hm);omega
theorem aea(N:Nat):∀(m:M) (b0:Nat) (w:ak),m.dep<=N->Lx b0 [] w m->dQ m.t=true->m.t.every cO=true->m.t.size<=100000->
  Calls ax 85 #[Az m] w (gq (xTree m.t) w):=by
 induction N with
 | zero=>
  intro m b0 w hd;rw[M.nT]at hd;omega
 | succ N ih=>
  intro m b0 w hd hL hr hfr hsz;have Eo:=zq (λw1 (hE:Ev w w1)=>aaX m.dep m b0 w1 (awj _) (hL.ev hE) hfr hsz);rw[hr]at Eo;have HFK:=zq (λx (hx:x∈m.kids)=>abZ hx hfr hsz);obtain⟨hf,ZM⟩:=JO hr;have dL:=XF m;have mP:=zq ih;have HL:=zq hL;have HKR:=zq ZM;have HD:=zq hd;have hes:=hL.es;obtain⟨ms,fJ⟩:∃ms,ms=m.s:=⟨_,rfl⟩
  obtain⟨kn,hkn⟩:∃kn,kn=m.kids.length:=⟨_,rfl⟩
  unfold Az at*;unfold M.kv at*;rw[<-hkn]at hf hes Eo|-;rw[<-fJ]at dL Eo|-;have mF:=zq hkn;generalize m.A=mA at*;generalize m.cap=kJ at*;have Sm:=zq hes;have tJ:=hes.le;have Yk:=hes.max;obtain⟨R,hR⟩:∃R,R=xTree m.t:=⟨_,rfl⟩
  rw[<-hR]at dL|-;clear ih hL hr ZM hd hkn hes hR fJ hfr hsz;unfold gq;rcases zG hf with hk|hk|hk|⟨hk,rH,Jq⟩
  ·rw[hk]at dL Eo|-;have HK:Hid (R=.mk 2 ms 0 [] 0):=zq (by rw[dL];rfl);obtain⟨w0,hw0,aW,hX,hB⟩:=QE w (.int .i64 1) ↑ms ↑m.n (.slice mA kn kJ);obtain⟨⟨c0,c1,c2,c3⟩,_⟩:=hX.four;have HX:=zq hX;have HB:=zq hB;have HE:=zq aW;clear dL hk hf hX hB aW;go_enter func85,ntmps85
   go_wp2_with (first
    | ((with_reducible refine(Eo.out _ HE.out).mono ?_);rintro e w1 ⟨rfl,aK⟩;have E1:=zq (HE.out.trans aK);have uG:=zq (HB.out.ev aK);clear c0 c1 c2 c3;obtain⟨⟨c0,c1,c2,c3⟩,_⟩:=(HX.out.ev aK).four;obtain⟨⟨d0,d1,d2,d3,d4⟩,r0,r1,r2,r3,r4⟩:=uG.out.five;clear aK))
   (try simp only[Exit.inBlock,Exit.then]);rw[b_];refine bodyPost_ret (aS rfl _ _ _ _ _ rfl (uG.out.kH _ _ _ _ _) underlying79 rfl Tryz.yY) rfl ?_;exact⟨.mk 2 ms 0 none 0 [] 0,rfl,HK.out.symm,nO _ _ _ _ _ _ _,E1.out.box (bJ _ _ _ _ _ _ _) ae⟩
  ·rw[hk]at dL Eo|-;have HK:Hid (R=.mk 3 [] m.n [] 0):=zq (by rw[dL];rfl);obtain⟨w0,hw0,aW,hX,hB⟩:=QE w (.int .i64 2) ↑ms ↑m.n (.slice mA kn kJ);obtain⟨⟨c0,c1,c2,c3⟩,_⟩:=hX.four;have HX:=zq hX;have HB:=zq hB;have HE:=zq aW;clear dL hk hf hX hB aW;go_enter func85,ntmps85
   go_wp2_with (first
    | ((with_reducible refine(Eo.out _ HE.out).mono ?_);rintro e w1 ⟨rfl,aK⟩;have E1:=zq (HE.out.trans aK);have uG:=zq (HB.out.ev aK);clear c0 c1 c2 c3;obtain⟨⟨c0,c1,c2,c3⟩,_⟩:=(HX.out.ev aK).four;obtain⟨⟨d0,d1,d2,d3,d4⟩,r0,r1,r2,r3,r4⟩:=uG.out.five;clear aK))
   (try simp only[Exit.inBlock,Exit.then]);rw[b_];refine bodyPost_ret (aS rfl _ _ _ _ _ rfl (uG.out.kH _ _ _ _ _) underlying79 rfl Tryz.yY) rfl ?_;exact⟨.mk 3 [] m.n none 0 [] 0,rfl,HK.out.symm,nO _ _ _ _ _ _ _,E1.out.box (bJ _ _ _ _ _ _ _) ae⟩
  ·rw[hk]at dL Eo|-;have HK:Hid (R=.mk 4 ms 0 [] 0):=zq (by rw[dL];rfl);obtain⟨w0,hw0,aW,hX,hB⟩:=QE w (.int .i64 3) ↑ms ↑m.n (.slice mA kn kJ);obtain⟨⟨c0,c1,c2,c3⟩,_⟩:=hX.four;have HX:=zq hX;have HB:=zq hB;have HE:=zq aW;clear dL hk hf hX hB aW;go_enter func85,ntmps85
   go_wp2_with (first
    | ((with_reducible refine(Eo.out _ HE.out).mono ?_);rintro e w1 ⟨rfl,aK⟩;have E1:=zq (HE.out.trans aK);have uG:=zq (HB.out.ev aK);clear c0 c1 c2 c3;obtain⟨⟨c0,c1,c2,c3⟩,_⟩:=(HX.out.ev aK).four;obtain⟨⟨d0,d1,d2,d3,d4⟩,r0,r1,r2,r3,r4⟩:=uG.out.five;clear aK))
   (try simp only[Exit.inBlock,Exit.then]);rw[b_];refine bodyPost_ret (aS rfl _ _ _ _ _ rfl (uG.out.kH _ _ _ _ _) underlying79 rfl Tryz.yY) rfl ?_;exact⟨.mk 4 ms 0 none 0 [] 0,rfl,HK.out.symm,nO _ _ _ _ _ _ _,E1.out.box (bJ _ _ _ _ _ _ _) ae⟩
  rw[hk]at dL Eo|-;have HK:Hid (R=.mk 1 [] 0 (.mk 2 ms 0 [] 0::m.kids.map λx=>xTree x.t) 0):=zq (by rw[dL];rfl);have hkb:kn<=3:=by rw[rH];unfold bI;split<;>(try split)<;>(try split)<;>omega
  obtain⟨w0,hw0,aW,hX,hB⟩:=QE w (.int .i64 4) ↑ms ↑m.n (.slice mA kn kJ);obtain⟨⟨c0,c1,c2,c3⟩,_⟩:=hX.four;have HX:=zq hX;have HB:=zq hB;have HE:=zq aW;clear dL hk hf hX hB aW rH Jq;go_enter func85,ntmps85
  go_wp2_with (first
   | ((with_reducible refine(Eo.out _ HE.out).mono ?_);rintro e w1 ⟨rfl,aK⟩;have E1:=zq (HE.out.trans aK);have Su:=zq (HX.out.ev aK);have uG:=zq (HB.out.ev aK);clear c0 c1 c2 c3;obtain⟨⟨c0,c1,c2,c3⟩,_⟩:=Su.out.four;clear aK))
  go_loopw [4] (λiv wr=>∃(A1:Option Addr) (n1 cap1 j:Nat) (L:List M),iv=↑j/\j<=kn/\Hid (n1=j+1)/\Hid (LJ w1 (w1.heap.size+1) A1 n1 cap1 L wr)/\Hid (L.map M.t=.mk 2 ms 0 [] 0::(m.kids.take j).map λx=>xTree x.t)) (λiv _=>kn - (intOf iv).toNat)
  case atStart=>exact⟨some ⟨w1.heap.size,0,none⟩,1,1,0,[.mk 2 ms 0 none 0 [] 0],rfl,aww _,zq rfl,zq (LJ.init w1 ms),zq rfl⟩
  case round=>
   obtain⟨A1,n1,cap1,j,L,rfl,hj,HN,HS,HR⟩:=hrel;have ou:=zq (E1.out.trans HS.out.ev);have FW:=zq HS.out.ev;clear c0 c1 c2 c3;obtain⟨⟨c0,c1,c2,c3⟩,_⟩:=(Su.out.ev FW.out).four;obtain⟨⟨d0,d1,d2,d3,d4⟩,r0,r1,r2,r3,r4⟩:=HS.out.box.five;by_cases hlt:j<kn
   ·obtain⟨x,hx⟩:=Sm.out.at hlt;obtain⟨b,off,rfl,hb,x0,x1,x2,x3⟩:=Es.cell (Sm.out.ev ou.out) hx;have iP:=awm hx;have qo:Hid ((m.kids.take (j+1)).map (λx=>xTree x.t)=(m.kids.take j).map (λx=>xTree x.t)++[xTree x.t]):=zq (by
     obtain⟨hk2,e⟩:=awi.1 hx;rw[aws hk2,e,awt];rfl)
    have HI:=λw1 (hE:Ev w w1)=>mP.out x b0 w1 (by have:=M.mg iP;have:=HD.out;omega) ((HL.out.kid x iP).ev hE) (HKR.out x iP) (HFK.out x iP).1 (HFK.out x iP).2
    try unfold Az at HI
    try unfold M.kv at HI
    unfold gq at HI;unfold M.kv at x3;have HI:=zq HI;have jg:Hid (L.length<=4):=zq (by rw[HS.out.len,HN.out];omega);have i1:(0:Int)<=(j:Int):=ae;have i2:(j:Int)<(kn:Int):=ae;clear hx iP;go_wp2
    go_region_law (first
     | (refine VF rfl 85 #[.tmp 44] #[47] rfl ah _ (by simp only[axl,awo,awG];rfl) (HI.out _ (ou.out.trans (Ev.drew wr))) ?_;rintro x' w3 ⟨jI,iJ,iI⟩;dsimp only;have qj:=zq jI;have qC:=zq iJ;have E3:=zq ((Ev.drew wr).trans iI);obtain⟨⟨d0',d1',d2',d3',d4'⟩,r0',r1',r2',r3',r4'⟩:=(HS.out.box.ev E3.out).five;obtain⟨⟨f0',f1',f2',f3'⟩,_⟩:=(Su.out.ev (FW.out.trans E3.out)).four;obtain⟨⟨e0',e1',e2',e3',e4'⟩,s0',s1',s2',s3',s4'⟩:=(HS.out.box.ev (E3.out.trans (Ev.alloc w3 (.cells ↑x' 79)))).five;clear jI iJ)
     | (refine Ku rfl 77 (.tmp 39) (.tmp 46) rfl gW underlying77 Tryz.qO rfl rfl (HS.out.own.ev (E3.out.trans (Ev.alloc w3 _))) ↑w3.heap.size 1 1 [x'] rfl (Sl.one (et:=79) gW w3 x' _ rfl) (by have:=jg.out;simp;omega) (by have:=jg.out;simp;omega) (by have h8:=(HS.out.ev.trans (E3.out.trans (Ev.alloc w3 (.cells ↑x' 79)))).size;exact h8) ?_;intro v2 w2 gV;obtain⟨⟨d0,d1,d2,d3,d4⟩,r0,r1,r2,r3,r4⟩:=(HS.out.after (E3.out.trans (Ev.alloc w3 _)) gV).five;obtain⟨A2,cap2,rfl,ST2⟩:=HS.out.next (E3.out.trans (Ev.alloc w3 _)) (qC.out.ev (Ev.alloc w3 _)) gV))
    all_goals (
     go_wp2;go_roundw
     case rel=>exact⟨A2,n1+1,cap2,j+1,L++[x'],by go_num,ae,zq (by rw[HN.out]),zq ST2,zq (by rw[qo.out,awt,HR.out,awo,awG,qj.out];rfl)⟩
     case measure=>simp[intOf];omega)
   have hjk:j=kn:=ae;have i2:¬((j:Int)<(kn:Int)):=ae;obtain⟨hlx,hnl⟩:=HS.out.done;have EX:=zq (uG.out.ev FW.out);obtain⟨⟨yJ,yK,yL,MO,b4_⟩,zi,zk,xJ,MP,g4_⟩:=EX.out.five;have amy:w.heap.size+1<w1.heap.size:=uG.out.lt;have aaI:=zq (hlx.less (K':=[w.heap.size+1]) λk hk=>by simp at hk;subst hk;exact .inr (.inl ae));have jg:=zq hnl;have HT:Hid (M.t (.mk 1 [] 0 A1 cap1 L 0)=R):=zq (by
    have h5:=HR.out;rw[hjk,mF.out,aw0]at h5;simp only[M.t,M.jJ];rw[h5,HK.out])
   clear hjk hlx hnl;go_wp2;(try simp only[Exit.inBlock,Exit.then]);rw[b_];refine bodyPost_ret (aS rfl _ _ _ _ _ rfl (EX.out.kH _ _ _ _ _) underlying79 rfl Tryz.yY) rfl ?_;refine⟨.mk 1 [] 0 A1 cap1 L 0,by simp only[M.kids,M.kind,M.s,M.n,M.A,M.cap,M.pos];rw[<-jg.out];rfl,HT.out,?_,ou.out.box (bJ _ _ _ _ _ _ _) ae⟩;exact(aaI.out.move (bJ _ _ _ _ _ _ _) λk hk=>by cases hk).low ae
end Go.Proofs.YtpbfokkocaemlaaGreatDoor
