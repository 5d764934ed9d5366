import Derived.Test.YtpbfokkocaemlaaGreatDoorZ22S
import Derived.Test.YtpbfokkocaemlaaGreatDoorZ20S
set_option linter.unusedVariables false
set_option maxRecDepth 100000
set_option maxHeartbeats 64000000
namespace Go.Proofs.YtpbfokkocaemlaaGreatDoor
open Go.RowKit
open Go.Lib renaming hid → zq
theorem Zj {s:By} (h:jh s=true):1≤s.length∧s.length≤12:=by
 unfold jh fM at h;simp only[atu,aun]at h;have:(dh s).size=s.length:=by simp[dh,ByteArray.size]
 omega
theorem M_:∀l:By,(l.flatMap iL).length≤3*l.length
 | []=>by simp
 | c::l=>by
  have h1:(iL c).length≤3:=by unfold iL;split<;>simp
  have:=M_ l;simp only[auN,atv,atF];omega
theorem Zk {s:By} (h:s.length≤40):1≤(showV 2 0 ⟨s.toArray⟩).length∧(showV 2 0 ⟨s.toArray⟩).length≤122:=by
 have hr:ik 2 0 ⟨s.toArray⟩=true:=by simp[ik,ByteArray.size,h]
 have hq:=M_ s;have e:showV 2 0 ⟨s.toArray⟩=lV s:=by simp[showV,hr]
 rw[e];unfold lV;rw[atF,atv];simp only[atF,aur];omega
theorem IZ:∀(l:List T) (b:Bool),(printL b l).length≤(l.map fun t=>(printS t).length+1).sum
 | [],b=>by simp[printL]
 | t::l,b=>by
  have:=IZ l false;unfold printL
  cases b<;>simp<;>omega
mutual
theorem zB:∀t:T,t.every bZ=true→wJ t=true
 | .mk k s n l p,h=>by rw[T.every,atu]at h;have h1:=(oG h.1).1;have h2:=I4 l h.2;unfold yL at h1;simp only[wJ,h2,au8,atu,aun];exact h1
theorem I4:∀l:List T,T.everys bZ l=true→fitsAll l=true
 | [],_=>rfl
 | a::l,h=>by rw[T.everys,atu]at h;simp only[fitsAll,zB a h.1,I4 l h.2,Bool.and_self]
end
theorem axW {P:Prop} (h:P:=by exact⟨_,rfl,(Ev.alloc w _).trans (Ev.alloc _ _),(Bx.new 47 #[c0,c1,c2,c3] w).ev (Ev.alloc _ _),hB⟩):P:=h
theorem Q8 (w:World) (c0 c1 c2 c3:Value):∃w0,(w.alloc (.cells #[c0,c1,c2,c3] 47)).alloc (.cells #[.int .i64 0,.string ⟨#[]⟩,.int .i64 0,.slice none 0 0,.int .i64 0] 101)=w0∧Ev w w0∧Bx 47 w.heap.size #[c0,c1,c2,c3] w0∧Bx 101 (w.heap.size+1) #[.int .i64 0,.string ⟨#[]⟩,.int .i64 0,.slice none 0 0,.int .i64 0] w0:=by
 have hB:Bx 101 (w.heap.size+1) #[.int .i64 0,.string ⟨#[]⟩,.int .i64 0,.slice none 0 0,.int .i64 0] ((w.alloc (.cells #[c0,c1,c2,c3] 47)).alloc (.cells #[.int .i64 0,.string ⟨#[]⟩,.int .i64 0,.slice none 0 0,.int .i64 0] 101)):=by have:=Bx.new 101 #[.int .i64 0,.string ⟨#[]⟩,.int .i64 0,.slice none 0 0,.int .i64 0] (w.alloc (.cells #[c0,c1,c2,c3] 47));simpa using this
 exact axW
structure kM (w0:World) (A:Option Addr) (n cap:Nat) (L:List M) (w:World):Prop where
 own:Ow 101 5 mc w0.heap.size w (.slice A n cap) L
 len:L.length=n
 lies:∀x∈L,Lies w0.heap.size (foot (.slice A n cap)) w x
 ev:Ev w0 w
theorem kM.next {w0 wr wq w2:World} {n cap:Nat} {A:Option Addr} {L:List M} {x:M} {v2:Value} (h:kM w0 A n cap L wr) (hE:Ev wr wq) (hx:Lies wr.heap.size [] wq x) (hA:mW 101 5 mc w0.heap.size wq (.slice A n cap) (L++[x]) v2 w2):
  ∃A2 cap2,v2=.slice A2 (n+1) cap2∧kM w0 A2 (n+1) cap2 (L++[x]) w2:=by
 obtain⟨ho,hb,hs⟩:=hA;obtain⟨A2,cap2,rfl,oZ,wQ⟩:=ho.form gB;have hl:(L++[x]).length=n+1:=by rw[atv,h.len];rfl
 rw[hl]at ho hs oZ wQ⊢;refine⟨A2,cap2,rfl,ho,hl,fun y hy=>?_,?_⟩;have hy2:Lies w0.heap.size (foot (.slice A n cap)) wq y:=by rcases atK.1 hy with h1|h1;exact (h.lies y h1).ev hE;simp at h1;subst h1;refine (hx.less fun k hk=>.inr (.inl ?_)).low h.ev.size;exact (h.own.lt (aB.1 hk)).2
 exact hy2.move hb fun k hk=>by exact ayc
 exact ((But.aS (h.ev.trans hE)).then hb).ev fun k hk=>by have:=(h.own.lt (aB.1 hk)).1;omega
theorem awN {P:Prop} (h:P:=by
 obtain⟨A2,cap2,hv,oZ,wQ⟩:=h.own.form gB;injection hv with h1 h2 h3
 subst h1;subst h3;refine⟨.mk oZ (fun ad e=>⟨(wQ ad e).2.1,(wQ ad e).2.2.1,by simp⟩) (fun k hk=>(h.lies k hk).less (fun x hx=>(by cases hx))),h2⟩):P:=h
theorem kM.done {w0 w:World} {n cap:Nat} {A:Option Addr} {L:List M} (h:kM w0 A n cap L w):Lies w0.heap.size [] w (.mk 1 [] 0 A cap L 0)∧n=L.length:=by exact awN
theorem mQ (b:Nat) (K:List Nat) (w:World) (k:Int) (s:By) (n:Int) (p:Nat):Lies b K w (.mk k s n none 0 [] p):=.mk (Sl.nil_ w) (fun _ h=>by cases h) (fun _ h=>by cases h)
theorem VS (m:M):xTree m.t=if m.kind==1 then .mk 2 m.s 0 [] 0 else if m.kind==2 then .mk 3 [] m.n [] 0 else if m.kind==3 then .mk 4 m.s 0 [] 0 else .mk 1 [] 0 (.mk 2 m.s 0 [] 0::m.kids.map fun x=>xTree x.t) 0:=by rw[M.qO,xTree,ui,atI];rfl
theorem ab7 (N:Nat):∀(m:M) (b0:Nat) (w:World),m.dep≤N→Lx b0 [] w m→dK m.t=true→
  Calls Tryz.prog 143 #[zA m] w (fO (xTree m.t) w):=by
 induction N with
 | zero=>
  intro m b0 w hd;rw[M.mX]at hd;omega
 | succ N ih=>
  intro m b0 w hd hL hr;obtain⟨hf,Yi⟩:=IA hr;have dG:=VS m;have lS:=zq ih;have HL:=zq hL;have HKR:=zq Yi;have HD:=zq hd;have hes:=hL.es;obtain⟨ms,fA⟩:∃ms,ms=m.s:=⟨_,rfl⟩
  obtain⟨kn,hkn⟩:∃kn,kn=m.kids.length:=⟨_,rfl⟩
  unfold zA;unfold M.kv;rw[←hkn]at hf hes⊢;rw[←fA]at dG⊢;have lJ:=zq hkn;generalize m.A=mA at*;generalize m.cap=jP at*;have Qv:=zq hes;have rH:=hes.le;have WC:=hes.max;obtain⟨R,hR⟩:∃R,R=xTree m.t:=⟨_,rfl⟩
  rw[←hR]at dG⊢;clear ih hL hr Yi hd hkn hes hR fA;unfold fO;rcases yO hf with hk|hk|hk|⟨hk,qF,Ia⟩
  ·rw[hk]at dG⊢;have HK:Hid (R=.mk 2 ms 0 [] 0):=zq (by rw[dG];rfl);obtain⟨w0,hw0,aT,hX,hB⟩:=Q8 w (.int .i64 1) (.string ⟨ms.toArray⟩) (.int .i64 m.n) (.slice mA kn jP);obtain⟨⟨c0,c1,c2,c3⟩,_⟩:=hX.four;obtain⟨⟨d0,d1,d2,d3,d4⟩,r0,r1,r2,r3,r4⟩:=hB.five;have HB:=zq hB;have HE:=zq aT;clear dG hk hf hX hB aT;go_enter Tryz.func143,Tryz.ntmps143;go_wp2;(try simp only[Exit.inBlock,Exit.then]);rw[bW];refine bodyPost_ret (aP rfl _ _ _ _ _ rfl (HB.out.jO _ _ _ _ _) Tryz.underlying101 rfl Tryz.iG) rfl ?_;exact⟨.mk 2 ms 0 none 0 [] 0,rfl,HK.out.symm,mQ _ _ _ _ _ _ _,HE.out.box (bD _ _ _ _ _ _ _) (by omega)⟩
  ·rw[hk]at dG⊢;have HK:Hid (R=.mk 3 [] m.n [] 0):=zq (by rw[dG];rfl);obtain⟨w0,hw0,aT,hX,hB⟩:=Q8 w (.int .i64 2) (.string ⟨ms.toArray⟩) (.int .i64 m.n) (.slice mA kn jP);obtain⟨⟨c0,c1,c2,c3⟩,_⟩:=hX.four;obtain⟨⟨d0,d1,d2,d3,d4⟩,r0,r1,r2,r3,r4⟩:=hB.five;have HB:=zq hB;have HE:=zq aT;clear dG hk hf hX hB aT;go_enter Tryz.func143,Tryz.ntmps143;go_wp2;(try simp only[Exit.inBlock,Exit.then]);rw[bW];refine bodyPost_ret (aP rfl _ _ _ _ _ rfl (HB.out.jO _ _ _ _ _) Tryz.underlying101 rfl Tryz.iG) rfl ?_;exact⟨.mk 3 [] m.n none 0 [] 0,rfl,HK.out.symm,mQ _ _ _ _ _ _ _,HE.out.box (bD _ _ _ _ _ _ _) (by omega)⟩
  ·rw[hk]at dG⊢;have HK:Hid (R=.mk 4 ms 0 [] 0):=zq (by rw[dG];rfl);obtain⟨w0,hw0,aT,hX,hB⟩:=Q8 w (.int .i64 3) (.string ⟨ms.toArray⟩) (.int .i64 m.n) (.slice mA kn jP);obtain⟨⟨c0,c1,c2,c3⟩,_⟩:=hX.four;obtain⟨⟨d0,d1,d2,d3,d4⟩,r0,r1,r2,r3,r4⟩:=hB.five;have HB:=zq hB;have HE:=zq aT;clear dG hk hf hX hB aT;go_enter Tryz.func143,Tryz.ntmps143;go_wp2;(try simp only[Exit.inBlock,Exit.then]);rw[bW];refine bodyPost_ret (aP rfl _ _ _ _ _ rfl (HB.out.jO _ _ _ _ _) Tryz.underlying101 rfl Tryz.iG) rfl ?_;exact⟨.mk 4 ms 0 none 0 [] 0,rfl,HK.out.symm,mQ _ _ _ _ _ _ _,HE.out.box (bD _ _ _ _ _ _ _) (by omega)⟩
  rw[hk]at dG⊢;have HK:Hid (R=.mk 1 [] 0 (.mk 2 ms 0 [] 0::m.kids.map fun x=>xTree x.t) 0):=zq (by rw[dG];rfl);have hkb:kn≤3:=by rw[qF];unfold bC;split<;>(try split)<;>(try split)<;>omega
  obtain⟨w0,hw0,aT,hX,hB⟩:=Q8 w (.int .i64 4) (.string ⟨ms.toArray⟩) (.int .i64 m.n) (.slice mA kn jP);obtain⟨⟨c0,c1,c2,c3⟩,_⟩:=hX.four;have HB:=zq hB;have HE:=zq aT;have hI:kM w0 (some ⟨w0.heap.size,0,none⟩) 1 1 [.mk 2 ms 0 none 0 [] 0] (w0.alloc (.cells #[.int .i64 2,.string ⟨ms.toArray⟩,.int .i64 0,.slice none 0 0,.int .i64 0] 101)):=by refine⟨?_,rfl,fun x hx=>?_,Ev.alloc _ _⟩;exact Ow.made (et:=101) (base:=w0.heap.size) gB w0 [.mk 2 ms 0 none 0 [] 0] #[.int .i64 2,.string ⟨ms.toArray⟩,.int .i64 0,.slice none 0 0,.int .i64 0] rfl (att _) (by simp);simp at hx;subst hx;exact mQ _ _ _ _ _ _ _
  have HI0:=zq hI;obtain⟨⟨c0',c1',c2',c3'⟩,_⟩:=(hX.ev (Ev.alloc w0 (.cells #[.int .i64 2,.string ⟨ms.toArray⟩,.int .i64 0,.slice none 0 0,.int .i64 0] 101))).four;clear dG hk hf hX hB aT hI qF Ia;go_enter Tryz.func143,Tryz.ntmps143;go_wp2
  go_loopw [3,30] (fun kv iv wr=>∃(A1:Option Addr) (n1 cap1 j:Nat) (L:List M),kv=.slice A1 n1 cap1∧iv=.int .i64 (j:Int)∧j≤kn∧Hid (n1=j+1)∧Hid (kM w0 A1 n1 cap1 L wr)∧Hid (L.map M.t=.mk 2 ms 0 [] 0::(m.kids.take j).map fun x=>xTree x.t)) (fun _ iv _=>kn - (intOf iv).toNat)
  case atStart=>exact⟨_,1,1,0,_,rfl,rfl,atG _,zq rfl,HI0,zq rfl⟩
  case round=>
   obtain⟨A1,n1,cap1,j,L,rfl,rfl,hj,HN,HS,HR⟩:=hrel;have nG:=zq (HE.out.trans HS.out.ev);by_cases hlt:j<kn
   ·obtain⟨x,hx⟩:=Qv.out.at hlt;obtain⟨b,off,rfl,hb,x0,x1,x2,x3⟩:=Es.cell (Qv.out.ev nG.out) hx;have iF:=atw hx;have pI:Hid ((m.kids.take (j+1)).map (fun x=>xTree x.t)=(m.kids.take j).map (fun x=>xTree x.t)++[xTree x.t]):=zq (by
     obtain⟨hk2,e⟩:=atr.1 hx;rw[atD hk2,e,atB];rfl)
    have HI:=fun w1 (hE:Ev w w1)=>lS.out x b0 w1 (by have:=M.lF iF;have:=HD.out;omega) ((HL.out.kid x iF).ev hE) (HKR.out x iF);unfold zA M.kv fO at HI;unfold M.kv at x3;have HI:=zq HI;have iQ:Hid (L.length≤4):=zq (by rw[HS.out.len,HN.out];omega);have i1:(0:Int)≤(j:Int):=by omega
    have i2:(j:Int)<(kn:Int):=by omega
    clear hx iF
    go_wp2_with (first
     | ((with_reducible refine (HI.out _ (nG.out.trans (Ev.alloc wr _))).mono ?_);rintro e w1 ⟨x',rfl,jg,iq,aH⟩;have oW:=zq jg;have pz:=zq iq;have E1:=zq ((Ev.alloc wr _).trans aH);clear jg iq)
     | ((show wpList _ _ _ (⟨some 38,_,_,_,_,_⟩::_) _ _);refine aK (o:=⟨some 38,_,_,_,_,_⟩) rfl 99 (.tmp 34) (.tmp 37) rfl gB Tryz.underlying99 Tryz.infoTree rfl rfl (HS.out.own.ev (E1.out.trans (Ev.alloc w1 _))) (some ⟨w1.heap.size,0,none⟩) 1 1 [x'] rfl (Sl.one (et:=101) gB w1 x' _ rfl) (by have:=iQ.out;simp;omega) (by have:=iQ.out;simp;omega) ((HS.out.ev.trans E1.out).trans (Ev.alloc w1 _)).size ?_;intro v2 w2 gz;obtain⟨A2,cap2,rfl,ST2⟩:=HS.out.next (E1.out.trans (Ev.alloc w1 _)) ((pz.out.low (Ev.alloc wr (.cells #[.int .i64 x.kind,.string ⟨x.s.toArray⟩,.int .i64 x.n,.slice x.A x.kids.length x.cap] 47)).size).ev (Ev.alloc w1 _)) gz))
    go_roundw
    case rel=>exact⟨A2,n1+1,cap2,j+1,L++[x'],rfl,by go_num,by omega,zq (by rw[HN.out]),zq ST2,zq (by rw[pI.out,atB,HR.out,atx,atQ,oW.out];rfl)⟩
    case measure=>simp[intOf];omega
   have hjk:j=kn:=by omega
   have i2:¬((j:Int)<(kn:Int)):=by omega
   obtain⟨hlx,hnl⟩:=HS.out.done;have iQ:=zq hnl;have hbl:=HB.out.lt;have UK:=zq (hlx.less (K':=[w.heap.size+1]) fun k hk=>by simp at hk;subst hk;exact .inr (.inl hbl));have HT:Hid (M.t (.mk 1 [] 0 A1 cap1 L 0)=R):=zq (by
    have h5:=HR.out;rw[hjk,lJ.out,auf]at h5;simp only[M.t,M.ji];rw[h5,HK.out])
   have jq:=zq (HB.out.ev HS.out.ev);obtain⟨⟨d0,d1,d2,d3,d4⟩,r0,r1,r2,r3,r4⟩:=jq.out.five;have yH:=zq HE.out.size;clear hjk hlx hnl hbl;go_wp2;(try simp only[Exit.inBlock,Exit.then]);rw[bW];refine bodyPost_ret (aP rfl _ _ _ _ _ rfl (jq.out.jO _ _ _ _ _) Tryz.underlying101 rfl Tryz.iG) rfl ?_;refine⟨.mk 1 [] 0 A1 cap1 L 0,by simp only[M.kids,M.kind,M.s,M.n,M.A,M.cap,M.pos];rw[←iQ.out];rfl,HT.out,?_,nG.out.box (bD _ _ _ _ _ _ _) (by omega)⟩;exact (UK.out.move (bD _ _ _ _ _ _ _) fun k hk=>by cases hk).low yH.out
theorem VT (m:M) (b0:Nat) (w:World) (hL:Lx b0 [] w m) (hr:dK m.t=true) (hsz:m.t.size≤16000) (hf:m.t.every (fun t=>decide (t.s.length≤1000000))=true):
  Calls Tryz.prog 101 #[zA m] w (fO (xTree m.t) w):=by
 have hR:=fun w1 (hE:Ev w w1)=>Iz m b0 w1 (hL.ev hE) hsz hf;rw[hr]at hR;have HR:=zq hR;have HT:=zq (fun w1 (hE:Ev w w1)=>ab7 m.dep m b0 w1 (att _) (hL.ev hE) hr);unfold zA M.kv fO at*;obtain⟨w0,hw0,aT,hX,hB⟩:=Q8 w (.int .i64 m.kind) (.string ⟨m.s.toArray⟩) (.int .i64 m.n) (.slice m.A m.kids.length m.cap);obtain⟨⟨c0,c1,c2,c3⟩,_⟩:=hX.four;have HX:=zq hX;have HB:=zq hB;have HE:=zq aT;have hbl:=zq hB.lt;clear hL hr hsz hf hR hX hB aT;go_enter Tryz.func101,Tryz.ntmps101
 go_wp2_with (first
  | ((with_reducible refine (HR.out _ HE.out).mono ?_);rintro e w1 ⟨rfl,aH⟩;have nS:=zq aH;clear c0 c1 c2 c3;obtain⟨⟨c0,c1,c2,c3⟩,_⟩:=(HX.out.ev aH).four;clear aH)
  | ((with_reducible refine (HT.out _ (HE.out.trans nS.out)).mono ?_);rintro e w2 ⟨x,rfl,jg,iq,bK⟩;have rD:=zq (nS.out.trans bK);have oW:=zq jg;have pz:=zq (iq.low (atP (Nat.le_succ_of_le hbl.out) (Nat.succ_le_succ nS.out.size) |> fun h=>(by have:=nS.out.size;have:=hbl.out;omega:w.heap.size+2≤w1.heap.size)));clear jg iq bK;obtain⟨⟨d0,d1,d2,d3,d4⟩,r0,r1,r2,r3,r4⟩:=(HB.out.ev rD.out).five))
 (try simp only[Exit.inBlock,Exit.then]);rw[bW];refine bodyPost_ret (aP rfl _ _ _ _ _ rfl ((HB.out.ev rD.out).jO _ _ _ _ _) Tryz.underlying101 rfl Tryz.iG) rfl ?_;refine⟨x,rfl,oW.out,?_,(HE.out.trans rD.out).box (bD _ _ _ _ _ _ _) (by omega)⟩;exact ((pz.out.less (K':=[w.heap.size+1]) fun k hk=>by simp at hk;subst hk;exact .inr (.inl (by omega))).move (bD _ _ _ _ _ _ _) fun k hk=>by cases hk).low (by omega)
theorem Tryz.yl:(Tryz.prog.info? 79).map (·.size)=some 5:=by kernel_rfl
theorem O_ (w:World) (c0 c1 c2 c3:Value):∃w0,(w.alloc (.cells #[c0,c1,c2,c3] 47)).alloc (.cells #[.int .i64 0,.string ⟨#[]⟩,.int .i64 0,.slice none 0 0,.int .i64 0] 79)=w0∧Ev w w0∧Bx 47 w.heap.size #[c0,c1,c2,c3] w0∧Bx 79 (w.heap.size+1) #[.int .i64 0,.string ⟨#[]⟩,.int .i64 0,.slice none 0 0,.int .i64 0] w0:=by have hB:=Bx.new 79 #[.int .i64 0,.string ⟨#[]⟩,.int .i64 0,.slice none 0 0,.int .i64 0] (w.alloc (.cells #[c0,c1,c2,c3] 47));rw[show (w.alloc (.cells #[c0,c1,c2,c3] 47)).heap.size=w.heap.size+1 by simp]at hB;exact axW
structure J4 (w1:World) (ge:Nat) (A:Option Addr) (n cap:Nat) (L:List M) (w:World):Prop where
 box:Bx 79 ge #[.int .i64 1,.string ⟨#[]⟩,.int .i64 0,.slice A n cap,.int .i64 0] w
 own:Ow 79 5 mc w1.heap.size w (.slice A n cap) L
 len:L.length=n
 lies:∀x∈L,Lies w1.heap.size (ge::foot (.slice A n cap)) w x
 ev:Ev w1 w
 FC:w1.heap.size≤ge
 gf:ge∉foot (.slice A n cap)
theorem J4.next {w1 wr wq w2:World} {ge n cap:Nat} {A:Option Addr} {L:List M} {x:M} {v2:Value} (h:J4 w1 ge A n cap L wr) (hE:Ev wr wq) (hx:Lies wr.heap.size [] wq x) (hA:mW 79 5 mc w1.heap.size wq (.slice A n cap) (L++[x]) v2 w2):
  ∃A2 cap2,v2=.slice A2 (n+1) cap2∧J4 w1 ge A2 (n+1) cap2 (L++[x]) (w2.setCell ⟨ge,3,none⟩ v2):=by
 obtain⟨ho,hb,hs⟩:=hA;obtain⟨A2,cap2,rfl,oZ,wQ⟩:=ho.form gB;have hl:(L++[x]).length=n+1:=by rw[atv,h.len];rfl
 rw[hl]at ho hs oZ wQ⊢;have Ot:=h.box.lt;have hgq:ge<wq.heap.size:=atM Ot hE.size;have ahY:ge∉foot (.slice A2 (n+1) cap2):=fun hm=>by rcases hs ge (aB.1 hm) with h1|h1;exact h.gf (aB.2 h1);omega
 have hB2:=(h.box.ev hE).but hb h.gf;have Gw:But [ge] w2 (w2.setCell ⟨ge,3,none⟩ (.slice A2 (n+1) cap2)):=But.setCell _ _ (by simp);refine⟨A2,cap2,rfl,?_,?_,hl,fun y hy=>?_,?_,h.FC,ahY⟩;have:=hB2.set 3 (.slice A2 (n+1) cap2);simpa using this;exact ho.but Gw fun g hg=>by simp;intro e;exact ahY (aB.2 (e▸hg))
 have hy2:Lies w1.heap.size (ge::foot (.slice A n cap)) wq y:=by rcases atK.1 hy with h1|h1;exact (h.lies y h1).ev hE;simp at h1;subst h1;refine (hx.less fun k hk=>.inr (.inl ?_)).low h.ev.size;rcases atA.1 hk with rfl|h2;exact Ot;exact (h.own.lt (aB.1 h2)).2
 have hy3:Lies w1.heap.size (ge::foot (.slice A2 (n+1) cap2)) w2 y:=hy2.move (hb.wide fun k hk=>.inl (aty _ hk)) fun k hk=>by rcases atA.1 hk with rfl|h2;exact .inl (atz ..);rcases hs k (aB.1 h2) with h1|h1;exact .inl (aty _ (aB.2 h1));exact .inr (.inr h1)
 exact hy3.move (Gw.wide fun k hk=>by simp at hk;subst hk;exact .inl (by simp)) fun k hk=>.inl hk;have h1:Ev w1 w2:=((But.aS (h.ev.trans hE)).then hb).ev fun k hk=>(h.own.lt (aB.1 hk)).1;exact h1.box Gw h.FC
theorem J4.after {w1 wr wq w2:World} {ge n cap:Nat} {A:Option Addr} {L L':List M} {v2:Value} (h:J4 w1 ge A n cap L wr) (hE:Ev wr wq) (hA:mW 79 5 mc w1.heap.size wq (.slice A n cap) L' v2 w2):
  Bx 79 ge #[.int .i64 1,.string ⟨#[]⟩,.int .i64 0,.slice A n cap,.int .i64 0] w2:=(h.box.ev hE).but hA.2.1 h.gf
theorem J4.done {w1 w:World} {ge n cap:Nat} {A:Option Addr} {L:List M} (h:J4 w1 ge A n cap L w):Lies w1.heap.size [] w (.mk 1 [] 0 A cap L 0)∧n=L.length:=by
 obtain⟨A2,cap2,hv,oZ,wQ⟩:=h.own.form gB;injection hv with h1 h2 h3
 subst h1;subst h3;exact⟨.mk oZ (fun ad e=>⟨(wQ ad e).2.1,(wQ ad e).2.2.1,by simp⟩) (fun k hk=>(h.lies k hk).less (fun x hx=>(by cases hx))),h2⟩
theorem J4.init (w1:World) (ms:By):J4 w1 (w1.heap.size+1) (some ⟨w1.heap.size,0,none⟩) 1 1 [.mk 2 ms 0 none 0 [] 0] ((w1.alloc (.cells #[.int .i64 2,.string ⟨ms.toArray⟩,.int .i64 0,.slice none 0 0,.int .i64 0] 79)).alloc (.cells #[.int .i64 1,.string ⟨#[]⟩,.int .i64 0,.slice (some ⟨w1.heap.size,0,none⟩) 1 1,.int .i64 0] 79)):=by have hB:=Bx.new 79 #[.int .i64 1,.string ⟨#[]⟩,.int .i64 0,.slice (some ⟨w1.heap.size,0,none⟩) 1 1,.int .i64 0] (w1.alloc (.cells #[.int .i64 2,.string ⟨ms.toArray⟩,.int .i64 0,.slice none 0 0,.int .i64 0] 79));rw[show (w1.alloc (.cells #[.int .i64 2,.string ⟨ms.toArray⟩,.int .i64 0,.slice none 0 0,.int .i64 0] 79)).heap.size=w1.heap.size+1 by simp]at hB;refine⟨hB,(Ow.made (et:=79) (base:=w1.heap.size) gB w1 [.mk 2 ms 0 none 0 [] 0] #[.int .i64 2,.string ⟨ms.toArray⟩,.int .i64 0,.slice none 0 0,.int .i64 0] rfl (att _) (by simp)).ev (Ev.alloc _ _),rfl,fun x hx=>?_,(Ev.alloc _ _).trans (Ev.alloc _ _),by omega,?_⟩;simp at hx;subst hx;exact mQ _ _ _ _ _ _ _;intro hm;have:=aB.1 hm;simp[Value.ownBlock]at this
theorem aaw {m x:M} (hx:x∈m.kids) (hf:m.t.every bZ=true) (hs:m.t.size≤100000):x.t.every bZ=true∧x.t.size≤100000:=by
 have hm:x.t∈m.t.kids:=by rw[M.aY];exact at7 hx
 constructor;rw[T.fQ,atu]at hf;exact atL.1 hf.2 x.t hm;have h1:=T.size_eq m.t;have h2:=iy (at7 (f:=T.size) hm);omega
theorem acA (N:Nat):∀(m:M) (b0:Nat) (w:World),m.dep≤N→Lx b0 [] w m→dK m.t=true→m.t.every bZ=true→m.t.size≤100000→
  Calls Tryz.prog 85 #[zA m] w (fO (xTree m.t) w):=by
 induction N with
 | zero=>
  intro m b0 w hd;rw[M.mX]at hd;omega
 | succ N ih=>
  intro m b0 w hd hL hr hfr hsz;have Dt:=zq (fun w1 (hE:Ev w w1)=>Zn m.dep m b0 w1 (att _) (hL.ev hE) hfr hsz);rw[hr]at Dt;have HFK:=zq (fun x (hx:x∈m.kids)=>aaw hx hfr hsz);obtain⟨hf,Yi⟩:=IA hr;have dG:=VS m;have lS:=zq ih;have HL:=zq hL;have HKR:=zq Yi;have HD:=zq hd;have hes:=hL.es;obtain⟨ms,fA⟩:∃ms,ms=m.s:=⟨_,rfl⟩
  obtain⟨kn,hkn⟩:∃kn,kn=m.kids.length:=⟨_,rfl⟩
  unfold zA at*;unfold M.kv at*;rw[←hkn]at hf hes Dt⊢;rw[←fA]at dG Dt⊢;have lJ:=zq hkn;generalize m.A=mA at*;generalize m.cap=jP at*;have Qv:=zq hes;have rH:=hes.le;have WC:=hes.max;obtain⟨R,hR⟩:∃R,R=xTree m.t:=⟨_,rfl⟩
  rw[←hR]at dG⊢;clear ih hL hr Yi hd hkn hes hR fA hfr hsz;unfold fO;rcases yO hf with hk|hk|hk|⟨hk,qF,Ia⟩
  ·rw[hk]at dG Dt⊢;have HK:Hid (R=.mk 2 ms 0 [] 0):=zq (by rw[dG];rfl);obtain⟨w0,hw0,aT,hX,hB⟩:=O_ w (.int .i64 1) (.string ⟨ms.toArray⟩) (.int .i64 m.n) (.slice mA kn jP);obtain⟨⟨c0,c1,c2,c3⟩,_⟩:=hX.four;have HX:=zq hX;have HB:=zq hB;have HE:=zq aT;clear dG hk hf hX hB aT;go_enter Tryz.func85,Tryz.ntmps85
   go_wp2_with (first
    | ((with_reducible refine (Dt.out _ HE.out).mono ?_);rintro e w1 ⟨rfl,aH⟩;have E1:=zq (HE.out.trans aH);have sW:=zq (HB.out.ev aH);clear c0 c1 c2 c3;obtain⟨⟨c0,c1,c2,c3⟩,_⟩:=(HX.out.ev aH).four;obtain⟨⟨d0,d1,d2,d3,d4⟩,r0,r1,r2,r3,r4⟩:=sW.out.five;clear aH))
   (try simp only[Exit.inBlock,Exit.then]);rw[bW];refine bodyPost_ret (aP rfl _ _ _ _ _ rfl (sW.out.jO _ _ _ _ _) Tryz.underlying79 rfl Tryz.yl) rfl ?_;exact⟨.mk 2 ms 0 none 0 [] 0,rfl,HK.out.symm,mQ _ _ _ _ _ _ _,E1.out.box (bD _ _ _ _ _ _ _) (by omega)⟩
  ·rw[hk]at dG Dt⊢;have HK:Hid (R=.mk 3 [] m.n [] 0):=zq (by rw[dG];rfl);obtain⟨w0,hw0,aT,hX,hB⟩:=O_ w (.int .i64 2) (.string ⟨ms.toArray⟩) (.int .i64 m.n) (.slice mA kn jP);obtain⟨⟨c0,c1,c2,c3⟩,_⟩:=hX.four;have HX:=zq hX;have HB:=zq hB;have HE:=zq aT;clear dG hk hf hX hB aT;go_enter Tryz.func85,Tryz.ntmps85
   go_wp2_with (first
    | ((with_reducible refine (Dt.out _ HE.out).mono ?_);rintro e w1 ⟨rfl,aH⟩;have E1:=zq (HE.out.trans aH);have sW:=zq (HB.out.ev aH);clear c0 c1 c2 c3;obtain⟨⟨c0,c1,c2,c3⟩,_⟩:=(HX.out.ev aH).four;obtain⟨⟨d0,d1,d2,d3,d4⟩,r0,r1,r2,r3,r4⟩:=sW.out.five;clear aH))
   (try simp only[Exit.inBlock,Exit.then]);rw[bW];refine bodyPost_ret (aP rfl _ _ _ _ _ rfl (sW.out.jO _ _ _ _ _) Tryz.underlying79 rfl Tryz.yl) rfl ?_;exact⟨.mk 3 [] m.n none 0 [] 0,rfl,HK.out.symm,mQ _ _ _ _ _ _ _,E1.out.box (bD _ _ _ _ _ _ _) (by omega)⟩
  ·rw[hk]at dG Dt⊢;have HK:Hid (R=.mk 4 ms 0 [] 0):=zq (by rw[dG];rfl);obtain⟨w0,hw0,aT,hX,hB⟩:=O_ w (.int .i64 3) (.string ⟨ms.toArray⟩) (.int .i64 m.n) (.slice mA kn jP);obtain⟨⟨c0,c1,c2,c3⟩,_⟩:=hX.four;have HX:=zq hX;have HB:=zq hB;have HE:=zq aT;clear dG hk hf hX hB aT;go_enter Tryz.func85,Tryz.ntmps85
   go_wp2_with (first
    | ((with_reducible refine (Dt.out _ HE.out).mono ?_);rintro e w1 ⟨rfl,aH⟩;have E1:=zq (HE.out.trans aH);have sW:=zq (HB.out.ev aH);clear c0 c1 c2 c3;obtain⟨⟨c0,c1,c2,c3⟩,_⟩:=(HX.out.ev aH).four;obtain⟨⟨d0,d1,d2,d3,d4⟩,r0,r1,r2,r3,r4⟩:=sW.out.five;clear aH))
   (try simp only[Exit.inBlock,Exit.then]);rw[bW];refine bodyPost_ret (aP rfl _ _ _ _ _ rfl (sW.out.jO _ _ _ _ _) Tryz.underlying79 rfl Tryz.yl) rfl ?_;exact⟨.mk 4 ms 0 none 0 [] 0,rfl,HK.out.symm,mQ _ _ _ _ _ _ _,E1.out.box (bD _ _ _ _ _ _ _) (by omega)⟩
  rw[hk]at dG Dt⊢;have HK:Hid (R=.mk 1 [] 0 (.mk 2 ms 0 [] 0::m.kids.map fun x=>xTree x.t) 0):=zq (by rw[dG];rfl);have hkb:kn≤3:=by rw[qF];unfold bC;split<;>(try split)<;>(try split)<;>omega
  obtain⟨w0,hw0,aT,hX,hB⟩:=O_ w (.int .i64 4) (.string ⟨ms.toArray⟩) (.int .i64 m.n) (.slice mA kn jP);obtain⟨⟨c0,c1,c2,c3⟩,_⟩:=hX.four;have HX:=zq hX;have HB:=zq hB;have HE:=zq aT;clear dG hk hf hX hB aT qF Ia;go_enter Tryz.func85,Tryz.ntmps85
  go_wp2_with (first
   | ((with_reducible refine (Dt.out _ HE.out).mono ?_);rintro e w1 ⟨rfl,aH⟩;have E1:=zq (HE.out.trans aH);have Qy:=zq (HX.out.ev aH);have sW:=zq (HB.out.ev aH);clear c0 c1 c2 c3;obtain⟨⟨c0,c1,c2,c3⟩,_⟩:=Qy.out.four;clear aH))
  go_loopw [4] (fun iv wr=>∃(A1:Option Addr) (n1 cap1 j:Nat) (L:List M),iv=.int .i64 (j:Int)∧j≤kn∧Hid (n1=j+1)∧Hid (J4 w1 (w1.heap.size+1) A1 n1 cap1 L wr)∧Hid (L.map M.t=.mk 2 ms 0 [] 0::(m.kids.take j).map fun x=>xTree x.t)) (fun iv _=>kn - (intOf iv).toNat)
  case atStart=>exact⟨some ⟨w1.heap.size,0,none⟩,1,1,0,[.mk 2 ms 0 none 0 [] 0],rfl,atG _,zq rfl,zq (J4.init w1 ms),zq rfl⟩
  case round=>
   obtain⟨A1,n1,cap1,j,L,rfl,hj,HN,HS,HR⟩:=hrel;have nG:=zq (E1.out.trans HS.out.ev);have Et:=zq HS.out.ev;clear c0 c1 c2 c3;obtain⟨⟨c0,c1,c2,c3⟩,_⟩:=(Qy.out.ev Et.out).four;obtain⟨⟨d0,d1,d2,d3,d4⟩,r0,r1,r2,r3,r4⟩:=HS.out.box.five;by_cases hlt:j<kn
   ·obtain⟨x,hx⟩:=Qv.out.at hlt;obtain⟨b,off,rfl,hb,x0,x1,x2,x3⟩:=Es.cell (Qv.out.ev nG.out) hx;have iF:=atw hx;have pI:Hid ((m.kids.take (j+1)).map (fun x=>xTree x.t)=(m.kids.take j).map (fun x=>xTree x.t)++[xTree x.t]):=zq (by
     obtain⟨hk2,e⟩:=atr.1 hx;rw[atD hk2,e,atB];rfl)
    have HI:=fun w1 (hE:Ev w w1)=>lS.out x b0 w1 (by have:=M.lF iF;have:=HD.out;omega) ((HL.out.kid x iF).ev hE) (HKR.out x iF) (HFK.out x iF).1 (HFK.out x iF).2
    try unfold zA at HI
    try unfold M.kv at HI
    unfold fO at HI;unfold M.kv at x3;have HI:=zq HI;have iQ:Hid (L.length≤4):=zq (by rw[HS.out.len,HN.out];omega);have i1:(0:Int)≤(j:Int):=by omega
    have i2:(j:Int)<(kn:Int):=by omega
    clear hx iF;go_wp2
    go_region_law (first
     | (refine Ui rfl 85 #[.tmp 44] #[47] rfl (by kernel_rfl) _ (by simp only[auH,atx,atQ];rfl) (HI.out _ (nG.out.trans (Ev.drew wr))) ?_;rintro x' w3 ⟨jg,iq,iE⟩;dsimp only;have oW:=zq jg;have pz:=zq iq;have E3:=zq ((Ev.drew wr).trans iE);obtain⟨⟨d0',d1',d2',d3',d4'⟩,r0',r1',r2',r3',r4'⟩:=(HS.out.box.ev E3.out).five;obtain⟨⟨f0',f1',f2',f3'⟩,_⟩:=(Qy.out.ev (Et.out.trans E3.out)).four;obtain⟨⟨e0',e1',e2',e3',e4'⟩,s0',s1',s2',s3',s4'⟩:=(HS.out.box.ev (E3.out.trans (Ev.alloc w3 (.cells #[.int .i64 x'.kind,.string ⟨x'.s.toArray⟩,.int .i64 x'.n,.slice x'.A x'.kids.length x'.cap,.int .i64 (x'.pos:Int)] 79)))).five;clear jg iq)
     | (refine I9 rfl 77 (.tmp 39) (.tmp 46) rfl gB Tryz.underlying77 Tryz.pV rfl rfl (HS.out.own.ev (E3.out.trans (Ev.alloc w3 _))) (some ⟨w3.heap.size,0,none⟩) 1 1 [x'] rfl (Sl.one (et:=79) gB w3 x' _ rfl) (by have:=iQ.out;simp;omega) (by have:=iQ.out;simp;omega) (by have h8:=(HS.out.ev.trans (E3.out.trans (Ev.alloc w3 (.cells #[.int .i64 x'.kind,.string ⟨x'.s.toArray⟩,.int .i64 x'.n,.slice x'.A x'.kids.length x'.cap,.int .i64 (x'.pos:Int)] 79)))).size;exact h8) ?_;intro v2 w2 gz;obtain⟨⟨d0,d1,d2,d3,d4⟩,r0,r1,r2,r3,r4⟩:=(HS.out.after (E3.out.trans (Ev.alloc w3 _)) gz).five;obtain⟨A2,cap2,rfl,ST2⟩:=HS.out.next (E3.out.trans (Ev.alloc w3 _)) (pz.out.ev (Ev.alloc w3 _)) gz))
    all_goals (
     go_wp2;go_roundw
     case rel=>exact⟨A2,n1+1,cap2,j+1,L++[x'],by go_num,by omega,zq (by rw[HN.out]),zq ST2,zq (by rw[pI.out,atB,HR.out,atx,atQ,oW.out];rfl)⟩
     case measure=>simp[intOf];omega)
   have hjk:j=kn:=by omega
   have i2:¬((j:Int)<(kn:Int)):=by omega
   obtain⟨hlx,hnl⟩:=HS.out.done;have DY:=zq (sW.out.ev Et.out);obtain⟨⟨xO,xP,xQ,KL,b4_⟩,KN,KO,KP,KQ,g4_⟩:=DY.out.five;have aj9:w.heap.size+1<w1.heap.size:=sW.out.lt;have Y7:=zq (hlx.less (K':=[w.heap.size+1]) fun k hk=>by simp at hk;subst hk;exact .inr (.inl (by omega)));have iQ:=zq hnl;have HT:Hid (M.t (.mk 1 [] 0 A1 cap1 L 0)=R):=zq (by
    have h5:=HR.out;rw[hjk,lJ.out,auf]at h5;simp only[M.t,M.ji];rw[h5,HK.out])
   clear hjk hlx hnl;go_wp2;(try simp only[Exit.inBlock,Exit.then]);rw[bW];refine bodyPost_ret (aP rfl _ _ _ _ _ rfl (DY.out.jO _ _ _ _ _) Tryz.underlying79 rfl Tryz.yl) rfl ?_;refine⟨.mk 1 [] 0 A1 cap1 L 0,by simp only[M.kids,M.kind,M.s,M.n,M.A,M.cap,M.pos];rw[←iQ.out];rfl,HT.out,?_,nG.out.box (bD _ _ _ _ _ _ _) (by omega)⟩;exact (Y7.out.move (bD _ _ _ _ _ _ _) fun k hk=>by cases hk).low (by omega)
end Go.Proofs.YtpbfokkocaemlaaGreatDoor
