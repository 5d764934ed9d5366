import Derived.Test.YtpbfokkocaemlaaGreatDoorZ17J
set_option linter.unusedVariables false
set_option maxRecDepth 100000
set_option maxHeartbeats 64000000
namespace Go.Proofs.YtpbfokkocaemlaaGreatDoor
open Go.RowKit
open Go.Lib renaming hid → zq
open Go renaming World → ak
open Go renaming Value → au
open Go.Proofs.Tryz renaming prog → ax
variable {U:Prop}
open Go.Proofs.Tryz
theorem Tryz.eQ:(Tryz.prog.info? 47).map (·.size)=some 4:=ah
def BK(R:DU)(w:ak)(e:Ending)(w':ak):Prop:=
 ∃x:M,e=.returned (.tuple #[.agg ↑(x,()),.int .i64 R.2.1,.int .i64 (R.2.2:Int)])/\x.t=R.1/\Lx w.heap.size [] w' x/\Ev w w'
structure FV(w1:ak)(ge:Nat)(S:By)(A:Option Addr)(n cap:Nat)(L:List M)(w:ak):Prop where
 box:Bx 47 ge #[.int .i64 4,↑S,.int .i64 0,.slice A n cap] w
 own:Ow 47 4 ec (ge+1) w (.slice A n cap) L
 len:L.length=n
 lies:∀x∈L,Lx (ge+1) (foot (.slice A n cap)) w x
 ev:Ev w1 w
 GZ:w1.heap.size<=ge
theorem FV.init(w1:ak)(S:By):FV w1 w1.heap.size S none 0 0 [] (w1.alloc (.cells #[.int .i64 4,↑S,.int .i64 0,↑()] 47)):=
 ⟨Bx.new _ _ w1,Ow.nil_ _,rfl,(λx hx=>by cases hx),Ev.alloc _ _,awj _⟩
theorem aAX(h:U:=by rcases hs k (aG.1 hk) with h1|h1;exact .inl (aG.2 h1);exact .inr (.inr h1)):U:=h
theorem aA5(h:U:=by rcases awq.1 hk with rfl|h1;exact .inr (.inl ae);exact .inl h1):U:=h
theorem FV.next{w1 wr wq w2:ak}{ge n cap:Nat}{S:By}{A:Option Addr}{L:List M}{x:M}{v2:au}(h:FV w1 ge S A n cap L wr)(hE:Ev wr wq)(hx:Lx wr.heap.size [] wq x)(hA:nR 47 4 ec (ge+1) wq (.slice A n cap) (L++[x]) v2 w2):
  ∃A2 cap2,v2=.slice A2 (n+1) cap2/\FV w1 ge S A2 (n+1) cap2 (L++[x]) (w2.setCell ⟨ge,3,none⟩ v2):=by
 obtain⟨ho,hb,hs⟩:=hA;obtain⟨A2,cap2,rfl,qm,xY⟩:=ho.form xU;have hl:(L++[x]).length=n+1:=by rw[awl,h.len];rfl
 rw[hl]at ho hs qm xY|-;have P5:=h.box.lt;have hK:ge∉foot (.slice A n cap):=λhm=>by have:=(h.own.lt (aG.1 hm)).1;omega
 have hK2:∀g,(Value.slice A2 (n+1) cap2).ownBlock=some g->ge+1<=g:=λg hg=>(ho.lt hg).1;have hB2:Bx 47 ge #[.int .i64 4,↑S,.int .i64 0,.slice A n cap] w2:=(h.box.ev hE).but hb hK;have Iq:But [ge] w2 (w2.setCell ⟨ge,3,none⟩ (.slice A2 (n+1) cap2)):=But.setCell _ _ aj;refine⟨A2,cap2,rfl,?_,?_,hl,λy hy=>?_,?_,h.GZ⟩;have:=hB2.set 3 (.slice A2 (n+1) cap2);simpa using this;exact ho.but Iq λg hg=>by have:=hK2 g hg;simp;omega
 have hy2:Lx (ge+1) (foot (.slice A n cap)) wq y:=by rcases awD.1 hy with h1|h1;exact(h.lies y h1).ev hE;simp at h1;subst h1;refine(hx.less λk hk=>.inr (.inl ?_)).low ae;exact(h.own.lt (aG.1 hk)).2
 have hy3:Lx (ge+1) (foot (.slice A2 (n+1) cap2)) w2 y:=hy2.move hb λk hk=>by exact aAX
 have hy4:Lx (ge+1) (ge::foot (.slice A2 (n+1) cap2)) w2 y:=hy3.less λk hk=>by exact aA5
 exact hy4.move (Iq.wide λk hk=>by simp at hk;subst hk;exact .inl aj) λk hk=>.inl (awn _ hk);have h1:Ev w1 w2:=((But.aV (h.ev.trans hE)).then hb).ev λk hk=>by have:=(h.own.lt (aG.1 hk)).1;have:=h.GZ;omega
 exact h1.box Iq h.GZ
theorem FV.after{w1 wr wq w2:ak}{ge n cap:Nat}{S:By}{A:Option Addr}{L:List M}{L':List M}{v2:au}(h:FV w1 ge S A n cap L wr)(hE:Ev wr wq)(hA:nR 47 4 ec (ge+1) wq (.slice A n cap) L' v2 w2):
  Bx 47 ge #[.int .i64 4,↑S,.int .i64 0,.slice A n cap] w2:=
 (h.box.ev hE).but hA.2.1 λhm=>by have:=(h.own.lt (aG.1 hm)).1;omega
theorem FV.done{w1 w:ak}{ge n cap:Nat}{S:By}{A:Option Addr}{L:List M}(h:FV w1 ge S A n cap L w){b0:Nat}(hb:b0<=ge):Lx b0 [] w (.mk 4 S 0 A cap L 0)/\n=L.length:=by
 obtain⟨A2,cap2,hv,qm,xY⟩:=h.own.form xU;injection hv with h1 h2 h3
 subst h1 h3;refine⟨.mk qm (λad e=>⟨by have:=(xY ad e).2.1;omega,(xY ad e).2.2.1,aj⟩) λk hk=>((h.lies k hk).less λx hx=>by cases hx).low ae,h2⟩
theorem iL:∀{l:List Nat} {x:Nat},x∈l->x<=l.sum
 | [],x,h=>by cases h
 | y::l,x,h=>by rcases awq.1 h with rfl|h;simp;have:=iL h;simp;omega
theorem xRead_eq(m:M):xRead m.t=if m.kind==2 then (if iC m.s then (.mk 1 m.s 0 [] 0,0,0) else ku 20 m.pos)
  else if m.kind==3 then (.mk 2 [] m.n [] 0,0,0)
  else if m.kind==4 then (.mk 3 m.s 0 [] 0,0,0)
  else if m.kind==1 then
   (match m.kids with
    | []=>ku 12 m.pos
    | h::q=>if h.kind==2&&!(bI h.s==0) then
      (if q.length==bI h.s then xReads h.s [] (q.map λx=>xRead x.t) else ku 23 m.pos) else ku 12 m.pos)
  else ku 12 m.pos:=by
 cases hk:m.kids with
 | nil=>
  rw[M.rV,hk];rfl
 | cons h q=>
  rw[M.rV,hk];simp only[awo,xRead,M.xB,M.uJ,awh,uk,awy];rfl
theorem aAv(h:U:=by rw[T.gz,awk]at hfair;have:=hfair.1;unfold cO at this;simp only[awk,decide_eq_true_iff,M.uJ]at this;exact this.2):U:=h
theorem ay7(h:U:=by(try simp only[Exit.inBlock,Exit.then]);rw[dK];refine bodyPost_ret (aI rfl _ _ _ _ _ rfl (B1.kG _ _ _ _) underlying47 rfl Tryz.eQ) rfl ?_;exact⟨(.mk 1 m.s 0 none 0 [] 0),by rw[HK.out];rfl,by rw[HK.out];simp[M.t,M.ts],Lx.leaf,E1.box (eP _ _ _ _ _ _) ae⟩):U:=h
theorem ayY(h:U:=by go_wp2;(try simp only[Exit.inBlock,Exit.then]);rw[dK];refine bodyPost_ret (aI rfl _ _ _ _ _ rfl (HB.out.kG _ _ _ _) underlying47 rfl Tryz.eQ) rfl ?_;exact⟨(.mk 2 [] m.n none 0 [] 0),by rw[HK.out];rfl,by rw[HK.out];simp[M.t,M.ts],Lx.leaf,HE.out.box (eP _ _ _ _ _ _) ae⟩):U:=h
theorem ayZ(h:U:=by go_wp2;(try simp only[Exit.inBlock,Exit.then]);rw[dK];refine bodyPost_ret (aI rfl _ _ _ _ _ rfl (HB.out.kG _ _ _ _) underlying47 rfl Tryz.eQ) rfl ?_;exact⟨(.mk 3 m.s 0 none 0 [] 0),by rw[HK.out];rfl,by rw[HK.out];simp[M.t,M.ts],Lx.leaf,HE.out.box (eP _ _ _ _ _ _) ae⟩):U:=h
theorem ayQ(h:U:=by
 go_region
 all_goals (
  go_wp2;(try simp only[Exit.inBlock,Exit.then]);rw[dK];refine bodyPost_ret (aI rfl _ _ _ _ _ rfl ((HB.out.ev (Ev.drew w0)).kG _ _ _ _) underlying47 rfl Tryz.eQ) rfl ?_;exact⟨iU,by rw[HK.out];rfl,by rw[HK.out];rfl,Lx.leaf,(HE.out.trans (Ev.drew w0)).box (eP _ _ _ _ _ _) ae⟩
  )):U:=h
theorem ayC(h:U:=by have HK:Hid (R=ku 12 m.pos):=zq dL;clear dL;go_enter func81,ntmps81;go_wp2;exact ayQ):U:=h
theorem aAM(h:U:=by have h5:=JR.out;rw[T.gz,awk]at h5;exact awF.1 h5.2 x.t (by rw[M.aZ];exact awN.2 ⟨x,Q8,rfl⟩)):U:=h
theorem az5(h:U:=by have h5:=T.size_eq m.t;rw[M.aZ,awy]at h5;have h6:=iL (awN.2 ⟨x,Q8,rfl⟩:x.t.size∈m.kids.map (T.size ∘ M.t));have:=zx.out;omega):U:=h
theorem azo(h:U:=by(try simp only[Exit.inBlock,Exit.then]);rw[dK];refine bodyPost_ret (aI rfl _ _ _ _ _ rfl (B1.kG _ _ _ _) underlying47 rfl Tryz.eQ) rfl ?_;exact⟨iU,by rw[uX.out];rfl,by rw[uX.out];rfl,Lx.leaf,E1.box (eP _ _ _ _ _ _) ae⟩):U:=h
theorem Xr(N:Nat):∀(m:M) (b0:Nat) (w:ak),m.dep<=N->Lies b0 [] w m->m.t.every cO=true->m.t.size<=100000->Calls ax 81 #[mv m] w (BK (xRead m.t) w):=by
 induction N with
 | zero=>
  intro m b0 w hd;rw[M.nT]at hd;omega
 | succ N ih=>
  intro m b0 w hd hL hfair hsz;have pq:m.kids.length<=100000:=by have h1:=T.size_eq m.t;have h2:=jS m.t.kids;rw[M.aZ,awh]at h2;rw[M.aZ]at h1;omega
  have zx:=zq hsz;have dL:=xRead_eq m;have fJ:=hL.ms;have mP:=zq ih;have HL:=zq hL;have HD:=zq hd;have JR:=zq hfair;have Ij:m.s.length<=100000:=by exact aAv
  obtain⟨R,hR⟩:∃R,R=xRead m.t:=⟨_,rfl⟩
  rw[<-hR]at dL|-;obtain⟨kn,hkn⟩:∃kn,kn=m.kids.length:=⟨_,rfl⟩
  unfold mv M.kv;rw[<-hkn]at fJ pq|-;have mF:=zq hkn;generalize ZN:m.A=mA at*;generalize hmc:m.cap=kJ at*;have DT:=zq fJ;have aW:=(Ev.alloc w (.cells #[↑m.kind,↑m.s,↑m.n,.slice mA kn kJ,↑m.pos] 79)).trans (Ev.alloc _ (.cells ↑Zz.e 47));have hX:=(Bx.new 79 #[↑m.kind,↑m.s,↑m.n,.slice mA kn kJ,↑m.pos] w).ev (Ev.alloc _ (.cells ↑Zz.e 47));have hB:Bx 47 (w.heap.size+1) ↑Zz.e ((w.alloc (.cells #[↑m.kind,↑m.s,↑m.n,.slice mA kn kJ,↑m.pos] 79)).alloc (.cells ↑Zz.e 47)):=by have:=Bx.new 47 ↑Zz.e (w.alloc (.cells #[↑m.kind,↑m.s,↑m.n,.slice mA kn kJ,↑m.pos] 79));simpa using this
  obtain⟨w0,hw0⟩:∃w0,(w.alloc (.cells #[↑m.kind,↑m.s,↑m.n,.slice mA kn kJ,↑m.pos] 79)).alloc (.cells ↑Zz.e 47)=w0:=⟨_,rfl⟩
  rw[hw0]at aW hX hB;have HE:=zq aW;have HX:=zq hX;have HB:=zq hB;obtain⟨⟨c0,c1,c2,c3,c4⟩,_⟩:=hX.five;obtain⟨⟨yJ,yK,yL,MO⟩,zi,zk,xJ,MP⟩:=hB.four;clear ih hL hd hfair hkn aW hX hB hR ZN hmc fJ;by_cases k2:m.kind=2
  ·rw[k2]at dL hw0 c0|-;simp only[awZ,if_true]at dL;have HN:=λw1=>FU (dh m.s) w1 (by unfold maxLen;show m.s.toArray.size<=_;simp;omega);unfold dh at HN;rw[show iC m.s=fK ⟨m.s.toArray⟩ from rfl]at dL
   cases hn:fK ⟨m.s.toArray⟩ with
   | false=>
    rw[hn]at dL HN;simp only[awv,if_false]at dL;have HK:=zq dL;have HN:=zq HN;clear dL;go_enter func81,ntmps81
    go_wp2_with (first|((with_reducible refine(HN.out _).mono ?_);rintro e w1 ⟨rfl,aK⟩;have E1:=HE.out.trans (aK.trans (Ev.drew w1));have B1:=HB.out.ev (aK.trans (Ev.drew w1));obtain⟨⟨c0,c1,c2,c3,c4⟩,_⟩:=(HX.out.ev aK).five;obtain⟨⟨yJ,yK,yL,MO⟩,zi,zk,xJ,MP⟩:=(HB.out.ev aK).four))
    go_region
    all_goals (
     go_wp2;(try simp only[Exit.inBlock,Exit.then]);rw[dK];refine bodyPost_ret (aI rfl _ _ _ _ _ rfl (B1.kG _ _ _ _) underlying47 rfl Tryz.eQ) rfl ?_;exact⟨iU,by rw[HK.out];rfl,by rw[HK.out];rfl,Lx.leaf,E1.box (eP _ _ _ _ _ _) ae⟩
     )
   | true=>
    rw[hn]at dL HN;simp only[if_true]at dL;have HK:=zq dL;have HN:=zq HN;clear dL;go_enter func81,ntmps81
    go_wp2_with (first|((with_reducible refine(HN.out _).mono ?_);rintro e w1 ⟨rfl,aK⟩;have E1:=HE.out.trans aK;have B1:=HB.out.ev aK;obtain⟨⟨c0,c1,c2,c3,c4⟩,_⟩:=(HX.out.ev aK).five;obtain⟨⟨yJ,yK,yL,MO⟩,zi,zk,xJ,MP⟩:=(HB.out.ev aK).four))
    exact ay7
  have k2':(m.kind==2)=false:=awg.2 k2;rw[k2']at dL;by_cases k3:m.kind=3
  ·rw[k3]at dL hw0 c0|-;have HK:Hid (R=(.mk 2 [] m.n [] 0,0,0)):=zq dL;clear dL;go_enter func81,ntmps81;exact ayY
  have ZL:(m.kind==3)=false:=awg.2 k3;rw[ZL]at dL;by_cases k4:m.kind=4
  ·rw[k4]at dL hw0 c0|-;have HK:Hid (R=(.mk 3 m.s 0 [] 0,0,0)):=zq dL;clear dL;go_enter func81,ntmps81;exact ayZ
  have k4':(m.kind==4)=false:=awg.2 k4;rw[k4']at dL;by_cases k1:m.kind=1
  ·rw[k1]at dL hw0 c0|-;have Su:=HX.out;rw[k1]at Su;have Su:=zq Su;have arN:kn<=100000:=pq
   cases hk:m.kids with
   | nil=>
    obtain rfl:kn=0:=by rw[mF.out,hk];rfl
    rw[hk]at dL;exact ayC
   | cons hm1 q=>
    have aaF:kn=q.length+1:=by rw[mF.out,hk];rfl
    rw[hk]at dL;obtain⟨b,off,rfl,hb,h0,h1,_,_,_⟩:=DT.out.cell (i:=0) (x:=hm1) (by rw[hk];rfl);simp only[awW,awM]at h0 h1;have HH:Hid (∀w1,Ev w w1->w1.cell? ⟨b,off,none⟩=some ↑hm1.kind/\w1.cell? ⟨b,off+1,none⟩=some ↑hm1.s):=zq λw1 hE=>⟨(hE.cell (p:=⟨_,_,none⟩) hb).trans h0,(hE.cell (p:=⟨_,_,none⟩) hb).trans h1⟩
    clear h0 h1;obtain⟨h0,h1⟩:=HH.out _ HE.out;have i0:¬((kn:Int)=0):=ae;have i0':((kn:Int)==0)=false:=awg.2 i0;have i1:(0:Int)<(kn:Int):=ae;have HKQ:=zq aaF;have aaG:=zq hk;clear aaF hk;by_cases hh:hm1.kind=2
    ·have hhb:(hm1.kind==2)=true:=awx.2 hh;have hhn:(hm1.kind !=2)=false:=by simp[hh]
     have HT:=λw1=>Sj hm1.s w1;unfold dh at HT;obtain⟨t,ht⟩:∃t,t=bI hm1.s:=⟨_,rfl⟩
     simp only[hhb,axi,awZ,if_true,awv,if_false]at dL;rw[<-ht]at HT dL;have HT:=zq HT;clear hh ht
     cases t with
     | zero=>
      have HK:Hid (R=ku 12 m.pos):=zq dL;clear dL;go_enter func81,ntmps81
      go_wp2_with (first|((with_reducible refine(HT.out _).mono ?_);rintro e w1 ⟨rfl,rfl⟩))
      exact ayQ
     | succ t=>
      rw[if_pos (by rfl)]at dL;have ZO:=HT.out;rw[show ((t+1:Nat):Int)=(t:Int)+1 by omega]at ZO;clear HT;have HT:=zq ZO;clear ZO;have e1n:¬((t:Int)+1=0):=ae;have e1b:(((t:Int)+1)==0)=false:=awg.2 e1n;by_cases hq:q.length=t+1
      ·rw[if_pos (by simp[hq])]at dL;have HK:=zq dL;have Xt:(kn:Int) - 1=(t:Int)+1:=by have:=HKQ.out;omega
       have ait:kn=t+2:=by have:=HKQ.out;omega
       have HKT:=zq ait;have af0:(((kn:Int) - 1)==((t:Int)+1))=true:=awx.2 Xt;have af1:(((kn:Int) - 1) !=((t:Int)+1))=false:=by simp;exact Xt
       clear dL ait Xt hq;go_enter func81,ntmps81
       go_wp2_with (first|((with_reducible refine(HT.out _).mono ?_);rintro e w1 ⟨rfl,rfl⟩))
       go_quiet (first|(go_at_call 124;exact Calls.quiet_of_same ((HT.out _).mono λ_ _ hm1=>⟨hm1.1,hm1.2.symm⟩)))
       generalize zn:World.drewN w0 _=wA;have hEA:Ev w0 wA:=zn▸Ev.drewN w0 _;have P6:=zq (HE.out.trans hEA);have adq:=zq hEA;have HI0:=zq (FV.init wA hm1.s);clear zn hEA c0 c1 c2 c3 c4 h0 h1;obtain⟨⟨c0,c1,c2,c3,c4⟩,_⟩:=(Su.out.ev adq.out).five;obtain⟨h0,h1⟩:=HH.out _ P6.out;go_wp2
       go_loopw [6] (λiv wr=>∃(A:Option Addr) (n cap j:Nat) (L:List M),iv=.int .i64 ((j+1:Nat):Int)/\j+1<=kn/\Hid (n=j)/\Hid (FV wA wA.heap.size hm1.s A n cap L wr)/\Hid (R=xReads hm1.s (L.map M.t) ((q.drop j).map λx=>xRead x.t))) (λiv _=>kn - (intOf iv).toNat)
       case atStart=>exact⟨none,0,0,0,[],rfl,by have:=HKT.out;omega,zq rfl,HI0,HK⟩
       case round=>
        obtain⟨A,n,cap,j,L,rfl,hj,HN,HS,HR⟩:=hrel;have ou:=zq (P6.out.trans HS.out.ev);have FW:=zq (adq.out.trans HS.out.ev);obtain⟨⟨c0,c1,c2,c3,c4⟩,_⟩:=(Su.out.ev FW.out).five;obtain⟨⟨yJ,yK,yL,MO⟩,zi,zk,xJ,MP⟩:=(HB.out.ev FW.out).four;obtain⟨⟨d0,d1,d2,d3⟩,r0,r1,r2,r3⟩:=HS.out.box.four;by_cases hlt:j+1<kn
        ·obtain⟨x,hx⟩:∃x,q[j]?=some x:=⟨_,awE (by have:=HKQ.out;omega)⟩
         have iP:m.kids[j+1]?=some x:=by rw[aaG.out];simpa using hx
         obtain⟨b',off',he,_,x0,x1,x2,x3,x4⟩:=Ms.cell (DT.out.ev ou.out) iP;injection he with he
         injection he with he1 JS _
         subst he1 JS;have hdj:q.drop j=x::q.drop (j+1):=by obtain⟨hj',e⟩:=awi.1 hx;rw[axc hj',e]
         have mY:=HR.out;rw[hdj,awo]at mY;unfold xReads at mY;have Q8:=awm iP;have hxf:x.t.every cO=true:=by exact aAM
         have UD:x.t.size<=100000:=by exact az5
         have HI:=λw1 (hE:Ev w w1)=>mP.out x b0 w1 (by have:=M.mg Q8;have:=HD.out;omega) ((HL.out.kid x Q8).ev hE) hxf UD;unfold mv M.kv BK at HI;unfold M.kv at x3;generalize xRead x.t=rx at*;obtain⟨rt,ry,rp⟩:=rx;simp only at mY HI;have HI:=zq HI;have wF:=HN.out;subst wF;have hnb:n<=200000:=ae;have t_:=zq HS.out.len;have i2:((n:Int)+1)<(kn:Int):=ae;have i3:(0:Int)<=(n:Int)+1:=ae;clear hx iP hdj Q8 hxf UD HN;by_cases hw:ry=0
         ·subst hw;rw[if_pos (by rfl)]at mY;have uX:=zq mY;clear mY
          go_wp2_with (first
           | ((with_reducible refine(HI.out _ ou.out).mono ?_);rintro e w1 ⟨x',rfl,jI,iJ,aK⟩;have qj:=zq jI;have qC:=zq iJ;have E1:=zq aK;obtain⟨⟨d0,d1,d2,d3⟩,r0,r1,r2,r3⟩:=(HS.out.box.ev (aK.trans (Ev.alloc w1 (.cells ↑(x',()) 47)))).four;clear jI iJ)
           | ((show wpList _ _ _ (⟨some 109,_,_,_,_,_⟩::_) _ _);refine aO (o:=⟨some 109,_,_,_,_,_⟩) rfl 28 (.tmp 106) (.tmp 108) rfl xU underlying28 Tryz.zF rfl rfl (HS.out.own.ev (E1.out.trans ((Ev.alloc w1 _).trans az))) (some ⟨w1.heap.size+1,0,none⟩) 1 1 [x'] rfl (by have:=Sl.one (et:=47) xU (w1.alloc (.cells ↑(x',()) 47)) x' ↑(x',()) rfl;simpa using this) (by rw[t_.out];simp;omega) (by rw[t_.out];simp;omega) (by have h7:=HS.out.box.lt;have h8:=(E1.out.trans ((Ev.alloc w1 (.cells ↑(x',()) 47)).trans (Ev.alloc _ (.cells ↑(x',()) 47)))).size;omega) ?_;intro v2 w2 gV;obtain⟨⟨d0,d1,d2,d3⟩,r0,r1,r2,r3⟩:=(HS.out.after (E1.out.trans ((Ev.alloc w1 _).trans az)) gV).four;obtain⟨A2,cap2,rfl,ST2⟩:=HS.out.next (E1.out.trans ((Ev.alloc w1 _).trans az)) (qC.out.ev ((Ev.alloc w1 _).trans az)) gV))
          go_roundw
          case rel=>exact⟨A2,n+1,cap2,n+1,L++[x'],by go_num,ae,zq rfl,zq ST2,zq (by rw[uX.out,awt,awo,awG,qj.out])⟩
          case measure=>simp[intOf];omega
         have MN:(ry==0)=false:=awg.2 hw;have hwn:(ry !=0)=true:=by simp[hw]
         rw[MN]at mY;simp only[awv,if_false]at mY;have uX:=zq mY;clear mY
         go_wp2_with (first
          | ((with_reducible refine(HI.out _ ou.out).mono ?_);rintro e w1 ⟨x',rfl,jI,iJ,aK⟩;have E1:=ou.out.trans (aK.trans (Ev.alloc w1 (.cells ↑(x',()) 47)));have B1:=HB.out.ev (FW.out.trans (aK.trans (Ev.alloc w1 (.cells ↑(x',()) 47))));obtain⟨⟨yJ,yK,yL,MO⟩,zi,zk,xJ,MP⟩:=B1.four))
         exact azo
        have hjk:j+1=kn:=ae;have i2:¬((j:Int)+1<(kn:Int)):=ae;have mY:=HR.out;rw[aw2 (by have:=HKQ.out;omega)]at mY;simp only[awG,xReads]at mY;have uX:=zq mY;obtain⟨hlx,hnl⟩:=HS.out.done (b0:=w.heap.size) (awJ P6.out.size (awj _));have hlg:=(HS.out.done (b0:=wA.heap.size) (awj _)).1;have aaI:=zq (hlg.less (K':=[w.heap.size+1]) λk hk=>by simp at hk;subst hk;exact .inr (.inl (by have h5:=adq.out.size;have h6:=HB.out.lt;omega)));clear hlg;have jg:=zq hnl;have amy:w.heap.size+1<wA.heap.size:=by have h5:=adq.out.size;have h6:=HB.out.lt;omega
        clear mY hjk hlx hnl;go_wp2;(try simp only[Exit.inBlock,Exit.then]);rw[dK];refine bodyPost_ret (aI rfl _ _ _ _ _ rfl ((HB.out.ev FW.out).kG _ _ _ _) underlying47 rfl Tryz.eQ) rfl ?_;refine⟨.mk 4 hm1.s 0 A cap L 0,by rw[uX.out];simp only[M.kids];rw[<-jg.out];rfl,by rw[uX.out];simp[M.t,M.jJ],?_,ou.out.box (eP _ _ _ _ _ _) ae⟩;exact(aaI.out.move (eP _ _ _ _ _ _) λk hk=>by cases hk).low ae
      rw[if_neg (by simp;exact hq)]at dL;have HK:Hid (R=ku 23 m.pos):=zq dL;have Xt:¬((kn:Int) - 1=(t:Int)+1):=by have:=HKQ.out;omega
      have af0:(((kn:Int) - 1)==((t:Int)+1))=false:=awg.2 Xt;have af1:(((kn:Int) - 1) !=((t:Int)+1))=true:=by simp;exact Xt
      clear dL;go_enter func81,ntmps81
      go_wp2_with (first|((with_reducible refine(HT.out _).mono ?_);rintro e w1 ⟨rfl,rfl⟩))
      go_quiet (first|(go_at_call 124;exact Calls.quiet_of_same ((HT.out _).mono λ_ _ hm1=>⟨hm1.1,hm1.2.symm⟩)))
      go_wp2
      go_region
      all_goals (
       go_wp2;(try simp only[Exit.inBlock,Exit.then]);rw[dK];refine bodyPost_ret (aI rfl _ _ _ _ _ rfl ((HB.out.ev ((Ev.drewN w0 _).trans (Ev.drew _))).kG _ _ _ _) underlying47 rfl Tryz.eQ) rfl ?_;exact⟨iU,by rw[HK.out];rfl,by rw[HK.out];rfl,Lx.leaf,(HE.out.trans ((Ev.drewN w0 _).trans (Ev.drew _))).box (eP _ _ _ _ _ _) ae⟩
       )
    have hhb:(hm1.kind==2)=false:=awg.2 hh;have hhn:(hm1.kind !=2)=true:=by simp[hh]
    simp only[hhb,aw6,awv,if_false,awZ,if_true]at dL;exact ayC
  have k1':(m.kind==1)=false:=awg.2 k1;have k1n:(m.kind !=1)=true:=by simp[k1]
  rw[k1']at dL;exact ayC
theorem aaW(m:M):dQ m.t=(!ig m.kind m.s m.n m.kids.length&&m.kids.all λx=>dQ x.t):=by
 have h:dQ m.t=(!lQ m.t&&rP (m.kids.map M.t)):=by rw[M.rV,dQ]
 rw[h,CQ,wM,axs];rfl
def Xx(N:Nat):Prop:=∀(m:M) (b0:Nat) (w:ak),m.dep<=N->Lx b0 [] w m->m.t.every cO=true->m.t.size<=100000->
 Calls ax 90 #[.agg ↑(m,())] w λe w'=>e=.returned (.bool (dQ m.t))/\Ev w w'
theorem azn(h:U:=by
 go_enter func90,ntmps90
 go_wp2_with (first|((with_reducible refine(HN.out _).mono ?_);rintro e w1 ⟨rfl,aK⟩;obtain⟨⟨c0,c1,c2,c3⟩,_⟩:=(HX.out.ev aK).four))
 go_ret;exact⟨by rw[HK.out];rfl,HE.out.trans aK⟩):U:=h
theorem aAW(h:U:=by go_enter func90,ntmps90;go_wp2;go_ret;exact⟨by rw[HK.out];rfl,HE.out⟩):U:=h
theorem az3(h:U:=by have HK:Hid (R=false):=zq (by rw[dL];rfl);clear dL;exact aAW):U:=h
theorem azm(h:U:=by
 go_enter func90,ntmps90
 go_wp2_with fail
 go_quiet (first|(go_at_call 124;exact Calls.quiet_of_same ((HT.out _).mono λ_ _ h=>⟨h.1,h.2.symm⟩)))
 go_wp2;go_ret;exact⟨by rw[HK.out];rfl,HE.out.trans (Ev.drewN _ _)⟩):U:=h
theorem ayW(h:U:=by have HK:Hid (R=false):=zq (by rw[dL];rfl);clear dL h0;exact azm):U:=h
theorem aaX(N:Nat):Xx N:=by
 induction N with
 | zero=>
  intro m b0 w hd;rw[M.nT]at hd;omega
 | succ N ih=>
  intro m b0 w hd hL hfair hsz;have dL:=aaW m;have Ij:m.s.length<=100000:=by exact aAv
  unfold Xx at ih;have mP:=zq ih;have HL:=zq hL;have HD:=zq hd;have JR:=zq hfair;have zx:=zq hsz;have hes:=hL.es;obtain⟨R,hR⟩:∃R,R=dQ m.t:=⟨_,rfl⟩
  rw[<-hR]at dL|-;obtain⟨kn,hkn⟩:∃kn,kn=m.kids.length:=⟨_,rfl⟩
  rw[<-hkn]at hes dL|-;have mF:=zq hkn;generalize ZN:m.A=mA at*;generalize hmc:m.cap=kJ at*;have hcm:=hes.max;have hcl:=hes.le;have Sm:=zq hes;have aW:=Ev.alloc w (.cells #[↑m.kind,↑m.s,↑m.n,.slice mA kn kJ] 47);have hX:=Bx.new 47 #[↑m.kind,↑m.s,↑m.n,.slice mA kn kJ] w;obtain⟨w0,hw0⟩:∃w0,w.alloc (.cells #[↑m.kind,↑m.s,↑m.n,.slice mA kn kJ] 47)=w0:=⟨_,rfl⟩
  rw[hw0]at aW hX;have HE:=zq aW;have HX:=zq hX;obtain⟨⟨c0,c1,c2,c3⟩,_⟩:=hX.four;clear ih hL hd hfair hsz hkn aW hX hR ZN hmc hes;have af7:Hid (kn=0->(m.kids.all λx=>dQ x.t)=true):=zq λh=>by have:m.kids=[]:=aw9 (by rw[<-mF.out];exact h);rw[this];rfl
  by_cases k1:m.kind=1
  ·have k1b:(m.kind==1)=true:=awx.2 k1;unfold ig at dL;rw[k1b]at dL;simp only[if_true]at dL;have HN:=λw1=>FU (dh m.s) w1 (by unfold maxLen;show m.s.toArray.size<=_;simp;omega);unfold dh at HN;rw[show iC m.s=fK ⟨m.s.toArray⟩ from rfl]at dL;clear k1
   cases hn:fK ⟨m.s.toArray⟩ with
   | false=>
    rw[hn]at dL HN;have HK:Hid (R=false):=zq (by rw[dL];rfl);have HN:=zq HN;clear dL hn;go_enter func90,ntmps90
    go_wp2_with (first|((with_reducible refine(HN.out _).mono ?_);rintro e w1 ⟨rfl,aK⟩))
    go_ret;exact⟨by rw[HK.out];rfl,HE.out.trans aK⟩
   | true=>
    rw[hn]at dL HN;have HN:=zq HN;by_cases h0:m.n=0;have h0b:(m.n==0)=true:=awx.2 h0;rw[h0b]at dL;have HK:Hid (R=decide ((kn:Int)=0)):=zq (by
     rw[dL];by_cases hz:kn=0;rw[af7.out hz,hz];rfl;rw[awO (show 0<kn by omega),awY (show ¬(kn:Int)=0 by omega)];rfl)
    clear dL hn h0;exact azn;have h0b:(m.n==0)=false:=awg.2 h0;rw[h0b]at dL;have HK:Hid (R=false):=zq (by rw[dL];rfl);clear dL hn;exact azn
  have k1':(m.kind==1)=false:=awg.2 k1;by_cases k2:m.kind=2;have k2b:(m.kind==2)=true:=awx.2 k2;unfold ig at dL;rw[k1',k2b]at dL;simp only[awv,if_false,if_true]at dL;clear k1 k2;by_cases hs:m.s=[];rw[hs]at dL c1 hw0;have HK:Hid (R=decide ((kn:Int)=0)):=zq (by
   rw[dL];by_cases hz:kn=0;rw[af7.out hz,hz];rfl;rw[awO (show 0<kn by omega),awY (show ¬(kn:Int)=0 by omega)];rfl)
  rw[hs];clear dL hs;exact aAW;have hsb:(!m.s.isEmpty)=true:=by cases hq:m.s with
   | nil=>exact absurd hq hs
   | cons c q=>rfl
  have hsn:m.s.isEmpty=false:=by simpa using hsb
  rw[hsb]at dL;exact az3;have k2':(m.kind==2)=false:=awg.2 k2;by_cases k3:m.kind=3;have k3b:(m.kind==3)=true:=awx.2 k3;unfold ig at dL;rw[k1',k2',k3b]at dL;simp only[awv,if_false,if_true]at dL;clear k1 k2 k3;by_cases h0:m.n=0;have h0b:(m.n==0)=true:=awx.2 h0;rw[h0b]at dL;have HK:Hid (R=decide ((kn:Int)=0)):=zq (by
   rw[dL];by_cases hz:kn=0;rw[af7.out hz,hz];rfl;rw[awO (show 0<kn by omega),awY (show ¬(kn:Int)=0 by omega)];rfl)
  clear dL h0;exact aAW;have h0b:(m.n==0)=false:=awg.2 h0;rw[h0b]at dL;exact az3;have ZL:(m.kind==3)=false:=awg.2 k3;by_cases k4:m.kind=4
  ·have k4b:(m.kind==4)=true:=awx.2 k4;unfold ig at dL;rw[k1',k2',ZL,k4b]at dL;simp only[awv,if_false,if_true]at dL;have HT:=λw1=>Sj m.s w1;unfold dh at HT;obtain⟨t,ht⟩:∃t,t=bI m.s:=⟨_,rfl⟩
   rw[<-ht]at HT dL;have HT:=zq HT;have oV:t<=3:=by rw[ht];unfold bI;split<;>(try split)<;>(try split)<;>omega
   clear k1 k2 k3 k4 ht;by_cases h0:m.n=0
   ·have h0b:(m.n==0)=true:=awx.2 h0;have h0n:(m.n !=0)=false:=by simp[h0]
    rw[h0b]at dL;by_cases hz:t=0;subst hz;exact ayW;have z1:¬((t:Int)=0):=ae;have z2:((t:Int)==0)=false:=awg.2 z1;have htb:(t==0)=false:=awg.2 hz;rw[htb]at dL;by_cases hq:kn=t
    ·have hqb:(kn==t)=true:=awx.2 hq;have hqi:((kn:Int) !=(t:Int))=false:=by simp;omega
     rw[hqb]at dL;have HK:Hid (R=m.kids.all λx=>dQ x.t):=zq (by rw[dL];rfl);clear dL hq h0 hz;go_enter func90,ntmps90
     go_wp2_with fail
     go_quiet (first|(go_at_call 124;exact Calls.quiet_of_same ((HT.out _).mono λ_ _ h=>⟨h.1,h.2.symm⟩)))
     generalize zn:World.drewN w0 _=wA;have P6:=zq (show Ev w0 wA from zn▸Ev.drewN w0 _);clear zn;go_wp2
     go_loopw [3] (λiv wr=>∃q:Nat,q<=kn/\iv=↑q/\Ev wA wr/\Hid (((m.kids.take q).all λx=>dQ x.t)=true)) (λiv _=>kn - (intOf iv).toNat)
     case atStart=>exact⟨0,aww _,rfl,Ev.refl _,zq rfl⟩
     case round=>
      obtain⟨q,hq,rfl,hE,Nv⟩:=hrel;have ou:=zq ((HE.out.trans P6.out).trans hE);obtain⟨⟨c0,c1,c2,c3⟩,_⟩:=(HX.out.ev (P6.out.trans hE)).four;by_cases hlt:q<kn
      ·obtain⟨x,hx⟩:=Sm.out.at hlt;obtain⟨b,off,rfl,hbl,e0,e1,e2,e3⟩:=Es.cell (Sm.out.ev ou.out) hx;unfold M.kv at e3;have Q8:=awm hx;have hxf:x.t.every cO=true:=by exact aAM
       have UD:x.t.size<=100000:=by exact az5
       have HI:=λw1 (hE:Ev w w1)=>mP.out x b0 w1 (by have:=M.mg Q8;have:=HD.out;omega) ((HL.out.kid x Q8).ev hE) hxf UD;have qo:Hid (((m.kids.take (q+1)).all λx=>dQ x.t)=dQ x.t):=zq (by
        obtain⟨hk2,e⟩:=awi.1 hx;rw[aws hk2,axG,Nv.out,e];simp)
       have HXM:=zq Q8;have j1:(0:Int)<=(q:Int):=ae;have j2:(q:Int)<(kn:Int):=ae;clear hx Q8 hxf UD;generalize hxr:dQ x.t=xr at*;have HXR:=zq hxr;have HI:=zq HI;clear hxr
       cases xr with
       | true=>
        go_wp2_with (first|((with_reducible refine(HI.out _ ou.out).mono ?_);rintro r w9 ⟨rfl,oI⟩))
        go_roundw
        case rel=>exact⟨q+1,ae,by go_num,hE.trans oI,qo⟩
        case measure=>simp[intOf];omega
       | false=>
        have HKF:Hid (R=false):=zq (by
         rw[HK.out,List.all_eq_false];exact⟨x,HXM.out,by rw[HXR.out];decide⟩)
        go_wp2_with (first|((with_reducible refine(HI.out _ ou.out).mono ?_);rintro r w9 ⟨rfl,oI⟩))
        go_ret;exact⟨by rw[HKF.out];rfl,ou.out.trans oI⟩
      have Nw:q=kn:=ae;have j2:¬((q:Int)<(kn:Int)):=ae;have HKT:Hid (R=true):=zq (by
       have:=Nv.out;rw[Nw,mF.out,aw0]at this;rw[HK.out,this])
      clear Nw;go_wp2;go_ret;exact⟨by rw[HKT.out];rfl,ou.out⟩
    have hqb:(kn==t)=false:=awg.2 hq;have hqi:((kn:Int) !=(t:Int))=true:=by simp;omega
    rw[hqb]at dL;exact ayW
   have h0b:(m.n==0)=false:=awg.2 h0;have h0n:(m.n !=0)=true:=by simp[h0]
   rw[h0b]at dL;have HK:Hid (R=false):=zq (by
    rw[dL]
    cases (t==0)<;>rfl)
   clear dL;exact azm
  have k4':(m.kind==4)=false:=awg.2 k4;unfold ig at dL;rw[k1',k2',ZL,k4']at dL;exact az3
end Go.Proofs.YtpbfokkocaemlaaGreatDoor
