import Derived.Test.YtpbfokkocaemlaaGreatDoorZ16P
set_option linter.unusedVariables false
set_option maxRecDepth 100000
set_option maxHeartbeats 64000000
namespace Go.Proofs.YtpbfokkocaemlaaGreatDoor
open Go.RowKit
open Go.Lib renaming hid → zq
open Go renaming World → ak
open Go renaming Value → au
open Go.Proofs.Tryz renaming prog → ax
variable {U:Prop}
open Go.Proofs.Tryz
theorem Tryz.fA:(Tryz.prog.info? 47).map (·.size)=some 4:=ah
def Cf(R:Ea)(w:ak)(e:Ending)(w':ak):Prop:=
 ∃x:M,e=.returned (.tuple #[.agg ↑(x,()),.int .i64 R.2.1,.int .i64 (R.2.2:Int)])/\x.t=R.1/\Lx w.heap.size [] w' x/\Ev w w'
structure Gl(w1:ak)(ge:Nat)(S:By)(A:Option Addr)(n cap:Nat)(L:List M)(w:ak):Prop where
 box:Bx 47 ge #[.int .i64 4,↑S,.int .i64 0,.slice A n cap] w
 own:Ow 47 4 ec (ge+1) w (.slice A n cap) L
 len:L.length=n
 lies:∀x∈L,Lx (ge+1) (foot (.slice A n cap)) w x
 ev:Ev w1 w
 Hl:w1.heap.size<=ge
theorem Gl.init(w1:ak)(S:By):Gl w1 w1.heap.size S none 0 0 [] (w1.alloc (.cells #[.int .i64 4,↑S,.int .i64 0,↑()] 47)):=
 ⟨Bx.new _ _ w1,Ow.nil_ _,rfl,(λx hx=>by cases hx),Ev.alloc _ _,awC _⟩
theorem aB_(h:U:=by rcases hs k (aG.1 hk) with h1|h1;exact .inl (aG.2 h1);exact .inr (.inr h1)):U:=h
theorem aCi(h:U:=by rcases awN.1 hk with rfl|h1;exact .inr (.inl ae);exact .inl h1):U:=h
theorem Gl.next{w1 wr wq w2:ak}{ge n cap:Nat}{S:By}{A:Option Addr}{L:List M}{x:M}{v2:au}(h:Gl w1 ge S A n cap L wr)(hE:Ev wr wq)(hx:Lx wr.heap.size [] wq x)(hA:mf 47 4 ec (ge+1) wq (.slice A n cap) (L++[x]) v2 w2):
  ∃A2 cap2,v2=.slice A2 (n+1) cap2/\Gl w1 ge S A2 (n+1) cap2 (L++[x]) (w2.setCell ⟨ge,3,none⟩ v2):=by
 obtain⟨ho,hb,hs⟩:=hA;obtain⟨A2,cap2,rfl,qL,xJ⟩:=ho.form x8;have hl:(L++[x]).length=n+1:=by rw[awE,h.len];rfl
 rw[hl]at ho hs qL xJ|-;have Ny:=h.box.lt;have hK:ge∉foot (.slice A n cap):=λhm=>by have:=(h.own.lt (aG.1 hm)).1;omega
 have hK2:∀g,(Value.slice A2 (n+1) cap2).ownBlock=some g->ge+1<=g:=λg hg=>(ho.lt hg).1;have hB2:Bx 47 ge #[.int .i64 4,↑S,.int .i64 0,.slice A n cap] w2:=(h.box.ev hE).but hb hK;have Iy:But [ge] w2 (w2.setCell ⟨ge,3,none⟩ (.slice A2 (n+1) cap2)):=But.setCell _ _ aj;refine⟨A2,cap2,rfl,?_,?_,hl,λy hy=>?_,?_,h.Hl⟩;have:=hB2.set 3 (.slice A2 (n+1) cap2);simpa using this;exact ho.but Iy λg hg=>by have:=hK2 g hg;simp;omega
 have hy2:Lx (ge+1) (foot (.slice A n cap)) wq y:=by rcases awV.1 hy with h1|h1;exact(h.lies y h1).ev hE;simp at h1;subst h1;refine(hx.less λk hk=>.inr (.inl ?_)).low ae;exact(h.own.lt (aG.1 hk)).2
 have hy3:Lx (ge+1) (foot (.slice A2 (n+1) cap2)) w2 y:=hy2.move hb λk hk=>by exact aB_
 have hy4:Lx (ge+1) (ge::foot (.slice A2 (n+1) cap2)) w2 y:=hy3.less λk hk=>by exact aCi
 exact hy4.move (Iy.wide λk hk=>by simp at hk;subst hk;exact .inl aj) λk hk=>.inl (awK _ hk);have h1:Ev w1 w2:=((But.aW (h.ev.trans hE)).then hb).ev λk hk=>by have:=(h.own.lt (aG.1 hk)).1;have:=h.Hl;omega
 exact h1.box Iy h.Hl
theorem Gl.after{w1 wr wq w2:ak}{ge n cap:Nat}{S:By}{A:Option Addr}{L:List M}{L':List M}{v2:au}(h:Gl w1 ge S A n cap L wr)(hE:Ev wr wq)(hA:mf 47 4 ec (ge+1) wq (.slice A n cap) L' v2 w2):
  Bx 47 ge #[.int .i64 4,↑S,.int .i64 0,.slice A n cap] w2:=
 (h.box.ev hE).but hA.2.1 λhm=>by have:=(h.own.lt (aG.1 hm)).1;omega
theorem Gl.done{w1 w:ak}{ge n cap:Nat}{S:By}{A:Option Addr}{L:List M}(h:Gl w1 ge S A n cap L w){b0:Nat}(hb:b0<=ge):Lx b0 [] w (.mk 4 S 0 A cap L 0)/\n=L.length:=by
 obtain⟨A2,cap2,hv,qL,xJ⟩:=h.own.form x8;injection hv with h1 h2 h3
 subst h1 h3;refine⟨.mk qL (λad e=>⟨by have:=(xJ ad e).2.1;omega,(xJ ad e).2.2.1,aj⟩) λk hk=>((h.lies k hk).less λx hx=>by cases hx).low ae,h2⟩
theorem iQ:∀{l:List Nat} {x:Nat},x∈l->x<=l.sum
 | [],x,h=>by cases h
 | y::l,x,h=>by rcases awN.1 h with rfl|h;simp;have:=iQ h;simp;omega
theorem xRead_eq(m:M):xRead m.t=if m.kind==2 then (if jO m.s then (.mk 1 m.s 0 [] 0,0,0) else kK 20 m.pos)
  else if m.kind==3 then (.mk 2 [] m.n [] 0,0,0)
  else if m.kind==4 then (.mk 3 m.s 0 [] 0,0,0)
  else if m.kind==1 then
   (match m.kids with
    | []=>kK 12 m.pos
    | h::q=>if h.kind==2&&!(bQ h.s==0) then
      (if q.length==bQ h.s then xReads h.s [] (q.map λx=>xRead x.t) else kK 23 m.pos) else kK 12 m.pos)
  else kK 12 m.pos:=by
 cases hk:m.kids with
 | nil=>
  rw[M.qR,hk];rfl
 | cons h q=>
  rw[M.qR,hk];simp only[awI,xRead,M.xI,M.uK,awD,uw,awT];rfl
theorem aBq(h:U:=by rw[T.gI,awF]at hfair;have:=hfair.1;unfold dh at this;simp only[awF,decide_eq_true_iff,M.uK]at this;exact this.2):U:=h
theorem azP(h:U:=by(try simp only[Exit.inBlock,Exit.then]);rw[dS];refine ayr (aI rfl _ _ _ _ _ rfl (B1.kP _ _ _ _) underlying47 rfl Tryz.fA) rfl ?_;exact⟨(.mk 1 m.s 0 none 0 [] 0),by rw[HK.out];rfl,by rw[HK.out];simp[M.t,M.ts],Lx.leaf,E1.box (eY _ _ _ _ _ _) ae⟩):U:=h
theorem azD(h:U:=by go_wp2;(try simp only[Exit.inBlock,Exit.then]);rw[dS];refine ayr (aI rfl _ _ _ _ _ rfl (HB.out.kP _ _ _ _) underlying47 rfl Tryz.fA) rfl ?_;exact⟨(.mk 2 [] m.n none 0 [] 0),by rw[HK.out];rfl,by rw[HK.out];simp[M.t,M.ts],Lx.leaf,HE.out.box (eY _ _ _ _ _ _) ae⟩):U:=h
theorem azE(h:U:=by go_wp2;(try simp only[Exit.inBlock,Exit.then]);rw[dS];refine ayr (aI rfl _ _ _ _ _ rfl (HB.out.kP _ _ _ _) underlying47 rfl Tryz.fA) rfl ?_;exact⟨(.mk 3 m.s 0 none 0 [] 0),by rw[HK.out];rfl,by rw[HK.out];simp[M.t,M.ts],Lx.leaf,HE.out.box (eY _ _ _ _ _ _) ae⟩):U:=h
theorem azu(h:U:=by
 go_region
 all_goals (
  go_wp2;(try simp only[Exit.inBlock,Exit.then]);rw[dS];refine ayr (aI rfl _ _ _ _ _ rfl ((HB.out.ev (Ev.drew w0)).kP _ _ _ _) underlying47 rfl Tryz.fA) rfl ?_;exact⟨ja,by rw[HK.out];rfl,by rw[HK.out];rfl,Lx.leaf,(HE.out.trans (Ev.drew w0)).box (eY _ _ _ _ _ _) ae⟩
  )):U:=h
theorem azf(h:U:=by have HK:Hid (R=kK 12 m.pos):=zq dK;clear dK;go_enter func81,ntmps81;go_wp2;exact azu):U:=h
theorem aBR(h:U:=by have h5:=J5.out;rw[T.gI,awF]at h5;exact awW.1 h5.2 x.t (by rw[M.bD];exact aw6.2 ⟨x,RH,rfl⟩)):U:=h
theorem aA1(h:U:=by have h5:=T.size_eq m.t;rw[M.bD,awT]at h5;have h6:=iQ (aw6.2 ⟨x,RH,rfl⟩:x.t.size∈m.kids.map (T.size ∘ M.t));have:=zQ.out;omega):U:=h
theorem aAe(h:U:=by(try simp only[Exit.inBlock,Exit.then]);rw[dS];refine ayr (aI rfl _ _ _ _ _ rfl (B1.kP _ _ _ _) underlying47 rfl Tryz.fA) rfl ?_;exact⟨ja,by rw[jF.out];rfl,by rw[jF.out];rfl,Lx.leaf,E1.box (eY _ _ _ _ _ _) ae⟩):U:=h
theorem XO(N:Nat):∀(m:M) (b0:Nat) (w:ak),m.dep<=N->Lies b0 [] w m->m.t.every dh=true->m.t.size<=100000->Calls ax 81 #[mv m] w (Cf (xRead m.t) w):=by
 induction N with
 | zero=>
  intro m b0 w hd;rw[M.lh]at hd;omega
 | succ N ih=>
  intro m b0 w hd hL hfair hsz;have qg:m.kids.length<=100000:=by have h1:=T.size_eq m.t;have h2:=jZ m.t.kids;rw[M.bD,awD]at h2;rw[M.bD]at h1;omega
  have zQ:=zq hsz;have dK:=xRead_eq m;have fM:=hL.ms;have lM:=zq ih;have HL:=zq hL;have HD:=zq hd;have J5:=zq hfair;have FW:m.s.length<=100000:=by exact aBq
  obtain⟨R,hR⟩:∃R,R=xRead m.t:=⟨_,rfl⟩
  rw[<-hR]at dK|-;obtain⟨kn,hkn⟩:∃kn,kn=m.kids.length:=⟨_,rfl⟩
  unfold mv M.kv;rw[<-hkn]at fM qg|-;have mg:=zq hkn;generalize VP:m.A=mA at*;generalize hmc:m.cap=kL at*;have qV:=zq fM;have aV:=(Ev.alloc w (.cells #[↑m.kind,↑m.s,↑m.n,.slice mA kn kL,↑m.pos] 79)).trans (Ev.alloc _ (.cells ↑Zz.e 47));have hX:=(Bx.new 79 #[↑m.kind,↑m.s,↑m.n,.slice mA kn kL,↑m.pos] w).ev (Ev.alloc _ (.cells ↑Zz.e 47));have hB:Bx 47 (w.heap.size+1) ↑Zz.e ((w.alloc (.cells #[↑m.kind,↑m.s,↑m.n,.slice mA kn kL,↑m.pos] 79)).alloc (.cells ↑Zz.e 47)):=by have:=Bx.new 47 ↑Zz.e (w.alloc (.cells #[↑m.kind,↑m.s,↑m.n,.slice mA kn kL,↑m.pos] 79));simpa using this
  obtain⟨w0,hw0⟩:∃w0,(w.alloc (.cells #[↑m.kind,↑m.s,↑m.n,.slice mA kn kL,↑m.pos] 79)).alloc (.cells ↑Zz.e 47)=w0:=⟨_,rfl⟩
  rw[hw0]at aV hX hB;have HE:=zq aV;have HX:=zq hX;have HB:=zq hB;obtain⟨⟨c0,c1,c2,c3,c4⟩,_⟩:=hX.five;obtain⟨⟨y7,y8,y9,MO⟩,MP,MQ,MR,MS⟩:=hB.four;clear ih hL hd hfair hkn aV hX hB hR VP hmc fM;by_cases k2:m.kind=2
  ·rw[k2]at dK hw0 c0|-;simp only[axe,aw4]at dK;have HN:=λw1=>yg (aY m.s) w1 (by unfold maxLen;show m.s.toArray.size<=_;simp;omega);unfold aY at HN;rw[show jO m.s=f_ ⟨m.s.toArray⟩ from rfl]at dK
   cases hn:f_ ⟨m.s.toArray⟩ with
   | false=>
    rw[hn]at dK HN;simp only[awP,aw7]at dK;have HK:=zq dK;have HN:=zq HN;clear dK;go_enter func81,ntmps81
    go_wp2_with (first|((with_reducible refine(HN.out _).mono ?_);rintro e w1 ⟨rfl,aN⟩;have E1:=HE.out.trans (aN.trans (Ev.drew w1));have B1:=HB.out.ev (aN.trans (Ev.drew w1));obtain⟨⟨c0,c1,c2,c3,c4⟩,_⟩:=(HX.out.ev aN).five;obtain⟨⟨y7,y8,y9,MO⟩,MP,MQ,MR,MS⟩:=(HB.out.ev aN).four))
    go_region
    all_goals (
     go_wp2;(try simp only[Exit.inBlock,Exit.then]);rw[dS];refine ayr (aI rfl _ _ _ _ _ rfl (B1.kP _ _ _ _) underlying47 rfl Tryz.fA) rfl ?_;exact⟨ja,by rw[HK.out];rfl,by rw[HK.out];rfl,Lx.leaf,E1.box (eY _ _ _ _ _ _) ae⟩
     )
   | true=>
    rw[hn]at dK HN;simp only[aw4]at dK;have HK:=zq dK;have HN:=zq HN;clear dK;go_enter func81,ntmps81
    go_wp2_with (first|((with_reducible refine(HN.out _).mono ?_);rintro e w1 ⟨rfl,aN⟩;have E1:=HE.out.trans aN;have B1:=HB.out.ev aN;obtain⟨⟨c0,c1,c2,c3,c4⟩,_⟩:=(HX.out.ev aN).five;obtain⟨⟨y7,y8,y9,MO⟩,MP,MQ,MR,MS⟩:=(HB.out.ev aN).four))
    exact azP
  have k2':(m.kind==2)=false:=awy.2 k2;rw[k2']at dK;by_cases k3:m.kind=3
  ·rw[k3]at dK hw0 c0|-;have HK:Hid (R=(.mk 2 [] m.n [] 0,0,0)):=zq dK;clear dK;go_enter func81,ntmps81;exact azD
  have k3':(m.kind==3)=false:=awy.2 k3;rw[k3']at dK;by_cases k4:m.kind=4
  ·rw[k4]at dK hw0 c0|-;have HK:Hid (R=(.mk 3 m.s 0 [] 0,0,0)):=zq dK;clear dK;go_enter func81,ntmps81;exact azE
  have k4':(m.kind==4)=false:=awy.2 k4;rw[k4']at dK;by_cases k1:m.kind=1
  ·rw[k1]at dK hw0 c0|-;have S_:=HX.out;rw[k1]at S_;have S_:=zq S_;have asV:kn<=100000:=qg
   cases hk:m.kids with
   | nil=>
    obtain rfl:kn=0:=by rw[mg.out,hk];rfl
    rw[hk]at dK;exact azf
   | cons hm1 q=>
    have abr:kn=q.length+1:=by rw[mg.out,hk];rfl
    rw[hk]at dK;obtain⟨b,off,rfl,hb,h0,h1,_,_,_⟩:=qV.out.cell (i:=0) (x:=hm1) (by rw[hk];rfl);simp only[axi,aw2]at h0 h1;have HH:Hid (∀w1,Ev w w1->w1.cell? ⟨b,off,none⟩=some ↑hm1.kind/\w1.cell? ⟨b,off+1,none⟩=some ↑hm1.s):=zq λw1 hE=>⟨(hE.cell (p:=⟨_,_,none⟩) hb).trans h0,(hE.cell (p:=⟨_,_,none⟩) hb).trans h1⟩
    clear h0 h1;obtain⟨h0,h1⟩:=HH.out _ HE.out;have i0:¬((kn:Int)=0):=ae;have i0':((kn:Int)==0)=false:=awy.2 i0;have i1:(0:Int)<(kn:Int):=ae;have HKQ:=zq abr;have abt:=zq hk;clear abr hk;by_cases hh:hm1.kind=2
    ·have hhb:(hm1.kind==2)=true:=awO.2 hh;have hhn:(hm1.kind !=2)=false:=by simp[hh]
     have HT:=λw1=>SQ hm1.s w1;unfold aY at HT;obtain⟨t,ht⟩:∃t,t=bQ hm1.s:=⟨_,rfl⟩
     simp only[hhb,axB,axe,aw4,awP,aw7]at dK;rw[<-ht]at HT dK;have HT:=zq HT;clear hh ht
     cases t with
     | zero=>
      have HK:Hid (R=kK 12 m.pos):=zq dK;clear dK;go_enter func81,ntmps81
      go_wp2_with (first|((with_reducible refine(HT.out _).mono ?_);rintro e w1 ⟨rfl,rfl⟩))
      exact azu
     | succ t=>
      rw[if_pos (by rfl)]at dK;have hT2:=HT.out;rw[show ((t+1:Nat):Int)=(t:Int)+1 by omega]at hT2;clear HT;have HT:=zq hT2;clear hT2;have e1n:¬((t:Int)+1=0):=ae;have e1b:(((t:Int)+1)==0)=false:=awy.2 e1n;by_cases hq:q.length=t+1
      ·rw[if_pos (by simp[hq])]at dK;have HK:=zq dK;have XP:(kn:Int)-1=(t:Int)+1:=by have:=HKQ.out;omega
       have aj9:kn=t+2:=by have:=HKQ.out;omega
       have HKT:=zq aj9;have ahs:(((kn:Int)-1)==((t:Int)+1))=true:=awO.2 XP;have aht:(((kn:Int)-1) !=((t:Int)+1))=false:=by simp;exact XP
       clear dK aj9 XP hq;go_enter func81,ntmps81
       go_wp2_with (first|((with_reducible refine(HT.out _).mono ?_);rintro e w1 ⟨rfl,rfl⟩))
       go_quiet (first|(go_at_call 124;exact ayv ((HT.out _).mono λ_ _ hm1=>⟨hm1.1,hm1.2.symm⟩)))
       generalize zK:World.drewN w0 _=wA;have hEA:Ev w0 wA:=zK▸Ev.drewN w0 _;have Qg:=zq (HE.out.trans hEA);have aeH:=zq hEA;have HI0:=zq (Gl.init wA hm1.s);clear zK hEA c0 c1 c2 c3 c4 h0 h1;obtain⟨⟨c0,c1,c2,c3,c4⟩,_⟩:=(S_.out.ev aeH.out).five;obtain⟨h0,h1⟩:=HH.out _ Qg.out;go_wp2
       go_loopw [6] (λiv wr=>∃(A:Option Addr) (n cap j:Nat) (L:List M),iv=.int .i64 ((j+1:Nat):Int)/\j+1<=kn/\Hid (n=j)/\Hid (Gl wA wA.heap.size hm1.s A n cap L wr)/\Hid (R=xReads hm1.s (L.map M.t) ((q.drop j).map λx=>xRead x.t))) (λiv _=>kn-(intOf iv).toNat)
       case atStart=>exact⟨none,0,0,0,[],rfl,by have:=HKT.out;omega,zq rfl,HI0,HK⟩
       case round=>
        obtain⟨A,n,cap,j,L,rfl,hj,HN,HS,HR⟩:=hrel;have jy:=zq (Qg.out.trans HS.out.ev);have Gm:=zq (aeH.out.trans HS.out.ev);obtain⟨⟨c0,c1,c2,c3,c4⟩,_⟩:=(S_.out.ev Gm.out).five;obtain⟨⟨y7,y8,y9,MO⟩,MP,MQ,MR,MS⟩:=(HB.out.ev Gm.out).four;obtain⟨⟨d0,d1,d2,d3⟩,r0,r1,r2,r3⟩:=HS.out.box.four;by_cases hlt:j+1<kn
        ·obtain⟨x,hx⟩:∃x,q[j]?=some x:=⟨_,awX (by have:=HKQ.out;omega)⟩
         have gJ:m.kids[j+1]?=some x:=by rw[abt.out];simpa using hx
         obtain⟨b',off',he,_,x0,x1,x2,x3,x4⟩:=Ms.cell (qV.out.ev jy.out) gJ;injection he with he
         injection he with he1 J6 _
         subst he1 J6;have hdj:q.drop j=x::q.drop (j+1):=by obtain⟨hj',e⟩:=awz.1 hx;rw[axt hj',e]
         have gG:=HR.out;rw[hdj,awI]at gG;unfold xReads at gG;have RH:=awG gJ;have hxf:x.t.every dh=true:=by exact aBR
         have PG:x.t.size<=100000:=by exact aA1
         have HI:=λw1 (hE:Ev w w1)=>lM.out x b0 w1 (by have:=M.jY RH;have:=HD.out;omega) ((HL.out.kid x RH).ev hE) hxf PG;unfold mv M.kv Cf at HI;unfold M.kv at x3;generalize xRead x.t=rx at*;obtain⟨rt,ry,rp⟩:=rx;simp only at gG HI;have HI:=zq HI;have wF:=HN.out;subst wF;have hnb:n<=200000:=ae;have uf:=zq HS.out.len;have i2:((n:Int)+1)<(kn:Int):=ae;have i3:(0:Int)<=(n:Int)+1:=ae;clear hx gJ hdj RH hxf PG HN;by_cases hw:ry=0
         ·subst hw;rw[if_pos (by rfl)]at gG;have jF:=zq gG;clear gG
          go_wp2_with (first
           | ((with_reducible refine(HI.out _ jy.out).mono ?_);rintro e w1 ⟨x',rfl,jM,iH,aN⟩;have qK:=zq jM;have pX:=zq iH;have E1:=zq aN;obtain⟨⟨d0,d1,d2,d3⟩,r0,r1,r2,r3⟩:=(HS.out.box.ev (aN.trans (Ev.alloc w1 (.cells ↑(x',()) 47)))).four;clear jM iH)
           | ((show wpList _ _ _ (⟨some 109,_,_,_,_,_⟩::_) _ _);refine aO (o:=⟨some 109,_,_,_,_,_⟩) rfl 28 (.tmp 106) (.tmp 108) rfl x8 underlying28 Tryz.zX rfl rfl (HS.out.own.ev (E1.out.trans ((Ev.alloc w1 _).trans aB))) (some ⟨w1.heap.size+1,0,none⟩) 1 1 [x'] rfl (by have:=Sl.one (et:=47) x8 (w1.alloc (.cells ↑(x',()) 47)) x' ↑(x',()) rfl;simpa using this) (by rw[uf.out];simp;omega) (by rw[uf.out];simp;omega) (by have h7:=HS.out.box.lt;have h8:=(E1.out.trans ((Ev.alloc w1 (.cells ↑(x',()) 47)).trans (Ev.alloc _ (.cells ↑(x',()) 47)))).size;omega) ?_;intro v2 w2 dY;obtain⟨⟨d0,d1,d2,d3⟩,r0,r1,r2,r3⟩:=(HS.out.after (E1.out.trans ((Ev.alloc w1 _).trans aB)) dY).four;obtain⟨A2,cap2,rfl,ST2⟩:=HS.out.next (E1.out.trans ((Ev.alloc w1 _).trans aB)) (pX.out.ev ((Ev.alloc w1 _).trans aB)) dY))
          go_roundw
          case rel=>exact⟨A2,n+1,cap2,n+1,L++[x'],by go_num,ae,zq rfl,zq ST2,zq (by rw[jF.out,awM,awI,awY,qK.out])⟩
          case measure=>simp[intOf];omega
         have Nk:(ry==0)=false:=awy.2 hw;have hwn:(ry !=0)=true:=by simp[hw]
         rw[Nk]at gG;simp only[awP,aw7]at gG;have jF:=zq gG;clear gG
         go_wp2_with (first
          | ((with_reducible refine(HI.out _ jy.out).mono ?_);rintro e w1 ⟨x',rfl,jM,iH,aN⟩;have E1:=jy.out.trans (aN.trans (Ev.alloc w1 (.cells ↑(x',()) 47)));have B1:=HB.out.ev (Gm.out.trans (aN.trans (Ev.alloc w1 (.cells ↑(x',()) 47))));obtain⟨⟨y7,y8,y9,MO⟩,MP,MQ,MR,MS⟩:=B1.four))
         exact aAe
        have hjk:j+1=kn:=ae;have i2:¬((j:Int)+1<(kn:Int)):=ae;have gG:=HR.out;rw[axm (by have:=HKQ.out;omega)]at gG;simp only[awY,xReads]at gG;have jF:=zq gG;obtain⟨hlx,hnl⟩:=HS.out.done (b0:=w.heap.size) (aw0 Qg.out.size (awC _));have hlg:=(HS.out.done (b0:=wA.heap.size) (awC _)).1;have abv:=zq (hlg.less (K':=[w.heap.size+1]) λk hk=>by simp at hk;subst hk;exact .inr (.inl (by have h5:=aeH.out.size;have h6:=HB.out.lt;omega)));clear hlg;have jd:=zq hnl;have aoa:w.heap.size+1<wA.heap.size:=by have h5:=aeH.out.size;have h6:=HB.out.lt;omega
        clear gG hjk hlx hnl;go_wp2;(try simp only[Exit.inBlock,Exit.then]);rw[dS];refine ayr (aI rfl _ _ _ _ _ rfl ((HB.out.ev Gm.out).kP _ _ _ _) underlying47 rfl Tryz.fA) rfl ?_;refine⟨.mk 4 hm1.s 0 A cap L 0,by rw[jF.out];simp only[M.kids];rw[<-jd.out];rfl,by rw[jF.out];simp[M.t,M.jQ],?_,jy.out.box (eY _ _ _ _ _ _) ae⟩;exact(abv.out.move (eY _ _ _ _ _ _) λk hk=>by cases hk).low ae
      rw[if_neg (by simp;exact hq)]at dK;have HK:Hid (R=kK 23 m.pos):=zq dK;have XP:¬((kn:Int)-1=(t:Int)+1):=by have:=HKQ.out;omega
      have ahs:(((kn:Int)-1)==((t:Int)+1))=false:=awy.2 XP;have aht:(((kn:Int)-1) !=((t:Int)+1))=true:=by simp;exact XP
      clear dK;go_enter func81,ntmps81
      go_wp2_with (first|((with_reducible refine(HT.out _).mono ?_);rintro e w1 ⟨rfl,rfl⟩))
      go_quiet (first|(go_at_call 124;exact ayv ((HT.out _).mono λ_ _ hm1=>⟨hm1.1,hm1.2.symm⟩)))
      go_wp2
      go_region
      all_goals (
       go_wp2;(try simp only[Exit.inBlock,Exit.then]);rw[dS];refine ayr (aI rfl _ _ _ _ _ rfl ((HB.out.ev ((Ev.drewN w0 _).trans (Ev.drew _))).kP _ _ _ _) underlying47 rfl Tryz.fA) rfl ?_;exact⟨ja,by rw[HK.out];rfl,by rw[HK.out];rfl,Lx.leaf,(HE.out.trans ((Ev.drewN w0 _).trans (Ev.drew _))).box (eY _ _ _ _ _ _) ae⟩
       )
    have hhb:(hm1.kind==2)=false:=awy.2 hh;have hhn:(hm1.kind !=2)=true:=by simp[hh]
    simp only[hhb,axp,awP,aw7,axe,aw4]at dK;exact azf
  have k1':(m.kind==1)=false:=awy.2 k1;have k1n:(m.kind !=1)=true:=by simp[k1]
  rw[k1']at dK;exact azf
theorem abK(m:M):dX m.t=(!iy m.kind m.s m.n m.kids.length&&m.kids.all λx=>dX x.t):=by
 have h:dX m.t=(!oQ m.t&&wR (m.kids.map M.t)):=by rw[M.qR,dX]
 rw[h,C_,wS,axN];rfl
def XW(N:Nat):Prop:=∀(m:M) (b0:Nat) (w:ak),m.dep<=N->Lx b0 [] w m->m.t.every dh=true->m.t.size<=100000->
 Calls ax 90 #[.agg ↑(m,())] w λe w'=>e=.returned (.bool (dX m.t))/\Ev w w'
theorem az9(h:U:=by
 go_enter func90,ntmps90
 go_wp2_with (first|((with_reducible refine(HN.out _).mono ?_);rintro e w1 ⟨rfl,aN⟩;obtain⟨⟨c0,c1,c2,c3⟩,_⟩:=(HX.out.ev aN).four))
 go_ret;exact⟨by rw[HK.out];rfl,HE.out.trans aN⟩):U:=h
theorem aB9(h:U:=by go_enter func90,ntmps90;go_wp2;go_ret;exact⟨by rw[HK.out];rfl,HE.out⟩):U:=h
theorem aAZ(h:U:=by have HK:Hid (R=false):=zq (by rw[dK];rfl);clear dK;exact aB9):U:=h
theorem aAk(h:U:=by
 go_enter func90,ntmps90
 go_wp2_with fail
 go_quiet (first|(go_at_call 124;exact ayv ((HT.out _).mono λ_ _ h=>⟨h.1,h.2.symm⟩)))
 go_wp2;go_ret;exact⟨by rw[HK.out];rfl,HE.out.trans (Ev.drewN _ _)⟩):U:=h
theorem azF(h:U:=by have HK:Hid (R=false):=zq (by rw[dK];rfl);clear dK h0;exact aAk):U:=h
theorem Tu(N:Nat):XW N:=by
 induction N with
 | zero=>
  intro m b0 w hd;rw[M.lh]at hd;omega
 | succ N ih=>
  intro m b0 w hd hL hfair hsz;have dK:=abK m;have FW:m.s.length<=100000:=by exact aBq
  unfold XW at ih;have lM:=zq ih;have HL:=zq hL;have HD:=zq hd;have J5:=zq hfair;have zQ:=zq hsz;have hes:=hL.es;obtain⟨R,hR⟩:∃R,R=dX m.t:=⟨_,rfl⟩
  rw[<-hR]at dK|-;obtain⟨kn,hkn⟩:∃kn,kn=m.kids.length:=⟨_,rfl⟩
  rw[<-hkn]at hes dK|-;have mg:=zq hkn;generalize VP:m.A=mA at*;generalize hmc:m.cap=kL at*;have hcm:=hes.max;have hcl:=hes.le;have Oy:=zq hes;have aV:=Ev.alloc w (.cells #[↑m.kind,↑m.s,↑m.n,.slice mA kn kL] 47);have hX:=Bx.new 47 #[↑m.kind,↑m.s,↑m.n,.slice mA kn kL] w;obtain⟨w0,hw0⟩:∃w0,w.alloc (.cells #[↑m.kind,↑m.s,↑m.n,.slice mA kn kL] 47)=w0:=⟨_,rfl⟩
  rw[hw0]at aV hX;have HE:=zq aV;have HX:=zq hX;obtain⟨⟨c0,c1,c2,c3⟩,_⟩:=hX.four;clear ih hL hd hfair hsz hkn aV hX hR VP hmc hes;have ahx:Hid (kn=0->(m.kids.all λx=>dX x.t)=true):=zq λh=>by have:m.kids=[]:=axu (by rw[<-mg.out];exact h);rw[this];rfl
  by_cases k1:m.kind=1
  ·have k1b:(m.kind==1)=true:=awO.2 k1;unfold iy at dK;rw[k1b]at dK;simp only[aw4]at dK;have HN:=λw1=>yg (aY m.s) w1 (by unfold maxLen;show m.s.toArray.size<=_;simp;omega);unfold aY at HN;rw[show jO m.s=f_ ⟨m.s.toArray⟩ from rfl]at dK;clear k1
   cases hn:f_ ⟨m.s.toArray⟩ with
   | false=>
    rw[hn]at dK HN;have HK:Hid (R=false):=zq (by rw[dK];rfl);have HN:=zq HN;clear dK hn;go_enter func90,ntmps90
    go_wp2_with (first|((with_reducible refine(HN.out _).mono ?_);rintro e w1 ⟨rfl,aN⟩))
    go_ret;exact⟨by rw[HK.out];rfl,HE.out.trans aN⟩
   | true=>
    rw[hn]at dK HN;have HN:=zq HN;by_cases h0:m.n=0;have h0b:(m.n==0)=true:=awO.2 h0;rw[h0b]at dK;have HK:Hid (R=decide ((kn:Int)=0)):=zq (by
     rw[dK];by_cases hz:kn=0;rw[ahx.out hz,hz];rfl;rw[aw5 (show 0<kn by omega),axf (show ¬(kn:Int)=0 by omega)];rfl)
    clear dK hn h0;exact az9;have h0b:(m.n==0)=false:=awy.2 h0;rw[h0b]at dK;have HK:Hid (R=false):=zq (by rw[dK];rfl);clear dK hn;exact az9
  have k1':(m.kind==1)=false:=awy.2 k1;by_cases k2:m.kind=2;have k2b:(m.kind==2)=true:=awO.2 k2;unfold iy at dK;rw[k1',k2b]at dK;simp only[awP,aw7,aw4]at dK;clear k1 k2;by_cases hs:m.s=[];rw[hs]at dK c1 hw0;have HK:Hid (R=decide ((kn:Int)=0)):=zq (by
   rw[dK];by_cases hz:kn=0;rw[ahx.out hz,hz];rfl;rw[aw5 (show 0<kn by omega),axf (show ¬(kn:Int)=0 by omega)];rfl)
  rw[hs];clear dK hs;exact aB9;have hsb:(!m.s.isEmpty)=true:=by cases hq:m.s with
   | nil=>exact absurd hq hs
   | cons c q=>rfl
  have hsn:m.s.isEmpty=false:=by simpa using hsb
  rw[hsb]at dK;exact aAZ;have k2':(m.kind==2)=false:=awy.2 k2;by_cases k3:m.kind=3;have k3b:(m.kind==3)=true:=awO.2 k3;unfold iy at dK;rw[k1',k2',k3b]at dK;simp only[awP,aw7,aw4]at dK;clear k1 k2 k3;by_cases h0:m.n=0;have h0b:(m.n==0)=true:=awO.2 h0;rw[h0b]at dK;have HK:Hid (R=decide ((kn:Int)=0)):=zq (by
   rw[dK];by_cases hz:kn=0;rw[ahx.out hz,hz];rfl;rw[aw5 (show 0<kn by omega),axf (show ¬(kn:Int)=0 by omega)];rfl)
  clear dK h0;exact aB9;have h0b:(m.n==0)=false:=awy.2 h0;rw[h0b]at dK;exact aAZ;have k3':(m.kind==3)=false:=awy.2 k3;by_cases k4:m.kind=4
  ·have k4b:(m.kind==4)=true:=awO.2 k4;unfold iy at dK;rw[k1',k2',k3',k4b]at dK;simp only[awP,aw7,aw4]at dK;have HT:=λw1=>SQ m.s w1;unfold aY at HT;obtain⟨t,ht⟩:∃t,t=bQ m.s:=⟨_,rfl⟩
   rw[<-ht]at HT dK;have HT:=zq HT;have oO:t<=3:=by rw[ht];unfold bQ;split<;>(try split)<;>(try split)<;>omega
   clear k1 k2 k3 k4 ht;by_cases h0:m.n=0
   ·have h0b:(m.n==0)=true:=awO.2 h0;have h0n:(m.n !=0)=false:=by simp[h0]
    rw[h0b]at dK;by_cases hz:t=0;subst hz;exact azF;have z1:¬((t:Int)=0):=ae;have z2:((t:Int)==0)=false:=awy.2 z1;have htb:(t==0)=false:=awy.2 hz;rw[htb]at dK;by_cases hq:kn=t
    ·have hqb:(kn==t)=true:=awO.2 hq;have hqi:((kn:Int) !=(t:Int))=false:=by simp;omega
     rw[hqb]at dK;have HK:Hid (R=m.kids.all λx=>dX x.t):=zq (by rw[dK];rfl);clear dK hq h0 hz;go_enter func90,ntmps90
     go_wp2_with fail
     go_quiet (first|(go_at_call 124;exact ayv ((HT.out _).mono λ_ _ h=>⟨h.1,h.2.symm⟩)))
     generalize zK:World.drewN w0 _=wA;have Qg:=zq (show Ev w0 wA from zK▸Ev.drewN w0 _);clear zK;go_wp2
     go_loopw [3] (λiv wr=>∃q:Nat,q<=kn/\iv=↑q/\Ev wA wr/\Hid (((m.kids.take q).all λx=>dX x.t)=true)) (λiv _=>kn-(intOf iv).toNat)
     case atStart=>exact⟨0,awJ _,rfl,Ev.refl _,zq rfl⟩
     case round=>
      obtain⟨q,hq,rfl,hE,NC⟩:=hrel;have jy:=zq ((HE.out.trans Qg.out).trans hE);obtain⟨⟨c0,c1,c2,c3⟩,_⟩:=(HX.out.ev (Qg.out.trans hE)).four;by_cases hlt:q<kn
      ·obtain⟨x,hx⟩:=Oy.out.at hlt;obtain⟨b,off,rfl,hbl,e0,e1,e2,e3⟩:=Es.cell (Oy.out.ev jy.out) hx;unfold M.kv at e3;have RH:=awG hx;have hxf:x.t.every dh=true:=by exact aBR
       have PG:x.t.size<=100000:=by exact aA1
       have HI:=λw1 (hE:Ev w w1)=>lM.out x b0 w1 (by have:=M.jY RH;have:=HD.out;omega) ((HL.out.kid x RH).ev hE) hxf PG;have jP:Hid (((m.kids.take (q+1)).all λx=>dX x.t)=dX x.t):=zq (by
        obtain⟨hk2,e⟩:=awz.1 hx;rw[awH hk2,axJ,NC.out,e];simp)
       have HXM:=zq RH;have j1:(0:Int)<=(q:Int):=ae;have j2:(q:Int)<(kn:Int):=ae;clear hx RH hxf PG;generalize hxr:dX x.t=xr at*;have HXR:=zq hxr;have HI:=zq HI;clear hxr
       cases xr with
       | true=>
        go_wp2_with (first|((with_reducible refine(HI.out _ jy.out).mono ?_);rintro r w9 ⟨rfl,hE9⟩))
        go_roundw
        case rel=>exact⟨q+1,ae,by go_num,hE.trans hE9,jP⟩
        case measure=>simp[intOf];omega
       | false=>
        have HKF:Hid (R=false):=zq (by
         rw[HK.out,List.all_eq_false];exact⟨x,HXM.out,by rw[HXR.out];decide⟩)
        go_wp2_with (first|((with_reducible refine(HI.out _ jy.out).mono ?_);rintro r w9 ⟨rfl,hE9⟩))
        go_ret;exact⟨by rw[HKF.out];rfl,jy.out.trans hE9⟩
      have ND:q=kn:=ae;have j2:¬((q:Int)<(kn:Int)):=ae;have HKT:Hid (R=true):=zq (by
       have:=NC.out;rw[ND,mg.out,axk]at this;rw[HK.out,this])
      clear ND;go_wp2;go_ret;exact⟨by rw[HKT.out];rfl,jy.out⟩
    have hqb:(kn==t)=false:=awy.2 hq;have hqi:((kn:Int) !=(t:Int))=true:=by simp;omega
    rw[hqb]at dK;exact azF
   have h0b:(m.n==0)=false:=awy.2 h0;have h0n:(m.n !=0)=true:=by simp[h0]
   rw[h0b]at dK;have HK:Hid (R=false):=zq (by
    rw[dK]
    cases (t==0)<;>rfl)
   clear dK;exact aAk
  have k4':(m.kind==4)=false:=awy.2 k4;unfold iy at dK;rw[k1',k2',k3',k4']at dK;exact aAZ
end Go.Proofs.YtpbfokkocaemlaaGreatDoor
