import Derived.Test.YtpbfokkocaemlaaGreatDoorZ17S
set_option linter.unusedVariables false
set_option maxRecDepth 100000
set_option maxHeartbeats 64000000
namespace Go.Proofs.YtpbfokkocaemlaaGreatDoor
open Go.RowKit
open Go.Lib renaming hid → zq
theorem Tryz.dX:(Tryz.prog.info? 47).map (·.size)=some 4:=by kernel_rfl
def Ap (R:CG) (w:World) (e:Ending) (w':World):Prop:=
 ∃x:M,e=.returned (.tuple #[.agg #[.int .i64 x.kind,.string ⟨x.s.toArray⟩,.int .i64 x.n,.slice x.A x.kids.length x.cap],.int .i64 R.2.1,.int .i64 (R.2.2:Int)])∧x.t=R.1∧Lx w.heap.size [] w' x∧Ev w w'
structure Ep (w1:World) (ge:Nat) (S:By) (A:Option Addr) (n cap:Nat) (L:List M) (w:World):Prop where
 box:Bx 47 ge #[.int .i64 4,.string ⟨S.toArray⟩,.int .i64 0,.slice A n cap] w
 own:Ow 47 4 ec (ge+1) w (.slice A n cap) L
 len:L.length=n
 lies:∀x∈L,Lx (ge+1) (foot (.slice A n cap)) w x
 ev:Ev w1 w
 FC:w1.heap.size≤ge
theorem Ep.init (w1:World) (S:By):Ep w1 w1.heap.size S none 0 0 [] (w1.alloc (.cells #[.int .i64 4,.string ⟨S.toArray⟩,.int .i64 0,.slice none 0 0] 47)):=
 ⟨Bx.new _ _ w1,Ow.nil_ _,rfl,(fun x hx=>by cases hx),Ev.alloc _ _,att _⟩
theorem ayc {P:Prop} (h:P:=by rcases hs k (aB.1 hk) with h1|h1;exact .inl (aB.2 h1);exact .inr (.inr h1)):P:=h
theorem ayf {P:Prop} (h:P:=by rcases atA.1 hk with rfl|h1;exact .inr (.inl (by omega));exact .inl h1):P:=h
theorem Ep.next {w1 wr wq w2:World} {ge n cap:Nat} {S:By} {A:Option Addr} {L:List M} {x:M} {v2:Value} (h:Ep w1 ge S A n cap L wr) (hE:Ev wr wq) (hx:Lx wr.heap.size [] wq x) (hA:mW 47 4 ec (ge+1) wq (.slice A n cap) (L++[x]) v2 w2):
  ∃A2 cap2,v2=.slice A2 (n+1) cap2∧Ep w1 ge S A2 (n+1) cap2 (L++[x]) (w2.setCell ⟨ge,3,none⟩ v2):=by
 obtain⟨ho,hb,hs⟩:=hA;obtain⟨A2,cap2,rfl,oZ,wQ⟩:=ho.form wM;have hl:(L++[x]).length=n+1:=by rw[atv,h.len];rfl
 rw[hl]at ho hs oZ wQ⊢;have Ot:=h.box.lt;have hK:ge∉foot (.slice A n cap):=fun hm=>by have:=(h.own.lt (aB.1 hm)).1;omega
 have hK2:∀g,(Value.slice A2 (n+1) cap2).ownBlock=some g→ge+1≤g:=fun g hg=>(ho.lt hg).1;have hB2:Bx 47 ge #[.int .i64 4,.string ⟨S.toArray⟩,.int .i64 0,.slice A n cap] w2:=(h.box.ev hE).but hb hK;have Gw:But [ge] w2 (w2.setCell ⟨ge,3,none⟩ (.slice A2 (n+1) cap2)):=But.setCell _ _ (by simp);refine⟨A2,cap2,rfl,?_,?_,hl,fun y hy=>?_,?_,h.FC⟩;have:=hB2.set 3 (.slice A2 (n+1) cap2);simpa using this;exact ho.but Gw fun g hg=>by have:=hK2 g hg;simp;omega
 have hy2:Lx (ge+1) (foot (.slice A n cap)) wq y:=by rcases atK.1 hy with h1|h1;exact (h.lies y h1).ev hE;simp at h1;subst h1;refine (hx.less fun k hk=>.inr (.inl ?_)).low (by omega);exact (h.own.lt (aB.1 hk)).2
 have hy3:Lx (ge+1) (foot (.slice A2 (n+1) cap2)) w2 y:=hy2.move hb fun k hk=>by exact ayc
 have hy4:Lx (ge+1) (ge::foot (.slice A2 (n+1) cap2)) w2 y:=hy3.less fun k hk=>by exact ayf
 exact hy4.move (Gw.wide fun k hk=>by simp at hk;subst hk;exact .inl (by simp)) fun k hk=>.inl (aty _ hk);have h1:Ev w1 w2:=((But.aS (h.ev.trans hE)).then hb).ev fun k hk=>by have:=(h.own.lt (aB.1 hk)).1;have:=h.FC;omega
 exact h1.box Gw h.FC
theorem Ep.after {w1 wr wq w2:World} {ge n cap:Nat} {S:By} {A:Option Addr} {L:List M} {L':List M} {v2:Value} (h:Ep w1 ge S A n cap L wr) (hE:Ev wr wq) (hA:mW 47 4 ec (ge+1) wq (.slice A n cap) L' v2 w2):
  Bx 47 ge #[.int .i64 4,.string ⟨S.toArray⟩,.int .i64 0,.slice A n cap] w2:=
 (h.box.ev hE).but hA.2.1 fun hm=>by have:=(h.own.lt (aB.1 hm)).1;omega
theorem Ep.done {w1 w:World} {ge n cap:Nat} {S:By} {A:Option Addr} {L:List M} (h:Ep w1 ge S A n cap L w) {b0:Nat} (hb:b0≤ge):Lx b0 [] w (.mk 4 S 0 A cap L 0)∧n=L.length:=by
 obtain⟨A2,cap2,hv,oZ,wQ⟩:=h.own.form wM;injection hv with h1 h2 h3
 subst h1;subst h3;refine⟨.mk oZ (fun ad e=>⟨by have:=(wQ ad e).2.1;omega,(wQ ad e).2.2.1,by simp⟩) fun k hk=>((h.lies k hk).less fun x hx=>by cases hx).low (by omega),h2⟩
theorem iy:∀{l:List Nat} {x:Nat},x∈l→x≤l.sum
 | [],x,h=>by cases h
 | y::l,x,h=>by rcases atA.1 h with rfl|h;simp;have:=iy h;simp;omega
theorem xRead_eq (m:M):xRead m.t=if m.kind==2 then (if jh m.s then (.mk 1 m.s 0 [] 0,0,0) else jH 20 m.pos)
  else if m.kind==3 then (.mk 2 [] m.n [] 0,0,0)
  else if m.kind==4 then (.mk 3 m.s 0 [] 0,0,0)
  else if m.kind==1 then
   (match m.kids with
    | []=>jH 12 m.pos
    | h::q=>if h.kind==2&&!(bC h.s==0) then
      (if q.length==bC h.s then xReads h.s [] (q.map fun x=>xRead x.t) else jH 23 m.pos) else jH 12 m.pos)
  else jH 12 m.pos:=by
 cases hk:m.kids with
 | nil=>
  rw[M.qO,hk];rfl
 | cons h q=>
  rw[M.qO,hk];simp only[atx,xRead,M.vW,M.tu,atq,sF,atI];rfl
theorem axN {P:Prop} (h:P:=by rw[T.fQ,atu]at hfair;have:=hfair.1;unfold bZ at this;simp only[atu,decide_eq_true_iff,M.tu]at this;exact this.2):P:=h
theorem awo {P:Prop} (h:P:=by (try simp only[Exit.inBlock,Exit.then]);rw[dF];refine bodyPost_ret (aF rfl _ _ _ _ _ rfl (B1.jM _ _ _ _) Tryz.underlying47 rfl Tryz.dX) rfl ?_;exact⟨(.mk 1 m.s 0 none 0 [] 0),by rw[HK.out];rfl,by rw[HK.out];simp[M.t,M.ts],Lx.leaf,E1.box (dW _ _ _ _ _ _) (by omega)⟩):P:=h
theorem awg {P:Prop} (h:P:=by go_wp2;(try simp only[Exit.inBlock,Exit.then]);rw[dF];refine bodyPost_ret (aF rfl _ _ _ _ _ rfl (HB.out.jM _ _ _ _) Tryz.underlying47 rfl Tryz.dX) rfl ?_;exact⟨(.mk 2 [] m.n none 0 [] 0),by rw[HK.out];rfl,by rw[HK.out];simp[M.t,M.ts],Lx.leaf,HE.out.box (dW _ _ _ _ _ _) (by omega)⟩):P:=h
theorem awh {P:Prop} (h:P:=by go_wp2;(try simp only[Exit.inBlock,Exit.then]);rw[dF];refine bodyPost_ret (aF rfl _ _ _ _ _ rfl (HB.out.jM _ _ _ _) Tryz.underlying47 rfl Tryz.dX) rfl ?_;exact⟨(.mk 3 m.s 0 none 0 [] 0),by rw[HK.out];rfl,by rw[HK.out];simp[M.t,M.ts],Lx.leaf,HE.out.box (dW _ _ _ _ _ _) (by omega)⟩):P:=h
theorem av8 {P:Prop} (h:P:=by
 go_region
 all_goals (
  go_wp2;(try simp only[Exit.inBlock,Exit.then]);rw[dF];refine bodyPost_ret (aF rfl _ _ _ _ _ rfl ((HB.out.ev (Ev.drew w0)).jM _ _ _ _) Tryz.underlying47 rfl Tryz.dX) rfl ?_;exact⟨iK,by rw[HK.out];rfl,by rw[HK.out];rfl,Lx.leaf,(HE.out.trans (Ev.drew w0)).box (dW _ _ _ _ _ _) (by omega)⟩
  )):P:=h
theorem avS {P:Prop} (h:P:=by have HK:Hid (R=jH 12 m.pos):=zq dG;clear dG;go_enter Tryz.func81,Tryz.ntmps81;go_wp2;exact av8):P:=h
theorem ax4 {P:Prop} (h:P:=by have h5:=IE.out;rw[T.fQ,atu]at h5;exact atL.1 h5.2 x.t (by rw[M.aY];exact atV.2 ⟨x,PV,rfl⟩)):P:=h
theorem axm {P:Prop} (h:P:=by have h5:=T.size_eq m.t;rw[M.aY,atI]at h5;have h6:=iy (atV.2 ⟨x,PV,rfl⟩:x.t.size∈m.kids.map (T.size ∘ M.t));have:=yH.out;omega):P:=h
theorem awG {P:Prop} (h:P:=by (try simp only[Exit.inBlock,Exit.then]);rw[dF];refine bodyPost_ret (aF rfl _ _ _ _ _ rfl (B1.jM _ _ _ _) Tryz.underlying47 rfl Tryz.dX) rfl ?_;exact⟨iK,by rw[tZ.out];rfl,by rw[tZ.out];rfl,Lx.leaf,E1.box (dW _ _ _ _ _ _) (by omega)⟩):P:=h
theorem VF (N:Nat):∀(m:M) (b0:Nat) (w:World),m.dep≤N→Lies b0 [] w m→m.t.every bZ=true→m.t.size≤100000→Calls Tryz.prog 81 #[mv m] w (Ap (xRead m.t) w):=by
 induction N with
 | zero=>
  intro m b0 w hd;rw[M.mX]at hd;omega
 | succ N ih=>
  intro m b0 w hd hL hfair hsz;have ou:m.kids.length≤100000:=by have h1:=T.size_eq m.t;have h2:=jA m.t.kids;rw[M.aY,atq]at h2;rw[M.aY]at h1;omega
  have yH:=zq hsz;have dG:=xRead_eq m;have fA:=hL.ms;have lS:=zq ih;have HL:=zq hL;have HD:=zq hd;have IE:=zq hfair;have Gs:m.s.length≤100000:=by exact axN
  obtain⟨R,hR⟩:∃R,R=xRead m.t:=⟨_,rfl⟩
  rw[←hR]at dG⊢;obtain⟨kn,hkn⟩:∃kn,kn=m.kids.length:=⟨_,rfl⟩
  unfold mv M.kv;rw[←hkn]at fA ou⊢;have lJ:=zq hkn;generalize Yj:m.A=mA at*;generalize hmc:m.cap=jP at*;have CE:=zq fA;have aT:=(Ev.alloc w (.cells #[.int .i64 m.kind,.string ⟨m.s.toArray⟩,.int .i64 m.n,.slice mA kn jP,.int .i64 (m.pos:Int)] 79)).trans (Ev.alloc _ (.cells #[.int .i64 0,.string ⟨#[]⟩,.int .i64 0,.slice none 0 0] 47));have hX:=(Bx.new 79 #[.int .i64 m.kind,.string ⟨m.s.toArray⟩,.int .i64 m.n,.slice mA kn jP,.int .i64 (m.pos:Int)] w).ev (Ev.alloc _ (.cells #[.int .i64 0,.string ⟨#[]⟩,.int .i64 0,.slice none 0 0] 47));have hB:Bx 47 (w.heap.size+1) #[.int .i64 0,.string ⟨#[]⟩,.int .i64 0,.slice none 0 0] ((w.alloc (.cells #[.int .i64 m.kind,.string ⟨m.s.toArray⟩,.int .i64 m.n,.slice mA kn jP,.int .i64 (m.pos:Int)] 79)).alloc (.cells #[.int .i64 0,.string ⟨#[]⟩,.int .i64 0,.slice none 0 0] 47)):=by have:=Bx.new 47 #[.int .i64 0,.string ⟨#[]⟩,.int .i64 0,.slice none 0 0] (w.alloc (.cells #[.int .i64 m.kind,.string ⟨m.s.toArray⟩,.int .i64 m.n,.slice mA kn jP,.int .i64 (m.pos:Int)] 79));simpa using this
  obtain⟨w0,hw0⟩:∃w0,(w.alloc (.cells #[.int .i64 m.kind,.string ⟨m.s.toArray⟩,.int .i64 m.n,.slice mA kn jP,.int .i64 (m.pos:Int)] 79)).alloc (.cells #[.int .i64 0,.string ⟨#[]⟩,.int .i64 0,.slice none 0 0] 47)=w0:=⟨_,rfl⟩
  rw[hw0]at aT hX hB;have HE:=zq aT;have HX:=zq hX;have HB:=zq hB;obtain⟨⟨c0,c1,c2,c3,c4⟩,_⟩:=hX.five;obtain⟨⟨xO,xP,xQ,KL⟩,KN,KO,KP,KQ⟩:=hB.four;clear ih hL hd hfair hkn aT hX hB hR Yj hmc fA;by_cases k2:m.kind=2
  ·rw[k2]at dG hw0 c0⊢;simp only[auc,if_true]at dG;have HN:=fun w1=>Eo (dh m.s) w1 (by unfold maxLen;show m.s.toArray.size≤_;simp;omega);unfold dh at HN;rw[show jh m.s=fM ⟨m.s.toArray⟩ from rfl]at dG
   cases hn:fM ⟨m.s.toArray⟩ with
   | false=>
    rw[hn]at dG HN;simp only[atE,if_false]at dG;have HK:=zq dG;have HN:=zq HN;clear dG;go_enter Tryz.func81,Tryz.ntmps81
    go_wp2_with (first|((with_reducible refine (HN.out _).mono ?_);rintro e w1 ⟨rfl,aH⟩;have E1:=HE.out.trans (aH.trans (Ev.drew w1));have B1:=HB.out.ev (aH.trans (Ev.drew w1));obtain⟨⟨c0,c1,c2,c3,c4⟩,_⟩:=(HX.out.ev aH).five;obtain⟨⟨xO,xP,xQ,KL⟩,KN,KO,KP,KQ⟩:=(HB.out.ev aH).four))
    go_region
    all_goals (
     go_wp2;(try simp only[Exit.inBlock,Exit.then]);rw[dF];refine bodyPost_ret (aF rfl _ _ _ _ _ rfl (B1.jM _ _ _ _) Tryz.underlying47 rfl Tryz.dX) rfl ?_;exact⟨iK,by rw[HK.out];rfl,by rw[HK.out];rfl,Lx.leaf,E1.box (dW _ _ _ _ _ _) (by omega)⟩
     )
   | true=>
    rw[hn]at dG HN;simp only[if_true]at dG;have HK:=zq dG;have HN:=zq HN;clear dG;go_enter Tryz.func81,Tryz.ntmps81
    go_wp2_with (first|((with_reducible refine (HN.out _).mono ?_);rintro e w1 ⟨rfl,aH⟩;have E1:=HE.out.trans aH;have B1:=HB.out.ev aH;obtain⟨⟨c0,c1,c2,c3,c4⟩,_⟩:=(HX.out.ev aH).five;obtain⟨⟨xO,xP,xQ,KL⟩,KN,KO,KP,KQ⟩:=(HB.out.ev aH).four))
    exact awo
  have k2':(m.kind==2)=false:=atp.2 k2;rw[k2']at dG;by_cases k3:m.kind=3
  ·rw[k3]at dG hw0 c0⊢;have HK:Hid (R=(.mk 2 [] m.n [] 0,0,0)):=zq dG;clear dG;go_enter Tryz.func81,Tryz.ntmps81;exact awg
  have Yh:(m.kind==3)=false:=atp.2 k3;rw[Yh]at dG;by_cases k4:m.kind=4
  ·rw[k4]at dG hw0 c0⊢;have HK:Hid (R=(.mk 3 m.s 0 [] 0,0,0)):=zq dG;clear dG;go_enter Tryz.func81,Tryz.ntmps81;exact awh
  have k4':(m.kind==4)=false:=atp.2 k4;rw[k4']at dG;by_cases k1:m.kind=1
  ·rw[k1]at dG hw0 c0⊢;have Qy:=HX.out;rw[k1]at Qy;have Qy:=zq Qy;have apd:kn≤100000:=ou
   cases hk:m.kids with
   | nil=>
    obtain rfl:kn=0:=by rw[lJ.out,hk];rfl
    rw[hk]at dG;exact avS
   | cons hm1 q=>
    have Y4:kn=q.length+1:=by rw[lJ.out,hk];rfl
    rw[hk]at dG;obtain⟨b,off,rfl,hb,h0,h1,_,_,_⟩:=CE.out.cell (i:=0) (x:=hm1) (by rw[hk];rfl);simp only[aud,atW]at h0 h1;have HH:Hid (∀w1,Ev w w1→w1.cell? ⟨b,off,none⟩=some (.int .i64 hm1.kind)∧w1.cell? ⟨b,off+1,none⟩=some (.string ⟨hm1.s.toArray⟩)):=zq fun w1 hE=>⟨(hE.cell (p:=⟨_,_,none⟩) hb).trans h0,(hE.cell (p:=⟨_,_,none⟩) hb).trans h1⟩
    clear h0 h1;obtain⟨h0,h1⟩:=HH.out _ HE.out;have i0:¬((kn:Int)=0):=by omega
    have i0':((kn:Int)==0)=false:=atp.2 i0;have i1:(0:Int)<(kn:Int):=by omega
    have HKQ:=zq Y4;have Y5:=zq hk;clear Y4 hk;by_cases hh:hm1.kind=2
    ·have hhb:(hm1.kind==2)=true:=atH.2 hh;have hhn:(hm1.kind !=2)=false:=by simp[hh]
     have HT:=fun w1=>Qu hm1.s w1;unfold dh at HT;obtain⟨t,ht⟩:∃t,t=bC hm1.s:=⟨_,rfl⟩
     simp only[hhb,auA,auc,if_true,atE,if_false]at dG;rw[←ht]at HT dG;have HT:=zq HT;clear hh ht
     cases t with
     | zero=>
      have HK:Hid (R=jH 12 m.pos):=zq dG;clear dG;go_enter Tryz.func81,Tryz.ntmps81
      go_wp2_with (first|((with_reducible refine (HT.out _).mono ?_);rintro e w1 ⟨rfl,rfl⟩))
      exact av8
     | succ t=>
      rw[if_pos (by rfl)]at dG;have Yk:=HT.out;rw[show ((t+1:Nat):Int)=(t:Int)+1 by omega]at Yk;clear HT;have HT:=zq Yk;clear Yk;have e1n:¬((t:Int)+1=0):=by omega
      have e1b:(((t:Int)+1)==0)=false:=atp.2 e1n;by_cases hq:q.length=t+1
      ·rw[if_pos (by simp[hq])]at dG;have HK:=zq dG;have VG:(kn:Int) - 1=(t:Int)+1:=by have:=HKQ.out;omega
       have agB:kn=t+2:=by have:=HKQ.out;omega
       have HKT:=zq agB;have aee:(((kn:Int) - 1)==((t:Int)+1))=true:=atH.2 VG;have aef:(((kn:Int) - 1) !=((t:Int)+1))=false:=by simp;exact VG
       clear dG agB VG hq;go_enter Tryz.func81,Tryz.ntmps81
       go_wp2_with (first|((with_reducible refine (HT.out _).mono ?_);rintro e w1 ⟨rfl,rfl⟩))
       go_quiet (first|(go_at_call 124;exact Calls.quiet_of_same ((HT.out _).mono fun _ _ hm1=>⟨hm1.1,hm1.2.symm⟩)))
       generalize yE:World.drewN w0 _=wA;have Y6:Ev w0 wA:=yE▸Ev.drewN w0 _;have Ou:=zq (HE.out.trans Y6);have abL:=zq Y6;have HI0:=zq (Ep.init wA hm1.s);clear yE Y6 c0 c1 c2 c3 c4 h0 h1;obtain⟨⟨c0,c1,c2,c3,c4⟩,_⟩:=(Qy.out.ev abL.out).five;obtain⟨h0,h1⟩:=HH.out _ Ou.out;go_wp2
       go_loopw [6] (fun iv wr=>∃(A:Option Addr) (n cap j:Nat) (L:List M),iv=.int .i64 ((j+1:Nat):Int)∧j+1≤kn∧Hid (n=j)∧Hid (Ep wA wA.heap.size hm1.s A n cap L wr)∧Hid (R=xReads hm1.s (L.map M.t) ((q.drop j).map fun x=>xRead x.t))) (fun iv _=>kn - (intOf iv).toNat)
       case atStart=>exact⟨none,0,0,0,[],rfl,by have:=HKT.out;omega,zq rfl,HI0,HK⟩
       case round=>
        obtain⟨A,n,cap,j,L,rfl,hj,HN,HS,HR⟩:=hrel;have nG:=zq (Ou.out.trans HS.out.ev);have Et:=zq (abL.out.trans HS.out.ev);obtain⟨⟨c0,c1,c2,c3,c4⟩,_⟩:=(Qy.out.ev Et.out).five;obtain⟨⟨xO,xP,xQ,KL⟩,KN,KO,KP,KQ⟩:=(HB.out.ev Et.out).four;obtain⟨⟨d0,d1,d2,d3⟩,r0,r1,r2,r3⟩:=HS.out.box.four;by_cases hlt:j+1<kn
        ·obtain⟨x,hx⟩:∃x,q[j]?=some x:=⟨_,atN (by have:=HKQ.out;omega)⟩
         have iF:m.kids[j+1]?=some x:=by rw[Y5.out];simpa using hx
         obtain⟨b',off',he,_,x0,x1,x2,x3,x4⟩:=Ms.cell (CE.out.ev nG.out) iF;injection he with he
         injection he with he1 IG _
         subst he1;subst IG;have hdj:q.drop j=x::q.drop (j+1):=by obtain⟨hj',e⟩:=atr.1 hx;rw[auu hj',e]
         have lX:=HR.out;rw[hdj,atx]at lX;unfold xReads at lX;have PV:=atw iF;have hxf:x.t.every bZ=true:=by exact ax4
         have SK:x.t.size≤100000:=by exact axm
         have HI:=fun w1 (hE:Ev w w1)=>lS.out x b0 w1 (by have:=M.lF PV;have:=HD.out;omega) ((HL.out.kid x PV).ev hE) hxf SK;unfold mv M.kv Ap at HI;unfold M.kv at x3;generalize xRead x.t=rx at*;obtain⟨rt,ry,rp⟩:=rx;simp only at lX HI;have HI:=zq HI;have uT:=HN.out;subst uT;have hnb:n≤200000:=by omega
         have uS:=zq HS.out.len;have i2:((n:Int)+1)<(kn:Int):=by omega
         have i3:(0:Int)≤(n:Int)+1:=by omega
         clear hx iF hdj PV hxf SK HN;by_cases hw:ry=0
         ·subst hw;rw[if_pos (by rfl)]at lX;have tZ:=zq lX;clear lX
          go_wp2_with (first
           | ((with_reducible refine (HI.out _ nG.out).mono ?_);rintro e w1 ⟨x',rfl,jg,iq,aH⟩;have oW:=zq jg;have pz:=zq iq;have E1:=zq aH;obtain⟨⟨d0,d1,d2,d3⟩,r0,r1,r2,r3⟩:=(HS.out.box.ev (aH.trans (Ev.alloc w1 (.cells #[.int .i64 x'.kind,.string ⟨x'.s.toArray⟩,.int .i64 x'.n,.slice x'.A x'.kids.length x'.cap] 47)))).four;clear jg iq)
           | ((show wpList _ _ _ (⟨some 109,_,_,_,_,_⟩::_) _ _);refine aK (o:=⟨some 109,_,_,_,_,_⟩) rfl 28 (.tmp 106) (.tmp 108) rfl wM Tryz.underlying28 Tryz.yM rfl rfl (HS.out.own.ev (E1.out.trans ((Ev.alloc w1 _).trans (Ev.alloc _ _)))) (some ⟨w1.heap.size+1,0,none⟩) 1 1 [x'] rfl (by have:=Sl.one (et:=47) wM (w1.alloc (.cells #[.int .i64 x'.kind,.string ⟨x'.s.toArray⟩,.int .i64 x'.n,.slice x'.A x'.kids.length x'.cap] 47)) x' #[.int .i64 x'.kind,.string ⟨x'.s.toArray⟩,.int .i64 x'.n,.slice x'.A x'.kids.length x'.cap] rfl;simpa using this) (by rw[uS.out];simp;omega) (by rw[uS.out];simp;omega) (by have h7:=HS.out.box.lt;have h8:=(E1.out.trans ((Ev.alloc w1 (.cells #[.int .i64 x'.kind,.string ⟨x'.s.toArray⟩,.int .i64 x'.n,.slice x'.A x'.kids.length x'.cap] 47)).trans (Ev.alloc _ (.cells #[.int .i64 x'.kind,.string ⟨x'.s.toArray⟩,.int .i64 x'.n,.slice x'.A x'.kids.length x'.cap] 47)))).size;omega) ?_;intro v2 w2 gz;obtain⟨⟨d0,d1,d2,d3⟩,r0,r1,r2,r3⟩:=(HS.out.after (E1.out.trans ((Ev.alloc w1 _).trans (Ev.alloc _ _))) gz).four;obtain⟨A2,cap2,rfl,ST2⟩:=HS.out.next (E1.out.trans ((Ev.alloc w1 _).trans (Ev.alloc _ _))) (pz.out.ev ((Ev.alloc w1 _).trans (Ev.alloc _ _))) gz))
          go_roundw
          case rel=>exact⟨A2,n+1,cap2,n+1,L++[x'],by go_num,by omega,zq rfl,zq ST2,zq (by rw[tZ.out,atB,atx,atQ,oW.out])⟩
          case measure=>simp[intOf];omega
         have Le:(ry==0)=false:=atp.2 hw;have hwn:(ry !=0)=true:=by simp[hw]
         rw[Le]at lX;simp only[atE,if_false]at lX;have tZ:=zq lX;clear lX
         go_wp2_with (first
          | ((with_reducible refine (HI.out _ nG.out).mono ?_);rintro e w1 ⟨x',rfl,jg,iq,aH⟩;have E1:=nG.out.trans (aH.trans (Ev.alloc w1 (.cells #[.int .i64 x'.kind,.string ⟨x'.s.toArray⟩,.int .i64 x'.n,.slice x'.A x'.kids.length x'.cap] 47)));have B1:=HB.out.ev (Et.out.trans (aH.trans (Ev.alloc w1 (.cells #[.int .i64 x'.kind,.string ⟨x'.s.toArray⟩,.int .i64 x'.n,.slice x'.A x'.kids.length x'.cap] 47))));obtain⟨⟨xO,xP,xQ,KL⟩,KN,KO,KP,KQ⟩:=B1.four))
         exact awG
        have hjk:j+1=kn:=by omega
        have i2:¬((j:Int)+1<(kn:Int)):=by omega
        have lX:=HR.out;rw[auh (by have:=HKQ.out;omega)]at lX;simp only[atQ,xReads]at lX;have tZ:=zq lX;obtain⟨hlx,hnl⟩:=HS.out.done (b0:=w.heap.size) (atP Ou.out.size (att _));have hlg:=(HS.out.done (b0:=wA.heap.size) (att _)).1;have Y7:=zq (hlg.less (K':=[w.heap.size+1]) fun k hk=>by simp at hk;subst hk;exact .inr (.inl (by have h5:=abL.out.size;have h6:=HB.out.lt;omega)));clear hlg;have iQ:=zq hnl;have aj9:w.heap.size+1<wA.heap.size:=by have h5:=abL.out.size;have h6:=HB.out.lt;omega
        clear lX hjk hlx hnl;go_wp2;(try simp only[Exit.inBlock,Exit.then]);rw[dF];refine bodyPost_ret (aF rfl _ _ _ _ _ rfl ((HB.out.ev Et.out).jM _ _ _ _) Tryz.underlying47 rfl Tryz.dX) rfl ?_;refine⟨.mk 4 hm1.s 0 A cap L 0,by rw[tZ.out];simp only[M.kids];rw[←iQ.out];rfl,by rw[tZ.out];simp[M.t,M.ji],?_,nG.out.box (dW _ _ _ _ _ _) (by omega)⟩;exact (Y7.out.move (dW _ _ _ _ _ _) fun k hk=>by cases hk).low (by omega)
      rw[if_neg (by simp;exact hq)]at dG;have HK:Hid (R=jH 23 m.pos):=zq dG;have VG:¬((kn:Int) - 1=(t:Int)+1):=by have:=HKQ.out;omega
      have aee:(((kn:Int) - 1)==((t:Int)+1))=false:=atp.2 VG;have aef:(((kn:Int) - 1) !=((t:Int)+1))=true:=by simp;exact VG
      clear dG;go_enter Tryz.func81,Tryz.ntmps81
      go_wp2_with (first|((with_reducible refine (HT.out _).mono ?_);rintro e w1 ⟨rfl,rfl⟩))
      go_quiet (first|(go_at_call 124;exact Calls.quiet_of_same ((HT.out _).mono fun _ _ hm1=>⟨hm1.1,hm1.2.symm⟩)))
      go_wp2
      go_region
      all_goals (
       go_wp2;(try simp only[Exit.inBlock,Exit.then]);rw[dF];refine bodyPost_ret (aF rfl _ _ _ _ _ rfl ((HB.out.ev ((Ev.drewN w0 _).trans (Ev.drew _))).jM _ _ _ _) Tryz.underlying47 rfl Tryz.dX) rfl ?_;exact⟨iK,by rw[HK.out];rfl,by rw[HK.out];rfl,Lx.leaf,(HE.out.trans ((Ev.drewN w0 _).trans (Ev.drew _))).box (dW _ _ _ _ _ _) (by omega)⟩
       )
    have hhb:(hm1.kind==2)=false:=atp.2 hh;have hhn:(hm1.kind !=2)=true:=by simp[hh]
    simp only[hhb,aum,atE,if_false,auc,if_true]at dG;exact avS
  have k1':(m.kind==1)=false:=atp.2 k1;have k1n:(m.kind !=1)=true:=by simp[k1]
  rw[k1']at dG;exact avS
theorem Zm (m:M):dK m.t=(!gK m.kind m.s m.n m.kids.length&&m.kids.all fun x=>dK x.t):=by
 have h:dK m.t=(!kT m.t&&qJ (m.kids.map M.t)):=by rw[M.qO,dK]
 rw[h,Bg,u_,auI];rfl
def VK (N:Nat):Prop:=∀(m:M) (b0:Nat) (w:World),m.dep≤N→Lx b0 [] w m→m.t.every bZ=true→m.t.size≤100000→
 Calls Tryz.prog 90 #[.agg #[.int .i64 m.kind,.string ⟨m.s.toArray⟩,.int .i64 m.n,.slice m.A m.kids.length m.cap]] w fun e w'=>e=.returned (.bool (dK m.t))∧Ev w w'
theorem awL {P:Prop} (h:P:=by
 go_enter Tryz.func90,Tryz.ntmps90
 go_wp2_with (first|((with_reducible refine (HN.out _).mono ?_);rintro e w1 ⟨rfl,aH⟩;obtain⟨⟨c0,c1,c2,c3⟩,_⟩:=(HX.out.ev aH).four))
 go_ret;exact⟨by rw[HK.out];rfl,HE.out.trans aH⟩):P:=h
theorem ayb {P:Prop} (h:P:=by go_enter Tryz.func90,Tryz.ntmps90;go_wp2;go_ret;exact⟨by rw[HK.out];rfl,HE.out⟩):P:=h
theorem axl {P:Prop} (h:P:=by have HK:Hid (R=false):=zq (by rw[dG];rfl);clear dG;exact ayb):P:=h
theorem awK {P:Prop} (h:P:=by
 go_enter Tryz.func90,Tryz.ntmps90
 go_wp2_with fail
 go_quiet (first|(go_at_call 124;exact Calls.quiet_of_same ((HT.out _).mono fun _ _ h=>⟨h.1,h.2.symm⟩)))
 go_wp2;go_ret;exact⟨by rw[HK.out];rfl,HE.out.trans (Ev.drewN _ _)⟩):P:=h
theorem awi {P:Prop} (h:P:=by have HK:Hid (R=false):=zq (by rw[dG];rfl);clear dG h0;exact awK):P:=h
theorem Zn (N:Nat):VK N:=by
 induction N with
 | zero=>
  intro m b0 w hd;rw[M.mX]at hd;omega
 | succ N ih=>
  intro m b0 w hd hL hfair hsz;have dG:=Zm m;have Gs:m.s.length≤100000:=by exact axN
  unfold VK at ih;have lS:=zq ih;have HL:=zq hL;have HD:=zq hd;have IE:=zq hfair;have yH:=zq hsz;have hes:=hL.es;obtain⟨R,hR⟩:∃R,R=dK m.t:=⟨_,rfl⟩
  rw[←hR]at dG⊢;obtain⟨kn,hkn⟩:∃kn,kn=m.kids.length:=⟨_,rfl⟩
  rw[←hkn]at hes dG⊢;have lJ:=zq hkn;generalize Yj:m.A=mA at*;generalize hmc:m.cap=jP at*;have hcm:=hes.max;have hcl:=hes.le;have Qv:=zq hes;have aT:=Ev.alloc w (.cells #[.int .i64 m.kind,.string ⟨m.s.toArray⟩,.int .i64 m.n,.slice mA kn jP] 47);have hX:=Bx.new 47 #[.int .i64 m.kind,.string ⟨m.s.toArray⟩,.int .i64 m.n,.slice mA kn jP] w;obtain⟨w0,hw0⟩:∃w0,w.alloc (.cells #[.int .i64 m.kind,.string ⟨m.s.toArray⟩,.int .i64 m.n,.slice mA kn jP] 47)=w0:=⟨_,rfl⟩
  rw[hw0]at aT hX;have HE:=zq aT;have HX:=zq hX;obtain⟨⟨c0,c1,c2,c3⟩,_⟩:=hX.four;clear ih hL hd hfair hsz hkn aT hX hR Yj hmc hes;have aek:Hid (kn=0→(m.kids.all fun x=>dK x.t)=true):=zq fun h=>by have:m.kids=[]:=aup (by rw[←lJ.out];exact h);rw[this];rfl
  by_cases k1:m.kind=1
  ·have k1b:(m.kind==1)=true:=atH.2 k1;unfold gK at dG;rw[k1b]at dG;simp only[if_true]at dG;have HN:=fun w1=>Eo (dh m.s) w1 (by unfold maxLen;show m.s.toArray.size≤_;simp;omega);unfold dh at HN;rw[show jh m.s=fM ⟨m.s.toArray⟩ from rfl]at dG;clear k1
   cases hn:fM ⟨m.s.toArray⟩ with
   | false=>
    rw[hn]at dG HN;have HK:Hid (R=false):=zq (by rw[dG];rfl);have HN:=zq HN;clear dG hn;go_enter Tryz.func90,Tryz.ntmps90
    go_wp2_with (first|((with_reducible refine (HN.out _).mono ?_);rintro e w1 ⟨rfl,aH⟩))
    go_ret;exact⟨by rw[HK.out];rfl,HE.out.trans aH⟩
   | true=>
    rw[hn]at dG HN;have HN:=zq HN;by_cases h0:m.n=0;have Zo:(m.n==0)=true:=atH.2 h0;rw[Zo]at dG;have HK:Hid (R=decide ((kn:Int)=0)):=zq (by
     rw[dG];by_cases hz:kn=0;rw[aek.out hz,hz];rfl;rw[atX (show 0<kn by omega),auj (show ¬(kn:Int)=0 by omega)];rfl)
    clear dG hn h0;exact awL;have Zo:(m.n==0)=false:=atp.2 h0;rw[Zo]at dG;have HK:Hid (R=false):=zq (by rw[dG];rfl);clear dG hn;exact awL
  have k1':(m.kind==1)=false:=atp.2 k1;by_cases k2:m.kind=2;have k2b:(m.kind==2)=true:=atH.2 k2;unfold gK at dG;rw[k1',k2b]at dG;simp only[atE,if_false,if_true]at dG;clear k1 k2;by_cases hs:m.s=[];rw[hs]at dG c1 hw0;have HK:Hid (R=decide ((kn:Int)=0)):=zq (by
   rw[dG];by_cases hz:kn=0;rw[aek.out hz,hz];rfl;rw[atX (show 0<kn by omega),auj (show ¬(kn:Int)=0 by omega)];rfl)
  rw[hs];clear dG hs;exact ayb;have hsb:(!m.s.isEmpty)=true:=by cases hq:m.s with
   | nil=>exact absurd hq hs
   | cons c q=>rfl
  have hsn:m.s.isEmpty=false:=by simpa using hsb
  rw[hsb]at dG;exact axl;have k2':(m.kind==2)=false:=atp.2 k2;by_cases k3:m.kind=3;have k3b:(m.kind==3)=true:=atH.2 k3;unfold gK at dG;rw[k1',k2',k3b]at dG;simp only[atE,if_false,if_true]at dG;clear k1 k2 k3;by_cases h0:m.n=0;have Zo:(m.n==0)=true:=atH.2 h0;rw[Zo]at dG;have HK:Hid (R=decide ((kn:Int)=0)):=zq (by
   rw[dG];by_cases hz:kn=0;rw[aek.out hz,hz];rfl;rw[atX (show 0<kn by omega),auj (show ¬(kn:Int)=0 by omega)];rfl)
  clear dG h0;exact ayb;have Zo:(m.n==0)=false:=atp.2 h0;rw[Zo]at dG;exact axl;have Yh:(m.kind==3)=false:=atp.2 k3;by_cases k4:m.kind=4
  ·have k4b:(m.kind==4)=true:=atH.2 k4;unfold gK at dG;rw[k1',k2',Yh,k4b]at dG;simp only[atE,if_false,if_true]at dG;have HT:=fun w1=>Qu m.s w1;unfold dh at HT;obtain⟨t,ht⟩:∃t,t=bC m.s:=⟨_,rfl⟩
   rw[←ht]at HT dG;have HT:=zq HT;have nX:t≤3:=by rw[ht];unfold bC;split<;>(try split)<;>(try split)<;>omega
   clear k1 k2 k3 k4 ht;by_cases h0:m.n=0
   ·have Zo:(m.n==0)=true:=atH.2 h0;have h0n:(m.n !=0)=false:=by simp[h0]
    rw[Zo]at dG;by_cases hz:t=0;subst hz;exact awi;have z1:¬((t:Int)=0):=by omega
    have z2:((t:Int)==0)=false:=atp.2 z1;have htb:(t==0)=false:=atp.2 hz;rw[htb]at dG;by_cases hq:kn=t
    ·have hqb:(kn==t)=true:=atH.2 hq;have hqi:((kn:Int) !=(t:Int))=false:=by simp;omega
     rw[hqb]at dG;have HK:Hid (R=m.kids.all fun x=>dK x.t):=zq (by rw[dG];rfl);clear dG hq h0 hz;go_enter Tryz.func90,Tryz.ntmps90
     go_wp2_with fail
     go_quiet (first|(go_at_call 124;exact Calls.quiet_of_same ((HT.out _).mono fun _ _ h=>⟨h.1,h.2.symm⟩)))
     generalize yE:World.drewN w0 _=wA;have Ou:=zq (show Ev w0 wA from yE▸Ev.drewN w0 _);clear yE;go_wp2
     go_loopw [3] (fun iv wr=>∃q:Nat,q≤kn∧iv=.int .i64 (q:Int)∧Ev wA wr∧Hid (((m.kids.take q).all fun x=>dK x.t)=true)) (fun iv _=>kn - (intOf iv).toNat)
     case atStart=>exact⟨0,atG _,rfl,Ev.refl _,zq rfl⟩
     case round=>
      obtain⟨q,hq,rfl,hE,LG⟩:=hrel;have nG:=zq ((HE.out.trans Ou.out).trans hE);obtain⟨⟨c0,c1,c2,c3⟩,_⟩:=(HX.out.ev (Ou.out.trans hE)).four;by_cases hlt:q<kn
      ·obtain⟨x,hx⟩:=Qv.out.at hlt;obtain⟨b,off,rfl,hbl,e0,e1,e2,e3⟩:=Es.cell (Qv.out.ev nG.out) hx;unfold M.kv at e3;have PV:=atw hx;have hxf:x.t.every bZ=true:=by exact ax4
       have SK:x.t.size≤100000:=by exact axm
       have HI:=fun w1 (hE:Ev w w1)=>lS.out x b0 w1 (by have:=M.lF PV;have:=HD.out;omega) ((HL.out.kid x PV).ev hE) hxf SK;have pI:Hid (((m.kids.take (q+1)).all fun x=>dK x.t)=dK x.t):=zq (by
        obtain⟨hk2,e⟩:=atr.1 hx;rw[atD hk2,auZ,LG.out,e];simp)
       have HXM:=zq PV;have j1:(0:Int)≤(q:Int):=by omega
       have j2:(q:Int)<(kn:Int):=by omega
       clear hx PV hxf SK;generalize hxr:dK x.t=xr at*;have HXR:=zq hxr;have HI:=zq HI;clear hxr
       cases xr with
       | true=>
        go_wp2_with (first|((with_reducible refine (HI.out _ nG.out).mono ?_);rintro r w9 ⟨rfl,hE9⟩))
        go_roundw
        case rel=>exact⟨q+1,by omega,by go_num,hE.trans hE9,pI⟩
        case measure=>simp[intOf];omega
       | false=>
        have HKF:Hid (R=false):=zq (by
         rw[HK.out,List.all_eq_false];exact⟨x,HXM.out,by rw[HXR.out];decide⟩)
        go_wp2_with (first|((with_reducible refine (HI.out _ nG.out).mono ?_);rintro r w9 ⟨rfl,hE9⟩))
        go_ret;exact⟨by rw[HKF.out];rfl,nG.out.trans hE9⟩
      have LH:q=kn:=by omega
      have j2:¬((q:Int)<(kn:Int)):=by omega
      have HKT:Hid (R=true):=zq (by
       have:=LG.out;rw[LH,lJ.out,auf]at this;rw[HK.out,this])
      clear LH;go_wp2;go_ret;exact⟨by rw[HKT.out];rfl,nG.out⟩
    have hqb:(kn==t)=false:=atp.2 hq;have hqi:((kn:Int) !=(t:Int))=true:=by simp;omega
    rw[hqb]at dG;exact awi
   have Zo:(m.n==0)=false:=atp.2 h0;have h0n:(m.n !=0)=true:=by simp[h0]
   rw[Zo]at dG;have HK:Hid (R=false):=zq (by
    rw[dG]
    cases (t==0)<;>rfl)
   clear dG;exact awK
  have k4':(m.kind==4)=false:=atp.2 k4;unfold gK at dG;rw[k1',k2',Yh,k4']at dG;exact axl
end Go.Proofs.YtpbfokkocaemlaaGreatDoor
