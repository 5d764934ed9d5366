import Derived.Test.YtbgmhhfjkkfhpaaGreatDoorZ19G
set_option linter.unusedVariables false
set_option maxRecDepth 100000
set_option maxHeartbeats 64000000
namespace Go.Proofs.YtbgmhhfjkkfhpaaGreatDoor
open Go.RowKit
open Go.Lib renaming hid → zq
open Go renaming World → ak
open Go renaming Value → au
open Go.Proofs.Tryz renaming prog → ax
variable {U:Prop}
open Go.Proofs.Tryz
theorem aIr(h:U:=by refine aF λa w c=>⟨(ay rfl),_,run_move _ rfl w,(c.was 3 rfl)⟩):U:=h
theorem aHX(h:U:=by refine aF λa w c=>⟨(ay rfl),_,pW rfl ((c.new 1 8):a.eval (.tmp 8)=.slice ↑(b,off) n cap) w,rfl⟩):U:=h
theorem aGT(h:U:=by
 refine aF λa w c=>⟨(ay rfl),.bool true,?_,rfl⟩
 have e7:a.eval (.tmp 7)=↑k:=(c.new 0 7)
 have e9:a.eval (.tmp 9)=↑n:=(c.new 2 9)
 generalize a.eval=ρ at e7 e9|-;simp[execOp,e7,e9,go_sem,i2]):U:=h
theorem aIc(h:U:=by refine aF λa w c=>⟨(aH rfl ah (c.new 4 11)),_,run_move _ rfl w,(c.was 0 rfl)⟩):U:=h
theorem aId(h:U:=by refine aF λa w c=>⟨(aH rfl ah (c.new 4 11)),_,run_move _ rfl w,(c.was 3 rfl)⟩):U:=h
theorem aGk(h:U:=by
 refine aF λa w c=>⟨(aH rfl ah (c.new 4 11)),.pointer ↑(b,off+k*2),?_,rfl⟩
 have e12:a.eval (.tmp 12)=.slice ↑(b,off) n cap:=(c.new 5 12)
 have e13:a.eval (.tmp 13)=↑k:=(c.new 6 13)
 generalize a.eval=ρ at e12 e13|-;simp[execOp,e12,e13,go_sem,i1,i2]):U:=h
theorem aGQ(h:U:=by
 refine aF λa w c=>⟨(aH rfl ah (c.new 4 11)),.pointer ↑(b,off+k*2),?_,rfl⟩
 have e14:a.eval (.tmp 14)=.pointer ↑(b,off+k*2):=(c.new 7 14)
 generalize a.eval=ρ at e14|-;simp[execOp,e14,go_sem]):U:=h
theorem aGo(h:U:=by
 refine aF λa w c=>⟨(aH rfl ah (c.new 4 11)),.slice A1 n1 cap1,?_,rfl⟩
 have e15:a.eval (.tmp 15)=.pointer ↑(b,off+k*2):=(c.new 8 15)
 have hc:=(c.ev.cell (p:=⟨b,off+k*2,none⟩) hb).trans c1;generalize a.eval=ρ at e15|-;simp[execOp,e15,hc,go_sem]):U:=h
theorem aGD(h:U:=by
 refine aF λa w c=>⟨(aH rfl ah (c.new 4 11)),↑j,?_,rfl⟩
 have e18:a.eval (.tmp 18)=↑k:=(c.new 11 18)
 have jS:a.eval (.const (.int .i64 1))=.int .i64 1:=rfl;generalize a.eval=ρ at e18 jS|-;simp[execOp,e18,jS,go_sem,i3]):U:=h
theorem aGj(h:U:=by
 refine aF λa w c=>⟨(aH rfl ah (c.new 4 11)),.pointer ↑(b,off+j*2),?_,rfl⟩
 have e17:a.eval (.tmp 17)=.slice ↑(b,off) n cap:=(c.new 10 17)
 have e19:a.eval (.tmp 19)=↑j:=(c.new 12 19)
 generalize a.eval=ρ at e17 e19|-;simp[execOp,e17,e19,go_sem,i4,i5]):U:=h
theorem aGO(h:U:=by
 refine aF λa w c=>⟨(aH rfl ah (c.new 4 11)),.pointer ↑(b,off+j*2),?_,rfl⟩
 have e20:a.eval (.tmp 20)=.pointer ↑(b,off+j*2):=(c.new 13 20)
 generalize a.eval=ρ at e20|-;simp[execOp,e20,go_sem]):U:=h
theorem aGn(h:U:=by
 refine aF λa w c=>⟨(aH rfl ah (c.new 4 11)),.slice A0 n0 cap0,?_,rfl⟩
 have e21:a.eval (.tmp 21)=.pointer ↑(b,off+j*2):=(c.new 14 21)
 have hc:=(c.ev.cell (p:=⟨b,off+j*2,none⟩) hb).trans c0;generalize a.eval=ρ at e21|-;simp[execOp,e21,hc,go_sem]):U:=h
theorem aIh(h:U:=by refine(HL.out w c.ev).mono ?_;rintro e w2 ⟨rfl,hE⟩;exact⟨_,rfl,hE,rfl⟩):U:=h
theorem aFY(h:U:=by
 refine eP λa w c=>⟨(aH rfl ah (c.new 4 11)),54,#[.slice A1 n1 cap1,.slice A0 n0 cap0],?_,?_⟩
 rw[bK 54 _ _ rfl ah];have e16:a.eval (.tmp 16)=.slice A1 n1 cap1:=(c.new 9 16)
 have e22:a.eval (.tmp 22)=.slice A0 n0 cap0:=(c.new 15 22)
 simp[e16,e22];exact aIh):U:=h
theorem aHu(h:U:=by have i2:¬(k:Int)<(k:Int):=ae;exact aH1):U:=h
theorem Kt{b0:Nat}{A:Option Addr}{n cap:Nat}{Z:List J}(w:ak)(h:Zs b0 w A n cap Z):
  Calls ax 111 #[.slice A n cap] w λe w'=>(∃k:Nat,e=.returned ↑k/\Bj gz Z k)/\Ev w w':=by
 have hn:=h.le;have hm:=h.max;have HN:=zq h.len;have dH:Tryz.prog.follows .mixedOrders=true:=ah;by_cases h0:n=0
 ·subst h0;have HF:Hid (Bj gz Z 0):=zq ⟨aDl _,λhp=>(by rw[HN.out]at hp;omega),λi x y _ _ hi=>ae,λx y hx=>(by
   have:=(aC6.1 hx).1;rw[HN.out]at this;omega)⟩
  go_enter func111,ntmps111;go_wp2
  go_loopw [3] (λi wr=>i=.int .i64 0/\Ev w wr) (λi _=>0)
  case atStart=>exact⟨rfl,Ev.refl _⟩
  case round=>
   obtain⟨rfl,hE⟩:=hrel
   go_wp2_with fail
   go_quiet (fail)
   go_wp2;go_ret;exact⟨⟨0,rfl,HF.out⟩,hE.trans (Ev.drewN _ _)⟩
 have i1:(1:Int)<=(n:Int):=ae;go_enter func111,ntmps111;go_wp2
 go_loopw [3] (λi wr=>∃k:Nat,1<=k/\k<=n/\i=↑k/\Hid (∀i x y,Z[i]?=some x->Z[i+1]?=some y->i+1<k->eG (gz y) (gz x)=false)/\Ev w wr) (λi _=>n-(intOf i).toNat)
 case atStart=>exact⟨1,ae,ae,rfl,zq (λi x y _ _ hi=>by omega),Ev.refl _⟩
 case round=>
  obtain⟨k,nX,hk,rfl,HT,hE⟩:=hrel;by_cases hlt:k<n
  ·obtain⟨b,off,z1,rfl,hb,hb0,hx1,c1,_,BR⟩:=(h.ev hE).at hlt;obtain⟨j,hj⟩:∃j,k=j+1:=⟨k-1,ae⟩
   obtain⟨b',off',z0,hA',_,_,hx0,c0,_,hv0⟩:=(h.ev hE).at (i:=j) ae;obtain⟨rfl,rfl⟩:b=b'/\off=off':=by injection hA' with e;injection e with e1 e2;exact⟨e1,e2⟩
   have HL:=zq (λw1 (h1:Ev wr w1)=>Dx w1 (BR.ev h1) (hv0.ev h1));have HX1:=zq hx1;have HX0:=zq hx0;obtain⟨⟨A1,n1,cap1⟩,r1,p1,q1⟩:=z1;obtain⟨⟨A0,n0,cap0⟩,r0,p0,q0⟩:=z0;clear hx1 hx0 BR hv0 hA';unfold nK at c1 c0;simp only at c1 c0 HL;generalize hl:eG r1 r0=ls at HL;have HLS:=zq hl;clear hl;have i1:(0:Int)<=(k:Int):=ae;have i2:(k:Int)<(n:Int):=ae;have i3:IntKind.i64.wrap ((k:Int)-1)=(j:Int):=by rw[show (k:Int)-1=(j:Int) by omega];exact IntWalk.i64_in _ ae
   have i4:(0:Int)<=(j:Int):=ae;have i5:(j:Int)<(n:Int):=ae;have HJ:=zq hj;clear hj
   cases ls
   ·go_wp2_with fail
    refine bD dH [λv _=>v=↑k,λv _=>v=.slice ↑(b,off) n cap,λv _=>v=↑n,λv _=>v=.bool true,λv _=>v=.bool true,λv _=>v=.slice ↑(b,off) n cap,λv _=>v=↑k,λv _=>v=.pointer ↑(b,off+k*2),λv _=>v=.pointer ↑(b,off+k*2),λv _=>v=.slice A1 n1 cap1,λv _=>v=.slice ↑(b,off) n cap,λv _=>v=↑k,λv _=>v=↑j,λv _=>v=.pointer ↑(b,off+j*2),λv _=>v=.pointer ↑(b,off+j*2),λv _=>v=.slice A0 n0 cap0,λv _=>v=.bool false,λv _=>v=.bool true,λv _=>v=.bool true]
     29 rfl ah ⟨aB _,aB _,aB _,aB _,aB _,aB _,aB _,aB _,aB _,aB _,aB _,aB _,aB _,aB _,aB _,aB _,aB _,aB _,aB _,trivial⟩ ?_ ?_
    ·refine az 0 ?_ (az 1 ?_ (az 2 ?_ (az 3 ?_ (az 4 ?_ (az 5 ?_ (az 6 ?_ (az 7 ?_ (az 8 ?_ (az 9 ?_ (az 10 ?_ (az 11 ?_ (az 12 ?_ (az 13 ?_ (az 14 ?_ (az 15 ?_ (az 16 ?_ (az 17 ?_ (az 18 ?_ (eY 19)))))))))))))))))));exact aIr;exact aIp;exact aHX;exact aGT;refine aF λa w c=>⟨(ay rfl),_,run_move _ rfl w,(c.new 3 10)⟩
     exact aIc;exact aId;exact aGk;exact aGQ;exact aGo;exact aIc;exact aId;exact aGD;exact aGj;exact aGO;exact aGn;exact aFY
     ·refine aF λa w c=>⟨(aH rfl ah (c.new 4 11)),.bool true,?_,rfl⟩
      have e23:a.eval (.tmp 23)=.bool false:=(c.new 16 23)
      generalize a.eval=ρ at e23|-;simp[execOp,e23,go_sem]
     refine aF λa w c=>⟨(ay rfl),_,iZ rfl (c.new 4 11) w,(c.new 17 24)⟩
    intro s w4 oN hold hnew;have f0:s 0=.slice ↑(b,off) n cap:=hold 0;have f1:_=undef:=hold 1;have f2:s 2=.int .i64 0:=hold 2;have f3:s 3=↑k:=hold 3;have f4:s 4=.slice ↑(b,off) n cap:=hold 4;have f5:s 5=↑n:=hold 5;have f6:s 6=.int .i64 1:=hold 6;have f28:_=undef:=hold 28;have f25:s 25=.bool true:=hnew 18 25;change Exit.then _ _ .normal ⟨#[s 0,s 1,s 2,s 3,s 4,s 5,s 6,s 7,s 8,s 9,s 10,s 11,s 12,s 13,s 14,s 15,s 16,s 17,s 18,s 19,s 20,s 21,s 22,s 23,s 24,s 25,s 26,s 27,s 28],_⟩ _;simp only[f0,f1,f2,f3,f4,f5,f6,f28,f25];clear hold hnew;generalize s 26=u26,s 27=u27;go_wp2;go_roundw
    case rel=>
     refine⟨k+1,ae,ae,by go_num,zq (λi x y hx hy hi=>?_),hE.trans oN⟩;by_cases qN:i+1<k;exact HT.out i x y hx hy qN;have hj:=HJ.out;obtain rfl:i=j:=ae;rw[<-hj]at hy;rw[HX0.out]at hx;rw[HX1.out]at hy;obtain rfl:=aDp hx;obtain rfl:=aDp hy;exact HLS.out
    case measure=>simp[intOf];omega
   go_wp2_with fail
   refine bD dH [λv _=>v=↑k,λv _=>v=.slice ↑(b,off) n cap,λv _=>v=↑n,λv _=>v=.bool true,λv _=>v=.bool true,λv _=>v=.slice ↑(b,off) n cap,λv _=>v=↑k,λv _=>v=.pointer ↑(b,off+k*2),λv _=>v=.pointer ↑(b,off+k*2),λv _=>v=.slice A1 n1 cap1,λv _=>v=.slice ↑(b,off) n cap,λv _=>v=↑k,λv _=>v=↑j,λv _=>v=.pointer ↑(b,off+j*2),λv _=>v=.pointer ↑(b,off+j*2),λv _=>v=.slice A0 n0 cap0,λv _=>v=.bool true,λv _=>v=.bool false,λv _=>v=.bool false]
    29 rfl ah ⟨aB _,aB _,aB _,aB _,aB _,aB _,aB _,aB _,aB _,aB _,aB _,aB _,aB _,aB _,aB _,aB _,aB _,aB _,aB _,trivial⟩ ?_ ?_
   ·refine az 0 ?_ (az 1 ?_ (az 2 ?_ (az 3 ?_ (az 4 ?_ (az 5 ?_ (az 6 ?_ (az 7 ?_ (az 8 ?_ (az 9 ?_ (az 10 ?_ (az 11 ?_ (az 12 ?_ (az 13 ?_ (az 14 ?_ (az 15 ?_ (az 16 ?_ (az 17 ?_ (az 18 ?_ (eY 19)))))))))))))))))));exact aIr;exact aIp;exact aHX;exact aGT;refine aF λa w c=>⟨(ay rfl),_,run_move _ rfl w,(c.new 3 10)⟩
    exact aIc;exact aId;exact aGk;exact aGQ;exact aGo;exact aIc;exact aId;exact aGD;exact aGj;exact aGO;exact aGn;exact aFY
    ·refine aF λa w c=>⟨(aH rfl ah (c.new 4 11)),.bool false,?_,rfl⟩
     have e23:a.eval (.tmp 23)=.bool true:=(c.new 16 23)
     generalize a.eval=ρ at e23|-;simp[execOp,e23,go_sem]
    refine aF λa w c=>⟨(ay rfl),_,iZ rfl (c.new 4 11) w,(c.new 17 24)⟩
   intro s w4 oN hold hnew;have f0:s 0=.slice ↑(b,off) n cap:=hold 0;have f1:_=undef:=hold 1;have f2:s 2=.int .i64 0:=hold 2;have f3:s 3=↑k:=hold 3;have f4:s 4=.slice ↑(b,off) n cap:=hold 4;have f5:s 5=↑n:=hold 5;have f6:s 6=.int .i64 1:=hold 6;have f28:_=undef:=hold 28;have f25:s 25=.bool false:=hnew 18 25;change Exit.then _ _ .normal ⟨#[s 0,s 1,s 2,s 3,s 4,s 5,s 6,s 7,s 8,s 9,s 10,s 11,s 12,s 13,s 14,s 15,s 16,s 17,s 18,s 19,s 20,s 21,s 22,s 23,s 24,s 25,s 26,s 27,s 28],_⟩ _;simp only[f0,f1,f2,f3,f4,f5,f6,f28,f25];clear hold hnew;go_wp2;go_ret;refine⟨⟨k,rfl,by rw[HN.out];omega,λ_=>by omega,HT.out,λx y hx hy=>?_⟩,hE.trans oN⟩;rw[show k-1=j by have:=HJ.out;omega,HX0.out]at hx;rw[HX1.out]at hy;obtain rfl:=aDp hx;obtain rfl:=aDp hy;exact HLS.out
  obtain rfl:k=n:=ae;have HF:Hid (Bj gz Z k):=zq ⟨by rw[HN.out];omega,λ_=>by omega,HT.out,λx y hx hy=>by
   have:=(aC6.1 hy).1;rw[HN.out]at this;omega⟩
  exact aHu
structure aaS(Z:List J)(k:Nat):Prop where
 le:k<=Z.length
 pos:1<=k
 same:∀i x z,i<k->Z[i]?=some x->Z[0]?=some z->yO (gz x) (gz z)=true
 ends:∀x z,Z[k]?=some x->Z[0]?=some z->yO (gz x) (gz z)=false
theorem aFn(h:U:=by
 refine az 0 ?_ (az 1 ?_ (az 2 ?_ (az 3 ?_ (az 4 ?_ (az 5 ?_ (az 6 ?_ (az 7 ?_ (az 8 ?_ (az 9 ?_ (az 10 ?_ (az 11 ?_ (az 12 ?_ (az 13 ?_ (az 14 ?_ (az 15 ?_ (eY 16))))))))))))))));exact aIr;exact aIp;refine aF λa w c=>⟨(ay rfl),_,pW rfl ((c.new 1 5):a.eval (.tmp 5)=.slice ↑(b,off) n cap) w,rfl⟩
 ·refine aF λa w c=>⟨(ay rfl),.bool true,?_,rfl⟩
  have e4:a.eval (.tmp 4)=↑k:=(c.new 0 4)
  have e6:a.eval (.tmp 6)=↑n:=(c.new 2 6)
  generalize a.eval=ρ at e4 e6|-;simp[execOp,e4,e6,go_sem,i2]
 refine aF λa w c=>⟨(ay rfl),_,run_move _ rfl w,(c.new 3 7)⟩
 refine aF λa w c=>⟨(aH rfl ah (c.new 4 8)),_,run_move _ rfl w,(c.was 0 rfl)⟩
 refine aF λa w c=>⟨(aH rfl ah (c.new 4 8)),_,run_move _ rfl w,(c.was 3 rfl)⟩
 ·refine aF λa w c=>⟨(aH rfl ah (c.new 4 8)),.pointer ↑(b,off+k*2),?_,rfl⟩
  have e9:a.eval (.tmp 9)=.slice ↑(b,off) n cap:=(c.new 5 9)
  have e10:a.eval (.tmp 10)=↑k:=(c.new 6 10)
  generalize a.eval=ρ at e9 e10|-;simp[execOp,e9,e10,go_sem,i1,i2]
 ·refine aF λa w c=>⟨(aH rfl ah (c.new 4 8)),.pointer ↑(b,off+k*2),?_,rfl⟩
  have e11:a.eval (.tmp 11)=.pointer ↑(b,off+k*2):=(c.new 7 11)
  generalize a.eval=ρ at e11|-;simp[execOp,e11,go_sem]
 ·refine aF λa w c=>⟨(aH rfl ah (c.new 4 8)),.slice A1 n1 cap1,?_,rfl⟩
  have e12:a.eval (.tmp 12)=.pointer ↑(b,off+k*2):=(c.new 8 12)
  have hc:=(c.ev.cell (p:=⟨b,off+k*2,none⟩) hb).trans c1;generalize a.eval=ρ at e12|-;simp[execOp,e12,hc,go_sem]
 refine aF λa w c=>⟨(aH rfl ah (c.new 4 8)),_,run_move _ rfl w,(c.was 0 rfl)⟩
 ·refine aF λa w c=>⟨(aH rfl ah (c.new 4 8)),.pointer ↑(b,off),?_,rfl⟩
  have e14:a.eval (.tmp 14)=.slice ↑(b,off) n cap:=(c.new 10 14)
  have jS:a.eval (.const (.int .i64 0))=.int .i64 0:=rfl;generalize a.eval=ρ at e14 jS|-;simp[execOp,e14,jS,go_sem,i5]
 ·refine aF λa w c=>⟨(aH rfl ah (c.new 4 8)),.pointer ↑(b,off),?_,rfl⟩
  have e15:a.eval (.tmp 15)=.pointer ↑(b,off):=(c.new 11 15)
  generalize a.eval=ρ at e15|-;simp[execOp,e15,go_sem]
 ·refine aF λa w c=>⟨(aH rfl ah (c.new 4 8)),.slice A0 n0 cap0,?_,rfl⟩
  have e16:a.eval (.tmp 16)=.pointer ↑(b,off):=(c.new 12 16)
  have hc:=(c.ev.cell (p:=⟨b,off,none⟩) hb).trans c0;generalize a.eval=ρ at e16|-;simp[execOp,e16,hc,go_sem]
 refine eP λa w c=>⟨(aH rfl ah (c.new 4 8)),56,#[.slice A1 n1 cap1,.slice A0 n0 cap0],?_,?_⟩
 rw[bK 56 _ _ rfl ah];have e13:a.eval (.tmp 13)=.slice A1 n1 cap1:=(c.new 9 13)
 have e17:a.eval (.tmp 17)=.slice A0 n0 cap0:=(c.new 13 17)
 simp[e13,e17];exact aIh;refine aF λa w c=>⟨(ay rfl),_,iZ rfl (c.new 4 8) w,(c.new 14 18)⟩):U:=h
theorem QN{b0:Nat}{A:Option Addr}{n cap:Nat}{Z:List J}(w:ak)(h:Zs b0 w A n cap Z)(hpos:0<n)(hr:dN gz Z):
  Calls ax 61 #[.slice A n cap] w λe w'=>(∃k:Nat,e=.returned ↑k/\aaS Z k)/\Ev w w':=by
 have hn:=h.le;have hm:=h.max;have HN:=zq h.len;have HR:=zq hr;clear hr;have dH:Tryz.prog.follows .mixedOrders=true:=ah;go_enter func61,ntmps61;go_wp2
 go_loopw [3] (λi wr=>∃k:Nat,1<=k/\k<=n/\i=↑k/\Hid (∀i x z,i<k->Z[i]?=some x->Z[0]?=some z->yO (gz x) (gz z)=true)/\Ev w wr) (λi _=>n-(intOf i).toNat)
 case atStart=>exact⟨1,ae,ae,rfl,zq (λi x z hi hx hz=>by
  obtain rfl:i=0:=ae;rw[hx]at hz;obtain rfl:=aDp hz;unfold yO;rw[HR.out x (aDb hx)];simp[eqL]),Ev.refl _⟩
 case round=>
  obtain⟨k,nX,hk,rfl,HT,hE⟩:=hrel;by_cases hlt:k<n
  ·obtain⟨b,off,z1,rfl,hb,hb0,hx1,c1,_,BR⟩:=(h.ev hE).at hlt;obtain⟨b',off',z0,hA',_,_,hx0,c0,_,hv0⟩:=(h.ev hE).at (i:=0) ae;obtain⟨rfl,rfl⟩:b=b'/\off=off':=by injection hA' with e;injection e with e1 e2;exact⟨e1,e2⟩
   rw[aDH,aDw]at c0;have HL:=zq (λw1 (h1:Ev wr w1)=>Ue w1 (BR.ev h1) (hv0.ev h1));have HX1:=zq hx1;have HX0:=zq hx0;obtain⟨⟨A1,n1,cap1⟩,r1,p1,q1⟩:=z1;obtain⟨⟨A0,n0,cap0⟩,r0,p0,q0⟩:=z0;clear hx1 hx0 BR hv0 hA';unfold nK at c1 c0;simp only at c1 c0 HL;generalize hl:yO r1 r0=ls at HL;have HLS:=zq hl;clear hl;have i1:(0:Int)<=(k:Int):=ae;have i2:(k:Int)<(n:Int):=ae;have i5:¬n=0:=ae
   cases ls
   ·go_wp2_with fail
    refine bD dH [λv _=>v=↑k,λv _=>v=.slice ↑(b,off) n cap,λv _=>v=↑n,λv _=>v=.bool true,λv _=>v=.bool true,λv _=>v=.slice ↑(b,off) n cap,λv _=>v=↑k,λv _=>v=.pointer ↑(b,off+k*2),λv _=>v=.pointer ↑(b,off+k*2),λv _=>v=.slice A1 n1 cap1,λv _=>v=.slice ↑(b,off) n cap,λv _=>v=.pointer ↑(b,off),λv _=>v=.pointer ↑(b,off),λv _=>v=.slice A0 n0 cap0,λv _=>v=.bool false,λv _=>v=.bool false]
     23 rfl ah ⟨aB _,aB _,aB _,aB _,aB _,aB _,aB _,aB _,aB _,aB _,aB _,aB _,aB _,aB _,aB _,aB _,trivial⟩ ?_ ?_
    exact aFn;intro s w4 oN hold hnew;have f0:s 0=.slice ↑(b,off) n cap:=hold 0;have f1:_=undef:=hold 1;have f2:s 2=.int .i64 0:=hold 2;have f3:s 3=↑k:=hold 3;have f22:_=undef:=hold 22;have f19:s 19=.bool false:=hnew 15 19;change Exit.then _ _ .normal ⟨#[s 0,s 1,s 2,s 3,s 4,s 5,s 6,s 7,s 8,s 9,s 10,s 11,s 12,s 13,s 14,s 15,s 16,s 17,s 18,s 19,s 20,s 21,s 22],_⟩ _;simp only[f0,f1,f2,f3,f22,f19];clear hold hnew;go_wp2;go_ret;refine⟨⟨k,rfl,by rw[HN.out];omega,nX,HT.out,λx z hx hz=>?_⟩,hE.trans oN⟩;rw[HX0.out]at hz;rw[HX1.out]at hx;obtain rfl:=aDp hx;obtain rfl:=aDp hz;exact HLS.out
   go_wp2_with fail
   refine bD dH [λv _=>v=↑k,λv _=>v=.slice ↑(b,off) n cap,λv _=>v=↑n,λv _=>v=.bool true,λv _=>v=.bool true,λv _=>v=.slice ↑(b,off) n cap,λv _=>v=↑k,λv _=>v=.pointer ↑(b,off+k*2),λv _=>v=.pointer ↑(b,off+k*2),λv _=>v=.slice A1 n1 cap1,λv _=>v=.slice ↑(b,off) n cap,λv _=>v=.pointer ↑(b,off),λv _=>v=.pointer ↑(b,off),λv _=>v=.slice A0 n0 cap0,λv _=>v=.bool true,λv _=>v=.bool true]
    23 rfl ah ⟨aB _,aB _,aB _,aB _,aB _,aB _,aB _,aB _,aB _,aB _,aB _,aB _,aB _,aB _,aB _,aB _,trivial⟩ ?_ ?_
   exact aFn;intro s w4 oN hold hnew;have f0:s 0=.slice ↑(b,off) n cap:=hold 0;have f1:_=undef:=hold 1;have f2:s 2=.int .i64 0:=hold 2;have f3:s 3=↑k:=hold 3;have f22:_=undef:=hold 22;have f19:s 19=.bool true:=hnew 15 19;change Exit.then _ _ .normal ⟨#[s 0,s 1,s 2,s 3,s 4,s 5,s 6,s 7,s 8,s 9,s 10,s 11,s 12,s 13,s 14,s 15,s 16,s 17,s 18,s 19,s 20,s 21,s 22],_⟩ _;simp only[f0,f1,f2,f3,f22,f19];clear hold hnew;generalize s 20=u20,s 21=u21;go_wp2;go_roundw
   case rel=>
    refine⟨k+1,ae,ae,by go_num,zq (λi x z hi hx hz=>?_),hE.trans oN⟩;by_cases qN:i<k;exact HT.out i x z qN hx hz;obtain rfl:i=k:=ae;rw[HX0.out]at hz;rw[HX1.out]at hx;obtain rfl:=aDp hx;obtain rfl:=aDp hz;exact HLS.out
   case measure=>simp[intOf];omega
  obtain rfl:k=n:=ae;have HF:Hid (aaS Z k):=zq ⟨by rw[HN.out];omega,nX,HT.out,λx z hx hz=>by
   have:=(aC6.1 hx).1;rw[HN.out]at this;omega⟩
  exact aHu
theorem yT{ρ:Operand->au}{o:Oper}{x:Operand}{z:J}(ho:o.op=.buildSlice 25 1 #[(0,x)])(h:ρ x=jv z)(w:ak):
  (execOp ρ o).run ax w=.ok (.value (.slice ↑w 1 1)) (w.alloc (.cells #[nK z,nP z] 47)):=by
 unfold jv nK nP at h;unfold nK nP;unfold execOp;rw[ho];simp[h,go_sem]
def jy(g0:Nat)(z:J)(v:au)(w:ak):Prop:=∃p,v=.slice (some ⟨p,0,none⟩) 1 1/\Js w (some ⟨p,0,none⟩) 1 1 [z]/\g0<=p/\p<w.heap.size
theorem jy.mono{g0:Nat}{z:J}:kK (jy g0 z):=λv w w' hE ⟨p,e,h,hg,hp⟩=>⟨p,e,h.ev hE,hg,aDf hp hE.size⟩
theorem jy.yu{g0:Nat}{z:J}{K:List Nat}(hK:∀k∈K,k<g0):J4 K (jy g0 z):=λv w w' hE ⟨p,e,h,hg,hp⟩=>⟨p,e,h.but hE (by rintro ad ⟨⟩ hm;have:=hK _ hm;simp only at this;omega),hg,aDf hp hE.size⟩
theorem jy.new{w0 w:ak}{z:J}(h:w0.heap.size<=w.heap.size):jy w0.heap.size z (.slice (some ⟨↑w,0,none⟩) 1 1) (w.alloc (.cells #[nK z,nP z] 47)):=⟨w.heap.size,rfl,Js.one w z,h,aj⟩
def mg(w4:ak)(vk:au)(Z:List J)(v:au)(w:ak):Prop:=o_ w v Z/\dE w4 vk v
theorem mg.mono{w4:ak}{vk:au}{Z:List J}:kK (mg w4 vk Z):=λv w w' hE ⟨h,hs⟩=>⟨h.ev hE,hs⟩
theorem dE.after{w0 w:ak}{a b:au}(h:dE w a b)(hs:w0.heap.size<=w.heap.size):dE w0 a b:=λg hg=>(h g hg).imp id λh1=>aDr hs h1
theorem jy.append{w4 w:ak}{z:J}{v vk:au}{Z:List J}(h:jy w4.heap.size z v w)(T ty:TypeId)
  (ht:Tryz.prog.underlying T=some (.slice 47)) (hi:(Tryz.prog.info? 47).map (λi=>(i.zero,i.size,i.bytes))=some (some (.agg #[↑(),.complex .f64 0 0]),2,40))
  (hE:Ev w4 w) (hZ:o_ w4 vk Z) (hv:Vs w4 z.1.1 z.1.2.1 z.1.2.2 z.2.1) (hb:∀ad,z.1.1=some ad->ad.block<w4.heap.size/\vk.ownBlock≠some ad.block) (hsz:(Z.length+1)*40<=140737488355328):
  ∃v' w',(Builtin.append_ #[T,T] ty #[vk,v]).run ax w=.ok v' w'/\mg w4 vk (Z++[z]) v' w'/\But (foot vk) w w':=by
 obtain⟨p,rfl,hJ,_,_⟩:=h;obtain⟨v',w',hr,hz,hbt,hsp⟩:=vN (P:=ax) (w:=w) T ty ht hi vk Z (hZ.ev hE) ↑p 1 1 [z] hJ (λx hx=>by
  rw[aDM.1 hx];exact⟨hv.ev hE,λad e=>⟨aDf (hb ad e).1 hE.size,(hb ad e).2⟩⟩) hsz
 exact⟨v',w',hr,⟨hz,hsp.after hE.size⟩,hbt⟩
theorem Ui{X Y:List J}{x y:J}(hx:X[0]?=some x)(hy:Y[0]?=some y)(h:eG y.2.1 x.2.1=true):mergeF gz X Y=y::mergeF gz X (Y.drop 1):=by
 cases X with
 | nil=>simp at hx
 | cons a X=>
  cases Y with
  | nil=>simp at hy
  | cons b Y=>
   simp at hx hy;subst hx hy;rw[mergeF,if_pos (show eG (gz b) (gz a)=true from h)];rfl
theorem QO{X Y:List J}{x y:J}(hx:X[0]?=some x)(hy:Y[0]?=some y)(h:eG y.2.1 x.2.1=false):mergeF gz X Y=x::mergeF gz (X.drop 1) Y:=by
 cases X with
 | nil=>simp at hx
 | cons a X=>
  cases Y with
  | nil=>simp at hy
  | cons b Y=>
   simp at hx hy;subst hx hy;rw[mergeF,if_neg (show ¬eG (gz b) (gz a)=true by unfold gz;rw[h];exact aEs)];rfl
def slen:au->Nat
 | .slice _ n _=>n
 | _=>0
structure gu(b0:Nat)(w:ak)(v:au)(M X Y:List J)(N:Nat)(vk:au)(P:List J)(A1:Option Addr)(n1 c1:Nat)(X1:List J)(A2:Option Addr)(m1 c2:Nat)(Y1:List J)(wr:ak):Prop where
 own:o_ wr vk (M++P)
 a:Zs b0 wr A1 n1 c1 X1
 b:Zs b0 wr A2 m1 c2 Y1
 eq:mergeF gz X Y=P++mergeF gz X1 Y1
 but:But (foot v) w wr
 spr:dE w v vk
 high:∀g,vk.ownBlock=some g->b0<=g
 size:P.length+n1+m1=N
theorem gu.wZ{b0:Nat}{w:ak}{v:au}{M X Y:List J}{N:Nat}{vk:au}{P:List J}{A1:Option Addr}{n1 c1:Nat}{X1:List J}{A2:Option Addr}{m1 c2:Nat}{Y1:List J}{wr:ak}(h:gu b0 w v M X Y N vk P A1 n1 c1 X1 A2 m1 c2 Y1 wr){w':ak}(hs:wr.heap.size<=w'.heap.size):
  ∀k∈foot vk,k<w'.heap.size:=λk hk=>aDf (h.own.lt (aG.1 hk)) hs
theorem gu.ev{b0:Nat}{w:ak}{v:au}{M X Y:List J}{N:Nat}{vk:au}{P:List J}{A1:Option Addr}{n1 c1:Nat}{X1:List J}{A2:Option Addr}{m1 c2:Nat}{Y1:List J}{wr w':ak}(h:gu b0 w v M X Y N vk P A1 n1 c1 X1 A2 m1 c2 Y1 wr)(hE:Ev wr w'):gu b0 w v M X Y N vk P A1 n1 c1 X1 A2 m1 c2 Y1 w':=
 ⟨h.own.ev hE,h.a.ev hE,h.b.ev hE,h.eq,h.but.then (But.aU hE),h.spr,h.high,h.size⟩
theorem gu.apart{b0:Nat}{w:ak}{vk:au}{A1:Option Addr}{n1 c1:Nat}{X1:List J}(ha:Zs b0 w A1 n1 c1 X1)(high:∀g,vk.ownBlock=some g->b0<=g){z:J}(hz:z∈X1):∀ad,z.1.1=some ad->ad.block<w.heap.size/\vk.ownBlock≠some ad.block:=λad e=>by have h1:=(ha.rows z hz).2 ad e;exact⟨aDf h1 ha.base,λe'=>by have:=high _ e';omega⟩
theorem gu.next{b0:Nat}{w:ak}{v:au}{M X Y:List J}{N:Nat}{vk:au}{P:List J}{A1:Option Addr}{n1 c1:Nat}{X1:List J}{A2:Option Addr}{m1 c2:Nat}{Y1:List J}{wr w':ak}(h:gu b0 w v M X Y N vk P A1 n1 c1 X1 A2 m1 c2 Y1 wr)(hB:But (foot vk) wr w'){vn:au}{P':List J}(hG:mg wr vk (M++P') vn w')
  {A1':Option Addr} {n1' c1':Nat} {X1':List J} {A2':Option Addr} {m1' c2':Nat} {Y1':List J} (ha:Zs b0 wr A1' n1' c1' X1') (hb:Zs b0 wr A2' m1' c2' Y1') (he:mergeF gz X Y=P'++mergeF gz X1' Y1') (hs:P'.length+n1'+m1'=N):
  gu b0 w v M X Y N vn P' A1' n1' c1' X1' A2' m1' c2' Y1' w':=by
 have hbl:Below b0 wr w':=hB.below h.a.base λk hk=>h.high k (aG.1 hk);refine⟨hG.1,ha.below hbl,hb.below hbl,he,h.but.trans hB λk hk=>?_,h.spr.trans hG.2 h.but.size,λg hg=>?_,hs⟩;rcases h.spr k (aG.1 hk) with h1|h1;exact .inl (aG.2 h1);exact .inr h1;rcases hG.2 g hg with h1|h1;exact h.high g h1;exact aDr h.a.base h1
section
variable {b0:Nat} {w:ak} {v:au} {M X Y:List J} {N:Nat} {vk:au} {P:List J} {A1:Option Addr} {n1 c1:Nat} {X1:List J} {A2:Option Addr} {m1 c2:Nat} {Y1:List J} {wr:ak}
theorem gu.ajg(h:gu b0 w v M X Y N vk P A1 n1 c1 X1 A2 m1 c2 Y1 wr):∀z∈X1,Vs wr z.1.1 z.1.2.1 z.1.2.2 z.2.1/\∀ad,z.1.1=some ad->ad.block<wr.heap.size/\vk.ownBlock≠some ad.block:=λz hz=>⟨(h.a.rows z hz).1,gu.apart h.a h.high hz⟩
theorem gu.ajh(h:gu b0 w v M X Y N vk P A1 n1 c1 X1 A2 m1 c2 Y1 wr):∀z∈Y1,Vs wr z.1.1 z.1.2.1 z.1.2.2 z.2.1/\∀ad,z.1.1=some ad->ad.block<wr.heap.size/\vk.ownBlock≠some ad.block:=λz hz=>⟨(h.b.rows z hz).1,gu.apart h.b h.high hz⟩
theorem gu.anU(h:gu b0 w v M X Y N vk P A1 n1 c1 X1 A2 m1 c2 Y1 wr)(hm:mergeF gz X1 Y1=X1++Y1){vn:au}{w':ak}(hG:mg wr vk (M++(P++X1)) vn w')(hB:But (foot vk) wr w'):gu b0 w v M X Y N vn (P++X1) none 0 0 [] A2 m1 c2 Y1 w':=
 h.next hB hG (Zs.nil_ h.a.base) h.b (by rw[h.eq,hm,o8,aDA]) (by have:=h.size;rw[aDd,h.a.len];omega)
theorem gu.anV(h:gu b0 w v M X Y N vk P none 0 0 [] A2 m1 c2 Y1 wr){vn:au}{w':ak}(hG:mg wr vk (M++(P++Y1)) vn w')(hB:But (foot vk) wr w'):gu b0 w v M X Y N vn (P++Y1) none 0 0 [] none 0 0 [] w':=
 h.next hB hG (Zs.nil_ h.a.base) (Zs.nil_ h.a.base) (by rw[h.eq,o8,o8,aD5]) (by have:=h.size;rw[aDd,h.b.len];omega)
end
theorem aFq(h:U:=by
 refine az 0 ?_ (az 1 ?_ (az 2 ?_ (az 3 ?_ (az 4 ?_ (az 5 ?_ (az 6 ?_ (az 7 ?_ (az 8 ?_ (eY 9)))))))));refine aF λa w c=>⟨(ay rfl),_,run_move _ rfl w,(c.was 2 rfl)⟩
 ·refine aF λa w c=>⟨(ay rfl),.pointer ↑(b2,jC),?_,rfl⟩
  have e15:a.eval (.tmp 15)=.slice ↑(b2,jC) m1 c2:=(c.new 0 15)
  have jS:a.eval (.const (.int .i64 0))=.int .i64 0:=rfl;generalize a.eval=ρ at e15 jS|-;simp[execOp,e15,jS,go_sem,j2]
 ·refine aF λa w c=>⟨(ay rfl),.pointer ↑(b2,jC),?_,rfl⟩
  have e16:a.eval (.tmp 16)=.pointer ↑(b2,jC):=(c.new 1 16)
  generalize a.eval=ρ at e16|-;simp[execOp,e16,go_sem]
 ·refine aF λa w c=>⟨(ay rfl),.slice z2.1.1 z2.1.2.1 z2.1.2.2,?_,rfl⟩
  have e17:a.eval (.tmp 17)=.pointer ↑(b2,jC):=(c.new 2 17)
  have hc:=(c.ev.cell (p:=⟨b2,jC,none⟩) hb2).trans d0r;generalize a.eval=ρ at e17|-;simp[execOp,e17,hc,go_sem]
 exact aIq
 ·refine aF λa w c=>⟨(ay rfl),.pointer ↑(b1,lI),?_,rfl⟩
  have e19:a.eval (.tmp 19)=.slice ↑(b1,lI) n1 c1:=(c.new 4 19)
  have jS:a.eval (.const (.int .i64 0))=.int .i64 0:=rfl;generalize a.eval=ρ at e19 jS|-;simp[execOp,e19,jS,go_sem,j1]
 ·refine aF λa w c=>⟨(ay rfl),.pointer ↑(b1,lI),?_,rfl⟩
  have e20:a.eval (.tmp 20)=.pointer ↑(b1,lI):=(c.new 5 20)
  generalize a.eval=ρ at e20|-;simp[execOp,e20,go_sem]
 ·refine aF λa w c=>⟨(ay rfl),.slice z1.1.1 z1.1.2.1 z1.1.2.2,?_,rfl⟩
  have e21:a.eval (.tmp 21)=.pointer ↑(b1,lI):=(c.new 6 21)
  have hc:=(c.ev.cell (p:=⟨b1,lI,none⟩) hb1).trans c0r;generalize a.eval=ρ at e21|-;simp[execOp,e21,hc,go_sem]
 refine eP λa w c=>⟨(ay rfl),54,#[.slice z2.1.1 z2.1.2.1 z2.1.2.2,.slice z1.1.1 z1.1.2.1 z1.1.2.2],?_,?_⟩
 rw[bK 54 _ _ rfl ah];have e18:a.eval (.tmp 18)=.slice z2.1.1 z2.1.2.1 z2.1.2.2:=(c.new 3 18)
 have e22:a.eval (.tmp 22)=.slice z1.1.1 z1.1.2.1 z1.1.2.2:=(c.new 7 22)
 simp[e18,e22];exact aIh):U:=h
theorem aIs(h:U:=by refine bF λa w c=>⟨(ay rfl),_,run_move _ rfl w,(c.was 0 rfl)⟩):U:=h
theorem aHz(h:U:=by refine⟨(ay rfl),v_,w_,?_,jh.self hT_,hG_⟩;unfold execOp;simp only[resolve,invoke,builtin,aFa,aFb,aFc,aD1,aDe,aDu,e_,hr_]):U:=h
theorem aFz(h:U:=by
 have hJa:=HM.out.a.js;have hRa:=HM.out.ajg;have hZ0:=HM.out.own;have nY:Hid (((M++P).length+X1.length)*40<=140737488355328):=zq (by rw[aDd,HM.out.a.len];omega);have N8:Hid (((M++(P++X1)).length+Y1.length)*40<=140737488355328):=zq (by rw[aDd,aDd,HM.out.a.len,HM.out.b.len];omega)
 go_wp2_with (first|(at_builtin;refine ig rfl 25 (.tmp 40) (.tmp 41) rfl underlying25 Tryz.kY vk (M++P) rfl hZ0 A1 n1 c1 X1 rfl hJa hRa nY.out ?_;intro v1 w1 hz1 hb1 hs1;have HM1:=HM.out.anU HXY.out ⟨(by rw[<-aDA];exact hz1),hs1⟩ hb1)|(at_builtin;refine ig rfl 25 (.tmp 42) (.tmp 43) rfl underlying25 Tryz.kY v1 (M++(P++X1)) rfl HM1.own A2 m1 c2 Y1 rfl HM1.b.js HM1.ajh N8.out ?_;intro v2 w2 hz2 hb2 hs2;have HM2:=HM1.anV ⟨(by rw[<-aDA];exact hz2),hs2⟩ hb2))
 go_ret;have he:=HM2.eq;rw[o8,aD5]at he;exact⟨v2,rfl,by rw[he];exact HM2.own,HM2.high,HM2.but,HM2.spr⟩):U:=h
theorem Xr{b0:Nat}{v:au}{A:Option Addr}{n cap:Nat}{X:List J}{A':Option Addr}{m cap':Nat}{Y M:List J}(w:ak)(hv:o_ w v M)(hhigh:∀g,v.ownBlock=some g->b0<=g)(ha:Zs b0 w A n cap X)(hb:Zs b0 w A' m cap' Y)(hsz:M.length+n+m<=1000000000000):
  Calls ax 168 #[v,.slice A n cap,.slice A' m cap'] w λe w'=>∃v',e=.returned v'/\o_ w' v' (M++mergeF gz X Y)/\(∀g,v'.ownBlock=some g->b0<=g)/\But (foot v) w w'/\dE w v v':=by
 have dH:Tryz.prog.follows .mixedOrders=true:=ah;have akv:Hid (gu b0 w v M X Y (n+m) v [] A n cap X A' m cap' Y w):=zq ⟨by simpa using hv,ha,hb,rfl,But.refl _ _,dE.refl _ _,hhigh,aj⟩;clear hv hhigh ha hb;go_enter func168,ntmps168;go_wp2
 go_loopw [0,1,2] (λvk av bv wr=>∃P A1 n1 c1 X1 A2 m1 c2 Y1,av=.slice A1 n1 c1/\bv=.slice A2 m1 c2/\Hid (gu b0 w v M X Y (n+m) vk P A1 n1 c1 X1 A2 m1 c2 Y1 wr)) (λ_ av bv _=>slen av+slen bv)
 case atStart=>exact⟨[],A,n,cap,X,A',m,cap',Y,rfl,rfl,akv⟩
 case round=>
  obtain⟨P,A1,n1,c1,X1,A2,m1,c2,Y1,rfl,rfl,HM⟩:=hrel;obtain⟨vk,hvk⟩:∃vk,vk=u0:=⟨_,rfl⟩
  rw[<-hvk]at HM|-;clear hvk;have uC:=HM.out.a.le;have hm1:=HM.out.b.le;have hc1:=HM.out.a.max;have hc2:=HM.out.b.max;have hN:=HM.out.size;by_cases k1:0<n1
  ·have i1:(0:Int)<(n1:Int):=ae;by_cases k2:0<m1
   ·have i2:(0:Int)<(m1:Int):=ae;obtain⟨b1,lI,z1,rfl,hb1,Uj,hx1,c0,oO,BR⟩:=HM.out.a.at k1;obtain⟨b2,jC,z2,rfl,hb2,hl2,hx2,d0,d1,hv2⟩:=HM.out.b.at k2;rw[aDH,aDw]at c0 oO d0 d1;have j1:¬n1=0:=ae;have j2:¬m1=0:=ae;have HL:=zq (λw1 (h1:Ev wr w1)=>Dx w1 (hv2.ev h1) (BR.ev h1));have HX1:=zq hx1;have HX2:=zq hx2;have HV1:=zq BR;have HV2:=zq hv2;have c0r:wr.cell? ⟨b1,lI,none⟩=some (.slice z1.1.1 z1.1.2.1 z1.1.2.2):=c0;have d0r:wr.cell? ⟨b2,jC,none⟩=some (.slice z2.1.1 z2.1.2.1 z2.1.2.2):=d0;have HNB:Hid (b1∉foot vk/\b2∉foot vk):=zq ⟨λhm=>(by have:=HM.out.high _ (aG.1 hm);omega),λhm=>(by have:=HM.out.high _ (aG.1 hm);omega)⟩;have Ku:=zq (λw1 (h1:Ev wr w1)=>gu.apart (w:=w1) (HM.out.a.ev h1) HM.out.high (aDb hx1));have Kv:=zq (λw1 (h1:Ev wr w1)=>gu.apart (w:=w1) (HM.out.b.ev h1) HM.out.high (aDb hx2));have Kw:Hid (((M++P).length+1)*40<=140737488355328):=zq (by rw[aDd];omega);clear BR hv2 hx1 hx2 Uj hl2;generalize hl:eG z2.2.1 z1.2.1=ls at HL;have HLS:=zq hl;clear hl
    cases ls
    ·go_wp2_with fail
     refine bD dH [λv _=>v=.slice ↑(b2,jC) m1 c2,λv _=>v=.pointer ↑(b2,jC),λv _=>v=.pointer ↑(b2,jC),λv _=>v=.slice z2.1.1 z2.1.2.1 z2.1.2.2,λv _=>v=.slice ↑(b1,lI) n1 c1,λv _=>v=.pointer ↑(b1,lI),λv _=>v=.pointer ↑(b1,lI),λv _=>v=.slice z1.1.1 z1.1.2.1 z1.1.2.2,λv _=>v=.bool false]
      45 rfl ah ⟨aB _,aB _,aB _,aB _,aB _,aB _,aB _,aB _,aB _,trivial⟩ ?_ ?_
     exact aFq;intro s w4 oN hold hnew;have f0:s 0=vk:=hold 0;have f1:s 1=.slice ↑(b1,lI) n1 c1:=hold 1;have f2:s 2=.slice ↑(b2,jC) m1 c2:=hold 2;have f3:_=undef:=hold 3;have f4:_=undef:=hold 4;have f5:_=undef:=hold 5;have f6:s 6=↑():=hold 6;have f40:_=undef:=hold 40;have f41:_=undef:=hold 41;have f42:_=undef:=hold 42;have f43:_=undef:=hold 43;have f44:_=undef:=hold 44;have f23:s 23=.bool false:=hnew 8 23;change Exit.then _ _ .normal ⟨_,_⟩ _;simp only[List.range,List.range.loop,List.map];simp only[f0,f1,f2,f3,f4,f5,f6,f40,f41,f42,f43,f44,f23];clear hold hnew;generalize s 7=u7,s 8=u8,s 9=u9,s 10=u10,s 11=u11,s 12=u12,s 13=u13,s 14=u14,s 24=u24,s 25=u25,s 26=u26,s 27=u27,s 28=u28,s 29=u29,s 30=u30,s 31=u31,s 32=u32,s 33=u33,s 34=u34,s 35=u35,s 36=u36,s 37=u37,s 38=u38,s 39=u39
     go_wp2_with fail
     replace c0:=(oN.cell (p:=⟨b1,lI,none⟩) hb1).trans c0;replace oO:=(oN.cell (p:=⟨b1,lI+1,none⟩) hb1).trans oO;replace d0:=(oN.cell (p:=⟨b2,jC,none⟩) hb2).trans d0;replace d1:=(oN.cell (p:=⟨b2,jC+1,none⟩) hb2).trans d1;have adr:=zq (HV1.out.ev oN);have ads:=zq (HV2.out.ev oN);replace Ku:=zq (Ku.out w4 oN);replace Kv:=zq (Kv.out w4 oN);clear c0r d0r;have HM4:=HM.out.ev oN;have hZk:=HM4.own;have HKS:Hid (∀k∈foot vk,k<w4.heap.size):=zq (HM.out.wZ oN.size);replace hb1:b1<w4.heap.size:=aDf hb1 oN.size;replace hb2:b2<w4.heap.size:=aDf hb2 oN.size;refine jb dH (foot vk) 5 [λv _=>v=vk,λv _=>v=.slice ↑(b1,lI) n1 c1,λv _=>v=.pointer ↑(b1,lI),λv _=>v=jv z1,jy w4.heap.size z1,mg w4 vk (M++P++[z1]),λv _=>v=.slice ↑(b1,lI) n1 c1,λv _=>v=.slice (kM 2 ↑(b1,lI) c1 1) (n1-1) (c1-1),mg w4 vk (M++P++[z1]),λv _=>v=.slice (kM 2 ↑(b1,lI) c1 1) (n1-1) (c1-1)]
      45 rfl ah ⟨aB _,aB _,aB _,aB _,jy.mono,mg.mono,aB _,aB _,mg.mono,aB _,trivial⟩ ⟨.inr (.inr (cu _ _)),.inr (.inr (cu _ _)),.inr (.inr (cu _ _)),.inr (.inr (cu _ _)),.inr (.inr (jy.yu (λk hk=>HKS.out k hk))),.inl rfl,.inr (.inr (cu _ _)),.inr (.inr (cu _ _)),.inr (.inl ah),.inr (.inr (cu _ _)),trivial⟩ ?_ ?_
     ·refine az 0 ?_ (az 1 ?_ (az 2 ?_ (az 3 ?_ (az 4 ?_ (az 5 ?_ (az 6 ?_ (az 7 ?_ (az 8 ?_ (az 9 ?_ (eY 10))))))))));exact aIs;refine bF λa w c=>⟨(ay rfl),_,run_move _ rfl w,(c.was 1 rfl)⟩
      ·refine bF λa w c=>⟨(ay rfl),.pointer ↑(b1,lI),?_,rfl⟩
       have e33:a.eval (.tmp 33)=.slice ↑(b1,lI) n1 c1:=(c.new 1 33)
       have jS:a.eval (.const (.int .i64 0))=.int .i64 0:=rfl;generalize a.eval=ρ at e33 jS|-;simp[execOp,e33,jS,go_sem,j1]
      refine bF λa w c=>⟨(ay rfl),_,Bl rfl ((c.new 2 34):a.eval (.tmp 34)=.pointer ↑(b1,lI)) (by rw[World.cell?_of_block (w:=w4) (c.but.block _ hb1 HNB.out.1)];exact c0) (by rw[World.cell?_of_block (w:=w4) (c.but.block _ hb1 HNB.out.1)];exact oO),rfl⟩
      refine lh λa w c=>⟨(ay rfl),_,_,yT rfl ((c.new 3 35):a.eval (.tmp 35)=jv z1) w,jh.aU aC,jy.new c.but.size⟩
      refine lh λa w c=>?_;have e_:a.eval (.tmp 32)=vk:=(c.new 0 32)
      have hO_:jy w4.heap.size z1 (a.eval (.tmp 36)) w:=(c.new 4 36)
      obtain⟨v_,w_,hr_,hG_,hT_⟩:=hO_.append 25 25 underlying25 Tryz.kY (c.evm rfl) hZk adr.out Ku.out Kw.out;exact aHz;refine bF λa w c=>⟨(ay rfl),_,run_move _ rfl w,(c.was 1 rfl)⟩
      refine bF λa w c=>⟨(ay rfl),_,yR 1 rfl ((c.new 6 38):a.eval (.tmp 38)=.slice ↑(b1,lI) n1 c1) rfl ae ae w,rfl⟩
      refine bF λa w c=>⟨(ay rfl),_,run_assign _ rfl w,((c.new 5 37))⟩
      refine bF λa w c=>⟨(ay rfl),_,run_assign _ rfl w,(c.new 7 39)⟩
     intro s w5 hB hold hnew;have f2:s 2=.slice ↑(b2,jC) m1 c2:=hold 2;have f3:_=undef:=hold 3;have f4:_=undef:=hold 4;have f5:_=undef:=hold 5;have f6:s 6=↑():=hold 6;have f40:_=undef:=hold 40;have f41:_=undef:=hold 41;have f42:_=undef:=hold 42;have f43:_=undef:=hold 43;have f44:_=undef:=hold 44;have f1:s 1=.slice (kM 2 ↑(b1,lI) c1 1) (n1-1) (c1-1):=hnew 9 1;have hG:mg w4 vk (M++P++[z1]) (s 0) w5:=hnew 8 0;change Exit.inBlock _ _ .normal ⟨_,_⟩ _;simp only[List.range,List.range.loop,List.map];simp only[f2,f3,f4,f5,f6,f40,f41,f42,f43,f44,f1];clear hold hnew;generalize s 7=u7,s 8=u8,s 9=u9,s 10=u10,s 11=u11,s 12=u12,s 13=u13,s 14=u14,s 15=u15,s 16=u16,s 17=u17,s 18=u18,s 19=u19,s 20=u20,s 21=u21,s 22=u22,s 23=u23,s 24=u24,s 25=u25,s 26=u26,s 27=u27,s 28=u28,s 29=u29,s 30=u30,s 31=u31;generalize s 0=vn at*;generalize s 36=adw,s 37=ahc
     go_wp2_with fail
     go_roundw
     case rel=>exact⟨P++[z1],_,_,_,_,_,_,_,_,rfl,rfl,zq (HM4.next hB (by rw[<-aDA];exact hG) (HM4.a.from_ (k:=1) ae) HM4.b (by rw[HM4.eq,QO HX1.out HX2.out HLS.out,aDA];rfl) (by simp;omega))⟩
     case measure=>simp[slen];omega
    go_wp2_with fail
    refine bD dH [λv _=>v=.slice ↑(b2,jC) m1 c2,λv _=>v=.pointer ↑(b2,jC),λv _=>v=.pointer ↑(b2,jC),λv _=>v=.slice z2.1.1 z2.1.2.1 z2.1.2.2,λv _=>v=.slice ↑(b1,lI) n1 c1,λv _=>v=.pointer ↑(b1,lI),λv _=>v=.pointer ↑(b1,lI),λv _=>v=.slice z1.1.1 z1.1.2.1 z1.1.2.2,λv _=>v=.bool true]
     45 rfl ah ⟨aB _,aB _,aB _,aB _,aB _,aB _,aB _,aB _,aB _,trivial⟩ ?_ ?_
    exact aFq;intro s w4 oN hold hnew;have f0:s 0=vk:=hold 0;have f1:s 1=.slice ↑(b1,lI) n1 c1:=hold 1;have f2:s 2=.slice ↑(b2,jC) m1 c2:=hold 2;have f3:_=undef:=hold 3;have f4:_=undef:=hold 4;have f5:_=undef:=hold 5;have f6:s 6=↑():=hold 6;have f40:_=undef:=hold 40;have f41:_=undef:=hold 41;have f42:_=undef:=hold 42;have f43:_=undef:=hold 43;have f44:_=undef:=hold 44;have f23:s 23=.bool true:=hnew 8 23;change Exit.then _ _ .normal ⟨_,_⟩ _;simp only[List.range,List.range.loop,List.map];simp only[f0,f1,f2,f3,f4,f5,f6,f40,f41,f42,f43,f44,f23];clear hold hnew;generalize s 7=u7,s 8=u8,s 9=u9,s 10=u10,s 11=u11,s 12=u12,s 13=u13,s 14=u14,s 24=u24,s 25=u25,s 26=u26,s 27=u27,s 28=u28,s 29=u29,s 30=u30,s 31=u31,s 32=u32,s 33=u33,s 34=u34,s 35=u35,s 36=u36,s 37=u37,s 38=u38,s 39=u39
    go_wp2_with fail
    replace c0:=(oN.cell (p:=⟨b1,lI,none⟩) hb1).trans c0;replace oO:=(oN.cell (p:=⟨b1,lI+1,none⟩) hb1).trans oO;replace d0:=(oN.cell (p:=⟨b2,jC,none⟩) hb2).trans d0;replace d1:=(oN.cell (p:=⟨b2,jC+1,none⟩) hb2).trans d1;have adr:=zq (HV1.out.ev oN);have ads:=zq (HV2.out.ev oN);replace Ku:=zq (Ku.out w4 oN);replace Kv:=zq (Kv.out w4 oN);clear c0r d0r;have HM4:=HM.out.ev oN;have hZk:=HM4.own;have HKS:Hid (∀k∈foot vk,k<w4.heap.size):=zq (HM.out.wZ oN.size);replace hb1:b1<w4.heap.size:=aDf hb1 oN.size;replace hb2:b2<w4.heap.size:=aDf hb2 oN.size;refine jb dH (foot vk) 5 [λv _=>v=vk,λv _=>v=.slice ↑(b2,jC) m1 c2,λv _=>v=.pointer ↑(b2,jC),λv _=>v=jv z2,jy w4.heap.size z2,mg w4 vk (M++P++[z2]),λv _=>v=.slice ↑(b2,jC) m1 c2,λv _=>v=.slice (kM 2 ↑(b2,jC) c2 1) (m1-1) (c2-1),mg w4 vk (M++P++[z2]),λv _=>v=.slice (kM 2 ↑(b2,jC) c2 1) (m1-1) (c2-1)]
     45 rfl ah ⟨aB _,aB _,aB _,aB _,jy.mono,mg.mono,aB _,aB _,mg.mono,aB _,trivial⟩ ⟨.inr (.inr (cu _ _)),.inr (.inr (cu _ _)),.inr (.inr (cu _ _)),.inr (.inr (cu _ _)),.inr (.inr (jy.yu (λk hk=>HKS.out k hk))),.inl rfl,.inr (.inr (cu _ _)),.inr (.inr (cu _ _)),.inr (.inl ah),.inr (.inr (cu _ _)),trivial⟩ ?_ ?_
    ·refine az 0 ?_ (az 1 ?_ (az 2 ?_ (az 3 ?_ (az 4 ?_ (az 5 ?_ (az 6 ?_ (az 7 ?_ (az 8 ?_ (az 9 ?_ (eY 10))))))))));exact aIs;refine bF λa w c=>⟨(ay rfl),_,run_move _ rfl w,(c.was 2 rfl)⟩
     ·refine bF λa w c=>⟨(ay rfl),.pointer ↑(b2,jC),?_,rfl⟩
      have e25:a.eval (.tmp 25)=.slice ↑(b2,jC) m1 c2:=(c.new 1 25)
      have jS:a.eval (.const (.int .i64 0))=.int .i64 0:=rfl;generalize a.eval=ρ at e25 jS|-;simp[execOp,e25,jS,go_sem,j2]
     refine bF λa w c=>⟨(ay rfl),_,Bl rfl ((c.new 2 26):a.eval (.tmp 26)=.pointer ↑(b2,jC)) (by rw[World.cell?_of_block (w:=w4) (c.but.block _ hb2 HNB.out.2)];exact d0) (by rw[World.cell?_of_block (w:=w4) (c.but.block _ hb2 HNB.out.2)];exact d1),rfl⟩
     refine lh λa w c=>⟨(ay rfl),_,_,yT rfl ((c.new 3 27):a.eval (.tmp 27)=jv z2) w,jh.aU aC,jy.new c.but.size⟩
     refine lh λa w c=>?_;have e_:a.eval (.tmp 24)=vk:=(c.new 0 24)
     have hO_:jy w4.heap.size z2 (a.eval (.tmp 28)) w:=(c.new 4 28)
     obtain⟨v_,w_,hr_,hG_,hT_⟩:=hO_.append 25 25 underlying25 Tryz.kY (c.evm rfl) hZk ads.out Kv.out Kw.out;exact aHz;refine bF λa w c=>⟨(ay rfl),_,run_move _ rfl w,(c.was 2 rfl)⟩
     refine bF λa w c=>⟨(ay rfl),_,yR 1 rfl ((c.new 6 30):a.eval (.tmp 30)=.slice ↑(b2,jC) m1 c2) rfl ae ae w,rfl⟩
     refine bF λa w c=>⟨(ay rfl),_,run_assign _ rfl w,((c.new 5 29))⟩
     refine bF λa w c=>⟨(ay rfl),_,run_assign _ rfl w,(c.new 7 31)⟩
    intro s w5 hB hold hnew;have f1:s 1=.slice ↑(b1,lI) n1 c1:=hold 1;have f3:_=undef:=hold 3;have f4:_=undef:=hold 4;have f5:_=undef:=hold 5;have f6:s 6=↑():=hold 6;have f40:_=undef:=hold 40;have f41:_=undef:=hold 41;have f42:_=undef:=hold 42;have f43:_=undef:=hold 43;have f44:_=undef:=hold 44;have f2:s 2=.slice (kM 2 ↑(b2,jC) c2 1) (m1-1) (c2-1):=hnew 9 2;have hG:mg w4 vk (M++P++[z2]) (s 0) w5:=hnew 8 0;change Exit.inBlock _ _ .normal ⟨_,_⟩ _;simp only[List.range,List.range.loop,List.map];simp only[f1,f3,f4,f5,f6,f40,f41,f42,f43,f44,f2];clear hold hnew;generalize s 7=u7,s 8=u8,s 9=u9,s 10=u10,s 11=u11,s 12=u12,s 13=u13,s 14=u14,s 15=u15,s 16=u16,s 17=u17,s 18=u18,s 19=u19,s 20=u20,s 21=u21,s 22=u22,s 23=u23,s 32=u32,s 33=u33,s 34=u34,s 35=u35,s 36=u36,s 37=u37,s 38=u38,s 39=u39;generalize s 0=vn at*;generalize s 28=QP,s 29=Uk
    go_wp2_with fail
    go_roundw
    case rel=>exact⟨P++[z2],_,_,_,_,_,_,_,_,rfl,rfl,zq (HM4.next hB (by rw[<-aDA];exact hG) HM4.a (HM4.b.from_ (k:=1) ae) (by rw[HM4.eq,Ui HX1.out HX2.out HLS.out,aDA];rfl) (by simp;omega))⟩
    case measure=>simp[slen];omega
   have i2:¬(0:Int)<(m1:Int):=ae;have HXY:Hid (mergeF gz X1 Y1=X1++Y1):=zq (by
    rw[aDv (by rw[HM.out.b.len];omega:Y1.length=0),Ub,aD5])
   exact aFz
  have i1:¬(0:Int)<(n1:Int):=ae;have HXY:Hid (mergeF gz X1 Y1=X1++Y1):=zq (by
   rw[aDv (by rw[HM.out.a.len];omega:X1.length=0),o8,aDW])
  exact aFz
theorem Oi{ρ:Operand->au}{o:Oper}{x:Operand}{A:Option Addr}{n cap:Nat}(lo hi k:Nat){c c':Operand}(ho:o.op=.slice 25 x (some c) (some c') none)(h:ρ x=.slice A n cap)(hc:ρ c=↑lo)(hc':ρ c'=↑hi)(hk:hi=lo+k)(h0:0<lo)(hle:hi<=cap)(w:ak):
  (execOp ρ o).run ax w=.ok (.value (.slice (kM 2 A cap lo) k (cap-lo))) w:=by
 have h1:(lo:Int)<=(hi:Int):=ae;have h2:(0:Int)<=(lo:Int):=ae;have h3:(hi:Int)<=(cap:Int):=ae;have h4:hi-lo=k:=ae;have ht:Tryz.prog.underlying 25=some (.slice (Tryz.prog.elem 25)):=ah;have hs:(sizeOf (Tryz.prog.elem 25)).run ax w=.ok 2 w:=ah;unfold execOp;rw[ho];simp[h,hc,hc',run_sliceAt_slice w 25 _ _ _ _ ht,run_slice_lh w 25 A n cap ht .i64 .i64 (lo:Int) (hi:Int) h2 h1 h3,hs,Result.andThen,sliced,kM,h4]
def Merged(b0:Nat)(w4:ak)(vk:au)(Z:List J)(v:au)(w:ak):Prop:=o_ w v Z/\∀g,v.ownBlock=some g->b0<=g
theorem Merged.mono{b0:Nat}{w4:ak}{vk:au}{Z:List J}:kK (Merged b0 w4 vk Z):=λv w w' hE ⟨h,hh⟩=>⟨h.ev hE,hh⟩
structure xe(w:ak)(Z:List J)(K N:Nat)(v:au)(M:List J)(A1:Option Addr)(n1 c1:Nat)(Z1:List J)(wr:ak):Prop where
 own:o_ wr v M
 high:∀g,v.ownBlock=some g->w.heap.size<=g
 rest:Zs w.heap.size wr A1 n1 c1 Z1
 alike:Alike gz (M++Z1) Z
 right:dN gz Z
 pieces:∃p q,iD gz p M/\iD gz q Z1/\(2*p+q<=K∨(q=0/\2*p<=K+1))
 ev:Ev w wr
 size:M.length+n1=N
theorem xe.okR{w:ak}{Z:List J}{K N:Nat}{v:au}{M:List J}{A1:Option Addr}{n1 c1:Nat}{Z1:List J}{wr:ak}(h:xe w Z K N v M A1 n1 c1 Z1 wr):dN gz Z1:=λz hz=>h.right z (h.alike.mem (aD7 _ hz))
theorem akx{α:Type}(l:List α)(k1 k2:Nat):l=l.take k1++((l.drop k1).take k2++l.drop (k1+k2)):=by rw[<-aEP,aDS,aDS]
theorem xe.next{w:ak}{Z:List J}{K N:Nat}{v:au}{M:List J}{A1:Option Addr}{n1 c1:Nat}{Z1:List J}{wr:ak}(h:xe w Z K N v M A1 n1 c1 Z1 wr)(h0:0<n1){k1 k2:Nat}(nX:Bj gz Z1 k1)(hk2:Bj gz (Z1.drop k1) k2)
  {vn:au} {w4 w5:ak} (gy:Ev wr w4) (hB:But (foot v) w4 w5) (hG:Merged w.heap.size w4 v (M++mergeF gz (Z1.take k1) ((Z1.drop k1).take k2)) vn w5):
  xe w Z K N vn (M++mergeF gz (Z1.take k1) ((Z1.drop k1).take k2)) (kM 2 A1 c1 (k1+k2)) (n1-(k1+k2)) (c1-(k1+k2)) (Z1.drop (k1+k2)) w5:=by
 have hr1:=h.okR;have hlen:=h.rest.len;have ayf:=nX.le;have asH:k1+k2<=Z1.length:=by have:=hk2.le;rw[aDD]at this;omega
 have hB':Below w.heap.size w4 w5:=hB.below (aDr h.ev.size gy.size) λk hk=>h.high k (aG.1 hk);have hE:Ev w w5:=Below.trans (h.ev.trans gy) hB';refine⟨hG.1,hG.2,((h.rest.ev gy).below hB').from_ ae,?_,h.right,?_,hE,?_⟩;refine Alike.trans (λr=>?_) h.alike
 conv=>rhs;rw[akx Z1 k1 k2]
 rw[kS,kS,kS,QE _ _ (hr1.take k1) ((hr1.drop k1).take k2) (nX.rises hr1),kS,kS,aDA,aDA];obtain⟨p,q,hp,hq,WB⟩:=h.pieces;have fU:=QD _ _ (hr1.take k1) ((hr1.drop k1).take k2) (nX.rises hr1) (hk2.rises (hr1.drop k1));have hp':=hp.snoc fU
 cases q with
 | zero=>have:=hq.none;rw[this]at hlen;simp at hlen;omega
 | succ q=>
  have BU:=hq.run nX
  cases q with
  | zero=>
   refine⟨p+1,0,hp',?_,.inr ⟨rfl,ae⟩⟩;rw[<-aEP,BU.none,List.drop_nil];exact iD.nil_
  | succ q=>
   refine⟨p+1,q,hp',?_,.inl ae⟩;rw[<-aEP];exact BU.run hk2
 have:=h.size;rw[aDd,Og,aDP,aDP,aDD];omega
theorem IP{A:Option Addr}{n cap:Nat}{Z:List J}(w:ak)(h:Zs w.heap.size w A n cap Z)(hsz:n<=1000000000000)(hr:dN gz Z)(K:Nat)(hp:iD gz K Z):
  Calls ax 112 #[.slice A n cap] w λe w'=>∃A' cap' Z',e=.returned (.slice A' n cap')/\Zs w'.heap.size w' A' n cap' Z'/\Alike gz Z' Z/\iD gz ((K+1) / 2) Z'/\Ev w w':=by
 have dH:Tryz.prog.follows .mixedOrders=true:=ah;obtain⟨i0,uj,hz0,hs0,hb0⟩:=aE' Tryz.kY;have hmk:∀w1:ak,o_ w1 (.slice ↑w 0 n) []->w.grownBy w1 none->xe w Z K n (.slice ↑w 0 n) [] A n cap Z w1:=λw1 hz hg=>by have hE:Ev w w1:=(But.grown (K:=[]) hg (λg e=>by cases e)).ev (λk hk=>by cases hk);exact⟨hz,by rintro g ⟨⟩;exact aC8 _,h.ev hE,Alike.refl _,hr,⟨0,K,iD.nil_,hp,.inl ae⟩,hE,aj⟩
 have HMK:=zq hmk;clear hmk h hr hp;obtain⟨b0,Zt⟩:∃b0,b0=w.heap.size:=⟨_,rfl⟩
 go_enter func112,ntmps112
 go_wp2_with (first|(at_make;refine wpList_make_own _ rfl (.const (.int .i64 0)) (.tmp 7) 25 rfl 0 47 i0 _ 2 underlying25 uj hz0 hs0 .i64 .i64 (n:Int) n rfl rfl rfl (by rw[hb0];omega) (by unfold maxLen;omega) (aDl _) ?_;intro w1 hz1 hg1;have HST:=zq (HMK.out w1 ⟨hz1,λ_ hz=>by cases hz⟩ hg1)))
 go_loopw [0,3] (λzv vk wr=>∃M A1 n1 c1 Z1,zv=.slice A1 n1 c1/\Hid (xe w Z K n vk M A1 n1 c1 Z1 wr)) (λzv _ _=>slen zv)
 case atStart=>exact⟨[],A,n,cap,Z,rfl,HST⟩
 case round=>
  obtain⟨M,A1,n1,c1,Z1,rfl,HM⟩:=hrel;obtain⟨vk,hvk⟩:∃vk,vk=u3:=⟨_,rfl⟩
  rw[<-hvk]at HM|-;clear hvk;have uC:=HM.out.rest.le;have hc1:=HM.out.rest.max;have hN:=HM.out.size;by_cases k0:0<n1
  ·have i1:(0:Int)<(n1:Int):=ae;have Bo:=zq (Kt wr HM.out.rest);go_upto_region 4 with (first|((with_reducible refine Bo.out.mono ?_);rintro e w2 ⟨⟨k1,rfl,nX⟩,dJ⟩))
   have Ul:=zq nX;have j1:k1<=n1:=by rw[<-HM.out.rest.len];exact nX.le
   have j2:1<=k1:=nX.pos (by rw[HM.out.rest.len];exact k0);clear nX;have i2:(0:Int)<=(k1:Int):=ae;have i3:(k1:Int)<=(n1:Int):=ae;have hR2:=Kt w2 ((HM.out.rest.ev dJ).from_ j1);obtain⟨A2,iq⟩:∃A2,kM 2 A1 c1 k1=A2:=⟨_,rfl⟩
   rw[iq]at hR2;have Ht:=zq hR2;clear hR2;unfold kM at iq;go_upto_region 5 with (first|((with_reducible refine Ht.out.mono ?_);rintro e w4 ⟨⟨k2,rfl,hk2⟩,jW⟩;obtain⟨kb,hkb⟩:∃kb,kb=k1+k2:=⟨_,rfl⟩;have j3:k1+k2<=n1:=by {have:=hk2.le;rw[aDD,HM.out.rest.len]at this;omega};have hadd:IntKind.i64.wrap ((k1:Int)+(k2:Int))=(kb:Int):=by {rw[show (k1:Int)+(k2:Int)=(kb:Int) by omega];exact IntWalk.i64_in _ ae}))
   clear hadd;have HK2:=zq hk2;clear hk2;rw[show (k1:Int)+(k2:Int)=(kb:Int) by omega];have oN:=dJ.trans jW;have hr4:=HM.out.rest.ev oN;rw[<-Zt]at hr4;have HMG:=zq (λw5 (h5:Ev w4 w5)=>Xr (b0:=b0) w5 ((HM.out.own.ev oN).ev h5) (λg hg=>Zt▸HM.out.high g hg) ((hr4.ev h5).to k1 j1) (((hr4.ev h5).from_ j1).to k2 ae) ae);have HKB:=zq hkb;have nM:Hid (0<k1):=zq j2;have j4:kb<=n1:=ae;have j5:kb<=c1:=ae;have j6:1<=kb:=ae;clear hr4 hkb j3;refine jb dH (foot vk) 8 [λv _=>v=vk,λv _=>v=.slice A1 n1 c1,λv _=>v=↑k1,λv _=>v=.slice A1 k1 c1,λv _=>v=.slice A1 n1 c1,λv _=>v=↑k1,λv _=>v=↑kb,λv _=>v=.slice (kM 2 A1 c1 k1) k2 (c1-k1),Merged b0 w4 vk (M++mergeF gz (Z1.take k1) ((Z1.drop k1).take k2)),Merged b0 w4 vk (M++mergeF gz (Z1.take k1) ((Z1.drop k1).take k2))]
    33 rfl ah ⟨aB _,aB _,aB _,aB _,aB _,aB _,aB _,aB _,Merged.mono,Merged.mono,trivial⟩ ⟨.inr (.inr (cu _ _)),.inr (.inr (cu _ _)),.inr (.inr (cu _ _)),.inr (.inr (cu _ _)),.inr (.inr (cu _ _)),.inr (.inr (cu _ _)),.inr (.inr (cu _ _)),.inr (.inr (cu _ _)),.inl rfl,.inr (.inl ah),trivial⟩ ?_ ?_
   refine az 0 ?_ (az 1 ?_ (az 2 ?_ (az 3 ?_ (az 4 ?_ (az 5 ?_ (az 6 ?_ (az 7 ?_ (az 8 ?_ (az 9 ?_ (eY 10))))))))));refine bF λa w c=>⟨(ay rfl),_,run_move _ rfl w,(c.was 3 rfl)⟩
   exact aIs;refine bF λa w c=>⟨(ay rfl),_,run_move _ rfl w,(c.was 4 rfl)⟩
   refine bF λa w c=>⟨(ay rfl),_,QH k1 rfl ((c.new 1 21):a.eval (.tmp 21)=.slice A1 n1 c1) (c.new 2 22) ae w,rfl⟩
   exact aIs;refine bF λa w c=>⟨(ay rfl),_,run_move _ rfl w,(c.was 4 rfl)⟩
   refine bF λa w c=>⟨(ay rfl),_,run_move _ rfl w,(c.was 5 rfl)⟩
   refine bF λa w c=>⟨(ay rfl),_,Oi k1 kb k2 rfl ((c.new 4 24):a.eval (.tmp 24)=.slice A1 n1 c1) (c.new 5 25) (c.new 6 26) HKB.out nM.out ae w,rfl⟩
   refine Dt λa w c=>⟨(ay rfl),168,#[vk,.slice A1 k1 c1,.slice (kM 2 A1 c1 k1) k2 (c1-k1)],?_,?_⟩
   rw[bK 168 _ _ rfl ah];have bn:a.eval (.tmp 20)=vk:=(c.new 0 20)
   have jk:a.eval (.tmp 23)=.slice A1 k1 c1:=(c.new 3 23)
   have e_2:a.eval (.tmp 27)=.slice (kM 2 A1 c1 k1) k2 (c1-k1):=(c.new 7 27)
   simp[bn,jk,e_2];refine(HMG.out w (c.evm rfl)).mono ?_;rintro e w' ⟨v',rfl,hz,hh,hbt,hsp⟩;exact⟨_,rfl,jh.self hbt,hz,hh⟩;refine bF λa w c=>⟨(ay rfl),_,run_assign _ rfl w,((c.new 8 28))⟩
   intro s w5 hB hold hnew;have f0:s 0=.slice A1 n1 c1:=hold 0;have f1:_=undef:=hold 1;have f2:s 2=↑():=hold 2;have f4:s 4=↑k1:=hold 4;have f5:s 5=↑kb:=hold 5;have f6:s 6=.slice A n cap:=hold 6;have f7:s 7=↑n:=hold 7;have f8:s 8=.slice ↑w 0 n:=hold 8;have f32:_=undef:=hold 32;have hG:Merged b0 w4 vk (M++mergeF gz (Z1.take k1) ((Z1.drop k1).take k2)) (s 3) w5:=hnew 9 3;change Exit.then _ _ .normal ⟨#[s 0,s 1,s 2,s 3,s 4,s 5,s 6,s 7,s 8,s 9,s 10,s 11,s 12,s 13,s 14,s 15,s 16,s 17,s 18,s 19,s 20,s 21,s 22,s 23,s 24,s 25,s 26,s 27,s 28,s 29,s 30,s 31,s 32],_⟩ _;simp only[f0,f1,f2,f4,f5,f6,f7,f8,f32];clear hold hnew;generalize s 9=u9,s 10=u10,s 11=u11,s 12=u12,s 13=u13,s 14=u14,s 15=u15,s 16=u16,s 17=u17,s 18=u18,s 19=u19,s 29=u29,s 30=u30,s 31=u31;generalize s 3=vn at*;generalize s 28=QP;obtain⟨A3,hA3⟩:∃A3,kM 2 A1 c1 kb=A3:=⟨_,rfl⟩
   have HA3:=zq hA3;unfold kM at hA3;have i4:(0:Int)<=(kb:Int):=ae;have i5:(kb:Int)<=(n1:Int):=ae;go_wp2;go_roundw
   case rel=>
    have hnx:=HM.out.next k0 Ul.out HK2.out oN hB (Zt▸hG)
    rw[<-HKB.out,HA3.out]at hnx;exact⟨_,A3,_,_,_,rfl,zq hnx⟩
   case measure=>simp[slen];omega
  have i1:¬(0:Int)<(n1:Int):=ae;go_wp2;go_ret;have hZ1:Z1=[]:=aDv (by rw[HM.out.rest.len];omega);have Jj:=HM.out.alike;rw[hZ1,aD5]at Jj;obtain⟨p,q,hp,hq,WB⟩:=HM.out.pieces;obtain⟨A',cap',hv,hzs,_⟩:=HM.out.own.form;have hMn:M.length=n:=ae;rw[hMn]at hv hzs;exact⟨A',cap',aD8 Ending.returned hv,M,hzs,Jj,hp.mono ae,HM.out.ev⟩
structure O_(w:ak)(Z:List J)(n:Nat)(g:Nat)(A1:Option Addr)(c1:Nat)(Z1:List J)(wr:ak):Prop where
 rest:Zs wr.heap.size wr A1 n c1 Z1
 alike:Alike gz Z1 Z
 right:dN gz Z
 pieces:iD gz g Z1
 ev:Ev w wr
theorem QQ{A:Option Addr}{n cap:Nat}{Z:List J}(w:ak)(h:Zs w.heap.size w A n cap Z)(hsz:n<=1000000000000)(hr:dN gz Z):
  Calls ax 60 #[.slice A n cap] w λe w'=>∃A' cap' Z',e=.returned (.slice A' n cap')/\Zs w'.heap.size w' A' n cap' Z'/\Alike gz Z' Z/\jg gz Z'/\Ev w w':=by
 have HST:Hid (O_ w Z n n A cap Z w):=zq ⟨h,Alike.refl _,hr,by have:=iD.ag1 (key:=gz) Z;rwa [h.len]at this,Ev.refl _⟩;clear h hr;go_enter func60,ntmps60;go_wp2
 go_loopg [0] n (λg zv wr=>∃A1 c1 Z1,zv=.slice A1 n c1/\Hid (O_ w Z n g A1 c1 Z1 wr))
 case atStart=>exact⟨A,cap,Z,rfl,HST⟩
 case round=>
  obtain⟨A1,c1,Z1,rfl,HO⟩:=hrel;have HR:=zq (Kt wr HO.out.rest);have HMP:=zq (λw1 (h1:Ev wr w1)=>IP w1 ((HO.out.rest.ev h1).wide h1.size (aC8 _)) hsz (HO.out.alike.symm.right HO.out.right) gk HO.out.pieces)
  go_upto_if 7 with (first|((with_reducible refine HR.out.mono ?_);rintro e w2 ⟨⟨k,rfl,hk⟩,dJ⟩))
  have hkn:k<=n:=by rw[<-HO.out.rest.len];exact hk.le
  by_cases hlt:k<n
  ·have i1:(k:Int)<(n:Int):=ae;have HG:Hid (2<=gk):=zq (by
    by_cases h2:2<=gk;exact h2;have:=hk.whole (HO.out.pieces.mono (q:=1) ae).one;rw[HO.out.rest.len]at this;omega)
   clear hk
   go_wp2_with (first|((with_reducible refine(HMP.out _ dJ).mono ?_);rintro e w3 ⟨A3,c3,Z3,rfl,hz3,ha3,hp3,jW⟩))
   go_roundg ((gk+1) / 2)
   case measure=>have:=HG.out;omega
   case rel=>exact⟨A3,c3,Z3,rfl,zq ⟨hz3,ha3.trans HO.out.alike,HO.out.right,hp3,(HO.out.ev.trans dJ).trans jW⟩⟩
  have i1:¬(k:Int)<(n:Int):=ae;have hrs:jg gz Z1:=by have:=hk.rises (HO.out.alike.symm.right HO.out.right);rwa [aDj (by rw[HO.out.rest.len];omega)]at this
  have HRS:=zq hrs;clear hk hrs;go_wp2;go_ret;have hz2:=(HO.out.rest.ev dJ).wide dJ.size (aC8 _);exact⟨A1,c1,rfl,Z1,hz2,HO.out.alike,HRS.out,HO.out.ev.trans dJ⟩
def Ky:List I->Nat
 | []=>0
 | x::l=>1+(l.takeWhile λy=>decide (y.1=x.1)).length
def groupF:Nat->List I->Option (List I)
 | 0,_=>some []
 | _+1,[]=>some []
 | f+1,x::l=>match sumN 0 ((x::l).take (Ky (x::l))) with
  | none=>none
  | some m=>(groupF f ((x::l).drop (Ky (x::l)))).map λs=>if m=0 then s else (x.1,iO m,ji m)::s
def uD(l:List I):Option (List I):=groupF l.length (mF wX l)
theorem Kz(x:I)(l:List I):1<=Ky (x::l):=by show 1<=1+(l.takeWhile _).length;omega
theorem yU:∀(f f':Nat) (l:List I),l.length<=f->l.length<=f'->groupF f l=groupF f' l
 | 0,0,_,_,_=>rfl
 | 0,f'+1,l,h,_=>by have:=aDv (Nat.le_zero.1 h);subst this;rfl
 | f+1,0,l,_,h=>by have:=aDv (Nat.le_zero.1 h);subst this;rfl
 | f+1,f'+1,[],_,_=>rfl
 | f+1,f'+1,x::l,h,h'=>by
  have hp:=Kz x l;have h1:((x::l).drop (Ky (x::l))).length<=f:=by rw[aDD];simp only[aDh]at h|-;omega
  have h2:((x::l).drop (Ky (x::l))).length<=f':=by rw[aDD];simp only[aDh]at h'|-;omega
  simp only[groupF];rw[yU f f' _ h1 h2]
theorem yV(x:I)(l:List I):groupF (x::l).length (x::l)=match sumN 0 ((x::l).take (Ky (x::l))) with
  | none=>none
  | some m=>(groupF ((x::l).drop (Ky (x::l))).length ((x::l).drop (Ky (x::l)))).map λs=>if m=0 then s else (x.1,iO m,ji m)::s:=by
 have hp:=Kz x l;rw[aDh];simp only[groupF];rw[yU l.length ((x::l).drop (Ky (x::l))).length _ (by rw[aDD,aDh];omega) (aC8 _)]
theorem vT{α:Type}{p:α->Bool}:∀(l:List α) (k:Nat),k<=l.length->(∀i x,i<k->l[i]?=some x->p x=true)->(∀x,l[k]?=some x->p x=false)->(l.takeWhile p).length=k
 | [],k,hk,_,_=>by simp at hk;simp[hk]
 | x::l,0,_,_,h=>by have:=h x rfl;simp[this]
 | x::l,k+1,hk,h1,h2=>by have h0:=h1 0 x ae rfl;rw[List.takeWhile_cons_of_pos h0,aDh,vT l k (by simpa using hk) (λi y hi hy=>h1 (i+1) y ae (by simpa using hy)) (λy hy=>h2 y (by simpa using hy))]
theorem Hu{Z:List J}{i:Nat}{x:I}(h:(aK Z)[i]?=some x):∃z,Z[i]?=some z/\z.2=x:=by unfold aK at h;rw[aDG,aEF]at h;exact h
theorem nZ(Z:List J):(aK Z).length=Z.length:=by simp[aK]
theorem Dy(Z:List J)(k:Nat):aK (Z.take k)=(aK Z).take k:=by simp[aK]
theorem QR(Z:List J)(k:Nat):aK (Z.drop k)=(aK Z).drop k:=by simp[aK]
theorem Hw{a b:List V}(h:bZ a=true):yO a b=decide (a=b):=by unfold yO;rw[h];rfl
theorem aaS.eq{Z:List J}{k:Nat}(h:aaS Z k)(hr:dN gz Z):k=Ky (aK Z):=by
 obtain⟨h1,h2,h3,h4⟩:=h
 cases Z with
 | nil=>simp at h1;omega
 | cons z Z=>
  have e:aK (z::Z)=z.2::aK Z:=rfl;rw[e];show k=1+((aK Z).takeWhile λy=>decide (y.1=z.2.1)).length;rw[vT (aK Z) (k-1) (by rw[nZ];simp at h1;omega)];omega;intro i x hi hx;obtain⟨y,hy,rfl⟩:=Hu hx;have:=h3 (i+1) y z ae (by simpa using hy) rfl;rw[Hw (hr y (aDc _ (aDb hy)))]at this;exact this;intro x hx;obtain⟨y,hy,rfl⟩:=Hu hx;have:=h4 y z (by rw[show k=k-1+1 by omega];simpa using hy) rfl;rw[Hw (hr y (aDc _ (aDb hy)))]at this;exact this
theorem aaU{Z:List J}(h:Z.any pq=false):dN gz Z/\nV Z:=by
 rw[List.any_eq_false]at h;have key:∀z∈Z,(bZ z.2.1&&(oQ z.2.2.1&&oQ z.2.2.2))=true:=λz hz=>by
  have h1:=h z hz;unfold pq at h1
  cases hc:(bZ z.2.1&&(oQ z.2.2.1&&oQ z.2.2.2))
  rw[hc]at h1;exact absurd rfl h1;rfl
 refine⟨λz hz=>?_,λz hz=>?_⟩
 all_goals
  have h1:=key z hz;rw[aC9,aC9]at h1
 exact h1.1;exact⟨lq.1 h1.2.1,lq.1 h1.2.2⟩
theorem QS{Z Z':List J}(hr:dN gz Z)(ha:Alike gz Z' Z)(hs:jg gz Z'):aK Z'=mF wX (aK Z):=by refine Xl (λx hx=>?_) (jg.map (λz:J=>z.2) (key':=wX) hs) (Alike.map (λz:J=>z.2) (key':=wX) ha);obtain⟨z,hz,rfl⟩:=aDz.1 hx;exact hr z hz
def Zu(res:Option (List I))(e:Ending)(w':ak):Prop:=
 match res with
 | none=>e=.returned (.tuple #[↑(),.int .i64 27])
 | some s=>∃A' cap' Z',e=.returned (.tuple #[.slice A' s.length cap',.int .i64 0])/\Zs w'.heap.size w' A' s.length cap' Z'/\aK Z'=s
def ahf(Z:List J)(e:Ending)(w':ak):Prop:=
 (Z.any pq=true/\e=.returned (.tuple #[↑(),.int .i64 1]))∨(Z.any pq=false/\Zu (uD (aK Z)) e w')
structure Making(w:ak)(b1:Nat)(L:List I)(N:Nat)(v:au)(S:List J)(A1:Option Addr)(n1 c1:Nat)(Z1:List J)(wr:ak):Prop where
 own:o_ wr v S
 rest:Zs b1 wr A1 n1 c1 Z1
 right:dN gz Z1
 parts:nV Z1
 eq:groupF L.length L=(groupF (aK Z1).length (aK Z1)).map λs=>aK S++s
 ev:Ev w wr
 high:∀g,v.ownBlock=some g->b1<=g
 base:w.heap.size<=b1
 size:S.length+n1<=N
theorem Making.cons{Z1:List J}(h:0<Z1.length):∃x l,aK Z1=x::l:=by
 cases Z1 with
 | nil=>simp at h
 | cons z Z=>exact⟨_,_,rfl⟩
theorem Making.drop{w:ak}{b1:Nat}{L:List I}{N:Nat}{v:au}{S:List J}{A1:Option Addr}{n1 c1:Nat}{Z1:List J}{wr w':ak}(h:Making w b1 L N v S A1 n1 c1 Z1 wr)(hB:Below b1 wr w'){k:Nat}(hk:k<=n1){Sn:List J}{vn:au}(hown:o_ w' vn Sn)(hhigh:∀g,vn.ownBlock=some g->b1<=g)
  (heq:groupF L.length L=(groupF (aK (Z1.drop k)).length (aK (Z1.drop k))).map λs=>aK Sn++s) (hsz:Sn.length+(n1-k)<=N):
  Making w b1 L N vn Sn (kM 2 A1 c1 k) (n1-k) (c1-k) (Z1.drop k) w':=
 ⟨hown,(h.rest.below hB).from_ hk,h.right.drop k,λz hz=>h.parts z (aEm hz),heq,Below.trans h.ev (Below.mono hB h.base),hhigh,h.base,hsz⟩
theorem Making.up{w:ak}{b1:Nat}{L:List I}{N:Nat}{v:au}{S:List J}{A1:Option Addr}{n1 c1:Nat}{Z1:List J}{wr w':ak}(h:Making w b1 L N v S A1 n1 c1 Z1 wr)(hE:Ev wr w'):Below b1 wr w':=Below.mono hE h.rest.base
theorem Making.item{w:ak}{b1:Nat}{L:List I}{N:Nat}{v:au}{S:List J}{A1:Option Addr}{n1 c1:Nat}{Z1:List J}{wr w4 w5:ak}(h:Making w b1 L N v S A1 n1 c1 Z1 wr)(gy:Ev wr w4)(qP:Ev w4 w5){A':Option Addr}{n' cap':Nat}{r:List V}(hV:Vs w5 A' n' cap' r)(hN:New w4 w5 A')(p q:Int)(o:Obj):
  ∀x∈[(((A',n',cap'),(r,p,q)):J)],Vs (w5.alloc o) x.1.1 x.1.2.1 x.1.2.2 x.2.1/\∀ad,x.1.1=some ad->ad.block<(w5.alloc o).heap.size/\v.ownBlock≠some ad.block:=λx hx=>by
 rw[aDM.1 hx];refine⟨hV.ev aC,λad e=>⟨aDf (hN ad e).2 (Ev.alloc w5 o).size,λe'=>?_⟩⟩;have h1:=h.own.lt e';have h2:=(hN ad e).1;have h3:=gy.size;omega
theorem Making.put{w:ak}{b1:Nat}{L:List I}{N:Nat}{v:au}{S:List J}{A1:Option Addr}{n1 c1:Nat}{Z1:List J}{wr w5 w6:ak}(h:Making w b1 L N v S A1 n1 c1 Z1 wr)(hE:Ev wr w5)(hB:But (foot v) w5 w6){vn:au}(hs:dE w5 v vn):Below b1 wr w6/\∀g,vn.ownBlock=some g->b1<=g:=by have h5:b1<=w5.heap.size:=aDr h.rest.base hE.size;refine⟨Below.trans (h.up hE) (hB.below h5 λk hk=>h.high k (aG.1 hk)),λg hg=>?_⟩;rcases hs g hg with h1|h1;exact h.high g h1;exact aDr h5 h1
theorem Making.fail{w:ak}{b1:Nat}{L:List I}{N:Nat}{v:au}{S:List J}{A1:Option Addr}{n1 c1:Nat}{Z1:List J}{wr:ak}(h:Making w b1 L N v S A1 n1 c1 Z1 wr)(h0:0<n1){k:Nat}(hk:aaS Z1 k)(hs:sumN 0 (aK (Z1.take k))=none):groupF L.length L=none:=by obtain⟨x,l,e⟩:=Making.cons (Z1:=Z1) (by rw[h.rest.len];exact h0);have hkr:=hk.eq h.right;rw[h.eq,e,yV];rw[Dy,e]at hs;rw[e]at hkr;rw[<-hkr,hs];rfl
theorem Making.step{w:ak}{b1:Nat}{L:List I}{N:Nat}{v:au}{S:List J}{A1:Option Addr}{n1 c1:Nat}{Z1:List J}{wr:ak}(h:Making w b1 L N v S A1 n1 c1 Z1 wr)(h0:0<n1){k:Nat}(hk:aaS Z1 k){m:Int}(hs:sumN 0 (aK (Z1.take k))=some m){z:J}(hz:Z1[0]?=some z)(Sn:List J)
  (hSn:aK Sn=aK S++(if m=0 then [] else [(z.2.1,iO m,ji m)])):groupF L.length L=(groupF (aK (Z1.drop k)).length (aK (Z1.drop k))).map λs=>aK Sn++s:=by
 obtain⟨x,l,e⟩:=Making.cons (Z1:=Z1) (by rw[h.rest.len];exact h0);have hx:x=z.2:=by
  cases Z1 with
  | nil=>simp at hz
  | cons z' Z=>
   simp at hz;subst hz;exact(List.cons.inj e).1.symm
 have hkr:=hk.eq h.right;rw[h.eq,e,yV];rw[Dy,e]at hs;rw[e]at hkr;rw[<-hkr,hs,QR,e];simp only;rw[Option.map_map,hSn];congr 1;funext s;simp only[Function.comp];by_cases hm:m=0;rw[if_pos hm,if_pos hm,aD5];rw[if_neg hm,if_neg hm,hx,aDA];rfl
theorem ady{m:Int}(h:nS m=true):(m=0/\FloatKind.f64.format.order (fl (iO m)) 0=some .eq/\FloatKind.f64.format.order (fl (ji m)) 0=some .eq)∨(m≠0/\FloatKind.f64.format.order (fl (iO m)) 0=some .gt)∨(m≠0/\FloatKind.f64.format.order (fl (iO m)) 0=some .eq/\FloatKind.f64.format.order (fl (ji m)) 0=some .gt):=by have o1:=wY (Ae h);have o2:=wY (Af h);rcases Int.lt_trichotomy m 0 with h1|h1|h1;rw[if_pos (by unfold iO;omega)]at o1;rw[if_neg (by unfold ji;omega)]at o2;exact .inr (.inr ⟨ae,o1,o2⟩);rw[if_pos (by unfold iO;omega)]at o1;rw[if_pos (by unfold ji;omega)]at o2;exact .inl ⟨h1,o1,o2⟩;rw[if_neg (by unfold iO;omega)]at o1;exact .inr (.inl ⟨ae,o1⟩)
theorem aFs(h:U:=by
 have KC:∀w4,Ev w3 w4->Ev wr w4:=λw4 h4=>jW.trans h4;have HB:Hid ((S.length+1)*40<=140737488355328):=zq ae;have HCL:=zq (λw5 (h5:Ev wr w5)=>O9 w5 (HV.out.ev h5) ae ae);subst hAz;rw[Option.map_some,aE9]at hA3;have c0r:wr.cell? ⟨b,off,none⟩=some (.slice z.1.1 z.1.2.1 z.1.2.2):=c0;have HM_:=zq hm;clear c0 hm;have j3:¬n1=0:=ae
 go_wp2_with (first|((with_reducible refine hA.out.mono ?_);rintro e w4 ⟨rfl,gy⟩;have c4:=((KC _ gy).cell (p:=⟨b,off,none⟩) hb).trans c0r;clear c0r)|((with_reducible refine(HCL.out _ (KC _ gy)).mono ?_);rintro e w5 ⟨A',cap',rfl,hV',hN',qP⟩;have hZo:=(HM.out.own.ev ((KC _ gy).trans qP)).ev (Ev.alloc w5 (.cells #[.slice A' z.1.2.1 cap',.complex .f64 (fl (iO m)) (fl (ji m))] 47));have hRo:=HM.out.item (KC _ gy) qP hV' hN' (iO m) (ji m) (.cells #[.slice A' z.1.2.1 cap',.complex .f64 (fl (iO m)) (fl (ji m))] 47))|(at_builtin;refine ig rfl 26 (.tmp 28) (.tmp 36) rfl underlying26 Tryz.kY sv S rfl hZo ↑w5 1 1 [((A',z.1.2.1,cap'),(z.2.1,iO m,ji m))] rfl (Js.one w5 ((A',z.1.2.1,cap'),(z.2.1,iO m,ji m))) hRo HB.out ?_;intro v6 w6 hz6 hb6 hs6))
 go_roundw
 case rel=>
  have hpt:=HM.out.put (((KC _ gy).trans qP).trans aC) hb6 hs6;have hd:=HM.out.drop hpt.1 j1 hz6 hpt.2 (HM.out.step k0 HK.out HSM.out HZ.out _ (by unfold aK;rw[aDk,if_neg HM_.out];rfl)) (by simp;omega);rw[HA3.out]at hd;exact⟨_,A3,_,_,_,rfl,zq hd⟩
 case measure=>simp[slen];omega):U:=h
theorem aaV{A:Option Addr}{n cap:Nat}{Z:List J}(w:ak)(h:Zs w.heap.size w A n cap Z)(hsz:n<=1000000000000)(ht:Fq Z):
  Calls ax 36 #[.slice A n cap] w λe w'=>ahf Z e w'/\Ev w w':=by
 have HCF:=zq (AV w h ht)
 cases hwr:Z.any pq
 case true=>
  rw[hwr]at HCF;have HWR:=zq hwr;clear hwr;go_enter func36,ntmps36
  go_wp2_with (first|((with_reducible refine HCF.out.mono ?_);rintro e w1 ⟨rfl,aJ⟩))
  go_ret2
  exact⟨.inl ⟨HWR.out,rfl⟩,aJ⟩
 case false=>
  rw[hwr]at HCF;obtain⟨hr,hp⟩:=aaU hwr;have HOR:=zq (λw1 (h1:Ev w w1)=>QQ w1 ((h.ev h1).wide h1.size (aC8 _)) hsz hr);obtain⟨res,hres⟩:∃res,uD (aK Z)=res:=⟨_,rfl⟩
  refine Calls.mono (R:=λe w'=>Zu res e w'/\Ev w w') ?_ (λe w' ⟨h1,h2⟩=>⟨.inr ⟨hwr,hres▸h1⟩,h2⟩);have HST:∀(w1 w2:ak) (A1:Option Addr) (c1:Nat) (Z1:List J),Ev w w1->Ev w1 w2->Zs w2.heap.size w2 A1 n c1 Z1->Alike gz Z1 Z->jg gz Z1->Making w w2.heap.size (mF wX (aK Z)) n ↑() [] A1 n c1 Z1 w2:=λw1 w2 A1 c1 Z1 h1 h2 hz ha hs=>
   ⟨o_.nil_ _,hz,ha.symm.right hr,λz hz'=>hp z (ha.mem hz'),by rw[QS hr ha hs];exact Option.map_id'.symm,h1.trans h2,λg e=>(by cases e),(h1.trans h2).size,aj⟩
  have HST:=zq HST;have aaW:Hid (groupF (mF wX (aK Z)).length (mF wX (aK Z))=res):=zq (by
   rw[<-hres];unfold uD;refine yU _ _ _ (aC8 _) ?_;have:=(yQ (key:=wX) (aK Z)).length;rw[this];exact aC8 _)
  generalize mF wX (aK Z)=L at*;clear hr hp ht hwr hres h;go_enter func36,ntmps36
  go_wp2_with (first|((with_reducible refine HCF.out.mono ?_);rintro e w1 ⟨rfl,aJ⟩)|((with_reducible refine(HOR.out _ aJ).mono ?_);rintro e w2 ⟨A1,c1,Z1,rfl,hz1,ha1,hs1,dJ⟩;have N9:=zq (HST.out w1 w2 A1 c1 Z1 aJ dJ hz1 ha1 hs1);obtain⟨b1,hb1⟩:∃b1,b1=w2.heap.size:=⟨_,rfl⟩;rw[<-hb1]at N9;clear hz1 ha1 hs1 hb1))
  go_loopw [0,4] (λzv sv wr=>∃S A1 n1 c1 Z1,zv=.slice A1 n1 c1/\Hid (Making w b1 L n sv S A1 n1 c1 Z1 wr)) (λzv _ _=>slen zv)
  case atStart=>exact⟨[],A1,n,c1,Z1,rfl,N9⟩
  case round=>
   clear N9 aJ dJ;obtain⟨S,A1,n1,c1,Z1,rfl,HM⟩:=hrel;obtain⟨sv,hsv⟩:∃sv,sv=u4:=⟨_,rfl⟩
   rw[<-hsv]at HM|-;clear hsv;have uC:=HM.out.rest.le;have hc1:=HM.out.rest.max;have hN:=HM.out.size;by_cases k0:0<n1
   ·have i1:(0:Int)<(n1:Int):=ae;have HR:=zq (QN wr HM.out.rest k0 HM.out.right);go_upto_region 7 with (first|((with_reducible refine HR.out.mono ?_);rintro e w3 ⟨⟨k,rfl,hk⟩,jW⟩))
    have j1:k<=n1:=by rw[<-HM.out.rest.len];exact hk.le
    have j2:1<=k:=hk.pos;have HK:=zq hk;clear hk;have i2:(0:Int)<=(k:Int):=ae;have i3:(k:Int)<=(c1:Int):=ae;have i4:(k:Int)<=(n1:Int):=ae;have hA:=Ug w3 ((HM.out.rest.ev jW).to k j1) (λz hz=>HM.out.parts z (aD2 hz))
    cases hs:sumN 0 (aK (Z1.take k)) with
    | none=>
     have HF:=zq (HM.out.fail k0 HK.out hs);rw[hs]at hA;replace hA:Hid (Calls ax 30 #[.slice A1 k c1] w3 λe w'=>e=.returned (.tuple #[.complex .f64 0 0,.bool false])/\Ev w3 w'):=zq hA;clear hs
     go_wp2_with (first|((with_reducible refine hA.out.mono ?_);rintro e w4 ⟨rfl,gy⟩))
     go_ret2
     rw[<-aaW.out,HF.out];exact⟨rfl,(HM.out.ev.trans jW).trans gy⟩
    | some m=>
     have HOK:=zq (Zq _ 0 m ai hs);rw[hs]at hA;replace hA:Hid (Calls ax 30 #[.slice A1 k c1] w3 λe w'=>e=.returned (.tuple #[.complex .f64 (fl (iO m)) (fl (ji m)),.bool true])/\Ev w3 w'):=zq hA;have HSM:=zq hs;clear hs;obtain⟨A3,hA3⟩:∃A3,kM 2 A1 c1 k=A3:=⟨_,rfl⟩
     have HA3:=zq hA3;unfold kM at hA3;obtain⟨b,off,z,hAz,hb,_,hz,c0,_,hv⟩:=HM.out.rest.at k0;rw[aDH,aDw]at c0;have HZ:=zq hz;have hrz:=HM.out.right z (aDb hz);have hzl:1<=z.2.1.length/\z.2.1.length<=6:=Xe hrz;have hvl:=hv.len;have HV:=zq hv;clear hz hv;rcases ady HOK.out with⟨hm,o1,o2⟩|⟨hm,o1⟩|⟨hm,o1,o2⟩
     ·generalize hPP:iO m=pp at*;generalize hQQ:ji m=qq at*;clear c0 hAz
      go_wp2_with (first|((with_reducible refine hA.out.mono ?_);rintro e w4 ⟨rfl,gy⟩))
      go_roundw
      case rel=>
       have hd:=HM.out.drop (HM.out.up (jW.trans gy)) j1 (HM.out.own.ev (jW.trans gy)) HM.out.high (HM.out.step k0 HK.out HSM.out HZ.out S (by rw[if_pos hm,aD5])) ae;rw[HA3.out]at hd;exact⟨S,A3,_,_,_,rfl,zq hd⟩
      case measure=>simp[slen];omega
     exact aFs;exact aFs
   have i1:¬(0:Int)<(n1:Int):=ae;go_wp2
   go_ret2
   have hZ1:Z1=[]:=aDv (by rw[HM.out.rest.len];omega);have heq:=HM.out.eq;rw[hZ1,aaW.out]at heq;obtain⟨A',cap',hv,hzs,_⟩:=HM.out.own.form;have Xt:(aK S).length=S.length:=nZ S;rw[heq];refine⟨⟨A',cap',S,?_,?_,?_⟩,HM.out.ev⟩;show Ending.returned (.tuple #[sv,.int .i64 0])=Ending.returned (.tuple #[.slice A' (aK S++[]).length cap',.int .i64 0]);rw[aD5,Xt,hv];show Zs wr.heap.size wr A' (aK S++[]).length cap' S;rw[aD5,Xt];exact hzs;exact(aD5 (aK S)).symm
def KD(p q:Int):Bool:=oQ p&&oQ q&&Zr p q
def QT(p q:Int):Prop:=∀w:ak,Calls ax 53 #[.complex .f64 (fl p) (fl q)] w λe w'=>e=.returned (.bool (KD p q))/\w=w'
theorem QT.part{p q:Int}(hp:Part p)(hq:Part q):QT p q:=λw=>by unfold KD;rw[lq.2 hp,lq.2 hq];exact Uh p q hp hq w
def yX(x:I):Bool:=bZ x.1&&KD x.2.1 x.2.2
def setFrom:Option (List V)->List I->Bool
 | _,[]=>true
 | none,x::l=>yX x&&setFrom (some x.1) l
 | some r,x::l=>yX x&&(eG r x.1&&setFrom (some x.1) l)
def setB(l:List I):Bool:=setFrom none l
def Zv(Z:List J):Prop:=∀z∈Z,QT z.2.2.1 z.2.2.2
def lK(Z:List J)(k:Nat):Option (List V):=if k=0 then none else (Z[k-1]?).map gz
theorem setFrom_at{Z:List J}{k:Nat}{z:J}(hz:Z[k]?=some z){prev:Option (List V)}:setFrom prev (aK (Z.drop k))=(yX z.2&&((match prev with|none=>true|some r=>eG r z.2.1)&&setFrom (some z.2.1) (aK (Z.drop (k+1))))):=by
 rw[uy hz]
 cases prev with
 | none=>simp[aK,setFrom]
 | some r=>simp[aK,setFrom]
theorem Un{Z:List J}{k:Nat}(hk:Z.length<=k)(prev:Option (List V)):setFrom prev (aK (Z.drop k))=true:=by
 rw[aDO hk]
 cases prev<;>rfl
theorem aGJ(h:U:=by
 refine aF λa w c=>⟨(ay rfl),.bool true,?_,rfl⟩
 have e22:a.eval (.tmp 22)=↑k:=(c.new 0 22)
 have jS:a.eval (.const (.int .i64 0))=.int .i64 0:=rfl;generalize a.eval=ρ at e22 jS|-;simp[execOp,e22,jS,go_sem,i6]):U:=h
theorem aGF(h:U:=by
 refine aF λa w c=>⟨(aH rfl ah (c.new 2 24)),↑j,?_,rfl⟩
 have e26:a.eval (.tmp 26)=↑k:=(c.new 4 26)
 have jS:a.eval (.const (.int .i64 1))=.int .i64 1:=rfl;generalize a.eval=ρ at e26 jS|-;simp[execOp,e26,jS,go_sem,i3]):U:=h
theorem aGl(h:U:=by
 refine aF λa w c=>⟨(aH rfl ah (c.new 2 24)),.pointer ↑(b,off+j*2),?_,rfl⟩
 have e25:a.eval (.tmp 25)=.slice ↑(b,off) n cap:=(c.new 3 25)
 have e27:a.eval (.tmp 27)=↑j:=(c.new 5 27)
 generalize a.eval=ρ at e25 e27|-;simp[execOp,e25,e27,go_sem,i4,i5]):U:=h
theorem aGR(h:U:=by
 refine aF λa w c=>⟨(aH rfl ah (c.new 2 24)),.pointer ↑(b,off+j*2),?_,rfl⟩
 have e28:a.eval (.tmp 28)=.pointer ↑(b,off+j*2):=(c.new 6 28)
 generalize a.eval=ρ at e28|-;simp[execOp,e28,go_sem]):U:=h
theorem aGm(h:U:=by
 refine aF λa w c=>⟨(aH rfl ah (c.new 2 24)),.slice A0 n0 cap0,?_,rfl⟩
 have e29:a.eval (.tmp 29)=.pointer ↑(b,off+j*2):=(c.new 7 29)
 have hc:=(c.ev.cell (p:=⟨b,off+j*2,none⟩) hb1).trans c0p;generalize a.eval=ρ at e29|-;simp[execOp,e29,hc,go_sem]):U:=h
theorem aG1(h:U:=by
 refine aF λa w c=>⟨(aH rfl ah (c.new 2 24)),.pointer ↑g,?_,rfl⟩
 have e4:a.eval (.tmp 4)=.pointer ↑g:=(c.was 4 rfl)
 generalize a.eval=ρ at e4|-;simp[execOp,e4,go_sem]):U:=h
theorem aGx(h:U:=by
 refine aF λa w c=>⟨(aH rfl ah (c.new 2 24)),.slice A1 n1 cap1,?_,rfl⟩
 have e31:a.eval (.tmp 31)=.pointer ↑g:=(c.new 9 31)
 have hc:=(c.ev.cell (p:=⟨g,0,none⟩) hg1).trans cg;generalize a.eval=ρ at e31|-;simp[execOp,e31,hc,go_sem]):U:=h
theorem aFZ(h:U:=by
 refine eP λa w c=>⟨(aH rfl ah (c.new 2 24)),54,#[.slice A0 n0 cap0,.slice A1 n1 cap1],?_,?_⟩
 rw[bK 54 _ _ rfl ah];have e30:a.eval (.tmp 30)=.slice A0 n0 cap0:=(c.new 8 30)
 have e32:a.eval (.tmp 32)=.slice A1 n1 cap1:=(c.new 10 32)
 simp[e30,e32];exact aIh):U:=h
theorem BV{b0:Nat}{A:Option Addr}{n cap:Nat}{Z:List J}(w:ak)(h:Zs b0 w A n cap Z)(hk:Zv Z):
  Calls ax 29 #[.slice A n cap] w λe w'=>e=.returned (.bool (setB (aK Z)))/\Ev w w':=by
 have hn:=h.le;have hm:=h.max;have HN:=zq h.len;have HK:=zq hk;have dH:Tryz.prog.follows .mixedOrders=true:=ah;have hst:=f_;clear hk;obtain⟨sb,hsb⟩:∃sb,setB (aK Z)=sb:=⟨_,rfl⟩
 rw[hsb];have HSB:=zq hsb;clear hsb;go_enter func29,ntmps29;go_wp2
 go_loopw [7] (λi wr=>∃k:Nat,k<=n/\i=↑k/\Hid (setFrom (lK Z k) (aK (Z.drop k))=sb)/\Ev w wr) (λi _=>n-(intOf i).toNat)
 case atStart=>exact⟨0,aDl _,rfl,HSB,Ev.refl _⟩
 case round=>
  obtain⟨k,hk,rfl,HT,hE⟩:=hrel;by_cases hlt:k<n
  ·obtain⟨b,off,z,rfl,hb,hb0,hx,c0,c1,hv⟩:=(h.ev hE).at hlt;have hka:=HK.out z (aDb hx);have HX:=zq hx;have hstep:=HT.out;rw[setFrom_at hx]at hstep;obtain⟨⟨A1,n1,cap1⟩,r1,p1,q1⟩:=z;simp only at hstep hv hka;unfold nK at c0;unfold nP at c1;simp only at c0 c1;obtain⟨w0,hw0⟩:∃w0,w0=wr.alloc (.cells #[.slice A1 n1 cap1,.complex .f64 (fl p1) (fl q1)] 47):=⟨_,rfl⟩
   have aV:Ev wr w0:=hw0▸Ev.alloc _ _;have B0:iR wr.heap.size ((A1,n1,cap1),r1,p1,q1) w0:=hw0▸iR.new ((A1,n1,cap1),r1,p1,q1) wr;have d0:w0.cell? ⟨↑wr,0,none⟩=some (.slice A1 n1 cap1):=B0.c0;have HR:=zq (vO w0 (hv.ev aV));have HKA:Hid (∀w:ak,Calls ax 53 #[.complex .f64 (fl p1) (fl q1)] w λe w'=>e=.returned (.bool (KD p1 q1))/\w=w'):=zq hka;have HV:=zq hv;clear hka hx hv;unfold yX at hstep;simp only at hstep;generalize bZ r1=rr at*;generalize KD p1 q1=kk at*;have i1:(0:Int)<=(k:Int):=ae;have i2:(k:Int)<(n:Int):=ae
   cases rr
   ·have HF:Hid (false=sb):=zq (by simpa using hstep);clear hstep
    go_wp2_with (first|(rw[<-hw0];(with_reducible refine HR.out.mono ?_);rintro e w1 ⟨rfl,aJ⟩))
    go_ret;exact⟨by rw[<-HF.out];rfl,(hE.trans aC).trans (hw0▸aJ)⟩
   cases kk
   ·have HF:Hid (false=sb):=zq (by simpa using hstep);clear hstep
    go_wp2_with (first|(rw[<-hw0];(with_reducible refine HR.out.mono ?_);rintro e w1 ⟨rfl,aJ⟩;have d1:w1.cell? ⟨wr.heap.size,1,none⟩=some (.complex .f64 (fl p1) (fl q1)):=(B0.ev aJ).c1)|((with_reducible refine(HKA.out _).mono ?_);rintro e w2 ⟨rfl,rfl⟩))
    go_ret;exact⟨by rw[<-HF.out];rfl,(hE.trans aV).trans aJ⟩
   by_cases k0:k=0
   ·have HS:Hid (setFrom (lK Z (k+1)) (aK (Z.drop (k+1)))=sb):=zq (by
     have e:lK Z (k+1)=some r1:=by unfold lK;rw[if_neg ae,aEC,HX.out];rfl
     have e2:lK Z k=none:=by unfold lK;rw[if_pos k0]
     rw[e2]at hstep;rw[e];simpa using hstep)
    have i6:decide (0<k)=false:=aDB ae;clear hstep k0
    go_wp2_with (first|(rw[<-hw0];(with_reducible refine HR.out.mono ?_);rintro e w1 ⟨rfl,aJ⟩;have d1:w1.cell? ⟨wr.heap.size,1,none⟩=some (.complex .f64 (fl p1) (fl q1)):=(B0.ev aJ).c1)|((with_reducible refine(HKA.out _).mono ?_);rintro e w2 ⟨rfl,rfl⟩))
    go_quiet (fail)
    go_wp2;go_roundw
    case rel=>exact⟨k+1,ae,by go_num,HS,((hE.trans aV).trans aJ).trans (Ev.drewN _ _)⟩
    case measure=>simp[intOf];omega
   have i6:0<k:=ae;obtain⟨j,hj⟩:∃j,k=j+1:=⟨k-1,ae⟩
   obtain⟨b',off',z0,hA',_,_,hx0,c0p,_,hv0⟩:=(h.ev hE).at (i:=j) ae;obtain⟨rfl,rfl⟩:b=b'/\off=off':=by injection hA' with e;injection e with e1 e2;exact⟨e1,e2⟩
   have e2:lK Z k=some z0.2.1:=by unfold lK;rw[if_neg ae,show k-1=j by omega,hx0];rfl
   rw[e2]at hstep;have HL:=λw1 (h1:Ev wr w1)=>Dx w1 (hv0.ev h1) (HV.out.ev h1);obtain⟨⟨A0,n0,cap0⟩,r0,p0,q0⟩:=z0;simp only at hstep HL;unfold nK at c0p;simp only at c0p;have i3:IntKind.i64.wrap ((k:Int)-1)=(j:Int):=by rw[show (k:Int)-1=(j:Int) by omega];exact IntWalk.i64_in _ ae
   have i4:(0:Int)<=(j:Int):=ae;have i5:(j:Int)<(n:Int):=ae;clear hx0 hv0 hA' e2;generalize eG r0 r1=ls at*
   cases ls
   ·have HF:Hid (false=sb):=zq (by simpa using hstep);clear hstep hj
    go_wp2_with (first|(rw[<-hw0];(with_reducible refine HR.out.mono ?_);rintro e w1 ⟨rfl,aJ⟩;have d1:w1.cell? ⟨wr.heap.size,1,none⟩=some (.complex .f64 (fl p1) (fl q1)):=(B0.ev aJ).c1)|((with_reducible refine(HKA.out _).mono ?_);rintro e w2 ⟨rfl,rfl⟩))
    have cg:w1.cell? ⟨↑wr,0,none⟩=some (.slice A1 n1 cap1):=(B0.ev aJ).c0;have hg1:=(B0.ev aJ).lt;have Xu:=aV.trans aJ;replace c0p:=(Xu.cell (p:=⟨b,off+j*2,none⟩) hb).trans c0p;have hb1:b<w1.heap.size:=aDf hb Xu.size;replace HL:=zq (λw3 (h3:Ev w1 w3)=>HL w3 (Xu.trans h3));obtain⟨g,hg⟩:∃g,g=wr.heap.size:=⟨_,rfl⟩
    rw[<-hg]at cg hg1|-;clear d0 d1 hg;refine bD dH [λv _=>v=↑k,λv _=>v=.bool true,λv _=>v=.bool true,λv _=>v=.slice ↑(b,off) n cap,λv _=>v=↑k,λv _=>v=↑j,λv _=>v=.pointer ↑(b,off+j*2),λv _=>v=.pointer ↑(b,off+j*2),λv _=>v=.slice A0 n0 cap0,λv _=>v=.pointer ↑g,λv _=>v=.slice A1 n1 cap1,λv _=>v=.bool false,λv _=>v=.bool true,λv _=>v=.bool true]
     37 rfl ah ⟨aB _,aB _,aB _,aB _,aB _,aB _,aB _,aB _,aB _,aB _,aB _,aB _,aB _,aB _,trivial⟩ ?_ ?_
    ·refine az 0 ?_ (az 1 ?_ (az 2 ?_ (az 3 ?_ (az 4 ?_ (az 5 ?_ (az 6 ?_ (az 7 ?_ (az 8 ?_ (az 9 ?_ (az 10 ?_ (az 11 ?_ (az 12 ?_ (az 13 ?_ (eY 14))))))))))))));exact aIr;exact aGJ;refine aF λa w c=>⟨(ay rfl),_,run_move _ rfl w,(c.new 1 23)⟩
     refine aF λa w c=>⟨(aH rfl ah (c.new 2 24)),_,run_move _ rfl w,(c.was 0 rfl)⟩
     refine aF λa w c=>⟨(aH rfl ah (c.new 2 24)),_,run_move _ rfl w,(c.was 3 rfl)⟩
     exact aGF;exact aGl;exact aGR;exact aGm;exact aG1;exact aGx;exact aFZ
     ·refine aF λa w c=>⟨(aH rfl ah (c.new 2 24)),.bool true,?_,rfl⟩
      have e33:a.eval (.tmp 33)=.bool false:=(c.new 11 33)
      generalize a.eval=ρ at e33|-;simp[execOp,e33,go_sem]
     refine aF λa w c=>⟨(ay rfl),_,iZ rfl (c.new 2 24) w,(c.new 12 34)⟩
    intro s w4 oN hold hnew;have f0:s 0=.slice ↑(b,off) n cap:=hold 0;have f1:_=undef:=hold 1;have f2:s 2=u2:=hold 2;have f3:s 3=↑k:=hold 3;have f4:s 4=.pointer ↑g:=hold 4;have f5:s 5=.slice ↑(b,off) n cap:=hold 5;have f6:s 6=↑n:=hold 6;have f7:s 7=↑k:=hold 7;have f35:s 35=.bool true:=hnew 13 35;change Exit.then _ _ .normal ⟨_,_⟩ _;simp only[List.range,List.range.loop,List.map];simp only[f0,f1,f2,f3,f4,f5,f6,f7,f35];clear hold hnew;go_wp2;go_ret;exact⟨by rw[<-HF.out];rfl,((hE.trans aV).trans aJ).trans oN⟩
   have HS:Hid (setFrom (lK Z (k+1)) (aK (Z.drop (k+1)))=sb):=zq (by
    have e:lK Z (k+1)=some r1:=by unfold lK;rw[if_neg ae,aEC,HX.out];rfl
    rw[e];simpa using hstep)
   clear hstep hj
   go_wp2_with (first|(rw[<-hw0];(with_reducible refine HR.out.mono ?_);rintro e w1 ⟨rfl,aJ⟩;have d1:w1.cell? ⟨wr.heap.size,1,none⟩=some (.complex .f64 (fl p1) (fl q1)):=(B0.ev aJ).c1)|((with_reducible refine(HKA.out _).mono ?_);rintro e w2 ⟨rfl,rfl⟩))
   have cg:w1.cell? ⟨↑wr,0,none⟩=some (.slice A1 n1 cap1):=(B0.ev aJ).c0;have hg1:=(B0.ev aJ).lt;have Xu:=aV.trans aJ;replace c0p:=(Xu.cell (p:=⟨b,off+j*2,none⟩) hb).trans c0p;have hb1:b<w1.heap.size:=aDf hb Xu.size;replace HL:=zq (λw3 (h3:Ev w1 w3)=>HL w3 (Xu.trans h3));obtain⟨g,hg⟩:∃g,g=wr.heap.size:=⟨_,rfl⟩
   rw[<-hg]at cg hg1|-;clear d0 d1 hg;refine bD dH [λv _=>v=↑k,λv _=>v=.bool true,λv _=>v=.bool true,λv _=>v=.slice ↑(b,off) n cap,λv _=>v=↑k,λv _=>v=↑j,λv _=>v=.pointer ↑(b,off+j*2),λv _=>v=.pointer ↑(b,off+j*2),λv _=>v=.slice A0 n0 cap0,λv _=>v=.pointer ↑g,λv _=>v=.slice A1 n1 cap1,λv _=>v=.bool true,λv _=>v=.bool false,λv _=>v=.bool false]
    37 rfl ah ⟨aB _,aB _,aB _,aB _,aB _,aB _,aB _,aB _,aB _,aB _,aB _,aB _,aB _,aB _,trivial⟩ ?_ ?_
   ·refine az 0 ?_ (az 1 ?_ (az 2 ?_ (az 3 ?_ (az 4 ?_ (az 5 ?_ (az 6 ?_ (az 7 ?_ (az 8 ?_ (az 9 ?_ (az 10 ?_ (az 11 ?_ (az 12 ?_ (az 13 ?_ (eY 14))))))))))))));exact aIr;exact aGJ;refine aF λa w c=>⟨(ay rfl),_,run_move _ rfl w,(c.new 1 23)⟩
    refine aF λa w c=>⟨(aH rfl ah (c.new 2 24)),_,run_move _ rfl w,(c.was 0 rfl)⟩
    refine aF λa w c=>⟨(aH rfl ah (c.new 2 24)),_,run_move _ rfl w,(c.was 3 rfl)⟩
    exact aGF;exact aGl;exact aGR;exact aGm;exact aG1;exact aGx;exact aFZ
    ·refine aF λa w c=>⟨(aH rfl ah (c.new 2 24)),.bool false,?_,rfl⟩
     have e33:a.eval (.tmp 33)=.bool true:=(c.new 11 33)
     generalize a.eval=ρ at e33|-;simp[execOp,e33,go_sem]
    refine aF λa w c=>⟨(ay rfl),_,iZ rfl (c.new 2 24) w,(c.new 12 34)⟩
   intro s w4 oN hold hnew;have f0:s 0=.slice ↑(b,off) n cap:=hold 0;have f1:_=undef:=hold 1;have f2:s 2=u2:=hold 2;have f3:s 3=↑k:=hold 3;have f4:s 4=.pointer ↑g:=hold 4;have f5:s 5=.slice ↑(b,off) n cap:=hold 5;have f6:s 6=↑n:=hold 6;have f7:s 7=↑k:=hold 7;have f35:s 35=.bool false:=hnew 13 35;change Exit.then _ _ .normal ⟨_,_⟩ _;simp only[List.range,List.range.loop,List.map];simp only[f0,f1,f2,f3,f4,f5,f6,f7,f35];clear hold hnew;generalize s 8=u8,s 9=u9,s 10=u10,s 11=u11,s 12=u12,s 13=u13,s 14=u14,s 15=u15,s 16=u16,s 17=u17,s 18=u18,s 19=u19,s 20=u20,s 21=u21,s 36=u36;go_wp2;go_roundw
   case rel=>exact⟨k+1,ae,by go_num,HS,((hE.trans aV).trans aJ).trans oN⟩
   case measure=>simp[intOf];omega
  obtain rfl:k=n:=ae;have HF:Hid (true=sb):=zq (by rw[<-HT.out,Un (by rw[HN.out];exact aC8 _)]);go_wp2;go_ret;exact⟨by rw[<-HF.out];rfl,hE⟩
structure jc(l:List I):Prop where
 right:∀x∈l,bZ x.1=true
 pos:∀x∈l,1<=x.2.1/\x.2.2=0
def bU(l:List I):Int:=(l.map λx=>x.2.1).sum
theorem ni(x:I)(l:List I):bU (x::l)=x.2.1+bU l:=by simp[bU]
theorem Hy(l m:List I):bU (l++m)=bU l+bU m:=by simp[bU]
theorem jc.sub{l m:List I}(h:jc l)(hs:∀x∈m,x∈l):jc m:=⟨λx hx=>h.right x (hs x hx),λx hx=>h.pos x (hs x hx)⟩
theorem jc.append{l m:List I}(h:jc l)(h':jc m):jc (l++m):=⟨λx hx=>(aDm.1 hx).elim (h.right x) (h'.right x),λx hx=>(aDm.1 hx).elim (h.pos x) (h'.pos x)⟩
theorem jc.tot:∀{l:List I},jc l->0<=bU l/\∀x∈l,x.2.1<=bU l
 | [],_=>⟨aEI _,aj⟩
 | x::l,h=>by obtain⟨h1,h2⟩:=jc.tot (h.sub λy hy=>aDc x hy);have h3:=(h.pos x aC').1;rw[ni];refine⟨ae,λy hy=>?_⟩;rcases aDg.1 hy with rfl|hy;omega;have:=h2 y hy;omega
theorem jc.part{l:List I}(h:jc l)(ht:bU l<=1125899906842624):∀x∈l,Part x.2.1/\Part x.2.2:=λx hx=>by have h1:=h.pos x hx;have h2:=h.tot.2 x hx;rw[h1.2];exact⟨⟨ae,ae⟩,⟨ae,ae⟩⟩
theorem Ah:∀(l:List I) (n:Int),jc l->0<=n->n+bU l<=1125899906842624->sumN n l=some (n+bU l)
 | [],n,_,_,_=>by simp[sumN,bU]
 | x::l,n,h,hn,ht=>by have h':jc l:=h.sub λy hy=>aDc x hy;have h1:=h.pos x aC';have h2:=h'.tot.1;rw[ni]at ht|-;simp only[sumN];rw[h1.2,vS.2 ae,cond_true,Int.sub_zero,Ah l (n+x.2.1) h' ae ae,Int.add_assoc]
theorem Uo(g:I->Int)(x:I):∀l:List I,((insF wX x l).map g).sum=g x+(l.map g).sum
 | []=>by simp[insF]
 | y::l=>by have ih:=Uo g x l;unfold insF;split;simp only[aDe,aDI,ih];omega;simp
theorem Fz(g:I->Int):∀l:List I,((mF wX l).map g).sum=(l.map g).sum
 | []=>rfl
 | x::l=>by simp only[mF,Uo,Fz g l,aDe,aDI]
theorem FB:∀(l:List I) (z:I),z∈mF wX l↔z∈l
 | [],z=>by simp[mF]
 | x::l,z=>by simp only[mF,J3,FB l z,aDg]
structure Made(l s:List I):Prop where
 adds:jc s
 sum:∀f:List V->Int,(s.map λx=>f x.1*x.2.1).sum=(l.map λx=>f x.1*x.2.1).sum
 from_:∀x∈s,∃y∈l,y.1=x.1
 all:∀y∈l,∃x∈s,x.1=y.1
theorem aaX{n:Int}(h1:1<=n)(h2:n<=1125899906842624):KD (iO n) (ji n)=true:=by
 have e1:iO n=n:=by unfold iO;omega
 have e2:ji n=0:=by unfold ji;omega
 rw[e1,e2];unfold KD Zr;rw[lq.2 ⟨ae,h2⟩,lq.2 ⟨ae,ae⟩];simp;omega
theorem KE:∀(N:Nat) (m:List I) (prev:Option (List V)),m.length<=N->jc m->bU m<=1125899906842624->jg wX m->(∀r,prev=some r->∀y∈m,eG r y.1=true)->
  ∃s,groupF m.length m=some s/\Made m s/\setFrom prev s=true
 | _,[],prev,_,_,_,_,_=>⟨[],rfl,⟨⟨aj,aj⟩,aj,aj,aj⟩,by cases prev<;>rfl⟩
 | 0,x::l,_,h,_,_,_,_=>by simp at h
 | N+1,x::l,prev,hN,ha,ht,hr,hp=>by
  have hk:=Kz x l;obtain⟨k,KF⟩:∃k,k=(l.takeWhile λy=>decide (y.1=x.1)).length:=⟨_,rfl⟩
  have hrep:Ky (x::l)=k+1:=by show 1+_=_;rw[KF];omega
  have wP:(x::l).take (k+1)=x::l.take k:=rfl;have hdk:(x::l).drop (k+1)=l.drop k:=rfl;have qm:k<=l.length:=by rw[KF];exact(List.takeWhile_sublist _).length_le
  have htw:l.take k=l.takeWhile λy=>decide (y.1=x.1):=by rw[KF];exact List.prefix_iff_eq_take.1 (List.takeWhile_prefix _) |>.symm
  have hdw:l.drop k=l.dropWhile λy=>decide (y.1=x.1):=by have h1:=List.takeWhile_append_dropWhile (p:=λy:I=>decide (y.1=x.1)) (l:=l);have h2:=aDS k l;rw[htw]at h2;exact List.append_cancel_left (h2.trans h1.symm)
  have hsame:∀y∈l.take k,y.1=x.1:=λy hy=>by rw[htw]at hy;simpa using aDs.1 List.all_takeWhile y hy
  have hpw:=aDQ.1 hr;have hx:=ha.right x aC';have hra:∀y∈l,bZ y.1=true:=λy hy=>ha.right y (aDc _ hy);have hdm:∀y∈l.drop k,y∈l:=λy hy=>aEm hy;have hless:∀y∈l.drop k,eG x.1 y.1=true:=by
   have hd0:jg wX (l.drop k):=hpw.2.sublist (List.drop_sublist k l)
   cases hd:l.drop k with
   | nil=>simp
   | cons z q=>
    have Jk:z∈l:=hdm z (by rw[hd];simp);have hz:z.1≠x.1:=by have h1:=hd;rw[hdw]at h1;have h2:=List.head?_dropWhile_not (λy:I=>decide (y.1=x.1)) l;rw[h1]at h2;simpa using h2
    intro y hy;have WG:y∈l:=hdm y (by rw[hd];exact hy);have h1:eG y.1 x.1=false:=hpw.1 y WG;have hne:y.1≠x.1:=by rcases aDg.1 hy with rfl|hy;exact hz;intro e;rw[hd]at hd0;have h3:eG y.1 z.1=false:=(aDQ.1 hd0).1 y hy;rw[e]at h3;have h4:eG z.1 x.1=false:=hpw.1 z Jk;exact hz (JY (hra z Jk) hx h3 h4)
    have h5:=vJ hx (hra y WG) (Ne.symm hne);rw[h1]at h5;exact h5
  have hA1:jc (x::l.take k):=ha.sub λy hy=>(aDg.1 hy).elim (λe=>e▸aC') λh=>aDc _ (aD2 h);have iq:jc (l.drop k):=ha.sub λy hy=>aDc _ (hdm y hy);have hsp:bU (x::l)=bU (x::l.take k)+bU (l.drop k):=by rw[<-Hy,aDR,aDS]
  have t1:=hA1.tot.1;have t2:=iq.tot.1;have t3:=hA1.tot.2 x aC';have t4:=(ha.pos x aC').1;obtain⟨t,htt⟩:∃t,t=bU (x::l.take k):=⟨_,rfl⟩
  obtain⟨s,hs,hM,hF⟩:=KE N (l.drop k) (some x.1) (by rw[aDD];simp at hN;omega) iq ae (hpw.2.sublist (List.drop_sublist k l)) λr e y hy=>by
   injection e with e
   rw[<-e];exact hless y hy
  have e1:iO t=t:=by unfold iO;omega
  have e2:ji t=0:=by unfold ji;omega
  refine⟨(x.1,t,0)::s,?_,⟨⟨λy hy=>?_,λy hy=>?_⟩,λf=>?_,λy hy=>?_,λy hy=>?_⟩,?_⟩;rw[yV,hrep,wP,hdk,Ah _ 0 hA1 (aEI _) ae,hs];simp only[Option.map_some,Int.zero_add];rw[<-htt,if_neg ae,e1,e2];rcases aDg.1 hy with rfl|hy;exact hx;exact hM.adds.right y hy;rcases aDg.1 hy with rfl|hy;exact⟨by show 1<=t;omega,rfl⟩;exact hM.adds.pos y hy
  ·have h1:((x::l.take k).map λy=>f y.1*y.2.1).sum=f x.1*t:=by
    have h2:∀q:List I,(∀y∈q,y.1=x.1)->(q.map λy=>f y.1*y.2.1).sum=f x.1*bU q:=by
     intro q
     induction q with
     | nil=>intro _;simp[bU]
     | cons y q ih=>
      intro hq;rw[aDe,aDI,ih λz hz=>hq z (aDc _ hz),ni,Int.mul_add,hq y aC']
    rw[htt];exact h2 _ λy hy=>(aDg.1 hy).elim (λe=>by rw[e]) (hsame y)
   have h3:x::l=(x::l.take k)++l.drop k:=by rw[aDR,aDS]
   rw[h3,aDk,aEb,h1,aDe,aDI,hM.sum f]
  rcases aDg.1 hy with rfl|hy;exact⟨x,aC',rfl⟩;obtain⟨z,hz,e⟩:=hM.from_ y hy;exact⟨z,aDc _ (hdm z hz),e⟩;have h3:x::l=(x::l.take k)++l.drop k:=by rw[aDR,aDS]
  rw[h3]at hy;rcases aDm.1 hy with hy|hy;exact⟨_,aC',((aDg.1 hy).elim (λe=>by rw[e]) λh=>(hsame y h).symm)⟩;obtain⟨z,hz,e⟩:=hM.all y hy;exact⟨z,aDc _ hz,e⟩;have wO:yX (x.1,t,0)=true:=by have:=aaX (n:=t) ae ae;rw[e1,e2]at this;unfold yX;rw[hx,this];rfl
  cases prev with
  | none=>simp only[setFrom,wO,hF,aE3]
  | some r=>simp only[setFrom,wO,hF,hp r rfl x aC',aE3]
theorem pz(l:List I)(h:jc l)(ht:bU l<=1125899906842624):∃s,uD l=some s/\Made l s/\setB s=true:=by have hm:∀x∈mF wX l,x∈l:=λx hx=>(FB l x).1 hx;have hts:bU (mF wX l)=bU l:=Fz _ l;obtain⟨s,h1,h2,h3⟩:=KE _ (mF wX l) none (aC8 _) (h.sub hm) ae (Hl λx hx=>h.right x hx) (λr e=>by cases e);refine⟨s,?_,⟨h2.adds,λf=>?_,λx hx=>?_,λy hy=>h2.all y ((FB l y).2 hy)⟩,h3⟩;unfold uD;have hl:(mF wX l).length=l.length:=(yQ (key:=wX) l).length;rw[<-hl];exact h1;rw[h2.sum f];exact Fz (λx=>f x.1*x.2.1) l;obtain⟨y,hy,e⟩:=h2.from_ x hx;exact⟨y,hm y hy,e⟩
theorem nV.kept{Z:List J}(h:nV Z):Zv Z:=λz hz=>QT.part (h z hz).1 (h z hz).2
def LU(b:Bool)(s:Option Int):au:=match b,s with
 | true,some m=>.tuple #[↑m,.bool true]
 | _,_=>.tuple #[.int .i64 0,.bool false]
theorem XQ(m:Int)(h:nS m=true)(w:ak):Calls ax 10 #[.complex .f64 (fl (iO m)) (fl (ji m))] w λe w'=>e=.returned ↑m/\w=w':=
 ajf (iO m) (ji m) m (zq (Zp m)) (Ae h) (Af h) w
theorem aen(w:ak):Calls ax 10 #[.complex .f64 0 0] w λe w'=>e=.returned (.int .i64 0)/\w=w':=by have:=XQ 0 ai w;rwa [show iO 0=0 from rfl,show ji 0=0 from rfl,wW]at this
theorem XR{b0:Nat}{A:Option Addr}{n cap:Nat}{Z:List J}(w:ak)(h:Zs b0 w A n cap Z)(hp:nV Z):
  Calls ax 11 #[.slice A n cap] w λe w'=>e=.returned (LU (setB (aK Z)) (sumN 0 (aK Z)))/\Ev w w':=by
 have HR:=zq (BV w h hp.kept);have HA:=zq (λw1 (h1:Ev w w1)=>Ug w1 (h.ev h1) hp);generalize setB (aK Z)=sb at*;have wO:∀m,sumN 0 (aK Z)=some m->nS m=true:=λm hm=>Zq _ 0 m ai hm;generalize sumN 0 (aK Z)=sm at*;clear h hp
 cases sb
 ·have e:LU false sm=.tuple #[.int .i64 0,.bool false]:=by cases sm<;>rfl
  rw[e];clear wO;go_enter func11,ntmps11
  go_wp2_with (first|((with_reducible refine HR.out.mono ?_);rintro e w1 ⟨rfl,aJ⟩))
  go_ret2
  exact⟨rfl,aJ⟩
 cases sm with
 | none=>
  replace HA:Hid (∀w1,Ev w w1->Calls ax 30 #[.slice A n cap] w1 λe w'=>e=.returned (.tuple #[.complex .f64 0 0,.bool false])/\Ev w1 w'):=HA;clear wO;go_enter func11,ntmps11
  go_wp2_with (first|((with_reducible refine HR.out.mono ?_);rintro e w1 ⟨rfl,aJ⟩)|((with_reducible refine(HA.out _ aJ).mono ?_);rintro e w2 ⟨rfl,dJ⟩)|((with_reducible refine(aen _).mono ?_);rintro e w3 ⟨rfl,rfl⟩))
  go_ret2
  exact⟨rfl,aJ.trans dJ⟩
 | some m=>
  replace HA:Hid (∀w1,Ev w w1->Calls ax 30 #[.slice A n cap] w1 λe w'=>e=.returned (.tuple #[.complex .f64 (fl (iO m)) (fl (ji m)),.bool true])/\Ev w1 w'):=HA;have LV:=zq (λw1=>XQ m (wO m rfl) w1);clear wO;go_enter func11,ntmps11
  go_wp2_with (first|((with_reducible refine HR.out.mono ?_);rintro e w1 ⟨rfl,aJ⟩)|((with_reducible refine(HA.out _ aJ).mono ?_);rintro e w2 ⟨rfl,dJ⟩)|((with_reducible refine(LV.out _).mono ?_);rintro e w3 ⟨rfl,rfl⟩))
  go_ret2
  exact⟨rfl,aJ.trans dJ⟩
def xJ(l:List I):Bool:=(l.all λx=>decide (0<=x.2.1-x.2.2))&&setB l
theorem XT{b0:Nat}{A:Option Addr}{n cap:Nat}{Z:List J}(w:ak)(h:Zs b0 w A n cap Z)(hp:nV Z):
  Calls ax 68 #[.slice A n cap] w λe w'=>e=.returned (.bool (xJ (aK Z)))/\Ev w w':=by
 have hn:=h.le;have hm:=h.max;have HN:=zq h.len;have HP:=zq hp;have hst:=f_;have HR:=zq (λw1 (h1:Ev w w1)=>BV w1 (h.ev h1) hp.kept);clear hp;go_enter func68,ntmps68;go_wp2
 go_loopw [7] (λi wr=>∃k:Nat,k<=n/\i=↑k/\Hid (((aK (Z.take k)).all λx=>decide (0<=x.2.1-x.2.2))=true)/\Ev w wr) (λi _=>n-(intOf i).toNat)
 case atStart=>exact⟨0,aDl _,rfl,zq rfl,Ev.refl _⟩
 case round=>
  obtain⟨k,hk,rfl,HT,hE⟩:=hrel;by_cases hlt:k<n
  ·obtain⟨b,off,z,rfl,hb,hb0,hx,c0,c1,hv⟩:=(h.ev hE).at hlt;have hzp:=HP.out z (aDb hx);have HX:=zq hx;obtain⟨⟨A1,n1,cap1⟩,r1,p1,q1⟩:=z;obtain⟨m,hm1⟩:∃m,p1-q1=m:=⟨_,rfl⟩
   have LV:=zq (λw1=>ajf p1 q1 m (zq hm1) hzp.1 hzp.2 w1);have HM:=zq hm1;unfold nK at c0;unfold nP at c1;simp only at c0 c1;clear hx hv hzp hm1;obtain⟨w0,hw0⟩:∃w0,w0=wr.alloc (.cells #[.slice A1 n1 cap1,.complex .f64 (fl p1) (fl q1)] 47):=⟨_,rfl⟩
   have aV:Ev wr w0:=hw0▸Ev.alloc _ _;have B0:iR wr.heap.size ((A1,n1,cap1),r1,p1,q1) w0:=hw0▸iR.new ((A1,n1,cap1),r1,p1,q1) wr;have d1:w0.cell? ⟨wr.heap.size,1,none⟩=some (.complex .f64 (fl p1) (fl q1)):=B0.c1;have i1:(0:Int)<=(k:Int):=ae;have i2:(k:Int)<(n:Int):=ae;by_cases hneg:m<0
   ·have HF:Hid (xJ (aK Z)=false):=zq (by
     unfold xJ;rw[Bool.and_eq_false_iff];refine .inl (List.all_eq_false.2 ⟨(r1,p1,q1),aDz.2 ⟨_,aDb HX.out,rfl⟩,?_⟩);have:=HM.out;simp only[aDV];omega)
    go_wp2_with (first|(rw[<-hw0];(with_reducible refine(LV.out _).mono ?_);rintro e w1 ⟨rfl,rfl⟩))
    go_ret;exact⟨by rw[HF.out];rfl,by first|exact hE.trans aV|exact hE.trans aC⟩
   have HS:Hid (((aK (Z.take (k+1))).all λx=>decide (0<=x.2.1-x.2.2))=true):=zq (by
    obtain⟨hk2,e⟩:=aC6.1 HX.out;rw[aDi hk2,e];unfold aK;rw[aDk,aET];have:=HT.out;unfold aK at this;rw[this];have:=HM.out;simp;omega)
   go_wp2_with (first|(rw[<-hw0];(with_reducible refine(LV.out _).mono ?_);rintro e w1 ⟨rfl,rfl⟩))
   go_roundw
   case rel=>exact⟨k+1,ae,by go_num,HS,by first|exact hE.trans aV|exact hE.trans aC⟩
   case measure=>simp[intOf];omega
  obtain rfl:k=n:=ae;have HF:Hid (xJ (aK Z)=setB (aK Z)):=zq (by
   have:=HT.out;rw[aDj (by rw[HN.out];exact aC8 _)]at this;unfold xJ;rw[this];rfl)
  go_wp2_with (first|((with_reducible refine(HR.out _ hE).mono ?_);rintro e w1 ⟨rfl,aJ⟩))
  go_ret;exact⟨by rw[HF.out];rfl,hE.trans aJ⟩
theorem XU{p p':Int}(h:Part p)(h':Part p'):(FloatKind.f64.format.order (fl p) (fl p')==some .eq)=decide (p=p'):=by obtain⟨n,rfl,hn⟩:=h.nat;obtain⟨m,rfl,hm⟩:=h'.nat;rw[sG n m ae ae];rcases Nat.lt_trichotomy n m with h1|h1|h1;rw[Nat.compare_eq_lt.2 h1,aDB ae];rfl;subst h1;simp;rw[Nat.compare_eq_gt.2 h1,aDB ae];rfl
def eQ(l:List I)(w:ak)(A:Option Addr)(n cap:Nat):Prop:=∃Z,Zs w.heap.size w A n cap Z/\aK Z=l
def xK(l:List I):Prop:=∀x∈l,Part x.2.1/\Part x.2.2
theorem eQ.ev{l:List I}{w w':ak}{A:Option Addr}{n cap:Nat}(h:eQ l w A n cap)(hE:Ev w w'):eQ l w' A n cap:=by obtain⟨Z,hz,hl⟩:=h;exact⟨Z,(hz.ev hE).wide hE.size (aC8 _),hl⟩
theorem eQ.nil_(w:ak):eQ [] w none 0 0:=⟨[],Zs.nil_ (aC8 _),rfl⟩
theorem eQ.len{l:List I}{w:ak}{A:Option Addr}{n cap:Nat}(h:eQ l w A n cap):l.length=n:=by obtain⟨Z,hz,rfl⟩:=h;rw[nZ,hz.len]
theorem xK.all{Z:List J}(h:xK (aK Z)):nV Z:=λz hz=>h z.2 (aDz.2 ⟨z,hz,rfl⟩)
theorem U6{l:List I}{A:Option Addr}{n cap:Nat}(w:ak)(h:eQ l w A n cap)(hp:xK l):
  Calls ax 11 #[.slice A n cap] w λe w'=>e=.returned (LU (setB l) (sumN 0 l))/\Ev w w':=by
 obtain⟨Z,hz,rfl⟩:=h;exact XR w hz hp.all
theorem aeo{l:List I}{A:Option Addr}{n cap:Nat}(w:ak)(h:eQ l w A n cap)(hp:xK l):
  Calls ax 68 #[.slice A n cap] w λe w'=>e=.returned (.bool (xJ l))/\Ev w w':=by
 obtain⟨Z,hz,rfl⟩:=h;exact XT w hz hp.all
theorem aep{l:List I}{A:Option Addr}{n cap:Nat}(w:ak)(h:eQ l w A n cap)(hp:xK l):
  Calls ax 29 #[.slice A n cap] w λe w'=>e=.returned (.bool (setB l))/\Ev w w':=by
 obtain⟨Z,hz,rfl⟩:=h;exact BV w hz hp.all.kept
def Rf(x:I):Bool:=!(bZ x.1&&(oQ x.2.1&&oQ x.2.2))
def vY(l:List I):Nat×List I:=if l.any Rf then (1,[]) else match uD l with
 | none=>(27,[])
 | some s=>(0,s)
def ak5(res:Nat×List I)(e:Ending)(w':ak):Prop:=∃A' cap',e=.returned (.tuple #[.slice A' res.2.length cap',.int .i64 (res.1:Int)])/\eQ res.2 w' A' res.2.length cap'
theorem Rh{l:List I}{A:Option Addr}{n cap:Nat}(w:ak)(h:eQ l w A n cap)(hn:n<=1000000000000)(ht:∀x∈l,nR x.2.1 x.2.2):
  Calls ax 36 #[.slice A n cap] w λe w'=>ak5 (vY l) e w'/\Ev w w':=by
 obtain⟨Z,hz,rfl⟩:=h;refine(aaV w hz hn (λz hz'=>ht z.2 (aDz.2 ⟨z,hz',rfl⟩))).mono ?_;rintro e w' ⟨hm,hE⟩;refine⟨?_,hE⟩;have hw:(aK Z).any Rf=Z.any pq:=by unfold aK;rw[List.any_map];rfl
 unfold vY;rw[hw];rcases hm with⟨h1,rfl⟩|⟨h1,h2⟩
 rw[if_pos h1];exact⟨none,0,rfl,eQ.nil_ _⟩;rw[if_neg (by rw[h1];exact aEs)]
 cases hmf:uD (aK Z) with
 | none=>
  rw[hmf]at h2;exact⟨none,0,h2,eQ.nil_ _⟩
 | some s=>
  rw[hmf]at h2;obtain⟨A',cap',Z',he,hz',hi⟩:=h2;exact⟨A',cap',he,Z',hz',hi⟩
def Ri(l:List Int)(w:ak)(A:Option Addr)(n cap:Nat):Prop:=Vs w A n cap (l.map bI)/\∀ad,A=some ad->ad.block<w.heap.size
theorem LW(l:List Int)(n:Nat)(hn:l.length=n)(hm:n<=1000)(h0:0<n)(w:ak)(cs:Array au)(hc:cs=(l.map λx=>Value.int .i64 x).toArray):
  Calls ax 16 #[.slice ↑w n n] (w.alloc (.cells cs 2)) λe w'=>∃A m cap,e=.returned (.slice A m cap)/\Ri l w' A m cap/\Ev w w':=
 (ad5 l n hn hm w cs hc).mono λe w' ⟨A,m,cap,he,hv,hE⟩=>⟨A,m,cap,he,⟨hv,λad ea=>by
  have hl:=hv.len;rw[aC_,hn]at hl;obtain⟨b,off,e2,hlt,_⟩:=hv.rd ae;rw[ea]at e2;obtain rfl:=aDp e2;exact hlt⟩,hE⟩
theorem eQ.made(Z:List J)(n:Nat)(hn:Z.length=n)(hm:n<=1000)(w:ak)(cs:Array au)(hc:cs=(Z.flatMap eu).toArray)(hr:∀z∈Z,mP w.heap.size w z)(l:List I)(hl:aK Z=l):
  eQ l (w.alloc (.cells cs 47)) ↑w n n:=
 ⟨Z,⟨Sl.made (enc:=eu) (λ_=>rfl) Z n hn hm w cs _ hc,λz hz=>⟨(hr z hz).1.ev aC,λad e=>aDf ((hr z hz).2 ad e) (Ev.alloc w _).size⟩,by rintro ad ⟨⟩;simp,aC8 _⟩,hl⟩
theorem Ri.lies{l:List Int}{w:ak}{A:Option Addr}{n cap:Nat}(h:Ri l w A n cap)(p q:Int):mP w.heap.size w ((A,n,cap),(l.map bI,p,q)):=⟨h.1,h.2⟩
abbrev r1:List V:=[1].map bI
abbrev r2:List V:=[2].map bI
theorem avE:fl 1=4607182418800017408:=by decide+kernel
theorem avF:fl 2=4611686018427387904:=by decide+kernel
end Go.Proofs.YtbgmhhfjkkfhpaaGreatDoor
