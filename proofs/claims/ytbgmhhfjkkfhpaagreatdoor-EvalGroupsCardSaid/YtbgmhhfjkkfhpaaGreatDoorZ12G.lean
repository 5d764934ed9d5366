import Derived.Deep.Cut
import Derived.Test.YtbgmhhfjkkfhpaaGreatDoorZ11G
set_option linter.unusedVariables false
set_option maxRecDepth 100000
set_option maxHeartbeats 64000000
namespace Go.Proofs.YtbgmhhfjkkfhpaaGreatDoor
open Go.RowKit
open Go.Lib renaming hid → zq
open Go renaming World → ak
open Go renaming Value → au
open Go.Proofs.Tryz renaming prog → ax
variable {U:Prop}
open Go.Proofs.Tryz
theorem uB{ρ:Operand->au}{o:Oper}{x:Operand}{A:Option Addr}{n cap:Nat}(k:Nat){c:Operand}(ho:o.op=.slice 38 x none (some c) none)(h:ρ x=.slice A n cap)(hc:ρ c=↑k)(hk:k<=cap)(w:ak):
  (execOp ρ o).run ax w=.ok (.value (.slice A k cap)) w:=by
 have h1:(k:Int)<=(cap:Int):=ae;have h2:(0:Int)<=(k:Int):=ae;have ht:Tryz.prog.underlying 38=some (.slice (Tryz.prog.elem 38)):=ah;have hs:(sizeOf (Tryz.prog.elem 38)).run ax w=.ok 2 w:=ah;unfold execOp;rw[ho];simp[h,hc,run_sliceAt_slice w 38 _ _ _ _ ht,run_slice_h w 38 A n cap ht .i64 (k:Int) h2 h1,hs,Result.andThen,sliced,Addr.add]
structure pg(g:Nat)(s:ByteArray)(k:Int)(w:ak):Prop where
 blk:w.heap[g]?=some (.cells #[.string s,↑k] 82 (0,0))
theorem pg.c0{g:Nat}{s:ByteArray}{k:Int}{w:ak}(h:pg g s k w):w.cell? ⟨g,0,none⟩=some (.string s):=by rw[aFf h.blk];rfl
theorem pg.c1{g:Nat}{s:ByteArray}{k:Int}{w:ak}(h:pg g s k w):w.cell? ⟨g,1,none⟩=some ↑k:=by rw[aFf h.blk];rfl
theorem pg.ev{g:Nat}{s:ByteArray}{k:Int}{w w':ak}(h:pg g s k w)(he:Ev w w'):pg g s k w':=
 ⟨by rw[he.block g (aDa.1 h.blk).1];exact h.blk⟩
theorem pg.new(s:ByteArray)(k:Int)(w:ak):pg w.heap.size s k (w.alloc (.cells #[.string s,↑k] 82)):=⟨aFd w _⟩
theorem aIp(h:U:=by refine aF λa w c=>⟨(ay rfl),_,run_move _ rfl w,(c.was 0 rfl)⟩):U:=h
theorem aIq(h:U:=by refine aF λa w c=>⟨(ay rfl),_,run_move _ rfl w,(c.was 1 rfl)⟩):U:=h
theorem Dx{A B:Option Addr}{n m cap cap':Nat}{a b:List V}(w:ak)(h:Vs w A n cap a)(h':Vs w B m cap' b):
  Calls ax 54 #[.slice A n cap,.slice B m cap'] w λe w'=>e=.returned (.bool (eG a b))/\Ev w w':=by
 have hn:=h.le;have hm:=h.max;have hn':=h'.le;have WE:=h'.max;have HL:=zq h.len;have HM:=zq h'.len;have HR:=zq (λw1 (h1:Vs w1 A n cap a)=>vO w1 h1);have HR':=zq (λw1 (h1:Vs w1 B m cap' b)=>vO w1 h1);have HS:=zq (λw1 (h1:Vs w1 A n cap a) (h2:Vs w1 B m cap' b)=>Xp w1 h1 h2);have dH:Tryz.prog.follows .mixedOrders=true:=ah;unfold eG;generalize bZ a=r at*;generalize bZ b=r' at*
 cases r
 ·go_enter func54,ntmps54;exact aHK
 cases r'
 ·go_enter func54,ntmps54
  go_wp2_with (first|((with_reducible refine(HR.out _ h).mono ?_);rintro x w1 ⟨rfl,aJ⟩)|((with_reducible refine(HR'.out _ (h'.ev aJ)).mono ?_);rintro x w2 ⟨rfl,dJ⟩))
  go_ret;exact⟨rfl,aJ.trans dJ⟩
 simp only[aE3,aDL];go_enter func54,ntmps54;go_upto_region 4 with (first|((with_reducible refine(HR.out _ h).mono ?_);rintro x w1 ⟨rfl,aJ⟩)|((with_reducible refine(HR'.out _ (h'.ev aJ)).mono ?_);rintro x w2 ⟨rfl,dJ⟩)|((with_reducible refine(HS.out _ (h.ev (aJ.trans dJ)) (h'.ev (aJ.trans dJ))).mono ?_);rintro x w3 ⟨⟨i,rfl,HI⟩,jW⟩;replace HI:=zq HI;have hE:=(aJ.trans dJ).trans jW))
 have hi1:i<=n:=by rw[<-HL.out];exact HI.out.le
 have hi2:i<=m:=by rw[<-HM.out];exact HI.out.le'
 by_cases ha:i<n
 ·have i2:(i:Int)<(n:Int):=ae;by_cases hb:i<m
  ·have i3:(i:Int)<(m:Int):=ae;obtain⟨b1,off,⟨xk,xn,xs⟩,rfl,hb1,hx,c0,c1,c2⟩:=(h.ev hE).G8 ha;obtain⟨b2,off',⟨yk,yn,ys⟩,rfl,hb2,hy,d0,d1,d2⟩:=(h'.ev hE).G8 hb;have i1:(0:Int)<=(i:Int):=ae;simp only at c0 c1 c2 d0 d1 d2;have HF:=zq (ac' HI.out.same hx hy (HI.out.differ _ _ hx hy));obtain⟨x,hx⟩:∃x,mD xk xn xs yk yn ys=x:=⟨_,rfl⟩
   have HX:=zq hx;clear hx hy
   go_wp2_with fail
   refine bD dH [λv _=>v=.slice ↑(b1,off) n cap,λv _=>v=↑i,λv _=>v=.pointer ↑(b1,off+i*3),λv _=>v=vv xk xn xs,λv _=>v=.slice ↑(b2,off') m cap',λv _=>v=↑i,λv _=>v=.pointer ↑(b2,off'+i*3),λv _=>v=vv yk yn ys,λv _=>v=.bool x,λv _=>v=.bool x]
    41 rfl ah ⟨aB _,aB _,aB _,aB _,aB _,aB _,aB _,aB _,aB _,aB _,trivial⟩ ?_ ?_
   ·refine az 0 ?_ (az 1 ?_ (az 2 ?_ (az 3 ?_ (az 4 ?_ (az 5 ?_ (az 6 ?_ (az 7 ?_ (az 8 ?_ (az 9 ?_ (eY 10))))))))));exact aIp;refine aF λa w c=>⟨(ay rfl),_,run_move _ rfl w,(c.was 5 rfl)⟩
    ·refine aF λa w c=>⟨(ay rfl),.pointer ↑(b1,off+i*3),?_,rfl⟩
     have e27:a.eval (.tmp 27)=.slice ↑(b1,off) n cap:=(c.new 0 27)
     have e28:a.eval (.tmp 28)=↑i:=(c.new 1 28)
     generalize a.eval=ρ at e27 e28|-;simp[execOp,e27,e28,go_sem,i1,i2]
    refine aF λa w c=>⟨(ay rfl),_,Bi rfl ((c.new 2 29):a.eval (.tmp 29)=.pointer ↑(b1,off+i*3)) ((c.ev.cell (p:=⟨_,_,none⟩) hb1).trans c0) ((c.ev.cell (p:=⟨_,_,none⟩) hb1).trans c1) ((c.ev.cell (p:=⟨_,_,none⟩) hb1).trans c2),rfl⟩
    exact aIq;refine aF λa w c=>⟨(ay rfl),_,run_move _ rfl w,(c.was 5 rfl)⟩
    ·refine aF λa w c=>⟨(ay rfl),.pointer ↑(b2,off'+i*3),?_,rfl⟩
     have e31:a.eval (.tmp 31)=.slice ↑(b2,off') m cap':=(c.new 4 31)
     have e32:a.eval (.tmp 32)=↑i:=(c.new 5 32)
     generalize a.eval=ρ at e31 e32|-;simp[execOp,e31,e32,go_sem,i1,i3]
    refine aF λa w c=>⟨(ay rfl),_,Bi rfl ((c.new 6 33):a.eval (.tmp 33)=.pointer ↑(b2,off'+i*3)) ((c.ev.cell (p:=⟨_,_,none⟩) hb2).trans d0) ((c.ev.cell (p:=⟨_,_,none⟩) hb2).trans d1) ((c.ev.cell (p:=⟨_,_,none⟩) hb2).trans d2),rfl⟩
    refine eP λa w c=>⟨(ay rfl),106,#[vv xk xn xs,vv yk yn ys],?_,?_⟩
    rw[bK 106 _ _ rfl ah];have e30:a.eval (.tmp 30)=vv xk xn xs:=(c.new 3 30)
    have e34:a.eval (.tmp 34)=vv yk yn ys:=(c.new 7 34)
    simp[e30,e34];refine(Xb _ _ _ _ _ _ w).mono ?_;rintro e w2 ⟨rfl,hE⟩;exact⟨_,rfl,hE,aD8 Value.bool HX.out⟩;refine aF λa w c=>⟨(ay rfl),_,run_assign _ rfl w,(c.new 8 35)⟩
   intro s w4 oN hold hnew;have f0:s 0=.slice ↑(b1,off) n cap:=hold 0;have f1:s 1=.slice ↑(b2,off') m cap':=hold 1;have f5:s 5=↑i:=hold 5;have f4:s 4=.bool x:=hnew 9 4;change Exit.then _ _ .normal ⟨_,_⟩ _;simp only[List.range,List.range.loop,List.map];simp only[f0,f1,f5,f4];clear hold hnew;go_wp2;go_ret;exact⟨by rw[HF.out];exact aD8 (λb=>Ending.returned (Value.bool b)) HX.out.symm,hE.trans oN⟩
  have i3:¬(i:Int)<(m:Int):=ae;have HF:=zq (OZ HI.out.same HI.out.le HI.out.le' (.inr (by rw[HM.out];omega)));have e1:¬(n:Int)<(m:Int):=ae;have e2:decide (a.length<b.length)=false:=aDB (by rw[HL.out,HM.out];omega);go_wp2;go_ret;exact⟨by rw[HF.out,e2];rfl,hE⟩
 have i2:¬(i:Int)<(n:Int):=ae;have HF:=zq (OZ HI.out.same HI.out.le HI.out.le' (.inl (by rw[HL.out];omega)));have e2:decide (a.length<b.length)=decide (n<m):=by rw[HL.out,HM.out]
 go_wp2;go_ret;exact⟨by rw[HF.out,e2];rfl,hE⟩
theorem aHT(h:U:=by refine aF λa w c=>⟨(ay rfl),_,wS rfl ((c.was 6 rfl):a.eval (.tmp 6)=.pointer ↑g) (B0.ev c.ev),rfl⟩):U:=h
theorem aGE(h:U:=by
 refine eP λa w c=>⟨(ay rfl),103,#[vv vk vn vs],?_,?_⟩
 rw[bK 103 _ _ rfl ah];have e19:a.eval (.tmp 19)=vv vk vn vs:=(c.new 0 19)
 simp[e19];refine(HV w).mono ?_;rintro e w2 ⟨rfl,hE⟩;exact⟨_,rfl,hE,rfl⟩):U:=h
theorem aIy(h:U:=by refine aF λa w c=>⟨(ay rfl),_,run_move _ rfl w,(c.new 2 21)⟩):U:=h
theorem aIA(h:U:=by refine uu λa w c=>⟨(mZ rfl ah (c.new 3 22) ai),trivial⟩):U:=h
theorem aFx(h:U:=by intro s w4 oN hold hnew;have f0:s 0=.slice ↑(b2,off') m cap:=hold 0;have f1:s 1=.slice ↑(b1,off) m cap':=hold 1;have f2:_=undef:=hold 2;have f3:_=undef:=hold 3;have f5:s 5=↑k:=hold 5;have f6:s 6=.pointer ↑g:=hold 6;have f7:s 7=.slice ↑(b1,off) m cap':=hold 7;have f8:s 8=↑m:=hold 8;have f9:s 9=.slice ↑(b2,off') m cap:=hold 9;have f10:s 10=↑m:=hold 10;have f11:s 11=.bool false:=hold 11;have f12:s 12=.slice ↑(b1,off) m cap':=hold 12;have f13:s 13=↑m:=hold 13;have f14:s 14=↑k:=hold 14;have f31:s 31=.bool true:=hnew 12 31;change Exit.then _ _ .normal ⟨#[s 0,s 1,s 2,s 3,s 4,s 5,s 6,s 7,s 8,s 9,s 10,s 11,s 12,s 13,s 14,s 15,s 16,s 17,s 18,s 19,s 20,s 21,s 22,s 23,s 24,s 25,s 26,s 27,s 28,s 29,s 30,s 31,s 32],_⟩ _;simp only[f0,f1,f2,f3,f5,f6,f7,f8,f9,f10,f11,f12,f13,f14,f31];clear hold hnew;go_wp2;go_ret;exact⟨by rw[HF.out];rfl,(hE.trans aV).trans oN⟩):U:=h
theorem aHb(h:U:=by
 refine aF λa w c=>⟨(ay rfl),.bool false,?_,rfl⟩
 have e20:a.eval (.tmp 20)=.bool true:=(c.new 1 20)
 generalize a.eval=ρ at e20|-;simp[execOp,e20,go_sem]):U:=h
theorem aG0(h:U:=by
 refine aF λa w c=>⟨(aH rfl ah (c.new 3 22)),.pointer ↑g,?_,rfl⟩
 have e6:a.eval (.tmp 6)=.pointer ↑g:=(c.was 6 rfl)
 generalize a.eval=ρ at e6|-;simp[execOp,e6,go_sem]):U:=h
theorem aGP(h:U:=by
 refine aF λa w c=>⟨(aH rfl ah (c.new 3 22)),↑vk,?_,rfl⟩
 have e23:a.eval (.tmp 23)=.pointer ↑g:=(c.new 4 23)
 have hc:=(B0.ev c.ev).c0;generalize a.eval=ρ at e23|-;simp[execOp,e23,hc,go_sem]):U:=h
theorem aGi(h:U:=by
 refine aF λa w c=>⟨(aH rfl ah (c.new 3 22)),.pointer ↑(b2,off'+k*2),?_,rfl⟩
 have e25:a.eval (.tmp 25)=.slice ↑(b2,off') m cap:=(c.new 6 25)
 have e26:a.eval (.tmp 26)=↑k:=(c.new 7 26)
 generalize a.eval=ρ at e25 e26|-;simp[execOp,e25,e26,go_sem,i1,i2]):U:=h
theorem aGL(h:U:=by
 refine aF λa w c=>⟨(aH rfl ah (c.new 3 22)),.pointer ↑(b2,off'+k*2+1),?_,rfl⟩
 have e27:a.eval (.tmp 27)=.pointer ↑(b2,off'+k*2):=(c.new 8 27)
 generalize a.eval=ρ at e27|-;simp[execOp,e27,go_sem]):U:=h
theorem aGZ(h:U:=by
 have e28:a.eval (.tmp 28)=.pointer ↑(b2,off'+k*2+1):=(c.new 9 28)
 have hc:=(c.ev.cell (p:=⟨_,_,none⟩) hb2).trans d1;generalize a.eval=ρ at e28|-;simp[execOp,e28,hc,go_sem]):U:=h
theorem ado{A B:Option Addr}{n m cap cap':Nat}{l:List C}{r:List V}(w:ak)(h:Cs w A n cap l)(h':Vs w B m cap' r):
  Calls ax 67 #[.slice A n cap,.slice B m cap'] w λe w'=>e=.returned (.bool (fitsL l r))/\Ev w w':=by
 have hn:=h.le;have hm:=h.max;have hn':=h'.le;have WE:=h'.max;have HL:=zq h.len;have HM:=zq h'.len;have dH:Tryz.prog.follows .mixedOrders=true:=ah;by_cases hnm:m=n
 ·subst hnm;go_enter func67,ntmps67;go_wp2
  go_loopw [14] (λi wr=>∃k:Nat,k<=m/\i=↑k/\Hid (fitsL (l.take k) (r.take k)=true)/\Ev w wr) (λi _=>m-(intOf i).toNat)
  case atStart=>exact⟨0,aDl _,rfl,zq (by simp[fitsL]),Ev.refl _⟩
  case round=>
   obtain⟨k,hk,rfl,HT,hE⟩:=hrel;by_cases hlt:k<m
   ·obtain⟨b2,off',⟨xs,ck⟩,rfl,hb2,hy,d0,d1⟩:=(h.ev hE).ac5 hlt;obtain⟨b1,off,⟨vk,vn,vs⟩,rfl,hb1,hx,c0,c1,c2⟩:=(h'.ev hE).G8 hlt;simp only at c0 c1 c2 d0 d1;have i1:(0:Int)<=(k:Int):=ae;have i2:(k:Int)<(m:Int):=ae;have HX:=zq hx;have HY:=zq hy;obtain⟨w0,hw0⟩:∃w0,w0=wr.alloc (.cells #[↑vk,↑vn,.string vs] 42):=⟨_,rfl⟩
    have B0:Boxed wr.heap.size vk vn vs w0:=hw0▸Boxed.new vk vn vs wr;have aV:Ev wr w0:=hw0▸Ev.alloc wr _;replace d1:=(aV.cell (p:=⟨b2,off'+k*2+1,none⟩) hb2).trans d1;replace hb2:b2<w0.heap.size:=aDf hb2 aV.size;have HV:=λw1=>qi vk vn vs w1;obtain⟨rr,hrr⟩:∃rr,ed vk vn vs=rr:=⟨_,rfl⟩
    rw[hrr]at HV;clear hx hy h h'
    cases rr
    ·have HF:Hid (fitsL l r=false):=zq (Fh k l r _ _ HY.out HX.out (.inl hrr));clear hrr
     go_wp2_with fail
     rw[<-hw0];obtain⟨g,hg⟩:∃g,g=wr.heap.size:=⟨_,rfl⟩
     rw[<-hg]at B0|-;refine bD dH [λv _=>v=vv vk vn vs,λv _=>v=.bool false,λv _=>v=.bool true,λv _=>v=.bool true,λ_ _=>True,λ_ _=>True,λ_ _=>True,λ_ _=>True,λ_ _=>True,λ_ _=>True,λ_ _=>True,λ_ _=>True,λv _=>v=.bool true]
      33 rfl ah ⟨aB _,aB _,aB _,aB _,fC,fC,fC,fC,fC,fC,fC,fC,aB _,trivial⟩ ?_ ?_
     ·refine az 0 ?_ (az 1 ?_ (az 2 ?_ (az 3 ?_ (az 4 ?_ (az 5 ?_ (az 6 ?_ (az 7 ?_ (az 8 ?_ (az 9 ?_ (az 10 ?_ (az 11 ?_ (az 12 ?_ (eY 13)))))))))))));exact aHT;exact aGE
      ·refine aF λa w c=>⟨(ay rfl),.bool true,?_,rfl⟩
       have e20:a.eval (.tmp 20)=.bool false:=(c.new 1 20)
       generalize a.eval=ρ at e20|-;simp[execOp,e20,go_sem]
      exact aIy;exact aIA;exact aIA;exact aIA;exact aIA;exact aIA;exact aIA;exact aIA;exact aIA;refine aF λa w c=>⟨(ay rfl),_,iZ rfl (c.new 3 22) w,(evc a _)⟩
     exact aFx
    by_cases Kr:vk=ck
    ·subst Kr;have HF:=zq (JX k l r _ _ HT.out HY.out HX.out hrr rfl);clear hrr
     go_wp2_with fail
     rw[<-hw0];obtain⟨g,hg⟩:∃g,g=wr.heap.size:=⟨_,rfl⟩
     rw[<-hg]at B0|-;refine bD dH [λv _=>v=vv vk vn vs,λv _=>v=.bool true,λv _=>v=.bool false,λv _=>v=.bool false,λv _=>v=.pointer ↑g,λv _=>v=↑vk,λv _=>v=.slice ↑(b2,off') m cap,λv _=>v=↑k,λv _=>v=.pointer ↑(b2,off'+k*2),λv _=>v=.pointer ↑(b2,off'+k*2+1),λv _=>v=↑vk,λv _=>v=.bool false,λv _=>v=.bool false]
      33 rfl ah ⟨aB _,aB _,aB _,aB _,aB _,aB _,aB _,aB _,aB _,aB _,aB _,aB _,aB _,trivial⟩ ?_ ?_
     ·refine az 0 ?_ (az 1 ?_ (az 2 ?_ (az 3 ?_ (az 4 ?_ (az 5 ?_ (az 6 ?_ (az 7 ?_ (az 8 ?_ (az 9 ?_ (az 10 ?_ (az 11 ?_ (az 12 ?_ (eY 13)))))))))))));exact aHT;exact aGE;exact aHb;exact aIy;exact aG0;exact aGP;refine aF λa w c=>⟨(aH rfl ah (c.new 3 22)),_,run_move _ rfl w,(c.was 0 rfl)⟩
      refine aF λa w c=>⟨(aH rfl ah (c.new 3 22)),_,run_move _ rfl w,(c.was 5 rfl)⟩
      exact aGi;exact aGL;refine aF λa w c=>⟨(aH rfl ah (c.new 3 22)),↑vk,?_,rfl⟩
      exact aGZ
      ·refine aF λa w c=>⟨(aH rfl ah (c.new 3 22)),.bool false,?_,rfl⟩
       have e24:a.eval (.tmp 24)=↑vk:=(c.new 5 24)
       have e29:a.eval (.tmp 29)=↑vk:=(c.new 10 29)
       generalize a.eval=ρ at e24 e29|-;simp[execOp,e24,e29,go_sem]
      refine aF λa w c=>⟨(ay rfl),_,yM rfl (c.new 3 22) w,(c.new 11 30)⟩
     intro s w4 oN hold hnew;have f0:s 0=.slice ↑(b2,off') m cap:=hold 0;have f1:s 1=.slice ↑(b1,off) m cap':=hold 1;have f2:_=undef:=hold 2;have f3:_=undef:=hold 3;have f5:s 5=↑k:=hold 5;have f6:s 6=.pointer ↑g:=hold 6;have f7:s 7=.slice ↑(b1,off) m cap':=hold 7;have f8:s 8=↑m:=hold 8;have f9:s 9=.slice ↑(b2,off') m cap:=hold 9;have f10:s 10=↑m:=hold 10;have f11:s 11=.bool false:=hold 11;have f12:s 12=.slice ↑(b1,off) m cap':=hold 12;have f13:s 13=↑m:=hold 13;have f14:s 14=↑k:=hold 14;have f31:s 31=.bool false:=hnew 12 31;change Exit.then _ _ .normal ⟨#[s 0,s 1,s 2,s 3,s 4,s 5,s 6,s 7,s 8,s 9,s 10,s 11,s 12,s 13,s 14,s 15,s 16,s 17,s 18,s 19,s 20,s 21,s 22,s 23,s 24,s 25,s 26,s 27,s 28,s 29,s 30,s 31,s 32],_⟩ _;simp only[f0,f1,f2,f3,f5,f6,f7,f8,f9,f10,f11,f12,f13,f14,f31];clear hold hnew;generalize s 4=u4,s 15=u15,s 16=u16,s 17=u17,s 18=u18,s 32=u32;go_wp2;go_roundw
     case rel=>exact⟨k+1,ae,by go_num,HF,(hE.trans aV).trans oN⟩
     case measure=>simp[intOf];omega
    have HF:Hid (fitsL l r=false):=zq (Fh k l r _ _ HY.out HX.out (.inr Kr));clear hrr
    go_wp2_with fail
    rw[<-hw0];obtain⟨g,hg⟩:∃g,g=wr.heap.size:=⟨_,rfl⟩
    rw[<-hg]at B0|-;refine bD dH [λv _=>v=vv vk vn vs,λv _=>v=.bool true,λv _=>v=.bool false,λv _=>v=.bool false,λv _=>v=.pointer ↑g,λv _=>v=↑vk,λv _=>v=.slice ↑(b2,off') m cap,λv _=>v=↑k,λv _=>v=.pointer ↑(b2,off'+k*2),λv _=>v=.pointer ↑(b2,off'+k*2+1),λv _=>v=↑ck,λv _=>v=.bool true,λv _=>v=.bool true]
     33 rfl ah ⟨aB _,aB _,aB _,aB _,aB _,aB _,aB _,aB _,aB _,aB _,aB _,aB _,aB _,trivial⟩ ?_ ?_
    ·refine az 0 ?_ (az 1 ?_ (az 2 ?_ (az 3 ?_ (az 4 ?_ (az 5 ?_ (az 6 ?_ (az 7 ?_ (az 8 ?_ (az 9 ?_ (az 10 ?_ (az 11 ?_ (az 12 ?_ (eY 13)))))))))))));exact aHT;exact aGE;exact aHb;exact aIy;exact aG0;exact aGP;refine aF λa w c=>⟨(aH rfl ah (c.new 3 22)),_,run_move _ rfl w,(c.was 0 rfl)⟩
     refine aF λa w c=>⟨(aH rfl ah (c.new 3 22)),_,run_move _ rfl w,(c.was 5 rfl)⟩
     exact aGi;exact aGL;refine aF λa w c=>⟨(aH rfl ah (c.new 3 22)),↑ck,?_,rfl⟩
     exact aGZ
     ·refine aF λa w c=>⟨(aH rfl ah (c.new 3 22)),.bool true,?_,rfl⟩
      have e24:a.eval (.tmp 24)=↑vk:=(c.new 5 24)
      have e29:a.eval (.tmp 29)=↑ck:=(c.new 10 29)
      generalize a.eval=ρ at e24 e29|-;simp[execOp,e24,e29,go_sem,Kr]
     refine aF λa w c=>⟨(ay rfl),_,yM rfl (c.new 3 22) w,(c.new 11 30)⟩
    exact aFx
   obtain rfl:k=m:=ae;have HF:Hid (fitsL l r=true):=zq (by
    have:=HT.out;rwa [aDj (by rw[HL.out];exact aC8 _),aDj (by rw[HM.out];exact aC8 _)]at this)
   go_wp2;go_ret;exact⟨by rw[HF.out];rfl,hE⟩
 have hne:¬(m:Int)=(n:Int):=ae;have HF:Hid (fitsL l r=false):=zq (ada (by rw[HL.out,HM.out];omega));go_enter func67,ntmps67;go_wp2;go_ret;exact⟨by rw[HF.out];rfl,Ev.refl _⟩
theorem Lh(n:Int)(w:ak):
  Calls ax 33 #[↑n] w λe w'=>e=.returned (vv 1 n ⟨#[]⟩)/\Ev w w':=by
 go_enter func33,ntmps33;go_wp2;refine aFe (Dn rfl _ _ w.heap.size 1 n ⟨#[]⟩ rfl (aFd w _)) rfl ?_;exact⟨rfl,Ev.alloc _ _⟩
theorem ad3(s:ByteArray)(w:ak):
  Calls ax 57 #[.string s] w λe w'=>e=.returned (vv 2 0 s)/\Ev w w':=by
 go_enter func57,ntmps57;go_wp2;refine aFe (Dn rfl _ _ w.heap.size 2 0 s rfl (aFd w _)) rfl ?_;exact⟨rfl,Ev.alloc _ _⟩
def bI(x:Int):V:=(1,x,⟨#[]⟩)
abbrev Is:=Sl 1 (λx:Int=>[↑x])
theorem abo{A:Option Addr}{n cap:Nat}{l:List Int}(w:ak)(h:Is w A n cap l)(hn:n<=1000):
  Calls ax 16 #[.slice A n cap] w λe w'=>∃v,e=.returned v/\qj w' v (l.map bI)/\(∀g,v.ownBlock=some g->w.heap.size<=g)/\Ev w w':=by
 have hc:=h.le;have hm:=h.max;have HN:=zq h.len;go_enter func16,ntmps16;go_wp2
 go_loopw [4,3] (λi v wr=>∃k:Nat,k<=n/\i=↑k/\qj wr v ((l.take k).map bI)/\(∀g,v.ownBlock=some g->w.heap.size<=g)/\Ev w wr) (λi _ _=>n-(intOf i).toNat)
 case atStart=>exact⟨0,aDl _,rfl,qj.nil_ _,(by simp[Value.ownBlock]),Ev.refl _⟩
 case round=>
  obtain⟨k,hk,rfl,hV,hg,hE⟩:=hrel;by_cases hlt:k<n
  ·obtain⟨x,hx⟩:=h.at hlt;obtain⟨b,off,rfl,hb,hcl⟩:=(h.ev hE).rd ae;have c0:=hcl k x hx 0 _ rfl;rw[aED,aDw]at c0;have HF:Hid ((l.take (k+1)).map bI=(l.take k).map bI++[bI x]):=zq (by
    obtain⟨hk2,rfl⟩:=aC6.1 hx;rw[aDi hk2,aDk];rfl)
   have hlen:((l.take k).map bI).length<=1000:=by simp;omega
   clear hx hcl;have HM:=zq (λw1=>Lh x w1)
   go_wp2_with (first|((with_reducible refine(HM.out _).mono ?_);rintro y w2 ⟨rfl,dJ⟩;have hV2:=(hV.ev dJ).ev (Ev.alloc w2 (.cells #[.int .i64 1,↑x,.string ⟨#[]⟩] 42)))|(at_builtin;refine sH rfl (.tmp 11) (.tmp 17) rfl underlying44 Tryz.Zn u3 _ rfl hV2 ↑w2 1 1 [(1,x,⟨#[]⟩)] rfl (Vs.J_ w2 1 x ⟨#[]⟩) (by simp only[aDh,aDZ];omega) ?_;intro v4 w4 hv4 hb4 hs4;obtain⟨A4,n4,cap4,rfl⟩:=hv4.form))
   go_roundw
   case rel=>
    refine⟨k+1,ae,by go_num,HF.out▸hv4,hs4.ge (by have:=hE.size;have:=dJ.size;simp;omega) hg,((hE.trans dJ).trans aC).rows hg hb4⟩
   case measure=>simp[intOf];omega
  obtain rfl:k=n:=ae;go_wp2;go_ret;rw[aDj (by rw[HN.out];exact aC8 _)]at hV;exact⟨_,rfl,hV,hg,hE⟩
theorem pg.lt{g:Nat}{s:ByteArray}{k:Int}{w:ak}(h:pg g s k w):g<w.heap.size:=(aDa.1 h.blk).1
theorem aHh(h:U:=by refine aF λa w c=>⟨(ay rfl),_,uB k rfl ((c.new 0 33):a.eval (.tmp 33)=.slice ↑(b,off) n cap) ((c.new 1 34):a.eval (.tmp 34)=↑k) ET w,rfl⟩):U:=h
theorem aG'(h:U:=by
 refine aF λa w c=>⟨(ay rfl),.pointer ↑g,?_,rfl⟩
 have e4:a.eval (.tmp 4)=.pointer ↑g:=(c.was 4 rfl)
 generalize a.eval=ρ at e4|-;simp[execOp,e4,go_sem]):U:=h
theorem aGH(h:U:=by
 refine aF λa w c=>⟨(ay rfl),.string xs,?_,rfl⟩
 have e36:a.eval (.tmp 36)=.pointer ↑g:=(c.new 3 36)
 have hc:=(c.ev.cell (p:=⟨_,_,none⟩) B1.lt).trans B1.c0;generalize a.eval=ρ at e36|-;simp[execOp,e36,hc,go_sem]):U:=h
theorem aF0(h:U:=by
 refine eP λa w c=>⟨(ay rfl),119,#[.slice ↑(b,off) k cap,.string xs],?_,?_⟩
 rw[bK 119 _ _ rfl ah];have e35:a.eval (.tmp 35)=.slice ↑(b,off) k cap:=(c.new 2 35)
 have e37:a.eval (.tmp 37)=.string xs:=(c.new 4 37)
 simp[e35,e37];refine(HD w (aJ.trans c.ev)).mono ?_;rintro e w2 ⟨rfl,hE⟩;exact⟨_,rfl,hE,rfl⟩):U:=h
theorem aHC(h:U:=by
 have e32:a.eval (.tmp 32)=.tuple #[↑fo,.bool false]:=(c.new 6 32)
 generalize a.eval=ρ at e32|-;simp[execOp,e32,go_sem]):U:=h
theorem aHE(h:U:=by
 have e32:a.eval (.tmp 32)=.tuple #[↑fo,.bool true]:=(c.new 6 32)
 generalize a.eval=ρ at e32|-;simp[execOp,e32,go_sem]):U:=h
theorem aFj(h:U:=by
 have ET:k<=cap:=ae
 cases tk
 ·have XH:Hid (iH [] l=iH (l.take (k+1)) (l.drop (k+1))):=zq (by rw[hf];rfl);clear hf
  go_wp2_with (first|(rw[<-hw0];(with_reducible refine(HM.out _).mono ?_);rintro x w1 ⟨rfl,aJ⟩;have B1:=B0.ev aJ;have c0:=B1.c0;have c1:=B1.c1))
  obtain⟨g,hg⟩:∃g,g=wr.heap.size:=⟨_,rfl⟩
  rw[<-hg]at B1|-;refine bD dH [λv _=>v=.slice ↑(b,off) n cap,λv _=>v=↑k,λv _=>v=.slice ↑(b,off) k cap,λv _=>v=.pointer ↑g,λv _=>v=.string xs,λv _=>v=.tuple #[↑fo,.bool false],λv _=>v=.tuple #[↑fo,.bool false],λv _=>v=↑fo,λv _=>v=.bool false,λv _=>v=↑fo,λv _=>v=.bool false]
   43 rfl ah ⟨aB _,aB _,aB _,aB _,aB _,aB _,aB _,aB _,aB _,aB _,aB _,trivial⟩ ?_ ?_
  refine az 0 ?_ (az 1 ?_ (az 2 ?_ (az 3 ?_ (az 4 ?_ (az 5 ?_ (az 6 ?_ (az 7 ?_ (az 8 ?_ (az 9 ?_ (az 10 ?_ (eY 11)))))))))));exact aIp;refine aF λa w c=>⟨(ay rfl),_,run_move _ rfl w,(c.was 3 rfl)⟩
  exact aHh;exact aG';exact aGH;exact aF0;refine aF λa w c=>⟨(ay rfl),_,run_move _ rfl w,(c.new 5 38)⟩
  refine aF λa w c=>⟨(ay rfl),↑fo,?_,rfl⟩
  exact aHC;refine aF λa w c=>⟨(ay rfl),.bool false,?_,rfl⟩
  exact aHC;refine aF λa w c=>⟨(ay rfl),_,run_assign _ rfl w,(c.new 7 39)⟩
  refine aF λa w c=>⟨(ay rfl),_,run_assign _ rfl w,(c.new 8 40)⟩
  intro s w4 oN hold hnew;have f0:s 0=.slice ↑(b,off) n cap:=hold 0;have f1:_=undef:=hold 1;have f3:s 3=↑k:=hold 3;have f4:s 4=.pointer ↑g:=hold 4;have f7:s 7=.slice ↑(b,off) n cap:=hold 7;have f8:s 8=↑n:=hold 8;have f9:s 9=.bool true:=hold 9;have f10:s 10=.bool false:=hold 10;have f11:s 11=.slice ↑(b,off) n cap:=hold 11;have f12:s 12=↑n:=hold 12;have f13:s 13=↑k:=hold 13;have f5:s 5=↑fo:=hnew 9 5;have f6:s 6=.bool false:=hnew 10 6;change Exit.then _ _ .normal ⟨_,_⟩ _;simp only[List.range,List.range.loop,List.map];simp only[f0,f1,f3,f4,f7,f8,f9,f10,f11,f12,f13,f5,f6];clear hold hnew;generalize s 2=u2,s 14=u14,s 15=u15,s 16=u16,s 17=u17,s 18=u18,s 19=u19,s 20=u20,s 21=u21,s 22=u22,s 23=u23,s 24=u24,s 25=u25,s 26=u26,s 27=u27,s 28=u28,s 29=u29,s 30=u30,s 31=u31,s 41=u41,s 42=u42;go_wp2;go_roundw
  case rel=>exact⟨k+1,ae,by go_num,XH,((hE.trans aV).trans aJ).trans oN⟩
  case measure=>simp[intOf];omega
 have XH:Hid (iH [] l=21):=zq (by rw[hf];rfl);clear hf
 go_wp2_with (first|(rw[<-hw0];(with_reducible refine(HM.out _).mono ?_);rintro x w1 ⟨rfl,aJ⟩;have B1:=B0.ev aJ;have c0:=B1.c0;have c1:=B1.c1))
 obtain⟨g,hg⟩:∃g,g=wr.heap.size:=⟨_,rfl⟩
 rw[<-hg]at B1|-;refine bD dH [λv _=>v=.slice ↑(b,off) n cap,λv _=>v=↑k,λv _=>v=.slice ↑(b,off) k cap,λv _=>v=.pointer ↑g,λv _=>v=.string xs,λv _=>v=.tuple #[↑fo,.bool true],λv _=>v=.tuple #[↑fo,.bool true],λv _=>v=↑fo,λv _=>v=.bool true,λv _=>v=↑fo,λv _=>v=.bool true]
  43 rfl ah ⟨aB _,aB _,aB _,aB _,aB _,aB _,aB _,aB _,aB _,aB _,aB _,trivial⟩ ?_ ?_
 refine az 0 ?_ (az 1 ?_ (az 2 ?_ (az 3 ?_ (az 4 ?_ (az 5 ?_ (az 6 ?_ (az 7 ?_ (az 8 ?_ (az 9 ?_ (az 10 ?_ (eY 11)))))))))));exact aIp;refine aF λa w c=>⟨(ay rfl),_,run_move _ rfl w,(c.was 3 rfl)⟩
 exact aHh;exact aG';exact aGH;exact aF0;refine aF λa w c=>⟨(ay rfl),_,run_move _ rfl w,(c.new 5 38)⟩
 refine aF λa w c=>⟨(ay rfl),↑fo,?_,rfl⟩
 exact aHE;refine aF λa w c=>⟨(ay rfl),.bool true,?_,rfl⟩
 exact aHE;refine aF λa w c=>⟨(ay rfl),_,run_assign _ rfl w,(c.new 7 39)⟩
 refine aF λa w c=>⟨(ay rfl),_,run_assign _ rfl w,(c.new 8 40)⟩
 intro s w4 oN hold hnew;have f0:s 0=.slice ↑(b,off) n cap:=hold 0;have f1:_=undef:=hold 1;have f3:s 3=↑k:=hold 3;have f4:s 4=.pointer ↑g:=hold 4;have f7:s 7=.slice ↑(b,off) n cap:=hold 7;have f8:s 8=↑n:=hold 8;have f9:s 9=.bool true:=hold 9;have f10:s 10=.bool false:=hold 10;have f11:s 11=.slice ↑(b,off) n cap:=hold 11;have f12:s 12=↑n:=hold 12;have f13:s 13=↑k:=hold 13;have f5:s 5=↑fo:=hnew 9 5;have f6:s 6=.bool true:=hnew 10 6;change Exit.then _ _ .normal ⟨_,_⟩ _;simp only[List.range,List.range.loop,List.map];simp only[f0,f1,f3,f4,f7,f8,f9,f10,f11,f12,f13,f5,f6];clear hold hnew;go_wp2;go_ret;exact⟨by rw[HG.out,XH.out];rfl,((hE.trans aV).trans aJ).trans oN⟩):U:=h
theorem y8{A:Option Addr}{n cap:Nat}{l:List C}(w:ak)(h:Cs w A n cap l):
  Calls ax 65 #[.slice A n cap] w λe w'=>e=.returned (.int .i64 (qO l))/\Ev w w':=by
 have hn:=h.le;have hm:=h.max;have HN:=zq h.len;have HC:=zq (λw1=>Hq n w1 ae);have HG:Hid (qO l=cond (decide (1<=n)&&decide (n<=6)) (iH [] l) 23):=zq (by unfold qO;rw[HN.out];cases (decide (1<=n)&&decide (n<=6))<;>rfl);have dH:Tryz.prog.follows .mixedOrders=true:=ah;generalize (decide (1<=n)&&decide (n<=6))=c at*
 cases c
 ·replace HG:Hid (qO l=23):=HG;go_enter func65,ntmps65;exact aHo
 replace HG:Hid (qO l=iH [] l):=HG;go_enter func65,ntmps65
 go_wp2_with (first|((with_reducible refine(HC.out _).mono ?_);rintro x w1 ⟨rfl,rfl⟩))
 go_loopw [13] (λi wr=>∃k:Nat,k<=n/\i=↑k/\Hid (iH [] l=iH (l.take k) (l.drop k))/\Ev w wr) (λi _=>n-(intOf i).toNat)
 case atStart=>exact⟨0,aDl _,rfl,zq rfl,Ev.refl _⟩
 case round=>
  obtain⟨k,hk,rfl,HT,hE⟩:=hrel;by_cases hlt:k<n
  ·obtain⟨b,off,⟨xs,xk⟩,rfl,hb,hx,c0,c1⟩:=(h.ev hE).ac5 hlt;simp only at c0 c1;have HF:=zq (HT.out.trans (Ua hx));clear hx;simp only at HF;obtain⟨w0,hw0⟩:∃w0,w0=wr.alloc (.cells #[.string xs,↑xk] 82):=⟨_,rfl⟩
   have B0:pg wr.heap.size xs xk w0:=hw0▸pg.new xs xk wr;have aV:Ev wr w0:=hw0▸Ev.alloc wr _;have HM:=λw1=>vP xs w1;generalize gU xs=nm at*
   cases nm
   ·have HM:=zq HM;replace HF:Hid (iH [] l=20):=zq (by rw[HF.out];rfl)
    go_wp2_with (first|(rw[<-hw0];(with_reducible refine(HM.out _).mono ?_);rintro x w1 ⟨rfl,aJ⟩))
    go_ret;exact⟨by rw[HG.out,HF.out];rfl,(hE.trans aV).trans aJ⟩
   by_cases Kr:xk=1∨xk=2
   ·have hf:=HF.out;rw[if_neg (by rcases Kr with rfl|rfl<;>simp)]at hf;have h1:=(h.ev (hE.trans aV)).to k hk;have HD:=λw1 (aJ:Ev w0 w1)=>yS xs w1 (h1.ev aJ);obtain⟨fo,yF⟩:∃fo,foundAt (gZ (l.take k) xs)=fo:=⟨_,rfl⟩
    obtain⟨tk,wP⟩:∃tk,(gZ (l.take k) xs).isSome=tk:=⟨_,rfl⟩
    rw[yF,wP]at HD;rw[wP]at hf;have HM:=zq HM;clear yF wP h1;rcases Kr with rfl|rfl;exact aFj;exact aFj
   have n1:xk≠1:=λe=>Kr (.inl e);have n2:xk≠2:=λe=>Kr (.inr e);have m1:(xk !=1)=true:=aEk.2 n1;have m2:(xk !=2)=true:=aEk.2 n2;have HM:=zq HM;replace HF:Hid (iH [] l=20):=zq (by rw[HF.out,if_pos (by simp[n1,n2])])
   go_wp2_with (first|(rw[<-hw0];(with_reducible refine(HM.out _).mono ?_);rintro x w1 ⟨rfl,aJ⟩;have c1:=(B0.ev aJ).c1))
   go_ret;exact⟨by rw[HG.out,HF.out];rfl,(hE.trans aV).trans aJ⟩
  obtain rfl:k=n:=ae;have HF:Hid (iH [] l=0):=zq (by rw[HT.out,List.drop_eq_nil_of_le (by rw[HN.out];exact aC8 _)];rfl);go_wp2;go_ret;exact⟨by rw[HG.out,HF.out];rfl,hE⟩
theorem Is.made(l:List Int)(n:Nat)(hn:l.length=n)(hm:n<=1000)(w:ak)(cs:Array au)(hc:cs=(l.map λx=>Value.int .i64 x).toArray):Is (w.alloc (.cells cs 2)) ↑w n n l:=
 ⟨hn,aC8 _,ae,aj,λ_=>⟨w.heap.size,0,rfl,aj,λi x hx j u hu=>by
  have hi:=(aC6.1 hx).1;have hj:j=0:=by have:=(aC6.1 hu).1;simp at this;omega
  subst hj;rw[aFf (aFd w _),hc,List.getElem?_toArray,aDG];rw[aED,aDt,aDw,hx];simpa using hu⟩⟩
theorem ad5(l:List Int)(n:Nat)(hn:l.length=n)(hm:n<=1000)(w:ak)(cs:Array au)(hc:cs=(l.map λx=>Value.int .i64 x).toArray):
  Calls ax 16 #[.slice ↑w n n] (w.alloc (.cells cs 2)) λe w'=>∃A m cap,e=.returned (.slice A m cap)/\Vs w' A m cap (l.map bI)/\Ev w w':=
 (abo _ (Is.made l n hn hm w cs hc) hm).mono λe w' ⟨v,he,hv,_,hE⟩=>by obtain⟨A,cap,rfl,hvs,_⟩:=hv.vs;exact⟨A,_,cap,he,hvs,aC.trans hE⟩
theorem flat_get{α:Type}{k:Nat}{enc:α->List au}(hk:∀x,(enc x).length=k):∀(l:List α) (i:Nat) (x:α),l[i]?=some x->∀j u,(enc x)[j]?=some u->(l.flatMap enc)[i*k+j]?=some u
 | [],_,_,h,_,_,_=>by simp at h
 | y::l,0,x,h,j,u,hu=>by simp at h;subst h;have hj:j<(enc y).length:=(aC6.1 hu).1;rw[aEp,aDH,aDt,aD9 hj];exact hu
 | y::l,i+1,x,h,j,u,hu=>by
  have e:(i+1)*k+j-k=i*k+j:=by rw[aEv,aEi];omega
  rw[aEp,aEe (by rw[hk,aEv];omega),hk,e];exact flat_get hk l i x (by simpa using h) j u hu
theorem Sl.made{α:Type}{k:Nat}{enc:α->List au}(hk:∀x,(enc x).length=k)(l:List α)(n:Nat)(hn:l.length=n)(hm:n<=1000)(w:ak)(cs:Array au)(T:TypeId)(hc:cs=(l.flatMap enc).toArray):
  Sl k enc (w.alloc (.cells cs T)) ↑w n n l:=
 ⟨hn,aC8 _,ae,aj,λ_=>⟨w.heap.size,0,rfl,aj,λi x hx j u hu=>by
  rw[aFf (aFd w _),hc,List.getElem?_toArray,aDt];exact flat_get hk l i x hx j u hu⟩⟩
theorem Cs.made(l:List C)(n:Nat)(hn:l.length=n)(hm:n<=1000)(w:ak)(cs:Array au)(hc:cs=(l.flatMap jY).toArray):Cs (w.alloc (.cells cs 82)) ↑w n n l:=Sl.made (enc:=jY) (λ_=>rfl) l n hn hm w cs _ hc
theorem Vs.made(l:List V)(n:Nat)(hn:l.length=n)(hm:n<=1000)(w:ak)(cs:Array au)(hc:cs=(l.flatMap je).toArray):Vs (w.alloc (.cells cs 42)) ↑w n n l:=Sl.made (enc:=je) (λ_=>rfl) l n hn hm w cs _ hc
def jO:List C:=[(⟨#[97]⟩,1),(⟨#[98]⟩,1),(⟨#[115]⟩,2)]
theorem ak4(w:ak):Calls ax 17 #[] w λe w'=>e=.returned (.slice ↑w 3 3)/\Cs w' ↑w 3 3 jO/\Ev w w':=by go_enter func17,ntmps17;go_wp2;go_ret;exact⟨rfl,Cs.made jO 3 rfl ai w _ rfl,Ev.alloc _ _⟩
end Go.Proofs.YtbgmhhfjkkfhpaaGreatDoor
