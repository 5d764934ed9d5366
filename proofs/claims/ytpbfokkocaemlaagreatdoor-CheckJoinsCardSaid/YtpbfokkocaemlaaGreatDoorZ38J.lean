import Derived.Test.YtpbfokkocaemlaaGreatDoorZ37J
set_option linter.unusedVariables false
set_option maxRecDepth 100000
set_option maxHeartbeats 64000000
namespace Go.Proofs.YtpbfokkocaemlaaGreatDoor
open Go.RowKit
open Go.Lib renaming hid → zq
open Go renaming World → ak
open Go renaming Value → au
open Go.Proofs.Tryz renaming prog → ax
variable {U:Prop}
open Go.Proofs.Tryz
theorem azY(h:U:=by refine aF λa wq c=>⟨(ay rfl),_,jk rfl ((c.was 5 rfl):a.eval (.tmp 5)=.pointer ↑gm) (BM.ev c.ev) underlying32 rfl Tryz.bG,rfl⟩):U:=h
theorem aAN(h:U:=by
 refine gu λa wq c=>⟨(ay rfl),9,#[],?_,?_⟩
 rw[bC 9 _ _ rfl ah];simp;exact sS wq):U:=h
theorem aA2(h:U:=by rintro e wp ⟨x_,rfl,V8,lT⟩;exact⟨_,rfl,lT,x_,rfl,V8.Af c.ev.size⟩):U:=h
theorem aAY(h:U:=by refine⟨(ay rfl),x_,?_,h_⟩;generalize a.eval=ρ at e_|-;simp[execOp,e_,go_sem]):U:=h
theorem azN(h:U:=by refine aF λa wq c=>⟨(ay rfl),_,jk rfl ((c.was 6 rfl):a.eval (.tmp 6)=.pointer (some ⟨gm+1,0,none⟩)) (BU.ev c.ev) underlying32 rfl Tryz.bG,rfl⟩):U:=h
theorem az9(h:U:=by
 go_wp2_with ((with_reducible refine(U2.out _ E5.out).mono ?_);rintro r w9 ⟨rfl,oI⟩)
 go_ret;exact⟨rfl,(E5.out).trans oI⟩):U:=h
theorem az0(h:U:=by clear hy;exact az9):U:=h
theorem azH(h:U:=by refine⟨(ay rfl),.slice ↑wq.heap.size 1 1,wq.alloc (.cells #[.string x.1] 9),?_,Ev.alloc _ _,qG.new x.1 wq⟩;generalize a.eval=ρ at bD|-;simp[execOp,bD,go_sem]):U:=h
theorem aAc(h:U:=by
 have e108:a.eval (.tmp 108)=.tuple #[↑FI,.bool FB]:=(c.new 13 108)
 generalize a.eval=ρ at e108|-;simp[execOp,e108,go_sem]):U:=h
theorem aAA(h:U:=by
 go_wp2;go_roundw
 case rel=>exact⟨i+1,ae,ae,by go_num,by rw[HN2.out],E8⟩
 case measure=>simp[intOf];omega):U:=h
theorem ay'(h:U:=by
 go_wp2_with (first
  | ((with_reducible refine(MM.out _ aJ).mono ?_);rintro r w9 ⟨rfl,oI⟩;have E9:=zq (EG.out.trans oI);clear oI)
  | ((with_reducible refine(U2.out _ E9.out).mono ?_);rintro r w10 ⟨rfl,rF⟩))
 go_ret;exact⟨rfl,E9.out.trans rF⟩):U:=h
theorem ax3(h:U:=by
 refine dD fD [λv _=>v=.slice ↑(ab,ao) na IQ,λv _=>v=.pointer ↑(ab,ao),λv _=>v=.pointer ↑(ab,ao),λv _=>v=.string x.1,qG x.1.data.toList,λv _=>v=.agg #[.string ⟨#[122,122]⟩,.string ⟨#[99,111,117,110,116]⟩,.string ⟨#[]⟩],O_,λv _=>v=pv m,sW [m],sZ (qi x.1.data.toList P),yx,jd ww.heap.size gc gy gs,jd ww.heap.size gc gy gs,jF ww.heap.size gc,λv _=>v=↑gy,λv _=>v=.string gs,jF ww.heap.size gc,λv _=>v=↑gy,λv _=>v=.string gs]
  227 rfl ah ⟨aB _,aB _,aB _,aB _,qG.mono _,aB _,O_.mono,aB _,sW.mono _,sZ.mono _,yx.mono,jd.mono _ _ _ _,jd.mono _ _ _ _,jF.mono _ _,aB _,aB _,jF.mono _ _,aB _,aB _,trivial⟩ ?_ ?_
 ·refine aC 0 ?_ (aC 1 ?_ (aC 2 ?_ (aC 3 ?_ (aC 4 ?_ (aC 5 ?_ (aC 6 ?_ (aC 7 ?_ (aC 8 ?_ (aC 9 ?_ (aC 10 ?_ (aC 11 ?_ (aC 12 ?_ (aC 13 ?_ (aC 14 ?_ (aC 15 ?_ (aC 16 ?_ (aC 17 ?_ (aC 18 ?_ (kM 19)))))))))))))))))));refine aF λa wq c=>⟨(ay rfl),_,run_move _ rfl wq,(c.was 7 rfl)⟩
  ·refine aF λa wq c=>⟨(ay rfl),.pointer ↑(ab,ao),?_,rfl⟩
   have MK:a.eval (.tmp 186)=.slice ↑(ab,ao) na IQ:=(c.new 0 186)
   have lh:a.eval (.const (.int .i64 0))=.int .i64 0:=rfl;generalize a.eval=ρ at MK lh|-;simp[execOp,MK,lh,go_sem,ja0]
  ·refine aF λa wq c=>⟨(ay rfl),.pointer ↑(ab,ao),?_,rfl⟩
   have e187:a.eval (.tmp 187)=.pointer ↑(ab,ao):=(c.new 1 187)
   generalize a.eval=ρ at e187|-;simp[execOp,e187,go_sem]
  ·refine aF λa wq c=>⟨(ay rfl),.string x.1,?_,rfl⟩
   have ML:a.eval (.tmp 188)=.pointer ↑(ab,ao):=(c.new 2 188)
   have hc:=(c.ev.cell (p:=⟨_,_,none⟩) Xa).trans xa0;generalize a.eval=ρ at ML|-;simp[execOp,ML,hc,go_sem]
  refine je λa wq c=>?_;have bD:a.eval (.tmp 189)=.string x.1:=(c.new 3 189)
  exact azH
  ·refine aF λa wq c=>⟨(ay rfl),.agg #[.string ⟨#[122,122]⟩,.string ⟨#[99,111,117,110,116]⟩,.string ⟨#[]⟩],?_,rfl⟩
   have k0_:a.eval (.const (.string ⟨#[122,122]⟩))=.string ⟨#[122,122]⟩:=rfl;have k1_:a.eval (.const (.string ⟨#[99,111,117,110,116]⟩))=.string ⟨#[99,111,117,110,116]⟩:=rfl;generalize a.eval=ρ at k0_ k1_|-;simp[execOp,k0_,k1_,go_sem]
  ·refine je λa wq c=>?_;have bD:a.eval (.tmp 191)=.agg #[.string ⟨#[122,122]⟩,.string ⟨#[99,111,117,110,116]⟩,.string ⟨#[]⟩]:=(c.new 5 191)
   refine⟨(ay rfl),.slice ↑wq.heap.size 1 1,wq.alloc (.cells #[.string ⟨#[122,122]⟩,.string ⟨#[99,111,117,110,116]⟩,.string ⟨#[]⟩] 54),?_,Ev.alloc _ _,O_.new wq⟩;generalize a.eval=ρ at bD|-;simp[execOp,bD,go_sem]
  refine aF λa wq c=>⟨(ay rfl),_,jk rfl ((c.was 5 rfl):a.eval (.tmp 5)=.pointer ↑gm) (BMW.ev c.ev) underlying32 rfl Tryz.bG,rfl⟩
  ·refine je λa wq c=>?_;have bD:a.eval (.tmp 193)=.agg ↑m:=(c.new 7 193)
   refine⟨(ay rfl),.slice ↑wq.heap.size 1 1,wq.alloc (.cells ↑m 32),?_,Ev.alloc _ _,sW.aeo m wq⟩;generalize a.eval=ρ at bD|-;simp[execOp,bD,go_sem]
  ·refine aF λa wq c=>?_;obtain⟨zi,Rh,U0,l0_⟩:=(c.got 4 190 ah ah rfl:qG x.1.data.toList _ _)
   obtain⟨zk,UU,WJ,l1_⟩:=(c.got 6 192 ah ah rfl:O_ _ _)
   obtain⟨xJ,Hy,U1,l2_⟩:=(c.got 8 194 ah ah rfl:sW [m] _ _)
   have lh:a.eval (.const (.int .i64 7))=.int .i64 7:=rfl;have Hy:a.eval (.tmp 194)=.slice ↑xJ 1 1:=Hy;refine⟨(ay rfl),.agg #[.int .i64 7,.string ⟨#[]⟩,↑(),↑(),.slice ↑zi 1 1,↑(),.slice ↑zk 1 1,.slice ↑xJ 1 1],?_,gM zi zk xJ x.1.data.toList m,rfl,(by rw[aem,HMP.out]),Jf U0 WJ U1 l0_ l1_ l2_ (W_.out.ev c.ev)⟩;generalize a.eval=ρ at lh Rh UU Hy|-;simp[execOp,lh,Rh,UU,Hy,go_sem]
  exact aAN;refine gu λa wq c=>?_;have ZG:=(c.got 10 196 ah ah rfl:yx _ _)
  obtain⟨z_,ez_,TA,NT⟩:=(c.got 9 195 ah ah rfl:sZ _ _ _)
  refine⟨(ay rfl),7,#[pv z_,a.eval (.tmp 196)],?_,?_⟩;rw[bC 7 _ _ rfl ah];simp[ez_];refine(HG.out z_ TA _ wq (E5W.out.trans c.ev) NT ZG).mono ?_;exact aA2;refine aF λa wq c=>⟨(ay rfl),_,run_move _ rfl wq,(c.new 11 197)⟩
  refine aF λa wq c=>?_;obtain⟨x_,e_,h_⟩:=(c.got 12 185 ah ah rfl:jd _ _ _ _ _ _)
  exact aAY
  ·refine aF λa wq c=>?_;obtain⟨x_,e_,h_⟩:=(c.got 12 185 ah ah rfl:jd _ _ _ _ _ _)
   refine⟨(ay rfl),↑gy,?_,rfl⟩;generalize a.eval=ρ at e_|-;simp[execOp,e_,go_sem]
  ·refine aF λa wq c=>?_;obtain⟨x_,e_,h_⟩:=(c.got 12 185 ah ah rfl:jd _ _ _ _ _ _)
   refine⟨(ay rfl),.string gs,?_,rfl⟩;generalize a.eval=ρ at e_|-;simp[execOp,e_,go_sem]
  refine aF λa wq c=>⟨(ay rfl),_,run_assign _ rfl wq,(c.new 13 198)⟩
  refine aF λa wq c=>⟨(ay rfl),_,run_assign _ rfl wq,(c.new 14 199)⟩
  refine aF λa wq c=>⟨(ay rfl),_,run_assign _ rfl wq,(c.new 15 200)⟩
 intro sq w8 nU hold hnew;have xx:jF ww.heap.size gc (sq 21) w8:=hnew 16 21;have f5:sq 5=.pointer ↑gm:=hold 5;have f7:sq 7=.slice ↑(ab,ao) na IQ:=hold 7;have f22:sq 22=↑gy:=hnew 17 22;have f23:sq 23=.string gs:=hnew 18 23;change Exit.then _ _ .normal ⟨_,_⟩ _;simp only[List.range,List.range.loop,List.map];simp only[f5,f7,f22,f23];clear hold hnew;obtain⟨gA,gcp,DF,Xb⟩:=xx.form;obtain⟨gn,hgn⟩:∃gn,gn=gc.length:=⟨_,rfl⟩
 rw[<-hgn]at DF Xb;rw[DF];have HCG:=zq Xb;have EG:=zq (EW.out.trans nU);have E88:=zq nU;obtain⟨WZ,X5⟩:=eu (DD.out.ev nU);have MM:=zq (λwz (hE:Ev w8 wz)=>pz ⟨#[122,122]⟩ wz ((DD.out.ev nU).ev hE));clear DF xx Xb nU xa0 Ie BMW
 cases hfz:(fM (x::la) ⟨#[122,122]⟩).isSome
 ·rw[hfz]at MM;rcases HGC.out hfz with h|h;obtain⟨rfl,h2⟩:=Prod.mk.inj h;obtain⟨rfl,rfl⟩:=Prod.mk.inj h2;clear h h2 hfz hgn;exact ay';obtain⟨rfl,h2⟩:=Prod.mk.inj h;obtain⟨rfl,rfl⟩:=Prod.mk.inj h2;have Xc:gn=2:=hgn;subst Xc;clear h h2 hfz hgn
  go_wp2_with (first
   | ((with_reducible refine(MM.out _ aJ).mono ?_);rintro r w9 ⟨rfl,oI⟩;have E89:=zq oI;have E9:=zq (EG.out.trans oI);clear WZ X5;obtain⟨WZ,X5⟩:=eu (((oW.out.ev (EWW.out)).ev E88.out).ev oI);have kZ:=zq (uS (w9.alloc (.cells #[.string x.1,.int .i64 x.2,.string ⟨#[122,122]⟩,.int .i64 1] 50)) ((HCG.out.ev oI).ev az) (Jg x w9));clear oI)
   | ((with_reducible refine(kZ.out).mono ?_);rintro r w10 ⟨rfl,rF⟩;have E10:=zq ((E9.out.trans az).trans rF);clear rF)
   | ((with_reducible refine(U2.out _ E10.out).mono ?_);rintro r w11 ⟨rfl,Xd⟩))
  go_ret;exact⟨rfl,E10.out.trans Xd⟩
 rw[hfz]at MM;clear hfz hgn;exact ay'):U:=h
theorem ax2(h:U:=by
 clear hk;obtain⟨xa0,Ie⟩:=eu oW.out;obtain⟨yb0,yb1⟩:=eu pV.out;go_upto_region 21 with fail
 go_quiet (fail)
 generalize XO:World.drewN _ _=wk;have W9:Ev wo wk:=XO▸Ev.drewN _ _;have HEK:=zq W9;clear XO xa0 Ie yb0 yb1;obtain⟨xa0,Ie⟩:=eu (oW.out.ev W9);clear W9;obtain⟨ww,rfl⟩:∃ww:ak,ww=wk:=⟨_,rfl⟩
 have Aq:Ev wo ww:=HEK.out;clear xa0 Ie;have EW:=zq (EO.out.trans Aq);have EWW:=zq Aq;have E5W:=zq (E5O.out.trans Aq);have BMW:=BMO.out.ev Aq;have W_:=zq (aex.out.ev Aq);have DD:=zq (oW.out.ev Aq);have Xa:ab<ww.heap.size:=awz hab Aq.size;obtain⟨xa0,Ie⟩:=eu DD.out;clear Aq;go_upto_region 32 with fail
 exact ax3):U:=h
theorem ax1(h:U:=by
 have hb1:(x.2==y.2)=true:=by simp[hk]
 have hb2:(x.2 !=y.2)=false:=by simp[hk]
 exact ax2):U:=h
theorem UB(s0 t0:ByteArray)(w:ak)(akp:Tab w)(u0:s0.size<=maxLen)(v0:t0.size<=maxLen):
  Calls ax 5 #[.string s0,.string t0] w λe w'=>e=.returned (.bool true)/\Ev w w':=by
 have fD:Tryz.prog.follows .mixedOrders=true:=ah;unfold maxLen at u0 v0;have acm:=zq akp;clear akp;go_enter func5,ntmps5
 go_upto_if 28 with fail
 go_cut [0] (λv wx=>∃s1:ByteArray,v=.string s1/\s1.size<=150/\w=wx)
 case first=>
  by_cases hs:(150:Int)<(s0.size:Int)
  ·have hz:(s0.extract 0 150).size=150:=by
    have h1:(s0.extract 0 150).data.toList.length=(s0.extract 0 150).size:=by rw[awK];rfl
    have h2:s0.data.toList.length=s0.size:=by rw[awK];rfl
    rw[<-h1,Lib.extract_eq,axh,awT,h2];omega
   have HZ:=zq hz;have i1:(150:Int)<=(s0.size:Int):=ae;clear hz
   go_wp2_with fail
   go_meet
   exact⟨s0.extract 0 150,rfl,by rw[HZ.out];exact awj _,rfl⟩
  go_wp2_with fail
  go_meet
  exact⟨s0,rfl,ae,rfl⟩
 case rest=>
 obtain⟨s1,rfl,hs1,rfl⟩:=hcut
 go_upto_if 33 with fail
 go_cut [1] (λv wx=>∃s1:ByteArray,v=.string s1/\s1.size<=150/\w=wx)
 case first=>
  by_cases hs:(150:Int)<(t0.size:Int)
  ·have hz:(t0.extract 0 150).size=150:=by
    have h1:(t0.extract 0 150).data.toList.length=(t0.extract 0 150).size:=by rw[awK];rfl
    have h2:t0.data.toList.length=t0.size:=by rw[awK];rfl
    rw[<-h1,Lib.extract_eq,axh,awT,h2];omega
   have HZ:=zq hz;have i1:(150:Int)<=(t0.size:Int):=ae;clear hz
   go_wp2_with fail
   go_meet
   exact⟨t0.extract 0 150,rfl,by rw[HZ.out];exact awj _,rfl⟩
  go_wp2_with fail
  go_meet
  exact⟨t0,rfl,ae,rfl⟩
 case rest=>
 obtain⟨t1,rfl,ht1,rfl⟩:=hcut;clear u0 v0;obtain⟨L,rfl⟩:∃L:By,s1=⟨L.toArray⟩:=⟨s1.data.toList,aj⟩
 obtain⟨O,rfl⟩:∃O:By,t1=⟨O.toArray⟩:=⟨t1.data.toList,aj⟩
 have hL7:L.length<=150:=by simpa[ByteArray.size] using hs1
 have hO7:O.length<=150:=by simpa[ByteArray.size] using ht1
 have akq:=zq (λw1=>QW L w1 ae);have akr:=zq (λw1=>QW O w1 ae);have U2:=zq (λw1 (hE:Ev w w1)=>aek w1 (acm.out.ev hE));have HO0:=zq (λ(m:PM) (hm:m.p=(dF L).1) (v:au) w1 (hE:Ev w w1) (h:Qx 0 [] w1 m) (hv:yx v w1)=>Je L m v w1 (acm.out.ev hE) h hm hv);have aes:=zq (λ(m:PM) (hm:m.p=(dF O).1) (v:au) w1 (hE:Ev w w1) (h:Qx 0 [] w1 m) (hv:yx v w1)=>Je O m v w1 (acm.out.ev hE) h hm hv);have ahi:=zq (MG L);have ahj:=zq (MG O);have ahk:=zq (UA L);have ahl:=zq (UA O);unfold O5 at akq akr;unfold xE at HO0 aes;generalize Ap L=R1 at*;generalize Ap O=R2 at*;generalize (dF L).1=P at*;generalize (dF O).1=Q at*;obtain⟨ra,ya,sa⟩:=R1;obtain⟨rb,yb,sb⟩:=R2;simp only at HO0 aes ahi ahj ahk ahl;go_upto_region 6 with (first
  | ((with_reducible refine(akq.out _).mono ?_);rintro r w1 ⟨m,rfl,hmp,hmq,aK⟩;have HMP:=zq hmp;have HMQ:=zq hmq;have E1:=zq aK;clear hmp hmq aK)
  | ((with_reducible refine(akr.out _).mono ?_);rintro r w2 ⟨u,rfl,hup,huq,bQ⟩;obtain⟨w3,hw3,iI,hBm,hBu⟩:=aer w2 m u;have E3:=zq ((E1.out.trans bQ).trans iI);have HUP:=zq hup;have HUQ:=zq (huq.ev iI);have ahm:=zq (HMQ.out.ev (bQ.trans iI));have BM:=hBm;have BU:=hBu;clear hup huq bQ iI hBm hBu))
 generalize w2.heap.size=gm at*;clear hw3;have HO1:Hid (∀(v:au) w4,Ev w3 w4->yx v w4->Calls ax 7 #[.agg ↑m,v] w4 λe w'=>∃x,e=.returned (.tuple #[x,↑ya,.string sa])/\Ow 50 2 dZ w4.heap.size w' x ra/\Ev w4 w'):=zq λv w4 hE hv=>HO0.out m HMP.out v w4 (E3.out.trans hE) (ahm.out.ev hE) hv;have HO2:Hid (∀(v:au) w4,Ev w3 w4->yx v w4->Calls ax 7 #[.agg ↑u,v] w4 λe w'=>∃x,e=.returned (.tuple #[x,↑yb,.string sb])/\Ow 50 2 dZ w4.heap.size w' x rb/\Ev w4 w'):=zq λv w4 hE hv=>aes.out u HUP.out v w4 (E3.out.trans hE) (HUQ.out.ev hE) hv;clear HO0 aes;refine dD fD [λv _=>v=pv m,yx,jd w3.heap.size ra ya sa,jd w3.heap.size ra ya sa,jF w3.heap.size ra,λv _=>v=↑ya,λv _=>v=.string sa,jF w3.heap.size ra,λv _=>v=↑ya,λv _=>v=.string sa]
  227 rfl ah ⟨aB _,yx.mono,jd.mono _ _ _ _,jd.mono _ _ _ _,jF.mono _ _,aB _,aB _,jF.mono _ _,aB _,aB _,trivial⟩ ?_ ?_
 ·refine aC 0 ?_ (aC 1 ?_ (aC 2 ?_ (aC 3 ?_ (aC 4 ?_ (aC 5 ?_ (aC 6 ?_ (aC 7 ?_ (aC 8 ?_ (aC 9 ?_ (kM 10))))))))));exact azY;exact aAN;refine gu λa wq c=>?_;have ZG:=(c.got 1 42 ah ah rfl:yx _ _)
  refine⟨(ay rfl),7,#[pv m,a.eval (.tmp 42)],?_,?_⟩;rw[bC 7 _ _ rfl ah];have bD:a.eval (.tmp 41)=pv m:=(c.new 0 41)
  simp[bD];refine(HO1.out _ wq c.ev ZG).mono ?_;exact aA2;refine aF λa wq c=>⟨(ay rfl),_,run_move _ rfl wq,(c.new 2 43)⟩
  refine aF λa wq c=>?_;obtain⟨x_,e_,h_⟩:=(c.got 3 40 ah ah rfl:jd _ _ _ _ _ _)
  exact aAY
  ·refine aF λa wq c=>?_;obtain⟨x_,e_,h_⟩:=(c.got 3 40 ah ah rfl:jd _ _ _ _ _ _)
   refine⟨(ay rfl),↑ya,?_,rfl⟩;generalize a.eval=ρ at e_|-;simp[execOp,e_,go_sem]
  ·refine aF λa wq c=>?_;obtain⟨x_,e_,h_⟩:=(c.got 3 40 ah ah rfl:jd _ _ _ _ _ _)
   refine⟨(ay rfl),.string sa,?_,rfl⟩;generalize a.eval=ρ at e_|-;simp[execOp,e_,go_sem]
  refine aF λa wq c=>⟨(ay rfl),_,run_assign _ rfl wq,(c.new 4 44)⟩
  refine aF λa wq c=>⟨(ay rfl),_,run_assign _ rfl wq,(c.new 5 45)⟩
  refine aF λa wq c=>⟨(ay rfl),_,run_assign _ rfl wq,(c.new 6 46)⟩
 intro sl w4 nU hold hnew;have zW:jF w3.heap.size ra (sl 7) w4:=hnew 7 7;have f5:sl 5=.pointer ↑gm:=hold 5;have f6:sl 6=.pointer (some ⟨gm+1,0,none⟩):=hold 6;have f8:sl 8=↑ya:=hnew 8 8;have f9:sl 9=.string sa:=hnew 9 9;have f41:sl 41=pv m:=hnew 0 41;have f45:sl 45=↑ya:=hnew 5 45;have f46:sl 46=.string sa:=hnew 6 46;change Exit.then _ _ .normal ⟨_,_⟩ _;simp only[List.range,List.range.loop,List.map];simp only[f5,f6,f8,f9,f41,f45,f46];clear hold hnew;generalize sl 42=a42,sl 43=a43,sl 40=a40,sl 44=a44;obtain⟨cA,IQ,hs7,hCa⟩:=zW.form;rw[hs7];have E4:=zq (E3.out.trans nU);have BM:=BM.ev nU;have BU:=BU.ev nU;have aks:=zq (ahm.out.ev nU);have akt:=zq (HUQ.out.ev nU);have HO2:=zq (λ(v:au) wz (hE:Ev w4 wz) (hv:yx v wz)=>HO2.out v wz (nU.trans hE) hv);have oW:=zq hCa;clear hs7 zW hCa nU HO1;go_upto_region 7 with fail
 refine dD fD [λv _=>v=pv u,yx,jd w4.heap.size rb yb sb,jd w4.heap.size rb yb sb,jF w4.heap.size rb,λv _=>v=↑yb,λv _=>v=.string sb,jF w4.heap.size rb,λv _=>v=↑yb,λv _=>v=.string sb]
  227 rfl ah ⟨aB _,yx.mono,jd.mono _ _ _ _,jd.mono _ _ _ _,jF.mono _ _,aB _,aB _,jF.mono _ _,aB _,aB _,trivial⟩ ?_ ?_
 ·refine aC 0 ?_ (aC 1 ?_ (aC 2 ?_ (aC 3 ?_ (aC 4 ?_ (aC 5 ?_ (aC 6 ?_ (aC 7 ?_ (aC 8 ?_ (aC 9 ?_ (kM 10))))))))));exact azN;exact aAN;refine gu λa wq c=>?_;have ZG:=(c.got 1 49 ah ah rfl:yx _ _)
  refine⟨(ay rfl),7,#[pv u,a.eval (.tmp 49)],?_,?_⟩;rw[bC 7 _ _ rfl ah];have bD:a.eval (.tmp 48)=pv u:=(c.new 0 48)
  simp[bD];refine(HO2.out _ wq c.ev ZG).mono ?_;exact aA2;refine aF λa wq c=>⟨(ay rfl),_,run_move _ rfl wq,(c.new 2 50)⟩
  refine aF λa wq c=>?_;obtain⟨x_,e_,h_⟩:=(c.got 3 47 ah ah rfl:jd _ _ _ _ _ _)
  exact aAY
  ·refine aF λa wq c=>?_;obtain⟨x_,e_,h_⟩:=(c.got 3 47 ah ah rfl:jd _ _ _ _ _ _)
   refine⟨(ay rfl),↑yb,?_,rfl⟩;generalize a.eval=ρ at e_|-;simp[execOp,e_,go_sem]
  ·refine aF λa wq c=>?_;obtain⟨x_,e_,h_⟩:=(c.got 3 47 ah ah rfl:jd _ _ _ _ _ _)
   refine⟨(ay rfl),.string sb,?_,rfl⟩;generalize a.eval=ρ at e_|-;simp[execOp,e_,go_sem]
  refine aF λa wq c=>⟨(ay rfl),_,run_assign _ rfl wq,(c.new 4 51)⟩
  refine aF λa wq c=>⟨(ay rfl),_,run_assign _ rfl wq,(c.new 5 52)⟩
  refine aF λa wq c=>⟨(ay rfl),_,run_assign _ rfl wq,(c.new 6 53)⟩
 intro sm w5 nU hold hnew;have afv:jF w4.heap.size rb (sm 10) w5:=hnew 7 10;have f5:sm 5=.pointer ↑gm:=hold 5;have f6:sm 6=.pointer (some ⟨gm+1,0,none⟩):=hold 6;have f7:sm 7=.slice cA ra.length IQ:=hold 7;have f8:sm 8=↑ya:=hold 8;have f9:sm 9=.string sa:=hold 9;have f11:sm 11=↑yb:=hnew 8 11;have f12:sm 12=.string sb:=hnew 9 12;have f48:sm 48=pv u:=hnew 0 48;have f52:sm 52=↑yb:=hnew 5 52;have f53:sm 53=.string sb:=hnew 6 53;change Exit.then _ _ .normal ⟨_,_⟩ _;simp only[List.range,List.range.loop,List.map];simp only[f5,f6,f7,f8,f9,f11,f12,f48,f52,f53];clear hold hnew;generalize sm 49=a49,sm 50=a50,sm 47=a47,sm 51=a51;obtain⟨dA,Ob,hs10,hCb⟩:=afv.form;rw[hs10];have E5:=zq (E4.out.trans nU);have BM:=BM.ev nU;have BU:=BU.ev nU;have ahn:=zq (aks.out.ev nU);have aku:=zq (akt.out.ev nU);have oW:=zq (oW.out.ev nU);have pV:=zq hCb;clear hs10 afv hCb nU HO2 ahm HUQ HMQ aks akt;rcases ahi.out with⟨hy,hc0⟩|⟨hy,hWa,zu,hca,H6⟩
 subst hc0;have hyb:(ya !=0)=true:=axr.2 hy;exact az0;subst hy;rcases ahj.out with⟨hy,hc0⟩|⟨hy,hWb,MN,hcb,hvb⟩
 subst hc0;have hyb:(yb !=0)=true:=axr.2 hy;exact az0;subst hy;obtain⟨⟨hla,akv⟩,hga⟩:=ahk.out rfl;obtain⟨⟨hlb,akw⟩,hgb⟩:=ahl.out rfl;obtain⟨x,la,rfl⟩:∃x la,ra=x::la:=by
  match ra,hla with
  | x::la,_=>exact⟨x,la,rfl⟩
 obtain⟨y,lb,rfl⟩:∃y lb,rb=y::lb:=by
  match rb,hlb with
  | y::lb,_=>exact⟨y,lb,rfl⟩
 obtain⟨ab,ao,rfl,xa0,Ie⟩:=Cs.zM oW.out (i:=0) (c:=x) rfl;obtain⟨bb,bo,rfl,WZ,X5⟩:=Cs.zM pV.out (i:=0) (c:=y) rfl;have akx:=zq akv;have aky:=zq akw;have HWA:=zq hWa;have HWB:=zq hWb;have ahp:=zq zu;have akz:=zq MN;have HPC:=zq hca.symm;have HQC:=zq hcb.symm;have HGA:=zq hga;have HGB:=zq hgb;have hab:ab<w5.heap.size:=by obtain⟨b,o,e,h,_⟩:=oW.out.rd aj;injection e with e;injection e with e1 e2 _;subst e1;exact h
 have OE:bb<w5.heap.size:=by obtain⟨b,o,e,h,_⟩:=pV.out.rd aj;injection e with e;injection e with e1 e2 _;subst e1;exact h
 have hac:=oW.out.le;have ham:=oW.out.max;have hbc:=pV.out.le;have hbm:=pV.out.max;simp only[awW,awM]at xa0 Ie WZ X5;obtain⟨na,E_⟩:∃na,na=(x::la).length:=⟨_,rfl⟩
 obtain⟨nb,hnb⟩:∃nb,nb=(y::lb).length:=⟨_,rfl⟩
 have Cb:=zq E_;have HNB:=zq hnb;rw[<-E_]at hac oW|-;rw[<-hnb]at hbc pV|-;have auW:1<=na:=by rw[E_];simp
 have auX:1<=nb:=by rw[hnb];simp
 clear hWa hWb zu MN hca hcb H6 hvb hga hgb hla hlb akv akw ahi ahj ahk ahl E_ hnb;by_cases h5:5<na;have i5:(5:Int)<(na:Int):=ae;have i1:¬(na:Int)=0:=ae;have i2:¬(nb:Int)=0:=ae;exact az9;have i5:¬(5:Int)<(na:Int):=ae;have i1:¬(na:Int)=0:=ae;have i2:¬(nb:Int)=0:=ae;have k1:((na:Int)==0)=false:=awg.2 i1;have k2:((nb:Int)==0)=false:=awg.2 i2;have k3:(na==0)=false:=awg.2 ae;have k4:(nb==0)=false:=awg.2 ae;have k5:decide ((5:Int)<(na:Int))=false:=awY i5;have k6:decide (5<na)=false:=awY h5;have IV:=Uz HGA.out (awp ..);have hxb:=Uz HGB.out (awp ..);have HJG:=zq (WV IV hxb HWA.out.wr.good HWB.out.wr.good);have HJC:=zq (akn (p:=P) (q:=Q) ahp.out akz.out HPC.out HQC.out HGB.out);have HJS:Hid ((aH (vZ x.1.data.toList y.1.data.toList P Q)).size<=10000):=zq (by have:=WX x.1.data.toList y.1.data.toList P Q;have:=HWA.out.wr.size;have:=HWB.out.wr.size;omega);have HJL:Hid ((printS (aH (vZ x.1.data.toList y.1.data.toList P Q))).length<=100000):=zq (by have:=ZC IV hxb P Q;have:=HWA.out.abz;have:=HWB.out.abz;omega);have HJ:=zq (λ(z:PM) (hz:z.p=vZ x.1.data.toList y.1.data.toList P Q) (v:au) w6 (hE:Ev w5 w6) (hq:Qx 0 [] w6 z) (hv:yx v w6)=>(by
  have:=WH z 0 v w6 (acm.out.ev (E5.out.trans hE)) hq (by rw[hz];exact HJG.out) (by rw[hz];exact HJS.out) (by rw[hz];exact HJL.out) hv;rw[hz]at this;exact this:Calls ax 7 #[pv z,v] w6 (xE (Aj (vZ x.1.data.toList y.1.data.toList P Q)) w6)))
 have HGG:=zq (WW IV HWA.out.wr.good);have HGS:Hid ((aH (qi x.1.data.toList P)).size<=10000):=zq (by have:=WY x.1.data.toList P;have:=HWA.out.wr.size;omega);have HGL:Hid ((printS (aH (qi x.1.data.toList P))).length<=100000):=zq (by have:=ZE IV P;have:=HWA.out.abz;omega);have HG:=zq (λ(z:PM) (hz:z.p=qi x.1.data.toList P) (v:au) w6 (hE:Ev w5 w6) (hq:Qx 0 [] w6 z) (hv:yx v w6)=>(by
  have:=WH z 0 v w6 (acm.out.ev (E5.out.trans hE)) hq (by rw[hz];exact HGG.out) (by rw[hz];exact HGS.out) (by rw[hz];exact HGL.out) hv;rw[hz]at this;exact this:Calls ax 7 #[pv z,v] w6 (xE (Aj (qi x.1.data.toList P)) w6)))
 have HGC:=zq (λhf=>ako (p:=P) ahp.out HPC.out hf);have HNE:Hid (∀c∈lb,c.1≠⟨#[]⟩):=zq λc hc=>X3 (HGB.out.each c (awn _ hc)).1;unfold xE at HJ HG;generalize Aj (vZ x.1.data.toList y.1.data.toList P Q)=RJ at*;generalize Aj (qi x.1.data.toList P)=RG at*;obtain⟨jc,jy,js⟩:=RJ;obtain⟨gc,gy,gs⟩:=RG;simp only at HJ HG;clear IV hxb HJG HJS HJL HGG HGS HGL HWA HWB ahp akz HPC HQC;have ja:(0:Int)<(na:Int):=ae;have jb:(0:Int)<(nb:Int):=ae;have ja0:¬na=0:=ae;have jb0:¬nb=0:=ae;go_upto_region 10 with fail
 refine dD fD [λv _=>v=.slice ↑(ab,ao) na IQ,λv _=>v=.pointer ↑(ab,ao),λv _=>v=.pointer ↑(ab,ao),λv _=>v=.string x.1,qG x.1.data.toList,λv _=>v=.slice ↑(bb,bo) nb Ob,λv _=>v=.pointer ↑(bb,bo),λv _=>v=.pointer ↑(bb,bo),λv _=>v=.string y.1,qG y.1.data.toList,λv _=>v=pv m,λv _=>v=pv u,sW [m,u],sZ (vZ x.1.data.toList y.1.data.toList P Q),yx,jd w5.heap.size jc jy js,jd w5.heap.size jc jy js,jF w5.heap.size jc,λv _=>v=↑jy,λv _=>v=.string js,jF w5.heap.size jc,λv _=>v=↑jy,λv _=>v=.string js]
  227 rfl ah ⟨aB _,aB _,aB _,aB _,qG.mono _,aB _,aB _,aB _,aB _,qG.mono _,aB _,aB _,sW.mono _,sZ.mono _,yx.mono,jd.mono _ _ _ _,jd.mono _ _ _ _,jF.mono _ _,aB _,aB _,jF.mono _ _,aB _,aB _,trivial⟩ ?_ ?_
 ·refine aC 0 ?_ (aC 1 ?_ (aC 2 ?_ (aC 3 ?_ (aC 4 ?_ (aC 5 ?_ (aC 6 ?_ (aC 7 ?_ (aC 8 ?_ (aC 9 ?_ (aC 10 ?_ (aC 11 ?_ (aC 12 ?_ (aC 13 ?_ (aC 14 ?_ (aC 15 ?_ (aC 16 ?_ (aC 17 ?_ (aC 18 ?_ (aC 19 ?_ (aC 20 ?_ (aC 21 ?_ (aC 22 ?_ (kM 23)))))))))))))))))))))));refine aF λa wq c=>⟨(ay rfl),_,run_move _ rfl wq,(c.was 7 rfl)⟩
  ·refine aF λa wq c=>⟨(ay rfl),.pointer ↑(ab,ao),?_,rfl⟩
   have e77:a.eval (.tmp 77)=.slice ↑(ab,ao) na IQ:=(c.new 0 77)
   have lh:a.eval (.const (.int .i64 0))=.int .i64 0:=rfl;generalize a.eval=ρ at e77 lh|-;simp[execOp,e77,lh,go_sem,ja0]
  ·refine aF λa wq c=>⟨(ay rfl),.pointer ↑(ab,ao),?_,rfl⟩
   have e78:a.eval (.tmp 78)=.pointer ↑(ab,ao):=(c.new 1 78)
   generalize a.eval=ρ at e78|-;simp[execOp,e78,go_sem]
  ·refine aF λa wq c=>⟨(ay rfl),.string x.1,?_,rfl⟩
   have e79:a.eval (.tmp 79)=.pointer ↑(ab,ao):=(c.new 2 79)
   have hc:=(c.ev.cell (p:=⟨_,_,none⟩) hab).trans xa0;generalize a.eval=ρ at e79|-;simp[execOp,e79,hc,go_sem]
  refine je λa wq c=>?_;have bD:a.eval (.tmp 80)=.string x.1:=(c.new 3 80)
  exact azH;refine aF λa wq c=>⟨(ay rfl),_,run_move _ rfl wq,(c.was 10 rfl)⟩
  ·refine aF λa wq c=>⟨(ay rfl),.pointer ↑(bb,bo),?_,rfl⟩
   have e82:a.eval (.tmp 82)=.slice ↑(bb,bo) nb Ob:=(c.new 5 82)
   have lh:a.eval (.const (.int .i64 0))=.int .i64 0:=rfl;generalize a.eval=ρ at e82 lh|-;simp[execOp,e82,lh,go_sem,jb0]
  ·refine aF λa wq c=>⟨(ay rfl),.pointer ↑(bb,bo),?_,rfl⟩
   have e83:a.eval (.tmp 83)=.pointer ↑(bb,bo):=(c.new 6 83)
   generalize a.eval=ρ at e83|-;simp[execOp,e83,go_sem]
  ·refine aF λa wq c=>⟨(ay rfl),.string y.1,?_,rfl⟩
   have e84:a.eval (.tmp 84)=.pointer ↑(bb,bo):=(c.new 7 84)
   have hc:=(c.ev.cell (p:=⟨_,_,none⟩) OE).trans WZ;generalize a.eval=ρ at e84|-;simp[execOp,e84,hc,go_sem]
  ·refine je λa wq c=>?_;have bD:a.eval (.tmp 85)=.string y.1:=(c.new 8 85)
   refine⟨(ay rfl),.slice ↑wq.heap.size 1 1,wq.alloc (.cells #[.string y.1] 9),?_,Ev.alloc _ _,qG.new y.1 wq⟩;generalize a.eval=ρ at bD|-;simp[execOp,bD,go_sem]
  exact azY;exact azN
  ·refine je λa wq c=>?_;have bD:a.eval (.tmp 87)=.agg ↑m:=(c.new 10 87)
   have mQ:a.eval (.tmp 88)=.agg ↑u:=(c.new 11 88)
   refine⟨(ay rfl),.slice ↑wq.heap.size 2 2,wq.alloc (.cells ↑(m,u) 32),?_,Ev.alloc _ _,sW.aoF m u wq⟩;generalize a.eval=ρ at bD mQ|-;simp[execOp,bD,mQ,go_sem]
  ·refine aF λa wq c=>?_;obtain⟨zi,Rh,U0,l0_⟩:=(c.got 4 81 ah ah rfl:qG x.1.data.toList _ _)
   obtain⟨zk,UU,WJ,l1_⟩:=(c.got 9 86 ah ah rfl:qG y.1.data.toList _ _)
   obtain⟨xJ,Hy,U1,l2_⟩:=(c.got 12 89 ah ah rfl:sW [m,u] _ _)
   have lh:a.eval (.const (.int .i64 4))=.int .i64 4:=rfl;have Hy:a.eval (.tmp 89)=.slice ↑xJ 2 2:=Hy;refine⟨(ay rfl),.agg #[.int .i64 4,.string ⟨#[]⟩,↑(),↑(),.slice ↑zi 1 1,.slice ↑zk 1 1,↑(),.slice ↑xJ 2 2],?_,jM zi zk xJ x.1.data.toList y.1.data.toList m u,rfl,(by rw[aoE,HMP.out,HUP.out]),aen U0 WJ U1 l0_ l1_ l2_ (ahn.out.ev c.ev) (aku.out.ev c.ev)⟩;generalize a.eval=ρ at lh Rh UU Hy|-;simp[execOp,lh,Rh,UU,Hy,go_sem]
  exact aAN;refine gu λa wq c=>?_;have ZG:=(c.got 14 91 ah ah rfl:yx _ _)
  obtain⟨z_,ez_,TA,NT⟩:=(c.got 13 90 ah ah rfl:sZ _ _ _)
  refine⟨(ay rfl),7,#[pv z_,a.eval (.tmp 91)],?_,?_⟩;rw[bC 7 _ _ rfl ah];simp[ez_];refine(HJ.out z_ TA _ wq c.ev NT ZG).mono ?_;exact aA2;refine aF λa wq c=>⟨(ay rfl),_,run_move _ rfl wq,(c.new 15 92)⟩
  refine aF λa wq c=>?_;obtain⟨x_,e_,h_⟩:=(c.got 16 76 ah ah rfl:jd _ _ _ _ _ _)
  exact aAY
  ·refine aF λa wq c=>?_;obtain⟨x_,e_,h_⟩:=(c.got 16 76 ah ah rfl:jd _ _ _ _ _ _)
   refine⟨(ay rfl),↑jy,?_,rfl⟩;generalize a.eval=ρ at e_|-;simp[execOp,e_,go_sem]
  ·refine aF λa wq c=>?_;obtain⟨x_,e_,h_⟩:=(c.got 16 76 ah ah rfl:jd _ _ _ _ _ _)
   refine⟨(ay rfl),.string js,?_,rfl⟩;generalize a.eval=ρ at e_|-;simp[execOp,e_,go_sem]
  refine aF λa wq c=>⟨(ay rfl),_,run_assign _ rfl wq,(c.new 17 93)⟩
  refine aF λa wq c=>⟨(ay rfl),_,run_assign _ rfl wq,(c.new 18 94)⟩
  refine aF λa wq c=>⟨(ay rfl),_,run_assign _ rfl wq,(c.new 19 95)⟩
 intro sn w6 nU hold hnew;have xx:jF w5.heap.size jc (sn 13) w6:=hnew 20 13;have f5:sn 5=.pointer ↑gm:=hold 5;have f6:sn 6=.pointer (some ⟨gm+1,0,none⟩):=hold 6;have f7:sn 7=.slice ↑(ab,ao) na IQ:=hold 7;have f10:sn 10=.slice ↑(bb,bo) nb Ob:=hold 10;have f14:sn 14=↑jy:=hnew 21 14;have f15:sn 15=.string js:=hnew 22 15;have f77:sn 77=.slice ↑(ab,ao) na IQ:=hnew 0 77;have f78:sn 78=.pointer ↑(ab,ao):=hnew 1 78;have f79:sn 79=.pointer ↑(ab,ao):=hnew 2 79;have f80:sn 80=.string x.1:=hnew 3 80;have f82:sn 82=.slice ↑(bb,bo) nb Ob:=hnew 5 82;have f83:sn 83=.pointer ↑(bb,bo):=hnew 6 83;have f84:sn 84=.pointer ↑(bb,bo):=hnew 7 84;have f85:sn 85=.string y.1:=hnew 8 85;have f87:sn 87=pv m:=hnew 10 87;have f88:sn 88=pv u:=hnew 11 88;have f94:sn 94=↑jy:=hnew 18 94;have f95:sn 95=.string js:=hnew 19 95;change Exit.then _ _ .normal ⟨_,_⟩ _;simp only[List.range,List.range.loop,List.map];simp only[f5,f6,f7,f10,f14,f15,f77,f78,f79,f80,f82,f83,f84,f85,f87,f88,f94,f95];clear hold hnew xa0 Ie WZ X5;obtain⟨jA,jcp,ahq,hCj⟩:=xx.form;obtain⟨jn,hjn⟩:∃jn,jn=jc.length:=⟨_,rfl⟩
 rw[<-hjn]at ahq hCj;have HJN:=zq hjn;rw[ahq];have E6:=zq (E5.out.trans nU);have E56:=zq nU;have BM:=BM.ev nU;have akB:=zq (ahn.out.ev nU);have oW:=zq (oW.out.ev nU);have pV:=zq (pV.out.ev nU);have HCJ:=zq hCj;have HCT:=zq (Cs.tail pV.out);have hab:ab<w6.heap.size:=awz hab nU.size;have OE:bb<w6.heap.size:=awz OE nU.size;have t_:Hid ((x::la).length+lb.length<=1000):=zq (by have h1:=akx.out;have h2:=aky.out;rw[awr]at h2;omega);clear ahq xx hCj nU HJ BU aku ahn hjn;go_upto_region 11 with fail
 refine kU fD (λu=>Ev w6 u) (λp _ _=>match p with|0=>True|_+1=>False) [5] (λ_ _=>True) [0,2] [[5,6]] 5 [iZ 50 w6.heap.size,λv _=>v=.slice ↑(ab,ao) na IQ,jF w6.heap.size (x::la),λv _=>v=.slice ↑(bb,bo) nb Ob,λv _=>v=.slice (EM ↑(bb,bo) Ob) (nb - 1) (Ob - 1),jF w6.heap.size (x::la++lb),jF w6.heap.size (x::la++lb)]
  227 1 rfl ah ⟨iZ.mono,aB _,jF.mono _ _,aB _,aB _,jF.mono _ _,jF.mono _ _,trivial⟩ ⟨Or.inl rfl,dC,Or.inl rfl,dC,dC,Or.inr λp=>match p with|0=>Or.inl rfl|_+1=>Or.inr λ_ _ _ hb h=>hb.elim,Or.inr λp=>match p with|0=>Or.inl rfl|_+1=>Or.inr λ_ _ _ hb h=>hb.elim,trivial⟩ ah rfl ah (λ_ _ _ _ _=>trivial) (λu u' hE h=>h.trans hE) aJ (trivial) ah (λ_ _ _=>True) [] ah (λ_ _ _ _ _ _ _ _ _ _=>trivial) (λ_ _=>trivial) ?_ ?_ ?_ ?_
 refine aN 0 ?_ (aN 1 ?_ (aN 2 ?_ (aN 3 ?_ (aN 4 ?_ (bZ 5 ai (aN 6 ?_ (oC 7)))))));refine rf λa wq c=>⟨(ay rfl),_,_,IM rfl wq,Ev.alloc _ _,c.inv.trans (Ev.alloc wq _),iZ.new c.inv.size⟩
 refine dP λa wq c=>⟨(ay rfl),_,run_move _ rfl wq,(c.was 7 rfl)⟩
 refine rf λa wq c=>?_;have U0:=(c.got 0 96 ah ah ah rfl:iZ _ _ _ _)
 have mQ:a.eval (.tmp 97)=.slice ↑(ab,ao) na IQ:=(c.new 1 97)
 obtain⟨v_,w_,YV,WJ,U1⟩:=GH (o:=⟨some 98,_,_,_,_,_⟩) rfl rfl U0 mQ (oW.out.ev c.inv) (by have:=t_.out;omega) c.inv.size;exact⟨(ay rfl),v_,w_,YV,U1,c.inv.trans U1,WJ⟩;refine dP λa wq c=>⟨(ay rfl),_,run_move _ rfl wq,(c.was 10 rfl)⟩
 refine dP λa wq c=>⟨(ay rfl),_,Oa rfl ((c.new 3 99):a.eval (.tmp 99)=.slice ↑(bb,bo) nb Ob) (Z4 a _) ae wq,rfl⟩
 refine dP λa wq c=>⟨(ay rfl),_,run_assign _ rfl wq,(c.new 5 101)⟩
 refine Em;refine gG 0 rfl ?_ (pU 1);refine uO λa wq c st hg=>?_;have U0:=(c.got 2 98 ah ah ah rfl:jF _ _ _ _)
 have mQ:a.eval (.tmp 100)=.slice (EM ↑(bb,bo) Ob) (nb - 1) (Ob - 1):=(c.new 4 100)
 obtain⟨v_,w_,YV,WJ,U1⟩:=IP (o:=⟨some 101,_,_,_,_,_⟩) rfl rfl U0 mQ (HCT.out.ev c.inv) t_.out c.inv.size;exact⟨ay rfl,v_,w_,YV,trivial,But.zZ c.inv U1 (λg hg=>(U0.lt (aG.1 hg)).1),trivial,WJ⟩;intro so w7 hI hold hnew hst;have afw:jF w6.heap.size (x::la++lb) (so 16) w7:=hnew 6 16;have f5:so 5=.pointer ↑gm:=hold 5;have f6:so 6=.pointer (some ⟨gm+1,0,none⟩):=hold 6;have f7:so 7=.slice ↑(ab,ao) na IQ:=hold 7;have f10:so 10=.slice ↑(bb,bo) nb Ob:=hold 10;have f13:so 13=.slice jA jn jcp:=hold 13;have f14:so 14=↑jy:=hold 14;have f15:so 15=.string js:=hold 15;have f97:so 97=.slice ↑(ab,ao) na IQ:=hnew 1 97;have f99:so 99=.slice ↑(bb,bo) nb Ob:=hnew 3 99;have f100:so 100=.slice (EM ↑(bb,bo) Ob) (nb - 1) (Ob - 1):=hnew 4 100;change Exit.then _ _ .normal ⟨_,_⟩ _;simp only[List.range,List.range.loop,List.map];simp only[f5,f6,f7,f10,f13,f14,f15,f97,f99,f100];clear hold hnew hst;obtain⟨wA,wcp,ahr,hCw⟩:=afw.form;obtain⟨nw,hnw⟩:∃nw,nw=(x::la++lb).length:=⟨_,rfl⟩
 have CU:nw+1=na+nb:=by have h1:=Cb.out;have h2:=HNB.out;rw[awl]at hnw;rw[awr]at h2;omega
 rw[<-hnw]at ahr hCw;rw[ahr];have hwc:=hCw.le;have HNW:=zq hnw;have au3:nb<=6:=by have h1:=aky.out;have h2:=HNB.out;omega
 have au4:na<=6:=by have h1:=akx.out;have h2:=Cb.out;omega
 have E57:=zq (E56.out.trans hI);have E7:=zq (E6.out.trans hI);have BM:=BM.ev hI;have aoN:=zq (akB.out.ev hI);have oW:=zq (oW.out.ev hI);have pV:=zq (pV.out.ev hI);have HCJ:=zq (HCJ.out.ev hI);have HCW:=zq hCw;have hab:ab<w7.heap.size:=awz hab hI.size;have OE:bb<w7.heap.size:=awz OE hI.size;have hlb:lb.length+1=nb:=by have h2:=HNB.out;rw[awr]at h2;omega
 have BMH:=zq BM;clear ahr afw hCw hI hnw HCT t_ akB E56 BM;go_wp2
 go_loopw [17,18] (λtv iv wr=>∃i:Nat,1<=i/\i<=nb/\iv=↑i/\tv=.string (tk (x::la) (lb.take (i - 1)))/\Hid (Ev w7 wr)) (λtv iv _=>nb - (intOf iv).toNat)
 case atStart=>exact⟨1,ae,ae,rfl,(by simp[tk]),zq aJ⟩
 case round=>
  obtain⟨i,hi1,hi2,rfl,rfl,HE⟩:=hrel;by_cases hlt:i<nb
  ·obtain⟨cc,hc⟩:∃cc,lb[i - 1]?=some cc:=⟨_,awE ae⟩
   have hcb:(y::lb)[i]?=some cc:=by
    obtain⟨q,rfl⟩:∃q,i=q+1:=⟨i - 1,ae⟩
    simpa using hc
   have hcl:=aeq (pV.out.ev HE.out) hcb;have HNX:=zq (aep (pre:=x::la) hi1 hc HNE.out);have HFD:=zq (λwz (hE:Ev wr wz)=>pz cc.1 wz ((HCW.out.ev (HE.out.trans hE)).to (na+i - 1) ae));rw[Cb.out,ack hi1,<-Cb.out]at HFD;have hbr:bb<wr.heap.size:=awz OE HE.out.size;generalize tk (x::la) (lb.take (i - 1))=TV at*;generalize hFF:fM (x::la++lb.take (i - 1)) cc.1=FC at*;generalize foundAt FC=FI at*;generalize FC.isSome=FB at*;clear hFF hc hcb;have i1:(0:Int)<=(i:Int):=ae;have i2:(i:Int)<(nb:Int):=ae;go_upto_region 16 with fail
   refine dD fD [λv _=>v=.slice wA nw wcp,λv _=>v=.slice ↑(ab,ao) na IQ,λv _=>v=↑na,λv _=>v=↑i,λv _=>v=.int .i64 ((na:Int)+(i:Int)),λv _=>v=.int .i64 ((na+i - 1:Nat):Int),λv _=>v=.slice wA (na+i - 1) wcp,λv _=>v=.slice ↑(bb,bo) nb Ob,λv _=>v=↑i,λv _=>v=.pointer ↑(bb,bo+i*2),λv _=>v=.pointer ↑(bb,bo+i*2),λv _=>v=.string cc.1,λv _=>v=.tuple #[↑FI,.bool FB],λv _=>v=.tuple #[↑FI,.bool FB],λv _=>v=↑FI,λv _=>v=.bool FB,λv _=>v=↑FI,λv _=>v=.bool FB]
    227 rfl ah ⟨aB _,aB _,aB _,aB _,aB _,aB _,aB _,aB _,aB _,aB _,aB _,aB _,aB _,aB _,aB _,aB _,aB _,aB _,trivial⟩ ?_ ?_
   ·refine aC 0 ?_ (aC 1 ?_ (aC 2 ?_ (aC 3 ?_ (aC 4 ?_ (aC 5 ?_ (aC 6 ?_ (aC 7 ?_ (aC 8 ?_ (aC 9 ?_ (aC 10 ?_ (aC 11 ?_ (aC 12 ?_ (aC 13 ?_ (aC 14 ?_ (aC 15 ?_ (aC 16 ?_ (aC 17 ?_ (kM 18))))))))))))))))));refine aF λa w c=>⟨(ay rfl),_,run_move _ rfl w,(c.was 16 rfl)⟩
    refine aF λa w c=>⟨(ay rfl),_,run_move _ rfl w,(c.was 7 rfl)⟩
    ·refine aF λa w c=>⟨(ay rfl),↑na,?_,rfl⟩
     have bD:a.eval (.tmp 110)=.slice ↑(ab,ao) na IQ:=(c.new 1 110)
     generalize a.eval=ρ at bD|-;simp[bD,go_sem]
    refine aF λa w c=>⟨(ay rfl),_,run_move _ rfl w,(c.was 18 rfl)⟩
    refine aF λa wq c=>⟨(ay rfl),_,QX rfl (c.new 2 111) (c.new 3 112) ae ae wq,rfl⟩
    refine aF λa wq c=>⟨(ay rfl),_,QY rfl (c.new 4 113) (Z4 a _) hi1 ae wq,rfl⟩
    refine aF λa wq c=>⟨(ay rfl),_,rZ (na+i - 1) rfl (c.new 0 109) (c.new 5 114) ae wq,rfl⟩
    refine aF λa w c=>⟨(ay rfl),_,run_move _ rfl w,(c.was 10 rfl)⟩
    refine aF λa w c=>⟨(ay rfl),_,run_move _ rfl w,(c.was 18 rfl)⟩
    ·refine aF λa w c=>⟨(ay rfl),.pointer ↑(bb,bo+i*2),?_,rfl⟩
     have e116:a.eval (.tmp 116)=.slice ↑(bb,bo) nb Ob:=(c.new 7 116)
     have e117:a.eval (.tmp 117)=↑i:=(c.new 8 117)
     generalize a.eval=ρ at e116 e117|-;simp[execOp,e116,e117,go_sem,i1,i2]
    ·refine aF λa w c=>⟨(ay rfl),.pointer ↑(bb,bo+i*2),?_,rfl⟩
     have e118:a.eval (.tmp 118)=.pointer ↑(bb,bo+i*2):=(c.new 9 118)
     generalize a.eval=ρ at e118|-;simp[execOp,e118,go_sem]
    ·refine aF λa w c=>⟨(ay rfl),.string cc.1,?_,rfl⟩
     have e119:a.eval (.tmp 119)=.pointer ↑(bb,bo+i*2):=(c.new 10 119)
     have hc:=(c.ev.cell (p:=⟨_,_,none⟩) hbr).trans hcl;generalize a.eval=ρ at e119|-;simp[execOp,e119,hc,go_sem]
    refine gu λa w c=>⟨(ay rfl),16,#[.slice wA (na+i - 1) wcp,.string cc.1],?_,?_⟩
    rw[bC 16 _ _ rfl ah];have e115:a.eval (.tmp 115)=.slice wA (na+i - 1) wcp:=(c.new 6 115)
    have e120:a.eval (.tmp 120)=.string cc.1:=(c.new 11 120)
    simp[e115,e120];refine(HFD.out w c.ev).mono ?_;rintro e w2 ⟨rfl,hE⟩;exact⟨_,rfl,hE,rfl⟩;refine aF λa w c=>⟨(ay rfl),_,run_move _ rfl w,(c.new 12 121)⟩
    refine aF λa w c=>⟨(ay rfl),↑FI,?_,rfl⟩
    exact aAc;refine aF λa w c=>⟨(ay rfl),.bool FB,?_,rfl⟩
    exact aAc;refine aF λa w c=>⟨(ay rfl),_,run_assign _ rfl w,(c.new 14 122)⟩
    refine aF λa w c=>⟨(ay rfl),_,run_assign _ rfl w,(c.new 15 123)⟩
   intro sp wv nU hold hnew;have f0:sp 0=so 0:=hold 0;have f1:sp 1=so 1:=hold 1;have f2:sp 2=so 2:=hold 2;have f3:sp 3=so 3:=hold 3;have f4:sp 4=so 4:=hold 4;have f5:sp 5=.pointer ↑gm:=hold 5;have f6:sp 6=.pointer (some ⟨gm+1,0,none⟩):=hold 6;have f7:sp 7=.slice ↑(ab,ao) na IQ:=hold 7;have f8:sp 8=so 8:=hold 8;have f9:sp 9=so 9:=hold 9;have f10:sp 10=.slice ↑(bb,bo) nb Ob:=hold 10;have f11:sp 11=so 11:=hold 11;have f12:sp 12=so 12:=hold 12;have f13:sp 13=.slice jA jn jcp:=hold 13;have f14:sp 14=↑jy:=hold 14;have f15:sp 15=.string js:=hold 15;have f16:sp 16=.slice wA nw wcp:=hold 16;have f17:sp 17=.string TV:=hold 17;have f18:sp 18=↑i:=hold 18;have f21:sp 21=so 21:=hold 21;have f22:sp 22=so 22:=hold 22;have f23:sp 23=so 23:=hold 23;have f24:sp 24=so 24:=hold 24;have f25:sp 25=so 25:=hold 25;have f26:sp 26=so 26:=hold 26;have f27:sp 27=so 27:=hold 27;have f28:sp 28=so 28:=hold 28;have f29:sp 29=so 29:=hold 29;have f30:sp 30=so 30:=hold 30;have f31:sp 31=so 31:=hold 31;have f32:sp 32=so 32:=hold 32;have f33:sp 33=so 33:=hold 33;have f34:sp 34=so 34:=hold 34;have f35:sp 35=so 35:=hold 35;have f36:sp 36=so 36:=hold 36;have f37:sp 37=so 37:=hold 37;have f38:sp 38=so 38:=hold 38;have f39:sp 39=so 39:=hold 39;have f40:sp 40=so 40:=hold 40;have f41:sp 41=so 41:=hold 41;have f42:sp 42=so 42:=hold 42;have f43:sp 43=so 43:=hold 43;have f44:sp 44=so 44:=hold 44;have f45:sp 45=so 45:=hold 45;have f46:sp 46=so 46:=hold 46;have f47:sp 47=so 47:=hold 47;have f48:sp 48=so 48:=hold 48;have f49:sp 49=so 49:=hold 49;have f50:sp 50=so 50:=hold 50;have f51:sp 51=so 51:=hold 51;have f52:sp 52=so 52:=hold 52;have f53:sp 53=so 53:=hold 53;have f54:sp 54=so 54:=hold 54;have f55:sp 55=so 55:=hold 55;have f56:sp 56=so 56:=hold 56;have f57:sp 57=so 57:=hold 57;have f58:sp 58=so 58:=hold 58;have f59:sp 59=so 59:=hold 59;have f60:sp 60=so 60:=hold 60;have f61:sp 61=so 61:=hold 61;have f62:sp 62=so 62:=hold 62;have f63:sp 63=so 63:=hold 63;have f64:sp 64=so 64:=hold 64;have f65:sp 65=so 65:=hold 65
   have f66:sp 66=so 66:=hold 66;have f67:sp 67=so 67:=hold 67;have f68:sp 68=so 68:=hold 68;have f69:sp 69=so 69:=hold 69;have f70:sp 70=so 70:=hold 70;have f71:sp 71=so 71:=hold 71;have f72:sp 72=so 72:=hold 72;have f73:sp 73=so 73:=hold 73;have f74:sp 74=so 74:=hold 74;have f75:sp 75=so 75:=hold 75;have f76:sp 76=so 76:=hold 76;have f77:sp 77=so 77:=hold 77;have f78:sp 78=so 78:=hold 78;have f79:sp 79=so 79:=hold 79;have f80:sp 80=so 80:=hold 80;have f81:sp 81=so 81:=hold 81;have f82:sp 82=so 82:=hold 82;have f83:sp 83=so 83:=hold 83;have f84:sp 84=so 84:=hold 84;have f85:sp 85=so 85:=hold 85;have f86:sp 86=so 86:=hold 86;have f87:sp 87=so 87:=hold 87;have f88:sp 88=so 88:=hold 88;have f89:sp 89=so 89:=hold 89;have f90:sp 90=so 90:=hold 90;have f91:sp 91=so 91:=hold 91;have f92:sp 92=so 92:=hold 92;have f93:sp 93=so 93:=hold 93;have f94:sp 94=so 94:=hold 94;have f95:sp 95=so 95:=hold 95;have f96:sp 96=so 96:=hold 96;have f97:sp 97=.slice ↑(ab,ao) na IQ:=hold 97;have f98:sp 98=so 98:=hold 98;have f99:sp 99=.slice ↑(bb,bo) nb Ob:=hold 99;have f100:sp 100=.slice (EM ↑(bb,bo) Ob) (nb - 1) (Ob - 1):=hold 100;have f101:sp 101=so 101:=hold 101;have f102:sp 102=↑i:=hold 102;have f103:sp 103=.slice ↑(bb,bo) nb Ob:=hold 103;have f104:sp 104=↑nb:=hold 104;have f105:sp 105=.bool true:=hold 105;have f106:sp 106=u106:=hold 106;have f107:sp 107=u107:=hold 107;have f124:sp 124=u124:=hold 124;have f125:sp 125=u125:=hold 125;have f126:sp 126=u126:=hold 126;have f127:sp 127=u127:=hold 127;have f128:sp 128=u128:=hold 128;have f129:sp 129=u129:=hold 129;have f130:sp 130=u130:=hold 130;have f131:sp 131=u131:=hold 131;have f132:sp 132=u132:=hold 132;have f133:sp 133=u133:=hold 133;have f134:sp 134=u134:=hold 134;have f135:sp 135=so 135:=hold 135;have f136:sp 136=so 136:=hold 136;have f137:sp 137=so 137:=hold 137;have f138:sp 138=so 138:=hold 138;have f139:sp 139=so 139:=hold 139;have f140:sp 140=so 140:=hold 140;have f141:sp 141=so 141:=hold 141;have f142:sp 142=so 142:=hold 142
   have f143:sp 143=so 143:=hold 143;have f144:sp 144=so 144:=hold 144;have f145:sp 145=so 145:=hold 145;have f146:sp 146=so 146:=hold 146;have f147:sp 147=so 147:=hold 147;have f148:sp 148=so 148:=hold 148;have f149:sp 149=so 149:=hold 149;have f150:sp 150=so 150:=hold 150;have f151:sp 151=so 151:=hold 151;have f152:sp 152=so 152:=hold 152;have f153:sp 153=so 153:=hold 153;have f154:sp 154=so 154:=hold 154;have f155:sp 155=so 155:=hold 155;have f156:sp 156=so 156:=hold 156;have f157:sp 157=so 157:=hold 157;have f158:sp 158=so 158:=hold 158;have f159:sp 159=so 159:=hold 159;have f160:sp 160=so 160:=hold 160;have f161:sp 161=so 161:=hold 161;have f162:sp 162=so 162:=hold 162;have f163:sp 163=so 163:=hold 163;have f164:sp 164=so 164:=hold 164;have f165:sp 165=so 165:=hold 165;have f166:sp 166=so 166:=hold 166;have f167:sp 167=so 167:=hold 167;have f168:sp 168=so 168:=hold 168;have f169:sp 169=so 169:=hold 169;have f170:sp 170=so 170:=hold 170;have f171:sp 171=so 171:=hold 171;have f172:sp 172=so 172:=hold 172;have f173:sp 173=so 173:=hold 173;have f174:sp 174=so 174:=hold 174;have f175:sp 175=so 175:=hold 175;have f176:sp 176=so 176:=hold 176;have f177:sp 177=so 177:=hold 177;have f178:sp 178=so 178:=hold 178;have f179:sp 179=so 179:=hold 179;have f180:sp 180=so 180:=hold 180;have f181:sp 181=so 181:=hold 181;have f182:sp 182=so 182:=hold 182;have f183:sp 183=so 183:=hold 183;have f184:sp 184=so 184:=hold 184;have f185:sp 185=so 185:=hold 185;have f186:sp 186=so 186:=hold 186;have f187:sp 187=so 187:=hold 187;have f188:sp 188=so 188:=hold 188;have f189:sp 189=so 189:=hold 189;have f190:sp 190=so 190:=hold 190;have f191:sp 191=so 191:=hold 191;have f192:sp 192=so 192:=hold 192;have f193:sp 193=so 193:=hold 193;have f194:sp 194=so 194:=hold 194;have f195:sp 195=so 195:=hold 195;have f196:sp 196=so 196:=hold 196;have f197:sp 197=so 197:=hold 197;have f198:sp 198=so 198:=hold 198;have f199:sp 199=so 199:=hold 199;have f200:sp 200=so 200:=hold 200
   have f201:sp 201=so 201:=hold 201;have f202:sp 202=so 202:=hold 202;have f203:sp 203=so 203:=hold 203;have f204:sp 204=so 204:=hold 204;have f205:sp 205=so 205:=hold 205;have f206:sp 206=so 206:=hold 206;have f207:sp 207=so 207:=hold 207;have f208:sp 208=so 208:=hold 208;have f209:sp 209=so 209:=hold 209;have f210:sp 210=so 210:=hold 210;have f211:sp 211=so 211:=hold 211;have f212:sp 212=so 212:=hold 212;have f213:sp 213=so 213:=hold 213;have f214:sp 214=so 214:=hold 214;have f215:sp 215=so 215:=hold 215;have f216:sp 216=so 216:=hold 216;have f217:sp 217=so 217:=hold 217;have f218:sp 218=so 218:=hold 218;have f219:sp 219=so 219:=hold 219;have f220:sp 220=so 220:=hold 220;have f221:sp 221=so 221:=hold 221;have f222:sp 222=so 222:=hold 222;have f223:sp 223=so 223:=hold 223;have f224:sp 224=so 224:=hold 224;have f225:sp 225=so 225:=hold 225;have f226:sp 226=so 226:=hold 226;have f19:sp 19=↑FI:=hnew 16 19;have f20:sp 20=.bool FB:=hnew 17 20;change Exit.then _ _ .normal ⟨_,_⟩ _;simp only[List.range,List.range.loop,List.map];simp only[f0,f1,f2,f3,f4,f5,f6,f7,f8,f9,f10,f11,f12,f13,f14,f15,f16,f17,f18,f21,f22,f23,f24,f25,f26,f27,f28,f29,f30,f31,f32,f33,f34,f35,f36,f37,f38,f39,f40,f41,f42,f43,f44,f45,f46,f47,f48,f49,f50,f51,f52,f53,f54,f55,f56,f57,f58,f59,f60,f61,f62,f63,f64,f65,f66,f67,f68,f69,f70,f71,f72,f73,f74,f75,f76,f77,f78,f79,f80,f81,f82,f83,f84,f85,f86,f87,f88,f89,f90,f91,f92,f93,f94,f95,f96,f97,f98,f99,f100,f101,f102,f103,f104,f105,f106,f107,f124,f125,f126,f127,f128,f129,f130,f131,f132,f133,f134,f135,f136,f137,f138,f139,f140,f141,f142,f143,f144,f145,f146,f147,f148,f149,f150,f151,f152,f153,f154,f155,f156,f157,f158,f159,f160,f161,f162,f163,f164,f165,f166,f167,f168,f169,f170,f171,f172,f173,f174,f175,f176,f177,f178,f179,f180,f181,f182,f183,f184,f185,f186,f187,f188,f189,f190,f191,f192,f193,f194,f195,f196,f197,f198,f199,f200,f201,f202,f203,f204,f205,f206,f207,f208,f209,f210,f211,f212,f213,f214,f215,f216,f217,f218,f219,f220,f221,f222,f223,f224,f225,f226,f19,f20]
   clear hold hnew;have E8:=zq (HE.out.trans nU);have hcl:=(nU.cell (p:=⟨bb,bo+i*2,none⟩) hbr).trans hcl;clear nU hbr HFD
   cases FB
   have HN2:Hid (tk (x::la) (lb.take (i+1 - 1))=TV):=zq (by
    rw[show i+1 - 1=i by omega,HNX.out];by_cases h0:TV=⟨#[]⟩;rw[if_pos h0,h0];rfl;rw[if_neg h0])
   clear hcl;exact aAA;by_cases h0:TV=⟨#[]⟩;subst h0;have HN2:Hid (tk (x::la) (lb.take (i+1 - 1))=cc.1):=zq (by rw[show i+1 - 1=i by omega,HNX.out,if_pos rfl];rfl);exact aAA;have HN2:Hid (tk (x::la) (lb.take (i+1 - 1))=TV):=zq (by rw[show i+1 - 1=i by omega,HNX.out,if_neg h0]);have hz:¬TV.size=0:=λe=>h0 (Pe e);have hz2:(TV.size==0)=false:=awg.2 hz;have hz3:¬(TV.size:Int)=0:=ae;clear h0 hcl;exact aAA
  obtain rfl:i=nb:=ae;rw[show lb.take (i - 1)=lb from awC ae];obtain⟨wo,rfl⟩:∃wo:ak,wo=wr:=⟨_,rfl⟩
  have EO:=zq (E7.out.trans HE.out);have E5O:=zq (E57.out.trans HE.out);have oW:=zq (oW.out.ev HE.out);have pV:=zq (pV.out.ev HE.out);have HCJ:=zq (HCJ.out.ev HE.out);have HCW:=zq (HCW.out.ev HE.out);have BMO:=zq (BMH.out.ev HE.out);have aex:=zq (aoN.out.ev HE.out);have hab:ab<wo.heap.size:=awz hab HE.out.size;have qo:Hid (∀s,tk (x::la) lb=s->tk (x::la) lb=s):=zq λs h=>h;obtain⟨TK,hTK⟩:∃TK,TK=tk (x::la) lb:=⟨_,rfl⟩
  rw[<-hTK];have hjo:=HJC.out;have hJ:akm x y la lb (jc,jy,js):=hjo;have i2:¬((i:Int)<(i:Int)):=ae;clear qo hjo;rcases hJ.cases with h|⟨hk,h⟩|⟨hk,ht,h⟩|⟨hk,ht,hl,nm9,h⟩|⟨hk,ht,hl,h⟩
  ·obtain⟨rfl,h2⟩:=Prod.mk.inj h;obtain⟨rfl,rfl⟩:=Prod.mk.inj h2;clear h h2 hJ hTK
   go_wp2_with ((with_reducible refine(U2.out _ EO.out).mono ?_);rintro r w9 ⟨rfl,oI⟩)
   go_ret;exact⟨rfl,EO.out.trans oI⟩
  obtain⟨rfl,h2⟩:=Prod.mk.inj h;obtain⟨rfl,rfl⟩:=Prod.mk.inj h2;clear h h2 hJ hTK;have hb1:(x.2==y.2)=false:=awg.2 hk;have hb2:(x.2 !=y.2)=true:=by simp[hk]
  exact ax2;obtain⟨rfl,h2⟩:=Prod.mk.inj h;obtain⟨rfl,UE⟩:=Prod.mk.inj h2;clear h h2;rw[<-hTK]at UE ht;subst UE;clear hJ hTK;have hz:¬js.size=0:=λe=>ht (Pe e);have hz1:(0:Int)<(js.size:Int):=ae;have hz2:0<js.size:=ae;clear ht hz;exact ax1;obtain⟨rfl,h2⟩:=Prod.mk.inj h;obtain⟨rfl,rfl⟩:=Prod.mk.inj h2;clear h h2;have ht0:TK=⟨#[]⟩:=hTK.trans ht;subst ht0;clear hJ hTK ht;have hl2:6<nw:=by rw[HNW.out];exact hl
  have hl3:(6:Int)<(nw:Int):=ae;clear hl;exact ax1;obtain⟨rfl,h2⟩:=Prod.mk.inj h;obtain⟨rfl,rfl⟩:=Prod.mk.inj h2;clear h h2;have ht0:TK=⟨#[]⟩:=hTK.trans ht;subst ht0;clear hJ hTK ht;have hl2:¬6<nw:=by rw[HNW.out];omega
  have hl3:¬(6:Int)<(nw:Int):=ae;have aoS:jn=nw:=by rw[HJN.out,HNW.out]
  subst aoS;clear hl;have hb1:(x.2==y.2)=true:=by simp[hk]
  have hb2:(x.2 !=y.2)=false:=by simp[hk]
  clear hk;obtain⟨xa0,Ie⟩:=eu oW.out;obtain⟨yb0,yb1⟩:=eu pV.out;go_upto_region 21 with fail
  go_quiet (fail)
  generalize XO:World.drewN _ _=wk;have W9:Ev wo wk:=XO▸Ev.drewN _ _;have HEK:=zq W9;clear XO xa0 Ie yb0 yb1;obtain⟨xa0,Ie⟩:=eu (oW.out.ev W9);clear W9;have HKJ:=zq (uS wk (HCJ.out.ev HEK.out) (HCW.out.ev HEK.out));go_upto_region 32 with ((with_reducible refine(HKJ.out).mono ?_);rintro r wk2 ⟨rfl,akE⟩;have aoT:=zq (HEK.out.trans akE);clear akE)
  obtain⟨ww,rfl⟩:∃ww:ak,ww=wk2:=⟨_,rfl⟩
  have Aq:Ev wo ww:=aoT.out;clear xa0 Ie;have EW:=zq (EO.out.trans Aq);have EWW:=zq Aq;have E5W:=zq (E5O.out.trans Aq);have BMW:=BMO.out.ev Aq;have W_:=zq (aex.out.ev Aq);have DD:=zq (oW.out.ev Aq);have Xa:ab<ww.heap.size:=awz hab Aq.size;obtain⟨xa0,Ie⟩:=eu DD.out;clear Aq;exact ax3
end Go.Proofs.YtpbfokkocaemlaaGreatDoor
