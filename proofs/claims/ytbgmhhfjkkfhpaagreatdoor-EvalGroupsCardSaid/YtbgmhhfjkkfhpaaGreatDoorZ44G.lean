import Derived.Test.YtbgmhhfjkkfhpaaGreatDoorZ36G
import Derived.Test.YtbgmhhfjkkfhpaaGreatDoorZ42G
set_option linter.unusedVariables false
set_option maxRecDepth 100000
set_option maxHeartbeats 64000000
namespace Go.Proofs.YtbgmhhfjkkfhpaaGreatDoor
open Go.RowKit
open Go.Lib renaming hid → zq
open Go renaming World → ak
open Go renaming Value → au
open Go.Proofs.Tryz renaming prog → ax
variable {U:Prop}
open Go.Proofs.Tryz
theorem aqW(w:ak)(T1 T2:TypeId)(c1 c2:Array au):∃w0,(w.alloc (.cells c1 T1)).alloc (.cells c2 T2)=w0/\Ev w w0/\Bx T1 w.heap.size c1 w0/\Bx T2 (w.heap.size+1) c2 w0:=by have hB:=Bx.new T2 c2 (w.alloc (.cells c1 T1));rw[show (w.alloc (.cells c1 T1)).heap.size=w.heap.size+1 by simp]at hB;exact⟨_,rfl,(Ev.alloc w _).trans aC,(Bx.new T1 c1 w).ev aC,hB⟩
theorem NW{p:Int}(h:Part p):FloatKind.f64.format.order (fl p) (fl p)=some .eq:=by have h1:=XU h h;rw[aDE (rfl:p=p)]at h1;exact eq_of_beq h1
theorem acJ(x y:J)(w:ak)(he:x.2=y.2)(h:Vs w x.1.1 x.1.2.1 x.1.2.2 x.2.1)(h':Vs w y.1.1 y.1.2.1 y.1.2.2 y.2.1)(hp:Part x.2.2.1)(hq:Part x.2.2.2)(hr:bZ x.2.1=true):
  Calls ax 32 #[.agg #[.slice x.1.1 x.1.2.1 x.1.2.2,.complex .f64 (fl x.2.2.1) (fl x.2.2.2)],.agg #[.slice y.1.1 y.1.2.1 y.1.2.2,.complex .f64 (fl y.2.2.1) (fl y.2.2.2)]] w (Yes w):=by
 obtain⟨⟨A1,n1,c1⟩,r,p,q⟩:=x;obtain⟨⟨A2,n2,c2⟩,r2,p2,q2⟩:=y;injection he with e1 e2
 injection e2 with e2 e3
 subst e1 e2 e3;simp only at h h' hp hq hr|-;have o1:=NW hp;have o2:=NW hq;have HS:=zq (λw1 (hE:Ev w w1)=>Ue w1 (h.ev hE) (h'.ev hE));have hsr:yO r r=true:=by unfold yO;rw[hr];simp[eqL]
 rw[hsr]at HS;obtain⟨w0,hw0,aV,hB,hC⟩:=aqW w 47 47 #[.slice A1 n1 c1,.complex .f64 (fl p) (fl q)] #[.slice A2 n2 c2,.complex .f64 (fl p) (fl q)];obtain⟨⟨x0,x1⟩,_⟩:=hB.two;obtain⟨⟨y0,y1⟩,_⟩:=hC.two;have cO:=zq aV;unfold Yes;clear hB hC aV h h' hp hq hr hsr;go_enter func32,ntmps32
 go_wp2_with (first
  | ((with_reducible refine(HS.out _ cO.out).mono ?_);rintro e w1 ⟨rfl,aJ⟩))
 go_ret;exact⟨rfl,cO.out.trans aJ⟩
theorem acK{b b':Nat}(X X':List J)(A A':Option Addr)(n cap cap':Nat)(w:ak)(h:Zs b w A n cap X)(h':Zs b' w A' n cap' X')(he:aK X=aK X')(hp:nV X)(hr:∀x∈X,bZ x.2.1=true):
  Calls ax 31 #[.slice A n cap,.slice A' n cap',.func (.func 32) #[] #[]] w (Yes w):=by
 have hc1:=h.le;have hc2:=h.max;have hc3:=h'.le;have hc4:=h'.max;have H:=zq h;have H':=zq h';have HP:=zq hp;have HR:=zq hr;have HEQ:=zq he;have cO:=zq (Ev.refl w);have hst:=f_;unfold Yes;clear h h' hp hr he;go_enter func31,ntmps31;go_wp2
 go_loopw [17] (λiv wr=>∃k:Nat,iv=↑k/\k<=n/\Hid (Ev w wr)) (λiv _=>n-(intOf iv).toNat)
 case atStart=>exact⟨0,rfl,aDl _,by first|exact cO|exact zq aC|exact zq (aC.trans aC)⟩
 case round=>
  obtain⟨k,rfl,hk,HE⟩:=hrel;by_cases hlt:k<n
  ·obtain⟨b1,off,x,rfl,hb,_,hx,c0,c1,hv⟩:=(H.out.ev HE.out).at hlt;obtain⟨b2,off',y,rfl,hb',_,hy,d0,d1,hv'⟩:=(H'.out.ev HE.out).at hlt;have Fj:x.2=y.2:=by
    have h1:(aK X)[k]?=some x.2:=by unfold aK;rw[aDG,hx];rfl
    have h2:(aK X')[k]?=some y.2:=by unfold aK;rw[aDG,hy];rfl
    rw[HEQ.out,h2]at h1;exact(aDp h1).symm
   have tq:=aDb hx;have HC:=zq (λw1 (hE:Ev wr w1)=>acJ x y w1 Fj (hv.ev hE) (hv'.ev hE) (HP.out x tq).1 (HP.out x tq).2 (HR.out x tq));unfold Yes at HC;unfold nK at c0 d0;unfold nP at c1 d1;obtain⟨w4,hw4,gy,TP⟩:∃w4,wr.alloc (.cells #[.slice x.1.1 x.1.2.1 x.1.2.2,.complex .f64 (fl x.2.2.1) (fl x.2.2.2)] 47)=w4/\Ev wr w4/\Bx 47 wr.heap.size #[.slice x.1.1 x.1.2.1 x.1.2.2,.complex .f64 (fl x.2.2.1) (fl x.2.2.2)] w4:=⟨_,rfl,Ev.alloc _ _,Bx.new _ _ _⟩
   have e0:=(gy.cell (p:=⟨b2,off'+k*2,none⟩) hb').trans d0;have e1:=(gy.cell (p:=⟨b2,off'+k*2+1,none⟩) hb').trans d1;obtain⟨w5,uM,qP,yK⟩:∃w5,w4.alloc (.cells #[.slice y.1.1 y.1.2.1 y.1.2.2,.complex .f64 (fl y.2.2.1) (fl y.2.2.2)] 47)=w5/\Ev w4 w5/\Bx 47 w4.heap.size #[.slice y.1.1 y.1.2.1 y.1.2.2,.complex .f64 (fl y.2.2.1) (fl y.2.2.2)] w5:=⟨_,rfl,Ev.alloc _ _,Bx.new _ _ _⟩
   obtain⟨⟨f0,f1⟩,_⟩:=(TP.ev qP).two;obtain⟨⟨g0,g1⟩,_⟩:=yK.two;have I_:=zq (gy.trans qP);have i1:(0:Int)<=(k:Int):=ae;have i2:(k:Int)<(n:Int):=ae;clear hx hy d0 d1 gy TP qP yK Fj tq hv hv'
   go_wp2_with (first
    | ((with_reducible refine(HC.out _ I_.out).mono ?_);rintro e w6 ⟨rfl,uK⟩))
   go_roundw
   case rel=>exact⟨k+1,by go_num,ae,zq (HE.out.trans (I_.out.trans uK))⟩
   case measure=>simp[intOf];omega
  obtain rfl:k=n:=ae;go_wp2;go_ret;exact⟨rfl,HE.out⟩
theorem acL{l:List I}{A B:Option Addr}{n cap cap':Nat}(w:ak)(h:eQ l w A n cap)(h':eQ l w B n cap')(hp:xK l)(hs:setB l=true)(hr:∀x∈l,bZ x.1=true):
  Calls ax 14 #[.slice A n cap,.slice B n cap'] w (Yes w):=by
 have HR:=zq (λw1 (hE:Ev w w1)=>aep w1 (h.ev hE) hp);rw[hs]at HR;have HF:Hid (∀w1,Ev w w1->Calls ax 31 #[.slice A n cap,.slice B n cap',.func (.func 32) #[] #[]] w1 (Yes w1)):=zq (λw1 hE=>by
  obtain⟨Z,hz,e⟩:=h.ev hE;obtain⟨Z',hz',e'⟩:=h'.ev hE;exact acK Z Z' A B n cap cap' w1 hz hz' (e.trans e'.symm) (xK.all (by rw[e];exact hp)) (λx hx=>hr x.2 (by rw[<-e];exact aDF hx)))
 unfold Yes at HF|-;clear h h' hp hs hr;go_enter func14,ntmps14
 go_wp2_with (first
  | ((with_reducible refine(HR.out _ aS).mono ?_);rintro e w1 ⟨rfl,aJ⟩;have E1:=zq aJ;clear aJ)
  | ((with_reducible refine(HF.out _ E1.out).mono ?_);rintro e w2 ⟨rfl,dJ⟩))
 go_ret;exact⟨rfl,E1.out.trans dJ⟩
theorem acM{l:List Int}{A:Option Addr}{n cap:Nat}(w:ak)(h:Ri l w A n cap):
  Calls ax 15 #[.int .i64 1,.slice A n cap] w λe w'=>∃B,e=.returned (.slice B 1 1)/\eQ [(l.map bI,1,0)] w' B 1 1/\Ev w w':=by
 have hsm:=eQ.made [((A,n,cap),(l.map bI,1,0))] 1 rfl ai w #[.slice A n cap,.complex .f64 (fl 1) 0] (by simp[eu,nK,nP,wW]) (λz hz=>by rw[aDM.1 hz];exact h.lies 1 0) _ rfl;have HS:=zq hsm;clear hsm h;go_enter func15,ntmps15;go_wp2;go_ret;exact⟨_,rfl,HS.out,Ev.alloc _ _⟩
theorem oK.cell{w:ak}{A:Option Addr}{n cap:Nat}{L:List (dK V)}(h:oK w A n cap L){i:Nat}{x:dK V}(hx:L[i]?=some x):∃b off,A=some ⟨b,off,none⟩/\b<w.heap.size/\w.cell? ⟨b,off+i,none⟩=some (.slice x.A x.l.length x.cap):=by have hi:=(aC6.1 hx).1;have hl:=h.sl.len;obtain⟨b,off,e,hlt,hc⟩:=h.sl.rd ae;refine⟨b,off,e,hlt,?_⟩;have h1:=hc i x hx 0 _ rfl;simpa[dK.v] using h1
def NY(S:List I)(w:ak)(e:Ending)(w':ak):Prop:=∃A c,e=.returned (.slice A S.length c)/\eQ S w' A S.length c/\Ev w w'
theorem aFp(h:U:=by
 refine az 0 ?_ (az 1 ?_ (az 2 ?_ (az 3 ?_ (az 4 ?_ (az 5 ?_ (az 6 ?_ (az 7 ?_ (eY 8))))))));refine bF λa wq c=>⟨(ay rfl),_,run_move _ rfl wq,(c.was 5 rfl)⟩
 ·refine bF λa wq c=>⟨(ay rfl),.pointer (some ⟨bx,1,none⟩),?_,rfl⟩
  have bn:a.eval (.tmp 7)=.pointer ↑bx:=(c.was 7 rfl)
  generalize a.eval=ρ at bn|-;simp[execOp,bn,go_sem]
 ·refine bF λa wq c=>⟨(ay rfl),.slice B bk bc,?_,rfl⟩
  have bn:a.eval (.tmp 29)=.pointer (some ⟨bx,1,none⟩):=(c.new 1 29)
  have hc:=(HX.out.but c.but ZT.out).cell 1;generalize a.eval=ρ at bn|-;simp[execOp,bn,go_sem,hc]
 refine Dt λa wq c=>⟨(ay rfl),35,#[.int .i64 1,.int .i64 0],?_,?_⟩
 rw[bK 35 _ _ rfl ah];have k0:a.eval (.const (.int .i64 1))=.int .i64 1:=rfl;have k1:a.eval (.const (.int .i64 0))=.int .i64 0:=rfl;simp[k0,k1];refine(HOF.out wq).mono ?_;rintro e wp ⟨rfl,rfl⟩;exact⟨_,rfl,jh.aU aS,rfl⟩
 ·refine bF λa wq c=>⟨(ay rfl),.agg #[.slice B bk bc,.complex .f64 (fl 1) (fl 0)],?_,rfl⟩
  have bn:a.eval (.tmp 30)=.slice B bk bc:=(c.new 2 30)
  have jk:a.eval (.tmp 31)=.complex .f64 (fl 1) (fl 0):=(c.new 3 31)
  generalize a.eval=ρ at bn jk|-;simp[execOp,bn,jk,go_sem]
 ·refine lh λa wq c=>?_;have bn:a.eval (.tmp 32)=.agg #[.slice B bk bc,.complex .f64 (fl 1) (fl 0)]:=(c.new 4 32)
  refine⟨(ay rfl),.slice ↑wq 1 1,wq.alloc (.cells #[.slice B bk bc,.complex .f64 (fl 1) (fl 0)] 47),?_,jh.aU aC,wq.heap.size,z,rfl,c.but.size,Sl.one (et:=47) yf wq _ _ (by rw[HZE.out];rfl),rfl⟩;generalize a.eval=ρ at bn|-;simp[execOp,bn,go_sem]
 refine lh λa wq c=>?_;have bn:a.eval (.tmp 28)=.slice ZA k zc:=(c.new 0 28)
 have hO_:lV 2 eu wx.heap.size (λ_ y=>y=z) (a.eval (.tmp 33)) wq:=(c.new 5 33)
 obtain⟨v_,w_,hr_,hG_,hT_⟩:=hO_.append (loc:=λ_=>none) yf 25 25 underlying25 Tryz.GU rfl (c.evm rfl) YI.out rfl (λ_ _ _ _ h=>h) (λw1 x1 ad h1 ea=>by cases ea) ae ae (aDr HSW.out c.but.size);exact aHA;refine bF λa wq c=>⟨(ay rfl),_,run_assign _ rfl wq,((c.new 6 34))⟩):U:=h
theorem aG6(h:U:=by
 go_wp2_with (first
  | ((with_reducible refine(HMI.out _ aS).mono ?_);rintro r w1 ⟨⟨A1,c1,rfl,hSI⟩,aJ⟩;simp only[]))
 go_ret;exact⟨_,_,rfl,hSI,HEV.out.trans aJ⟩):U:=h
theorem aFI(h:U:=by have HMI:=zq (λw1 (hE:Ev wr w1)=>Rh w1 (HST.out.ev hE) ae HTA.out);rw[HMK.out]at HMI;have HEV:=zq HIS.out.ev;clear HIZ mr HST;by_cases hkn:k<n;have i2:(k:Int)<(n:Int):=ae;have i3:¬(k:Int)<20:=ae;exact aG6;have i2:¬(k:Int)<(n:Int):=ae;exact aG6):U:=h
theorem amH{A:Option Addr}{n cap:Nat}{L:List (dK V)}(w:ak)(h:oK w A n cap L)(S:List I)(hS:vY ((((L.map dK.l).take 20).map λr=>(jB r,1,0)))=(0,S)):
  Calls ax 18 #[.string ⟨#[117,117]⟩,.slice A n cap] w (NY S w):=by
 have dH:Tryz.prog.follows .mixedOrders=true:=ah;have hst:=f_;have hcl:=h.sl.le;have hcm:=h.sl.max;have HL:=zq h.sl.len;have H:=zq h;have HMK:=zq hS;have HOF:=zq (λw1=>J8 1 0 w1);unfold NY;clear h hS;go_enter func18,ntmps18;go_wp2
 go_loopw [5,6] (λzv iv wr=>∃(ZA:Option Addr) (zc k:Nat) (Z:List J),zv=.slice ZA k zc/\iv=↑k/\k<=n/\k<=20/\Hid (Z.length=k)/\Hid (GR w (.slice ZA k zc) Z wr)/\Hid (aK Z=((L.map dK.l).take k).map λr=>(jB r,1,0))) (λ_ iv _=>n-(intOf iv).toNat)
 case atStart=>exact⟨none,0,0,[],rfl,rfl,aDl _,aDl _,zq rfl,zq (GR.start w),zq rfl⟩
 case round=>
  obtain⟨ZA,zc,k,Z,rfl,rfl,hk,aqX,OI,HIS,HIZ⟩:=hrel;by_cases hlt:k<n/\k<20
  ·obtain⟨hlt,avG⟩:=hlt;obtain⟨x,hx⟩:=H.out.sl.at hlt;obtain⟨b,off,rfl,hb,c0⟩:=(H.out.ev HIS.out.ev).cell hx;have HTM:=zq (λ(tab:ByteArray) (hz:tab.size=3) w1 (hE:Ev wr w1)=>amD tab hz x.l x.A x.l.length x.cap w1 (((H.out.ev HIS.out.ev).each x (aDb hx)).1.ev hE));unfold AQ at HTM;have mr:Hid (((L.map dK.l).take (k+1)).map (λr=>((jB r,1,0):I))=((L.map dK.l).take k).map (λr=>((jB r,1,0):I))++[(jB x.l,1,0)]):=zq (by
    have h1:(L.map dK.l)[k]?=some x.l:=by rw[aDG,hx];rfl
    obtain⟨hk2,e⟩:=aC6.1 h1;rw[aDi hk2,aDk,e];rfl)
   have i1:(0:Int)<=(k:Int):=ae;have i2:(k:Int)<(n:Int):=ae;have i3:(k:Int)<20:=ae;clear hx;go_upto_region 6 with (first
    | ((with_reducible refine(HTM.out _ (by decide+kernel) _ aS).mono ?_);rintro r wt ⟨B,bk,bc,rfl,hV,hVb,aJ⟩;have HV:=zq hV;have HVB:=zq hVb;have E1:=zq aJ;clear hV hVb aJ))
   obtain⟨wx,hwx,qV,hX⟩:∃wx,wt.alloc (.cells #[.string ⟨#[117]⟩,.slice B bk bc,.bool false] 84)=wx/\Ev wt wx/\Bx 84 wt.heap.size #[.string ⟨#[117]⟩,.slice B bk bc,.bool false] wx:=⟨_,rfl,Ev.alloc _ _,Bx.new _ _ _⟩
   rw[hwx];generalize Gx:wt.heap.size=bx at*;have HX:=zq hX;have EX:=zq (E1.out.trans qV);have HVX:Hid (Vs wx B bk bc (jB x.l)/\∀ad,B=some ad->wr.heap.size<=ad.block/\ad.block<wx.heap.size):=zq ⟨HV.out.ev qV,λad ea=>⟨(HVB.out ad ea).1,aDf (HVB.out ad ea).2 (by have:=qV.size;omega)⟩⟩;obtain⟨z,hz⟩:∃z:J,z=((B,bk,bc),(jB x.l,1,0)):=⟨_,rfl⟩
   have HZE:=zq hz;have YI:=zq (HIS.out.own.ev EX.out);have HKW:Hid (∀q∈foot (.slice ZA k zc),q<wx.heap.size):=zq (λq hq=>(YI.out.lt (aG.1 hq)).2);have ZT:Hid (bx∉foot (.slice ZA k zc)):=zq (λhq=>by
    have h1:=(HIS.out.own.lt (aG.1 hq)).2;have h2:=E1.out.size;omega)
   have HSW:Hid (w.heap.size<=wx.heap.size):=zq (HIS.out.ev.trans EX.out).size;have aq2:=OI.out;clear hX qV hwx hz;refine jb dH (foot (.slice ZA k zc)) 6 [λv _=>v=.slice ZA k zc,λv _=>v=.pointer (some ⟨bx,1,none⟩),λv _=>v=.slice B bk bc,λv _=>v=.complex .f64 (fl 1) (fl 0),λv _=>v=.agg #[.slice B bk bc,.complex .f64 (fl 1) (fl 0)],lV 2 eu wx.heap.size (λ_ y=>y=z),iY 47 2 eu w.heap.size (.slice ZA k zc) wx Z (λ_ y=>y=z) (λ_=>none),iY 47 2 eu w.heap.size (.slice ZA k zc) wx Z (λ_ y=>y=z) (λ_=>none)]
    41 rfl ah ⟨aB _,aB _,aB _,aB _,aB _,lV.mono (λ_ _ _ _ h=>h),iY.mono (λ_ _ _ _ h=>h),iY.mono (λ_ _ _ _ h=>h),trivial⟩ ⟨.inr (.inr (cu _ _)),.inr (.inr (cu _ _)),.inr (.inr (cu _ _)),.inr (.inr (cu _ _)),.inr (.inr (cu _ _)),.inr (.inr (lV.yu HKW.out (λ_ _ _ _ h=>h))),.inl rfl,.inr (.inl ah),trivial⟩ ?_ ?_
   exact aFp;intro s w5 hB hold hnew;have hG:iY 47 2 eu w.heap.size (.slice ZA k zc) wx Z (λ_ y=>y=z) (λ_=>none) (s 5) w5:=hnew 7 5;have f0:s 0=.string ⟨#[117,117]⟩:=hold 0;have f1:s 1=.slice ↑(b,off) n cap:=hold 1;have f6:s 6=↑k:=hold 6;have f4:s 4=↑():=hold 4;have f2:_=undef:=hold 2;have f3:_=undef:=hold 3;have f8:_=undef:=hold 8;have f9:_=undef:=hold 9;have f35:_=undef:=hold 35;have f36:_=undef:=hold 36;have f37:_=undef:=hold 37;have f38:_=undef:=hold 38;have f39:_=undef:=hold 39;have f40:_=undef:=hold 40;change Exit.inBlock _ _ .normal ⟨_,_⟩ _;simp only[List.range,List.range.loop,List.map];simp only[f0,f1,f4,f6,f2,f3,f8,f9,f35,f36,f37,f38,f39,f40];clear hold hnew;generalize s 7=u7_,s 10=ab1,s 11=ab2,s 12=YJ,s 13=ab3,s 14=YK,s 15=Vh,s 16=Vj,s 17=X5,s 18=X6,s 19=X7,s 20=Vk,s 21=Vl,s 22=X8,s 23=X9,s 24=Ya,s 25=Yb,s 26=Yc,s 27=Yd,s 28=QP,s 29=Uk,s 30=Ye,s 31=Yf,s 32=Yg,s 33=Yh,s 34=Yi;obtain⟨y,hG1,rfl,hG3,_⟩:=hG;rw[HZE.out]at hG1;have HN:=zq (HIS.out.next EX.out HVX.out.1 HVX.out.2 ⟨hG1,hB,hG3⟩);obtain⟨A2,yB,hv2,_,_⟩:=HN.out.own.form yf;generalize s 5=v3 at*;subst hv2;have HZ2:Hid ((Z++[(((B,bk,bc),(jB x.l,1,0)):J)]).length=k+1):=zq (by rw[aDd,OI.out];rfl);rw[HZ2.out]at HN;clear hG1 hG3 hB;go_wp2;(try rw[HZ2.out]);go_roundw
   case rel=>exact⟨A2,yB,k+1,Z++[((B,bk,bc),(jB x.l,1,0))],rfl,by go_num,ae,ae,HZ2,HN,zq (by
    rw[mr.out,<-HIZ.out];unfold aK;rw[aDk];rfl)⟩
   case measure=>simp[intOf];omega
  have mr:Hid ((L.map dK.l).take k=(L.map dK.l).take 20):=zq (by
   have hl:=HL.out;by_cases h20:k=20;rw[h20];rw[aDj (by rw[aC_];omega),aDj (by rw[aC_];omega)])
  have HST:=zq (HIS.out.set (l:=(((L.map dK.l).take 20).map λr=>((jB r,1,0):I))) (by rw[HIZ.out,mr.out]));have HAD:Hid (jc (((L.map dK.l).take 20).map λr=>((jB r,1,0):I))):=zq (AP jB IJ _);have HTA:Hid (∀x∈(((L.map dK.l).take 20).map λr=>((jB r,1,0):I)),nR x.2.1 x.2.2):=zq (λx hx=>by
   have ht:=EN jB (L.map dK.l);have h1:=HAD.out.part ae x hx;exact nR.part h1.1 h1.2)
  exact aFI
theorem amL{A:Option Addr}{n cap:Nat}{L:List (dK V)}(w:ak)(h:oK w A n cap L)(S:List I)(hS:vY ((((L.map dK.l).take 20).map λr=>(iM r,1,0)))=(0,S)):
  Calls ax 18 #[.string ⟨#[116]⟩,.slice A n cap] w (NY S w):=by
 have dH:Tryz.prog.follows .mixedOrders=true:=ah;have hst:=f_;have hcl:=h.sl.le;have hcm:=h.sl.max;have HL:=zq h.sl.len;have H:=zq h;have HMK:=zq hS;have HOF:=zq (λw1=>J8 1 0 w1);unfold NY;clear h hS;go_enter func18,ntmps18;go_wp2
 go_loopw [5,6] (λzv iv wr=>∃(ZA:Option Addr) (zc k:Nat) (Z:List J),zv=.slice ZA k zc/\iv=↑k/\k<=n/\k<=20/\Hid (Z.length=k)/\Hid (GR w (.slice ZA k zc) Z wr)/\Hid (aK Z=((L.map dK.l).take k).map λr=>(iM r,1,0))) (λ_ iv _=>n-(intOf iv).toNat)
 case atStart=>exact⟨none,0,0,[],rfl,rfl,aDl _,aDl _,zq rfl,zq (GR.start w),zq rfl⟩
 case round=>
  obtain⟨ZA,zc,k,Z,rfl,rfl,hk,aqX,OI,HIS,HIZ⟩:=hrel;by_cases hlt:k<n/\k<20
  ·obtain⟨hlt,avG⟩:=hlt;obtain⟨x,hx⟩:=H.out.sl.at hlt;obtain⟨b,off,rfl,hb,c0⟩:=(H.out.ev HIS.out.ev).cell hx;have HTM:=zq (λ(tab:ByteArray) (hz:tab.size=2) w1 (hE:Ev wr w1)=>amE tab hz x.l x.A x.l.length x.cap w1 (((H.out.ev HIS.out.ev).each x (aDb hx)).1.ev hE));unfold AQ at HTM;have mr:Hid (((L.map dK.l).take (k+1)).map (λr=>((iM r,1,0):I))=((L.map dK.l).take k).map (λr=>((iM r,1,0):I))++[(iM x.l,1,0)]):=zq (by
    have h1:(L.map dK.l)[k]?=some x.l:=by rw[aDG,hx];rfl
    obtain⟨hk2,e⟩:=aC6.1 h1;rw[aDi hk2,aDk,e];rfl)
   have i1:(0:Int)<=(k:Int):=ae;have i2:(k:Int)<(n:Int):=ae;have i3:(k:Int)<20:=ae;clear hx;go_upto_region 6 with (first
    | ((with_reducible refine(HTM.out _ (by decide+kernel) _ aS).mono ?_);rintro r wt ⟨B,bk,bc,rfl,hV,hVb,aJ⟩;have HV:=zq hV;have HVB:=zq hVb;have E1:=zq aJ;clear hV hVb aJ))
   obtain⟨wx,hwx,qV,hX⟩:∃wx,wt.alloc (.cells #[.string ⟨#[116]⟩,.slice B bk bc,.bool false] 84)=wx/\Ev wt wx/\Bx 84 wt.heap.size #[.string ⟨#[116]⟩,.slice B bk bc,.bool false] wx:=⟨_,rfl,Ev.alloc _ _,Bx.new _ _ _⟩
   rw[hwx];generalize Gx:wt.heap.size=bx at*;have HX:=zq hX;have EX:=zq (E1.out.trans qV);have HVX:Hid (Vs wx B bk bc (iM x.l)/\∀ad,B=some ad->wr.heap.size<=ad.block/\ad.block<wx.heap.size):=zq ⟨HV.out.ev qV,λad ea=>⟨(HVB.out ad ea).1,aDf (HVB.out ad ea).2 (by have:=qV.size;omega)⟩⟩;obtain⟨z,hz⟩:∃z:J,z=((B,bk,bc),(iM x.l,1,0)):=⟨_,rfl⟩
   have HZE:=zq hz;have YI:=zq (HIS.out.own.ev EX.out);have HKW:Hid (∀q∈foot (.slice ZA k zc),q<wx.heap.size):=zq (λq hq=>(YI.out.lt (aG.1 hq)).2);have ZT:Hid (bx∉foot (.slice ZA k zc)):=zq (λhq=>by
    have h1:=(HIS.out.own.lt (aG.1 hq)).2;have h2:=E1.out.size;omega)
   have HSW:Hid (w.heap.size<=wx.heap.size):=zq (HIS.out.ev.trans EX.out).size;have aq2:=OI.out;clear hX qV hwx hz;refine jb dH (foot (.slice ZA k zc)) 6 [λv _=>v=.slice ZA k zc,λv _=>v=.pointer (some ⟨bx,1,none⟩),λv _=>v=.slice B bk bc,λv _=>v=.complex .f64 (fl 1) (fl 0),λv _=>v=.agg #[.slice B bk bc,.complex .f64 (fl 1) (fl 0)],lV 2 eu wx.heap.size (λ_ y=>y=z),iY 47 2 eu w.heap.size (.slice ZA k zc) wx Z (λ_ y=>y=z) (λ_=>none),iY 47 2 eu w.heap.size (.slice ZA k zc) wx Z (λ_ y=>y=z) (λ_=>none)]
    41 rfl ah ⟨aB _,aB _,aB _,aB _,aB _,lV.mono (λ_ _ _ _ h=>h),iY.mono (λ_ _ _ _ h=>h),iY.mono (λ_ _ _ _ h=>h),trivial⟩ ⟨.inr (.inr (cu _ _)),.inr (.inr (cu _ _)),.inr (.inr (cu _ _)),.inr (.inr (cu _ _)),.inr (.inr (cu _ _)),.inr (.inr (lV.yu HKW.out (λ_ _ _ _ h=>h))),.inl rfl,.inr (.inl ah),trivial⟩ ?_ ?_
   exact aFp;intro s w5 hB hold hnew;have hG:iY 47 2 eu w.heap.size (.slice ZA k zc) wx Z (λ_ y=>y=z) (λ_=>none) (s 5) w5:=hnew 7 5;have f0:s 0=.string ⟨#[116]⟩:=hold 0;have f1:s 1=.slice ↑(b,off) n cap:=hold 1;have f6:s 6=↑k:=hold 6;have f4:s 4=↑():=hold 4;have f2:_=undef:=hold 2;have f3:_=undef:=hold 3;have f8:_=undef:=hold 8;have f9:_=undef:=hold 9;have f35:_=undef:=hold 35;have f36:_=undef:=hold 36;have f37:_=undef:=hold 37;have f38:_=undef:=hold 38;have f39:_=undef:=hold 39;have f40:_=undef:=hold 40;change Exit.inBlock _ _ .normal ⟨_,_⟩ _;simp only[List.range,List.range.loop,List.map];simp only[f0,f1,f4,f6,f2,f3,f8,f9,f35,f36,f37,f38,f39,f40];clear hold hnew;generalize s 7=u7_,s 10=ab1,s 11=ab2,s 12=YJ,s 13=ab3,s 14=YK,s 15=Vh,s 16=Vj,s 17=X5,s 18=X6,s 19=X7,s 20=Vk,s 21=Vl,s 22=X8,s 23=X9,s 24=Ya,s 25=Yb,s 26=Yc,s 27=Yd,s 28=QP,s 29=Uk,s 30=Ye,s 31=Yf,s 32=Yg,s 33=Yh,s 34=Yi;obtain⟨y,hG1,rfl,hG3,_⟩:=hG;rw[HZE.out]at hG1;have HN:=zq (HIS.out.next EX.out HVX.out.1 HVX.out.2 ⟨hG1,hB,hG3⟩);obtain⟨A2,yB,hv2,_,_⟩:=HN.out.own.form yf;generalize s 5=v3 at*;subst hv2;have HZ2:Hid ((Z++[(((B,bk,bc),(iM x.l,1,0)):J)]).length=k+1):=zq (by rw[aDd,OI.out];rfl);rw[HZ2.out]at HN;clear hG1 hG3 hB;go_wp2;(try rw[HZ2.out]);go_roundw
   case rel=>exact⟨A2,yB,k+1,Z++[((B,bk,bc),(iM x.l,1,0))],rfl,by go_num,ae,ae,HZ2,HN,zq (by
    rw[mr.out,<-HIZ.out];unfold aK;rw[aDk];rfl)⟩
   case measure=>simp[intOf];omega
  have mr:Hid ((L.map dK.l).take k=(L.map dK.l).take 20):=zq (by
   have hl:=HL.out;by_cases h20:k=20;rw[h20];rw[aDj (by rw[aC_];omega),aDj (by rw[aC_];omega)])
  have HST:=zq (HIS.out.set (l:=(((L.map dK.l).take 20).map λr=>((iM r,1,0):I))) (by rw[HIZ.out,mr.out]));have HAD:Hid (jc (((L.map dK.l).take 20).map λr=>((iM r,1,0):I))):=zq (AP iM IK _);have HTA:Hid (∀x∈(((L.map dK.l).take 20).map λr=>((iM r,1,0):I)),nR x.2.1 x.2.2):=zq (λx hx=>by
   have ht:=EN iM (L.map dK.l);have h1:=HAD.out.part ae x hx;exact nR.part h1.1 h1.2)
  exact aFI
structure iC(ST SU:List I)(tT tU:TM)(A:Option Addr)(w:ak):Prop where
 at_:tJ w A 2 2 [tT,tU]
 nT:tT.name=[116]/\tT.cols=jO/\tT.rows=ST
 nU:tU.name=[117]/\tU.cols=cZ/\tU.rows=SU
theorem iC.ev{ST SU:List I}{tT tU:TM}{A:Option Addr}{w w':ak}(h:iC ST SU tT tU A w)(hE:Ev w w'):iC ST SU tT tU A w':=⟨h.at_.ev hE,h.nT,h.nU⟩
theorem NZ{A B:Option Addr}{n cap n2 cap2:Nat}{L K:List (dK V)}(w:ak)(h:oK w A n cap L)(h':oK w B n2 cap2 K)(ST SU:List I)(hT:vY ((((L.map dK.l).take 20).map λr=>(iM r,1,0)))=(0,ST))(hU:vY ((((K.map dK.l).take 20).map λr=>(jB r,1,0)))=(0,SU)):
  Calls ax 6 #[.slice A n cap,.slice B n2 cap2] w λe w'=>∃(C:Option Addr) (tT tU:TM),e=.returned (.slice C 2 2)/\iC ST SU tT tU C w'/\Ev w w':=by
 have HST:=zq (λw1 (hE:Ev w w1)=>amL w1 (h.ev hE) ST hT);have HSU:=zq (λw1 (hE:Ev w w1)=>amH w1 (h'.ev hE) SU hU);have HKT:=zq (λw1=>ak4 w1);have HKU:=zq (λw1=>ak7 w1);unfold NY at HST HSU;clear h h' hT hU;go_enter func6,ntmps6
 go_wp2_with (first
  | ((with_reducible refine(HKT.out _).mono ?_);rintro r w1 ⟨rfl,hC,hE⟩;have HC1:=zq hC;have E1:=zq hE;clear hC hE)
  | ((with_reducible refine(HST.out _ E1.out).mono ?_);rintro r w2 ⟨A2,c2,rfl,hS,hE⟩;have HS2:=zq hS;have E2:=zq (E1.out.trans hE);have HC2:=zq (HC1.out.ev hE);clear hS hE)
  | ((with_reducible refine(HKU.out _).mono ?_);rintro r w3 ⟨rfl,hC,hE⟩;have HC3:=zq hC;have E3:=zq (E2.out.trans hE);have F3:=zq hE;clear hC hE)
  | ((with_reducible refine(HSU.out _ E3.out).mono ?_);rintro r w4 ⟨A4,c4,rfl,hS,hE⟩;have HS4:=zq hS;have E4:=zq (E3.out.trans hE);have F4:=zq (F3.out.trans hE);have HC4:=zq (HC3.out.ev hE);clear hS hE))
 go_ret;refine⟨_,⟨[116],some ⟨↑w,0,none⟩,3,jO,A2,c2,ST⟩,⟨[117],some ⟨↑w2,0,none⟩,2,cZ,A4,c4,SU⟩,rfl,⟨⟨Sl.made (enc:=tc) (λ_=>rfl) [⟨[116],some ⟨↑w,0,none⟩,3,jO,A2,c2,ST⟩,⟨[117],some ⟨↑w2,0,none⟩,2,cZ,A4,c4,SU⟩] 2 rfl ai w4 _ _ rfl,λt ht=>?_⟩,⟨rfl,rfl,rfl⟩,⟨rfl,rfl,rfl⟩⟩,E4.out.trans aC⟩;simp only[aDg,aEa,aEG]at ht;rcases ht with rfl|rfl;exact⟨(HC2.out.ev F4.out).ev aC,(HS2.out.ev F4.out).ev aC⟩;exact⟨HC4.out.ev aC,HS4.out.ev aC⟩
end Go.Proofs.YtbgmhhfjkkfhpaaGreatDoor
