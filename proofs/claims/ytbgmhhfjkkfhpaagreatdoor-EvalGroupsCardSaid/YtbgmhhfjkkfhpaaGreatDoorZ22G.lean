import Derived.Deep.DeepCutAuto
import Derived.Test.YtbgmhhfjkkfhpaaGreatDoorZ20G
set_option linter.unusedVariables false
set_option maxRecDepth 100000
set_option maxHeartbeats 64000000
namespace Go.Proofs.YtbgmhhfjkkfhpaaGreatDoor
open Go.RowKit
open Go.Lib renaming hid → zq
open Go renaming World → ak
open Go.Proofs.Tryz renaming prog → ax
variable {U:Prop}
open Go.Proofs.Tryz
theorem jD(a b:By):(⟨a.toArray⟩:ByteArray)++⟨b.toArray⟩=⟨(a++b).toArray⟩:=by apply toList_inj;simp[Lib.toList_data]
theorem fJ(l:By):(⟨l.toArray⟩:ByteArray).size=l.length:=rfl
theorem aHr(h:U:=by
 clear jK hdr;go_wp2
 go_round
 case rel=>exact⟨g,q,cap,j+1,f,os,rfl,by go_num,ae,ae,ST.wider ae,oM⟩
 case measure=>simp[intOf];omega):U:=h
theorem aGr(h:U:=by go_wp2;(try simp only[Exit.inBlock,Exit.then]);rw[fK];refine aFe (aN rfl _ _ _ _ _ rfl (ST.box.pG _ _ _ _ _) underlying109 rfl Tryz.iK) rfl ?_;exact⟨ku,by rw[HX.out];rfl,by rw[HX.out];rfl,Lies.zero _ _ _,ST.ev.box (dZ _ _ _ _ _ _ _) (aC8 _)⟩):U:=h
theorem aGe(h:U:=by clear jK hdr hbl;exact aGr):U:=h
theorem aGc(h:U:=by have HX:=zq jK;exact aGe):U:=h
theorem aIk(h:U:=by refine dP ai λa w c=>⟨(ay rfl),_,run_move _ rfl w,(c.was 5 rfl)⟩):U:=h
theorem aIl(h:U:=by refine dP ai λa w c=>⟨(ay rfl),_,run_move _ rfl w,(c.was 8 rfl)⟩):U:=h
theorem aHQ(h:U:=by refine nC λa w c=>⟨(ay rfl),_,_,y9 rfl w,by unfold ou;rw[if_neg ai];exact Ev.alloc _ _,kE.new c.ev.size⟩):U:=h
theorem aGI(h:U:=by obtain⟨v',w',hr,h2,h3⟩:=sQ (P:=ax) jU 107 (107:TypeId) underlying107 Tryz.rV rfl h0 A1 n1 cap1 e.kids (hMs.ev c.ev) ae ae c.ev.size;exact⟨(ay rfl),v',w',qf rfl e1 hr,by unfold ou;rw[if_neg ai];exact h3,h2⟩):U:=h
theorem aGb(h:U:=by obtain⟨v',w',hr,h2,h3,_,_⟩:=ja (P:=ax) jU 107 (107:TypeId) underlying107 Tryz.rV rfl h0 A2 1 1 [m] hS (by simp;omega) (by simp;omega) c.ev.size;exact⟨(ay rfl),v',w',qf rfl e1 hr,by unfold ou;rw[if_pos rfl];exact((But.aU c.ev).then h3).ev λk hk=>(h0.lt (aG.1 hk)).1,h2⟩):U:=h
theorem aIm(h:U:=by
 go_meet
 exact⟨by rw[hst];first|rfl|simp only[n40,n34,n45];rfl,rfl⟩):U:=h
theorem aIb(h:U:=by
 go_wp2_with fail
 exact aIm):U:=h
theorem aGB(h:U:=by
 go_wp2_with (first|((with_reducible refine(HC.out _).mono ?_);rintro x w1 ⟨rfl,rfl⟩)|((with_reducible refine(HD.out _).mono ?_);rintro x w1 ⟨rfl,rfl⟩))
 exact aIm):U:=h
theorem ahG(s0:ByteArray)(w:ak)(hs:s0.size<=100000):
  Calls ax 48 #[.string s0] w (Jl (fP s0.data.toList) w):=by
 have dH:Tryz.prog.follows .mixedOrders=true:=ah;have kN:s0.data.toList.length=s0.size:=by rw[aDK];rfl
 have HL:=zq kN;obtain⟨R,hR⟩:∃R,R=fP s0.data.toList:=⟨_,rfl⟩
 rw[<-hR];unfold fP at hR;rw[kN]at hR;have HR:=zq hR;have HDG:=zq KZ;have xx:=zq FP;clear hR kN;by_cases hbig:600<s0.size
 ·have HX:Hid (R=(dQ,3,0)):=zq (by rw[HR.out,if_pos hbig]);have e0:(600:Int)<(s0.size:Int):=ae;have hB:=Bx.new 109 ↑Zz.a w;have hE:=Ev.alloc w (.cells ↑Zz.a 109);obtain⟨w0,hw0⟩:∃w0,w.alloc (.cells ↑Zz.a 109)=w0:=⟨_,rfl⟩
  rw[hw0]at hB hE;obtain⟨⟨c0,c1,c2,c3,c4⟩,f0,f1,f2,f3,f4⟩:=hB.five;go_enter func48,ntmps48;go_wp2;(try simp only[Exit.inBlock,Exit.then]);rw[fK];refine aFe (aN rfl _ _ _ _ _ rfl (hB.pG _ _ _ _ _) underlying109 rfl Tryz.iK) rfl ?_;exact⟨ku,by rw[HX.out];rfl,by rw[HX.out];rfl,Lies.zero _ _ _,hE.box (dZ _ _ _ _ _ _ _) (aC8 _)⟩
 have qQ:Hid (R=rfGo (s0.size+1) [dQ] s0.data.toList 0):=zq (by rw[HR.out,if_neg hbig]);have e0:¬((600:Int)<(s0.size:Int)):=ae;have HI:=zq (rq.init w);clear HR;go_enter func48,ntmps48;go_wp2
 go_loopw [5,6] (λov iv wr=>∃(g q cap j f:Nat) (os:List M),ov=.slice ↑g (q+1) cap/\iv=↑j/\j<=s0.size/\s0.size-j<f/\rq w g q cap os j wr/\Hid (R=rfGo f (os.map M.t) (s0.data.toList.drop j) j)) (λ_ iv _=>s0.size-(intOf iv).toNat)
 case atStart=>exact⟨w.heap.size+1,0,1,0,s0.size+1,[ku],rfl,rfl,aDl _,ae,HI.out,qQ⟩
 case round=>
  obtain⟨g,q,cap,j,f,os,rfl,rfl,hj,hf,ST,HG⟩:=hrel;obtain⟨f,rfl⟩:∃f',f=f'+1:=⟨f-1,ae⟩
  obtain⟨a1,a2,a3,a4,a5,a6⟩:=ST.at;obtain⟨⟨c0,c1,c2,c3,c4⟩,f0,f1,f2,f3,f4⟩:=ST.box.five;have HA6:=zq a6;have HA5:=zq a5;have vU:=zq ST.len;clear a5 a6;by_cases hlt:j<s0.size
  ·have hat:=qo s0 j hlt;obtain⟨c,hc⟩:∃c,s0[j]=c:=⟨_,rfl⟩
   have adT:∀hh,s0[j]'hh=c:=λ_=>hc;rw[hc]at hat;have hdr:=kV hat;have g0:(0:Int)<=(j:Int):=ae;have g1:(j:Int)<(s0.size:Int):=ae;have jK:=HG.out;rw[hdr]at jK;unfold rfGo at jK;rw[aC_,vU.out]at jK;clear hc HG;by_cases hbl:dA c=true;rw[if_pos hbl]at jK;have oM:=zq jK;unfold dA at hbl;by_cases h32:c.toNat=32;have e32:(c.toNat:Int)=32:=ae;exact aHr;have e10:(c.toNat:Int)=10:=by simp[h32]at hbl;omega
   exact aHr;rw[if_neg hbl]at jK;have ayS:¬(c.toNat=32)/\¬(c.toNat=10):=by unfold dA at hbl;simp at hbl;omega
   have e32:¬((c.toNat:Int)=32):=ae;have ayT:((c.toNat:Int)==32)=false:=aC7.2 e32;have e10:¬((c.toNat:Int)=10):=ae;have ayU:((c.toNat:Int)==10)=false:=aC7.2 e10;by_cases h41:c.toNat=41
   ·have e41:(c.toNat:Int)=41:=ae;rw[if_pos (by simp[h41])]at jK
    cases q with
    | zero=>
     simp at jK;exact aGc
    | succ r=>
     obtain⟨os0,m,rfl⟩:=Aj os (by intro h;have:=vU.out;rw[h]at this;simp at this);obtain⟨os1,e,rfl⟩:=Aj os0 (by intro h;have:=vU.out;rw[h]at this;simp at this);have hr:os1.length=r:=by have:=vU.out;simp at this;omega
     have hpop:rfPop ((os1++[e]++[m]).map M.t)=os1.map M.t++[e.t.add m.t]:=by simp only[aDk,aDe,aDu];exact XJ _ _ _
     rw[if_neg aj,hpop]at jK;have oM:=zq jK;have hse:(os1++[e]++[m])[r]?=some e:=by rw[<-hr];simp
     have hsm:(os1++[e]++[m])[r+1]?=some m:=by rw[<-hr];simp
     obtain⟨_,_,_,hck,_⟩:=HA6.out r e hse;obtain⟨m0,m1,m2,m3,m4⟩:=HA6.out (r+1) m hsm;have hcm:∀j u,(mc m)[j]?=some u->wr.cell? ⟨g,(r+1)*5+j,none⟩=some u:=λj u hu=>by
      rcases j with _|_|_|_|_|j;injection hu with hu;subst hu;exact m0
      injection hu with hu;subst hu;exact m1
      injection hu with hu;subst hu;exact m2
      injection hu with hu;subst hu;exact m3
      injection hu with hu;subst hu;exact m4
      simp[mc]at hu
     have UY:=a2;have hfz:=HA5.out (r*5+3);have hMs:=(ST.lies e aj).ms;have hLm:=ST.lies m aj;have hek:e.kids.length<=600:=by have:=ST.kids e aj;omega
     have Ht:=zq hr;unfold M.kv at hck;generalize e.A=A1 at hck hMs;obtain⟨n1,uC⟩:∃n1,n1=e.kids.length:=⟨_,rfl⟩
     rw[<-uC]at hck hMs;generalize e.cap=cap1 at hck hMs;have rQ:=zq uC;clear hse hsm hpop jK hdr hbl m0 m1 m2 m3 m4 c0 c1 c2 c3 c4 f0 f1 f2 f3 f4 uC hr;have hwr:IntKind.i64.wrap (r:Int)=(r:Int):=IntWalk.i64_in _ ae;go_upto_region 13 with fail
     refine yx dH [3,9,10,14,15] 16 [λv _=>v=.slice ↑g (r+1+1) cap,λv _=>v=.int .i64 ((r:Int)+1),λv _=>v=↑r,kE 109 wr.heap.size,λv _=>v=.slice ↑g (r+1+1) cap,λv _=>v=.int .i64 ((r:Int)+1),λv _=>v=↑r,λv _=>v=.pointer ↑(g,r*5),λv _=>v=.pointer ↑(g,r*5+3),λv _=>v=.slice A1 n1 cap1,λv w=>Ow 109 5 mc wr.heap.size w v e.kids,λv _=>v=.slice ↑g (r+1+1) cap,λv _=>v=.int .i64 ((r:Int)+1),λv _=>v=.pointer (some ⟨g,(r+1)*5,none⟩),λv _=>v=mv m,λv w=>∃A,v=.slice A 1 1/\Sl 5 mc w A 1 1 [m],λv w=>Ow 109 5 mc wr.heap.size w v (e.kids++[m]),λv _=>v=.pointer ↑(g,r*5),λv _=>v=.pointer ↑(g,r*5+3)]
      164 rfl 19 _ rfl rfl ah ah ⟨aB _,aB _,aB _,kE.mono,aB _,aB _,aB _,aB _,aB _,aB _,λ_ _ _ hE h=>Ow.ev h hE,aB _,aB _,aB _,aB _,λ_ _ _ hE ⟨A,h1,h2⟩=>⟨A,h1,h2.ev hE⟩,λ_ _ _ hE h=>Ow.ev h hE,aB _,aB _,trivial⟩ ⟨.inr (any_eq _),.inr (any_eq _),.inr (any_eq _),.inl ah,.inr (any_eq _),.inr (any_eq _),.inr (any_eq _),.inr (any_eq _),.inr (any_eq _),.inr (any_eq _),.inl ah,.inr (any_eq _),.inr (any_eq _),.inr (any_eq _),.inr (any_eq _),.inl ah,.inl ah,.inr (any_eq _),.inr (any_eq _),trivial⟩ (Lj ?_) ?_
     ·refine bW 0 ?_ (bW 1 ?_ (bW 2 ?_ (bW 3 ?_ (bW 4 ?_ (bW 5 ?_ (bW 6 ?_ (bW 7 ?_ (bW 8 ?_ (bW 9 ?_ (bW 10 ?_ (bW 11 ?_ (bW 12 ?_ (bW 13 ?_ (bW 14 ?_ (bW 15 ?_ (bW 16 ?_ (bW 17 ?_ (bW 18 ?_ (UU 19 _ ae)))))))))))))))))));exact aIk;exact aIl
      ·refine dP ai λa w c=>⟨(ay rfl),↑r,?_,rfl⟩
       have e44:a.eval (.tmp 44)=.int .i64 ((r:Int)+1):=(c.new 1 44)
       have jS:a.eval (.const (.int .i64 1))=.int .i64 1:=rfl;generalize a.eval=ρ at e44 jS|-;simp[execOp,e44,jS,go_sem,hwr]
      exact aHQ;exact aIk;exact aIl
      ·refine dP ai λa w c=>⟨(ay rfl),↑r,?_,rfl⟩
       have e48:a.eval (.tmp 48)=.int .i64 ((r:Int)+1):=(c.new 5 48)
       have jS:a.eval (.const (.int .i64 1))=.int .i64 1:=rfl;generalize a.eval=ρ at e48 jS|-;simp[execOp,e48,jS,go_sem,hwr]
      refine dP ai λa w c=>⟨(ay rfl),_,lQ (r) rfl ((c.new 4 47):a.eval (.tmp 47)=.slice ↑g (r+1+1) cap) ((c.new 6 49)) ae w,rfl⟩
      refine dP ai λa w c=>⟨(ay rfl),_,oz rfl ((c.new 7 50):a.eval (.tmp 50)=.pointer ↑(g,r*5)) w,rfl⟩
      refine dP ai λa w c=>⟨(ay rfl),_,BH rfl ((c.new 8 51):a.eval (.tmp 51)=.pointer ↑(g,r*5+3)) ((c.ev.cell (p:=⟨_,_,none⟩) UY).trans hck),rfl⟩
      refine nC λa w c=>?_;have h0:kE 109 wr.heap.size (a.eval (.tmp 46)) w:=(c.new 3 46)
      have e1:a.eval (.tmp 52)=.slice A1 n1 cap1:=(c.new 9 52)
      exact aGI;exact aIk;exact aIl;refine dP ai λa w c=>⟨(ay rfl),_,lQ (r+1) rfl ((c.new 11 54):a.eval (.tmp 54)=.slice ↑g (r+1+1) cap) ((c.new 12 55)) ae w,rfl⟩
      refine dP ai λa w c=>⟨(ay rfl),_,BI m rfl ((c.new 13 56):a.eval (.tmp 56)=.pointer (some ⟨g,(r+1)*5,none⟩)) (λj u hu=>(c.ev.cell (p:=⟨_,_,none⟩) UY).trans (hcm j u hu)),rfl⟩
      refine nC λa w c=>⟨(ay rfl),_,_,BG m rfl ((c.new 14 57):a.eval (.tmp 57)=mv m) w,by unfold ou;rw[if_neg ai];exact Ev.alloc _ _,_,rfl,Sl.one jU w m _ rfl⟩
      refine nC λa w c=>?_;have h0:Ow 109 5 mc wr.heap.size w (a.eval (.tmp 53)) e.kids:=(c.new 10 53)
      obtain⟨A2,e1,hS⟩:=((c.new 15 58):∃A,a.eval (.tmp 58)=.slice A 1 1/\Sl 5 mc w A 1 1 [m])
      exact aGb;refine dP ai λa w c=>⟨(ay rfl),_,lQ (r) rfl ((c.new 0 43):a.eval (.tmp 43)=.slice ↑g (r+1+1) cap) ((c.new 2 45)) ae w,rfl⟩
      refine dP ai λa w c=>⟨(ay rfl),_,oz rfl ((c.new 17 60):a.eval (.tmp 60)=.pointer ↑(g,r*5)) w,rfl⟩
     intro s w5 hE hold hnew;have f0:s 0=.string s0:=hold 0;have f1:_=undef:=hold 1;have f2:s 2=.pointer ↑w:=hold 2;have f5:s 5=.slice ↑g (r+1+1) cap:=hold 5;have f6:s 6=↑j:=hold 6;have f8:s 8=.int .i64 ((r:Int)+1):=hold 8;have f13:s 13=.string s0:=hold 13;have f14:s 14=↑s0.size:=hold 14;have f15:s 15=.bool false:=hold 15;have f16:_=undef:=hold 16;have f17:s 17=.agg ↑Zz.a:=hold 17;have f18:s 18=.slice (some ⟨w.heap.size+1,0,none⟩) 1 1:=hold 18;have f144:_=undef:=hold 144;have f145:_=undef:=hold 145;have f146:_=undef:=hold 146;have f147:_=undef:=hold 147;have f148:_=undef:=hold 148;have f149:_=undef:=hold 149;have f150:_=undef:=hold 150;have f151:_=undef:=hold 151;have f152:_=undef:=hold 152;have f153:_=undef:=hold 153;have f154:_=undef:=hold 154;have f155:_=undef:=hold 155;have f156:_=undef:=hold 156;have f157:_=undef:=hold 157;have f158:_=undef:=hold 158;have f159:_=undef:=hold 159;have f160:_=undef:=hold 160;have f161:_=undef:=hold 161;have f162:_=undef:=hold 162;have f163:_=undef:=hold 163;have f61:s 61=.pointer ↑(g,r*5+3):=hnew 18 61 ae ah ah;have hOW:Ow 109 5 mc wr.heap.size w5 (s 59) (e.kids++[m]):=hnew 16 59 ae ah ah;obtain⟨A2,cap2,f59,_,_⟩:=hOW.form jU;obtain⟨nn,qX⟩:∃nn,nn=(e.kids++[m]).length:=⟨_,rfl⟩
     rw[<-qX]at f59;rw[f59]at hOW;have xy:=zq qX;clear qX;have hcl:=(hE.cell (p:=⟨g,r*5+3,none⟩) UY).trans hck;have hfz:=(hE.frozen (p:=⟨g,r*5+3,none⟩) UY).trans hfz;refine⟨ay rfl,sO (w':=w5.setCell ⟨g,r*5+3,none⟩ (.slice A2 nn cap2)) ?_ ?_⟩
     ·change (execOp (Act.eval ⟨#[s 0,s 1,s 2,s 3,s 4,s 5,s 6,s 7,s 8,s 9,s 10,s 11,s 12,s 13,s 14,s 15,s 16,s 17,s 18,s 19,s 20,s 21,s 22,s 23,s 24,s 25,s 26,s 27,s 28,s 29,s 30,s 31,s 32,s 33,s 34,s 35,s 36,s 37,s 38,s 39,s 40,s 41,s 42,s 43,s 44,s 45,s 46,s 47,s 48,s 49,s 50,s 51,s 52,s 53,s 54,s 55,s 56,s 57,s 58,s 59,s 60,s 61,s 62,s 63,s 64,s 65,s 66,s 67,s 68,s 69,s 70,s 71,s 72,s 73,s 74,s 75,s 76,s 77,s 78,s 79,s 80,s 81,s 82,s 83,s 84,s 85,s 86,s 87,s 88,s 89,s 90,s 91,s 92,s 93,s 94,s 95,s 96,s 97,s 98,s 99,s 100,s 101,s 102,s 103,s 104,s 105,s 106,s 107,s 108,s 109,s 110,s 111,s 112,s 113,s 114,s 115,s 116,s 117,s 118,s 119,s 120,s 121,s 122,s 123,s 124,s 125,s 126,s 127,s 128,s 129,s 130,s 131,s 132,s 133,s 134,s 135,s 136,s 137,s 138,s 139,s 140,s 141,s 142,s 143,s 144,s 145,s 146,s 147,s 148,s 149,s 150,s 151,s 152,s 153,s 154,s 155,s 156,s 157,s 158,s 159,s 160,s 161,s 162,s 163],_⟩) ⟨none,.store 107 (.tmp 61) (.tmp 59),_,_,_,_⟩).run _ _=_;simp[execOp,f61,f59,go_sem,hcl,hfz]
     change Exit.then _ _ .normal ⟨_,_⟩ _;simp only[List.range,List.range.loop,List.map];simp only[f0,f1,f2,f5,f6,f8,f13,f14,f15,f16,f17,f18,f144,f145,f146,f147,f148,f149,f150,f151,f152,f153,f154,f155,f156,f157,f158,f159,f160,f161,f162,f163,f61,f59];generalize s 46=akY,s 52=akZ,s 53=ak0,s 57=ak1,s 58=ak2;clear hold hnew;generalize s 3=u3,s 4=u4,s 7=u7,s 9=u9,s 10=u10,s 11=u11,s 12=u12,s 19=u19,s 20=u20,s 21=u21,s 22=u22,s 23=u23,s 24=u24,s 25=u25,s 26=u26,s 27=u27,s 28=u28,s 29=u29,s 30=u30,s 31=u31,s 32=u32,s 33=u33,s 34=u34,s 35=u35,s 36=u36,s 37=u37,s 38=u38,s 39=u39,s 40=u40,s 41=u41,s 42=u42,s 62=u62,s 63=u63,s 64=u64,s 65=u65,s 66=u66,s 67=u67,s 68=u68,s 69=u69,s 70=u70,s 71=u71,s 72=u72,s 73=u73,s 74=u74,s 75=u75,s 76=u76,s 77=u77,s 78=u78,s 79=u79,s 80=u80,s 81=u81,s 82=u82,s 83=u83,s 84=u84,s 85=u85,s 86=u86,s 87=u87,s 88=u88,s 89=u89,s 90=u90,s 91=u91,s 92=u92,s 93=u93,s 94=u94,s 95=u95,s 96=u96,s 97=u97,s 98=u98,s 99=u99,s 100=u100,s 101=u101,s 102=u102,s 103=u103,s 104=u104,s 105=u105,s 106=u106,s 107=u107,s 108=u108,s 109=u109,s 110=u110,s 111=u111
     generalize s 112=u112,s 113=u113,s 114=u114,s 115=u115,s 116=u116,s 117=u117,s 118=u118,s 119=u119,s 120=u120,s 121=u121,s 122=u122,s 123=u123,s 124=u124,s 125=u125,s 126=u126,s 127=u127,s 128=u128,s 129=u129,s 130=u130,s 131=u131,s 132=u132,s 133=u133,s 134=u134,s 135=u135,s 136=u136,s 137=u137,s 138=u138,s 139=u139,s 140=u140,s 141=u141,s 142=u142,s 143=u143;have ST':rq w g (r+1) cap (os1++e::[m]) j wr:=by rw[show os1++e::[m]=os1++[e]++[m] by simp];exact ST
     obtain⟨e',he',ST2⟩:=ST'.ajD hE hOW (hLm.ev hE) (Nat.lt_succ_self j);rw[Ht.out]at ST2;have ST3:=rq.pop (os:=os1++[e']) (e:=m) (q:=r) (by rw[show os1++[e']++[m]=os1++e'::[m] by simp];exact ST2);have i1:(0:Int)<=(r:Int)+1:=ae;have i2:(r:Int)+1<=(cap:Int):=ae;have wQ:Hid (R=rfGo f ((os1++[e']).map M.t) (s0.data.toList.drop (j+1)) (j+1)):=zq (by rw[oM.out];simp[he']);clear oM Ht rQ hOW;go_wp2
     go_round
     case rel=>exact⟨g,r,cap,j+1,f,os1++[e'],rfl,by go_num,ae,ae,ST3,wQ⟩
     case measure=>simp[intOf];omega
   rw[if_neg (by simp[h41])]at jK;have e41:¬((c.toNat:Int)=41):=ae;have ayX:((c.toNat:Int)==41)=false:=aC7.2 e41;go_upto_region 16 with fail
   go_cut [86] (λv wx=>v=.bool (!fZ c)/\wr=wx)
   case first=>
    have awf:∀b:Bool,fZ c=b->fZ c=b:=λ_ h=>h;by_cases IU:c.toNat=40;have e40:(c.toNat:Int)=40:=ae;have hst:fZ c=true:=by simp[fZ,IU]
    exact aIb;have e40:¬((c.toNat:Int)=40):=ae;have att:((c.toNat:Int)==40)=false:=aC7.2 e40;by_cases KP:c.toNat=34;have e34:(c.toNat:Int)=34:=ae;have hst:fZ c=true:=by simp[fZ,KP]
    exact aIb;have e34:¬((c.toNat:Int)=34):=ae;have aoc:((c.toNat:Int)==34)=false:=aC7.2 e34;by_cases h45:c.toNat=45;have e45:(c.toNat:Int)=45:=ae;have hst:fZ c=true:=by simp[fZ,h45]
    exact aIb;have e45:¬((c.toNat:Int)=45):=ae;have ayY:((c.toNat:Int)==45)=false:=aC7.2 e45;have HC:=xx.out c;have HD:=HDG.out c
    cases hl:bC c with
    | true=>
     rw[hl]at HC;have HC:=zq HC;have hst:fZ c=true:=by simp[fZ,hl]
     go_wp2_with (first|((with_reducible refine(HC.out _).mono ?_);rintro x w1 ⟨rfl,rfl⟩))
     exact aIm
    | false=>
     rw[hl]at HC;have HC:=zq HC
     cases hd:aY c with
     | true=>
      rw[hd]at HD;have HD:=zq HD;have hst:fZ c=true:=by simp[fZ,hd]
      exact aGB
     | false=>
      rw[hd]at HD;have HD:=zq HD;have hst:fZ c=false:=by simp[fZ,hl,hd,IU,KP,h45]
      have n40:((c.toNat:Int) !=40)=true:=by simp;omega
      have n34:((c.toNat:Int) !=34)=true:=by simp;omega
      have n45:((c.toNat:Int) !=45)=true:=by simp;omega
      exact aGB
   case rest=>
    obtain⟨hcv,rfl⟩:=hcut;subst hcv
    cases hst:fZ c with
    | false=>
     rw[hst]at jK;simp at jK;have HX:=zq jK;clear jK hdr hbl;simp only[Bool.not_false];exact aGr
    | true=>
     rw[hst]at jK;simp only[Bool.not_true,aDq,aDU]at jK;simp only[Bool.not_true];go_upto_region 18 with fail
     go_cut [98] (λv wx=>v=.bool (q==0&&sxDone (os.map M.t))/\wr=wx)
     case first=>
      cases q with
      | succ r=>
       go_wp2_with fail
       go_meet
       exact⟨rfl,rfl⟩
      | zero=>
       obtain⟨e,rfl⟩:∃e,os=[e]:=List.length_eq_one_iff.1 vU.out;obtain⟨_,_,_,d3,_⟩:=HA6.out 0 e rfl;simp only[aDH,aDt]at d3;have hsd:sxDone ([e].map M.t)=decide (0<e.kids.length):=XK;unfold M.kv at d3;generalize e.kids.length=n1 at*;by_cases h0:0<n1
       ·have i1:(0:Int)<(n1:Int):=ae
        go_wp2_with fail
        go_meet
        exact⟨by rw[hsd,aDE h0];first|rfl|simp[i1],rfl⟩
       have i1:¬((0:Int)<(n1:Int)):=ae
       go_wp2_with fail
       go_meet
       exact⟨by rw[hsd,aDB h0];first|rfl|simp[i1],rfl⟩
     case rest=>
      obtain⟨hcv,rfl⟩:=hcut;subst hcv;have BU:(q+1==1)=(q==0):=by cases q<;>simp
      rw[BU]at jK
      cases UQ:(q==0&&sxDone (os.map M.t)) with
      | true=>
       rw[UQ,if_pos rfl]at jK;exact aGc
      | false=>
       rw[UQ]at jK;simp only[aDq,aDU]at jK;by_cases IU:c.toNat=40
       ·have e40:(c.toNat:Int)=40:=ae;rw[if_pos (by simp[IU])]at jK;by_cases hdp:12<=q;rw[if_pos ae]at jK;have HX:=zq jK;have i1:(12:Int)<=(q:Int):=ae;exact aGe;rw[if_neg ae]at jK;have oM:=zq jK;have i1:¬((12:Int)<=(q:Int)):=ae;obtain⟨_,ayZ,hvS,hMS,_⟩:=ST.own.form jU;injection hvS with BR hv2 hv3
        subst BR hv3;rw[vU.out]at hMS;have Px:=zq hMS;have hos:os.length<=700:=by have:=vU.out;omega
        clear jK hdr hbl hv2 hMS
        go_wp2_with (first
         | ((show wpList _ _ _ (⟨some 109,_,_,_,_,_⟩::_) _ _);refine uJ (o:=⟨some 109,_,_,_,_,_⟩) rfl 107 (.tmp 107) (.tmp 108) rfl jU underlying107 Tryz.rV rfl rfl (kE.new (aC8 _)) ↑g (q+1) cap os rfl (Px.out.ev aC) ae ae aj ?_;intro v1 w1 ho1 aJ;have E1:=zq ((Ev.alloc wr _).trans aJ);have O1:=zq ho1)
         | ((show wpList _ _ _ (⟨some 113,_,_,_,_,_⟩::_) _ _);refine aQ (o:=⟨some 113,_,_,_,_,_⟩) rfl 107 (.tmp 109) (.tmp 112) rfl jU underlying107 Tryz.rV rfl rfl (O1.out.ev aC) ↑w1 1 1 [mJ 1 [] 0 j] rfl (Sl.one jU w1 (mJ 1 [] 0 j) _ rfl) (by simp;omega) (by simp;omega) (aDr E1.out.size (Ev.alloc w1 _).size) ?_;intro v2 w2 iq;have E2:Ev wr w2:=((But.aU (E1.out.trans (Ev.alloc w1 _))).then iq.2.1).ev (λk hk=>(O1.out.lt (aG.1 hk)).1);obtain⟨g',cap',rfl,ST2⟩:=ST.push E2 iq.1 (λw K=>Lies.tok _ _ _ _ _ _ _) rfl (Nat.lt_succ_self j)))
        go_round
        case rel=>exact⟨g',q+1,cap',j+1,f,os++[mJ 1 [] 0 j],rfl,by go_num,ae,ae,ST2,zq (by rw[oM.out];simp[mJ,M.yE,M.kind,M.s,M.n,M.kids,M.pos])⟩
        case measure=>simp[intOf];omega
       rw[if_neg (by simp[IU])]at jK;have e40:¬((c.toNat:Int)=40):=ae;have att:((c.toNat:Int)==40)=false:=aC7.2 e40;have hk:c.toNat=34∨c.toNat=45∨bC c=true∨aY c=true:=by unfold fZ at hst;simp only[aDC,aDn]at hst;rcases hst with (((h|h)|h)|h)|h;exact absurd h IU;exact .inl h;exact .inr (.inl h);exact .inr (.inr (.inl h));exact .inr (.inr (.inr h))
       have zf:=λw1=>ahz s0 w1 hs j hlt c hat hk;rw[hdr]at zf;have wO:=(vV c (s0.data.toList.drop (j+1))).good;obtain⟨X,hX⟩:∃X,X=bJ (c::s0.data.toList.drop (j+1)):=⟨_,rfl⟩
       rw[<-hX]at zf wO jK;have xw:(c::s0.data.toList.drop (j+1)).length=s0.size-j:=by rw[<-hdr,aDD,HL.out]
       rw[xw]at wO;rw[<-hdr,aEP]at jK;clear hX xw;by_cases hw:X.why=0
       ·rw[if_pos (by rw[hw];rfl)]at jK;have oM:=zq jK;obtain⟨hz1,hz2,_⟩:=wO hw;have XL:Hid (∀w1:ak,Calls ax 91 #[.string s0,↑j] w1 λx w'=>∃wh:Int,x=.returned (.tuple #[.agg #[↑X.kind,↑X.s,↑X.n,↑(),↑j],.int .i64 ((j+X.size:Nat):Int),.int .i64 0,↑wh])/\Ev w1 w'):=zq λw1=>(zf w1).mono (by
         rintro x w' ⟨k,n,p,en,wh,sb,rfl,hgd,_,hE⟩;obtain⟨rfl,rfl,rfl,rfl,rfl⟩:=hgd hw;exact⟨wh,by rw[hw],hE⟩)
        have HZ1:=zq hz1;have HZ2:=zq hz2;clear jK hdr hbl zf wO hk hat hz1 hz2 hw c0 c1 c2 c3 c4 f0 f1 f2 f3 f4;go_upto_region 26 with (first
         | ((with_reducible refine(XL.out _).mono ?_);rintro x w1 ⟨wh,rfl,aJ⟩;have jE:=zq aJ;obtain⟨w6,hw6⟩:∃w6,w6=w1.alloc (.cells #[↑X.kind,↑X.s,↑X.n,↑(),↑j] 109):=⟨_,rfl⟩;have HW6:=zq hw6;clear hw6 aJ))
        rw[<-HW6.out];have aec:Ev w1 w6:=HW6.out▸Ev.alloc w1 _;have uK:=jE.out.trans aec;have Jo:Bx 109 w1.heap.size #[↑X.kind,↑X.s,↑X.n,↑(),↑j] w6:=HW6.out▸Bx.new 109 _ w1;clear HW6 jE aec;generalize w1.heap.size=gl at*;have ST6:=ST.evs uK;obtain⟨_,UY,_,_,aom,hc6⟩:=ST6.at;obtain⟨os1,e,rfl⟩:=Aj os (by intro h;have:=vU.out;rw[h]at this;simp at this);have hr:os1.length=q:=by have:=vU.out;simp at this;omega
        have hse:(os1++[e])[q]?=some e:=by rw[<-hr];simp
        obtain⟨_,_,_,hck,_⟩:=hc6 q e hse;have hfz:=aom (q*5+3);have aon:=Jo.lt;obtain⟨m,hm⟩:∃m,m=mJ X.kind X.s X.n j:=⟨_,rfl⟩
        have hcm:∀j u,(mc m)[j]?=some u->w6.cell? ⟨gl,0+j,none⟩=some u:=λj' u hu=>by rw[Jo.cell,aDt];rw[hm]at hu;simpa[mc,mJ,M.kind,M.s,M.n,M.kv,M.A,M.kids,M.cap,M.pos] using hu
        have hMs:=(ST6.lies e aj).ms;have hLm:Lies (w.heap.size+1) [g] w6 m:=hm▸Lies.tok _ _ _ _ _ _ _;have hmt:m.t=X.tree j:=by rw[hm];simp[mJ,M.t,M.ts,Tk.tree]
        have hek:e.kids.length<=600:=by have:=ST6.kids e aj;omega
        have Ht:=zq hr;unfold M.kv at hck;generalize e.A=A1 at hck hMs;obtain⟨n1,uC⟩:∃n1,n1=e.kids.length:=⟨_,rfl⟩
        rw[<-uC]at hck hMs;generalize e.cap=cap1 at hck hMs;have rQ:=zq uC;have wQ:Hid (R=rfGo f (os1.map M.t++[e.t.add m.t]) (s0.data.toList.drop (j+X.size)) (j+X.size)):=zq (by rw[oM.out,hmt,aDk];exact aD8 (λy=>rfGo f y _ _) (mX _ _ _));clear hse uC hr hm hmt hc6 aom Jo oM;go_upto_region 28 with fail
        refine yx dH [2,7,8,9,10] 11 [λv _=>v=.slice ↑g (q+1) cap,λv _=>v=↑q,kE 109 w6.heap.size,λv _=>v=.slice ↑g (q+1) cap,λv _=>v=↑q,λv _=>v=.pointer ↑(g,q*5),λv _=>v=.pointer ↑(g,q*5+3),λv _=>v=.slice A1 n1 cap1,λv w=>Ow 109 5 mc w6.heap.size w v e.kids,λv _=>v=mv m,λv w=>∃A,v=.slice A 1 1/\Sl 5 mc w A 1 1 [m],λv w=>Ow 109 5 mc w6.heap.size w v (e.kids++[m]),λv _=>v=.pointer ↑(g,q*5),λv _=>v=.pointer ↑(g,q*5+3)]
         164 rfl 14 _ rfl rfl ah ah ⟨aB _,aB _,kE.mono,aB _,aB _,aB _,aB _,aB _,λ_ _ _ hE h=>Ow.ev h hE,aB _,λ_ _ _ hE ⟨A,h1,h2⟩=>⟨A,h1,h2.ev hE⟩,λ_ _ _ hE h=>Ow.ev h hE,aB _,aB _,trivial⟩ ⟨.inr (any_eq _),.inr (any_eq _),.inl ah,.inr (any_eq _),.inr (any_eq _),.inr (any_eq _),.inr (any_eq _),.inr (any_eq _),.inl ah,.inr (any_eq _),.inl ah,.inl ah,.inr (any_eq _),.inr (any_eq _),trivial⟩ (Lj ?_) ?_
        refine bW 0 ?_ (bW 1 ?_ (bW 2 ?_ (bW 3 ?_ (bW 4 ?_ (bW 5 ?_ (bW 6 ?_ (bW 7 ?_ (bW 8 ?_ (bW 9 ?_ (bW 10 ?_ (bW 11 ?_ (bW 12 ?_ (bW 13 ?_ (UU 14 _ ae))))))))))))));exact aIk;exact aIl;exact aHQ;exact aIk;exact aIl;refine dP ai λa w c=>⟨(ay rfl),_,lQ (q) rfl ((c.new 3 132):a.eval (.tmp 132)=.slice ↑g (q+1) cap) ((c.new 4 133)) ae w,rfl⟩
        refine dP ai λa w c=>⟨(ay rfl),_,oz rfl ((c.new 5 134):a.eval (.tmp 134)=.pointer ↑(g,q*5)) w,rfl⟩
        refine dP ai λa w c=>⟨(ay rfl),_,BH rfl ((c.new 6 135):a.eval (.tmp 135)=.pointer ↑(g,q*5+3)) ((c.ev.cell (p:=⟨_,_,none⟩) UY).trans hck),rfl⟩
        refine nC λa w c=>?_;have h0:kE 109 w6.heap.size (a.eval (.tmp 131)) w:=(c.new 2 131)
        have e1:a.eval (.tmp 136)=.slice A1 n1 cap1:=(c.new 7 136)
        exact aGI;refine dP ai λa w c=>⟨(ay rfl),_,BI m rfl (c.was 9 rfl:a.eval (.tmp 9)=.pointer ↑gl) (λj u hu=>(c.ev.cell (p:=⟨_,_,none⟩) aon).trans (hcm j u hu)),rfl⟩
        refine nC λa w c=>⟨(ay rfl),_,_,BG m rfl ((c.new 9 138):a.eval (.tmp 138)=mv m) w,by unfold ou;rw[if_neg ai];exact Ev.alloc _ _,_,rfl,Sl.one jU w m _ rfl⟩
        refine nC λa w c=>?_;have h0:Ow 109 5 mc w6.heap.size w (a.eval (.tmp 137)) e.kids:=(c.new 8 137)
        obtain⟨A2,e1,hS⟩:=((c.new 10 139):∃A,a.eval (.tmp 139)=.slice A 1 1/\Sl 5 mc w A 1 1 [m])
        exact aGb;refine dP ai λa w c=>⟨(ay rfl),_,lQ (q) rfl ((c.new 0 129):a.eval (.tmp 129)=.slice ↑g (q+1) cap) ((c.new 1 130)) ae w,rfl⟩
        refine dP ai λa w c=>⟨(ay rfl),_,oz rfl ((c.new 12 141):a.eval (.tmp 141)=.pointer ↑(g,q*5)) w,rfl⟩
        intro s w5 hE hold hnew;have f0:s 0=.string s0:=hold 0;have f1:_=undef:=hold 1;have f2:s 2=.pointer ↑w:=hold 2;have f5:s 5=.slice ↑g (q+1) cap:=hold 5;have f6:s 6=↑j:=hold 6;have f8:s 8=↑q:=hold 8;have f9:s 9=.pointer ↑gl:=hold 9;have f10:s 10=.int .i64 ((j+X.size:Nat):Int):=hold 10;have f13:s 13=.string s0:=hold 13;have f14:s 14=↑s0.size:=hold 14;have f15:s 15=.bool false:=hold 15;have f16:_=undef:=hold 16;have f17:s 17=.agg ↑Zz.a:=hold 17;have f18:s 18=.slice (some ⟨w.heap.size+1,0,none⟩) 1 1:=hold 18;have f144:_=undef:=hold 144;have f145:_=undef:=hold 145;have f146:_=undef:=hold 146;have f147:_=undef:=hold 147;have f148:_=undef:=hold 148;have f149:_=undef:=hold 149;have f150:_=undef:=hold 150;have f151:_=undef:=hold 151;have f152:_=undef:=hold 152;have f153:_=undef:=hold 153;have f154:_=undef:=hold 154;have f155:_=undef:=hold 155;have f156:_=undef:=hold 156;have f157:_=undef:=hold 157;have f158:_=undef:=hold 158;have f159:_=undef:=hold 159;have f160:_=undef:=hold 160;have f161:_=undef:=hold 161;have f162:_=undef:=hold 162;have f163:_=undef:=hold 163;have f142:s 142=.pointer ↑(g,q*5+3):=hnew 13 142 ae ah ah;have hOW:Ow 109 5 mc w6.heap.size w5 (s 140) (e.kids++[m]):=hnew 11 140 ae ah ah;obtain⟨A2,cap2,f140,_,_⟩:=hOW.form jU;obtain⟨nn,qX⟩:∃nn,nn=(e.kids++[m]).length:=⟨_,rfl⟩
        rw[<-qX]at f140;rw[f140]at hOW;have xy:=zq qX;clear qX;have hcl:=(hE.cell (p:=⟨g,q*5+3,none⟩) UY).trans hck;have hfz:=(hE.frozen (p:=⟨g,q*5+3,none⟩) UY).trans hfz;refine⟨ay rfl,sO (w':=w5.setCell ⟨g,q*5+3,none⟩ (.slice A2 nn cap2)) ?_ ?_⟩
        ·change (execOp (Act.eval ⟨#[s 0,s 1,s 2,s 3,s 4,s 5,s 6,s 7,s 8,s 9,s 10,s 11,s 12,s 13,s 14,s 15,s 16,s 17,s 18,s 19,s 20,s 21,s 22,s 23,s 24,s 25,s 26,s 27,s 28,s 29,s 30,s 31,s 32,s 33,s 34,s 35,s 36,s 37,s 38,s 39,s 40,s 41,s 42,s 43,s 44,s 45,s 46,s 47,s 48,s 49,s 50,s 51,s 52,s 53,s 54,s 55,s 56,s 57,s 58,s 59,s 60,s 61,s 62,s 63,s 64,s 65,s 66,s 67,s 68,s 69,s 70,s 71,s 72,s 73,s 74,s 75,s 76,s 77,s 78,s 79,s 80,s 81,s 82,s 83,s 84,s 85,s 86,s 87,s 88,s 89,s 90,s 91,s 92,s 93,s 94,s 95,s 96,s 97,s 98,s 99,s 100,s 101,s 102,s 103,s 104,s 105,s 106,s 107,s 108,s 109,s 110,s 111,s 112,s 113,s 114,s 115,s 116,s 117,s 118,s 119,s 120,s 121,s 122,s 123,s 124,s 125,s 126,s 127,s 128,s 129,s 130,s 131,s 132,s 133,s 134,s 135,s 136,s 137,s 138,s 139,s 140,s 141,s 142,s 143,s 144,s 145,s 146,s 147,s 148,s 149,s 150,s 151,s 152,s 153,s 154,s 155,s 156,s 157,s 158,s 159,s 160,s 161,s 162,s 163],_⟩) ⟨none,.store 107 (.tmp 142) (.tmp 140),_,_,_,_⟩).run _ _=_;simp[execOp,f142,f140,go_sem,hcl,hfz]
        change Exit.then _ _ .normal ⟨_,_⟩ _;simp only[List.range,List.range.loop,List.map];simp only[f0,f1,f2,f5,f6,f8,f9,f10,f13,f14,f15,f16,f17,f18,f144,f145,f146,f147,f148,f149,f150,f151,f152,f153,f154,f155,f156,f157,f158,f159,f160,f161,f162,f163,f142,f140];generalize s 131=awi,s 136=awj,s 137=awk,s 138=awl,s 139=awm;clear hold hnew;generalize s 3=u3,s 4=u4,s 7=u7,s 11=u11,s 12=u12,s 19=u19,s 20=u20,s 21=u21,s 22=u22,s 23=u23,s 24=u24,s 25=u25,s 26=u26,s 27=u27,s 28=u28,s 29=u29,s 30=u30,s 31=u31,s 32=u32,s 33=u33,s 34=u34,s 35=u35,s 36=u36,s 37=u37,s 38=u38,s 39=u39,s 40=u40,s 41=u41,s 42=u42,s 43=u43,s 44=u44,s 45=u45,s 46=u46,s 47=u47,s 48=u48,s 49=u49,s 50=u50,s 51=u51,s 52=u52,s 53=u53,s 54=u54,s 55=u55,s 56=u56,s 57=u57,s 58=u58,s 59=u59,s 60=u60,s 61=u61,s 62=u62,s 63=u63,s 64=u64,s 65=u65,s 66=u66,s 67=u67,s 68=u68,s 69=u69,s 70=u70,s 71=u71,s 72=u72,s 73=u73,s 74=u74,s 75=u75,s 76=u76,s 77=u77,s 78=u78,s 79=u79,s 80=u80,s 81=u81,s 82=u82,s 83=u83,s 84=u84,s 85=u85,s 86=u86,s 87=u87,s 88=u88,s 89=u89,s 90=u90,s 91=u91,s 92=u92,s 93=u93,s 94=u94
        generalize s 95=u95,s 96=u96,s 97=u97,s 98=u98,s 99=u99,s 100=u100,s 101=u101,s 102=u102,s 103=u103,s 104=u104,s 105=u105,s 106=u106,s 107=u107,s 108=u108,s 109=u109,s 110=u110,s 111=u111,s 112=u112,s 113=u113,s 114=u114,s 115=u115,s 116=u116,s 117=u117,s 118=u118,s 119=u119,s 120=u120,s 121=u121,s 122=u122,s 123=u123,s 124=u124,s 125=u125,s 126=u126,s 127=u127,s 128=u128,s 143=u143;have ST':rq w g q cap (os1++e::[]) j w6:=ST6;have hjz:j<j+X.size:=by have:=HZ1.out;omega
        obtain⟨e',he',ST2⟩:=ST'.ajD hE hOW (hLm.ev hE) hjz;rw[Ht.out]at ST2;have QY:Hid (R=rfGo f ((os1++[e']).map M.t) (s0.data.toList.drop (j+X.size)) (j+X.size)):=zq (by rw[wQ.out];simp[he']);have hz1:=HZ1.out;have hz2:=HZ2.out;clear wQ Ht rQ hOW;go_wp2
        go_round
        case rel=>exact⟨g,q,cap,j+X.size,f,os1++[e'],rfl,by go_num,ae,ae,ST2,QY⟩
        case measure=>simp[intOf];omega
       rw[if_neg (by simp;exact hw)]at jK;have HX:=zq jK;have XL:Hid (∀w1:ak,Calls ax 91 #[.string s0,↑j] w1 λx w'=>∃(k n p en:Int) (sb:ByteArray),x=.returned (.tuple #[.agg #[↑k,.string sb,↑n,↑(),↑p],↑en,↑X.why,.int .i64 ((j+X.fault:Nat):Int)])/\Ev w1 w'):=zq λw1=>(zf w1).mono (by
        rintro x w' ⟨k,n,p,en,wh,sb,rfl,_,hbd,hE⟩;obtain rfl:=hbd hw;exact⟨k,n,p,en,sb,rfl,hE⟩)
       have ZF:(X.why !=0)=true:=by simp[hw]
       clear jK hdr hbl zf wO hk hat c0 c1 c2 c3 c4 f0 f1 f2 f3 f4;go_upto_region 26 with (first
        | ((with_reducible refine(XL.out _).mono ?_);rintro x w1 ⟨k,n,p,en,sb,rfl,aJ⟩;have jE:=zq aJ;obtain⟨w6,hw6⟩:∃w6,w6=w1.alloc (.cells #[↑k,.string sb,↑n,↑(),↑p] 109):=⟨_,rfl⟩;have HW6:=zq hw6;clear hw6 aJ))
       rw[<-HW6.out];have aec:Ev w1 w6:=HW6.out▸Ev.alloc w1 _;have ST6:=ST.evs (jE.out.trans aec);obtain⟨⟨c0,c1,c2,c3,c4⟩,f0,f1,f2,f3,f4⟩:=ST6.box.five;clear HW6 jE aec;go_wp2;(try simp only[Exit.inBlock,Exit.then]);rw[fK];refine aFe (aN rfl _ _ _ _ _ rfl (ST6.box.pG _ _ _ _ _) underlying109 rfl Tryz.iK) rfl ?_;exact⟨ku,by rw[HX.out];rfl,by rw[HX.out];rfl,Lies.zero _ _ _,ST6.ev.box (dZ _ _ _ _ _ _ _) (aC8 _)⟩
  have hjs:j=s0.size:=ae;have jK:=HG.out;rw[aDO (by rw[HL.out];omega)]at jK;unfold rfGo Jn at jK;rw[aC_,vU.out]at jK;have g1:¬((j:Int)<(s0.size:Int)):=ae;clear HG
  cases q with
  | succ r=>
   rw[if_pos ae]at jK;have HX:Hid (R=(dQ,10,s0.size)):=zq (by rw[jK,hjs]);clear jK hjs;have i1:(1:Int)<(r:Int)+1+1:=ae;exact aGr
  | zero=>
   rw[if_neg ae]at jK;obtain⟨e,rfl⟩:∃e,os=[e]:=List.length_eq_one_iff.1 vU.out;obtain⟨_,_,_,d3,_⟩:=HA6.out 0 e rfl;simp only[aDH,aDt]at d3;have fU:=(ST.lies e aj).ms;have KF:=(ST.lies e aj).kid;simp only[aDe,aDu,jX]at jK;rw[M.dO]at jK;unfold M.kv at d3;obtain⟨n1,uC⟩:∃n1,n1=e.kids.length:=⟨_,rfl⟩
   rw[<-uC]at d3 fU
   cases Kr:e.kids with
   | nil=>
    rw[Kr]at jK uC;simp at uC;subst uC;have HX:Hid (R=(dQ,10,s0.size)):=zq (by rw[jK,<-hjs];rfl);clear jK hjs;exact aGr
   | cons m l=>
    rw[Kr]at jK uC fU KF;simp at uC;have hm0:(m::l)[0]?=some m:=rfl;obtain⟨b,off,hA,hbl,k0,k1,k2,k3,k4⟩:=fU.cell hm0;simp only[aDH,aDw]at k0 k1 k2 k3 k4;rw[hA]at d3;have HX:Hid (R=(m.t,0,0)):=zq (by rw[jK];rfl);have atv:¬((n1:Int)=0):=ae;have ay2:((n1:Int)==0)=false:=aC7.2 atv;have ay3:(0:Int)<(n1:Int):=ae;have hLm:=KF m aj;unfold M.kv at k3;clear jK hjs uC KF;go_wp2;(try simp only[Exit.inBlock,Exit.then]);rw[fK];refine aFe (aN rfl _ _ _ _ _ rfl (ST.box.pG _ _ _ _ _) underlying109 rfl Tryz.iK) rfl ?_;exact⟨m,by rw[HX.out];rfl,by rw[HX.out],((hLm.less (K':=[w.heap.size]) (λx hx=>by simp at hx;exact .inr (.inl ae))).move (dZ _ _ _ _ _ _ _) (K':=[]) (λx hx=>by cases hx)).low (aD3 _),ST.ev.box (dZ _ _ _ _ _ _ _) (aC8 _)⟩
end Go.Proofs.YtbgmhhfjkkfhpaaGreatDoor
