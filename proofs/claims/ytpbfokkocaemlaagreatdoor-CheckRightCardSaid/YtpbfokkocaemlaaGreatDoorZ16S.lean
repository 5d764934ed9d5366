import Derived.Deep.DeepCutAuto
import Derived.Test.YtpbfokkocaemlaaGreatDoorZ15S
set_option linter.unusedVariables false
set_option maxRecDepth 100000
set_option maxHeartbeats 64000000
namespace Go.Proofs.YtpbfokkocaemlaaGreatDoor
open Go.RowKit
open Go.Lib renaming hid → zq
theorem dV (a b:By):(⟨a.toArray⟩:ByteArray)++⟨b.toArray⟩=⟨(a++b).toArray⟩:=by apply toList_inj;simp[Lib.toList_data]
theorem cZ (l:By):(⟨l.toArray⟩:ByteArray).size=l.length:=rfl
theorem aw_ {P:Prop} (h:P:=by
 clear jy hdr;go_wp2
 go_round
 case rel=>exact⟨g,q,cap,j+1,f,os,rfl,by go_num,by omega,by omega,ST.wider (by omega),tX⟩
 case measure=>simp[intOf];omega):P:=h
theorem awt {P:Prop} (h:P:=by go_wp2;(try simp only[Exit.inBlock,Exit.then]);rw[bW];refine bodyPost_ret (aF rfl _ _ _ _ _ rfl (ST.box.jO _ _ _ _ _) Tryz.underlying79 rfl Tryz.iM) rfl ?_;exact⟨iK,by rw[HX.out];rfl,by rw[HX.out];rfl,Lies.zero _ _ _,ST.ev.box (bD _ _ _ _ _ _ _) (att _)⟩):P:=h
theorem awk {P:Prop} (h:P:=by clear jy hdr hbl;exact awt):P:=h
theorem awd {P:Prop} (h:P:=by have HX:=zq jy;exact awk):P:=h
theorem ayd {P:Prop} (h:P:=by refine dN (by decide) fun a w c=>⟨(ay rfl),_,run_move _ rfl w,(c.was 5 rfl)⟩):P:=h
theorem aye {P:Prop} (h:P:=by refine dN (by decide) fun a w c=>⟨(ay rfl),_,run_move _ rfl w,(c.was 8 rfl)⟩):P:=h
theorem axA {P:Prop} (h:P:=by refine nR fun a w c=>⟨(ay rfl),_,_,yP rfl w,by unfold oC;rw[if_neg (by decide)];exact Ev.alloc _ _,jY.new c.ev.size⟩):P:=h
theorem awz {P:Prop} (h:P:=by obtain⟨v',w',hr,h2,h3⟩:=t_ (P:=Tryz.prog) gB 77 (77:TypeId) Tryz.underlying77 Tryz.pV rfl h0 A1 n1 cap1 e.kids (hMs.ev c.ev) (by omega) (by omega) c.ev.size;exact⟨(ay rfl),v',w',qK rfl e1 hr,by unfold oC;rw[if_neg (by decide)];exact h3,h2⟩):P:=h
theorem awe {P:Prop} (h:P:=by obtain⟨v',w',hr,h2,h3,_,_⟩:=kY (P:=Tryz.prog) gB 77 (77:TypeId) Tryz.underlying77 Tryz.pV rfl h0 A2 1 1 [m] hS (by simp;omega) (by simp;omega) c.ev.size;exact⟨(ay rfl),v',w',qK rfl e1 hr,by unfold oC;rw[if_pos rfl];exact ((But.aS c.ev).then h3).ev fun k hk=>(h0.lt (aB.1 hk)).1,h2⟩):P:=h
theorem ayi {P:Prop} (h:P:=by
 go_meet
 exact⟨by rw[hst];first|rfl|simp only[n40,n34,n45];rfl,rfl⟩):P:=h
theorem ax8 {P:Prop} (h:P:=by
 go_wp2_with fail
 exact ayi):P:=h
theorem awJ {P:Prop} (h:P:=by
 go_wp2_with (first|((with_reducible refine (HC.out _).mono ?_);rintro x w1 ⟨rfl,rfl⟩)|((with_reducible refine (HD.out _).mono ?_);rintro x w1 ⟨rfl,rfl⟩))
 exact ayi):P:=h
theorem G6 (s0:ByteArray) (w:World) (hs:s0.size≤100000):
  Calls Tryz.prog 38 #[.string s0] w (qG (dB s0.data.toList) w):=by
 have fJ:Tryz.prog.follows .mixedOrders=true:=by kernel_rfl
 have jd:s0.data.toList.length=s0.size:=by rw[atU];rfl
 have HL:=zq jd;obtain⟨R,hR⟩:∃R,R=dB s0.data.toList:=⟨_,rfl⟩
 rw[←hR];unfold dB at hR;rw[jd]at hR;have HR:=zq hR;have HDG:=zq Ik;have qI:=zq Ef;clear hR jd;by_cases hbig:600<s0.size
 ·have HX:Hid (R=(dM,3,0)):=zq (by rw[HR.out,if_pos hbig]);have e0:(600:Int)<(s0.size:Int):=by omega
  have hB:=Bx.new 79 #[.int .i64 0,.string ⟨#[]⟩,.int .i64 0,.slice none 0 0,.int .i64 0] w;have hE:=Ev.alloc w (.cells #[.int .i64 0,.string ⟨#[]⟩,.int .i64 0,.slice none 0 0,.int .i64 0] 79);obtain⟨w0,hw0⟩:∃w0,w.alloc (.cells #[.int .i64 0,.string ⟨#[]⟩,.int .i64 0,.slice none 0 0,.int .i64 0] 79)=w0:=⟨_,rfl⟩
  rw[hw0]at hB hE;obtain⟨⟨c0,c1,c2,c3,c4⟩,f0,f1,f2,f3,f4⟩:=hB.five;go_enter Tryz.func38,Tryz.ntmps38;go_wp2;(try simp only[Exit.inBlock,Exit.then]);rw[bW];refine bodyPost_ret (aF rfl _ _ _ _ _ rfl (hB.jO _ _ _ _ _) Tryz.underlying79 rfl Tryz.iM) rfl ?_;exact⟨iK,by rw[HX.out];rfl,by rw[HX.out];rfl,Lies.zero _ _ _,hE.box (bD _ _ _ _ _ _ _) (att _)⟩
 have rV:Hid (R=rfGo (s0.size+1) [dM] s0.data.toList 0):=zq (by rw[HR.out,if_neg hbig]);have e0:¬((600:Int)<(s0.size:Int)):=by omega
 have HI:=zq (sH.init w);clear HR;go_enter Tryz.func38,Tryz.ntmps38;go_wp2
 go_loopw [5,6] (fun ov iv wr=>∃(g q cap j f:Nat) (os:List M),ov=.slice (some ⟨g,0,none⟩) (q+1) cap∧iv=.int .i64 (j:Int)∧j≤s0.size∧s0.size - j<f∧sH w g q cap os j wr∧Hid (R=rfGo f (os.map M.t) (s0.data.toList.drop j) j)) (fun _ iv _=>s0.size - (intOf iv).toNat)
 case atStart=>exact⟨w.heap.size+1,0,1,0,s0.size+1,[iK],rfl,rfl,atG _,by omega,HI.out,rV⟩
 case round=>
  obtain⟨g,q,cap,j,f,os,rfl,rfl,hj,hf,ST,HG⟩:=hrel;obtain⟨f,rfl⟩:∃f',f=f'+1:=⟨f - 1,by omega⟩
  obtain⟨a1,a2,a3,a4,a5,a6⟩:=ST.at;obtain⟨⟨c0,c1,c2,c3,c4⟩,f0,f1,f2,f3,f4⟩:=ST.box.five;have HA6:=zq a6;have HA5:=zq a5;have vZ:=zq ST.len;clear a5 a6;by_cases hlt:j<s0.size
  ·have hat:=qN s0 j hlt;obtain⟨c,hc⟩:∃c,s0[j]=c:=⟨_,rfl⟩
   have YR:∀hh,s0[j]'hh=c:=fun _=>hc;rw[hc]at hat;have hdr:=kJ hat;have g0:(0:Int)≤(j:Int):=by omega
   have g1:(j:Int)<(s0.size:Int):=by omega
   have jy:=HG.out;rw[hdr]at jy;unfold rfGo at jy;rw[atq,vZ.out]at jy;clear hc HG;by_cases hbl:dA c=true;rw[if_pos hbl]at jy;have tX:=zq jy;unfold dA at hbl;by_cases h32:c.toNat=32;have e32:(c.toNat:Int)=32:=by omega
   exact aw_;have e10:(c.toNat:Int)=10:=by simp[h32]at hbl;omega
   exact aw_;rw[if_neg hbl]at jy;have apj:¬(c.toNat=32)∧¬(c.toNat=10):=by unfold dA at hbl;simp at hbl;omega
   have e32:¬((c.toNat:Int)=32):=by omega
   have apk:((c.toNat:Int)==32)=false:=atp.2 e32;have e10:¬((c.toNat:Int)=10):=by omega
   have apl:((c.toNat:Int)==10)=false:=atp.2 e10;by_cases YF:c.toNat=41
   ·have e41:(c.toNat:Int)=41:=by omega
    rw[if_pos (by simp[YF])]at jy
    cases q with
    | zero=>
     simp at jy;exact awd
    | succ r=>
     obtain⟨os0,m,rfl⟩:=zx os (by intro h;have:=vZ.out;rw[h]at this;simp at this);obtain⟨os1,e,rfl⟩:=zx os0 (by intro h;have:=vZ.out;rw[h]at this;simp at this);have hr:os1.length=r:=by have:=vZ.out;simp at this;omega
     have hpop:rfPop ((os1++[e]++[m]).map M.t)=os1.map M.t++[e.t.add m.t]:=by simp only[atB,atx,atQ];exact Ud _ _ _
     rw[if_neg (by simp),hpop]at jy;have tX:=zq jy;have hse:(os1++[e]++[m])[r]?=some e:=by rw[←hr];simp
     have hsm:(os1++[e]++[m])[r+1]?=some m:=by rw[←hr];simp
     obtain⟨_,_,_,hck,_⟩:=HA6.out r e hse;obtain⟨m0,m1,m2,m3,m4⟩:=HA6.out (r+1) m hsm;have hcm:∀j u,(mc m)[j]?=some u→wr.cell? ⟨g,(r+1)*5+j,none⟩=some u:=fun j u hu=>by
      rcases j with _|_|_|_|_|j;injection hu with hu;subst hu;exact m0
      injection hu with hu;subst hu;exact m1
      injection hu with hu;subst hu;exact m2
      injection hu with hu;subst hu;exact m3
      injection hu with hu;subst hu;exact m4
      simp[mc]at hu
     have QA:=a2;have hfz:=HA5.out (r*5+3);have hMs:=(ST.lies e (by simp)).ms;have hLm:=ST.lies m (by simp);have hek:e.kids.length≤600:=by have:=ST.kids e (by simp);omega
     have tZ:=zq hr;unfold M.kv at hck;generalize e.A=A1 at hck hMs;obtain⟨n1,qF⟩:∃n1,n1=e.kids.length:=⟨_,rfl⟩
     rw[←qF]at hck hMs;generalize e.cap=cap1 at hck hMs;have uT:=zq qF;clear hse hsm hpop jy hdr hbl m0 m1 m2 m3 m4 c0 c1 c2 c3 c4 f0 f1 f2 f3 f4 qF hr;have hwr:IntKind.i64.wrap (r:Int)=(r:Int):=IntWalk.i64_in _ (by omega);go_upto_region 13 with fail
     refine yz fJ [3,9,10,14,15] 16 [fun v _=>v=.slice (some ⟨g,0,none⟩) (r+1+1) cap,fun v _=>v=.int .i64 ((r:Int)+1),fun v _=>v=.int .i64 (r:Int),jY 79 wr.heap.size,fun v _=>v=.slice (some ⟨g,0,none⟩) (r+1+1) cap,fun v _=>v=.int .i64 ((r:Int)+1),fun v _=>v=.int .i64 (r:Int),fun v _=>v=.pointer (some ⟨g,r*5,none⟩),fun v _=>v=.pointer (some ⟨g,r*5+3,none⟩),fun v _=>v=.slice A1 n1 cap1,fun v w=>Ow 79 5 mc wr.heap.size w v e.kids,fun v _=>v=.slice (some ⟨g,0,none⟩) (r+1+1) cap,fun v _=>v=.int .i64 ((r:Int)+1),fun v _=>v=.pointer (some ⟨g,(r+1)*5,none⟩),fun v _=>v=mv m,fun v w=>∃A,v=.slice A 1 1∧Sl 5 mc w A 1 1 [m],fun v w=>Ow 79 5 mc wr.heap.size w v (e.kids++[m]),fun v _=>v=.pointer (some ⟨g,r*5,none⟩),fun v _=>v=.pointer (some ⟨g,r*5+3,none⟩)]
      164 rfl 19 _ rfl rfl (by kernel_rfl) (by kernel_rfl) ⟨az _,az _,az _,jY.mono,az _,az _,az _,az _,az _,az _,fun _ _ _ hE h=>Ow.ev h hE,az _,az _,az _,az _,fun _ _ _ hE ⟨A,h1,h2⟩=>⟨A,h1,h2.ev hE⟩,fun _ _ _ hE h=>Ow.ev h hE,az _,az _,trivial⟩ ⟨.inr (any_eq _),.inr (any_eq _),.inr (any_eq _),.inl (by kernel_rfl),.inr (any_eq _),.inr (any_eq _),.inr (any_eq _),.inr (any_eq _),.inr (any_eq _),.inr (any_eq _),.inl (by kernel_rfl),.inr (any_eq _),.inr (any_eq _),.inr (any_eq _),.inr (any_eq _),.inl (by kernel_rfl),.inl (by kernel_rfl),.inr (any_eq _),.inr (any_eq _),trivial⟩ (IC ?_) ?_
     ·refine bY 0 ?_ (bY 1 ?_ (bY 2 ?_ (bY 3 ?_ (bY 4 ?_ (bY 5 ?_ (bY 6 ?_ (bY 7 ?_ (bY 8 ?_ (bY 9 ?_ (bY 10 ?_ (bY 11 ?_ (bY 12 ?_ (bY 13 ?_ (bY 14 ?_ (bY 15 ?_ (bY 16 ?_ (bY 17 ?_ (bY 18 ?_ (Qw 19 _ (by omega))))))))))))))))))));exact ayd;exact aye
      ·refine dN (by decide) fun a w c=>⟨(ay rfl),.int .i64 (r:Int),?_,rfl⟩
       have e44:a.eval (.tmp 44)=.int .i64 ((r:Int)+1):=(c.new 1 44)
       have uf:a.eval (.const (.int .i64 1))=.int .i64 1:=rfl;generalize a.eval=ρ at e44 uf⊢;simp[execOp,e44,uf,go_sem,hwr]
      exact axA;exact ayd;exact aye
      ·refine dN (by decide) fun a w c=>⟨(ay rfl),.int .i64 (r:Int),?_,rfl⟩
       have e48:a.eval (.tmp 48)=.int .i64 ((r:Int)+1):=(c.new 5 48)
       have uf:a.eval (.const (.int .i64 1))=.int .i64 1:=rfl;generalize a.eval=ρ at e48 uf⊢;simp[execOp,e48,uf,go_sem,hwr]
      refine dN (by decide) fun a w c=>⟨(ay rfl),_,lY (r) rfl ((c.new 4 47):a.eval (.tmp 47)=.slice (some ⟨g,0,none⟩) (r+1+1) cap) ((c.new 6 49)) (by omega) w,rfl⟩
      refine dN (by decide) fun a w c=>⟨(ay rfl),_,oD rfl ((c.new 7 50):a.eval (.tmp 50)=.pointer (some ⟨g,r*5,none⟩)) w,rfl⟩
      refine dN (by decide) fun a w c=>⟨(ay rfl),_,Ar rfl ((c.new 8 51):a.eval (.tmp 51)=.pointer (some ⟨g,r*5+3,none⟩)) ((c.ev.cell (p:=⟨_,_,none⟩) QA).trans hck),rfl⟩
      refine nR fun a w c=>?_;have h0:jY 79 wr.heap.size (a.eval (.tmp 46)) w:=(c.new 3 46)
      have e1:a.eval (.tmp 52)=.slice A1 n1 cap1:=(c.new 9 52)
      exact awz;exact ayd;exact aye;refine dN (by decide) fun a w c=>⟨(ay rfl),_,lY (r+1) rfl ((c.new 11 54):a.eval (.tmp 54)=.slice (some ⟨g,0,none⟩) (r+1+1) cap) ((c.new 12 55)) (by omega) w,rfl⟩
      refine dN (by decide) fun a w c=>⟨(ay rfl),_,Au m rfl ((c.new 13 56):a.eval (.tmp 56)=.pointer (some ⟨g,(r+1)*5,none⟩)) (fun j u hu=>(c.ev.cell (p:=⟨_,_,none⟩) QA).trans (hcm j u hu)),rfl⟩
      refine nR fun a w c=>⟨(ay rfl),_,_,Aq m rfl ((c.new 14 57):a.eval (.tmp 57)=mv m) w,by unfold oC;rw[if_neg (by decide)];exact Ev.alloc _ _,_,rfl,Sl.one gB w m _ rfl⟩
      refine nR fun a w c=>?_;have h0:Ow 79 5 mc wr.heap.size w (a.eval (.tmp 53)) e.kids:=(c.new 10 53)
      obtain⟨A2,e1,hS⟩:=((c.new 15 58):∃A,a.eval (.tmp 58)=.slice A 1 1∧Sl 5 mc w A 1 1 [m])
      exact awe;refine dN (by decide) fun a w c=>⟨(ay rfl),_,lY (r) rfl ((c.new 0 43):a.eval (.tmp 43)=.slice (some ⟨g,0,none⟩) (r+1+1) cap) ((c.new 2 45)) (by omega) w,rfl⟩
      refine dN (by decide) fun a w c=>⟨(ay rfl),_,oD rfl ((c.new 17 60):a.eval (.tmp 60)=.pointer (some ⟨g,r*5,none⟩)) w,rfl⟩
     intro s w5 hE hold hnew;have f0:s 0=.string s0:=hold 0;have f1:s 1=undef:=hold 1;have f2:s 2=.pointer (some ⟨w.heap.size,0,none⟩):=hold 2;have f5:s 5=.slice (some ⟨g,0,none⟩) (r+1+1) cap:=hold 5;have f6:s 6=.int .i64 (j:Int):=hold 6;have f8:s 8=.int .i64 ((r:Int)+1):=hold 8;have f13:s 13=.string s0:=hold 13;have f14:s 14=.int .i64 (s0.size:Int):=hold 14;have f15:s 15=.bool false:=hold 15;have f16:s 16=undef:=hold 16;have f17:s 17=.agg #[.int .i64 0,.string ⟨#[]⟩,.int .i64 0,.slice none 0 0,.int .i64 0]:=hold 17;have f18:s 18=.slice (some ⟨w.heap.size+1,0,none⟩) 1 1:=hold 18;have f144:s 144=undef:=hold 144;have f145:s 145=undef:=hold 145;have f146:s 146=undef:=hold 146;have f147:s 147=undef:=hold 147;have f148:s 148=undef:=hold 148;have f149:s 149=undef:=hold 149;have f150:s 150=undef:=hold 150;have f151:s 151=undef:=hold 151;have f152:s 152=undef:=hold 152;have f153:s 153=undef:=hold 153;have f154:s 154=undef:=hold 154;have f155:s 155=undef:=hold 155;have f156:s 156=undef:=hold 156;have f157:s 157=undef:=hold 157;have f158:s 158=undef:=hold 158;have f159:s 159=undef:=hold 159;have f160:s 160=undef:=hold 160;have f161:s 161=undef:=hold 161;have f162:s 162=undef:=hold 162;have f163:s 163=undef:=hold 163;have f61:s 61=.pointer (some ⟨g,r*5+3,none⟩):=hnew 18 61 (by omega) (by kernel_rfl) (by kernel_rfl);have hOW:Ow 79 5 mc wr.heap.size w5 (s 59) (e.kids++[m]):=hnew 16 59 (by omega) (by kernel_rfl) (by kernel_rfl);obtain⟨A2,cap2,f59,_,_⟩:=hOW.form gB;obtain⟨nn,BX⟩:∃nn,nn=(e.kids++[m]).length:=⟨_,rfl⟩
     rw[←BX]at f59;rw[f59]at hOW;have En:=zq BX;clear BX;have hcl:=(hE.cell (p:=⟨g,r*5+3,none⟩) QA).trans hck;have hfz:=(hE.frozen (p:=⟨g,r*5+3,none⟩) QA).trans hfz;refine⟨ay rfl,xN (w':=w5.setCell ⟨g,r*5+3,none⟩ (.slice A2 nn cap2)) ?_ ?_⟩
     ·change (execOp (Act.eval ⟨#[s 0,s 1,s 2,s 3,s 4,s 5,s 6,s 7,s 8,s 9,s 10,s 11,s 12,s 13,s 14,s 15,s 16,s 17,s 18,s 19,s 20,s 21,s 22,s 23,s 24,s 25,s 26,s 27,s 28,s 29,s 30,s 31,s 32,s 33,s 34,s 35,s 36,s 37,s 38,s 39,s 40,s 41,s 42,s 43,s 44,s 45,s 46,s 47,s 48,s 49,s 50,s 51,s 52,s 53,s 54,s 55,s 56,s 57,s 58,s 59,s 60,s 61,s 62,s 63,s 64,s 65,s 66,s 67,s 68,s 69,s 70,s 71,s 72,s 73,s 74,s 75,s 76,s 77,s 78,s 79,s 80,s 81,s 82,s 83,s 84,s 85,s 86,s 87,s 88,s 89,s 90,s 91,s 92,s 93,s 94,s 95,s 96,s 97,s 98,s 99,s 100,s 101,s 102,s 103,s 104,s 105,s 106,s 107,s 108,s 109,s 110,s 111,s 112,s 113,s 114,s 115,s 116,s 117,s 118,s 119,s 120,s 121,s 122,s 123,s 124,s 125,s 126,s 127,s 128,s 129,s 130,s 131,s 132,s 133,s 134,s 135,s 136,s 137,s 138,s 139,s 140,s 141,s 142,s 143,s 144,s 145,s 146,s 147,s 148,s 149,s 150,s 151,s 152,s 153,s 154,s 155,s 156,s 157,s 158,s 159,s 160,s 161,s 162,s 163],_⟩) ⟨none,.store 77 (.tmp 61) (.tmp 59),_,_,_,_⟩).run _ _=_;simp[execOp,f61,f59,go_sem,hcl,hfz]
     change Exit.then _ _ .normal ⟨_,_⟩ _;simp only[List.range,List.range.loop,List.map];simp only[f0,f1,f2,f5,f6,f8,f13,f14,f15,f16,f17,f18,f144,f145,f146,f147,f148,f149,f150,f151,f152,f153,f154,f155,f156,f157,f158,f159,f160,f161,f162,f163,f61,f59];generalize s 46=apn;generalize s 52=apo;generalize s 53=apq;generalize s 57=apr;generalize s 58=aps;clear hold hnew;generalize s 3=u3;generalize s 4=u4;generalize s 7=u7;generalize s 9=u9;generalize s 10=u10;generalize s 11=u11;generalize s 12=u12;generalize s 19=u19;generalize s 20=u20;generalize s 21=u21;generalize s 22=u22;generalize s 23=u23;generalize s 24=u24;generalize s 25=u25;generalize s 26=u26;generalize s 27=u27;generalize s 28=u28;generalize s 29=u29;generalize s 30=u30;generalize s 31=u31;generalize s 32=u32;generalize s 33=u33;generalize s 34=u34;generalize s 35=u35;generalize s 36=u36;generalize s 37=u37;generalize s 38=u38;generalize s 39=u39;generalize s 40=u40;generalize s 41=u41;generalize s 42=u42;generalize s 62=u62;generalize s 63=u63;generalize s 64=u64;generalize s 65=u65;generalize s 66=u66;generalize s 67=u67;generalize s 68=u68;generalize s 69=u69;generalize s 70=u70;generalize s 71=u71;generalize s 72=u72;generalize s 73=u73;generalize s 74=u74;generalize s 75=u75;generalize s 76=u76;generalize s 77=u77;generalize s 78=u78;generalize s 79=u79;generalize s 80=u80;generalize s 81=u81;generalize s 82=u82;generalize s 83=u83;generalize s 84=u84;generalize s 85=u85;generalize s 86=u86;generalize s 87=u87;generalize s 88=u88;generalize s 89=u89;generalize s 90=u90;generalize s 91=u91;generalize s 92=u92;generalize s 93=u93;generalize s 94=u94;generalize s 95=u95;generalize s 96=u96;generalize s 97=u97;generalize s 98=u98;generalize s 99=u99;generalize s 100=akf;generalize s 101=akg;generalize s 102=akh;generalize s 103=aki;generalize s 104=akj;generalize s 105=u105;generalize s 106=akk;generalize s 107=akl;generalize s 108=akm;generalize s 109=akn;generalize s 110=ako;generalize s 111=akp
     generalize s 112=akq;generalize s 113=akr;generalize s 114=aks;generalize s 115=akt;generalize s 116=aku;generalize s 117=akv;generalize s 118=akw;generalize s 119=u119;generalize s 120=akx;generalize s 121=aky;generalize s 122=akz;generalize s 123=akA;generalize s 124=u124;generalize s 125=akB;generalize s 126=akC;generalize s 127=u127;generalize s 128=akD;generalize s 129=apQ;generalize s 130=apR;generalize s 131=u131;generalize s 132=apS;generalize s 133=apT;generalize s 134=apU;generalize s 135=apV;generalize s 136=apW;generalize s 137=apX;generalize s 138=u138;generalize s 139=u139;generalize s 140=apY;generalize s 141=apZ;generalize s 142=ap0;generalize s 143=akE;have ST':sH w g (r+1) cap (os1++e::[m]) j wr:=by rw[show os1++e::[m]=os1++[e]++[m] by simp];exact ST
     obtain⟨e',he',ST2⟩:=ST'.ac5 hE hOW (hLm.ev hE) (Nat.lt_succ_self j);rw[tZ.out]at ST2;have ST3:=sH.pop (os:=os1++[e']) (e:=m) (q:=r) (by rw[show os1++[e']++[m]=os1++e'::[m] by simp];exact ST2);have i1:(0:Int)≤(r:Int)+1:=by omega
     have i2:(r:Int)+1≤(cap:Int):=by omega
     have xx:Hid (R=rfGo f ((os1++[e']).map M.t) (s0.data.toList.drop (j+1)) (j+1)):=zq (by rw[tX.out];simp[he']);clear tX tZ uT hOW;go_wp2
     go_round
     case rel=>exact⟨g,r,cap,j+1,f,os1++[e'],rfl,by go_num,by omega,by omega,ST3,xx⟩
     case measure=>simp[intOf];omega
   rw[if_neg (by simp[YF])]at jy;have e41:¬((c.toNat:Int)=41):=by omega
   have ap2:((c.toNat:Int)==41)=false:=atp.2 e41;go_upto_region 16 with fail
   go_cut [86] (fun v wx=>v=.bool (!fZ c)∧wr=wx)
   case first=>
    have amY:∀b:Bool,fZ c=b→fZ c=b:=fun _ h=>h;by_cases Gq:c.toNat=40;have e40:(c.toNat:Int)=40:=by omega
    have hst:fZ c=true:=by simp[fZ,Gq]
    exact ax8;have e40:¬((c.toNat:Int)=40):=by omega
    have akF:((c.toNat:Int)==40)=false:=atp.2 e40;by_cases Ib:c.toNat=34;have e34:(c.toNat:Int)=34:=by omega
    have hst:fZ c=true:=by simp[fZ,Ib]
    exact ax8;have e34:¬((c.toNat:Int)=34):=by omega
    have agj:((c.toNat:Int)==34)=false:=atp.2 e34;by_cases h45:c.toNat=45;have e45:(c.toNat:Int)=45:=by omega
    have hst:fZ c=true:=by simp[fZ,h45]
    exact ax8;have e45:¬((c.toNat:Int)=45):=by omega
    have ap3:((c.toNat:Int)==45)=false:=atp.2 e45;have HC:=qI.out c;have HD:=HDG.out c
    cases hl:bf c with
    | true=>
     rw[hl]at HC;have HC:=zq HC;have hst:fZ c=true:=by simp[fZ,hl]
     go_wp2_with (first|((with_reducible refine (HC.out _).mono ?_);rintro x w1 ⟨rfl,rfl⟩))
     exact ayi
    | false=>
     rw[hl]at HC;have HC:=zq HC
     cases hd:aW c with
     | true=>
      rw[hd]at HD;have HD:=zq HD;have hst:fZ c=true:=by simp[fZ,hd]
      exact awJ
     | false=>
      rw[hd]at HD;have HD:=zq HD;have hst:fZ c=false:=by simp[fZ,hl,hd,Gq,Ib,h45]
      have n40:((c.toNat:Int) !=40)=true:=by simp;omega
      have n34:((c.toNat:Int) !=34)=true:=by simp;omega
      have n45:((c.toNat:Int) !=45)=true:=by simp;omega
      exact awJ
   case rest=>
    obtain⟨hcv,rfl⟩:=hcut;subst hcv
    cases hst:fZ c with
    | false=>
     rw[hst]at jy;simp at jy;have HX:=zq jy;clear jy hdr hbl;simp only[Bool.not_false];exact awt
    | true=>
     rw[hst]at jy;simp only[Bool.not_true,atE,if_false]at jy;simp only[Bool.not_true];go_upto_region 18 with fail
     go_cut [98] (fun v wx=>v=.bool (q==0&&sxDone (os.map M.t))∧wr=wx)
     case first=>
      cases q with
      | succ r=>
       go_wp2_with fail
       go_meet
       exact⟨rfl,rfl⟩
      | zero=>
       obtain⟨e,rfl⟩:∃e,os=[e]:=List.length_eq_one_iff.1 vZ.out;obtain⟨_,_,_,d3,_⟩:=HA6.out 0 e rfl;simp only[aud,atT]at d3;have hsd:sxDone ([e].map M.t)=decide (0<e.kids.length):=Ue;unfold M.kv at d3;generalize e.kids.length=n1 at*;by_cases h0:0<n1
       ·have i1:(0:Int)<(n1:Int):=by omega
        go_wp2_with fail
        go_meet
        exact⟨by rw[hsd,atX h0];first|rfl|simp[i1],rfl⟩
       have i1:¬((0:Int)<(n1:Int)):=by omega
       go_wp2_with fail
       go_meet
       exact⟨by rw[hsd,auj h0];first|rfl|simp[i1],rfl⟩
     case rest=>
      obtain⟨hcv,rfl⟩:=hcut;subst hcv;have qP:(q+1==1)=(q==0):=by cases q<;>simp
      rw[qP]at jy
      cases VE:(q==0&&sxDone (os.map M.t)) with
      | true=>
       rw[VE,if_pos rfl]at jy;exact awd
      | false=>
       rw[VE]at jy;simp only[atE,if_false]at jy;by_cases Gq:c.toNat=40
       ·have e40:(c.toNat:Int)=40:=by omega
        rw[if_pos (by simp[Gq])]at jy;by_cases WX:12≤q;rw[if_pos (by omega)]at jy;have HX:=zq jy;have i1:(12:Int)≤(q:Int):=by omega
        exact awk;rw[if_neg (by omega)]at jy;have tX:=zq jy;have i1:¬((12:Int)≤(q:Int)):=by omega
        obtain⟨_,aj3,hvS,hMS,_⟩:=ST.own.form gB;injection hvS with KZ hv2 hv3
        subst KZ;subst hv3;rw[vZ.out]at hMS;have CE:=zq hMS;have hos:os.length≤700:=by have:=vZ.out;omega
        clear jy hdr hbl hv2 hMS
        go_wp2_with (first
         | ((show wpList _ _ _ (⟨some 109,_,_,_,_,_⟩::_) _ _);refine vw (o:=⟨some 109,_,_,_,_,_⟩) rfl 77 (.tmp 107) (.tmp 108) rfl gB Tryz.underlying77 Tryz.pV rfl rfl (jY.new (att _)) (some ⟨g,0,none⟩) (q+1) cap os rfl (CE.out.ev (Ev.alloc _ _)) (by omega) (by omega) (by simp) ?_;intro v1 w1 ho1 aH;have E1:=zq ((Ev.alloc wr _).trans aH);have O1:=zq ho1)
         | ((show wpList _ _ _ (⟨some 113,_,_,_,_,_⟩::_) _ _);refine aK (o:=⟨some 113,_,_,_,_,_⟩) rfl 77 (.tmp 109) (.tmp 112) rfl gB Tryz.underlying77 Tryz.pV rfl rfl (O1.out.ev (Ev.alloc _ _)) (some ⟨w1.heap.size,0,none⟩) 1 1 [ng 1 [] 0 j] rfl (Sl.one gB w1 (ng 1 [] 0 j) _ rfl) (by simp;omega) (by simp;omega) (atP E1.out.size (Ev.alloc w1 _).size) ?_;intro v2 w2 gz;have E2:Ev wr w2:=((But.aS (E1.out.trans (Ev.alloc w1 _))).then gz.2.1).ev (fun k hk=>(O1.out.lt (aB.1 hk)).1);obtain⟨g',cap',rfl,ST2⟩:=ST.push E2 gz.1 (fun w K=>Lies.tok _ _ _ _ _ _ _) rfl (Nat.lt_succ_self j)))
        go_round
        case rel=>exact⟨g',q+1,cap',j+1,f,os++[ng 1 [] 0 j],rfl,by go_num,by omega,by omega,ST2,zq (by rw[tX.out];simp[ng,M.qO,M.kind,M.s,M.n,M.kids,M.pos])⟩
        case measure=>simp[intOf];omega
       rw[if_neg (by simp[Gq])]at jy;have e40:¬((c.toNat:Int)=40):=by omega
       have akF:((c.toNat:Int)==40)=false:=atp.2 e40;have hk:c.toNat=34∨c.toNat=45∨bf c=true∨aW c=true:=by unfold fZ at hst;simp only[atZ,atH]at hst;rcases hst with (((h|h)|h)|h)|h;exact absurd h Gq;exact .inl h;exact .inr (.inl h);exact .inr (.inr (.inl h));exact .inr (.inr (.inr h))
       have rC:=fun w1=>abC s0 w1 hs j hlt c hat hk;rw[hdr]at rC;have A8:=(wI c (s0.data.toList.drop (j+1))).good;obtain⟨X,hX⟩:∃X,X=bF (c::s0.data.toList.drop (j+1)):=⟨_,rfl⟩
       rw[←hX]at rC A8 jy;have lQ:(c::s0.data.toList.drop (j+1)).length=s0.size - j:=by rw[←hdr,at1,HL.out]
       rw[lQ]at A8;rw[←hdr,List.drop_drop]at jy;clear hX lQ;by_cases hw:X.why=0
       ·rw[if_pos (by rw[hw];rfl)]at jy;have tX:=zq jy;obtain⟨hz1,hz2,_⟩:=A8 hw;have KR:Hid (∀w1:World,Calls Tryz.prog 77 #[.string s0,.int .i64 (j:Int)] w1 fun x w'=>∃wh:Int,x=.returned (.tuple #[.agg #[.int .i64 X.kind,.string ⟨X.s.toArray⟩,.int .i64 X.n,.slice none 0 0,.int .i64 (j:Int)],.int .i64 ((j+X.size:Nat):Int),.int .i64 0,.int .i64 wh])∧Ev w1 w'):=zq fun w1=>(rC w1).mono (by
         rintro x w' ⟨k,n,p,en,wh,sb,rfl,hgd,_,hE⟩;obtain⟨rfl,rfl,rfl,rfl,rfl⟩:=hgd hw;exact⟨wh,by rw[hw],hE⟩)
        have HZ1:=zq hz1;have HZ2:=zq hz2;clear jy hdr hbl rC A8 hk hat hz1 hz2 hw c0 c1 c2 c3 c4 f0 f1 f2 f3 f4;go_upto_region 26 with (first
         | ((with_reducible refine (KR.out _).mono ?_);rintro x w1 ⟨wh,rfl,aH⟩;have nS:=zq aH;obtain⟨w6,hw6⟩:∃w6,w6=w1.alloc (.cells #[.int .i64 X.kind,.string ⟨X.s.toArray⟩,.int .i64 X.n,.slice none 0 0,.int .i64 (j:Int)] 79):=⟨_,rfl⟩;have HW6:=zq hw6;clear hw6 aH))
        rw[←HW6.out];have Zc:Ev w1 w6:=HW6.out▸Ev.alloc w1 _;have lL:=nS.out.trans Zc;have wE:Bx 79 w1.heap.size #[.int .i64 X.kind,.string ⟨X.s.toArray⟩,.int .i64 X.n,.slice none 0 0,.int .i64 (j:Int)] w6:=HW6.out▸Bx.new 79 _ w1;clear HW6 nS Zc;generalize w1.heap.size=gl at*;have ST6:=ST.evs lL;obtain⟨_,QA,_,_,agF,hc6⟩:=ST6.at;obtain⟨os1,e,rfl⟩:=zx os (by intro h;have:=vZ.out;rw[h]at this;simp at this);have hr:os1.length=q:=by have:=vZ.out;simp at this;omega
        have hse:(os1++[e])[q]?=some e:=by rw[←hr];simp
        obtain⟨_,_,_,hck,_⟩:=hc6 q e hse;have hfz:=agF (q*5+3);have agG:=wE.lt;obtain⟨m,hm⟩:∃m,m=ng X.kind X.s X.n j:=⟨_,rfl⟩
        have hcm:∀j u,(mc m)[j]?=some u→w6.cell? ⟨gl,0+j,none⟩=some u:=fun j' u hu=>by rw[wE.cell,atT];rw[hm]at hu;simpa[mc,ng,M.kind,M.s,M.n,M.kv,M.A,M.kids,M.cap,M.pos] using hu
        have hMs:=(ST6.lies e (by simp)).ms;have hLm:Lies (w.heap.size+1) [g] w6 m:=hm▸Lies.tok _ _ _ _ _ _ _;have DU:m.t=X.tree j:=by rw[hm];simp[ng,M.t,M.ts,Tk.tree]
        have hek:e.kids.length≤600:=by have:=ST6.kids e (by simp);omega
        have tZ:=zq hr;unfold M.kv at hck;generalize e.A=A1 at hck hMs;obtain⟨n1,qF⟩:∃n1,n1=e.kids.length:=⟨_,rfl⟩
        rw[←qF]at hck hMs;generalize e.cap=cap1 at hck hMs;have uT:=zq qF;have xx:Hid (R=rfGo f (os1.map M.t++[e.t.add m.t]) (s0.data.toList.drop (j+X.size)) (j+X.size)):=zq (by rw[tX.out,DU,atB];exact congrArg (fun y=>rfGo f y _ _) (nJ _ _ _));clear hse qF hr hm DU hc6 agF wE tX;go_upto_region 28 with fail
        refine yz fJ [2,7,8,9,10] 11 [fun v _=>v=.slice (some ⟨g,0,none⟩) (q+1) cap,fun v _=>v=.int .i64 (q:Int),jY 79 w6.heap.size,fun v _=>v=.slice (some ⟨g,0,none⟩) (q+1) cap,fun v _=>v=.int .i64 (q:Int),fun v _=>v=.pointer (some ⟨g,q*5,none⟩),fun v _=>v=.pointer (some ⟨g,q*5+3,none⟩),fun v _=>v=.slice A1 n1 cap1,fun v w=>Ow 79 5 mc w6.heap.size w v e.kids,fun v _=>v=mv m,fun v w=>∃A,v=.slice A 1 1∧Sl 5 mc w A 1 1 [m],fun v w=>Ow 79 5 mc w6.heap.size w v (e.kids++[m]),fun v _=>v=.pointer (some ⟨g,q*5,none⟩),fun v _=>v=.pointer (some ⟨g,q*5+3,none⟩)]
         164 rfl 14 _ rfl rfl (by kernel_rfl) (by kernel_rfl) ⟨az _,az _,jY.mono,az _,az _,az _,az _,az _,fun _ _ _ hE h=>Ow.ev h hE,az _,fun _ _ _ hE ⟨A,h1,h2⟩=>⟨A,h1,h2.ev hE⟩,fun _ _ _ hE h=>Ow.ev h hE,az _,az _,trivial⟩ ⟨.inr (any_eq _),.inr (any_eq _),.inl (by kernel_rfl),.inr (any_eq _),.inr (any_eq _),.inr (any_eq _),.inr (any_eq _),.inr (any_eq _),.inl (by kernel_rfl),.inr (any_eq _),.inl (by kernel_rfl),.inl (by kernel_rfl),.inr (any_eq _),.inr (any_eq _),trivial⟩ (IC ?_) ?_
        refine bY 0 ?_ (bY 1 ?_ (bY 2 ?_ (bY 3 ?_ (bY 4 ?_ (bY 5 ?_ (bY 6 ?_ (bY 7 ?_ (bY 8 ?_ (bY 9 ?_ (bY 10 ?_ (bY 11 ?_ (bY 12 ?_ (bY 13 ?_ (Qw 14 _ (by omega)))))))))))))));exact ayd;exact aye;exact axA;exact ayd;exact aye;refine dN (by decide) fun a w c=>⟨(ay rfl),_,lY (q) rfl ((c.new 3 132):a.eval (.tmp 132)=.slice (some ⟨g,0,none⟩) (q+1) cap) ((c.new 4 133)) (by omega) w,rfl⟩
        refine dN (by decide) fun a w c=>⟨(ay rfl),_,oD rfl ((c.new 5 134):a.eval (.tmp 134)=.pointer (some ⟨g,q*5,none⟩)) w,rfl⟩
        refine dN (by decide) fun a w c=>⟨(ay rfl),_,Ar rfl ((c.new 6 135):a.eval (.tmp 135)=.pointer (some ⟨g,q*5+3,none⟩)) ((c.ev.cell (p:=⟨_,_,none⟩) QA).trans hck),rfl⟩
        refine nR fun a w c=>?_;have h0:jY 79 w6.heap.size (a.eval (.tmp 131)) w:=(c.new 2 131)
        have e1:a.eval (.tmp 136)=.slice A1 n1 cap1:=(c.new 7 136)
        exact awz;refine dN (by decide) fun a w c=>⟨(ay rfl),_,Au m rfl (c.was 9 rfl:a.eval (.tmp 9)=.pointer (some ⟨gl,0,none⟩)) (fun j u hu=>(c.ev.cell (p:=⟨_,_,none⟩) agG).trans (hcm j u hu)),rfl⟩
        refine nR fun a w c=>⟨(ay rfl),_,_,Aq m rfl ((c.new 9 138):a.eval (.tmp 138)=mv m) w,by unfold oC;rw[if_neg (by decide)];exact Ev.alloc _ _,_,rfl,Sl.one gB w m _ rfl⟩
        refine nR fun a w c=>?_;have h0:Ow 79 5 mc w6.heap.size w (a.eval (.tmp 137)) e.kids:=(c.new 8 137)
        obtain⟨A2,e1,hS⟩:=((c.new 10 139):∃A,a.eval (.tmp 139)=.slice A 1 1∧Sl 5 mc w A 1 1 [m])
        exact awe;refine dN (by decide) fun a w c=>⟨(ay rfl),_,lY (q) rfl ((c.new 0 129):a.eval (.tmp 129)=.slice (some ⟨g,0,none⟩) (q+1) cap) ((c.new 1 130)) (by omega) w,rfl⟩
        refine dN (by decide) fun a w c=>⟨(ay rfl),_,oD rfl ((c.new 12 141):a.eval (.tmp 141)=.pointer (some ⟨g,q*5,none⟩)) w,rfl⟩
        intro s w5 hE hold hnew;have f0:s 0=.string s0:=hold 0;have f1:s 1=undef:=hold 1;have f2:s 2=.pointer (some ⟨w.heap.size,0,none⟩):=hold 2;have f5:s 5=.slice (some ⟨g,0,none⟩) (q+1) cap:=hold 5;have f6:s 6=.int .i64 (j:Int):=hold 6;have f8:s 8=.int .i64 (q:Int):=hold 8;have f9:s 9=.pointer (some ⟨gl,0,none⟩):=hold 9;have f10:s 10=.int .i64 ((j+X.size:Nat):Int):=hold 10;have f13:s 13=.string s0:=hold 13;have f14:s 14=.int .i64 (s0.size:Int):=hold 14;have f15:s 15=.bool false:=hold 15;have f16:s 16=undef:=hold 16;have f17:s 17=.agg #[.int .i64 0,.string ⟨#[]⟩,.int .i64 0,.slice none 0 0,.int .i64 0]:=hold 17;have f18:s 18=.slice (some ⟨w.heap.size+1,0,none⟩) 1 1:=hold 18;have f144:s 144=undef:=hold 144;have f145:s 145=undef:=hold 145;have f146:s 146=undef:=hold 146;have f147:s 147=undef:=hold 147;have f148:s 148=undef:=hold 148;have f149:s 149=undef:=hold 149;have f150:s 150=undef:=hold 150;have f151:s 151=undef:=hold 151;have f152:s 152=undef:=hold 152;have f153:s 153=undef:=hold 153;have f154:s 154=undef:=hold 154;have f155:s 155=undef:=hold 155;have f156:s 156=undef:=hold 156;have f157:s 157=undef:=hold 157;have f158:s 158=undef:=hold 158;have f159:s 159=undef:=hold 159;have f160:s 160=undef:=hold 160;have f161:s 161=undef:=hold 161;have f162:s 162=undef:=hold 162;have f163:s 163=undef:=hold 163;have f142:s 142=.pointer (some ⟨g,q*5+3,none⟩):=hnew 13 142 (by omega) (by kernel_rfl) (by kernel_rfl);have hOW:Ow 79 5 mc w6.heap.size w5 (s 140) (e.kids++[m]):=hnew 11 140 (by omega) (by kernel_rfl) (by kernel_rfl);obtain⟨A2,cap2,f140,_,_⟩:=hOW.form gB;obtain⟨nn,BX⟩:∃nn,nn=(e.kids++[m]).length:=⟨_,rfl⟩
        rw[←BX]at f140;rw[f140]at hOW;have En:=zq BX;clear BX;have hcl:=(hE.cell (p:=⟨g,q*5+3,none⟩) QA).trans hck;have hfz:=(hE.frozen (p:=⟨g,q*5+3,none⟩) QA).trans hfz;refine⟨ay rfl,xN (w':=w5.setCell ⟨g,q*5+3,none⟩ (.slice A2 nn cap2)) ?_ ?_⟩
        ·change (execOp (Act.eval ⟨#[s 0,s 1,s 2,s 3,s 4,s 5,s 6,s 7,s 8,s 9,s 10,s 11,s 12,s 13,s 14,s 15,s 16,s 17,s 18,s 19,s 20,s 21,s 22,s 23,s 24,s 25,s 26,s 27,s 28,s 29,s 30,s 31,s 32,s 33,s 34,s 35,s 36,s 37,s 38,s 39,s 40,s 41,s 42,s 43,s 44,s 45,s 46,s 47,s 48,s 49,s 50,s 51,s 52,s 53,s 54,s 55,s 56,s 57,s 58,s 59,s 60,s 61,s 62,s 63,s 64,s 65,s 66,s 67,s 68,s 69,s 70,s 71,s 72,s 73,s 74,s 75,s 76,s 77,s 78,s 79,s 80,s 81,s 82,s 83,s 84,s 85,s 86,s 87,s 88,s 89,s 90,s 91,s 92,s 93,s 94,s 95,s 96,s 97,s 98,s 99,s 100,s 101,s 102,s 103,s 104,s 105,s 106,s 107,s 108,s 109,s 110,s 111,s 112,s 113,s 114,s 115,s 116,s 117,s 118,s 119,s 120,s 121,s 122,s 123,s 124,s 125,s 126,s 127,s 128,s 129,s 130,s 131,s 132,s 133,s 134,s 135,s 136,s 137,s 138,s 139,s 140,s 141,s 142,s 143,s 144,s 145,s 146,s 147,s 148,s 149,s 150,s 151,s 152,s 153,s 154,s 155,s 156,s 157,s 158,s 159,s 160,s 161,s 162,s 163],_⟩) ⟨none,.store 77 (.tmp 142) (.tmp 140),_,_,_,_⟩).run _ _=_;simp[execOp,f142,f140,go_sem,hcl,hfz]
        change Exit.then _ _ .normal ⟨_,_⟩ _;simp only[List.range,List.range.loop,List.map];simp only[f0,f1,f2,f5,f6,f8,f9,f10,f13,f14,f15,f16,f17,f18,f144,f145,f146,f147,f148,f149,f150,f151,f152,f153,f154,f155,f156,f157,f158,f159,f160,f161,f162,f163,f142,f140];generalize s 131=am1;generalize s 136=am2;generalize s 137=am3;generalize s 138=am4;generalize s 139=am5;clear hold hnew;generalize s 3=u3;generalize s 4=u4;generalize s 7=u7;generalize s 11=u11;generalize s 12=u12;generalize s 19=u19;generalize s 20=u20;generalize s 21=u21;generalize s 22=u22;generalize s 23=u23;generalize s 24=u24;generalize s 25=u25;generalize s 26=u26;generalize s 27=u27;generalize s 28=u28;generalize s 29=u29;generalize s 30=u30;generalize s 31=u31;generalize s 32=u32;generalize s 33=u33;generalize s 34=u34;generalize s 35=u35;generalize s 36=u36;generalize s 37=u37;generalize s 38=u38;generalize s 39=u39;generalize s 40=u40;generalize s 41=u41;generalize s 42=u42;generalize s 43=u43;generalize s 44=u44;generalize s 45=u45;generalize s 46=u46;generalize s 47=u47;generalize s 48=u48;generalize s 49=u49;generalize s 50=u50;generalize s 51=u51;generalize s 52=u52;generalize s 53=u53;generalize s 54=u54;generalize s 55=u55;generalize s 56=u56;generalize s 57=u57;generalize s 58=u58;generalize s 59=u59;generalize s 60=u60;generalize s 61=u61;generalize s 62=u62;generalize s 63=u63;generalize s 64=u64;generalize s 65=u65;generalize s 66=u66;generalize s 67=u67;generalize s 68=u68;generalize s 69=u69;generalize s 70=u70;generalize s 71=u71;generalize s 72=u72;generalize s 73=u73;generalize s 74=u74;generalize s 75=u75;generalize s 76=u76;generalize s 77=u77;generalize s 78=u78;generalize s 79=u79;generalize s 80=u80;generalize s 81=u81;generalize s 82=u82;generalize s 83=u83;generalize s 84=u84;generalize s 85=u85;generalize s 86=u86;generalize s 87=u87;generalize s 88=u88;generalize s 89=u89;generalize s 90=u90;generalize s 91=u91;generalize s 92=u92;generalize s 93=u93;generalize s 94=u94
        generalize s 95=u95;generalize s 96=u96;generalize s 97=u97;generalize s 98=u98;generalize s 99=u99;generalize s 100=akf;generalize s 101=akg;generalize s 102=akh;generalize s 103=aki;generalize s 104=akj;generalize s 105=u105;generalize s 106=akk;generalize s 107=akl;generalize s 108=akm;generalize s 109=akn;generalize s 110=ako;generalize s 111=akp;generalize s 112=akq;generalize s 113=akr;generalize s 114=aks;generalize s 115=akt;generalize s 116=aku;generalize s 117=akv;generalize s 118=akw;generalize s 119=u119;generalize s 120=akx;generalize s 121=aky;generalize s 122=akz;generalize s 123=akA;generalize s 124=u124;generalize s 125=akB;generalize s 126=akC;generalize s 127=u127;generalize s 128=akD;generalize s 143=akE;have ST':sH w g q cap (os1++e::[]) j w6:=ST6;have hjz:j<j+X.size:=by have:=HZ1.out;omega
        obtain⟨e',he',ST2⟩:=ST'.ac5 hE hOW (hLm.ev hE) hjz;rw[tZ.out]at ST2;have N_:Hid (R=rfGo f ((os1++[e']).map M.t) (s0.data.toList.drop (j+X.size)) (j+X.size)):=zq (by rw[xx.out];simp[he']);have hz1:=HZ1.out;have hz2:=HZ2.out;clear xx tZ uT hOW;go_wp2
        go_round
        case rel=>exact⟨g,q,cap,j+X.size,f,os1++[e'],rfl,by go_num,by omega,by omega,ST2,N_⟩
        case measure=>simp[intOf];omega
       rw[if_neg (by simp;exact hw)]at jy;have HX:=zq jy;have KR:Hid (∀w1:World,Calls Tryz.prog 77 #[.string s0,.int .i64 (j:Int)] w1 fun x w'=>∃(k n p en:Int) (sb:ByteArray),x=.returned (.tuple #[.agg #[.int .i64 k,.string sb,.int .i64 n,.slice none 0 0,.int .i64 p],.int .i64 en,.int .i64 X.why,.int .i64 ((j+X.fault:Nat):Int)])∧Ev w1 w'):=zq fun w1=>(rC w1).mono (by
        rintro x w' ⟨k,n,p,en,wh,sb,rfl,_,hbd,hE⟩;obtain rfl:=hbd hw;exact⟨k,n,p,en,sb,rfl,hE⟩)
       have Le:(X.why !=0)=true:=by simp[hw]
       clear jy hdr hbl rC A8 hk hat c0 c1 c2 c3 c4 f0 f1 f2 f3 f4;go_upto_region 26 with (first
        | ((with_reducible refine (KR.out _).mono ?_);rintro x w1 ⟨k,n,p,en,sb,rfl,aH⟩;have nS:=zq aH;obtain⟨w6,hw6⟩:∃w6,w6=w1.alloc (.cells #[.int .i64 k,.string sb,.int .i64 n,.slice none 0 0,.int .i64 p] 79):=⟨_,rfl⟩;have HW6:=zq hw6;clear hw6 aH))
       rw[←HW6.out];have Zc:Ev w1 w6:=HW6.out▸Ev.alloc w1 _;have ST6:=ST.evs (nS.out.trans Zc);obtain⟨⟨c0,c1,c2,c3,c4⟩,f0,f1,f2,f3,f4⟩:=ST6.box.five;clear HW6 nS Zc;go_wp2;(try simp only[Exit.inBlock,Exit.then]);rw[bW];refine bodyPost_ret (aF rfl _ _ _ _ _ rfl (ST6.box.jO _ _ _ _ _) Tryz.underlying79 rfl Tryz.iM) rfl ?_;exact⟨iK,by rw[HX.out];rfl,by rw[HX.out];rfl,Lies.zero _ _ _,ST6.ev.box (bD _ _ _ _ _ _ _) (att _)⟩
  have WI:j=s0.size:=by omega
  have jy:=HG.out;rw[auh (by rw[HL.out];omega)]at jy;unfold rfGo G5 at jy;rw[atq,vZ.out]at jy;have g1:¬((j:Int)<(s0.size:Int)):=by omega
  clear HG
  cases q with
  | succ r=>
   rw[if_pos (by omega)]at jy;have HX:Hid (R=(dM,10,s0.size)):=zq (by rw[jy,WI]);clear jy WI;have i1:(1:Int)<(r:Int)+1+1:=by omega
   exact awt
  | zero=>
   rw[if_neg (by omega)]at jy;obtain⟨e,rfl⟩:∃e,os=[e]:=List.length_eq_one_iff.1 vZ.out;obtain⟨_,_,_,d3,_⟩:=HA6.out 0 e rfl;simp only[aud,atT]at d3;have fA:=(ST.lies e (by simp)).ms;have NY:=(ST.lies e (by simp)).kid;simp only[atx,atQ,jT]at jy;rw[M.aY]at jy;unfold M.kv at d3;obtain⟨n1,qF⟩:∃n1,n1=e.kids.length:=⟨_,rfl⟩
   rw[←qF]at d3 fA
   cases Gv:e.kids with
   | nil=>
    rw[Gv]at jy qF;simp at qF;subst qF;have HX:Hid (R=(dM,10,s0.size)):=zq (by rw[jy,←WI];rfl);clear jy WI;exact awt
   | cons m l=>
    rw[Gv]at jy qF fA NY;simp at qF;have hm0:(m::l)[0]?=some m:=rfl;obtain⟨b,off,hA,hbl,k0,k1,k2,k3,k4⟩:=fA.cell hm0;simp only[aud,atW]at k0 k1 k2 k3 k4;rw[hA]at d3;have HX:Hid (R=(m.t,0,0)):=zq (by rw[jy];rfl);have akI:¬((n1:Int)=0):=by omega
    have ap5:((n1:Int)==0)=false:=atp.2 akI;have ap6:(0:Int)<(n1:Int):=by omega
    have hLm:=NY m (by simp);unfold M.kv at k3;clear jy WI qF NY;go_wp2;(try simp only[Exit.inBlock,Exit.then]);rw[bW];refine bodyPost_ret (aF rfl _ _ _ _ _ rfl (ST.box.jO _ _ _ _ _) Tryz.underlying79 rfl Tryz.iM) rfl ?_;exact⟨m,by rw[HX.out];rfl,by rw[HX.out],((hLm.less (K':=[w.heap.size]) (fun x hx=>by simp at hx;exact .inr (.inl (by omega)))).move (bD _ _ _ _ _ _ _) (K':=[]) (fun x hx=>by cases hx)).low (aub _),ST.ev.box (bD _ _ _ _ _ _ _) (att _)⟩
end Go.Proofs.YtpbfokkocaemlaaGreatDoor
