import Derived.Lib.ItoaLen
import Derived.Test.YtpbfokkocaemlaaGreatDoorZ5S
import Derived.Test.YtpbfokkocaemlaaGreatDoorZ6S
set_option linter.unusedVariables false
set_option maxRecDepth 100000
set_option maxHeartbeats 64000000
namespace Go.Proofs.YtpbfokkocaemlaaGreatDoor
open Go.RowKit
open Go.Lib renaming hid → zq
def dig (v:Nat):List UInt8:=if v=0 then [] else Lib.decDigits v
theorem Qk (v:Nat):dig (v / 10)++[UInt8.ofNat (48+v % 10)]=Lib.decDigits v:=by
 unfold dig;by_cases h:v<10;rw[if_pos (by omega),Lib.decDigits_one h,show v % 10=v by omega];rfl;rw[if_neg (by omega)]
 conv=>rhs;rw[Lib.decDigits,dif_neg h]
theorem Ql (i:Nat) (h:i<10):(⟨#[48,49,50,51,52,53,54,55,56,57]⟩:ByteArray).extract i (i+1)=⟨#[UInt8.ofNat (48+i)]⟩:=by
 rw[Lib.extract_eq];have:∀i,i<10→(((⟨#[48,49,50,51,52,53,54,55,56,57]⟩:ByteArray).data.toList.drop i).take (i+1 - i))=[UInt8.ofNat (48+i)]:=by decide
 rw[this i h]
theorem jk (a b:List UInt8):(⟨a.toArray⟩:ByteArray)++⟨b.toArray⟩=⟨(a++b).toArray⟩:=by apply toList_inj;simp[Lib.toList_data]
def strLen:Value→Nat|.string b=>b.size|_=>0
theorem axB {P:Prop} (h:P:=by
 have h2:(Lib.decDigits u).length≤21:=by rw[Lib.decDigits_length];have:=Lib.nDigits_le20 u hu9;omega
 rw[hl3];exact h2):P:=h
theorem avt {P:Prop} (h:P:=by
 have hd:Lib.decDigits v++l=Lib.decDigits u:=by
  rcases hrel with⟨rfl,rfl⟩|⟨h1,h2⟩
  simp;rw[←h2];unfold dig;rw[if_neg (by intro h;exact hgo ⟨h,h1⟩)]
 rw[←Qk,atS]at hd;have HD:=zq hd;have hm:v % 10<10:=by omega
 have jd:l.length≤21:=by
  have h1:=congrArg List.length HD.out;have h2:(Lib.decDigits u).length≤21:=by rw[Lib.decDigits_length];have:=Lib.nDigits_le20 u hu9;omega
  simp only[atv]at h1;omega
 have hx:=Ql (v % 10) hm;have hz:(⟨l.toArray⟩:ByteArray).size=l.length:=rfl;clear hrel hd;by_cases hv0:0<v
 ·go_wp2
  go_round
  case rel=>exact⟨v / 10,UInt8.ofNat (48+v % 10)::l,by go_num,by rw[UInt8.ofNat_add];exact congrArg Value.string (jk [_] l),by omega,.inr ⟨by simp,HD.out⟩⟩
  case measure=>
   have hq:strLen (.string (⟨#[48+UInt8.ofNat (v % 10)]⟩++⟨l.toArray⟩))≠0:=by rw[show (⟨#[48+UInt8.ofNat (v % 10)]⟩:ByteArray)=⟨[48+UInt8.ofNat (v % 10)].toArray⟩ from rfl,jk];simp[strLen,ByteArray.size]
   rw[if_neg hq];simp only[intOf];split<;>omega
 obtain rfl:v=0:=by omega
 obtain rfl:l=[]:=by apply Classical.byContradiction;intro h;exact hgo ⟨rfl,h⟩
 go_wp2
 go_round
 case rel=>exact⟨0,[48],rfl,congrArg Value.string (jk [48] []),by decide,.inr ⟨by simp,HD.out⟩⟩
 case measure=>
  have hq:strLen (.string (⟨#[48]⟩++⟨#[]⟩))≠0:=by decide
  rw[if_neg hq,if_pos (by decide)];decide):P:=h
theorem Fg (n:Int) (w:World) (h0:-9223372036854775808≤n) (h1:n≤9223372036854775807):
  Calls Tryz.prog 125 #[.int .i64 n] w fun e w'=>e=.returned (.string ⟨(Lib.itoa n).toArray⟩)∧Ev w w':=by
 by_cases hn:n<0
 ·obtain⟨u,hu⟩:∃u:Nat,n=-(u:Int):=⟨n.natAbs,by omega⟩
  subst hu;have hw1:wrap64 (-(u:Int)+1)=-(u:Int)+1:=by unfold wrap64;omega
  have e:Lib.itoa (-(u:Int))=45::Lib.decDigits u:=Lib.itoa_neg u (by omega);rw[e];clear e;go_enter Tryz.func125,Tryz.ntmps125;go_wp2;have hu9:u<18446744073709551616:=by omega
  go_loop [3,4] (fun x d=>∃(v:Nat) (l:List UInt8),x=.int .u64 (v:Int)∧d=.string ⟨l.toArray⟩∧v<18446744073709551616∧(l=[]∧v=u∨l≠[]∧dig v++l=Lib.decDigits u)) (fun x d=>if strLen d=0 then 18446744073709551617 else (intOf x).toNat)
  case atStart=>exact⟨u,[],by go_num,rfl,hu9,.inl ⟨rfl,rfl⟩⟩
  case round=>
   obtain⟨v,l,rfl,rfl,hv,hrel⟩:=hrel;by_cases hgo:v=0∧l≠[]
   ·obtain⟨rfl,hl⟩:=hgo;have hl2:dig 0++l=Lib.decDigits u:=by
     rcases hrel with⟨h,_⟩|⟨_,h⟩
     exact absurd h hl;exact h
    have hle:l.isEmpty=false:=by
     cases l
     exact absurd rfl hl;rfl
    have hl3:l=Lib.decDigits u:=by simpa[dig] using hl2
    have jd:l.length≤21:=by exact axB
    have HL:=zq hl3;clear hl2 hl3 hrel;go_wp2;go_ret;rw[←HL.out];exact⟨congrArg (fun x=>Ending.returned (Value.string x)) (jk [45] l),Ev.refl _⟩
   exact avt
 obtain⟨u,hu⟩:∃u:Nat,n=(u:Int):=⟨n.natAbs,by omega⟩
 subst hu;have e:Lib.itoa (u:Int)=Lib.decDigits u:=Lib.itoa_nonneg u;rw[e];clear e;go_enter Tryz.func125,Tryz.ntmps125;go_wp2;have hu9:u<18446744073709551616:=by omega
 go_loop [3,4] (fun x d=>∃(v:Nat) (l:List UInt8),x=.int .u64 (v:Int)∧d=.string ⟨l.toArray⟩∧v<18446744073709551616∧(l=[]∧v=u∨l≠[]∧dig v++l=Lib.decDigits u)) (fun x d=>if strLen d=0 then 18446744073709551617 else (intOf x).toNat)
 case atStart=>exact⟨u,[],by go_num,rfl,hu9,.inl ⟨rfl,rfl⟩⟩
 case round=>
  obtain⟨v,l,rfl,rfl,hv,hrel⟩:=hrel;by_cases hgo:v=0∧l≠[]
  ·obtain⟨rfl,hl⟩:=hgo;have hl2:dig 0++l=Lib.decDigits u:=by
    rcases hrel with⟨h,_⟩|⟨_,h⟩
    exact absurd h hl;exact h
   have hle:l.isEmpty=false:=by
    cases l
    exact absurd rfl hl;rfl
   have hl3:l=Lib.decDigits u:=by simpa[dig] using hl2
   have jd:l.length≤21:=by exact axB
   have HL:=zq hl3;clear hl2 hl3 hrel;go_wp2;go_ret;rw[←HL.out];exact⟨rfl,Ev.refl _⟩
  exact avt
theorem xJ (i:Nat) (h:i<16):(⟨#[48,49,50,51,52,53,54,55,56,57,97,98,99,100,101,102]⟩:ByteArray).extract i (i+1)=⟨#[lI i]⟩:=by
 rw[Lib.extract_eq];have:∀i,i<16→(((⟨#[48,49,50,51,52,53,54,55,56,57,97,98,99,100,101,102]⟩:ByteArray).data.toList.drop i).take (i+1 - i))=[lI i]:=by decide
 rw[this i h]
theorem CB (X:List UInt8) (a b c:UInt8):(⟨X.toArray⟩:ByteArray)++⟨#[a]⟩++⟨#[b]⟩++⟨#[c]⟩=⟨(X++[a,b,c]).toArray⟩:=by have h1:∀x:UInt8,(⟨#[x]⟩:ByteArray)=⟨[x].toArray⟩:=fun _=>rfl;rw[h1,h1,h1,jk,jk,jk];simp
theorem getD_at (s:ByteArray) (k:Nat) (h:k<s.size):s[k]=s.data.toList.getD k 0:=by obtain⟨a⟩:=s;have h2:k<a.size:=h;show a[k]=_;simp[List.getD,h2]
theorem adW (s:ByteArray) (k:Nat) (h:k<s.size) (c:UInt8) (hc:∀hh,s[k]'hh=c):s.extract k (k+1)=⟨#[c]⟩:=by
 have h2:k<s.data.toList.length:=by rw[atU];exact h
 rw[Lib.extract_eq,show k+1 - k=1 by omega,List.take_one,List.head?_drop];have h3:=getD_at s k h;rw[hc h,List.getD,atN h2,Option.getD_some]at h3;rw[atN h2,←h3];rfl
theorem awD {P:Prop} (h:P:=by
 go_wp2
 go_quiet (fail)
 go_wp2;go_roundw
 case rel=>
  refine⟨k+1,by omega,by go_num,?_,hE.trans (Ev.drewN _ _)⟩;rw[HX.out,HP.out];exact congrArg Value.string (CB X 92 (lI (c.toNat / 16)) (lI (c.toNat % 16)))
 case measure=>simp[intOf];omega):P:=h
theorem avM {P:Prop} (h:P:=by
 have hp:lh c=false:=by simp[lh];omega
 have hs:iL c=[92,lI (c.toNat / 16),lI (c.toNat % 16)]:=by simp[iL,hp]
 have HP:=zq hs;clear hp hs;have PU:=xJ (c.toNat / 16) (by omega);have hxb:=xJ (c.toNat % 16) (by omega);exact awD):P:=h
theorem TM (s:ByteArray) (w:World) (hs:s.size≤1000):
  Calls Tryz.prog 187 #[.string s] w fun e w'=>e=.returned (.string ⟨(lV s.data.toList).toArray⟩)∧Ev w w':=by
 have jd:s.data.toList.length=s.size:=by rw[atU];rfl
 go_enter Tryz.func187,Tryz.ntmps187;go_wp2;have HL:=zq jd;clear jd
 go_loopw [3,4] (fun x i wr=>∃k:Nat,k≤s.size∧i=.int .i64 (k:Int)∧x=.string ⟨(34::(s.data.toList.take k).flatMap iL).toArray⟩∧Ev w wr) (fun x i _=>s.size - (intOf i).toNat)
 case atStart=>exact⟨0,atG _,rfl,rfl,Ev.refl _⟩
 case round=>
  obtain⟨k,hk,rfl,rfl,hE⟩:=hrel;have hfl:=flat_length (s.data.toList.take k);have hfk:(s.data.toList.take k).length≤k:=by simp;omega
  obtain⟨X,hX⟩:∃X,X=34::(s.data.toList.take k).flatMap iL:=⟨_,rfl⟩
  have uZ:X.length≤4000:=by rw[hX,atF];omega
  rw[←hX];clear hfl hfk;by_cases hlt:k<s.size
  ·obtain⟨c,hc⟩:∃c,s[k]=c:=⟨_,rfl⟩
   have hidx:∀hh,s[k]'hh=c:=fun _=>hc;have Vz:34::(s.data.toList.take (k+1)).flatMap iL=X++iL c:=by rw[Ed (by rw[HL.out];exact hlt),hX,aue,←getD_at s k hlt,hc]
   have HX:=zq Vz;clear hX Vz hc;have YN:=c.toNat_lt;by_cases h1:(c.toNat:Int)<32;exact avM;by_cases h2:(c.toNat:Int)>126;exact avM;by_cases h3:(c.toNat:Int)=34
   ·have hp:lh c=false:=by simp[lh];omega
    have hs:iL c=[92,lI (c.toNat / 16),lI (c.toNat % 16)]:=by simp[iL,hp]
    have HP:=zq hs;clear hp hs;have PU:=xJ 2 (by decide);have n1:c.toNat / 16=2:=by omega
    have n2:c.toNat % 16=2:=by omega
    have N1:=zq n1;have N2:=zq n2;clear n1 n2;go_wp2
    go_quiet (fail)
    go_wp2;go_roundw
    case rel=>
     refine⟨k+1,by omega,by go_num,?_,hE.trans (Ev.drewN _ _)⟩;rw[HX.out,HP.out,N1.out,N2.out];exact congrArg Value.string (CB X 92 (lI 2) (lI 2))
    case measure=>simp[intOf];omega
   by_cases h4:(c.toNat:Int)=92;have hp:lh c=false:=by simp[lh];omega
   have hs:iL c=[92,lI (c.toNat / 16),lI (c.toNat % 16)]:=by simp[iL,hp]
   have HP:=zq hs;clear hp hs;have PU:(⟨#[48,49,50,51,52,53,54,55,56,57,97,98,99,100,101,102]⟩:ByteArray).extract 5 6=⟨#[lI (c.toNat / 16)]⟩:=by rw[show c.toNat / 16=5 by omega];exact xJ 5 (by decide)
   have hxb:(⟨#[48,49,50,51,52,53,54,55,56,57,97,98,99,100,101,102]⟩:ByteArray).extract 12 13=⟨#[lI (c.toNat % 16)]⟩:=by rw[show c.toNat % 16=12 by omega];exact xJ 12 (by decide)
   exact awD;have hp:lh c=true:=by simp[lh];omega
   have e3:((c.toNat:Int)==34)=false:=atp.2 h3;have e4:((c.toNat:Int)==92)=false:=atp.2 h4;have hs:iL c=[c]:=by simp[iL,hp]
   have HP:=zq hs;clear hp hs;have hxc:s.extract k (k+1)=⟨#[c]⟩:=adW s k hlt c hidx;go_wp2;go_roundw
   case rel=>
    refine⟨k+1,by omega,by go_num,?_,hE⟩;rw[HX.out,HP.out];exact congrArg Value.string (jk X [c])
   case measure=>simp[intOf];omega
  obtain rfl:k=s.size:=by omega
  have hq:X++[34]=lV s.data.toList:=by rw[hX,atJ (by rw[HL.out];exact att _)];rfl
  have HQ:=zq hq;clear hX hq;go_wp2;go_ret;exact⟨by rw[←HQ.out];exact congrArg (fun x=>Ending.returned (Value.string x)) (jk X [34]),hE⟩
theorem WM (k n:Int) (s:ByteArray) (w:World) (h0:-9223372036854775808≤n) (h1:n≤9223372036854775807):
  Calls Tryz.prog 161 #[vv k n s] w fun e w'=>e=.returned (.string ⟨(showV k n s).toArray⟩)∧Ev w w':=by
 have hR:=fun w1=>TL k n s w1;obtain⟨w0,hw0⟩:∃w0,w0=w.alloc (.cells #[.int .i64 k,.int .i64 n,.string s] 200):=⟨_,rfl⟩
 have B:Boxed w.heap.size k n s w0:=hw0▸Boxed.new k n s w;have aT:Ev w w0:=hw0▸Ev.alloc w _
 cases hr:ik k n s
 ·have hv:showV k n s=[63]:=by simp[showV,hr]
  rw[hv];rw[hr]at hR;have HR:=zq hR;clear hR hr hv;go_enter Tryz.func161,Tryz.ntmps161;exact axk
 have hsz:=Ii hr;by_cases hk:k=1
 ·subst hk;have hv:showV 1 n s=Lib.itoa n:=by simp[showV,hr]
  rw[hv];rw[hr]at hR;have HR:=zq hR;have HF:=zq (fun w1=>Fg n w1 h0 h1);clear hR hr hv;go_enter Tryz.func161,Tryz.ntmps161
  go_wp2_with (first|(rw[←hw0];(with_reducible refine (HR.out _).mono ?_);rintro y w1 ⟨rfl,aH⟩;have B1:=B.ev aH;have c0:=B1.c0;have c1:=B1.c1)|((with_reducible refine (HF.out _).mono ?_);rintro y w2 ⟨rfl,bK⟩))
  go_ret;exact⟨rfl,(aT.trans aH).trans bK⟩
 have hv:showV k n s=lV s.data.toList:=by simp[showV,hr,hk]
 rw[hv];rw[hr]at hR;have HR:=zq hR;have HF:=zq (fun w1=>TM s w1 (by omega));clear hR hr hv;go_enter Tryz.func161,Tryz.ntmps161;exact awq
end Go.Proofs.YtpbfokkocaemlaaGreatDoor
