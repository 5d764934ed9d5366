import Derived.Lib.ItoaLen
import Derived.Test.YtpbfokkocaemlaaGreatDoorZ5J
import Derived.Test.YtpbfokkocaemlaaGreatDoorZ6J
set_option linter.unusedVariables false
set_option maxRecDepth 100000
set_option maxHeartbeats 64000000
namespace Go.Proofs.YtpbfokkocaemlaaGreatDoor
open Go.RowKit
open Go.Lib renaming hid → zq
open Go renaming World → ak
open Go renaming Value → au
open Go.Proofs.Tryz renaming prog → ax
variable {U:Prop}
open Go.Proofs.Tryz
def dig(v:Nat):List UInt8:=if v=0 then [] else Lib.decDigits v
theorem RQ(v:Nat):dig (v / 10)++[UInt8.ofNat (48+v % 10)]=Lib.decDigits v:=by
 unfold dig;by_cases h:v<10;rw[if_pos ae,Lib.decDigits_one h,show v % 10=v by omega];rfl;rw[if_neg ae]
 conv=>rhs;rw[Lib.decDigits,dif_neg h]
theorem RS(i:Nat)(h:i<10):(⟨#[48,49,50,51,52,53,54,55,56,57]⟩:ByteArray).extract i (i+1)=⟨#[UInt8.ofNat (48+i)]⟩:=by rw[Lib.extract_eq];have:∀i,i<10->(((⟨#[48,49,50,51,52,53,54,55,56,57]⟩:ByteArray).data.toList.drop i).take (i+1 - i))=[UInt8.ofNat (48+i)]:=ai;rw[this i h]
theorem jK(a b:List UInt8):(⟨a.toArray⟩:ByteArray)++⟨b.toArray⟩=⟨(a++b).toArray⟩:=by apply toList_inj;simp[Lib.toList_data]
def strLen:au->Nat|.string b=>b.size|_=>0
theorem aAi(h:U:=by
 have h2:(Lib.decDigits u).length<=21:=by rw[Lib.decDigits_length];have:=Lib.nDigits_le20 u hu9;omega
 rw[hl3];exact h2):U:=h
theorem ayc(h:U:=by
 have hd:Lib.decDigits v++l=Lib.decDigits u:=by
  rcases hrel with⟨rfl,rfl⟩|⟨h1,h2⟩
  simp;rw[<-h2];unfold dig;rw[if_neg (by intro h;exact hgo ⟨h,h1⟩)]
 rw[<-RQ,awI]at hd;have HD:=zq hd;have hm:v % 10<10:=ae;have jG:l.length<=21:=by
  have h1:=congrArg List.length HD.out;have h2:(Lib.decDigits u).length<=21:=by rw[Lib.decDigits_length];have:=Lib.nDigits_le20 u hu9;omega
  simp only[awl]at h1;omega
 have hx:=RS (v % 10) hm;have hz:(⟨l.toArray⟩:ByteArray).size=l.length:=rfl;clear hrel hd;by_cases hv0:0<v
 ·go_wp2
  go_round
  case rel=>exact⟨v / 10,UInt8.ofNat (48+v % 10)::l,by go_num,by rw[UInt8.ofNat_add];exact congrArg Value.string (jK [_] l),ae,.inr ⟨aj,HD.out⟩⟩
  case measure=>
   have hq:strLen (.string (⟨#[48+UInt8.ofNat (v % 10)]⟩++⟨l.toArray⟩))≠0:=by rw[show (⟨#[48+UInt8.ofNat (v % 10)]⟩:ByteArray)=⟨[48+UInt8.ofNat (v % 10)].toArray⟩ from rfl,jK];simp[strLen,ByteArray.size]
   rw[if_neg hq];simp only[intOf];split<;>omega
 obtain rfl:v=0:=ae;obtain rfl:l=[]:=by apply Classical.byContradiction;intro h;exact hgo ⟨rfl,h⟩
 go_wp2
 go_round
 case rel=>exact⟨0,[48],rfl,congrArg Value.string (jK [48] []),ai,.inr ⟨aj,HD.out⟩⟩
 case measure=>
  have hq:strLen (.string (⟨#[48]⟩++⟨#[]⟩))≠0:=ai;rw[if_neg hq,if_pos ai];decide):U:=h
theorem GL(n:Int)(w:ak)(h0:-9223372036854775808<=n)(h1:n<=9223372036854775807):
  Calls ax 125 #[↑n] w λe w'=>e=.returned (.string ⟨(Lib.itoa n).toArray⟩)/\Ev w w':=by
 by_cases hn:n<0
 ·obtain⟨u,hu⟩:∃u:Nat,n=-(u:Int):=⟨n.natAbs,ae⟩
  subst hu;have hw1:wrap64 (-(u:Int)+1)=-(u:Int)+1:=by unfold wrap64;omega
  have e:Lib.itoa (-(u:Int))=45::Lib.decDigits u:=Lib.itoa_neg u ae;rw[e];clear e;go_enter func125,ntmps125;go_wp2;have hu9:u<18446744073709551616:=ae
  go_loop [3,4] (λx d=>∃(v:Nat) (l:List UInt8),x=.int .u64 (v:Int)/\d=↑l/\v<18446744073709551616/\(l=[]/\v=u∨l≠[]/\dig v++l=Lib.decDigits u)) (λx d=>if strLen d=0 then 18446744073709551617 else (intOf x).toNat)
  case atStart=>exact⟨u,[],by go_num,rfl,hu9,.inl ⟨rfl,rfl⟩⟩
  case round=>
   obtain⟨v,l,rfl,rfl,hv,hrel⟩:=hrel;by_cases hgo:v=0/\l≠[]
   ·obtain⟨rfl,hl⟩:=hgo;have hl2:dig 0++l=Lib.decDigits u:=by
     rcases hrel with⟨h,_⟩|⟨_,h⟩
     exact absurd h hl;exact h
    have hle:l.isEmpty=false:=by
     cases l
     exact absurd rfl hl;rfl
    have hl3:l=Lib.decDigits u:=by simpa[dig] using hl2
    have jG:l.length<=21:=by exact aAi
    have HL:=zq hl3;clear hl2 hl3 hrel;go_wp2;go_ret;rw[<-HL.out];exact⟨congrArg (λx=>Ending.returned (Value.string x)) (jK [45] l),Ev.refl _⟩
   exact ayc
 obtain⟨u,hu⟩:∃u:Nat,n=(u:Int):=⟨n.natAbs,ae⟩
 subst hu;have e:Lib.itoa (u:Int)=Lib.decDigits u:=Lib.itoa_nonneg u;rw[e];clear e;go_enter func125,ntmps125;go_wp2;have hu9:u<18446744073709551616:=ae
 go_loop [3,4] (λx d=>∃(v:Nat) (l:List UInt8),x=.int .u64 (v:Int)/\d=↑l/\v<18446744073709551616/\(l=[]/\v=u∨l≠[]/\dig v++l=Lib.decDigits u)) (λx d=>if strLen d=0 then 18446744073709551617 else (intOf x).toNat)
 case atStart=>exact⟨u,[],by go_num,rfl,hu9,.inl ⟨rfl,rfl⟩⟩
 case round=>
  obtain⟨v,l,rfl,rfl,hv,hrel⟩:=hrel;by_cases hgo:v=0/\l≠[]
  ·obtain⟨rfl,hl⟩:=hgo;have hl2:dig 0++l=Lib.decDigits u:=by
    rcases hrel with⟨h,_⟩|⟨_,h⟩
    exact absurd h hl;exact h
   have hle:l.isEmpty=false:=by
    cases l
    exact absurd rfl hl;rfl
   have hl3:l=Lib.decDigits u:=by simpa[dig] using hl2
   have jG:l.length<=21:=by exact aAi
   have HL:=zq hl3;clear hl2 hl3 hrel;go_wp2;go_ret;rw[<-HL.out];exact⟨rfl,Ev.refl _⟩
  exact ayc
theorem yF(i:Nat)(h:i<16):(⟨#[48,49,50,51,52,53,54,55,56,57,97,98,99,100,101,102]⟩:ByteArray).extract i (i+1)=⟨#[mD i]⟩:=by rw[Lib.extract_eq];have:∀i,i<16->(((⟨#[48,49,50,51,52,53,54,55,56,57,97,98,99,100,101,102]⟩:ByteArray).data.toList.drop i).take (i+1 - i))=[mD i]:=ai;rw[this i h]
theorem DR(X:List UInt8)(a b c:UInt8):(⟨X.toArray⟩:ByteArray)++⟨#[a]⟩++⟨#[b]⟩++⟨#[c]⟩=⟨(X++[a,b,c]).toArray⟩:=by have h1:∀x:UInt8,(⟨#[x]⟩:ByteArray)=⟨[x].toArray⟩:=λ_=>rfl;rw[h1,h1,h1,jK,jK,jK];simp
theorem getD_at(s:ByteArray)(k:Nat)(h:k<s.size):s[k]=s.data.toList.getD k 0:=by obtain⟨a⟩:=s;have h2:k<a.size:=h;show a[k]=_;simp[List.getD,h2]
theorem afJ(s:ByteArray)(k:Nat)(h:k<s.size)(c:UInt8)(hc:∀hh,s[k]'hh=c):s.extract k (k+1)=⟨#[c]⟩:=by
 have h2:k<s.data.toList.length:=by rw[awK];exact h
 rw[Lib.extract_eq,show k+1 - k=1 by omega,List.take_one,List.head?_drop];have h3:=getD_at s k h;rw[hc h,List.getD,awE h2,Option.getD_some]at h3;rw[awE h2,<-h3];rfl
theorem azg(h:U:=by
 go_wp2
 go_quiet (fail)
 go_wp2;go_roundw
 case rel=>
  refine⟨k+1,ae,by go_num,?_,hE.trans (Ev.drewN _ _)⟩;rw[HX.out,HP.out];exact congrArg Value.string (DR X 92 (mD (c.toNat / 16)) (mD (c.toNat % 16)))
 case measure=>simp[intOf];omega):U:=h
theorem ayw(h:U:=by
 have hp:lZ c=false:=by simp[lZ];omega
 have hs:iV c=[92,mD (c.toNat / 16),mD (c.toNat % 16)]:=by simp[iV,hp]
 have HP:=zq hs;clear hp hs;have IV:=yF (c.toNat / 16) ae;have hxb:=yF (c.toNat % 16) ae;exact azg):U:=h
theorem Vh(s:ByteArray)(w:ak)(hs:s.size<=1000):
  Calls ax 187 #[.string s] w λe w'=>e=.returned (.string ⟨(mX s.data.toList).toArray⟩)/\Ev w w':=by
 have jG:s.data.toList.length=s.size:=by rw[awK];rfl
 go_enter func187,ntmps187;go_wp2;have HL:=zq jG;clear jG
 go_loopw [3,4] (λx i wr=>∃k:Nat,k<=s.size/\i=↑k/\x=.string ⟨(34::(s.data.toList.take k).flatMap iV).toArray⟩/\Ev w wr) (λx i _=>s.size - (intOf i).toNat)
 case atStart=>exact⟨0,aww _,rfl,rfl,Ev.refl _⟩
 case round=>
  obtain⟨k,hk,rfl,rfl,hE⟩:=hrel;have hfl:=flat_length (s.data.toList.take k);have hfk:(s.data.toList.take k).length<=k:=by simp;omega
  obtain⟨X,hX⟩:∃X,X=34::(s.data.toList.take k).flatMap iV:=⟨_,rfl⟩
  have wK:X.length<=4000:=by rw[hX,awr];omega
  rw[<-hX];clear hfl hfk;by_cases hlt:k<s.size
  ·obtain⟨c,hc⟩:∃c,s[k]=c:=⟨_,rfl⟩
   have hidx:∀hh,s[k]'hh=c:=λ_=>hc;have Xl:34::(s.data.toList.take (k+1)).flatMap iV=X++iV c:=by rw[Fq (by rw[HL.out];exact hlt),hX,awV,<-getD_at s k hlt,hc]
   have HX:=zq Xl;clear hX Xl hc;have hcn:=c.toNat_lt;by_cases h1:(c.toNat:Int)<32;exact ayw;by_cases h2:(c.toNat:Int)>126;exact ayw;by_cases h3:(c.toNat:Int)=34
   ·have hp:lZ c=false:=by simp[lZ];omega
    have hs:iV c=[92,mD (c.toNat / 16),mD (c.toNat % 16)]:=by simp[iV,hp]
    have HP:=zq hs;clear hp hs;have IV:=yF 2 ai;have n1:c.toNat / 16=2:=ae;have n2:c.toNat % 16=2:=ae;have N1:=zq n1;have N2:=zq n2;clear n1 n2;go_wp2
    go_quiet (fail)
    go_wp2;go_roundw
    case rel=>
     refine⟨k+1,ae,by go_num,?_,hE.trans (Ev.drewN _ _)⟩;rw[HX.out,HP.out,N1.out,N2.out];exact congrArg Value.string (DR X 92 (mD 2) (mD 2))
    case measure=>simp[intOf];omega
   by_cases h4:(c.toNat:Int)=92;have hp:lZ c=false:=by simp[lZ];omega
   have hs:iV c=[92,mD (c.toNat / 16),mD (c.toNat % 16)]:=by simp[iV,hp]
   have HP:=zq hs;clear hp hs;have IV:(⟨#[48,49,50,51,52,53,54,55,56,57,97,98,99,100,101,102]⟩:ByteArray).extract 5 6=⟨#[mD (c.toNat / 16)]⟩:=by rw[show c.toNat / 16=5 by omega];exact yF 5 ai
   have hxb:(⟨#[48,49,50,51,52,53,54,55,56,57,97,98,99,100,101,102]⟩:ByteArray).extract 12 13=⟨#[mD (c.toNat % 16)]⟩:=by rw[show c.toNat % 16=12 by omega];exact yF 12 ai
   exact azg;have hp:lZ c=true:=by simp[lZ];omega
   have e3:((c.toNat:Int)==34)=false:=awg.2 h3;have e4:((c.toNat:Int)==92)=false:=awg.2 h4;have hs:iV c=[c]:=by simp[iV,hp]
   have HP:=zq hs;clear hp hs;have hxc:s.extract k (k+1)=⟨#[c]⟩:=afJ s k hlt c hidx;go_wp2;go_roundw
   case rel=>
    refine⟨k+1,ae,by go_num,?_,hE⟩;rw[HX.out,HP.out];exact congrArg Value.string (jK X [c])
   case measure=>simp[intOf];omega
  obtain rfl:k=s.size:=ae;have hq:X++[34]=mX s.data.toList:=by rw[hX,awC (by rw[HL.out];exact awj _)];rfl
  have HQ:=zq hq;clear hX hq;go_wp2;go_ret;exact⟨by rw[<-HQ.out];exact congrArg (λx=>Ending.returned (Value.string x)) (jK X [34]),hE⟩
theorem Yq(k n:Int)(s:ByteArray)(w:ak)(h0:-9223372036854775808<=n)(h1:n<=9223372036854775807):
  Calls ax 161 #[vv k n s] w λe w'=>e=.returned (.string ⟨(showV k n s).toArray⟩)/\Ev w w':=by
 have hR:=λw1=>Vg k n s w1;obtain⟨w0,hw0⟩:∃w0,w0=w.alloc (.cells #[↑k,↑n,.string s] 200):=⟨_,rfl⟩
 have B:Boxed w.heap.size k n s w0:=hw0▸Boxed.new k n s w;have aW:Ev w w0:=hw0▸Ev.alloc w _
 cases hr:iG k n s
 ·have hv:showV k n s=[63]:=by simp[showV,hr]
  rw[hv];rw[hr]at hR;have HR:=zq hR;clear hR hr hv;go_enter func161,ntmps161;exact az2
 have hsz:=Jw hr;by_cases hk:k=1
 ·subst hk;have hv:showV 1 n s=Lib.itoa n:=by simp[showV,hr]
  rw[hv];rw[hr]at hR;have HR:=zq hR;have HF:=zq (λw1=>GL n w1 h0 h1);clear hR hr hv;go_enter func161,ntmps161
  go_wp2_with (first|(rw[<-hw0];(with_reducible refine(HR.out _).mono ?_);rintro y w1 ⟨rfl,aK⟩;have B1:=B.ev aK;have c0:=B1.c0;have c1:=B1.c1)|((with_reducible refine(HF.out _).mono ?_);rintro y w2 ⟨rfl,bQ⟩))
  go_ret;exact⟨rfl,(aW.trans aK).trans bQ⟩
 have hv:showV k n s=mX s.data.toList:=by simp[showV,hr,hk]
 rw[hv];rw[hr]at hR;have HR:=zq hR;have HF:=zq (λw1=>Vh s w1 ae);clear hR hr hv;go_enter func161,ntmps161;exact ay6
end Go.Proofs.YtpbfokkocaemlaaGreatDoor
