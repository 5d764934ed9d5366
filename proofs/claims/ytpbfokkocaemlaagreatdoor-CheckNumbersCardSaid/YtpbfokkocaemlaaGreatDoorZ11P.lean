import Derived.Lib.ItoaLen
import Derived.Test.YtpbfokkocaemlaaGreatDoorZ5P
import Derived.Test.YtpbfokkocaemlaaGreatDoorZ6P
set_option linter.unusedVariables false
set_option maxRecDepth 100000
set_option maxHeartbeats 64000000
namespace Go.Proofs.YtpbfokkocaemlaaGreatDoor
open Go.RowKit
open Go.Lib renaming hid → zq
open Go renaming World → ak
open Go renaming Value → au
open Go.Proofs.Tryz renaming prog → ax
variable {U:Prop}
open Go.Proofs.Tryz
def dig(v:Nat):List UInt8:=if v=0 then [] else Lib.decDigits v
theorem SB(v:Nat):dig (v / 10)++[UInt8.ofNat (48+v % 10)]=Lib.decDigits v:=by
 unfold dig;by_cases h:v<10;rw[if_pos ae,Lib.decDigits_one h,show v % 10=v by omega];rfl;rw[if_neg ae]
 conv=>rhs;rw[Lib.decDigits,dif_neg h]
theorem SC(i:Nat)(h:i<10):(⟨#[48,49,50,51,52,53,54,55,56,57]⟩:ByteArray).extract i (i+1)=⟨#[UInt8.ofNat (48+i)]⟩:=by rw[Lib.extract_eq];have:∀i,i<10->(((⟨#[48,49,50,51,52,53,54,55,56,57]⟩:ByteArray).data.toList.drop i).take (i+1-i))=[UInt8.ofNat (48+i)]:=ai;rw[this i h]
theorem jS(a b:List UInt8):(⟨a.toArray⟩:ByteArray)++⟨b.toArray⟩=⟨(a++b).toArray⟩:=by apply toList_inj;simp[Lib.toList_data]
def strLen:au->Nat|.string b=>b.size|_=>0
theorem aBf(h:U:=by
 have h2:(Lib.decDigits u).length<=21:=by rw[Lib.decDigits_length];have:=Lib.nDigits_le20 u hu9;omega
 rw[hl3];exact h2):U:=h
theorem ayM(h:U:=by
 have hd:Lib.decDigits v++l=Lib.decDigits u:=by
  rcases hrel with⟨rfl,rfl⟩|⟨h1,h2⟩
  simp;rw[<-h2];unfold dig;rw[if_neg (by intro h;exact hgo ⟨h,h1⟩)]
 rw[<-SB,aw1]at hd;have HD:=zq hd;have hm:v % 10<10:=ae;have jg:l.length<=21:=by
  have h1:=axc List.length HD.out;have h2:(Lib.decDigits u).length<=21:=by rw[Lib.decDigits_length];have:=Lib.nDigits_le20 u hu9;omega
  simp only[awE]at h1;omega
 have hx:=SC (v % 10) hm;have hz:(⟨l.toArray⟩:ByteArray).size=l.length:=rfl;clear hrel hd;by_cases hv0:0<v
 ·go_wp2
  go_round
  case rel=>exact⟨v / 10,UInt8.ofNat (48+v % 10)::l,by go_num,by rw[UInt8.ofNat_add];exact axc Value.string (jS [_] l),ae,.inr ⟨aj,HD.out⟩⟩
  case measure=>
   have hq:strLen (.string (⟨#[48+UInt8.ofNat (v % 10)]⟩++⟨l.toArray⟩))≠0:=by rw[show (⟨#[48+UInt8.ofNat (v % 10)]⟩:ByteArray)=⟨[48+UInt8.ofNat (v % 10)].toArray⟩ from rfl,jS];simp[strLen,ByteArray.size]
   rw[if_neg hq];simp only[intOf];split<;>omega
 obtain rfl:v=0:=ae;obtain rfl:l=[]:=by apply Classical.byContradiction;intro h;exact hgo ⟨rfl,h⟩
 go_wp2
 go_round
 case rel=>exact⟨0,[48],rfl,axc Value.string (jS [48] []),ai,.inr ⟨aj,HD.out⟩⟩
 case measure=>
  have hq:strLen (.string (⟨#[48]⟩++⟨#[]⟩))≠0:=ai;rw[if_neg hq,if_pos ai];decide):U:=h
theorem G7(n:Int)(w:ak)(h0:-9223372036854775808<=n)(h1:n<=9223372036854775807):
  Calls ax 125 #[↑n] w λe w'=>e=.returned (.string ⟨(Lib.itoa n).toArray⟩)/\Ev w w':=by
 by_cases hn:n<0
 ·obtain⟨u,hu⟩:∃u:Nat,n=-(u:Int):=⟨n.natAbs,ae⟩
  subst hu;have hw1:wrap64 (-(u:Int)+1)=-(u:Int)+1:=by unfold wrap64;omega
  have e:Lib.itoa (-(u:Int))=45::Lib.decDigits u:=Lib.itoa_neg u ae;rw[e];clear e;go_enter func125,ntmps125;go_wp2;have hu9:u<18446744073709551616:=ae
  go_loop [3,4] (λx d=>∃(v:Nat) (l:List UInt8),x=.int .u64 (v:Int)/\d=↑l/\v<18446744073709551616/\(l=[]/\v=u∨l≠[]/\dig v++l=Lib.decDigits u)) (λx d=>if strLen d=0 then 18446744073709551617 else (intOf x).toNat)
  case atStart=>exact⟨u,[],by go_num,rfl,hu9,.inl ⟨rfl,rfl⟩⟩
  case round=>
   obtain⟨v,l,rfl,rfl,hv,hrel⟩:=hrel;by_cases hgo:v=0/\l≠[]
   ·obtain⟨rfl,hl⟩:=hgo;have hl2:dig 0++l=Lib.decDigits u:=by
     rcases hrel with⟨h,_⟩|⟨_,h⟩
     exact absurd h hl;exact h
    have hle:l.isEmpty=false:=by
     cases l
     exact absurd rfl hl;rfl
    have hl3:l=Lib.decDigits u:=by simpa[dig] using hl2
    have jg:l.length<=21:=by exact aBf
    have HL:=zq hl3;clear hl2 hl3 hrel;go_wp2;go_ret;rw[<-HL.out];exact⟨axc (λx=>Ending.returned (Value.string x)) (jS [45] l),Ev.refl _⟩
   exact ayM
 obtain⟨u,hu⟩:∃u:Nat,n=(u:Int):=⟨n.natAbs,ae⟩
 subst hu;have e:Lib.itoa (u:Int)=Lib.decDigits u:=Lib.itoa_nonneg u;rw[e];clear e;go_enter func125,ntmps125;go_wp2;have hu9:u<18446744073709551616:=ae
 go_loop [3,4] (λx d=>∃(v:Nat) (l:List UInt8),x=.int .u64 (v:Int)/\d=↑l/\v<18446744073709551616/\(l=[]/\v=u∨l≠[]/\dig v++l=Lib.decDigits u)) (λx d=>if strLen d=0 then 18446744073709551617 else (intOf x).toNat)
 case atStart=>exact⟨u,[],by go_num,rfl,hu9,.inl ⟨rfl,rfl⟩⟩
 case round=>
  obtain⟨v,l,rfl,rfl,hv,hrel⟩:=hrel;by_cases hgo:v=0/\l≠[]
  ·obtain⟨rfl,hl⟩:=hgo;have hl2:dig 0++l=Lib.decDigits u:=by
    rcases hrel with⟨h,_⟩|⟨_,h⟩
    exact absurd h hl;exact h
   have hle:l.isEmpty=false:=by
    cases l
    exact absurd rfl hl;rfl
   have hl3:l=Lib.decDigits u:=by simpa[dig] using hl2
   have jg:l.length<=21:=by exact aBf
   have HL:=zq hl3;clear hl2 hl3 hrel;go_wp2;go_ret;rw[<-HL.out];exact⟨rfl,Ev.refl _⟩
  exact ayM
theorem yP(i:Nat)(h:i<16):(⟨#[48,49,50,51,52,53,54,55,56,57,97,98,99,100,101,102]⟩:ByteArray).extract i (i+1)=⟨#[ny i]⟩:=by rw[Lib.extract_eq];have:∀i,i<16->(((⟨#[48,49,50,51,52,53,54,55,56,57,97,98,99,100,101,102]⟩:ByteArray).data.toList.drop i).take (i+1-i))=[ny i]:=ai;rw[this i h]
theorem D9(X:List UInt8)(a b c:UInt8):(⟨X.toArray⟩:ByteArray)++⟨#[a]⟩++⟨#[b]⟩++⟨#[c]⟩=⟨(X++[a,b,c]).toArray⟩:=by have h1:∀x:UInt8,(⟨#[x]⟩:ByteArray)=⟨[x].toArray⟩:=λ_=>rfl;rw[h1,h1,h1,jS,jS,jS];simp
theorem getD_at(s:ByteArray)(k:Nat)(h:k<s.size):s[k]=s.data.toList.getD k 0:=by obtain⟨a⟩:=s;have h2:k<a.size:=h;show a[k]=_;simp[List.getD,h2]
theorem aha(s:ByteArray)(k:Nat)(h:k<s.size)(c:UInt8)(hc:∀hh,s[k]'hh=c):s.extract k (k+1)=⟨#[c]⟩:=by
 have h2:k<s.data.toList.length:=by rw[aw8];exact h
 rw[Lib.extract_eq,show k+1-k=1 by omega,List.take_one,List.head?_drop];have h3:=getD_at s k h;rw[hc h,List.getD,awX h2,Option.getD_some]at h3;rw[awX h2,<-h3];rfl
theorem az5(h:U:=by
 go_wp2
 go_quiet (fail)
 go_wp2;go_roundw
 case rel=>
  refine⟨k+1,ae,by go_num,?_,hE.trans (Ev.drewN _ _)⟩;rw[HX.out,HP.out];exact axc Value.string (D9 X 92 (ny (c.toNat / 16)) (ny (c.toNat % 16)))
 case measure=>simp[intOf];omega):U:=h
theorem ay8(h:U:=by
 have hp:mQ c=false:=by simp[mQ];omega
 have hs:jb c=[92,ny (c.toNat / 16),ny (c.toNat % 16)]:=by simp[jb,hp]
 have HP:=zq hs;clear hp hs;have RG:=yP (c.toNat / 16) ae;have hxb:=yP (c.toNat % 16) ae;exact az5):U:=h
theorem VD(s:ByteArray)(w:ak)(hs:s.size<=1000):
  Calls ax 187 #[.string s] w λe w'=>e=.returned (.string ⟨(nJ s.data.toList).toArray⟩)/\Ev w w':=by
 have jg:s.data.toList.length=s.size:=by rw[aw8];rfl
 go_enter func187,ntmps187;go_wp2;have HL:=zq jg;clear jg
 go_loopw [3,4] (λx i wr=>∃k:Nat,k<=s.size/\i=↑k/\x=.string ⟨(34::(s.data.toList.take k).flatMap jb).toArray⟩/\Ev w wr) (λx i _=>s.size-(intOf i).toNat)
 case atStart=>exact⟨0,awJ _,rfl,rfl,Ev.refl _⟩
 case round=>
  obtain⟨k,hk,rfl,rfl,hE⟩:=hrel;have hfl:=flat_length (s.data.toList.take k);have hfk:(s.data.toList.take k).length<=k:=by simp;omega
  obtain⟨X,hX⟩:∃X,X=34::(s.data.toList.take k).flatMap jb:=⟨_,rfl⟩
  have wQ:X.length<=4000:=by rw[hX,awR];omega
  rw[<-hX];clear hfl hfk;by_cases hlt:k<s.size
  ·obtain⟨c,hc⟩:∃c,s[k]=c:=⟨_,rfl⟩
   have hidx:∀hh,s[k]'hh=c:=λ_=>hc;have XG:34::(s.data.toList.take (k+1)).flatMap jb=X++jb c:=by rw[F9 (by rw[HL.out];exact hlt),hX,axj,<-getD_at s k hlt,hc]
   have HX:=zq XG;clear hX XG hc;have XH:=c.toNat_lt;by_cases h1:(c.toNat:Int)<32;exact ay8;by_cases h2:(c.toNat:Int)>126;exact ay8;by_cases h3:(c.toNat:Int)=34
   ·have hp:mQ c=false:=by simp[mQ];omega
    have hs:jb c=[92,ny (c.toNat / 16),ny (c.toNat % 16)]:=by simp[jb,hp]
    have HP:=zq hs;clear hp hs;have RG:=yP 2 ai;have n1:c.toNat / 16=2:=ae;have n2:c.toNat % 16=2:=ae;have N1:=zq n1;have N2:=zq n2;clear n1 n2;go_wp2
    go_quiet (fail)
    go_wp2;go_roundw
    case rel=>
     refine⟨k+1,ae,by go_num,?_,hE.trans (Ev.drewN _ _)⟩;rw[HX.out,HP.out,N1.out,N2.out];exact axc Value.string (D9 X 92 (ny 2) (ny 2))
    case measure=>simp[intOf];omega
   by_cases h4:(c.toNat:Int)=92;have hp:mQ c=false:=by simp[mQ];omega
   have hs:jb c=[92,ny (c.toNat / 16),ny (c.toNat % 16)]:=by simp[jb,hp]
   have HP:=zq hs;clear hp hs;have RG:(⟨#[48,49,50,51,52,53,54,55,56,57,97,98,99,100,101,102]⟩:ByteArray).extract 5 6=⟨#[ny (c.toNat / 16)]⟩:=by rw[show c.toNat / 16=5 by omega];exact yP 5 ai
   have hxb:(⟨#[48,49,50,51,52,53,54,55,56,57,97,98,99,100,101,102]⟩:ByteArray).extract 12 13=⟨#[ny (c.toNat % 16)]⟩:=by rw[show c.toNat % 16=12 by omega];exact yP 12 ai
   exact az5;have hp:mQ c=true:=by simp[mQ];omega
   have e3:((c.toNat:Int)==34)=false:=awy.2 h3;have e4:((c.toNat:Int)==92)=false:=awy.2 h4;have hs:jb c=[c]:=by simp[jb,hp]
   have HP:=zq hs;clear hp hs;have hxc:s.extract k (k+1)=⟨#[c]⟩:=aha s k hlt c hidx;go_wp2;go_roundw
   case rel=>
    refine⟨k+1,ae,by go_num,?_,hE⟩;rw[HX.out,HP.out];exact axc Value.string (jS X [c])
   case measure=>simp[intOf];omega
  obtain rfl:k=s.size:=ae;have hq:X++[34]=nJ s.data.toList:=by rw[hX,awS (by rw[HL.out];exact awC _)];rfl
  have HQ:=zq hq;clear hX hq;go_wp2;go_ret;exact⟨by rw[<-HQ.out];exact axc (λx=>Ending.returned (Value.string x)) (jS X [34]),hE⟩
theorem YX(k n:Int)(s:ByteArray)(w:ak)(h0:-9223372036854775808<=n)(h1:n<=9223372036854775807):
  Calls ax 161 #[vv k n s] w λe w'=>e=.returned (.string ⟨(showV k n s).toArray⟩)/\Ev w w':=by
 have hR:=λw1=>VC k n s w1;obtain⟨w0,hw0⟩:∃w0,w0=w.alloc (.cells #[↑k,↑n,.string s] 200):=⟨_,rfl⟩
 have B:Boxed w.heap.size k n s w0:=hw0▸Boxed.new k n s w;have aV:Ev w w0:=hw0▸Ev.alloc w _
 cases hr:iL k n s
 ·have hv:showV k n s=[63]:=by simp[showV,hr]
  rw[hv];rw[hr]at hR;have HR:=zq hR;clear hR hr hv;go_enter func161,ntmps161;exact aAY
 have hsz:=JG hr;by_cases hk:k=1
 ·subst hk;have hv:showV 1 n s=Lib.itoa n:=by simp[showV,hr]
  rw[hv];rw[hr]at hR;have HR:=zq hR;have HF:=zq (λw1=>G7 n w1 h0 h1);clear hR hr hv;go_enter func161,ntmps161
  go_wp2_with (first|(rw[<-hw0];(with_reducible refine(HR.out _).mono ?_);rintro y w1 ⟨rfl,aN⟩;have B1:=B.ev aN;have c0:=B1.c0;have c1:=B1.c1)|((with_reducible refine(HF.out _).mono ?_);rintro y w2 ⟨rfl,bM⟩))
  go_ret;exact⟨rfl,(aV.trans aN).trans bM⟩
 have hv:showV k n s=nJ s.data.toList:=by simp[showV,hr,hk]
 rw[hv];rw[hr]at hR;have HR:=zq hR;have HF:=zq (λw1=>VD s w1 ae);clear hR hr hv;go_enter func161,ntmps161;exact azK
end Go.Proofs.YtpbfokkocaemlaaGreatDoor
