import Derived.Test.YtpbfokkocaemlaaGreatDoorRows
import Derived.Lib.SmallJoins
import Derived.Test.YtpbfokkocaemlaaGreatDoorZ4P
set_option linter.unusedVariables false
set_option maxRecDepth 100000
set_option maxHeartbeats 64000000
namespace Go.Proofs.YtpbfokkocaemlaaGreatDoor
open Go.RowKit
open Go.Lib renaming hid → zq
open Go renaming World → ak
open Go renaming Value → au
open Go.Proofs.Tryz renaming prog → ax
variable {U:Prop}
open Go.Proofs.Tryz
open Go.RowKit Go.WideShapes Go.ChangeShapes
section
variable {H:Type} {enc:TypeId×au->H} {w:ak} {base:Nat} {sp:Nat->Bool} {held:Bool}
end
theorem toList_inj{s t:ByteArray}(h:s.toList=t.toList):s=t:=by obtain⟨⟨x⟩⟩:=s;obtain⟨⟨y⟩⟩:=t;simpa using h
structure Sl{α:Type}(k:Nat)(enc:α->List au)(w:ak)(A:Option Addr)(n cap:Nat)(l:List α):Prop where
 len:l.length=n
 le:n<=cap
 max:cap<=9223372036854775807
 nil:A=none->n=0/\cap=0
 rd:0<n->∃b off,A=some ⟨b,off,none⟩/\b<w.heap.size/\∀i x,l[i]?=some x->∀j u,(enc x)[j]?=some u->w.cell? ⟨b,off+i*k+j,none⟩=some u
section
variable {α:Type} {k:Nat} {enc:α->List au} {w w':ak} {A:Option Addr} {n cap:Nat} {l:List α}
theorem Sl.below(h:Sl k enc w A n cap l)(hb:Below w.heap.size w w'):Sl k enc w' A n cap l:=
 ⟨h.len,h.le,h.max,h.nil,λhn=>by
  obtain⟨b,off,e,hlt,hc⟩:=h.rd hn;exact⟨b,off,e,awU hlt hb.size,λi x hx j u hu=>(hb.cell (p:=⟨b,off+i*k+j,none⟩) hlt).trans (hc i x hx j u hu)⟩⟩
theorem Sl.ev(h:Sl k enc w A n cap l)(hb:Ev w w'):Sl k enc w' A n cap l:=h.below hb
theorem Sl.but{K:List Nat}(h:Sl k enc w A n cap l)(hb:But K w w')(hA:∀ad,A=some ad->ad.block∉K):Sl k enc w' A n cap l:=
 ⟨h.len,h.le,h.max,h.nil,λhn=>by
  obtain⟨b,off,e,hlt,hc⟩:=h.rd hn;refine⟨b,off,e,awU hlt hb.size,λi x hx j u hu=>?_⟩;rw[World.cell?_of_block (w:=w) (hb.block b hlt (hA _ e))];exact hc i x hx j u hu⟩
theorem Sl.nil_(w:ak):Sl k enc w none 0 0 ([]:List α):=⟨rfl,awC _,ae,λ_=>⟨rfl,rfl⟩,λh=>absurd h ae⟩
theorem Sl.to(h:Sl k enc w A n cap l)(m:Nat)(hm:m<=n):Sl k enc w A m cap (l.take m):=
 ⟨by rw[axa,h.len];omega,aw0 hm h.le,h.max,λe=>by have:=h.nil e;omega,λh0=>by
  obtain⟨b,off,e,hlt,hc⟩:=h.rd ae;refine⟨b,off,e,hlt,λi x hx j u hu=>hc i x ?_ j u hu⟩;rw[List.getElem?_take]at hx;split at hx;exact hx
  cases hx⟩
theorem Sl.at(h:Sl k enc w A n cap l){i:Nat}(hi:i<n):∃x,l[i]?=some x:=⟨_,awX (by rw[h.len];exact hi)⟩
end
abbrev V:=Int×Int×ByteArray
abbrev C:=ByteArray×Int
def ag1(x:V):List au:=[.int .i64 x.1,.int .i64 x.2.1,.string x.2.2]
def dM(x:C):List au:=[.string x.1,.int .i64 x.2]
abbrev Vs:=Sl 3 ag1
abbrev Cs:=Sl 2 dM
theorem Sl.aqe{w:ak}{A:Option Addr}{n cap:Nat}{l:List V}(h:Vs w A n cap l){i:Nat}(hi:i<n):
  ∃b off x,A=some ⟨b,off,none⟩/\b<w.heap.size/\l[i]?=some x/\w.cell? ⟨b,off+i*3,none⟩=some (.int .i64 x.1)/\w.cell? ⟨b,off+i*3+1,none⟩=some (.int .i64 x.2.1)/\w.cell? ⟨b,off+i*3+2,none⟩=some (.string x.2.2):=by
 obtain⟨x,hx⟩:=h.at hi;obtain⟨b,off,e,hlt,hc⟩:=h.rd ae;exact⟨b,off,x,e,hlt,hx,hc i x hx 0 _ rfl,hc i x hx 1 _ rfl,hc i x hx 2 _ rfl⟩
theorem Sl.Oj{w:ak}{A:Option Addr}{n cap:Nat}{l:List C}(h:Cs w A n cap l){i:Nat}(hi:i<n):
  ∃b off x,A=some ⟨b,off,none⟩/\b<w.heap.size/\l[i]?=some x/\w.cell? ⟨b,off+i*2,none⟩=some (.string x.1)/\w.cell? ⟨b,off+i*2+1,none⟩=some (.int .i64 x.2):=by
 obtain⟨x,hx⟩:=h.at hi;obtain⟨b,off,e,hlt,hc⟩:=h.rd ae;exact⟨b,off,x,e,hlt,hx,hc i x hx 0 _ rfl,hc i x hx 1 _ rfl⟩
abbrev By:=List UInt8
inductive T where
 | mk (kind:Int) (s:By) (n:Int) (kids:List T) (pos:Nat):T
def T.kind:T->Int
 | .mk k _ _ _ _=>k
def T.s:T->By
 | .mk _ s _ _ _=>s
def T.n:T->Int
 | .mk _ _ n _ _=>n
def T.kids:T->List T
 | .mk _ _ _ l _=>l
def T.pos:T->Nat
 | .mk _ _ _ _ p=>p
def T.add(e t:T):T:=.mk e.kind e.s e.n (e.kids++[t]) e.pos
def eu:T:=.mk 0 [] 0 [] 0
structure Tk where
 kind:Int
 s:By
 n:Int
 size:Nat
 why:Int
 fault:Nat
def Tk.tree(x:Tk)(pos:Nat):T:=.mk x.kind x.s x.n [] pos
def sxRun(p:UInt8->Bool):By->Nat
 | []=>0
 | c::l=>if p c then sxRun p l+1 else 0
def dN(c:UInt8):Bool:=c.toNat==32||c.toNat==10
def bG(c:UInt8):Bool:=decide (97<=c.toNat)&&decide (c.toNat<=122)
def bg(c:UInt8):Bool:=decide (48<=c.toNat)&&decide (c.toNat<=57)
def dD(c:UInt8):Bool:=decide (32<=c.toNat)&&decide (c.toNat<=126)&&!(c.toNat==34)&&!(c.toNat==92)
def bf(why:Int)(fault:Nat):Tk:=⟨0,[],0,0,why,fault⟩
def sxBelow:By->Int->Option Int
 | [],n=>some n
 | c::l,n=>if n < -((9223372036854775808-((c.toNat:Int)-48)) / 10) then none else sxBelow l (n*10-((c.toNat:Int)-48))
def dR(l:By):By:=l.take (sxRun bg l)
def sxNum(plus:Bool)(d:By):Tk:=
 match sxBelow d 0 with
 | none=>bf 12 0
 | some n=>if d.isEmpty||plus&&decide (n=-9223372036854775808) then bf 12 0 else if plus then ⟨3,[],-n,d.length,0,0⟩ else ⟨3,[],n,1+d.length,0,0⟩
def dW:By->Tk
 | []=>sxNum true []
 | c::q=>if c.toNat==45 then sxNum false (dR q) else sxNum true (dR (c::q))
def iG(c:UInt8):Option Nat:=
 if 48<=c.toNat/\c.toNat<=57 then some (c.toNat-48) else if 97<=c.toNat/\c.toNat<=102 then some (c.toNat-87) else none
def sxEscaped:By->UInt8×Int
 | []=>(0,10)
 | x::q=>match iG x with
  | none=>(0,12)
  | some a=>match q with
   | []=>(0,10)
   | y::_=>match iG y with
    | none=>(0,12)
    | some b=>(UInt8.ofNat (16*a+b),0)
def sxTextGo:By->By->Nat->Tk
 | _,[],i=>bf 10 i
 | b,c::q,i=>
  if dD c then sxTextGo (b++[c]) q (i+1)
  else if c.toNat==92 then
   match q with
   | []=>bf 10 (i+1)
   | x::q1=>match iG x with
    | none=>bf 12 i
    | some h=>match q1 with
     | []=>bf 10 (i+2)
     | y::q2=>match iG y with
      | none=>bf 12 i
      | some k=>sxTextGo (b++[UInt8.ofNat (16*h+k)]) q2 (i+3)
  else if c.toNat==34 then (if 40<b.length then bf 3 0 else ⟨4,b,0,i+1,0,0⟩)
  else bf 12 i
def bW:By->Tk
 | []=>bf 12 0
 | c::q=>
  if c.toNat==40 then ⟨1,[],0,1,0,0⟩
  else if c.toNat==41 then ⟨-1,[],0,1,0,0⟩
  else if c.toNat==34 then sxTextGo [] q 1
  else if c.toNat==45||bg c then dW (c::q)
  else if bG c then ⟨2,(c::q).take (sxRun bG (c::q)),0,sxRun bG (c::q),0,0⟩
  else bf 12 0
def sxDone:List T->Bool
 | []=>false
 | e::_=>!e.kids.isEmpty
def iU(os:List T)(x:Tk):Int×Nat:=
 if !(x.why==0)&&!(sxDone os&&decide (0<x.fault)) then (x.why,x.fault)
 else if x.kind==-1&&os.length==1 then (12,0)
 else if !(x.kind==-1)&&sxDone os then (11,0)
 else if x.kind==1&&decide (12<os.length) then (14,0)
 else (0,0)
def sxPut:List T->T->List T
 | [],_=>[]
 | [e],t=>[e.add t]
 | e::e'::os,t=>e::sxPut (e'::os) t
def sxTake(os:List T)(t:T):List T:=
 if t.kind==1 then os++[t]
 else if t.kind==-1 then (match os.getLast? with|none=>os|some e=>sxPut os.dropLast e)
 else sxPut os t
abbrev Res:=T×Int×Nat
def kV(os:List T)(pos:Nat):Res:=
 match os with
 | []=>(eu,10,pos)
 | e::_=>match e.kids with
  | []=>(eu,10,pos)
  | t::_=>(t,0,0)
def sxGo:Nat->List T->By->Nat->Res
 | 0,_,_,_=>(eu,12,0)
 | f+1,os,r,pos=>
  match r.drop (sxRun dN r) with
  | []=>kV os (pos+sxRun dN r)
  | c::q=>
   if (iU os (bW (c::q))).1==0 then
    sxGo f (sxTake os ((bW (c::q)).tree (pos+sxRun dN r))) ((c::q).drop (bW (c::q)).size) (pos+sxRun dN r+(bW (c::q)).size)
   else (eu,(iU os (bW (c::q))).1,pos+sxRun dN r+(iU os (bW (c::q))).2)
def fF(l:By):Res:=if 600<l.length then (eu,3,0) else sxGo (l.length+1) [eu] l 0
theorem jW(p:UInt8->Bool):∀l:By,sxRun p l<=l.length
 | []=>awC _
 | c::l=>by unfold sxRun;have:=jW p l;split<;>simp<;>omega
theorem nI(p:UInt8->Bool):∀(l:By) (k:Nat) (c:UInt8),l[k]?=some c->sxRun p (l.drop k)=if p c then sxRun p (l.drop (k+1))+1 else 0
 | [],k,c,h=>by simp at h
 | x::l,0,c,h=>by simp at h;subst h;simp[sxRun]
 | x::l,k+1,c,h=>by have:=nI p l k c (by simpa using h);simpa using this
theorem FV(p:UInt8->Bool):∀l:By,∀c∈l.take (sxRun p l),p c=true
 | [],c,h=>by simp[sxRun]at h
 | x::l,c,h=>by unfold sxRun at h;split at h;rename_i hx;rw[axz]at h;rcases awN.1 h with rfl|h;exact hx;exact FV p l c h;simp at h
theorem Jq(p:UInt8->Bool):∀(l:By) (c:UInt8),l[sxRun p l]?=some c->p c=false
 | [],c,h=>by simp at h
 | x::l,c,h=>by unfold sxRun at h;split at h;exact Jq p l c (by simpa using h);rename_i hx;simp at h;subst h;simpa using hx
theorem pF:∀(os:List T) (e t:T),sxPut (os++[e]) t=os++[e.add t]
 | [],e,t=>rfl
 | [a],e,t=>rfl
 | a::b::os,e,t=>by have:=pF (b::os) e t;simp only[axj]at this|-;unfold sxPut;rw[this]
theorem D6:∀(r b:By) (i:Nat),sxTextGo b r i=sxTextGo (b++r.take (sxRun dD r)) (r.drop (sxRun dD r)) (i+sxRun dD r)
 | [],b,i=>by simp[sxRun]
 | c::q,b,i=>by
  by_cases h:dD c=true;have e:sxRun dD (c::q)=sxRun dD q+1:=by simp[sxRun,h]
  rw[e,axz,axb]
  conv=>lhs;unfold sxTextGo
  simp only[h,aw4];rw[D6 q (b++[c]) (i+1)];rw[aw1,List.singleton_append,show i+1+sxRun dD q=i+(sxRun dD q+1) by omega];have e:sxRun dD (c::q)=0:=by simp[sxRun,h]
  rw[e];simp
theorem Vq(s:ByteArray)(k:Nat)(h:k<s.size):s[k]=s.data.toList.getD k 0:=by obtain⟨a⟩:=s;have h2:k<a.size:=h;show a[k]=_;simp[List.getD,h2]
theorem sK(s:ByteArray)(k:Nat)(h:k<s.size):s.data.toList[k]?=some s[k]:=by
 rw[Vq s k h];have h2:k<s.data.toList.length:=by rw[aw8];exact h
 simp[List.getD,awX h2]
theorem Vr(c:UInt8)(w:ak):
  Calls ax 106 #[.int .u8 (c.toNat:Int)] w λe w'=>e=.returned (.bool (dN c))/\w=w':=by
 by_cases h1:(c.toNat:Int)=32
 ·have e:dN c=true:=by unfold dN;simp;omega
  rw[e];go_enter func106,ntmps106;go_wp2;go_ret;exact⟨rfl,rfl⟩
 have e:dN c=((c.toNat:Int)==10):=by unfold dN;rw[axv];simp;omega
 have h1':((c.toNat:Int)==32)=false:=awy.2 h1;rw[e];go_enter func106,ntmps106;go_wp2;go_ret;exact⟨rfl,rfl⟩
theorem GZ(c:UInt8)(w:ak):
  Calls ax 148 #[.int .u8 (c.toNat:Int)] w λe w'=>e=.returned (.bool (bG c))/\w=w':=by
 by_cases h1:(97:Int)<=(c.toNat:Int)
 ·have e:bG c=decide ((c.toNat:Int)<=122):=by unfold bG;rw[axv];simp;omega
  rw[e];go_enter func148,ntmps148;go_wp2;go_ret;exact⟨rfl,rfl⟩
 have e:bG c=false:=by unfold bG;rw[axv];simp;omega
 rw[e];go_enter func148,ntmps148;go_wp2;go_ret;exact⟨rfl,rfl⟩
theorem Jr(c:UInt8)(w:ak):
  Calls ax 146 #[.int .u8 (c.toNat:Int)] w λe w'=>e=.returned (.bool (bg c))/\w=w':=by
 by_cases h1:(48:Int)<=(c.toNat:Int)
 ·have e:bg c=decide ((c.toNat:Int)<=57):=by unfold bg;rw[axv];simp;omega
  rw[e];go_enter func146,ntmps146;go_wp2;go_ret;exact⟨rfl,rfl⟩
 have e:bg c=false:=by unfold bg;rw[axv];simp;omega
 rw[e];go_enter func146,ntmps146;go_wp2;go_ret;exact⟨rfl,rfl⟩
theorem aA5(h:U:=by
 have e:dD c=false:=by unfold dD;rw[axv];simp;omega
 rw[e];go_enter func176,ntmps176;go_wp2;go_ret;exact⟨rfl,rfl⟩):U:=h
theorem Vt(c:UInt8)(w:ak):
  Calls ax 176 #[.int .u8 (c.toNat:Int)] w λe w'=>e=.returned (.bool (dD c))/\w=w':=by
 by_cases h1:(32:Int)<=(c.toNat:Int)
 ·by_cases h2:(c.toNat:Int)<=126
  ·by_cases h3:(c.toNat:Int)=34;exact aA5;have e:dD c=((c.toNat:Int) !=34&&(c.toNat:Int) !=92):=by unfold dD;rw[axv];simp;omega
   rw[e];go_enter func176,ntmps176;go_wp2;go_ret;exact⟨rfl,rfl⟩
  exact aA5
 exact aA5
theorem aAw(h:U:=by
 rw[hp]at HC HS;have HC:=zq HC;clear hp
 go_wp2_with (first|((with_reducible refine(HC.out _).mono ?_);rintro x w1 ⟨rfl,rfl⟩))
 go_ret;refine⟨?_,rfl⟩;rw[HK.out,HS.out];rfl):U:=h
theorem azN(h:U:=by
 rw[hp]at HC HS;have HC:=zq HC;clear hp
 go_wp2_with (first|((with_reducible refine(HC.out _).mono ?_);rintro x w1 ⟨rfl,rfl⟩))
 go_round
 case rel=>exact⟨k+1,ae,by go_num,zq (by rw[HK.out,HS.out];simp only[aw4];omega)⟩
 case measure=>simp[intOf];omega):U:=h
theorem Js(s:ByteArray)(w:ak)(hs:s.size<=9223372036854775806):
  Calls ax 105 #[.string s,.func (.func 106) #[] #[]] w λe w'=>e=.returned (.int .i64 (sxRun dN s.data.toList:Int))/\w=w':=by
 have jg:s.data.toList.length=s.size:=by rw[aw8];rfl
 have HL:=zq jg;clear jg;have HP:=zq Vr;go_enter func105,ntmps105;go_wp2
 go_loop [5] (λi=>∃k:Nat,k<=s.size/\i=↑k/\Hid (sxRun dN s.data.toList=k+sxRun dN (s.data.toList.drop k))) (λi=>s.size-(intOf i).toNat)
 case atStart=>exact⟨0,awJ _,rfl,zq aj⟩
 case round=>
  obtain⟨k,hk,rfl,HK⟩:=hrel;by_cases hlt:k<s.size;have HS:=zq (nI dN s.data.toList k _ (sK s k hlt));obtain⟨c,hc⟩:∃c,s[k]=c:=⟨_,rfl⟩
  have hidx:∀hh,s[k]'hh=c:=λ_=>hc;rw[hc]at HS;clear hc;have HC:=HP.out c
  cases hp:dN c
  exact aAw;exact azN;obtain rfl:k=s.size:=ae;have HZ:Hid (sxRun dN s.data.toList=s.size):=zq (by rw[HK.out,axm (by rw[HL.out];exact awC _)];rfl);clear HK;go_wp2;go_ret;rw[HZ.out];exact⟨rfl,rfl⟩
theorem Ip(s:ByteArray)(w:ak)(hs:s.size<=9223372036854775806):
  Calls ax 105 #[.string s,.func (.func 148) #[] #[]] w λe w'=>e=.returned (.int .i64 (sxRun bG s.data.toList:Int))/\w=w':=by
 have jg:s.data.toList.length=s.size:=by rw[aw8];rfl
 have HL:=zq jg;clear jg;have HP:=zq GZ;go_enter func105,ntmps105;go_wp2
 go_loop [5] (λi=>∃k:Nat,k<=s.size/\i=↑k/\Hid (sxRun bG s.data.toList=k+sxRun bG (s.data.toList.drop k))) (λi=>s.size-(intOf i).toNat)
 case atStart=>exact⟨0,awJ _,rfl,zq aj⟩
 case round=>
  obtain⟨k,hk,rfl,HK⟩:=hrel;by_cases hlt:k<s.size;have HS:=zq (nI bG s.data.toList k _ (sK s k hlt));obtain⟨c,hc⟩:∃c,s[k]=c:=⟨_,rfl⟩
  have hidx:∀hh,s[k]'hh=c:=λ_=>hc;rw[hc]at HS;clear hc;have HC:=HP.out c
  cases hp:bG c
  exact aAw;exact azN;obtain rfl:k=s.size:=ae;have HZ:Hid (sxRun bG s.data.toList=s.size):=zq (by rw[HK.out,axm (by rw[HL.out];exact awC _)];rfl);clear HK;go_wp2;go_ret;rw[HZ.out];exact⟨rfl,rfl⟩
theorem Jt(s:ByteArray)(w:ak)(hs:s.size<=9223372036854775806):
  Calls ax 105 #[.string s,.func (.func 146) #[] #[]] w λe w'=>e=.returned (.int .i64 (sxRun bg s.data.toList:Int))/\w=w':=by
 have jg:s.data.toList.length=s.size:=by rw[aw8];rfl
 have HL:=zq jg;clear jg;have HP:=zq Jr;go_enter func105,ntmps105;go_wp2
 go_loop [5] (λi=>∃k:Nat,k<=s.size/\i=↑k/\Hid (sxRun bg s.data.toList=k+sxRun bg (s.data.toList.drop k))) (λi=>s.size-(intOf i).toNat)
 case atStart=>exact⟨0,awJ _,rfl,zq aj⟩
 case round=>
  obtain⟨k,hk,rfl,HK⟩:=hrel;by_cases hlt:k<s.size;have HS:=zq (nI bg s.data.toList k _ (sK s k hlt));obtain⟨c,hc⟩:∃c,s[k]=c:=⟨_,rfl⟩
  have hidx:∀hh,s[k]'hh=c:=λ_=>hc;rw[hc]at HS;clear hc;have HC:=HP.out c
  cases hp:bg c
  exact aAw;exact azN;obtain rfl:k=s.size:=ae;have HZ:Hid (sxRun bg s.data.toList=s.size):=zq (by rw[HK.out,axm (by rw[HL.out];exact awC _)];rfl);clear HK;go_wp2;go_ret;rw[HZ.out];exact⟨rfl,rfl⟩
theorem Ju(s:ByteArray)(w:ak)(hs:s.size<=9223372036854775806):
  Calls ax 105 #[.string s,.func (.func 176) #[] #[]] w λe w'=>e=.returned (.int .i64 (sxRun dD s.data.toList:Int))/\w=w':=by
 have jg:s.data.toList.length=s.size:=by rw[aw8];rfl
 have HL:=zq jg;clear jg;have HP:=zq Vt;go_enter func105,ntmps105;go_wp2
 go_loop [5] (λi=>∃k:Nat,k<=s.size/\i=↑k/\Hid (sxRun dD s.data.toList=k+sxRun dD (s.data.toList.drop k))) (λi=>s.size-(intOf i).toNat)
 case atStart=>exact⟨0,awJ _,rfl,zq aj⟩
 case round=>
  obtain⟨k,hk,rfl,HK⟩:=hrel;by_cases hlt:k<s.size;have HS:=zq (nI dD s.data.toList k _ (sK s k hlt));obtain⟨c,hc⟩:∃c,s[k]=c:=⟨_,rfl⟩
  have hidx:∀hh,s[k]'hh=c:=λ_=>hc;rw[hc]at HS;clear hc;have HC:=HP.out c
  cases hp:dD c
  exact aAw;exact azN;obtain rfl:k=s.size:=ae;have HZ:Hid (sxRun dD s.data.toList=s.size):=zq (by rw[HK.out,axm (by rw[HL.out];exact awC _)];rfl);clear HK;go_wp2;go_ret;rw[HZ.out];exact⟨rfl,rfl⟩
theorem YT(s:ByteArray):(s=⟨#[]⟩)↔s.toList.isEmpty=true:=by rw[ax7];constructor;rintro rfl;simp;intro h;exact toList_inj (by simpa using h)
theorem aB4(h:U:=by rw[hr];go_enter func186,ntmps186;go_wp2;go_ret;exact⟨rfl,Ev.alloc _ _⟩):U:=h
theorem VC(k n:Int)(s:ByteArray)(w:ak):
  Calls ax 186 #[vv k n s] w λe w'=>e=.returned (.bool (iL k n s))/\Ev w w':=by
 by_cases h1:k=1
 ·subst h1;by_cases hs:s=⟨#[]⟩
  ·subst hs;go_enter func186,ntmps186;go_wp2;go_ret;exact⟨by simp[iL],Ev.alloc _ _⟩
  have he:s.toList.isEmpty=false:=by cases h:s.toList.isEmpty;rfl;exact absurd ((YT s).2 h) hs
  have hr:iL 1 n s=false:=by simp[iL,he]
  exact aB4
 by_cases h2:k=2;subst h2;by_cases h3:n=0;subst h3;by_cases h4:(s.size:Int)<=40;have hr:iL 2 0 s=true:=by simp[iL];omega
 exact aB4;have hr:iL 2 0 s=false:=by simp[iL];omega
 exact aB4;have hr:iL 2 n s=false:=by simp[iL,h3]
 exact aB4;have hr:iL k n s=false:=by simp[iL,h1,h2]
 exact aB4
theorem SG{α:Type}{a:List α}{k:Nat}{x:α}(h:a[k]?=some x):a.drop k=x::a.drop (k+1):=by obtain⟨hk,rfl⟩:=awz.1 h;exact axt hk
def words:List (List UInt8):=[[116,97,98,108,101],[102,105,108,116,101,114],[112,114,111,106,101,99,116],[106,111,105,110],[117,110,105,111,110],[100,105,115,116,105,110,99,116],[103,114,111,117,112],[99,111,117,110,116],[115,117,109],[109,105,110],[109,97,120],[97,100,100],[115,117,98],[109,117,108],[110,101,103],[101,113],[108,116],[97,110,100],[111,114],[110,111,116],[99,97,116],[108,101,110],[105,102]]
def iI(c:UInt8):Bool:=decide (97<=c.toNat)&&decide (c.toNat<=122)
def f_(s:ByteArray):Bool:=(decide (1<=s.size)&&decide (s.size<=12))&&(s.data.toList.all iI&&!words.contains s.data.toList)
def named(s:ByteArray)(c:C):Bool:=c.1.toList==s.toList
def bZ(l:List C)(s:ByteArray):Option Nat:=l.findIdx? (named s)
theorem JM{l:List C}{s:ByteArray}{k:Nat}{c:C}(hT:∀i c,i<k->l[i]?=some c->named s c=false)(hc:l[k]?=some c)(h:named s c=true):bZ l s=some k:=by unfold bZ;rw[axH];obtain⟨hk,rfl⟩:=awz.1 hc;exact⟨hk,h,λj hj=>by simp[hT j _ hj (awX ae)]⟩
theorem JO{l:List C}{s:ByteArray}(hT:∀i c,i<l.length->l[i]?=some c->named s c=false):bZ l s=none:=by unfold bZ;rw[List.findIdx?_eq_none_iff];intro c hc;obtain⟨i,hi,rfl⟩:=List.getElem_of_mem hc;exact hT i _ hi (awX hi)
def foundAt(o:Option Nat):Int:=match o with|some k=>(k:Int)|none=>0
def colsFrom(pre:List C):List C->Int
 | []=>0
 | c::r=>if (f_ c.1&&(c.2==1||c.2==2))=false then 20 else if (bZ pre c.1).isSome=true then 21 else colsFrom (pre++[c]) r
def qh(l:List C):Int:=if (decide (1<=l.length)&&decide (l.length<=6))=true then colsFrom [] l else 23
theorem Ha{l:List C}{k:Nat}{c:C}(hc:l[k]?=some c):colsFrom (l.take k) (l.drop k)=
  if (f_ c.1&&(c.2==1||c.2==2))=false then 20 else if (bZ (l.take k) c.1).isSome=true then 21 else colsFrom (l.take (k+1)) (l.drop (k+1)):=by
 have ht:l.take (k+1)=l.take k++[c]:=by obtain⟨hk,rfl⟩:=awz.1 hc;rw[awH hk]
 rw[SG hc,ht];rfl
theorem SN(n:Nat)(w:ak)(hn:n<9223372036854775808):
  Calls ax 27 #[↑n] w λe w'=>e=.returned (.bool (decide (1<=n)&&decide (n<=6)))/\w=w':=by
 go_enter func27,ntmps27;by_cases h1:1<=n
 ·have i1:(1:Int)<=(n:Int):=ae;have e:(decide (1<=n)&&decide (n<=6))=decide ((n:Int)<=6):=by rw[aw5 h1,axB];exact decide_eq_decide.2 ae
  rw[e];go_wp2;go_ret;exact⟨rfl,rfl⟩
 have i1:¬(1:Int)<=(n:Int):=ae;rw[show (decide (1<=n)&&decide (n<=6))=false by rw[axf h1];rfl];go_wp2;go_ret;exact⟨rfl,rfl⟩
end Go.Proofs.YtpbfokkocaemlaaGreatDoor
