import Derived.Test.YtpbfokkocaemlaaGreatDoorRows
import Derived.Lib.SmallJoins
import Derived.Test.YtpbfokkocaemlaaGreatDoorZ4S
set_option linter.unusedVariables false
set_option maxRecDepth 100000
set_option maxHeartbeats 64000000
namespace Go.Proofs.YtpbfokkocaemlaaGreatDoor
open Go.RowKit
open Go.Lib renaming hid → zq
open Go.RowKit Go.WideShapes Go.ChangeShapes
section
variable {H:Type} {enc:TypeId×Value→H} {w:World} {base:Nat} {sp:Nat→Bool} {held:Bool}
end
theorem toList_inj {s t:ByteArray} (h:s.toList=t.toList):s=t:=by obtain⟨⟨x⟩⟩:=s;obtain⟨⟨y⟩⟩:=t;simpa using h
structure Sl {α:Type} (k:Nat) (enc:α→List Value) (w:World) (A:Option Addr) (n cap:Nat) (l:List α):Prop where
 len:l.length=n
 le:n≤cap
 max:cap≤9223372036854775807
 nil:A=none→n=0∧cap=0
 rd:0<n→∃b off,A=some ⟨b,off,none⟩∧b<w.heap.size∧∀i x,l[i]?=some x→∀j u,(enc x)[j]?=some u→w.cell? ⟨b,off+i*k+j,none⟩=some u
section
variable {α:Type} {k:Nat} {enc:α→List Value} {w w':World} {A:Option Addr} {n cap:Nat} {l:List α}
theorem Sl.below (h:Sl k enc w A n cap l) (hb:Below w.heap.size w w'):Sl k enc w' A n cap l:=
 ⟨h.len,h.le,h.max,h.nil,fun hn=>by
  obtain⟨b,off,e,hlt,hc⟩:=h.rd hn;exact⟨b,off,e,atM hlt hb.size,fun i x hx j u hu=>(hb.cell (p:=⟨b,off+i*k+j,none⟩) hlt).trans (hc i x hx j u hu)⟩⟩
theorem Sl.ev (h:Sl k enc w A n cap l) (hb:Ev w w'):Sl k enc w' A n cap l:=h.below hb
theorem Sl.but {K:List Nat} (h:Sl k enc w A n cap l) (hb:But K w w') (hA:∀ad,A=some ad→ad.block∉K):Sl k enc w' A n cap l:=
 ⟨h.len,h.le,h.max,h.nil,fun hn=>by
  obtain⟨b,off,e,hlt,hc⟩:=h.rd hn;refine⟨b,off,e,atM hlt hb.size,fun i x hx j u hu=>?_⟩;rw[World.cell?_of_block (w:=w) (hb.block b hlt (hA _ e))];exact hc i x hx j u hu⟩
theorem Sl.nil_ (w:World):Sl k enc w none 0 0 ([]:List α):=⟨rfl,att _,by omega,fun _=>⟨rfl,rfl⟩,fun h=>absurd h (by omega)⟩
theorem Sl.to (h:Sl k enc w A n cap l) (m:Nat) (hm:m≤n):Sl k enc w A m cap (l.take m):=
 ⟨by rw[aua,h.len];omega,atP hm h.le,h.max,fun e=>by have:=h.nil e;omega,fun h0=>by
  obtain⟨b,off,e,hlt,hc⟩:=h.rd (by omega);refine⟨b,off,e,hlt,fun i x hx j u hu=>hc i x ?_ j u hu⟩;rw[List.getElem?_take]at hx;split at hx;exact hx
  cases hx⟩
theorem Sl.at (h:Sl k enc w A n cap l) {i:Nat} (hi:i<n):∃x,l[i]?=some x:=⟨_,atN (by rw[h.len];exact hi)⟩
end
abbrev V:=Int×Int×ByteArray
abbrev C:=ByteArray×Int
def adM (x:V):List Value:=[.int .i64 x.1,.int .i64 x.2.1,.string x.2.2]
def eP (x:C):List Value:=[.string x.1,.int .i64 x.2]
abbrev Vs:=Sl 3 adM
abbrev Cs:=Sl 2 eP
theorem Sl.amv {w:World} {A:Option Addr} {n cap:Nat} {l:List V} (h:Vs w A n cap l) {i:Nat} (hi:i<n):
  ∃b off x,A=some ⟨b,off,none⟩∧b<w.heap.size∧l[i]?=some x∧w.cell? ⟨b,off+i*3,none⟩=some (.int .i64 x.1)∧w.cell? ⟨b,off+i*3+1,none⟩=some (.int .i64 x.2.1)∧w.cell? ⟨b,off+i*3+2,none⟩=some (.string x.2.2):=by
 obtain⟨x,hx⟩:=h.at hi;obtain⟨b,off,e,hlt,hc⟩:=h.rd (by omega);exact⟨b,off,x,e,hlt,hx,hc i x hx 0 _ rfl,hc i x hx 1 _ rfl,hc i x hx 2 _ rfl⟩
theorem Sl.Yy {w:World} {A:Option Addr} {n cap:Nat} {l:List C} (h:Cs w A n cap l) {i:Nat} (hi:i<n):
  ∃b off x,A=some ⟨b,off,none⟩∧b<w.heap.size∧l[i]?=some x∧w.cell? ⟨b,off+i*2,none⟩=some (.string x.1)∧w.cell? ⟨b,off+i*2+1,none⟩=some (.int .i64 x.2):=by
 obtain⟨x,hx⟩:=h.at hi;obtain⟨b,off,e,hlt,hc⟩:=h.rd (by omega);exact⟨b,off,x,e,hlt,hx,hc i x hx 0 _ rfl,hc i x hx 1 _ rfl⟩
abbrev By:=List UInt8
inductive T where
 | mk (kind:Int) (s:By) (n:Int) (kids:List T) (pos:Nat):T
def T.kind:T→Int
 | .mk k _ _ _ _=>k
def T.s:T→By
 | .mk _ s _ _ _=>s
def T.n:T→Int
 | .mk _ _ n _ _=>n
def T.kids:T→List T
 | .mk _ _ _ l _=>l
def T.pos:T→Nat
 | .mk _ _ _ _ p=>p
def T.add (e t:T):T:=.mk e.kind e.s e.n (e.kids++[t]) e.pos
def dM:T:=.mk 0 [] 0 [] 0
structure Tk where
 kind:Int
 s:By
 n:Int
 size:Nat
 why:Int
 fault:Nat
def Tk.tree (x:Tk) (pos:Nat):T:=.mk x.kind x.s x.n [] pos
def sxRun (p:UInt8→Bool):By→Nat
 | []=>0
 | c::l=>if p c then sxRun p l+1 else 0
def dA (c:UInt8):Bool:=c.toNat==32||c.toNat==10
def bf (c:UInt8):Bool:=decide (97≤c.toNat)&&decide (c.toNat≤122)
def aW (c:UInt8):Bool:=decide (48≤c.toNat)&&decide (c.toNat≤57)
def bV (c:UInt8):Bool:=decide (32≤c.toNat)&&decide (c.toNat≤126)&&!(c.toNat==34)&&!(c.toNat==92)
def aV (why:Int) (fault:Nat):Tk:=⟨0,[],0,0,why,fault⟩
def sxBelow:By→Int→Option Int
 | [],n=>some n
 | c::l,n=>if n < -((9223372036854775808 - ((c.toNat:Int) - 48)) / 10) then none else sxBelow l (n*10 - ((c.toNat:Int) - 48))
def dE (l:By):By:=l.take (sxRun aW l)
def sxNum (plus:Bool) (d:By):Tk:=
 match sxBelow d 0 with
 | none=>aV 12 0
 | some n=>if d.isEmpty||plus&&decide (n=-9223372036854775808) then aV 12 0 else if plus then ⟨3,[],-n,d.length,0,0⟩ else ⟨3,[],n,1+d.length,0,0⟩
def dI:By→Tk
 | []=>sxNum true []
 | c::q=>if c.toNat==45 then sxNum false (dE q) else sxNum true (dE (c::q))
def gV (c:UInt8):Option Nat:=
 if 48≤c.toNat∧c.toNat≤57 then some (c.toNat - 48) else if 97≤c.toNat∧c.toNat≤102 then some (c.toNat - 87) else none
def sxEscaped:By→UInt8×Int
 | []=>(0,10)
 | x::q=>match gV x with
  | none=>(0,12)
  | some a=>match q with
   | []=>(0,10)
   | y::_=>match gV y with
    | none=>(0,12)
    | some b=>(UInt8.ofNat (16*a+b),0)
def sxTextGo:By→By→Nat→Tk
 | _,[],i=>aV 10 i
 | b,c::q,i=>
  if bV c then sxTextGo (b++[c]) q (i+1)
  else if c.toNat==92 then
   match q with
   | []=>aV 10 (i+1)
   | x::q1=>match gV x with
    | none=>aV 12 i
    | some h=>match q1 with
     | []=>aV 10 (i+2)
     | y::q2=>match gV y with
      | none=>aV 12 i
      | some k=>sxTextGo (b++[UInt8.ofNat (16*h+k)]) q2 (i+3)
  else if c.toNat==34 then (if 40<b.length then aV 3 0 else ⟨4,b,0,i+1,0,0⟩)
  else aV 12 i
def bF:By→Tk
 | []=>aV 12 0
 | c::q=>
  if c.toNat==40 then ⟨1,[],0,1,0,0⟩
  else if c.toNat==41 then ⟨-1,[],0,1,0,0⟩
  else if c.toNat==34 then sxTextGo [] q 1
  else if c.toNat==45||aW c then dI (c::q)
  else if bf c then ⟨2,(c::q).take (sxRun bf (c::q)),0,sxRun bf (c::q),0,0⟩
  else aV 12 0
def sxDone:List T→Bool
 | []=>false
 | e::_=>!e.kids.isEmpty
def iD (os:List T) (x:Tk):Int×Nat:=
 if !(x.why==0)&&!(sxDone os&&decide (0<x.fault)) then (x.why,x.fault)
 else if x.kind==-1&&os.length==1 then (12,0)
 else if !(x.kind==-1)&&sxDone os then (11,0)
 else if x.kind==1&&decide (12<os.length) then (14,0)
 else (0,0)
def sxPut:List T→T→List T
 | [],_=>[]
 | [e],t=>[e.add t]
 | e::e'::os,t=>e::sxPut (e'::os) t
def sxTake (os:List T) (t:T):List T:=
 if t.kind==1 then os++[t]
 else if t.kind==-1 then (match os.getLast? with|none=>os|some e=>sxPut os.dropLast e)
 else sxPut os t
abbrev Res:=T×Int×Nat
def jT (os:List T) (pos:Nat):Res:=
 match os with
 | []=>(dM,10,pos)
 | e::_=>match e.kids with
  | []=>(dM,10,pos)
  | t::_=>(t,0,0)
def sxGo:Nat→List T→By→Nat→Res
 | 0,_,_,_=>(dM,12,0)
 | f+1,os,r,pos=>
  match r.drop (sxRun dA r) with
  | []=>jT os (pos+sxRun dA r)
  | c::q=>
   if (iD os (bF (c::q))).1==0 then
    sxGo f (sxTake os ((bF (c::q)).tree (pos+sxRun dA r))) ((c::q).drop (bF (c::q)).size) (pos+sxRun dA r+(bF (c::q)).size)
   else (dM,(iD os (bF (c::q))).1,pos+sxRun dA r+(iD os (bF (c::q))).2)
def eF (l:By):Res:=if 600<l.length then (dM,3,0) else sxGo (l.length+1) [dM] l 0
theorem jr (p:UInt8→Bool):∀l:By,sxRun p l≤l.length
 | []=>att _
 | c::l=>by unfold sxRun;have:=jr p l;split<;>simp<;>omega
theorem lU (p:UInt8→Bool):∀(l:By) (k:Nat) (c:UInt8),l[k]?=some c→sxRun p (l.drop k)=if p c then sxRun p (l.drop (k+1))+1 else 0
 | [],k,c,h=>by simp at h
 | x::l,0,c,h=>by simp at h;subst h;simp[sxRun]
 | x::l,k+1,c,h=>by have:=lU p l k c (by simpa using h);simpa using this
theorem D9 (p:UInt8→Bool):∀l:By,∀c∈l.take (sxRun p l),p c=true
 | [],c,h=>by simp[sxRun]at h
 | x::l,c,h=>by unfold sxRun at h;split at h;rename_i hx;rw[auz]at h;rcases atA.1 h with rfl|h;exact hx;exact D9 p l c h;simp at h
theorem H5 (p:UInt8→Bool):∀(l:By) (c:UInt8),l[sxRun p l]?=some c→p c=false
 | [],c,h=>by simp at h
 | x::l,c,h=>by unfold sxRun at h;split at h;exact H5 p l c (by simpa using h);rename_i hx;simp at h;subst h;simpa using hx
theorem nJ:∀(os:List T) (e t:T),sxPut (os++[e]) t=os++[e.add t]
 | [],e,t=>rfl
 | [a],e,t=>rfl
 | a::b::os,e,t=>by have:=nJ (b::os) e t;simp only[aue]at this⊢;unfold sxPut;rw[this]
theorem Ci:∀(r b:By) (i:Nat),sxTextGo b r i=sxTextGo (b++r.take (sxRun bV r)) (r.drop (sxRun bV r)) (i+sxRun bV r)
 | [],b,i=>by simp[sxRun]
 | c::q,b,i=>by
  by_cases h:bV c=true;have e:sxRun bV (c::q)=sxRun bV q+1:=by simp[sxRun,h]
  rw[e,auz,at6]
  conv=>lhs;unfold sxTextGo
  simp only[h,if_true];rw[Ci q (b++[c]) (i+1)];rw[atS,List.singleton_append,show i+1+sxRun bV q=i+(sxRun bV q+1) by omega];have e:sxRun bV (c::q)=0:=by simp[sxRun,h]
  rw[e];simp
theorem TA (s:ByteArray) (k:Nat) (h:k<s.size):s[k]=s.data.toList.getD k 0:=by obtain⟨a⟩:=s;have h2:k<a.size:=h;show a[k]=_;simp[List.getD,h2]
theorem qN (s:ByteArray) (k:Nat) (h:k<s.size):s.data.toList[k]?=some s[k]:=by
 rw[TA s k h];have h2:k<s.data.toList.length:=by rw[atU];exact h
 simp[List.getD,atN h2]
theorem TB (c:UInt8) (w:World):
  Calls Tryz.prog 106 #[.int .u8 (c.toNat:Int)] w fun e w'=>e=.returned (.bool (dA c))∧w=w':=by
 by_cases h1:(c.toNat:Int)=32
 ·have e:dA c=true:=by unfold dA;simp;omega
  rw[e];go_enter Tryz.func106,Tryz.ntmps106;go_wp2;go_ret;exact⟨rfl,rfl⟩
 have e:dA c=((c.toNat:Int)==10):=by unfold dA;rw[auq];simp;omega
 have h1':((c.toNat:Int)==32)=false:=atp.2 h1;rw[e];go_enter Tryz.func106,Tryz.ntmps106;go_wp2;go_ret;exact⟨rfl,rfl⟩
theorem Fe (c:UInt8) (w:World):
  Calls Tryz.prog 148 #[.int .u8 (c.toNat:Int)] w fun e w'=>e=.returned (.bool (bf c))∧w=w':=by
 by_cases h1:(97:Int)≤(c.toNat:Int)
 ·have e:bf c=decide ((c.toNat:Int)≤122):=by unfold bf;rw[auq];simp;omega
  rw[e];go_enter Tryz.func148,Tryz.ntmps148;go_wp2;go_ret;exact⟨rfl,rfl⟩
 have e:bf c=false:=by unfold bf;rw[auq];simp;omega
 rw[e];go_enter Tryz.func148,Tryz.ntmps148;go_wp2;go_ret;exact⟨rfl,rfl⟩
theorem H6 (c:UInt8) (w:World):
  Calls Tryz.prog 146 #[.int .u8 (c.toNat:Int)] w fun e w'=>e=.returned (.bool (aW c))∧w=w':=by
 by_cases h1:(48:Int)≤(c.toNat:Int)
 ·have e:aW c=decide ((c.toNat:Int)≤57):=by unfold aW;rw[auq];simp;omega
  rw[e];go_enter Tryz.func146,Tryz.ntmps146;go_wp2;go_ret;exact⟨rfl,rfl⟩
 have e:aW c=false:=by unfold aW;rw[auq];simp;omega
 rw[e];go_enter Tryz.func146,Tryz.ntmps146;go_wp2;go_ret;exact⟨rfl,rfl⟩
theorem axu {P:Prop} (h:P:=by
 have e:bV c=false:=by unfold bV;rw[auq];simp;omega
 rw[e];go_enter Tryz.func176,Tryz.ntmps176;go_wp2;go_ret;exact⟨rfl,rfl⟩):P:=h
theorem TC (c:UInt8) (w:World):
  Calls Tryz.prog 176 #[.int .u8 (c.toNat:Int)] w fun e w'=>e=.returned (.bool (bV c))∧w=w':=by
 by_cases h1:(32:Int)≤(c.toNat:Int)
 ·by_cases h2:(c.toNat:Int)≤126
  ·by_cases h3:(c.toNat:Int)=34;exact axu;have e:bV c=((c.toNat:Int) !=34&&(c.toNat:Int) !=92):=by unfold bV;rw[auq];simp;omega
   rw[e];go_enter Tryz.func176,Tryz.ntmps176;go_wp2;go_ret;exact⟨rfl,rfl⟩
  exact axu
 exact axu
theorem awZ {P:Prop} (h:P:=by
 rw[hp]at HC HS;have HC:=zq HC;clear hp
 go_wp2_with (first|((with_reducible refine (HC.out _).mono ?_);rintro x w1 ⟨rfl,rfl⟩))
 go_ret;refine⟨?_,rfl⟩;rw[HK.out,HS.out];rfl):P:=h
theorem awp {P:Prop} (h:P:=by
 rw[hp]at HC HS;have HC:=zq HC;clear hp
 go_wp2_with (first|((with_reducible refine (HC.out _).mono ?_);rintro x w1 ⟨rfl,rfl⟩))
 go_round
 case rel=>exact⟨k+1,by omega,by go_num,zq (by rw[HK.out,HS.out];simp only[if_true];omega)⟩
 case measure=>simp[intOf];omega):P:=h
theorem H7 (s:ByteArray) (w:World) (hs:s.size≤9223372036854775806):
  Calls Tryz.prog 105 #[.string s,.func (.func 106) #[] #[]] w fun e w'=>e=.returned (.int .i64 (sxRun dA s.data.toList:Int))∧w=w':=by
 have jd:s.data.toList.length=s.size:=by rw[atU];rfl
 have HL:=zq jd;clear jd;have HP:=zq TB;go_enter Tryz.func105,Tryz.ntmps105;go_wp2
 go_loop [5] (fun i=>∃k:Nat,k≤s.size∧i=.int .i64 (k:Int)∧Hid (sxRun dA s.data.toList=k+sxRun dA (s.data.toList.drop k))) (fun i=>s.size - (intOf i).toNat)
 case atStart=>exact⟨0,atG _,rfl,zq (by simp)⟩
 case round=>
  obtain⟨k,hk,rfl,HK⟩:=hrel;by_cases hlt:k<s.size;have HS:=zq (lU dA s.data.toList k _ (qN s k hlt));obtain⟨c,hc⟩:∃c,s[k]=c:=⟨_,rfl⟩
  have hidx:∀hh,s[k]'hh=c:=fun _=>hc;rw[hc]at HS;clear hc;have HC:=HP.out c
  cases hp:dA c
  exact awZ;exact awp;obtain rfl:k=s.size:=by omega
  have HZ:Hid (sxRun dA s.data.toList=s.size):=zq (by rw[HK.out,auh (by rw[HL.out];exact att _)];rfl);clear HK;go_wp2;go_ret;rw[HZ.out];exact⟨rfl,rfl⟩
theorem Gn (s:ByteArray) (w:World) (hs:s.size≤9223372036854775806):
  Calls Tryz.prog 105 #[.string s,.func (.func 148) #[] #[]] w fun e w'=>e=.returned (.int .i64 (sxRun bf s.data.toList:Int))∧w=w':=by
 have jd:s.data.toList.length=s.size:=by rw[atU];rfl
 have HL:=zq jd;clear jd;have HP:=zq Fe;go_enter Tryz.func105,Tryz.ntmps105;go_wp2
 go_loop [5] (fun i=>∃k:Nat,k≤s.size∧i=.int .i64 (k:Int)∧Hid (sxRun bf s.data.toList=k+sxRun bf (s.data.toList.drop k))) (fun i=>s.size - (intOf i).toNat)
 case atStart=>exact⟨0,atG _,rfl,zq (by simp)⟩
 case round=>
  obtain⟨k,hk,rfl,HK⟩:=hrel;by_cases hlt:k<s.size;have HS:=zq (lU bf s.data.toList k _ (qN s k hlt));obtain⟨c,hc⟩:∃c,s[k]=c:=⟨_,rfl⟩
  have hidx:∀hh,s[k]'hh=c:=fun _=>hc;rw[hc]at HS;clear hc;have HC:=HP.out c
  cases hp:bf c
  exact awZ;exact awp;obtain rfl:k=s.size:=by omega
  have HZ:Hid (sxRun bf s.data.toList=s.size):=zq (by rw[HK.out,auh (by rw[HL.out];exact att _)];rfl);clear HK;go_wp2;go_ret;rw[HZ.out];exact⟨rfl,rfl⟩
theorem H8 (s:ByteArray) (w:World) (hs:s.size≤9223372036854775806):
  Calls Tryz.prog 105 #[.string s,.func (.func 146) #[] #[]] w fun e w'=>e=.returned (.int .i64 (sxRun aW s.data.toList:Int))∧w=w':=by
 have jd:s.data.toList.length=s.size:=by rw[atU];rfl
 have HL:=zq jd;clear jd;have HP:=zq H6;go_enter Tryz.func105,Tryz.ntmps105;go_wp2
 go_loop [5] (fun i=>∃k:Nat,k≤s.size∧i=.int .i64 (k:Int)∧Hid (sxRun aW s.data.toList=k+sxRun aW (s.data.toList.drop k))) (fun i=>s.size - (intOf i).toNat)
 case atStart=>exact⟨0,atG _,rfl,zq (by simp)⟩
 case round=>
  obtain⟨k,hk,rfl,HK⟩:=hrel;by_cases hlt:k<s.size;have HS:=zq (lU aW s.data.toList k _ (qN s k hlt));obtain⟨c,hc⟩:∃c,s[k]=c:=⟨_,rfl⟩
  have hidx:∀hh,s[k]'hh=c:=fun _=>hc;rw[hc]at HS;clear hc;have HC:=HP.out c
  cases hp:aW c
  exact awZ;exact awp;obtain rfl:k=s.size:=by omega
  have HZ:Hid (sxRun aW s.data.toList=s.size):=zq (by rw[HK.out,auh (by rw[HL.out];exact att _)];rfl);clear HK;go_wp2;go_ret;rw[HZ.out];exact⟨rfl,rfl⟩
theorem H9 (s:ByteArray) (w:World) (hs:s.size≤9223372036854775806):
  Calls Tryz.prog 105 #[.string s,.func (.func 176) #[] #[]] w fun e w'=>e=.returned (.int .i64 (sxRun bV s.data.toList:Int))∧w=w':=by
 have jd:s.data.toList.length=s.size:=by rw[atU];rfl
 have HL:=zq jd;clear jd;have HP:=zq TC;go_enter Tryz.func105,Tryz.ntmps105;go_wp2
 go_loop [5] (fun i=>∃k:Nat,k≤s.size∧i=.int .i64 (k:Int)∧Hid (sxRun bV s.data.toList=k+sxRun bV (s.data.toList.drop k))) (fun i=>s.size - (intOf i).toNat)
 case atStart=>exact⟨0,atG _,rfl,zq (by simp)⟩
 case round=>
  obtain⟨k,hk,rfl,HK⟩:=hrel;by_cases hlt:k<s.size;have HS:=zq (lU bV s.data.toList k _ (qN s k hlt));obtain⟨c,hc⟩:∃c,s[k]=c:=⟨_,rfl⟩
  have hidx:∀hh,s[k]'hh=c:=fun _=>hc;rw[hc]at HS;clear hc;have HC:=HP.out c
  cases hp:bV c
  exact awZ;exact awp;obtain rfl:k=s.size:=by omega
  have HZ:Hid (sxRun bV s.data.toList=s.size):=zq (by rw[HK.out,auh (by rw[HL.out];exact att _)];rfl);clear HK;go_wp2;go_ret;rw[HZ.out];exact⟨rfl,rfl⟩
theorem WH (s:ByteArray):(s=⟨#[]⟩)↔s.toList.isEmpty=true:=by rw[au4];constructor;rintro rfl;simp;intro h;exact toList_inj (by simpa using h)
theorem ax' {P:Prop} (h:P:=by rw[hr];go_enter Tryz.func186,Tryz.ntmps186;go_wp2;go_ret;exact⟨rfl,Ev.alloc _ _⟩):P:=h
theorem TL (k n:Int) (s:ByteArray) (w:World):
  Calls Tryz.prog 186 #[vv k n s] w fun e w'=>e=.returned (.bool (ik k n s))∧Ev w w':=by
 by_cases h1:k=1
 ·subst h1;by_cases hs:s=⟨#[]⟩
  ·subst hs;go_enter Tryz.func186,Tryz.ntmps186;go_wp2;go_ret;exact⟨by simp[ik],Ev.alloc _ _⟩
  have he:s.toList.isEmpty=false:=by cases h:s.toList.isEmpty;rfl;exact absurd ((WH s).2 h) hs
  have hr:ik 1 n s=false:=by simp[ik,he]
  exact ax'
 by_cases h2:k=2;subst h2;by_cases h3:n=0;subst h3;by_cases h4:(s.size:Int)≤40;have hr:ik 2 0 s=true:=by simp[ik];omega
 exact ax';have hr:ik 2 0 s=false:=by simp[ik];omega
 exact ax';have hr:ik 2 n s=false:=by simp[ik,h3]
 exact ax';have hr:ik k n s=false:=by simp[ik,h1,h2]
 exact ax'
theorem Qn {α:Type} {a:List α} {k:Nat} {x:α} (h:a[k]?=some x):a.drop k=x::a.drop (k+1):=by obtain⟨hk,rfl⟩:=atr.1 h;exact auu hk
def words:List (List UInt8):=[[116,97,98,108,101],[102,105,108,116,101,114],[112,114,111,106,101,99,116],[106,111,105,110],[117,110,105,111,110],[100,105,115,116,105,110,99,116],[103,114,111,117,112],[99,111,117,110,116],[115,117,109],[109,105,110],[109,97,120],[97,100,100],[115,117,98],[109,117,108],[110,101,103],[101,113],[108,116],[97,110,100],[111,114],[110,111,116],[99,97,116],[108,101,110],[105,102]]
def gW (c:UInt8):Bool:=decide (97≤c.toNat)&&decide (c.toNat≤122)
def fM (s:ByteArray):Bool:=(decide (1≤s.size)&&decide (s.size≤12))&&(s.data.toList.all gW&&!words.contains s.data.toList)
def named (s:ByteArray) (c:C):Bool:=c.1.toList==s.toList
def iO (l:List C) (s:ByteArray):Option Nat:=l.findIdx? (named s)
theorem TN {l:List C} {s:ByteArray} {k:Nat} {c:C} (hT:∀i c,i<k→l[i]?=some c→named s c=false) (hc:l[k]?=some c) (h:named s c=true):iO l s=some k:=by unfold iO;rw[auQ];obtain⟨hk,rfl⟩:=atr.1 hc;exact⟨hk,h,fun j hj=>by simp[hT j _ hj (atN (by omega))]⟩
theorem TP {l:List C} {s:ByteArray} (hT:∀i c,i<l.length→l[i]?=some c→named s c=false):iO l s=none:=by unfold iO;rw[au_];intro c hc;obtain⟨i,hi,rfl⟩:=List.getElem_of_mem hc;exact hT i _ hi (atN hi)
def foundAt (o:Option Nat):Int:=match o with|some k=>(k:Int)|none=>0
def colsFrom (pre:List C):List C→Int
 | []=>0
 | c::r=>if (fM c.1&&(c.2==1||c.2==2))=false then 20 else if (iO pre c.1).isSome=true then 21 else colsFrom (pre++[c]) r
def yx (l:List C):Int:=if (decide (1≤l.length)&&decide (l.length≤6))=true then colsFrom [] l else 23
theorem Qo {l:List C} {k:Nat} {c:C} (hc:l[k]?=some c):colsFrom (l.take k) (l.drop k)=
  if (fM c.1&&(c.2==1||c.2==2))=false then 20 else if (iO (l.take k) c.1).isSome=true then 21 else colsFrom (l.take (k+1)) (l.drop (k+1)):=by
 have ht:l.take (k+1)=l.take k++[c]:=by obtain⟨hk,rfl⟩:=atr.1 hc;rw[atD hk]
 rw[Qn hc,ht];rfl
theorem Qs (n:Nat) (w:World) (hn:n<9223372036854775808):
  Calls Tryz.prog 27 #[.int .i64 (n:Int)] w fun e w'=>e=.returned (.bool (decide (1≤n)&&decide (n≤6)))∧w=w':=by
 go_enter Tryz.func27,Tryz.ntmps27;by_cases h1:1≤n
 ·have i1:(1:Int)≤(n:Int):=by omega
  have e:(decide (1≤n)&&decide (n≤6))=decide ((n:Int)≤6):=by rw[atX h1,auA];exact decide_eq_decide.2 (by omega)
  rw[e];go_wp2;go_ret;exact⟨rfl,rfl⟩
 have i1:¬(1:Int)≤(n:Int):=by omega
 rw[show (decide (1≤n)&&decide (n≤6))=false by rw[auj h1];rfl];go_wp2;go_ret;exact⟨rfl,rfl⟩
end Go.Proofs.YtpbfokkocaemlaaGreatDoor
