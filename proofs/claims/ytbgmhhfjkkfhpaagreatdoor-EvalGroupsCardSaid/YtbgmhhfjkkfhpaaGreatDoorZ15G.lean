import Derived.Test.YtbgmhhfjkkfhpaaGreatDoorZ13G
set_option linter.unusedVariables false
set_option maxRecDepth 100000
set_option maxHeartbeats 64000000
namespace Go.Proofs.YtbgmhhfjkkfhpaaGreatDoor
open Go.RowKit
open Go.Lib renaming hid → zq
open Go renaming World → ak
open Go.Proofs.Tryz renaming prog → ax
open Go.Proofs.Tryz
theorem aaY(s:ByteArray)(w:ak)(hs:s.size<=100000):
  Calls ax 232 #[.string s] w λe w'=>e=.returned (tkv (dL s.data.toList))/\Ev w w':=by
 have kN:s.data.toList.length=s.size:=by rw[aDK];rfl
 cases hl:s.data.toList with
 | nil=>
  rw[hl]at kN;have:=BX s w [] true hs (by rw[hl];rfl) (by rw[<-kN];rfl) aj;exact this
 | cons c q=>
  rw[hl]at kN;simp only[dL];by_cases hc:(c.toNat==45)=true;have hc':c=45:=by
   have h1:c.toNat=45:=by simpa using hc
   exact UInt8.toNat_inj.1 h1
  rw[if_pos hc];refine BX s w q false hs ?_ ?_ ?_;rw[hl,hc'];simp[Lib.trimPrefix,Lib.hasPrefix];rw[<-kN];simp;omega;rw[<-kN];simp;rw[if_neg hc];refine BX s w (c::q) true hs ?_ ?_ ?_;rw[hl];have hc':¬(45:UInt8)=c:=by intro e;subst e;exact hc rfl
  simp[Lib.trimPrefix,Lib.hasPrefix,List.isPrefixOf,hc'];rw[<-kN];simp;rw[<-kN];exact aC8 _
theorem sxHex_at(x:UInt8):Lib.indexByte [48,49,50,51,52,53,54,55,56,57,97,98,99,100,101,102] x=match gV x with|none=>-1|some a=>(a:Int):=by
 have h:∀n,n<256->Lib.indexByte [48,49,50,51,52,53,54,55,56,57,97,98,99,100,101,102] (UInt8.ofNat n)=match gV (UInt8.ofNat n) with|none=>-1|some a=>(a:Int):=by decide+kernel
 have:=h x.toNat x.toNat_lt;rwa [UInt8.ofNat_toNat]at this
theorem KN{x:UInt8}{a:Nat}(h:gV x=some a):a<16:=by unfold gV at h;split at h;simp at h;omega;split at h;simp at h;omega;cases h
def sxEsc(l:By):Nat->Nat->Nat->UInt8×Int
 | 0,_,n=>(UInt8.ofNat n,0)
 | r+1,k,n=>match l[k]? with
  | none=>(0,10)
  | some x=>match gV x with
   | none=>(0,12)
   | some a=>sxEsc l r (k+1) (16*n+a)
theorem adE(l:By):sxEscaped l=sxEsc l 2 0 0:=by
 cases l with
 | nil=>rfl
 | cons x q=>
  unfold sxEscaped sxEsc;simp only[List.getElem?_cons_zero]
  cases gV x with
  | none=>rfl
  | some a=>
   unfold sxEsc
   cases q with
   | nil=>rfl
   | cons y q2=>
    simp only[aDt,List.getElem?_cons_succ,List.getElem?_cons_zero]
    cases gV y with
    | none=>rfl
    | some b=>simp[sxEsc]
theorem anZ(n a:Nat)(hn:n<16)(ha:a<16):bits .or .i64 ((n:Int)*16) (a:Int)=((16*n+a:Nat):Int):=by
 have h:∀n:Nat,n<16->∀a:Nat,a<16->bits .or .i64 ((n:Int)*16) (a:Int)=((16*n+a:Nat):Int):=by decide+kernel
 exact h n hn a ha
theorem Xy(s:ByteArray)(w:ak)(hs:s.size<=100000):
  Calls ax 267 #[.string s] w λe w'=>e=.returned (.tuple #[.int .u8 ((sxEscaped s.data.toList).1.toNat:Int),.int .i64 (sxEscaped s.data.toList).2])/\w=w':=by
 obtain⟨R,hR⟩:∃R,R=sxEscaped s.data.toList:=⟨_,rfl⟩
 rw[<-hR];rw[adE]at hR;have HR:=zq hR;clear hR;have kN:s.data.toList.length=s.size:=by rw[aDK];rfl
 have HL:=zq kN;clear kN;have HI:=λ(x:UInt8) w1=>Tryz.strings_IndexByte ⟨#[48,49,50,51,52,53,54,55,56,57,97,98,99,100,101,102]⟩ (x.toNat:Int) w1;have hx8:∀x:UInt8,((x.toNat:Int)).toNat.toUInt8=x:=λx=>by simp
 simp only[hx8,sxHex_at]at HI;clear hx8;go_enter func267,ntmps267;go_wp2
 go_loop [4,7] (λv i=>∃(k n:Nat),k<=2/\k<=s.size/\i=↑k/\v=↑n/\(k=0->n=0)/\(k=1->n<16)/\n<256/\Hid (R=sxEsc s.data.toList (2-k) k n)) (λ_ i=>2-(intOf i).toNat)
 case atStart=>exact⟨0,0,ae,ae,rfl,rfl,ae,ae,ae,HR⟩
 case round=>
  obtain⟨k,n,hk,hks,rfl,rfl,KO,uC,hn2,HT⟩:=hrel;by_cases hlt:k<2
  ·have hn:n<16:=by rcases Nat.lt_or_ge k 1 with h|h;rw[KO ae];omega;exact uC ae
   obtain⟨r,hr⟩:∃r,2-k=r+1:=⟨1-k,ae⟩
   rw[hr]at HT;by_cases hsz:k=s.size
   ·have HF:Hid (R=(0,10)):=zq (by
     rw[HT.out];unfold sxEsc;rw[List.getElem?_eq_none (by rw[HL.out];omega)])
    have e1:(k:Int)=(s.size:Int):=ae;clear HT hr hsz;go_wp2
    go_ret2
    rw[HF.out];exact⟨rfl,rfl⟩
   have hlt2:k<s.size:=ae;have hat:=qo s k hlt2;obtain⟨x,hx⟩:∃x,s[k]=x:=⟨_,rfl⟩
   have hidx:∀hh,s[k]'hh=x:=λ_=>hx;rw[hx]at hat;clear hx;have HIx:=HI x
   cases hh:gV x with
   | none=>
    rw[hh]at HIx;have HIx:=zq HIx;have HF:Hid (R=(0,12)):=zq (by
     rw[HT.out];unfold sxEsc;rw[hat];simp only[hh])
    clear HT hr hat hh HI
    go_wp2_with (first|((with_reducible refine(HIx.out _).mono ?_);rintro e w1 ⟨rfl,rfl⟩))
    go_ret2
    rw[HF.out];exact⟨rfl,rfl⟩
   | some a=>
    rw[hh]at HIx;have ha:=KN hh;have HIx:=zq HIx;have HF:Hid (R=sxEsc s.data.toList (2-(k+1)) (k+1) (16*n+a)):=zq (by
     rw[HT.out,show 2-(k+1)=r by omega]
     conv=>lhs;unfold sxEsc
     rw[hat];simp only[hh])
    have HO:=zq (anZ n a hn ha);have hb:k=0->16*n+a<16:=λh=>by rw[KO h];omega
    clear HT hr hat hh HI KO uC
    go_wp2_with (first|((with_reducible refine(HIx.out _).mono ?_);rintro e w1 ⟨rfl,rfl⟩))
    go_round
    case rel=>exact⟨k+1,16*n+a,ae,ae,by go_num,by rw[<-HO.out],ae,λh=>hb ae,ae,HF⟩
    case measure=>simp[intOf];omega
  obtain rfl:k=2:=ae;have HF:Hid (R=(UInt8.ofNat n,0)):=zq HT.out;clear HT KO uC;go_wp2
  go_ret2
  rw[HF.out];exact⟨by simp;omega,rfl⟩
end Go.Proofs.YtbgmhhfjkkfhpaaGreatDoor
