import Derived.Lib.AtoiErrMem
import Derived.WalkSmall
import Derived.Test.YtbgmhhfjkkfhpaaGreatDoorZ8G
set_option linter.unusedVariables false
set_option maxRecDepth 100000
set_option maxHeartbeats 64000000
namespace Go.Proofs.YtbgmhhfjkkfhpaaGreatDoor
open Go.RowKit
open Go.Lib renaming hid → zq
open Go renaming World → ak
open Go renaming Value → au
open Go.Proofs.Tryz renaming prog → ax
variable {U:Prop}
open Go.Proofs.Tryz
theorem tl(s:ByteArray):s.toList=s.data.toList:=by obtain⟨⟨x⟩⟩:=s;simp
theorem fF{x W:List UInt8}(h:(x==W)=true)(hm:words.contains W=true):words.contains x=true:=by rw[aDn]at h;rw[h];exact hm
theorem Xq(s:ByteArray)(w:ak):
  Calls ax 118 #[.string s] w λe w'=>e=.returned (.bool (words.contains s.data.toList))/\w=w':=by
 rw[<-tl]
 cases e0:(s.toList==[116,97,98,108,101])
 case true=>
  have HF:=zq (fF e0 rfl);go_enter func118,ntmps118;go_wp2;go_ret;exact⟨by rw[HF.out];rfl,rfl⟩
 cases e1:(s.toList==[102,105,108,116,101,114])
 case true=>
  have HF:=zq (fF e1 rfl);go_enter func118,ntmps118;go_wp2;go_ret;exact⟨by rw[HF.out];rfl,rfl⟩
 cases e2:(s.toList==[112,114,111,106,101,99,116])
 case true=>
  have HF:=zq (fF e2 rfl);go_enter func118,ntmps118;go_wp2;go_ret;exact⟨by rw[HF.out];rfl,rfl⟩
 cases e3:(s.toList==[106,111,105,110])
 case true=>
  have HF:=zq (fF e3 rfl);go_enter func118,ntmps118;go_wp2;go_ret;exact⟨by rw[HF.out];rfl,rfl⟩
 cases e4:(s.toList==[117,110,105,111,110])
 case true=>
  have HF:=zq (fF e4 rfl);go_enter func118,ntmps118;go_wp2;go_ret;exact⟨by rw[HF.out];rfl,rfl⟩
 cases e5:(s.toList==[100,105,115,116,105,110,99,116])
 case true=>
  have HF:=zq (fF e5 rfl);go_enter func118,ntmps118;go_wp2;go_ret;exact⟨by rw[HF.out];rfl,rfl⟩
 cases e6:(s.toList==[103,114,111,117,112])
 case true=>
  have HF:=zq (fF e6 rfl);go_enter func118,ntmps118;go_wp2;go_ret;exact⟨by rw[HF.out];rfl,rfl⟩
 cases e7:(s.toList==[99,111,117,110,116])
 case true=>
  have HF:=zq (fF e7 rfl);go_enter func118,ntmps118;go_wp2;go_ret;exact⟨by rw[HF.out];rfl,rfl⟩
 cases e8:(s.toList==[115,117,109])
 case true=>
  have HF:=zq (fF e8 rfl);go_enter func118,ntmps118;go_wp2;go_ret;exact⟨by rw[HF.out];rfl,rfl⟩
 cases e9:(s.toList==[109,105,110])
 case true=>
  have HF:=zq (fF e9 rfl);go_enter func118,ntmps118;go_wp2;go_ret;exact⟨by rw[HF.out];rfl,rfl⟩
 cases e10:(s.toList==[109,97,120])
 case true=>
  have HF:=zq (fF e10 rfl);go_enter func118,ntmps118;go_wp2;go_ret;exact⟨by rw[HF.out];rfl,rfl⟩
 cases e11:(s.toList==[97,100,100])
 case true=>
  have HF:=zq (fF e11 rfl);go_enter func118,ntmps118;go_wp2;go_ret;exact⟨by rw[HF.out];rfl,rfl⟩
 cases e12:(s.toList==[115,117,98])
 case true=>
  have HF:=zq (fF e12 rfl);go_enter func118,ntmps118;go_wp2;go_ret;exact⟨by rw[HF.out];rfl,rfl⟩
 cases e13:(s.toList==[109,117,108])
 case true=>
  have HF:=zq (fF e13 rfl);go_enter func118,ntmps118;go_wp2;go_ret;exact⟨by rw[HF.out];rfl,rfl⟩
 cases e14:(s.toList==[110,101,103])
 case true=>
  have HF:=zq (fF e14 rfl);go_enter func118,ntmps118;go_wp2;go_ret;exact⟨by rw[HF.out];rfl,rfl⟩
 cases e15:(s.toList==[101,113])
 case true=>
  have HF:=zq (fF e15 rfl);go_enter func118,ntmps118;go_wp2;go_ret;exact⟨by rw[HF.out];rfl,rfl⟩
 cases e16:(s.toList==[108,116])
 case true=>
  have HF:=zq (fF e16 rfl);go_enter func118,ntmps118;go_wp2;go_ret;exact⟨by rw[HF.out];rfl,rfl⟩
 cases e17:(s.toList==[97,110,100])
 case true=>
  have HF:=zq (fF e17 rfl);go_enter func118,ntmps118;go_wp2;go_ret;exact⟨by rw[HF.out];rfl,rfl⟩
 cases e18:(s.toList==[111,114])
 case true=>
  have HF:=zq (fF e18 rfl);go_enter func118,ntmps118;go_wp2;go_ret;exact⟨by rw[HF.out];rfl,rfl⟩
 cases e19:(s.toList==[110,111,116])
 case true=>
  have HF:=zq (fF e19 rfl);go_enter func118,ntmps118;go_wp2;go_ret;exact⟨by rw[HF.out];rfl,rfl⟩
 cases e20:(s.toList==[99,97,116])
 case true=>
  have HF:=zq (fF e20 rfl);go_enter func118,ntmps118;go_wp2;go_ret;exact⟨by rw[HF.out];rfl,rfl⟩
 cases e21:(s.toList==[108,101,110])
 case true=>
  have HF:=zq (fF e21 rfl);go_enter func118,ntmps118;go_wp2;go_ret;exact⟨by rw[HF.out];rfl,rfl⟩
 cases e22:(s.toList==[105,102])
 case true=>
  have HF:=zq (fF e22 rfl);go_enter func118,ntmps118;go_wp2;go_ret;exact⟨by rw[HF.out];rfl,rfl⟩
 have HF:Hid (words.contains s.toList=false):=zq (by simp only[words,List.contains_cons,List.contains_nil,e0,e1,e2,e3,e4,e5,e6,e7,e8,e9,e10,e11,e12,e13,e14,e15,e16,e17,e18,e19,e20,e21,e22,Bool.or_false]);go_enter func118,ntmps118;go_wp2;go_ret;exact⟨by rw[HF.out];rfl,rfl⟩
theorem Dw{l:List UInt8}{k:Nat}{c:UInt8}(hk:k<l.length)(hc:l.getD k 0=c):(l.take (k+1)).all gY=((l.take k).all gY&&gY c):=by rw[aDi hk,aET];simp[List.getD,hk]at hc;simp[hc]
theorem uA{l:List UInt8}{k:Nat}{c:UInt8}(hk:k<l.length)(hc:l.getD k 0=c)(h:gY c=false):l.all gY=false:=by rw[List.all_eq_false];simp[List.getD,hk]at hc;exact⟨c,hc▸List.getElem_mem hk,by simp[h]⟩
theorem Kq{s:ByteArray}(h:¬(1<=s.size/\s.size<=12)):gU s=false:=by unfold gU;by_cases h1:1<=s.size;rw[aDB (p:=s.size<=12) (λh2=>h ⟨h1,h2⟩)];simp;rw[aDB h1];rfl
theorem adn{s:ByteArray}(h1:1<=s.size)(h2:s.size<=12):gU s=(s.data.toList.all gY&&!words.contains s.data.toList):=by unfold gU;rw[aDE h1,aDE h2];rfl
theorem aGy(h:U:=by
 have HF:Hid ((s.data.toList.take (k+1)).all gY=true):=zq (by rw[Dw (by rw[HL.out];exact hlt) HX.out,HT.out];unfold gY;rw[aDE l1,aDE l2];rfl);clear l1 l2;go_wp2
 go_round
 case rel=>exact⟨k+1,ae,by go_num,HF⟩
 case measure=>simp[intOf];omega):U:=h
theorem vP(s:ByteArray)(w:ak):
  Calls ax 64 #[.string s] w λe w'=>e=.returned (.bool (gU s))/\Ev w w':=by
 by_cases h1:1<=s.size
 ·by_cases h2:s.size<=12
  ·rw[adn h1 h2];have HW:=zq (λw1=>Xq s w1);generalize words.contains s.data.toList=wd at*;obtain⟨al,Jj⟩:∃al,s.data.toList.all gY=al:=⟨_,rfl⟩
   rw[Jj];have N7:=zq Jj;clear Jj;have i1:¬(s.size:Int)<1:=ae;have i2:¬(12:Int)<(s.size:Int):=ae;have hcv:=Lib.run_convert_string_bytes (P:=ax) w 9 180 5 s underlying9 underlying180 underlying5;go_enter func64,ntmps64;go_wp2;obtain⟨g,hg⟩:∃g,g=w.heap.size:=⟨_,rfl⟩
   obtain⟨cap,hcap⟩:∃cap,cap=grownCap w s.size 0 5:=⟨_,rfl⟩
   obtain⟨n,hn⟩:∃n,n=s.size:=⟨_,rfl⟩
   have hle:n<=cap:=by rw[hn,hcap];exact grownCap_ge _ _ _ _
   have hmx:cap<=maxLen:=by rw[hcap];exact grownCap_le_maxLen _ _ _ _ (by unfold maxLen;omega)
   have kN:s.data.toList.length=n:=by rw[hn,aDK];rfl
   have hEc:Ev w (Lib.bytesWorld w 5 s):=Lib.bytesWorld_below w 5 s;have hcell:∀i,i<n->(Lib.bytesWorld w 5 s).cell? ⟨g,i,none⟩=some (.int .u8 ((s.data.toList.getD i 0).toNat:Int)):=λi hi=>by rw[hg];exact Lib.bytesWorld_cell w 5 s i ae
   rw[<-hg,<-hcap,<-hn];generalize Lib.bytesWorld w 5 s=w2 at*;have HL:=zq kN;unfold maxLen at hmx;rw[<-hn]at i1 i2;clear hcv hg hcap kN hn h1 h2
   go_loop [16] (λi=>∃k:Nat,k<=n/\i=↑k/\Hid ((s.data.toList.take k).all gY=true)) (λi=>n-(intOf i).toNat)
   case atStart=>exact⟨0,aDl _,rfl,zq rfl⟩
   case round=>
    obtain⟨k,hk,rfl,HT⟩:=hrel;by_cases hlt:k<n
    ·have hc:=hcell k hlt;obtain⟨x,hx⟩:∃x,s.data.toList.getD k 0=x:=⟨_,rfl⟩
     rw[hx]at hc;have HX:=zq hx;clear hx hcell;by_cases l1:97<=x.toNat
     ·have j1:¬((x.toNat:Int)<97):=ae;by_cases l2:x.toNat<=122;have j2:¬((122:Int)<(x.toNat:Int)):=ae;exact aGy;have j2:(122:Int)<(x.toNat:Int):=ae;have HF:Hid (s.data.toList.all gY=false):=zq (uA (by rw[HL.out];exact hlt) HX.out (by unfold gY;rw[aDB l2];simp));clear l1 l2;go_wp2;go_ret;exact⟨by rw[<-N7.out,HF.out];rfl,hEc⟩
     have j1:(x.toNat:Int)<97:=ae;have HF:Hid (s.data.toList.all gY=false):=zq (uA (by rw[HL.out];exact hlt) HX.out (by unfold gY;rw[aDB l1];rfl));clear l1;go_wp2;go_ret;exact⟨by rw[<-N7.out,HF.out];rfl,hEc⟩
    obtain rfl:k=n:=ae;have HF:Hid (s.data.toList.all gY=true):=zq (by
     have:=HT.out;rwa [aDj (by rw[HL.out];exact aC8 _)]at this)
    go_wp2_with (first|((with_reducible refine(HW.out _).mono ?_);rintro y w3 ⟨rfl,rfl⟩))
    go_ret;exact⟨by rw[<-N7.out,HF.out];rfl,hEc⟩
  rw[Kq (λh=>h2 h.2)];have i1:¬(s.size:Int)<1:=ae;have i2:(12:Int)<(s.size:Int):=ae;go_enter func64,ntmps64;go_wp2;go_ret;exact⟨rfl,Ev.refl _⟩
 rw[Kq (λh=>h1 h.1)];have i1:(s.size:Int)<1:=ae;go_enter func64,ntmps64;go_wp2;go_ret;exact⟨rfl,Ev.refl _⟩
theorem yS{A:Option Addr}{n cap:Nat}{l:List C}(s:ByteArray)(w:ak)(h:Cs w A n cap l):
  Calls ax 119 #[.slice A n cap,.string s] w λe w'=>e=.returned (.tuple #[.int .i64 (foundAt (gZ l s)),.bool (gZ l s).isSome])/\Ev w w':=by
 have hn:=h.le;have hm:=h.max;have HN:=zq h.len;go_enter func119,ntmps119;go_wp2
 go_loopw [10] (λi wr=>∃k:Nat,k<=n/\i=↑k/\Hid (∀i c,i<k->l[i]?=some c->named s c=false)/\Ev w wr) (λi _=>n-(intOf i).toNat)
 case atStart=>exact⟨0,aDl _,rfl,zq (λi c hi=>by omega),Ev.refl _⟩
 case round=>
  obtain⟨k,hk,rfl,HT,hE⟩:=hrel;by_cases hlt:k<n
  ·obtain⟨b,off,⟨xs,xk⟩,rfl,hb,hx,c0,c1⟩:=(h.ev hE).ac5 hlt;have HX:=zq hx;clear hx;simp only at c0 c1
   cases ht:(xs.toList==s.toList)
   ·have HF:Hid (∀i c,i<k+1->l[i]?=some c->named s c=false):=zq (λi c hi hc=>by
     by_cases hik:i<k;exact HT.out i c hik hc;obtain rfl:i=k:=ae;rw[HX.out]at hc;obtain rfl:=aDp hc;exact ht)
    go_wp2;go_roundw
    case rel=>exact⟨k+1,ae,by go_num,HF,hE.trans aC⟩
    case measure=>simp[intOf];omega
   have HF:=zq (Xg HT.out HX.out ht);go_wp2
   go_ret2
   exact⟨by rw[HF.out];rfl,hE.trans aC⟩
  obtain rfl:k=n:=ae;have HF:Hid (gZ l s=none):=zq (Xh λi c hi hc=>HT.out i c (by rw[HN.out]at hi;exact hi) hc);go_wp2
  go_ret2
  exact⟨by rw[HF.out];rfl,hE⟩
theorem ad7(s:ByteArray)(k:Nat)(h:k<s.size):s[k]=s.data.toList.getD k 0:=by obtain⟨⟨l⟩⟩:=s;have hk:k<l.length:=h;simp[List.getD,hk];rfl
theorem XI(k:Nat)(hk:k<23):(#[.string ⟨#[116,97,98,108,101]⟩,.string ⟨#[102,105,108,116,101,114]⟩,.string ⟨#[112,114,111,106,101,99,116]⟩,.string ⟨#[106,111,105,110]⟩,.string ⟨#[117,110,105,111,110]⟩,.string ⟨#[100,105,115,116,105,110,99,116]⟩,.string ⟨#[103,114,111,117,112]⟩,.string ⟨#[99,111,117,110,116]⟩,.string ⟨#[115,117,109]⟩,.string ⟨#[109,105,110]⟩,.string ⟨#[109,97,120]⟩,.string ⟨#[97,100,100]⟩,.string ⟨#[115,117,98]⟩,.string ⟨#[109,117,108]⟩,.string ⟨#[110,101,103]⟩,.string ⟨#[101,113]⟩,.string ⟨#[108,116]⟩,.string ⟨#[97,110,100]⟩,.string ⟨#[111,114]⟩,.string ⟨#[110,111,116]⟩,.string ⟨#[99,97,116]⟩,.string ⟨#[108,101,110]⟩,.string ⟨#[105,102]⟩]:Array au)[k]?=some (.string ⟨(words.getD k []).toArray⟩):=by have e:(#[.string ⟨#[116,97,98,108,101]⟩,.string ⟨#[102,105,108,116,101,114]⟩,.string ⟨#[112,114,111,106,101,99,116]⟩,.string ⟨#[106,111,105,110]⟩,.string ⟨#[117,110,105,111,110]⟩,.string ⟨#[100,105,115,116,105,110,99,116]⟩,.string ⟨#[103,114,111,117,112]⟩,.string ⟨#[99,111,117,110,116]⟩,.string ⟨#[115,117,109]⟩,.string ⟨#[109,105,110]⟩,.string ⟨#[109,97,120]⟩,.string ⟨#[97,100,100]⟩,.string ⟨#[115,117,98]⟩,.string ⟨#[109,117,108]⟩,.string ⟨#[110,101,103]⟩,.string ⟨#[101,113]⟩,.string ⟨#[108,116]⟩,.string ⟨#[97,110,100]⟩,.string ⟨#[111,114]⟩,.string ⟨#[110,111,116]⟩,.string ⟨#[99,97,116]⟩,.string ⟨#[108,101,110]⟩,.string ⟨#[105,102]⟩]:Array au)=(words.map λl=>Value.string ⟨l.toArray⟩).toArray:=rfl;have hl:k<words.length:=hk;rw[e,List.getElem?_toArray,aDG,aDo hl,List.getD,aDo hl];rfl
theorem ahD{k:Nat}(hk:k<23){x:List UInt8}(h:words.getD k []=x):words.contains x=true:=by have hl:k<words.length:=hk;rw[List.contains_iff_mem,<-h,List.getD,aDo hl];exact List.getElem_mem hl
theorem ad8{x:List UInt8}(h:∀i,i<23->words.getD i []≠x):words.contains x=false:=by
 cases hc:words.contains x
 rfl;rw[List.contains_iff_mem]at hc;obtain⟨i,hi,e⟩:=aEN hc;exact absurd (by rw[List.getD,aDo hi];exact e) (h i hi)
theorem abp(s:ByteArray)(w:ak)(hs:s.size<=maxLen):
  Calls ax 162 #[.string s] w λe w'=>e=.returned (.bool (gU s))/\Ev w w':=by
 unfold maxLen at hs;have kN:s.data.toList.length=s.size:=by rw[aDK];rfl
 obtain⟨w0,hw0⟩:∃w0,w0=w.alloc (.cells #[.string ⟨#[116,97,98,108,101]⟩,.string ⟨#[102,105,108,116,101,114]⟩,.string ⟨#[112,114,111,106,101,99,116]⟩,.string ⟨#[106,111,105,110]⟩,.string ⟨#[117,110,105,111,110]⟩,.string ⟨#[100,105,115,116,105,110,99,116]⟩,.string ⟨#[103,114,111,117,112]⟩,.string ⟨#[99,111,117,110,116]⟩,.string ⟨#[115,117,109]⟩,.string ⟨#[109,105,110]⟩,.string ⟨#[109,97,120]⟩,.string ⟨#[97,100,100]⟩,.string ⟨#[115,117,98]⟩,.string ⟨#[109,117,108]⟩,.string ⟨#[110,101,103]⟩,.string ⟨#[101,113]⟩,.string ⟨#[108,116]⟩,.string ⟨#[97,110,100]⟩,.string ⟨#[111,114]⟩,.string ⟨#[110,111,116]⟩,.string ⟨#[99,97,116]⟩,.string ⟨#[108,101,110]⟩,.string ⟨#[105,102]⟩] 9):=⟨_,rfl⟩
 have aV:Ev w w0:=hw0▸Ev.alloc w _;obtain⟨g,hg⟩:∃g,g=w.heap.size:=⟨_,rfl⟩
 have hcell:∀k,k<23->∃X:ByteArray,X.toList=words.getD k []/\w0.cell? ⟨g,k,none⟩=some (.string X):=λk hk=>by refine⟨⟨(words.getD k []).toArray⟩,aj,?_⟩;rw[hw0,hg,aFf (aFd w _)];exact XI k hk
 have HL:=zq kN;clear kN;go_enter func162,ntmps162;go_wp2;rw[<-hw0,<-hg];clear hw0 hg
 go_loop [4] (λi=>∃k:Nat,k<=23/\i=↑k/\Hid (∀i,i<k->words.getD i []≠s.data.toList)) (λi=>23-(intOf i).toNat)
 case atStart=>exact⟨0,aDl _,rfl,zq (λi hi=>by omega)⟩
 case round=>
  obtain⟨k,hk,rfl,HT⟩:=hrel;by_cases hlt:k<23
  ·obtain⟨X,hX,hc⟩:=hcell k hlt;clear hcell
   cases ht:(X.toList==s.toList)
   ·have HF:Hid (∀i,i<k+1->words.getD i []≠s.data.toList):=zq (λi hi=>by
     by_cases hik:i<k;exact HT.out i hik;obtain rfl:i=k:=ae;rw[<-hX,<-tl];exact aC7.1 ht)
    clear hX;go_wp2
    go_round
    case rel=>exact⟨k+1,ae,by go_num,HF⟩
    case measure=>simp[intOf];omega
   have HF:Hid (gU s=false):=zq (by
    have h1:words.contains s.data.toList=true:=ahD hlt (by rw[<-hX,<-tl];exact aDn.1 ht);unfold gU;rw[h1];simp)
   clear hX;go_wp2;go_ret;exact⟨by rw[HF.out];rfl,aV⟩
  obtain rfl:k=23:=ae;have HW:Hid (words.contains s.data.toList=false):=zq (ad8 HT.out);clear hcell HT;go_wp2
  go_loop [5] (λi=>∃k:Nat,k<=s.size/\i=↑k/\Hid ((s.data.toList.take k).all gY=true)) (λi=>s.size-(intOf i).toNat)
  case atStart=>exact⟨0,aDl _,rfl,zq rfl⟩
  case round=>
   obtain⟨k,hk,rfl,HT⟩:=hrel;by_cases hlt:k<s.size
   ·obtain⟨c,hc⟩:∃c,s[k]=c:=⟨_,rfl⟩
    have hidx:∀hh,s[k]'hh=c:=λ_=>hc;have HX:=zq ((ad7 s k hlt).symm.trans hc);clear hc;by_cases l1:97<=c.toNat
    ·have j1:¬((c.toNat:Int)<97):=ae;by_cases l2:c.toNat<=122;have j2:¬((122:Int)<(c.toNat:Int)):=ae;exact aGy;have j2:(122:Int)<(c.toNat:Int):=ae;have HF:Hid (gU s=false):=zq (by
      have h1:=uA (by rw[HL.out];exact hlt) HX.out (show gY c=false by unfold gY;rw[aDB l2];simp);unfold gU;rw[h1];simp)
     clear l1 l2;go_wp2;go_ret;exact⟨by rw[HF.out];rfl,aV⟩
    have j1:(c.toNat:Int)<97:=ae;have HF:Hid (gU s=false):=zq (by
     have h1:=uA (by rw[HL.out];exact hlt) HX.out (show gY c=false by unfold gY;rw[aDB l1];rfl);unfold gU;rw[h1];simp)
    clear l1;go_wp2;go_ret;exact⟨by rw[HF.out];rfl,aV⟩
   obtain rfl:k=s.size:=ae;have HF:Hid (gU s=(decide (1<=s.size)&&decide (s.size<=12))):=zq (by
    have:=HT.out;rw[aDj (by rw[HL.out];exact aC8 _)]at this;unfold gU;rw[this,HW.out];simp)
   by_cases h1:1<=s.size
   ·have i1:(1:Int)<=(s.size:Int):=ae;have e:(decide (1<=s.size)&&decide (s.size<=12))=decide ((s.size:Int)<=12):=by rw[aDE h1,aD'];exact decide_eq_decide.2 ae
    have XH:=zq (HF.out.trans e);clear e HF;go_wp2;go_ret;exact⟨by rw[XH.out];rfl,aV⟩
   have i1:¬(1:Int)<=(s.size:Int):=ae;have XH:Hid (gU s=false):=zq (by rw[HF.out,aDB h1];rfl);clear HF;go_wp2;go_ret;exact⟨by rw[XH.out];rfl,aV⟩
end Go.Proofs.YtbgmhhfjkkfhpaaGreatDoor
