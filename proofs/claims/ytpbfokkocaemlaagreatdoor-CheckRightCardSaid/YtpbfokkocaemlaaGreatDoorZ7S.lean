import Derived.Lib.AtoiErrMem
import Derived.WalkSmall
import Derived.Test.YtpbfokkocaemlaaGreatDoorZ5S
set_option linter.unusedVariables false
set_option maxRecDepth 100000
set_option maxHeartbeats 64000000
namespace Go.Proofs.YtpbfokkocaemlaaGreatDoor
open Go.RowKit
open Go.Lib renaming hid → zq
theorem tl (s:ByteArray):s.toList=s.data.toList:=by obtain⟨⟨x⟩⟩:=s;simp
theorem fE {x W:List UInt8} (h:(x==W)=true) (hm:words.contains W=true):words.contains x=true:=by rw[atH]at h;rw[h];exact hm
theorem TU (s:ByteArray) (w:World):
  Calls Tryz.prog 53 #[.string s] w fun e w'=>e=.returned (.bool (words.contains s.data.toList))∧w=w':=by
 rw[←tl]
 cases e0:(s.toList==[116,97,98,108,101])
 case true=>
  have HF:=zq (fE e0 rfl);go_enter Tryz.func53,Tryz.ntmps53;go_wp2;go_ret;exact⟨by rw[HF.out];rfl,rfl⟩
 cases e1:(s.toList==[102,105,108,116,101,114])
 case true=>
  have HF:=zq (fE e1 rfl);go_enter Tryz.func53,Tryz.ntmps53;go_wp2;go_ret;exact⟨by rw[HF.out];rfl,rfl⟩
 cases e2:(s.toList==[112,114,111,106,101,99,116])
 case true=>
  have HF:=zq (fE e2 rfl);go_enter Tryz.func53,Tryz.ntmps53;go_wp2;go_ret;exact⟨by rw[HF.out];rfl,rfl⟩
 cases e3:(s.toList==[106,111,105,110])
 case true=>
  have HF:=zq (fE e3 rfl);go_enter Tryz.func53,Tryz.ntmps53;go_wp2;go_ret;exact⟨by rw[HF.out];rfl,rfl⟩
 cases e4:(s.toList==[117,110,105,111,110])
 case true=>
  have HF:=zq (fE e4 rfl);go_enter Tryz.func53,Tryz.ntmps53;go_wp2;go_ret;exact⟨by rw[HF.out];rfl,rfl⟩
 cases e5:(s.toList==[100,105,115,116,105,110,99,116])
 case true=>
  have HF:=zq (fE e5 rfl);go_enter Tryz.func53,Tryz.ntmps53;go_wp2;go_ret;exact⟨by rw[HF.out];rfl,rfl⟩
 cases e6:(s.toList==[103,114,111,117,112])
 case true=>
  have HF:=zq (fE e6 rfl);go_enter Tryz.func53,Tryz.ntmps53;go_wp2;go_ret;exact⟨by rw[HF.out];rfl,rfl⟩
 cases e7:(s.toList==[99,111,117,110,116])
 case true=>
  have HF:=zq (fE e7 rfl);go_enter Tryz.func53,Tryz.ntmps53;go_wp2;go_ret;exact⟨by rw[HF.out];rfl,rfl⟩
 cases e8:(s.toList==[115,117,109])
 case true=>
  have HF:=zq (fE e8 rfl);go_enter Tryz.func53,Tryz.ntmps53;go_wp2;go_ret;exact⟨by rw[HF.out];rfl,rfl⟩
 cases e9:(s.toList==[109,105,110])
 case true=>
  have HF:=zq (fE e9 rfl);go_enter Tryz.func53,Tryz.ntmps53;go_wp2;go_ret;exact⟨by rw[HF.out];rfl,rfl⟩
 cases e10:(s.toList==[109,97,120])
 case true=>
  have HF:=zq (fE e10 rfl);go_enter Tryz.func53,Tryz.ntmps53;go_wp2;go_ret;exact⟨by rw[HF.out];rfl,rfl⟩
 cases e11:(s.toList==[97,100,100])
 case true=>
  have HF:=zq (fE e11 rfl);go_enter Tryz.func53,Tryz.ntmps53;go_wp2;go_ret;exact⟨by rw[HF.out];rfl,rfl⟩
 cases e12:(s.toList==[115,117,98])
 case true=>
  have HF:=zq (fE e12 rfl);go_enter Tryz.func53,Tryz.ntmps53;go_wp2;go_ret;exact⟨by rw[HF.out];rfl,rfl⟩
 cases e13:(s.toList==[109,117,108])
 case true=>
  have HF:=zq (fE e13 rfl);go_enter Tryz.func53,Tryz.ntmps53;go_wp2;go_ret;exact⟨by rw[HF.out];rfl,rfl⟩
 cases e14:(s.toList==[110,101,103])
 case true=>
  have HF:=zq (fE e14 rfl);go_enter Tryz.func53,Tryz.ntmps53;go_wp2;go_ret;exact⟨by rw[HF.out];rfl,rfl⟩
 cases e15:(s.toList==[101,113])
 case true=>
  have HF:=zq (fE e15 rfl);go_enter Tryz.func53,Tryz.ntmps53;go_wp2;go_ret;exact⟨by rw[HF.out];rfl,rfl⟩
 cases e16:(s.toList==[108,116])
 case true=>
  have HF:=zq (fE e16 rfl);go_enter Tryz.func53,Tryz.ntmps53;go_wp2;go_ret;exact⟨by rw[HF.out];rfl,rfl⟩
 cases e17:(s.toList==[97,110,100])
 case true=>
  have HF:=zq (fE e17 rfl);go_enter Tryz.func53,Tryz.ntmps53;go_wp2;go_ret;exact⟨by rw[HF.out];rfl,rfl⟩
 cases e18:(s.toList==[111,114])
 case true=>
  have HF:=zq (fE e18 rfl);go_enter Tryz.func53,Tryz.ntmps53;go_wp2;go_ret;exact⟨by rw[HF.out];rfl,rfl⟩
 cases e19:(s.toList==[110,111,116])
 case true=>
  have HF:=zq (fE e19 rfl);go_enter Tryz.func53,Tryz.ntmps53;go_wp2;go_ret;exact⟨by rw[HF.out];rfl,rfl⟩
 cases e20:(s.toList==[99,97,116])
 case true=>
  have HF:=zq (fE e20 rfl);go_enter Tryz.func53,Tryz.ntmps53;go_wp2;go_ret;exact⟨by rw[HF.out];rfl,rfl⟩
 cases e21:(s.toList==[108,101,110])
 case true=>
  have HF:=zq (fE e21 rfl);go_enter Tryz.func53,Tryz.ntmps53;go_wp2;go_ret;exact⟨by rw[HF.out];rfl,rfl⟩
 cases e22:(s.toList==[105,102])
 case true=>
  have HF:=zq (fE e22 rfl);go_enter Tryz.func53,Tryz.ntmps53;go_wp2;go_ret;exact⟨by rw[HF.out];rfl,rfl⟩
 have HF:Hid (words.contains s.toList=false):=zq (by simp only[words,List.contains_cons,List.contains_nil,e0,e1,e2,e3,e4,e5,e6,e7,e8,e9,e10,e11,e12,e13,e14,e15,e16,e17,e18,e19,e20,e21,e22,Bool.or_false]);go_enter Tryz.func53,Tryz.ntmps53;go_wp2;go_ret;exact⟨by rw[HF.out];rfl,rfl⟩
theorem CP {l:List UInt8} {k:Nat} {c:UInt8} (hk:k<l.length) (hc:l.getD k 0=c):(l.take (k+1)).all gW=((l.take k).all gW&&gW c):=by rw[atD hk,auZ];simp[List.getD,hk]at hc;simp[hc]
theorem vg {l:List UInt8} {k:Nat} {c:UInt8} (hk:k<l.length) (hc:l.getD k 0=c) (h:gW c=false):l.all gW=false:=by rw[List.all_eq_false];simp[List.getD,hk]at hc;exact⟨c,hc▸List.getElem_mem hk,by simp[h]⟩
theorem Iu {s:ByteArray} (h:¬(1≤s.size∧s.size≤12)):fM s=false:=by unfold fM;by_cases h1:1≤s.size;rw[auj (p:=s.size≤12) (fun h2=>h ⟨h1,h2⟩)];simp;rw[auj h1];rfl
theorem YX {s:ByteArray} (h1:1≤s.size) (h2:s.size≤12):fM s=(s.data.toList.all gW&&!words.contains s.data.toList):=by unfold fM;rw[atX h1,atX h2];rfl
theorem awy {P:Prop} (h:P:=by
 have HF:Hid ((s.data.toList.take (k+1)).all gW=true):=zq (by rw[CP (by rw[HL.out];exact hlt) HX.out,HT.out];unfold gW;rw[atX l1,atX l2];rfl);clear l1 l2;go_wp2
 go_round
 case rel=>exact⟨k+1,by omega,by go_num,HF⟩
 case measure=>simp[intOf];omega):P:=h
theorem wO (s:ByteArray) (w:World):
  Calls Tryz.prog 26 #[.string s] w fun e w'=>e=.returned (.bool (fM s))∧Ev w w':=by
 by_cases h1:1≤s.size
 ·by_cases h2:s.size≤12
  ·rw[YX h1 h2];have HW:=zq (fun w1=>TU s w1);generalize words.contains s.data.toList=wd at*;obtain⟨al,Iw⟩:∃al,s.data.toList.all gW=al:=⟨_,rfl⟩
   rw[Iw];have Oe:=zq Iw;clear Iw;have i1:¬(s.size:Int)<1:=by omega
   have i2:¬(12:Int)<(s.size:Int):=by omega
   have hcv:=Lib.run_convert_string_bytes (P:=Tryz.prog) w 9 93 5 s Tryz.underlying9 Tryz.underlying93 Tryz.underlying5;go_enter Tryz.func26,Tryz.ntmps26;go_wp2;obtain⟨g,hg⟩:∃g,g=w.heap.size:=⟨_,rfl⟩
   obtain⟨cap,hcap⟩:∃cap,cap=grownCap w s.size 0 5:=⟨_,rfl⟩
   obtain⟨n,hn⟩:∃n,n=s.size:=⟨_,rfl⟩
   have hle:n≤cap:=by rw[hn,hcap];exact grownCap_ge _ _ _ _
   have hmx:cap≤maxLen:=by rw[hcap];exact grownCap_le_maxLen _ _ _ _ (by unfold maxLen;omega)
   have jd:s.data.toList.length=n:=by rw[hn,atU];rfl
   have hEc:Ev w (Lib.bytesWorld w 5 s):=Lib.bytesWorld_below w 5 s;have hcell:∀i,i<n→(Lib.bytesWorld w 5 s).cell? ⟨g,i,none⟩=some (.int .u8 ((s.data.toList.getD i 0).toNat:Int)):=fun i hi=>by rw[hg];exact Lib.bytesWorld_cell w 5 s i (by omega)
   rw[←hg,←hcap,←hn];generalize Lib.bytesWorld w 5 s=w2 at*;have HL:=zq jd;unfold maxLen at hmx;rw[←hn]at i1 i2;clear hcv hg hcap jd hn h1 h2
   go_loop [16] (fun i=>∃k:Nat,k≤n∧i=.int .i64 (k:Int)∧Hid ((s.data.toList.take k).all gW=true)) (fun i=>n - (intOf i).toNat)
   case atStart=>exact⟨0,atG _,rfl,zq rfl⟩
   case round=>
    obtain⟨k,hk,rfl,HT⟩:=hrel;by_cases hlt:k<n
    ·have hc:=hcell k hlt;obtain⟨x,hx⟩:∃x,s.data.toList.getD k 0=x:=⟨_,rfl⟩
     rw[hx]at hc;have HX:=zq hx;clear hx hcell;by_cases l1:97≤x.toNat
     ·have j1:¬((x.toNat:Int)<97):=by omega
      by_cases l2:x.toNat≤122;have j2:¬((122:Int)<(x.toNat:Int)):=by omega
      exact awy;have j2:(122:Int)<(x.toNat:Int):=by omega
      have HF:Hid (s.data.toList.all gW=false):=zq (vg (by rw[HL.out];exact hlt) HX.out (by unfold gW;rw[auj l2];simp));clear l1 l2;go_wp2;go_ret;exact⟨by rw[←Oe.out,HF.out];rfl,hEc⟩
     have j1:(x.toNat:Int)<97:=by omega
     have HF:Hid (s.data.toList.all gW=false):=zq (vg (by rw[HL.out];exact hlt) HX.out (by unfold gW;rw[auj l1];rfl));clear l1;go_wp2;go_ret;exact⟨by rw[←Oe.out,HF.out];rfl,hEc⟩
    obtain rfl:k=n:=by omega
    have HF:Hid (s.data.toList.all gW=true):=zq (by
     have:=HT.out;rwa [atJ (by rw[HL.out];exact att _)]at this)
    go_wp2_with (first|((with_reducible refine (HW.out _).mono ?_);rintro y w3 ⟨rfl,rfl⟩))
    go_ret;exact⟨by rw[←Oe.out,HF.out];rfl,hEc⟩
  rw[Iu (fun h=>h2 h.2)];have i1:¬(s.size:Int)<1:=by omega
  have i2:(12:Int)<(s.size:Int):=by omega
  go_enter Tryz.func26,Tryz.ntmps26;go_wp2;go_ret;exact⟨rfl,Ev.refl _⟩
 rw[Iu (fun h=>h1 h.1)];have i1:(s.size:Int)<1:=by omega
 go_enter Tryz.func26,Tryz.ntmps26;go_wp2;go_ret;exact⟨rfl,Ev.refl _⟩
theorem CQ {A:Option Addr} {n cap:Nat} {l:List C} (s:ByteArray) (w:World) (h:Cs w A n cap l):
  Calls Tryz.prog 16 #[.slice A n cap,.string s] w fun e w'=>e=.returned (.tuple #[.int .i64 (foundAt (iO l s)),.bool (iO l s).isSome])∧Ev w w':=by
 have hn:=h.le;have hm:=h.max;have HN:=zq h.len;go_enter Tryz.func16,Tryz.ntmps16;go_wp2
 go_loopw [10] (fun i wr=>∃k:Nat,k≤n∧i=.int .i64 k∧Hid (∀i c,i<k→l[i]?=some c→named s c=false)∧Ev w wr) (fun i _=>n - (intOf i).toNat)
 case atStart=>exact⟨0,atG _,rfl,zq (fun i c hi=>by omega),Ev.refl _⟩
 case round=>
  obtain⟨k,hk,rfl,HT,hE⟩:=hrel;by_cases hlt:k<n
  ·obtain⟨b,off,⟨xs,xk⟩,rfl,hb,hx,c0,c1⟩:=(h.ev hE).Yy hlt;have HX:=zq hx;clear hx;simp only at c0 c1
   cases ht:(xs.toList==s.toList)
   ·have HF:Hid (∀i c,i<k+1→l[i]?=some c→named s c=false):=zq (fun i c hi hc=>by
     by_cases hik:i<k;exact HT.out i c hik hc;obtain rfl:i=k:=by omega
     rw[HX.out]at hc;obtain rfl:=aui hc;exact ht)
    go_wp2;go_roundw
    case rel=>exact⟨k+1,by omega,by go_num,HF,hE.trans (Ev.alloc _ _)⟩
    case measure=>simp[intOf];omega
   have HF:=zq (TN HT.out HX.out ht);go_wp2
   go_ret2
   exact⟨by rw[HF.out];rfl,hE.trans (Ev.alloc _ _)⟩
  obtain rfl:k=n:=by omega
  have HF:Hid (iO l s=none):=zq (TP fun i c hi hc=>HT.out i c (by rw[HN.out]at hi;exact hi) hc);go_wp2
  go_ret2
  exact⟨by rw[HF.out];rfl,hE⟩
theorem Y2 (s:ByteArray) (k:Nat) (h:k<s.size):s[k]=s.data.toList.getD k 0:=by obtain⟨⟨l⟩⟩:=s;have hk:k<l.length:=h;simp[List.getD,hk];rfl
theorem Uc (k:Nat) (hk:k<23):(#[.string ⟨#[116,97,98,108,101]⟩,.string ⟨#[102,105,108,116,101,114]⟩,.string ⟨#[112,114,111,106,101,99,116]⟩,.string ⟨#[106,111,105,110]⟩,.string ⟨#[117,110,105,111,110]⟩,.string ⟨#[100,105,115,116,105,110,99,116]⟩,.string ⟨#[103,114,111,117,112]⟩,.string ⟨#[99,111,117,110,116]⟩,.string ⟨#[115,117,109]⟩,.string ⟨#[109,105,110]⟩,.string ⟨#[109,97,120]⟩,.string ⟨#[97,100,100]⟩,.string ⟨#[115,117,98]⟩,.string ⟨#[109,117,108]⟩,.string ⟨#[110,101,103]⟩,.string ⟨#[101,113]⟩,.string ⟨#[108,116]⟩,.string ⟨#[97,110,100]⟩,.string ⟨#[111,114]⟩,.string ⟨#[110,111,116]⟩,.string ⟨#[99,97,116]⟩,.string ⟨#[108,101,110]⟩,.string ⟨#[105,102]⟩]:Array Value)[k]?=some (.string ⟨(words.getD k []).toArray⟩):=by have e:(#[.string ⟨#[116,97,98,108,101]⟩,.string ⟨#[102,105,108,116,101,114]⟩,.string ⟨#[112,114,111,106,101,99,116]⟩,.string ⟨#[106,111,105,110]⟩,.string ⟨#[117,110,105,111,110]⟩,.string ⟨#[100,105,115,116,105,110,99,116]⟩,.string ⟨#[103,114,111,117,112]⟩,.string ⟨#[99,111,117,110,116]⟩,.string ⟨#[115,117,109]⟩,.string ⟨#[109,105,110]⟩,.string ⟨#[109,97,120]⟩,.string ⟨#[97,100,100]⟩,.string ⟨#[115,117,98]⟩,.string ⟨#[109,117,108]⟩,.string ⟨#[110,101,103]⟩,.string ⟨#[101,113]⟩,.string ⟨#[108,116]⟩,.string ⟨#[97,110,100]⟩,.string ⟨#[111,114]⟩,.string ⟨#[110,111,116]⟩,.string ⟨#[99,97,116]⟩,.string ⟨#[108,101,110]⟩,.string ⟨#[105,102]⟩]:Array Value)=(words.map fun l=>Value.string ⟨l.toArray⟩).toArray:=rfl;have hl:k<words.length:=hk;rw[e,List.getElem?_toArray,aul,atN hl,List.getD,atN hl];rfl
theorem abK {k:Nat} (hk:k<23) {x:List UInt8} (h:words.getD k []=x):words.contains x=true:=by have hl:k<words.length:=hk;rw[List.contains_iff_mem,←h,List.getD,atN hl];exact List.getElem_mem hl
theorem Y3 {x:List UInt8} (h:∀i,i<23→words.getD i []≠x):words.contains x=false:=by
 cases hc:words.contains x
 rfl;rw[List.contains_iff_mem]at hc;obtain⟨i,hi,e⟩:=List.getElem_of_mem hc;exact absurd (by rw[List.getD,atN hi];exact e) (h i hi)
theorem Eo (s:ByteArray) (w:World) (hs:s.size≤maxLen):
  Calls Tryz.prog 41 #[.string s] w fun e w'=>e=.returned (.bool (fM s))∧Ev w w':=by
 unfold maxLen at hs;have jd:s.data.toList.length=s.size:=by rw[atU];rfl
 obtain⟨w0,hw0⟩:∃w0,w0=w.alloc (.cells #[.string ⟨#[116,97,98,108,101]⟩,.string ⟨#[102,105,108,116,101,114]⟩,.string ⟨#[112,114,111,106,101,99,116]⟩,.string ⟨#[106,111,105,110]⟩,.string ⟨#[117,110,105,111,110]⟩,.string ⟨#[100,105,115,116,105,110,99,116]⟩,.string ⟨#[103,114,111,117,112]⟩,.string ⟨#[99,111,117,110,116]⟩,.string ⟨#[115,117,109]⟩,.string ⟨#[109,105,110]⟩,.string ⟨#[109,97,120]⟩,.string ⟨#[97,100,100]⟩,.string ⟨#[115,117,98]⟩,.string ⟨#[109,117,108]⟩,.string ⟨#[110,101,103]⟩,.string ⟨#[101,113]⟩,.string ⟨#[108,116]⟩,.string ⟨#[97,110,100]⟩,.string ⟨#[111,114]⟩,.string ⟨#[110,111,116]⟩,.string ⟨#[99,97,116]⟩,.string ⟨#[108,101,110]⟩,.string ⟨#[105,102]⟩] 9):=⟨_,rfl⟩
 have aT:Ev w w0:=hw0▸Ev.alloc w _;obtain⟨g,hg⟩:∃g,g=w.heap.size:=⟨_,rfl⟩
 have hcell:∀k,k<23→∃X:ByteArray,X.toList=words.getD k []∧w0.cell? ⟨g,k,none⟩=some (.string X):=fun k hk=>by refine⟨⟨(words.getD k []).toArray⟩,by simp,?_⟩;rw[hw0,hg,Lib.cell_of_heap (heap_alloc_new w _)];exact Uc k hk
 have HL:=zq jd;clear jd;go_enter Tryz.func41,Tryz.ntmps41;go_wp2;rw[←hw0,←hg];clear hw0 hg
 go_loop [4] (fun i=>∃k:Nat,k≤23∧i=.int .i64 (k:Int)∧Hid (∀i,i<k→words.getD i []≠s.data.toList)) (fun i=>23 - (intOf i).toNat)
 case atStart=>exact⟨0,atG _,rfl,zq (fun i hi=>by omega)⟩
 case round=>
  obtain⟨k,hk,rfl,HT⟩:=hrel;by_cases hlt:k<23
  ·obtain⟨X,hX,hc⟩:=hcell k hlt;clear hcell
   cases ht:(X.toList==s.toList)
   ·have HF:Hid (∀i,i<k+1→words.getD i []≠s.data.toList):=zq (fun i hi=>by
     by_cases hik:i<k;exact HT.out i hik;obtain rfl:i=k:=by omega
     rw[←hX,←tl];exact atp.1 ht)
    clear hX;go_wp2
    go_round
    case rel=>exact⟨k+1,by omega,by go_num,HF⟩
    case measure=>simp[intOf];omega
   have HF:Hid (fM s=false):=zq (by
    have h1:words.contains s.data.toList=true:=abK hlt (by rw[←hX,←tl];exact atH.1 ht);unfold fM;rw[h1];simp)
   clear hX;go_wp2;go_ret;exact⟨by rw[HF.out];rfl,aT⟩
  obtain rfl:k=23:=by omega
  have HW:Hid (words.contains s.data.toList=false):=zq (Y3 HT.out);clear hcell HT;go_wp2
  go_loop [5] (fun i=>∃k:Nat,k≤s.size∧i=.int .i64 (k:Int)∧Hid ((s.data.toList.take k).all gW=true)) (fun i=>s.size - (intOf i).toNat)
  case atStart=>exact⟨0,atG _,rfl,zq rfl⟩
  case round=>
   obtain⟨k,hk,rfl,HT⟩:=hrel;by_cases hlt:k<s.size
   ·obtain⟨c,hc⟩:∃c,s[k]=c:=⟨_,rfl⟩
    have hidx:∀hh,s[k]'hh=c:=fun _=>hc;have HX:=zq ((Y2 s k hlt).symm.trans hc);clear hc;by_cases l1:97≤c.toNat
    ·have j1:¬((c.toNat:Int)<97):=by omega
     by_cases l2:c.toNat≤122;have j2:¬((122:Int)<(c.toNat:Int)):=by omega
     exact awy;have j2:(122:Int)<(c.toNat:Int):=by omega
     have HF:Hid (fM s=false):=zq (by
      have h1:=vg (by rw[HL.out];exact hlt) HX.out (show gW c=false by unfold gW;rw[auj l2];simp);unfold fM;rw[h1];simp)
     clear l1 l2;go_wp2;go_ret;exact⟨by rw[HF.out];rfl,aT⟩
    have j1:(c.toNat:Int)<97:=by omega
    have HF:Hid (fM s=false):=zq (by
     have h1:=vg (by rw[HL.out];exact hlt) HX.out (show gW c=false by unfold gW;rw[auj l1];rfl);unfold fM;rw[h1];simp)
    clear l1;go_wp2;go_ret;exact⟨by rw[HF.out];rfl,aT⟩
   obtain rfl:k=s.size:=by omega
   have HF:Hid (fM s=(decide (1≤s.size)&&decide (s.size≤12))):=zq (by
    have:=HT.out;rw[atJ (by rw[HL.out];exact att _)]at this;unfold fM;rw[this,HW.out];simp)
   by_cases h1:1≤s.size
   ·have i1:(1:Int)≤(s.size:Int):=by omega
    have e:(decide (1≤s.size)&&decide (s.size≤12))=decide ((s.size:Int)≤12):=by rw[atX h1,auA];exact decide_eq_decide.2 (by omega)
    have Ua:=zq (HF.out.trans e);clear e HF;go_wp2;go_ret;exact⟨by rw[Ua.out];rfl,aT⟩
   have i1:¬(1:Int)≤(s.size:Int):=by omega
   have Ua:Hid (fM s=false):=zq (by rw[HF.out,auj h1];rfl);clear HF;go_wp2;go_ret;exact⟨by rw[Ua.out];rfl,aT⟩
end Go.Proofs.YtpbfokkocaemlaaGreatDoor
