import Derived.Test.YtpbfokkocaemlaaGreatDoorShelf
import Derived.Lib.AtoiErrMem
import Derived.Test.YtpbfokkocaemlaaGreatDoorZ5S
set_option linter.unusedVariables false
set_option maxRecDepth 100000
set_option maxHeartbeats 64000000
namespace Go.Proofs.YtpbfokkocaemlaaGreatDoor
open Go.RowKit
open Go.Lib renaming hid → zq
def Vu (x:Tk):Array Value:=#[.int .i64 x.kind,.string ⟨x.s.toArray⟩,.int .i64 x.n,.slice none 0 0,.int .i64 0,.int .i64 x.size,.int .i64 x.why,.int .i64 x.fault]
def Yd (x:Tk):Value:=.agg (Vu x)
theorem Tryz.Yz:(Tryz.prog.info? 157).map (·.size)=some 8:=by kernel_rfl
theorem adN {fn:Func} {q:Tmp} (h:fn.results=#[.cell q 157]) (tmps:Array Value) (w:World) (g:Nat) (x:Tk)
  (hp:tmps.getD q undef=.pointer (some ⟨g,0,none⟩)) (hg:w.heap[g]?=some (.cells (Vu x) 157 (0,0))):
  (results fn tmps).run Tryz.prog w=.ok (Yd x) w:=
 results_cell_row h tmps w g 157 _ _ _ hp hg Tryz.underlying157 rfl Tryz.Yz
structure jW (g:Nat) (x:Tk) (w:World):Prop where
 blk:w.heap[g]?=some (.cells (Vu x) 157 (0,0))
theorem jW.cs {g:Nat} {x:Tk} {w:World} (h:jW g x w):w.cell? ⟨g,0,none⟩=some (.int .i64 x.kind)∧w.cell? ⟨g,1,none⟩=some (.string ⟨x.s.toArray⟩)∧w.cell? ⟨g,2,none⟩=some (.int .i64 x.n)∧w.cell? ⟨g,3,none⟩=some (.slice none 0 0)∧
  w.cell? ⟨g,4,none⟩=some (.int .i64 0)∧w.cell? ⟨g,5,none⟩=some (.int .i64 x.size)∧w.cell? ⟨g,6,none⟩=some (.int .i64 x.why)∧w.cell? ⟨g,7,none⟩=some (.int .i64 x.fault):=by
 refine⟨?_,?_,?_,?_,?_,?_,?_,?_⟩<;>(rw[Lib.cell_of_heap h.blk];rfl)
theorem jW.f {g:Nat} {x:Tk} {w:World} (h:jW g x w) (i:Nat):w.frozen? ⟨g,i,none⟩=false:=Lib.frozen_of_heap h.blk i
theorem jW.fs {g:Nat} {x:Tk} {w:World} (h:jW g x w):w.frozen? ⟨g,0,none⟩=false∧w.frozen? ⟨g,1,none⟩=false∧w.frozen? ⟨g,2,none⟩=false∧w.frozen? ⟨g,3,none⟩=false∧w.frozen? ⟨g,4,none⟩=false∧w.frozen? ⟨g,5,none⟩=false∧w.frozen? ⟨g,6,none⟩=false∧w.frozen? ⟨g,7,none⟩=false:=
 ⟨h.f 0,h.f 1,h.f 2,h.f 3,h.f 4,h.f 5,h.f 6,h.f 7⟩
theorem jW.lt {g:Nat} {x:Tk} {w:World} (h:jW g x w):g<w.heap.size:=(atC.1 h.blk).1
theorem jW.but {K:List Nat} {g:Nat} {x:Tk} {w w':World} (h:jW g x w) (hb:But K w w') (hn:g∉K):jW g x w':=⟨hb.heap h.blk hn⟩
theorem jW.ev {g:Nat} {x:Tk} {w w':World} (h:jW g x w) (hE:Ev w w'):jW g x w':=h.but (But.aS (K:=[]) hE) (by simp)
theorem jW.new (x:Tk) (w:World):jW w.heap.size x (w.alloc (.cells (Vu x) 157)):=⟨heap_alloc_new w _⟩
def Vw (k n z y f:Int) (s:ByteArray):Array Value:=#[.int .i64 k,.string s,.int .i64 n,.slice none 0 0,.int .i64 0,.int .i64 z,.int .i64 y,.int .i64 f]
def Qa (g:Nat) (k n z y f:Int) (s:ByteArray) (w:World):World:=
 (((((((w.setCell ⟨g,0,none⟩ (.int .i64 k)).setCell ⟨g,1,none⟩ (.string s)).setCell ⟨g,2,none⟩ (.int .i64 n)).setCell ⟨g,3,none⟩ (.slice none 0 0)).setCell ⟨g,4,none⟩ (.int .i64 0)).setCell ⟨g,5,none⟩ (.int .i64 z)).setCell ⟨g,6,none⟩ (.int .i64 y)).setCell ⟨g,7,none⟩ (.int .i64 f)
theorem eY (g:Nat) (k n z y f:Int) (s:ByteArray) (w:World):
 (((((((w.setCell ⟨g,0,none⟩ (.int .i64 k)).setCell ⟨g,1,none⟩ (.string s)).setCell ⟨g,2,none⟩ (.int .i64 n)).setCell ⟨g,3,none⟩ (.slice none 0 0)).setCell ⟨g,4,none⟩ (.int .i64 0)).setCell ⟨g,5,none⟩ (.int .i64 z)).setCell ⟨g,6,none⟩ (.int .i64 y)).setCell ⟨g,7,none⟩ (.int .i64 f)=Qa g k n z y f s w:=rfl
theorem jW.set {g:Nat} {x:Tk} {w:World} (h:jW g x w) (k n z y f:Int) (s:ByteArray):(Qa g k n z y f s w).heap[g]?=some (.cells (Vw k n z y f s) 157 (0,0)):=by have:=fD 7 (.int .i64 f) (fD 6 (.int .i64 y) (fD 5 (.int .i64 z) (fD 4 (.int .i64 0) (fD 3 (.slice none 0 0) (fD 2 (.int .i64 n) (fD 1 (.string s) (fD 0 (.int .i64 k) h.blk)))))));rwa [show ((((((((Vu x).setIfInBounds 0 (.int .i64 k)).setIfInBounds 1 (.string s)).setIfInBounds 2 (.int .i64 n)).setIfInBounds 3 (.slice none 0 0)).setIfInBounds 4 (.int .i64 0)).setIfInBounds 5 (.int .i64 z)).setIfInBounds 6 (.int .i64 y)).setIfInBounds 7 (.int .i64 f)=Vw k n z y f s by simp[Vu,Vw]]at this
theorem fV (g:Nat) (k n z y f:Int) (s:ByteArray) (w:World):But [g] w (Qa g k n z y f s w):=
 (((((((But.setCell ⟨g,0,none⟩ _ (by simp)).then (But.setCell ⟨g,1,none⟩ _ (by simp))).then (But.setCell ⟨g,2,none⟩ _ (by simp))).then (But.setCell ⟨g,3,none⟩ _ (by simp))).then (But.setCell ⟨g,4,none⟩ _ (by simp))).then (But.setCell ⟨g,5,none⟩ _ (by simp))).then (But.setCell ⟨g,6,none⟩ _ (by simp))).then (But.setCell ⟨g,7,none⟩ _ (by simp))
theorem Ev.mZ {w w1 w2:World} {g:Nat} (h:Ev w w1) (k:But [g] w1 w2) (hg:w.heap.size≤g):Ev w w2:=
 ((But.aS (K:=[g]) h).then k).ev (by simpa using hg)
theorem je {w1:World} {g:Nat} {x:Tk} {fn:Func} {q:Tmp} (tmps:Array Value) (h:jW g x w1) (k n z y f:Int) (s:ByteArray) (hf:fn.results=#[.cell q 157])
  (hp:tmps.getD q undef=.pointer (some ⟨g,0,none⟩)):(results fn tmps).run Tryz.prog (Qa g k n z y f s w1)=.ok (.agg (Vw k n z y f s)) (Qa g k n z y f s w1):=
 results_cell_row hf tmps _ g 157 _ _ _ hp (h.set k n z y f s) Tryz.underlying157 rfl Tryz.Yz
theorem Qb (why:Int) (fault:Nat) (w:World):
  Calls Tryz.prog 150 #[.int .i64 why,.int .i64 (fault:Int)] w fun e w'=>e=.returned (Yd (aV why fault))∧Ev w w':=by
 go_enter Tryz.func150,Tryz.ntmps150;go_wp2;refine bodyPost_ret (adN rfl _ _ w.heap.size (aV why fault) rfl (heap_alloc_new w _)) rfl ?_;exact⟨rfl,Ev.alloc _ _⟩
theorem xG (l:By) (k:Nat) (x:UInt8) (n:Int) (h:l[k]?=some x):sxBelow (l.drop k) n=if n < -((9223372036854775808 - ((x.toNat:Int) - 48)) / 10) then none else sxBelow (l.drop (k+1)) (n*10 - ((x.toNat:Int) - 48)):=by obtain⟨hk,e⟩:=atr.1 h;rw[auu hk,e];rfl
theorem YA (s:ByteArray) (w:World) (hd:∀c∈s.data.toList,aW c=true) (hs:s.size≤100000):
  Calls Tryz.prog 179 #[.string s] w fun e w'=>e=.returned (.tuple #[.int .i64 ((sxBelow s.data.toList 0).getD 0),.bool (sxBelow s.data.toList 0).isSome])∧Ev w w':=by
 have hcv:=Lib.run_convert_string_bytes (P:=Tryz.prog) w 9 93 5 s Tryz.underlying9 Tryz.underlying93 Tryz.underlying5;obtain⟨R,hR⟩:∃R,R=sxBelow s.data.toList 0:=⟨_,rfl⟩
 rw[←hR];have HR:=zq hR;have HD:=zq hd;clear hR hd;go_enter Tryz.func179,Tryz.ntmps179;go_wp2;obtain⟨g,hg⟩:∃g,g=w.heap.size:=⟨_,rfl⟩
 obtain⟨cap,hcap⟩:∃cap,cap=grownCap w s.size 0 5:=⟨_,rfl⟩
 obtain⟨n,hn⟩:∃n,n=s.size:=⟨_,rfl⟩
 have hle:n≤cap:=by rw[hn,hcap];exact grownCap_ge _ _ _ _
 have hmx:cap≤maxLen:=by rw[hcap];exact grownCap_le_maxLen _ _ _ _ (by unfold maxLen;omega)
 have jd:s.data.toList.length=n:=by rw[hn,atU];rfl
 have hEc:Ev w (Lib.bytesWorld w 5 s):=Lib.bytesWorld_below w 5 s;have hcell:∀i,i<n→(Lib.bytesWorld w 5 s).cell? ⟨g,i,none⟩=some (.int .u8 ((s.data.toList.getD i 0).toNat:Int)):=fun i hi=>by rw[hg];exact Lib.bytesWorld_cell w 5 s i (by omega)
 rw[←hg,←hcap,←hn];generalize Lib.bytesWorld w 5 s=w2 at*;have HL:=zq jd;unfold maxLen at hmx;rw[←hn]at hs;clear hcv hg hcap jd hn
 go_loop [4,11] (fun v i=>∃(k:Nat) (m:Int),k≤n∧i=.int .i64 (k:Int)∧v=.int .i64 m∧-9223372036854775808≤m∧m≤0∧Hid (R=sxBelow (s.data.toList.drop k) m)) (fun _ i=>n - (intOf i).toNat)
 case atStart=>exact⟨0,0,atG _,rfl,rfl,by omega,by omega,HR⟩
 case round=>
  obtain⟨k,m,hk,rfl,rfl,hm1,hm2,HT⟩:=hrel;by_cases hlt:k<n
  ·have hc:=hcell k hlt;have hlk:s.data.toList[k]?=some (s.data.toList.getD k 0):=by
    have h2:k<s.data.toList.length:=by rw[HL.out];exact hlt
    simp[List.getD,atN h2]
   have hdig:=HD.out _ (atw hlk);have HS:=zq (xG s.data.toList k _ m hlk);obtain⟨x,hx⟩:∃x,s.data.toList.getD k 0=x:=⟨_,rfl⟩
   rw[hx]at hc hdig HS;clear hx hcell hlk;obtain⟨d,hd,hd9⟩:∃d:Nat,(x.toNat:Int)=48+(d:Int)∧d≤9:=by unfold aW at hdig;simp at hdig;exact⟨x.toNat - 48,by omega,by omega⟩
   have i0:(48:Int)+(d:Int) - 48=(d:Int):=by omega
   rw[hd]at hc HS;rw[i0]at HS;clear hdig hd;have i1:IntKind.u8.wrap ((48:Int)+(d:Int) - 48)=(d:Int):=by rw[i0];exact IntWalk.u8_in _ (by omega)
   have i2:wrap64 (-9223372036854775808+(d:Int))=-9223372036854775808+(d:Int):=by unfold wrap64;omega
   have i3:(-9223372036854775808+(d:Int)).tdiv 10=-((9223372036854775808 - (d:Int)) / 10):=by rw[show -9223372036854775808+(d:Int)=-(9223372036854775808 - (d:Int)) by omega,Int.neg_tdiv,Int.tdiv_eq_ediv_of_nonneg (by omega)]
   by_cases ht:m<(-9223372036854775808+(d:Int)).tdiv 10
   ·have HF:Hid (R=none):=zq (by rw[HT.out,HS.out,if_pos (by rw[←i3];exact ht)]);clear i3 HS HT;go_wp2
    go_ret2
    rw[HF.out];exact⟨rfl,hEc⟩
   have HF:Hid (R=sxBelow (s.data.toList.drop (k+1)) (m*10 - (d:Int))):=zq (by rw[HT.out,HS.out,if_neg (by rw[←i3];exact ht)]);have i4:wrap64 (m*10)=m*10:=by unfold wrap64;omega
   have i5:wrap64 (m*10 - (d:Int))=m*10 - (d:Int):=by unfold wrap64;omega
   have i6:-9223372036854775808≤m*10 - (d:Int):=by omega
   clear i3 HS HT;go_wp2
   go_round
   case rel=>exact⟨k+1,m*10 - (d:Int),by omega,by go_num,rfl,i6,by omega,HF⟩
   case measure=>simp[intOf];omega
  obtain rfl:k=n:=by omega
  have HZ:Hid (R=some m):=zq (by rw[HT.out,auh (by rw[HL.out];exact att _)];rfl);clear HT;go_wp2
  go_ret2
  rw[HZ.out];exact⟨rfl,hEc⟩
theorem qE:∀(l:By),(∀c∈l,aW c=true)→∀n m:Int,-9223372036854775808≤n→n≤0→sxBelow l n=some m→-9223372036854775808≤m∧m≤0
 | [],_,n,m,h1,h2,h=>by simp[sxBelow]at h;omega
 | c::l,hd,n,m,h1,h2,h=>by unfold sxBelow at h;have hc:=hd c (atz ..);unfold aW at hc;simp at hc;split at h;cases h;exact qE l (fun x hx=>hd x (aty _ hx)) _ m (by omega) (by omega) h
theorem eH (l:By):∀c∈dE l,aW c=true:=D9 aW l
theorem sD (l:By):(dE l).length=sxRun aW l:=by unfold dE;rw[aua];have:=jr aW l;omega
theorem avH {P:Prop} (h:P:=by
 go_enter Tryz.func147,Tryz.ntmps147
 go_wp2_with (first
  | ((with_reducible refine (HT.out _).mono ?_);rintro x w1 ⟨rfl,rfl⟩)
  | ((with_reducible refine (HR.out _).mono ?_);rintro x w2 ⟨rfl,rfl⟩)
  | ((with_reducible refine (HB.out _).mono ?_);rintro x w3 ⟨rfl,iE⟩;have B3:=B0.ev iE;have E3:=aT.trans iE;obtain⟨c0,c1,c2,c3,c4,c5,c6,c7⟩:=B3.cs;obtain⟨f0,f1,f2,f3,f4,f5,f6,f7⟩:=B3.fs)
  | ((with_reducible refine (HW.out _).mono ?_);rintro x w4 ⟨rfl,gI⟩;have B4:=B3.ev gI;have E4:=E3.trans gI;obtain⟨c0,c1,c2,c3,c4,c5,c6,c7⟩:=B4.cs;obtain⟨f0,f1,f2,f3,f4,f5,f6,f7⟩:=B4.fs))
 rw[eY];refine bodyPost_ret (je _ B3 _ _ _ _ _ _ rfl rfl) rfl ?_;exact⟨rfl,E3.mZ (fV _ _ _ _ _ _ _ _) (att _)⟩):P:=h
theorem avG {P:Prop} (h:P:=by
 clear HG;go_enter Tryz.func147,Tryz.ntmps147
 go_wp2_with (first
  | ((with_reducible refine (HT.out _).mono ?_);rintro x w1 ⟨rfl,rfl⟩)
  | ((with_reducible refine (HR.out _).mono ?_);rintro x w2 ⟨rfl,rfl⟩)
  | ((with_reducible refine (HB.out _).mono ?_);rintro x w3 ⟨rfl,iE⟩;have B3:=B0.ev iE;have E3:=aT.trans iE;obtain⟨c0,c1,c2,c3,c4,c5,c6,c7⟩:=B3.cs;obtain⟨f0,f1,f2,f3,f4,f5,f6,f7⟩:=B3.fs)
  | ((with_reducible refine (HW.out _).mono ?_);rintro x w4 ⟨rfl,gI⟩;have B4:=B3.ev gI;have E4:=E3.trans gI;obtain⟨c0,c1,c2,c3,c4,c5,c6,c7⟩:=B4.cs;obtain⟨f0,f1,f2,f3,f4,f5,f6,f7⟩:=B4.fs))
 rw[eY];refine bodyPost_ret (je _ B4 _ _ _ _ _ _ rfl rfl) rfl ?_;exact⟨rfl,E4.mZ (fV _ _ _ _ _ _ _ _) (att _)⟩):P:=h
theorem AY (s:ByteArray) (w:World) (tl:By) (plus:Bool) (hs:s.size≤100000) (htl:Lib.trimPrefix s.data.toList [45]=tl) (hp:((tl.length:Int)==(s.size:Int))=plus) (hle:tl.length≤s.size):
  Calls Tryz.prog 147 #[.string s] w fun e w'=>e=.returned (Yd (sxNum plus (dE tl)))∧Ev w w':=by
 have HT:=zq (fun w1=>Tryz.strings_TrimPrefix s ⟨#[45]⟩ w1);have e45:(⟨#[45]⟩:ByteArray).data.toList=[45]:=rfl;rw[e45,htl]at HT;obtain⟨t,ht⟩:∃t:ByteArray,t=⟨tl.toArray⟩:=⟨_,rfl⟩
 have htd:t.data.toList=tl:=by rw[ht]
 have htz:t.size=tl.length:=by rw[ht];rfl
 have HR:=zq (fun w1=>H8 t w1 (by omega));rw[htd]at HR;rw[←ht]at HT;have Ye:=sD tl;have hrl:=jr aW tl;obtain⟨r,hr⟩:∃r,r=sxRun aW tl:=⟨_,rfl⟩
 obtain⟨dd,hdd⟩:∃dd:ByteArray,dd=t.extract 0 r:=⟨_,rfl⟩
 have hx:t.extract 0 r=dd:=hdd.symm;have YB:dd.data.toList=dE tl:=by rw[hdd,Lib.extract_eq,htd,hr];simp[dE]
 have aoI:dd.size=r:=by
  have:dd.data.toList.length=dd.size:=by rw[atU];rfl
  rw[←this,YB,Ye,hr]
 have HB:=zq (fun w1=>YA dd w1 (by rw[YB];exact eH tl) (by omega));rw[YB]at HB;rw[←hr]at HR hrl;rw[←htz]at hrl hle hp;generalize hD:dE tl=D at*;have hDl:D.length=r:=by rw[Ye,hr]
 obtain⟨w0,hw0⟩:∃w0,w0=w.alloc (.cells (Vu (aV 0 0)) 157):=⟨_,rfl⟩
 have B0:jW w.heap.size (aV 0 0) w0:=hw0▸jW.new (aV 0 0) w;have aT:Ev w w0:=hw0▸Ev.alloc w _;have Wp:w.alloc (.cells #[.int .i64 0,.string ⟨#[]⟩,.int .i64 0,.slice none 0 0,.int .i64 0,.int .i64 0,.int .i64 0,.int .i64 0] 157)=w0:=hw0.symm;have HW:=fun w1=>Qb 12 0 w1;simp only[Yd,Vu,aV,show (((0:Nat):Int))=0 from rfl]at HW;have HW:=zq HW;have hem:D.isEmpty=dd.toList.isEmpty:=by rw[Lib.toList_data,YB]
 have hD0:D.isEmpty=true→sxBelow D 0=some 0:=fun h=>by rw[au4.1 h];rfl
 have hRg:∀m,sxBelow D 0=some m→-9223372036854775808≤m∧m≤0:=fun m h=>qE D (by rw[←hD];exact eH tl) 0 m (by omega) (by omega) h;have HG:Hid (sxNum plus D=match sxBelow D 0 with
  | none=>aV 12 0
  | some n=>if D.isEmpty||plus&&decide (n=-9223372036854775808) then aV 12 0 else if plus then ⟨3,[],-n,D.length,0,0⟩ else ⟨3,[],n,1+D.length,0,0⟩):=zq rfl
 rw[hDl]at HG;generalize sxNum plus D=Y at*;generalize sxBelow D 0=bl at*;rw[hem]at HG hD0;obtain⟨em,hq⟩:∃em,dd.toList.isEmpty=em:=⟨_,rfl⟩
 rw[hq]at HG hD0;clear Ye hD ht htd hr hdd YB hDl htl hem hw0 e45
 cases bl with
 | none=>
  have hem:em=false:=by
   cases em
   rfl;have:=hD0 rfl;cases this
  subst hem;simp only[Option.getD_none,Option.isSome_none]at HB;obtain rfl:Y=aV 12 0:=HG.out;clear hD0 hRg HG;go_enter Tryz.func147,Tryz.ntmps147
  go_wp2_with (first
   | ((with_reducible refine (HT.out _).mono ?_);rintro x w1 ⟨rfl,rfl⟩)
   | ((with_reducible refine (HR.out _).mono ?_);rintro x w2 ⟨rfl,rfl⟩)
   | ((with_reducible refine (HB.out _).mono ?_);rintro x w3 ⟨rfl,iE⟩;have B3:=B0.ev iE;have E3:=aT.trans iE;obtain⟨c0,c1,c2,c3,c4,c5,c6,c7⟩:=B3.cs;obtain⟨f0,f1,f2,f3,f4,f5,f6,f7⟩:=B3.fs)
   | ((with_reducible refine (HW.out _).mono ?_);rintro x w4 ⟨rfl,gI⟩;have B4:=B3.ev gI;have E4:=E3.trans gI;obtain⟨c0,c1,c2,c3,c4,c5,c6,c7⟩:=B4.cs;obtain⟨f0,f1,f2,f3,f4,f5,f6,f7⟩:=B4.fs))
  rw[eY];refine bodyPost_ret (je _ B4 _ _ _ _ _ _ rfl rfl) rfl ?_;exact⟨rfl,E4.mZ (fV _ _ _ _ _ _ _ _) (att _)⟩
 | some m=>
  obtain⟨hm1,hm2⟩:=hRg m rfl;simp only[Option.getD_some,Option.isSome_some]at HB;clear hRg hD0
  cases em
  cases plus
  obtain rfl:Y=⟨3,[],m,1+r,0,0⟩:=HG.out;clear HG;have i1:wrap64 (1+(r:Int))=((1+r:Nat):Int):=by unfold wrap64;omega
  have hp':¬((tl.length:Int)=(s.size:Int)):=by rw[htz]at hp;simpa using hp
  exact avH;have hp':((tl.length:Int)=(s.size:Int)):=by rw[htz]at hp;simpa using hp
  by_cases hmin:m=-9223372036854775808;obtain rfl:Y=aV 12 0:=by rw[HG.out];simp[hmin]
  subst hmin;exact avG;obtain rfl:Y=⟨3,[],-m,r,0,0⟩:=by rw[HG.out];simp[hmin]
  clear HG;have i1:wrap64 (-m)=-m:=by unfold wrap64;omega
  exact avH;obtain rfl:Y=aV 12 0:=HG.out;exact avG
end Go.Proofs.YtpbfokkocaemlaaGreatDoor
