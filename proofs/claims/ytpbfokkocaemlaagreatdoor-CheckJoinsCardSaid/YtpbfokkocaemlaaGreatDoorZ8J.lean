import Derived.Test.YtpbfokkocaemlaaGreatDoorShelf
import Derived.Lib.AtoiErrMem
import Derived.Test.YtpbfokkocaemlaaGreatDoorZ5J
set_option linter.unusedVariables false
set_option maxRecDepth 100000
set_option maxHeartbeats 64000000
namespace Go.Proofs.YtpbfokkocaemlaaGreatDoor
open Go.RowKit
open Go.Lib renaming hid → zq
open Go renaming World → ak
open Go renaming Value → au
open Go.Proofs.Tryz renaming prog → ax
variable {U:Prop}
open Go.Proofs.Tryz
def Xh(x:Tk):Array au:=#[↑x.kind,↑x.s,↑x.n,↑(),.int .i64 0,↑x.size,↑x.why,↑x.fault]
def ZH(x:Tk):au:=.agg (Xh x)
theorem Tryz.Z7:(Tryz.prog.info? 157).map (·.size)=some 8:=ah
theorem afz{fn:Func}{q:Tmp}(h:fn.results=#[.cell q 157])(tmps:Array au)(w:ak)(g:Nat)(x:Tk)
  (hp:tmps.getD q undef=.pointer ↑g) (hg:w.heap[g]?=some (.cells (Xh x) 157 (0,0))):
  (results fn tmps).run ax w=.ok (ZH x) w:=
 results_cell_row h tmps w g 157 _ _ _ hp hg underlying157 rfl Tryz.Z7
structure kR(g:Nat)(x:Tk)(w:ak):Prop where
 blk:w.heap[g]?=some (.cells (Xh x) 157 (0,0))
theorem kR.cs{g:Nat}{x:Tk}{w:ak}(h:kR g x w):w.cell? ⟨g,0,none⟩=some ↑x.kind/\w.cell? ⟨g,1,none⟩=some ↑x.s/\w.cell? ⟨g,2,none⟩=some ↑x.n/\w.cell? ⟨g,3,none⟩=some ↑()/\
  w.cell? ⟨g,4,none⟩=some (.int .i64 0)/\w.cell? ⟨g,5,none⟩=some ↑x.size/\w.cell? ⟨g,6,none⟩=some ↑x.why/\w.cell? ⟨g,7,none⟩=some ↑x.fault:=by
 refine⟨?_,?_,?_,?_,?_,?_,?_,?_⟩<;>(rw[Lib.cell_of_heap h.blk];rfl)
theorem kR.f{g:Nat}{x:Tk}{w:ak}(h:kR g x w)(i:Nat):w.frozen? ⟨g,i,none⟩=false:=Lib.frozen_of_heap h.blk i
theorem kR.fs{g:Nat}{x:Tk}{w:ak}(h:kR g x w):w.frozen? ⟨g,0,none⟩=false/\w.frozen? ⟨g,1,none⟩=false/\w.frozen? ⟨g,2,none⟩=false/\w.frozen? ⟨g,3,none⟩=false/\w.frozen? ⟨g,4,none⟩=false/\w.frozen? ⟨g,5,none⟩=false/\w.frozen? ⟨g,6,none⟩=false/\w.frozen? ⟨g,7,none⟩=false:=
 ⟨h.f 0,h.f 1,h.f 2,h.f 3,h.f 4,h.f 5,h.f 6,h.f 7⟩
theorem kR.lt{g:Nat}{x:Tk}{w:ak}(h:kR g x w):g<w.heap.size:=(awu.1 h.blk).1
theorem kR.but{K:List Nat}{g:Nat}{x:Tk}{w w':ak}(h:kR g x w)(hb:But K w w')(hn:g∉K):kR g x w':=⟨hb.heap h.blk hn⟩
theorem kR.ev{g:Nat}{x:Tk}{w w':ak}(h:kR g x w)(hE:Ev w w'):kR g x w':=h.but (But.aV (K:=[]) hE) aj
theorem kR.new(x:Tk)(w:ak):kR w.heap.size x (w.alloc (.cells (Xh x) 157)):=⟨heap_alloc_new w _⟩
def Xi(k n z y f:Int)(s:ByteArray):Array au:=#[↑k,.string s,↑n,↑(),.int .i64 0,↑z,↑y,↑f]
def Rq(g:Nat)(k n z y f:Int)(s:ByteArray)(w:ak):ak:=
 (((((((w.setCell ⟨g,0,none⟩ ↑k).setCell ⟨g,1,none⟩ (.string s)).setCell ⟨g,2,none⟩ ↑n).setCell ⟨g,3,none⟩ ↑()).setCell ⟨g,4,none⟩ (.int .i64 0)).setCell ⟨g,5,none⟩ ↑z).setCell ⟨g,6,none⟩ ↑y).setCell ⟨g,7,none⟩ ↑f
theorem fG(g:Nat)(k n z y f:Int)(s:ByteArray)(w:ak):
 (((((((w.setCell ⟨g,0,none⟩ ↑k).setCell ⟨g,1,none⟩ (.string s)).setCell ⟨g,2,none⟩ ↑n).setCell ⟨g,3,none⟩ ↑()).setCell ⟨g,4,none⟩ (.int .i64 0)).setCell ⟨g,5,none⟩ ↑z).setCell ⟨g,6,none⟩ ↑y).setCell ⟨g,7,none⟩ ↑f=Rq g k n z y f s w:=rfl
theorem kR.set{g:Nat}{x:Tk}{w:ak}(h:kR g x w)(k n z y f:Int)(s:ByteArray):(Rq g k n z y f s w).heap[g]?=some (.cells (Xi k n z y f s) 157 (0,0)):=by have:=fQ 7 ↑f (fQ 6 ↑y (fQ 5 ↑z (fQ 4 (.int .i64 0) (fQ 3 ↑() (fQ 2 ↑n (fQ 1 (.string s) (fQ 0 ↑k h.blk)))))));rwa [show ((((((((Xh x).setIfInBounds 0 ↑k).setIfInBounds 1 (.string s)).setIfInBounds 2 ↑n).setIfInBounds 3 ↑()).setIfInBounds 4 (.int .i64 0)).setIfInBounds 5 ↑z).setIfInBounds 6 ↑y).setIfInBounds 7 ↑f=Xi k n z y f s by simp[Xh,Xi]]at this
theorem gJ(g:Nat)(k n z y f:Int)(s:ByteArray)(w:ak):But [g] w (Rq g k n z y f s w):=
 (((((((But.setCell ⟨g,0,none⟩ _ aj).then (But.setCell ⟨g,1,none⟩ _ aj)).then (But.setCell ⟨g,2,none⟩ _ aj)).then (But.setCell ⟨g,3,none⟩ _ aj)).then (But.setCell ⟨g,4,none⟩ _ aj)).then (But.setCell ⟨g,5,none⟩ _ aj)).then (But.setCell ⟨g,6,none⟩ _ aj)).then (But.setCell ⟨g,7,none⟩ _ aj)
theorem Ev.nX{w w1 w2:ak}{g:Nat}(h:Ev w w1)(k:But [g] w1 w2)(hg:w.heap.size<=g):Ev w w2:=
 ((But.aV (K:=[g]) h).then k).ev (by simpa using hg)
theorem jH{w1:ak}{g:Nat}{x:Tk}{fn:Func}{q:Tmp}(tmps:Array au)(h:kR g x w1)(k n z y f:Int)(s:ByteArray)(hf:fn.results=#[.cell q 157])
  (hp:tmps.getD q undef=.pointer ↑g):(results fn tmps).run ax (Rq g k n z y f s w1)=.ok (.agg (Xi k n z y f s)) (Rq g k n z y f s w1):=
 results_cell_row hf tmps _ g 157 _ _ _ hp (h.set k n z y f s) underlying157 rfl Tryz.Z7
theorem Ru(why:Int)(fault:Nat)(w:ak):
  Calls ax 150 #[↑why,↑fault] w λe w'=>e=.returned (ZH (aX why fault))/\Ev w w':=by
 go_enter func150,ntmps150;go_wp2;refine bodyPost_ret (afz rfl _ _ w.heap.size (aX why fault) rfl (heap_alloc_new w _)) rfl ?_;exact⟨rfl,Ev.alloc _ _⟩
theorem yC(l:By)(k:Nat)(x:UInt8)(n:Int)(h:l[k]?=some x):sxBelow (l.drop k) n=if n < -((9223372036854775808 - ((x.toNat:Int) - 48)) / 10) then none else sxBelow (l.drop (k+1)) (n*10 - ((x.toNat:Int) - 48)):=by obtain⟨hk,e⟩:=awi.1 h;rw[axc hk,e];rfl
theorem Z8(s:ByteArray)(w:ak)(hd:∀c∈s.data.toList,aY c=true)(hs:s.size<=100000):
  Calls ax 179 #[.string s] w λe w'=>e=.returned (.tuple #[.int .i64 ((sxBelow s.data.toList 0).getD 0),.bool (sxBelow s.data.toList 0).isSome])/\Ev w w':=by
 have hcv:=Lib.run_convert_string_bytes (P:=ax) w 9 93 5 s underlying9 underlying93 underlying5;obtain⟨R,hR⟩:∃R,R=sxBelow s.data.toList 0:=⟨_,rfl⟩
 rw[<-hR];have HR:=zq hR;have HD:=zq hd;clear hR hd;go_enter func179,ntmps179;go_wp2;obtain⟨g,hg⟩:∃g,g=w.heap.size:=⟨_,rfl⟩
 obtain⟨cap,hcap⟩:∃cap,cap=grownCap w s.size 0 5:=⟨_,rfl⟩
 obtain⟨n,hn⟩:∃n,n=s.size:=⟨_,rfl⟩
 have hle:n<=cap:=by rw[hn,hcap];exact grownCap_ge _ _ _ _
 have hmx:cap<=maxLen:=by rw[hcap];exact grownCap_le_maxLen _ _ _ _ (by unfold maxLen;omega)
 have jG:s.data.toList.length=n:=by rw[hn,awK];rfl
 have hEc:Ev w (Lib.bytesWorld w 5 s):=Lib.bytesWorld_below w 5 s;have hcell:∀i,i<n->(Lib.bytesWorld w 5 s).cell? ⟨g,i,none⟩=some (.int .u8 ((s.data.toList.getD i 0).toNat:Int)):=λi hi=>by rw[hg];exact Lib.bytesWorld_cell w 5 s i ae
 rw[<-hg,<-hcap,<-hn];generalize Lib.bytesWorld w 5 s=w2 at*;have HL:=zq jG;unfold maxLen at hmx;rw[<-hn]at hs;clear hcv hg hcap jG hn
 go_loop [4,11] (λv i=>∃(k:Nat) (m:Int),k<=n/\i=↑k/\v=↑m/\-9223372036854775808<=m/\m<=0/\Hid (R=sxBelow (s.data.toList.drop k) m)) (λ_ i=>n - (intOf i).toNat)
 case atStart=>exact⟨0,0,aww _,rfl,rfl,ae,ae,HR⟩
 case round=>
  obtain⟨k,m,hk,rfl,rfl,hm1,hm2,HT⟩:=hrel;by_cases hlt:k<n
  ·have hc:=hcell k hlt;have hlk:s.data.toList[k]?=some (s.data.toList.getD k 0):=by
    have h2:k<s.data.toList.length:=by rw[HL.out];exact hlt
    simp[List.getD,awE h2]
   have hdig:=HD.out _ (awm hlk);have HS:=zq (yC s.data.toList k _ m hlk);obtain⟨x,hx⟩:∃x,s.data.toList.getD k 0=x:=⟨_,rfl⟩
   rw[hx]at hc hdig HS;clear hx hcell hlk;obtain⟨d,hd,hd9⟩:∃d:Nat,(x.toNat:Int)=48+(d:Int)/\d<=9:=by unfold aY at hdig;simp at hdig;exact⟨x.toNat - 48,ae,ae⟩
   have i0:(48:Int)+(d:Int) - 48=(d:Int):=ae;rw[hd]at hc HS;rw[i0]at HS;clear hdig hd;have i1:IntKind.u8.wrap ((48:Int)+(d:Int) - 48)=(d:Int):=by rw[i0];exact IntWalk.u8_in _ ae
   have i2:wrap64 (-9223372036854775808+(d:Int))=-9223372036854775808+(d:Int):=by unfold wrap64;omega
   have i3:(-9223372036854775808+(d:Int)).tdiv 10=-((9223372036854775808 - (d:Int)) / 10):=by rw[show -9223372036854775808+(d:Int)=-(9223372036854775808 - (d:Int)) by omega,Int.neg_tdiv,Int.tdiv_eq_ediv_of_nonneg ae]
   by_cases ht:m<(-9223372036854775808+(d:Int)).tdiv 10
   ·have HF:Hid (R=none):=zq (by rw[HT.out,HS.out,if_pos (by rw[<-i3];exact ht)]);clear i3 HS HT;go_wp2
    go_ret2
    rw[HF.out];exact⟨rfl,hEc⟩
   have HF:Hid (R=sxBelow (s.data.toList.drop (k+1)) (m*10 - (d:Int))):=zq (by rw[HT.out,HS.out,if_neg (by rw[<-i3];exact ht)]);have i4:wrap64 (m*10)=m*10:=by unfold wrap64;omega
   have i5:wrap64 (m*10 - (d:Int))=m*10 - (d:Int):=by unfold wrap64;omega
   have i6:-9223372036854775808<=m*10 - (d:Int):=ae;clear i3 HS HT;go_wp2
   go_round
   case rel=>exact⟨k+1,m*10 - (d:Int),ae,by go_num,rfl,i6,ae,HF⟩
   case measure=>simp[intOf];omega
  obtain rfl:k=n:=ae;have HZ:Hid (R=some m):=zq (by rw[HT.out,aw2 (by rw[HL.out];exact awj _)];rfl);clear HT;go_wp2
  go_ret2
  rw[HZ.out];exact⟨rfl,hEc⟩
theorem rG:∀(l:By),(∀c∈l,aY c=true)->∀n m:Int,-9223372036854775808<=n->n<=0->sxBelow l n=some m->-9223372036854775808<=m/\m<=0
 | [],_,n,m,h1,h2,h=>by simp[sxBelow]at h;omega
 | c::l,hd,n,m,h1,h2,h=>by unfold sxBelow at h;have hc:=hd c (awp ..);unfold aY at hc;simp at hc;split at h;cases h;exact rG l (λx hx=>hd x (awn _ hx)) _ m ae ae h
theorem fC(l:By):∀c∈dJ l,aY c=true:=Ff aY l
theorem uj(l:By):(dJ l).length=sxRun aY l:=by unfold dJ;rw[awT];have:=jQ aY l;omega
theorem ayn(h:U:=by
 go_enter func147,ntmps147
 go_wp2_with (first
  | ((with_reducible refine(HT.out _).mono ?_);rintro x w1 ⟨rfl,rfl⟩)
  | ((with_reducible refine(HR.out _).mono ?_);rintro x w2 ⟨rfl,rfl⟩)
  | ((with_reducible refine(HB.out _).mono ?_);rintro x w3 ⟨rfl,iI⟩;have B3:=B0.ev iI;have E3:=aW.trans iI;obtain⟨c0,c1,c2,c3,c4,c5,c6,c7⟩:=B3.cs;obtain⟨f0,f1,f2,f3,f4,f5,f6,f7⟩:=B3.fs)
  | ((with_reducible refine(HW.out _).mono ?_);rintro x w4 ⟨rfl,iw⟩;have B4:=B3.ev iw;have E4:=E3.trans iw;obtain⟨c0,c1,c2,c3,c4,c5,c6,c7⟩:=B4.cs;obtain⟨f0,f1,f2,f3,f4,f5,f6,f7⟩:=B4.fs))
 rw[fG];refine bodyPost_ret (jH _ B3 _ _ _ _ _ _ rfl rfl) rfl ?_;exact⟨rfl,E3.nX (gJ _ _ _ _ _ _ _ _) (awj _)⟩):U:=h
theorem aym(h:U:=by
 clear HG;go_enter func147,ntmps147
 go_wp2_with (first
  | ((with_reducible refine(HT.out _).mono ?_);rintro x w1 ⟨rfl,rfl⟩)
  | ((with_reducible refine(HR.out _).mono ?_);rintro x w2 ⟨rfl,rfl⟩)
  | ((with_reducible refine(HB.out _).mono ?_);rintro x w3 ⟨rfl,iI⟩;have B3:=B0.ev iI;have E3:=aW.trans iI;obtain⟨c0,c1,c2,c3,c4,c5,c6,c7⟩:=B3.cs;obtain⟨f0,f1,f2,f3,f4,f5,f6,f7⟩:=B3.fs)
  | ((with_reducible refine(HW.out _).mono ?_);rintro x w4 ⟨rfl,iw⟩;have B4:=B3.ev iw;have E4:=E3.trans iw;obtain⟨c0,c1,c2,c3,c4,c5,c6,c7⟩:=B4.cs;obtain⟨f0,f1,f2,f3,f4,f5,f6,f7⟩:=B4.fs))
 rw[fG];refine bodyPost_ret (jH _ B4 _ _ _ _ _ _ rfl rfl) rfl ?_;exact⟨rfl,E4.nX (gJ _ _ _ _ _ _ _ _) (awj _)⟩):U:=h
theorem Cj(s:ByteArray)(w:ak)(tl:By)(plus:Bool)(hs:s.size<=100000)(htl:Lib.trimPrefix s.data.toList [45]=tl)(hp:((tl.length:Int)==(s.size:Int))=plus)(hle:tl.length<=s.size):
  Calls ax 147 #[.string s] w λe w'=>e=.returned (ZH (sxNum plus (dJ tl)))/\Ev w w':=by
 have HT:=zq (λw1=>Tryz.strings_TrimPrefix s ⟨#[45]⟩ w1);have e45:(⟨#[45]⟩:ByteArray).data.toList=[45]:=rfl;rw[e45,htl]at HT;obtain⟨t,ht⟩:∃t:ByteArray,t=⟨tl.toArray⟩:=⟨_,rfl⟩
 have htd:t.data.toList=tl:=by rw[ht]
 have htz:t.size=tl.length:=by rw[ht];rfl
 have HR:=zq (λw1=>Jn t w1 ae);rw[htd]at HR;rw[<-ht]at HT;have ZI:=uj tl;have hrl:=jQ aY tl;obtain⟨r,hr⟩:∃r,r=sxRun aY tl:=⟨_,rfl⟩
 obtain⟨dd,hdd⟩:∃dd:ByteArray,dd=t.extract 0 r:=⟨_,rfl⟩
 have hx:t.extract 0 r=dd:=hdd.symm;have Z9:dd.data.toList=dJ tl:=by rw[hdd,Lib.extract_eq,htd,hr];simp[dJ]
 have arb:dd.size=r:=by
  have:dd.data.toList.length=dd.size:=by rw[awK];rfl
  rw[<-this,Z9,ZI,hr]
 have HB:=zq (λw1=>Z8 dd w1 (by rw[Z9];exact fC tl) ae);rw[Z9]at HB;rw[<-hr]at HR hrl;rw[<-htz]at hrl hle hp;generalize hD:dJ tl=D at*;have hDl:D.length=r:=by rw[ZI,hr]
 obtain⟨w0,hw0⟩:∃w0,w0=w.alloc (.cells (Xh (aX 0 0)) 157):=⟨_,rfl⟩
 have B0:kR w.heap.size (aX 0 0) w0:=hw0▸kR.new (aX 0 0) w;have aW:Ev w w0:=hw0▸Ev.alloc w _;have Yb:w.alloc (.cells #[.int .i64 0,.string ⟨#[]⟩,.int .i64 0,↑(),.int .i64 0,.int .i64 0,.int .i64 0,.int .i64 0] 157)=w0:=hw0.symm;have HW:=λw1=>Ru 12 0 w1;simp only[ZH,Xh,aX,show (((0:Nat):Int))=0 from rfl]at HW;have HW:=zq HW;have hem:D.isEmpty=dd.toList.isEmpty:=by rw[Lib.toList_data,Z9]
 have hD0:D.isEmpty=true->sxBelow D 0=some 0:=λh=>by rw[axL.1 h];rfl
 have hRg:∀m,sxBelow D 0=some m->-9223372036854775808<=m/\m<=0:=λm h=>rG D (by rw[<-hD];exact fC tl) 0 m ae ae h;have HG:Hid (sxNum plus D=match sxBelow D 0 with
  | none=>aX 12 0
  | some n=>if D.isEmpty||plus&&decide (n=-9223372036854775808) then aX 12 0 else if plus then ⟨3,[],-n,D.length,0,0⟩ else ⟨3,[],n,1+D.length,0,0⟩):=zq rfl
 rw[hDl]at HG;generalize sxNum plus D=Y at*;generalize sxBelow D 0=bl at*;rw[hem]at HG hD0;obtain⟨em,hq⟩:∃em,dd.toList.isEmpty=em:=⟨_,rfl⟩
 rw[hq]at HG hD0;clear ZI hD ht htd hr hdd Z9 hDl htl hem hw0 e45
 cases bl with
 | none=>
  have hem:em=false:=by
   cases em
   rfl;have:=hD0 rfl;cases this
  subst hem;simp only[Option.getD_none,Option.isSome_none]at HB;obtain rfl:Y=aX 12 0:=HG.out;clear hD0 hRg HG;go_enter func147,ntmps147
  go_wp2_with (first
   | ((with_reducible refine(HT.out _).mono ?_);rintro x w1 ⟨rfl,rfl⟩)
   | ((with_reducible refine(HR.out _).mono ?_);rintro x w2 ⟨rfl,rfl⟩)
   | ((with_reducible refine(HB.out _).mono ?_);rintro x w3 ⟨rfl,iI⟩;have B3:=B0.ev iI;have E3:=aW.trans iI;obtain⟨c0,c1,c2,c3,c4,c5,c6,c7⟩:=B3.cs;obtain⟨f0,f1,f2,f3,f4,f5,f6,f7⟩:=B3.fs)
   | ((with_reducible refine(HW.out _).mono ?_);rintro x w4 ⟨rfl,iw⟩;have B4:=B3.ev iw;have E4:=E3.trans iw;obtain⟨c0,c1,c2,c3,c4,c5,c6,c7⟩:=B4.cs;obtain⟨f0,f1,f2,f3,f4,f5,f6,f7⟩:=B4.fs))
  rw[fG];refine bodyPost_ret (jH _ B4 _ _ _ _ _ _ rfl rfl) rfl ?_;exact⟨rfl,E4.nX (gJ _ _ _ _ _ _ _ _) (awj _)⟩
 | some m=>
  obtain⟨hm1,hm2⟩:=hRg m rfl;simp only[Option.getD_some,Option.isSome_some]at HB;clear hRg hD0
  cases em
  cases plus
  obtain rfl:Y=⟨3,[],m,1+r,0,0⟩:=HG.out;clear HG;have i1:wrap64 (1+(r:Int))=((1+r:Nat):Int):=by unfold wrap64;omega
  have hp':¬((tl.length:Int)=(s.size:Int)):=by rw[htz]at hp;simpa using hp
  exact ayn;have hp':((tl.length:Int)=(s.size:Int)):=by rw[htz]at hp;simpa using hp
  by_cases hmin:m=-9223372036854775808;obtain rfl:Y=aX 12 0:=by rw[HG.out];simp[hmin]
  subst hmin;exact aym;obtain rfl:Y=⟨3,[],-m,r,0,0⟩:=by rw[HG.out];simp[hmin]
  clear HG;have i1:wrap64 (-m)=-m:=by unfold wrap64;omega
  exact ayn;obtain rfl:Y=aX 12 0:=HG.out;exact aym
end Go.Proofs.YtpbfokkocaemlaaGreatDoor
