import Derived.Test.YtbgmhhfjkkfhpaaGreatDoorShelf
import Derived.Lib.AtoiErrMem
import Derived.Test.YtbgmhhfjkkfhpaaGreatDoorZ8G
set_option linter.unusedVariables false
set_option maxRecDepth 100000
set_option maxHeartbeats 64000000
namespace Go.Proofs.YtbgmhhfjkkfhpaaGreatDoor
open Go.RowKit
open Go.Lib renaming hid → zq
open Go renaming World → ak
open Go renaming Value → au
open Go.Proofs.Tryz renaming prog → ax
variable {U:Prop}
open Go.Proofs.Tryz
abbrev aFg:=@Go.Lib.frozen_of_heap
def Zw(x:Tk):Array au:=#[↑x.kind,↑x.s,↑x.n,↑(),.int .i64 0,↑x.size,↑x.why,↑x.fault]
def tkv(x:Tk):au:=.agg (Zw x)
theorem Tryz.adB:(Tryz.prog.info? 255).map (·.size)=some 8:=ah
theorem akD{fn:Func}{q:Tmp}(h:fn.results=#[.cell q 255])(tmps:Array au)(w:ak)(g:Nat)(x:Tk)
  (hp:tmps.getD q undef=.pointer ↑g) (hg:w.heap[g]?=some (.cells (Zw x) 255 (0,0))):
  (results fn tmps).run ax w=.ok (tkv x) w:=
 results_cell_row h tmps w g 255 _ _ _ hp hg underlying255 rfl Tryz.adB
structure jZ(g:Nat)(x:Tk)(w:ak):Prop where
 blk:w.heap[g]?=some (.cells (Zw x) 255 (0,0))
theorem jZ.cs{g:Nat}{x:Tk}{w:ak}(h:jZ g x w):w.cell? ⟨g,0,none⟩=some ↑x.kind/\w.cell? ⟨g,1,none⟩=some ↑x.s/\w.cell? ⟨g,2,none⟩=some ↑x.n/\w.cell? ⟨g,3,none⟩=some ↑()/\
  w.cell? ⟨g,4,none⟩=some (.int .i64 0)/\w.cell? ⟨g,5,none⟩=some ↑x.size/\w.cell? ⟨g,6,none⟩=some ↑x.why/\w.cell? ⟨g,7,none⟩=some ↑x.fault:=by
 refine⟨?_,?_,?_,?_,?_,?_,?_,?_⟩<;>(rw[aFf h.blk];rfl)
theorem jZ.f{g:Nat}{x:Tk}{w:ak}(h:jZ g x w)(i:Nat):w.frozen? ⟨g,i,none⟩=false:=aFg h.blk i
theorem jZ.fs{g:Nat}{x:Tk}{w:ak}(h:jZ g x w):w.frozen? ⟨g,0,none⟩=false/\w.frozen? ⟨g,1,none⟩=false/\w.frozen? ⟨g,2,none⟩=false/\w.frozen? ⟨g,3,none⟩=false/\w.frozen? ⟨g,4,none⟩=false/\w.frozen? ⟨g,5,none⟩=false/\w.frozen? ⟨g,6,none⟩=false/\w.frozen? ⟨g,7,none⟩=false:=
 ⟨h.f 0,h.f 1,h.f 2,h.f 3,h.f 4,h.f 5,h.f 6,h.f 7⟩
theorem jZ.lt{g:Nat}{x:Tk}{w:ak}(h:jZ g x w):g<w.heap.size:=(aDa.1 h.blk).1
theorem jZ.but{K:List Nat}{g:Nat}{x:Tk}{w w':ak}(h:jZ g x w)(hb:But K w w')(hn:g∉K):jZ g x w':=⟨hb.heap h.blk hn⟩
theorem jZ.ev{g:Nat}{x:Tk}{w w':ak}(h:jZ g x w)(hE:Ev w w'):jZ g x w':=h.but (But.aU (K:=[]) hE) aj
theorem jZ.new(x:Tk)(w:ak):jZ w.heap.size x (w.alloc (.cells (Zw x) 255)):=⟨aFd w _⟩
def Zx(k n z y f:Int)(s:ByteArray):Array au:=#[↑k,.string s,↑n,↑(),.int .i64 0,↑z,↑y,↑f]
def Ur(g:Nat)(k n z y f:Int)(s:ByteArray)(w:ak):ak:=
 (((((((w.setCell ⟨g,0,none⟩ ↑k).setCell ⟨g,1,none⟩ (.string s)).setCell ⟨g,2,none⟩ ↑n).setCell ⟨g,3,none⟩ ↑()).setCell ⟨g,4,none⟩ (.int .i64 0)).setCell ⟨g,5,none⟩ ↑z).setCell ⟨g,6,none⟩ ↑y).setCell ⟨g,7,none⟩ ↑f
theorem eX(g:Nat)(k n z y f:Int)(s:ByteArray)(w:ak):
 (((((((w.setCell ⟨g,0,none⟩ ↑k).setCell ⟨g,1,none⟩ (.string s)).setCell ⟨g,2,none⟩ ↑n).setCell ⟨g,3,none⟩ ↑()).setCell ⟨g,4,none⟩ (.int .i64 0)).setCell ⟨g,5,none⟩ ↑z).setCell ⟨g,6,none⟩ ↑y).setCell ⟨g,7,none⟩ ↑f=Ur g k n z y f s w:=rfl
theorem jZ.set{g:Nat}{x:Tk}{w:ak}(h:jZ g x w)(k n z y f:Int)(s:ByteArray):(Ur g k n z y f s w).heap[g]?=some (.cells (Zx k n z y f s) 255 (0,0)):=by have:=fE 7 ↑f (fE 6 ↑y (fE 5 ↑z (fE 4 (.int .i64 0) (fE 3 ↑() (fE 2 ↑n (fE 1 (.string s) (fE 0 ↑k h.blk)))))));rwa [show ((((((((Zw x).setIfInBounds 0 ↑k).setIfInBounds 1 (.string s)).setIfInBounds 2 ↑n).setIfInBounds 3 ↑()).setIfInBounds 4 (.int .i64 0)).setIfInBounds 5 ↑z).setIfInBounds 6 ↑y).setIfInBounds 7 ↑f=Zx k n z y f s by simp[Zw,Zx]]at this
theorem fV(g:Nat)(k n z y f:Int)(s:ByteArray)(w:ak):But [g] w (Ur g k n z y f s w):=
 (((((((But.setCell ⟨g,0,none⟩ _ aj).then (But.setCell ⟨g,1,none⟩ _ aj)).then (But.setCell ⟨g,2,none⟩ _ aj)).then (But.setCell ⟨g,3,none⟩ _ aj)).then (But.setCell ⟨g,4,none⟩ _ aj)).then (But.setCell ⟨g,5,none⟩ _ aj)).then (But.setCell ⟨g,6,none⟩ _ aj)).then (But.setCell ⟨g,7,none⟩ _ aj)
theorem Ev.mG{w w1 w2:ak}{g:Nat}(h:Ev w w1)(k:But [g] w1 w2)(hg:w.heap.size<=g):Ev w w2:=
 ((But.aU (K:=[g]) h).then k).ev (by simpa using hg)
theorem jA{w1:ak}{g:Nat}{x:Tk}{fn:Func}{q:Tmp}(tmps:Array au)(h:jZ g x w1)(k n z y f:Int)(s:ByteArray)(hf:fn.results=#[.cell q 255])
  (hp:tmps.getD q undef=.pointer ↑g):(results fn tmps).run ax (Ur g k n z y f s w1)=.ok (.agg (Zx k n z y f s)) (Ur g k n z y f s w1):=
 results_cell_row hf tmps _ g 255 _ _ _ hp (h.set k n z y f s) underlying255 rfl Tryz.adB
theorem Ut(why:Int)(fault:Nat)(w:ak):
  Calls ax 235 #[↑why,↑fault] w λe w'=>e=.returned (tkv (aW why fault))/\Ev w w':=by
 go_enter func235,ntmps235;go_wp2;refine aFe (akD rfl _ _ w.heap.size (aW why fault) rfl (aFd w _)) rfl ?_;exact⟨rfl,Ev.alloc _ _⟩
theorem xg(l:By)(k:Nat)(x:UInt8)(n:Int)(h:l[k]?=some x):sxBelow (l.drop k) n=if n < -((9223372036854775808-((x.toNat:Int)-48)) / 10) then none else sxBelow (l.drop (k+1)) (n*10-((x.toNat:Int)-48)):=by obtain⟨hk,e⟩:=aC6.1 h;rw[aEl hk,e];rfl
theorem adC(s:ByteArray)(w:ak)(hd:∀c∈s.data.toList,aY c=true)(hs:s.size<=100000):
  Calls ax 269 #[.string s] w λe w'=>e=.returned (.tuple #[.int .i64 ((sxBelow s.data.toList 0).getD 0),.bool (sxBelow s.data.toList 0).isSome])/\Ev w w':=by
 have hcv:=Lib.run_convert_string_bytes (P:=ax) w 9 180 5 s underlying9 underlying180 underlying5;obtain⟨R,hR⟩:∃R,R=sxBelow s.data.toList 0:=⟨_,rfl⟩
 rw[<-hR];have HR:=zq hR;have HD:=zq hd;clear hR hd;go_enter func269,ntmps269;go_wp2;obtain⟨g,hg⟩:∃g,g=w.heap.size:=⟨_,rfl⟩
 obtain⟨cap,hcap⟩:∃cap,cap=grownCap w s.size 0 5:=⟨_,rfl⟩
 obtain⟨n,hn⟩:∃n,n=s.size:=⟨_,rfl⟩
 have hle:n<=cap:=by rw[hn,hcap];exact grownCap_ge _ _ _ _
 have hmx:cap<=maxLen:=by rw[hcap];exact grownCap_le_maxLen _ _ _ _ (by unfold maxLen;omega)
 have kN:s.data.toList.length=n:=by rw[hn,aDK];rfl
 have hEc:Ev w (Lib.bytesWorld w 5 s):=Lib.bytesWorld_below w 5 s;have hcell:∀i,i<n->(Lib.bytesWorld w 5 s).cell? ⟨g,i,none⟩=some (.int .u8 ((s.data.toList.getD i 0).toNat:Int)):=λi hi=>by rw[hg];exact Lib.bytesWorld_cell w 5 s i ae
 rw[<-hg,<-hcap,<-hn];generalize Lib.bytesWorld w 5 s=w2 at*;have HL:=zq kN;unfold maxLen at hmx;rw[<-hn]at hs;clear hcv hg hcap kN hn
 go_loop [4,11] (λv i=>∃(k:Nat) (m:Int),k<=n/\i=↑k/\v=↑m/\-9223372036854775808<=m/\m<=0/\Hid (R=sxBelow (s.data.toList.drop k) m)) (λ_ i=>n-(intOf i).toNat)
 case atStart=>exact⟨0,0,aDl _,rfl,rfl,ae,ae,HR⟩
 case round=>
  obtain⟨k,m,hk,rfl,rfl,hm1,hm2,HT⟩:=hrel;by_cases hlt:k<n
  ·have hc:=hcell k hlt;have hlk:s.data.toList[k]?=some (s.data.toList.getD k 0):=by
    have h2:k<s.data.toList.length:=by rw[HL.out];exact hlt
    simp[List.getD,aDo h2]
   have hdig:=HD.out _ (aDb hlk);have HS:=zq (xg s.data.toList k _ m hlk);obtain⟨x,hx⟩:∃x,s.data.toList.getD k 0=x:=⟨_,rfl⟩
   rw[hx]at hc hdig HS;clear hx hcell hlk;obtain⟨d,hd,hd9⟩:∃d:Nat,(x.toNat:Int)=48+(d:Int)/\d<=9:=by unfold aY at hdig;simp at hdig;exact⟨x.toNat-48,ae,ae⟩
   have i0:(48:Int)+(d:Int)-48=(d:Int):=ae;rw[hd]at hc HS;rw[i0]at HS;clear hdig hd;have i1:IntKind.u8.wrap ((48:Int)+(d:Int)-48)=(d:Int):=by rw[i0];exact IntWalk.u8_in _ ae
   have i2:wrap64 (-9223372036854775808+(d:Int))=-9223372036854775808+(d:Int):=by unfold wrap64;omega
   have i3:(-9223372036854775808+(d:Int)).tdiv 10=-((9223372036854775808-(d:Int)) / 10):=by rw[show -9223372036854775808+(d:Int)=-(9223372036854775808-(d:Int)) by omega,Int.neg_tdiv,Int.tdiv_eq_ediv_of_nonneg ae]
   by_cases ht:m<(-9223372036854775808+(d:Int)).tdiv 10
   ·have HF:Hid (R=none):=zq (by rw[HT.out,HS.out,if_pos (by rw[<-i3];exact ht)]);clear i3 HS HT;go_wp2
    go_ret2
    rw[HF.out];exact⟨rfl,hEc⟩
   have HF:Hid (R=sxBelow (s.data.toList.drop (k+1)) (m*10-(d:Int))):=zq (by rw[HT.out,HS.out,if_neg (by rw[<-i3];exact ht)]);have i4:wrap64 (m*10)=m*10:=by unfold wrap64;omega
   have i5:wrap64 (m*10-(d:Int))=m*10-(d:Int):=by unfold wrap64;omega
   have i6:-9223372036854775808<=m*10-(d:Int):=ae;clear i3 HS HT;go_wp2
   go_round
   case rel=>exact⟨k+1,m*10-(d:Int),ae,by go_num,rfl,i6,ae,HF⟩
   case measure=>simp[intOf];omega
  obtain rfl:k=n:=ae;have HZ:Hid (R=some m):=zq (by rw[HT.out,aDO (by rw[HL.out];exact aC8 _)];rfl);clear HT;go_wp2
  go_ret2
  rw[HZ.out];exact⟨rfl,hEc⟩
theorem pX:∀(l:By),(∀c∈l,aY c=true)->∀n m:Int,-9223372036854775808<=n->n<=0->sxBelow l n=some m->-9223372036854775808<=m/\m<=0
 | [],_,n,m,h1,h2,h=>by simp[sxBelow]at h;omega
 | c::l,hd,n,m,h1,h2,h=>by unfold sxBelow at h;have hc:=hd c (aC' ..);unfold aY at hc;simp at hc;split at h;cases h;exact pX l (λx hx=>hd x (aDc _ hx)) _ m ae ae h
theorem eF(l:By):∀c∈dC l,aY c=true:=FC aY l
theorem qY(l:By):(dC l).length=sxRun aY l:=by unfold dC;rw[aDP];have:=jJ aY l;omega
theorem aFG(h:U:=by
 go_enter func232,ntmps232
 go_wp2_with (first
  | ((with_reducible refine(HT.out _).mono ?_);rintro x w1 ⟨rfl,rfl⟩)
  | ((with_reducible refine(HR.out _).mono ?_);rintro x w2 ⟨rfl,rfl⟩)
  | ((with_reducible refine(HB.out _).mono ?_);rintro x w3 ⟨rfl,jW⟩;have B3:=B0.ev jW;have E3:=aV.trans jW;obtain⟨c0,c1,c2,c3,c4,c5,c6,c7⟩:=B3.cs;obtain⟨f0,f1,f2,f3,f4,f5,f6,f7⟩:=B3.fs)
  | ((with_reducible refine(HW.out _).mono ?_);rintro x w4 ⟨rfl,gy⟩;have B4:=B3.ev gy;have E4:=E3.trans gy;obtain⟨c0,c1,c2,c3,c4,c5,c6,c7⟩:=B4.cs;obtain⟨f0,f1,f2,f3,f4,f5,f6,f7⟩:=B4.fs))
 rw[eX];refine aFe (jA _ B3 _ _ _ _ _ _ rfl rfl) rfl ?_;exact⟨rfl,E3.mG (fV _ _ _ _ _ _ _ _) (aC8 _)⟩):U:=h
theorem aFF(h:U:=by
 clear HG;go_enter func232,ntmps232
 go_wp2_with (first
  | ((with_reducible refine(HT.out _).mono ?_);rintro x w1 ⟨rfl,rfl⟩)
  | ((with_reducible refine(HR.out _).mono ?_);rintro x w2 ⟨rfl,rfl⟩)
  | ((with_reducible refine(HB.out _).mono ?_);rintro x w3 ⟨rfl,jW⟩;have B3:=B0.ev jW;have E3:=aV.trans jW;obtain⟨c0,c1,c2,c3,c4,c5,c6,c7⟩:=B3.cs;obtain⟨f0,f1,f2,f3,f4,f5,f6,f7⟩:=B3.fs)
  | ((with_reducible refine(HW.out _).mono ?_);rintro x w4 ⟨rfl,gy⟩;have B4:=B3.ev gy;have E4:=E3.trans gy;obtain⟨c0,c1,c2,c3,c4,c5,c6,c7⟩:=B4.cs;obtain⟨f0,f1,f2,f3,f4,f5,f6,f7⟩:=B4.fs))
 rw[eX];refine aFe (jA _ B4 _ _ _ _ _ _ rfl rfl) rfl ?_;exact⟨rfl,E4.mG (fV _ _ _ _ _ _ _ _) (aC8 _)⟩):U:=h
theorem BX(s:ByteArray)(w:ak)(tl:By)(plus:Bool)(hs:s.size<=100000)(htl:Lib.trimPrefix s.data.toList [45]=tl)(hp:((tl.length:Int)==(s.size:Int))=plus)(hle:tl.length<=s.size):
  Calls ax 232 #[.string s] w λe w'=>e=.returned (tkv (sxNum plus (dC tl)))/\Ev w w':=by
 have HT:=zq (λw1=>Tryz.strings_TrimPrefix s ⟨#[45]⟩ w1);have e45:(⟨#[45]⟩:ByteArray).data.toList=[45]:=rfl;rw[e45,htl]at HT;obtain⟨t,ht⟩:∃t:ByteArray,t=⟨tl.toArray⟩:=⟨_,rfl⟩
 have htd:t.data.toList=tl:=by rw[ht]
 have htz:t.size=tl.length:=by rw[ht];rfl
 have HR:=zq (λw1=>KJ t w1 ae);rw[htd]at HR;rw[<-ht]at HT;have hdl:=qY tl;have hrl:=jJ aY tl;obtain⟨r,hr⟩:∃r,r=sxRun aY tl:=⟨_,rfl⟩
 obtain⟨dd,hdd⟩:∃dd:ByteArray,dd=t.extract 0 r:=⟨_,rfl⟩
 have hx:t.extract 0 r=dd:=hdd.symm;have adD:dd.data.toList=dC tl:=by rw[hdd,Lib.extract_eq,htd,hr];simp[dC]
 have ayo:dd.size=r:=by
  have:dd.data.toList.length=dd.size:=by rw[aDK];rfl
  rw[<-this,adD,hdl,hr]
 have HB:=zq (λw1=>adC dd w1 (by rw[adD];exact eF tl) ae);rw[adD]at HB;rw[<-hr]at HR hrl;rw[<-htz]at hrl hle hp;generalize hD:dC tl=D at*;have hDl:D.length=r:=by rw[hdl,hr]
 obtain⟨w0,hw0⟩:∃w0,w0=w.alloc (.cells (Zw (aW 0 0)) 255):=⟨_,rfl⟩
 have B0:jZ w.heap.size (aW 0 0) w0:=hw0▸jZ.new (aW 0 0) w;have aV:Ev w w0:=hw0▸Ev.alloc w _;have ahh:w.alloc (.cells #[.int .i64 0,.string ⟨#[]⟩,.int .i64 0,↑(),.int .i64 0,.int .i64 0,.int .i64 0,.int .i64 0] 255)=w0:=hw0.symm;have HW:=λw1=>Ut 12 0 w1;simp only[tkv,Zw,aW,show (((0:Nat):Int))=0 from rfl]at HW;have HW:=zq HW;have hem:D.isEmpty=dd.toList.isEmpty:=by rw[Lib.toList_data,adD]
 have hD0:D.isEmpty=true->sxBelow D 0=some 0:=λh=>by rw[aEZ.1 h];rfl
 have hRg:∀m,sxBelow D 0=some m->-9223372036854775808<=m/\m<=0:=λm h=>pX D (by rw[<-hD];exact eF tl) 0 m ae ae h;have HG:Hid (sxNum plus D=match sxBelow D 0 with
  | none=>aW 12 0
  | some n=>if D.isEmpty||plus&&decide (n=-9223372036854775808) then aW 12 0 else if plus then ⟨3,[],-n,D.length,0,0⟩ else ⟨3,[],n,1+D.length,0,0⟩):=zq rfl
 rw[hDl]at HG;generalize sxNum plus D=Y at*;generalize sxBelow D 0=bl at*;rw[hem]at HG hD0;obtain⟨em,hq⟩:∃em,dd.toList.isEmpty=em:=⟨_,rfl⟩
 rw[hq]at HG hD0;clear hdl hD ht htd hr hdd adD hDl htl hem hw0 e45
 cases bl with
 | none=>
  have hem:em=false:=by
   cases em
   rfl;have:=hD0 rfl;cases this
  subst hem;simp only[Option.getD_none,Option.isSome_none]at HB;obtain rfl:Y=aW 12 0:=HG.out;clear hD0 hRg HG;go_enter func232,ntmps232
  go_wp2_with (first
   | ((with_reducible refine(HT.out _).mono ?_);rintro x w1 ⟨rfl,rfl⟩)
   | ((with_reducible refine(HR.out _).mono ?_);rintro x w2 ⟨rfl,rfl⟩)
   | ((with_reducible refine(HB.out _).mono ?_);rintro x w3 ⟨rfl,jW⟩;have B3:=B0.ev jW;have E3:=aV.trans jW;obtain⟨c0,c1,c2,c3,c4,c5,c6,c7⟩:=B3.cs;obtain⟨f0,f1,f2,f3,f4,f5,f6,f7⟩:=B3.fs)
   | ((with_reducible refine(HW.out _).mono ?_);rintro x w4 ⟨rfl,gy⟩;have B4:=B3.ev gy;have E4:=E3.trans gy;obtain⟨c0,c1,c2,c3,c4,c5,c6,c7⟩:=B4.cs;obtain⟨f0,f1,f2,f3,f4,f5,f6,f7⟩:=B4.fs))
  rw[eX];refine aFe (jA _ B4 _ _ _ _ _ _ rfl rfl) rfl ?_;exact⟨rfl,E4.mG (fV _ _ _ _ _ _ _ _) (aC8 _)⟩
 | some m=>
  obtain⟨hm1,hm2⟩:=hRg m rfl;simp only[Option.getD_some,Option.isSome_some]at HB;clear hRg hD0
  cases em
  cases plus
  obtain rfl:Y=⟨3,[],m,1+r,0,0⟩:=HG.out;clear HG;have i1:wrap64 (1+(r:Int))=((1+r:Nat):Int):=by unfold wrap64;omega
  have hp':¬((tl.length:Int)=(s.size:Int)):=by rw[htz]at hp;simpa using hp
  exact aFG;have hp':((tl.length:Int)=(s.size:Int)):=by rw[htz]at hp;simpa using hp
  by_cases hmin:m=-9223372036854775808;obtain rfl:Y=aW 12 0:=by rw[HG.out];simp[hmin]
  subst hmin;exact aFF;obtain rfl:Y=⟨3,[],-m,r,0,0⟩:=by rw[HG.out];simp[hmin]
  clear HG;have i1:wrap64 (-m)=-m:=by unfold wrap64;omega
  exact aFG;obtain rfl:Y=aW 12 0:=HG.out;exact aFF
end Go.Proofs.YtbgmhhfjkkfhpaaGreatDoor
