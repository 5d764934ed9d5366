import Derived.Test.YtpbfokkocaemlaaGreatDoorShelf
import Derived.Lib.AtoiErrMem
import Derived.WalkSmall
import Derived.Test.YtpbfokkocaemlaaGreatDoorZ4S
set_option linter.unusedVariables false
set_option maxRecDepth 100000
set_option maxHeartbeats 64000000
namespace Go.Proofs.YtpbfokkocaemlaaGreatDoor
open Go.RowKit
open Go.Lib renaming hid → zq
theorem Tryz.sizeBuilder:(Tryz.prog.info? 146).map (·.size)=some 2:=by kernel_rfl
theorem Tryz.liesBuilder:liesAt Tryz.prog Tryz.prog.depth 146 (2 / Tryz.prog.cellsOf 146) 0 146 1=true:=by kernel_rfl
def Bd (b:Nat) (x v:Value) (l:List UInt8) (w:World):Prop:=w.heap[b]?=some (.cells #[x,v] 146 (0,0))∧(x=.pointer none∨x=.pointer (some ⟨b,0,none⟩))∧Row w v l
theorem Bd.lt {b:Nat} {x v:Value} {l:List UInt8} {w:World} (h:Bd b x v l w):b<w.heap.size:=(atC.1 h.1).1
theorem Bd.ne {b:Nat} {x v:Value} {l:List UInt8} {w:World} (h:Bd b x v l w):v.ownBlock≠some b:=h.2.2.Hy h.1 (by decide)
theorem Bd.c0 {b:Nat} {x v:Value} {l:List UInt8} {w:World} (h:Bd b x v l w):w.cell? ⟨b,0,none⟩=some x:=by rw[Lib.cell_of_heap h.1];rfl
theorem Bd.c1 {b:Nat} {x v:Value} {l:List UInt8} {w:World} (h:Bd b x v l w):w.cell? ⟨b,1,none⟩=some v:=by rw[Lib.cell_of_heap h.1];rfl
theorem Bd.f {b:Nat} {x v:Value} {l:List UInt8} {w:World} (h:Bd b x v l w) (i:Nat):w.frozen? ⟨b,i,none⟩=false:=Lib.frozen_of_heap h.1 i
theorem Bd.but {K:List Nat} {b:Nat} {x v:Value} {l:List UInt8} {w w':World} (h:Bd b x v l w) (he:But K w w') (hb:b∉K) (hv:∀g,v.ownBlock=some g→g∉K):Bd b x v l w':=⟨he.heap h.1 hb,h.2.1,h.2.2.but he hv⟩
theorem Bd.ev {b:Nat} {x v:Value} {l:List UInt8} {w w':World} (h:Bd b x v l w) (he:Ev w w'):Bd b x v l w':=h.but (But.aS (K:=[]) he) (by simp) (by simp)
def lh (c:UInt8):Bool:=decide (32≤c.toNat∧c.toNat≤126∧c.toNat≠34∧c.toNat≠92)
def lI (x:Nat):UInt8:=UInt8.ofNat (if x<10 then 48+x else 87+x)
def iL (c:UInt8):List UInt8:=if lh c then [c] else [92,lI (c.toNat / 16),lI (c.toNat % 16)]
def lV (l:List UInt8):List UInt8:=34::(l.flatMap iL++[34])
theorem Ai (b:Nat) (x v:Value) (l:List UInt8) (w:World) (h:Bd b x v l w):
  Calls Tryz.prog 168 #[.pointer (some ⟨b,0,none⟩)] w fun e w'=>e=.returned (.tuple #[])∧Bd b (.pointer (some ⟨b,0,none⟩)) v l w'∧But [b] w w':=by
 obtain⟨j,hj,WI⟩:=Option.map_eq_some_iff.1 Tryz.sizeBuilder;have c0:=h.c0;have f0:=h.f 0;have hsh:w.shape? b=some (146,2):=by simp[World.shape?,h.1]
 rcases h.2.1 with rfl|rfl
 ·go_enter Tryz.func168,Tryz.ntmps168;go_wp2;rw[Lib.run_to_unsafe w ⟨b,0,none⟩ Tryz.underlying144 Tryz.underlying237 hj (by rw[WI];decide) hsh (Nat.zero_lt_succ 1)];simp only[Result.andThen];rw[Oper.upon_value];go_wp2;rw[run_callFunc_extern (P:=Tryz.prog) Tryz.func189 (by kernel_rfl) (by kernel_rfl) (by kernel_rfl) (e:=Extern.AbiNoEscape.same) (by kernel_rfl)];rw[Lib.run_noEscape];simp only[Result.andThen];rw[Oper.upon_value];go_wp2;rw[Lib.run_from_unsafe w ⟨b,0,none⟩ Tryz.underlying237 Tryz.underlying144 hj hsh Tryz.liesBuilder];simp only[Result.andThen];rw[Oper.upon_value];go_wp2;go_end0;have hB:But [b] w (w.setCell ⟨b,0,none⟩ (.pointer (some ⟨b,0,none⟩))):=But.setCell _ _ (by simp);exact⟨by trivial,⟨fD 0 _ h.1,.inr rfl,h.2.2.but hB (fun g hg hm=>h.ne (by simp at hm;exact hm▸hg))⟩,hB⟩
 have hnp:(binOp .neq 144 (.pointer (some ⟨b,0,none⟩)) (.pointer (some ⟨b,0,none⟩))).run Tryz.prog w=.ok (.bool false) w:=Lib.run_neq_ptr_same w ⟨b,0,none⟩ Tryz.underlying144 hj;go_enter Tryz.func168,Tryz.ntmps168;go_wp2;go_end0;exact⟨by trivial,h,But.refl _ _⟩
theorem Bs.WJ (w:World) (c:UInt8):Bs (w.alloc (.cells #[.int .u8 (c.toNat:Int)] 5)) (some ⟨w.heap.size,0,none⟩) 1 1 [c]:=Bs.made [c] _ rfl (by simp)
theorem iR (b:Nat) (x v:Value) (l:List UInt8) (c:UInt8) (w:World) (h:Bd b x v l w) (hl:l.length+1≤140737488355328):
  Calls Tryz.prog 167 #[.pointer (some ⟨b,0,none⟩),.int .u8 (c.toNat:Int)] w fun e w'=>e=.returned .nilIface∧∃v',Bd b (.pointer (some ⟨b,0,none⟩)) v' (l++[c]) w'∧But (b::foot v) w w'∧eX w v v':=by
 have HC:=zq (Ai b x v l w h);have hc:=c.toNat_lt;go_enter Tryz.func167,Tryz.ntmps167
 go_wp2_with (first|((with_reducible refine HC.out.mono ?_);rintro y w1 ⟨rfl,PQ,hB1⟩;have c1:=PQ.c1;have HB:=zq (Bs.WJ w1 c))|(at_builtin;refine og rfl (.tmp 11) (.tmp 13) rfl Tryz.underlying93 Tryz.D8 v l rfl (PQ.2.2.ev (Ev.alloc _ _)) (some ⟨w1.heap.size,0,none⟩) 1 1 [c] rfl HB.out (by simp;omega) ?_;intro v2 w2 hr2 hb2 hs2;obtain⟨A2,n2,cap2,rfl⟩:=hr2.form;have hnb:b∉foot v:=(fun hm=>PQ.ne (aB.1 hm));have hh2:=hb2.heap (PQ.ev (Ev.alloc _ _)).1 hnb;have d1:w2.cell? ⟨b,1,none⟩=some v:=(by rw[Lib.cell_of_heap hh2];rfl);have f1:w2.frozen? ⟨b,1,none⟩=false:=Lib.frozen_of_heap hh2 1))
 go_ret;have pq:But [b] w2 (w2.setCell ⟨b,1,none⟩ (.slice A2 n2 cap2)):=But.setCell _ _ (by simp);have hne:=hr2.Hy hh2 (by decide);refine⟨rfl,_,⟨fD 1 _ hh2,.inr rfl,hr2.but pq (fun g hg hm=>hne (by simp at hm;exact hm▸hg))⟩,?_,?_⟩;refine ((hB1.wide (K':=b::foot v) (by simp)).then (But.alloc _)).then ((hb2.wide (K':=b::foot v) (fun y hy=>.inl (aty _ hy))).then (pq.wide (by simp)));have hsz:=hB1.size;exact hs2.old (by simp;omega)
theorem ax6 {P:Prop} (h:P:=by go_enter Tryz.func191,Tryz.ntmps191;go_wp2;go_ret;exact⟨by rw[HB.out];simp;omega,rfl⟩):P:=h
theorem Qj (c:UInt8) (w:World):
  Calls Tryz.prog 191 #[.int .u8 (c.toNat:Int)] w fun e w'=>e=.returned (.bool (lh c))∧w=w':=by
 obtain⟨b,hb⟩:∃b,lh c=b:=⟨_,rfl⟩
 have hb':b=decide (32≤c.toNat∧c.toNat≤126∧c.toNat≠34∧c.toNat≠92):=hb.symm;rw[hb];clear hb;generalize c.toNat=m at*;have HB:=zq hb';clear hb';by_cases h1:(32:Int)≤m;by_cases h2:(m:Int)≤126;by_cases h3:(m:Int)=34;exact ax6;have e3:((m:Int) !=34)=true:=auJ.2 h3;by_cases h4:(m:Int)=92;exact ax6;have e4:((m:Int) !=92)=true:=auJ.2 h4;exact ax6;exact ax6;exact ax6
theorem YM:∀(x:Nat) (h:x<16),(⟨#[48,49,50,51,52,53,54,55,56,57,97,98,99,100,101,102]⟩:ByteArray)[x]'h=lI x:=by decide+kernel
theorem N7 (b:Nat) (x v:Value) (l:List UInt8) (c:UInt8) (w:World) (h:Bd b x v l w) (hl:l.length+3≤140737488355328):
  Calls Tryz.prog 192 #[.pointer (some ⟨b,0,none⟩),.int .u8 (c.toNat:Int)] w fun e w'=>e=.returned (.tuple #[])∧∃v',Bd b (.pointer (some ⟨b,0,none⟩)) v' (l++[92,lI (c.toNat / 16),lI (c.toNat % 16)]) w'∧But (b::foot v) w w'∧eX w v v':=by
 have hc:=c.toNat_lt;have H1:=fun w1 (h1:Bd b x v l w1)=>iR b x v l 92 w1 h1 (by omega);simp only[show (((92:UInt8).toNat:Nat):Int)=92 from rfl]at H1;have H1:=zq H1;have e1:∀hh,(⟨#[48,49,50,51,52,53,54,55,56,57,97,98,99,100,101,102]⟩:ByteArray)[c.toNat / 16]'hh=lI (c.toNat / 16):=fun _=>YM _ (by omega);have e2:∀hh,(⟨#[48,49,50,51,52,53,54,55,56,57,97,98,99,100,101,102]⟩:ByteArray)[c.toNat % 16]'hh=lI (c.toNat % 16):=fun _=>YM _ (by omega);have H2:=zq (fun v1 w1 (h1:Bd b (.pointer (some ⟨b,0,none⟩)) v1 (l++[92]) w1)=>iR b _ v1 _ (lI (c.toNat / 16)) w1 h1 (by simp;omega));have H3:=zq (fun v1 w1 (h1:Bd b (.pointer (some ⟨b,0,none⟩)) v1 (l++[92]++[lI (c.toNat / 16)]) w1)=>iR b _ v1 _ (lI (c.toNat % 16)) w1 h1 (by simp;omega));go_enter Tryz.func192,Tryz.ntmps192
 go_wp2_with (first|((with_reducible refine (H1.out w h).mono ?_);rintro y w1 ⟨rfl,v1,PQ,hB1,hS1⟩)|((with_reducible refine (H2.out _ _ PQ).mono ?_);rintro y w2 ⟨rfl,v2,hD2,hB2,hS2⟩)|((with_reducible refine (H3.out _ _ hD2).mono ?_);rintro y w3 ⟨rfl,v3,hD3,pq,DV⟩))
 go_end0;have hT:=((Wrote.mk hB1 hS1).trans (Wrote.mk hB2 hS2)).trans (Wrote.mk pq DV);exact⟨by trivial,v3,by simpa using hD3,hT.but,hT.NW⟩
theorem Ed {l:List UInt8} {k:Nat} (h:k<l.length):(l.take (k+1)).flatMap iL=(l.take k).flatMap iL++iL (l.getD k 0):=by rw[List.take_add_one,avb];simp[h,List.getD]
theorem N8 (c:UInt8):(iL c).length≤3:=by unfold iL;split<;>simp
theorem flat_length:∀l:List UInt8,(l.flatMap iL).length≤3*l.length
 | []=>by simp
 | c::r=>by have h1:=N8 c;have h2:=flat_length r;rw[auN,atv,atF];omega
theorem Row.base {w:World} {v:Value} {l:List UInt8} {B:Nat} (h:Row w v l) (hv:∀g,v.ownBlock=some g→B≤g):w.ownsRow B 5 1 v l.length (DT l):=by
 refine⟨h.1,?_⟩;rcases h.2 with h2|⟨g,cap,cur,rfl,_,r⟩
 exact .inl h2;exact .inr ⟨g,cap,cur,rfl,hv g rfl,r⟩
theorem axi {P:Prop} (h:P:=by refine ((But.aS (K:=[]) hE).trans pq fun x hx=>.inr ?_).ev (by simp);rcases atA.1 hx with h1|h1;omega;have:=(hv _ (aB.1 h1)).1;omega):P:=h
theorem avA {P:Prop} (h:P:=by
 go_wp2_with (first|((with_reducible refine HP.out.mono ?_);rintro y w3 ⟨rfl,rfl⟩)|((with_reducible refine HW.out.mono ?_);rintro y w3 ⟨rfl,v3,hD3,pq,DV⟩))
 go_roundw
 case rel=>
  have hT:Wrote b' v wr v3 w3:=⟨pq,DV⟩
  refine⟨k+1,v3,by omega,by go_num,?_,hB.but pq (fun ad e hm=>?_),?_,atM hgr pq.size,fun h hh=>?_⟩;rw[Ed (by rw[HL.out];exact hlt),HC.out];have:=hD3;simpa[iL,hpl,atS] using this;obtain rfl:=aui e;rcases atA.1 hm with h1|h1;have h2:g=b':=h1;omega;exact (hv _ (aB.1 h1)).2 rfl;exact axi;rcases DV h hh with h1|h1;exact hv h h1;have:=hE.size;omega
 case measure=>simp[intOf];omega):P:=h
theorem WL (s:ByteArray) (w:World) (hs:s.size≤1000):
  Calls Tryz.prog 171 #[.string s] w fun e w'=>e=.returned (.string ⟨(lV s.data.toList).toArray⟩)∧Ev w w':=by
 obtain⟨b,hb⟩:∃b,b=w.heap.size:=⟨_,rfl⟩
 obtain⟨w0,hw0⟩:∃w0,w0=w.alloc (.cells #[.pointer none,.slice none 0 0] 146):=⟨_,rfl⟩
 have D0:Bd b (.pointer none) (.slice none 0 0) [] w0:=by rw[hw0,hb];exact⟨heap_alloc_new w _,.inl rfl,Row.nil_ _⟩
 have aT:Ev w w0:=hw0▸Ev.alloc w _;have H1:=fun w1 (h1:Bd b (.pointer none) (.slice none 0 0) [] w1)=>iR b _ _ [] 34 w1 h1 (by simp);simp only[show (((34:UInt8).toNat:Nat):Int)=34 from rfl,auv]at H1;have H1:=zq H1;rw[hb]at H1;go_enter Tryz.func171,Tryz.ntmps171
 go_wp2_with (first|(rw[←hw0];(with_reducible refine (H1.out w0 (hb▸D0)).mono ?_);rintro y w1 ⟨rfl,v1,PQ,hB1,hS1⟩;have hcv:=Lib.run_convert_string_bytes (P:=Tryz.prog) w1 9 93 5 s Tryz.underlying9 Tryz.underlying93 Tryz.underlying5))
 obtain⟨g,hg⟩:∃g,g=w1.heap.size:=⟨_,rfl⟩
 obtain⟨cap,hcap⟩:∃cap,cap=grownCap w1 s.size 0 5:=⟨_,rfl⟩
 obtain⟨n,hn⟩:∃n,n=s.size:=⟨_,rfl⟩
 have hle:n≤cap:=by rw[hn,hcap];exact grownCap_ge _ _ _ _
 have hmx:cap≤maxLen:=by rw[hcap];exact grownCap_le_maxLen _ _ _ _ (by unfold maxLen;omega)
 have jd:s.data.toList.length=n:=by rw[hn,atU];rfl
 have hEc:Ev w1 (Lib.bytesWorld w1 5 s):=Lib.bytesWorld_below w1 5 s;have hBs:Bs (Lib.bytesWorld w1 5 s) (some ⟨g,0,none⟩) n cap s.data.toList:=
  ⟨jd,hle,by unfold maxLen at hmx;omega,by simp,fun h0=>⟨g,0,rfl,by rw[hg,Lib.bytesWorld_size];omega,fun i hi=>by rw[atT,hg];exact Lib.bytesWorld_cell w1 5 s i (by omega)⟩⟩
 have hg2:g<(Lib.bytesWorld w1 5 s).heap.size:=by rw[hg,Lib.bytesWorld_size];omega
 have hgw:w.heap.size<g:=by have h1:=hB1.size;have h2:=D0.lt;rw[hb]at h2;omega
 have aH:Ev w w1:=((But.aS aT).trans hB1 (fun x hx=>.inr (by simp[foot,Value.ownBlock]at hx;omega))).ev (K:=[]) (by simp);have KZ:∀h,v1.ownBlock=some h→w.heap.size≤h∧h≠g:=fun h hh=>⟨by
  rcases hS1 h hh with h1|h1;simp[Value.ownBlock]at h1;have:=aT.size;omega,by have:=PQ.2.2.lt hh;omega⟩
 rw[←hg,←hcap,←hn];generalize Lib.bytesWorld w1 5 s=w2 at*;have hD2:=PQ.ev hEc;have bK:=aH.trans hEc;have HL:=zq jd;have HN:=zq hn;clear hcv hg hcap hS1 hB1 jd PQ aH hEc D0 H1 hn;generalize hb2:w.heap.size=b' at*
 go_loopw [10] (fun i wr=>∃(k:Nat) (v:Value),k≤n∧i=.int .i64 (k:Int)∧Bd b' (.pointer (some ⟨b',0,none⟩)) v (34::(s.data.toList.take k).flatMap iL) wr∧Bs wr (some ⟨g,0,none⟩) n cap s.data.toList∧Ev w wr∧g<wr.heap.size∧(∀h,v.ownBlock=some h→b'≤h∧h≠g)) (fun i _=>n - (intOf i).toNat)
 case atStart=>exact⟨0,v1,atG _,rfl,by simpa using hD2,hBs,bK,hg2,KZ⟩
 case round=>
  obtain⟨k,v,hk,rfl,hD,hB,hE,hgr,hv⟩:=hrel;have hfl:=flat_length (s.data.toList.take k);have hfk:(s.data.toList.take k).length≤k:=by simp;omega
  have qF:n≤1000:=by rw[HN.out];exact hs
  by_cases hlt:k<n;obtain⟨c,hc⟩:∃c,s.data.toList.getD k 0=c:=⟨_,rfl⟩
  have hcell:wr.cell? ⟨g,k,none⟩=some (.int .u8 (c.toNat:Int)):=by obtain⟨b2,off,e,_,hcl⟩:=hB.rd (by omega);simp only[Option.some.injEq,Addr.mk.injEq,and_true]at e;obtain⟨rfl,rfl⟩:=e;have:=hcl k hlt;rw[hc,atT]at this;exact this
  have HC:=zq hc;clear hc;have HP:=Qj c wr
  cases hpl:lh c
  rw[hpl]at HP;have HP:=zq HP;have HW:=zq (N7 b' _ v _ c wr hD (by simp only[atF];omega));exact avA;rw[hpl]at HP;have HP:=zq HP;have HW:=zq (iR b' _ v _ c wr hD (by simp only[atF];omega));exact avA;obtain rfl:k=n:=by omega
  have HW:=iR b' _ v _ 34 wr hD (by simp only[atF];omega);simp only[show (((34:UInt8).toNat:Nat):Int)=34 from rfl]at HW;have HW:=zq HW;have hq:34::(s.data.toList.take k).flatMap iL++[34]=lV s.data.toList:=by rw[atJ (by rw[HL.out];exact att _)];rfl
  have HQ:=zq hq;have HS:=zq (fun v4 w4 (h4:Bd b' (.pointer (some ⟨b',0,none⟩)) v4 (lV s.data.toList) w4) (h5:∀h,v4.ownBlock=some h→b'≤h)=>Tryz.Builder_String_k b' b' (lV s.data.toList) w4 (.inr ⟨att _,v4,h4.1,by have:=World.ownsRowF_of (h4.2.2.base h5);rw[Lib.byteCells_length];exact this,h4.ne⟩) (by simp[lV]));clear hq
  go_wp2_with (first|((with_reducible refine HW.out.mono ?_);rintro y w3 ⟨rfl,v3,hD3,pq,DV⟩;rw[HQ.out]at hD3;have hv3:∀h,v3.ownBlock=some h→b'≤h:=(fun h hh=>by rcases DV h hh with h1|h1;exact (hv h h1).1;have:=hE.size;omega))|((with_reducible refine (HS.out _ _ hD3 hv3).mono ?_);rintro y w4 ⟨rfl,_,hb4,_⟩))
  go_ret;refine⟨rfl,?_⟩;have iE:Ev w w3:=by exact axi
  rw[←hb2]at hb4;exact Below.trans iE hb4
def Tab (w : World) : Prop := Lib.TabIs Tryz.prog w "internal/strconv.uint64pow10" .u64 Lib.pow10Tab
theorem Tab.ev {w w':World} (h:Tab w) (hE:Ev w w'):Tab w':=by
 unfold Tab Lib.TabIs World.var? at h⊢
 cases hg : Tryz.prog.globalNamed "internal/strconv.uint64pow10" with
 | none=>simp[hg]at h
 | some g=>
  simp only[hg,Option.bind_some]at h⊢;have hlt:g<w.heap.size:=by rcases Nat.lt_or_ge g w.heap.size with h'|h';exact h';simp[Array.getElem?_eq_none h']at h
  rw[hE.block g hlt];exact h
theorem Ev.grow {w w':World} (h:∃k os,w'=Sort.grow (w.drewN k) os):Ev w w':=by obtain⟨k,os,rfl⟩:=h;exact⟨rfl,rfl,rfl,by rw[Sort.size_grow];exact Nat.le_add_right _ _,fun i hi=>Sort.heap_grow_old (w.drewN k) os hi⟩
def showV (k n:Int) (s:ByteArray):List UInt8:=if ik k n s then (if k=1 then Lib.itoa n else lV s.data.toList) else [63]
theorem Ii {k n:Int} {s:ByteArray} (h:ik k n s=true):s.size≤40:=by
 unfold ik at h;split at h;obtain⟨⟨l⟩⟩:=s;have:l=[]:=by simpa using h
 subst this;decide;split at h;simp at h;exact h.2;cases h
theorem axk {P:Prop} (h:P:=by
 go_wp2_with (first|(rw[←hw0];(with_reducible refine (HR.out _).mono ?_);rintro y w1 ⟨rfl,aH⟩))
 go_ret;exact⟨rfl,aT.trans aH⟩):P:=h
theorem awq {P:Prop} (h:P:=by
 go_wp2_with (first|(rw[←hw0];(with_reducible refine (HR.out _).mono ?_);rintro y w1 ⟨rfl,aH⟩;have B1:=B.ev aH;have c0:=B1.c0;have c2:=B1.c2)|((with_reducible refine (HF.out _).mono ?_);rintro y w2 ⟨rfl,bK⟩))
 go_ret;exact⟨rfl,(aT.trans aH).trans bK⟩):P:=h
theorem Ij (k n:Int) (s:ByteArray) (w:World) (hT:Tab w) (h0:-9223372036854775808≤n) (h1:n≤9223372036854775807):
  Calls Tryz.prog 139 #[vv k n s] w fun e w'=>e=.returned (.string ⟨(showV k n s).toArray⟩)∧Ev w w':=by
 have hR:=fun w1=>P_ k n s w1;obtain⟨w0,hw0⟩:∃w0,w0=w.alloc (.cells #[.int .i64 k,.int .i64 n,.string s] 200):=⟨_,rfl⟩
 have B:Boxed w.heap.size k n s w0:=hw0▸Boxed.new k n s w;have aT:Ev w w0:=hw0▸Ev.alloc w _
 cases hr:ik k n s
 ·have hv:showV k n s=[63]:=by simp[showV,hr]
  rw[hv];rw[hr]at hR;have HR:=zq hR;clear hR hr hv;go_enter Tryz.func139,Tryz.ntmps139;exact axk
 have hsz:=Ii hr;by_cases hk:k=1
 ·subst hk;have hv:showV 1 n s=Lib.itoa n:=by simp[showV,hr]
  rw[hv];rw[hr]at hR;have HR:=zq hR;have HF:=zq (fun w1 (h:Tab w1)=>Tryz.strconv_FormatInt_10 n h0 h1 w1 h);clear hR hr hv;go_enter Tryz.func139,Tryz.ntmps139
  go_wp2_with (first|(rw[←hw0];(with_reducible refine (HR.out _).mono ?_);rintro y w1 ⟨rfl,aH⟩;have B1:=B.ev aH;have c0:=B1.c0;have c1:=B1.c1;have hT1:=(hT.ev aT).ev aH)|((with_reducible refine (HF.out _ hT1).mono ?_);rintro y w2 ⟨rfl,hg⟩;have bK:=Ev.grow hg;clear hg))
  go_ret;exact⟨rfl,(aT.trans aH).trans bK⟩
 have hv:showV k n s=lV s.data.toList:=by simp[showV,hr,hk]
 rw[hv];rw[hr]at hR;have HR:=zq hR;have HF:=zq (fun w1=>WL s w1 (by omega));clear hR hr hv;go_enter Tryz.func139,Tryz.ntmps139;exact awq
theorem zg (b:Nat) (x v:Value) (l:List UInt8) (s:ByteArray) (w:World) (h:Bd b x v l w) (hl:l.length+s.size≤140737488355328):
  Calls Tryz.prog 138 #[.pointer (some ⟨b,0,none⟩),.string s] w fun e w'=>e=.returned (.tuple #[.int .i64 (s.size:Int),.nilIface])∧∃v',Bd b (.pointer (some ⟨b,0,none⟩)) v' (l++s.data.toList) w'∧But (b::foot v) w w'∧eX w v v':=by
 have HC:=zq (Ai b x v l w h);go_enter Tryz.func138,Tryz.ntmps138
 go_wp2_with (first|((with_reducible refine HC.out.mono ?_);rintro y w1 ⟨rfl,PQ,hB1⟩;have c1:=PQ.c1)|((show wpList _ _ _ (⟨some 14,_,_,_,_,_⟩::_) _ _);refine uY (o:=⟨some 14,_,_,_,_,_⟩) rfl (.tmp 12) (.tmp 13) rfl Tryz.underlying93 Tryz.underlying9 Tryz.D8 v l rfl PQ.2.2 s rfl hl ?_;intro v2 w2 hr2 hb2 hs2;obtain⟨A2,n2,cap2,rfl⟩:=hr2.form;have hnb:b∉foot v:=(fun hm=>PQ.ne (aB.1 hm));have hh2:=hb2.heap PQ.1 hnb;have d1:w2.cell? ⟨b,1,none⟩=some v:=(by rw[Lib.cell_of_heap hh2];rfl);have f1:w2.frozen? ⟨b,1,none⟩=false:=Lib.frozen_of_heap hh2 1))
 go_ret2
 have pq:But [b] w2 (w2.setCell ⟨b,1,none⟩ (.slice A2 n2 cap2)):=But.setCell _ _ (by simp);have hne:=hr2.Hy hh2 (by decide);refine⟨rfl,_,⟨fD 1 _ hh2,.inr rfl,hr2.but pq (fun g hg hm=>hne (by simp at hm;exact hm▸hg))⟩,?_,?_⟩;refine (hB1.wide (K':=b::foot v) (by simp)).then ((hb2.wide (K':=b::foot v) (fun y hy=>.inl (aty _ hy))).then (pq.wide (by simp)));have hsz:=hB1.size;exact hs2.old hsz
end Go.Proofs.YtpbfokkocaemlaaGreatDoor
