import Derived.Test.YtbgmhhfjkkfhpaaGreatDoorShelf
import Derived.Lib.AtoiErrMem
import Derived.WalkSmall
import Derived.Test.YtbgmhhfjkkfhpaaGreatDoorZ7G
set_option linter.unusedVariables false
set_option maxRecDepth 100000
set_option maxHeartbeats 64000000
namespace Go.Proofs.YtbgmhhfjkkfhpaaGreatDoor
open Go.RowKit
open Go.Lib renaming hid → zq
open Go renaming World → ak
open Go renaming Value → au
open Go.Proofs.Tryz renaming prog → ax
variable {U:Prop}
open Go.Proofs.Tryz
theorem Tryz.sizeBuilder:(Tryz.prog.info? 244).map (·.size)=some 2:=ah
theorem Tryz.liesBuilder:liesAt ax Tryz.prog.depth 244 (2 / Tryz.prog.cellsOf 244) 0 244 1=true:=ah
def Bd(b:Nat)(x v:au)(l:List UInt8)(w:ak):Prop:=w.heap[b]?=some (.cells #[x,v] 244 (0,0))/\(x=.pointer none∨x=.pointer ↑b)/\Row w v l
theorem Bd.lt{b:Nat}{x v:au}{l:List UInt8}{w:ak}(h:Bd b x v l w):b<w.heap.size:=(aDa.1 h.1).1
theorem Bd.ne{b:Nat}{x v:au}{l:List UInt8}{w:ak}(h:Bd b x v l w):v.ownBlock≠some b:=h.2.2.JS h.1 ai
theorem Bd.c0{b:Nat}{x v:au}{l:List UInt8}{w:ak}(h:Bd b x v l w):w.cell? ⟨b,0,none⟩=some x:=by rw[aFf h.1];rfl
theorem Bd.c1{b:Nat}{x v:au}{l:List UInt8}{w:ak}(h:Bd b x v l w):w.cell? ⟨b,1,none⟩=some v:=by rw[aFf h.1];rfl
theorem Bd.f{b:Nat}{x v:au}{l:List UInt8}{w:ak}(h:Bd b x v l w)(i:Nat):w.frozen? ⟨b,i,none⟩=false:=Lib.frozen_of_heap h.1 i
theorem Bd.but{K:List Nat}{b:Nat}{x v:au}{l:List UInt8}{w w':ak}(h:Bd b x v l w)(he:But K w w')(hb:b∉K)(hv:∀g,v.ownBlock=some g->g∉K):Bd b x v l w':=⟨he.heap h.1 hb,h.2.1,h.2.2.but he hv⟩
theorem Bd.ev{b:Nat}{x v:au}{l:List UInt8}{w w':ak}(h:Bd b x v l w)(he:Ev w w'):Bd b x v l w':=h.but (But.aU (K:=[]) he) aj aj
def yZ(c:UInt8):Bool:=decide (32<=c.toNat/\c.toNat<=126/\c.toNat≠34/\c.toNat≠92)
def AX(x:Nat):UInt8:=UInt8.ofNat (if x<10 then 48+x else 87+x)
def ny(c:UInt8):List UInt8:=if yZ c then [c] else [92,AX (c.toNat / 16),AX (c.toNat % 16)]
def oh(l:List UInt8):List UInt8:=34::(l.flatMap ny++[34])
theorem BB(b:Nat)(x v:au)(l:List UInt8)(w:ak)(h:Bd b x v l w):
  Calls ax 259 #[.pointer ↑b] w λe w'=>e=.returned (.tuple #[])/\Bd b (.pointer ↑b) v l w'/\But [b] w w':=by
 obtain⟨j,hj,hjs⟩:=aEF.1 Tryz.sizeBuilder;have c0:=h.c0;have f0:=h.f 0;have hsh:w.shape? b=some (244,2):=by simp[World.shape?,h.1]
 rcases h.2.1 with rfl|rfl
 ·go_enter func259,ntmps259;go_wp2;rw[Lib.run_to_unsafe w ⟨b,0,none⟩ underlying242 underlying332 hj (by rw[hjs];decide) hsh (Nat.zero_lt_succ 1)];simp only[Result.andThen];rw[Oper.upon_value];go_wp2;rw[run_callFunc_extern (P:=ax) func282 ah ah ah (e:=Extern.AbiNoEscape.same) ah];rw[Lib.run_noEscape];simp only[Result.andThen];rw[Oper.upon_value];go_wp2;rw[Lib.run_from_unsafe w ⟨b,0,none⟩ underlying332 underlying242 hj hsh Tryz.liesBuilder];simp only[Result.andThen];rw[Oper.upon_value];go_wp2;go_end0;have hB:But [b] w (w.setCell ⟨b,0,none⟩ (.pointer (some ⟨b,0,none⟩))):=But.setCell _ _ aj;exact⟨by trivial,⟨fE 0 _ h.1,.inr rfl,h.2.2.but hB (λg hg hm=>h.ne (by simp at hm;exact hm▸hg))⟩,hB⟩
 have hnp:(binOp .neq 242 (.pointer ↑b) (.pointer ↑b)).run ax w=.ok (.bool false) w:=Lib.run_neq_ptr_same w ⟨b,0,none⟩ underlying242 hj;go_enter func259,ntmps259;go_wp2;go_end0;exact⟨by trivial,h,But.refl _ _⟩
theorem Bs.aa9(w:ak)(c:UInt8):Bs (w.alloc (.cells #[.int .u8 (c.toNat:Int)] 5)) ↑w 1 1 [c]:=Bs.made [c] _ rfl aj
theorem iT(b:Nat)(x v:au)(l:List UInt8)(c:UInt8)(w:ak)(h:Bd b x v l w)(hl:l.length+1<=140737488355328):
  Calls ax 258 #[.pointer ↑b,.int .u8 (c.toNat:Int)] w λe w'=>e=.returned .nilIface/\∃v',Bd b (.pointer ↑b) v' (l++[c]) w'/\But (b::foot v) w w'/\dE w v v':=by
 have HC:=zq (BB b x v l w h);have hc:=c.toNat_lt;go_enter func258,ntmps258
 go_wp2_with (first|((with_reducible refine HC.out.mono ?_);rintro y w1 ⟨rfl,Oo,hB1⟩;have c1:=Oo.c1;have HB:=zq (Bs.aa9 w1 c))|(at_builtin;refine nO rfl (.tmp 11) (.tmp 13) rfl underlying180 Tryz.Fg v l rfl (Oo.2.2.ev aC) ↑w1 1 1 [c] rfl HB.out (by simp;omega) ?_;intro v2 w2 hr2 hb2 hs2;obtain⟨A2,n2,cap2,rfl⟩:=hr2.form;have hnb:b∉foot v:=(λhm=>Oo.ne (aG.1 hm));have hh2:=hb2.heap (Oo.ev aC).1 hnb;have d1:w2.cell? ⟨b,1,none⟩=some v:=(by rw[aFf hh2];rfl);have f1:w2.frozen? ⟨b,1,none⟩=false:=Lib.frozen_of_heap hh2 1))
 go_ret;have sK:But [b] w2 (w2.setCell ⟨b,1,none⟩ (.slice A2 n2 cap2)):=But.setCell _ _ aj;have hne:=hr2.JS hh2 ai;refine⟨rfl,_,⟨fE 1 _ hh2,.inr rfl,hr2.but sK (λg hg hm=>hne (by simp at hm;exact hm▸hg))⟩,?_,?_⟩;refine((hB1.wide (K':=b::foot v) aj).then (But.alloc _)).then ((hb2.wide (K':=b::foot v) (λy hy=>.inl (aDc _ hy))).then (sK.wide aj));have hsz:=hB1.size;exact hs2.old (by simp;omega)
theorem aH'(h:U:=by go_enter func284,ntmps284;go_wp2;go_ret;exact⟨by rw[HB.out];simp;omega,rfl⟩):U:=h
theorem UB(c:UInt8)(w:ak):
  Calls ax 284 #[.int .u8 (c.toNat:Int)] w λe w'=>e=.returned (.bool (yZ c))/\w=w':=by
 obtain⟨b,hb⟩:∃b,yZ c=b:=⟨_,rfl⟩
 have hb':b=decide (32<=c.toNat/\c.toNat<=126/\c.toNat≠34/\c.toNat≠92):=hb.symm;rw[hb];clear hb;generalize c.toNat=m at*;have HB:=zq hb';clear hb';by_cases h1:(32:Int)<=m;by_cases h2:(m:Int)<=126;by_cases h3:(m:Int)=34;exact aH';have e3:((m:Int) !=34)=true:=aEk.2 h3;by_cases h4:(m:Int)=92;exact aH';have e4:((m:Int) !=92)=true:=aEk.2 h4;exact aH';exact aH';exact aH'
theorem adP:∀(x:Nat) (h:x<16),(⟨#[48,49,50,51,52,53,54,55,56,57,97,98,99,100,101,102]⟩:ByteArray)[x]'h=AX x:=by decide+kernel
theorem QW(b:Nat)(x v:au)(l:List UInt8)(c:UInt8)(w:ak)(h:Bd b x v l w)(hl:l.length+3<=140737488355328):
  Calls ax 285 #[.pointer ↑b,.int .u8 (c.toNat:Int)] w λe w'=>e=.returned (.tuple #[])/\∃v',Bd b (.pointer ↑b) v' (l++[92,AX (c.toNat / 16),AX (c.toNat % 16)]) w'/\But (b::foot v) w w'/\dE w v v':=by
 have hc:=c.toNat_lt;have H1:=λw1 (h1:Bd b x v l w1)=>iT b x v l 92 w1 h1 ae;simp only[show (((92:UInt8).toNat:Nat):Int)=92 from rfl]at H1;have H1:=zq H1;have e1:∀hh,(⟨#[48,49,50,51,52,53,54,55,56,57,97,98,99,100,101,102]⟩:ByteArray)[c.toNat / 16]'hh=AX (c.toNat / 16):=λ_=>adP _ ae;have e2:∀hh,(⟨#[48,49,50,51,52,53,54,55,56,57,97,98,99,100,101,102]⟩:ByteArray)[c.toNat % 16]'hh=AX (c.toNat % 16):=λ_=>adP _ ae;have H2:=zq (λv1 w1 (h1:Bd b (.pointer ↑b) v1 (l++[92]) w1)=>iT b _ v1 _ (AX (c.toNat / 16)) w1 h1 (by simp;omega));have H3:=zq (λv1 w1 (h1:Bd b (.pointer ↑b) v1 (l++[92]++[AX (c.toNat / 16)]) w1)=>iT b _ v1 _ (AX (c.toNat % 16)) w1 h1 (by simp;omega));go_enter func285,ntmps285
 go_wp2_with (first|((with_reducible refine(H1.out w h).mono ?_);rintro y w1 ⟨rfl,v1,Oo,hB1,hS1⟩)|((with_reducible refine(H2.out _ _ Oo).mono ?_);rintro y w2 ⟨rfl,v2,hD2,hB2,hS2⟩)|((with_reducible refine(H3.out _ _ hD2).mono ?_);rintro y w3 ⟨rfl,v3,hD3,sK,Oq⟩))
 go_end0;have hT:=((Wrote.mk hB1 hS1).trans (Wrote.mk hB2 hS2)).trans (Wrote.mk sK Oq);exact⟨by trivial,v3,by simpa using hD3,hT.but,hT.QA⟩
theorem Pg{l:List UInt8}{k:Nat}(h:k<l.length):(l.take (k+1)).flatMap ny=(l.take k).flatMap ny++ny (l.getD k 0):=by rw[List.take_add_one,List.flatMap_append];simp[h,List.getD]
theorem QX(c:UInt8):(ny c).length<=3:=by unfold ny;split<;>simp
theorem flat_length:∀l:List UInt8,(l.flatMap ny).length<=3*l.length
 | []=>by simp
 | c::r=>by have h1:=QX c;have h2:=flat_length r;rw[aEp,aDd,aDh];omega
theorem Row.base{w:ak}{v:au}{l:List UInt8}{B:Nat}(h:Row w v l)(hv:∀g,v.ownBlock=some g->B<=g):w.ownsRow B 5 1 v l.length (ES l):=by
 refine⟨h.1,?_⟩;rcases h.2 with h2|⟨g,cap,cur,rfl,_,r⟩
 exact .inl h2;exact .inr ⟨g,cap,cur,rfl,hv g rfl,r⟩
theorem aHq(h:U:=by refine((But.aU (K:=[]) hE).trans sK λx hx=>.inr ?_).ev aj;rcases aDg.1 hx with h1|h1;omega;have:=(hv _ (aG.1 h1)).1;omega):U:=h
theorem aFB(h:U:=by
 go_wp2_with (first|((with_reducible refine HP.out.mono ?_);rintro y w3 ⟨rfl,rfl⟩)|((with_reducible refine HW.out.mono ?_);rintro y w3 ⟨rfl,v3,hD3,sK,Oq⟩))
 go_roundw
 case rel=>
  have hT:Wrote b' v wr v3 w3:=⟨sK,Oq⟩
  refine⟨k+1,v3,ae,by go_num,?_,hB.but sK (λad e hm=>?_),?_,aDf hgr sK.size,λh hh=>?_⟩;rw[Pg (by rw[HL.out];exact hlt),HC.out];have:=hD3;simpa[ny,hpl,aDA] using this;obtain rfl:=aDp e;rcases aDg.1 hm with h1|h1;have h2:g=b':=h1;omega;exact(hv _ (aG.1 h1)).2 rfl;exact aHq;rcases Oq h hh with h1|h1;exact hv h h1;have:=hE.size;omega
 case measure=>simp[intOf];omega):U:=h
theorem aa_(s:ByteArray)(w:ak)(hs:s.size<=1000):
  Calls ax 261 #[.string s] w λe w'=>e=.returned (.string ⟨(oh s.data.toList).toArray⟩)/\Ev w w':=by
 obtain⟨b,hb⟩:∃b,b=w.heap.size:=⟨_,rfl⟩
 obtain⟨w0,hw0⟩:∃w0,w0=w.alloc (.cells #[.pointer none,↑()] 244):=⟨_,rfl⟩
 have D0:Bd b (.pointer none) ↑() [] w0:=by rw[hw0,hb];exact⟨aFd w _,.inl rfl,Row.nil_ _⟩
 have aV:Ev w w0:=hw0▸Ev.alloc w _;have H1:=λw1 (h1:Bd b (.pointer none) (.slice none 0 0) [] w1)=>iT b _ _ [] 34 w1 h1 aj;simp only[show (((34:UInt8).toNat:Nat):Int)=34 from rfl,aDW]at H1;have H1:=zq H1;rw[hb]at H1;go_enter func261,ntmps261
 go_wp2_with (first|(rw[<-hw0];(with_reducible refine(H1.out w0 (hb▸D0)).mono ?_);rintro y w1 ⟨rfl,v1,Oo,hB1,hS1⟩;have hcv:=Lib.run_convert_string_bytes (P:=ax) w1 9 180 5 s underlying9 underlying180 underlying5))
 obtain⟨g,hg⟩:∃g,g=w1.heap.size:=⟨_,rfl⟩
 obtain⟨cap,hcap⟩:∃cap,cap=grownCap w1 s.size 0 5:=⟨_,rfl⟩
 obtain⟨n,hn⟩:∃n,n=s.size:=⟨_,rfl⟩
 have hle:n<=cap:=by rw[hn,hcap];exact grownCap_ge _ _ _ _
 have hmx:cap<=maxLen:=by rw[hcap];exact grownCap_le_maxLen _ _ _ _ (by unfold maxLen;omega)
 have kN:s.data.toList.length=n:=by rw[hn,aDK];rfl
 have hEc:Ev w1 (Lib.bytesWorld w1 5 s):=Lib.bytesWorld_below w1 5 s;have hBs:Bs (Lib.bytesWorld w1 5 s) ↑g n cap s.data.toList:=
  ⟨kN,hle,by unfold maxLen at hmx;omega,aj,λh0=>⟨g,0,rfl,by rw[hg,Lib.bytesWorld_size];omega,λi hi=>by rw[aDt,hg];exact Lib.bytesWorld_cell w1 5 s i ae⟩⟩
 have hg2:g<(Lib.bytesWorld w1 5 s).heap.size:=by rw[hg,Lib.bytesWorld_size];omega
 have hgw:w.heap.size<g:=by have h1:=hB1.size;have h2:=D0.lt;rw[hb]at h2;omega
 have aJ:Ev w w1:=((But.aU aV).trans hB1 (λx hx=>.inr (by simp[foot,Value.ownBlock]at hx;omega))).ev (K:=[]) aj;have BR:∀h,v1.ownBlock=some h->w.heap.size<=h/\h≠g:=λh hh=>⟨by
  rcases hS1 h hh with h1|h1;simp[Value.ownBlock]at h1;have:=aV.size;omega,by have:=Oo.2.2.lt hh;omega⟩
 rw[<-hg,<-hcap,<-hn];generalize Lib.bytesWorld w1 5 s=w2 at*;have hD2:=Oo.ev hEc;have dJ:=aJ.trans hEc;have HL:=zq kN;have HN:=zq hn;clear hcv hg hcap hS1 hB1 kN Oo aJ hEc D0 H1 hn;generalize hb2:w.heap.size=b' at*
 go_loopw [10] (λi wr=>∃(k:Nat) (v:au),k<=n/\i=↑k/\Bd b' (.pointer ↑b') v (34::(s.data.toList.take k).flatMap ny) wr/\Bs wr ↑g n cap s.data.toList/\Ev w wr/\g<wr.heap.size/\(∀h,v.ownBlock=some h->b'<=h/\h≠g)) (λi _=>n-(intOf i).toNat)
 case atStart=>exact⟨0,v1,aDl _,rfl,by simpa using hD2,hBs,dJ,hg2,BR⟩
 case round=>
  obtain⟨k,v,hk,rfl,hD,hB,hE,hgr,hv⟩:=hrel;have hfl:=flat_length (s.data.toList.take k);have hfk:(s.data.toList.take k).length<=k:=by simp;omega
  have uC:n<=1000:=by rw[HN.out];exact hs
  by_cases hlt:k<n;obtain⟨c,hc⟩:∃c,s.data.toList.getD k 0=c:=⟨_,rfl⟩
  have hcell:wr.cell? ⟨g,k,none⟩=some (.int .u8 (c.toNat:Int)):=by obtain⟨b2,off,e,_,hcl⟩:=hB.rd ae;simp only[aEK,Addr.mk.injEq,and_true]at e;obtain⟨rfl,rfl⟩:=e;have:=hcl k hlt;rw[hc,aDt]at this;exact this
  have HC:=zq hc;clear hc;have HP:=UB c wr
  cases hpl:yZ c
  rw[hpl]at HP;have HP:=zq HP;have HW:=zq (QW b' _ v _ c wr hD (by simp only[aDh];omega));exact aFB;rw[hpl]at HP;have HP:=zq HP;have HW:=zq (iT b' _ v _ c wr hD (by simp only[aDh];omega));exact aFB;obtain rfl:k=n:=ae;have HW:=iT b' _ v _ 34 wr hD (by simp only[aDh];omega);simp only[show (((34:UInt8).toNat:Nat):Int)=34 from rfl]at HW;have HW:=zq HW;have hq:34::(s.data.toList.take k).flatMap ny++[34]=oh s.data.toList:=by rw[aDj (by rw[HL.out];exact aC8 _)];rfl
  have HQ:=zq hq;have HS:=zq (λv4 w4 (h4:Bd b' (.pointer ↑b') v4 (oh s.data.toList) w4) (h5:∀h,v4.ownBlock=some h->b'<=h)=>Tryz.Builder_String_k b' b' (oh s.data.toList) w4 (.inr ⟨aC8 _,v4,h4.1,by have:=World.ownsRowF_of (h4.2.2.base h5);rw[Lib.byteCells_length];exact this,h4.ne⟩) (by simp[oh]));clear hq
  go_wp2_with (first|((with_reducible refine HW.out.mono ?_);rintro y w3 ⟨rfl,v3,hD3,sK,Oq⟩;rw[HQ.out]at hD3;have hv3:∀h,v3.ownBlock=some h->b'<=h:=(λh hh=>by rcases Oq h hh with h1|h1;exact(hv h h1).1;have:=hE.size;omega))|((with_reducible refine(HS.out _ _ hD3 hv3).mono ?_);rintro y w4 ⟨rfl,_,hb4,_⟩))
  go_ret;refine⟨rfl,?_⟩;have jW:Ev w w3:=by exact aHq
  rw[<-hb2]at hb4;exact Below.trans jW hb4
def Tab (w : World) : Prop := Lib.TabIs Tryz.prog w "internal/strconv.uint64pow10" .u64 Lib.pow10Tab
theorem Tab.ev{w w':ak}(h:Tab w)(hE:Ev w w'):Tab w':=by
 unfold Tab Lib.TabIs World.var? at h|-
 cases hg : Tryz.prog.globalNamed "internal/strconv.uint64pow10" with
 | none=>simp[hg]at h
 | some g=>
  simp only[hg,Option.bind_some]at h|-;have hlt:g<w.heap.size:=by rcases Nat.lt_or_ge g w.heap.size with h'|h';exact h';simp[Array.getElem?_eq_none h']at h
  rw[hE.block g hlt];exact h
theorem Ev.grow{w w':ak}(h:∃k os,w'=Sort.grow (w.drewN k) os):Ev w w':=by obtain⟨k,os,rfl⟩:=h;exact⟨rfl,rfl,rfl,by rw[Sort.size_grow];exact Nat.le_add_right _ _,λi hi=>Sort.heap_grow_old (w.drewN k) os hi⟩
def showV(k n:Int)(s:ByteArray):List UInt8:=if ed k n s then (if k=1 then Lib.itoa n else oh s.data.toList) else [63]
theorem XD{k n:Int}{s:ByteArray}(h:ed k n s=true):s.size<=40:=by
 unfold ed at h;split at h;obtain⟨⟨l⟩⟩:=s;have:l=[]:=by simpa using h
 subst this;decide;split at h;simp at h;exact h.2;cases h
theorem KW(k n:Int)(s:ByteArray)(w:ak)(hT:Tab w)(h0:-9223372036854775808<=n)(h1:n<=9223372036854775807):
  Calls ax 224 #[vv k n s] w λe w'=>e=.returned (.string ⟨(showV k n s).toArray⟩)/\Ev w w':=by
 have hR:=λw1=>qi k n s w1;obtain⟨w0,hw0⟩:∃w0,w0=w.alloc (.cells #[↑k,↑n,.string s] 42):=⟨_,rfl⟩
 have B:Boxed w.heap.size k n s w0:=hw0▸Boxed.new k n s w;have aV:Ev w w0:=hw0▸Ev.alloc w _
 cases hr:ed k n s
 ·have hv:showV k n s=[63]:=by simp[showV,hr]
  rw[hv];rw[hr]at hR;have HR:=zq hR;clear hR hr hv;go_enter func224,ntmps224
  go_wp2_with (first|(rw[<-hw0];(with_reducible refine(HR.out _).mono ?_);rintro y w1 ⟨rfl,aJ⟩))
  go_ret;exact⟨rfl,aV.trans aJ⟩
 have hsz:=XD hr;by_cases hk:k=1
 ·subst hk;have hv:showV 1 n s=Lib.itoa n:=by simp[showV,hr]
  rw[hv];rw[hr]at hR;have HR:=zq hR;have HF:=zq (λw1 (h:Tab w1)=>Tryz.strconv_FormatInt_10 n h0 h1 w1 h);clear hR hr hv;go_enter func224,ntmps224
  go_wp2_with (first|(rw[<-hw0];(with_reducible refine(HR.out _).mono ?_);rintro y w1 ⟨rfl,aJ⟩;have B1:=B.ev aJ;have c0:=B1.c0;have c1:=B1.c1;have IY:=(hT.ev aV).ev aJ)|((with_reducible refine(HF.out _ IY).mono ?_);rintro y w2 ⟨rfl,hg⟩;have dJ:=Ev.grow hg;clear hg))
  go_ret;exact⟨rfl,(aV.trans aJ).trans dJ⟩
 have hv:showV k n s=oh s.data.toList:=by simp[showV,hr,hk]
 rw[hv];rw[hr]at hR;have HR:=zq hR;have HF:=zq (λw1=>aa_ s w1 ae);clear hR hr hv;go_enter func224,ntmps224
 go_wp2_with (first|(rw[<-hw0];(with_reducible refine(HR.out _).mono ?_);rintro y w1 ⟨rfl,aJ⟩;have B1:=B.ev aJ;have c0:=B1.c0;have c2:=B1.c2)|((with_reducible refine(HF.out _).mono ?_);rintro y w2 ⟨rfl,dJ⟩))
 go_ret;exact⟨rfl,(aV.trans aJ).trans dJ⟩
theorem zM(b:Nat)(x v:au)(l:List UInt8)(s:ByteArray)(w:ak)(h:Bd b x v l w)(hl:l.length+s.size<=140737488355328):
  Calls ax 223 #[.pointer ↑b,.string s] w λe w'=>e=.returned (.tuple #[↑s.size,.nilIface])/\∃v',Bd b (.pointer ↑b) v' (l++s.data.toList) w'/\But (b::foot v) w w'/\dE w v v':=by
 have HC:=zq (BB b x v l w h);go_enter func223,ntmps223
 go_wp2_with (first|((with_reducible refine HC.out.mono ?_);rintro y w1 ⟨rfl,Oo,hB1⟩;have c1:=Oo.c1)|((show wpList _ _ _ (⟨some 14,_,_,_,_,_⟩::_) _ _);refine uw (o:=⟨some 14,_,_,_,_,_⟩) rfl (.tmp 12) (.tmp 13) rfl underlying180 underlying9 Tryz.Fg v l rfl Oo.2.2 s rfl hl ?_;intro v2 w2 hr2 hb2 hs2;obtain⟨A2,n2,cap2,rfl⟩:=hr2.form;have hnb:b∉foot v:=(λhm=>Oo.ne (aG.1 hm));have hh2:=hb2.heap Oo.1 hnb;have d1:w2.cell? ⟨b,1,none⟩=some v:=(by rw[aFf hh2];rfl);have f1:w2.frozen? ⟨b,1,none⟩=false:=Lib.frozen_of_heap hh2 1))
 go_ret2
 have sK:But [b] w2 (w2.setCell ⟨b,1,none⟩ (.slice A2 n2 cap2)):=But.setCell _ _ aj;have hne:=hr2.JS hh2 ai;refine⟨rfl,_,⟨fE 1 _ hh2,.inr rfl,hr2.but sK (λg hg hm=>hne (by simp at hm;exact hm▸hg))⟩,?_,?_⟩;refine(hB1.wide (K':=b::foot v) aj).then ((hb2.wide (K':=b::foot v) (λy hy=>.inl (aDc _ hy))).then (sK.wide aj));have hsz:=hB1.size;exact hs2.old hsz
end Go.Proofs.YtbgmhhfjkkfhpaaGreatDoor
