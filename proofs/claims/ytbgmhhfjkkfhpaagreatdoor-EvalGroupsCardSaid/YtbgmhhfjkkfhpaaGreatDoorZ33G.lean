import Derived.Test.YtbgmhhfjkkfhpaaGreatDoorZ32G
import Derived.Test.YtbgmhhfjkkfhpaaGreatDoorZ27G
set_option linter.unusedVariables false
set_option maxRecDepth 100000
set_option maxHeartbeats 64000000
namespace Go.Proofs.YtbgmhhfjkkfhpaaGreatDoor
open Go.RowKit
open Go.Lib renaming hid → zq
open Go renaming World → ak
open Go renaming Value → au
open Go.Proofs.Tryz renaming prog → ax
variable {U:Prop}
open Go.Proofs.Tryz
structure dK(α:Type) where
 A:Option Addr
 cap:Nat
 l:List α
def dK.v{α:Type}(x:dK α):au:=.slice x.A x.l.length x.cap
def dK.nil{α:Type}:dK α:=⟨none,0,[]⟩
def ac(a:Ag):List au:=[.string ⟨a.1.toArray⟩,.string ⟨a.2.1.toArray⟩,.string ⟨a.2.2.toArray⟩]
abbrev As:=Sl 3 ac
theorem zy:Enc 3 ac:=⟨ae,λ_=>rfl,λx u hu=>by
 simp[ac]at hu;rcases hu with rfl|rfl|rfl<;>rfl⟩
inductive PM where
 | mk (kind:Int) (name:By) (ex:dK M) (co lf rt:dK By) (ag:dK Ag) (A:Option Addr) (cap:Nat) (kids:List PM):PM
def PM.kind:PM->Int
 | .mk k _ _ _ _ _ _ _ _ _=>k
def PM.name:PM->By
 | .mk _ s _ _ _ _ _ _ _ _=>s
def PM.ex:PM->dK M
 | .mk _ _ x _ _ _ _ _ _ _=>x
def PM.co:PM->dK By
 | .mk _ _ _ x _ _ _ _ _ _=>x
def PM.lf:PM->dK By
 | .mk _ _ _ _ x _ _ _ _ _=>x
def PM.rt:PM->dK By
 | .mk _ _ _ _ _ x _ _ _ _=>x
def PM.ag:PM->dK Ag
 | .mk _ _ _ _ _ _ x _ _ _=>x
def PM.A:PM->Option Addr
 | .mk _ _ _ _ _ _ _ a _ _=>a
def PM.cap:PM->Nat
 | .mk _ _ _ _ _ _ _ _ c _=>c
def PM.kids:PM->List PM
 | .mk _ _ _ _ _ _ _ _ _ l=>l
mutual
def PM.p:PM->Pl
 | .mk k s ex co lf rt ag _ _ l=>.mk k s (ex.l.map M.t) co.l lf.l rt.l ag.l (PM.ps l)
def PM.ps:List PM->List Pl
 | []=>[]
 | m::l=>m.p::PM.ps l
end
theorem PM.aet:∀l:List PM,PM.ps l=l.map PM.p
 | []=>by simp[PM.ps]
 | m::l=>by simp[PM.ps,PM.aet l]
theorem PM.tu(m:PM):m.p=.mk m.kind m.name (m.ex.l.map M.t) m.co.l m.lf.l m.rt.l m.ag.l (m.kids.map PM.p):=by
 cases m
 simp[PM.p,PM.aet,PM.kind,PM.name,PM.ex,PM.co,PM.lf,PM.rt,PM.ag,PM.kids]
def PM.kv(m:PM):au:=.slice m.A m.kids.length m.cap
def pc(m:PM):List au:=[↑m.kind,↑m.name,m.ex.v,m.co.v,m.lf.v,m.rt.v,m.ag.v,m.kv]
def pv(m:PM):au:=.agg #[↑m.kind,↑m.name,m.ex.v,m.co.v,m.lf.v,m.rt.v,m.ag.v,m.kv]
theorem I4:Enc 8 pc:=⟨ae,λ_=>rfl,λx u hu=>by
 simp[pc,dK.v,PM.kv]at hu;rcases hu with rfl|rfl|rfl|rfl|rfl|rfl|rfl|rfl<;>rfl⟩
abbrev Ps:=Sl 8 pc
def XY(b0:Nat)(K:List Nat)(w:ak)(A:Option Addr):Prop:=∀ad,A=some ad->b0<=ad.block/\ad.block<w.heap.size/\ad.block∉K
theorem XY.none(b0:Nat)(K:List Nat)(w:ak):XY b0 K w none:=λ_ e=>by cases e
theorem XY.move{b0:Nat}{K K':List Nat}{w w':ak}{A:Option Addr}(h:XY b0 K w A)(hb:But K w w')(hs:∀x∈K',x∈K∨x<b0∨w.heap.size<=x):XY b0 K' w' A:=λad e=>by obtain⟨h1,h2,h3⟩:=h ad e;refine⟨h1,aDf h2 hb.size,λhm=>?_⟩;rcases hs _ hm with h4|h4|h4;exact h3 h4;omega;omega
theorem XY.low{b0 b1:Nat}{K:List Nat}{w:ak}{A:Option Addr}(h:XY b1 K w A)(hb:b0<=b1):XY b0 K w A:=λad e=>⟨aDr hb (h ad e).1,(h ad e).2⟩
structure bY{α:Type}(k:Nat)(enc:α->List au)(b0:Nat)(K:List Nat)(w:ak)(x:dK α):Prop where
 sl:Sl k enc w x.A x.l.length x.cap x.l
 WR:XY b0 K w x.A
theorem bY.move{α:Type}{k:Nat}{enc:α->List au}{b0:Nat}{K K':List Nat}{w w':ak}{x:dK α}(h:bY k enc b0 K w x)(hb:But K w w')(hs:∀y∈K',y∈K∨y<b0∨w.heap.size<=y):bY k enc b0 K' w' x:=
 ⟨h.sl.but hb λad e=>(h.WR ad e).2.2,h.WR.move hb hs⟩
theorem bY.low{α:Type}{k:Nat}{enc:α->List au}{b0 b1:Nat}{K:List Nat}{w:ak}{x:dK α}(h:bY k enc b1 K w x)(hb:b0<=b1):bY k enc b0 K w x:=⟨h.sl,h.WR.low hb⟩
theorem bY.nil{α:Type}(k:Nat)(enc:α->List au)(b0:Nat)(K:List Nat)(w:ak):bY k enc b0 K w (dK.nil:dK α):=⟨Sl.nil_ w,XY.none _ _ _⟩
inductive Qx(b0:Nat)(K:List Nat)(w:ak):PM->Prop
 | mk {kind:Int} {name:By} {ex:dK M} {co lf rt:dK By} {ag:dK Ag} {A:Option Addr} {cap:Nat} {kids:List PM}:bY 4 ec b0 K w ex->(∀e∈ex.l,Lx b0 K w e)->bY 1 sc b0 K w co->bY 1 sc b0 K w lf->bY 1 sc b0 K w rt->bY 3 ac b0 K w ag->
   bY 8 pc b0 K w ⟨A,cap,kids⟩->(∀k∈kids,Qx b0 K w k)->Qx b0 K w (.mk kind name ex co lf rt ag A cap kids)
theorem Qx.at{b0:Nat}{K:List Nat}{w:ak}{m:PM}(h:Qx b0 K w m):bY 4 ec b0 K w m.ex/\(∀e∈m.ex.l,Lx b0 K w e)/\bY 1 sc b0 K w m.co/\bY 1 sc b0 K w m.lf/\bY 1 sc b0 K w m.rt/\bY 3 ac b0 K w m.ag/\bY 8 pc b0 K w ⟨m.A,m.cap,m.kids⟩/\∀k∈m.kids,Qx b0 K w k:=by
 cases h with
 | mk h1 h2 h3 h4 h5 h6 h7 h8=>exact⟨h1,h2,h3,h4,h5,h6,h7,h8⟩
theorem Qx.kid{b0:Nat}{K:List Nat}{w:ak}{m:PM}(h:Qx b0 K w m):∀k∈m.kids,Qx b0 K w k:=h.at.2.2.2.2.2.2.2
theorem Qx.ps{b0:Nat}{K:List Nat}{w:ak}{m:PM}(h:Qx b0 K w m):Ps w m.A m.kids.length m.cap m.kids:=h.at.2.2.2.2.2.2.1.sl
theorem Qx.move{b0:Nat}{K K':List Nat}{w w':ak}{m:PM}(h:Qx b0 K w m)(hb:But K w w')(hs:∀x∈K',x∈K∨x<b0∨w.heap.size<=x):Qx b0 K' w' m:=by
 induction h with
 | mk h1 h2 h3 h4 h5 h6 h7 h8 ih=>
  exact .mk (h1.move hb hs) (λe he=>(h2 e he).move hb hs) (h3.move hb hs) (h4.move hb hs) (h5.move hb hs) (h6.move hb hs) (h7.move hb hs) ih
theorem Qx.ev{b0:Nat}{K:List Nat}{w w':ak}{m:PM}(h:Qx b0 K w m)(hE:Ev w w'):Qx b0 K w' m:=h.move (But.aU hE) λ_ hx=>.inl hx
theorem Qx.low{b0 b1:Nat}{K:List Nat}{w:ak}{m:PM}(h:Qx b1 K w m)(hb:b0<=b1):Qx b0 K w m:=by
 induction h with
 | mk h1 h2 h3 h4 h5 h6 h7 h8 ih=>exact .mk (h1.low hb) (λe he=>(h2 e he).low hb) (h3.low hb) (h4.low hb) (h5.low hb) (h6.low hb) (h7.low hb) ih
theorem Qx.less{b0:Nat}{K K':List Nat}{w:ak}{m:PM}(h:Qx b0 K w m)(hs:∀x∈K',x∈K∨x<b0∨w.heap.size<=x):Qx b0 K' w m:=h.move (But.refl _ _) hs
def zA:PM:=.mk 0 [] .nil .nil .nil .nil .nil none 0 []
theorem vZ:zA.p=uN:=by rw[PM.tu];rfl
theorem Qx.zero(b0:Nat)(K:List Nat)(w:ak):Qx b0 K w zA:=
 .mk (bY.nil ..) (λ_ h=>by cases h) (bY.nil ..) (bY.nil ..) (bY.nil ..) (bY.nil ..) (bY.nil ..) (λ_ h=>by cases h)
theorem Ps.cell{w:ak}{b off n cap:Nat}{l:List PM}(h:Ps w ↑(b,off) n cap l){i:Nat}{x:PM}(hx:l[i]?=some x):
  w.cell? ⟨b,off+i*8,none⟩=some ↑x.kind/\w.cell? ⟨b,off+i*8+1,none⟩=some ↑x.name/\w.cell? ⟨b,off+i*8+2,none⟩=some x.ex.v/\w.cell? ⟨b,off+i*8+3,none⟩=some x.co.v/\w.cell? ⟨b,off+i*8+4,none⟩=some x.lf.v/\w.cell? ⟨b,off+i*8+5,none⟩=some x.rt.v/\w.cell? ⟨b,off+i*8+6,none⟩=some x.ag.v/\w.cell? ⟨b,off+i*8+7,none⟩=some x.kv:=by
 have hi:=(aC6.1 hx).1;have hl:=h.len;obtain⟨b',off',e,hlt,hc⟩:=h.rd ae;injection e with e
 injection e with e1 e2 _
 subst e1 e2;exact⟨hc i x hx 0 _ rfl,hc i x hx 1 _ rfl,hc i x hx 2 _ rfl,hc i x hx 3 _ rfl,hc i x hx 4 _ rfl,hc i x hx 5 _ rfl,hc i x hx 6 _ rfl,hc i x hx 7 _ rfl⟩
mutual
def PM.dep:PM->Nat
 | .mk _ _ _ _ _ _ _ _ _ l=>PM.deps l+1
def PM.deps:List PM->Nat
 | []=>0
 | m::l=>max m.dep (PM.deps l)
end
theorem PM.DJ:∀(l:List PM) (k:PM),k∈l->k.dep<=PM.deps l
 | [],k,h=>by cases h
 | m::l,k,h=>by rcases aDg.1 h with rfl|h;simp[PM.deps];omega;have:=PM.DJ l k h;simp[PM.deps];omega
theorem PM.vC(m:PM):m.dep=PM.deps m.kids+1:=by cases m;rfl
theorem PM.uH{m k:PM}(h:k∈m.kids):k.dep<m.dep:=by have:=PM.DJ m.kids k h;rw[PM.vC m];omega
theorem Ow.sle{α:Type}{et:TypeId}{k:Nat}{enc:α->List au}{base:Nat}{w:ak}{v:au}{Z:List α}(E:Enc k enc)(h:Ow et k enc base w v Z):∃x:dK α,v=x.v/\x.l=Z/\bY k enc base [] w x:=by obtain⟨A,cap,hv,hS,hA⟩:=h.form E;exact⟨⟨A,cap,Z⟩,hv,rfl,hS,λad e=>⟨(hA ad e).2.1,(hA ad e).2.2.1,aj⟩⟩
instance ceA:Coe PM (Array au):=⟨λm=>#[.int .i64 m.kind,.string ⟨m.name.toArray⟩,.slice m.ex.A m.ex.l.length m.ex.cap,.slice m.co.A m.co.l.length m.co.cap,.slice m.lf.A m.lf.l.length m.lf.cap,.slice m.rt.A m.rt.l.length m.rt.cap,.slice m.ag.A m.ag.l.length m.ag.cap,.slice m.A m.kids.length m.cap]⟩
instance ceB(a b:PM):CoeDep (PM×PM) (a,b) (Array au):=⟨#[.int .i64 a.kind,.string ⟨a.name.toArray⟩,.slice a.ex.A a.ex.l.length a.ex.cap,.slice a.co.A a.co.l.length a.co.cap,.slice a.lf.A a.lf.l.length a.lf.cap,.slice a.rt.A a.rt.l.length a.rt.cap,.slice a.ag.A a.ag.l.length a.ag.cap,.slice a.A a.kids.length a.cap,.int .i64 b.kind,.string ⟨b.name.toArray⟩,.slice b.ex.A b.ex.l.length b.ex.cap,.slice b.co.A b.co.l.length b.co.cap,.slice b.lf.A b.lf.l.length b.lf.cap,.slice b.rt.A b.rt.l.length b.rt.cap,.slice b.ag.A b.ag.l.length b.ag.cap,.slice b.A b.kids.length b.cap]⟩
theorem rD:Enc 2 jY:=⟨ae,λ_=>rfl,λx u hu=>by
 simp[jY]at hu;rcases hu with rfl|rfl<;>rfl⟩
theorem Cs.tC{w:ak}{A:Option Addr}{n cap:Nat}{l:List C}(h:Cs w A n cap l){i:Nat}{c:C}(hc:l[i]?=some c):∃b off,A=some ⟨b,off,none⟩/\w.cell? ⟨b,off+i*2,none⟩=some (.string c.1)/\w.cell? ⟨b,off+i*2+1,none⟩=some (.int .i64 c.2):=by have hi:=(aC6.1 hc).1;have hl:=h.len;obtain⟨b,off,e,_,hcell⟩:=h.rd ae;exact⟨b,off,e,hcell i c hc 0 _ rfl,hcell i c hc 1 _ rfl⟩
structure CR where
 cols:List C
 why:Int
 name:ByteArray
def CR.zero:CR:=⟨[],0,⟨#[]⟩⟩
def CR.fail(r:CR)(why:Int)(nm:ByteArray):CR:=if r.why=0 then ⟨r.cols,why,nm⟩ else r
def gQ(l:List C)(s:ByteArray):Int:=match gZ l s with
 | some i=>(l.getD i (⟨#[]⟩,0)).2
 | none=>0
def CR.find(r:CR)(l:List C)(s:ByteArray):CR:=if (gZ l s).isSome then r else r.fail 20 s
def CR.kind(r:CR)(l:List C)(e:T):CR:=if (xType l e).2=0 then r else r.fail (xType l e).2 ⟨#[]⟩
def CR.limit(r:CR):CR:=if 6<r.cols.length then r.fail 23 ⟨#[]⟩ else r
def CR.add(r:CR)(nm:ByteArray)(k:Int):CR:=let r1:=if (gZ r.cols nm).isSome then r.fail 21 nm else r;⟨r1.cols++[(nm,k)],r1.why,r1.name⟩
structure iW(gr base:Nat)(r:CR)(v:au)(w:ak):Prop where
 box:Bx 93 gr #[v,↑r.why,.string r.name] w
 own:Ow 82 2 jY base w v r.cols
 gf:gr∉foot v
theorem iW.ev{gr base:Nat}{r:CR}{v:au}{w w':ak}(h:iW gr base r v w)(hE:Ev w w'):iW gr base r v w':=⟨h.box.ev hE,h.own.ev hE,h.gf⟩
theorem CR.kF(r:CR)(why:Int)(nm:ByteArray):(r.fail why nm).cols=r.cols:=by unfold CR.fail;split<;>rfl
theorem uP(gr base:Nat)(r:CR)(v:au)(why:Int)(nm:ByteArray)(w:ak)(h:iW gr base r v w):
  Calls ax 131 #[.pointer ↑gr,↑why,.string nm] w λe w'=>e=.returned (.tuple #[])/\iW gr base (r.fail why nm) v w'/\But [gr] w w':=by
 obtain⟨⟨c0,c1,c2⟩,f0,f1,f2⟩:=h.box.three;have H:=zq h;clear h;by_cases hw:r.why=0
 ·have hO:r.fail why nm=⟨r.cols,why,nm⟩:=by unfold CR.fail;rw[if_pos hw]
  rw[hO];have h':(r.why==0)=true:=by simp[hw]
  go_enter func131,ntmps131;go_wp2;(try simp only[Exit.inBlock,Exit.then]);go_end0;have hb:But [gr] w ((w.setCell ⟨gr,1,none⟩ ↑why).setCell ⟨gr,2,none⟩ (.string nm)):=(But.setCell ⟨gr,1,none⟩ _ aj).then (But.setCell ⟨gr,2,none⟩ _ aj);refine⟨rfl,⟨?_,H.out.own.but hb (λg hg=>by simp;intro e;exact H.out.gf (aG.2 (e▸hg))),H.out.gf⟩,hb⟩;have:=(H.out.box.set 1 ↑why).set 2 (.string nm);simpa using this
 have h':(r.why==0)=false:=aC7.2 hw;have hO:r.fail why nm=r:=by unfold CR.fail;rw[if_neg hw]
 rw[hO];go_enter func131,ntmps131;go_wp2;go_end0;exact⟨rfl,H.out,But.refl _ _⟩
theorem ZP(gr base:Nat)(r:CR)(v:au)(l:List C)(A:Option Addr)(n cap:Nat)(s:ByteArray)(w:ak)(h:iW gr base r v w)(hC:Cs w A n cap l):
  Calls ax 135 #[.pointer ↑gr,.slice A n cap,.string s] w λe w'=>e=.returned (.int .i64 (gQ l s))/\iW gr base (r.find l s) v w'/\But [gr] w w':=by
 have HF:=zq (yS (l:=l) s w hC);have hle:=hC.le;have hmx:=hC.max;have H:=zq h;have HFL:=zq (λw1 (hE:Ev w w1)=>uP gr base r v 20 s w1 (h.ev hE));unfold gQ CR.find
 cases hf:gZ l s with
 | none=>
  rw[hf]at HF;simp only[foundAt,Option.isSome_none,aDq,aDU]at HF|-;clear h hC hf;go_enter func135,ntmps135
  go_wp2_with (first
   | ((with_reducible refine(HF.out).mono ?_);rintro e w1 ⟨rfl,aJ⟩;have E1:=zq aJ;clear aJ)
   | ((with_reducible refine(HFL.out _ E1.out).mono ?_);rintro e w2 ⟨rfl,hR,hB⟩))
  go_ret;exact⟨rfl,hR,(But.aU E1.out).then hB⟩
 | some i=>
  rw[hf]at HF;simp only[foundAt,Option.isSome_some,aDL]at HF|-;have WA:i<l.length:=by unfold gZ at hf;exact(aD6.1 hf).1
  have hin:i<n:=by rw[<-hC.len];exact WA
  obtain⟨c,hc⟩:=hC.at hin;have hgd:(l.getD i (⟨#[]⟩,0)).2=c.2:=by rw[aEx,hc];rfl
  rw[hgd];have Oa:=zq (λw1 (hE:Ev w w1)=>Cs.tC (hC.ev hE) hc);obtain⟨b,off,hA,hb,_⟩:=hC.rd ae;subst hA;have i1:(0:Int)<=(i:Int):=ae;have i2:(i:Int)<(n:Int):=ae;clear h hC hf hc hgd;go_enter func135,ntmps135
  go_wp2_with (first
   | ((with_reducible refine(HF.out).mono ?_);rintro e w1 ⟨rfl,aJ⟩;have E1:=zq aJ;obtain⟨b',off',e',k0,k1⟩:=Oa.out _ aJ;injection e' with e';injection e' with e1 e2 _;subst e1 e2;clear aJ))
  go_ret;exact⟨rfl,H.out.ev E1.out,But.aU E1.out⟩
theorem U9(gr base:Nat)(r:CR)(A:Option Addr)(n cap:Nat)(w:ak)(h:iW gr base r (.slice A n cap) w):
  Calls ax 134 #[.pointer ↑gr] w λe w'=>e=.returned (.tuple #[])/\iW gr base r.limit (.slice A n cap) w'/\But [gr] w w':=by
 obtain⟨⟨c0,c1,c2⟩,f0,f1,f2⟩:=h.box.three;have hn:n=r.cols.length:=by obtain⟨A2,cap2,hv,_⟩:=h.own.form rD;injection hv with _ h2 _
 have H:=zq h;have HFL:=zq (uP gr base r (.slice A n cap) 23 ⟨#[]⟩ w h);unfold CR.limit;rw[<-hn];clear h hn;by_cases hl:6<n
 ·rw[if_pos hl];have i1:(6:Int)<(n:Int):=ae;go_enter func134,ntmps134
  go_wp2_with (first
   | ((with_reducible refine(HFL.out).mono ?_);rintro e w2 ⟨rfl,hR,hB⟩))
  go_end0;exact⟨rfl,hR,hB⟩
 rw[if_neg hl];have i1:¬((6:Int)<(n:Int)):=ae;go_enter func134,ntmps134;go_wp2;go_end0;exact⟨rfl,H.out,But.refl _ _⟩
def wu(l:List By)(s:ByteArray):Bool:=l.any λx=>s.toList==x
theorem abB{l:List By}{s:ByteArray}{k:Nat}{x:By}(h:wu (l.take k) s=false)(hx:l[k]?=some x)(hne:(s.toList==x)=false):wu (l.take (k+1)) s=false:=by obtain⟨hk,rfl⟩:=aC6.1 hx;unfold wu at h|-;rw[aDi hk,List.any_append,h];simpa using hne
theorem aeu{l:List By}{s:ByteArray}{k:Nat}{x:By}(hx:l[k]?=some x)(he:(s.toList==x)=true):wu l s=true:=aEj.2 ⟨x,aDb hx,he⟩
def CR.once(r:CR)(ahead:List By)(s:ByteArray):CR:=if wu ahead s then r.fail 21 s else r
theorem Ss.PO{w:ak}{A:Option Addr}{n cap:Nat}{l:List By}(h:Ss w A n cap l){i:Nat}{x:By}(hx:l[i]?=some x):∃b off,A=some ⟨b,off,none⟩/\w.cell? ⟨b,off+i,none⟩=some ↑x:=by have hi:=(aC6.1 hx).1;have hl:=h.len;obtain⟨b,off,e,_,hc⟩:=h.rd ae;have:=hc i x hx 0 _ rfl;rw[aED,aDw]at this;exact⟨b,off,e,this⟩
theorem U_(l:List By)(A:Option Addr)(n cap:Nat)(s:ByteArray)(w:ak)(h:Ss w A n cap l):
  Calls ax 86 #[.slice A n cap,.string s] w λe w'=>∃i:Int,e=.returned ↑i/\decide (0<=i)=wu l s/\Ev w w':=by
 have hn:=h.le;have hm:=h.max;have HL:=zq h.len;have H:=zq h;clear h;go_enter func86,ntmps86;go_wp2
 go_loopw [8] (λi wr=>∃k:Nat,k<=n/\i=↑k/\Hid (wu (l.take k) s=false)/\Hid (Ev w wr)) (λi _=>n-(intOf i).toNat)
 case atStart=>exact⟨0,aDl _,rfl,zq rfl,zq aS⟩
 case round=>
  obtain⟨k,hk,rfl,HT,HE⟩:=hrel;by_cases hlt:k<n
  ·obtain⟨x,hx⟩:=H.out.at hlt;obtain⟨b,off,rfl,c0⟩:=Ss.PO (H.out.ev HE.out) hx;have HX:=zq hx;have i1:(0:Int)<=(k:Int):=ae;have i2:(k:Int)<(n:Int):=ae;clear hx
   cases ht:(s.toList==x)
   ·have HF:=zq (abB HT.out HX.out ht);go_wp2;go_roundw
    case rel=>exact⟨k+1,ae,by go_num,HF,HE⟩
    case measure=>simp[intOf];omega
   have HF:=zq (aeu HX.out ht);go_wp2;go_ret;exact⟨(k:Int),rfl,by rw[HF.out];simp,HE.out⟩
  obtain rfl:k=n:=ae;have HF:Hid (wu l s=false):=zq (by have:=HT.out;rwa [aDj (by rw[HL.out];exact aC8 _)]at this);go_wp2;go_ret;exact⟨-1,rfl,by rw[HF.out];rfl,HE.out⟩
theorem L6(l:List By)(A:Option Addr)(n cap:Nat)(s:ByteArray)(w:ak)(h:Ss w A n cap l):
  Calls ax 44 #[.slice A n cap,.string s] w λe w'=>e=.returned (.bool (wu l s))/\Ev w w':=by
 have HI:=zq (U_ l A n cap s w h);clear h;go_enter func44,ntmps44
 go_wp2_with (first|((with_reducible refine(HI.out).mono ?_);rintro e w1 ⟨i,rfl,hi,aJ⟩;have HD:=zq hi;clear hi))
 go_ret;exact⟨by rw[<-HD.out];rfl,aJ⟩
theorem Tryz.Rn:(Tryz.prog.info? 82).map (λi=>(i.zero,i.size,i.bytes))=some (some (.agg #[.string ⟨#[]⟩,.int .i64 0]),2,24):=ah
theorem iW.grow{gr base:Nat}{r:CR}{v v2:au}{c:C}{w wq w3:ak}(h:iW gr base r v w)(hE:Ev w wq)(hA:uG 82 2 jY base wq v (r.cols++[c]) v2 w3):
  iW gr base ⟨r.cols++[c],r.why,r.name⟩ v2 (w3.setCell ⟨gr,0,none⟩ v2)/\But (gr::foot v) w (w3.setCell ⟨gr,0,none⟩ v2)/\dE w v v2:=by
 obtain⟨ho,hb,hs⟩:=hA;have hB:=(h.box.ev hE).but hb h.gf;have hlt:=h.box.lt;have hbS:But [gr] w3 (w3.setCell ⟨gr,0,none⟩ v2):=But.setCell _ _ aj;have hg2:gr∉foot v2:=λhm=>by rcases hs gr (aG.1 hm) with h1|h1;exact h.gf (aG.2 h1);have:=hE.size;omega
 refine⟨⟨?_,ho.but hbS λg hg=>by simp;intro e;exact hg2 (aG.2 (e▸hg)),hg2⟩,?_,λg hg=>?_⟩;have:=hB.set 0 v2;simpa using this;exact((But.aU hE).then (hb.wide λk hk=>.inl (aDc _ hk))).then (hbS.wide λk hk=>.inl (by simp at hk;subst hk;exact aC' ..));rcases hs g hg with h1|h1;exact .inl h1;exact .inr (aDr hE.size h1)
theorem iW.after{gr base:Nat}{r:CR}{v v2:au}{Z:List C}{w wq w3:ak}(h:iW gr base r v w)(hE:Ev w wq)(hA:uG 82 2 jY base wq v Z v2 w3):Bx 93 gr #[v,↑r.why,.string r.name] w3:=(h.box.ev hE).but hA.2.1 h.gf
def L8(gr base:Nat)(r:CR)(v:au)(w:ak)(e:Ending)(w':ak):Prop:=e=.returned (.tuple #[])/\∃v',iW gr base r v' w'/\But (gr::foot v) w w'/\dE w v v'
theorem iW.form{gr base:Nat}{r:CR}{v:au}{w:ak}(h:iW gr base r v w):∃A cap,v=.slice A r.cols.length cap/\Cs w A r.cols.length cap r.cols:=by obtain⟨A,cap,hv,hS,_⟩:=h.own.form rD;exact⟨A,cap,hv,hS⟩
theorem aev(gr base:Nat)(r:CR)(v:au)(nm:ByteArray)(k:Int)(w:ak)(h:iW gr base r v w)(hl:r.cols.length<=100000)(hb:base<=w.heap.size):
  Calls ax 133 #[.pointer ↑gr,.string nm,↑k] w (L8 gr base (r.add nm k) v w):=by
 obtain⟨A,cap,rfl,hC⟩:=h.form;have HF:=zq (yS (l:=r.cols) nm w hC);have hle:=hC.le;have hmx:=hC.max;have H:=zq h;have HFL:=zq (λw1 (hE:Ev w w1)=>uP gr base r (.slice A r.cols.length cap) 21 nm w1 (h.ev hE));obtain⟨⟨c0,c1,c2⟩,f0,f1,f2⟩:=h.box.three;unfold CR.add L8;have HFC:=zq (CR.kF r 21 nm);obtain⟨nl,hnl⟩:∃nl,nl=r.cols.length:=⟨_,rfl⟩
 have oU:=zq hnl;rw[<-hnl]at hl hle HF H HFL c0|-;clear h hC hnl
 cases hf:(gZ r.cols nm).isSome
 ·rw[hf]at HF;simp only[aDq,aDU];clear hf HFL;go_enter func133,ntmps133
  go_wp2_with (first
   | ((with_reducible refine(HF.out).mono ?_);rintro e w1 ⟨rfl,aJ⟩;have E1:=zq aJ;have HW:=zq (H.out.ev aJ);clear c0 c1 c2 f0 f1 f2;obtain⟨⟨c0,c1,c2⟩,f0,f1,f2⟩:=HW.out.box.three;clear aJ)
   | ((show wpList _ _ _ (⟨some 30,_,_,_,_,_⟩::_) _ _);refine aQ (o:=⟨some 30,_,_,_,_,_⟩) rfl 38 (.tmp 25) (.tmp 29) rfl rD underlying38 Tryz.Rn rfl rfl (HW.out.own.ev aC) (some ⟨_,0,none⟩) 1 1 [(nm,k)] rfl (Sl.one (et:=82) rD _ (nm,k) _ rfl) (by rw[<-oU.out];simp;omega) (by rw[<-oU.out];simp;omega) (by have:=E1.out.size;simp;omega) ?_;intro v2 w3 iq;obtain⟨A2,cap2,rfl,zB,zC⟩:=iq.1.form rD;clear zB zC;generalize qX:List.length (_++[(nm,k)])=nn at iq|-;clear qX;obtain⟨⟨k0,k1,k2⟩,g0,g1,g2⟩:=(HW.out.after aC iq).three;have HG:=zq (HW.out.grow aC iq);clear iq))
  go_end0;exact⟨rfl,_,HG.out.1,(But.aU E1.out).then HG.out.2.1,λg hg=>(HG.out.2.2 g hg).imp_right λh=>aDr E1.out.size h⟩
 rw[hf]at HF;simp only[aDL];clear hf;obtain⟨R1,hR1⟩:∃R1,R1=r.fail 21 nm:=⟨_,rfl⟩
 rw[<-hR1]at HFL HFC|-;have hRc:Hid (R1.cols.length=nl):=zq (by rw[HFC.out,oU.out]);clear hR1;go_enter func133,ntmps133
 go_wp2_with (first
  | ((with_reducible refine(HF.out).mono ?_);rintro e w1 ⟨rfl,aJ⟩;have E1:=zq aJ;clear c0 c1 c2 f0 f1 f2;obtain⟨⟨c0,c1,c2⟩,f0,f1,f2⟩:=(H.out.ev aJ).box.three;clear aJ)
  | ((with_reducible refine(HFL.out _ E1.out).mono ?_);rintro e w2 ⟨rfl,hR,hB⟩;have HW:=zq hR;have HB:=zq hB;clear c0 c1 c2 f0 f1 f2;obtain⟨⟨c0,c1,c2⟩,f0,f1,f2⟩:=HW.out.box.three;clear hR hB)
  | ((show wpList _ _ _ (⟨some 30,_,_,_,_,_⟩::_) _ _);refine aQ (o:=⟨some 30,_,_,_,_,_⟩) rfl 38 (.tmp 25) (.tmp 29) rfl rD underlying38 Tryz.Rn rfl rfl (HW.out.own.ev aC) (some ⟨_,0,none⟩) 1 1 [(nm,k)] rfl (Sl.one (et:=82) rD _ (nm,k) _ rfl) (by rw[hRc.out];simp;omega) (by rw[hRc.out];simp;omega) (by have:=E1.out.size;have:=HB.out.size;simp;omega) ?_;intro v2 w3 iq;obtain⟨A2,cap2,rfl,zB,zC⟩:=iq.1.form rD;clear zB zC;generalize qX:List.length (_++[(nm,k)])=nn at iq|-;clear qX;obtain⟨⟨k0,k1,k2⟩,g0,g1,g2⟩:=(HW.out.after aC iq).three;have HG:=zq (HW.out.grow aC iq);clear iq))
 go_end0;refine⟨rfl,_,HG.out.1,((But.aU E1.out).then (HB.out.wide λk hk=>.inl (by simp at hk;subst hk;exact aC' ..))).then HG.out.2.1,λg hg=>(HG.out.2.2 g hg).imp_right λh=>aDr (aDr E1.out.size HB.out.size) h⟩
def CR.of(l:List C):CR:=⟨l,0,⟨#[]⟩⟩
def CR.agg(r:CR)(kid:List C)(a:Ag):CR:=
 if a.2.1==lG then (let r2:=(r.add (dV a.1) 1).find kid (dV a.2.2);if gQ kid (dV a.2.2)=1 then r2 else r2.fail 22 (dV a.2.2))
 else if a.2.1==lY||a.2.1==lZ then (r.add (dV a.1) (gQ kid (dV a.2.2))).find kid (dV a.2.2)
 else r.add (dV a.1) 1
structure DM where
 name:By
 A:Option Addr
 cap:Nat
 cols:List C
def dc(d:DM):List au:=[↑d.name,.slice d.A d.cols.length d.cap]
theorem ahT:Enc 2 dc:=⟨ae,λ_=>rfl,λx u hu=>by
 simp[dc]at hu;rcases hu with rfl|rfl<;>rfl⟩
structure yH(w:ak)(A:Option Addr)(n cap:Nat)(l:List DM):Prop where
 sl:Sl 2 dc w A n cap l
 cols:∀d∈l,Cs w d.A d.cols.length d.cap d.cols
theorem yH.ev{w w':ak}{A:Option Addr}{n cap:Nat}{l:List DM}(h:yH w A n cap l)(hE:Ev w w'):yH w' A n cap l:=⟨h.sl.ev hE,λd hd=>(h.cols d hd).ev hE⟩
theorem yH.cell{w:ak}{A:Option Addr}{n cap:Nat}{l:List DM}(h:yH w A n cap l){i:Nat}{d:DM}(hd:l[i]?=some d):∃b off,A=some ⟨b,off,none⟩/\b<w.heap.size/\w.cell? ⟨b,off+i*2,none⟩=some ↑d.name/\w.cell? ⟨b,off+i*2+1,none⟩=some (.slice d.A d.cols.length d.cap):=by have hi:=(aC6.1 hd).1;have hl:=h.sl.len;obtain⟨b,off,e,hlt,hc⟩:=h.sl.rd ae;exact⟨b,off,e,hlt,hc i d hd 0 _ rfl,hc i d hd 1 _ rfl⟩
abbrev Df:=By×List C
def DM.df(d:DM):Df:=(d.name,d.cols)
def xM(D:List Df)(nm:By):CR:=match D.find? (λd=>d.1==nm) with
 | some d=>CR.of d.2
 | none=>CR.zero.fail 20 (dV nm)
def Va(e:T)(kid:List C):CR:=let r:=(CR.of kid).kind kid e;if (xType kid e).1=1 then r else r.fail 22 ⟨#[]⟩
def aox(kid:List C)(r:CR)(ec:T×By):CR:=(r.kind kid ec.1).add (dV ec.2) (xType kid ec.1).1
def PQ(es:List T)(cs:List By)(kid:List C):CR:=((es.zip cs).foldl (aox kid) CR.zero).limit
def aoy(lf rt:List By)(a b:List C)(r:CR)(i:Nat):CR:=
 let l:=dV (lf.getD i [])
 let m:=dV (rt.getD i [])
 let r4:=(((r.find a l).find b m).once (lf.take i) l).once (rt.take i) m
 if gQ a l=gQ b m then r4 else r4.fail 22 l
def ala(rt:List By)(r:CR)(c:C):CR:=if wu rt c.1 then r else r.add c.1 c.2
def aew(lf rt:List By)(a b:List C):CR:=if lf.length=rt.length/\lf.length≠0 then (b.foldl (ala rt) ((List.range lf.length).foldl (aoy lf rt a b) (CR.of a))).limit else (CR.of a).fail 23 ⟨#[]⟩
def xN(a b:List C)(r:CR)(i:Nat):CR:=if (a.getD i (⟨#[]⟩,0)).2=(b.getD i (⟨#[]⟩,0)).2 then r else r.fail 22 (a.getD i (⟨#[]⟩,0)).1
def Ar(a b:List C):CR:=if a.length=b.length then (List.range a.length).foldl (xN a b) (CR.of a) else (CR.of a).fail 23 ⟨#[]⟩
def xO(kid:List C)(r:CR)(nm:By):CR:=(r.find kid (dV nm)).add (dV nm) (gQ kid (dV nm))
def DW(lf:List By)(ag:List Ag)(kid:List C):CR:=
 let r:=ag.foldl (λr a=>r.agg kid a) (lf.foldl (xO kid) CR.zero)
 (if r.cols.length=0 then r.fail 23 ⟨#[]⟩ else r).limit
def Ro(D:List Df)(k:Int)(nm:By)(es:List T)(cs lf rt:List By)(ag:List Ag)(kids:List (List C)):CR:=
 if k=1 then xM D nm
 else if k=2 then Va (es.getD 0 dQ) (kids.getD 0 [])
 else if k=3 then PQ es cs (kids.getD 0 [])
 else if k=4 then aew lf rt (kids.getD 0 []) (kids.getD 1 [])
 else if k=5 then Ar (kids.getD 0 []) (kids.getD 1 [])
 else if k=6 then CR.of (kids.getD 0 [])
 else DW lf ag (kids.getD 0 [])
def zD(l:List CR):Option CR:=l.find? λr=>r.why !=0
mutual
def ckOf(D:List Df):Pl->CR
 | .mk k nm es cs lf rt ag l=>match zD (ckAll D l) with
  | some r=>r
  | none=>Ro D k nm es cs lf rt ag ((ckAll D l).map CR.cols)
def ckAll(D:List Df):List Pl->List CR
 | []=>[]
 | p::l=>ckOf D p::ckAll D l
end
theorem PR(D:List Df):∀l:List Pl,ckAll D l=l.map (ckOf D)
 | []=>by simp[ckAll]
 | p::l=>by simp[ckAll,PR D l]
theorem XZ{l:List CR}(h:∀r∈l,r.why=0):zD l=none:=by unfold zD;rw[List.find?_eq_none];intro r hr;simp[h r hr]
theorem abC{l:List CR}{k:Nat}{r:CR}(h0:∀x∈l.take k,x.why=0)(hr:l[k]?=some r)(hne:r.why≠0):zD l=some r:=by
 obtain⟨hk,hx⟩:=aC6.1 hr;have hl:l=l.take k++r::l.drop (k+1):=by rw[<-hx,aEQ,aDS]
 unfold zD;rw[hl,List.find?_append,show (l.take k).find? (λr=>r.why !=0)=none from by rw[List.find?_eq_none];intro x hx2;simp[h0 x hx2]];simp[hne]
theorem aex{l:List CR}(h:zD l=none):∀r∈l,r.why=0:=λr hr=>by unfold zD at h;rw[List.find?_eq_none]at h;simpa using h r hr
theorem abD{l:List CR}{r:CR}(h:zD l=some r):r.why≠0:=by unfold zD at h;have:=List.find?_some h;simpa using this
theorem CR.aey{r:CR}{why:Int}{nm:ByteArray}(hw:why≠0):(r.fail why nm).why≠0:=by unfold CR.fail;by_cases h:r.why=0<;>simp[h,hw]
theorem CR.wC(r:CR)(l:List C)(s:ByteArray):(r.find l s).cols=r.cols:=by unfold CR.find;split;rfl;exact CR.kF ..
theorem CR.PU(r:CR)(l:List C)(e:T):(r.kind l e).cols=r.cols:=by unfold CR.kind;split;rfl;exact CR.kF ..
theorem CR.Cm(r:CR):r.limit.cols=r.cols:=by unfold CR.limit;split;exact CR.kF ..;rfl
theorem CR.tH(r:CR)(nm:ByteArray)(k:Int):(r.add nm k).cols=r.cols++[(nm,k)]:=by unfold CR.add;simp only;split;rw[CR.kF];rfl
theorem CR.Gg{r:CR}:r.limit.why=0↔r.why=0/\r.cols.length<=6:=by unfold CR.limit;by_cases h:6<r.cols.length;rw[if_pos h];constructor;intro h2;exact absurd h2 (CR.aey ai);intro h2;omega;rw[if_neg h];constructor;intro h2;exact⟨h2,ae⟩;intro h2;exact h2.1
theorem CR.aez(r:CR)(kid:List C)(a:Ag):(r.agg kid a).cols.length=r.cols.length+1:=by unfold CR.agg;split;simp only;split;rw[CR.wC,CR.tH];simp;rw[CR.kF,CR.wC,CR.tH];simp;split;rw[CR.wC,CR.tH];simp;rw[CR.tH];simp
theorem Gh{α:Type}(f:CR->α->CR)(n:Nat)(hf:∀r x,(f r x).cols.length<=r.cols.length+n):∀(l:List α) (r:CR),(l.foldl f r).cols.length<=r.cols.length+l.length*n
 | [],r=>by simp
 | x::l,r=>by have h1:=Gh f n hf l (f r x);have h2:=hf r x;rw[aEw,aDh,aEv];omega
theorem L9{α:Type}{f:CR->α->CR}{r:CR}{l:List α}{k:Nat}{x:α}(hx:l[k]?=some x):(l.take (k+1)).foldl f r=f ((l.take k).foldl f r) x:=by obtain⟨hk,rfl⟩:=aC6.1 hx;rw[aDi hk,aEz];rfl
theorem Ib{f:CR->Nat->CR}{r:CR}(k:Nat):(List.range (k+1)).foldl f r=f ((List.range k).foldl f r) k:=by rw[List.range_succ,aEz];rfl
abbrev Rb(gr:Nat)(e:Er)(w:ak):Prop:=Bx 191 gr #[.int .i64 e.1,.int .i64 (e.2:Int)] w
theorem Bx.two{T:TypeId}{g:Nat}{w:ak}{v0 v1:au}(h:Bx T g #[v0,v1] w):(w.cell? ⟨g,0,none⟩=some v0/\w.cell? ⟨g,1,none⟩=some v1)/\(w.frozen? ⟨g,0,none⟩=false/\w.frozen? ⟨g,1,none⟩=false):=
 ⟨⟨h.cell 0,h.cell 1⟩,h.frozen 0,h.frozen 1⟩
def set2(g:Nat)(v0 v1:au)(w:ak):ak:=(w.setCell ⟨g,0,none⟩ v0).setCell ⟨g,1,none⟩ v1
theorem abI(g:Nat)(v0 v1:au)(w:ak):(w.setCell ⟨g,0,none⟩ v0).setCell ⟨g,1,none⟩ v1=set2 g v0 v1 w:=rfl
theorem aeC(g:Nat)(v0 v1:au)(w:ak):But [g] w (set2 g v0 v1 w):=(But.setCell ⟨g,0,none⟩ v0 aj).then (But.setCell ⟨g,1,none⟩ v1 aj)
theorem Bx.set2{T:TypeId}{g:Nat}{w:ak}{u0 u1:au}(h:Bx T g #[u0,u1] w)(v0 v1:au):Bx T g #[v0,v1] (set2 g v0 v1 w):=by have:=(h.set 0 v0).set 1 v1;rw[show (((#[u0,u1]:Array au).setIfInBounds 0 v0).setIfInBounds 1 v1)=#[v0,v1] by simp]at this;exact this
structure iL(gr:Nat)(e:Er)(w w':ak):Prop where
 bx:Rb gr e w'
 but:But [gr] w w'
theorem iL.then{gr:Nat}{e e':Er}{w w1 w2:ak}(h:iL gr e w w1)(k:iL gr e' w1 w2):iL gr e' w w2:=⟨k.bx,h.but.then k.but⟩
theorem iL.ev{gr:Nat}{e:Er}{w w1 w2:ak}(h:iL gr e w w1)(hE:Ev w1 w2):iL gr e w w2:=⟨h.bx.ev hE,h.but.then (But.aU hE)⟩
theorem iL.of{gr:Nat}{e:Er}{w w1:ak}(h:Rb gr e w)(hE:Ev w w1):iL gr e w w1:=⟨h.ev hE,But.aU hE⟩
theorem Jr(gr:Nat)(e:Er)(why:Int)(pos:Nat)(hy:why≠0)(w:ak)(hB:Rb gr e w):
  Calls ax 187 #[.pointer ↑gr,↑why,↑pos] w λr w'=>r=.returned (.tuple #[])/\iL gr (iy e (why,pos)) w w':=by
 obtain⟨⟨c0,c1⟩,f0,f1⟩:=hB.two;have HB:=zq hB;have hyb:(why==0)=false:=aC7.2 hy;clear hB;by_cases h:e.1=0
 ·have hO:iy e (why,pos)=(why,pos):=by unfold iy;simp[h,hy]
  rw[hO];have h':(e.1==0)=true:=by simp[h]
  go_enter func187,ntmps187;go_wp2;(try simp only[Exit.inBlock,Exit.then]);rw[abI];go_end0;exact⟨rfl,HB.out.set2 _ _,aeC _ _ _ _⟩
 have h':(e.1==0)=false:=aC7.2 h;have hO:iy e (why,pos)=e:=by unfold iy;simp[h]
 rw[hO];go_enter func187,ntmps187;go_wp2;go_end0;exact⟨rfl,HB.out,But.refl _ _⟩
theorem Rt(gr:Nat)(e:Er)(m:M)(w:ak)(hB:Rb gr e w):
  Calls ax 188 #[.pointer ↑gr,.agg ↑m] w λr w'=>r=.returned ↑m.s/\iL gr (iy e (bQ m.t)) w w':=by
 have hX:=Bx.new 186 ↑m w;have aV:=Ev.alloc w (.cells ↑m 186);have HN:=zq (λw1=>vP ⟨m.s.toArray⟩ w1);have hn:bQ m.t=if gU ⟨m.s.toArray⟩ then (0,0) else (20,m.pos):=by unfold bQ kZ dV;rw[M.DK,M.H6]
 rw[hn];have HX:=zq hX;have HE:=zq aV;have HB:=zq hB;obtain⟨⟨c0,c1,c2,c3,c4⟩,_⟩:=hX.five;generalize gU ⟨m.s.toArray⟩=q at*;clear hX aV hB hn
 cases q
 ·have HF:=zq (λw1 (hE:Ev w w1)=>Jr gr e 20 m.pos ai w1 (HB.out.ev hE));go_enter func188,ntmps188
  go_wp2_with (first
   | ((with_reducible refine(HN.out _).mono ?_);rintro r w1 ⟨rfl,aJ⟩;have jE:=zq (HE.out.trans aJ);clear c0 c1 c2 c3 c4;obtain⟨⟨c0,c1,c2,c3,c4⟩,_⟩:=(HX.out.ev aJ).five)
   | ((with_reducible refine(HF.out _ jE.out).mono ?_);rintro r w2 ⟨rfl,hR⟩;have HR:=zq hR;clear c0 c1 c2 c3 c4;obtain⟨⟨c0,c1,c2,c3,c4⟩,_⟩:=((HX.out.ev aJ).but hR.but (by simp;have:=HB.out.lt;omega)).five;clear hR))
  go_ret;exact⟨rfl,HR.out.bx,(But.aU jE.out).then HR.out.but⟩
 go_enter func188,ntmps188
 go_wp2_with (first
  | ((with_reducible refine(HN.out _).mono ?_);rintro r w1 ⟨rfl,aJ⟩;have jE:=zq (HE.out.trans aJ);clear c0 c1 c2 c3 c4;obtain⟨⟨c0,c1,c2,c3,c4⟩,_⟩:=(HX.out.ev aJ).five))
 go_ret;refine⟨rfl,?_⟩;rw[zt];exact iL.of HB.out jE.out
structure zG{α:Type}(et:TypeId)(k:Nat)(enc:α->List au)(w0:ak)(gr:Nat)(A:Option Addr)(n cap:Nat)(L:List α)(e:Er)(w:ak):Prop where
 own:Ow et k enc w0.heap.size w (.slice A n cap) L
 len:L.length=n
 rd:iL gr e w0 w
theorem zG.start{α:Type}(et:TypeId)(k:Nat)(enc:α->List au){w0:ak}{gr:Nat}{e:Er}(hB:Rb gr e w0):zG et k enc w0 gr none 0 0 ([]:List α) e w0:=⟨Ow.nil_ _,rfl,hB,But.refl _ _⟩
theorem zG.next{α:Type}{et:TypeId}{k:Nat}{enc:α->List au}(E:Enc k enc){w0 wr wq w2:ak}{gr n cap:Nat}{A:Option Addr}{L:List α}{e e':Er}{x:α}{v2:au}(h:zG et k enc w0 gr A n cap L e wr)(hr:iL gr e' wr wq)(hg:gr<w0.heap.size)(hA:uG et k enc w0.heap.size wq (.slice A n cap) (L++[x]) v2 w2):
  ∃A2 cap2,v2=.slice A2 (n+1) cap2/\zG et k enc w0 gr A2 (n+1) cap2 (L++[x]) e' w2:=by
 obtain⟨ho,hb,hs⟩:=hA;obtain⟨A2,cap2,rfl,qJ,I7⟩:=ho.form E;have hl:(L++[x]).length=n+1:=by rw[aDd,h.len];rfl
 rw[hl]at ho hs qJ I7|-;have hown:=h.own.but hr.but (λg hg'=>by simp;have:=(h.own.lt hg').1;omega);refine⟨A2,cap2,rfl,ho,hl,?_,?_⟩;exact hr.bx.but hb λhm=>by have:=(hown.lt (aG.1 hm)).1;omega
 exact(h.rd.but.then hr.but).trans hb λy hy=>.inr (hown.lt (aG.1 hy)).1
theorem zG.owq{α:Type}{et:TypeId}{k:Nat}{enc:α->List au}{w0 wr wq:ak}{gr n cap:Nat}{A:Option Addr}{L:List α}{e e':Er}(h:zG et k enc w0 gr A n cap L e wr)(hr:iL gr e' wr wq)(hg:gr<w0.heap.size):Ow et k enc w0.heap.size wq (.slice A n cap) L:=
 h.own.but hr.but (λg hg'=>by simp;have:=(h.own.lt hg').1;omega)
theorem zG.size{α:Type}{et:TypeId}{k:Nat}{enc:α->List au}{w0 wr wq:ak}{gr n cap:Nat}{A:Option Addr}{L:List α}{e e':Er}(h:zG et k enc w0 gr A n cap L e wr)(hr:iL gr e' wr wq):w0.heap.size<=wq.heap.size:=aDr h.rd.but.size hr.but.size
theorem aeE(gr:Nat)(e:Er)(l:List M)(A:Option Addr)(n cap b0:Nat)(w:ak)(hB:Rb gr e w)(h:Ms w A n cap l)(hr:XY b0 [gr] w A)(hn:n<=100000):
  Calls ax 192 #[.pointer ↑gr,.slice A n cap] w λr w'=>∃x:dK By,r=.returned x.v/\x.l=l.map M.s/\bY 1 sc w.heap.size [] w' x/\iL gr (iy e (aX (l.map λx=>bQ x.t))) w w':=by
 have hcl:=h.le;have hcm:=h.max;have HL:=zq h.len;have hgr:=hB.lt;have rE:=zq (zG.start 9 1 sc hB);have Px:=zq (λw1 (hb:But [gr] w w1)=>h.but hb λad e=>(hr ad e).2.2);have HRN:=zq (λm e w1 hB=>Rt gr e m w1 hB);clear hB h hr;go_enter func192,ntmps192;go_wp2
 go_loopw [5,10] (λav iv wr=>∃(A1:Option Addr) (cap1 k:Nat) (E:Er),av=.slice A1 k cap1/\iv=↑k/\k<=n/\Hid (E=(((l.take k).map λx=>bQ x.t).foldl iy e))/\Hid (zG 9 1 sc w gr A1 k cap1 ((l.take k).map M.s) E wr)) (λ_ iv _=>n-(intOf iv).toNat)
 case atStart=>exact⟨none,0,0,e,rfl,rfl,aDl _,zq rfl,rE⟩
 case round=>
  obtain⟨A1,cap1,k,E,rfl,rfl,hk,HEE,HS⟩:=hrel;by_cases hlt:k<n
  ·obtain⟨x,hx⟩:=(Px.out w (But.refl _ _)).at hlt;obtain⟨b,off,rfl,hb,c0,c1,c2,c3,c4⟩:=Ms.cell (Px.out wr HS.out.rd.but) hx;unfold M.kv at c3;have mr:Hid ((l.take (k+1)).map M.s=(l.take k).map M.s++[x.s]/\((l.take (k+1)).map λx=>bQ x.t).foldl iy e=iy E (bQ x.t)):=zq (by
    obtain⟨hk2,e1⟩:=aC6.1 hx;rw[aDi hk2,e1,aDk,aDk,aEz,<-HEE.out];exact⟨rfl,rfl⟩)
   have HN:=zq (HRN.out x E (wr.alloc (.cells ↑x 186)) (HS.out.rd.bx.ev aC));have wR:=zq HS.out.len;have i1:(0:Int)<=(k:Int):=ae;have i2:(k:Int)<(n:Int):=ae;clear hx
   go_wp2_with (first
    | ((with_reducible refine(HN.out).mono ?_);rintro r w1 ⟨rfl,hR⟩;have HR:=zq ((⟨hR.bx,(But.aU (Ev.alloc wr (.cells ↑x 186))).then hR.but⟩:iL gr _ wr w1).ev (Ev.alloc w1 (.cells #[↑x.s] 9)));clear hR)
    | ((show wpList _ _ _ (⟨some 19,_,_,_,_,_⟩::_) _ _);refine aQ (o:=⟨some 19,_,_,_,_,_⟩) rfl 31 (.tmp 14) (.tmp 18) rfl qU underlying31 Tryz.Rj rfl rfl (HS.out.owq HR.out hgr) ↑w1 1 1 [x.s] rfl (Sl.one (et:=9) qU w1 x.s _ rfl) (by rw[wR.out];simp;omega) (by rw[wR.out];simp;omega) (HS.out.size HR.out) ?_;intro v2 w2 iq;obtain⟨A2,cap2,rfl,ST2⟩:=HS.out.next qU HR.out hgr iq))
   go_roundw
   case rel=>exact⟨A2,cap2,k+1,_,rfl,by go_num,ae,zq mr.out.2.symm,zq (by rw[mr.out.1];exact ST2)⟩
   case measure=>simp[intOf];omega
  obtain rfl:k=n:=ae;have HF:Hid ((l.take k).map M.s=l.map M.s/\E=iy e (aX (l.map λx=>bQ x.t))):=zq (by
   have h1:=HEE.out;rw[aDj (by rw[HL.out];exact aC8 _)]at h1|-;exact⟨rfl,by rw[h1,jF]⟩)
  go_wp2;go_ret;obtain⟨x,hxv,lD,hxs⟩:=HS.out.own.sle qU;rw[hxv];exact⟨x,rfl,by rw[lD,HF.out.1],hxs,HF.out.2▸HS.out.rd⟩
def ZV(t:T):By:=if t.kind==1&&(decide (0<t.kids.length)&&bT (at_ t.kids 0)) then (at_ t.kids 0).s else []
theorem Vm(m:M):ZV m.t=if m.kind==1&&(decide (0<m.kids.length)&&bT (at_ (m.kids.map M.t) 0)) then (at_ (m.kids.map M.t) 0).s else []:=by unfold ZV;rw[M.xm,M.dO,aC_]
theorem aIo(h:U:=by go_enter func93,ntmps93;go_wp2;go_ret;exact⟨rfl,cO.out⟩):U:=h
theorem oG(m:M)(b0:Nat)(w:ak)(h:Lies b0 [] w m):
  Calls ax 93 #[.agg ↑m] w λe w'=>e=.returned (.string ⟨(ZV m.t).toArray⟩)/\Ev w w':=by
 have hB:=Bx.new 109 ↑m w;have aV:=Ev.alloc w (.cells ↑m 109);have fU:=h.ms;rw[Vm];have cO:=zq aV;obtain⟨⟨c0,c1,c2,c3,c4⟩,_⟩:=hB.five;clear hB h;generalize KF:m.kind=kd at*;generalize hmA:m.A=mA at*;generalize hkn:m.kids.length=kn at*;generalize hmc:m.cap=mc at*;generalize hLL:m.kids=L at*;clear KF hmA hmc hLL;by_cases hk:kd=1;subst hk
 cases L with
 | nil=>
  obtain rfl:kn=0:=by simpa using hkn.symm
  clear fU aV;exact aIo
 | cons x q=>
  obtain⟨k,rfl⟩:∃k,kn=k+1:=⟨q.length,by simpa using hkn.symm⟩
  have hcl:=fU.le;obtain⟨b,off,rfl,hb,d0,d1,d2,d3,d4⟩:=Ms.cell (fU.ev aV) (i:=0) (x:=x) rfl;simp only[aDH,aDw]at d0 d1 d2 d3 d4;rw[aDE (Nat.succ_pos k)];simp only[aDe,at_,aEO,oD,M.DK,aD_,aD'];clear fU aV hkn;by_cases hx:x.kind=2;rw[hx]at d0|-;exact aIo;have hxb:(x.kind==2)=false:=aC7.2 hx;rw[hxb];exact aIo
 have hkb:(kd==1)=false:=aC7.2 hk;rw[hkb];clear fU aV;exact aIo
theorem D6{A:Option Addr}{n cap:Nat}{l:List M}(w:ak)(h:Ms w A n cap l):
  Calls ax 161 #[.slice A n cap] w λe w'=>e=.returned (.bool ((l.map M.t).all bT))/\Ev w w':=by
 have hn:=h.le;have hm:=h.max;have HL:=zq h.len;have HLA:Hid ((l.map M.t).all bT=l.all λx=>bT x.t):=zq (by rw[aEy];rfl);rw[HLA.out];have H:=zq h;clear h;go_enter func161,ntmps161;go_wp2
 go_loopw [3] (λi wr=>∃k:Nat,k<=n/\i=↑k/\Hid ((l.take k).all (λx=>bT x.t)=true)/\Hid (Ev w wr)) (λi _=>n-(intOf i).toNat)
 case atStart=>exact⟨0,aDl _,rfl,zq aj,zq aS⟩
 case round=>
  obtain⟨k,hk,rfl,HT,HE⟩:=hrel;by_cases hlt:k<n
  ·obtain⟨x,hx⟩:=H.out.at hlt;obtain⟨b,off,rfl,hb,c0,c1,c2,c3,c4⟩:=Ms.cell (H.out.ev HE.out) hx;have HX:=zq hx;have i1:(0:Int)<=(k:Int):=ae;have i2:(k:Int)<(n:Int):=ae;clear hx;by_cases hq:x.kind=2
   ·rw[hq]at c0;go_wp2;go_roundw
    case rel=>exact⟨k+1,ae,by go_num,zq (by rw[qC HT.out HX.out,oD,hq];rfl),HE⟩
    case measure=>simp[intOf];omega
   go_wp2;go_ret;exact⟨by rw[all_false HX.out (by rw[oD];exact aC7.2 hq)];rfl,HE.out⟩
  exact aG3
def TJ(t:T):By×Er:=if kZ t.s then (t.s,(0,0)) else ([],(20,t.pos))
theorem D7(m:M)(w:ak)(hs:m.s.length<=1000000):
  Calls ax 94 #[.agg ↑m] w λe w'=>e=.returned (.tuple #[.string ⟨(TJ m.t).1.toArray⟩,.int .i64 (TJ m.t).2.1,.int .i64 ((TJ m.t).2.2:Int)])/\Ev w w':=by
 have hX:=Bx.new 109 ↑m w;have aV:=Ev.alloc w (.cells ↑m 109);have HN:=zq (λw1=>abp ⟨m.s.toArray⟩ w1 (by show m.s.length<=maxLen;unfold maxLen;omega));have hn:TJ m.t=if gU ⟨m.s.toArray⟩ then (m.s,(0,0)) else ([],(20,m.pos)):=by unfold TJ kZ dV;rw[M.DK,M.H6]
 rw[hn];have HX:=zq hX;have HE:=zq aV;obtain⟨⟨c0,c1,c2,c3,c4⟩,_⟩:=hX.five;generalize gU ⟨m.s.toArray⟩=q at*;clear hX aV hn
 cases q
 ·go_enter func94,ntmps94;go_upto_region 2 with (first
   | ((with_reducible refine(HN.out _).mono ?_);rintro r w1 ⟨rfl,aJ⟩;have jE:=zq (HE.out.trans aJ);clear c0 c1 c2 c3 c4;obtain⟨⟨c0,c1,c2,c3,c4⟩,_⟩:=(HX.out.ev aJ).five))
  go_quiet (fail)
  go_wp2
  go_ret3
  exact⟨rfl,jE.out.trans (Ev.drewN _ _)⟩
 go_enter func94,ntmps94
 go_wp2_with (first
  | ((with_reducible refine(HN.out _).mono ?_);rintro r w1 ⟨rfl,aJ⟩;have jE:=zq (HE.out.trans aJ);clear c0 c1 c2 c3 c4;obtain⟨⟨c0,c1,c2,c3,c4⟩,_⟩:=(HX.out.ev aJ).five))
 go_ret3
 exact⟨rfl,jE.out⟩
theorem But.Ec{K:List Nat}{w w':ak}(h:But K w w'){p:Addr}(hlt:p.block<w.heap.size)(hn:p.block∉K):w'.cell? p=w.cell? p:=World.cell?_of_block (h.block p.block hlt hn)
theorem aeR{b0 gr:Nat}{w:ak}{x:M}(h:Lies b0 [gr] w x){n:Nat}(hn:x.kids.length=n+2):∃b off x0 x1,x.A=some ⟨b,off,none⟩/\x.kids[0]?=some x0/\x.kids[1]?=some x1/\∀w1,But [gr] w w1->
  (w1.cell? ⟨b,off,none⟩=some ↑x0.kind/\w1.cell? ⟨b,off+1,none⟩=some ↑x0.s/\w1.cell? ⟨b,off+2,none⟩=some ↑x0.n/\w1.cell? ⟨b,off+3,none⟩=some (.slice x0.A x0.kids.length x0.cap)/\w1.cell? ⟨b,off+4,none⟩=some ↑x0.pos)/\
  (w1.cell? ⟨b,off+5,none⟩=some ↑x1.kind/\w1.cell? ⟨b,off+5+1,none⟩=some ↑x1.s/\w1.cell? ⟨b,off+5+2,none⟩=some ↑x1.n/\w1.cell? ⟨b,off+5+3,none⟩=some (.slice x1.A x1.kids.length x1.cap)/\w1.cell? ⟨b,off+5+4,none⟩=some ↑x1.pos):=by
 have fU:=h.ms;obtain⟨x0,hx0⟩:=fU.at (i:=0) ae;obtain⟨x1,hx1⟩:=fU.at (i:=1) ae;obtain⟨b,off,hxA,hb,_⟩:=Ms.cell fU hx0;have hgb:b≠gr:=by
  cases h with
  | mk h1 h2 h3=>
   have:=(h2 _ hxA).2.2;simpa using this
 rw[hxA]at fU;refine⟨b,off,x0,x1,hxA,hx0,hx1,λw1 hb=>?_⟩;have h0:=Ms.oW (fU.but hb λad e=>by cases e;simp;exact hgb) hx0;have h1:=Ms.oW (fU.but hb λad e=>by cases e;simp;exact hgb) hx1;simp only[aDH,aDw,aEi]at h0 h1;exact⟨h0,h1⟩
theorem Tryz.Jv:(Tryz.prog.info? 161).map (λi=>(i.zero,i.size,i.bytes))=some (some (.agg #[.string ⟨#[]⟩,.string ⟨#[]⟩,.string ⟨#[]⟩]),3,48):=ah
theorem Tryz.mV:Tryz.prog.underlying 32=some (.slice 161):=ah
def RH(b:Nat)(v:au)(w:ak):Prop:=∃g c0 c1 c2,v=.pointer (some ⟨g,0,none⟩)/\Bx 161 g #[c0,c1,c2] w/\b<=g
theorem RH.mono(b:Nat):kK (RH b):=λv w w' hE h=>by obtain⟨g,c0,c1,c2,e,hB,hb⟩:=h;exact⟨g,c0,c1,c2,e,hB.ev hE,hb⟩
def JA(gr b:Nat)(w w':ak):Prop:=But [gr] w w'∨∃(g:Nat) (v0 v1 v2:au),b<=g/\(∃c0 c1 c2,Bx 161 g #[c0,c1,c2] w)/\w'=kL g v0 v1 v2 w
theorem RH.jump(gr b:Nat)(hg:gr<b):∀v w w',JA gr b w w'->RH b v w->RH b v w':=by rintro v w w' (hb|⟨g,v0,v1,v2,_,⟨c0,c1,c2,hB⟩,rfl⟩) ⟨g',d0,d1,d2,e,hB',hb'⟩;exact⟨g',d0,d1,d2,e,hB'.but hb (by simp;omega),hb'⟩;by_cases hgg:g'=g;subst hgg;exact⟨g',v0,v1,v2,e,hB'.kL _ _ _,hb'⟩;exact⟨g',d0,d1,d2,e,hB'.but (bP g v0 v1 v2 w) (by simp;exact hgg),hb'⟩
def BxA(b:Nat)(s f c:ByteArray)(v:au)(w:ak):Prop:=∃g,v=.pointer (some ⟨g,0,none⟩)/\Bx 161 g #[.string s,.string f,.string c] w/\b<=g
theorem BxA.mono(b:Nat)(s f c:ByteArray):kK (BxA b s f c):=λv w w' hE h=>by obtain⟨g,e,hB,hb⟩:=h;exact⟨g,e,hB.ev hE,hb⟩
theorem OB{ρ:Operand->au}{o:Oper}{w:ak}(ho:o.op=.alloc 161):
  (execOp ρ o).run ax w=.ok (.value (.pointer ↑w)) (w.alloc (.cells #[.string ⟨#[]⟩,.string ⟨#[]⟩,.string ⟨#[]⟩] 161)):=by
 unfold execOp;rw[ho];simp[go_sem]
theorem ah2{x:M}(h:dR x.t=true):x.kids.length=2∨x.kids.length=3:=by unfold dR at h;simp only[aC9,aDC,aDn]at h;have:=h.2;rwa [M.dO,aC_]at this
theorem P8{b0 gr:Nat}{w:ak}{x:M}(h:Lies b0 [gr] w x){b off:Nat}(hA:x.A=some ⟨b,off,none⟩){i:Nat}{x2:M}(hx:x.kids[i]?=some x2):∀w1,But [gr] w w1->
  (w1.cell? ⟨b,off+i*5,none⟩=some ↑x2.kind/\w1.cell? ⟨b,off+i*5+1,none⟩=some ↑x2.s/\w1.cell? ⟨b,off+i*5+2,none⟩=some ↑x2.n/\w1.cell? ⟨b,off+i*5+3,none⟩=some (.slice x2.A x2.kids.length x2.cap)/\w1.cell? ⟨b,off+i*5+4,none⟩=some ↑x2.pos):=by
 intro w1 hb;have hgb:b≠gr:=by
  cases h with
  | mk h1 h2 h3=>
   have:=(h2 _ hA).2.2;simpa using this
 have fU:=h.ms;rw[hA]at fU;exact Ms.oW (fU.but hb λad e=>by cases e;simp;exact hgb) hx
structure OC(w0:ak)(gr:Nat)(A1:Option Addr)(k cap1:Nat)(L:List Ag)(e:Er)(gb:Nat)(bc:Array au)(g8:Nat)(ac8:Array au)(w:ak):Prop where
 st:zG 161 3 ac w0 gr A1 k cap1 L e w
 bx:Bx 186 gb bc w
 ba:Bx 161 g8 ac8 w
 nr:gb≠gr
 n8:g8≠gr
 lo:w0.heap.size<=g8
 ns:∀g,(Value.slice A1 k cap1).ownBlock=some g->g≠g8
theorem OC.through{w0 wr wq:ak}{gr gb g8:Nat}{bc ac8:Array au}{A1:Option Addr}{k cap1:Nat}{L:List Ag}{e e':Er}(h:OC w0 gr A1 k cap1 L e gb bc g8 ac8 wr)(hr:iL gr e' wr wq)(hg:gr<w0.heap.size):OC w0 gr A1 k cap1 L e' gb bc g8 ac8 wq:=
 ⟨⟨h.st.owq hr hg,h.st.len,h.st.rd.then hr⟩,h.bx.but hr.but (by simp;exact h.nr),h.ba.but hr.but (by simp;exact h.n8),h.nr,h.n8,h.lo,h.ns⟩
theorem OC.ev{w0 wr wq:ak}{gr gb g8:Nat}{bc ac8:Array au}{A1:Option Addr}{k cap1:Nat}{L:List Ag}{e:Er}(h:OC w0 gr A1 k cap1 L e gb bc g8 ac8 wr)(hE:Ev wr wq):OC w0 gr A1 k cap1 L e gb bc g8 ac8 wq:=
 ⟨⟨h.st.own.ev hE,h.st.len,h.st.rd.ev hE⟩,h.bx.ev hE,h.ba.ev hE,h.nr,h.n8,h.lo,h.ns⟩
theorem OC.store2{w0 wr:ak}{gr gb g8:Nat}{bc:Array au}{v0 v1 v2:au}{A1:Option Addr}{k cap1:Nat}{L:List Ag}{e:Er}(h:OC w0 gr A1 k cap1 L e gb bc g8 #[v0,v1,v2] wr)(v:au):OC w0 gr A1 k cap1 L e gb bc g8 #[v0,v1,v] (wr.setCell ⟨g8,2,none⟩ v):=by
 have hb:But [g8] wr (wr.setCell ⟨g8,2,none⟩ v):=But.setCell _ _ aj;by_cases hgb:gb=g8;exfalso;have h1:=h.bx.blk;rw[hgb,h.ba.blk]at h1;injection h1 with h1
 injection h1 with _ h2
 cases h2
 refine⟨⟨h.st.own.but hb (λg hg=>by simp;exact h.ns g hg),h.st.len,h.st.rd.bx.but hb (by simp;exact λe=>h.n8 e.symm),h.st.rd.but.trans hb λy hy=>by simp at hy;subst hy;exact .inr h.lo⟩,h.bx.but hb (by simp;exact hgb),?_,h.nr,h.n8,h.lo,h.ns⟩;have:=h.ba.set 2 v;rw[show ((#[v0,v1,v2]:Array au).setIfInBounds 2 v)=#[v0,v1,v] by simp]at this;exact this
theorem aIu(h:U:=by refine aP λa w c=>⟨(ay rfl),_,run_move _ rfl w,(c.was 0 rfl)⟩):U:=h
theorem aGX(h:U:=by
 refine aP λa wq c=>⟨(ay rfl),.pointer (some ⟨gb,3,none⟩),?_,rfl⟩
 have bn:a.eval (.tmp 7)=.pointer ↑gb:=(c.was 7 rfl)
 generalize a.eval=ρ at bn|-;simp[execOp,bn,go_sem]):U:=h
theorem aHy(h:U:=by have hc:=(c.inv.Ec (p:=⟨gb,3,none⟩) hlA (by simp;omega)).trans d3;generalize a.eval=ρ at bn|-;simp[execOp,bn,hc,go_sem]):U:=h
theorem ah3(gr:Nat)(e:Er)(l:List M)(A:Option Addr)(n cap b0:Nat)(w:ak)(hB:Rb gr e w)(h:Ms w A n cap l)(hr:XY b0 [gr] w A)(hn:n<=10000)(hagg:∀x∈l,dR x.t=true)(hlies:∀x∈l,Lies b0 [gr] w x):
  Calls ax 193 #[.pointer ↑gr,.slice A n cap] w λr w'=>∃x:dK Ag,r=.returned x.v/\x.l=l.map (λx=>jV x.t)/\bY 3 ac w.heap.size [] w' x/\iL gr (iy e (aX (l.flatMap λx=>dS x.t))) w w':=by
 have dH:Tryz.prog.follows .mixedOrders=true:=ah;have hcl:=h.le;have hcm:=h.max;have HL:=zq h.len;have hgr:=hB.lt;have rE:=zq (zG.start 161 3 ac hB);have Px:=zq (λw1 (hb:But [gr] w w1)=>h.but hb λad e=>(hr ad e).2.2);have HRN:=zq (λm e w1 hB=>Rt gr e m w1 hB);have HRF:=zq (λe pos w1 hB=>Jr gr e 12 pos ai w1 hB);have HIF:=zq (λs o w1=>Oy s o w1);have Vy:=zq (λx hx w1 (hb:But [gr] w w1)=>(hlies x hx).move hb λ_ hy=>.inl hy);have atK:=zq hagg;clear hB h hr hagg hlies;go_enter func193,ntmps193;go_wp2
 go_loopw [5,11] (λav iv wr=>∃(A1:Option Addr) (cap1 k:Nat) (E:Er),av=.slice A1 k cap1/\iv=↑k/\k<=n/\Hid (E=(((l.take k).flatMap λx=>dS x.t).foldl iy e))/\Hid (zG 161 3 ac w gr A1 k cap1 ((l.take k).map λx=>jV x.t) E wr)) (λ_ iv _=>n-(intOf iv).toNat)
 case atStart=>exact⟨none,0,0,e,rfl,rfl,aDl _,zq rfl,rE⟩
 case round=>
  obtain⟨A1,cap1,k,E,rfl,rfl,hk,HEE,HS⟩:=hrel;by_cases hlt:k<n
  ·obtain⟨x,hx⟩:=(Px.out w (But.refl _ _)).at hlt;have tq:=aDb hx;obtain⟨b,off,rfl,hb,c0,c1,c2,c3,c4⟩:=Ms.cell (Px.out wr HS.out.rd.but) hx;unfold M.kv at c3;have aoJ:=ah2 (atK.out x tq);have ajV:=(Vy.out x tq w (But.refl _ _)).ms.le;have hcapm:x.cap<=9223372036854775807:=(Vy.out x tq w (But.refl _ _)).ms.max;obtain⟨b',off',x0,x1,hxA,hx0,hx1,hKC⟩:=aeR (Vy.out x tq w (But.refl _ _)) (n:=x.kids.length-2) ae;have nM:=zq hKC;have HK2:=zq (λx2 (h2:x.kids[2]?=some x2)=>P8 (Vy.out x tq w (But.refl _ _)) hxA h2);have HX0:=zq hx0;have HX1:=zq hx1;have HX:=zq hx;rw[hxA]at c3;obtain⟨kn,hkn⟩:∃kn,kn=x.kids.length:=⟨_,rfl⟩
   rw[<-hkn]at c3 ajV aoJ;have qg:=zq hkn;have hb8:Bx 186 wr.heap.size #[↑x.kind,↑x.s,↑x.n,.slice ↑(b',off') kn x.cap,↑x.pos] (wr.alloc (.cells #[↑x.kind,↑x.s,↑x.n,.slice ↑(b',off') kn x.cap,↑x.pos] 186)):=Bx.new _ _ _;have hEb:=Ev.alloc wr (.cells #[↑x.kind,↑x.s,↑x.n,.slice ↑(b',off') kn x.cap,↑x.pos] 186);have hsb:(wr.alloc (.cells #[↑x.kind,↑x.s,↑x.n,.slice ↑(b',off') kn x.cap,↑x.pos] 186)).heap.size=wr.heap.size+1:=aj;have HEB:=zq hEb;have i1:(0:Int)<=(k:Int):=ae;have i2:(k:Int)<(n:Int):=ae;have i3:(0:Int)<(kn:Int):=ae;have i4:(1:Int)<(kn:Int):=ae;have n0:¬kn=0:=ae;have hgw:gr<wr.heap.size:=HS.out.rd.bx.lt;have hww:=HS.out.rd.but.size;have Zt:b'<w.heap.size/\b'≠gr:=by
    have h1:=Vy.out x tq w (But.refl _ _)
    cases h1 with
    | mk h1 h2 h3=>
     have:=h2 _ hxA;exact⟨this.2.1,by simpa using this.2.2⟩
   clear hx tq hx0 hx1 hxA hKC hkn hb hEb;go_upto_region 5 with fail
   generalize hwA:wr.alloc (.cells #[↑x.kind,↑x.s,↑x.n,.slice ↑(b',off') kn x.cap,↑x.pos] 186)=wA at*;clear hwA c0 c1 c2 c3 c4;have HB8:=zq hb8;have HSB:=zq hsb;obtain⟨⟨d0,d1,d2,d3,d4⟩,_⟩:=hb8.five;have Dv:But [gr] w wA:=HS.out.rd.but.then (But.aU HEB.out);obtain⟨⟨k0,k1,k2,k3,k4⟩,j0,j1,j2,j3,j4⟩:=nM.out _ Dv;have hlA:=HB8.out.lt;have hszA:=Dv.size;generalize hgb:wr.heap.size=gb at*;clear hb8 hsb Dv;refine Gu dH (λu=>But [gr] wA u) (JA gr (gb+1)) [5,13] (λp u=>Rb gr (if p=0 then E else iy E (bQ x0.t)) u) 13 12 8 (BxA (gb+1) ⟨x0.s.toArray⟩ ⟨x1.s.toArray⟩ ⟨#[]⟩) [λv _=>v=.pointer ↑gr,λv _=>v=.pointer (some ⟨gb,3,none⟩),λv _=>v=.slice ↑(b',off') kn x.cap,λv _=>v=.pointer ↑(b',off'),λv _=>v=.agg ↑x0,λv _=>v=↑x0.s,λv _=>v=.pointer (some ⟨gb,3,none⟩),λv _=>v=.slice ↑(b',off') kn x.cap,λv _=>v=.pointer ↑(b',off'+5),λv _=>v=.pointer ↑(b',off'+5+1),λv _=>v=↑x1.s,λv _=>v=.agg #[↑x0.s,↑x1.s,.string ⟨#[]⟩],RH (gb+1),λ_ _=>True]
    59 2 1 rfl ah ⟨aB _,aB _,aB _,aB _,aB _,aB _,aB _,aB _,aB _,aB _,aB _,aB _,RH.mono _,fC,trivial⟩ ⟨λ_ _ _ _ h=>h,λ_ _ _ _ h=>h,λ_ _ _ _ h=>h,λ_ _ _ _ h=>h,λ_ _ _ _ h=>h,λ_ _ _ _ h=>h,λ_ _ _ _ h=>h,λ_ _ _ _ h=>h,λ_ _ _ _ h=>h,λ_ _ _ _ h=>h,λ_ _ _ _ h=>h,λ_ _ _ _ h=>h,RH.jump _ _ ae,λ_ _ _ _ h=>h,trivial⟩ ah (λp u u' hE h=>h.ev hE) (λu u' hE h=>h.then (But.aU hE)) (But.refl _ _) (HS.out.rd.bx.ev HEB.out) ah (BxA.mono _ _ _ _) rfl rfl _ rfl ah ah ?_ ?_ ?_ ?_
   ·refine aO 0 ?_ (aO 1 ?_ (aO 2 ?_ (aO 3 ?_ (aO 4 ?_ (gq 5 ai (aO 6 ?_ (aO 7 ?_ (aO 8 ?_ (aO 9 ?_ (aO 10 ?_ (aO 11 ?_ (aO 12 ?_ (gq 13 ai (uU 14))))))))))))));exact aIu;exact aGX;refine aP λa wq c=>⟨(ay rfl),.slice ↑(b',off') kn x.cap,?_,rfl⟩
    have bn:a.eval (.tmp 16)=.pointer (some ⟨gb,3,none⟩):=(c.new 1 16)
    exact aHy
    ·refine aP λa wq c=>⟨(ay rfl),.pointer ↑(b',off'),?_,rfl⟩
     have bn:a.eval (.tmp 17)=.slice ↑(b',off') kn x.cap:=(c.new 2 17)
     have jS:a.eval (.const (.int .i64 0))=.int .i64 0:=rfl;generalize a.eval=ρ at bn jS|-;simp[execOp,bn,jS,go_sem,n0]
    ·refine aP λa wq c=>⟨(ay rfl),.agg ↑x0,?_,rfl⟩
     have bn:a.eval (.tmp 18)=.pointer ↑(b',off'):=(c.new 3 18)
     have q0:=(c.inv.Ec (p:=⟨b',off',none⟩) (by show b'<_;omega) (by simp;exact Zt.2)).trans k0;have q1:=(c.inv.Ec (p:=⟨b',off'+1,none⟩) (by show b'<_;omega) (by simp;exact Zt.2)).trans k1;have q2:=(c.inv.Ec (p:=⟨b',off'+2,none⟩) (by show b'<_;omega) (by simp;exact Zt.2)).trans k2;have q3:=(c.inv.Ec (p:=⟨b',off'+3,none⟩) (by show b'<_;omega) (by simp;exact Zt.2)).trans k3;have q4:=(c.inv.Ec (p:=⟨b',off'+4,none⟩) (by show b'<_;omega) (by simp;exact Zt.2)).trans k4;generalize a.eval=ρ at bn|-;simp[execOp,bn,q0,q1,q2,q3,q4,go_sem]
    exact aGX;refine aP λa wq c=>⟨(ay rfl),.slice ↑(b',off') kn x.cap,?_,rfl⟩
    have bn:a.eval (.tmp 21)=.pointer (some ⟨gb,3,none⟩):=(c.new 6 21)
    exact aHy
    ·refine aP λa wq c=>⟨(ay rfl),.pointer ↑(b',off'+5),?_,rfl⟩
     have bn:a.eval (.tmp 22)=.slice ↑(b',off') kn x.cap:=(c.new 7 22)
     have jS:a.eval (.const (.int .i64 1))=.int .i64 1:=rfl;generalize a.eval=ρ at bn jS|-;simp[execOp,bn,jS,go_sem,i4]
    ·refine aP λa wq c=>⟨(ay rfl),.pointer ↑(b',off'+5+1),?_,rfl⟩
     have bn:a.eval (.tmp 23)=.pointer ↑(b',off'+5):=(c.new 8 23)
     generalize a.eval=ρ at bn|-;simp[execOp,bn,go_sem]
    ·refine aP λa wq c=>⟨(ay rfl),↑x1.s,?_,rfl⟩
     have bn:a.eval (.tmp 24)=.pointer ↑(b',off'+5+1):=(c.new 9 24)
     have hc:=(c.inv.Ec (p:=⟨b',off'+5+1,none⟩) (by show b'<_;omega) (by simp;exact Zt.2)).trans j1;generalize a.eval=ρ at bn|-;simp[execOp,bn,hc,go_sem]
    ·refine aP λa wq c=>⟨(ay rfl),.agg #[↑x0.s,↑x1.s,.string ⟨#[]⟩],?_,rfl⟩
     have bn:a.eval (.tmp 20)=↑x0.s:=(c.new 5 20)
     have jk:a.eval (.tmp 25)=↑x1.s:=(c.new 10 25)
     generalize a.eval=ρ at bn jk|-;simp[execOp,bn,jk,go_sem]
    refine P7 λa wq c=>⟨(ay rfl),_,_,OB rfl,Ev.alloc _ _,c.inv.then (But.aU aC),⟨wq.heap.size,_,_,_,rfl,Bx.new _ _ _,by have:=c.inv.size;have:=HSB.out;omega⟩⟩
   refine aeU 0 rfl ?_ (aeT 1);refine qF λa wq c st=>⟨ay rfl,188,#[.pointer ↑gr,.agg ↑x0],?_,?_⟩
   rw[bK 188 _ _ rfl ah];have bn:a.eval (.tmp 15)=.pointer ↑gr:=(c.new 0 15)
   have jk:a.eval (.tmp 19)=.agg ↑x0:=(c.new 4 19)
   simp[bn,jk];refine(HRN.out x0 E wq st).mono ?_;rintro r wp ⟨rfl,hR⟩;exact⟨_,rfl,.inl hR.but,c.inv.then hR.but,hR.bx,rfl⟩
   ·refine⟨rfl,λa wq c st=>?_⟩;obtain⟨g_,z0,z1,z2,eg_,hB_,hb_⟩:=(c.got 12 8 ah ah rfl:RH _ _ _)
    have aeW:a.eval (.tmp 26)=.agg #[↑x0.s,↑x1.s,.string ⟨#[]⟩]:=(c.new 11 26)
    obtain⟨⟨z0_,z1_,z2_⟩,y0_,y1_,y2_⟩:=hB_.three;refine⟨ay rfl,kL g_ ↑x0.s ↑x1.s (.string ⟨#[]⟩) wq,?_,.inr ⟨g_,_,_,_,hb_,⟨_,_,_,hB_⟩,rfl⟩,c.inv.trans (bP _ _ _ _ _) (λy hy=>by simp at hy;subst hy;exact .inr (by have:=HSB.out;omega)),st.but (bP _ _ _ _ _) (by simp;omega),trivial,⟨g_,eg_,hB_.kL _ _ _,hb_⟩⟩;generalize a.eval=ρ at eg_ aeW|-;simp[execOp,eg_,aeW,go_sem,z0_,z1_,z2_,y0_,y1_,y2_,kL]
   intro sl wB hI hold hnew hst yG;obtain⟨g8,f8,BA,hb8⟩:=yG;have f0:sl 0=.pointer ↑gr:=hold 0;have f1:sl 1=.slice ↑(b,off) n cap:=hold 1;have f2:_=undef:=hold 2;have f3:_=undef:=hold 3;have f4:sl 4=↑():=hold 4;have f5:sl 5=.slice A1 k cap1:=hold 5;have f6:_=undef:=hold 6;have f7:sl 7=.pointer ↑gb:=hold 7;have f9:sl 9=.slice ↑(b,off) n cap:=hold 9;have f10:sl 10=↑n:=hold 10;have f11:sl 11=↑k:=hold 11;have f12:sl 12=.bool true:=hold 12;have f13:sl 13=.pointer ↑(b,off+k*5):=hold 13;have f14:sl 14=.agg #[↑x.kind,↑x.s,↑x.n,.slice ↑(b',off') kn x.cap,↑x.pos]:=hold 14;have f27:sl 27=u27:=hold 27;have f28:sl 28=u28:=hold 28;have f29:sl 29=u29:=hold 29;have f30:sl 30=u30:=hold 30;have f31:sl 31=u31:=hold 31;have f32:sl 32=u32:=hold 32;have f33:sl 33=u33:=hold 33;have f34:sl 34=u34:=hold 34;have f35:sl 35=u35:=hold 35;have f36:sl 36=u36:=hold 36;have f37:sl 37=u37:=hold 37;have f38:sl 38=u38:=hold 38;have f39:sl 39=u39:=hold 39;have f40:sl 40=u40:=hold 40;have f41:sl 41=u41:=hold 41;have f42:sl 42=u42:=hold 42;have f43:sl 43=u43:=hold 43;have f44:sl 44=u44:=hold 44;have f45:sl 45=u45:=hold 45;have f46:sl 46=u46:=hold 46;have f47:sl 47=u47:=hold 47;have f48:sl 48=u48:=hold 48;have f49:sl 49=u49:=hold 49;have f50:sl 50=u50:=hold 50;have f51:sl 51=u51:=hold 51;have f52:sl 52=u52:=hold 52;have f53:sl 53=u53:=hold 53;have f54:sl 54=u54:=hold 54;have f55:sl 55=u55:=hold 55;have f56:sl 56=u56:=hold 56;have f57:sl 57=u57:=hold 57;have f58:_=undef:=hold 58;change Exit.then _ _ .normal ⟨_,_⟩ _;simp only[List.range,List.range.loop,List.map];simp only[f8,f0,f1,f2,f3,f4,f5,f6,f7,f9,f10,f11,f12,f13,f14,f27,f28,f29,f30,f31,f32,f33,f34,f35,f36,f37,f38,f39,f40,f41,f42,f43,f44,f45,f46,f47,f48,f49,f50,f51,f52,f53,f54,f55,f56,f57,f58];clear hold hnew;have rX:iL gr (iy E (bQ x0.t)) wA wB:=⟨hst,hI⟩
   have hLA:zG 161 3 ac w gr A1 k cap1 ((l.take k).map λx=>jV x.t) E wA:=⟨HS.out.own.ev HEB.out,HS.out.len,HS.out.rd.ev HEB.out⟩
   have hAG:OC w gr A1 k cap1 ((l.take k).map λx=>jV x.t) (iy E (bQ x0.t)) gb #[↑x.kind,↑x.s,↑x.n,.slice ↑(b',off') kn x.cap,↑x.pos] g8 #[↑x0.s,↑x1.s,.string ⟨#[]⟩] wB:=
    ⟨⟨hLA.owq rX hgr,hLA.len,hLA.rd.then rX⟩,HB8.out.but hI (by simp;omega),BA,ae,ae,ae,λg hg=>by have:=(HS.out.own.lt hg).2;omega⟩
   have Ip:=zq hAG;have mr:Hid ((l.take (k+1)).map (λx=>jV x.t)=(l.take k).map (λx=>jV x.t)++[jV x.t]/\((l.take (k+1)).flatMap λx=>dS x.t).foldl iy e=(dS x.t).foldl iy E):=zq (by
    obtain⟨hk2,e1⟩:=aC6.1 HX.out;rw[aDi hk2,e1,aDk,List.flatMap_append,aEz,<-HEE.out];simp only[aDe,aDu,aEp,List.flatMap_nil,aD5];refine⟨?_,?_⟩<;>first|rfl|trivial)
   have oU:=zq HS.out.len;clear hst hI rX hLA hAG BA d0 d1 d2 d3 d4 k0 k1 k2 k3 k4 j0 j1 j2 j3 j4;obtain⟨⟨WT,WU,WV⟩,AY,AZ,Ba⟩:=Ip.out.ba.three;obtain⟨⟨d0,d1,d2,d3,d4⟩,_⟩:=Ip.out.bx.five;obtain⟨⟨k0,k1,k2,k3,k4⟩,j0,j1,j2,j3,j4⟩:=nM.out _ Ip.out.st.rd.but;rcases aoJ with h23|h23
   ·subst h23;have HAO:Hid (jV x.t=(x0.s,x1.s,[])):=zq (by unfold jV;rw[M.dO,Md _ _ _ HX0.out,Md _ _ _ HX1.out,M.DK,M.DK,aC_,<-qg.out];rfl);have HAE:Hid (dS x.t=[bQ x0.t,if isFun x1.s false then (0,0) else (12,x1.pos),(0,0)]):=zq (by unfold dS;rw[M.dO,Md _ _ _ HX0.out,Md _ _ _ HX1.out,M.DK,M.H6,aC_,<-qg.out];rfl);have HI:=zq (HIF.out x1.s false);generalize isFun x1.s false=q at*
    cases q
    ·go_wp2_with (first
      | ((with_reducible refine(HI.out _).mono ?_);rintro r w1 ⟨rfl,aJ⟩;have pV:=zq (Ip.out.ev aJ);clear WT WU WV AY AZ Ba d0 d1 d2 d3 d4 k0 k1 k2 k3 k4 j0 j1 j2 j3 j4;obtain⟨⟨WT,WU,WV⟩,AY,AZ,Ba⟩:=pV.out.ba.three;obtain⟨⟨d0,d1,d2,d3,d4⟩,_⟩:=pV.out.bx.five;obtain⟨⟨k0,k1,k2,k3,k4⟩,j0,j1,j2,j3,j4⟩:=nM.out _ pV.out.st.rd.but)
      | ((with_reducible refine(HRF.out _ x1.pos _ pV.out.st.rd.bx).mono ?_);rintro r w2 ⟨rfl,hR⟩;have Ed:=zq (pV.out.through hR hgr);clear hR WT WU WV AY AZ Ba d0 d1 d2 d3 d4 k0 k1 k2 k3 k4 j0 j1 j2 j3 j4;obtain⟨⟨WT,WU,WV⟩,AY,AZ,Ba⟩:=Ed.out.ba.three;obtain⟨⟨d0,d1,d2,d3,d4⟩,_⟩:=Ed.out.bx.five;obtain⟨⟨k0,k1,k2,k3,k4⟩,j0,j1,j2,j3,j4⟩:=nM.out _ Ed.out.st.rd.but)
      | ((show wpList _ _ _ (⟨some 56,_,_,_,_,_⟩::_) _ _);refine aQ (o:=⟨some 56,_,_,_,_,_⟩) rfl 32 (.tmp 53) (.tmp 55) rfl zy Tryz.mV Tryz.Jv rfl rfl (Ed.out.st.own.ev (Ev.alloc w2 _)) ↑w2 1 1 [(x0.s,x1.s,[])] rfl (Sl.one (et:=161) zy w2 (x0.s,x1.s,[]) _ rfl) (by rw[oU.out];simp;omega) (by rw[oU.out];simp;omega) (aDr Ed.out.st.rd.but.size (Ev.alloc w2 _).size) ?_;intro v2 w7 iq;obtain⟨A2,cap2,rfl,ST2⟩:=Ed.out.st.next zy (iL.of Ed.out.st.rd.bx (Ev.alloc w2 _)) hgr iq))
     go_roundw
     case rel=>exact⟨A2,cap2,k+1,iy (iy E (bQ x0.t)) (12,x1.pos),rfl,by go_num,ae,zq (by rw[mr.out.2,HAE.out];simp[zt]),zq (by rw[mr.out.1,HAO.out];exact ST2)⟩
     case measure=>simp[intOf];omega
    go_wp2_with (first
     | ((with_reducible refine(HI.out _).mono ?_);rintro r w1 ⟨rfl,aJ⟩;have pV:=zq (Ip.out.ev aJ);clear WT WU WV AY AZ Ba d0 d1 d2 d3 d4 k0 k1 k2 k3 k4 j0 j1 j2 j3 j4;obtain⟨⟨WT,WU,WV⟩,AY,AZ,Ba⟩:=pV.out.ba.three;obtain⟨⟨d0,d1,d2,d3,d4⟩,_⟩:=pV.out.bx.five;obtain⟨⟨k0,k1,k2,k3,k4⟩,j0,j1,j2,j3,j4⟩:=nM.out _ pV.out.st.rd.but)
     | ((show wpList _ _ _ (⟨some 56,_,_,_,_,_⟩::_) _ _);refine aQ (o:=⟨some 56,_,_,_,_,_⟩) rfl 32 (.tmp 53) (.tmp 55) rfl zy Tryz.mV Tryz.Jv rfl rfl (pV.out.st.own.ev (Ev.alloc w1 _)) ↑w1 1 1 [(x0.s,x1.s,[])] rfl (Sl.one (et:=161) zy w1 (x0.s,x1.s,[]) _ rfl) (by rw[oU.out];simp;omega) (by rw[oU.out];simp;omega) (aDr pV.out.st.rd.but.size (Ev.alloc w1 _).size) ?_;intro v2 w7 iq;obtain⟨A2,cap2,rfl,ST2⟩:=pV.out.st.next zy (iL.of pV.out.st.rd.bx (Ev.alloc w1 _)) hgr iq))
    go_roundw
    case rel=>exact⟨A2,cap2,k+1,iy E (bQ x0.t),rfl,by go_num,ae,zq (by rw[mr.out.2,HAE.out];simp[zt]),zq (by rw[mr.out.1,HAO.out];exact ST2)⟩
    case measure=>simp[intOf];omega
   subst h23;obtain⟨x2,hx2⟩:∃x2,x.kids[2]?=some x2:=⟨_,aDo (by have:=qg.out;omega)⟩
   have HX2:=zq hx2;have HK3:=zq (HK2.out x2 hx2);simp only[show 2*5=10 from rfl]at HK3;clear hx2;have i5:(3:Int)<=(x.cap:Int):=ae;have HAO:Hid (jV x.t=(x0.s,x1.s,x2.s)):=zq (by unfold jV;rw[M.dO,Md _ _ _ HX0.out,Md _ _ _ HX1.out,M.DK,M.DK,aC_,<-qg.out];rw[Md _ _ _ HX2.out,M.DK];rfl);have HAE:Hid (dS x.t=[bQ x0.t,if isFun x1.s true then (0,0) else (12,x1.pos),bQ x2.t]):=zq (by unfold dS;rw[M.dO,Md _ _ _ HX0.out,Md _ _ _ HX1.out,M.DK,M.H6,aC_,<-qg.out];rw[Md _ _ _ HX2.out];rfl);have HI:=zq (HIF.out x1.s true);generalize isFun x1.s true=q at*
   cases q
   ·have EU:=zq (λe1 w9 hB9=>HRN.out x2 e1 w9 hB9);obtain⟨m0,m1,m2,m3,m4⟩:=HK3.out _ Ip.out.st.rd.but
    go_wp2_with (first
     | ((with_reducible refine(HI.out _).mono ?_);rintro r w1 ⟨rfl,aJ⟩;have pV:=zq (Ip.out.ev aJ);clear WT WU WV AY AZ Ba d0 d1 d2 d3 d4 k0 k1 k2 k3 k4 j0 j1 j2 j3 j4;obtain⟨⟨WT,WU,WV⟩,AY,AZ,Ba⟩:=pV.out.ba.three;obtain⟨⟨d0,d1,d2,d3,d4⟩,_⟩:=pV.out.bx.five;obtain⟨⟨k0,k1,k2,k3,k4⟩,j0,j1,j2,j3,j4⟩:=nM.out _ pV.out.st.rd.but;clear m0 m1 m2 m3 m4;obtain⟨m0,m1,m2,m3,m4⟩:=HK3.out _ pV.out.st.rd.but)
     | ((with_reducible refine(HRF.out _ x1.pos _ pV.out.st.rd.bx).mono ?_);rintro r w2 ⟨rfl,hR⟩;have Ed:=zq (pV.out.through hR hgr);clear hR WT WU WV AY AZ Ba d0 d1 d2 d3 d4 k0 k1 k2 k3 k4 j0 j1 j2 j3 j4;obtain⟨⟨WT,WU,WV⟩,AY,AZ,Ba⟩:=Ed.out.ba.three;obtain⟨⟨d0,d1,d2,d3,d4⟩,_⟩:=Ed.out.bx.five;obtain⟨⟨k0,k1,k2,k3,k4⟩,j0,j1,j2,j3,j4⟩:=nM.out _ Ed.out.st.rd.but;clear m0 m1 m2 m3 m4;obtain⟨m0,m1,m2,m3,m4⟩:=HK3.out _ Ed.out.st.rd.but)
     | ((with_reducible refine(EU.out _ _ Ed.out.st.rd.bx).mono ?_);rintro r w3 ⟨rfl,hR⟩;have MP:=zq (Ed.out.through hR hgr);clear hR WT WU WV AY AZ Ba d0 d1 d2 d3 d4 k0 k1 k2 k3 k4 j0 j1 j2 j3 j4;obtain⟨⟨WT,WU,WV⟩,AY,AZ,Ba⟩:=MP.out.ba.three;obtain⟨⟨d0,d1,d2,d3,d4⟩,_⟩:=MP.out.bx.five;obtain⟨⟨k0,k1,k2,k3,k4⟩,j0,j1,j2,j3,j4⟩:=nM.out _ MP.out.st.rd.but;clear m0 m1 m2 m3 m4;obtain⟨m0,m1,m2,m3,m4⟩:=HK3.out _ MP.out.st.rd.but)
     | ((show wpList _ _ _ (⟨some 56,_,_,_,_,_⟩::_) _ _);have RI:=zq (MP.out.store2 ↑x2.s);refine aQ (o:=⟨some 56,_,_,_,_,_⟩) rfl 32 (.tmp 53) (.tmp 55) rfl zy Tryz.mV Tryz.Jv rfl rfl (RI.out.st.own.ev aC) ↑w3 1 1 [(x0.s,x1.s,x2.s)] rfl (by have:=Sl.one (et:=161) zy (w3.setCell ⟨g8,2,none⟩ ↑x2.s) (x0.s,x1.s,x2.s) #[↑x0.s,↑x1.s,↑x2.s] rfl;simpa[World.setCell] using this) (by rw[oU.out];simp;omega) (by rw[oU.out];simp;omega) (aDr RI.out.st.rd.but.size aC.size) ?_;intro v2 w7 iq;obtain⟨A2,cap2,rfl,ST2⟩:=RI.out.st.next zy (iL.of RI.out.st.rd.bx aC) hgr iq))
    go_roundw
    case rel=>exact⟨A2,cap2,k+1,iy (iy (iy E (bQ x0.t)) (12,x1.pos)) (bQ x2.t),rfl,by go_num,ae,zq (by rw[mr.out.2,HAE.out];simp),zq (by rw[mr.out.1,HAO.out];exact ST2)⟩
    case measure=>simp[intOf];omega
   have EU:=zq (λe1 w9 hB9=>HRN.out x2 e1 w9 hB9);obtain⟨m0,m1,m2,m3,m4⟩:=HK3.out _ Ip.out.st.rd.but
   go_wp2_with (first
    | ((with_reducible refine(HI.out _).mono ?_);rintro r w1 ⟨rfl,aJ⟩;have pV:=zq (Ip.out.ev aJ);clear WT WU WV AY AZ Ba d0 d1 d2 d3 d4 k0 k1 k2 k3 k4 j0 j1 j2 j3 j4;obtain⟨⟨WT,WU,WV⟩,AY,AZ,Ba⟩:=pV.out.ba.three;obtain⟨⟨d0,d1,d2,d3,d4⟩,_⟩:=pV.out.bx.five;obtain⟨⟨k0,k1,k2,k3,k4⟩,j0,j1,j2,j3,j4⟩:=nM.out _ pV.out.st.rd.but;clear m0 m1 m2 m3 m4;obtain⟨m0,m1,m2,m3,m4⟩:=HK3.out _ pV.out.st.rd.but)
    | ((with_reducible refine(EU.out _ _ pV.out.st.rd.bx).mono ?_);rintro r w3 ⟨rfl,hR⟩;have MP:=zq (pV.out.through hR hgr);clear hR WT WU WV AY AZ Ba d0 d1 d2 d3 d4 k0 k1 k2 k3 k4 j0 j1 j2 j3 j4;obtain⟨⟨WT,WU,WV⟩,AY,AZ,Ba⟩:=MP.out.ba.three;obtain⟨⟨d0,d1,d2,d3,d4⟩,_⟩:=MP.out.bx.five;obtain⟨⟨k0,k1,k2,k3,k4⟩,j0,j1,j2,j3,j4⟩:=nM.out _ MP.out.st.rd.but;clear m0 m1 m2 m3 m4;obtain⟨m0,m1,m2,m3,m4⟩:=HK3.out _ MP.out.st.rd.but)
    | ((show wpList _ _ _ (⟨some 56,_,_,_,_,_⟩::_) _ _);have RI:=zq (MP.out.store2 ↑x2.s);refine aQ (o:=⟨some 56,_,_,_,_,_⟩) rfl 32 (.tmp 53) (.tmp 55) rfl zy Tryz.mV Tryz.Jv rfl rfl (RI.out.st.own.ev aC) ↑w3 1 1 [(x0.s,x1.s,x2.s)] rfl (by have:=Sl.one (et:=161) zy (w3.setCell ⟨g8,2,none⟩ ↑x2.s) (x0.s,x1.s,x2.s) #[↑x0.s,↑x1.s,↑x2.s] rfl;simpa[World.setCell] using this) (by rw[oU.out];simp;omega) (by rw[oU.out];simp;omega) (aDr RI.out.st.rd.but.size aC.size) ?_;intro v2 w7 iq;obtain⟨A2,cap2,rfl,ST2⟩:=RI.out.st.next zy (iL.of RI.out.st.rd.bx aC) hgr iq))
   go_roundw
   case rel=>exact⟨A2,cap2,k+1,iy (iy E (bQ x0.t)) (bQ x2.t),rfl,by go_num,ae,zq (by rw[mr.out.2,HAE.out];simp[zt]),zq (by rw[mr.out.1,HAO.out];exact ST2)⟩
   case measure=>simp[intOf];omega
  obtain rfl:k=n:=ae;have HF:Hid ((l.take k).map (λx=>jV x.t)=l.map (λx=>jV x.t)/\E=iy e (aX (l.flatMap λx=>dS x.t))):=zq (by
   have h1:=HEE.out;rw[aDj (by rw[HL.out];exact aC8 _)]at h1|-;exact⟨rfl,by rw[h1,jF]⟩)
  go_wp2;go_ret;obtain⟨x,hxv,lD,hxs⟩:=HS.out.own.sle zy;rw[hxv];exact⟨x,rfl,by rw[lD,HF.out.1],hxs,HF.out.2▸HS.out.rd⟩
theorem Tryz.Ee:(Tryz.prog.info? 35).map (λi=>(i.zero,i.size,i.bytes))=some (some (.agg ↑Zz.b),8,168):=ah
theorem Tryz.iI:(Tryz.prog.info? 35).map (·.size)=some 8:=ah
def yJ(gr:Nat)(e:Er)(t:T)(w:ak)(r:Ending)(w':ak):Prop:=∃p:PM,r=.returned (.agg ↑p)/\p.p=pPlan t/\Qx w.heap.size [] w' p/\iL gr (iy e (dD t)) w w'
structure YB(w0:ak)(gr:Nat)(A:Option Addr)(n cap:Nat)(L:List PM)(e:Er)(w:ak):Prop where
 st:zG 35 8 pc w0 gr A n cap L e w
 lies:∀x∈L,Qx w0.heap.size (foot (.slice A n cap)) w x
theorem YB.start{w0:ak}{gr:Nat}{e:Er}(hB:Rb gr e w0):YB w0 gr none 0 0 [] e w0:=⟨zG.start _ _ _ hB,λx hx=>by cases hx⟩
theorem YB.next{w0 wr wp wq w2:ak}{gr n cap:Nat}{A:Option Addr}{L:List PM}{e e':Er}{x:PM}{v2:au}(h:YB w0 gr A n cap L e wr)(hr:iL gr e' wr wq)(hg:gr<w0.heap.size)(hx:Qx wp.heap.size [] wq x)(hp:wr.heap.size<=wp.heap.size)(hA:uG 35 8 pc w0.heap.size wq (.slice A n cap) (L++[x]) v2 w2):
  ∃A2 cap2,v2=.slice A2 (n+1) cap2/\YB w0 gr A2 (n+1) cap2 (L++[x]) e' w2:=by
 obtain⟨A2,cap2,hv,hS⟩:=h.st.next I4 hr hg hA
 refine⟨A2,cap2,hv,hS,λy hy=>?_⟩;subst hv;have hy2:Qx w0.heap.size (foot (.slice A n cap)) wq y:=by rcases aDm.1 hy with h1|h1;refine((h.lies y h1).less (K':=gr::foot (.slice A n cap)) λz hz=>?_).move (hr.but.wide λz hz=>.inl (by simp at hz;subst hz;exact aC' ..)) λz hz=>.inl (aDc _ hz);rcases aDg.1 hz with rfl|hz;exact .inr (.inl hg);exact .inl hz;simp at h1;subst h1;refine(hx.less λk hk=>.inr (.inl ?_)).low (aDr h.st.rd.but.size hp);exact aDf (h.st.own.lt (aG.1 hk)).2 hp
 refine hy2.move hA.2.1 λz hz=>?_;rcases hA.2.2 z (aG.1 hz) with h2|h2;exact .inl (aG.2 h2);exact .inr (.inr h2)
theorem MQ(gr:Nat)(e:Er)(l:List M)(A:Option Addr)(n cap b0:Nat)(w:ak)(hB:Rb gr e w)(h:Ms w A n cap l)(hr:XY b0 [gr] w A)(hn:n<=10000)(hp:∀x∈l,∀w1 e1,But [gr] w w1->Rb gr e1 w1->Calls ax 123 #[.pointer ↑gr,.agg ↑x] w1 (yJ gr e1 x.t w1)):
  Calls ax 190 #[.pointer ↑gr,.slice A n cap] w λr w'=>∃x:dK PM,r=.returned x.v/\x.l.map PM.p=l.map (λx=>pPlan x.t)/\bY 8 pc w.heap.size [] w' x/\(∀k∈x.l,Qx w.heap.size [] w' k)/\iL gr (iy e (aX (l.map λx=>dD x.t))) w w':=by
 have hcl:=h.le;have hcm:=h.max;have HL:=zq h.len;have hgr:=hB.lt;have rE:=zq (YB.start hB);have Px:=zq (λw1 (hb:But [gr] w w1)=>h.but hb λad e=>(hr ad e).2.2);unfold yJ at hp;have HP:=zq hp;clear hB h hr hp;go_enter func190,ntmps190;go_wp2
 go_loopw [5,10] (λav iv wr=>∃(A1:Option Addr) (cap1 k:Nat) (E:Er) (L:List PM),av=.slice A1 k cap1/\iv=↑k/\k<=n/\Hid (L.map PM.p=(l.take k).map λx=>pPlan x.t)/\Hid (E=(((l.take k).map λx=>dD x.t).foldl iy e))/\Hid (YB w gr A1 k cap1 L E wr)) (λ_ iv _=>n-(intOf iv).toNat)
 case atStart=>exact⟨none,0,0,e,[],rfl,rfl,aDl _,zq rfl,zq rfl,rE⟩
 case round=>
  obtain⟨A1,cap1,k,E,L,rfl,rfl,hk,wR,HEE,HS⟩:=hrel;by_cases hlt:k<n
  ·obtain⟨x,hx⟩:=(Px.out w (But.refl _ _)).at hlt;obtain⟨b,off,rfl,hb,c0,c1,c2,c3,c4⟩:=Ms.cell (Px.out wr HS.out.st.rd.but) hx;unfold M.kv at c3;have mr:Hid ((l.take (k+1)).map (λx=>pPlan x.t)=(l.take k).map (λx=>pPlan x.t)++[pPlan x.t]/\((l.take (k+1)).map λx=>dD x.t).foldl iy e=iy E (dD x.t)):=zq (by
    obtain⟨hk2,e1⟩:=aC6.1 hx;rw[aDi hk2,e1,aDk,aDk,aEz,<-HEE.out];exact⟨rfl,rfl⟩)
   have HN:=zq (HP.out x (aDb hx) (wr.alloc (.cells ↑x 186)) E (HS.out.st.rd.but.then (But.aU aC)) (HS.out.st.rd.bx.ev aC));have oU:=zq HS.out.st.len;have i1:(0:Int)<=(k:Int):=ae;have i2:(k:Int)<(n:Int):=ae;clear hx
   go_wp2_with (first
    | ((with_reducible refine(HN.out).mono ?_);rintro r w1 ⟨p,rfl,hpt,hpl,hR⟩;have HPT:=zq hpt;have HPL:=zq (hpl.ev (Ev.alloc w1 (.cells ↑p 35)));have HR:=zq ((⟨hR.bx,(But.aU (Ev.alloc wr (.cells ↑x 186))).then hR.but⟩:iL gr _ wr w1).ev (Ev.alloc w1 (.cells ↑p 35)));clear hR hpt hpl)
    | ((show wpList _ _ _ (⟨some 19,_,_,_,_,_⟩::_) _ _);refine aQ (o:=⟨some 19,_,_,_,_,_⟩) rfl 33 (.tmp 14) (.tmp 18) rfl I4 underlying33 Tryz.Ee rfl rfl (HS.out.st.owq HR.out hgr) (some ⟨↑w1,0,none⟩) 1 1 [p] rfl (Sl.one (et:=35) I4 w1 p _ rfl) (by rw[oU.out];simp;omega) (by rw[oU.out];simp;omega) (HS.out.st.size HR.out) ?_;intro v2 w2 iq;obtain⟨A2,cap2,rfl,ST2⟩:=HS.out.next HR.out hgr HPL.out aj iq))
   go_roundw
   case rel=>exact⟨A2,cap2,k+1,_,_,rfl,by go_num,ae,zq (by rw[aDk,wR.out,mr.out.1,aDe,aDu,HPT.out]),zq mr.out.2.symm,zq ST2⟩
   case measure=>simp[intOf];omega
  obtain rfl:k=n:=ae;have HF:Hid ((l.take k).map (λx=>pPlan x.t)=l.map (λx=>pPlan x.t)/\E=iy e (aX (l.map λx=>dD x.t))):=zq (by
   have h1:=HEE.out;rw[aDj (by rw[HL.out];exact aC8 _)]at h1|-;exact⟨rfl,by rw[h1,jF]⟩)
  go_wp2;go_ret;obtain⟨x,hxv,lD,hxs⟩:=HS.out.st.own.sle I4;rw[hxv];exact⟨x,rfl,by rw[lD,wR.out,HF.out.1],hxs,λy hy=>(HS.out.lies y (by rwa [lD]at hy)).less (λz hz=>by cases hz),HF.out.2▸HS.out.st.rd⟩
def NsF(base:Nat)(ns:List By)(v:au)(w:ak):Prop:=∃X:dK By,v=.slice X.A X.l.length X.cap/\X.l=ns/\bY 1 sc base [] w X
def AsF(base:Nat)(as_:List Ag)(v:au)(w:ak):Prop:=∃X:dK Ag,v=.slice X.A X.l.length X.cap/\X.l=as_/\bY 3 ac base [] w X
def Z5(base:Nat)(ps:List Pl)(v:au)(w:ak):Prop:=∃X:dK PM,v=.slice X.A X.l.length X.cap/\X.l.map PM.p=ps/\bY 8 pc base [] w X/\∀k∈X.l,Qx base [] w k
def Z7(base:Nat)(p:Pl)(v:au)(w:ak):Prop:=∃m:PM,v=.agg ↑m/\m.p=p/\Qx base [] w m
theorem vI{base:Nat}{K:List Nat}{w w':ak}{x:PM}(h:Qx base [] w x)(hb:But K w w')(hK:∀k∈K,k<base):Qx base [] w' x:=(h.less (K':=K) λk hk=>.inr (.inl (hK k hk))).move hb λk hk=>by cases hk
theorem Ef{α:Type}{k:Nat}{enc:α->List au}{base:Nat}{K:List Nat}{w w':ak}{x:dK α}(h:bY k enc base [] w x)(hb:But K w w')(hK:∀k∈K,k<base):bY k enc base [] w' x:=
 (h.move (K':=K) (But.refl _ _) λk hk=>.inr (.inl (hK k hk))).move hb λk hk=>by cases hk
theorem NsF.old{base:Nat}{ns:List By}{K:List Nat}(hK:∀k∈K,k<base):∀v w w',But K w w'->NsF base ns v w->NsF base ns v w':=λv w w' hb ⟨x,e,ht,hS⟩=>⟨x,e,ht,Ef hS hb hK⟩
theorem AsF.old{base:Nat}{ns:List Ag}{K:List Nat}(hK:∀k∈K,k<base):∀v w w',But K w w'->AsF base ns v w->AsF base ns v w':=λv w w' hb ⟨x,e,ht,hS⟩=>⟨x,e,ht,Ef hS hb hK⟩
theorem Z5.old{base:Nat}{ps:List Pl}{K:List Nat}(hK:∀k∈K,k<base):∀v w w',But K w w'->Z5 base ps v w->Z5 base ps v w':=λv w w' hb ⟨x,e,ht,hS,hL⟩=>⟨x,e,ht,Ef hS hb hK,λy hy=>vI (hL y hy) hb hK⟩
theorem Z7.old{base:Nat}{p:Pl}{K:List Nat}(hK:∀k∈K,k<base):∀v w w',But K w w'->Z7 base p v w->Z7 base p v w':=λv w w' hb ⟨x,e,ht,hS⟩=>⟨x,e,ht,vI hS hb hK⟩
theorem Gv{base:Nat}:∀k∈([]:List Nat),k<base:=λk hk=>by cases hk
theorem NsF.mono(base:Nat)(ns:List By):kK (NsF base ns):=λv w w' hE h=>NsF.old Gv v w w' (But.aU hE) h
theorem AsF.mono(base:Nat)(ns:List Ag):kK (AsF base ns):=λv w w' hE h=>AsF.old Gv v w w' (But.aU hE) h
theorem Z5.mono(base:Nat)(ps:List Pl):kK (Z5 base ps):=λv w w' hE h=>Z5.old Gv v w w' (But.aU hE) h
theorem Z7.mono(base:Nat)(p:Pl):kK (Z7 base p):=λv w w' hE h=>Z7.old Gv v w w' (But.aU hE) h
def mi(g:Nat)(v0 v1 v2 v3 v4 v5 v6 v7:au)(w:ak):ak:=(((pG g v0 v1 v2 v3 v4 w).setCell ⟨g,5,none⟩ v5).setCell ⟨g,6,none⟩ v6).setCell ⟨g,7,none⟩ v7
theorem gI(g:Nat)(v0 v1 v2 v3 v4 v5 v6 v7:au)(w:ak):(((((((w.setCell ⟨g,0,none⟩ v0).setCell ⟨g,1,none⟩ v1).setCell ⟨g,2,none⟩ v2).setCell ⟨g,3,none⟩ v3).setCell ⟨g,4,none⟩ v4).setCell ⟨g,5,none⟩ v5).setCell ⟨g,6,none⟩ v6).setCell ⟨g,7,none⟩ v7=mi g v0 v1 v2 v3 v4 v5 v6 v7 w:=rfl
theorem fB(g:Nat)(v0 v1 v2 v3 v4 v5 v6 v7:au)(w:ak):But [g] w (mi g v0 v1 v2 v3 v4 v5 v6 v7 w):=
 (((dZ g v0 v1 v2 v3 v4 w).then (But.setCell ⟨g,5,none⟩ _ aj)).then (But.setCell ⟨g,6,none⟩ _ aj)).then (But.setCell ⟨g,7,none⟩ _ aj)
theorem Bx.mi{T:TypeId}{g:Nat}{w:ak}{u0 u1 u2 u3 u4 u5 u6 u7:au}(h:Bx T g #[u0,u1,u2,u3,u4,u5,u6,u7] w)(v0 v1 v2 v3 v4 v5 v6 v7:au):Bx T g #[v0,v1,v2,v3,v4,v5,v6,v7] (mi g v0 v1 v2 v3 v4 v5 v6 v7 w):=by have:=(((((((h.set 0 v0).set 1 v1).set 2 v2).set 3 v3).set 4 v4).set 5 v5).set 6 v6).set 7 v7;rw[show (((((((((#[u0,u1,u2,u3,u4,u5,u6,u7]:Array au).setIfInBounds 0 v0).setIfInBounds 1 v1).setIfInBounds 2 v2).setIfInBounds 3 v3).setIfInBounds 4 v4).setIfInBounds 5 v5).setIfInBounds 6 v6).setIfInBounds 7 v7)=#[v0,v1,v2,v3,v4,v5,v6,v7] by simp]at this;exact this
theorem Bx.eight{T:TypeId}{g:Nat}{w:ak}{v0 v1 v2 v3 v4 v5 v6 v7:au}(h:Bx T g #[v0,v1,v2,v3,v4,v5,v6,v7] w):
  (w.cell? ⟨g,0,none⟩=some v0/\w.cell? ⟨g,1,none⟩=some v1/\w.cell? ⟨g,2,none⟩=some v2/\w.cell? ⟨g,3,none⟩=some v3/\w.cell? ⟨g,4,none⟩=some v4/\w.cell? ⟨g,5,none⟩=some v5/\w.cell? ⟨g,6,none⟩=some v6/\w.cell? ⟨g,7,none⟩=some v7)/\
  (w.frozen? ⟨g,0,none⟩=false/\w.frozen? ⟨g,1,none⟩=false/\w.frozen? ⟨g,2,none⟩=false/\w.frozen? ⟨g,3,none⟩=false/\w.frozen? ⟨g,4,none⟩=false/\w.frozen? ⟨g,5,none⟩=false/\w.frozen? ⟨g,6,none⟩=false/\w.frozen? ⟨g,7,none⟩=false):=
 ⟨⟨h.cell 0,h.cell 1,h.cell 2,h.cell 3,h.cell 4,h.cell 5,h.cell 6,h.cell 7⟩,h.frozen 0,h.frozen 1,h.frozen 2,h.frozen 3,h.frozen 4,h.frozen 5,h.frozen 6,h.frozen 7⟩
theorem Eg(w:ak)(c0 c1 c2 c3 c4:au):∃w0,(w.alloc (.cells #[c0,c1,c2,c3,c4] 186)).alloc (.cells ↑Zz.b 35)=w0/\Ev w w0/\Bx 186 w.heap.size #[c0,c1,c2,c3,c4] w0/\Bx 35 (w.heap.size+1) ↑Zz.b w0/\w0.heap.size=w.heap.size+2:=by
 have hB:Bx 35 (w.heap.size+1) ↑Zz.b ((w.alloc (.cells #[c0,c1,c2,c3,c4] 186)).alloc (.cells ↑Zz.b 35)):=by have:=Bx.new 35 ↑Zz.b (w.alloc (.cells #[c0,c1,c2,c3,c4] 186));simpa using this
 exact⟨_,rfl,(Ev.alloc w _).trans aC,(Bx.new 186 #[c0,c1,c2,c3,c4] w).ev aC,hB,aj⟩
def uV(l:List T)(w:ak)(e:Ending)(w':ak):Prop:=∃A n cap L,e=.returned (.slice A n cap)/\uo w A n cap L w'/\L.map M.t=l
theorem uo.start(w:ak):uo w none 0 0 [] w:=⟨Ow.nil_ w,rfl,(λx hx=>by cases hx),Ev.refl w⟩
theorem Eh(A:Option Addr)(n cap:Nat)(w:ak):
  Calls ax 178 #[.slice A n cap] w λe w'=>e=.returned (.agg #[.int .i64 1,.string ⟨#[]⟩,.int .i64 0,.slice A n cap,.int .i64 0])/\Ev w w':=by
 go_enter func178,ntmps178;go_wp2;(try simp only[Exit.inBlock,Exit.then]);refine aFe (aZ rfl _ _ _ _ _ rfl (Bx.new 186 #[.int .i64 1,.string ⟨#[]⟩,.int .i64 0,.slice A n cap,.int .i64 0] w) underlying186 rfl Tryz.sJ) rfl ?_;exact⟨rfl,Ev.alloc w _⟩
theorem wF(l:List By)(A:Option Addr)(n cap:Nat)(w:ak)(h:Ss w A n cap l)(hn:n<=100000):
  Calls ax 175 #[.slice A n cap] w (uV (l.map aT) w):=by
 have hcl:=h.le;have hcm:=h.max;have HL:=zq h.len;have Px:=zq h;have rE:=zq (uo.start w);unfold uV;clear h;go_enter func175,ntmps175;go_wp2
 go_loopw [3,8] (λav iv wr=>∃(A1:Option Addr) (cap1 k:Nat) (L:List M),av=.slice A1 k cap1/\iv=↑k/\k<=n/\Hid (L.map M.t=(l.take k).map aT)/\Hid (uo w A1 k cap1 L wr)) (λ_ iv _=>n-(intOf iv).toNat)
 case atStart=>exact⟨none,0,0,[],rfl,rfl,aDl _,zq rfl,rE⟩
 case round=>
  obtain⟨A1,cap1,k,L,rfl,rfl,hk,xx,HS⟩:=hrel;by_cases hlt:k<n
  ·obtain⟨x,hx⟩:=Px.out.at hlt;obtain⟨b,off,rfl,hb,hc⟩:=(Px.out.ev HS.out.ev).rd ae;have c0:=hc k x hx 0 _ rfl;simp only[aED,aDw]at c0;have mr:Hid ((l.take (k+1)).map aT=(l.take k).map aT++[aT x]):=zq (by
    obtain⟨hk2,e1⟩:=aC6.1 hx;rw[aDi hk2,e1,aDk];rfl)
   have wR:=zq HS.out.len;have i1:(0:Int)<=(k:Int):=ae;have i2:(k:Int)<(n:Int):=ae;clear hx hc
   go_wp2_with (first
    | ((show wpList _ _ _ (⟨some 16,_,_,_,_,_⟩::_) _ _);refine aQ (o:=⟨some 16,_,_,_,_,_⟩) rfl 184 (.tmp 12) (.tmp 15) rfl jU underlying184 Tryz.infoTree rfl rfl (HS.out.own.ev (Ev.alloc wr _)) ↑wr 1 1 [.mk 2 x 0 none 0 [] 0] rfl (Sl.one (et:=186) jU wr (.mk 2 x 0 none 0 [] 0) _ rfl) (by rw[wR.out];simp;omega) (by rw[wR.out];simp;omega) (HS.out.ev.trans (Ev.alloc wr _)).size ?_;intro v2 w2 iq;obtain⟨A2,cap2,rfl,ST2⟩:=HS.out.next (Ev.alloc wr _) (abT _ _ _ _ _ _ _) iq))
   go_roundw
   case rel=>exact⟨A2,cap2,k+1,_,rfl,by go_num,ae,zq (by rw[mr.out,aDk,xx.out];rfl),zq ST2⟩
   case measure=>simp[intOf];omega
  obtain rfl:k=n:=ae;have HF:Hid (L.map M.t=l.map aT):=zq (by
   have h1:=xx.out;rwa [aDj (by rw[HL.out];exact aC8 _)]at h1)
  go_wp2;go_ret;exact⟨A1,_,cap1,L,rfl,HS.out,HF.out⟩
theorem als(w:ak)(c0 c1 c2:au):∃w0,(w.alloc (.cells #[c0,c1,c2] 161)).alloc (.cells ↑Zz.a 186)=w0/\Ev w w0/\Bx 161 w.heap.size #[c0,c1,c2] w0/\Bx 186 (w.heap.size+1) ↑Zz.a w0:=by
 have hB:Bx 186 (w.heap.size+1) ↑Zz.a ((w.alloc (.cells #[c0,c1,c2] 161)).alloc (.cells ↑Zz.a 186)):=by have:=Bx.new 186 ↑Zz.a (w.alloc (.cells #[c0,c1,c2] 161));simpa using this
 exact⟨_,rfl,(Ev.alloc w _).trans aC,(Bx.new 161 #[c0,c1,c2] w).ev aC,hB⟩
theorem Ss.made(w:ak)(l:List By)(cs:Array au)(h:cs.toList=cl sc l)(hl:l.length<=1000000):Ss (w.alloc (.cells cs 9)) ↑w l.length l.length l:=by
 obtain⟨A,cap,hv,hS,_⟩:=(Ow.made (et:=9) (base:=w.heap.size) qU w l cs h (aC8 _) hl).form qU;injection hv with h1 _ h3
 subst h1 h3;exact hS
theorem aFP(h:U:=by have hbl:=HB.out.lt;refine⟨.mk 1 [] 0 A1 cap1 L 0,by simp only[M.kids,M.kind,M.s,M.n,M.A,M.cap,M.pos];rw[<-hnl];rfl,by simp only[M.t,M.vz];rw[xx.out];rfl,?_,HE.out.trans ((((Ev.alloc w0 _).trans HK.out.ev).trans uX.out)) |>.box (dZ _ _ _ _ _ _ _) ae⟩;exact(((hlx.ev uX.out).less (K':=[w.heap.size+1]) λk hk=>by simp at hk;subst hk;exact .inr (.inl ae)).move (dZ _ _ _ _ _ _ _) λk hk=>by cases hk).low ae):U:=h
theorem YC(a:Ag)(w:ak):Calls ax 179 #[.agg #[.string ⟨a.1.toArray⟩,.string ⟨a.2.1.toArray⟩,.string ⟨a.2.2.toArray⟩]] w (oV (eH a) w):=by
 obtain⟨s0,s1,s2⟩:=a;obtain⟨w0,hw0,aV,hX,hB⟩:=als w ↑s0 ↑s1 ↑s2;obtain⟨⟨c0,c1,c2⟩,_⟩:=hX.three;have HB:=zq hB;have HE:=zq aV;have HOP:=zq (λA n cap w1=>Eh A n cap w1);unfold oV;clear hX hB aV;simp only;by_cases hs:s2=[]
 ·subst hs;have HR:Hid (eH (s0,s1,[])=dh ([s0,s1].map aT)):=zq rfl;have YD:Calls ax 175 #[.slice (some ⟨↑w0,0,none⟩) 2 2] (w0.alloc (.cells #[.string ⟨s0.toArray⟩,.string ⟨s1.toArray⟩] 9)) (uV ([s0,s1].map aT) (w0.alloc (.cells #[.string ⟨s0.toArray⟩,.string ⟨s1.toArray⟩] 9))):=wF [s0,s1] _ _ _ _ (Ss.made w0 [s0,s1] _ rfl aj) aj;unfold uV at YD;have HAT:=zq YD;clear YD;rw[HR.out];go_enter func179,ntmps179
  go_wp2_with (first
   | ((with_reducible refine HAT.out.mono ?_);rintro e w1 ⟨A1,n1,cap1,L,rfl,hK,hLT⟩;have HK:=zq hK;have xx:=zq hLT;clear hK hLT)
   | ((with_reducible refine(HOP.out _ _ _ _).mono ?_);rintro e w2 ⟨rfl,dJ⟩;have uX:=zq dJ;have uk:=zq (HB.out.ev (((Ev.alloc w0 _).trans HK.out.ev).trans dJ));obtain⟨⟨d0,d1,d2,d3,d4⟩,r0,r1,r2,r3,r4⟩:=uk.out.five;clear dJ))
  (try simp only[Exit.inBlock,Exit.then]);rw[fK];refine aFe (aZ rfl _ _ _ _ _ rfl (uk.out.pG _ _ _ _ _) underlying186 rfl Tryz.sJ) rfl ?_;obtain⟨hlx,hnl⟩:=HK.out.done;have hsz:=HE.out.size;have aeZ:=(Ev.alloc w0 (.cells #[↑s0,↑s1] 9)).size;exact aFP
 have he:List.isEmpty s2=false:=by cases s2 with|nil=>exact absurd rfl hs|cons _ _=>rfl
 have HR:Hid (eH (s0,s1,s2)=dh ([s0,s1,s2].map aT)):=zq (by
  unfold eH;rw[show s2.isEmpty=false by cases s2 with|nil=>exact absurd rfl hs|cons _ _=>rfl];rfl)
 have YD:Calls ax 175 #[.slice (some ⟨↑w0,0,none⟩) 3 3] (w0.alloc (.cells #[.string ⟨s0.toArray⟩,.string ⟨s1.toArray⟩,.string ⟨s2.toArray⟩] 9)) (uV ([s0,s1,s2].map aT) (w0.alloc (.cells #[.string ⟨s0.toArray⟩,.string ⟨s1.toArray⟩,.string ⟨s2.toArray⟩] 9))):=wF [s0,s1,s2] _ _ _ _ (Ss.made w0 [s0,s1,s2] _ rfl aj) aj;unfold uV at YD;have HAT:=zq YD;clear YD;rw[HR.out];go_enter func179,ntmps179
 go_wp2_with (first
  | ((with_reducible refine HAT.out.mono ?_);rintro e w1 ⟨A1,n1,cap1,L,rfl,hK,hLT⟩;have HK:=zq hK;have xx:=zq hLT;clear hK hLT)
  | ((with_reducible refine(HOP.out _ _ _ _).mono ?_);rintro e w2 ⟨rfl,dJ⟩;have uX:=zq dJ;have uk:=zq (HB.out.ev (((Ev.alloc w0 _).trans HK.out.ev).trans dJ));obtain⟨⟨d0,d1,d2,d3,d4⟩,r0,r1,r2,r3,r4⟩:=uk.out.five;clear dJ))
 (try simp only[Exit.inBlock,Exit.then]);rw[fK];refine aFe (aZ rfl _ _ _ _ _ rfl (uk.out.pG _ _ _ _ _) underlying186 rfl Tryz.sJ) rfl ?_;obtain⟨hlx,hnl⟩:=HK.out.done;have hsz:=HE.out.size;have aeZ:=(Ev.alloc w0 (.cells #[↑s0,↑s1,↑s2] 9)).size;exact aFP
structure OwT(b0:Nat)(w:ak)(A:Option Addr)(n cap:Nat)(L:List M):Prop where
 own:Ow 186 5 mc b0 w (.slice A n cap) L
 len:L.length=n
 lies:∀x∈L,Lies b0 (foot (.slice A n cap)) w x
theorem uo.owt{w0 w:ak}{b0:Nat}{A:Option Addr}{n cap:Nat}{L:List M}(h:uo w0 A n cap L w)(hb:b0<=w0.heap.size):OwT b0 w A n cap L:=⟨h.own.low hb,h.len,λx hx=>(h.lies x hx).low hb⟩
theorem OwT.ev{b0:Nat}{w w':ak}{A:Option Addr}{n cap:Nat}{L:List M}(h:OwT b0 w A n cap L)(hE:Ev w w'):OwT b0 w' A n cap L:=⟨h.own.ev hE,h.len,λx hx=>(h.lies x hx).ev hE⟩
def Vz(b0:Nat)(Ts:List T)(v:au)(w:ak):Prop:=∃A n cap L,v=.slice A n cap/\OwT b0 w A n cap L/\L.map M.t=Ts
theorem Vz.ev{b0:Nat}{Ts:List T}{v:au}{w w':ak}(h:Vz b0 Ts v w)(hE:Ev w w'):Vz b0 Ts v w':=by obtain⟨A,n,cap,L,e,h1,h2⟩:=h;exact⟨A,n,cap,L,e,h1.ev hE,h2⟩
theorem Vz.wZ{b0:Nat}{Ts:List T}{v:au}{w:ak}(h:Vz b0 Ts v w):∀k∈foot v,b0<=k/\k<w.heap.size:=by obtain⟨A,n,cap,L,rfl,h1,h2⟩:=h;exact λk hk=>h1.own.lt (aG.1 hk)
theorem uV.p0{Ts:List T}{w:ak}{e:Ending}{w':ak}{b0:Nat}(h:uV Ts w e w')(hb:b0<=w.heap.size):∃v,e=.returned v/\Vz b0 Ts v w'/\(∀k∈foot v,w.heap.size<=k)/\Ev w w':=by obtain⟨A,n,cap,L,rfl,h1,h2⟩:=h;exact⟨_,rfl,⟨A,n,cap,L,rfl,h1.owt hb,h2⟩,λk hk=>(h1.own.lt (aG.1 hk)).1,h1.ev⟩
structure JF(F:List Nat->au->ak->Prop):Prop where
 ev:∀K v u u',Ev u u'->F K v u->F K v u'
 new:∀K v u,(∀k∈K,u.heap.size<=k)->F [] v u->F K v u
def FT(b0:Nat)(t:T)(K:List Nat)(v:au)(u:ak):Prop:=∃x:M,v=.agg ↑x/\x.t=t/\Lies b0 K u x
theorem FT.jf(b0:Nat)(t:T):JF (FT b0 t):=⟨λK v u u' hE ⟨x,e,h1,h2⟩=>⟨x,e,h1,h2.ev hE⟩,λK v u hK ⟨x,e,h1,h2⟩=>⟨x,e,h1,h2.less λk hk=>.inr (.inr (hK k hk))⟩⟩
def FM(b0:Nat)(Ts:List T)(K:List Nat)(v:au)(u:ak):Prop:=∃A n cap L,v=.slice A n cap/\Ms u A n cap L/\L.map M.t=Ts/\∀x∈L,Lies b0 K u x
theorem FM.jf(b0:Nat)(Ts:List T):JF (FM b0 Ts):=⟨λK v u u' hE ⟨A,n,cap,L,e,h1,h2,h3⟩=>⟨A,n,cap,L,e,h1.ev hE,h2,λx hx=>(h3 x hx).ev hE⟩,λK v u hK ⟨A,n,cap,L,e,h1,h2,h3⟩=>⟨A,n,cap,L,e,h1,h2,λx hx=>(h3 x hx).less λk hk=>.inr (.inr (hK k hk))⟩⟩
def GJ(i0 d0:Nat)(P0:au->ak->Prop)(fs:List (Nat×Nat×(List Nat->au->ak->Prop)))(L:Nat->Bool)(a:Act)(u:ak):Prop:=
 (L i0=true->P0 (a.eval (.tmp d0)) u)/\∀f∈fs,L f.1=true->f.2.2 (if L i0=true then foot (a.eval (.tmp d0)) else []) (a.eval (.tmp f.2.1)) u
section
variable {i0 d0:Nat} {P0:au->ak->Prop} {fs:List (Nat×Nat×(List Nat->au->ak->Prop))}
theorem GJ.none{L:Nat->Bool}{a:Act}{u:ak}(h:∀j,L j=false):GJ i0 d0 P0 fs L a u:=⟨(λe=>by rw[h]at e;cases e),λf _ e=>by rw[h]at e;cases e⟩
theorem GJ.keep(hP:∀v u u',Ev u u'->P0 v u->P0 v u')(hJ:∀f∈fs,JF f.2.2){L L':Nat->Bool}{a a':Act}{u u':ak}(hL0:L' i0=L i0)(hL:∀f∈fs,L' f.1=L f.1)(ha0:a'.eval (.tmp d0)=a.eval (.tmp d0))(ha:∀f∈fs,a'.eval (.tmp f.2.1)=a.eval (.tmp f.2.1))(hE:Ev u u')(h:GJ i0 d0 P0 fs L a u):GJ i0 d0 P0 fs L' a' u':=by refine⟨λe=>?_,λf hf e=>?_⟩;rw[ha0];exact hP _ _ _ hE (h.1 (hL0▸e));rw[ha0,ha f hf,hL0];exact(hJ f hf).ev _ _ _ _ hE (h.2 f hf (hL f hf▸e))
theorem GJ.first(hJ:∀f∈fs,JF f.2.2){L L':Nat->Bool}{a:Act}{v:au}{u u':ak}(h:GJ i0 d0 P0 fs L a u)(hu:L i0=false)(hE:Ev u u')(hne:∀f∈fs,f.1≠i0/\f.2.1≠d0)(hsz:d0<a.tmps.size)(hP:P0 v u')(hnew:∀k∈foot v,u.heap.size<=k)(h1:L' i0=true)(h2:∀j,j≠i0->L' j=L j):GJ i0 d0 P0 fs L' (a.put (some d0) v) u':=by refine⟨λ_=>by rw[eval_put_same hsz];exact hP,λf hf e=>?_⟩;obtain⟨n1,n2⟩:=hne f hf;rw[eval_put_same hsz,dG (λe=>n2 (aDp e).symm),h1,if_pos rfl];have h3:=h.2 f hf (h2 _ n1▸e);rw[hu,if_neg aEs]at h3;exact(hJ f hf).ev _ _ _ _ hE ((hJ f hf).new _ _ _ hnew h3)
theorem GJ.other(hP:∀v u u',Ev u u'->P0 v u->P0 v u')(hJ:∀f∈fs,JF f.2.2){L L':Nat->Bool}{a:Act}{v:au}{u u':ak}{i d:Nat}(h:GJ i0 d0 P0 fs L a u)(hE:Ev u u')(hne:i≠i0/\d≠d0)(hd:∀f∈fs,f.1≠i->f.2.1≠d)(hsz:d<a.tmps.size)(hF:∀f∈fs,f.1=i->f.2.1=d/\f.2.2 (if L i0=true then foot (a.eval (.tmp d0)) else []) v u')(h1:L' i=true)(h2:∀j,j≠i->L' j=L j):GJ i0 d0 P0 fs L' (a.put (some d) v) u':=by have hL0:L' i0=L i0:=h2 _ λe=>hne.1 e.symm;have ha0:(a.put (some d) v).eval (.tmp d0)=a.eval (.tmp d0):=dG λe=>hne.2 (aDp e);refine⟨λe=>?_,λf hf e=>?_⟩;rw[ha0];exact hP _ _ _ hE (h.1 (hL0▸e));rw[ha0,hL0];by_cases hi:f.1=i;obtain⟨e1,e2⟩:=hF f hf hi;rw[e1,eval_put_same hsz];exact e2;rw[dG (λe=>hd f hf hi (aDp e).symm)];exact(hJ f hf).ev _ _ _ _ hE (h.2 f hf (h2 _ hi▸e))
theorem GJ.old{b0:Nat}{Ts:List T}{L:Nat->Bool}{a:Act}{u:ak}(h:GJ i0 d0 (Vz b0 Ts) fs L a u):∀k∈(if L i0=true then foot (a.eval (.tmp d0)) else []),k<u.heap.size:=by
 intro k hk;split at hk;rename_i e;exact((h.1 e).wZ k hk).2
 cases hk
end
theorem OD{P:Program}{ρ:Operand->au}{o:Oper}{T:TypeId}{s x:Operand}{v y v':au}{w w':ak}(ho:o.op=.call {callee:=.builtin .append,args:=#[s,x],argTypes:=#[T,T]})(hs:ρ s=v)(hx:ρ x=y)(hr:(Builtin.append_ #[T,T] o.type #[v,y]).run P w=.ok v' w'):(execOp ρ o).run P w=.ok (.value v') w':=by unfold execOp;simp only[ho,resolve,invoke,builtin,aFa,aFb,aFc,aD1,aDe,aDu,hs,hx,hr]
theorem Gw{ρ:Operand->au}{o:Oper}{s x:Operand}{v y:au}{w:ak}{b0:Nat}{Ts Us:List T}(ho:o.op=.call {callee:=.builtin .append,args:=#[s,x],argTypes:=#[184,184]})(hs:ρ s=v)(hx:ρ x=y)(h1:Vz b0 Ts v w)(h2:FM b0 Us (foot v) y w)(hl:Ts.length+Us.length<=1000000)(hb:b0<=w.heap.size):
  ∃v' w',(execOp ρ o).run ax w=.ok (.value v') w'/\Vz b0 (Ts++Us) v' w'/\But (foot v) w w':=by
 obtain⟨A,n,cap,L,rfl,hO,hLt⟩:=h1;obtain⟨A2,n2,cap2,L2,rfl,hM,aoO,hlies⟩:=h2;have hLl:L.length=Ts.length:=by rw[<-hLt,aC_]
 have azB:L2.length=Us.length:=by rw[<-aoO,aC_]
 obtain⟨v',w',hr,h3,h4,h5,_⟩:=ja (P:=ax) jU 184 o.type underlying184 Tryz.infoTree rfl hO.own A2 n2 cap2 L2 hM ae ae hb;refine⟨v',w',OD ho hs hx hr,?_,h4⟩;obtain⟨A3,cap3,rfl,qJ,I7⟩:=h3.form jU;refine⟨A3,_,cap3,L++L2,rfl,⟨h3,rfl,λy hy=>?_⟩,by rw[aDk,hLt,aoO]⟩;have hy2:Lies b0 (foot (.slice A n cap)) w y:=by rcases aDm.1 hy with h|h;exact hO.lies y h;exact hlies y h
 exact hy2.move h4 λk hk=>by rcases h5 k (aG.1 hk) with h|h;exact .inl (aG.2 h);exact .inr (.inr h)
theorem MR{ρ:Operand->au}{o:Oper}{x:Operand}(m:M)(ho:o.op=.buildSlice 184 1 #[(0,x)])(h:ρ x=.agg ↑m)(w:ak):
  (execOp ρ o).run ax w=.ok (.value (.slice ↑w 1 1)) (w.alloc (.cells ↑m 186)):=by
 unfold execOp;rw[ho];simp[h,go_sem]
theorem MS{ρ:Operand->au}{o:Oper}{x:Operand}(s:By)(ho:o.op=.buildSlice 31 1 #[(0,x)])(h:ρ x=↑s)(w:ak):
  (execOp ρ o).run ax w=.ok (.value (.slice ↑w 1 1)) (w.alloc (.cells #[↑s] 9)):=by
 unfold execOp;rw[ho];simp[h,go_sem]
theorem FT.slice{b0:Nat}{t:T}{K:List Nat}{u:ak}(x:M)(h:x.t=t)(hl:Lies b0 K u x):FM b0 [t] K (.slice ↑u 1 1) (u.alloc (.cells ↑x 186)):=
 ⟨_,1,1,[x],rfl,Sl.one (et:=186) jU u x _ rfl,by rw[aDe,aDu,h],λy hy=>by simp at hy;subst hy;exact hl.ev aC⟩
def FSs(s:By)(v:au)(u:ak):Prop:=∃g,v=.slice (some ⟨g,0,none⟩) 1 1/\Ss u (some ⟨g,0,none⟩) 1 1 [s]
theorem FSs.mono(s:By):kK (FSs s):=λv u u' hE ⟨g,e,h⟩=>⟨g,e,h.ev hE⟩
theorem Vz.mono(b0:Nat)(Ts:List T):kK (Vz b0 Ts):=λv u u' hE h=>h.ev hE
theorem But.ae0{K:List Nat}{w0 u u':ak}(hE:Ev w0 u)(hb:But K u u')(hK:∀k∈K,w0.heap.size<=k):Ev w0 u':=((But.aU hE).then hb).ev hK
theorem RJ(m:PM):aI m.p=dh (kQ m.kind m.name (m.ex.l.map M.t) m.co.l m.lf.l m.rt.l m.ag.l++m.kids.map λx=>aI x.p):=by rw[PM.tu,aI,sW,aDx];rfl
theorem uo.since{w0 w1 w':ak}{A:Option Addr}{n cap:Nat}{L:List M}(hE:Ev w0 w1)(h:uo w1 A n cap L w'):uo w0 A n cap L w':=⟨h.own.low hE.size,h.len,λx hx=>(h.lies x hx).low hE.size,hE.trans h.ev⟩
theorem YE(w:ak)(c0 c1 c2 c3 c4 c5 c6 c7:au):∃w0,(w.alloc (.cells #[c0,c1,c2,c3,c4,c5,c6,c7] 35)).alloc (.cells ↑Zz.a 186)=w0/\Ev w w0/\Bx 35 w.heap.size #[c0,c1,c2,c3,c4,c5,c6,c7] w0/\Bx 186 (w.heap.size+1) ↑Zz.a w0:=by
 have hB:Bx 186 (w.heap.size+1) ↑Zz.a ((w.alloc (.cells #[c0,c1,c2,c3,c4,c5,c6,c7] 35)).alloc (.cells ↑Zz.a 186)):=by have:=Bx.new 186 ↑Zz.a (w.alloc (.cells #[c0,c1,c2,c3,c4,c5,c6,c7] 35));simpa using this
 exact⟨_,rfl,(Ev.alloc w _).trans aC,(Bx.new 35 #[c0,c1,c2,c3,c4,c5,c6,c7] w).ev aC,hB⟩
theorem aFv(h:U:=by
 have oU:Hid (L.length<=50000):=zq (by
  have h5:=aD8 List.length HR.out;rw[aDd,aC_,aC_,RQ.out,aC_,aDP]at h5;have:=IV.out;have:=qg.out;omega)
 have i1:(0:Int)<=(j:Int):=ae;have i2:(j:Int)<(m.kids.length:Int):=ae;clear hx tq
 go_wp2_with (first
  | ((with_reducible refine(HI.out _ (Rl.out.trans (Ev.alloc wr _))).mono ?_);rintro e w1 ⟨x',rfl,qB,lD,aJ⟩;have Am:=zq qB;have IZ:=zq lD;have E1:=zq ((Ev.alloc wr _).trans aJ);clear qB lD)
  | ((show wpList _ _ _ (⟨some 101,_,_,_,_,_⟩::_) _ _);refine aQ (o:=⟨some 101,_,_,_,_,_⟩) rfl 184 (.tmp 97) (.tmp 100) rfl jU underlying184 Tryz.infoTree rfl rfl (HS.out.own.ev (E1.out.trans (Ev.alloc w1 _))) ↑w1 1 1 [x'] rfl (Sl.one (et:=186) jU w1 x' _ rfl) (by have:=oU.out;simp;omega) (by have:=oU.out;simp;omega) ((HS.out.ev.trans E1.out).trans (Ev.alloc w1 _)).size ?_;intro v2 w2 iq;obtain⟨A2,cap2,rfl,ST2⟩:=HS.out.next (E1.out.trans (Ev.alloc w1 _)) ((IZ.out.low (Ev.alloc wr (.cells ↑x 35)).size).ev (Ev.alloc w1 _)) iq))
 go_roundw
 case rel=>exact⟨A2,n1+1,cap2,j+1,L++[x'],rfl,by go_num,ae,zq ST2,zq (by rw[mr.out,aDk,HR.out,aDe,aDu,Am.out,aDA])⟩
 case measure=>simp[intOf];omega):U:=h
theorem aFr(h:U:=by
 obtain⟨x,hx⟩:=Jw.out.at hlt;obtain⟨b,off,rfl,hb_,_⟩:=Jw.out.rd ae;obtain⟨x0,x1,x2,x3,x4,x5,x6,x7⟩:=Ps.cell (Jw.out.ev Rl.out) hx;unfold dK.v PM.kv at*;have tq:=aDb hx;have mr:Hid ((m.kids.take (j+1)).map (λx=>aI x.p)=(m.kids.take j).map (λx=>aI x.p)++[aI x.p]):=zq (by
  obtain⟨hk2,e⟩:=aC6.1 hx;rw[aDi hk2,e,aDk];rfl)
 have HI:=zq (λw1 (hE:Ev w w1)=>Dk.out x tq w1 hE);exact aFv):U:=h
theorem aFw(h:U:=by
 obtain rfl:j=m.kids.length:=ae;obtain⟨hlx,hnl⟩:=HS.out.done;have oU:=zq hnl;have hbl:=HB.out.lt;have ae2:=zq (hlx.less (K':=[w.heap.size+1]) λk hk=>by simp at hk;subst hk;exact .inr (.inl hbl));have HTT:Hid (M.t (.mk 1 [] 0 A1 cap1 L 0)=R):=zq (by
  have h5:=HR.out;rw[aEt]at h5;simp only[M.t,M.vz];rw[h5,ZR.out];rfl)
 have HOP:=zq (Eh A1 n1 cap1 wr);have Kw:=zq HE.out.size;clear hlx hnl hbl
 go_wp2_with (first
  | ((with_reducible refine HOP.out.mono ?_);rintro e w2 ⟨rfl,dJ⟩;have uX:=zq dJ;have uk:=zq (HB.out.ev (HS.out.ev.trans dJ));obtain⟨⟨d0,d1,d2,d3,d4⟩,r0,r1,r2,r3,r4⟩:=uk.out.five;clear dJ))
 (try simp only[Exit.inBlock,Exit.then]);rw[fK];refine aFe (aZ rfl _ _ _ _ _ rfl (uk.out.pG _ _ _ _ _) underlying186 rfl Tryz.sJ) rfl ?_;refine⟨.mk 1 [] 0 A1 cap1 L 0,by simp only[M.kids,M.kind,M.s,M.n,M.A,M.cap,M.pos];rw[<-oU.out];rfl,HTT.out,?_,(Rl.out.trans uX.out).box (dZ _ _ _ _ _ _ _) ae⟩;exact(((ae2.out.ev uX.out)).move (dZ _ _ _ _ _ _ _) λk hk=>by cases hk).low Kw.out):U:=h
theorem RN(m:PM)(b0:Nat)(w:ak)(h:Qx b0 [] w m)(hk:m.kind=1)(hkn:m.kids.length<=10000)(ih:∀x∈m.kids,∀w1,Ev w w1->Calls ax 121 #[pv x] w1 (oV (aI x.p) w1)):
  Calls ax 121 #[pv m] w (oV (aI m.p) w):=by
 have dH:Tryz.prog.follows .mixedOrders=true:=ah;have VA:=RJ m;rw[hk]at VA;obtain⟨R,hR⟩:∃R,R=aI m.p:=⟨_,rfl⟩
 rw[<-hR]at VA|-;have HRT:Hid (R=dh ([gm,m.name].map aT++m.kids.map λx=>aI x.p)):=zq VA;obtain⟨hex,hlx,hco,zf,hrt,OE,hks,hkq⟩:=h.at;have yG:=h.ps;have ET:=h.ps.le;have hkm:=h.ps.max;have Dk:=zq ih;unfold pv dK.v PM.kv oV;unfold pv dK.v PM.kv oV at Dk;rw[hk];clear hks hkq h;generalize m.A=mA at*;generalize m.cap=LZ at*;have Jw:=zq yG;obtain⟨w0,hw0,aV,hX,hB⟩:=YE w (.int .i64 1) ↑m.name (.slice m.ex.A m.ex.l.length m.ex.cap) (.slice m.co.A m.co.l.length m.co.cap) (.slice m.lf.A m.lf.l.length m.lf.cap) (.slice m.rt.A m.rt.l.length m.rt.cap) (.slice m.ag.A m.ag.l.length m.ag.cap) (.slice mA m.kids.length LZ);obtain⟨⟨p0,p1,p2,p3,p4,p5,p6,p7⟩,_⟩:=hX.eight;have HX:=zq hX;have HB:=zq hB;have HE:=zq aV;have qg:=zq hkn;clear VA hX hB aV hex hlx hco zf hrt OE ih hR hk yG;have YD:Calls ax 175 #[.slice (some ⟨↑w0,0,none⟩) 2 2] (w0.alloc (.cells #[.string ⟨#[116,97,98,108,101]⟩,.string ⟨m.name.toArray⟩] 9)) (uV ([gm,m.name].map aT) (w0.alloc (.cells #[.string ⟨#[116,97,98,108,101]⟩,.string ⟨m.name.toArray⟩] 9))):=wF [gm,m.name] _ _ _ _ (Ss.made w0 [gm,m.name] _ rfl aj) aj;unfold uV at YD;have HAT:=zq YD;clear YD;go_enter func121,ntmps121
 go_wp2_with (first
  | ((with_reducible refine HAT.out.mono ?_);rintro e w1 ⟨A3,n3,cap3,L3,rfl,hK,hLT⟩;have HK:=zq (uo.since (Ev.alloc w0 _) hK);have xx:=zq hLT;clear hK hLT p0 p1 p2 p3 p4 p5 p6 p7;obtain⟨⟨p0,p1,p2,p3,p4,p5,p6,p7⟩,_⟩:=(HX.out.ev HK.out.ev).eight))
 have IV:Hid (L3.length<=30000):=zq (by have:=aD8 List.length xx.out;simp at this;omega);obtain⟨hd,P9⟩:∃hd,hd=L3.map M.t:=⟨_,rfl⟩
 have ZR:Hid (R=dh (hd++m.kids.map λx=>aI x.p)):=zq (by rw[HRT.out,P9,xx.out]);have RQ:=zq P9;clear P9
 go_loopw [3,93] (λkv iv wr=>∃(A1:Option Addr) (n1 cap1 j:Nat) (L:List M),kv=.slice A1 n1 cap1/\iv=↑j/\j<=m.kids.length/\Hid (uo w0 A1 n1 cap1 L wr)/\Hid (L.map M.t=hd++(m.kids.take j).map λx=>aI x.p)) (λ_ iv _=>m.kids.length-(intOf iv).toNat)
 case atStart=>exact⟨_,n3,cap3,0,L3,rfl,rfl,aDl _,HK,zq (by rw[RQ.out];simp)⟩
 case round=>
  obtain⟨A1,n1,cap1,j,L,rfl,rfl,hj,HS,HR⟩:=hrel;have Rl:=zq (HE.out.trans HS.out.ev);by_cases hlt:j<m.kids.length;exact aFr;exact aFw
theorem RS(m:PM)(b0:Nat)(w:ak)(h:Qx b0 [] w m)(hk:m.kind=5)(hkn:m.kids.length<=10000)(ih:∀x∈m.kids,∀w1,Ev w w1->Calls ax 121 #[pv x] w1 (oV (aI x.p) w1)):
  Calls ax 121 #[pv m] w (oV (aI m.p) w):=by
 have dH:Tryz.prog.follows .mixedOrders=true:=ah;have VA:=RJ m;rw[hk]at VA;obtain⟨R,hR⟩:∃R,R=aI m.p:=⟨_,rfl⟩
 rw[<-hR]at VA|-;have HRT:Hid (R=dh ([iw].map aT++m.kids.map λx=>aI x.p)):=zq VA;obtain⟨hex,hlx,hco,zf,hrt,OE,hks,hkq⟩:=h.at;have yG:=h.ps;have ET:=h.ps.le;have hkm:=h.ps.max;have Dk:=zq ih;unfold pv dK.v PM.kv oV;unfold pv dK.v PM.kv oV at Dk;rw[hk];clear hks hkq h;generalize m.A=mA at*;generalize m.cap=LZ at*;have Jw:=zq yG;obtain⟨w0,hw0,aV,hX,hB⟩:=YE w (.int .i64 5) ↑m.name (.slice m.ex.A m.ex.l.length m.ex.cap) (.slice m.co.A m.co.l.length m.co.cap) (.slice m.lf.A m.lf.l.length m.lf.cap) (.slice m.rt.A m.rt.l.length m.rt.cap) (.slice m.ag.A m.ag.l.length m.ag.cap) (.slice mA m.kids.length LZ);obtain⟨⟨p0,p1,p2,p3,p4,p5,p6,p7⟩,_⟩:=hX.eight;have HX:=zq hX;have HB:=zq hB;have HE:=zq aV;have qg:=zq hkn;clear VA hX hB aV hex hlx hco zf hrt OE ih hR hk yG;have YD:Calls ax 175 #[.slice (some ⟨↑w0,0,none⟩) 1 1] (w0.alloc (.cells #[.string ⟨#[117,110,105,111,110]⟩] 9)) (uV ([iw].map aT) (w0.alloc (.cells #[.string ⟨#[117,110,105,111,110]⟩] 9))):=wF [iw] _ _ _ _ (Ss.made w0 [iw] _ rfl aj) aj;unfold uV at YD;have HAT:=zq YD;clear YD;go_enter func121,ntmps121
 go_wp2_with (first
  | ((with_reducible refine HAT.out.mono ?_);rintro e w1 ⟨A3,n3,cap3,L3,rfl,hK,hLT⟩;have HK:=zq (uo.since (Ev.alloc w0 _) hK);have xx:=zq hLT;clear hK hLT p0 p1 p2 p3 p4 p5 p6 p7;obtain⟨⟨p0,p1,p2,p3,p4,p5,p6,p7⟩,_⟩:=(HX.out.ev HK.out.ev).eight))
 have IV:Hid (L3.length<=30000):=zq (by have:=aD8 List.length xx.out;simp at this;omega);obtain⟨hd,P9⟩:∃hd,hd=L3.map M.t:=⟨_,rfl⟩
 have ZR:Hid (R=dh (hd++m.kids.map λx=>aI x.p)):=zq (by rw[HRT.out,P9,xx.out]);have RQ:=zq P9;clear P9
 go_loopw [3,93] (λkv iv wr=>∃(A1:Option Addr) (n1 cap1 j:Nat) (L:List M),kv=.slice A1 n1 cap1/\iv=↑j/\j<=m.kids.length/\Hid (uo w0 A1 n1 cap1 L wr)/\Hid (L.map M.t=hd++(m.kids.take j).map λx=>aI x.p)) (λ_ iv _=>m.kids.length-(intOf iv).toNat)
 case atStart=>exact⟨_,n3,cap3,0,L3,rfl,rfl,aDl _,HK,zq (by rw[RQ.out];simp)⟩
 case round=>
  obtain⟨A1,n1,cap1,j,L,rfl,rfl,hj,HS,HR⟩:=hrel;have Rl:=zq (HE.out.trans HS.out.ev);by_cases hlt:j<m.kids.length;exact aFr;exact aFw
def FO(b0:Nat)(Ts:List T)(K:List Nat)(v:au)(u:ak):Prop:=∃A n cap L,v=.slice A n cap/\n=L.length/\L.map M.t=Ts/\Lies b0 K u (.mk 1 [] 0 A cap L 0)
theorem FO.jf(b0:Nat)(Ts:List T):JF (FO b0 Ts):=⟨λK v u u' hE ⟨A,n,cap,L,e,h1,h2,h3⟩=>⟨A,n,cap,L,e,h1,h2,h3.ev hE⟩,λK v u hK ⟨A,n,cap,L,e,h1,h2,h3⟩=>⟨A,n,cap,L,e,h1,h2,h3.less λk hk=>.inr (.inr (hK k hk))⟩⟩
theorem uV.fo{Ts:List T}{w:ak}{e:Ending}{w':ak}{b0:Nat}{K:List Nat}(h:uV Ts w e w')(hb:b0<=w.heap.size)(hK:∀k∈K,k<w.heap.size):∃v,e=.returned v/\FO b0 Ts K v w'/\Ev w w':=by obtain⟨A,n,cap,L,rfl,h1,h2⟩:=h;obtain⟨h3,h4⟩:=h1.done;exact⟨_,rfl,⟨A,n,cap,L,rfl,h4,h2,(h3.less λk hk=>.inr (.inl (hK k hk))).low hb⟩,h1.ev⟩
theorem aHW(h:U:=by
 have bn:a.eval (.tmp 1)=.pointer ↑w:=(c.was 1 rfl)
 generalize a.eval=ρ at bn|-;simp[execOp,bn,go_sem]):U:=h
theorem RU(m:PM)(b0:Nat)(w:ak)(h:Qx b0 [] w m)(hk:m.kind=7)(kN:m.lf.l.length<=10000)(Jj:m.ag.l.length<=10000)(hkn:m.kids.length<=10000)(ih:∀x∈m.kids,∀w1,Ev w w1->Calls ax 121 #[pv x] w1 (oV (aI x.p) w1)):
  Calls ax 121 #[pv m] w (oV (aI m.p) w):=by
 have dH:Tryz.prog.follows .mixedOrders=true:=ah;have VA:=RJ m;rw[hk]at VA;obtain⟨R,hR⟩:∃R,R=aI m.p:=⟨_,rfl⟩
 rw[<-hR]at VA|-;have HRT:Hid (R=dh ((([dX].map aT++[bH m.lf.l])++m.ag.l.map eH)++m.kids.map λx=>aI x.p)):=zq VA;obtain⟨hex,hlx,hco,zf,hrt,OE,hks,hkq⟩:=h.at;have yG:=h.ps;have ET:=h.ps.le;have hkm:=h.ps.max;have Dk:=zq ih;unfold pv dK.v PM.kv oV;unfold pv dK.v PM.kv oV at Dk;rw[hk];clear hks hkq h;generalize m.A=mA at*;generalize m.cap=LZ at*;have Jw:=zq yG;obtain⟨w0,hw0,aV,hX,hB⟩:=YE w (.int .i64 7) ↑m.name (.slice m.ex.A m.ex.l.length m.ex.cap) (.slice m.co.A m.co.l.length m.co.cap) (.slice m.lf.A m.lf.l.length m.lf.cap) (.slice m.rt.A m.rt.l.length m.rt.cap) (.slice m.ag.A m.ag.l.length m.ag.cap) (.slice mA m.kids.length LZ);obtain⟨⟨p0,p1,p2,p3,p4,p5,p6,p7⟩,_⟩:=hX.eight;have HX:=zq hX;have HB:=zq hB;have HE:=zq aV;have XL:=zq zf;have Ip:=zq OE;have qg:=zq hkn;clear VA hX hB aV hex hlx hco zf hrt OE ih hR hk yG;have HLS:=zq XL.out.sl;have atO:=zq kN;generalize m.lf.A=lA at*;generalize m.lf.cap=ae4 at*;clear kN;go_enter func121,ntmps121;go_upto_region 21 with fail
 have JFS:∀f∈([(4,73,FO w0.heap.size (m.lf.l.map aT)),(5,74,FT w0.heap.size (bH m.lf.l)),(6,75,FM w0.heap.size [bH m.lf.l])]:List (Nat×Nat×(List Nat->au->ak->Prop))),JF f.2.2:=λf hf=>by simp only[aDg,aEa,aEG]at hf;rcases hf with rfl|rfl|rfl<;>first|exact FT.jf _ _|exact FM.jf _ _|exact FO.jf _ _
 have JNE:∀f∈([(4,73,FO w0.heap.size (m.lf.l.map aT)),(5,74,FT w0.heap.size (bH m.lf.l)),(6,75,FM w0.heap.size [bH m.lf.l])]:List (Nat×Nat×(List Nat->au->ak->Prop))),f.1≠1/\f.2.1≠70:=λf hf=>by simp only[aDg,aEa,aEG]at hf;rcases hf with rfl|rfl|rfl<;>simp
 have JD:∀i∈([4,5,6]:List Nat),∀dd,(i,dd)∈([(4,73),(5,74),(6,75)]:List (Nat×Nat))->∀f∈([(4,73,FO w0.heap.size (m.lf.l.map aT)),(5,74,FT w0.heap.size (bH m.lf.l)),(6,75,FM w0.heap.size [bH m.lf.l])]:List (Nat×Nat×(List Nat->au->ak->Prop))),f.1≠i->f.2.1≠dd:=λi hi dd hd f hf hne=>by simp only[aDg,aEa,aEG,Prod.mk.injEq]at hf hd;rcases hf with rfl|rfl|rfl<;>(simp only at hne|-;omega)
 refine Gs dH (λu=>Ev w0 u) (λp _ _=>match p with|0=>True|_+1=>False) [7] (λ_ _=>True) [0] [[7,8]] 7 [FSs dX,λ_ _=>True,λv _=>v=.pointer (some ⟨w.heap.size,4,none⟩),λv _=>v=.slice lA m.lf.l.length ae4,λ_ _=>True,λ_ _=>True,λ_ _=>True,Vz w0.heap.size ([dX].map aT++[bH m.lf.l]),Vz w0.heap.size ([dX].map aT++[bH m.lf.l])]
  105 1 rfl ah ⟨FSs.mono _,fC,aB _,aB _,fC,fC,fC,Vz.mono _ _,Vz.mono _ _,trivial⟩ ⟨Or.inl rfl,wE,wE,wE,wE,wE,wE,Or.inr λp=>match p with|0=>Or.inl rfl|_+1=>Or.inr λ_ _ _ hb h=>hb.elim,Or.inr λp=>match p with|0=>Or.inl rfl|_+1=>Or.inr λ_ _ _ hb h=>hb.elim,trivial⟩ ah rfl ah (λ_ _ _ _ _=>trivial) (λu u' hE h=>h.trans hE) aS (trivial) ah (GJ 1 70 (Vz w0.heap.size ([dX].map aT)) [(4,73,FO w0.heap.size (m.lf.l.map aT)),(5,74,FT w0.heap.size (bH m.lf.l)),(6,75,FM w0.heap.size [bH m.lf.l])]) [1,4,5,6] ah (λL L' a a' u u' hL ha hE h=>GJ.keep (λv u u' hE h=>h.ev hE) JFS (hL 1 ai) (λf hf=>by simp only[aDg,aEa,aEG]at hf;rcases hf with rfl|rfl|rfl<;>exact hL _ aj) (ha 1 ai _ ah) (λf hf=>by simp only[aDg,aEa,aEG]at hf;rcases hf with rfl|rfl|rfl;exact ha 4 aj 73 ah;exact ha 5 aj 74 ah;exact ha 6 aj 75 ah) hE h) (λL hL=>GJ.none hL) ?_ ?_ ?_ ?_
 ·refine aO 0 ?_ (gq 1 ai (aO 2 ?_ (aO 3 ?_ (gq 4 ai (gq 5 ai (gq 6 ai (gq 7 ai (aO 8 ?_ (uU 9)))))))));refine abQ λa wq c=>⟨(ay rfl),_,_,MS dX rfl (evc a _) wq,Ev.alloc _ _,c.inv.trans (Ev.alloc wq _),⟨_,rfl,Ss.made wq [dX] _ rfl aj⟩⟩
  refine Gt λa wq c=>⟨(ay rfl),.pointer (some ⟨w.heap.size,4,none⟩),?_,rfl⟩
  exact aHW
  ·refine Gt λa wq c=>⟨(ay rfl),.slice lA m.lf.l.length ae4,?_,rfl⟩
   have bn:a.eval (.tmp 71)=.pointer (some ⟨w.heap.size,4,none⟩):=(c.new 2 71)
   have q0:=(c.inv.cell (p:=⟨w.heap.size,4,none⟩) HX.out.lt).trans p4;generalize a.eval=ρ at bn|-;simp[execOp,bn,q0,go_sem]
  refine Gt λa w c=>⟨(ay rfl),_,run_assign _ rfl w,(c.new 7 76)⟩
 refine Eb rfl ?_ (Eb rfl ?_ (Eb rfl ?_ (Eb rfl ?_ ah1)));refine MO λa wq L c hs hp hu hg=>?_;obtain⟨g_,e_,hS_⟩:=(c.got 0 69 ah ah ah rfl:FSs dX _ _)
 refine⟨ay rfl,175,#[.slice ↑g_ 1 1],?_,?_⟩;rw[bK 175 _ _ rfl ah];simp[e_];refine(wF [dX] _ 1 1 wq hS_ ae).mono ?_;rintro r wp VB;obtain⟨v_,rfl,hP_,VC,Z8⟩:=VB.p0 (b0:=w0.heap.size) c.inv.size;exact⟨v_,rfl,Z8,c.inv.trans Z8,trivial,λL' h1 h2=>GJ.first JFS hg hu Z8 JNE (Nat.lt_of_lt_of_eq (by decide:70<105) hs.symm) hP_ VC h1 h2⟩;refine MO λa wq L c hs hp hu hg=>?_;have e_:a.eval (.tmp 72)=.slice lA m.lf.l.length ae4:=(c.new 3 72)
 refine⟨ay rfl,175,#[.slice lA m.lf.l.length ae4],?_,?_⟩;rw[bK 175 _ _ rfl ah];simp[e_];refine(wF m.lf.l _ _ _ wq (HLS.out.ev (HE.out.trans c.inv)) (by have:=atO.out;omega)).mono ?_;rintro r wp VB;obtain⟨v_,rfl,hF_,Z8⟩:=VB.fo (b0:=w0.heap.size) c.inv.size hg.old;exact⟨v_,rfl,Z8,c.inv.trans Z8,trivial,λL' h1 h2=>GJ.other (λv u u' hE h=>h.ev hE) JFS hg Z8 ai (JD 4 aj 73 aj) (Nat.lt_of_lt_of_eq (by decide:73<105) hs.symm) (λf hf he=>by have VD:=hF_;simp only[aDg,aEa,aEG]at hf;rcases hf with rfl|rfl|rfl;exact⟨rfl,VD⟩;exact absurd he aj;exact absurd he aj) h1 h2⟩;refine MO λa wq L c hs hp hu hg=>?_;obtain⟨A_,n_,cap_,Z_,e_,VC,hz_,hl_⟩:=hg.2 (4,73,FO w0.heap.size (m.lf.l.map aT)) aj (hp 4 ah);refine⟨ay rfl,178,#[.slice A_ n_ cap_],?_,?_⟩;rw[bK 178 _ _ rfl ah];simp[e_];refine(Eh A_ n_ cap_ wq).mono ?_;rintro r wp ⟨rfl,Z8⟩;exact⟨_,rfl,Z8,c.inv.trans Z8,trivial,λL' h1 h2=>GJ.other (λv u u' hE h=>h.ev hE) JFS hg Z8 ai (JD 5 aj 74 aj) (Nat.lt_of_lt_of_eq (by decide:74<105) hs.symm) (λf hf he=>by have VD:=(⟨.mk 1 [] 0 A_ cap_ Z_ 0,by rw[VC];rfl,by simp only[M.t,M.vz];rw[hz_];rfl,hl_.ev Z8⟩:FT w0.heap.size (bH m.lf.l) (if L 1=true then foot (a.eval (.tmp 70)) else []) (.agg #[.int .i64 1,.string ⟨#[]⟩,.int .i64 0,.slice A_ n_ cap_,.int .i64 0]) wp);simp only[aDg,aEa,aEG]at hf;rcases hf with rfl|rfl|rfl;exact absurd he aj;exact⟨rfl,VD⟩;exact absurd he aj) h1 h2⟩;refine abR λa wq L c hs hp hu hg=>?_;obtain⟨m0_,e0_,atP,aly⟩:=hg.2 (5,74,FT w0.heap.size (bH m.lf.l)) aj (hp 5 ah);exact⟨ay rfl,_,_,MR m0_ rfl e0_ wq,Ev.alloc _ _,c.inv.trans (Ev.alloc wq _),trivial,λL' h1 h2=>GJ.other (λv u u' hE h=>h.ev hE) JFS hg aC ai (JD 6 aj 75 aj) (Nat.lt_of_lt_of_eq (by decide:75<105) hs.symm) (λf hf he=>by have VD:=(FT.slice m0_ atP aly);simp only[aDg,aEa,aEG]at hf;rcases hf with rfl|rfl|rfl;exact absurd he aj;exact absurd he aj;exact⟨rfl,VD⟩) h1 h2⟩;refine jr 0 rfl ?_ (xX 1);refine abS λa wq c st hg=>?_;obtain⟨L_,hL_,hG_⟩:=hg rfl;have hP_:=hG_.1 (hL_ 1 ah)
 have hF_:=hG_.2 (6,75,FM w0.heap.size [bH m.lf.l]) aj (hL_ 6 ah);rw[if_pos (hL_ 1 ah)]at hF_;obtain⟨v_,w_,hr_,atS,hb_⟩:=Gw (o:=⟨some 76,_,_,_,_,_⟩) rfl rfl rfl hP_ hF_ aj c.inv.size;exact⟨ay rfl,v_,w_,hr_,trivial,But.ae0 c.inv hb_ λy hy=>(hP_.wZ y hy).1,trivial,atS⟩;intro sl w1 hI hold hnew hst;obtain⟨A3,n3,cap3,L3,f3,hO3,hL3⟩:=(hnew 8 3:Vz w0.heap.size ([dX].map aT++[bH m.lf.l]) (sl 3) w1)
 have f0:sl 0=.agg #[.int .i64 7,↑m.name,.slice m.ex.A m.ex.l.length m.ex.cap,.slice m.co.A m.co.l.length m.co.cap,.slice lA m.lf.l.length ae4,.slice m.rt.A m.rt.l.length m.rt.cap,.slice m.ag.A m.ag.l.length m.ag.cap,.slice mA m.kids.length LZ]:=hold 0;have f1:sl 1=.pointer ↑w:=hold 1;have f2:sl 2=.pointer (some ⟨w.heap.size+1,0,none⟩):=hold 2;have f4:_=undef:=hold 4;have f5:_=undef:=hold 5;have f6:_=undef:=hold 6;have f7:_=undef:=hold 7;have f8:_=undef:=hold 8;have f9:_=undef:=hold 9;have f10:sl 10=.pointer ↑w:=hold 10;have f11:sl 11=.int .i64 7:=hold 11;have f12:sl 12=.bool false:=hold 12;have f13:sl 13=.bool false:=hold 13;have f14:_=undef:=hold 14;have f15:_=undef:=hold 15;have f16:_=undef:=hold 16;have f17:_=undef:=hold 17;have f18:sl 18=.bool false:=hold 18;have f19:sl 19=.bool false:=hold 19;have f20:_=undef:=hold 20;have f21:_=undef:=hold 21;have f22:_=undef:=hold 22;have f23:_=undef:=hold 23;have f24:_=undef:=hold 24;have f25:_=undef:=hold 25;have f26:_=undef:=hold 26;have f27:_=undef:=hold 27;have f28:_=undef:=hold 28;have f29:_=undef:=hold 29;have f30:_=undef:=hold 30;have f31:_=undef:=hold 31;have f32:_=undef:=hold 32;have f33:_=undef:=hold 33;have f34:_=undef:=hold 34;have f35:sl 35=.bool false:=hold 35;have f36:sl 36=.bool false:=hold 36;have f37:_=undef:=hold 37;have f38:_=undef:=hold 38;have f39:_=undef:=hold 39;have f40:_=undef:=hold 40;have f41:_=undef:=hold 41;have f42:_=undef:=hold 42;have f43:_=undef:=hold 43;have f44:_=undef:=hold 44;have f45:sl 45=.bool false:=hold 45;have f46:sl 46=.bool false:=hold 46;have f47:_=undef:=hold 47;have f48:_=undef:=hold 48;have f49:_=undef:=hold 49;have f50:_=undef:=hold 50;have f51:_=undef:=hold 51;have f52:_=undef:=hold 52;have f53:_=undef:=hold 53;have f54:_=undef:=hold 54;have f55:_=undef:=hold 55;have f56:_=undef:=hold 56
 have f57:_=undef:=hold 57;have f58:_=undef:=hold 58;have f59:sl 59=.bool false:=hold 59;have f60:sl 60=.bool false:=hold 60;have f61:_=undef:=hold 61;have f62:_=undef:=hold 62;have f63:sl 63=.bool false:=hold 63;have f64:sl 64=.bool false:=hold 64;have f65:_=undef:=hold 65;have f66:_=undef:=hold 66;have f67:sl 67=.bool true:=hold 67;have f68:sl 68=.bool true:=hold 68;have f77:_=undef:=hold 77;have f78:_=undef:=hold 78;have f79:_=undef:=hold 79;have f80:_=undef:=hold 80;have f81:_=undef:=hold 81;have f82:_=undef:=hold 82;have f83:_=undef:=hold 83;have f84:_=undef:=hold 84;have f85:_=undef:=hold 85;have f86:_=undef:=hold 86;have f87:_=undef:=hold 87;have f88:_=undef:=hold 88;have f89:_=undef:=hold 89;have f90:_=undef:=hold 90;have f91:_=undef:=hold 91;have f92:_=undef:=hold 92;have f93:_=undef:=hold 93;have f94:_=undef:=hold 94;have f95:_=undef:=hold 95;have f96:_=undef:=hold 96;have f97:_=undef:=hold 97;have f98:_=undef:=hold 98;have f99:_=undef:=hold 99;have f100:_=undef:=hold 100;have f101:_=undef:=hold 101;have f102:_=undef:=hold 102;have f103:_=undef:=hold 103;have f104:_=undef:=hold 104;change (_:Act->ak->Prop) ⟨_,_⟩ _;simp only[List.range,List.range.loop,List.map];simp only[f3,f0,f1,f2,f4,f5,f6,f7,f8,f9,f10,f11,f12,f13,f14,f15,f16,f17,f18,f19,f20,f21,f22,f23,f24,f25,f26,f27,f28,f29,f30,f31,f32,f33,f34,f35,f36,f37,f38,f39,f40,f41,f42,f43,f44,f45,f46,f47,f48,f49,f50,f51,f52,f53,f54,f55,f56,f57,f58,f59,f60,f61,f62,f63,f64,f65,f66,f67,f68,f77,f78,f79,f80,f81,f82,f83,f84,f85,f86,f87,f88,f89,f90,f91,f92,f93,f94,f95,f96,f97,f98,f99,f100,f101,f102,f103,f104];clear hold hnew hst;have HK:=zq (⟨hO3.own,hO3.len,hO3.lies,hI⟩:uo w0 A3 n3 cap3 L3 w1);have xx:=zq hL3;clear hO3 hL3 hI JFS JNE JD p0 p1 p2 p3 p4 p5 p6 p7;obtain⟨⟨p0,p1,p2,p3,p4,p5,p6,p7⟩,_⟩:=(HX.out.ev HK.out.ev).eight;have ah6:=Ip.out.sl;have hac:=ah6.le
 have ham:=ah6.max;have aoQ:=zq Jj;generalize m.ag.A=aA at*;generalize m.ag.cap=azG at*;have aoR:=zq ah6;have HGT:=zq (λa w1=>YC a w1);unfold oV at HGT;clear ah6 Jj;go_wp2
 go_loopw [3,80] (λkv iv wr=>∃(A1:Option Addr) (n1 cap1 j:Nat) (L:List M),kv=.slice A1 n1 cap1/\iv=↑j/\j<=m.ag.l.length/\Hid (uo w0 A1 n1 cap1 L wr)/\Hid (L.map M.t=([dX].map aT++[bH m.lf.l])++(m.ag.l.take j).map eH)) (λ_ iv _=>m.ag.l.length-(intOf iv).toNat)
 case atStart=>exact⟨_,n3,cap3,0,L3,rfl,rfl,aDl _,HK,zq (by rw[xx.out];simp)⟩
 case round=>
  obtain⟨A5,n5,cap5,j,L5,rfl,rfl,hj,HS,HR⟩:=hrel;have Rl:=zq (HE.out.trans HS.out.ev);clear p0 p1 p2 p3 p4 p5 p6 p7;obtain⟨⟨p0,p1,p2,p3,p4,p5,p6,p7⟩,_⟩:=(HX.out.ev HS.out.ev).eight;by_cases hlt:j<m.ag.l.length
  ·obtain⟨x,hx⟩:=aoR.out.at hlt;obtain⟨b,off,rfl,hb,hc⟩:=(aoR.out.ev Rl.out).rd ae;have x0:=hc j x hx 0 _ rfl;have x1:=hc j x hx 1 _ rfl;have x2:=hc j x hx 2 _ rfl;simp only[aDw]at x0;have mr:Hid ((m.ag.l.take (j+1)).map eH=(m.ag.l.take j).map eH++[eH x]):=zq (by
    obtain⟨hk2,e⟩:=aC6.1 hx;rw[aDi hk2,e,aDk];rfl)
   have HI:=zq (HGT.out x);have wR:=zq HS.out.len;have oU:Hid (L5.length<=10002):=zq (by
    have h5:=aD8 List.length HR.out;rw[aDd,aDd,aC_,aC_,aC_,aDP]at h5;have:=aoQ.out;simp at h5;omega)
   have i1:(0:Int)<=(j:Int):=ae;have i2:(j:Int)<(m.ag.l.length:Int):=ae;clear hx hc
   go_wp2_with (first
    | ((with_reducible refine(HI.out _).mono ?_);rintro e w5 ⟨x',rfl,qB,lD,aJ⟩;have Am:=zq qB;have IZ:=zq lD;have E1:=zq ((Ev.alloc wr _).trans aJ);clear qB lD)
    | ((show wpList _ _ _ (⟨some 88,_,_,_,_,_⟩::_) _ _);refine aQ (o:=⟨some 88,_,_,_,_,_⟩) rfl 184 (.tmp 84) (.tmp 87) rfl jU underlying184 Tryz.infoTree rfl rfl (HS.out.own.ev (E1.out.trans (Ev.alloc w5 _))) ↑w5 1 1 [x'] rfl (Sl.one (et:=186) jU w5 x' _ rfl) (by have:=oU.out;simp;omega) (by have:=oU.out;simp;omega) ((HS.out.ev.trans E1.out).trans (Ev.alloc w5 _)).size ?_;intro v2 w2 iq;obtain⟨A2,cap2,rfl,ST2⟩:=HS.out.next (E1.out.trans (Ev.alloc w5 _)) ((IZ.out.low (Ev.alloc wr (.cells #[.string ⟨x.1.toArray⟩,.string ⟨x.2.1.toArray⟩,.string ⟨x.2.2.toArray⟩] 161)).size).ev (Ev.alloc w5 _)) iq))
   go_roundw
   case rel=>exact⟨A2,n5+1,cap2,j+1,L5++[x'],rfl,by go_num,ae,zq ST2,zq (by rw[mr.out,aDk,HR.out,show [x'].map M.t=[eH x] by rw[aDe,aDu,Am.out],aDA])⟩
   case measure=>simp[intOf];omega
  obtain rfl:j=m.ag.l.length:=ae;have aoS:Hid (L5.map M.t=([dX].map aT++[bH m.lf.l])++m.ag.l.map eH):=zq (by rw[HR.out,aEt]);have rE:=HS;go_wp2;have IV:Hid (L5.length<=30000):=zq (by have:=aD8 List.length aoS.out;simp at this;have:=aoQ.out;omega);obtain⟨hd,P9⟩:∃hd,hd=L5.map M.t:=⟨_,rfl⟩
  have ZR:Hid (R=dh (hd++m.kids.map λx=>aI x.p)):=zq (by rw[HRT.out,P9,aoS.out]);have RQ:=zq P9;clear P9
  go_loopw [3,93] (λkv iv wr=>∃(A1:Option Addr) (n1 cap1 j:Nat) (L:List M),kv=.slice A1 n1 cap1/\iv=↑j/\j<=m.kids.length/\Hid (uo w0 A1 n1 cap1 L wr)/\Hid (L.map M.t=hd++(m.kids.take j).map λx=>aI x.p)) (λ_ iv _=>m.kids.length-(intOf iv).toNat)
  case atStart=>exact⟨_,n5,cap5,0,L5,rfl,rfl,aDl _,rE,zq (by rw[RQ.out];simp)⟩
  case round=>
   obtain⟨A1,n1,cap1,j,L,rfl,rfl,hj,HS,HR⟩:=hrel;have Rl:=zq (HE.out.trans HS.out.ev);by_cases hlt:j<m.kids.length;obtain⟨x,hx⟩:=Jw.out.at hlt;obtain⟨b,off,rfl,hb_,_⟩:=Jw.out.rd ae;obtain⟨x0,x1,x2,x3,x4,x5,x6,x7⟩:=Ps.cell (Jw.out.ev Rl.out) hx;unfold dK.v PM.kv at*;have tq:=aDb hx;have mr:Hid ((m.kids.take (j+1)).map (λx=>aI x.p)=(m.kids.take j).map (λx=>aI x.p)++[aI x.p]):=zq (by
    obtain⟨hk2,e⟩:=aC6.1 hx;rw[aDi hk2,e,aDk];rfl)
   have HI:=zq (λw1 (hE:Ev w w1)=>Dk.out x tq w1 hE);have wR:=zq HS.out.len;exact aFv;exact aFw
theorem x8{m x:M}{q:List M}(hq:m.kids=x::q)(hf:h_ m.t=true):pPlan m.t=pMake (fG x.s) (q.map M.t) ((q.map M.t).map pPlan)/\dD m.t=aX (xG (fG x.s) (q.map M.t) ((q.map M.t).map dD))/\pFormOf (fG x.s) (q.map M.t)=true/\m.kind=1/\x.kind=2/\1<=q.length:=by have hf2:=hf;rw[zH,hq]at hf2;simp only[aC9,aDn,aDV,aDe,at_,aEO,aDJ,aEc,M.DK,oD,aDh]at hf2;obtain⟨h1,h2,h3,h4⟩:=hf2;rw[M.yE]at hf|-;rw[pPlan,if_pos hf,dD,if_pos hf,xE,Aq,hq];refine⟨?_,?_,h4,h1,h3,ae⟩;simp only[aDe,at_,aEO,M.DK,aDJ,aEc];simp only[aDe,at_,aEO,M.DK,aDJ,aEc]
theorem Sm{gr base:Nat}{e:Er}{w wz:ak}{m:PM}(hr:iL gr e w wz)(hg:gr<w.heap.size)(hb:w.heap.size+2<=base)(hq:Qx base [] wz m)(v0 v1 v2 v3 v4 v5 v6 v7:au):Qx w.heap.size [] (mi (w.heap.size+1) v0 v1 v2 v3 v4 v5 v6 v7 wz) m/\iL gr e w (mi (w.heap.size+1) v0 v1 v2 v3 v4 v5 v6 v7 wz):=
 ⟨(vI hq (fB _ _ _ _ _ _ _ _ _ _) (λk hk=>by simp at hk;omega)).low ae,hr.bx.but (fB _ _ _ _ _ _ _ _ _ _) (by simp;omega),hr.but.trans (fB _ _ _ _ _ _ _ _ _ _) λk hk=>by simp at hk;exact .inr ae⟩
structure aug(m:M)(gr b0:Nat)(w:ak)(x:M)(q:List M)(b off k c:Nat):Prop where
 hA:m.A=some ⟨b,off,none⟩
 hn:m.kids.length=k+2
 hc:m.cap=c+2
 ET:k<=c
 hcm:c+2<=9223372036854775807
 xw:q.length=k+1
 kid:∀i y,m.kids[i]?=some y->∀w1,But [gr] w w1->(w1.cell? ⟨b,off+i*5,none⟩=some (.int .i64 y.kind)/\w1.cell? ⟨b,off+i*5+1,none⟩=some (.string ⟨y.s.toArray⟩)/\w1.cell? ⟨b,off+i*5+2,none⟩=some (.int .i64 y.n)/\w1.cell? ⟨b,off+i*5+3,none⟩=some (.slice y.A y.kids.length y.cap)/\w1.cell? ⟨b,off+i*5+4,none⟩=some (.int .i64 (y.pos:Int)))
 rest:∀w1,But [gr] w w1->Ms w1 ↑(b,off+5) (k+1) (c+1) q
 WR:∀w1,But [gr] w w1->∀o,XY b0 [gr] w1 (some ⟨b,o,none⟩)
 lies:∀y∈q,∀w1,But [gr] w w1->Lies b0 [gr] w1 y
 bgr:b≠gr
theorem Np{m x:M}{q:List M}{gr b0:Nat}{w:ak}(hL:Lies b0 [gr] w m)(hq:m.kids=x::q)(h1:1<=q.length):∃b off k c,aug m gr b0 w x q b off k c:=by
 have fU:=hL.ms;have hlen:m.kids.length=q.length+1:=by rw[hq];rfl
 have hcl:=fU.le;have hcm:=fU.max;obtain⟨b,off,hA,hb,_⟩:=Ms.cell fU (i:=0) (x:=x) (by rw[hq];rfl);have hrg:∀ad,m.A=some ad->b0<=ad.block/\ad.block<w.heap.size/\ad.block∉[gr]:=by
  cases hL with
  | mk a1 a2 a3=>exact a2
 have hr:=hrg _ hA;refine⟨b,off,q.length-1,m.cap-2,hA,ae,ae,ae,ae,ae,λi y hy=>P8 hL hA hy,λw1 hb1=>?_,λw1 hb1 o ad ea=>?_,λy hy w1 hb1=>?_,by have:=hr.2.2;simpa using this⟩;have h2:=fU.but hb1 λad e=>(hrg ad e).2.2;rw[hA,hq,show (x::q).length=(q.length-1)+2 by simp;omega,show m.cap=(m.cap-2)+2 by omega]at h2;exact Ms.rest h2
 cases ea
 exact⟨hr.1,aDf hr.2.1 hb1.size,hr.2.2⟩;exact(hL.kid y (by rw[hq];exact aDc _ hy)).move hb1 λ_ hz=>.inl hz
theorem yc{m x y:M}{q:List M}(hq:m.kids=x::q)(hy:y∈q)(hfair:m.t.every dY=true)(hsz:m.t.size<=10000):y.t.every dY=true/\y.t.size<=10000:=by
 have WG:y∈m.kids:=by rw[hq];exact aDc _ hy
 rw[T.kD,aC9]at hfair;have h7:=T.size_eq m.t;rw[M.dO,aDx]at h7;have h8:=lN (aDz.2 ⟨y,WG,rfl⟩:y.t.size∈m.kids.map (T.size ∘ M.t));exact⟨aDs.1 hfair.2 y.t (by rw[M.dO];exact aDz.2 ⟨y,WG,rfl⟩),ae⟩
theorem q_len{m x:M}{q:List M}(hq:m.kids=x::q)(hsz:m.t.size<=10000):q.length<=10000:=by have h7:=T.size_eq m.t;have h8:=p_ m.t.kids;rw[M.dO,aC_]at h8;rw[M.dO]at h7;rw[hq]at h8;simp only[aDh]at h8;rw[hq]at h7;omega
theorem Sr(m:M)(gr:Nat)(e:Er)(b0:Nat)(w:ak)(hB:Rb gr e w)(hL:Lies b0 [gr] w m)(hfair:m.t.every dY=true)(hsz:m.t.size<=10000)(hf:h_ m.t=true)(x:M)(q:List M)(hq:m.kids=x::q)(hs:x.s=gm)
  (ih:∀y∈q,∀w1 e1,But [gr] w w1->Rb gr e1 w1->Calls ax 123 #[.pointer ↑gr,.agg ↑y] w1 (yJ gr e1 y.t w1)):
  Calls ax 123 #[.pointer ↑gr,.agg ↑m] w (yJ gr e m.t w):=by
 have dH:Tryz.prog.follows .mixedOrders=true:=ah;obtain⟨wJ,yC,yF,hm1,hx2,BU⟩:=x8 hq hf;obtain⟨b,off,k,c,kW⟩:=Np hL hq BU;have hgr:=hB.lt;have Su:=λw1 (hE:Ev w w1)=>tK m b0 w1 ((hL.ev hE).less λk hk=>by cases hk);rw[hf]at Su;have hqn:=q_len hq hsz;have nM:=zq (λw1 (hb:But [gr] w w1)=>kW.kid 0 x (by rw[hq];rfl) w1 hb);have VQ:=zq (λi y (hy:q[i]?=some y) w1 (hb:But [gr] w w1)=>kW.kid (i+1) y (by rw[hq];simpa using hy) w1 hb);simp only[aDH,aDw,hs,hx2]at nM;rw[hs]at wJ yC yF;unfold yJ;obtain⟨PT,Oc⟩:∃PT,PT=pPlan m.t:=⟨_,rfl⟩
 obtain⟨PE,OJ⟩:∃PE,PE=dD m.t:=⟨_,rfl⟩
 rw[<-Oc]at wJ|-;rw[<-OJ]at yC|-;have hA:=kW.hA;have hn:=kW.hn;have hc:=kW.hc;have ET:=kW.ET;have hcm:=kW.hcm;have xw:=kW.xw;have Iw:=zq kW;clear kW Oc OJ hq hL hfair hsz BU hf hx2;generalize VR:m.kids.length=kn at*;generalize VB:m.A=mA at*;generalize hc_:m.cap=mc at*;generalize GM:m.kind=kd at*;generalize hs_:m.s=ms at*;generalize VC:m.n=mn at*;generalize hp_:m.pos=mp at*;clear VR VB hc_ GM hs_ VC hp_;subst hm1 hA hn hc;obtain⟨w0,hw0,aV,hX,hR,hs0⟩:=Eg w (.int .i64 1) ↑ms ↑mn (.slice ↑(b,off) (k+2) (c+2)) ↑mp;have HHF:=zq Su;have HX:=zq hX;have HR:=zq hR;have HE:=zq aV;have HB:=zq hB;have alM:=Iw.out.bgr;unfold gm at*;obtain⟨⟨c0,c1,c2,c3,c4⟩,_⟩:=hX.five;obtain⟨d0,d1,d2,d3,d4⟩:=nM.out _ (But.aU aV);clear hX hR aV hB Su ih hs;obtain⟨y,hy⟩:∃y,q=[y]:=by
  have h1:((q.map M.t).length==1&&bT (at_ (q.map M.t) 0))=true:=yF;rw[aC9,aDn,aC_]at h1
  match q,h1.1 with
  | [y],_=>exact⟨y,rfl⟩
 subst hy;obtain rfl:k=0:=by simpa using xw
 have Nq:Hid (PT=.mk 1 y.s [] [] [] [] [] []):=zq (by rw[wJ];show Pl.mk 1 (y.t).s [] [] [] [] [] []=_;rw[M.DK]);have TN:Hid (PE=aX [bQ y.t]):=zq yC;have HN:=zq (λw1 (hE:Ev w w1)=>Rt gr e y w1 (HB.out.ev hE));obtain⟨y0,y1,y2,y3,y4⟩:=VQ.out 0 y rfl _ (But.aU HE.out);simp only[aDt,aEi]at VQ y0 y1 y2 y3 y4;clear wJ yC yF;go_enter func123,ntmps123
 go_wp2_with (first
  | ((with_reducible refine(HHF.out _ HE.out).mono ?_);rintro r w1 ⟨rfl,aJ⟩;have E1:=zq (HE.out.trans aJ);clear c0 c1 c2 c3 c4 d0 d1 d2 d3 d4;obtain⟨⟨c0,c1,c2,c3,c4⟩,_⟩:=(HX.out.ev aJ).five;obtain⟨d0,d1,d2,d3,d4⟩:=nM.out _ (But.aU E1.out);clear y0 y1 y2 y3 y4;obtain⟨y0,y1,y2,y3,y4⟩:=VQ.out 0 y rfl _ (But.aU E1.out);simp only[aDt,aEi]at y0 y1 y2 y3 y4)
  | ((with_reducible refine(HN.out _ E1.out).mono ?_);rintro r w2 ⟨rfl,rX⟩;have Ru:=zq rX;obtain⟨⟨r0,r1,r2,r3,r4,r5,r6,r7⟩,s0,s1,s2,s3,s4,s5,s6,s7⟩:=((HR.out.ev aJ).but rX.but (by simp;omega)).eight;clear rX))
 (try simp only[Exit.inBlock,Exit.then]);rw[gI];have hBR:=(HR.out.ev aJ).but Ru.out.but (by simp;omega);refine aFe (aZ rfl _ _ _ _ _ rfl (hBR.mi _ _ _ _ _ _ _ _) underlying35 rfl Tryz.iI) rfl ?_;obtain⟨f1,f2⟩:=Sm (e:=iy e PE) (base:=w.heap.size+2) (⟨by rw[TN.out,show iy e (aX [bQ y.t])=iy e (bQ y.t) by unfold aX;simp only[List.foldl];rw[U4]];exact Ru.out.bx,(But.aU E1.out).then Ru.out.but⟩) hgr (aC8 _) (Qx.mk (bY.nil ..) (λ_ h=>by cases h) (bY.nil ..) (bY.nil ..) (bY.nil ..) (bY.nil ..) (bY.nil ..) (λ_ h=>by cases h)) _ _ _ _ _ _ _ _;exact⟨.mk 1 y.s .nil .nil .nil .nil .nil none 0 [],rfl,by rw[Nq.out,PM.tu];rfl,f1,f2⟩
theorem aIz(h:U:=by have h1:((q.map M.t).length==2)=true:=yF;rw[aDn,aC_]at h1;exact h1):U:=h
theorem Sv(m:M)(gr:Nat)(e:Er)(b0:Nat)(w:ak)(hB:Rb gr e w)(hL:Lies b0 [gr] w m)(hfair:m.t.every dY=true)(hsz:m.t.size<=10000)(hf:h_ m.t=true)(x:M)(q:List M)(hq:m.kids=x::q)(hs:x.s=iw)
  (ih:∀y∈q,∀w1 e1,But [gr] w w1->Rb gr e1 w1->Calls ax 123 #[.pointer ↑gr,.agg ↑y] w1 (yJ gr e1 y.t w1)):
  Calls ax 123 #[.pointer ↑gr,.agg ↑m] w (yJ gr e m.t w):=by
 have dH:Tryz.prog.follows .mixedOrders=true:=ah;obtain⟨wJ,yC,yF,hm1,hx2,BU⟩:=x8 hq hf;obtain⟨b,off,k,c,kW⟩:=Np hL hq BU;have hgr:=hB.lt;have Su:=λw1 (hE:Ev w w1)=>tK m b0 w1 ((hL.ev hE).less λk hk=>by cases hk);rw[hf]at Su;have hqn:=q_len hq hsz;have nM:=zq (λw1 (hb:But [gr] w w1)=>kW.kid 0 x (by rw[hq];rfl) w1 hb);simp only[aDH,aDw,hs,hx2]at nM;rw[hs]at wJ yC yF;unfold yJ;obtain⟨PT,Oc⟩:∃PT,PT=pPlan m.t:=⟨_,rfl⟩
 obtain⟨PE,OJ⟩:∃PE,PE=dD m.t:=⟨_,rfl⟩
 rw[<-Oc]at wJ|-;rw[<-OJ]at yC|-;have hA:=kW.hA;have hn:=kW.hn;have hc:=kW.hc;have ET:=kW.ET;have hcm:=kW.hcm;have xw:=kW.xw;have Iw:=zq kW;clear kW Oc OJ hq hL hfair hsz BU hf hx2;generalize VR:m.kids.length=kn at*;generalize VB:m.A=mA at*;generalize hc_:m.cap=mc at*;generalize GM:m.kind=kd at*;generalize hs_:m.s=ms at*;generalize VC:m.n=mn at*;generalize hp_:m.pos=mp at*;clear VR VB hc_ GM hs_ VC hp_;subst hm1 hA hn hc;obtain⟨w0,hw0,aV,hX,hR,hs0⟩:=Eg w (.int .i64 1) ↑ms ↑mn (.slice ↑(b,off) (k+2) (c+2)) ↑mp;have HHF:=zq Su;have HX:=zq hX;have HR:=zq hR;have HE:=zq aV;have HB:=zq hB;have Dk:=zq ih;have alM:=Iw.out.bgr;unfold iw at*;obtain⟨⟨c0,c1,c2,c3,c4⟩,_⟩:=hX.five;obtain⟨d0,d1,d2,d3,d4⟩:=nM.out _ (But.aU aV);clear hX hR aV hB Su ih hs;have hk2:q.length=2:=by exact aIz
 obtain rfl:k=1:=ae;have Nq:Hid (PT=.mk 5 [] [] [] [] [] [] (q.map λy=>pPlan y.t)):=zq (by rw[wJ];show Pl.mk 5 [] [] [] [] [] [] ((q.map M.t).map pPlan)=_;rw[aDx];rfl);have TN:Hid (PE=aX (q.map λy=>dD y.t)):=zq (by rw[yC];show aX ((q.map M.t).map dD)=_;rw[aDx];rfl);have Jw:=zq (λw1 (hE:Ev w w1)=>MQ gr e q _ _ _ b0 w1 (HB.out.ev hE) (Iw.out.rest w1 (But.aU hE)) (Iw.out.WR w1 (But.aU hE) _) ae (λy hy w2 e2 hb hB2=>Dk.out y hy w2 e2 ((But.aU hE).then hb) hB2));unfold dK.v at Jw;clear wJ yC yF;go_enter func123,ntmps123
 go_wp2_with (first
  | ((with_reducible refine(HHF.out _ HE.out).mono ?_);rintro r w1 ⟨rfl,aJ⟩;have E1:=zq (HE.out.trans aJ);clear c0 c1 c2 c3 c4 d0 d1 d2 d3 d4;obtain⟨⟨c0,c1,c2,c3,c4⟩,_⟩:=(HX.out.ev aJ).five;obtain⟨d0,d1,d2,d3,d4⟩:=nM.out _ (But.aU E1.out))
  | ((with_reducible refine(Jw.out _ E1.out).mono ?_);rintro r w2 ⟨X,rfl,TL,VN,hXq,rX⟩;have Ru:=zq rX;have IZ:=zq TL;have HXS:=zq VN;have HXQ:=zq hXq;obtain⟨⟨r0,r1,r2,r3,r4,r5,r6,r7⟩,s0,s1,s2,s3,s4,s5,s6,s7⟩:=((HR.out.ev aJ).but rX.but (by simp;omega)).eight;clear rX TL VN hXq))
 (try simp only[Exit.inBlock,Exit.then]);rw[gI];have hBR:=(HR.out.ev aJ).but Ru.out.but (by simp;omega);refine aFe (aZ rfl _ _ _ _ _ rfl (hBR.mi _ _ _ _ _ _ _ _) underlying35 rfl Tryz.iI) rfl ?_;obtain⟨f1,f2⟩:=Sm (e:=iy e PE) (base:=w1.heap.size) (⟨by rw[TN.out];exact Ru.out.bx,(But.aU E1.out).then Ru.out.but⟩) hgr (by have:=aJ.size;omega) (Qx.mk (bY.nil ..) (λ_ h=>by cases h) (bY.nil ..) (bY.nil ..) (bY.nil ..) (bY.nil ..) HXS.out HXQ.out) _ _ _ _ _ _ _ _;exact⟨.mk 5 [] .nil .nil .nil .nil .nil X.A X.cap X.l,rfl,by rw[Nq.out,PM.tu,<-IZ.out];rfl,f1,f2⟩
theorem Ms.drop{w:ak}{b off n cap k:Nat}{l:List M}(h:Ms w ↑(b,off) n cap l)(hk:k<n):Ms w ↑(b,off+k*5) (n-k) (cap-k) (l.drop k):=by
 have hl:=h.len;have hle:=h.le;refine⟨by rw[aDD];omega,ae,by have:=h.max;omega,(λe=>by cases e),λ_=>?_⟩;obtain⟨b',off',e,hlt,hc⟩:=h.rd ae;injection e with e
 injection e with e1 e2 _
 subst e1 e2;refine⟨b,off+k*5,rfl,hlt,λi y hy j u hu=>?_⟩;have:=hc (k+i) y (by rw[<-hy,aES]) j u hu;rwa [show off+(k+i)*5+j=off+k*5+i*5+j by rw[aEv];omega]at this
def PmB(g4 base:Nat)(PT:Pl)(u:ak):Prop:=∃m:PM,Bx 35 g4 ↑m u/\m.p=PT/\Qx base [] u m
def StF(gr g4 base:Nat)(es:List Er)(PT:Pl)(p:Nat)(u:ak):Prop:=Rb gr (es.getD p (0,0)) u/\if p+1=es.length then PmB g4 base PT u else Bx 35 g4 ↑Zz.b u
theorem StF.ev(gr g4 base:Nat)(es:List Er)(PT:Pl):∀p u u',Ev u u'->StF gr g4 base es PT p u->StF gr g4 base es PT p u':=λp u u' hE h=>by refine⟨h.1.ev hE,?_⟩;have h2:=h.2;split at h2;rename_i hp;rw[if_pos hp];obtain⟨m,hB,hm,hQ⟩:=h2;exact⟨m,hB.ev hE,hm,hQ.ev hE⟩;rename_i hp;rw[if_neg hp];exact h2.ev hE
theorem Eo{w w1 wq:ak}{gr g4:Nat}(hE:Ev w w1)(h:But [gr,g4] w1 wq)(h4:w.heap.size<=g4):But [gr] w wq:=(But.aU hE).trans h λy hy=>by simp at hy;rcases hy with rfl|rfl;exact .inl aj;exact .inr h4
theorem BL{w w1:ak}{gr g4:Nat}(h:But [gr] w w1):But [gr,g4] w w1:=h.wide λy hy=>.inl (by simp at hy;simp[hy])
theorem aaf{w w1:ak}{gr g4:Nat}(h:But [g4] w w1):But [gr,g4] w w1:=h.wide λy hy=>.inl (by simp at hy;simp[hy])
theorem Iy{gr g4 base:Nat}(h1:gr<base)(h2:g4<base):∀k∈[gr,g4],k<base:=λk hk=>by simp at hk;rcases hk with rfl|rfl<;>assumption
theorem Ep{gr g4 base:Nat}{es:List Er}{PT:Pl}{p:Nat}{E E':Er}{u u':ak}(h:StF gr g4 base es PT p u)(hr:iL gr E' u u')(TW:es.getD (p+1) (0,0)=E')(hp:p+2<es.length)(h4:g4≠gr):StF gr g4 base es PT (p+1) u':=by refine⟨by rw[TW];exact hr.bx,?_⟩;have h2:=h.2;rw[if_neg ae]at h2|-;exact h2.but hr.but (by simp;exact h4)
theorem aag{b0 gr:Nat}{w:ak}{y:M}(h:Lies b0 [gr] w y):Ms w y.A y.kids.length y.cap y.kids/\XY b0 [gr] w y.A:=by
 refine⟨h.ms,?_⟩;cases h with
 | mk h1 h2 h3=>exact h2
theorem afh{y:M}(h:y.t.size<=10000):y.kids.length<=100000:=by have h7:=T.size_eq y.t;have h8:=p_ y.t.kids;rw[M.dO,aC_]at h8;rw[M.dO]at h7;omega
theorem aIv(h:U:=by refine aP λa w c=>⟨(ay rfl),_,run_move _ rfl w,(c.was 5 rfl)⟩):U:=h
theorem aHN(h:U:=by have jS:a.eval (.const (.int .i64 0))=.int .i64 0:=rfl;generalize a.eval=ρ at bn jS|-;simp[execOp,bn,jS,go_sem]):U:=h
theorem aHL(h:U:=by have kc1:a.eval (.const (.int .i64 1))=.int .i64 1:=rfl;generalize a.eval=ρ at bn kc1|-;simp[execOp,bn,kc1,go_sem]):U:=h
theorem aGg(h:U:=by have hbw:=Eo E1.out c.inv (aD3 _);have hsz:=c.inv.size;refine(Jw.out _ wq hbw st.1).mono ?_;rintro r wp ⟨X_,rfl,TL,VN,hXq,rX⟩;exact⟨_,rfl,BL rX.but,c.inv.then (BL rX.but),Ep (E:=e) st rX rfl aj hg4,⟨X_,rfl,TL,VN.low hsz,λk_ VR=>(hXq k_ VR).low hsz⟩⟩):U:=h
theorem aFy(h:U:=by
 have e4:a.eval (.tmp 4)=.pointer (some ⟨w.heap.size+1,0,none⟩):=(c.was 4 rfl)
 have Gx:Bx 35 (w.heap.size+1) ↑Zz.b wq:=st.2;obtain⟨⟨r0,r1,r2,r3,r4,r5,r6,r7⟩,s0,s1,s2,s3,s4,s5,s6,s7⟩:=Gx.eight;refine⟨ay rfl,mi (w.heap.size+1) ↑m_.kind ↑m_.name (.slice m_.ex.A m_.ex.l.length m_.ex.cap) (.slice m_.co.A m_.co.l.length m_.co.cap) (.slice m_.lf.A m_.lf.l.length m_.lf.cap) (.slice m_.rt.A m_.rt.l.length m_.rt.cap) (.slice m_.ag.A m_.ag.l.length m_.ag.cap) (.slice m_.A m_.kids.length m_.cap) wq,?_,aaf (fB _ _ _ _ _ _ _ _ _ _),c.inv.then (aaf (fB _ _ _ _ _ _ _ _ _ _)),⟨st.1.but (fB _ _ _ _ _ _ _ _ _ _) (by simp;omega),⟨m_,Gx.mi _ _ _ _ _ _ _ _,hm_,vI hq_ (fB _ _ _ _ _ _ _ _ _ _) (λy hy=>by simp at hy;omega)⟩⟩,trivial⟩;generalize a.eval=ρ at em_ e4|-;simp[execOp,em_,e4,go_sem,r0,r1,r2,r3,r4,r5,r6,r7,s0,s1,s2,s3,s4,s5,s6,s7,mi,pG,qZ]):U:=h
theorem aHn(h:U:=by rintro r wp ⟨X_,rfl,TL,VN,rX⟩;exact⟨_,rfl,BL rX.but,c.inv.then (BL rX.but),Ep (E:=e) st rX rfl aj hg4,⟨X_,rfl,TL,VN.low hsz⟩⟩):U:=h
theorem Sz(m:M)(gr:Nat)(e:Er)(b0:Nat)(w:ak)(hB:Rb gr e w)(hL:Lies b0 [gr] w m)(hfair:m.t.every dY=true)(hsz:m.t.size<=10000)(hf:h_ m.t=true)(x:M)(q:List M)(hq:m.kids=x::q)(hs:x.s=dX)
  (ih:∀y∈q,∀w1 e1,But [gr] w w1->Rb gr e1 w1->Calls ax 123 #[.pointer ↑gr,.agg ↑y] w1 (yJ gr e1 y.t w1)):
  Calls ax 123 #[.pointer ↑gr,.agg ↑m] w (yJ gr e m.t w):=by
 have dH:Tryz.prog.follows .mixedOrders=true:=ah;obtain⟨wJ,yC,yF,hm1,hx2,BU⟩:=x8 hq hf;obtain⟨b,off,k,c,kW⟩:=Np hL hq BU;have hgr:=hB.lt;have Su:=λw1 (hE:Ev w w1)=>tK m b0 w1 ((hL.ev hE).less λk hk=>by cases hk);rw[hf]at Su;have HQS:=zq (λy (hy:y∈q)=>yc hq hy hfair hsz);have hqn:=q_len hq hsz;have nM:=zq (λw1 (hb:But [gr] w w1)=>kW.kid 0 x (by rw[hq];rfl) w1 hb);have VQ:=zq (λi y (hy:q[i]?=some y) w1 (hb:But [gr] w w1)=>kW.kid (i+1) y (by rw[hq];simpa using hy) w1 hb);simp only[aDH,aDw,hs,hx2]at nM;rw[hs]at wJ yC yF;unfold yJ;obtain⟨PT,Oc⟩:∃PT,PT=pPlan m.t:=⟨_,rfl⟩
 obtain⟨PE,OJ⟩:∃PE,PE=dD m.t:=⟨_,rfl⟩
 rw[<-Oc]at wJ|-;rw[<-OJ]at yC|-;have hA:=kW.hA;have hn:=kW.hn;have hc:=kW.hc;have ET:=kW.ET;have hcm:=kW.hcm;have xw:=kW.xw;have Iw:=zq kW;clear kW Oc OJ hq hL hfair hsz BU hf hx2;generalize VR:m.kids.length=kn at*;generalize VB:m.A=mA at*;generalize hc_:m.cap=mc at*;generalize GM:m.kind=kd at*;generalize hs_:m.s=ms at*;generalize VC:m.n=mn at*;generalize hp_:m.pos=mp at*;clear VR VB hc_ GM hs_ VC hp_;subst hm1 hA hn hc;obtain⟨w0,hw0,aV,hX,hR,hs0⟩:=Eg w (.int .i64 1) ↑ms ↑mn (.slice ↑(b,off) (k+2) (c+2)) ↑mp;have HHF:=zq Su;have HX:=zq hX;have HR:=zq hR;have HE:=zq aV;have HB:=zq hB;have Dk:=zq ih;have alM:=Iw.out.bgr;unfold dX at*;obtain⟨⟨c0,c1,c2,c3,c4⟩,_⟩:=hX.five;obtain⟨d0,d1,d2,d3,d4⟩:=nM.out _ (But.aU aV);clear hX hR aV hB Su ih hs;have afi:(decide (2<=(q.map M.t).length)&&dI (at_ (q.map M.t) 0)&&(((q.map M.t).take ((q.map M.t).length-1)).drop 1).all dR)=true:=yF;rw[aC9,aC9,aDV,aC_,xw,aEC,<-aEf]at afi;obtain⟨⟨nX,_⟩,hagg⟩:=afi;obtain⟨k1,rfl⟩:∃k1,k=k1+1:=⟨k-1,ae⟩
 obtain⟨oO,rfl⟩:∃c1,c=c1+1:=⟨c-1,ae⟩
 obtain⟨l1,r,rfl⟩:∃l1 r,q=l1::r:=by
  cases q with
  | nil=>simp at xw
  | cons a b=>exact⟨a,b,rfl⟩
 have hrl:r.length=k1+1:=by simpa using xw
 rw[aDX,aDe,aDJ,aEc,aEy,aDs]at hagg;have hlen:((l1::r).map M.t).length-1=k1+1:=by simp[hrl]
 have Nq:Hid (PT=.mk 7 [] [] [] (l1.kids.map M.s) [] ((r.take k1).map λv=>jV v.t) ((r.drop k1).map λv=>pPlan v.t)):=zq (by
  rw[wJ];show Pl.mk 7 [] [] [] (l1.t.kids.map T.s) [] (((((l1::r).map M.t).take (((l1::r).map M.t).length-1)).drop 1).map jV) ((((l1::r).map M.t).map pPlan).drop (((l1::r).map M.t).length-1))=_;rw[hlen,M.dO,aDx,funext M.DK |> λh=>(show (T.s ∘ M.t)=M.s from h),aDe,aDX,aDJ,aEc,aDe,aDJ,<-aEf,aDx,aDx,<-aEo];rfl)
 have TN:Hid (PE=aX ((l1.kids.map λv=>bQ v.t)++(((r.take k1).flatMap λv=>dS v.t)++(r.drop k1).map λv=>dD v.t))):=zq (by
  rw[yC];show aX (l1.t.kids.map bQ++(((((l1::r).map M.t).take (((l1::r).map M.t).length-1)).drop 1).flatMap dS++(((l1::r).map M.t).map dD).drop (((l1::r).map M.t).length-1)))=_;rw[hlen,M.dO,aDx,aDe,aDX,aDJ,aEc,aDe,aDJ,<-aEf,aDx,List.flatMap_map,<-aEo];rfl)
 have hAG:=λe1 w1 (hb:But [gr] w w1) (hB1:Rb gr e1 w1)=>ah3 gr e1 (r.take k1) _ _ _ b0 w1 hB1 ((Ms.rest (Iw.out.rest w1 hb)).to k1 ae) (Iw.out.WR w1 hb _) (by simp at hqn;omega) (λv hv=>hagg v hv) (λv hv=>Iw.out.lies v (aDc _ (aD2 hv)) w1 hb);have JB:=λe1 w1 (hb:But [gr] w w1) (hB1:Rb gr e1 w1)=>MQ gr e1 (r.drop k1) _ _ _ b0 w1 hB1 ((Iw.out.rest w1 hb).drop (k:=k1+1) ae) (Iw.out.WR w1 hb _) ae (λv hv w2 e2 hb2 hB2=>Dk.out v (aDc _ (aEm hv)) w2 e2 (hb.then hb2) hB2);unfold dK.v at JB hAG;simp only[Nat.add_sub_cancel_left]at JB;have Ip:=zq hAG;have Jw:=zq JB;have hK1:=VQ.out 0 l1 rfl;simp only[aDt,aEi]at hK1;have KY1:=zq hK1;have n00:¬((k1:Int)+1+1<=0):=ae;have t2:((k1:Int)+2).toNat=k1+2:=ae;have p1:(1:Int)<=(k1:Int)+2:=ae;have p2:(k1:Int)+2-1<=(oO:Int)+1+1:=ae;have p3:¬((k1:Int)+1<1):=ae;have p4:(k1:Int)+2-1<=(k1:Int)+1+1:=ae;have i5:¬oO+1=k1:=ae;clear wJ yC yF hagg JB hAG hK1;go_enter func123,ntmps123;go_upto_region 7 with (first
  | ((with_reducible refine(HHF.out _ HE.out).mono ?_);rintro r w1 ⟨rfl,aJ⟩;have E1:=zq (HE.out.trans aJ);clear c0 c1 c2 c3 c4 d0 d1 d2 d3 d4;obtain⟨⟨c0,c1,c2,c3,c4⟩,_⟩:=(HX.out.ev aJ).five;obtain⟨d0,d1,d2,d3,d4⟩:=nM.out _ (But.aU E1.out)))
 clear c0 c1 c2 c3 c4 d0 d1 d2 d3 d4;have hw1:=E1.out.size;have aeZ:=aJ.size;have hg4:w.heap.size+1≠gr:=ae;refine kG dH (λu=>But [gr,w.heap.size+1] w1 u) (But [gr,w.heap.size+1]) [5,10,15,17] (StF gr (w.heap.size+1) w1.heap.size [e,iy e (aX (l1.kids.map λv=>bQ v.t)),iy (iy e (aX (l1.kids.map λv=>bQ v.t))) (aX ((r.take k1).flatMap λv=>dS v.t)),iy (iy (iy e (aX (l1.kids.map λv=>bQ v.t))) (aX ((r.take k1).flatMap λv=>dS v.t))) (aX ((r.drop k1).map λv=>dD v.t)),iy (iy (iy e (aX (l1.kids.map λv=>bQ v.t))) (aX ((r.take k1).flatMap λv=>dS v.t))) (aX ((r.drop k1).map λv=>dD v.t))] (.mk 7 [] [] [] (l1.kids.map M.s) [] ((r.take k1).map λv=>jV v.t) ((r.drop k1).map λv=>pPlan v.t))) [λv _=>v=.pointer ↑gr,λv _=>v=.slice ↑(b,off+5) (k1+1+1) (oO+1+1),λv _=>v=.pointer ↑(b,off+5),λv _=>v=.pointer ↑(b,off+5+3),λv _=>v=.slice l1.A l1.kids.length l1.cap,NsF w1.heap.size (l1.kids.map M.s),λv _=>v=.pointer ↑gr,λv _=>v=.slice ↑(b,off+5) (k1+1+1) (oO+1+1),λv _=>v=.int .i64 ((k1:Int)+2-1),λv _=>v=.slice ↑(b,off+10) k1 (oO+1),AsF w1.heap.size ((r.take k1).map λv=>jV v.t),λv _=>v=.pointer ↑gr,λv _=>v=.slice ↑(b,off+5) (k1+1+1) (oO+1+1),λv _=>v=.int .i64 ((k1:Int)+2-1),λv _=>v=.slice (some ⟨b,off+5+(k1+1)*5,none⟩) 1 (oO+1+1-(k1+1)),Z5 w1.heap.size ((r.drop k1).map λv=>pPlan v.t),Z7 w1.heap.size (.mk 7 [] [] [] (l1.kids.map M.s) [] ((r.take k1).map λv=>jV v.t) ((r.drop k1).map λv=>pPlan v.t)),λ_ _=>True]
  115 4 rfl ah ⟨aB _,aB _,aB _,aB _,aB _,NsF.mono _ _,aB _,aB _,aB _,aB _,AsF.mono _ _,aB _,aB _,aB _,aB _,Z5.mono _ _,Z7.mono _ _,fC,trivial⟩ ⟨λ_ _ _ _ h=>h,λ_ _ _ _ h=>h,λ_ _ _ _ h=>h,λ_ _ _ _ h=>h,λ_ _ _ _ h=>h,NsF.old (Iy ae ae),λ_ _ _ _ h=>h,λ_ _ _ _ h=>h,λ_ _ _ _ h=>h,λ_ _ _ _ h=>h,AsF.old (Iy ae ae),λ_ _ _ _ h=>h,λ_ _ _ _ h=>h,λ_ _ _ _ h=>h,λ_ _ _ _ h=>h,Z5.old (Iy ae ae),Z7.old (Iy ae ae),λ_ _ _ _ h=>h,trivial⟩ ah (StF.ev _ _ _ _ _) (λu u' hE h=>h.then (But.aU hE)) (But.refl _ _) (⟨HB.out.ev E1.out,HR.out.ev aJ⟩) ah ?_ ?_ ?_
 ·refine aO 0 ?_ (aO 1 ?_ (aO 2 ?_ (aO 3 ?_ (aO 4 ?_ (gq 5 ai (aO 6 ?_ (aO 7 ?_ (aO 8 ?_ (aO 9 ?_ (gq 10 ai (aO 11 ?_ (aO 12 ?_ (aO 13 ?_ (aO 14 ?_ (gq 15 ai (aO 16 ?_ (gq 17 ai (uU 18))))))))))))))))));exact aIu;exact aIv
  ·refine aP λa wq c=>⟨(ay rfl),.pointer ↑(b,off+5),?_,rfl⟩
   have bn:a.eval (.tmp 29)=.slice ↑(b,off+5) (k1+1+1) (oO+1+1):=(c.new 1 29)
   have jS:a.eval (.const (.int .i64 0))=.int .i64 0:=rfl;generalize a.eval=ρ at bn jS|-;simp[execOp,bn,jS,go_sem,n00]
  ·refine aP λa wq c=>⟨(ay rfl),.pointer ↑(b,off+5+3),?_,rfl⟩
   have bn:a.eval (.tmp 30)=.pointer ↑(b,off+5):=(c.new 2 30)
   generalize a.eval=ρ at bn|-;simp[execOp,bn,go_sem]
  ·refine aP λa wq c=>⟨(ay rfl),.slice l1.A l1.kids.length l1.cap,?_,rfl⟩
   have bn:a.eval (.tmp 31)=.pointer ↑(b,off+5+3):=(c.new 3 31)
   have hc:=(KY1.out wq (Eo E1.out c.inv (aD3 _))).2.2.2.1;generalize a.eval=ρ at bn|-;simp[execOp,bn,hc,go_sem]
  exact aIu;exact aIv;refine aP λa w c=>⟨(ay rfl),_,run_move _ rfl w,(c.was 6 rfl)⟩
  ·refine aP λa wq c=>⟨(ay rfl),.slice ↑(b,off+10) k1 (oO+1),?_,rfl⟩
   have bn:a.eval (.tmp 35)=.slice ↑(b,off+5) (k1+1+1) (oO+1+1):=(c.new 7 35)
   have jk:a.eval (.tmp 36)=.int .i64 ((k1:Int)+2-1):=(c.new 8 36)
   have jS:a.eval (.const (.int .i64 1))=.int .i64 1:=rfl;generalize a.eval=ρ at bn jk jS|-;simp[execOp,bn,jk,jS,go_sem,t2,p1,p2,p3]
  exact aIu;exact aIv;refine aP λa w c=>⟨(ay rfl),_,run_move _ rfl w,(c.was 6 rfl)⟩
  ·refine aP λa wq c=>⟨(ay rfl),.slice (some ⟨b,off+5+(k1+1)*5,none⟩) 1 (oO+1+1-(k1+1)),?_,rfl⟩
   have bn:a.eval (.tmp 40)=.slice ↑(b,off+5) (k1+1+1) (oO+1+1):=(c.new 12 40)
   have jk:a.eval (.tmp 41)=.int .i64 ((k1:Int)+2-1):=(c.new 13 41)
   generalize a.eval=ρ at bn jk|-;simp[execOp,bn,jk,go_sem,t2,p1,p4,i5]
  refine aP λa wq c=>?_;obtain⟨N1_,ao_,h1l,h1s⟩:=(c.got 5 33 ah ah rfl:NsF _ _ _ _)
  obtain⟨G_,eG_,hGl,hGs⟩:=(c.got 10 38 ah ah rfl:AsF _ _ _ _)
  obtain⟨Y_,eY_,hYl,hYs,hYq⟩:=(c.got 15 43 ah ah rfl:Z5 _ _ _ _)
  refine⟨(ay rfl),_,?_,⟨.mk 7 [] .nil .nil N1_ .nil G_ Y_.A Y_.cap Y_.l,rfl,by rw[PM.tu,<-h1l,<-hGl,<-hYl];rfl,.mk (bY.nil ..) (λ_ h=>by cases h) (bY.nil ..) h1s (bY.nil ..) hGs hYs hYq⟩⟩;have jS:a.eval (.const (.int .i64 7))=.int .i64 7:=rfl;generalize a.eval=ρ at ao_ eG_ eY_ jS|-;simp[execOp,ao_,eG_,eY_,jS,go_sem,PM.kind,PM.name,PM.ex,PM.co,PM.lf,PM.rt,PM.ag,PM.A,PM.cap,PM.kids,dK.nil]
 refine jr 0 rfl ?_ (jr 1 rfl ?_ (jr 2 rfl ?_ (jr 3 rfl ?_ (xX 4))));refine qF λa wq c st=>⟨ay rfl,192,#[.pointer ↑gr,.slice l1.A l1.kids.length l1.cap],?_,?_⟩
 rw[bK 192 _ _ rfl ah];have bn:a.eval (.tmp 28)=.pointer ↑gr:=(c.new 0 28)
 have jk:a.eval (.tmp 32)=.slice l1.A l1.kids.length l1.cap:=(c.new 4 32)
 simp[bn,jk];have hbw:=Eo E1.out c.inv (aD3 _);have hsz:=c.inv.size;refine(aeE gr _ l1.kids _ _ _ b0 wq st.1 (aag (Iw.out.lies l1 aj wq hbw)).1 (aag (Iw.out.lies l1 aj wq hbw)).2 (afh (HQS.out l1 aj).2)).mono ?_;exact aHn;refine qF λa wq c st=>⟨ay rfl,193,#[.pointer ↑gr,.slice ↑(b,off+10) k1 (oO+1)],?_,?_⟩
 rw[bK 193 _ _ rfl ah];have bn:a.eval (.tmp 34)=.pointer ↑gr:=(c.new 6 34)
 have jk:a.eval (.tmp 37)=.slice ↑(b,off+10) k1 (oO+1):=(c.new 9 37)
 simp[bn,jk];have hbw:=Eo E1.out c.inv (aD3 _);have hsz:=c.inv.size;refine(Ip.out _ wq hbw st.1).mono ?_;exact aHn;refine qF λa wq c st=>⟨ay rfl,190,#[.pointer ↑gr,.slice (some ⟨b,off+5+(k1+1)*5,none⟩) 1 (oO+1+1-(k1+1))],?_,?_⟩
 rw[bK 190 _ _ rfl ah];have bn:a.eval (.tmp 39)=.pointer ↑gr:=(c.new 11 39)
 have jk:a.eval (.tmp 42)=.slice (some ⟨b,off+5+(k1+1)*5,none⟩) 1 (oO+1+1-(k1+1)):=(c.new 14 42)
 simp[bn,jk];exact aGg;refine rZ rfl λa wq c st=>?_;obtain⟨m_,em_,hm_,hq_⟩:=(c.got 16 44 ah ah rfl:Z7 _ _ _ _)
 exact aFy;intro sl w9 hI hold hnew hst;have f0:sl 0=.pointer ↑gr:=hold 0;have f4:sl 4=.pointer (some ⟨w.heap.size+1,0,none⟩):=hold 4;have f5:sl 5=.slice ↑(b,off+5) (k1+1+1) (oO+1+1):=hold 5;have f6:sl 6=.int .i64 ((k1:Int)+2-1):=hold 6;change Exit.then _ _ .normal ⟨_,_⟩ _;simp only[List.range,List.range.loop,List.map];simp only[f0,f4,f5,f6];clear hold hnew;obtain⟨WC,m_,Gx,hm_,hq_⟩:=(⟨hst.1,hst.2⟩:_/\PmB _ _ _ _)
 go_wp2;(try simp only[Exit.inBlock,Exit.then]);refine aFe (aZ rfl _ _ _ _ _ rfl Gx underlying35 rfl Tryz.iI) rfl ?_;exact⟨m_,rfl,by rw[hm_];exact Nq.out.symm,hq_.low (by have:=E1.out.size;omega),⟨by rw[TN.out,<-vF,<-vF];exact WC,Eo E1.out hI (aD3 _)⟩⟩
theorem Iz{s:By}(h:fG s≠0):s=gm∨s=gK∨s=fA∨s=lS∨s=iw∨s=fD∨s=dX:=by
 unfold fG at h
 repeat' (split at h)
 all_goals simp_all
theorem VS(m:M)(gr:Nat)(e:Er)(b0:Nat)(w:ak)(hB:Rb gr e w)(hL:Lies b0 [gr] w m)(hf:h_ m.t=false):
  Calls ax 123 #[.pointer ↑gr,.agg ↑m] w (yJ gr e m.t w):=by
 have wJ:pPlan m.t=uN:=by rw[M.yE]at hf|-;rw[pPlan,if_neg (by rw[hf];exact aEs)]
 have yC:dD m.t=(12,m.pos):=by rw[M.yE]at hf|-;rw[dD,if_neg (by rw[hf];exact aEs)]
 have hgr:=hB.lt;have Su:=λw1 (hE:Ev w w1)=>tK m b0 w1 ((hL.ev hE).less λk hk=>by cases hk);rw[hf]at Su;unfold yJ;rw[wJ,yC];obtain⟨w0,hw0,aV,hX,hR,hs0⟩:=Eg w ↑m.kind ↑m.s ↑m.n (.slice m.A m.kids.length m.cap) ↑m.pos;have HHF:=zq Su;have HX:=zq hX;have HR:=zq hR;have HE:=zq aV;have HB:=zq hB;have HF:=zq (λw1 (hE:Ev w w1)=>Jr gr e 12 m.pos ai w1 (HB.out.ev hE));obtain⟨⟨c0,c1,c2,c3,c4⟩,_⟩:=hX.five;clear hX hR aV hB Su hL hf wJ yC;go_enter func123,ntmps123
 go_wp2_with (first
  | ((with_reducible refine(HHF.out _ HE.out).mono ?_);rintro r w1 ⟨rfl,aJ⟩;have E1:=zq (HE.out.trans aJ);clear c0 c1 c2 c3 c4;obtain⟨⟨c0,c1,c2,c3,c4⟩,_⟩:=(HX.out.ev aJ).five)
  | ((with_reducible refine(HF.out _ E1.out).mono ?_);rintro r w2 ⟨rfl,rX⟩;have Ru:=zq rX;obtain⟨⟨r0,r1,r2,r3,r4,r5,r6,r7⟩,s0,s1,s2,s3,s4,s5,s6,s7⟩:=((HR.out.ev aJ).but rX.but (by simp;omega)).eight;clear rX))
 (try simp only[Exit.inBlock,Exit.then]);rw[gI];have hBR:=(HR.out.ev aJ).but Ru.out.but (by simp;omega);refine aFe (aZ rfl _ _ _ _ _ rfl (hBR.mi _ _ _ _ _ _ _ _) underlying35 rfl Tryz.iI) rfl ?_;obtain⟨f1,f2⟩:=Sm (base:=w.heap.size+2) (⟨Ru.out.bx,(But.aU E1.out).then Ru.out.but⟩) hgr (aC8 _) (Qx.zero _ _ _) _ _ _ _ _ _ _ _;exact⟨zA,rfl,vZ,f1,f2⟩
end Go.Proofs.YtbgmhhfjkkfhpaaGreatDoor
