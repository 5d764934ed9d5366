import Derived.Test.YtpbfokkocaemlaaGreatDoorZ26J
import Derived.Test.YtpbfokkocaemlaaGreatDoorZ21J
set_option linter.unusedVariables false
set_option maxRecDepth 100000
set_option maxHeartbeats 64000000
namespace Go.Proofs.YtpbfokkocaemlaaGreatDoor
open Go.RowKit
open Go.Lib renaming hid → zq
open Go renaming World → ak
open Go renaming Value → au
open Go.Proofs.Tryz renaming prog → ax
variable {U:Prop}
open Go.Proofs.Tryz
structure fE(α:Type) where
 A:Option Addr
 cap:Nat
 l:List α
def fE.v{α:Type}(x:fE α):au:=.slice x.A x.l.length x.cap
def fE.nil{α:Type}:fE α:=⟨none,0,[]⟩
def ac(a:Ag):List au:=[.string ⟨a.1.toArray⟩,.string ⟨a.2.1.toArray⟩,.string ⟨a.2.2.toArray⟩]
abbrev As:=Sl 3 ac
theorem zL:Enc 3 ac:=⟨ae,λ_=>rfl,λx u hu=>by
 simp[ac]at hu;rcases hu with rfl|rfl|rfl<;>rfl⟩
inductive PM where
 | mk (kind:Int) (name:By) (ex:fE M) (co lf rt:fE By) (ag:fE Ag) (A:Option Addr) (cap:Nat) (kids:List PM):PM
def PM.kind:PM->Int
 | .mk k _ _ _ _ _ _ _ _ _=>k
def PM.name:PM->By
 | .mk _ s _ _ _ _ _ _ _ _=>s
def PM.ex:PM->fE M
 | .mk _ _ x _ _ _ _ _ _ _=>x
def PM.co:PM->fE By
 | .mk _ _ _ x _ _ _ _ _ _=>x
def PM.lf:PM->fE By
 | .mk _ _ _ _ x _ _ _ _ _=>x
def PM.rt:PM->fE By
 | .mk _ _ _ _ _ x _ _ _ _=>x
def PM.ag:PM->fE Ag
 | .mk _ _ _ _ _ _ x _ _ _=>x
def PM.A:PM->Option Addr
 | .mk _ _ _ _ _ _ _ a _ _=>a
def PM.cap:PM->Nat
 | .mk _ _ _ _ _ _ _ _ c _=>c
def PM.kids:PM->List PM
 | .mk _ _ _ _ _ _ _ _ _ l=>l
mutual
def PM.p:PM->Pl
 | .mk k s ex co lf rt ag _ _ l=>.mk k s (ex.l.map M.t) co.l lf.l rt.l ag.l (PM.ps l)
def PM.ps:List PM->List Pl
 | []=>[]
 | m::l=>m.p::PM.ps l
end
theorem PM.aa1:∀l:List PM,PM.ps l=l.map PM.p
 | []=>by simp[PM.ps]
 | m::l=>by simp[PM.ps,PM.aa1 l]
theorem PM.sD(m:PM):m.p=.mk m.kind m.name (m.ex.l.map M.t) m.co.l m.lf.l m.rt.l m.ag.l (m.kids.map PM.p):=by
 cases m
 simp[PM.p,PM.aa1,PM.kind,PM.name,PM.ex,PM.co,PM.lf,PM.rt,PM.ag,PM.kids]
def PM.kv(m:PM):au:=.slice m.A m.kids.length m.cap
def pc(m:PM):List au:=[↑m.kind,↑m.name,m.ex.v,m.co.v,m.lf.v,m.rt.v,m.ag.v,m.kv]
def pv(m:PM):au:=.agg #[↑m.kind,↑m.name,m.ex.v,m.co.v,m.lf.v,m.rt.v,m.ag.v,m.kv]
theorem sF:Enc 8 pc:=⟨ae,λ_=>rfl,λx u hu=>by
 simp[pc,fE.v,PM.kv]at hu;rcases hu with rfl|rfl|rfl|rfl|rfl|rfl|rfl|rfl<;>rfl⟩
abbrev Ps:=Sl 8 pc
def SK(b0:Nat)(K:List Nat)(w:ak)(A:Option Addr):Prop:=∀ad,A=some ad->b0<=ad.block/\ad.block<w.heap.size/\ad.block∉K
theorem SK.none(b0:Nat)(K:List Nat)(w:ak):SK b0 K w none:=λ_ e=>by cases e
theorem SK.move{b0:Nat}{K K':List Nat}{w w':ak}{A:Option Addr}(h:SK b0 K w A)(hb:But K w w')(hs:∀x∈K',x∈K∨x<b0∨w.heap.size<=x):SK b0 K' w' A:=λad e=>by obtain⟨h1,h2,h3⟩:=h ad e;refine⟨h1,awz h2 hb.size,λhm=>?_⟩;rcases hs _ hm with h4|h4|h4;exact h3 h4;omega;omega
theorem SK.low{b0 b1:Nat}{K:List Nat}{w:ak}{A:Option Addr}(h:SK b1 K w A)(hb:b0<=b1):SK b0 K w A:=λad e=>⟨awJ hb (h ad e).1,(h ad e).2⟩
structure bg{α:Type}(k:Nat)(enc:α->List au)(b0:Nat)(K:List Nat)(w:ak)(x:fE α):Prop where
 sl:Sl k enc w x.A x.l.length x.cap x.l
 Bq:SK b0 K w x.A
theorem bg.move{α:Type}{k:Nat}{enc:α->List au}{b0:Nat}{K K':List Nat}{w w':ak}{x:fE α}(h:bg k enc b0 K w x)(hb:But K w w')(hs:∀y∈K',y∈K∨y<b0∨w.heap.size<=y):bg k enc b0 K' w' x:=
 ⟨h.sl.but hb λad e=>(h.Bq ad e).2.2,h.Bq.move hb hs⟩
theorem bg.low{α:Type}{k:Nat}{enc:α->List au}{b0 b1:Nat}{K:List Nat}{w:ak}{x:fE α}(h:bg k enc b1 K w x)(hb:b0<=b1):bg k enc b0 K w x:=⟨h.sl,h.Bq.low hb⟩
theorem bg.nil{α:Type}(k:Nat)(enc:α->List au)(b0:Nat)(K:List Nat)(w:ak):bg k enc b0 K w (fE.nil:fE α):=⟨Sl.nil_ w,SK.none _ _ _⟩
inductive Qx(b0:Nat)(K:List Nat)(w:ak):PM->Prop
 | mk {kind:Int} {name:By} {ex:fE M} {co lf rt:fE By} {ag:fE Ag} {A:Option Addr} {cap:Nat} {kids:List PM}:bg 4 ec b0 K w ex->(∀e∈ex.l,Lx b0 K w e)->bg 1 sc b0 K w co->bg 1 sc b0 K w lf->bg 1 sc b0 K w rt->bg 3 ac b0 K w ag->
   bg 8 pc b0 K w ⟨A,cap,kids⟩->(∀k∈kids,Qx b0 K w k)->Qx b0 K w (.mk kind name ex co lf rt ag A cap kids)
theorem Qx.at{b0:Nat}{K:List Nat}{w:ak}{m:PM}(h:Qx b0 K w m):bg 4 ec b0 K w m.ex/\(∀e∈m.ex.l,Lx b0 K w e)/\bg 1 sc b0 K w m.co/\bg 1 sc b0 K w m.lf/\bg 1 sc b0 K w m.rt/\bg 3 ac b0 K w m.ag/\bg 8 pc b0 K w ⟨m.A,m.cap,m.kids⟩/\∀k∈m.kids,Qx b0 K w k:=by
 cases h with
 | mk h1 h2 h3 h4 h5 h6 h7 h8=>exact⟨h1,h2,h3,h4,h5,h6,h7,h8⟩
theorem Qx.kid{b0:Nat}{K:List Nat}{w:ak}{m:PM}(h:Qx b0 K w m):∀k∈m.kids,Qx b0 K w k:=h.at.2.2.2.2.2.2.2
theorem Qx.ps{b0:Nat}{K:List Nat}{w:ak}{m:PM}(h:Qx b0 K w m):Ps w m.A m.kids.length m.cap m.kids:=h.at.2.2.2.2.2.2.1.sl
theorem Qx.move{b0:Nat}{K K':List Nat}{w w':ak}{m:PM}(h:Qx b0 K w m)(hb:But K w w')(hs:∀x∈K',x∈K∨x<b0∨w.heap.size<=x):Qx b0 K' w' m:=by
 induction h with
 | mk h1 h2 h3 h4 h5 h6 h7 h8 ih=>
  exact .mk (h1.move hb hs) (λe he=>(h2 e he).move hb hs) (h3.move hb hs) (h4.move hb hs) (h5.move hb hs) (h6.move hb hs) (h7.move hb hs) ih
theorem Qx.ev{b0:Nat}{K:List Nat}{w w':ak}{m:PM}(h:Qx b0 K w m)(hE:Ev w w'):Qx b0 K w' m:=h.move (But.aV hE) λ_ hx=>.inl hx
theorem Qx.low{b0 b1:Nat}{K:List Nat}{w:ak}{m:PM}(h:Qx b1 K w m)(hb:b0<=b1):Qx b0 K w m:=by
 induction h with
 | mk h1 h2 h3 h4 h5 h6 h7 h8 ih=>exact .mk (h1.low hb) (λe he=>(h2 e he).low hb) (h3.low hb) (h4.low hb) (h5.low hb) (h6.low hb) (h7.low hb) ih
theorem Qx.less{b0:Nat}{K K':List Nat}{w:ak}{m:PM}(h:Qx b0 K w m)(hs:∀x∈K',x∈K∨x<b0∨w.heap.size<=x):Qx b0 K' w m:=h.move (But.refl _ _) hs
def kD:PM:=.mk 0 [] .nil .nil .nil .nil .nil none 0 []
theorem iD:kD.p=ik:=by rw[PM.sD];rfl
theorem Qx.zero(b0:Nat)(K:List Nat)(w:ak):Qx b0 K w kD:=
 .mk (bg.nil ..) (λ_ h=>by cases h) (bg.nil ..) (bg.nil ..) (bg.nil ..) (bg.nil ..) (bg.nil ..) (λ_ h=>by cases h)
theorem Ps.cell{w:ak}{b off n cap:Nat}{l:List PM}(h:Ps w ↑(b,off) n cap l){i:Nat}{x:PM}(hx:l[i]?=some x):
  w.cell? ⟨b,off+i*8,none⟩=some ↑x.kind/\w.cell? ⟨b,off+i*8+1,none⟩=some ↑x.name/\w.cell? ⟨b,off+i*8+2,none⟩=some x.ex.v/\w.cell? ⟨b,off+i*8+3,none⟩=some x.co.v/\w.cell? ⟨b,off+i*8+4,none⟩=some x.lf.v/\w.cell? ⟨b,off+i*8+5,none⟩=some x.rt.v/\w.cell? ⟨b,off+i*8+6,none⟩=some x.ag.v/\w.cell? ⟨b,off+i*8+7,none⟩=some x.kv:=by
 have hi:=(awi.1 hx).1;have hl:=h.len;obtain⟨b',off',e,hlt,hc⟩:=h.rd ae;injection e with e
 injection e with e1 e2 _
 subst e1 e2;exact⟨hc i x hx 0 _ rfl,hc i x hx 1 _ rfl,hc i x hx 2 _ rfl,hc i x hx 3 _ rfl,hc i x hx 4 _ rfl,hc i x hx 5 _ rfl,hc i x hx 6 _ rfl,hc i x hx 7 _ rfl⟩
mutual
def PM.dep:PM->Nat
 | .mk _ _ _ _ _ _ _ _ _ l=>PM.deps l+1
def PM.deps:List PM->Nat
 | []=>0
 | m::l=>max m.dep (PM.deps l)
end
theorem PM.DW:∀(l:List PM) (k:PM),k∈l->k.dep<=PM.deps l
 | [],k,h=>by cases h
 | m::l,k,h=>by rcases awq.1 h with rfl|h;simp[PM.deps];omega;have:=PM.DW l k h;simp[PM.deps];omega
theorem PM.nT(m:PM):m.dep=PM.deps m.kids+1:=by cases m;rfl
theorem PM.mg{m k:PM}(h:k∈m.kids):k.dep<m.dep:=by have:=PM.DW m.kids k h;rw[PM.nT m];omega
theorem Ow.sle{α:Type}{et:TypeId}{k:Nat}{enc:α->List au}{base:Nat}{w:ak}{v:au}{Z:List α}(E:Enc k enc)(h:Ow et k enc base w v Z):∃x:fE α,v=x.v/\x.l=Z/\bg k enc base [] w x:=by obtain⟨A,cap,hv,hS,hA⟩:=h.form E;exact⟨⟨A,cap,Z⟩,hv,rfl,hS,λad e=>⟨(hA ad e).2.1,(hA ad e).2.2.1,aj⟩⟩
instance ceA:Coe PM (Array au):=⟨λm=>#[.int .i64 m.kind,.string ⟨m.name.toArray⟩,.slice m.ex.A m.ex.l.length m.ex.cap,.slice m.co.A m.co.l.length m.co.cap,.slice m.lf.A m.lf.l.length m.lf.cap,.slice m.rt.A m.rt.l.length m.rt.cap,.slice m.ag.A m.ag.l.length m.ag.cap,.slice m.A m.kids.length m.cap]⟩
instance ceB(a b:PM):CoeDep (PM×PM) (a,b) (Array au):=⟨#[.int .i64 a.kind,.string ⟨a.name.toArray⟩,.slice a.ex.A a.ex.l.length a.ex.cap,.slice a.co.A a.co.l.length a.co.cap,.slice a.lf.A a.lf.l.length a.lf.cap,.slice a.rt.A a.rt.l.length a.rt.cap,.slice a.ag.A a.ag.l.length a.ag.cap,.slice a.A a.kids.length a.cap,.int .i64 b.kind,.string ⟨b.name.toArray⟩,.slice b.ex.A b.ex.l.length b.ex.cap,.slice b.co.A b.co.l.length b.co.cap,.slice b.lf.A b.lf.l.length b.lf.cap,.slice b.rt.A b.rt.l.length b.rt.cap,.slice b.ag.A b.ag.l.length b.ag.cap,.slice b.A b.kids.length b.cap]⟩
theorem nV:Enc 2 dZ:=⟨ae,λ_=>rfl,λx u hu=>by
 simp[dZ]at hu;rcases hu with rfl|rfl<;>rfl⟩
theorem Cs.zM{w:ak}{A:Option Addr}{n cap:Nat}{l:List C}(h:Cs w A n cap l){i:Nat}{c:C}(hc:l[i]?=some c):∃b off,A=some ⟨b,off,none⟩/\w.cell? ⟨b,off+i*2,none⟩=some (.string c.1)/\w.cell? ⟨b,off+i*2+1,none⟩=some (.int .i64 c.2):=by have hi:=(awi.1 hc).1;have hl:=h.len;obtain⟨b,off,e,_,hcell⟩:=h.rd ae;exact⟨b,off,e,hcell i c hc 0 _ rfl,hcell i c hc 1 _ rfl⟩
structure CR where
 cols:List C
 why:Int
 name:ByteArray
def CR.zero:CR:=⟨[],0,⟨#[]⟩⟩
def CR.fail(r:CR)(why:Int)(nm:ByteArray):CR:=if r.why=0 then ⟨r.cols,why,nm⟩ else r
def dS(l:List C)(s:ByteArray):Int:=match fM l s with
 | some i=>(l.getD i (⟨#[]⟩,0)).2
 | none=>0
def CR.find(r:CR)(l:List C)(s:ByteArray):CR:=if (fM l s).isSome then r else r.fail 20 s
def CR.kind(r:CR)(l:List C)(e:T):CR:=if (xType l e).2=0 then r else r.fail (xType l e).2 ⟨#[]⟩
def CR.limit(r:CR):CR:=if 6<r.cols.length then r.fail 23 ⟨#[]⟩ else r
def CR.add(r:CR)(nm:ByteArray)(k:Int):CR:=let r1:=if (fM r.cols nm).isSome then r.fail 21 nm else r;⟨r1.cols++[(nm,k)],r1.why,r1.name⟩
structure f_(gr base:Nat)(r:CR)(v:au)(w:ak):Prop where
 box:Bx 58 gr #[v,↑r.why,.string r.name] w
 own:Ow 50 2 dZ base w v r.cols
 gf:gr∉foot v
theorem f_.ev{gr base:Nat}{r:CR}{v:au}{w w':ak}(h:f_ gr base r v w)(hE:Ev w w'):f_ gr base r v w':=⟨h.box.ev hE,h.own.ev hE,h.gf⟩
theorem CR.gQ(r:CR)(why:Int)(nm:ByteArray):(r.fail why nm).cols=r.cols:=by unfold CR.fail;split<;>rfl
theorem nM(gr base:Nat)(r:CR)(v:au)(why:Int)(nm:ByteArray)(w:ak)(h:f_ gr base r v w):
  Calls ax 66 #[.pointer ↑gr,↑why,.string nm] w λe w'=>e=.returned (.tuple #[])/\f_ gr base (r.fail why nm) v w'/\But [gr] w w':=by
 obtain⟨⟨c0,c1,c2⟩,f0,f1,f2⟩:=h.box.three;have H:=zq h;clear h;by_cases hw:r.why=0
 ·have hO:r.fail why nm=⟨r.cols,why,nm⟩:=by unfold CR.fail;rw[if_pos hw]
  rw[hO];have h':(r.why==0)=true:=by simp[hw]
  go_enter func66,ntmps66;go_wp2;(try simp only[Exit.inBlock,Exit.then]);go_end0;have hb:But [gr] w ((w.setCell ⟨gr,1,none⟩ ↑why).setCell ⟨gr,2,none⟩ (.string nm)):=(But.setCell ⟨gr,1,none⟩ _ aj).then (But.setCell ⟨gr,2,none⟩ _ aj);refine⟨rfl,⟨?_,H.out.own.but hb (λg hg=>by simp;intro e;exact H.out.gf (aG.2 (e▸hg))),H.out.gf⟩,hb⟩;have:=(H.out.box.set 1 ↑why).set 2 (.string nm);simpa using this
 have h':(r.why==0)=false:=awg.2 hw;have hO:r.fail why nm=r:=by unfold CR.fail;rw[if_neg hw]
 rw[hO];go_enter func66,ntmps66;go_wp2;go_end0;exact⟨rfl,H.out,But.refl _ _⟩
theorem I5(gr base:Nat)(r:CR)(v:au)(l:List C)(A:Option Addr)(n cap:Nat)(s:ByteArray)(w:ak)(h:f_ gr base r v w)(hC:Cs w A n cap l):
  Calls ax 71 #[.pointer ↑gr,.slice A n cap,.string s] w λe w'=>e=.returned (.int .i64 (dS l s))/\f_ gr base (r.find l s) v w'/\But [gr] w w':=by
 have HF:=zq (pz (l:=l) s w hC);have hle:=hC.le;have hmx:=hC.max;have H:=zq h;have Ox:=zq (λw1 (hE:Ev w w1)=>nM gr base r v 20 s w1 (h.ev hE));unfold dS CR.find
 cases hf:fM l s with
 | none=>
  rw[hf]at HF;simp only[foundAt,Option.isSome_none,awv,if_false]at HF|-;clear h hC hf;go_enter func71,ntmps71
  go_wp2_with (first
   | ((with_reducible refine(HF.out).mono ?_);rintro e w1 ⟨rfl,aK⟩;have E1:=zq aK;clear aK)
   | ((with_reducible refine(Ox.out _ E1.out).mono ?_);rintro e w2 ⟨rfl,hR,hB⟩))
  go_ret;exact⟨rfl,hR,(But.aV E1.out).then hB⟩
 | some i=>
  rw[hf]at HF;simp only[foundAt,Option.isSome_some,if_true]at HF|-;have Pg:i<l.length:=by unfold fM at hf;exact(axy.1 hf).1
  have hin:i<n:=by rw[<-hC.len];exact Pg
  obtain⟨c,hc⟩:=hC.at hin;have hgd:(l.getD i (⟨#[]⟩,0)).2=c.2:=by rw[axa,hc];rfl
  rw[hgd];have SL:=zq (λw1 (hE:Ev w w1)=>Cs.zM (hC.ev hE) hc);obtain⟨b,off,hA,hb,_⟩:=hC.rd ae;subst hA;have i1:(0:Int)<=(i:Int):=ae;have i2:(i:Int)<(n:Int):=ae;clear h hC hf hc hgd;go_enter func71,ntmps71
  go_wp2_with (first
   | ((with_reducible refine(HF.out).mono ?_);rintro e w1 ⟨rfl,aK⟩;have E1:=zq aK;obtain⟨b',off',e',k0,k1⟩:=SL.out _ aK;injection e' with e';injection e' with e1 e2 _;subst e1 e2;clear aK))
  go_ret;exact⟨rfl,H.out.ev E1.out,But.aV E1.out⟩
theorem D8(gr base:Nat)(r:CR)(A:Option Addr)(n cap:Nat)(w:ak)(h:f_ gr base r (.slice A n cap) w):
  Calls ax 70 #[.pointer ↑gr] w λe w'=>e=.returned (.tuple #[])/\f_ gr base r.limit (.slice A n cap) w'/\But [gr] w w':=by
 obtain⟨⟨c0,c1,c2⟩,f0,f1,f2⟩:=h.box.three;have hn:n=r.cols.length:=by obtain⟨A2,cap2,hv,_⟩:=h.own.form nV;injection hv with _ h2 _
 have H:=zq h;have Ox:=zq (nM gr base r (.slice A n cap) 23 ⟨#[]⟩ w h);unfold CR.limit;rw[<-hn];clear h hn;by_cases hl:6<n
 ·rw[if_pos hl];have i1:(6:Int)<(n:Int):=ae;go_enter func70,ntmps70
  go_wp2_with (first
   | ((with_reducible refine(Ox.out).mono ?_);rintro e w2 ⟨rfl,hR,hB⟩))
  go_end0;exact⟨rfl,hR,hB⟩
 rw[if_neg hl];have i1:¬((6:Int)<(n:Int)):=ae;go_enter func70,ntmps70;go_wp2;go_end0;exact⟨rfl,H.out,But.refl _ _⟩
theorem Xy(gr base:Nat)(r:CR)(v:au)(m:M)(b0:Nat)(l:List C)(A:Option Addr)(n cap:Nat)(w:ak)(h:f_ gr base r v w)(hL:Lx b0 [] w m)(hC:Cs w A n cap l)(hsz:m.t.size<=16000)(hf:m.t.every (λt=>decide (t.s.length<=1000000))=true):
  Calls ax 68 #[.pointer ↑gr,.agg ↑(m,()),.slice A n cap] w λe w'=>e=.returned (.int .i64 (xType l m.t).1)/\f_ gr base (r.kind l m.t) v w'/\But [gr] w w':=by
 have HT:=zq (λw1 (hE:Ev w w1)=>ado m b0 w1 A n cap l (hL.ev hE) (hC.ev hE) hsz hf);have aW:=Ev.alloc w (.cells ↑(m,()) 47);have hB:=Bx.new 47 ↑(m,()) w;obtain⟨⟨c0,c1,c2,c3⟩,_⟩:=hB.four;have H:=zq h;have dM:=zq aW;unfold CR.kind;unfold Az M.kv at HT;generalize xType l m.t=R at*;obtain⟨k,y⟩:=R;simp only at HT|-;have Ox:=zq (λw1 (hE:Ev w w1)=>nM gr base r v y ⟨#[]⟩ w1 (h.ev hE));clear h hL hC hB aW;by_cases hy:y=0
 ·subst hy;rw[if_pos rfl];go_enter func68,ntmps68
  go_wp2_with (first
   | ((with_reducible refine(HT.out _ dM.out).mono ?_);rintro e w1 ⟨rfl,aK⟩;have E1:=zq (dM.out.trans aK);clear aK))
  go_ret;exact⟨rfl,H.out.ev E1.out,But.aV E1.out⟩
 rw[if_neg hy];have hyb:(y==0)=false:=awg.2 hy;go_enter func68,ntmps68
 go_wp2_with (first
  | ((with_reducible refine(HT.out _ dM.out).mono ?_);rintro e w1 ⟨rfl,aK⟩;have E1:=zq (dM.out.trans aK);clear aK)
  | ((with_reducible refine(Ox.out _ E1.out).mono ?_);rintro e w2 ⟨rfl,hR,hB⟩))
 go_ret;exact⟨rfl,hR,(But.aV E1.out).then hB⟩
def yP(l:List By)(s:ByteArray):Bool:=l.any λx=>s.toList==x
theorem YK{l:List By}{s:ByteArray}{k:Nat}{x:By}(h:yP (l.take k) s=false)(hx:l[k]?=some x)(hne:(s.toList==x)=false):yP (l.take (k+1)) s=false:=by obtain⟨hk,rfl⟩:=awi.1 hx;unfold yP at h|-;rw[aws hk,List.any_append,h];simpa using hne
theorem aa2{l:List By}{s:ByteArray}{k:Nat}{x:By}(hx:l[k]?=some x)(he:(s.toList==x)=true):yP l s=true:=axu.2 ⟨x,awm hx,he⟩
def CR.once(r:CR)(ahead:List By)(s:ByteArray):CR:=if yP ahead s then r.fail 21 s else r
theorem Ss.D9{w:ak}{A:Option Addr}{n cap:Nat}{l:List By}(h:Ss w A n cap l){i:Nat}{x:By}(hx:l[i]?=some x):∃b off,A=some ⟨b,off,none⟩/\w.cell? ⟨b,off+i,none⟩=some ↑x:=by have hi:=(awi.1 hx).1;have hl:=h.len;obtain⟨b,off,e,_,hc⟩:=h.rd ae;have:=hc i x hx 0 _ rfl;rw[axY,awM]at this;exact⟨b,off,e,this⟩
theorem SN(l:List By)(A:Option Addr)(n cap:Nat)(s:ByteArray)(w:ak)(h:Ss w A n cap l):
  Calls ax 120 #[.slice A n cap,.string s] w λe w'=>∃i:Int,e=.returned ↑i/\decide (0<=i)=yP l s/\Ev w w':=by
 have hn:=h.le;have hm:=h.max;have HL:=zq h.len;have H:=zq h;clear h;go_enter func120,ntmps120;go_wp2
 go_loopw [8] (λi wr=>∃k:Nat,k<=n/\i=↑k/\Hid (yP (l.take k) s=false)/\Hid (Ev w wr)) (λi _=>n - (intOf i).toNat)
 case atStart=>exact⟨0,aww _,rfl,zq rfl,zq aJ⟩
 case round=>
  obtain⟨k,hk,rfl,HT,HE⟩:=hrel;by_cases hlt:k<n
  ·obtain⟨x,hx⟩:=H.out.at hlt;obtain⟨b,off,rfl,c0⟩:=Ss.D9 (H.out.ev HE.out) hx;have HX:=zq hx;have i1:(0:Int)<=(k:Int):=ae;have i2:(k:Int)<(n:Int):=ae;clear hx
   cases ht:(s.toList==x)
   ·have HF:=zq (YK HT.out HX.out ht);go_wp2;go_roundw
    case rel=>exact⟨k+1,ae,by go_num,HF,HE⟩
    case measure=>simp[intOf];omega
   have HF:=zq (aa2 HX.out ht);go_wp2;go_ret;exact⟨(k:Int),rfl,by rw[HF.out];simp,HE.out⟩
  obtain rfl:k=n:=ae;have HF:Hid (yP l s=false):=zq (by have:=HT.out;rwa [awC (by rw[HL.out];exact awj _)]at this);go_wp2;go_ret;exact⟨-1,rfl,by rw[HF.out];rfl,HE.out⟩
theorem zN(l:List By)(A:Option Addr)(n cap:Nat)(s:ByteArray)(w:ak)(h:Ss w A n cap l):
  Calls ax 73 #[.slice A n cap,.string s] w λe w'=>e=.returned (.bool (yP l s))/\Ev w w':=by
 have HI:=zq (SN l A n cap s w h);clear h;go_enter func73,ntmps73
 go_wp2_with (first|((with_reducible refine(HI.out).mono ?_);rintro e w1 ⟨i,rfl,hi,aK⟩;have HD:=zq hi;clear hi))
 go_ret;exact⟨by rw[<-HD.out];rfl,aK⟩
theorem Xz(gr base:Nat)(r:CR)(v:au)(l:List By)(A:Option Addr)(n cap:Nat)(s:ByteArray)(w:ak)(h:f_ gr base r v w)(hS:Ss w A n cap l):
  Calls ax 72 #[.pointer ↑gr,.slice A n cap,.string s] w λe w'=>e=.returned (.tuple #[])/\f_ gr base (r.once l s) v w'/\But [gr] w w':=by
 have HC:=zq (zN l A n cap s w hS);have H:=zq h;have Ox:=zq (λw1 (hE:Ev w w1)=>nM gr base r v 21 s w1 (h.ev hE));unfold CR.once;clear h hS
 cases hh:yP l s
 ·rw[hh]at HC;clear hh;simp only[awv,if_false];go_enter func72,ntmps72
  go_wp2_with (first
   | ((with_reducible refine(HC.out).mono ?_);rintro e w1 ⟨rfl,aK⟩))
  go_end0;exact⟨rfl,H.out.ev aK,But.aV aK⟩
 rw[hh]at HC;clear hh;simp only[if_true];go_enter func72,ntmps72
 go_wp2_with (first
  | ((with_reducible refine(HC.out).mono ?_);rintro e w1 ⟨rfl,aK⟩;have E1:=zq aK;clear aK)
  | ((with_reducible refine(Ox.out _ E1.out).mono ?_);rintro e w2 ⟨rfl,hR,hB⟩))
 go_end0;exact⟨rfl,hR,(But.aV E1.out).then hB⟩
theorem Tryz.D_:(Tryz.prog.info? 50).map (λi=>(i.zero,i.size,i.bytes))=some (some (.agg #[.string ⟨#[]⟩,.int .i64 0]),2,24):=ah
theorem f_.grow{gr base:Nat}{r:CR}{v v2:au}{c:C}{w wq w3:ak}(h:f_ gr base r v w)(hE:Ev w wq)(hA:nR 50 2 dZ base wq v (r.cols++[c]) v2 w3):
  f_ gr base ⟨r.cols++[c],r.why,r.name⟩ v2 (w3.setCell ⟨gr,0,none⟩ v2)/\But (gr::foot v) w (w3.setCell ⟨gr,0,none⟩ v2)/\fF w v v2:=by
 obtain⟨ho,hb,hs⟩:=hA;have hB:=(h.box.ev hE).but hb h.gf;have hlt:=h.box.lt;have hbS:But [gr] w3 (w3.setCell ⟨gr,0,none⟩ v2):=But.setCell _ _ aj;have hg2:gr∉foot v2:=λhm=>by rcases hs gr (aG.1 hm) with h1|h1;exact h.gf (aG.2 h1);have:=hE.size;omega
 refine⟨⟨?_,ho.but hbS λg hg=>by simp;intro e;exact hg2 (aG.2 (e▸hg)),hg2⟩,?_,λg hg=>?_⟩;have:=hB.set 0 v2;simpa using this;exact((But.aV hE).then (hb.wide λk hk=>.inl (awn _ hk))).then (hbS.wide λk hk=>.inl (by simp at hk;subst hk;exact awp ..));rcases hs g hg with h1|h1;exact .inl h1;exact .inr (awJ hE.size h1)
theorem f_.after{gr base:Nat}{r:CR}{v v2:au}{Z:List C}{w wq w3:ak}(h:f_ gr base r v w)(hE:Ev w wq)(hA:nR 50 2 dZ base wq v Z v2 w3):Bx 58 gr #[v,↑r.why,.string r.name] w3:=(h.box.ev hE).but hA.2.1 h.gf
def CX(gr base:Nat)(r:CR)(v:au)(w:ak)(e:Ending)(w':ak):Prop:=e=.returned (.tuple #[])/\∃v',f_ gr base r v' w'/\But (gr::foot v) w w'/\fF w v v'
theorem f_.form{gr base:Nat}{r:CR}{v:au}{w:ak}(h:f_ gr base r v w):∃A cap,v=.slice A r.cols.length cap/\Cs w A r.cols.length cap r.cols:=by obtain⟨A,cap,hv,hS,_⟩:=h.own.form nV;exact⟨A,cap,hv,hS⟩
theorem P_(gr base:Nat)(r:CR)(v:au)(nm:ByteArray)(k:Int)(w:ak)(h:f_ gr base r v w)(hl:r.cols.length<=100000)(hb:base<=w.heap.size):
  Calls ax 69 #[.pointer ↑gr,.string nm,↑k] w (CX gr base (r.add nm k) v w):=by
 obtain⟨A,cap,rfl,hC⟩:=h.form;have HF:=zq (pz (l:=r.cols) nm w hC);have hle:=hC.le;have hmx:=hC.max;have H:=zq h;have Ox:=zq (λw1 (hE:Ev w w1)=>nM gr base r (.slice A r.cols.length cap) 21 nm w1 (h.ev hE));obtain⟨⟨c0,c1,c2⟩,f0,f1,f2⟩:=h.box.three;unfold CR.add CX;have HFC:=zq (CR.gQ r 21 nm);obtain⟨nl,hnl⟩:∃nl,nl=r.cols.length:=⟨_,rfl⟩
 have jg:=zq hnl;rw[<-hnl]at hl hle HF H Ox c0|-;clear h hC hnl
 cases hf:(fM r.cols nm).isSome
 ·rw[hf]at HF;simp only[awv,if_false];clear hf Ox;go_enter func69,ntmps69
  go_wp2_with (first
   | ((with_reducible refine(HF.out).mono ?_);rintro e w1 ⟨rfl,aK⟩;have E1:=zq aK;have HW:=zq (H.out.ev aK);clear c0 c1 c2 f0 f1 f2;obtain⟨⟨c0,c1,c2⟩,f0,f1,f2⟩:=HW.out.box.three;clear aK)
   | ((show wpList _ _ _ (⟨some 30,_,_,_,_,_⟩::_) _ _);refine aO (o:=⟨some 30,_,_,_,_,_⟩) rfl 24 (.tmp 25) (.tmp 29) rfl nV underlying24 Tryz.D_ rfl rfl (HW.out.own.ev az) (some ⟨_,0,none⟩) 1 1 [(nm,k)] rfl (Sl.one (et:=50) nV _ (nm,k) _ rfl) (by rw[<-jg.out];simp;omega) (by rw[<-jg.out];simp;omega) (by have:=E1.out.size;simp;omega) ?_;intro v2 w3 gV;obtain⟨A2,cap2,rfl,oJ,pM⟩:=gV.1.form nV;clear oJ pM;generalize CU:List.length (_++[(nm,k)])=nn at gV|-;clear CU;obtain⟨⟨k0,k1,k2⟩,g0,g1,g2⟩:=(HW.out.after az gV).three;have HG:=zq (HW.out.grow az gV);clear gV))
  go_end0;exact⟨rfl,_,HG.out.1,(But.aV E1.out).then HG.out.2.1,λg hg=>(HG.out.2.2 g hg).imp_right λh=>awJ E1.out.size h⟩
 rw[hf]at HF;simp only[if_true];clear hf;obtain⟨R1,hR1⟩:∃R1,R1=r.fail 21 nm:=⟨_,rfl⟩
 rw[<-hR1]at Ox HFC|-;have hRc:Hid (R1.cols.length=nl):=zq (by rw[HFC.out,jg.out]);clear hR1;go_enter func69,ntmps69
 go_wp2_with (first
  | ((with_reducible refine(HF.out).mono ?_);rintro e w1 ⟨rfl,aK⟩;have E1:=zq aK;clear c0 c1 c2 f0 f1 f2;obtain⟨⟨c0,c1,c2⟩,f0,f1,f2⟩:=(H.out.ev aK).box.three;clear aK)
  | ((with_reducible refine(Ox.out _ E1.out).mono ?_);rintro e w2 ⟨rfl,hR,hB⟩;have HW:=zq hR;have HB:=zq hB;clear c0 c1 c2 f0 f1 f2;obtain⟨⟨c0,c1,c2⟩,f0,f1,f2⟩:=HW.out.box.three;clear hR hB)
  | ((show wpList _ _ _ (⟨some 30,_,_,_,_,_⟩::_) _ _);refine aO (o:=⟨some 30,_,_,_,_,_⟩) rfl 24 (.tmp 25) (.tmp 29) rfl nV underlying24 Tryz.D_ rfl rfl (HW.out.own.ev az) (some ⟨_,0,none⟩) 1 1 [(nm,k)] rfl (Sl.one (et:=50) nV _ (nm,k) _ rfl) (by rw[hRc.out];simp;omega) (by rw[hRc.out];simp;omega) (by have:=E1.out.size;have:=HB.out.size;simp;omega) ?_;intro v2 w3 gV;obtain⟨A2,cap2,rfl,oJ,pM⟩:=gV.1.form nV;clear oJ pM;generalize CU:List.length (_++[(nm,k)])=nn at gV|-;clear CU;obtain⟨⟨k0,k1,k2⟩,g0,g1,g2⟩:=(HW.out.after az gV).three;have HG:=zq (HW.out.grow az gV);clear gV))
 go_end0;refine⟨rfl,_,HG.out.1,((But.aV E1.out).then (HB.out.wide λk hk=>.inl (by simp at hk;subst hk;exact awp ..))).then HG.out.2.1,λg hg=>(HG.out.2.2 g hg).imp_right λh=>awJ (awJ E1.out.size HB.out.size) h⟩
def CR.of(l:List C):CR:=⟨l,0,⟨#[]⟩⟩
def CR.agg(r:CR)(kid:List C)(a:Ag):CR:=
 if a.2.1==ve then (let r2:=(r.add (dh a.1) 1).find kid (dh a.2.2);if dS kid (dh a.2.2)=1 then r2 else r2.fail 22 (dh a.2.2))
 else if a.2.1==vg||a.2.1==vk then (r.add (dh a.1) (dS kid (dh a.2.2))).find kid (dh a.2.2)
 else r.add (dh a.1) 1
structure DM where
 name:By
 A:Option Addr
 cap:Nat
 cols:List C
def dc(d:DM):List au:=[↑d.name,.slice d.A d.cols.length d.cap]
structure Kv(w:ak)(A:Option Addr)(n cap:Nat)(l:List DM):Prop where
 sl:Sl 2 dc w A n cap l
 cols:∀d∈l,Cs w d.A d.cols.length d.cap d.cols
theorem Kv.ev{w w':ak}{A:Option Addr}{n cap:Nat}{l:List DM}(h:Kv w A n cap l)(hE:Ev w w'):Kv w' A n cap l:=⟨h.sl.ev hE,λd hd=>(h.cols d hd).ev hE⟩
theorem Kv.cell{w:ak}{A:Option Addr}{n cap:Nat}{l:List DM}(h:Kv w A n cap l){i:Nat}{d:DM}(hd:l[i]?=some d):∃b off,A=some ⟨b,off,none⟩/\b<w.heap.size/\w.cell? ⟨b,off+i*2,none⟩=some ↑d.name/\w.cell? ⟨b,off+i*2+1,none⟩=some (.slice d.A d.cols.length d.cap):=by have hi:=(awi.1 hd).1;have hl:=h.sl.len;obtain⟨b,off,e,hlt,hc⟩:=h.sl.rd ae;exact⟨b,off,e,hlt,hc i d hd 0 _ rfl,hc i d hd 1 _ rfl⟩
abbrev Df:=By×List C
def DM.df(d:DM):Df:=(d.name,d.cols)
def uu(D:List Df)(nm:By):CR:=match D.find? (λd=>d.1==nm) with
 | some d=>CR.of d.2
 | none=>CR.zero.fail 20 (dh nm)
def sG(e:T)(kid:List C):CR:=let r:=(CR.of kid).kind kid e;if (xType kid e).1=1 then r else r.fail 22 ⟨#[]⟩
def vz(kid:List C)(r:CR)(ec:T×By):CR:=(r.kind kid ec.1).add (dh ec.2) (xType kid ec.1).1
def qU(es:List T)(cs:List By)(kid:List C):CR:=((es.zip cs).foldl (vz kid) CR.zero).limit
def sH(lf rt:List By)(a b:List C)(r:CR)(i:Nat):CR:=
 let l:=dh (lf.getD i [])
 let m:=dh (rt.getD i [])
 let r4:=(((r.find a l).find b m).once (lf.take i) l).once (rt.take i) m
 if dS a l=dS b m then r4 else r4.fail 22 l
def l9(rt:List By)(r:CR)(c:C):CR:=if yP rt c.1 then r else r.add c.1 c.2
def oK(lf rt:List By)(a b:List C):CR:=if lf.length=rt.length/\lf.length≠0 then (b.foldl (l9 rt) ((List.range lf.length).foldl (sH lf rt a b) (CR.of a))).limit else (CR.of a).fail 23 ⟨#[]⟩
def vC(a b:List C)(r:CR)(i:Nat):CR:=if (a.getD i (⟨#[]⟩,0)).2=(b.getD i (⟨#[]⟩,0)).2 then r else r.fail 22 (a.getD i (⟨#[]⟩,0)).1
def uw(a b:List C):CR:=if a.length=b.length then (List.range a.length).foldl (vC a b) (CR.of a) else (CR.of a).fail 23 ⟨#[]⟩
def pO(kid:List C)(r:CR)(nm:By):CR:=(r.find kid (dh nm)).add (dh nm) (dS kid (dh nm))
def uy(lf:List By)(ag:List Ag)(kid:List C):CR:=
 let r:=ag.foldl (λr a=>r.agg kid a) (lf.foldl (pO kid) CR.zero)
 (if r.cols.length=0 then r.fail 23 ⟨#[]⟩ else r).limit
def CY(D:List Df)(k:Int)(nm:By)(es:List T)(cs lf rt:List By)(ag:List Ag)(kids:List (List C)):CR:=
 if k=1 then uu D nm
 else if k=2 then sG (es.getD 0 dR) (kids.getD 0 [])
 else if k=3 then qU es cs (kids.getD 0 [])
 else if k=4 then oK lf rt (kids.getD 0 []) (kids.getD 1 [])
 else if k=5 then uw (kids.getD 0 []) (kids.getD 1 [])
 else if k=6 then CR.of (kids.getD 0 [])
 else uy lf ag (kids.getD 0 [])
def zf(l:List CR):Option CR:=l.find? λr=>r.why !=0
mutual
def ckOf(D:List Df):Pl->CR
 | .mk k nm es cs lf rt ag l=>match zf (ckAll D l) with
  | some r=>r
  | none=>CY D k nm es cs lf rt ag ((ckAll D l).map CR.cols)
def ckAll(D:List Df):List Pl->List CR
 | []=>[]
 | p::l=>ckOf D p::ckAll D l
end
theorem F8(D:List Df):∀l:List Pl,ckAll D l=l.map (ckOf D)
 | []=>by simp[ckAll]
 | p::l=>by simp[ckAll,F8 D l]
theorem CZ{l:List CR}(h:∀r∈l,r.why=0):zf l=none:=by unfold zf;rw[List.find?_eq_none];intro r hr;simp[h r hr]
theorem YL{l:List CR}{k:Nat}{r:CR}(h0:∀x∈l.take k,x.why=0)(hr:l[k]?=some r)(hne:r.why≠0):zf l=some r:=by
 obtain⟨hk,hx⟩:=awi.1 hr;have hl:l=l.take k++r::l.drop (k+1):=by rw[<-hx,axZ,axf]
 unfold zf;rw[hl,List.find?_append,show (l.take k).find? (λr=>r.why !=0)=none from by rw[List.find?_eq_none];intro x hx2;simp[h0 x hx2]];simp[hne]
theorem SQ{l:List CR}(h:zf l=none):∀r∈l,r.why=0:=λr hr=>by unfold zf at h;rw[List.find?_eq_none]at h;simpa using h r hr
theorem Oy{l:List CR}{r:CR}(h:zf l=some r):r.why≠0:=by unfold zf at h;have:=List.find?_some h;simpa using this
theorem CR.sJ{r:CR}{why:Int}{nm:ByteArray}(hw:why≠0):(r.fail why nm).why≠0:=by unfold CR.fail;by_cases h:r.why=0<;>simp[h,hw]
theorem CR.SS{r:CR}{why:Int}{nm:ByteArray}(h:r.why≠0):r.fail why nm=r:=by unfold CR.fail;rw[if_neg h]
theorem CR.Kw{r:CR}{l:List C}{s:ByteArray}:(r.find l s).why=0↔r.why=0/\(fM l s).isSome=true:=by unfold CR.find;cases h:(fM l s).isSome;simp only[awv,if_false,and_false,iff_false];exact CR.sJ ai;simp
theorem CR.iM(r:CR)(l:List C)(s:ByteArray):(r.find l s).cols=r.cols:=by unfold CR.find;split;rfl;exact CR.gQ ..
theorem CR.nN(r:CR)(l:List By)(s:ByteArray):(r.once l s).cols=r.cols:=by unfold CR.once;split;exact CR.gQ ..;rfl
theorem CR.oU(r:CR)(l:List C)(e:T):(r.kind l e).cols=r.cols:=by unfold CR.kind;split;rfl;exact CR.gQ ..
theorem CR.kE(r:CR):r.limit.cols=r.cols:=by unfold CR.limit;split;exact CR.gQ ..;rfl
theorem CR.jV(r:CR)(nm:ByteArray)(k:Int):(r.add nm k).cols=r.cols++[(nm,k)]:=by unfold CR.add;simp only;split;rw[CR.gQ];rfl
theorem CR.adz{r:CR}{nm:ByteArray}{k:Int}:(r.add nm k).why=0↔r.why=0/\(fM r.cols nm).isSome=false:=by unfold CR.add;cases h:(fM r.cols nm).isSome;simp;simp only[if_true];simp only[Bool.true_eq_false,and_false,iff_false];exact CR.sJ ai
theorem CR.SV{r:CR}{l:List C}{e:T}:(r.kind l e).why=0↔r.why=0/\(xType l e).2=0:=by unfold CR.kind;by_cases h:(xType l e).2=0;simp[h];rw[if_neg h];simp only[h,and_false,iff_false];exact CR.sJ h
theorem CR.qV{r:CR}:r.limit.why=0↔r.why=0/\r.cols.length<=6:=by unfold CR.limit;by_cases h:6<r.cols.length;rw[if_pos h];constructor;intro h2;exact absurd h2 (CR.sJ ai);intro h2;omega;rw[if_neg h];constructor;intro h2;exact⟨h2,ae⟩;intro h2;exact h2.1
theorem CR.aa3{r:CR}{l:List By}{s:ByteArray}:(r.once l s).why=0↔r.why=0/\yP l s=false:=by unfold CR.once;cases h:yP l s;simp;simp only[if_true,Bool.true_eq_false,and_false,iff_false];exact CR.sJ ai
theorem CR.aa4(r:CR)(kid:List C)(a:Ag):(r.agg kid a).cols.length=r.cols.length+1:=by unfold CR.agg;split;simp only;split;rw[CR.iM,CR.jV];simp;rw[CR.gQ,CR.iM,CR.jV];simp;split;rw[CR.iM,CR.jV];simp;rw[CR.jV];simp
theorem uM{α:Type}(f:CR->α->CR)(n:Nat)(hf:∀r x,(f r x).cols.length<=r.cols.length+n):∀(l:List α) (r:CR),(l.foldl f r).cols.length<=r.cols.length+l.length*n
 | [],r=>by simp
 | x::l,r=>by have h1:=uM f n hf l (f r x);have h2:=hf r x;rw[axj,awr,axz];omega
theorem yQ{α:Type}{f:CR->α->CR}{r:CR}{l:List α}{k:Nat}{x:α}(hx:l[k]?=some x):(l.take (k+1)).foldl f r=f ((l.take k).foldl f r) x:=by obtain⟨hk,rfl⟩:=awi.1 hx;rw[aws hk,axD];rfl
theorem zO{f:CR->Nat->CR}{r:CR}(k:Nat):(List.range (k+1)).foldl f r=f ((List.range k).foldl f r) k:=by rw[List.range_succ,axD];rfl
abbrev Rb(gr:Nat)(e:Er)(w:ak):Prop:=Bx 106 gr #[.int .i64 e.1,.int .i64 (e.2:Int)] w
theorem Bx.two{T:TypeId}{g:Nat}{w:ak}{v0 v1:au}(h:Bx T g #[v0,v1] w):(w.cell? ⟨g,0,none⟩=some v0/\w.cell? ⟨g,1,none⟩=some v1)/\(w.frozen? ⟨g,0,none⟩=false/\w.frozen? ⟨g,1,none⟩=false):=
 ⟨⟨h.cell 0,h.cell 1⟩,h.frozen 0,h.frozen 1⟩
def set2(g:Nat)(v0 v1:au)(w:ak):ak:=(w.setCell ⟨g,0,none⟩ v0).setCell ⟨g,1,none⟩ v1
theorem YN(g:Nat)(v0 v1:au)(w:ak):(w.setCell ⟨g,0,none⟩ v0).setCell ⟨g,1,none⟩ v1=set2 g v0 v1 w:=rfl
theorem aa8(g:Nat)(v0 v1:au)(w:ak):But [g] w (set2 g v0 v1 w):=(But.setCell ⟨g,0,none⟩ v0 aj).then (But.setCell ⟨g,1,none⟩ v1 aj)
theorem Bx.set2{T:TypeId}{g:Nat}{w:ak}{u0 u1:au}(h:Bx T g #[u0,u1] w)(v0 v1:au):Bx T g #[v0,v1] (set2 g v0 v1 w):=by have:=(h.set 0 v0).set 1 v1;rw[show (((#[u0,u1]:Array au).setIfInBounds 0 v0).setIfInBounds 1 v1)=#[v0,v1] by simp]at this;exact this
structure iF(gr:Nat)(e:Er)(w w':ak):Prop where
 bx:Rb gr e w'
 but:But [gr] w w'
theorem iF.then{gr:Nat}{e e':Er}{w w1 w2:ak}(h:iF gr e w w1)(k:iF gr e' w1 w2):iF gr e' w w2:=⟨k.bx,h.but.then k.but⟩
theorem iF.ev{gr:Nat}{e:Er}{w w1 w2:ak}(h:iF gr e w w1)(hE:Ev w1 w2):iF gr e w w2:=⟨h.bx.ev hE,h.but.then (But.aV hE)⟩
theorem iF.of{gr:Nat}{e:Er}{w w1:ak}(h:Rb gr e w)(hE:Ev w w1):iF gr e w w1:=⟨h.ev hE,But.aV hE⟩
theorem I7(gr:Nat)(e:Er)(why:Int)(pos:Nat)(hy:why≠0)(w:ak)(hB:Rb gr e w):
  Calls ax 112 #[.pointer ↑gr,↑why,↑pos] w λr w'=>r=.returned (.tuple #[])/\iF gr (fO e (why,pos)) w w':=by
 obtain⟨⟨c0,c1⟩,f0,f1⟩:=hB.two;have HB:=zq hB;have hyb:(why==0)=false:=awg.2 hy;clear hB;by_cases h:e.1=0
 ·have hO:fO e (why,pos)=(why,pos):=by unfold fO;simp[h,hy]
  rw[hO];have h':(e.1==0)=true:=by simp[h]
  go_enter func112,ntmps112;go_wp2;(try simp only[Exit.inBlock,Exit.then]);rw[YN];go_end0;exact⟨rfl,HB.out.set2 _ _,aa8 _ _ _ _⟩
 have h':(e.1==0)=false:=awg.2 h;have hO:fO e (why,pos)=e:=by unfold fO;simp[h]
 rw[hO];go_enter func112,ntmps112;go_wp2;go_end0;exact⟨rfl,HB.out,But.refl _ _⟩
theorem I8(gr:Nat)(e:Er)(m:M)(w:ak)(hB:Rb gr e w):
  Calls ax 113 #[.pointer ↑gr,.agg ↑m] w λr w'=>r=.returned ↑m.s/\iF gr (fO e (bF m.t)) w w':=by
 have hX:=Bx.new 101 ↑m w;have aW:=Ev.alloc w (.cells ↑m 101);have HN:=zq (λw1=>xW ⟨m.s.toArray⟩ w1);have hn:bF m.t=if fK ⟨m.s.toArray⟩ then (0,0) else (20,m.pos):=by unfold bF iC dh;rw[M.uJ,M.GK]
 rw[hn];have HX:=zq hX;have HE:=zq aW;have HB:=zq hB;obtain⟨⟨c0,c1,c2,c3,c4⟩,_⟩:=hX.five;generalize fK ⟨m.s.toArray⟩=q at*;clear hX aW hB hn
 cases q
 ·have HF:=zq (λw1 (hE:Ev w w1)=>I7 gr e 20 m.pos ai w1 (HB.out.ev hE));go_enter func113,ntmps113
  go_wp2_with (first
   | ((with_reducible refine(HN.out _).mono ?_);rintro r w1 ⟨rfl,aK⟩;have oO:=zq (HE.out.trans aK);clear c0 c1 c2 c3 c4;obtain⟨⟨c0,c1,c2,c3,c4⟩,_⟩:=(HX.out.ev aK).five)
   | ((with_reducible refine(HF.out _ oO.out).mono ?_);rintro r w2 ⟨rfl,hR⟩;have HR:=zq hR;clear c0 c1 c2 c3 c4;obtain⟨⟨c0,c1,c2,c3,c4⟩,_⟩:=((HX.out.ev aK).but hR.but (by simp;have:=HB.out.lt;omega)).five;clear hR))
  go_ret;exact⟨rfl,HR.out.bx,(But.aV oO.out).then HR.out.but⟩
 go_enter func113,ntmps113
 go_wp2_with (first
  | ((with_reducible refine(HN.out _).mono ?_);rintro r w1 ⟨rfl,aK⟩;have oO:=zq (HE.out.trans aK);clear c0 c1 c2 c3 c4;obtain⟨⟨c0,c1,c2,c3,c4⟩,_⟩:=(HX.out.ev aK).five))
 go_ret;refine⟨rfl,?_⟩;rw[xZ];exact iF.of HB.out oO.out
theorem BV(gr:Nat)(e:Er)(m:M)(b0:Nat)(w:ak)(hB:Rb gr e w)(hL:Lies b0 [gr] w m)(hfair:m.t.every cO=true)(hsz:m.t.size<=16000):
  Calls ax 114 #[.pointer ↑gr,.agg ↑m] w λr w'=>∃x:M,r=.returned (Az x)/\x.t=(xRead m.t).1/\Lx w.heap.size [] w' x/\iF gr (fO e (jU m.t)) w w':=by
 obtain⟨w0,hw0,aW,hX,hR,hlt⟩:=Kt w ↑m.kind ↑m.s ↑m.n (.slice m.A m.kids.length m.cap) ↑m.pos;have hRD:=λw1 (hE:Ev w w1)=>ady m b0 w1 ((hL.ev hE).less λk hk=>by cases hk) hfair hsz;unfold jU;generalize xRead m.t=RR at*;obtain⟨RT,RE,RP⟩:=RR;unfold BK at hRD;simp only at hRD|-;have BX:=zq hRD;have HR:=zq hR;have HE:=zq aW;have HB:=zq hB;have hgr:=hB.lt;obtain⟨⟨c0,c1,c2,c3,c4⟩,_⟩:=hX.five;unfold Az M.kv;clear hX hR aW hB hRD hL hfair hsz;by_cases h:RE=0
 ·have hO:fO e (RE,RP)=e:=by unfold fO;simp[h]
  rw[hO];subst h;go_enter func114,ntmps114
  go_wp2_with (first
   | ((with_reducible refine(BX.out _ HE.out).mono ?_);rintro r w1 ⟨x,rfl,jI,iJ,aK⟩;simp only[];have qj:=zq jI;have qC:=zq (iJ.ev (Ev.alloc w1 (.cells ↑(x,()) 47)));have oO:=zq (aK.trans (Ev.alloc w1 (.cells ↑(x,()) 47)));obtain⟨⟨d0,d1,d2,d3⟩,_⟩:=(Bx.new 47 ↑(x,()) w1).four;clear jI iJ c0 c1 c2 c3 c4;obtain⟨⟨yJ,yK,yL,MO⟩,zi,zk,xJ,MP⟩:=(HR.out.ev oO.out).four))
  (try simp only[Exit.inBlock,Exit.then]);rw[dK];refine bodyPost_ret (aS rfl _ _ _ _ _ rfl ((HR.out.ev oO.out).kG _ _ _ _) underlying47 rfl Tryz.eQ) rfl ?_;obtain⟨f1,f2⟩:=nK (g:=w.heap.size+1) (HE.out.trans oO.out) ae qC.out hlt ↑x.kind ↑x.s ↑x.n (.slice x.A x.kids.length x.cap);exact⟨x,rfl,qj.out,f1,iF.of HB.out f2⟩
 have hb:(RE !=0)=true:=by simp[h]
 have HF:=zq (λw1 (hE:Ev w w1)=>I7 gr e RE RP h w1 (HB.out.ev hE));go_enter func114,ntmps114
 go_wp2_with (first
  | ((with_reducible refine(BX.out _ HE.out).mono ?_);rintro r w1 ⟨x,rfl,jI,iJ,aK⟩;simp only[];have qj:=zq jI;have qC:=zq (iJ.ev (Ev.alloc w1 (.cells ↑(x,()) 47)));have oO:=zq (aK.trans (Ev.alloc w1 (.cells ↑(x,()) 47)));have HBX:=zq (Bx.new 47 ↑(x,()) w1);have hw1:=zq (HE.out.trans aK).size;clear jI iJ c0 c1 c2 c3 c4)
  | ((with_reducible refine(HF.out _ (HE.out.trans oO.out)).mono ?_);rintro r w2 ⟨rfl,kT⟩;have DI:=zq kT;obtain⟨⟨d0,d1,d2,d3⟩,_⟩:=(HBX.out.but kT.but (by simp;have:=hw1.out;omega)).four;obtain⟨⟨yJ,yK,yL,MO⟩,zi,zk,xJ,MP⟩:=((HR.out.ev oO.out).but kT.but (by simp;omega)).four;clear kT))
 (try simp only[Exit.inBlock,Exit.then]);rw[dK];have ND:=(HR.out.ev oO.out).but DI.out.but (by simp;omega);refine bodyPost_ret (aS rfl _ _ _ _ _ rfl (ND.kG _ _ _ _) underlying47 rfl Tryz.eQ) rfl ?_;refine⟨x,rfl,qj.out,?_,DI.out.bx.but (eP _ _ _ _ _ _) (by simp;omega),(((But.aV (HE.out.trans oO.out)).then DI.out.but)).trans (eP _ _ _ _ _ _) (λk hk=>by simp at hk;subst hk;exact .inr ae)⟩;have h1:Lx w0.heap.size [gr] _ x:=qC.out.less λk hk=>by simp at hk;subst hk;exact .inr (.inl ae)
 have h2:=h1.move DI.out.but λk hk=>.inl hk;have h3:Lx w0.heap.size [w.heap.size+1] w2 x:=h2.less λk hk=>by simp at hk;subst hk;exact .inr (.inl ae)
 exact(h3.move (eP _ _ _ _ _ _) λk hk=>by cases hk).low ae
structure zS{α:Type}(et:TypeId)(k:Nat)(enc:α->List au)(w0:ak)(gr:Nat)(A:Option Addr)(n cap:Nat)(L:List α)(e:Er)(w:ak):Prop where
 own:Ow et k enc w0.heap.size w (.slice A n cap) L
 len:L.length=n
 rd:iF gr e w0 w
theorem zS.start{α:Type}(et:TypeId)(k:Nat)(enc:α->List au){w0:ak}{gr:Nat}{e:Er}(hB:Rb gr e w0):zS et k enc w0 gr none 0 0 ([]:List α) e w0:=⟨Ow.nil_ _,rfl,hB,But.refl _ _⟩
theorem zS.next{α:Type}{et:TypeId}{k:Nat}{enc:α->List au}(E:Enc k enc){w0 wr wq w2:ak}{gr n cap:Nat}{A:Option Addr}{L:List α}{e e':Er}{x:α}{v2:au}(h:zS et k enc w0 gr A n cap L e wr)(hr:iF gr e' wr wq)(hg:gr<w0.heap.size)(hA:nR et k enc w0.heap.size wq (.slice A n cap) (L++[x]) v2 w2):
  ∃A2 cap2,v2=.slice A2 (n+1) cap2/\zS et k enc w0 gr A2 (n+1) cap2 (L++[x]) e' w2:=by
 obtain⟨ho,hb,hs⟩:=hA;obtain⟨A2,cap2,rfl,qm,xY⟩:=ho.form E;have hl:(L++[x]).length=n+1:=by rw[awl,h.len];rfl
 rw[hl]at ho hs qm xY|-;have hown:=h.own.but hr.but (λg yB=>by simp;have:=(h.own.lt yB).1;omega);refine⟨A2,cap2,rfl,ho,hl,?_,?_⟩;exact hr.bx.but hb λhm=>by have:=(hown.lt (aG.1 hm)).1;omega
 exact(h.rd.but.then hr.but).trans hb λy hy=>.inr (hown.lt (aG.1 hy)).1
theorem zS.owq{α:Type}{et:TypeId}{k:Nat}{enc:α->List au}{w0 wr wq:ak}{gr n cap:Nat}{A:Option Addr}{L:List α}{e e':Er}(h:zS et k enc w0 gr A n cap L e wr)(hr:iF gr e' wr wq)(hg:gr<w0.heap.size):Ow et k enc w0.heap.size wq (.slice A n cap) L:=
 h.own.but hr.but (λg yB=>by simp;have:=(h.own.lt yB).1;omega)
theorem zS.size{α:Type}{et:TypeId}{k:Nat}{enc:α->List au}{w0 wr wq:ak}{gr n cap:Nat}{A:Option Addr}{L:List α}{e e':Er}(h:zS et k enc w0 gr A n cap L e wr)(hr:iF gr e' wr wq):w0.heap.size<=wq.heap.size:=awJ h.rd.but.size hr.but.size
theorem KA(gr:Nat)(e:Er)(l:List M)(A:Option Addr)(n cap b0:Nat)(w:ak)(hB:Rb gr e w)(h:Ms w A n cap l)(hr:SK b0 [gr] w A)(hn:n<=100000):
  Calls ax 117 #[.pointer ↑gr,.slice A n cap] w λr w'=>∃x:fE By,r=.returned x.v/\x.l=l.map M.s/\bg 1 sc w.heap.size [] w' x/\iF gr (fO e (aT (l.map λx=>bF x.t))) w w':=by
 have hcl:=h.le;have hcm:=h.max;have HL:=zq h.len;have hgr:=hB.lt;have kL:=zq (zS.start 9 1 sc hB);have DT:=zq (λw1 (hb:But [gr] w w1)=>h.but hb λad e=>(hr ad e).2.2);have HRN:=zq (λm e w1 hB=>I8 gr e m w1 hB);clear hB h hr;go_enter func117,ntmps117;go_wp2
 go_loopw [5,10] (λav iv wr=>∃(A1:Option Addr) (cap1 k:Nat) (E:Er),av=.slice A1 k cap1/\iv=↑k/\k<=n/\Hid (E=(((l.take k).map λx=>bF x.t).foldl fO e))/\Hid (zS 9 1 sc w gr A1 k cap1 ((l.take k).map M.s) E wr)) (λ_ iv _=>n - (intOf iv).toNat)
 case atStart=>exact⟨none,0,0,e,rfl,rfl,aww _,zq rfl,kL⟩
 case round=>
  obtain⟨A1,cap1,k,E,rfl,rfl,hk,HEE,HS⟩:=hrel;by_cases hlt:k<n
  ·obtain⟨x,hx⟩:=(DT.out w (But.refl _ _)).at hlt;obtain⟨b,off,rfl,hb,c0,c1,c2,c3,c4⟩:=Ms.cell (DT.out wr HS.out.rd.but) hx;unfold M.kv at c3;have qo:Hid ((l.take (k+1)).map M.s=(l.take k).map M.s++[x.s]/\((l.take (k+1)).map λx=>bF x.t).foldl fO e=fO E (bF x.t)):=zq (by
    obtain⟨hk2,e1⟩:=awi.1 hx;rw[aws hk2,e1,awt,awt,axD,<-HEE.out];exact⟨rfl,rfl⟩)
   have HN:=zq (HRN.out x E (wr.alloc (.cells ↑x 101)) (HS.out.rd.bx.ev az));have t_:=zq HS.out.len;have i1:(0:Int)<=(k:Int):=ae;have i2:(k:Int)<(n:Int):=ae;clear hx
   go_wp2_with (first
    | ((with_reducible refine(HN.out).mono ?_);rintro r w1 ⟨rfl,hR⟩;have HR:=zq ((⟨hR.bx,(But.aV (Ev.alloc wr (.cells ↑x 101))).then hR.but⟩:iF gr _ wr w1).ev (Ev.alloc w1 (.cells #[↑x.s] 9)));clear hR)
    | ((show wpList _ _ _ (⟨some 19,_,_,_,_,_⟩::_) _ _);refine aO (o:=⟨some 19,_,_,_,_,_⟩) rfl 22 (.tmp 14) (.tmp 18) rfl qH underlying22 Tryz.I4 rfl rfl (HS.out.owq HR.out hgr) ↑w1.heap.size 1 1 [x.s] rfl (Sl.one (et:=9) qH w1 x.s _ rfl) (by rw[t_.out];simp;omega) (by rw[t_.out];simp;omega) (HS.out.size HR.out) ?_;intro v2 w2 gV;obtain⟨A2,cap2,rfl,ST2⟩:=HS.out.next qH HR.out hgr gV))
   go_roundw
   case rel=>exact⟨A2,cap2,k+1,_,rfl,by go_num,ae,zq qo.out.2.symm,zq (by rw[qo.out.1];exact ST2)⟩
   case measure=>simp[intOf];omega
  obtain rfl:k=n:=ae;have HF:Hid ((l.take k).map M.s=l.map M.s/\E=fO e (aT (l.map λx=>bF x.t))):=zq (by
   have h1:=HEE.out;rw[awC (by rw[HL.out];exact awj _)]at h1|-;exact⟨rfl,by rw[h1,jo]⟩)
  go_wp2;go_ret;obtain⟨x,hxv,iJ,UD⟩:=HS.out.own.sle qH;rw[hxv];exact⟨x,rfl,by rw[iJ,HF.out.1],UD,HF.out.2▸HS.out.rd⟩
def Qd(t:T):By:=if t.kind==1&&(decide (0<t.kids.length)&&bW (at_ t.kids 0)) then (at_ t.kids 0).s else []
theorem F_(m:M):Qd m.t=if m.kind==1&&(decide (0<m.kids.length)&&bW (at_ (m.kids.map M.t) 0)) then (at_ (m.kids.map M.t) 0).s else []:=by unfold Qd;rw[M.xB,M.aZ,awh]
theorem aA7(h:U:=by go_enter func79,ntmps79;go_wp2;go_ret;exact⟨rfl,dM.out⟩):U:=h
theorem kP(m:M)(b0:Nat)(w:ak)(h:Lies b0 [] w m):
  Calls ax 79 #[.agg ↑m] w λe w'=>e=.returned (.string ⟨(Qd m.t).toArray⟩)/\Ev w w':=by
 have hB:=Bx.new 79 ↑m w;have aW:=Ev.alloc w (.cells ↑m 79);have fJ:=h.ms;rw[F_];have dM:=zq aW;obtain⟨⟨c0,c1,c2,c3,c4⟩,_⟩:=hB.five;clear hB h;generalize Po:m.kind=kd at*;generalize ZN:m.A=mA at*;generalize hkn:m.kids.length=kn at*;generalize hmc:m.cap=mc at*;generalize ZQ:m.kids=L at*;clear Po ZN hmc ZQ;by_cases hk:kd=1;subst hk
 cases L with
 | nil=>
  obtain rfl:kn=0:=by simpa using hkn.symm
  clear fJ aW;exact aA7
 | cons x q=>
  obtain⟨k,rfl⟩:∃k,kn=k+1:=⟨q.length,by simpa using hkn.symm⟩
  have hcl:=fJ.le;obtain⟨b,off,rfl,hb,d0,d1,d2,d3,d4⟩:=Ms.cell (fJ.ev aW) (i:=0) (x:=x) rfl;simp only[awW,awM]at d0 d1 d2 d3 d4;rw[awO (Nat.succ_pos k)];simp only[awo,at_,axJ,lG,M.uJ,awZ,axi];clear fJ aW hkn;by_cases hx:x.kind=2;rw[hx]at d0|-;exact aA7;have hxb:(x.kind==2)=false:=awg.2 hx;rw[hxb];exact aA7
 have hkb:(kd==1)=false:=awg.2 hk;rw[hkb];clear fJ aW;exact aA7
theorem Ed{A:Option Addr}{n cap:Nat}{l:List M}(w:ak)(h:Ms w A n cap l):
  Calls ax 123 #[.slice A n cap] w λe w'=>e=.returned (.bool ((l.map M.t).all bW))/\Ev w w':=by
 have hn:=h.le;have hm:=h.max;have HL:=zq h.len;have HLA:Hid ((l.map M.t).all bW=l.all λx=>bW x.t):=zq (by rw[axs];rfl);rw[HLA.out];have H:=zq h;clear h;go_enter func123,ntmps123;go_wp2
 go_loopw [3] (λi wr=>∃k:Nat,k<=n/\i=↑k/\Hid ((l.take k).all (λx=>bW x.t)=true)/\Hid (Ev w wr)) (λi _=>n - (intOf i).toNat)
 case atStart=>exact⟨0,aww _,rfl,zq aj,zq aJ⟩
 case round=>
  obtain⟨k,hk,rfl,HT,HE⟩:=hrel;by_cases hlt:k<n
  ·obtain⟨x,hx⟩:=H.out.at hlt;obtain⟨b,off,rfl,hb,c0,c1,c2,c3,c4⟩:=Ms.cell (H.out.ev HE.out) hx;have HX:=zq hx;have i1:(0:Int)<=(k:Int):=ae;have i2:(k:Int)<(n:Int):=ae;clear hx;by_cases hq:x.kind=2
   ·rw[hq]at c0;go_wp2;go_roundw
    case rel=>exact⟨k+1,ae,by go_num,zq (by rw[sK HT.out HX.out,lG,hq];rfl),HE⟩
    case measure=>simp[intOf];omega
   go_wp2;go_ret;exact⟨by rw[all_false HX.out (by rw[lG];exact awg.2 hq)];rfl,HE.out⟩
  exact azD
def G9(t:T):By×Er:=if iC t.s then (t.s,(0,0)) else ([],(20,t.pos))
theorem AP(m:M)(w:ak)(hs:m.s.length<=1000000):
  Calls ax 80 #[.agg ↑m] w λe w'=>e=.returned (.tuple #[.string ⟨(G9 m.t).1.toArray⟩,.int .i64 (G9 m.t).2.1,.int .i64 ((G9 m.t).2.2:Int)])/\Ev w w':=by
 have hX:=Bx.new 79 ↑m w;have aW:=Ev.alloc w (.cells ↑m 79);have HN:=zq (λw1=>FU ⟨m.s.toArray⟩ w1 (by show m.s.length<=maxLen;unfold maxLen;omega));have hn:G9 m.t=if fK ⟨m.s.toArray⟩ then (m.s,(0,0)) else ([],(20,m.pos)):=by unfold G9 iC dh;rw[M.uJ,M.GK]
 rw[hn];have HX:=zq hX;have HE:=zq aW;obtain⟨⟨c0,c1,c2,c3,c4⟩,_⟩:=hX.five;generalize fK ⟨m.s.toArray⟩=q at*;clear hX aW hn
 cases q
 ·go_enter func80,ntmps80;go_upto_region 2 with (first
   | ((with_reducible refine(HN.out _).mono ?_);rintro r w1 ⟨rfl,aK⟩;have oO:=zq (HE.out.trans aK);clear c0 c1 c2 c3 c4;obtain⟨⟨c0,c1,c2,c3,c4⟩,_⟩:=(HX.out.ev aK).five))
  go_quiet (fail)
  go_wp2
  go_ret3
  exact⟨rfl,oO.out.trans (Ev.drewN _ _)⟩
 go_enter func80,ntmps80
 go_wp2_with (first
  | ((with_reducible refine(HN.out _).mono ?_);rintro r w1 ⟨rfl,aK⟩;have oO:=zq (HE.out.trans aK);clear c0 c1 c2 c3 c4;obtain⟨⟨c0,c1,c2,c3,c4⟩,_⟩:=(HX.out.ev aK).five))
 go_ret3
 exact⟨rfl,oO.out⟩
theorem But.Ht{K:List Nat}{w w':ak}(h:But K w w'){p:Addr}(hlt:p.block<w.heap.size)(hn:p.block∉K):w'.cell? p=w.cell? p:=World.cell?_of_block (h.block p.block hlt hn)
structure Dp(w0:ak)(gr:Nat)(A1:Option Addr)(cap1:Nat)(N:List By)(A2:Option Addr)(cap2:Nat)(X:List M)(e:Er)(w:ak):Prop where
 ns:Ow 9 1 sc w0.heap.size w (.slice A1 N.length cap1) N
 es:Ow 47 4 ec w0.heap.size w (.slice A2 X.length cap2) X
 apart:∀g,(Value.slice A1 N.length cap1).ownBlock=some g->(Value.slice A2 X.length cap2).ownBlock≠some g
 lies:∀x∈X,Lx w0.heap.size (foot (.slice A1 N.length cap1)++foot (.slice A2 X.length cap2)) w x
 rd:iF gr e w0 w
theorem Dp.start{w0:ak}{gr:Nat}{e:Er}(hB:Rb gr e w0):Dp w0 gr none 0 [] none 0 [] e w0:=⟨Ow.nil_ _,Ow.nil_ _,(λg h=>by cases h),(λx hx=>by cases hx),hB,But.refl _ _⟩
theorem Dp.through{w0 wr wq:ak}{gr:Nat}{A1 A2:Option Addr}{cap1 cap2:Nat}{N:List By}{X:List M}{e e':Er}(h:Dp w0 gr A1 cap1 N A2 cap2 X e wr)(hr:iF gr e' wr wq)(hg:gr<w0.heap.size):Dp w0 gr A1 cap1 N A2 cap2 X e' wq:=
 ⟨h.ns.but hr.but (λg yB=>by simp;have:=(h.ns.lt yB).1;omega),h.es.but hr.but (λg yB=>by simp;have:=(h.es.lt yB).1;omega),h.apart,
  λx hx=>(((h.lies x hx).less (K':=gr::(foot (.slice A1 N.length cap1)++foot (.slice A2 X.length cap2))) λy hy=>by
   rcases awq.1 hy with rfl|hy;exact .inr (.inl hg);exact .inl hy).move (hr.but.wide λy hy=>.inl (by simp at hy;subst hy;exact awp ..)) λy hy=>.inl (awn _ hy)),h.rd.then hr⟩
theorem azR(h:U:=by rcases awD.1 hy with h1|h1;rcases hs y (aG.1 h1) with h2|h2;exact .inl (awH _ (aG.2 h2));exact .inr (.inr h2);exact .inl (aw4 _ h1)):U:=h
theorem Dp.name{w0 wq w2:ak}{gr:Nat}{A1 A2:Option Addr}{cap1 cap2:Nat}{N:List By}{X:List M}{e:Er}{s:By}{v2:au}(h:Dp w0 gr A1 cap1 N A2 cap2 X e wq)(hg:gr<w0.heap.size)(hA:nR 9 1 sc w0.heap.size wq (.slice A1 N.length cap1) (N++[s]) v2 w2):
  ∃Yg xO,v2=.slice Yg (N.length+1) xO/\Dp w0 gr Yg xO (N++[s]) A2 cap2 X e w2:=by
 obtain⟨ho,hb,hs⟩:=hA;obtain⟨Yg,xO,rfl,_,_⟩:=ho.form qH;have hl:(N++[s]).length=N.length+1:=aj;refine⟨Yg,xO,by rw[hl],ho,?_,?_,?_,?_⟩;exact h.es.but hb λg yB hm=>h.apart g (aG.1 hm) yB;intro g yB he;rcases hs g yB with h1|h1;exact h.apart g h1 he;have:=(h.es.lt he).2;omega;intro x hx;refine(h.lies x hx).move (hb.wide λy hy=>.inl (awH _ hy)) λy hy=>?_;exact azR;exact⟨h.rd.bx.but hb λhm=>by have:=(h.ns.lt (aG.1 hm)).1;omega,h.rd.but.trans hb λy hy=>.inr (h.ns.lt (aG.1 hy)).1⟩
theorem azs(h:U:=by refine hy2.move (hb.wide λz hz=>.inl (aw4 _ hz)) λz hz=>?_;rcases awD.1 hz with h1|h1;exact .inl (awH _ h1);rcases hs z (aG.1 h1) with h2|h2;exact .inl (aw4 _ (aG.2 h2));exact .inr (.inr h2)):U:=h
theorem Dp.expr{w0 wp wq w2:ak}{gr:Nat}{A1 A2:Option Addr}{cap1 cap2:Nat}{N:List By}{X:List M}{e:Er}{x:M}{v2:au}(h:Dp w0 gr A1 cap1 N A2 cap2 X e wq)(hg:gr<w0.heap.size)(hx:Lx wp.heap.size [] wq x)(hp0:w0.heap.size<=wp.heap.size)
  (hN:∀g,(Value.slice A1 N.length cap1).ownBlock=some g->g<wp.heap.size) (hX:∀g,(Value.slice A2 X.length cap2).ownBlock=some g->g<wp.heap.size)
  (hA:nR 47 4 ec w0.heap.size wq (.slice A2 X.length cap2) (X++[x]) v2 w2):
  ∃A2' zY,v2=.slice A2' (X.length+1) zY/\Dp w0 gr A1 cap1 N A2' zY (X++[x]) e w2:=by
 obtain⟨ho,hb,hs⟩:=hA;obtain⟨A2',zY,rfl,_,_⟩:=ho.form xU;have hl:(X++[x]).length=X.length+1:=aj;refine⟨A2',zY,by rw[hl],?_,ho,?_,?_,?_⟩;exact h.ns.but hb λg yB hm=>h.apart g yB (aG.1 hm);intro g yB he;rcases hs g he with h1|h1;exact h.apart g yB h1;have:=(h.ns.lt yB).2;omega;intro y hy;have hy2:Lx w0.heap.size (foot (.slice A1 N.length cap1)++foot (.slice A2 X.length cap2)) wq y:=by rcases awD.1 hy with h1|h1;exact h.lies y h1;simp at h1;subst h1;refine(hx.less λk hk=>.inr (.inl ?_)).low hp0;rcases awD.1 hk with h2|h2;exact hN k (aG.1 h2);exact hX k (aG.1 h2)
 exact azs;exact⟨h.rd.bx.but hb λhm=>by have:=(h.es.lt (aG.1 hm)).1;omega,h.rd.but.trans hb λy hy=>.inr (h.es.lt (aG.1 hy)).1⟩
structure Tt(w0:ak)(gr:Nat)(A1:Option Addr)(cap1:Nat)(N:List By)(A2:Option Addr)(cap2:Nat)(X:List M)(e:Er)(gb:Nat)(bc:Array au)(w:ak):Prop where
 st:Dp w0 gr A1 cap1 N A2 cap2 X e w
 bx:Bx 101 gb bc w
 nr:gb≠gr
 n1:∀g,(Value.slice A1 N.length cap1).ownBlock=some g->gb≠g
 n2:∀g,(Value.slice A2 X.length cap2).ownBlock=some g->gb≠g
theorem Tt.start{w0 wr:ak}{gr:Nat}{A1 A2:Option Addr}{cap1 cap2:Nat}{N:List By}{X:List M}{e:Er}(h:Dp w0 gr A1 cap1 N A2 cap2 X e wr)(bc:Array au):Tt w0 gr A1 cap1 N A2 cap2 X e wr.heap.size bc (wr.alloc (.cells bc 101)):=
 ⟨⟨h.ns.ev az,h.es.ev az,h.apart,λx hx=>(h.lies x hx).ev az,h.rd.ev az⟩,Bx.new _ _ _,Nat.ne_of_gt h.rd.bx.lt,λg hg=>Nat.ne_of_gt (h.ns.lt hg).2,λg hg=>Nat.ne_of_gt (h.es.lt hg).2⟩
theorem Tt.through{w0 wr wq:ak}{gr gb:Nat}{bc:Array au}{A1 A2:Option Addr}{cap1 cap2:Nat}{N:List By}{X:List M}{e e':Er}(h:Tt w0 gr A1 cap1 N A2 cap2 X e gb bc wr)(hr:iF gr e' wr wq)(hg:gr<w0.heap.size):Tt w0 gr A1 cap1 N A2 cap2 X e' gb bc wq:=
 ⟨h.st.through hr hg,h.bx.but hr.but (by simp;exact h.nr),h.nr,h.n1,h.n2⟩
theorem Tt.ev{w0 wr wq:ak}{gr gb:Nat}{bc:Array au}{A1 A2:Option Addr}{cap1 cap2:Nat}{N:List By}{X:List M}{e:Er}(h:Tt w0 gr A1 cap1 N A2 cap2 X e gb bc wr)(hE:Ev wr wq):Tt w0 gr A1 cap1 N A2 cap2 X e gb bc wq:=
 ⟨⟨h.st.ns.ev hE,h.st.es.ev hE,h.st.apart,λx hx=>(h.st.lies x hx).ev hE,h.st.rd.ev hE⟩,h.bx.ev hE,h.nr,h.n1,h.n2⟩
theorem Tt.name{w0 wq w2:ak}{gr gb:Nat}{bc:Array au}{A1 A2:Option Addr}{cap1 cap2:Nat}{N:List By}{X:List M}{e:Er}{s:By}{v2:au}(h:Tt w0 gr A1 cap1 N A2 cap2 X e gb bc wq)(hg:gr<w0.heap.size)(hA:nR 9 1 sc w0.heap.size wq (.slice A1 N.length cap1) (N++[s]) v2 w2):
  ∃Yg xO,v2=.slice Yg (N.length+1) xO/\Tt w0 gr Yg xO (N++[s]) A2 cap2 X e gb bc w2:=by
 obtain⟨Yg,xO,hv,hS⟩:=h.st.name hg hA;refine⟨Yg,xO,hv,hS,h.bx.but hA.2.1 λhm=>h.n1 gb (aG.1 hm) rfl,h.nr,λg yB=>?_,h.n2⟩;have hl:(N++[s]).length=N.length+1:=aj;rw[hl,<-hv]at yB;rcases hA.2.2 g yB with h1|h1;exact h.n1 g h1;have:=h.bx.lt;omega
theorem Tt.expr{w0 wp wq w2:ak}{gr gb:Nat}{bc:Array au}{A1 A2:Option Addr}{cap1 cap2:Nat}{N:List By}{X:List M}{e0 e:Er}{x:M}{v2:au}(h0:Tt w0 gr A1 cap1 N A2 cap2 X e0 gb bc wp)(h:Tt w0 gr A1 cap1 N A2 cap2 X e gb bc wq)(hg:gr<w0.heap.size)(hx:Lx wp.heap.size [] wq x)
  (hA:nR 47 4 ec w0.heap.size wq (.slice A2 X.length cap2) (X++[x]) v2 w2):
  ∃A2' zY,v2=.slice A2' (X.length+1) zY/\Tt w0 gr A1 cap1 N A2' zY (X++[x]) e gb bc w2:=by
 obtain⟨A2',zY,hv,hS⟩:=h.st.expr hg hx h0.st.rd.but.size (λg yB=>(h0.st.ns.lt yB).2) (λg yB=>(h0.st.es.lt yB).2) hA;refine⟨A2',zY,hv,hS,h.bx.but hA.2.1 λhm=>h.n2 gb (aG.1 hm) rfl,h.nr,h.n1,λg yB=>?_⟩;have hl:(X++[x]).length=X.length+1:=aj;rw[hl,<-hv]at yB;rcases hA.2.2 g yB with h1|h1;exact h.n2 g h1;have:=h.bx.lt;omega
theorem adG{x:M}(h:eU x.t=true):x.kids.length=2:=by unfold eU at h;simp only[awk,awx]at h;have:=h.1.2;rwa [M.aZ,awh]at this
theorem Tu{b0 gr:Nat}{w:ak}{x:M}(h:Lies b0 [gr] w x){n:Nat}(hn:x.kids.length=n+2):∃b off x0 x1,x.A=some ⟨b,off,none⟩/\x.kids[0]?=some x0/\x.kids[1]?=some x1/\∀w1,But [gr] w w1->
  (w1.cell? ⟨b,off,none⟩=some ↑x0.kind/\w1.cell? ⟨b,off+1,none⟩=some ↑x0.s/\w1.cell? ⟨b,off+2,none⟩=some ↑x0.n/\w1.cell? ⟨b,off+3,none⟩=some (.slice x0.A x0.kids.length x0.cap)/\w1.cell? ⟨b,off+4,none⟩=some ↑x0.pos)/\
  (w1.cell? ⟨b,off+5,none⟩=some ↑x1.kind/\w1.cell? ⟨b,off+5+1,none⟩=some ↑x1.s/\w1.cell? ⟨b,off+5+2,none⟩=some ↑x1.n/\w1.cell? ⟨b,off+5+3,none⟩=some (.slice x1.A x1.kids.length x1.cap)/\w1.cell? ⟨b,off+5+4,none⟩=some ↑x1.pos):=by
 have fJ:=h.ms;obtain⟨x0,hx0⟩:=fJ.at (i:=0) ae;obtain⟨x1,hx1⟩:=fJ.at (i:=1) ae;obtain⟨b,off,hxA,hb,_⟩:=Ms.cell fJ hx0;have hgb:b≠gr:=by
  cases h with
  | mk h1 h2 h3=>
   have:=(h2 _ hxA).2.2;simpa using this
 rw[hxA]at fJ;refine⟨b,off,x0,x1,hxA,hx0,hx1,λw1 hb=>?_⟩;have h0:=Ms.qI (fJ.but hb λad e=>by cases e;simp;exact hgb) hx0;have h1:=Ms.qI (fJ.but hb λad e=>by cases e;simp;exact hgb) hx1;simp only[awW,awM,axn]at h0 h1;exact⟨h0,h1⟩
theorem V3(gr:Nat)(e:Er)(l:List M)(A:Option Addr)(n cap b0:Nat)(w:ak)(hB:Rb gr e w)(h:Ms w A n cap l)(hr:SK b0 [gr] w A)(hn:n<=10000)(zW:∀x∈l,eU x.t=true)(hlies:∀x∈l,Lies b0 [gr] w x)(hfair:∀x∈l,x.t.every cO=true)(hsz:∀x∈l,x.t.size<=16000):
  Calls ax 116 #[.pointer ↑gr,.slice A n cap] w λr w'=>∃(N:fE By) (X:fE M),r=.returned (.tuple #[N.v,X.v])/\N.l=l.map (λx=>qP x.t)/\X.l.map M.t=l.map (λx=>qQ x.t)/\bg 1 sc w.heap.size [] w' N/\bg 4 ec w.heap.size [] w' X/\(∀x∈X.l,Lx w.heap.size [] w' x)/\iF gr (fO e (aT (l.flatMap λx=>ed x.t))) w w':=by
 have hcl:=h.le;have hcm:=h.max;have HL:=zq h.len;have hgr:=hB.lt;have kL:=zq (Dp.start hB);have DT:=zq (λw1 (hb:But [gr] w w1)=>h.but hb λad e=>(hr ad e).2.2);have HRN:=zq (λm e w1 hB=>I8 gr e m w1 hB);have hRE:=λm e b0 w1 hB hL hf hs=>BV gr e m b0 w1 hB hL hf hs;unfold Az M.kv at hRE;have HRE:=zq hRE;have BZ:=zq (λx hx w1 (hb:But [gr] w w1)=>(hlies x hx).move hb λ_ hy=>.inl hy);have anf:=zq zW;have JR:=zq hfair;have zx:=zq hsz;clear hB h hr zW hlies hfair hsz hRE;go_enter func116,ntmps116;go_wp2
 go_loopw [6,7,12] (λav bv iv wr=>∃(A1 A2:Option Addr) (cap1 cap2 k:Nat) (E:Er) (N:List By) (X:List M),av=.slice A1 k cap1/\bv=.slice A2 k cap2/\iv=↑k/\k<=n/\Hid (N.length=k/\X.length=k)/\Hid (N=(l.take k).map (λx=>qP x.t))/\Hid (X.map M.t=(l.take k).map (λx=>qQ x.t))/\Hid (E=(((l.take k).flatMap λx=>ed x.t).foldl fO e))/\Hid (Dp w gr A1 cap1 N A2 cap2 X E wr)) (λ_ _ iv _=>n - (intOf iv).toNat)
 case atStart=>exact⟨none,none,0,0,0,e,[],[],rfl,rfl,rfl,aww _,zq ⟨rfl,rfl⟩,zq rfl,zq rfl,zq rfl,kL⟩
 case round=>
  obtain⟨A1,A2,cap1,cap2,k,E,N,X,rfl,rfl,rfl,hk,xI,wF,HXX,HEE,HS⟩:=hrel;by_cases hlt:k<n
  ·obtain⟨x,hx⟩:=(DT.out w (But.refl _ _)).at hlt;have iP:=awm hx;obtain⟨b,off,rfl,hb,c0,c1,c2,c3,c4⟩:=Ms.cell (DT.out wr HS.out.rd.but) hx;unfold M.kv at c3;have hk2:=adG (anf.out x iP);have hcap2:2<=x.cap:=by have:=(BZ.out x iP w (But.refl _ _)).ms.le;omega
   have hcapm:x.cap<=9223372036854775807:=(BZ.out x iP w (But.refl _ _)).ms.max;obtain⟨b',off',x0,x1,hxA,hx0,hx1,hKC⟩:=Tu (BZ.out x iP w (But.refl _ _)) (n:=0) ae;have kZ:=zq hKC;have hcn:qP x.t=x0.s:=by unfold qP;rw[M.aZ,C9 _ _ _ hx0,M.uJ]
   have hce:qQ x.t=(xRead x1.t).1:=by unfold qQ;rw[M.aZ,C9 _ _ _ hx1]
   have hcs:ed x.t=[bF x0.t,jU x1.t]:=by unfold ed;rw[M.aZ,C9 _ _ _ hx0,C9 _ _ _ hx1]
   have qo:Hid ((l.take (k+1)).map (λx=>qP x.t)=(l.take k).map (λx=>qP x.t)++[x0.s]/\(l.take (k+1)).map (λx=>qQ x.t)=(l.take k).map (λx=>qQ x.t)++[(xRead x1.t).1]/\((l.take (k+1)).flatMap λx=>ed x.t).foldl fO e=fO (fO E (bF x0.t)) (jU x1.t)):=zq (by
    obtain⟨hk2,e1⟩:=awi.1 hx;rw[aws hk2,e1,awt,awt,axU,axD,<-HEE.out];simp only[awo,awG,axv,List.flatMap_nil,axE,hcn,hce,hcs];refine⟨?_,?_,?_⟩<;>first|rfl|trivial)
   rw[hxA,hk2]at c3;obtain⟨BC,hBC⟩:∃BC:Array au,BC=#[↑x.kind,↑x.s,↑x.n,.slice ↑(b',off') 2 x.cap,↑x.pos]:=⟨_,rfl⟩
   have hCB:=Tt.start HS.out BC;rw[hBC]at hCB;have pV:=zq hCB;have HN:=zq (HRN.out x0 E _ pV.out.st.rd.bx);have Su:=zq (λw1 (hb:But [gr] w w1)=>(BZ.out x iP w1 hb).kid x1 (awm hx1));have HF1:Hid (x1.t.every cO=true/\x1.t.size<=16000):=zq (by
    have h5:=JR.out x iP;rw[T.gz,awk]at h5;have h6:=zx.out x iP;have h7:=T.size_eq x.t;rw[M.aZ,awy]at h7;have h8:=iL (awN.2 ⟨x1,awm hx1,rfl⟩:x1.t.size∈x.kids.map (T.size ∘ M.t));exact⟨awF.1 h5.2 x1.t (by rw[M.aZ];exact awN.2 ⟨x1,awm hx1,rfl⟩),ae⟩)
   obtain⟨⟨d0,d1,d2,d3,d4⟩,_⟩:=pV.out.bx.five;obtain⟨⟨k0,k1,k2,k3,k4⟩,j0,j1,j2,j3,j4⟩:=kZ.out _ pV.out.st.rd.but;have i1:(0:Int)<=(k:Int):=ae;have i2:(k:Int)<(n:Int):=ae;have jg:=zq xI.out.1;have qC:=zq xI.out.2;clear hx iP hx0 hx1 hcn hce hcs hxA hKC hCB hBC hb
   go_wp2_with (first
    | ((with_reducible refine(HN.out).mono ?_);rintro r w1 ⟨rfl,hR⟩;have agj:=zq ((pV.out.through hR hgr).ev (Ev.alloc w1 (.cells #[↑x0.s] 9)));clear hR)
    | ((show wpList _ _ _ (⟨some 24,_,_,_,_,_⟩::_) _ _);refine aO (o:=⟨some 24,_,_,_,_,_⟩) rfl 22 (.tmp 16) (.tmp 23) rfl qH underlying22 Tryz.I4 rfl (by rw[<-jg.out];rfl) agj.out.st.ns ↑w1.heap.size 1 1 [x0.s] rfl (Sl.one (et:=9) qH w1 x0.s _ rfl) (by rw[jg.out];simp;omega) (by rw[jg.out];simp;omega) agj.out.st.rd.but.size ?_;intro v2 w2 gV;obtain⟨Yg,xO,hv2,ST2⟩:=agj.out.name hgr gV;rw[jg.out]at hv2;subst hv2;have YT:=zq ST2;clear ST2 gV d0 d1 d2 d3 d4 k0 k1 k2 k3 k4 j0 j1 j2 j3 j4;obtain⟨⟨d0,d1,d2,d3,d4⟩,_⟩:=YT.out.bx.five;obtain⟨⟨k0,k1,k2,k3,k4⟩,j0,j1,j2,j3,j4⟩:=kZ.out _ YT.out.st.rd.but)
    | ((with_reducible refine(HRE.out x1 _ b0 _ YT.out.st.rd.bx (Su.out _ YT.out.st.rd.but) HF1.out.1 HF1.out.2).mono ?_);rintro r w3 ⟨x',rfl,jI,iJ,hR⟩;have qj:=zq jI;have anh:=zq (iJ.ev (Ev.alloc w3 (.cells ↑(x',()) 47)));have agk:=zq ((YT.out.through hR hgr).ev (Ev.alloc w3 (.cells ↑(x',()) 47)));clear jI iJ hR)
    | ((show wpList _ _ _ (⟨some 33,_,_,_,_,_⟩::_) _ _);refine aO (o:=⟨some 33,_,_,_,_,_⟩) rfl 28 (.tmp 25) (.tmp 32) rfl xU underlying28 Tryz.zF rfl (by rw[<-qC.out];rfl) agk.out.st.es ↑w3.heap.size 1 1 [x'] rfl (Sl.one (et:=47) xU w3 x' _ rfl) (by rw[qC.out];simp;omega) (by rw[qC.out];simp;omega) agk.out.st.rd.but.size ?_;intro v4 w4 hA4;obtain⟨A2',zY,hv4,ST4⟩:=Tt.expr YT.out agk.out hgr anh.out hA4;rw[qC.out]at hv4;subst hv4;have ani:=zq ST4.st;clear ST4 hA4))
   go_roundw
   case rel=>exact⟨Yg,A2',xO,zY,k+1,_,_,_,rfl,rfl,by go_num,ae,zq ⟨by simp[jg.out],by simp[qC.out]⟩,zq (by rw[qo.out.1,wF.out]),zq (by rw[qo.out.2.1,awt,HXX.out,awo,awG,qj.out]),zq qo.out.2.2.symm,ani⟩
   case measure=>simp[intOf];omega
  obtain rfl:k=n:=ae;have HF:Hid ((l.take k).map (λx=>qP x.t)=l.map (λx=>qP x.t)/\(l.take k).map (λx=>qQ x.t)=l.map (λx=>qQ x.t)/\E=fO e (aT (l.flatMap λx=>ed x.t))):=zq (by
   have h1:=HEE.out;rw[awC (by rw[HL.out];exact awj _)]at h1|-;exact⟨rfl,rfl,by rw[h1,jo]⟩)
  go_wp2
  go_ret2
  obtain⟨N',hNv,hNl,hNs⟩:=HS.out.ns.sle qH;obtain⟨X',hXv,wK,yw⟩:=HS.out.es.sle xU;rw[xI.out.1]at hNv;rw[xI.out.2]at hXv;rw[hNv,hXv];exact⟨N',X',rfl,by rw[hNl,wF.out,HF.out.1],by rw[wK,HXX.out,HF.out.2.1],hNs,yw,λx hx=>(HS.out.lies x (by rwa [wK]at hx)).less (λk hk=>by cases hk),HF.out.2.2▸HS.out.rd⟩
end Go.Proofs.YtpbfokkocaemlaaGreatDoor
