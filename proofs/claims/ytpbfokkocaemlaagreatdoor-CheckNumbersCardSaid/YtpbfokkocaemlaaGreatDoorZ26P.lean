import Derived.Test.YtpbfokkocaemlaaGreatDoorZ25P
import Derived.Test.YtpbfokkocaemlaaGreatDoorZ20P
set_option linter.unusedVariables false
set_option maxRecDepth 100000
set_option maxHeartbeats 64000000
namespace Go.Proofs.YtpbfokkocaemlaaGreatDoor
open Go.RowKit
open Go.Lib renaming hid → zq
open Go renaming World → ak
open Go renaming Value → au
open Go.Proofs.Tryz renaming prog → ax
variable {U:Prop}
open Go.Proofs.Tryz
structure fH(α:Type) where
 A:Option Addr
 cap:Nat
 l:List α
def fH.v{α:Type}(x:fH α):au:=.slice x.A x.l.length x.cap
def fH.nil{α:Type}:fH α:=⟨none,0,[]⟩
def ac(a:Ag):List au:=[.string ⟨a.1.toArray⟩,.string ⟨a.2.1.toArray⟩,.string ⟨a.2.2.toArray⟩]
abbrev As:=Sl 3 ac
theorem Ad:Enc 3 ac:=⟨ae,λ_=>rfl,λx u hu=>by
 simp[ac]at hu;rcases hu with rfl|rfl|rfl<;>rfl⟩
inductive PM where
 | mk (kind:Int) (name:By) (ex:fH M) (co lf rt:fH By) (ag:fH Ag) (A:Option Addr) (cap:Nat) (kids:List PM):PM
def PM.kind:PM->Int
 | .mk k _ _ _ _ _ _ _ _ _=>k
def PM.name:PM->By
 | .mk _ s _ _ _ _ _ _ _ _=>s
def PM.ex:PM->fH M
 | .mk _ _ x _ _ _ _ _ _ _=>x
def PM.co:PM->fH By
 | .mk _ _ _ x _ _ _ _ _ _=>x
def PM.lf:PM->fH By
 | .mk _ _ _ _ x _ _ _ _ _=>x
def PM.rt:PM->fH By
 | .mk _ _ _ _ _ x _ _ _ _=>x
def PM.ag:PM->fH Ag
 | .mk _ _ _ _ _ _ x _ _ _=>x
def PM.A:PM->Option Addr
 | .mk _ _ _ _ _ _ _ a _ _=>a
def PM.cap:PM->Nat
 | .mk _ _ _ _ _ _ _ _ c _=>c
def PM.kids:PM->List PM
 | .mk _ _ _ _ _ _ _ _ _ l=>l
mutual
def PM.p:PM->Pl
 | .mk k s ex co lf rt ag _ _ l=>.mk k s (ex.l.map M.t) co.l lf.l rt.l ag.l (PM.ps l)
def PM.ps:List PM->List Pl
 | []=>[]
 | m::l=>m.p::PM.ps l
end
theorem PM.abP:∀l:List PM,PM.ps l=l.map PM.p
 | []=>by simp[PM.ps]
 | m::l=>by simp[PM.ps,PM.abP l]
theorem PM.sW(m:PM):m.p=.mk m.kind m.name (m.ex.l.map M.t) m.co.l m.lf.l m.rt.l m.ag.l (m.kids.map PM.p):=by
 cases m
 simp[PM.p,PM.abP,PM.kind,PM.name,PM.ex,PM.co,PM.lf,PM.rt,PM.ag,PM.kids]
def PM.kv(m:PM):au:=.slice m.A m.kids.length m.cap
def pc(m:PM):List au:=[↑m.kind,↑m.name,m.ex.v,m.co.v,m.lf.v,m.rt.v,m.ag.v,m.kv]
def pv(m:PM):au:=.agg #[↑m.kind,↑m.name,m.ex.v,m.co.v,m.lf.v,m.rt.v,m.ag.v,m.kv]
theorem sZ:Enc 8 pc:=⟨ae,λ_=>rfl,λx u hu=>by
 simp[pc,fH.v,PM.kv]at hu;rcases hu with rfl|rfl|rfl|rfl|rfl|rfl|rfl|rfl<;>rfl⟩
abbrev Ps:=Sl 8 pc
def U6(b0:Nat)(K:List Nat)(w:ak)(A:Option Addr):Prop:=∀ad,A=some ad->b0<=ad.block/\ad.block<w.heap.size/\ad.block∉K
theorem U6.none(b0:Nat)(K:List Nat)(w:ak):U6 b0 K w none:=λ_ e=>by cases e
theorem U6.move{b0:Nat}{K K':List Nat}{w w':ak}{A:Option Addr}(h:U6 b0 K w A)(hb:But K w w')(hs:∀x∈K',x∈K∨x<b0∨w.heap.size<=x):U6 b0 K' w' A:=λad e=>by obtain⟨h1,h2,h3⟩:=h ad e;refine⟨h1,awU h2 hb.size,λhm=>?_⟩;rcases hs _ hm with h4|h4|h4;exact h3 h4;omega;omega
theorem U6.low{b0 b1:Nat}{K:List Nat}{w:ak}{A:Option Addr}(h:U6 b1 K w A)(hb:b0<=b1):U6 b0 K w A:=λad e=>⟨aw0 hb (h ad e).1,(h ad e).2⟩
structure bI{α:Type}(k:Nat)(enc:α->List au)(b0:Nat)(K:List Nat)(w:ak)(x:fH α):Prop where
 sl:Sl k enc w x.A x.l.length x.cap x.l
 BQ:U6 b0 K w x.A
theorem bI.move{α:Type}{k:Nat}{enc:α->List au}{b0:Nat}{K K':List Nat}{w w':ak}{x:fH α}(h:bI k enc b0 K w x)(hb:But K w w')(hs:∀y∈K',y∈K∨y<b0∨w.heap.size<=y):bI k enc b0 K' w' x:=
 ⟨h.sl.but hb λad e=>(h.BQ ad e).2.2,h.BQ.move hb hs⟩
theorem bI.low{α:Type}{k:Nat}{enc:α->List au}{b0 b1:Nat}{K:List Nat}{w:ak}{x:fH α}(h:bI k enc b1 K w x)(hb:b0<=b1):bI k enc b0 K w x:=⟨h.sl,h.BQ.low hb⟩
theorem bI.nil{α:Type}(k:Nat)(enc:α->List au)(b0:Nat)(K:List Nat)(w:ak):bI k enc b0 K w (fH.nil:fH α):=⟨Sl.nil_ w,U6.none _ _ _⟩
inductive Qx(b0:Nat)(K:List Nat)(w:ak):PM->Prop
 | mk {kind:Int} {name:By} {ex:fH M} {co lf rt:fH By} {ag:fH Ag} {A:Option Addr} {cap:Nat} {kids:List PM}:bI 4 ec b0 K w ex->(∀e∈ex.l,Lx b0 K w e)->bI 1 sc b0 K w co->bI 1 sc b0 K w lf->bI 1 sc b0 K w rt->bI 3 ac b0 K w ag->
   bI 8 pc b0 K w ⟨A,cap,kids⟩->(∀k∈kids,Qx b0 K w k)->Qx b0 K w (.mk kind name ex co lf rt ag A cap kids)
theorem Qx.at{b0:Nat}{K:List Nat}{w:ak}{m:PM}(h:Qx b0 K w m):bI 4 ec b0 K w m.ex/\(∀e∈m.ex.l,Lx b0 K w e)/\bI 1 sc b0 K w m.co/\bI 1 sc b0 K w m.lf/\bI 1 sc b0 K w m.rt/\bI 3 ac b0 K w m.ag/\bI 8 pc b0 K w ⟨m.A,m.cap,m.kids⟩/\∀k∈m.kids,Qx b0 K w k:=by
 cases h with
 | mk h1 h2 h3 h4 h5 h6 h7 h8=>exact⟨h1,h2,h3,h4,h5,h6,h7,h8⟩
theorem Qx.kid{b0:Nat}{K:List Nat}{w:ak}{m:PM}(h:Qx b0 K w m):∀k∈m.kids,Qx b0 K w k:=h.at.2.2.2.2.2.2.2
theorem Qx.ps{b0:Nat}{K:List Nat}{w:ak}{m:PM}(h:Qx b0 K w m):Ps w m.A m.kids.length m.cap m.kids:=h.at.2.2.2.2.2.2.1.sl
theorem Qx.move{b0:Nat}{K K':List Nat}{w w':ak}{m:PM}(h:Qx b0 K w m)(hb:But K w w')(hs:∀x∈K',x∈K∨x<b0∨w.heap.size<=x):Qx b0 K' w' m:=by
 induction h with
 | mk h1 h2 h3 h4 h5 h6 h7 h8 ih=>
  exact .mk (h1.move hb hs) (λe he=>(h2 e he).move hb hs) (h3.move hb hs) (h4.move hb hs) (h5.move hb hs) (h6.move hb hs) (h7.move hb hs) ih
theorem Qx.ev{b0:Nat}{K:List Nat}{w w':ak}{m:PM}(h:Qx b0 K w m)(hE:Ev w w'):Qx b0 K w' m:=h.move (But.aW hE) λ_ hx=>.inl hx
theorem Qx.low{b0 b1:Nat}{K:List Nat}{w:ak}{m:PM}(h:Qx b1 K w m)(hb:b0<=b1):Qx b0 K w m:=by
 induction h with
 | mk h1 h2 h3 h4 h5 h6 h7 h8 ih=>exact .mk (h1.low hb) (λe he=>(h2 e he).low hb) (h3.low hb) (h4.low hb) (h5.low hb) (h6.low hb) (h7.low hb) ih
theorem Qx.less{b0:Nat}{K K':List Nat}{w:ak}{m:PM}(h:Qx b0 K w m)(hs:∀x∈K',x∈K∨x<b0∨w.heap.size<=x):Qx b0 K' w m:=h.move (But.refl _ _) hs
def jR:PM:=.mk 0 [] .nil .nil .nil .nil .nil none 0 []
theorem iE:jR.p=iC:=by rw[PM.sW];rfl
theorem Qx.zero(b0:Nat)(K:List Nat)(w:ak):Qx b0 K w jR:=
 .mk (bI.nil ..) (λ_ h=>by cases h) (bI.nil ..) (bI.nil ..) (bI.nil ..) (bI.nil ..) (bI.nil ..) (λ_ h=>by cases h)
theorem Ps.cell{w:ak}{b off n cap:Nat}{l:List PM}(h:Ps w ↑(b,off) n cap l){i:Nat}{x:PM}(hx:l[i]?=some x):
  w.cell? ⟨b,off+i*8,none⟩=some ↑x.kind/\w.cell? ⟨b,off+i*8+1,none⟩=some ↑x.name/\w.cell? ⟨b,off+i*8+2,none⟩=some x.ex.v/\w.cell? ⟨b,off+i*8+3,none⟩=some x.co.v/\w.cell? ⟨b,off+i*8+4,none⟩=some x.lf.v/\w.cell? ⟨b,off+i*8+5,none⟩=some x.rt.v/\w.cell? ⟨b,off+i*8+6,none⟩=some x.ag.v/\w.cell? ⟨b,off+i*8+7,none⟩=some x.kv:=by
 have hi:=(awz.1 hx).1;have hl:=h.len;obtain⟨b',off',e,hlt,hc⟩:=h.rd ae;injection e with e
 injection e with e1 e2 _
 subst e1 e2;exact⟨hc i x hx 0 _ rfl,hc i x hx 1 _ rfl,hc i x hx 2 _ rfl,hc i x hx 3 _ rfl,hc i x hx 4 _ rfl,hc i x hx 5 _ rfl,hc i x hx 6 _ rfl,hc i x hx 7 _ rfl⟩
mutual
def PM.dep:PM->Nat
 | .mk _ _ _ _ _ _ _ _ _ l=>PM.deps l+1
def PM.deps:List PM->Nat
 | []=>0
 | m::l=>max m.dep (PM.deps l)
end
theorem PM.Bf:∀(l:List PM) (k:PM),k∈l->k.dep<=PM.deps l
 | [],k,h=>by cases h
 | m::l,k,h=>by rcases awN.1 h with rfl|h;simp[PM.deps];omega;have:=PM.Bf l k h;simp[PM.deps];omega
theorem PM.lh(m:PM):m.dep=PM.deps m.kids+1:=by cases m;rfl
theorem PM.jY{m k:PM}(h:k∈m.kids):k.dep<m.dep:=by have:=PM.Bf m.kids k h;rw[PM.lh m];omega
theorem Ow.sle{α:Type}{et:TypeId}{k:Nat}{enc:α->List au}{base:Nat}{w:ak}{v:au}{Z:List α}(E:Enc k enc)(h:Ow et k enc base w v Z):∃x:fH α,v=x.v/\x.l=Z/\bI k enc base [] w x:=by obtain⟨A,cap,hv,hS,hA⟩:=h.form E;exact⟨⟨A,cap,Z⟩,hv,rfl,hS,λad e=>⟨(hA ad e).2.1,(hA ad e).2.2.1,aj⟩⟩
instance ceA:Coe PM (Array au):=⟨λm=>#[.int .i64 m.kind,.string ⟨m.name.toArray⟩,.slice m.ex.A m.ex.l.length m.ex.cap,.slice m.co.A m.co.l.length m.co.cap,.slice m.lf.A m.lf.l.length m.lf.cap,.slice m.rt.A m.rt.l.length m.rt.cap,.slice m.ag.A m.ag.l.length m.ag.cap,.slice m.A m.kids.length m.cap]⟩
instance ceB(a b:PM):CoeDep (PM×PM) (a,b) (Array au):=⟨#[.int .i64 a.kind,.string ⟨a.name.toArray⟩,.slice a.ex.A a.ex.l.length a.ex.cap,.slice a.co.A a.co.l.length a.co.cap,.slice a.lf.A a.lf.l.length a.lf.cap,.slice a.rt.A a.rt.l.length a.rt.cap,.slice a.ag.A a.ag.l.length a.ag.cap,.slice a.A a.kids.length a.cap,.int .i64 b.kind,.string ⟨b.name.toArray⟩,.slice b.ex.A b.ex.l.length b.ex.cap,.slice b.co.A b.co.l.length b.co.cap,.slice b.lf.A b.lf.l.length b.lf.cap,.slice b.rt.A b.rt.l.length b.rt.cap,.slice b.ag.A b.ag.l.length b.ag.cap,.slice b.A b.kids.length b.cap]⟩
theorem iF:Enc 2 dM:=⟨ae,λ_=>rfl,λx u hu=>by
 simp[dM]at hu;rcases hu with rfl|rfl<;>rfl⟩
theorem Cs.qp{w:ak}{A:Option Addr}{n cap:Nat}{l:List C}(h:Cs w A n cap l){i:Nat}{c:C}(hc:l[i]?=some c):∃b off,A=some ⟨b,off,none⟩/\w.cell? ⟨b,off+i*2,none⟩=some (.string c.1)/\w.cell? ⟨b,off+i*2+1,none⟩=some (.int .i64 c.2):=by have hi:=(awz.1 hc).1;have hl:=h.len;obtain⟨b,off,e,_,hcell⟩:=h.rd ae;exact⟨b,off,e,hcell i c hc 0 _ rfl,hcell i c hc 1 _ rfl⟩
structure CR where
 cols:List C
 why:Int
 name:ByteArray
def CR.zero:CR:=⟨[],0,⟨#[]⟩⟩
def CR.fail(r:CR)(why:Int)(nm:ByteArray):CR:=if r.why=0 then ⟨r.cols,why,nm⟩ else r
def dL(l:List C)(s:ByteArray):Int:=match bZ l s with
 | some i=>(l.getD i (⟨#[]⟩,0)).2
 | none=>0
def CR.find(r:CR)(l:List C)(s:ByteArray):CR:=if (bZ l s).isSome then r else r.fail 20 s
def CR.kind(r:CR)(l:List C)(e:T):CR:=if (xType l e).2=0 then r else r.fail (xType l e).2 ⟨#[]⟩
def CR.limit(r:CR):CR:=if 6<r.cols.length then r.fail 23 ⟨#[]⟩ else r
def CR.add(r:CR)(nm:ByteArray)(k:Int):CR:=let r1:=if (bZ r.cols nm).isSome then r.fail 21 nm else r;⟨r1.cols++[(nm,k)],r1.why,r1.name⟩
structure gz(gr base:Nat)(r:CR)(v:au)(w:ak):Prop where
 box:Bx 58 gr #[v,↑r.why,.string r.name] w
 own:Ow 50 2 dM base w v r.cols
 gf:gr∉foot v
theorem gz.ev{gr base:Nat}{r:CR}{v:au}{w w':ak}(h:gz gr base r v w)(hE:Ev w w'):gz gr base r v w':=⟨h.box.ev hE,h.own.ev hE,h.gf⟩
theorem CR.jC(r:CR)(why:Int)(nm:ByteArray):(r.fail why nm).cols=r.cols:=by unfold CR.fail;split<;>rfl
theorem ou(gr base:Nat)(r:CR)(v:au)(why:Int)(nm:ByteArray)(w:ak)(h:gz gr base r v w):
  Calls ax 66 #[.pointer ↑gr,↑why,.string nm] w λe w'=>e=.returned (.tuple #[])/\gz gr base (r.fail why nm) v w'/\But [gr] w w':=by
 obtain⟨⟨c0,c1,c2⟩,f0,f1,f2⟩:=h.box.three;have H:=zq h;clear h;by_cases hw:r.why=0
 ·have hO:r.fail why nm=⟨r.cols,why,nm⟩:=by unfold CR.fail;rw[if_pos hw]
  rw[hO];have h':(r.why==0)=true:=by simp[hw]
  go_enter func66,ntmps66;go_wp2;(try simp only[Exit.inBlock,Exit.then]);go_end0;have hb:But [gr] w ((w.setCell ⟨gr,1,none⟩ ↑why).setCell ⟨gr,2,none⟩ (.string nm)):=(But.setCell ⟨gr,1,none⟩ _ aj).then (But.setCell ⟨gr,2,none⟩ _ aj);refine⟨rfl,⟨?_,H.out.own.but hb (λg hg=>by simp;intro e;exact H.out.gf (aG.2 (e▸hg))),H.out.gf⟩,hb⟩;have:=(H.out.box.set 1 ↑why).set 2 (.string nm);simpa using this
 have h':(r.why==0)=false:=awy.2 hw;have hO:r.fail why nm=r:=by unfold CR.fail;rw[if_neg hw]
 rw[hO];go_enter func66,ntmps66;go_wp2;go_end0;exact⟨rfl,H.out,But.refl _ _⟩
theorem Ja(gr base:Nat)(r:CR)(v:au)(l:List C)(A:Option Addr)(n cap:Nat)(s:ByteArray)(w:ak)(h:gz gr base r v w)(hC:Cs w A n cap l):
  Calls ax 71 #[.pointer ↑gr,.slice A n cap,.string s] w λe w'=>e=.returned (.int .i64 (dL l s))/\gz gr base (r.find l s) v w'/\But [gr] w w':=by
 have HF:=zq (Ed (l:=l) s w hC);have hle:=hC.le;have hmx:=hC.max;have H:=zq h;have OH:=zq (λw1 (hE:Ev w w1)=>ou gr base r v 20 s w1 (h.ev hE));unfold dL CR.find
 cases hf:bZ l s with
 | none=>
  rw[hf]at HF;simp only[foundAt,Option.isSome_none,awP,aw7]at HF|-;clear h hC hf;go_enter func71,ntmps71
  go_wp2_with (first
   | ((with_reducible refine(HF.out).mono ?_);rintro e w1 ⟨rfl,aN⟩;have E1:=zq aN;clear aN)
   | ((with_reducible refine(OH.out _ E1.out).mono ?_);rintro e w2 ⟨rfl,hR,hB⟩))
  go_ret;exact⟨rfl,hR,(But.aW E1.out).then hB⟩
 | some i=>
  rw[hf]at HF;simp only[foundAt,Option.isSome_some,aw4]at HF|-;have MM:i<l.length:=by unfold bZ at hf;exact(axH.1 hf).1
  have hin:i<n:=by rw[<-hC.len];exact MM
  obtain⟨c,hc⟩:=hC.at hin;have hgd:(l.getD i (⟨#[]⟩,0)).2=c.2:=by rw[axD,hc];rfl
  rw[hgd];have Ht:=zq (λw1 (hE:Ev w w1)=>Cs.qp (hC.ev hE) hc);obtain⟨b,off,hA,hb,_⟩:=hC.rd ae;subst hA;have i1:(0:Int)<=(i:Int):=ae;have i2:(i:Int)<(n:Int):=ae;clear h hC hf hc hgd;go_enter func71,ntmps71
  go_wp2_with (first
   | ((with_reducible refine(HF.out).mono ?_);rintro e w1 ⟨rfl,aN⟩;have E1:=zq aN;obtain⟨b',off',e',k0,k1⟩:=Ht.out _ aN;injection e' with e';injection e' with e1 e2 _;subst e1 e2;clear aN))
  go_ret;exact⟨rfl,H.out.ev E1.out,But.aW E1.out⟩
theorem Em(gr base:Nat)(r:CR)(A:Option Addr)(n cap:Nat)(w:ak)(h:gz gr base r (.slice A n cap) w):
  Calls ax 70 #[.pointer ↑gr] w λe w'=>e=.returned (.tuple #[])/\gz gr base r.limit (.slice A n cap) w'/\But [gr] w w':=by
 obtain⟨⟨c0,c1,c2⟩,f0,f1,f2⟩:=h.box.three;have hn:n=r.cols.length:=by obtain⟨A2,cap2,hv,_⟩:=h.own.form iF;injection hv with _ h2 _
 have H:=zq h;have OH:=zq (ou gr base r (.slice A n cap) 23 ⟨#[]⟩ w h);unfold CR.limit;rw[<-hn];clear h hn;by_cases hl:6<n
 ·rw[if_pos hl];have i1:(6:Int)<(n:Int):=ae;go_enter func70,ntmps70
  go_wp2_with (first
   | ((with_reducible refine(OH.out).mono ?_);rintro e w2 ⟨rfl,hR,hB⟩))
  go_end0;exact⟨rfl,hR,hB⟩
 rw[if_neg hl];have i1:¬((6:Int)<(n:Int)):=ae;go_enter func70,ntmps70;go_wp2;go_end0;exact⟨rfl,H.out,But.refl _ _⟩
theorem XZ(gr base:Nat)(r:CR)(v:au)(m:M)(b0:Nat)(l:List C)(A:Option Addr)(n cap:Nat)(w:ak)(h:gz gr base r v w)(hL:Lx b0 [] w m)(hC:Cs w A n cap l)(hsz:m.t.size<=16000)(hf:m.t.every (λt=>decide (t.s.length<=1000000))=true):
  Calls ax 68 #[.pointer ↑gr,.agg ↑(m,()),.slice A n cap] w λe w'=>e=.returned (.int .i64 (xType l m.t).1)/\gz gr base (r.kind l m.t) v w'/\But [gr] w w':=by
 have HT:=zq (λw1 (hE:Ev w w1)=>aeF m b0 w1 A n cap l (hL.ev hE) (hC.ev hE) hsz hf);have aV:=Ev.alloc w (.cells ↑(m,()) 47);have hB:=Bx.new 47 ↑(m,()) w;obtain⟨⟨c0,c1,c2,c3⟩,_⟩:=hB.four;have H:=zq h;have cu:=zq aV;unfold CR.kind;unfold xZ M.kv at HT;generalize xType l m.t=R at*;obtain⟨k,y⟩:=R;simp only at HT|-;have OH:=zq (λw1 (hE:Ev w w1)=>ou gr base r v y ⟨#[]⟩ w1 (h.ev hE));clear h hL hC hB aV;by_cases hy:y=0
 ·subst hy;rw[if_pos rfl];go_enter func68,ntmps68
  go_wp2_with (first
   | ((with_reducible refine(HT.out _ cu.out).mono ?_);rintro e w1 ⟨rfl,aN⟩;have E1:=zq (cu.out.trans aN);clear aN))
  go_ret;exact⟨rfl,H.out.ev E1.out,But.aW E1.out⟩
 rw[if_neg hy];have hyb:(y==0)=false:=awy.2 hy;go_enter func68,ntmps68
 go_wp2_with (first
  | ((with_reducible refine(HT.out _ cu.out).mono ?_);rintro e w1 ⟨rfl,aN⟩;have E1:=zq (cu.out.trans aN);clear aN)
  | ((with_reducible refine(OH.out _ E1.out).mono ?_);rintro e w2 ⟨rfl,hR,hB⟩))
 go_ret;exact⟨rfl,hR,(But.aW E1.out).then hB⟩
def oL(l:List By)(s:ByteArray):Bool:=l.any λx=>s.toList==x
theorem OI{l:List By}{s:ByteArray}{k:Nat}{x:By}(h:oL (l.take k) s=false)(hx:l[k]?=some x)(hne:(s.toList==x)=false):oL (l.take (k+1)) s=false:=by obtain⟨hk,rfl⟩:=awz.1 hx;unfold oL at h|-;rw[awH hk,List.any_append,h];simpa using hne
theorem Tz{l:List By}{s:ByteArray}{k:Nat}{x:By}(hx:l[k]?=some x)(he:(s.toList==x)=true):oL l s=true:=axQ.2 ⟨x,awG hx,he⟩
def CR.once(r:CR)(ahead:List By)(s:ByteArray):CR:=if oL ahead s then r.fail 21 s else r
theorem Ss.qZ{w:ak}{A:Option Addr}{n cap:Nat}{l:List By}(h:Ss w A n cap l){i:Nat}{x:By}(hx:l[i]?=some x):∃b off,A=some ⟨b,off,none⟩/\w.cell? ⟨b,off+i,none⟩=some ↑x:=by have hi:=(awz.1 hx).1;have hl:=h.len;obtain⟨b,off,e,_,hc⟩:=h.rd ae;have:=hc i x hx 0 _ rfl;rw[ayj,aw2]at this;exact⟨b,off,e,this⟩
theorem TA(l:List By)(A:Option Addr)(n cap:Nat)(s:ByteArray)(w:ak)(h:Ss w A n cap l):
  Calls ax 120 #[.slice A n cap,.string s] w λe w'=>∃i:Int,e=.returned ↑i/\decide (0<=i)=oL l s/\Ev w w':=by
 have hn:=h.le;have hm:=h.max;have HL:=zq h.len;have H:=zq h;clear h;go_enter func120,ntmps120;go_wp2
 go_loopw [8] (λi wr=>∃k:Nat,k<=n/\i=↑k/\Hid (oL (l.take k) s=false)/\Hid (Ev w wr)) (λi _=>n-(intOf i).toNat)
 case atStart=>exact⟨0,awJ _,rfl,zq rfl,zq aK⟩
 case round=>
  obtain⟨k,hk,rfl,HT,HE⟩:=hrel;by_cases hlt:k<n
  ·obtain⟨x,hx⟩:=H.out.at hlt;obtain⟨b,off,rfl,c0⟩:=Ss.qZ (H.out.ev HE.out) hx;have HX:=zq hx;have i1:(0:Int)<=(k:Int):=ae;have i2:(k:Int)<(n:Int):=ae;clear hx
   cases ht:(s.toList==x)
   ·have HF:=zq (OI HT.out HX.out ht);go_wp2;go_roundw
    case rel=>exact⟨k+1,ae,by go_num,HF,HE⟩
    case measure=>simp[intOf];omega
   have HF:=zq (Tz HX.out ht);go_wp2;go_ret;exact⟨(k:Int),rfl,by rw[HF.out];simp,HE.out⟩
  obtain rfl:k=n:=ae;have HF:Hid (oL l s=false):=zq (by have:=HT.out;rwa [awS (by rw[HL.out];exact awC _)]at this);go_wp2;go_ret;exact⟨-1,rfl,by rw[HF.out];rfl,HE.out⟩
theorem Ae(l:List By)(A:Option Addr)(n cap:Nat)(s:ByteArray)(w:ak)(h:Ss w A n cap l):
  Calls ax 73 #[.slice A n cap,.string s] w λe w'=>e=.returned (.bool (oL l s))/\Ev w w':=by
 have HI:=zq (TA l A n cap s w h);clear h;go_enter func73,ntmps73
 go_wp2_with (first|((with_reducible refine(HI.out).mono ?_);rintro e w1 ⟨i,rfl,hi,aN⟩;have HD:=zq hi;clear hi))
 go_ret;exact⟨by rw[<-HD.out];rfl,aN⟩
theorem X0(gr base:Nat)(r:CR)(v:au)(l:List By)(A:Option Addr)(n cap:Nat)(s:ByteArray)(w:ak)(h:gz gr base r v w)(hS:Ss w A n cap l):
  Calls ax 72 #[.pointer ↑gr,.slice A n cap,.string s] w λe w'=>e=.returned (.tuple #[])/\gz gr base (r.once l s) v w'/\But [gr] w w':=by
 have HC:=zq (Ae l A n cap s w hS);have H:=zq h;have OH:=zq (λw1 (hE:Ev w w1)=>ou gr base r v 21 s w1 (h.ev hE));unfold CR.once;clear h hS
 cases hh:oL l s
 ·rw[hh]at HC;clear hh;simp only[awP,aw7];go_enter func72,ntmps72
  go_wp2_with (first
   | ((with_reducible refine(HC.out).mono ?_);rintro e w1 ⟨rfl,aN⟩))
  go_end0;exact⟨rfl,H.out.ev aN,But.aW aN⟩
 rw[hh]at HC;clear hh;simp only[aw4];go_enter func72,ntmps72
 go_wp2_with (first
  | ((with_reducible refine(HC.out).mono ?_);rintro e w1 ⟨rfl,aN⟩;have E1:=zq aN;clear aN)
  | ((with_reducible refine(OH.out _ E1.out).mono ?_);rintro e w2 ⟨rfl,hR,hB⟩))
 go_end0;exact⟨rfl,hR,(But.aW E1.out).then hB⟩
theorem Tryz.o9:(Tryz.prog.info? 50).map (λi=>(i.zero,i.size,i.bytes))=some (some (.agg #[.string ⟨#[]⟩,.int .i64 0]),2,24):=ah
theorem gz.grow{gr base:Nat}{r:CR}{v v2:au}{c:C}{w wq w3:ak}(h:gz gr base r v w)(hE:Ev w wq)(hA:mf 50 2 dM base wq v (r.cols++[c]) v2 w3):
  gz gr base ⟨r.cols++[c],r.why,r.name⟩ v2 (w3.setCell ⟨gr,0,none⟩ v2)/\But (gr::foot v) w (w3.setCell ⟨gr,0,none⟩ v2)/\fO w v v2:=by
 obtain⟨ho,hb,hs⟩:=hA;have hB:=(h.box.ev hE).but hb h.gf;have hlt:=h.box.lt;have hbS:But [gr] w3 (w3.setCell ⟨gr,0,none⟩ v2):=But.setCell _ _ aj;have hg2:gr∉foot v2:=λhm=>by rcases hs gr (aG.1 hm) with h1|h1;exact h.gf (aG.2 h1);have:=hE.size;omega
 refine⟨⟨?_,ho.but hbS λg hg=>by simp;intro e;exact hg2 (aG.2 (e▸hg)),hg2⟩,?_,λg hg=>?_⟩;have:=hB.set 0 v2;simpa using this;exact((But.aW hE).then (hb.wide λk hk=>.inl (awK _ hk))).then (hbS.wide λk hk=>.inl (by simp at hk;subst hk;exact awL ..));rcases hs g hg with h1|h1;exact .inl h1;exact .inr (aw0 hE.size h1)
theorem gz.after{gr base:Nat}{r:CR}{v v2:au}{Z:List C}{w wq w3:ak}(h:gz gr base r v w)(hE:Ev w wq)(hA:mf 50 2 dM base wq v Z v2 w3):Bx 58 gr #[v,↑r.why,.string r.name] w3:=(h.box.ev hE).but hA.2.1 h.gf
def Dk(gr base:Nat)(r:CR)(v:au)(w:ak)(e:Ending)(w':ak):Prop:=e=.returned (.tuple #[])/\∃v',gz gr base r v' w'/\But (gr::foot v) w w'/\fO w v v'
theorem gz.form{gr base:Nat}{r:CR}{v:au}{w:ak}(h:gz gr base r v w):∃A cap,v=.slice A r.cols.length cap/\Cs w A r.cols.length cap r.cols:=by obtain⟨A,cap,hv,hS,_⟩:=h.own.form iF;exact⟨A,cap,hv,hS⟩
theorem Ql(gr base:Nat)(r:CR)(v:au)(nm:ByteArray)(k:Int)(w:ak)(h:gz gr base r v w)(hl:r.cols.length<=100000)(hb:base<=w.heap.size):
  Calls ax 69 #[.pointer ↑gr,.string nm,↑k] w (Dk gr base (r.add nm k) v w):=by
 obtain⟨A,cap,rfl,hC⟩:=h.form;have HF:=zq (Ed (l:=r.cols) nm w hC);have hle:=hC.le;have hmx:=hC.max;have H:=zq h;have OH:=zq (λw1 (hE:Ev w w1)=>ou gr base r (.slice A r.cols.length cap) 21 nm w1 (h.ev hE));obtain⟨⟨c0,c1,c2⟩,f0,f1,f2⟩:=h.box.three;unfold CR.add Dk;have HFC:=zq (CR.jC r 21 nm);obtain⟨nl,hnl⟩:∃nl,nl=r.cols.length:=⟨_,rfl⟩
 have jd:=zq hnl;rw[<-hnl]at hl hle HF H OH c0|-;clear h hC hnl
 cases hf:(bZ r.cols nm).isSome
 ·rw[hf]at HF;simp only[awP,aw7];clear hf OH;go_enter func69,ntmps69
  go_wp2_with (first
   | ((with_reducible refine(HF.out).mono ?_);rintro e w1 ⟨rfl,aN⟩;have E1:=zq aN;have HW:=zq (H.out.ev aN);clear c0 c1 c2 f0 f1 f2;obtain⟨⟨c0,c1,c2⟩,f0,f1,f2⟩:=HW.out.box.three;clear aN)
   | ((show wpList _ _ _ (⟨some 30,_,_,_,_,_⟩::_) _ _);refine aO (o:=⟨some 30,_,_,_,_,_⟩) rfl 24 (.tmp 25) (.tmp 29) rfl iF underlying24 Tryz.o9 rfl rfl (HW.out.own.ev aB) (some ⟨_,0,none⟩) 1 1 [(nm,k)] rfl (Sl.one (et:=50) iF _ (nm,k) _ rfl) (by rw[<-jd.out];simp;omega) (by rw[<-jd.out];simp;omega) (by have:=E1.out.size;simp;omega) ?_;intro v2 w3 dY;obtain⟨A2,cap2,rfl,lq,mW⟩:=dY.1.form iF;clear lq mW;generalize BO:List.length (_++[(nm,k)])=nn at dY|-;clear BO;obtain⟨⟨k0,k1,k2⟩,g0,g1,g2⟩:=(HW.out.after aB dY).three;have HG:=zq (HW.out.grow aB dY);clear dY))
  go_end0;exact⟨rfl,_,HG.out.1,(But.aW E1.out).then HG.out.2.1,λg hg=>(HG.out.2.2 g hg).imp_right λh=>aw0 E1.out.size h⟩
 rw[hf]at HF;simp only[aw4];clear hf;obtain⟨R1,hR1⟩:∃R1,R1=r.fail 21 nm:=⟨_,rfl⟩
 rw[<-hR1]at OH HFC|-;have hRc:Hid (R1.cols.length=nl):=zq (by rw[HFC.out,jd.out]);clear hR1;go_enter func69,ntmps69
 go_wp2_with (first
  | ((with_reducible refine(HF.out).mono ?_);rintro e w1 ⟨rfl,aN⟩;have E1:=zq aN;clear c0 c1 c2 f0 f1 f2;obtain⟨⟨c0,c1,c2⟩,f0,f1,f2⟩:=(H.out.ev aN).box.three;clear aN)
  | ((with_reducible refine(OH.out _ E1.out).mono ?_);rintro e w2 ⟨rfl,hR,hB⟩;have HW:=zq hR;have HB:=zq hB;clear c0 c1 c2 f0 f1 f2;obtain⟨⟨c0,c1,c2⟩,f0,f1,f2⟩:=HW.out.box.three;clear hR hB)
  | ((show wpList _ _ _ (⟨some 30,_,_,_,_,_⟩::_) _ _);refine aO (o:=⟨some 30,_,_,_,_,_⟩) rfl 24 (.tmp 25) (.tmp 29) rfl iF underlying24 Tryz.o9 rfl rfl (HW.out.own.ev aB) (some ⟨_,0,none⟩) 1 1 [(nm,k)] rfl (Sl.one (et:=50) iF _ (nm,k) _ rfl) (by rw[hRc.out];simp;omega) (by rw[hRc.out];simp;omega) (by have:=E1.out.size;have:=HB.out.size;simp;omega) ?_;intro v2 w3 dY;obtain⟨A2,cap2,rfl,lq,mW⟩:=dY.1.form iF;clear lq mW;generalize BO:List.length (_++[(nm,k)])=nn at dY|-;clear BO;obtain⟨⟨k0,k1,k2⟩,g0,g1,g2⟩:=(HW.out.after aB dY).three;have HG:=zq (HW.out.grow aB dY);clear dY))
 go_end0;refine⟨rfl,_,HG.out.1,((But.aW E1.out).then (HB.out.wide λk hk=>.inl (by simp at hk;subst hk;exact awL ..))).then HG.out.2.1,λg hg=>(HG.out.2.2 g hg).imp_right λh=>aw0 (aw0 E1.out.size HB.out.size) h⟩
def CR.of(l:List C):CR:=⟨l,0,⟨#[]⟩⟩
def CR.agg(r:CR)(kid:List C)(a:Ag):CR:=
 if a.2.1==kR then (let r2:=(r.add (aY a.1) 1).find kid (aY a.2.2);if dL kid (aY a.2.2)=1 then r2 else r2.fail 22 (aY a.2.2))
 else if a.2.1==oU||a.2.1==oV then (r.add (aY a.1) (dL kid (aY a.2.2))).find kid (aY a.2.2)
 else r.add (aY a.1) 1
structure DM where
 name:By
 A:Option Addr
 cap:Nat
 cols:List C
def dc(d:DM):List au:=[↑d.name,.slice d.A d.cols.length d.cap]
theorem Qm:Enc 2 dc:=⟨ae,λ_=>rfl,λx u hu=>by
 simp[dc]at hu;rcases hu with rfl|rfl<;>rfl⟩
structure pV(w:ak)(A:Option Addr)(n cap:Nat)(l:List DM):Prop where
 sl:Sl 2 dc w A n cap l
 cols:∀d∈l,Cs w d.A d.cols.length d.cap d.cols
theorem pV.ev{w w':ak}{A:Option Addr}{n cap:Nat}{l:List DM}(h:pV w A n cap l)(hE:Ev w w'):pV w' A n cap l:=⟨h.sl.ev hE,λd hd=>(h.cols d hd).ev hE⟩
theorem pV.cell{w:ak}{A:Option Addr}{n cap:Nat}{l:List DM}(h:pV w A n cap l){i:Nat}{d:DM}(hd:l[i]?=some d):∃b off,A=some ⟨b,off,none⟩/\b<w.heap.size/\w.cell? ⟨b,off+i*2,none⟩=some ↑d.name/\w.cell? ⟨b,off+i*2+1,none⟩=some (.slice d.A d.cols.length d.cap):=by have hi:=(awz.1 hd).1;have hl:=h.sl.len;obtain⟨b,off,e,hlt,hc⟩:=h.sl.rd ae;exact⟨b,off,e,hlt,hc i d hd 0 _ rfl,hc i d hd 1 _ rfl⟩
abbrev Df:=By×List C
def DM.df(d:DM):Df:=(d.name,d.cols)
def o_(D:List Df)(nm:By):CR:=match D.find? (λd=>d.1==nm) with
 | some d=>CR.of d.2
 | none=>CR.zero.fail 20 (aY nm)
def mi(e:T)(kid:List C):CR:=let r:=(CR.of kid).kind kid e;if (xType kid e).1=1 then r else r.fail 22 ⟨#[]⟩
def jr(kid:List C)(r:CR)(ec:T×By):CR:=(r.kind kid ec.1).add (aY ec.2) (xType kid ec.1).1
def mM(es:List T)(cs:List By)(kid:List C):CR:=((es.zip cs).foldl (jr kid) CR.zero).limit
def iR(lf rt:List By)(a b:List C)(r:CR)(i:Nat):CR:=
 let l:=aY (lf.getD i [])
 let m:=aY (rt.getD i [])
 let r4:=(((r.find a l).find b m).once (lf.take i) l).once (rt.take i) m
 if dL a l=dL b m then r4 else r4.fail 22 l
def gQ(rt:List By)(r:CR)(c:C):CR:=if oL rt c.1 then r else r.add c.1 c.2
def lT(lf rt:List By)(a b:List C):CR:=if lf.length=rt.length/\lf.length≠0 then (b.foldl (gQ rt) ((List.range lf.length).foldl (iR lf rt a b) (CR.of a))).limit else (CR.of a).fail 23 ⟨#[]⟩
def nO(a b:List C)(r:CR)(i:Nat):CR:=if (a.getD i (⟨#[]⟩,0)).2=(b.getD i (⟨#[]⟩,0)).2 then r else r.fail 22 (a.getD i (⟨#[]⟩,0)).1
def oz(a b:List C):CR:=if a.length=b.length then (List.range a.length).foldl (nO a b) (CR.of a) else (CR.of a).fail 23 ⟨#[]⟩
def gy(kid:List C)(r:CR)(nm:By):CR:=(r.find kid (aY nm)).add (aY nm) (dL kid (aY nm))
def ni(lf:List By)(ag:List Ag)(kid:List C):CR:=
 let r:=ag.foldl (λr a=>r.agg kid a) (lf.foldl (gy kid) CR.zero)
 (if r.cols.length=0 then r.fail 23 ⟨#[]⟩ else r).limit
def Qn(D:List Df)(k:Int)(nm:By)(es:List T)(cs lf rt:List By)(ag:List Ag)(kids:List (List C)):CR:=
 if k=1 then o_ D nm
 else if k=2 then mi (es.getD 0 eu) (kids.getD 0 [])
 else if k=3 then mM es cs (kids.getD 0 [])
 else if k=4 then lT lf rt (kids.getD 0 []) (kids.getD 1 [])
 else if k=5 then oz (kids.getD 0 []) (kids.getD 1 [])
 else if k=6 then CR.of (kids.getD 0 [])
 else ni lf ag (kids.getD 0 [])
def Af(l:List CR):Option CR:=l.find? λr=>r.why !=0
mutual
def ckOf(D:List Df):Pl->CR
 | .mk k nm es cs lf rt ag l=>match Af (ckAll D l) with
  | some r=>r
  | none=>Qn D k nm es cs lf rt ag ((ckAll D l).map CR.cols)
def ckAll(D:List Df):List Pl->List CR
 | []=>[]
 | p::l=>ckOf D p::ckAll D l
end
theorem OJ(D:List Df):∀l:List Pl,ckAll D l=l.map (ckOf D)
 | []=>by simp[ckAll]
 | p::l=>by simp[ckAll,OJ D l]
theorem VZ{l:List CR}(h:∀r∈l,r.why=0):Af l=none:=by unfold Af;rw[ax9];intro r hr;simp[h r hr]
theorem Zh{l:List CR}{k:Nat}{r:CR}(h0:∀x∈l.take k,x.why=0)(hr:l[k]?=some r)(hne:r.why≠0):Af l=some r:=by
 obtain⟨hk,hx⟩:=awz.1 hr;have hl:l=l.take k++r::l.drop (k+1):=by rw[<-hx,ax8,axs]
 unfold Af;rw[hl,List.find?_append,show (l.take k).find? (λr=>r.why !=0)=none from by rw[ax9];intro x hx2;simp[h0 x hx2]];simp[hne]
theorem abQ{l:List CR}(h:Af l=none):∀r∈l,r.why=0:=λr hr=>by unfold Af at h;rw[ax9]at h;simpa using h r hr
theorem Zi{l:List CR}{r:CR}(h:Af l=some r):r.why≠0:=by unfold Af at h;have:=List.find?_some h;simpa using this
theorem CR.abR{r:CR}{why:Int}{nm:ByteArray}(hw:why≠0):(r.fail why nm).why≠0:=by unfold CR.fail;by_cases h:r.why=0<;>simp[h,hw]
theorem CR.jh{r:CR}{why:Int}{nm:ByteArray}(h:r.why≠0):r.fail why nm=r:=by unfold CR.fail;rw[if_neg h]
theorem CR.oC(r:CR)(l:List C)(s:ByteArray):(r.find l s).cols=r.cols:=by unfold CR.find;split;rfl;exact CR.jC ..
theorem CR.Bl(r:CR)(l:List By)(s:ByteArray):(r.once l s).cols=r.cols:=by unfold CR.once;split;exact CR.jC ..;rfl
theorem CR.yj(r:CR)(l:List C)(e:T):(r.kind l e).cols=r.cols:=by unfold CR.kind;split;rfl;exact CR.jC ..
theorem CR.Dl(r:CR):r.limit.cols=r.cols:=by unfold CR.limit;split;exact CR.jC ..;rfl
theorem CR.nP(r:CR)(nm:ByteArray)(k:Int):(r.add nm k).cols=r.cols++[(nm,k)]:=by unfold CR.add;simp only;split;rw[CR.jC];rfl
theorem CR.Gu{r:CR}:r.limit.why=0↔r.why=0/\r.cols.length<=6:=by unfold CR.limit;by_cases h:6<r.cols.length;rw[if_pos h];constructor;intro h2;exact absurd h2 (CR.abR ai);intro h2;omega;rw[if_neg h];constructor;intro h2;exact⟨h2,ae⟩;intro h2;exact h2.1
theorem CR.abS(r:CR)(kid:List C)(a:Ag):(r.agg kid a).cols.length=r.cols.length+1:=by unfold CR.agg;split;simp only;split;rw[CR.oC,CR.nP];simp;rw[CR.jC,CR.oC,CR.nP];simp;split;rw[CR.oC,CR.nP];simp;rw[CR.nP];simp
theorem rM{α:Type}(f:CR->α->CR)(n:Nat)(hf:∀r x,(f r x).cols.length<=r.cols.length+n):∀(l:List α) (r:CR),(l.foldl f r).cols.length<=r.cols.length+l.length*n
 | [],r=>by simp
 | x::l,r=>by have h1:=rM f n hf l (f r x);have h2:=hf r x;rw[axT,awR,axZ];omega
theorem lU{α:Type}{f:CR->α->CR}{r:CR}{l:List α}{k:Nat}{x:α}(hx:l[k]?=some x):(l.take (k+1)).foldl f r=f ((l.take k).foldl f r) x:=by obtain⟨hk,rfl⟩:=awz.1 hx;rw[awH hk,axW];rfl
theorem tq{f:CR->Nat->CR}{r:CR}(k:Nat):(List.range (k+1)).foldl f r=f ((List.range k).foldl f r) k:=by rw[List.range_succ,axW];rfl
abbrev Rb(gr:Nat)(e:Er)(w:ak):Prop:=Bx 106 gr #[.int .i64 e.1,.int .i64 (e.2:Int)] w
theorem Bx.two{T:TypeId}{g:Nat}{w:ak}{v0 v1:au}(h:Bx T g #[v0,v1] w):(w.cell? ⟨g,0,none⟩=some v0/\w.cell? ⟨g,1,none⟩=some v1)/\(w.frozen? ⟨g,0,none⟩=false/\w.frozen? ⟨g,1,none⟩=false):=
 ⟨⟨h.cell 0,h.cell 1⟩,h.frozen 0,h.frozen 1⟩
def set2(g:Nat)(v0 v1:au)(w:ak):ak:=(w.setCell ⟨g,0,none⟩ v0).setCell ⟨g,1,none⟩ v1
theorem Zk(g:Nat)(v0 v1:au)(w:ak):(w.setCell ⟨g,0,none⟩ v0).setCell ⟨g,1,none⟩ v1=set2 g v0 v1 w:=rfl
theorem abW(g:Nat)(v0 v1:au)(w:ak):But [g] w (set2 g v0 v1 w):=(But.setCell ⟨g,0,none⟩ v0 aj).then (But.setCell ⟨g,1,none⟩ v1 aj)
theorem Bx.set2{T:TypeId}{g:Nat}{w:ak}{u0 u1:au}(h:Bx T g #[u0,u1] w)(v0 v1:au):Bx T g #[v0,v1] (set2 g v0 v1 w):=by have:=(h.set 0 v0).set 1 v1;rw[show (((#[u0,u1]:Array au).setIfInBounds 0 v0).setIfInBounds 1 v1)=#[v0,v1] by simp]at this;exact this
structure iK(gr:Nat)(e:Er)(w w':ak):Prop where
 bx:Rb gr e w'
 but:But [gr] w w'
theorem iK.then{gr:Nat}{e e':Er}{w w1 w2:ak}(h:iK gr e w w1)(k:iK gr e' w1 w2):iK gr e' w w2:=⟨k.bx,h.but.then k.but⟩
theorem iK.ev{gr:Nat}{e:Er}{w w1 w2:ak}(h:iK gr e w w1)(hE:Ev w1 w2):iK gr e w w2:=⟨h.bx.ev hE,h.but.then (But.aW hE)⟩
theorem iK.of{gr:Nat}{e:Er}{w w1:ak}(h:Rb gr e w)(hE:Ev w w1):iK gr e w w1:=⟨h.ev hE,But.aW hE⟩
theorem Jb(gr:Nat)(e:Er)(why:Int)(pos:Nat)(hy:why≠0)(w:ak)(hB:Rb gr e w):
  Calls ax 112 #[.pointer ↑gr,↑why,↑pos] w λr w'=>r=.returned (.tuple #[])/\iK gr (fU e (why,pos)) w w':=by
 obtain⟨⟨c0,c1⟩,f0,f1⟩:=hB.two;have HB:=zq hB;have hyb:(why==0)=false:=awy.2 hy;clear hB;by_cases h:e.1=0
 ·have hO:fU e (why,pos)=(why,pos):=by unfold fU;simp[h,hy]
  rw[hO];have h':(e.1==0)=true:=by simp[h]
  go_enter func112,ntmps112;go_wp2;(try simp only[Exit.inBlock,Exit.then]);rw[Zk];go_end0;exact⟨rfl,HB.out.set2 _ _,abW _ _ _ _⟩
 have h':(e.1==0)=false:=awy.2 h;have hO:fU e (why,pos)=e:=by unfold fU;simp[h]
 rw[hO];go_enter func112,ntmps112;go_wp2;go_end0;exact⟨rfl,HB.out,But.refl _ _⟩
theorem Jc(gr:Nat)(e:Er)(m:M)(w:ak)(hB:Rb gr e w):
  Calls ax 113 #[.pointer ↑gr,.agg ↑m] w λr w'=>r=.returned ↑m.s/\iK gr (fU e (bK m.t)) w w':=by
 have hX:=Bx.new 101 ↑m w;have aV:=Ev.alloc w (.cells ↑m 101);have HN:=zq (λw1=>nK ⟨m.s.toArray⟩ w1);have hn:bK m.t=if f_ ⟨m.s.toArray⟩ then (0,0) else (20,m.pos):=by unfold bK jO aY;rw[M.uK,M.G6]
 rw[hn];have HX:=zq hX;have HE:=zq aV;have HB:=zq hB;obtain⟨⟨c0,c1,c2,c3,c4⟩,_⟩:=hX.five;generalize f_ ⟨m.s.toArray⟩=q at*;clear hX aV hB hn
 cases q
 ·have HF:=zq (λw1 (hE:Ev w w1)=>Jb gr e 20 m.pos ai w1 (HB.out.ev hE));go_enter func113,ntmps113
  go_wp2_with (first
   | ((with_reducible refine(HN.out _).mono ?_);rintro r w1 ⟨rfl,aN⟩;have oK:=zq (HE.out.trans aN);clear c0 c1 c2 c3 c4;obtain⟨⟨c0,c1,c2,c3,c4⟩,_⟩:=(HX.out.ev aN).five)
   | ((with_reducible refine(HF.out _ oK.out).mono ?_);rintro r w2 ⟨rfl,hR⟩;have HR:=zq hR;clear c0 c1 c2 c3 c4;obtain⟨⟨c0,c1,c2,c3,c4⟩,_⟩:=((HX.out.ev aN).but hR.but (by simp;have:=HB.out.lt;omega)).five;clear hR))
  go_ret;exact⟨rfl,HR.out.bx,(But.aW oK.out).then HR.out.but⟩
 go_enter func113,ntmps113
 go_wp2_with (first
  | ((with_reducible refine(HN.out _).mono ?_);rintro r w1 ⟨rfl,aN⟩;have oK:=zq (HE.out.trans aN);clear c0 c1 c2 c3 c4;obtain⟨⟨c0,c1,c2,c3,c4⟩,_⟩:=(HX.out.ev aN).five))
 go_ret;refine⟨rfl,?_⟩;rw[yh];exact iK.of HB.out oK.out
theorem CG(gr:Nat)(e:Er)(m:M)(b0:Nat)(w:ak)(hB:Rb gr e w)(hL:Lies b0 [gr] w m)(hfair:m.t.every dh=true)(hsz:m.t.size<=16000):
  Calls ax 114 #[.pointer ↑gr,.agg ↑m] w λr w'=>∃x:M,r=.returned (xZ x)/\x.t=(xRead m.t).1/\Lx w.heap.size [] w' x/\iK gr (fU e (kC m.t)) w w':=by
 obtain⟨w0,hw0,aV,hX,hR,hlt⟩:=KD w ↑m.kind ↑m.s ↑m.n (.slice m.A m.kids.length m.cap) ↑m.pos;have hRD:=λw1 (hE:Ev w w1)=>aeQ m b0 w1 ((hL.ev hE).less λk hk=>by cases hk) hfair hsz;unfold kC;generalize xRead m.t=RR at*;obtain⟨RT,RE,RP⟩:=RR;unfold Cf at hRD;simp only at hRD|-;have Bq:=zq hRD;have HR:=zq hR;have HE:=zq aV;have HB:=zq hB;have hgr:=hB.lt;obtain⟨⟨c0,c1,c2,c3,c4⟩,_⟩:=hX.five;unfold xZ M.kv;clear hX hR aV hB hRD hL hfair hsz;by_cases h:RE=0
 ·have hO:fU e (RE,RP)=e:=by unfold fU;simp[h]
  rw[hO];subst h;go_enter func114,ntmps114
  go_wp2_with (first
   | ((with_reducible refine(Bq.out _ HE.out).mono ?_);rintro r w1 ⟨x,rfl,jM,iH,aN⟩;simp only[];have qK:=zq jM;have pX:=zq (iH.ev (Ev.alloc w1 (.cells ↑(x,()) 47)));have oK:=zq (aN.trans (Ev.alloc w1 (.cells ↑(x,()) 47)));obtain⟨⟨d0,d1,d2,d3⟩,_⟩:=(Bx.new 47 ↑(x,()) w1).four;clear jM iH c0 c1 c2 c3 c4;obtain⟨⟨y7,y8,y9,MO⟩,MP,MQ,MR,MS⟩:=(HR.out.ev oK.out).four))
  (try simp only[Exit.inBlock,Exit.then]);rw[dS];refine ayr (aT rfl _ _ _ _ _ rfl ((HR.out.ev oK.out).kP _ _ _ _) underlying47 rfl Tryz.fA) rfl ?_;obtain⟨f1,f2⟩:=oh (g:=w.heap.size+1) (HE.out.trans oK.out) ae pX.out hlt ↑x.kind ↑x.s ↑x.n (.slice x.A x.kids.length x.cap);exact⟨x,rfl,qK.out,f1,iK.of HB.out f2⟩
 have hb:(RE !=0)=true:=by simp[h]
 have HF:=zq (λw1 (hE:Ev w w1)=>Jb gr e RE RP h w1 (HB.out.ev hE));go_enter func114,ntmps114
 go_wp2_with (first
  | ((with_reducible refine(Bq.out _ HE.out).mono ?_);rintro r w1 ⟨x,rfl,jM,iH,aN⟩;simp only[];have qK:=zq jM;have pX:=zq (iH.ev (Ev.alloc w1 (.cells ↑(x,()) 47)));have oK:=zq (aN.trans (Ev.alloc w1 (.cells ↑(x,()) 47)));have HBX:=zq (Bx.new 47 ↑(x,()) w1);have hw1:=zq (HE.out.trans aN).size;clear jM iH c0 c1 c2 c3 c4)
  | ((with_reducible refine(HF.out _ (HE.out.trans oK.out)).mono ?_);rintro r w2 ⟨rfl,kJ⟩;have yl:=zq kJ;obtain⟨⟨d0,d1,d2,d3⟩,_⟩:=(HBX.out.but kJ.but (by simp;have:=hw1.out;omega)).four;obtain⟨⟨y7,y8,y9,MO⟩,MP,MQ,MR,MS⟩:=((HR.out.ev oK.out).but kJ.but (by simp;omega)).four;clear kJ))
 (try simp only[Exit.inBlock,Exit.then]);rw[dS];have NH:=(HR.out.ev oK.out).but yl.out.but (by simp;omega);refine ayr (aT rfl _ _ _ _ _ rfl (NH.kP _ _ _ _) underlying47 rfl Tryz.fA) rfl ?_;refine⟨x,rfl,qK.out,?_,yl.out.bx.but (eY _ _ _ _ _ _) (by simp;omega),(((But.aW (HE.out.trans oK.out)).then yl.out.but)).trans (eY _ _ _ _ _ _) (λk hk=>by simp at hk;subst hk;exact .inr ae)⟩;have h1:Lx w0.heap.size [gr] _ x:=pX.out.less λk hk=>by simp at hk;subst hk;exact .inr (.inl ae)
 have h2:=h1.move yl.out.but λk hk=>.inl hk;have h3:Lx w0.heap.size [w.heap.size+1] w2 x:=h2.less λk hk=>by simp at hk;subst hk;exact .inr (.inl ae)
 exact(h3.move (eY _ _ _ _ _ _) λk hk=>by cases hk).low ae
structure Ai{α:Type}(et:TypeId)(k:Nat)(enc:α->List au)(w0:ak)(gr:Nat)(A:Option Addr)(n cap:Nat)(L:List α)(e:Er)(w:ak):Prop where
 own:Ow et k enc w0.heap.size w (.slice A n cap) L
 len:L.length=n
 rd:iK gr e w0 w
theorem Ai.start{α:Type}(et:TypeId)(k:Nat)(enc:α->List au){w0:ak}{gr:Nat}{e:Er}(hB:Rb gr e w0):Ai et k enc w0 gr none 0 0 ([]:List α) e w0:=⟨Ow.nil_ _,rfl,hB,But.refl _ _⟩
theorem Ai.next{α:Type}{et:TypeId}{k:Nat}{enc:α->List au}(E:Enc k enc){w0 wr wq w2:ak}{gr n cap:Nat}{A:Option Addr}{L:List α}{e e':Er}{x:α}{v2:au}(h:Ai et k enc w0 gr A n cap L e wr)(hr:iK gr e' wr wq)(hg:gr<w0.heap.size)(hA:mf et k enc w0.heap.size wq (.slice A n cap) (L++[x]) v2 w2):
  ∃A2 cap2,v2=.slice A2 (n+1) cap2/\Ai et k enc w0 gr A2 (n+1) cap2 (L++[x]) e' w2:=by
 obtain⟨ho,hb,hs⟩:=hA;obtain⟨A2,cap2,rfl,qL,xJ⟩:=ho.form E;have hl:(L++[x]).length=n+1:=by rw[awE,h.len];rfl
 rw[hl]at ho hs qL xJ|-;have hown:=h.own.but hr.but (λg yL=>by simp;have:=(h.own.lt yL).1;omega);refine⟨A2,cap2,rfl,ho,hl,?_,?_⟩;exact hr.bx.but hb λhm=>by have:=(hown.lt (aG.1 hm)).1;omega
 exact(h.rd.but.then hr.but).trans hb λy hy=>.inr (hown.lt (aG.1 hy)).1
theorem Ai.owq{α:Type}{et:TypeId}{k:Nat}{enc:α->List au}{w0 wr wq:ak}{gr n cap:Nat}{A:Option Addr}{L:List α}{e e':Er}(h:Ai et k enc w0 gr A n cap L e wr)(hr:iK gr e' wr wq)(hg:gr<w0.heap.size):Ow et k enc w0.heap.size wq (.slice A n cap) L:=
 h.own.but hr.but (λg yL=>by simp;have:=(h.own.lt yL).1;omega)
theorem Ai.size{α:Type}{et:TypeId}{k:Nat}{enc:α->List au}{w0 wr wq:ak}{gr n cap:Nat}{A:Option Addr}{L:List α}{e e':Er}(h:Ai et k enc w0 gr A n cap L e wr)(hr:iK gr e' wr wq):w0.heap.size<=wq.heap.size:=aw0 h.rd.but.size hr.but.size
theorem KH(gr:Nat)(e:Er)(l:List M)(A:Option Addr)(n cap b0:Nat)(w:ak)(hB:Rb gr e w)(h:Ms w A n cap l)(hr:U6 b0 [gr] w A)(hn:n<=100000):
  Calls ax 117 #[.pointer ↑gr,.slice A n cap] w λr w'=>∃x:fH By,r=.returned x.v/\x.l=l.map M.s/\bI 1 sc w.heap.size [] w' x/\iK gr (fU e (aU (l.map λx=>bK x.t))) w w':=by
 have hcl:=h.le;have hcm:=h.max;have HL:=zq h.len;have hgr:=hB.lt;have kT:=zq (Ai.start 9 1 sc hB);have qV:=zq (λw1 (hb:But [gr] w w1)=>h.but hb λad e=>(hr ad e).2.2);have HRN:=zq (λm e w1 hB=>Jc gr e m w1 hB);clear hB h hr;go_enter func117,ntmps117;go_wp2
 go_loopw [5,10] (λav iv wr=>∃(A1:Option Addr) (cap1 k:Nat) (E:Er),av=.slice A1 k cap1/\iv=↑k/\k<=n/\Hid (E=(((l.take k).map λx=>bK x.t).foldl fU e))/\Hid (Ai 9 1 sc w gr A1 k cap1 ((l.take k).map M.s) E wr)) (λ_ iv _=>n-(intOf iv).toNat)
 case atStart=>exact⟨none,0,0,e,rfl,rfl,awJ _,zq rfl,kT⟩
 case round=>
  obtain⟨A1,cap1,k,E,rfl,rfl,hk,HEE,HS⟩:=hrel;by_cases hlt:k<n
  ·obtain⟨x,hx⟩:=(qV.out w (But.refl _ _)).at hlt;obtain⟨b,off,rfl,hb,c0,c1,c2,c3,c4⟩:=Ms.cell (qV.out wr HS.out.rd.but) hx;unfold M.kv at c3;have jP:Hid ((l.take (k+1)).map M.s=(l.take k).map M.s++[x.s]/\((l.take (k+1)).map λx=>bK x.t).foldl fU e=fU E (bK x.t)):=zq (by
    obtain⟨hk2,e1⟩:=awz.1 hx;rw[awH hk2,e1,awM,awM,axW,<-HEE.out];exact⟨rfl,rfl⟩)
   have HN:=zq (HRN.out x E (wr.alloc (.cells ↑x 101)) (HS.out.rd.bx.ev aB));have uf:=zq HS.out.len;have i1:(0:Int)<=(k:Int):=ae;have i2:(k:Int)<(n:Int):=ae;clear hx
   go_wp2_with (first
    | ((with_reducible refine(HN.out).mono ?_);rintro r w1 ⟨rfl,hR⟩;have HR:=zq ((⟨hR.bx,(But.aW (Ev.alloc wr (.cells ↑x 101))).then hR.but⟩:iK gr _ wr w1).ev (Ev.alloc w1 (.cells #[↑x.s] 9)));clear hR)
    | ((show wpList _ _ _ (⟨some 19,_,_,_,_,_⟩::_) _ _);refine aO (o:=⟨some 19,_,_,_,_,_⟩) rfl 22 (.tmp 14) (.tmp 18) rfl qY underlying22 Tryz.I_ rfl rfl (HS.out.owq HR.out hgr) ↑w1 1 1 [x.s] rfl (Sl.one (et:=9) qY w1 x.s _ rfl) (by rw[uf.out];simp;omega) (by rw[uf.out];simp;omega) (HS.out.size HR.out) ?_;intro v2 w2 dY;obtain⟨A2,cap2,rfl,ST2⟩:=HS.out.next qY HR.out hgr dY))
   go_roundw
   case rel=>exact⟨A2,cap2,k+1,_,rfl,by go_num,ae,zq jP.out.2.symm,zq (by rw[jP.out.1];exact ST2)⟩
   case measure=>simp[intOf];omega
  obtain rfl:k=n:=ae;have HF:Hid ((l.take k).map M.s=l.map M.s/\E=fU e (aU (l.map λx=>bK x.t))):=zq (by
   have h1:=HEE.out;rw[awS (by rw[HL.out];exact awC _)]at h1|-;exact⟨rfl,by rw[h1,jB]⟩)
  go_wp2;go_ret;obtain⟨x,hxv,iH,PG⟩:=HS.out.own.sle qY;rw[hxv];exact⟨x,rfl,by rw[iH,HF.out.1],PG,HF.out.2▸HS.out.rd⟩
def Qq(t:T):By:=if t.kind==1&&(decide (0<t.kids.length)&&dB (at_ t.kids 0)) then (at_ t.kids 0).s else []
theorem Gw(m:M):Qq m.t=if m.kind==1&&(decide (0<m.kids.length)&&dB (at_ (m.kids.map M.t) 0)) then (at_ (m.kids.map M.t) 0).s else []:=by unfold Qq;rw[M.xI,M.bD,awD]
theorem aCl(h:U:=by go_enter func79,ntmps79;go_wp2;go_ret;exact⟨rfl,cu.out⟩):U:=h
theorem kW(m:M)(b0:Nat)(w:ak)(h:Lies b0 [] w m):
  Calls ax 79 #[.agg ↑m] w λe w'=>e=.returned (.string ⟨(Qq m.t).toArray⟩)/\Ev w w':=by
 have hB:=Bx.new 79 ↑m w;have aV:=Ev.alloc w (.cells ↑m 79);have fM:=h.ms;rw[Gw];have cu:=zq aV;obtain⟨⟨c0,c1,c2,c3,c4⟩,_⟩:=hB.five;clear hB h;generalize PH:m.kind=kd at*;generalize VP:m.A=mA at*;generalize hkn:m.kids.length=kn at*;generalize hmc:m.cap=mc at*;generalize hLL:m.kids=L at*;clear PH VP hmc hLL;by_cases hk:kd=1;subst hk
 cases L with
 | nil=>
  obtain rfl:kn=0:=by simpa using hkn.symm
  clear fM aV;exact aCl
 | cons x q=>
  obtain⟨k,rfl⟩:∃k,kn=k+1:=⟨q.length,by simpa using hkn.symm⟩
  have hcl:=fM.le;obtain⟨b,off,rfl,hb,d0,d1,d2,d3,d4⟩:=Ms.cell (fM.ev aV) (i:=0) (x:=x) rfl;simp only[axi,aw2]at d0 d1 d2 d3 d4;rw[aw5 (Nat.succ_pos k)];simp only[awI,at_,ax5,lV,M.uK,axe,axB];clear fM aV hkn;by_cases hx:x.kind=2;rw[hx]at d0|-;exact aCl;have hxb:(x.kind==2)=false:=awy.2 hx;rw[hxb];exact aCl
 have hkb:(kd==1)=false:=awy.2 hk;rw[hkb];clear fM aV;exact aCl
theorem Et{A:Option Addr}{n cap:Nat}{l:List M}(w:ak)(h:Ms w A n cap l):
  Calls ax 123 #[.slice A n cap] w λe w'=>e=.returned (.bool ((l.map M.t).all dB))/\Ev w w':=by
 have hn:=h.le;have hm:=h.max;have HL:=zq h.len;have HLA:Hid ((l.map M.t).all dB=l.all λx=>dB x.t):=zq (by rw[axN];rfl);rw[HLA.out];have H:=zq h;clear h;go_enter func123,ntmps123;go_wp2
 go_loopw [3] (λi wr=>∃k:Nat,k<=n/\i=↑k/\Hid ((l.take k).all (λx=>dB x.t)=true)/\Hid (Ev w wr)) (λi _=>n-(intOf i).toNat)
 case atStart=>exact⟨0,awJ _,rfl,zq aj,zq aK⟩
 case round=>
  obtain⟨k,hk,rfl,HT,HE⟩:=hrel;by_cases hlt:k<n
  ·obtain⟨x,hx⟩:=H.out.at hlt;obtain⟨b,off,rfl,hb,c0,c1,c2,c3,c4⟩:=Ms.cell (H.out.ev HE.out) hx;have HX:=zq hx;have i1:(0:Int)<=(k:Int):=ae;have i2:(k:Int)<(n:Int):=ae;clear hx;by_cases hq:x.kind=2
   ·rw[hq]at c0;go_wp2;go_roundw
    case rel=>exact⟨k+1,ae,by go_num,zq (by rw[tu HT.out HX.out,lV,hq];rfl),HE⟩
    case measure=>simp[intOf];omega
   go_wp2;go_ret;exact⟨by rw[all_false HX.out (by rw[lV];exact awy.2 hq)];rfl,HE.out⟩
  exact aAx
def Hu(t:T):By×Er:=if jO t.s then (t.s,(0,0)) else ([],(20,t.pos))
theorem Bv(m:M)(w:ak)(hs:m.s.length<=1000000):
  Calls ax 80 #[.agg ↑m] w λe w'=>e=.returned (.tuple #[.string ⟨(Hu m.t).1.toArray⟩,.int .i64 (Hu m.t).2.1,.int .i64 ((Hu m.t).2.2:Int)])/\Ev w w':=by
 have hX:=Bx.new 79 ↑m w;have aV:=Ev.alloc w (.cells ↑m 79);have HN:=zq (λw1=>yg ⟨m.s.toArray⟩ w1 (by show m.s.length<=maxLen;unfold maxLen;omega));have hn:Hu m.t=if f_ ⟨m.s.toArray⟩ then (m.s,(0,0)) else ([],(20,m.pos)):=by unfold Hu jO aY;rw[M.uK,M.G6]
 rw[hn];have HX:=zq hX;have HE:=zq aV;obtain⟨⟨c0,c1,c2,c3,c4⟩,_⟩:=hX.five;generalize f_ ⟨m.s.toArray⟩=q at*;clear hX aV hn
 cases q
 ·go_enter func80,ntmps80;go_upto_region 2 with (first
   | ((with_reducible refine(HN.out _).mono ?_);rintro r w1 ⟨rfl,aN⟩;have oK:=zq (HE.out.trans aN);clear c0 c1 c2 c3 c4;obtain⟨⟨c0,c1,c2,c3,c4⟩,_⟩:=(HX.out.ev aN).five))
  go_quiet (fail)
  go_wp2
  go_ret3
  exact⟨rfl,oK.out.trans (Ev.drewN _ _)⟩
 go_enter func80,ntmps80
 go_wp2_with (first
  | ((with_reducible refine(HN.out _).mono ?_);rintro r w1 ⟨rfl,aN⟩;have oK:=zq (HE.out.trans aN);clear c0 c1 c2 c3 c4;obtain⟨⟨c0,c1,c2,c3,c4⟩,_⟩:=(HX.out.ev aN).five))
 go_ret3
 exact⟨rfl,oK.out⟩
theorem But.Ia{K:List Nat}{w w':ak}(h:But K w w'){p:Addr}(hlt:p.block<w.heap.size)(hn:p.block∉K):w'.cell? p=w.cell? p:=World.cell?_of_block (h.block p.block hlt hn)
structure DC(w0:ak)(gr:Nat)(A1:Option Addr)(cap1:Nat)(N:List By)(A2:Option Addr)(cap2:Nat)(X:List M)(e:Er)(w:ak):Prop where
 ns:Ow 9 1 sc w0.heap.size w (.slice A1 N.length cap1) N
 es:Ow 47 4 ec w0.heap.size w (.slice A2 X.length cap2) X
 apart:∀g,(Value.slice A1 N.length cap1).ownBlock=some g->(Value.slice A2 X.length cap2).ownBlock≠some g
 lies:∀x∈X,Lx w0.heap.size (foot (.slice A1 N.length cap1)++foot (.slice A2 X.length cap2)) w x
 rd:iK gr e w0 w
theorem DC.start{w0:ak}{gr:Nat}{e:Er}(hB:Rb gr e w0):DC w0 gr none 0 [] none 0 [] e w0:=⟨Ow.nil_ _,Ow.nil_ _,(λg h=>by cases h),(λx hx=>by cases hx),hB,But.refl _ _⟩
theorem DC.through{w0 wr wq:ak}{gr:Nat}{A1 A2:Option Addr}{cap1 cap2:Nat}{N:List By}{X:List M}{e e':Er}(h:DC w0 gr A1 cap1 N A2 cap2 X e wr)(hr:iK gr e' wr wq)(hg:gr<w0.heap.size):DC w0 gr A1 cap1 N A2 cap2 X e' wq:=
 ⟨h.ns.but hr.but (λg yL=>by simp;have:=(h.ns.lt yL).1;omega),h.es.but hr.but (λg yL=>by simp;have:=(h.es.lt yL).1;omega),h.apart,
  λx hx=>(((h.lies x hx).less (K':=gr::(foot (.slice A1 N.length cap1)++foot (.slice A2 X.length cap2))) λy hy=>by
   rcases awN.1 hy with rfl|hy;exact .inr (.inl hg);exact .inl hy).move (hr.but.wide λy hy=>.inl (by simp at hy;subst hy;exact awL ..)) λy hy=>.inl (awK _ hy)),h.rd.then hr⟩
theorem aAL(h:U:=by rcases awV.1 hy with h1|h1;rcases hs y (aG.1 h1) with h2|h2;exact .inl (awZ _ (aG.2 h2));exact .inr (.inr h2);exact .inl (axo _ h1)):U:=h
theorem DC.name{w0 wq w2:ak}{gr:Nat}{A1 A2:Option Addr}{cap1 cap2:Nat}{N:List By}{X:List M}{e:Er}{s:By}{v2:au}(h:DC w0 gr A1 cap1 N A2 cap2 X e wq)(hg:gr<w0.heap.size)(hA:mf 9 1 sc w0.heap.size wq (.slice A1 N.length cap1) (N++[s]) v2 w2):
  ∃YN xU,v2=.slice YN (N.length+1) xU/\DC w0 gr YN xU (N++[s]) A2 cap2 X e w2:=by
 obtain⟨ho,hb,hs⟩:=hA;obtain⟨YN,xU,rfl,_,_⟩:=ho.form qY;have hl:(N++[s]).length=N.length+1:=aj;refine⟨YN,xU,by rw[hl],ho,?_,?_,?_,?_⟩;exact h.es.but hb λg yL hm=>h.apart g (aG.1 hm) yL;intro g yL he;rcases hs g yL with h1|h1;exact h.apart g h1 he;have:=(h.es.lt he).2;omega;intro x hx;refine(h.lies x hx).move (hb.wide λy hy=>.inl (awZ _ hy)) λy hy=>?_;exact aAL;exact⟨h.rd.bx.but hb λhm=>by have:=(h.ns.lt (aG.1 hm)).1;omega,h.rd.but.trans hb λy hy=>.inr (h.ns.lt (aG.1 hy)).1⟩
theorem aAi(h:U:=by refine hy2.move (hb.wide λz hz=>.inl (axo _ hz)) λz hz=>?_;rcases awV.1 hz with h1|h1;exact .inl (awZ _ h1);rcases hs z (aG.1 h1) with h2|h2;exact .inl (axo _ (aG.2 h2));exact .inr (.inr h2)):U:=h
theorem DC.expr{w0 wp wq w2:ak}{gr:Nat}{A1 A2:Option Addr}{cap1 cap2:Nat}{N:List By}{X:List M}{e:Er}{x:M}{v2:au}(h:DC w0 gr A1 cap1 N A2 cap2 X e wq)(hg:gr<w0.heap.size)(hx:Lx wp.heap.size [] wq x)(hp0:w0.heap.size<=wp.heap.size)
  (hN:∀g,(Value.slice A1 N.length cap1).ownBlock=some g->g<wp.heap.size) (hX:∀g,(Value.slice A2 X.length cap2).ownBlock=some g->g<wp.heap.size)
  (hA:mf 47 4 ec w0.heap.size wq (.slice A2 X.length cap2) (X++[x]) v2 w2):
  ∃A2' Aq,v2=.slice A2' (X.length+1) Aq/\DC w0 gr A1 cap1 N A2' Aq (X++[x]) e w2:=by
 obtain⟨ho,hb,hs⟩:=hA;obtain⟨A2',Aq,rfl,_,_⟩:=ho.form x8;have hl:(X++[x]).length=X.length+1:=aj;refine⟨A2',Aq,by rw[hl],?_,ho,?_,?_,?_⟩;exact h.ns.but hb λg yL hm=>h.apart g yL (aG.1 hm);intro g yL he;rcases hs g he with h1|h1;exact h.apart g yL h1;have:=(h.ns.lt yL).2;omega;intro y hy;have hy2:Lx w0.heap.size (foot (.slice A1 N.length cap1)++foot (.slice A2 X.length cap2)) wq y:=by rcases awV.1 hy with h1|h1;exact h.lies y h1;simp at h1;subst h1;refine(hx.less λk hk=>.inr (.inl ?_)).low hp0;rcases awV.1 hk with h2|h2;exact hN k (aG.1 h2);exact hX k (aG.1 h2)
 exact aAi;exact⟨h.rd.bx.but hb λhm=>by have:=(h.es.lt (aG.1 hm)).1;omega,h.rd.but.trans hb λy hy=>.inr (h.es.lt (aG.1 hy)).1⟩
structure TP(w0:ak)(gr:Nat)(A1:Option Addr)(cap1:Nat)(N:List By)(A2:Option Addr)(cap2:Nat)(X:List M)(e:Er)(gb:Nat)(bc:Array au)(w:ak):Prop where
 st:DC w0 gr A1 cap1 N A2 cap2 X e w
 bx:Bx 101 gb bc w
 nr:gb≠gr
 n1:∀g,(Value.slice A1 N.length cap1).ownBlock=some g->gb≠g
 n2:∀g,(Value.slice A2 X.length cap2).ownBlock=some g->gb≠g
theorem TP.start{w0 wr:ak}{gr:Nat}{A1 A2:Option Addr}{cap1 cap2:Nat}{N:List By}{X:List M}{e:Er}(h:DC w0 gr A1 cap1 N A2 cap2 X e wr)(bc:Array au):TP w0 gr A1 cap1 N A2 cap2 X e wr.heap.size bc (wr.alloc (.cells bc 101)):=
 ⟨⟨h.ns.ev aB,h.es.ev aB,h.apart,λx hx=>(h.lies x hx).ev aB,h.rd.ev aB⟩,Bx.new _ _ _,Nat.ne_of_gt h.rd.bx.lt,λg hg=>Nat.ne_of_gt (h.ns.lt hg).2,λg hg=>Nat.ne_of_gt (h.es.lt hg).2⟩
theorem TP.through{w0 wr wq:ak}{gr gb:Nat}{bc:Array au}{A1 A2:Option Addr}{cap1 cap2:Nat}{N:List By}{X:List M}{e e':Er}(h:TP w0 gr A1 cap1 N A2 cap2 X e gb bc wr)(hr:iK gr e' wr wq)(hg:gr<w0.heap.size):TP w0 gr A1 cap1 N A2 cap2 X e' gb bc wq:=
 ⟨h.st.through hr hg,h.bx.but hr.but (by simp;exact h.nr),h.nr,h.n1,h.n2⟩
theorem TP.ev{w0 wr wq:ak}{gr gb:Nat}{bc:Array au}{A1 A2:Option Addr}{cap1 cap2:Nat}{N:List By}{X:List M}{e:Er}(h:TP w0 gr A1 cap1 N A2 cap2 X e gb bc wr)(hE:Ev wr wq):TP w0 gr A1 cap1 N A2 cap2 X e gb bc wq:=
 ⟨⟨h.st.ns.ev hE,h.st.es.ev hE,h.st.apart,λx hx=>(h.st.lies x hx).ev hE,h.st.rd.ev hE⟩,h.bx.ev hE,h.nr,h.n1,h.n2⟩
theorem TP.name{w0 wq w2:ak}{gr gb:Nat}{bc:Array au}{A1 A2:Option Addr}{cap1 cap2:Nat}{N:List By}{X:List M}{e:Er}{s:By}{v2:au}(h:TP w0 gr A1 cap1 N A2 cap2 X e gb bc wq)(hg:gr<w0.heap.size)(hA:mf 9 1 sc w0.heap.size wq (.slice A1 N.length cap1) (N++[s]) v2 w2):
  ∃YN xU,v2=.slice YN (N.length+1) xU/\TP w0 gr YN xU (N++[s]) A2 cap2 X e gb bc w2:=by
 obtain⟨YN,xU,hv,hS⟩:=h.st.name hg hA;refine⟨YN,xU,hv,hS,h.bx.but hA.2.1 λhm=>h.n1 gb (aG.1 hm) rfl,h.nr,λg yL=>?_,h.n2⟩;have hl:(N++[s]).length=N.length+1:=aj;rw[hl,<-hv]at yL;rcases hA.2.2 g yL with h1|h1;exact h.n1 g h1;have:=h.bx.lt;omega
theorem TP.expr{w0 wp wq w2:ak}{gr gb:Nat}{bc:Array au}{A1 A2:Option Addr}{cap1 cap2:Nat}{N:List By}{X:List M}{e0 e:Er}{x:M}{v2:au}(h0:TP w0 gr A1 cap1 N A2 cap2 X e0 gb bc wp)(h:TP w0 gr A1 cap1 N A2 cap2 X e gb bc wq)(hg:gr<w0.heap.size)(hx:Lx wp.heap.size [] wq x)
  (hA:mf 47 4 ec w0.heap.size wq (.slice A2 X.length cap2) (X++[x]) v2 w2):
  ∃A2' Aq,v2=.slice A2' (X.length+1) Aq/\TP w0 gr A1 cap1 N A2' Aq (X++[x]) e gb bc w2:=by
 obtain⟨A2',Aq,hv,hS⟩:=h.st.expr hg hx h0.st.rd.but.size (λg yL=>(h0.st.ns.lt yL).2) (λg yL=>(h0.st.es.lt yL).2) hA;refine⟨A2',Aq,hv,hS,h.bx.but hA.2.1 λhm=>h.n2 gb (aG.1 hm) rfl,h.nr,h.n1,λg yL=>?_⟩;have hl:(X++[x]).length=X.length+1:=aj;rw[hl,<-hv]at yL;rcases hA.2.2 g yL with h1|h1;exact h.n2 g h1;have:=h.bx.lt;omega
theorem aeV{x:M}(h:fC x.t=true):x.kids.length=2:=by unfold fC at h;simp only[awF,awO]at h;have:=h.1.2;rwa [M.bD,awD]at this
theorem TQ{b0 gr:Nat}{w:ak}{x:M}(h:Lies b0 [gr] w x){n:Nat}(hn:x.kids.length=n+2):∃b off x0 x1,x.A=some ⟨b,off,none⟩/\x.kids[0]?=some x0/\x.kids[1]?=some x1/\∀w1,But [gr] w w1->
  (w1.cell? ⟨b,off,none⟩=some ↑x0.kind/\w1.cell? ⟨b,off+1,none⟩=some ↑x0.s/\w1.cell? ⟨b,off+2,none⟩=some ↑x0.n/\w1.cell? ⟨b,off+3,none⟩=some (.slice x0.A x0.kids.length x0.cap)/\w1.cell? ⟨b,off+4,none⟩=some ↑x0.pos)/\
  (w1.cell? ⟨b,off+5,none⟩=some ↑x1.kind/\w1.cell? ⟨b,off+5+1,none⟩=some ↑x1.s/\w1.cell? ⟨b,off+5+2,none⟩=some ↑x1.n/\w1.cell? ⟨b,off+5+3,none⟩=some (.slice x1.A x1.kids.length x1.cap)/\w1.cell? ⟨b,off+5+4,none⟩=some ↑x1.pos):=by
 have fM:=h.ms;obtain⟨x0,hx0⟩:=fM.at (i:=0) ae;obtain⟨x1,hx1⟩:=fM.at (i:=1) ae;obtain⟨b,off,hxA,hb,_⟩:=Ms.cell fM hx0;have hgb:b≠gr:=by
  cases h with
  | mk h1 h2 h3=>
   have:=(h2 _ hxA).2.2;simpa using this
 rw[hxA]at fM;refine⟨b,off,x0,x1,hxA,hx0,hx1,λw1 hb=>?_⟩;have h0:=Ms.rf (fM.but hb λad e=>by cases e;simp;exact hgb) hx0;have h1:=Ms.rf (fM.but hb λad e=>by cases e;simp;exact hgb) hx1;simp only[axi,aw2,axK]at h0 h1;exact⟨h0,h1⟩
theorem Wx(gr:Nat)(e:Er)(l:List M)(A:Option Addr)(n cap b0:Nat)(w:ak)(hB:Rb gr e w)(h:Ms w A n cap l)(hr:U6 b0 [gr] w A)(hn:n<=10000)(wH:∀x∈l,fC x.t=true)(hlies:∀x∈l,Lies b0 [gr] w x)(hfair:∀x∈l,x.t.every dh=true)(hsz:∀x∈l,x.t.size<=16000):
  Calls ax 116 #[.pointer ↑gr,.slice A n cap] w λr w'=>∃(N:fH By) (X:fH M),r=.returned (.tuple #[N.v,X.v])/\N.l=l.map (λx=>rH x.t)/\X.l.map M.t=l.map (λx=>rJ x.t)/\bI 1 sc w.heap.size [] w' N/\bI 4 ec w.heap.size [] w' X/\(∀x∈X.l,Lx w.heap.size [] w' x)/\iK gr (fU e (aU (l.flatMap λx=>eQ x.t))) w w':=by
 have hcl:=h.le;have hcm:=h.max;have HL:=zq h.len;have hgr:=hB.lt;have kT:=zq (DC.start hB);have qV:=zq (λw1 (hb:But [gr] w w1)=>h.but hb λad e=>(hr ad e).2.2);have HRN:=zq (λm e w1 hB=>Jc gr e m w1 hB);have hRE:=λm e b0 w1 hB hL hf hs=>CG gr e m b0 w1 hB hL hf hs;unfold xZ M.kv at hRE;have HRE:=zq hRE;have CJ:=zq (λx hx w1 (hb:But [gr] w w1)=>(hlies x hx).move hb λ_ hy=>.inl hy);have aor:=zq wH;have J5:=zq hfair;have zQ:=zq hsz;clear hB h hr wH hlies hfair hsz hRE;go_enter func116,ntmps116;go_wp2
 go_loopw [6,7,12] (λav bv iv wr=>∃(A1 A2:Option Addr) (cap1 cap2 k:Nat) (E:Er) (N:List By) (X:List M),av=.slice A1 k cap1/\bv=.slice A2 k cap2/\iv=↑k/\k<=n/\Hid (N.length=k/\X.length=k)/\Hid (N=(l.take k).map (λx=>rH x.t))/\Hid (X.map M.t=(l.take k).map (λx=>rJ x.t))/\Hid (E=(((l.take k).flatMap λx=>eQ x.t).foldl fU e))/\Hid (DC w gr A1 cap1 N A2 cap2 X E wr)) (λ_ _ iv _=>n-(intOf iv).toNat)
 case atStart=>exact⟨none,none,0,0,0,e,[],[],rfl,rfl,rfl,awJ _,zq ⟨rfl,rfl⟩,zq rfl,zq rfl,zq rfl,kT⟩
 case round=>
  obtain⟨A1,A2,cap1,cap2,k,E,N,X,rfl,rfl,rfl,hk,xP,wF,HXX,HEE,HS⟩:=hrel;by_cases hlt:k<n
  ·obtain⟨x,hx⟩:=(qV.out w (But.refl _ _)).at hlt;have gJ:=awG hx;obtain⟨b,off,rfl,hb,c0,c1,c2,c3,c4⟩:=Ms.cell (qV.out wr HS.out.rd.but) hx;unfold M.kv at c3;have hk2:=aeV (aor.out x gJ);have hcap2:2<=x.cap:=by have:=(CJ.out x gJ w (But.refl _ _)).ms.le;omega
   have hcapm:x.cap<=9223372036854775807:=(CJ.out x gJ w (But.refl _ _)).ms.max;obtain⟨b',off',x0,x1,hxA,hx0,hx1,hKC⟩:=TQ (CJ.out x gJ w (But.refl _ _)) (n:=0) ae;have l9:=zq hKC;have XH:rH x.t=x0.s:=by unfold rH;rw[M.bD,Dn _ _ _ hx0,M.uK]
   have hce:rJ x.t=(xRead x1.t).1:=by unfold rJ;rw[M.bD,Dn _ _ _ hx1]
   have hcs:eQ x.t=[bK x0.t,kC x1.t]:=by unfold eQ;rw[M.bD,Dn _ _ _ hx0,Dn _ _ _ hx1]
   have jP:Hid ((l.take (k+1)).map (λx=>rH x.t)=(l.take k).map (λx=>rH x.t)++[x0.s]/\(l.take (k+1)).map (λx=>rJ x.t)=(l.take k).map (λx=>rJ x.t)++[(xRead x1.t).1]/\((l.take (k+1)).flatMap λx=>eQ x.t).foldl fU e=fU (fU E (bK x0.t)) (kC x1.t)):=zq (by
    obtain⟨hk2,e1⟩:=awz.1 hx;rw[awH hk2,e1,awM,awM,ayf,axW,<-HEE.out];simp only[awI,awY,axS,List.flatMap_nil,ax2,XH,hce,hcs];refine⟨?_,?_,?_⟩<;>first|rfl|trivial)
   rw[hxA,hk2]at c3;obtain⟨BC,hBC⟩:∃BC:Array au,BC=#[↑x.kind,↑x.s,↑x.n,.slice ↑(b',off') 2 x.cap,↑x.pos]:=⟨_,rfl⟩
   have hCB:=TP.start HS.out BC;rw[hBC]at hCB;have uQ:=zq hCB;have HN:=zq (HRN.out x0 E _ uQ.out.st.rd.bx);have S_:=zq (λw1 (hb:But [gr] w w1)=>(CJ.out x gJ w1 hb).kid x1 (awG hx1));have HF1:Hid (x1.t.every dh=true/\x1.t.size<=16000):=zq (by
    have h5:=J5.out x gJ;rw[T.gI,awF]at h5;have h6:=zQ.out x gJ;have h7:=T.size_eq x.t;rw[M.bD,awT]at h7;have h8:=iQ (aw6.2 ⟨x1,awG hx1,rfl⟩:x1.t.size∈x.kids.map (T.size ∘ M.t));exact⟨awW.1 h5.2 x1.t (by rw[M.bD];exact aw6.2 ⟨x1,awG hx1,rfl⟩),ae⟩)
   obtain⟨⟨d0,d1,d2,d3,d4⟩,_⟩:=uQ.out.bx.five;obtain⟨⟨k0,k1,k2,k3,k4⟩,j0,j1,j2,j3,j4⟩:=l9.out _ uQ.out.st.rd.but;have i1:(0:Int)<=(k:Int):=ae;have i2:(k:Int)<(n:Int):=ae;have jd:=zq xP.out.1;have pX:=zq xP.out.2;clear hx gJ hx0 hx1 XH hce hcs hxA hKC hCB hBC hb
   go_wp2_with (first
    | ((with_reducible refine(HN.out).mono ?_);rintro r w1 ⟨rfl,hR⟩;have ahJ:=zq ((uQ.out.through hR hgr).ev (Ev.alloc w1 (.cells #[↑x0.s] 9)));clear hR)
    | ((show wpList _ _ _ (⟨some 24,_,_,_,_,_⟩::_) _ _);refine aO (o:=⟨some 24,_,_,_,_,_⟩) rfl 22 (.tmp 16) (.tmp 23) rfl qY underlying22 Tryz.I_ rfl (by rw[<-jd.out];rfl) ahJ.out.st.ns ↑w1 1 1 [x0.s] rfl (Sl.one (et:=9) qY w1 x0.s _ rfl) (by rw[jd.out];simp;omega) (by rw[jd.out];simp;omega) ahJ.out.st.rd.but.size ?_;intro v2 w2 dY;obtain⟨YN,xU,hv2,ST2⟩:=ahJ.out.name hgr dY;rw[jd.out]at hv2;subst hv2;have Zq:=zq ST2;clear ST2 dY d0 d1 d2 d3 d4 k0 k1 k2 k3 k4 j0 j1 j2 j3 j4;obtain⟨⟨d0,d1,d2,d3,d4⟩,_⟩:=Zq.out.bx.five;obtain⟨⟨k0,k1,k2,k3,k4⟩,j0,j1,j2,j3,j4⟩:=l9.out _ Zq.out.st.rd.but)
    | ((with_reducible refine(HRE.out x1 _ b0 _ Zq.out.st.rd.bx (S_.out _ Zq.out.st.rd.but) HF1.out.1 HF1.out.2).mono ?_);rintro r w3 ⟨x',rfl,jM,iH,hR⟩;have qK:=zq jM;have aot:=zq (iH.ev (Ev.alloc w3 (.cells ↑(x',()) 47)));have ahK:=zq ((Zq.out.through hR hgr).ev (Ev.alloc w3 (.cells ↑(x',()) 47)));clear jM iH hR)
    | ((show wpList _ _ _ (⟨some 33,_,_,_,_,_⟩::_) _ _);refine aO (o:=⟨some 33,_,_,_,_,_⟩) rfl 28 (.tmp 25) (.tmp 32) rfl x8 underlying28 Tryz.zX rfl (by rw[<-pX.out];rfl) ahK.out.st.es ↑w3 1 1 [x'] rfl (Sl.one (et:=47) x8 w3 x' _ rfl) (by rw[pX.out];simp;omega) (by rw[pX.out];simp;omega) ahK.out.st.rd.but.size ?_;intro v4 w4 hA4;obtain⟨A2',Aq,hv4,ST4⟩:=TP.expr Zq.out ahK.out hgr aot.out hA4;rw[pX.out]at hv4;subst hv4;have aou:=zq ST4.st;clear ST4 hA4))
   go_roundw
   case rel=>exact⟨YN,A2',xU,Aq,k+1,_,_,_,rfl,rfl,by go_num,ae,zq ⟨by simp[jd.out],by simp[pX.out]⟩,zq (by rw[jP.out.1,wF.out]),zq (by rw[jP.out.2.1,awM,HXX.out,awI,awY,qK.out]),zq jP.out.2.2.symm,aou⟩
   case measure=>simp[intOf];omega
  obtain rfl:k=n:=ae;have HF:Hid ((l.take k).map (λx=>rH x.t)=l.map (λx=>rH x.t)/\(l.take k).map (λx=>rJ x.t)=l.map (λx=>rJ x.t)/\E=fU e (aU (l.flatMap λx=>eQ x.t))):=zq (by
   have h1:=HEE.out;rw[awS (by rw[HL.out];exact awC _)]at h1|-;exact⟨rfl,rfl,by rw[h1,jB]⟩)
  go_wp2
  go_ret2
  obtain⟨N',hNv,hNl,hNs⟩:=HS.out.ns.sle qY;obtain⟨X',hXv,wQ,yH⟩:=HS.out.es.sle x8;rw[xP.out.1]at hNv;rw[xP.out.2]at hXv;rw[hNv,hXv];exact⟨N',X',rfl,by rw[hNl,wF.out,HF.out.1],by rw[wQ,HXX.out,HF.out.2.1],hNs,yH,λx hx=>(HS.out.lies x (by rwa [wQ]at hx)).less (λk hk=>by cases hk),HF.out.2.2▸HS.out.rd⟩
theorem Tryz.Je:(Tryz.prog.info? 54).map (λi=>(i.zero,i.size,i.bytes))=some (some (.agg #[.string ⟨#[]⟩,.string ⟨#[]⟩,.string ⟨#[]⟩]),3,48):=ah
theorem Tryz.pz:Tryz.prog.underlying 29=some (.slice 54):=ah
def Qv(b:Nat)(v:au)(w:ak):Prop:=∃g c0 c1 c2,v=.pointer (some ⟨g,0,none⟩)/\Bx 54 g #[c0,c1,c2] w/\b<=g
theorem Qv.mono(b:Nat):ru (Qv b):=λv w w' hE h=>by obtain⟨g,c0,c1,c2,e,hB,hb⟩:=h;exact⟨g,c0,c1,c2,e,hB.ev hE,hb⟩
def JA(gr b:Nat)(w w':ak):Prop:=But [gr] w w'∨∃(g:Nat) (v0 v1 v2:au),b<=g/\(∃c0 c1 c2,Bx 54 g #[c0,c1,c2] w)/\w'=yf g v0 v1 v2 w
theorem Qv.jump(gr b:Nat)(hg:gr<b):∀v w w',JA gr b w w'->Qv b v w->Qv b v w':=by rintro v w w' (hb|⟨g,v0,v1,v2,_,⟨c0,c1,c2,hB⟩,rfl⟩) ⟨g',d0,d1,d2,e,hB',hb'⟩;exact⟨g',d0,d1,d2,e,hB'.but hb (by simp;omega),hb'⟩;by_cases hgg:g'=g;subst hgg;exact⟨g',v0,v1,v2,e,hB'.yf _ _ _,hb'⟩;exact⟨g',d0,d1,d2,e,hB'.but (ve g v0 v1 v2 w) (by simp;exact hgg),hb'⟩
def BxA(b:Nat)(s f c:ByteArray)(v:au)(w:ak):Prop:=∃g,v=.pointer (some ⟨g,0,none⟩)/\Bx 54 g #[.string s,.string f,.string c] w/\b<=g
theorem BxA.mono(b:Nat)(s f c:ByteArray):ru (BxA b s f c):=λv w w' hE h=>by obtain⟨g,e,hB,hb⟩:=h;exact⟨g,e,hB.ev hE,hb⟩
theorem NK{ρ:Operand->au}{o:Oper}{w:ak}(ho:o.op=.alloc 54):
  (execOp ρ o).run ax w=.ok (.value (.pointer ↑w)) (w.alloc (.cells #[.string ⟨#[]⟩,.string ⟨#[]⟩,.string ⟨#[]⟩] 54)):=by
 unfold execOp;rw[ho];simp[go_sem]
theorem aeW{x:M}(h:eF x.t=true):x.kids.length=2∨x.kids.length=3:=by unfold eF at h;simp only[awF,aw_,awO]at h;have:=h.2;rwa [M.bD,awD]at this
theorem OU{b0 gr:Nat}{w:ak}{x:M}(h:Lies b0 [gr] w x){b off:Nat}(hA:x.A=some ⟨b,off,none⟩){i:Nat}{x2:M}(hx:x.kids[i]?=some x2):∀w1,But [gr] w w1->
  (w1.cell? ⟨b,off+i*5,none⟩=some ↑x2.kind/\w1.cell? ⟨b,off+i*5+1,none⟩=some ↑x2.s/\w1.cell? ⟨b,off+i*5+2,none⟩=some ↑x2.n/\w1.cell? ⟨b,off+i*5+3,none⟩=some (.slice x2.A x2.kids.length x2.cap)/\w1.cell? ⟨b,off+i*5+4,none⟩=some ↑x2.pos):=by
 intro w1 hb;have hgb:b≠gr:=by
  cases h with
  | mk h1 h2 h3=>
   have:=(h2 _ hA).2.2;simpa using this
 have fM:=h.ms;rw[hA]at fM;exact Ms.rf (fM.but hb λad e=>by cases e;simp;exact hgb) hx
structure NL(w0:ak)(gr:Nat)(A1:Option Addr)(k cap1:Nat)(L:List Ag)(e:Er)(gb:Nat)(bc:Array au)(g8:Nat)(ac8:Array au)(w:ak):Prop where
 st:Ai 54 3 ac w0 gr A1 k cap1 L e w
 bx:Bx 101 gb bc w
 ba:Bx 54 g8 ac8 w
 nr:gb≠gr
 n8:g8≠gr
 lo:w0.heap.size<=g8
 ns:∀g,(Value.slice A1 k cap1).ownBlock=some g->g≠g8
theorem NL.through{w0 wr wq:ak}{gr gb g8:Nat}{bc ac8:Array au}{A1:Option Addr}{k cap1:Nat}{L:List Ag}{e e':Er}(h:NL w0 gr A1 k cap1 L e gb bc g8 ac8 wr)(hr:iK gr e' wr wq)(hg:gr<w0.heap.size):NL w0 gr A1 k cap1 L e' gb bc g8 ac8 wq:=
 ⟨⟨h.st.owq hr hg,h.st.len,h.st.rd.then hr⟩,h.bx.but hr.but (by simp;exact h.nr),h.ba.but hr.but (by simp;exact h.n8),h.nr,h.n8,h.lo,h.ns⟩
theorem NL.ev{w0 wr wq:ak}{gr gb g8:Nat}{bc ac8:Array au}{A1:Option Addr}{k cap1:Nat}{L:List Ag}{e:Er}(h:NL w0 gr A1 k cap1 L e gb bc g8 ac8 wr)(hE:Ev wr wq):NL w0 gr A1 k cap1 L e gb bc g8 ac8 wq:=
 ⟨⟨h.st.own.ev hE,h.st.len,h.st.rd.ev hE⟩,h.bx.ev hE,h.ba.ev hE,h.nr,h.n8,h.lo,h.ns⟩
theorem NL.store2{w0 wr:ak}{gr gb g8:Nat}{bc:Array au}{v0 v1 v2:au}{A1:Option Addr}{k cap1:Nat}{L:List Ag}{e:Er}(h:NL w0 gr A1 k cap1 L e gb bc g8 #[v0,v1,v2] wr)(v:au):NL w0 gr A1 k cap1 L e gb bc g8 #[v0,v1,v] (wr.setCell ⟨g8,2,none⟩ v):=by
 have hb:But [g8] wr (wr.setCell ⟨g8,2,none⟩ v):=But.setCell _ _ aj;by_cases hgb:gb=g8;exfalso;have h1:=h.bx.blk;rw[hgb,h.ba.blk]at h1;injection h1 with h1
 injection h1 with _ h2
 cases h2
 refine⟨⟨h.st.own.but hb (λg hg=>by simp;exact h.ns g hg),h.st.len,h.st.rd.bx.but hb (by simp;exact λe=>h.n8 e.symm),h.st.rd.but.trans hb λy hy=>by simp at hy;subst hy;exact .inr h.lo⟩,h.bx.but hb (by simp;exact hgb),?_,h.nr,h.n8,h.lo,h.ns⟩;have:=h.ba.set 2 v;rw[show ((#[v0,v1,v2]:Array au).setIfInBounds 2 v)=#[v0,v1,v] by simp]at this;exact this
theorem aCr(h:U:=by refine aQ λa w c=>⟨(ay rfl),_,run_move _ rfl w,(c.was 0 rfl)⟩):U:=h
theorem aAv(h:U:=by
 refine aQ λa wq c=>⟨(ay rfl),.pointer (some ⟨gb,3,none⟩),?_,rfl⟩
 have bC:a.eval (.tmp 7)=.pointer ↑gb:=(c.was 7 rfl)
 generalize a.eval=ρ at bC|-;simp[execOp,bC,go_sem]):U:=h
theorem aA6(h:U:=by have hc:=(c.inv.Ia (p:=⟨gb,3,none⟩) hlA (by simp;omega)).trans d3;generalize a.eval=ρ at bC|-;simp[execOp,bC,hc,go_sem]):U:=h
theorem aeX(gr:Nat)(e:Er)(l:List M)(A:Option Addr)(n cap b0:Nat)(w:ak)(hB:Rb gr e w)(h:Ms w A n cap l)(hr:U6 b0 [gr] w A)(hn:n<=10000)(hagg:∀x∈l,eF x.t=true)(hlies:∀x∈l,Lies b0 [gr] w x):
  Calls ax 118 #[.pointer ↑gr,.slice A n cap] w λr w'=>∃x:fH Ag,r=.returned x.v/\x.l=l.map (λx=>kS x.t)/\bI 3 ac w.heap.size [] w' x/\iK gr (fU e (aU (l.flatMap λx=>eG x.t))) w w':=by
 have ed:Tryz.prog.follows .mixedOrders=true:=ah;have hcl:=h.le;have hcm:=h.max;have HL:=zq h.len;have hgr:=hB.lt;have kT:=zq (Ai.start 54 3 ac hB);have qV:=zq (λw1 (hb:But [gr] w w1)=>h.but hb λad e=>(hr ad e).2.2);have HRN:=zq (λm e w1 hB=>Jc gr e m w1 hB);have HRF:=zq (λe pos w1 hB=>Jb gr e 12 pos ai w1 hB);have HIF:=zq (λs o w1=>NG s o w1);have CJ:=zq (λx hx w1 (hb:But [gr] w w1)=>(hlies x hx).move hb λ_ hy=>.inl hy);have aow:=zq hagg;clear hB h hr hagg hlies;go_enter func118,ntmps118;go_wp2
 go_loopw [5,11] (λav iv wr=>∃(A1:Option Addr) (cap1 k:Nat) (E:Er),av=.slice A1 k cap1/\iv=↑k/\k<=n/\Hid (E=(((l.take k).flatMap λx=>eG x.t).foldl fU e))/\Hid (Ai 54 3 ac w gr A1 k cap1 ((l.take k).map λx=>kS x.t) E wr)) (λ_ iv _=>n-(intOf iv).toNat)
 case atStart=>exact⟨none,0,0,e,rfl,rfl,awJ _,zq rfl,kT⟩
 case round=>
  obtain⟨A1,cap1,k,E,rfl,rfl,hk,HEE,HS⟩:=hrel;by_cases hlt:k<n
  ·obtain⟨x,hx⟩:=(qV.out w (But.refl _ _)).at hlt;have gJ:=awG hx;obtain⟨b,off,rfl,hb,c0,c1,c2,c3,c4⟩:=Ms.cell (qV.out wr HS.out.rd.but) hx;unfold M.kv at c3;have akp:=aeW (aow.out x gJ);have akq:=(CJ.out x gJ w (But.refl _ _)).ms.le;have hcapm:x.cap<=9223372036854775807:=(CJ.out x gJ w (But.refl _ _)).ms.max;obtain⟨b',off',x0,x1,hxA,hx0,hx1,hKC⟩:=TQ (CJ.out x gJ w (But.refl _ _)) (n:=x.kids.length-2) ae;have l9:=zq hKC;have HK2:=zq (λx2 (h2:x.kids[2]?=some x2)=>OU (CJ.out x gJ w (But.refl _ _)) hxA h2);have HX0:=zq hx0;have S_:=zq hx1;have HX:=zq hx;rw[hxA]at c3;obtain⟨kn,hkn⟩:∃kn,kn=x.kids.length:=⟨_,rfl⟩
   rw[<-hkn]at c3 akq akp;have mg:=zq hkn;have hb8:Bx 101 wr.heap.size #[↑x.kind,↑x.s,↑x.n,.slice ↑(b',off') kn x.cap,↑x.pos] (wr.alloc (.cells #[↑x.kind,↑x.s,↑x.n,.slice ↑(b',off') kn x.cap,↑x.pos] 101)):=Bx.new _ _ _;have hEb:=Ev.alloc wr (.cells #[↑x.kind,↑x.s,↑x.n,.slice ↑(b',off') kn x.cap,↑x.pos] 101);have hsb:(wr.alloc (.cells #[↑x.kind,↑x.s,↑x.n,.slice ↑(b',off') kn x.cap,↑x.pos] 101)).heap.size=wr.heap.size+1:=aj;have HEB:=zq hEb;have i1:(0:Int)<=(k:Int):=ae;have i2:(k:Int)<(n:Int):=ae;have i3:(0:Int)<(kn:Int):=ae;have i4:(1:Int)<(kn:Int):=ae;have n0:¬kn=0:=ae;have hgw:gr<wr.heap.size:=HS.out.rd.bx.lt;have hww:=HS.out.rd.but.size;have Zr:b'<w.heap.size/\b'≠gr:=by
    have h1:=CJ.out x gJ w (But.refl _ _)
    cases h1 with
    | mk h1 h2 h3=>
     have:=h2 _ hxA;exact⟨this.2.1,by simpa using this.2.2⟩
   clear hx gJ hx0 hx1 hxA hKC hkn hb hEb;go_upto_region 5 with fail
   generalize zK:wr.alloc (.cells #[↑x.kind,↑x.s,↑x.n,.slice ↑(b',off') kn x.cap,↑x.pos] 101)=wA at*;clear zK c0 c1 c2 c3 c4;have HB8:=zq hb8;have HSB:=zq hsb;obtain⟨⟨d0,d1,d2,d3,d4⟩,_⟩:=hb8.five;have Y1:But [gr] w wA:=HS.out.rd.but.then (But.aW HEB.out);obtain⟨⟨k0,k1,k2,k3,k4⟩,j0,j1,j2,j3,j4⟩:=l9.out _ Y1;have hlA:=HB8.out.lt;have hszA:=Y1.size;generalize hgb:wr.heap.size=gb at*;clear hb8 hsb Y1;refine GH ed (λu=>But [gr] wA u) (JA gr (gb+1)) [5,13] (λp u=>Rb gr (if p=0 then E else fU E (bK x0.t)) u) 13 12 8 (BxA (gb+1) ⟨x0.s.toArray⟩ ⟨x1.s.toArray⟩ ⟨#[]⟩) [λv _=>v=.pointer ↑gr,λv _=>v=.pointer (some ⟨gb,3,none⟩),λv _=>v=.slice ↑(b',off') kn x.cap,λv _=>v=.pointer ↑(b',off'),λv _=>v=.agg ↑x0,λv _=>v=↑x0.s,λv _=>v=.pointer (some ⟨gb,3,none⟩),λv _=>v=.slice ↑(b',off') kn x.cap,λv _=>v=.pointer ↑(b',off'+5),λv _=>v=.pointer ↑(b',off'+5+1),λv _=>v=↑x1.s,λv _=>v=.agg #[↑x0.s,↑x1.s,.string ⟨#[]⟩],Qv (gb+1),λ_ _=>True]
    59 2 1 rfl ah ⟨az _,az _,az _,az _,az _,az _,az _,az _,az _,az _,az _,az _,Qv.mono _,eH,trivial⟩ ⟨λ_ _ _ _ h=>h,λ_ _ _ _ h=>h,λ_ _ _ _ h=>h,λ_ _ _ _ h=>h,λ_ _ _ _ h=>h,λ_ _ _ _ h=>h,λ_ _ _ _ h=>h,λ_ _ _ _ h=>h,λ_ _ _ _ h=>h,λ_ _ _ _ h=>h,λ_ _ _ _ h=>h,λ_ _ _ _ h=>h,Qv.jump _ _ ae,λ_ _ _ _ h=>h,trivial⟩ ah (λp u u' hE h=>h.ev hE) (λu u' hE h=>h.then (But.aW hE)) (But.refl _ _) (HS.out.rd.bx.ev HEB.out) ah (BxA.mono _ _ _ _) rfl rfl _ rfl ah ah ?_ ?_ ?_ ?_
   ·refine aJ 0 ?_ (aJ 1 ?_ (aJ 2 ?_ (aJ 3 ?_ (aJ 4 ?_ (cO 5 ai (aJ 6 ?_ (aJ 7 ?_ (aJ 8 ?_ (aJ 9 ?_ (aJ 10 ?_ (aJ 11 ?_ (aJ 12 ?_ (cO 13 ai (oD 14))))))))))))));exact aCr;exact aAv;refine aQ λa wq c=>⟨(ay rfl),.slice ↑(b',off') kn x.cap,?_,rfl⟩
    have bC:a.eval (.tmp 16)=.pointer (some ⟨gb,3,none⟩):=(c.new 1 16)
    exact aA6
    ·refine aQ λa wq c=>⟨(ay rfl),.pointer ↑(b',off'),?_,rfl⟩
     have bC:a.eval (.tmp 17)=.slice ↑(b',off') kn x.cap:=(c.new 2 17)
     have j_:a.eval (.const (.int .i64 0))=.int .i64 0:=rfl;generalize a.eval=ρ at bC j_|-;simp[execOp,bC,j_,go_sem,n0]
    ·refine aQ λa wq c=>⟨(ay rfl),.agg ↑x0,?_,rfl⟩
     have bC:a.eval (.tmp 18)=.pointer ↑(b',off'):=(c.new 3 18)
     have q0:=(c.inv.Ia (p:=⟨b',off',none⟩) (by show b'<_;omega) (by simp;exact Zr.2)).trans k0;have q1:=(c.inv.Ia (p:=⟨b',off'+1,none⟩) (by show b'<_;omega) (by simp;exact Zr.2)).trans k1;have q2:=(c.inv.Ia (p:=⟨b',off'+2,none⟩) (by show b'<_;omega) (by simp;exact Zr.2)).trans k2;have q3:=(c.inv.Ia (p:=⟨b',off'+3,none⟩) (by show b'<_;omega) (by simp;exact Zr.2)).trans k3;have q4:=(c.inv.Ia (p:=⟨b',off'+4,none⟩) (by show b'<_;omega) (by simp;exact Zr.2)).trans k4;generalize a.eval=ρ at bC|-;simp[execOp,bC,q0,q1,q2,q3,q4,go_sem]
    exact aAv;refine aQ λa wq c=>⟨(ay rfl),.slice ↑(b',off') kn x.cap,?_,rfl⟩
    have bC:a.eval (.tmp 21)=.pointer (some ⟨gb,3,none⟩):=(c.new 6 21)
    exact aA6
    ·refine aQ λa wq c=>⟨(ay rfl),.pointer ↑(b',off'+5),?_,rfl⟩
     have bC:a.eval (.tmp 22)=.slice ↑(b',off') kn x.cap:=(c.new 7 22)
     have j_:a.eval (.const (.int .i64 1))=.int .i64 1:=rfl;generalize a.eval=ρ at bC j_|-;simp[execOp,bC,j_,go_sem,i4]
    ·refine aQ λa wq c=>⟨(ay rfl),.pointer ↑(b',off'+5+1),?_,rfl⟩
     have bC:a.eval (.tmp 23)=.pointer ↑(b',off'+5):=(c.new 8 23)
     generalize a.eval=ρ at bC|-;simp[execOp,bC,go_sem]
    ·refine aQ λa wq c=>⟨(ay rfl),↑x1.s,?_,rfl⟩
     have bC:a.eval (.tmp 24)=.pointer ↑(b',off'+5+1):=(c.new 9 24)
     have hc:=(c.inv.Ia (p:=⟨b',off'+5+1,none⟩) (by show b'<_;omega) (by simp;exact Zr.2)).trans j1;generalize a.eval=ρ at bC|-;simp[execOp,bC,hc,go_sem]
    ·refine aQ λa wq c=>⟨(ay rfl),.agg #[↑x0.s,↑x1.s,.string ⟨#[]⟩],?_,rfl⟩
     have bC:a.eval (.tmp 20)=↑x0.s:=(c.new 5 20)
     have iO:a.eval (.tmp 25)=↑x1.s:=(c.new 10 25)
     generalize a.eval=ρ at bC iO|-;simp[execOp,bC,iO,go_sem]
    refine OQ λa wq c=>⟨(ay rfl),_,_,NK rfl,Ev.alloc _ _,c.inv.then (But.aW aB),⟨wq.heap.size,_,_,_,rfl,Bx.new _ _ _,by have:=c.inv.size;have:=HSB.out;omega⟩⟩
   refine aca 0 rfl ?_ (ab_ 1);refine nS λa wq c st=>⟨ay rfl,113,#[.pointer ↑gr,.agg ↑x0],?_,?_⟩
   rw[bT 113 _ _ rfl ah];have bC:a.eval (.tmp 15)=.pointer ↑gr:=(c.new 0 15)
   have iO:a.eval (.tmp 19)=.agg ↑x0:=(c.new 4 19)
   simp[bC,iO];refine(HRN.out x0 E wq st).mono ?_;rintro r wp ⟨rfl,hR⟩;exact⟨_,rfl,.inl hR.but,c.inv.then hR.but,hR.bx,rfl⟩
   ·refine⟨rfl,λa wq c st=>?_⟩;obtain⟨g_,z0,z1,z2,eg_,hB_,KR⟩:=(c.got 12 8 ah ah rfl:Qv _ _ _)
    have akt:a.eval (.tmp 26)=.agg #[↑x0.s,↑x1.s,.string ⟨#[]⟩]:=(c.new 11 26)
    obtain⟨⟨z0_,z1_,z2_⟩,y0_,y1_,y2_⟩:=hB_.three;refine⟨ay rfl,yf g_ ↑x0.s ↑x1.s (.string ⟨#[]⟩) wq,?_,.inr ⟨g_,_,_,_,KR,⟨_,_,_,hB_⟩,rfl⟩,c.inv.trans (ve _ _ _ _ _) (λy hy=>by simp at hy;subst hy;exact .inr (by have:=HSB.out;omega)),st.but (ve _ _ _ _ _) (by simp;omega),trivial,⟨g_,eg_,hB_.yf _ _ _,KR⟩⟩;generalize a.eval=ρ at eg_ akt|-;simp[execOp,eg_,akt,go_sem,z0_,z1_,z2_,y0_,y1_,y2_,yf]
   intro sl wB hI hold hnew hst qO;obtain⟨g8,f8,BA,hb8⟩:=qO;have f0:sl 0=.pointer ↑gr:=hold 0;have f1:sl 1=.slice ↑(b,off) n cap:=hold 1;have f2:_=undef:=hold 2;have f3:_=undef:=hold 3;have f4:sl 4=↑():=hold 4;have f5:sl 5=.slice A1 k cap1:=hold 5;have f6:_=undef:=hold 6;have f7:sl 7=.pointer ↑gb:=hold 7;have f9:sl 9=.slice ↑(b,off) n cap:=hold 9;have f10:sl 10=↑n:=hold 10;have f11:sl 11=↑k:=hold 11;have f12:sl 12=.bool true:=hold 12;have f13:sl 13=.pointer ↑(b,off+k*5):=hold 13;have f14:sl 14=.agg #[↑x.kind,↑x.s,↑x.n,.slice ↑(b',off') kn x.cap,↑x.pos]:=hold 14;have f27:sl 27=u27:=hold 27;have f28:sl 28=u28:=hold 28;have f29:sl 29=u29:=hold 29;have f30:sl 30=u30:=hold 30;have f31:sl 31=u31:=hold 31;have f32:sl 32=u32:=hold 32;have f33:sl 33=u33:=hold 33;have f34:sl 34=u34:=hold 34;have f35:sl 35=u35:=hold 35;have f36:sl 36=u36:=hold 36;have f37:sl 37=u37:=hold 37;have f38:sl 38=u38:=hold 38;have f39:sl 39=u39:=hold 39;have f40:sl 40=u40:=hold 40;have f41:sl 41=u41:=hold 41;have f42:sl 42=u42:=hold 42;have f43:sl 43=u43:=hold 43;have f44:sl 44=u44:=hold 44;have f45:sl 45=u45:=hold 45;have f46:sl 46=u46:=hold 46;have f47:sl 47=u47:=hold 47;have f48:sl 48=u48:=hold 48;have f49:sl 49=u49:=hold 49;have f50:sl 50=u50:=hold 50;have f51:sl 51=u51:=hold 51;have f52:sl 52=u52:=hold 52;have f53:sl 53=u53:=hold 53;have f54:sl 54=u54:=hold 54;have f55:sl 55=u55:=hold 55;have f56:sl 56=u56:=hold 56;have f57:sl 57=u57:=hold 57;have f58:_=undef:=hold 58;change Exit.then _ _ .normal ⟨_,_⟩ _;simp only[List.range,List.range.loop,List.map];simp only[f8,f0,f1,f2,f3,f4,f5,f6,f7,f9,f10,f11,f12,f13,f14,f27,f28,f29,f30,f31,f32,f33,f34,f35,f36,f37,f38,f39,f40,f41,f42,f43,f44,f45,f46,f47,f48,f49,f50,f51,f52,f53,f54,f55,f56,f57,f58];clear hold hnew;have kJ:iK gr (fU E (bK x0.t)) wA wB:=⟨hst,hI⟩
   have hLA:Ai 54 3 ac w gr A1 k cap1 ((l.take k).map λx=>kS x.t) E wA:=⟨HS.out.own.ev HEB.out,HS.out.len,HS.out.rd.ev HEB.out⟩
   have Ya:NL w gr A1 k cap1 ((l.take k).map λx=>kS x.t) (fU E (bK x0.t)) gb #[↑x.kind,↑x.s,↑x.n,.slice ↑(b',off') kn x.cap,↑x.pos] g8 #[↑x0.s,↑x1.s,.string ⟨#[]⟩] wB:=
    ⟨⟨hLA.owq kJ hgr,hLA.len,hLA.rd.then kJ⟩,HB8.out.but hI (by simp;omega),BA,ae,ae,ae,λg hg=>by have:=(HS.out.own.lt hg).2;omega⟩
   have Ar:=zq Ya;have jP:Hid ((l.take (k+1)).map (λx=>kS x.t)=(l.take k).map (λx=>kS x.t)++[kS x.t]/\((l.take (k+1)).flatMap λx=>eG x.t).foldl fU e=(eG x.t).foldl fU E):=zq (by
    obtain⟨hk2,e1⟩:=awz.1 HX.out;rw[awH hk2,e1,awM,ayf,axW,<-HEE.out];simp only[awI,awY,axS,List.flatMap_nil,ax2];refine⟨?_,?_⟩<;>first|rfl|trivial)
   have jd:=zq HS.out.len;clear hst hI kJ hLA Ya BA d0 d1 d2 d3 d4 k0 k1 k2 k3 k4 j0 j1 j2 j3 j4;obtain⟨⟨U8,U9,U_⟩,y7,y8,y9⟩:=Ar.out.ba.three;obtain⟨⟨d0,d1,d2,d3,d4⟩,_⟩:=Ar.out.bx.five;obtain⟨⟨k0,k1,k2,k3,k4⟩,j0,j1,j2,j3,j4⟩:=l9.out _ Ar.out.st.rd.but;rcases akp with h23|h23
   ·subst h23;have HAO:Hid (kS x.t=(x0.s,x1.s,[])):=zq (by unfold kS;rw[M.bD,Dn _ _ _ HX0.out,Dn _ _ _ S_.out,M.uK,M.uK,awD,<-mg.out];rfl);have HAE:Hid (eG x.t=[bK x0.t,if isFun x1.s false then (0,0) else (12,x1.pos),(0,0)]):=zq (by unfold eG;rw[M.bD,Dn _ _ _ HX0.out,Dn _ _ _ S_.out,M.uK,M.G6,awD,<-mg.out];rfl);have HI:=zq (HIF.out x1.s false);generalize isFun x1.s false=q at*
    cases q
    ·go_wp2_with (first
      | ((with_reducible refine(HI.out _).mono ?_);rintro r w1 ⟨rfl,aN⟩;have rV:=zq (Ar.out.ev aN);clear U8 U9 U_ y7 y8 y9 d0 d1 d2 d3 d4 k0 k1 k2 k3 k4 j0 j1 j2 j3 j4;obtain⟨⟨U8,U9,U_⟩,y7,y8,y9⟩:=rV.out.ba.three;obtain⟨⟨d0,d1,d2,d3,d4⟩,_⟩:=rV.out.bx.five;obtain⟨⟨k0,k1,k2,k3,k4⟩,j0,j1,j2,j3,j4⟩:=l9.out _ rV.out.st.rd.but)
      | ((with_reducible refine(HRF.out _ x1.pos _ rV.out.st.rd.bx).mono ?_);rintro r w2 ⟨rfl,hR⟩;have ED:=zq (rV.out.through hR hgr);clear hR U8 U9 U_ y7 y8 y9 d0 d1 d2 d3 d4 k0 k1 k2 k3 k4 j0 j1 j2 j3 j4;obtain⟨⟨U8,U9,U_⟩,y7,y8,y9⟩:=ED.out.ba.three;obtain⟨⟨d0,d1,d2,d3,d4⟩,_⟩:=ED.out.bx.five;obtain⟨⟨k0,k1,k2,k3,k4⟩,j0,j1,j2,j3,j4⟩:=l9.out _ ED.out.st.rd.but)
      | ((show wpList _ _ _ (⟨some 56,_,_,_,_,_⟩::_) _ _);refine aO (o:=⟨some 56,_,_,_,_,_⟩) rfl 29 (.tmp 53) (.tmp 55) rfl Ad Tryz.pz Tryz.Je rfl rfl (ED.out.st.own.ev (Ev.alloc w2 _)) ↑w2 1 1 [(x0.s,x1.s,[])] rfl (Sl.one (et:=54) Ad w2 (x0.s,x1.s,[]) _ rfl) (by rw[jd.out];simp;omega) (by rw[jd.out];simp;omega) (aw0 ED.out.st.rd.but.size (Ev.alloc w2 _).size) ?_;intro v2 w7 dY;obtain⟨A2,cap2,rfl,ST2⟩:=ED.out.st.next Ad (iK.of ED.out.st.rd.bx (Ev.alloc w2 _)) hgr dY))
     go_roundw
     case rel=>exact⟨A2,cap2,k+1,fU (fU E (bK x0.t)) (12,x1.pos),rfl,by go_num,ae,zq (by rw[jP.out.2,HAE.out];simp[yh]),zq (by rw[jP.out.1,HAO.out];exact ST2)⟩
     case measure=>simp[intOf];omega
    go_wp2_with (first
     | ((with_reducible refine(HI.out _).mono ?_);rintro r w1 ⟨rfl,aN⟩;have rV:=zq (Ar.out.ev aN);clear U8 U9 U_ y7 y8 y9 d0 d1 d2 d3 d4 k0 k1 k2 k3 k4 j0 j1 j2 j3 j4;obtain⟨⟨U8,U9,U_⟩,y7,y8,y9⟩:=rV.out.ba.three;obtain⟨⟨d0,d1,d2,d3,d4⟩,_⟩:=rV.out.bx.five;obtain⟨⟨k0,k1,k2,k3,k4⟩,j0,j1,j2,j3,j4⟩:=l9.out _ rV.out.st.rd.but)
     | ((show wpList _ _ _ (⟨some 56,_,_,_,_,_⟩::_) _ _);refine aO (o:=⟨some 56,_,_,_,_,_⟩) rfl 29 (.tmp 53) (.tmp 55) rfl Ad Tryz.pz Tryz.Je rfl rfl (rV.out.st.own.ev (Ev.alloc w1 _)) ↑w1 1 1 [(x0.s,x1.s,[])] rfl (Sl.one (et:=54) Ad w1 (x0.s,x1.s,[]) _ rfl) (by rw[jd.out];simp;omega) (by rw[jd.out];simp;omega) (aw0 rV.out.st.rd.but.size (Ev.alloc w1 _).size) ?_;intro v2 w7 dY;obtain⟨A2,cap2,rfl,ST2⟩:=rV.out.st.next Ad (iK.of rV.out.st.rd.bx (Ev.alloc w1 _)) hgr dY))
    go_roundw
    case rel=>exact⟨A2,cap2,k+1,fU E (bK x0.t),rfl,by go_num,ae,zq (by rw[jP.out.2,HAE.out];simp[yh]),zq (by rw[jP.out.1,HAO.out];exact ST2)⟩
    case measure=>simp[intOf];omega
   subst h23;obtain⟨x2,hx2⟩:∃x2,x.kids[2]?=some x2:=⟨_,awX (by have:=mg.out;omega)⟩
   have HX2:=zq hx2;have HK3:=zq (HK2.out x2 hx2);simp only[show 2*5=10 from rfl]at HK3;clear hx2;have i5:(3:Int)<=(x.cap:Int):=ae;have HAO:Hid (kS x.t=(x0.s,x1.s,x2.s)):=zq (by unfold kS;rw[M.bD,Dn _ _ _ HX0.out,Dn _ _ _ S_.out,M.uK,M.uK,awD,<-mg.out];rw[Dn _ _ _ HX2.out,M.uK];rfl);have HAE:Hid (eG x.t=[bK x0.t,if isFun x1.s true then (0,0) else (12,x1.pos),bK x2.t]):=zq (by unfold eG;rw[M.bD,Dn _ _ _ HX0.out,Dn _ _ _ S_.out,M.uK,M.G6,awD,<-mg.out];rw[Dn _ _ _ HX2.out];rfl);have HI:=zq (HIF.out x1.s true);generalize isFun x1.s true=q at*
   cases q
   ·have HNM:=zq (λe1 w9 hB9=>HRN.out x2 e1 w9 hB9);obtain⟨m0,m1,m2,m3,m4⟩:=HK3.out _ Ar.out.st.rd.but
    go_wp2_with (first
     | ((with_reducible refine(HI.out _).mono ?_);rintro r w1 ⟨rfl,aN⟩;have rV:=zq (Ar.out.ev aN);clear U8 U9 U_ y7 y8 y9 d0 d1 d2 d3 d4 k0 k1 k2 k3 k4 j0 j1 j2 j3 j4;obtain⟨⟨U8,U9,U_⟩,y7,y8,y9⟩:=rV.out.ba.three;obtain⟨⟨d0,d1,d2,d3,d4⟩,_⟩:=rV.out.bx.five;obtain⟨⟨k0,k1,k2,k3,k4⟩,j0,j1,j2,j3,j4⟩:=l9.out _ rV.out.st.rd.but;clear m0 m1 m2 m3 m4;obtain⟨m0,m1,m2,m3,m4⟩:=HK3.out _ rV.out.st.rd.but)
     | ((with_reducible refine(HRF.out _ x1.pos _ rV.out.st.rd.bx).mono ?_);rintro r w2 ⟨rfl,hR⟩;have ED:=zq (rV.out.through hR hgr);clear hR U8 U9 U_ y7 y8 y9 d0 d1 d2 d3 d4 k0 k1 k2 k3 k4 j0 j1 j2 j3 j4;obtain⟨⟨U8,U9,U_⟩,y7,y8,y9⟩:=ED.out.ba.three;obtain⟨⟨d0,d1,d2,d3,d4⟩,_⟩:=ED.out.bx.five;obtain⟨⟨k0,k1,k2,k3,k4⟩,j0,j1,j2,j3,j4⟩:=l9.out _ ED.out.st.rd.but;clear m0 m1 m2 m3 m4;obtain⟨m0,m1,m2,m3,m4⟩:=HK3.out _ ED.out.st.rd.but)
     | ((with_reducible refine(HNM.out _ _ ED.out.st.rd.bx).mono ?_);rintro r w3 ⟨rfl,hR⟩;have KT:=zq (ED.out.through hR hgr);clear hR U8 U9 U_ y7 y8 y9 d0 d1 d2 d3 d4 k0 k1 k2 k3 k4 j0 j1 j2 j3 j4;obtain⟨⟨U8,U9,U_⟩,y7,y8,y9⟩:=KT.out.ba.three;obtain⟨⟨d0,d1,d2,d3,d4⟩,_⟩:=KT.out.bx.five;obtain⟨⟨k0,k1,k2,k3,k4⟩,j0,j1,j2,j3,j4⟩:=l9.out _ KT.out.st.rd.but;clear m0 m1 m2 m3 m4;obtain⟨m0,m1,m2,m3,m4⟩:=HK3.out _ KT.out.st.rd.but)
     | ((show wpList _ _ _ (⟨some 56,_,_,_,_,_⟩::_) _ _);have Qw:=zq (KT.out.store2 ↑x2.s);refine aO (o:=⟨some 56,_,_,_,_,_⟩) rfl 29 (.tmp 53) (.tmp 55) rfl Ad Tryz.pz Tryz.Je rfl rfl (Qw.out.st.own.ev aB) ↑w3 1 1 [(x0.s,x1.s,x2.s)] rfl (by have:=Sl.one (et:=54) Ad (w3.setCell ⟨g8,2,none⟩ ↑x2.s) (x0.s,x1.s,x2.s) #[↑x0.s,↑x1.s,↑x2.s] rfl;simpa[World.setCell] using this) (by rw[jd.out];simp;omega) (by rw[jd.out];simp;omega) (aw0 Qw.out.st.rd.but.size aB.size) ?_;intro v2 w7 dY;obtain⟨A2,cap2,rfl,ST2⟩:=Qw.out.st.next Ad (iK.of Qw.out.st.rd.bx aB) hgr dY))
    go_roundw
    case rel=>exact⟨A2,cap2,k+1,fU (fU (fU E (bK x0.t)) (12,x1.pos)) (bK x2.t),rfl,by go_num,ae,zq (by rw[jP.out.2,HAE.out];simp),zq (by rw[jP.out.1,HAO.out];exact ST2)⟩
    case measure=>simp[intOf];omega
   have HNM:=zq (λe1 w9 hB9=>HRN.out x2 e1 w9 hB9);obtain⟨m0,m1,m2,m3,m4⟩:=HK3.out _ Ar.out.st.rd.but
   go_wp2_with (first
    | ((with_reducible refine(HI.out _).mono ?_);rintro r w1 ⟨rfl,aN⟩;have rV:=zq (Ar.out.ev aN);clear U8 U9 U_ y7 y8 y9 d0 d1 d2 d3 d4 k0 k1 k2 k3 k4 j0 j1 j2 j3 j4;obtain⟨⟨U8,U9,U_⟩,y7,y8,y9⟩:=rV.out.ba.three;obtain⟨⟨d0,d1,d2,d3,d4⟩,_⟩:=rV.out.bx.five;obtain⟨⟨k0,k1,k2,k3,k4⟩,j0,j1,j2,j3,j4⟩:=l9.out _ rV.out.st.rd.but;clear m0 m1 m2 m3 m4;obtain⟨m0,m1,m2,m3,m4⟩:=HK3.out _ rV.out.st.rd.but)
    | ((with_reducible refine(HNM.out _ _ rV.out.st.rd.bx).mono ?_);rintro r w3 ⟨rfl,hR⟩;have KT:=zq (rV.out.through hR hgr);clear hR U8 U9 U_ y7 y8 y9 d0 d1 d2 d3 d4 k0 k1 k2 k3 k4 j0 j1 j2 j3 j4;obtain⟨⟨U8,U9,U_⟩,y7,y8,y9⟩:=KT.out.ba.three;obtain⟨⟨d0,d1,d2,d3,d4⟩,_⟩:=KT.out.bx.five;obtain⟨⟨k0,k1,k2,k3,k4⟩,j0,j1,j2,j3,j4⟩:=l9.out _ KT.out.st.rd.but;clear m0 m1 m2 m3 m4;obtain⟨m0,m1,m2,m3,m4⟩:=HK3.out _ KT.out.st.rd.but)
    | ((show wpList _ _ _ (⟨some 56,_,_,_,_,_⟩::_) _ _);have Qw:=zq (KT.out.store2 ↑x2.s);refine aO (o:=⟨some 56,_,_,_,_,_⟩) rfl 29 (.tmp 53) (.tmp 55) rfl Ad Tryz.pz Tryz.Je rfl rfl (Qw.out.st.own.ev aB) ↑w3 1 1 [(x0.s,x1.s,x2.s)] rfl (by have:=Sl.one (et:=54) Ad (w3.setCell ⟨g8,2,none⟩ ↑x2.s) (x0.s,x1.s,x2.s) #[↑x0.s,↑x1.s,↑x2.s] rfl;simpa[World.setCell] using this) (by rw[jd.out];simp;omega) (by rw[jd.out];simp;omega) (aw0 Qw.out.st.rd.but.size aB.size) ?_;intro v2 w7 dY;obtain⟨A2,cap2,rfl,ST2⟩:=Qw.out.st.next Ad (iK.of Qw.out.st.rd.bx aB) hgr dY))
   go_roundw
   case rel=>exact⟨A2,cap2,k+1,fU (fU E (bK x0.t)) (bK x2.t),rfl,by go_num,ae,zq (by rw[jP.out.2,HAE.out];simp[yh]),zq (by rw[jP.out.1,HAO.out];exact ST2)⟩
   case measure=>simp[intOf];omega
  obtain rfl:k=n:=ae;have HF:Hid ((l.take k).map (λx=>kS x.t)=l.map (λx=>kS x.t)/\E=fU e (aU (l.flatMap λx=>eG x.t))):=zq (by
   have h1:=HEE.out;rw[awS (by rw[HL.out];exact awC _)]at h1|-;exact⟨rfl,by rw[h1,jB]⟩)
  go_wp2;go_ret;obtain⟨x,hxv,iH,PG⟩:=HS.out.own.sle Ad;rw[hxv];exact⟨x,rfl,by rw[iH,HF.out.1],PG,HF.out.2▸HS.out.rd⟩
theorem Tryz.nT:(Tryz.prog.info? 32).map (λi=>(i.zero,i.size,i.bytes))=some (some (.agg ↑Zz.b),8,168):=ah
theorem Tryz.bY:(Tryz.prog.info? 32).map (·.size)=some 8:=ah
def rW(gr:Nat)(e:Er)(t:T)(w:ak)(r:Ending)(w':ak):Prop:=∃p:PM,r=.returned (.agg ↑p)/\p.p=pPlan t/\Qx w.heap.size [] w' p/\iK gr (fU e (bF t)) w w'
structure WA(w0:ak)(gr:Nat)(A:Option Addr)(n cap:Nat)(L:List PM)(e:Er)(w:ak):Prop where
 st:Ai 32 8 pc w0 gr A n cap L e w
 lies:∀x∈L,Qx w0.heap.size (foot (.slice A n cap)) w x
theorem WA.start{w0:ak}{gr:Nat}{e:Er}(hB:Rb gr e w0):WA w0 gr none 0 0 [] e w0:=⟨Ai.start _ _ _ hB,λx hx=>by cases hx⟩
theorem WA.next{w0 wr wp wq w2:ak}{gr n cap:Nat}{A:Option Addr}{L:List PM}{e e':Er}{x:PM}{v2:au}(h:WA w0 gr A n cap L e wr)(hr:iK gr e' wr wq)(hg:gr<w0.heap.size)(hx:Qx wp.heap.size [] wq x)(hp:wr.heap.size<=wp.heap.size)(hA:mf 32 8 pc w0.heap.size wq (.slice A n cap) (L++[x]) v2 w2):
  ∃A2 cap2,v2=.slice A2 (n+1) cap2/\WA w0 gr A2 (n+1) cap2 (L++[x]) e' w2:=by
 obtain⟨A2,cap2,hv,hS⟩:=h.st.next sZ hr hg hA
 refine⟨A2,cap2,hv,hS,λy hy=>?_⟩;subst hv;have hy2:Qx w0.heap.size (foot (.slice A n cap)) wq y:=by rcases awV.1 hy with h1|h1;refine((h.lies y h1).less (K':=gr::foot (.slice A n cap)) λz hz=>?_).move (hr.but.wide λz hz=>.inl (by simp at hz;subst hz;exact awL ..)) λz hz=>.inl (awK _ hz);rcases awN.1 hz with rfl|hz;exact .inr (.inl hg);exact .inl hz;simp at h1;subst h1;refine(hx.less λk hk=>.inr (.inl ?_)).low (aw0 h.st.rd.but.size hp);exact awU (h.st.own.lt (aG.1 hk)).2 hp
 refine hy2.move hA.2.1 λz hz=>?_;rcases hA.2.2 z (aG.1 hz) with h2|h2;exact .inl (aG.2 h2);exact .inr (.inr h2)
theorem yw(gr:Nat)(e:Er)(l:List M)(A:Option Addr)(n cap b0:Nat)(w:ak)(hB:Rb gr e w)(h:Ms w A n cap l)(hr:U6 b0 [gr] w A)(hn:n<=10000)(hp:∀x∈l,∀w1 e1,But [gr] w w1->Rb gr e1 w1->Calls ax 58 #[.pointer ↑gr,.agg ↑x] w1 (rW gr e1 x.t w1)):
  Calls ax 115 #[.pointer ↑gr,.slice A n cap] w λr w'=>∃x:fH PM,r=.returned x.v/\x.l.map PM.p=l.map (λx=>pPlan x.t)/\bI 8 pc w.heap.size [] w' x/\(∀k∈x.l,Qx w.heap.size [] w' k)/\iK gr (fU e (aU (l.map λx=>bF x.t))) w w':=by
 have hcl:=h.le;have hcm:=h.max;have HL:=zq h.len;have hgr:=hB.lt;have kT:=zq (WA.start hB);have qV:=zq (λw1 (hb:But [gr] w w1)=>h.but hb λad e=>(hr ad e).2.2);unfold rW at hp;have HP:=zq hp;clear hB h hr hp;go_enter func115,ntmps115;go_wp2
 go_loopw [5,10] (λav iv wr=>∃(A1:Option Addr) (cap1 k:Nat) (E:Er) (L:List PM),av=.slice A1 k cap1/\iv=↑k/\k<=n/\Hid (L.map PM.p=(l.take k).map λx=>pPlan x.t)/\Hid (E=(((l.take k).map λx=>bF x.t).foldl fU e))/\Hid (WA w gr A1 k cap1 L E wr)) (λ_ iv _=>n-(intOf iv).toNat)
 case atStart=>exact⟨none,0,0,e,[],rfl,rfl,awJ _,zq rfl,zq rfl,kT⟩
 case round=>
  obtain⟨A1,cap1,k,E,L,rfl,rfl,hk,uf,HEE,HS⟩:=hrel;by_cases hlt:k<n
  ·obtain⟨x,hx⟩:=(qV.out w (But.refl _ _)).at hlt;obtain⟨b,off,rfl,hb,c0,c1,c2,c3,c4⟩:=Ms.cell (qV.out wr HS.out.st.rd.but) hx;unfold M.kv at c3;have jP:Hid ((l.take (k+1)).map (λx=>pPlan x.t)=(l.take k).map (λx=>pPlan x.t)++[pPlan x.t]/\((l.take (k+1)).map λx=>bF x.t).foldl fU e=fU E (bF x.t)):=zq (by
    obtain⟨hk2,e1⟩:=awz.1 hx;rw[awH hk2,e1,awM,awM,axW,<-HEE.out];exact⟨rfl,rfl⟩)
   have HN:=zq (HP.out x (awG hx) (wr.alloc (.cells ↑x 101)) E (HS.out.st.rd.but.then (But.aW aB)) (HS.out.st.rd.bx.ev aB));have jd:=zq HS.out.st.len;have i1:(0:Int)<=(k:Int):=ae;have i2:(k:Int)<(n:Int):=ae;clear hx
   go_wp2_with (first
    | ((with_reducible refine(HN.out).mono ?_);rintro r w1 ⟨p,rfl,hpt,hpl,hR⟩;have HPT:=zq hpt;have HPL:=zq (hpl.ev (Ev.alloc w1 (.cells ↑p 32)));have HR:=zq ((⟨hR.bx,(But.aW (Ev.alloc wr (.cells ↑x 101))).then hR.but⟩:iK gr _ wr w1).ev (Ev.alloc w1 (.cells ↑p 32)));clear hR hpt hpl)
    | ((show wpList _ _ _ (⟨some 19,_,_,_,_,_⟩::_) _ _);refine aO (o:=⟨some 19,_,_,_,_,_⟩) rfl 30 (.tmp 14) (.tmp 18) rfl sZ underlying30 Tryz.nT rfl rfl (HS.out.st.owq HR.out hgr) (some ⟨↑w1,0,none⟩) 1 1 [p] rfl (Sl.one (et:=32) sZ w1 p _ rfl) (by rw[jd.out];simp;omega) (by rw[jd.out];simp;omega) (HS.out.st.size HR.out) ?_;intro v2 w2 dY;obtain⟨A2,cap2,rfl,ST2⟩:=HS.out.next HR.out hgr HPL.out aj dY))
   go_roundw
   case rel=>exact⟨A2,cap2,k+1,_,_,rfl,by go_num,ae,zq (by rw[awM,uf.out,jP.out.1,awI,awY,HPT.out]),zq jP.out.2.symm,zq ST2⟩
   case measure=>simp[intOf];omega
  obtain rfl:k=n:=ae;have HF:Hid ((l.take k).map (λx=>pPlan x.t)=l.map (λx=>pPlan x.t)/\E=fU e (aU (l.map λx=>bF x.t))):=zq (by
   have h1:=HEE.out;rw[awS (by rw[HL.out];exact awC _)]at h1|-;exact⟨rfl,by rw[h1,jB]⟩)
  go_wp2;go_ret;obtain⟨x,hxv,iH,PG⟩:=HS.out.st.own.sle sZ;rw[hxv];exact⟨x,rfl,by rw[iH,uf.out,HF.out.1],PG,λy hy=>(HS.out.lies y (by rwa [iH]at hy)).less (λz hz=>by cases hz),HF.out.2▸HS.out.st.rd⟩
def ExF(base:Nat)(t:T)(v:au)(w:ak):Prop:=∃x:M,v=.agg ↑(x,())/\x.t=t/\Lx base [] w x
def XsF(base:Nat)(ts:List T)(v:au)(w:ak):Prop:=∃X:fH M,v=.slice X.A X.l.length X.cap/\X.l.map M.t=ts/\bI 4 ec base [] w X/\∀x∈X.l,Lx base [] w x
def RI(base:Nat)(ns:List By)(v:au)(w:ak):Prop:=∃X:fH By,v=.slice X.A X.l.length X.cap/\X.l=ns/\bI 1 sc base [] w X
def AsF(base:Nat)(as_:List Ag)(v:au)(w:ak):Prop:=∃X:fH Ag,v=.slice X.A X.l.length X.cap/\X.l=as_/\bI 3 ac base [] w X
def RJ(base:Nat)(ps:List Pl)(v:au)(w:ak):Prop:=∃X:fH PM,v=.slice X.A X.l.length X.cap/\X.l.map PM.p=ps/\bI 8 pc base [] w X/\∀k∈X.l,Qx base [] w k
def RN(base:Nat)(p:Pl)(v:au)(w:ak):Prop:=∃m:PM,v=.agg ↑m/\m.p=p/\Qx base [] w m
theorem GI{base:Nat}{K:List Nat}{w w':ak}{x:M}(h:Lx base [] w x)(hb:But K w w')(hK:∀k∈K,k<base):Lx base [] w' x:=(h.less (K':=K) λk hk=>.inr (.inl (hK k hk))).move hb λk hk=>by cases hk
theorem lW{base:Nat}{K:List Nat}{w w':ak}{x:PM}(h:Qx base [] w x)(hb:But K w w')(hK:∀k∈K,k<base):Qx base [] w' x:=(h.less (K':=K) λk hk=>.inr (.inl (hK k hk))).move hb λk hk=>by cases hk
theorem qx{α:Type}{k:Nat}{enc:α->List au}{base:Nat}{K:List Nat}{w w':ak}{x:fH α}(h:bI k enc base [] w x)(hb:But K w w')(hK:∀k∈K,k<base):bI k enc base [] w' x:=
 (h.move (K':=K) (But.refl _ _) λk hk=>.inr (.inl (hK k hk))).move hb λk hk=>by cases hk
theorem ExF.old{base:Nat}{t:T}{K:List Nat}(hK:∀k∈K,k<base):∀v w w',But K w w'->ExF base t v w->ExF base t v w':=λv w w' hb ⟨x,e,ht,hL⟩=>⟨x,e,ht,GI hL hb hK⟩
theorem XsF.old{base:Nat}{ts:List T}{K:List Nat}(hK:∀k∈K,k<base):∀v w w',But K w w'->XsF base ts v w->XsF base ts v w':=λv w w' hb ⟨x,e,ht,hS,hL⟩=>⟨x,e,ht,qx hS hb hK,λy hy=>GI (hL y hy) hb hK⟩
theorem RI.old{base:Nat}{ns:List By}{K:List Nat}(hK:∀k∈K,k<base):∀v w w',But K w w'->RI base ns v w->RI base ns v w':=λv w w' hb ⟨x,e,ht,hS⟩=>⟨x,e,ht,qx hS hb hK⟩
theorem AsF.old{base:Nat}{ns:List Ag}{K:List Nat}(hK:∀k∈K,k<base):∀v w w',But K w w'->AsF base ns v w->AsF base ns v w':=λv w w' hb ⟨x,e,ht,hS⟩=>⟨x,e,ht,qx hS hb hK⟩
theorem RJ.old{base:Nat}{ps:List Pl}{K:List Nat}(hK:∀k∈K,k<base):∀v w w',But K w w'->RJ base ps v w->RJ base ps v w':=λv w w' hb ⟨x,e,ht,hS,hL⟩=>⟨x,e,ht,qx hS hb hK,λy hy=>lW (hL y hy) hb hK⟩
theorem RN.old{base:Nat}{p:Pl}{K:List Nat}(hK:∀k∈K,k<base):∀v w w',But K w w'->RN base p v w->RN base p v w':=λv w w' hb ⟨x,e,ht,hS⟩=>⟨x,e,ht,lW hS hb hK⟩
theorem GK{base:Nat}:∀k∈([]:List Nat),k<base:=λk hk=>by cases hk
theorem ExF.mono(base:Nat)(t:T):ru (ExF base t):=λv w w' hE h=>ExF.old GK v w w' (But.aW hE) h
theorem XsF.mono(base:Nat)(ts:List T):ru (XsF base ts):=λv w w' hE h=>XsF.old GK v w w' (But.aW hE) h
theorem RI.mono(base:Nat)(ns:List By):ru (RI base ns):=λv w w' hE h=>RI.old GK v w w' (But.aW hE) h
theorem AsF.mono(base:Nat)(ns:List Ag):ru (AsF base ns):=λv w w' hE h=>AsF.old GK v w w' (But.aW hE) h
theorem RJ.mono(base:Nat)(ps:List Pl):ru (RJ base ps):=λv w w' hE h=>RJ.old GK v w w' (But.aW hE) h
theorem RN.mono(base:Nat)(p:Pl):ru (RN base p):=λv w w' hE h=>RN.old GK v w w' (But.aW hE) h
def iP(g:Nat)(v0 v1 v2 v3 v4 v5 v6 v7:au)(w:ak):ak:=(((kQ g v0 v1 v2 v3 v4 w).setCell ⟨g,5,none⟩ v5).setCell ⟨g,6,none⟩ v6).setCell ⟨g,7,none⟩ v7
theorem bH(g:Nat)(v0 v1 v2 v3 v4 v5 v6 v7:au)(w:ak):(((((((w.setCell ⟨g,0,none⟩ v0).setCell ⟨g,1,none⟩ v1).setCell ⟨g,2,none⟩ v2).setCell ⟨g,3,none⟩ v3).setCell ⟨g,4,none⟩ v4).setCell ⟨g,5,none⟩ v5).setCell ⟨g,6,none⟩ v6).setCell ⟨g,7,none⟩ v7=iP g v0 v1 v2 v3 v4 v5 v6 v7 w:=rfl
theorem dw(g:Nat)(v0 v1 v2 v3 v4 v5 v6 v7:au)(w:ak):But [g] w (iP g v0 v1 v2 v3 v4 v5 v6 v7 w):=
 (((bU g v0 v1 v2 v3 v4 w).then (But.setCell ⟨g,5,none⟩ _ aj)).then (But.setCell ⟨g,6,none⟩ _ aj)).then (But.setCell ⟨g,7,none⟩ _ aj)
theorem Bx.iP{T:TypeId}{g:Nat}{w:ak}{u0 u1 u2 u3 u4 u5 u6 u7:au}(h:Bx T g #[u0,u1,u2,u3,u4,u5,u6,u7] w)(v0 v1 v2 v3 v4 v5 v6 v7:au):Bx T g #[v0,v1,v2,v3,v4,v5,v6,v7] (iP g v0 v1 v2 v3 v4 v5 v6 v7 w):=by have:=(((((((h.set 0 v0).set 1 v1).set 2 v2).set 3 v3).set 4 v4).set 5 v5).set 6 v6).set 7 v7;rw[show (((((((((#[u0,u1,u2,u3,u4,u5,u6,u7]:Array au).setIfInBounds 0 v0).setIfInBounds 1 v1).setIfInBounds 2 v2).setIfInBounds 3 v3).setIfInBounds 4 v4).setIfInBounds 5 v5).setIfInBounds 6 v6).setIfInBounds 7 v7)=#[v0,v1,v2,v3,v4,v5,v6,v7] by simp]at this;exact this
theorem Bx.eight{T:TypeId}{g:Nat}{w:ak}{v0 v1 v2 v3 v4 v5 v6 v7:au}(h:Bx T g #[v0,v1,v2,v3,v4,v5,v6,v7] w):
  (w.cell? ⟨g,0,none⟩=some v0/\w.cell? ⟨g,1,none⟩=some v1/\w.cell? ⟨g,2,none⟩=some v2/\w.cell? ⟨g,3,none⟩=some v3/\w.cell? ⟨g,4,none⟩=some v4/\w.cell? ⟨g,5,none⟩=some v5/\w.cell? ⟨g,6,none⟩=some v6/\w.cell? ⟨g,7,none⟩=some v7)/\
  (w.frozen? ⟨g,0,none⟩=false/\w.frozen? ⟨g,1,none⟩=false/\w.frozen? ⟨g,2,none⟩=false/\w.frozen? ⟨g,3,none⟩=false/\w.frozen? ⟨g,4,none⟩=false/\w.frozen? ⟨g,5,none⟩=false/\w.frozen? ⟨g,6,none⟩=false/\w.frozen? ⟨g,7,none⟩=false):=
 ⟨⟨h.cell 0,h.cell 1,h.cell 2,h.cell 3,h.cell 4,h.cell 5,h.cell 6,h.cell 7⟩,h.frozen 0,h.frozen 1,h.frozen 2,h.frozen 3,h.frozen 4,h.frozen 5,h.frozen 6,h.frozen 7⟩
theorem xh(w:ak)(c0 c1 c2 c3 c4:au):∃w0,(w.alloc (.cells #[c0,c1,c2,c3,c4] 101)).alloc (.cells ↑Zz.b 32)=w0/\Ev w w0/\Bx 101 w.heap.size #[c0,c1,c2,c3,c4] w0/\Bx 32 (w.heap.size+1) ↑Zz.b w0/\w0.heap.size=w.heap.size+2:=by
 have hB:Bx 32 (w.heap.size+1) ↑Zz.b ((w.alloc (.cells #[c0,c1,c2,c3,c4] 101)).alloc (.cells ↑Zz.b 32)):=by have:=Bx.new 32 ↑Zz.b (w.alloc (.cells #[c0,c1,c2,c3,c4] 101));simpa using this
 exact⟨_,rfl,(Ev.alloc w _).trans aB,(Bx.new 101 #[c0,c1,c2,c3,c4] w).ev aB,hB,aj⟩
def nU(l:List T)(w:ak)(e:Ending)(w':ak):Prop:=∃A n cap L,e=.returned (.slice A n cap)/\lX w A n cap L w'/\L.map M.t=l
theorem lX.start(w:ak):lX w none 0 0 [] w:=⟨Ow.nil_ w,rfl,(λx hx=>by cases hx),Ev.refl w⟩
theorem lX.on{w0 w w':ak}{A:Option Addr}{n cap:Nat}{L:List M}(h:lX w0 A n cap L w)(hE:Ev w w'):lX w0 A n cap L w':=⟨h.own.ev hE,h.len,λx hx=>(h.lies x hx).ev hE,h.ev.trans hE⟩
theorem oH(A:Option Addr)(n cap:Nat)(w:ak):
  Calls ax 103 #[.slice A n cap] w λe w'=>e=.returned (.agg #[.int .i64 1,.string ⟨#[]⟩,.int .i64 0,.slice A n cap,.int .i64 0])/\Ev w w':=by
 go_enter func103,ntmps103;go_wp2;(try simp only[Exit.inBlock,Exit.then]);refine ayr (aT rfl _ _ _ _ _ rfl (Bx.new 101 #[.int .i64 1,.string ⟨#[]⟩,.int .i64 0,.slice A n cap,.int .i64 0] w) underlying101 rfl Tryz.iV) rfl ?_;exact⟨rfl,Ev.alloc w _⟩
theorem lu(l:List By)(A:Option Addr)(n cap:Nat)(w:ak)(h:Ss w A n cap l)(hn:n<=100000):
  Calls ax 100 #[.slice A n cap] w (nU (l.map aS) w):=by
 have hcl:=h.le;have hcm:=h.max;have HL:=zq h.len;have qV:=zq h;have kT:=zq (lX.start w);unfold nU;clear h;go_enter func100,ntmps100;go_wp2
 go_loopw [3,8] (λav iv wr=>∃(A1:Option Addr) (cap1 k:Nat) (L:List M),av=.slice A1 k cap1/\iv=↑k/\k<=n/\Hid (L.map M.t=(l.take k).map aS)/\Hid (lX w A1 k cap1 L wr)) (λ_ iv _=>n-(intOf iv).toNat)
 case atStart=>exact⟨none,0,0,[],rfl,rfl,awJ _,zq rfl,kT⟩
 case round=>
  obtain⟨A1,cap1,k,L,rfl,rfl,hk,sH,HS⟩:=hrel;by_cases hlt:k<n
  ·obtain⟨x,hx⟩:=qV.out.at hlt;obtain⟨b,off,rfl,hb,hc⟩:=(qV.out.ev HS.out.ev).rd ae;have c0:=hc k x hx 0 _ rfl;simp only[ayj,aw2]at c0;have jP:Hid ((l.take (k+1)).map aS=(l.take k).map aS++[aS x]):=zq (by
    obtain⟨hk2,e1⟩:=awz.1 hx;rw[awH hk2,e1,awM];rfl)
   have uf:=zq HS.out.len;have i1:(0:Int)<=(k:Int):=ae;have i2:(k:Int)<(n:Int):=ae;clear hx hc
   go_wp2_with (first
    | ((show wpList _ _ _ (⟨some 16,_,_,_,_,_⟩::_) _ _);refine aO (o:=⟨some 16,_,_,_,_,_⟩) rfl 99 (.tmp 12) (.tmp 15) rfl ik underlying99 Tryz.infoTree rfl rfl (HS.out.own.ev (Ev.alloc wr _)) ↑wr 1 1 [.mk 2 x 0 none 0 [] 0] rfl (Sl.one (et:=101) ik wr (.mk 2 x 0 none 0 [] 0) _ rfl) (by rw[uf.out];simp;omega) (by rw[uf.out];simp;omega) (HS.out.ev.trans (Ev.alloc wr _)).size ?_;intro v2 w2 dY;obtain⟨A2,cap2,rfl,ST2⟩:=HS.out.next (Ev.alloc wr _) (oG _ _ _ _ _ _ _) dY))
   go_roundw
   case rel=>exact⟨A2,cap2,k+1,_,rfl,by go_num,ae,zq (by rw[jP.out,awM,sH.out];rfl),zq ST2⟩
   case measure=>simp[intOf];omega
  obtain rfl:k=n:=ae;have HF:Hid (L.map M.t=l.map aS):=zq (by
   have h1:=sH.out;rwa [awS (by rw[HL.out];exact awC _)]at h1)
  go_wp2;go_ret;exact⟨A1,_,cap1,L,rfl,HS.out,HF.out⟩
theorem ahQ(w:ak)(c0 c1 c2:au):∃w0,(w.alloc (.cells #[c0,c1,c2] 54)).alloc (.cells ↑Zz.a 101)=w0/\Ev w w0/\Bx 54 w.heap.size #[c0,c1,c2] w0/\Bx 101 (w.heap.size+1) ↑Zz.a w0:=by
 have hB:Bx 101 (w.heap.size+1) ↑Zz.a ((w.alloc (.cells #[c0,c1,c2] 54)).alloc (.cells ↑Zz.a 101)):=by have:=Bx.new 101 ↑Zz.a (w.alloc (.cells #[c0,c1,c2] 54));simpa using this
 exact⟨_,rfl,(Ev.alloc w _).trans aB,(Bx.new 54 #[c0,c1,c2] w).ev aB,hB⟩
theorem Ss.made(w:ak)(l:List By)(cs:Array au)(h:cs.toList=cl sc l)(hl:l.length<=1000000):Ss (w.alloc (.cells cs 9)) ↑w l.length l.length l:=by
 obtain⟨A,cap,hv,hS,_⟩:=(Ow.made (et:=9) (base:=w.heap.size) qY w l cs h (awC _) hl).form qY;injection hv with h1 _ h3
 subst h1 h3;exact hS
theorem ay_(h:U:=by have hbl:=HB.out.lt;refine⟨.mk 1 [] 0 A1 cap1 L 0,by simp only[M.kids,M.kind,M.s,M.n,M.A,M.cap,M.pos];rw[<-hnl];rfl,by simp only[M.t,M.jQ];rw[sH.out];rfl,?_,HE.out.trans ((((Ev.alloc w0 _).trans HK.out.ev).trans lH.out)) |>.box (bU _ _ _ _ _ _ _) ae⟩;exact(((hlx.ev lH.out).less (K':=[w.heap.size+1]) λk hk=>by simp at hk;subst hk;exact .inr (.inl ae)).move (bU _ _ _ _ _ _ _) λk hk=>by cases hk).low ae):U:=h
theorem WB(a:Ag)(w:ak):Calls ax 104 #[.agg #[.string ⟨a.1.toArray⟩,.string ⟨a.2.1.toArray⟩,.string ⟨a.2.2.toArray⟩]] w (gB (fK a) w):=by
 obtain⟨s0,s1,s2⟩:=a;obtain⟨w0,hw0,aV,hX,hB⟩:=ahQ w ↑s0 ↑s1 ↑s2;obtain⟨⟨c0,c1,c2⟩,_⟩:=hX.three;have HB:=zq hB;have HE:=zq aV;have Va:=zq (λA n cap w1=>oH A n cap w1);unfold gB;clear hX hB aV;simp only;by_cases hs:s2=[]
 ·subst hs;have HR:Hid (fK (s0,s1,[])=dG ([s0,s1].map aS)):=zq rfl;have KU:Calls ax 100 #[.slice (some ⟨↑w0,0,none⟩) 2 2] (w0.alloc (.cells #[.string ⟨s0.toArray⟩,.string ⟨s1.toArray⟩] 9)) (nU ([s0,s1].map aS) (w0.alloc (.cells #[.string ⟨s0.toArray⟩,.string ⟨s1.toArray⟩] 9))):=lu [s0,s1] _ _ _ _ (Ss.made w0 [s0,s1] _ rfl aj) aj;unfold nU at KU;have DV:=zq KU;clear KU;rw[HR.out];go_enter func104,ntmps104
  go_wp2_with (first
   | ((with_reducible refine DV.out.mono ?_);rintro e w1 ⟨A1,n1,cap1,L,rfl,hK,TU⟩;have HK:=zq hK;have sH:=zq TU;clear hK TU)
   | ((with_reducible refine(Va.out _ _ _ _).mono ?_);rintro e w2 ⟨rfl,bM⟩;have lH:=zq bM;have jV:=zq (HB.out.ev (((Ev.alloc w0 _).trans HK.out.ev).trans bM));obtain⟨⟨d0,d1,d2,d3,d4⟩,r0,r1,r2,r3,r4⟩:=jV.out.five;clear bM))
  (try simp only[Exit.inBlock,Exit.then]);rw[dE];refine ayr (aT rfl _ _ _ _ _ rfl (jV.out.kQ _ _ _ _ _) underlying101 rfl Tryz.iV) rfl ?_;obtain⟨hlx,hnl⟩:=HK.out.done;have hsz:=HE.out.size;have Zt:=(Ev.alloc w0 (.cells #[↑s0,↑s1] 9)).size;exact ay_
 have he:List.isEmpty s2=false:=by cases s2 with|nil=>exact absurd rfl hs|cons _ _=>rfl
 have HR:Hid (fK (s0,s1,s2)=dG ([s0,s1,s2].map aS)):=zq (by
  unfold fK;rw[show s2.isEmpty=false by cases s2 with|nil=>exact absurd rfl hs|cons _ _=>rfl];rfl)
 have KU:Calls ax 100 #[.slice (some ⟨↑w0,0,none⟩) 3 3] (w0.alloc (.cells #[.string ⟨s0.toArray⟩,.string ⟨s1.toArray⟩,.string ⟨s2.toArray⟩] 9)) (nU ([s0,s1,s2].map aS) (w0.alloc (.cells #[.string ⟨s0.toArray⟩,.string ⟨s1.toArray⟩,.string ⟨s2.toArray⟩] 9))):=lu [s0,s1,s2] _ _ _ _ (Ss.made w0 [s0,s1,s2] _ rfl aj) aj;unfold nU at KU;have DV:=zq KU;clear KU;rw[HR.out];go_enter func104,ntmps104
 go_wp2_with (first
  | ((with_reducible refine DV.out.mono ?_);rintro e w1 ⟨A1,n1,cap1,L,rfl,hK,TU⟩;have HK:=zq hK;have sH:=zq TU;clear hK TU)
  | ((with_reducible refine(Va.out _ _ _ _).mono ?_);rintro e w2 ⟨rfl,bM⟩;have lH:=zq bM;have jV:=zq (HB.out.ev (((Ev.alloc w0 _).trans HK.out.ev).trans bM));obtain⟨⟨d0,d1,d2,d3,d4⟩,r0,r1,r2,r3,r4⟩:=jV.out.five;clear bM))
 (try simp only[Exit.inBlock,Exit.then]);rw[dE];refine ayr (aT rfl _ _ _ _ _ rfl (jV.out.kQ _ _ _ _ _) underlying101 rfl Tryz.iV) rfl ?_;obtain⟨hlx,hnl⟩:=HK.out.done;have hsz:=HE.out.size;have Zt:=(Ev.alloc w0 (.cells #[↑s0,↑s1,↑s2] 9)).size;exact ay_
structure OwT(b0:Nat)(w:ak)(A:Option Addr)(n cap:Nat)(L:List M):Prop where
 own:Ow 101 5 mc b0 w (.slice A n cap) L
 len:L.length=n
 lies:∀x∈L,Lies b0 (foot (.slice A n cap)) w x
theorem lX.owt{w0 w:ak}{b0:Nat}{A:Option Addr}{n cap:Nat}{L:List M}(h:lX w0 A n cap L w)(hb:b0<=w0.heap.size):OwT b0 w A n cap L:=⟨h.own.low hb,h.len,λx hx=>(h.lies x hx).low hb⟩
theorem OwT.ev{b0:Nat}{w w':ak}{A:Option Addr}{n cap:Nat}{L:List M}(h:OwT b0 w A n cap L)(hE:Ev w w'):OwT b0 w' A n cap L:=⟨h.own.ev hE,h.len,λx hx=>(h.lies x hx).ev hE⟩
theorem OwT.but{b0:Nat}{K:List Nat}{w w':ak}{A:Option Addr}{n cap:Nat}{L:List M}(h:OwT b0 w A n cap L)(hb:But K w w')(hK:∀k∈K,k<b0):OwT b0 w' A n cap L:=
 ⟨h.own.but hb λg hg hm=>by have:=(h.own.lt hg).1;have:=hK g hm;omega,h.len,λx hx=>((h.lies x hx).less (K':=K++foot (.slice A n cap)) λy hy=>by
  rcases awV.1 hy with h1|h1;exact .inr (.inl (hK y h1));exact .inl h1).move (hb.wide λy hy=>.inl (awZ _ hy)) λy hy=>.inl (axo _ hy)⟩
theorem OwT.done{b0:Nat}{w:ak}{n cap:Nat}{A:Option Addr}{L:List M}(h:OwT b0 w A n cap L):Lies b0 [] w (.mk 1 [] 0 A cap L 0)/\n=L.length:=by exact aAf
def xm(b0:Nat)(Ts:List T)(v:au)(w:ak):Prop:=∃A n cap L,v=.slice A n cap/\OwT b0 w A n cap L/\L.map M.t=Ts
theorem xm.ev{b0:Nat}{Ts:List T}{v:au}{w w':ak}(h:xm b0 Ts v w)(hE:Ev w w'):xm b0 Ts v w':=by obtain⟨A,n,cap,L,e,h1,h2⟩:=h;exact⟨A,n,cap,L,e,h1.ev hE,h2⟩
theorem xm.qA{b0:Nat}{Ts:List T}{v:au}{w:ak}(h:xm b0 Ts v w):∀k∈foot v,b0<=k/\k<w.heap.size:=by obtain⟨A,n,cap,L,rfl,h1,h2⟩:=h;exact λk hk=>h1.own.lt (aG.1 hk)
theorem nU.p0{Ts:List T}{w:ak}{e:Ending}{w':ak}{b0:Nat}(h:nU Ts w e w')(hb:b0<=w.heap.size):∃v,e=.returned v/\xm b0 Ts v w'/\(∀k∈foot v,w.heap.size<=k)/\Ev w w':=by obtain⟨A,n,cap,L,rfl,h1,h2⟩:=h;exact⟨_,rfl,⟨A,n,cap,L,rfl,h1.owt hb,h2⟩,λk hk=>(h1.own.lt (aG.1 hk)).1,h1.ev⟩
structure JF(F:List Nat->au->ak->Prop):Prop where
 ev:∀K v u u',Ev u u'->F K v u->F K v u'
 new:∀K v u,(∀k∈K,u.heap.size<=k)->F [] v u->F K v u
def FT(b0:Nat)(t:T)(K:List Nat)(v:au)(u:ak):Prop:=∃x:M,v=.agg ↑x/\x.t=t/\Lies b0 K u x
theorem FT.jf(b0:Nat)(t:T):JF (FT b0 t):=⟨λK v u u' hE ⟨x,e,h1,h2⟩=>⟨x,e,h1,h2.ev hE⟩,λK v u hK ⟨x,e,h1,h2⟩=>⟨x,e,h1,h2.less λk hk=>.inr (.inr (hK k hk))⟩⟩
def FM(b0:Nat)(Ts:List T)(K:List Nat)(v:au)(u:ak):Prop:=∃A n cap L,v=.slice A n cap/\Ms u A n cap L/\L.map M.t=Ts/\∀x∈L,Lies b0 K u x
theorem FM.jf(b0:Nat)(Ts:List T):JF (FM b0 Ts):=⟨λK v u u' hE ⟨A,n,cap,L,e,h1,h2,h3⟩=>⟨A,n,cap,L,e,h1.ev hE,h2,λx hx=>(h3 x hx).ev hE⟩,λK v u hK ⟨A,n,cap,L,e,h1,h2,h3⟩=>⟨A,n,cap,L,e,h1,h2,λx hx=>(h3 x hx).less λk hk=>.inr (.inr (hK k hk))⟩⟩
theorem xm.fm{b0:Nat}{Ts:List T}{v:au}{w:ak}{K:List Nat}(h:xm b0 Ts v w)(hK:K=[]):FM b0 Ts K v w:=by
 subst hK;obtain⟨A,n,cap,L,rfl,h1,h2⟩:=h;obtain⟨A2,cap2,hv,qL,_⟩:=h1.own.form ik;injection hv with e1 e2 e3
 subst e1 e3;exact⟨A,n,cap,L,rfl,by rw[e2];exact qL,h2,λx hx=>(h1.lies x hx).less λy hy=>(by cases hy)⟩
def GJ(i0 d0:Nat)(P0:au->ak->Prop)(fs:List (Nat×Nat×(List Nat->au->ak->Prop)))(L:Nat->Bool)(a:Act)(u:ak):Prop:=
 (L i0=true->P0 (a.eval (.tmp d0)) u)/\∀f∈fs,L f.1=true->f.2.2 (if L i0=true then foot (a.eval (.tmp d0)) else []) (a.eval (.tmp f.2.1)) u
section
variable {i0 d0:Nat} {P0:au->ak->Prop} {fs:List (Nat×Nat×(List Nat->au->ak->Prop))}
theorem GJ.none{L:Nat->Bool}{a:Act}{u:ak}(h:∀j,L j=false):GJ i0 d0 P0 fs L a u:=⟨(λe=>by rw[h]at e;cases e),λf _ e=>by rw[h]at e;cases e⟩
theorem GJ.keep(hP:∀v u u',Ev u u'->P0 v u->P0 v u')(hJ:∀f∈fs,JF f.2.2){L L':Nat->Bool}{a a':Act}{u u':ak}(hL0:L' i0=L i0)(hL:∀f∈fs,L' f.1=L f.1)(ha0:a'.eval (.tmp d0)=a.eval (.tmp d0))(ha:∀f∈fs,a'.eval (.tmp f.2.1)=a.eval (.tmp f.2.1))(hE:Ev u u')(h:GJ i0 d0 P0 fs L a u):GJ i0 d0 P0 fs L' a' u':=by refine⟨λe=>?_,λf hf e=>?_⟩;rw[ha0];exact hP _ _ _ hE (h.1 (hL0▸e));rw[ha0,ha f hf,hL0];exact(hJ f hf).ev _ _ _ _ hE (h.2 f hf (hL f hf▸e))
theorem GJ.first(hJ:∀f∈fs,JF f.2.2){L L':Nat->Bool}{a:Act}{v:au}{u u':ak}(h:GJ i0 d0 P0 fs L a u)(hu:L i0=false)(hE:Ev u u')(hne:∀f∈fs,f.1≠i0/\f.2.1≠d0)(hsz:d0<a.tmps.size)(hP:P0 v u')(hnew:∀k∈foot v,u.heap.size<=k)(h1:L' i0=true)(h2:∀j,j≠i0->L' j=L j):GJ i0 d0 P0 fs L' (a.put (some d0) v) u':=by refine⟨λ_=>by rw[eval_put_same hsz];exact hP,λf hf e=>?_⟩;obtain⟨n1,n2⟩:=hne f hf;rw[eval_put_same hsz,eU (λe=>n2 (axd e).symm),h1,if_pos rfl];have h3:=h.2 f hf (h2 _ n1▸e);rw[hu,if_neg ax_]at h3;exact(hJ f hf).ev _ _ _ _ hE ((hJ f hf).new _ _ _ hnew h3)
theorem GJ.other(hP:∀v u u',Ev u u'->P0 v u->P0 v u')(hJ:∀f∈fs,JF f.2.2){L L':Nat->Bool}{a:Act}{v:au}{u u':ak}{i d:Nat}(h:GJ i0 d0 P0 fs L a u)(hE:Ev u u')(hne:i≠i0/\d≠d0)(hd:∀f∈fs,f.1≠i->f.2.1≠d)(hsz:d<a.tmps.size)(hF:∀f∈fs,f.1=i->f.2.1=d/\f.2.2 (if L i0=true then foot (a.eval (.tmp d0)) else []) v u')(h1:L' i=true)(h2:∀j,j≠i->L' j=L j):GJ i0 d0 P0 fs L' (a.put (some d) v) u':=by have hL0:L' i0=L i0:=h2 _ λe=>hne.1 e.symm;have ha0:(a.put (some d) v).eval (.tmp d0)=a.eval (.tmp d0):=eU λe=>hne.2 (axd e);refine⟨λe=>?_,λf hf e=>?_⟩;rw[ha0];exact hP _ _ _ hE (h.1 (hL0▸e));rw[ha0,hL0];by_cases hi:f.1=i;obtain⟨e1,e2⟩:=hF f hf hi;rw[e1,eval_put_same hsz];exact e2;rw[eU (λe=>hd f hf hi (axd e).symm)];exact(hJ f hf).ev _ _ _ _ hE (h.2 f hf (h2 _ hi▸e))
theorem GJ.old{b0:Nat}{Ts:List T}{L:Nat->Bool}{a:Act}{u:ak}(h:GJ i0 d0 (xm b0 Ts) fs L a u):∀k∈(if L i0=true then foot (a.eval (.tmp d0)) else []),k<u.heap.size:=by
 intro k hk;split at hk;rename_i e;exact((h.1 e).qA k hk).2
 cases hk
end
theorem NM{P:Program}{ρ:Operand->au}{o:Oper}{T:TypeId}{s x:Operand}{v y v':au}{w w':ak}(ho:o.op=.call {callee:=.builtin .append,args:=#[s,x],argTypes:=#[T,T]})(hs:ρ s=v)(hx:ρ x=y)(hr:(Builtin.append_ #[T,T] o.type #[v,y]).run P w=.ok v' w'):(execOp ρ o).run P w=.ok (.value v') w':=by unfold execOp;simp only[ho,resolve,invoke,builtin,ayn,ayo,ayp,axF,awI,awY,hs,hx,hr]
theorem lC{ρ:Operand->au}{o:Oper}{s x:Operand}{v y:au}{w:ak}{b0:Nat}{Ts Us:List T}(ho:o.op=.call {callee:=.builtin .append,args:=#[s,x],argTypes:=#[99,99]})(hs:ρ s=v)(hx:ρ x=y)(h1:xm b0 Ts v w)(h2:FM b0 Us (foot v) y w)(hl:Ts.length+Us.length<=1000000)(hb:b0<=w.heap.size):
  ∃v' w',(execOp ρ o).run ax w=.ok (.value v') w'/\xm b0 (Ts++Us) v' w'/\But (foot v) w w':=by
 obtain⟨A,n,cap,L,rfl,hO,hLt⟩:=h1;obtain⟨A2,n2,cap2,L2,rfl,hM,akx,hlies⟩:=h2;have hLl:L.length=Ts.length:=by rw[<-hLt,awD]
 have atF:L2.length=Us.length:=by rw[<-akx,awD]
 obtain⟨v',w',hr,h3,h4,h5,_⟩:=jq (P:=ax) ik 99 o.type underlying99 Tryz.infoTree rfl hO.own A2 n2 cap2 L2 hM ae ae hb;refine⟨v',w',NM ho hs hx hr,?_,h4⟩;obtain⟨A3,cap3,rfl,qL,xJ⟩:=h3.form ik;refine⟨A3,_,cap3,L++L2,rfl,⟨h3,rfl,λy hy=>?_⟩,by rw[awM,hLt,akx]⟩;have hy2:Lies b0 (foot (.slice A n cap)) w y:=by rcases awV.1 hy with h|h;exact hO.lies y h;exact hlies y h
 exact hy2.move h4 λk hk=>by rcases h5 k (aG.1 hk) with h|h;exact .inl (aG.2 h);exact .inr (.inr h)
theorem vJ{ρ:Operand->au}{o:Oper}{x:Operand}(m:M)(ho:o.op=.buildSlice 99 1 #[(0,x)])(h:ρ x=.agg ↑m)(w:ak):
  (execOp ρ o).run ax w=.ok (.value (.slice ↑w 1 1)) (w.alloc (.cells ↑m 101)):=by
 unfold execOp;rw[ho];simp[h,go_sem]
theorem qB{ρ:Operand->au}{o:Oper}{x:Operand}(s:By)(ho:o.op=.buildSlice 22 1 #[(0,x)])(h:ρ x=↑s)(w:ak):
  (execOp ρ o).run ax w=.ok (.value (.slice ↑w 1 1)) (w.alloc (.cells #[↑s] 9)):=by
 unfold execOp;rw[ho];simp[h,go_sem]
theorem FT.slice{b0:Nat}{t:T}{K:List Nat}{u:ak}(x:M)(h:x.t=t)(hl:Lies b0 K u x):FM b0 [t] K (.slice ↑u 1 1) (u.alloc (.cells ↑x 101)):=
 ⟨_,1,1,[x],rfl,Sl.one (et:=101) ik u x _ rfl,by rw[awI,awY,h],λy hy=>by simp at hy;subst hy;exact hl.ev aB⟩
def Yd(s:By)(v:au)(u:ak):Prop:=∃g,v=.slice (some ⟨g,0,none⟩) 1 1/\Ss u (some ⟨g,0,none⟩) 1 1 [s]
theorem Yd.mono(s:By):ru (Yd s):=λv u u' hE ⟨g,e,h⟩=>⟨g,e,h.ev hE⟩
theorem xm.mono(b0:Nat)(Ts:List T):ru (xm b0 Ts):=λv u u' hE h=>h.ev hE
theorem xm.but{b0:Nat}{Ts:List T}{v:au}{K:List Nat}{u u':ak}(h:xm b0 Ts v u)(hb:But K u u')(hK:∀k∈K,k<b0):xm b0 Ts v u':=by obtain⟨A,n,cap,L,e,h1,h2⟩:=h;exact⟨A,n,cap,L,e,h1.but hb hK,h2⟩
theorem FT.mono(b0:Nat)(t:T)(K:List Nat):ru (FT b0 t K):=λv u u' hE h=>(FT.jf b0 t).ev _ _ _ _ hE h
theorem KW{b0:Nat}{K:List Nat}{u u':ak}{x:M}(h:Lies b0 [] u x)(hb:But K u u')(hK:∀k∈K,k<b0):Lies b0 [] u' x:=((h.less (K':=K) λy hy=>.inr (.inl (hK y hy))).move hb λy hy=>(by cases hy))
theorem FT.but{b0:Nat}{t:T}{v:au}{K:List Nat}{u u':ak}(h:FT b0 t [] v u)(hb:But K u u')(hK:∀k∈K,k<b0):FT b0 t [] v u':=by obtain⟨x,e,h1,h2⟩:=h;exact⟨x,e,h1,KW h2 hb hK⟩
theorem FM.mono(b0:Nat)(Ts:List T)(K:List Nat):ru (FM b0 Ts K):=λv u u' hE h=>(FM.jf b0 Ts).ev _ _ _ _ hE h
def FMn(b0:Nat)(Ts:List T)(v:au)(u:ak):Prop:=FM b0 Ts [] v u/\∃g n cap,v=.slice (some ⟨g,0,none⟩) n cap/\b0<=g
theorem FMn.mono(b0:Nat)(Ts:List T):ru (FMn b0 Ts):=λv u u' hE h=>⟨FM.mono _ _ _ _ _ _ hE h.1,h.2⟩
theorem FMn.but{b0:Nat}{Ts:List T}{v:au}{K:List Nat}{u u':ak}(h:FMn b0 Ts v u)(hb:But K u u')(hK:∀k∈K,k<b0):FMn b0 Ts v u':=by
 obtain⟨⟨A,n,cap,L,e,h1,h2,h3⟩,g,n',cap',e',hg⟩:=h;refine⟨⟨A,n,cap,L,e,h1.but hb λad ea hm=>?_,h2,λx hx=>KW (h3 x hx) hb hK⟩,g,n',cap',e',hg⟩;rw[e]at e';injection e' with e1
 rw[ea]at e1;injection e1 with e1
 subst e1;have:=hK _ hm;simp at this;omega
theorem But.yx{K:List Nat}{w0 u u':ak}(hE:Ev w0 u)(hb:But K u u')(hK:∀k∈K,w0.heap.size<=k):Ev w0 u':=((But.aW hE).then hb).ev hK
theorem aCs(h:U:=by refine bu λa w c=>⟨(ay rfl),_,run_move _ rfl w,(c.was 0 rfl)⟩):U:=h
theorem KX(l:List By)(X:List M)(A1 A2:Option Addr)(n cap1 cap2 b0:Nat)(w:ak)(h1:Ss w A1 n cap1 l)(h2:Es w A2 n cap2 X)(hn:n<=100000)(hlx:∀x∈X,Lx b0 [] w x)(hrt:∀x∈X,dX x.t=true/\x.t.size<=16000/\x.t.every (λt=>decide (t.s.length<=1000000))=true):
  Calls ax 102 #[.slice A1 n cap1,.slice A2 n cap2] w (nU (List.zipWith b_ l (X.map M.t)) w):=by
 have ed:Tryz.prog.follows .mixedOrders=true:=ah;have aky:=h1.le;have aoy:=h1.max;have akz:=h2.le;have aoz:=h2.max;have HL1:=zq h1.len;have HL2:=zq h2.len;have H1:=zq h1;have H2:=zq h2;have kT:=zq (lX.start w);have HTR:=zq (λx (hx:x∈X) w1 (hE:Ev w w1)=>Yc x b0 w1 ((hlx x hx).ev hE) (hrt x hx).1 (hrt x hx).2.1 (hrt x hx).2.2);unfold nU;clear h1 h2 hlx hrt;go_enter func102,ntmps102;go_wp2
 go_loopw [5,12] (λav iv wr=>∃(A3:Option Addr) (cap3 k:Nat) (L:List M),av=.slice A3 k cap3/\iv=↑k/\k<=n/\Hid (L.map M.t=(List.zipWith b_ l (X.map M.t)).take k)/\Hid (lX w A3 k cap3 L wr)) (λ_ iv _=>n-(intOf iv).toNat)
 case atStart=>exact⟨none,0,0,[],rfl,rfl,awJ _,zq rfl,kT⟩
 case round=>
  obtain⟨A3,cap3,k,L,rfl,rfl,hk,sH,HS⟩:=hrel;by_cases hlt:k<n
  ·obtain⟨s,hs⟩:=H1.out.at hlt;obtain⟨x,hx⟩:=H2.out.at hlt;obtain⟨b,off,rfl,hb,hc⟩:=H1.out.rd ae;have n0:=hc k s hs 0 _ rfl;simp only[ayj,aw2]at n0;obtain⟨b2,y5,rfl,hb2,x0,x1,x2,x3⟩:=Es.cell H2.out hx;unfold M.kv at x3;have gJ:=awG hx;have HT:=zq (HTR.out x gJ);have jP:Hid ((List.zipWith b_ l (X.map M.t)).take (k+1)=(List.zipWith b_ l (X.map M.t)).take k++[b_ s x.t]):=zq (by
    have hz:(List.zipWith b_ l (X.map M.t))[k]?=some (b_ s x.t):=by rw[List.getElem?_zipWith,hs,axh,hx];rfl
    obtain⟨hk2,e1⟩:=awz.1 hz;rw[awH hk2,e1])
   have uf:=zq HS.out.len;have i1:(0:Int)<=(k:Int):=ae;have i2:(k:Int)<(n:Int):=ae;clear hs hx hc gJ;go_upto_region 5 with fail
   have Ib:∀f∈([(11,26,FT wr.heap.size (xTree x.t)),(12,27,FM wr.heap.size [xTree x.t])]:List (Nat×Nat×(List Nat->au->ak->Prop))),JF f.2.2:=λf hf=>by simp at hf;rcases hf with rfl|rfl;exact FT.jf _ _;exact FM.jf _ _
   have JNE:∀f∈([(11,26,FT wr.heap.size (xTree x.t)),(12,27,FM wr.heap.size [xTree x.t])]:List (Nat×Nat×(List Nat->au->ak->Prop))),f.1≠6/\f.2.1≠21:=λf hf=>by simp at hf;rcases hf with rfl|rfl<;>simp
   have ahR:∀y∈foot (.slice A3 k cap3),y<wr.heap.size:=λy hy=>(HS.out.own.lt (aG.1 hy)).2;refine jE ed (λu=>Ev w u/\wr.heap.size<=u.heap.size) (λp u u'=>match p with|0=>True|1=>But (foot (.slice A3 k cap3)) u u'|_+2=>False) [13,16] (λp u=>p<=1->Ev wr u) [5] [[13,14,15,16,17],[16,17]] 13 [λv _=>v=.slice A3 k cap3,λv _=>v=.slice ↑(b,off) n cap1,λv _=>v=↑k,λv _=>v=.pointer ↑(b,off+k),λv _=>v=↑s,Yd s,λ_ _=>True,λv _=>v=.slice ↑(b2,y5) n cap2,λv _=>v=↑k,λv _=>v=.pointer ↑(b2,y5+k*4),λv _=>v=.agg ↑(x,()),λ_ _=>True,λ_ _=>True,xm wr.heap.size [aS s,xTree x.t],FT wr.heap.size (b_ s x.t) [],FMn wr.heap.size [b_ s x.t],xm w.heap.size (L.map M.t++[b_ s x.t]),xm w.heap.size (L.map M.t++[b_ s x.t])]
    34 2 rfl ah ⟨az _,az _,az _,az _,az _,Yd.mono s,eH,az _,az _,az _,az _,eH,eH,xm.mono _ _,FT.mono _ _ _,FMn.mono _ _,xm.mono _ _,xm.mono _ _,trivial⟩ ⟨aZ,aZ,aZ,aZ,aZ,Or.inl rfl,aZ,aZ,aZ,aZ,aZ,aZ,aZ,Or.inr λp=>match p with|0=>Or.inl rfl|1=>Or.inr λ_ _ _ hb h=>h.but hb ahR|_+2=>Or.inr λ_ _ _ hb h=>hb.elim,Or.inr λp=>match p with|0=>Or.inl rfl|1=>Or.inr λ_ _ _ hb h=>h.but hb ahR|_+2=>Or.inr λ_ _ _ hb h=>hb.elim,Or.inr λp=>match p with|0=>Or.inl rfl|1=>Or.inr λ_ _ _ hb h=>h.but hb ahR|_+2=>Or.inr λ_ _ _ hb h=>hb.elim,Or.inr λp=>match p with|0=>Or.inl rfl|1=>Or.inl rfl|_+2=>Or.inr λ_ _ _ hb h=>hb.elim,Or.inr λp=>match p with|0=>Or.inl rfl|1=>Or.inl rfl|_+2=>Or.inr λ_ _ _ hb h=>hb.elim,trivial⟩ ah rfl ah (λp u u' hE h hp=>(h hp).trans hE) (λu u' hE h=>⟨h.1.trans hE,aw0 h.2 hE.size⟩) (⟨HS.out.ev,awC _⟩) (λ_=>Ev.refl _) ah (GJ 6 21 (xm wr.heap.size [aS s]) [(11,26,FT wr.heap.size (xTree x.t)),(12,27,FM wr.heap.size [xTree x.t])]) [6,11,12] ah (λL L' a a' u u' hL ha hE h=>GJ.keep (λv u u' hE h=>h.ev hE) Ib (hL 6 ai) (λf hf=>by simp at hf;rcases hf with rfl|rfl<;>exact hL _ aj) (ha 6 ai _ ah) (λf hf=>by simp at hf;rcases hf with rfl|rfl;exact ha 11 aj 26 ah;exact ha 12 aj 27 ah) hE h) (λL hL=>GJ.none hL) ?_ ?_ ?_ ?_
   ·refine aJ 0 ?_ (aJ 1 ?_ (aJ 2 ?_ (aJ 3 ?_ (aJ 4 ?_ (aJ 5 ?_ (cO 6 ai (aJ 7 ?_ (aJ 8 ?_ (aJ 9 ?_ (aJ 10 ?_ (cO 11 ai (cO 12 ai (cO 13 ai (aJ 14 ?_ (aJ 15 ?_ (cO 16 ai (aJ 17 ?_ (oD 18))))))))))))))))));refine bu λa w c=>⟨(ay rfl),_,run_move _ rfl w,(c.was 5 rfl)⟩
    exact aCs;refine bu λa w c=>⟨(ay rfl),_,run_move _ rfl w,(c.was 6 rfl)⟩
    ·refine bu λa w c=>⟨(ay rfl),.pointer ↑(b,off+k),?_,rfl⟩
     have e16:a.eval (.tmp 16)=.slice ↑(b,off) n cap1:=(c.new 1 16)
     have e17:a.eval (.tmp 17)=↑k:=(c.new 2 17)
     generalize a.eval=ρ at e16 e17|-;simp[execOp,e16,e17,go_sem,i1,i2]
    ·refine bu λa wq c=>⟨(ay rfl),↑s,?_,rfl⟩
     have bC:a.eval (.tmp 18)=.pointer ↑(b,off+k):=(c.new 3 18)
     have q0:=(c.inv.1.cell (p:=⟨b,off+k,none⟩) hb).trans n0;generalize a.eval=ρ at bC|-;simp[execOp,bC,q0,go_sem]
    refine uO λa wq c=>⟨(ay rfl),_,_,qB s rfl (c.new 4 19) wq,Ev.alloc _ _,⟨c.inv.1.trans (Ev.alloc wq _),aw0 c.inv.2 (Ev.alloc wq _).size⟩,⟨_,rfl,Ss.made wq [s] _ rfl aj⟩⟩
    refine bu λa w c=>⟨(ay rfl),_,run_move _ rfl w,(c.was 1 rfl)⟩
    refine bu λa w c=>⟨(ay rfl),_,run_move _ rfl w,(c.was 6 rfl)⟩
    ·refine bu λa w c=>⟨(ay rfl),.pointer ↑(b2,y5+k*4),?_,rfl⟩
     have e22:a.eval (.tmp 22)=.slice ↑(b2,y5) n cap2:=(c.new 7 22)
     have e23:a.eval (.tmp 23)=↑k:=(c.new 8 23)
     generalize a.eval=ρ at e22 e23|-;simp[execOp,e22,e23,go_sem,i1,i2]
    ·refine bu λa wq c=>⟨(ay rfl),.agg ↑(x,()),?_,rfl⟩
     have bC:a.eval (.tmp 24)=.pointer ↑(b2,y5+k*4):=(c.new 9 24)
     have q0:=(c.inv.1.cell (p:=⟨b2,y5+k*4,none⟩) hb2).trans x0;have q1:=(c.inv.1.cell (p:=⟨b2,y5+k*4+1,none⟩) hb2).trans x1;have q2:=(c.inv.1.cell (p:=⟨b2,y5+k*4+2,none⟩) hb2).trans x2;have q3:=(c.inv.1.cell (p:=⟨b2,y5+k*4+3,none⟩) hb2).trans x3;generalize a.eval=ρ at bC|-;simp[execOp,bC,q0,q1,q2,q3,go_sem]
    refine ab5 λa wq c=>?_;obtain⟨A_,n_,cap_,Z_,e_,hO_,hZ_⟩:=(c.got 13 28 ah ah ah rfl:xm wr.heap.size [aS s,xTree x.t] _ _)
    refine⟨ay rfl,103,#[.slice A_ n_ cap_],?_,?_⟩;rw[bT 103 _ _ rfl ah];simp[e_];refine(oH A_ n_ cap_ wq).mono ?_;rintro r wp ⟨rfl,mX⟩;obtain⟨WC,wI⟩:=hO_.done;exact⟨_,rfl,mX,⟨c.inv.1.trans mX,aw0 c.inv.2 mX.size⟩,⟨.mk 1 [] 0 A_ cap_ Z_ 0,by rw[wI];rfl,by simp only[M.t,M.jQ];rw[hZ_];rfl,WC.ev mX⟩⟩;refine uO λa wq c=>?_;obtain⟨m_,e_,ht_,WC⟩:=(c.got 14 29 ah ah ah rfl:FT wr.heap.size (b_ s x.t) [] _ _)
    exact⟨(ay rfl),_,_,vJ m_ rfl e_ wq,Ev.alloc _ _,⟨c.inv.1.trans (Ev.alloc wq _),aw0 c.inv.2 (Ev.alloc wq _).size⟩,FT.slice m_ ht_ WC,_,_,_,rfl,c.inv.2⟩;refine bu λa w c=>⟨(ay rfl),_,run_assign _ rfl w,(c.new 16 31)⟩
   refine iW rfl ?_ (iW rfl ?_ (iW rfl ?_ BF));refine mr λa wq L c hs hp hu hg=>?_;obtain⟨g_,e_,hS_⟩:=(c.got 5 20 ah ah ah rfl:Yd s _ _)
   refine⟨ay rfl,100,#[.slice ↑g_ 1 1],?_,?_⟩;rw[bT 100 _ _ rfl ah];simp[e_];refine(lu [s] _ 1 1 wq hS_ ae).mono ?_;rintro r wp wJ;obtain⟨v_,rfl,Ic,wI,mX⟩:=wJ.p0 (b0:=wr.heap.size) c.inv.2;exact⟨v_,rfl,mX,⟨c.inv.1.trans mX,aw0 c.inv.2 mX.size⟩,trivial,λL' h1 h2=>GJ.first Ib hg hu mX JNE (axC (by decide:21<34) hs.symm) Ic wI h1 h2⟩;refine mr λa wq L c hs hp hu hg=>?_;have e_:a.eval (.tmp 25)=.agg ↑(x,()):=(c.new 10 25)
   refine⟨ay rfl,101,#[.agg ↑(x,())],?_,?_⟩;rw[bT 101 _ _ rfl ah];simp[e_];refine(HT.out wq c.inv.1).mono ?_;rintro r wp ⟨m_,rfl,ht_,WC,mX⟩;refine⟨_,rfl,mX,⟨c.inv.1.trans mX,aw0 c.inv.2 mX.size⟩,trivial,λL' h1 h2=>GJ.other (λv u u' hE h=>h.ev hE) Ib hg mX ai (λf hf hne=>?_) (axC (by decide:26<34) hs.symm) (λf hf he=>?_) h1 h2⟩;simp at hf;rcases hf with rfl|rfl;exact absurd rfl hne;simp;simp at hf;rcases hf with rfl|rfl;exact⟨rfl,m_,rfl,ht_,(WC.less λy hy=>.inr (.inl (hg.old y hy))).low c.inv.2⟩;simp at he;refine yu λa wq L c hs hp hu hg=>?_;obtain⟨m_,e_,ht_,WC⟩:=hg.2 (11,26,FT wr.heap.size (xTree x.t)) aj (hp 11 ah);refine⟨ay rfl,_,_,vJ m_ rfl e_ wq,Ev.alloc _ _,⟨c.inv.1.trans (Ev.alloc wq _),aw0 c.inv.2 (Ev.alloc wq _).size⟩,trivial,λL' h1 h2=>GJ.other (λv u u' hE h=>h.ev hE) Ib hg aB ai (λf hf hne=>?_) (axC (by decide:27<34) hs.symm) (λf hf he=>?_) h1 h2⟩;simp at hf;rcases hf with rfl|rfl;simp;exact absurd rfl hne;simp at hf;rcases hf with rfl|rfl;simp at he;exact⟨rfl,FT.slice m_ ht_ WC⟩;refine fQ 0 rfl ?_ (fQ 1 rfl ?_ (pq 2));refine uP λa wq c st hg=>?_;obtain⟨L_,WE,hG_⟩:=hg rfl;have Ic:=hG_.1 (WE 6 ah);have NP:=hG_.2 (12,27,FM wr.heap.size [xTree x.t]) aj (WE 12 ah);rw[if_pos (WE 6 ah)]at NP;obtain⟨v_,w_,hr_,Qy,KR⟩:=lC (o:=⟨some 28,_,_,_,_,_⟩) rfl rfl rfl Ic NP aj c.inv.2;exact⟨ay rfl,v_,w_,hr_,trivial,⟨But.yx c.inv.1 KR λy hy=>aw0 HS.out.ev.size (Ic.qA y hy).1,aw0 c.inv.2 KR.size⟩,λ_=>But.yx (st ae) KR λy hy=>(Ic.qA y hy).1,Qy⟩;refine uP λa wq c st hg=>?_;have NP:=(c.got 15 30 ah ah ah rfl:FMn wr.heap.size [b_ s x.t] _ _)
   have e_:a.eval (.tmp 15)=.slice A3 k cap3:=(c.new 0 15)
   have hK_:=HS.out.on (st ae);have Ic:xm w.heap.size (L.map M.t) (.slice A3 k cap3) wq:=⟨A3,k,cap3,L,rfl,hK_.owt (awC _),rfl⟩
   have aoA:∀y∈foot (.slice A3 k cap3),y<wr.heap.size:=λy hy=>(HS.out.own.lt (aG.1 hy)).2;obtain⟨⟨B_,n_,cap_,Z_,e2_,Zu,hz_,WC⟩,_⟩:=NP;have hM_:FM w.heap.size [b_ s x.t] (foot (.slice A3 k cap3)) (a.eval (.tmp 30)) wq:=⟨B_,n_,cap_,Z_,e2_,Zu,hz_,λy hy=>((WC y hy).less λz hz=>.inr (.inl (aoA z hz))).low HS.out.ev.size⟩
   obtain⟨v_,w_,hr_,Qy,KR⟩:=lC (o:=⟨some 31,_,_,_,_,_⟩) rfl e_ rfl Ic hM_ (by rw[awD,uf.out];simp;omega) c.inv.1.size;exact⟨ay rfl,v_,w_,hr_,KR,⟨But.yx c.inv.1 KR λy hy=>(HS.out.own.lt (aG.1 hy)).1,aw0 c.inv.2 KR.size⟩,(λh=>by omega),Qy⟩;intro sl wB hI hold hnew hst;obtain⟨A4,n4,cap4,L4,f5,hO4,hL4⟩:=(hnew 17 5:xm w.heap.size (L.map M.t++[b_ s x.t]) (sl 5) wB)
   have f0:sl 0=.slice ↑(b,off) n cap1:=hold 0;have f1:sl 1=.slice ↑(b2,y5) n cap2:=hold 1;have f2:_=undef:=hold 2;have f3:_=undef:=hold 3;have f4:sl 4=↑():=hold 4;have f6:sl 6=↑k:=hold 6;have f7:sl 7=.slice ↑(b,off) n cap1:=hold 7;have f8:sl 8=↑n:=hold 8;have f9:sl 9=.slice ↑(b2,y5) n cap2:=hold 9;have f10:sl 10=↑n:=hold 10;have f11:sl 11=↑n:=hold 11;have f12:sl 12=↑k:=hold 12;have f13:sl 13=.bool true:=hold 13;have f14:sl 14=↑k:=hold 14;have f32:sl 32=u32:=hold 32;have f33:_=undef:=hold 33;change (_:Act->ak->Prop) ⟨_,_⟩ _;simp only[List.range,List.range.loop,List.map];simp only[f5,f0,f1,f2,f3,f4,f6,f7,f8,f9,f10,f11,f12,f13,f14,f32,f33];clear hold hnew;have hn4:n4=k+1:=by have h5:=axc List.length hL4;rw[awD,hO4.len,awE,awD,uf.out]at h5;simpa using h5
   subst hn4;have HK4:=zq (⟨hO4.own,hO4.len,hO4.lies,hI.1⟩:lX w A4 (k+1) cap4 L4 wB);have HL4:=zq hL4;clear hO4 hL4 hst hI Ib JNE n0 x0 x1 x2 x3;go_wp2;go_roundw
   case rel=>exact⟨A4,cap4,k+1,L4,rfl,by go_num,ae,zq (by rw[jP.out,HL4.out,sH.out]),HK4⟩
   case measure=>simp[intOf];omega
  obtain rfl:k=n:=ae;have HF:Hid (L.map M.t=List.zipWith b_ l (X.map M.t)):=zq (by
   have h1:=sH.out;rwa [awS (by rw[ax6,awD,HL1.out,HL2.out];omega)]at h1)
  go_wp2;go_ret;exact⟨A3,_,cap3,L,rfl,HS.out,HF.out⟩
theorem zu(m:PM):aH m.p=dG (kN m.kind m.name (m.ex.l.map M.t) m.co.l m.lf.l m.rt.l m.ag.l++m.kids.map λx=>aH x.p):=by rw[PM.sW,aH,vF,awT];rfl
theorem lX.since{w0 w1 w':ak}{A:Option Addr}{n cap:Nat}{L:List M}(hE:Ev w0 w1)(h:lX w1 A n cap L w'):lX w0 A n cap L w':=⟨h.own.low hE.size,h.len,λx hx=>(h.lies x hx).low hE.size,hE.trans h.ev⟩
theorem Au(w:ak)(c0 c1 c2 c3 c4 c5 c6 c7:au):∃w0,(w.alloc (.cells #[c0,c1,c2,c3,c4,c5,c6,c7] 32)).alloc (.cells ↑Zz.a 101)=w0/\Ev w w0/\Bx 32 w.heap.size #[c0,c1,c2,c3,c4,c5,c6,c7] w0/\Bx 101 (w.heap.size+1) ↑Zz.a w0:=by
 have hB:Bx 101 (w.heap.size+1) ↑Zz.a ((w.alloc (.cells #[c0,c1,c2,c3,c4,c5,c6,c7] 32)).alloc (.cells ↑Zz.a 101)):=by have:=Bx.new 101 ↑Zz.a (w.alloc (.cells #[c0,c1,c2,c3,c4,c5,c6,c7] 32));simpa using this
 exact⟨_,rfl,(Ev.alloc w _).trans aB,(Bx.new 32 #[c0,c1,c2,c3,c4,c5,c6,c7] w).ev aB,hB⟩
theorem ayP(h:U:=by
 have jd:Hid (L.length<=50000):=zq (by
  have h5:=axc List.length HR.out;rw[awE,awD,awD,xq.out,awD,axa]at h5;have:=qQ.out;have:=mg.out;omega)
 have i1:(0:Int)<=(j:Int):=ae;have i2:(j:Int)<(m.kids.length:Int):=ae;clear hx gJ
 go_wp2_with (first
  | ((with_reducible refine(HI.out _ (jy.out.trans (Ev.alloc wr _))).mono ?_);rintro e w1 ⟨x',rfl,jM,iH,aN⟩;have qK:=zq jM;have pX:=zq iH;have E1:=zq ((Ev.alloc wr _).trans aN);clear jM iH)
  | ((show wpList _ _ _ (⟨some 101,_,_,_,_,_⟩::_) _ _);refine aO (o:=⟨some 101,_,_,_,_,_⟩) rfl 99 (.tmp 97) (.tmp 100) rfl ik underlying99 Tryz.infoTree rfl rfl (HS.out.own.ev (E1.out.trans (Ev.alloc w1 _))) ↑w1 1 1 [x'] rfl (Sl.one (et:=101) ik w1 x' _ rfl) (by have:=jd.out;simp;omega) (by have:=jd.out;simp;omega) ((HS.out.ev.trans E1.out).trans (Ev.alloc w1 _)).size ?_;intro v2 w2 dY;obtain⟨A2,cap2,rfl,ST2⟩:=HS.out.next (E1.out.trans (Ev.alloc w1 _)) ((pX.out.low (Ev.alloc wr (.cells ↑x 32)).size).ev (Ev.alloc w1 _)) dY))
 go_roundw
 case rel=>exact⟨A2,n1+1,cap2,j+1,L++[x'],rfl,by go_num,ae,zq ST2,zq (by rw[jP.out,awM,HR.out,awI,awY,qK.out,aw1])⟩
 case measure=>simp[intOf];omega):U:=h
theorem ayJ(h:U:=by
 obtain⟨x,hx⟩:=tJ.out.at hlt;obtain⟨b,off,rfl,KR,_⟩:=tJ.out.rd ae;obtain⟨x0,x1,x2,x3,x4,x5,x6,x7⟩:=Ps.cell (tJ.out.ev jy.out) hx;unfold fH.v PM.kv at*;have gJ:=awG hx;have jP:Hid ((m.kids.take (j+1)).map (λx=>aH x.p)=(m.kids.take j).map (λx=>aH x.p)++[aH x.p]):=zq (by
  obtain⟨hk2,e⟩:=awz.1 hx;rw[awH hk2,e,awM];rfl)
 have HI:=zq (λw1 (hE:Ev w w1)=>lM.out x gJ w1 hE);exact ayP):U:=h
theorem ayQ(h:U:=by
 obtain rfl:j=m.kids.length:=ae;obtain⟨hlx,hnl⟩:=HS.out.done;have jd:=zq hnl;have hbl:=HB.out.lt;have GM:=zq (hlx.less (K':=[w.heap.size+1]) λk hk=>by simp at hk;subst hk;exact .inr (.inl hbl));have Nz:Hid (M.t (.mk 1 [] 0 A1 cap1 L 0)=R):=zq (by
  have h5:=HR.out;rw[axk]at h5;simp only[M.t,M.jQ];rw[h5,Bq.out];rfl)
 have Va:=zq (oH A1 n1 cap1 wr);have zQ:=zq HE.out.size;clear hlx hnl hbl
 go_wp2_with (first
  | ((with_reducible refine Va.out.mono ?_);rintro e w2 ⟨rfl,bM⟩;have lH:=zq bM;have jV:=zq (HB.out.ev (HS.out.ev.trans bM));obtain⟨⟨d0,d1,d2,d3,d4⟩,r0,r1,r2,r3,r4⟩:=jV.out.five;clear bM))
 (try simp only[Exit.inBlock,Exit.then]);rw[dE];refine ayr (aT rfl _ _ _ _ _ rfl (jV.out.kQ _ _ _ _ _) underlying101 rfl Tryz.iV) rfl ?_;refine⟨.mk 1 [] 0 A1 cap1 L 0,by simp only[M.kids,M.kind,M.s,M.n,M.A,M.cap,M.pos];rw[<-jd.out];rfl,Nz.out,?_,(jy.out.trans lH.out).box (bU _ _ _ _ _ _ _) ae⟩;exact(((GM.out.ev lH.out)).move (bU _ _ _ _ _ _ _) λk hk=>by cases hk).low zQ.out):U:=h
theorem Qz(m:PM)(b0:Nat)(w:ak)(h:Qx b0 [] w m)(hk:m.kind=1)(hkn:m.kids.length<=10000)(ih:∀x∈m.kids,∀w1,Ev w w1->Calls ax 56 #[pv x] w1 (gB (aH x.p) w1)):
  Calls ax 56 #[pv m] w (gB (aH m.p) w):=by
 have ed:Tryz.prog.follows .mixedOrders=true:=ah;have zL:=zu m;rw[hk]at zL;obtain⟨R,hR⟩:∃R,R=aH m.p:=⟨_,rfl⟩
 rw[<-hR]at zL|-;have zG:Hid (R=dG ([gY,m.name].map aS++m.kids.map λx=>aH x.p)):=zq zL;obtain⟨hex,hlx,xQ,pJ,hrt,yz,BM,QA⟩:=h.at;have qO:=h.ps;have qM:=h.ps.le;have Vy:=h.ps.max;have lM:=zq ih;unfold pv fH.v PM.kv gB;unfold pv fH.v PM.kv gB at lM;rw[hk];clear BM QA h;generalize m.A=mA at*;generalize m.cap=kL at*;have tJ:=zq qO;obtain⟨w0,hw0,aV,hX,hB⟩:=Au w (.int .i64 1) ↑m.name (.slice m.ex.A m.ex.l.length m.ex.cap) (.slice m.co.A m.co.l.length m.co.cap) (.slice m.lf.A m.lf.l.length m.lf.cap) (.slice m.rt.A m.rt.l.length m.rt.cap) (.slice m.ag.A m.ag.l.length m.ag.cap) (.slice mA m.kids.length kL);obtain⟨⟨p0,p1,p2,p3,p4,p5,p6,p7⟩,_⟩:=hX.eight;have HX:=zq hX;have HB:=zq hB;have HE:=zq aV;have mg:=zq hkn;clear zL hX hB aV hex hlx xQ pJ hrt yz ih hR hk qO;have KU:Calls ax 100 #[.slice (some ⟨↑w0,0,none⟩) 2 2] (w0.alloc (.cells #[.string ⟨#[116,97,98,108,101]⟩,.string ⟨m.name.toArray⟩] 9)) (nU ([gY,m.name].map aS) (w0.alloc (.cells #[.string ⟨#[116,97,98,108,101]⟩,.string ⟨m.name.toArray⟩] 9))):=lu [gY,m.name] _ _ _ _ (Ss.made w0 [gY,m.name] _ rfl aj) aj;unfold nU at KU;have DV:=zq KU;clear KU;go_enter func56,ntmps56
 go_wp2_with (first
  | ((with_reducible refine DV.out.mono ?_);rintro e w1 ⟨A3,n3,cap3,L3,rfl,hK,TU⟩;have HK:=zq (lX.since (Ev.alloc w0 _) hK);have sH:=zq TU;clear hK TU p0 p1 p2 p3 p4 p5 p6 p7;obtain⟨⟨p0,p1,p2,p3,p4,p5,p6,p7⟩,_⟩:=(HX.out.ev HK.out.ev).eight))
 have qQ:Hid (L3.length<=30000):=zq (by have:=axc List.length sH.out;simp at this;omega);obtain⟨hd,uh⟩:∃hd,hd=L3.map M.t:=⟨_,rfl⟩
 have Bq:Hid (R=dG (hd++m.kids.map λx=>aH x.p)):=zq (by rw[zG.out,uh,sH.out]);have xq:=zq uh;clear uh
 go_loopw [3,93] (λkv iv wr=>∃(A1:Option Addr) (n1 cap1 j:Nat) (L:List M),kv=.slice A1 n1 cap1/\iv=↑j/\j<=m.kids.length/\Hid (lX w0 A1 n1 cap1 L wr)/\Hid (L.map M.t=hd++(m.kids.take j).map λx=>aH x.p)) (λ_ iv _=>m.kids.length-(intOf iv).toNat)
 case atStart=>exact⟨_,n3,cap3,0,L3,rfl,rfl,awJ _,HK,zq (by rw[xq.out];simp)⟩
 case round=>
  obtain⟨A1,n1,cap1,j,L,rfl,rfl,hj,HS,HR⟩:=hrel;have jy:=zq (HE.out.trans HS.out.ev);by_cases hlt:j<m.kids.length;exact ayJ;exact ayQ
theorem QB(m:PM)(b0:Nat)(w:ak)(h:Qx b0 [] w m)(hk:m.kind=5)(hkn:m.kids.length<=10000)(ih:∀x∈m.kids,∀w1,Ev w w1->Calls ax 56 #[pv x] w1 (gB (aH x.p) w1)):
  Calls ax 56 #[pv m] w (gB (aH m.p) w):=by
 have ed:Tryz.prog.follows .mixedOrders=true:=ah;have zL:=zu m;rw[hk]at zL;obtain⟨R,hR⟩:∃R,R=aH m.p:=⟨_,rfl⟩
 rw[<-hR]at zL|-;have zG:Hid (R=dG ([iM].map aS++m.kids.map λx=>aH x.p)):=zq zL;obtain⟨hex,hlx,xQ,pJ,hrt,yz,BM,QA⟩:=h.at;have qO:=h.ps;have qM:=h.ps.le;have Vy:=h.ps.max;have lM:=zq ih;unfold pv fH.v PM.kv gB;unfold pv fH.v PM.kv gB at lM;rw[hk];clear BM QA h;generalize m.A=mA at*;generalize m.cap=kL at*;have tJ:=zq qO;obtain⟨w0,hw0,aV,hX,hB⟩:=Au w (.int .i64 5) ↑m.name (.slice m.ex.A m.ex.l.length m.ex.cap) (.slice m.co.A m.co.l.length m.co.cap) (.slice m.lf.A m.lf.l.length m.lf.cap) (.slice m.rt.A m.rt.l.length m.rt.cap) (.slice m.ag.A m.ag.l.length m.ag.cap) (.slice mA m.kids.length kL);obtain⟨⟨p0,p1,p2,p3,p4,p5,p6,p7⟩,_⟩:=hX.eight;have HX:=zq hX;have HB:=zq hB;have HE:=zq aV;have mg:=zq hkn;clear zL hX hB aV hex hlx xQ pJ hrt yz ih hR hk qO;have KU:Calls ax 100 #[.slice (some ⟨↑w0,0,none⟩) 1 1] (w0.alloc (.cells #[.string ⟨#[117,110,105,111,110]⟩] 9)) (nU ([iM].map aS) (w0.alloc (.cells #[.string ⟨#[117,110,105,111,110]⟩] 9))):=lu [iM] _ _ _ _ (Ss.made w0 [iM] _ rfl aj) aj;unfold nU at KU;have DV:=zq KU;clear KU;go_enter func56,ntmps56
 go_wp2_with (first
  | ((with_reducible refine DV.out.mono ?_);rintro e w1 ⟨A3,n3,cap3,L3,rfl,hK,TU⟩;have HK:=zq (lX.since (Ev.alloc w0 _) hK);have sH:=zq TU;clear hK TU p0 p1 p2 p3 p4 p5 p6 p7;obtain⟨⟨p0,p1,p2,p3,p4,p5,p6,p7⟩,_⟩:=(HX.out.ev HK.out.ev).eight))
 have qQ:Hid (L3.length<=30000):=zq (by have:=axc List.length sH.out;simp at this;omega);obtain⟨hd,uh⟩:∃hd,hd=L3.map M.t:=⟨_,rfl⟩
 have Bq:Hid (R=dG (hd++m.kids.map λx=>aH x.p)):=zq (by rw[zG.out,uh,sH.out]);have xq:=zq uh;clear uh
 go_loopw [3,93] (λkv iv wr=>∃(A1:Option Addr) (n1 cap1 j:Nat) (L:List M),kv=.slice A1 n1 cap1/\iv=↑j/\j<=m.kids.length/\Hid (lX w0 A1 n1 cap1 L wr)/\Hid (L.map M.t=hd++(m.kids.take j).map λx=>aH x.p)) (λ_ iv _=>m.kids.length-(intOf iv).toNat)
 case atStart=>exact⟨_,n3,cap3,0,L3,rfl,rfl,awJ _,HK,zq (by rw[xq.out];simp)⟩
 case round=>
  obtain⟨A1,n1,cap1,j,L,rfl,rfl,hj,HS,HR⟩:=hrel;have jy:=zq (HE.out.trans HS.out.ev);by_cases hlt:j<m.kids.length;exact ayJ;exact ayQ
theorem IB(m:PM)(b0:Nat)(w:ak)(h:Qx b0 [] w m)(hk:m.kind=6)(hkn:m.kids.length<=10000)(ih:∀x∈m.kids,∀w1,Ev w w1->Calls ax 56 #[pv x] w1 (gB (aH x.p) w1)):
  Calls ax 56 #[pv m] w (gB (aH m.p) w):=by
 have ed:Tryz.prog.follows .mixedOrders=true:=ah;have zL:=zu m;rw[hk]at zL;obtain⟨R,hR⟩:∃R,R=aH m.p:=⟨_,rfl⟩
 rw[<-hR]at zL|-;have zG:Hid (R=dG ([dU].map aS++m.kids.map λx=>aH x.p)):=zq zL;obtain⟨hex,hlx,xQ,pJ,hrt,yz,BM,QA⟩:=h.at;have qO:=h.ps;have qM:=h.ps.le;have Vy:=h.ps.max;have lM:=zq ih;unfold pv fH.v PM.kv gB;unfold pv fH.v PM.kv gB at lM;rw[hk];clear BM QA h;generalize m.A=mA at*;generalize m.cap=kL at*;have tJ:=zq qO;obtain⟨w0,hw0,aV,hX,hB⟩:=Au w (.int .i64 6) ↑m.name (.slice m.ex.A m.ex.l.length m.ex.cap) (.slice m.co.A m.co.l.length m.co.cap) (.slice m.lf.A m.lf.l.length m.lf.cap) (.slice m.rt.A m.rt.l.length m.rt.cap) (.slice m.ag.A m.ag.l.length m.ag.cap) (.slice mA m.kids.length kL);obtain⟨⟨p0,p1,p2,p3,p4,p5,p6,p7⟩,_⟩:=hX.eight;have HX:=zq hX;have HB:=zq hB;have HE:=zq aV;have mg:=zq hkn;clear zL hX hB aV hex hlx xQ pJ hrt yz ih hR hk qO;have KU:Calls ax 100 #[.slice (some ⟨↑w0,0,none⟩) 1 1] (w0.alloc (.cells #[.string ⟨#[100,105,115,116,105,110,99,116]⟩] 9)) (nU ([dU].map aS) (w0.alloc (.cells #[.string ⟨#[100,105,115,116,105,110,99,116]⟩] 9))):=lu [dU] _ _ _ _ (Ss.made w0 [dU] _ rfl aj) aj;unfold nU at KU;have DV:=zq KU;clear KU;go_enter func56,ntmps56
 go_wp2_with (first
  | ((with_reducible refine DV.out.mono ?_);rintro e w1 ⟨A3,n3,cap3,L3,rfl,hK,TU⟩;have HK:=zq (lX.since (Ev.alloc w0 _) hK);have sH:=zq TU;clear hK TU p0 p1 p2 p3 p4 p5 p6 p7;obtain⟨⟨p0,p1,p2,p3,p4,p5,p6,p7⟩,_⟩:=(HX.out.ev HK.out.ev).eight))
 have qQ:Hid (L3.length<=30000):=zq (by have:=axc List.length sH.out;simp at this;omega);obtain⟨hd,uh⟩:∃hd,hd=L3.map M.t:=⟨_,rfl⟩
 have Bq:Hid (R=dG (hd++m.kids.map λx=>aH x.p)):=zq (by rw[zG.out,uh,sH.out]);have xq:=zq uh;clear uh
 go_loopw [3,93] (λkv iv wr=>∃(A1:Option Addr) (n1 cap1 j:Nat) (L:List M),kv=.slice A1 n1 cap1/\iv=↑j/\j<=m.kids.length/\Hid (lX w0 A1 n1 cap1 L wr)/\Hid (L.map M.t=hd++(m.kids.take j).map λx=>aH x.p)) (λ_ iv _=>m.kids.length-(intOf iv).toNat)
 case atStart=>exact⟨_,n3,cap3,0,L3,rfl,rfl,awJ _,HK,zq (by rw[xq.out];simp)⟩
 case round=>
  obtain⟨A1,n1,cap1,j,L,rfl,rfl,hj,HS,HR⟩:=hrel;have jy:=zq (HE.out.trans HS.out.ev);by_cases hlt:j<m.kids.length;exact ayJ;exact ayQ
theorem NQ(m:PM)(b0:Nat)(w:ak)(h:Qx b0 [] w m)(hk:m.kind=2)(hrx:∀x∈m.ex.l,dX x.t=true/\x.t.size<=16000/\x.t.every (λt=>decide (t.s.length<=1000000))=true)(hel:m.ex.l.length<=10000)(hkn:m.kids.length<=10000)(ih:∀x∈m.kids,∀w1,Ev w w1->Calls ax 56 #[pv x] w1 (gB (aH x.p) w1)):
  Calls ax 56 #[pv m] w (gB (aH m.p) w):=by
 have ed:Tryz.prog.follows .mixedOrders=true:=ah;have zL:=zu m;rw[hk]at zL;obtain⟨R,hR⟩:∃R,R=aH m.p:=⟨_,rfl⟩
 rw[<-hR]at zL|-;have zG:Hid (R=dG (([eP].map aS++(m.ex.l.map M.t).map xTree)++m.kids.map λx=>aH x.p)):=zq zL;obtain⟨hex,hlx,xQ,pJ,hrt,yz,BM,QA⟩:=h.at;have qO:=h.ps;have qM:=h.ps.le;have Vy:=h.ps.max;have lM:=zq ih;unfold pv fH.v PM.kv gB;unfold pv fH.v PM.kv gB at lM;rw[hk];clear BM QA h;generalize m.A=mA at*;generalize m.cap=kL at*;have tJ:=zq qO;obtain⟨w0,hw0,aV,hX,hB⟩:=Au w (.int .i64 2) ↑m.name (.slice m.ex.A m.ex.l.length m.ex.cap) (.slice m.co.A m.co.l.length m.co.cap) (.slice m.lf.A m.lf.l.length m.lf.cap) (.slice m.rt.A m.rt.l.length m.rt.cap) (.slice m.ag.A m.ag.l.length m.ag.cap) (.slice mA m.kids.length kL);obtain⟨⟨p0,p1,p2,p3,p4,p5,p6,p7⟩,_⟩:=hX.eight;have HX:=zq hX;have HB:=zq hB;have HE:=zq aV;have GL:=zq hex;have TS:=zq hlx;have mg:=zq hkn;clear zL hX hB aV hex hlx xQ pJ hrt yz ih hR hk qO;have hes:=GL.out.sl;have TW:=hes.le;have hem:=hes.max;have HTR:=zq (λx (hx:x∈m.ex.l) w1 (hE:Ev w w1)=>Yc x b0 w1 ((TS.out x hx).ev hE) (hrx x hx).1 (hrx x hx).2.1 (hrx x hx).2.2);unfold gB xZ M.kv at HTR;have HEL:=zq hel;generalize m.ex.A=eA at*;generalize m.ex.cap=Zv at*;have Oy:=zq hes;clear hes hrx hel;have KU:Calls ax 100 #[.slice (some ⟨↑w0,0,none⟩) 1 1] (w0.alloc (.cells #[.string ⟨#[102,105,108,116,101,114]⟩] 9)) (nU ([eP].map aS) (w0.alloc (.cells #[.string ⟨#[102,105,108,116,101,114]⟩] 9))):=lu [eP] _ _ _ _ (Ss.made w0 [eP] _ rfl aj) aj;unfold nU at KU;have DV:=zq KU;clear KU;go_enter func56,ntmps56
 go_wp2_with (first
  | ((with_reducible refine DV.out.mono ?_);rintro e w1 ⟨A3,n3,cap3,L3,rfl,hK,TU⟩;have HK:=zq (lX.since (Ev.alloc w0 _) hK);have sH:=zq TU;clear hK TU p0 p1 p2 p3 p4 p5 p6 p7;obtain⟨⟨p0,p1,p2,p3,p4,p5,p6,p7⟩,_⟩:=(HX.out.ev HK.out.ev).eight))
 go_loopw [3,25] (λkv iv wr=>∃(A1:Option Addr) (n1 cap1 j:Nat) (L:List M),kv=.slice A1 n1 cap1/\iv=↑j/\j<=m.ex.l.length/\Hid (lX w0 A1 n1 cap1 L wr)/\Hid (L.map M.t=[eP].map aS++(m.ex.l.take j).map λx=>xTree x.t)) (λ_ iv _=>m.ex.l.length-(intOf iv).toNat)
 case atStart=>exact⟨_,n3,cap3,0,L3,rfl,rfl,awJ _,HK,zq (by rw[sH.out];simp)⟩
 case round=>
  obtain⟨A5,n5,cap5,j,L5,rfl,rfl,hj,HS,HR⟩:=hrel;have jy:=zq (HE.out.trans HS.out.ev);clear p0 p1 p2 p3 p4 p5 p6 p7;obtain⟨⟨p0,p1,p2,p3,p4,p5,p6,p7⟩,_⟩:=(HX.out.ev HS.out.ev).eight;by_cases hlt:j<m.ex.l.length
  ·obtain⟨x,hx⟩:=Oy.out.at hlt;obtain⟨b,off,rfl,hb,x0,x1,x2,x3⟩:=Es.cell (Oy.out.ev jy.out) hx;unfold M.kv at x3;have gJ:=awG hx;have jP:Hid ((m.ex.l.take (j+1)).map (λx=>xTree x.t)=(m.ex.l.take j).map (λx=>xTree x.t)++[xTree x.t]):=zq (by
    obtain⟨hk2,e⟩:=awz.1 hx;rw[awH hk2,e,awM];rfl)
   have HI:=zq (HTR.out x gJ);have uf:=zq HS.out.len;have jd:Hid (L5.length<=10001):=zq (by
    have h5:=axc List.length HR.out;rw[awE,awD,awD,awD,axa]at h5;have:=HEL.out;simp at h5;omega)
   have i1:(0:Int)<=(j:Int):=ae;have i2:(j:Int)<(m.ex.l.length:Int):=ae;clear hx gJ
   go_wp2_with (first
    | ((with_reducible refine(HI.out _ (jy.out.trans (Ev.alloc wr _))).mono ?_);rintro e w5 ⟨x',rfl,jM,iH,aN⟩;have qK:=zq jM;have pX:=zq iH;have E1:=zq ((Ev.alloc wr _).trans aN);clear jM iH)
    | ((show wpList _ _ _ (⟨some 33,_,_,_,_,_⟩::_) _ _);refine aO (o:=⟨some 33,_,_,_,_,_⟩) rfl 99 (.tmp 29) (.tmp 32) rfl ik underlying99 Tryz.infoTree rfl rfl (HS.out.own.ev (E1.out.trans (Ev.alloc w5 _))) ↑w5 1 1 [x'] rfl (Sl.one (et:=101) ik w5 x' _ rfl) (by have:=jd.out;simp;omega) (by have:=jd.out;simp;omega) ((HS.out.ev.trans E1.out).trans (Ev.alloc w5 _)).size ?_;intro v2 w2 dY;obtain⟨A2,cap2,rfl,ST2⟩:=HS.out.next (E1.out.trans (Ev.alloc w5 _)) ((pX.out.low (Ev.alloc wr (.cells ↑(x,()) 47)).size).ev (Ev.alloc w5 _)) dY))
   go_roundw
   case rel=>exact⟨A2,n5+1,cap2,j+1,L5++[x'],rfl,by go_num,ae,zq ST2,zq (by rw[jP.out,awM,HR.out,show [x'].map M.t=[xTree x.t] by rw[awI,awY,qK.out],aw1])⟩
   case measure=>simp[intOf];omega
  obtain rfl:j=m.ex.l.length:=ae;have ach:Hid (L5.map M.t=[eP].map aS++(m.ex.l.map M.t).map xTree):=zq (by rw[HR.out,axk,awT];rfl);go_wp2;have kT:=HS;have qQ:Hid (L5.length<=30000):=zq (by have:=axc List.length ach.out;simp at this;have:=HEL.out;omega);obtain⟨hd,uh⟩:∃hd,hd=L5.map M.t:=⟨_,rfl⟩
  have Bq:Hid (R=dG (hd++m.kids.map λx=>aH x.p)):=zq (by rw[zG.out,uh,ach.out]);have xq:=zq uh;clear uh
  go_loopw [3,93] (λkv iv wr=>∃(A1:Option Addr) (n1 cap1 j:Nat) (L:List M),kv=.slice A1 n1 cap1/\iv=↑j/\j<=m.kids.length/\Hid (lX w0 A1 n1 cap1 L wr)/\Hid (L.map M.t=hd++(m.kids.take j).map λx=>aH x.p)) (λ_ iv _=>m.kids.length-(intOf iv).toNat)
  case atStart=>exact⟨_,n5,cap5,0,L5,rfl,rfl,awJ _,kT,zq (by rw[xq.out];simp)⟩
  case round=>
   obtain⟨A1,n1,cap1,j,L,rfl,rfl,hj,HS,HR⟩:=hrel;have jy:=zq (HE.out.trans HS.out.ev);by_cases hlt:j<m.kids.length;obtain⟨x,hx⟩:=tJ.out.at hlt;obtain⟨b,off,rfl,KR,_⟩:=tJ.out.rd ae;obtain⟨x0,x1,x2,x3,x4,x5,x6,x7⟩:=Ps.cell (tJ.out.ev jy.out) hx;unfold fH.v PM.kv at*;have gJ:=awG hx;have jP:Hid ((m.kids.take (j+1)).map (λx=>aH x.p)=(m.kids.take j).map (λx=>aH x.p)++[aH x.p]):=zq (by
    obtain⟨hk2,e⟩:=awz.1 hx;rw[awH hk2,e,awM];rfl)
   have HI:=zq (λw1 (hE:Ev w w1)=>lM.out x gJ w1 hE);have uf:=zq HS.out.len;exact ayP;exact ayQ
def FO(b0:Nat)(Ts:List T)(K:List Nat)(v:au)(u:ak):Prop:=∃A n cap L,v=.slice A n cap/\n=L.length/\L.map M.t=Ts/\Lies b0 K u (.mk 1 [] 0 A cap L 0)
theorem FO.jf(b0:Nat)(Ts:List T):JF (FO b0 Ts):=⟨λK v u u' hE ⟨A,n,cap,L,e,h1,h2,h3⟩=>⟨A,n,cap,L,e,h1,h2,h3.ev hE⟩,λK v u hK ⟨A,n,cap,L,e,h1,h2,h3⟩=>⟨A,n,cap,L,e,h1,h2,h3.less λk hk=>.inr (.inr (hK k hk))⟩⟩
theorem nU.fo{Ts:List T}{w:ak}{e:Ending}{w':ak}{b0:Nat}{K:List Nat}(h:nU Ts w e w')(hb:b0<=w.heap.size)(hK:∀k∈K,k<w.heap.size):∃v,e=.returned v/\FO b0 Ts K v w'/\Ev w w':=by obtain⟨A,n,cap,L,rfl,h1,h2⟩:=h;obtain⟨h3,h4⟩:=h1.done;exact⟨_,rfl,⟨A,n,cap,L,rfl,h4,h2,(h3.less λk hk=>.inr (.inl (hK k hk))).low hb⟩,h1.ev⟩
theorem nU.fm{Ts:List T}{w:ak}{e:Ending}{w':ak}{b0:Nat}{K:List Nat}(h:nU Ts w e w')(hb:b0<=w.heap.size)(hK:∀k∈K,k<w.heap.size):∃v,e=.returned v/\FM b0 Ts K v w'/\Ev w w':=by obtain⟨v,rfl,h1,h2,h3⟩:=h.p0 (awC _);obtain⟨A,n,cap,L,e,h4,h5,h6⟩:=h1.fm rfl;exact⟨v,rfl,⟨A,n,cap,L,e,h4,h5,λx hx=>((h6 x hx).less λk hk=>.inr (.inl (hK k hk))).low hb⟩,h3⟩
theorem IC{ρ:Operand->au}{o:Oper}{x y:Operand}(m m':M)(ho:o.op=.buildSlice 99 2 #[(0,x),(1,y)])(h:ρ x=.agg ↑m)(h':ρ y=.agg ↑m')(w:ak):
  (execOp ρ o).run ax w=.ok (.value (.slice ↑w 2 2)) (w.alloc (.cells ↑(m,m') 101)):=by
 unfold execOp;rw[ho];simp[h,h',go_sem]
theorem FT.slice2{b0:Nat}{t t':T}{K:List Nat}{u:ak}(x y:M)(h:x.t=t)(h':y.t=t')(hl:Lies b0 K u x)(hl':Lies b0 K u y):FM b0 [t,t'] K (.slice ↑u 2 2) (u.alloc (.cells ↑(x,y) 101)):=by
 have hm:Ms (u.alloc (.cells ↑(x,y) 101)) ↑u 2 2 [x,y]:=by
  obtain⟨A,cap,hv,hS,_⟩:=(Ow.made (et:=101) (base:=u.heap.size) ik u [x,y] ↑(x,y) rfl (awC _) aj).form ik;injection hv with h1 _ h3
  subst h1 h3;exact hS
 refine⟨_,2,2,[x,y],rfl,hm,by rw[awI,awI,awY,h,h'],λz hz=>?_⟩;simp at hz;rcases hz with rfl|rfl;exact hl.ev aB;exact hl'.ev aB
theorem aBF(h:U:=by
 have bC:a.eval (.tmp 1)=.pointer ↑w:=(c.was 1 rfl)
 generalize a.eval=ρ at bC|-;simp[execOp,bC,go_sem]):U:=h
theorem aB1(h:U:=by exact⟨ay rfl,v_,w_,hr_,trivial,But.yx c.inv KR λy hy=>(Ic.qA y hy).1,trivial,Qy⟩):U:=h
theorem KZ(m:PM)(b0:Nat)(w:ak)(h:Qx b0 [] w m)(hk:m.kind=3)(hrx:∀x∈m.ex.l,dX x.t=true/\x.t.size<=16000/\x.t.every (λt=>decide (t.s.length<=1000000))=true)(hel:m.ex.l.length<=10000)(TW:m.ex.l.length=m.co.l.length)(hkn:m.kids.length<=10000)(ih:∀x∈m.kids,∀w1,Ev w w1->Calls ax 56 #[pv x] w1 (gB (aH x.p) w1)):
  Calls ax 56 #[pv m] w (gB (aH m.p) w):=by
 have ed:Tryz.prog.follows .mixedOrders=true:=ah;have zL:=zu m;rw[hk]at zL;obtain⟨R,hR⟩:∃R,R=aH m.p:=⟨_,rfl⟩
 rw[<-hR]at zL|-;have zG:Hid (R=dG (([cZ].map aS++List.zipWith b_ m.co.l (m.ex.l.map M.t))++m.kids.map λx=>aH x.p)):=zq zL;obtain⟨hex,hlx,xQ,pJ,hrt,yz,BM,QA⟩:=h.at;have qO:=h.ps;have qM:=h.ps.le;have Vy:=h.ps.max;have lM:=zq ih;unfold pv fH.v PM.kv gB;unfold pv fH.v PM.kv gB at lM;rw[hk];clear BM QA h;generalize m.A=mA at*;generalize m.cap=kL at*;have tJ:=zq qO;obtain⟨w0,hw0,aV,hX,hB⟩:=Au w (.int .i64 3) ↑m.name (.slice m.ex.A m.ex.l.length m.ex.cap) (.slice m.co.A m.co.l.length m.co.cap) (.slice m.lf.A m.lf.l.length m.lf.cap) (.slice m.rt.A m.rt.l.length m.rt.cap) (.slice m.ag.A m.ag.l.length m.ag.cap) (.slice mA m.kids.length kL);obtain⟨⟨p0,p1,p2,p3,p4,p5,p6,p7⟩,_⟩:=hX.eight;have HX:=zq hX;have HB:=zq hB;have HE:=zq aV;have GL:=zq hex;have TS:=zq hlx;have EE:=zq xQ;have mg:=zq hkn;clear zL hX hB aV hex hlx xQ pJ hrt yz ih hR hk qO;have Ye:Hid (∀w1,Ev w w1->Calls ax 102 #[.slice m.co.A m.co.l.length m.co.cap,.slice m.ex.A m.ex.l.length m.ex.cap] w1 (nU (List.zipWith b_ m.co.l (m.ex.l.map M.t)) w1)):=zq (λw1 hE=>by rw[TW];exact KX m.co.l m.ex.l _ _ _ _ _ b0 w1 (EE.out.sl.ev hE) (by have:=GL.out.sl.ev hE;rwa [TW]at this) ae (λx hx=>(TS.out x hx).ev hE) hrx);have HEL:=zq hel;clear hrx hel GL EE TS TW;generalize m.ex.A=eA at*;generalize m.ex.cap=Zv at*;generalize m.co.A=coA at*;generalize m.co.cap=TZ at*;go_enter func56,ntmps56;go_upto_region 13 with fail
 have Ib:∀f∈([(6,43,FM w0.heap.size (List.zipWith b_ m.co.l (m.ex.l.map M.t)))]:List (Nat×Nat×(List Nat->au->ak->Prop))),JF f.2.2:=λf hf=>by simp only[awN,axn,axR]at hf;rcases hf with rfl<;>first|exact FT.jf _ _|exact FM.jf _ _|exact FO.jf _ _
 have JNE:∀f∈([(6,43,FM w0.heap.size (List.zipWith b_ m.co.l (m.ex.l.map M.t)))]:List (Nat×Nat×(List Nat->au->ak->Prop))),f.1≠1/\f.2.1≠38:=λf hf=>by simp only[awN,axn,axR]at hf;rcases hf with rfl<;>simp
 have JD:∀i∈([6]:List Nat),∀dd,(i,dd)∈([(6,43)]:List (Nat×Nat))->∀f∈([(6,43,FM w0.heap.size (List.zipWith b_ m.co.l (m.ex.l.map M.t)))]:List (Nat×Nat×(List Nat->au->ak->Prop))),f.1≠i->f.2.1≠dd:=λi hi dd hd f hf hne=>by simp only[awN,axn,axR,Prod.mk.injEq]at hf hd;rcases hf with rfl<;>(simp only at hne|-;omega)
 refine jE ed (λu=>Ev w0 u) (λp _ _=>match p with|0=>True|_+1=>False) [7] (λ_ _=>True) [0] [[7,8]] 7 [Yd cZ,λ_ _=>True,λv _=>v=.pointer (some ⟨w.heap.size,3,none⟩),λv _=>v=.slice coA m.co.l.length TZ,λv _=>v=.pointer (some ⟨w.heap.size,2,none⟩),λv _=>v=.slice eA m.ex.l.length Zv,λ_ _=>True,xm w0.heap.size ([cZ].map aS++(List.zipWith b_ m.co.l (m.ex.l.map M.t))),xm w0.heap.size ([cZ].map aS++(List.zipWith b_ m.co.l (m.ex.l.map M.t)))]
  105 1 rfl ah ⟨Yd.mono _,eH,az _,az _,az _,az _,eH,xm.mono _ _,xm.mono _ _,trivial⟩ ⟨Or.inl rfl,aZ,aZ,aZ,aZ,aZ,aZ,Or.inr λp=>match p with|0=>Or.inl rfl|_+1=>Or.inr λ_ _ _ hb h=>hb.elim,Or.inr λp=>match p with|0=>Or.inl rfl|_+1=>Or.inr λ_ _ _ hb h=>hb.elim,trivial⟩ ah rfl ah (λ_ _ _ _ _=>trivial) (λu u' hE h=>h.trans hE) aK (trivial) ah (GJ 1 38 (xm w0.heap.size ([cZ].map aS)) [(6,43,FM w0.heap.size (List.zipWith b_ m.co.l (m.ex.l.map M.t)))]) [1,6] ah (λL L' a a' u u' hL ha hE h=>GJ.keep (λv u u' hE h=>h.ev hE) Ib (hL 1 ai) (λf hf=>by simp only[awN,axn,axR]at hf;rcases hf with rfl<;>exact hL _ aj) (ha 1 ai _ ah) (λf hf=>by simp only[awN,axn,axR]at hf;rcases hf with rfl;exact ha 6 aj 43 ah) hE h) (λL hL=>GJ.none hL) ?_ ?_ ?_ ?_
 ·refine aJ 0 ?_ (cO 1 ai (aJ 2 ?_ (aJ 3 ?_ (aJ 4 ?_ (aJ 5 ?_ (cO 6 ai (cO 7 ai (aJ 8 ?_ (oD 9)))))))));refine uO λa wq c=>⟨(ay rfl),_,_,qB cZ rfl (evc a _) wq,Ev.alloc _ _,c.inv.trans (Ev.alloc wq _),⟨_,rfl,Ss.made wq [cZ] _ rfl aj⟩⟩
  refine bu λa wq c=>⟨(ay rfl),.pointer (some ⟨w.heap.size,3,none⟩),?_,rfl⟩
  exact aBF
  ·refine bu λa wq c=>⟨(ay rfl),.slice coA m.co.l.length TZ,?_,rfl⟩
   have bC:a.eval (.tmp 39)=.pointer (some ⟨w.heap.size,3,none⟩):=(c.new 2 39)
   have q0:=(c.inv.cell (p:=⟨w.heap.size,3,none⟩) HX.out.lt).trans p3;generalize a.eval=ρ at bC|-;simp[execOp,bC,q0,go_sem]
  refine bu λa wq c=>⟨(ay rfl),.pointer (some ⟨w.heap.size,2,none⟩),?_,rfl⟩
  exact aBF
  ·refine bu λa wq c=>⟨(ay rfl),.slice eA m.ex.l.length Zv,?_,rfl⟩
   have bC:a.eval (.tmp 41)=.pointer (some ⟨w.heap.size,2,none⟩):=(c.new 4 41)
   have q0:=(c.inv.cell (p:=⟨w.heap.size,2,none⟩) HX.out.lt).trans p2;generalize a.eval=ρ at bC|-;simp[execOp,bC,q0,go_sem]
  refine bu λa w c=>⟨(ay rfl),_,run_assign _ rfl w,(c.new 7 44)⟩
 refine iW rfl ?_ (iW rfl ?_ BF);refine mr λa wq L c hs hp hu hg=>?_;obtain⟨g_,e_,hS_⟩:=(c.got 0 37 ah ah ah rfl:Yd cZ _ _)
 refine⟨ay rfl,100,#[.slice ↑g_ 1 1],?_,?_⟩;rw[bT 100 _ _ rfl ah];simp[e_];refine(lu [cZ] _ 1 1 wq hS_ ae).mono ?_;rintro r wp wJ;obtain⟨v_,rfl,Ic,wI,mX⟩:=wJ.p0 (b0:=w0.heap.size) c.inv.size;exact⟨v_,rfl,mX,c.inv.trans mX,trivial,λL' h1 h2=>GJ.first Ib hg hu mX JNE (axC (by decide:38<105) hs.symm) Ic wI h1 h2⟩;refine mr λa wq L c hs hp hu hg=>?_;have bC:a.eval (.tmp 40)=.slice coA m.co.l.length TZ:=(c.new 3 40)
 have iO:a.eval (.tmp 42)=.slice eA m.ex.l.length Zv:=(c.new 5 42)
 refine⟨ay rfl,102,#[.slice coA m.co.l.length TZ,.slice eA m.ex.l.length Zv],?_,?_⟩;rw[bT 102 _ _ rfl ah];simp[bC,iO];refine(Ye.out wq (HE.out.trans c.inv)).mono ?_;rintro r wp wJ;obtain⟨v_,rfl,NP,mX⟩:=wJ.fm (b0:=w0.heap.size) c.inv.size hg.old;exact⟨v_,rfl,mX,c.inv.trans mX,trivial,λL' h1 h2=>GJ.other (λv u u' hE h=>h.ev hE) Ib hg mX ai (JD 6 aj 43 aj) (axC (by decide:43<105) hs.symm) (λf hf he=>by have tK:=NP;simp only[awN,axn,axR]at hf;rcases hf with rfl;exact⟨rfl,tK⟩) h1 h2⟩;refine fQ 0 rfl ?_ (pq 1);refine uP λa wq c st hg=>?_;obtain⟨L_,WE,hG_⟩:=hg rfl;have Ic:=hG_.1 (WE 1 ah);have NP:=hG_.2 (6,43,FM w0.heap.size (List.zipWith b_ m.co.l (m.ex.l.map M.t))) aj (WE 6 ah);rw[if_pos (WE 1 ah)]at NP;obtain⟨v_,w_,hr_,Qy,KR⟩:=lC (o:=⟨some 44,_,_,_,_,_⟩) rfl rfl rfl Ic NP (by rw[ax6,awD];simp;have:=HEL.out;omega) c.inv.size;exact aB1;intro sl w1 hI hold hnew hst;obtain⟨A3,n3,cap3,L3,f3,Yf,hL3⟩:=(hnew 8 3:xm w0.heap.size ([cZ].map aS++(List.zipWith b_ m.co.l (m.ex.l.map M.t))) (sl 3) w1)
 have f0:sl 0=.agg #[.int .i64 3,↑m.name,.slice eA m.ex.l.length Zv,.slice coA m.co.l.length TZ,.slice m.lf.A m.lf.l.length m.lf.cap,.slice m.rt.A m.rt.l.length m.rt.cap,.slice m.ag.A m.ag.l.length m.ag.cap,.slice mA m.kids.length kL]:=hold 0;have f1:sl 1=.pointer ↑w:=hold 1;have f2:sl 2=.pointer (some ⟨w.heap.size+1,0,none⟩):=hold 2;have f4:_=undef:=hold 4;have f5:_=undef:=hold 5;have f6:_=undef:=hold 6;have f7:_=undef:=hold 7;have f8:_=undef:=hold 8;have f9:_=undef:=hold 9;have f10:sl 10=.pointer ↑w:=hold 10;have f11:sl 11=.int .i64 3:=hold 11;have f12:sl 12=.bool false:=hold 12;have f13:sl 13=.bool false:=hold 13;have f14:_=undef:=hold 14;have f15:_=undef:=hold 15;have f16:_=undef:=hold 16;have f17:_=undef:=hold 17;have f18:sl 18=.bool false:=hold 18;have f19:sl 19=.bool false:=hold 19;have f20:_=undef:=hold 20;have f21:_=undef:=hold 21;have f22:_=undef:=hold 22;have f23:_=undef:=hold 23;have f24:_=undef:=hold 24;have f25:_=undef:=hold 25;have f26:_=undef:=hold 26;have f27:_=undef:=hold 27;have f28:_=undef:=hold 28;have f29:_=undef:=hold 29;have f30:_=undef:=hold 30;have f31:_=undef:=hold 31;have f32:_=undef:=hold 32;have f33:_=undef:=hold 33;have f34:_=undef:=hold 34;have f35:sl 35=.bool true:=hold 35;have f36:sl 36=.bool true:=hold 36;have f45:_=undef:=hold 45;have f46:_=undef:=hold 46;have f47:_=undef:=hold 47;have f48:_=undef:=hold 48;have f49:_=undef:=hold 49;have f50:_=undef:=hold 50;have f51:_=undef:=hold 51;have f52:_=undef:=hold 52;have f53:_=undef:=hold 53;have f54:_=undef:=hold 54;have f55:_=undef:=hold 55;have f56:_=undef:=hold 56;have f57:_=undef:=hold 57;have f58:_=undef:=hold 58;have f59:_=undef:=hold 59;have f60:_=undef:=hold 60;have f61:_=undef:=hold 61;have f62:_=undef:=hold 62;have f63:_=undef:=hold 63;have f64:_=undef:=hold 64;have f65:_=undef:=hold 65
 have f66:_=undef:=hold 66;have f67:_=undef:=hold 67;have f68:_=undef:=hold 68;have f69:_=undef:=hold 69;have f70:_=undef:=hold 70;have f71:_=undef:=hold 71;have f72:_=undef:=hold 72;have f73:_=undef:=hold 73;have f74:_=undef:=hold 74;have f75:_=undef:=hold 75;have f76:_=undef:=hold 76;have f77:_=undef:=hold 77;have f78:_=undef:=hold 78;have f79:_=undef:=hold 79;have f80:_=undef:=hold 80;have f81:_=undef:=hold 81;have f82:_=undef:=hold 82;have f83:_=undef:=hold 83;have f84:_=undef:=hold 84;have f85:_=undef:=hold 85;have f86:_=undef:=hold 86;have f87:_=undef:=hold 87;have f88:_=undef:=hold 88;have f89:_=undef:=hold 89;have f90:_=undef:=hold 90;have f91:_=undef:=hold 91;have f92:_=undef:=hold 92;have f93:_=undef:=hold 93;have f94:_=undef:=hold 94;have f95:_=undef:=hold 95;have f96:_=undef:=hold 96;have f97:_=undef:=hold 97;have f98:_=undef:=hold 98;have f99:_=undef:=hold 99;have f100:_=undef:=hold 100;have f101:_=undef:=hold 101;have f102:_=undef:=hold 102;have f103:_=undef:=hold 103;have f104:_=undef:=hold 104;change (_:Act->ak->Prop) ⟨_,_⟩ _;simp only[List.range,List.range.loop,List.map];simp only[f3,f0,f1,f2,f4,f5,f6,f7,f8,f9,f10,f11,f12,f13,f14,f15,f16,f17,f18,f19,f20,f21,f22,f23,f24,f25,f26,f27,f28,f29,f30,f31,f32,f33,f34,f35,f36,f45,f46,f47,f48,f49,f50,f51,f52,f53,f54,f55,f56,f57,f58,f59,f60,f61,f62,f63,f64,f65,f66,f67,f68,f69,f70,f71,f72,f73,f74,f75,f76,f77,f78,f79,f80,f81,f82,f83,f84,f85,f86,f87,f88,f89,f90,f91,f92,f93,f94,f95,f96,f97,f98,f99,f100,f101,f102,f103,f104];clear hold hnew hst;have HK:=zq (⟨Yf.own,Yf.len,Yf.lies,hI⟩:lX w0 A3 n3 cap3 L3 w1);have sH:=zq hL3;clear Yf hL3 hI Ib JNE JD p0 p1 p2 p3 p4 p5 p6 p7;obtain⟨⟨p0,p1,p2,p3,p4,p5,p6,p7⟩,_⟩:=(HX.out.ev HK.out.ev).eight;go_wp2
 have qQ:Hid (L3.length<=30000):=zq (by have:=axc List.length sH.out;rw[awE,awD,awD,ax6,awD]at this;simp at this;have:=HEL.out;omega);obtain⟨hd,uh⟩:∃hd,hd=L3.map M.t:=⟨_,rfl⟩
 have Bq:Hid (R=dG (hd++m.kids.map λx=>aH x.p)):=zq (by rw[zG.out,uh,sH.out]);have xq:=zq uh;clear uh
 go_loopw [3,93] (λkv iv wr=>∃(A1:Option Addr) (n1 cap1 j:Nat) (L:List M),kv=.slice A1 n1 cap1/\iv=↑j/\j<=m.kids.length/\Hid (lX w0 A1 n1 cap1 L wr)/\Hid (L.map M.t=hd++(m.kids.take j).map λx=>aH x.p)) (λ_ iv _=>m.kids.length-(intOf iv).toNat)
 case atStart=>exact⟨_,n3,cap3,0,L3,rfl,rfl,awJ _,HK,zq (by rw[xq.out];simp)⟩
 case round=>
  obtain⟨A1,n1,cap1,j,L,rfl,rfl,hj,HS,HR⟩:=hrel;have jy:=zq (HE.out.trans HS.out.ev);by_cases hlt:j<m.kids.length;exact ayJ;exact ayQ
end Go.Proofs.YtpbfokkocaemlaaGreatDoor
