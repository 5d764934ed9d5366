import Derived.Test.YtpbfokkocaemlaaGreatDoorZ26S
import Derived.Test.YtpbfokkocaemlaaGreatDoorZ21S
set_option linter.unusedVariables false
set_option maxRecDepth 100000
set_option maxHeartbeats 64000000
namespace Go.Proofs.YtpbfokkocaemlaaGreatDoor
open Go.RowKit
open Go.Lib renaming hid → zq
structure eU (α:Type) where
 A:Option Addr
 cap:Nat
 l:List α
def eU.v {α:Type} (x:eU α):Value:=.slice x.A x.l.length x.cap
def eU.nil {α:Type}:eU α:=⟨none,0,[]⟩
def ac (a:Ag):List Value:=[.string ⟨a.1.toArray⟩,.string ⟨a.2.1.toArray⟩,.string ⟨a.2.2.toArray⟩]
abbrev As:=Sl 3 ac
theorem yT:Enc 3 ac:=⟨by omega,fun _=>rfl,fun x u hu=>by
 simp[ac]at hu;rcases hu with rfl|rfl|rfl<;>rfl⟩
inductive PM where
 | mk (kind:Int) (name:By) (ex:eU M) (co lf rt:eU By) (ag:eU Ag) (A:Option Addr) (cap:Nat) (kids:List PM):PM
def PM.kind:PM→Int
 | .mk k _ _ _ _ _ _ _ _ _=>k
def PM.name:PM→By
 | .mk _ s _ _ _ _ _ _ _ _=>s
def PM.ex:PM→eU M
 | .mk _ _ x _ _ _ _ _ _ _=>x
def PM.co:PM→eU By
 | .mk _ _ _ x _ _ _ _ _ _=>x
def PM.lf:PM→eU By
 | .mk _ _ _ _ x _ _ _ _ _=>x
def PM.rt:PM→eU By
 | .mk _ _ _ _ _ x _ _ _ _=>x
def PM.ag:PM→eU Ag
 | .mk _ _ _ _ _ _ x _ _ _=>x
def PM.A:PM→Option Addr
 | .mk _ _ _ _ _ _ _ a _ _=>a
def PM.cap:PM→Nat
 | .mk _ _ _ _ _ _ _ _ c _=>c
def PM.kids:PM→List PM
 | .mk _ _ _ _ _ _ _ _ _ l=>l
mutual
def PM.p:PM→Pl
 | .mk k s ex co lf rt ag _ _ l=>.mk k s (ex.l.map M.t) co.l lf.l rt.l ag.l (PM.ps l)
def PM.ps:List PM→List Pl
 | []=>[]
 | m::l=>m.p::PM.ps l
end
theorem PM.Zq:∀l:List PM,PM.ps l=l.map PM.p
 | []=>by simp[PM.ps]
 | m::l=>by simp[PM.ps,PM.Zq l]
theorem PM.pY (m:PM):m.p=.mk m.kind m.name (m.ex.l.map M.t) m.co.l m.lf.l m.rt.l m.ag.l (m.kids.map PM.p):=by
 cases m
 simp[PM.p,PM.Zq,PM.kind,PM.name,PM.ex,PM.co,PM.lf,PM.rt,PM.ag,PM.kids]
def PM.kv (m:PM):Value:=.slice m.A m.kids.length m.cap
def pc (m:PM):List Value:=[.int .i64 m.kind,.string ⟨m.name.toArray⟩,m.ex.v,m.co.v,m.lf.v,m.rt.v,m.ag.v,m.kv]
def pv (m:PM):Value:=.agg #[.int .i64 m.kind,.string ⟨m.name.toArray⟩,m.ex.v,m.co.v,m.lf.v,m.rt.v,m.ag.v,m.kv]
theorem qU:Enc 8 pc:=⟨by omega,fun _=>rfl,fun x u hu=>by
 simp[pc,eU.v,PM.kv]at hu;rcases hu with rfl|rfl|rfl|rfl|rfl|rfl|rfl|rfl<;>rfl⟩
abbrev Ps:=Sl 8 pc
def QI (b0:Nat) (K:List Nat) (w:World) (A:Option Addr):Prop:=∀ad,A=some ad→b0≤ad.block∧ad.block<w.heap.size∧ad.block∉K
theorem QI.none (b0:Nat) (K:List Nat) (w:World):QI b0 K w none:=fun _ e=>by cases e
theorem QI.move {b0:Nat} {K K':List Nat} {w w':World} {A:Option Addr} (h:QI b0 K w A) (hb:But K w w') (hs:∀x∈K',x∈K∨x<b0∨w.heap.size≤x):QI b0 K' w' A:=fun ad e=>by obtain⟨h1,h2,h3⟩:=h ad e;refine⟨h1,atM h2 hb.size,fun hm=>?_⟩;rcases hs _ hm with h4|h4|h4;exact h3 h4;omega;omega
theorem QI.low {b0 b1:Nat} {K:List Nat} {w:World} {A:Option Addr} (h:QI b1 K w A) (hb:b0≤b1):QI b0 K w A:=fun ad e=>⟨atP hb (h ad e).1,(h ad e).2⟩
structure aX {α:Type} (k:Nat) (enc:α→List Value) (b0:Nat) (K:List Nat) (w:World) (x:eU α):Prop where
 sl:Sl k enc w x.A x.l.length x.cap x.l
 z_:QI b0 K w x.A
theorem aX.move {α:Type} {k:Nat} {enc:α→List Value} {b0:Nat} {K K':List Nat} {w w':World} {x:eU α} (h:aX k enc b0 K w x) (hb:But K w w') (hs:∀y∈K',y∈K∨y<b0∨w.heap.size≤y):aX k enc b0 K' w' x:=
 ⟨h.sl.but hb fun ad e=>(h.z_ ad e).2.2,h.z_.move hb hs⟩
theorem aX.low {α:Type} {k:Nat} {enc:α→List Value} {b0 b1:Nat} {K:List Nat} {w:World} {x:eU α} (h:aX k enc b1 K w x) (hb:b0≤b1):aX k enc b0 K w x:=⟨h.sl,h.z_.low hb⟩
theorem aX.nil {α:Type} (k:Nat) (enc:α→List Value) (b0:Nat) (K:List Nat) (w:World):aX k enc b0 K w (eU.nil:eU α):=⟨Sl.nil_ w,QI.none _ _ _⟩
inductive Qx (b0:Nat) (K:List Nat) (w:World):PM→Prop
 | mk {kind:Int} {name:By} {ex:eU M} {co lf rt:eU By} {ag:eU Ag} {A:Option Addr} {cap:Nat} {kids:List PM}:aX 4 ec b0 K w ex→(∀e∈ex.l,Lx b0 K w e)→aX 1 sc b0 K w co→aX 1 sc b0 K w lf→aX 1 sc b0 K w rt→aX 3 ac b0 K w ag→
   aX 8 pc b0 K w ⟨A,cap,kids⟩→(∀k∈kids,Qx b0 K w k)→Qx b0 K w (.mk kind name ex co lf rt ag A cap kids)
theorem Qx.at {b0:Nat} {K:List Nat} {w:World} {m:PM} (h:Qx b0 K w m):aX 4 ec b0 K w m.ex∧(∀e∈m.ex.l,Lx b0 K w e)∧aX 1 sc b0 K w m.co∧aX 1 sc b0 K w m.lf∧aX 1 sc b0 K w m.rt∧aX 3 ac b0 K w m.ag∧aX 8 pc b0 K w ⟨m.A,m.cap,m.kids⟩∧∀k∈m.kids,Qx b0 K w k:=by
 cases h with
 | mk h1 h2 h3 h4 h5 h6 h7 h8=>exact⟨h1,h2,h3,h4,h5,h6,h7,h8⟩
theorem Qx.kid {b0:Nat} {K:List Nat} {w:World} {m:PM} (h:Qx b0 K w m):∀k∈m.kids,Qx b0 K w k:=h.at.2.2.2.2.2.2.2
theorem Qx.ps {b0:Nat} {K:List Nat} {w:World} {m:PM} (h:Qx b0 K w m):Ps w m.A m.kids.length m.cap m.kids:=h.at.2.2.2.2.2.2.1.sl
theorem Qx.move {b0:Nat} {K K':List Nat} {w w':World} {m:PM} (h:Qx b0 K w m) (hb:But K w w') (hs:∀x∈K',x∈K∨x<b0∨w.heap.size≤x):Qx b0 K' w' m:=by
 induction h with
 | mk h1 h2 h3 h4 h5 h6 h7 h8 ih=>
  exact .mk (h1.move hb hs) (fun e he=>(h2 e he).move hb hs) (h3.move hb hs) (h4.move hb hs) (h5.move hb hs) (h6.move hb hs) (h7.move hb hs) ih
theorem Qx.ev {b0:Nat} {K:List Nat} {w w':World} {m:PM} (h:Qx b0 K w m) (hE:Ev w w'):Qx b0 K w' m:=h.move (But.aS hE) fun _ hx=>.inl hx
theorem Qx.low {b0 b1:Nat} {K:List Nat} {w:World} {m:PM} (h:Qx b1 K w m) (hb:b0≤b1):Qx b0 K w m:=by
 induction h with
 | mk h1 h2 h3 h4 h5 h6 h7 h8 ih=>exact .mk (h1.low hb) (fun e he=>(h2 e he).low hb) (h3.low hb) (h4.low hb) (h5.low hb) (h6.low hb) (h7.low hb) ih
theorem Qx.less {b0:Nat} {K K':List Nat} {w:World} {m:PM} (h:Qx b0 K w m) (hs:∀x∈K',x∈K∨x<b0∨w.heap.size≤x):Qx b0 K' w m:=h.move (But.refl _ _) hs
def jJ:PM:=.mk 0 [] .nil .nil .nil .nil .nil none 0 []
theorem gY:jJ.p=gQ:=by rw[PM.pY];rfl
theorem Qx.zero (b0:Nat) (K:List Nat) (w:World):Qx b0 K w jJ:=
 .mk (aX.nil ..) (fun _ h=>by cases h) (aX.nil ..) (aX.nil ..) (aX.nil ..) (aX.nil ..) (aX.nil ..) (fun _ h=>by cases h)
theorem Ps.cell {w:World} {b off n cap:Nat} {l:List PM} (h:Ps w (some ⟨b,off,none⟩) n cap l) {i:Nat} {x:PM} (hx:l[i]?=some x):
  w.cell? ⟨b,off+i*8,none⟩=some (.int .i64 x.kind)∧w.cell? ⟨b,off+i*8+1,none⟩=some (.string ⟨x.name.toArray⟩)∧w.cell? ⟨b,off+i*8+2,none⟩=some x.ex.v∧w.cell? ⟨b,off+i*8+3,none⟩=some x.co.v∧w.cell? ⟨b,off+i*8+4,none⟩=some x.lf.v∧w.cell? ⟨b,off+i*8+5,none⟩=some x.rt.v∧w.cell? ⟨b,off+i*8+6,none⟩=some x.ag.v∧w.cell? ⟨b,off+i*8+7,none⟩=some x.kv:=by
 have hi:=(atr.1 hx).1;have hl:=h.len;obtain⟨b',off',e,hlt,hc⟩:=h.rd (by omega);injection e with e
 injection e with e1 e2 _
 subst e1;subst e2;exact⟨hc i x hx 0 _ rfl,hc i x hx 1 _ rfl,hc i x hx 2 _ rfl,hc i x hx 3 _ rfl,hc i x hx 4 _ rfl,hc i x hx 5 _ rfl,hc i x hx 6 _ rfl,hc i x hx 7 _ rfl⟩
mutual
def PM.dep:PM→Nat
 | .mk _ _ _ _ _ _ _ _ _ l=>PM.deps l+1
def PM.deps:List PM→Nat
 | []=>0
 | m::l=>max m.dep (PM.deps l)
end
theorem PM.CO:∀(l:List PM) (k:PM),k∈l→k.dep≤PM.deps l
 | [],k,h=>by cases h
 | m::l,k,h=>by rcases atA.1 h with rfl|h;simp[PM.deps];omega;have:=PM.CO l k h;simp[PM.deps];omega
theorem PM.mX (m:PM):m.dep=PM.deps m.kids+1:=by cases m;rfl
theorem PM.lF {m k:PM} (h:k∈m.kids):k.dep<m.dep:=by have:=PM.CO m.kids k h;rw[PM.mX m];omega
theorem Ow.sle {α:Type} {et:TypeId} {k:Nat} {enc:α→List Value} {base:Nat} {w:World} {v:Value} {Z:List α} (E:Enc k enc) (h:Ow et k enc base w v Z):∃x:eU α,v=x.v∧x.l=Z∧aX k enc base [] w x:=by obtain⟨A,cap,hv,hS,hA⟩:=h.form E;exact⟨⟨A,cap,Z⟩,hv,rfl,hS,fun ad e=>⟨(hA ad e).2.1,(hA ad e).2.2.1,by simp⟩⟩
theorem nM:Enc 2 eP:=⟨by omega,fun _=>rfl,fun x u hu=>by
 simp[eP]at hu;rcases hu with rfl|rfl<;>rfl⟩
theorem Cs.I_ {w:World} {A:Option Addr} {n cap:Nat} {l:List C} (h:Cs w A n cap l) {i:Nat} {c:C} (hc:l[i]?=some c):∃b off,A=some ⟨b,off,none⟩∧w.cell? ⟨b,off+i*2,none⟩=some (.string c.1)∧w.cell? ⟨b,off+i*2+1,none⟩=some (.int .i64 c.2):=by have hi:=(atr.1 hc).1;have hl:=h.len;obtain⟨b,off,e,_,hcell⟩:=h.rd (by omega);exact⟨b,off,e,hcell i c hc 0 _ rfl,hcell i c hc 1 _ rfl⟩
structure CR where
 cols:List C
 why:Int
 name:ByteArray
def CR.zero:CR:=⟨[],0,⟨#[]⟩⟩
def CR.fail (r:CR) (why:Int) (nm:ByteArray):CR:=if r.why=0 then ⟨r.cols,why,nm⟩ else r
def dR (l:List C) (s:ByteArray):Int:=match iO l s with
 | some i=>(l.getD i (⟨#[]⟩,0)).2
 | none=>0
def CR.find (r:CR) (l:List C) (s:ByteArray):CR:=if (iO l s).isSome then r else r.fail 20 s
def CR.kind (r:CR) (l:List C) (e:T):CR:=if (xType l e).2=0 then r else r.fail (xType l e).2 ⟨#[]⟩
def CR.limit (r:CR):CR:=if 6<r.cols.length then r.fail 23 ⟨#[]⟩ else r
def CR.add (r:CR) (nm:ByteArray) (k:Int):CR:=let r1:=if (iO r.cols nm).isSome then r.fail 21 nm else r;⟨r1.cols++[(nm,k)],r1.why,r1.name⟩
structure fK (gr base:Nat) (r:CR) (v:Value) (w:World):Prop where
 box:Bx 58 gr #[v,.int .i64 r.why,.string r.name] w
 own:Ow 50 2 eP base w v r.cols
 gf:gr∉foot v
theorem fK.ev {gr base:Nat} {r:CR} {v:Value} {w w':World} (h:fK gr base r v w) (hE:Ev w w'):fK gr base r v w':=⟨h.box.ev hE,h.own.ev hE,h.gf⟩
theorem CR.f_ (r:CR) (why:Int) (nm:ByteArray):(r.fail why nm).cols=r.cols:=by unfold CR.fail;split<;>rfl
theorem mM (gr base:Nat) (r:CR) (v:Value) (why:Int) (nm:ByteArray) (w:World) (h:fK gr base r v w):
  Calls Tryz.prog 66 #[.pointer (some ⟨gr,0,none⟩),.int .i64 why,.string nm] w fun e w'=>e=.returned (.tuple #[])∧fK gr base (r.fail why nm) v w'∧But [gr] w w':=by
 obtain⟨⟨c0,c1,c2⟩,f0,f1,f2⟩:=h.box.three;have H:=zq h;clear h;by_cases hw:r.why=0
 ·have hO:r.fail why nm=⟨r.cols,why,nm⟩:=by unfold CR.fail;rw[if_pos hw]
  rw[hO];have h':(r.why==0)=true:=by simp[hw]
  go_enter Tryz.func66,Tryz.ntmps66;go_wp2;(try simp only[Exit.inBlock,Exit.then]);go_end0;have hb:But [gr] w ((w.setCell ⟨gr,1,none⟩ (.int .i64 why)).setCell ⟨gr,2,none⟩ (.string nm)):=(But.setCell ⟨gr,1,none⟩ _ (by simp)).then (But.setCell ⟨gr,2,none⟩ _ (by simp));refine⟨rfl,⟨?_,H.out.own.but hb (fun g hg=>by simp;intro e;exact H.out.gf (aB.2 (e▸hg))),H.out.gf⟩,hb⟩;have:=(H.out.box.set 1 (.int .i64 why)).set 2 (.string nm);simpa using this
 have h':(r.why==0)=false:=atp.2 hw;have hO:r.fail why nm=r:=by unfold CR.fail;rw[if_neg hw]
 rw[hO];go_enter Tryz.func66,Tryz.ntmps66;go_wp2;go_end0;exact⟨rfl,H.out,But.refl _ _⟩
theorem Ha (gr base:Nat) (r:CR) (v:Value) (l:List C) (A:Option Addr) (n cap:Nat) (s:ByteArray) (w:World) (h:fK gr base r v w) (hC:Cs w A n cap l):
  Calls Tryz.prog 71 #[.pointer (some ⟨gr,0,none⟩),.slice A n cap,.string s] w fun e w'=>e=.returned (.int .i64 (dR l s))∧fK gr base (r.find l s) v w'∧But [gr] w w':=by
 have HF:=zq (CQ (l:=l) s w hC);have hle:=hC.le;have hmx:=hC.max;have H:=zq h;have Na:=zq (fun w1 (hE:Ev w w1)=>mM gr base r v 20 s w1 (h.ev hE));unfold dR CR.find
 cases hf:iO l s with
 | none=>
  rw[hf]at HF;simp only[foundAt,Option.isSome_none,atE,if_false]at HF⊢;clear h hC hf;go_enter Tryz.func71,Tryz.ntmps71
  go_wp2_with (first
   | ((with_reducible refine (HF.out).mono ?_);rintro e w1 ⟨rfl,aH⟩;have E1:=zq aH;clear aH)
   | ((with_reducible refine (Na.out _ E1.out).mono ?_);rintro e w2 ⟨rfl,hR,hB⟩))
  go_ret;exact⟨rfl,hR,(But.aS E1.out).then hB⟩
 | some i=>
  rw[hf]at HF;simp only[foundAt,Option.isSome_some,if_true]at HF⊢;have NS:i<l.length:=by unfold iO at hf;exact (auQ.1 hf).1
  have hin:i<n:=by rw[←hC.len];exact NS
  obtain⟨c,hc⟩:=hC.at hin;have hgd:(l.getD i (⟨#[]⟩,0)).2=c.2:=by rw[aus,hc];rfl
  rw[hgd];have QJ:=zq (fun w1 (hE:Ev w w1)=>Cs.I_ (hC.ev hE) hc);obtain⟨b,off,hA,hb,_⟩:=hC.rd (by omega);subst hA;have i1:(0:Int)≤(i:Int):=by omega
  have i2:(i:Int)<(n:Int):=by omega
  clear h hC hf hc hgd;go_enter Tryz.func71,Tryz.ntmps71
  go_wp2_with (first
   | ((with_reducible refine (HF.out).mono ?_);rintro e w1 ⟨rfl,aH⟩;have E1:=zq aH;obtain⟨b',off',e',k0,k1⟩:=QJ.out _ aH;injection e' with e';injection e' with e1 e2 _;subst e1;subst e2;clear aH))
  go_ret;exact⟨rfl,H.out.ev E1.out,But.aS E1.out⟩
theorem CY (gr base:Nat) (r:CR) (A:Option Addr) (n cap:Nat) (w:World) (h:fK gr base r (.slice A n cap) w):
  Calls Tryz.prog 70 #[.pointer (some ⟨gr,0,none⟩)] w fun e w'=>e=.returned (.tuple #[])∧fK gr base r.limit (.slice A n cap) w'∧But [gr] w w':=by
 obtain⟨⟨c0,c1,c2⟩,f0,f1,f2⟩:=h.box.three;have hn:n=r.cols.length:=by obtain⟨A2,cap2,hv,_⟩:=h.own.form nM;injection hv with _ h2 _
 have H:=zq h;have Na:=zq (mM gr base r (.slice A n cap) 23 ⟨#[]⟩ w h);unfold CR.limit;rw[←hn];clear h hn;by_cases hl:6<n
 ·rw[if_pos hl];have i1:(6:Int)<(n:Int):=by omega
  go_enter Tryz.func70,Tryz.ntmps70
  go_wp2_with (first
   | ((with_reducible refine (Na.out).mono ?_);rintro e w2 ⟨rfl,hR,hB⟩))
  go_end0;exact⟨rfl,hR,hB⟩
 rw[if_neg hl];have i1:¬((6:Int)<(n:Int)):=by omega
 go_enter Tryz.func70,Tryz.ntmps70;go_wp2;go_end0;exact⟨rfl,H.out,But.refl _ _⟩
theorem VL (gr base:Nat) (r:CR) (v:Value) (m:M) (b0:Nat) (l:List C) (A:Option Addr) (n cap:Nat) (w:World) (h:fK gr base r v w) (hL:Lx b0 [] w m) (hC:Cs w A n cap l) (hsz:m.t.size≤16000) (hf:m.t.every (fun t=>decide (t.s.length≤1000000))=true):
  Calls Tryz.prog 68 #[.pointer (some ⟨gr,0,none⟩),.agg #[.int .i64 m.kind,.string ⟨m.s.toArray⟩,.int .i64 m.n,.slice m.A m.kids.length m.cap],.slice A n cap] w fun e w'=>e=.returned (.int .i64 (xType l m.t).1)∧fK gr base (r.kind l m.t) v w'∧But [gr] w w':=by
 have HT:=zq (fun w1 (hE:Ev w w1)=>abJ m b0 w1 A n cap l (hL.ev hE) (hC.ev hE) hsz hf);have aT:=Ev.alloc w (.cells #[.int .i64 m.kind,.string ⟨m.s.toArray⟩,.int .i64 m.n,.slice m.A m.kids.length m.cap] 47);have hB:=Bx.new 47 #[.int .i64 m.kind,.string ⟨m.s.toArray⟩,.int .i64 m.n,.slice m.A m.kids.length m.cap] w;obtain⟨⟨c0,c1,c2,c3⟩,_⟩:=hB.four;have H:=zq h;have dH:=zq aT;unfold CR.kind;unfold zA M.kv at HT;generalize xType l m.t=R at*;obtain⟨k,y⟩:=R;simp only at HT⊢;have Na:=zq (fun w1 (hE:Ev w w1)=>mM gr base r v y ⟨#[]⟩ w1 (h.ev hE));clear h hL hC hB aT;by_cases hy:y=0
 ·subst hy;rw[if_pos rfl];go_enter Tryz.func68,Tryz.ntmps68
  go_wp2_with (first
   | ((with_reducible refine (HT.out _ dH.out).mono ?_);rintro e w1 ⟨rfl,aH⟩;have E1:=zq (dH.out.trans aH);clear aH))
  go_ret;exact⟨rfl,H.out.ev E1.out,But.aS E1.out⟩
 rw[if_neg hy];have hyb:(y==0)=false:=atp.2 hy;go_enter Tryz.func68,Tryz.ntmps68
 go_wp2_with (first
  | ((with_reducible refine (HT.out _ dH.out).mono ?_);rintro e w1 ⟨rfl,aH⟩;have E1:=zq (dH.out.trans aH);clear aH)
  | ((with_reducible refine (Na.out _ E1.out).mono ?_);rintro e w2 ⟨rfl,hR,hB⟩))
 go_ret;exact⟨rfl,hR,(But.aS E1.out).then hB⟩
def Bl (l:List By) (s:ByteArray):Bool:=l.any fun x=>s.toList==x
theorem Xe {l:List By} {s:ByteArray} {k:Nat} {x:By} (h:Bl (l.take k) s=false) (hx:l[k]?=some x) (hne:(s.toList==x)=false):Bl (l.take (k+1)) s=false:=by obtain⟨hk,rfl⟩:=atr.1 hx;unfold Bl at h⊢;rw[atD hk,List.any_append,h];simpa using hne
theorem Zr {l:List By} {s:ByteArray} {k:Nat} {x:By} (hx:l[k]?=some x) (he:(s.toList==x)=true):Bl l s=true:=auM.2 ⟨x,atw hx,he⟩
def CR.once (r:CR) (ahead:List By) (s:ByteArray):CR:=if Bl ahead s then r.fail 21 s else r
theorem Ss.CZ {w:World} {A:Option Addr} {n cap:Nat} {l:List By} (h:Ss w A n cap l) {i:Nat} {x:By} (hx:l[i]?=some x):∃b off,A=some ⟨b,off,none⟩∧w.cell? ⟨b,off+i,none⟩=some (.string ⟨x.toArray⟩):=by have hi:=(atr.1 hx).1;have hl:=h.len;obtain⟨b,off,e,_,hc⟩:=h.rd (by omega);have:=hc i x hx 0 _ rfl;rw[avf,atW]at this;exact⟨b,off,e,this⟩
theorem QK (l:List By) (A:Option Addr) (n cap:Nat) (s:ByteArray) (w:World) (h:Ss w A n cap l):
  Calls Tryz.prog 120 #[.slice A n cap,.string s] w fun e w'=>∃i:Int,e=.returned (.int .i64 i)∧decide (0≤i)=Bl l s∧Ev w w':=by
 have hn:=h.le;have hm:=h.max;have HL:=zq h.len;have H:=zq h;clear h;go_enter Tryz.func120,Tryz.ntmps120;go_wp2
 go_loopw [8] (fun i wr=>∃k:Nat,k≤n∧i=.int .i64 (k:Int)∧Hid (Bl (l.take k) s=false)∧Hid (Ev w wr)) (fun i _=>n - (intOf i).toNat)
 case atStart=>exact⟨0,atG _,rfl,zq rfl,zq (Ev.refl _)⟩
 case round=>
  obtain⟨k,hk,rfl,HT,HE⟩:=hrel;by_cases hlt:k<n
  ·obtain⟨x,hx⟩:=H.out.at hlt;obtain⟨b,off,rfl,c0⟩:=Ss.CZ (H.out.ev HE.out) hx;have HX:=zq hx;have i1:(0:Int)≤(k:Int):=by omega
   have i2:(k:Int)<(n:Int):=by omega
   clear hx
   cases ht:(s.toList==x)
   ·have HF:=zq (Xe HT.out HX.out ht);go_wp2;go_roundw
    case rel=>exact⟨k+1,by omega,by go_num,HF,HE⟩
    case measure=>simp[intOf];omega
   have HF:=zq (Zr HX.out ht);go_wp2;go_ret;exact⟨(k:Int),rfl,by rw[HF.out];simp,HE.out⟩
  obtain rfl:k=n:=by omega
  have HF:Hid (Bl l s=false):=zq (by have:=HT.out;rwa [atJ (by rw[HL.out];exact att _)]at this);go_wp2;go_ret;exact⟨-1,rfl,by rw[HF.out];rfl,HE.out⟩
theorem yU (l:List By) (A:Option Addr) (n cap:Nat) (s:ByteArray) (w:World) (h:Ss w A n cap l):
  Calls Tryz.prog 73 #[.slice A n cap,.string s] w fun e w'=>e=.returned (.bool (Bl l s))∧Ev w w':=by
 have HI:=zq (QK l A n cap s w h);clear h;go_enter Tryz.func73,Tryz.ntmps73
 go_wp2_with (first|((with_reducible refine (HI.out).mono ?_);rintro e w1 ⟨i,rfl,hi,aH⟩;have HD:=zq hi;clear hi))
 go_ret;exact⟨by rw[←HD.out];rfl,aH⟩
theorem VM (gr base:Nat) (r:CR) (v:Value) (l:List By) (A:Option Addr) (n cap:Nat) (s:ByteArray) (w:World) (h:fK gr base r v w) (hS:Ss w A n cap l):
  Calls Tryz.prog 72 #[.pointer (some ⟨gr,0,none⟩),.slice A n cap,.string s] w fun e w'=>e=.returned (.tuple #[])∧fK gr base (r.once l s) v w'∧But [gr] w w':=by
 have HC:=zq (yU l A n cap s w hS);have H:=zq h;have Na:=zq (fun w1 (hE:Ev w w1)=>mM gr base r v 21 s w1 (h.ev hE));unfold CR.once;clear h hS
 cases hh:Bl l s
 ·rw[hh]at HC;clear hh;simp only[atE,if_false];go_enter Tryz.func72,Tryz.ntmps72
  go_wp2_with (first
   | ((with_reducible refine (HC.out).mono ?_);rintro e w1 ⟨rfl,aH⟩))
  go_end0;exact⟨rfl,H.out.ev aH,But.aS aH⟩
 rw[hh]at HC;clear hh;simp only[if_true];go_enter Tryz.func72,Tryz.ntmps72
 go_wp2_with (first
  | ((with_reducible refine (HC.out).mono ?_);rintro e w1 ⟨rfl,aH⟩;have E1:=zq aH;clear aH)
  | ((with_reducible refine (Na.out _ E1.out).mono ?_);rintro e w2 ⟨rfl,hR,hB⟩))
 go_end0;exact⟨rfl,hR,(But.aS E1.out).then hB⟩
theorem Tryz.Oz:(Tryz.prog.info? 50).map (fun i=>(i.zero,i.size,i.bytes))=some (some (.agg #[.string ⟨#[]⟩,.int .i64 0]),2,24):=by kernel_rfl
theorem fK.grow {gr base:Nat} {r:CR} {v v2:Value} {c:C} {w wq w3:World} (h:fK gr base r v w) (hE:Ev w wq) (hA:mW 50 2 eP base wq v (r.cols++[c]) v2 w3):
  fK gr base ⟨r.cols++[c],r.why,r.name⟩ v2 (w3.setCell ⟨gr,0,none⟩ v2)∧But (gr::foot v) w (w3.setCell ⟨gr,0,none⟩ v2)∧eX w v v2:=by
 obtain⟨ho,hb,hs⟩:=hA;have hB:=(h.box.ev hE).but hb h.gf;have hlt:=h.box.lt;have hbS:But [gr] w3 (w3.setCell ⟨gr,0,none⟩ v2):=But.setCell _ _ (by simp);have hg2:gr∉foot v2:=fun hm=>by rcases hs gr (aB.1 hm) with h1|h1;exact h.gf (aB.2 h1);have:=hE.size;omega
 refine⟨⟨?_,ho.but hbS fun g hg=>by simp;intro e;exact hg2 (aB.2 (e▸hg)),hg2⟩,?_,fun g hg=>?_⟩;have:=hB.set 0 v2;simpa using this;exact ((But.aS hE).then (hb.wide fun k hk=>.inl (aty _ hk))).then (hbS.wide fun k hk=>.inl (by simp at hk;subst hk;exact atz ..));rcases hs g hg with h1|h1;exact .inl h1;exact .inr (atP hE.size h1)
theorem fK.after {gr base:Nat} {r:CR} {v v2:Value} {Z:List C} {w wq w3:World} (h:fK gr base r v w) (hE:Ev w wq) (hA:mW 50 2 eP base wq v Z v2 w3):Bx 58 gr #[v,.int .i64 r.why,.string r.name] w3:=(h.box.ev hE).but hA.2.1 h.gf
def Bo (gr base:Nat) (r:CR) (v:Value) (w:World) (e:Ending) (w':World):Prop:=e=.returned (.tuple #[])∧∃v',fK gr base r v' w'∧But (gr::foot v) w w'∧eX w v v'
theorem fK.form {gr base:Nat} {r:CR} {v:Value} {w:World} (h:fK gr base r v w):∃A cap,v=.slice A r.cols.length cap∧Cs w A r.cols.length cap r.cols:=by obtain⟨A,cap,hv,hS,_⟩:=h.own.form nM;exact⟨A,cap,hv,hS⟩
theorem OA (gr base:Nat) (r:CR) (v:Value) (nm:ByteArray) (k:Int) (w:World) (h:fK gr base r v w) (hl:r.cols.length≤100000) (hb:base≤w.heap.size):
  Calls Tryz.prog 69 #[.pointer (some ⟨gr,0,none⟩),.string nm,.int .i64 k] w (Bo gr base (r.add nm k) v w):=by
 obtain⟨A,cap,rfl,hC⟩:=h.form;have HF:=zq (CQ (l:=r.cols) nm w hC);have hle:=hC.le;have hmx:=hC.max;have H:=zq h;have Na:=zq (fun w1 (hE:Ev w w1)=>mM gr base r (.slice A r.cols.length cap) 21 nm w1 (h.ev hE));obtain⟨⟨c0,c1,c2⟩,f0,f1,f2⟩:=h.box.three;unfold CR.add Bo;have HFC:=zq (CR.f_ r 21 nm);obtain⟨nl,hnl⟩:∃nl,nl=r.cols.length:=⟨_,rfl⟩
 have iQ:=zq hnl;rw[←hnl]at hl hle HF H Na c0⊢;clear h hC hnl
 cases hf:(iO r.cols nm).isSome
 ·rw[hf]at HF;simp only[atE,if_false];clear hf Na;go_enter Tryz.func69,Tryz.ntmps69
  go_wp2_with (first
   | ((with_reducible refine (HF.out).mono ?_);rintro e w1 ⟨rfl,aH⟩;have E1:=zq aH;have HW:=zq (H.out.ev aH);clear c0 c1 c2 f0 f1 f2;obtain⟨⟨c0,c1,c2⟩,f0,f1,f2⟩:=HW.out.box.three;clear aH)
   | ((show wpList _ _ _ (⟨some 30,_,_,_,_,_⟩::_) _ _);refine aK (o:=⟨some 30,_,_,_,_,_⟩) rfl 24 (.tmp 25) (.tmp 29) rfl nM Tryz.underlying24 Tryz.Oz rfl rfl (HW.out.own.ev (Ev.alloc _ _)) (some ⟨_,0,none⟩) 1 1 [(nm,k)] rfl (Sl.one (et:=50) nM _ (nm,k) _ rfl) (by rw[←iQ.out];simp;omega) (by rw[←iQ.out];simp;omega) (by have:=E1.out.size;simp;omega) ?_;intro v2 w3 gz;obtain⟨A2,cap2,rfl,nN,oH⟩:=gz.1.form nM;clear nN oH;generalize BX:List.length (_++[(nm,k)])=nn at gz⊢;clear BX;obtain⟨⟨k0,k1,k2⟩,g0,g1,g2⟩:=(HW.out.after (Ev.alloc _ _) gz).three;have HG:=zq (HW.out.grow (Ev.alloc _ _) gz);clear gz))
  go_end0;exact⟨rfl,_,HG.out.1,(But.aS E1.out).then HG.out.2.1,fun g hg=>(HG.out.2.2 g hg).imp_right fun h=>atP E1.out.size h⟩
 rw[hf]at HF;simp only[if_true];clear hf;obtain⟨R1,hR1⟩:∃R1,R1=r.fail 21 nm:=⟨_,rfl⟩
 rw[←hR1]at Na HFC⊢;have hRc:Hid (R1.cols.length=nl):=zq (by rw[HFC.out,iQ.out]);clear hR1;go_enter Tryz.func69,Tryz.ntmps69
 go_wp2_with (first
  | ((with_reducible refine (HF.out).mono ?_);rintro e w1 ⟨rfl,aH⟩;have E1:=zq aH;clear c0 c1 c2 f0 f1 f2;obtain⟨⟨c0,c1,c2⟩,f0,f1,f2⟩:=(H.out.ev aH).box.three;clear aH)
  | ((with_reducible refine (Na.out _ E1.out).mono ?_);rintro e w2 ⟨rfl,hR,hB⟩;have HW:=zq hR;have HB:=zq hB;clear c0 c1 c2 f0 f1 f2;obtain⟨⟨c0,c1,c2⟩,f0,f1,f2⟩:=HW.out.box.three;clear hR hB)
  | ((show wpList _ _ _ (⟨some 30,_,_,_,_,_⟩::_) _ _);refine aK (o:=⟨some 30,_,_,_,_,_⟩) rfl 24 (.tmp 25) (.tmp 29) rfl nM Tryz.underlying24 Tryz.Oz rfl rfl (HW.out.own.ev (Ev.alloc _ _)) (some ⟨_,0,none⟩) 1 1 [(nm,k)] rfl (Sl.one (et:=50) nM _ (nm,k) _ rfl) (by rw[hRc.out];simp;omega) (by rw[hRc.out];simp;omega) (by have:=E1.out.size;have:=HB.out.size;simp;omega) ?_;intro v2 w3 gz;obtain⟨A2,cap2,rfl,nN,oH⟩:=gz.1.form nM;clear nN oH;generalize BX:List.length (_++[(nm,k)])=nn at gz⊢;clear BX;obtain⟨⟨k0,k1,k2⟩,g0,g1,g2⟩:=(HW.out.after (Ev.alloc _ _) gz).three;have HG:=zq (HW.out.grow (Ev.alloc _ _) gz);clear gz))
 go_end0;refine⟨rfl,_,HG.out.1,((But.aS E1.out).then (HB.out.wide fun k hk=>.inl (by simp at hk;subst hk;exact atz ..))).then HG.out.2.1,fun g hg=>(HG.out.2.2 g hg).imp_right fun h=>atP (atP E1.out.size HB.out.size) h⟩
def CR.of (l:List C):CR:=⟨l,0,⟨#[]⟩⟩
def CR.agg (r:CR) (kid:List C) (a:Ag):CR:=
 if a.2.1==uj then (let r2:=(r.add (dh a.1) 1).find kid (dh a.2.2);if dR kid (dh a.2.2)=1 then r2 else r2.fail 22 (dh a.2.2))
 else if a.2.1==uk||a.2.1==um then (r.add (dh a.1) (dR kid (dh a.2.2))).find kid (dh a.2.2)
 else r.add (dh a.1) 1
structure DM where
 name:By
 A:Option Addr
 cap:Nat
 cols:List C
def dc (d:DM):List Value:=[.string ⟨d.name.toArray⟩,.slice d.A d.cols.length d.cap]
structure Ja (w:World) (A:Option Addr) (n cap:Nat) (l:List DM):Prop where
 sl:Sl 2 dc w A n cap l
 cols:∀d∈l,Cs w d.A d.cols.length d.cap d.cols
theorem Ja.ev {w w':World} {A:Option Addr} {n cap:Nat} {l:List DM} (h:Ja w A n cap l) (hE:Ev w w'):Ja w' A n cap l:=⟨h.sl.ev hE,fun d hd=>(h.cols d hd).ev hE⟩
theorem Ja.cell {w:World} {A:Option Addr} {n cap:Nat} {l:List DM} (h:Ja w A n cap l) {i:Nat} {d:DM} (hd:l[i]?=some d):∃b off,A=some ⟨b,off,none⟩∧b<w.heap.size∧w.cell? ⟨b,off+i*2,none⟩=some (.string ⟨d.name.toArray⟩)∧w.cell? ⟨b,off+i*2+1,none⟩=some (.slice d.A d.cols.length d.cap):=by have hi:=(atr.1 hd).1;have hl:=h.sl.len;obtain⟨b,off,e,hlt,hc⟩:=h.sl.rd (by omega);exact⟨b,off,e,hlt,hc i d hd 0 _ rfl,hc i d hd 1 _ rfl⟩
abbrev Df:=By×List C
def DM.df (d:DM):Df:=(d.name,d.cols)
def sK (D:List Df) (nm:By):CR:=match D.find? (fun d=>d.1==nm) with
 | some d=>CR.of d.2
 | none=>CR.zero.fail 20 (dh nm)
def ny (e:T) (kid:List C):CR:=let r:=(CR.of kid).kind kid e;if (xType kid e).1=1 then r else r.fail 22 ⟨#[]⟩
def uu (kid:List C) (r:CR) (ec:T×By):CR:=(r.kind kid ec.1).add (dh ec.2) (xType kid ec.1).1
def p_ (es:List T) (cs:List By) (kid:List C):CR:=((es.zip cs).foldl (uu kid) CR.zero).limit
def vz (lf rt:List By) (a b:List C) (r:CR) (i:Nat):CR:=
 let l:=dh (lf.getD i [])
 let m:=dh (rt.getD i [])
 let r4:=(((r.find a l).find b m).once (lf.take i) l).once (rt.take i) m
 if dR a l=dR b m then r4 else r4.fail 22 l
def oI (rt:List By) (r:CR) (c:C):CR:=if Bl rt c.1 then r else r.add c.1 c.2
def rM (lf rt:List By) (a b:List C):CR:=if lf.length=rt.length∧lf.length≠0 then (b.foldl (oI rt) ((List.range lf.length).foldl (vz lf rt a b) (CR.of a))).limit else (CR.of a).fail 23 ⟨#[]⟩
def qf (a b:List C) (r:CR) (i:Nat):CR:=if (a.getD i (⟨#[]⟩,0)).2=(b.getD i (⟨#[]⟩,0)).2 then r else r.fail 22 (a.getD i (⟨#[]⟩,0)).1
def oJ (a b:List C):CR:=if a.length=b.length then (List.range a.length).foldl (qf a b) (CR.of a) else (CR.of a).fail 23 ⟨#[]⟩
def rO (kid:List C) (r:CR) (nm:By):CR:=(r.find kid (dh nm)).add (dh nm) (dR kid (dh nm))
def xX (lf:List By) (ag:List Ag) (kid:List C):CR:=
 let r:=ag.foldl (fun r a=>r.agg kid a) (lf.foldl (rO kid) CR.zero)
 (if r.cols.length=0 then r.fail 23 ⟨#[]⟩ else r).limit
def Jb (D:List Df) (k:Int) (nm:By) (es:List T) (cs lf rt:List By) (ag:List Ag) (kids:List (List C)):CR:=
 if k=1 then sK D nm
 else if k=2 then ny (es.getD 0 dM) (kids.getD 0 [])
 else if k=3 then p_ es cs (kids.getD 0 [])
 else if k=4 then rM lf rt (kids.getD 0 []) (kids.getD 1 [])
 else if k=5 then oJ (kids.getD 0 []) (kids.getD 1 [])
 else if k=6 then CR.of (kids.getD 0 [])
 else xX lf ag (kids.getD 0 [])
def yA (l:List CR):Option CR:=l.find? fun r=>r.why !=0
mutual
def ckOf (D:List Df):Pl→CR
 | .mk k nm es cs lf rt ag l=>match yA (ckAll D l) with
  | some r=>r
  | none=>Jb D k nm es cs lf rt ag ((ckAll D l).map CR.cols)
def ckAll (D:List Df):List Pl→List CR
 | []=>[]
 | p::l=>ckOf D p::ckAll D l
end
theorem EC (D:List Df):∀l:List Pl,ckAll D l=l.map (ckOf D)
 | []=>by simp[ckAll]
 | p::l=>by simp[ckAll,EC D l]
theorem xY {l:List CR} (h:∀r∈l,r.why=0):yA l=none:=by unfold yA;rw[List.find?_eq_none];intro r hr;simp[h r hr]
theorem Xf {l:List CR} {k:Nat} {r:CR} (h0:∀x∈l.take k,x.why=0) (hr:l[k]?=some r) (hne:r.why≠0):yA l=some r:=by
 obtain⟨hk,hx⟩:=atr.1 hr;have hl:l=l.take k++r::l.drop (k+1):=by rw[←hx,avg,auy]
 unfold yA;rw[hl,List.find?_append,show (l.take k).find? (fun r=>r.why !=0)=none from by rw[List.find?_eq_none];intro x hx2;simp[h0 x hx2]];simp[hne]
theorem QL {l:List CR} (h:yA l=none):∀r∈l,r.why=0:=fun r hr=>by unfold yA at h;rw[List.find?_eq_none]at h;simpa using h r hr
theorem Nb {l:List CR} {r:CR} (h:yA l=some r):r.why≠0:=by unfold yA at h;have:=List.find?_some h;simpa using this
theorem CR.qV {r:CR} {why:Int} {nm:ByteArray} (hw:why≠0):(r.fail why nm).why≠0:=by unfold CR.fail;by_cases h:r.why=0<;>simp[h,hw]
theorem CR.Jc {r:CR} {l:List C} {s:ByteArray}:(r.find l s).why=0↔r.why=0∧(iO l s).isSome=true:=by unfold CR.find;cases h:(iO l s).isSome;simp only[atE,if_false,and_false,iff_false];exact CR.qV (by decide);simp
theorem CR.iC (r:CR) (l:List C) (s:ByteArray):(r.find l s).cols=r.cols:=by unfold CR.find;split;rfl;exact CR.f_ ..
theorem CR.mO (r:CR) (l:List By) (s:ByteArray):(r.once l s).cols=r.cols:=by unfold CR.once;split;exact CR.f_ ..;rfl
theorem CR.nV (r:CR) (l:List C) (e:T):(r.kind l e).cols=r.cols:=by unfold CR.kind;split;rfl;exact CR.f_ ..
theorem CR.jK (r:CR):r.limit.cols=r.cols:=by unfold CR.limit;split;exact CR.f_ ..;rfl
theorem CR.kU (r:CR) (nm:ByteArray) (k:Int):(r.add nm k).cols=r.cols++[(nm,k)]:=by unfold CR.add;simp only;split;rw[CR.f_];rfl
theorem CR.abU {r:CR} {nm:ByteArray} {k:Int}:(r.add nm k).why=0↔r.why=0∧(iO r.cols nm).isSome=false:=by unfold CR.add;cases h:(iO r.cols nm).isSome;simp;simp only[if_true];simp only[Bool.true_eq_false,and_false,iff_false];exact CR.qV (by decide)
theorem CR.QM {r:CR} {l:List C} {e:T}:(r.kind l e).why=0↔r.why=0∧(xType l e).2=0:=by unfold CR.kind;by_cases h:(xType l e).2=0;simp[h];rw[if_neg h];simp only[h,and_false,iff_false];exact CR.qV h
theorem CR.qg {r:CR}:r.limit.why=0↔r.why=0∧r.cols.length≤6:=by unfold CR.limit;by_cases h:6<r.cols.length;rw[if_pos h];constructor;intro h2;exact absurd h2 (CR.qV (by decide));intro h2;omega;rw[if_neg h];constructor;intro h2;exact⟨h2,by omega⟩;intro h2;exact h2.1
theorem CR.Zt {r:CR} {l:List By} {s:ByteArray}:(r.once l s).why=0↔r.why=0∧Bl l s=false:=by unfold CR.once;cases h:Bl l s;simp;simp only[if_true,Bool.true_eq_false,and_false,iff_false];exact CR.qV (by decide)
theorem CR.Zu (r:CR) (kid:List C) (a:Ag):(r.agg kid a).cols.length=r.cols.length+1:=by unfold CR.agg;split;simp only;split;rw[CR.iC,CR.kU];simp;rw[CR.f_,CR.iC,CR.kU];simp;split;rw[CR.iC,CR.kU];simp;rw[CR.kU];simp
theorem tH {α:Type} (f:CR→α→CR) (n:Nat) (hf:∀r x,(f r x).cols.length≤r.cols.length+n):∀(l:List α) (r:CR),(l.foldl f r).cols.length≤r.cols.length+l.length*n
 | [],r=>by simp
 | x::l,r=>by have h1:=tH f n hf l (f r x);have h2:=hf r x;rw[auR,atF,auU];omega
theorem xZ {α:Type} {f:CR→α→CR} {r:CR} {l:List α} {k:Nat} {x:α} (hx:l[k]?=some x):(l.take (k+1)).foldl f r=f ((l.take k).foldl f r) x:=by obtain⟨hk,rfl⟩:=atr.1 hx;rw[atD hk,auW];rfl
theorem vC {f:CR→Nat→CR} {r:CR} (k:Nat):(List.range (k+1)).foldl f r=f ((List.range k).foldl f r) k:=by rw[List.range_succ,auW];rfl
abbrev Rb (gr:Nat) (e:Er) (w:World):Prop:=Bx 106 gr #[.int .i64 e.1,.int .i64 (e.2:Int)] w
theorem Bx.two {T:TypeId} {g:Nat} {w:World} {v0 v1:Value} (h:Bx T g #[v0,v1] w):(w.cell? ⟨g,0,none⟩=some v0∧w.cell? ⟨g,1,none⟩=some v1)∧(w.frozen? ⟨g,0,none⟩=false∧w.frozen? ⟨g,1,none⟩=false):=
 ⟨⟨h.cell 0,h.cell 1⟩,h.frozen 0,h.frozen 1⟩
def set2 (g:Nat) (v0 v1:Value) (w:World):World:=(w.setCell ⟨g,0,none⟩ v0).setCell ⟨g,1,none⟩ v1
theorem Xh (g:Nat) (v0 v1:Value) (w:World):(w.setCell ⟨g,0,none⟩ v0).setCell ⟨g,1,none⟩ v1=set2 g v0 v1 w:=rfl
theorem Zy (g:Nat) (v0 v1:Value) (w:World):But [g] w (set2 g v0 v1 w):=(But.setCell ⟨g,0,none⟩ v0 (by simp)).then (But.setCell ⟨g,1,none⟩ v1 (by simp))
theorem Bx.set2 {T:TypeId} {g:Nat} {w:World} {u0 u1:Value} (h:Bx T g #[u0,u1] w) (v0 v1:Value):Bx T g #[v0,v1] (set2 g v0 v1 w):=by have:=(h.set 0 v0).set 1 v1;rw[show (((#[u0,u1]:Array Value).setIfInBounds 0 v0).setIfInBounds 1 v1)=#[v0,v1] by simp]at this;exact this
structure ig (gr:Nat) (e:Er) (w w':World):Prop where
 bx:Rb gr e w'
 but:But [gr] w w'
theorem ig.then {gr:Nat} {e e':Er} {w w1 w2:World} (h:ig gr e w w1) (k:ig gr e' w1 w2):ig gr e' w w2:=⟨k.bx,h.but.then k.but⟩
theorem ig.ev {gr:Nat} {e:Er} {w w1 w2:World} (h:ig gr e w w1) (hE:Ev w1 w2):ig gr e w w2:=⟨h.bx.ev hE,h.but.then (But.aS hE)⟩
theorem ig.of {gr:Nat} {e:Er} {w w1:World} (h:Rb gr e w) (hE:Ev w w1):ig gr e w w1:=⟨h.ev hE,But.aS hE⟩
theorem He (gr:Nat) (e:Er) (why:Int) (pos:Nat) (hy:why≠0) (w:World) (hB:Rb gr e w):
  Calls Tryz.prog 112 #[.pointer (some ⟨gr,0,none⟩),.int .i64 why,.int .i64 (pos:Int)] w fun r w'=>r=.returned (.tuple #[])∧ig gr (fB e (why,pos)) w w':=by
 obtain⟨⟨c0,c1⟩,f0,f1⟩:=hB.two;have HB:=zq hB;have hyb:(why==0)=false:=atp.2 hy;clear hB;by_cases h:e.1=0
 ·have hO:fB e (why,pos)=(why,pos):=by unfold fB;simp[h,hy]
  rw[hO];have h':(e.1==0)=true:=by simp[h]
  go_enter Tryz.func112,Tryz.ntmps112;go_wp2;(try simp only[Exit.inBlock,Exit.then]);rw[Xh];go_end0;exact⟨rfl,HB.out.set2 _ _,Zy _ _ _ _⟩
 have h':(e.1==0)=false:=atp.2 h;have hO:fB e (why,pos)=e:=by unfold fB;simp[h]
 rw[hO];go_enter Tryz.func112,Tryz.ntmps112;go_wp2;go_end0;exact⟨rfl,HB.out,But.refl _ _⟩
theorem Hf (gr:Nat) (e:Er) (m:M) (w:World) (hB:Rb gr e w):
  Calls Tryz.prog 113 #[.pointer (some ⟨gr,0,none⟩),.agg #[.int .i64 m.kind,.string ⟨m.s.toArray⟩,.int .i64 m.n,.slice m.A m.kids.length m.cap,.int .i64 (m.pos:Int)]] w fun r w'=>r=.returned (.string ⟨m.s.toArray⟩)∧ig gr (fB e (bn m.t)) w w':=by
 have hX:=Bx.new 101 #[.int .i64 m.kind,.string ⟨m.s.toArray⟩,.int .i64 m.n,.slice m.A m.kids.length m.cap,.int .i64 (m.pos:Int)] w;have aT:=Ev.alloc w (.cells #[.int .i64 m.kind,.string ⟨m.s.toArray⟩,.int .i64 m.n,.slice m.A m.kids.length m.cap,.int .i64 (m.pos:Int)] 101);have HN:=zq (fun w1=>wO ⟨m.s.toArray⟩ w1);have hn:bn m.t=if fM ⟨m.s.toArray⟩ then (0,0) else (20,m.pos):=by unfold bn jh dh;rw[M.tu,M.Ff]
 rw[hn];have HX:=zq hX;have HE:=zq aT;have HB:=zq hB;obtain⟨⟨c0,c1,c2,c3,c4⟩,_⟩:=hX.five;generalize fM ⟨m.s.toArray⟩=q at*;clear hX aT hB hn
 cases q
 ·have HF:=zq (fun w1 (hE:Ev w w1)=>He gr e 20 m.pos (by decide) w1 (HB.out.ev hE));go_enter Tryz.func113,Tryz.ntmps113
  go_wp2_with (first
   | ((with_reducible refine (HN.out _).mono ?_);rintro r w1 ⟨rfl,aH⟩;have nS:=zq (HE.out.trans aH);clear c0 c1 c2 c3 c4;obtain⟨⟨c0,c1,c2,c3,c4⟩,_⟩:=(HX.out.ev aH).five)
   | ((with_reducible refine (HF.out _ nS.out).mono ?_);rintro r w2 ⟨rfl,hR⟩;have HR:=zq hR;clear c0 c1 c2 c3 c4;obtain⟨⟨c0,c1,c2,c3,c4⟩,_⟩:=((HX.out.ev aH).but hR.but (by simp;have:=HB.out.lt;omega)).five;clear hR))
  go_ret;exact⟨rfl,HR.out.bx,(But.aS nS.out).then HR.out.but⟩
 go_enter Tryz.func113,Tryz.ntmps113
 go_wp2_with (first
  | ((with_reducible refine (HN.out _).mono ?_);rintro r w1 ⟨rfl,aH⟩;have nS:=zq (HE.out.trans aH);clear c0 c1 c2 c3 c4;obtain⟨⟨c0,c1,c2,c3,c4⟩,_⟩:=(HX.out.ev aH).five))
 go_ret;refine⟨rfl,?_⟩;rw[wR];exact ig.of HB.out nS.out
theorem AB (gr:Nat) (e:Er) (m:M) (b0:Nat) (w:World) (hB:Rb gr e w) (hL:Lies b0 [gr] w m) (hfair:m.t.every bZ=true) (hsz:m.t.size≤16000):
  Calls Tryz.prog 114 #[.pointer (some ⟨gr,0,none⟩),.agg #[.int .i64 m.kind,.string ⟨m.s.toArray⟩,.int .i64 m.n,.slice m.A m.kids.length m.cap,.int .i64 (m.pos:Int)]] w fun r w'=>∃x:M,r=.returned (zA x)∧x.t=(xRead m.t).1∧Lx w.heap.size [] w' x∧ig gr (fB e (jC m.t)) w w':=by
 obtain⟨w0,hw0,aT,hX,hR,hlt⟩:=I8 w (.int .i64 m.kind) (.string ⟨m.s.toArray⟩) (.int .i64 m.n) (.slice m.A m.kids.length m.cap) (.int .i64 (m.pos:Int));have hRD:=fun w1 (hE:Ev w w1)=>abT m b0 w1 ((hL.ev hE).less fun k hk=>by cases hk) hfair hsz;unfold jC;generalize xRead m.t=RR at*;obtain⟨RT,RE,RP⟩:=RR;unfold Ap at hRD;simp only at hRD⊢;have AL:=zq hRD;have HR:=zq hR;have HE:=zq aT;have HB:=zq hB;have hgr:=hB.lt;obtain⟨⟨c0,c1,c2,c3,c4⟩,_⟩:=hX.five;unfold zA M.kv;clear hX hR aT hB hRD hL hfair hsz;by_cases h:RE=0
 ·have hO:fB e (RE,RP)=e:=by unfold fB;simp[h]
  rw[hO];subst h;go_enter Tryz.func114,Tryz.ntmps114
  go_wp2_with (first
   | ((with_reducible refine (AL.out _ HE.out).mono ?_);rintro r w1 ⟨x,rfl,jg,iq,aH⟩;simp only[];have oW:=zq jg;have pz:=zq (iq.ev (Ev.alloc w1 (.cells #[.int .i64 x.kind,.string ⟨x.s.toArray⟩,.int .i64 x.n,.slice x.A x.kids.length x.cap] 47)));have nS:=zq (aH.trans (Ev.alloc w1 (.cells #[.int .i64 x.kind,.string ⟨x.s.toArray⟩,.int .i64 x.n,.slice x.A x.kids.length x.cap] 47)));obtain⟨⟨d0,d1,d2,d3⟩,_⟩:=(Bx.new 47 #[.int .i64 x.kind,.string ⟨x.s.toArray⟩,.int .i64 x.n,.slice x.A x.kids.length x.cap] w1).four;clear jg iq c0 c1 c2 c3 c4;obtain⟨⟨xO,xP,xQ,KL⟩,KN,KO,KP,KQ⟩:=(HR.out.ev nS.out).four))
  (try simp only[Exit.inBlock,Exit.then]);rw[dF];refine bodyPost_ret (aP rfl _ _ _ _ _ rfl ((HR.out.ev nS.out).jM _ _ _ _) Tryz.underlying47 rfl Tryz.dX) rfl ?_;obtain⟨f1,f2⟩:=mJ (g:=w.heap.size+1) (HE.out.trans nS.out) (by omega) pz.out hlt (.int .i64 x.kind) (.string ⟨x.s.toArray⟩) (.int .i64 x.n) (.slice x.A x.kids.length x.cap);exact⟨x,rfl,oW.out,f1,ig.of HB.out f2⟩
 have hb:(RE !=0)=true:=by simp[h]
 have HF:=zq (fun w1 (hE:Ev w w1)=>He gr e RE RP h w1 (HB.out.ev hE));go_enter Tryz.func114,Tryz.ntmps114
 go_wp2_with (first
  | ((with_reducible refine (AL.out _ HE.out).mono ?_);rintro r w1 ⟨x,rfl,jg,iq,aH⟩;simp only[];have oW:=zq jg;have pz:=zq (iq.ev (Ev.alloc w1 (.cells #[.int .i64 x.kind,.string ⟨x.s.toArray⟩,.int .i64 x.n,.slice x.A x.kids.length x.cap] 47)));have nS:=zq (aH.trans (Ev.alloc w1 (.cells #[.int .i64 x.kind,.string ⟨x.s.toArray⟩,.int .i64 x.n,.slice x.A x.kids.length x.cap] 47)));have HBX:=zq (Bx.new 47 #[.int .i64 x.kind,.string ⟨x.s.toArray⟩,.int .i64 x.n,.slice x.A x.kids.length x.cap] w1);have hw1:=zq (HE.out.trans aH).size;clear jg iq c0 c1 c2 c3 c4)
  | ((with_reducible refine (HF.out _ (HE.out.trans nS.out)).mono ?_);rintro r w2 ⟨rfl,jZ⟩;have Cb:=zq jZ;obtain⟨⟨d0,d1,d2,d3⟩,_⟩:=(HBX.out.but jZ.but (by simp;have:=hw1.out;omega)).four;obtain⟨⟨xO,xP,xQ,KL⟩,KN,KO,KP,KQ⟩:=((HR.out.ev nS.out).but jZ.but (by simp;omega)).four;clear jZ))
 (try simp only[Exit.inBlock,Exit.then]);rw[dF];have LP:=(HR.out.ev nS.out).but Cb.out.but (by simp;omega);refine bodyPost_ret (aP rfl _ _ _ _ _ rfl (LP.jM _ _ _ _) Tryz.underlying47 rfl Tryz.dX) rfl ?_;refine⟨x,rfl,oW.out,?_,Cb.out.bx.but (dW _ _ _ _ _ _) (by simp;omega),(((But.aS (HE.out.trans nS.out)).then Cb.out.but)).trans (dW _ _ _ _ _ _) (fun k hk=>by simp at hk;subst hk;exact .inr (by omega))⟩;have h1:Lx w0.heap.size [gr] _ x:=pz.out.less fun k hk=>by simp at hk;subst hk;exact .inr (.inl (by omega))
 have h2:=h1.move Cb.out.but fun k hk=>.inl hk;have h3:Lx w0.heap.size [w.heap.size+1] w2 x:=h2.less fun k hk=>by simp at hk;subst hk;exact .inr (.inl (by omega))
 exact (h3.move (dW _ _ _ _ _ _) fun k hk=>by cases hk).low (by omega)
structure yX {α:Type} (et:TypeId) (k:Nat) (enc:α→List Value) (w0:World) (gr:Nat) (A:Option Addr) (n cap:Nat) (L:List α) (e:Er) (w:World):Prop where
 own:Ow et k enc w0.heap.size w (.slice A n cap) L
 len:L.length=n
 rd:ig gr e w0 w
theorem yX.start {α:Type} (et:TypeId) (k:Nat) (enc:α→List Value) {w0:World} {gr:Nat} {e:Er} (hB:Rb gr e w0):yX et k enc w0 gr none 0 0 ([]:List α) e w0:=⟨Ow.nil_ _,rfl,hB,But.refl _ _⟩
theorem yX.next {α:Type} {et:TypeId} {k:Nat} {enc:α→List Value} (E:Enc k enc) {w0 wr wq w2:World} {gr n cap:Nat} {A:Option Addr} {L:List α} {e e':Er} {x:α} {v2:Value} (h:yX et k enc w0 gr A n cap L e wr) (hr:ig gr e' wr wq) (hg:gr<w0.heap.size) (hA:mW et k enc w0.heap.size wq (.slice A n cap) (L++[x]) v2 w2):
  ∃A2 cap2,v2=.slice A2 (n+1) cap2∧yX et k enc w0 gr A2 (n+1) cap2 (L++[x]) e' w2:=by
 obtain⟨ho,hb,hs⟩:=hA;obtain⟨A2,cap2,rfl,oZ,wQ⟩:=ho.form E;have hl:(L++[x]).length=n+1:=by rw[atv,h.len];rfl
 rw[hl]at ho hs oZ wQ⊢;have hown:=h.own.but hr.but (fun g xE=>by simp;have:=(h.own.lt xE).1;omega);refine⟨A2,cap2,rfl,ho,hl,?_,?_⟩;exact hr.bx.but hb fun hm=>by have:=(hown.lt (aB.1 hm)).1;omega
 exact (h.rd.but.then hr.but).trans hb fun y hy=>.inr (hown.lt (aB.1 hy)).1
theorem yX.owq {α:Type} {et:TypeId} {k:Nat} {enc:α→List Value} {w0 wr wq:World} {gr n cap:Nat} {A:Option Addr} {L:List α} {e e':Er} (h:yX et k enc w0 gr A n cap L e wr) (hr:ig gr e' wr wq) (hg:gr<w0.heap.size):Ow et k enc w0.heap.size wq (.slice A n cap) L:=
 h.own.but hr.but (fun g xE=>by simp;have:=(h.own.lt xE).1;omega)
theorem yX.size {α:Type} {et:TypeId} {k:Nat} {enc:α→List Value} {w0 wr wq:World} {gr n cap:Nat} {A:Option Addr} {L:List α} {e e':Er} (h:yX et k enc w0 gr A n cap L e wr) (hr:ig gr e' wr wq):w0.heap.size≤wq.heap.size:=atP h.rd.but.size hr.but.size
theorem Jf (gr:Nat) (e:Er) (l:List M) (A:Option Addr) (n cap b0:Nat) (w:World) (hB:Rb gr e w) (h:Ms w A n cap l) (hr:QI b0 [gr] w A) (hn:n≤100000):
  Calls Tryz.prog 117 #[.pointer (some ⟨gr,0,none⟩),.slice A n cap] w fun r w'=>∃x:eU By,r=.returned x.v∧x.l=l.map M.s∧aX 1 sc w.heap.size [] w' x∧ig gr (fB e (aQ (l.map fun x=>bn x.t))) w w':=by
 have hcl:=h.le;have hcm:=h.max;have HL:=zq h.len;have hgr:=hB.lt;have jR:=zq (yX.start 9 1 sc hB);have CE:=zq (fun w1 (hb:But [gr] w w1)=>h.but hb fun ad e=>(hr ad e).2.2);have HRN:=zq (fun m e w1 hB=>Hf gr e m w1 hB);clear hB h hr;go_enter Tryz.func117,Tryz.ntmps117;go_wp2
 go_loopw [5,10] (fun av iv wr=>∃(A1:Option Addr) (cap1 k:Nat) (E:Er),av=.slice A1 k cap1∧iv=.int .i64 (k:Int)∧k≤n∧Hid (E=(((l.take k).map fun x=>bn x.t).foldl fB e))∧Hid (yX 9 1 sc w gr A1 k cap1 ((l.take k).map M.s) E wr)) (fun _ iv _=>n - (intOf iv).toNat)
 case atStart=>exact⟨none,0,0,e,rfl,rfl,atG _,zq rfl,jR⟩
 case round=>
  obtain⟨A1,cap1,k,E,rfl,rfl,hk,ZB,HS⟩:=hrel;by_cases hlt:k<n
  ·obtain⟨x,hx⟩:=(CE.out w (But.refl _ _)).at hlt;obtain⟨b,off,rfl,hb,c0,c1,c2,c3,c4⟩:=Ms.cell (CE.out wr HS.out.rd.but) hx;unfold M.kv at c3;have pI:Hid ((l.take (k+1)).map M.s=(l.take k).map M.s++[x.s]∧((l.take (k+1)).map fun x=>bn x.t).foldl fB e=fB E (bn x.t)):=zq (by
    obtain⟨hk2,e1⟩:=atr.1 hx;rw[atD hk2,e1,atB,atB,auW,←ZB.out];exact⟨rfl,rfl⟩)
   have HN:=zq (HRN.out x E (wr.alloc (.cells #[.int .i64 x.kind,.string ⟨x.s.toArray⟩,.int .i64 x.n,.slice x.A x.kids.length x.cap,.int .i64 (x.pos:Int)] 101)) (HS.out.rd.bx.ev (Ev.alloc _ _)));have uS:=zq HS.out.len;have i1:(0:Int)≤(k:Int):=by omega
   have i2:(k:Int)<(n:Int):=by omega
   clear hx
   go_wp2_with (first
    | ((with_reducible refine (HN.out).mono ?_);rintro r w1 ⟨rfl,hR⟩;have HR:=zq ((⟨hR.bx,(But.aS (Ev.alloc wr (.cells #[.int .i64 x.kind,.string ⟨x.s.toArray⟩,.int .i64 x.n,.slice x.A x.kids.length x.cap,.int .i64 (x.pos:Int)] 101))).then hR.but⟩:ig gr _ wr w1).ev (Ev.alloc w1 (.cells #[.string ⟨x.s.toArray⟩] 9)));clear hR)
    | ((show wpList _ _ _ (⟨some 19,_,_,_,_,_⟩::_) _ _);refine aK (o:=⟨some 19,_,_,_,_,_⟩) rfl 22 (.tmp 14) (.tmp 18) rfl pG Tryz.underlying22 Tryz.G9 rfl rfl (HS.out.owq HR.out hgr) (some ⟨w1.heap.size,0,none⟩) 1 1 [x.s] rfl (Sl.one (et:=9) pG w1 x.s _ rfl) (by rw[uS.out];simp;omega) (by rw[uS.out];simp;omega) (HS.out.size HR.out) ?_;intro v2 w2 gz;obtain⟨A2,cap2,rfl,ST2⟩:=HS.out.next pG HR.out hgr gz))
   go_roundw
   case rel=>exact⟨A2,cap2,k+1,_,rfl,by go_num,by omega,zq pI.out.2.symm,zq (by rw[pI.out.1];exact ST2)⟩
   case measure=>simp[intOf];omega
  obtain rfl:k=n:=by omega
  have HF:Hid ((l.take k).map M.s=l.map M.s∧E=fB e (aQ (l.map fun x=>bn x.t))):=zq (by
   have h1:=ZB.out;rw[atJ (by rw[HL.out];exact att _)]at h1⊢;exact⟨rfl,by rw[h1,iV]⟩)
  go_wp2;go_ret;obtain⟨x,hxv,iq,SK⟩:=HS.out.own.sle pG;rw[hxv];exact⟨x,rfl,by rw[iq,HF.out.1],SK,HF.out.2▸HS.out.rd⟩
def OE (t:T):By:=if t.kind==1&&(decide (0<t.kids.length)&&bT (at_ t.kids 0)) then (at_ t.kids 0).s else []
theorem EE (m:M):OE m.t=if m.kind==1&&(decide (0<m.kids.length)&&bT (at_ (m.kids.map M.t) 0)) then (at_ (m.kids.map M.t) 0).s else []:=by unfold OE;rw[M.vW,M.aY,atq]
theorem ayj {P:Prop} (h:P:=by go_enter Tryz.func79,Tryz.ntmps79;go_wp2;go_ret;exact⟨rfl,dH.out⟩):P:=h
theorem jU (m:M) (b0:Nat) (w:World) (h:Lies b0 [] w m):
  Calls Tryz.prog 79 #[.agg #[.int .i64 m.kind,.string ⟨m.s.toArray⟩,.int .i64 m.n,.slice m.A m.kids.length m.cap,.int .i64 (m.pos:Int)]] w fun e w'=>e=.returned (.string ⟨(OE m.t).toArray⟩)∧Ev w w':=by
 have hB:=Bx.new 79 #[.int .i64 m.kind,.string ⟨m.s.toArray⟩,.int .i64 m.n,.slice m.A m.kids.length m.cap,.int .i64 (m.pos:Int)] w;have aT:=Ev.alloc w (.cells #[.int .i64 m.kind,.string ⟨m.s.toArray⟩,.int .i64 m.n,.slice m.A m.kids.length m.cap,.int .i64 (m.pos:Int)] 79);have fA:=h.ms;rw[EE];have dH:=zq aT;obtain⟨⟨c0,c1,c2,c3,c4⟩,_⟩:=hB.five;clear hB h;generalize NY:m.kind=kd at*;generalize Yj:m.A=mA at*;generalize hkn:m.kids.length=kn at*;generalize hmc:m.cap=mc at*;generalize Ym:m.kids=L at*;clear NY Yj hmc Ym;by_cases hk:kd=1;subst hk
 cases L with
 | nil=>
  obtain rfl:kn=0:=by simpa using hkn.symm
  clear fA aT;exact ayj
 | cons x q=>
  obtain⟨k,rfl⟩:∃k,kn=k+1:=⟨q.length,by simpa using hkn.symm⟩
  have hcl:=fA.le;obtain⟨b,off,rfl,hb,d0,d1,d2,d3,d4⟩:=Ms.cell (fA.ev aT) (i:=0) (x:=x) rfl;simp only[aud,atW]at d0 d1 d2 d3 d4;rw[atX (Nat.succ_pos k)];simp only[atx,at_,au2,kK,M.tu,auc,auA];clear fA aT hkn;by_cases hx:x.kind=2;rw[hx]at d0⊢;exact ayj;have hxb:(x.kind==2)=false:=atp.2 hx;rw[hxb];exact ayj
 have hkb:(kd==1)=false:=atp.2 hk;rw[hkb];clear fA aT;exact ayj
theorem Dh {A:Option Addr} {n cap:Nat} {l:List M} (w:World) (h:Ms w A n cap l):
  Calls Tryz.prog 123 #[.slice A n cap] w fun e w'=>e=.returned (.bool ((l.map M.t).all bT))∧Ev w w':=by
 have hn:=h.le;have hm:=h.max;have HL:=zq h.len;have HLA:Hid ((l.map M.t).all bT=l.all fun x=>bT x.t):=zq (by rw[auI];rfl);rw[HLA.out];have H:=zq h;clear h;go_enter Tryz.func123,Tryz.ntmps123;go_wp2
 go_loopw [3] (fun i wr=>∃k:Nat,k≤n∧i=.int .i64 (k:Int)∧Hid ((l.take k).all (fun x=>bT x.t)=true)∧Hid (Ev w wr)) (fun i _=>n - (intOf i).toNat)
 case atStart=>exact⟨0,atG _,rfl,zq (by simp),zq (Ev.refl _)⟩
 case round=>
  obtain⟨k,hk,rfl,HT,HE⟩:=hrel;by_cases hlt:k<n
  ·obtain⟨x,hx⟩:=H.out.at hlt;obtain⟨b,off,rfl,hb,c0,c1,c2,c3,c4⟩:=Ms.cell (H.out.ev HE.out) hx;have HX:=zq hx;have i1:(0:Int)≤(k:Int):=by omega
   have i2:(k:Int)<(n:Int):=by omega
   clear hx;by_cases hq:x.kind=2
   ·rw[hq]at c0;go_wp2;go_roundw
    case rel=>exact⟨k+1,by omega,by go_num,zq (by rw[qW HT.out HX.out,kK,hq];rfl),HE⟩
    case measure=>simp[intOf];omega
   go_wp2;go_ret;exact⟨by rw[all_false HX.out (by rw[kK];exact atp.2 hq)];rfl,HE.out⟩
  exact awX
def FN (t:T):By×Er:=if jh t.s then (t.s,(0,0)) else ([],(20,t.pos))
theorem zG (m:M) (w:World) (hs:m.s.length≤1000000):
  Calls Tryz.prog 80 #[.agg #[.int .i64 m.kind,.string ⟨m.s.toArray⟩,.int .i64 m.n,.slice m.A m.kids.length m.cap,.int .i64 (m.pos:Int)]] w fun e w'=>e=.returned (.tuple #[.string ⟨(FN m.t).1.toArray⟩,.int .i64 (FN m.t).2.1,.int .i64 ((FN m.t).2.2:Int)])∧Ev w w':=by
 have hX:=Bx.new 79 #[.int .i64 m.kind,.string ⟨m.s.toArray⟩,.int .i64 m.n,.slice m.A m.kids.length m.cap,.int .i64 (m.pos:Int)] w;have aT:=Ev.alloc w (.cells #[.int .i64 m.kind,.string ⟨m.s.toArray⟩,.int .i64 m.n,.slice m.A m.kids.length m.cap,.int .i64 (m.pos:Int)] 79);have HN:=zq (fun w1=>Eo ⟨m.s.toArray⟩ w1 (by show m.s.length≤maxLen;unfold maxLen;omega));have hn:FN m.t=if fM ⟨m.s.toArray⟩ then (m.s,(0,0)) else ([],(20,m.pos)):=by unfold FN jh dh;rw[M.tu,M.Ff]
 rw[hn];have HX:=zq hX;have HE:=zq aT;obtain⟨⟨c0,c1,c2,c3,c4⟩,_⟩:=hX.five;generalize fM ⟨m.s.toArray⟩=q at*;clear hX aT hn
 cases q
 ·go_enter Tryz.func80,Tryz.ntmps80;go_upto_region 2 with (first
   | ((with_reducible refine (HN.out _).mono ?_);rintro r w1 ⟨rfl,aH⟩;have nS:=zq (HE.out.trans aH);clear c0 c1 c2 c3 c4;obtain⟨⟨c0,c1,c2,c3,c4⟩,_⟩:=(HX.out.ev aH).five))
  go_quiet (fail)
  go_wp2
  go_ret3
  exact⟨rfl,nS.out.trans (Ev.drewN _ _)⟩
 go_enter Tryz.func80,Tryz.ntmps80
 go_wp2_with (first
  | ((with_reducible refine (HN.out _).mono ?_);rintro r w1 ⟨rfl,aH⟩;have nS:=zq (HE.out.trans aH);clear c0 c1 c2 c3 c4;obtain⟨⟨c0,c1,c2,c3,c4⟩,_⟩:=(HX.out.ev aH).five))
 go_ret3
 exact⟨rfl,nS.out⟩
theorem But.F8 {K:List Nat} {w w':World} (h:But K w w') {p:Addr} (hlt:p.block<w.heap.size) (hn:p.block∉K):w'.cell? p=w.cell? p:=World.cell?_of_block (h.block p.block hlt hn)
structure BJ (w0:World) (gr:Nat) (A1:Option Addr) (cap1:Nat) (N:List By) (A2:Option Addr) (cap2:Nat) (X:List M) (e:Er) (w:World):Prop where
 ns:Ow 9 1 sc w0.heap.size w (.slice A1 N.length cap1) N
 es:Ow 47 4 ec w0.heap.size w (.slice A2 X.length cap2) X
 apart:∀g,(Value.slice A1 N.length cap1).ownBlock=some g→(Value.slice A2 X.length cap2).ownBlock≠some g
 lies:∀x∈X,Lx w0.heap.size (foot (.slice A1 N.length cap1)++foot (.slice A2 X.length cap2)) w x
 rd:ig gr e w0 w
theorem BJ.start {w0:World} {gr:Nat} {e:Er} (hB:Rb gr e w0):BJ w0 gr none 0 [] none 0 [] e w0:=⟨Ow.nil_ _,Ow.nil_ _,(fun g h=>by cases h),(fun x hx=>by cases hx),hB,But.refl _ _⟩
theorem BJ.through {w0 wr wq:World} {gr:Nat} {A1 A2:Option Addr} {cap1 cap2:Nat} {N:List By} {X:List M} {e e':Er} (h:BJ w0 gr A1 cap1 N A2 cap2 X e wr) (hr:ig gr e' wr wq) (hg:gr<w0.heap.size):BJ w0 gr A1 cap1 N A2 cap2 X e' wq:=
 ⟨h.ns.but hr.but (fun g xE=>by simp;have:=(h.ns.lt xE).1;omega),h.es.but hr.but (fun g xE=>by simp;have:=(h.es.lt xE).1;omega),h.apart,
  fun x hx=>(((h.lies x hx).less (K':=gr::(foot (.slice A1 N.length cap1)++foot (.slice A2 X.length cap2))) fun y hy=>by
   rcases atA.1 hy with rfl|hy;exact .inr (.inl hg);exact .inl hy).move (hr.but.wide fun y hy=>.inl (by simp at hy;subst hy;exact atz ..)) fun y hy=>.inl (aty _ hy)),h.rd.then hr⟩
theorem axa {P:Prop} (h:P:=by rcases atK.1 hy with h1|h1;rcases hs y (aB.1 h1) with h2|h2;exact .inl (atO _ (aB.2 h2));exact .inr (.inr h2);exact .inl (auk _ h1)):P:=h
theorem BJ.name {w0 wq w2:World} {gr:Nat} {A1 A2:Option Addr} {cap1 cap2:Nat} {N:List By} {X:List M} {e:Er} {s:By} {v2:Value} (h:BJ w0 gr A1 cap1 N A2 cap2 X e wq) (hg:gr<w0.heap.size) (hA:mW 9 1 sc w0.heap.size wq (.slice A1 N.length cap1) (N++[s]) v2 w2):
  ∃Wx wH,v2=.slice Wx (N.length+1) wH∧BJ w0 gr Wx wH (N++[s]) A2 cap2 X e w2:=by
 obtain⟨ho,hb,hs⟩:=hA;obtain⟨Wx,wH,rfl,_,_⟩:=ho.form pG;have hl:(N++[s]).length=N.length+1:=by simp
 refine⟨Wx,wH,by rw[hl],ho,?_,?_,?_,?_⟩;exact h.es.but hb fun g xE hm=>h.apart g (aB.1 hm) xE;intro g xE he;rcases hs g xE with h1|h1;exact h.apart g h1 he;have:=(h.es.lt he).2;omega;intro x hx;refine (h.lies x hx).move (hb.wide fun y hy=>.inl (atO _ hy)) fun y hy=>?_;exact axa;exact⟨h.rd.bx.but hb fun hm=>by have:=(h.ns.lt (aB.1 hm)).1;omega,h.rd.but.trans hb fun y hy=>.inr (h.ns.lt (aB.1 hy)).1⟩
theorem awO {P:Prop} (h:P:=by refine hy2.move (hb.wide fun z hz=>.inl (auk _ hz)) fun z hz=>?_;rcases atK.1 hz with h1|h1;exact .inl (atO _ h1);rcases hs z (aB.1 h1) with h2|h2;exact .inl (auk _ (aB.2 h2));exact .inr (.inr h2)):P:=h
theorem BJ.expr {w0 wp wq w2:World} {gr:Nat} {A1 A2:Option Addr} {cap1 cap2:Nat} {N:List By} {X:List M} {e:Er} {x:M} {v2:Value} (h:BJ w0 gr A1 cap1 N A2 cap2 X e wq) (hg:gr<w0.heap.size) (hx:Lx wp.heap.size [] wq x) (hp0:w0.heap.size≤wp.heap.size)
  (hN:∀g,(Value.slice A1 N.length cap1).ownBlock=some g→g<wp.heap.size) (hX:∀g,(Value.slice A2 X.length cap2).ownBlock=some g→g<wp.heap.size)
  (hA:mW 47 4 ec w0.heap.size wq (.slice A2 X.length cap2) (X++[x]) v2 w2):
  ∃ZK y8,v2=.slice ZK (X.length+1) y8∧BJ w0 gr A1 cap1 N ZK y8 (X++[x]) e w2:=by
 obtain⟨ho,hb,hs⟩:=hA;obtain⟨ZK,y8,rfl,_,_⟩:=ho.form wM;have hl:(X++[x]).length=X.length+1:=by simp
 refine⟨ZK,y8,by rw[hl],?_,ho,?_,?_,?_⟩;exact h.ns.but hb fun g xE hm=>h.apart g xE (aB.1 hm);intro g xE he;rcases hs g he with h1|h1;exact h.apart g xE h1;have:=(h.ns.lt xE).2;omega;intro y hy;have hy2:Lx w0.heap.size (foot (.slice A1 N.length cap1)++foot (.slice A2 X.length cap2)) wq y:=by rcases atK.1 hy with h1|h1;exact h.lies y h1;simp at h1;subst h1;refine (hx.less fun k hk=>.inr (.inl ?_)).low hp0;rcases atK.1 hk with h2|h2;exact hN k (aB.1 h2);exact hX k (aB.1 h2)
 exact awO;exact⟨h.rd.bx.but hb fun hm=>by have:=(h.es.lt (aB.1 hm)).1;omega,h.rd.but.trans hb fun y hy=>.inr (h.es.lt (aB.1 hy)).1⟩
structure QY (w0:World) (gr:Nat) (A1:Option Addr) (cap1:Nat) (N:List By) (A2:Option Addr) (cap2:Nat) (X:List M) (e:Er) (gb:Nat) (bc:Array Value) (w:World):Prop where
 st:BJ w0 gr A1 cap1 N A2 cap2 X e w
 bx:Bx 101 gb bc w
 nr:gb≠gr
 n1:∀g,(Value.slice A1 N.length cap1).ownBlock=some g→gb≠g
 n2:∀g,(Value.slice A2 X.length cap2).ownBlock=some g→gb≠g
theorem QY.start {w0 wr:World} {gr:Nat} {A1 A2:Option Addr} {cap1 cap2:Nat} {N:List By} {X:List M} {e:Er} (h:BJ w0 gr A1 cap1 N A2 cap2 X e wr) (bc:Array Value):QY w0 gr A1 cap1 N A2 cap2 X e wr.heap.size bc (wr.alloc (.cells bc 101)):=
 ⟨⟨h.ns.ev (Ev.alloc _ _),h.es.ev (Ev.alloc _ _),h.apart,fun x hx=>(h.lies x hx).ev (Ev.alloc _ _),h.rd.ev (Ev.alloc _ _)⟩,Bx.new _ _ _,Nat.ne_of_gt h.rd.bx.lt,fun g hg=>Nat.ne_of_gt (h.ns.lt hg).2,fun g hg=>Nat.ne_of_gt (h.es.lt hg).2⟩
theorem QY.through {w0 wr wq:World} {gr gb:Nat} {bc:Array Value} {A1 A2:Option Addr} {cap1 cap2:Nat} {N:List By} {X:List M} {e e':Er} (h:QY w0 gr A1 cap1 N A2 cap2 X e gb bc wr) (hr:ig gr e' wr wq) (hg:gr<w0.heap.size):QY w0 gr A1 cap1 N A2 cap2 X e' gb bc wq:=
 ⟨h.st.through hr hg,h.bx.but hr.but (by simp;exact h.nr),h.nr,h.n1,h.n2⟩
theorem QY.ev {w0 wr wq:World} {gr gb:Nat} {bc:Array Value} {A1 A2:Option Addr} {cap1 cap2:Nat} {N:List By} {X:List M} {e:Er} (h:QY w0 gr A1 cap1 N A2 cap2 X e gb bc wr) (hE:Ev wr wq):QY w0 gr A1 cap1 N A2 cap2 X e gb bc wq:=
 ⟨⟨h.st.ns.ev hE,h.st.es.ev hE,h.st.apart,fun x hx=>(h.st.lies x hx).ev hE,h.st.rd.ev hE⟩,h.bx.ev hE,h.nr,h.n1,h.n2⟩
theorem QY.name {w0 wq w2:World} {gr gb:Nat} {bc:Array Value} {A1 A2:Option Addr} {cap1 cap2:Nat} {N:List By} {X:List M} {e:Er} {s:By} {v2:Value} (h:QY w0 gr A1 cap1 N A2 cap2 X e gb bc wq) (hg:gr<w0.heap.size) (hA:mW 9 1 sc w0.heap.size wq (.slice A1 N.length cap1) (N++[s]) v2 w2):
  ∃Wx wH,v2=.slice Wx (N.length+1) wH∧QY w0 gr Wx wH (N++[s]) A2 cap2 X e gb bc w2:=by
 obtain⟨Wx,wH,hv,hS⟩:=h.st.name hg hA;refine⟨Wx,wH,hv,hS,h.bx.but hA.2.1 fun hm=>h.n1 gb (aB.1 hm) rfl,h.nr,fun g xE=>?_,h.n2⟩;have hl:(N++[s]).length=N.length+1:=by simp
 rw[hl,←hv]at xE;rcases hA.2.2 g xE with h1|h1;exact h.n1 g h1;have:=h.bx.lt;omega
theorem QY.expr {w0 wp wq w2:World} {gr gb:Nat} {bc:Array Value} {A1 A2:Option Addr} {cap1 cap2:Nat} {N:List By} {X:List M} {e0 e:Er} {x:M} {v2:Value} (h0:QY w0 gr A1 cap1 N A2 cap2 X e0 gb bc wp) (h:QY w0 gr A1 cap1 N A2 cap2 X e gb bc wq) (hg:gr<w0.heap.size) (hx:Lx wp.heap.size [] wq x)
  (hA:mW 47 4 ec w0.heap.size wq (.slice A2 X.length cap2) (X++[x]) v2 w2):
  ∃ZK y8,v2=.slice ZK (X.length+1) y8∧QY w0 gr A1 cap1 N ZK y8 (X++[x]) e gb bc w2:=by
 obtain⟨ZK,y8,hv,hS⟩:=h.st.expr hg hx h0.st.rd.but.size (fun g xE=>(h0.st.ns.lt xE).2) (fun g xE=>(h0.st.es.lt xE).2) hA;refine⟨ZK,y8,hv,hS,h.bx.but hA.2.1 fun hm=>h.n2 gb (aB.1 hm) rfl,h.nr,h.n1,fun g xE=>?_⟩;have hl:(X++[x]).length=X.length+1:=by simp
 rw[hl,←hv]at xE;rcases hA.2.2 g xE with h1|h1;exact h.n2 g h1;have:=h.bx.lt;omega
theorem ab2 {x:M} (h:dZ x.t=true):x.kids.length=2:=by unfold dZ at h;simp only[atu,atH]at h;have:=h.1.2;rwa [M.aY,atq]at this
theorem QZ {b0 gr:Nat} {w:World} {x:M} (h:Lies b0 [gr] w x) {n:Nat} (hn:x.kids.length=n+2):∃b off x0 x1,x.A=some ⟨b,off,none⟩∧x.kids[0]?=some x0∧x.kids[1]?=some x1∧∀w1,But [gr] w w1→
  (w1.cell? ⟨b,off,none⟩=some (.int .i64 x0.kind)∧w1.cell? ⟨b,off+1,none⟩=some (.string ⟨x0.s.toArray⟩)∧w1.cell? ⟨b,off+2,none⟩=some (.int .i64 x0.n)∧w1.cell? ⟨b,off+3,none⟩=some (.slice x0.A x0.kids.length x0.cap)∧w1.cell? ⟨b,off+4,none⟩=some (.int .i64 (x0.pos:Int)))∧
  (w1.cell? ⟨b,off+5,none⟩=some (.int .i64 x1.kind)∧w1.cell? ⟨b,off+5+1,none⟩=some (.string ⟨x1.s.toArray⟩)∧w1.cell? ⟨b,off+5+2,none⟩=some (.int .i64 x1.n)∧w1.cell? ⟨b,off+5+3,none⟩=some (.slice x1.A x1.kids.length x1.cap)∧w1.cell? ⟨b,off+5+4,none⟩=some (.int .i64 (x1.pos:Int))):=by
 have fA:=h.ms;obtain⟨x0,hx0⟩:=fA.at (i:=0) (by omega);obtain⟨x1,hx1⟩:=fA.at (i:=1) (by omega);obtain⟨b,off,ZL,hb,_⟩:=Ms.cell fA hx0;have hgb:b≠gr:=by
  cases h with
  | mk h1 h2 h3=>
   have:=(h2 _ ZL).2.2;simpa using this
 rw[ZL]at fA;refine⟨b,off,x0,x1,ZL,hx0,hx1,fun w1 hb=>?_⟩;have h0:=Ms.pJ (fA.but hb fun ad e=>by cases e;simp;exact hgb) hx0;have h1:=Ms.pJ (fA.but hb fun ad e=>by cases e;simp;exact hgb) hx1;simp only[aud,atW,auE]at h0 h1;exact⟨h0,h1⟩
theorem UH (gr:Nat) (e:Er) (l:List M) (A:Option Addr) (n cap b0:Nat) (w:World) (hB:Rb gr e w) (h:Ms w A n cap l) (hr:QI b0 [gr] w A) (hn:n≤10000) (wV:∀x∈l,dZ x.t=true) (hlies:∀x∈l,Lies b0 [gr] w x) (hfair:∀x∈l,x.t.every bZ=true) (hsz:∀x∈l,x.t.size≤16000):
  Calls Tryz.prog 116 #[.pointer (some ⟨gr,0,none⟩),.slice A n cap] w fun r w'=>∃(N:eU By) (X:eU M),r=.returned (.tuple #[N.v,X.v])∧N.l=l.map (fun x=>pW x.t)∧X.l.map M.t=l.map (fun x=>pX x.t)∧aX 1 sc w.heap.size [] w' N∧aX 4 ec w.heap.size [] w' X∧(∀x∈X.l,Lx w.heap.size [] w' x)∧ig gr (fB e (aQ (l.flatMap fun x=>dS x.t))) w w':=by
 have hcl:=h.le;have hcm:=h.max;have HL:=zq h.len;have hgr:=hB.lt;have jR:=zq (BJ.start hB);have CE:=zq (fun w1 (hb:But [gr] w w1)=>h.but hb fun ad e=>(hr ad e).2.2);have HRN:=zq (fun m e w1 hB=>Hf gr e m w1 hB);have hRE:=fun m e b0 w1 hB hL hf hs=>AB gr e m b0 w1 hB hL hf hs;unfold zA M.kv at hRE;have HRE:=zq hRE;have AO:=zq (fun x hx w1 (hb:But [gr] w w1)=>(hlies x hx).move hb fun _ hy=>.inl hy);have akV:=zq wV;have IE:=zq hfair;have yH:=zq hsz;clear hB h hr wV hlies hfair hsz hRE;go_enter Tryz.func116,Tryz.ntmps116;go_wp2
 go_loopw [6,7,12] (fun av bv iv wr=>∃(A1 A2:Option Addr) (cap1 cap2 k:Nat) (E:Er) (N:List By) (X:List M),av=.slice A1 k cap1∧bv=.slice A2 k cap2∧iv=.int .i64 (k:Int)∧k≤n∧Hid (N.length=k∧X.length=k)∧Hid (N=(l.take k).map (fun x=>pW x.t))∧Hid (X.map M.t=(l.take k).map (fun x=>pX x.t))∧Hid (E=(((l.take k).flatMap fun x=>dS x.t).foldl fB e))∧Hid (BJ w gr A1 cap1 N A2 cap2 X E wr)) (fun _ _ iv _=>n - (intOf iv).toNat)
 case atStart=>exact⟨none,none,0,0,0,e,[],[],rfl,rfl,rfl,atG _,zq ⟨rfl,rfl⟩,zq rfl,zq rfl,zq rfl,jR⟩
 case round=>
  obtain⟨A1,A2,cap1,cap2,k,E,N,X,rfl,rfl,rfl,hk,wu,uT,HXX,ZB,HS⟩:=hrel;by_cases hlt:k<n
  ·obtain⟨x,hx⟩:=(CE.out w (But.refl _ _)).at hlt;have iF:=atw hx;obtain⟨b,off,rfl,hb,c0,c1,c2,c3,c4⟩:=Ms.cell (CE.out wr HS.out.rd.but) hx;unfold M.kv at c3;have hk2:=ab2 (akV.out x iF);have hcap2:2≤x.cap:=by have:=(AO.out x iF w (But.refl _ _)).ms.le;omega
   have hcapm:x.cap≤9223372036854775807:=(AO.out x iF w (But.refl _ _)).ms.max;obtain⟨b',off',x0,x1,ZL,hx0,hx1,hKC⟩:=QZ (AO.out x iF w (But.refl _ _)) (n:=0) (by omega);have lu:=zq hKC;have YN:pW x.t=x0.s:=by unfold pW;rw[M.aY,Bq _ _ _ hx0,M.tu]
   have hce:pX x.t=(xRead x1.t).1:=by unfold pX;rw[M.aY,Bq _ _ _ hx1]
   have hcs:dS x.t=[bn x0.t,jC x1.t]:=by unfold dS;rw[M.aY,Bq _ _ _ hx0,Bq _ _ _ hx1]
   have pI:Hid ((l.take (k+1)).map (fun x=>pW x.t)=(l.take k).map (fun x=>pW x.t)++[x0.s]∧(l.take (k+1)).map (fun x=>pX x.t)=(l.take k).map (fun x=>pX x.t)++[(xRead x1.t).1]∧((l.take (k+1)).flatMap fun x=>dS x.t).foldl fB e=fB (fB E (bn x0.t)) (jC x1.t)):=zq (by
    obtain⟨hk2,e1⟩:=atr.1 hx;rw[atD hk2,e1,atB,atB,avb,auW,←ZB.out];simp only[atx,atQ,auN,List.flatMap_nil,auX,YN,hce,hcs];refine⟨?_,?_,?_⟩<;>first|rfl|trivial)
   rw[ZL,hk2]at c3;obtain⟨BC,ZM⟩:∃BC:Array Value,BC=#[.int .i64 x.kind,.string ⟨x.s.toArray⟩,.int .i64 x.n,.slice (some ⟨b',off',none⟩) 2 x.cap,.int .i64 (x.pos:Int)]:=⟨_,rfl⟩
   have hCB:=QY.start HS.out BC;rw[ZM]at hCB;have wZ:=zq hCB;have HN:=zq (HRN.out x0 E _ wZ.out.st.rd.bx);have Qy:=zq (fun w1 (hb:But [gr] w w1)=>(AO.out x iF w1 hb).kid x1 (atw hx1));have HF1:Hid (x1.t.every bZ=true∧x1.t.size≤16000):=zq (by
    have h5:=IE.out x iF;rw[T.fQ,atu]at h5;have h6:=yH.out x iF;have h7:=T.size_eq x.t;rw[M.aY,atI]at h7;have h8:=iy (atV.2 ⟨x1,atw hx1,rfl⟩:x1.t.size∈x.kids.map (T.size ∘ M.t));exact⟨atL.1 h5.2 x1.t (by rw[M.aY];exact atV.2 ⟨x1,atw hx1,rfl⟩),by omega⟩)
   obtain⟨⟨d0,d1,d2,d3,d4⟩,_⟩:=wZ.out.bx.five;obtain⟨⟨k0,k1,k2,k3,k4⟩,j0,j1,j2,j3,j4⟩:=lu.out _ wZ.out.st.rd.but;have i1:(0:Int)≤(k:Int):=by omega
   have i2:(k:Int)<(n:Int):=by omega
   have iQ:=zq wu.out.1;have pz:=zq wu.out.2;clear hx iF hx0 hx1 YN hce hcs ZL hKC hCB ZM hb
   go_wp2_with (first
    | ((with_reducible refine (HN.out).mono ?_);rintro r w1 ⟨rfl,hR⟩;have aex:=zq ((wZ.out.through hR hgr).ev (Ev.alloc w1 (.cells #[.string ⟨x0.s.toArray⟩] 9)));clear hR)
    | ((show wpList _ _ _ (⟨some 24,_,_,_,_,_⟩::_) _ _);refine aK (o:=⟨some 24,_,_,_,_,_⟩) rfl 22 (.tmp 16) (.tmp 23) rfl pG Tryz.underlying22 Tryz.G9 rfl (by rw[←iQ.out];rfl) aex.out.st.ns (some ⟨w1.heap.size,0,none⟩) 1 1 [x0.s] rfl (Sl.one (et:=9) pG w1 x0.s _ rfl) (by rw[iQ.out];simp;omega) (by rw[iQ.out];simp;omega) aex.out.st.rd.but.size ?_;intro v2 w2 gz;obtain⟨Wx,wH,hv2,ST2⟩:=aex.out.name hgr gz;rw[iQ.out]at hv2;subst hv2;have Xn:=zq ST2;clear ST2 gz d0 d1 d2 d3 d4 k0 k1 k2 k3 k4 j0 j1 j2 j3 j4;obtain⟨⟨d0,d1,d2,d3,d4⟩,_⟩:=Xn.out.bx.five;obtain⟨⟨k0,k1,k2,k3,k4⟩,j0,j1,j2,j3,j4⟩:=lu.out _ Xn.out.st.rd.but)
    | ((with_reducible refine (HRE.out x1 _ b0 _ Xn.out.st.rd.bx (Qy.out _ Xn.out.st.rd.but) HF1.out.1 HF1.out.2).mono ?_);rintro r w3 ⟨x',rfl,jg,iq,hR⟩;have oW:=zq jg;have akX:=zq (iq.ev (Ev.alloc w3 (.cells #[.int .i64 x'.kind,.string ⟨x'.s.toArray⟩,.int .i64 x'.n,.slice x'.A x'.kids.length x'.cap] 47)));have aey:=zq ((Xn.out.through hR hgr).ev (Ev.alloc w3 (.cells #[.int .i64 x'.kind,.string ⟨x'.s.toArray⟩,.int .i64 x'.n,.slice x'.A x'.kids.length x'.cap] 47)));clear jg iq hR)
    | ((show wpList _ _ _ (⟨some 33,_,_,_,_,_⟩::_) _ _);refine aK (o:=⟨some 33,_,_,_,_,_⟩) rfl 28 (.tmp 25) (.tmp 32) rfl wM Tryz.underlying28 Tryz.yM rfl (by rw[←pz.out];rfl) aey.out.st.es (some ⟨w3.heap.size,0,none⟩) 1 1 [x'] rfl (Sl.one (et:=47) wM w3 x' _ rfl) (by rw[pz.out];simp;omega) (by rw[pz.out];simp;omega) aey.out.st.rd.but.size ?_;intro v4 w4 hA4;obtain⟨ZK,y8,hv4,ST4⟩:=QY.expr Xn.out aey.out hgr akX.out hA4;rw[pz.out]at hv4;subst hv4;have akY:=zq ST4.st;clear ST4 hA4))
   go_roundw
   case rel=>exact⟨Wx,ZK,wH,y8,k+1,_,_,_,rfl,rfl,by go_num,by omega,zq ⟨by simp[iQ.out],by simp[pz.out]⟩,zq (by rw[pI.out.1,uT.out]),zq (by rw[pI.out.2.1,atB,HXX.out,atx,atQ,oW.out]),zq pI.out.2.2.symm,akY⟩
   case measure=>simp[intOf];omega
  obtain rfl:k=n:=by omega
  have HF:Hid ((l.take k).map (fun x=>pW x.t)=l.map (fun x=>pW x.t)∧(l.take k).map (fun x=>pX x.t)=l.map (fun x=>pX x.t)∧E=fB e (aQ (l.flatMap fun x=>dS x.t))):=zq (by
   have h1:=ZB.out;rw[atJ (by rw[HL.out];exact att _)]at h1⊢;exact⟨rfl,rfl,by rw[h1,iV]⟩)
  go_wp2
  go_ret2
  obtain⟨N',hNv,hNl,hNs⟩:=HS.out.ns.sle pG;obtain⟨X',hXv,uZ,xy⟩:=HS.out.es.sle wM;rw[wu.out.1]at hNv;rw[wu.out.2]at hXv;rw[hNv,hXv];exact⟨N',X',rfl,by rw[hNl,uT.out,HF.out.1],by rw[uZ,HXX.out,HF.out.2.1],hNs,xy,fun x hx=>(HS.out.lies x (by rwa [uZ]at hx)).less (fun k hk=>by cases hk),HF.out.2.2▸HS.out.rd⟩
end Go.Proofs.YtpbfokkocaemlaaGreatDoor
