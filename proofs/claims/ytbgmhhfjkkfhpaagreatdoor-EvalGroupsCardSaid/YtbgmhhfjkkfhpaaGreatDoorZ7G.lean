import Derived.Test.YtbgmhhfjkkfhpaaGreatDoorZ6G
set_option linter.unusedVariables false
set_option maxRecDepth 100000
set_option maxHeartbeats 64000000
namespace Go.Proofs.YtbgmhhfjkkfhpaaGreatDoor
open Go.RowKit
open Go.Lib renaming hid → zq
open Go renaming World → ak
open Go renaming Value → au
open Go.Proofs.Tryz renaming prog → ax
variable {U:Prop}
open Go.Proofs.Tryz
variable {p:Nat} {A:Option Addr} {n cap:Nat} {L:List UInt8} {why pos:Nat} {w w':ak}
theorem fE{b:Nat}{cs:Array au}{T:TypeId}(i:Nat)(x:au)(h:w.heap[b]?=some (.cells cs T (0,0))):(w.setCell ⟨b,i,none⟩ x).heap[b]?=some (.cells (cs.setIfInBounds i x) T (0,0)):=by simp only[World.setCell,Array.getElem?_modify,if_pos];rw[h];rfl
def New(w w':ak)(A:Option Addr):Prop:=∀ad,A=some ad->w.heap.size<=ad.block/\ad.block<w'.heap.size
abbrev aFe:=@Go.bodyPost_ret
abbrev aFf:=@Go.Lib.cell_of_heap
abbrev vv(k n:Int)(s:ByteArray):au:=.agg #[↑k,↑n,.string s]
def ed(k n:Int)(s:ByteArray):Bool:=if k=1 then s.toList.isEmpty else if k=2 then n==0&&decide (s.size<=40) else false
theorem qi(k n:Int)(s:ByteArray)(w:ak):
  Calls ax 103 #[vv k n s] w λe w'=>e=.returned (.bool (ed k n s))/\Ev w w':=by
 by_cases h1:k=1
 ·subst h1;go_enter func103,ntmps103;go_wp2;go_ret;exact⟨by simp[ed],Ev.alloc _ _⟩
 by_cases h2:k=2
 ·subst h2;by_cases h3:n=0
  ·go_enter func103,ntmps103;go_wp2;go_ret;exact⟨by simp[ed,h3,show ((s.size:Int)<=40↔s.size<=40) by omega],Ev.alloc _ _⟩
  go_enter func103,ntmps103;go_wp2;go_ret;exact⟨by simp[ed,h3],Ev.alloc _ _⟩
 go_enter func103,ntmps103;go_wp2;go_ret;exact⟨by simp[ed,h1,h2],Ev.alloc _ _⟩
theorem Tryz.Zl:(Tryz.prog.info? 42).map (·.size)=some 3:=ah
theorem Dn{fn:Func}{q:Tmp}(h:fn.results=#[.cell q 42])(tmps:Array au)(w:ak)(g:Nat)(k n:Int)(s:ByteArray)
  (hp:tmps.getD q undef=.pointer ↑g) (hg:w.heap[g]?=some (.cells #[↑k,↑n,.string s] 42 (0,0))):
  (results fn tmps).run ax w=.ok (vv k n s) w:=
 results_cell_row h tmps w g 42 _ _ _ hp hg underlying42 rfl Tryz.Zl
theorem value_num(n:Int)(w:ak):
  Calls ax 225 #[↑n] w λe w'=>e=.returned (vv 1 n ⟨#[]⟩)/\Ev w w':=by
 go_enter func225,ntmps225;go_wp2;refine aFe (Dn rfl _ _ w.heap.size 1 n ⟨#[]⟩ rfl (aFd w _)) rfl ?_;exact⟨rfl,Ev.alloc _ _⟩
theorem aaD(s:ByteArray)(w:ak):
  Calls ax 226 #[.string s] w λe w'=>e=.returned (vv 2 0 s)/\Ev w w':=by
 go_enter func226,ntmps226;go_wp2;refine aFe (Dn rfl _ _ w.heap.size 2 0 s rfl (aFd w _)) rfl ?_;exact⟨rfl,Ev.alloc _ _⟩
def mD(k n:Int)(s:ByteArray)(k' n':Int)(s':ByteArray):Bool:=
 if ed k n s&&ed k' n' s' then (if k=k' then (if k=1 then decide (n<n') else Op.bytesLess s.toList s'.toList) else k==1) else false
structure Boxed(g:Nat)(k n:Int)(s:ByteArray)(w:ak):Prop where
 blk:w.heap[g]?=some (.cells #[↑k,↑n,.string s] 42 (0,0))
theorem Boxed.c0{g:Nat}{k n:Int}{s:ByteArray}{w:ak}(h:Boxed g k n s w):w.cell? ⟨g,0,none⟩=some ↑k:=by rw[aFf h.blk];rfl
theorem Boxed.c1{g:Nat}{k n:Int}{s:ByteArray}{w:ak}(h:Boxed g k n s w):w.cell? ⟨g,1,none⟩=some ↑n:=by rw[aFf h.blk];rfl
theorem Boxed.c2{g:Nat}{k n:Int}{s:ByteArray}{w:ak}(h:Boxed g k n s w):w.cell? ⟨g,2,none⟩=some (.string s):=by rw[aFf h.blk];rfl
theorem Boxed.ev{g:Nat}{k n:Int}{s:ByteArray}{w w':ak}(h:Boxed g k n s w)(he:Ev w w'):Boxed g k n s w':=
 ⟨by rw[he.block g (aDa.1 h.blk).1];exact h.blk⟩
theorem Boxed.new(k n:Int)(s:ByteArray)(w:ak):Boxed w.heap.size k n s (w.alloc (.cells #[↑k,↑n,.string s] 42)):=⟨aFd w _⟩
theorem Boxed.two(k n:Int)(s:ByteArray)(k' n':Int)(s':ByteArray)(w:ak):∃w0,w0=(w.alloc (.cells #[↑k,↑n,.string s] 42)).alloc (.cells #[↑k',↑n',.string s'] 42)/\Boxed w.heap.size k n s w0/\Boxed (w.heap.size+1) k' n' s' w0/\Ev w w0:=by refine⟨_,rfl,(Boxed.new k n s w).ev aC,?_,aC.trans aC⟩;have:=Boxed.new k' n' s' (w.alloc (.cells #[↑k,↑n,.string s] 42));simpa using this
theorem aFO(h:U:=by
 go_wp2_with (first|((with_reducible refine(hR.out _).mono ?_);rintro x w1 ⟨rfl,aJ⟩;rw[<-hw0]at aJ;have Zm:=B'.ev aJ;have d0:=Zm.c0;have d1:=Zm.c1;have d2:=Zm.c2)|((with_reducible refine(hR'.out _).mono ?_);rintro x w2 ⟨rfl,dJ⟩;have B2:=(B.ev aJ).ev dJ;have B2':=Zm.ev dJ;have c0:=B2.c0;have c1:=B2.c1;have c2:=B2.c2;have d0:=B2'.c0;have d1:=B2'.c1;have d2:=B2'.c2))
 go_ret;exact⟨aj,(aV.trans aJ).trans dJ⟩):U:=h
theorem Xb(k n:Int)(s:ByteArray)(k' n':Int)(s':ByteArray)(w:ak):
  Calls ax 106 #[vv k n s,vv k' n' s'] w λe w'=>e=.returned (.bool (mD k n s k' n' s'))/\Ev w w':=by
 have hR:=zq (λw1=>qi k n s w1);have hR':=zq (λw1=>qi k' n' s' w1);have hE:mD k n s k' n' s'=if ed k n s&&ed k' n' s' then (if k=k' then (if k=1 then decide (n<n') else Op.bytesLess s.toList s'.toList) else k==1) else false:=rfl;rw[hE];clear hE;generalize ed k n s=r at*;generalize ed k' n' s'=r' at*;obtain⟨w0,hw0,B,B',aV⟩:=Boxed.two k n s k' n' s' w;have c0:=B.c0;have c1:=B.c1;have c2:=B.c2;have d0:=B'.c0;have d1:=B'.c1;have d2:=B'.c2;go_enter func106,ntmps106
 cases r
 ·go_wp2_with (first|((with_reducible refine(hR.out _).mono ?_);rintro x w1 ⟨rfl,aJ⟩;rw[<-hw0]at aJ))
  go_ret;exact⟨rfl,aV.trans aJ⟩
 cases r'
 ·go_wp2_with (first|((with_reducible refine(hR.out _).mono ?_);rintro x w1 ⟨rfl,aJ⟩;rw[<-hw0]at aJ;have d0:=(B'.ev aJ).c0;have d1:=(B'.ev aJ).c1;have d2:=(B'.ev aJ).c2)|((with_reducible refine(hR'.out _).mono ?_);rintro x w2 ⟨rfl,dJ⟩))
  go_ret;exact⟨rfl,(aV.trans aJ).trans dJ⟩
 by_cases hk:k=k';subst hk;by_cases h1:k=1;subst h1;exact aFO;exact aFO;exact aFO
theorem Ev.rows{w w1 w2:ak}{v:au}(h:Ev w w1)(hv:∀g,v.ownBlock=some g->w.heap.size<=g)(k:But (foot v) w1 w2):Ev w w2:=
 ((But.aU (K:=[]) h).trans k (λx hx=>.inr (hv x (aG.1 hx)))).ev aj
theorem dE.ge{w w1:ak}{v v':au}(h:dE w1 v v')(hs:w.heap.size<=w1.heap.size)(hv:∀g,v.ownBlock=some g->w.heap.size<=g):∀g,v'.ownBlock=some g->w.heap.size<=g:=λg hg=>by rcases h g hg with h1|h1;exact hv g h1;omega
variable {p:Nat} {A:Option Addr} {n cap:Nat} {L:List UInt8} {why pos at_ y z:Nat} {r:Bool} {w w':ak}
variable {p:Nat} {A:Option Addr} {n cap:Nat} {L:List UInt8} {why pos:Nat} {w w':ak}
variable {p:Nat} {A:Option Addr} {n cap:Nat} {L:List UInt8} {why pos:Nat} {w w':ak}
variable {p:Nat} {A:Option Addr} {n cap:Nat} {L:List UInt8} {why pos:Nat} {w w':ak}
end Go.Proofs.YtbgmhhfjkkfhpaaGreatDoor
