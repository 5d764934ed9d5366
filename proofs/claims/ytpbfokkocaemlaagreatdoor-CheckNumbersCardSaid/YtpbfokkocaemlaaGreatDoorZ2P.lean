import Derived.Lib.Hide
import Derived.Test.YtpbfokkocaemlaaGreatDoorZ1P
set_option linter.unusedVariables false
set_option maxRecDepth 100000
set_option maxHeartbeats 64000000
namespace Go.Proofs.YtpbfokkocaemlaaGreatDoor
open Go.RowKit
open Go renaming World → ak
open Go renaming Value → au
variable {U:Prop}
abbrev ayn:=@Go.Sem.run_bind
abbrev ayo:=@Go.Sem.run_pure
abbrev ayp:=@Go.Result.andThen_ok
structure But(K:List Nat)(w w':ak):Prop where
 os:w'.os=w.os
 tape:w'.tape=w.tape
 output:w'.output=w.output
 size:w.heap.size<=w'.heap.size
 block:∀k,k<w.heap.size->k∉K->w'.heap[k]?=w.heap[k]?
theorem But.refl(K:List Nat)(w:ak):But K w w:=⟨rfl,rfl,rfl,awC _,λ_ _ _=>rfl⟩
theorem But.trans{K K':List Nat}{a b c:ak}(h:But K a b)(k:But K' b c)(hs:∀x∈K',x∈K∨a.heap.size<=x):But K a c:=
 ⟨k.os.trans h.os,k.tape.trans h.tape,k.output.trans h.output,aw0 h.size k.size,λi hi hn=>by
  rw[k.block i (awU hi h.size) (λhm=>(hs i hm).elim hn (λh1=>by omega)),h.block i hi hn]⟩
theorem But.then{K:List Nat}{a b c:ak}(h:But K a b)(k:But K b c):But K a c:=h.trans k λ_ hx=>.inl hx
theorem But.aW{K:List Nat}{w w':ak}(h:Ev w w'):But K w w':=⟨h.os,h.tape,h.output,h.size,λk hk _=>h.block k hk⟩
theorem But.below{K:List Nat}{w w':ak}{B:Nat}(h:But K w w')(hB:B<=w.heap.size)(hK:∀k∈K,B<=k):Below B w w':=
 ⟨h.os,h.tape,h.output,h.size,λk hk=>h.block k ae λhm=>by have:=hK k hm;omega⟩
theorem But.ev{K:List Nat}{w w':ak}(h:But K w w')(hK:∀k∈K,w.heap.size<=k):Ev w w':=h.below (awC _) hK
theorem But.wide{K K':List Nat}{w w':ak}(h:But K w w')(hs:∀x∈K,x∈K'∨w.heap.size<=x):But K' w w':=
 (But.refl K' w).trans h hs
theorem But.setCell{K:List Nat}{w:ak}(p:Addr)(v:au)(h:p.block∈K):But K w (w.setCell p v):=
 ⟨rfl,rfl,rfl,by simp[World.setCell],λk _ hn=>Below.heap_setCell _ _ _ _ λe=>hn (e▸h)⟩
theorem But.grown{K:List Nat}{w w':ak}{row:Option Nat}(h:w.grownBy w' row)(hr:∀g,row=some g->g∈K):But K w w':=
 ⟨h.os,h.tape,h.output,h.size,λk hk hn=>h.block k hk λe=>hn (hr k e.symm)⟩
theorem But.heap{K:List Nat}{w w':ak}(h:But K w w'){k:Nat}{o:Obj}(hk:w.heap[k]?=some o)(hn:k∉K):w'.heap[k]?=some o:=by rw[h.block k (awQ.1 hk).1 hn];exact hk
theorem But.alloc{K:List Nat}{w:ak}(o:Obj):But K w (w.alloc o):=.aW (Ev.alloc w o)
theorem Bs.but{K:List Nat}{w w':ak}{A:Option Addr}{n cap:Nat}{l:List UInt8}(h:Bs w A n cap l)(hb:But K w w')(hA:∀ad,A=some ad->ad.block∉K):Bs w' A n cap l:=
 ⟨h.len,h.le,h.max,h.nil,λhn=>by
  obtain⟨b,off,e,hlt,hc⟩:=h.rd hn;refine⟨b,off,e,awU hlt hb.size,λi hi=>?_⟩;rw[World.cell?_of_block (w:=w) (hb.block b hlt (hA _ e))];exact hc i hi⟩
def Row(w:ak)(v:au)(l:List UInt8):Prop:=w.ownsRow 0 5 1 v l.length (Fp l)
def fO(w:ak)(v v':au):Prop:=∀g,v'.ownBlock=some g->v.ownBlock=some g∨w.heap.size<=g
theorem fO.refl(w:ak)(v:au):fO w v v:=λ_ h=>.inl h
theorem fO.trans{w w1:ak}{a b c:au}(h:fO w a b)(k:fO w1 b c)(hs:w.heap.size<=w1.heap.size):fO w a c:=λg hg=>by rcases k g hg with h1|h1;exact h g h1;exact .inr ae
def foot(v:au):List Nat:=v.ownBlock.toList
theorem aG{v:au}{g:Nat}:g∈foot v↔v.ownBlock=some g:=by
 unfold foot
 cases v.ownBlock<;>simp[eq_comm]
theorem Row.nil_(w:ak):Row w ↑() []:=World.ownsRow_nil _ _ _ _
theorem Row.of{w:ak}{base n:Nat}{v:au}{l:List UInt8}(h:w.ownsRow base 5 1 v n (Fp l)):Row w v l:=by
 have hn:l.length=n:=by have:=h.1;simpa[Fp] using this
 subst hn;refine⟨h.1,?_⟩;rcases h.2 with h2|⟨g,cap,cur,hv,hg,r⟩
 exact .inl h2;exact .inr ⟨g,cap,cur,hv,awJ _,r⟩
theorem aAR(h:U:=by
 refine⟨h.1,?_⟩;rcases h.2 with h2|⟨g,cap,cur,rfl,hg,hh,r⟩
 exact .inl h2;exact .inr ⟨g,cap,cur,rfl,hg,hb.heap hh (hn g rfl),r⟩):U:=h
theorem Row.but{K:List Nat}{w w':ak}{v:au}{l:List UInt8}(h:Row w v l)(hb:But K w w')(hn:∀g,v.ownBlock=some g->g∉K):Row w' v l:=by exact aAR
theorem Row.ev{w w':ak}{v:au}{l:List UInt8}(h:Row w v l)(hb:Ev w w'):Row w' v l:=h.but (But.aW (K:=[]) hb) (λ_ _=>by simp)
theorem Row.lt{w:ak}{v:au}{l:List UInt8}(h:Row w v l){g:Nat}(hg:v.ownBlock=some g):g<w.heap.size:=(World.ownsRow.lt (show w.ownsRow _ _ _ _ _ _ from h) g hg).2
theorem Row.bs{w:ak}{v:au}{l:List UInt8}(h:Row w v l):∃A cap,v=.slice A l.length cap/\Bs w A l.length cap l/\(∀ad,A=some ad->v.ownBlock=some ad.block)/\(A=none->cap=0):=by
 rcases h.2 with⟨rfl,hn⟩|⟨g,cap,cur,rfl,_⟩
 refine⟨none,0,by rw[hn],?_,aj,λ_=>rfl⟩;have:=h;unfold Row at this;rw[hn]at this|-;exact Bs.own this;exact⟨_,_,rfl,Bs.own h,by rintro ad ⟨⟩;rfl,aj⟩
theorem Row.form{w:ak}{v:au}{l:List UInt8}(h:Row w v l):∃A n cap,v=.slice A n cap:=by obtain⟨A,cap,rfl,_⟩:=h.bs;exact⟨_,_,_,rfl⟩
theorem Row.Jo{w:ak}{v:au}{l:List UInt8}(h:Row w v l){b:Nat}{cs:Array au}{T:TypeId}{fr:Nat×Nat}(hb:w.heap[b]?=some (.cells cs T fr))(hT:T≠5):v.ownBlock≠some b:=by
 intro e;rcases h.2 with⟨rfl,_⟩|⟨g,cap,cur,rfl,_,hg,_⟩
 cases e;simp only[Value.ownBlock,Option.some.injEq]at e;subst e;rw[hb]at hg;simp only[Option.some.injEq,Obj.cells.injEq]at hg;exact hT hg.2.1
theorem zU{P:Program}{w:ak}(ty:TypeId)
  (ht:P.underlying 93=some (.slice 5)) (hi:(P.info? 5).map (λi=>(i.zero,i.size,i.bytes))=some (some (.int .u8 0),1,1))
  (v:au) (xs:List UInt8) (hown:Row w v xs) (A:Option Addr) (m c:Nat) (l:List UInt8) (hB:Bs w A m c l) (hbytes:xs.length+l.length<=140737488355328):
  ∃v' w',(Builtin.append_ #[93,93] ty #[v,.slice A m c]).run P w=.ok v' w'/\Row w' v' (xs++l)/\But (foot v) w w'/\fO w v v':=by
 obtain⟨i,D5,hz,hsz,hby⟩:=info_parts hi;have hl:=hB.len
 cases A with
 | none=>
  obtain⟨h0,h1⟩:=hB.nil rfl;subst h0 h1;have hnil:l=[]:=axu hl;subst hnil;exact⟨v,w,run_append_owned_none (P:=P) (w:=w) 0 93 ty 5 i 1 ht D5 v _ _ hown,by simpa using hown,But.refl _ _,fO.refl _ _⟩
 | some ad=>
  obtain⟨v',w',hr,h1,h2,_,h4⟩:=run_append_own_at (P:=P) w 0 93 ty 5 i (.int .u8 0) 1 1 ht D5 hz hsz hby rfl ai v xs.length (Fp xs) hown ad m c (Fp l) (by rw[Vo,hl];omega) (hB.cells ad rfl) (aeh l) (by unfold maxLen;omega) ae (awJ _);refine⟨v',w',hr,Row.of (base:=0) (n:=xs.length+m) (by rw[Jn];exact h1),But.grown h2 (λg hg=>aG.2 hg),λg hg=>?_⟩;rcases h4 with h4|h4;exact .inl (h4▸hg);rw[h4]at hg;simp at hg;exact .inr ae
theorem p_{P:Program}{w:ak}{ops:Array Oper}{rest:List Oper}{o:Oper}{a:Act}{Q:Exit->Act->ak->Prop}(hgd:o.guard=none)(s x:Operand)
  (ho:o.op=.call {callee:=.builtin .append,args:=#[s,x],argTypes:=#[93,93]})
  (ht:P.underlying 93=some (.slice 5)) (hi:(P.info? 5).map (λi=>(i.zero,i.size,i.bytes))=some (some (.int .u8 0),1,1))
  (v:au) (xs:List UInt8) (hs:a.eval s=v) (hown:Row w v xs) (A:Option Addr) (m c:Nat) (l:List UInt8) (hx:a.eval x=.slice A m c) (hB:Bs w A m c l) (hbytes:xs.length+l.length<=140737488355328)
  (h:∀v' w',Row w' v' (xs++l)->But (foot v) w w'->fO w v v'->wpList P ops Q rest (a.put o.dst v') w'):wpList P ops Q (o::rest) a w:=by
 refine wpList_plain hgd λK hK=>?_;obtain⟨v',w',hr,h2,h3,h4⟩:=zU (P:=P) (w:=w) o.type ht hi v xs hown A m c l hB hbytes;unfold Oper.wp execOp;simp only[ho,resolve,invoke,builtin,ayn,ayo,ayp,axF,awI,awY,hs,hx,hr];exact hK _ _ (h v' w' h2 h3 h4)
theorem Pz(s:ByteArray):Lib.strCells s=Fp s.data.toList:=by simp[Lib.strCells,Fp];intro a _;rfl
theorem Jp{P:Program}{w:ak}(ty:TypeId)
  (ht:P.underlying 93=some (.slice 5)) (hu:P.underlying 9=some .string) (hi:(P.info? 5).map (λi=>(i.zero,i.size,i.bytes))=some (some (.int .u8 0),1,1))
  (v:au) (xs:List UInt8) (hown:Row w v xs) (s:ByteArray) (hbytes:xs.length+s.size<=140737488355328):
  ∃v' w',(Builtin.append_ #[93,9] ty #[v,.string s]).run P w=.ok v' w'/\Row w' v' (xs++s.data.toList)/\But (foot v) w w'/\fO w v v':=by
 obtain⟨i,D5,hz,hsz,hby⟩:=info_parts hi;obtain⟨v',w',hr,h1,h2,_⟩:=Lib.run_append_own_string (P:=P) w 0 93 9 ty 5 i ht hu D5 hz hsz hby v xs.length (Fp xs) hown s (by unfold maxLen;omega) hbytes (awJ _);refine⟨v',w',hr,Row.of (base:=0) (n:=xs.length+s.size) (by rw[Jn,<-Pz];exact h1),But.grown h2 (λg hg=>aG.2 hg),?_⟩;rcases hown.2 with⟨rfl,_⟩|⟨g,cap,cur,rfl,_,hg,yK,hcm,hcs,htake⟩
 have hx:xs=[]:=by
  have h0:xs.length=0:=by assumption
  exact axu h0
 subst hx;obtain⟨v2,w2,hr2,h3,_,_⟩:=Lib.run_append_own_string (P:=P) w w.heap.size 93 9 ty 5 i ht hu D5 hz hsz hby ↑() 0 [] (World.ownsRow_nil _ _ _ _) s (by unfold maxLen;simp at hbytes;omega) (by simpa using hbytes) (awC _);rw[hr]at hr2;simp only[Result.ok.injEq]at hr2;obtain⟨rfl,rfl⟩:=hr2;exact λg hg=>.inr (h3.lt g hg).1;by_cases hroom:xs.length+s.size<=cap;have hr2:=Lib.run_append_room_string (P:=P) w 93 9 ty 5 i ht hu D5 hsz g xs.length cap cur hg s hroom ae;rw[hr]at hr2;simp only[Result.ok.injEq]at hr2;obtain⟨rfl,_⟩:=hr2;exact λg hg=>.inl hg;have hr2:=Lib.run_append_grow_string (P:=P) w 93 9 ty 5 i (.int .u8 0) ht hu D5 hz ⟨g,0,none⟩ xs.length cap (Fp xs) (by rw[hsz];simp[Fp]) (World.ownsRow.cells hown rfl) s ae ae (by rw[hby];exact growslice_fits ae ae);rw[hr]at hr2;simp only[Result.ok.injEq]at hr2;obtain⟨rfl,_⟩:=hr2;exact λg' yL=>.inr (by simp[Value.ownBlock]at yL;omega)
theorem wP{P:Program}{w:ak}{ops:Array Oper}{rest:List Oper}{o:Oper}{a:Act}{Q:Exit->Act->ak->Prop}(hgd:o.guard=none)(s x:Operand)
  (ho:o.op=.call {callee:=.builtin .append,args:=#[s,x],argTypes:=#[93,9]})
  (ht:P.underlying 93=some (.slice 5)) (hu:P.underlying 9=some .string) (hi:(P.info? 5).map (λi=>(i.zero,i.size,i.bytes))=some (some (.int .u8 0),1,1))
  (v:au) (xs:List UInt8) (hs:a.eval s=v) (hown:Row w v xs) (t:ByteArray) (hx:a.eval x=.string t) (hbytes:xs.length+t.size<=140737488355328)
  (h:∀v' w',Row w' v' (xs++t.data.toList)->But (foot v) w w'->fO w v v'->wpList P ops Q rest (a.put o.dst v') w'):wpList P ops Q (o::rest) a w:=by
 refine wpList_plain hgd λK hK=>?_;obtain⟨v',w',hr,h2,h3,h4⟩:=Jp (P:=P) (w:=w) o.type ht hu hi v xs hown t hbytes;unfold Oper.wp execOp;simp only[ho,resolve,invoke,builtin,ayn,ayo,ayp,axF,awI,awY,hs,hx,hr];exact hK _ _ (h v' w' h2 h3 h4)
section
variable {P:Program} {md:Region.Mode} {ops:Array Oper} {Q:Exit->Act->ak->Prop} {Φ:List (au->ak->Prop)} {a0:Act} {w0:ak} {K:List Nat} {m:Nat}
end
end Go.Proofs.YtpbfokkocaemlaaGreatDoor
