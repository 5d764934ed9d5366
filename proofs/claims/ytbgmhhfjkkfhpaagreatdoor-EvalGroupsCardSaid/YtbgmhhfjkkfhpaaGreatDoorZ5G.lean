import Derived.Lib.Hide
import Derived.Test.YtbgmhhfjkkfhpaaGreatDoorZ4G
set_option linter.unusedVariables false
set_option maxRecDepth 100000
set_option maxHeartbeats 64000000
namespace Go.Proofs.YtbgmhhfjkkfhpaaGreatDoor
open Go.RowKit
open Go renaming World → ak
open Go renaming Value → au
variable {U:Prop}
abbrev aE_:=@Go.World.ownsRow_nil
abbrev aE':=@Go.info_parts
abbrev aFa:=@Go.Sem.run_bind
abbrev aFb:=@Go.Sem.run_pure
abbrev aFc:=@Go.Result.andThen_ok
structure But(K:List Nat)(w w':ak):Prop where
 os:w'.os=w.os
 tape:w'.tape=w.tape
 output:w'.output=w.output
 size:w.heap.size<=w'.heap.size
 block:∀k,k<w.heap.size->k∉K->w'.heap[k]?=w.heap[k]?
theorem But.refl(K:List Nat)(w:ak):But K w w:=⟨rfl,rfl,rfl,aC8 _,λ_ _ _=>rfl⟩
theorem But.trans{K K':List Nat}{a b c:ak}(h:But K a b)(k:But K' b c)(hs:∀x∈K',x∈K∨a.heap.size<=x):But K a c:=
 ⟨k.os.trans h.os,k.tape.trans h.tape,k.output.trans h.output,aDr h.size k.size,λi hi hn=>by
  rw[k.block i (aDf hi h.size) (λhm=>(hs i hm).elim hn (λh1=>by omega)),h.block i hi hn]⟩
theorem But.then{K:List Nat}{a b c:ak}(h:But K a b)(k:But K b c):But K a c:=h.trans k λ_ hx=>.inl hx
theorem But.aU{K:List Nat}{w w':ak}(h:Ev w w'):But K w w':=⟨h.os,h.tape,h.output,h.size,λk hk _=>h.block k hk⟩
theorem But.below{K:List Nat}{w w':ak}{B:Nat}(h:But K w w')(hB:B<=w.heap.size)(hK:∀k∈K,B<=k):Below B w w':=
 ⟨h.os,h.tape,h.output,h.size,λk hk=>h.block k ae λhm=>by have:=hK k hm;omega⟩
theorem But.ev{K:List Nat}{w w':ak}(h:But K w w')(hK:∀k∈K,w.heap.size<=k):Ev w w':=h.below (aC8 _) hK
theorem But.wide{K K':List Nat}{w w':ak}(h:But K w w')(hs:∀x∈K,x∈K'∨w.heap.size<=x):But K' w w':=
 (But.refl K' w).trans h hs
theorem But.setCell{K:List Nat}{w:ak}(p:Addr)(v:au)(h:p.block∈K):But K w (w.setCell p v):=
 ⟨rfl,rfl,rfl,by simp[World.setCell],λk _ hn=>Below.heap_setCell _ _ _ _ λe=>hn (e▸h)⟩
theorem But.grown{K:List Nat}{w w':ak}{row:Option Nat}(h:w.grownBy w' row)(hr:∀g,row=some g->g∈K):But K w w':=
 ⟨h.os,h.tape,h.output,h.size,λk hk hn=>h.block k hk λe=>hn (hr k e.symm)⟩
theorem But.heap{K:List Nat}{w w':ak}(h:But K w w'){k:Nat}{o:Obj}(hk:w.heap[k]?=some o)(hn:k∉K):w'.heap[k]?=some o:=by rw[h.block k (aDa.1 hk).1 hn];exact hk
theorem But.alloc{K:List Nat}{w:ak}(o:Obj):But K w (w.alloc o):=.aU (Ev.alloc w o)
theorem Bs.but{K:List Nat}{w w':ak}{A:Option Addr}{n cap:Nat}{l:List UInt8}(h:Bs w A n cap l)(hb:But K w w')(hA:∀ad,A=some ad->ad.block∉K):Bs w' A n cap l:=
 ⟨h.len,h.le,h.max,h.nil,λhn=>by
  obtain⟨b,off,e,hlt,hc⟩:=h.rd hn;refine⟨b,off,e,aDf hlt hb.size,λi hi=>?_⟩;rw[World.cell?_of_block (w:=w) (hb.block b hlt (hA _ e))];exact hc i hi⟩
def Row(w:ak)(v:au)(l:List UInt8):Prop:=w.ownsRow 0 5 1 v l.length (ES l)
def dE(w:ak)(v v':au):Prop:=∀g,v'.ownBlock=some g->v.ownBlock=some g∨w.heap.size<=g
theorem dE.refl(w:ak)(v:au):dE w v v:=λ_ h=>.inl h
theorem dE.trans{w w1:ak}{a b c:au}(h:dE w a b)(k:dE w1 b c)(hs:w.heap.size<=w1.heap.size):dE w a c:=λg hg=>by rcases k g hg with h1|h1;exact h g h1;exact .inr ae
def foot(v:au):List Nat:=v.ownBlock.toList
theorem aG{v:au}{g:Nat}:g∈foot v↔v.ownBlock=some g:=by
 unfold foot
 cases v.ownBlock<;>simp[eq_comm]
theorem Row.nil_(w:ak):Row w ↑() []:=aE_ _ _ _ _
theorem aHt(h:U:=by
 subst hn;refine⟨h.1,?_⟩;rcases h.2 with h2|⟨g,cap,cur,hv,hg,r⟩
 exact .inl h2;exact .inr ⟨g,cap,cur,hv,aDl _,r⟩):U:=h
theorem Row.of{w:ak}{base n:Nat}{v:au}{l:List UInt8}(h:w.ownsRow base 5 1 v n (ES l)):Row w v l:=by
 have hn:l.length=n:=by have:=h.1;simpa[ES] using this
 exact aHt
theorem aHk(h:U:=by
 refine⟨h.1,?_⟩;rcases h.2 with h2|⟨g,cap,cur,rfl,hg,hh,r⟩
 exact .inl h2;exact .inr ⟨g,cap,cur,rfl,hg,hb.heap hh (hn g rfl),r⟩):U:=h
theorem Row.but{K:List Nat}{w w':ak}{v:au}{l:List UInt8}(h:Row w v l)(hb:But K w w')(hn:∀g,v.ownBlock=some g->g∉K):Row w' v l:=by exact aHk
theorem Row.ev{w w':ak}{v:au}{l:List UInt8}(h:Row w v l)(hb:Ev w w'):Row w' v l:=h.but (But.aU (K:=[]) hb) (λ_ _=>by simp)
theorem Row.lt{w:ak}{v:au}{l:List UInt8}(h:Row w v l){g:Nat}(hg:v.ownBlock=some g):g<w.heap.size:=(World.ownsRow.lt (show w.ownsRow _ _ _ _ _ _ from h) g hg).2
theorem Row.bs{w:ak}{v:au}{l:List UInt8}(h:Row w v l):∃A cap,v=.slice A l.length cap/\Bs w A l.length cap l/\(∀ad,A=some ad->v.ownBlock=some ad.block)/\(A=none->cap=0):=by
 rcases h.2 with⟨rfl,hn⟩|⟨g,cap,cur,rfl,_⟩
 refine⟨none,0,by rw[hn],?_,aj,λ_=>rfl⟩;have:=h;unfold Row at this;rw[hn]at this|-;exact Bs.own this;exact⟨_,_,rfl,Bs.own h,by rintro ad ⟨⟩;rfl,aj⟩
theorem Row.form{w:ak}{v:au}{l:List UInt8}(h:Row w v l):∃A n cap,v=.slice A n cap:=by obtain⟨A,cap,rfl,_⟩:=h.bs;exact⟨_,_,_,rfl⟩
theorem Row.JS{w:ak}{v:au}{l:List UInt8}(h:Row w v l){b:Nat}{cs:Array au}{T:TypeId}{fr:Nat×Nat}(hb:w.heap[b]?=some (.cells cs T fr))(hT:T≠5):v.ownBlock≠some b:=by
 intro e;rcases h.2 with⟨rfl,_⟩|⟨g,cap,cur,rfl,_,hg,_⟩
 cases e;simp only[Value.ownBlock,aEK]at e;subst e;rw[hb]at hg;simp only[aEK,Obj.cells.injEq]at hg;exact hT hg.2.1
theorem yN{P:Program}{w:ak}(ty:TypeId)
  (ht:P.underlying 180=some (.slice 5)) (hi:(P.info? 5).map (λi=>(i.zero,i.size,i.bytes))=some (some (.int .u8 0),1,1))
  (v:au) (xs:List UInt8) (hown:Row w v xs) (A:Option Addr) (m c:Nat) (l:List UInt8) (hB:Bs w A m c l) (hbytes:xs.length+l.length<=140737488355328):
  ∃v' w',(Builtin.append_ #[180,180] ty #[v,.slice A m c]).run P w=.ok v' w'/\Row w' v' (xs++l)/\But (foot v) w w'/\dE w v v':=by
 obtain⟨i,uj,hz,hsz,hby⟩:=aE' hi;have hl:=hB.len
 cases A with
 | none=>
  obtain⟨h0,h1⟩:=hB.nil rfl;subst h0 h1;have hnil:l=[]:=aDv hl;subst hnil;exact⟨v,w,run_append_owned_none (P:=P) (w:=w) 0 180 ty 5 i 1 ht uj v _ _ hown,by simpa using hown,But.refl _ _,dE.refl _ _⟩
 | some ad=>
  obtain⟨v',w',hr,h1,h2,_,h4⟩:=run_append_own_at (P:=P) w 0 180 ty 5 i (.int .u8 0) 1 1 ht uj hz hsz hby rfl ai v xs.length (ES xs) hown ad m c (ES l) (by rw[W_,hl];omega) (hB.cells ad rfl) (agY l) (by unfold maxLen;omega) ae (aDl _);refine⟨v',w',hr,Row.of (base:=0) (n:=xs.length+m) (by rw[JR];exact h1),But.grown h2 (λg hg=>aG.2 hg),λg hg=>?_⟩;rcases h4 with h4|h4;exact .inl (h4▸hg);rw[h4]at hg;simp at hg;exact .inr ae
theorem nO{P:Program}{w:ak}{ops:Array Oper}{rest:List Oper}{o:Oper}{a:Act}{Q:Exit->Act->ak->Prop}(hgd:o.guard=none)(s x:Operand)
  (ho:o.op=.call {callee:=.builtin .append,args:=#[s,x],argTypes:=#[180,180]})
  (ht:P.underlying 180=some (.slice 5)) (hi:(P.info? 5).map (λi=>(i.zero,i.size,i.bytes))=some (some (.int .u8 0),1,1))
  (v:au) (xs:List UInt8) (hs:a.eval s=v) (hown:Row w v xs) (A:Option Addr) (m c:Nat) (l:List UInt8) (hx:a.eval x=.slice A m c) (hB:Bs w A m c l) (hbytes:xs.length+l.length<=140737488355328)
  (h:∀v' w',Row w' v' (xs++l)->But (foot v) w w'->dE w v v'->wpList P ops Q rest (a.put o.dst v') w'):wpList P ops Q (o::rest) a w:=by
 refine wpList_plain hgd λK hK=>?_;obtain⟨v',w',hr,h2,h3,h4⟩:=yN (P:=P) (w:=w) o.type ht hi v xs hown A m c l hB hbytes;unfold Oper.wp execOp;simp only[ho,resolve,invoke,builtin,aFa,aFb,aFc,aD1,aDe,aDu,hs,hx,hr];exact hK _ _ (h v' w' h2 h3 h4)
theorem Qz(s:ByteArray):Lib.strCells s=ES s.data.toList:=by simp[Lib.strCells,ES];intro a _;rfl
theorem JU{P:Program}{w:ak}(ty:TypeId)
  (ht:P.underlying 180=some (.slice 5)) (hu:P.underlying 9=some .string) (hi:(P.info? 5).map (λi=>(i.zero,i.size,i.bytes))=some (some (.int .u8 0),1,1))
  (v:au) (xs:List UInt8) (hown:Row w v xs) (s:ByteArray) (hbytes:xs.length+s.size<=140737488355328):
  ∃v' w',(Builtin.append_ #[180,9] ty #[v,.string s]).run P w=.ok v' w'/\Row w' v' (xs++s.data.toList)/\But (foot v) w w'/\dE w v v':=by
 obtain⟨i,uj,hz,hsz,hby⟩:=aE' hi;obtain⟨v',w',hr,h1,h2,_⟩:=Lib.run_append_own_string (P:=P) w 0 180 9 ty 5 i ht hu uj hz hsz hby v xs.length (ES xs) hown s (by unfold maxLen;omega) hbytes (aDl _);refine⟨v',w',hr,Row.of (base:=0) (n:=xs.length+s.size) (by rw[JR,<-Qz];exact h1),But.grown h2 (λg hg=>aG.2 hg),?_⟩;rcases hown.2 with⟨rfl,_⟩|⟨g,cap,cur,rfl,_,hg,AU,hcm,hcs,htake⟩
 have hx:xs=[]:=by
  have h0:xs.length=0:=by assumption
  exact aDv h0
 subst hx;obtain⟨v2,w2,hr2,h3,_,_⟩:=Lib.run_append_own_string (P:=P) w w.heap.size 180 9 ty 5 i ht hu uj hz hsz hby ↑() 0 [] (aE_ _ _ _ _) s (by unfold maxLen;simp at hbytes;omega) (by simpa using hbytes) (aC8 _);rw[hr]at hr2;simp only[Result.ok.injEq]at hr2;obtain⟨rfl,rfl⟩:=hr2;exact λg hg=>.inr (h3.lt g hg).1;by_cases hroom:xs.length+s.size<=cap;have hr2:=Lib.run_append_room_string (P:=P) w 180 9 ty 5 i ht hu uj hsz g xs.length cap cur hg s hroom ae;rw[hr]at hr2;simp only[Result.ok.injEq]at hr2;obtain⟨rfl,_⟩:=hr2;exact λg hg=>.inl hg;have hr2:=Lib.run_append_grow_string (P:=P) w 180 9 ty 5 i (.int .u8 0) ht hu uj hz ⟨g,0,none⟩ xs.length cap (ES xs) (by rw[hsz];simp[ES]) (World.ownsRow.cells hown rfl) s ae ae (by rw[hby];exact growslice_fits ae ae);rw[hr]at hr2;simp only[Result.ok.injEq]at hr2;obtain⟨rfl,_⟩:=hr2;exact λg' hg'=>.inr (by simp[Value.ownBlock]at hg';omega)
theorem uw{P:Program}{w:ak}{ops:Array Oper}{rest:List Oper}{o:Oper}{a:Act}{Q:Exit->Act->ak->Prop}(hgd:o.guard=none)(s x:Operand)
  (ho:o.op=.call {callee:=.builtin .append,args:=#[s,x],argTypes:=#[180,9]})
  (ht:P.underlying 180=some (.slice 5)) (hu:P.underlying 9=some .string) (hi:(P.info? 5).map (λi=>(i.zero,i.size,i.bytes))=some (some (.int .u8 0),1,1))
  (v:au) (xs:List UInt8) (hs:a.eval s=v) (hown:Row w v xs) (t:ByteArray) (hx:a.eval x=.string t) (hbytes:xs.length+t.size<=140737488355328)
  (h:∀v' w',Row w' v' (xs++t.data.toList)->But (foot v) w w'->dE w v v'->wpList P ops Q rest (a.put o.dst v') w'):wpList P ops Q (o::rest) a w:=by
 refine wpList_plain hgd λK hK=>?_;obtain⟨v',w',hr,h2,h3,h4⟩:=JU (P:=P) (w:=w) o.type ht hu hi v xs hown t hbytes;unfold Oper.wp execOp;simp only[ho,resolve,invoke,builtin,aFa,aFb,aFc,aD1,aDe,aDu,hs,hx,hr];exact hK _ _ (h v' w' h2 h3 h4)
def J4(K:List Nat)(φ:au->ak->Prop):Prop:=∀v w w',But K w w'->φ v w->φ v w'
def vK(md:Region.Mode)(ops:Array Oper)(K:List Nat)(m:Nat):Nat->List (au->ak->Prop)->Prop
 | _,[]=>True
 | k,φ::l=>(k=m∨b_ md ops k m=true∨J4 K φ)/\vK md ops K m (k+1) l
theorem cu(K:List Nat)(x:au):J4 K (λv _=>v=x):=λ_ _ _ _ h=>h
theorem Dq{md:Region.Mode}{ops:Array Oper}{K:List Nat}{m:Nat}:∀(Φ:List (au->ak->Prop)) (k:Nat),vK md ops K m k Φ->∀i,k+i≠m->b_ md ops (k+i) m=false->J4 K (bu Φ i)
 | [],_,_,i,_,_=>λ_ _ _ _ _=>trivial
 | φ::l,k,h,0,hn,hp=>by rcases h.1 with h1|h1|h1;exact absurd h1 hn;rw[aDw,h1]at hp;cases hp;exact h1
 | φ::l,k,h,i+1,hn,hp=>Dq l (k+1) h.2 i ae (by rwa [show k+1+i=k+(i+1) by omega])
section
variable {P:Program} {md:Region.Mode} {ops:Array Oper} {Q:Exit->Act->ak->Prop} {Φ:List (au->ak->Prop)} {a0:Act} {w0:ak} {K:List Nat} {m:Nat}
def jh(K:List Nat)(m i:Nat)(w w':ak):Prop:=if i=m then But K w w' else Ev w w'
theorem jh.but{i:Nat}{w w':ak}(h:jh K m i w w'):But K w w':=by unfold jh at h;split at h;exact h;exact But.aU h
theorem jh.ev{i:Nat}{w w':ak}(h:jh K m i w w')(hi:i≠m):Ev w w':=by unfold jh at h;rwa [if_neg hi]at h
theorem jh.aU{i:Nat}{w w':ak}(h:Ev w w'):jh K m i w w':=by unfold jh;split;exact But.aU h;exact h
theorem jh.self{w w':ak}(h:But K w w'):jh K m m w w':=by unfold jh;rwa [if_pos rfl]
structure aaG(md:Region.Mode)(ops:Array Oper)(Φ:List (au->ak->Prop))(a0:Act)(w0:ak)(K:List Nat)(m i:Nat)(a:Act)(w:ak):Prop where
 but:But K w0 w
 evm:i=m->Ev w0 w
 old:∀d,later md ops i d=true->a.eval (.tmp d)=a0.eval (.tmp d)
 new:∀(j:Nat) (d:Tmp) (_:b_ md ops i j=true:=by kernel_rfl) (_:bG ops j=some d:=by kernel_rfl),bu Φ j (a.eval (.tmp d)) w
theorem aaG.was{i:Nat}{a:Act}{w:ak}(c:aaG md ops Φ a0 w0 K m i a w)(d:Nat){v:au}(hv:a0.eval (.tmp d)=v)(h:later md ops i d=true:=by kernel_rfl):a.eval (.tmp d)=v:=(c.old d h).trans hv
def O4(P:Program)(md:Region.Mode)(ops:Array Oper)(Q:Exit->Act->ak->Prop)(Φ:List (au->ak->Prop))(a0:Act)(w0:ak)(K:List Nat)(m i:Nat)(o:Oper):Prop:=
 ∀(a:Act) (w:ak),aaG md ops Φ a0 w0 K m i a w->
  ∀L:Act->ak->Prop,(∀v w',jh K m i w w'->bu Φ i v w'->L (a.put o.dst v) w')->
  if Region.wanted o (yielded ops a.tmps)=true then Oper.wp P o a w L Q else L (a.put o.dst undef) w
structure ade(md:Region.Mode)(ops:Array Oper)(Φ:List (au->ak->Prop))(a0:Act)(w0:ak)(K:List Nat)(m:Nat)(listed:Array Bool)(a:Act)(w:ak):Prop where
 size:listed.size=ops.size
 but:But K w0 w
 evm:listed.getD m false=false->Ev w0 w
 defers:a.defers=a0.defers
 slots:a.tmps.size=a0.tmps.size
 closed:∀i j,listed.getD i false=true->b_ md ops i j=true->listed.getD j false=true
 keep:∀d,(∀i,listed.getD i false=true->bG ops i≠some d)->a.eval (.tmp d)=a0.eval (.tmp d)
 done:∀i d,listed.getD i false=true->bG ops i=some d->bu Φ i (a.eval (.tmp d)) w
theorem ade.step(ht:tidy md ops a0.tmps.size=true)(hm:gW Φ)(hmb:vK md ops K m 0 Φ){listed:Array Bool}{a:Act}{w w':ak}(h:ade md ops Φ a0 w0 K m listed a w){i:Nat}{o:Oper}(ho:ops[i]?=some o)
  (hr:i∈Region.ready md ops listed) {v:au} (mf:listed.getD i false=false) (hE:jh K m i w w') (hv:bu Φ i v w'):ade md ops Φ a0 w0 K m (listed.setIfInBounds i true) (a.put o.dst v) w':=by
 have hi:i<ops.size:=(aDa.1 ho).1;have yD:bG ops i=o.dst:=by simp[bG,ho]
 have hset:∀j,(listed.setIfInBounds i true).getD j false=true->j=i∨listed.getD j false=true:=by exact aH_
 have hmm:(listed.setIfInBounds i true).getD m false=false->i≠m/\listed.getD m false=false:=by
  intro hf;have hne:i≠m:=by rintro rfl;simp[h.size,hi]at hf
  rw[aE6 false hne]at hf;exact⟨hne,hf⟩
 refine⟨by simpa using h.size,h.but.then hE.but,λhf=>(h.evm (hmm hf).2).trans (hE.ev (hmm hf).1),by rw[sF];exact h.defers,by rw[size_put];exact h.slots,?_,?_,?_⟩;exact aGa;exact aHs;intro j d hj hd;rcases hset j hj with rfl|hj';exact aHM;by_cases qN:j=i;exact aHB;have hne:o.dst≠some d:=by rw[<-yD];exact(iG ht hd).2 i (λe=>qN e.symm)
 rw[dG hne];by_cases wM:i=m;subst wM;refine Dq Φ 0 hmb j ae ?_ _ _ _ hE.but (h.done j d hj' hd);rw[aDt]
 cases hpm:b_ md ops j i
 rfl;have:=h.closed j i hj' hpm;rw[mf]at this;cases this;exact jH Φ hm j _ _ _ (hE.ev wM) (h.done j d hj' hd)
theorem Xm(ht:tidy md ops a0.tmps.size=true)(hm:gW Φ)(hmb:vK md ops K m 0 Φ)
  (hops:∀i o,ops[i]?=some o->O4 P md ops Q Φ a0 w0 K m i o)
  (hQ:∀a w,But K w0 w->a.defers=a0.defers->a.tmps.size=a0.tmps.size->(∀d,nobody ops d=true->a.eval (.tmp d)=a0.eval (.tmp d))->
   (∀i d,bG ops i=some d->bu Φ i (a.eval (.tmp d)) w)->Q .normal a w):
  ∀(fuel:Nat) (listed:Array Bool) (a:Act) (w:ak),dw listed ops.size<=fuel->ade md ops Φ a0 w0 K m listed a w->wpAny P md ops Q fuel listed a w:=by
 have fin:∀(listed:Array Bool) (a:Act) (w:ak),Region.ready md ops listed=[]->ade md ops Φ a0 w0 K m listed a w->Q .normal a w:=by intro listed a w hr h;have hall:=lJ ht h.size hr;refine hQ a w h.but h.defers h.slots (λd hd=>h.keep d λi hi hid=>?_) (λi d hd=>h.done i d (hall i ?_) hd);exact aG8;exact aIa
 intro fuel
 induction fuel with
 | zero=>
  intro listed a w hu h;have hr:Region.ready md ops listed=[]:=by exact aGh
  exact⟨hr,fin listed a w hr h⟩
 | succ fuel ih=>
  intro listed a w hu h;refine⟨λhr=>fin listed a w hr h,λi hi=>?_⟩;obtain⟨h0,o,ho,hall⟩:=aE7.1 hi;have hlt:i<ops.size:=(aDa.1 ho).1;have hl:i<listed.size:=by rw[h.size];exact hlt
  have mf:listed.getD i false=false:=by simpa[hl] using h0
  have hcount:=jI h.size hlt mf;refine wpOp_step ho λK' hK'=>?_;refine hops i o ho a w ⟨h.but,λe=>h.evm (e▸mf),λd hd=>h.keep d λj hj sD=>?_,λj d hp hd=>?_⟩ K' (λv w' hE hv=>hK' _ _ (ih _ _ _ ae (h.step ht hm hmb ho hi mf hE hv)));exact aF9;exact aHj
theorem J5{id:Nat}(dH:P.follows .mixedOrders=true)(Φ:List (au->ak->Prop))(ht:tidy .any ops a0.tmps.size=true)(hm:gW Φ)(hmb:vK .any ops K m 0 Φ)
  (hops:∀i o,ops[i]?=some o->O4 P .any ops Q Φ a0 w0 K m i o)
  (hQ:∀a w,But K w0 w->a.defers=a0.defers->a.tmps.size=a0.tmps.size->(∀d,nobody ops d=true->a.eval (.tmp d)=a0.eval (.tmp d))->
   (∀i d,bG ops i=some d->bu Φ i (a.eval (.tmp d)) w)->Q .normal a w):
  (Code.region id ops true).wp P Q a0 w0:=by
 refine wp_region_any dH (Xm ht hm hmb hops hQ ops.size _ _ _ ?_ ⟨aj,But.aU ⟨rfl,rfl,rfl,aC8 _,λ_ _=>rfl⟩,λ_=>?_,rfl,rfl,?_,λ_ _=>rfl,?_⟩);unfold dw;exact aDr aEu aj;exact⟨rfl,rfl,rfl,aC8 _,λ_ _=>rfl⟩;exact aIB;exact aIC
theorem jb{id:Nat}(dH:P.follows .mixedOrders=true)(K:List Nat)(m:Nat)(Φ:List (au->ak->Prop))(n:Nat)(hn:a0.tmps.size=n)(ht:tidy .any ops n=true)(hm:gW Φ)(hmb:vK .any ops K m 0 Φ)
  (hops:∀i o,ops[i]?=some o->O4 P .any ops Q Φ a0 w0 K m (0+i) o)
  (hQ:∀(s:Nat->au) w,But K w0 w->(∀(d:Tmp) (_:nobody ops d=true:=by kernel_rfl),s d=a0.eval (.tmp d))->
   (∀(i:Nat) (d:Tmp) (_:bG ops i=some d:=by kernel_rfl),bu Φ i (s d) w)->Q .normal ⟨((List.range n).map s).toArray,a0.defers⟩ w):
  (Code.region id ops true).wp P Q a0 w0:=by
 subst hn;refine J5 dH Φ ht hm hmb (OU hops) ?_;intro a w hE hd hs hold hnew;rw[nN hs,hd];exact hQ (λd=>a.eval (.tmp d)) w hE hold hnew
theorem bF{i:Nat}{o:Oper}(h:∀a w,aaG md ops Φ a0 w0 K m i a w->Region.wanted o (yielded ops a.tmps)=true/\∃v,(execOp a.eval o).run P w=.ok (.value v) w/\bu Φ i v w):O4 P md ops Q Φ a0 w0 K m i o:=by intro a w c L hL;obtain⟨hw,v,hr,hv⟩:=h a w c;rw[if_pos hw];unfold Oper.wp;rw[hr];exact hL v w (jh.aU (Ev.refl w)) hv
theorem lh{i:Nat}{o:Oper}(h:∀a w,aaG md ops Φ a0 w0 K m i a w->Region.wanted o (yielded ops a.tmps)=true/\∃v w',(execOp a.eval o).run P w=.ok (.value v) w'/\jh K m i w w'/\bu Φ i v w'):O4 P md ops Q Φ a0 w0 K m i o:=by intro a w c L hL;obtain⟨hw,v,w',hr,TW,hv⟩:=h a w c;rw[if_pos hw];unfold Oper.wp;rw[hr];exact hL v w' TW hv
theorem Dt{i:Nat}{o:Oper}(h:∀a w,aaG md ops Φ a0 w0 K m i a w->Region.wanted o (yielded ops a.tmps)=true/\∃f args,(execOp a.eval o).run P w=.ok (.enter f args) w/\
  Calls P f args w λe w'=>∃v,e=.returned v/\jh K m i w w'/\bu Φ i v w'):O4 P md ops Q Φ a0 w0 K m i o:=by
 intro a w c L hL;obtain⟨hw,f,args,hr,hc⟩:=h a w c;rw[if_pos hw];unfold Oper.wp;rw[hr];refine hc.mono ?_;rintro e w' ⟨v,rfl,TW,hv⟩;exact hL v w' TW hv
end
end Go.Proofs.YtbgmhhfjkkfhpaaGreatDoor
