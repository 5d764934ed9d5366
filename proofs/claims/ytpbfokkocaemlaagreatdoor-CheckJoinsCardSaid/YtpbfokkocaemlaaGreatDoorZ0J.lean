import Derived.Test.YtpbfokkocaemlaaGreatDoorAliasJ
import Derived.Below
import Derived.RegionTactic
import Derived.Deep.Draws
set_option linter.unusedVariables false
set_option maxRecDepth 100000
set_option maxHeartbeats 64000000
namespace Go.Proofs.YtpbfokkocaemlaaGreatDoor
open Go.RowKit
open Go renaming World → ak
open Go renaming Value → au
variable {U:Prop}
def Ev(w w':ak):Prop:=Below w.heap.size w w'
theorem Ev.refl(w:ak):Ev w w:=Below.refl _ _
theorem Ev.trans{a b c:ak}(h:Ev a b)(k:Ev b c):Ev a c:=Below.trans h (Below.mono k h.size)
theorem Ev.alloc(w:ak)(o:Obj):Ev w (w.alloc o):=Below.alloc (Below.refl _ _) (awj _) o
theorem Ev.drew(w:ak):Ev w w.drew:=⟨rfl,rfl,rfl,awj _,λ_ _=>rfl⟩
theorem Ev.drewN(w:ak)(n:Nat):Ev w (w.drewN n):=⟨rfl,rfl,rfl,awj _,λ_ _=>rfl⟩
def o8(φ:au->ak->Prop):Prop:=∀v w w',Ev w w'->φ v w->φ v w'
def lu:List (au->ak->Prop)->Prop
 | []=>True
 | φ::l=>o8 φ/\lu l
def cZ(Φ:List (au->ak->Prop))(i:Nat):au->ak->Prop:=Φ.getD i (λ_ _=>True)
theorem mV:∀(Φ:List (au->ak->Prop)),lu Φ->∀i,o8 (cZ Φ i)
 | [],_,i=>λ_ _ _ _ _=>trivial
 | φ::l,h,0=>h.1
 | φ::l,h,i+1=>mV l h.2 i
theorem aB(x:au):o8 (λv _=>v=x):=λ_ _ _ _ h=>h
theorem fB:o8 (λ_ _=>True):=λ_ _ _ _ h=>h
section
variable (md:Region.Mode) (ops:Array Oper)
def dI(i:Nat):Option Tmp:=(ops[i]?).bind (·.dst)
def dW(i j:Nat):Bool:=match ops[i]? with|some o=>o.after.any (λe=>Region.binds md e&&e.on==j)|none=>false
def later(i d:Nat):Bool:=(List.range ops.size).all λj=>j==i||dI ops j !=some d||dW md ops j i
def nobody(d:Nat):Bool:=(List.range ops.size).all λj=>dI ops j !=some d
def tidy(n:Nat):Bool:=(List.range ops.size).all λi=>
 (match ops[i]? with|some o=>o.after.all (λe=>!Region.binds md e||decide (e.on<i))|none=>false)&&
 (match dI ops i with|some d=>decide (d<n)&&(List.range ops.size).all (λj=>j==i||dI ops j !=some d)|none=>true)
variable {md ops}
theorem Rl{n:Nat}(h:tidy md ops n=true){i j:Nat}(hp:dW md ops i j=true):j<i:=by
 unfold dW at hp
 cases ho:ops[i]? with
 | none=>simp[ho]at hp
 | some o=>
  simp only[ho]at hp;obtain⟨e,he,hb⟩:=axp.1 hp;have hlt:i<ops.size:=(awu.1 ho).1;have h1:=(awF.1 h) i (axb.2 hlt);rw[awk]at h1;have h2:=h1.1;simp only[ho]at h2;have h3:=(Array.all_eq_true_iff_forall_mem.1 h2) e he;simp only[awk,awx]at hb;simp[hb.1]at h3;omega
theorem aAQ(h:U:=by
 unfold dI at hd
 cases ho:ops[i]? with
 | none=>simp[ho]at hd
 | some o=>exact(awu.1 ho).1):U:=h
theorem kQ{n:Nat}(h:tidy md ops n=true){i:Nat}{d:Tmp}(hd:dI ops i=some d):d<n/\∀j,j≠i->dI ops j≠some d:=by
 have hlt:i<ops.size:=by exact aAQ
 have h1:=(awF.1 h) i (axb.2 hlt);rw[awk]at h1;have h2:=h1.2;simp only[hd,awk,aw7,awF,axb,awP,awx,axr]at h2;refine⟨h2.1,λj hj Ce=>?_⟩;have Cf:j<ops.size:=by
  unfold dI at Ce
  cases ho:ops[j]? with
  | none=>simp[ho]at Ce
  | some o=>exact(awu.1 ho).1
 rcases h2.2 j Cf with h3|h3;exact hj h3;exact h3 Ce
end
section
variable {P:Program} {md:Region.Mode} {ops:Array Oper} {Q:Exit->Act->ak->Prop} {Φ:List (au->ak->Prop)} {a0:Act} {w0:ak}
def X6(P:Program)(md:Region.Mode)(ops:Array Oper)(Q:Exit->Act->ak->Prop)(Φ:List (au->ak->Prop))(a0:Act)(w0:ak)(i:Nat)(o:Oper):Prop:=
 ∀(a:Act) (w:ak),Ev w0 w->a.defers=a0.defers->
  (∀d,later md ops i d=true->a.eval (.tmp d)=a0.eval (.tmp d))->
  (∀j d,dW md ops i j=true->dI ops j=some d->cZ Φ j (a.eval (.tmp d)) w)->
  ∀K:Act->ak->Prop,(∀v w',Ev w w'->cZ Φ i v w'->K (a.put o.dst v) w')->
  if Region.wanted o (yielded ops a.tmps)=true then Oper.wp P o a w K Q else K (a.put o.dst undef) w
structure Mid(md:Region.Mode)(ops:Array Oper)(Φ:List (au->ak->Prop))(a0:Act)(w0:ak)(listed:Array Bool)(a:Act)(w:ak):Prop where
 size:listed.size=ops.size
 ev:Ev w0 w
 defers:a.defers=a0.defers
 slots:a.tmps.size=a0.tmps.size
 closed:∀i j,listed.getD i false=true->dW md ops i j=true->listed.getD j false=true
 keep:∀d,(∀i,listed.getD i false=true->dI ops i≠some d)->a.eval (.tmp d)=a0.eval (.tmp d)
 done:∀i d,listed.getD i false=true->dI ops i=some d->cZ Φ i (a.eval (.tmp d)) w
def fP(listed:Array Bool)(n:Nat):Nat:=(List.range n).countP λi=>!listed.getD i false
theorem o9{listed:Array Bool}{n i:Nat}(hs:listed.size=n)(hi:i<n)(hu:listed.getD i false=false):fP (listed.setIfInBounds i true) n<fP listed n:=by
 unfold fP;have key:∀l:List Nat,i∈l->(∀j∈l,j<n)->l.countP (λj=>!(listed.setIfInBounds i true).getD j false)<l.countP (λj=>!listed.getD j false):=by
  have mono:∀l:List Nat,l.countP (λj=>!(listed.setIfInBounds i true).getD j false)<=l.countP (λj=>!listed.getD j false):=by intro l;apply List.countP_mono_left;intro j _ hj;by_cases Ci:i=j;subst Ci;simp[hs,hi]at hj;rw[getD_set_ne false Ci]at hj;exact hj
  intro l
  induction l with
  | nil=>intro h _;cases h
  | cons x l ih=>
   intro hm hl;by_cases hx:x=i;subst hx;have h1:(!(listed.setIfInBounds x true).getD x false)=false:=by simp[hs,hi]
   have h2:(!listed.getD x false)=true:=by rw[hu];rfl
   rw[axV (by simpa using h1),List.countP_cons_of_pos (by simpa using h2)];have:=mono l;omega;have Pg:i∈l:=by rcases awq.1 hm with h|h;exact absurd h.symm hx;exact h
   have h3:=ih Pg (λj hj=>hl j (awn _ hj));have h4:(!(listed.setIfInBounds i true).getD x false)=(!listed.getD x false):=by rw[getD_set_ne false (Ne.symm hx)]
   simp only[List.countP_cons];rw[h4];omega
 exact key _ (axb.2 hi) (λj hj=>axb.1 hj)
theorem uT{n:Nat}(ht:tidy md ops n=true){listed:Array Bool}(hs:listed.size=ops.size)(hr:Region.ready md ops listed=[]):∀i,i<ops.size->listed.getD i false=true:=by
 intro i
 induction i using Nat.strongRecOn with
 | ind i ih=>
  intro hi;by_cases hl:listed.getD i false=true;exact hl;have hmem:i∈Region.ready md ops listed:=by
   rw[mem_ready];have hlt:i<listed.size:=ae;refine⟨by simpa[hlt] using hl,ops[i],axF hi,λe he hb=>?_⟩;have hp:dW md ops i e.on=true:=by unfold dW;rw[axF hi];exact axp.2 ⟨e,he,by simp[hb]⟩
   have hb2:=Rl ht hp;exact ih e.on hb2 ae
  rw[hr]at hmem
  cases hmem
theorem eval_put_same{a:Act}{d:Tmp}{v:au}(h:d<a.tmps.size):(a.put (some d) v).eval (.tmp d)=v:=by simp[Act.put,Act.eval,h]
theorem eG{a:Act}{dst:Option Tmp}{d:Tmp}{v:au}(h:dst≠some d):(a.put dst v).eval (.tmp d)=a.eval (.tmp d):=by
 apply Act.eval_put;intro d' hd' he;injection he with he
 subst he;exact h hd'
theorem yA(a:Act)(dst:Option Tmp)(v:au):(a.put dst v).defers=a.defers:=by cases dst<;>rfl
theorem size_put(a:Act)(dst:Option Tmp)(v:au):(a.put dst v).tmps.size=a.tmps.size:=by cases dst<;>simp[Act.put]
theorem aAL(h:U:=by intro j hj;by_cases Ci:i=j;exact .inl Ci.symm;rw[getD_set_ne false Ci]at hj;exact .inr hj):U:=h
theorem aAf(h:U:=by unfold dW at hp;simp only[ho]at hp;obtain⟨e,he,hb⟩:=axp.1 hp;simp only[awk,awx]at hb;rw[<-hb.2];exact hall e he hb.1):U:=h
theorem ayT(h:U:=by intro j k hj hp;apply getD_set_true;rcases hset j hj with rfl|hj';obtain⟨_,o',Rn,hall⟩:=mem_ready.1 hr;rw[ho]at Rn;obtain rfl:=aw3 Rn;exact aAf;exact h.closed j k hj' hp):U:=h
theorem azX(h:U:=by
 intro d hd;have hne:o.dst≠some d:=by rw[<-Fa];exact hd i (by simp[h.size,hi])
 rw[eG hne];exact h.keep d λj hj=>hd j (getD_set_true hj)):U:=h
theorem aAq(h:U:=by rw[Fa]at hd;rw[hd];have hsz:=(kQ ht (by rw[Fa];exact hd)).1;rw[eval_put_same (by rw[h.slots];exact hsz)];exact hv):U:=h
theorem aAd(h:U:=by subst Ci;exact aAq):U:=h
theorem Mid.step(ht:tidy md ops a0.tmps.size=true)(hm:lu Φ){listed:Array Bool}{a:Act}{w w':ak}(h:Mid md ops Φ a0 w0 listed a w){i:Nat}{o:Oper}(ho:ops[i]?=some o)
  (hr:i∈Region.ready md ops listed) {v:au} (hE:Ev w w') (hv:cZ Φ i v w'):Mid md ops Φ a0 w0 (listed.setIfInBounds i true) (a.put o.dst v) w':=by
 have hi:i<ops.size:=(awu.1 ho).1;have Fa:dI ops i=o.dst:=by simp[dI,ho]
 have hset:∀j,(listed.setIfInBounds i true).getD j false=true->j=i∨listed.getD j false=true:=by exact aAL
 refine⟨by simpa using h.size,h.ev.trans hE,by rw[yA];exact h.defers,by rw[size_put];exact h.slots,?_,?_,?_⟩;exact ayT;exact azX;intro j d hj hd;rcases hset j hj with rfl|hj';exact aAq;by_cases Ci:j=i;exact aAd;have hne:o.dst≠some d:=by rw[<-Fa];exact(kQ ht hd).2 i (λe=>Ci e.symm)
 rw[eG hne];exact mV Φ hm j _ _ _ hE (h.done j d hj' hd)
theorem azG(h:U:=by
 have hlt:i<ops.size:=by
  unfold dI at hid
  cases ho:ops[i]? with
  | none=>simp[ho]at hid
  | some o=>exact(awu.1 ho).1
 have:=(awF.1 hd) i (axb.2 hlt);simp[hid]at this):U:=h
theorem ay3(h:U:=by
 apply axB.2;intro i hi;obtain⟨h0,o,ho,_⟩:=mem_ready.1 hi;have hlt:i<ops.size:=(awu.1 ho).1;have:fP listed ops.size=0:=ae;unfold fP at this;rw[axA]at this;have h1:=this i (axb.2 hlt);have hl:i<listed.size:=by rw[h.size];exact hlt
 simp[hl]at h0 h1;rw[h0]at h1
 cases h1):U:=h
theorem ayR(h:U:=by
 have Cf:j<ops.size:=by
  unfold dI at Ce
  cases Ph:ops[j]? with
  | none=>simp[Ph]at Ce
  | some o=>exact(awu.1 Ph).1
 have h1:=(awF.1 hd) j (axb.2 Cf);simp only[awP,awx,axr]at h1;rcases h1 with (h1|h1)|h1;subst h1;rw[xy]at hj;cases hj;exact h1 Ce;have:=h.closed j i hj h1;rw[xy]at this;cases this):U:=h
theorem X7(ht:tidy md ops a0.tmps.size=true)(hm:lu Φ)
  (hops:∀i o,ops[i]?=some o->X6 P md ops Q Φ a0 w0 i o)
  (hQ:∀a w,Ev w0 w->a.defers=a0.defers->a.tmps.size=a0.tmps.size->(∀d,nobody ops d=true->a.eval (.tmp d)=a0.eval (.tmp d))->
   (∀i d,dI ops i=some d->cZ Φ i (a.eval (.tmp d)) w)->Q .normal a w):
  ∀(fuel:Nat) (listed:Array Bool) (a:Act) (w:ak),fP listed ops.size<=fuel->Mid md ops Φ a0 w0 listed a w->wpAny P md ops Q fuel listed a w:=by
 have fin:∀(listed:Array Bool) (a:Act) (w:ak),Region.ready md ops listed=[]->Mid md ops Φ a0 w0 listed a w->Q .normal a w:=by intro listed a w hr h;have hall:=uT ht h.size hr;refine hQ a w h.ev h.defers h.slots (λd hd=>h.keep d λi hi hid=>?_) (λi d hd=>h.done i d (hall i ?_) hd);exact azG;exact aAQ
 intro fuel
 induction fuel with
 | zero=>
  intro listed a w hu h;have hr:Region.ready md ops listed=[]:=by exact ay3
  exact⟨hr,fin listed a w hr h⟩
 | succ fuel ih=>
  intro listed a w hu h;refine⟨λhr=>fin listed a w hr h,λi hi=>?_⟩;obtain⟨h0,o,ho,hall⟩:=mem_ready.1 hi;have hlt:i<ops.size:=(awu.1 ho).1;have hl:i<listed.size:=by rw[h.size];exact hlt
  have xy:listed.getD i false=false:=by simpa[hl] using h0
  have hcount:=o9 h.size hlt xy;refine wpOp_step ho λK' hK'=>?_;refine hops i o ho a w h.ev h.defers (λd hd=>h.keep d λj hj Ce=>?_) (λj d hp hd=>?_) K' (λv w' hE hv=>hK' _ _ (ih _ _ _ ae (h.step ht hm ho hi hE hv)));exact ayR;refine h.done j d ?_ hd;exact aAf
theorem aBf(h:U:=by intro i j hi;exfalso;by_cases hlt:i<ops.size<;>simp[hlt]at hi):U:=h
theorem aBg(h:U:=by intro i d hi;exfalso;by_cases hlt:i<ops.size<;>simp[hlt]at hi):U:=h
theorem MV{id:Nat}(fD:P.follows .mixedOrders=true)(Φ:List (au->ak->Prop))(ht:tidy .any ops a0.tmps.size=true)(hm:lu Φ)
  (hops:∀i o,ops[i]?=some o->X6 P .any ops Q Φ a0 w0 i o)
  (hQ:∀a w,Ev w0 w->a.defers=a0.defers->a.tmps.size=a0.tmps.size->(∀d,nobody ops d=true->a.eval (.tmp d)=a0.eval (.tmp d))->
   (∀i d,dI ops i=some d->cZ Φ i (a.eval (.tmp d)) w)->Q .normal a w):
  (Code.region id ops true).wp P Q a0 w0:=by
 refine wp_region_any fD (X7 ht hm hops hQ ops.size _ _ _ ?_ ⟨aj,?_,rfl,rfl,?_,λ_ _=>rfl,?_⟩);unfold fP;exact awJ axN aj;exact⟨rfl,rfl,rfl,awj _,λ_ _=>rfl⟩;exact aBf;exact aBg
theorem kM{R:Nat->Oper->Prop}(k:Nat):∀i o,(([]:List Oper).toArray)[i]?=some o->R (k+i) o:=by intro i o h;simp at h
theorem aC{R:Nat->Oper->Prop}{o0:Oper}{l:List Oper}(k:Nat)(h0:R k o0)(h:∀i o,l.toArray[i]?=some o->R (k+1+i) o):∀i o,(o0::l).toArray[i]?=some o->R (k+i) o:=by
 intro i o hi
 cases i with
 | zero=>simp at hi;subst hi;exact h0
 | succ i=>
  have:=h i o (by simpa using hi);rwa [show k+1+i=k+(i+1) by omega]at this
theorem X8{R:Nat->Oper->Prop}{ops:Array Oper}(h:∀i o,ops[i]?=some o->R (0+i) o):∀i o,ops[i]?=some o->R i o:=by intro i o hi;have:=h i o hi;rwa [awL]at this
theorem U3{a:Act}{j d:Nat}{b:Bool}(hd:dI ops j=some d)(h:a.eval (.tmp d)=.bool b):yielded ops a.tmps j=some b:=by unfold dI at hd;unfold yielded;rw[hd,Option.bind_some];simp only[Act.eval]at h;by_cases hlt:d<a.tmps.size;simp[hlt]at h;simp[hlt,h];simp[hlt,undef]at h
structure Ctx(md:Region.Mode)(ops:Array Oper)(Φ:List (au->ak->Prop))(a0:Act)(w0:ak)(i:Nat)(a:Act)(w:ak):Prop where
 ev:Ev w0 w
 old:∀d,later md ops i d=true->a.eval (.tmp d)=a0.eval (.tmp d)
 new:∀(j:Nat) (d:Tmp) (_:dW md ops i j=true:=by kernel_rfl) (_:dI ops j=some d:=by kernel_rfl),cZ Φ j (a.eval (.tmp d)) w
theorem Ctx.was{i:Nat}{a:Act}{w:ak}(c:Ctx md ops Φ a0 w0 i a w)(d:Nat){v:au}(hv:a0.eval (.tmp d)=v)(h:later md ops i d=true:=by kernel_rfl):a.eval (.tmp d)=v:=(c.old d h).trans hv
theorem Ctx.got{i:Nat}{a:Act}{w:ak}(c:Ctx md ops Φ a0 w0 i a w)(j d:Nat){φ:au->ak->Prop}(h:dW md ops i j=true)(hd:dI ops j=some d)(hφ:cZ Φ j=φ):φ (a.eval (.tmp d)) w:=hφ▸c.new j d h hd
theorem aF{i:Nat}{o:Oper}(h:∀a w,Ctx md ops Φ a0 w0 i a w->Region.wanted o (yielded ops a.tmps)=true/\∃v,(execOp a.eval o).run P w=.ok (.value v) w/\cZ Φ i v w):X6 P md ops Q Φ a0 w0 i o:=by intro a w hE _ hold hnew K hK;obtain⟨hw,v,hr,hv⟩:=h a w ⟨hE,hold,hnew⟩;rw[if_pos hw];unfold Oper.wp;rw[hr];exact hK v w (Ev.refl w) hv
theorem je{i:Nat}{o:Oper}(h:∀a w,Ctx md ops Φ a0 w0 i a w->Region.wanted o (yielded ops a.tmps)=true/\∃v w',(execOp a.eval o).run P w=.ok (.value v) w'/\Ev w w'/\cZ Φ i v w'):X6 P md ops Q Φ a0 w0 i o:=by intro a w hE _ hold hnew K hK;obtain⟨hw,v,w',hr,X9,hv⟩:=h a w ⟨hE,hold,hnew⟩;rw[if_pos hw];unfold Oper.wp;rw[hr];exact hK v w' X9 hv
theorem gu{i:Nat}{o:Oper}(h:∀a w,Ctx md ops Φ a0 w0 i a w->Region.wanted o (yielded ops a.tmps)=true/\∃f args,(execOp a.eval o).run P w=.ok (.enter f args) w/\
  Calls P f args w λe w'=>∃v,e=.returned v/\Ev w w'/\cZ Φ i v w'):X6 P md ops Q Φ a0 w0 i o:=by
 intro a w hE _ hold hnew K hK;obtain⟨hw,f,args,hr,hc⟩:=h a w ⟨hE,hold,hnew⟩;rw[if_pos hw];unfold Oper.wp;rw[hr];refine hc.mono ?_;rintro e w' ⟨v,rfl,X9,hv⟩;exact hK v w' X9 hv
theorem run_move{ρ:Operand->au}{o:Oper}(x:Operand)(h:o.op=.move x)(w:ak):(execOp ρ o).run P w=.ok (.value (ρ x)) w:=by unfold execOp;rw[h];rfl
theorem run_assign{ρ:Operand->au}{o:Oper}(x:Operand)(h:o.op=.assign x)(w:ak):(execOp ρ o).run P w=.ok (.value (ρ x)) w:=by unfold execOp;rw[h];rfl
theorem MW{ρ:Operand->au}{o:Oper}{c x y:Operand}(ho:o.op=.pick c x y)(h:ρ c=.bool true)(w:ak):(execOp ρ o).run P w=.ok (.value (ρ x)) w:=by unfold execOp;rw[ho];simp[h,asBool]
theorem Z4(a:Act)(v:au):a.eval (.const v)=v:=rfl
def Fb (P : Program) (f : FuncId) : Bool := match P.funcs[f]? with | some fn => !(fn.name == "runtime.NumGoroutine") && !fn.body.isNone | none => false
theorem Oc{f:FuncId}(h:Fb P f=true)(args:Array au)(w:ak):(callFunc f args).run P w=.ok (.enter f args) w:=by
 unfold Fb at h
 cases hf:P.funcs[f]? with
 | none=>simp[hf]at h
 | some fn=>
  simp only[hf,awk,axC]at h;have h1 : ¬ fn.name = "runtime.NumGoroutine" := by simpa using h.1
  have h2:¬fn.body=none:=by intro e;simp[e]at h
  simp[callFunc,hf,h1,h2]
theorem bC{a:Act}{o:Oper}(f:FuncId)(xs:Array Operand)(ts:Array TypeId)(ho:o.op=.call {callee:=.value (.func f),args:=xs,argTypes:=ts})(h:Fb P f=true)(w:ak):
  (execOp a.eval o).run P w=.ok (.enter f (xs.map a.eval)) w:=by
 unfold execOp;rw[ho];simp[resolve,Act.eval,Deferred.ofValue,invoke];exact Oc h _ w
theorem ay{o:Oper}{y:Nat->Option Bool}(h:o.guard=none):Region.wanted o y=true:=by simp[Region.wanted,h]
theorem iY{o:Oper}{a:Act}{g d:Nat}{b:Bool}(h:o.guard=some (g,b))(hd:dI ops g=some d)(hv:a.eval (.tmp d)=.bool b):Region.wanted o (yielded ops a.tmps)=true:=by simp[Region.wanted,h,U3 hd hv]
theorem xN{a:Act}{n:Nat}(h:a.tmps.size=n):a=⟨((List.range n).map λd=>a.eval (.tmp d)).toArray,a.defers⟩:=by
 have e:a.tmps=((List.range n).map λd=>a.eval (.tmp d)).toArray:=by apply Array.ext;simp[h];intro i h1 h2;simp[Act.eval,h1]
 cases a
 simp only at e|-;rw[<-e]
theorem dD{id:Nat}(fD:P.follows .mixedOrders=true)(Φ:List (au->ak->Prop))(n:Nat)(hn:a0.tmps.size=n)(ht:tidy .any ops n=true)(hm:lu Φ)
  (hops:∀i o,ops[i]?=some o->X6 P .any ops Q Φ a0 w0 (0+i) o)
  (hQ:∀(s:Nat->au) w,Ev w0 w->(∀(d:Tmp) (_:nobody ops d=true:=by kernel_rfl),s d=a0.eval (.tmp d))->
   (∀(i:Nat) (d:Tmp) (_:dI ops i=some d:=by kernel_rfl),cZ Φ i (s d) w)->Q .normal ⟨((List.range n).map s).toArray,a0.defers⟩ w):
  (Code.region id ops true).wp P Q a0 w0:=by
 subst hn;refine MV fD Φ ht hm (X8 hops) ?_;intro a w hE hd hs hold hnew;rw[xN hs,hd];exact hQ (λd=>a.eval (.tmp d)) w hE hold hnew
end
theorem az{w:ak}{o:Obj}:Ev w (w.alloc o):=Ev.alloc w o
theorem aJ{w:ak}:Ev w w:=Ev.refl w
section
variable {P:Program} {md:Region.Mode} {ops:Array Oper} {Q:Exit->Act->ak->Prop} {Φ:List (au->ak->Prop)} {a0:Act} {w0:ak}
theorem Sr{R:Nat->Oper->Prop}{m:Nat}(k:Nat)(o0:Oper)(hk:m<=k):∀i o,([o0].toArray)[i]?=some o->k+i<m->R (k+i) o:=by intro i o _ h;omega
theorem cu{R:Nat->Oper->Prop}{m:Nat}{o0:Oper}{l:List Oper}(k:Nat)(h0:R k o0)(h:∀i o,l.toArray[i]?=some o->k+1+i<m->R (k+1+i) o):∀i o,(o0::l).toArray[i]?=some o->k+i<m->R (k+i) o:=by
 intro i o hi hlt
 cases i with
 | zero=>simp at hi;subst hi;exact h0
 | succ i=>
  have:=h i o (by simpa using hi) ae;rwa [show k+1+i=k+(i+1) by omega]at this
theorem JQ{R:Nat->Oper->Prop}{m:Nat}{ops:Array Oper}(h:∀i o,ops[i]?=some o->0+i<m->R (0+i) o):∀i o,ops[i]?=some o->i<m->R i o:=by intro i o hi hlt;have:=h i o hi ae;rwa [awL]at this
theorem yI{o:Oper}{a:Act}{w w':ak}{K:Act->ak->Prop}(h:(execOp a.eval o).run P w=.ok .skip w')(hk:K (a.put o.dst undef) w'):Oper.wp P o a w K Q:=by unfold Oper.wp;rw[h];exact hk
end
section
variable {P:Program} {md:Region.Mode} {ops:Array Oper} {Q:Exit->Act->ak->Prop} {Φ:List (au->ak->Prop)} {a0:Act} {w0:ak}
end
def Xu(md:Region.Mode)(ops:Array Oper)(D:List Nat)(p j i:Nat):Bool:=!D.contains i||j==p||dW md ops p j
def AnyW(φ:au->ak->Prop):Prop:=∀v w w',φ v w->φ v w'
theorem any_eq(x:au):AnyW (λv _=>v=x):=λ_ _ _ h=>h
def aaJ(md:Region.Mode)(ops:Array Oper)(D:List Nat)(p:Nat):Nat->List (au->ak->Prop)->Prop
 | _,[]=>True
 | k,φ::l=>((k==p||dW md ops k p||D.contains k)=true∨AnyW φ)/\aaJ md ops D p (k+1) l
theorem JU{md:Region.Mode}{ops:Array Oper}{D:List Nat}{p:Nat}:∀(Φ:List (au->ak->Prop)) (k:Nat),aaJ md ops D p k Φ->∀i,(k+i==p||dW md ops (k+i) p||D.contains (k+i))=false->AnyW (cZ Φ i)
 | [],_,_,i,_=>λ_ _ _ _=>trivial
 | φ::l,k,h,0,hn=>by rcases h.1 with h1|h1;rw[awM,h1]at hn;cases hn;exact h1
 | φ::l,k,h,i+1,hn=>JU l (k+1) h.2 i (by rwa [show k+1+i=k+(i+1) by omega])
section
variable {P:Program} {md:Region.Mode} {ops:Array Oper} {Q:Exit->Act->ak->Prop} {Φ:List (au->ak->Prop)} {a0:Act} {w0:ak} {D:List Nat} {p:Nat}
def pG(w0:ak)(p i:Nat)(w w':ak):Prop:=if i=p then Ev w0 w' else Ev w w'
structure aaK(md:Region.Mode)(ops:Array Oper)(Φ:List (au->ak->Prop))(a0:Act)(w0:ak)(D:List Nat)(p i:Nat)(a:Act)(w:ak):Prop where
 ev:Ev w0 w
 old:∀d,later md ops i d=true->a.eval (.tmp d)=a0.eval (.tmp d)
 new:∀(j:Nat) (d:Tmp) (_:dW md ops i j=true:=by kernel_rfl) (_:dI ops j=some d:=by kernel_rfl) (_:Xu md ops D p i j=true:=by kernel_rfl),cZ Φ j (a.eval (.tmp d)) w
theorem aaK.was{i:Nat}{a:Act}{w:ak}(c:aaK md ops Φ a0 w0 D p i a w)(d:Nat){v:au}(hv:a0.eval (.tmp d)=v)(h:later md ops i d=true:=by kernel_rfl):a.eval (.tmp d)=v:=(c.old d h).trans hv
def Xv(P:Program)(md:Region.Mode)(ops:Array Oper)(Q:Exit->Act->ak->Prop)(Φ:List (au->ak->Prop))(a0:Act)(w0:ak)(D:List Nat)(p i:Nat)(o:Oper):Prop:=
 ∀(a:Act) (w:ak),aaK md ops Φ a0 w0 D p i a w->
  ∀K:Act->ak->Prop,(∀v w',pG w0 p i w w'->cZ Φ i v w'->K (a.put o.dst v) w')->
  if Region.wanted o (yielded ops a.tmps)=true then Oper.wp P o a w K Q else K (a.put o.dst undef) w
structure adr(md:Region.Mode)(ops:Array Oper)(Φ:List (au->ak->Prop))(a0:Act)(w0:ak)(D:List Nat)(p:Nat)(listed:Array Bool)(a:Act)(w:ak):Prop where
 size:listed.size=ops.size
 ev:Ev w0 w
 defers:a.defers=a0.defers
 slots:a.tmps.size=a0.tmps.size
 closed:∀i j,listed.getD i false=true->dW md ops i j=true->listed.getD j false=true
 keep:∀d,(∀i,listed.getD i false=true->dI ops i≠some d)->a.eval (.tmp d)=a0.eval (.tmp d)
 done:∀i d,listed.getD i false=true->dI ops i=some d->(listed.getD p false=false∨i=p∨D.contains i=false)->cZ Φ i (a.eval (.tmp d)) w
theorem adr.step(ht:tidy md ops a0.tmps.size=true)(hm:lu Φ)(hd:aaJ md ops D p 0 Φ){listed:Array Bool}{a:Act}{w w':ak}(h:adr md ops Φ a0 w0 D p listed a w){i:Nat}{o:Oper}(ho:ops[i]?=some o)
  (hr:i∈Region.ready md ops listed) {v:au} (xy:listed.getD i false=false) (hE:pG w0 p i w w') (hv:cZ Φ i v w'):adr md ops Φ a0 w0 D p (listed.setIfInBounds i true) (a.put o.dst v) w':=by
 have hi:i<ops.size:=(awu.1 ho).1;have Fa:dI ops i=o.dst:=by simp[dI,ho]
 have hset:∀j,(listed.setIfInBounds i true).getD j false=true->j=i∨listed.getD j false=true:=by exact aAL
 refine⟨by simpa using h.size,?_,by rw[yA];exact h.defers,by rw[size_put];exact h.slots,?_,?_,?_⟩;unfold pG at hE;split at hE;exact hE;exact h.ev.trans hE;exact ayT;exact azX;intro j d hj hdd hlive;by_cases hji:j=i;subst hji;rw[Fa]at hdd;rw[hdd];have hsz:=(kQ ht (by rw[Fa];exact hdd)).1;rw[eval_put_same (by rw[h.slots];exact hsz)];exact hv;have hj':listed.getD j false=true:=(hset j hj).resolve_left hji;have hne:o.dst≠some d:=by rw[<-Fa];exact(kQ ht hdd).2 i (λe=>hji e.symm)
 rw[eG hne];by_cases hip:i=p;subst hip;have af4:D.contains j=false:=by rcases hlive with h1|h1|h1;rw[show (listed.setIfInBounds i true).getD i false=true by simp[h.size,hi]]at h1;cases h1;exact absurd h1 hji;exact h1
 have hnp:dW md ops j i=false:=by
  cases hpm:dW md ops j i
  rfl;have:=h.closed j i hj' hpm;rw[xy]at this;cases this
 refine JU Φ 0 hd j ?_ _ _ _ (h.done j d hj' hdd (.inl xy));rw[awL,hnp,af4];simp[hji];have X9:Ev w w':=by unfold pG at hE;rwa [if_neg hip]at hE
 refine mV Φ hm j _ _ _ X9 (h.done j d hj' hdd ?_);rcases hlive with h1|h1|h1;rw[getD_set_ne false hip]at h1;exact .inl h1;exact .inr (.inl h1);exact .inr (.inr h1)
theorem Sv(ht:tidy md ops a0.tmps.size=true)(hm:lu Φ)(hd:aaJ md ops D p 0 Φ){m:Nat}{om:Oper}(hom:ops[m]?=some om)(hsz:ops.size=m+1)(hall:(List.range m).all (λj=>dW md ops m j||(List.range m).any (λk=>dW md ops m k&&dW md ops k j))=true)
  (hops:∀i o,ops[i]?=some o->i<m->Xv P md ops Q Φ a0 w0 D p i o)
  (hQ:∀a w,Ev w0 w->a.defers=a0.defers->a.tmps.size=a0.tmps.size->(∀d,nobody ops d=true->a.eval (.tmp d)=a0.eval (.tmp d))->
   (∀i d,i<m->(i==p||!D.contains i)=true->dI ops i=some d->cZ Φ i (a.eval (.tmp d)) w)->
   Region.wanted om (yielded ops a.tmps)=true/\Oper.wp P om a w (Q .normal) Q):
  ∀(fuel:Nat) (listed:Array Bool) (a:Act) (w:ak),fP listed ops.size<=fuel->listed.getD m false=false->adr md ops Φ a0 w0 D p listed a w->wpAny P md ops Q fuel listed a w:=by
 have ads:m<ops.size:=ae;intro fuel
 induction fuel with
 | zero=>
  intro listed a w hu hml h;exfalso;have:fP listed ops.size=0:=ae;unfold fP at this;rw[axA]at this;exact this m (axb.2 ads) (by rw[hml];rfl)
 | succ fuel ih=>
  intro listed a w hu hml h;refine⟨λhr=>?_,λi hi=>?_⟩;have:=uT ht h.size hr m ads;rw[hml]at this
  cases this
  obtain⟨h0,o,ho,hbef⟩:=mem_ready.1 hi;have hlt:i<ops.size:=(awu.1 ho).1;have hl:i<listed.size:=by rw[h.size];exact hlt
  have xy:listed.getD i false=false:=by simpa[hl] using h0
  by_cases ET:i=m;subst ET;rw[hom]at ho;obtain rfl:=aw3 ho;have hdone:∀j,j<i->listed.getD j false=true:=by
   intro j hj;have aiu:∀k,dW md ops i k=true->listed.getD k false=true:=λk hp=>by unfold dW at hp;simp only[hom]at hp;obtain⟨e,he,hb⟩:=axp.1 hp;simp only[awk,awx]at hb;rw[<-hb.2];exact hbef e he hb.1
   have hp:=(awF.1 hall) j (axb.2 hj);rcases awP _ _▸hp with h1|h1;exact aiu j h1;obtain⟨k,_,hk⟩:=axu.1 h1;rw[awk]at hk;exact h.closed k j (aiu k hk.1) hk.2
  obtain⟨hw,hwp⟩:=hQ a w h.ev h.defers h.slots (λd hd=>h.keep d λj hj Ce=>by
    have Cf:j<ops.size:=by
     unfold dI at Ce
     cases Ph:ops[j]? with
     | none=>simp[Ph]at Ce
     | some o=>exact(awu.1 Ph).1
    have:=(awF.1 hd) j (axb.2 Cf);simp[Ce]at this) (λj d hj hlv hd=>h.done j d (hdone j hj) hd (by
     simp only[awP,awx,axC]at hlv;exact .inr hlv))
  refine wpOp_step hom λK' hK'=>?_;rw[if_pos hw];refine Oper.wp_mono (λa' w' hq=>hK' a' w' (wpAny_done ?_ hq fuel)) hwp;apply axB.2;intro j hj;obtain⟨hj0,oj,Ph,_⟩:=mem_ready.1 hj;have Cf:j<ops.size:=(awu.1 Ph).1;have ZP:j<(listed.setIfInBounds i true).size:=by simp[h.size,Cf]
  have hjt:(listed.setIfInBounds i true).getD j false=true:=by by_cases hji:j=i;subst hji;simp[hl];exact getD_set_true (hdone j ae)
  simp only[Array.getD_eq_getD_getElem?,axF ZP,Option.getD_some]at hj0 hjt;rw[hj0]at hjt
  cases hjt
  have hcount:=o9 h.size hlt xy;have hpre:∀j,dW md ops i j=true->listed.getD j false=true:=λj hp=>by unfold dW at hp;simp only[ho]at hp;obtain⟨e,he,hb⟩:=axp.1 hp;simp only[awk,awx]at hb;rw[<-hb.2];exact hbef e he hb.1
  refine wpOp_step ho λK' hK'=>?_;refine hops i o ho ae a w ⟨h.ev,λd hd=>h.keep d λj hj Ce=>?_,λj d hp hd hav=>?_⟩ K' (λv w' hE hv=>hK' _ _ (ih _ _ _ ae ?_ (h.step ht hm hd ho hi xy hE hv)));exact ayR;refine h.done j d (hpre j hp) hd ?_
  cases hpl:listed.getD p false with
  | false=>exact .inl rfl
  | true=>
   refine .inr ?_;unfold Xu at hav
   cases hdd:D.contains j with
   | false=>exact .inr rfl
   | true=>
    exfalso;rw[hdd]at hav;simp only[Bool.not_true,Bool.false_or,awP,awx]at hav;rcases hav with h1|h1;subst h1;rw[xy]at hpl;cases hpl;have:=h.closed p i hpl h1;rw[xy]at this;cases this
  rw[getD_set_ne false ET];exact hml
theorem y9{id:Nat}(fD:P.follows .mixedOrders=true)(D:List Nat)(p:Nat)(Φ:List (au->ak->Prop))(n:Nat)(hn:a0.tmps.size=n)(m:Nat)(om:Oper)(hom:ops[m]?=some om)(hsz:ops.size=m+1)
  (hall:(List.range m).all (λj=>dW .any ops m j||(List.range m).any (λk=>dW .any ops m k&&dW .any ops k j))=true) (ht:tidy .any ops n=true) (hm:lu Φ) (hdd:aaJ .any ops D p 0 Φ)
  (hops:∀i o,ops[i]?=some o->i<m->Xv P .any ops Q Φ a0 w0 D p i o)
  (hQ:∀(s:Nat->au) w,Ev w0 w->(∀(d:Tmp) (_:nobody ops d=true:=by kernel_rfl),s d=a0.eval (.tmp d))->(∀i d,i<m->(i==p||!D.contains i)=true->dI ops i=some d->cZ Φ i (s d) w)->
   Region.wanted om (yielded ops ((List.range n).map s).toArray)=true/\Oper.wp P om ⟨((List.range n).map s).toArray,a0.defers⟩ w (Q .normal) Q):
  (Code.region id ops true).wp P Q a0 w0:=by
 subst hn;refine wp_region_any fD (Sv ht hm hdd hom hsz hall hops ?_ ops.size _ _ _ ?_ ?_ ⟨aj,?_,rfl,rfl,?_,λ_ _=>rfl,?_⟩);intro a w hE hd hs hold hnew;have hf:=xN hs;rw[hd]at hf;have hq:=hQ (λd=>a.eval (.tmp d)) w hE hold hnew;rw[hf];rw[<-hf]at hq|-;exact⟨by have:=hq.1;rwa [show ((List.range a0.tmps.size).map λd=>a.eval (.tmp d)).toArray=a.tmps from (congrArg Act.tmps hf).symm]at this,hq.2⟩;unfold fP;exact awJ axN aj;have hlt:m<ops.size:=ae;simp[hlt];exact⟨rfl,rfl,rfl,awj _,λ_ _=>rfl⟩;exact aBf;exact aBg
theorem dV{i:Nat}{o:Oper}(hi:i≠p)(h:∀a w,aaK md ops Φ a0 w0 D p i a w->Region.wanted o (yielded ops a.tmps)=true/\∃v,(execOp a.eval o).run P w=.ok (.value v) w/\cZ Φ i v w):Xv P md ops Q Φ a0 w0 D p i o:=by intro a w c L hL;obtain⟨hw,v,hr,hv⟩:=h a w c;rw[if_pos hw];unfold Oper.wp;rw[hr];exact hL v w (by unfold pG;rw[if_neg hi];exact Ev.refl w) hv
theorem oN{i:Nat}{o:Oper}(h:∀a w,aaK md ops Φ a0 w0 D p i a w->Region.wanted o (yielded ops a.tmps)=true/\∃v w',(execOp a.eval o).run P w=.ok (.value v) w'/\pG w0 p i w w'/\cZ Φ i v w'):Xv P md ops Q Φ a0 w0 D p i o:=by intro a w c L hL;obtain⟨hw,v,w',hr,X9,hv⟩:=h a w c;rw[if_pos hw];unfold Oper.wp;rw[hr];exact hL v w' X9 hv
end
section
variable {P:Program} {md:Region.Mode} {ops:Array Oper} {Q:Exit->Act->ak->Prop} {Φ:List (au->ak->Prop)} {a0:Act} {w0:ak} {J:ak->ak->Prop} {m dm:Nat} {Ψ:au->ak->Prop}
end
section
variable {P:Program} {md:Region.Mode} {ops:Array Oper} {Q:Exit->Act->ak->Prop} {Φ:List (au->ak->Prop)} {a0:Act} {J:ak->ak->Prop} {I:ak->Prop} {ms:List Nat} {St:Nat->ak->Prop}
def reachC(md:Region.Mode)(ops:Array Oper):Nat->Nat->Nat->Bool
 | 0,i,j=>dW md ops i j
 | n+1,i,j=>dW md ops i j||(List.range ops.size).any λx=>dW md ops i x&&reachC md ops n x j
def chainC(md:Region.Mode)(ops:Array Oper):List Nat->Bool
 | []=>true
 | [_]=>true
 | a::b::l=>reachC md ops 3 b a&&decide (a<b)&&chainC md ops (b::l)
def AV(J:ak->ak->Prop):List (au->ak->Prop)->Prop
 | []=>True
 | φ::l=>(∀v w w',J w w'->φ v w->φ v w')/\AV J l
theorem Eh:∀(Φ:List (au->ak->Prop)),AV J Φ->∀i v w w',J w w'->cZ Φ i v w->cZ Φ i v w'
 | [],_,i=>λ_ _ _ _ _=>trivial
 | φ::l,h,0=>h.1
 | φ::l,h,i+1=>Eh l h.2 i
structure Gi(md:Region.Mode)(ops:Array Oper)(Φ:List (au->ak->Prop))(a0:Act)(I:ak->Prop)(i:Nat)(a:Act)(w:ak):Prop where
 inv:I w
 old:∀d,later md ops i d=true->a.eval (.tmp d)=a0.eval (.tmp d)
 new:∀(j:Nat) (d:Tmp) (_:dW md ops i j=true:=by kernel_rfl) (_:dI ops j=some d:=by kernel_rfl),cZ Φ j (a.eval (.tmp d)) w
theorem Gi.was{i:Nat}{a:Act}{w:ak}(c:Gi md ops Φ a0 I i a w)(d:Nat){v:au}(hv:a0.eval (.tmp d)=v)(h:later md ops i d=true:=by kernel_rfl):a.eval (.tmp d)=v:=(c.old d h).trans hv
theorem Gi.got{i:Nat}{a:Act}{w:ak}(c:Gi md ops Φ a0 I i a w)(j d:Nat){φ:au->ak->Prop}(h:dW md ops i j=true)(hd:dI ops j=some d)(hφ:cZ Φ j=φ):φ (a.eval (.tmp d)) w:=hφ▸c.new j d h hd
def OA(P:Program)(md:Region.Mode)(ops:Array Oper)(Q:Exit->Act->ak->Prop)(Φ:List (au->ak->Prop))(a0:Act)(I:ak->Prop)(i:Nat)(o:Oper):Prop:=
 ∀(a:Act) (w:ak),Gi md ops Φ a0 I i a w->∀K:Act->ak->Prop,(∀v w',Ev w w'->I w'->cZ Φ i v w'->K (a.put o.dst v) w')->
  if Region.wanted o (yielded ops a.tmps)=true then Oper.wp P o a w K Q else K (a.put o.dst undef) w
def OB(P:Program)(md:Region.Mode)(ops:Array Oper)(Q:Exit->Act->ak->Prop)(Φ:List (au->ak->Prop))(a0:Act)(I:ak->Prop)(J:ak->ak->Prop)(St:Nat->ak->Prop)(p i:Nat)(o:Oper):Prop:=
 ∀(a:Act) (w:ak),Gi md ops Φ a0 I i a w->St p w->∀K:Act->ak->Prop,(∀v w',J w w'->I w'->St (p+1) w'->cZ Φ i v w'->K (a.put o.dst v) w')->
  if Region.wanted o (yielded ops a.tmps)=true then Oper.wp P o a w K Q else K (a.put o.dst undef) w
def gY(listed:Array Bool)(ms:List Nat):Nat:=ms.countP λi=>listed.getD i false
structure VS(md:Region.Mode)(ops:Array Oper)(Φ:List (au->ak->Prop))(a0:Act)(I:ak->Prop)(ms:List Nat)(St:Nat->ak->Prop)(listed:Array Bool)(a:Act)(w:ak):Prop where
 size:listed.size=ops.size
 inv:I w
 defers:a.defers=a0.defers
 slots:a.tmps.size=a0.tmps.size
 closed:∀i j,listed.getD i false=true->dW md ops i j=true->listed.getD j false=true
 keep:∀d,(∀i,listed.getD i false=true->dI ops i≠some d)->a.eval (.tmp d)=a0.eval (.tmp d)
 done:∀i d,listed.getD i false=true->dI ops i=some d->cZ Φ i (a.eval (.tmp d)) w
 st:St (gY listed ms) w
theorem iE{listed:Array Bool}(hc:∀i j,listed.getD i false=true->dW md ops i j=true->listed.getD j false=true):∀(n i j:Nat),reachC md ops n i j=true->listed.getD i false=true->listed.getD j false=true
 | 0,i,j,h,hl=>hc i j hl h
 | n+1,i,j,h,hl=>by unfold reachC at h;rw[awP]at h;rcases h with h|h;exact hc i j hl h;obtain⟨x,_,hx⟩:=axu.1 h;rw[awk]at hx;exact iE hc n x j hx.2 (hc i x hl hx.1)
theorem yT:∀{a:Nat} {l:List Nat},chainC md ops (a::l)=true->chainC md ops l=true
 | a,[],_=>rfl
 | a,b::l,h=>by unfold chainC at h;rw[awk]at h;exact h.2
theorem yU{listed:Array Bool}(hc:∀i j,listed.getD i false=true->dW md ops i j=true->listed.getD j false=true):∀(a:Nat) (l:List Nat),chainC md ops (a::l)=true->listed.getD a false=false->gY listed (a::l)=0
 | a,[],_,h=>by unfold gY;rw[axV (by rw[h];exact axM)];rfl
 | a,b::l,hch,h=>by
  have VT:=hch;unfold chainC at VT;rw[awk,awk]at VT;have hb:listed.getD b false=false:=by
   cases hb:listed.getD b false
   rfl;have:=iE hc 3 b a VT.1.1 hb;rw[h]at this;cases this
  have:=yU hc b l VT.2 hb;unfold gY at this|-;rw[axV (by rw[h];exact axM)];exact this
theorem Tm:∀(l:List Nat) (a:Nat),chainC md ops (a::l)=true->∀x∈l,a<x
 | [],a,_,x,hx=>by cases hx
 | b::l,a,h,x,hx=>by have h2:=h;unfold chainC at h2;rw[awk,awk]at h2;have hab:=axI h2.1.2;rcases awq.1 hx with rfl|hx;exact hab;exact Nat.lt_trans hab (Tm l b h2.2 x hx)
theorem Ei{listed:Array Bool}(hc:∀i j,listed.getD i false=true->dW md ops i j=true->listed.getD j false=true):∀(ms:List Nat) (p i:Nat),chainC md ops ms=true->ms[p]?=some i->listed.getD i false=false->(∀j n,reachC md ops n i j=true->i≠j->listed.getD j false=true)->gY listed ms=p
 | [],p,i,_,h,_,_=>by simp at h
 | [a],0,i,hch,h,hl,_=>by simp at h;subst h;exact yU hc a [] hch hl
 | [a],p+1,i,hch,h,hl,_=>by simp at h
 | a::b::l,0,i,hch,h,hl,_=>by simp at h;subst h;exact yU hc a (b::l) hch hl
 | a::b::l,p+1,i,hch,h,hl,hd=>by
  have VT:=yT hch;have ih:=Ei hc (b::l) p i VT (by simpa using h) hl hd;have JK:listed.getD a false=true:=by
   have hh:=hch;unfold chainC at hh;rw[awk,awk]at hh
   cases p with
   | zero=>
    simp at h;subst h;exact hd a 3 hh.1.1 (by have:=axI hh.1.2;omega)
   | succ p=>
    have hbl:listed.getD b false=true:=by
     cases hbl:listed.getD b false
     have:=yU hc b l VT hbl;rw[this]at ih;cases ih;rfl
    exact iE hc 3 b a hh.1.1 hbl
  unfold gY at ih|-;rw[List.countP_cons_of_pos (p:=λi=>listed.getD i false) JK,ih]
theorem yf{listed:Array Bool}{i:Nat}(hi:i<listed.size):∀ms:List Nat,i∉ms->gY (listed.setIfInBounds i true) ms=gY listed ms
 | [],_=>rfl
 | a::l,h=>by have hne:i≠a:=λe=>h (e▸awp ..);have ih:=yf hi l λhm=>h (awn _ hm);unfold gY at ih|-;rw[List.countP_cons,List.countP_cons,ih,getD_set_ne false hne]
theorem sO{listed:Array Bool}{i:Nat}(hi:i<listed.size)(xy:listed.getD i false=false):∀ms:List Nat,ms.Pairwise (·<·)->i∈ms->gY (listed.setIfInBounds i true) ms=gY listed ms+1
 | [],_,h=>by cases h
 | a::l,hp,h=>by rw[List.pairwise_cons]at hp;rcases awq.1 h with e|h;subst e;have hnm:i∉l:=λhm=>Nat.lt_irrefl _ (hp.1 i hm);have:=yf hi l hnm;unfold gY at this|-;rw[List.countP_cons_of_pos (by simp[hi]),axV (by rw[xy];exact axM),this];have hne:i≠a:=λe=>Nat.lt_irrefl _ (hp.1 a (e▸h));have ih:=sO hi xy l hp.2 h;unfold gY at ih|-;rw[List.countP_cons,List.countP_cons,ih,getD_set_ne false hne];omega
theorem pR:∀ms:List Nat,chainC md ops ms=true->ms.Pairwise (·<·)
 | [],_=>List.Pairwise.nil
 | a::l,h=>List.pairwise_cons.2 ⟨Tm l a h,pR l (yT h)⟩
theorem VS.step(ht:tidy md ops a0.tmps.size=true){listed:Array Bool}{a:Act}{w w':ak}(h:VS md ops Φ a0 I ms St listed a w){i:Nat}{o:Oper}(ho:ops[i]?=some o)
  (hr:i∈Region.ready md ops listed) {v:au} (hI:I w') (hkeep:∀j d,listed.getD j false=true->dI ops j=some d->cZ Φ j (a.eval (.tmp d)) w') (hv:cZ Φ i v w') (hst:St (gY (listed.setIfInBounds i true) ms) w'):VS md ops Φ a0 I ms St (listed.setIfInBounds i true) (a.put o.dst v) w':=by
 have hi:i<ops.size:=(awu.1 ho).1;have Fa:dI ops i=o.dst:=by simp[dI,ho]
 have hset:∀j,(listed.setIfInBounds i true).getD j false=true->j=i∨listed.getD j false=true:=by exact aAL
 refine⟨by simpa using h.size,hI,by rw[yA];exact h.defers,by rw[size_put];exact h.slots,?_,?_,?_,hst⟩;exact ayT;exact azX;intro j d hj hd;rcases hset j hj with rfl|hj';exact aAq;by_cases Ci:j=i;exact aAd;have hne:o.dst≠some d:=by rw[<-Fa];exact(kQ ht hd).2 i (λe=>Ci e.symm)
 rw[eG hne];exact hkeep j d hj' hd
theorem ayO(h:U:=by
 have:gY listed ms=gY ((Array.range ops.size).map λ_=>true) ms:=by
  unfold gY;refine List.countP_congr λi _=>?_;by_cases hi:i<ops.size;rw[hall i hi];simp[hi];have h1:listed.getD i false=false:=by
   have:¬i<listed.size:=by rw[h.size];exact hi
   simp[this]
  rw[h1];simp[hi]
 rw[<-this];exact h.st):U:=h
theorem ayB(h:U:=by refine⟨h.inv,λd hd=>h.keep d λj hj Ce=>?_,λj d hp hd=>h.done j d (hpl j hp) hd⟩;exact ayR):U:=h
theorem azM(h:U:=by unfold reachC at zX;rw[awP]at zX;rcases zX with zX|zX;exact hpl j zX;obtain⟨x,_,hx⟩:=axu.1 zX;rw[awk]at hx;exact iE h.closed n x j hx.2 (hpl x hx.1)):U:=h
theorem VU(ht:tidy md ops a0.tmps.size=true)(hm:lu Φ)(hJ:AV J Φ)(hch:chainC md ops ms=true)(VV:∀p w w',Ev w w'->St p w->St p w')
  (hops:∀i o,ops[i]?=some o->i∉ms->OA P md ops Q Φ a0 I i o) (KI:∀p i o,ms[p]?=some i->ops[i]?=some o->OB P md ops Q Φ a0 I J St p i o)
  (hQ:∀a w,I w->a.defers=a0.defers->a.tmps.size=a0.tmps.size->(∀d,nobody ops d=true->a.eval (.tmp d)=a0.eval (.tmp d))->
   (∀i d,dI ops i=some d->cZ Φ i (a.eval (.tmp d)) w)->St (gY ((Array.range ops.size).map λ_=>true) ms) w->Q .normal a w):
  ∀(fuel:Nat) (listed:Array Bool) (a:Act) (w:ak),fP listed ops.size<=fuel->VS md ops Φ a0 I ms St listed a w->wpAny P md ops Q fuel listed a w:=by
 have fin:∀(listed:Array Bool) (a:Act) (w:ak),Region.ready md ops listed=[]->VS md ops Φ a0 I ms St listed a w->Q .normal a w:=by intro listed a w hr h;have hall:=uT ht h.size hr;refine hQ a w h.inv h.defers h.slots (λd hd=>h.keep d λi hi hid=>?_) (λi d hd=>h.done i d (hall i ?_) hd) ?_;exact azG;exact aAQ;exact ayO
 intro fuel
 induction fuel with
 | zero=>
  intro listed a w hu h;have hr:Region.ready md ops listed=[]:=by exact ay3
  exact⟨hr,fin listed a w hr h⟩
 | succ fuel ih=>
  intro listed a w hu h;refine⟨λhr=>fin listed a w hr h,λi hi=>?_⟩;obtain⟨h0,o,ho,hall⟩:=mem_ready.1 hi;have hlt:i<ops.size:=(awu.1 ho).1;have hl:i<listed.size:=by rw[h.size];exact hlt
  have xy:listed.getD i false=false:=by simpa[hl] using h0
  have hcount:=o9 h.size hlt xy;have hpl:∀j,dW md ops i j=true->listed.getD j false=true:=λj hp=>by exact aAf
  have NG:Gi md ops Φ a0 I i a w:=by exact ayB
  refine wpOp_step ho λK' hK'=>?_;by_cases ET:i∈ms;obtain⟨p,hp⟩:=axw ET;have Xq:gY listed ms=p:=Ei h.closed ms p i hch hp xy λj n zX Ci=>by
   cases n with
   | zero=>exact hpl j zX
   | succ n=>
    exact azM
  have hst:St p w:=Xq▸h.st;refine KI p i o hp ho a w NG hst K' λv w' hJw hI' VW hv=>hK' _ _ (ih _ _ _ ae (h.step ht ho hi hI' (λj d hj hd=>Eh Φ hJ j _ _ _ hJw (h.done j d hj hd)) hv ?_));rw[sO hl xy ms (pR ms hch) ET,Xq];exact VW;refine hops i o ho ET a w NG K' λv w' hE hI' hv=>hK' _ _ (ih _ _ _ ae (h.step ht ho hi hI' (λj d hj hd=>mV Φ hm j _ _ _ hE (h.done j d hj hd)) hv ?_));rw[yf hl ms ET];exact VV _ _ _ hE h.st
theorem azO(h:U:=by
 have:gY (Array.replicate ops.size false) ms=0:=by unfold gY;rw[axA];intro i _;by_cases hlt:i<ops.size<;>simp[hlt]
 rw[this];exact VV _ _ _ (Ev.drew w0) hS):U:=h
theorem jq{id:Nat}{w0:ak}(fD:P.follows .mixedOrders=true)(I:ak->Prop)(J:ak->ak->Prop)(ms:List Nat)(St:Nat->ak->Prop)(Φ:List (au->ak->Prop))(n q:Nat)(hn:a0.tmps.size=n)(ht:tidy .any ops n=true)(hm:lu Φ)(hJ:AV J Φ)(hch:chainC .any ops ms=true)(VV:∀p w w',Ev w w'->St p w->St p w')(hIE:∀w w',Ev w w'->I w->I w')
  (hI:I w0) (hS:St 0 w0) (hq:gY ((Array.range ops.size).map λ_=>true) ms=q)
  (hops:∀i o,ops[i]?=some o->0+i∉ms->OA P .any ops Q Φ a0 I (0+i) o) (KI:∀p i o,ms[p]?=some i->ops[i]?=some o->OB P .any ops Q Φ a0 I J St (0+p) i o)
  (hQ:∀(s:Nat->au) w,I w->(∀(d:Tmp) (_:nobody ops d=true:=by kernel_rfl),s d=a0.eval (.tmp d))->
   (∀(i:Nat) (d:Tmp) (_:dI ops i=some d:=by kernel_rfl),cZ Φ i (s d) w)->St q w->Q .normal ⟨((List.range n).map s).toArray,a0.defers⟩ w):
  (Code.region id ops true).wp P Q a0 w0:=by
 subst hn hq;refine wp_region_any fD (VU ht hm hJ hch VV (λi o ho hi=>by have:=hops i o ho (by rwa [awL]);rwa [awL]at this) (λp i o hp ho=>by have:=KI p i o hp ho;rwa [awL]at this) ?_ ops.size _ _ _ ?_ ⟨aj,hIE _ _ (Ev.drew w0) hI,rfl,rfl,?_,λ_ _=>rfl,?_,?_⟩);intro a w hE hd hs hold hnew hp;rw[xN hs,hd];exact hQ (λd=>a.eval (.tmp d)) w hE hold hnew hp;unfold fP;exact awJ axN aj;exact aBf;exact aBg;exact azO
theorem aAj(h:U:=by intro a w c K hK;obtain⟨hw,v,hr,hv⟩:=h a w c;rw[if_pos hw];unfold Oper.wp;rw[hr];exact hK v w (Ev.refl w) c.inv hv):U:=h
theorem aQ{i:Nat}{o:Oper}(h:∀a w,Gi md ops Φ a0 I i a w->Region.wanted o (yielded ops a.tmps)=true/\∃v,(execOp a.eval o).run P w=.ok (.value v) w/\cZ Φ i v w):OA P md ops Q Φ a0 I i o:=by exact aAj
theorem aAk(h:U:=by intro a w c K hK;obtain⟨hw,v,w',hr,X9,hI',hv⟩:=h a w c;rw[if_pos hw];unfold Oper.wp;rw[hr];exact hK v w' X9 hI' hv):U:=h
theorem OC{i:Nat}{o:Oper}(h:∀a w,Gi md ops Φ a0 I i a w->Region.wanted o (yielded ops a.tmps)=true/\∃v w',(execOp a.eval o).run P w=.ok (.value v) w'/\Ev w w'/\I w'/\cZ Φ i v w'):OA P md ops Q Φ a0 I i o:=by exact aAk
theorem ny{p i:Nat}{o:Oper}(h:∀a w,Gi md ops Φ a0 I i a w->St p w->Region.wanted o (yielded ops a.tmps)=true/\∃f args,(execOp a.eval o).run P w=.ok (.enter f args) w/\
  Calls P f args w λe w'=>∃v,e=.returned v/\J w w'/\I w'/\St (p+1) w'/\cZ Φ i v w'):OB P md ops Q Φ a0 I J St p i o:=by
 intro a w c hst K hK;obtain⟨hw,f,args,hr,hc⟩:=h a w c hst;rw[if_pos hw];unfold Oper.wp;rw[hr];refine hc.mono ?_;rintro e w' ⟨v,rfl,h1,h2,h3,h4⟩;exact hK v w' h1 h2 h3 h4
theorem uN{p i:Nat}{o:Oper}(hd:o.dst=none)(h:∀a w,Gi md ops Φ a0 I i a w->St p w->Region.wanted o (yielded ops a.tmps)=true/\∃w',(execOp a.eval o).run P w=.ok .skip w'/\J w w'/\I w'/\St (p+1) w'/\cZ Φ i undef w'):OB P md ops Q Φ a0 I J St p i o:=by intro a w c hst K hK;obtain⟨hw,w',hr,h1,h2,h3,h4⟩:=h a w c hst;rw[if_pos hw];exact yI hr (hK undef w' h1 h2 h3 h4)
theorem aAx(h:U:=by have:=h i o (by simpa using hi) (by rwa [show k+1+i=k+(i+1) by omega]);rwa [show k+1+i=k+(i+1) by omega]at this):U:=h
theorem aN{R:Nat->Oper->Prop}{ms:List Nat}{o0:Oper}{l:List Oper}(k:Nat)(h0:R k o0)(h:∀i o,l.toArray[i]?=some o->k+1+i∉ms->R (k+1+i) o):∀i o,(o0::l).toArray[i]?=some o->k+i∉ms->R (k+i) o:=by
 intro i o hi hlt
 cases i with
 | zero=>simp at hi;subst hi;exact h0
 | succ i=>
  exact aAx
theorem bZ{R:Nat->Oper->Prop}{ms:List Nat}{o0:Oper}{l:List Oper}(k:Nat)(hk:k∈ms)(h:∀i o,l.toArray[i]?=some o->k+1+i∉ms->R (k+1+i) o):∀i o,(o0::l).toArray[i]?=some o->k+i∉ms->R (k+i) o:=by
 intro i o hi hlt
 cases i with
 | zero=>exact absurd hk hlt
 | succ i=>
  exact aAx
theorem pU{R:Nat->Nat->Oper->Prop}{ops:Array Oper}(k:Nat):∀p i o,([]:List Nat)[p]?=some i->ops[i]?=some o->R (k+p) i o:=by intro p i o h;simp at h
theorem gG{R:Nat->Nat->Oper->Prop}{ops:Array Oper}{m:Nat}{ms:List Nat}{o0:Oper}(k:Nat)(ho:ops[m]?=some o0)(h0:R k m o0)(h:∀p i o,ms[p]?=some i->ops[i]?=some o->R (k+1+p) i o):∀p i o,(m::ms)[p]?=some i->ops[i]?=some o->R (k+p) i o:=by
 intro p i o hp hi
 cases p with
 | zero=>
  simp at hp;subst hp;rw[ho]at hi;obtain rfl:=aw3 hi;exact h0
 | succ p=>
  have:=h p i o (by simpa using hp) hi;rwa [show k+1+p=k+(p+1) by omega]at this
theorem oC{R:Nat->Oper->Prop}{ms:List Nat}(k:Nat):∀i o,(([]:List Oper).toArray)[i]?=some o->k+i∉ms->R (k+i) o:=by intro i o h;simp at h
end
section
variable {P:Program} {md:Region.Mode} {ops:Array Oper} {Q:Exit->Act->ak->Prop} {Φ:List (au->ak->Prop)} {a0:Act} {J:Nat->ak->ak->Prop} {I:ak->Prop} {ms D sp:List Nat} {B:List (List Nat)} {pD:Nat} {St:Nat->ak->Prop} {G:(Nat->Bool)->Act->ak->Prop}
def VX(md:Region.Mode)(ops:Array Oper)(D:List Nat)(pD i j:Nat):Bool:=!(D.contains j)||(i==pD||reachC md ops 3 pD i)
def chkB(md:Region.Mode)(ops:Array Oper):List (List Nat)->List Nat->Bool
 | b::bs,m::ms=>(b.all λj=>j==m||reachC md ops 3 j m)&&chkB md ops bs ms
 | _,_=>true
theorem XD{md:Region.Mode}{ops:Array Oper}:∀(bs:List (List Nat)) (ms:List Nat),chkB md ops bs ms=true->∀p i,ms[p]?=some i->((bs.getD p []).all λj=>j==i||reachC md ops 3 j i)=true
 | [],_,_,p,i,_=>by simp
 | _::_,[],_,p,i,h=>by simp at h
 | b::bs,m::ms,h,0,i,hi=>by unfold chkB at h;rw[awk]at h;simp at hi;subst hi;exact h.1
 | b::bs,m::ms,h,p+1,i,hi=>by unfold chkB at h;rw[awk]at h;have:=XD bs ms h.2 p i (by simpa using hi);simpa using this
def I9(J:Nat->ak->ak->Prop)(D:List Nat)(B:List (List Nat)):Nat->List (au->ak->Prop)->Prop
 | _,[]=>True
 | k,φ::l=>(D.contains k=true∨∀p,(B.getD p []).contains k=true∨∀v w w',J p w w'->φ v w->φ v w')/\I9 J D B (k+1) l
theorem Tn{p:Nat}:∀(Φ:List (au->ak->Prop)) (k:Nat),I9 J D B k Φ->∀i,D.contains (k+i)=false->((B.getD p []).contains (k+i)=false)->∀v w w',J p w w'->cZ Φ i v w->cZ Φ i v w'
 | [],_,_,i,_,_=>λ_ _ _ _ _=>trivial
 | φ::l,k,h,0,hd,hb=>by rcases h.1 with h1|h1;rw[awM,h1]at hd;cases hd;rcases h1 p with h2|h2;rw[awM,h2]at hb;cases hb;exact h2
 | φ::l,k,h,i+1,hd,hb=>Tn l (k+1) h.2 i (by rwa [show k+1+i=k+(i+1) by omega]) (by rwa [show k+1+i=k+(i+1) by omega])
theorem Dl(md:Region.Mode)(ops:Array Oper):∀(n m i x j:Nat),reachC md ops n i x=true->reachC md ops m x j=true->∃q,reachC md ops q i j=true
 | 0,m,i,x,j,h1,h2=>by
  have hx:x<ops.size∨¬x<ops.size:=Nat.lt_or_ge x ops.size |>.imp id ae;rcases hx with hx|hx;refine⟨m+1,?_⟩;unfold reachC;rw[awP];right;exact axu.2 ⟨x,axb.2 hx,by rw[awk];exact⟨h1,h2⟩⟩;exfalso;have hno:∀y,dW md ops x y=false:=λy=>by unfold dW;rw[Array.getElem?_eq_none ae]
  cases m with
  | zero=>unfold reachC at h2;rw[hno]at h2;cases h2
  | succ m=>
   unfold reachC at h2;rw[hno,Bool.false_or]at h2;obtain⟨y,_,hy⟩:=axu.1 h2;rw[hno]at hy
   cases hy
 | n+1,m,i,x,j,h1,h2=>by unfold reachC at h1;rw[awP]at h1;rcases h1 with h1|h1;exact Dl md ops 0 m i x j h1 h2;obtain⟨y,hy,hyy⟩:=axu.1 h1;rw[awk]at hyy;obtain⟨q,hq⟩:=Dl md ops n m y x j hyy.2 h2;refine⟨q+1,?_⟩;unfold reachC;rw[awP];right;exact axu.2 ⟨y,hy,by rw[awk];exact⟨hyy.1,hq⟩⟩
theorem Dn(md:Region.Mode)(ops:Array Oper):∀(a:Nat) (l:List Nat),chainC md ops (a::l)=true->∀i∈l,∃n,reachC md ops n i a=true
 | a,[],_,i,hi=>by cases hi
 | a,b::l,h,i,hi=>by have h2:=h;unfold chainC at h2;rw[awk,awk]at h2;rcases awq.1 hi with e|e;subst e;exact⟨3,h2.1.1⟩;obtain⟨n,hn⟩:=Dn md ops b l h2.2 i e;exact Dl md ops n 3 i b a hn h2.1.1
structure Ej(md:Region.Mode)(ops:Array Oper)(Φ:List (au->ak->Prop))(a0:Act)(I:ak->Prop)(D:List Nat)(pD:Nat)(i:Nat)(a:Act)(w:ak):Prop where
 inv:I w
 old:∀d,later md ops i d=true->a.eval (.tmp d)=a0.eval (.tmp d)
 new:∀(j:Nat) (d:Tmp) (_:dW md ops i j=true:=by kernel_rfl) (_:dI ops j=some d:=by kernel_rfl) (_:VX md ops D pD i j=true:=by kernel_rfl),cZ Φ j (a.eval (.tmp d)) w
theorem Ej.was{i:Nat}{a:Act}{w:ak}(c:Ej md ops Φ a0 I D pD i a w)(d:Nat){v:au}(hv:a0.eval (.tmp d)=v)(h:later md ops i d=true:=by kernel_rfl):a.eval (.tmp d)=v:=(c.old d h).trans hv
theorem Ej.got{i:Nat}{a:Act}{w:ak}(c:Ej md ops Φ a0 I D pD i a w)(j d:Nat){φ:au->ak->Prop}(h:dW md ops i j=true)(hd:dI ops j=some d)(hav:VX md ops D pD i j=true)(hφ:cZ Φ j=φ):φ (a.eval (.tmp d)) w:=hφ▸c.new j d h hd hav
def Tq(P:Program)(md:Region.Mode)(ops:Array Oper)(Q:Exit->Act->ak->Prop)(Φ:List (au->ak->Prop))(a0:Act)(I:ak->Prop)(D:List Nat)(pD:Nat)(i:Nat)(o:Oper):Prop:=
 ∀(a:Act) (w:ak),Ej md ops Φ a0 I D pD i a w->∀K:Act->ak->Prop,(∀v w',Ev w w'->I w'->cZ Φ i v w'->K (a.put o.dst v) w')->
  if Region.wanted o (yielded ops a.tmps)=true then Oper.wp P o a w K Q else K (a.put o.dst undef) w
def abd(P:Program)(md:Region.Mode)(ops:Array Oper)(Q:Exit->Act->ak->Prop)(Φ:List (au->ak->Prop))(a0:Act)(I:ak->Prop)(J:Nat->ak->ak->Prop)(St:Nat->ak->Prop)(D:List Nat)(pD:Nat)(G:(Nat->Bool)->Act->ak->Prop)(p i:Nat)(o:Oper):Prop:=
 ∀(a:Act) (w:ak),Ej md ops Φ a0 I D pD i a w->St p w->(p=0->∃L:Nat->Bool,(∀j,dW md ops i j=true->L j=true)/\G L a w)->∀K:Act->ak->Prop,(∀v w',J p w w'->I w'->St (p+1) w'->cZ Φ i v w'->K (a.put o.dst v) w')->
  if Region.wanted o (yielded ops a.tmps)=true then Oper.wp P o a w K Q else K (a.put o.dst undef) w
def XE(P:Program)(md:Region.Mode)(ops:Array Oper)(Q:Exit->Act->ak->Prop)(Φ:List (au->ak->Prop))(a0:Act)(I:ak->Prop)(D:List Nat)(pD:Nat)(G:(Nat->Bool)->Act->ak->Prop)(i:Nat)(o:Oper):Prop:=
 ∀(a:Act) (w:ak) (L:Nat->Bool),Ej md ops Φ a0 I D pD i a w->a.tmps.size=a0.tmps.size->(∀j,dW md ops i j=true->L j=true)->L i=false->G L a w->∀K:Act->ak->Prop,
  (∀v w',Ev w w'->I w'->cZ Φ i v w'->(∀L':Nat->Bool,L' i=true->(∀j,j≠i->L' j=L j)->G L' (a.put o.dst v) w')->K (a.put o.dst v) w')->
  if Region.wanted o (yielded ops a.tmps)=true then Oper.wp P o a w K Q else K (a.put o.dst undef) w
structure abe(md:Region.Mode)(ops:Array Oper)(Φ:List (au->ak->Prop))(a0:Act)(I:ak->Prop)(D:List Nat)(pD:Nat)(ms:List Nat)(St:Nat->ak->Prop)(G:(Nat->Bool)->Act->ak->Prop)(listed:Array Bool)(a:Act)(w:ak):Prop where
 size:listed.size=ops.size
 inv:I w
 defers:a.defers=a0.defers
 slots:a.tmps.size=a0.tmps.size
 closed:∀i j,listed.getD i false=true->dW md ops i j=true->listed.getD j false=true
 keep:∀d,(∀i,listed.getD i false=true->dI ops i≠some d)->a.eval (.tmp d)=a0.eval (.tmp d)
 done:∀i d,listed.getD i false=true->(D.contains i=true->listed.getD pD false=false)->dI ops i=some d->cZ Φ i (a.eval (.tmp d)) w
 st:St (gY listed ms) w
 jn:listed.getD pD false=false->G (λj=>listed.getD j false) a w
theorem aAJ(h:U:=by
 subst hip;rw[show (listed.setIfInBounds i true).getD i false=true by simp[h.size,hi]]at h2
 cases h2):U:=h
theorem abe.step(ht:tidy md ops a0.tmps.size=true){listed:Array Bool}{a:Act}{w w':ak}(h:abe md ops Φ a0 I D pD ms St G listed a w){i:Nat}{o:Oper}(ho:ops[i]?=some o)
  (hr:i∈Region.ready md ops listed) {v:au} (hI:I w') (hkeep:∀j d,listed.getD j false=true->(D.contains j=true->listed.getD pD false=false/\i≠pD)->dI ops j=some d->cZ Φ j (a.eval (.tmp d)) w') (hv:cZ Φ i v w') (hst:St (gY (listed.setIfInBounds i true) ms) w') (hjn:i≠pD->listed.getD pD false=false->G (λj=>(listed.setIfInBounds i true).getD j false) (a.put o.dst v) w'):abe md ops Φ a0 I D pD ms St G (listed.setIfInBounds i true) (a.put o.dst v) w':=by
 have hi:i<ops.size:=(awu.1 ho).1;have Fa:dI ops i=o.dst:=by simp[dI,ho]
 have hset:∀j,(listed.setIfInBounds i true).getD j false=true->j=i∨listed.getD j false=true:=by exact aAL
 refine⟨by simpa using h.size,hI,by rw[yA];exact h.defers,by rw[size_put];exact h.slots,?_,?_,?_,hst,λh2=>?_⟩;exact ayT;exact azX;intro j d hj hD hd;have hD2:D.contains j=true->listed.getD pD false=false/\i≠pD:=λh1=>by have h2:=hD h1;by_cases hip:i=pD;exact aAJ;rw[getD_set_ne false hip]at h2;exact⟨h2,hip⟩
 rcases hset j hj with rfl|hj';exact aAq;by_cases Ci:j=i;exact aAd;have hne:o.dst≠some d:=by rw[<-Fa];exact(kQ ht hd).2 i (λe=>Ci e.symm)
 rw[eG hne];exact hkeep j d hj' hD2 hd;by_cases hip:i=pD;exact aAJ;rw[getD_set_ne false hip]at h2;exact hjn hip h2
theorem VY(ht:tidy md ops a0.tmps.size=true)(hm:lu Φ)(hJ:I9 J D B 0 Φ)(hch:chainC md ops ms=true)(hpD:ms[0]?=some pD)(hB:chkB md ops B ms=true)(VV:∀p w w',Ev w w'->St p w->St p w')
  (hsp:(sp.all λj=>reachC md ops 3 pD j)=true) (hGs:∀(L L':Nat->Bool) (a a':Act) (w w':ak),(∀j∈sp,L' j=L j)->(∀j∈sp,∀d,dI ops j=some d->a'.eval (.tmp d)=a.eval (.tmp d))->Ev w w'->G L a w->G L' a' w')
  (hops:∀i o,ops[i]?=some o->i∉ms++sp->Tq P md ops Q Φ a0 I D pD i o) (agh:∀i o,ops[i]?=some o->i∈sp->XE P md ops Q Φ a0 I D pD G i o) (KI:∀p i o,ms[p]?=some i->ops[i]?=some o->abd P md ops Q Φ a0 I J St D pD G p i o)
  (hQ:∀a w,I w->a.defers=a0.defers->a.tmps.size=a0.tmps.size->(∀d,nobody ops d=true->a.eval (.tmp d)=a0.eval (.tmp d))->
   (∀i d,D.contains i=false->dI ops i=some d->cZ Φ i (a.eval (.tmp d)) w)->St (gY ((Array.range ops.size).map λ_=>true) ms) w->Q .normal a w):
  ∀(fuel:Nat) (listed:Array Bool) (a:Act) (w:ak),fP listed ops.size<=fuel->abe md ops Φ a0 I D pD ms St G listed a w->wpAny P md ops Q fuel listed a w:=by
 have fin:∀(listed:Array Bool) (a:Act) (w:ak),Region.ready md ops listed=[]->abe md ops Φ a0 I D pD ms St G listed a w->Q .normal a w:=by intro listed a w hr h;have hall:=uT ht h.size hr;refine hQ a w h.inv h.defers h.slots (λd hd=>h.keep d λi hi hid=>?_) (λi d hD hd=>h.done i d (hall i ?_) (λh1=>by rw[hD]at h1;cases h1) hd) ?_;exact azG;exact aAQ;exact ayO
 intro fuel
 induction fuel with
 | zero=>
  intro listed a w hu h;have hr:Region.ready md ops listed=[]:=by exact ay3
  exact⟨hr,fin listed a w hr h⟩
 | succ fuel ih=>
  intro listed a w hu h;refine⟨λhr=>fin listed a w hr h,λi hi=>?_⟩;obtain⟨h0,o,ho,hall⟩:=mem_ready.1 hi;have hlt:i<ops.size:=(awu.1 ho).1;have hl:i<listed.size:=by rw[h.size];exact hlt
  have xy:listed.getD i false=false:=by simpa[hl] using h0
  have hcount:=o9 h.size hlt xy;have hpl:∀j,dW md ops i j=true->listed.getD j false=true:=λj hp=>by exact aAf
  have NG:Ej md ops Φ a0 I D pD i a w:=by
   refine⟨h.inv,λd hd=>h.keep d λj hj Ce=>?_,λj d hp hd hav=>h.done j d (hpl j hp) (λh1=>?_) hd⟩;exact ayR;unfold VX at hav;rw[h1,Bool.not_true,Bool.false_or,awP,awx]at hav
   cases VZ:listed.getD pD false
   rfl;rcases hav with h2|h2;rw[<-h2,xy]at VZ;cases VZ;have:=iE h.closed 3 pD i h2 VZ;rw[xy]at this;cases this
  have hpre:∀j,(∃n,reachC md ops n i j=true)->listed.getD j false=true:=λj ⟨n,zX⟩=>by
   cases n with
   | zero=>exact hpl j zX
   | succ n=>
    exact azM
  refine wpOp_step ho λK' hK'=>?_;by_cases ET:i∈ms;obtain⟨p,hp⟩:=axw ET;have Xq:gY listed ms=p:=Ei h.closed ms p i hch hp xy λj n zX Ci=>by
   cases n with
   | zero=>exact hpl j zX
   | succ n=>
    exact azM
  have hst:St p w:=Xq▸h.st;have hp0:p=0->i=pD:=λe=>by subst e;rw[hpD]at hp;exact(aw3 hp).symm
  have hlp:¬p=0->listed.getD pD false=true:=λe=>by
   cases fJ:ms with
   | nil=>rw[fJ]at ET;cases ET
   | cons m0 ml0=>
    rw[fJ]at hpD hp hch;simp at hpD;subst hpD
    cases p with
    | zero=>exact absurd rfl e
    | succ p=>
     have Pg:i∈ml0:=awm (by simpa using hp);exact hpre m0 (Dn md ops m0 ml0 hch i Pg)
  refine KI p i o hp ho a w NG hst (λe=>⟨_,hpl,h.jn (by rw[<-hp0 e];exact xy)⟩) K' λv w' hJw hI' VW hv=>hK' _ _ (ih _ _ _ ae (h.step ht ho hi hI' (λj d hj hD hd=>by
   have hDn:D.contains j=false:=by
    cases hDj:D.contains j
    rfl;obtain⟨h1,h2⟩:=hD hDj;exfalso
    cases fJ:ms with
    | nil=>rw[fJ]at ET;cases ET
    | cons m0 ml0=>
     rw[fJ]at hpD ET hch;simp at hpD;subst hpD;rcases awq.1 ET with e|e;exact h2 e;obtain⟨k,hk⟩:=axw e;have hup:=Dn md ops m0 ml0 hch i e;have:=hpre m0 hup;rw[h1]at this;cases this
   have hBn:(B.getD p []).contains j=false:=by
    cases hBj:(B.getD p []).contains j
    rfl;exfalso;have h1:=awF.1 (XD B ms hB p i hp) j (by simpa using hBj);rw[awP,awx]at h1;rcases h1 with h1|h1;subst h1;rw[xy]at hj;cases hj;have:=iE h.closed 3 j _ h1 hj;rw[xy]at this;cases this
   exact Tn (p:=p) Φ 0 hJ j (by rwa [awL]) (by rwa [awL]) _ _ _ hJw (h.done j d hj (λh3=>by rw[hDn]at h3;cases h3) hd)) hv ?_ λhne tq=>by
    by_cases e:p=0;exact absurd (hp0 e) hne;rw[hlp e]at tq;cases tq))
  rw[sO hl xy ms (pR ms hch) ET,Xq];exact VW;by_cases his:i∈sp;have tq:listed.getD pD false=false:=by
   cases VZ:listed.getD pD false
   rfl;have:=iE h.closed 3 pD i (awF.1 hsp i his) VZ;rw[xy]at this;cases this
  refine agh i o ho his a w _ NG h.slots hpl xy (h.jn tq) K' λv w' hE hI' hv hG=>hK' _ _ (ih _ _ _ ae (h.step ht ho hi hI' (λj d hj hD hd=>mV Φ hm j _ _ _ hE (h.done j d hj (λh3=>(hD h3).1) hd)) hv ?_ λ_ _=>hG _ ?_ ?_));rw[yf hl ms ET];exact VV _ _ _ hE h.st;simp[hl];intro j hj;exact getD_set_ne false (λe=>hj e.symm);refine hops i o ho (λhm=>(awD.1 hm).elim ET his) a w NG K' λv w' hE hI' hv=>hK' _ _ (ih _ _ _ ae (h.step ht ho hi hI' (λj d hj hD hd=>mV Φ hm j _ _ _ hE (h.done j d hj (λh3=>(hD h3).1) hd)) hv ?_ λ_ tq=>?_));rw[yf hl ms ET];exact VV _ _ _ hE h.st;refine hGs _ _ a _ w w' (λj hj=>getD_set_ne false (λe=>his (e▸hj))) (λj hj d hd=>eG λe=>?_) hE (h.jn tq);have Fa:dI ops i=some d:=by simp[dI,ho,e]
  exact(kQ ht Fa).2 j (λe2=>his (e2▸hj)) hd
theorem kU{id:Nat}{w0:ak}(fD:P.follows .mixedOrders=true)(I:ak->Prop)(J:Nat->ak->ak->Prop)(ms:List Nat)(St:Nat->ak->Prop)(D:List Nat)(B:List (List Nat))(pD:Nat)(Φ:List (au->ak->Prop))(n q:Nat)(hn:a0.tmps.size=n)(ht:tidy .any ops n=true)(hm:lu Φ)(hJ:I9 J D B 0 Φ)(hch:chainC .any ops ms=true)(hpD:ms[0]?=some pD)(hB:chkB .any ops B ms=true)(VV:∀p w w',Ev w w'->St p w->St p w')(hIE:∀w w',Ev w w'->I w->I w')
  (hI:I w0) (hS:St 0 w0) (hq:gY ((Array.range ops.size).map λ_=>true) ms=q)
  (G:(Nat->Bool)->Act->ak->Prop) (sp:List Nat) (hsp:(sp.all λj=>reachC .any ops 3 pD j)=true) (hGs:∀(L L':Nat->Bool) (a a':Act) (w w':ak),(∀j∈sp,L' j=L j)->(∀j∈sp,∀d,dI ops j=some d->a'.eval (.tmp d)=a.eval (.tmp d))->Ev w w'->G L a w->G L' a' w') (hG0:∀L:Nat->Bool,(∀j,L j=false)->G L a0 w0)
  (hops:∀i o,ops[i]?=some o->0+i∉ms++sp->Tq P .any ops Q Φ a0 I D pD (0+i) o) (agh:∀(p i:Nat) (o:Oper),sp[p]?=some i->ops[i]?=some o->XE P .any ops Q Φ a0 I D pD G i o) (KI:∀p i o,ms[p]?=some i->ops[i]?=some o->abd P .any ops Q Φ a0 I J St D pD G (0+p) i o)
  (hQ:∀(s:Nat->au) w,I w->(∀(d:Tmp) (_:nobody ops d=true:=by kernel_rfl),s d=a0.eval (.tmp d))->
   (∀(i:Nat) (d:Tmp) (_:D.contains i=false:=by kernel_rfl) (_:dI ops i=some d:=by kernel_rfl),cZ Φ i (s d) w)->St q w->Q .normal ⟨((List.range n).map s).toArray,a0.defers⟩ w):
  (Code.region id ops true).wp P Q a0 w0:=by
 subst hn hq;refine wp_region_any fD (VY ht hm hJ hch hpD hB VV hsp hGs (λi o ho hi=>by have:=hops i o ho (by rwa [awL]);rwa [awL]at this) (λi o ho hi=>by obtain⟨p,hp⟩:=axw hi;exact agh p i o hp ho) (λp i o hp ho=>by have:=KI p i o hp ho;rwa [awL]at this) ?_ ops.size _ _ _ ?_ ⟨aj,hIE _ _ (Ev.drew w0) hI,rfl,rfl,?_,λ_ _=>rfl,?_,?_,λ_=>hGs _ _ a0 a0 w0 w0.drew (λj _=>rfl) (λ_ _ _ _=>rfl) (Ev.drew w0) (hG0 _ λj=>?_)⟩);intro a w hE hd hs hold hnew hp;rw[xN hs,hd];exact hQ (λd=>a.eval (.tmp d)) w hE hold hnew hp;unfold fP;exact awJ axN aj;exact aBf
 ·intro i d hi _;exfalso;by_cases hlt:i<ops.size<;>simp[hlt]at hi
 exact azO;by_cases hlt:j<ops.size<;>simp[hlt]
theorem dP{i:Nat}{o:Oper}(h:∀a w,Ej md ops Φ a0 I D pD i a w->Region.wanted o (yielded ops a.tmps)=true/\∃v,(execOp a.eval o).run P w=.ok (.value v) w/\cZ Φ i v w):Tq P md ops Q Φ a0 I D pD i o:=by exact aAj
theorem rf{i:Nat}{o:Oper}(h:∀a w,Ej md ops Φ a0 I D pD i a w->Region.wanted o (yielded ops a.tmps)=true/\∃v w',(execOp a.eval o).run P w=.ok (.value v) w'/\Ev w w'/\I w'/\cZ Φ i v w'):Tq P md ops Q Φ a0 I D pD i o:=by exact aAk
theorem Gj{i:Nat}{o:Oper}(h:∀a w (L:Nat->Bool),Ej md ops Φ a0 I D pD i a w->a.tmps.size=a0.tmps.size->(∀j,dW md ops i j=true->L j=true)->L i=false->G L a w->Region.wanted o (yielded ops a.tmps)=true/\∃v w',(execOp a.eval o).run P w=.ok (.value v) w'/\Ev w w'/\I w'/\cZ Φ i v w'/\∀L':Nat->Bool,L' i=true->(∀j,j≠i->L' j=L j)->G L' (a.put o.dst v) w'):XE P md ops Q Φ a0 I D pD G i o:=by intro a w L c hs hp hu hg K hK;obtain⟨hw,v,w',hr,h1,h2,h3,h4⟩:=h a w L c hs hp hu hg;rw[if_pos hw];unfold Oper.wp;rw[hr];exact hK v w' h1 h2 h3 h4
theorem lS{i:Nat}{o:Oper}(h:∀a w (L:Nat->Bool),Ej md ops Φ a0 I D pD i a w->a.tmps.size=a0.tmps.size->(∀j,dW md ops i j=true->L j=true)->L i=false->G L a w->Region.wanted o (yielded ops a.tmps)=true/\∃f args,(execOp a.eval o).run P w=.ok (.enter f args) w/\
  Calls P f args w λe w'=>∃v,e=.returned v/\Ev w w'/\I w'/\cZ Φ i v w'/\∀L':Nat->Bool,L' i=true->(∀j,j≠i->L' j=L j)->G L' (a.put o.dst v) w'):XE P md ops Q Φ a0 I D pD G i o:=by
 intro a w L c hs hp hu hg K hK;obtain⟨hw,f,args,hr,hc⟩:=h a w L c hs hp hu hg;rw[if_pos hw];unfold Oper.wp;rw[hr];refine hc.mono ?_;rintro e w' ⟨v,rfl,h1,h2,h3,h4⟩;exact hK v w' h1 h2 h3 h4
theorem abf{i:Nat}{o:Oper}(h:∀a w,Ej md ops Φ a0 I D pD i a w->Region.wanted o (yielded ops a.tmps)=true/\∃f args,(execOp a.eval o).run P w=.ok (.enter f args) w/\
  Calls P f args w λe w'=>∃v,e=.returned v/\Ev w w'/\I w'/\cZ Φ i v w'):Tq P md ops Q Φ a0 I D pD i o:=by
 intro a w c K hK;obtain⟨hw,f,args,hr,hc⟩:=h a w c;rw[if_pos hw];unfold Oper.wp;rw[hr];refine hc.mono ?_;rintro e w' ⟨v,rfl,h1,h2,h3⟩;exact hK v w' h1 h2 h3
theorem uO{p i:Nat}{o:Oper}(h:∀a w,Ej md ops Φ a0 I D pD i a w->St p w->(p=0->∃L:Nat->Bool,(∀j,dW md ops i j=true->L j=true)/\G L a w)->Region.wanted o (yielded ops a.tmps)=true/\∃v w',(execOp a.eval o).run P w=.ok (.value v) w'/\J p w w'/\I w'/\St (p+1) w'/\cZ Φ i v w'):abd P md ops Q Φ a0 I J St D pD G p i o:=by intro a w c hst hg K hK;obtain⟨hw,v,w',hr,h1,h2,h3,h4⟩:=h a w c hst hg;rw[if_pos hw];unfold Oper.wp;rw[hr];exact hK v w' h1 h2 h3 h4
theorem Em{R:Nat->Oper->Prop}{ops:Array Oper}:∀(p i:Nat) (o:Oper),([]:List Nat)[p]?=some i->ops[i]?=some o->R i o:=by intro p i o h;simp at h
theorem jD{R:Nat->Oper->Prop}{ops:Array Oper}{m:Nat}{sp:List Nat}{o0:Oper}(ho:ops[m]?=some o0)(h0:R m o0)(h:∀(p i:Nat) (o:Oper),sp[p]?=some i->ops[i]?=some o->R i o):∀(p i:Nat) (o:Oper),(m::sp)[p]?=some i->ops[i]?=some o->R i o:=by
 intro p i o hp hi
 cases p with
 | zero=>
  simp at hp;subst hp;rw[ho]at hi;obtain rfl:=aw3 hi;exact h0
 | succ p=>exact h p i o (by simpa using hp) hi
end
theorem dC{a:Prop}{b:Nat->Prop}{x:au}{J:Nat->ak->ak->Prop}:a∨∀p,b p∨∀(v:au) (w w1:ak),J p w w1->v=x->v=x:=Or.inr λp=>Or.inr λ_ _ _ _ h=>h
section
variable {P:Program} {md:Region.Mode} {ops:Array Oper} {Q:Exit->Act->ak->Prop} {Φ:List (au->ak->Prop)} {a0:Act} {J:ak->ak->Prop} {I:ak->Prop} {ms:List Nat} {St:Nat->ak->Prop} {ml jm dm q:Nat} {Ψ:au->ak->Prop}
def abk(P:Program)(md:Region.Mode)(ops:Array Oper)(Q:Exit->Act->ak->Prop)(Φ:List (au->ak->Prop))(a0:Act)(I:ak->Prop)(J:ak->ak->Prop)(St:Nat->ak->Prop)(q dm:Nat)(Ψ:au->ak->Prop)(i:Nat)(o:Oper):Prop:=
 o.dst=none/\∀(a:Act) (w:ak),Gi md ops Φ a0 I i a w->St q w->Region.wanted o (yielded ops a.tmps)=true/\∃w',(execOp a.eval o).run P w=.ok .skip w'/\J w w'/\I w'/\St (q+1) w'/\cZ Φ i undef w'/\Ψ (a.eval (.tmp dm)) w'
theorem Dq{listed:Array Bool}(hc:∀i j,listed.getD i false=true->dW md ops i j=true->listed.getD j false=true):∀(ms:List Nat),chainC md ops ms=true->∀(k x q y:Nat),ms[k]?=some x->ms[q]?=some y->k<=q->listed.getD y false=true->listed.getD x false=true
 | [],_,k,x,q,y,h,_,_,_=>by simp at h
 | [a],_,k,x,q,y,h1,h2,_,hy=>by
  have e1:x=a:=by cases k<;>simp at h1;exact h1.symm
  have e2:y=a:=by cases q<;>simp at h2;exact h2.symm
  rw[e1,<-e2];exact hy
 | a::b::l,hch,0,x,0,y,h1,h2,_,hy=>by simp at h1 h2;rw[<-h1,h2];exact hy
 | a::b::l,hch,0,x,q+1,y,h1,h2,_,hy=>by simp at h1;subst h1;have hb:=Dq hc (b::l) (yT hch) 0 b q y rfl (by simpa using h2) (aww _) hy;unfold chainC at hch;rw[awk,awk]at hch;exact iE hc 3 b a hch.1.1 hb
 | a::b::l,hch,k+1,x,0,y,h1,h2,hle,hy=>by omega
 | a::b::l,hch,k+1,x,q+1,y,h1,h2,hle,hy=>Dq hc (b::l) (yT hch) k x q y (by simpa using h1) (by simpa using h2) ae hy
theorem V4(ht:tidy md ops a0.tmps.size=true)(hm:lu Φ)(hJ:AV J Φ)(hch:chainC md ops ms=true)(VV:∀p w w',Ev w w'->St p w->St p w')
  (hops:∀i o,ops[i]?=some o->i∉ms->OA P md ops Q Φ a0 I i o) (KI:∀p i o,ms[p]?=some i->i≠ml->ops[i]?=some o->OB P md ops Q Φ a0 I J St p i o) (hΨ:o8 Ψ) (hmq:ms[q]?=some ml) (hlast:q+1=ms.length) {om:Oper} (hom:ops[ml]?=some om) (hjm:dW md ops ml jm=true) (Ce:dI ops jm=some dm) (hst:abk P md ops Q Φ a0 I J St q dm Ψ ml om)
  (hQ:∀a w,I w->a.defers=a0.defers->a.tmps.size=a0.tmps.size->(∀d,nobody ops d=true->a.eval (.tmp d)=a0.eval (.tmp d))->
   (∀i d,dI ops i=some d->cZ Φ i (a.eval (.tmp d)) w)->St (gY ((Array.range ops.size).map λ_=>true) ms) w->Ψ (a.eval (.tmp dm)) w->Q .normal a w):
  ∀(fuel:Nat) (listed:Array Bool) (a:Act) (w:ak),fP listed ops.size<=fuel->VS md ops Φ a0 I ms St listed a w->(listed.getD ml false=true->Ψ (a.eval (.tmp dm)) w)->wpAny P md ops Q fuel listed a w:=by
 have ads:ml<ops.size:=(awu.1 hom).1;have fin:∀(listed:Array Bool) (a:Act) (w:ak),Region.ready md ops listed=[]->VS md ops Φ a0 I ms St listed a w->(listed.getD ml false=true->Ψ (a.eval (.tmp dm)) w)->Q .normal a w:=by intro listed a w hr h hpost;have hall:=uT ht h.size hr;refine hQ a w h.inv h.defers h.slots (λd hd=>h.keep d λi hi hid=>?_) (λi d hd=>h.done i d (hall i ?_) hd) ?_ (hpost (hall ml ads));exact azG;exact aAQ;exact ayO
 intro fuel
 induction fuel with
 | zero=>
  intro listed a w hu h hpost;have hr:Region.ready md ops listed=[]:=by exact ay3
  exact⟨hr,fin listed a w hr h hpost⟩
 | succ fuel ih=>
  intro listed a w hu h hpost;refine⟨λhr=>fin listed a w hr h hpost,λi hi=>?_⟩;obtain⟨h0,o,ho,hall⟩:=mem_ready.1 hi;have hlt:i<ops.size:=(awu.1 ho).1;have hl:i<listed.size:=by rw[h.size];exact hlt
  have xy:listed.getD i false=false:=by simpa[hl] using h0
  have hcount:=o9 h.size hlt xy;have hpl:∀j,dW md ops i j=true->listed.getD j false=true:=λj hp=>by exact aAf
  have NG:Gi md ops Φ a0 I i a w:=by exact ayB
  refine wpOp_step ho λK' hK'=>?_;have agl:∀(o:Oper) (v:au) (w':ak),ops[i]?=some o->i≠ml->(∀v0,Ψ v0 w->Ψ v0 w')->(listed.setIfInBounds i true).getD ml false=true->Ψ ((a.put o.dst v).eval (.tmp dm)) w':=by
   intro o v w' ho ET hmono hlm;rw[getD_set_ne false ET]at hlm;have hp:=hpost hlm;have hjl:=h.closed ml jm hlm hjm;have Ci:i≠jm:=by rintro rfl;rw[xy]at hjl;cases hjl
   have hne:o.dst≠some dm:=by have:=(kQ ht Ce).2 i Ci;simpa[dI,ho] using this
   rw[eG hne];exact hmono _ hp
  by_cases ET:i∈ms;obtain⟨p,hp⟩:=axw ET;have Xq:gY listed ms=p:=Ei h.closed ms p i hch hp xy λj n zX Ci=>by
   cases n with
   | zero=>exact hpl j zX
   | succ n=>
    exact azM
  have aiQ:St p w:=Xq▸h.st;have hpw:=pR ms hch;by_cases Pg:i=ml;subst Pg;have UK:p=q:=by obtain⟨h1,e1⟩:=awi.1 hp;obtain⟨h2,e2⟩:=awi.1 hmq;rcases Nat.lt_trichotomy p q with h3|h3|h3;have:=(List.pairwise_iff_getElem.1 hpw) p q h1 h2 h3;omega;exact h3;have:=(List.pairwise_iff_getElem.1 hpw) q p h2 h1 h3;omega
  subst UK;rw[hom]at ho;obtain rfl:=aw3 ho;obtain⟨hw,w',hrun,hJw,hI',VW,hv,qw⟩:=hst.2 a w NG aiQ;rw[if_pos hw];refine yI hrun ?_;refine hK' _ _ (ih _ _ _ ae (h.step ht hom hi hI' (λj d hj hd=>Eh Φ hJ j _ _ _ hJw (h.done j d hj hd)) hv ?_) λ_=>?_);rw[sO hl xy ms hpw ET,Xq];exact VW;have hput:a.put om.dst undef=a:=by rw[hst.1];rfl
  rw[hput];exact qw;have VZ:listed.getD ml false=false:=by
   cases hlm:listed.getD ml false
   rfl;exfalso;have apJ:gY listed ms=ms.length:=by unfold gY;rw[List.countP_eq_length];intro x hx;obtain⟨k,hk⟩:=axw hx;exact Dq h.closed ms hch k x q ml hk hmq (by have:=(awi.1 hk).1;omega) hlm
   have h1:=(awi.1 hp).1;omega
  refine KI p i o hp Pg ho a w NG aiQ K' λv w' hJw hI' VW hv=>hK' _ _ (ih _ _ _ ae (h.step ht ho hi hI' (λj d hj hd=>Eh Φ hJ j _ _ _ hJw (h.done j d hj hd)) hv ?_) λhlm=>?_);rw[sO hl xy ms hpw ET,Xq];exact VW;rw[getD_set_ne false Pg,VZ]at hlm
  cases hlm
  have Pg:i≠ml:=by rintro rfl;exact ET (awm hmq)
  refine hops i o ho ET a w NG K' λv w' hE hI' hv=>hK' _ _ (ih _ _ _ ae (h.step ht ho hi hI' (λj d hj hd=>mV Φ hm j _ _ _ hE (h.done j d hj hd)) hv ?_) (agl o v w' ho Pg λv0 h0=>hΨ _ _ _ hE h0));rw[yf hl ms ET];exact VV _ _ _ hE h.st
theorem Gl{id:Nat}{w0:ak}(fD:P.follows .mixedOrders=true)(I:ak->Prop)(J:ak->ak->Prop)(ms:List Nat)(St:Nat->ak->Prop)(ml jm dm:Nat)(Ψ:au->ak->Prop)(Φ:List (au->ak->Prop))(n q q1:Nat)(hn:a0.tmps.size=n)(ht:tidy .any ops n=true)(hm:lu Φ)(hJ:AV J Φ)(hch:chainC .any ops ms=true)(VV:∀p w w',Ev w w'->St p w->St p w')(hIE:∀w w',Ev w w'->I w->I w')
  (hI:I w0) (hS:St 0 w0) (hq:gY ((Array.range ops.size).map λ_=>true) ms=q) (hΨ:o8 Ψ) (hmq:ms[q1]?=some ml) (hlast:q1+1=ms.length) (om:Oper) (hom:ops[ml]?=some om) (hjm:dW .any ops ml jm=true) (Ce:dI ops jm=some dm)
  (hops:∀i o,ops[i]?=some o->0+i∉ms->OA P .any ops Q Φ a0 I (0+i) o) (KI:∀p i o,ms[p]?=some i->i≠ml->ops[i]?=some o->OB P .any ops Q Φ a0 I J St (0+p) i o) (hst:abk P .any ops Q Φ a0 I J St q1 dm Ψ ml om)
  (hQ:∀(s:Nat->au) w,I w->(∀(d:Tmp) (_:nobody ops d=true:=by kernel_rfl),s d=a0.eval (.tmp d))->
   (∀(i:Nat) (d:Tmp) (_:dI ops i=some d:=by kernel_rfl),cZ Φ i (s d) w)->St q w->Ψ (s dm) w->Q .normal ⟨((List.range n).map s).toArray,a0.defers⟩ w):
  (Code.region id ops true).wp P Q a0 w0:=by
 subst hn hq;refine wp_region_any fD (V4 ht hm hJ hch VV (λi o ho hi=>by have:=hops i o ho (by rwa [awL]);rwa [awL]at this) (λp i o hp hi ho=>by have:=KI p i o hp hi ho;rwa [awL]at this) hΨ hmq hlast hom hjm Ce hst ?_ ops.size _ _ _ ?_ ⟨aj,hIE _ _ (Ev.drew w0) hI,rfl,rfl,?_,λ_ _=>rfl,?_,?_⟩ ?_);intro a w hE hd hs hold hnew hp qw;rw[xN hs,hd];exact hQ (λd=>a.eval (.tmp d)) w hE hold hnew hp qw;unfold fP;exact awJ axN aj;exact aBf;exact aBg;exact azO;intro hi;exfalso;by_cases hlt:ml<ops.size<;>simp[hlt]at hi
theorem abm{R:Nat->Nat->Oper->Prop}{ops:Array Oper}{ml:Nat}(k:Nat):∀p i o,([ml]:List Nat)[p]?=some i->i≠ml->ops[i]?=some o->R (k+p) i o:=by
 intro p i o hp hi
 cases p with
 | zero=>simp at hp;exact absurd hp.symm hi
 | succ p=>simp at hp
theorem abn{R:Nat->Nat->Oper->Prop}{ops:Array Oper}{ml m:Nat}{ms:List Nat}{o0:Oper}(k:Nat)(ho:ops[m]?=some o0)(h0:R k m o0)(h:∀p i o,ms[p]?=some i->i≠ml->ops[i]?=some o->R (k+1+p) i o):∀p i o,(m::ms)[p]?=some i->i≠ml->ops[i]?=some o->R (k+p) i o:=by
 intro p i o hp hn hi
 cases p with
 | zero=>
  simp at hp;subst hp;rw[ho]at hi;obtain rfl:=aw3 hi;exact h0
 | succ p=>
  have:=h p i o (by simpa using hp) hn hi;rwa [show k+1+p=k+(p+1) by omega]at this
end
end Go.Proofs.YtpbfokkocaemlaaGreatDoor
