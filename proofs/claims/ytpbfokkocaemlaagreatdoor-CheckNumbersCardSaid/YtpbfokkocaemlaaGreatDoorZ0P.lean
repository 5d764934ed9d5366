import Derived.Test.YtpbfokkocaemlaaGreatDoorAliasP
import Derived.Below
import Derived.RegionTactic
import Derived.Deep.Draws
set_option linter.unusedVariables false
set_option maxRecDepth 100000
set_option maxHeartbeats 64000000
namespace Go.Proofs.YtpbfokkocaemlaaGreatDoor
open Go.RowKit
open Go renaming World → ak
open Go renaming Value → au
variable {U:Prop}
abbrev ayl:=@Go.getD_set_ne
abbrev aym:=@Go.mem_ready
def Ev(w w':ak):Prop:=Below w.heap.size w w'
theorem Ev.refl(w:ak):Ev w w:=Below.refl _ _
theorem Ev.trans{a b c:ak}(h:Ev a b)(k:Ev b c):Ev a c:=Below.trans h (Below.mono k h.size)
theorem Ev.alloc(w:ak)(o:Obj):Ev w (w.alloc o):=Below.alloc (Below.refl _ _) (awC _) o
theorem Ev.drew(w:ak):Ev w w.drew:=⟨rfl,rfl,rfl,awC _,λ_ _=>rfl⟩
theorem Ev.drewN(w:ak)(n:Nat):Ev w (w.drewN n):=⟨rfl,rfl,rfl,awC _,λ_ _=>rfl⟩
def ru(φ:au->ak->Prop):Prop:=∀v w w',Ev w w'->φ v w->φ v w'
def lJ:List (au->ak->Prop)->Prop
 | []=>True
 | φ::l=>ru φ/\lJ l
def dC(Φ:List (au->ak->Prop))(i:Nat):au->ak->Prop:=Φ.getD i (λ_ _=>True)
theorem nH:∀(Φ:List (au->ak->Prop)),lJ Φ->∀i,ru (dC Φ i)
 | [],_,i=>λ_ _ _ _ _=>trivial
 | φ::l,h,0=>h.1
 | φ::l,h,i+1=>nH l h.2 i
theorem az(x:au):ru (λv _=>v=x):=λ_ _ _ _ h=>h
theorem eH:ru (λ_ _=>True):=λ_ _ _ _ h=>h
section
variable (md:Region.Mode) (ops:Array Oper)
def dQ(i:Nat):Option Tmp:=(ops[i]?).bind (·.dst)
def dZ(i j:Nat):Bool:=match ops[i]? with|some o=>o.after.any (λe=>Region.binds md e&&e.on==j)|none=>false
def later(i d:Nat):Bool:=(List.range ops.size).all λj=>j==i||dQ ops j !=some d||dZ md ops j i
def nobody(d:Nat):Bool:=(List.range ops.size).all λj=>dQ ops j !=some d
def tidy(n:Nat):Bool:=(List.range ops.size).all λi=>
 (match ops[i]? with|some o=>o.after.all (λe=>!Region.binds md e||decide (e.on<i))|none=>false)&&
 (match dQ ops i with|some d=>decide (d<n)&&(List.range ops.size).all (λj=>j==i||dQ ops j !=some d)|none=>true)
variable {md ops}
theorem RV{n:Nat}(h:tidy md ops n=true){i j:Nat}(hp:dZ md ops i j=true):j<i:=by
 unfold dZ at hp
 cases ho:ops[i]? with
 | none=>simp[ho]at hp
 | some o=>
  simp only[ho]at hp;obtain⟨e,he,hb⟩:=axL.1 hp;have hlt:i<ops.size:=(awQ.1 ho).1;have h1:=(awW.1 h) i (axx.2 hlt);rw[awF]at h1;have h2:=h1.1;simp only[ho]at h2;have h3:=(Array.all_eq_true_iff_forall_mem.1 h2) e he;simp only[awF,awO]at hb;simp[hb.1]at h3;omega
theorem aBY(h:U:=by
 unfold dQ at hd
 cases ho:ops[i]? with
 | none=>simp[ho]at hd
 | some o=>exact(awQ.1 ho).1):U:=h
theorem kY{n:Nat}(h:tidy md ops n=true){i:Nat}{d:Tmp}(hd:dQ ops i=some d):d<n/\∀j,j≠i->dQ ops j≠some d:=by
 have hlt:i<ops.size:=by exact aBY
 have h1:=(awW.1 h) i (axx.2 hlt);rw[awF]at h1;have h2:=h1.2;simp only[hd,awF,axq,awW,axx,aw_,awO,axI]at h2;refine⟨h2.1,λj hj CS=>?_⟩;have CU:j<ops.size:=by
  unfold dQ at CS
  cases ho:ops[j]? with
  | none=>simp[ho]at CS
  | some o=>exact(awQ.1 ho).1
 rcases h2.2 j CU with h3|h3;exact hj h3;exact h3 CS
end
section
variable {P:Program} {md:Region.Mode} {ops:Array Oper} {Q:Exit->Act->ak->Prop} {Φ:List (au->ak->Prop)} {a0:Act} {w0:ak}
def YC(P:Program)(md:Region.Mode)(ops:Array Oper)(Q:Exit->Act->ak->Prop)(Φ:List (au->ak->Prop))(a0:Act)(w0:ak)(i:Nat)(o:Oper):Prop:=
 ∀(a:Act) (w:ak),Ev w0 w->a.defers=a0.defers->
  (∀d,later md ops i d=true->a.eval (.tmp d)=a0.eval (.tmp d))->
  (∀j d,dZ md ops i j=true->dQ ops j=some d->dC Φ j (a.eval (.tmp d)) w)->
  ∀K:Act->ak->Prop,(∀v w',Ev w w'->dC Φ i v w'->K (a.put o.dst v) w')->
  if Region.wanted o (yielded ops a.tmps)=true then Oper.wp P o a w K Q else K (a.put o.dst undef) w
structure Mid(md:Region.Mode)(ops:Array Oper)(Φ:List (au->ak->Prop))(a0:Act)(w0:ak)(listed:Array Bool)(a:Act)(w:ak):Prop where
 size:listed.size=ops.size
 ev:Ev w0 w
 defers:a.defers=a0.defers
 slots:a.tmps.size=a0.tmps.size
 closed:∀i j,listed.getD i false=true->dZ md ops i j=true->listed.getD j false=true
 keep:∀d,(∀i,listed.getD i false=true->dQ ops i≠some d)->a.eval (.tmp d)=a0.eval (.tmp d)
 done:∀i d,listed.getD i false=true->dQ ops i=some d->dC Φ i (a.eval (.tmp d)) w
def fV(listed:Array Bool)(n:Nat):Nat:=(List.range n).countP λi=>!listed.getD i false
theorem pY{listed:Array Bool}{n i:Nat}(hs:listed.size=n)(hi:i<n)(hu:listed.getD i false=false):fV (listed.setIfInBounds i true) n<fV listed n:=by
 unfold fV;have key:∀l:List Nat,i∈l->(∀j∈l,j<n)->l.countP (λj=>!(listed.setIfInBounds i true).getD j false)<l.countP (λj=>!listed.getD j false):=by
  have mono:∀l:List Nat,l.countP (λj=>!(listed.setIfInBounds i true).getD j false)<=l.countP (λj=>!listed.getD j false):=by intro l;apply List.countP_mono_left;intro j _ hj;by_cases CV:i=j;subst CV;simp[hs,hi]at hj;rw[ayl false CV]at hj;exact hj
  intro l
  induction l with
  | nil=>intro h _;cases h
  | cons x l ih=>
   intro hm hl;by_cases hx:x=i;subst hx;have h1:(!(listed.setIfInBounds x true).getD x false)=false:=by simp[hs,hi]
   have h2:(!listed.getD x false)=true:=by rw[hu];rfl
   rw[ayg (by simpa using h1),List.countP_cons_of_pos (by simpa using h2)];have:=mono l;omega;have MM:i∈l:=by rcases awN.1 hm with h|h;exact absurd h.symm hx;exact h
   have h3:=ih MM (λj hj=>hl j (awK _ hj));have h4:(!(listed.setIfInBounds i true).getD x false)=(!listed.getD x false):=by rw[ayl false (Ne.symm hx)]
   simp only[List.countP_cons];rw[h4];omega
 exact key _ (axx.2 hi) (λj hj=>axx.1 hj)
theorem uX{n:Nat}(ht:tidy md ops n=true){listed:Array Bool}(hs:listed.size=ops.size)(hr:Region.ready md ops listed=[]):∀i,i<ops.size->listed.getD i false=true:=by
 intro i
 induction i using Nat.strongRecOn with
 | ind i ih=>
  intro hi;by_cases hl:listed.getD i false=true;exact hl;have hmem:i∈Region.ready md ops listed:=by
   rw[aym];have hlt:i<listed.size:=ae;refine⟨by simpa[hlt] using hl,ops[i],ax3 hi,λe he hb=>?_⟩;have hp:dZ md ops i e.on=true:=by unfold dZ;rw[ax3 hi];exact axL.2 ⟨e,he,by simp[hb]⟩
   have hb2:=RV ht hp;exact ih e.on hb2 ae
  rw[hr]at hmem
  cases hmem
theorem eval_put_same{a:Act}{d:Tmp}{v:au}(h:d<a.tmps.size):(a.put (some d) v).eval (.tmp d)=v:=by simp[Act.put,Act.eval,h]
theorem eU{a:Act}{dst:Option Tmp}{d:Tmp}{v:au}(h:dst≠some d):(a.put dst v).eval (.tmp d)=a.eval (.tmp d):=by
 apply Act.eval_put;intro d' hd' he;injection he with he
 subst he;exact h hd'
theorem yJ(a:Act)(dst:Option Tmp)(v:au):(a.put dst v).defers=a.defers:=by cases dst<;>rfl
theorem size_put(a:Act)(dst:Option Tmp)(v:au):(a.put dst v).tmps.size=a.tmps.size:=by cases dst<;>simp[Act.put]
theorem aBW(h:U:=by intro j hj;by_cases CV:i=j;exact .inl CV.symm;rw[ayl false CV]at hj;exact .inr hj):U:=h
theorem aA'(h:U:=by unfold dZ at hp;simp only[ho]at hp;obtain⟨e,he,hb⟩:=axL.1 hp;simp only[awF,awO]at hb;rw[<-hb.2];exact hall e he hb.1):U:=h
theorem azw(h:U:=by intro j k hj hp;apply getD_set_true;rcases hset j hj with rfl|hj';obtain⟨_,o',RX,hall⟩:=aym.1 hr;rw[ho]at RX;obtain rfl:=axd RX;exact aA';exact h.closed j k hj' hp):U:=h
theorem aAT(h:U:=by
 intro d hd;have hne:o.dst≠some d:=by rw[<-FP];exact hd i (by simp[h.size,hi])
 rw[eU hne];exact h.keep d λj hj=>hd j (getD_set_true hj)):U:=h
theorem aBm(h:U:=by rw[FP]at hd;rw[hd];have hsz:=(kY ht (by rw[FP];exact hd)).1;rw[eval_put_same (by rw[h.slots];exact hsz)];exact hv):U:=h
theorem aA8(h:U:=by subst CV;exact aBm):U:=h
theorem Mid.step(ht:tidy md ops a0.tmps.size=true)(hm:lJ Φ){listed:Array Bool}{a:Act}{w w':ak}(h:Mid md ops Φ a0 w0 listed a w){i:Nat}{o:Oper}(ho:ops[i]?=some o)
  (hr:i∈Region.ready md ops listed) {v:au} (hE:Ev w w') (hv:dC Φ i v w'):Mid md ops Φ a0 w0 (listed.setIfInBounds i true) (a.put o.dst v) w':=by
 have hi:i<ops.size:=(awQ.1 ho).1;have FP:dQ ops i=o.dst:=by simp[dQ,ho]
 have hset:∀j,(listed.setIfInBounds i true).getD j false=true->j=i∨listed.getD j false=true:=by exact aBW
 refine⟨by simpa using h.size,h.ev.trans hE,by rw[yJ];exact h.defers,by rw[size_put];exact h.slots,?_,?_,?_⟩;exact azw;exact aAT;intro j d hj hd;rcases hset j hj with rfl|hj';exact aBm;by_cases CV:j=i;exact aA8;have hne:o.dst≠some d:=by rw[<-FP];exact(kY ht hd).2 i (λe=>CV e.symm)
 rw[eU hne];exact nH Φ hm j _ _ _ hE (h.done j d hj' hd)
theorem aAB(h:U:=by
 have hlt:i<ops.size:=by
  unfold dQ at hid
  cases ho:ops[i]? with
  | none=>simp[ho]at hid
  | some o=>exact(awQ.1 ho).1
 have:=(awW.1 hd) i (axx.2 hlt);simp[hid]at this):U:=h
theorem azH(h:U:=by
 apply axY.2;intro i hi;obtain⟨h0,o,ho,_⟩:=aym.1 hi;have hlt:i<ops.size:=(awQ.1 ho).1;have:fV listed ops.size=0:=ae;unfold fV at this;rw[axX]at this;have h1:=this i (axx.2 hlt);have hl:i<listed.size:=by rw[h.size];exact hlt
 simp[hl]at h0 h1;rw[h0]at h1
 cases h1):U:=h
theorem azt(h:U:=by
 have CU:j<ops.size:=by
  unfold dQ at CS
  cases Pv:ops[j]? with
  | none=>simp[Pv]at CS
  | some o=>exact(awQ.1 Pv).1
 have h1:=(awW.1 hd) j (axx.2 CU);simp only[aw_,awO,axI]at h1;rcases h1 with (h1|h1)|h1;subst h1;rw[xH]at hj;cases hj;exact h1 CS;have:=h.closed j i hj h1;rw[xH]at this;cases this):U:=h
theorem YD(ht:tidy md ops a0.tmps.size=true)(hm:lJ Φ)
  (hops:∀i o,ops[i]?=some o->YC P md ops Q Φ a0 w0 i o)
  (hQ:∀a w,Ev w0 w->a.defers=a0.defers->a.tmps.size=a0.tmps.size->(∀d,nobody ops d=true->a.eval (.tmp d)=a0.eval (.tmp d))->
   (∀i d,dQ ops i=some d->dC Φ i (a.eval (.tmp d)) w)->Q .normal a w):
  ∀(fuel:Nat) (listed:Array Bool) (a:Act) (w:ak),fV listed ops.size<=fuel->Mid md ops Φ a0 w0 listed a w->wpAny P md ops Q fuel listed a w:=by
 have fin:∀(listed:Array Bool) (a:Act) (w:ak),Region.ready md ops listed=[]->Mid md ops Φ a0 w0 listed a w->Q .normal a w:=by intro listed a w hr h;have hall:=uX ht h.size hr;refine hQ a w h.ev h.defers h.slots (λd hd=>h.keep d λi hi hid=>?_) (λi d hd=>h.done i d (hall i ?_) hd);exact aAB;exact aBY
 intro fuel
 induction fuel with
 | zero=>
  intro listed a w hu h;have hr:Region.ready md ops listed=[]:=by exact azH
  exact⟨hr,fin listed a w hr h⟩
 | succ fuel ih=>
  intro listed a w hu h;refine⟨λhr=>fin listed a w hr h,λi hi=>?_⟩;obtain⟨h0,o,ho,hall⟩:=aym.1 hi;have hlt:i<ops.size:=(awQ.1 ho).1;have hl:i<listed.size:=by rw[h.size];exact hlt
  have xH:listed.getD i false=false:=by simpa[hl] using h0
  have hcount:=pY h.size hlt xH;refine wpOp_step ho λK' hK'=>?_;refine hops i o ho a w h.ev h.defers (λd hd=>h.keep d λj hj CS=>?_) (λj d hp hd=>?_) K' (λv w' hE hv=>hK' _ _ (ih _ _ _ ae (h.step ht hm ho hi hE hv)));exact azt;refine h.done j d ?_ hd;exact aA'
theorem aCB(h:U:=by intro i j hi;exfalso;by_cases hlt:i<ops.size<;>simp[hlt]at hi):U:=h
theorem aCC(h:U:=by intro i d hi;exfalso;by_cases hlt:i<ops.size<;>simp[hlt]at hi):U:=h
theorem Na{id:Nat}(ed:P.follows .mixedOrders=true)(Φ:List (au->ak->Prop))(ht:tidy .any ops a0.tmps.size=true)(hm:lJ Φ)
  (hops:∀i o,ops[i]?=some o->YC P .any ops Q Φ a0 w0 i o)
  (hQ:∀a w,Ev w0 w->a.defers=a0.defers->a.tmps.size=a0.tmps.size->(∀d,nobody ops d=true->a.eval (.tmp d)=a0.eval (.tmp d))->
   (∀i d,dQ ops i=some d->dC Φ i (a.eval (.tmp d)) w)->Q .normal a w):
  (Code.region id ops true).wp P Q a0 w0:=by
 refine wp_region_any ed (YD ht hm hops hQ ops.size _ _ _ ?_ ⟨aj,?_,rfl,rfl,?_,λ_ _=>rfl,?_⟩);unfold fV;exact aw0 ax' aj;exact⟨rfl,rfl,rfl,awC _,λ_ _=>rfl⟩;exact aCB;exact aCC
theorem iT{R:Nat->Oper->Prop}(k:Nat):∀i o,(([]:List Oper).toArray)[i]?=some o->R (k+i) o:=by intro i o h;simp at h
theorem aC{R:Nat->Oper->Prop}{o0:Oper}{l:List Oper}(k:Nat)(h0:R k o0)(h:∀i o,l.toArray[i]?=some o->R (k+1+i) o):∀i o,(o0::l).toArray[i]?=some o->R (k+i) o:=by
 intro i o hi
 cases i with
 | zero=>simp at hi;subst hi;exact h0
 | succ i=>
  have:=h i o (by simpa using hi);rwa [show k+1+i=k+(i+1) by omega]at this
theorem YE{R:Nat->Oper->Prop}{ops:Array Oper}(h:∀i o,ops[i]?=some o->R (0+i) o):∀i o,ops[i]?=some o->R i o:=by intro i o hi;have:=h i o hi;rwa [aw3]at this
theorem Vm{a:Act}{j d:Nat}{b:Bool}(hd:dQ ops j=some d)(h:a.eval (.tmp d)=.bool b):yielded ops a.tmps j=some b:=by unfold dQ at hd;unfold yielded;rw[hd,Option.bind_some];simp only[Act.eval]at h;by_cases hlt:d<a.tmps.size;simp[hlt]at h;simp[hlt,h];simp[hlt,undef]at h
structure Ctx(md:Region.Mode)(ops:Array Oper)(Φ:List (au->ak->Prop))(a0:Act)(w0:ak)(i:Nat)(a:Act)(w:ak):Prop where
 ev:Ev w0 w
 old:∀d,later md ops i d=true->a.eval (.tmp d)=a0.eval (.tmp d)
 new:∀(j:Nat) (d:Tmp) (_:dZ md ops i j=true:=by kernel_rfl) (_:dQ ops j=some d:=by kernel_rfl),dC Φ j (a.eval (.tmp d)) w
theorem Ctx.was{i:Nat}{a:Act}{w:ak}(c:Ctx md ops Φ a0 w0 i a w)(d:Nat){v:au}(hv:a0.eval (.tmp d)=v)(h:later md ops i d=true:=by kernel_rfl):a.eval (.tmp d)=v:=(c.old d h).trans hv
theorem Ctx.got{i:Nat}{a:Act}{w:ak}(c:Ctx md ops Φ a0 w0 i a w)(j d:Nat){φ:au->ak->Prop}(h:dZ md ops i j=true)(hd:dQ ops j=some d)(hφ:dC Φ j=φ):φ (a.eval (.tmp d)) w:=hφ▸c.new j d h hd
theorem aF{i:Nat}{o:Oper}(h:∀a w,Ctx md ops Φ a0 w0 i a w->Region.wanted o (yielded ops a.tmps)=true/\∃v,(execOp a.eval o).run P w=.ok (.value v) w/\dC Φ i v w):YC P md ops Q Φ a0 w0 i o:=by intro a w hE _ hold hnew K hK;obtain⟨hw,v,hr,hv⟩:=h a w ⟨hE,hold,hnew⟩;rw[if_pos hw];unfold Oper.wp;rw[hr];exact hK v w (Ev.refl w) hv
theorem aaW{i:Nat}{o:Oper}(h:∀a w,Ctx md ops Φ a0 w0 i a w->Region.wanted o (yielded ops a.tmps)=true/\∃v w',(execOp a.eval o).run P w=.ok (.value v) w'/\Ev w w'/\dC Φ i v w'):YC P md ops Q Φ a0 w0 i o:=by intro a w hE _ hold hnew K hK;obtain⟨hw,v,w',hr,YF,hv⟩:=h a w ⟨hE,hold,hnew⟩;rw[if_pos hw];unfold Oper.wp;rw[hr];exact hK v w' YF hv
theorem ig{i:Nat}{o:Oper}(h:∀a w,Ctx md ops Φ a0 w0 i a w->Region.wanted o (yielded ops a.tmps)=true/\∃f args,(execOp a.eval o).run P w=.ok (.enter f args) w/\
  Calls P f args w λe w'=>∃v,e=.returned v/\Ev w w'/\dC Φ i v w'):YC P md ops Q Φ a0 w0 i o:=by
 intro a w hE _ hold hnew K hK;obtain⟨hw,f,args,hr,hc⟩:=h a w ⟨hE,hold,hnew⟩;rw[if_pos hw];unfold Oper.wp;rw[hr];refine hc.mono ?_;rintro e w' ⟨v,rfl,YF,hv⟩;exact hK v w' YF hv
theorem run_move{ρ:Operand->au}{o:Oper}(x:Operand)(h:o.op=.move x)(w:ak):(execOp ρ o).run P w=.ok (.value (ρ x)) w:=by unfold execOp;rw[h];rfl
theorem run_assign{ρ:Operand->au}{o:Oper}(x:Operand)(h:o.op=.assign x)(w:ak):(execOp ρ o).run P w=.ok (.value (ρ x)) w:=by unfold execOp;rw[h];rfl
theorem su{ρ:Operand->au}{o:Oper}{c x y:Operand}(ho:o.op=.pick c x y)(h:ρ c=.bool true)(w:ak):(execOp ρ o).run P w=.ok (.value (ρ x)) w:=by unfold execOp;rw[ho];simp[h,asBool]
theorem uY{ρ:Operand->au}{o:Oper}{c x y:Operand}(ho:o.op=.pick c x y)(h:ρ c=.bool false)(w:ak):(execOp ρ o).run P w=.ok (.value (ρ y)) w:=by unfold execOp;rw[ho];simp[h,asBool]
theorem evc(a:Act)(v:au):a.eval (.const v)=v:=rfl
def FQ (P : Program) (f : FuncId) : Bool := match P.funcs[f]? with | some fn => !(fn.name == "runtime.NumGoroutine") && !fn.body.isNone | none => false
theorem Oi{f:FuncId}(h:FQ P f=true)(args:Array au)(w:ak):(callFunc f args).run P w=.ok (.enter f args) w:=by
 unfold FQ at h
 cases hf:P.funcs[f]? with
 | none=>simp[hf]at h
 | some fn=>
  simp only[hf,awF,ax0]at h;have h1 : ¬ fn.name = "runtime.NumGoroutine" := by simpa using h.1
  have h2:¬fn.body=none:=by intro e;simp[e]at h
  simp[callFunc,hf,h1,h2]
theorem bT{a:Act}{o:Oper}(f:FuncId)(xs:Array Operand)(ts:Array TypeId)(ho:o.op=.call {callee:=.value (.func f),args:=xs,argTypes:=ts})(h:FQ P f=true)(w:ak):
  (execOp a.eval o).run P w=.ok (.enter f (xs.map a.eval)) w:=by
 unfold execOp;rw[ho];simp[resolve,Act.eval,Deferred.ofValue,invoke];exact Oi h _ w
theorem ay{o:Oper}{y:Nat->Option Bool}(h:o.guard=none):Region.wanted o y=true:=by simp[Region.wanted,h]
theorem aP{o:Oper}{a:Act}{g d:Nat}{b:Bool}(h:o.guard=some (g,b))(hd:dQ ops g=some d)(hv:a.eval (.tmp d)=.bool b):Region.wanted o (yielded ops a.tmps)=true:=by simp[Region.wanted,h,Vm hd hv]
theorem xR{a:Act}{n:Nat}(h:a.tmps.size=n):a=⟨((List.range n).map λd=>a.eval (.tmp d)).toArray,a.defers⟩:=by
 have e:a.tmps=((List.range n).map λd=>a.eval (.tmp d)).toArray:=by apply Array.ext;simp[h];intro i h1 h2;simp[Act.eval,h1]
 cases a
 simp only at e|-;rw[<-e]
theorem bV{id:Nat}(ed:P.follows .mixedOrders=true)(Φ:List (au->ak->Prop))(n:Nat)(hn:a0.tmps.size=n)(ht:tidy .any ops n=true)(hm:lJ Φ)
  (hops:∀i o,ops[i]?=some o->YC P .any ops Q Φ a0 w0 (0+i) o)
  (hQ:∀(s:Nat->au) w,Ev w0 w->(∀(d:Tmp) (_:nobody ops d=true:=by kernel_rfl),s d=a0.eval (.tmp d))->
   (∀(i:Nat) (d:Tmp) (_:dQ ops i=some d:=by kernel_rfl),dC Φ i (s d) w)->Q .normal ⟨((List.range n).map s).toArray,a0.defers⟩ w):
  (Code.region id ops true).wp P Q a0 w0:=by
 subst hn;refine Na ed Φ ht hm (YE hops) ?_;intro a w hE hd hs hold hnew;rw[xR hs,hd];exact hQ (λd=>a.eval (.tmp d)) w hE hold hnew
end
theorem aB{w:ak}{o:Obj}:Ev w (w.alloc o):=Ev.alloc w o
theorem aK{w:ak}:Ev w w:=Ev.refl w
section
variable {P:Program} {md:Region.Mode} {ops:Array Oper} {Q:Exit->Act->ak->Prop} {Φ:List (au->ak->Prop)} {a0:Act} {w0:ak}
theorem SX{R:Nat->Oper->Prop}{m:Nat}(k:Nat)(o0:Oper)(hk:m<=k):∀i o,([o0].toArray)[i]?=some o->k+i<m->R (k+i) o:=by intro i o _ h;omega
theorem dF{R:Nat->Oper->Prop}{m:Nat}{o0:Oper}{l:List Oper}(k:Nat)(h0:R k o0)(h:∀i o,l.toArray[i]?=some o->k+1+i<m->R (k+1+i) o):∀i o,(o0::l).toArray[i]?=some o->k+i<m->R (k+i) o:=by
 intro i o hi hlt
 cases i with
 | zero=>simp at hi;subst hi;exact h0
 | succ i=>
  have:=h i o (by simpa using hi) ae;rwa [show k+1+i=k+(i+1) by omega]at this
theorem J4{R:Nat->Oper->Prop}{m:Nat}{ops:Array Oper}(h:∀i o,ops[i]?=some o->0+i<m->R (0+i) o):∀i o,ops[i]?=some o->i<m->R i o:=by intro i o hi hlt;have:=h i o hi ae;rwa [aw3]at this
theorem vg{o:Oper}{a:Act}{w w':ak}{K:Act->ak->Prop}(h:(execOp a.eval o).run P w=.ok .skip w')(hk:K (a.put o.dst undef) w'):Oper.wp P o a w K Q:=by unfold Oper.wp;rw[h];exact hk
end
section
variable {P:Program} {md:Region.Mode} {ops:Array Oper} {Q:Exit->Act->ak->Prop} {Φ:List (au->ak->Prop)} {a0:Act} {w0:ak}
end
def XQ(md:Region.Mode)(ops:Array Oper)(D:List Nat)(p j i:Nat):Bool:=!D.contains i||j==p||dZ md ops p j
def AnyW(φ:au->ak->Prop):Prop:=∀v w w',φ v w->φ v w'
theorem any_eq(x:au):AnyW (λv _=>v=x):=λ_ _ _ h=>h
def abw(md:Region.Mode)(ops:Array Oper)(D:List Nat)(p:Nat):Nat->List (au->ak->Prop)->Prop
 | _,[]=>True
 | k,φ::l=>((k==p||dZ md ops k p||D.contains k)=true∨AnyW φ)/\abw md ops D p (k+1) l
theorem J7{md:Region.Mode}{ops:Array Oper}{D:List Nat}{p:Nat}:∀(Φ:List (au->ak->Prop)) (k:Nat),abw md ops D p k Φ->∀i,(k+i==p||dZ md ops (k+i) p||D.contains (k+i))=false->AnyW (dC Φ i)
 | [],_,_,i,_=>λ_ _ _ _=>trivial
 | φ::l,k,h,0,hn=>by rcases h.1 with h1|h1;rw[aw2,h1]at hn;cases hn;exact h1
 | φ::l,k,h,i+1,hn=>J7 l (k+1) h.2 i (by rwa [show k+1+i=k+(i+1) by omega])
section
variable {P:Program} {md:Region.Mode} {ops:Array Oper} {Q:Exit->Act->ak->Prop} {Φ:List (au->ak->Prop)} {a0:Act} {w0:ak} {D:List Nat} {p:Nat}
def qj(w0:ak)(p i:Nat)(w w':ak):Prop:=if i=p then Ev w0 w' else Ev w w'
structure abx(md:Region.Mode)(ops:Array Oper)(Φ:List (au->ak->Prop))(a0:Act)(w0:ak)(D:List Nat)(p i:Nat)(a:Act)(w:ak):Prop where
 ev:Ev w0 w
 old:∀d,later md ops i d=true->a.eval (.tmp d)=a0.eval (.tmp d)
 new:∀(j:Nat) (d:Tmp) (_:dZ md ops i j=true:=by kernel_rfl) (_:dQ ops j=some d:=by kernel_rfl) (_:XQ md ops D p i j=true:=by kernel_rfl),dC Φ j (a.eval (.tmp d)) w
theorem abx.was{i:Nat}{a:Act}{w:ak}(c:abx md ops Φ a0 w0 D p i a w)(d:Nat){v:au}(hv:a0.eval (.tmp d)=v)(h:later md ops i d=true:=by kernel_rfl):a.eval (.tmp d)=v:=(c.old d h).trans hv
def XT(P:Program)(md:Region.Mode)(ops:Array Oper)(Q:Exit->Act->ak->Prop)(Φ:List (au->ak->Prop))(a0:Act)(w0:ak)(D:List Nat)(p i:Nat)(o:Oper):Prop:=
 ∀(a:Act) (w:ak),abx md ops Φ a0 w0 D p i a w->
  ∀K:Act->ak->Prop,(∀v w',qj w0 p i w w'->dC Φ i v w'->K (a.put o.dst v) w')->
  if Region.wanted o (yielded ops a.tmps)=true then Oper.wp P o a w K Q else K (a.put o.dst undef) w
structure aeI(md:Region.Mode)(ops:Array Oper)(Φ:List (au->ak->Prop))(a0:Act)(w0:ak)(D:List Nat)(p:Nat)(listed:Array Bool)(a:Act)(w:ak):Prop where
 size:listed.size=ops.size
 ev:Ev w0 w
 defers:a.defers=a0.defers
 slots:a.tmps.size=a0.tmps.size
 closed:∀i j,listed.getD i false=true->dZ md ops i j=true->listed.getD j false=true
 keep:∀d,(∀i,listed.getD i false=true->dQ ops i≠some d)->a.eval (.tmp d)=a0.eval (.tmp d)
 done:∀i d,listed.getD i false=true->dQ ops i=some d->(listed.getD p false=false∨i=p∨D.contains i=false)->dC Φ i (a.eval (.tmp d)) w
theorem aeI.step(ht:tidy md ops a0.tmps.size=true)(hm:lJ Φ)(hd:abw md ops D p 0 Φ){listed:Array Bool}{a:Act}{w w':ak}(h:aeI md ops Φ a0 w0 D p listed a w){i:Nat}{o:Oper}(ho:ops[i]?=some o)
  (hr:i∈Region.ready md ops listed) {v:au} (xH:listed.getD i false=false) (hE:qj w0 p i w w') (hv:dC Φ i v w'):aeI md ops Φ a0 w0 D p (listed.setIfInBounds i true) (a.put o.dst v) w':=by
 have hi:i<ops.size:=(awQ.1 ho).1;have FP:dQ ops i=o.dst:=by simp[dQ,ho]
 have hset:∀j,(listed.setIfInBounds i true).getD j false=true->j=i∨listed.getD j false=true:=by exact aBW
 refine⟨by simpa using h.size,?_,by rw[yJ];exact h.defers,by rw[size_put];exact h.slots,?_,?_,?_⟩;unfold qj at hE;split at hE;exact hE;exact h.ev.trans hE;exact azw;exact aAT;intro j d hj hdd hlive;by_cases hji:j=i;subst hji;rw[FP]at hdd;rw[hdd];have hsz:=(kY ht (by rw[FP];exact hdd)).1;rw[eval_put_same (by rw[h.slots];exact hsz)];exact hv;have hj':listed.getD j false=true:=(hset j hj).resolve_left hji;have hne:o.dst≠some d:=by rw[<-FP];exact(kY ht hdd).2 i (λe=>hji e.symm)
 rw[eU hne];by_cases hip:i=p;subst hip;have ahu:D.contains j=false:=by rcases hlive with h1|h1|h1;rw[show (listed.setIfInBounds i true).getD i false=true by simp[h.size,hi]]at h1;cases h1;exact absurd h1 hji;exact h1
 have hnp:dZ md ops j i=false:=by
  cases hpm:dZ md ops j i
  rfl;have:=h.closed j i hj' hpm;rw[xH]at this;cases this
 refine J7 Φ 0 hd j ?_ _ _ _ (h.done j d hj' hdd (.inl xH));rw[aw3,hnp,ahu];simp[hji];have YF:Ev w w':=by unfold qj at hE;rwa [if_neg hip]at hE
 refine nH Φ hm j _ _ _ YF (h.done j d hj' hdd ?_);rcases hlive with h1|h1|h1;rw[ayl false hip]at h1;exact .inl h1;exact .inr (.inl h1);exact .inr (.inr h1)
theorem Tc(ht:tidy md ops a0.tmps.size=true)(hm:lJ Φ)(hd:abw md ops D p 0 Φ){m:Nat}{om:Oper}(hom:ops[m]?=some om)(hsz:ops.size=m+1)(hall:(List.range m).all (λj=>dZ md ops m j||(List.range m).any (λk=>dZ md ops m k&&dZ md ops k j))=true)
  (hops:∀i o,ops[i]?=some o->i<m->XT P md ops Q Φ a0 w0 D p i o)
  (hQ:∀a w,Ev w0 w->a.defers=a0.defers->a.tmps.size=a0.tmps.size->(∀d,nobody ops d=true->a.eval (.tmp d)=a0.eval (.tmp d))->
   (∀i d,i<m->(i==p||!D.contains i)=true->dQ ops i=some d->dC Φ i (a.eval (.tmp d)) w)->
   Region.wanted om (yielded ops a.tmps)=true/\Oper.wp P om a w (Q .normal) Q):
  ∀(fuel:Nat) (listed:Array Bool) (a:Act) (w:ak),fV listed ops.size<=fuel->listed.getD m false=false->aeI md ops Φ a0 w0 D p listed a w->wpAny P md ops Q fuel listed a w:=by
 have aeJ:m<ops.size:=ae;intro fuel
 induction fuel with
 | zero=>
  intro listed a w hu hml h;exfalso;have:fV listed ops.size=0:=ae;unfold fV at this;rw[axX]at this;exact this m (axx.2 aeJ) (by rw[hml];rfl)
 | succ fuel ih=>
  intro listed a w hu hml h;refine⟨λhr=>?_,λi hi=>?_⟩;have:=uX ht h.size hr m aeJ;rw[hml]at this
  cases this
  obtain⟨h0,o,ho,hbef⟩:=aym.1 hi;have hlt:i<ops.size:=(awQ.1 ho).1;have hl:i<listed.size:=by rw[h.size];exact hlt
  have xH:listed.getD i false=false:=by simpa[hl] using h0
  by_cases Fz:i=m;subst Fz;rw[hom]at ho;obtain rfl:=axd ho;have hdone:∀j,j<i->listed.getD j false=true:=by
   intro j hj;have aj_:∀k,dZ md ops i k=true->listed.getD k false=true:=λk hp=>by unfold dZ at hp;simp only[hom]at hp;obtain⟨e,he,hb⟩:=axL.1 hp;simp only[awF,awO]at hb;rw[<-hb.2];exact hbef e he hb.1
   have hp:=(awW.1 hall) j (axx.2 hj);rcases aw_ _ _▸hp with h1|h1;exact aj_ j h1;obtain⟨k,_,hk⟩:=axQ.1 h1;rw[awF]at hk;exact h.closed k j (aj_ k hk.1) hk.2
  obtain⟨hw,hwp⟩:=hQ a w h.ev h.defers h.slots (λd hd=>h.keep d λj hj CS=>by
    have CU:j<ops.size:=by
     unfold dQ at CS
     cases Pv:ops[j]? with
     | none=>simp[Pv]at CS
     | some o=>exact(awQ.1 Pv).1
    have:=(awW.1 hd) j (axx.2 CU);simp[CS]at this) (λj d hj hlv hd=>h.done j d (hdone j hj) hd (by
     simp only[aw_,awO,ax0]at hlv;exact .inr hlv))
  refine wpOp_step hom λK' hK'=>?_;rw[if_pos hw];refine Oper.wp_mono (λa' w' hq=>hK' a' w' (wpAny_done ?_ hq fuel)) hwp;apply axY.2;intro j hj;obtain⟨hj0,oj,Pv,_⟩:=aym.1 hj;have CU:j<ops.size:=(awQ.1 Pv).1;have XU:j<(listed.setIfInBounds i true).size:=by simp[h.size,CU]
  have hjt:(listed.setIfInBounds i true).getD j false=true:=by by_cases hji:j=i;subst hji;simp[hl];exact getD_set_true (hdone j ae)
  simp only[Array.getD_eq_getD_getElem?,ax3 XU,Option.getD_some]at hj0 hjt;rw[hj0]at hjt
  cases hjt
  have hcount:=pY h.size hlt xH;have hpre:∀j,dZ md ops i j=true->listed.getD j false=true:=λj hp=>by unfold dZ at hp;simp only[ho]at hp;obtain⟨e,he,hb⟩:=axL.1 hp;simp only[awF,awO]at hb;rw[<-hb.2];exact hbef e he hb.1
  refine wpOp_step ho λK' hK'=>?_;refine hops i o ho ae a w ⟨h.ev,λd hd=>h.keep d λj hj CS=>?_,λj d hp hd hav=>?_⟩ K' (λv w' hE hv=>hK' _ _ (ih _ _ _ ae ?_ (h.step ht hm hd ho hi xH hE hv)));exact azt;refine h.done j d (hpre j hp) hd ?_
  cases hpl:listed.getD p false with
  | false=>exact .inl rfl
  | true=>
   refine .inr ?_;unfold XQ at hav
   cases hdd:D.contains j with
   | false=>exact .inr rfl
   | true=>
    exfalso;rw[hdd]at hav;simp only[Bool.not_true,Bool.false_or,aw_,awO]at hav;rcases hav with h1|h1;subst h1;rw[xH]at hpl;cases hpl;have:=h.closed p i hpl h1;rw[xH]at this;cases this
  rw[ayl false Fz];exact hml
theorem zF{id:Nat}(ed:P.follows .mixedOrders=true)(D:List Nat)(p:Nat)(Φ:List (au->ak->Prop))(n:Nat)(hn:a0.tmps.size=n)(m:Nat)(om:Oper)(hom:ops[m]?=some om)(hsz:ops.size=m+1)
  (hall:(List.range m).all (λj=>dZ .any ops m j||(List.range m).any (λk=>dZ .any ops m k&&dZ .any ops k j))=true) (ht:tidy .any ops n=true) (hm:lJ Φ) (hdd:abw .any ops D p 0 Φ)
  (hops:∀i o,ops[i]?=some o->i<m->XT P .any ops Q Φ a0 w0 D p i o)
  (hQ:∀(s:Nat->au) w,Ev w0 w->(∀(d:Tmp) (_:nobody ops d=true:=by kernel_rfl),s d=a0.eval (.tmp d))->(∀i d,i<m->(i==p||!D.contains i)=true->dQ ops i=some d->dC Φ i (s d) w)->
   Region.wanted om (yielded ops ((List.range n).map s).toArray)=true/\Oper.wp P om ⟨((List.range n).map s).toArray,a0.defers⟩ w (Q .normal) Q):
  (Code.region id ops true).wp P Q a0 w0:=by
 subst hn;refine wp_region_any ed (Tc ht hm hdd hom hsz hall hops ?_ ops.size _ _ _ ?_ ?_ ⟨aj,?_,rfl,rfl,?_,λ_ _=>rfl,?_⟩);intro a w hE hd hs hold hnew;have hf:=xR hs;rw[hd]at hf;have hq:=hQ (λd=>a.eval (.tmp d)) w hE hold hnew;rw[hf];rw[<-hf]at hq|-;exact⟨by have:=hq.1;rwa [show ((List.range a0.tmps.size).map λd=>a.eval (.tmp d)).toArray=a.tmps from (axc Act.tmps hf).symm]at this,hq.2⟩;unfold fV;exact aw0 ax' aj;have hlt:m<ops.size:=ae;simp[hlt];exact⟨rfl,rfl,rfl,awC _,λ_ _=>rfl⟩;exact aCB;exact aCC
theorem d_{i:Nat}{o:Oper}(hi:i≠p)(h:∀a w,abx md ops Φ a0 w0 D p i a w->Region.wanted o (yielded ops a.tmps)=true/\∃v,(execOp a.eval o).run P w=.ok (.value v) w/\dC Φ i v w):XT P md ops Q Φ a0 w0 D p i o:=by intro a w c L hL;obtain⟨hw,v,hr,hv⟩:=h a w c;rw[if_pos hw];unfold Oper.wp;rw[hr];exact hL v w (by unfold qj;rw[if_neg hi];exact Ev.refl w) hv
theorem pO{i:Nat}{o:Oper}(h:∀a w,abx md ops Φ a0 w0 D p i a w->Region.wanted o (yielded ops a.tmps)=true/\∃v w',(execOp a.eval o).run P w=.ok (.value v) w'/\qj w0 p i w w'/\dC Φ i v w'):XT P md ops Q Φ a0 w0 D p i o:=by intro a w c L hL;obtain⟨hw,v,w',hr,YF,hv⟩:=h a w c;rw[if_pos hw];unfold Oper.wp;rw[hr];exact hL v w' YF hv
end
section
variable {P:Program} {md:Region.Mode} {ops:Array Oper} {Q:Exit->Act->ak->Prop} {Φ:List (au->ak->Prop)} {a0:Act} {w0:ak} {J:ak->ak->Prop} {m dm:Nat} {Ψ:au->ak->Prop}
end
section
variable {P:Program} {md:Region.Mode} {ops:Array Oper} {Q:Exit->Act->ak->Prop} {Φ:List (au->ak->Prop)} {a0:Act} {J:ak->ak->Prop} {I:ak->Prop} {ms:List Nat} {St:Nat->ak->Prop}
def reachC(md:Region.Mode)(ops:Array Oper):Nat->Nat->Nat->Bool
 | 0,i,j=>dZ md ops i j
 | n+1,i,j=>dZ md ops i j||(List.range ops.size).any λx=>dZ md ops i x&&reachC md ops n x j
def chainC(md:Region.Mode)(ops:Array Oper):List Nat->Bool
 | []=>true
 | [_]=>true
 | a::b::l=>reachC md ops 3 b a&&decide (a<b)&&chainC md ops (b::l)
def BD(J:ak->ak->Prop):List (au->ak->Prop)->Prop
 | []=>True
 | φ::l=>(∀v w w',J w w'->φ v w->φ v w')/\BD J l
theorem Ez:∀(Φ:List (au->ak->Prop)),BD J Φ->∀i v w w',J w w'->dC Φ i v w->dC Φ i v w'
 | [],_,i=>λ_ _ _ _ _=>trivial
 | φ::l,h,0=>h.1
 | φ::l,h,i+1=>Ez l h.2 i
structure GG(md:Region.Mode)(ops:Array Oper)(Φ:List (au->ak->Prop))(a0:Act)(I:ak->Prop)(i:Nat)(a:Act)(w:ak):Prop where
 inv:I w
 old:∀d,later md ops i d=true->a.eval (.tmp d)=a0.eval (.tmp d)
 new:∀(j:Nat) (d:Tmp) (_:dZ md ops i j=true:=by kernel_rfl) (_:dQ ops j=some d:=by kernel_rfl),dC Φ j (a.eval (.tmp d)) w
theorem GG.was{i:Nat}{a:Act}{w:ak}(c:GG md ops Φ a0 I i a w)(d:Nat){v:au}(hv:a0.eval (.tmp d)=v)(h:later md ops i d=true:=by kernel_rfl):a.eval (.tmp d)=v:=(c.old d h).trans hv
theorem GG.got{i:Nat}{a:Act}{w:ak}(c:GG md ops Φ a0 I i a w)(j d:Nat){φ:au->ak->Prop}(h:dZ md ops i j=true)(hd:dQ ops j=some d)(hφ:dC Φ j=φ):φ (a.eval (.tmp d)) w:=hφ▸c.new j d h hd
def OM(P:Program)(md:Region.Mode)(ops:Array Oper)(Q:Exit->Act->ak->Prop)(Φ:List (au->ak->Prop))(a0:Act)(I:ak->Prop)(i:Nat)(o:Oper):Prop:=
 ∀(a:Act) (w:ak),GG md ops Φ a0 I i a w->∀K:Act->ak->Prop,(∀v w',Ev w w'->I w'->dC Φ i v w'->K (a.put o.dst v) w')->
  if Region.wanted o (yielded ops a.tmps)=true then Oper.wp P o a w K Q else K (a.put o.dst undef) w
def OO(P:Program)(md:Region.Mode)(ops:Array Oper)(Q:Exit->Act->ak->Prop)(Φ:List (au->ak->Prop))(a0:Act)(I:ak->Prop)(J:ak->ak->Prop)(St:Nat->ak->Prop)(p i:Nat)(o:Oper):Prop:=
 ∀(a:Act) (w:ak),GG md ops Φ a0 I i a w->St p w->∀K:Act->ak->Prop,(∀v w',J w w'->I w'->St (p+1) w'->dC Φ i v w'->K (a.put o.dst v) w')->
  if Region.wanted o (yielded ops a.tmps)=true then Oper.wp P o a w K Q else K (a.put o.dst undef) w
def iq(listed:Array Bool)(ms:List Nat):Nat:=ms.countP λi=>listed.getD i false
structure Wj(md:Region.Mode)(ops:Array Oper)(Φ:List (au->ak->Prop))(a0:Act)(I:ak->Prop)(ms:List Nat)(St:Nat->ak->Prop)(listed:Array Bool)(a:Act)(w:ak):Prop where
 size:listed.size=ops.size
 inv:I w
 defers:a.defers=a0.defers
 slots:a.tmps.size=a0.tmps.size
 closed:∀i j,listed.getD i false=true->dZ md ops i j=true->listed.getD j false=true
 keep:∀d,(∀i,listed.getD i false=true->dQ ops i≠some d)->a.eval (.tmp d)=a0.eval (.tmp d)
 done:∀i d,listed.getD i false=true->dQ ops i=some d->dC Φ i (a.eval (.tmp d)) w
 st:St (iq listed ms) w
theorem iJ{listed:Array Bool}(hc:∀i j,listed.getD i false=true->dZ md ops i j=true->listed.getD j false=true):∀(n i j:Nat),reachC md ops n i j=true->listed.getD i false=true->listed.getD j false=true
 | 0,i,j,h,hl=>hc i j hl h
 | n+1,i,j,h,hl=>by unfold reachC at h;rw[aw_]at h;rcases h with h|h;exact hc i j hl h;obtain⟨x,_,hx⟩:=axQ.1 h;rw[awF]at hx;exact iJ hc n x j hx.2 (hc i x hl hx.1)
theorem zo:∀{a:Nat} {l:List Nat},chainC md ops (a::l)=true->chainC md ops l=true
 | a,[],_=>rfl
 | a,b::l,h=>by unfold chainC at h;rw[awF]at h;exact h.2
theorem zt{listed:Array Bool}(hc:∀i j,listed.getD i false=true->dZ md ops i j=true->listed.getD j false=true):∀(a:Nat) (l:List Nat),chainC md ops (a::l)=true->listed.getD a false=false->iq listed (a::l)=0
 | a,[],_,h=>by unfold iq;rw[ayg (by rw[h];exact ax_)];rfl
 | a,b::l,hch,h=>by
  have Wl:=hch;unfold chainC at Wl;rw[awF,awF]at Wl;have hb:listed.getD b false=false:=by
   cases hb:listed.getD b false
   rfl;have:=iJ hc 3 b a Wl.1.1 hb;rw[h]at this;cases this
  have:=zt hc b l Wl.2 hb;unfold iq at this|-;rw[ayg (by rw[h];exact ax_)];exact this
theorem TL:∀(l:List Nat) (a:Nat),chainC md ops (a::l)=true->∀x∈l,a<x
 | [],a,_,x,hx=>by cases hx
 | b::l,a,h,x,hx=>by have h2:=h;unfold chainC at h2;rw[awF,awF]at h2;have hab:=ax1 h2.1.2;rcases awN.1 hx with rfl|hx;exact hab;exact Nat.lt_trans hab (TL l b h2.2 x hx)
theorem EC{listed:Array Bool}(hc:∀i j,listed.getD i false=true->dZ md ops i j=true->listed.getD j false=true):∀(ms:List Nat) (p i:Nat),chainC md ops ms=true->ms[p]?=some i->listed.getD i false=false->(∀j n,reachC md ops n i j=true->i≠j->listed.getD j false=true)->iq listed ms=p
 | [],p,i,_,h,_,_=>by simp at h
 | [a],0,i,hch,h,hl,_=>by simp at h;subst h;exact zt hc a [] hch hl
 | [a],p+1,i,hch,h,hl,_=>by simp at h
 | a::b::l,0,i,hch,h,hl,_=>by simp at h;subst h;exact zt hc a (b::l) hch hl
 | a::b::l,p+1,i,hch,h,hl,hd=>by
  have Wl:=zo hch;have ih:=EC hc (b::l) p i Wl (by simpa using h) hl hd;have JW:listed.getD a false=true:=by
   have hh:=hch;unfold chainC at hh;rw[awF,awF]at hh
   cases p with
   | zero=>
    simp at h;subst h;exact hd a 3 hh.1.1 (by have:=ax1 hh.1.2;omega)
   | succ p=>
    have hbl:listed.getD b false=true:=by
     cases hbl:listed.getD b false
     have:=zt hc b l Wl hbl;rw[this]at ih;cases ih;rfl
    exact iJ hc 3 b a hh.1.1 hbl
  unfold iq at ih|-;rw[List.countP_cons_of_pos (p:=λi=>listed.getD i false) JW,ih]
theorem yt{listed:Array Bool}{i:Nat}(hi:i<listed.size):∀ms:List Nat,i∉ms->iq (listed.setIfInBounds i true) ms=iq listed ms
 | [],_=>rfl
 | a::l,h=>by have hne:i≠a:=λe=>h (e▸awL ..);have ih:=yt hi l λhm=>h (awK _ hm);unfold iq at ih|-;rw[List.countP_cons,List.countP_cons,ih,ayl false hne]
theorem tH{listed:Array Bool}{i:Nat}(hi:i<listed.size)(xH:listed.getD i false=false):∀ms:List Nat,ms.Pairwise (·<·)->i∈ms->iq (listed.setIfInBounds i true) ms=iq listed ms+1
 | [],_,h=>by cases h
 | a::l,hp,h=>by rw[List.pairwise_cons]at hp;rcases awN.1 h with e|h;subst e;have hnm:i∉l:=λhm=>Nat.lt_irrefl _ (hp.1 i hm);have:=yt hi l hnm;unfold iq at this|-;rw[List.countP_cons_of_pos (by simp[hi]),ayg (by rw[xH];exact ax_),this];have hne:i≠a:=λe=>Nat.lt_irrefl _ (hp.1 a (e▸h));have ih:=tH hi xH l hp.2 h;unfold iq at ih|-;rw[List.countP_cons,List.countP_cons,ih,ayl false hne];omega
theorem qw:∀ms:List Nat,chainC md ops ms=true->ms.Pairwise (·<·)
 | [],_=>List.Pairwise.nil
 | a::l,h=>List.pairwise_cons.2 ⟨TL l a h,qw l (zo h)⟩
theorem Wj.step(ht:tidy md ops a0.tmps.size=true){listed:Array Bool}{a:Act}{w w':ak}(h:Wj md ops Φ a0 I ms St listed a w){i:Nat}{o:Oper}(ho:ops[i]?=some o)
  (hr:i∈Region.ready md ops listed) {v:au} (hI:I w') (hkeep:∀j d,listed.getD j false=true->dQ ops j=some d->dC Φ j (a.eval (.tmp d)) w') (hv:dC Φ i v w') (hst:St (iq (listed.setIfInBounds i true) ms) w'):Wj md ops Φ a0 I ms St (listed.setIfInBounds i true) (a.put o.dst v) w':=by
 have hi:i<ops.size:=(awQ.1 ho).1;have FP:dQ ops i=o.dst:=by simp[dQ,ho]
 have hset:∀j,(listed.setIfInBounds i true).getD j false=true->j=i∨listed.getD j false=true:=by exact aBW
 refine⟨by simpa using h.size,hI,by rw[yJ];exact h.defers,by rw[size_put];exact h.slots,?_,?_,?_,hst⟩;exact azw;exact aAT;intro j d hj hd;rcases hset j hj with rfl|hj';exact aBm;by_cases CV:j=i;exact aA8;have hne:o.dst≠some d:=by rw[<-FP];exact(kY ht hd).2 i (λe=>CV e.symm)
 rw[eU hne];exact hkeep j d hj' hd
theorem azr(h:U:=by
 have:iq listed ms=iq ((Array.range ops.size).map λ_=>true) ms:=by
  unfold iq;refine List.countP_congr λi _=>?_;by_cases hi:i<ops.size;rw[hall i hi];simp[hi];have h1:listed.getD i false=false:=by
   have:¬i<listed.size:=by rw[h.size];exact hi
   simp[this]
  rw[h1];simp[hi]
 rw[<-this];exact h.st):U:=h
theorem azc(h:U:=by refine⟨h.inv,λd hd=>h.keep d λj hj CS=>?_,λj d hp hd=>h.done j d (hpl j hp) hd⟩;exact azt):U:=h
theorem aAF(h:U:=by unfold reachC at Ap;rw[aw_]at Ap;rcases Ap with Ap|Ap;exact hpl j Ap;obtain⟨x,_,hx⟩:=axQ.1 Ap;rw[awF]at hx;exact iJ h.closed n x j hx.2 (hpl x hx.1)):U:=h
theorem Wn(ht:tidy md ops a0.tmps.size=true)(hm:lJ Φ)(hJ:BD J Φ)(hch:chainC md ops ms=true)(Wp:∀p w w',Ev w w'->St p w->St p w')
  (hops:∀i o,ops[i]?=some o->i∉ms->OM P md ops Q Φ a0 I i o) (KQ:∀p i o,ms[p]?=some i->ops[i]?=some o->OO P md ops Q Φ a0 I J St p i o)
  (hQ:∀a w,I w->a.defers=a0.defers->a.tmps.size=a0.tmps.size->(∀d,nobody ops d=true->a.eval (.tmp d)=a0.eval (.tmp d))->
   (∀i d,dQ ops i=some d->dC Φ i (a.eval (.tmp d)) w)->St (iq ((Array.range ops.size).map λ_=>true) ms) w->Q .normal a w):
  ∀(fuel:Nat) (listed:Array Bool) (a:Act) (w:ak),fV listed ops.size<=fuel->Wj md ops Φ a0 I ms St listed a w->wpAny P md ops Q fuel listed a w:=by
 have fin:∀(listed:Array Bool) (a:Act) (w:ak),Region.ready md ops listed=[]->Wj md ops Φ a0 I ms St listed a w->Q .normal a w:=by intro listed a w hr h;have hall:=uX ht h.size hr;refine hQ a w h.inv h.defers h.slots (λd hd=>h.keep d λi hi hid=>?_) (λi d hd=>h.done i d (hall i ?_) hd) ?_;exact aAB;exact aBY;exact azr
 intro fuel
 induction fuel with
 | zero=>
  intro listed a w hu h;have hr:Region.ready md ops listed=[]:=by exact azH
  exact⟨hr,fin listed a w hr h⟩
 | succ fuel ih=>
  intro listed a w hu h;refine⟨λhr=>fin listed a w hr h,λi hi=>?_⟩;obtain⟨h0,o,ho,hall⟩:=aym.1 hi;have hlt:i<ops.size:=(awQ.1 ho).1;have hl:i<listed.size:=by rw[h.size];exact hlt
  have xH:listed.getD i false=false:=by simpa[hl] using h0
  have hcount:=pY h.size hlt xH;have hpl:∀j,dZ md ops i j=true->listed.getD j false=true:=λj hp=>by exact aA'
  have NJ:GG md ops Φ a0 I i a w:=by exact azc
  refine wpOp_step ho λK' hK'=>?_;by_cases Fz:i∈ms;obtain⟨p,hp⟩:=axU Fz;have XM:iq listed ms=p:=EC h.closed ms p i hch hp xH λj n Ap CV=>by
   cases n with
   | zero=>exact hpl j Ap
   | succ n=>
    exact aAF
  have hst:St p w:=XM▸h.st;refine KQ p i o hp ho a w NJ hst K' λv w' hJw hI' Wq hv=>hK' _ _ (ih _ _ _ ae (h.step ht ho hi hI' (λj d hj hd=>Ez Φ hJ j _ _ _ hJw (h.done j d hj hd)) hv ?_));rw[tH hl xH ms (qw ms hch) Fz,XM];exact Wq;refine hops i o ho Fz a w NJ K' λv w' hE hI' hv=>hK' _ _ (ih _ _ _ ae (h.step ht ho hi hI' (λj d hj hd=>nH Φ hm j _ _ _ hE (h.done j d hj hd)) hv ?_));rw[yt hl ms Fz];exact Wp _ _ _ hE h.st
theorem aAH(h:U:=by
 have:iq (Array.replicate ops.size false) ms=0:=by unfold iq;rw[axX];intro i _;by_cases hlt:i<ops.size<;>simp[hlt]
 rw[this];exact Wp _ _ _ (Ev.drew w0) hS):U:=h
theorem jD{id:Nat}{w0:ak}(ed:P.follows .mixedOrders=true)(I:ak->Prop)(J:ak->ak->Prop)(ms:List Nat)(St:Nat->ak->Prop)(Φ:List (au->ak->Prop))(n q:Nat)(hn:a0.tmps.size=n)(ht:tidy .any ops n=true)(hm:lJ Φ)(hJ:BD J Φ)(hch:chainC .any ops ms=true)(Wp:∀p w w',Ev w w'->St p w->St p w')(hIE:∀w w',Ev w w'->I w->I w')
  (hI:I w0) (hS:St 0 w0) (hq:iq ((Array.range ops.size).map λ_=>true) ms=q)
  (hops:∀i o,ops[i]?=some o->0+i∉ms->OM P .any ops Q Φ a0 I (0+i) o) (KQ:∀p i o,ms[p]?=some i->ops[i]?=some o->OO P .any ops Q Φ a0 I J St (0+p) i o)
  (hQ:∀(s:Nat->au) w,I w->(∀(d:Tmp) (_:nobody ops d=true:=by kernel_rfl),s d=a0.eval (.tmp d))->
   (∀(i:Nat) (d:Tmp) (_:dQ ops i=some d:=by kernel_rfl),dC Φ i (s d) w)->St q w->Q .normal ⟨((List.range n).map s).toArray,a0.defers⟩ w):
  (Code.region id ops true).wp P Q a0 w0:=by
 subst hn hq;refine wp_region_any ed (Wn ht hm hJ hch Wp (λi o ho hi=>by have:=hops i o ho (by rwa [aw3]);rwa [aw3]at this) (λp i o hp ho=>by have:=KQ p i o hp ho;rwa [aw3]at this) ?_ ops.size _ _ _ ?_ ⟨aj,hIE _ _ (Ev.drew w0) hI,rfl,rfl,?_,λ_ _=>rfl,?_,?_⟩);intro a w hE hd hs hold hnew hp;rw[xR hs,hd];exact hQ (λd=>a.eval (.tmp d)) w hE hold hnew hp;unfold fV;exact aw0 ax' aj;exact aCB;exact aCC;exact aAH
theorem aBg(h:U:=by intro a w c K hK;obtain⟨hw,v,hr,hv⟩:=h a w c;rw[if_pos hw];unfold Oper.wp;rw[hr];exact hK v w (Ev.refl w) c.inv hv):U:=h
theorem aQ{i:Nat}{o:Oper}(h:∀a w,GG md ops Φ a0 I i a w->Region.wanted o (yielded ops a.tmps)=true/\∃v,(execOp a.eval o).run P w=.ok (.value v) w/\dC Φ i v w):OM P md ops Q Φ a0 I i o:=by exact aBg
theorem aBh(h:U:=by intro a w c K hK;obtain⟨hw,v,w',hr,YF,hI',hv⟩:=h a w c;rw[if_pos hw];unfold Oper.wp;rw[hr];exact hK v w' YF hI' hv):U:=h
theorem OQ{i:Nat}{o:Oper}(h:∀a w,GG md ops Φ a0 I i a w->Region.wanted o (yielded ops a.tmps)=true/\∃v w',(execOp a.eval o).run P w=.ok (.value v) w'/\Ev w w'/\I w'/\dC Φ i v w'):OM P md ops Q Φ a0 I i o:=by exact aBh
theorem nS{p i:Nat}{o:Oper}(h:∀a w,GG md ops Φ a0 I i a w->St p w->Region.wanted o (yielded ops a.tmps)=true/\∃f args,(execOp a.eval o).run P w=.ok (.enter f args) w/\
  Calls P f args w λe w'=>∃v,e=.returned v/\J w w'/\I w'/\St (p+1) w'/\dC Φ i v w'):OO P md ops Q Φ a0 I J St p i o:=by
 intro a w c hst K hK;obtain⟨hw,f,args,hr,hc⟩:=h a w c hst;rw[if_pos hw];unfold Oper.wp;rw[hr];refine hc.mono ?_;rintro e w' ⟨v,rfl,h1,h2,h3,h4⟩;exact hK v w' h1 h2 h3 h4
theorem uN{p i:Nat}{o:Oper}(hd:o.dst=none)(h:∀a w,GG md ops Φ a0 I i a w->St p w->Region.wanted o (yielded ops a.tmps)=true/\∃w',(execOp a.eval o).run P w=.ok .skip w'/\J w w'/\I w'/\St (p+1) w'/\dC Φ i undef w'):OO P md ops Q Φ a0 I J St p i o:=by intro a w c hst K hK;obtain⟨hw,w',hr,h1,h2,h3,h4⟩:=h a w c hst;rw[if_pos hw];exact vg hr (hK undef w' h1 h2 h3 h4)
theorem aBs(h:U:=by have:=h i o (by simpa using hi) (by rwa [show k+1+i=k+(i+1) by omega]);rwa [show k+1+i=k+(i+1) by omega]at this):U:=h
theorem aJ{R:Nat->Oper->Prop}{ms:List Nat}{o0:Oper}{l:List Oper}(k:Nat)(h0:R k o0)(h:∀i o,l.toArray[i]?=some o->k+1+i∉ms->R (k+1+i) o):∀i o,(o0::l).toArray[i]?=some o->k+i∉ms->R (k+i) o:=by
 intro i o hi hlt
 cases i with
 | zero=>simp at hi;subst hi;exact h0
 | succ i=>
  exact aBs
theorem cO{R:Nat->Oper->Prop}{ms:List Nat}{o0:Oper}{l:List Oper}(k:Nat)(hk:k∈ms)(h:∀i o,l.toArray[i]?=some o->k+1+i∉ms->R (k+1+i) o):∀i o,(o0::l).toArray[i]?=some o->k+i∉ms->R (k+i) o:=by
 intro i o hi hlt
 cases i with
 | zero=>exact absurd hk hlt
 | succ i=>
  exact aBs
theorem pq{R:Nat->Nat->Oper->Prop}{ops:Array Oper}(k:Nat):∀p i o,([]:List Nat)[p]?=some i->ops[i]?=some o->R (k+p) i o:=by intro p i o h;simp at h
theorem fQ{R:Nat->Nat->Oper->Prop}{ops:Array Oper}{m:Nat}{ms:List Nat}{o0:Oper}(k:Nat)(ho:ops[m]?=some o0)(h0:R k m o0)(h:∀p i o,ms[p]?=some i->ops[i]?=some o->R (k+1+p) i o):∀p i o,(m::ms)[p]?=some i->ops[i]?=some o->R (k+p) i o:=by
 intro p i o hp hi
 cases p with
 | zero=>
  simp at hp;subst hp;rw[ho]at hi;obtain rfl:=axd hi;exact h0
 | succ p=>
  have:=h p i o (by simpa using hp) hi;rwa [show k+1+p=k+(p+1) by omega]at this
theorem oD{R:Nat->Oper->Prop}{ms:List Nat}(k:Nat):∀i o,(([]:List Oper).toArray)[i]?=some o->k+i∉ms->R (k+i) o:=by intro i o h;simp at h
end
section
variable {P:Program} {md:Region.Mode} {ops:Array Oper} {Q:Exit->Act->ak->Prop} {Φ:List (au->ak->Prop)} {a0:Act} {J:Nat->ak->ak->Prop} {I:ak->Prop} {ms D sp:List Nat} {B:List (List Nat)} {pD:Nat} {St:Nat->ak->Prop} {G:(Nat->Bool)->Act->ak->Prop}
def Ws(md:Region.Mode)(ops:Array Oper)(D:List Nat)(pD i j:Nat):Bool:=!(D.contains j)||(i==pD||reachC md ops 3 pD i)
def chkB(md:Region.Mode)(ops:Array Oper):List (List Nat)->List Nat->Bool
 | b::bs,m::ms=>(b.all λj=>j==m||reachC md ops 3 j m)&&chkB md ops bs ms
 | _,_=>true
theorem X7{md:Region.Mode}{ops:Array Oper}:∀(bs:List (List Nat)) (ms:List Nat),chkB md ops bs ms=true->∀p i,ms[p]?=some i->((bs.getD p []).all λj=>j==i||reachC md ops 3 j i)=true
 | [],_,_,p,i,_=>by simp
 | _::_,[],_,p,i,h=>by simp at h
 | b::bs,m::ms,h,0,i,hi=>by unfold chkB at h;rw[awF]at h;simp at hi;subst hi;exact h.1
 | b::bs,m::ms,h,p+1,i,hi=>by unfold chkB at h;rw[awF]at h;have:=X7 bs ms h.2 p i (by simpa using hi);simpa using this
def Jd(J:Nat->ak->ak->Prop)(D:List Nat)(B:List (List Nat)):Nat->List (au->ak->Prop)->Prop
 | _,[]=>True
 | k,φ::l=>(D.contains k=true∨∀p,(B.getD p []).contains k=true∨∀v w w',J p w w'->φ v w->φ v w')/\Jd J D B (k+1) l
theorem TM{p:Nat}:∀(Φ:List (au->ak->Prop)) (k:Nat),Jd J D B k Φ->∀i,D.contains (k+i)=false->((B.getD p []).contains (k+i)=false)->∀v w w',J p w w'->dC Φ i v w->dC Φ i v w'
 | [],_,_,i,_,_=>λ_ _ _ _ _=>trivial
 | φ::l,k,h,0,hd,hb=>by rcases h.1 with h1|h1;rw[aw2,h1]at hd;cases hd;rcases h1 p with h2|h2;rw[aw2,h2]at hb;cases hb;exact h2
 | φ::l,k,h,i+1,hd,hb=>TM l (k+1) h.2 i (by rwa [show k+1+i=k+(i+1) by omega]) (by rwa [show k+1+i=k+(i+1) by omega])
theorem Dx(md:Region.Mode)(ops:Array Oper):∀(n m i x j:Nat),reachC md ops n i x=true->reachC md ops m x j=true->∃q,reachC md ops q i j=true
 | 0,m,i,x,j,h1,h2=>by
  have hx:x<ops.size∨¬x<ops.size:=Nat.lt_or_ge x ops.size |>.imp id ae;rcases hx with hx|hx;refine⟨m+1,?_⟩;unfold reachC;rw[aw_];right;exact axQ.2 ⟨x,axx.2 hx,by rw[awF];exact⟨h1,h2⟩⟩;exfalso;have hno:∀y,dZ md ops x y=false:=λy=>by unfold dZ;rw[Array.getElem?_eq_none ae]
  cases m with
  | zero=>unfold reachC at h2;rw[hno]at h2;cases h2
  | succ m=>
   unfold reachC at h2;rw[hno,Bool.false_or]at h2;obtain⟨y,_,hy⟩:=axQ.1 h2;rw[hno]at hy
   cases hy
 | n+1,m,i,x,j,h1,h2=>by unfold reachC at h1;rw[aw_]at h1;rcases h1 with h1|h1;exact Dx md ops 0 m i x j h1 h2;obtain⟨y,hy,hyy⟩:=axQ.1 h1;rw[awF]at hyy;obtain⟨q,hq⟩:=Dx md ops n m y x j hyy.2 h2;refine⟨q+1,?_⟩;unfold reachC;rw[aw_];right;exact axQ.2 ⟨y,hy,by rw[awF];exact⟨hyy.1,hq⟩⟩
theorem Dy(md:Region.Mode)(ops:Array Oper):∀(a:Nat) (l:List Nat),chainC md ops (a::l)=true->∀i∈l,∃n,reachC md ops n i a=true
 | a,[],_,i,hi=>by cases hi
 | a,b::l,h,i,hi=>by have h2:=h;unfold chainC at h2;rw[awF,awF]at h2;rcases awN.1 hi with e|e;subst e;exact⟨3,h2.1.1⟩;obtain⟨n,hn⟩:=Dy md ops b l h2.2 i e;exact Dx md ops n 3 i b a hn h2.1.1
structure Dz(md:Region.Mode)(ops:Array Oper)(Φ:List (au->ak->Prop))(a0:Act)(I:ak->Prop)(D:List Nat)(pD:Nat)(i:Nat)(a:Act)(w:ak):Prop where
 inv:I w
 old:∀d,later md ops i d=true->a.eval (.tmp d)=a0.eval (.tmp d)
 new:∀(j:Nat) (d:Tmp) (_:dZ md ops i j=true:=by kernel_rfl) (_:dQ ops j=some d:=by kernel_rfl) (_:Ws md ops D pD i j=true:=by kernel_rfl),dC Φ j (a.eval (.tmp d)) w
theorem Dz.was{i:Nat}{a:Act}{w:ak}(c:Dz md ops Φ a0 I D pD i a w)(d:Nat){v:au}(hv:a0.eval (.tmp d)=v)(h:later md ops i d=true:=by kernel_rfl):a.eval (.tmp d)=v:=(c.old d h).trans hv
theorem Dz.got{i:Nat}{a:Act}{w:ak}(c:Dz md ops Φ a0 I D pD i a w)(j d:Nat){φ:au->ak->Prop}(h:dZ md ops i j=true)(hd:dQ ops j=some d)(hav:Ws md ops D pD i j=true)(hφ:dC Φ j=φ):φ (a.eval (.tmp d)) w:=hφ▸c.new j d h hd hav
def TN(P:Program)(md:Region.Mode)(ops:Array Oper)(Q:Exit->Act->ak->Prop)(Φ:List (au->ak->Prop))(a0:Act)(I:ak->Prop)(D:List Nat)(pD:Nat)(i:Nat)(o:Oper):Prop:=
 ∀(a:Act) (w:ak),Dz md ops Φ a0 I D pD i a w->∀K:Act->ak->Prop,(∀v w',Ev w w'->I w'->dC Φ i v w'->K (a.put o.dst v) w')->
  if Region.wanted o (yielded ops a.tmps)=true then Oper.wp P o a w K Q else K (a.put o.dst undef) w
def X8(P:Program)(md:Region.Mode)(ops:Array Oper)(Q:Exit->Act->ak->Prop)(Φ:List (au->ak->Prop))(a0:Act)(I:ak->Prop)(J:Nat->ak->ak->Prop)(St:Nat->ak->Prop)(D:List Nat)(pD:Nat)(G:(Nat->Bool)->Act->ak->Prop)(p i:Nat)(o:Oper):Prop:=
 ∀(a:Act) (w:ak),Dz md ops Φ a0 I D pD i a w->St p w->(p=0->∃L:Nat->Bool,(∀j,dZ md ops i j=true->L j=true)/\G L a w)->∀K:Act->ak->Prop,(∀v w',J p w w'->I w'->St (p+1) w'->dC Φ i v w'->K (a.put o.dst v) w')->
  if Region.wanted o (yielded ops a.tmps)=true then Oper.wp P o a w K Q else K (a.put o.dst undef) w
def X9(P:Program)(md:Region.Mode)(ops:Array Oper)(Q:Exit->Act->ak->Prop)(Φ:List (au->ak->Prop))(a0:Act)(I:ak->Prop)(D:List Nat)(pD:Nat)(G:(Nat->Bool)->Act->ak->Prop)(i:Nat)(o:Oper):Prop:=
 ∀(a:Act) (w:ak) (L:Nat->Bool),Dz md ops Φ a0 I D pD i a w->a.tmps.size=a0.tmps.size->(∀j,dZ md ops i j=true->L j=true)->L i=false->G L a w->∀K:Act->ak->Prop,
  (∀v w',Ev w w'->I w'->dC Φ i v w'->(∀L':Nat->Bool,L' i=true->(∀j,j≠i->L' j=L j)->G L' (a.put o.dst v) w')->K (a.put o.dst v) w')->
  if Region.wanted o (yielded ops a.tmps)=true then Oper.wp P o a w K Q else K (a.put o.dst undef) w
structure ab4(md:Region.Mode)(ops:Array Oper)(Φ:List (au->ak->Prop))(a0:Act)(I:ak->Prop)(D:List Nat)(pD:Nat)(ms:List Nat)(St:Nat->ak->Prop)(G:(Nat->Bool)->Act->ak->Prop)(listed:Array Bool)(a:Act)(w:ak):Prop where
 size:listed.size=ops.size
 inv:I w
 defers:a.defers=a0.defers
 slots:a.tmps.size=a0.tmps.size
 closed:∀i j,listed.getD i false=true->dZ md ops i j=true->listed.getD j false=true
 keep:∀d,(∀i,listed.getD i false=true->dQ ops i≠some d)->a.eval (.tmp d)=a0.eval (.tmp d)
 done:∀i d,listed.getD i false=true->(D.contains i=true->listed.getD pD false=false)->dQ ops i=some d->dC Φ i (a.eval (.tmp d)) w
 st:St (iq listed ms) w
 jn:listed.getD pD false=false->G (λj=>listed.getD j false) a w
theorem aBP(h:U:=by
 subst hip;rw[show (listed.setIfInBounds i true).getD i false=true by simp[h.size,hi]]at h2
 cases h2):U:=h
theorem ab4.step(ht:tidy md ops a0.tmps.size=true){listed:Array Bool}{a:Act}{w w':ak}(h:ab4 md ops Φ a0 I D pD ms St G listed a w){i:Nat}{o:Oper}(ho:ops[i]?=some o)
  (hr:i∈Region.ready md ops listed) {v:au} (hI:I w') (hkeep:∀j d,listed.getD j false=true->(D.contains j=true->listed.getD pD false=false/\i≠pD)->dQ ops j=some d->dC Φ j (a.eval (.tmp d)) w') (hv:dC Φ i v w') (hst:St (iq (listed.setIfInBounds i true) ms) w') (hjn:i≠pD->listed.getD pD false=false->G (λj=>(listed.setIfInBounds i true).getD j false) (a.put o.dst v) w'):ab4 md ops Φ a0 I D pD ms St G (listed.setIfInBounds i true) (a.put o.dst v) w':=by
 have hi:i<ops.size:=(awQ.1 ho).1;have FP:dQ ops i=o.dst:=by simp[dQ,ho]
 have hset:∀j,(listed.setIfInBounds i true).getD j false=true->j=i∨listed.getD j false=true:=by exact aBW
 refine⟨by simpa using h.size,hI,by rw[yJ];exact h.defers,by rw[size_put];exact h.slots,?_,?_,?_,hst,λh2=>?_⟩;exact azw;exact aAT;intro j d hj hD hd;have hD2:D.contains j=true->listed.getD pD false=false/\i≠pD:=λh1=>by have h2:=hD h1;by_cases hip:i=pD;exact aBP;rw[ayl false hip]at h2;exact⟨h2,hip⟩
 rcases hset j hj with rfl|hj';exact aBm;by_cases CV:j=i;exact aA8;have hne:o.dst≠some d:=by rw[<-FP];exact(kY ht hd).2 i (λe=>CV e.symm)
 rw[eU hne];exact hkeep j d hj' hD2 hd;by_cases hip:i=pD;exact aBP;rw[ayl false hip]at h2;exact hjn hip h2
theorem Wu(ht:tidy md ops a0.tmps.size=true)(hm:lJ Φ)(hJ:Jd J D B 0 Φ)(hch:chainC md ops ms=true)(hpD:ms[0]?=some pD)(hB:chkB md ops B ms=true)(Wp:∀p w w',Ev w w'->St p w->St p w')
  (hsp:(sp.all λj=>reachC md ops 3 pD j)=true) (hGs:∀(L L':Nat->Bool) (a a':Act) (w w':ak),(∀j∈sp,L' j=L j)->(∀j∈sp,∀d,dQ ops j=some d->a'.eval (.tmp d)=a.eval (.tmp d))->Ev w w'->G L a w->G L' a' w')
  (hops:∀i o,ops[i]?=some o->i∉ms++sp->TN P md ops Q Φ a0 I D pD i o) (ahH:∀i o,ops[i]?=some o->i∈sp->X9 P md ops Q Φ a0 I D pD G i o) (KQ:∀p i o,ms[p]?=some i->ops[i]?=some o->X8 P md ops Q Φ a0 I J St D pD G p i o)
  (hQ:∀a w,I w->a.defers=a0.defers->a.tmps.size=a0.tmps.size->(∀d,nobody ops d=true->a.eval (.tmp d)=a0.eval (.tmp d))->
   (∀i d,D.contains i=false->dQ ops i=some d->dC Φ i (a.eval (.tmp d)) w)->St (iq ((Array.range ops.size).map λ_=>true) ms) w->Q .normal a w):
  ∀(fuel:Nat) (listed:Array Bool) (a:Act) (w:ak),fV listed ops.size<=fuel->ab4 md ops Φ a0 I D pD ms St G listed a w->wpAny P md ops Q fuel listed a w:=by
 have fin:∀(listed:Array Bool) (a:Act) (w:ak),Region.ready md ops listed=[]->ab4 md ops Φ a0 I D pD ms St G listed a w->Q .normal a w:=by intro listed a w hr h;have hall:=uX ht h.size hr;refine hQ a w h.inv h.defers h.slots (λd hd=>h.keep d λi hi hid=>?_) (λi d hD hd=>h.done i d (hall i ?_) (λh1=>by rw[hD]at h1;cases h1) hd) ?_;exact aAB;exact aBY;exact azr
 intro fuel
 induction fuel with
 | zero=>
  intro listed a w hu h;have hr:Region.ready md ops listed=[]:=by exact azH
  exact⟨hr,fin listed a w hr h⟩
 | succ fuel ih=>
  intro listed a w hu h;refine⟨λhr=>fin listed a w hr h,λi hi=>?_⟩;obtain⟨h0,o,ho,hall⟩:=aym.1 hi;have hlt:i<ops.size:=(awQ.1 ho).1;have hl:i<listed.size:=by rw[h.size];exact hlt
  have xH:listed.getD i false=false:=by simpa[hl] using h0
  have hcount:=pY h.size hlt xH;have hpl:∀j,dZ md ops i j=true->listed.getD j false=true:=λj hp=>by exact aA'
  have NJ:Dz md ops Φ a0 I D pD i a w:=by
   refine⟨h.inv,λd hd=>h.keep d λj hj CS=>?_,λj d hp hd hav=>h.done j d (hpl j hp) (λh1=>?_) hd⟩;exact azt;unfold Ws at hav;rw[h1,Bool.not_true,Bool.false_or,aw_,awO]at hav
   cases Wv:listed.getD pD false
   rfl;rcases hav with h2|h2;rw[<-h2,xH]at Wv;cases Wv;have:=iJ h.closed 3 pD i h2 Wv;rw[xH]at this;cases this
  have hpre:∀j,(∃n,reachC md ops n i j=true)->listed.getD j false=true:=λj ⟨n,Ap⟩=>by
   cases n with
   | zero=>exact hpl j Ap
   | succ n=>
    exact aAF
  refine wpOp_step ho λK' hK'=>?_;by_cases Fz:i∈ms;obtain⟨p,hp⟩:=axU Fz;have XM:iq listed ms=p:=EC h.closed ms p i hch hp xH λj n Ap CV=>by
   cases n with
   | zero=>exact hpl j Ap
   | succ n=>
    exact aAF
  have hst:St p w:=XM▸h.st;have hp0:p=0->i=pD:=λe=>by subst e;rw[hpD]at hp;exact(axd hp).symm
  have hlp:¬p=0->listed.getD pD false=true:=λe=>by
   cases fM:ms with
   | nil=>rw[fM]at Fz;cases Fz
   | cons m0 ml0=>
    rw[fM]at hpD hp hch;simp at hpD;subst hpD
    cases p with
    | zero=>exact absurd rfl e
    | succ p=>
     have MM:i∈ml0:=awG (by simpa using hp);exact hpre m0 (Dy md ops m0 ml0 hch i MM)
  refine KQ p i o hp ho a w NJ hst (λe=>⟨_,hpl,h.jn (by rw[<-hp0 e];exact xH)⟩) K' λv w' hJw hI' Wq hv=>hK' _ _ (ih _ _ _ ae (h.step ht ho hi hI' (λj d hj hD hd=>by
   have hDn:D.contains j=false:=by
    cases hDj:D.contains j
    rfl;obtain⟨h1,h2⟩:=hD hDj;exfalso
    cases fM:ms with
    | nil=>rw[fM]at Fz;cases Fz
    | cons m0 ml0=>
     rw[fM]at hpD Fz hch;simp at hpD;subst hpD;rcases awN.1 Fz with e|e;exact h2 e;obtain⟨k,hk⟩:=axU e;have hup:=Dy md ops m0 ml0 hch i e;have:=hpre m0 hup;rw[h1]at this;cases this
   have hBn:(B.getD p []).contains j=false:=by
    cases hBj:(B.getD p []).contains j
    rfl;exfalso;have h1:=awW.1 (X7 B ms hB p i hp) j (by simpa using hBj);rw[aw_,awO]at h1;rcases h1 with h1|h1;subst h1;rw[xH]at hj;cases hj;have:=iJ h.closed 3 j _ h1 hj;rw[xH]at this;cases this
   exact TM (p:=p) Φ 0 hJ j (by rwa [aw3]) (by rwa [aw3]) _ _ _ hJw (h.done j d hj (λh3=>by rw[hDn]at h3;cases h3) hd)) hv ?_ λhne pJ=>by
    by_cases e:p=0;exact absurd (hp0 e) hne;rw[hlp e]at pJ;cases pJ))
  rw[tH hl xH ms (qw ms hch) Fz,XM];exact Wq;by_cases his:i∈sp;have pJ:listed.getD pD false=false:=by
   cases Wv:listed.getD pD false
   rfl;have:=iJ h.closed 3 pD i (awW.1 hsp i his) Wv;rw[xH]at this;cases this
  refine ahH i o ho his a w _ NJ h.slots hpl xH (h.jn pJ) K' λv w' hE hI' hv hG=>hK' _ _ (ih _ _ _ ae (h.step ht ho hi hI' (λj d hj hD hd=>nH Φ hm j _ _ _ hE (h.done j d hj (λh3=>(hD h3).1) hd)) hv ?_ λ_ _=>hG _ ?_ ?_));rw[yt hl ms Fz];exact Wp _ _ _ hE h.st;simp[hl];intro j hj;exact ayl false (λe=>hj e.symm);refine hops i o ho (λhm=>(awV.1 hm).elim Fz his) a w NJ K' λv w' hE hI' hv=>hK' _ _ (ih _ _ _ ae (h.step ht ho hi hI' (λj d hj hD hd=>nH Φ hm j _ _ _ hE (h.done j d hj (λh3=>(hD h3).1) hd)) hv ?_ λ_ pJ=>?_));rw[yt hl ms Fz];exact Wp _ _ _ hE h.st;refine hGs _ _ a _ w w' (λj hj=>ayl false (λe=>his (e▸hj))) (λj hj d hd=>eU λe=>?_) hE (h.jn pJ);have FP:dQ ops i=some d:=by simp[dQ,ho,e]
  exact(kY ht FP).2 j (λe2=>his (e2▸hj)) hd
theorem jE{id:Nat}{w0:ak}(ed:P.follows .mixedOrders=true)(I:ak->Prop)(J:Nat->ak->ak->Prop)(ms:List Nat)(St:Nat->ak->Prop)(D:List Nat)(B:List (List Nat))(pD:Nat)(Φ:List (au->ak->Prop))(n q:Nat)(hn:a0.tmps.size=n)(ht:tidy .any ops n=true)(hm:lJ Φ)(hJ:Jd J D B 0 Φ)(hch:chainC .any ops ms=true)(hpD:ms[0]?=some pD)(hB:chkB .any ops B ms=true)(Wp:∀p w w',Ev w w'->St p w->St p w')(hIE:∀w w',Ev w w'->I w->I w')
  (hI:I w0) (hS:St 0 w0) (hq:iq ((Array.range ops.size).map λ_=>true) ms=q)
  (G:(Nat->Bool)->Act->ak->Prop) (sp:List Nat) (hsp:(sp.all λj=>reachC .any ops 3 pD j)=true) (hGs:∀(L L':Nat->Bool) (a a':Act) (w w':ak),(∀j∈sp,L' j=L j)->(∀j∈sp,∀d,dQ ops j=some d->a'.eval (.tmp d)=a.eval (.tmp d))->Ev w w'->G L a w->G L' a' w') (hG0:∀L:Nat->Bool,(∀j,L j=false)->G L a0 w0)
  (hops:∀i o,ops[i]?=some o->0+i∉ms++sp->TN P .any ops Q Φ a0 I D pD (0+i) o) (ahH:∀(p i:Nat) (o:Oper),sp[p]?=some i->ops[i]?=some o->X9 P .any ops Q Φ a0 I D pD G i o) (KQ:∀p i o,ms[p]?=some i->ops[i]?=some o->X8 P .any ops Q Φ a0 I J St D pD G (0+p) i o)
  (hQ:∀(s:Nat->au) w,I w->(∀(d:Tmp) (_:nobody ops d=true:=by kernel_rfl),s d=a0.eval (.tmp d))->
   (∀(i:Nat) (d:Tmp) (_:D.contains i=false:=by kernel_rfl) (_:dQ ops i=some d:=by kernel_rfl),dC Φ i (s d) w)->St q w->Q .normal ⟨((List.range n).map s).toArray,a0.defers⟩ w):
  (Code.region id ops true).wp P Q a0 w0:=by
 subst hn hq;refine wp_region_any ed (Wu ht hm hJ hch hpD hB Wp hsp hGs (λi o ho hi=>by have:=hops i o ho (by rwa [aw3]);rwa [aw3]at this) (λi o ho hi=>by obtain⟨p,hp⟩:=axU hi;exact ahH p i o hp ho) (λp i o hp ho=>by have:=KQ p i o hp ho;rwa [aw3]at this) ?_ ops.size _ _ _ ?_ ⟨aj,hIE _ _ (Ev.drew w0) hI,rfl,rfl,?_,λ_ _=>rfl,?_,?_,λ_=>hGs _ _ a0 a0 w0 w0.drew (λj _=>rfl) (λ_ _ _ _=>rfl) (Ev.drew w0) (hG0 _ λj=>?_)⟩);intro a w hE hd hs hold hnew hp;rw[xR hs,hd];exact hQ (λd=>a.eval (.tmp d)) w hE hold hnew hp;unfold fV;exact aw0 ax' aj;exact aCB
 ·intro i d hi _;exfalso;by_cases hlt:i<ops.size<;>simp[hlt]at hi
 exact aAH;by_cases hlt:j<ops.size<;>simp[hlt]
theorem bu{i:Nat}{o:Oper}(h:∀a w,Dz md ops Φ a0 I D pD i a w->Region.wanted o (yielded ops a.tmps)=true/\∃v,(execOp a.eval o).run P w=.ok (.value v) w/\dC Φ i v w):TN P md ops Q Φ a0 I D pD i o:=by exact aBg
theorem uO{i:Nat}{o:Oper}(h:∀a w,Dz md ops Φ a0 I D pD i a w->Region.wanted o (yielded ops a.tmps)=true/\∃v w',(execOp a.eval o).run P w=.ok (.value v) w'/\Ev w w'/\I w'/\dC Φ i v w'):TN P md ops Q Φ a0 I D pD i o:=by exact aBh
theorem yu{i:Nat}{o:Oper}(h:∀a w (L:Nat->Bool),Dz md ops Φ a0 I D pD i a w->a.tmps.size=a0.tmps.size->(∀j,dZ md ops i j=true->L j=true)->L i=false->G L a w->Region.wanted o (yielded ops a.tmps)=true/\∃v w',(execOp a.eval o).run P w=.ok (.value v) w'/\Ev w w'/\I w'/\dC Φ i v w'/\∀L':Nat->Bool,L' i=true->(∀j,j≠i->L' j=L j)->G L' (a.put o.dst v) w'):X9 P md ops Q Φ a0 I D pD G i o:=by intro a w L c hs hp hu hg K hK;obtain⟨hw,v,w',hr,h1,h2,h3,h4⟩:=h a w L c hs hp hu hg;rw[if_pos hw];unfold Oper.wp;rw[hr];exact hK v w' h1 h2 h3 h4
theorem mr{i:Nat}{o:Oper}(h:∀a w (L:Nat->Bool),Dz md ops Φ a0 I D pD i a w->a.tmps.size=a0.tmps.size->(∀j,dZ md ops i j=true->L j=true)->L i=false->G L a w->Region.wanted o (yielded ops a.tmps)=true/\∃f args,(execOp a.eval o).run P w=.ok (.enter f args) w/\
  Calls P f args w λe w'=>∃v,e=.returned v/\Ev w w'/\I w'/\dC Φ i v w'/\∀L':Nat->Bool,L' i=true->(∀j,j≠i->L' j=L j)->G L' (a.put o.dst v) w'):X9 P md ops Q Φ a0 I D pD G i o:=by
 intro a w L c hs hp hu hg K hK;obtain⟨hw,f,args,hr,hc⟩:=h a w L c hs hp hu hg;rw[if_pos hw];unfold Oper.wp;rw[hr];refine hc.mono ?_;rintro e w' ⟨v,rfl,h1,h2,h3,h4⟩;exact hK v w' h1 h2 h3 h4
theorem ab5{i:Nat}{o:Oper}(h:∀a w,Dz md ops Φ a0 I D pD i a w->Region.wanted o (yielded ops a.tmps)=true/\∃f args,(execOp a.eval o).run P w=.ok (.enter f args) w/\
  Calls P f args w λe w'=>∃v,e=.returned v/\Ev w w'/\I w'/\dC Φ i v w'):TN P md ops Q Φ a0 I D pD i o:=by
 intro a w c K hK;obtain⟨hw,f,args,hr,hc⟩:=h a w c;rw[if_pos hw];unfold Oper.wp;rw[hr];refine hc.mono ?_;rintro e w' ⟨v,rfl,h1,h2,h3⟩;exact hK v w' h1 h2 h3
theorem uP{p i:Nat}{o:Oper}(h:∀a w,Dz md ops Φ a0 I D pD i a w->St p w->(p=0->∃L:Nat->Bool,(∀j,dZ md ops i j=true->L j=true)/\G L a w)->Region.wanted o (yielded ops a.tmps)=true/\∃v w',(execOp a.eval o).run P w=.ok (.value v) w'/\J p w w'/\I w'/\St (p+1) w'/\dC Φ i v w'):X8 P md ops Q Φ a0 I J St D pD G p i o:=by intro a w c hst hg K hK;obtain⟨hw,v,w',hr,h1,h2,h3,h4⟩:=h a w c hst hg;rw[if_pos hw];unfold Oper.wp;rw[hr];exact hK v w' h1 h2 h3 h4
theorem OT{p i:Nat}{o:Oper}(hd:o.dst=none)(h:∀a w,Dz md ops Φ a0 I D pD i a w->St p w->(p=0->∃L:Nat->Bool,(∀j,dZ md ops i j=true->L j=true)/\G L a w)->Region.wanted o (yielded ops a.tmps)=true/\∃w',(execOp a.eval o).run P w=.ok .skip w'/\J p w w'/\I w'/\St (p+1) w'/\dC Φ i undef w'):X8 P md ops Q Φ a0 I J St D pD G p i o:=by intro a w c hst hg K hK;obtain⟨hw,w',hr,h1,h2,h3,h4⟩:=h a w c hst hg;rw[if_pos hw];exact vg hr (hK undef w' h1 h2 h3 h4)
theorem BF{R:Nat->Oper->Prop}{ops:Array Oper}:∀(p i:Nat) (o:Oper),([]:List Nat)[p]?=some i->ops[i]?=some o->R i o:=by intro p i o h;simp at h
theorem iW{R:Nat->Oper->Prop}{ops:Array Oper}{m:Nat}{sp:List Nat}{o0:Oper}(ho:ops[m]?=some o0)(h0:R m o0)(h:∀(p i:Nat) (o:Oper),sp[p]?=some i->ops[i]?=some o->R i o):∀(p i:Nat) (o:Oper),(m::sp)[p]?=some i->ops[i]?=some o->R i o:=by
 intro p i o hp hi
 cases p with
 | zero=>
  simp at hp;subst hp;rw[ho]at hi;obtain rfl:=axd hi;exact h0
 | succ p=>exact h p i o (by simpa using hp) hi
end
theorem aZ{a:Prop}{b:Nat->Prop}{q:au->Prop}{J:Nat->ak->ak->Prop}:a∨∀p,b p∨∀(v:au) (w w1:ak),J p w w1->q v->q v:=Or.inr λp=>Or.inr λ_ _ _ _ h=>h
section
variable {P:Program} {md:Region.Mode} {ops:Array Oper} {Q:Exit->Act->ak->Prop} {Φ:List (au->ak->Prop)} {a0:Act} {J:ak->ak->Prop} {I:ak->Prop} {ms:List Nat} {St:Nat->ak->Prop} {ml jm dm q:Nat} {Ψ:au->ak->Prop}
def ab9(P:Program)(md:Region.Mode)(ops:Array Oper)(Q:Exit->Act->ak->Prop)(Φ:List (au->ak->Prop))(a0:Act)(I:ak->Prop)(J:ak->ak->Prop)(St:Nat->ak->Prop)(q dm:Nat)(Ψ:au->ak->Prop)(i:Nat)(o:Oper):Prop:=
 o.dst=none/\∀(a:Act) (w:ak),GG md ops Φ a0 I i a w->St q w->Region.wanted o (yielded ops a.tmps)=true/\∃w',(execOp a.eval o).run P w=.ok .skip w'/\J w w'/\I w'/\St (q+1) w'/\dC Φ i undef w'/\Ψ (a.eval (.tmp dm)) w'
theorem DD{listed:Array Bool}(hc:∀i j,listed.getD i false=true->dZ md ops i j=true->listed.getD j false=true):∀(ms:List Nat),chainC md ops ms=true->∀(k x q y:Nat),ms[k]?=some x->ms[q]?=some y->k<=q->listed.getD y false=true->listed.getD x false=true
 | [],_,k,x,q,y,h,_,_,_=>by simp at h
 | [a],_,k,x,q,y,h1,h2,_,hy=>by
  have e1:x=a:=by cases k<;>simp at h1;exact h1.symm
  have e2:y=a:=by cases q<;>simp at h2;exact h2.symm
  rw[e1,<-e2];exact hy
 | a::b::l,hch,0,x,0,y,h1,h2,_,hy=>by simp at h1 h2;rw[<-h1,h2];exact hy
 | a::b::l,hch,0,x,q+1,y,h1,h2,_,hy=>by simp at h1;subst h1;have hb:=DD hc (b::l) (zo hch) 0 b q y rfl (by simpa using h2) (awJ _) hy;unfold chainC at hch;rw[awF,awF]at hch;exact iJ hc 3 b a hch.1.1 hb
 | a::b::l,hch,k+1,x,0,y,h1,h2,hle,hy=>by omega
 | a::b::l,hch,k+1,x,q+1,y,h1,h2,hle,hy=>DD hc (b::l) (zo hch) k x q y (by simpa using h1) (by simpa using h2) ae hy
theorem Wy(ht:tidy md ops a0.tmps.size=true)(hm:lJ Φ)(hJ:BD J Φ)(hch:chainC md ops ms=true)(Wp:∀p w w',Ev w w'->St p w->St p w')
  (hops:∀i o,ops[i]?=some o->i∉ms->OM P md ops Q Φ a0 I i o) (KQ:∀p i o,ms[p]?=some i->i≠ml->ops[i]?=some o->OO P md ops Q Φ a0 I J St p i o) (hΨ:ru Ψ) (hmq:ms[q]?=some ml) (hlast:q+1=ms.length) {om:Oper} (hom:ops[ml]?=some om) (hjm:dZ md ops ml jm=true) (CS:dQ ops jm=some dm) (hst:ab9 P md ops Q Φ a0 I J St q dm Ψ ml om)
  (hQ:∀a w,I w->a.defers=a0.defers->a.tmps.size=a0.tmps.size->(∀d,nobody ops d=true->a.eval (.tmp d)=a0.eval (.tmp d))->
   (∀i d,dQ ops i=some d->dC Φ i (a.eval (.tmp d)) w)->St (iq ((Array.range ops.size).map λ_=>true) ms) w->Ψ (a.eval (.tmp dm)) w->Q .normal a w):
  ∀(fuel:Nat) (listed:Array Bool) (a:Act) (w:ak),fV listed ops.size<=fuel->Wj md ops Φ a0 I ms St listed a w->(listed.getD ml false=true->Ψ (a.eval (.tmp dm)) w)->wpAny P md ops Q fuel listed a w:=by
 have aeJ:ml<ops.size:=(awQ.1 hom).1;have fin:∀(listed:Array Bool) (a:Act) (w:ak),Region.ready md ops listed=[]->Wj md ops Φ a0 I ms St listed a w->(listed.getD ml false=true->Ψ (a.eval (.tmp dm)) w)->Q .normal a w:=by intro listed a w hr h hpost;have hall:=uX ht h.size hr;refine hQ a w h.inv h.defers h.slots (λd hd=>h.keep d λi hi hid=>?_) (λi d hd=>h.done i d (hall i ?_) hd) ?_ (hpost (hall ml aeJ));exact aAB;exact aBY;exact azr
 intro fuel
 induction fuel with
 | zero=>
  intro listed a w hu h hpost;have hr:Region.ready md ops listed=[]:=by exact azH
  exact⟨hr,fin listed a w hr h hpost⟩
 | succ fuel ih=>
  intro listed a w hu h hpost;refine⟨λhr=>fin listed a w hr h hpost,λi hi=>?_⟩;obtain⟨h0,o,ho,hall⟩:=aym.1 hi;have hlt:i<ops.size:=(awQ.1 ho).1;have hl:i<listed.size:=by rw[h.size];exact hlt
  have xH:listed.getD i false=false:=by simpa[hl] using h0
  have hcount:=pY h.size hlt xH;have hpl:∀j,dZ md ops i j=true->listed.getD j false=true:=λj hp=>by exact aA'
  have NJ:GG md ops Φ a0 I i a w:=by exact azc
  refine wpOp_step ho λK' hK'=>?_;have ahL:∀(o:Oper) (v:au) (w':ak),ops[i]?=some o->i≠ml->(∀v0,Ψ v0 w->Ψ v0 w')->(listed.setIfInBounds i true).getD ml false=true->Ψ ((a.put o.dst v).eval (.tmp dm)) w':=by
   intro o v w' ho Fz hmono hlm;rw[ayl false Fz]at hlm;have hp:=hpost hlm;have hjl:=h.closed ml jm hlm hjm;have CV:i≠jm:=by rintro rfl;rw[xH]at hjl;cases hjl
   have hne:o.dst≠some dm:=by have:=(kY ht CS).2 i CV;simpa[dQ,ho] using this
   rw[eU hne];exact hmono _ hp
  by_cases Fz:i∈ms;obtain⟨p,hp⟩:=axU Fz;have XM:iq listed ms=p:=EC h.closed ms p i hch hp xH λj n Ap CV=>by
   cases n with
   | zero=>exact hpl j Ap
   | succ n=>
    exact aAF
  have ako:St p w:=XM▸h.st;have hpw:=qw ms hch;by_cases MM:i=ml;subst MM;have U7:p=q:=by obtain⟨h1,e1⟩:=awz.1 hp;obtain⟨h2,e2⟩:=awz.1 hmq;rcases Nat.lt_trichotomy p q with h3|h3|h3;have:=(List.pairwise_iff_getElem.1 hpw) p q h1 h2 h3;omega;exact h3;have:=(List.pairwise_iff_getElem.1 hpw) q p h2 h1 h3;omega
  subst U7;rw[hom]at ho;obtain rfl:=axd ho;obtain⟨hw,w',hrun,hJw,hI',Wq,hv,qO⟩:=hst.2 a w NJ ako;rw[if_pos hw];refine vg hrun ?_;refine hK' _ _ (ih _ _ _ ae (h.step ht hom hi hI' (λj d hj hd=>Ez Φ hJ j _ _ _ hJw (h.done j d hj hd)) hv ?_) λ_=>?_);rw[tH hl xH ms hpw Fz,XM];exact Wq;have hput:a.put om.dst undef=a:=by rw[hst.1];rfl
  rw[hput];exact qO;have Wv:listed.getD ml false=false:=by
   cases hlm:listed.getD ml false
   rfl;exfalso;have aq4:iq listed ms=ms.length:=by unfold iq;rw[List.countP_eq_length];intro x hx;obtain⟨k,hk⟩:=axU hx;exact DD h.closed ms hch k x q ml hk hmq (by have:=(awz.1 hk).1;omega) hlm
   have h1:=(awz.1 hp).1;omega
  refine KQ p i o hp MM ho a w NJ ako K' λv w' hJw hI' Wq hv=>hK' _ _ (ih _ _ _ ae (h.step ht ho hi hI' (λj d hj hd=>Ez Φ hJ j _ _ _ hJw (h.done j d hj hd)) hv ?_) λhlm=>?_);rw[tH hl xH ms hpw Fz,XM];exact Wq;rw[ayl false MM,Wv]at hlm
  cases hlm
  have MM:i≠ml:=by rintro rfl;exact Fz (awG hmq)
  refine hops i o ho Fz a w NJ K' λv w' hE hI' hv=>hK' _ _ (ih _ _ _ ae (h.step ht ho hi hI' (λj d hj hd=>nH Φ hm j _ _ _ hE (h.done j d hj hd)) hv ?_) (ahL o v w' ho MM λv0 h0=>hΨ _ _ _ hE h0));rw[yt hl ms Fz];exact Wp _ _ _ hE h.st
theorem GH{id:Nat}{w0:ak}(ed:P.follows .mixedOrders=true)(I:ak->Prop)(J:ak->ak->Prop)(ms:List Nat)(St:Nat->ak->Prop)(ml jm dm:Nat)(Ψ:au->ak->Prop)(Φ:List (au->ak->Prop))(n q q1:Nat)(hn:a0.tmps.size=n)(ht:tidy .any ops n=true)(hm:lJ Φ)(hJ:BD J Φ)(hch:chainC .any ops ms=true)(Wp:∀p w w',Ev w w'->St p w->St p w')(hIE:∀w w',Ev w w'->I w->I w')
  (hI:I w0) (hS:St 0 w0) (hq:iq ((Array.range ops.size).map λ_=>true) ms=q) (hΨ:ru Ψ) (hmq:ms[q1]?=some ml) (hlast:q1+1=ms.length) (om:Oper) (hom:ops[ml]?=some om) (hjm:dZ .any ops ml jm=true) (CS:dQ ops jm=some dm)
  (hops:∀i o,ops[i]?=some o->0+i∉ms->OM P .any ops Q Φ a0 I (0+i) o) (KQ:∀p i o,ms[p]?=some i->i≠ml->ops[i]?=some o->OO P .any ops Q Φ a0 I J St (0+p) i o) (hst:ab9 P .any ops Q Φ a0 I J St q1 dm Ψ ml om)
  (hQ:∀(s:Nat->au) w,I w->(∀(d:Tmp) (_:nobody ops d=true:=by kernel_rfl),s d=a0.eval (.tmp d))->
   (∀(i:Nat) (d:Tmp) (_:dQ ops i=some d:=by kernel_rfl),dC Φ i (s d) w)->St q w->Ψ (s dm) w->Q .normal ⟨((List.range n).map s).toArray,a0.defers⟩ w):
  (Code.region id ops true).wp P Q a0 w0:=by
 subst hn hq;refine wp_region_any ed (Wy ht hm hJ hch Wp (λi o ho hi=>by have:=hops i o ho (by rwa [aw3]);rwa [aw3]at this) (λp i o hp hi ho=>by have:=KQ p i o hp hi ho;rwa [aw3]at this) hΨ hmq hlast hom hjm CS hst ?_ ops.size _ _ _ ?_ ⟨aj,hIE _ _ (Ev.drew w0) hI,rfl,rfl,?_,λ_ _=>rfl,?_,?_⟩ ?_);intro a w hE hd hs hold hnew hp qO;rw[xR hs,hd];exact hQ (λd=>a.eval (.tmp d)) w hE hold hnew hp qO;unfold fV;exact aw0 ax' aj;exact aCB;exact aCC;exact aAH;intro hi;exfalso;by_cases hlt:ml<ops.size<;>simp[hlt]at hi
theorem ab_{R:Nat->Nat->Oper->Prop}{ops:Array Oper}{ml:Nat}(k:Nat):∀p i o,([ml]:List Nat)[p]?=some i->i≠ml->ops[i]?=some o->R (k+p) i o:=by
 intro p i o hp hi
 cases p with
 | zero=>simp at hp;exact absurd hp.symm hi
 | succ p=>simp at hp
theorem aca{R:Nat->Nat->Oper->Prop}{ops:Array Oper}{ml m:Nat}{ms:List Nat}{o0:Oper}(k:Nat)(ho:ops[m]?=some o0)(h0:R k m o0)(h:∀p i o,ms[p]?=some i->i≠ml->ops[i]?=some o->R (k+1+p) i o):∀p i o,(m::ms)[p]?=some i->i≠ml->ops[i]?=some o->R (k+p) i o:=by
 intro p i o hp hn hi
 cases p with
 | zero=>
  simp at hp;subst hp;rw[ho]at hi;obtain rfl:=axd hi;exact h0
 | succ p=>
  have:=h p i o (by simpa using hp) hn hi;rwa [show k+1+p=k+(p+1) by omega]at this
end
end Go.Proofs.YtpbfokkocaemlaaGreatDoor
