import Derived.Test.YtpbfokkocaemlaaGreatDoorAlias
import Derived.Below
import Derived.RegionTactic
import Derived.Deep.Draws
set_option linter.unusedVariables false
set_option maxRecDepth 100000
set_option maxHeartbeats 64000000
namespace Go.Proofs.YtpbfokkocaemlaaGreatDoor
open Go.RowKit
def Ev (w w':World):Prop:=Below w.heap.size w w'
theorem Ev.refl (w:World):Ev w w:=Below.refl _ _
theorem Ev.trans {a b c:World} (h:Ev a b) (k:Ev b c):Ev a c:=Below.trans h (Below.mono k h.size)
theorem Ev.alloc (w:World) (o:Obj):Ev w (w.alloc o):=Below.alloc (Below.refl _ _) (att _) o
theorem Ev.drew (w:World):Ev w w.drew:=⟨rfl,rfl,rfl,att _,fun _ _=>rfl⟩
theorem Ev.drewN (w:World) (n:Nat):Ev w (w.drewN n):=⟨rfl,rfl,rfl,att _,fun _ _=>rfl⟩
def rF (φ:Value→World→Prop):Prop:=∀v w w',Ev w w'→φ v w→φ v w'
def kF:List (Value→World→Prop)→Prop
 | []=>True
 | φ::l=>rF φ∧kF l
def b_ (Φ:List (Value→World→Prop)) (i:Nat):Value→World→Prop:=Φ.getD i (fun _ _=>True)
theorem lT:∀(Φ:List (Value→World→Prop)),kF Φ→∀i,rF (b_ Φ i)
 | [],_,i=>fun _ _ _ _ _=>trivial
 | φ::l,h,0=>h.1
 | φ::l,h,i+1=>lT l h.2 i
theorem az (x:Value):rF (fun v _=>v=x):=fun _ _ _ _ h=>h
theorem eG:rF (fun _ _=>True):=fun _ _ _ _ h=>h
section
variable (md:Region.Mode) (ops:Array Oper)
def dD (i:Nat):Option Tmp:=(ops[i]?).bind (·.dst)
def dO (i j:Nat):Bool:=match ops[i]? with|some o=>o.after.any (fun e=>Region.binds md e&&e.on==j)|none=>false
def later (i d:Nat):Bool:=(List.range ops.size).all fun j=>j==i||dD ops j !=some d||dO md ops j i
def nobody (d:Nat):Bool:=(List.range ops.size).all fun j=>dD ops j !=some d
def tidy (n:Nat):Bool:=(List.range ops.size).all fun i=>
 (match ops[i]? with|some o=>o.after.all (fun e=>!Region.binds md e||decide (e.on<i))|none=>false)&&
 (match dD ops i with|some d=>decide (d<n)&&(List.range ops.size).all (fun j=>j==i||dD ops j !=some d)|none=>true)
variable {md ops}
theorem P8 {n:Nat} (h:tidy md ops n=true) {i j:Nat} (hp:dO md ops i j=true):j<i:=by
 unfold dO at hp
 cases ho:ops[i]? with
 | none=>simp[ho]at hp
 | some o=>
  simp only[ho]at hp;obtain⟨e,he,hb⟩:=auF.1 hp;have hlt:i<ops.size:=(atC.1 ho).1;have h1:=(atL.1 h) i (aut.2 hlt);rw[atu]at h1;have h2:=h1.1;simp only[ho]at h2;have h3:=(Array.all_eq_true_iff_forall_mem.1 h2) e he;simp only[atu,atH]at hb;simp[hb.1]at h3;omega
theorem ax7 {P:Prop} (h:P:=by
 unfold dD at hd
 cases ho:ops[i]? with
 | none=>simp[ho]at hd
 | some o=>exact (atC.1 ho).1):P:=h
theorem jV {n:Nat} (h:tidy md ops n=true) {i:Nat} {d:Tmp} (hd:dD ops i=some d):d<n∧∀j,j≠i→dD ops j≠some d:=by
 have hlt:i<ops.size:=by exact ax7
 have h1:=(atL.1 h) i (aut.2 hlt);rw[atu]at h1;have h2:=h1.2;simp only[hd,atu,aun,atL,aut,atZ,atH,auJ]at h2;refine⟨h2.1,fun j hj AU=>?_⟩;have AV:j<ops.size:=by
  unfold dD at AU
  cases ho:ops[j]? with
  | none=>simp[ho]at AU
  | some o=>exact (atC.1 ho).1
 rcases h2.2 j AV with h3|h3;exact hj h3;exact h3 AU
end
section
variable {P:Program} {md:Region.Mode} {ops:Array Oper} {Q:Exit→Act→World→Prop} {Φ:List (Value→World→Prop)} {a0:Act} {w0:World}
def Wh (P:Program) (md:Region.Mode) (ops:Array Oper) (Q:Exit→Act→World→Prop) (Φ:List (Value→World→Prop)) (a0:Act) (w0:World) (i:Nat) (o:Oper):Prop:=
 ∀(a:Act) (w:World),Ev w0 w→a.defers=a0.defers→
  (∀d,later md ops i d=true→a.eval (.tmp d)=a0.eval (.tmp d))→
  (∀j d,dO md ops i j=true→dD ops j=some d→b_ Φ j (a.eval (.tmp d)) w)→
  ∀K:Act→World→Prop,(∀v w',Ev w w'→b_ Φ i v w'→K (a.put o.dst v) w')→
  if Region.wanted o (yielded ops a.tmps)=true then Oper.wp P o a w K Q else K (a.put o.dst undef) w
structure Mid (md:Region.Mode) (ops:Array Oper) (Φ:List (Value→World→Prop)) (a0:Act) (w0:World) (listed:Array Bool) (a:Act) (w:World):Prop where
 size:listed.size=ops.size
 ev:Ev w0 w
 defers:a.defers=a0.defers
 slots:a.tmps.size=a0.tmps.size
 closed:∀i j,listed.getD i false=true→dO md ops i j=true→listed.getD j false=true
 keep:∀d,(∀i,listed.getD i false=true→dD ops i≠some d)→a.eval (.tmp d)=a0.eval (.tmp d)
 done:∀i d,listed.getD i false=true→dD ops i=some d→b_ Φ i (a.eval (.tmp d)) w
def fC (listed:Array Bool) (n:Nat):Nat:=(List.range n).countP fun i=>!listed.getD i false
theorem nZ {listed:Array Bool} {n i:Nat} (hs:listed.size=n) (hi:i<n) (hu:listed.getD i false=false):fC (listed.setIfInBounds i true) n<fC listed n:=by
 unfold fC;have key:∀l:List Nat,i∈l→(∀j∈l,j<n)→l.countP (fun j=>!(listed.setIfInBounds i true).getD j false)<l.countP (fun j=>!listed.getD j false):=by
  have mono:∀l:List Nat,l.countP (fun j=>!(listed.setIfInBounds i true).getD j false)≤l.countP (fun j=>!listed.getD j false):=by intro l;apply List.countP_mono_left;intro j _ hj;by_cases AX:i=j;subst AX;simp[hs,hi]at hj;rw[getD_set_ne false AX]at hj;exact hj
  intro l
  induction l with
  | nil=>intro h _;cases h
  | cons x l ih=>
   intro hm hl;by_cases hx:x=i;subst hx;have h1:(!(listed.setIfInBounds x true).getD x false)=false:=by simp[hs,hi]
   have h2:(!listed.getD x false)=true:=by rw[hu];rfl
   rw[avc (by simpa using h1),List.countP_cons_of_pos (by simpa using h2)];have:=mono l;omega;have NS:i∈l:=by rcases atA.1 hm with h|h;exact absurd h.symm hx;exact h
   have h3:=ih NS (fun j hj=>hl j (aty _ hj));have h4:(!(listed.setIfInBounds i true).getD x false)=(!listed.getD x false):=by rw[getD_set_ne false (Ne.symm hx)]
   simp only[List.countP_cons];rw[h4];omega
 exact key _ (aut.2 hi) (fun j hj=>aut.1 hj)
theorem tV {n:Nat} (ht:tidy md ops n=true) {listed:Array Bool} (hs:listed.size=ops.size) (hr:Region.ready md ops listed=[]):∀i,i<ops.size→listed.getD i false=true:=by
 intro i
 induction i using Nat.strongRecOn with
 | ind i ih=>
  intro hi;by_cases hl:listed.getD i false=true;exact hl;have hmem:i∈Region.ready md ops listed:=by
   rw[mem_ready];have hlt:i<listed.size:=by omega
   refine⟨by simpa[hlt] using hl,ops[i],auY hi,fun e he hb=>?_⟩;have hp:dO md ops i e.on=true:=by unfold dO;rw[auY hi];exact auF.2 ⟨e,he,by simp[hb]⟩
   have hb2:=P8 ht hp;exact ih e.on hb2 (by omega)
  rw[hr]at hmem
  cases hmem
theorem eval_put_same {a:Act} {d:Tmp} {v:Value} (h:d<a.tmps.size):(a.put (some d) v).eval (.tmp d)=v:=by simp[Act.put,Act.eval,h]
theorem dU {a:Act} {dst:Option Tmp} {d:Tmp} {v:Value} (h:dst≠some d):(a.put dst v).eval (.tmp d)=a.eval (.tmp d):=by
 apply Act.eval_put;intro d' hd' he;injection he with he
 subst he;exact h hd'
theorem xC (a:Act) (dst:Option Tmp) (v:Value):(a.put dst v).defers=a.defers:=by cases dst<;>rfl
theorem size_put (a:Act) (dst:Option Tmp) (v:Value):(a.put dst v).tmps.size=a.tmps.size:=by cases dst<;>simp[Act.put]
theorem ax3 {P:Prop} (h:P:=by intro j hj;by_cases AX:i=j;exact .inl AX.symm;rw[getD_set_ne false AX]at hj;exact .inr hj):P:=h
theorem axz {P:Prop} (h:P:=by unfold dO at hp;simp only[ho]at hp;obtain⟨e,he,hb⟩:=auF.1 hp;simp only[atu,atH]at hb;rw[←hb.2];exact hall e he hb.1):P:=h
theorem av' {P:Prop} (h:P:=by intro j k hj hp;apply getD_set_true;rcases hset j hj with rfl|hj';obtain⟨_,o',P9,hall⟩:=mem_ready.1 hr;rw[ho]at P9;obtain rfl:=aui P9;exact axz;exact h.closed j k hj' hp):P:=h
theorem axg {P:Prop} (h:P:=by
 intro d hd;have hne:o.dst≠some d:=by rw[←D6];exact hd i (by simp[h.size,hi])
 rw[dU hne];exact h.keep d fun j hj=>hd j (getD_set_true hj)):P:=h
theorem axI {P:Prop} (h:P:=by rw[D6]at hd;rw[hd];have hsz:=(jV ht (by rw[D6];exact hd)).1;rw[eval_put_same (by rw[h.slots];exact hsz)];exact hv):P:=h
theorem axy {P:Prop} (h:P:=by subst AX;exact axI):P:=h
theorem Mid.step (ht:tidy md ops a0.tmps.size=true) (hm:kF Φ) {listed:Array Bool} {a:Act} {w w':World} (h:Mid md ops Φ a0 w0 listed a w) {i:Nat} {o:Oper} (ho:ops[i]?=some o)
  (hr:i∈Region.ready md ops listed) {v:Value} (hE:Ev w w') (hv:b_ Φ i v w'):Mid md ops Φ a0 w0 (listed.setIfInBounds i true) (a.put o.dst v) w':=by
 have hi:i<ops.size:=(atC.1 ho).1;have D6:dD ops i=o.dst:=by simp[dD,ho]
 have hset:∀j,(listed.setIfInBounds i true).getD j false=true→j=i∨listed.getD j false=true:=by exact ax3
 refine⟨by simpa using h.size,h.ev.trans hE,by rw[xC];exact h.defers,by rw[size_put];exact h.slots,?_,?_,?_⟩;exact av';exact axg;intro j d hj hd;rcases hset j hj with rfl|hj';exact axI;by_cases AX:j=i;exact axy;have hne:o.dst≠some d:=by rw[←D6];exact (jV ht hd).2 i (fun e=>AX e.symm)
 rw[dU hne];exact lT Φ hm j _ _ _ hE (h.done j d hj' hd)
theorem aw3 {P:Prop} (h:P:=by
 have hlt:i<ops.size:=by
  unfold dD at hid
  cases ho:ops[i]? with
  | none=>simp[ho]at hid
  | some o=>exact (atC.1 ho).1
 have:=(atL.1 hd) i (aut.2 hlt);simp[hid]at this):P:=h
theorem awj {P:Prop} (h:P:=by
 apply auT.2;intro i hi;obtain⟨h0,o,ho,_⟩:=mem_ready.1 hi;have hlt:i<ops.size:=(atC.1 ho).1;have:fC listed ops.size=0:=by omega
 unfold fC at this;rw[auS]at this;have h1:=this i (aut.2 hlt);have hl:i<listed.size:=by rw[h.size];exact hlt
 simp[hl]at h0 h1;rw[h0]at h1
 cases h1):P:=h
theorem av_ {P:Prop} (h:P:=by
 have AV:j<ops.size:=by
  unfold dD at AU
  cases NT:ops[j]? with
  | none=>simp[NT]at AU
  | some o=>exact (atC.1 NT).1
 have h1:=(atL.1 hd) j (aut.2 AV);simp only[atZ,atH,auJ]at h1;rcases h1 with (h1|h1)|h1;subst h1;rw[vV]at hj;cases hj;exact h1 AU;have:=h.closed j i hj h1;rw[vV]at this;cases this):P:=h
theorem Wi (ht:tidy md ops a0.tmps.size=true) (hm:kF Φ)
  (hops:∀i o,ops[i]?=some o→Wh P md ops Q Φ a0 w0 i o)
  (hQ:∀a w,Ev w0 w→a.defers=a0.defers→a.tmps.size=a0.tmps.size→(∀d,nobody ops d=true→a.eval (.tmp d)=a0.eval (.tmp d))→
   (∀i d,dD ops i=some d→b_ Φ i (a.eval (.tmp d)) w)→Q .normal a w):
  ∀(fuel:Nat) (listed:Array Bool) (a:Act) (w:World),fC listed ops.size≤fuel→Mid md ops Φ a0 w0 listed a w→wpAny P md ops Q fuel listed a w:=by
 have fin:∀(listed:Array Bool) (a:Act) (w:World),Region.ready md ops listed=[]→Mid md ops Φ a0 w0 listed a w→Q .normal a w:=by intro listed a w hr h;have hall:=tV ht h.size hr;refine hQ a w h.ev h.defers h.slots (fun d hd=>h.keep d fun i hi hid=>?_) (fun i d hd=>h.done i d (hall i ?_) hd);exact aw3;exact ax7
 intro fuel
 induction fuel with
 | zero=>
  intro listed a w hu h;have hr:Region.ready md ops listed=[]:=by exact awj
  exact⟨hr,fin listed a w hr h⟩
 | succ fuel ih=>
  intro listed a w hu h;refine⟨fun hr=>fin listed a w hr h,fun i hi=>?_⟩;obtain⟨h0,o,ho,hall⟩:=mem_ready.1 hi;have hlt:i<ops.size:=(atC.1 ho).1;have hl:i<listed.size:=by rw[h.size];exact hlt
  have vV:listed.getD i false=false:=by simpa[hl] using h0
  have hcount:=nZ h.size hlt vV;refine wpOp_step ho fun K' hK'=>?_;refine hops i o ho a w h.ev h.defers (fun d hd=>h.keep d fun j hj AU=>?_) (fun j d hp hd=>?_) K' (fun v w' hE hv=>hK' _ _ (ih _ _ _ (by omega) (h.step ht hm ho hi hE hv)));exact av_;refine h.done j d ?_ hd;exact axz
theorem ayt {P:Prop} (h:P:=by intro i j hi;exfalso;by_cases hlt:i<ops.size<;>simp[hlt]at hi):P:=h
theorem ayu {P:Prop} (h:P:=by intro i d hi;exfalso;by_cases hlt:i<ops.size<;>simp[hlt]at hi):P:=h
theorem KW {id:Nat} (fJ:P.follows .mixedOrders=true) (Φ:List (Value→World→Prop)) (ht:tidy .any ops a0.tmps.size=true) (hm:kF Φ)
  (hops:∀i o,ops[i]?=some o→Wh P .any ops Q Φ a0 w0 i o)
  (hQ:∀a w,Ev w0 w→a.defers=a0.defers→a.tmps.size=a0.tmps.size→(∀d,nobody ops d=true→a.eval (.tmp d)=a0.eval (.tmp d))→
   (∀i d,dD ops i=some d→b_ Φ i (a.eval (.tmp d)) w)→Q .normal a w):
  (Code.region id ops true).wp P Q a0 w0:=by
 refine wp_region_any fJ (Wi ht hm hops hQ ops.size _ _ _ ?_ ⟨by simp,?_,rfl,rfl,?_,fun _ _=>rfl,?_⟩);unfold fC;exact atP au6 (by simp);exact⟨rfl,rfl,rfl,att _,fun _ _=>rfl⟩;exact ayt;exact ayu
theorem qC {R:Nat→Oper→Prop} (k:Nat):∀i o,(([]:List Oper).toArray)[i]?=some o→R (k+i) o:=by intro i o h;simp at h
theorem aG {R:Nat→Oper→Prop} {o0:Oper} {l:List Oper} (k:Nat) (h0:R k o0) (h:∀i o,l.toArray[i]?=some o→R (k+1+i) o):∀i o,(o0::l).toArray[i]?=some o→R (k+i) o:=by
 intro i o hi
 cases i with
 | zero=>simp at hi;subst hi;exact h0
 | succ i=>
  have:=h i o (by simpa using hi);rwa [show k+1+i=k+(i+1) by omega]at this
theorem Wj {R:Nat→Oper→Prop} {ops:Array Oper} (h:∀i o,ops[i]?=some o→R (0+i) o):∀i o,ops[i]?=some o→R i o:=by intro i o hi;have:=h i o hi;rwa [atT]at this
theorem Tu {a:Act} {j d:Nat} {b:Bool} (hd:dD ops j=some d) (h:a.eval (.tmp d)=.bool b):yielded ops a.tmps j=some b:=by unfold dD at hd;unfold yielded;rw[hd,Option.bind_some];simp only[Act.eval]at h;by_cases hlt:d<a.tmps.size;simp[hlt]at h;simp[hlt,h];simp[hlt,undef]at h
structure Ctx (md:Region.Mode) (ops:Array Oper) (Φ:List (Value→World→Prop)) (a0:Act) (w0:World) (i:Nat) (a:Act) (w:World):Prop where
 ev:Ev w0 w
 old:∀d,later md ops i d=true→a.eval (.tmp d)=a0.eval (.tmp d)
 new:∀(j:Nat) (d:Tmp) (_:dO md ops i j=true:=by kernel_rfl) (_:dD ops j=some d:=by kernel_rfl),b_ Φ j (a.eval (.tmp d)) w
theorem Ctx.was {i:Nat} {a:Act} {w:World} (c:Ctx md ops Φ a0 w0 i a w) (d:Nat) {v:Value} (hv:a0.eval (.tmp d)=v) (h:later md ops i d=true:=by kernel_rfl):a.eval (.tmp d)=v:=(c.old d h).trans hv
theorem Ctx.got {i:Nat} {a:Act} {w:World} (c:Ctx md ops Φ a0 w0 i a w) (j d:Nat) {φ:Value→World→Prop} (h:dO md ops i j=true) (hd:dD ops j=some d) (hφ:b_ Φ j=φ):φ (a.eval (.tmp d)) w:=hφ▸c.new j d h hd
theorem aJ {i:Nat} {o:Oper} (h:∀a w,Ctx md ops Φ a0 w0 i a w→Region.wanted o (yielded ops a.tmps)=true∧∃v,(execOp a.eval o).run P w=.ok (.value v) w∧b_ Φ i v w):Wh P md ops Q Φ a0 w0 i o:=by intro a w hE _ hold hnew K hK;obtain⟨hw,v,hr,hv⟩:=h a w ⟨hE,hold,hnew⟩;rw[if_pos hw];unfold Oper.wp;rw[hr];exact hK v w (Ev.refl w) hv
theorem Yx {i:Nat} {o:Oper} (h:∀a w,Ctx md ops Φ a0 w0 i a w→Region.wanted o (yielded ops a.tmps)=true∧∃v w',(execOp a.eval o).run P w=.ok (.value v) w'∧Ev w w'∧b_ Φ i v w'):Wh P md ops Q Φ a0 w0 i o:=by intro a w hE _ hold hnew K hK;obtain⟨hw,v,w',hr,Wl,hv⟩:=h a w ⟨hE,hold,hnew⟩;rw[if_pos hw];unfold Oper.wp;rw[hr];exact hK v w' Wl hv
theorem jS {i:Nat} {o:Oper} (h:∀a w,Ctx md ops Φ a0 w0 i a w→Region.wanted o (yielded ops a.tmps)=true∧∃f args,(execOp a.eval o).run P w=.ok (.enter f args) w∧
  Calls P f args w fun e w'=>∃v,e=.returned v∧Ev w w'∧b_ Φ i v w'):Wh P md ops Q Φ a0 w0 i o:=by
 intro a w hE _ hold hnew K hK;obtain⟨hw,f,args,hr,hc⟩:=h a w ⟨hE,hold,hnew⟩;rw[if_pos hw];unfold Oper.wp;rw[hr];refine hc.mono ?_;rintro e w' ⟨v,rfl,Wl,hv⟩;exact hK v w' Wl hv
theorem run_move {ρ:Operand→Value} {o:Oper} (x:Operand) (h:o.op=.move x) (w:World):(execOp ρ o).run P w=.ok (.value (ρ x)) w:=by unfold execOp;rw[h];rfl
theorem run_assign {ρ:Operand→Value} {o:Oper} (x:Operand) (h:o.op=.assign x) (w:World):(execOp ρ o).run P w=.ok (.value (ρ x)) w:=by unfold execOp;rw[h];rfl
theorem KX {ρ:Operand→Value} {o:Oper} {c x y:Operand} (ho:o.op=.pick c x y) (h:ρ c=.bool true) (w:World):(execOp ρ o).run P w=.ok (.value (ρ x)) w:=by unfold execOp;rw[ho];simp[h,asBool]
theorem evc (a:Act) (v:Value):a.eval (.const v)=v:=rfl
def D7 (P : Program) (f : FuncId) : Bool := match P.funcs[f]? with | some fn => !(fn.name == "runtime.NumGoroutine") && !fn.body.isNone | none => false
theorem ML {f:FuncId} (h:D7 P f=true) (args:Array Value) (w:World):(callFunc f args).run P w=.ok (.enter f args) w:=by
 unfold D7 at h
 cases hf:P.funcs[f]? with
 | none=>simp[hf]at h
 | some fn=>
  simp only[hf,atu,auV]at h;have h1 : ¬ fn.name = "runtime.NumGoroutine" := by simpa using h.1
  have h2:¬fn.body=none:=by intro e;simp[e]at h
  simp[callFunc,hf,h1,h2]
theorem bP {a:Act} {o:Oper} (f:FuncId) (xs:Array Operand) (ts:Array TypeId) (ho:o.op=.call {callee:=.value (.func f),args:=xs,argTypes:=ts}) (h:D7 P f=true) (w:World):
  (execOp a.eval o).run P w=.ok (.enter f (xs.map a.eval)) w:=by
 unfold execOp;rw[ho];simp[resolve,Act.eval,Deferred.ofValue,invoke];exact ML h _ w
theorem ay {o:Oper} {y:Nat→Option Bool} (h:o.guard=none):Region.wanted o y=true:=by simp[Region.wanted,h]
theorem iP {o:Oper} {a:Act} {g d:Nat} {b:Bool} (h:o.guard=some (g,b)) (hd:dD ops g=some d) (hv:a.eval (.tmp d)=.bool b):Region.wanted o (yielded ops a.tmps)=true:=by simp[Region.wanted,h,Tu hd hv]
theorem wG {a:Act} {n:Nat} (h:a.tmps.size=n):a=⟨((List.range n).map fun d=>a.eval (.tmp d)).toArray,a.defers⟩:=by
 have e:a.tmps=((List.range n).map fun d=>a.eval (.tmp d)).toArray:=by apply Array.ext;simp[h];intro i h1 h2;simp[Act.eval,h1]
 cases a
 simp only at e⊢;rw[←e]
theorem fH {id:Nat} (fJ:P.follows .mixedOrders=true) (Φ:List (Value→World→Prop)) (n:Nat) (hn:a0.tmps.size=n) (ht:tidy .any ops n=true) (hm:kF Φ)
  (hops:∀i o,ops[i]?=some o→Wh P .any ops Q Φ a0 w0 (0+i) o)
  (hQ:∀(s:Nat→Value) w,Ev w0 w→(∀(d:Tmp) (_:nobody ops d=true:=by kernel_rfl),s d=a0.eval (.tmp d))→
   (∀(i:Nat) (d:Tmp) (_:dD ops i=some d:=by kernel_rfl),b_ Φ i (s d) w)→Q .normal ⟨((List.range n).map s).toArray,a0.defers⟩ w):
  (Code.region id ops true).wp P Q a0 w0:=by
 subst hn;refine KW fJ Φ ht hm (Wj hops) ?_;intro a w hE hd hs hold hnew;rw[wG hs,hd];exact hQ (fun d=>a.eval (.tmp d)) w hE hold hnew
end
section
variable {P:Program} {md:Region.Mode} {ops:Array Oper} {Q:Exit→Act→World→Prop} {Φ:List (Value→World→Prop)} {a0:Act} {w0:World}
theorem Qw {R:Nat→Oper→Prop} {m:Nat} (k:Nat) (o0:Oper) (hk:m≤k):∀i o,([o0].toArray)[i]?=some o→k+i<m→R (k+i) o:=by intro i o _ h;omega
theorem bY {R:Nat→Oper→Prop} {m:Nat} {o0:Oper} {l:List Oper} (k:Nat) (h0:R k o0) (h:∀i o,l.toArray[i]?=some o→k+1+i<m→R (k+1+i) o):∀i o,(o0::l).toArray[i]?=some o→k+i<m→R (k+i) o:=by
 intro i o hi hlt
 cases i with
 | zero=>simp at hi;subst hi;exact h0
 | succ i=>
  have:=h i o (by simpa using hi) (by omega);rwa [show k+1+i=k+(i+1) by omega]at this
theorem IC {R:Nat→Oper→Prop} {m:Nat} {ops:Array Oper} (h:∀i o,ops[i]?=some o→0+i<m→R (0+i) o):∀i o,ops[i]?=some o→i<m→R i o:=by intro i o hi hlt;have:=h i o hi (by omega);rwa [atT]at this
theorem xN {o:Oper} {a:Act} {w w':World} {K:Act→World→Prop} (h:(execOp a.eval o).run P w=.ok .skip w') (hk:K (a.put o.dst undef) w'):Oper.wp P o a w K Q:=by unfold Oper.wp;rw[h];exact hk
end
section
variable {P:Program} {md:Region.Mode} {ops:Array Oper} {Q:Exit→Act→World→Prop} {Φ:List (Value→World→Prop)} {a0:Act} {w0:World}
end
def VH (md:Region.Mode) (ops:Array Oper) (D:List Nat) (p j i:Nat):Bool:=!D.contains i||j==p||dO md ops p j
def AnyW (φ:Value→World→Prop):Prop:=∀v w w',φ v w→φ v w'
theorem any_eq (x:Value):AnyW (fun v _=>v=x):=fun _ _ _ h=>h
def Y8 (md:Region.Mode) (ops:Array Oper) (D:List Nat) (p:Nat):Nat→List (Value→World→Prop)→Prop
 | _,[]=>True
 | k,φ::l=>((k==p||dO md ops k p||D.contains k)=true∨AnyW φ)∧Y8 md ops D p (k+1) l
theorem II {md:Region.Mode} {ops:Array Oper} {D:List Nat} {p:Nat}:∀(Φ:List (Value→World→Prop)) (k:Nat),Y8 md ops D p k Φ→∀i,(k+i==p||dO md ops (k+i) p||D.contains (k+i))=false→AnyW (b_ Φ i)
 | [],_,_,i,_=>fun _ _ _ _=>trivial
 | φ::l,k,h,0,hn=>by rcases h.1 with h1|h1;rw[atW,h1]at hn;cases hn;exact h1
 | φ::l,k,h,i+1,hn=>II l (k+1) h.2 i (by rwa [show k+1+i=k+(i+1) by omega])
section
variable {P:Program} {md:Region.Mode} {ops:Array Oper} {Q:Exit→Act→World→Prop} {Φ:List (Value→World→Prop)} {a0:Act} {w0:World} {D:List Nat} {p:Nat}
def oC (w0:World) (p i:Nat) (w w':World):Prop:=if i=p then Ev w0 w' else Ev w w'
structure Y9 (md:Region.Mode) (ops:Array Oper) (Φ:List (Value→World→Prop)) (a0:Act) (w0:World) (D:List Nat) (p i:Nat) (a:Act) (w:World):Prop where
 ev:Ev w0 w
 old:∀d,later md ops i d=true→a.eval (.tmp d)=a0.eval (.tmp d)
 new:∀(j:Nat) (d:Tmp) (_:dO md ops i j=true:=by kernel_rfl) (_:dD ops j=some d:=by kernel_rfl) (_:VH md ops D p i j=true:=by kernel_rfl),b_ Φ j (a.eval (.tmp d)) w
theorem Y9.was {i:Nat} {a:Act} {w:World} (c:Y9 md ops Φ a0 w0 D p i a w) (d:Nat) {v:Value} (hv:a0.eval (.tmp d)=v) (h:later md ops i d=true:=by kernel_rfl):a.eval (.tmp d)=v:=(c.old d h).trans hv
def VI (P:Program) (md:Region.Mode) (ops:Array Oper) (Q:Exit→Act→World→Prop) (Φ:List (Value→World→Prop)) (a0:Act) (w0:World) (D:List Nat) (p i:Nat) (o:Oper):Prop:=
 ∀(a:Act) (w:World),Y9 md ops Φ a0 w0 D p i a w→
  ∀K:Act→World→Prop,(∀v w',oC w0 p i w w'→b_ Φ i v w'→K (a.put o.dst v) w')→
  if Region.wanted o (yielded ops a.tmps)=true then Oper.wp P o a w K Q else K (a.put o.dst undef) w
structure abM (md:Region.Mode) (ops:Array Oper) (Φ:List (Value→World→Prop)) (a0:Act) (w0:World) (D:List Nat) (p:Nat) (listed:Array Bool) (a:Act) (w:World):Prop where
 size:listed.size=ops.size
 ev:Ev w0 w
 defers:a.defers=a0.defers
 slots:a.tmps.size=a0.tmps.size
 closed:∀i j,listed.getD i false=true→dO md ops i j=true→listed.getD j false=true
 keep:∀d,(∀i,listed.getD i false=true→dD ops i≠some d)→a.eval (.tmp d)=a0.eval (.tmp d)
 done:∀i d,listed.getD i false=true→dD ops i=some d→(listed.getD p false=false∨i=p∨D.contains i=false)→b_ Φ i (a.eval (.tmp d)) w
theorem abM.step (ht:tidy md ops a0.tmps.size=true) (hm:kF Φ) (hd:Y8 md ops D p 0 Φ) {listed:Array Bool} {a:Act} {w w':World} (h:abM md ops Φ a0 w0 D p listed a w) {i:Nat} {o:Oper} (ho:ops[i]?=some o)
  (hr:i∈Region.ready md ops listed) {v:Value} (vV:listed.getD i false=false) (hE:oC w0 p i w w') (hv:b_ Φ i v w'):abM md ops Φ a0 w0 D p (listed.setIfInBounds i true) (a.put o.dst v) w':=by
 have hi:i<ops.size:=(atC.1 ho).1;have D6:dD ops i=o.dst:=by simp[dD,ho]
 have hset:∀j,(listed.setIfInBounds i true).getD j false=true→j=i∨listed.getD j false=true:=by exact ax3
 refine⟨by simpa using h.size,?_,by rw[xC];exact h.defers,by rw[size_put];exact h.slots,?_,?_,?_⟩;unfold oC at hE;split at hE;exact hE;exact h.ev.trans hE;exact av';exact axg;intro j d hj hdd hlive;by_cases hji:j=i;subst hji;rw[D6]at hdd;rw[hdd];have hsz:=(jV ht (by rw[D6];exact hdd)).1;rw[eval_put_same (by rw[h.slots];exact hsz)];exact hv;have hj':listed.getD j false=true:=(hset j hj).resolve_left hji;have hne:o.dst≠some d:=by rw[←D6];exact (jV ht hdd).2 i (fun e=>hji e.symm)
 rw[dU hne];by_cases Za:i=p;subst Za;have aeh:D.contains j=false:=by rcases hlive with h1|h1|h1;rw[show (listed.setIfInBounds i true).getD i false=true by simp[h.size,hi]]at h1;cases h1;exact absurd h1 hji;exact h1
 have hnp:dO md ops j i=false:=by
  cases hpm:dO md ops j i
  rfl;have:=h.closed j i hj' hpm;rw[vV]at this;cases this
 refine II Φ 0 hd j ?_ _ _ _ (h.done j d hj' hdd (.inl vV));rw[atT,hnp,aeh];simp[hji];have Wl:Ev w w':=by unfold oC at hE;rwa [if_neg Za]at hE
 refine lT Φ hm j _ _ _ Wl (h.done j d hj' hdd ?_);rcases hlive with h1|h1|h1;rw[getD_set_ne false Za]at h1;exact .inl h1;exact .inr (.inl h1);exact .inr (.inr h1)
theorem Qz (ht:tidy md ops a0.tmps.size=true) (hm:kF Φ) (hd:Y8 md ops D p 0 Φ) {m:Nat} {om:Oper} (Zb:ops[m]?=some om) (hsz:ops.size=m+1) (hall:(List.range m).all (fun j=>dO md ops m j||(List.range m).any (fun k=>dO md ops m k&&dO md ops k j))=true)
  (hops:∀i o,ops[i]?=some o→i<m→VI P md ops Q Φ a0 w0 D p i o)
  (hQ:∀a w,Ev w0 w→a.defers=a0.defers→a.tmps.size=a0.tmps.size→(∀d,nobody ops d=true→a.eval (.tmp d)=a0.eval (.tmp d))→
   (∀i d,i<m→(i==p||!D.contains i)=true→dD ops i=some d→b_ Φ i (a.eval (.tmp d)) w)→
   Region.wanted om (yielded ops a.tmps)=true∧Oper.wp P om a w (Q .normal) Q):
  ∀(fuel:Nat) (listed:Array Bool) (a:Act) (w:World),fC listed ops.size≤fuel→listed.getD m false=false→abM md ops Φ a0 w0 D p listed a w→wpAny P md ops Q fuel listed a w:=by
 have abN:m<ops.size:=by omega
 intro fuel
 induction fuel with
 | zero=>
  intro listed a w hu hml h;exfalso;have:fC listed ops.size=0:=by omega
  unfold fC at this;rw[auS]at this;exact this m (aut.2 abN) (by rw[hml];rfl)
 | succ fuel ih=>
  intro listed a w hu hml h;refine⟨fun hr=>?_,fun i hi=>?_⟩;have:=tV ht h.size hr m abN;rw[hml]at this
  cases this
  obtain⟨h0,o,ho,hbef⟩:=mem_ready.1 hi;have hlt:i<ops.size:=(atC.1 ho).1;have hl:i<listed.size:=by rw[h.size];exact hlt
  have vV:listed.getD i false=false:=by simpa[hl] using h0
  by_cases DW:i=m;subst DW;rw[Zb]at ho;obtain rfl:=aui ho;have hdone:∀j,j<i→listed.getD j false=true:=by
   intro j hj;have agC:∀k,dO md ops i k=true→listed.getD k false=true:=fun k hp=>by unfold dO at hp;simp only[Zb]at hp;obtain⟨e,he,hb⟩:=auF.1 hp;simp only[atu,atH]at hb;rw[←hb.2];exact hbef e he hb.1
   have hp:=(atL.1 hall) j (aut.2 hj);rcases atZ _ _▸hp with h1|h1;exact agC j h1;obtain⟨k,_,hk⟩:=auM.1 h1;rw[atu]at hk;exact h.closed k j (agC k hk.1) hk.2
  obtain⟨hw,hwp⟩:=hQ a w h.ev h.defers h.slots (fun d hd=>h.keep d fun j hj AU=>by
    have AV:j<ops.size:=by
     unfold dD at AU
     cases NT:ops[j]? with
     | none=>simp[NT]at AU
     | some o=>exact (atC.1 NT).1
    have:=(atL.1 hd) j (aut.2 AV);simp[AU]at this) (fun j d hj hlv hd=>h.done j d (hdone j hj) hd (by
     simp only[atZ,atH,auV]at hlv;exact .inr hlv))
  refine wpOp_step Zb fun K' hK'=>?_;rw[if_pos hw];refine Oper.wp_mono (fun a' w' hq=>hK' a' w' (wpAny_done ?_ hq fuel)) hwp;apply auT.2;intro j hj;obtain⟨hj0,oj,NT,_⟩:=mem_ready.1 hj;have AV:j<ops.size:=(atC.1 NT).1;have Yl:j<(listed.setIfInBounds i true).size:=by simp[h.size,AV]
  have hjt:(listed.setIfInBounds i true).getD j false=true:=by by_cases hji:j=i;subst hji;simp[hl];exact getD_set_true (hdone j (by omega))
  simp only[Array.getD_eq_getD_getElem?,auY Yl,Option.getD_some]at hj0 hjt;rw[hj0]at hjt
  cases hjt
  have hcount:=nZ h.size hlt vV;have hpre:∀j,dO md ops i j=true→listed.getD j false=true:=fun j hp=>by unfold dO at hp;simp only[ho]at hp;obtain⟨e,he,hb⟩:=auF.1 hp;simp only[atu,atH]at hb;rw[←hb.2];exact hbef e he hb.1
  refine wpOp_step ho fun K' hK'=>?_;refine hops i o ho (by omega) a w ⟨h.ev,fun d hd=>h.keep d fun j hj AU=>?_,fun j d hp hd hav=>?_⟩ K' (fun v w' hE hv=>hK' _ _ (ih _ _ _ (by omega) ?_ (h.step ht hm hd ho hi vV hE hv)));exact av_;refine h.done j d (hpre j hp) hd ?_
  cases hpl:listed.getD p false with
  | false=>exact .inl rfl
  | true=>
   refine .inr ?_;unfold VH at hav
   cases hdd:D.contains j with
   | false=>exact .inr rfl
   | true=>
    exfalso;rw[hdd]at hav;simp only[Bool.not_true,Bool.false_or,atZ,atH]at hav;rcases hav with h1|h1;subst h1;rw[vV]at hpl;cases hpl;have:=h.closed p i hpl h1;rw[vV]at this;cases this
  rw[getD_set_ne false DW];exact hml
theorem yz {id:Nat} (fJ:P.follows .mixedOrders=true) (D:List Nat) (p:Nat) (Φ:List (Value→World→Prop)) (n:Nat) (hn:a0.tmps.size=n) (m:Nat) (om:Oper) (Zb:ops[m]?=some om) (hsz:ops.size=m+1)
  (hall:(List.range m).all (fun j=>dO .any ops m j||(List.range m).any (fun k=>dO .any ops m k&&dO .any ops k j))=true) (ht:tidy .any ops n=true) (hm:kF Φ) (hdd:Y8 .any ops D p 0 Φ)
  (hops:∀i o,ops[i]?=some o→i<m→VI P .any ops Q Φ a0 w0 D p i o)
  (hQ:∀(s:Nat→Value) w,Ev w0 w→(∀(d:Tmp) (_:nobody ops d=true:=by kernel_rfl),s d=a0.eval (.tmp d))→(∀i d,i<m→(i==p||!D.contains i)=true→dD ops i=some d→b_ Φ i (s d) w)→
   Region.wanted om (yielded ops ((List.range n).map s).toArray)=true∧Oper.wp P om ⟨((List.range n).map s).toArray,a0.defers⟩ w (Q .normal) Q):
  (Code.region id ops true).wp P Q a0 w0:=by
 subst hn;refine wp_region_any fJ (Qz ht hm hdd Zb hsz hall hops ?_ ops.size _ _ _ ?_ ?_ ⟨by simp,?_,rfl,rfl,?_,fun _ _=>rfl,?_⟩);intro a w hE hd hs hold hnew;have hf:=wG hs;rw[hd]at hf;have hq:=hQ (fun d=>a.eval (.tmp d)) w hE hold hnew;rw[hf];rw[←hf]at hq⊢;exact⟨by have:=hq.1;rwa [show ((List.range a0.tmps.size).map fun d=>a.eval (.tmp d)).toArray=a.tmps from (congrArg Act.tmps hf).symm]at this,hq.2⟩;unfold fC;exact atP au6 (by simp);have hlt:m<ops.size:=by omega
 simp[hlt];exact⟨rfl,rfl,rfl,att _,fun _ _=>rfl⟩;exact ayt;exact ayu
theorem dN {i:Nat} {o:Oper} (hi:i≠p) (h:∀a w,Y9 md ops Φ a0 w0 D p i a w→Region.wanted o (yielded ops a.tmps)=true∧∃v,(execOp a.eval o).run P w=.ok (.value v) w∧b_ Φ i v w):VI P md ops Q Φ a0 w0 D p i o:=by intro a w c L hL;obtain⟨hw,v,hr,hv⟩:=h a w c;rw[if_pos hw];unfold Oper.wp;rw[hr];exact hL v w (by unfold oC;rw[if_neg hi];exact Ev.refl w) hv
theorem nR {i:Nat} {o:Oper} (h:∀a w,Y9 md ops Φ a0 w0 D p i a w→Region.wanted o (yielded ops a.tmps)=true∧∃v w',(execOp a.eval o).run P w=.ok (.value v) w'∧oC w0 p i w w'∧b_ Φ i v w'):VI P md ops Q Φ a0 w0 D p i o:=by intro a w c L hL;obtain⟨hw,v,w',hr,Wl,hv⟩:=h a w c;rw[if_pos hw];unfold Oper.wp;rw[hr];exact hL v w' Wl hv
end
section
variable {P:Program} {md:Region.Mode} {ops:Array Oper} {Q:Exit→Act→World→Prop} {Φ:List (Value→World→Prop)} {a0:Act} {w0:World} {J:World→World→Prop} {m dm:Nat} {Ψ:Value→World→Prop}
end
section
variable {P:Program} {md:Region.Mode} {ops:Array Oper} {Q:Exit→Act→World→Prop} {Φ:List (Value→World→Prop)} {a0:Act} {J:World→World→Prop} {I:World→Prop} {ms:List Nat} {St:Nat→World→Prop}
def reachC (md:Region.Mode) (ops:Array Oper):Nat→Nat→Nat→Bool
 | 0,i,j=>dO md ops i j
 | n+1,i,j=>dO md ops i j||(List.range ops.size).any fun x=>dO md ops i x&&reachC md ops n x j
def chainC (md:Region.Mode) (ops:Array Oper):List Nat→Bool
 | []=>true
 | [_]=>true
 | a::b::l=>reachC md ops 3 b a&&decide (a<b)&&chainC md ops (b::l)
def zJ (J:World→World→Prop):List (Value→World→Prop)→Prop
 | []=>True
 | φ::l=>(∀v w w',J w w'→φ v w→φ v w')∧zJ J l
theorem Dl:∀(Φ:List (Value→World→Prop)),zJ J Φ→∀i v w w',J w w'→b_ Φ i v w→b_ Φ i v w'
 | [],_,i=>fun _ _ _ _ _=>trivial
 | φ::l,h,0=>h.1
 | φ::l,h,i+1=>Dl l h.2 i
structure EI (md:Region.Mode) (ops:Array Oper) (Φ:List (Value→World→Prop)) (a0:Act) (I:World→Prop) (i:Nat) (a:Act) (w:World):Prop where
 inv:I w
 old:∀d,later md ops i d=true→a.eval (.tmp d)=a0.eval (.tmp d)
 new:∀(j:Nat) (d:Tmp) (_:dO md ops i j=true:=by kernel_rfl) (_:dD ops j=some d:=by kernel_rfl),b_ Φ j (a.eval (.tmp d)) w
theorem EI.was {i:Nat} {a:Act} {w:World} (c:EI md ops Φ a0 I i a w) (d:Nat) {v:Value} (hv:a0.eval (.tmp d)=v) (h:later md ops i d=true:=by kernel_rfl):a.eval (.tmp d)=v:=(c.old d h).trans hv
theorem EI.got {i:Nat} {a:Act} {w:World} (c:EI md ops Φ a0 I i a w) (j d:Nat) {φ:Value→World→Prop} (h:dO md ops i j=true) (hd:dD ops j=some d) (hφ:b_ Φ j=φ):φ (a.eval (.tmp d)) w:=hφ▸c.new j d h hd
def Nh (P:Program) (md:Region.Mode) (ops:Array Oper) (Q:Exit→Act→World→Prop) (Φ:List (Value→World→Prop)) (a0:Act) (I:World→Prop) (i:Nat) (o:Oper):Prop:=
 ∀(a:Act) (w:World),EI md ops Φ a0 I i a w→∀K:Act→World→Prop,(∀v w',Ev w w'→I w'→b_ Φ i v w'→K (a.put o.dst v) w')→
  if Region.wanted o (yielded ops a.tmps)=true then Oper.wp P o a w K Q else K (a.put o.dst undef) w
def Nj (P:Program) (md:Region.Mode) (ops:Array Oper) (Q:Exit→Act→World→Prop) (Φ:List (Value→World→Prop)) (a0:Act) (I:World→Prop) (J:World→World→Prop) (St:Nat→World→Prop) (p i:Nat) (o:Oper):Prop:=
 ∀(a:Act) (w:World),EI md ops Φ a0 I i a w→St p w→∀K:Act→World→Prop,(∀v w',J w w'→I w'→St (p+1) w'→b_ Φ i v w'→K (a.put o.dst v) w')→
  if Region.wanted o (yielded ops a.tmps)=true then Oper.wp P o a w K Q else K (a.put o.dst undef) w
def gG (listed:Array Bool) (ms:List Nat):Nat:=ms.countP fun i=>listed.getD i false
structure Uz (md:Region.Mode) (ops:Array Oper) (Φ:List (Value→World→Prop)) (a0:Act) (I:World→Prop) (ms:List Nat) (St:Nat→World→Prop) (listed:Array Bool) (a:Act) (w:World):Prop where
 size:listed.size=ops.size
 inv:I w
 defers:a.defers=a0.defers
 slots:a.tmps.size=a0.tmps.size
 closed:∀i j,listed.getD i false=true→dO md ops i j=true→listed.getD j false=true
 keep:∀d,(∀i,listed.getD i false=true→dD ops i≠some d)→a.eval (.tmp d)=a0.eval (.tmp d)
 done:∀i d,listed.getD i false=true→dD ops i=some d→b_ Φ i (a.eval (.tmp d)) w
 st:St (gG listed ms) w
theorem gZ {listed:Array Bool} (hc:∀i j,listed.getD i false=true→dO md ops i j=true→listed.getD j false=true):∀(n i j:Nat),reachC md ops n i j=true→listed.getD i false=true→listed.getD j false=true
 | 0,i,j,h,hl=>hc i j hl h
 | n+1,i,j,h,hl=>by unfold reachC at h;rw[atZ]at h;rcases h with h|h;exact hc i j hl h;obtain⟨x,_,hx⟩:=auM.1 h;rw[atu]at hx;exact gZ hc n x j hx.2 (hc i x hl hx.1)
theorem yf:∀{a:Nat} {l:List Nat},chainC md ops (a::l)=true→chainC md ops l=true
 | a,[],_=>rfl
 | a,b::l,h=>by unfold chainC at h;rw[atu]at h;exact h.2
theorem yg {listed:Array Bool} (hc:∀i j,listed.getD i false=true→dO md ops i j=true→listed.getD j false=true):∀(a:Nat) (l:List Nat),chainC md ops (a::l)=true→listed.getD a false=false→gG listed (a::l)=0
 | a,[],_,h=>by unfold gG;rw[avc (by rw[h];exact au5)];rfl
 | a,b::l,hch,h=>by
  have UA:=hch;unfold chainC at UA;rw[atu,atu]at UA;have hb:listed.getD b false=false:=by
   cases hb:listed.getD b false
   rfl;have:=gZ hc 3 b a UA.1.1 hb;rw[h]at this;cases this
  have:=yg hc b l UA.2 hb;unfold gG at this⊢;rw[avc (by rw[h];exact au5)];exact this
theorem QV:∀(l:List Nat) (a:Nat),chainC md ops (a::l)=true→∀x∈l,a<x
 | [],a,_,x,hx=>by cases hx
 | b::l,a,h,x,hx=>by have h2:=h;unfold chainC at h2;rw[atu,atu]at h2;have hab:=au1 h2.1.2;rcases atA.1 hx with rfl|hx;exact hab;exact Nat.lt_trans hab (QV l b h2.2 x hx)
theorem Dn {listed:Array Bool} (hc:∀i j,listed.getD i false=true→dO md ops i j=true→listed.getD j false=true):∀(ms:List Nat) (p i:Nat),chainC md ops ms=true→ms[p]?=some i→listed.getD i false=false→(∀j n,reachC md ops n i j=true→i≠j→listed.getD j false=true)→gG listed ms=p
 | [],p,i,_,h,_,_=>by simp at h
 | [a],0,i,hch,h,hl,_=>by simp at h;subst h;exact yg hc a [] hch hl
 | [a],p+1,i,hch,h,hl,_=>by simp at h
 | a::b::l,0,i,hch,h,hl,_=>by simp at h;subst h;exact yg hc a (b::l) hch hl
 | a::b::l,p+1,i,hch,h,hl,hd=>by
  have UA:=yf hch;have ih:=Dn hc (b::l) p i UA (by simpa using h) hl hd;have Iw:listed.getD a false=true:=by
   have hh:=hch;unfold chainC at hh;rw[atu,atu]at hh
   cases p with
   | zero=>
    simp at h;subst h;exact hd a 3 hh.1.1 (by have:=au1 hh.1.2;omega)
   | succ p=>
    have hbl:listed.getD b false=true:=by
     cases hbl:listed.getD b false
     have:=yg hc b l UA hbl;rw[this]at ih;cases ih;rfl
    exact gZ hc 3 b a hh.1.1 hbl
  unfold gG at ih⊢;rw[List.countP_cons_of_pos (p:=fun i=>listed.getD i false) Iw,ih]
theorem wW {listed:Array Bool} {i:Nat} (hi:i<listed.size):∀ms:List Nat,i∉ms→gG (listed.setIfInBounds i true) ms=gG listed ms
 | [],_=>rfl
 | a::l,h=>by have hne:i≠a:=fun e=>h (e▸atz ..);have ih:=wW hi l fun hm=>h (aty _ hm);unfold gG at ih⊢;rw[List.countP_cons,List.countP_cons,ih,getD_set_ne false hne]
theorem qY {listed:Array Bool} {i:Nat} (hi:i<listed.size) (vV:listed.getD i false=false):∀ms:List Nat,ms.Pairwise (·<·)→i∈ms→gG (listed.setIfInBounds i true) ms=gG listed ms+1
 | [],_,h=>by cases h
 | a::l,hp,h=>by rw[List.pairwise_cons]at hp;rcases atA.1 h with e|h;subst e;have hnm:i∉l:=fun hm=>Nat.lt_irrefl _ (hp.1 i hm);have:=wW hi l hnm;unfold gG at this⊢;rw[List.countP_cons_of_pos (by simp[hi]),avc (by rw[vV];exact au5),this];have hne:i≠a:=fun e=>Nat.lt_irrefl _ (hp.1 a (e▸h));have ih:=qY hi vV l hp.2 h;unfold gG at ih⊢;rw[List.countP_cons,List.countP_cons,ih,getD_set_ne false hne];omega
theorem oK:∀ms:List Nat,chainC md ops ms=true→ms.Pairwise (·<·)
 | [],_=>List.Pairwise.nil
 | a::l,h=>List.pairwise_cons.2 ⟨QV l a h,oK l (yf h)⟩
theorem Uz.step (ht:tidy md ops a0.tmps.size=true) {listed:Array Bool} {a:Act} {w w':World} (h:Uz md ops Φ a0 I ms St listed a w) {i:Nat} {o:Oper} (ho:ops[i]?=some o)
  (hr:i∈Region.ready md ops listed) {v:Value} (hI:I w') (hkeep:∀j d,listed.getD j false=true→dD ops j=some d→b_ Φ j (a.eval (.tmp d)) w') (hv:b_ Φ i v w') (hst:St (gG (listed.setIfInBounds i true) ms) w'):Uz md ops Φ a0 I ms St (listed.setIfInBounds i true) (a.put o.dst v) w':=by
 have hi:i<ops.size:=(atC.1 ho).1;have D6:dD ops i=o.dst:=by simp[dD,ho]
 have hset:∀j,(listed.setIfInBounds i true).getD j false=true→j=i∨listed.getD j false=true:=by exact ax3
 refine⟨by simpa using h.size,hI,by rw[xC];exact h.defers,by rw[size_put];exact h.slots,?_,?_,?_,hst⟩;exact av';exact axg;intro j d hj hd;rcases hset j hj with rfl|hj';exact axI;by_cases AX:j=i;exact axy;have hne:o.dst≠some d:=by rw[←D6];exact (jV ht hd).2 i (fun e=>AX e.symm)
 rw[dU hne];exact hkeep j d hj' hd
theorem av6 {P:Prop} (h:P:=by
 have:gG listed ms=gG ((Array.range ops.size).map fun _=>true) ms:=by
  unfold gG;refine List.countP_congr fun i _=>?_;by_cases hi:i<ops.size;rw[hall i hi];simp[hi];have h1:listed.getD i false=false:=by
   have:¬i<listed.size:=by rw[h.size];exact hi
   simp[this]
  rw[h1];simp[hi]
 rw[←this];exact h.st):P:=h
theorem avT {P:Prop} (h:P:=by refine⟨h.inv,fun d hd=>h.keep d fun j hj AU=>?_,fun j d hp hd=>h.done j d (hpl j hp) hd⟩;exact av_):P:=h
theorem aw7 {P:Prop} (h:P:=by unfold reachC at y7;rw[atZ]at y7;rcases y7 with y7|y7;exact hpl j y7;obtain⟨x,_,hx⟩:=auM.1 y7;rw[atu]at hx;exact gZ h.closed n x j hx.2 (hpl x hx.1)):P:=h
theorem UB (ht:tidy md ops a0.tmps.size=true) (hm:kF Φ) (hJ:zJ J Φ) (hch:chainC md ops ms=true) (UC:∀p w w',Ev w w'→St p w→St p w')
  (hops:∀i o,ops[i]?=some o→i∉ms→Nh P md ops Q Φ a0 I i o) (Jm:∀p i o,ms[p]?=some i→ops[i]?=some o→Nj P md ops Q Φ a0 I J St p i o)
  (hQ:∀a w,I w→a.defers=a0.defers→a.tmps.size=a0.tmps.size→(∀d,nobody ops d=true→a.eval (.tmp d)=a0.eval (.tmp d))→
   (∀i d,dD ops i=some d→b_ Φ i (a.eval (.tmp d)) w)→St (gG ((Array.range ops.size).map fun _=>true) ms) w→Q .normal a w):
  ∀(fuel:Nat) (listed:Array Bool) (a:Act) (w:World),fC listed ops.size≤fuel→Uz md ops Φ a0 I ms St listed a w→wpAny P md ops Q fuel listed a w:=by
 have fin:∀(listed:Array Bool) (a:Act) (w:World),Region.ready md ops listed=[]→Uz md ops Φ a0 I ms St listed a w→Q .normal a w:=by intro listed a w hr h;have hall:=tV ht h.size hr;refine hQ a w h.inv h.defers h.slots (fun d hd=>h.keep d fun i hi hid=>?_) (fun i d hd=>h.done i d (hall i ?_) hd) ?_;exact aw3;exact ax7;exact av6
 intro fuel
 induction fuel with
 | zero=>
  intro listed a w hu h;have hr:Region.ready md ops listed=[]:=by exact awj
  exact⟨hr,fin listed a w hr h⟩
 | succ fuel ih=>
  intro listed a w hu h;refine⟨fun hr=>fin listed a w hr h,fun i hi=>?_⟩;obtain⟨h0,o,ho,hall⟩:=mem_ready.1 hi;have hlt:i<ops.size:=(atC.1 ho).1;have hl:i<listed.size:=by rw[h.size];exact hlt
  have vV:listed.getD i false=false:=by simpa[hl] using h0
  have hcount:=nZ h.size hlt vV;have hpl:∀j,dO md ops i j=true→listed.getD j false=true:=fun j hp=>by exact axz
  have LU:EI md ops Φ a0 I i a w:=by exact avT
  refine wpOp_step ho fun K' hK'=>?_;by_cases DW:i∈ms;obtain⟨p,hp⟩:=auO DW;have VE:gG listed ms=p:=Dn h.closed ms p i hch hp vV fun j n y7 AX=>by
   cases n with
   | zero=>exact hpl j y7
   | succ n=>
    exact aw7
  have hst:St p w:=VE▸h.st;refine Jm p i o hp ho a w LU hst K' fun v w' hJw hI' UD hv=>hK' _ _ (ih _ _ _ (by omega) (h.step ht ho hi hI' (fun j d hj hd=>Dl Φ hJ j _ _ _ hJw (h.done j d hj hd)) hv ?_));rw[qY hl vV ms (oK ms hch) DW,VE];exact UD;refine hops i o ho DW a w LU K' fun v w' hE hI' hv=>hK' _ _ (ih _ _ _ (by omega) (h.step ht ho hi hI' (fun j d hj hd=>lT Φ hm j _ _ _ hE (h.done j d hj hd)) hv ?_));rw[wW hl ms DW];exact UC _ _ _ hE h.st
theorem aw8 {P:Prop} (h:P:=by
 have:gG (Array.replicate ops.size false) ms=0:=by unfold gG;rw[auS];intro i _;by_cases hlt:i<ops.size<;>simp[hlt]
 rw[this];exact UC _ _ _ (Ev.drew w0) hS):P:=h
theorem iW {id:Nat} {w0:World} (fJ:P.follows .mixedOrders=true) (I:World→Prop) (J:World→World→Prop) (ms:List Nat) (St:Nat→World→Prop) (Φ:List (Value→World→Prop)) (n q:Nat) (hn:a0.tmps.size=n) (ht:tidy .any ops n=true) (hm:kF Φ) (hJ:zJ J Φ) (hch:chainC .any ops ms=true) (UC:∀p w w',Ev w w'→St p w→St p w') (hIE:∀w w',Ev w w'→I w→I w')
  (hI:I w0) (hS:St 0 w0) (hq:gG ((Array.range ops.size).map fun _=>true) ms=q)
  (hops:∀i o,ops[i]?=some o→0+i∉ms→Nh P .any ops Q Φ a0 I (0+i) o) (Jm:∀p i o,ms[p]?=some i→ops[i]?=some o→Nj P .any ops Q Φ a0 I J St (0+p) i o)
  (hQ:∀(s:Nat→Value) w,I w→(∀(d:Tmp) (_:nobody ops d=true:=by kernel_rfl),s d=a0.eval (.tmp d))→
   (∀(i:Nat) (d:Tmp) (_:dD ops i=some d:=by kernel_rfl),b_ Φ i (s d) w)→St q w→Q .normal ⟨((List.range n).map s).toArray,a0.defers⟩ w):
  (Code.region id ops true).wp P Q a0 w0:=by
 subst hn;subst hq;refine wp_region_any fJ (UB ht hm hJ hch UC (fun i o ho hi=>by have:=hops i o ho (by rwa [atT]);rwa [atT]at this) (fun p i o hp ho=>by have:=Jm p i o hp ho;rwa [atT]at this) ?_ ops.size _ _ _ ?_ ⟨by simp,hIE _ _ (Ev.drew w0) hI,rfl,rfl,?_,fun _ _=>rfl,?_,?_⟩);intro a w hE hd hs hold hnew hp;rw[wG hs,hd];exact hQ (fun d=>a.eval (.tmp d)) w hE hold hnew hp;unfold fC;exact atP au6 (by simp);exact ayt;exact ayu;exact aw8
theorem axC {P:Prop} (h:P:=by intro a w c K hK;obtain⟨hw,v,hr,hv⟩:=h a w c;rw[if_pos hw];unfold Oper.wp;rw[hr];exact hK v w (Ev.refl w) c.inv hv):P:=h
theorem aO {i:Nat} {o:Oper} (h:∀a w,EI md ops Φ a0 I i a w→Region.wanted o (yielded ops a.tmps)=true∧∃v,(execOp a.eval o).run P w=.ok (.value v) w∧b_ Φ i v w):Nh P md ops Q Φ a0 I i o:=by exact axC
theorem axD {P:Prop} (h:P:=by intro a w c K hK;obtain⟨hw,v,w',hr,Wl,hI',hv⟩:=h a w c;rw[if_pos hw];unfold Oper.wp;rw[hr];exact hK v w' Wl hI' hv):P:=h
theorem Nk {i:Nat} {o:Oper} (h:∀a w,EI md ops Φ a0 I i a w→Region.wanted o (yielded ops a.tmps)=true∧∃v w',(execOp a.eval o).run P w=.ok (.value v) w'∧Ev w w'∧I w'∧b_ Φ i v w'):Nh P md ops Q Φ a0 I i o:=by exact axD
theorem l9 {p i:Nat} {o:Oper} (h:∀a w,EI md ops Φ a0 I i a w→St p w→Region.wanted o (yielded ops a.tmps)=true∧∃f args,(execOp a.eval o).run P w=.ok (.enter f args) w∧
  Calls P f args w fun e w'=>∃v,e=.returned v∧J w w'∧I w'∧St (p+1) w'∧b_ Φ i v w'):Nj P md ops Q Φ a0 I J St p i o:=by
 intro a w c hst K hK;obtain⟨hw,f,args,hr,hc⟩:=h a w c hst;rw[if_pos hw];unfold Oper.wp;rw[hr];refine hc.mono ?_;rintro e w' ⟨v,rfl,h1,h2,h3,h4⟩;exact hK v w' h1 h2 h3 h4
theorem tJ {p i:Nat} {o:Oper} (hd:o.dst=none) (h:∀a w,EI md ops Φ a0 I i a w→St p w→Region.wanted o (yielded ops a.tmps)=true∧∃w',(execOp a.eval o).run P w=.ok .skip w'∧J w w'∧I w'∧St (p+1) w'∧b_ Φ i undef w'):Nj P md ops Q Φ a0 I J St p i o:=by intro a w c hst K hK;obtain⟨hw,w',hr,h1,h2,h3,h4⟩:=h a w c hst;rw[if_pos hw];exact xN hr (hK undef w' h1 h2 h3 h4)
theorem axO {P:Prop} (h:P:=by have:=h i o (by simpa using hi) (by rwa [show k+1+i=k+(i+1) by omega]);rwa [show k+1+i=k+(i+1) by omega]at this):P:=h
theorem aI {R:Nat→Oper→Prop} {ms:List Nat} {o0:Oper} {l:List Oper} (k:Nat) (h0:R k o0) (h:∀i o,l.toArray[i]?=some o→k+1+i∉ms→R (k+1+i) o):∀i o,(o0::l).toArray[i]?=some o→k+i∉ms→R (k+i) o:=by
 intro i o hi hlt
 cases i with
 | zero=>simp at hi;subst hi;exact h0
 | succ i=>
  exact axO
theorem cu {R:Nat→Oper→Prop} {ms:List Nat} {o0:Oper} {l:List Oper} (k:Nat) (hk:k∈ms) (h:∀i o,l.toArray[i]?=some o→k+1+i∉ms→R (k+1+i) o):∀i o,(o0::l).toArray[i]?=some o→k+i∉ms→R (k+i) o:=by
 intro i o hi hlt
 cases i with
 | zero=>exact absurd hk hlt
 | succ i=>
  exact axO
theorem qM {R:Nat→Nat→Oper→Prop} {ops:Array Oper} (k:Nat):∀p i o,([]:List Nat)[p]?=some i→ops[i]?=some o→R (k+p) i o:=by intro p i o h;simp at h
theorem gy {R:Nat→Nat→Oper→Prop} {ops:Array Oper} {m:Nat} {ms:List Nat} {o0:Oper} (k:Nat) (ho:ops[m]?=some o0) (h0:R k m o0) (h:∀p i o,ms[p]?=some i→ops[i]?=some o→R (k+1+p) i o):∀p i o,(m::ms)[p]?=some i→ops[i]?=some o→R (k+p) i o:=by
 intro p i o hp hi
 cases p with
 | zero=>
  simp at hp;subst hp;rw[ho]at hi;obtain rfl:=aui hi;exact h0
 | succ p=>
  have:=h p i o (by simpa using hp) hi;rwa [show k+1+p=k+(p+1) by omega]at this
theorem oL {R:Nat→Oper→Prop} {ms:List Nat} (k:Nat):∀i o,(([]:List Oper).toArray)[i]?=some o→k+i∉ms→R (k+i) o:=by intro i o h;simp at h
end
section
variable {P:Program} {md:Region.Mode} {ops:Array Oper} {Q:Exit→Act→World→Prop} {Φ:List (Value→World→Prop)} {a0:Act} {J:Nat→World→World→Prop} {I:World→Prop} {ms D sp:List Nat} {B:List (List Nat)} {pD:Nat} {St:Nat→World→Prop} {G:(Nat→Bool)→Act→World→Prop}
def UE (md:Region.Mode) (ops:Array Oper) (D:List Nat) (pD i j:Nat):Bool:=!(D.contains j)||(i==pD||reachC md ops 3 pD i)
def chkB (md:Region.Mode) (ops:Array Oper):List (List Nat)→List Nat→Bool
 | b::bs,m::ms=>(b.all fun j=>j==m||reachC md ops 3 j m)&&chkB md ops bs ms
 | _,_=>true
theorem VQ {md:Region.Mode} {ops:Array Oper}:∀(bs:List (List Nat)) (ms:List Nat),chkB md ops bs ms=true→∀p i,ms[p]?=some i→((bs.getD p []).all fun j=>j==i||reachC md ops 3 j i)=true
 | [],_,_,p,i,_=>by simp
 | _::_,[],_,p,i,h=>by simp at h
 | b::bs,m::ms,h,0,i,hi=>by unfold chkB at h;rw[atu]at h;simp at hi;subst hi;exact h.1
 | b::bs,m::ms,h,p+1,i,hi=>by unfold chkB at h;rw[atu]at h;have:=VQ bs ms h.2 p i (by simpa using hi);simpa using this
def Hg (J:Nat→World→World→Prop) (D:List Nat) (B:List (List Nat)):Nat→List (Value→World→Prop)→Prop
 | _,[]=>True
 | k,φ::l=>(D.contains k=true∨∀p,(B.getD p []).contains k=true∨∀v w w',J p w w'→φ v w→φ v w')∧Hg J D B (k+1) l
theorem QW {p:Nat}:∀(Φ:List (Value→World→Prop)) (k:Nat),Hg J D B k Φ→∀i,D.contains (k+i)=false→((B.getD p []).contains (k+i)=false)→∀v w w',J p w w'→b_ Φ i v w→b_ Φ i v w'
 | [],_,_,i,_,_=>fun _ _ _ _ _=>trivial
 | φ::l,k,h,0,hd,hb=>by rcases h.1 with h1|h1;rw[atW,h1]at hd;cases hd;rcases h1 p with h2|h2;rw[atW,h2]at hb;cases hb;exact h2
 | φ::l,k,h,i+1,hd,hb=>QW l (k+1) h.2 i (by rwa [show k+1+i=k+(i+1) by omega]) (by rwa [show k+1+i=k+(i+1) by omega])
theorem BH (md:Region.Mode) (ops:Array Oper):∀(n m i x j:Nat),reachC md ops n i x=true→reachC md ops m x j=true→∃q,reachC md ops q i j=true
 | 0,m,i,x,j,h1,h2=>by
  have hx:x<ops.size∨¬x<ops.size:=Nat.lt_or_ge x ops.size |>.imp id (by omega);rcases hx with hx|hx;refine⟨m+1,?_⟩;unfold reachC;rw[atZ];right;exact auM.2 ⟨x,aut.2 hx,by rw[atu];exact⟨h1,h2⟩⟩;exfalso;have hno:∀y,dO md ops x y=false:=fun y=>by unfold dO;rw[Array.getElem?_eq_none (by omega)]
  cases m with
  | zero=>unfold reachC at h2;rw[hno]at h2;cases h2
  | succ m=>
   unfold reachC at h2;rw[hno,Bool.false_or]at h2;obtain⟨y,_,hy⟩:=auM.1 h2;rw[hno]at hy
   cases hy
 | n+1,m,i,x,j,h1,h2=>by unfold reachC at h1;rw[atZ]at h1;rcases h1 with h1|h1;exact BH md ops 0 m i x j h1 h2;obtain⟨y,hy,hyy⟩:=auM.1 h1;rw[atu]at hyy;obtain⟨q,hq⟩:=BH md ops n m y x j hyy.2 h2;refine⟨q+1,?_⟩;unfold reachC;rw[atZ];right;exact auM.2 ⟨y,hy,by rw[atu];exact⟨hyy.1,hq⟩⟩
theorem BI (md:Region.Mode) (ops:Array Oper):∀(a:Nat) (l:List Nat),chainC md ops (a::l)=true→∀i∈l,∃n,reachC md ops n i a=true
 | a,[],_,i,hi=>by cases hi
 | a,b::l,h,i,hi=>by have h2:=h;unfold chainC at h2;rw[atu,atu]at h2;rcases atA.1 hi with e|e;subst e;exact⟨3,h2.1.1⟩;obtain⟨n,hn⟩:=BI md ops b l h2.2 i e;exact BH md ops n 3 i b a hn h2.1.1
structure Dp (md:Region.Mode) (ops:Array Oper) (Φ:List (Value→World→Prop)) (a0:Act) (I:World→Prop) (D:List Nat) (pD:Nat) (i:Nat) (a:Act) (w:World):Prop where
 inv:I w
 old:∀d,later md ops i d=true→a.eval (.tmp d)=a0.eval (.tmp d)
 new:∀(j:Nat) (d:Tmp) (_:dO md ops i j=true:=by kernel_rfl) (_:dD ops j=some d:=by kernel_rfl) (_:UE md ops D pD i j=true:=by kernel_rfl),b_ Φ j (a.eval (.tmp d)) w
theorem Dp.was {i:Nat} {a:Act} {w:World} (c:Dp md ops Φ a0 I D pD i a w) (d:Nat) {v:Value} (hv:a0.eval (.tmp d)=v) (h:later md ops i d=true:=by kernel_rfl):a.eval (.tmp d)=v:=(c.old d h).trans hv
theorem Dp.got {i:Nat} {a:Act} {w:World} (c:Dp md ops Φ a0 I D pD i a w) (j d:Nat) {φ:Value→World→Prop} (h:dO md ops i j=true) (hd:dD ops j=some d) (hav:UE md ops D pD i j=true) (hφ:b_ Φ j=φ):φ (a.eval (.tmp d)) w:=hφ▸c.new j d h hd hav
def QX (P:Program) (md:Region.Mode) (ops:Array Oper) (Q:Exit→Act→World→Prop) (Φ:List (Value→World→Prop)) (a0:Act) (I:World→Prop) (D:List Nat) (pD:Nat) (i:Nat) (o:Oper):Prop:=
 ∀(a:Act) (w:World),Dp md ops Φ a0 I D pD i a w→∀K:Act→World→Prop,(∀v w',Ev w w'→I w'→b_ Φ i v w'→K (a.put o.dst v) w')→
  if Region.wanted o (yielded ops a.tmps)=true then Oper.wp P o a w K Q else K (a.put o.dst undef) w
def ZH (P:Program) (md:Region.Mode) (ops:Array Oper) (Q:Exit→Act→World→Prop) (Φ:List (Value→World→Prop)) (a0:Act) (I:World→Prop) (J:Nat→World→World→Prop) (St:Nat→World→Prop) (D:List Nat) (pD:Nat) (G:(Nat→Bool)→Act→World→Prop) (p i:Nat) (o:Oper):Prop:=
 ∀(a:Act) (w:World),Dp md ops Φ a0 I D pD i a w→St p w→(p=0→∃L:Nat→Bool,(∀j,dO md ops i j=true→L j=true)∧G L a w)→∀K:Act→World→Prop,(∀v w',J p w w'→I w'→St (p+1) w'→b_ Φ i v w'→K (a.put o.dst v) w')→
  if Region.wanted o (yielded ops a.tmps)=true then Oper.wp P o a w K Q else K (a.put o.dst undef) w
def VR (P:Program) (md:Region.Mode) (ops:Array Oper) (Q:Exit→Act→World→Prop) (Φ:List (Value→World→Prop)) (a0:Act) (I:World→Prop) (D:List Nat) (pD:Nat) (G:(Nat→Bool)→Act→World→Prop) (i:Nat) (o:Oper):Prop:=
 ∀(a:Act) (w:World) (L:Nat→Bool),Dp md ops Φ a0 I D pD i a w→a.tmps.size=a0.tmps.size→(∀j,dO md ops i j=true→L j=true)→L i=false→G L a w→∀K:Act→World→Prop,
  (∀v w',Ev w w'→I w'→b_ Φ i v w'→(∀L':Nat→Bool,L' i=true→(∀j,j≠i→L' j=L j)→G L' (a.put o.dst v) w')→K (a.put o.dst v) w')→
  if Region.wanted o (yielded ops a.tmps)=true then Oper.wp P o a w K Q else K (a.put o.dst undef) w
structure ZI (md:Region.Mode) (ops:Array Oper) (Φ:List (Value→World→Prop)) (a0:Act) (I:World→Prop) (D:List Nat) (pD:Nat) (ms:List Nat) (St:Nat→World→Prop) (G:(Nat→Bool)→Act→World→Prop) (listed:Array Bool) (a:Act) (w:World):Prop where
 size:listed.size=ops.size
 inv:I w
 defers:a.defers=a0.defers
 slots:a.tmps.size=a0.tmps.size
 closed:∀i j,listed.getD i false=true→dO md ops i j=true→listed.getD j false=true
 keep:∀d,(∀i,listed.getD i false=true→dD ops i≠some d)→a.eval (.tmp d)=a0.eval (.tmp d)
 done:∀i d,listed.getD i false=true→(D.contains i=true→listed.getD pD false=false)→dD ops i=some d→b_ Φ i (a.eval (.tmp d)) w
 st:St (gG listed ms) w
 jn:listed.getD pD false=false→G (fun j=>listed.getD j false) a w
theorem ZI.step (ht:tidy md ops a0.tmps.size=true) {listed:Array Bool} {a:Act} {w w':World} (h:ZI md ops Φ a0 I D pD ms St G listed a w) {i:Nat} {o:Oper} (ho:ops[i]?=some o)
  (hr:i∈Region.ready md ops listed) {v:Value} (hI:I w') (hkeep:∀j d,listed.getD j false=true→(D.contains j=true→listed.getD pD false=false∧i≠pD)→dD ops j=some d→b_ Φ j (a.eval (.tmp d)) w') (hv:b_ Φ i v w') (hst:St (gG (listed.setIfInBounds i true) ms) w') (hjn:i≠pD→listed.getD pD false=false→G (fun j=>(listed.setIfInBounds i true).getD j false) (a.put o.dst v) w'):ZI md ops Φ a0 I D pD ms St G (listed.setIfInBounds i true) (a.put o.dst v) w':=by
 have hi:i<ops.size:=(atC.1 ho).1;have D6:dD ops i=o.dst:=by simp[dD,ho]
 have hset:∀j,(listed.setIfInBounds i true).getD j false=true→j=i∨listed.getD j false=true:=by exact ax3
 refine⟨by simpa using h.size,hI,by rw[xC];exact h.defers,by rw[size_put];exact h.slots,?_,?_,?_,hst,fun h2=>?_⟩;exact av';exact axg;intro j d hj hD hd;have hD2:D.contains j=true→listed.getD pD false=false∧i≠pD:=fun h1=>by
  have h2:=hD h1;by_cases Za:i=pD;subst Za;rw[show (listed.setIfInBounds i true).getD i false=true by simp[h.size,hi]]at h2
  cases h2
  rw[getD_set_ne false Za]at h2;exact⟨h2,Za⟩
 rcases hset j hj with rfl|hj';exact axI;by_cases AX:j=i;exact axy;have hne:o.dst≠some d:=by rw[←D6];exact (jV ht hd).2 i (fun e=>AX e.symm)
 rw[dU hne];exact hkeep j d hj' hD2 hd;by_cases Za:i=pD;subst Za;rw[show (listed.setIfInBounds i true).getD i false=true by simp[h.size,hi]]at h2
 cases h2
 rw[getD_set_ne false Za]at h2;exact hjn Za h2
theorem UF (ht:tidy md ops a0.tmps.size=true) (hm:kF Φ) (hJ:Hg J D B 0 Φ) (hch:chainC md ops ms=true) (hpD:ms[0]?=some pD) (hB:chkB md ops B ms=true) (UC:∀p w w',Ev w w'→St p w→St p w')
  (hsp:(sp.all fun j=>reachC md ops 3 pD j)=true) (hGs:∀(L L':Nat→Bool) (a a':Act) (w w':World),(∀j∈sp,L' j=L j)→(∀j∈sp,∀d,dD ops j=some d→a'.eval (.tmp d)=a.eval (.tmp d))→Ev w w'→G L a w→G L' a' w')
  (hops:∀i o,ops[i]?=some o→i∉ms++sp→QX P md ops Q Φ a0 I D pD i o) (aev:∀i o,ops[i]?=some o→i∈sp→VR P md ops Q Φ a0 I D pD G i o) (Jm:∀p i o,ms[p]?=some i→ops[i]?=some o→ZH P md ops Q Φ a0 I J St D pD G p i o)
  (hQ:∀a w,I w→a.defers=a0.defers→a.tmps.size=a0.tmps.size→(∀d,nobody ops d=true→a.eval (.tmp d)=a0.eval (.tmp d))→
   (∀i d,D.contains i=false→dD ops i=some d→b_ Φ i (a.eval (.tmp d)) w)→St (gG ((Array.range ops.size).map fun _=>true) ms) w→Q .normal a w):
  ∀(fuel:Nat) (listed:Array Bool) (a:Act) (w:World),fC listed ops.size≤fuel→ZI md ops Φ a0 I D pD ms St G listed a w→wpAny P md ops Q fuel listed a w:=by
 have fin:∀(listed:Array Bool) (a:Act) (w:World),Region.ready md ops listed=[]→ZI md ops Φ a0 I D pD ms St G listed a w→Q .normal a w:=by intro listed a w hr h;have hall:=tV ht h.size hr;refine hQ a w h.inv h.defers h.slots (fun d hd=>h.keep d fun i hi hid=>?_) (fun i d hD hd=>h.done i d (hall i ?_) (fun h1=>by rw[hD]at h1;cases h1) hd) ?_;exact aw3;exact ax7;exact av6
 intro fuel
 induction fuel with
 | zero=>
  intro listed a w hu h;have hr:Region.ready md ops listed=[]:=by exact awj
  exact⟨hr,fin listed a w hr h⟩
 | succ fuel ih=>
  intro listed a w hu h;refine⟨fun hr=>fin listed a w hr h,fun i hi=>?_⟩;obtain⟨h0,o,ho,hall⟩:=mem_ready.1 hi;have hlt:i<ops.size:=(atC.1 ho).1;have hl:i<listed.size:=by rw[h.size];exact hlt
  have vV:listed.getD i false=false:=by simpa[hl] using h0
  have hcount:=nZ h.size hlt vV;have hpl:∀j,dO md ops i j=true→listed.getD j false=true:=fun j hp=>by exact axz
  have LU:Dp md ops Φ a0 I D pD i a w:=by
   refine⟨h.inv,fun d hd=>h.keep d fun j hj AU=>?_,fun j d hp hd hav=>h.done j d (hpl j hp) (fun h1=>?_) hd⟩;exact av_;unfold UE at hav;rw[h1,Bool.not_true,Bool.false_or,atZ,atH]at hav
   cases UG:listed.getD pD false
   rfl;rcases hav with h2|h2;rw[←h2,vV]at UG;cases UG;have:=gZ h.closed 3 pD i h2 UG;rw[vV]at this;cases this
  have hpre:∀j,(∃n,reachC md ops n i j=true)→listed.getD j false=true:=fun j ⟨n,y7⟩=>by
   cases n with
   | zero=>exact hpl j y7
   | succ n=>
    exact aw7
  refine wpOp_step ho fun K' hK'=>?_;by_cases DW:i∈ms;obtain⟨p,hp⟩:=auO DW;have VE:gG listed ms=p:=Dn h.closed ms p i hch hp vV fun j n y7 AX=>by
   cases n with
   | zero=>exact hpl j y7
   | succ n=>
    exact aw7
  have hst:St p w:=VE▸h.st;have hp0:p=0→i=pD:=fun e=>by subst e;rw[hpD]at hp;exact (aui hp).symm
  have hlp:¬p=0→listed.getD pD false=true:=fun e=>by
   cases fA:ms with
   | nil=>rw[fA]at DW;cases DW
   | cons m0 ml0=>
    rw[fA]at hpD hp hch;simp at hpD;subst hpD
    cases p with
    | zero=>exact absurd rfl e
    | succ p=>
     have NS:i∈ml0:=atw (by simpa using hp);exact hpre m0 (BI md ops m0 ml0 hch i NS)
  refine Jm p i o hp ho a w LU hst (fun e=>⟨_,hpl,h.jn (by rw[←hp0 e];exact vV)⟩) K' fun v w' hJw hI' UD hv=>hK' _ _ (ih _ _ _ (by omega) (h.step ht ho hi hI' (fun j d hj hD hd=>by
   have hDn:D.contains j=false:=by
    cases hDj:D.contains j
    rfl;obtain⟨h1,h2⟩:=hD hDj;exfalso
    cases fA:ms with
    | nil=>rw[fA]at DW;cases DW
    | cons m0 ml0=>
     rw[fA]at hpD DW hch;simp at hpD;subst hpD;rcases atA.1 DW with e|e;exact h2 e;obtain⟨k,hk⟩:=auO e;have hup:=BI md ops m0 ml0 hch i e;have:=hpre m0 hup;rw[h1]at this;cases this
   have hBn:(B.getD p []).contains j=false:=by
    cases hBj:(B.getD p []).contains j
    rfl;exfalso;have h1:=atL.1 (VQ B ms hB p i hp) j (by simpa using hBj);rw[atZ,atH]at h1;rcases h1 with h1|h1;subst h1;rw[vV]at hj;cases hj;have:=gZ h.closed 3 j _ h1 hj;rw[vV]at this;cases this
   exact QW (p:=p) Φ 0 hJ j (by rwa [atT]) (by rwa [atT]) _ _ _ hJw (h.done j d hj (fun h3=>by rw[hDn]at h3;cases h3) hd)) hv ?_ fun hne rC=>by
    by_cases e:p=0;exact absurd (hp0 e) hne;rw[hlp e]at rC;cases rC))
  rw[qY hl vV ms (oK ms hch) DW,VE];exact UD;by_cases his:i∈sp;have rC:listed.getD pD false=false:=by
   cases UG:listed.getD pD false
   rfl;have:=gZ h.closed 3 pD i (atL.1 hsp i his) UG;rw[vV]at this;cases this
  refine aev i o ho his a w _ LU h.slots hpl vV (h.jn rC) K' fun v w' hE hI' hv hG=>hK' _ _ (ih _ _ _ (by omega) (h.step ht ho hi hI' (fun j d hj hD hd=>lT Φ hm j _ _ _ hE (h.done j d hj (fun h3=>(hD h3).1) hd)) hv ?_ fun _ _=>hG _ ?_ ?_));rw[wW hl ms DW];exact UC _ _ _ hE h.st;simp[hl];intro j hj;exact getD_set_ne false (fun e=>hj e.symm);refine hops i o ho (fun hm=>(atK.1 hm).elim DW his) a w LU K' fun v w' hE hI' hv=>hK' _ _ (ih _ _ _ (by omega) (h.step ht ho hi hI' (fun j d hj hD hd=>lT Φ hm j _ _ _ hE (h.done j d hj (fun h3=>(hD h3).1) hd)) hv ?_ fun _ rC=>?_));rw[wW hl ms DW];exact UC _ _ _ hE h.st;refine hGs _ _ a _ w w' (fun j hj=>getD_set_ne false (fun e=>his (e▸hj))) (fun j hj d hd=>dU fun e=>?_) hE (h.jn rC);have D6:dD ops i=some d:=by simp[dD,ho,e]
  exact (jV ht D6).2 j (fun e2=>his (e2▸hj)) hd
theorem mP {id:Nat} {w0:World} (fJ:P.follows .mixedOrders=true) (I:World→Prop) (J:Nat→World→World→Prop) (ms:List Nat) (St:Nat→World→Prop) (D:List Nat) (B:List (List Nat)) (pD:Nat) (Φ:List (Value→World→Prop)) (n q:Nat) (hn:a0.tmps.size=n) (ht:tidy .any ops n=true) (hm:kF Φ) (hJ:Hg J D B 0 Φ) (hch:chainC .any ops ms=true) (hpD:ms[0]?=some pD) (hB:chkB .any ops B ms=true) (UC:∀p w w',Ev w w'→St p w→St p w') (hIE:∀w w',Ev w w'→I w→I w')
  (hI:I w0) (hS:St 0 w0) (hq:gG ((Array.range ops.size).map fun _=>true) ms=q)
  (G:(Nat→Bool)→Act→World→Prop) (sp:List Nat) (hsp:(sp.all fun j=>reachC .any ops 3 pD j)=true) (hGs:∀(L L':Nat→Bool) (a a':Act) (w w':World),(∀j∈sp,L' j=L j)→(∀j∈sp,∀d,dD ops j=some d→a'.eval (.tmp d)=a.eval (.tmp d))→Ev w w'→G L a w→G L' a' w') (hG0:∀L:Nat→Bool,(∀j,L j=false)→G L a0 w0)
  (hops:∀i o,ops[i]?=some o→0+i∉ms++sp→QX P .any ops Q Φ a0 I D pD (0+i) o) (aev:∀(p i:Nat) (o:Oper),sp[p]?=some i→ops[i]?=some o→VR P .any ops Q Φ a0 I D pD G i o) (Jm:∀p i o,ms[p]?=some i→ops[i]?=some o→ZH P .any ops Q Φ a0 I J St D pD G (0+p) i o)
  (hQ:∀(s:Nat→Value) w,I w→(∀(d:Tmp) (_:nobody ops d=true:=by kernel_rfl),s d=a0.eval (.tmp d))→
   (∀(i:Nat) (d:Tmp) (_:D.contains i=false:=by kernel_rfl) (_:dD ops i=some d:=by kernel_rfl),b_ Φ i (s d) w)→St q w→Q .normal ⟨((List.range n).map s).toArray,a0.defers⟩ w):
  (Code.region id ops true).wp P Q a0 w0:=by
 subst hn;subst hq;refine wp_region_any fJ (UF ht hm hJ hch hpD hB UC hsp hGs (fun i o ho hi=>by have:=hops i o ho (by rwa [atT]);rwa [atT]at this) (fun i o ho hi=>by obtain⟨p,hp⟩:=auO hi;exact aev p i o hp ho) (fun p i o hp ho=>by have:=Jm p i o hp ho;rwa [atT]at this) ?_ ops.size _ _ _ ?_ ⟨by simp,hIE _ _ (Ev.drew w0) hI,rfl,rfl,?_,fun _ _=>rfl,?_,?_,fun _=>hGs _ _ a0 a0 w0 w0.drew (fun j _=>rfl) (fun _ _ _ _=>rfl) (Ev.drew w0) (hG0 _ fun j=>?_)⟩);intro a w hE hd hs hold hnew hp;rw[wG hs,hd];exact hQ (fun d=>a.eval (.tmp d)) w hE hold hnew hp;unfold fC;exact atP au6 (by simp);exact ayt
 ·intro i d hi _;exfalso;by_cases hlt:i<ops.size<;>simp[hlt]at hi
 exact aw8;by_cases hlt:j<ops.size<;>simp[hlt]
theorem d_ {i:Nat} {o:Oper} (h:∀a w,Dp md ops Φ a0 I D pD i a w→Region.wanted o (yielded ops a.tmps)=true∧∃v,(execOp a.eval o).run P w=.ok (.value v) w∧b_ Φ i v w):QX P md ops Q Φ a0 I D pD i o:=by exact axC
theorem wX {i:Nat} {o:Oper} (h:∀a w,Dp md ops Φ a0 I D pD i a w→Region.wanted o (yielded ops a.tmps)=true∧∃v w',(execOp a.eval o).run P w=.ok (.value v) w'∧Ev w w'∧I w'∧b_ Φ i v w'):QX P md ops Q Φ a0 I D pD i o:=by exact axD
theorem EJ {i:Nat} {o:Oper} (h:∀a w (L:Nat→Bool),Dp md ops Φ a0 I D pD i a w→a.tmps.size=a0.tmps.size→(∀j,dO md ops i j=true→L j=true)→L i=false→G L a w→Region.wanted o (yielded ops a.tmps)=true∧∃v w',(execOp a.eval o).run P w=.ok (.value v) w'∧Ev w w'∧I w'∧b_ Φ i v w'∧∀L':Nat→Bool,L' i=true→(∀j,j≠i→L' j=L j)→G L' (a.put o.dst v) w'):VR P md ops Q Φ a0 I D pD G i o:=by intro a w L c hs hp hu hg K hK;obtain⟨hw,v,w',hr,h1,h2,h3,h4⟩:=h a w L c hs hp hu hg;rw[if_pos hw];unfold Oper.wp;rw[hr];exact hK v w' h1 h2 h3 h4
theorem kV {i:Nat} {o:Oper} (h:∀a w (L:Nat→Bool),Dp md ops Φ a0 I D pD i a w→a.tmps.size=a0.tmps.size→(∀j,dO md ops i j=true→L j=true)→L i=false→G L a w→Region.wanted o (yielded ops a.tmps)=true∧∃f args,(execOp a.eval o).run P w=.ok (.enter f args) w∧
  Calls P f args w fun e w'=>∃v,e=.returned v∧Ev w w'∧I w'∧b_ Φ i v w'∧∀L':Nat→Bool,L' i=true→(∀j,j≠i→L' j=L j)→G L' (a.put o.dst v) w'):VR P md ops Q Φ a0 I D pD G i o:=by
 intro a w L c hs hp hu hg K hK;obtain⟨hw,f,args,hr,hc⟩:=h a w L c hs hp hu hg;rw[if_pos hw];unfold Oper.wp;rw[hr];refine hc.mono ?_;rintro e w' ⟨v,rfl,h1,h2,h3,h4⟩;exact hK v w' h1 h2 h3 h4
theorem ZJ {i:Nat} {o:Oper} (h:∀a w,Dp md ops Φ a0 I D pD i a w→Region.wanted o (yielded ops a.tmps)=true∧∃f args,(execOp a.eval o).run P w=.ok (.enter f args) w∧
  Calls P f args w fun e w'=>∃v,e=.returned v∧Ev w w'∧I w'∧b_ Φ i v w'):QX P md ops Q Φ a0 I D pD i o:=by
 intro a w c K hK;obtain⟨hw,f,args,hr,hc⟩:=h a w c;rw[if_pos hw];unfold Oper.wp;rw[hr];refine hc.mono ?_;rintro e w' ⟨v,rfl,h1,h2,h3⟩;exact hK v w' h1 h2 h3
theorem wY {p i:Nat} {o:Oper} (h:∀a w,Dp md ops Φ a0 I D pD i a w→St p w→(p=0→∃L:Nat→Bool,(∀j,dO md ops i j=true→L j=true)∧G L a w)→Region.wanted o (yielded ops a.tmps)=true∧∃v w',(execOp a.eval o).run P w=.ok (.value v) w'∧J p w w'∧I w'∧St (p+1) w'∧b_ Φ i v w'):ZH P md ops Q Φ a0 I J St D pD G p i o:=by intro a w c hst hg K hK;obtain⟨hw,v,w',hr,h1,h2,h3,h4⟩:=h a w c hst hg;rw[if_pos hw];unfold Oper.wp;rw[hr];exact hK v w' h1 h2 h3 h4
theorem Hl {R:Nat→Oper→Prop} {ops:Array Oper}:∀(p i:Nat) (o:Oper),([]:List Nat)[p]?=some i→ops[i]?=some o→R i o:=by intro p i o h;simp at h
theorem jb {R:Nat→Oper→Prop} {ops:Array Oper} {m:Nat} {sp:List Nat} {o0:Oper} (ho:ops[m]?=some o0) (h0:R m o0) (h:∀(p i:Nat) (o:Oper),sp[p]?=some i→ops[i]?=some o→R i o):∀(p i:Nat) (o:Oper),(m::sp)[p]?=some i→ops[i]?=some o→R i o:=by
 intro p i o hp hi
 cases p with
 | zero=>
  simp at hp;subst hp;rw[ho]at hi;obtain rfl:=aui hi;exact h0
 | succ p=>exact h p i o (by simpa using hp) hi
end
section
variable {P:Program} {md:Region.Mode} {ops:Array Oper} {Q:Exit→Act→World→Prop} {Φ:List (Value→World→Prop)} {a0:Act} {J:World→World→Prop} {I:World→Prop} {ms:List Nat} {St:Nat→World→Prop} {ml jm dm q:Nat} {Ψ:Value→World→Prop}
def ZN (P:Program) (md:Region.Mode) (ops:Array Oper) (Q:Exit→Act→World→Prop) (Φ:List (Value→World→Prop)) (a0:Act) (I:World→Prop) (J:World→World→Prop) (St:Nat→World→Prop) (q dm:Nat) (Ψ:Value→World→Prop) (i:Nat) (o:Oper):Prop:=
 o.dst=none∧∀(a:Act) (w:World),EI md ops Φ a0 I i a w→St q w→Region.wanted o (yielded ops a.tmps)=true∧∃w',(execOp a.eval o).run P w=.ok .skip w'∧J w w'∧I w'∧St (q+1) w'∧b_ Φ i undef w'∧Ψ (a.eval (.tmp dm)) w'
theorem BK {listed:Array Bool} (hc:∀i j,listed.getD i false=true→dO md ops i j=true→listed.getD j false=true):∀(ms:List Nat),chainC md ops ms=true→∀(k x q y:Nat),ms[k]?=some x→ms[q]?=some y→k≤q→listed.getD y false=true→listed.getD x false=true
 | [],_,k,x,q,y,h,_,_,_=>by simp at h
 | [a],_,k,x,q,y,h1,h2,_,hy=>by
  have e1:x=a:=by cases k<;>simp at h1;exact h1.symm
  have e2:y=a:=by cases q<;>simp at h2;exact h2.symm
  rw[e1,←e2];exact hy
 | a::b::l,hch,0,x,0,y,h1,h2,_,hy=>by simp at h1 h2;rw[←h1,h2];exact hy
 | a::b::l,hch,0,x,q+1,y,h1,h2,_,hy=>by simp at h1;subst h1;have hb:=BK hc (b::l) (yf hch) 0 b q y rfl (by simpa using h2) (atG _) hy;unfold chainC at hch;rw[atu,atu]at hch;exact gZ hc 3 b a hch.1.1 hb
 | a::b::l,hch,k+1,x,0,y,h1,h2,hle,hy=>by omega
 | a::b::l,hch,k+1,x,q+1,y,h1,h2,hle,hy=>BK hc (b::l) (yf hch) k x q y (by simpa using h1) (by simpa using h2) (by omega) hy
theorem UI (ht:tidy md ops a0.tmps.size=true) (hm:kF Φ) (hJ:zJ J Φ) (hch:chainC md ops ms=true) (UC:∀p w w',Ev w w'→St p w→St p w')
  (hops:∀i o,ops[i]?=some o→i∉ms→Nh P md ops Q Φ a0 I i o) (Jm:∀p i o,ms[p]?=some i→i≠ml→ops[i]?=some o→Nj P md ops Q Φ a0 I J St p i o) (hΨ:rF Ψ) (ZO:ms[q]?=some ml) (hlast:q+1=ms.length) {om:Oper} (Zb:ops[ml]?=some om) (hjm:dO md ops ml jm=true) (AU:dD ops jm=some dm) (hst:ZN P md ops Q Φ a0 I J St q dm Ψ ml om)
  (hQ:∀a w,I w→a.defers=a0.defers→a.tmps.size=a0.tmps.size→(∀d,nobody ops d=true→a.eval (.tmp d)=a0.eval (.tmp d))→
   (∀i d,dD ops i=some d→b_ Φ i (a.eval (.tmp d)) w)→St (gG ((Array.range ops.size).map fun _=>true) ms) w→Ψ (a.eval (.tmp dm)) w→Q .normal a w):
  ∀(fuel:Nat) (listed:Array Bool) (a:Act) (w:World),fC listed ops.size≤fuel→Uz md ops Φ a0 I ms St listed a w→(listed.getD ml false=true→Ψ (a.eval (.tmp dm)) w)→wpAny P md ops Q fuel listed a w:=by
 have abN:ml<ops.size:=(atC.1 Zb).1;have fin:∀(listed:Array Bool) (a:Act) (w:World),Region.ready md ops listed=[]→Uz md ops Φ a0 I ms St listed a w→(listed.getD ml false=true→Ψ (a.eval (.tmp dm)) w)→Q .normal a w:=by intro listed a w hr h hpost;have hall:=tV ht h.size hr;refine hQ a w h.inv h.defers h.slots (fun d hd=>h.keep d fun i hi hid=>?_) (fun i d hd=>h.done i d (hall i ?_) hd) ?_ (hpost (hall ml abN));exact aw3;exact ax7;exact av6
 intro fuel
 induction fuel with
 | zero=>
  intro listed a w hu h hpost;have hr:Region.ready md ops listed=[]:=by exact awj
  exact⟨hr,fin listed a w hr h hpost⟩
 | succ fuel ih=>
  intro listed a w hu h hpost;refine⟨fun hr=>fin listed a w hr h hpost,fun i hi=>?_⟩;obtain⟨h0,o,ho,hall⟩:=mem_ready.1 hi;have hlt:i<ops.size:=(atC.1 ho).1;have hl:i<listed.size:=by rw[h.size];exact hlt
  have vV:listed.getD i false=false:=by simpa[hl] using h0
  have hcount:=nZ h.size hlt vV;have hpl:∀j,dO md ops i j=true→listed.getD j false=true:=fun j hp=>by exact axz
  have LU:EI md ops Φ a0 I i a w:=by exact avT
  refine wpOp_step ho fun K' hK'=>?_;have aez:∀(o:Oper) (v:Value) (w':World),ops[i]?=some o→i≠ml→(∀v0,Ψ v0 w→Ψ v0 w')→(listed.setIfInBounds i true).getD ml false=true→Ψ ((a.put o.dst v).eval (.tmp dm)) w':=by
   intro o v w' ho DW hmono hlm;rw[getD_set_ne false DW]at hlm;have hp:=hpost hlm;have hjl:=h.closed ml jm hlm hjm;have AX:i≠jm:=by rintro rfl;rw[vV]at hjl;cases hjl
   have hne:o.dst≠some dm:=by have:=(jV ht AU).2 i AX;simpa[dD,ho] using this
   rw[dU hne];exact hmono _ hp
  by_cases DW:i∈ms;obtain⟨p,hp⟩:=auO DW;have VE:gG listed ms=p:=Dn h.closed ms p i hch hp vV fun j n y7 AX=>by
   cases n with
   | zero=>exact hpl j y7
   | succ n=>
    exact aw7
  have agU:St p w:=VE▸h.st;have hpw:=oK ms hch;by_cases NS:i=ml;subst NS;have SX:p=q:=by obtain⟨h1,e1⟩:=atr.1 hp;obtain⟨h2,e2⟩:=atr.1 ZO;rcases Nat.lt_trichotomy p q with h3|h3|h3;have:=(List.pairwise_iff_getElem.1 hpw) p q h1 h2 h3;omega;exact h3;have:=(List.pairwise_iff_getElem.1 hpw) q p h2 h1 h3;omega
  subst SX;rw[Zb]at ho;obtain rfl:=aui ho;obtain⟨hw,w',hrun,hJw,hI',UD,hv,o9⟩:=hst.2 a w LU agU;rw[if_pos hw];refine xN hrun ?_;refine hK' _ _ (ih _ _ _ (by omega) (h.step ht Zb hi hI' (fun j d hj hd=>Dl Φ hJ j _ _ _ hJw (h.done j d hj hd)) hv ?_) fun _=>?_);rw[qY hl vV ms hpw DW,VE];exact UD;have hput:a.put om.dst undef=a:=by rw[hst.1];rfl
  rw[hput];exact o9;have UG:listed.getD ml false=false:=by
   cases hlm:listed.getD ml false
   rfl;exfalso;have anp:gG listed ms=ms.length:=by unfold gG;rw[List.countP_eq_length];intro x hx;obtain⟨k,hk⟩:=auO hx;exact BK h.closed ms hch k x q ml hk ZO (by have:=(atr.1 hk).1;omega) hlm
   have h1:=(atr.1 hp).1;omega
  refine Jm p i o hp NS ho a w LU agU K' fun v w' hJw hI' UD hv=>hK' _ _ (ih _ _ _ (by omega) (h.step ht ho hi hI' (fun j d hj hd=>Dl Φ hJ j _ _ _ hJw (h.done j d hj hd)) hv ?_) fun hlm=>?_);rw[qY hl vV ms hpw DW,VE];exact UD;rw[getD_set_ne false NS,UG]at hlm
  cases hlm
  have NS:i≠ml:=by rintro rfl;exact DW (atw ZO)
  refine hops i o ho DW a w LU K' fun v w' hE hI' hv=>hK' _ _ (ih _ _ _ (by omega) (h.step ht ho hi hI' (fun j d hj hd=>lT Φ hm j _ _ _ hE (h.done j d hj hd)) hv ?_) (aez o v w' ho NS fun v0 h0=>hΨ _ _ _ hE h0));rw[wW hl ms DW];exact UC _ _ _ hE h.st
theorem EK {id:Nat} {w0:World} (fJ:P.follows .mixedOrders=true) (I:World→Prop) (J:World→World→Prop) (ms:List Nat) (St:Nat→World→Prop) (ml jm dm:Nat) (Ψ:Value→World→Prop) (Φ:List (Value→World→Prop)) (n q q1:Nat) (hn:a0.tmps.size=n) (ht:tidy .any ops n=true) (hm:kF Φ) (hJ:zJ J Φ) (hch:chainC .any ops ms=true) (UC:∀p w w',Ev w w'→St p w→St p w') (hIE:∀w w',Ev w w'→I w→I w')
  (hI:I w0) (hS:St 0 w0) (hq:gG ((Array.range ops.size).map fun _=>true) ms=q) (hΨ:rF Ψ) (ZO:ms[q1]?=some ml) (hlast:q1+1=ms.length) (om:Oper) (Zb:ops[ml]?=some om) (hjm:dO .any ops ml jm=true) (AU:dD ops jm=some dm)
  (hops:∀i o,ops[i]?=some o→0+i∉ms→Nh P .any ops Q Φ a0 I (0+i) o) (Jm:∀p i o,ms[p]?=some i→i≠ml→ops[i]?=some o→Nj P .any ops Q Φ a0 I J St (0+p) i o) (hst:ZN P .any ops Q Φ a0 I J St q1 dm Ψ ml om)
  (hQ:∀(s:Nat→Value) w,I w→(∀(d:Tmp) (_:nobody ops d=true:=by kernel_rfl),s d=a0.eval (.tmp d))→
   (∀(i:Nat) (d:Tmp) (_:dD ops i=some d:=by kernel_rfl),b_ Φ i (s d) w)→St q w→Ψ (s dm) w→Q .normal ⟨((List.range n).map s).toArray,a0.defers⟩ w):
  (Code.region id ops true).wp P Q a0 w0:=by
 subst hn;subst hq;refine wp_region_any fJ (UI ht hm hJ hch UC (fun i o ho hi=>by have:=hops i o ho (by rwa [atT]);rwa [atT]at this) (fun p i o hp hi ho=>by have:=Jm p i o hp hi ho;rwa [atT]at this) hΨ ZO hlast Zb hjm AU hst ?_ ops.size _ _ _ ?_ ⟨by simp,hIE _ _ (Ev.drew w0) hI,rfl,rfl,?_,fun _ _=>rfl,?_,?_⟩ ?_);intro a w hE hd hs hold hnew hp o9;rw[wG hs,hd];exact hQ (fun d=>a.eval (.tmp d)) w hE hold hnew hp o9;unfold fC;exact atP au6 (by simp);exact ayt;exact ayu;exact aw8;intro hi;exfalso;by_cases hlt:ml<ops.size<;>simp[hlt]at hi
theorem ZP {R:Nat→Nat→Oper→Prop} {ops:Array Oper} {ml:Nat} (k:Nat):∀p i o,([ml]:List Nat)[p]?=some i→i≠ml→ops[i]?=some o→R (k+p) i o:=by
 intro p i o hp hi
 cases p with
 | zero=>simp at hp;exact absurd hp.symm hi
 | succ p=>simp at hp
theorem ZQ {R:Nat→Nat→Oper→Prop} {ops:Array Oper} {ml m:Nat} {ms:List Nat} {o0:Oper} (k:Nat) (ho:ops[m]?=some o0) (h0:R k m o0) (h:∀p i o,ms[p]?=some i→i≠ml→ops[i]?=some o→R (k+1+p) i o):∀p i o,(m::ms)[p]?=some i→i≠ml→ops[i]?=some o→R (k+p) i o:=by
 intro p i o hp hn hi
 cases p with
 | zero=>
  simp at hp;subst hp;rw[ho]at hi;obtain rfl:=aui hi;exact h0
 | succ p=>
  have:=h p i o (by simpa using hp) hn hi;rwa [show k+1+p=k+(p+1) by omega]at this
end
end Go.Proofs.YtpbfokkocaemlaaGreatDoor
