import Derived.Test.YtbgmhhfjkkfhpaaGreatDoorAliasG
import Derived.Below
import Derived.RegionTactic
import Derived.Deep.Draws
set_option linter.unusedVariables false
set_option maxRecDepth 100000
set_option maxHeartbeats 64000000
namespace Go.Proofs.YtbgmhhfjkkfhpaaGreatDoor
open Go.RowKit
open Go renaming World → ak
open Go renaming Value → au
variable {U:Prop}
abbrev aE6:=@Go.getD_set_ne
abbrev aE7:=@Go.mem_ready
abbrev aE8:=@Go.getD_set_true
def Ev(w w':ak):Prop:=Below w.heap.size w w'
theorem Ev.refl(w:ak):Ev w w:=Below.refl _ _
theorem Ev.trans{a b c:ak}(h:Ev a b)(k:Ev b c):Ev a c:=Below.trans h (Below.mono k h.size)
theorem Ev.alloc(w:ak)(o:Obj):Ev w (w.alloc o):=Below.alloc (Below.refl _ _) (aC8 _) o
theorem Ev.drew(w:ak):Ev w w.drew:=⟨rfl,rfl,rfl,aC8 _,λ_ _=>rfl⟩
theorem Ev.drewN(w:ak)(n:Nat):Ev w (w.drewN n):=⟨rfl,rfl,rfl,aC8 _,λ_ _=>rfl⟩
def kK(φ:au->ak->Prop):Prop:=∀v w w',Ev w w'->φ v w->φ v w'
def gW:List (au->ak->Prop)->Prop
 | []=>True
 | φ::l=>kK φ/\gW l
def bu(Φ:List (au->ak->Prop))(i:Nat):au->ak->Prop:=Φ.getD i (λ_ _=>True)
theorem jH:∀(Φ:List (au->ak->Prop)),gW Φ->∀i,kK (bu Φ i)
 | [],_,i=>λ_ _ _ _ _=>trivial
 | φ::l,h,0=>h.1
 | φ::l,h,i+1=>jH l h.2 i
theorem aB(x:au):kK (λv _=>v=x):=λ_ _ _ _ h=>h
theorem fC:kK (λ_ _=>True):=λ_ _ _ _ h=>h
section
variable (md:Region.Mode) (ops:Array Oper)
def bG(i:Nat):Option Tmp:=(ops[i]?).bind (·.dst)
def b_(i j:Nat):Bool:=match ops[i]? with|some o=>o.after.any (λe=>Region.binds md e&&e.on==j)|none=>false
def later(i d:Nat):Bool:=(List.range ops.size).all λj=>j==i||bG ops j !=some d||b_ md ops j i
def nobody(d:Nat):Bool:=(List.range ops.size).all λj=>bG ops j !=some d
def tidy(n:Nat):Bool:=(List.range ops.size).all λi=>
 (match ops[i]? with|some o=>o.after.all (λe=>!Region.binds md e||decide (e.on<i))|none=>false)&&
 (match bG ops i with|some d=>decide (d<n)&&(List.range ops.size).all (λj=>j==i||bG ops j !=some d)|none=>true)
variable {md ops}
theorem TV{n:Nat}(h:tidy md ops n=true){i j:Nat}(hp:b_ md ops i j=true):j<i:=by
 unfold b_ at hp
 cases ho:ops[i]? with
 | none=>simp[ho]at hp
 | some o=>
  simp only[ho]at hp;obtain⟨e,he,hb⟩:=aD4.1 hp;have hlt:i<ops.size:=(aDa.1 ho).1;have h1:=(aDs.1 h) i (aDN.2 hlt);rw[aC9]at h1;have h2:=h1.1;simp only[ho]at h2;have h3:=(Array.all_eq_true_iff_forall_mem.1 h2) e he;simp only[aC9,aDn]at hb;simp[hb.1]at h3;omega
theorem aIa(h:U:=by
 unfold bG at hd
 cases ho:ops[i]? with
 | none=>simp[ho]at hd
 | some o=>exact(aDa.1 ho).1):U:=h
theorem iG{n:Nat}(h:tidy md ops n=true){i:Nat}{d:Tmp}(hd:bG ops i=some d):d<n/\∀j,j≠i->bG ops j≠some d:=by
 have hlt:i<ops.size:=by exact aIa
 have h1:=(aDs.1 h) i (aDN.2 hlt);rw[aC9]at h1;have h2:=h1.2;simp only[hd,aC9,aDV,aDs,aDN,aDC,aDn,aEk]at h2;refine⟨h2.1,λj hj sD=>?_⟩;have vg:j<ops.size:=by
  unfold bG at sD
  cases ho:ops[j]? with
  | none=>simp[ho]at sD
  | some o=>exact(aDa.1 ho).1
 rcases h2.2 j vg with h3|h3;exact hj h3;exact h3 sD
end
section
variable {P:Program} {md:Region.Mode} {ops:Array Oper} {Q:Exit->Act->ak->Prop} {Φ:List (au->ak->Prop)} {a0:Act} {w0:ak}
def Qw(P:Program)(md:Region.Mode)(ops:Array Oper)(Q:Exit->Act->ak->Prop)(Φ:List (au->ak->Prop))(a0:Act)(w0:ak)(i:Nat)(o:Oper):Prop:=
 ∀(a:Act) (w:ak),Ev w0 w->a.defers=a0.defers->
  (∀d,later md ops i d=true->a.eval (.tmp d)=a0.eval (.tmp d))->
  (∀j d,b_ md ops i j=true->bG ops j=some d->bu Φ j (a.eval (.tmp d)) w)->
  ∀K:Act->ak->Prop,(∀v w',Ev w w'->bu Φ i v w'->K (a.put o.dst v) w')->
  if Region.wanted o (yielded ops a.tmps)=true then Oper.wp P o a w K Q else K (a.put o.dst undef) w
structure Mid(md:Region.Mode)(ops:Array Oper)(Φ:List (au->ak->Prop))(a0:Act)(w0:ak)(listed:Array Bool)(a:Act)(w:ak):Prop where
 size:listed.size=ops.size
 ev:Ev w0 w
 defers:a.defers=a0.defers
 slots:a.tmps.size=a0.tmps.size
 closed:∀i j,listed.getD i false=true->b_ md ops i j=true->listed.getD j false=true
 keep:∀d,(∀i,listed.getD i false=true->bG ops i≠some d)->a.eval (.tmp d)=a0.eval (.tmp d)
 done:∀i d,listed.getD i false=true->bG ops i=some d->bu Φ i (a.eval (.tmp d)) w
def dw(listed:Array Bool)(n:Nat):Nat:=(List.range n).countP λi=>!listed.getD i false
theorem jI{listed:Array Bool}{n i:Nat}(hs:listed.size=n)(hi:i<n)(hu:listed.getD i false=false):dw (listed.setIfInBounds i true) n<dw listed n:=by
 unfold dw;have key:∀l:List Nat,i∈l->(∀j∈l,j<n)->l.countP (λj=>!(listed.setIfInBounds i true).getD j false)<l.countP (λj=>!listed.getD j false):=by
  have mono:∀l:List Nat,l.countP (λj=>!(listed.setIfInBounds i true).getD j false)<=l.countP (λj=>!listed.getD j false):=by intro l;apply List.countP_mono_left;intro j _ hj;by_cases qN:i=j;subst qN;simp[hs,hi]at hj;rw[aE6 false qN]at hj;exact hj
  intro l
  induction l with
  | nil=>intro h _;cases h
  | cons x l ih=>
   intro hm hl;by_cases hx:x=i;subst hx;have h1:(!(listed.setIfInBounds x true).getD x false)=false:=by simp[hs,hi]
   have h2:(!listed.getD x false)=true:=by rw[hu];rfl
   rw[aE2 (by simpa using h1),List.countP_cons_of_pos (by simpa using h2)];have:=mono l;omega;have WA:i∈l:=by rcases aDg.1 hm with h|h;exact absurd h.symm hx;exact h
   have h3:=ih WA (λj hj=>hl j (aDc _ hj));have h4:(!(listed.setIfInBounds i true).getD x false)=(!listed.getD x false):=by rw[aE6 false (Ne.symm hx)]
   simp only[List.countP_cons];rw[h4];omega
 exact key _ (aDN.2 hi) (λj hj=>aDN.1 hj)
theorem lJ{n:Nat}(ht:tidy md ops n=true){listed:Array Bool}(hs:listed.size=ops.size)(hr:Region.ready md ops listed=[]):∀i,i<ops.size->listed.getD i false=true:=by
 intro i
 induction i using Nat.strongRecOn with
 | ind i ih=>
  intro hi;by_cases hl:listed.getD i false=true;exact hl;have hmem:i∈Region.ready md ops listed:=by
   rw[aE7];have hlt:i<listed.size:=ae;refine⟨by simpa[hlt] using hl,ops[i],aEH hi,λe he hb=>?_⟩;have hp:b_ md ops i e.on=true:=by unfold b_;rw[aEH hi];exact aD4.2 ⟨e,he,by simp[hb]⟩
   have hb2:=TV ht hp;exact ih e.on hb2 ae
  rw[hr]at hmem
  cases hmem
theorem eval_put_same{a:Act}{d:Tmp}{v:au}(h:d<a.tmps.size):(a.put (some d) v).eval (.tmp d)=v:=by simp[Act.put,Act.eval,h]
theorem dG{a:Act}{dst:Option Tmp}{d:Tmp}{v:au}(h:dst≠some d):(a.put dst v).eval (.tmp d)=a.eval (.tmp d):=by
 apply Act.eval_put;intro d' W9 he;injection he with he
 subst he;exact h W9
theorem sF(a:Act)(dst:Option Tmp)(v:au):(a.put dst v).defers=a.defers:=by cases dst<;>rfl
theorem size_put(a:Act)(dst:Option Tmp)(v:au):(a.put dst v).tmps.size=a.tmps.size:=by cases dst<;>simp[Act.put]
theorem aH_(h:U:=by intro j hj;by_cases qN:i=j;exact .inl qN.symm;rw[aE6 false qN]at hj;exact .inr hj):U:=h
theorem aHD(h:U:=by unfold b_ at hp;simp only[ho]at hp;obtain⟨e,he,hb⟩:=aD4.1 hp;simp only[aC9,aDn]at hb;rw[<-hb.2];exact hall e he hb.1):U:=h
theorem aGa(h:U:=by intro j k hj hp;apply aE8;rcases hset j hj with rfl|hj';obtain⟨_,o',JO,hall⟩:=aE7.1 hr;rw[ho]at JO;obtain rfl:=aDp JO;exact aHD;exact h.closed j k hj' hp):U:=h
theorem aHs(h:U:=by
 intro d hd;have hne:o.dst≠some d:=by rw[<-yD];exact hd i (by simp[h.size,hi])
 rw[dG hne];exact h.keep d λj hj=>hd j (aE8 hj)):U:=h
theorem aHM(h:U:=by rw[yD]at hd;rw[hd];have hsz:=(iG ht (by rw[yD];exact hd)).1;rw[eval_put_same (by rw[h.slots];exact hsz)];exact hv):U:=h
theorem aHB(h:U:=by subst qN;exact aHM):U:=h
theorem Mid.step(ht:tidy md ops a0.tmps.size=true)(hm:gW Φ){listed:Array Bool}{a:Act}{w w':ak}(h:Mid md ops Φ a0 w0 listed a w){i:Nat}{o:Oper}(ho:ops[i]?=some o)
  (hr:i∈Region.ready md ops listed) {v:au} (hE:Ev w w') (hv:bu Φ i v w'):Mid md ops Φ a0 w0 (listed.setIfInBounds i true) (a.put o.dst v) w':=by
 have hi:i<ops.size:=(aDa.1 ho).1;have yD:bG ops i=o.dst:=by simp[bG,ho]
 have hset:∀j,(listed.setIfInBounds i true).getD j false=true->j=i∨listed.getD j false=true:=by exact aH_
 refine⟨by simpa using h.size,h.ev.trans hE,by rw[sF];exact h.defers,by rw[size_put];exact h.slots,?_,?_,?_⟩;exact aGa;exact aHs;intro j d hj hd;rcases hset j hj with rfl|hj';exact aHM;by_cases qN:j=i;exact aHB;have hne:o.dst≠some d:=by rw[<-yD];exact(iG ht hd).2 i (λe=>qN e.symm)
 rw[dG hne];exact jH Φ hm j _ _ _ hE (h.done j d hj' hd)
theorem aG8(h:U:=by
 have hlt:i<ops.size:=by
  unfold bG at hid
  cases ho:ops[i]? with
  | none=>simp[ho]at hid
  | some o=>exact(aDa.1 ho).1
 have:=(aDs.1 hd) i (aDN.2 hlt);simp[hid]at this):U:=h
theorem aGh(h:U:=by
 apply aEd.2;intro i hi;obtain⟨h0,o,ho,_⟩:=aE7.1 hi;have hlt:i<ops.size:=(aDa.1 ho).1;have:dw listed ops.size=0:=ae;unfold dw at this;rw[aEg]at this;have h1:=this i (aDN.2 hlt);have hl:i<listed.size:=by rw[h.size];exact hlt
 simp[hl]at h0 h1;rw[h0]at h1
 cases h1):U:=h
theorem aF9(h:U:=by
 have vg:j<ops.size:=by
  unfold bG at sD
  cases ER:ops[j]? with
  | none=>simp[ER]at sD
  | some o=>exact(aDa.1 ER).1
 have h1:=(aDs.1 hd) j (aDN.2 vg);simp only[aDC,aDn,aEk]at h1;rcases h1 with (h1|h1)|h1;subst h1;rw[mf]at hj;cases hj;exact h1 sD;have:=h.closed j i hj h1;rw[mf]at this;cases this):U:=h
theorem aHj(h:U:=by refine h.done j d ?_ hd;exact aHD):U:=h
theorem aaB(ht:tidy md ops a0.tmps.size=true)(hm:gW Φ)
  (hops:∀i o,ops[i]?=some o->Qw P md ops Q Φ a0 w0 i o)
  (hQ:∀a w,Ev w0 w->a.defers=a0.defers->a.tmps.size=a0.tmps.size->(∀d,nobody ops d=true->a.eval (.tmp d)=a0.eval (.tmp d))->
   (∀i d,bG ops i=some d->bu Φ i (a.eval (.tmp d)) w)->Q .normal a w):
  ∀(fuel:Nat) (listed:Array Bool) (a:Act) (w:ak),dw listed ops.size<=fuel->Mid md ops Φ a0 w0 listed a w->wpAny P md ops Q fuel listed a w:=by
 have fin:∀(listed:Array Bool) (a:Act) (w:ak),Region.ready md ops listed=[]->Mid md ops Φ a0 w0 listed a w->Q .normal a w:=by intro listed a w hr h;have hall:=lJ ht h.size hr;refine hQ a w h.ev h.defers h.slots (λd hd=>h.keep d λi hi hid=>?_) (λi d hd=>h.done i d (hall i ?_) hd);exact aG8;exact aIa
 intro fuel
 induction fuel with
 | zero=>
  intro listed a w hu h;have hr:Region.ready md ops listed=[]:=by exact aGh
  exact⟨hr,fin listed a w hr h⟩
 | succ fuel ih=>
  intro listed a w hu h;refine⟨λhr=>fin listed a w hr h,λi hi=>?_⟩;obtain⟨h0,o,ho,hall⟩:=aE7.1 hi;have hlt:i<ops.size:=(aDa.1 ho).1;have hl:i<listed.size:=by rw[h.size];exact hlt
  have mf:listed.getD i false=false:=by simpa[hl] using h0
  have hcount:=jI h.size hlt mf;refine wpOp_step ho λK' hK'=>?_;refine hops i o ho a w h.ev h.defers (λd hd=>h.keep d λj hj sD=>?_) (λj d hp hd=>?_) K' (λv w' hE hv=>hK' _ _ (ih _ _ _ ae (h.step ht hm ho hi hE hv)));exact aF9;exact aHj
theorem aIB(h:U:=by intro i j hi;exfalso;by_cases hlt:i<ops.size<;>simp[hlt]at hi):U:=h
theorem aIC(h:U:=by intro i d hi;exfalso;by_cases hlt:i<ops.size<;>simp[hlt]at hi):U:=h
theorem Oe{id:Nat}(dH:P.follows .mixedOrders=true)(Φ:List (au->ak->Prop))(ht:tidy .any ops a0.tmps.size=true)(hm:gW Φ)
  (hops:∀i o,ops[i]?=some o->Qw P .any ops Q Φ a0 w0 i o)
  (hQ:∀a w,Ev w0 w->a.defers=a0.defers->a.tmps.size=a0.tmps.size->(∀d,nobody ops d=true->a.eval (.tmp d)=a0.eval (.tmp d))->
   (∀i d,bG ops i=some d->bu Φ i (a.eval (.tmp d)) w)->Q .normal a w):
  (Code.region id ops true).wp P Q a0 w0:=by
 refine wp_region_any dH (aaB ht hm hops hQ ops.size _ _ _ ?_ ⟨aj,?_,rfl,rfl,?_,λ_ _=>rfl,?_⟩);unfold dw;exact aDr aEu aj;exact⟨rfl,rfl,rfl,aC8 _,λ_ _=>rfl⟩;exact aIB;exact aIC
theorem eY{R:Nat->Oper->Prop}(k:Nat):∀i o,(([]:List Oper).toArray)[i]?=some o->R (k+i) o:=by intro i o h;simp at h
theorem az{R:Nat->Oper->Prop}{o0:Oper}{l:List Oper}(k:Nat)(h0:R k o0)(h:∀i o,l.toArray[i]?=some o->R (k+1+i) o):∀i o,(o0::l).toArray[i]?=some o->R (k+i) o:=by
 intro i o hi
 cases i with
 | zero=>simp at hi;subst hi;exact h0
 | succ i=>
  have:=h i o (by simpa using hi);rwa [show k+1+i=k+(i+1) by omega]at this
theorem OU{R:Nat->Oper->Prop}{ops:Array Oper}(h:∀i o,ops[i]?=some o->R (0+i) o):∀i o,ops[i]?=some o->R i o:=by intro i o hi;have:=h i o hi;rwa [aDt]at this
theorem JP{a:Act}{j d:Nat}{b:Bool}(hd:bG ops j=some d)(h:a.eval (.tmp d)=.bool b):yielded ops a.tmps j=some b:=by unfold bG at hd;unfold yielded;rw[hd,Option.bind_some];simp only[Act.eval]at h;by_cases hlt:d<a.tmps.size;simp[hlt]at h;simp[hlt,h];simp[hlt,undef]at h
structure Ctx(md:Region.Mode)(ops:Array Oper)(Φ:List (au->ak->Prop))(a0:Act)(w0:ak)(i:Nat)(a:Act)(w:ak):Prop where
 ev:Ev w0 w
 old:∀d,later md ops i d=true->a.eval (.tmp d)=a0.eval (.tmp d)
 new:∀(j:Nat) (d:Tmp) (_:b_ md ops i j=true:=by kernel_rfl) (_:bG ops j=some d:=by kernel_rfl),bu Φ j (a.eval (.tmp d)) w
theorem Ctx.was{i:Nat}{a:Act}{w:ak}(c:Ctx md ops Φ a0 w0 i a w)(d:Nat){v:au}(hv:a0.eval (.tmp d)=v)(h:later md ops i d=true:=by kernel_rfl):a.eval (.tmp d)=v:=(c.old d h).trans hv
theorem Ctx.got{i:Nat}{a:Act}{w:ak}(c:Ctx md ops Φ a0 w0 i a w)(j d:Nat){φ:au->ak->Prop}(h:b_ md ops i j=true)(hd:bG ops j=some d)(hφ:bu Φ j=φ):φ (a.eval (.tmp d)) w:=hφ▸c.new j d h hd
theorem aF{i:Nat}{o:Oper}(h:∀a w,Ctx md ops Φ a0 w0 i a w->Region.wanted o (yielded ops a.tmps)=true/\∃v,(execOp a.eval o).run P w=.ok (.value v) w/\bu Φ i v w):Qw P md ops Q Φ a0 w0 i o:=by intro a w hE _ hold hnew K hK;obtain⟨hw,v,hr,hv⟩:=h a w ⟨hE,hold,hnew⟩;rw[if_pos hw];unfold Oper.wp;rw[hr];exact hK v w (Ev.refl w) hv
theorem JQ{i:Nat}{o:Oper}(h:∀a w,Ctx md ops Φ a0 w0 i a w->Region.wanted o (yielded ops a.tmps)=true/\∃v w',(execOp a.eval o).run P w=.ok (.value v) w'/\Ev w w'/\bu Φ i v w'):Qw P md ops Q Φ a0 w0 i o:=by intro a w hE _ hold hnew K hK;obtain⟨hw,v,w',hr,TW,hv⟩:=h a w ⟨hE,hold,hnew⟩;rw[if_pos hw];unfold Oper.wp;rw[hr];exact hK v w' TW hv
theorem eP{i:Nat}{o:Oper}(h:∀a w,Ctx md ops Φ a0 w0 i a w->Region.wanted o (yielded ops a.tmps)=true/\∃f args,(execOp a.eval o).run P w=.ok (.enter f args) w/\
  Calls P f args w λe w'=>∃v,e=.returned v/\Ev w w'/\bu Φ i v w'):Qw P md ops Q Φ a0 w0 i o:=by
 intro a w hE _ hold hnew K hK;obtain⟨hw,f,args,hr,hc⟩:=h a w ⟨hE,hold,hnew⟩;rw[if_pos hw];unfold Oper.wp;rw[hr];refine hc.mono ?_;rintro e w' ⟨v,rfl,TW,hv⟩;exact hK v w' TW hv
theorem uu{i:Nat}{o:Oper}(h:∀a w,Ctx md ops Φ a0 w0 i a w->Region.wanted o (yielded ops a.tmps)=false/\bu Φ i undef w):Qw P md ops Q Φ a0 w0 i o:=by intro a w hE _ hold hnew K hK;obtain⟨hw,hv⟩:=h a w ⟨hE,hold,hnew⟩;rw[if_neg (by rw[hw];exact aEs)];exact hK undef w (Ev.refl w) hv
theorem run_move{ρ:Operand->au}{o:Oper}(x:Operand)(h:o.op=.move x)(w:ak):(execOp ρ o).run P w=.ok (.value (ρ x)) w:=by unfold execOp;rw[h];rfl
theorem run_assign{ρ:Operand->au}{o:Oper}(x:Operand)(h:o.op=.assign x)(w:ak):(execOp ρ o).run P w=.ok (.value (ρ x)) w:=by unfold execOp;rw[h];rfl
theorem iZ{ρ:Operand->au}{o:Oper}{c x y:Operand}(ho:o.op=.pick c x y)(h:ρ c=.bool true)(w:ak):(execOp ρ o).run P w=.ok (.value (ρ x)) w:=by unfold execOp;rw[ho];simp[h,asBool]
theorem yM{ρ:Operand->au}{o:Oper}{c x y:Operand}(ho:o.op=.pick c x y)(h:ρ c=.bool false)(w:ak):(execOp ρ o).run P w=.ok (.value (ρ y)) w:=by unfold execOp;rw[ho];simp[h,asBool]
theorem evc(a:Act)(v:au):a.eval (.const v)=v:=rfl
def E_ (P : Program) (f : FuncId) : Bool := match P.funcs[f]? with | some fn => !(fn.name == "runtime.NumGoroutine") && !fn.body.isNone | none => false
theorem Ff{f:FuncId}(h:E_ P f=true)(args:Array au)(w:ak):(callFunc f args).run P w=.ok (.enter f args) w:=by
 unfold E_ at h
 cases hf:P.funcs[f]? with
 | none=>simp[hf]at h
 | some fn=>
  simp only[hf,aC9,aEJ]at h;have h1 : ¬ fn.name = "runtime.NumGoroutine" := by simpa using h.1
  have h2:¬fn.body=none:=by intro e;simp[e]at h
  simp[callFunc,hf,h1,h2]
theorem bK{a:Act}{o:Oper}(f:FuncId)(xs:Array Operand)(ts:Array TypeId)(ho:o.op=.call {callee:=.value (.func f),args:=xs,argTypes:=ts})(h:E_ P f=true)(w:ak):
  (execOp a.eval o).run P w=.ok (.enter f (xs.map a.eval)) w:=by
 unfold execOp;rw[ho];simp[resolve,Act.eval,Deferred.ofValue,invoke];exact Ff h _ w
theorem ay{o:Oper}{y:Nat->Option Bool}(h:o.guard=none):Region.wanted o y=true:=by simp[Region.wanted,h]
theorem aH{o:Oper}{a:Act}{g d:Nat}{b:Bool}(h:o.guard=some (g,b))(hd:bG ops g=some d)(hv:a.eval (.tmp d)=.bool b):Region.wanted o (yielded ops a.tmps)=true:=by simp[Region.wanted,h,JP hd hv]
theorem mZ{o:Oper}{a:Act}{g d:Nat}{b c:Bool}(h:o.guard=some (g,b))(hd:bG ops g=some d)(hv:a.eval (.tmp d)=.bool c)(hne:c≠b):Region.wanted o (yielded ops a.tmps)=false:=by simp[Region.wanted,h,JP hd hv,hne]
theorem nN{a:Act}{n:Nat}(h:a.tmps.size=n):a=⟨((List.range n).map λd=>a.eval (.tmp d)).toArray,a.defers⟩:=by
 have e:a.tmps=((List.range n).map λd=>a.eval (.tmp d)).toArray:=by apply Array.ext;simp[h];intro i h1 h2;simp[Act.eval,h1]
 cases a
 simp only at e|-;rw[<-e]
theorem bD{id:Nat}(dH:P.follows .mixedOrders=true)(Φ:List (au->ak->Prop))(n:Nat)(hn:a0.tmps.size=n)(ht:tidy .any ops n=true)(hm:gW Φ)
  (hops:∀i o,ops[i]?=some o->Qw P .any ops Q Φ a0 w0 (0+i) o)
  (hQ:∀(s:Nat->au) w,Ev w0 w->(∀(d:Tmp) (_:nobody ops d=true:=by kernel_rfl),s d=a0.eval (.tmp d))->
   (∀(i:Nat) (d:Tmp) (_:bG ops i=some d:=by kernel_rfl),bu Φ i (s d) w)->Q .normal ⟨((List.range n).map s).toArray,a0.defers⟩ w):
  (Code.region id ops true).wp P Q a0 w0:=by
 subst hn;refine Oe dH Φ ht hm (OU hops) ?_;intro a w hE hd hs hold hnew;rw[nN hs,hd];exact hQ (λd=>a.eval (.tmp d)) w hE hold hnew
end
theorem aC{w:ak}{o:Obj}:Ev w (w.alloc o):=Ev.alloc w o
theorem aS{w:ak}:Ev w w:=Ev.refl w
section
variable {P:Program} {md:Region.Mode} {ops:Array Oper} {Q:Exit->Act->ak->Prop} {Φ:List (au->ak->Prop)} {a0:Act} {w0:ak}
theorem UU{R:Nat->Oper->Prop}{m:Nat}(k:Nat)(o0:Oper)(hk:m<=k):∀i o,([o0].toArray)[i]?=some o->k+i<m->R (k+i) o:=by intro i o _ h;omega
theorem aHd(h:U:=by
 intro i o hi hlt
 cases i with
 | zero=>simp at hi;subst hi;exact h0
 | succ i=>
  have:=h i o (by simpa using hi) ae;rwa [show k+1+i=k+(i+1) by omega]at this):U:=h
theorem bW{R:Nat->Oper->Prop}{m:Nat}{o0:Oper}{l:List Oper}(k:Nat)(h0:R k o0)(h:∀i o,l.toArray[i]?=some o->k+1+i<m->R (k+1+i) o):∀i o,(o0::l).toArray[i]?=some o->k+i<m->R (k+i) o:=by exact aHd
theorem Lj{R:Nat->Oper->Prop}{m:Nat}{ops:Array Oper}(h:∀i o,ops[i]?=some o->0+i<m->R (0+i) o):∀i o,ops[i]?=some o->i<m->R i o:=by intro i o hi hlt;have:=h i o hi ae;rwa [aDt]at this
theorem sO{o:Oper}{a:Act}{w w':ak}{K:Act->ak->Prop}(h:(execOp a.eval o).run P w=.ok .skip w')(hk:K (a.put o.dst undef) w'):Oper.wp P o a w K Q:=by unfold Oper.wp;rw[h];exact hk
end
section
variable {P:Program} {md:Region.Mode} {ops:Array Oper} {Q:Exit->Act->ak->Prop} {Φ:List (au->ak->Prop)} {a0:Act} {w0:ak}
end
def ZK(md:Region.Mode)(ops:Array Oper)(D:List Nat)(p j i:Nat):Bool:=!D.contains i||j==p||b_ md ops p j
def AnyW(φ:au->ak->Prop):Prop:=∀v w w',φ v w->φ v w'
theorem any_eq(x:au):AnyW (λv _=>v=x):=λ_ _ _ h=>h
def ad_(md:Region.Mode)(ops:Array Oper)(D:List Nat)(p:Nat):Nat->List (au->ak->Prop)->Prop
 | _,[]=>True
 | k,φ::l=>((k==p||b_ md ops k p||D.contains k)=true∨AnyW φ)/\ad_ md ops D p (k+1) l
theorem Lm{md:Region.Mode}{ops:Array Oper}{D:List Nat}{p:Nat}:∀(Φ:List (au->ak->Prop)) (k:Nat),ad_ md ops D p k Φ->∀i,(k+i==p||b_ md ops (k+i) p||D.contains (k+i))=false->AnyW (bu Φ i)
 | [],_,_,i,_=>λ_ _ _ _=>trivial
 | φ::l,k,h,0,hn=>by rcases h.1 with h1|h1;rw[aDw,h1]at hn;cases hn;exact h1
 | φ::l,k,h,i+1,hn=>Lm l (k+1) h.2 i (by rwa [show k+1+i=k+(i+1) by omega])
section
variable {P:Program} {md:Region.Mode} {ops:Array Oper} {Q:Exit->Act->ak->Prop} {Φ:List (au->ak->Prop)} {a0:Act} {w0:ak} {D:List Nat} {p:Nat}
def ou(w0:ak)(p i:Nat)(w w':ak):Prop:=if i=p then Ev w0 w' else Ev w w'
structure aea(md:Region.Mode)(ops:Array Oper)(Φ:List (au->ak->Prop))(a0:Act)(w0:ak)(D:List Nat)(p i:Nat)(a:Act)(w:ak):Prop where
 ev:Ev w0 w
 old:∀d,later md ops i d=true->a.eval (.tmp d)=a0.eval (.tmp d)
 new:∀(j:Nat) (d:Tmp) (_:b_ md ops i j=true:=by kernel_rfl) (_:bG ops j=some d:=by kernel_rfl) (_:ZK md ops D p i j=true:=by kernel_rfl),bu Φ j (a.eval (.tmp d)) w
theorem aea.was{i:Nat}{a:Act}{w:ak}(c:aea md ops Φ a0 w0 D p i a w)(d:Nat){v:au}(hv:a0.eval (.tmp d)=v)(h:later md ops i d=true:=by kernel_rfl):a.eval (.tmp d)=v:=(c.old d h).trans hv
def ZL(P:Program)(md:Region.Mode)(ops:Array Oper)(Q:Exit->Act->ak->Prop)(Φ:List (au->ak->Prop))(a0:Act)(w0:ak)(D:List Nat)(p i:Nat)(o:Oper):Prop:=
 ∀(a:Act) (w:ak),aea md ops Φ a0 w0 D p i a w->
  ∀K:Act->ak->Prop,(∀v w',ou w0 p i w w'->bu Φ i v w'->K (a.put o.dst v) w')->
  if Region.wanted o (yielded ops a.tmps)=true then Oper.wp P o a w K Q else K (a.put o.dst undef) w
structure ahF(md:Region.Mode)(ops:Array Oper)(Φ:List (au->ak->Prop))(a0:Act)(w0:ak)(D:List Nat)(p:Nat)(listed:Array Bool)(a:Act)(w:ak):Prop where
 size:listed.size=ops.size
 ev:Ev w0 w
 defers:a.defers=a0.defers
 slots:a.tmps.size=a0.tmps.size
 closed:∀i j,listed.getD i false=true->b_ md ops i j=true->listed.getD j false=true
 keep:∀d,(∀i,listed.getD i false=true->bG ops i≠some d)->a.eval (.tmp d)=a0.eval (.tmp d)
 done:∀i d,listed.getD i false=true->bG ops i=some d->(listed.getD p false=false∨i=p∨D.contains i=false)->bu Φ i (a.eval (.tmp d)) w
theorem ahF.step(ht:tidy md ops a0.tmps.size=true)(hm:gW Φ)(hd:ad_ md ops D p 0 Φ){listed:Array Bool}{a:Act}{w w':ak}(h:ahF md ops Φ a0 w0 D p listed a w){i:Nat}{o:Oper}(ho:ops[i]?=some o)
  (hr:i∈Region.ready md ops listed) {v:au} (mf:listed.getD i false=false) (hE:ou w0 p i w w') (hv:bu Φ i v w'):ahF md ops Φ a0 w0 D p (listed.setIfInBounds i true) (a.put o.dst v) w':=by
 have hi:i<ops.size:=(aDa.1 ho).1;have yD:bG ops i=o.dst:=by simp[bG,ho]
 have hset:∀j,(listed.setIfInBounds i true).getD j false=true->j=i∨listed.getD j false=true:=by exact aH_
 refine⟨by simpa using h.size,?_,by rw[sF];exact h.defers,by rw[size_put];exact h.slots,?_,?_,?_⟩;unfold ou at hE;split at hE;exact hE;exact h.ev.trans hE;exact aGa;exact aHs;intro j d hj hdd hlive;by_cases hji:j=i;subst hji;rw[yD]at hdd;rw[hdd];have hsz:=(iG ht (by rw[yD];exact hdd)).1;rw[eval_put_same (by rw[h.slots];exact hsz)];exact hv;have hj':listed.getD j false=true:=(hset j hj).resolve_left hji;have hne:o.dst≠some d:=by rw[<-yD];exact(iG ht hdd).2 i (λe=>hji e.symm)
 rw[dG hne];by_cases hip:i=p;subst hip;have akX:D.contains j=false:=by rcases hlive with h1|h1|h1;rw[show (listed.setIfInBounds i true).getD i false=true by simp[h.size,hi]]at h1;cases h1;exact absurd h1 hji;exact h1
 have hnp:b_ md ops j i=false:=by
  cases hpm:b_ md ops j i
  rfl;have:=h.closed j i hj' hpm;rw[mf]at this;cases this
 refine Lm Φ 0 hd j ?_ _ _ _ (h.done j d hj' hdd (.inl mf));rw[aDt,hnp,akX];simp[hji];have TW:Ev w w':=by unfold ou at hE;rwa [if_neg hip]at hE
 refine jH Φ hm j _ _ _ TW (h.done j d hj' hdd ?_);rcases hlive with h1|h1|h1;rw[aE6 false hip]at h1;exact .inl h1;exact .inr (.inl h1);exact .inr (.inr h1)
theorem UW(ht:tidy md ops a0.tmps.size=true)(hm:gW Φ)(hd:ad_ md ops D p 0 Φ){m:Nat}{om:Oper}(UX:ops[m]?=some om)(hsz:ops.size=m+1)(hall:(List.range m).all (λj=>b_ md ops m j||(List.range m).any (λk=>b_ md ops m k&&b_ md ops k j))=true)
  (hops:∀i o,ops[i]?=some o->i<m->ZL P md ops Q Φ a0 w0 D p i o)
  (hQ:∀a w,Ev w0 w->a.defers=a0.defers->a.tmps.size=a0.tmps.size->(∀d,nobody ops d=true->a.eval (.tmp d)=a0.eval (.tmp d))->
   (∀i d,i<m->(i==p||!D.contains i)=true->bG ops i=some d->bu Φ i (a.eval (.tmp d)) w)->
   Region.wanted om (yielded ops a.tmps)=true/\Oper.wp P om a w (Q .normal) Q):
  ∀(fuel:Nat) (listed:Array Bool) (a:Act) (w:ak),dw listed ops.size<=fuel->listed.getD m false=false->ahF md ops Φ a0 w0 D p listed a w->wpAny P md ops Q fuel listed a w:=by
 have abq:m<ops.size:=ae;intro fuel
 induction fuel with
 | zero=>
  intro listed a w hu hml h;exfalso;have:dw listed ops.size=0:=ae;unfold dw at this;rw[aEg]at this;exact this m (aDN.2 abq) (by rw[hml];rfl)
 | succ fuel ih=>
  intro listed a w hu hml h;refine⟨λhr=>?_,λi hi=>?_⟩;have:=lJ ht h.size hr m abq;rw[hml]at this
  cases this
  obtain⟨h0,o,ho,hbef⟩:=aE7.1 hi;have hlt:i<ops.size:=(aDa.1 ho).1;have hl:i<listed.size:=by rw[h.size];exact hlt
  have mf:listed.getD i false=false:=by simpa[hl] using h0
  by_cases wM:i=m;subst wM;rw[UX]at ho;obtain rfl:=aDp ho;have hdone:∀j,j<i->listed.getD j false=true:=by
   intro j hj;have aoi:∀k,b_ md ops i k=true->listed.getD k false=true:=λk hp=>by unfold b_ at hp;simp only[UX]at hp;obtain⟨e,he,hb⟩:=aD4.1 hp;simp only[aC9,aDn]at hb;rw[<-hb.2];exact hbef e he hb.1
   have hp:=(aDs.1 hall) j (aDN.2 hj);rcases aDC _ _▸hp with h1|h1;exact aoi j h1;obtain⟨k,_,hk⟩:=aEj.1 h1;rw[aC9]at hk;exact h.closed k j (aoi k hk.1) hk.2
  obtain⟨hw,hwp⟩:=hQ a w h.ev h.defers h.slots (λd hd=>h.keep d λj hj sD=>by
    have vg:j<ops.size:=by
     unfold bG at sD
     cases ER:ops[j]? with
     | none=>simp[ER]at sD
     | some o=>exact(aDa.1 ER).1
    have:=(aDs.1 hd) j (aDN.2 vg);simp[sD]at this) (λj d hj hlv hd=>h.done j d (hdone j hj) hd (by
     simp only[aDC,aDn,aEJ]at hlv;exact .inr hlv))
  refine wpOp_step UX λK' hK'=>?_;rw[if_pos hw];refine Oper.wp_mono (λa' w' hq=>hK' a' w' (wpAny_done ?_ hq fuel)) hwp;apply aEd.2;intro j hj;obtain⟨hj0,oj,ER,_⟩:=aE7.1 hj;have vg:j<ops.size:=(aDa.1 ER).1;have hlj:j<(listed.setIfInBounds i true).size:=by simp[h.size,vg]
  have hjt:(listed.setIfInBounds i true).getD j false=true:=by by_cases hji:j=i;subst hji;simp[hl];exact aE8 (hdone j ae)
  simp only[Array.getD_eq_getD_getElem?,aEH hlj,Option.getD_some]at hj0 hjt;rw[hj0]at hjt
  cases hjt
  have hcount:=jI h.size hlt mf;have hpre:∀j,b_ md ops i j=true->listed.getD j false=true:=λj hp=>by unfold b_ at hp;simp only[ho]at hp;obtain⟨e,he,hb⟩:=aD4.1 hp;simp only[aC9,aDn]at hb;rw[<-hb.2];exact hbef e he hb.1
  refine wpOp_step ho λK' hK'=>?_;refine hops i o ho ae a w ⟨h.ev,λd hd=>h.keep d λj hj sD=>?_,λj d hp hd hav=>?_⟩ K' (λv w' hE hv=>hK' _ _ (ih _ _ _ ae ?_ (h.step ht hm hd ho hi mf hE hv)));exact aF9;refine h.done j d (hpre j hp) hd ?_
  cases hpl:listed.getD p false with
  | false=>exact .inl rfl
  | true=>
   refine .inr ?_;unfold ZK at hav
   cases hdd:D.contains j with
   | false=>exact .inr rfl
   | true=>
    exfalso;rw[hdd]at hav;simp only[Bool.not_true,Bool.false_or,aDC,aDn]at hav;rcases hav with h1|h1;subst h1;rw[mf]at hpl;cases hpl;have:=h.closed p i hpl h1;rw[mf]at this;cases this
  rw[aE6 false wM];exact hml
theorem yx{id:Nat}(dH:P.follows .mixedOrders=true)(D:List Nat)(p:Nat)(Φ:List (au->ak->Prop))(n:Nat)(hn:a0.tmps.size=n)(m:Nat)(om:Oper)(UX:ops[m]?=some om)(hsz:ops.size=m+1)
  (hall:(List.range m).all (λj=>b_ .any ops m j||(List.range m).any (λk=>b_ .any ops m k&&b_ .any ops k j))=true) (ht:tidy .any ops n=true) (hm:gW Φ) (hdd:ad_ .any ops D p 0 Φ)
  (hops:∀i o,ops[i]?=some o->i<m->ZL P .any ops Q Φ a0 w0 D p i o)
  (hQ:∀(s:Nat->au) w,Ev w0 w->(∀(d:Tmp) (_:nobody ops d=true:=by kernel_rfl),s d=a0.eval (.tmp d))->(∀i d,i<m->(i==p||!D.contains i)=true->bG ops i=some d->bu Φ i (s d) w)->
   Region.wanted om (yielded ops ((List.range n).map s).toArray)=true/\Oper.wp P om ⟨((List.range n).map s).toArray,a0.defers⟩ w (Q .normal) Q):
  (Code.region id ops true).wp P Q a0 w0:=by
 subst hn;refine wp_region_any dH (UW ht hm hdd UX hsz hall hops ?_ ops.size _ _ _ ?_ ?_ ⟨aj,?_,rfl,rfl,?_,λ_ _=>rfl,?_⟩);intro a w hE hd hs hold hnew;have hf:=nN hs;rw[hd]at hf;have hq:=hQ (λd=>a.eval (.tmp d)) w hE hold hnew;rw[hf];rw[<-hf]at hq|-;exact⟨by have:=hq.1;rwa [show ((List.range a0.tmps.size).map λd=>a.eval (.tmp d)).toArray=a.tmps from (aD8 Act.tmps hf).symm]at this,hq.2⟩;unfold dw;exact aDr aEu aj;have hlt:m<ops.size:=ae;simp[hlt];exact⟨rfl,rfl,rfl,aC8 _,λ_ _=>rfl⟩;exact aIB;exact aIC
theorem dP{i:Nat}{o:Oper}(hi:i≠p)(h:∀a w,aea md ops Φ a0 w0 D p i a w->Region.wanted o (yielded ops a.tmps)=true/\∃v,(execOp a.eval o).run P w=.ok (.value v) w/\bu Φ i v w):ZL P md ops Q Φ a0 w0 D p i o:=by intro a w c L hL;obtain⟨hw,v,hr,hv⟩:=h a w c;rw[if_pos hw];unfold Oper.wp;rw[hr];exact hL v w (by unfold ou;rw[if_neg hi];exact Ev.refl w) hv
theorem nC{i:Nat}{o:Oper}(h:∀a w,aea md ops Φ a0 w0 D p i a w->Region.wanted o (yielded ops a.tmps)=true/\∃v w',(execOp a.eval o).run P w=.ok (.value v) w'/\ou w0 p i w w'/\bu Φ i v w'):ZL P md ops Q Φ a0 w0 D p i o:=by intro a w c L hL;obtain⟨hw,v,w',hr,TW,hv⟩:=h a w c;rw[if_pos hw];unfold Oper.wp;rw[hr];exact hL v w' TW hv
end
section
variable {P:Program} {md:Region.Mode} {ops:Array Oper} {Q:Exit->Act->ak->Prop} {Φ:List (au->ak->Prop)} {a0:Act} {w0:ak} {J:ak->ak->Prop} {m dm:Nat} {Ψ:au->ak->Prop}
def zx(md:Region.Mode)(ops:Array Oper)(J:ak->ak->Prop)(m:Nat):Nat->List (au->ak->Prop)->Prop
 | _,[]=>True
 | k,φ::l=>(k=m∨b_ md ops k m=true∨∀v w w',J w w'->φ v w->φ v w')/\zx md ops J m (k+1) l
theorem DV:∀(Φ:List (au->ak->Prop)) (k:Nat),zx md ops J m k Φ->∀i,k+i≠m->b_ md ops (k+i) m=false->∀v w w',J w w'->bu Φ i v w->bu Φ i v w'
 | [],_,_,i,_,_=>λ_ _ _ _ _=>trivial
 | φ::l,k,h,0,hn,hp=>by rcases h.1 with h1|h1|h1;exact absurd h1 hn;rw[aDw,h1]at hp;cases hp;exact h1
 | φ::l,k,h,i+1,hn,hp=>DV l (k+1) h.2 i ae (by rwa [show k+1+i=k+(i+1) by omega])
def ZO(P:Program)(md:Region.Mode)(ops:Array Oper)(Q:Exit->Act->ak->Prop)(Φ:List (au->ak->Prop))(a0:Act)(w0:ak)(J:ak->ak->Prop)(m dm:Nat)(Ψ:au->ak->Prop)(o:Oper):Prop:=
 o.dst=none/\∀(a:Act) (w:ak),Ctx md ops Φ a0 w0 m a w->Region.wanted o (yielded ops a.tmps)=true/\∃w',(execOp a.eval o).run P w=.ok .skip w'/\J w w'/\Ev w0 w'/\Ψ (a.eval (.tmp dm)) w'
theorem Mid.store(hmn:zx md ops J m 0 Φ){listed:Array Bool}{a:Act}{w w':ak}(h:Mid md ops Φ a0 w0 listed a w){o:Oper}(ho:ops[m]?=some o)(hd0:o.dst=none)
  (hr:m∈Region.ready md ops listed) (mf:listed.getD m false=false) (hJ:J w w') (hE:Ev w0 w'):Mid md ops Φ a0 w0 (listed.setIfInBounds m true) a w':=by
 have hi:m<ops.size:=(aDa.1 ho).1;have yD:bG ops m=none:=by simp[bG,ho,hd0]
 have hset:∀j,(listed.setIfInBounds m true).getD j false=true->j=m∨listed.getD j false=true:=by intro j hj;by_cases qN:m=j;exact .inl qN.symm;rw[aE6 false qN]at hj;exact .inr hj
 refine⟨by simpa using h.size,hE,h.defers,h.slots,?_,?_,?_⟩;exact aGa;intro d hd;exact h.keep d λj hj=>hd j (aE8 hj);intro j d hj hd;rcases hset j hj with rfl|hj';rw[yD]at hd;cases hd;have Zy:j≠m:=by rintro rfl;rw[yD]at hd;cases hd
 refine DV Φ 0 hmn j ae ?_ _ _ _ hJ (h.done j d hj' hd);rw[aDt]
 cases hpm:b_ md ops j m
 rfl;have:=h.closed j m hj' hpm;rw[mf]at this;cases this
theorem XX(ht:tidy md ops a0.tmps.size=true)(hm:gW Φ)(hmn:zx md ops J m 0 Φ)(hΨ:kK Ψ){om:Oper}(UX:ops[m]?=some om){jm:Nat}(Zy:b_ md ops m jm=true)(sD:bG ops jm=some dm)
  (hops:∀i o,ops[i]?=some o->i≠m->Qw P md ops Q Φ a0 w0 i o) (hst:ZO P md ops Q Φ a0 w0 J m dm Ψ om)
  (hQ:∀a w,Ev w0 w->a.defers=a0.defers->a.tmps.size=a0.tmps.size->(∀d,nobody ops d=true->a.eval (.tmp d)=a0.eval (.tmp d))->
   (∀i d,bG ops i=some d->bu Φ i (a.eval (.tmp d)) w)->Ψ (a.eval (.tmp dm)) w->Q .normal a w):
  ∀(fuel:Nat) (listed:Array Bool) (a:Act) (w:ak),dw listed ops.size<=fuel->Mid md ops Φ a0 w0 listed a w->(listed.getD m false=true->Ψ (a.eval (.tmp dm)) w)->wpAny P md ops Q fuel listed a w:=by
 have abq:m<ops.size:=(aDa.1 UX).1;have fin:∀(listed:Array Bool) (a:Act) (w:ak),Region.ready md ops listed=[]->Mid md ops Φ a0 w0 listed a w->(listed.getD m false=true->Ψ (a.eval (.tmp dm)) w)->Q .normal a w:=by intro listed a w hr h hp;have hall:=lJ ht h.size hr;refine hQ a w h.ev h.defers h.slots (λd hd=>h.keep d λi hi hid=>?_) (λi d hd=>h.done i d (hall i ?_) hd) (hp (hall m abq));exact aG8;exact aIa
 intro fuel
 induction fuel with
 | zero=>
  intro listed a w hu h hpost;have hr:Region.ready md ops listed=[]:=by exact aGh
  exact⟨hr,fin listed a w hr h hpost⟩
 | succ fuel ih=>
  intro listed a w hu h hpost;refine⟨λhr=>fin listed a w hr h hpost,λi hi=>?_⟩;obtain⟨h0,o,ho,hall⟩:=aE7.1 hi;have hlt:i<ops.size:=(aDa.1 ho).1;have hl:i<listed.size:=by rw[h.size];exact hlt
  have mf:listed.getD i false=false:=by simpa[hl] using h0
  have hcount:=jI h.size hlt mf;have hold:∀d,later md ops i d=true->a.eval (.tmp d)=a0.eval (.tmp d):=λd hd=>h.keep d λj hj sD=>by exact aF9
  have hnew:∀j d,b_ md ops i j=true->bG ops j=some d->bu Φ j (a.eval (.tmp d)) w:=λj d hp hd=>by exact aHj
  refine wpOp_step ho λK' hK'=>?_;by_cases wM:i=m;subst wM;rw[UX]at ho;obtain rfl:=aDp ho;obtain⟨hw,w',hrun,hJ,hE,yG⟩:=hst.2 a w ⟨h.ev,hold,hnew⟩;rw[if_pos hw];refine sO hrun ?_;have hput:a.put om.dst undef=a:=by rw[hst.1];rfl
  rw[hput];refine hK' _ _ ?_;exact ih _ _ _ ae (h.store hmn UX hst.1 hi mf hJ hE) λ_=>yG;refine hops i o ho wM a w h.ev h.defers hold hnew K' (λv w' hE hv=>hK' _ _ (ih _ _ _ ae (h.step ht hm ho hi hE hv) λhlm=>?_));rw[aE6 false wM]at hlm;have hp:=hpost hlm;have hjl:=h.closed m jm hlm Zy;have qN:i≠jm:=by rintro rfl;rw[mf]at hjl;cases hjl
  have hne:o.dst≠some dm:=by have:=(iG ht sD).2 i qN;simpa[bG,ho] using this
  rw[dG hne];exact hΨ _ _ _ hE hp
theorem Gf{id:Nat}(dH:P.follows .mixedOrders=true)(J:ak->ak->Prop)(m dm jm:Nat)(Ψ:au->ak->Prop)(Φ:List (au->ak->Prop))(n:Nat)(hn:a0.tmps.size=n)(ht:tidy .any ops n=true)(hm:gW Φ)(hmn:zx .any ops J m 0 Φ)(hΨ:kK Ψ)
  (om:Oper) (UX:ops[m]?=some om) (Zy:b_ .any ops m jm=true) (sD:bG ops jm=some dm)
  (hops:∀i o,ops[i]?=some o->0+i≠m->Qw P .any ops Q Φ a0 w0 (0+i) o) (hst:ZO P .any ops Q Φ a0 w0 J m dm Ψ om)
  (hQ:∀(s:Nat->au) w,Ev w0 w->(∀(d:Tmp) (_:nobody ops d=true:=by kernel_rfl),s d=a0.eval (.tmp d))->
   (∀(i:Nat) (d:Tmp) (_:bG ops i=some d:=by kernel_rfl),bu Φ i (s d) w)->Ψ (s dm) w->Q .normal ⟨((List.range n).map s).toArray,a0.defers⟩ w):
  (Code.region id ops true).wp P Q a0 w0:=by
 subst hn;refine wp_region_any dH (XX ht hm hmn hΨ UX Zy sD (λi o ho hi=>by have:=hops i o ho ae;rwa [aDt]at this) hst ?_ ops.size _ _ _ ?_ ⟨aj,?_,rfl,rfl,?_,λ_ _=>rfl,?_⟩ ?_);intro a w hE hd hs hold hnew hp;rw[nN hs,hd];exact hQ (λd=>a.eval (.tmp d)) w hE hold hnew hp;unfold dw;exact aDr aEu aj;exact⟨rfl,rfl,rfl,aC8 _,λ_ _=>rfl⟩;exact aIB;exact aIC;intro hi;exfalso;by_cases hlt:m<ops.size<;>simp[hlt]at hi
theorem lT{R:Nat->Oper->Prop}{m:Nat}{o0:Oper}{l:List Oper}(k:Nat)(h0:R k o0)(h:∀i o,l.toArray[i]?=some o->k+1+i≠m->R (k+1+i) o):∀i o,(o0::l).toArray[i]?=some o->k+i≠m->R (k+i) o:=by exact aHd
theorem abz{R:Nat->Oper->Prop}{o0:Oper}{l:List Oper}(k:Nat)(h:∀i o,l.toArray[i]?=some o->k+1+i≠k->R (k+1+i) o):∀i o,(o0::l).toArray[i]?=some o->k+i≠k->R (k+i) o:=by
 intro i o hi hlt
 cases i with
 | zero=>exact absurd rfl hlt
 | succ i=>
  have:=h i o (by simpa using hi) ae;rwa [show k+1+i=k+(i+1) by omega]at this
theorem ahS{R:Nat->Oper->Prop}{m:Nat}(k:Nat):∀i o,(([]:List Oper).toArray)[i]?=some o->k+i≠m->R (k+i) o:=by intro i o h;simp at h
end
section
variable {P:Program} {md:Region.Mode} {ops:Array Oper} {Q:Exit->Act->ak->Prop} {Φ:List (au->ak->Prop)} {a0:Act} {J:ak->ak->Prop} {I:ak->Prop} {ms:List Nat} {St:Nat->ak->Prop}
def reachC(md:Region.Mode)(ops:Array Oper):Nat->Nat->Nat->Bool
 | 0,i,j=>b_ md ops i j
 | n+1,i,j=>b_ md ops i j||(List.range ops.size).any λx=>b_ md ops i x&&reachC md ops n x j
def chainC(md:Region.Mode)(ops:Array Oper):List Nat->Bool
 | []=>true
 | [_]=>true
 | a::b::l=>reachC md ops 3 b a&&decide (a<b)&&chainC md ops (b::l)
def AB(J:ak->ak->Prop):List (au->ak->Prop)->Prop
 | []=>True
 | φ::l=>(∀v w w',J w w'->φ v w->φ v w')/\AB J l
theorem Ea:∀(Φ:List (au->ak->Prop)),AB J Φ->∀i v w w',J w w'->bu Φ i v w->bu Φ i v w'
 | [],_,i=>λ_ _ _ _ _=>trivial
 | φ::l,h,0=>h.1
 | φ::l,h,i+1=>Ea l h.2 i
structure xU(md:Region.Mode)(ops:Array Oper)(Φ:List (au->ak->Prop))(a0:Act)(I:ak->Prop)(i:Nat)(a:Act)(w:ak):Prop where
 inv:I w
 old:∀d,later md ops i d=true->a.eval (.tmp d)=a0.eval (.tmp d)
 new:∀(j:Nat) (d:Tmp) (_:b_ md ops i j=true:=by kernel_rfl) (_:bG ops j=some d:=by kernel_rfl),bu Φ j (a.eval (.tmp d)) w
theorem xU.was{i:Nat}{a:Act}{w:ak}(c:xU md ops Φ a0 I i a w)(d:Nat){v:au}(hv:a0.eval (.tmp d)=v)(h:later md ops i d=true:=by kernel_rfl):a.eval (.tmp d)=v:=(c.old d h).trans hv
theorem xU.got{i:Nat}{a:Act}{w:ak}(c:xU md ops Φ a0 I i a w)(j d:Nat){φ:au->ak->Prop}(h:b_ md ops i j=true)(hd:bG ops j=some d)(hφ:bu Φ j=φ):φ (a.eval (.tmp d)) w:=hφ▸c.new j d h hd
def P5(P:Program)(md:Region.Mode)(ops:Array Oper)(Q:Exit->Act->ak->Prop)(Φ:List (au->ak->Prop))(a0:Act)(I:ak->Prop)(i:Nat)(o:Oper):Prop:=
 ∀(a:Act) (w:ak),xU md ops Φ a0 I i a w->∀K:Act->ak->Prop,(∀v w',Ev w w'->I w'->bu Φ i v w'->K (a.put o.dst v) w')->
  if Region.wanted o (yielded ops a.tmps)=true then Oper.wp P o a w K Q else K (a.put o.dst undef) w
def MN(P:Program)(md:Region.Mode)(ops:Array Oper)(Q:Exit->Act->ak->Prop)(Φ:List (au->ak->Prop))(a0:Act)(I:ak->Prop)(J:ak->ak->Prop)(St:Nat->ak->Prop)(p i:Nat)(o:Oper):Prop:=
 ∀(a:Act) (w:ak),xU md ops Φ a0 I i a w->St p w->∀K:Act->ak->Prop,(∀v w',J w w'->I w'->St (p+1) w'->bu Φ i v w'->K (a.put o.dst v) w')->
  if Region.wanted o (yielded ops a.tmps)=true then Oper.wp P o a w K Q else K (a.put o.dst undef) w
def eU(listed:Array Bool)(ms:List Nat):Nat:=ms.countP λi=>listed.getD i false
structure RF(md:Region.Mode)(ops:Array Oper)(Φ:List (au->ak->Prop))(a0:Act)(I:ak->Prop)(ms:List Nat)(St:Nat->ak->Prop)(listed:Array Bool)(a:Act)(w:ak):Prop where
 size:listed.size=ops.size
 inv:I w
 defers:a.defers=a0.defers
 slots:a.tmps.size=a0.tmps.size
 closed:∀i j,listed.getD i false=true->b_ md ops i j=true->listed.getD j false=true
 keep:∀d,(∀i,listed.getD i false=true->bG ops i≠some d)->a.eval (.tmp d)=a0.eval (.tmp d)
 done:∀i d,listed.getD i false=true->bG ops i=some d->bu Φ i (a.eval (.tmp d)) w
 st:St (eU listed ms) w
theorem fO{listed:Array Bool}(hc:∀i j,listed.getD i false=true->b_ md ops i j=true->listed.getD j false=true):∀(n i j:Nat),reachC md ops n i j=true->listed.getD i false=true->listed.getD j false=true
 | 0,i,j,h,hl=>hc i j hl h
 | n+1,i,j,h,hl=>by unfold reachC at h;rw[aDC]at h;rcases h with h|h;exact hc i j hl h;obtain⟨x,_,hx⟩:=aEj.1 h;rw[aC9]at hx;exact fO hc n x j hx.2 (hc i x hl hx.1)
theorem xW:∀{a:Nat} {l:List Nat},chainC md ops (a::l)=true->chainC md ops l=true
 | a,[],_=>rfl
 | a,b::l,h=>by unfold chainC at h;rw[aC9]at h;exact h.2
theorem tY{listed:Array Bool}(hc:∀i j,listed.getD i false=true->b_ md ops i j=true->listed.getD j false=true):∀(a:Nat) (l:List Nat),chainC md ops (a::l)=true->listed.getD a false=false->eU listed (a::l)=0
 | a,[],_,h=>by unfold eU;rw[aE2 (by rw[h];exact aEs)];rfl
 | a,b::l,hch,h=>by
  have Yv:=hch;unfold chainC at Yv;rw[aC9,aC9]at Yv;have hb:listed.getD b false=false:=by
   cases hb:listed.getD b false
   rfl;have:=fO hc 3 b a Yv.1.1 hb;rw[h]at this;cases this
  have:=tY hc b l Yv.2 hb;unfold eU at this|-;rw[aE2 (by rw[h];exact aEs)];exact this
theorem Vw:∀(l:List Nat) (a:Nat),chainC md ops (a::l)=true->∀x∈l,a<x
 | [],a,_,x,hx=>by cases hx
 | b::l,a,h,x,hx=>by have h2:=h;unfold chainC at h2;rw[aC9,aC9]at h2;have hab:=aEq h2.1.2;rcases aDg.1 hx with rfl|hx;exact hab;exact Nat.lt_trans hab (Vw l b h2.2 x hx)
theorem zL{listed:Array Bool}(hc:∀i j,listed.getD i false=true->b_ md ops i j=true->listed.getD j false=true):∀(ms:List Nat) (p i:Nat),chainC md ops ms=true->ms[p]?=some i->listed.getD i false=false->(∀j n,reachC md ops n i j=true->i≠j->listed.getD j false=true)->eU listed ms=p
 | [],p,i,_,h,_,_=>by simp at h
 | [a],0,i,hch,h,hl,_=>by simp at h;subst h;exact tY hc a [] hch hl
 | [a],p+1,i,hch,h,hl,_=>by simp at h
 | a::b::l,0,i,hch,h,hl,_=>by simp at h;subst h;exact tY hc a (b::l) hch hl
 | a::b::l,p+1,i,hch,h,hl,hd=>by
  have Yv:=xW hch;have ih:=zL hc (b::l) p i Yv (by simpa using h) hl hd;have Jj:listed.getD a false=true:=by
   have hh:=hch;unfold chainC at hh;rw[aC9,aC9]at hh
   cases p with
   | zero=>
    simp at h;subst h;exact hd a 3 hh.1.1 (by have:=aEq hh.1.2;omega)
   | succ p=>
    have hbl:listed.getD b false=true:=by
     cases hbl:listed.getD b false
     have:=tY hc b l Yv hbl;rw[this]at ih;cases ih;rfl
    exact fO hc 3 b a hh.1.1 hbl
  unfold eU at ih|-;rw[List.countP_cons_of_pos (p:=λi=>listed.getD i false) Jj,ih]
theorem tZ{listed:Array Bool}{i:Nat}(hi:i<listed.size):∀ms:List Nat,i∉ms->eU (listed.setIfInBounds i true) ms=eU listed ms
 | [],_=>rfl
 | a::l,h=>by have hne:i≠a:=λe=>h (e▸aC' ..);have ih:=tZ hi l λhm=>h (aDc _ hm);unfold eU at ih|-;rw[List.countP_cons,List.countP_cons,ih,aE6 false hne]
theorem nH{listed:Array Bool}{i:Nat}(hi:i<listed.size)(mf:listed.getD i false=false):∀ms:List Nat,ms.Pairwise (·<·)->i∈ms->eU (listed.setIfInBounds i true) ms=eU listed ms+1
 | [],_,h=>by cases h
 | a::l,hp,h=>by rw[aDQ]at hp;rcases aDg.1 h with e|h;subst e;have hnm:i∉l:=λhm=>Nat.lt_irrefl _ (hp.1 i hm);have:=tZ hi l hnm;unfold eU at this|-;rw[List.countP_cons_of_pos (by simp[hi]),aE2 (by rw[mf];exact aEs),this];have hne:i≠a:=λe=>Nat.lt_irrefl _ (hp.1 a (e▸h));have ih:=nH hi mf l hp.2 h;unfold eU at ih|-;rw[List.countP_cons,List.countP_cons,ih,aE6 false hne];omega
theorem lU:∀ms:List Nat,chainC md ops ms=true->ms.Pairwise (·<·)
 | [],_=>List.Pairwise.nil
 | a::l,h=>aDQ.2 ⟨Vw l a h,lU l (xW h)⟩
theorem RF.step(ht:tidy md ops a0.tmps.size=true){listed:Array Bool}{a:Act}{w w':ak}(h:RF md ops Φ a0 I ms St listed a w){i:Nat}{o:Oper}(ho:ops[i]?=some o)
  (hr:i∈Region.ready md ops listed) {v:au} (hI:I w') (hkeep:∀j d,listed.getD j false=true->bG ops j=some d->bu Φ j (a.eval (.tmp d)) w') (hv:bu Φ i v w') (hst:St (eU (listed.setIfInBounds i true) ms) w'):RF md ops Φ a0 I ms St (listed.setIfInBounds i true) (a.put o.dst v) w':=by
 have hi:i<ops.size:=(aDa.1 ho).1;have yD:bG ops i=o.dst:=by simp[bG,ho]
 have hset:∀j,(listed.setIfInBounds i true).getD j false=true->j=i∨listed.getD j false=true:=by exact aH_
 refine⟨by simpa using h.size,hI,by rw[sF];exact h.defers,by rw[size_put];exact h.slots,?_,?_,?_,hst⟩;exact aGa;exact aHs;intro j d hj hd;rcases hset j hj with rfl|hj';exact aHM;by_cases qN:j=i;exact aHB;have hne:o.dst≠some d:=by rw[<-yD];exact(iG ht hd).2 i (λe=>qN e.symm)
 rw[dG hne];exact hkeep j d hj' hd
theorem aF7(h:U:=by
 have:eU listed ms=eU ((Array.range ops.size).map λ_=>true) ms:=by
  unfold eU;refine List.countP_congr λi _=>?_;by_cases hi:i<ops.size;rw[hall i hi];simp[hi];have h1:listed.getD i false=false:=by
   have:¬i<listed.size:=by rw[h.size];exact hi
   simp[this]
  rw[h1];simp[hi]
 rw[<-this];exact h.st):U:=h
theorem aFC(h:U:=by intro listed a w hr h;have hall:=lJ ht h.size hr;refine hQ a w h.inv h.defers h.slots (λd hd=>h.keep d λi hi hid=>?_) (λi d hd=>h.done i d (hall i ?_) hd) ?_;exact aG8;exact aIa;exact aF7):U:=h
theorem aFR(h:U:=by refine⟨h.inv,λd hd=>h.keep d λj hj sD=>?_,λj d hp hd=>h.done j d (hpl j hp) hd⟩;exact aF9):U:=h
theorem aHa(h:U:=by unfold reachC at uT;rw[aDC]at uT;rcases uT with uT|uT;exact hpl j uT;obtain⟨x,_,hx⟩:=aEj.1 uT;rw[aC9]at hx;exact fO h.closed n x j hx.2 (hpl x hx.1)):U:=h
theorem Yw(ht:tidy md ops a0.tmps.size=true)(hm:gW Φ)(hJ:AB J Φ)(hch:chainC md ops ms=true)(P6:∀p w w',Ev w w'->St p w->St p w')
  (hops:∀i o,ops[i]?=some o->i∉ms->P5 P md ops Q Φ a0 I i o) (CS:∀p i o,ms[p]?=some i->ops[i]?=some o->MN P md ops Q Φ a0 I J St p i o)
  (hQ:∀a w,I w->a.defers=a0.defers->a.tmps.size=a0.tmps.size->(∀d,nobody ops d=true->a.eval (.tmp d)=a0.eval (.tmp d))->
   (∀i d,bG ops i=some d->bu Φ i (a.eval (.tmp d)) w)->St (eU ((Array.range ops.size).map λ_=>true) ms) w->Q .normal a w):
  ∀(fuel:Nat) (listed:Array Bool) (a:Act) (w:ak),dw listed ops.size<=fuel->RF md ops Φ a0 I ms St listed a w->wpAny P md ops Q fuel listed a w:=by
 have fin:∀(listed:Array Bool) (a:Act) (w:ak),Region.ready md ops listed=[]->RF md ops Φ a0 I ms St listed a w->Q .normal a w:=by exact aFC
 intro fuel
 induction fuel with
 | zero=>
  intro listed a w hu h;have hr:Region.ready md ops listed=[]:=by exact aGh
  exact⟨hr,fin listed a w hr h⟩
 | succ fuel ih=>
  intro listed a w hu h;refine⟨λhr=>fin listed a w hr h,λi hi=>?_⟩;obtain⟨h0,o,ho,hall⟩:=aE7.1 hi;have hlt:i<ops.size:=(aDa.1 ho).1;have hl:i<listed.size:=by rw[h.size];exact hlt
  have mf:listed.getD i false=false:=by simpa[hl] using h0
  have hcount:=jI h.size hlt mf;have hpl:∀j,b_ md ops i j=true->listed.getD j false=true:=λj hp=>by exact aHD
  have Gp:xU md ops Φ a0 I i a w:=by exact aFR
  refine wpOp_step ho λK' hK'=>?_;by_cases wM:i∈ms;obtain⟨p,hp⟩:=aEn wM;have UQ:eU listed ms=p:=zL h.closed ms p i hch hp mf λj n uT qN=>by
   cases n with
   | zero=>exact hpl j uT
   | succ n=>
    exact aHa
  have hst:St p w:=UQ▸h.st;refine CS p i o hp ho a w Gp hst K' λv w' hJw hI' RG hv=>hK' _ _ (ih _ _ _ ae (h.step ht ho hi hI' (λj d hj hd=>Ea Φ hJ j _ _ _ hJw (h.done j d hj hd)) hv ?_));rw[nH hl mf ms (lU ms hch) wM,UQ];exact RG;refine hops i o ho wM a w Gp K' λv w' hE hI' hv=>hK' _ _ (ih _ _ _ ae (h.step ht ho hi hI' (λj d hj hd=>jH Φ hm j _ _ _ hE (h.done j d hj hd)) hv ?_));rw[tZ hl ms wM];exact P6 _ _ _ hE h.st
theorem aH6(h:U:=by intro a w hE hd hs hold hnew hp;rw[nN hs,hd];exact hQ (λd=>a.eval (.tmp d)) w hE hold hnew hp):U:=h
theorem aHc(h:U:=by
 have:eU (Array.replicate ops.size false) ms=0:=by unfold eU;rw[aEg];intro i _;by_cases hlt:i<ops.size<;>simp[hlt]
 rw[this];exact P6 _ _ _ (Ev.drew w0) hS):U:=h
theorem kG{id:Nat}{w0:ak}(dH:P.follows .mixedOrders=true)(I:ak->Prop)(J:ak->ak->Prop)(ms:List Nat)(St:Nat->ak->Prop)(Φ:List (au->ak->Prop))(n q:Nat)(hn:a0.tmps.size=n)(ht:tidy .any ops n=true)(hm:gW Φ)(hJ:AB J Φ)(hch:chainC .any ops ms=true)(P6:∀p w w',Ev w w'->St p w->St p w')(hIE:∀w w',Ev w w'->I w->I w')
  (hI:I w0) (hS:St 0 w0) (hq:eU ((Array.range ops.size).map λ_=>true) ms=q)
  (hops:∀i o,ops[i]?=some o->0+i∉ms->P5 P .any ops Q Φ a0 I (0+i) o) (CS:∀p i o,ms[p]?=some i->ops[i]?=some o->MN P .any ops Q Φ a0 I J St (0+p) i o)
  (hQ:∀(s:Nat->au) w,I w->(∀(d:Tmp) (_:nobody ops d=true:=by kernel_rfl),s d=a0.eval (.tmp d))->
   (∀(i:Nat) (d:Tmp) (_:bG ops i=some d:=by kernel_rfl),bu Φ i (s d) w)->St q w->Q .normal ⟨((List.range n).map s).toArray,a0.defers⟩ w):
  (Code.region id ops true).wp P Q a0 w0:=by
 subst hn hq;refine wp_region_any dH (Yw ht hm hJ hch P6 (λi o ho hi=>by have:=hops i o ho (by rwa [aDt]);rwa [aDt]at this) (λp i o hp ho=>by have:=CS p i o hp ho;rwa [aDt]at this) ?_ ops.size _ _ _ ?_ ⟨aj,hIE _ _ (Ev.drew w0) hI,rfl,rfl,?_,λ_ _=>rfl,?_,?_⟩);exact aH6;unfold dw;exact aDr aEu aj;exact aIB;exact aIC;exact aHc
theorem aHH(h:U:=by intro a w c K hK;obtain⟨hw,v,hr,hv⟩:=h a w c;rw[if_pos hw];unfold Oper.wp;rw[hr];exact hK v w (Ev.refl w) c.inv hv):U:=h
theorem aP{i:Nat}{o:Oper}(h:∀a w,xU md ops Φ a0 I i a w->Region.wanted o (yielded ops a.tmps)=true/\∃v,(execOp a.eval o).run P w=.ok (.value v) w/\bu Φ i v w):P5 P md ops Q Φ a0 I i o:=by exact aHH
theorem aHI(h:U:=by intro a w c K hK;obtain⟨hw,v,w',hr,TW,hI',hv⟩:=h a w c;rw[if_pos hw];unfold Oper.wp;rw[hr];exact hK v w' TW hI' hv):U:=h
theorem P7{i:Nat}{o:Oper}(h:∀a w,xU md ops Φ a0 I i a w->Region.wanted o (yielded ops a.tmps)=true/\∃v w',(execOp a.eval o).run P w=.ok (.value v) w'/\Ev w w'/\I w'/\bu Φ i v w'):P5 P md ops Q Φ a0 I i o:=by exact aHI
theorem qF{p i:Nat}{o:Oper}(h:∀a w,xU md ops Φ a0 I i a w->St p w->Region.wanted o (yielded ops a.tmps)=true/\∃f args,(execOp a.eval o).run P w=.ok (.enter f args) w/\
  Calls P f args w λe w'=>∃v,e=.returned v/\J w w'/\I w'/\St (p+1) w'/\bu Φ i v w'):MN P md ops Q Φ a0 I J St p i o:=by
 intro a w c hst K hK;obtain⟨hw,f,args,hr,hc⟩:=h a w c hst;rw[if_pos hw];unfold Oper.wp;rw[hr];refine hc.mono ?_;rintro e w' ⟨v,rfl,h1,h2,h3,h4⟩;exact hK v w' h1 h2 h3 h4
theorem rZ{p i:Nat}{o:Oper}(hd:o.dst=none)(h:∀a w,xU md ops Φ a0 I i a w->St p w->Region.wanted o (yielded ops a.tmps)=true/\∃w',(execOp a.eval o).run P w=.ok .skip w'/\J w w'/\I w'/\St (p+1) w'/\bu Φ i undef w'):MN P md ops Q Φ a0 I J St p i o:=by intro a w c hst K hK;obtain⟨hw,w',hr,h1,h2,h3,h4⟩:=h a w c hst;rw[if_pos hw];exact sO hr (hK undef w' h1 h2 h3 h4)
theorem aHR(h:U:=by have:=h i o (by simpa using hi) (by rwa [show k+1+i=k+(i+1) by omega]);rwa [show k+1+i=k+(i+1) by omega]at this):U:=h
theorem aO{R:Nat->Oper->Prop}{ms:List Nat}{o0:Oper}{l:List Oper}(k:Nat)(h0:R k o0)(h:∀i o,l.toArray[i]?=some o->k+1+i∉ms->R (k+1+i) o):∀i o,(o0::l).toArray[i]?=some o->k+i∉ms->R (k+i) o:=by
 intro i o hi hlt
 cases i with
 | zero=>simp at hi;subst hi;exact h0
 | succ i=>
  exact aHR
theorem gq{R:Nat->Oper->Prop}{ms:List Nat}{o0:Oper}{l:List Oper}(k:Nat)(hk:k∈ms)(h:∀i o,l.toArray[i]?=some o->k+1+i∉ms->R (k+1+i) o):∀i o,(o0::l).toArray[i]?=some o->k+i∉ms->R (k+i) o:=by
 intro i o hi hlt
 cases i with
 | zero=>exact absurd hk hlt
 | succ i=>
  exact aHR
theorem xX{R:Nat->Nat->Oper->Prop}{ops:Array Oper}(k:Nat):∀p i o,([]:List Nat)[p]?=some i->ops[i]?=some o->R (k+p) i o:=by intro p i o h;simp at h
theorem jr{R:Nat->Nat->Oper->Prop}{ops:Array Oper}{m:Nat}{ms:List Nat}{o0:Oper}(k:Nat)(ho:ops[m]?=some o0)(h0:R k m o0)(h:∀p i o,ms[p]?=some i->ops[i]?=some o->R (k+1+p) i o):∀p i o,(m::ms)[p]?=some i->ops[i]?=some o->R (k+p) i o:=by
 intro p i o hp hi
 cases p with
 | zero=>
  simp at hp;subst hp;rw[ho]at hi;obtain rfl:=aDp hi;exact h0
 | succ p=>
  have:=h p i o (by simpa using hp) hi;rwa [show k+1+p=k+(p+1) by omega]at this
theorem uU{R:Nat->Oper->Prop}{ms:List Nat}(k:Nat):∀i o,(([]:List Oper).toArray)[i]?=some o->k+i∉ms->R (k+i) o:=by intro i o h;simp at h
end
section
variable {P:Program} {md:Region.Mode} {ops:Array Oper} {Q:Exit->Act->ak->Prop} {Φ:List (au->ak->Prop)} {a0:Act} {J:Nat->ak->ak->Prop} {I:ak->Prop} {ms D sp:List Nat} {B:List (List Nat)} {pD:Nat} {St:Nat->ak->Prop} {G:(Nat->Bool)->Act->ak->Prop}
def Yx(md:Region.Mode)(ops:Array Oper)(D:List Nat)(pD i j:Nat):Bool:=!(D.contains j)||(i==pD||reachC md ops 3 pD i)
def chkB(md:Region.Mode)(ops:Array Oper):List (List Nat)->List Nat->Bool
 | b::bs,m::ms=>(b.all λj=>j==m||reachC md ops 3 j m)&&chkB md ops bs ms
 | _,_=>true
theorem ZY{md:Region.Mode}{ops:Array Oper}:∀(bs:List (List Nat)) (ms:List Nat),chkB md ops bs ms=true->∀p i,ms[p]?=some i->((bs.getD p []).all λj=>j==i||reachC md ops 3 j i)=true
 | [],_,_,p,i,_=>by simp
 | _::_,[],_,p,i,h=>by simp at h
 | b::bs,m::ms,h,0,i,hi=>by unfold chkB at h;rw[aC9]at h;simp at hi;subst hi;exact h.1
 | b::bs,m::ms,h,p+1,i,hi=>by unfold chkB at h;rw[aC9]at h;have:=ZY bs ms h.2 p i (by simpa using hi);simpa using this
def Ju(J:Nat->ak->ak->Prop)(D:List Nat)(B:List (List Nat)):Nat->List (au->ak->Prop)->Prop
 | _,[]=>True
 | k,φ::l=>(D.contains k=true∨∀p,(B.getD p []).contains k=true∨∀v w w',J p w w'->φ v w->φ v w')/\Ju J D B (k+1) l
theorem Vx{p:Nat}:∀(Φ:List (au->ak->Prop)) (k:Nat),Ju J D B k Φ->∀i,D.contains (k+i)=false->((B.getD p []).contains (k+i)=false)->∀v w w',J p w w'->bu Φ i v w->bu Φ i v w'
 | [],_,_,i,_,_=>λ_ _ _ _ _=>trivial
 | φ::l,k,h,0,hd,hb=>by rcases h.1 with h1|h1;rw[aDw,h1]at hd;cases hd;rcases h1 p with h2|h2;rw[aDw,h2]at hb;cases hb;exact h2
 | φ::l,k,h,i+1,hd,hb=>Vx l (k+1) h.2 i (by rwa [show k+1+i=k+(i+1) by omega]) (by rwa [show k+1+i=k+(i+1) by omega])
theorem CU(md:Region.Mode)(ops:Array Oper):∀(n m i x j:Nat),reachC md ops n i x=true->reachC md ops m x j=true->∃q,reachC md ops q i j=true
 | 0,m,i,x,j,h1,h2=>by
  have hx:x<ops.size∨¬x<ops.size:=Nat.lt_or_ge x ops.size |>.imp id ae;rcases hx with hx|hx;refine⟨m+1,?_⟩;unfold reachC;rw[aDC];right;exact aEj.2 ⟨x,aDN.2 hx,by rw[aC9];exact⟨h1,h2⟩⟩;exfalso;have hno:∀y,b_ md ops x y=false:=λy=>by unfold b_;rw[Array.getElem?_eq_none ae]
  cases m with
  | zero=>unfold reachC at h2;rw[hno]at h2;cases h2
  | succ m=>
   unfold reachC at h2;rw[hno,Bool.false_or]at h2;obtain⟨y,_,hy⟩:=aEj.1 h2;rw[hno]at hy
   cases hy
 | n+1,m,i,x,j,h1,h2=>by unfold reachC at h1;rw[aDC]at h1;rcases h1 with h1|h1;exact CU md ops 0 m i x j h1 h2;obtain⟨y,hy,hyy⟩:=aEj.1 h1;rw[aC9]at hyy;obtain⟨q,hq⟩:=CU md ops n m y x j hyy.2 h2;refine⟨q+1,?_⟩;unfold reachC;rw[aDC];right;exact aEj.2 ⟨y,hy,by rw[aC9];exact⟨hyy.1,hq⟩⟩
theorem CV(md:Region.Mode)(ops:Array Oper):∀(a:Nat) (l:List Nat),chainC md ops (a::l)=true->∀i∈l,∃n,reachC md ops n i a=true
 | a,[],_,i,hi=>by cases hi
 | a,b::l,h,i,hi=>by have h2:=h;unfold chainC at h2;rw[aC9,aC9]at h2;rcases aDg.1 hi with e|e;subst e;exact⟨3,h2.1.1⟩;obtain⟨n,hn⟩:=CV md ops b l h2.2 i e;exact CU md ops n 3 i b a hn h2.1.1
structure Gq(md:Region.Mode)(ops:Array Oper)(Φ:List (au->ak->Prop))(a0:Act)(I:ak->Prop)(D:List Nat)(pD:Nat)(i:Nat)(a:Act)(w:ak):Prop where
 inv:I w
 old:∀d,later md ops i d=true->a.eval (.tmp d)=a0.eval (.tmp d)
 new:∀(j:Nat) (d:Tmp) (_:b_ md ops i j=true:=by kernel_rfl) (_:bG ops j=some d:=by kernel_rfl) (_:Yx md ops D pD i j=true:=by kernel_rfl),bu Φ j (a.eval (.tmp d)) w
theorem Gq.was{i:Nat}{a:Act}{w:ak}(c:Gq md ops Φ a0 I D pD i a w)(d:Nat){v:au}(hv:a0.eval (.tmp d)=v)(h:later md ops i d=true:=by kernel_rfl):a.eval (.tmp d)=v:=(c.old d h).trans hv
theorem Gq.got{i:Nat}{a:Act}{w:ak}(c:Gq md ops Φ a0 I D pD i a w)(j d:Nat){φ:au->ak->Prop}(h:b_ md ops i j=true)(hd:bG ops j=some d)(hav:Yx md ops D pD i j=true)(hφ:bu Φ j=φ):φ (a.eval (.tmp d)) w:=hφ▸c.new j d h hd hav
def ZZ(P:Program)(md:Region.Mode)(ops:Array Oper)(Q:Exit->Act->ak->Prop)(Φ:List (au->ak->Prop))(a0:Act)(I:ak->Prop)(D:List Nat)(pD:Nat)(i:Nat)(o:Oper):Prop:=
 ∀(a:Act) (w:ak),Gq md ops Φ a0 I D pD i a w->∀K:Act->ak->Prop,(∀v w',Ev w w'->I w'->bu Φ i v w'->K (a.put o.dst v) w')->
  if Region.wanted o (yielded ops a.tmps)=true then Oper.wp P o a w K Q else K (a.put o.dst undef) w
def aeP(P:Program)(md:Region.Mode)(ops:Array Oper)(Q:Exit->Act->ak->Prop)(Φ:List (au->ak->Prop))(a0:Act)(I:ak->Prop)(J:Nat->ak->ak->Prop)(St:Nat->ak->Prop)(D:List Nat)(pD:Nat)(G:(Nat->Bool)->Act->ak->Prop)(p i:Nat)(o:Oper):Prop:=
 ∀(a:Act) (w:ak),Gq md ops Φ a0 I D pD i a w->St p w->(p=0->∃L:Nat->Bool,(∀j,b_ md ops i j=true->L j=true)/\G L a w)->∀K:Act->ak->Prop,(∀v w',J p w w'->I w'->St (p+1) w'->bu Φ i v w'->K (a.put o.dst v) w')->
  if Region.wanted o (yielded ops a.tmps)=true then Oper.wp P o a w K Q else K (a.put o.dst undef) w
def Z4(P:Program)(md:Region.Mode)(ops:Array Oper)(Q:Exit->Act->ak->Prop)(Φ:List (au->ak->Prop))(a0:Act)(I:ak->Prop)(D:List Nat)(pD:Nat)(G:(Nat->Bool)->Act->ak->Prop)(i:Nat)(o:Oper):Prop:=
 ∀(a:Act) (w:ak) (L:Nat->Bool),Gq md ops Φ a0 I D pD i a w->a.tmps.size=a0.tmps.size->(∀j,b_ md ops i j=true->L j=true)->L i=false->G L a w->∀K:Act->ak->Prop,
  (∀v w',Ev w w'->I w'->bu Φ i v w'->(∀L':Nat->Bool,L' i=true->(∀j,j≠i->L' j=L j)->G L' (a.put o.dst v) w')->K (a.put o.dst v) w')->
  if Region.wanted o (yielded ops a.tmps)=true then Oper.wp P o a w K Q else K (a.put o.dst undef) w
structure aeQ(md:Region.Mode)(ops:Array Oper)(Φ:List (au->ak->Prop))(a0:Act)(I:ak->Prop)(D:List Nat)(pD:Nat)(ms:List Nat)(St:Nat->ak->Prop)(G:(Nat->Bool)->Act->ak->Prop)(listed:Array Bool)(a:Act)(w:ak):Prop where
 size:listed.size=ops.size
 inv:I w
 defers:a.defers=a0.defers
 slots:a.tmps.size=a0.tmps.size
 closed:∀i j,listed.getD i false=true->b_ md ops i j=true->listed.getD j false=true
 keep:∀d,(∀i,listed.getD i false=true->bG ops i≠some d)->a.eval (.tmp d)=a0.eval (.tmp d)
 done:∀i d,listed.getD i false=true->(D.contains i=true->listed.getD pD false=false)->bG ops i=some d->bu Φ i (a.eval (.tmp d)) w
 st:St (eU listed ms) w
 jn:listed.getD pD false=false->G (λj=>listed.getD j false) a w
theorem aH4(h:U:=by
 subst hip;rw[show (listed.setIfInBounds i true).getD i false=true by simp[h.size,hi]]at h2
 cases h2):U:=h
theorem aeQ.step(ht:tidy md ops a0.tmps.size=true){listed:Array Bool}{a:Act}{w w':ak}(h:aeQ md ops Φ a0 I D pD ms St G listed a w){i:Nat}{o:Oper}(ho:ops[i]?=some o)
  (hr:i∈Region.ready md ops listed) {v:au} (hI:I w') (hkeep:∀j d,listed.getD j false=true->(D.contains j=true->listed.getD pD false=false/\i≠pD)->bG ops j=some d->bu Φ j (a.eval (.tmp d)) w') (hv:bu Φ i v w') (hst:St (eU (listed.setIfInBounds i true) ms) w') (hjn:i≠pD->listed.getD pD false=false->G (λj=>(listed.setIfInBounds i true).getD j false) (a.put o.dst v) w'):aeQ md ops Φ a0 I D pD ms St G (listed.setIfInBounds i true) (a.put o.dst v) w':=by
 have hi:i<ops.size:=(aDa.1 ho).1;have yD:bG ops i=o.dst:=by simp[bG,ho]
 have hset:∀j,(listed.setIfInBounds i true).getD j false=true->j=i∨listed.getD j false=true:=by exact aH_
 refine⟨by simpa using h.size,hI,by rw[sF];exact h.defers,by rw[size_put];exact h.slots,?_,?_,?_,hst,λh2=>?_⟩;exact aGa;exact aHs;intro j d hj hD hd;have hD2:D.contains j=true->listed.getD pD false=false/\i≠pD:=λh1=>by have h2:=hD h1;by_cases hip:i=pD;exact aH4;rw[aE6 false hip]at h2;exact⟨h2,hip⟩
 rcases hset j hj with rfl|hj';exact aHM;by_cases qN:j=i;exact aHB;have hne:o.dst≠some d:=by rw[<-yD];exact(iG ht hd).2 i (λe=>qN e.symm)
 rw[dG hne];exact hkeep j d hj' hD2 hd;by_cases hip:i=pD;exact aH4;rw[aE6 false hip]at h2;exact hjn hip h2
theorem Yy(ht:tidy md ops a0.tmps.size=true)(hm:gW Φ)(hJ:Ju J D B 0 Φ)(hch:chainC md ops ms=true)(hpD:ms[0]?=some pD)(hB:chkB md ops B ms=true)(P6:∀p w w',Ev w w'->St p w->St p w')
  (hsp:(sp.all λj=>reachC md ops 3 pD j)=true) (hGs:∀(L L':Nat->Bool) (a a':Act) (w w':ak),(∀j∈sp,L' j=L j)->(∀j∈sp,∀d,bG ops j=some d->a'.eval (.tmp d)=a.eval (.tmp d))->Ev w w'->G L a w->G L' a' w')
  (hops:∀i o,ops[i]?=some o->i∉ms++sp->ZZ P md ops Q Φ a0 I D pD i o) (alp:∀i o,ops[i]?=some o->i∈sp->Z4 P md ops Q Φ a0 I D pD G i o) (CS:∀p i o,ms[p]?=some i->ops[i]?=some o->aeP P md ops Q Φ a0 I J St D pD G p i o)
  (hQ:∀a w,I w->a.defers=a0.defers->a.tmps.size=a0.tmps.size->(∀d,nobody ops d=true->a.eval (.tmp d)=a0.eval (.tmp d))->
   (∀i d,D.contains i=false->bG ops i=some d->bu Φ i (a.eval (.tmp d)) w)->St (eU ((Array.range ops.size).map λ_=>true) ms) w->Q .normal a w):
  ∀(fuel:Nat) (listed:Array Bool) (a:Act) (w:ak),dw listed ops.size<=fuel->aeQ md ops Φ a0 I D pD ms St G listed a w->wpAny P md ops Q fuel listed a w:=by
 have fin:∀(listed:Array Bool) (a:Act) (w:ak),Region.ready md ops listed=[]->aeQ md ops Φ a0 I D pD ms St G listed a w->Q .normal a w:=by intro listed a w hr h;have hall:=lJ ht h.size hr;refine hQ a w h.inv h.defers h.slots (λd hd=>h.keep d λi hi hid=>?_) (λi d hD hd=>h.done i d (hall i ?_) (λh1=>by rw[hD]at h1;cases h1) hd) ?_;exact aG8;exact aIa;exact aF7
 intro fuel
 induction fuel with
 | zero=>
  intro listed a w hu h;have hr:Region.ready md ops listed=[]:=by exact aGh
  exact⟨hr,fin listed a w hr h⟩
 | succ fuel ih=>
  intro listed a w hu h;refine⟨λhr=>fin listed a w hr h,λi hi=>?_⟩;obtain⟨h0,o,ho,hall⟩:=aE7.1 hi;have hlt:i<ops.size:=(aDa.1 ho).1;have hl:i<listed.size:=by rw[h.size];exact hlt
  have mf:listed.getD i false=false:=by simpa[hl] using h0
  have hcount:=jI h.size hlt mf;have hpl:∀j,b_ md ops i j=true->listed.getD j false=true:=λj hp=>by exact aHD
  have Gp:Gq md ops Φ a0 I D pD i a w:=by
   refine⟨h.inv,λd hd=>h.keep d λj hj sD=>?_,λj d hp hd hav=>h.done j d (hpl j hp) (λh1=>?_) hd⟩;exact aF9;unfold Yx at hav;rw[h1,Bool.not_true,Bool.false_or,aDC,aDn]at hav
   cases Yz:listed.getD pD false
   rfl;rcases hav with h2|h2;rw[<-h2,mf]at Yz;cases Yz;have:=fO h.closed 3 pD i h2 Yz;rw[mf]at this;cases this
  have hpre:∀j,(∃n,reachC md ops n i j=true)->listed.getD j false=true:=λj ⟨n,uT⟩=>by
   cases n with
   | zero=>exact hpl j uT
   | succ n=>
    exact aHa
  refine wpOp_step ho λK' hK'=>?_;by_cases wM:i∈ms;obtain⟨p,hp⟩:=aEn wM;have UQ:eU listed ms=p:=zL h.closed ms p i hch hp mf λj n uT qN=>by
   cases n with
   | zero=>exact hpl j uT
   | succ n=>
    exact aHa
  have hst:St p w:=UQ▸h.st;have hp0:p=0->i=pD:=λe=>by subst e;rw[hpD]at hp;exact(aDp hp).symm
  have hlp:¬p=0->listed.getD pD false=true:=λe=>by
   cases fU:ms with
   | nil=>rw[fU]at wM;cases wM
   | cons m0 ml0=>
    rw[fU]at hpD hp hch;simp at hpD;subst hpD
    cases p with
    | zero=>exact absurd rfl e
    | succ p=>
     have WA:i∈ml0:=aDb (by simpa using hp);exact hpre m0 (CV md ops m0 ml0 hch i WA)
  refine CS p i o hp ho a w Gp hst (λe=>⟨_,hpl,h.jn (by rw[<-hp0 e];exact mf)⟩) K' λv w' hJw hI' RG hv=>hK' _ _ (ih _ _ _ ae (h.step ht ho hi hI' (λj d hj hD hd=>by
   have hDn:D.contains j=false:=by
    cases hDj:D.contains j
    rfl;obtain⟨h1,h2⟩:=hD hDj;exfalso
    cases fU:ms with
    | nil=>rw[fU]at wM;cases wM
    | cons m0 ml0=>
     rw[fU]at hpD wM hch;simp at hpD;subst hpD;rcases aDg.1 wM with e|e;exact h2 e;obtain⟨k,hk⟩:=aEn e;have hup:=CV md ops m0 ml0 hch i e;have:=hpre m0 hup;rw[h1]at this;cases this
   have hBn:(B.getD p []).contains j=false:=by
    cases hBj:(B.getD p []).contains j
    rfl;exfalso;have h1:=aDs.1 (ZY B ms hB p i hp) j (by simpa using hBj);rw[aDC,aDn]at h1;rcases h1 with h1|h1;subst h1;rw[mf]at hj;cases hj;have:=fO h.closed 3 j _ h1 hj;rw[mf]at this;cases this
   exact Vx (p:=p) Φ 0 hJ j (by rwa [aDt]) (by rwa [aDt]) _ _ _ hJw (h.done j d hj (λh3=>by rw[hDn]at h3;cases h3) hd)) hv ?_ λhne zf=>by
    by_cases e:p=0;exact absurd (hp0 e) hne;rw[hlp e]at zf;cases zf))
  rw[nH hl mf ms (lU ms hch) wM,UQ];exact RG;by_cases his:i∈sp;have zf:listed.getD pD false=false:=by
   cases Yz:listed.getD pD false
   rfl;have:=fO h.closed 3 pD i (aDs.1 hsp i his) Yz;rw[mf]at this;cases this
  refine alp i o ho his a w _ Gp h.slots hpl mf (h.jn zf) K' λv w' hE hI' hv hG=>hK' _ _ (ih _ _ _ ae (h.step ht ho hi hI' (λj d hj hD hd=>jH Φ hm j _ _ _ hE (h.done j d hj (λh3=>(hD h3).1) hd)) hv ?_ λ_ _=>hG _ ?_ ?_));rw[tZ hl ms wM];exact P6 _ _ _ hE h.st;simp[hl];intro j hj;exact aE6 false (λe=>hj e.symm);refine hops i o ho (λhm=>(aDm.1 hm).elim wM his) a w Gp K' λv w' hE hI' hv=>hK' _ _ (ih _ _ _ ae (h.step ht ho hi hI' (λj d hj hD hd=>jH Φ hm j _ _ _ hE (h.done j d hj (λh3=>(hD h3).1) hd)) hv ?_ λ_ zf=>?_));rw[tZ hl ms wM];exact P6 _ _ _ hE h.st;refine hGs _ _ a _ w w' (λj hj=>aE6 false (λe=>his (e▸hj))) (λj hj d hd=>dG λe=>?_) hE (h.jn zf);have yD:bG ops i=some d:=by simp[bG,ho,e]
  exact(iG ht yD).2 j (λe2=>his (e2▸hj)) hd
theorem Gs{id:Nat}{w0:ak}(dH:P.follows .mixedOrders=true)(I:ak->Prop)(J:Nat->ak->ak->Prop)(ms:List Nat)(St:Nat->ak->Prop)(D:List Nat)(B:List (List Nat))(pD:Nat)(Φ:List (au->ak->Prop))(n q:Nat)(hn:a0.tmps.size=n)(ht:tidy .any ops n=true)(hm:gW Φ)(hJ:Ju J D B 0 Φ)(hch:chainC .any ops ms=true)(hpD:ms[0]?=some pD)(hB:chkB .any ops B ms=true)(P6:∀p w w',Ev w w'->St p w->St p w')(hIE:∀w w',Ev w w'->I w->I w')
  (hI:I w0) (hS:St 0 w0) (hq:eU ((Array.range ops.size).map λ_=>true) ms=q)
  (G:(Nat->Bool)->Act->ak->Prop) (sp:List Nat) (hsp:(sp.all λj=>reachC .any ops 3 pD j)=true) (hGs:∀(L L':Nat->Bool) (a a':Act) (w w':ak),(∀j∈sp,L' j=L j)->(∀j∈sp,∀d,bG ops j=some d->a'.eval (.tmp d)=a.eval (.tmp d))->Ev w w'->G L a w->G L' a' w') (hG0:∀L:Nat->Bool,(∀j,L j=false)->G L a0 w0)
  (hops:∀i o,ops[i]?=some o->0+i∉ms++sp->ZZ P .any ops Q Φ a0 I D pD (0+i) o) (alp:∀(p i:Nat) (o:Oper),sp[p]?=some i->ops[i]?=some o->Z4 P .any ops Q Φ a0 I D pD G i o) (CS:∀p i o,ms[p]?=some i->ops[i]?=some o->aeP P .any ops Q Φ a0 I J St D pD G (0+p) i o)
  (hQ:∀(s:Nat->au) w,I w->(∀(d:Tmp) (_:nobody ops d=true:=by kernel_rfl),s d=a0.eval (.tmp d))->
   (∀(i:Nat) (d:Tmp) (_:D.contains i=false:=by kernel_rfl) (_:bG ops i=some d:=by kernel_rfl),bu Φ i (s d) w)->St q w->Q .normal ⟨((List.range n).map s).toArray,a0.defers⟩ w):
  (Code.region id ops true).wp P Q a0 w0:=by
 subst hn hq;refine wp_region_any dH (Yy ht hm hJ hch hpD hB P6 hsp hGs (λi o ho hi=>by have:=hops i o ho (by rwa [aDt]);rwa [aDt]at this) (λi o ho hi=>by obtain⟨p,hp⟩:=aEn hi;exact alp p i o hp ho) (λp i o hp ho=>by have:=CS p i o hp ho;rwa [aDt]at this) ?_ ops.size _ _ _ ?_ ⟨aj,hIE _ _ (Ev.drew w0) hI,rfl,rfl,?_,λ_ _=>rfl,?_,?_,λ_=>hGs _ _ a0 a0 w0 w0.drew (λj _=>rfl) (λ_ _ _ _=>rfl) (Ev.drew w0) (hG0 _ λj=>?_)⟩);exact aH6;unfold dw;exact aDr aEu aj;exact aIB
 ·intro i d hi _;exfalso;by_cases hlt:i<ops.size<;>simp[hlt]at hi
 exact aHc;by_cases hlt:j<ops.size<;>simp[hlt]
theorem Gt{i:Nat}{o:Oper}(h:∀a w,Gq md ops Φ a0 I D pD i a w->Region.wanted o (yielded ops a.tmps)=true/\∃v,(execOp a.eval o).run P w=.ok (.value v) w/\bu Φ i v w):ZZ P md ops Q Φ a0 I D pD i o:=by exact aHH
theorem abQ{i:Nat}{o:Oper}(h:∀a w,Gq md ops Φ a0 I D pD i a w->Region.wanted o (yielded ops a.tmps)=true/\∃v w',(execOp a.eval o).run P w=.ok (.value v) w'/\Ev w w'/\I w'/\bu Φ i v w'):ZZ P md ops Q Φ a0 I D pD i o:=by exact aHI
theorem abR{i:Nat}{o:Oper}(h:∀a w (L:Nat->Bool),Gq md ops Φ a0 I D pD i a w->a.tmps.size=a0.tmps.size->(∀j,b_ md ops i j=true->L j=true)->L i=false->G L a w->Region.wanted o (yielded ops a.tmps)=true/\∃v w',(execOp a.eval o).run P w=.ok (.value v) w'/\Ev w w'/\I w'/\bu Φ i v w'/\∀L':Nat->Bool,L' i=true->(∀j,j≠i->L' j=L j)->G L' (a.put o.dst v) w'):Z4 P md ops Q Φ a0 I D pD G i o:=by intro a w L c hs hp hu hg K hK;obtain⟨hw,v,w',hr,h1,h2,h3,h4⟩:=h a w L c hs hp hu hg;rw[if_pos hw];unfold Oper.wp;rw[hr];exact hK v w' h1 h2 h3 h4
theorem MO{i:Nat}{o:Oper}(h:∀a w (L:Nat->Bool),Gq md ops Φ a0 I D pD i a w->a.tmps.size=a0.tmps.size->(∀j,b_ md ops i j=true->L j=true)->L i=false->G L a w->Region.wanted o (yielded ops a.tmps)=true/\∃f args,(execOp a.eval o).run P w=.ok (.enter f args) w/\
  Calls P f args w λe w'=>∃v,e=.returned v/\Ev w w'/\I w'/\bu Φ i v w'/\∀L':Nat->Bool,L' i=true->(∀j,j≠i->L' j=L j)->G L' (a.put o.dst v) w'):Z4 P md ops Q Φ a0 I D pD G i o:=by
 intro a w L c hs hp hu hg K hK;obtain⟨hw,f,args,hr,hc⟩:=h a w L c hs hp hu hg;rw[if_pos hw];unfold Oper.wp;rw[hr];refine hc.mono ?_;rintro e w' ⟨v,rfl,h1,h2,h3,h4⟩;exact hK v w' h1 h2 h3 h4
theorem abS{p i:Nat}{o:Oper}(h:∀a w,Gq md ops Φ a0 I D pD i a w->St p w->(p=0->∃L:Nat->Bool,(∀j,b_ md ops i j=true->L j=true)/\G L a w)->Region.wanted o (yielded ops a.tmps)=true/\∃v w',(execOp a.eval o).run P w=.ok (.value v) w'/\J p w w'/\I w'/\St (p+1) w'/\bu Φ i v w'):aeP P md ops Q Φ a0 I J St D pD G p i o:=by intro a w c hst hg K hK;obtain⟨hw,v,w',hr,h1,h2,h3,h4⟩:=h a w c hst hg;rw[if_pos hw];unfold Oper.wp;rw[hr];exact hK v w' h1 h2 h3 h4
theorem ah1{R:Nat->Oper->Prop}{ops:Array Oper}:∀(p i:Nat) (o:Oper),([]:List Nat)[p]?=some i->ops[i]?=some o->R i o:=by intro p i o h;simp at h
theorem Eb{R:Nat->Oper->Prop}{ops:Array Oper}{m:Nat}{sp:List Nat}{o0:Oper}(ho:ops[m]?=some o0)(h0:R m o0)(h:∀(p i:Nat) (o:Oper),sp[p]?=some i->ops[i]?=some o->R i o):∀(p i:Nat) (o:Oper),(m::sp)[p]?=some i->ops[i]?=some o->R i o:=by
 intro p i o hp hi
 cases p with
 | zero=>
  simp at hp;subst hp;rw[ho]at hi;obtain rfl:=aDp hi;exact h0
 | succ p=>exact h p i o (by simpa using hp) hi
end
theorem wE{a:Prop}{b:Nat->Prop}{q:au->Prop}{J:Nat->ak->ak->Prop}:a∨∀p,b p∨∀(v:au) (w w1:ak),J p w w1->q v->q v:=Or.inr λp=>Or.inr λ_ _ _ _ h=>h
section
variable {P:Program} {md:Region.Mode} {ops:Array Oper} {Q:Exit->Act->ak->Prop} {Φ:List (au->ak->Prop)} {a0:Act} {J:ak->ak->Prop} {I:ak->Prop} {ms:List Nat} {St:Nat->ak->Prop} {ml jm dm q:Nat} {Ψ:au->ak->Prop}
def aeS(P:Program)(md:Region.Mode)(ops:Array Oper)(Q:Exit->Act->ak->Prop)(Φ:List (au->ak->Prop))(a0:Act)(I:ak->Prop)(J:ak->ak->Prop)(St:Nat->ak->Prop)(q dm:Nat)(Ψ:au->ak->Prop)(i:Nat)(o:Oper):Prop:=
 o.dst=none/\∀(a:Act) (w:ak),xU md ops Φ a0 I i a w->St q w->Region.wanted o (yielded ops a.tmps)=true/\∃w',(execOp a.eval o).run P w=.ok .skip w'/\J w w'/\I w'/\St (q+1) w'/\bu Φ i undef w'/\Ψ (a.eval (.tmp dm)) w'
theorem xY{listed:Array Bool}(hc:∀i j,listed.getD i false=true->b_ md ops i j=true->listed.getD j false=true):∀(ms:List Nat),chainC md ops ms=true->∀(k x q y:Nat),ms[k]?=some x->ms[q]?=some y->k<=q->listed.getD y false=true->listed.getD x false=true
 | [],_,k,x,q,y,h,_,_,_=>by simp at h
 | [a],_,k,x,q,y,h1,h2,_,hy=>by
  have e1:x=a:=by cases k<;>simp at h1;exact h1.symm
  have e2:y=a:=by cases q<;>simp at h2;exact h2.symm
  rw[e1,<-e2];exact hy
 | a::b::l,hch,0,x,0,y,h1,h2,_,hy=>by simp at h1 h2;rw[<-h1,h2];exact hy
 | a::b::l,hch,0,x,q+1,y,h1,h2,_,hy=>by simp at h1;subst h1;have hb:=xY hc (b::l) (xW hch) 0 b q y rfl (by simpa using h2) (aDl _) hy;unfold chainC at hch;rw[aC9,aC9]at hch;exact fO hc 3 b a hch.1.1 hb
 | a::b::l,hch,k+1,x,0,y,h1,h2,hle,hy=>by omega
 | a::b::l,hch,k+1,x,q+1,y,h1,h2,hle,hy=>xY hc (b::l) (xW hch) k x q y (by simpa using h1) (by simpa using h2) ae hy
theorem YA(ht:tidy md ops a0.tmps.size=true)(hm:gW Φ)(hJ:AB J Φ)(hch:chainC md ops ms=true)(P6:∀p w w',Ev w w'->St p w->St p w')
  (hops:∀i o,ops[i]?=some o->i∉ms->P5 P md ops Q Φ a0 I i o) (CS:∀p i o,ms[p]?=some i->i≠ml->ops[i]?=some o->MN P md ops Q Φ a0 I J St p i o) (hΨ:kK Ψ) (hmq:ms[q]?=some ml) (hlast:q+1=ms.length) {om:Oper} (UX:ops[ml]?=some om) (Zy:b_ md ops ml jm=true) (sD:bG ops jm=some dm) (hst:aeS P md ops Q Φ a0 I J St q dm Ψ ml om)
  (hQ:∀a w,I w->a.defers=a0.defers->a.tmps.size=a0.tmps.size->(∀d,nobody ops d=true->a.eval (.tmp d)=a0.eval (.tmp d))->
   (∀i d,bG ops i=some d->bu Φ i (a.eval (.tmp d)) w)->St (eU ((Array.range ops.size).map λ_=>true) ms) w->Ψ (a.eval (.tmp dm)) w->Q .normal a w):
  ∀(fuel:Nat) (listed:Array Bool) (a:Act) (w:ak),dw listed ops.size<=fuel->RF md ops Φ a0 I ms St listed a w->(listed.getD ml false=true->Ψ (a.eval (.tmp dm)) w)->wpAny P md ops Q fuel listed a w:=by
 have abq:ml<ops.size:=(aDa.1 UX).1;have fin:∀(listed:Array Bool) (a:Act) (w:ak),Region.ready md ops listed=[]->RF md ops Φ a0 I ms St listed a w->(listed.getD ml false=true->Ψ (a.eval (.tmp dm)) w)->Q .normal a w:=by intro listed a w hr h hpost;have hall:=lJ ht h.size hr;refine hQ a w h.inv h.defers h.slots (λd hd=>h.keep d λi hi hid=>?_) (λi d hd=>h.done i d (hall i ?_) hd) ?_ (hpost (hall ml abq));exact aG8;exact aIa;exact aF7
 intro fuel
 induction fuel with
 | zero=>
  intro listed a w hu h hpost;have hr:Region.ready md ops listed=[]:=by exact aGh
  exact⟨hr,fin listed a w hr h hpost⟩
 | succ fuel ih=>
  intro listed a w hu h hpost;refine⟨λhr=>fin listed a w hr h hpost,λi hi=>?_⟩;obtain⟨h0,o,ho,hall⟩:=aE7.1 hi;have hlt:i<ops.size:=(aDa.1 ho).1;have hl:i<listed.size:=by rw[h.size];exact hlt
  have mf:listed.getD i false=false:=by simpa[hl] using h0
  have hcount:=jI h.size hlt mf;have hpl:∀j,b_ md ops i j=true->listed.getD j false=true:=λj hp=>by exact aHD
  have Gp:xU md ops Φ a0 I i a w:=by exact aFR
  refine wpOp_step ho λK' hK'=>?_;have alq:∀(o:Oper) (v:au) (w':ak),ops[i]?=some o->i≠ml->(∀v0,Ψ v0 w->Ψ v0 w')->(listed.setIfInBounds i true).getD ml false=true->Ψ ((a.put o.dst v).eval (.tmp dm)) w':=by
   intro o v w' ho wM hmono hlm;rw[aE6 false wM]at hlm;have hp:=hpost hlm;have hjl:=h.closed ml jm hlm Zy;have qN:i≠jm:=by rintro rfl;rw[mf]at hjl;cases hjl
   have hne:o.dst≠some dm:=by have:=(iG ht sD).2 i qN;simpa[bG,ho] using this
   rw[dG hne];exact hmono _ hp
  by_cases wM:i∈ms;obtain⟨p,hp⟩:=aEn wM;have UQ:eU listed ms=p:=zL h.closed ms p i hch hp mf λj n uT qN=>by
   cases n with
   | zero=>exact hpl j uT
   | succ n=>
    exact aHa
  have aoI:St p w:=UQ▸h.st;have hpw:=lU ms hch;by_cases WA:i=ml;subst WA;have WB:p=q:=by obtain⟨h1,e1⟩:=aC6.1 hp;obtain⟨h2,e2⟩:=aC6.1 hmq;rcases Nat.lt_trichotomy p q with h3|h3|h3;have:=(aEV.1 hpw) p q h1 h2 h3;omega;exact h3;have:=(aEV.1 hpw) q p h2 h1 h3;omega
  subst WB;rw[UX]at ho;obtain rfl:=aDp ho;obtain⟨hw,w',hrun,hJw,hI',RG,hv,yG⟩:=hst.2 a w Gp aoI;rw[if_pos hw];refine sO hrun ?_;refine hK' _ _ (ih _ _ _ ae (h.step ht UX hi hI' (λj d hj hd=>Ea Φ hJ j _ _ _ hJw (h.done j d hj hd)) hv ?_) λ_=>?_);rw[nH hl mf ms hpw wM,UQ];exact RG;have hput:a.put om.dst undef=a:=by rw[hst.1];rfl
  rw[hput];exact yG;have Yz:listed.getD ml false=false:=by
   cases hlm:listed.getD ml false
   rfl;exfalso;have awF:eU listed ms=ms.length:=by unfold eU;rw[List.countP_eq_length];intro x hx;obtain⟨k,hk⟩:=aEn hx;exact xY h.closed ms hch k x q ml hk hmq (by have:=(aC6.1 hk).1;omega) hlm
   have h1:=(aC6.1 hp).1;omega
  refine CS p i o hp WA ho a w Gp aoI K' λv w' hJw hI' RG hv=>hK' _ _ (ih _ _ _ ae (h.step ht ho hi hI' (λj d hj hd=>Ea Φ hJ j _ _ _ hJw (h.done j d hj hd)) hv ?_) λhlm=>?_);rw[nH hl mf ms hpw wM,UQ];exact RG;rw[aE6 false WA,Yz]at hlm
  cases hlm
  have WA:i≠ml:=by rintro rfl;exact wM (aDb hmq)
  refine hops i o ho wM a w Gp K' λv w' hE hI' hv=>hK' _ _ (ih _ _ _ ae (h.step ht ho hi hI' (λj d hj hd=>jH Φ hm j _ _ _ hE (h.done j d hj hd)) hv ?_) (alq o v w' ho WA λv0 h0=>hΨ _ _ _ hE h0));rw[tZ hl ms wM];exact P6 _ _ _ hE h.st
theorem Gu{id:Nat}{w0:ak}(dH:P.follows .mixedOrders=true)(I:ak->Prop)(J:ak->ak->Prop)(ms:List Nat)(St:Nat->ak->Prop)(ml jm dm:Nat)(Ψ:au->ak->Prop)(Φ:List (au->ak->Prop))(n q q1:Nat)(hn:a0.tmps.size=n)(ht:tidy .any ops n=true)(hm:gW Φ)(hJ:AB J Φ)(hch:chainC .any ops ms=true)(P6:∀p w w',Ev w w'->St p w->St p w')(hIE:∀w w',Ev w w'->I w->I w')
  (hI:I w0) (hS:St 0 w0) (hq:eU ((Array.range ops.size).map λ_=>true) ms=q) (hΨ:kK Ψ) (hmq:ms[q1]?=some ml) (hlast:q1+1=ms.length) (om:Oper) (UX:ops[ml]?=some om) (Zy:b_ .any ops ml jm=true) (sD:bG ops jm=some dm)
  (hops:∀i o,ops[i]?=some o->0+i∉ms->P5 P .any ops Q Φ a0 I (0+i) o) (CS:∀p i o,ms[p]?=some i->i≠ml->ops[i]?=some o->MN P .any ops Q Φ a0 I J St (0+p) i o) (hst:aeS P .any ops Q Φ a0 I J St q1 dm Ψ ml om)
  (hQ:∀(s:Nat->au) w,I w->(∀(d:Tmp) (_:nobody ops d=true:=by kernel_rfl),s d=a0.eval (.tmp d))->
   (∀(i:Nat) (d:Tmp) (_:bG ops i=some d:=by kernel_rfl),bu Φ i (s d) w)->St q w->Ψ (s dm) w->Q .normal ⟨((List.range n).map s).toArray,a0.defers⟩ w):
  (Code.region id ops true).wp P Q a0 w0:=by
 subst hn hq;refine wp_region_any dH (YA ht hm hJ hch P6 (λi o ho hi=>by have:=hops i o ho (by rwa [aDt]);rwa [aDt]at this) (λp i o hp hi ho=>by have:=CS p i o hp hi ho;rwa [aDt]at this) hΨ hmq hlast UX Zy sD hst ?_ ops.size _ _ _ ?_ ⟨aj,hIE _ _ (Ev.drew w0) hI,rfl,rfl,?_,λ_ _=>rfl,?_,?_⟩ ?_);intro a w hE hd hs hold hnew hp yG;rw[nN hs,hd];exact hQ (λd=>a.eval (.tmp d)) w hE hold hnew hp yG;unfold dw;exact aDr aEu aj;exact aIB;exact aIC;exact aHc;intro hi;exfalso;by_cases hlt:ml<ops.size<;>simp[hlt]at hi
theorem aeT{R:Nat->Nat->Oper->Prop}{ops:Array Oper}{ml:Nat}(k:Nat):∀p i o,([ml]:List Nat)[p]?=some i->i≠ml->ops[i]?=some o->R (k+p) i o:=by
 intro p i o hp hi
 cases p with
 | zero=>simp at hp;exact absurd hp.symm hi
 | succ p=>simp at hp
theorem aeU{R:Nat->Nat->Oper->Prop}{ops:Array Oper}{ml m:Nat}{ms:List Nat}{o0:Oper}(k:Nat)(ho:ops[m]?=some o0)(h0:R k m o0)(h:∀p i o,ms[p]?=some i->i≠ml->ops[i]?=some o->R (k+1+p) i o):∀p i o,(m::ms)[p]?=some i->i≠ml->ops[i]?=some o->R (k+p) i o:=by
 intro p i o hp hn hi
 cases p with
 | zero=>
  simp at hp;subst hp;rw[ho]at hi;obtain rfl:=aDp hi;exact h0
 | succ p=>
  have:=h p i o (by simpa using hp) hn hi;rwa [show k+1+p=k+(p+1) by omega]at this
end
def JH(J:ak->ak->Prop)(skip:List Nat):Nat->List (au->ak->Prop)->Prop
 | _,[]=>True
 | k,φ::l=>(skip.contains k=true∨∀v w w',J w w'->φ v w->φ v w')/\JH J skip (k+1) l
theorem VZ{J:ak->ak->Prop}{skip:List Nat}:∀(Φ:List (au->ak->Prop)) (k:Nat),JH J skip k Φ->∀i,skip.contains (k+i)=false->∀v w w',J w w'->bu Φ i v w->bu Φ i v w'
 | [],_,_,i,_=>λ_ _ _ _ _=>trivial
 | φ::l,k,h,0,hs=>by rcases h.1 with h1|h1;rw[aDw,h1]at hs;cases hs;exact h1
 | φ::l,k,h,i+1,hs=>VZ l (k+1) h.2 i (by rw[<-hs];congr 1;omega)
section
variable {P:Program} {md:Region.Mode} {ops:Array Oper} {Q:Exit->Act->ak->Prop} {Φ:List (au->ak->Prop)} {a0:Act} {J:Nat->ak->ak->Prop} {I:ak->Prop} {ms:List Nat} {St:Nat->ak->Prop}
def early(md:Region.Mode)(ops:Array Oper)(ms:List Nat)(i:Nat):Bool:=match ms with
 | m0::_=>reachC md ops 3 m0 i
 | []=>false
def aah(P:Program)(md:Region.Mode)(ops:Array Oper)(Q:Exit->Act->ak->Prop)(Φ:List (au->ak->Prop))(a0:Act)(I:ak->Prop)(ms:List Nat)(St:Nat->ak->Prop)(i:Nat)(o:Oper):Prop:=
 ∀(a:Act) (w:ak),xU md ops Φ a0 I i a w->(early md ops ms i=true->St 0 w)->∀K:Act->ak->Prop,(∀v w',Ev w w'->I w'->bu Φ i v w'->K (a.put o.dst v) w')->
  if Region.wanted o (yielded ops a.tmps)=true then Oper.wp P o a w K Q else K (a.put o.dst undef) w
def SH(P:Program)(md:Region.Mode)(ops:Array Oper)(Q:Exit->Act->ak->Prop)(Φ:List (au->ak->Prop))(a0:Act)(I:ak->Prop)(J:Nat->ak->ak->Prop)(St:Nat->ak->Prop)(p i:Nat)(o:Oper):Prop:=MN P md ops Q Φ a0 I (J p) St p i o
theorem YR(ht:tidy md ops a0.tmps.size=true)(hm:gW Φ)(hJ:∀p,JH (J p) (ms.drop p) 0 Φ)(hch:chainC md ops ms=true)(P6:∀p w w',Ev w w'->St p w->St p w')
  (hops:∀i o,ops[i]?=some o->i∉ms->aah P md ops Q Φ a0 I ms St i o) (CS:∀p i o,ms[p]?=some i->ops[i]?=some o->SH P md ops Q Φ a0 I J St p i o)
  (hQ:∀a w,I w->a.defers=a0.defers->a.tmps.size=a0.tmps.size->(∀d,nobody ops d=true->a.eval (.tmp d)=a0.eval (.tmp d))->
   (∀i d,bG ops i=some d->bu Φ i (a.eval (.tmp d)) w)->St (eU ((Array.range ops.size).map λ_=>true) ms) w->Q .normal a w):
  ∀(fuel:Nat) (listed:Array Bool) (a:Act) (w:ak),dw listed ops.size<=fuel->RF md ops Φ a0 I ms St listed a w->wpAny P md ops Q fuel listed a w:=by
 have fin:∀(listed:Array Bool) (a:Act) (w:ak),Region.ready md ops listed=[]->RF md ops Φ a0 I ms St listed a w->Q .normal a w:=by exact aFC
 intro fuel
 induction fuel with
 | zero=>
  intro listed a w hu h;have hr:Region.ready md ops listed=[]:=by exact aGh
  exact⟨hr,fin listed a w hr h⟩
 | succ fuel ih=>
  intro listed a w hu h;refine⟨λhr=>fin listed a w hr h,λi hi=>?_⟩;obtain⟨h0,o,ho,hall⟩:=aE7.1 hi;have hlt:i<ops.size:=(aDa.1 ho).1;have hl:i<listed.size:=by rw[h.size];exact hlt
  have mf:listed.getD i false=false:=by simpa[hl] using h0
  have hcount:=jI h.size hlt mf;have hpl:∀j,b_ md ops i j=true->listed.getD j false=true:=λj hp=>by exact aHD
  have Gp:xU md ops Φ a0 I i a w:=by exact aFR
  refine wpOp_step ho λK' hK'=>?_;by_cases wM:i∈ms;obtain⟨p,hp⟩:=aEn wM;have UQ:eU listed ms=p:=zL h.closed ms p i hch hp mf λj n uT qN=>by
   cases n with
   | zero=>exact hpl j uT
   | succ n=>
    exact aHa
  have hst:St p w:=UQ▸h.st;have apm:∀j,listed.getD j false=true->(ms.drop p).contains (0+j)=false:=λj hj=>by
   rw[aDt]
   cases hc:(ms.drop p).contains j
   rfl;have hmem:j∈ms.drop p:=by simpa using hc
   obtain⟨q,hq⟩:=aEn hmem;rw[aES]at hq;have:=xY h.closed ms hch p i (p+q) j hp hq (Nat.le_add_right _ _) hj;rw[mf]at this
   cases this
  refine CS p i o hp ho a w Gp hst K' λv w' hJw hI' RG hv=>hK' _ _ (ih _ _ _ ae (h.step ht ho hi hI' (λj d hj hd=>VZ Φ 0 (hJ p) j (apm j hj) _ _ _ hJw (h.done j d hj hd)) hv ?_));rw[nH hl mf ms (lU ms hch) wM,UQ];exact RG;have al3:early md ops ms i=true->St 0 w:=λhe=>by
   cases ms with
   | nil=>cases he
   | cons m0 l=>
    have hm0:listed.getD m0 false=false:=by
     cases hc:listed.getD m0 false
     rfl;have:=fO h.closed 3 m0 i he hc;rw[mf]at this
     cases this
    have h0:=h.st;rwa [tY h.closed m0 l hch hm0]at h0
  refine hops i o ho wM a w Gp al3 K' λv w' hE hI' hv=>hK' _ _ (ih _ _ _ ae (h.step ht ho hi hI' (λj d hj hd=>jH Φ hm j _ _ _ hE (h.done j d hj hd)) hv ?_));rw[tZ hl ms wM];exact P6 _ _ _ hE h.st
theorem GN{id:Nat}{w0:ak}(dH:P.follows .mixedOrders=true)(I:ak->Prop)(J:Nat->ak->ak->Prop)(ms:List Nat)(St:Nat->ak->Prop)(Φ:List (au->ak->Prop))(n q:Nat)(hn:a0.tmps.size=n)(ht:tidy .any ops n=true)(hm:gW Φ)(hJ:∀p,JH (J p) (ms.drop p) 0 Φ)(hch:chainC .any ops ms=true)(P6:∀p w w',Ev w w'->St p w->St p w')(hIE:∀w w',Ev w w'->I w->I w')
  (hI:I w0) (hS:St 0 w0) (hq:eU ((Array.range ops.size).map λ_=>true) ms=q)
  (hops:∀i o,ops[i]?=some o->0+i∉ms->aah P .any ops Q Φ a0 I ms St (0+i) o) (CS:∀p i o,ms[p]?=some i->ops[i]?=some o->SH P .any ops Q Φ a0 I J St (0+p) i o)
  (hQ:∀(s:Nat->au) w,I w->(∀(d:Tmp) (_:nobody ops d=true:=by kernel_rfl),s d=a0.eval (.tmp d))->
   (∀(i:Nat) (d:Tmp) (_:bG ops i=some d:=by kernel_rfl),bu Φ i (s d) w)->St q w->Q .normal ⟨((List.range n).map s).toArray,a0.defers⟩ w):
  (Code.region id ops true).wp P Q a0 w0:=by
 subst hn hq;refine wp_region_any dH (YR ht hm hJ hch P6 (λi o ho hi=>by have:=hops i o ho (by rwa [aDt]);rwa [aDt]at this) (λp i o hp ho=>by have:=CS p i o hp ho;rwa [aDt]at this) ?_ ops.size _ _ _ ?_ ⟨aj,hIE _ _ (Ev.drew w0) hI,rfl,rfl,?_,λ_ _=>rfl,?_,?_⟩);exact aH6;unfold dw;exact aDr aEu aj;exact aIB;exact aIC;exact aHc
theorem nJ{i:Nat}{o:Oper}(h:∀a w,xU md ops Φ a0 I i a w->(early md ops ms i=true->St 0 w)->Region.wanted o (yielded ops a.tmps)=true/\∃v,(execOp a.eval o).run P w=.ok (.value v) w/\bu Φ i v w):aah P md ops Q Φ a0 I ms St i o:=by intro a w c he K hK;obtain⟨hw,v,hr,hv⟩:=h a w c he;rw[if_pos hw];unfold Oper.wp;rw[hr];exact hK v w (Ev.refl w) c.inv hv
theorem acd{i:Nat}{o:Oper}(h:∀a w,xU md ops Φ a0 I i a w->(early md ops ms i=true->St 0 w)->Region.wanted o (yielded ops a.tmps)=true/\∃v w',(execOp a.eval o).run P w=.ok (.value v) w'/\Ev w w'/\I w'/\bu Φ i v w'):aah P md ops Q Φ a0 I ms St i o:=by intro a w c he K hK;obtain⟨hw,v,w',hr,hE,hI,hv⟩:=h a w c he;rw[if_pos hw];unfold Oper.wp;rw[hr];exact hK v w' hE hI hv
theorem YS{J:Nat->ak->ak->Prop}{p i:Nat}{o:Oper}(h:∀a w,xU md ops Φ a0 I i a w->St p w->Region.wanted o (yielded ops a.tmps)=true/\∃v w',(execOp a.eval o).run P w=.ok (.value v) w'/\J p w w'/\I w'/\St (p+1) w'/\bu Φ i v w'):SH P md ops Q Φ a0 I J St p i o:=by intro a w c hst K hK;obtain⟨hw,v,w',hr,h1,h2,h3,h4⟩:=h a w c hst;rw[if_pos hw];unfold Oper.wp;rw[hr];exact hK v w' h1 h2 h3 h4
theorem YT{J:Nat->ak->ak->Prop}{p i:Nat}{o:Oper}(hd:o.dst=none)(h:∀a w,xU md ops Φ a0 I i a w->St p w->Region.wanted o (yielded ops a.tmps)=true/\∃w',(execOp a.eval o).run P w=.ok .skip w'/\J p w w'/\I w'/\St (p+1) w'/\bu Φ i undef w'):SH P md ops Q Φ a0 I J St p i o:=rZ hd h
end
end Go.Proofs.YtbgmhhfjkkfhpaaGreatDoor
