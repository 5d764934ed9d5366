import Derived.Test.YtbgmhhfjkkfhpaaGreatDoorZ28G
import Derived.Test.YtbgmhhfjkkfhpaaGreatDoorZ26G
set_option linter.unusedVariables false
set_option maxRecDepth 100000
set_option maxHeartbeats 64000000
namespace Go.Proofs.YtbgmhhfjkkfhpaaGreatDoor
open Go.RowKit
open Go renaming World → ak
open Go renaming Value → au
variable {U:Prop}
theorem aek{s:By}(h:kZ s=true):1<=s.length/\s.length<=12:=by
 unfold kZ gU at h;simp only[aC9,aDV]at h;have:(dV s).size=s.length:=by simp[dV,ByteArray.size]
 omega
theorem PH:∀l:By,(l.flatMap ny).length<=3*l.length
 | []=>by simp
 | c::l=>by
  have h1:(ny c).length<=3:=by unfold ny;split<;>simp
  have:=PH l;simp only[aEp,aDd,aDh];omega
theorem ael{s:By}(h:s.length<=40):1<=(showV 2 0 ⟨s.toArray⟩).length/\(showV 2 0 ⟨s.toArray⟩).length<=122:=by
 have hr:ed 2 0 ⟨s.toArray⟩=true:=by simp[ed,ByteArray.size,h]
 have hq:=PH s;have e:showV 2 0 ⟨s.toArray⟩=oh s:=by simp[showV,hr]
 rw[e];unfold oh;rw[aDh,aDd];simp only[aDh,aDZ];omega
theorem LK:∀(l:List T) (b:Bool),(printL b l).length<=(l.map λt=>(printS t).length+1).sum
 | [],b=>by simp[printL]
 | t::l,b=>by
  have:=LK l false;unfold printL
  cases b<;>simp<;>omega
mutual
theorem Ap:∀t:T,t.every dY=true->BC t=true
 | .mk k s n l p,h=>by rw[T.every,aC9]at h;have h1:=(vW h.1).1;have h2:=LM l h.2;unfold y7 at h1;simp only[BC,h2,aEU,aC9,aDV];exact h1
theorem LM:∀l:List T,T.everys dY l=true->fitsAll l=true
 | [],_=>rfl
 | a::l,h=>by rw[T.everys,aC9]at h;simp only[fitsAll,Ap a h.1,LM l h.2,aE3]
end
structure uo(w0:ak)(A:Option Addr)(n cap:Nat)(L:List M)(w:ak):Prop where
 own:Ow 186 5 mc w0.heap.size w (.slice A n cap) L
 len:L.length=n
 lies:∀x∈L,Lies w0.heap.size (foot (.slice A n cap)) w x
 ev:Ev w0 w
theorem aIf(h:U:=by rcases hs k (aG.1 hk) with h1|h1;exact .inl (aG.2 h1);exact .inr (.inr h1)):U:=h
theorem uo.next{w0 wr wq w2:ak}{n cap:Nat}{A:Option Addr}{L:List M}{x:M}{v2:au}(h:uo w0 A n cap L wr)(hE:Ev wr wq)(hx:Lies wr.heap.size [] wq x)(hA:uG 186 5 mc w0.heap.size wq (.slice A n cap) (L++[x]) v2 w2):
  ∃A2 cap2,v2=.slice A2 (n+1) cap2/\uo w0 A2 (n+1) cap2 (L++[x]) w2:=by
 obtain⟨ho,hb,hs⟩:=hA;obtain⟨A2,cap2,rfl,qJ,I7⟩:=ho.form jU;have hl:(L++[x]).length=n+1:=by rw[aDd,h.len];rfl
 rw[hl]at ho hs qJ I7|-;refine⟨A2,cap2,rfl,ho,hl,λy hy=>?_,?_⟩;have hy2:Lies w0.heap.size (foot (.slice A n cap)) wq y:=by rcases aDm.1 hy with h1|h1;exact(h.lies y h1).ev hE;simp at h1;subst h1;refine(hx.less λk hk=>.inr (.inl ?_)).low h.ev.size;exact(h.own.lt (aG.1 hk)).2
 exact hy2.move hb λk hk=>by exact aIf
 exact((But.aU (h.ev.trans hE)).then hb).ev λk hk=>by have:=(h.own.lt (aG.1 hk)).1;omega
theorem uo.done{w0 w:ak}{n cap:Nat}{A:Option Addr}{L:List M}(h:uo w0 A n cap L w):Lies w0.heap.size [] w (.mk 1 [] 0 A cap L 0)/\n=L.length:=by
 obtain⟨A2,cap2,hv,qJ,I7⟩:=h.own.form jU;injection hv with h1 h2 h3
 subst h1 h3;refine⟨.mk qJ (λad e=>⟨(I7 ad e).2.1,(I7 ad e).2.2.1,aj⟩) (λk hk=>(h.lies k hk).less (λx hx=>(by cases hx))),h2⟩
theorem abT(b:Nat)(K:List Nat)(w:ak)(k:Int)(s:By)(n:Int)(p:Nat):Lies b K w (.mk k s n none 0 [] p):=.mk (Sl.nil_ w) (λ_ h=>by cases h) (λ_ h=>by cases h)
end Go.Proofs.YtbgmhhfjkkfhpaaGreatDoor
