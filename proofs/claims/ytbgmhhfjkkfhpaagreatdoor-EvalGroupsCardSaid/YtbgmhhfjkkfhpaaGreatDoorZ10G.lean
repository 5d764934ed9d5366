import Derived.Test.YtbgmhhfjkkfhpaaGreatDoorZ8G
set_option linter.unusedVariables false
set_option maxRecDepth 100000
set_option maxHeartbeats 64000000
namespace Go.Proofs.YtbgmhhfjkkfhpaaGreatDoor
open Go.RowKit
open Go renaming World → ak
open Go renaming Value → au
open Go.Proofs.Tryz renaming prog → ax
open Go.Proofs.Tryz
open Go.RowKit Go.WideShapes Go.ChangeShapes
set_option maxRecDepth 100000
theorem aax{α:Type}{P:Nat->α->Prop}:∀(n:Nat),(∀i,i<n->∃x,P i x)->∃l:List α,l.length=n/\∀i x,l[i]?=some x->P i x
 | 0,_=>⟨[],rfl,λi x h=>by simp at h⟩
 | n+1,h=>by obtain⟨l,hl,hP⟩:=aax n (λi hi=>h i ae);obtain⟨x,hx⟩:=h n ae;refine⟨l++[x],by simp[hl],λi y hy=>?_⟩;by_cases hi:i<n;rw[aD9 ae]at hy;exact hP i y hy;have hlt:=(aC6.1 hy).1;rw[aDd,hl,aDh,aDZ]at hlt;obtain rfl:i=n:=ae;rw[aEe ae,hl,Nat.sub_self]at hy;simp at hy;exact hy▸hx
def amF{H:Type}(x:V):DataW H:=.agg [.lit (.int .i64 x.1),.lit (.int .i64 x.2.1),.lit (.string x.2.2.data.toList)]
theorem Tryz.Wu:Tryz.prog.cellsOf 42=3:=ah
theorem Tryz.af8:Tryz.prog.cellsOf 3=1:=ah
theorem Tryz.af9:Tryz.prog.cellsOf 2=1:=ah
theorem Tryz.af_:Tryz.prog.cellsOf 9=1:=ah
section
variable {H:Type} {enc:TypeId×au->H} {w:ak} {base:Nat} {sp:Nat->Bool} {held:Bool}
theorem af'{n:Nat}{cs:List au}{x:DataW H×List MemPlace}(h:DataW.trod enc ax w base sp held n 42 cs=some x):
  ∃y:V,cs=je y/\x.1=amF y/\(Lit.int .i64 y.2.1).wf=true/\y.2.2.size<=maxLen:=by
 obtain⟨xs,n',_,hx,hl,hlen,hg⟩:=DataW.trod_struct underlying42 h;rw[Tryz.Wu]at hl
 match cs,hl with
 | [c0,c1,c2],_=>
  match xs,hlen with
  | [y0,y1,y2],_=>
   have h0:DataW.trod enc ax w base sp held n' 3 (([c0,c1,c2].drop 0).take (Tryz.prog.cellsOf 3))=some y0:=hg 0 _ rfl;have h1:DataW.trod enc ax w base sp held n' 2 (([c0,c1,c2].drop 1).take (Tryz.prog.cellsOf 2))=some y1:=hg 1 _ rfl;have h2:DataW.trod enc ax w base sp held n' 9 (([c0,c1,c2].drop 2).take (Tryz.prog.cellsOf 9))=some y2:=hg 2 _ rfl;rw[Tryz.af8]at h0;rw[Tryz.af9]at h1;rw[Tryz.af_]at h2;obtain⟨k,e0,rfl,_⟩:=DataW.trod_int underlying3 h0;obtain⟨m,e1,rfl,wm⟩:=DataW.trod_int underlying2 h1;obtain⟨s,e2,rfl,ws⟩:=DataW.trod_string underlying9 h2;simp at e0 e1 e2;subst e0 e1 e2;exact⟨(k,m,s),rfl,by rw[hx];rfl,wm,ws⟩
theorem aay{α:Type}{k:Nat}{OT:α->List au}{t e:TypeId}(dat:α->DataW H)(R:α->Prop)(ht:Tryz.prog.underlying t=some (.slice e))(hk:Tryz.prog.cellsOf e=k)(hk0:∀y,(OT y).length=k)(nX:0<k)
  (helem:∀(n:Nat) (cs:List au) (x:DataW H×List MemPlace),DataW.trod enc ax w base sp held n e cs=some x->∃y:α,cs=OT y/\x.1=dat y/\R y)
  {fuel:Nat} {A:Option Addr} {n cap:Nat} {x:DataW H×List MemPlace} (h:DataW.trod enc ax w base sp held fuel t [.slice A n cap]=some x):
  ∃l:List α,Sl k OT w A n cap l/\(∀y∈l,R y)/\(x.1=.nil/\l=[]∨∃rest,x.1=.slice (l.map dat) rest):=by
 rcases Deep.open_slice ht h with⟨hcs,hx⟩|⟨a,len,c,m,f,D,Pl,hcs,_,hl,hm,hmm,hx,hi⟩
 simp at hcs;obtain⟨rfl,rfl,rfl⟩:=hcs;exact⟨[],Sl.nil_ w,λx hx=>by simp at hx,.inl ⟨by rw[hx],rfl⟩⟩;simp at hcs;obtain⟨rfl,rfl,rfl⟩:=hcs;have hnm:n<=m:=by rw[hmm];split<;>omega
 have key:∃l:List α,l.length=n/\∀i y,l[i]?=some y->(D i=dat y/\R y)/\∀j u,(OT y)[j]?=some u->w.cell? (a.add (i*k+j))=some u:=by
  refine aax n λi hin=>?_;obtain⟨cs',hc,ht'⟩:=hi i ae;rw[hk]at hc;obtain⟨y,rfl,hy,hR⟩:=helem _ _ _ ht';obtain⟨_,_,hat⟩:=World.cells?_some hc;refine⟨y,⟨hy,hR⟩,λj u hu=>?_⟩;have hj:j<k:=by rw[<-hk0 y];exact(aC6.1 hu).1
  rw[<-Go.Deep.add_add,hat j hj,hu]
 obtain⟨l,kN,hP⟩:=key;have hmap:(List.range n).map D=l.map dat:=by apply List.ext_getElem?;intro i;by_cases hin:i<n;have aiy:i<l.length:=ae;have h1:=((hP i _ (aDo aiy)).1).1;rw[aDG,aDG,aDo aiy,List.getElem?_range hin];simp[h1];rw[List.getElem?_eq_none (by simp;omega),List.getElem?_eq_none (by simp;omega)]
 refine⟨l,⟨kN,hl,by simpa[maxLen] using hm,aj,λh0=>?_⟩,λx hx=>?_,.inr ⟨_,by rw[hx,hmap]⟩⟩;have KO:0<l.length:=ae;have hy:=aDo KO;have hz0:0<(OT l[0]).length:=by rw[hk0];exact nX
 have hc:=(hP 0 _ hy).2 0 _ (aDo hz0);obtain⟨b,off,spot⟩:=a;have hspot:spot=none:=by simpa[Addr.add] using World.cell?_spot hc
 subst hspot;have hb:b<w.heap.size:=by have:=World.block_lt_of_cell? w _ hc;simpa[Addr.add] using this
 refine⟨b,off,rfl,hb,λi y hy j u hu=>?_⟩;have:=(hP i y hy).2 j u hu;rw[aE9]at this;rw[Nat.add_assoc];exact this;obtain⟨i,hi2,rfl⟩:=aEN hx;exact((hP i _ (aDo hi2)).1).2
theorem ai3{fuel:Nat}{A:Option Addr}{n cap:Nat}{x:DataW H×List MemPlace}(h:DataW.trod enc ax w base sp held fuel 44 [.slice A n cap]=some x):
  ∃l:List V,Vs w A n cap l/\okN l/\(x.1=.nil/\l=[]∨∃rest,x.1=.slice (l.map amF) rest):=by
 obtain⟨l,h1,h2,h3⟩:=aay (α:=V) (OT:=je) amF (λy=>(Lit.int .i64 y.2.1).wf=true/\y.2.2.size<=maxLen) underlying44 Tryz.Wu (λ_=>rfl) ai (λn cs x hx=>af' hx) h;refine⟨l,h1,λy hy=>?_,h3⟩;have:=(h2 y hy).1;simp[Lit.wf,IntKind.min,IntKind.max,IntKind.signed,IntKind.bits]at this;omega
end
end Go.Proofs.YtbgmhhfjkkfhpaaGreatDoor
