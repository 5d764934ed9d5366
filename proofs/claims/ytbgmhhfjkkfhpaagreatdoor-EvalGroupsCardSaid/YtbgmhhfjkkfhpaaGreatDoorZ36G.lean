import Derived.Test.YtbgmhhfjkkfhpaaGreatDoorZ10G
import Derived.Test.YtbgmhhfjkkfhpaaGreatDoorZ33G
set_option linter.unusedVariables false
set_option maxRecDepth 100000
set_option maxHeartbeats 64000000
namespace Go.Proofs.YtbgmhhfjkkfhpaaGreatDoor
open Go.RowKit
open Go renaming World → ak
open Go renaming Value → au
open Go.Proofs.Tryz renaming prog → ax
open Go.Proofs.Tryz
open Go.ChangeShapes Go.WideShapes Go.ChangeAt Go.RowKit
def rwc(x:dK V):List au:=[x.v]
structure oK(w:ak)(A:Option Addr)(n cap:Nat)(L:List (dK V)):Prop where
 sl:Sl 1 rwc w A n cap L
 each:∀x∈L,Vs w x.A x.l.length x.cap x.l/\okN x.l
theorem oK.ev{w w':ak}{A:Option Addr}{n cap:Nat}{L:List (dK V)}(h:oK w A n cap L)(hE:Ev w w'):oK w' A n cap L:=⟨h.sl.ev hE,λx hx=>⟨(h.each x hx).1.ev hE,(h.each x hx).2⟩⟩
theorem oK.nil_(w:ak):oK w none 0 0 []:=⟨Sl.nil_ w,λ_ h=>by cases h⟩
theorem Tryz.aga:Tryz.prog.cellsOf 44=1:=ah
section
variable {H:Type} {enc:TypeId×au->H} {w:ak} {base:Nat} {sp:Nat->Bool} {held:Bool}
theorem agb{n:Nat}{cs:List au}{x:DataW H×List MemPlace}(h:DataW.trod enc ax w base sp held n 44 cs=some x):
  ∃y:dK V×DataW H,cs=[y.1.v]/\x.1=y.2/\(Vs w y.1.A y.1.l.length y.1.cap y.1.l/\okN y.1.l):=by
 rcases Deep.open_slice underlying44 h with⟨hcs,hx⟩|⟨a,len,c,m,f,D,Pl,hcs,_⟩
 exact⟨(⟨none,0,[]⟩,x.1),hcs,rfl,Sl.nil_ w,λ_ h=>by cases h⟩;subst hcs;obtain⟨l,h1,h2,_⟩:=ai3 h;have h3:=h1.len;subst h3;exact⟨(⟨some a,c,l⟩,x.1),rfl,rfl,h1,h2⟩
theorem amG{α β:Type}{k:Nat}{OT:α->List au}{w:ak}{A:Option Addr}{n cap:Nat}{l:List (α×β)}(h:Sl k (λy=>OT y.1) w A n cap l):Sl k OT w A n cap (l.map Prod.fst):=
 ⟨by rw[aC_];exact h.len,h.le,h.max,h.nil,λh0=>by
  obtain⟨b,off,e,hb,hc⟩:=h.rd h0;refine⟨b,off,e,hb,λi x hx j u hu=>?_⟩;rw[aDG]at hx;obtain⟨y,hy,rfl⟩:=aEF.1 hx;exact hc i y hy j u hu⟩
theorem Qv{fuel:Nat}{A:Option Addr}{n cap:Nat}{x:DataW H×List MemPlace}(h:DataW.trod enc ax w base sp held fuel 22 [.slice A n cap]=some x):
  ∃L:List (dK V),oK w A n cap L:=by
 obtain⟨l,h1,h2,_⟩:=aay (α:=dK V×DataW H) (OT:=λy=>rwc y.1) Prod.snd (λy=>Vs w y.1.A y.1.l.length y.1.cap y.1.l/\okN y.1.l) underlying22 Tryz.aga (λ_=>rfl) ai (λn cs x hx=>agb hx) h;exact⟨l.map Prod.fst,amG h1,λx hx=>by
  obtain⟨y,hy,rfl⟩:=aDz.1 hx;exact h2 y hy⟩
end
end Go.Proofs.YtbgmhhfjkkfhpaaGreatDoor
