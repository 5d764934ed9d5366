import Derived.Test.YtbgmhhfjkkfhpaaGreatDoorZ23G
set_option linter.unusedVariables false
set_option maxRecDepth 100000
set_option maxHeartbeats 64000000
namespace Go.Proofs.YtbgmhhfjkkfhpaaGreatDoor
open Go.RowKit
open Go renaming World → ak
theorem Tryz.iP:(Tryz.prog.info? 135).map (·.size)=some 4:=ah
def Pq(R:FV)(w:ak)(e:Ending)(w':ak):Prop:=
 ∃x:M,e=.returned (.tuple #[.agg ↑(x,()),.int .i64 R.2.1,.int .i64 (R.2.2:Int)])/\x.t=R.1/\Lx w.heap.size [] w' x/\Ev w w'
structure ahE(w1:ak)(ge:Nat)(S:By)(A:Option Addr)(n cap:Nat)(L:List M)(w:ak):Prop where
 box:Bx 135 ge #[.int .i64 4,↑S,.int .i64 0,.slice A n cap] w
 own:Ow 135 4 ec (ge+1) w (.slice A n cap) L
 len:L.length=n
 lies:∀x∈L,Lx (ge+1) (foot (.slice A n cap)) w x
 ev:Ev w1 w
 ge_:w1.heap.size<=ge
theorem ahE.init(w1:ak)(S:By):ahE w1 w1.heap.size S none 0 0 [] (w1.alloc (.cells #[.int .i64 4,↑S,.int .i64 0,↑()] 135)):=
 ⟨Bx.new _ _ w1,Ow.nil_ _,rfl,(λx hx=>by cases hx),Ev.alloc _ _,aC8 _⟩
theorem lN:∀{l:List Nat} {x:Nat},x∈l->x<=l.sum
 | [],x,h=>by cases h
 | y::l,x,h=>by rcases aDg.1 h with rfl|h;simp;have:=lN h;simp;omega
theorem xRead_eq(m:M):xRead m.t=if m.kind==2 then (if kZ m.s then (.mk 1 m.s 0 [] 0,0,0) else lF 20 m.pos)
  else if m.kind==3 then (.mk 2 [] m.n [] 0,0,0)
  else if m.kind==4 then (.mk 3 m.s 0 [] 0,0,0)
  else if m.kind==1 then
   (match m.kids with
    | []=>lF 12 m.pos
    | h::q=>if h.kind==2&&!(dU h.s==0) then
      (if q.length==dU h.s then xReads h.s [] (q.map λx=>xRead x.t) else lF 23 m.pos) else lF 12 m.pos)
  else lF 12 m.pos:=by
 cases hk:m.kids with
 | nil=>
  rw[M.yE,hk];rfl
 | cons h q=>
  rw[M.yE,hk];simp only[aDe,xRead,M.xm,M.DK,aC_,rf,aDx];rfl
end Go.Proofs.YtbgmhhfjkkfhpaaGreatDoor
