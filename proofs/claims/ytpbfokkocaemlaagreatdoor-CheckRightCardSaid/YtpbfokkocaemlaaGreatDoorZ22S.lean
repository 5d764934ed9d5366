import Derived.Test.YtpbfokkocaemlaaGreatDoorZ16S
import Derived.Test.YtpbfokkocaemlaaGreatDoorZ11S
set_option linter.unusedVariables false
set_option maxRecDepth 100000
set_option maxHeartbeats 64000000
namespace Go.Proofs.YtpbfokkocaemlaaGreatDoor
open Go.RowKit
open Go.Lib renaming hid → zq
mutual
def printS:T→By
 | .mk k s n kids _=>if k=1 then 40::(printL true kids++[41]) else if k=2 then s else if k=3 then Lib.itoa n else if k=4 then showV 2 0 ⟨s.toArray⟩ else []
def printL:Bool→List T→By
 | _,[]=>[]
 | b,t::l=>(if b then [] else [32])++(printS t++printL false l)
end
mutual
def wJ:T→Bool
 | .mk _ _ n kids _=>decide (-9223372036854775808≤n)&&decide (n≤9223372036854775807)&&fitsAll kids
def fitsAll:List T→Bool
 | []=>true
 | t::l=>wJ t&&fitsAll l
end
theorem lW:∀(l:List T) (b:Bool) (t:T),printL b (l++[t])=printL b l++((if b&&l.isEmpty then [] else [32])++printS t)
 | [],b,t=>by cases b<;>simp[printL]
 | a::l,b,t=>by have:=lW l false t;simp only[aue,printL];rw[this];simp
theorem Fh (l:List T) (k:Nat) (t:T) (h:l[k]?=some t):printL true (l.take (k+1))=printL true (l.take k)++((if k=0 then [] else [32])++printS t):=by
 obtain⟨hk,e⟩:=atr.1 h;rw[atD hk,lW,e];congr 2
 cases l with
 | nil=>simp at hk
 | cons a l=>cases k<;>simp
theorem wK:∀(l:List T) (b:Bool) (k:Nat),(printL b (l.take k)).length≤(printL b l).length
 | [],b,k=>by simp
 | a::l,b,0=>by simp[printL]
 | a::l,b,k+1=>by have:=wK l false k;simp only[auz,printL,atv];omega
theorem Ba:∀(l:List T) (t:T),fitsAll l=true→t∈l→wJ t=true
 | [],t,h,ht=>by cases ht
 | a::l,t,h,ht=>by simp only[fitsAll,atu]at h;rcases atA.1 ht with rfl|h2;exact h.1;exact Ba l t h.2 h2
def abw (m:M) (w:World):Prop:=
 ∀(w':World),Ev w w'→(printS m.t).length≤1000000→wJ m.t=true→
  Calls Tryz.prog 84 #[.agg #[.int .i64 m.kind,.string ⟨m.s.toArray⟩,.int .i64 m.n,.slice m.A m.kids.length m.cap,.int .i64 (m.pos:Int)]] w' fun r w''=>r=.returned (.string ⟨(printS m.t).toArray⟩)∧Ev w' w''
theorem YO (s:ByteArray) (w:World):
  Calls Tryz.prog 126 #[.string s] w fun e w'=>e=.returned (.string ⟨(showV 2 0 s).toArray⟩)∧Ev w w':=by
 have HS:=zq (fun w1=>WM 2 0 s w1 (by decide) (by decide));go_enter Tryz.func126,Tryz.ntmps126
 go_wp2_with (first|((with_reducible refine (HS.out _).mono ?_);rintro x w1 ⟨rfl,aH⟩))
 go_ret;exact⟨rfl,aH⟩
theorem MO {w:World} {g:Nat} {m:M} {T_:TypeId} (h:w.heap[g]?=some (.cells (mc m).toArray T_ (0,0))):w.cell? ⟨g,0,none⟩=some (.int .i64 m.kind)∧w.cell? ⟨g,1,none⟩=some (.string ⟨m.s.toArray⟩)∧w.cell? ⟨g,2,none⟩=some (.int .i64 m.n)∧w.cell? ⟨g,3,none⟩=some (.slice m.A m.kids.length m.cap)∧w.cell? ⟨g,4,none⟩=some (.int .i64 (m.pos:Int)):=by refine⟨?_,?_,?_,?_,?_⟩<;>(rw[Lib.cell_of_heap h];rfl)
theorem awM {P:Prop} (h:P:=by
 rw[←hP]at HD;clear ih ou fA hF Ee hP;generalize kids.length=nk at*;go_enter Tryz.func84,Tryz.ntmps84
 go_wp2_with (first|((with_reducible refine (HD.out _).mono ?_);rintro x w1 ⟨rfl,aH⟩))
 go_ret;exact⟨rfl,aT.trans aH⟩):P:=h
theorem YP {b0:Nat} {K:List Nat} {w:World} {m:M} (h:Lies b0 K w m):abw m w:=by
 induction h with
 | @mk kind s n A cap kids pos fA hA ou ih=>
  intro w' hE hlen hfit;obtain⟨w0,hw0⟩:∃w0,w0=w'.alloc (.cells #[.int .i64 kind,.string ⟨s.toArray⟩,.int .i64 n,.slice A kids.length cap,.int .i64 (pos:Int)] 79):=⟨_,rfl⟩
  have Ee:w0.heap[w'.heap.size]?=some (.cells (mc (.mk kind s n A cap kids pos)).toArray 79 (0,0)):=by rw[hw0];exact heap_alloc_new _ _
  have aT:Ev w' w0:=by rw[hw0];exact Ev.alloc _ _
  obtain⟨c0,c1,c2,c3,c4⟩:=MO Ee;have hP:printS (M.t (.mk kind s n A cap kids pos))=if kind=1 then 40::(printL true (kids.map M.t)++[41]) else if kind=2 then s else if kind=3 then Lib.itoa n else if kind=4 then showV 2 0 ⟨s.toArray⟩ else []:=by simp only[M.t,printS,M.ji]
  have hF:(-9223372036854775808≤n∧n≤9223372036854775807)∧fitsAll (kids.map M.t)=true:=by simp only[M.t,wJ,M.ji,atu,aun]at hfit;exact hfit
  generalize printS (M.t (.mk kind s n A cap kids pos))=Y at*;simp only[M.kind,M.s,M.n,M.A,M.kids,M.cap,M.pos]at c0 c1 c2 c3 c4⊢;have Wp:=hw0.symm;clear hw0 hfit;by_cases k1:kind=1
  ·subst k1;rw[if_pos rfl]at hP;obtain⟨L,hL⟩:∃L,L=kids.map M.t:=⟨_,rfl⟩
   rw[←hL]at hP hF;have hLl:(printL true L).length≤1000000:=by rw[hP]at hlen;simp at hlen;omega
   obtain⟨nk,xK⟩:∃nk,nk=kids.length:=⟨_,rfl⟩
   have hcapm:=fA.max;have hcap:=fA.le;rw[←xK]at c3 hcap Wp⊢;have wu:=zq xK;have HL:=zq hL;have HP:=zq hP;have HF:=zq hF.2;have lS:=zq ih;have CE:=zq fA;have HLl:=zq hLl;clear fA ih hP hL hLl ou hA xK hlen hF;go_enter Tryz.func84,Tryz.ntmps84;go_wp2
   go_loopw [3,4] (fun sv iv wr=>∃q:Nat,q≤nk∧iv=.int .i64 (q:Int)∧sv=.string ⟨(40::printL true (L.take q)).toArray⟩∧Ev w0 wr) (fun _ iv _=>nk - (intOf iv).toNat)
   case atStart=>exact⟨0,atG _,rfl,by simp[printL],Ev.refl _⟩
   case round=>
    obtain⟨q,hq,rfl,rfl,aH⟩:=hrel;obtain⟨c0',c1',c2',c3',c4'⟩:=MO (TK Ee aH);simp only[M.kind,M.s,M.n,M.A,M.kids,M.cap,M.pos]at c0' c1' c2' c3' c4';rw[←wu.out]at c3';have uZ:(40::printL true (L.take q):By).length≤1000001:=by have:=wK L true q;have:=HLl.out;simp;omega
    have hz:=cZ (40::printL true (L.take q));by_cases hlt:q<nk
    ·obtain⟨x,hx⟩:∃x,kids[q]?=some x:=⟨_,atN (by rw[←wu.out];exact hlt)⟩
     have hmr:Ms wr A kids.length cap kids:=CE.out.ev ((hE.trans aT).trans aH);obtain⟨b,off,hAA,hbl,d0,d1,d2,d3,d4⟩:=hmr.cell hx;have hxL:L[q]?=some x.t:=by rw[HL.out,aul,hx];rfl
     have nX:=Fh L q x.t hxL;have hle:=wK L true (q+1);have iq:(printS x.t).length≤1000000:=by rw[nX]at hle;have:=HLl.out;simp at hle;omega
     have hfx:=Ba L x.t HF.out (atw hxL);have HPx:=zq (fun w1 (h1:Ev wr w1)=>lS.out x (atw hx) w1 (((hE.trans aT).trans aH).trans h1) iq hfx);unfold M.kv at d3;rw[hAA]at c3';have j1:(0:Int)≤(q:Int):=by omega
     have j2:(q:Int)<(nk:Int):=by omega
     have hzx:=cZ (printS x.t);generalize hX:(40::printL true (L.take q):By)=X at*;generalize Vz:(40::printL true (L.take (q+1)):By)=X2 at*;by_cases hq0:q=0
     ·subst hq0;simp only[aud,atW]at d0 d1 d2 d3 d4;simp only[Int.natCast_zero];have lq:(⟨X.toArray⟩:ByteArray)++⟨(printS x.t).toArray⟩=⟨X2.toArray⟩:=(dV _ _).trans (by rw[←hX,←Vz,nX];simp);have adY:=zq lq;have HX2:=zq Vz;generalize printS x.t=Px at*;clear lq hX Vz nX hle hfx hxL hmr hx hAA
      go_wp2_with (first|((with_reducible refine (HPx.out _ (Ev.refl _)).mono ?_);rintro r w9 ⟨rfl,hE9⟩))
      go_roundw
      case rel=>exact⟨1,by omega,rfl,by rw[HX2.out];exact congrArg Value.string adY.out,aH.trans hE9⟩
      case measure=>simp[intOf];omega
     have qP:0<q:=by omega
     have acZ:(⟨X.toArray⟩:ByteArray)++⟨#[32]⟩=⟨(X++[32]).toArray⟩:=dV X [32];have lq:(⟨X.toArray⟩:ByteArray)++⟨#[32]⟩++⟨(printS x.t).toArray⟩=⟨X2.toArray⟩:=by rw[acZ];exact (dV _ _).trans (by rw[←hX,←Vz,nX];simp[hq0])
     have adY:=zq lq;have HX2:=zq Vz;generalize printS x.t=Px at*;clear lq acZ hX Vz nX hle hfx hxL hmr hx hAA
     go_wp2_with (first|((with_reducible refine (HPx.out _ (Ev.refl _)).mono ?_);rintro r w9 ⟨rfl,hE9⟩))
     go_roundw
     case rel=>exact⟨q+1,by omega,by go_num,by rw[HX2.out];exact congrArg Value.string adY.out,aH.trans hE9⟩
     case measure=>simp[intOf];omega
    obtain rfl:q=nk:=by omega
    have hY:(40::printL true (L.take q):By)++[41]=Y:=by rw[HP.out,atJ (by rw[HL.out,atq,←wu.out];exact att _)];rfl
    generalize (40::printL true (L.take q):By)=X at*;have HY:=zq hY;clear hY;go_wp2;go_ret;exact⟨by rw[←HY.out];exact congrArg (fun b=>Ending.returned (Value.string b)) (dV X [41]),aT.trans aH⟩
  rw[if_neg k1]at hP;by_cases k2:kind=2
  ·subst k2;rw[if_pos rfl]at hP;subst hP;clear ih ou fA hF Ee;generalize kids.length=nk at*;go_enter Tryz.func84,Tryz.ntmps84;go_wp2;go_ret;exact⟨rfl,aT⟩
  rw[if_neg k2]at hP;by_cases k3:kind=3;subst k3;rw[if_pos rfl]at hP;have HD:=zq (fun w1=>Fg n w1 hF.1.1 hF.1.2);exact awM;rw[if_neg k3]at hP;by_cases k4:kind=4;subst k4;rw[if_pos rfl]at hP;have HD:=zq (fun w1=>YO ⟨s.toArray⟩ w1);exact awM;rw[if_neg k4]at hP;subst hP;clear ih ou fA hF Ee;generalize kids.length=nk at*;have j1:(kind==1)=false:=atp.2 k1;have j2:(kind==2)=false:=atp.2 k2;have j3:(kind==3)=false:=atp.2 k3;have j4:(kind==4)=false:=atp.2 k4;go_enter Tryz.func84,Tryz.ntmps84;go_wp2;go_ret;exact⟨rfl,aT⟩
mutual
def xTree:T→T
 | .mk k s n l p=>if k==1 then .mk 2 s 0 [] 0 else if k==2 then .mk 3 [] n [] 0 else if k==3 then .mk 4 s 0 [] 0 else .mk 1 [] 0 (.mk 2 s 0 [] 0::xTrees l) 0
def xTrees:List T→List T
 | []=>[]
 | t::l=>xTree t::xTrees l
end
theorem ui:∀l:List T,xTrees l=l.map xTree
 | []=>rfl
 | t::l=>by simp[xTrees,ui l]
theorem Ey (s:By):∀(rs:List CG) (done:List T),(xReads s done rs).2.1=0→(∀r∈rs,r.2.1=0)∧xReads s done rs=(.mk 4 s 0 (done++rs.map (·.1)) 0,0,0)
 | [],done,_=>⟨(fun _ h=>by cases h),by simp[xReads]⟩
 | r::rs,done,h=>by unfold xReads at h⊢;by_cases hr:r.2.1=0;rw[if_pos (by simp[hr])]at h⊢;obtain⟨h1,h2⟩:=Ey s rs (done++[r.1]) h;refine⟨fun x hx=>?_,by rw[h2];simp⟩;rcases atA.1 hx with rfl|hx;exact hr;exact h1 x hx;rw[if_neg (by simp[hr])]at h;exact absurd h hr
theorem IX (s:By):∀(rs:List CG) (done:List T),(∀r∈rs,r.2.1=0)→xReads s done rs=(.mk 4 s 0 (done++rs.map (·.1)) 0,0,0)
 | [],done,_=>by simp[xReads]
 | r::rs,done,h=>by unfold xReads;rw[if_pos (by simp[h r (atz ..)]),IX s rs (done++[r.1]) fun x hx=>h x (aty _ hx)];simp
def QF (t:T):Prop:=(xRead t).2.1=0→xRead (xTree (xRead t).1)=((xRead t).1,0,0)∧printS (xTree (xRead t).1)=printS t
theorem MX:∀(q q':List T) (b:Bool),q.map printS=q'.map printS→printL b q=printL b q'
 | [],[],b,_=>rfl
 | [],_::_,b,h=>by simp at h
 | _::_,[],b,h=>by simp at h
 | t::q,t'::q',b,h=>by simp only[atx,List.cons.injEq]at h;unfold printL;rw[h.1,MX q q' false h.2]
theorem Bj (s:By) (n:Int) (l:List T) (p:Nat):xRead (.mk 1 s n l p)=(match l with
  | []=>jH 12 p
  | h::q=>if h.kind==2&&!(bC h.s==0) then (if q.length==bC h.s then xReads h.s [] (q.map xRead) else jH 23 p) else jH 12 p):=by
 cases l with
 | nil=>rfl
 | cons h q=>simp only[xRead,sF];rfl
theorem Xb (k:Int) (s:By) (n:Int) (l:List T) (p:Nat) (hb0:∀t∈l,QF t):QF (.mk k s n l p):=by
  intro h;by_cases k1:k=1;subst k1;rw[Bj]at h⊢
  cases l with
  | nil=>simp[jH]at h
  | cons hd q=>
   simp only at h⊢;by_cases hk:(hd.kind==2&&!(bC hd.s==0))=true;rw[if_pos hk]at h⊢;by_cases hq:(q.length==bC hd.s)=true;rw[if_pos hq]at h⊢;obtain⟨h1,h2⟩:=Ey hd.s _ [] h;have hb:∀t∈q,QF t:=fun t ht=>hb0 t (aty _ ht);have hb1:∀t∈q,xRead (xTree (xRead t).1)=((xRead t).1,0,0)∧printS (xTree (xRead t).1)=printS t:=fun t ht=>hb t ht (h1 _ (atV.2 ⟨t,ht,rfl⟩));rw[h2];simp only[auv,atI];have ht:xTree (.mk 4 hd.s 0 (q.map ((fun x=>x.1) ∘ xRead)) 0)=.mk 1 [] 0 (.mk 2 hd.s 0 [] 0::(q.map ((fun x=>x.1) ∘ xRead)).map xTree) 0:=by rw[xTree,ui];rfl
   rw[ht,Bj];simp only[atu,atH]at hk;have hk2:(((T.mk 2 hd.s 0 [] 0).kind==2)&&!(bC (T.mk 2 hd.s 0 [] 0).s==0))=true:=by show ((2:Int)==2&&!(bC hd.s==0))=true;rw[hk.2];rfl
   refine⟨?_,?_⟩;simp only[hk2,if_true];rw[if_pos (by rw[atq,atq];exact hq),atI,atI];have he:q.map ((xRead ∘ xTree) ∘ ((fun x=>x.1) ∘ xRead))=q.map fun t=>((xRead t).1,(0:Int),0):=aug fun t ht=>(hb1 t ht).1;rw[he,IX _ _ _ (fun r hr=>by obtain⟨t,_,rfl⟩:=atV.1 hr;rfl)];simp only[auv,atI];rfl;have hp:printS hd=hd.s:=by
    cases hd with
    | mk k' s' n' l' p'=>
     have:k'=2:=hk.1;subst this;simp[printS,T.s]
   simp only[printS,if_true];rw[printL,printL];simp only[printS,if_true,hp];rw[MX _ q false (by
    rw[atI,atI];exact aug fun t ht=>(hb1 t ht).2)]
   simp;rw[if_neg hq]at h;exact absurd h (by simp[jH]);rw[if_neg hk]at h;exact absurd h (by simp[jH])
  by_cases k2:k=2;subst k2;simp only[xRead,auc,if_true]at h⊢;by_cases hn:jh s=true;rw[if_pos hn];simp[xTree,xRead,hn,printS];rw[if_neg hn]at h;exact absurd h (by simp[jH]);by_cases k3:k=3;subst k3;exact⟨rfl,by simp[xRead,xTree,printS]⟩;by_cases k4:k=4;subst k4;exact⟨rfl,by simp[xRead,xTree,printS]⟩
  cases l<;>simp[xRead,k1,k2,k3,k4,jH]at h
mutual
theorem MZ:∀t:T,QF t
 | .mk k s n l p=>Xb k s n l p (IY l)
theorem IY:∀(l:List T),∀t∈l,QF t
 | [],t,h=>by cases h
 | a::l,t,h=>by rcases atA.1 h with h|h;rw[h];exact MZ a;exact IY l t h
end
structure sQ (w0:World) (b:Nat) (x v:Value) (l:By) (w:World):Prop where
 bd:Bd b x v l w
 ev:Ev w0 w
 base:w0.heap.size≤b
 high:∀g,v.ownBlock=some g→w0.heap.size≤g
 good:l≠[]→x=.pointer (some ⟨b,0,none⟩)
theorem sQ.evs {w0:World} {b:Nat} {x v:Value} {l:By} {w w':World} (h:sQ w0 b x v l w) (hE:Ev w w'):sQ w0 b x v l w':=⟨h.bd.ev hE,h.ev.trans hE,h.base,h.high,h.good⟩
theorem sQ.step {w0:World} {b:Nat} {x v v':Value} {l l':By} {w w':World} (h:sQ w0 b x v l w) (hb:Bd b (.pointer (some ⟨b,0,none⟩)) v' l' w') (hB:But (b::foot v) w w') (hs:eX w v v'):sQ w0 b (.pointer (some ⟨b,0,none⟩)) v' l' w':=
 ⟨hb,((But.aS (K:=b::foot v) h.ev).then hB).ev fun k hk=>by
  rcases atA.1 hk with rfl|hk;exact h.base;exact h.high k (aB.1 hk),h.base,fun g hg=>by
  rcases hs g hg with h1|h1;exact h.high g h1;exact atP h.ev.size h1,fun _=>rfl⟩
theorem sQ.box {w0:World} {b:Nat} {x v:Value} {l:By} {w w1 w2:World} {g:Nat} {o:Obj} (h:sQ w0 b x v l w) (hg:w.heap.size≤g) (hE:Ev w w1) (ho:w1.heap[g]?=some o) (hB:But (b::foot v) w1 w2):w2.heap[g]?=some o:=by refine hB.heap ho fun hm=>?_;rcases atA.1 hm with h1|h1;have:=h.bd.lt;omega;have:=h.bd.2.2.lt (aB.1 h1);omega
def WriteAt (m:M) (w0:World):Prop:=
 ∀(b:Nat) (x v:Value) (l:By) (w':World),sQ w0 b x v l w'→l.length+(printS m.t).length≤1000000→wJ m.t=true→
  Calls Tryz.prog 98 #[.pointer (some ⟨b,0,none⟩),.agg #[.int .i64 m.kind,.string ⟨m.s.toArray⟩,.int .i64 m.n,.slice m.A m.kids.length m.cap,.int .i64 (m.pos:Int)]] w' fun r w''=>r=.returned (.tuple #[])∧∃x' v',sQ w0 b x' v' (l++printS m.t) w''
theorem OU {w0:World} {A:Option Addr} {nk cap:Nat} {kids:List M} (fA:Ms w0 A nk cap kids) (ih:∀k∈kids,WriteAt k w0) (L:List T) (hL:L=kids.map M.t) (hfit:fitsAll L=true)
  (b:Nat) (x v:Value) (l:By) (w':World) (hW:sQ w0 b x v l w') (hlen:l.length+(printL true L).length+2≤1000000):
  Calls Tryz.prog 137 #[.pointer (some ⟨b,0,none⟩),.slice A nk cap] w' fun r w''=>r=.returned (.tuple #[])∧∃x' v',sQ w0 b x' v' (l++(40::(printL true L++[41]))) w'':=by
 have H1:=fun w1 (h1:sQ w0 b x v l w1)=>iR b x v l 40 w1 h1.bd (by omega);simp only[show (((40:UInt8).toNat:Nat):Int)=40 from rfl]at H1;have H1:=zq H1;have xK:kids.length=nk:=fA.len;have hc1:=fA.le;have hc2:=fA.max;have wu:=zq xK;have HL:=zq hL;have HF:=zq hfit;have lS:=zq ih;have CE:=zq fA;clear xK hL hfit ih fA;go_enter Tryz.func137,Tryz.ntmps137
 go_wp2_with (first|((with_reducible refine (H1.out _ hW).mono ?_);rintro e w1 ⟨rfl,v1,PQ,hB1,hS1⟩))
 have S1:=hW.step PQ hB1 hS1
 go_loopw [10] (fun iv wr=>∃(q:Nat) (x v:Value),q≤nk∧iv=.int .i64 (q:Int)∧sQ w0 b x v (l++(40::printL true (L.take q))) wr) (fun iv _=>nk - (intOf iv).toNat)
 case atStart=>exact⟨0,_,_,atG _,rfl,by simpa[printL] using S1⟩
 case round=>
  obtain⟨q,xr,vr,hq,rfl,SR⟩:=hrel;clear S1 hS1 hB1 PQ;have jd:=wK L true q;by_cases hlt:q<nk
  ·obtain⟨k,hk⟩:∃k,kids[q]?=some k:=⟨_,atN (by rw[wu.out];exact hlt)⟩
   have hmr:Ms wr A nk cap kids:=CE.out.ev SR.ev;obtain⟨bb,off,hAA,hbl,d0,d1,d2,d3,d4⟩:=hmr.cell hk;have hxL:L[q]?=some k.t:=by rw[HL.out,aul,hk];rfl
   have nX:=Fh L q k.t hxL;have hle:=wK L true (q+1);have hfx:=Ba L k.t HF.out (atw hxL);unfold M.kv at d3;have j1:(0:Int)≤(q:Int):=by omega
   have j2:(q:Int)<(nk:Int):=by omega
   have Ee:=Ih wr k;by_cases hq0:q=0
   ·subst hq0;simp only[aud,atW]at d0 d1 d2 d3 d4;have hHP:∀w1,sQ w0 b xr vr (l++(40::printL true (L.take 0))) w1→_:=fun w1 (h1:sQ w0 b xr vr (l++(40::printL true (L.take 0))) w1)=>lS.out k (atw hk) b xr vr _ w1 h1 (by rw[nX]at hle;simp at hle⊢;omega) hfx;have HP:=zq hHP;have hout:l++(40::printL true (L.take 0))++printS k.t=l++(40::printL true (L.take (0+1))):=by rw[nX];simp
    have HO:=zq hout;simp only[Int.natCast_zero];rw[hAA];clear hout nX hle hfx hxL hmr hk hHP jd
    go_wp2_with (first|((with_reducible refine (HP.out _ (SR.evs (Ev.alloc _ _))).mono ?_);rintro r w9 ⟨rfl,x9,v9,S9⟩;rw[HO.out]at S9))
    go_roundw
    case rel=>exact⟨1,x9,v9,by omega,rfl,S9⟩
    case measure=>simp[intOf];omega
   have qP:0<q:=by omega
   have HB:=fun w1 (h1:sQ w0 b xr vr (l++(40::printL true (L.take q))) w1)=>iR b xr vr _ 32 w1 h1.bd (by simp;omega);simp only[show (((32:UInt8).toNat:Nat):Int)=32 from rfl]at HB;have HB:=zq HB;have HP:=zq (fun w1 x v (h1:sQ w0 b x v (l++(40::printL true (L.take q))++[32]) w1)=>lS.out k (atw hk) b x v _ w1 h1 (by rw[nX]at hle;simp[hq0]at hle⊢;omega) hfx);have hout:l++(40::printL true (L.take q))++[32]++printS k.t=l++(40::printL true (L.take (q+1))):=by rw[nX];simp[hq0]
   have HO:=zq hout;rw[hAA];clear hout nX hle hfx hxL hmr hk jd
   go_wp2_with (first
    | ((with_reducible refine (HB.out _ (SR.evs (Ev.alloc _ _))).mono ?_);rintro r w8 ⟨rfl,v8,hD8,nO,rY⟩;have S8:=(SR.evs (Ev.alloc _ _)).step hD8 nO rY;obtain⟨c0,c1,c2,c3,c4⟩:=Ec (SR.box (att _) (Ev.alloc _ _) Ee nO))
    | ((with_reducible refine (HP.out _ _ _ S8).mono ?_);rintro r w9 ⟨rfl,x9,v9,S9⟩;rw[HO.out]at S9))
   go_roundw
   case rel=>exact⟨q+1,x9,v9,by omega,by go_num,S9⟩
   case measure=>simp[intOf];omega
  obtain rfl:q=nk:=by omega
  have HB:=fun w1 (h1:sQ w0 b xr vr (l++(40::printL true (L.take q))) w1)=>iR b xr vr _ 41 w1 h1.bd (by simp;omega);simp only[show (((41:UInt8).toNat:Nat):Int)=41 from rfl]at HB;have HB:=zq HB;have hout:l++(40::printL true (L.take q))++[41]=l++(40::(printL true L++[41])):=by rw[atJ (by rw[HL.out,atq,wu.out];exact att _)];simp
  have HO:=zq hout;clear hout jd
  go_wp2_with (first|((with_reducible refine (HB.out _ SR).mono ?_);rintro r w8 ⟨rfl,v8,hD8,nO,rY⟩;have S8:=SR.step hD8 nO rY;rw[HO.out]at S8))
  go_end0;exact⟨rfl,_,_,S8⟩
theorem Np (n:Int):showV 1 n ⟨#[]⟩=Lib.itoa n:=by
 have h:ik 1 n ⟨#[]⟩=true:=by unfold ik;rw[if_pos rfl];simp[Lib.toList_data]
 unfold showV;rw[if_pos h,if_pos rfl]
theorem ZX {w0:World} (hT:Tab w0) {b0:Nat} {K:List Nat} {m:M} (h:Lies b0 K w0 m):WriteAt m w0:=by
 induction h with
 | @mk kind s n A cap kids pos fA hA ou ih=>
  intro b x v l w' hW hlen hfit;simp only[M.t,M.ji,printS,wJ,atu,aun]at hlen hfit⊢;obtain⟨⟨TE,qF⟩,hfk⟩:=hfit;simp only[M.kind,M.s,M.n,M.A,M.kids,M.cap,M.pos] at*;have hTr:Tab w':=hT.ev hW.ev;by_cases k1:kind=1
  ·subst k1;simp only[if_true]at hlen⊢;have HO:=zq (fun w1 (h1:sQ w0 b x v l w1)=>OU fA ih (kids.map M.t) rfl hfk b x v l w1 h1 (by simp at hlen;omega));have hc1:=fA.le;have hc2:=fA.max;have HW:=zq hW;clear fA ih hfk TE qF hlen hA ou;go_enter Tryz.func98,Tryz.ntmps98
   go_wp2_with (first|((with_reducible refine (HO.out _ (HW.out.evs (Ev.alloc _ _))).mono ?_);rintro r w9 ⟨rfl,x9,v9,S9⟩))
   go_end0;exact⟨rfl,_,_,S9⟩
  rw[if_neg k1]at hlen⊢;by_cases k2:kind=2
  ·subst k2;simp only[if_true]at hlen⊢;have HB:=zq (fun w1 (h1:sQ w0 b x v l w1)=>zg b x v l ⟨s.toArray⟩ w1 h1.bd (by rw[cZ];omega));have HW:=zq hW;clear fA ih hfk TE qF hlen hA ou;go_enter Tryz.func98,Tryz.ntmps98
   go_wp2_with (first|((with_reducible refine (HB.out _ (HW.out.evs (Ev.alloc _ _))).mono ?_);rintro r w9 ⟨rfl,v9,hD9,hB9,hS9⟩;have S9:=(HW.out.evs (Ev.alloc _ _)).step hD9 hB9 hS9))
   go_end0;exact⟨rfl,_,_,S9⟩
  rw[if_neg k2]at hlen⊢;by_cases k3:kind=3
  ·subst k3;simp only[if_true]at hlen⊢;have HN:=zq (fun w1=>value_num n w1);have HS:=zq (fun w1 (h1:Tab w1)=>Ij 1 n ⟨#[]⟩ w1 h1 TE qF);have HB:=zq (fun w1 (h1:sQ w0 b x v l w1)=>zg b x v l ⟨(showV 1 n ⟨#[]⟩).toArray⟩ w1 h1.bd (by rw[cZ,Np];omega));have HW:=zq hW;have HT:=zq hTr;clear fA ih hfk TE qF hlen hA ou hTr;go_enter Tryz.func98,Tryz.ntmps98
   go_wp2_with (first
    | ((with_reducible refine (HN.out _).mono ?_);rintro r w7 ⟨rfl,hE7⟩)
    | ((with_reducible refine (HS.out _ (HT.out.ev ((Ev.alloc _ _).trans hE7))).mono ?_);rintro r w8 ⟨rfl,kW⟩)
    | ((with_reducible refine (HB.out _ (HW.out.evs (((Ev.alloc _ _).trans hE7).trans kW))).mono ?_);rintro r w9 ⟨rfl,v9,hD9,hB9,hS9⟩;have S9:=(HW.out.evs (((Ev.alloc _ _).trans hE7).trans kW)).step hD9 hB9 hS9))
   go_end0;rw[Np]at S9;exact⟨rfl,_,_,S9⟩
  rw[if_neg k3]at hlen⊢;by_cases k4:kind=4
  ·subst k4;simp only[if_true]at hlen⊢;have HN:=zq (fun w1=>Wn ⟨s.toArray⟩ w1);have HS:=zq (fun w1 (h1:Tab w1)=>Ij 2 0 ⟨s.toArray⟩ w1 h1 (by omega) (by omega));have HB:=zq (fun w1 (h1:sQ w0 b x v l w1)=>zg b x v l ⟨(showV 2 0 ⟨s.toArray⟩).toArray⟩ w1 h1.bd (by rw[cZ];omega));have HW:=zq hW;have HT:=zq hTr;clear fA ih hfk TE qF hlen hA ou hTr;go_enter Tryz.func98,Tryz.ntmps98
   go_wp2_with (first
    | ((with_reducible refine (HN.out _).mono ?_);rintro r w7 ⟨rfl,hE7⟩)
    | ((with_reducible refine (HS.out _ (HT.out.ev ((Ev.alloc _ _).trans hE7))).mono ?_);rintro r w8 ⟨rfl,kW⟩)
    | ((with_reducible refine (HB.out _ (HW.out.evs (((Ev.alloc _ _).trans hE7).trans kW))).mono ?_);rintro r w9 ⟨rfl,v9,hD9,hB9,hS9⟩;have S9:=(HW.out.evs (((Ev.alloc _ _).trans hE7).trans kW)).step hD9 hB9 hS9))
   go_end0;exact⟨rfl,_,_,S9⟩
  rw[if_neg k4];simp only[auX];have HW:=zq hW;clear fA ih hfk TE qF hlen hA ou hTr;go_enter Tryz.func98,Tryz.ntmps98;go_wp2;go_end0;exact⟨rfl,_,_,HW.out.evs (Ev.alloc _ _)⟩
theorem ZY {w0:World} (hT:Tab w0) {b0:Nat} {K:List Nat} {m:M} (h:Lies b0 K w0 m) (hlen:(printS m.t).length≤1000000) (hne:printS m.t≠[]) (hfit:wJ m.t=true)
  (hend:∀w',Ev w0 w'→Calls Tryz.prog 97 #[.agg #[.int .i64 m.kind,.string ⟨m.s.toArray⟩,.int .i64 m.n,.slice m.A m.kids.length m.cap,.int .i64 (m.pos:Int)]] w' fun r w''=>r=.returned (.bool true)∧Ev w' w''):
  Calls Tryz.prog 55 #[.agg #[.int .i64 m.kind,.string ⟨m.s.toArray⟩,.int .i64 m.n,.slice m.A m.kids.length m.cap,.int .i64 (m.pos:Int)]] w0 fun r w''=>r=.returned (.string ⟨(printS m.t).toArray⟩)∧Ev w0 w'':=by
 have HE:=zq hend;have HW:=zq (fun wa (hE:Ev w0 wa) wb (Le:wb=wa.alloc (.cells #[.pointer none,.slice none 0 0] 146))=>by
  have D0:Bd wa.heap.size (.pointer none) (.slice none 0 0) [] wb:=by rw[Le];exact⟨heap_alloc_new wa _,.inl rfl,Row.nil_ _⟩
  have aT:Ev wa wb:=Le▸Ev.alloc wa _;exact ZX (hT.ev hE) (h.ev hE) wa.heap.size (.pointer none) (.slice none 0 0) [] wb ⟨D0,aT,att _,fun g hg=>(by cases hg),fun h=>absurd rfl h⟩ (by simpa using hlen) hfit)
 have HS:=zq (fun (wa:World) (x v:Value) (w4:World) (h4:sQ wa wa.heap.size x v (([]:By)++printS m.t) w4)=>Tryz.Builder_String_k wa.heap.size wa.heap.size (printS m.t) w4 (.inr ⟨att _,v,(h4.good (by rw[auv];exact hne))▸h4.bd.1,by have:=World.ownsRowF_of (h4.bd.2.2.base h4.high);rw[Lib.byteCells_length];exact this,h4.bd.ne⟩) hne);have hc1:=h.ms.le;have hc2:=h.ms.max;clear hlen hfit hend;go_enter Tryz.func55,Tryz.ntmps55
 go_wp2_with (first
  | ((with_reducible refine (HE.out _ (Ev.alloc _ _)).mono ?_);rintro r w1 ⟨rfl,aH⟩;obtain⟨c0,c1,c2,c3,c4⟩:=Ec (TK (Ih w0 m) (aH.trans (Ev.alloc w1 (.cells #[.pointer none,.slice none 0 0] 146)))))
  | ((with_reducible refine (HW.out _ ((Ev.alloc _ _).trans aH) _ rfl).mono ?_);rintro r w2 ⟨rfl,x2,v2,S2⟩)
  | ((with_reducible refine (HS.out _ _ _ _ S2).mono ?_);rintro r w4 ⟨rfl,_,hb4,_⟩))
 go_ret;exact⟨rfl,((Ev.alloc _ _).trans aH).trans (Below.trans S2.ev hb4)⟩
end Go.Proofs.YtpbfokkocaemlaaGreatDoor
