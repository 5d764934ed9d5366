import Derived.Test.YtpbfokkocaemlaaGreatDoorZ14S
set_option linter.unusedVariables false
set_option maxRecDepth 100000
set_option maxHeartbeats 64000000
namespace Go.Proofs.YtpbfokkocaemlaaGreatDoor
open Go.RowKit
def zS:By:=[97,100,100]
def zT:By:=[115,117,98]
def zU:By:=[109,117,108]
def SL:By:=[101,113]
def SN:By:=[108,116]
def zV:By:=[97,110,100]
def SQ:By:=[111,114]
def zW:By:=[99,97,116]
def zX:By:=[110,101,103]
def zY:By:=[110,111,116]
def zZ:By:=[108,101,110]
def Lh:By:=[105,102]
def Ob (s:By):Bool:=s==zS||s==zT||s==zU||s==SL||s==SN||s==zV||s==SQ||s==zW
def Oc (s:By):Bool:=s==zX||s==zY||s==zZ
def bC (s:By):Nat:=if Ob s then 2 else if Oc s then 1 else if s==Lh then 3 else 0
def dh (s:By):ByteArray:=⟨s.toArray⟩
abbrev jh (s:By):Bool:=fM (dh s)
abbrev CG:=T×Int×Nat
def jH (why:Int) (pos:Nat):CG:=(dM,why,pos)
def xReads (s:By) (done:List T):List CG→CG
 | []=>(.mk 4 s 0 done 0,0,0)
 | r::l=>if r.2.1==0 then xReads s (done++[r.1]) l else (dM,r.2.1,r.2.2)
mutual
def xRead:T→CG
 | .mk k s n l p=>
  if k==2 then (if jh s then (.mk 1 s 0 [] 0,0,0) else jH 20 p)
  else if k==3 then (.mk 2 [] n [] 0,0,0)
  else if k==4 then (.mk 3 s 0 [] 0,0,0)
  else if k==1 then
   (match l with
    | []=>jH 12 p
    | h::q=>if h.kind==2&&!(bC h.s==0) then
      (if q.length==bC h.s then xReads h.s [] (CJ q) else jH 23 p) else jH 12 p)
  else jH 12 p
def CJ:List T→List CG
 | []=>[]
 | t::l=>xRead t::CJ l
end
def kT (e:T):Bool:=
 if e.kind==1 then !jh e.s||!(e.n==0)||!e.kids.isEmpty
 else if e.kind==2 then !e.s.isEmpty||!e.kids.isEmpty
 else if e.kind==3 then !(e.n==0)||!e.kids.isEmpty
 else if e.kind==4 then bC e.s==0||!(e.n==0)||!(e.kids.length==bC e.s)
 else true
mutual
def dK:T→Bool
 | .mk k s n l p=>!kT (.mk k s n l p)&&qJ l
def qJ:List T→Bool
 | []=>true
 | t::l=>dK t&&qJ l
end
mutual
def T.size:T→Nat
 | .mk _ _ _ l _=>T.sizes l+1
def T.sizes:List T→Nat
 | []=>0
 | t::l=>t.size+T.sizes l
end
def rG (ks:List Int) (k:Int):Bool:=ks.all (·==k)
def bH (s:By) (ks:List Int):Int×Int:=
 if s==zS||s==zT||s==zU||s==zX||s==zV||s==SQ||s==zY then (if rG ks 1 then (1,0) else (0,22))
 else if s==SL||s==SN then (if ks.getD 0 0==ks.getD 1 0 then (1,0) else (0,22))
 else if s==zW then (if rG ks 2 then (2,0) else (0,22))
 else if s==zZ then (if rG ks 2 then (1,0) else (0,22))
 else if s==Lh then (if ks.getD 0 0==1&&ks.getD 1 0==ks.getD 2 0 then (ks.getD 1 0,0) else (0,22))
 else (0,22)
def xKindsGo (s:By) (done:List Int):List (Int×Int)→Int×Int
 | []=>bH s done
 | r::l=>if r.2==0 then xKindsGo s (done++[r.1]) l else (0,r.2)
mutual
def xKind (cols:List C):T→Int×Int
 | .mk k s n l p=>
  if k==1 then (match iO cols (dh s) with|none=>(0,20)|some i=>((cols.getD i (⟨#[]⟩,0)).2,0))
  else if k==2 then (1,0)
  else if k==3 then (2,0)
  else xKindsGo s [] (Be cols l)
def Be (cols:List C):List T→List (Int×Int)
 | []=>[]
 | t::l=>xKind cols t::Be cols l
end
def xType (cols:List C) (e:T):Int×Int:=if dK e then xKind cols e else (0,22)
def v0:V:=(0,0,⟨#[]⟩)
def ec (m:M):List Value:=[.int .i64 m.kind,.string ⟨m.s.toArray⟩,.int .i64 m.n,m.kv]
def zA (m:M):Value:=.agg #[.int .i64 m.kind,.string ⟨m.s.toArray⟩,.int .i64 m.n,m.kv]
abbrev Es:=Sl 4 ec
theorem wM:Enc 4 ec:=⟨by omega,fun _=>rfl,fun x u hu=>by
 simp[ec,M.kv]at hu;rcases hu with rfl|rfl|rfl|rfl<;>rfl⟩
inductive Lx (b0:Nat) (K:List Nat) (w:World):M→Prop
 | mk {kind:Int} {s:By} {n:Int} {A:Option Addr} {cap:Nat} {kids:List M} {pos:Nat}:Es w A kids.length cap kids→(∀ad,A=some ad→b0≤ad.block∧ad.block<w.heap.size∧ad.block∉K)→(∀k∈kids,Lx b0 K w k)→
   Lx b0 K w (.mk kind s n A cap kids pos)
theorem Lx.es {b0:Nat} {K:List Nat} {w:World} {m:M} (h:Lx b0 K w m):Es w m.A m.kids.length m.cap m.kids:=by
 cases h with
 | mk h1 h2 h3=>exact h1
theorem Lx.kid {b0:Nat} {K:List Nat} {w:World} {m:M} (h:Lx b0 K w m):∀k∈m.kids,Lx b0 K w k:=by
 cases h with
 | mk h1 h2 h3=>exact h3
theorem Lx.move {b0:Nat} {K K':List Nat} {w w':World} {m:M} (h:Lx b0 K w m) (hb:But K w w') (hs:∀x∈K',x∈K∨x<b0∨w.heap.size≤x):Lx b0 K' w' m:=by exact awl
theorem Lx.ev {b0:Nat} {K:List Nat} {w w':World} {m:M} (h:Lx b0 K w m) (hE:Ev w w'):Lx b0 K w' m:=h.move (But.aS hE) fun _ hx=>.inl hx
theorem Lx.low {b0 b1:Nat} {K:List Nat} {w:World} {m:M} (h:Lx b1 K w m) (hb:b0≤b1):Lx b0 K w m:=by exact ax1
theorem Lx.less {b0:Nat} {K K':List Nat} {w:World} {m:M} (h:Lx b0 K w m) (hs:∀x∈K',x∈K∨x<b0∨w.heap.size≤x):Lx b0 K' w m:=h.move (But.refl _ _) hs
theorem Lx.leaf {b0:Nat} {K:List Nat} {w:World} {k:Int} {s:By} {n:Int} {p:Nat}:Lx b0 K w (.mk k s n none 0 [] p):=.mk (Sl.nil_ w) (fun _ h=>by cases h) (fun _ h=>by cases h)
theorem Es.cell {w:World} {A:Option Addr} {n cap:Nat} {l:List M} (h:Es w A n cap l) {i:Nat} {x:M} (hx:l[i]?=some x):∃b off,A=some ⟨b,off,none⟩∧b<w.heap.size∧
  w.cell? ⟨b,off+i*4,none⟩=some (.int .i64 x.kind)∧w.cell? ⟨b,off+i*4+1,none⟩=some (.string ⟨x.s.toArray⟩)∧w.cell? ⟨b,off+i*4+2,none⟩=some (.int .i64 x.n)∧w.cell? ⟨b,off+i*4+3,none⟩=some x.kv:=by
 have hi:=(atr.1 hx).1;have hl:=h.len;obtain⟨b,off,e,hlt,hc⟩:=h.rd (by omega);exact⟨b,off,e,hlt,hc i x hx 0 _ rfl,hc i x hx 1 _ rfl,hc i x hx 2 _ rfl,hc i x hx 3 _ rfl⟩
mutual
def M.dep:M→Nat
 | .mk _ _ _ _ _ l _=>M.deps l+1
def M.deps:List M→Nat
 | []=>0
 | m::l=>max m.dep (M.deps l)
end
theorem M.CO:∀(l:List M) (k:M),k∈l→k.dep≤M.deps l
 | [],k,h=>by cases h
 | m::l,k,h=>by rcases atA.1 h with rfl|h;simp[M.deps];omega;have:=M.CO l k h;simp[M.deps];omega
theorem M.mX (m:M):m.dep=M.deps m.kids+1:=by cases m;rfl
theorem M.lF {m k:M} (h:k∈m.kids):k.dep<m.dep:=by have:=M.CO m.kids k h;rw[M.mX m];omega
theorem M.tu (m:M):m.t.s=m.s:=by rw[M.qO];rfl
theorem M.t_n (m:M):m.t.n=m.n:=by rw[M.qO];rfl
theorem sF:∀l:List T,CJ l=l.map xRead
 | []=>rfl
 | t::l=>by simp[CJ,sF l]
theorem u_:∀l:List T,qJ l=l.all dK
 | []=>rfl
 | t::l=>by simp[qJ,u_ l]
theorem Bf (cols:List C):∀l:List T,Be cols l=l.map (xKind cols)
 | []=>rfl
 | t::l=>by simp[Be,Bf cols l]
theorem T.pM:∀l:List T,T.sizes l=(l.map T.size).sum
 | []=>rfl
 | t::l=>by simp[T.sizes,T.pM l]
def fZ (c:UInt8):Bool:=c.toNat==40||c.toNat==34||c.toNat==45||bf c||aW c
def rfPop (os:List T):List T:=match os.getLast? with|none=>os|some e=>sxPut os.dropLast e
def G5 (os:List T) (pos:Nat):Res:=if 1<os.length then (dM,10,pos) else jT os pos
def rfGo:Nat→List T→By→Nat→Res
 | 0,_,_,_=>(dM,12,0)
 | _+1,os,[],pos=>G5 os pos
 | f+1,os,c::q,pos=>
  if dA c then rfGo f os q (pos+1)
  else if c.toNat==41 then (if os.length==1 then (dM,12,pos) else rfGo f (rfPop os) q (pos+1))
  else if !fZ c then (dM,12,pos)
  else if os.length==1&&sxDone os then (dM,11,pos)
  else if c.toNat==40 then (if 12<os.length then (dM,14,pos) else rfGo f (os++[.mk 1 [] 0 [] pos]) q (pos+1))
  else if (bF (c::q)).why==0 then rfGo f (sxPut os ((bF (c::q)).tree pos)) ((c::q).drop (bF (c::q)).size) (pos+(bF (c::q)).size)
  else (dM,(bF (c::q)).why,pos+(bF (c::q)).fault)
def dB (l:By):Res:=if 600<l.length then (dM,3,0) else rfGo (l.length+1) [dM] l 0
abbrev RT:TypeId:=79
theorem gB:Enc 5 mc:=⟨by omega,fun _=>rfl,fun x u hu=>AZ [x] u (by rw[nK];exact hu)⟩
theorem Tryz.pV:(Tryz.prog.info? 79).map (fun i=>(i.zero,i.size,i.bytes))=some (some (.agg #[.int .i64 0,.string ⟨#[]⟩,.int .i64 0,.slice none 0 0,.int .i64 0]),5,64):=by kernel_rfl
theorem Ow.low {α:Type} {k:Nat} {enc:α→List Value} {et:TypeId} {b0 b:Nat} {w:World} {v:Value} {Z:List α} (h:Ow et k enc b w v Z) (hb:b0≤b):Ow et k enc b0 w v Z:=
 ⟨h.1,h.2.imp id fun⟨g,cap,cur,h1,h2,r⟩=>⟨g,cap,cur,h1,atP hb h2,r⟩⟩
structure sH (w0:World) (g q cap:Nat) (os:List M) (i:Nat) (w:World):Prop where
 own:Ow 79 5 mc (w0.heap.size+1) w (.slice (some ⟨g,0,none⟩) (q+1) cap) os
 len:os.length=q+1
 lies:∀e∈os,Lies (w0.heap.size+1) [g] w e
 ev:Ev w0 w
 box:Bx 79 w0.heap.size #[.int .i64 0,.string ⟨#[]⟩,.int .i64 0,.slice none 0 0,.int .i64 0] w
 few:os.length≤i+1
 kids:∀e∈os,e.kids.length≤i
theorem sH.wider {w0 w:World} {g q cap i i':Nat} {os:List M} (h:sH w0 g q cap os i w) (hi:i≤i'):sH w0 g q cap os i' w:=
 ⟨h.own,h.len,h.lies,h.ev,h.box,by have:=h.few;omega,fun e he=>by have:=h.kids e he;omega⟩
theorem sH.evs {w0 w w':World} {g q cap i:Nat} {os:List M} (h:sH w0 g q cap os i w) (hE:Ev w w'):sH w0 g q cap os i w':=
 ⟨h.own.ev hE,h.len,fun e he=>(h.lies e he).ev hE,h.ev.trans hE,h.box.ev hE,h.few,h.kids⟩
theorem sH.at {w0 w:World} {g q cap i:Nat} {os:List M} (h:sH w0 g q cap os i w):w0.heap.size+1≤g∧g<w.heap.size∧q+1≤cap∧cap≤9223372036854775807∧(∀i,w.frozen? ⟨g,i,none⟩=false)∧
  ∀i x,os[i]?=some x→w.cell? ⟨g,i*5,none⟩=some (.int .i64 x.kind)∧w.cell? ⟨g,i*5+1,none⟩=some (.string ⟨x.s.toArray⟩)∧w.cell? ⟨g,i*5+2,none⟩=some (.int .i64 x.n)∧w.cell? ⟨g,i*5+3,none⟩=some x.kv∧w.cell? ⟨g,i*5+4,none⟩=some (.int .i64 (x.pos:Int)):=by
 obtain⟨A,cap',hv,hS,hA⟩:=h.own.form gB;injection hv with h1 h2 h3
 subst h1;subst h3;obtain⟨_,h4,h5,_,h6⟩:=hA _ rfl;have hle:=hS.le;rw[h.len]at hle;refine⟨h4,h5,hle,hS.max,h6,fun i x hx=>?_⟩;obtain⟨b,off,e,_,hc⟩:=hS.rd (by rw[h.len];omega);injection e with e
 injection e with e1 e2 _
 subst e1;subst e2;have key:∀j u,(mc x)[j]?=some u→w.cell? ⟨g,i*5+j,none⟩=some u:=fun j u hu=>by have:=hc i x hx j u hu;rwa [atT]at this
 exact⟨key 0 _ rfl,key 1 _ rfl,key 2 _ rfl,key 3 _ rfl,key 4 _ rfl⟩
theorem sH.ac5 {w0 w W:World} {g q cap i i':Nat} {os1 os2:List M} {e m:M} (h:sH w0 g q cap (os1++e::os2) i w) (hE:Ev w W) {v:Value} (hv:Ow 79 5 mc w.heap.size W v (e.kids++[m])) (hm:Lies (w0.heap.size+1) [g] W m) (hi:i<i'):
  ∃e':M,e'.t=e.t.add m.t∧sH w0 g q cap (os1++e'::os2) i' (W.setCell ⟨g,os1.length*5+3,none⟩ v):=by
 obtain⟨A,cap',rfl,hS,hA⟩:=hv.form gB;obtain⟨e',he'⟩:∃e',e'=M.mk e.kind e.s e.n A cap' (e.kids++[m]) e.pos:=⟨_,rfl⟩
 have hg:=h.at;have ou:e'.kids=e.kids++[m]:=by rw[he'];rfl
 have hB:But [g] W (W.setCell ⟨g,os1.length*5+3,none⟩ (.slice A (e.kids++[m]).length cap')):=But.setCell _ _ (by simp);refine⟨e',?_,?_,?_,?_,?_,?_,?_,?_⟩;rw[he',M.qO,T.add,M.qO e];simp[M.kind,M.s,M.n,M.kids,M.pos,T.kind,T.s,T.n,T.kids,T.pos];have h1:=(h.own.ev hE).set gB (i:=os1.length) (j:=3) (x:=e) (x':=e') (u:=.slice A (e.kids++[m]).length cap') (by simp) (by omega) (by rw[he'];simp[mc,M.kv,M.kind,M.s,M.n,M.A,M.kids,M.cap,M.pos]);have h2:(os1++e::os2).set os1.length e'=os1++e'::os2:=by simp
 rwa [h2]at h1;have:=h.len;simp at this⊢;omega;intro x hx;have hold:∀y,y∈os1++e::os2→Lies (w0.heap.size+1) [g] (W.setCell ⟨g,os1.length*5+3,none⟩ (.slice A (e.kids++[m]).length cap')) y:=fun y hy=>((h.lies y hy).ev hE).move hB fun _ hx=>.inl hx;rcases atK.1 hx with h1|h1;exact hold x (atO _ h1);rcases atA.1 h1 with rfl|h1;subst he';refine .mk (hS.but hB fun ad e0=>?_) (fun ad e0=>?_) fun y hy=>?_;have:=(hA ad e0).2.1;simp;have:=hg.2.1;omega;obtain⟨_,h3,h4,_⟩:=hA ad e0;have:=hE.size;have:=hg.1;have:=hg.2.1;refine⟨by omega,by simpa[World.setCell] using h4,?_⟩;simp;omega;rcases atK.1 hy with h2|h2;exact (hold e (by simp)).kid y h2;simp at h2;subst h2;exact hm.move hB fun _ hx=>.inl hx;exact hold x (auk _ (aty _ h1));exact (h.ev.trans hE).box hB (by have:=hg.1;omega);exact (h.box.ev hE).but hB (by simp;have:=hg.1;omega);have:=h.few;simp at this⊢;omega;intro x hx;rcases atK.1 hx with h1|h1;have:=h.kids x (atO _ h1);omega;rcases atA.1 h1 with rfl|h1;have:=h.kids e (by simp);rw[ou];simp;omega;have:=h.kids x (auk _ (aty _ h1));omega
theorem sH.pop {w0 w:World} {g q cap i:Nat} {os:List M} {e:M} (h:sH w0 g (q+1) cap (os++[e]) i w):sH w0 g q cap os i w:=by
 have hl:os.length=q+1:=by have:=h.len;simp at this;omega
 refine⟨?_,hl,fun e he=>h.lies e (atO _ he),h.ev,h.box,by have:=h.few;simp at this;omega,fun e he=>h.kids e (atO _ he)⟩;have:=h.own.to gB rfl (q+1) (by simp;omega);rwa [←hl,List.take_left' rfl,hl]at this
theorem sH.push {w0 w W:World} {g q cap i i':Nat} {os:List M} {m:M} (h:sH w0 g q cap os i w) (hE:Ev w W) {v:Value} (hv:Ow 79 5 mc w.heap.size W v (os++[m])) (hm:∀w K,Lies (w0.heap.size+1) K w m) (hk:m.kids=[]) (hi:i<i'):
  ∃g' cap',v=.slice (some ⟨g',0,none⟩) (q+1+1) cap'∧sH w0 g' (q+1) cap' (os++[m]) i' W:=by
 have hl:(os++[m]).length=q+1+1:=by have:=h.len;simp;omega
 obtain⟨A,cap',Yf,hS,hA⟩:=hv.form gB;subst Yf;rw[hl]at hv hS hA⊢;obtain⟨b,off,rfl,_,_⟩:=hS.rd (by omega);obtain⟨_,h3,h4,h5,_⟩:=hA _ rfl;simp at h5;subst h5;have hg:=h.at;simp at h3;have hb0:w0.heap.size+1≤w.heap.size:=by have:=hg.1;have:=hg.2.1;omega
 refine⟨b,cap',rfl,⟨hv.low hb0,hl,?_,h.ev.trans hE,h.box.ev hE,by have:=h.few;simp;omega,?_⟩⟩;intro e he;rcases atK.1 he with h1|h1;exact (h.lies e h1).move (But.aS (K:=[g]) hE) fun x hx=>by simp at hx;subst hx;exact .inr (.inr h3)
 simp at h1;subst h1;exact hm _ _;intro e he;rcases atK.1 he with h1|h1;have:=h.kids e h1;omega;simp at h1;subst h1;rw[hk];simp
theorem sH.init (w:World):sH w (w.heap.size+1) 0 1 [iK] 0 ((w.alloc (.cells #[.int .i64 0,.string ⟨#[]⟩,.int .i64 0,.slice none 0 0,.int .i64 0] 79)).alloc (.cells #[.int .i64 0,.string ⟨#[]⟩,.int .i64 0,.slice none 0 0,.int .i64 0] 79)):=by have hE:=Ev.alloc w (.cells #[.int .i64 0,.string ⟨#[]⟩,.int .i64 0,.slice none 0 0,.int .i64 0] 79);refine⟨?_,rfl,fun e he=>?_,hE.trans (Ev.alloc _ _),(Bx.new _ _ w).ev (Ev.alloc _ _),by simp,fun e he=>?_⟩;have:=Ow.made (et:=79) (base:=w.heap.size+1) gB (w.alloc (.cells #[.int .i64 0,.string ⟨#[]⟩,.int .i64 0,.slice none 0 0,.int .i64 0] 79)) [iK] #[.int .i64 0,.string ⟨#[]⟩,.int .i64 0,.slice none 0 0,.int .i64 0] rfl (by simp) (by simp);simpa using this;simp at he;subst he;exact Lies.zero _ _ _;simp at he;subst he;simp[iK,M.kids]
theorem Ud (os:List T) (e t:T):rfPop (os++[e]++[t])=os++[e.add t]:=by unfold rfPop;rw[List.getLast?_append];simp only[List.getLast?_singleton,Option.some_or,List.dropLast_concat];exact nJ _ _ _
theorem Ue {os:List M} {e:M}:sxDone ((e::os).map M.t)=decide (0<e.kids.length):=by simp only[sxDone,atx,M.aY];cases e.kids<;>simp
def jY (et:TypeId) (b:Nat) (v:Value) (w:World):Prop:=∃g,v=.slice (some ⟨g,0,none⟩) 0 0∧w.heap[g]?=some (.cells #[] et (0,0))∧b≤g
theorem jY.mono {et:TypeId} {b:Nat}:rF (jY et b):=fun v w w' hE ⟨g,h1,h2,h3⟩=>⟨g,h1,by rw[hE.block g (atC.1 h2).1];exact h2,h3⟩
theorem jY.new {et:TypeId} {b:Nat} {w:World} (h:b≤w.heap.size):jY et b (.slice (some ⟨w.heap.size,0,none⟩) 0 0) (w.alloc (.cells #[] et)):=⟨_,rfl,heap_alloc_new w _,h⟩
theorem jY.ow {α:Type} {k:Nat} {enc:α→List Value} {et:TypeId} {b:Nat} {v:Value} {w:World} (h:jY et b v w):Ow et k enc b w v ([]:List α):=by obtain⟨g,rfl,hg,hb⟩:=h;exact⟨by simp[cl],.inr ⟨g,0,#[],rfl,hb,hg,att _,by decide,by simp,by simp[cl]⟩⟩
theorem t_ {α:Type} {k:Nat} {enc:α→List Value} {et:TypeId} {b:Nat} {v:Value} {w:World} {P:Program} (E:Enc k enc) (T ty:TypeId) (ht:P.underlying T=some (.slice et)) {zero:Value} {bytes:Nat} (hi:(P.info? et).map (fun i=>(i.zero,i.size,i.bytes))=some (some zero,k,bytes)) (hz:zero.cells.size=k)
  (hv:jY et b v w) (A:Option Addr) (m c:Nat) (l:List α) (hB:Sl k enc w A m c l) (hbytes:l.length*bytes≤140737488355328) (hsm:l.length≤1000000000) (hbase:b≤w.heap.size):
  ∃v' w',(Builtin.append_ #[T,T] ty #[v,.slice A m c]).run P w=.ok v' w'∧Ow et k enc b w' v' l∧Ev w w':=by
 obtain⟨v',w',hr,h1,h2,h3,h4⟩:=kY (P:=P) E T ty ht hi hz (hv.ow (k:=k) (enc:=enc)) A m c l hB (by simpa using hbytes) (by simpa using hsm) hbase;rw[auv]at h1;refine⟨v',w',hr,h1,?_⟩;obtain⟨g,rfl,hg,hbg⟩:=hv;refine⟨h2.os,h2.tape,h2.output,h2.size,fun j hj=>?_⟩;by_cases hjg:j=g;subst hjg;obtain⟨i,Cf,hz',hsz,hby⟩:=info_parts hi;have hl:=hB.len
 cases A with
 | none=>
  obtain⟨rfl,rfl⟩:=hB.nil rfl;have hr2:=run_append_owned_none (P:=P) (w:=w) b T ty et i k ht Cf _ _ _ (jY.ow (k:=k) (enc:=enc) ⟨j,rfl,hg,hbg⟩);rw[hr]at hr2;simp only[Result.ok.injEq]at hr2;rw[hr2.2]
 | some ad=>
  by_cases hm:m=0;subst hm;have hr2:=run_append_room (P:=P) w T ty et i ht Cf j 0 0 #[] hg ad 0 c [] (by simp) (by simp) (by simp) (by omega) (by simp);rw[hr]at hr2;simp only[Result.ok.injEq]at hr2;rw[hr2.2,setRow_heap w j #[] _ et (0,0) hg,hg];simp;have hcells:∀j u,(cl enc l)[j]?=some u→w.cell? (ad.add j)=some u:=by intro q u hu;obtain⟨i',j',x,rfl,hx,hxu⟩:=N9 E l q u hu;have hq:=(atr.1 hx).1;obtain⟨b',off,e,_,hc⟩:=hB.rd (by omega);exact axK
  have hr2:=run_append_grow (P:=P) w T ty et i zero ht Cf hz' ⟨j,0,none⟩ 0 0 [] (by simp) (by simp) ad m c (cl enc l) (by rw[pK E,hl,hsz]) hcells (by omega) (by omega) (growslice_fits (by omega) (by rw[hby];rw[hl]at hbytes;simpa using hbytes));rw[hr]at hr2;simp only[Result.ok.injEq]at hr2;rw[hr2.2];exact ((Ev.drew w).trans (Ev.alloc w.drew _)).block j hj
 exact h2.block j hj (fun hm=>hjg (by have:=aB.1 hm;simp[Value.ownBlock]at this;exact this.symm))
theorem vw {α:Type} {k:Nat} {enc:α→List Value} {et:TypeId} {base:Nat} {v:Value} {P:Program} {w:World} {ops:Array Oper} {rest:List Oper} {o:Oper} {a:Act} {Q:Exit→Act→World→Prop} (hgd:o.guard=none) (T:TypeId) (s x:Operand)
  (ho:o.op=.call {callee:=.builtin .append,args:=#[s,x],argTypes:=#[T,T]}) (E:Enc k enc)
  (ht:P.underlying T=some (.slice et)) {zero:Value} {bytes:Nat} (hi:(P.info? et).map (fun i=>(i.zero,i.size,i.bytes))=some (some zero,k,bytes)) (hz:zero.cells.size=k)
  (hs:a.eval s=v) (hown:jY et base v w) (A:Option Addr) (m c:Nat) (l:List α) (hx:a.eval x=.slice A m c) (hB:Sl k enc w A m c l)
  (hbytes:l.length*bytes≤140737488355328) (hsm:l.length≤1000000000) (hbase:base≤w.heap.size)
  (h:∀v' w',Ow et k enc base w' v' l→Ev w w'→wpList P ops Q rest (a.put o.dst v') w'):wpList P ops Q (o::rest) a w:=by
 refine wpList_plain hgd fun K hK=>?_;obtain⟨v',w',hr,h2,h3⟩:=t_ (P:=P) E T o.type ht hi hz hown A m c l hB hbytes hsm hbase;unfold Oper.wp execOp;simp only[ho,resolve,invoke,builtin,Sem.run_bind,Sem.run_pure,Result.andThen_ok,auH,atx,atQ,hs,hx,hr];exact hK _ _ (h v' w' h2 h3)
theorem yP {ρ:Operand→Value} {o:Oper} (ho:o.op=.buildSlice 77 0 #[]) (w:World):(execOp ρ o).run Tryz.prog w=.ok (.value (.slice (some ⟨w.heap.size,0,none⟩) 0 0)) (w.alloc (.cells #[] 79)):=by unfold execOp;rw[ho];simp[go_sem]
theorem Aq {ρ:Operand→Value} {o:Oper} {x:Operand} (m:M) (ho:o.op=.buildSlice 77 1 #[(0,x)]) (h:ρ x=mv m) (w:World):
  (execOp ρ o).run Tryz.prog w=.ok (.value (.slice (some ⟨w.heap.size,0,none⟩) 1 1)) (w.alloc (.cells (mc m).toArray 79)):=by
 unfold mv M.kv at h;unfold mc M.kv;unfold execOp;rw[ho];simp[h,go_sem]
theorem lY {ρ:Operand→Value} {o:Oper} {x y:Operand} {g n cap:Nat} (k:Nat) (ho:o.op=.indexAddr 77 x y) (hx:ρ x=.slice (some ⟨g,0,none⟩) n cap) (hy:ρ y=.int .i64 (k:Int)) (hk:k<n) (w:World):
  (execOp ρ o).run Tryz.prog w=.ok (.value (.pointer (some ⟨g,k*5,none⟩))) w:=by
 have h1:(k:Int)<(n:Int):=by omega
 have h2:(0:Int)≤(k:Int):=by omega
 unfold execOp;rw[ho];simp[hx,hy,go_sem,h1,h2]
theorem oD {ρ:Operand→Value} {o:Oper} {x:Operand} {g i:Nat} (ho:o.op=.fieldAddr 79 x 3) (hx:ρ x=.pointer (some ⟨g,i,none⟩)) (w:World):
  (execOp ρ o).run Tryz.prog w=.ok (.value (.pointer (some ⟨g,i+3,none⟩))) w:=by
 unfold execOp;rw[ho];simp[hx,go_sem]
theorem Ar {ρ:Operand→Value} {o:Oper} {x:Operand} {a:Addr} {v:Value} {w:World} (ho:o.op=.load 77 x) (hx:ρ x=.pointer (some a)) (c0:w.cell? a=some v):
  (execOp ρ o).run Tryz.prog w=.ok (.value v) w:=by
 unfold execOp;rw[ho];simp[hx,go_sem,c0]
theorem Au {ρ:Operand→Value} {o:Oper} {x:Operand} {b off:Nat} {w:World} (m:M) (ho:o.op=.load 79 x) (hx:ρ x=.pointer (some ⟨b,off,none⟩)) (hc:∀j u,(mc m)[j]?=some u→w.cell? ⟨b,off+j,none⟩=some u):
  (execOp ρ o).run Tryz.prog w=.ok (.value (mv m)) w:=by
 have c0:w.cell? ⟨b,off,none⟩=some (.int .i64 m.kind):=hc 0 _ rfl;have c1:w.cell? ⟨b,off+1,none⟩=some (.string ⟨m.s.toArray⟩):=hc 1 _ rfl;have c2:w.cell? ⟨b,off+2,none⟩=some (.int .i64 m.n):=hc 2 _ rfl;have c3:w.cell? ⟨b,off+3,none⟩=some m.kv:=hc 3 _ rfl;have c4:w.cell? ⟨b,off+4,none⟩=some (.int .i64 (m.pos:Int)):=hc 4 _ rfl;unfold mv;unfold execOp;rw[ho];simp[hx,go_sem,c0,c1,c2,c3,c4]
theorem qK {P:Program} {a:Act} {o:Oper} {x y:Operand} {T:TypeId} {u v':Value} {w w':World} (ho:o.op=.call {callee:=.builtin .append,args:=#[x,y],argTypes:=#[T,T]}) (hy:a.eval y=u)
  (hr:(Builtin.append_ #[T,T] o.type #[a.eval x,u]).run P w=.ok v' w'):(execOp a.eval o).run P w=.ok (.value v') w':=by
 unfold execOp;simp only[ho,resolve,invoke,builtin,Sem.run_bind,Sem.run_pure,Result.andThen_ok,auH,atx,atQ,hy,hr]
end Go.Proofs.YtpbfokkocaemlaaGreatDoor
