import Derived.Test.YtpbfokkocaemlaaGreatDoorZ14J
set_option linter.unusedVariables false
set_option maxRecDepth 100000
set_option maxHeartbeats 64000000
namespace Go.Proofs.YtpbfokkocaemlaaGreatDoor
open Go.RowKit
open Go renaming World → ak
open Go renaming Value → au
open Go.Proofs.Tryz renaming prog → ax
def gK(c:UInt8):Bool:=c.toNat==40||c.toNat==34||c.toNat==45||bn c||aY c
def rfPop(os:List T):List T:=match os.getLast? with|none=>os|some e=>sxPut os.dropLast e
def IW(os:List T)(pos:Nat):Res:=if 1<os.length then (dR,10,pos) else kN os pos
def rfGo:Nat->List T->By->Nat->Res
 | 0,_,_,_=>(dR,12,0)
 | _+1,os,[],pos=>IW os pos
 | f+1,os,c::q,pos=>
  if dE c then rfGo f os q (pos+1)
  else if c.toNat==41 then (if os.length==1 then (dR,12,pos) else rfGo f (rfPop os) q (pos+1))
  else if !gK c then (dR,12,pos)
  else if os.length==1&&sxDone os then (dR,11,pos)
  else if c.toNat==40 then (if 12<os.length then (dR,14,pos) else rfGo f (os++[.mk 1 [] 0 [] pos]) q (pos+1))
  else if (bK (c::q)).why==0 then rfGo f (sxPut os ((bK (c::q)).tree pos)) ((c::q).drop (bK (c::q)).size) (pos+(bK (c::q)).size)
  else (dR,(bK (c::q)).why,pos+(bK (c::q)).fault)
def dG(l:By):Res:=if 600<l.length then (dR,3,0) else rfGo (l.length+1) [dR] l 0
abbrev RT:TypeId:=79
theorem gW:Enc 5 mc:=⟨ae,λ_=>rfl,λx u hu=>Cm [x] u (by rw[oH];exact hu)⟩
theorem Tryz.qO:(Tryz.prog.info? 79).map (λi=>(i.zero,i.size,i.bytes))=some (some (.agg ↑Zz.a),5,64):=ah
theorem Ow.low{α:Type}{k:Nat}{enc:α->List au}{et:TypeId}{b0 b:Nat}{w:ak}{v:au}{Z:List α}(h:Ow et k enc b w v Z)(hb:b0<=b):Ow et k enc b0 w v Z:=
 ⟨h.1,h.2.imp id λ⟨g,cap,cur,h1,h2,r⟩=>⟨g,cap,cur,h1,awJ hb h2,r⟩⟩
structure uo(w0:ak)(g q cap:Nat)(os:List M)(i:Nat)(w:ak):Prop where
 own:Ow 79 5 mc (w0.heap.size+1) w (.slice ↑g (q+1) cap) os
 len:os.length=q+1
 lies:∀e∈os,Lies (w0.heap.size+1) [g] w e
 ev:Ev w0 w
 box:Bx 79 w0.heap.size ↑Zz.a w
 few:os.length<=i+1
 kids:∀e∈os,e.kids.length<=i
theorem uo.wider{w0 w:ak}{g q cap i i':Nat}{os:List M}(h:uo w0 g q cap os i w)(hi:i<=i'):uo w0 g q cap os i' w:=
 ⟨h.own,h.len,h.lies,h.ev,h.box,by have:=h.few;omega,λe he=>by have:=h.kids e he;omega⟩
theorem uo.evs{w0 w w':ak}{g q cap i:Nat}{os:List M}(h:uo w0 g q cap os i w)(hE:Ev w w'):uo w0 g q cap os i w':=
 ⟨h.own.ev hE,h.len,λe he=>(h.lies e he).ev hE,h.ev.trans hE,h.box.ev hE,h.few,h.kids⟩
theorem uo.at{w0 w:ak}{g q cap i:Nat}{os:List M}(h:uo w0 g q cap os i w):w0.heap.size+1<=g/\g<w.heap.size/\q+1<=cap/\cap<=9223372036854775807/\(∀i,w.frozen? ⟨g,i,none⟩=false)/\
  ∀i x,os[i]?=some x->w.cell? ⟨g,i*5,none⟩=some (.int .i64 x.kind)/\w.cell? ⟨g,i*5+1,none⟩=some (.string ⟨x.s.toArray⟩)/\w.cell? ⟨g,i*5+2,none⟩=some (.int .i64 x.n)/\w.cell? ⟨g,i*5+3,none⟩=some x.kv/\w.cell? ⟨g,i*5+4,none⟩=some (.int .i64 (x.pos:Int)):=by
 obtain⟨A,cap',hv,hS,hA⟩:=h.own.form gW;injection hv with h1 h2 h3
 subst h1 h3;obtain⟨_,h4,h5,_,h6⟩:=hA _ rfl;have hle:=hS.le;rw[h.len]at hle;refine⟨h4,h5,hle,hS.max,h6,λi x hx=>?_⟩;obtain⟨b,off,e,_,hc⟩:=hS.rd (by rw[h.len];omega);injection e with e
 injection e with e1 e2 _
 subst e1 e2;have key:∀j u,(mc x)[j]?=some u->w.cell? ⟨g,i*5+j,none⟩=some u:=λj u hu=>by have:=hc i x hx j u hu;rwa [awL]at this
 exact⟨key 0 _ rfl,key 1 _ rfl,key 2 _ rfl,key 3 _ rfl,key 4 _ rfl⟩
theorem uo.aeV{w0 w W:ak}{g q cap i i':Nat}{os1 os2:List M}{e m:M}(h:uo w0 g q cap (os1++e::os2) i w)(hE:Ev w W){v:au}(hv:Ow 79 5 mc w.heap.size W v (e.kids++[m]))(hm:Lies (w0.heap.size+1) [g] W m)(hi:i<i'):
  ∃e':M,e'.t=e.t.add m.t/\uo w0 g q cap (os1++e'::os2) i' (W.setCell ⟨g,os1.length*5+3,none⟩ v):=by
 obtain⟨A,cap',rfl,hS,hA⟩:=hv.form gW;obtain⟨e',he'⟩:∃e',e'=M.mk e.kind e.s e.n A cap' (e.kids++[m]) e.pos:=⟨_,rfl⟩
 have hg:=h.at;have pq:e'.kids=e.kids++[m]:=by rw[he'];rfl
 have hB:But [g] W (W.setCell ⟨g,os1.length*5+3,none⟩ (.slice A (e.kids++[m]).length cap')):=But.setCell _ _ aj;refine⟨e',?_,?_,?_,?_,?_,?_,?_,?_⟩;rw[he',M.rV,T.add,M.rV e];simp[M.kind,M.s,M.n,M.kids,M.pos,T.kind,T.s,T.n,T.kids,T.pos];have h1:=(h.own.ev hE).set gW (i:=os1.length) (j:=3) (x:=e) (x':=e') (u:=.slice A (e.kids++[m]).length cap') aj ae (by rw[he'];simp[mc,M.kv,M.kind,M.s,M.n,M.A,M.kids,M.cap,M.pos]);have h2:(os1++e::os2).set os1.length e'=os1++e'::os2:=aj;rwa [h2]at h1;have:=h.len;simp at this|-;omega;intro x hx;have hold:∀y,y∈os1++e::os2->Lies (w0.heap.size+1) [g] (W.setCell ⟨g,os1.length*5+3,none⟩ (.slice A (e.kids++[m]).length cap')) y:=λy hy=>((h.lies y hy).ev hE).move hB λ_ hx=>.inl hx;rcases awD.1 hx with h1|h1;exact hold x (awH _ h1);rcases awq.1 h1 with rfl|h1;subst he';refine .mk (hS.but hB λad e0=>?_) (λad e0=>?_) λy hy=>?_;have:=(hA ad e0).2.1;simp;have:=hg.2.1;omega;obtain⟨_,h3,h4,_⟩:=hA ad e0;have:=hE.size;have:=hg.1;have:=hg.2.1;refine⟨ae,by simpa[World.setCell] using h4,?_⟩;simp;omega;rcases awD.1 hy with h2|h2;exact(hold e aj).kid y h2;simp at h2;subst h2;exact hm.move hB λ_ hx=>.inl hx;exact hold x (aw4 _ (awn _ h1));exact(h.ev.trans hE).box hB (by have:=hg.1;omega);exact(h.box.ev hE).but hB (by simp;have:=hg.1;omega);have:=h.few;simp at this|-;omega;intro x hx;rcases awD.1 hx with h1|h1;have:=h.kids x (awH _ h1);omega;rcases awq.1 h1 with rfl|h1;have:=h.kids e aj;rw[pq];simp;omega;have:=h.kids x (aw4 _ (awn _ h1));omega
theorem uo.pop{w0 w:ak}{g q cap i:Nat}{os:List M}{e:M}(h:uo w0 g (q+1) cap (os++[e]) i w):uo w0 g q cap os i w:=by
 have hl:os.length=q+1:=by have:=h.len;simp at this;omega
 refine⟨?_,hl,λe he=>h.lies e (awH _ he),h.ev,h.box,by have:=h.few;simp at this;omega,λe he=>h.kids e (awH _ he)⟩;have:=h.own.to gW rfl (q+1) (by simp;omega);rwa [<-hl,List.take_left' rfl,hl]at this
theorem uo.push{w0 w W:ak}{g q cap i i':Nat}{os:List M}{m:M}(h:uo w0 g q cap os i w)(hE:Ev w W){v:au}(hv:Ow 79 5 mc w.heap.size W v (os++[m]))(hm:∀w K,Lies (w0.heap.size+1) K w m)(hk:m.kids=[])(hi:i<i'):
  ∃g' cap',v=.slice (some ⟨g',0,none⟩) (q+1+1) cap'/\uo w0 g' (q+1) cap' (os++[m]) i' W:=by
 have hl:(os++[m]).length=q+1+1:=by have:=h.len;simp;omega
 obtain⟨A,cap',ZJ,hS,hA⟩:=hv.form gW;subst ZJ;rw[hl]at hv hS hA|-;obtain⟨b,off,rfl,_,_⟩:=hS.rd ae;obtain⟨_,h3,h4,h5,_⟩:=hA _ rfl;simp at h5;subst h5;have hg:=h.at;simp at h3;have hb0:w0.heap.size+1<=w.heap.size:=by have:=hg.1;have:=hg.2.1;omega
 refine⟨b,cap',rfl,⟨hv.low hb0,hl,?_,h.ev.trans hE,h.box.ev hE,by have:=h.few;simp;omega,?_⟩⟩;intro e he;rcases awD.1 he with h1|h1;exact(h.lies e h1).move (But.aV (K:=[g]) hE) λx hx=>by simp at hx;subst hx;exact .inr (.inr h3)
 simp at h1;subst h1;exact hm _ _;intro e he;rcases awD.1 he with h1|h1;have:=h.kids e h1;omega;simp at h1;subst h1;rw[hk];simp
theorem uo.init(w:ak):uo w (w.heap.size+1) 0 1 [iU] 0 ((w.alloc (.cells ↑Zz.a 79)).alloc (.cells ↑Zz.a 79)):=by have hE:=Ev.alloc w (.cells ↑Zz.a 79);refine⟨?_,rfl,λe he=>?_,hE.trans az,(Bx.new _ _ w).ev az,aj,λe he=>?_⟩;have:=Ow.made (et:=79) (base:=w.heap.size+1) gW (w.alloc (.cells ↑Zz.a 79)) [iU] ↑Zz.a rfl aj aj;simpa using this;simp at he;subst he;exact Lies.zero _ _ _;simp at he;subst he;simp[iU,M.kids]
theorem Vz(os:List T)(e t:T):rfPop (os++[e]++[t])=os++[e.add t]:=by unfold rfPop;rw[List.getLast?_append];simp only[List.getLast?_singleton,Option.some_or,List.dropLast_concat];exact oG _ _ _
theorem VA{os:List M}{e:M}:sxDone ((e::os).map M.t)=decide (0<e.kids.length):=by simp only[sxDone,awo,M.aZ];cases e.kids<;>simp
def iZ(et:TypeId)(b:Nat)(v:au)(w:ak):Prop:=∃g,v=.slice (some ⟨g,0,none⟩) 0 0/\w.heap[g]?=some (.cells #[] et (0,0))/\b<=g
theorem iZ.mono{et:TypeId}{b:Nat}:o8 (iZ et b):=λv w w' hE ⟨g,h1,h2,h3⟩=>⟨g,h1,by rw[hE.block g (awu.1 h2).1];exact h2,h3⟩
theorem iZ.new{et:TypeId}{b:Nat}{w:ak}(h:b<=w.heap.size):iZ et b (.slice ↑w.heap.size 0 0) (w.alloc (.cells #[] et)):=⟨_,rfl,heap_alloc_new w _,h⟩
theorem iZ.ow{α:Type}{k:Nat}{enc:α->List au}{et:TypeId}{b:Nat}{v:au}{w:ak}(h:iZ et b v w):Ow et k enc b w v ([]:List α):=by obtain⟨g,rfl,hg,hb⟩:=h;exact⟨by simp[cl],.inr ⟨g,0,#[],rfl,hb,hg,awj _,ai,aj,by simp[cl]⟩⟩
theorem pI{α:Type}{k:Nat}{enc:α->List au}{et:TypeId}{b:Nat}{v:au}{w:ak}{P:Program}(E:Enc k enc)(T ty:TypeId)(ht:P.underlying T=some (.slice et)){zero:au}{bytes:Nat}(hi:(P.info? et).map (λi=>(i.zero,i.size,i.bytes))=some (some zero,k,bytes))(hz:zero.cells.size=k)
  (hv:iZ et b v w) (A:Option Addr) (m c:Nat) (l:List α) (hB:Sl k enc w A m c l) (hbytes:l.length*bytes<=140737488355328) (hsm:l.length<=1000000000) (hbase:b<=w.heap.size):
  ∃v' w',(Builtin.append_ #[T,T] ty #[v,.slice A m c]).run P w=.ok v' w'/\Ow et k enc b w' v' l/\Ev w w':=by
 obtain⟨v',w',hr,h1,h2,h3,h4⟩:=j_ (P:=P) E T ty ht hi hz (hv.ow (k:=k) (enc:=enc)) A m c l hB (by simpa using hbytes) (by simpa using hsm) hbase;rw[axd]at h1;refine⟨v',w',hr,h1,?_⟩;obtain⟨g,rfl,hg,hbg⟩:=hv;refine⟨h2.os,h2.tape,h2.output,h2.size,λj hj=>?_⟩;by_cases hjg:j=g;subst hjg;obtain⟨i,DK,hz',hsz,hby⟩:=info_parts hi;have hl:=hB.len
 cases A with
 | none=>
  obtain⟨rfl,rfl⟩:=hB.nil rfl;have hr2:=run_append_owned_none (P:=P) (w:=w) b T ty et i k ht DK _ _ _ (iZ.ow (k:=k) (enc:=enc) ⟨j,rfl,hg,hbg⟩);rw[hr]at hr2;simp only[Result.ok.injEq]at hr2;rw[hr2.2]
 | some ad=>
  by_cases hm:m=0;subst hm;have hr2:=run_append_room (P:=P) w T ty et i ht DK j 0 0 #[] hg ad 0 c [] aj aj aj ae aj;rw[hr]at hr2;simp only[Result.ok.injEq]at hr2;rw[hr2.2,setRow_heap w j #[] _ et (0,0) hg,hg];simp;have hcells:∀j u,(cl enc l)[j]?=some u->w.cell? (ad.add j)=some u:=by intro q u hu;obtain⟨i',j',x,rfl,hx,hxu⟩:=Pz E l q u hu;have hq:=(awi.1 hx).1;obtain⟨b',off,e,_,hc⟩:=hB.rd ae;exact aAs
  have hr2:=run_append_grow (P:=P) w T ty et i zero ht DK hz' ⟨j,0,none⟩ 0 0 [] aj aj ad m c (cl enc l) (by rw[qJ E,hl,hsz]) hcells ae ae (growslice_fits ae (by rw[hby];rw[hl]at hbytes;simpa using hbytes));rw[hr]at hr2;simp only[Result.ok.injEq]at hr2;rw[hr2.2];exact((Ev.drew w).trans (Ev.alloc w.drew _)).block j hj
 exact h2.block j hj (λhm=>hjg (by have:=aG.1 hm;simp[Value.ownBlock]at this;exact this.symm))
theorem wQ{α:Type}{k:Nat}{enc:α->List au}{et:TypeId}{base:Nat}{v:au}{P:Program}{w:ak}{ops:Array Oper}{rest:List Oper}{o:Oper}{a:Act}{Q:Exit->Act->ak->Prop}(hgd:o.guard=none)(T:TypeId)(s x:Operand)
  (ho:o.op=.call {callee:=.builtin .append,args:=#[s,x],argTypes:=#[T,T]}) (E:Enc k enc)
  (ht:P.underlying T=some (.slice et)) {zero:au} {bytes:Nat} (hi:(P.info? et).map (λi=>(i.zero,i.size,i.bytes))=some (some zero,k,bytes)) (hz:zero.cells.size=k)
  (hs:a.eval s=v) (hown:iZ et base v w) (A:Option Addr) (m c:Nat) (l:List α) (hx:a.eval x=.slice A m c) (hB:Sl k enc w A m c l)
  (hbytes:l.length*bytes<=140737488355328) (hsm:l.length<=1000000000) (hbase:base<=w.heap.size)
  (h:∀v' w',Ow et k enc base w' v' l->Ev w w'->wpList P ops Q rest (a.put o.dst v') w'):wpList P ops Q (o::rest) a w:=by
 refine wpList_plain hgd λK hK=>?_;obtain⟨v',w',hr,h2,h3⟩:=pI (P:=P) E T o.type ht hi hz hown A m c l hB hbytes hsm hbase;unfold Oper.wp execOp;simp only[ho,resolve,invoke,builtin,Sem.run_bind,Sem.run_pure,Result.andThen_ok,axl,awo,awG,hs,hx,hr];exact hK _ _ (h v' w' h2 h3)
theorem zH{ρ:Operand->au}{o:Oper}(ho:o.op=.buildSlice 77 0 #[])(w:ak):(execOp ρ o).run ax w=.ok (.value (.slice ↑w.heap.size 0 0)) (w.alloc (.cells #[] 79)):=by unfold execOp;rw[ho];simp[go_sem]
theorem BL{ρ:Operand->au}{o:Oper}{x:Operand}(m:M)(ho:o.op=.buildSlice 77 1 #[(0,x)])(h:ρ x=mv m)(w:ak):
  (execOp ρ o).run ax w=.ok (.value (.slice ↑w.heap.size 1 1)) (w.alloc (.cells (mc m).toArray 79)):=by
 unfold mv M.kv at h;unfold mc M.kv;unfold execOp;rw[ho];simp[h,go_sem]
theorem mZ{ρ:Operand->au}{o:Oper}{x y:Operand}{g n cap:Nat}(k:Nat)(ho:o.op=.indexAddr 77 x y)(hx:ρ x=.slice ↑g n cap)(hy:ρ y=↑k)(hk:k<n)(w:ak):
  (execOp ρ o).run ax w=.ok (.value (.pointer ↑(g,k*5))) w:=by
 have h1:(k:Int)<(n:Int):=ae;have h2:(0:Int)<=(k:Int):=ae;unfold execOp;rw[ho];simp[hx,hy,go_sem,h1,h2]
theorem pJ{ρ:Operand->au}{o:Oper}{x:Operand}{g i:Nat}(ho:o.op=.fieldAddr 79 x 3)(hx:ρ x=.pointer ↑(g,i))(w:ak):
  (execOp ρ o).run ax w=.ok (.value (.pointer ↑(g,i+3))) w:=by
 unfold execOp;rw[ho];simp[hx,go_sem]
theorem BN{ρ:Operand->au}{o:Oper}{x:Operand}{a:Addr}{v:au}{w:ak}(ho:o.op=.load 77 x)(hx:ρ x=.pointer (some a))(c0:w.cell? a=some v):
  (execOp ρ o).run ax w=.ok (.value v) w:=by
 unfold execOp;rw[ho];simp[hx,go_sem,c0]
theorem BO{ρ:Operand->au}{o:Oper}{x:Operand}{b off:Nat}{w:ak}(m:M)(ho:o.op=.load 79 x)(hx:ρ x=.pointer ↑(b,off))(hc:∀j u,(mc m)[j]?=some u->w.cell? ⟨b,off+j,none⟩=some u):
  (execOp ρ o).run ax w=.ok (.value (mv m)) w:=by
 have c0:w.cell? ⟨b,off,none⟩=some ↑m.kind:=hc 0 _ rfl;have c1:w.cell? ⟨b,off+1,none⟩=some ↑m.s:=hc 1 _ rfl;have c2:w.cell? ⟨b,off+2,none⟩=some ↑m.n:=hc 2 _ rfl;have c3:w.cell? ⟨b,off+3,none⟩=some m.kv:=hc 3 _ rfl;have c4:w.cell? ⟨b,off+4,none⟩=some ↑m.pos:=hc 4 _ rfl;unfold mv execOp;rw[ho];simp[hx,go_sem,c0,c1,c2,c3,c4]
theorem rQ{P:Program}{a:Act}{o:Oper}{x y:Operand}{T:TypeId}{u v':au}{w w':ak}(ho:o.op=.call {callee:=.builtin .append,args:=#[x,y],argTypes:=#[T,T]})(hy:a.eval y=u)
  (hr:(Builtin.append_ #[T,T] o.type #[a.eval x,u]).run P w=.ok v' w'):(execOp a.eval o).run P w=.ok (.value v') w':=by
 unfold execOp;simp only[ho,resolve,invoke,builtin,Sem.run_bind,Sem.run_pure,Result.andThen_ok,axl,awo,awG,hy,hr]
end Go.Proofs.YtpbfokkocaemlaaGreatDoor
