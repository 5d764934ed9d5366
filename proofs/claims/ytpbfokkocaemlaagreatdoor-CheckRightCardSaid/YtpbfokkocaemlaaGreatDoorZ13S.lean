import Derived.Test.YtpbfokkocaemlaaGreatDoorZ12S
set_option linter.unusedVariables false
set_option maxRecDepth 100000
set_option maxHeartbeats 64000000
namespace Go.Proofs.YtpbfokkocaemlaaGreatDoor
open Go.RowKit
open Go.Lib renaming hid → zq
theorem Tryz.infoTree:(Tryz.prog.info? 101).map (fun i=>(i.zero,i.size,i.bytes))=some (some (.agg #[.int .i64 0,.string ⟨#[]⟩,.int .i64 0,.slice none 0 0,.int .i64 0]),5,64):=by kernel_rfl
theorem La {P:Program} {ops:Array Oper} {o:Oper} {a:Act} {w:World} {K:Act→World→Prop} {Q:Exit→Act→World→Prop} {E:Prop}
  (hg:o.guard=none) (s x:Operand) (hop:o.op=.call {callee:=.builtin .append,args:=#[s,x],argTypes:=#[99,99]})
  (ht:P.underlying 99=some (.slice 101)) (hi:(P.info? 101).map (fun i=>(i.zero,i.size,i.bytes))=some (some (.agg #[.int .i64 0,.string ⟨#[]⟩,.int .i64 0,.slice none 0 0,.int .i64 0]),5,64))
  (base:Nat) (v:Value) (n:Nat) (xs:List Value) (hs:a.eval s=v) (hown:w.ownsRow base 101 5 v n xs) (b c:Nat) (hx:a.eval x=.slice (some ⟨b,0,none⟩) 1 c) (m:M)
  (hm:∀j u,(mc m)[j]?=some u→w.cell? ⟨b,j,none⟩=some u) (hn:n≤1000000) (hbase:base≤w.heap.size)
  (hK:∀v' w',w'.ownsRow base 101 5 v' (n+1) (xs++mc m)→w.grownBy w' v.ownBlock→(v'.ownBlock=v.ownBlock∨v'.ownBlock=some w.heap.size)→K (a.put o.dst v') w'):
  if Region.wanted o (yielded ops a.tmps)=true then Oper.wp P o a w K Q else E:=by
 have hw:Region.wanted o (yielded ops a.tmps)=true:=by simp[Region.wanted,hg]
 rw[if_pos hw];obtain⟨i,Cf,hz,hsz,hby⟩:=info_parts hi;obtain⟨v',w',hr,h1,h2,_,h4⟩:=run_append_own_at (P:=P) w base 99 o.type 101 i _ 5 64 ht Cf hz hsz hby rfl (by decide) v n xs hown ⟨b,0,none⟩ 1 c (mc m) rfl (fun j u hu=>by rw[Addr.add_lit,atT];exact hm j u hu)
  (fun u hu=>AZ [m] u (by rw[nK];exact hu)) (by unfold maxLen;omega) (by omega) hbase
 unfold Oper.wp execOp;simp only[hop,resolve,invoke,builtin,Sem.run_bind,Sem.run_pure,Result.andThen_ok,auH,atx,atQ,hs,hx,hr];exact hK v' w' h1 h2 h4
structure yK (base:Nat) (w0 w1:World) (os:List M) (e:M) (vb iJ g cap1:Nat):Prop where
 opn:Opn base w0 (.slice (some ⟨vb,0,none⟩) (os.length+1) iJ) (os++[e])
 but:But (foot e.kv) w0 w1
 from_:g∈foot e.kv∨w0.heap.size≤g
 af7:base≤g
 fit:e.kids.length+1≤cap1∧cap1≤maxLen
 ajm:∃cur:Array Value,w1.heap[g]?=some (.cells cur 101 (0,0))∧cur.size=cap1*5∧cur.toList.take ((e.kids.length+1)*5)=jX e.kids++mc iK
theorem yK.af8 {base:Nat} {w0 w1:World} {os:List M} {e:M} {vb iJ g cap1:Nat} (P:yK base w0 w1 os e vb iJ g cap1):vb<w0.heap.size:=(P.opn.range (xI.2 (.inl rfl))).2
theorem yK.YI {base:Nat} {w0 w1:World} {os:List M} {e:M} {vb iJ g cap1:Nat} (P:yK base w0 w1 os e vb iJ g cap1):vb∉foot e.kv:=fun hm=>by have:=P.opn.nd;unfold blk at this;rw[au0]at this;exact this.2.2 vb (aB.2 rfl) vb (auP.2 ⟨e,by simp,hm⟩) rfl
theorem yK.ne {base:Nat} {w0 w1:World} {os:List M} {e:M} {vb iJ g cap1:Nat} (P:yK base w0 w1 os e vb iJ g cap1):g≠vb:=fun h=>by subst h;rcases P.from_ with h1|h1;exact P.YI h1;have:=P.af8;omega
theorem yK.af9 {base:Nat} {w0 w1:World} {os:List M} {e:M} {vb iJ g cap1:Nat} (P:yK base w0 w1 os e vb iJ g cap1):∃cur:Array Value,w1.heap[vb]?=some (.cells cur 101 (0,0))∧w0.heap[vb]?=some (.cells cur 101 (0,0))∧os.length+1≤iJ∧iJ≤maxLen∧base≤vb∧
  cur.size=iJ*5∧cur.toList.take ((os.length+1)*5)=jX os++mc e:=by
 rcases P.opn.own.2 with⟨hv,_⟩|⟨g',cap',cur,hv,hb,hh,yI,hcm,hcs,ht⟩
 cases hv
 injection hv with h1 h2 h3
 injection h1 with h1
 injection h1 with h1 _ _
 subst h1;subst h3;have hlen:(os++[e]).length=os.length+1:=by simp
 rw[hlen,oh,nK]at ht;rw[hlen]at yI;exact⟨cur,P.but.heap hh P.YI,hh,yI,hcm,hb,hcs,ht⟩
theorem abo {base:Nat} {w0 wa w1:World} {os:List M} {e:M} {vb iJ n q:Nat} {v1:Value} (H:Opn base w0 (.slice (some ⟨vb,0,none⟩) (q+1) iJ) (os++[e])) (hq:os.length=q) (hn:n=e.kids.length) (hE:Ev w0 wa)
  (h1:w1.ownsRow base 101 5 v1 (n+1) (jX e.kids++mc iK)) (gb:wa.grownBy w1 (Value.slice e.A n e.cap).ownBlock) (h3:v1.ownBlock=(Value.slice e.A n e.cap).ownBlock∨v1.ownBlock=some wa.heap.size):
  ∃g cap1,v1=.slice (some ⟨g,0,none⟩) (n+1) cap1∧n+1≤cap1∧cap1≤9223372036854775807∧g≠vb∧yK base w0 w1 os e vb iJ g cap1∧
   (∃x,w1.cell? ⟨g,n*5,none⟩=some x)∧(∃x,w1.cell? ⟨g,n*5+1,none⟩=some x)∧(∃x,w1.cell? ⟨g,n*5+2,none⟩=some x)∧(∃x,w1.cell? ⟨g,n*5+3,none⟩=some x)∧(∃x,w1.cell? ⟨g,n*5+4,none⟩=some x)∧
   (∃x,w1.cell? ⟨vb,q*5+3,none⟩=some x)∧(∀i,w1.frozen? ⟨g,i,none⟩=false)∧(∀i,w1.frozen? ⟨vb,i,none⟩=false):=by
 subst hq;subst hn;rcases h1.2 with⟨rfl,h0⟩|⟨g,cap1,cur,rfl,hb,hh,yI,hcm,hcs,ht⟩
 omega;have hP:yK base w0 w1 os e vb iJ g cap1:=⟨H,(But.aS (K:=foot e.kv) hE).then (But.grown gb fun g' xE=>aB.2 xE),by
  rcases h3 with h4|h4;exact .inl (aB.2 h4.symm);simp[Value.ownBlock]at h4;have:=hE.size;exact .inr (by omega),hb,⟨yI,hcm⟩,cur,hh,hcs,ht⟩
 have hcell:∀j,j<5→∃x,w1.cell? ⟨g,e.kids.length*5+j,none⟩=some x:=fun j hj=>by
  rw[Lib.cell_of_heap hh];have:e.kids.length*5+j<cur.size:=by omega
  exact⟨_,auY this⟩
 obtain⟨cv,KZ,_,hv2,_,_,hv3,_⟩:=hP.af9;refine⟨g,cap1,rfl,yI,by simpa[maxLen] using hcm,hP.ne,hP,hcell 0 (by omega),hcell 1 (by omega),hcell 2 (by omega),hcell 3 (by omega),hcell 4 (by omega),?_,fun i=>Lib.frozen_of_heap hh i,fun i=>Lib.frozen_of_heap KZ i⟩;rw[Lib.cell_of_heap KZ];have:os.length*5+3<cv.size:=by omega
 exact⟨_,auY this⟩
theorem sZ {cur:Array Value} {L:List Value} {N i:Nat} {x:Value} (h:cur.toList.take N=L):(cur.setIfInBounds i x).toList.take N=L.set i x:=by rw[←h,Array.toList_setIfInBounds,List.take_set]
theorem YJ (L:List Value) (N:Nat) (hN:L.length=N) (z0 z1 z2 z3 z4 a0 a1 a2 a3 a4:Value):
  (((((L++[z0,z1,z2,z3,z4]).set N a0).set (N+1) a1).set (N+2) a2).set (N+3) a3).set (N+4) a4=L++[a0,a1,a2,a3,a4]:=by
 subst hN;simp
theorem WA (L:List Value) (N:Nat) (hN:L.length=N) (z0 z1 z2 z3 z4 a3:Value):(L++[z0,z1,z2,z3,z4]).set (N+3) a3=L++[z0,z1,z2,a3,z4]:=by subst hN;simp
def YK (g o:Nat) (k n p:Int) (s:ByteArray) (v:Value) (w:World):World:=
 ((((w.setCell ⟨g,o,none⟩ (.int .i64 k)).setCell ⟨g,o+1,none⟩ (.string s)).setCell ⟨g,o+2,none⟩ (.int .i64 n)).setCell ⟨g,o+3,none⟩ v).setCell ⟨g,o+4,none⟩ (.int .i64 p)
theorem WB (g o:Nat) (k n p:Int) (s:ByteArray) (v:Value) (w:World):
 ((((w.setCell ⟨g,o,none⟩ (.int .i64 k)).setCell ⟨g,o+1,none⟩ (.string s)).setCell ⟨g,o+2,none⟩ (.int .i64 n)).setCell ⟨g,o+3,none⟩ v).setCell ⟨g,o+4,none⟩ (.int .i64 p)=YK g o k n p s v w:=rfl
theorem Qd (g o:Nat) (k n p:Int) (s:ByteArray) (v:Value) (w:World):But [g] w (YK g o k n p s v w):=
 ((((But.setCell ⟨g,o,none⟩ _ (by simp)).then (But.setCell ⟨g,o+1,none⟩ _ (by simp))).then (But.setCell ⟨g,o+2,none⟩ _ (by simp))).then (But.setCell ⟨g,o+3,none⟩ _ (by simp))).then (But.setCell ⟨g,o+4,none⟩ _ (by simp))
theorem MM {g o:Nat} {w:World} {cur:Array Value} (k n p:Int) (s:ByteArray) (v:Value) (h:w.heap[g]?=some (.cells cur 101 (0,0))):
  (YK g o k n p s v w).heap[g]?=some (.cells (((((cur.setIfInBounds o (.int .i64 k)).setIfInBounds (o+1) (.string s)).setIfInBounds (o+2) (.int .i64 n)).setIfInBounds (o+3) v).setIfInBounds (o+4) (.int .i64 p)) 101 (0,0)):=
 fD (o+4) _ (fD (o+3) _ (fD (o+2) _ (fD (o+1) _ (fD o _ h))))
theorem qQ (v:Value) (os:List M) (e:M):blk v (os++[e])=blk v os++foot e.kv:=by unfold blk;simp
theorem abp {base:Nat} {w w0 w1 W:World} {os:List M} {e m:M} {vb iJ g cap1 n q:Nat} (P:yK base w0 w1 os e vb iJ g cap1) (hq:os.length=q) (hn:n=e.kids.length) (hE:Ev w w0) (hvw:vb<w.heap.size)
  (hm:Lies base (blk (.slice (some ⟨vb,0,none⟩) (q+1) iJ) (os++[e])) w m) (h:Opn base w (.slice (some ⟨vb,0,none⟩) (q+1) iJ) (os++[e]))
  (hW:W=(YK g (n*5) m.kind m.n m.pos ⟨m.s.toArray⟩ (.slice m.A m.kids.length m.cap) w1).setCell ⟨vb,q*5+3,none⟩ (.slice (some ⟨g,0,none⟩) (n+1) cap1)∨W=YK g (n*5) m.kind m.n m.pos ⟨m.s.toArray⟩ (.slice m.A m.kids.length m.cap) (w1.setCell ⟨vb,q*5+3,none⟩ (.slice (some ⟨g,0,none⟩) (n+1) cap1))):
  ∃e':M,e'.t=e.t.add m.t∧Opn base W (.slice (some ⟨vb,0,none⟩) (q+1) iJ) (os++[e'])∧But (blk (.slice (some ⟨vb,0,none⟩) (q+1) iJ) (os++[e])) w W∧
   (∀x∈blk (.slice (some ⟨vb,0,none⟩) (q+1) iJ) (os++[e']),x∈blk (.slice (some ⟨vb,0,none⟩) (q+1) iJ) (os++[e])∨w.heap.size≤x):=by
 subst hq;subst hn;rw[show (Value.slice m.A m.kids.length m.cap)=m.kv from rfl]at hW;have hne:=P.ne;obtain⟨cg,hg1,hg2,hg3⟩:=P.ajm;obtain⟨cv,KZ,hv0,hvn,hvm,hvb,hvs,hvt⟩:=P.af9;have key:W.heap[g]?=some (.cells (((((cg.setIfInBounds (e.kids.length*5) (.int .i64 m.kind)).setIfInBounds (e.kids.length*5+1) (.string ⟨m.s.toArray⟩)).setIfInBounds (e.kids.length*5+2) (.int .i64 m.n)).setIfInBounds (e.kids.length*5+3) m.kv).setIfInBounds (e.kids.length*5+4) (.int .i64 (m.pos:Int))) 101 (0,0))∧
   W.heap[vb]?=some (.cells (cv.setIfInBounds (os.length*5+3) (.slice (some ⟨g,0,none⟩) (e.kids.length+1) cap1)) 101 (0,0))∧But [g,vb] w1 W:=by
  rcases hW with rfl|rfl;have hb1:=Qd g (e.kids.length*5) m.kind m.n m.pos ⟨m.s.toArray⟩ m.kv w1;refine⟨?_,fD _ _ (hb1.heap KZ (by simp;exact fun h=>hne h.symm)),(hb1.wide (by simp)).then (But.setCell _ _ (by simp))⟩;rw[heap_setCell_other _ _ _ _ (by simpa using hne)];exact MM _ _ _ _ _ hg1;have hb1:=Qd g (e.kids.length*5) m.kind m.n m.pos ⟨m.s.toArray⟩ m.kv (w1.setCell ⟨vb,os.length*5+3,none⟩ (.slice (some ⟨g,0,none⟩) (e.kids.length+1) cap1));refine⟨MM _ _ _ _ _ (by rw[heap_setCell_other _ _ _ _ (by simpa using hne)];exact hg1),hb1.heap (fD _ _ KZ) (by simp;exact fun h=>hne h.symm),(But.setCell _ _ (by simp)).then (hb1.wide (by simp))⟩
 clear hW;obtain⟨kg,kv,kb⟩:=key;have hB:But (vb::foot e.kv) w W:=by refine ((But.aS (K:=vb::foot e.kv) hE).then (P.but.wide (K':=vb::foot e.kv) (fun x hx=>.inl (aty _ hx)))).trans kb ?_;intro x hx;simp at hx;rcases hx with rfl|rfl;rcases P.from_ with h1|h1;exact .inl (aty _ h1);have:=hE.size;exact .inr (by omega);exact .inl (atz ..)
 have hK:∀x∈vb::foot e.kv,x∈blk (.slice (some ⟨vb,0,none⟩) (os.length+1) iJ) (os++[e]):=by intro x hx;rcases atA.1 hx with rfl|hx;exact xI.2 (.inl rfl);exact xI.2 (.inr ⟨e,by simp,aB.1 hx⟩)
 obtain⟨e',he'⟩:∃e',e'=M.mk e.kind e.s e.n (some ⟨g,0,none⟩) cap1 (e.kids++[m]) e.pos:=⟨_,rfl⟩
 have hf':foot e'.kv=[g]:=by rw[he'];rfl
 have hnew:∀x∈blk (.slice (some ⟨vb,0,none⟩) (os.length+1) iJ) (os++[e']),x∈blk (.slice (some ⟨vb,0,none⟩) (os.length+1) iJ) (os++[e])∨w.heap.size≤x:=by intro x hx;rw[qQ,hf']at hx;rw[qQ];rcases atK.1 hx with hx|hx;exact .inl (atO _ hx);simp at hx;subst hx;rcases P.from_ with h1|h1;exact .inl (auk _ h1);have:=hE.size;exact .inr (by omega)
 have hnd:=h.nd;rw[qQ]at hnd;have Ic:=au0.1 hnd;have hlies:∀m',Lies base (blk (.slice (some ⟨vb,0,none⟩) (os.length+1) iJ) (os++[e])) w m'→Lies base (blk (.slice (some ⟨vb,0,none⟩) (os.length+1) iJ) (os++[e'])) W m':=fun m' hm'=>
  hm'.move (hB.wide fun x hx=>.inl (hK x hx)) (fun x hx=>(hnew x hx).imp id .inr)
 refine⟨e',?_,⟨?_,?_,?_,?_⟩,hB.wide fun x hx=>.inl (hK x hx),hnew⟩;rw[he',M.qO,T.add,M.qO e];simp[M.kind,M.s,M.n,M.kids,M.pos,T.kind,T.s,T.n,T.kids,T.pos];refine⟨by rw[kG],.inr ⟨vb,iJ,_,by simp,hvb,kv,by simpa using hvn,hvm,by simpa using hvs,?_⟩⟩;have hl:(os++[e']).length=os.length+1:=by simp
 rw[hl,sZ hvt,oh,nK];have:=WA (jX os) (os.length*5) (kG os) (.int .i64 e.kind) (.string ⟨e.s.toArray⟩) (.int .i64 e.n) e.kv (.int .i64 (e.pos:Int)) (.slice (some ⟨g,0,none⟩) (e.kids.length+1) cap1);refine Eq.trans this ?_;rw[he'];simp[mc,M.kind,M.s,M.n,M.kv,M.A,M.kids,M.cap,M.pos];intro e0 he0;rcases atK.1 he0 with h1|h1;refine Vx (h.kid e0 (atO _ h1)) hB fun g0 hg0 hm0=>?_;rcases atA.1 hm0 with rfl|h2;have:=(au0.1 Ic.1).2.2 _ (aB.2 rfl) _ (auP.2 ⟨e0,h1,aB.2 hg0⟩);exact this rfl;exact Ic.2.2 _ (xI.2 (.inr ⟨e0,h1,hg0⟩)) _ h2 rfl;simp at h1;subst h1;have hl:e0.kids.length=e.kids.length+1:=by rw[he'];simp[M.kids]
 have hkv:e0.kv=.slice (some ⟨g,0,none⟩) (e.kids.length+1) cap1:=by rw[he'];simp[M.kv,M.A,M.kids,M.cap]
 refine⟨by rw[kG],.inr ⟨g,cap1,_,by rw[hkv,hl],P.af7,kg,by rw[hl];exact P.fit.1,P.fit.2,by simpa using hg2,?_⟩⟩;rw[hl,sZ (sZ (sZ (sZ (sZ hg3))))];have:=YJ (jX e.kids) (e.kids.length*5) (kG e.kids) (.int .i64 0) (.string ⟨#[]⟩) (.int .i64 0) (.slice none 0 0) (.int .i64 0) (.int .i64 m.kind) (.string ⟨m.s.toArray⟩) (.int .i64 m.n) m.kv (.int .i64 (m.pos:Int));refine Eq.trans this ?_;rw[he'];simp[M.kids,oh,nK,mc];rw[qQ,hf',au0];refine⟨Ic.1,by simp,fun a ha b hb hab=>?_⟩;simp at hb;subst hb;subst hab;rcases P.from_ with h1|h1;exact Ic.2.2 _ ha _ h1 rfl;have h2:=(h.range (g:=a) (by rw[qQ];exact atO _ ha)).2;have:=hE.size;omega;intro e0 he0 m' hm';rcases atK.1 he0 with h1|h1;exact hlies m' (h.lies e0 (atO _ h1) m' hm');simp at h1;rw[h1,he']at hm';rcases atK.1 (show m'∈e.kids++[m] from hm') with h2|h2;exact hlies m' (h.lies e (by simp) m' h2);simp at h2;rw[h2];exact hlies m hm
theorem YL {base:Nat} {v:Value} {os:List M} {e m:M} (w:World) (h:Opn base w v (os++[e])) (hm:Lies base (blk v (os++[e])) w m) (hl:e.kids.length≤1000000):
  Calls Tryz.prog 151 #[v,mv m] w fun r w'=>r=.returned v∧∃e':M,e'.t=e.t.add m.t∧Opn base w' v (os++[e'])∧But (blk v (os++[e])) w w'∧(∀x∈blk v (os++[e']),x∈blk v (os++[e])∨w.heap.size≤x):=by
 have aT:Ev w (w.alloc (.cells (mc m).toArray 101)):=Ev.alloc _ _;obtain⟨w0,hw0⟩:∃w0,w0=w.alloc (.cells (mc m).toArray 101):=⟨_,rfl⟩
 rw[←hw0]at aT;have hb:w0.heap[w.heap.size]?=some (.cells (mc m).toArray 101 (0,0)):=by rw[hw0];exact heap_alloc_new _ _
 have h':=h.ev aT;obtain⟨vb,iJ,rfl,hle,hmx,hvb,_,hfr,hc⟩:=h'.at (by simp);obtain⟨_,hlt⟩:=h.range (g:=vb) (xI.2 (.inl rfl));have hbase:base≤w.heap.size:=by omega
 have aoS:vb<w0.heap.size:=atM hlt aT.size;obtain⟨c0,c1,c2,c3,c4⟩:=hc os.length e (by simp);have hf3:=hfr (os.length*5+3);have hck:∀j u,(mc m)[j]?=some u→w0.cell? ⟨w.heap.size,j,none⟩=some u:=fun j u hu=>by rw[Lib.cell_of_heap hb];simpa using hu
 have b0:=hck 0 _ rfl;have b1:=hck 1 _ rfl;have b2:=hck 2 _ rfl;have b3:=hck 3 _ rfl;have b4:=hck 4 _ rfl;have hlw:w.heap.size<w0.heap.size:=by rw[hw0];simp
 have hq:(os++[e]).length=os.length+1:=by simp
 rw[hq]at hle h h' hm⊢;have HH:=zq h';have HO:=zq (h'.kid e (by simp));generalize hq0:os.length=q at*;have HQ:=zq hq0;clear hc hck hb hfr h' hq hq0;unfold M.kv at c3 b3 HO;have Wp:w.alloc (.cells #[.int .i64 m.kind,.string ⟨m.s.toArray⟩,.int .i64 m.n,.slice m.A m.kids.length m.cap,.int .i64 (m.pos:Int)] 101)=w0:=hw0.symm;obtain⟨n,hn⟩:∃n,n=e.kids.length:=⟨_,rfl⟩
 have hkn:=(Ea HO.out).le;have WC:=(Ea HO.out).max;rw[←hn]at c3 hl hkn HO;have HN:=zq hn;clear hw0 hn;unfold mv M.kv;go_enter Tryz.func151,Tryz.ntmps151;go_wp2;have aH:Ev w0 (w0.drew.alloc (.cells #[.int .i64 0,.string ⟨#[]⟩,.int .i64 0,.slice none 0 0,.int .i64 0] 101)):=(Ev.drew w0).trans (Ev.alloc _ _);have HZ:Hid (∀j u,(mc iK)[j]?=some u→(w0.drew.alloc (.cells #[.int .i64 0,.string ⟨#[]⟩,.int .i64 0,.slice none 0 0,.int .i64 0] 101)).cell? ⟨w0.heap.size,j,none⟩=some u):=zq fun j u hu=>by rw[show w0.heap.size=w0.drew.heap.size from rfl,Lib.cell_of_heap (heap_alloc_new w0.drew _)];simpa[mc,iK,M.kind,M.s,M.n,M.kv,M.A,M.kids,M.cap,M.pos] using hu
 clear Wp;have i1:(n:Int)<(n:Int)+1:=by omega
 go_region_law (refine La rfl (.tmp 14) (.tmp 17) rfl Tryz.underlying99 Tryz.infoTree base (.slice e.A n e.cap) n (jX e.kids) rfl (NU HO.out aH) w0.heap.size 1 rfl iK HZ.out hl (atP (atP hbase aT.size) aH.size) ?_;intro v1 w1 h1 h2 h3;obtain⟨g,cap1,rfl,k1,k2,k3,HP,⟨x0,d0⟩,⟨x1,d1⟩,⟨x2,d2⟩,⟨x3,d3⟩,⟨x4,d4⟩,⟨x5,d5⟩,hfg,hfv⟩:=abo HH.out HQ.out HN.out aH h1 h2 h3;have k4:vb≠g:=fun h=>k3 h.symm;have fz0:=hfg (n*5);have fz1:=hfg (n*5+1);have fz2:=hfg (n*5+2);have fz3:=hfg (n*5+3);have fz4:=hfg (n*5+4);have fz5:=hfv (q*5+3);clear h1 h2 h3 hfg hfv)
 all_goals (go_wp2;go_ret;rw[WB];refine⟨rfl,abp HP HQ.out HN.out aT hlt hm h ?_⟩;first|(refine .inl ?_;with_reducible rfl)|(refine .inr ?_;with_reducible rfl))
end Go.Proofs.YtpbfokkocaemlaaGreatDoor
