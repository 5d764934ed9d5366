import Derived.Test.YtpbfokkocaemlaaGreatDoorZ12J
set_option linter.unusedVariables false
set_option maxRecDepth 100000
set_option maxHeartbeats 64000000
namespace Go.Proofs.YtpbfokkocaemlaaGreatDoor
open Go.RowKit
open Go.Lib renaming hid → zq
open Go renaming World → ak
open Go renaming Value → au
open Go.Proofs.Tryz renaming prog → ax
open Go.Proofs.Tryz
theorem Tryz.infoTree:(Tryz.prog.info? 101).map (λi=>(i.zero,i.size,i.bytes))=some (some (.agg ↑Zz.a),5,64):=ah
theorem M_{P:Program}{ops:Array Oper}{o:Oper}{a:Act}{w:ak}{K:Act->ak->Prop}{Q:Exit->Act->ak->Prop}{E:Prop}
  (hg:o.guard=none) (s x:Operand) (hop:o.op=.call {callee:=.builtin .append,args:=#[s,x],argTypes:=#[99,99]})
  (ht:P.underlying 99=some (.slice 101)) (hi:(P.info? 101).map (λi=>(i.zero,i.size,i.bytes))=some (some (.agg ↑Zz.a),5,64))
  (base:Nat) (v:au) (n:Nat) (xs:List au) (hs:a.eval s=v) (hown:w.ownsRow base 101 5 v n xs) (b c:Nat) (hx:a.eval x=.slice ↑b 1 c) (m:M)
  (hm:∀j u,(mc m)[j]?=some u->w.cell? ⟨b,j,none⟩=some u) (hn:n<=1000000) (hbase:base<=w.heap.size)
  (hK:∀v' w',w'.ownsRow base 101 5 v' (n+1) (xs++mc m)->w.grownBy w' v.ownBlock->(v'.ownBlock=v.ownBlock∨v'.ownBlock=some w.heap.size)->K (a.put o.dst v') w'):
  if Region.wanted o (yielded ops a.tmps)=true then Oper.wp P o a w K Q else E:=by
 have hw:Region.wanted o (yielded ops a.tmps)=true:=by simp[Region.wanted,hg]
 rw[if_pos hw];obtain⟨i,DK,hz,hsz,hby⟩:=info_parts hi;obtain⟨v',w',hr,h1,h2,_,h4⟩:=run_append_own_at (P:=P) w base 99 o.type 101 i _ 5 64 ht DK hz hsz hby rfl ai v n xs hown ⟨b,0,none⟩ 1 c (mc m) rfl (λj u hu=>by rw[Addr.add_lit,awL];exact hm j u hu)
  (λu hu=>Cm [m] u (by rw[oH];exact hu)) (by unfold maxLen;omega) ae hbase
 unfold Oper.wp execOp;simp only[hop,resolve,invoke,builtin,Sem.run_bind,Sem.run_pure,Result.andThen_ok,axl,awo,awG,hs,hx,hr];exact hK v' w' h1 h2 h4
structure zC(base:Nat)(w0 w1:ak)(os:List M)(e:M)(vb iT g cap1:Nat):Prop where
 opn:Opn base w0 (.slice ↑vb (os.length+1) iT) (os++[e])
 but:But (foot e.kv) w0 w1
 from_:g∈foot e.kv∨w0.heap.size<=g
 ah2:base<=g
 fit:e.kids.length+1<=cap1/\cap1<=maxLen
 alP:∃cur:Array au,w1.heap[g]?=some (.cells cur 101 (0,0))/\cur.size=cap1*5/\cur.toList.take ((e.kids.length+1)*5)=kS e.kids++mc iU
theorem zC.ah3{base:Nat}{w0 w1:ak}{os:List M}{e:M}{vb iT g cap1:Nat}(P:zC base w0 w1 os e vb iT g cap1):vb<w0.heap.size:=(P.opn.range (yE.2 (.inl rfl))).2
theorem zC.aah{base:Nat}{w0 w1:ak}{os:List M}{e:M}{vb iT g cap1:Nat}(P:zC base w0 w1 os e vb iT g cap1):vb∉foot e.kv:=λhm=>by have:=P.opn.nd;unfold blk at this;rw[axH]at this;exact this.2.2 vb (aG.2 rfl) vb (axx.2 ⟨e,aj,hm⟩) rfl
theorem zC.ne{base:Nat}{w0 w1:ak}{os:List M}{e:M}{vb iT g cap1:Nat}(P:zC base w0 w1 os e vb iT g cap1):g≠vb:=λh=>by subst h;rcases P.from_ with h1|h1;exact P.aah h1;have:=P.ah3;omega
theorem zC.ah4{base:Nat}{w0 w1:ak}{os:List M}{e:M}{vb iT g cap1:Nat}(P:zC base w0 w1 os e vb iT g cap1):∃cur:Array au,w1.heap[vb]?=some (.cells cur 101 (0,0))/\w0.heap[vb]?=some (.cells cur 101 (0,0))/\os.length+1<=iT/\iT<=maxLen/\base<=vb/\
  cur.size=iT*5/\cur.toList.take ((os.length+1)*5)=kS os++mc e:=by
 rcases P.opn.own.2 with⟨hv,_⟩|⟨g',cap',cur,hv,hb,hh,zA,hcm,hcs,ht⟩
 cases hv
 injection hv with h1 h2 h3
 injection h1 with h1
 injection h1 with h1 _ _
 subst h1 h3;have hlen:(os++[e]).length=os.length+1:=aj;rw[hlen,pg,oH]at ht;rw[hlen]at zA;exact⟨cur,P.but.heap hh P.aah,hh,zA,hcm,hb,hcs,ht⟩
theorem ac2{base:Nat}{w0 wa w1:ak}{os:List M}{e:M}{vb iT n q:Nat}{v1:au}(H:Opn base w0 (.slice ↑vb (q+1) iT) (os++[e]))(hq:os.length=q)(hn:n=e.kids.length)(hE:Ev w0 wa)
  (h1:w1.ownsRow base 101 5 v1 (n+1) (kS e.kids++mc iU)) (gb:wa.grownBy w1 (Value.slice e.A n e.cap).ownBlock) (h3:v1.ownBlock=(Value.slice e.A n e.cap).ownBlock∨v1.ownBlock=some wa.heap.size):
  ∃g cap1,v1=.slice (some ⟨g,0,none⟩) (n+1) cap1/\n+1<=cap1/\cap1<=9223372036854775807/\g≠vb/\zC base w0 w1 os e vb iT g cap1/\
   (∃x,w1.cell? ⟨g,n*5,none⟩=some x)/\(∃x,w1.cell? ⟨g,n*5+1,none⟩=some x)/\(∃x,w1.cell? ⟨g,n*5+2,none⟩=some x)/\(∃x,w1.cell? ⟨g,n*5+3,none⟩=some x)/\(∃x,w1.cell? ⟨g,n*5+4,none⟩=some x)/\
   (∃x,w1.cell? ⟨vb,q*5+3,none⟩=some x)/\(∀i,w1.frozen? ⟨g,i,none⟩=false)/\(∀i,w1.frozen? ⟨vb,i,none⟩=false):=by
 subst hq hn;rcases h1.2 with⟨rfl,h0⟩|⟨g,cap1,cur,rfl,hb,hh,zA,hcm,hcs,ht⟩
 omega;have hP:zC base w0 w1 os e vb iT g cap1:=⟨H,(But.aV (K:=foot e.kv) hE).then (But.grown gb λg' yB=>aG.2 yB),by
  rcases h3 with h4|h4;exact .inl (aG.2 h4.symm);simp[Value.ownBlock]at h4;have:=hE.size;exact .inr ae,hb,⟨zA,hcm⟩,cur,hh,hcs,ht⟩
 have hcell:∀j,j<5->∃x,w1.cell? ⟨g,e.kids.length*5+j,none⟩=some x:=λj hj=>by rw[Lib.cell_of_heap hh];have:e.kids.length*5+j<cur.size:=ae;exact⟨_,axF this⟩
 obtain⟨cv,MX,_,hv2,_,_,hv3,_⟩:=hP.ah4;refine⟨g,cap1,rfl,zA,by simpa[maxLen] using hcm,hP.ne,hP,hcell 0 ae,hcell 1 ae,hcell 2 ae,hcell 3 ae,hcell 4 ae,?_,λi=>Lib.frozen_of_heap hh i,λi=>Lib.frozen_of_heap MX i⟩;rw[Lib.cell_of_heap MX];have:os.length*5+3<cv.size:=ae;exact⟨_,axF this⟩
theorem uH{cur:Array au}{L:List au}{N i:Nat}{x:au}(h:cur.toList.take N=L):(cur.setIfInBounds i x).toList.take N=L.set i x:=by rw[<-h,Array.toList_setIfInBounds,List.take_set]
theorem aai(L:List au)(N:Nat)(hN:L.length=N)(z0 z1 z2 z3 z4 a0 a1 a2 a3 a4:au):
  (((((L++[z0,z1,z2,z3,z4]).set N a0).set (N+1) a1).set (N+2) a2).set (N+3) a3).set (N+4) a4=L++[a0,a1,a2,a3,a4]:=by
 subst hN;simp
theorem Yi(L:List au)(N:Nat)(hN:L.length=N)(z0 z1 z2 z3 z4 a3:au):(L++[z0,z1,z2,z3,z4]).set (N+3) a3=L++[z0,z1,z2,a3,z4]:=by subst hN;simp
def aaj(g o:Nat)(k n p:Int)(s:ByteArray)(v:au)(w:ak):ak:=
 ((((w.setCell ⟨g,o,none⟩ ↑k).setCell ⟨g,o+1,none⟩ (.string s)).setCell ⟨g,o+2,none⟩ ↑n).setCell ⟨g,o+3,none⟩ v).setCell ⟨g,o+4,none⟩ ↑p
theorem Yj(g o:Nat)(k n p:Int)(s:ByteArray)(v:au)(w:ak):
 ((((w.setCell ⟨g,o,none⟩ ↑k).setCell ⟨g,o+1,none⟩ (.string s)).setCell ⟨g,o+2,none⟩ ↑n).setCell ⟨g,o+3,none⟩ v).setCell ⟨g,o+4,none⟩ ↑p=aaj g o k n p s v w:=rfl
theorem Rz(g o:Nat)(k n p:Int)(s:ByteArray)(v:au)(w:ak):But [g] w (aaj g o k n p s v w):=
 ((((But.setCell ⟨g,o,none⟩ _ aj).then (But.setCell ⟨g,o+1,none⟩ _ aj)).then (But.setCell ⟨g,o+2,none⟩ _ aj)).then (But.setCell ⟨g,o+3,none⟩ _ aj)).then (But.setCell ⟨g,o+4,none⟩ _ aj)
theorem Oe{g o:Nat}{w:ak}{cur:Array au}(k n p:Int)(s:ByteArray)(v:au)(h:w.heap[g]?=some (.cells cur 101 (0,0))):
  (aaj g o k n p s v w).heap[g]?=some (.cells (((((cur.setIfInBounds o ↑k).setIfInBounds (o+1) (.string s)).setIfInBounds (o+2) ↑n).setIfInBounds (o+3) v).setIfInBounds (o+4) ↑p) 101 (0,0)):=
 fQ (o+4) _ (fQ (o+3) _ (fQ (o+2) _ (fQ (o+1) _ (fQ o _ h))))
theorem rX(v:au)(os:List M)(e:M):blk v (os++[e])=blk v os++foot e.kv:=by unfold blk;simp
theorem ac3{base:Nat}{w w0 w1 W:ak}{os:List M}{e m:M}{vb iT g cap1 n q:Nat}(P:zC base w0 w1 os e vb iT g cap1)(hq:os.length=q)(hn:n=e.kids.length)(hE:Ev w w0)(hvw:vb<w.heap.size)
  (hm:Lies base (blk (.slice ↑vb (q+1) iT) (os++[e])) w m) (h:Opn base w (.slice ↑vb (q+1) iT) (os++[e]))
  (hW:W=(aaj g (n*5) m.kind m.n m.pos ⟨m.s.toArray⟩ (.slice m.A m.kids.length m.cap) w1).setCell ⟨vb,q*5+3,none⟩ (.slice ↑g (n+1) cap1)∨W=aaj g (n*5) m.kind m.n m.pos ⟨m.s.toArray⟩ (.slice m.A m.kids.length m.cap) (w1.setCell ⟨vb,q*5+3,none⟩ (.slice ↑g (n+1) cap1))):
  ∃e':M,e'.t=e.t.add m.t/\Opn base W (.slice ↑vb (q+1) iT) (os++[e'])/\But (blk (.slice ↑vb (q+1) iT) (os++[e])) w W/\
   (∀x∈blk (.slice ↑vb (q+1) iT) (os++[e']),x∈blk (.slice ↑vb (q+1) iT) (os++[e])∨w.heap.size<=x):=by
 subst hq hn;rw[show (Value.slice m.A m.kids.length m.cap)=m.kv from rfl]at hW;have hne:=P.ne;obtain⟨cg,hg1,hg2,hg3⟩:=P.alP;obtain⟨cv,MX,hv0,hvn,hvm,hvb,hvs,hvt⟩:=P.ah4;have key:W.heap[g]?=some (.cells (((((cg.setIfInBounds (e.kids.length*5) ↑m.kind).setIfInBounds (e.kids.length*5+1) ↑m.s).setIfInBounds (e.kids.length*5+2) ↑m.n).setIfInBounds (e.kids.length*5+3) m.kv).setIfInBounds (e.kids.length*5+4) ↑m.pos) 101 (0,0))/\
   W.heap[vb]?=some (.cells (cv.setIfInBounds (os.length*5+3) (.slice ↑g (e.kids.length+1) cap1)) 101 (0,0))/\But [g,vb] w1 W:=by
  rcases hW with rfl|rfl;have hb1:=Rz g (e.kids.length*5) m.kind m.n m.pos ⟨m.s.toArray⟩ m.kv w1;refine⟨?_,fQ _ _ (hb1.heap MX (by simp;exact λh=>hne h.symm)),(hb1.wide aj).then (But.setCell _ _ aj)⟩;rw[heap_setCell_other _ _ _ _ (by simpa using hne)];exact Oe _ _ _ _ _ hg1;have hb1:=Rz g (e.kids.length*5) m.kind m.n m.pos ⟨m.s.toArray⟩ m.kv (w1.setCell ⟨vb,os.length*5+3,none⟩ (.slice ↑g (e.kids.length+1) cap1));refine⟨Oe _ _ _ _ _ (by rw[heap_setCell_other _ _ _ _ (by simpa using hne)];exact hg1),hb1.heap (fQ _ _ MX) (by simp;exact λh=>hne h.symm),(But.setCell _ _ aj).then (hb1.wide aj)⟩
 clear hW;obtain⟨kg,kv,kb⟩:=key;have hB:But (vb::foot e.kv) w W:=by refine((But.aV (K:=vb::foot e.kv) hE).then (P.but.wide (K':=vb::foot e.kv) (λx hx=>.inl (awn _ hx)))).trans kb ?_;intro x hx;simp at hx;rcases hx with rfl|rfl;rcases P.from_ with h1|h1;exact .inl (awn _ h1);have:=hE.size;exact .inr ae;exact .inl (awp ..)
 have hK:∀x∈vb::foot e.kv,x∈blk (.slice ↑vb (os.length+1) iT) (os++[e]):=by intro x hx;rcases awq.1 hx with rfl|hx;exact yE.2 (.inl rfl);exact yE.2 (.inr ⟨e,aj,aG.1 hx⟩)
 obtain⟨e',he'⟩:∃e',e'=M.mk e.kind e.s e.n ↑g cap1 (e.kids++[m]) e.pos:=⟨_,rfl⟩
 have hf':foot e'.kv=[g]:=by rw[he'];rfl
 have hnew:∀x∈blk (.slice ↑vb (os.length+1) iT) (os++[e']),x∈blk (.slice ↑vb (os.length+1) iT) (os++[e])∨w.heap.size<=x:=by intro x hx;rw[rX,hf']at hx;rw[rX];rcases awD.1 hx with hx|hx;exact .inl (awH _ hx);simp at hx;subst hx;rcases P.from_ with h1|h1;exact .inl (aw4 _ h1);have:=hE.size;exact .inr ae
 have hnd:=h.nd;rw[rX]at hnd;have Js:=axH.1 hnd;have hlies:∀m',Lies base (blk (.slice ↑vb (os.length+1) iT) (os++[e])) w m'->Lies base (blk (.slice ↑vb (os.length+1) iT) (os++[e'])) W m':=λm' hm'=>
  hm'.move (hB.wide λx hx=>.inl (hK x hx)) (λx hx=>(hnew x hx).imp id .inr)
 refine⟨e',?_,⟨?_,?_,?_,?_⟩,hB.wide λx hx=>.inl (hK x hx),hnew⟩;rw[he',M.rV,T.add,M.rV e];simp[M.kind,M.s,M.n,M.kids,M.pos,T.kind,T.s,T.n,T.kids,T.pos];refine⟨by rw[lC],.inr ⟨vb,iT,_,aj,hvb,kv,by simpa using hvn,hvm,by simpa using hvs,?_⟩⟩;have hl:(os++[e']).length=os.length+1:=aj;rw[hl,uH hvt,pg,oH];have:=Yi (kS os) (os.length*5) (lC os) ↑e.kind ↑e.s ↑e.n e.kv ↑e.pos (.slice ↑g (e.kids.length+1) cap1);refine Eq.trans this ?_;rw[he'];simp[mc,M.kind,M.s,M.n,M.kv,M.A,M.kids,M.cap,M.pos];intro e0 he0;rcases awD.1 he0 with h1|h1;refine Xj (h.kid e0 (awH _ h1)) hB λg0 hg0 hm0=>?_;rcases awq.1 hm0 with rfl|h2;have:=(axH.1 Js.1).2.2 _ (aG.2 rfl) _ (axx.2 ⟨e0,h1,aG.2 hg0⟩);exact this rfl;exact Js.2.2 _ (yE.2 (.inr ⟨e0,h1,hg0⟩)) _ h2 rfl;simp at h1;subst h1;have hl:e0.kids.length=e.kids.length+1:=by rw[he'];simp[M.kids]
 have hkv:e0.kv=.slice ↑g (e.kids.length+1) cap1:=by rw[he'];simp[M.kv,M.A,M.kids,M.cap]
 refine⟨by rw[lC],.inr ⟨g,cap1,_,by rw[hkv,hl],P.ah2,kg,by rw[hl];exact P.fit.1,P.fit.2,by simpa using hg2,?_⟩⟩;rw[hl,uH (uH (uH (uH (uH hg3))))];have:=aai (kS e.kids) (e.kids.length*5) (lC e.kids) (.int .i64 0) (.string ⟨#[]⟩) (.int .i64 0) ↑() (.int .i64 0) ↑m.kind ↑m.s ↑m.n m.kv ↑m.pos;refine Eq.trans this ?_;rw[he'];simp[M.kids,pg,oH,mc];rw[rX,hf',axH];refine⟨Js.1,aj,λa ha b hb hab=>?_⟩;simp at hb;subst hb hab;rcases P.from_ with h1|h1;exact Js.2.2 _ ha _ h1 rfl;have h2:=(h.range (g:=a) (by rw[rX];exact awH _ ha)).2;have:=hE.size;omega;intro e0 he0 m' hm';rcases awD.1 he0 with h1|h1;exact hlies m' (h.lies e0 (awH _ h1) m' hm');simp at h1;rw[h1,he']at hm';rcases awD.1 (show m'∈e.kids++[m] from hm') with h2|h2;exact hlies m' (h.lies e aj m' h2);simp at h2;rw[h2];exact hlies m hm
theorem aak{base:Nat}{v:au}{os:List M}{e m:M}(w:ak)(h:Opn base w v (os++[e]))(hm:Lies base (blk v (os++[e])) w m)(hl:e.kids.length<=1000000):
  Calls ax 151 #[v,mv m] w λr w'=>r=.returned v/\∃e':M,e'.t=e.t.add m.t/\Opn base w' v (os++[e'])/\But (blk v (os++[e])) w w'/\(∀x∈blk v (os++[e']),x∈blk v (os++[e])∨w.heap.size<=x):=by
 have aW:Ev w (w.alloc (.cells (mc m).toArray 101)):=Ev.alloc _ _;obtain⟨w0,hw0⟩:∃w0,w0=w.alloc (.cells (mc m).toArray 101):=⟨_,rfl⟩
 rw[<-hw0]at aW;have hb:w0.heap[w.heap.size]?=some (.cells (mc m).toArray 101 (0,0)):=by rw[hw0];exact heap_alloc_new _ _
 have h':=h.ev aW;obtain⟨vb,iT,rfl,hle,hmx,hvb,_,hfr,hc⟩:=h'.at aj;obtain⟨_,hlt⟩:=h.range (g:=vb) (yE.2 (.inl rfl));have hbase:base<=w.heap.size:=ae;have aro:vb<w0.heap.size:=awz hlt aW.size;obtain⟨c0,c1,c2,c3,c4⟩:=hc os.length e aj;have hf3:=hfr (os.length*5+3);have hck:∀j u,(mc m)[j]?=some u->w0.cell? ⟨w.heap.size,j,none⟩=some u:=λj u hu=>by rw[Lib.cell_of_heap hb];simpa using hu
 have b0:=hck 0 _ rfl;have b1:=hck 1 _ rfl;have b2:=hck 2 _ rfl;have b3:=hck 3 _ rfl;have b4:=hck 4 _ rfl;have hlw:w.heap.size<w0.heap.size:=by rw[hw0];simp
 have hq:(os++[e]).length=os.length+1:=aj;rw[hq]at hle h h' hm|-;have HH:=zq h';have HO:=zq (h'.kid e aj);generalize hq0:os.length=q at*;have HQ:=zq hq0;clear hc hck hb hfr h' hq hq0;unfold M.kv at c3 b3 HO;have Yb:w.alloc (.cells ↑m 101)=w0:=hw0.symm;obtain⟨n,hn⟩:∃n,n=e.kids.length:=⟨_,rfl⟩
 have hkn:=(Fh HO.out).le;have Yk:=(Fh HO.out).max;rw[<-hn]at c3 hl hkn HO;have HN:=zq hn;clear hw0 hn;unfold mv M.kv;go_enter func151,ntmps151;go_wp2;have aK:Ev w0 (w0.drew.alloc (.cells ↑Zz.a 101)):=(Ev.drew w0).trans az;have HZ:Hid (∀j u,(mc iU)[j]?=some u->(w0.drew.alloc (.cells ↑Zz.a 101)).cell? ⟨w0.heap.size,j,none⟩=some u):=zq λj u hu=>by rw[show w0.heap.size=w0.drew.heap.size from rfl,Lib.cell_of_heap (heap_alloc_new w0.drew _)];simpa[mc,iU,M.kind,M.s,M.n,M.kv,M.A,M.kids,M.cap,M.pos] using hu
 clear Yb;have i1:(n:Int)<(n:Int)+1:=ae
 go_region_law (refine M_ rfl (.tmp 14) (.tmp 17) rfl underlying99 Tryz.infoTree base (.slice e.A n e.cap) n (kS e.kids) rfl (Pj HO.out aK) w0.heap.size 1 rfl iU HZ.out hl (awJ (awJ hbase aW.size) aK.size) ?_;intro v1 w1 h1 h2 h3;obtain⟨g,cap1,rfl,k1,k2,k3,HP,⟨x0,d0⟩,⟨x1,d1⟩,⟨x2,d2⟩,⟨x3,d3⟩,⟨x4,d4⟩,⟨x5,d5⟩,hfg,hfv⟩:=ac2 HH.out HQ.out HN.out aK h1 h2 h3;have k4:vb≠g:=λh=>k3 h.symm;have fz0:=hfg (n*5);have fz1:=hfg (n*5+1);have fz2:=hfg (n*5+2);have fz3:=hfg (n*5+3);have fz4:=hfg (n*5+4);have fz5:=hfv (q*5+3);clear h1 h2 h3 hfg hfv)
 all_goals (go_wp2;go_ret;rw[Yj];refine⟨rfl,ac3 HP HQ.out HN.out aW hlt hm h ?_⟩;first|(refine .inl ?_;with_reducible rfl)|(refine .inr ?_;with_reducible rfl))
end Go.Proofs.YtpbfokkocaemlaaGreatDoor
