import Derived.Test.YtbgmhhfjkkfhpaaGreatDoorZ17G
set_option linter.unusedVariables false
set_option maxRecDepth 100000
set_option maxHeartbeats 64000000
namespace Go.Proofs.YtbgmhhfjkkfhpaaGreatDoor
open Go.RowKit
open Go.Lib renaming hid → zq
open Go renaming World → ak
open Go renaming Value → au
open Go.Proofs.Tryz renaming prog → ax
open Go.Proofs.Tryz
theorem Tryz.infoTree:(Tryz.prog.info? 186).map (λi=>(i.zero,i.size,i.bytes))=some (some (.agg ↑Zz.a),5,64):=ah
theorem Ol{P:Program}{ops:Array Oper}{o:Oper}{a:Act}{w:ak}{K:Act->ak->Prop}{Q:Exit->Act->ak->Prop}{E:Prop}
  (hg:o.guard=none) (s x:Operand) (hop:o.op=.call {callee:=.builtin .append,args:=#[s,x],argTypes:=#[184,184]})
  (ht:P.underlying 184=some (.slice 186)) (hi:(P.info? 186).map (λi=>(i.zero,i.size,i.bytes))=some (some (.agg ↑Zz.a),5,64))
  (base:Nat) (v:au) (n:Nat) (xs:List au) (hs:a.eval s=v) (hown:w.ownsRow base 186 5 v n xs) (b c:Nat) (hx:a.eval x=.slice ↑b 1 c) (m:M)
  (hm:∀j u,(mc m)[j]?=some u->w.cell? ⟨b,j,none⟩=some u) (hn:n<=1000000) (hbase:base<=w.heap.size)
  (hK:∀v' w',w'.ownsRow base 186 5 v' (n+1) (xs++mc m)->w.grownBy w' v.ownBlock->(v'.ownBlock=v.ownBlock∨v'.ownBlock=some w.heap.size)->K (a.put o.dst v') w'):
  if Region.wanted o (yielded ops a.tmps)=true then Oper.wp P o a w K Q else E:=by
 have hw:Region.wanted o (yielded ops a.tmps)=true:=by simp[Region.wanted,hg]
 rw[if_pos hw];obtain⟨i,uj,hz,hsz,hby⟩:=aE' hi;obtain⟨v',w',hr,h1,h2,_,h4⟩:=run_append_own_at (P:=P) w base 184 o.type 186 i _ 5 64 ht uj hz hsz hby rfl ai v n xs hown ⟨b,0,none⟩ 1 c (mc m) rfl (λj u hu=>by rw[aE9,aDt];exact hm j u hu)
  (λu hu=>BZ [m] u (by rw[mY];exact hu)) (by unfold maxLen;omega) ae hbase
 unfold Oper.wp execOp;simp only[hop,resolve,invoke,builtin,aFa,aFb,aFc,aD1,aDe,aDu,hs,hx,hr];exact hK v' w' h1 h2 h4
structure yY(base:Nat)(w0 w1:ak)(os:List M)(e:M)(vb iJ g cap1:Nat):Prop where
 opn:Opn base w0 (.slice ↑vb (os.length+1) iJ) (os++[e])
 but:But (foot e.kv) w0 w1
 from_:g∈foot e.kv∨w0.heap.size<=g
 an3:base<=g
 fit:e.kids.length+1<=cap1/\cap1<=maxLen
 as1:∃cur:Array au,w1.heap[g]?=some (.cells cur 186 (0,0))/\cur.size=cap1*5/\cur.toList.take ((e.kids.length+1)*5)=j_ e.kids++mc ku
theorem yY.an4{base:Nat}{w0 w1:ak}{os:List M}{e:M}{vb iJ g cap1:Nat}(P:yY base w0 w1 os e vb iJ g cap1):vb<w0.heap.size:=(P.opn.range (xu.2 (.inl rfl))).2
theorem yY.adK{base:Nat}{w0 w1:ak}{os:List M}{e:M}{vb iJ g cap1:Nat}(P:yY base w0 w1 os e vb iJ g cap1):vb∉foot e.kv:=λhm=>by have:=P.opn.nd;unfold blk at this;rw[aEL]at this;exact this.2.2 vb (aG.2 rfl) vb (aEh.2 ⟨e,aj,hm⟩) rfl
theorem yY.ne{base:Nat}{w0 w1:ak}{os:List M}{e:M}{vb iJ g cap1:Nat}(P:yY base w0 w1 os e vb iJ g cap1):g≠vb:=λh=>by subst h;rcases P.from_ with h1|h1;exact P.adK h1;have:=P.an4;omega
theorem yY.an5{base:Nat}{w0 w1:ak}{os:List M}{e:M}{vb iJ g cap1:Nat}(P:yY base w0 w1 os e vb iJ g cap1):∃cur:Array au,w1.heap[vb]?=some (.cells cur 186 (0,0))/\w0.heap[vb]?=some (.cells cur 186 (0,0))/\os.length+1<=iJ/\iJ<=maxLen/\base<=vb/\
  cur.size=iJ*5/\cur.toList.take ((os.length+1)*5)=j_ os++mc e:=by
 rcases P.opn.own.2 with⟨hv,_⟩|⟨g',cap',cur,hv,hb,hh,AU,hcm,hcs,ht⟩
 cases hv
 injection hv with h1 h2 h3
 injection h1 with h1
 injection h1 with h1 _ _
 subst h1 h3;have hlen:(os++[e]).length=os.length+1:=aj;rw[hlen,og,mY]at ht;rw[hlen]at AU;exact⟨cur,P.but.heap hh P.adK,hh,AU,hcm,hb,hcs,ht⟩
theorem ahn{base:Nat}{w0 wa w1:ak}{os:List M}{e:M}{vb iJ n q:Nat}{v1:au}(H:Opn base w0 (.slice ↑vb (q+1) iJ) (os++[e]))(hq:os.length=q)(hn:n=e.kids.length)(hE:Ev w0 wa)
  (h1:w1.ownsRow base 186 5 v1 (n+1) (j_ e.kids++mc ku)) (gb:wa.grownBy w1 (Value.slice e.A n e.cap).ownBlock) (h3:v1.ownBlock=(Value.slice e.A n e.cap).ownBlock∨v1.ownBlock=some wa.heap.size):
  ∃g cap1,v1=.slice (some ⟨g,0,none⟩) (n+1) cap1/\n+1<=cap1/\cap1<=9223372036854775807/\g≠vb/\yY base w0 w1 os e vb iJ g cap1/\
   (∃x,w1.cell? ⟨g,n*5,none⟩=some x)/\(∃x,w1.cell? ⟨g,n*5+1,none⟩=some x)/\(∃x,w1.cell? ⟨g,n*5+2,none⟩=some x)/\(∃x,w1.cell? ⟨g,n*5+3,none⟩=some x)/\(∃x,w1.cell? ⟨g,n*5+4,none⟩=some x)/\
   (∃x,w1.cell? ⟨vb,q*5+3,none⟩=some x)/\(∀i,w1.frozen? ⟨g,i,none⟩=false)/\(∀i,w1.frozen? ⟨vb,i,none⟩=false):=by
 subst hq hn;rcases h1.2 with⟨rfl,h0⟩|⟨g,cap1,cur,rfl,hb,hh,AU,hcm,hcs,ht⟩
 omega;have hP:yY base w0 w1 os e vb iJ g cap1:=⟨H,(But.aU (K:=foot e.kv) hE).then (But.grown gb λg' hg'=>aG.2 hg'),by
  rcases h3 with h4|h4;exact .inl (aG.2 h4.symm);simp[Value.ownBlock]at h4;have:=hE.size;exact .inr ae,hb,⟨AU,hcm⟩,cur,hh,hcs,ht⟩
 have hcell:∀j,j<5->∃x,w1.cell? ⟨g,e.kids.length*5+j,none⟩=some x:=λj hj=>by rw[aFf hh];have:e.kids.length*5+j<cur.size:=ae;exact⟨_,aEH this⟩
 obtain⟨cv,BR,_,hv2,_,_,hv3,_⟩:=hP.an5;refine⟨g,cap1,rfl,AU,by simpa[maxLen] using hcm,hP.ne,hP,hcell 0 ae,hcell 1 ae,hcell 2 ae,hcell 3 ae,hcell 4 ae,?_,λi=>aFg hh i,λi=>aFg BR i⟩;rw[aFf BR];have:os.length*5+3<cv.size:=ae;exact⟨_,aEH this⟩
theorem rO{cur:Array au}{L:List au}{N i:Nat}{x:au}(h:cur.toList.take N=L):(cur.setIfInBounds i x).toList.take N=L.set i x:=by rw[<-h,Array.toList_setIfInBounds,List.take_set]
theorem adL(L:List au)(N:Nat)(hN:L.length=N)(z0 z1 z2 z3 z4 a0 a1 a2 a3 a4:au):
  (((((L++[z0,z1,z2,z3,z4]).set N a0).set (N+1) a1).set (N+2) a2).set (N+3) a3).set (N+4) a4=L++[a0,a1,a2,a3,a4]:=by
 subst hN;simp
theorem aa4(L:List au)(N:Nat)(hN:L.length=N)(z0 z1 z2 z3 z4 a3:au):(L++[z0,z1,z2,z3,z4]).set (N+3) a3=L++[z0,z1,z2,a3,z4]:=by subst hN;simp
def adM(g o:Nat)(k n p:Int)(s:ByteArray)(v:au)(w:ak):ak:=
 ((((w.setCell ⟨g,o,none⟩ ↑k).setCell ⟨g,o+1,none⟩ (.string s)).setCell ⟨g,o+2,none⟩ ↑n).setCell ⟨g,o+3,none⟩ v).setCell ⟨g,o+4,none⟩ ↑p
theorem aa5(g o:Nat)(k n p:Int)(s:ByteArray)(v:au)(w:ak):
 ((((w.setCell ⟨g,o,none⟩ ↑k).setCell ⟨g,o+1,none⟩ (.string s)).setCell ⟨g,o+2,none⟩ ↑n).setCell ⟨g,o+3,none⟩ v).setCell ⟨g,o+4,none⟩ ↑p=adM g o k n p s v w:=rfl
theorem Uw(g o:Nat)(k n p:Int)(s:ByteArray)(v:au)(w:ak):But [g] w (adM g o k n p s v w):=
 ((((But.setCell ⟨g,o,none⟩ _ aj).then (But.setCell ⟨g,o+1,none⟩ _ aj)).then (But.setCell ⟨g,o+2,none⟩ _ aj)).then (But.setCell ⟨g,o+3,none⟩ _ aj)).then (But.setCell ⟨g,o+4,none⟩ _ aj)
theorem Pe{g o:Nat}{w:ak}{cur:Array au}(k n p:Int)(s:ByteArray)(v:au)(h:w.heap[g]?=some (.cells cur 186 (0,0))):
  (adM g o k n p s v w).heap[g]?=some (.cells (((((cur.setIfInBounds o ↑k).setIfInBounds (o+1) (.string s)).setIfInBounds (o+2) ↑n).setIfInBounds (o+3) v).setIfInBounds (o+4) ↑p) 186 (0,0)):=
 fE (o+4) _ (fE (o+3) _ (fE (o+2) _ (fE (o+1) _ (fE o _ h))))
theorem qp(v:au)(os:List M)(e:M):blk v (os++[e])=blk v os++foot e.kv:=by unfold blk;simp
theorem aho{base:Nat}{w w0 w1 W:ak}{os:List M}{e m:M}{vb iJ g cap1 n q:Nat}(P:yY base w0 w1 os e vb iJ g cap1)(hq:os.length=q)(hn:n=e.kids.length)(hE:Ev w w0)(hvw:vb<w.heap.size)
  (hm:Lies base (blk (.slice ↑vb (q+1) iJ) (os++[e])) w m) (h:Opn base w (.slice ↑vb (q+1) iJ) (os++[e]))
  (hW:W=(adM g (n*5) m.kind m.n m.pos ⟨m.s.toArray⟩ (.slice m.A m.kids.length m.cap) w1).setCell ⟨vb,q*5+3,none⟩ (.slice ↑g (n+1) cap1)∨W=adM g (n*5) m.kind m.n m.pos ⟨m.s.toArray⟩ (.slice m.A m.kids.length m.cap) (w1.setCell ⟨vb,q*5+3,none⟩ (.slice ↑g (n+1) cap1))):
  ∃e':M,e'.t=e.t.add m.t/\Opn base W (.slice ↑vb (q+1) iJ) (os++[e'])/\But (blk (.slice ↑vb (q+1) iJ) (os++[e])) w W/\
   (∀x∈blk (.slice ↑vb (q+1) iJ) (os++[e']),x∈blk (.slice ↑vb (q+1) iJ) (os++[e])∨w.heap.size<=x):=by
 subst hq hn;rw[show (Value.slice m.A m.kids.length m.cap)=m.kv from rfl]at hW;have hne:=P.ne;obtain⟨cg,hg1,hg2,hg3⟩:=P.as1;obtain⟨cv,BR,hv0,hvn,hvm,hvb,hvs,hvt⟩:=P.an5;have key:W.heap[g]?=some (.cells (((((cg.setIfInBounds (e.kids.length*5) ↑m.kind).setIfInBounds (e.kids.length*5+1) ↑m.s).setIfInBounds (e.kids.length*5+2) ↑m.n).setIfInBounds (e.kids.length*5+3) m.kv).setIfInBounds (e.kids.length*5+4) ↑m.pos) 186 (0,0))/\
   W.heap[vb]?=some (.cells (cv.setIfInBounds (os.length*5+3) (.slice ↑g (e.kids.length+1) cap1)) 186 (0,0))/\But [g,vb] w1 W:=by
  rcases hW with rfl|rfl;have hb1:=Uw g (e.kids.length*5) m.kind m.n m.pos ⟨m.s.toArray⟩ m.kv w1;refine⟨?_,fE _ _ (hb1.heap BR (by simp;exact λh=>hne h.symm)),(hb1.wide aj).then (But.setCell _ _ aj)⟩;rw[heap_setCell_other _ _ _ _ (by simpa using hne)];exact Pe _ _ _ _ _ hg1;have hb1:=Uw g (e.kids.length*5) m.kind m.n m.pos ⟨m.s.toArray⟩ m.kv (w1.setCell ⟨vb,os.length*5+3,none⟩ (.slice ↑g (e.kids.length+1) cap1));refine⟨Pe _ _ _ _ _ (by rw[heap_setCell_other _ _ _ _ (by simpa using hne)];exact hg1),hb1.heap (fE _ _ BR) (by simp;exact λh=>hne h.symm),(But.setCell _ _ aj).then (hb1.wide aj)⟩
 clear hW;obtain⟨kg,kv,kb⟩:=key;have hB:But (vb::foot e.kv) w W:=by refine((But.aU (K:=vb::foot e.kv) hE).then (P.but.wide (K':=vb::foot e.kv) (λx hx=>.inl (aDc _ hx)))).trans kb ?_;intro x hx;simp at hx;rcases hx with rfl|rfl;rcases P.from_ with h1|h1;exact .inl (aDc _ h1);have:=hE.size;exact .inr ae;exact .inl (aC' ..)
 have hK:∀x∈vb::foot e.kv,x∈blk (.slice ↑vb (os.length+1) iJ) (os++[e]):=by intro x hx;rcases aDg.1 hx with rfl|hx;exact xu.2 (.inl rfl);exact xu.2 (.inr ⟨e,aj,aG.1 hx⟩)
 obtain⟨e',he'⟩:∃e',e'=M.mk e.kind e.s e.n ↑g cap1 (e.kids++[m]) e.pos:=⟨_,rfl⟩
 have hf':foot e'.kv=[g]:=by rw[he'];rfl
 have hnew:∀x∈blk (.slice ↑vb (os.length+1) iJ) (os++[e']),x∈blk (.slice ↑vb (os.length+1) iJ) (os++[e])∨w.heap.size<=x:=by intro x hx;rw[qp,hf']at hx;rw[qp];rcases aDm.1 hx with hx|hx;exact .inl (aDy _ hx);simp at hx;subst hx;rcases P.from_ with h1|h1;exact .inl (aD7 _ h1);have:=hE.size;exact .inr ae
 have hnd:=h.nd;rw[qp]at hnd;have KQ:=aEL.1 hnd;have hlies:∀m',Lies base (blk (.slice ↑vb (os.length+1) iJ) (os++[e])) w m'->Lies base (blk (.slice ↑vb (os.length+1) iJ) (os++[e'])) W m':=λm' WE=>
  WE.move (hB.wide λx hx=>.inl (hK x hx)) (λx hx=>(hnew x hx).imp id .inr)
 refine⟨e',?_,⟨?_,?_,?_,?_⟩,hB.wide λx hx=>.inl (hK x hx),hnew⟩;rw[he',M.yE,T.add,M.yE e];simp[M.kind,M.s,M.n,M.kids,M.pos,T.kind,T.s,T.n,T.kids,T.pos];refine⟨by rw[kT],.inr ⟨vb,iJ,_,aj,hvb,kv,by simpa using hvn,hvm,by simpa using hvs,?_⟩⟩;have hl:(os++[e']).length=os.length+1:=aj;rw[hl,rO hvt,og,mY];have:=aa4 (j_ os) (os.length*5) (kT os) ↑e.kind ↑e.s ↑e.n e.kv ↑e.pos (.slice ↑g (e.kids.length+1) cap1);refine Eq.trans this ?_;rw[he'];simp[mc,M.kind,M.s,M.n,M.kv,M.A,M.kids,M.cap,M.pos];intro e0 he0;rcases aDm.1 he0 with h1|h1;refine ZB (h.kid e0 (aDy _ h1)) hB λg0 hg0 hm0=>?_;rcases aDg.1 hm0 with rfl|h2;have:=(aEL.1 KQ.1).2.2 _ (aG.2 rfl) _ (aEh.2 ⟨e0,h1,aG.2 hg0⟩);exact this rfl;exact KQ.2.2 _ (xu.2 (.inr ⟨e0,h1,hg0⟩)) _ h2 rfl;simp at h1;subst h1;have hl:e0.kids.length=e.kids.length+1:=by rw[he'];simp[M.kids]
 have hkv:e0.kv=.slice ↑g (e.kids.length+1) cap1:=by rw[he'];simp[M.kv,M.A,M.kids,M.cap]
 refine⟨by rw[kT],.inr ⟨g,cap1,_,by rw[hkv,hl],P.an3,kg,by rw[hl];exact P.fit.1,P.fit.2,by simpa using hg2,?_⟩⟩;rw[hl,rO (rO (rO (rO (rO hg3))))];have:=adL (j_ e.kids) (e.kids.length*5) (kT e.kids) (.int .i64 0) (.string ⟨#[]⟩) (.int .i64 0) ↑() (.int .i64 0) ↑m.kind ↑m.s ↑m.n m.kv ↑m.pos;refine Eq.trans this ?_;rw[he'];simp[M.kids,og,mY,mc];rw[qp,hf',aEL];refine⟨KQ.1,aj,λa ha b hb hab=>?_⟩;simp at hb;subst hb hab;rcases P.from_ with h1|h1;exact KQ.2.2 _ ha _ h1 rfl;have h2:=(h.range (g:=a) (by rw[qp];exact aDy _ ha)).2;have:=hE.size;omega;intro e0 he0 m' WE;rcases aDm.1 he0 with h1|h1;exact hlies m' (h.lies e0 (aDy _ h1) m' WE);simp at h1;rw[h1,he']at WE;rcases aDm.1 (show m'∈e.kids++[m] from WE) with h2|h2;exact hlies m' (h.lies e aj m' h2);simp at h2;rw[h2];exact hlies m hm
theorem adN{base:Nat}{v:au}{os:List M}{e m:M}(w:ak)(h:Opn base w v (os++[e]))(hm:Lies base (blk v (os++[e])) w m)(hl:e.kids.length<=1000000):
  Calls ax 236 #[v,mv m] w λr w'=>r=.returned v/\∃e':M,e'.t=e.t.add m.t/\Opn base w' v (os++[e'])/\But (blk v (os++[e])) w w'/\(∀x∈blk v (os++[e']),x∈blk v (os++[e])∨w.heap.size<=x):=by
 have aV:Ev w (w.alloc (.cells (mc m).toArray 186)):=Ev.alloc _ _;obtain⟨w0,hw0⟩:∃w0,w0=w.alloc (.cells (mc m).toArray 186):=⟨_,rfl⟩
 rw[<-hw0]at aV;have hb:w0.heap[w.heap.size]?=some (.cells (mc m).toArray 186 (0,0)):=by rw[hw0];exact aFd _ _
 have h':=h.ev aV;obtain⟨vb,iJ,rfl,hle,hmx,hvb,_,hfr,hc⟩:=h'.at aj;obtain⟨_,hlt⟩:=h.range (g:=vb) (xu.2 (.inl rfl));have hbase:base<=w.heap.size:=ae;have ayv:vb<w0.heap.size:=aDf hlt aV.size;obtain⟨c0,c1,c2,c3,c4⟩:=hc os.length e aj;have hf3:=hfr (os.length*5+3);have hck:∀j u,(mc m)[j]?=some u->w0.cell? ⟨w.heap.size,j,none⟩=some u:=λj u hu=>by rw[aFf hb];simpa using hu
 have b0:=hck 0 _ rfl;have b1:=hck 1 _ rfl;have b2:=hck 2 _ rfl;have b3:=hck 3 _ rfl;have b4:=hck 4 _ rfl;have hlw:w.heap.size<w0.heap.size:=by rw[hw0];simp
 have hq:(os++[e]).length=os.length+1:=aj;rw[hq]at hle h h' hm|-;have HH:=zq h';have HO:=zq (h'.kid e aj);generalize hq0:os.length=q at*;have HQ:=zq hq0;clear hc hck hb hfr h' hq hq0;unfold M.kv at c3 b3 HO;have ahh:w.alloc (.cells ↑m 186)=w0:=hw0.symm;obtain⟨n,hn⟩:∃n,n=e.kids.length:=⟨_,rfl⟩
 have hkn:=(FH HO.out).le;have hkm:=(FH HO.out).max;rw[<-hn]at c3 hl hkn HO;have HN:=zq hn;clear hw0 hn;unfold mv M.kv;go_enter func236,ntmps236;go_wp2;have aJ:Ev w0 (w0.drew.alloc (.cells ↑Zz.a 186)):=(Ev.drew w0).trans aC;have HZ:Hid (∀j u,(mc ku)[j]?=some u->(w0.drew.alloc (.cells ↑Zz.a 186)).cell? ⟨w0.heap.size,j,none⟩=some u):=zq λj u hu=>by rw[show w0.heap.size=w0.drew.heap.size from rfl,aFf (aFd w0.drew _)];simpa[mc,ku,M.kind,M.s,M.n,M.kv,M.A,M.kids,M.cap,M.pos] using hu
 clear ahh;have i1:(n:Int)<(n:Int)+1:=ae
 go_region_law (refine Ol rfl (.tmp 14) (.tmp 17) rfl underlying184 Tryz.infoTree base (.slice e.A n e.cap) n (j_ e.kids) rfl (Qy HO.out aJ) w0.heap.size 1 rfl ku HZ.out hl (aDr (aDr hbase aV.size) aJ.size) ?_;intro v1 w1 h1 h2 h3;obtain⟨g,cap1,rfl,k1,k2,k3,HP,⟨x0,d0⟩,⟨x1,d1⟩,⟨x2,d2⟩,⟨x3,d3⟩,⟨x4,d4⟩,⟨x5,d5⟩,hfg,hfv⟩:=ahn HH.out HQ.out HN.out aJ h1 h2 h3;have k4:vb≠g:=λh=>k3 h.symm;have fz0:=hfg (n*5);have fz1:=hfg (n*5+1);have fz2:=hfg (n*5+2);have fz3:=hfg (n*5+3);have fz4:=hfg (n*5+4);have fz5:=hfv (q*5+3);clear h1 h2 h3 hfg hfv)
 all_goals (go_wp2;go_ret;rw[aa5];refine⟨rfl,aho HP HQ.out HN.out aV hlt hm h ?_⟩;first|(refine .inl ?_;with_reducible rfl)|(refine .inr ?_;with_reducible rfl))
end Go.Proofs.YtbgmhhfjkkfhpaaGreatDoor
