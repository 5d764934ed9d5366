import Derived.Test.YtpbfokkocaemlaaGreatDoorZ12P
set_option linter.unusedVariables false
set_option maxRecDepth 100000
set_option maxHeartbeats 64000000
namespace Go.Proofs.YtpbfokkocaemlaaGreatDoor
open Go.RowKit
open Go.Lib renaming hid → zq
open Go renaming World → ak
open Go renaming Value → au
open Go.Proofs.Tryz renaming prog → ax
open Go.Proofs.Tryz
theorem Tryz.infoTree:(Tryz.prog.info? 101).map (λi=>(i.zero,i.size,i.bytes))=some (some (.agg ↑Zz.a),5,64):=ah
theorem Nc{P:Program}{ops:Array Oper}{o:Oper}{a:Act}{w:ak}{K:Act->ak->Prop}{Q:Exit->Act->ak->Prop}{E:Prop}
  (hg:o.guard=none) (s x:Operand) (hop:o.op=.call {callee:=.builtin .append,args:=#[s,x],argTypes:=#[99,99]})
  (ht:P.underlying 99=some (.slice 101)) (hi:(P.info? 101).map (λi=>(i.zero,i.size,i.bytes))=some (some (.agg ↑Zz.a),5,64))
  (base:Nat) (v:au) (n:Nat) (xs:List au) (hs:a.eval s=v) (hown:w.ownsRow base 101 5 v n xs) (b c:Nat) (hx:a.eval x=.slice ↑b 1 c) (m:M)
  (hm:∀j u,(mc m)[j]?=some u->w.cell? ⟨b,j,none⟩=some u) (hn:n<=1000000) (hbase:base<=w.heap.size)
  (hK:∀v' w',w'.ownsRow base 101 5 v' (n+1) (xs++mc m)->w.grownBy w' v.ownBlock->(v'.ownBlock=v.ownBlock∨v'.ownBlock=some w.heap.size)->K (a.put o.dst v') w'):
  if Region.wanted o (yielded ops a.tmps)=true then Oper.wp P o a w K Q else E:=by
 have hw:Region.wanted o (yielded ops a.tmps)=true:=by simp[Region.wanted,hg]
 rw[if_pos hw];obtain⟨i,D5,hz,hsz,hby⟩:=info_parts hi;obtain⟨v',w',hr,h1,h2,_,h4⟩:=run_append_own_at (P:=P) w base 99 o.type 101 i _ 5 64 ht D5 hz hsz hby rfl ai v n xs hown ⟨b,0,none⟩ 1 c (mc m) rfl (λj u hu=>by rw[Addr.add_lit,aw3];exact hm j u hu)
  (λu hu=>CX [m] u (by rw[pI];exact hu)) (by unfold maxLen;omega) ae hbase
 unfold Oper.wp execOp;simp only[hop,resolve,invoke,builtin,ayn,ayo,ayp,axF,awI,awY,hs,hx,hr];exact hK v' w' h1 h2 h4
structure zV(base:Nat)(w0 w1:ak)(os:List M)(e:M)(vb iZ g cap1:Nat):Prop where
 opn:Opn base w0 (.slice ↑vb (os.length+1) iZ) (os++[e])
 but:But (foot e.kv) w0 w1
 from_:g∈foot e.kv∨w0.heap.size<=g
 ajE:base<=g
 fit:e.kids.length+1<=cap1/\cap1<=maxLen
 anz:∃cur:Array au,w1.heap[g]?=some (.cells cur 101 (0,0))/\cur.size=cap1*5/\cur.toList.take ((e.kids.length+1)*5)=lg e.kids++mc ja
theorem zV.ajF{base:Nat}{w0 w1:ak}{os:List M}{e:M}{vb iZ g cap1:Nat}(P:zV base w0 w1 os e vb iZ g cap1):vb<w0.heap.size:=(P.opn.range (yO.2 (.inl rfl))).2
theorem zV.aa6{base:Nat}{w0 w1:ak}{os:List M}{e:M}{vb iZ g cap1:Nat}(P:zV base w0 w1 os e vb iZ g cap1):vb∉foot e.kv:=λhm=>by have:=P.opn.nd;unfold blk at this;rw[ax4]at this;exact this.2.2 vb (aG.2 rfl) vb (axV.2 ⟨e,aj,hm⟩) rfl
theorem zV.ne{base:Nat}{w0 w1:ak}{os:List M}{e:M}{vb iZ g cap1:Nat}(P:zV base w0 w1 os e vb iZ g cap1):g≠vb:=λh=>by subst h;rcases P.from_ with h1|h1;exact P.aa6 h1;have:=P.ajF;omega
theorem zV.ajG{base:Nat}{w0 w1:ak}{os:List M}{e:M}{vb iZ g cap1:Nat}(P:zV base w0 w1 os e vb iZ g cap1):∃cur:Array au,w1.heap[vb]?=some (.cells cur 101 (0,0))/\w0.heap[vb]?=some (.cells cur 101 (0,0))/\os.length+1<=iZ/\iZ<=maxLen/\base<=vb/\
  cur.size=iZ*5/\cur.toList.take ((os.length+1)*5)=lg os++mc e:=by
 rcases P.opn.own.2 with⟨hv,_⟩|⟨g',cap',cur,hv,hb,hh,yK,hcm,hcs,ht⟩
 cases hv
 injection hv with h1 h2 h3
 injection h1 with h1
 injection h1 with h1 _ _
 subst h1 h3;have hlen:(os++[e]).length=os.length+1:=aj;rw[hlen,qf,pI]at ht;rw[hlen]at yK;exact⟨cur,P.but.heap hh P.aa6,hh,yK,hcm,hb,hcs,ht⟩
theorem aen{base:Nat}{w0 wa w1:ak}{os:List M}{e:M}{vb iZ n q:Nat}{v1:au}(H:Opn base w0 (.slice ↑vb (q+1) iZ) (os++[e]))(hq:os.length=q)(hn:n=e.kids.length)(hE:Ev w0 wa)
  (h1:w1.ownsRow base 101 5 v1 (n+1) (lg e.kids++mc ja)) (gb:wa.grownBy w1 (Value.slice e.A n e.cap).ownBlock) (h3:v1.ownBlock=(Value.slice e.A n e.cap).ownBlock∨v1.ownBlock=some wa.heap.size):
  ∃g cap1,v1=.slice (some ⟨g,0,none⟩) (n+1) cap1/\n+1<=cap1/\cap1<=9223372036854775807/\g≠vb/\zV base w0 w1 os e vb iZ g cap1/\
   (∃x,w1.cell? ⟨g,n*5,none⟩=some x)/\(∃x,w1.cell? ⟨g,n*5+1,none⟩=some x)/\(∃x,w1.cell? ⟨g,n*5+2,none⟩=some x)/\(∃x,w1.cell? ⟨g,n*5+3,none⟩=some x)/\(∃x,w1.cell? ⟨g,n*5+4,none⟩=some x)/\
   (∃x,w1.cell? ⟨vb,q*5+3,none⟩=some x)/\(∀i,w1.frozen? ⟨g,i,none⟩=false)/\(∀i,w1.frozen? ⟨vb,i,none⟩=false):=by
 subst hq hn;rcases h1.2 with⟨rfl,h0⟩|⟨g,cap1,cur,rfl,hb,hh,yK,hcm,hcs,ht⟩
 omega;have hP:zV base w0 w1 os e vb iZ g cap1:=⟨H,(But.aW (K:=foot e.kv) hE).then (But.grown gb λg' yL=>aG.2 yL),by
  rcases h3 with h4|h4;exact .inl (aG.2 h4.symm);simp[Value.ownBlock]at h4;have:=hE.size;exact .inr ae,hb,⟨yK,hcm⟩,cur,hh,hcs,ht⟩
 have hcell:∀j,j<5->∃x,w1.cell? ⟨g,e.kids.length*5+j,none⟩=some x:=λj hj=>by rw[ays hh];have:e.kids.length*5+j<cur.size:=ae;exact⟨_,ax3 this⟩
 obtain⟨cv,Jy,_,hv2,_,_,hv3,_⟩:=hP.ajG;refine⟨g,cap1,rfl,yK,by simpa[maxLen] using hcm,hP.ne,hP,hcell 0 ae,hcell 1 ae,hcell 2 ae,hcell 3 ae,hcell 4 ae,?_,λi=>ayt hh i,λi=>ayt Jy i⟩;rw[ays Jy];have:os.length*5+3<cv.size:=ae;exact⟨_,ax3 this⟩
theorem uI{cur:Array au}{L:List au}{N i:Nat}{x:au}(h:cur.toList.take N=L):(cur.setIfInBounds i x).toList.take N=L.set i x:=by rw[<-h,Array.toList_setIfInBounds,List.take_set]
theorem aa7(L:List au)(N:Nat)(hN:L.length=N)(z0 z1 z2 z3 z4 a0 a1 a2 a3 a4:au):
  (((((L++[z0,z1,z2,z3,z4]).set N a0).set (N+1) a1).set (N+2) a2).set (N+3) a3).set (N+4) a4=L++[a0,a1,a2,a3,a4]:=by
 subst hN;simp
theorem YQ(L:List au)(N:Nat)(hN:L.length=N)(z0 z1 z2 z3 z4 a3:au):(L++[z0,z1,z2,z3,z4]).set (N+3) a3=L++[z0,z1,z2,a3,z4]:=by subst hN;simp
def aa8(g o:Nat)(k n p:Int)(s:ByteArray)(v:au)(w:ak):ak:=
 ((((w.setCell ⟨g,o,none⟩ ↑k).setCell ⟨g,o+1,none⟩ (.string s)).setCell ⟨g,o+2,none⟩ ↑n).setCell ⟨g,o+3,none⟩ v).setCell ⟨g,o+4,none⟩ ↑p
theorem YR(g o:Nat)(k n p:Int)(s:ByteArray)(v:au)(w:ak):
 ((((w.setCell ⟨g,o,none⟩ ↑k).setCell ⟨g,o+1,none⟩ (.string s)).setCell ⟨g,o+2,none⟩ ↑n).setCell ⟨g,o+3,none⟩ v).setCell ⟨g,o+4,none⟩ ↑p=aa8 g o k n p s v w:=rfl
theorem Sm(g o:Nat)(k n p:Int)(s:ByteArray)(v:au)(w:ak):But [g] w (aa8 g o k n p s v w):=
 ((((But.setCell ⟨g,o,none⟩ _ aj).then (But.setCell ⟨g,o+1,none⟩ _ aj)).then (But.setCell ⟨g,o+2,none⟩ _ aj)).then (But.setCell ⟨g,o+3,none⟩ _ aj)).then (But.setCell ⟨g,o+4,none⟩ _ aj)
theorem Ol{g o:Nat}{w:ak}{cur:Array au}(k n p:Int)(s:ByteArray)(v:au)(h:w.heap[g]?=some (.cells cur 101 (0,0))):
  (aa8 g o k n p s v w).heap[g]?=some (.cells (((((cur.setIfInBounds o ↑k).setIfInBounds (o+1) (.string s)).setIfInBounds (o+2) ↑n).setIfInBounds (o+3) v).setIfInBounds (o+4) ↑p) 101 (0,0)):=
 fZ (o+4) _ (fZ (o+3) _ (fZ (o+2) _ (fZ (o+1) _ (fZ o _ h))))
theorem sQ(v:au)(os:List M)(e:M):blk v (os++[e])=blk v os++foot e.kv:=by unfold blk;simp
theorem aeo{base:Nat}{w w0 w1 W:ak}{os:List M}{e m:M}{vb iZ g cap1 n q:Nat}(P:zV base w0 w1 os e vb iZ g cap1)(hq:os.length=q)(hn:n=e.kids.length)(hE:Ev w w0)(hvw:vb<w.heap.size)
  (hm:Lies base (blk (.slice ↑vb (q+1) iZ) (os++[e])) w m) (h:Opn base w (.slice ↑vb (q+1) iZ) (os++[e]))
  (hW:W=(aa8 g (n*5) m.kind m.n m.pos ⟨m.s.toArray⟩ (.slice m.A m.kids.length m.cap) w1).setCell ⟨vb,q*5+3,none⟩ (.slice ↑g (n+1) cap1)∨W=aa8 g (n*5) m.kind m.n m.pos ⟨m.s.toArray⟩ (.slice m.A m.kids.length m.cap) (w1.setCell ⟨vb,q*5+3,none⟩ (.slice ↑g (n+1) cap1))):
  ∃e':M,e'.t=e.t.add m.t/\Opn base W (.slice ↑vb (q+1) iZ) (os++[e'])/\But (blk (.slice ↑vb (q+1) iZ) (os++[e])) w W/\
   (∀x∈blk (.slice ↑vb (q+1) iZ) (os++[e']),x∈blk (.slice ↑vb (q+1) iZ) (os++[e])∨w.heap.size<=x):=by
 subst hq hn;rw[show (Value.slice m.A m.kids.length m.cap)=m.kv from rfl]at hW;have hne:=P.ne;obtain⟨cg,hg1,hg2,hg3⟩:=P.anz;obtain⟨cv,Jy,hv0,hvn,hvm,hvb,hvs,hvt⟩:=P.ajG;have key:W.heap[g]?=some (.cells (((((cg.setIfInBounds (e.kids.length*5) ↑m.kind).setIfInBounds (e.kids.length*5+1) ↑m.s).setIfInBounds (e.kids.length*5+2) ↑m.n).setIfInBounds (e.kids.length*5+3) m.kv).setIfInBounds (e.kids.length*5+4) ↑m.pos) 101 (0,0))/\
   W.heap[vb]?=some (.cells (cv.setIfInBounds (os.length*5+3) (.slice ↑g (e.kids.length+1) cap1)) 101 (0,0))/\But [g,vb] w1 W:=by
  rcases hW with rfl|rfl;have hb1:=Sm g (e.kids.length*5) m.kind m.n m.pos ⟨m.s.toArray⟩ m.kv w1;refine⟨?_,fZ _ _ (hb1.heap Jy (by simp;exact λh=>hne h.symm)),(hb1.wide aj).then (But.setCell _ _ aj)⟩;rw[heap_setCell_other _ _ _ _ (by simpa using hne)];exact Ol _ _ _ _ _ hg1;have hb1:=Sm g (e.kids.length*5) m.kind m.n m.pos ⟨m.s.toArray⟩ m.kv (w1.setCell ⟨vb,os.length*5+3,none⟩ (.slice ↑g (e.kids.length+1) cap1));refine⟨Ol _ _ _ _ _ (by rw[heap_setCell_other _ _ _ _ (by simpa using hne)];exact hg1),hb1.heap (fZ _ _ Jy) (by simp;exact λh=>hne h.symm),(But.setCell _ _ aj).then (hb1.wide aj)⟩
 clear hW;obtain⟨kg,kv,kb⟩:=key;have hB:But (vb::foot e.kv) w W:=by refine((But.aW (K:=vb::foot e.kv) hE).then (P.but.wide (K':=vb::foot e.kv) (λx hx=>.inl (awK _ hx)))).trans kb ?_;intro x hx;simp at hx;rcases hx with rfl|rfl;rcases P.from_ with h1|h1;exact .inl (awK _ h1);have:=hE.size;exact .inr ae;exact .inl (awL ..)
 have hK:∀x∈vb::foot e.kv,x∈blk (.slice ↑vb (os.length+1) iZ) (os++[e]):=by intro x hx;rcases awN.1 hx with rfl|hx;exact yO.2 (.inl rfl);exact yO.2 (.inr ⟨e,aj,aG.1 hx⟩)
 obtain⟨e',he'⟩:∃e',e'=M.mk e.kind e.s e.n ↑g cap1 (e.kids++[m]) e.pos:=⟨_,rfl⟩
 have hf':foot e'.kv=[g]:=by rw[he'];rfl
 have hnew:∀x∈blk (.slice ↑vb (os.length+1) iZ) (os++[e']),x∈blk (.slice ↑vb (os.length+1) iZ) (os++[e])∨w.heap.size<=x:=by intro x hx;rw[sQ,hf']at hx;rw[sQ];rcases awV.1 hx with hx|hx;exact .inl (awZ _ hx);simp at hx;subst hx;rcases P.from_ with h1|h1;exact .inl (axo _ h1);have:=hE.size;exact .inr ae
 have hnd:=h.nd;rw[sQ]at hnd;have Jz:=ax4.1 hnd;have hlies:∀m',Lies base (blk (.slice ↑vb (os.length+1) iZ) (os++[e])) w m'->Lies base (blk (.slice ↑vb (os.length+1) iZ) (os++[e'])) W m':=λm' hm'=>
  hm'.move (hB.wide λx hx=>.inl (hK x hx)) (λx hx=>(hnew x hx).imp id .inr)
 refine⟨e',?_,⟨?_,?_,?_,?_⟩,hB.wide λx hx=>.inl (hK x hx),hnew⟩;rw[he',M.qR,T.add,M.qR e];simp[M.kind,M.s,M.n,M.kids,M.pos,T.kind,T.s,T.n,T.kids,T.pos];refine⟨by rw[lK],.inr ⟨vb,iZ,_,aj,hvb,kv,by simpa using hvn,hvm,by simpa using hvs,?_⟩⟩;have hl:(os++[e']).length=os.length+1:=aj;rw[hl,uI hvt,qf,pI];have:=YQ (lg os) (os.length*5) (lK os) ↑e.kind ↑e.s ↑e.n e.kv ↑e.pos (.slice ↑g (e.kids.length+1) cap1);refine Eq.trans this ?_;rw[he'];simp[mc,M.kind,M.s,M.n,M.kv,M.A,M.kids,M.cap,M.pos];intro e0 he0;rcases awV.1 he0 with h1|h1;refine XE (h.kid e0 (awZ _ h1)) hB λg0 hg0 hm0=>?_;rcases awN.1 hm0 with rfl|h2;have:=(ax4.1 Jz.1).2.2 _ (aG.2 rfl) _ (axV.2 ⟨e0,h1,aG.2 hg0⟩);exact this rfl;exact Jz.2.2 _ (yO.2 (.inr ⟨e0,h1,hg0⟩)) _ h2 rfl;simp at h1;subst h1;have hl:e0.kids.length=e.kids.length+1:=by rw[he'];simp[M.kids]
 have hkv:e0.kv=.slice ↑g (e.kids.length+1) cap1:=by rw[he'];simp[M.kv,M.A,M.kids,M.cap]
 refine⟨by rw[lK],.inr ⟨g,cap1,_,by rw[hkv,hl],P.ajE,kg,by rw[hl];exact P.fit.1,P.fit.2,by simpa using hg2,?_⟩⟩;rw[hl,uI (uI (uI (uI (uI hg3))))];have:=aa7 (lg e.kids) (e.kids.length*5) (lK e.kids) (.int .i64 0) (.string ⟨#[]⟩) (.int .i64 0) ↑() (.int .i64 0) ↑m.kind ↑m.s ↑m.n m.kv ↑m.pos;refine Eq.trans this ?_;rw[he'];simp[M.kids,qf,pI,mc];rw[sQ,hf',ax4];refine⟨Jz.1,aj,λa ha b hb hab=>?_⟩;simp at hb;subst hb hab;rcases P.from_ with h1|h1;exact Jz.2.2 _ ha _ h1 rfl;have h2:=(h.range (g:=a) (by rw[sQ];exact awZ _ ha)).2;have:=hE.size;omega;intro e0 he0 m' hm';rcases awV.1 he0 with h1|h1;exact hlies m' (h.lies e0 (awZ _ h1) m' hm');simp at h1;rw[h1,he']at hm';rcases awV.1 (show m'∈e.kids++[m] from hm') with h2|h2;exact hlies m' (h.lies e aj m' h2);simp at h2;rw[h2];exact hlies m hm
theorem aa9{base:Nat}{v:au}{os:List M}{e m:M}(w:ak)(h:Opn base w v (os++[e]))(hm:Lies base (blk v (os++[e])) w m)(hl:e.kids.length<=1000000):
  Calls ax 151 #[v,mv m] w λr w'=>r=.returned v/\∃e':M,e'.t=e.t.add m.t/\Opn base w' v (os++[e'])/\But (blk v (os++[e])) w w'/\(∀x∈blk v (os++[e']),x∈blk v (os++[e])∨w.heap.size<=x):=by
 have aV:Ev w (w.alloc (.cells (mc m).toArray 101)):=Ev.alloc _ _;obtain⟨w0,hw0⟩:∃w0,w0=w.alloc (.cells (mc m).toArray 101):=⟨_,rfl⟩
 rw[<-hw0]at aV;have hb:w0.heap[w.heap.size]?=some (.cells (mc m).toArray 101 (0,0)):=by rw[hw0];exact ayq _ _
 have h':=h.ev aV;obtain⟨vb,iZ,rfl,hle,hmx,hvb,_,hfr,hc⟩:=h'.at aj;obtain⟨_,hlt⟩:=h.range (g:=vb) (yO.2 (.inl rfl));have hbase:base<=w.heap.size:=ae;have asC:vb<w0.heap.size:=awU hlt aV.size;obtain⟨c0,c1,c2,c3,c4⟩:=hc os.length e aj;have hf3:=hfr (os.length*5+3);have hck:∀j u,(mc m)[j]?=some u->w0.cell? ⟨w.heap.size,j,none⟩=some u:=λj u hu=>by rw[ays hb];simpa using hu
 have b0:=hck 0 _ rfl;have b1:=hck 1 _ rfl;have b2:=hck 2 _ rfl;have b3:=hck 3 _ rfl;have b4:=hck 4 _ rfl;have hlw:w.heap.size<w0.heap.size:=by rw[hw0];simp
 have hq:(os++[e]).length=os.length+1:=aj;rw[hq]at hle h h' hm|-;have HH:=zq h';have HO:=zq (h'.kid e aj);generalize hq0:os.length=q at*;have HQ:=zq hq0;clear hc hck hb hfr h' hq hq0;unfold M.kv at c3 b3 HO;have YI:w.alloc (.cells ↑m 101)=w0:=hw0.symm;obtain⟨n,hn⟩:∃n,n=e.kids.length:=⟨_,rfl⟩
 have hkn:=(FY HO.out).le;have Vy:=(FY HO.out).max;rw[<-hn]at c3 hl hkn HO;have HN:=zq hn;clear hw0 hn;unfold mv M.kv;go_enter func151,ntmps151;go_wp2;have aN:Ev w0 (w0.drew.alloc (.cells ↑Zz.a 101)):=(Ev.drew w0).trans aB;have HZ:Hid (∀j u,(mc ja)[j]?=some u->(w0.drew.alloc (.cells ↑Zz.a 101)).cell? ⟨w0.heap.size,j,none⟩=some u):=zq λj u hu=>by rw[show w0.heap.size=w0.drew.heap.size from rfl,ays (ayq w0.drew _)];simpa[mc,ja,M.kind,M.s,M.n,M.kv,M.A,M.kids,M.cap,M.pos] using hu
 clear YI;have i1:(n:Int)<(n:Int)+1:=ae
 go_region_law (refine Nc rfl (.tmp 14) (.tmp 17) rfl underlying99 Tryz.infoTree base (.slice e.A n e.cap) n (lg e.kids) rfl (Py HO.out aN) w0.heap.size 1 rfl ja HZ.out hl (aw0 (aw0 hbase aV.size) aN.size) ?_;intro v1 w1 h1 h2 h3;obtain⟨g,cap1,rfl,k1,k2,k3,HP,⟨x0,d0⟩,⟨x1,d1⟩,⟨x2,d2⟩,⟨x3,d3⟩,⟨x4,d4⟩,⟨x5,d5⟩,hfg,hfv⟩:=aen HH.out HQ.out HN.out aN h1 h2 h3;have k4:vb≠g:=λh=>k3 h.symm;have fz0:=hfg (n*5);have fz1:=hfg (n*5+1);have fz2:=hfg (n*5+2);have fz3:=hfg (n*5+3);have fz4:=hfg (n*5+4);have fz5:=hfv (q*5+3);clear h1 h2 h3 hfg hfv)
 all_goals (go_wp2;go_ret;rw[YR];refine⟨rfl,aeo HP HQ.out HN.out aV hlt hm h ?_⟩;first|(refine .inl ?_;with_reducible rfl)|(refine .inr ?_;with_reducible rfl))
end Go.Proofs.YtpbfokkocaemlaaGreatDoor
