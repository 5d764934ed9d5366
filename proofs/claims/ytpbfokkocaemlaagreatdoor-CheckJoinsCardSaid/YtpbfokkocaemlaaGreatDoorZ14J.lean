import Derived.Test.YtpbfokkocaemlaaGreatDoorZ13J
set_option linter.unusedVariables false
set_option maxRecDepth 100000
set_option maxHeartbeats 64000000
namespace Go.Proofs.YtpbfokkocaemlaaGreatDoor
open Go.RowKit
open Go.Lib renaming hid → zq
open Go renaming World → ak
open Go renaming Value → au
open Go.Proofs.Tryz renaming prog → ax
variable {U:Prop}
open Go.Proofs.Tryz
theorem Ik{P:Program}{w:ak}{ops:Array Oper}{rest:List Oper}{o:Oper}{a:Act}{Q:Exit->Act->ak->Prop}(hgd:o.guard=none)(s x:Operand)
  (hop:o.op=.call {callee:=.builtin .append,args:=#[s,x],argTypes:=#[99,99]})
  (ht:P.underlying 99=some (.slice 101)) (hi:(P.info? 101).map (λi=>(i.zero,i.size,i.bytes))=some (some (.agg ↑Zz.a),5,64))
  (base:Nat) (v:au) (n:Nat) (xs:List au) (hs:a.eval s=v) (hown:w.ownsRow base 101 5 v n xs) (b c:Nat) (hx:a.eval x=.slice ↑b 1 c) (m:M)
  (hm:∀j u,(mc m)[j]?=some u->w.cell? ⟨b,j,none⟩=some u) (hn:n<=1000000) (hbase:base<=w.heap.size)
  (h:∀v' w',w'.ownsRow base 101 5 v' (n+1) (xs++mc m)->w.grownBy w' v.ownBlock->(v'.ownBlock=v.ownBlock∨v'.ownBlock=some w.heap.size)->wpList P ops Q rest (a.put o.dst v') w'):wpList P ops Q (o::rest) a w:=by
 refine wpList_plain hgd λK hK=>?_;obtain⟨i,DK,hz,hsz,hby⟩:=info_parts hi;obtain⟨v',w',hr,h1,h2,_,h4⟩:=run_append_own_at (P:=P) w base 99 o.type 101 i _ 5 64 ht DK hz hsz hby rfl ai v n xs hown ⟨b,0,none⟩ 1 c (mc m) rfl (λj u hu=>by rw[Addr.add_lit,awL];exact hm j u hu)
  (λu hu=>Cm [m] u (by rw[oH];exact hu)) (by unfold maxLen;omega) ae hbase
 unfold Oper.wp execOp;simp only[hop,resolve,invoke,builtin,Sem.run_bind,Sem.run_pure,Result.andThen_ok,axl,awo,awG,hs,hx,hr];exact hK _ _ (h v' w' h1 h2 h4)
def nY(k:Int)(s:By)(n:Int)(p:Nat):M:=.mk k s n none 0 [] p
theorem Lies.tok(b0:Nat)(K:List Nat)(w:ak)(k:Int)(s:By)(n:Int)(p:Nat):Lies b0 K w (nY k s n p):=.mk (Sl.nil_ w) (λ_ h=>by cases h) (λ_ h=>by cases h)
theorem Opn.pop{base:Nat}{w:ak}{vb q iT:Nat}{os:List M}{e:M}(h:Opn base w (.slice ↑vb (q+1) iT) (os++[e]))(hq:os.length=q):
  Opn base w (.slice ↑vb q iT) os/\Lies base (blk (.slice ↑vb q iT) os) w e/\(∀x∈blk (.slice ↑vb q iT) os,x∈blk (.slice ↑vb (q+1) iT) (os++[e])):=by
 subst hq;have hnd:=h.nd;rw[rX]at hnd;have Js:=axH.1 hnd;have Yl:blk (.slice ↑vb os.length iT) os=blk (.slice ↑vb (os.length+1) iT) os:=rfl;have hsub:∀x∈blk (.slice ↑vb os.length iT) os,x∈blk (.slice ↑vb (os.length+1) iT) (os++[e]):=λx hx=>by rw[rX];exact awH _ hx
 have hlies:∀m,Lies base (blk (.slice ↑vb (os.length+1) iT) (os++[e])) w m->Lies base (blk (.slice ↑vb os.length iT) os) w m:=λm hm=>hm.less λx hx=>.inl (hsub x hx);refine⟨⟨?_,λe0 he0=>h.kid e0 (awH _ he0),by rw[Yl];exact Js.1,λe0 he0 m hm=>hlies m (h.lies e0 (awH _ he0) m hm)⟩,?_,hsub⟩;rcases h.own.2 with⟨hv,_⟩|⟨g',cap',cur,hv,hb,hh,zA,hcm,hcs,ht⟩
 cases hv
 injection hv with h1 h2 h3
 injection h1 with h1
 injection h1 with h1 _ _
 subst h1 h3;have hlen:(os++[e]).length=os.length+1:=aj;rw[hlen,pg]at ht;rw[hlen]at zA;refine⟨by rw[lC],.inr ⟨vb,iT,cur,rfl,hb,hh,ae,hcm,hcs,?_⟩⟩;have:=congrArg (List.take (os.length*5)) ht;rw[List.take_take,Nat.min_eq_left ae,List.take_left' (lC os)]at this;exact this;have hk:=h.kid e aj;obtain⟨k,s,n,A,c,l,p⟩:=e;refine .mk (Fh hk) (λad hA=>?_) λm hm=>hlies m (h.lies (.mk k s n A c l p) aj m hm);subst hA;have hown:(M.kv (.mk k s n (some ad) c l p)).ownBlock=some ad.block:=rfl;refine⟨(hk.lt _ hown).1,(hk.lt _ hown).2,λhm=>?_⟩;rw[Yl]at hm;exact Js.2.2 _ hm _ (aG.2 hown) rfl
theorem Au{α:Type}(l:List α)(h:l≠[]):∃l' a,l=l'++[a]:=⟨l.dropLast,l.getLast h,(List.dropLast_concat_getLast h).symm⟩
theorem RD{v v1:au}(h:v1.ownBlock=v.ownBlock):foot v1=foot v:=by unfold foot;rw[h]
theorem Opn.push{base:Nat}{w w2:ak}{v v1:au}{os:List M}{q:Nat}{k:Int}{s:By}{n:Int}{p:Nat}(h:Opn base w v os)(hq:q=os.length)(h1:w2.ownsRow base 101 5 v1 (q+1) (kS os++mc (nY k s n p)))(B:But (foot v) w w2)
  (h3:v1.ownBlock=v.ownBlock∨∃g,v1.ownBlock=some g/\w.heap.size<=g):Opn base w2 v1 (os++[nY k s n p])/\(∀x∈blk v1 (os++[nY k s n p]),x∈blk v os∨w.heap.size<=x):=by
 subst hq;have Js:=axH.1 (show (foot v++os.flatMap λe=>foot e.kv).Nodup from h.nd);have Yl:blk v1 (os++[nY k s n p])=foot v1++os.flatMap λe=>foot e.kv:=by rw[rX,show foot (nY k s n p).kv=[] from rfl,axE];rfl
 have hsub:∀x∈blk v1 (os++[nY k s n p]),x∈blk v os∨w.heap.size<=x:=λx hx=>by
  rw[Yl]at hx;rcases awD.1 hx with h4|h4;rcases h3 with h5|⟨g,h5,h6⟩
  rw[RD h5]at h4;exact .inl (awH _ h4);have:=aG.1 h4;rw[h5]at this;simp at this;exact .inr ae;exact .inl (aw4 _ h4)
 refine⟨⟨by rw[pg,oH,show (os++[nY k s n p]).length=os.length+1 by simp];exact h1,λe he=>?_,?_,λe he m hm=>?_⟩,hsub⟩;rcases awD.1 he with h4|h4;exact Xj (h.kid e h4) B λg hg hm=>Js.2.2 _ hm _ (axx.2 ⟨e,h4,aG.2 hg⟩) rfl;simp at h4;subst h4;exact World.ownsRow_nil _ _ _ _
 ·rw[Yl,axH];refine⟨?_,Js.2.1,λa ha b hb=>?_⟩
  ·unfold foot
   cases v1.ownBlock<;>simp
  rcases h3 with h5|⟨g,h5,h6⟩
  rw[RD h5]at ha;exact Js.2.2 a ha b hb;have h7:=aG.1 ha;rw[h5]at h7;simp at h7;have h8:=(h.range (g:=b) (aw4 _ hb)).2;omega
 rcases awD.1 he with h4|h4;exact(h.lies e h4 m hm).move (B.wide λx hx=>.inl (awH _ hx)) (λx hx=>(hsub x hx).imp id .inr);simp at h4;subst h4
 cases hm
def ac5(base:Nat)(v:au)(os:List M)(t:T)(w:ak)(r:Ending)(w':ak):Prop:=
 ∃v' os',r=.returned v'/\Opn base w' v' os'/\os'.map M.t=sxTake (os.map M.t) t/\os'≠[]/\But (blk v os) w w'/\(∀x∈blk v' os',x∈blk v os∨w.heap.size<=x)
theorem ac6{base:Nat}{v:au}{os:List M}(w:ak)(h:Opn base w v os)(h0:os≠[])(k:Int)(s:By)(n:Int)(p:Nat)(hk:k=-1->2<=os.length)(hl:os.length<=1000000)(pq:∀e∈os,e.kids.length<=1000000):
  Calls ax 110 #[v,mv (nY k s n p)] w (ac5 base v os (nY k s n p).t w):=by
 obtain⟨vb,iT,rfl,hle,hmx,hvb,hlt,_,_⟩:=h.at h0;obtain⟨w0,hw0⟩:∃w0,w0=w.alloc (.cells (mc (nY k s n p)).toArray 101):=⟨_,rfl⟩
 have aW:Ev w w0:=hw0▸Ev.alloc w _;have hb:w0.heap[w.heap.size]?=some (.cells (mc (nY k s n p)).toArray 101 (0,0)):=by rw[hw0];exact heap_alloc_new _ _
 have h':=h.ev aW;have hck:∀j u,(mc (nY k s n p))[j]?=some u->w0.cell? ⟨w.heap.size,j,none⟩=some u:=λj u hu=>by rw[Lib.cell_of_heap hb];simpa using hu
 have b0:w0.cell? ⟨w.heap.size,0,none⟩=some ↑k:=hck 0 _ rfl;have b1:w0.cell? ⟨w.heap.size,1,none⟩=some ↑s:=hck 1 _ rfl;have b2:w0.cell? ⟨w.heap.size,2,none⟩=some ↑n:=hck 2 _ rfl;have b3:w0.cell? ⟨w.heap.size,3,none⟩=some ↑():=hck 3 _ rfl;have b4:w0.cell? ⟨w.heap.size,4,none⟩=some ↑p:=hck 4 _ rfl;have Yb:w.alloc (.cells #[↑k,↑s,↑n,↑(),↑p] 101)=w0:=hw0.symm;have hmv:mv (nY k s n p)=.agg #[↑k,↑s,↑n,↑(),↑p]:=rfl;have hlw:w.heap.size<w0.heap.size:=by rw[hw0];simp
 have hT:(nY k s n p).t.kind=k:=by rw[M.xB];rfl
 clear hb hck hw0;rw[hmv];by_cases k1:k=1
 ·subst k1;have hTk:sxTake (os.map M.t) (nY 1 s n p).t=os.map M.t++[(nY 1 s n p).t]:=by unfold sxTake;rw[hT];rfl
  obtain⟨q,hq⟩:∃q,q=os.length:=⟨_,rfl⟩
  rw[<-hq]at h h' hle hl|-;have HH:=zq h';have HQ:=zq hq;have HTk:=zq hTk;have aK:Ev w0 (w0.alloc (.cells #[.int .i64 1,↑s,↑n,↑(),↑p] 101)):=Ev.alloc _ _;have HZ:Hid (∀j u,(mc (nY 1 s n p))[j]?=some u->(w0.alloc (.cells #[.int .i64 1,↑s,↑n,↑(),↑p] 101)).cell? ⟨w0.heap.size,j,none⟩=some u):=zq λj u hu=>by rw[Lib.cell_of_heap (heap_alloc_new w0 _)];simpa[mc,nY,M.kind,M.s,M.n,M.kv,M.A,M.kids,M.cap,M.pos] using hu
  have Og:base<=w0.heap.size:=by have:=h'.range (g:=vb) (yE.2 (.inl rfl));omega
  clear hq hTk hT h';go_enter func110,ntmps110
  go_wp2_with (first
   | ((show wpList _ _ _ (⟨some 19,_,_,_,_,_⟩::_) _ _);refine Ik (o:=⟨some 19,_,_,_,_,_⟩) rfl (.tmp 16) (.tmp 18) rfl underlying99 Tryz.infoTree base (.slice ↑vb q iT) q (kS os) rfl (by have:=(HH.out.ev aK).own;rwa [<-HQ.out]at this) w0.heap.size 1 rfl (nY 1 s n p) HZ.out hl (awJ Og aK.size) ?_;intro v1 w1 h1 h2 h3;obtain⟨A1,n1,cap1,rfl⟩:∃A1 n1 cap1,v1=.slice A1 n1 cap1:=(by rcases h1.2 with⟨rfl,_⟩|⟨g,cap,cur,rfl,_⟩<;>exact⟨_,_,_,rfl⟩)))
  go_ret;have hB:But (foot (.slice ↑vb q iT)) w w1:=((But.aV aW).then (But.aV aK)).then (But.grown h2 λg hg=>aG.2 hg);have hP:=Opn.push (k:=1) (s:=s) (n:=n) (p:=p) h HQ.out h1 hB (by
   rcases h3 with h4|h4;exact .inl h4;exact .inr ⟨_,h4,awJ aW.size aK.size⟩)
  exact⟨_,_,rfl,hP.1,by rw[HTk.out];simp,aj,hB.wide λx hx=>.inl (awH _ hx),hP.2⟩
 have k1':(k==1)=false:=awg.2 k1;by_cases k2:k=-1
 ·subst k2;obtain⟨os0,e,rfl⟩:=Au os h0;have h00:os0≠[]:=by intro h5;subst h5;have:=hk rfl;simp at this
  obtain⟨os1,e1,rfl⟩:=Au os0 h00;have hTk:sxTake ((os1++[e1]++[e]).map M.t) (nY (-1) s n p).t=os1.map M.t++[e1.t.add e.t]:=by unfold sxTake;rw[hT];simp only[awt,awo,awG,List.getLast?_append,List.getLast?_singleton,List.dropLast_concat];exact oG _ _ _
  have HTk:=zq hTk;obtain⟨q,hq⟩:∃q,(os1++[e1]).length=q:=⟨_,rfl⟩
  have rW:1<=q:=by rw[<-hq];simp
  have hlen:(os1++[e1]++[e]).length=q+1:=by rw[awl,hq];rfl
  rw[hlen]at h h' hle hl|-;obtain⟨hp1,hp2,hp3⟩:=h'.pop hq;obtain⟨_,_,ZJ,_,_,_,_,hfr,hc⟩:=h'.at aj;injection ZJ with MX hv2 hv3
  injection MX with MX
  injection MX with MX _ _
  subst MX hv3;clear hv2;obtain⟨c0,c1,c2,c3,c4⟩:=hc q e (by rw[<-hq];simp);have HP:=λw1 (hE:Ev w0 w1)=>aak w1 (hp1.ev hE) (hp2.ev hE) (pq e1 aj);unfold mv at HP;have HP:=zq HP;have arq:vb<w0.heap.size:=awz hlt aW.size;have i1:(0:Int)<=(q:Int):=ae;have i2:(q:Int)<(q:Int)+1:=ae;have i3:(q:Int)<=(iT:Int):=ae;have i4:q<=iT:=ae;have i5:¬(iT<q):=ae;have HS3:=zq hp3;have hBk:Hid (∀w3,But (blk (.slice ↑vb q iT) (os1++[e1])) w0.drew w3->But (blk (.slice ↑vb (q+1) iT) (os1++[e1]++[e])) w w3):=zq λw3 hb'=>(But.aV (aW.trans (Ev.drew w0))).then (hb'.wide λx hx=>.inl (hp3 x hx));clear hTk hT h' hp1 hp2 hc hfr hq pq hk hlen hp3;go_enter func110,ntmps110
  go_wp2_with fail
  go_region_with (first|((with_reducible refine(HP.out _ (Ev.drew _)).mono ?_);rintro r w3 ⟨rfl,e',he',Rn,hb',hs'⟩))
  all_goals (go_wp2;go_ret;exact⟨_,_,rfl,Rn,by rw[HTk.out];simp[he'],aj,hBk.out _ hb',λx hx=>(hs' x hx).imp (HS3.out x) (λh5=>awJ aW.size h5)⟩)
 have k2':(k==-1)=false:=awg.2 k2;obtain⟨os1,e1,rfl⟩:=Au os h0;have hTk:sxTake ((os1++[e1]).map M.t) (nY k s n p).t=os1.map M.t++[e1.t.add (nY k s n p).t]:=by unfold sxTake;rw[hT];simp only[k1',k2',awt,awo,awG,awv,if_false];exact oG _ _ _
 have HTk:=zq hTk;have HP:=λw1 (hE:Ev w0 w1)=>aak w1 (h'.ev hE) (Lies.tok _ _ w1 k s n p) (pq e1 aj);rw[hmv]at HP;have HP:=zq HP;obtain⟨q,hq⟩:∃q,(os1++[e1]).length=q:=⟨_,rfl⟩
 rw[hq]at hle HP h|-;have rW:1<=q:=by rw[<-hq];simp
 clear hTk hT h' hq pq hk;go_enter func110,ntmps110
 go_wp2_with (first|((with_reducible refine(HP.out _ aJ).mono ?_);rintro r w3 ⟨rfl,e',he',Rn,hb',hs'⟩))
 go_ret;exact⟨_,_,rfl,Rn,by rw[HTk.out];simp[he'],aj,(But.aV aW).then hb',λx hx=>(hs' x hx).imp id (λh5=>awJ aW.size h5)⟩
theorem azI(h:U:=by refine⟨λhw=>⟨(h1 hw).1,by have:=(h1 hw).2;simp only[awr];omega⟩,λhw=>⟨(h2 hw).1,by have:=(h2 hw).2;omega,by have:=(h2 hw).2;simp only[awr];omega⟩⟩):U:=h
theorem lD:∀(N:Nat) (r b:By) (i:Nat),r.length<=N->((sxTextGo b r i).why≠0->(sxTextGo b r i).kind=0/\((sxTextGo b r i).fault<=i+r.length))/\((sxTextGo b r i).why=0->(sxTextGo b r i).kind=4/\i+1<=(sxTextGo b r i).size/\(sxTextGo b r i).size<=i+r.length)
 | 0,[],b,i,_=>by simp[sxTextGo,aX]
 | N+1,[],b,i,_=>by simp[sxTextGo,aX]
 | 0,c::q,b,i,h=>by simp at h
 | N+1,c::q,b,i,h=>by
  have hq:q.length<=N:=by simpa using h
  unfold sxTextGo;by_cases hp:bY c=true;rw[if_pos hp];obtain⟨h1,h2⟩:=lD N q (b++[c]) (i+1) hq;exact azI;rw[if_neg hp];by_cases UC:(c.toNat==92)=true;rw[if_pos UC]
  cases q with
  | nil=>simp[aX]
  | cons x q1=>
   simp only[]
   cases hx:iq x with
   | none=>
    simp[aX]
   | some a=>
    cases q1 with
    | nil=>simp[aX]
    | cons y q2=>
     simp only[]
     cases hy:iq y with
     | none=>
      simp[aX]
     | some k=>
      simp only[];obtain⟨h1,h2⟩:=lD N q2 (b++[UInt8.ofNat (16*a+k)]) (i+3) (by simp at hq;omega);exact azI
  rw[if_neg UC];by_cases Jr:(c.toNat==34)=true;rw[if_pos Jr];by_cases Ii:40<b.length;rw[if_pos Ii];simp[aX];rw[if_neg Ii];simp;rw[if_neg Jr];simp[aX]
theorem lg(plus:Bool)(d:By)(hd:∀c∈d,aY c=true):((sxNum plus d).why≠0->(sxNum plus d).kind=0/\(sxNum plus d).fault=0)/\
  ((sxNum plus d).why=0->(sxNum plus d).kind=3/\1<=d.length/\(sxNum plus d).size=(if plus then d.length else 1+d.length)/\(if plus then 0<=(sxNum plus d).n else (sxNum plus d).n<=0)):=by
 unfold sxNum
 cases hb:sxBelow d 0 with
 | none=>simp[aX]
 | some n=>
  have hr:=rG d hd 0 n ae ae hb;simp only[];by_cases h1:(d.isEmpty||plus&&decide (n=-9223372036854775808))=true;rw[if_pos h1];simp[aX];rw[if_neg h1];have hne:d.isEmpty=false:=by
   cases hd':d.isEmpty
   rfl;rw[hd']at h1;simp at h1
  have hlen:1<=d.length:=by
   cases d with
   | nil=>simp at hne
   | cons c q=>simp
  cases plus
  simp[hlen];omega;simp[hlen];omega
structure Vd(c:UInt8)(r:By)(x:Tk):Prop where
 bad:x.why≠0->x.kind=0/\x.fault<=r.length
 good:x.why=0->1<=x.size/\x.size<=r.length/\
  ((x.kind=1/\c.toNat=40)∨x.kind=-1∨(x.kind=2/\97<=c.toNat/\c.toNat<=122/\∃q,x.s=c::q)∨(x.kind=3/\(c.toNat=45/\x.n<=0∨48<=c.toNat/\c.toNat<=57/\0<=x.n))∨(x.kind=4/\c.toNat=34))
theorem xP(c:UInt8)(q:By):Vd c (c::q) (bK (c::q)):=by
 simp only[bK];by_cases Ii:(c.toNat==40)=true;rw[if_pos Ii];have alS:c.toNat=40:=by simpa using Ii
 exact⟨λh=>absurd rfl h,λ_=>⟨awj _,aj,.inl ⟨rfl,alS⟩⟩⟩;rw[if_neg Ii];by_cases h41:(c.toNat==41)=true;rw[if_pos h41];exact⟨λh=>absurd rfl h,λ_=>⟨awj _,aj,.inr (.inl rfl)⟩⟩;rw[if_neg h41];by_cases Jr:(c.toNat==34)=true;rw[if_pos Jr];have alT:c.toNat=34:=by simpa using Jr
 obtain⟨h1,h2⟩:=lD q.length q [] 1 (awj _);exact⟨λh=>⟨(h1 h).1,by have:=(h1 h).2;simp;omega⟩,λh=>⟨by have:=(h2 h).2;omega,by have:=(h2 h).2;simp;omega,.inr (.inr (.inr (.inr ⟨(h2 h).1,alT⟩)))⟩⟩;rw[if_neg Jr];by_cases hn:(c.toNat==45||aY c)=true;rw[if_pos hn];simp only[dO];by_cases h45:(c.toNat==45)=true;rw[if_pos h45];have alU:c.toNat=45:=by simpa using h45
 obtain⟨h1,h2⟩:=lg false (dJ q) (fC q);have hl:=uj q;have hr:=jQ aY q;refine⟨λh=>⟨(h1 h).1,by rw[(h1 h).2];exact aww _⟩,λh=>?_⟩;obtain⟨g1,g2,g3,g4⟩:=h2 h;simp at g3 g4;refine⟨ae,by simp;omega,.inr (.inr (.inr (.inl ⟨g1,.inl ⟨alU,g4⟩⟩)))⟩;rw[if_neg h45];have MZ:aY c=true:=by simpa[h45] using hn
 have ah7:48<=c.toNat/\c.toNat<=57:=by simpa[aY] using MZ
 obtain⟨h1,h2⟩:=lg true (dJ (c::q)) (fC (c::q));have hl:=uj (c::q);have hr:=jQ aY (c::q);refine⟨λh=>⟨(h1 h).1,by rw[(h1 h).2];exact aww _⟩,λh=>?_⟩;obtain⟨g1,g2,g3,g4⟩:=h2 h;simp at g3 g4;refine⟨ae,ae,.inr (.inr (.inr (.inl ⟨g1,.inr ⟨ah7.1,ah7.2,g4⟩⟩)))⟩;rw[if_neg hn];by_cases hl:bn c=true;rw[if_pos hl];have hr:=jQ bn (c::q);have hr1:sxRun bn (c::q)=sxRun bn q+1:=by simp[sxRun,hl]
 have hl':97<=c.toNat/\c.toNat<=122:=by simpa[bn] using hl
 refine⟨λh=>absurd rfl h,λ_=>⟨by simp only[];omega,hr,.inr (.inr (.inl ⟨rfl,hl'.1,hl'.2,q.take (sxRun bn q),?_⟩))⟩⟩;simp only[];rw[hr1,axg];rw[if_neg hl];exact⟨λ_=>⟨rfl,aww _⟩,λh=>by simp[aX]at h⟩
theorem Jt{os:List T}{c:UInt8}{r:By}{x:Tk}(h:Vd c r x)(hj:(iO os x).1=0):x.why=0/\(x.kind=-1->os.length≠1)/\(x.kind≠-1->sxDone os=false)/\(x.kind=1->os.length<=12):=by
 unfold iO at hj;by_cases h1:(!(x.why==0)&&!(sxDone os&&decide (0<x.fault)))=true;rw[if_pos h1]at hj;simp only at hj;rw[hj]at h1;simp at h1;rw[if_neg h1]at hj;by_cases h2:(x.kind==-1&&os.length==1)=true;rw[if_pos h2]at hj;cases hj;rw[if_neg h2]at hj;by_cases h3:(!(x.kind==-1)&&sxDone os)=true;rw[if_pos h3]at hj;cases hj;rw[if_neg h3]at hj;by_cases h4:(x.kind==1&&decide (12<os.length))=true;rw[if_pos h4]at hj;cases hj;have hw:x.why=0:=by
  apply Classical.byContradiction;intro hw;have hk:=(h.bad hw).1;rw[hk]at h3;have hw':(x.why==0)=false:=awg.2 hw;rw[hw']at h1
  cases hD:sxDone os
  rw[hD]at h1;simp at h1;rw[hD]at h3;simp at h3
 refine⟨hw,λhk hl=>h2 (by rw[hk,hl];rfl),λhk=>?_,λhk=>?_⟩
 cases hD:sxDone os
 rfl;exact absurd (by rw[hD,awg.2 hk];rfl) h3;apply Classical.byContradiction;intro hl;exact h4 (by rw[hk,awO ae];rfl)
theorem Na{os:List T}{c:UInt8}{r:By}{x:Tk}(h:Vd c r x)(hj:(iO os x).1≠0):(iO os x).2<=r.length:=by unfold iO at hj|-;by_cases h1:(!(x.why==0)&&!(sxDone os&&decide (0<x.fault)))=true;rw[if_pos h1]at hj|-;exact(h.bad hj).2;rw[if_neg h1];split;exact aww _;split;exact aww _;split<;>exact aww _
theorem uI:∀(os:List T) (t:T),(sxPut os t).length=os.length
 | [],t=>rfl
 | [e],t=>rfl
 | e::e'::os,t=>by have:=uI (e'::os) t;unfold sxPut;simp only[awr]at this|-;omega
theorem T.RF(e t:T):(e.add t).kids=e.kids++[t]:=rfl
theorem CB:∀(os:List T) (t:T) (i:Nat),(∀e∈os,e.kids.length<=i)->∀e∈sxPut os t,e.kids.length<=i+1
 | [],t,i,h=>λe he=>by cases he
 | [a],t,i,h=>λe he=>by simp[sxPut]at he;subst he;rw[T.RF];have:=h a aj;simp;omega
 | a::b::os,t,i,h=>λe he=>by unfold sxPut at he;rcases awq.1 he with rfl|he;have:=h e aj;omega;exact CB (b::os) t i (λx hx=>h x (awn _ hx)) e he
theorem Ve(os:List T)(t:T):(sxTake os t).length<=os.length+1:=by
 unfold sxTake;split;simp;split;cases h:os.getLast? with
 | none=>simp
 | some e=>simp only[uI,List.length_dropLast];omega
 rw[uI];omega
theorem RH(os:List T)(t:T)(i:Nat)(h:∀e∈os,e.kids.length<=i)(ht:t.kids=[]):∀e∈sxTake os t,e.kids.length<=i+1:=by
 unfold sxTake;split;intro e he;rcases awD.1 he with h1|h1;have:=h e h1;omega;simp at h1;subst h1;rw[ht];simp;split
 cases hl:os.getLast? with
 | none=>exact λe he=>by have:=h e he;omega
 | some e0=>
  exact CB _ _ i (λx hx=>h x (List.dropLast_subset _ hx))
 exact CB _ _ i h
structure y7(g:Nat)(w:ak):Prop where
 blk:w.heap[g]?=some (.cells (Ry 0 0 0 ⟨#[]⟩ ↑()) 101 (0,0))
theorem y7.but{K:List Nat}{g:Nat}{w w':ak}(h:y7 g w)(hb:But K w w')(hn:g∉K):y7 g w':=⟨hb.heap h.blk hn⟩
theorem y7.ev{g:Nat}{w w':ak}(h:y7 g w)(hE:Ev w w'):y7 g w':=h.but (But.aV (K:=[]) hE) aj
theorem y7.cs{g:Nat}{w:ak}(h:y7 g w):w.cell? ⟨g,0,none⟩=some (.int .i64 0)/\w.cell? ⟨g,1,none⟩=some (.string ⟨#[]⟩)/\w.cell? ⟨g,2,none⟩=some (.int .i64 0)/\w.cell? ⟨g,3,none⟩=some ↑()/\w.cell? ⟨g,4,none⟩=some (.int .i64 0)/\
  w.frozen? ⟨g,0,none⟩=false/\w.frozen? ⟨g,1,none⟩=false/\w.frozen? ⟨g,2,none⟩=false/\w.frozen? ⟨g,3,none⟩=false/\w.frozen? ⟨g,4,none⟩=false:=by
 refine⟨?_,?_,?_,?_,?_,Lib.frozen_of_heap h.blk 0,Lib.frozen_of_heap h.blk 1,Lib.frozen_of_heap h.blk 2,Lib.frozen_of_heap h.blk 3,Lib.frozen_of_heap h.blk 4⟩<;>(rw[Lib.cell_of_heap h.blk];rfl)
def RI(g:Nat)(k n p:Int)(s:ByteArray)(v:au)(w:ak):ak:=
 ((((w.setCell ⟨g,0,none⟩ ↑k).setCell ⟨g,1,none⟩ (.string s)).setCell ⟨g,2,none⟩ ↑n).setCell ⟨g,3,none⟩ v).setCell ⟨g,4,none⟩ ↑p
theorem Ju(g:Nat)(k n p:Int)(s:ByteArray)(v:au)(w:ak):
 ((((w.setCell ⟨g,0,none⟩ ↑k).setCell ⟨g,1,none⟩ (.string s)).setCell ⟨g,2,none⟩ ↑n).setCell ⟨g,3,none⟩ v).setCell ⟨g,4,none⟩ ↑p=RI g k n p s v w:=rfl
theorem Fj(g:Nat)(k n p:Int)(s:ByteArray)(v:au)(w:ak):But [g] w (RI g k n p s v w):=
 ((((But.setCell ⟨g,0,none⟩ _ aj).then (But.setCell ⟨g,1,none⟩ _ aj)).then (But.setCell ⟨g,2,none⟩ _ aj)).then (But.setCell ⟨g,3,none⟩ _ aj)).then (But.setCell ⟨g,4,none⟩ _ aj)
theorem y7.set{g:Nat}{w:ak}(h:y7 g w)(k n p:Int)(s:ByteArray)(v:au):(RI g k n p s v w).heap[g]?=some (.cells (Ry k n p s v) 101 (0,0)):=by have:=fQ 4 ↑p (fQ 3 v (fQ 2 ↑n (fQ 1 (.string s) (fQ 0 ↑k h.blk))));rwa [show (((((Ry 0 0 0 ⟨#[]⟩ ↑()).setIfInBounds 0 ↑k).setIfInBounds 1 (.string s)).setIfInBounds 2 ↑n).setIfInBounds 3 v).setIfInBounds 4 ↑p=Ry k n p s v by simp[Ry]]at this
theorem Xk{w1:ak}{g:Nat}{fn:Func}{p u1 u2:Tmp}(tmps:Array au)(h:y7 g w1)(k n q:Int)(s:ByteArray)(v:au)(hf:fn.results=#[.cell p 101,.tmp u1,.tmp u2])(hp:tmps.getD p undef=.pointer ↑g):
  (results fn tmps).run ax (RI g k n q s v w1)=.ok (.tuple #[.agg (Ry k n q s v),tmps.getD u1 undef,tmps.getD u2 undef]) (RI g k n q s v w1):=
 Ar hf tmps _ g k n q s v hp (h.set k n q s v)
structure Pq(w0:ak)(v:au)(os:List M)(i:Nat)(w:ak):Prop where
 opn:Opn (w0.heap.size+1) w v os
 ev:Ev w0 w
 box:y7 w0.heap.size w
 some_:os≠[]
 few:os.length<=i+1
 kids:∀e∈os,e.kids.length<=i
theorem Pq.evs{w0 w w':ak}{v:au}{os:List M}{i:Nat}(h:Pq w0 v os i w)(hE:Ev w w'):Pq w0 v os i w':=
 ⟨h.opn.ev hE,h.ev.trans hE,h.box.ev hE,h.some_,h.few,h.kids⟩
theorem Pq.high{w0 w:ak}{v:au}{os:List M}{i:Nat}(h:Pq w0 v os i w):∀x∈blk v os,w0.heap.size<x:=λx hx=>by have:=(h.opn.range hx).1;omega
theorem Pq.next{w0 w w':ak}{v v':au}{os os':List M}{i i':Nat}{t:T}(h:Pq w0 v os i w)(ho:Opn (w0.heap.size+1) w' v' os')(hm:os'.map M.t=sxTake (os.map M.t) t)(ht:t.kids=[])(hn:os'≠[])(hb:But (blk v os) w w')(hi:i<i'):Pq w0 v' os' i' w':=by
 refine⟨ho,((But.aV (K:=blk v os) h.ev).then hb).ev λk hk=>by have:=h.high k hk;omega,h.box.but hb λhk=>by have:=h.high _ hk;omega,hn,?_,λe he=>?_⟩;have h1:=Ve (os.map M.t) t;rw[<-hm,awh,awh]at h1;have:=h.few;omega;have h1:=RH (os.map M.t) t i (λe he=>by
  obtain⟨m,hm',rfl⟩:=awN.1 he;rw[M.aZ,awh];exact h.kids m hm') ht e.t (by rw[<-hm];exact awN.2 ⟨e,he,rfl⟩)
 rw[M.aZ,awh]at h1;omega
theorem Ym{K:List Nat}{w4 w6:ak}{gx:Nat}{j v:au}(hb:But K (w4.setCell ⟨gx,4,none⟩ j) w6)(hx:gx∉K)(hlt:gx<w4.heap.size)(c:w4.cell? ⟨gx,5,none⟩=some v):w6.cell? ⟨gx,5,none⟩=some v:=by rw[World.cell?_of_block (w:=w4.setCell ⟨gx,4,none⟩ j) (hb.block gx (by simpa[World.setCell] using hlt) hx)];have h2:(w4.setCell ⟨gx,4,none⟩ j).cell? ⟨gx,5,none⟩=w4.cell? ⟨gx,5,none⟩:=World.cell?_setCell_other _ _ _ _ aj;exact h2.trans c
theorem Opn.init(w:ak):Opn (w.heap.size+1) ((w.alloc (.cells ↑Zz.a 101)).alloc (.cells ↑Zz.a 101)) (.slice (some ⟨w.heap.size+1,0,none⟩) 1 1) [iU]:=by
 refine⟨⟨rfl,.inr ⟨w.heap.size+1,1,_,rfl,awj _,heap_alloc2_new w _ _,awj _,ai,rfl,rfl⟩⟩,λe he=>?_,?_,λe he m hm=>?_⟩;simp at he;subst he;exact World.ownsRow_nil _ _ _ _;simp[blk,foot,Value.ownBlock,iU,M.kv,M.A];simp at he;subst he
 cases hm
def rJ(R:Res)(w:ak)(e:Ending)(w':ak):Prop:=
 ∃m:M,e=.returned (.tuple #[.agg ↑m,.int .i64 R.2.1,.int .i64 (R.2.2:Int)])/\m.t=R.1/\Lies w.heap.size [] w' m/\Ev w w'
theorem IU(s0:ByteArray)(w:ak)(hs:s0.size<=100000):
  Calls ax 57 #[.string s0] w (rJ (fA s0.data.toList) w):=by
 have jG:s0.data.toList.length=s0.size:=by rw[awK];rfl
 have HL:=zq jG;obtain⟨R,hR⟩:∃R,R=fA s0.data.toList:=⟨_,rfl⟩
 rw[<-hR];unfold fA at hR;rw[jG]at hR;have HR:=zq hR;clear hR jG;go_enter func57,ntmps57;go_wp2;refine BB 0 60 (λs w2=>s 0=.string s0/\s 2=.pointer ↑w.heap.size/\∃(v:au) (os:List M) (i f:Nat),s 5=v/\s 6=↑i/\i<=s0.size/\s0.size - i<f/\Pq w v os i w2/\Hid (R=sxGo f (os.map M.t) (s0.data.toList.drop i) i)) (λs _=>s0.size - (intOf (s 6)).toNat) rfl ?_ ?_
 ·rintro s w2 ⟨h0,h2,v,os,i,f,h5,h6,hi,hf,ST,HT⟩;change Code.wp _ _ _ ⟨#[s 0,s 1,s 2,s 3,s 4,s 5,s 6,s 7,s 8,s 9,s 10,s 11,s 12,s 13,s 14,s 15,s 16,s 17,s 18,s 19,s 20,s 21,s 22,s 23,s 24,s 25,s 26,s 27,s 28,s 29,s 30,s 31,s 32,s 33,s 34,s 35,s 36,s 37,s 38,s 39,s 40,s 41,s 42,s 43,s 44,s 45,s 46,s 47,s 48,s 49,s 50,s 51,s 52,s 53,s 54,s 55,s 56,s 57,s 58,s 59],[]⟩ _;simp only[h0,h2,h5,h6];clear h0 h2 h5;obtain⟨f,rfl⟩:∃f',f=f'+1:=⟨f - 1,ae⟩
  obtain⟨r,hr⟩:∃r:ByteArray,r=s0.extract i s0.size:=⟨_,rfl⟩
  have hx:s0.extract i s0.size=r:=hr.symm;have hrl:r.data.toList=s0.data.toList.drop i:=by rw[hr,Lib.extract_eq,awC (by rw[awQ,HL.out];exact awj _)]
  have hrz:r.size=s0.size - i:=by
   have:r.data.toList.length=r.size:=by rw[awK];rfl
   rw[<-this,hrl,awQ,HL.out]
  have HB:=zq (λw1=>Jm r w1 ae);rw[hrl]at HB;have afA:=jQ dE (s0.data.toList.drop i);rw[awQ,HL.out]at afA;have HGO:=HT.out;unfold sxGo at HGO;rw[List.drop_drop]at HGO;generalize hp:sxRun dE (s0.data.toList.drop i)=p at*;have HG:=zq HGO;clear hr hrl hp HT HGO hrz;go_upto_region 6 with (first
   | ((with_reducible refine(HB.out _).mono ?_);rintro e w3 ⟨rfl,rfl⟩))
  have e1:(i:Int)+(p:Int)=((i+p:Nat):Int):=ae;simp only[e1];have hj:i+p<=s0.size:=ae;have Ci:i<=i+p:=ae;generalize i+p=j at*;clear HB e1 hx;by_cases hjz:j=s0.size
  ·have tY:Hid (R=kN (os.map M.t) s0.size):=zq (by
    rw[HG.out,aw2 (by rw[HL.out];omega),hjz])
   have e2:(j:Int)=(s0.size:Int):=ae;have HW:=λw1 (h1:Opn (w.heap.size+1) w1 v os)=>aaf w1 h1 ST.some_ s0.size;unfold mv M.kv at HW;have HW:=zq HW;clear HG hjz
   go_wp2_with (first
    | ((with_reducible refine(HW.out _ ST.opn).mono ?_);rintro e w3 ⟨m,rfl,EP,hml,iI⟩;have B4:=(ST.evs iI).box;have E4:=(ST.evs iI).ev;obtain⟨c0,c1,c2,c3,c4,f0,f1,f2,f3,f4⟩:=B4.cs))
   simp only[Exit.jump];rw[Ju];refine bodyPost_ret (Xk _ B4 _ _ _ _ _ rfl rfl) rfl ?_;refine⟨m,?_,by rw[tY.out];exact EP,?_,E4.nX (Fj _ _ _ _ _ _ _) (awj _)⟩;rw[tY.out];rfl;exact((hml.less (K':=[w.heap.size]) (λx hx=>by simp at hx;exact .inr (.inl ae))).move (Fj _ _ _ _ _ _ _) (K':=[]) (λx hx=>by cases hx)).low (awX _)
  have hlt:j<s0.size:=ae;have hat:=rU s0 j hlt;obtain⟨c,hc⟩:∃c,s0[j]=c:=⟨_,rfl⟩
  rw[hc]at hat;have hdr:=DN _ _ _ hat;obtain⟨q,hq⟩:∃q,q=s0.data.toList.drop (j+1):=⟨_,rfl⟩
  rw[<-hq]at hdr;have mO:(c::q).length=s0.size - j:=by rw[<-hdr,awQ,HL.out]
  have uU:=HG.out;rw[hdr]at uU;simp only[]at uU;have CE:=xP c q;have hjo:=λh=>Jt (os:=os.map M.t) CE h;have hjf:=λh=>Na (os:=os.map M.t) CE h;rw[awh]at hjo;have e2:¬((j:Int)=(s0.size:Int)):=ae;have e2':((j:Int)==(s0.size:Int))=false:=awg.2 e2;obtain⟨y,hy⟩:∃y:ByteArray,y=s0.extract j s0.size:=⟨_,rfl⟩
  have hxy:s0.extract j s0.size=y:=hy.symm;have zh:y.data.toList=c::q:=by rw[hy,Lib.extract_eq,awC (by rw[awQ,HL.out];exact awj _),hdr]
  have hyz:y.size=s0.size - j:=by
   have:y.data.toList.length=y.size:=by rw[awK];rfl
   rw[<-this,zh,mO]
  have HS:=λw1=>ac0 y w1 ae ae;rw[zh]at HS;have HJ:=λw1 (h1:Opn (w.heap.size+1) w1 v os)=>aag w1 h1 ST.some_ (bK (c::q));generalize hX:bK (c::q)=X at*;generalize hJ:iO (os.map M.t) X=J at*;obtain⟨k,xs,n,z,yy,ff⟩:=X;obtain⟨jw,jf⟩:=J;simp only[ZH,Xh]at HS HJ uU hjo hjf;have HS:=zq HS;have HJ:=zq (λw1 (hE:Ev w2 w1)=>HJ w1 (ST.opn.ev hE));have yu:=zq uU;have HQ:=zq hq;have Bc:=zq mO;have HDR:=zq hdr;have afH:=CE.good;simp only at afH;have HOK:=zq afH;have HJO:=zq hjo;have HJF:=zq hjf;clear hc hat hdr hq mO HG uU CE hjo hjf hy zh hJ hX afH;by_cases hw:jw=0
  ·subst hw;obtain⟨hyy,hk2,_,_⟩:=HJO.out rfl;subst hyy;obtain⟨hz1,hz2,_⟩:=HOK.out rfl;rw[Bc.out]at hz2;have tY:Hid (R=sxGo f (sxTake (os.map M.t) (nY k xs n j).t) (s0.data.toList.drop (j+z)) (j+z)):=zq (by
    rw[yu.out];simp only[awZ,if_true];rw[<-HDR.out,List.drop_drop];rfl)
   have HT:=λw1 (hE:Ev w2 w1)=>ac6 w1 (ST.opn.ev hE) ST.some_ k xs n j (λh=>by
    have:=hk2 h;have h0:=ST.some_
    cases hos:os with
    | nil=>exact absurd hos h0
    | cons a l=>
     cases l with
     | nil=>rw[hos]at this;exact absurd rfl this
     | cons b l=>simp) (by have:=ST.few;omega) (λe he=>by have:=ST.kids e he;omega)
   rw[show mv (nY k xs n j)=.agg #[↑k,↑xs,↑n,↑(),↑j] from rfl]at HT;have HT:=zq HT;have i1:Hid ((j:Int)+(z:Int)=((j+z:Nat):Int)):=zq ae;have alZ:j+z<=s0.size:=ae;clear yu HDR HQ Bc HOK HJO HJF hk2 hz2
   go_wp2_with (first
    | ((with_reducible refine(HS.out _).mono ?_);rintro e w3 ⟨rfl,iI⟩)
    | ((with_reducible refine(HJ.out _ (iI.trans az)).mono ?_);rintro e w4 ⟨rfl,iw⟩;have X4:=(kR.new ⟨k,xs,n,z,0,ff⟩ w3).ev iw;obtain⟨c0,c1,c2,c3,c4,c5,c6,c7⟩:=X4.cs;have f4:=X4.f 4;simp only at c0 c1 c2 c5;have Il:Ev w2 (w4.setCell ⟨w3.heap.size,4,none⟩ ↑j):=Ev.nX (g:=w3.heap.size) ((iI.trans az).trans iw) (But.setCell _ _ aj) iI.size)
    | ((with_reducible refine(HT.out _ Il).mono ?_);rintro e w6 ⟨v',os',rfl,Rn,hmap',al0,hb',hs'⟩;have hgx:w3.heap.size∉blk v os:=(λhm=>by have:=(ST.opn.range hm).2;have:=iI.size;omega);have d5:w6.cell? ⟨w3.heap.size,5,none⟩=some ↑z:=Ym hb' hgx X4.lt c5))
   go_step3
   refine⟨rfl,⟨rfl,rfl,rfl,rfl,v',os',j+z,f,rfl,?_,alZ,ae,?_,?_⟩,?_⟩;rw[<-i1.out];rfl
   ·exact(ST.evs Il).next Rn hmap' rfl al0 hb' ae
   rw[hmap'];exact tY;simp[Act.eval,intOf];omega
  have hw':(jw==0)=false:=awg.2 hw;have hw'':(jw !=0)=true:=axr.2 hw;have al1:=HJF.out hw;rw[Bc.out]at al1;have tY:Hid (R=(dR,jw,j+jf)):=zq (by
   rw[yu.out];simp only[hw',awv,if_false])
  have i2:Hid ((j:Int)+(jf:Int)=((j+jf:Nat):Int)):=zq ae;have i3:j+jf<=s0.size:=ae;clear yu HDR HQ Bc HOK HJO HJF
  go_wp2_with (first
   | ((with_reducible refine(HS.out _).mono ?_);rintro e w3 ⟨rfl,iI⟩)
   | ((with_reducible refine(HJ.out _ (iI.trans az)).mono ?_);rintro e w4 ⟨rfl,iw⟩;have X4:=(kR.new ⟨k,xs,n,z,yy,ff⟩ w3).ev iw;have B4:=(ST.evs ((iI.trans az).trans iw)).box;have E4:=(ST.evs ((iI.trans az).trans iw)).ev;obtain⟨c0,c1,c2,c3,c4,f0,f1,f2,f3,f4⟩:=B4.cs))
  simp only[Exit.jump];rw[Ju];refine bodyPost_ret (Xk _ B4 _ _ _ _ _ rfl rfl) rfl ?_;refine⟨iU,?_,by rw[tY.out];rfl,Lies.zero _ _ _,E4.nX (Fj _ _ _ _ _ _ _) (awj _)⟩;rw[tY.out,<-i2.out];rfl
 intro H;by_cases hbig:600<s0.size
 ·have tY:Hid (R=(dR,3,0)):=zq (by rw[HR.out,if_pos hbig]);have e1:(600:Int)<(s0.size:Int):=ae;go_wp2
  try simp only[Exit.jump]
  refine bodyPost_ret (Ar rfl _ _ w.heap.size 0 0 0 ⟨#[]⟩ (.slice none 0 0) rfl (heap_alloc_new w _)) rfl ?_;refine⟨iU,?_,by rw[tY.out];rfl,Lies.zero _ _ _,Ev.alloc _ _⟩;rw[tY.out];rfl
 have tY:Hid (R=sxGo (s0.size+1) [dR] s0.data.toList 0):=zq (by rw[HR.out,if_neg hbig]);have e1:¬((600:Int)<(s0.size:Int)):=ae;go_wp2
 go_step3
 rename_i hK;refine hK _ _ (H _ _ ?_ ?_ ?_);rfl;rfl;refine⟨rfl,rfl,_,[iU],0,s0.size+1,rfl,rfl,aww _,ae,⟨Opn.init w,az.trans az,⟨?_⟩,aj,aj,λe he=>?_⟩,tY⟩;exact heap_alloc2_old w _ _;simp at he;rw[he];exact awj _
theorem Jv(w:ak)(m:M):(w.alloc (.cells ↑m 101)).heap[w.heap.size]?=some (.cells (mc m).toArray 101 (0,0)):=heap_alloc_new _ _
theorem Fp{w:ak}{g:Nat}{m:M}(h:w.heap[g]?=some (.cells (mc m).toArray 101 (0,0))):w.cell? ⟨g,0,none⟩=some ↑m.kind/\w.cell? ⟨g,1,none⟩=some ↑m.s/\w.cell? ⟨g,2,none⟩=some ↑m.n/\w.cell? ⟨g,3,none⟩=some (.slice m.A m.kids.length m.cap)/\w.cell? ⟨g,4,none⟩=some ↑m.pos:=by refine⟨?_,?_,?_,?_,?_⟩<;>(rw[Lib.cell_of_heap h];rfl)
theorem Vf{w w':ak}{g:Nat}{o:Obj}(h:w.heap[g]?=some o)(hE:Ev w w'):w'.heap[g]?=some o:=by rw[hE.block g (awu.1 h).1];exact h
theorem Fz(c:UInt8)(w:ak):
  Calls ax 75 #[.int .u8 (c.toNat:Int)] w λe w'=>e=.returned (.bool (bn c))/\w=w':=by
 by_cases h1:(97:Int)<=(c.toNat:Int)
 ·have e:bn c=decide ((c.toNat:Int)<=122):=by unfold bn;rw[aw_];simp;omega
  rw[e];go_enter func75,ntmps75;go_wp2;go_ret;exact⟨rfl,rfl⟩
 have e:bn c=false:=by unfold bn;rw[aw_];simp;omega
 rw[e];go_enter func75,ntmps75;go_wp2;go_ret;exact⟨rfl,rfl⟩
theorem Jz(c:UInt8)(w:ak):
  Calls ax 76 #[.int .u8 (c.toNat:Int)] w λe w'=>e=.returned (.bool (aY c))/\w=w':=by
 by_cases h1:(48:Int)<=(c.toNat:Int)
 ·have e:aY c=decide ((c.toNat:Int)<=57):=by unfold aY;rw[aw_];simp;omega
  rw[e];go_enter func76,ntmps76;go_wp2;go_ret;exact⟨rfl,rfl⟩
 have e:aY c=false:=by unfold aY;rw[aw_];simp;omega
 rw[e];go_enter func76,ntmps76;go_wp2;go_ret;exact⟨rfl,rfl⟩
def FD(c:UInt8):Int:=match iq c with
 | none=>-1
 | some a=>(a:Int)
theorem azQ(h:U:=by
 go_enter func160,ntmps160
 go_wp2_with (first|((with_reducible refine(HD.out _).mono ?_);rintro x w1 ⟨rfl,rfl⟩))
 go_ret;exact⟨rfl,rfl⟩):U:=h
theorem afN(c:UInt8)(w:ak):
  Calls ax 160 #[.int .u8 (c.toNat:Int)] w λe w'=>e=.returned (.int .i64 (FD c))/\w=w':=by
 have HD:=Jz c;have hlt:=c.toNat_lt;by_cases h1:48<=c.toNat/\c.toNat<=57;have e:FD c=(c.toNat:Int) - 48:=by unfold FD iq;rw[if_pos h1];simp;omega
 rw[e];rw[show aY c=true by unfold aY;simp;exact h1]at HD;have HD:=zq HD;have i1:IntKind.u8.wrap ((c.toNat:Int) - 48)=(c.toNat:Int) - 48:=IntWalk.u8_in _ ae;exact azQ;rw[show aY c=false by unfold aY;rw[aw_];simp;omega]at HD;have HD:=zq HD;by_cases h2:97<=c.toNat;have j1:(97:Int)<=(c.toNat:Int):=ae;by_cases h3:c.toNat<=102;have e:FD c=(c.toNat:Int) - 97+10:=by unfold FD iq;rw[if_neg h1,if_pos ⟨h2,h3⟩];simp;omega
 rw[e];have j2:(c.toNat:Int)<=102:=ae;have i1:IntKind.u8.wrap ((c.toNat:Int) - 97)=(c.toNat:Int) - 97:=IntWalk.u8_in _ ae;exact azQ;have e:FD c=-1:=by unfold FD iq;rw[if_neg h1,if_neg (λh=>h3 h.2)]
 rw[e];have j2:¬((c.toNat:Int)<=102):=ae;exact azQ;have e:FD c=-1:=by unfold FD iq;rw[if_neg h1,if_neg (λh=>h2 h.1)]
 rw[e];have j1:¬((97:Int)<=(c.toNat:Int)):=ae;exact azQ
theorem Oi{c:UInt8}(h:iq c=none):FD c=-1:=by unfold FD;rw[h]
theorem Aw{c:UInt8}{a:Nat}(h:iq c=some a):FD c=(a:Int):=by unfold FD;rw[h]
theorem RU(l:By)(k:Nat)(c:UInt8)(h:l[k]?=some c)(hr:k<sxRun aY l):(dJ l)[k]?=some c:=by unfold dJ;rw[List.getElem?_take,if_pos hr,h]
def tZ(D:By)(k u:Nat)(fine:Bool):Prop:=if fine then sxBelow D 0=sxBelow (D.drop k) (-(u:Int))/\u<=9223372036854775808 else sxBelow D 0=none
theorem ah_(x:Int):∃n:Nat,IntKind.u64.wrap x=(n:Int)/\n<18446744073709551616:=⟨(x % 18446744073709551616).toNat,by simp[IntKind.wrap,IntKind.signed,IntKind.bits];omega,ae⟩
theorem aaq{u:Nat}(h:u<=9223372036854775808):wrap64 (IntKind.u64.wrap (-(u:Int)))=-(u:Int):=by simp[IntKind.wrap,IntKind.signed,IntKind.bits,wrap64];omega
theorem tZ.bad{D:By}{k u u' d:Nat}{fine:Bool}(h:tZ D k u fine)(hs:∀m:Int,sxBelow (D.drop k) m=if m < -((9223372036854775808 - (d:Int)) / 10) then none else sxBelow (D.drop (k+1)) (m*10 - (d:Int)))(ht:(9223372036854775808 - (d:Int)) / 10<(u:Int)):tZ D (k+1) u' false:=by
 unfold tZ at h|-;simp only[awv,if_false]
 cases fine
 exact h;rw[h.1,hs,if_pos ae]
theorem tZ.good{D:By}{k u d:Nat}{fine:Bool}(h:tZ D k u fine)(hs:∀m:Int,sxBelow (D.drop k) m=if m < -((9223372036854775808 - (d:Int)) / 10) then none else sxBelow (D.drop (k+1)) (m*10 - (d:Int)))(hd:d<=9)(ht:¬(9223372036854775808 - (d:Int)) / 10<(u:Int)):tZ D (k+1) (u*10+d) fine:=by
 unfold tZ at h|-
 cases fine
 exact h;simp only[if_true]at h|-;refine⟨?_,ae⟩;rw[h.1,hs,if_neg ae,show (-(u:Int))*10 - (d:Int)=-((u*10+d:Nat):Int) by omega]
theorem tZ.out{D:By}{u:Nat}{fine:Bool}(h:tZ D D.length u fine)(plus:Bool):(D.length=0∨fine=false∨9223372036854775808<u∨(plus=true/\9223372036854775807<u))->sxNum plus D=aX 12 0:=by
 intro hc;unfold tZ at h;unfold sxNum
 cases fine
 simp only[awv,if_false]at h;rw[h];simp only[if_true]at h;obtain⟨h1,h2⟩:=h;rw[aw2 (awj _)]at h1;rw[h1];simp only[sxBelow];rcases hc with hc|hc|hc|⟨hc,hu⟩
 rw[aw9 hc];rfl
 cases hc
 omega;rw[if_pos];have:u=9223372036854775808:=ae;subst this hc;simp
theorem tZ.fit{D:By}{u:Nat}(h:tZ D D.length u true)(plus:Bool)(hk:D.length≠0)(hu:plus=true->u<=9223372036854775807):u<=9223372036854775808/\sxNum plus D=if plus then ⟨3,[],(u:Int),D.length,0,0⟩ else ⟨3,[],-(u:Int),1+D.length,0,0⟩:=by
 unfold tZ at h;simp only[if_true]at h;obtain⟨h1,h2⟩:=h;refine⟨h2,?_⟩;rw[aw2 (awj _)]at h1;unfold sxNum;rw[h1];simp only[sxBelow];have he:D.isEmpty=false:=by
  cases D with
  | nil=>exact absurd rfl hk
  | cons a l=>rfl
 cases plus
 simp[he];have:=hu rfl;rw[if_neg (by rw[he];simp;omega)];simp
theorem aAV(h:U:=by
 go_ret3
 exact⟨j,by rw[HX.out];rfl,λh=>(by rw[HX.out]at h;cases h),Ev.refl _⟩):U:=h
theorem azE(h:U:=by
 go_wp2_with (first|((with_reducible refine(HC.out _).mono ?_);rintro x w1 ⟨rfl,rfl⟩))
 exact aAV):U:=h
theorem azc(h:U:=by
 have ej:j=from_:=by rw[HJ.out,hz];rfl
 have HZ:=zq hz;clear hz wF;subst ej;exact azE):U:=h
theorem azz(h:U:=by clear wF;exact azE):U:=h
theorem aye(h:U:=by
 rw[MZ]at HC hst;simp only[if_true]at hst;have HC:=zq HC;have wE:k<D.length:=by have:=HK.out;rw[hst]at this;omega
 have HK2:Hid (sxRun aY (s.data.toList.drop (j+1))+(k+1)=D.length):=zq (by have:=HK.out;rw[hst]at this;omega);have hDc:=ah'.out k c (by rw[List.getElem?_drop,<-HJ.out];exact hat) wE;obtain⟨d,hd,hd9⟩:∃d:Nat,(c.toNat:Int)=48+(d:Int)/\d<=9:=by unfold aY at MZ;simp at MZ;exact⟨c.toNat - 48,ae,ae⟩
 have hstep:=λm=>yC D k c m hDc;have i0:(48:Int)+(d:Int) - 48=(d:Int):=ae;rw[hd]at hstep HC;rw[i0]at hstep;have i1:IntKind.u8.wrap ((48:Int)+(d:Int) - 48)=(d:Int):=by rw[i0];exact IntWalk.u8_in _ ae
 have HST:=zq hstep;clear hstep hst hc hat MZ hDc
 go_wp2_with (first|((with_reducible refine(HC.out _).mono ?_);rintro x w1 ⟨rfl,rfl⟩))
 ·obtain⟨u',hu',hu2⟩:=ah_ (IntKind.u64.wrap ((u:Int)*10)+(d:Int))
  go_round
  case rel=>exact⟨k+1,u',false,ae,by rw[HJ.out];go_num,by rw[hu'],rfl,hu2,zq (HN.out.bad HST.out ae),by rw[show from_+(k+1)=j+1 by rw[HJ.out];omega];exact HK2⟩
  case measure=>simp[intOf];omega
 go_round
 case rel=>exact⟨k+1,u*10+d,fine,ae,by rw[HJ.out];go_num,by go_num,rfl,ae,zq (HN.out.good HST.out hd9 ae),by rw[show from_+(k+1)=j+1 by rw[HJ.out];omega];exact HK2⟩
 case measure=>simp[intOf];omega):U:=h
theorem azJ(h:U:=by
 have ej:j=from_:=by rw[HJ.out,hz];rfl
 have HZ:=zq hz;clear hz wF;subst ej;go_wp2;exact aAV):U:=h
theorem aAI(h:U:=by clear wF;go_wp2;exact aAV):U:=h
theorem azi(h:U:=by
 go_ret3
 exact⟨j,(by rw[HX.out];exact congrArg (λx=>Ending.returned (Value.tuple #[Value.int .i64 x,Value.int .i64 (j:Int),Value.bool true])) HNG.out),λ_=>(by rw[HX.out,HJ.out,HF.out];simp only[awv,if_false];omega),Ev.refl _⟩):U:=h
theorem JB(s:ByteArray)(w:ak)(hs:s.size<=100000)(i from_:Nat)(c0:UInt8)(hi:i<s.size)(hc0:s.data.toList[i]?=some c0)(minus:Bool)(hm:(c0.toNat==45)=minus)(hf:from_=if minus then i+1 else i):
  Calls ax 122 #[.string s,↑i] w λe w'=>
   ∃j:Nat,e=.returned (.tuple #[.int .i64 (sxNum (!minus) (dJ (s.data.toList.drop from_))).n,↑j,.bool ((sxNum (!minus) (dJ (s.data.toList.drop from_))).why==0)])/\
    ((sxNum (!minus) (dJ (s.data.toList.drop from_))).why=0->j=i+(sxNum (!minus) (dJ (s.data.toList.drop from_))).size)/\Ev w w':=by
 have jG:s.data.toList.length=s.size:=by rw[awK];rfl
 have HL:=zq jG;have hidx:∀hh,s[i]'hh=c0:=λhh=>by have:=rU s i hh;rw[this]at hc0;exact aw3 hc0
 have hfs:from_<=s.size:=by rw[hf];split<;>omega
 have hDl:=uj (s.data.toList.drop from_);have hDa:=fC (s.data.toList.drop from_);have afO:=λk c h hr=>RU (s.data.toList.drop from_) k c h hr;have hDr:=jQ aY (s.data.toList.drop from_);rw[awQ,jG]at hDr;generalize hD:dJ (s.data.toList.drop from_)=D at*;rw[<-hDl]at hDr afO;have HDl:=zq hDl;have ah':=zq afO;have aia:=zq Jz;clear hc0 hD hDl hDa afO jG
 cases minus
 ·obtain rfl:from_=i:=hf;have e1:¬((c0.toNat:Int)=45):=by have:=awg.1 hm;omega
  have e1':((c0.toNat:Int)==45)=false:=awg.2 e1;have DK:(0:Int)<=(from_:Int):=ae;clear hm;simp only[Bool.not_false];go_enter func122,ntmps122;go_wp2
  go_loop [7,9,10] (λiv uv fv=>∃(k u:Nat) (fine:Bool),k<=D.length/\iv=.int .i64 ((from_+k:Nat):Int)/\uv=.int .u64 (u:Int)/\fv=.bool fine/\u<18446744073709551616/\Hid (tZ D k u fine)/\Hid (sxRun aY (s.data.toList.drop (from_+k))+k=D.length)) (λiv _ _=>s.size - (intOf iv).toNat)
  case atStart=>exact⟨0,0,true,aww _,rfl,rfl,rfl,ae,zq ⟨rfl,ae⟩,zq (by rw[HDl.out];rfl)⟩
  case round=>
   obtain⟨k,u,fine,hk,rfl,rfl,rfl,hu,HN,HK⟩:=hrel;obtain⟨j,hj⟩:∃j,j=from_+k:=⟨_,rfl⟩
   rw[<-hj]at HK|-;have hjb:j<=300000:=by have:=hDr;omega
   have HJ:=zq hj;clear hj;by_cases hlt:j<s.size
   ·have hat:=rU s j hlt;obtain⟨c,hc⟩:∃c,s[j]=c:=⟨_,rfl⟩
    have aar:∀hh,s[j]'hh=c:=λ_=>hc;rw[hc]at hat;have hst:=mW aY s.data.toList j c hat;have HC:=aia.out c;have hj0:(0:Int)<=(j:Int):=ae;have hj1:(j:Int)<(s.size:Int):=ae
    cases MZ:aY c
    ·rw[MZ]at HC hst;simp only[awv,if_false]at hst;have hkD:k=D.length:=by have:=HK.out;rw[hst]at this;omega
     have HC:=zq HC;obtain rfl:k=D.length:=hkD;have wF:=HN.out;by_cases hz:D.length=0;have HX:Hid (sxNum true D=aX 12 0):=zq (wF.out true (.inl hz));exact azc;have ej:¬((j:Int)=(from_:Int)):=by rw[HJ.out];omega
     have ej':((j:Int)==(from_:Int))=false:=awg.2 ej
     cases fine
     have HX:Hid (sxNum true D=aX 12 0):=zq (wF.out true (.inr (.inl rfl)));exact azz;by_cases hbig:9223372036854775807<u;have HX:Hid (sxNum true D=aX 12 0):=zq (wF.out true (.inr (.inr (.inr ⟨rfl,hbig⟩))));have hb2:(9223372036854775807:Int)<(u:Int):=ae;exact azz;obtain⟨hu3,hX⟩:=wF.fit true hz (λ_=>by omega);have HX:=zq hX;have hb2:¬((9223372036854775807:Int)<(u:Int)):=ae;have hb3:¬((9223372036854775808:Int)<(u:Int)):=ae;clear wF hX
     go_wp2_with (first|((with_reducible refine(HC.out _).mono ?_);rintro x w1 ⟨rfl,rfl⟩))
     go_ret3
     exact⟨j,by rw[HX.out];rfl,λ_=>(by rw[HX.out,HJ.out];rfl),Ev.refl _⟩
    exact aye
   have UE:j=s.size:=by have:=jQ aY (s.data.toList.drop j);rw[awQ,HL.out]at this;have h2:=HK.out;have h3:=HJ.out;omega
   have hkD:k=D.length:=by have:=HK.out;rw[aw2 (by rw[HL.out];omega)]at this;simp only[sxRun]at this;omega
   have hlt2:¬((j:Int)<(s.size:Int)):=ae;clear UE;obtain rfl:k=D.length:=hkD;have wF:=HN.out;by_cases hz:D.length=0;have HX:Hid (sxNum true D=aX 12 0):=zq (wF.out true (.inl hz));exact azJ;have ej:¬((j:Int)=(from_:Int)):=by rw[HJ.out];omega
   have ej':((j:Int)==(from_:Int))=false:=awg.2 ej
   cases fine
   have HX:Hid (sxNum true D=aX 12 0):=zq (wF.out true (.inr (.inl rfl)));exact aAI;by_cases hbig:9223372036854775807<u;have HX:Hid (sxNum true D=aX 12 0):=zq (wF.out true (.inr (.inr (.inr ⟨rfl,hbig⟩))));have hb2:(9223372036854775807:Int)<(u:Int):=ae;exact aAI;obtain⟨hu3,hX⟩:=wF.fit true hz (λ_=>by omega);have HX:=zq hX;have hb2:¬((9223372036854775807:Int)<(u:Int)):=ae;have hb3:¬((9223372036854775808:Int)<(u:Int)):=ae;clear wF hX;go_wp2
   go_ret3
   exact⟨j,by rw[HX.out];rfl,λ_=>(by rw[HX.out,HJ.out];rfl),Ev.refl _⟩
 have hf':from_=i+1:=hf;have HF:=zq hf';have e1:(c0.toNat:Int)=45:=by have:=awx.1 hm;omega
 have DK:(0:Int)<=(i:Int):=ae;have hi1:(i:Int)+1=(from_:Int):=ae;clear hf hf' hm;simp only[Bool.not_true];go_enter func122,ntmps122;go_wp2
 go_loop [7,9,10] (λiv uv fv=>∃(k u:Nat) (fine:Bool),k<=D.length/\iv=.int .i64 ((from_+k:Nat):Int)/\uv=.int .u64 (u:Int)/\fv=.bool fine/\u<18446744073709551616/\Hid (tZ D k u fine)/\Hid (sxRun aY (s.data.toList.drop (from_+k))+k=D.length)) (λiv _ _=>s.size - (intOf iv).toNat)
 case atStart=>exact⟨0,0,true,aww _,rfl,rfl,rfl,ae,zq ⟨rfl,ae⟩,zq (by rw[HDl.out];rfl)⟩
 case round=>
  obtain⟨k,u,fine,hk,rfl,rfl,rfl,hu,HN,HK⟩:=hrel;obtain⟨j,hj⟩:∃j,j=from_+k:=⟨_,rfl⟩
  rw[<-hj]at HK|-;have hjb:j<=300000:=by have:=hDr;omega
  have HJ:=zq hj;clear hj;by_cases hlt:j<s.size
  ·have hat:=rU s j hlt;obtain⟨c,hc⟩:∃c,s[j]=c:=⟨_,rfl⟩
   have aar:∀hh,s[j]'hh=c:=λ_=>hc;rw[hc]at hat;have hst:=mW aY s.data.toList j c hat;have HC:=aia.out c;have hj0:(0:Int)<=(j:Int):=ae;have hj1:(j:Int)<(s.size:Int):=ae
   cases MZ:aY c
   ·rw[MZ]at HC hst;simp only[awv,if_false]at hst;have hkD:k=D.length:=by have:=HK.out;rw[hst]at this;omega
    have HC:=zq HC;obtain rfl:k=D.length:=hkD;have wF:=HN.out;by_cases hz:D.length=0;have HX:Hid (sxNum false D=aX 12 0):=zq (wF.out false (.inl hz));exact azc;have ej:¬((j:Int)=(from_:Int)):=by rw[HJ.out];omega
    have ej':((j:Int)==(from_:Int))=false:=awg.2 ej
    cases fine
    have HX:Hid (sxNum false D=aX 12 0):=zq (wF.out false (.inr (.inl rfl)));exact azz;obtain⟨hu3,hX⟩:=wF.fit false hz (λh=>by cases h);have HNG:=zq (aaq hu3);have HX:=zq hX;have hb3:¬((9223372036854775808:Int)<(u:Int)):=ae;clear wF hX
    go_wp2_with (first|((with_reducible refine(HC.out _).mono ?_);rintro x w1 ⟨rfl,rfl⟩))
    exact azi
   exact aye
  have UE:j=s.size:=by have:=jQ aY (s.data.toList.drop j);rw[awQ,HL.out]at this;have h2:=HK.out;have h3:=HJ.out;omega
  have hkD:k=D.length:=by have:=HK.out;rw[aw2 (by rw[HL.out];omega)]at this;simp only[sxRun]at this;omega
  have hlt2:¬((j:Int)<(s.size:Int)):=ae;clear UE;obtain rfl:k=D.length:=hkD;have wF:=HN.out;by_cases hz:D.length=0;have HX:Hid (sxNum false D=aX 12 0):=zq (wF.out false (.inl hz));exact azJ;have ej:¬((j:Int)=(from_:Int)):=by rw[HJ.out];omega
  have ej':((j:Int)==(from_:Int))=false:=awg.2 ej
  cases fine
  have HX:Hid (sxNum false D=aX 12 0):=zq (wF.out false (.inr (.inl rfl)));exact aAI;obtain⟨hu3,hX⟩:=wF.fit false hz (λh=>by cases h);have HNG:=zq (aaq hu3);have HX:=zq hX;have hb3:¬((9223372036854775808:Int)<(u:Int)):=ae;clear wF hX;go_wp2;exact azi
theorem lF{l:By}{i:Nat}{c:UInt8}(h:l[i]?=some c):l.drop i=c::l.drop (i+1):=by obtain⟨hi,e⟩:=awi.1 h;rw[axc hi,e]
theorem Yr(s:ByteArray)(w:ak)(hs:s.size<=100000)(i:Nat)(c0:UInt8)(hi:i<s.size)(hc0:s.data.toList[i]?=some c0):
  Calls ax 122 #[.string s,↑i] w λe w'=>
   ∃j:Nat,e=.returned (.tuple #[.int .i64 (dO (s.data.toList.drop i)).n,↑j,.bool ((dO (s.data.toList.drop i)).why==0)])/\
    ((dO (s.data.toList.drop i)).why=0->j=i+(dO (s.data.toList.drop i)).size)/\Ev w w':=by
 have hd:=lF hc0
 cases hm:(c0.toNat==45) with
 | true=>
  have:=JB s w hs i (i+1) c0 hi hc0 true hm rfl;have e:dO (s.data.toList.drop i)=sxNum (!true) (dJ (s.data.toList.drop (i+1))):=by rw[hd];simp only[dO,hm,if_true];rfl
  rw[e];exact this
 | false=>
  have:=JB s w hs i i c0 hi hc0 false hm rfl;have e:dO (s.data.toList.drop i)=sxNum (!false) (dJ (s.data.toList.drop i)):=by rw[hd];simp only[dO,hm];rfl
  rw[e];exact this
theorem Oj{P:Program}{ops:Array Oper}{o:Oper}{a:Act}{w:ak}{K:Act->ak->Prop}{Q:Exit->Act->ak->Prop}{E:Prop}
  (hg:o.guard=none) (f:FuncId) (xs:Array Operand) (ts:Array TypeId) (hop:o.op=.call {callee:=.value (.func f),args:=xs,argTypes:=ts}) (hb:Fb P f=true) (args:Array au) (ha:xs.map a.eval=args) (v:au)
  (hc:Calls P f args w λe w'=>e=.returned v/\w=w') (hK:K (a.put o.dst v) w):
  if Region.wanted o (yielded ops a.tmps)=true then Oper.wp P o a w K Q else E:=by
 rw[if_pos (ay hg)];unfold Oper.wp;rw[bC f xs ts hop hb w,ha];refine hc.mono ?_;rintro e w' ⟨rfl,rfl⟩;exact hK
theorem FH{P:Program}{ops:Array Oper}{o:Oper}{a:Act}{w:ak}{K:Act->ak->Prop}{Q:Exit->Act->ak->Prop}{E:Prop}
  (hg:o.guard=none) (s x:Operand) (hop:o.op=.call {callee:=.builtin .append,args:=#[s,x],argTypes:=#[93,93]})
  (ht:P.underlying 93=some (.slice 5)) (hi:(P.info? 5).map (λi=>(i.zero,i.size,i.bytes))=some (some (.int .u8 0),1,1))
  (v:au) (l:By) (hs:a.eval s=v) (hown:Row w v l) (A:Option Addr) (m c:Nat) (l':By) (hx:a.eval x=.slice A m c) (hB:Bs w A m c l') (hbytes:l.length+l'.length<=140737488355328)
  (hK:∀v' w',Row w' v' (l++l')->But (foot v) w w'->fF w v v'->K (a.put o.dst v') w'):
  if Region.wanted o (yielded ops a.tmps)=true then Oper.wp P o a w K Q else E:=by
 rw[if_pos (ay hg)];obtain⟨v',w',hr,h2,h3,h4⟩:=zB (P:=P) (w:=w) o.type ht hi v l hown A m c l' hB hbytes;unfold Oper.wp execOp;simp only[hop,resolve,invoke,builtin,Sem.run_bind,Sem.run_pure,Result.andThen_ok,axl,awo,awG,hs,hx,hr];exact hK _ _ h2 h3 h4
theorem ji{fn:Func}{t u v x:Tmp}(h:fn.results=#[.tmp t,.tmp u,.tmp v,.tmp x])(tmps:Array au)(P:Program)(w:ak):
  (results fn tmps).run P w=.ok (.tuple #[tmps.getD t undef,tmps.getD u undef,tmps.getD v undef,tmps.getD x undef]) w:=by
 simp[results,h]
structure aid(Y:Tk)(i0:Nat)(sb:ByteArray)(en wh:Int):Prop where
 ok:Y.why=0->sb=⟨Y.s.toArray⟩/\en=((i0+Y.size:Nat):Int)
 bad:Y.why≠0->wh=((i0+Y.fault:Nat):Int)
structure BH(w0:ak)(A:Option Addr)(n cap:Nat)(b:By)(w:ak):Prop where
 row:Row w (.slice A n cap) b
 len:b.length=n
 high:∀k,(Value.slice A n cap).ownBlock=some k->w0.heap.size<=k
 ev:Ev w0 w
theorem BH.step{w0 w w1:ak}{A:Option Addr}{n cap:Nat}{b B1:By}{v1:au}(h:BH w0 A n cap b w)(hr:Row w1 v1 B1)(hb:But (foot (.slice A n cap)) w w1)(hs:fF w (.slice A n cap) v1):
  ∃A1 n1 cap1,v1=.slice A1 n1 cap1/\BH w0 A1 n1 cap1 B1 w1:=by
 obtain⟨A1,cap1,rfl,_,_,_⟩:=hr.bs;refine⟨A1,_,cap1,rfl,hr,rfl,λk hk=>?_,((But.aV (K:=foot (.slice A n cap)) h.ev).then hb).ev λk hk=>h.high k (aG.1 hk)⟩;rcases hs k hk with h1|h1;exact h.high k h1;have:=h.ev.size;omega
theorem BH.evs{w0 w w1:ak}{A:Option Addr}{n cap:Nat}{b:By}(h:BH w0 A n cap b w)(hE:Ev w w1):BH w0 A n cap b w1:=⟨h.row.ev hE,h.len,h.high,h.ev.trans hE⟩
theorem BH.init(w:ak):BH w ↑w.heap.size 0 0 [] (w.alloc (.cells #[] 5)):=
 ⟨⟨rfl,.inr ⟨w.heap.size,0,#[],rfl,aww _,heap_alloc_new w _,awj _,ai,rfl,rfl⟩⟩,rfl,by simp[Value.ownBlock],Ev.alloc _ _⟩
theorem Yv(b:By)(c x y:UInt8)(q:By)(i ha hb:Nat)(hc:c.toNat=92)(hx:iq x=some ha)(hy:iq y=some hb):sxTextGo b (c::x::y::q) i=sxTextGo (b++[UInt8.ofNat (16*ha+hb)]) q (i+3):=by
 conv=>lhs;unfold sxTextGo
 have hp:bY c=false:=by unfold bY;rw[hc];rfl
 simp[hp,hc,hx,hy]
theorem adb{a b:Nat}(ha:a<16)(hb:b<16):IntKind.u8.wrap (16*(a:Int)+(b:Int))=((UInt8.ofNat (16*a+b)).toNat:Int):=by rw[IntWalk.u8_in _ ae,UInt8.toNat_ofNat'];omega
theorem azv(h:U:=by
 go_wp2
 (try simp only[Exit.inBlock,Exit.then]);refine bodyPost_ret (ji rfl _ _ _) rfl ?_
 exact⟨_,_,_,by rw[uU.out];rfl,⟨(λh=>by rw[uU.out]at h;cases h),(λ_=>by rw[uU.out];simp only[aX];omega)⟩,ST.ev⟩):U:=h
theorem ayS(h:U:=by have UC:¬(c.toNat=92):=ae;unfold sxTextGo at jR;simp[hp,Jr,UC]at jR;have uU:=zq jR;clear jR;exact azv):U:=h
theorem azx(h:U:=by
 (try simp only[Exit.inBlock,Exit.then]);refine bodyPost_ret (ji rfl _ _ _) rfl ?_
 exact⟨_,_,_,by rw[PD.out];rfl,⟨(λh=>by rw[PD.out]at h;cases h),(λ_=>by rw[PD.out];simp only[aX];omega)⟩,ST.ev⟩):U:=h
theorem ayE(h:U:=by
 rw[IV]at yu;rw[Oi IV]at HX;have HX:=zq HX;have PD:=zq yu;clear yu uU HA HB hx ex
 go_wp2_with (first|((with_reducible refine(HX.out _).mono ?_);rintro e w1 ⟨rfl,rfl⟩))
 exact azx):U:=h
theorem azd(h:U:=by have PD:=zq yu;clear yu uU HA HB;go_wp2;exact azx):U:=h
theorem ade(s:ByteArray)(w:ak)(hs:s.size<=100000)(i0:Nat)(hi:i0<s.size):
  Calls ax 121 #[.string s,↑i0] w λe w'=>
   ∃(sb:ByteArray) (en wh:Int),e=.returned (.tuple #[.string sb,↑en,.int .i64 (sxTextGo [] (s.data.toList.drop (i0+1)) 1).why,↑wh])/\
    aid (sxTextGo [] (s.data.toList.drop (i0+1)) 1) i0 sb en wh/\Ev w w':=by
 have jG:s.data.toList.length=s.size:=by rw[awK];rfl
 obtain⟨Y,hY⟩:∃Y,Y=sxTextGo [] (s.data.toList.drop (i0+1)) 1:=⟨_,rfl⟩
 rw[<-hY];have HY:=zq hY;have HL:=zq jG;have HH:=zq afN;clear hY jG;go_enter func121,ntmps121;go_wp2
 go_loopw [8,9] (λov iv wr=>∃(b:By) (A:Option Addr) (n cap j:Nat),ov=.slice A n cap/\iv=↑j/\i0+1<=j/\j<=s.size/\n<=j/\BH w A n cap b wr/\Hid (Y=sxTextGo b (s.data.toList.drop j) (j - i0))) (λ_ iv _=>s.size - (intOf iv).toNat)
 case atStart=>exact⟨[],_,0,0,i0+1,rfl,by go_num,awj _,hi,ae,BH.init w,zq (by rw[show i0+1 - i0=1 by omega];exact HY.out)⟩
 case round=>
  obtain⟨b,A,n,cap,j,rfl,rfl,hj0,hj,hnj,ST,HG⟩:=hrel;by_cases hlt:j<s.size
  ·have hat:=rU s j hlt;obtain⟨c,hc⟩:∃c,s[j]=c:=⟨_,rfl⟩
   have aar:∀hh,s[j]'hh=c:=λ_=>hc;rw[hc]at hat;have hdr:=lF hat;have g0:(0:Int)<=(j:Int):=ae;have g1:(j:Int)<(s.size:Int):=ae;have g2:¬((s.size:Int)<=(j:Int)):=ae;have xH:=zq ST.len;have jR:=HG.out;rw[hdr]at jR;clear hc HG hdr;by_cases Jr:c.toNat=34
   ·have e34:(c.toNat:Int)=34:=ae;have hp:bY c=false:=by unfold bY;rw[Jr];rfl
    unfold sxTextGo at jR;simp[hp,Jr,xH.out]at jR;by_cases Ii:40<n
    ·rw[if_pos Ii]at jR;have uU:=zq jR;have e40:(40:Int)<(n:Int):=ae;clear jR;go_wp2
     (try simp only[Exit.inBlock,Exit.then]);refine bodyPost_ret (ji rfl _ _ _) rfl ?_
     exact⟨_,_,_,by rw[uU.out];rfl,⟨(λh=>by rw[uU.out]at h;cases h),(λ_=>by rw[uU.out];rfl)⟩,ST.ev⟩
    rw[if_neg Ii]at jR;have uU:=zq jR;have e40:¬((40:Int)<(n:Int)):=ae;obtain⟨Yg,xO,hv,hbs,_,_⟩:=ST.row.bs;rw[xH.out]at hv hbs;injection hv with MX hv2 hv3
    subst MX hv3;have hcv:=hbs.str 93 9 5 underlying93 underlying5 underlying9;clear jR hv2;go_wp2
    (try simp only[Exit.inBlock,Exit.then]);refine bodyPost_ret (ji rfl _ _ _) rfl ?_
    have hsz:((i0+(j - i0+1):Nat):Int)=(j:Int)+1:=ae;exact⟨_,_,_,by rw[uU.out];rfl,⟨(λ_=>by rw[uU.out];exact⟨rfl,hsz.symm⟩),(λh=>by rw[uU.out]at h;exact absurd rfl h)⟩,ST.ev⟩
   have e34:¬((c.toNat:Int)=34):=ae;have aie:((c.toNat:Int)==34)=false:=awg.2 e34;by_cases h32:c.toNat<32;have e32:(c.toNat:Int)<32:=ae;have hp:bY c=false:=by unfold bY;rw[awY (show ¬32<=c.toNat by omega)];rfl
   exact ayS;have e32:¬((c.toNat:Int)<32):=ae;by_cases ary:126<c.toNat;have e126:(126:Int)<(c.toNat:Int):=ae;have hp:bY c=false:=by unfold bY;rw[awY (show ¬c.toNat<=126 by omega)];simp
   exact ayS;have e126:¬((126:Int)<(c.toNat:Int)):=ae;by_cases UC:c.toNat=92
   ·have e92:(c.toNat:Int)=92:=ae;have uU:=zq jR;clear jR;go_wp2
    go_loop [11] (λkv=>∃k:Nat,kv=↑k/\1<=k/\k<=3/\Hid (2<=k->∃x a,s.data.toList[j+1]?=some x/\iq x=some a)/\Hid (3<=k->∃x a,s.data.toList[j+2]?=some x/\iq x=some a)) (λkv=>3 - (intOf kv).toNat)
    case atStart=>exact⟨1,rfl,awj _,ae,zq λh=>absurd h ae,zq λh=>absurd h ae⟩
    case round=>
     obtain⟨k,rfl,wE,hk3,HA,HB⟩:=hrel;have hpl:bY c=false:=by unfold bY;rw[UC];rfl
     by_cases k3:k=3
     ·subst k3;obtain⟨x,ha,hx,IV⟩:=HA.out ae;obtain⟨y,hb,hy,hyb⟩:=HB.out ae;have yu:=uU.out;rw[lF hx,lF hy,Yv b c x y _ _ ha hb UC IV hyb]at yu;obtain⟨hj1,ex⟩:=awi.1 hx;obtain⟨hj2,ey⟩:=awi.1 hy;rw[HL.out]at hj1 hj2;have hx1:∀hh,s[j+1]'hh=x:=λ_=>ex;have hy1:∀hh,s[j+2]'hh=y:=λ_=>ey;have q1:(0:Int)<=(j:Int)+1:=ae;have q2:(j:Int)+1<(s.size:Int):=ae;have q3:(0:Int)<=(j:Int)+2:=ae;have q4:(j:Int)+2<(s.size:Int):=ae;have t1:((j:Int)+1).toNat=j+1:=ae;have t2:((j:Int)+2).toNat=j+2:=ae;have z1:IntKind.i64.wrap ((j:Int)+1)=(j:Int)+1:=IntWalk.i64_in _ ae;have z2:IntKind.i64.wrap ((j:Int)+2)=(j:Int)+2:=IntWalk.i64_in _ ae;have hha:=Jp IV;have hhb:=Jp hyb;have HX:=HH.out x;have HY2:=HH.out y;rw[Aw IV]at HX;rw[Aw hyb]at HY2;have HX:=zq HX;have HY2:=zq HY2;have hbyte:=adb hha hhb;have z3:IntKind.i64.wrap (16*(ha:Int))=16*(ha:Int):=IntWalk.i64_in _ ae;have z4:IntKind.i64.wrap (16*(ha:Int)+(hb:Int))=16*(ha:Int)+(hb:Int):=IntWalk.i64_in _ ae;have PD:=zq yu;generalize hN:UInt8.ofNat (16*ha+hb)=N16 at*;have HBS:=zq (λw1:ak=>yD w1 N16);have HST:=zq ST;clear yu uU HA HB hx hy ex ey IV hyb hN hha hhb;go_wp2
      go_region_law (first
       | (refine Oj rfl 160 #[.tmp 73] #[5] rfl ah #[.int .u8 (x.toNat:Int)] (by simp only[axl,awo,awG];rfl) _ (HX.out _) ?_)
       | (refine Oj rfl 160 #[.tmp 79] #[5] rfl ah #[.int .u8 (y.toNat:Int)] (by simp only[axl,awo,awG];rfl) _ (HY2.out _) ?_)
       | (refine FH rfl (.tmp 69) (.tmp 83) rfl underlying93 Tryz.Fe (.slice A n cap) b rfl (HST.out.row.ev ((Ev.drew wr).trans (Ev.alloc wr.drew _))) ↑wr.heap.size 1 1 [N16] rfl (HBS.out wr.drew) (by rw[xH.out];simp;omega) ?_;intro v2 w5 hr2 hb2 hs2;obtain⟨A2,n2,cap2,rfl,ST2⟩:=(HST.out.evs ((Ev.drew wr).trans (Ev.alloc wr.drew _))).step hr2 hb2 hs2))
      all_goals (
       go_wp2
       go_round
       case rel=>exact⟨b++[N16],A2,n2,cap2,j+3,rfl,by go_num,ae,ae,by rw[<-ST2.len,awl,xH.out];simp;omega,ST2,zq (by rw[show j+3 - i0=j - i0+3 by omega];exact PD.out)⟩
       case measure=>simp[intOf];omega)
     obtain rfl|rfl:k=1∨k=2:=ae
     ·skip
      have kz:IntKind.i64.wrap ((j:Int)+1)=(j:Int)+1:=IntWalk.i64_in _ ae;have yu:=uU.out;by_cases hk:j+1<s.size
      ·have hx:=rU s (j+1) hk;obtain⟨x,ex⟩:∃x,s[j+1]=x:=⟨_,rfl⟩
       have hx1:∀hh,s[j+1]'hh=x:=λ_=>ex;rw[ex]at hx;rw[lF hx]at yu;unfold sxTextGo at yu;simp[hpl,UC]at yu;have q1:(0:Int)<=(j:Int)+1:=ae;have q2:(j:Int)+1<(s.size:Int):=ae;have q3:¬((s.size:Int)<=(j:Int)+1):=ae;have t1:((j:Int)+1).toNat=j+1:=ae;have HX:=HH.out x
       cases IV:iq x with
       | none=>
        exact ayE
       | some a=>
        rw[Aw IV]at HX;have HX:=zq HX;have q4:¬((a:Int)<0):=ae;have q5:(0:Int)<=(a:Int):=ae;have HAx:Hid (∃x a,s.data.toList[j+1]?=some x/\iq x=some a):=zq ⟨x,a,hx,IV⟩;clear yu hx ex
        go_wp2_with (first|((with_reducible refine(HX.out _).mono ?_);rintro e w1 ⟨rfl,rfl⟩))
        go_round
        case rel=>exact⟨2,rfl,ae,ae,zq λ_=>HAx.out,zq λh=>absurd h ae⟩
        case measure=>simp[intOf]
      have q3:(s.size:Int)<=(j:Int)+1:=ae;rw[aw2 (by rw[HL.out];omega)]at yu;unfold sxTextGo at yu;simp[hpl,UC]at yu;exact azd
     skip
     have kz:IntKind.i64.wrap ((j:Int)+2)=(j:Int)+2:=IntWalk.i64_in _ ae;obtain⟨x0,ha0,hx0,aif⟩:=HA.out ae;have yu:=uU.out;rw[lF hx0]at yu;have hj1:=(awi.1 hx0).1;rw[HL.out]at hj1;by_cases hk:j+2<s.size
     ·have hx:=rU s (j+2) hk;obtain⟨x,ex⟩:∃x,s[j+2]=x:=⟨_,rfl⟩
      have hx1:∀hh,s[j+2]'hh=x:=λ_=>ex;rw[ex]at hx;rw[lF hx]at yu;unfold sxTextGo at yu;simp[hpl,UC,aif]at yu;have q1:(0:Int)<=(j:Int)+2:=ae;have q2:(j:Int)+2<(s.size:Int):=ae;have q3:¬((s.size:Int)<=(j:Int)+2):=ae;have t1:((j:Int)+2).toNat=j+2:=ae;have HX:=HH.out x
      cases IV:iq x with
      | none=>
       exact ayE
      | some a=>
       rw[Aw IV]at HX;have HX:=zq HX;have q4:¬((a:Int)<0):=ae;have q5:(0:Int)<=(a:Int):=ae;have HAx:Hid (∃x a,s.data.toList[j+2]?=some x/\iq x=some a):=zq ⟨x,a,hx,IV⟩;clear yu hx ex
       go_wp2_with (first|((with_reducible refine(HX.out _).mono ?_);rintro e w1 ⟨rfl,rfl⟩))
       go_round
       case rel=>exact⟨3,rfl,ae,ae,zq λ_=>HA.out ae,zq λ_=>HAx.out⟩
       case measure=>simp[intOf]
     have q3:(s.size:Int)<=(j:Int)+2:=ae;rw[aw2 (by rw[HL.out];omega)]at yu;unfold sxTextGo at yu;simp[hpl,UC,aif]at yu;exact azd
   have e92:¬((c.toNat:Int)=92):=ae;have arz:((c.toNat:Int)==92)=false:=awg.2 e92;have hp:bY c=true:=by unfold bY;simp;omega
   unfold sxTextGo at jR;simp[hp]at jR;have uU:=zq jR;have HBS:=zq (yD wr c);clear jR
   go_wp2_with (first
    | ((show wpList _ _ _ (⟨some 46,_,_,_,_,_⟩::_) _ _);refine o_ (o:=⟨some 46,_,_,_,_,_⟩) rfl (.tmp 43) (.tmp 45) rfl underlying93 Tryz.Fe (.slice A n cap) b rfl (ST.row.ev az) ↑wr.heap.size 1 1 [c] rfl HBS.out (by rw[xH.out];simp;omega) ?_;intro v2 w5 hr2 hb2 hs2;obtain⟨A2,n2,cap2,rfl,ST2⟩:=(ST.evs az).step hr2 hb2 hs2))
   go_round
   case rel=>exact⟨b++[c],A2,n2,cap2,j+1,rfl,by go_num,ae,ae,by rw[<-ST2.len,awl,xH.out];simp;omega,ST2,zq (by rw[show j+1 - i0=j - i0+1 by omega];exact uU.out)⟩
   case measure=>simp[intOf];omega
  have UE:j=s.size:=ae;have jR:=HG.out;rw[aw2 (by rw[HL.out];omega)]at jR;unfold sxTextGo at jR;have uU:=zq jR;have g2:(s.size:Int)<=(j:Int):=ae;clear jR HG;exact azv
structure Bx(T:TypeId)(g:Nat)(cs:Array au)(w:ak):Prop where
 blk:w.heap[g]?=some (.cells cs T (0,0))
theorem Bx.but{K:List Nat}{T:TypeId}{g:Nat}{cs:Array au}{w w':ak}(h:Bx T g cs w)(hb:But K w w')(hn:g∉K):Bx T g cs w':=⟨hb.heap h.blk hn⟩
theorem Bx.ev{T:TypeId}{g:Nat}{cs:Array au}{w w':ak}(h:Bx T g cs w)(hE:Ev w w'):Bx T g cs w':=h.but (But.aV (K:=[]) hE) aj
theorem Bx.lt{T:TypeId}{g:Nat}{cs:Array au}{w:ak}(h:Bx T g cs w):g<w.heap.size:=(awu.1 h.blk).1
theorem Bx.cell{T:TypeId}{g:Nat}{cs:Array au}{w:ak}(h:Bx T g cs w)(i:Nat):w.cell? ⟨g,i,none⟩=cs[i]?:=by rw[Lib.cell_of_heap h.blk]
theorem Bx.frozen{T:TypeId}{g:Nat}{cs:Array au}{w:ak}(h:Bx T g cs w)(i:Nat):w.frozen? ⟨g,i,none⟩=false:=Lib.frozen_of_heap h.blk i
theorem Bx.set{T:TypeId}{g:Nat}{cs:Array au}{w:ak}(h:Bx T g cs w)(i:Nat)(v:au):Bx T g (cs.setIfInBounds i v) (w.setCell ⟨g,i,none⟩ v):=⟨GN i v h.blk⟩
theorem Bx.new(T:TypeId)(cs:Array au)(w:ak):Bx T w.heap.size cs (w.alloc (.cells cs T)):=⟨heap_alloc_new w _⟩
theorem Bx.five{T:TypeId}{g:Nat}{w:ak}{v0 v1 v2 v3 v4:au}(h:Bx T g #[v0,v1,v2,v3,v4] w):(w.cell? ⟨g,0,none⟩=some v0/\w.cell? ⟨g,1,none⟩=some v1/\w.cell? ⟨g,2,none⟩=some v2/\w.cell? ⟨g,3,none⟩=some v3/\w.cell? ⟨g,4,none⟩=some v4)/\
  (w.frozen? ⟨g,0,none⟩=false/\w.frozen? ⟨g,1,none⟩=false/\w.frozen? ⟨g,2,none⟩=false/\w.frozen? ⟨g,3,none⟩=false/\w.frozen? ⟨g,4,none⟩=false):=
 ⟨⟨h.cell 0,h.cell 1,h.cell 2,h.cell 3,h.cell 4⟩,h.frozen 0,h.frozen 1,h.frozen 2,h.frozen 3,h.frozen 4⟩
theorem Bx.four{T:TypeId}{g:Nat}{w:ak}{v0 v1 v2 v3:au}(h:Bx T g #[v0,v1,v2,v3] w):(w.cell? ⟨g,0,none⟩=some v0/\w.cell? ⟨g,1,none⟩=some v1/\w.cell? ⟨g,2,none⟩=some v2/\w.cell? ⟨g,3,none⟩=some v3)/\
  (w.frozen? ⟨g,0,none⟩=false/\w.frozen? ⟨g,1,none⟩=false/\w.frozen? ⟨g,2,none⟩=false/\w.frozen? ⟨g,3,none⟩=false):=
 ⟨⟨h.cell 0,h.cell 1,h.cell 2,h.cell 3⟩,h.frozen 0,h.frozen 1,h.frozen 2,h.frozen 3⟩
def kG(g:Nat)(v0 v1 v2 v3:au)(w:ak):ak:=(((w.setCell ⟨g,0,none⟩ v0).setCell ⟨g,1,none⟩ v1).setCell ⟨g,2,none⟩ v2).setCell ⟨g,3,none⟩ v3
def kH(g:Nat)(v0 v1 v2 v3 v4:au)(w:ak):ak:=(kG g v0 v1 v2 v3 w).setCell ⟨g,4,none⟩ v4
theorem b_(g:Nat)(v0 v1 v2 v3 v4:au)(w:ak):((((w.setCell ⟨g,0,none⟩ v0).setCell ⟨g,1,none⟩ v1).setCell ⟨g,2,none⟩ v2).setCell ⟨g,3,none⟩ v3).setCell ⟨g,4,none⟩ v4=kH g v0 v1 v2 v3 v4 w:=rfl
theorem dK(g:Nat)(v0 v1 v2 v3:au)(w:ak):(((w.setCell ⟨g,0,none⟩ v0).setCell ⟨g,1,none⟩ v1).setCell ⟨g,2,none⟩ v2).setCell ⟨g,3,none⟩ v3=kG g v0 v1 v2 v3 w:=rfl
theorem eP(g:Nat)(v0 v1 v2 v3:au)(w:ak):But [g] w (kG g v0 v1 v2 v3 w):=
 (((But.setCell ⟨g,0,none⟩ _ aj).then (But.setCell ⟨g,1,none⟩ _ aj)).then (But.setCell ⟨g,2,none⟩ _ aj)).then (But.setCell ⟨g,3,none⟩ _ aj)
theorem bJ(g:Nat)(v0 v1 v2 v3 v4:au)(w:ak):But [g] w (kH g v0 v1 v2 v3 v4 w):=(eP g v0 v1 v2 v3 w).then (But.setCell ⟨g,4,none⟩ _ aj)
theorem Bx.kG{T:TypeId}{g:Nat}{w:ak}{u0 u1 u2 u3:au}(h:Bx T g #[u0,u1,u2,u3] w)(v0 v1 v2 v3:au):Bx T g #[v0,v1,v2,v3] (kG g v0 v1 v2 v3 w):=by have:=(((h.set 0 v0).set 1 v1).set 2 v2).set 3 v3;rw[show (((((#[u0,u1,u2,u3]:Array au).setIfInBounds 0 v0).setIfInBounds 1 v1).setIfInBounds 2 v2).setIfInBounds 3 v3)=#[v0,v1,v2,v3] by simp]at this;exact this
theorem Bx.kH{T:TypeId}{g:Nat}{w:ak}{u0 u1 u2 u3 u4:au}(h:Bx T g #[u0,u1,u2,u3,u4] w)(v0 v1 v2 v3 v4:au):Bx T g #[v0,v1,v2,v3,v4] (kH g v0 v1 v2 v3 v4 w):=by have:=((((h.set 0 v0).set 1 v1).set 2 v2).set 3 v3).set 4 v4;rw[show ((((((#[u0,u1,u2,u3,u4]:Array au).setIfInBounds 0 v0).setIfInBounds 1 v1).setIfInBounds 2 v2).setIfInBounds 3 v3).setIfInBounds 4 v4)=#[v0,v1,v2,v3,v4] by simp]at this;exact this
theorem Ev.box{w w1 w2:ak}{g:Nat}(h:Ev w w1)(hb:But [g] w1 w2)(hg:w.heap.size<=g):Ev w w2:=
 ((But.aV (K:=[g]) h).then hb).ev λk hk=>by simp at hk;omega
theorem aS{P:Program}{fn:Func}{p:Tmp}{ty:TypeId}(h:fn.results=#[.cell p ty])(tmps:Array au)(w:ak)(g:Nat)(cs:Array au)(d:TypeDesc)
  (hp:tmps.getD p undef=.pointer ↑g) (hg:Bx ty g cs w)
  (hu:P.underlying ty=some d) (hd:(match d with|.struct _|.array _ _=>true|_=>false)=true) (hi:(P.info? ty).map (·.size)=some cs.size):
  (results fn tmps).run P w=.ok (.agg cs) w:=by
 have hp':tmps[p]?.getD undef=.pointer ↑g:=by simpa using hp
 simp[results,h,hp',asAddr,run_loadVar_row w g ty ty cs (0,0) d hg.blk hu hd hi]
theorem nZ{P:Program}{fn:Func}{p u1 u2 u3:Tmp}{ty:TypeId}(h:fn.results=#[.cell p ty,.tmp u1,.tmp u2,.tmp u3])(tmps:Array au)(w:ak)(g:Nat)(cs:Array au)(d:TypeDesc)
  (hp:tmps.getD p undef=.pointer ↑g) (hg:Bx ty g cs w)
  (hu:P.underlying ty=some d) (hd:(match d with|.struct _|.array _ _=>true|_=>false)=true) (hi:(P.info? ty).map (·.size)=some cs.size):
  (results fn tmps).run P w=.ok (.tuple #[.agg cs,tmps.getD u1 undef,tmps.getD u2 undef,tmps.getD u3 undef]) w:=by
 have hp':tmps[p]?.getD undef=.pointer ↑g:=by simpa using hp
 simp[results,h,hp',asAddr,run_loadVar_row w g ty ty cs (0,0) d hg.blk hu hd hi]
theorem aI{P:Program}{fn:Func}{p u1 u2:Tmp}{ty:TypeId}(h:fn.results=#[.cell p ty,.tmp u1,.tmp u2])(tmps:Array au)(w:ak)(g:Nat)(cs:Array au)(d:TypeDesc)
  (hp:tmps.getD p undef=.pointer ↑g) (hg:Bx ty g cs w)
  (hu:P.underlying ty=some d) (hd:(match d with|.struct _|.array _ _=>true|_=>false)=true) (hi:(P.info? ty).map (·.size)=some cs.size):
  (results fn tmps).run P w=.ok (.tuple #[.agg cs,tmps.getD u1 undef,tmps.getD u2 undef]) w:=
 BF h tmps w g ty cs (0,0) d hp hg.blk hu hd hi
theorem Tryz.iW:(Tryz.prog.info? 79).map (·.size)=some 5:=ah
theorem JC:∀(N:Nat) (r b:By) (i:Nat),r.length<=N->(sxTextGo b r i).n=0:=by
 intro N
 induction N with
 | zero=>
  intro r b i h;have:r=[]:=aw9 ae;subst this;rfl
 | succ N ih=>
  intro r b i h
  cases r with
  | nil=>rfl
  | cons c q=>
   simp at h;unfold sxTextGo;split;exact ih q _ _ h;split;split;rfl;rename_i x q1;simp at h;split;rfl;split;rfl;rename_i y q2;simp at h;split;rfl;exact ih q2 _ _ ae;split
   ·split<;>rfl
   rfl
theorem CJ(plus:Bool)(d:By):((sxNum plus d).why=0->(sxNum plus d).kind=3/\(sxNum plus d).s=[])/\((sxNum plus d).why≠0->(sxNum plus d).why=12/\(sxNum plus d).fault=0):=by unfold sxNum;split;exact⟨(λh=>by cases h),(λ_=>⟨rfl,rfl⟩)⟩;split;exact⟨(λh=>by cases h),(λ_=>⟨rfl,rfl⟩)⟩;split;exact⟨λ_=>⟨rfl,rfl⟩,λh=>absurd rfl h⟩;exact⟨λ_=>⟨rfl,rfl⟩,λh=>absurd rfl h⟩
theorem BI(l:By):((dO l).why=0->(dO l).kind=3/\(dO l).s=[])/\((dO l).why≠0->(dO l).why=12/\(dO l).fault=0):=by unfold dO;split;exact CJ _ _;split;exact CJ _ _;exact CJ _ _
theorem Nb(l:By):(dO l).why=0->(dO l).kind=3/\(dO l).s=[]:=(BI l).1
theorem PG(l:By):(dO l).why≠0->(dO l).why=12/\(dO l).fault=0:=(BI l).2
def adg(X:Tk)(i:Nat)(w:ak)(e:Ending)(w':ak):Prop:=
 ∃(k n p en wh:Int) (sb:ByteArray),e=.returned (.tuple #[.agg #[↑k,.string sb,↑n,↑(),↑p],↑en,↑X.why,↑wh])/\
  (X.why=0->k=X.kind/\sb=⟨X.s.toArray⟩/\n=X.n/\p=(i:Int)/\en=((i+X.size:Nat):Int))/\(X.why≠0->wh=((i+X.fault:Nat):Int))/\Ev w w'
theorem ayH(h:U:=by(try simp only[Exit.inBlock,Exit.then]);rw[b_];refine bodyPost_ret (nZ rfl _ _ _ _ _ rfl (HB.out.kH _ _ _ _ _) underlying79 rfl Tryz.iW) rfl ?_;exact⟨_,_,_,_,_,_,(by rw[HX.out];rfl),(λ_=>by rw[HX.out];exact⟨rfl,qj.out HJQ.out,rfl,rfl,HXE.out HJQ.out⟩),(λh=>absurd (by rw[HX.out]) h),HE.out.box (bJ _ _ _ _ _ _ _) (awj _)⟩):U:=h
theorem adh(s:ByteArray)(w:ak)(hs:s.size<=100000)(i:Nat)(hi:i<s.size)(c:UInt8)(hc0:s.data.toList[i]?=some c)(hk:c.toNat=34∨c.toNat=45∨bn c=true∨aY c=true):
  Calls ax 77 #[.string s,↑i] w (adg (bK (s.data.toList.drop i)) i w):=by
 have jG:s.data.toList.length=s.size:=by rw[awK];rfl
 have HL:=zq jG;have hidx:∀hh,s[i]'hh=c:=λhh=>by have:=rU s i hh;rw[this]at hc0;exact aw3 hc0
 have g0:(0:Int)<=(i:Int):=ae;have g1:(i:Int)<(s.size:Int):=ae;have hdr:=lF hc0;obtain⟨X,hX⟩:∃X,X=bK (s.data.toList.drop i):=⟨_,rfl⟩
 rw[<-hX];have hB:=Bx.new 79 ↑Zz.a w;have hE:=Ev.alloc w (.cells ↑Zz.a 79);obtain⟨w0,hw0⟩:∃w0,w.alloc (.cells ↑Zz.a 79)=w0:=⟨_,rfl⟩
 rw[hw0]at hB hE;have HB:=zq hB;have HE:=zq hE;clear hB hE;by_cases Jr:c.toNat=34
 ·have e34:(c.toNat:Int)=34:=ae;have HT:=zq (λw1:ak=>ade s w1 hs i hi);rw[hdr]at hX;simp[bK,Jr]at hX;have hp:=lD _ (s.data.toList.drop (i+1)) [] 1 (awj _);have hn:=JC _ (s.data.toList.drop (i+1)) [] 1 (awj _);rw[<-hX]at hp hn HT;have HP:=zq hp;have HN:=zq hn;clear hX hdr hc0 hp hn;go_enter func77,ntmps77
  go_wp2_with (first|((with_reducible refine(HT.out _).mono ?_);rintro e w1 ⟨sb,en,wh,rfl,HO,aK⟩;have B1:=HB.out.ev aK;have E1:=HE.out.trans aK;obtain⟨⟨c0,c1,c2,c3,c4⟩,f0,f1,f2,f3,f4⟩:=B1.five))
  (try simp only[Exit.inBlock,Exit.then]);rw[b_];refine bodyPost_ret (nZ rfl _ _ _ _ _ rfl (B1.kH _ _ _ _ _) underlying79 rfl Tryz.iW) rfl ?_;exact⟨_,_,_,_,_,_,rfl,λh=>⟨((HP.out.2 h).1).symm,(HO.ok h).1,HN.out.symm,rfl,(HO.ok h).2⟩,HO.bad,E1.box (bJ _ _ _ _ _ _ _) (awj _)⟩
 have e34:¬((c.toNat:Int)=34):=ae;have aie:((c.toNat:Int)==34)=false:=awg.2 e34;have rO:=zq Fz;have HC:=Fz c
 cases hlc:bn c with
 | true=>
  rw[hlc]at HC;have HC:=zq HC;have aih:=hlc;unfold bn at aih;simp at aih;have hnd:aY c=false:=by unfold aY;simp;omega
  rw[hdr]at hX;simp only[bK,hlc,hnd,show (c.toNat==40)=false by simp;omega,show (c.toNat==41)=false by simp;omega,show (c.toNat==34)=false by simp;omega,show (c.toNat==45)=false by simp;omega]at hX;simp at hX;rw[<-hdr]at hX;have hrl:=jQ bn (s.data.toList.drop i);rw[awQ,jG]at hrl;obtain⟨q,hq⟩:∃q,q=sxRun bn (s.data.toList.drop i):=⟨_,rfl⟩
  rw[<-hq]at hX hrl;have HX:=zq hX;have HQ:=zq hq;clear hX hdr hc0 hq jG;go_enter func77,ntmps77
  go_wp2_with (first|((with_reducible refine(HC.out _).mono ?_);rintro e w1 ⟨rfl,rfl⟩))
  go_loop [12] (λiv=>∃j:Nat,iv=↑j/\i<=j/\j<=s.size/\Hid (sxRun bn (s.data.toList.drop j)+(j - i)=q)) (λiv=>s.size - (intOf iv).toNat)
  case atStart=>exact⟨i,rfl,awj _,ae,zq (by rw[HQ.out];omega)⟩
  case round=>
   obtain⟨j,rfl,hj0,hj1,HJ⟩:=hrel;obtain⟨⟨c0,c1,c2,c3,c4⟩,f0,f1,f2,f3,f4⟩:=HB.out.five;have DK:(0:Int)<=(i:Int):=ae;have Ci:(i:Int)<=(j:Int):=ae;have UE:(j:Int)<=(s.size:Int):=ae;have qj:Hid (j - i=q->(s.extract i j)=⟨((s.data.toList.drop i).take q).toArray⟩):=zq λh=>by apply ByteArray.ext;apply Array.toList_inj.1;rw[Lib.extract_eq,h]
   have HXE:Hid (j - i=q->(j:Int)=((i+q:Nat):Int)):=zq (λh=>by omega);by_cases hlt:j<s.size
   ·have hat:=rU s j hlt;obtain⟨x,ex⟩:∃x,s[j]=x:=⟨_,rfl⟩
    have hx1:∀hh,s[j]'hh=x:=λ_=>ex;rw[ex]at hat;have hst:=mW bn s.data.toList j x hat;have q0:(0:Int)<=(j:Int):=ae;have q1:(j:Int)<(s.size:Int):=ae;have qC:=rO.out x
    cases iJ:bn x with
    | true=>
     rw[iJ]at qC hst;simp only[if_true]at hst;have qC:=zq qC;have HJ2:Hid (sxRun bn (s.data.toList.drop (j+1))+(j+1 - i)=q):=zq (by have:=HJ.out;omega);clear hst hat ex
     go_wp2_with (first|((with_reducible refine(qC.out _).mono ?_);rintro e w1 ⟨rfl,rfl⟩))
     go_round
     case rel=>exact⟨j+1,by go_num,ae,ae,HJ2⟩
     case measure=>simp[intOf];omega
    | false=>
     rw[iJ]at qC hst;simp only[awv,if_false]at hst;have qC:=zq qC;have hjq:j - i=q:=by have:=HJ.out;omega
     have HJQ:=zq hjq;clear hst hat ex hjq
     go_wp2_with (first|((with_reducible refine(qC.out _).mono ?_);rintro e w1 ⟨rfl,rfl⟩))
     exact ayH
   have q1:¬((j:Int)<(s.size:Int)):=ae;have hjq:j - i=q:=by have:=HJ.out;rw[aw2 (by rw[HL.out];omega)]at this;simp[sxRun]at this;exact this
   have HJQ:=zq hjq;clear hjq;go_wp2;exact ayH
 | false=>
  rw[hlc]at HC;have HC:=zq HC;have hk2:c.toNat=45∨aY c=true:=by rcases hk with h|h|h|h;exact absurd h Jr;exact .inl h;rw[hlc]at h;cases h;exact .inr h
  have Xl:X=dO (s.data.toList.drop i):=by
   rw[hX,hdr];have h4:(c.toNat==40)=false/\(c.toNat==41)=false:=by rcases hk2 with h|h;simp[h];unfold aY at h;simp at h;simp;omega
   have h5:(c.toNat==45||aY c)=true:=by simp;exact hk2
   simp only[bK,h4.1,h4.2,h5,show (c.toNat==34)=false by simp;omega];simp
  have HN:=λw1=>Yr s w1 hs i c hi hc0;rw[<-Xl]at HN;have HN:=zq HN;have HX3:Hid (X.why=0->X.kind=3/\X.s=[]):=zq (by rw[Xl];exact Nb _);have HX4:Hid (X.why≠0->X.why=12/\X.fault=0):=zq (by rw[Xl];exact PG _);obtain⟨wy,hwy⟩:∃wy,wy=X.why:=⟨_,rfl⟩
  rw[<-hwy]at HN;clear hX Xl hdr hc0;by_cases hw:wy=0
  ·have MN:(wy==0)=true:=by rw[hw];rfl
   rw[MN]at HN;subst hw;have HW:=zq hwy;clear hwy MN;go_enter func77,ntmps77
   go_wp2_with (first
    | ((with_reducible refine(HC.out _).mono ?_);rintro e w1 ⟨rfl,rfl⟩)
    | ((with_reducible refine(HN.out _).mono ?_);rintro e w1 ⟨j,rfl,hj,aK⟩;have HJ:=zq (hj aj);clear hj;have B1:=HB.out.ev aK;have E1:=HE.out.trans aK;obtain⟨⟨c0,c1,c2,c3,c4⟩,f0,f1,f2,f3,f4⟩:=B1.five))
   (try simp only[Exit.inBlock,Exit.then]);rw[b_];refine bodyPost_ret (nZ rfl _ _ _ _ _ rfl (B1.kH _ _ _ _ _) underlying79 rfl Tryz.iW) rfl ?_;exact⟨_,_,_,_,_,_,by rw[<-HW.out];rfl,(λh=>⟨((HX3.out h).1).symm,(by rw[(HX3.out h).2]),rfl,rfl,(by rw[HJ.out])⟩),(λh=>absurd HW.out.symm h),E1.box (bJ _ _ _ _ _ _ _) (awj _)⟩
  have MN:(wy==0)=false:=awg.2 hw;rw[MN]at HN;have HW:=zq hwy;have HW2:=zq hw;clear hwy MN hw;go_enter func77,ntmps77
  go_wp2_with (first
   | ((with_reducible refine(HC.out _).mono ?_);rintro e w1 ⟨rfl,rfl⟩)
   | ((with_reducible refine(HN.out _).mono ?_);rintro e w1 ⟨j,rfl,hj,aK⟩;clear hj;have B1:=HB.out.ev aK;have E1:=HE.out.trans aK;obtain⟨⟨c0,c1,c2,c3,c4⟩,f0,f1,f2,f3,f4⟩:=B1.five))
  (try simp only[Exit.inBlock,Exit.then]);rw[b_];refine bodyPost_ret (nZ rfl _ _ _ _ _ rfl (B1.kH _ _ _ _ _) underlying79 rfl Tryz.iW) rfl ?_;exact⟨_,_,_,_,_,_,by rw[(HX4.out (by rw[<-HW.out];exact HW2.out)).1];rfl,(λh=>absurd (HW.out.trans h) HW2.out),(λh=>by rw[(HX4.out h).2];rfl),E1.box (bJ _ _ _ _ _ _ _) (awj _)⟩
def Be:By:=[97,100,100]
def Bf:By:=[115,117,98]
def Bg:By:=[109,117,108]
def UF:By:=[101,113]
def UG:By:=[108,116]
def Bh:By:=[97,110,100]
def UH:By:=[111,114]
def Bi:By:=[99,97,116]
def Bj:By:=[110,101,103]
def Bl:By:=[110,111,116]
def Bo:By:=[108,101,110]
def Nc:By:=[105,102]
def PH(s:By):Bool:=s==Be||s==Bf||s==Bg||s==UF||s==UG||s==Bh||s==UH||s==Bi
def PI(s:By):Bool:=s==Bj||s==Bl||s==Bo
def bI(s:By):Nat:=if PH s then 2 else if PI s then 1 else if s==Nc then 3 else 0
def dh(s:By):ByteArray:=⟨s.toArray⟩
abbrev iC(s:By):Bool:=fK (dh s)
abbrev DU:=T×Int×Nat
def ku(why:Int)(pos:Nat):DU:=(dR,why,pos)
def xReads(s:By)(done:List T):List DU->DU
 | []=>(.mk 4 s 0 done 0,0,0)
 | r::l=>if r.2.1==0 then xReads s (done++[r.1]) l else (dR,r.2.1,r.2.2)
mutual
def xRead:T->DU
 | .mk k s n l p=>
  if k==2 then (if iC s then (.mk 1 s 0 [] 0,0,0) else ku 20 p)
  else if k==3 then (.mk 2 [] n [] 0,0,0)
  else if k==4 then (.mk 3 s 0 [] 0,0,0)
  else if k==1 then
   (match l with
    | []=>ku 12 p
    | h::q=>if h.kind==2&&!(bI h.s==0) then
      (if q.length==bI h.s then xReads h.s [] (DV q) else ku 23 p) else ku 12 p)
  else ku 12 p
def DV:List T->List DU
 | []=>[]
 | t::l=>xRead t::DV l
end
def lQ(e:T):Bool:=
 if e.kind==1 then !iC e.s||!(e.n==0)||!e.kids.isEmpty
 else if e.kind==2 then !e.s.isEmpty||!e.kids.isEmpty
 else if e.kind==3 then !(e.n==0)||!e.kids.isEmpty
 else if e.kind==4 then bI e.s==0||!(e.n==0)||!(e.kids.length==bI e.s)
 else true
mutual
def dQ:T->Bool
 | .mk k s n l p=>!lQ (.mk k s n l p)&&rP l
def rP:List T->Bool
 | []=>true
 | t::l=>dQ t&&rP l
end
mutual
def T.size:T->Nat
 | .mk _ _ _ l _=>T.sizes l+1
def T.sizes:List T->Nat
 | []=>0
 | t::l=>t.size+T.sizes l
end
def tH(ks:List Int)(k:Int):Bool:=ks.all (·==k)
def bP(s:By)(ks:List Int):Int×Int:=
 if s==Be||s==Bf||s==Bg||s==Bj||s==Bh||s==UH||s==Bl then (if tH ks 1 then (1,0) else (0,22))
 else if s==UF||s==UG then (if ks.getD 0 0==ks.getD 1 0 then (1,0) else (0,22))
 else if s==Bi then (if tH ks 2 then (2,0) else (0,22))
 else if s==Bo then (if tH ks 2 then (1,0) else (0,22))
 else if s==Nc then (if ks.getD 0 0==1&&ks.getD 1 0==ks.getD 2 0 then (ks.getD 1 0,0) else (0,22))
 else (0,22)
def xKindsGo(s:By)(done:List Int):List (Int×Int)->Int×Int
 | []=>bP s done
 | r::l=>if r.2==0 then xKindsGo s (done++[r.1]) l else (0,r.2)
mutual
def xKind(cols:List C):T->Int×Int
 | .mk k s n l p=>
  if k==1 then (match fM cols (dh s) with|none=>(0,20)|some i=>((cols.getD i (⟨#[]⟩,0)).2,0))
  else if k==2 then (1,0)
  else if k==3 then (2,0)
  else xKindsGo s [] (CO cols l)
def CO(cols:List C):List T->List (Int×Int)
 | []=>[]
 | t::l=>xKind cols t::CO cols l
end
def xType(cols:List C)(e:T):Int×Int:=if dQ e then xKind cols e else (0,22)
def v0:V:=(0,0,⟨#[]⟩)
def ec(m:M):List au:=[↑m.kind,↑m.s,↑m.n,m.kv]
def Az(m:M):au:=.agg #[↑m.kind,↑m.s,↑m.n,m.kv]
abbrev Es:=Sl 4 ec
theorem xU:Enc 4 ec:=⟨ae,λ_=>rfl,λx u hu=>by
 simp[ec,M.kv]at hu;rcases hu with rfl|rfl|rfl|rfl<;>rfl⟩
inductive Lx(b0:Nat)(K:List Nat)(w:ak):M->Prop
 | mk {kind:Int} {s:By} {n:Int} {A:Option Addr} {cap:Nat} {kids:List M} {pos:Nat}:Es w A kids.length cap kids->(∀ad,A=some ad->b0<=ad.block/\ad.block<w.heap.size/\ad.block∉K)->(∀k∈kids,Lx b0 K w k)->
   Lx b0 K w (.mk kind s n A cap kids pos)
theorem Lx.es{b0:Nat}{K:List Nat}{w:ak}{m:M}(h:Lx b0 K w m):Es w m.A m.kids.length m.cap m.kids:=by
 cases h with
 | mk h1 h2 h3=>exact h1
theorem Lx.kid{b0:Nat}{K:List Nat}{w:ak}{m:M}(h:Lx b0 K w m):∀k∈m.kids,Lx b0 K w k:=by
 cases h with
 | mk h1 h2 h3=>exact h3
theorem Lx.move{b0:Nat}{K K':List Nat}{w w':ak}{m:M}(h:Lx b0 K w m)(hb:But K w w')(hs:∀x∈K',x∈K∨x<b0∨w.heap.size<=x):Lx b0 K' w' m:=by exact ay1
theorem Lx.ev{b0:Nat}{K:List Nat}{w w':ak}{m:M}(h:Lx b0 K w m)(hE:Ev w w'):Lx b0 K w' m:=h.move (But.aV hE) λ_ hx=>.inl hx
theorem Lx.low{b0 b1:Nat}{K:List Nat}{w:ak}{m:M}(h:Lx b1 K w m)(hb:b0<=b1):Lx b0 K w m:=by exact aAH
theorem Lx.less{b0:Nat}{K K':List Nat}{w:ak}{m:M}(h:Lx b0 K w m)(hs:∀x∈K',x∈K∨x<b0∨w.heap.size<=x):Lx b0 K' w m:=h.move (But.refl _ _) hs
theorem Lx.leaf{b0:Nat}{K:List Nat}{w:ak}{k:Int}{s:By}{n:Int}{p:Nat}:Lx b0 K w (.mk k s n none 0 [] p):=.mk (Sl.nil_ w) (λ_ h=>by cases h) (λ_ h=>by cases h)
theorem Es.cell{w:ak}{A:Option Addr}{n cap:Nat}{l:List M}(h:Es w A n cap l){i:Nat}{x:M}(hx:l[i]?=some x):∃b off,A=some ⟨b,off,none⟩/\b<w.heap.size/\
  w.cell? ⟨b,off+i*4,none⟩=some ↑x.kind/\w.cell? ⟨b,off+i*4+1,none⟩=some ↑x.s/\w.cell? ⟨b,off+i*4+2,none⟩=some ↑x.n/\w.cell? ⟨b,off+i*4+3,none⟩=some x.kv:=by
 have hi:=(awi.1 hx).1;have hl:=h.len;obtain⟨b,off,e,hlt,hc⟩:=h.rd ae;exact⟨b,off,e,hlt,hc i x hx 0 _ rfl,hc i x hx 1 _ rfl,hc i x hx 2 _ rfl,hc i x hx 3 _ rfl⟩
mutual
def M.dep:M->Nat
 | .mk _ _ _ _ _ l _=>M.deps l+1
def M.deps:List M->Nat
 | []=>0
 | m::l=>max m.dep (M.deps l)
end
theorem M.DW:∀(l:List M) (k:M),k∈l->k.dep<=M.deps l
 | [],k,h=>by cases h
 | m::l,k,h=>by rcases awq.1 h with rfl|h;simp[M.deps];omega;have:=M.DW l k h;simp[M.deps];omega
theorem M.nT(m:M):m.dep=M.deps m.kids+1:=by cases m;rfl
theorem M.mg{m k:M}(h:k∈m.kids):k.dep<m.dep:=by have:=M.DW m.kids k h;rw[M.nT m];omega
theorem M.uJ(m:M):m.t.s=m.s:=by rw[M.rV];rfl
theorem M.t_n(m:M):m.t.n=m.n:=by rw[M.rV];rfl
theorem uk:∀l:List T,DV l=l.map xRead
 | []=>rfl
 | t::l=>by simp[DV,uk l]
theorem wM:∀l:List T,rP l=l.all dQ
 | []=>rfl
 | t::l=>by simp[rP,wM l]
theorem CP(cols:List C):∀l:List T,CO cols l=l.map (xKind cols)
 | []=>rfl
 | t::l=>by simp[CO,CP cols l]
theorem T.qK:∀l:List T,T.sizes l=(l.map T.size).sum
 | []=>rfl
 | t::l=>by simp[T.sizes,T.qK l]
end Go.Proofs.YtpbfokkocaemlaaGreatDoor
