import Derived.Test.YtbgmhhfjkkfhpaaGreatDoorZ18G
set_option linter.unusedVariables false
set_option maxRecDepth 100000
set_option maxHeartbeats 64000000
namespace Go.Proofs.YtbgmhhfjkkfhpaaGreatDoor
open Go.RowKit
open Go.Lib renaming hid → zq
open Go renaming World → ak
open Go renaming Value → au
open Go.Proofs.Tryz renaming prog → ax
variable {U:Prop}
open Go.Proofs.Tryz
theorem IW{P:Program}{w:ak}{ops:Array Oper}{rest:List Oper}{o:Oper}{a:Act}{Q:Exit->Act->ak->Prop}(hgd:o.guard=none)(s x:Operand)
  (hop:o.op=.call {callee:=.builtin .append,args:=#[s,x],argTypes:=#[184,184]})
  (ht:P.underlying 184=some (.slice 186)) (hi:(P.info? 186).map (λi=>(i.zero,i.size,i.bytes))=some (some (.agg ↑Zz.a),5,64))
  (base:Nat) (v:au) (n:Nat) (xs:List au) (hs:a.eval s=v) (hown:w.ownsRow base 186 5 v n xs) (b c:Nat) (hx:a.eval x=.slice ↑b 1 c) (m:M)
  (hm:∀j u,(mc m)[j]?=some u->w.cell? ⟨b,j,none⟩=some u) (hn:n<=1000000) (hbase:base<=w.heap.size)
  (h:∀v' w',w'.ownsRow base 186 5 v' (n+1) (xs++mc m)->w.grownBy w' v.ownBlock->(v'.ownBlock=v.ownBlock∨v'.ownBlock=some w.heap.size)->wpList P ops Q rest (a.put o.dst v') w'):wpList P ops Q (o::rest) a w:=by
 refine wpList_plain hgd λK hK=>?_;obtain⟨i,uj,hz,hsz,hby⟩:=aE' hi;obtain⟨v',w',hr,h1,h2,_,h4⟩:=run_append_own_at (P:=P) w base 184 o.type 186 i _ 5 64 ht uj hz hsz hby rfl ai v n xs hown ⟨b,0,none⟩ 1 c (mc m) rfl (λj u hu=>by rw[aE9,aDt];exact hm j u hu)
  (λu hu=>BZ [m] u (by rw[mY];exact hu)) (by unfold maxLen;omega) ae hbase
 unfold Oper.wp execOp;simp only[hop,resolve,invoke,builtin,aFa,aFb,aFc,aD1,aDe,aDu,hs,hx,hr];exact hK _ _ (h v' w' h1 h2 h4)
def mJ(k:Int)(s:By)(n:Int)(p:Nat):M:=.mk k s n none 0 [] p
theorem Lies.tok(b0:Nat)(K:List Nat)(w:ak)(k:Int)(s:By)(n:Int)(p:Nat):Lies b0 K w (mJ k s n p):=.mk (Sl.nil_ w) (λ_ h=>by cases h) (λ_ h=>by cases h)
theorem Opn.pop{base:Nat}{w:ak}{vb q iJ:Nat}{os:List M}{e:M}(h:Opn base w (.slice ↑vb (q+1) iJ) (os++[e]))(hq:os.length=q):
  Opn base w (.slice ↑vb q iJ) os/\Lies base (blk (.slice ↑vb q iJ) os) w e/\(∀x∈blk (.slice ↑vb q iJ) os,x∈blk (.slice ↑vb (q+1) iJ) (os++[e])):=by
 subst hq;have hnd:=h.nd;rw[qp]at hnd;have KQ:=aEL.1 hnd;have hbe:blk (.slice ↑vb os.length iJ) os=blk (.slice ↑vb (os.length+1) iJ) os:=rfl;have hsub:∀x∈blk (.slice ↑vb os.length iJ) os,x∈blk (.slice ↑vb (os.length+1) iJ) (os++[e]):=λx hx=>by rw[qp];exact aDy _ hx
 have hlies:∀m,Lies base (blk (.slice ↑vb (os.length+1) iJ) (os++[e])) w m->Lies base (blk (.slice ↑vb os.length iJ) os) w m:=λm hm=>hm.less λx hx=>.inl (hsub x hx);refine⟨⟨?_,λe0 he0=>h.kid e0 (aDy _ he0),by rw[hbe];exact KQ.1,λe0 he0 m hm=>hlies m (h.lies e0 (aDy _ he0) m hm)⟩,?_,hsub⟩;rcases h.own.2 with⟨hv,_⟩|⟨g',cap',cur,hv,hb,hh,AU,hcm,hcs,ht⟩
 cases hv
 injection hv with h1 h2 h3
 injection h1 with h1
 injection h1 with h1 _ _
 subst h1 h3;have hlen:(os++[e]).length=os.length+1:=aj;rw[hlen,og]at ht;rw[hlen]at AU;refine⟨by rw[kT],.inr ⟨vb,iJ,cur,rfl,hb,hh,ae,hcm,hcs,?_⟩⟩;have:=aD8 (List.take (os.length*5)) ht;rw[List.take_take,Nat.min_eq_left ae,List.take_left' (kT os)]at this;exact this;have hk:=h.kid e aj;obtain⟨k,s,n,A,c,l,p⟩:=e;refine .mk (FH hk) (λad hA=>?_) λm hm=>hlies m (h.lies (.mk k s n A c l p) aj m hm);subst hA;have hown:(M.kv (.mk k s n (some ad) c l p)).ownBlock=some ad.block:=rfl;refine⟨(hk.lt _ hown).1,(hk.lt _ hown).2,λhm=>?_⟩;rw[hbe]at hm;exact KQ.2.2 _ hm _ (aG.2 hown) rfl
theorem Aj{α:Type}(l:List α)(h:l≠[]):∃l' a,l=l'++[a]:=⟨l.dropLast,l.getLast h,(List.dropLast_concat_getLast h).symm⟩
theorem Ux{v v1:au}(h:v1.ownBlock=v.ownBlock):foot v1=foot v:=by unfold foot;rw[h]
theorem Opn.push{base:Nat}{w w2:ak}{v v1:au}{os:List M}{q:Nat}{k:Int}{s:By}{n:Int}{p:Nat}(h:Opn base w v os)(hq:q=os.length)(h1:w2.ownsRow base 186 5 v1 (q+1) (j_ os++mc (mJ k s n p)))(B:But (foot v) w w2)
  (h3:v1.ownBlock=v.ownBlock∨∃g,v1.ownBlock=some g/\w.heap.size<=g):Opn base w2 v1 (os++[mJ k s n p])/\(∀x∈blk v1 (os++[mJ k s n p]),x∈blk v os∨w.heap.size<=x):=by
 subst hq;have KQ:=aEL.1 (show (foot v++os.flatMap λe=>foot e.kv).Nodup from h.nd);have hbe:blk v1 (os++[mJ k s n p])=foot v1++os.flatMap λe=>foot e.kv:=by rw[qp,show foot (mJ k s n p).kv=[] from rfl,aD5];rfl
 have hsub:∀x∈blk v1 (os++[mJ k s n p]),x∈blk v os∨w.heap.size<=x:=λx hx=>by
  rw[hbe]at hx;rcases aDm.1 hx with h4|h4;rcases h3 with h5|⟨g,h5,h6⟩
  rw[Ux h5]at h4;exact .inl (aDy _ h4);have:=aG.1 h4;rw[h5]at this;simp at this;exact .inr ae;exact .inl (aD7 _ h4)
 refine⟨⟨by rw[og,mY,show (os++[mJ k s n p]).length=os.length+1 by simp];exact h1,λe he=>?_,?_,λe he m hm=>?_⟩,hsub⟩;rcases aDm.1 he with h4|h4;exact ZB (h.kid e h4) B λg hg hm=>KQ.2.2 _ hm _ (aEh.2 ⟨e,h4,aG.2 hg⟩) rfl;simp at h4;subst h4;exact aE_ _ _ _ _
 ·rw[hbe,aEL];refine⟨?_,KQ.2.1,λa ha b hb=>?_⟩
  ·unfold foot
   cases v1.ownBlock<;>simp
  rcases h3 with h5|⟨g,h5,h6⟩
  rw[Ux h5]at ha;exact KQ.2.2 a ha b hb;have h7:=aG.1 ha;rw[h5]at h7;simp at h7;have h8:=(h.range (g:=b) (aD7 _ hb)).2;omega
 rcases aDm.1 he with h4|h4;exact(h.lies e h4 m hm).move (B.wide λx hx=>.inl (aDy _ hx)) (λx hx=>(hsub x hx).imp id .inr);simp at h4;subst h4
 cases hm
def ahr(base:Nat)(v:au)(os:List M)(t:T)(w:ak)(r:Ending)(w':ak):Prop:=
 ∃v' os',r=.returned v'/\Opn base w' v' os'/\os'.map M.t=sxTake (os.map M.t) t/\os'≠[]/\But (blk v os) w w'/\(∀x∈blk v' os',x∈blk v os∨w.heap.size<=x)
theorem ahs{base:Nat}{v:au}{os:List M}(w:ak)(h:Opn base w v os)(h0:os≠[])(k:Int)(s:By)(n:Int)(p:Nat)(hk:k=-1->2<=os.length)(hl:os.length<=1000000)(qm:∀e∈os,e.kids.length<=1000000):
  Calls ax 185 #[v,mv (mJ k s n p)] w (ahr base v os (mJ k s n p).t w):=by
 obtain⟨vb,iJ,rfl,hle,hmx,hvb,hlt,_,_⟩:=h.at h0;obtain⟨w0,hw0⟩:∃w0,w0=w.alloc (.cells (mc (mJ k s n p)).toArray 186):=⟨_,rfl⟩
 have aV:Ev w w0:=hw0▸Ev.alloc w _;have hb:w0.heap[w.heap.size]?=some (.cells (mc (mJ k s n p)).toArray 186 (0,0)):=by rw[hw0];exact aFd _ _
 have h':=h.ev aV;have hck:∀j u,(mc (mJ k s n p))[j]?=some u->w0.cell? ⟨w.heap.size,j,none⟩=some u:=λj u hu=>by rw[aFf hb];simpa using hu
 have b0:w0.cell? ⟨↑w,0,none⟩=some ↑k:=hck 0 _ rfl;have b1:w0.cell? ⟨w.heap.size,1,none⟩=some ↑s:=hck 1 _ rfl;have b2:w0.cell? ⟨w.heap.size,2,none⟩=some ↑n:=hck 2 _ rfl;have b3:w0.cell? ⟨w.heap.size,3,none⟩=some ↑():=hck 3 _ rfl;have b4:w0.cell? ⟨w.heap.size,4,none⟩=some ↑p:=hck 4 _ rfl;have ahh:w.alloc (.cells #[↑k,↑s,↑n,↑(),↑p] 186)=w0:=hw0.symm;have hmv:mv (mJ k s n p)=.agg #[↑k,↑s,↑n,↑(),↑p]:=rfl;have hlw:w.heap.size<w0.heap.size:=by rw[hw0];simp
 have hT:(mJ k s n p).t.kind=k:=by rw[M.xm];rfl
 clear hb hck hw0;rw[hmv];by_cases k1:k=1
 ·subst k1;have hTk:sxTake (os.map M.t) (mJ 1 s n p).t=os.map M.t++[(mJ 1 s n p).t]:=by unfold sxTake;rw[hT];rfl
  obtain⟨q,hq⟩:∃q,q=os.length:=⟨_,rfl⟩
  rw[<-hq]at h h' hle hl|-;have HH:=zq h';have HQ:=zq hq;have HTk:=zq hTk;have aJ:Ev w0 (w0.alloc (.cells #[.int .i64 1,↑s,↑n,↑(),↑p] 186)):=Ev.alloc _ _;have HZ:Hid (∀j u,(mc (mJ 1 s n p))[j]?=some u->(w0.alloc (.cells #[.int .i64 1,↑s,↑n,↑(),↑p] 186)).cell? ⟨w0.heap.size,j,none⟩=some u):=zq λj u hu=>by rw[aFf (aFd w0 _)];simpa[mc,mJ,M.kind,M.s,M.n,M.kv,M.A,M.kids,M.cap,M.pos] using hu
  have hbw:base<=w0.heap.size:=by have:=h'.range (g:=vb) (xu.2 (.inl rfl));omega
  clear hq hTk hT h';go_enter func185,ntmps185
  go_wp2_with (first
   | ((show wpList _ _ _ (⟨some 19,_,_,_,_,_⟩::_) _ _);refine IW (o:=⟨some 19,_,_,_,_,_⟩) rfl (.tmp 16) (.tmp 18) rfl underlying184 Tryz.infoTree base (.slice ↑vb q iJ) q (j_ os) rfl (by have:=(HH.out.ev aJ).own;rwa [<-HQ.out]at this) w0.heap.size 1 rfl (mJ 1 s n p) HZ.out hl (aDr hbw aJ.size) ?_;intro v1 w1 h1 h2 h3;obtain⟨A1,n1,cap1,rfl⟩:∃A1 n1 cap1,v1=.slice A1 n1 cap1:=(by rcases h1.2 with⟨rfl,_⟩|⟨g,cap,cur,rfl,_⟩<;>exact⟨_,_,_,rfl⟩)))
  go_ret;have hB:But (foot (.slice ↑vb q iJ)) w w1:=((But.aU aV).then (But.aU aJ)).then (But.grown h2 λg hg=>aG.2 hg);have hP:=Opn.push (k:=1) (s:=s) (n:=n) (p:=p) h HQ.out h1 hB (by
   rcases h3 with h4|h4;exact .inl h4;exact .inr ⟨_,h4,aDr aV.size aJ.size⟩)
  exact⟨_,_,rfl,hP.1,by rw[HTk.out];simp,aj,hB.wide λx hx=>.inl (aDy _ hx),hP.2⟩
 have k1':(k==1)=false:=aC7.2 k1;by_cases k2:k=-1
 ·subst k2;obtain⟨os0,e,rfl⟩:=Aj os h0;have h00:os0≠[]:=by intro h5;subst h5;have:=hk rfl;simp at this
  obtain⟨os1,e1,rfl⟩:=Aj os0 h00;have hTk:sxTake ((os1++[e1]++[e]).map M.t) (mJ (-1) s n p).t=os1.map M.t++[e1.t.add e.t]:=by unfold sxTake;rw[hT];simp only[aDk,aDe,aDu,List.getLast?_append,List.getLast?_singleton,List.dropLast_concat];exact mX _ _ _
  have HTk:=zq hTk;obtain⟨q,hq⟩:∃q,(os1++[e1]).length=q:=⟨_,rfl⟩
  have BU:1<=q:=by rw[<-hq];simp
  have hlen:(os1++[e1]++[e]).length=q+1:=by rw[aDd,hq];rfl
  rw[hlen]at h h' hle hl|-;obtain⟨hp1,hp2,hp3⟩:=h'.pop hq;obtain⟨_,_,hvv,_,_,_,_,hfr,hc⟩:=h'.at aj;injection hvv with BR hv2 hv3
  injection BR with BR
  injection BR with BR _ _
  subst BR hv3;clear hv2;obtain⟨c0,c1,c2,c3,c4⟩:=hc q e (by rw[<-hq];simp);have HP:=λw1 (hE:Ev w0 w1)=>adN w1 (hp1.ev hE) (hp2.ev hE) (qm e1 aj);unfold mv at HP;have HP:=zq HP;have ayx:vb<w0.heap.size:=aDf hlt aV.size;have i1:(0:Int)<=(q:Int):=ae;have i2:(q:Int)<(q:Int)+1:=ae;have i3:(q:Int)<=(iJ:Int):=ae;have i4:q<=iJ:=ae;have i5:¬(iJ<q):=ae;have HS3:=zq hp3;have hBk:Hid (∀w3,But (blk (.slice ↑vb q iJ) (os1++[e1])) w0.drew w3->But (blk (.slice ↑vb (q+1) iJ) (os1++[e1]++[e])) w w3):=zq λw3 hb'=>(But.aU (aV.trans (Ev.drew w0))).then (hb'.wide λx hx=>.inl (hp3 x hx));clear hTk hT h' hp1 hp2 hc hfr hq qm hk hlen hp3;go_enter func185,ntmps185
  go_wp2_with fail
  go_region_with (first|((with_reducible refine(HP.out _ (Ev.drew _)).mono ?_);rintro r w3 ⟨rfl,e',he',JO,hb',hs'⟩))
  all_goals (go_wp2;go_ret;exact⟨_,_,rfl,JO,by rw[HTk.out];simp[he'],aj,hBk.out _ hb',λx hx=>(hs' x hx).imp (HS3.out x) (λh5=>aDr aV.size h5)⟩)
 have k2':(k==-1)=false:=aC7.2 k2;obtain⟨os1,e1,rfl⟩:=Aj os h0;have hTk:sxTake ((os1++[e1]).map M.t) (mJ k s n p).t=os1.map M.t++[e1.t.add (mJ k s n p).t]:=by unfold sxTake;rw[hT];simp only[k1',k2',aDk,aDe,aDu,aDq,aDU];exact mX _ _ _
 have HTk:=zq hTk;have HP:=λw1 (hE:Ev w0 w1)=>adN w1 (h'.ev hE) (Lies.tok _ _ w1 k s n p) (qm e1 aj);rw[hmv]at HP;have HP:=zq HP;obtain⟨q,hq⟩:∃q,(os1++[e1]).length=q:=⟨_,rfl⟩
 rw[hq]at hle HP h|-;have BU:1<=q:=by rw[<-hq];simp
 clear hTk hT h' hq qm hk;go_enter func185,ntmps185
 go_wp2_with (first|((with_reducible refine(HP.out _ aS).mono ?_);rintro r w3 ⟨rfl,e',he',JO,hb',hs'⟩))
 go_ret;exact⟨_,_,rfl,JO,by rw[HTk.out];simp[he'],aj,(But.aU aV).then hb',λx hx=>(hs' x hx).imp id (λh5=>aDr aV.size h5)⟩
theorem aG9(h:U:=by refine⟨λhw=>⟨(h1 hw).1,by have:=(h1 hw).2;simp only[aDh];omega⟩,λhw=>⟨(h2 hw).1,by have:=(h2 hw).2;omega,by have:=(h2 hw).2;simp only[aDh];omega⟩⟩):U:=h
theorem kU:∀(N:Nat) (r b:By) (i:Nat),r.length<=N->((sxTextGo b r i).why≠0->(sxTextGo b r i).kind=0/\((sxTextGo b r i).fault<=i+r.length))/\((sxTextGo b r i).why=0->(sxTextGo b r i).kind=4/\i+1<=(sxTextGo b r i).size/\(sxTextGo b r i).size<=i+r.length)
 | 0,[],b,i,_=>by simp[sxTextGo,aW]
 | N+1,[],b,i,_=>by simp[sxTextGo,aW]
 | 0,c::q,b,i,h=>by simp at h
 | N+1,c::q,b,i,h=>by
  have hq:q.length<=N:=by simpa using h
  unfold sxTextGo;by_cases hp:bV c=true;rw[if_pos hp];obtain⟨h1,h2⟩:=kU N q (b++[c]) (i+1) hq;exact aG9;rw[if_neg hp];by_cases WH:(c.toNat==92)=true;rw[if_pos WH]
  cases q with
  | nil=>simp[aW]
  | cons x q1=>
   simp only[]
   cases hx:gV x with
   | none=>
    simp[aW]
   | some a=>
    cases q1 with
    | nil=>simp[aW]
    | cons y q2=>
     simp only[]
     cases hy:gV y with
     | none=>
      simp[aW]
     | some k=>
      simp only[];obtain⟨h1,h2⟩:=kU N q2 (b++[UInt8.ofNat (16*a+k)]) (i+3) (by simp at hq;omega);exact aG9
  rw[if_neg WH];by_cases KP:(c.toNat==34)=true;rw[if_pos KP];by_cases IU:40<b.length;rw[if_pos IU];simp[aW];rw[if_neg IU];simp;rw[if_neg KP];simp[aW]
theorem kP(plus:Bool)(d:By)(hd:∀c∈d,aY c=true):((sxNum plus d).why≠0->(sxNum plus d).kind=0/\(sxNum plus d).fault=0)/\
  ((sxNum plus d).why=0->(sxNum plus d).kind=3/\1<=d.length/\(sxNum plus d).size=(if plus then d.length else 1+d.length)/\(if plus then 0<=(sxNum plus d).n else (sxNum plus d).n<=0)):=by
 unfold sxNum
 cases hb:sxBelow d 0 with
 | none=>simp[aW]
 | some n=>
  have hr:=pX d hd 0 n ae ae hb;simp only[];by_cases h1:(d.isEmpty||plus&&decide (n=-9223372036854775808))=true;rw[if_pos h1];simp[aW];rw[if_neg h1];have hne:d.isEmpty=false:=by
   cases W9:d.isEmpty
   rfl;rw[W9]at h1;simp at h1
  have hlen:1<=d.length:=by
   cases d with
   | nil=>simp at hne
   | cons c q=>simp
  cases plus
  simp[hlen];omega;simp[hlen];omega
structure XB(c:UInt8)(r:By)(x:Tk):Prop where
 bad:x.why≠0->x.kind=0/\x.fault<=r.length
 good:x.why=0->1<=x.size/\x.size<=r.length/\
  ((x.kind=1/\c.toNat=40)∨x.kind=-1∨(x.kind=2/\97<=c.toNat/\c.toNat<=122/\∃q,x.s=c::q)∨(x.kind=3/\(c.toNat=45/\x.n<=0∨48<=c.toNat/\c.toNat<=57/\0<=x.n))∨(x.kind=4/\c.toNat=34))
theorem vV(c:UInt8)(q:By):XB c (c::q) (bJ (c::q)):=by
 simp only[bJ];by_cases IU:(c.toNat==40)=true;rw[if_pos IU];have as4:c.toNat=40:=by simpa using IU
 exact⟨λh=>absurd rfl h,λ_=>⟨aC8 _,aj,.inl ⟨rfl,as4⟩⟩⟩;rw[if_neg IU];by_cases h41:(c.toNat==41)=true;rw[if_pos h41];exact⟨λh=>absurd rfl h,λ_=>⟨aC8 _,aj,.inr (.inl rfl)⟩⟩;rw[if_neg h41];by_cases KP:(c.toNat==34)=true;rw[if_pos KP];have as5:c.toNat=34:=by simpa using KP
 obtain⟨h1,h2⟩:=kU q.length q [] 1 (aC8 _);exact⟨λh=>⟨(h1 h).1,by have:=(h1 h).2;simp;omega⟩,λh=>⟨by have:=(h2 h).2;omega,by have:=(h2 h).2;simp;omega,.inr (.inr (.inr (.inr ⟨(h2 h).1,as5⟩)))⟩⟩;rw[if_neg KP];by_cases hn:(c.toNat==45||aY c)=true;rw[if_pos hn];simp only[dL];by_cases h45:(c.toNat==45)=true;rw[if_pos h45];have as6:c.toNat=45:=by simpa using h45
 obtain⟨h1,h2⟩:=kP false (dC q) (eF q);have hl:=qY q;have hr:=jJ aY q;refine⟨λh=>⟨(h1 h).1,by rw[(h1 h).2];exact aDl _⟩,λh=>?_⟩;obtain⟨g1,g2,g3,g4⟩:=h2 h;simp at g3 g4;refine⟨ae,by simp;omega,.inr (.inr (.inr (.inl ⟨g1,.inl ⟨as6,g4⟩⟩)))⟩;rw[if_neg h45];have Oj:aY c=true:=by simpa[h45] using hn
 have an7:48<=c.toNat/\c.toNat<=57:=by simpa[aY] using Oj
 obtain⟨h1,h2⟩:=kP true (dC (c::q)) (eF (c::q));have hl:=qY (c::q);have hr:=jJ aY (c::q);refine⟨λh=>⟨(h1 h).1,by rw[(h1 h).2];exact aDl _⟩,λh=>?_⟩;obtain⟨g1,g2,g3,g4⟩:=h2 h;simp at g3 g4;refine⟨ae,ae,.inr (.inr (.inr (.inl ⟨g1,.inr ⟨an7.1,an7.2,g4⟩⟩)))⟩;rw[if_neg hn];by_cases hl:bC c=true;rw[if_pos hl];have hr:=jJ bC (c::q);have hr1:sxRun bC (c::q)=sxRun bC q+1:=by simp[sxRun,hl]
 have hl':97<=c.toNat/\c.toNat<=122:=by simpa[bC] using hl
 refine⟨λh=>absurd rfl h,λ_=>⟨by simp only[];omega,hr,.inr (.inr (.inl ⟨rfl,hl'.1,hl'.2,q.take (sxRun bC q),?_⟩))⟩⟩;simp only[];rw[hr1,aDX];rw[if_neg hl];exact⟨λ_=>⟨rfl,aDl _⟩,λh=>by simp[aW]at h⟩
theorem KR{os:List T}{c:UInt8}{r:By}{x:Tk}(h:XB c r x)(hj:(iF os x).1=0):x.why=0/\(x.kind=-1->os.length≠1)/\(x.kind≠-1->sxDone os=false)/\(x.kind=1->os.length<=12):=by
 unfold iF at hj;by_cases h1:(!(x.why==0)&&!(sxDone os&&decide (0<x.fault)))=true;rw[if_pos h1]at hj;simp only at hj;rw[hj]at h1;simp at h1;rw[if_neg h1]at hj;by_cases h2:(x.kind==-1&&os.length==1)=true;rw[if_pos h2]at hj;cases hj;rw[if_neg h2]at hj;by_cases h3:(!(x.kind==-1)&&sxDone os)=true;rw[if_pos h3]at hj;cases hj;rw[if_neg h3]at hj;by_cases h4:(x.kind==1&&decide (12<os.length))=true;rw[if_pos h4]at hj;cases hj;have hw:x.why=0:=by
  apply Classical.byContradiction;intro hw;have hk:=(h.bad hw).1;rw[hk]at h3;have hw':(x.why==0)=false:=aC7.2 hw;rw[hw']at h1
  cases hD:sxDone os
  rw[hD]at h1;simp at h1;rw[hD]at h3;simp at h3
 refine⟨hw,λhk hl=>h2 (by rw[hk,hl];rfl),λhk=>?_,λhk=>?_⟩
 cases hD:sxDone os
 rfl;exact absurd (by rw[hD,aC7.2 hk];rfl) h3;apply Classical.byContradiction;intro hl;exact h4 (by rw[hk,aDE ae];rfl)
theorem Om{os:List T}{c:UInt8}{r:By}{x:Tk}(h:XB c r x)(hj:(iF os x).1≠0):(iF os x).2<=r.length:=by unfold iF at hj|-;by_cases h1:(!(x.why==0)&&!(sxDone os&&decide (0<x.fault)))=true;rw[if_pos h1]at hj|-;exact(h.bad hj).2;rw[if_neg h1];split;exact aDl _;split;exact aDl _;split<;>exact aDl _
theorem rP:∀(os:List T) (t:T),(sxPut os t).length=os.length
 | [],t=>rfl
 | [e],t=>rfl
 | e::e'::os,t=>by have:=rP (e'::os) t;unfold sxPut;simp only[aDh]at this|-;omega
theorem T.Uy(e t:T):(e.add t).kids=e.kids++[t]:=rfl
theorem Cb:∀(os:List T) (t:T) (i:Nat),(∀e∈os,e.kids.length<=i)->∀e∈sxPut os t,e.kids.length<=i+1
 | [],t,i,h=>λe he=>by cases he
 | [a],t,i,h=>λe he=>by simp[sxPut]at he;subst he;rw[T.Uy];have:=h a aj;simp;omega
 | a::b::os,t,i,h=>λe he=>by unfold sxPut at he;rcases aDg.1 he with rfl|he;have:=h e aj;omega;exact Cb (b::os) t i (λx hx=>h x (aDc _ hx)) e he
theorem XC(os:List T)(t:T):(sxTake os t).length<=os.length+1:=by
 unfold sxTake;split;simp;split;cases h:os.getLast? with
 | none=>simp
 | some e=>simp only[rP,List.length_dropLast];omega
 rw[rP];omega
theorem Uz(os:List T)(t:T)(i:Nat)(h:∀e∈os,e.kids.length<=i)(ht:t.kids=[]):∀e∈sxTake os t,e.kids.length<=i+1:=by
 unfold sxTake;split;intro e he;rcases aDm.1 he with h1|h1;have:=h e h1;omega;simp at h1;subst h1;rw[ht];simp;split
 cases hl:os.getLast? with
 | none=>exact λe he=>by have:=h e he;omega
 | some e0=>
  exact Cb _ _ i (λx hx=>h x (List.dropLast_subset _ hx))
 exact Cb _ _ i h
structure yw(g:Nat)(w:ak):Prop where
 blk:w.heap[g]?=some (.cells (Uu 0 0 0 ⟨#[]⟩ ↑()) 186 (0,0))
theorem yw.but{K:List Nat}{g:Nat}{w w':ak}(h:yw g w)(hb:But K w w')(hn:g∉K):yw g w':=⟨hb.heap h.blk hn⟩
theorem yw.ev{g:Nat}{w w':ak}(h:yw g w)(hE:Ev w w'):yw g w':=h.but (But.aU (K:=[]) hE) aj
theorem yw.cs{g:Nat}{w:ak}(h:yw g w):w.cell? ⟨g,0,none⟩=some (.int .i64 0)/\w.cell? ⟨g,1,none⟩=some (.string ⟨#[]⟩)/\w.cell? ⟨g,2,none⟩=some (.int .i64 0)/\w.cell? ⟨g,3,none⟩=some ↑()/\w.cell? ⟨g,4,none⟩=some (.int .i64 0)/\
  w.frozen? ⟨g,0,none⟩=false/\w.frozen? ⟨g,1,none⟩=false/\w.frozen? ⟨g,2,none⟩=false/\w.frozen? ⟨g,3,none⟩=false/\w.frozen? ⟨g,4,none⟩=false:=by
 refine⟨?_,?_,?_,?_,?_,aFg h.blk 0,aFg h.blk 1,aFg h.blk 2,aFg h.blk 3,aFg h.blk 4⟩<;>(rw[aFf h.blk];rfl)
def UA(g:Nat)(k n p:Int)(s:ByteArray)(v:au)(w:ak):ak:=
 ((((w.setCell ⟨g,0,none⟩ ↑k).setCell ⟨g,1,none⟩ (.string s)).setCell ⟨g,2,none⟩ ↑n).setCell ⟨g,3,none⟩ v).setCell ⟨g,4,none⟩ ↑p
theorem KT(g:Nat)(k n p:Int)(s:ByteArray)(v:au)(w:ak):
 ((((w.setCell ⟨g,0,none⟩ ↑k).setCell ⟨g,1,none⟩ (.string s)).setCell ⟨g,2,none⟩ ↑n).setCell ⟨g,3,none⟩ v).setCell ⟨g,4,none⟩ ↑p=UA g k n p s v w:=rfl
theorem FI(g:Nat)(k n p:Int)(s:ByteArray)(v:au)(w:ak):But [g] w (UA g k n p s v w):=
 ((((But.setCell ⟨g,0,none⟩ _ aj).then (But.setCell ⟨g,1,none⟩ _ aj)).then (But.setCell ⟨g,2,none⟩ _ aj)).then (But.setCell ⟨g,3,none⟩ _ aj)).then (But.setCell ⟨g,4,none⟩ _ aj)
theorem yw.set{g:Nat}{w:ak}(h:yw g w)(k n p:Int)(s:ByteArray)(v:au):(UA g k n p s v w).heap[g]?=some (.cells (Uu k n p s v) 186 (0,0)):=by have:=fE 4 ↑p (fE 3 v (fE 2 ↑n (fE 1 (.string s) (fE 0 ↑k h.blk))));rwa [show (((((Uu 0 0 0 ⟨#[]⟩ ↑()).setIfInBounds 0 ↑k).setIfInBounds 1 (.string s)).setIfInBounds 2 ↑n).setIfInBounds 3 v).setIfInBounds 4 ↑p=Uu k n p s v by simp[Uu]]at this
theorem ZC{w1:ak}{g:Nat}{fn:Func}{p u1 u2:Tmp}(tmps:Array au)(h:yw g w1)(k n q:Int)(s:ByteArray)(v:au)(hf:fn.results=#[.cell p 186,.tmp u1,.tmp u2])(hp:tmps.getD p undef=.pointer ↑g):
  (results fn tmps).run ax (UA g k n q s v w1)=.ok (.tuple #[.agg (Uu k n q s v),tmps.getD u1 undef,tmps.getD u2 undef]) (UA g k n q s v w1):=
 Ai hf tmps _ g k n q s v hp (h.set k n q s v)
structure QV(w0:ak)(v:au)(os:List M)(i:Nat)(w:ak):Prop where
 opn:Opn (w0.heap.size+1) w v os
 ev:Ev w0 w
 box:yw w0.heap.size w
 some_:os≠[]
 few:os.length<=i+1
 kids:∀e∈os,e.kids.length<=i
theorem QV.evs{w0 w w':ak}{v:au}{os:List M}{i:Nat}(h:QV w0 v os i w)(hE:Ev w w'):QV w0 v os i w':=
 ⟨h.opn.ev hE,h.ev.trans hE,h.box.ev hE,h.some_,h.few,h.kids⟩
theorem QV.high{w0 w:ak}{v:au}{os:List M}{i:Nat}(h:QV w0 v os i w):∀x∈blk v os,w0.heap.size<x:=λx hx=>by have:=(h.opn.range hx).1;omega
theorem QV.next{w0 w w':ak}{v v':au}{os os':List M}{i i':Nat}{t:T}(h:QV w0 v os i w)(ho:Opn (w0.heap.size+1) w' v' os')(hm:os'.map M.t=sxTake (os.map M.t) t)(ht:t.kids=[])(hn:os'≠[])(hb:But (blk v os) w w')(hi:i<i'):QV w0 v' os' i' w':=by
 refine⟨ho,((But.aU (K:=blk v os) h.ev).then hb).ev λk hk=>by have:=h.high k hk;omega,h.box.but hb λhk=>by have:=h.high _ hk;omega,hn,?_,λe he=>?_⟩;have h1:=XC (os.map M.t) t;rw[<-hm,aC_,aC_]at h1;have:=h.few;omega;have h1:=Uz (os.map M.t) t i (λe he=>by
  obtain⟨m,WE,rfl⟩:=aDz.1 he;rw[M.dO,aC_];exact h.kids m WE) ht e.t (by rw[<-hm];exact aDz.2 ⟨e,he,rfl⟩)
 rw[M.dO,aC_]at h1;omega
theorem aa6{K:List Nat}{w4 w6:ak}{gx:Nat}{j v:au}(hb:But K (w4.setCell ⟨gx,4,none⟩ j) w6)(hx:gx∉K)(hlt:gx<w4.heap.size)(c:w4.cell? ⟨gx,5,none⟩=some v):w6.cell? ⟨gx,5,none⟩=some v:=by rw[World.cell?_of_block (w:=w4.setCell ⟨gx,4,none⟩ j) (hb.block gx (by simpa[World.setCell] using hlt) hx)];have h2:(w4.setCell ⟨gx,4,none⟩ j).cell? ⟨gx,5,none⟩=w4.cell? ⟨gx,5,none⟩:=World.cell?_setCell_other _ _ _ _ aj;exact h2.trans c
theorem Opn.init(w:ak):Opn (w.heap.size+1) ((w.alloc (.cells ↑Zz.a 186)).alloc (.cells ↑Zz.a 186)) (.slice (some ⟨w.heap.size+1,0,none⟩) 1 1) [ku]:=by
 refine⟨⟨rfl,.inr ⟨w.heap.size+1,1,_,rfl,aC8 _,heap_alloc2_new w _ _,aC8 _,ai,rfl,rfl⟩⟩,λe he=>?_,?_,λe he m hm=>?_⟩;simp at he;subst he;exact aE_ _ _ _ _;simp[blk,foot,Value.ownBlock,ku,M.kv,M.A];simp at he;subst he
 cases hm
def Jl(R:Res)(w:ak)(e:Ending)(w':ak):Prop:=
 ∃m:M,e=.returned (.tuple #[.agg ↑m,.int .i64 R.2.1,.int .i64 (R.2.2:Int)])/\m.t=R.1/\Lies w.heap.size [] w' m/\Ev w w'
theorem aht(s0:ByteArray)(w:ak)(hs:s0.size<=100000):
  Calls ax 122 #[.string s0] w (Jl (fH s0.data.toList) w):=by
 have kN:s0.data.toList.length=s0.size:=by rw[aDK];rfl
 have HL:=zq kN;obtain⟨R,hR⟩:∃R,R=fH s0.data.toList:=⟨_,rfl⟩
 rw[<-hR];unfold fH at hR;rw[kN]at hR;have HR:=zq hR;clear hR kN;go_enter func122,ntmps122;go_wp2;refine Bq 0 60 (λs w2=>s 0=.string s0/\s 2=.pointer ↑w/\∃(v:au) (os:List M) (i f:Nat),s 5=v/\s 6=↑i/\i<=s0.size/\s0.size-i<f/\QV w v os i w2/\Hid (R=sxGo f (os.map M.t) (s0.data.toList.drop i) i)) (λs _=>s0.size-(intOf (s 6)).toNat) rfl ?_ ?_
 ·rintro s w2 ⟨h0,h2,v,os,i,f,h5,h6,hi,hf,ST,HT⟩;change Code.wp _ _ _ ⟨#[s 0,s 1,s 2,s 3,s 4,s 5,s 6,s 7,s 8,s 9,s 10,s 11,s 12,s 13,s 14,s 15,s 16,s 17,s 18,s 19,s 20,s 21,s 22,s 23,s 24,s 25,s 26,s 27,s 28,s 29,s 30,s 31,s 32,s 33,s 34,s 35,s 36,s 37,s 38,s 39,s 40,s 41,s 42,s 43,s 44,s 45,s 46,s 47,s 48,s 49,s 50,s 51,s 52,s 53,s 54,s 55,s 56,s 57,s 58,s 59],[]⟩ _;simp only[h0,h2,h5,h6];clear h0 h2 h5;obtain⟨f,rfl⟩:∃f',f=f'+1:=⟨f-1,ae⟩
  obtain⟨r,hr⟩:∃r:ByteArray,r=s0.extract i s0.size:=⟨_,rfl⟩
  have hx:s0.extract i s0.size=r:=hr.symm;have hrl:r.data.toList=s0.data.toList.drop i:=by rw[hr,Lib.extract_eq,aDj (by rw[aDD,HL.out];exact aC8 _)]
  have hrz:r.size=s0.size-i:=by
   have:r.data.toList.length=r.size:=by rw[aDK];rfl
   rw[<-this,hrl,aDD,HL.out]
  have HB:=zq (λw1=>KI r w1 ae);rw[hrl]at HB;have akE:=jJ dA (s0.data.toList.drop i);rw[aDD,HL.out]at akE;have HGO:=HT.out;unfold sxGo at HGO;rw[aEP]at HGO;generalize hp:sxRun dA (s0.data.toList.drop i)=p at*;have HG:=zq HGO;clear hr hrl hp HT HGO hrz;go_upto_region 6 with (first
   | ((with_reducible refine(HB.out _).mono ?_);rintro e w3 ⟨rfl,rfl⟩))
  have e1:(i:Int)+(p:Int)=((i+p:Nat):Int):=ae;simp only[e1];have hj:i+p<=s0.size:=ae;have qN:i<=i+p:=ae;generalize i+p=j at*;clear HB e1 hx;by_cases hjz:j=s0.size
  ·have qQ:Hid (R=jX (os.map M.t) s0.size):=zq (by
    rw[HG.out,aDO (by rw[HL.out];omega),hjz])
   have e2:(j:Int)=(s0.size:Int):=ae;have HW:=λw1 (h1:Opn (w.heap.size+1) w1 v os)=>adI w1 h1 ST.some_ s0.size;unfold mv M.kv at HW;have HW:=zq HW;clear HG hjz
   go_wp2_with (first
    | ((with_reducible refine(HW.out _ ST.opn).mono ?_);rintro e w3 ⟨m,rfl,hmt,hml,jW⟩;have B4:=(ST.evs jW).box;have E4:=(ST.evs jW).ev;obtain⟨c0,c1,c2,c3,c4,f0,f1,f2,f3,f4⟩:=B4.cs))
   simp only[Exit.jump];rw[KT];refine aFe (ZC _ B4 _ _ _ _ _ rfl rfl) rfl ?_;refine⟨m,?_,by rw[qQ.out];exact hmt,?_,E4.mG (FI _ _ _ _ _ _ _) (aC8 _)⟩;rw[qQ.out];rfl;exact((hml.less (K':=[w.heap.size]) (λx hx=>by simp at hx;exact .inr (.inl ae))).move (FI _ _ _ _ _ _ _) (K':=[]) (λx hx=>by cases hx)).low (aD3 _)
  have hlt:j<s0.size:=ae;have hat:=qo s0 j hlt;obtain⟨c,hc⟩:∃c,s0[j]=c:=⟨_,rfl⟩
  rw[hc]at hat;have hdr:=DC _ _ _ hat;obtain⟨q,hq⟩:∃q,q=s0.data.toList.drop (j+1):=⟨_,rfl⟩
  rw[<-hq]at hdr;have xw:(c::q).length=s0.size-j:=by rw[<-hdr,aDD,HL.out]
  have oM:=HG.out;rw[hdr]at oM;simp only[]at oM;have wO:=vV c q;have hjo:=λh=>KR (os:=os.map M.t) wO h;have hjf:=λh=>Om (os:=os.map M.t) wO h;rw[aC_]at hjo;have e2:¬((j:Int)=(s0.size:Int)):=ae;have e2':((j:Int)==(s0.size:Int))=false:=aC7.2 e2;obtain⟨y,hy⟩:∃y:ByteArray,y=s0.extract j s0.size:=⟨_,rfl⟩
  have Fj:s0.extract j s0.size=y:=hy.symm;have QU:y.data.toList=c::q:=by rw[hy,Lib.extract_eq,aDj (by rw[aDD,HL.out];exact aC8 _),hdr]
  have hyz:y.size=s0.size-j:=by
   have:y.data.toList.length=y.size:=by rw[aDK];rfl
   rw[<-this,QU,xw]
  have HS:=λw1=>ahl y w1 ae ae;rw[QU]at HS;have HJ:=λw1 (h1:Opn (w.heap.size+1) w1 v os)=>adJ w1 h1 ST.some_ (bJ (c::q));generalize hX:bJ (c::q)=X at*;generalize hJ:iF (os.map M.t) X=J at*;obtain⟨k,xs,n,z,yy,ff⟩:=X;obtain⟨jw,jf⟩:=J;simp only[tkv,Zw]at HS HJ oM hjo hjf;have HS:=zq HS;have HJ:=zq (λw1 (hE:Ev w2 w1)=>HJ w1 (ST.opn.ev hE));have wQ:=zq oM;have HQ:=zq hq;have IX:=zq xw;have HDR:=zq hdr;have akK:=wO.good;simp only at akK;have HOK:=zq akK;have HJO:=zq hjo;have HJF:=zq hjf;clear hc hat hdr hq xw HG oM wO hjo hjf hy QU hJ hX akK;by_cases hw:jw=0
  ·subst hw;obtain⟨hyy,hk2,_,_⟩:=HJO.out rfl;subst hyy;obtain⟨hz1,hz2,_⟩:=HOK.out rfl;rw[IX.out]at hz2;have qQ:Hid (R=sxGo f (sxTake (os.map M.t) (mJ k xs n j).t) (s0.data.toList.drop (j+z)) (j+z)):=zq (by
    rw[wQ.out];simp only[aD_,aDL];rw[<-HDR.out,aEP];rfl)
   have HT:=λw1 (hE:Ev w2 w1)=>ahs w1 (ST.opn.ev hE) ST.some_ k xs n j (λh=>by
    have:=hk2 h;have h0:=ST.some_
    cases hos:os with
    | nil=>exact absurd hos h0
    | cons a l=>
     cases l with
     | nil=>rw[hos]at this;exact absurd rfl this
     | cons b l=>simp) (by have:=ST.few;omega) (λe he=>by have:=ST.kids e he;omega)
   rw[show mv (mJ k xs n j)=.agg #[↑k,↑xs,↑n,↑(),↑j] from rfl]at HT;have HT:=zq HT;have i1:Hid ((j:Int)+(z:Int)=((j+z:Nat):Int)):=zq ae;have atb:j+z<=s0.size:=ae;clear wQ HDR HQ IX HOK HJO HJF hk2 hz2
   go_wp2_with (first
    | ((with_reducible refine(HS.out _).mono ?_);rintro e w3 ⟨rfl,jW⟩)
    | ((with_reducible refine(HJ.out _ (jW.trans aC)).mono ?_);rintro e w4 ⟨rfl,gy⟩;have X4:=(jZ.new ⟨k,xs,n,z,0,ff⟩ w3).ev gy;obtain⟨c0,c1,c2,c3,c4,c5,c6,c7⟩:=X4.cs;have f4:=X4.f 4;simp only at c0 c1 c2 c5;have qP:Ev w2 (w4.setCell ⟨w3.heap.size,4,none⟩ ↑j):=Ev.mG (g:=w3.heap.size) ((jW.trans aC).trans gy) (But.setCell _ _ aj) jW.size)
    | ((with_reducible refine(HT.out _ qP).mono ?_);rintro e w6 ⟨v',os',rfl,JO,hmap',atc,hb',hs'⟩;have hgx:w3.heap.size∉blk v os:=(λhm=>by have:=(ST.opn.range hm).2;have:=jW.size;omega);have d5:w6.cell? ⟨w3.heap.size,5,none⟩=some ↑z:=aa6 hb' hgx X4.lt c5))
   go_step3
   refine⟨rfl,⟨rfl,rfl,rfl,rfl,v',os',j+z,f,rfl,?_,atb,ae,?_,?_⟩,?_⟩;rw[<-i1.out];rfl
   ·exact(ST.evs qP).next JO hmap' rfl atc hb' ae
   rw[hmap'];exact qQ;simp[Act.eval,intOf];omega
  have hw':(jw==0)=false:=aC7.2 hw;have hw'':(jw !=0)=true:=aEk.2 hw;have atd:=HJF.out hw;rw[IX.out]at atd;have qQ:Hid (R=(dQ,jw,j+jf)):=zq (by
   rw[wQ.out];simp only[hw',aDq,aDU])
  have i2:Hid ((j:Int)+(jf:Int)=((j+jf:Nat):Int)):=zq ae;have i3:j+jf<=s0.size:=ae;clear wQ HDR HQ IX HOK HJO HJF
  go_wp2_with (first
   | ((with_reducible refine(HS.out _).mono ?_);rintro e w3 ⟨rfl,jW⟩)
   | ((with_reducible refine(HJ.out _ (jW.trans aC)).mono ?_);rintro e w4 ⟨rfl,gy⟩;have X4:=(jZ.new ⟨k,xs,n,z,yy,ff⟩ w3).ev gy;have B4:=(ST.evs ((jW.trans aC).trans gy)).box;have E4:=(ST.evs ((jW.trans aC).trans gy)).ev;obtain⟨c0,c1,c2,c3,c4,f0,f1,f2,f3,f4⟩:=B4.cs))
  simp only[Exit.jump];rw[KT];refine aFe (ZC _ B4 _ _ _ _ _ rfl rfl) rfl ?_;refine⟨ku,?_,by rw[qQ.out];rfl,Lies.zero _ _ _,E4.mG (FI _ _ _ _ _ _ _) (aC8 _)⟩;rw[qQ.out,<-i2.out];rfl
 intro H;by_cases hbig:600<s0.size
 ·have qQ:Hid (R=(dQ,3,0)):=zq (by rw[HR.out,if_pos hbig]);have e1:(600:Int)<(s0.size:Int):=ae;go_wp2
  try simp only[Exit.jump]
  refine aFe (Ai rfl _ _ w.heap.size 0 0 0 ⟨#[]⟩ (.slice none 0 0) rfl (aFd w _)) rfl ?_;refine⟨ku,?_,by rw[qQ.out];rfl,Lies.zero _ _ _,Ev.alloc _ _⟩;rw[qQ.out];rfl
 have qQ:Hid (R=sxGo (s0.size+1) [dQ] s0.data.toList 0):=zq (by rw[HR.out,if_neg hbig]);have e1:¬((600:Int)<(s0.size:Int)):=ae;go_wp2
 go_step3
 rename_i hK;refine hK _ _ (H _ _ ?_ ?_ ?_);rfl;rfl;refine⟨rfl,rfl,_,[ku],0,s0.size+1,rfl,rfl,aDl _,ae,⟨Opn.init w,aC.trans aC,⟨?_⟩,aj,aj,λe he=>?_⟩,qQ⟩;exact heap_alloc2_old w _ _;simp at he;rw[he];exact aC8 _
theorem KU(w:ak)(m:M):(w.alloc (.cells ↑m 186)).heap[w.heap.size]?=some (.cells (mc m).toArray 186 (0,0)):=aFd _ _
theorem FK{w:ak}{g:Nat}{m:M}(h:w.heap[g]?=some (.cells (mc m).toArray 186 (0,0))):w.cell? ⟨g,0,none⟩=some ↑m.kind/\w.cell? ⟨g,1,none⟩=some ↑m.s/\w.cell? ⟨g,2,none⟩=some ↑m.n/\w.cell? ⟨g,3,none⟩=some (.slice m.A m.kids.length m.cap)/\w.cell? ⟨g,4,none⟩=some ↑m.pos:=by refine⟨?_,?_,?_,?_,?_⟩<;>(rw[aFf h];rfl)
theorem adO{w w':ak}{g:Nat}{o:Obj}(h:w.heap[g]?=some o)(hE:Ev w w'):w'.heap[g]?=some o:=by rw[hE.block g (aDa.1 h).1];exact h
theorem FP(c:UInt8)(w:ak):
  Calls ax 89 #[.int .u8 (c.toNat:Int)] w λe w'=>e=.returned (.bool (bC c))/\w=w':=by
 by_cases h1:(97:Int)<=(c.toNat:Int)
 ·have e:bC c=decide ((c.toNat:Int)<=122):=by unfold bC;rw[aDY];simp;omega
  rw[e];go_enter func89,ntmps89;go_wp2;go_ret;exact⟨rfl,rfl⟩
 have e:bC c=false:=by unfold bC;rw[aDY];simp;omega
 rw[e];go_enter func89,ntmps89;go_wp2;go_ret;exact⟨rfl,rfl⟩
theorem KZ(c:UInt8)(w:ak):
  Calls ax 90 #[.int .u8 (c.toNat:Int)] w λe w'=>e=.returned (.bool (aY c))/\w=w':=by
 by_cases h1:(48:Int)<=(c.toNat:Int)
 ·have e:aY c=decide ((c.toNat:Int)<=57):=by unfold aY;rw[aDY];simp;omega
  rw[e];go_enter func90,ntmps90;go_wp2;go_ret;exact⟨rfl,rfl⟩
 have e:aY c=false:=by unfold aY;rw[aDY];simp;omega
 rw[e];go_enter func90,ntmps90;go_wp2;go_ret;exact⟨rfl,rfl⟩
def FQ(c:UInt8):Int:=match gV c with
 | none=>-1
 | some a=>(a:Int)
theorem aHe(h:U:=by
 go_enter func210,ntmps210
 go_wp2_with (first|((with_reducible refine(HD.out _).mono ?_);rintro x w1 ⟨rfl,rfl⟩))
 go_ret;exact⟨rfl,rfl⟩):U:=h
theorem akL(c:UInt8)(w:ak):
  Calls ax 210 #[.int .u8 (c.toNat:Int)] w λe w'=>e=.returned (.int .i64 (FQ c))/\w=w':=by
 have HD:=KZ c;have hlt:=c.toNat_lt;by_cases h1:48<=c.toNat/\c.toNat<=57;have e:FQ c=(c.toNat:Int)-48:=by unfold FQ gV;rw[if_pos h1];simp;omega
 rw[e];rw[show aY c=true by unfold aY;simp;exact h1]at HD;have HD:=zq HD;have i1:IntKind.u8.wrap ((c.toNat:Int)-48)=(c.toNat:Int)-48:=IntWalk.u8_in _ ae;exact aHe;rw[show aY c=false by unfold aY;rw[aDY];simp;omega]at HD;have HD:=zq HD;by_cases h2:97<=c.toNat;have j1:(97:Int)<=(c.toNat:Int):=ae;by_cases h3:c.toNat<=102;have e:FQ c=(c.toNat:Int)-97+10:=by unfold FQ gV;rw[if_neg h1,if_pos ⟨h2,h3⟩];simp;omega
 rw[e];have j2:(c.toNat:Int)<=102:=ae;have i1:IntKind.u8.wrap ((c.toNat:Int)-97)=(c.toNat:Int)-97:=IntWalk.u8_in _ ae;exact aHe;have e:FQ c=-1:=by unfold FQ gV;rw[if_neg h1,if_neg (λh=>h3 h.2)]
 rw[e];have j2:¬((c.toNat:Int)<=102):=ae;exact aHe;have e:FQ c=-1:=by unfold FQ gV;rw[if_neg h1,if_neg (λh=>h2 h.1)]
 rw[e];have j1:¬((97:Int)<=(c.toNat:Int)):=ae;exact aHe
theorem Ph{c:UInt8}(h:gV c=none):FQ c=-1:=by unfold FQ;rw[h]
theorem Ak{c:UInt8}{a:Nat}(h:gV c=some a):FQ c=(a:Int):=by unfold FQ;rw[h]
theorem UD(l:By)(k:Nat)(c:UInt8)(h:l[k]?=some c)(hr:k<sxRun aY l):(dC l)[k]?=some c:=by unfold dC;rw[List.getElem?_take,if_pos hr,h]
def qR(D:By)(k u:Nat)(fine:Bool):Prop:=if fine then sxBelow D 0=sxBelow (D.drop k) (-(u:Int))/\u<=9223372036854775808 else sxBelow D 0=none
theorem an8(x:Int):∃n:Nat,IntKind.u64.wrap x=(n:Int)/\n<18446744073709551616:=⟨(x % 18446744073709551616).toNat,by simp[IntKind.wrap,IntKind.signed,IntKind.bits];omega,ae⟩
theorem adS{u:Nat}(h:u<=9223372036854775808):wrap64 (IntKind.u64.wrap (-(u:Int)))=-(u:Int):=by simp[IntKind.wrap,IntKind.signed,IntKind.bits,wrap64];omega
theorem qR.bad{D:By}{k u u' d:Nat}{fine:Bool}(h:qR D k u fine)(hs:∀m:Int,sxBelow (D.drop k) m=if m < -((9223372036854775808-(d:Int)) / 10) then none else sxBelow (D.drop (k+1)) (m*10-(d:Int)))(ht:(9223372036854775808-(d:Int)) / 10<(u:Int)):qR D (k+1) u' false:=by
 unfold qR at h|-;simp only[aDq,aDU]
 cases fine
 exact h;rw[h.1,hs,if_pos ae]
theorem qR.good{D:By}{k u d:Nat}{fine:Bool}(h:qR D k u fine)(hs:∀m:Int,sxBelow (D.drop k) m=if m < -((9223372036854775808-(d:Int)) / 10) then none else sxBelow (D.drop (k+1)) (m*10-(d:Int)))(hd:d<=9)(ht:¬(9223372036854775808-(d:Int)) / 10<(u:Int)):qR D (k+1) (u*10+d) fine:=by
 unfold qR at h|-
 cases fine
 exact h;simp only[aDL]at h|-;refine⟨?_,ae⟩;rw[h.1,hs,if_neg ae,show (-(u:Int))*10-(d:Int)=-((u*10+d:Nat):Int) by omega]
theorem qR.out{D:By}{u:Nat}{fine:Bool}(h:qR D D.length u fine)(plus:Bool):(D.length=0∨fine=false∨9223372036854775808<u∨(plus=true/\9223372036854775807<u))->sxNum plus D=aW 12 0:=by
 intro hc;unfold qR at h;unfold sxNum
 cases fine
 simp only[aDq,aDU]at h;rw[h];simp only[aDL]at h;obtain⟨h1,h2⟩:=h;rw[aDO (aC8 _)]at h1;rw[h1];simp only[sxBelow];rcases hc with hc|hc|hc|⟨hc,hu⟩
 rw[aDv hc];rfl
 cases hc
 omega;rw[if_pos];have:u=9223372036854775808:=ae;subst this hc;simp
theorem qR.fit{D:By}{u:Nat}(h:qR D D.length u true)(plus:Bool)(hk:D.length≠0)(hu:plus=true->u<=9223372036854775807):u<=9223372036854775808/\sxNum plus D=if plus then ⟨3,[],(u:Int),D.length,0,0⟩ else ⟨3,[],-(u:Int),1+D.length,0,0⟩:=by
 unfold qR at h;simp only[aDL]at h;obtain⟨h1,h2⟩:=h;refine⟨h2,?_⟩;rw[aDO (aC8 _)]at h1;unfold sxNum;rw[h1];simp only[sxBelow];have he:D.isEmpty=false:=by
  cases D with
  | nil=>exact absurd rfl hk
  | cons a l=>rfl
 cases plus
 simp[he];have:=hu rfl;rw[if_neg (by rw[he];simp;omega)];simp
theorem aIe(h:U:=by
 go_ret3
 exact⟨j,by rw[HX.out];rfl,λh=>(by rw[HX.out]at h;cases h),Ev.refl _⟩):U:=h
theorem aG5(h:U:=by
 go_wp2_with (first|((with_reducible refine(HC.out _).mono ?_);rintro x w1 ⟨rfl,rfl⟩))
 exact aIe):U:=h
theorem aGu(h:U:=by
 have ej:j=from_:=by rw[HJ.out,hz];rfl
 have HZ:=zq hz;clear hz rQ;subst ej;exact aG5):U:=h
theorem aGW(h:U:=by clear rQ;exact aG5):U:=h
theorem aFu(h:U:=by
 rw[Oj]at HC hst;simp only[aDL]at hst;have HC:=zq HC;have nX:k<D.length:=by have:=HK.out;rw[hst]at this;omega
 have HK2:Hid (sxRun aY (s.data.toList.drop (j+1))+(k+1)=D.length):=zq (by have:=HK.out;rw[hst]at this;omega);have hDc:=an9.out k c (by rw[aES,<-HJ.out];exact hat) nX;obtain⟨d,hd,hd9⟩:∃d:Nat,(c.toNat:Int)=48+(d:Int)/\d<=9:=by unfold aY at Oj;simp at Oj;exact⟨c.toNat-48,ae,ae⟩
 have hstep:=λm=>xg D k c m hDc;have i0:(48:Int)+(d:Int)-48=(d:Int):=ae;rw[hd]at hstep HC;rw[i0]at hstep;have i1:IntKind.u8.wrap ((48:Int)+(d:Int)-48)=(d:Int):=by rw[i0];exact IntWalk.u8_in _ ae
 have HST:=zq hstep;clear hstep hst hc hat Oj hDc
 go_wp2_with (first|((with_reducible refine(HC.out _).mono ?_);rintro x w1 ⟨rfl,rfl⟩))
 ·obtain⟨u',hu',hu2⟩:=an8 (IntKind.u64.wrap ((u:Int)*10)+(d:Int))
  go_round
  case rel=>exact⟨k+1,u',false,ae,by rw[HJ.out];go_num,by rw[hu'],rfl,hu2,zq (HN.out.bad HST.out ae),by rw[show from_+(k+1)=j+1 by rw[HJ.out];omega];exact HK2⟩
  case measure=>simp[intOf];omega
 go_round
 case rel=>exact⟨k+1,u*10+d,fine,ae,by rw[HJ.out];go_num,by go_num,rfl,ae,zq (HN.out.good HST.out hd9 ae),by rw[show from_+(k+1)=j+1 by rw[HJ.out];omega];exact HK2⟩
 case measure=>simp[intOf];omega):U:=h
theorem aG_(h:U:=by
 have ej:j=from_:=by rw[HJ.out,hz];rfl
 have HZ:=zq hz;clear hz rQ;subst ej;go_wp2;exact aIe):U:=h
theorem aH3(h:U:=by clear rQ;go_wp2;exact aIe):U:=h
theorem aGG(h:U:=by
 go_ret3
 exact⟨j,(by rw[HX.out];exact aD8 (λx=>Ending.returned (Value.tuple #[Value.int .i64 x,Value.int .i64 (j:Int),Value.bool true])) HNG.out),λ_=>(by rw[HX.out,HJ.out,HF.out];simp only[aDq,aDU];omega),Ev.refl _⟩):U:=h
theorem K_(s:ByteArray)(w:ak)(hs:s.size<=100000)(i from_:Nat)(c0:UInt8)(hi:i<s.size)(hc0:s.data.toList[i]?=some c0)(minus:Bool)(hm:(c0.toNat==45)=minus)(hf:from_=if minus then i+1 else i):
  Calls ax 160 #[.string s,↑i] w λe w'=>
   ∃j:Nat,e=.returned (.tuple #[.int .i64 (sxNum (!minus) (dC (s.data.toList.drop from_))).n,↑j,.bool ((sxNum (!minus) (dC (s.data.toList.drop from_))).why==0)])/\
    ((sxNum (!minus) (dC (s.data.toList.drop from_))).why=0->j=i+(sxNum (!minus) (dC (s.data.toList.drop from_))).size)/\Ev w w':=by
 have kN:s.data.toList.length=s.size:=by rw[aDK];rfl
 have HL:=zq kN;have hidx:∀hh,s[i]'hh=c0:=λhh=>by have:=qo s i hh;rw[this]at hc0;exact aDp hc0
 have hfs:from_<=s.size:=by rw[hf];split<;>omega
 have hDl:=qY (s.data.toList.drop from_);have WI:=eF (s.data.toList.drop from_);have akM:=λk c h hr=>UD (s.data.toList.drop from_) k c h hr;have hDr:=jJ aY (s.data.toList.drop from_);rw[aDD,kN]at hDr;generalize hD:dC (s.data.toList.drop from_)=D at*;rw[<-hDl]at hDr akM;have HDl:=zq hDl;have an9:=zq akM;have an_:=zq KZ;clear hc0 hD hDl WI akM kN
 cases minus
 ·obtain rfl:from_=i:=hf;have e1:¬((c0.toNat:Int)=45):=by have:=aC7.1 hm;omega
  have e1':((c0.toNat:Int)==45)=false:=aC7.2 e1;have uj:(0:Int)<=(from_:Int):=ae;clear hm;simp only[Bool.not_false];go_enter func160,ntmps160;go_wp2
  go_loop [7,9,10] (λiv uv fv=>∃(k u:Nat) (fine:Bool),k<=D.length/\iv=.int .i64 ((from_+k:Nat):Int)/\uv=.int .u64 (u:Int)/\fv=.bool fine/\u<18446744073709551616/\Hid (qR D k u fine)/\Hid (sxRun aY (s.data.toList.drop (from_+k))+k=D.length)) (λiv _ _=>s.size-(intOf iv).toNat)
  case atStart=>exact⟨0,0,true,aDl _,rfl,rfl,rfl,ae,zq ⟨rfl,ae⟩,zq (by rw[HDl.out];rfl)⟩
  case round=>
   obtain⟨k,u,fine,hk,rfl,rfl,rfl,hu,HN,HK⟩:=hrel;obtain⟨j,hj⟩:∃j,j=from_+k:=⟨_,rfl⟩
   rw[<-hj]at HK|-;have hjb:j<=300000:=by have:=hDr;omega
   have HJ:=zq hj;clear hj;by_cases hlt:j<s.size
   ·have hat:=qo s j hlt;obtain⟨c,hc⟩:∃c,s[j]=c:=⟨_,rfl⟩
    have adT:∀hh,s[j]'hh=c:=λ_=>hc;rw[hc]at hat;have hst:=lL aY s.data.toList j c hat;have HC:=an_.out c;have hj0:(0:Int)<=(j:Int):=ae;have hj1:(j:Int)<(s.size:Int):=ae
    cases Oj:aY c
    ·rw[Oj]at HC hst;simp only[aDq,aDU]at hst;have hkD:k=D.length:=by have:=HK.out;rw[hst]at this;omega
     have HC:=zq HC;obtain rfl:k=D.length:=hkD;have rQ:=HN.out;by_cases hz:D.length=0;have HX:Hid (sxNum true D=aW 12 0):=zq (rQ.out true (.inl hz));exact aGu;have ej:¬((j:Int)=(from_:Int)):=by rw[HJ.out];omega
     have ej':((j:Int)==(from_:Int))=false:=aC7.2 ej
     cases fine
     have HX:Hid (sxNum true D=aW 12 0):=zq (rQ.out true (.inr (.inl rfl)));exact aGW;by_cases hbig:9223372036854775807<u;have HX:Hid (sxNum true D=aW 12 0):=zq (rQ.out true (.inr (.inr (.inr ⟨rfl,hbig⟩))));have hb2:(9223372036854775807:Int)<(u:Int):=ae;exact aGW;obtain⟨hu3,hX⟩:=rQ.fit true hz (λ_=>by omega);have HX:=zq hX;have hb2:¬((9223372036854775807:Int)<(u:Int)):=ae;have hb3:¬((9223372036854775808:Int)<(u:Int)):=ae;clear rQ hX
     go_wp2_with (first|((with_reducible refine(HC.out _).mono ?_);rintro x w1 ⟨rfl,rfl⟩))
     go_ret3
     exact⟨j,by rw[HX.out];rfl,λ_=>(by rw[HX.out,HJ.out];rfl),Ev.refl _⟩
    exact aFu
   have hjs:j=s.size:=by have:=jJ aY (s.data.toList.drop j);rw[aDD,HL.out]at this;have h2:=HK.out;have h3:=HJ.out;omega
   have hkD:k=D.length:=by have:=HK.out;rw[aDO (by rw[HL.out];omega)]at this;simp only[sxRun]at this;omega
   have hlt2:¬((j:Int)<(s.size:Int)):=ae;clear hjs;obtain rfl:k=D.length:=hkD;have rQ:=HN.out;by_cases hz:D.length=0;have HX:Hid (sxNum true D=aW 12 0):=zq (rQ.out true (.inl hz));exact aG_;have ej:¬((j:Int)=(from_:Int)):=by rw[HJ.out];omega
   have ej':((j:Int)==(from_:Int))=false:=aC7.2 ej
   cases fine
   have HX:Hid (sxNum true D=aW 12 0):=zq (rQ.out true (.inr (.inl rfl)));exact aH3;by_cases hbig:9223372036854775807<u;have HX:Hid (sxNum true D=aW 12 0):=zq (rQ.out true (.inr (.inr (.inr ⟨rfl,hbig⟩))));have hb2:(9223372036854775807:Int)<(u:Int):=ae;exact aH3;obtain⟨hu3,hX⟩:=rQ.fit true hz (λ_=>by omega);have HX:=zq hX;have hb2:¬((9223372036854775807:Int)<(u:Int)):=ae;have hb3:¬((9223372036854775808:Int)<(u:Int)):=ae;clear rQ hX;go_wp2
   go_ret3
   exact⟨j,by rw[HX.out];rfl,λ_=>(by rw[HX.out,HJ.out];rfl),Ev.refl _⟩
 have hf':from_=i+1:=hf;have HF:=zq hf';have e1:(c0.toNat:Int)=45:=by have:=aDn.1 hm;omega
 have uj:(0:Int)<=(i:Int):=ae;have hi1:(i:Int)+1=(from_:Int):=ae;clear hf hf' hm;simp only[Bool.not_true];go_enter func160,ntmps160;go_wp2
 go_loop [7,9,10] (λiv uv fv=>∃(k u:Nat) (fine:Bool),k<=D.length/\iv=.int .i64 ((from_+k:Nat):Int)/\uv=.int .u64 (u:Int)/\fv=.bool fine/\u<18446744073709551616/\Hid (qR D k u fine)/\Hid (sxRun aY (s.data.toList.drop (from_+k))+k=D.length)) (λiv _ _=>s.size-(intOf iv).toNat)
 case atStart=>exact⟨0,0,true,aDl _,rfl,rfl,rfl,ae,zq ⟨rfl,ae⟩,zq (by rw[HDl.out];rfl)⟩
 case round=>
  obtain⟨k,u,fine,hk,rfl,rfl,rfl,hu,HN,HK⟩:=hrel;obtain⟨j,hj⟩:∃j,j=from_+k:=⟨_,rfl⟩
  rw[<-hj]at HK|-;have hjb:j<=300000:=by have:=hDr;omega
  have HJ:=zq hj;clear hj;by_cases hlt:j<s.size
  ·have hat:=qo s j hlt;obtain⟨c,hc⟩:∃c,s[j]=c:=⟨_,rfl⟩
   have adT:∀hh,s[j]'hh=c:=λ_=>hc;rw[hc]at hat;have hst:=lL aY s.data.toList j c hat;have HC:=an_.out c;have hj0:(0:Int)<=(j:Int):=ae;have hj1:(j:Int)<(s.size:Int):=ae
   cases Oj:aY c
   ·rw[Oj]at HC hst;simp only[aDq,aDU]at hst;have hkD:k=D.length:=by have:=HK.out;rw[hst]at this;omega
    have HC:=zq HC;obtain rfl:k=D.length:=hkD;have rQ:=HN.out;by_cases hz:D.length=0;have HX:Hid (sxNum false D=aW 12 0):=zq (rQ.out false (.inl hz));exact aGu;have ej:¬((j:Int)=(from_:Int)):=by rw[HJ.out];omega
    have ej':((j:Int)==(from_:Int))=false:=aC7.2 ej
    cases fine
    have HX:Hid (sxNum false D=aW 12 0):=zq (rQ.out false (.inr (.inl rfl)));exact aGW;obtain⟨hu3,hX⟩:=rQ.fit false hz (λh=>by cases h);have HNG:=zq (adS hu3);have HX:=zq hX;have hb3:¬((9223372036854775808:Int)<(u:Int)):=ae;clear rQ hX
    go_wp2_with (first|((with_reducible refine(HC.out _).mono ?_);rintro x w1 ⟨rfl,rfl⟩))
    exact aGG
   exact aFu
  have hjs:j=s.size:=by have:=jJ aY (s.data.toList.drop j);rw[aDD,HL.out]at this;have h2:=HK.out;have h3:=HJ.out;omega
  have hkD:k=D.length:=by have:=HK.out;rw[aDO (by rw[HL.out];omega)]at this;simp only[sxRun]at this;omega
  have hlt2:¬((j:Int)<(s.size:Int)):=ae;clear hjs;obtain rfl:k=D.length:=hkD;have rQ:=HN.out;by_cases hz:D.length=0;have HX:Hid (sxNum false D=aW 12 0):=zq (rQ.out false (.inl hz));exact aG_;have ej:¬((j:Int)=(from_:Int)):=by rw[HJ.out];omega
  have ej':((j:Int)==(from_:Int))=false:=aC7.2 ej
  cases fine
  have HX:Hid (sxNum false D=aW 12 0):=zq (rQ.out false (.inr (.inl rfl)));exact aH3;obtain⟨hu3,hX⟩:=rQ.fit false hz (λh=>by cases h);have HNG:=zq (adS hu3);have HX:=zq hX;have hb3:¬((9223372036854775808:Int)<(u:Int)):=ae;clear rQ hX;go_wp2;exact aGG
theorem kV{l:By}{i:Nat}{c:UInt8}(h:l[i]?=some c):l.drop i=c::l.drop (i+1):=by obtain⟨hi,e⟩:=aC6.1 h;rw[aEl hi,e]
theorem aa'(s:ByteArray)(w:ak)(hs:s.size<=100000)(i:Nat)(c0:UInt8)(hi:i<s.size)(hc0:s.data.toList[i]?=some c0):
  Calls ax 160 #[.string s,↑i] w λe w'=>
   ∃j:Nat,e=.returned (.tuple #[.int .i64 (dL (s.data.toList.drop i)).n,↑j,.bool ((dL (s.data.toList.drop i)).why==0)])/\
    ((dL (s.data.toList.drop i)).why=0->j=i+(dL (s.data.toList.drop i)).size)/\Ev w w':=by
 have hd:=kV hc0
 cases hm:(c0.toNat==45) with
 | true=>
  have:=K_ s w hs i (i+1) c0 hi hc0 true hm rfl;have e:dL (s.data.toList.drop i)=sxNum (!true) (dC (s.data.toList.drop (i+1))):=by rw[hd];simp only[dL,hm,aDL];rfl
  rw[e];exact this
 | false=>
  have:=K_ s w hs i i c0 hi hc0 false hm rfl;have e:dL (s.data.toList.drop i)=sxNum (!false) (dC (s.data.toList.drop i)):=by rw[hd];simp only[dL,hm];rfl
  rw[e];exact this
theorem Pj{P:Program}{ops:Array Oper}{o:Oper}{a:Act}{w:ak}{K:Act->ak->Prop}{Q:Exit->Act->ak->Prop}{E:Prop}
  (hg:o.guard=none) (f:FuncId) (xs:Array Operand) (ts:Array TypeId) (hop:o.op=.call {callee:=.value (.func f),args:=xs,argTypes:=ts}) (hb:E_ P f=true) (args:Array au) (ha:xs.map a.eval=args) (v:au)
  (hc:Calls P f args w λe w'=>e=.returned v/\w=w') (hK:K (a.put o.dst v) w):
  if Region.wanted o (yielded ops a.tmps)=true then Oper.wp P o a w K Q else E:=by
 rw[if_pos (ay hg)];unfold Oper.wp;rw[bK f xs ts hop hb w,ha];refine hc.mono ?_;rintro e w' ⟨rfl,rfl⟩;exact hK
theorem FU{P:Program}{ops:Array Oper}{o:Oper}{a:Act}{w:ak}{K:Act->ak->Prop}{Q:Exit->Act->ak->Prop}{E:Prop}
  (hg:o.guard=none) (s x:Operand) (hop:o.op=.call {callee:=.builtin .append,args:=#[s,x],argTypes:=#[180,180]})
  (ht:P.underlying 180=some (.slice 5)) (hi:(P.info? 5).map (λi=>(i.zero,i.size,i.bytes))=some (some (.int .u8 0),1,1))
  (v:au) (l:By) (hs:a.eval s=v) (hown:Row w v l) (A:Option Addr) (m c:Nat) (l':By) (hx:a.eval x=.slice A m c) (hB:Bs w A m c l') (hbytes:l.length+l'.length<=140737488355328)
  (hK:∀v' w',Row w' v' (l++l')->But (foot v) w w'->dE w v v'->K (a.put o.dst v') w'):
  if Region.wanted o (yielded ops a.tmps)=true then Oper.wp P o a w K Q else E:=by
 rw[if_pos (ay hg)];obtain⟨v',w',hr,h2,h3,h4⟩:=yN (P:=P) (w:=w) o.type ht hi v l hown A m c l' hB hbytes;unfold Oper.wp execOp;simp only[hop,resolve,invoke,builtin,aFa,aFb,aFc,aD1,aDe,aDu,hs,hx,hr];exact hK _ _ h2 h3 h4
theorem iU{fn:Func}{t u v x:Tmp}(h:fn.results=#[.tmp t,.tmp u,.tmp v,.tmp x])(tmps:Array au)(P:Program)(w:ak):
  (results fn tmps).run P w=.ok (.tuple #[tmps.getD t undef,tmps.getD u undef,tmps.getD v undef,tmps.getD x undef]) w:=by
 simp[results,h]
structure aob(Y:Tk)(i0:Nat)(sb:ByteArray)(en wh:Int):Prop where
 ok:Y.why=0->sb=⟨Y.s.toArray⟩/\en=((i0+Y.size:Nat):Int)
 bad:Y.why≠0->wh=((i0+Y.fault:Nat):Int)
structure BD(w0:ak)(A:Option Addr)(n cap:Nat)(b:By)(w:ak):Prop where
 row:Row w (.slice A n cap) b
 len:b.length=n
 high:∀k,(Value.slice A n cap).ownBlock=some k->w0.heap.size<=k
 ev:Ev w0 w
theorem BD.step{w0 w w1:ak}{A:Option Addr}{n cap:Nat}{b B1:By}{v1:au}(h:BD w0 A n cap b w)(hr:Row w1 v1 B1)(hb:But (foot (.slice A n cap)) w w1)(hs:dE w (.slice A n cap) v1):
  ∃A1 n1 cap1,v1=.slice A1 n1 cap1/\BD w0 A1 n1 cap1 B1 w1:=by
 obtain⟨A1,cap1,rfl,_,_,_⟩:=hr.bs;refine⟨A1,_,cap1,rfl,hr,rfl,λk hk=>?_,((But.aU (K:=foot (.slice A n cap)) h.ev).then hb).ev λk hk=>h.high k (aG.1 hk)⟩;rcases hs k hk with h1|h1;exact h.high k h1;have:=h.ev.size;omega
theorem BD.evs{w0 w w1:ak}{A:Option Addr}{n cap:Nat}{b:By}(h:BD w0 A n cap b w)(hE:Ev w w1):BD w0 A n cap b w1:=⟨h.row.ev hE,h.len,h.high,h.ev.trans hE⟩
theorem BD.init(w:ak):BD w ↑w 0 0 [] (w.alloc (.cells #[] 5)):=
 ⟨⟨rfl,.inr ⟨w.heap.size,0,#[],rfl,aDl _,aFd w _,aC8 _,ai,rfl,rfl⟩⟩,rfl,by simp[Value.ownBlock],Ev.alloc _ _⟩
theorem abb(b:By)(c x y:UInt8)(q:By)(i ha hb:Nat)(hc:c.toNat=92)(hx:gV x=some ha)(hy:gV y=some hb):sxTextGo b (c::x::y::q) i=sxTextGo (b++[UInt8.ofNat (16*ha+hb)]) q (i+3):=by
 conv=>lhs;unfold sxTextGo
 have hp:bV c=false:=by unfold bV;rw[hc];rfl
 simp[hp,hc,hx,hy]
theorem ahw{a b:Nat}(ha:a<16)(hb:b<16):IntKind.u8.wrap (16*(a:Int)+(b:Int))=((UInt8.ofNat (16*a+b)).toNat:Int):=by rw[IntWalk.u8_in _ ae,UInt8.toNat_ofNat'];omega
theorem aGN(h:U:=by
 go_wp2
 (try simp only[Exit.inBlock,Exit.then]);refine aFe (iU rfl _ _ _) rfl ?_
 exact⟨_,_,_,by rw[oM.out];rfl,⟨(λh=>by rw[oM.out]at h;cases h),(λ_=>by rw[oM.out];simp only[aW];omega)⟩,ST.ev⟩):U:=h
theorem aF_(h:U:=by have WH:¬(c.toNat=92):=ae;unfold sxTextGo at jK;simp[hp,KP,WH]at jK;have oM:=zq jK;clear jK;exact aGN):U:=h
theorem aGU(h:U:=by
 (try simp only[Exit.inBlock,Exit.then]);refine aFe (iU rfl _ _ _) rfl ?_
 exact⟨_,_,_,by rw[QY.out];rfl,⟨(λh=>by rw[QY.out]at h;cases h),(λ_=>by rw[QY.out];simp only[aW];omega)⟩,ST.ev⟩):U:=h
theorem aFV(h:U:=by
 rw[TI]at wQ;rw[Ph TI]at HX;have HX:=zq HX;have QY:=zq wQ;clear wQ oM HA HB hx ex
 go_wp2_with (first|((with_reducible refine(HX.out _).mono ?_);rintro e w1 ⟨rfl,rfl⟩))
 exact aGU):U:=h
theorem aGz(h:U:=by have QY:=zq wQ;clear wQ oM HA HB;go_wp2;exact aGU):U:=h
theorem ahx(s:ByteArray)(w:ak)(hs:s.size<=100000)(i0:Nat)(hi:i0<s.size):
  Calls ax 159 #[.string s,↑i0] w λe w'=>
   ∃(sb:ByteArray) (en wh:Int),e=.returned (.tuple #[.string sb,↑en,.int .i64 (sxTextGo [] (s.data.toList.drop (i0+1)) 1).why,↑wh])/\
    aob (sxTextGo [] (s.data.toList.drop (i0+1)) 1) i0 sb en wh/\Ev w w':=by
 have kN:s.data.toList.length=s.size:=by rw[aDK];rfl
 obtain⟨Y,hY⟩:∃Y,Y=sxTextGo [] (s.data.toList.drop (i0+1)) 1:=⟨_,rfl⟩
 rw[<-hY];have HY:=zq hY;have HL:=zq kN;have HH:=zq akL;clear hY kN;go_enter func159,ntmps159;go_wp2
 go_loopw [8,9] (λov iv wr=>∃(b:By) (A:Option Addr) (n cap j:Nat),ov=.slice A n cap/\iv=↑j/\i0+1<=j/\j<=s.size/\n<=j/\BD w A n cap b wr/\Hid (Y=sxTextGo b (s.data.toList.drop j) (j-i0))) (λ_ iv _=>s.size-(intOf iv).toNat)
 case atStart=>exact⟨[],_,0,0,i0+1,rfl,by go_num,aC8 _,hi,ae,BD.init w,zq (by rw[show i0+1-i0=1 by omega];exact HY.out)⟩
 case round=>
  obtain⟨b,A,n,cap,j,rfl,rfl,hj0,hj,hnj,ST,HG⟩:=hrel;by_cases hlt:j<s.size
  ·have hat:=qo s j hlt;obtain⟨c,hc⟩:∃c,s[j]=c:=⟨_,rfl⟩
   have adT:∀hh,s[j]'hh=c:=λ_=>hc;rw[hc]at hat;have hdr:=kV hat;have g0:(0:Int)<=(j:Int):=ae;have g1:(j:Int)<(s.size:Int):=ae;have g2:¬((s.size:Int)<=(j:Int)):=ae;have vU:=zq ST.len;have jK:=HG.out;rw[hdr]at jK;clear hc HG hdr;by_cases KP:c.toNat=34
   ·have e34:(c.toNat:Int)=34:=ae;have hp:bV c=false:=by unfold bV;rw[KP];rfl
    unfold sxTextGo at jK;simp[hp,KP,vU.out]at jK;by_cases IU:40<n
    ·rw[if_pos IU]at jK;have oM:=zq jK;have e40:(40:Int)<(n:Int):=ae;clear jK;go_wp2
     (try simp only[Exit.inBlock,Exit.then]);refine aFe (iU rfl _ _ _) rfl ?_
     exact⟨_,_,_,by rw[oM.out];rfl,⟨(λh=>by rw[oM.out]at h;cases h),(λ_=>by rw[oM.out];rfl)⟩,ST.ev⟩
    rw[if_neg IU]at jK;have oM:=zq jK;have e40:¬((40:Int)<(n:Int)):=ae;obtain⟨A1',an0,hv,hbs,_,_⟩:=ST.row.bs;rw[vU.out]at hv hbs;injection hv with BR hv2 hv3
    subst BR hv3;have hcv:=hbs.str 180 9 5 underlying180 underlying5 underlying9;clear jK hv2;go_wp2
    (try simp only[Exit.inBlock,Exit.then]);refine aFe (iU rfl _ _ _) rfl ?_
    have hsz:((i0+(j-i0+1):Nat):Int)=(j:Int)+1:=ae;exact⟨_,_,_,by rw[oM.out];rfl,⟨(λ_=>by rw[oM.out];exact⟨rfl,hsz.symm⟩),(λh=>by rw[oM.out]at h;exact absurd rfl h)⟩,ST.ev⟩
   have e34:¬((c.toNat:Int)=34):=ae;have aoc:((c.toNat:Int)==34)=false:=aC7.2 e34;by_cases h32:c.toNat<32;have e32:(c.toNat:Int)<32:=ae;have hp:bV c=false:=by unfold bV;rw[aDB (show ¬32<=c.toNat by omega)];rfl
   exact aF_;have e32:¬((c.toNat:Int)<32):=ae;by_cases ayC:126<c.toNat;have e126:(126:Int)<(c.toNat:Int):=ae;have hp:bV c=false:=by unfold bV;rw[aDB (show ¬c.toNat<=126 by omega)];simp
   exact aF_;have e126:¬((126:Int)<(c.toNat:Int)):=ae;by_cases WH:c.toNat=92
   ·have e92:(c.toNat:Int)=92:=ae;have oM:=zq jK;clear jK;go_wp2
    go_loop [11] (λkv=>∃k:Nat,kv=↑k/\1<=k/\k<=3/\Hid (2<=k->∃x a,s.data.toList[j+1]?=some x/\gV x=some a)/\Hid (3<=k->∃x a,s.data.toList[j+2]?=some x/\gV x=some a)) (λkv=>3-(intOf kv).toNat)
    case atStart=>exact⟨1,rfl,aC8 _,ae,zq λh=>absurd h ae,zq λh=>absurd h ae⟩
    case round=>
     obtain⟨k,rfl,nX,hk3,HA,HB⟩:=hrel;have hpl:bV c=false:=by unfold bV;rw[WH];rfl
     by_cases k3:k=3
     ·subst k3;obtain⟨x,ha,hx,TI⟩:=HA.out ae;obtain⟨y,hb,hy,hyb⟩:=HB.out ae;have wQ:=oM.out;rw[kV hx,kV hy,abb b c x y _ _ ha hb WH TI hyb]at wQ;obtain⟨hj1,ex⟩:=aC6.1 hx;obtain⟨hj2,ey⟩:=aC6.1 hy;rw[HL.out]at hj1 hj2;have hx1:∀hh,s[j+1]'hh=x:=λ_=>ex;have hy1:∀hh,s[j+2]'hh=y:=λ_=>ey;have q1:(0:Int)<=(j:Int)+1:=ae;have q2:(j:Int)+1<(s.size:Int):=ae;have q3:(0:Int)<=(j:Int)+2:=ae;have q4:(j:Int)+2<(s.size:Int):=ae;have t1:((j:Int)+1).toNat=j+1:=ae;have t2:((j:Int)+2).toNat=j+2:=ae;have z1:IntKind.i64.wrap ((j:Int)+1)=(j:Int)+1:=IntWalk.i64_in _ ae;have z2:IntKind.i64.wrap ((j:Int)+2)=(j:Int)+2:=IntWalk.i64_in _ ae;have hha:=KN TI;have hhb:=KN hyb;have HX:=HH.out x;have HY2:=HH.out y;rw[Ak TI]at HX;rw[Ak hyb]at HY2;have HX:=zq HX;have HY2:=zq HY2;have hbyte:=ahw hha hhb;have z3:IntKind.i64.wrap (16*(ha:Int))=16*(ha:Int):=IntWalk.i64_in _ ae;have z4:IntKind.i64.wrap (16*(ha:Int)+(hb:Int))=16*(ha:Int)+(hb:Int):=IntWalk.i64_in _ ae;have QY:=zq wQ;generalize hN:UInt8.ofNat (16*ha+hb)=N16 at*;have HBS:=zq (λw1:ak=>xh w1 N16);have HST:=zq ST;clear wQ oM HA HB hx hy ex ey TI hyb hN hha hhb;go_wp2
      go_region_law (first
       | (refine Pj rfl 210 #[.tmp 73] #[5] rfl ah #[.int .u8 (x.toNat:Int)] (by simp only[aD1,aDe,aDu];rfl) _ (HX.out _) ?_)
       | (refine Pj rfl 210 #[.tmp 79] #[5] rfl ah #[.int .u8 (y.toNat:Int)] (by simp only[aD1,aDe,aDu];rfl) _ (HY2.out _) ?_)
       | (refine FU rfl (.tmp 69) (.tmp 83) rfl underlying180 Tryz.Fg (.slice A n cap) b rfl (HST.out.row.ev ((Ev.drew wr).trans (Ev.alloc wr.drew _))) ↑wr 1 1 [N16] rfl (HBS.out wr.drew) (by rw[vU.out];simp;omega) ?_;intro v2 w5 hr2 hb2 hs2;obtain⟨A2,n2,cap2,rfl,ST2⟩:=(HST.out.evs ((Ev.drew wr).trans (Ev.alloc wr.drew _))).step hr2 hb2 hs2))
      all_goals (
       go_wp2
       go_round
       case rel=>exact⟨b++[N16],A2,n2,cap2,j+3,rfl,by go_num,ae,ae,by rw[<-ST2.len,aDd,vU.out];simp;omega,ST2,zq (by rw[show j+3-i0=j-i0+3 by omega];exact QY.out)⟩
       case measure=>simp[intOf];omega)
     obtain rfl|rfl:k=1∨k=2:=ae
     ·skip
      have kz:IntKind.i64.wrap ((j:Int)+1)=(j:Int)+1:=IntWalk.i64_in _ ae;have wQ:=oM.out;by_cases hk:j+1<s.size
      ·have hx:=qo s (j+1) hk;obtain⟨x,ex⟩:∃x,s[j+1]=x:=⟨_,rfl⟩
       have hx1:∀hh,s[j+1]'hh=x:=λ_=>ex;rw[ex]at hx;rw[kV hx]at wQ;unfold sxTextGo at wQ;simp[hpl,WH]at wQ;have q1:(0:Int)<=(j:Int)+1:=ae;have q2:(j:Int)+1<(s.size:Int):=ae;have q3:¬((s.size:Int)<=(j:Int)+1):=ae;have t1:((j:Int)+1).toNat=j+1:=ae;have HX:=HH.out x
       cases TI:gV x with
       | none=>
        exact aFV
       | some a=>
        rw[Ak TI]at HX;have HX:=zq HX;have q4:¬((a:Int)<0):=ae;have q5:(0:Int)<=(a:Int):=ae;have HAx:Hid (∃x a,s.data.toList[j+1]?=some x/\gV x=some a):=zq ⟨x,a,hx,TI⟩;clear wQ hx ex
        go_wp2_with (first|((with_reducible refine(HX.out _).mono ?_);rintro e w1 ⟨rfl,rfl⟩))
        go_round
        case rel=>exact⟨2,rfl,ae,ae,zq λ_=>HAx.out,zq λh=>absurd h ae⟩
        case measure=>simp[intOf]
      have q3:(s.size:Int)<=(j:Int)+1:=ae;rw[aDO (by rw[HL.out];omega)]at wQ;unfold sxTextGo at wQ;simp[hpl,WH]at wQ;exact aGz
     skip
     have kz:IntKind.i64.wrap ((j:Int)+2)=(j:Int)+2:=IntWalk.i64_in _ ae;obtain⟨x0,ha0,hx0,aod⟩:=HA.out ae;have wQ:=oM.out;rw[kV hx0]at wQ;have hj1:=(aC6.1 hx0).1;rw[HL.out]at hj1;by_cases hk:j+2<s.size
     ·have hx:=qo s (j+2) hk;obtain⟨x,ex⟩:∃x,s[j+2]=x:=⟨_,rfl⟩
      have hx1:∀hh,s[j+2]'hh=x:=λ_=>ex;rw[ex]at hx;rw[kV hx]at wQ;unfold sxTextGo at wQ;simp[hpl,WH,aod]at wQ;have q1:(0:Int)<=(j:Int)+2:=ae;have q2:(j:Int)+2<(s.size:Int):=ae;have q3:¬((s.size:Int)<=(j:Int)+2):=ae;have t1:((j:Int)+2).toNat=j+2:=ae;have HX:=HH.out x
      cases TI:gV x with
      | none=>
       exact aFV
      | some a=>
       rw[Ak TI]at HX;have HX:=zq HX;have q4:¬((a:Int)<0):=ae;have q5:(0:Int)<=(a:Int):=ae;have HAx:Hid (∃x a,s.data.toList[j+2]?=some x/\gV x=some a):=zq ⟨x,a,hx,TI⟩;clear wQ hx ex
       go_wp2_with (first|((with_reducible refine(HX.out _).mono ?_);rintro e w1 ⟨rfl,rfl⟩))
       go_round
       case rel=>exact⟨3,rfl,ae,ae,zq λ_=>HA.out ae,zq λ_=>HAx.out⟩
       case measure=>simp[intOf]
     have q3:(s.size:Int)<=(j:Int)+2:=ae;rw[aDO (by rw[HL.out];omega)]at wQ;unfold sxTextGo at wQ;simp[hpl,WH,aod]at wQ;exact aGz
   have e92:¬((c.toNat:Int)=92):=ae;have ayD:((c.toNat:Int)==92)=false:=aC7.2 e92;have hp:bV c=true:=by unfold bV;simp;omega
   unfold sxTextGo at jK;simp[hp]at jK;have oM:=zq jK;have HBS:=zq (xh wr c);clear jK
   go_wp2_with (first
    | ((show wpList _ _ _ (⟨some 46,_,_,_,_,_⟩::_) _ _);refine nO (o:=⟨some 46,_,_,_,_,_⟩) rfl (.tmp 43) (.tmp 45) rfl underlying180 Tryz.Fg (.slice A n cap) b rfl (ST.row.ev aC) ↑wr 1 1 [c] rfl HBS.out (by rw[vU.out];simp;omega) ?_;intro v2 w5 hr2 hb2 hs2;obtain⟨A2,n2,cap2,rfl,ST2⟩:=(ST.evs aC).step hr2 hb2 hs2))
   go_round
   case rel=>exact⟨b++[c],A2,n2,cap2,j+1,rfl,by go_num,ae,ae,by rw[<-ST2.len,aDd,vU.out];simp;omega,ST2,zq (by rw[show j+1-i0=j-i0+1 by omega];exact oM.out)⟩
   case measure=>simp[intOf];omega
  have hjs:j=s.size:=ae;have jK:=HG.out;rw[aDO (by rw[HL.out];omega)]at jK;unfold sxTextGo at jK;have oM:=zq jK;have g2:(s.size:Int)<=(j:Int):=ae;clear jK HG;exact aGN
structure Bx(T:TypeId)(g:Nat)(cs:Array au)(w:ak):Prop where
 blk:w.heap[g]?=some (.cells cs T (0,0))
theorem Bx.but{K:List Nat}{T:TypeId}{g:Nat}{cs:Array au}{w w':ak}(h:Bx T g cs w)(hb:But K w w')(hn:g∉K):Bx T g cs w':=⟨hb.heap h.blk hn⟩
theorem Bx.ev{T:TypeId}{g:Nat}{cs:Array au}{w w':ak}(h:Bx T g cs w)(hE:Ev w w'):Bx T g cs w':=h.but (But.aU (K:=[]) hE) aj
theorem Bx.lt{T:TypeId}{g:Nat}{cs:Array au}{w:ak}(h:Bx T g cs w):g<w.heap.size:=(aDa.1 h.blk).1
theorem Bx.cell{T:TypeId}{g:Nat}{cs:Array au}{w:ak}(h:Bx T g cs w)(i:Nat):w.cell? ⟨g,i,none⟩=cs[i]?:=by rw[aFf h.blk]
theorem Bx.frozen{T:TypeId}{g:Nat}{cs:Array au}{w:ak}(h:Bx T g cs w)(i:Nat):w.frozen? ⟨g,i,none⟩=false:=aFg h.blk i
theorem Bx.set{T:TypeId}{g:Nat}{cs:Array au}{w:ak}(h:Bx T g cs w)(i:Nat)(v:au):Bx T g (cs.setIfInBounds i v) (w.setCell ⟨g,i,none⟩ v):=⟨H7 i v h.blk⟩
theorem Bx.new(T:TypeId)(cs:Array au)(w:ak):Bx T w.heap.size cs (w.alloc (.cells cs T)):=⟨aFd w _⟩
theorem Bx.five{T:TypeId}{g:Nat}{w:ak}{v0 v1 v2 v3 v4:au}(h:Bx T g #[v0,v1,v2,v3,v4] w):(w.cell? ⟨g,0,none⟩=some v0/\w.cell? ⟨g,1,none⟩=some v1/\w.cell? ⟨g,2,none⟩=some v2/\w.cell? ⟨g,3,none⟩=some v3/\w.cell? ⟨g,4,none⟩=some v4)/\
  (w.frozen? ⟨g,0,none⟩=false/\w.frozen? ⟨g,1,none⟩=false/\w.frozen? ⟨g,2,none⟩=false/\w.frozen? ⟨g,3,none⟩=false/\w.frozen? ⟨g,4,none⟩=false):=
 ⟨⟨h.cell 0,h.cell 1,h.cell 2,h.cell 3,h.cell 4⟩,h.frozen 0,h.frozen 1,h.frozen 2,h.frozen 3,h.frozen 4⟩
theorem Bx.four{T:TypeId}{g:Nat}{w:ak}{v0 v1 v2 v3:au}(h:Bx T g #[v0,v1,v2,v3] w):(w.cell? ⟨g,0,none⟩=some v0/\w.cell? ⟨g,1,none⟩=some v1/\w.cell? ⟨g,2,none⟩=some v2/\w.cell? ⟨g,3,none⟩=some v3)/\
  (w.frozen? ⟨g,0,none⟩=false/\w.frozen? ⟨g,1,none⟩=false/\w.frozen? ⟨g,2,none⟩=false/\w.frozen? ⟨g,3,none⟩=false):=
 ⟨⟨h.cell 0,h.cell 1,h.cell 2,h.cell 3⟩,h.frozen 0,h.frozen 1,h.frozen 2,h.frozen 3⟩
def qZ(g:Nat)(v0 v1 v2 v3:au)(w:ak):ak:=(((w.setCell ⟨g,0,none⟩ v0).setCell ⟨g,1,none⟩ v1).setCell ⟨g,2,none⟩ v2).setCell ⟨g,3,none⟩ v3
def pG(g:Nat)(v0 v1 v2 v3 v4:au)(w:ak):ak:=(qZ g v0 v1 v2 v3 w).setCell ⟨g,4,none⟩ v4
theorem fK(g:Nat)(v0 v1 v2 v3 v4:au)(w:ak):((((w.setCell ⟨g,0,none⟩ v0).setCell ⟨g,1,none⟩ v1).setCell ⟨g,2,none⟩ v2).setCell ⟨g,3,none⟩ v3).setCell ⟨g,4,none⟩ v4=pG g v0 v1 v2 v3 v4 w:=rfl
theorem ik(g:Nat)(v0 v1 v2 v3:au)(w:ak):(((w.setCell ⟨g,0,none⟩ v0).setCell ⟨g,1,none⟩ v1).setCell ⟨g,2,none⟩ v2).setCell ⟨g,3,none⟩ v3=qZ g v0 v1 v2 v3 w:=rfl
theorem kC(g:Nat)(v0 v1 v2 v3:au)(w:ak):But [g] w (qZ g v0 v1 v2 v3 w):=
 (((But.setCell ⟨g,0,none⟩ _ aj).then (But.setCell ⟨g,1,none⟩ _ aj)).then (But.setCell ⟨g,2,none⟩ _ aj)).then (But.setCell ⟨g,3,none⟩ _ aj)
theorem dZ(g:Nat)(v0 v1 v2 v3 v4:au)(w:ak):But [g] w (pG g v0 v1 v2 v3 v4 w):=(kC g v0 v1 v2 v3 w).then (But.setCell ⟨g,4,none⟩ _ aj)
theorem Bx.pG{T:TypeId}{g:Nat}{w:ak}{u0 u1 u2 u3 u4:au}(h:Bx T g #[u0,u1,u2,u3,u4] w)(v0 v1 v2 v3 v4:au):Bx T g #[v0,v1,v2,v3,v4] (pG g v0 v1 v2 v3 v4 w):=by have:=((((h.set 0 v0).set 1 v1).set 2 v2).set 3 v3).set 4 v4;rw[show ((((((#[u0,u1,u2,u3,u4]:Array au).setIfInBounds 0 v0).setIfInBounds 1 v1).setIfInBounds 2 v2).setIfInBounds 3 v3).setIfInBounds 4 v4)=#[v0,v1,v2,v3,v4] by simp]at this;exact this
theorem Ev.box{w w1 w2:ak}{g:Nat}(h:Ev w w1)(hb:But [g] w1 w2)(hg:w.heap.size<=g):Ev w w2:=
 ((But.aU (K:=[g]) h).then hb).ev λk hk=>by simp at hk;omega
theorem aZ{P:Program}{fn:Func}{p:Tmp}{ty:TypeId}(h:fn.results=#[.cell p ty])(tmps:Array au)(w:ak)(g:Nat)(cs:Array au)(d:TypeDesc)
  (hp:tmps.getD p undef=.pointer ↑g) (hg:Bx ty g cs w)
  (hu:P.underlying ty=some d) (hd:(match d with|.struct _|.array _ _=>true|_=>false)=true) (hi:(P.info? ty).map (·.size)=some cs.size):
  (results fn tmps).run P w=.ok (.agg cs) w:=by
 have hp':tmps[p]?.getD undef=.pointer ↑g:=by simpa using hp
 simp[results,h,hp',asAddr,run_loadVar_row w g ty ty cs (0,0) d hg.blk hu hd hi]
theorem mM{P:Program}{fn:Func}{p u1 u2 u3:Tmp}{ty:TypeId}(h:fn.results=#[.cell p ty,.tmp u1,.tmp u2,.tmp u3])(tmps:Array au)(w:ak)(g:Nat)(cs:Array au)(d:TypeDesc)
  (hp:tmps.getD p undef=.pointer ↑g) (hg:Bx ty g cs w)
  (hu:P.underlying ty=some d) (hd:(match d with|.struct _|.array _ _=>true|_=>false)=true) (hi:(P.info? ty).map (·.size)=some cs.size):
  (results fn tmps).run P w=.ok (.tuple #[.agg cs,tmps.getD u1 undef,tmps.getD u2 undef,tmps.getD u3 undef]) w:=by
 have hp':tmps[p]?.getD undef=.pointer ↑g:=by simpa using hp
 simp[results,h,hp',asAddr,run_loadVar_row w g ty ty cs (0,0) d hg.blk hu hd hi]
theorem aN{P:Program}{fn:Func}{p u1 u2:Tmp}{ty:TypeId}(h:fn.results=#[.cell p ty,.tmp u1,.tmp u2])(tmps:Array au)(w:ak)(g:Nat)(cs:Array au)(d:TypeDesc)
  (hp:tmps.getD p undef=.pointer ↑g) (hg:Bx ty g cs w)
  (hu:P.underlying ty=some d) (hd:(match d with|.struct _|.array _ _=>true|_=>false)=true) (hi:(P.info? ty).map (·.size)=some cs.size):
  (results fn tmps).run P w=.ok (.tuple #[.agg cs,tmps.getD u1 undef,tmps.getD u2 undef]) w:=
 Bz h tmps w g ty cs (0,0) d hp hg.blk hu hd hi
theorem Tryz.iK:(Tryz.prog.info? 109).map (·.size)=some 5:=ah
theorem La:∀(N:Nat) (r b:By) (i:Nat),r.length<=N->(sxTextGo b r i).n=0:=by
 intro N
 induction N with
 | zero=>
  intro r b i h;have:r=[]:=aDv ae;subst this;rfl
 | succ N ih=>
  intro r b i h
  cases r with
  | nil=>rfl
  | cons c q=>
   simp at h;unfold sxTextGo;split;exact ih q _ _ h;split;split;rfl;rename_i x q1;simp at h;split;rfl;split;rfl;rename_i y q2;simp at h;split;rfl;exact ih q2 _ _ ae;split
   ·split<;>rfl
   rfl
theorem Cc(plus:Bool)(d:By):((sxNum plus d).why=0->(sxNum plus d).kind=3/\(sxNum plus d).s=[])/\((sxNum plus d).why≠0->(sxNum plus d).why=12/\(sxNum plus d).fault=0):=by unfold sxNum;split;exact⟨(λh=>by cases h),(λ_=>⟨rfl,rfl⟩)⟩;split;exact⟨(λh=>by cases h),(λ_=>⟨rfl,rfl⟩)⟩;split;exact⟨λ_=>⟨rfl,rfl⟩,λh=>absurd rfl h⟩;exact⟨λ_=>⟨rfl,rfl⟩,λh=>absurd rfl h⟩
theorem BF(l:By):((dL l).why=0->(dL l).kind=3/\(dL l).s=[])/\((dL l).why≠0->(dL l).why=12/\(dL l).fault=0):=by unfold dL;split;exact Cc _ _;split;exact Cc _ _;exact Cc _ _
theorem Ot(l:By):(dL l).why=0->(dL l).kind=3/\(dL l).s=[]:=(BF l).1
theorem QZ(l:By):(dL l).why≠0->(dL l).why=12/\(dL l).fault=0:=(BF l).2
def ahy(X:Tk)(i:Nat)(w:ak)(e:Ending)(w':ak):Prop:=
 ∃(k n p en wh:Int) (sb:ByteArray),e=.returned (.tuple #[.agg #[↑k,.string sb,↑n,↑(),↑p],↑en,↑X.why,↑wh])/\
  (X.why=0->k=X.kind/\sb=⟨X.s.toArray⟩/\n=X.n/\p=(i:Int)/\en=((i+X.size:Nat):Int))/\(X.why≠0->wh=((i+X.fault:Nat):Int))/\Ev w w'
theorem aF1(h:U:=by(try simp only[Exit.inBlock,Exit.then]);rw[fK];refine aFe (mM rfl _ _ _ _ _ rfl (HB.out.pG _ _ _ _ _) underlying109 rfl Tryz.iK) rfl ?_;exact⟨_,_,_,_,_,_,(by rw[HX.out];rfl),(λ_=>by rw[HX.out];exact⟨rfl,Am.out HJQ.out,rfl,rfl,HXE.out HJQ.out⟩),(λh=>absurd (by rw[HX.out]) h),HE.out.box (dZ _ _ _ _ _ _ _) (aC8 _)⟩):U:=h
theorem ahz(s:ByteArray)(w:ak)(hs:s.size<=100000)(i:Nat)(hi:i<s.size)(c:UInt8)(hc0:s.data.toList[i]?=some c)(hk:c.toNat=34∨c.toNat=45∨bC c=true∨aY c=true):
  Calls ax 91 #[.string s,↑i] w (ahy (bJ (s.data.toList.drop i)) i w):=by
 have kN:s.data.toList.length=s.size:=by rw[aDK];rfl
 have HL:=zq kN;have hidx:∀hh,s[i]'hh=c:=λhh=>by have:=qo s i hh;rw[this]at hc0;exact aDp hc0
 have g0:(0:Int)<=(i:Int):=ae;have g1:(i:Int)<(s.size:Int):=ae;have hdr:=kV hc0;obtain⟨X,hX⟩:∃X,X=bJ (s.data.toList.drop i):=⟨_,rfl⟩
 rw[<-hX];have hB:=Bx.new 109 ↑Zz.a w;have hE:=Ev.alloc w (.cells ↑Zz.a 109);obtain⟨w0,hw0⟩:∃w0,w.alloc (.cells ↑Zz.a 109)=w0:=⟨_,rfl⟩
 rw[hw0]at hB hE;have HB:=zq hB;have HE:=zq hE;clear hB hE;by_cases KP:c.toNat=34
 ·have e34:(c.toNat:Int)=34:=ae;have HT:=zq (λw1:ak=>ahx s w1 hs i hi);rw[hdr]at hX;simp[bJ,KP]at hX;have hp:=kU _ (s.data.toList.drop (i+1)) [] 1 (aC8 _);have hn:=La _ (s.data.toList.drop (i+1)) [] 1 (aC8 _);rw[<-hX]at hp hn HT;have HP:=zq hp;have HN:=zq hn;clear hX hdr hc0 hp hn;go_enter func91,ntmps91
  go_wp2_with (first|((with_reducible refine(HT.out _).mono ?_);rintro e w1 ⟨sb,en,wh,rfl,HO,aJ⟩;have B1:=HB.out.ev aJ;have E1:=HE.out.trans aJ;obtain⟨⟨c0,c1,c2,c3,c4⟩,f0,f1,f2,f3,f4⟩:=B1.five))
  (try simp only[Exit.inBlock,Exit.then]);rw[fK];refine aFe (mM rfl _ _ _ _ _ rfl (B1.pG _ _ _ _ _) underlying109 rfl Tryz.iK) rfl ?_;exact⟨_,_,_,_,_,_,rfl,λh=>⟨((HP.out.2 h).1).symm,(HO.ok h).1,HN.out.symm,rfl,(HO.ok h).2⟩,HO.bad,E1.box (dZ _ _ _ _ _ _ _) (aC8 _)⟩
 have e34:¬((c.toNat:Int)=34):=ae;have aoc:((c.toNat:Int)==34)=false:=aC7.2 e34;have xx:=zq FP;have HC:=FP c
 cases hlc:bC c with
 | true=>
  rw[hlc]at HC;have HC:=zq HC;have aoe:=hlc;unfold bC at aoe;simp at aoe;have hnd:aY c=false:=by unfold aY;simp;omega
  rw[hdr]at hX;simp only[bJ,hlc,hnd,show (c.toNat==40)=false by simp;omega,show (c.toNat==41)=false by simp;omega,show (c.toNat==34)=false by simp;omega,show (c.toNat==45)=false by simp;omega]at hX;simp at hX;rw[<-hdr]at hX;have hrl:=jJ bC (s.data.toList.drop i);rw[aDD,kN]at hrl;obtain⟨q,hq⟩:∃q,q=sxRun bC (s.data.toList.drop i):=⟨_,rfl⟩
  rw[<-hq]at hX hrl;have HX:=zq hX;have HQ:=zq hq;clear hX hdr hc0 hq kN;go_enter func91,ntmps91
  go_wp2_with (first|((with_reducible refine(HC.out _).mono ?_);rintro e w1 ⟨rfl,rfl⟩))
  go_loop [12] (λiv=>∃j:Nat,iv=↑j/\i<=j/\j<=s.size/\Hid (sxRun bC (s.data.toList.drop j)+(j-i)=q)) (λiv=>s.size-(intOf iv).toNat)
  case atStart=>exact⟨i,rfl,aC8 _,ae,zq (by rw[HQ.out];omega)⟩
  case round=>
   obtain⟨j,rfl,hj0,hj1,HJ⟩:=hrel;obtain⟨⟨c0,c1,c2,c3,c4⟩,f0,f1,f2,f3,f4⟩:=HB.out.five;have uj:(0:Int)<=(i:Int):=ae;have qN:(i:Int)<=(j:Int):=ae;have hjs:(j:Int)<=(s.size:Int):=ae;have Am:Hid (j-i=q->(s.extract i j)=⟨((s.data.toList.drop i).take q).toArray⟩):=zq λh=>by apply ByteArray.ext;apply Array.toList_inj.1;rw[Lib.extract_eq,h]
   have HXE:Hid (j-i=q->(j:Int)=((i+q:Nat):Int)):=zq (λh=>by omega);by_cases hlt:j<s.size
   ·have hat:=qo s j hlt;obtain⟨x,ex⟩:∃x,s[j]=x:=⟨_,rfl⟩
    have hx1:∀hh,s[j]'hh=x:=λ_=>ex;rw[ex]at hat;have hst:=lL bC s.data.toList j x hat;have q0:(0:Int)<=(j:Int):=ae;have q1:(j:Int)<(s.size:Int):=ae;have IZ:=xx.out x
    cases lD:bC x with
    | true=>
     rw[lD]at IZ hst;simp only[aDL]at hst;have IZ:=zq IZ;have HJ2:Hid (sxRun bC (s.data.toList.drop (j+1))+(j+1-i)=q):=zq (by have:=HJ.out;omega);clear hst hat ex
     go_wp2_with (first|((with_reducible refine(IZ.out _).mono ?_);rintro e w1 ⟨rfl,rfl⟩))
     go_round
     case rel=>exact⟨j+1,by go_num,ae,ae,HJ2⟩
     case measure=>simp[intOf];omega
    | false=>
     rw[lD]at IZ hst;simp only[aDq,aDU]at hst;have IZ:=zq IZ;have hjq:j-i=q:=by have:=HJ.out;omega
     have HJQ:=zq hjq;clear hst hat ex hjq
     go_wp2_with (first|((with_reducible refine(IZ.out _).mono ?_);rintro e w1 ⟨rfl,rfl⟩))
     exact aF1
   have q1:¬((j:Int)<(s.size:Int)):=ae;have hjq:j-i=q:=by have:=HJ.out;rw[aDO (by rw[HL.out];omega)]at this;simp[sxRun]at this;exact this
   have HJQ:=zq hjq;clear hjq;go_wp2;exact aF1
 | false=>
  rw[hlc]at HC;have HC:=zq HC;have hk2:c.toNat=45∨aY c=true:=by rcases hk with h|h|h|h;exact absurd h KP;exact .inl h;rw[hlc]at h;cases h;exact .inr h
  have hX2:X=dL (s.data.toList.drop i):=by
   rw[hX,hdr];have h4:(c.toNat==40)=false/\(c.toNat==41)=false:=by rcases hk2 with h|h;simp[h];unfold aY at h;simp at h;simp;omega
   have h5:(c.toNat==45||aY c)=true:=by simp;exact hk2
   simp only[bJ,h4.1,h4.2,h5,show (c.toNat==34)=false by simp;omega];simp
  have HN:=λw1=>aa' s w1 hs i c hi hc0;rw[<-hX2]at HN;have HN:=zq HN;have HX3:Hid (X.why=0->X.kind=3/\X.s=[]):=zq (by rw[hX2];exact Ot _);have HX4:Hid (X.why≠0->X.why=12/\X.fault=0):=zq (by rw[hX2];exact QZ _);obtain⟨wy,hwy⟩:∃wy,wy=X.why:=⟨_,rfl⟩
  rw[<-hwy]at HN;clear hX hX2 hdr hc0;by_cases hw:wy=0
  ·have ZF:(wy==0)=true:=by rw[hw];rfl
   rw[ZF]at HN;subst hw;have HW:=zq hwy;clear hwy ZF;go_enter func91,ntmps91
   go_wp2_with (first
    | ((with_reducible refine(HC.out _).mono ?_);rintro e w1 ⟨rfl,rfl⟩)
    | ((with_reducible refine(HN.out _).mono ?_);rintro e w1 ⟨j,rfl,hj,aJ⟩;have HJ:=zq (hj aj);clear hj;have B1:=HB.out.ev aJ;have E1:=HE.out.trans aJ;obtain⟨⟨c0,c1,c2,c3,c4⟩,f0,f1,f2,f3,f4⟩:=B1.five))
   (try simp only[Exit.inBlock,Exit.then]);rw[fK];refine aFe (mM rfl _ _ _ _ _ rfl (B1.pG _ _ _ _ _) underlying109 rfl Tryz.iK) rfl ?_;exact⟨_,_,_,_,_,_,by rw[<-HW.out];rfl,(λh=>⟨((HX3.out h).1).symm,(by rw[(HX3.out h).2]),rfl,rfl,(by rw[HJ.out])⟩),(λh=>absurd HW.out.symm h),E1.box (dZ _ _ _ _ _ _ _) (aC8 _)⟩
  have ZF:(wy==0)=false:=aC7.2 hw;rw[ZF]at HN;have HW:=zq hwy;have HW2:=zq hw;clear hwy ZF hw;go_enter func91,ntmps91
  go_wp2_with (first
   | ((with_reducible refine(HC.out _).mono ?_);rintro e w1 ⟨rfl,rfl⟩)
   | ((with_reducible refine(HN.out _).mono ?_);rintro e w1 ⟨j,rfl,hj,aJ⟩;clear hj;have B1:=HB.out.ev aJ;have E1:=HE.out.trans aJ;obtain⟨⟨c0,c1,c2,c3,c4⟩,f0,f1,f2,f3,f4⟩:=B1.five))
  (try simp only[Exit.inBlock,Exit.then]);rw[fK];refine aFe (mM rfl _ _ _ _ _ rfl (B1.pG _ _ _ _ _) underlying109 rfl Tryz.iK) rfl ?_;exact⟨_,_,_,_,_,_,by rw[(HX4.out (by rw[<-HW.out];exact HW2.out)).1];rfl,(λh=>absurd (HW.out.trans h) HW2.out),(λh=>by rw[(HX4.out h).2];rfl),E1.box (dZ _ _ _ _ _ _ _) (aC8 _)⟩
def UE:By:=[97,100,100]
def UF:By:=[115,117,98]
def UG:By:=[109,117,108]
def bEq:By:=[101,113]
def bLt:By:=[108,116]
def UH:By:=[97,110,100]
def bOr:By:=[111,114]
def UI:By:=[99,97,116]
def UJ:By:=[110,101,103]
def UK:By:=[110,111,116]
def UL:By:=[108,101,110]
def bIf:By:=[105,102]
def abd(s:By):Bool:=s==UE||s==UF||s==UG||s==bEq||s==bLt||s==UH||s==bOr||s==UI
def abe(s:By):Bool:=s==UJ||s==UK||s==UL
def dU(s:By):Nat:=if abd s then 2 else if abe s then 1 else if s==bIf then 3 else 0
def dV(s:By):ByteArray:=⟨s.toArray⟩
abbrev kZ(s:By):Bool:=gU (dV s)
abbrev FV:=T×Int×Nat
def lF(why:Int)(pos:Nat):FV:=(dQ,why,pos)
def xReads(s:By)(done:List T):List FV->FV
 | []=>(.mk 4 s 0 done 0,0,0)
 | r::l=>if r.2.1==0 then xReads s (done++[r.1]) l else (dQ,r.2.1,r.2.2)
mutual
def xRead:T->FV
 | .mk k s n l p=>
  if k==2 then (if kZ s then (.mk 1 s 0 [] 0,0,0) else lF 20 p)
  else if k==3 then (.mk 2 [] n [] 0,0,0)
  else if k==4 then (.mk 3 s 0 [] 0,0,0)
  else if k==1 then
   (match l with
    | []=>lF 12 p
    | h::q=>if h.kind==2&&!(dU h.s==0) then
      (if q.length==dU h.s then xReads h.s [] (DD q) else lF 23 p) else lF 12 p)
  else lF 12 p
def DD:List T->List FV
 | []=>[]
 | t::l=>xRead t::DD l
end
def DF(e:T):Bool:=
 if e.kind==1 then !kZ e.s||!(e.n==0)||!e.kids.isEmpty
 else if e.kind==2 then !e.s.isEmpty||!e.kids.isEmpty
 else if e.kind==3 then !(e.n==0)||!e.kids.isEmpty
 else if e.kind==4 then dU e.s==0||!(e.n==0)||!(e.kids.length==dU e.s)
 else true
mutual
def pI:T->Bool
 | .mk k s n l p=>!DF (.mk k s n l p)&&DI l
def DI:List T->Bool
 | []=>true
 | t::l=>pI t&&DI l
end
mutual
def T.size:T->Nat
 | .mk _ _ _ l _=>T.sizes l+1
def T.sizes:List T->Nat
 | []=>0
 | t::l=>t.size+T.sizes l
end
def akP(ks:List Int)(k:Int):Bool:=ks.all (·==k)
def adY(s:By)(ks:List Int):Int×Int:=
 if s==UE||s==UF||s==UG||s==UJ||s==UH||s==bOr||s==UK then (if akP ks 1 then (1,0) else (0,22))
 else if s==bEq||s==bLt then (if ks.getD 0 0==ks.getD 1 0 then (1,0) else (0,22))
 else if s==UI then (if akP ks 2 then (2,0) else (0,22))
 else if s==UL then (if akP ks 2 then (1,0) else (0,22))
 else if s==bIf then (if ks.getD 0 0==1&&ks.getD 1 0==ks.getD 2 0 then (ks.getD 1 0,0) else (0,22))
 else (0,22)
def xKindsGo(s:By)(done:List Int):List (Int×Int)->Int×Int
 | []=>adY s done
 | r::l=>if r.2==0 then xKindsGo s (done++[r.1]) l else (0,r.2)
mutual
def xKind(cols:List C):T->Int×Int
 | .mk k s n l p=>
  if k==1 then (match gZ cols (dV s) with|none=>(0,20)|some i=>((cols.getD i (⟨#[]⟩,0)).2,0))
  else if k==2 then (1,0)
  else if k==3 then (2,0)
  else xKindsGo s [] (adZ cols l)
def adZ(cols:List C):List T->List (Int×Int)
 | []=>[]
 | t::l=>xKind cols t::adZ cols l
end
def xType(cols:List C)(e:T):Int×Int:=if pI e then xKind cols e else (0,22)
def v0:V:=(0,0,⟨#[]⟩)
def ec(m:M):List au:=[↑m.kind,↑m.s,↑m.n,m.kv]
def ev_(m:M):au:=.agg #[↑m.kind,↑m.s,↑m.n,m.kv]
abbrev Es:=Sl 4 ec
theorem akQ:Enc 4 ec:=⟨ae,λ_=>rfl,λx u hu=>by
 simp[ec,M.kv]at hu;rcases hu with rfl|rfl|rfl|rfl<;>rfl⟩
inductive Lx(b0:Nat)(K:List Nat)(w:ak):M->Prop
 | mk {kind:Int} {s:By} {n:Int} {A:Option Addr} {cap:Nat} {kids:List M} {pos:Nat}:Es w A kids.length cap kids->(∀ad,A=some ad->b0<=ad.block/\ad.block<w.heap.size/\ad.block∉K)->(∀k∈kids,Lx b0 K w k)->
   Lx b0 K w (.mk kind s n A cap kids pos)
theorem Lx.move{b0:Nat}{K K':List Nat}{w w':ak}{m:M}(h:Lx b0 K w m)(hb:But K w w')(hs:∀x∈K',x∈K∨x<b0∨w.heap.size<=x):Lx b0 K' w' m:=by exact aGd
theorem Lx.low{b0 b1:Nat}{K:List Nat}{w:ak}{m:M}(h:Lx b1 K w m)(hb:b0<=b1):Lx b0 K w m:=by exact aH2
theorem Lx.leaf{b0:Nat}{K:List Nat}{w:ak}{k:Int}{s:By}{n:Int}{p:Nat}:Lx b0 K w (.mk k s n none 0 [] p):=.mk (Sl.nil_ w) (λ_ h=>by cases h) (λ_ h=>by cases h)
theorem Es.cell{w:ak}{A:Option Addr}{n cap:Nat}{l:List M}(h:Es w A n cap l){i:Nat}{x:M}(hx:l[i]?=some x):∃b off,A=some ⟨b,off,none⟩/\b<w.heap.size/\
  w.cell? ⟨b,off+i*4,none⟩=some ↑x.kind/\w.cell? ⟨b,off+i*4+1,none⟩=some ↑x.s/\w.cell? ⟨b,off+i*4+2,none⟩=some ↑x.n/\w.cell? ⟨b,off+i*4+3,none⟩=some x.kv:=by
 have hi:=(aC6.1 hx).1;have hl:=h.len;obtain⟨b,off,e,hlt,hc⟩:=h.rd ae;exact⟨b,off,e,hlt,hc i x hx 0 _ rfl,hc i x hx 1 _ rfl,hc i x hx 2 _ rfl,hc i x hx 3 _ rfl⟩
mutual
def M.dep:M->Nat
 | .mk _ _ _ _ _ l _=>M.deps l+1
def M.deps:List M->Nat
 | []=>0
 | m::l=>max m.dep (M.deps l)
end
theorem M.DJ:∀(l:List M) (k:M),k∈l->k.dep<=M.deps l
 | [],k,h=>by cases h
 | m::l,k,h=>by rcases aDg.1 h with rfl|h;simp[M.deps];omega;have:=M.DJ l k h;simp[M.deps];omega
theorem M.vC(m:M):m.dep=M.deps m.kids+1:=by cases m;rfl
theorem M.uH{m k:M}(h:k∈m.kids):k.dep<m.dep:=by have:=M.DJ m.kids k h;rw[M.vC m];omega
theorem M.DK(m:M):m.t.s=m.s:=by rw[M.yE];rfl
theorem rf:∀l:List T,DD l=l.map xRead
 | []=>rfl
 | t::l=>by simp[DD,rf l]
theorem y5:∀l:List T,DI l=l.all pI
 | []=>rfl
 | t::l=>by simp[DI,y5 l]
theorem T.rU:∀l:List T,T.sizes l=(l.map T.size).sum
 | []=>rfl
 | t::l=>by simp[T.sizes,T.rU l]
def fZ(c:UInt8):Bool:=c.toNat==40||c.toNat==34||c.toNat==45||bC c||aY c
def rfPop(os:List T):List T:=match os.getLast? with|none=>os|some e=>sxPut os.dropLast e
def Jn(os:List T)(pos:Nat):Res:=if 1<os.length then (dQ,10,pos) else jX os pos
def rfGo:Nat->List T->By->Nat->Res
 | 0,_,_,_=>(dQ,12,0)
 | _+1,os,[],pos=>Jn os pos
 | f+1,os,c::q,pos=>
  if dA c then rfGo f os q (pos+1)
  else if c.toNat==41 then (if os.length==1 then (dQ,12,pos) else rfGo f (rfPop os) q (pos+1))
  else if !fZ c then (dQ,12,pos)
  else if os.length==1&&sxDone os then (dQ,11,pos)
  else if c.toNat==40 then (if 12<os.length then (dQ,14,pos) else rfGo f (os++[.mk 1 [] 0 [] pos]) q (pos+1))
  else if (bJ (c::q)).why==0 then rfGo f (sxPut os ((bJ (c::q)).tree pos)) ((c::q).drop (bJ (c::q)).size) (pos+(bJ (c::q)).size)
  else (dQ,(bJ (c::q)).why,pos+(bJ (c::q)).fault)
def fP(l:By):Res:=if 600<l.length then (dQ,3,0) else rfGo (l.length+1) [dQ] l 0
abbrev RT:TypeId:=109
theorem jU:Enc 5 mc:=⟨ae,λ_=>rfl,λx u hu=>BZ [x] u (by rw[mY];exact hu)⟩
theorem Tryz.rV:(Tryz.prog.info? 109).map (λi=>(i.zero,i.size,i.bytes))=some (some (.agg ↑Zz.a),5,64):=ah
theorem Ow.low{α:Type}{k:Nat}{enc:α->List au}{et:TypeId}{b0 b:Nat}{w:ak}{v:au}{Z:List α}(h:Ow et k enc b w v Z)(hb:b0<=b):Ow et k enc b0 w v Z:=
 ⟨h.1,h.2.imp id λ⟨g,cap,cur,h1,h2,r⟩=>⟨g,cap,cur,h1,aDr hb h2,r⟩⟩
structure rq(w0:ak)(g q cap:Nat)(os:List M)(i:Nat)(w:ak):Prop where
 own:Ow 109 5 mc (w0.heap.size+1) w (.slice ↑g (q+1) cap) os
 len:os.length=q+1
 lies:∀e∈os,Lies (w0.heap.size+1) [g] w e
 ev:Ev w0 w
 box:Bx 109 w0.heap.size ↑Zz.a w
 few:os.length<=i+1
 kids:∀e∈os,e.kids.length<=i
theorem rq.wider{w0 w:ak}{g q cap i i':Nat}{os:List M}(h:rq w0 g q cap os i w)(hi:i<=i'):rq w0 g q cap os i' w:=
 ⟨h.own,h.len,h.lies,h.ev,h.box,by have:=h.few;omega,λe he=>by have:=h.kids e he;omega⟩
theorem rq.evs{w0 w w':ak}{g q cap i:Nat}{os:List M}(h:rq w0 g q cap os i w)(hE:Ev w w'):rq w0 g q cap os i w':=
 ⟨h.own.ev hE,h.len,λe he=>(h.lies e he).ev hE,h.ev.trans hE,h.box.ev hE,h.few,h.kids⟩
theorem rq.at{w0 w:ak}{g q cap i:Nat}{os:List M}(h:rq w0 g q cap os i w):w0.heap.size+1<=g/\g<w.heap.size/\q+1<=cap/\cap<=9223372036854775807/\(∀i,w.frozen? ⟨g,i,none⟩=false)/\
  ∀i x,os[i]?=some x->w.cell? ⟨g,i*5,none⟩=some (.int .i64 x.kind)/\w.cell? ⟨g,i*5+1,none⟩=some (.string ⟨x.s.toArray⟩)/\w.cell? ⟨g,i*5+2,none⟩=some (.int .i64 x.n)/\w.cell? ⟨g,i*5+3,none⟩=some x.kv/\w.cell? ⟨g,i*5+4,none⟩=some (.int .i64 (x.pos:Int)):=by
 obtain⟨A,cap',hv,hS,hA⟩:=h.own.form jU;injection hv with h1 h2 h3
 subst h1 h3;obtain⟨_,h4,h5,_,h6⟩:=hA _ rfl;have hle:=hS.le;rw[h.len]at hle;refine⟨h4,h5,hle,hS.max,h6,λi x hx=>?_⟩;obtain⟨b,off,e,_,hc⟩:=hS.rd (by rw[h.len];omega);injection e with e
 injection e with e1 e2 _
 subst e1 e2;have key:∀j u,(mc x)[j]?=some u->w.cell? ⟨g,i*5+j,none⟩=some u:=λj u hu=>by have:=hc i x hx j u hu;rwa [aDt]at this
 exact⟨key 0 _ rfl,key 1 _ rfl,key 2 _ rfl,key 3 _ rfl,key 4 _ rfl⟩
theorem rq.ajD{w0 w W:ak}{g q cap i i':Nat}{os1 os2:List M}{e m:M}(h:rq w0 g q cap (os1++e::os2) i w)(hE:Ev w W){v:au}(hv:Ow 109 5 mc w.heap.size W v (e.kids++[m]))(hm:Lies (w0.heap.size+1) [g] W m)(hi:i<i'):
  ∃e':M,e'.t=e.t.add m.t/\rq w0 g q cap (os1++e'::os2) i' (W.setCell ⟨g,os1.length*5+3,none⟩ v):=by
 obtain⟨A,cap',rfl,hS,hA⟩:=hv.form jU;obtain⟨e',he'⟩:∃e',e'=M.mk e.kind e.s e.n A cap' (e.kids++[m]) e.pos:=⟨_,rfl⟩
 have hg:=h.at;have qm:e'.kids=e.kids++[m]:=by rw[he'];rfl
 have hB:But [g] W (W.setCell ⟨g,os1.length*5+3,none⟩ (.slice A (e.kids++[m]).length cap')):=But.setCell _ _ aj;refine⟨e',?_,?_,?_,?_,?_,?_,?_,?_⟩;rw[he',M.yE,T.add,M.yE e];simp[M.kind,M.s,M.n,M.kids,M.pos,T.kind,T.s,T.n,T.kids,T.pos];have h1:=(h.own.ev hE).set jU (i:=os1.length) (j:=3) (x:=e) (x':=e') (u:=.slice A (e.kids++[m]).length cap') aj ae (by rw[he'];simp[mc,M.kv,M.kind,M.s,M.n,M.A,M.kids,M.cap,M.pos]);have h2:(os1++e::os2).set os1.length e'=os1++e'::os2:=aj;rwa [h2]at h1;have:=h.len;simp at this|-;omega;intro x hx;have hold:∀y,y∈os1++e::os2->Lies (w0.heap.size+1) [g] (W.setCell ⟨g,os1.length*5+3,none⟩ (.slice A (e.kids++[m]).length cap')) y:=λy hy=>((h.lies y hy).ev hE).move hB λ_ hx=>.inl hx;rcases aDm.1 hx with h1|h1;exact hold x (aDy _ h1);rcases aDg.1 h1 with rfl|h1;subst he';refine .mk (hS.but hB λad e0=>?_) (λad e0=>?_) λy hy=>?_;have:=(hA ad e0).2.1;simp;have:=hg.2.1;omega;obtain⟨_,h3,h4,_⟩:=hA ad e0;have:=hE.size;have:=hg.1;have:=hg.2.1;refine⟨ae,by simpa[World.setCell] using h4,?_⟩;simp;omega;rcases aDm.1 hy with h2|h2;exact(hold e aj).kid y h2;simp at h2;subst h2;exact hm.move hB λ_ hx=>.inl hx;exact hold x (aD7 _ (aDc _ h1));exact(h.ev.trans hE).box hB (by have:=hg.1;omega);exact(h.box.ev hE).but hB (by simp;have:=hg.1;omega);have:=h.few;simp at this|-;omega;intro x hx;rcases aDm.1 hx with h1|h1;have:=h.kids x (aDy _ h1);omega;rcases aDg.1 h1 with rfl|h1;have:=h.kids e aj;rw[qm];simp;omega;have:=h.kids x (aD7 _ (aDc _ h1));omega
theorem rq.pop{w0 w:ak}{g q cap i:Nat}{os:List M}{e:M}(h:rq w0 g (q+1) cap (os++[e]) i w):rq w0 g q cap os i w:=by
 have hl:os.length=q+1:=by have:=h.len;simp at this;omega
 refine⟨?_,hl,λe he=>h.lies e (aDy _ he),h.ev,h.box,by have:=h.few;simp at this;omega,λe he=>h.kids e (aDy _ he)⟩;have:=h.own.to jU rfl (q+1) (by simp;omega);rwa [<-hl,List.take_left' rfl,hl]at this
theorem rq.push{w0 w W:ak}{g q cap i i':Nat}{os:List M}{m:M}(h:rq w0 g q cap os i w)(hE:Ev w W){v:au}(hv:Ow 109 5 mc w.heap.size W v (os++[m]))(hm:∀w K,Lies (w0.heap.size+1) K w m)(hk:m.kids=[])(hi:i<i'):
  ∃g' cap',v=.slice (some ⟨g',0,none⟩) (q+1+1) cap'/\rq w0 g' (q+1) cap' (os++[m]) i' W:=by
 have hl:(os++[m]).length=q+1+1:=by have:=h.len;simp;omega
 obtain⟨A,cap',hvv,hS,hA⟩:=hv.form jU;subst hvv;rw[hl]at hv hS hA|-;obtain⟨b,off,rfl,_,_⟩:=hS.rd ae;obtain⟨_,h3,h4,h5,_⟩:=hA _ rfl;simp at h5;subst h5;have hg:=h.at;simp at h3;have hb0:w0.heap.size+1<=w.heap.size:=by have:=hg.1;have:=hg.2.1;omega
 refine⟨b,cap',rfl,⟨hv.low hb0,hl,?_,h.ev.trans hE,h.box.ev hE,by have:=h.few;simp;omega,?_⟩⟩;intro e he;rcases aDm.1 he with h1|h1;exact(h.lies e h1).move (But.aU (K:=[g]) hE) λx hx=>by simp at hx;subst hx;exact .inr (.inr h3)
 simp at h1;subst h1;exact hm _ _;intro e he;rcases aDm.1 he with h1|h1;have:=h.kids e h1;omega;simp at h1;subst h1;rw[hk];simp
theorem rq.init(w:ak):rq w (w.heap.size+1) 0 1 [ku] 0 ((w.alloc (.cells ↑Zz.a 109)).alloc (.cells ↑Zz.a 109)):=by have hE:=Ev.alloc w (.cells ↑Zz.a 109);refine⟨?_,rfl,λe he=>?_,hE.trans aC,(Bx.new _ _ w).ev aC,aj,λe he=>?_⟩;have:=Ow.made (et:=109) (base:=w.heap.size+1) jU (w.alloc (.cells ↑Zz.a 109)) [ku] ↑Zz.a rfl aj aj;simpa using this;simp at he;subst he;exact Lies.zero _ _ _;simp at he;subst he;simp[ku,M.kids]
theorem XJ(os:List T)(e t:T):rfPop (os++[e]++[t])=os++[e.add t]:=by unfold rfPop;rw[List.getLast?_append];simp only[List.getLast?_singleton,Option.some_or,List.dropLast_concat];exact mX _ _ _
theorem XK{os:List M}{e:M}:sxDone ((e::os).map M.t)=decide (0<e.kids.length):=by simp only[sxDone,aDe,M.dO];cases e.kids<;>simp
def kE(et:TypeId)(b:Nat)(v:au)(w:ak):Prop:=∃g,v=.slice (some ⟨g,0,none⟩) 0 0/\w.heap[g]?=some (.cells #[] et (0,0))/\b<=g
theorem kE.mono{et:TypeId}{b:Nat}:kK (kE et b):=λv w w' hE ⟨g,h1,h2,h3⟩=>⟨g,h1,by rw[hE.block g (aDa.1 h2).1];exact h2,h3⟩
theorem kE.new{et:TypeId}{b:Nat}{w:ak}(h:b<=w.heap.size):kE et b (.slice ↑w 0 0) (w.alloc (.cells #[] et)):=⟨_,rfl,aFd w _,h⟩
theorem kE.ow{α:Type}{k:Nat}{enc:α->List au}{et:TypeId}{b:Nat}{v:au}{w:ak}(h:kE et b v w):Ow et k enc b w v ([]:List α):=by obtain⟨g,rfl,hg,hb⟩:=h;exact⟨by simp[cl],.inr ⟨g,0,#[],rfl,hb,hg,aC8 _,ai,aj,by simp[cl]⟩⟩
theorem sQ{α:Type}{k:Nat}{enc:α->List au}{et:TypeId}{b:Nat}{v:au}{w:ak}{P:Program}(E:Enc k enc)(T ty:TypeId)(ht:P.underlying T=some (.slice et)){zero:au}{bytes:Nat}(hi:(P.info? et).map (λi=>(i.zero,i.size,i.bytes))=some (some zero,k,bytes))(hz:zero.cells.size=k)
  (hv:kE et b v w) (A:Option Addr) (m c:Nat) (l:List α) (hB:Sl k enc w A m c l) (hbytes:l.length*bytes<=140737488355328) (hsm:l.length<=1000000000) (hbase:b<=w.heap.size):
  ∃v' w',(Builtin.append_ #[T,T] ty #[v,.slice A m c]).run P w=.ok v' w'/\Ow et k enc b w' v' l/\Ev w w':=by
 obtain⟨v',w',hr,h1,h2,h3,h4⟩:=ja (P:=P) E T ty ht hi hz (hv.ow (k:=k) (enc:=enc)) A m c l hB (by simpa using hbytes) (by simpa using hsm) hbase;rw[aDW]at h1;refine⟨v',w',hr,h1,?_⟩;obtain⟨g,rfl,hg,hbg⟩:=hv;refine⟨h2.os,h2.tape,h2.output,h2.size,λj hj=>?_⟩;by_cases hjg:j=g;subst hjg;obtain⟨i,uj,hz',hsz,hby⟩:=aE' hi;have hl:=hB.len
 cases A with
 | none=>
  obtain⟨rfl,rfl⟩:=hB.nil rfl;have hr2:=run_append_owned_none (P:=P) (w:=w) b T ty et i k ht uj _ _ _ (kE.ow (k:=k) (enc:=enc) ⟨j,rfl,hg,hbg⟩);rw[hr]at hr2;simp only[Result.ok.injEq]at hr2;rw[hr2.2]
 | some ad=>
  by_cases hm:m=0;subst hm;have hr2:=run_append_room (P:=P) w T ty et i ht uj j 0 0 #[] hg ad 0 c [] aj aj aj ae aj;rw[hr]at hr2;simp only[Result.ok.injEq]at hr2;rw[hr2.2,setRow_heap w j #[] _ et (0,0) hg,hg];simp;have hcells:∀j u,(cl enc l)[j]?=some u->w.cell? (ad.add j)=some u:=by intro q u hu;obtain⟨i',j',x,rfl,hx,hxu⟩:=Jm E l q u hu;have hq:=(aC6.1 hx).1;obtain⟨b',off,e,_,hc⟩:=hB.rd ae;exact aHZ
  have hr2:=run_append_grow (P:=P) w T ty et i zero ht uj hz' ⟨j,0,none⟩ 0 0 [] aj aj ad m c (cl enc l) (by rw[nz E,hl,hsz]) hcells ae ae (growslice_fits ae (by rw[hby];rw[hl]at hbytes;simpa using hbytes));rw[hr]at hr2;simp only[Result.ok.injEq]at hr2;rw[hr2.2];exact((Ev.drew w).trans (Ev.alloc w.drew _)).block j hj
 exact h2.block j hj (λhm=>hjg (by have:=aG.1 hm;simp[Value.ownBlock]at this;exact this.symm))
theorem uJ{α:Type}{k:Nat}{enc:α->List au}{et:TypeId}{base:Nat}{v:au}{P:Program}{w:ak}{ops:Array Oper}{rest:List Oper}{o:Oper}{a:Act}{Q:Exit->Act->ak->Prop}(hgd:o.guard=none)(T:TypeId)(s x:Operand)
  (ho:o.op=.call {callee:=.builtin .append,args:=#[s,x],argTypes:=#[T,T]}) (E:Enc k enc)
  (ht:P.underlying T=some (.slice et)) {zero:au} {bytes:Nat} (hi:(P.info? et).map (λi=>(i.zero,i.size,i.bytes))=some (some zero,k,bytes)) (hz:zero.cells.size=k)
  (hs:a.eval s=v) (hown:kE et base v w) (A:Option Addr) (m c:Nat) (l:List α) (hx:a.eval x=.slice A m c) (hB:Sl k enc w A m c l)
  (hbytes:l.length*bytes<=140737488355328) (hsm:l.length<=1000000000) (hbase:base<=w.heap.size)
  (h:∀v' w',Ow et k enc base w' v' l->Ev w w'->wpList P ops Q rest (a.put o.dst v') w'):wpList P ops Q (o::rest) a w:=by
 refine wpList_plain hgd λK hK=>?_;obtain⟨v',w',hr,h2,h3⟩:=sQ (P:=P) E T o.type ht hi hz hown A m c l hB hbytes hsm hbase;unfold Oper.wp execOp;simp only[ho,resolve,invoke,builtin,aFa,aFb,aFc,aD1,aDe,aDu,hs,hx,hr];exact hK _ _ (h v' w' h2 h3)
theorem y9{ρ:Operand->au}{o:Oper}(ho:o.op=.buildSlice 107 0 #[])(w:ak):(execOp ρ o).run ax w=.ok (.value (.slice ↑w 0 0)) (w.alloc (.cells #[] 109)):=by unfold execOp;rw[ho];simp[go_sem]
theorem BG{ρ:Operand->au}{o:Oper}{x:Operand}(m:M)(ho:o.op=.buildSlice 107 1 #[(0,x)])(h:ρ x=mv m)(w:ak):
  (execOp ρ o).run ax w=.ok (.value (.slice ↑w 1 1)) (w.alloc (.cells (mc m).toArray 109)):=by
 unfold mv M.kv at h;unfold mc M.kv;unfold execOp;rw[ho];simp[h,go_sem]
theorem lQ{ρ:Operand->au}{o:Oper}{x y:Operand}{g n cap:Nat}(k:Nat)(ho:o.op=.indexAddr 107 x y)(hx:ρ x=.slice ↑g n cap)(hy:ρ y=↑k)(hk:k<n)(w:ak):
  (execOp ρ o).run ax w=.ok (.value (.pointer ↑(g,k*5))) w:=by
 have h1:(k:Int)<(n:Int):=ae;have h2:(0:Int)<=(k:Int):=ae;unfold execOp;rw[ho];simp[hx,hy,go_sem,h1,h2]
theorem oz{ρ:Operand->au}{o:Oper}{x:Operand}{g i:Nat}(ho:o.op=.fieldAddr 109 x 3)(hx:ρ x=.pointer ↑(g,i))(w:ak):
  (execOp ρ o).run ax w=.ok (.value (.pointer ↑(g,i+3))) w:=by
 unfold execOp;rw[ho];simp[hx,go_sem]
theorem BH{ρ:Operand->au}{o:Oper}{x:Operand}{a:Addr}{v:au}{w:ak}(ho:o.op=.load 107 x)(hx:ρ x=.pointer (some a))(c0:w.cell? a=some v):
  (execOp ρ o).run ax w=.ok (.value v) w:=by
 unfold execOp;rw[ho];simp[hx,go_sem,c0]
theorem BI{ρ:Operand->au}{o:Oper}{x:Operand}{b off:Nat}{w:ak}(m:M)(ho:o.op=.load 109 x)(hx:ρ x=.pointer ↑(b,off))(hc:∀j u,(mc m)[j]?=some u->w.cell? ⟨b,off+j,none⟩=some u):
  (execOp ρ o).run ax w=.ok (.value (mv m)) w:=by
 have c0:w.cell? ⟨b,off,none⟩=some ↑m.kind:=hc 0 _ rfl;have c1:w.cell? ⟨b,off+1,none⟩=some ↑m.s:=hc 1 _ rfl;have c2:w.cell? ⟨b,off+2,none⟩=some ↑m.n:=hc 2 _ rfl;have c3:w.cell? ⟨b,off+3,none⟩=some m.kv:=hc 3 _ rfl;have c4:w.cell? ⟨b,off+4,none⟩=some ↑m.pos:=hc 4 _ rfl;unfold mv execOp;rw[ho];simp[hx,go_sem,c0,c1,c2,c3,c4]
theorem qf{P:Program}{a:Act}{o:Oper}{x y:Operand}{T:TypeId}{u v':au}{w w':ak}(ho:o.op=.call {callee:=.builtin .append,args:=#[x,y],argTypes:=#[T,T]})(hy:a.eval y=u)
  (hr:(Builtin.append_ #[T,T] o.type #[a.eval x,u]).run P w=.ok v' w'):(execOp a.eval o).run P w=.ok (.value v') w':=by
 unfold execOp;simp only[ho,resolve,invoke,builtin,aFa,aFb,aFc,aD1,aDe,aDu,hy,hr]
end Go.Proofs.YtbgmhhfjkkfhpaaGreatDoor
