import Derived.Test.YtpbfokkocaemlaaGreatDoorZ13P
set_option linter.unusedVariables false
set_option maxRecDepth 100000
set_option maxHeartbeats 64000000
namespace Go.Proofs.YtpbfokkocaemlaaGreatDoor
open Go.RowKit
open Go.Lib renaming hid → zq
open Go renaming World → ak
open Go renaming Value → au
open Go.Proofs.Tryz renaming prog → ax
variable {U:Prop}
open Go.Proofs.Tryz
theorem Ir{P:Program}{w:ak}{ops:Array Oper}{rest:List Oper}{o:Oper}{a:Act}{Q:Exit->Act->ak->Prop}(hgd:o.guard=none)(s x:Operand)
  (hop:o.op=.call {callee:=.builtin .append,args:=#[s,x],argTypes:=#[99,99]})
  (ht:P.underlying 99=some (.slice 101)) (hi:(P.info? 101).map (λi=>(i.zero,i.size,i.bytes))=some (some (.agg ↑Zz.a),5,64))
  (base:Nat) (v:au) (n:Nat) (xs:List au) (hs:a.eval s=v) (hown:w.ownsRow base 101 5 v n xs) (b c:Nat) (hx:a.eval x=.slice ↑b 1 c) (m:M)
  (hm:∀j u,(mc m)[j]?=some u->w.cell? ⟨b,j,none⟩=some u) (hn:n<=1000000) (hbase:base<=w.heap.size)
  (h:∀v' w',w'.ownsRow base 101 5 v' (n+1) (xs++mc m)->w.grownBy w' v.ownBlock->(v'.ownBlock=v.ownBlock∨v'.ownBlock=some w.heap.size)->wpList P ops Q rest (a.put o.dst v') w'):wpList P ops Q (o::rest) a w:=by
 refine wpList_plain hgd λK hK=>?_;obtain⟨i,D5,hz,hsz,hby⟩:=info_parts hi;obtain⟨v',w',hr,h1,h2,_,h4⟩:=run_append_own_at (P:=P) w base 99 o.type 101 i _ 5 64 ht D5 hz hsz hby rfl ai v n xs hown ⟨b,0,none⟩ 1 c (mc m) rfl (λj u hu=>by rw[Addr.add_lit,aw3];exact hm j u hu)
  (λu hu=>CX [m] u (by rw[pI];exact hu)) (by unfold maxLen;omega) ae hbase
 unfold Oper.wp execOp;simp only[hop,resolve,invoke,builtin,ayn,ayo,ayp,axF,awI,awY,hs,hx,hr];exact hK _ _ (h v' w' h1 h2 h4)
def oN(k:Int)(s:By)(n:Int)(p:Nat):M:=.mk k s n none 0 [] p
theorem Lies.tok(b0:Nat)(K:List Nat)(w:ak)(k:Int)(s:By)(n:Int)(p:Nat):Lies b0 K w (oN k s n p):=.mk (Sl.nil_ w) (λ_ h=>by cases h) (λ_ h=>by cases h)
theorem Opn.pop{base:Nat}{w:ak}{vb q iZ:Nat}{os:List M}{e:M}(h:Opn base w (.slice ↑vb (q+1) iZ) (os++[e]))(hq:os.length=q):
  Opn base w (.slice ↑vb q iZ) os/\Lies base (blk (.slice ↑vb q iZ) os) w e/\(∀x∈blk (.slice ↑vb q iZ) os,x∈blk (.slice ↑vb (q+1) iZ) (os++[e])):=by
 subst hq;have hnd:=h.nd;rw[sQ]at hnd;have Jz:=ax4.1 hnd;have RF:blk (.slice ↑vb os.length iZ) os=blk (.slice ↑vb (os.length+1) iZ) os:=rfl;have hsub:∀x∈blk (.slice ↑vb os.length iZ) os,x∈blk (.slice ↑vb (os.length+1) iZ) (os++[e]):=λx hx=>by rw[sQ];exact awZ _ hx
 have hlies:∀m,Lies base (blk (.slice ↑vb (os.length+1) iZ) (os++[e])) w m->Lies base (blk (.slice ↑vb os.length iZ) os) w m:=λm hm=>hm.less λx hx=>.inl (hsub x hx);refine⟨⟨?_,λe0 he0=>h.kid e0 (awZ _ he0),by rw[RF];exact Jz.1,λe0 he0 m hm=>hlies m (h.lies e0 (awZ _ he0) m hm)⟩,?_,hsub⟩;rcases h.own.2 with⟨hv,_⟩|⟨g',cap',cur,hv,hb,hh,yK,hcm,hcs,ht⟩
 cases hv
 injection hv with h1 h2 h3
 injection h1 with h1
 injection h1 with h1 _ _
 subst h1 h3;have hlen:(os++[e]).length=os.length+1:=aj;rw[hlen,qf]at ht;rw[hlen]at yK;refine⟨by rw[lK],.inr ⟨vb,iZ,cur,rfl,hb,hh,ae,hcm,hcs,?_⟩⟩;have:=axc (List.take (os.length*5)) ht;rw[List.take_take,Nat.min_eq_left ae,List.take_left' (lK os)]at this;exact this;have hk:=h.kid e aj;obtain⟨k,s,n,A,c,l,p⟩:=e;refine .mk (FY hk) (λad hA=>?_) λm hm=>hlies m (h.lies (.mk k s n A c l p) aj m hm);subst hA;have hown:(M.kv (.mk k s n (some ad) c l p)).ownBlock=some ad.block:=rfl;refine⟨(hk.lt _ hown).1,(hk.lt _ hown).2,λhm=>?_⟩;rw[RF]at hm;exact Jz.2.2 _ hm _ (aG.2 hown) rfl
theorem Bc{α:Type}(l:List α)(h:l≠[]):∃l' a,l=l'++[a]:=⟨l.dropLast,l.getLast h,(List.dropLast_concat_getLast h).symm⟩
theorem Sr{v v1:au}(h:v1.ownBlock=v.ownBlock):foot v1=foot v:=by unfold foot;rw[h]
theorem Opn.push{base:Nat}{w w2:ak}{v v1:au}{os:List M}{q:Nat}{k:Int}{s:By}{n:Int}{p:Nat}(h:Opn base w v os)(hq:q=os.length)(h1:w2.ownsRow base 101 5 v1 (q+1) (lg os++mc (oN k s n p)))(B:But (foot v) w w2)
  (h3:v1.ownBlock=v.ownBlock∨∃g,v1.ownBlock=some g/\w.heap.size<=g):Opn base w2 v1 (os++[oN k s n p])/\(∀x∈blk v1 (os++[oN k s n p]),x∈blk v os∨w.heap.size<=x):=by
 subst hq;have Jz:=ax4.1 (show (foot v++os.flatMap λe=>foot e.kv).Nodup from h.nd);have RF:blk v1 (os++[oN k s n p])=foot v1++os.flatMap λe=>foot e.kv:=by rw[sQ,show foot (oN k s n p).kv=[] from rfl,ax2];rfl
 have hsub:∀x∈blk v1 (os++[oN k s n p]),x∈blk v os∨w.heap.size<=x:=λx hx=>by
  rw[RF]at hx;rcases awV.1 hx with h4|h4;rcases h3 with h5|⟨g,h5,h6⟩
  rw[Sr h5]at h4;exact .inl (awZ _ h4);have:=aG.1 h4;rw[h5]at this;simp at this;exact .inr ae;exact .inl (axo _ h4)
 refine⟨⟨by rw[qf,pI,show (os++[oN k s n p]).length=os.length+1 by simp];exact h1,λe he=>?_,?_,λe he m hm=>?_⟩,hsub⟩;rcases awV.1 he with h4|h4;exact XE (h.kid e h4) B λg hg hm=>Jz.2.2 _ hm _ (axV.2 ⟨e,h4,aG.2 hg⟩) rfl;simp at h4;subst h4;exact World.ownsRow_nil _ _ _ _
 ·rw[RF,ax4];refine⟨?_,Jz.2.1,λa ha b hb=>?_⟩
  ·unfold foot
   cases v1.ownBlock<;>simp
  rcases h3 with h5|⟨g,h5,h6⟩
  rw[Sr h5]at ha;exact Jz.2.2 a ha b hb;have h7:=aG.1 ha;rw[h5]at h7;simp at h7;have h8:=(h.range (g:=b) (axo _ hb)).2;omega
 rcases awV.1 he with h4|h4;exact(h.lies e h4 m hm).move (B.wide λx hx=>.inl (awZ _ hx)) (λx hx=>(hsub x hx).imp id .inr);simp at h4;subst h4
 cases hm
def aer(base:Nat)(v:au)(os:List M)(t:T)(w:ak)(r:Ending)(w':ak):Prop:=
 ∃v' os',r=.returned v'/\Opn base w' v' os'/\os'.map M.t=sxTake (os.map M.t) t/\os'≠[]/\But (blk v os) w w'/\(∀x∈blk v' os',x∈blk v os∨w.heap.size<=x)
theorem aes{base:Nat}{v:au}{os:List M}(w:ak)(h:Opn base w v os)(h0:os≠[])(k:Int)(s:By)(n:Int)(p:Nat)(hk:k=-1->2<=os.length)(hl:os.length<=1000000)(qg:∀e∈os,e.kids.length<=1000000):
  Calls ax 110 #[v,mv (oN k s n p)] w (aer base v os (oN k s n p).t w):=by
 obtain⟨vb,iZ,rfl,hle,hmx,hvb,hlt,_,_⟩:=h.at h0;obtain⟨w0,hw0⟩:∃w0,w0=w.alloc (.cells (mc (oN k s n p)).toArray 101):=⟨_,rfl⟩
 have aV:Ev w w0:=hw0▸Ev.alloc w _;have hb:w0.heap[w.heap.size]?=some (.cells (mc (oN k s n p)).toArray 101 (0,0)):=by rw[hw0];exact ayq _ _
 have h':=h.ev aV;have hck:∀j u,(mc (oN k s n p))[j]?=some u->w0.cell? ⟨w.heap.size,j,none⟩=some u:=λj u hu=>by rw[ays hb];simpa using hu
 have b0:w0.cell? ⟨↑w,0,none⟩=some ↑k:=hck 0 _ rfl;have b1:w0.cell? ⟨w.heap.size,1,none⟩=some ↑s:=hck 1 _ rfl;have b2:w0.cell? ⟨w.heap.size,2,none⟩=some ↑n:=hck 2 _ rfl;have b3:w0.cell? ⟨w.heap.size,3,none⟩=some ↑():=hck 3 _ rfl;have b4:w0.cell? ⟨w.heap.size,4,none⟩=some ↑p:=hck 4 _ rfl;have YI:w.alloc (.cells #[↑k,↑s,↑n,↑(),↑p] 101)=w0:=hw0.symm;have hmv:mv (oN k s n p)=.agg #[↑k,↑s,↑n,↑(),↑p]:=rfl;have hlw:w.heap.size<w0.heap.size:=by rw[hw0];simp
 have hT:(oN k s n p).t.kind=k:=by rw[M.xI];rfl
 clear hb hck hw0;rw[hmv];by_cases k1:k=1
 ·subst k1;have hTk:sxTake (os.map M.t) (oN 1 s n p).t=os.map M.t++[(oN 1 s n p).t]:=by unfold sxTake;rw[hT];rfl
  obtain⟨q,hq⟩:∃q,q=os.length:=⟨_,rfl⟩
  rw[<-hq]at h h' hle hl|-;have HH:=zq h';have HQ:=zq hq;have HTk:=zq hTk;have aN:Ev w0 (w0.alloc (.cells #[.int .i64 1,↑s,↑n,↑(),↑p] 101)):=Ev.alloc _ _;have HZ:Hid (∀j u,(mc (oN 1 s n p))[j]?=some u->(w0.alloc (.cells #[.int .i64 1,↑s,↑n,↑(),↑p] 101)).cell? ⟨w0.heap.size,j,none⟩=some u):=zq λj u hu=>by rw[ays (ayq w0 _)];simpa[mc,oN,M.kind,M.s,M.n,M.kv,M.A,M.kids,M.cap,M.pos] using hu
  have Om:base<=w0.heap.size:=by have:=h'.range (g:=vb) (yO.2 (.inl rfl));omega
  clear hq hTk hT h';go_enter func110,ntmps110
  go_wp2_with (first
   | ((show wpList _ _ _ (⟨some 19,_,_,_,_,_⟩::_) _ _);refine Ir (o:=⟨some 19,_,_,_,_,_⟩) rfl (.tmp 16) (.tmp 18) rfl underlying99 Tryz.infoTree base (.slice ↑vb q iZ) q (lg os) rfl (by have:=(HH.out.ev aN).own;rwa [<-HQ.out]at this) w0.heap.size 1 rfl (oN 1 s n p) HZ.out hl (aw0 Om aN.size) ?_;intro v1 w1 h1 h2 h3;obtain⟨A1,n1,cap1,rfl⟩:∃A1 n1 cap1,v1=.slice A1 n1 cap1:=(by rcases h1.2 with⟨rfl,_⟩|⟨g,cap,cur,rfl,_⟩<;>exact⟨_,_,_,rfl⟩)))
  go_ret;have hB:But (foot (.slice ↑vb q iZ)) w w1:=((But.aW aV).then (But.aW aN)).then (But.grown h2 λg hg=>aG.2 hg);have hP:=Opn.push (k:=1) (s:=s) (n:=n) (p:=p) h HQ.out h1 hB (by
   rcases h3 with h4|h4;exact .inl h4;exact .inr ⟨_,h4,aw0 aV.size aN.size⟩)
  exact⟨_,_,rfl,hP.1,by rw[HTk.out];simp,aj,hB.wide λx hx=>.inl (awZ _ hx),hP.2⟩
 have k1':(k==1)=false:=awy.2 k1;by_cases k2:k=-1
 ·subst k2;obtain⟨os0,e,rfl⟩:=Bc os h0;have h00:os0≠[]:=by intro h5;subst h5;have:=hk rfl;simp at this
  obtain⟨os1,e1,rfl⟩:=Bc os0 h00;have hTk:sxTake ((os1++[e1]++[e]).map M.t) (oN (-1) s n p).t=os1.map M.t++[e1.t.add e.t]:=by unfold sxTake;rw[hT];simp only[awM,awI,awY,List.getLast?_append,List.getLast?_singleton,List.dropLast_concat];exact pF _ _ _
  have HTk:=zq hTk;obtain⟨q,hq⟩:∃q,(os1++[e1]).length=q:=⟨_,rfl⟩
  have sO:1<=q:=by rw[<-hq];simp
  have hlen:(os1++[e1]++[e]).length=q+1:=by rw[awE,hq];rfl
  rw[hlen]at h h' hle hl|-;obtain⟨hp1,hp2,hp3⟩:=h'.pop hq;obtain⟨_,_,hvv,_,_,_,_,hfr,hc⟩:=h'.at aj;injection hvv with Jy hv2 hv3
  injection Jy with Jy
  injection Jy with Jy _ _
  subst Jy hv3;clear hv2;obtain⟨c0,c1,c2,c3,c4⟩:=hc q e (by rw[<-hq];simp);have HP:=λw1 (hE:Ev w0 w1)=>aa9 w1 (hp1.ev hE) (hp2.ev hE) (qg e1 aj);unfold mv at HP;have HP:=zq HP;have asE:vb<w0.heap.size:=awU hlt aV.size;have i1:(0:Int)<=(q:Int):=ae;have i2:(q:Int)<(q:Int)+1:=ae;have i3:(q:Int)<=(iZ:Int):=ae;have i4:q<=iZ:=ae;have i5:¬(iZ<q):=ae;have HS3:=zq hp3;have hBk:Hid (∀w3,But (blk (.slice ↑vb q iZ) (os1++[e1])) w0.drew w3->But (blk (.slice ↑vb (q+1) iZ) (os1++[e1]++[e])) w w3):=zq λw3 hb'=>(But.aW (aV.trans (Ev.drew w0))).then (hb'.wide λx hx=>.inl (hp3 x hx));clear hTk hT h' hp1 hp2 hc hfr hq qg hk hlen hp3;go_enter func110,ntmps110
  go_wp2_with fail
  go_region_with (first|((with_reducible refine(HP.out _ (Ev.drew _)).mono ?_);rintro r w3 ⟨rfl,e',he',RX,hb',hs'⟩))
  all_goals (go_wp2;go_ret;exact⟨_,_,rfl,RX,by rw[HTk.out];simp[he'],aj,hBk.out _ hb',λx hx=>(hs' x hx).imp (HS3.out x) (λh5=>aw0 aV.size h5)⟩)
 have k2':(k==-1)=false:=awy.2 k2;obtain⟨os1,e1,rfl⟩:=Bc os h0;have hTk:sxTake ((os1++[e1]).map M.t) (oN k s n p).t=os1.map M.t++[e1.t.add (oN k s n p).t]:=by unfold sxTake;rw[hT];simp only[k1',k2',awM,awI,awY,awP,aw7];exact pF _ _ _
 have HTk:=zq hTk;have HP:=λw1 (hE:Ev w0 w1)=>aa9 w1 (h'.ev hE) (Lies.tok _ _ w1 k s n p) (qg e1 aj);rw[hmv]at HP;have HP:=zq HP;obtain⟨q,hq⟩:∃q,(os1++[e1]).length=q:=⟨_,rfl⟩
 rw[hq]at hle HP h|-;have sO:1<=q:=by rw[<-hq];simp
 clear hTk hT h' hq qg hk;go_enter func110,ntmps110
 go_wp2_with (first|((with_reducible refine(HP.out _ aK).mono ?_);rintro r w3 ⟨rfl,e',he',RX,hb',hs'⟩))
 go_ret;exact⟨_,_,rfl,RX,by rw[HTk.out];simp[he'],aj,(But.aW aV).then hb',λx hx=>(hs' x hx).imp id (λh5=>aw0 aV.size h5)⟩
theorem aAC(h:U:=by refine⟨λhw=>⟨(h1 hw).1,by have:=(h1 hw).2;simp only[awR];omega⟩,λhw=>⟨(h2 hw).1,by have:=(h2 hw).2;omega,by have:=(h2 hw).2;simp only[awR];omega⟩⟩):U:=h
theorem lL:∀(N:Nat) (r b:By) (i:Nat),r.length<=N->((sxTextGo b r i).why≠0->(sxTextGo b r i).kind=0/\((sxTextGo b r i).fault<=i+r.length))/\((sxTextGo b r i).why=0->(sxTextGo b r i).kind=4/\i+1<=(sxTextGo b r i).size/\(sxTextGo b r i).size<=i+r.length)
 | 0,[],b,i,_=>by simp[sxTextGo,bf]
 | N+1,[],b,i,_=>by simp[sxTextGo,bf]
 | 0,c::q,b,i,h=>by simp at h
 | N+1,c::q,b,i,h=>by
  have hq:q.length<=N:=by simpa using h
  unfold sxTextGo;by_cases hp:dD c=true;rw[if_pos hp];obtain⟨h1,h2⟩:=lL N q (b++[c]) (i+1) hq;exact aAC;rw[if_neg hp];by_cases U2:(c.toNat==92)=true;rw[if_pos U2]
  cases q with
  | nil=>simp[bf]
  | cons x q1=>
   simp only[]
   cases hx:iG x with
   | none=>
    simp[bf]
   | some a=>
    cases q1 with
    | nil=>simp[bf]
    | cons y q2=>
     simp only[]
     cases hy:iG y with
     | none=>
      simp[bf]
     | some k=>
      simp only[];obtain⟨h1,h2⟩:=lL N q2 (b++[UInt8.ofNat (16*a+k)]) (i+3) (by simp at hq;omega);exact aAC
  rw[if_neg U2];by_cases Jw:(c.toNat==34)=true;rw[if_pos Jw];by_cases Iq:40<b.length;rw[if_pos Iq];simp[bf];rw[if_neg Iq];simp;rw[if_neg Jw];simp[bf]
theorem lF(plus:Bool)(d:By)(hd:∀c∈d,bg c=true):((sxNum plus d).why≠0->(sxNum plus d).kind=0/\(sxNum plus d).fault=0)/\
  ((sxNum plus d).why=0->(sxNum plus d).kind=3/\1<=d.length/\(sxNum plus d).size=(if plus then d.length else 1+d.length)/\(if plus then 0<=(sxNum plus d).n else (sxNum plus d).n<=0)):=by
 unfold sxNum
 cases hb:sxBelow d 0 with
 | none=>simp[bf]
 | some n=>
  have hr:=sD d hd 0 n ae ae hb;simp only[];by_cases h1:(d.isEmpty||plus&&decide (n=-9223372036854775808))=true;rw[if_pos h1];simp[bf];rw[if_neg h1];have hne:d.isEmpty=false:=by
   cases hd':d.isEmpty
   rfl;rw[hd']at h1;simp at h1
  have hlen:1<=d.length:=by
   cases d with
   | nil=>simp at hne
   | cons c q=>simp
  cases plus
  simp[hlen];omega;simp[hlen];omega
structure Vz(c:UInt8)(r:By)(x:Tk):Prop where
 bad:x.why≠0->x.kind=0/\x.fault<=r.length
 good:x.why=0->1<=x.size/\x.size<=r.length/\
  ((x.kind=1/\c.toNat=40)∨x.kind=-1∨(x.kind=2/\97<=c.toNat/\c.toNat<=122/\∃q,x.s=c::q)∨(x.kind=3/\(c.toNat=45/\x.n<=0∨48<=c.toNat/\c.toNat<=57/\0<=x.n))∨(x.kind=4/\c.toNat=34))
theorem xW(c:UInt8)(q:By):Vz c (c::q) (bW (c::q)):=by
 simp only[bW];by_cases Iq:(c.toNat==40)=true;rw[if_pos Iq];have anD:c.toNat=40:=by simpa using Iq
 exact⟨λh=>absurd rfl h,λ_=>⟨awC _,aj,.inl ⟨rfl,anD⟩⟩⟩;rw[if_neg Iq];by_cases h41:(c.toNat==41)=true;rw[if_pos h41];exact⟨λh=>absurd rfl h,λ_=>⟨awC _,aj,.inr (.inl rfl)⟩⟩;rw[if_neg h41];by_cases Jw:(c.toNat==34)=true;rw[if_pos Jw];have anE:c.toNat=34:=by simpa using Jw
 obtain⟨h1,h2⟩:=lL q.length q [] 1 (awC _);exact⟨λh=>⟨(h1 h).1,by have:=(h1 h).2;simp;omega⟩,λh=>⟨by have:=(h2 h).2;omega,by have:=(h2 h).2;simp;omega,.inr (.inr (.inr (.inr ⟨(h2 h).1,anE⟩)))⟩⟩;rw[if_neg Jw];by_cases hn:(c.toNat==45||bg c)=true;rw[if_pos hn];simp only[dW];by_cases h45:(c.toNat==45)=true;rw[if_pos h45];have anF:c.toNat=45:=by simpa using h45
 obtain⟨h1,h2⟩:=lF false (dR q) (fJ q);have hl:=uu q;have hr:=jW bg q;refine⟨λh=>⟨(h1 h).1,by rw[(h1 h).2];exact awJ _⟩,λh=>?_⟩;obtain⟨g1,g2,g3,g4⟩:=h2 h;simp at g3 g4;refine⟨ae,by simp;omega,.inr (.inr (.inr (.inl ⟨g1,.inl ⟨anF,g4⟩⟩)))⟩;rw[if_neg h45];have Nb:bg c=true:=by simpa[h45] using hn
 have ajH:48<=c.toNat/\c.toNat<=57:=by simpa[bg] using Nb
 obtain⟨h1,h2⟩:=lF true (dR (c::q)) (fJ (c::q));have hl:=uu (c::q);have hr:=jW bg (c::q);refine⟨λh=>⟨(h1 h).1,by rw[(h1 h).2];exact awJ _⟩,λh=>?_⟩;obtain⟨g1,g2,g3,g4⟩:=h2 h;simp at g3 g4;refine⟨ae,ae,.inr (.inr (.inr (.inl ⟨g1,.inr ⟨ajH.1,ajH.2,g4⟩⟩)))⟩;rw[if_neg hn];by_cases hl:bG c=true;rw[if_pos hl];have hr:=jW bG (c::q);have hr1:sxRun bG (c::q)=sxRun bG q+1:=by simp[sxRun,hl]
 have hl':97<=c.toNat/\c.toNat<=122:=by simpa[bG] using hl
 refine⟨λh=>absurd rfl h,λ_=>⟨by simp only[];omega,hr,.inr (.inr (.inl ⟨rfl,hl'.1,hl'.2,q.take (sxRun bG q),?_⟩))⟩⟩;simp only[];rw[hr1,axz];rw[if_neg hl];exact⟨λ_=>⟨rfl,awJ _⟩,λh=>by simp[bf]at h⟩
theorem JB{os:List T}{c:UInt8}{r:By}{x:Tk}(h:Vz c r x)(hj:(iU os x).1=0):x.why=0/\(x.kind=-1->os.length≠1)/\(x.kind≠-1->sxDone os=false)/\(x.kind=1->os.length<=12):=by
 unfold iU at hj;by_cases h1:(!(x.why==0)&&!(sxDone os&&decide (0<x.fault)))=true;rw[if_pos h1]at hj;simp only at hj;rw[hj]at h1;simp at h1;rw[if_neg h1]at hj;by_cases h2:(x.kind==-1&&os.length==1)=true;rw[if_pos h2]at hj;cases hj;rw[if_neg h2]at hj;by_cases h3:(!(x.kind==-1)&&sxDone os)=true;rw[if_pos h3]at hj;cases hj;rw[if_neg h3]at hj;by_cases h4:(x.kind==1&&decide (12<os.length))=true;rw[if_pos h4]at hj;cases hj;have hw:x.why=0:=by
  apply Classical.byContradiction;intro hw;have hk:=(h.bad hw).1;rw[hk]at h3;have hw':(x.why==0)=false:=awy.2 hw;rw[hw']at h1
  cases hD:sxDone os
  rw[hD]at h1;simp at h1;rw[hD]at h3;simp at h3
 refine⟨hw,λhk hl=>h2 (by rw[hk,hl];rfl),λhk=>?_,λhk=>?_⟩
 cases hD:sxDone os
 rfl;exact absurd (by rw[hD,awy.2 hk];rfl) h3;apply Classical.byContradiction;intro hl;exact h4 (by rw[hk,aw5 ae];rfl)
theorem Nh{os:List T}{c:UInt8}{r:By}{x:Tk}(h:Vz c r x)(hj:(iU os x).1≠0):(iU os x).2<=r.length:=by unfold iU at hj|-;by_cases h1:(!(x.why==0)&&!(sxDone os&&decide (0<x.fault)))=true;rw[if_pos h1]at hj|-;exact(h.bad hj).2;rw[if_neg h1];split;exact awJ _;split;exact awJ _;split<;>exact awJ _
theorem uJ:∀(os:List T) (t:T),(sxPut os t).length=os.length
 | [],t=>rfl
 | [e],t=>rfl
 | e::e'::os,t=>by have:=uJ (e'::os) t;unfold sxPut;simp only[awR]at this|-;omega
theorem T.Su(e t:T):(e.add t).kids=e.kids++[t]:=rfl
theorem CY:∀(os:List T) (t:T) (i:Nat),(∀e∈os,e.kids.length<=i)->∀e∈sxPut os t,e.kids.length<=i+1
 | [],t,i,h=>λe he=>by cases he
 | [a],t,i,h=>λe he=>by simp[sxPut]at he;subst he;rw[T.Su];have:=h a aj;simp;omega
 | a::b::os,t,i,h=>λe he=>by unfold sxPut at he;rcases awN.1 he with rfl|he;have:=h e aj;omega;exact CY (b::os) t i (λx hx=>h x (awK _ hx)) e he
theorem VA(os:List T)(t:T):(sxTake os t).length<=os.length+1:=by
 unfold sxTake;split;simp;split;cases h:os.getLast? with
 | none=>simp
 | some e=>simp only[uJ,List.length_dropLast];omega
 rw[uJ];omega
theorem Sv(os:List T)(t:T)(i:Nat)(h:∀e∈os,e.kids.length<=i)(ht:t.kids=[]):∀e∈sxTake os t,e.kids.length<=i+1:=by
 unfold sxTake;split;intro e he;rcases awV.1 he with h1|h1;have:=h e h1;omega;simp at h1;subst h1;rw[ht];simp;split
 cases hl:os.getLast? with
 | none=>exact λe he=>by have:=h e he;omega
 | some e0=>
  exact CY _ _ i (λx hx=>h x (List.dropLast_subset _ hx))
 exact CY _ _ i h
structure zD(g:Nat)(w:ak):Prop where
 blk:w.heap[g]?=some (.cells (Sj 0 0 0 ⟨#[]⟩ ↑()) 101 (0,0))
theorem zD.but{K:List Nat}{g:Nat}{w w':ak}(h:zD g w)(hb:But K w w')(hn:g∉K):zD g w':=⟨hb.heap h.blk hn⟩
theorem zD.ev{g:Nat}{w w':ak}(h:zD g w)(hE:Ev w w'):zD g w':=h.but (But.aW (K:=[]) hE) aj
theorem zD.cs{g:Nat}{w:ak}(h:zD g w):w.cell? ⟨g,0,none⟩=some (.int .i64 0)/\w.cell? ⟨g,1,none⟩=some (.string ⟨#[]⟩)/\w.cell? ⟨g,2,none⟩=some (.int .i64 0)/\w.cell? ⟨g,3,none⟩=some ↑()/\w.cell? ⟨g,4,none⟩=some (.int .i64 0)/\
  w.frozen? ⟨g,0,none⟩=false/\w.frozen? ⟨g,1,none⟩=false/\w.frozen? ⟨g,2,none⟩=false/\w.frozen? ⟨g,3,none⟩=false/\w.frozen? ⟨g,4,none⟩=false:=by
 refine⟨?_,?_,?_,?_,?_,ayt h.blk 0,ayt h.blk 1,ayt h.blk 2,ayt h.blk 3,ayt h.blk 4⟩<;>(rw[ays h.blk];rfl)
def Sz(g:Nat)(k n p:Int)(s:ByteArray)(v:au)(w:ak):ak:=
 ((((w.setCell ⟨g,0,none⟩ ↑k).setCell ⟨g,1,none⟩ (.string s)).setCell ⟨g,2,none⟩ ↑n).setCell ⟨g,3,none⟩ v).setCell ⟨g,4,none⟩ ↑p
theorem JC(g:Nat)(k n p:Int)(s:ByteArray)(v:au)(w:ak):
 ((((w.setCell ⟨g,0,none⟩ ↑k).setCell ⟨g,1,none⟩ (.string s)).setCell ⟨g,2,none⟩ ↑n).setCell ⟨g,3,none⟩ v).setCell ⟨g,4,none⟩ ↑p=Sz g k n p s v w:=rfl
theorem FZ(g:Nat)(k n p:Int)(s:ByteArray)(v:au)(w:ak):But [g] w (Sz g k n p s v w):=
 ((((But.setCell ⟨g,0,none⟩ _ aj).then (But.setCell ⟨g,1,none⟩ _ aj)).then (But.setCell ⟨g,2,none⟩ _ aj)).then (But.setCell ⟨g,3,none⟩ _ aj)).then (But.setCell ⟨g,4,none⟩ _ aj)
theorem zD.set{g:Nat}{w:ak}(h:zD g w)(k n p:Int)(s:ByteArray)(v:au):(Sz g k n p s v w).heap[g]?=some (.cells (Sj k n p s v) 101 (0,0)):=by have:=fZ 4 ↑p (fZ 3 v (fZ 2 ↑n (fZ 1 (.string s) (fZ 0 ↑k h.blk))));rwa [show (((((Sj 0 0 0 ⟨#[]⟩ ↑()).setIfInBounds 0 ↑k).setIfInBounds 1 (.string s)).setIfInBounds 2 ↑n).setIfInBounds 3 v).setIfInBounds 4 ↑p=Sj k n p s v by simp[Sj]]at this
theorem XF{w1:ak}{g:Nat}{fn:Func}{p u1 u2:Tmp}(tmps:Array au)(h:zD g w1)(k n q:Int)(s:ByteArray)(v:au)(hf:fn.results=#[.cell p 101,.tmp u1,.tmp u2])(hp:tmps.getD p undef=.pointer ↑g):
  (results fn tmps).run ax (Sz g k n q s v w1)=.ok (.tuple #[.agg (Sj k n q s v),tmps.getD u1 undef,tmps.getD u2 undef]) (Sz g k n q s v w1):=
 Ba hf tmps _ g k n q s v hp (h.set k n q s v)
structure PI(w0:ak)(v:au)(os:List M)(i:Nat)(w:ak):Prop where
 opn:Opn (w0.heap.size+1) w v os
 ev:Ev w0 w
 box:zD w0.heap.size w
 some_:os≠[]
 few:os.length<=i+1
 kids:∀e∈os,e.kids.length<=i
theorem PI.evs{w0 w w':ak}{v:au}{os:List M}{i:Nat}(h:PI w0 v os i w)(hE:Ev w w'):PI w0 v os i w':=
 ⟨h.opn.ev hE,h.ev.trans hE,h.box.ev hE,h.some_,h.few,h.kids⟩
theorem PI.high{w0 w:ak}{v:au}{os:List M}{i:Nat}(h:PI w0 v os i w):∀x∈blk v os,w0.heap.size<x:=λx hx=>by have:=(h.opn.range hx).1;omega
theorem PI.next{w0 w w':ak}{v v':au}{os os':List M}{i i':Nat}{t:T}(h:PI w0 v os i w)(ho:Opn (w0.heap.size+1) w' v' os')(hm:os'.map M.t=sxTake (os.map M.t) t)(ht:t.kids=[])(hn:os'≠[])(hb:But (blk v os) w w')(hi:i<i'):PI w0 v' os' i' w':=by
 refine⟨ho,((But.aW (K:=blk v os) h.ev).then hb).ev λk hk=>by have:=h.high k hk;omega,h.box.but hb λhk=>by have:=h.high _ hk;omega,hn,?_,λe he=>?_⟩;have h1:=VA (os.map M.t) t;rw[<-hm,awD,awD]at h1;have:=h.few;omega;have h1:=Sv (os.map M.t) t i (λe he=>by
  obtain⟨m,hm',rfl⟩:=aw6.1 he;rw[M.bD,awD];exact h.kids m hm') ht e.t (by rw[<-hm];exact aw6.2 ⟨e,he,rfl⟩)
 rw[M.bD,awD]at h1;omega
theorem YS{K:List Nat}{w4 w6:ak}{gx:Nat}{j v:au}(hb:But K (w4.setCell ⟨gx,4,none⟩ j) w6)(hx:gx∉K)(hlt:gx<w4.heap.size)(c:w4.cell? ⟨gx,5,none⟩=some v):w6.cell? ⟨gx,5,none⟩=some v:=by rw[World.cell?_of_block (w:=w4.setCell ⟨gx,4,none⟩ j) (hb.block gx (by simpa[World.setCell] using hlt) hx)];have h2:(w4.setCell ⟨gx,4,none⟩ j).cell? ⟨gx,5,none⟩=w4.cell? ⟨gx,5,none⟩:=World.cell?_setCell_other _ _ _ _ aj;exact h2.trans c
theorem Opn.init(w:ak):Opn (w.heap.size+1) ((w.alloc (.cells ↑Zz.a 101)).alloc (.cells ↑Zz.a 101)) (.slice (some ⟨w.heap.size+1,0,none⟩) 1 1) [ja]:=by
 refine⟨⟨rfl,.inr ⟨w.heap.size+1,1,_,rfl,awC _,heap_alloc2_new w _ _,awC _,ai,rfl,rfl⟩⟩,λe he=>?_,?_,λe he m hm=>?_⟩;simp at he;subst he;exact World.ownsRow_nil _ _ _ _;simp[blk,foot,Value.ownBlock,ja,M.kv,M.A];simp at he;subst he
 cases hm
def sF(R:Res)(w:ak)(e:Ending)(w':ak):Prop:=
 ∃m:M,e=.returned (.tuple #[.agg ↑m,.int .i64 R.2.1,.int .i64 (R.2.2:Int)])/\m.t=R.1/\Lies w.heap.size [] w' m/\Ev w w'
theorem IZ(s0:ByteArray)(w:ak)(hs:s0.size<=100000):
  Calls ax 57 #[.string s0] w (sF (fF s0.data.toList) w):=by
 have jg:s0.data.toList.length=s0.size:=by rw[aw8];rfl
 have HL:=zq jg;obtain⟨R,hR⟩:∃R,R=fF s0.data.toList:=⟨_,rfl⟩
 rw[<-hR];unfold fF at hR;rw[jg]at hR;have HR:=zq hR;clear hR jg;go_enter func57,ntmps57;go_wp2;refine BU 0 60 (λs w2=>s 0=.string s0/\s 2=.pointer ↑w/\∃(v:au) (os:List M) (i f:Nat),s 5=v/\s 6=↑i/\i<=s0.size/\s0.size-i<f/\PI w v os i w2/\Hid (R=sxGo f (os.map M.t) (s0.data.toList.drop i) i)) (λs _=>s0.size-(intOf (s 6)).toNat) rfl ?_ ?_
 ·rintro s w2 ⟨h0,h2,v,os,i,f,h5,h6,hi,hf,ST,HT⟩;change Code.wp _ _ _ ⟨#[s 0,s 1,s 2,s 3,s 4,s 5,s 6,s 7,s 8,s 9,s 10,s 11,s 12,s 13,s 14,s 15,s 16,s 17,s 18,s 19,s 20,s 21,s 22,s 23,s 24,s 25,s 26,s 27,s 28,s 29,s 30,s 31,s 32,s 33,s 34,s 35,s 36,s 37,s 38,s 39,s 40,s 41,s 42,s 43,s 44,s 45,s 46,s 47,s 48,s 49,s 50,s 51,s 52,s 53,s 54,s 55,s 56,s 57,s 58,s 59],[]⟩ _;simp only[h0,h2,h5,h6];clear h0 h2 h5;obtain⟨f,rfl⟩:∃f',f=f'+1:=⟨f-1,ae⟩
  obtain⟨r,hr⟩:∃r:ByteArray,r=s0.extract i s0.size:=⟨_,rfl⟩
  have hx:s0.extract i s0.size=r:=hr.symm;have hrl:r.data.toList=s0.data.toList.drop i:=by rw[hr,Lib.extract_eq,awS (by rw[aw',HL.out];exact awC _)]
  have hrz:r.size=s0.size-i:=by
   have:r.data.toList.length=r.size:=by rw[aw8];rfl
   rw[<-this,hrl,aw',HL.out]
  have HB:=zq (λw1=>Js r w1 ae);rw[hrl]at HB;have ag3:=jW dN (s0.data.toList.drop i);rw[aw',HL.out]at ag3;have HGO:=HT.out;unfold sxGo at HGO;rw[List.drop_drop]at HGO;generalize hp:sxRun dN (s0.data.toList.drop i)=p at*;have HG:=zq HGO;clear hr hrl hp HT HGO hrz;go_upto_region 6 with (first
   | ((with_reducible refine(HB.out _).mono ?_);rintro e w3 ⟨rfl,rfl⟩))
  have e1:(i:Int)+(p:Int)=((i+p:Nat):Int):=ae;simp only[e1];have hj:i+p<=s0.size:=ae;have CV:i<=i+p:=ae;generalize i+p=j at*;clear HB e1 hx;by_cases hjz:j=s0.size
  ·have oJ:Hid (R=kV (os.map M.t) s0.size):=zq (by
    rw[HG.out,axm (by rw[HL.out];omega),hjz])
   have e2:(j:Int)=(s0.size:Int):=ae;have HW:=λw1 (h1:Opn (w.heap.size+1) w1 v os)=>aa4 w1 h1 ST.some_ s0.size;unfold mv M.kv at HW;have HW:=zq HW;clear HG hjz
   go_wp2_with (first
    | ((with_reducible refine(HW.out _ ST.opn).mono ?_);rintro e w3 ⟨m,rfl,Fq,hml,dV⟩;have B4:=(ST.evs dV).box;have E4:=(ST.evs dV).ev;obtain⟨c0,c1,c2,c3,c4,f0,f1,f2,f3,f4⟩:=B4.cs))
   simp only[Exit.jump];rw[JC];refine ayr (XF _ B4 _ _ _ _ _ rfl rfl) rfl ?_;refine⟨m,?_,by rw[oJ.out];exact Fq,?_,E4.oM (FZ _ _ _ _ _ _ _) (awC _)⟩;rw[oJ.out];rfl;exact((hml.less (K':=[w.heap.size]) (λx hx=>by simp at hx;exact .inr (.inl ae))).move (FZ _ _ _ _ _ _ _) (K':=[]) (λx hx=>by cases hx)).low (axg _)
  have hlt:j<s0.size:=ae;have hat:=sK s0 j hlt;obtain⟨c,hc⟩:∃c,s0[j]=c:=⟨_,rfl⟩
  rw[hc]at hat;have hdr:=D7 _ _ _ hat;obtain⟨q,hq⟩:∃q,q=s0.data.toList.drop (j+1):=⟨_,rfl⟩
  rw[<-hq]at hdr;have nD:(c::q).length=s0.size-j:=by rw[<-hdr,aw',HL.out]
  have uZ:=HG.out;rw[hdr]at uZ;simp only[]at uZ;have D8:=xW c q;have hjo:=λh=>JB (os:=os.map M.t) D8 h;have hjf:=λh=>Nh (os:=os.map M.t) D8 h;rw[awD]at hjo;have e2:¬((j:Int)=(s0.size:Int)):=ae;have e2':((j:Int)==(s0.size:Int))=false:=awy.2 e2;obtain⟨y,hy⟩:∃y:ByteArray,y=s0.extract j s0.size:=⟨_,rfl⟩
  have hxy:s0.extract j s0.size=y:=hy.symm;have yF:y.data.toList=c::q:=by rw[hy,Lib.extract_eq,awS (by rw[aw',HL.out];exact awC _),hdr]
  have hyz:y.size=s0.size-j:=by
   have:y.data.toList.length=y.size:=by rw[aw8];rfl
   rw[<-this,yF,nD]
  have HS:=λw1=>ael y w1 ae ae;rw[yF]at HS;have HJ:=λw1 (h1:Opn (w.heap.size+1) w1 v os)=>aa5 w1 h1 ST.some_ (bW (c::q));generalize hX:bW (c::q)=X at*;generalize hJ:iU (os.map M.t) X=J at*;obtain⟨k,xs,n,z,yy,ff⟩:=X;obtain⟨jw,jf⟩:=J;simp only[tkv,XC]at HS HJ uZ hjo hjf;have HS:=zq HS;have HJ:=zq (λw1 (hE:Ev w2 w1)=>HJ w1 (ST.opn.ev hE));have yG:=zq uZ;have HQ:=zq hq;have BN:=zq nD;have HDR:=zq hdr;have ag_:=D8.good;simp only at ag_;have HOK:=zq ag_;have HJO:=zq hjo;have HJF:=zq hjf;clear hc hat hdr hq nD HG uZ D8 hjo hjf hy yF hJ hX ag_;by_cases hw:jw=0
  ·subst hw;obtain⟨hyy,hk2,_,_⟩:=HJO.out rfl;subst hyy;obtain⟨hz1,hz2,_⟩:=HOK.out rfl;rw[BN.out]at hz2;have oJ:Hid (R=sxGo f (sxTake (os.map M.t) (oN k xs n j).t) (s0.data.toList.drop (j+z)) (j+z)):=zq (by
    rw[yG.out];simp only[axe,aw4];rw[<-HDR.out,List.drop_drop];rfl)
   have HT:=λw1 (hE:Ev w2 w1)=>aes w1 (ST.opn.ev hE) ST.some_ k xs n j (λh=>by
    have:=hk2 h;have h0:=ST.some_
    cases hos:os with
    | nil=>exact absurd hos h0
    | cons a l=>
     cases l with
     | nil=>rw[hos]at this;exact absurd rfl this
     | cons b l=>simp) (by have:=ST.few;omega) (λe he=>by have:=ST.kids e he;omega)
   rw[show mv (oN k xs n j)=.agg #[↑k,↑xs,↑n,↑(),↑j] from rfl]at HT;have HT:=zq HT;have i1:Hid ((j:Int)+(z:Int)=((j+z:Nat):Int)):=zq ae;have anK:j+z<=s0.size:=ae;clear yG HDR HQ BN HOK HJO HJF hk2 hz2
   go_wp2_with (first
    | ((with_reducible refine(HS.out _).mono ?_);rintro e w3 ⟨rfl,dV⟩)
    | ((with_reducible refine(HJ.out _ (dV.trans aB)).mono ?_);rintro e w4 ⟨rfl,fG⟩;have X4:=(kZ.new ⟨k,xs,n,z,0,ff⟩ w3).ev fG;obtain⟨c0,c1,c2,c3,c4,c5,c6,c7⟩:=X4.cs;have f4:=X4.f 4;simp only at c0 c1 c2 c5;have kH:Ev w2 (w4.setCell ⟨w3.heap.size,4,none⟩ ↑j):=Ev.oM (g:=w3.heap.size) ((dV.trans aB).trans fG) (But.setCell _ _ aj) dV.size)
    | ((with_reducible refine(HT.out _ kH).mono ?_);rintro e w6 ⟨v',os',rfl,RX,hmap',anL,hb',hs'⟩;have hgx:w3.heap.size∉blk v os:=(λhm=>by have:=(ST.opn.range hm).2;have:=dV.size;omega);have d5:w6.cell? ⟨w3.heap.size,5,none⟩=some ↑z:=YS hb' hgx X4.lt c5))
   go_step3
   refine⟨rfl,⟨rfl,rfl,rfl,rfl,v',os',j+z,f,rfl,?_,anK,ae,?_,?_⟩,?_⟩;rw[<-i1.out];rfl
   ·exact(ST.evs kH).next RX hmap' rfl anL hb' ae
   rw[hmap'];exact oJ;simp[Act.eval,intOf];omega
  have hw':(jw==0)=false:=awy.2 hw;have hw'':(jw !=0)=true:=axI.2 hw;have anM:=HJF.out hw;rw[BN.out]at anM;have oJ:Hid (R=(eu,jw,j+jf)):=zq (by
   rw[yG.out];simp only[hw',awP,aw7])
  have i2:Hid ((j:Int)+(jf:Int)=((j+jf:Nat):Int)):=zq ae;have i3:j+jf<=s0.size:=ae;clear yG HDR HQ BN HOK HJO HJF
  go_wp2_with (first
   | ((with_reducible refine(HS.out _).mono ?_);rintro e w3 ⟨rfl,dV⟩)
   | ((with_reducible refine(HJ.out _ (dV.trans aB)).mono ?_);rintro e w4 ⟨rfl,fG⟩;have X4:=(kZ.new ⟨k,xs,n,z,yy,ff⟩ w3).ev fG;have B4:=(ST.evs ((dV.trans aB).trans fG)).box;have E4:=(ST.evs ((dV.trans aB).trans fG)).ev;obtain⟨c0,c1,c2,c3,c4,f0,f1,f2,f3,f4⟩:=B4.cs))
  simp only[Exit.jump];rw[JC];refine ayr (XF _ B4 _ _ _ _ _ rfl rfl) rfl ?_;refine⟨ja,?_,by rw[oJ.out];rfl,Lies.zero _ _ _,E4.oM (FZ _ _ _ _ _ _ _) (awC _)⟩;rw[oJ.out,<-i2.out];rfl
 intro H;by_cases hbig:600<s0.size
 ·have oJ:Hid (R=(eu,3,0)):=zq (by rw[HR.out,if_pos hbig]);have e1:(600:Int)<(s0.size:Int):=ae;go_wp2
  try simp only[Exit.jump]
  refine ayr (Ba rfl _ _ w.heap.size 0 0 0 ⟨#[]⟩ (.slice none 0 0) rfl (ayq w _)) rfl ?_;refine⟨ja,?_,by rw[oJ.out];rfl,Lies.zero _ _ _,Ev.alloc _ _⟩;rw[oJ.out];rfl
 have oJ:Hid (R=sxGo (s0.size+1) [eu] s0.data.toList 0):=zq (by rw[HR.out,if_neg hbig]);have e1:¬((600:Int)<(s0.size:Int)):=ae;go_wp2
 go_step3
 rename_i hK;refine hK _ _ (H _ _ ?_ ?_ ?_);rfl;rfl;refine⟨rfl,rfl,_,[ja],0,s0.size+1,rfl,rfl,awJ _,ae,⟨Opn.init w,aB.trans aB,⟨?_⟩,aj,aj,λe he=>?_⟩,oJ⟩;exact heap_alloc2_old w _ _;simp at he;rw[he];exact awC _
theorem JE(w:ak)(m:M):(w.alloc (.cells ↑m 101)).heap[w.heap.size]?=some (.cells (mc m).toArray 101 (0,0)):=ayq _ _
theorem F8{w:ak}{g:Nat}{m:M}(h:w.heap[g]?=some (.cells (mc m).toArray 101 (0,0))):w.cell? ⟨g,0,none⟩=some ↑m.kind/\w.cell? ⟨g,1,none⟩=some ↑m.s/\w.cell? ⟨g,2,none⟩=some ↑m.n/\w.cell? ⟨g,3,none⟩=some (.slice m.A m.kids.length m.cap)/\w.cell? ⟨g,4,none⟩=some ↑m.pos:=by refine⟨?_,?_,?_,?_,?_⟩<;>(rw[ays h];rfl)
theorem VB{w w':ak}{g:Nat}{o:Obj}(h:w.heap[g]?=some o)(hE:Ev w w'):w'.heap[g]?=some o:=by rw[hE.block g (awQ.1 h).1];exact h
theorem F_(c:UInt8)(w:ak):
  Calls ax 75 #[.int .u8 (c.toNat:Int)] w λe w'=>e=.returned (.bool (bG c))/\w=w':=by
 by_cases h1:(97:Int)<=(c.toNat:Int)
 ·have e:bG c=decide ((c.toNat:Int)<=122):=by unfold bG;rw[axv];simp;omega
  rw[e];go_enter func75,ntmps75;go_wp2;go_ret;exact⟨rfl,rfl⟩
 have e:bG c=false:=by unfold bG;rw[axv];simp;omega
 rw[e];go_enter func75,ntmps75;go_wp2;go_ret;exact⟨rfl,rfl⟩
theorem JI(c:UInt8)(w:ak):
  Calls ax 76 #[.int .u8 (c.toNat:Int)] w λe w'=>e=.returned (.bool (bg c))/\w=w':=by
 by_cases h1:(48:Int)<=(c.toNat:Int)
 ·have e:bg c=decide ((c.toNat:Int)<=57):=by unfold bg;rw[axv];simp;omega
  rw[e];go_enter func76,ntmps76;go_wp2;go_ret;exact⟨rfl,rfl⟩
 have e:bg c=false:=by unfold bg;rw[axv];simp;omega
 rw[e];go_enter func76,ntmps76;go_wp2;go_ret;exact⟨rfl,rfl⟩
def Gf(c:UInt8):Int:=match iG c with
 | none=>-1
 | some a=>(a:Int)
theorem aAK(h:U:=by
 go_enter func160,ntmps160
 go_wp2_with (first|((with_reducible refine(HD.out _).mono ?_);rintro x w1 ⟨rfl,rfl⟩))
 go_ret;exact⟨rfl,rfl⟩):U:=h
theorem ahf(c:UInt8)(w:ak):
  Calls ax 160 #[.int .u8 (c.toNat:Int)] w λe w'=>e=.returned (.int .i64 (Gf c))/\w=w':=by
 have HD:=JI c;have hlt:=c.toNat_lt;by_cases h1:48<=c.toNat/\c.toNat<=57;have e:Gf c=(c.toNat:Int)-48:=by unfold Gf iG;rw[if_pos h1];simp;omega
 rw[e];rw[show bg c=true by unfold bg;simp;exact h1]at HD;have HD:=zq HD;have i1:IntKind.u8.wrap ((c.toNat:Int)-48)=(c.toNat:Int)-48:=IntWalk.u8_in _ ae;exact aAK;rw[show bg c=false by unfold bg;rw[axv];simp;omega]at HD;have HD:=zq HD;by_cases h2:97<=c.toNat;have j1:(97:Int)<=(c.toNat:Int):=ae;by_cases h3:c.toNat<=102;have e:Gf c=(c.toNat:Int)-97+10:=by unfold Gf iG;rw[if_neg h1,if_pos ⟨h2,h3⟩];simp;omega
 rw[e];have j2:(c.toNat:Int)<=102:=ae;have i1:IntKind.u8.wrap ((c.toNat:Int)-97)=(c.toNat:Int)-97:=IntWalk.u8_in _ ae;exact aAK;have e:Gf c=-1:=by unfold Gf iG;rw[if_neg h1,if_neg (λh=>h3 h.2)]
 rw[e];have j2:¬((c.toNat:Int)<=102):=ae;exact aAK;have e:Gf c=-1:=by unfold Gf iG;rw[if_neg h1,if_neg (λh=>h2 h.1)]
 rw[e];have j1:¬((97:Int)<=(c.toNat:Int)):=ae;exact aAK
theorem Ot{c:UInt8}(h:iG c=none):Gf c=-1:=by unfold Gf;rw[h]
theorem Be{c:UInt8}{a:Nat}(h:iG c=some a):Gf c=(a:Int):=by unfold Gf;rw[h]
theorem SE(l:By)(k:Nat)(c:UInt8)(h:l[k]?=some c)(hr:k<sxRun bg l):(dR l)[k]?=some c:=by unfold dR;rw[List.getElem?_take,if_pos hr,h]
def uk(D:By)(k u:Nat)(fine:Bool):Prop:=if fine then sxBelow D 0=sxBelow (D.drop k) (-(u:Int))/\u<=9223372036854775808 else sxBelow D 0=none
theorem ajJ(x:Int):∃n:Nat,IntKind.u64.wrap x=(n:Int)/\n<18446744073709551616:=⟨(x % 18446744073709551616).toNat,by simp[IntKind.wrap,IntKind.signed,IntKind.bits];omega,ae⟩
theorem abe{u:Nat}(h:u<=9223372036854775808):wrap64 (IntKind.u64.wrap (-(u:Int)))=-(u:Int):=by simp[IntKind.wrap,IntKind.signed,IntKind.bits,wrap64];omega
theorem uk.bad{D:By}{k u u' d:Nat}{fine:Bool}(h:uk D k u fine)(hs:∀m:Int,sxBelow (D.drop k) m=if m < -((9223372036854775808-(d:Int)) / 10) then none else sxBelow (D.drop (k+1)) (m*10-(d:Int)))(ht:(9223372036854775808-(d:Int)) / 10<(u:Int)):uk D (k+1) u' false:=by
 unfold uk at h|-;simp only[awP,aw7]
 cases fine
 exact h;rw[h.1,hs,if_pos ae]
theorem uk.good{D:By}{k u d:Nat}{fine:Bool}(h:uk D k u fine)(hs:∀m:Int,sxBelow (D.drop k) m=if m < -((9223372036854775808-(d:Int)) / 10) then none else sxBelow (D.drop (k+1)) (m*10-(d:Int)))(hd:d<=9)(ht:¬(9223372036854775808-(d:Int)) / 10<(u:Int)):uk D (k+1) (u*10+d) fine:=by
 unfold uk at h|-
 cases fine
 exact h;simp only[aw4]at h|-;refine⟨?_,ae⟩;rw[h.1,hs,if_neg ae,show (-(u:Int))*10-(d:Int)=-((u*10+d:Nat):Int) by omega]
theorem uk.out{D:By}{u:Nat}{fine:Bool}(h:uk D D.length u fine)(plus:Bool):(D.length=0∨fine=false∨9223372036854775808<u∨(plus=true/\9223372036854775807<u))->sxNum plus D=bf 12 0:=by
 intro hc;unfold uk at h;unfold sxNum
 cases fine
 simp only[awP,aw7]at h;rw[h];simp only[aw4]at h;obtain⟨h1,h2⟩:=h;rw[axm (awC _)]at h1;rw[h1];simp only[sxBelow];rcases hc with hc|hc|hc|⟨hc,hu⟩
 rw[axu hc];rfl
 cases hc
 omega;rw[if_pos];have:u=9223372036854775808:=ae;subst this hc;simp
theorem uk.fit{D:By}{u:Nat}(h:uk D D.length u true)(plus:Bool)(hk:D.length≠0)(hu:plus=true->u<=9223372036854775807):u<=9223372036854775808/\sxNum plus D=if plus then ⟨3,[],(u:Int),D.length,0,0⟩ else ⟨3,[],-(u:Int),1+D.length,0,0⟩:=by
 unfold uk at h;simp only[aw4]at h;obtain⟨h1,h2⟩:=h;refine⟨h2,?_⟩;rw[axm (awC _)]at h1;unfold sxNum;rw[h1];simp only[sxBelow];have he:D.isEmpty=false:=by
  cases D with
  | nil=>exact absurd rfl hk
  | cons a l=>rfl
 cases plus
 simp[he];have:=hu rfl;rw[if_neg (by rw[he];simp;omega)];simp
theorem aB8(h:U:=by
 go_ret3
 exact⟨j,by rw[HX.out];rfl,λh=>(by rw[HX.out]at h;cases h),Ev.refl _⟩):U:=h
theorem aAz(h:U:=by
 go_wp2_with (first|((with_reducible refine(HC.out _).mono ?_);rintro x w1 ⟨rfl,rfl⟩))
 exact aB8):U:=h
theorem azV(h:U:=by
 have ej:j=from_:=by rw[HJ.out,hz];rfl
 have HZ:=zq hz;clear hz wF;subst ej;exact aAz):U:=h
theorem aAu(h:U:=by clear wF;exact aAz):U:=h
theorem ayO(h:U:=by
 rw[Nb]at HC hst;simp only[aw4]at hst;have HC:=zq HC;have um:k<D.length:=by have:=HK.out;rw[hst]at this;omega
 have HK2:Hid (sxRun bg (s.data.toList.drop (j+1))+(k+1)=D.length):=zq (by have:=HK.out;rw[hst]at this;omega);have hDc:=ajK.out k c (by rw[List.getElem?_drop,<-HJ.out];exact hat) um;obtain⟨d,hd,hd9⟩:∃d:Nat,(c.toNat:Int)=48+(d:Int)/\d<=9:=by unfold bg at Nb;simp at Nb;exact⟨c.toNat-48,ae,ae⟩
 have hstep:=λm=>yM D k c m hDc;have i0:(48:Int)+(d:Int)-48=(d:Int):=ae;rw[hd]at hstep HC;rw[i0]at hstep;have i1:IntKind.u8.wrap ((48:Int)+(d:Int)-48)=(d:Int):=by rw[i0];exact IntWalk.u8_in _ ae
 have HST:=zq hstep;clear hstep hst hc hat Nb hDc
 go_wp2_with (first|((with_reducible refine(HC.out _).mono ?_);rintro x w1 ⟨rfl,rfl⟩))
 ·obtain⟨u',hu',hu2⟩:=ajJ (IntKind.u64.wrap ((u:Int)*10)+(d:Int))
  go_round
  case rel=>exact⟨k+1,u',false,ae,by rw[HJ.out];go_num,by rw[hu'],rfl,hu2,zq (HN.out.bad HST.out ae),by rw[show from_+(k+1)=j+1 by rw[HJ.out];omega];exact HK2⟩
  case measure=>simp[intOf];omega
 go_round
 case rel=>exact⟨k+1,u*10+d,fine,ae,by rw[HJ.out];go_num,by go_num,rfl,ae,zq (HN.out.good HST.out hd9 ae),by rw[show from_+(k+1)=j+1 by rw[HJ.out];omega];exact HK2⟩
 case measure=>simp[intOf];omega):U:=h
theorem aAD(h:U:=by
 have ej:j=from_:=by rw[HJ.out,hz];rfl
 have HZ:=zq hz;clear hz wF;subst ej;go_wp2;exact aB8):U:=h
theorem aBO(h:U:=by clear wF;go_wp2;exact aB8):U:=h
theorem aAa(h:U:=by
 go_ret3
 exact⟨j,(by rw[HX.out];exact axc (λx=>Ending.returned (Value.tuple #[Value.int .i64 x,Value.int .i64 (j:Int),Value.bool true])) HNG.out),λ_=>(by rw[HX.out,HJ.out,HF.out];simp only[awP,aw7];omega),Ev.refl _⟩):U:=h
theorem JK(s:ByteArray)(w:ak)(hs:s.size<=100000)(i from_:Nat)(c0:UInt8)(hi:i<s.size)(hc0:s.data.toList[i]?=some c0)(minus:Bool)(hm:(c0.toNat==45)=minus)(hf:from_=if minus then i+1 else i):
  Calls ax 122 #[.string s,↑i] w λe w'=>
   ∃j:Nat,e=.returned (.tuple #[.int .i64 (sxNum (!minus) (dR (s.data.toList.drop from_))).n,↑j,.bool ((sxNum (!minus) (dR (s.data.toList.drop from_))).why==0)])/\
    ((sxNum (!minus) (dR (s.data.toList.drop from_))).why=0->j=i+(sxNum (!minus) (dR (s.data.toList.drop from_))).size)/\Ev w w':=by
 have jg:s.data.toList.length=s.size:=by rw[aw8];rfl
 have HL:=zq jg;have hidx:∀hh,s[i]'hh=c0:=λhh=>by have:=sK s i hh;rw[this]at hc0;exact axd hc0
 have hfs:from_<=s.size:=by rw[hf];split<;>omega
 have hDl:=uu (s.data.toList.drop from_);have hDa:=fJ (s.data.toList.drop from_);have ahg:=λk c h hr=>SE (s.data.toList.drop from_) k c h hr;have hDr:=jW bg (s.data.toList.drop from_);rw[aw',jg]at hDr;generalize hD:dR (s.data.toList.drop from_)=D at*;rw[<-hDl]at hDr ahg;have HDl:=zq hDl;have ajK:=zq ahg;have ajL:=zq JI;clear hc0 hD hDl hDa ahg jg
 cases minus
 ·obtain rfl:from_=i:=hf;have e1:¬((c0.toNat:Int)=45):=by have:=awy.1 hm;omega
  have e1':((c0.toNat:Int)==45)=false:=awy.2 e1;have D5:(0:Int)<=(from_:Int):=ae;clear hm;simp only[Bool.not_false];go_enter func122,ntmps122;go_wp2
  go_loop [7,9,10] (λiv uv fv=>∃(k u:Nat) (fine:Bool),k<=D.length/\iv=.int .i64 ((from_+k:Nat):Int)/\uv=.int .u64 (u:Int)/\fv=.bool fine/\u<18446744073709551616/\Hid (uk D k u fine)/\Hid (sxRun bg (s.data.toList.drop (from_+k))+k=D.length)) (λiv _ _=>s.size-(intOf iv).toNat)
  case atStart=>exact⟨0,0,true,awJ _,rfl,rfl,rfl,ae,zq ⟨rfl,ae⟩,zq (by rw[HDl.out];rfl)⟩
  case round=>
   obtain⟨k,u,fine,hk,rfl,rfl,rfl,hu,HN,HK⟩:=hrel;obtain⟨j,hj⟩:∃j,j=from_+k:=⟨_,rfl⟩
   rw[<-hj]at HK|-;have hjb:j<=300000:=by have:=hDr;omega
   have HJ:=zq hj;clear hj;by_cases hlt:j<s.size
   ·have hat:=sK s j hlt;obtain⟨c,hc⟩:∃c,s[j]=c:=⟨_,rfl⟩
    have abf:∀hh,s[j]'hh=c:=λ_=>hc;rw[hc]at hat;have hst:=nI bg s.data.toList j c hat;have HC:=ajL.out c;have hj0:(0:Int)<=(j:Int):=ae;have YY:(j:Int)<(s.size:Int):=ae
    cases Nb:bg c
    ·rw[Nb]at HC hst;simp only[awP,aw7]at hst;have hkD:k=D.length:=by have:=HK.out;rw[hst]at this;omega
     have HC:=zq HC;obtain rfl:k=D.length:=hkD;have wF:=HN.out;by_cases hz:D.length=0;have HX:Hid (sxNum true D=bf 12 0):=zq (wF.out true (.inl hz));exact azV;have ej:¬((j:Int)=(from_:Int)):=by rw[HJ.out];omega
     have ej':((j:Int)==(from_:Int))=false:=awy.2 ej
     cases fine
     have HX:Hid (sxNum true D=bf 12 0):=zq (wF.out true (.inr (.inl rfl)));exact aAu;by_cases hbig:9223372036854775807<u;have HX:Hid (sxNum true D=bf 12 0):=zq (wF.out true (.inr (.inr (.inr ⟨rfl,hbig⟩))));have hb2:(9223372036854775807:Int)<(u:Int):=ae;exact aAu;obtain⟨hu3,hX⟩:=wF.fit true hz (λ_=>by omega);have HX:=zq hX;have hb2:¬((9223372036854775807:Int)<(u:Int)):=ae;have hb3:¬((9223372036854775808:Int)<(u:Int)):=ae;clear wF hX
     go_wp2_with (first|((with_reducible refine(HC.out _).mono ?_);rintro x w1 ⟨rfl,rfl⟩))
     go_ret3
     exact⟨j,by rw[HX.out];rfl,λ_=>(by rw[HX.out,HJ.out];rfl),Ev.refl _⟩
    exact ayO
   have YU:j=s.size:=by have:=jW bg (s.data.toList.drop j);rw[aw',HL.out]at this;have h2:=HK.out;have h3:=HJ.out;omega
   have hkD:k=D.length:=by have:=HK.out;rw[axm (by rw[HL.out];omega)]at this;simp only[sxRun]at this;omega
   have hlt2:¬((j:Int)<(s.size:Int)):=ae;clear YU;obtain rfl:k=D.length:=hkD;have wF:=HN.out;by_cases hz:D.length=0;have HX:Hid (sxNum true D=bf 12 0):=zq (wF.out true (.inl hz));exact aAD;have ej:¬((j:Int)=(from_:Int)):=by rw[HJ.out];omega
   have ej':((j:Int)==(from_:Int))=false:=awy.2 ej
   cases fine
   have HX:Hid (sxNum true D=bf 12 0):=zq (wF.out true (.inr (.inl rfl)));exact aBO;by_cases hbig:9223372036854775807<u;have HX:Hid (sxNum true D=bf 12 0):=zq (wF.out true (.inr (.inr (.inr ⟨rfl,hbig⟩))));have hb2:(9223372036854775807:Int)<(u:Int):=ae;exact aBO;obtain⟨hu3,hX⟩:=wF.fit true hz (λ_=>by omega);have HX:=zq hX;have hb2:¬((9223372036854775807:Int)<(u:Int)):=ae;have hb3:¬((9223372036854775808:Int)<(u:Int)):=ae;clear wF hX;go_wp2
   go_ret3
   exact⟨j,by rw[HX.out];rfl,λ_=>(by rw[HX.out,HJ.out];rfl),Ev.refl _⟩
 have hf':from_=i+1:=hf;have HF:=zq hf';have e1:(c0.toNat:Int)=45:=by have:=awO.1 hm;omega
 have D5:(0:Int)<=(i:Int):=ae;have hi1:(i:Int)+1=(from_:Int):=ae;clear hf hf' hm;simp only[Bool.not_true];go_enter func122,ntmps122;go_wp2
 go_loop [7,9,10] (λiv uv fv=>∃(k u:Nat) (fine:Bool),k<=D.length/\iv=.int .i64 ((from_+k:Nat):Int)/\uv=.int .u64 (u:Int)/\fv=.bool fine/\u<18446744073709551616/\Hid (uk D k u fine)/\Hid (sxRun bg (s.data.toList.drop (from_+k))+k=D.length)) (λiv _ _=>s.size-(intOf iv).toNat)
 case atStart=>exact⟨0,0,true,awJ _,rfl,rfl,rfl,ae,zq ⟨rfl,ae⟩,zq (by rw[HDl.out];rfl)⟩
 case round=>
  obtain⟨k,u,fine,hk,rfl,rfl,rfl,hu,HN,HK⟩:=hrel;obtain⟨j,hj⟩:∃j,j=from_+k:=⟨_,rfl⟩
  rw[<-hj]at HK|-;have hjb:j<=300000:=by have:=hDr;omega
  have HJ:=zq hj;clear hj;by_cases hlt:j<s.size
  ·have hat:=sK s j hlt;obtain⟨c,hc⟩:∃c,s[j]=c:=⟨_,rfl⟩
   have abf:∀hh,s[j]'hh=c:=λ_=>hc;rw[hc]at hat;have hst:=nI bg s.data.toList j c hat;have HC:=ajL.out c;have hj0:(0:Int)<=(j:Int):=ae;have YY:(j:Int)<(s.size:Int):=ae
   cases Nb:bg c
   ·rw[Nb]at HC hst;simp only[awP,aw7]at hst;have hkD:k=D.length:=by have:=HK.out;rw[hst]at this;omega
    have HC:=zq HC;obtain rfl:k=D.length:=hkD;have wF:=HN.out;by_cases hz:D.length=0;have HX:Hid (sxNum false D=bf 12 0):=zq (wF.out false (.inl hz));exact azV;have ej:¬((j:Int)=(from_:Int)):=by rw[HJ.out];omega
    have ej':((j:Int)==(from_:Int))=false:=awy.2 ej
    cases fine
    have HX:Hid (sxNum false D=bf 12 0):=zq (wF.out false (.inr (.inl rfl)));exact aAu;obtain⟨hu3,hX⟩:=wF.fit false hz (λh=>by cases h);have HNG:=zq (abe hu3);have HX:=zq hX;have hb3:¬((9223372036854775808:Int)<(u:Int)):=ae;clear wF hX
    go_wp2_with (first|((with_reducible refine(HC.out _).mono ?_);rintro x w1 ⟨rfl,rfl⟩))
    exact aAa
   exact ayO
  have YU:j=s.size:=by have:=jW bg (s.data.toList.drop j);rw[aw',HL.out]at this;have h2:=HK.out;have h3:=HJ.out;omega
  have hkD:k=D.length:=by have:=HK.out;rw[axm (by rw[HL.out];omega)]at this;simp only[sxRun]at this;omega
  have hlt2:¬((j:Int)<(s.size:Int)):=ae;clear YU;obtain rfl:k=D.length:=hkD;have wF:=HN.out;by_cases hz:D.length=0;have HX:Hid (sxNum false D=bf 12 0):=zq (wF.out false (.inl hz));exact aAD;have ej:¬((j:Int)=(from_:Int)):=by rw[HJ.out];omega
  have ej':((j:Int)==(from_:Int))=false:=awy.2 ej
  cases fine
  have HX:Hid (sxNum false D=bf 12 0):=zq (wF.out false (.inr (.inl rfl)));exact aBO;obtain⟨hu3,hX⟩:=wF.fit false hz (λh=>by cases h);have HNG:=zq (abe hu3);have HX:=zq hX;have hb3:¬((9223372036854775808:Int)<(u:Int)):=ae;clear wF hX;go_wp2;exact aAa
theorem lN{l:By}{i:Nat}{c:UInt8}(h:l[i]?=some c):l.drop i=c::l.drop (i+1):=by obtain⟨hi,e⟩:=awz.1 h;rw[axt hi,e]
theorem YZ(s:ByteArray)(w:ak)(hs:s.size<=100000)(i:Nat)(c0:UInt8)(hi:i<s.size)(hc0:s.data.toList[i]?=some c0):
  Calls ax 122 #[.string s,↑i] w λe w'=>
   ∃j:Nat,e=.returned (.tuple #[.int .i64 (dW (s.data.toList.drop i)).n,↑j,.bool ((dW (s.data.toList.drop i)).why==0)])/\
    ((dW (s.data.toList.drop i)).why=0->j=i+(dW (s.data.toList.drop i)).size)/\Ev w w':=by
 have hd:=lN hc0
 cases hm:(c0.toNat==45) with
 | true=>
  have:=JK s w hs i (i+1) c0 hi hc0 true hm rfl;have e:dW (s.data.toList.drop i)=sxNum (!true) (dR (s.data.toList.drop (i+1))):=by rw[hd];simp only[dW,hm,aw4];rfl
  rw[e];exact this
 | false=>
  have:=JK s w hs i i c0 hi hc0 false hm rfl;have e:dW (s.data.toList.drop i)=sxNum (!false) (dR (s.data.toList.drop i)):=by rw[hd];simp only[dW,hm];rfl
  rw[e];exact this
abbrev ayu:=@Go.IntWalk.i64_in
theorem Ou{P:Program}{ops:Array Oper}{o:Oper}{a:Act}{w:ak}{K:Act->ak->Prop}{Q:Exit->Act->ak->Prop}{E:Prop}
  (hg:o.guard=none) (f:FuncId) (xs:Array Operand) (ts:Array TypeId) (hop:o.op=.call {callee:=.value (.func f),args:=xs,argTypes:=ts}) (hb:FQ P f=true) (args:Array au) (ha:xs.map a.eval=args) (v:au)
  (hc:Calls P f args w λe w'=>e=.returned v/\w=w') (hK:K (a.put o.dst v) w):
  if Region.wanted o (yielded ops a.tmps)=true then Oper.wp P o a w K Q else E:=by
 rw[if_pos (ay hg)];unfold Oper.wp;rw[bT f xs ts hop hb w,ha];refine hc.mono ?_;rintro e w' ⟨rfl,rfl⟩;exact hK
theorem Gg{P:Program}{ops:Array Oper}{o:Oper}{a:Act}{w:ak}{K:Act->ak->Prop}{Q:Exit->Act->ak->Prop}{E:Prop}
  (hg:o.guard=none) (s x:Operand) (hop:o.op=.call {callee:=.builtin .append,args:=#[s,x],argTypes:=#[93,93]})
  (ht:P.underlying 93=some (.slice 5)) (hi:(P.info? 5).map (λi=>(i.zero,i.size,i.bytes))=some (some (.int .u8 0),1,1))
  (v:au) (l:By) (hs:a.eval s=v) (hown:Row w v l) (A:Option Addr) (m c:Nat) (l':By) (hx:a.eval x=.slice A m c) (hB:Bs w A m c l') (hbytes:l.length+l'.length<=140737488355328)
  (hK:∀v' w',Row w' v' (l++l')->But (foot v) w w'->fO w v v'->K (a.put o.dst v') w'):
  if Region.wanted o (yielded ops a.tmps)=true then Oper.wp P o a w K Q else E:=by
 rw[if_pos (ay hg)];obtain⟨v',w',hr,h2,h3,h4⟩:=zU (P:=P) (w:=w) o.type ht hi v l hown A m c l' hB hbytes;unfold Oper.wp execOp;simp only[hop,resolve,invoke,builtin,ayn,ayo,ayp,axF,awI,awY,hs,hx,hr];exact hK _ _ h2 h3 h4
theorem jk{fn:Func}{t u v x:Tmp}(h:fn.results=#[.tmp t,.tmp u,.tmp v,.tmp x])(tmps:Array au)(P:Program)(w:ak):
  (results fn tmps).run P w=.ok (.tuple #[tmps.getD t undef,tmps.getD u undef,tmps.getD v undef,tmps.getD x undef]) w:=by
 simp[results,h]
structure ajO(Y:Tk)(i0:Nat)(sb:ByteArray)(en wh:Int):Prop where
 ok:Y.why=0->sb=⟨Y.s.toArray⟩/\en=((i0+Y.size:Nat):Int)
 bad:Y.why≠0->wh=((i0+Y.fault:Nat):Int)
structure Cb(w0:ak)(A:Option Addr)(n cap:Nat)(b:By)(w:ak):Prop where
 row:Row w (.slice A n cap) b
 len:b.length=n
 high:∀k,(Value.slice A n cap).ownBlock=some k->w0.heap.size<=k
 ev:Ev w0 w
theorem Cb.step{w0 w w1:ak}{A:Option Addr}{n cap:Nat}{b B1:By}{v1:au}(h:Cb w0 A n cap b w)(hr:Row w1 v1 B1)(hb:But (foot (.slice A n cap)) w w1)(hs:fO w (.slice A n cap) v1):
  ∃A1 n1 cap1,v1=.slice A1 n1 cap1/\Cb w0 A1 n1 cap1 B1 w1:=by
 obtain⟨A1,cap1,rfl,_,_,_⟩:=hr.bs;refine⟨A1,_,cap1,rfl,hr,rfl,λk hk=>?_,((But.aW (K:=foot (.slice A n cap)) h.ev).then hb).ev λk hk=>h.high k (aG.1 hk)⟩;rcases hs k hk with h1|h1;exact h.high k h1;have:=h.ev.size;omega
theorem Cb.evs{w0 w w1:ak}{A:Option Addr}{n cap:Nat}{b:By}(h:Cb w0 A n cap b w)(hE:Ev w w1):Cb w0 A n cap b w1:=⟨h.row.ev hE,h.len,h.high,h.ev.trans hE⟩
theorem Cb.init(w:ak):Cb w ↑w 0 0 [] (w.alloc (.cells #[] 5)):=
 ⟨⟨rfl,.inr ⟨w.heap.size,0,#[],rfl,awJ _,ayq w _,awC _,ai,rfl,rfl⟩⟩,rfl,by simp[Value.ownBlock],Ev.alloc _ _⟩
theorem Y2(b:By)(c x y:UInt8)(q:By)(i ha hb:Nat)(hc:c.toNat=92)(hx:iG x=some ha)(hy:iG y=some hb):sxTextGo b (c::x::y::q) i=sxTextGo (b++[UInt8.ofNat (16*ha+hb)]) q (i+3):=by
 conv=>lhs;unfold sxTextGo
 have hp:dD c=false:=by unfold dD;rw[hc];rfl
 simp[hp,hc,hx,hy]
theorem aex{a b:Nat}(ha:a<16)(hb:b<16):IntKind.u8.wrap (16*(a:Int)+(b:Int))=((UInt8.ofNat (16*a+b)).toNat:Int):=by rw[IntWalk.u8_in _ ae,UInt8.toNat_ofNat'];omega
theorem aAo(h:U:=by
 go_wp2
 (try simp only[Exit.inBlock,Exit.then]);refine ayr (jk rfl _ _ _) rfl ?_
 exact⟨_,_,_,by rw[uZ.out];rfl,⟨(λh=>by rw[uZ.out]at h;cases h),(λ_=>by rw[uZ.out];simp only[bf];omega)⟩,ST.ev⟩):U:=h
theorem azv(h:U:=by have U2:¬(c.toNat=92):=ae;unfold sxTextGo at jX;simp[hp,Jw,U2]at jX;have uZ:=zq jX;clear jX;exact aAo):U:=h
theorem aAq(h:U:=by
 (try simp only[Exit.inBlock,Exit.then]);refine ayr (jk rfl _ _ _) rfl ?_
 exact⟨_,_,_,by rw[PQ.out];rfl,⟨(λh=>by rw[PQ.out]at h;cases h),(λ_=>by rw[PQ.out];simp only[bf];omega)⟩,ST.ev⟩):U:=h
theorem azg(h:U:=by
 rw[RG]at yG;rw[Ot RG]at HX;have HX:=zq HX;have PQ:=zq yG;clear yG uZ HA HB hx ex
 go_wp2_with (first|((with_reducible refine(HX.out _).mono ?_);rintro e w1 ⟨rfl,rfl⟩))
 exact aAq):U:=h
theorem az2(h:U:=by have PQ:=zq yG;clear yG uZ HA HB;go_wp2;exact aAq):U:=h
theorem aey(s:ByteArray)(w:ak)(hs:s.size<=100000)(i0:Nat)(hi:i0<s.size):
  Calls ax 121 #[.string s,↑i0] w λe w'=>
   ∃(sb:ByteArray) (en wh:Int),e=.returned (.tuple #[.string sb,↑en,.int .i64 (sxTextGo [] (s.data.toList.drop (i0+1)) 1).why,↑wh])/\
    ajO (sxTextGo [] (s.data.toList.drop (i0+1)) 1) i0 sb en wh/\Ev w w':=by
 have jg:s.data.toList.length=s.size:=by rw[aw8];rfl
 obtain⟨Y,hY⟩:∃Y,Y=sxTextGo [] (s.data.toList.drop (i0+1)) 1:=⟨_,rfl⟩
 rw[<-hY];have HY:=zq hY;have HL:=zq jg;have HH:=zq ahf;clear hY jg;go_enter func121,ntmps121;go_wp2
 go_loopw [8,9] (λov iv wr=>∃(b:By) (A:Option Addr) (n cap j:Nat),ov=.slice A n cap/\iv=↑j/\i0+1<=j/\j<=s.size/\n<=j/\Cb w A n cap b wr/\Hid (Y=sxTextGo b (s.data.toList.drop j) (j-i0))) (λ_ iv _=>s.size-(intOf iv).toNat)
 case atStart=>exact⟨[],_,0,0,i0+1,rfl,by go_num,awC _,hi,ae,Cb.init w,zq (by rw[show i0+1-i0=1 by omega];exact HY.out)⟩
 case round=>
  obtain⟨b,A,n,cap,j,rfl,rfl,hj0,hj,hnj,ST,HG⟩:=hrel;by_cases hlt:j<s.size
  ·have hat:=sK s j hlt;obtain⟨c,hc⟩:∃c,s[j]=c:=⟨_,rfl⟩
   have abf:∀hh,s[j]'hh=c:=λ_=>hc;rw[hc]at hat;have hdr:=lN hat;have g0:(0:Int)<=(j:Int):=ae;have g1:(j:Int)<(s.size:Int):=ae;have g2:¬((s.size:Int)<=(j:Int)):=ae;have qX:=zq ST.len;have jX:=HG.out;rw[hdr]at jX;clear hc HG hdr;by_cases Jw:c.toNat=34
   ·have e34:(c.toNat:Int)=34:=ae;have hp:dD c=false:=by unfold dD;rw[Jw];rfl
    unfold sxTextGo at jX;simp[hp,Jw,qX.out]at jX;by_cases Iq:40<n
    ·rw[if_pos Iq]at jX;have uZ:=zq jX;have e40:(40:Int)<(n:Int):=ae;clear jX;go_wp2
     (try simp only[Exit.inBlock,Exit.then]);refine ayr (jk rfl _ _ _) rfl ?_
     exact⟨_,_,_,by rw[uZ.out];rfl,⟨(λh=>by rw[uZ.out]at h;cases h),(λ_=>by rw[uZ.out];rfl)⟩,ST.ev⟩
    rw[if_neg Iq]at jX;have uZ:=zq jX;have e40:¬((40:Int)<(n:Int)):=ae;obtain⟨YN,xU,hv,hbs,_,_⟩:=ST.row.bs;rw[qX.out]at hv hbs;injection hv with Jy hv2 hv3
    subst Jy hv3;have hcv:=hbs.str 93 9 5 underlying93 underlying5 underlying9;clear jX hv2;go_wp2
    (try simp only[Exit.inBlock,Exit.then]);refine ayr (jk rfl _ _ _) rfl ?_
    have hsz:((i0+(j-i0+1):Nat):Int)=(j:Int)+1:=ae;exact⟨_,_,_,by rw[uZ.out];rfl,⟨(λ_=>by rw[uZ.out];exact⟨rfl,hsz.symm⟩),(λh=>by rw[uZ.out]at h;exact absurd rfl h)⟩,ST.ev⟩
   have e34:¬((c.toNat:Int)=34):=ae;have ajP:((c.toNat:Int)==34)=false:=awy.2 e34;by_cases h32:c.toNat<32;have e32:(c.toNat:Int)<32:=ae;have hp:dD c=false:=by unfold dD;rw[axf (show ¬32<=c.toNat by omega)];rfl
   exact azv;have e32:¬((c.toNat:Int)<32):=ae;by_cases asK:126<c.toNat;have e126:(126:Int)<(c.toNat:Int):=ae;have hp:dD c=false:=by unfold dD;rw[axf (show ¬c.toNat<=126 by omega)];simp
   exact azv;have e126:¬((126:Int)<(c.toNat:Int)):=ae;by_cases U2:c.toNat=92
   ·have e92:(c.toNat:Int)=92:=ae;have uZ:=zq jX;clear jX;go_wp2
    go_loop [11] (λkv=>∃k:Nat,kv=↑k/\1<=k/\k<=3/\Hid (2<=k->∃x a,s.data.toList[j+1]?=some x/\iG x=some a)/\Hid (3<=k->∃x a,s.data.toList[j+2]?=some x/\iG x=some a)) (λkv=>3-(intOf kv).toNat)
    case atStart=>exact⟨1,rfl,awC _,ae,zq λh=>absurd h ae,zq λh=>absurd h ae⟩
    case round=>
     obtain⟨k,rfl,um,hk3,HA,HB⟩:=hrel;have hpl:dD c=false:=by unfold dD;rw[U2];rfl
     by_cases k3:k=3
     ·subst k3;obtain⟨x,ha,hx,RG⟩:=HA.out ae;obtain⟨y,hb,hy,hyb⟩:=HB.out ae;have yG:=uZ.out;rw[lN hx,lN hy,Y2 b c x y _ _ ha hb U2 RG hyb]at yG;obtain⟨YY,ex⟩:=awz.1 hx;obtain⟨hj2,ey⟩:=awz.1 hy;rw[HL.out]at YY hj2;have hx1:∀hh,s[j+1]'hh=x:=λ_=>ex;have hy1:∀hh,s[j+2]'hh=y:=λ_=>ey;have q1:(0:Int)<=(j:Int)+1:=ae;have q2:(j:Int)+1<(s.size:Int):=ae;have q3:(0:Int)<=(j:Int)+2:=ae;have q4:(j:Int)+2<(s.size:Int):=ae;have t1:((j:Int)+1).toNat=j+1:=ae;have t2:((j:Int)+2).toNat=j+2:=ae;have z1:IntKind.i64.wrap ((j:Int)+1)=(j:Int)+1:=ayu _ ae;have z2:IntKind.i64.wrap ((j:Int)+2)=(j:Int)+2:=ayu _ ae;have hha:=Jv RG;have hhb:=Jv hyb;have HX:=HH.out x;have HY2:=HH.out y;rw[Be RG]at HX;rw[Be hyb]at HY2;have HX:=zq HX;have HY2:=zq HY2;have hbyte:=aex hha hhb;have z3:IntKind.i64.wrap (16*(ha:Int))=16*(ha:Int):=ayu _ ae;have z4:IntKind.i64.wrap (16*(ha:Int)+(hb:Int))=16*(ha:Int)+(hb:Int):=ayu _ ae;have PQ:=zq yG;generalize hN:UInt8.ofNat (16*ha+hb)=N16 at*;have HBS:=zq (λw1:ak=>yN w1 N16);have HST:=zq ST;clear yG uZ HA HB hx hy ex ey RG hyb hN hha hhb;go_wp2
      go_region_law (first
       | (refine Ou rfl 160 #[.tmp 73] #[5] rfl ah #[.int .u8 (x.toNat:Int)] (by simp only[axF,awI,awY];rfl) _ (HX.out _) ?_)
       | (refine Ou rfl 160 #[.tmp 79] #[5] rfl ah #[.int .u8 (y.toNat:Int)] (by simp only[axF,awI,awY];rfl) _ (HY2.out _) ?_)
       | (refine Gg rfl (.tmp 69) (.tmp 83) rfl underlying93 Tryz.FU (.slice A n cap) b rfl (HST.out.row.ev ((Ev.drew wr).trans (Ev.alloc wr.drew _))) ↑wr 1 1 [N16] rfl (HBS.out wr.drew) (by rw[qX.out];simp;omega) ?_;intro v2 w5 hr2 hb2 hs2;obtain⟨A2,n2,cap2,rfl,ST2⟩:=(HST.out.evs ((Ev.drew wr).trans (Ev.alloc wr.drew _))).step hr2 hb2 hs2))
      all_goals (
       go_wp2
       go_round
       case rel=>exact⟨b++[N16],A2,n2,cap2,j+3,rfl,by go_num,ae,ae,by rw[<-ST2.len,awE,qX.out];simp;omega,ST2,zq (by rw[show j+3-i0=j-i0+3 by omega];exact PQ.out)⟩
       case measure=>simp[intOf];omega)
     obtain rfl|rfl:k=1∨k=2:=ae
     ·skip
      have kz:IntKind.i64.wrap ((j:Int)+1)=(j:Int)+1:=ayu _ ae;have yG:=uZ.out;by_cases hk:j+1<s.size
      ·have hx:=sK s (j+1) hk;obtain⟨x,ex⟩:∃x,s[j+1]=x:=⟨_,rfl⟩
       have hx1:∀hh,s[j+1]'hh=x:=λ_=>ex;rw[ex]at hx;rw[lN hx]at yG;unfold sxTextGo at yG;simp[hpl,U2]at yG;have q1:(0:Int)<=(j:Int)+1:=ae;have q2:(j:Int)+1<(s.size:Int):=ae;have q3:¬((s.size:Int)<=(j:Int)+1):=ae;have t1:((j:Int)+1).toNat=j+1:=ae;have HX:=HH.out x
       cases RG:iG x with
       | none=>
        exact azg
       | some a=>
        rw[Be RG]at HX;have HX:=zq HX;have q4:¬((a:Int)<0):=ae;have q5:(0:Int)<=(a:Int):=ae;have HAx:Hid (∃x a,s.data.toList[j+1]?=some x/\iG x=some a):=zq ⟨x,a,hx,RG⟩;clear yG hx ex
        go_wp2_with (first|((with_reducible refine(HX.out _).mono ?_);rintro e w1 ⟨rfl,rfl⟩))
        go_round
        case rel=>exact⟨2,rfl,ae,ae,zq λ_=>HAx.out,zq λh=>absurd h ae⟩
        case measure=>simp[intOf]
      have q3:(s.size:Int)<=(j:Int)+1:=ae;rw[axm (by rw[HL.out];omega)]at yG;unfold sxTextGo at yG;simp[hpl,U2]at yG;exact az2
     skip
     have kz:IntKind.i64.wrap ((j:Int)+2)=(j:Int)+2:=ayu _ ae;obtain⟨x0,ha0,hx0,ajQ⟩:=HA.out ae;have yG:=uZ.out;rw[lN hx0]at yG;have YY:=(awz.1 hx0).1;rw[HL.out]at YY;by_cases hk:j+2<s.size
     ·have hx:=sK s (j+2) hk;obtain⟨x,ex⟩:∃x,s[j+2]=x:=⟨_,rfl⟩
      have hx1:∀hh,s[j+2]'hh=x:=λ_=>ex;rw[ex]at hx;rw[lN hx]at yG;unfold sxTextGo at yG;simp[hpl,U2,ajQ]at yG;have q1:(0:Int)<=(j:Int)+2:=ae;have q2:(j:Int)+2<(s.size:Int):=ae;have q3:¬((s.size:Int)<=(j:Int)+2):=ae;have t1:((j:Int)+2).toNat=j+2:=ae;have HX:=HH.out x
      cases RG:iG x with
      | none=>
       exact azg
      | some a=>
       rw[Be RG]at HX;have HX:=zq HX;have q4:¬((a:Int)<0):=ae;have q5:(0:Int)<=(a:Int):=ae;have HAx:Hid (∃x a,s.data.toList[j+2]?=some x/\iG x=some a):=zq ⟨x,a,hx,RG⟩;clear yG hx ex
       go_wp2_with (first|((with_reducible refine(HX.out _).mono ?_);rintro e w1 ⟨rfl,rfl⟩))
       go_round
       case rel=>exact⟨3,rfl,ae,ae,zq λ_=>HA.out ae,zq λ_=>HAx.out⟩
       case measure=>simp[intOf]
     have q3:(s.size:Int)<=(j:Int)+2:=ae;rw[axm (by rw[HL.out];omega)]at yG;unfold sxTextGo at yG;simp[hpl,U2,ajQ]at yG;exact az2
   have e92:¬((c.toNat:Int)=92):=ae;have asL:((c.toNat:Int)==92)=false:=awy.2 e92;have hp:dD c=true:=by unfold dD;simp;omega
   unfold sxTextGo at jX;simp[hp]at jX;have uZ:=zq jX;have HBS:=zq (yN wr c);clear jX
   go_wp2_with (first
    | ((show wpList _ _ _ (⟨some 46,_,_,_,_,_⟩::_) _ _);refine p_ (o:=⟨some 46,_,_,_,_,_⟩) rfl (.tmp 43) (.tmp 45) rfl underlying93 Tryz.FU (.slice A n cap) b rfl (ST.row.ev aB) ↑wr 1 1 [c] rfl HBS.out (by rw[qX.out];simp;omega) ?_;intro v2 w5 hr2 hb2 hs2;obtain⟨A2,n2,cap2,rfl,ST2⟩:=(ST.evs aB).step hr2 hb2 hs2))
   go_round
   case rel=>exact⟨b++[c],A2,n2,cap2,j+1,rfl,by go_num,ae,ae,by rw[<-ST2.len,awE,qX.out];simp;omega,ST2,zq (by rw[show j+1-i0=j-i0+1 by omega];exact uZ.out)⟩
   case measure=>simp[intOf];omega
  have YU:j=s.size:=ae;have jX:=HG.out;rw[axm (by rw[HL.out];omega)]at jX;unfold sxTextGo at jX;have uZ:=zq jX;have g2:(s.size:Int)<=(j:Int):=ae;clear jX HG;exact aAo
structure Bx(T:TypeId)(g:Nat)(cs:Array au)(w:ak):Prop where
 blk:w.heap[g]?=some (.cells cs T (0,0))
theorem Bx.but{K:List Nat}{T:TypeId}{g:Nat}{cs:Array au}{w w':ak}(h:Bx T g cs w)(hb:But K w w')(hn:g∉K):Bx T g cs w':=⟨hb.heap h.blk hn⟩
theorem Bx.ev{T:TypeId}{g:Nat}{cs:Array au}{w w':ak}(h:Bx T g cs w)(hE:Ev w w'):Bx T g cs w':=h.but (But.aW (K:=[]) hE) aj
theorem Bx.lt{T:TypeId}{g:Nat}{cs:Array au}{w:ak}(h:Bx T g cs w):g<w.heap.size:=(awQ.1 h.blk).1
theorem Bx.cell{T:TypeId}{g:Nat}{cs:Array au}{w:ak}(h:Bx T g cs w)(i:Nat):w.cell? ⟨g,i,none⟩=cs[i]?:=by rw[ays h.blk]
theorem Bx.frozen{T:TypeId}{g:Nat}{cs:Array au}{w:ak}(h:Bx T g cs w)(i:Nat):w.frozen? ⟨g,i,none⟩=false:=ayt h.blk i
theorem Bx.set{T:TypeId}{g:Nat}{cs:Array au}{w:ak}(h:Bx T g cs w)(i:Nat)(v:au):Bx T g (cs.setIfInBounds i v) (w.setCell ⟨g,i,none⟩ v):=⟨G9 i v h.blk⟩
theorem Bx.new(T:TypeId)(cs:Array au)(w:ak):Bx T w.heap.size cs (w.alloc (.cells cs T)):=⟨ayq w _⟩
theorem Bx.five{T:TypeId}{g:Nat}{w:ak}{v0 v1 v2 v3 v4:au}(h:Bx T g #[v0,v1,v2,v3,v4] w):(w.cell? ⟨g,0,none⟩=some v0/\w.cell? ⟨g,1,none⟩=some v1/\w.cell? ⟨g,2,none⟩=some v2/\w.cell? ⟨g,3,none⟩=some v3/\w.cell? ⟨g,4,none⟩=some v4)/\
  (w.frozen? ⟨g,0,none⟩=false/\w.frozen? ⟨g,1,none⟩=false/\w.frozen? ⟨g,2,none⟩=false/\w.frozen? ⟨g,3,none⟩=false/\w.frozen? ⟨g,4,none⟩=false):=
 ⟨⟨h.cell 0,h.cell 1,h.cell 2,h.cell 3,h.cell 4⟩,h.frozen 0,h.frozen 1,h.frozen 2,h.frozen 3,h.frozen 4⟩
theorem Bx.four{T:TypeId}{g:Nat}{w:ak}{v0 v1 v2 v3:au}(h:Bx T g #[v0,v1,v2,v3] w):(w.cell? ⟨g,0,none⟩=some v0/\w.cell? ⟨g,1,none⟩=some v1/\w.cell? ⟨g,2,none⟩=some v2/\w.cell? ⟨g,3,none⟩=some v3)/\
  (w.frozen? ⟨g,0,none⟩=false/\w.frozen? ⟨g,1,none⟩=false/\w.frozen? ⟨g,2,none⟩=false/\w.frozen? ⟨g,3,none⟩=false):=
 ⟨⟨h.cell 0,h.cell 1,h.cell 2,h.cell 3⟩,h.frozen 0,h.frozen 1,h.frozen 2,h.frozen 3⟩
def kP(g:Nat)(v0 v1 v2 v3:au)(w:ak):ak:=(((w.setCell ⟨g,0,none⟩ v0).setCell ⟨g,1,none⟩ v1).setCell ⟨g,2,none⟩ v2).setCell ⟨g,3,none⟩ v3
def kQ(g:Nat)(v0 v1 v2 v3 v4:au)(w:ak):ak:=(kP g v0 v1 v2 v3 w).setCell ⟨g,4,none⟩ v4
theorem dE(g:Nat)(v0 v1 v2 v3 v4:au)(w:ak):((((w.setCell ⟨g,0,none⟩ v0).setCell ⟨g,1,none⟩ v1).setCell ⟨g,2,none⟩ v2).setCell ⟨g,3,none⟩ v3).setCell ⟨g,4,none⟩ v4=kQ g v0 v1 v2 v3 v4 w:=rfl
theorem dS(g:Nat)(v0 v1 v2 v3:au)(w:ak):(((w.setCell ⟨g,0,none⟩ v0).setCell ⟨g,1,none⟩ v1).setCell ⟨g,2,none⟩ v2).setCell ⟨g,3,none⟩ v3=kP g v0 v1 v2 v3 w:=rfl
theorem eY(g:Nat)(v0 v1 v2 v3:au)(w:ak):But [g] w (kP g v0 v1 v2 v3 w):=
 (((But.setCell ⟨g,0,none⟩ _ aj).then (But.setCell ⟨g,1,none⟩ _ aj)).then (But.setCell ⟨g,2,none⟩ _ aj)).then (But.setCell ⟨g,3,none⟩ _ aj)
theorem bU(g:Nat)(v0 v1 v2 v3 v4:au)(w:ak):But [g] w (kQ g v0 v1 v2 v3 v4 w):=(eY g v0 v1 v2 v3 w).then (But.setCell ⟨g,4,none⟩ _ aj)
theorem Bx.kP{T:TypeId}{g:Nat}{w:ak}{u0 u1 u2 u3:au}(h:Bx T g #[u0,u1,u2,u3] w)(v0 v1 v2 v3:au):Bx T g #[v0,v1,v2,v3] (kP g v0 v1 v2 v3 w):=by have:=(((h.set 0 v0).set 1 v1).set 2 v2).set 3 v3;rw[show (((((#[u0,u1,u2,u3]:Array au).setIfInBounds 0 v0).setIfInBounds 1 v1).setIfInBounds 2 v2).setIfInBounds 3 v3)=#[v0,v1,v2,v3] by simp]at this;exact this
theorem Bx.kQ{T:TypeId}{g:Nat}{w:ak}{u0 u1 u2 u3 u4:au}(h:Bx T g #[u0,u1,u2,u3,u4] w)(v0 v1 v2 v3 v4:au):Bx T g #[v0,v1,v2,v3,v4] (kQ g v0 v1 v2 v3 v4 w):=by have:=((((h.set 0 v0).set 1 v1).set 2 v2).set 3 v3).set 4 v4;rw[show ((((((#[u0,u1,u2,u3,u4]:Array au).setIfInBounds 0 v0).setIfInBounds 1 v1).setIfInBounds 2 v2).setIfInBounds 3 v3).setIfInBounds 4 v4)=#[v0,v1,v2,v3,v4] by simp]at this;exact this
theorem Ev.box{w w1 w2:ak}{g:Nat}(h:Ev w w1)(hb:But [g] w1 w2)(hg:w.heap.size<=g):Ev w w2:=
 ((But.aW (K:=[g]) h).then hb).ev λk hk=>by simp at hk;omega
theorem aT{P:Program}{fn:Func}{p:Tmp}{ty:TypeId}(h:fn.results=#[.cell p ty])(tmps:Array au)(w:ak)(g:Nat)(cs:Array au)(d:TypeDesc)
  (hp:tmps.getD p undef=.pointer ↑g) (hg:Bx ty g cs w)
  (hu:P.underlying ty=some d) (hd:(match d with|.struct _|.array _ _=>true|_=>false)=true) (hi:(P.info? ty).map (·.size)=some cs.size):
  (results fn tmps).run P w=.ok (.agg cs) w:=by
 have hp':tmps[p]?.getD undef=.pointer ↑g:=by simpa using hp
 simp[results,h,hp',asAddr,run_loadVar_row w g ty ty cs (0,0) d hg.blk hu hd hi]
theorem oP{P:Program}{fn:Func}{p u1 u2 u3:Tmp}{ty:TypeId}(h:fn.results=#[.cell p ty,.tmp u1,.tmp u2,.tmp u3])(tmps:Array au)(w:ak)(g:Nat)(cs:Array au)(d:TypeDesc)
  (hp:tmps.getD p undef=.pointer ↑g) (hg:Bx ty g cs w)
  (hu:P.underlying ty=some d) (hd:(match d with|.struct _|.array _ _=>true|_=>false)=true) (hi:(P.info? ty).map (·.size)=some cs.size):
  (results fn tmps).run P w=.ok (.tuple #[.agg cs,tmps.getD u1 undef,tmps.getD u2 undef,tmps.getD u3 undef]) w:=by
 have hp':tmps[p]?.getD undef=.pointer ↑g:=by simpa using hp
 simp[results,h,hp',asAddr,run_loadVar_row w g ty ty cs (0,0) d hg.blk hu hd hi]
theorem aI{P:Program}{fn:Func}{p u1 u2:Tmp}{ty:TypeId}(h:fn.results=#[.cell p ty,.tmp u1,.tmp u2])(tmps:Array au)(w:ak)(g:Nat)(cs:Array au)(d:TypeDesc)
  (hp:tmps.getD p undef=.pointer ↑g) (hg:Bx ty g cs w)
  (hu:P.underlying ty=some d) (hd:(match d with|.struct _|.array _ _=>true|_=>false)=true) (hi:(P.info? ty).map (·.size)=some cs.size):
  (results fn tmps).run P w=.ok (.tuple #[.agg cs,tmps.getD u1 undef,tmps.getD u2 undef]) w:=
 BX h tmps w g ty cs (0,0) d hp hg.blk hu hd hi
theorem Tryz.jc:(Tryz.prog.info? 79).map (·.size)=some 5:=ah
theorem JL:∀(N:Nat) (r b:By) (i:Nat),r.length<=N->(sxTextGo b r i).n=0:=by
 intro N
 induction N with
 | zero=>
  intro r b i h;have:r=[]:=axu ae;subst this;rfl
 | succ N ih=>
  intro r b i h
  cases r with
  | nil=>rfl
  | cons c q=>
   simp at h;unfold sxTextGo;split;exact ih q _ _ h;split;split;rfl;rename_i x q1;simp at h;split;rfl;split;rfl;rename_i y q2;simp at h;split;rfl;exact ih q2 _ _ ae;split
   ·split<;>rfl
   rfl
theorem C9(plus:Bool)(d:By):((sxNum plus d).why=0->(sxNum plus d).kind=3/\(sxNum plus d).s=[])/\((sxNum plus d).why≠0->(sxNum plus d).why=12/\(sxNum plus d).fault=0):=by unfold sxNum;split;exact⟨(λh=>by cases h),(λ_=>⟨rfl,rfl⟩)⟩;split;exact⟨(λh=>by cases h),(λ_=>⟨rfl,rfl⟩)⟩;split;exact⟨λ_=>⟨rfl,rfl⟩,λh=>absurd rfl h⟩;exact⟨λ_=>⟨rfl,rfl⟩,λh=>absurd rfl h⟩
theorem Cc(l:By):((dW l).why=0->(dW l).kind=3/\(dW l).s=[])/\((dW l).why≠0->(dW l).why=12/\(dW l).fault=0):=by unfold dW;split;exact C9 _ _;split;exact C9 _ _;exact C9 _ _
theorem Nj(l:By):(dW l).why=0->(dW l).kind=3/\(dW l).s=[]:=(Cc l).1
theorem PU(l:By):(dW l).why≠0->(dW l).why=12/\(dW l).fault=0:=(Cc l).2
def aez(X:Tk)(i:Nat)(w:ak)(e:Ending)(w':ak):Prop:=
 ∃(k n p en wh:Int) (sb:ByteArray),e=.returned (.tuple #[.agg #[↑k,.string sb,↑n,↑(),↑p],↑en,↑X.why,↑wh])/\
  (X.why=0->k=X.kind/\sb=⟨X.s.toArray⟩/\n=X.n/\p=(i:Int)/\en=((i+X.size:Nat):Int))/\(X.why≠0->wh=((i+X.fault:Nat):Int))/\Ev w w'
theorem azl(h:U:=by(try simp only[Exit.inBlock,Exit.then]);rw[dE];refine ayr (oP rfl _ _ _ _ _ rfl (HB.out.kQ _ _ _ _ _) underlying79 rfl Tryz.jc) rfl ?_;exact⟨_,_,_,_,_,_,(by rw[HX.out];rfl),(λ_=>by rw[HX.out];exact⟨rfl,qK.out HJQ.out,rfl,rfl,HXE.out HJQ.out⟩),(λh=>absurd (by rw[HX.out]) h),HE.out.box (bU _ _ _ _ _ _ _) (awC _)⟩):U:=h
theorem aeA(s:ByteArray)(w:ak)(hs:s.size<=100000)(i:Nat)(hi:i<s.size)(c:UInt8)(hc0:s.data.toList[i]?=some c)(hk:c.toNat=34∨c.toNat=45∨bG c=true∨bg c=true):
  Calls ax 77 #[.string s,↑i] w (aez (bW (s.data.toList.drop i)) i w):=by
 have jg:s.data.toList.length=s.size:=by rw[aw8];rfl
 have HL:=zq jg;have hidx:∀hh,s[i]'hh=c:=λhh=>by have:=sK s i hh;rw[this]at hc0;exact axd hc0
 have g0:(0:Int)<=(i:Int):=ae;have g1:(i:Int)<(s.size:Int):=ae;have hdr:=lN hc0;obtain⟨X,hX⟩:∃X,X=bW (s.data.toList.drop i):=⟨_,rfl⟩
 rw[<-hX];have hB:=Bx.new 79 ↑Zz.a w;have hE:=Ev.alloc w (.cells ↑Zz.a 79);obtain⟨w0,hw0⟩:∃w0,w.alloc (.cells ↑Zz.a 79)=w0:=⟨_,rfl⟩
 rw[hw0]at hB hE;have HB:=zq hB;have HE:=zq hE;clear hB hE;by_cases Jw:c.toNat=34
 ·have e34:(c.toNat:Int)=34:=ae;have HT:=zq (λw1:ak=>aey s w1 hs i hi);rw[hdr]at hX;simp[bW,Jw]at hX;have hp:=lL _ (s.data.toList.drop (i+1)) [] 1 (awC _);have hn:=JL _ (s.data.toList.drop (i+1)) [] 1 (awC _);rw[<-hX]at hp hn HT;have HP:=zq hp;have HN:=zq hn;clear hX hdr hc0 hp hn;go_enter func77,ntmps77
  go_wp2_with (first|((with_reducible refine(HT.out _).mono ?_);rintro e w1 ⟨sb,en,wh,rfl,HO,aN⟩;have B1:=HB.out.ev aN;have E1:=HE.out.trans aN;obtain⟨⟨c0,c1,c2,c3,c4⟩,f0,f1,f2,f3,f4⟩:=B1.five))
  (try simp only[Exit.inBlock,Exit.then]);rw[dE];refine ayr (oP rfl _ _ _ _ _ rfl (B1.kQ _ _ _ _ _) underlying79 rfl Tryz.jc) rfl ?_;exact⟨_,_,_,_,_,_,rfl,λh=>⟨((HP.out.2 h).1).symm,(HO.ok h).1,HN.out.symm,rfl,(HO.ok h).2⟩,HO.bad,E1.box (bU _ _ _ _ _ _ _) (awC _)⟩
 have e34:¬((c.toNat:Int)=34):=ae;have ajP:((c.toNat:Int)==34)=false:=awy.2 e34;have sH:=zq F_;have HC:=F_ c
 cases hlc:bG c with
 | true=>
  rw[hlc]at HC;have HC:=zq HC;have ajR:=hlc;unfold bG at ajR;simp at ajR;have hnd:bg c=false:=by unfold bg;simp;omega
  rw[hdr]at hX;simp only[bW,hlc,hnd,show (c.toNat==40)=false by simp;omega,show (c.toNat==41)=false by simp;omega,show (c.toNat==34)=false by simp;omega,show (c.toNat==45)=false by simp;omega]at hX;simp at hX;rw[<-hdr]at hX;have hrl:=jW bG (s.data.toList.drop i);rw[aw',jg]at hrl;obtain⟨q,hq⟩:∃q,q=sxRun bG (s.data.toList.drop i):=⟨_,rfl⟩
  rw[<-hq]at hX hrl;have HX:=zq hX;have HQ:=zq hq;clear hX hdr hc0 hq jg;go_enter func77,ntmps77
  go_wp2_with (first|((with_reducible refine(HC.out _).mono ?_);rintro e w1 ⟨rfl,rfl⟩))
  go_loop [12] (λiv=>∃j:Nat,iv=↑j/\i<=j/\j<=s.size/\Hid (sxRun bG (s.data.toList.drop j)+(j-i)=q)) (λiv=>s.size-(intOf iv).toNat)
  case atStart=>exact⟨i,rfl,awC _,ae,zq (by rw[HQ.out];omega)⟩
  case round=>
   obtain⟨j,rfl,hj0,YY,HJ⟩:=hrel;obtain⟨⟨c0,c1,c2,c3,c4⟩,f0,f1,f2,f3,f4⟩:=HB.out.five;have D5:(0:Int)<=(i:Int):=ae;have CV:(i:Int)<=(j:Int):=ae;have YU:(j:Int)<=(s.size:Int):=ae;have qK:Hid (j-i=q->(s.extract i j)=⟨((s.data.toList.drop i).take q).toArray⟩):=zq λh=>by apply ByteArray.ext;apply Array.toList_inj.1;rw[Lib.extract_eq,h]
   have HXE:Hid (j-i=q->(j:Int)=((i+q:Nat):Int)):=zq (λh=>by omega);by_cases hlt:j<s.size
   ·have hat:=sK s j hlt;obtain⟨x,ex⟩:∃x,s[j]=x:=⟨_,rfl⟩
    have hx1:∀hh,s[j]'hh=x:=λ_=>ex;rw[ex]at hat;have hst:=nI bG s.data.toList j x hat;have q0:(0:Int)<=(j:Int):=ae;have q1:(j:Int)<(s.size:Int):=ae;have pX:=sH.out x
    cases iH:bG x with
    | true=>
     rw[iH]at pX hst;simp only[aw4]at hst;have pX:=zq pX;have HJ2:Hid (sxRun bG (s.data.toList.drop (j+1))+(j+1-i)=q):=zq (by have:=HJ.out;omega);clear hst hat ex
     go_wp2_with (first|((with_reducible refine(pX.out _).mono ?_);rintro e w1 ⟨rfl,rfl⟩))
     go_round
     case rel=>exact⟨j+1,by go_num,ae,ae,HJ2⟩
     case measure=>simp[intOf];omega
    | false=>
     rw[iH]at pX hst;simp only[awP,aw7]at hst;have pX:=zq pX;have hjq:j-i=q:=by have:=HJ.out;omega
     have HJQ:=zq hjq;clear hst hat ex hjq
     go_wp2_with (first|((with_reducible refine(pX.out _).mono ?_);rintro e w1 ⟨rfl,rfl⟩))
     exact azl
   have q1:¬((j:Int)<(s.size:Int)):=ae;have hjq:j-i=q:=by have:=HJ.out;rw[axm (by rw[HL.out];omega)]at this;simp[sxRun]at this;exact this
   have HJQ:=zq hjq;clear hjq;go_wp2;exact azl
 | false=>
  rw[hlc]at HC;have HC:=zq HC;have hk2:c.toNat=45∨bg c=true:=by rcases hk with h|h|h|h;exact absurd h Jw;exact .inl h;rw[hlc]at h;cases h;exact .inr h
  have XG:X=dW (s.data.toList.drop i):=by
   rw[hX,hdr];have h4:(c.toNat==40)=false/\(c.toNat==41)=false:=by rcases hk2 with h|h;simp[h];unfold bg at h;simp at h;simp;omega
   have h5:(c.toNat==45||bg c)=true:=by simp;exact hk2
   simp only[bW,h4.1,h4.2,h5,show (c.toNat==34)=false by simp;omega];simp
  have HN:=λw1=>YZ s w1 hs i c hi hc0;rw[<-XG]at HN;have HN:=zq HN;have HX3:Hid (X.why=0->X.kind=3/\X.s=[]):=zq (by rw[XG];exact Nj _);have HX4:Hid (X.why≠0->X.why=12/\X.fault=0):=zq (by rw[XG];exact PU _);obtain⟨wy,hwy⟩:∃wy,wy=X.why:=⟨_,rfl⟩
  rw[<-hwy]at HN;clear hX XG hdr hc0;by_cases hw:wy=0
  ·have Nk:(wy==0)=true:=by rw[hw];rfl
   rw[Nk]at HN;subst hw;have HW:=zq hwy;clear hwy Nk;go_enter func77,ntmps77
   go_wp2_with (first
    | ((with_reducible refine(HC.out _).mono ?_);rintro e w1 ⟨rfl,rfl⟩)
    | ((with_reducible refine(HN.out _).mono ?_);rintro e w1 ⟨j,rfl,hj,aN⟩;have HJ:=zq (hj aj);clear hj;have B1:=HB.out.ev aN;have E1:=HE.out.trans aN;obtain⟨⟨c0,c1,c2,c3,c4⟩,f0,f1,f2,f3,f4⟩:=B1.five))
   (try simp only[Exit.inBlock,Exit.then]);rw[dE];refine ayr (oP rfl _ _ _ _ _ rfl (B1.kQ _ _ _ _ _) underlying79 rfl Tryz.jc) rfl ?_;exact⟨_,_,_,_,_,_,by rw[<-HW.out];rfl,(λh=>⟨((HX3.out h).1).symm,(by rw[(HX3.out h).2]),rfl,rfl,(by rw[HJ.out])⟩),(λh=>absurd HW.out.symm h),E1.box (bU _ _ _ _ _ _ _) (awC _)⟩
  have Nk:(wy==0)=false:=awy.2 hw;rw[Nk]at HN;have HW:=zq hwy;have HW2:=zq hw;clear hwy Nk hw;go_enter func77,ntmps77
  go_wp2_with (first
   | ((with_reducible refine(HC.out _).mono ?_);rintro e w1 ⟨rfl,rfl⟩)
   | ((with_reducible refine(HN.out _).mono ?_);rintro e w1 ⟨j,rfl,hj,aN⟩;clear hj;have B1:=HB.out.ev aN;have E1:=HE.out.trans aN;obtain⟨⟨c0,c1,c2,c3,c4⟩,f0,f1,f2,f3,f4⟩:=B1.five))
  (try simp only[Exit.inBlock,Exit.then]);rw[dE];refine ayr (oP rfl _ _ _ _ _ rfl (B1.kQ _ _ _ _ _) underlying79 rfl Tryz.jc) rfl ?_;exact⟨_,_,_,_,_,_,by rw[(HX4.out (by rw[<-HW.out];exact HW2.out)).1];rfl,(λh=>absurd (HW.out.trans h) HW2.out),(λh=>by rw[(HX4.out h).2];rfl),E1.box (bU _ _ _ _ _ _ _) (awC _)⟩
def yQ:By:=[97,100,100]
def yR:By:=[115,117,98]
def yS:By:=[109,117,108]
def PV:By:=[101,113]
def PW:By:=[108,116]
def yT:By:=[97,110,100]
def PY:By:=[111,114]
def yU:By:=[99,97,116]
def yV:By:=[110,101,103]
def yX:By:=[110,111,116]
def yY:By:=[108,101,110]
def JP:By:=[105,102]
def P5(s:By):Bool:=s==yQ||s==yR||s==yS||s==PV||s==PW||s==yT||s==PY||s==yU
def P6(s:By):Bool:=s==yV||s==yX||s==yY
def bQ(s:By):Nat:=if P5 s then 2 else if P6 s then 1 else if s==JP then 3 else 0
def aY(s:By):ByteArray:=⟨s.toArray⟩
abbrev jO(s:By):Bool:=f_ (aY s)
abbrev Ea:=T×Int×Nat
def kK(why:Int)(pos:Nat):Ea:=(eu,why,pos)
def xReads(s:By)(done:List T):List Ea->Ea
 | []=>(.mk 4 s 0 done 0,0,0)
 | r::l=>if r.2.1==0 then xReads s (done++[r.1]) l else (eu,r.2.1,r.2.2)
mutual
def xRead:T->Ea
 | .mk k s n l p=>
  if k==2 then (if jO s then (.mk 1 s 0 [] 0,0,0) else kK 20 p)
  else if k==3 then (.mk 2 [] n [] 0,0,0)
  else if k==4 then (.mk 3 s 0 [] 0,0,0)
  else if k==1 then
   (match l with
    | []=>kK 12 p
    | h::q=>if h.kind==2&&!(bQ h.s==0) then
      (if q.length==bQ h.s then xReads h.s [] (Eb q) else kK 23 p) else kK 12 p)
  else kK 12 p
def Eb:List T->List Ea
 | []=>[]
 | t::l=>xRead t::Eb l
end
def oQ(e:T):Bool:=
 if e.kind==1 then !jO e.s||!(e.n==0)||!e.kids.isEmpty
 else if e.kind==2 then !e.s.isEmpty||!e.kids.isEmpty
 else if e.kind==3 then !(e.n==0)||!e.kids.isEmpty
 else if e.kind==4 then bQ e.s==0||!(e.n==0)||!(e.kids.length==bQ e.s)
 else true
mutual
def dX:T->Bool
 | .mk k s n l p=>!oQ (.mk k s n l p)&&wR l
def wR:List T->Bool
 | []=>true
 | t::l=>dX t&&wR l
end
mutual
def T.size:T->Nat
 | .mk _ _ _ l _=>T.sizes l+1
def T.sizes:List T->Nat
 | []=>0
 | t::l=>t.size+T.sizes l
end
def lQ(ks:List Int)(k:Int):Bool:=ks.all (·==k)
def bJ(s:By)(ks:List Int):Int×Int:=
 if s==yQ||s==yR||s==yS||s==yV||s==yT||s==PY||s==yX then (if lQ ks 1 then (1,0) else (0,22))
 else if s==PV||s==PW then (if ks.getD 0 0==ks.getD 1 0 then (1,0) else (0,22))
 else if s==yU then (if lQ ks 2 then (2,0) else (0,22))
 else if s==yY then (if lQ ks 2 then (1,0) else (0,22))
 else if s==JP then (if ks.getD 0 0==1&&ks.getD 1 0==ks.getD 2 0 then (ks.getD 1 0,0) else (0,22))
 else (0,22)
def xKindsGo(s:By)(done:List Int):List (Int×Int)->Int×Int
 | []=>bJ s done
 | r::l=>if r.2==0 then xKindsGo s (done++[r.1]) l else (0,r.2)
mutual
def xKind(cols:List C):T->Int×Int
 | .mk k s n l p=>
  if k==1 then (match bZ cols (aY s) with|none=>(0,20)|some i=>((cols.getD i (⟨#[]⟩,0)).2,0))
  else if k==2 then (1,0)
  else if k==3 then (2,0)
  else xKindsGo s [] (P7 cols l)
def P7(cols:List C):List T->List (Int×Int)
 | []=>[]
 | t::l=>xKind cols t::P7 cols l
end
def xType(cols:List C)(e:T):Int×Int:=if dX e then xKind cols e else (0,22)
def v0:V:=(0,0,⟨#[]⟩)
def ec(m:M):List au:=[↑m.kind,↑m.s,↑m.n,m.kv]
def xZ(m:M):au:=.agg #[↑m.kind,↑m.s,↑m.n,m.kv]
abbrev Es:=Sl 4 ec
theorem x8:Enc 4 ec:=⟨ae,λ_=>rfl,λx u hu=>by
 simp[ec,M.kv]at hu;rcases hu with rfl|rfl|rfl|rfl<;>rfl⟩
inductive Lx(b0:Nat)(K:List Nat)(w:ak):M->Prop
 | mk {kind:Int} {s:By} {n:Int} {A:Option Addr} {cap:Nat} {kids:List M} {pos:Nat}:Es w A kids.length cap kids->(∀ad,A=some ad->b0<=ad.block/\ad.block<w.heap.size/\ad.block∉K)->(∀k∈kids,Lx b0 K w k)->
   Lx b0 K w (.mk kind s n A cap kids pos)
theorem Lx.es{b0:Nat}{K:List Nat}{w:ak}{m:M}(h:Lx b0 K w m):Es w m.A m.kids.length m.cap m.kids:=by
 cases h with
 | mk h1 h2 h3=>exact h1
theorem Lx.kid{b0:Nat}{K:List Nat}{w:ak}{m:M}(h:Lx b0 K w m):∀k∈m.kids,Lx b0 K w k:=by
 cases h with
 | mk h1 h2 h3=>exact h3
theorem Lx.move{b0:Nat}{K K':List Nat}{w w':ak}{m:M}(h:Lx b0 K w m)(hb:But K w w')(hs:∀x∈K',x∈K∨x<b0∨w.heap.size<=x):Lx b0 K' w' m:=by exact azA
theorem Lx.ev{b0:Nat}{K:List Nat}{w w':ak}{m:M}(h:Lx b0 K w m)(hE:Ev w w'):Lx b0 K w' m:=h.move (But.aW hE) λ_ hx=>.inl hx
theorem Lx.low{b0 b1:Nat}{K:List Nat}{w:ak}{m:M}(h:Lx b1 K w m)(hb:b0<=b1):Lx b0 K w m:=by exact aBN
theorem Lx.less{b0:Nat}{K K':List Nat}{w:ak}{m:M}(h:Lx b0 K w m)(hs:∀x∈K',x∈K∨x<b0∨w.heap.size<=x):Lx b0 K' w m:=h.move (But.refl _ _) hs
theorem Lx.leaf{b0:Nat}{K:List Nat}{w:ak}{k:Int}{s:By}{n:Int}{p:Nat}:Lx b0 K w (.mk k s n none 0 [] p):=.mk (Sl.nil_ w) (λ_ h=>by cases h) (λ_ h=>by cases h)
theorem Es.cell{w:ak}{A:Option Addr}{n cap:Nat}{l:List M}(h:Es w A n cap l){i:Nat}{x:M}(hx:l[i]?=some x):∃b off,A=some ⟨b,off,none⟩/\b<w.heap.size/\
  w.cell? ⟨b,off+i*4,none⟩=some ↑x.kind/\w.cell? ⟨b,off+i*4+1,none⟩=some ↑x.s/\w.cell? ⟨b,off+i*4+2,none⟩=some ↑x.n/\w.cell? ⟨b,off+i*4+3,none⟩=some x.kv:=by
 have hi:=(awz.1 hx).1;have hl:=h.len;obtain⟨b,off,e,hlt,hc⟩:=h.rd ae;exact⟨b,off,e,hlt,hc i x hx 0 _ rfl,hc i x hx 1 _ rfl,hc i x hx 2 _ rfl,hc i x hx 3 _ rfl⟩
mutual
def M.dep:M->Nat
 | .mk _ _ _ _ _ l _=>M.deps l+1
def M.deps:List M->Nat
 | []=>0
 | m::l=>max m.dep (M.deps l)
end
theorem M.Bf:∀(l:List M) (k:M),k∈l->k.dep<=M.deps l
 | [],k,h=>by cases h
 | m::l,k,h=>by rcases awN.1 h with rfl|h;simp[M.deps];omega;have:=M.Bf l k h;simp[M.deps];omega
theorem M.lh(m:M):m.dep=M.deps m.kids+1:=by cases m;rfl
theorem M.jY{m k:M}(h:k∈m.kids):k.dep<m.dep:=by have:=M.Bf m.kids k h;rw[M.lh m];omega
theorem M.uK(m:M):m.t.s=m.s:=by rw[M.qR];rfl
theorem M.t_n(m:M):m.t.n=m.n:=by rw[M.qR];rfl
theorem uw:∀l:List T,Eb l=l.map xRead
 | []=>rfl
 | t::l=>by simp[Eb,uw l]
theorem wS:∀l:List T,wR l=l.all dX
 | []=>rfl
 | t::l=>by simp[wR,wS l]
theorem JQ(cols:List C):∀l:List T,P7 cols l=l.map (xKind cols)
 | []=>rfl
 | t::l=>by simp[P7,JQ cols l]
theorem T.rD:∀l:List T,T.sizes l=(l.map T.size).sum
 | []=>rfl
 | t::l=>by simp[T.sizes,T.rD l]
def gW(c:UInt8):Bool:=c.toNat==40||c.toNat==34||c.toNat==45||bG c||bg c
def rfPop(os:List T):List T:=match os.getLast? with|none=>os|some e=>sxPut os.dropLast e
def I5(os:List T)(pos:Nat):Res:=if 1<os.length then (eu,10,pos) else kV os pos
def rfGo:Nat->List T->By->Nat->Res
 | 0,_,_,_=>(eu,12,0)
 | _+1,os,[],pos=>I5 os pos
 | f+1,os,c::q,pos=>
  if dN c then rfGo f os q (pos+1)
  else if c.toNat==41 then (if os.length==1 then (eu,12,pos) else rfGo f (rfPop os) q (pos+1))
  else if !gW c then (eu,12,pos)
  else if os.length==1&&sxDone os then (eu,11,pos)
  else if c.toNat==40 then (if 12<os.length then (eu,14,pos) else rfGo f (os++[.mk 1 [] 0 [] pos]) q (pos+1))
  else if (bW (c::q)).why==0 then rfGo f (sxPut os ((bW (c::q)).tree pos)) ((c::q).drop (bW (c::q)).size) (pos+(bW (c::q)).size)
  else (eu,(bW (c::q)).why,pos+(bW (c::q)).fault)
def dO(l:By):Res:=if 600<l.length then (eu,3,0) else rfGo (l.length+1) [eu] l 0
abbrev RT:TypeId:=79
theorem ik:Enc 5 mc:=⟨ae,λ_=>rfl,λx u hu=>CX [x] u (by rw[pI];exact hu)⟩
theorem Tryz.rG:(Tryz.prog.info? 79).map (λi=>(i.zero,i.size,i.bytes))=some (some (.agg ↑Zz.a),5,64):=ah
theorem Ow.low{α:Type}{k:Nat}{enc:α->List au}{et:TypeId}{b0 b:Nat}{w:ak}{v:au}{Z:List α}(h:Ow et k enc b w v Z)(hb:b0<=b):Ow et k enc b0 w v Z:=
 ⟨h.1,h.2.imp id λ⟨g,cap,cur,h1,h2,r⟩=>⟨g,cap,cur,h1,aw0 hb h2,r⟩⟩
structure uz(w0:ak)(g q cap:Nat)(os:List M)(i:Nat)(w:ak):Prop where
 own:Ow 79 5 mc (w0.heap.size+1) w (.slice ↑g (q+1) cap) os
 len:os.length=q+1
 lies:∀e∈os,Lies (w0.heap.size+1) [g] w e
 ev:Ev w0 w
 box:Bx 79 w0.heap.size ↑Zz.a w
 few:os.length<=i+1
 kids:∀e∈os,e.kids.length<=i
theorem uz.wider{w0 w:ak}{g q cap i i':Nat}{os:List M}(h:uz w0 g q cap os i w)(hi:i<=i'):uz w0 g q cap os i' w:=
 ⟨h.own,h.len,h.lies,h.ev,h.box,by have:=h.few;omega,λe he=>by have:=h.kids e he;omega⟩
theorem uz.evs{w0 w w':ak}{g q cap i:Nat}{os:List M}(h:uz w0 g q cap os i w)(hE:Ev w w'):uz w0 g q cap os i w':=
 ⟨h.own.ev hE,h.len,λe he=>(h.lies e he).ev hE,h.ev.trans hE,h.box.ev hE,h.few,h.kids⟩
theorem uz.at{w0 w:ak}{g q cap i:Nat}{os:List M}(h:uz w0 g q cap os i w):w0.heap.size+1<=g/\g<w.heap.size/\q+1<=cap/\cap<=9223372036854775807/\(∀i,w.frozen? ⟨g,i,none⟩=false)/\
  ∀i x,os[i]?=some x->w.cell? ⟨g,i*5,none⟩=some (.int .i64 x.kind)/\w.cell? ⟨g,i*5+1,none⟩=some (.string ⟨x.s.toArray⟩)/\w.cell? ⟨g,i*5+2,none⟩=some (.int .i64 x.n)/\w.cell? ⟨g,i*5+3,none⟩=some x.kv/\w.cell? ⟨g,i*5+4,none⟩=some (.int .i64 (x.pos:Int)):=by
 obtain⟨A,cap',hv,hS,hA⟩:=h.own.form ik;injection hv with h1 h2 h3
 subst h1 h3;obtain⟨_,h4,h5,_,h6⟩:=hA _ rfl;have hle:=hS.le;rw[h.len]at hle;refine⟨h4,h5,hle,hS.max,h6,λi x hx=>?_⟩;obtain⟨b,off,e,_,hc⟩:=hS.rd (by rw[h.len];omega);injection e with e
 injection e with e1 e2 _
 subst e1 e2;have key:∀j u,(mc x)[j]?=some u->w.cell? ⟨g,i*5+j,none⟩=some u:=λj u hu=>by have:=hc i x hx j u hu;rwa [aw3]at this
 exact⟨key 0 _ rfl,key 1 _ rfl,key 2 _ rfl,key 3 _ rfl,key 4 _ rfl⟩
theorem uz.agb{w0 w W:ak}{g q cap i i':Nat}{os1 os2:List M}{e m:M}(h:uz w0 g q cap (os1++e::os2) i w)(hE:Ev w W){v:au}(hv:Ow 79 5 mc w.heap.size W v (e.kids++[m]))(hm:Lies (w0.heap.size+1) [g] W m)(hi:i<i'):
  ∃e':M,e'.t=e.t.add m.t/\uz w0 g q cap (os1++e'::os2) i' (W.setCell ⟨g,os1.length*5+3,none⟩ v):=by
 obtain⟨A,cap',rfl,hS,hA⟩:=hv.form ik;obtain⟨e',he'⟩:∃e',e'=M.mk e.kind e.s e.n A cap' (e.kids++[m]) e.pos:=⟨_,rfl⟩
 have hg:=h.at;have qg:e'.kids=e.kids++[m]:=by rw[he'];rfl
 have hB:But [g] W (W.setCell ⟨g,os1.length*5+3,none⟩ (.slice A (e.kids++[m]).length cap')):=But.setCell _ _ aj;refine⟨e',?_,?_,?_,?_,?_,?_,?_,?_⟩;rw[he',M.qR,T.add,M.qR e];simp[M.kind,M.s,M.n,M.kids,M.pos,T.kind,T.s,T.n,T.kids,T.pos];have h1:=(h.own.ev hE).set ik (i:=os1.length) (j:=3) (x:=e) (x':=e') (u:=.slice A (e.kids++[m]).length cap') aj ae (by rw[he'];simp[mc,M.kv,M.kind,M.s,M.n,M.A,M.kids,M.cap,M.pos]);have h2:(os1++e::os2).set os1.length e'=os1++e'::os2:=aj;rwa [h2]at h1;have:=h.len;simp at this|-;omega;intro x hx;have hold:∀y,y∈os1++e::os2->Lies (w0.heap.size+1) [g] (W.setCell ⟨g,os1.length*5+3,none⟩ (.slice A (e.kids++[m]).length cap')) y:=λy hy=>((h.lies y hy).ev hE).move hB λ_ hx=>.inl hx;rcases awV.1 hx with h1|h1;exact hold x (awZ _ h1);rcases awN.1 h1 with rfl|h1;subst he';refine .mk (hS.but hB λad e0=>?_) (λad e0=>?_) λy hy=>?_;have:=(hA ad e0).2.1;simp;have:=hg.2.1;omega;obtain⟨_,h3,h4,_⟩:=hA ad e0;have:=hE.size;have:=hg.1;have:=hg.2.1;refine⟨ae,by simpa[World.setCell] using h4,?_⟩;simp;omega;rcases awV.1 hy with h2|h2;exact(hold e aj).kid y h2;simp at h2;subst h2;exact hm.move hB λ_ hx=>.inl hx;exact hold x (axo _ (awK _ h1));exact(h.ev.trans hE).box hB (by have:=hg.1;omega);exact(h.box.ev hE).but hB (by simp;have:=hg.1;omega);have:=h.few;simp at this|-;omega;intro x hx;rcases awV.1 hx with h1|h1;have:=h.kids x (awZ _ h1);omega;rcases awN.1 h1 with rfl|h1;have:=h.kids e aj;rw[qg];simp;omega;have:=h.kids x (axo _ (awK _ h1));omega
theorem uz.pop{w0 w:ak}{g q cap i:Nat}{os:List M}{e:M}(h:uz w0 g (q+1) cap (os++[e]) i w):uz w0 g q cap os i w:=by
 have hl:os.length=q+1:=by have:=h.len;simp at this;omega
 refine⟨?_,hl,λe he=>h.lies e (awZ _ he),h.ev,h.box,by have:=h.few;simp at this;omega,λe he=>h.kids e (awZ _ he)⟩;have:=h.own.to ik rfl (q+1) (by simp;omega);rwa [<-hl,List.take_left' rfl,hl]at this
theorem uz.push{w0 w W:ak}{g q cap i i':Nat}{os:List M}{m:M}(h:uz w0 g q cap os i w)(hE:Ev w W){v:au}(hv:Ow 79 5 mc w.heap.size W v (os++[m]))(hm:∀w K,Lies (w0.heap.size+1) K w m)(hk:m.kids=[])(hi:i<i'):
  ∃g' cap',v=.slice (some ⟨g',0,none⟩) (q+1+1) cap'/\uz w0 g' (q+1) cap' (os++[m]) i' W:=by
 have hl:(os++[m]).length=q+1+1:=by have:=h.len;simp;omega
 obtain⟨A,cap',hvv,hS,hA⟩:=hv.form ik;subst hvv;rw[hl]at hv hS hA|-;obtain⟨b,off,rfl,_,_⟩:=hS.rd ae;obtain⟨_,h3,h4,h5,_⟩:=hA _ rfl;simp at h5;subst h5;have hg:=h.at;simp at h3;have hb0:w0.heap.size+1<=w.heap.size:=by have:=hg.1;have:=hg.2.1;omega
 refine⟨b,cap',rfl,⟨hv.low hb0,hl,?_,h.ev.trans hE,h.box.ev hE,by have:=h.few;simp;omega,?_⟩⟩;intro e he;rcases awV.1 he with h1|h1;exact(h.lies e h1).move (But.aW (K:=[g]) hE) λx hx=>by simp at hx;subst hx;exact .inr (.inr h3)
 simp at h1;subst h1;exact hm _ _;intro e he;rcases awV.1 he with h1|h1;have:=h.kids e h1;omega;simp at h1;subst h1;rw[hk];simp
theorem uz.init(w:ak):uz w (w.heap.size+1) 0 1 [ja] 0 ((w.alloc (.cells ↑Zz.a 79)).alloc (.cells ↑Zz.a 79)):=by have hE:=Ev.alloc w (.cells ↑Zz.a 79);refine⟨?_,rfl,λe he=>?_,hE.trans aB,(Bx.new _ _ w).ev aB,aj,λe he=>?_⟩;have:=Ow.made (et:=79) (base:=w.heap.size+1) ik (w.alloc (.cells ↑Zz.a 79)) [ja] ↑Zz.a rfl aj aj;simpa using this;simp at he;subst he;exact Lies.zero _ _ _;simp at he;subst he;simp[ja,M.kids]
theorem VQ(os:List T)(e t:T):rfPop (os++[e]++[t])=os++[e.add t]:=by unfold rfPop;rw[List.getLast?_append];simp only[List.getLast?_singleton,Option.some_or,List.dropLast_concat];exact pF _ _ _
theorem VR{os:List M}{e:M}:sxDone ((e::os).map M.t)=decide (0<e.kids.length):=by simp only[sxDone,awI,M.bD];cases e.kids<;>simp
def jl(et:TypeId)(b:Nat)(v:au)(w:ak):Prop:=∃g,v=.slice (some ⟨g,0,none⟩) 0 0/\w.heap[g]?=some (.cells #[] et (0,0))/\b<=g
theorem jl.mono{et:TypeId}{b:Nat}:ru (jl et b):=λv w w' hE ⟨g,h1,h2,h3⟩=>⟨g,h1,by rw[hE.block g (awQ.1 h2).1];exact h2,h3⟩
theorem jl.new{et:TypeId}{b:Nat}{w:ak}(h:b<=w.heap.size):jl et b (.slice ↑w 0 0) (w.alloc (.cells #[] et)):=⟨_,rfl,ayq w _,h⟩
theorem jl.ow{α:Type}{k:Nat}{enc:α->List au}{et:TypeId}{b:Nat}{v:au}{w:ak}(h:jl et b v w):Ow et k enc b w v ([]:List α):=by obtain⟨g,rfl,hg,hb⟩:=h;exact⟨by simp[cl],.inr ⟨g,0,#[],rfl,hb,hg,awC _,ai,aj,by simp[cl]⟩⟩
theorem vk{α:Type}{k:Nat}{enc:α->List au}{et:TypeId}{b:Nat}{v:au}{w:ak}{P:Program}(E:Enc k enc)(T ty:TypeId)(ht:P.underlying T=some (.slice et)){zero:au}{bytes:Nat}(hi:(P.info? et).map (λi=>(i.zero,i.size,i.bytes))=some (some zero,k,bytes))(hz:zero.cells.size=k)
  (hv:jl et b v w) (A:Option Addr) (m c:Nat) (l:List α) (hB:Sl k enc w A m c l) (hbytes:l.length*bytes<=140737488355328) (hsm:l.length<=1000000000) (hbase:b<=w.heap.size):
  ∃v' w',(Builtin.append_ #[T,T] ty #[v,.slice A m c]).run P w=.ok v' w'/\Ow et k enc b w' v' l/\Ev w w':=by
 obtain⟨v',w',hr,h1,h2,h3,h4⟩:=jq (P:=P) E T ty ht hi hz (hv.ow (k:=k) (enc:=enc)) A m c l hB (by simpa using hbytes) (by simpa using hsm) hbase;rw[axA]at h1;refine⟨v',w',hr,h1,?_⟩;obtain⟨g,rfl,hg,hbg⟩:=hv;refine⟨h2.os,h2.tape,h2.output,h2.size,λj hj=>?_⟩;by_cases hjg:j=g;subst hjg;obtain⟨i,D5,hz',hsz,hby⟩:=info_parts hi;have hl:=hB.len
 cases A with
 | none=>
  obtain⟨rfl,rfl⟩:=hB.nil rfl;have hr2:=run_append_owned_none (P:=P) (w:=w) b T ty et i k ht D5 _ _ _ (jl.ow (k:=k) (enc:=enc) ⟨j,rfl,hg,hbg⟩);rw[hr]at hr2;simp only[Result.ok.injEq]at hr2;rw[hr2.2]
 | some ad=>
  by_cases hm:m=0;subst hm;have hr2:=run_append_room (P:=P) w T ty et i ht D5 j 0 0 #[] hg ad 0 c [] aj aj aj ae aj;rw[hr]at hr2;simp only[Result.ok.injEq]at hr2;rw[hr2.2,setRow_heap w j #[] _ et (0,0) hg,hg];simp;have hcells:∀j u,(cl enc l)[j]?=some u->w.cell? (ad.add j)=some u:=by intro q u hu;obtain⟨i',j',x,rfl,hx,hxu⟩:=PO E l q u hu;have hq:=(awz.1 hx).1;obtain⟨b',off,e,_,hc⟩:=hB.rd ae;exact aBn
  have hr2:=run_append_grow (P:=P) w T ty et i zero ht D5 hz' ⟨j,0,none⟩ 0 0 [] aj aj ad m c (cl enc l) (by rw[rC E,hl,hsz]) hcells ae ae (growslice_fits ae (by rw[hby];rw[hl]at hbytes;simpa using hbytes));rw[hr]at hr2;simp only[Result.ok.injEq]at hr2;rw[hr2.2];exact((Ev.drew w).trans (Ev.alloc w.drew _)).block j hj
 exact h2.block j hj (λhm=>hjg (by have:=aG.1 hm;simp[Value.ownBlock]at this;exact this.symm))
theorem wX{α:Type}{k:Nat}{enc:α->List au}{et:TypeId}{base:Nat}{v:au}{P:Program}{w:ak}{ops:Array Oper}{rest:List Oper}{o:Oper}{a:Act}{Q:Exit->Act->ak->Prop}(hgd:o.guard=none)(T:TypeId)(s x:Operand)
  (ho:o.op=.call {callee:=.builtin .append,args:=#[s,x],argTypes:=#[T,T]}) (E:Enc k enc)
  (ht:P.underlying T=some (.slice et)) {zero:au} {bytes:Nat} (hi:(P.info? et).map (λi=>(i.zero,i.size,i.bytes))=some (some zero,k,bytes)) (hz:zero.cells.size=k)
  (hs:a.eval s=v) (hown:jl et base v w) (A:Option Addr) (m c:Nat) (l:List α) (hx:a.eval x=.slice A m c) (hB:Sl k enc w A m c l)
  (hbytes:l.length*bytes<=140737488355328) (hsm:l.length<=1000000000) (hbase:base<=w.heap.size)
  (h:∀v' w',Ow et k enc base w' v' l->Ev w w'->wpList P ops Q rest (a.put o.dst v') w'):wpList P ops Q (o::rest) a w:=by
 refine wpList_plain hgd λK hK=>?_;obtain⟨v',w',hr,h2,h3⟩:=vk (P:=P) E T o.type ht hi hz hown A m c l hB hbytes hsm hbase;unfold Oper.wp execOp;simp only[ho,resolve,invoke,builtin,ayn,ayo,ayp,axF,awI,awY,hs,hx,hr];exact hK _ _ (h v' w' h2 h3)
theorem zY{ρ:Operand->au}{o:Oper}(ho:o.op=.buildSlice 77 0 #[])(w:ak):(execOp ρ o).run ax w=.ok (.value (.slice ↑w 0 0)) (w.alloc (.cells #[] 79)):=by unfold execOp;rw[ho];simp[go_sem]
theorem Ci{ρ:Operand->au}{o:Oper}{x:Operand}(m:M)(ho:o.op=.buildSlice 77 1 #[(0,x)])(h:ρ x=mv m)(w:ak):
  (execOp ρ o).run ax w=.ok (.value (.slice ↑w 1 1)) (w.alloc (.cells (mc m).toArray 79)):=by
 unfold mv M.kv at h;unfold mc M.kv;unfold execOp;rw[ho];simp[h,go_sem]
theorem nM{ρ:Operand->au}{o:Oper}{x y:Operand}{g n cap:Nat}(k:Nat)(ho:o.op=.indexAddr 77 x y)(hx:ρ x=.slice ↑g n cap)(hy:ρ y=↑k)(hk:k<n)(w:ak):
  (execOp ρ o).run ax w=.ok (.value (.pointer ↑(g,k*5))) w:=by
 have h1:(k:Int)<(n:Int):=ae;have h2:(0:Int)<=(k:Int):=ae;unfold execOp;rw[ho];simp[hx,hy,go_sem,h1,h2]
theorem qm{ρ:Operand->au}{o:Oper}{x:Operand}{g i:Nat}(ho:o.op=.fieldAddr 79 x 3)(hx:ρ x=.pointer ↑(g,i))(w:ak):
  (execOp ρ o).run ax w=.ok (.value (.pointer ↑(g,i+3))) w:=by
 unfold execOp;rw[ho];simp[hx,go_sem]
theorem Cj{ρ:Operand->au}{o:Oper}{x:Operand}{a:Addr}{v:au}{w:ak}(ho:o.op=.load 77 x)(hx:ρ x=.pointer (some a))(c0:w.cell? a=some v):
  (execOp ρ o).run ax w=.ok (.value v) w:=by
 unfold execOp;rw[ho];simp[hx,go_sem,c0]
theorem Cm{ρ:Operand->au}{o:Oper}{x:Operand}{b off:Nat}{w:ak}(m:M)(ho:o.op=.load 79 x)(hx:ρ x=.pointer ↑(b,off))(hc:∀j u,(mc m)[j]?=some u->w.cell? ⟨b,off+j,none⟩=some u):
  (execOp ρ o).run ax w=.ok (.value (mv m)) w:=by
 have c0:w.cell? ⟨b,off,none⟩=some ↑m.kind:=hc 0 _ rfl;have c1:w.cell? ⟨b,off+1,none⟩=some ↑m.s:=hc 1 _ rfl;have c2:w.cell? ⟨b,off+2,none⟩=some ↑m.n:=hc 2 _ rfl;have c3:w.cell? ⟨b,off+3,none⟩=some m.kv:=hc 3 _ rfl;have c4:w.cell? ⟨b,off+4,none⟩=some ↑m.pos:=hc 4 _ rfl;unfold mv execOp;rw[ho];simp[hx,go_sem,c0,c1,c2,c3,c4]
theorem sJ{P:Program}{a:Act}{o:Oper}{x y:Operand}{T:TypeId}{u v':au}{w w':ak}(ho:o.op=.call {callee:=.builtin .append,args:=#[x,y],argTypes:=#[T,T]})(hy:a.eval y=u)
  (hr:(Builtin.append_ #[T,T] o.type #[a.eval x,u]).run P w=.ok v' w'):(execOp a.eval o).run P w=.ok (.value v') w':=by
 unfold execOp;simp only[ho,resolve,invoke,builtin,ayn,ayo,ayp,axF,awI,awY,hy,hr]
theorem abO{x y:M}(h:x.t=y.t):y.kind=x.kind/\y.s=x.s/\y.n=x.n/\y.kids.length=x.kids.length/\x.kids.map M.t=y.kids.map M.t:=by
 rw[M.qR,M.qR y]at h;injection h with h1 h2 h3 h4 h5
 have h6:=axc List.length h4;rw[awD,awD]at h6;exact⟨h1.symm,h2.symm,h3.symm,h6.symm,h4⟩
def afq(N:Nat):Prop:=∀(l l':List M) (b0 b1:Nat) (w:ak) (A:Option Addr) (n cap:Nat) (B:Option Addr) (cap':Nat),M.deps l<=N->l.map M.t=l'.map M.t->Es w A n cap l->Es w B n cap' l'->(∀x∈l,Lx b0 [] w x)->(∀x∈l',Lx b1 [] w x)->
 Calls ax 88 #[.slice A n cap,.slice B n cap'] w λe w'=>e=.returned (.bool true)/\Ev w w'
theorem IM(N:Nat)(ih:∀K,K<N->afq K):afq N:=by
 intro l l' b0 b1 w A n cap B cap' hd jg hA hB iH yF;have hc1:=hA.le;have hc2:=hA.max;have hc3:=hB.le;have hc4:=hB.max;have HA:=zq hA;have HB:=zq hB;have pX:=zq iH;have HYL:=zq yF;have uf:=zq jg;have HD:=zq hd;unfold afq at ih;have lM:=zq ih;have ed:Tryz.prog.follows .mixedOrders=true:=ah;clear ih hd jg hA hB iH yF;go_enter func88,ntmps88;go_wp2
 go_loopw [5] (λiv wr=>∃q:Nat,q<=n/\iv=↑q/\Ev w wr) (λiv _=>n-(intOf iv).toNat)
 case atStart=>exact⟨0,awJ _,rfl,Ev.refl _⟩
 case round=>
  obtain⟨q,hq,rfl,hE⟩:=hrel;by_cases hlt:q<n
  ·obtain⟨x,hx⟩:=HA.out.at hlt;obtain⟨y,hy⟩:=HB.out.at hlt;have hxy:x.t=y.t:=by
    have h1:(l.map M.t)[q]?=some x.t:=by rw[axh,hx];rfl
    rw[uf.out,axh,hy]at h1;exact(axd h1).symm
   obtain⟨h1,h2,h3,h4,h5⟩:=abO hxy;obtain⟨b,off,rfl,hbl,e0,e1,e2,e3⟩:=Es.cell (HA.out.ev hE) hx;obtain⟨b',off',rfl,afr,g0,g1,g2,g3⟩:=Es.cell (HB.out.ev hE) hy;unfold M.kv at e3 g3;rw[h1]at g0;rw[h2]at g1;rw[h3]at g2;rw[h4]at g3;have gJ:=awG hx;have WN:=awG hy;have HPx:=zq (λw1 (h1:Ev wr w1)=>lM.out (M.deps x.kids) (by have:=M.Bf l x gJ;have:=M.lh x;have:=HD.out;omega) x.kids y.kids b0 b1 w1 x.A x.kids.length x.cap y.A y.cap (awC _) h5 ((pX.out x gJ).es.ev (hE.trans h1)) (by rw[<-h4];exact(HYL.out y WN).es.ev (hE.trans h1)) (λz hz=>((pX.out x gJ).kid z hz).ev (hE.trans h1)) (λz hz=>((HYL.out y WN).kid z hz).ev (hE.trans h1)));have j1:(0:Int)<=(q:Int):=ae;have j2:(q:Int)<(n:Int):=ae;clear hx hy hxy h1 h2 h3 h5 gJ WN;generalize hxn:x.kids.length=xn at*;clear h4 hxn;generalize x.A=xA at*;generalize y.A=yA at*;generalize x.cap=xc at*;generalize y.cap=yc at*;generalize x.kind=xk at*;generalize x.s=xs at*;generalize x.n=xv at*
   go_wp2_with fail
   refine bV ed [λv _=>v=.slice ↑(b,off) n cap,λv _=>v=↑q,λv _=>v=.pointer ↑(b,off+q*4),λv _=>v=.pointer ↑(b,off+q*4),λv _=>v=↑xk,λv _=>v=.slice ↑(b',off') n cap',λv _=>v=↑q,λv _=>v=.pointer ↑(b',off'+q*4),λv _=>v=.pointer ↑(b',off'+q*4),λv _=>v=↑xk,λv _=>v=.bool false,λv _=>v=.bool false,λv _=>v=.slice ↑(b,off) n cap,λv _=>v=↑q,λv _=>v=.pointer ↑(b,off+q*4),λv _=>v=.pointer ↑(b,off+q*4+1),λv _=>v=↑xs,λv _=>v=.slice ↑(b',off') n cap',λv _=>v=↑q,λv _=>v=.pointer ↑(b',off'+q*4),λv _=>v=.pointer ↑(b',off'+q*4+1),λv _=>v=↑xs,λv _=>v=.bool false,λv _=>v=.bool false,λv _=>v=.bool false,λv _=>v=.slice ↑(b,off) n cap,λv _=>v=↑q,λv _=>v=.pointer ↑(b,off+q*4),λv _=>v=.pointer ↑(b,off+q*4+2),λv _=>v=↑xv,λv _=>v=.slice ↑(b',off') n cap',λv _=>v=↑q,λv _=>v=.pointer ↑(b',off'+q*4),λv _=>v=.pointer ↑(b',off'+q*4+2),λv _=>v=↑xv,λv _=>v=.bool false,λv _=>v=.bool false,λv _=>v=.bool false,λv _=>v=.slice ↑(b,off) n cap,λv _=>v=↑q,λv _=>v=.pointer ↑(b,off+q*4),λv _=>v=.pointer ↑(b,off+q*4+3),λv _=>v=.slice xA xn xc,λv _=>v=.slice ↑(b',off') n cap',λv _=>v=↑q,λv _=>v=.pointer ↑(b',off'+q*4),λv _=>v=.pointer ↑(b',off'+q*4+3),λv _=>v=.slice yA xn yc,λv _=>v=.bool true,λv _=>v=.bool false,λv _=>v=.bool false]
    68 rfl ah ⟨az _,az _,az _,az _,az _,az _,az _,az _,az _,az _,az _,az _,az _,az _,az _,az _,az _,az _,az _,az _,az _,az _,az _,az _,az _,az _,az _,az _,az _,az _,az _,az _,az _,az _,az _,az _,az _,az _,az _,az _,az _,az _,az _,az _,az _,az _,az _,az _,az _,az _,az _,trivial⟩ ?_ ?_
   ·refine aC 0 ?_ (aC 1 ?_ (aC 2 ?_ (aC 3 ?_ (aC 4 ?_ (aC 5 ?_ (aC 6 ?_ (aC 7 ?_ (aC 8 ?_ (aC 9 ?_ (aC 10 ?_ (aC 11 ?_ (aC 12 ?_ (aC 13 ?_ (aC 14 ?_ (aC 15 ?_ (aC 16 ?_ (aC 17 ?_ (aC 18 ?_ (aC 19 ?_ (aC 20 ?_ (aC 21 ?_ (aC 22 ?_ (aC 23 ?_ (aC 24 ?_ (aC 25 ?_ (aC 26 ?_ (aC 27 ?_ (aC 28 ?_ (aC 29 ?_ (aC 30 ?_ (aC 31 ?_ (aC 32 ?_ (aC 33 ?_ (aC 34 ?_ (aC 35 ?_ (aC 36 ?_ (aC 37 ?_ (aC 38 ?_ (aC 39 ?_ (aC 40 ?_ (aC 41 ?_ (aC 42 ?_ (aC 43 ?_ (aC 44 ?_ (aC 45 ?_ (aC 46 ?_ (aC 47 ?_ (aC 48 ?_ (aC 49 ?_ (aC 50 ?_ (iT 51)))))))))))))))))))))))))))))))))))))))))))))))))));refine aF λa w c=>⟨(ay rfl),_,run_move _ rfl w,(c.was 0 rfl)⟩
    refine aF λa w c=>⟨(ay rfl),_,run_move _ rfl w,(c.was 5 rfl)⟩
    ·refine aF λa w c=>⟨(ay rfl),.pointer ↑(b,off+q*4),?_,rfl⟩
     have e17:a.eval (.tmp 17)=.slice ↑(b,off) n cap:=(c.new 0 17)
     have e18:a.eval (.tmp 18)=↑q:=(c.new 1 18)
     generalize a.eval=ρ at e17 e18|-;simp[execOp,e17,e18,go_sem,j1,j2]
    ·refine aF λa w c=>⟨(ay rfl),.pointer ↑(b,off+q*4),?_,rfl⟩
     have e19:a.eval (.tmp 19)=.pointer ↑(b,off+q*4):=(c.new 2 19)
     generalize a.eval=ρ at e19|-;simp[execOp,e19,go_sem]
    ·refine aF λa w c=>⟨(ay rfl),↑xk,?_,rfl⟩
     have e20:a.eval (.tmp 20)=.pointer ↑(b,off+q*4):=(c.new 3 20)
     have hc:=(c.ev.cell (p:=⟨_,_,none⟩) hbl).trans e0;generalize a.eval=ρ at e20|-;simp[execOp,e20,hc,go_sem]
    refine aF λa w c=>⟨(ay rfl),_,run_move _ rfl w,(c.was 1 rfl)⟩
    refine aF λa w c=>⟨(ay rfl),_,run_move _ rfl w,(c.was 5 rfl)⟩
    ·refine aF λa w c=>⟨(ay rfl),.pointer ↑(b',off'+q*4),?_,rfl⟩
     have e22:a.eval (.tmp 22)=.slice ↑(b',off') n cap':=(c.new 5 22)
     have e23:a.eval (.tmp 23)=↑q:=(c.new 6 23)
     generalize a.eval=ρ at e22 e23|-;simp[execOp,e22,e23,go_sem,j1,j2]
    ·refine aF λa w c=>⟨(ay rfl),.pointer ↑(b',off'+q*4),?_,rfl⟩
     have e24:a.eval (.tmp 24)=.pointer ↑(b',off'+q*4):=(c.new 7 24)
     generalize a.eval=ρ at e24|-;simp[execOp,e24,go_sem]
    ·refine aF λa w c=>⟨(ay rfl),↑xk,?_,rfl⟩
     have e25:a.eval (.tmp 25)=.pointer ↑(b',off'+q*4):=(c.new 8 25)
     have hc:=(c.ev.cell (p:=⟨_,_,none⟩) afr).trans g0;generalize a.eval=ρ at e25|-;simp[execOp,e25,hc,go_sem]
    ·refine aF λa w c=>⟨(ay rfl),.bool false,?_,rfl⟩
     have e21:a.eval (.tmp 21)=↑xk:=(c.new 4 21)
     have e26:a.eval (.tmp 26)=↑xk:=(c.new 9 26)
     generalize a.eval=ρ at e21 e26|-;simp[execOp,e21,e26,go_sem]
    refine aF λa w c=>⟨(ay rfl),_,run_move _ rfl w,(c.new 10 27)⟩
    refine aF λa w c=>⟨(aP rfl ah (c.new 11 28)),_,run_move _ rfl w,(c.was 0 rfl)⟩
    refine aF λa w c=>⟨(aP rfl ah (c.new 11 28)),_,run_move _ rfl w,(c.was 5 rfl)⟩
    ·refine aF λa w c=>⟨(aP rfl ah (c.new 11 28)),.pointer ↑(b,off+q*4),?_,rfl⟩
     have e29:a.eval (.tmp 29)=.slice ↑(b,off) n cap:=(c.new 12 29)
     have e30:a.eval (.tmp 30)=↑q:=(c.new 13 30)
     generalize a.eval=ρ at e29 e30|-;simp[execOp,e29,e30,go_sem,j1,j2]
    ·refine aF λa w c=>⟨(aP rfl ah (c.new 11 28)),.pointer ↑(b,off+q*4+1),?_,rfl⟩
     have e31:a.eval (.tmp 31)=.pointer ↑(b,off+q*4):=(c.new 14 31)
     generalize a.eval=ρ at e31|-;simp[execOp,e31,go_sem]
    ·refine aF λa w c=>⟨(aP rfl ah (c.new 11 28)),↑xs,?_,rfl⟩
     have e32:a.eval (.tmp 32)=.pointer ↑(b,off+q*4+1):=(c.new 15 32)
     have hc:=(c.ev.cell (p:=⟨_,_,none⟩) hbl).trans e1;generalize a.eval=ρ at e32|-;simp[execOp,e32,hc,go_sem]
    refine aF λa w c=>⟨(aP rfl ah (c.new 11 28)),_,run_move _ rfl w,(c.was 1 rfl)⟩
    refine aF λa w c=>⟨(aP rfl ah (c.new 11 28)),_,run_move _ rfl w,(c.was 5 rfl)⟩
    ·refine aF λa w c=>⟨(aP rfl ah (c.new 11 28)),.pointer ↑(b',off'+q*4),?_,rfl⟩
     have e34:a.eval (.tmp 34)=.slice ↑(b',off') n cap':=(c.new 17 34)
     have e35:a.eval (.tmp 35)=↑q:=(c.new 18 35)
     generalize a.eval=ρ at e34 e35|-;simp[execOp,e34,e35,go_sem,j1,j2]
    ·refine aF λa w c=>⟨(aP rfl ah (c.new 11 28)),.pointer ↑(b',off'+q*4+1),?_,rfl⟩
     have e36:a.eval (.tmp 36)=.pointer ↑(b',off'+q*4):=(c.new 19 36)
     generalize a.eval=ρ at e36|-;simp[execOp,e36,go_sem]
    ·refine aF λa w c=>⟨(aP rfl ah (c.new 11 28)),↑xs,?_,rfl⟩
     have e37:a.eval (.tmp 37)=.pointer ↑(b',off'+q*4+1):=(c.new 20 37)
     have hc:=(c.ev.cell (p:=⟨_,_,none⟩) afr).trans g1;generalize a.eval=ρ at e37|-;simp[execOp,e37,hc,go_sem]
    ·refine aF λa w c=>⟨(aP rfl ah (c.new 11 28)),.bool false,?_,rfl⟩
     have e33:a.eval (.tmp 33)=↑xs:=(c.new 16 33)
     have e38:a.eval (.tmp 38)=↑xs:=(c.new 21 38)
     generalize a.eval=ρ at e33 e38|-;simp[execOp,e33,e38,go_sem]
    refine aF λa w c=>⟨(ay rfl),_,uY rfl (c.new 11 28) w,(c.new 22 39)⟩
    refine aF λa w c=>⟨(ay rfl),_,run_move _ rfl w,(c.new 23 40)⟩
    refine aF λa w c=>⟨(aP rfl ah (c.new 24 41)),_,run_move _ rfl w,(c.was 0 rfl)⟩
    refine aF λa w c=>⟨(aP rfl ah (c.new 24 41)),_,run_move _ rfl w,(c.was 5 rfl)⟩
    ·refine aF λa w c=>⟨(aP rfl ah (c.new 24 41)),.pointer ↑(b,off+q*4),?_,rfl⟩
     have e42:a.eval (.tmp 42)=.slice ↑(b,off) n cap:=(c.new 25 42)
     have e43:a.eval (.tmp 43)=↑q:=(c.new 26 43)
     generalize a.eval=ρ at e42 e43|-;simp[execOp,e42,e43,go_sem,j1,j2]
    ·refine aF λa w c=>⟨(aP rfl ah (c.new 24 41)),.pointer ↑(b,off+q*4+2),?_,rfl⟩
     have e44:a.eval (.tmp 44)=.pointer ↑(b,off+q*4):=(c.new 27 44)
     generalize a.eval=ρ at e44|-;simp[execOp,e44,go_sem]
    ·refine aF λa w c=>⟨(aP rfl ah (c.new 24 41)),↑xv,?_,rfl⟩
     have e45:a.eval (.tmp 45)=.pointer ↑(b,off+q*4+2):=(c.new 28 45)
     have hc:=(c.ev.cell (p:=⟨_,_,none⟩) hbl).trans e2;generalize a.eval=ρ at e45|-;simp[execOp,e45,hc,go_sem]
    refine aF λa w c=>⟨(aP rfl ah (c.new 24 41)),_,run_move _ rfl w,(c.was 1 rfl)⟩
    refine aF λa w c=>⟨(aP rfl ah (c.new 24 41)),_,run_move _ rfl w,(c.was 5 rfl)⟩
    ·refine aF λa w c=>⟨(aP rfl ah (c.new 24 41)),.pointer ↑(b',off'+q*4),?_,rfl⟩
     have e47:a.eval (.tmp 47)=.slice ↑(b',off') n cap':=(c.new 30 47)
     have e48:a.eval (.tmp 48)=↑q:=(c.new 31 48)
     generalize a.eval=ρ at e47 e48|-;simp[execOp,e47,e48,go_sem,j1,j2]
    ·refine aF λa w c=>⟨(aP rfl ah (c.new 24 41)),.pointer ↑(b',off'+q*4+2),?_,rfl⟩
     have e49:a.eval (.tmp 49)=.pointer ↑(b',off'+q*4):=(c.new 32 49)
     generalize a.eval=ρ at e49|-;simp[execOp,e49,go_sem]
    ·refine aF λa w c=>⟨(aP rfl ah (c.new 24 41)),↑xv,?_,rfl⟩
     have e50:a.eval (.tmp 50)=.pointer ↑(b',off'+q*4+2):=(c.new 33 50)
     have hc:=(c.ev.cell (p:=⟨_,_,none⟩) afr).trans g2;generalize a.eval=ρ at e50|-;simp[execOp,e50,hc,go_sem]
    ·refine aF λa w c=>⟨(aP rfl ah (c.new 24 41)),.bool false,?_,rfl⟩
     have e46:a.eval (.tmp 46)=↑xv:=(c.new 29 46)
     have e51:a.eval (.tmp 51)=↑xv:=(c.new 34 51)
     generalize a.eval=ρ at e46 e51|-;simp[execOp,e46,e51,go_sem]
    refine aF λa w c=>⟨(ay rfl),_,uY rfl (c.new 24 41) w,(c.new 35 52)⟩
    refine aF λa w c=>⟨(ay rfl),_,run_move _ rfl w,(c.new 36 53)⟩
    refine aF λa w c=>⟨(aP rfl ah (c.new 37 54)),_,run_move _ rfl w,(c.was 0 rfl)⟩
    refine aF λa w c=>⟨(aP rfl ah (c.new 37 54)),_,run_move _ rfl w,(c.was 5 rfl)⟩
    ·refine aF λa w c=>⟨(aP rfl ah (c.new 37 54)),.pointer ↑(b,off+q*4),?_,rfl⟩
     have e55:a.eval (.tmp 55)=.slice ↑(b,off) n cap:=(c.new 38 55)
     have e56:a.eval (.tmp 56)=↑q:=(c.new 39 56)
     generalize a.eval=ρ at e55 e56|-;simp[execOp,e55,e56,go_sem,j1,j2]
    ·refine aF λa w c=>⟨(aP rfl ah (c.new 37 54)),.pointer ↑(b,off+q*4+3),?_,rfl⟩
     have e57:a.eval (.tmp 57)=.pointer ↑(b,off+q*4):=(c.new 40 57)
     generalize a.eval=ρ at e57|-;simp[execOp,e57,go_sem]
    ·refine aF λa w c=>⟨(aP rfl ah (c.new 37 54)),.slice xA xn xc,?_,rfl⟩
     have e58:a.eval (.tmp 58)=.pointer ↑(b,off+q*4+3):=(c.new 41 58)
     have hc:=(c.ev.cell (p:=⟨_,_,none⟩) hbl).trans e3;generalize a.eval=ρ at e58|-;simp[execOp,e58,hc,go_sem]
    refine aF λa w c=>⟨(aP rfl ah (c.new 37 54)),_,run_move _ rfl w,(c.was 1 rfl)⟩
    refine aF λa w c=>⟨(aP rfl ah (c.new 37 54)),_,run_move _ rfl w,(c.was 5 rfl)⟩
    ·refine aF λa w c=>⟨(aP rfl ah (c.new 37 54)),.pointer ↑(b',off'+q*4),?_,rfl⟩
     have e60:a.eval (.tmp 60)=.slice ↑(b',off') n cap':=(c.new 43 60)
     have e61:a.eval (.tmp 61)=↑q:=(c.new 44 61)
     generalize a.eval=ρ at e60 e61|-;simp[execOp,e60,e61,go_sem,j1,j2]
    ·refine aF λa w c=>⟨(aP rfl ah (c.new 37 54)),.pointer ↑(b',off'+q*4+3),?_,rfl⟩
     have e62:a.eval (.tmp 62)=.pointer ↑(b',off'+q*4):=(c.new 45 62)
     generalize a.eval=ρ at e62|-;simp[execOp,e62,go_sem]
    ·refine aF λa w c=>⟨(aP rfl ah (c.new 37 54)),.slice yA xn yc,?_,rfl⟩
     have e63:a.eval (.tmp 63)=.pointer ↑(b',off'+q*4+3):=(c.new 46 63)
     have hc:=(c.ev.cell (p:=⟨_,_,none⟩) afr).trans g3;generalize a.eval=ρ at e63|-;simp[execOp,e63,hc,go_sem]
    refine ig λa w c=>⟨(aP rfl ah (c.new 37 54)),88,#[.slice xA xn xc,.slice yA xn yc],?_,?_⟩
    rw[bT 88 _ _ rfl ah];have e59:a.eval (.tmp 59)=.slice xA xn xc:=(c.new 42 59)
    have e64:a.eval (.tmp 64)=.slice yA xn yc:=(c.new 47 64)
    simp[e59,e64];refine(HPx.out w c.ev).mono ?_;rintro e w2 ⟨rfl,hE⟩;exact⟨_,rfl,hE,rfl⟩
    ·refine aF λa w c=>⟨(aP rfl ah (c.new 37 54)),.bool false,?_,rfl⟩
     have e65:a.eval (.tmp 65)=.bool true:=(c.new 48 65)
     generalize a.eval=ρ at e65|-;simp[execOp,e65,go_sem]
    refine aF λa w c=>⟨(ay rfl),_,uY rfl (c.new 37 54) w,(c.new 49 66)⟩
   intro sl wq Bg hold hnew;have f0:sl 0=.slice ↑(b,off) n cap:=hold 0;have f1:sl 1=.slice ↑(b',off') n cap':=hold 1;have f2:_=undef:=hold 2;have f3:_=undef:=hold 3;have f4:sl 4=u4:=hold 4;have f5:sl 5=↑q:=hold 5;have f6:sl 6=.slice ↑(b,off) n cap:=hold 6;have f7:sl 7=↑n:=hold 7;have f8:sl 8=.slice ↑(b',off') n cap':=hold 8;have f9:sl 9=↑n:=hold 9;have f10:sl 10=.bool false:=hold 10;have f11:sl 11=↑q:=hold 11;have f12:sl 12=.slice ↑(b,off) n cap:=hold 12;have f13:sl 13=↑n:=hold 13;have f14:sl 14=.bool true:=hold 14;have f15:sl 15=u15:=hold 15;have f16:sl 16=u16:=hold 16;have f67:sl 67=.bool false:=hnew 50 67;change Exit.then _ _ .normal ⟨_,_⟩ _;simp only[List.range,List.range.loop,List.map];simp only[f0,f1,f2,f3,f4,f5,f6,f7,f8,f9,f10,f11,f12,f13,f14,f15,f16,f67];clear hold hnew;go_wp2;go_roundw
   case rel=>exact⟨q+1,ae,by go_num,hE.trans Bg⟩
   case measure=>simp[intOf];omega
  obtain rfl:q=n:=ae;go_wp2;go_ret;exact⟨rfl,hE⟩
theorem Xa(N:Nat):afq N:=by
 induction N using Nat.strongRecOn with
 | ind N ih=>exact IM N ih
end Go.Proofs.YtpbfokkocaemlaaGreatDoor
