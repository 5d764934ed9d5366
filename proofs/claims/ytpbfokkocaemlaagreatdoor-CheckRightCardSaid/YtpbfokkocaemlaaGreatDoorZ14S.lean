import Derived.Test.YtpbfokkocaemlaaGreatDoorZ13S
set_option linter.unusedVariables false
set_option maxRecDepth 100000
set_option maxHeartbeats 64000000
namespace Go.Proofs.YtpbfokkocaemlaaGreatDoor
open Go.RowKit
open Go.Lib renaming hid → zq
theorem Gt {P:Program} {w:World} {ops:Array Oper} {rest:List Oper} {o:Oper} {a:Act} {Q:Exit→Act→World→Prop} (hgd:o.guard=none) (s x:Operand)
  (hop:o.op=.call {callee:=.builtin .append,args:=#[s,x],argTypes:=#[99,99]})
  (ht:P.underlying 99=some (.slice 101)) (hi:(P.info? 101).map (fun i=>(i.zero,i.size,i.bytes))=some (some (.agg #[.int .i64 0,.string ⟨#[]⟩,.int .i64 0,.slice none 0 0,.int .i64 0]),5,64))
  (base:Nat) (v:Value) (n:Nat) (xs:List Value) (hs:a.eval s=v) (hown:w.ownsRow base 101 5 v n xs) (b c:Nat) (hx:a.eval x=.slice (some ⟨b,0,none⟩) 1 c) (m:M)
  (hm:∀j u,(mc m)[j]?=some u→w.cell? ⟨b,j,none⟩=some u) (hn:n≤1000000) (hbase:base≤w.heap.size)
  (h:∀v' w',w'.ownsRow base 101 5 v' (n+1) (xs++mc m)→w.grownBy w' v.ownBlock→(v'.ownBlock=v.ownBlock∨v'.ownBlock=some w.heap.size)→wpList P ops Q rest (a.put o.dst v') w'):wpList P ops Q (o::rest) a w:=by
 refine wpList_plain hgd fun K hK=>?_;obtain⟨i,Cf,hz,hsz,hby⟩:=info_parts hi;obtain⟨v',w',hr,h1,h2,_,h4⟩:=run_append_own_at (P:=P) w base 99 o.type 101 i _ 5 64 ht Cf hz hsz hby rfl (by decide) v n xs hown ⟨b,0,none⟩ 1 c (mc m) rfl (fun j u hu=>by rw[Addr.add_lit,atT];exact hm j u hu)
  (fun u hu=>AZ [m] u (by rw[nK];exact hu)) (by unfold maxLen;omega) (by omega) hbase
 unfold Oper.wp execOp;simp only[hop,resolve,invoke,builtin,Sem.run_bind,Sem.run_pure,Result.andThen_ok,auH,atx,atQ,hs,hx,hr];exact hK _ _ (h v' w' h1 h2 h4)
def ng (k:Int) (s:By) (n:Int) (p:Nat):M:=.mk k s n none 0 [] p
theorem Lies.tok (b0:Nat) (K:List Nat) (w:World) (k:Int) (s:By) (n:Int) (p:Nat):Lies b0 K w (ng k s n p):=.mk (Sl.nil_ w) (fun _ h=>by cases h) (fun _ h=>by cases h)
theorem Opn.pop {base:Nat} {w:World} {vb q iJ:Nat} {os:List M} {e:M} (h:Opn base w (.slice (some ⟨vb,0,none⟩) (q+1) iJ) (os++[e])) (hq:os.length=q):
  Opn base w (.slice (some ⟨vb,0,none⟩) q iJ) os∧Lies base (blk (.slice (some ⟨vb,0,none⟩) q iJ) os) w e∧(∀x∈blk (.slice (some ⟨vb,0,none⟩) q iJ) os,x∈blk (.slice (some ⟨vb,0,none⟩) (q+1) iJ) (os++[e])):=by
 subst hq;have hnd:=h.nd;rw[qQ]at hnd;have Ic:=au0.1 hnd;have WE:blk (.slice (some ⟨vb,0,none⟩) os.length iJ) os=blk (.slice (some ⟨vb,0,none⟩) (os.length+1) iJ) os:=rfl;have hsub:∀x∈blk (.slice (some ⟨vb,0,none⟩) os.length iJ) os,x∈blk (.slice (some ⟨vb,0,none⟩) (os.length+1) iJ) (os++[e]):=fun x hx=>by rw[qQ];exact atO _ hx
 have hlies:∀m,Lies base (blk (.slice (some ⟨vb,0,none⟩) (os.length+1) iJ) (os++[e])) w m→Lies base (blk (.slice (some ⟨vb,0,none⟩) os.length iJ) os) w m:=fun m hm=>hm.less fun x hx=>.inl (hsub x hx);refine⟨⟨?_,fun e0 he0=>h.kid e0 (atO _ he0),by rw[WE];exact Ic.1,fun e0 he0 m hm=>hlies m (h.lies e0 (atO _ he0) m hm)⟩,?_,hsub⟩;rcases h.own.2 with⟨hv,_⟩|⟨g',cap',cur,hv,hb,hh,yI,hcm,hcs,ht⟩
 cases hv
 injection hv with h1 h2 h3
 injection h1 with h1
 injection h1 with h1 _ _
 subst h1;subst h3;have hlen:(os++[e]).length=os.length+1:=by simp
 rw[hlen,oh]at ht;rw[hlen]at yI;refine⟨by rw[kG],.inr ⟨vb,iJ,cur,rfl,hb,hh,by omega,hcm,hcs,?_⟩⟩;have:=congrArg (List.take (os.length*5)) ht;rw[List.take_take,Nat.min_eq_left (by omega),List.take_left' (kG os)]at this;exact this;have hk:=h.kid e (by simp);obtain⟨k,s,n,A,c,l,p⟩:=e;refine .mk (Ea hk) (fun ad hA=>?_) fun m hm=>hlies m (h.lies (.mk k s n A c l p) (by simp) m hm);subst hA;have hown:(M.kv (.mk k s n (some ad) c l p)).ownBlock=some ad.block:=rfl;refine⟨(hk.lt _ hown).1,(hk.lt _ hown).2,fun hm=>?_⟩;rw[WE]at hm;exact Ic.2.2 _ hm _ (aB.2 hown) rfl
theorem zx {α:Type} (l:List α) (h:l≠[]):∃l' a,l=l'++[a]:=⟨l.dropLast,l.getLast h,(List.dropLast_concat_getLast h).symm⟩
theorem Qe {v v1:Value} (h:v1.ownBlock=v.ownBlock):foot v1=foot v:=by unfold foot;rw[h]
theorem Opn.push {base:Nat} {w w2:World} {v v1:Value} {os:List M} {q:Nat} {k:Int} {s:By} {n:Int} {p:Nat} (h:Opn base w v os) (hq:q=os.length) (h1:w2.ownsRow base 101 5 v1 (q+1) (jX os++mc (ng k s n p))) (B:But (foot v) w w2)
  (h3:v1.ownBlock=v.ownBlock∨∃g,v1.ownBlock=some g∧w.heap.size≤g):Opn base w2 v1 (os++[ng k s n p])∧(∀x∈blk v1 (os++[ng k s n p]),x∈blk v os∨w.heap.size≤x):=by
 subst hq;have Ic:=au0.1 (show (foot v++os.flatMap fun e=>foot e.kv).Nodup from h.nd);have WE:blk v1 (os++[ng k s n p])=foot v1++os.flatMap fun e=>foot e.kv:=by rw[qQ,show foot (ng k s n p).kv=[] from rfl,auX];rfl
 have hsub:∀x∈blk v1 (os++[ng k s n p]),x∈blk v os∨w.heap.size≤x:=fun x hx=>by
  rw[WE]at hx;rcases atK.1 hx with h4|h4;rcases h3 with h5|⟨g,h5,h6⟩
  rw[Qe h5]at h4;exact .inl (atO _ h4);have:=aB.1 h4;rw[h5]at this;simp at this;exact .inr (by omega);exact .inl (auk _ h4)
 refine⟨⟨by rw[oh,nK,show (os++[ng k s n p]).length=os.length+1 by simp];exact h1,fun e he=>?_,?_,fun e he m hm=>?_⟩,hsub⟩;rcases atK.1 he with h4|h4;exact Vx (h.kid e h4) B fun g hg hm=>Ic.2.2 _ hm _ (auP.2 ⟨e,h4,aB.2 hg⟩) rfl;simp at h4;subst h4;exact World.ownsRow_nil _ _ _ _
 ·rw[WE,au0];refine⟨?_,Ic.2.1,fun a ha b hb=>?_⟩
  ·unfold foot
   cases v1.ownBlock<;>simp
  rcases h3 with h5|⟨g,h5,h6⟩
  rw[Qe h5]at ha;exact Ic.2.2 a ha b hb;have h7:=aB.1 ha;rw[h5]at h7;simp at h7;have h8:=(h.range (g:=b) (auk _ hb)).2;omega
 rcases atK.1 he with h4|h4;exact (h.lies e h4 m hm).move (B.wide fun x hx=>.inl (atO _ hx)) (fun x hx=>(hsub x hx).imp id .inr);simp at h4;subst h4
 cases hm
def abr (base:Nat) (v:Value) (os:List M) (t:T) (w:World) (r:Ending) (w':World):Prop:=
 ∃v' os',r=.returned v'∧Opn base w' v' os'∧os'.map M.t=sxTake (os.map M.t) t∧os'≠[]∧But (blk v os) w w'∧(∀x∈blk v' os',x∈blk v os∨w.heap.size≤x)
theorem abt {base:Nat} {v:Value} {os:List M} (w:World) (h:Opn base w v os) (h0:os≠[]) (k:Int) (s:By) (n:Int) (p:Nat) (hk:k=-1→2≤os.length) (hl:os.length≤1000000) (ou:∀e∈os,e.kids.length≤1000000):
  Calls Tryz.prog 110 #[v,mv (ng k s n p)] w (abr base v os (ng k s n p).t w):=by
 obtain⟨vb,iJ,rfl,hle,hmx,hvb,hlt,_,_⟩:=h.at h0;obtain⟨w0,hw0⟩:∃w0,w0=w.alloc (.cells (mc (ng k s n p)).toArray 101):=⟨_,rfl⟩
 have aT:Ev w w0:=hw0▸Ev.alloc w _;have hb:w0.heap[w.heap.size]?=some (.cells (mc (ng k s n p)).toArray 101 (0,0)):=by rw[hw0];exact heap_alloc_new _ _
 have h':=h.ev aT;have hck:∀j u,(mc (ng k s n p))[j]?=some u→w0.cell? ⟨w.heap.size,j,none⟩=some u:=fun j u hu=>by rw[Lib.cell_of_heap hb];simpa using hu
 have b0:w0.cell? ⟨w.heap.size,0,none⟩=some (.int .i64 k):=hck 0 _ rfl;have b1:w0.cell? ⟨w.heap.size,1,none⟩=some (.string ⟨s.toArray⟩):=hck 1 _ rfl;have b2:w0.cell? ⟨w.heap.size,2,none⟩=some (.int .i64 n):=hck 2 _ rfl;have b3:w0.cell? ⟨w.heap.size,3,none⟩=some (.slice none 0 0):=hck 3 _ rfl;have b4:w0.cell? ⟨w.heap.size,4,none⟩=some (.int .i64 (p:Int)):=hck 4 _ rfl;have Wp:w.alloc (.cells #[.int .i64 k,.string ⟨s.toArray⟩,.int .i64 n,.slice none 0 0,.int .i64 (p:Int)] 101)=w0:=hw0.symm;have hmv:mv (ng k s n p)=.agg #[.int .i64 k,.string ⟨s.toArray⟩,.int .i64 n,.slice none 0 0,.int .i64 (p:Int)]:=rfl;have hlw:w.heap.size<w0.heap.size:=by rw[hw0];simp
 have hT:(ng k s n p).t.kind=k:=by rw[M.vW];rfl
 clear hb hck hw0;rw[hmv];by_cases k1:k=1
 ·subst k1;have hTk:sxTake (os.map M.t) (ng 1 s n p).t=os.map M.t++[(ng 1 s n p).t]:=by unfold sxTake;rw[hT];rfl
  obtain⟨q,hq⟩:∃q,q=os.length:=⟨_,rfl⟩
  rw[←hq]at h h' hle hl⊢;have HH:=zq h';have HQ:=zq hq;have HTk:=zq hTk;have aH:Ev w0 (w0.alloc (.cells #[.int .i64 1,.string ⟨s.toArray⟩,.int .i64 n,.slice none 0 0,.int .i64 (p:Int)] 101)):=Ev.alloc _ _;have HZ:Hid (∀j u,(mc (ng 1 s n p))[j]?=some u→(w0.alloc (.cells #[.int .i64 1,.string ⟨s.toArray⟩,.int .i64 n,.slice none 0 0,.int .i64 (p:Int)] 101)).cell? ⟨w0.heap.size,j,none⟩=some u):=zq fun j u hu=>by rw[Lib.cell_of_heap (heap_alloc_new w0 _)];simpa[mc,ng,M.kind,M.s,M.n,M.kv,M.A,M.kids,M.cap,M.pos] using hu
  have MN:base≤w0.heap.size:=by have:=h'.range (g:=vb) (xI.2 (.inl rfl));omega
  clear hq hTk hT h';go_enter Tryz.func110,Tryz.ntmps110
  go_wp2_with (first
   | ((show wpList _ _ _ (⟨some 19,_,_,_,_,_⟩::_) _ _);refine Gt (o:=⟨some 19,_,_,_,_,_⟩) rfl (.tmp 16) (.tmp 18) rfl Tryz.underlying99 Tryz.infoTree base (.slice (some ⟨vb,0,none⟩) q iJ) q (jX os) rfl (by have:=(HH.out.ev aH).own;rwa [←HQ.out]at this) w0.heap.size 1 rfl (ng 1 s n p) HZ.out hl (atP MN aH.size) ?_;intro v1 w1 h1 h2 h3;obtain⟨A1,n1,cap1,rfl⟩:∃A1 n1 cap1,v1=.slice A1 n1 cap1:=(by rcases h1.2 with⟨rfl,_⟩|⟨g,cap,cur,rfl,_⟩<;>exact⟨_,_,_,rfl⟩)))
  go_ret;have hB:But (foot (.slice (some ⟨vb,0,none⟩) q iJ)) w w1:=((But.aS aT).then (But.aS aH)).then (But.grown h2 fun g hg=>aB.2 hg);have hP:=Opn.push (k:=1) (s:=s) (n:=n) (p:=p) h HQ.out h1 hB (by
   rcases h3 with h4|h4;exact .inl h4;exact .inr ⟨_,h4,atP aT.size aH.size⟩)
  exact⟨_,_,rfl,hP.1,by rw[HTk.out];simp,by simp,hB.wide fun x hx=>.inl (atO _ hx),hP.2⟩
 have k1':(k==1)=false:=atp.2 k1;by_cases k2:k=-1
 ·subst k2;obtain⟨os0,e,rfl⟩:=zx os h0;have h00:os0≠[]:=by intro h5;subst h5;have:=hk rfl;simp at this
  obtain⟨os1,e1,rfl⟩:=zx os0 h00;have hTk:sxTake ((os1++[e1]++[e]).map M.t) (ng (-1) s n p).t=os1.map M.t++[e1.t.add e.t]:=by unfold sxTake;rw[hT];simp only[atB,atx,atQ,List.getLast?_append,List.getLast?_singleton,List.dropLast_concat];exact nJ _ _ _
  have HTk:=zq hTk;obtain⟨q,hq⟩:∃q,(os1++[e1]).length=q:=⟨_,rfl⟩
  have qP:1≤q:=by rw[←hq];simp
  have hlen:(os1++[e1]++[e]).length=q+1:=by rw[atv,hq];rfl
  rw[hlen]at h h' hle hl⊢;obtain⟨hp1,hp2,hp3⟩:=h'.pop hq;obtain⟨_,_,Yf,_,_,_,_,hfr,hc⟩:=h'.at (by simp);injection Yf with KZ hv2 hv3
  injection KZ with KZ
  injection KZ with KZ _ _
  subst KZ;subst hv3;clear hv2;obtain⟨c0,c1,c2,c3,c4⟩:=hc q e (by rw[←hq];simp);have HP:=fun w1 (hE:Ev w0 w1)=>YL w1 (hp1.ev hE) (hp2.ev hE) (ou e1 (by simp));unfold mv at HP;have HP:=zq HP;have aoU:vb<w0.heap.size:=atM hlt aT.size;have i1:(0:Int)≤(q:Int):=by omega
  have i2:(q:Int)<(q:Int)+1:=by omega
  have i3:(q:Int)≤(iJ:Int):=by omega
  have i4:q≤iJ:=by omega
  have i5:¬(iJ<q):=by omega
  have HS3:=zq hp3;have hBk:Hid (∀w3,But (blk (.slice (some ⟨vb,0,none⟩) q iJ) (os1++[e1])) w0.drew w3→But (blk (.slice (some ⟨vb,0,none⟩) (q+1) iJ) (os1++[e1]++[e])) w w3):=zq fun w3 hb'=>(But.aS (aT.trans (Ev.drew w0))).then (hb'.wide fun x hx=>.inl (hp3 x hx));clear hTk hT h' hp1 hp2 hc hfr hq ou hk hlen hp3;go_enter Tryz.func110,Tryz.ntmps110
  go_wp2_with fail
  go_region_with (first|((with_reducible refine (HP.out _ (Ev.drew _)).mono ?_);rintro r w3 ⟨rfl,e',he',P9,hb',hs'⟩))
  all_goals (go_wp2;go_ret;exact⟨_,_,rfl,P9,by rw[HTk.out];simp[he'],by simp,hBk.out _ hb',fun x hx=>(hs' x hx).imp (HS3.out x) (fun h5=>atP aT.size h5)⟩)
 have k2':(k==-1)=false:=atp.2 k2;obtain⟨os1,e1,rfl⟩:=zx os h0;have hTk:sxTake ((os1++[e1]).map M.t) (ng k s n p).t=os1.map M.t++[e1.t.add (ng k s n p).t]:=by unfold sxTake;rw[hT];simp only[k1',k2',atB,atx,atQ,atE,if_false];exact nJ _ _ _
 have HTk:=zq hTk;have HP:=fun w1 (hE:Ev w0 w1)=>YL w1 (h'.ev hE) (Lies.tok _ _ w1 k s n p) (ou e1 (by simp));rw[hmv]at HP;have HP:=zq HP;obtain⟨q,hq⟩:∃q,(os1++[e1]).length=q:=⟨_,rfl⟩
 rw[hq]at hle HP h⊢;have qP:1≤q:=by rw[←hq];simp
 clear hTk hT h' hq ou hk;go_enter Tryz.func110,Tryz.ntmps110
 go_wp2_with (first|((with_reducible refine (HP.out _ (Ev.refl _)).mono ?_);rintro r w3 ⟨rfl,e',he',P9,hb',hs'⟩))
 go_ret;exact⟨_,_,rfl,P9,by rw[HTk.out];simp[he'],by simp,(But.aS aT).then hb',fun x hx=>(hs' x hx).imp id (fun h5=>atP aT.size h5)⟩
theorem aw4 {P:Prop} (h:P:=by refine⟨fun hw=>⟨(h1 hw).1,by have:=(h1 hw).2;simp only[atF];omega⟩,fun hw=>⟨(h2 hw).1,by have:=(h2 hw).2;omega,by have:=(h2 hw).2;simp only[atF];omega⟩⟩):P:=h
theorem kH:∀(N:Nat) (r b:By) (i:Nat),r.length≤N→((sxTextGo b r i).why≠0→(sxTextGo b r i).kind=0∧((sxTextGo b r i).fault≤i+r.length))∧((sxTextGo b r i).why=0→(sxTextGo b r i).kind=4∧i+1≤(sxTextGo b r i).size∧(sxTextGo b r i).size≤i+r.length)
 | 0,[],b,i,_=>by simp[sxTextGo,aV]
 | N+1,[],b,i,_=>by simp[sxTextGo,aV]
 | 0,c::q,b,i,h=>by simp at h
 | N+1,c::q,b,i,h=>by
  have hq:q.length≤N:=by simpa using h
  unfold sxTextGo;by_cases hp:bV c=true;rw[if_pos hp];obtain⟨h1,h2⟩:=kH N q (b++[c]) (i+1) hq;exact aw4;rw[if_neg hp];by_cases SI:(c.toNat==92)=true;rw[if_pos SI]
  cases q with
  | nil=>simp[aV]
  | cons x q1=>
   simp only[]
   cases hx:gV x with
   | none=>
    simp[aV]
   | some a=>
    cases q1 with
    | nil=>simp[aV]
    | cons y q2=>
     simp only[]
     cases hy:gV y with
     | none=>
      simp[aV]
     | some k=>
      simp only[];obtain⟨h1,h2⟩:=kH N q2 (b++[UInt8.ofNat (16*a+k)]) (i+3) (by simp at hq;omega);exact aw4
  rw[if_neg SI];by_cases Ib:(c.toNat==34)=true;rw[if_pos Ib];by_cases Gq:40<b.length;rw[if_pos Gq];simp[aV];rw[if_neg Gq];simp;rw[if_neg Ib];simp[aV]
theorem kD (plus:Bool) (d:By) (hd:∀c∈d,aW c=true):((sxNum plus d).why≠0→(sxNum plus d).kind=0∧(sxNum plus d).fault=0)∧
  ((sxNum plus d).why=0→(sxNum plus d).kind=3∧1≤d.length∧(sxNum plus d).size=(if plus then d.length else 1+d.length)∧(if plus then 0≤(sxNum plus d).n else (sxNum plus d).n≤0)):=by
 unfold sxNum
 cases hb:sxBelow d 0 with
 | none=>simp[aV]
 | some n=>
  have hr:=qE d hd 0 n (by omega) (by omega) hb;simp only[];by_cases h1:(d.isEmpty||plus&&decide (n=-9223372036854775808))=true;rw[if_pos h1];simp[aV];rw[if_neg h1];have hne:d.isEmpty=false:=by
   cases hd':d.isEmpty
   rfl;rw[hd']at h1;simp at h1
  have hlen:1≤d.length:=by
   cases d with
   | nil=>simp at hne
   | cons c q=>simp
  cases plus
  simp[hlen];omega;simp[hlen];omega
structure TI (c:UInt8) (r:By) (x:Tk):Prop where
 bad:x.why≠0→x.kind=0∧x.fault≤r.length
 good:x.why=0→1≤x.size∧x.size≤r.length∧
  ((x.kind=1∧c.toNat=40)∨x.kind=-1∨(x.kind=2∧97≤c.toNat∧c.toNat≤122∧∃q,x.s=c::q)∨(x.kind=3∧(c.toNat=45∧x.n≤0∨48≤c.toNat∧c.toNat≤57∧0≤x.n))∨(x.kind=4∧c.toNat=34))
theorem wI (c:UInt8) (q:By):TI c (c::q) (bF (c::q)):=by
 simp only[bF];by_cases Gq:(c.toNat==40)=true;rw[if_pos Gq];have ajq:c.toNat=40:=by simpa using Gq
 exact⟨fun h=>absurd rfl h,fun _=>⟨att _,by simp,.inl ⟨rfl,ajq⟩⟩⟩;rw[if_neg Gq];by_cases YF:(c.toNat==41)=true;rw[if_pos YF];exact⟨fun h=>absurd rfl h,fun _=>⟨att _,by simp,.inr (.inl rfl)⟩⟩;rw[if_neg YF];by_cases Ib:(c.toNat==34)=true;rw[if_pos Ib];have ajr:c.toNat=34:=by simpa using Ib
 obtain⟨h1,h2⟩:=kH q.length q [] 1 (att _);exact⟨fun h=>⟨(h1 h).1,by have:=(h1 h).2;simp;omega⟩,fun h=>⟨by have:=(h2 h).2;omega,by have:=(h2 h).2;simp;omega,.inr (.inr (.inr (.inr ⟨(h2 h).1,ajr⟩)))⟩⟩;rw[if_neg Ib];by_cases hn:(c.toNat==45||aW c)=true;rw[if_pos hn];simp only[dI];by_cases h45:(c.toNat==45)=true;rw[if_pos h45];have ajs:c.toNat=45:=by simpa using h45
 obtain⟨h1,h2⟩:=kD false (dE q) (eH q);have hl:=sD q;have hr:=jr aW q;refine⟨fun h=>⟨(h1 h).1,by rw[(h1 h).2];exact atG _⟩,fun h=>?_⟩;obtain⟨g1,g2,g3,g4⟩:=h2 h;simp at g3 g4;refine⟨by omega,by simp;omega,.inr (.inr (.inr (.inl ⟨g1,.inl ⟨ajs,g4⟩⟩)))⟩;rw[if_neg h45];have K_:aW c=true:=by simpa[h45] using hn
 have af':48≤c.toNat∧c.toNat≤57:=by simpa[aW] using K_
 obtain⟨h1,h2⟩:=kD true (dE (c::q)) (eH (c::q));have hl:=sD (c::q);have hr:=jr aW (c::q);refine⟨fun h=>⟨(h1 h).1,by rw[(h1 h).2];exact atG _⟩,fun h=>?_⟩;obtain⟨g1,g2,g3,g4⟩:=h2 h;simp at g3 g4;refine⟨by omega,by omega,.inr (.inr (.inr (.inl ⟨g1,.inr ⟨af'.1,af'.2,g4⟩⟩)))⟩;rw[if_neg hn];by_cases hl:bf c=true;rw[if_pos hl];have hr:=jr bf (c::q);have hr1:sxRun bf (c::q)=sxRun bf q+1:=by simp[sxRun,hl]
 have hl':97≤c.toNat∧c.toNat≤122:=by simpa[bf] using hl
 refine⟨fun h=>absurd rfl h,fun _=>⟨by simp only[];omega,hr,.inr (.inr (.inl ⟨rfl,hl'.1,hl'.2,q.take (sxRun bf q),?_⟩))⟩⟩;simp only[];rw[hr1,auz];rw[if_neg hl];exact⟨fun _=>⟨rfl,atG _⟩,fun h=>by simp[aV]at h⟩
theorem Ie {os:List T} {c:UInt8} {r:By} {x:Tk} (h:TI c r x) (hj:(iD os x).1=0):x.why=0∧(x.kind=-1→os.length≠1)∧(x.kind≠-1→sxDone os=false)∧(x.kind=1→os.length≤12):=by
 unfold iD at hj;by_cases h1:(!(x.why==0)&&!(sxDone os&&decide (0<x.fault)))=true;rw[if_pos h1]at hj;simp only at hj;rw[hj]at h1;simp at h1;rw[if_neg h1]at hj;by_cases h2:(x.kind==-1&&os.length==1)=true;rw[if_pos h2]at hj;cases hj;rw[if_neg h2]at hj;by_cases h3:(!(x.kind==-1)&&sxDone os)=true;rw[if_pos h3]at hj;cases hj;rw[if_neg h3]at hj;by_cases h4:(x.kind==1&&decide (12<os.length))=true;rw[if_pos h4]at hj;cases hj;have hw:x.why=0:=by
  apply Classical.byContradiction;intro hw;have hk:=(h.bad hw).1;rw[hk]at h3;have hw':(x.why==0)=false:=atp.2 hw;rw[hw']at h1
  cases hD:sxDone os
  rw[hD]at h1;simp at h1;rw[hD]at h3;simp at h3
 refine⟨hw,fun hk hl=>h2 (by rw[hk,hl];rfl),fun hk=>?_,fun hk=>?_⟩
 cases hD:sxDone os
 rfl;exact absurd (by rw[hD,atp.2 hk];rfl) h3;apply Classical.byContradiction;intro hl;exact h4 (by rw[hk,atX (by omega)];rfl)
theorem Lc {os:List T} {c:UInt8} {r:By} {x:Tk} (h:TI c r x) (hj:(iD os x).1≠0):(iD os x).2≤r.length:=by unfold iD at hj⊢;by_cases h1:(!(x.why==0)&&!(sxDone os&&decide (0<x.fault)))=true;rw[if_pos h1]at hj⊢;exact (h.bad hj).2;rw[if_neg h1];split;exact atG _;split;exact atG _;split<;>exact atG _
theorem tq:∀(os:List T) (t:T),(sxPut os t).length=os.length
 | [],t=>rfl
 | [e],t=>rfl
 | e::e'::os,t=>by have:=tq (e'::os) t;unfold sxPut;simp only[atF]at this⊢;omega
theorem T.Qg (e t:T):(e.add t).kids=e.kids++[t]:=rfl
theorem A7:∀(os:List T) (t:T) (i:Nat),(∀e∈os,e.kids.length≤i)→∀e∈sxPut os t,e.kids.length≤i+1
 | [],t,i,h=>fun e he=>by cases he
 | [a],t,i,h=>fun e he=>by simp[sxPut]at he;subst he;rw[T.Qg];have:=h a (by simp);simp;omega
 | a::b::os,t,i,h=>fun e he=>by unfold sxPut at he;rcases atA.1 he with rfl|he;have:=h e (by simp);omega;exact A7 (b::os) t i (fun x hx=>h x (aty _ hx)) e he
theorem TJ (os:List T) (t:T):(sxTake os t).length≤os.length+1:=by
 unfold sxTake;split;simp;split;cases h:os.getLast? with
 | none=>simp
 | some e=>simp only[tq,List.length_dropLast];omega
 rw[tq];omega
theorem Qh (os:List T) (t:T) (i:Nat) (h:∀e∈os,e.kids.length≤i) (ht:t.kids=[]):∀e∈sxTake os t,e.kids.length≤i+1:=by
 unfold sxTake;split;intro e he;rcases atK.1 he with h1|h1;have:=h e h1;omega;simp at h1;subst h1;rw[ht];simp;split
 cases hl:os.getLast? with
 | none=>exact fun e he=>by have:=h e he;omega
 | some e0=>
  exact A7 _ _ i (fun x hx=>h x (List.dropLast_subset _ hx))
 exact A7 _ _ i h
structure yw (g:Nat) (w:World):Prop where
 blk:w.heap[g]?=some (.cells (Qc 0 0 0 ⟨#[]⟩ (.slice none 0 0)) 101 (0,0))
theorem yw.but {K:List Nat} {g:Nat} {w w':World} (h:yw g w) (hb:But K w w') (hn:g∉K):yw g w':=⟨hb.heap h.blk hn⟩
theorem yw.ev {g:Nat} {w w':World} (h:yw g w) (hE:Ev w w'):yw g w':=h.but (But.aS (K:=[]) hE) (by simp)
theorem yw.cs {g:Nat} {w:World} (h:yw g w):w.cell? ⟨g,0,none⟩=some (.int .i64 0)∧w.cell? ⟨g,1,none⟩=some (.string ⟨#[]⟩)∧w.cell? ⟨g,2,none⟩=some (.int .i64 0)∧w.cell? ⟨g,3,none⟩=some (.slice none 0 0)∧w.cell? ⟨g,4,none⟩=some (.int .i64 0)∧
  w.frozen? ⟨g,0,none⟩=false∧w.frozen? ⟨g,1,none⟩=false∧w.frozen? ⟨g,2,none⟩=false∧w.frozen? ⟨g,3,none⟩=false∧w.frozen? ⟨g,4,none⟩=false:=by
 refine⟨?_,?_,?_,?_,?_,Lib.frozen_of_heap h.blk 0,Lib.frozen_of_heap h.blk 1,Lib.frozen_of_heap h.blk 2,Lib.frozen_of_heap h.blk 3,Lib.frozen_of_heap h.blk 4⟩<;>(rw[Lib.cell_of_heap h.blk];rfl)
def Qi (g:Nat) (k n p:Int) (s:ByteArray) (v:Value) (w:World):World:=
 ((((w.setCell ⟨g,0,none⟩ (.int .i64 k)).setCell ⟨g,1,none⟩ (.string s)).setCell ⟨g,2,none⟩ (.int .i64 n)).setCell ⟨g,3,none⟩ v).setCell ⟨g,4,none⟩ (.int .i64 p)
theorem Ig (g:Nat) (k n p:Int) (s:ByteArray) (v:Value) (w:World):
 ((((w.setCell ⟨g,0,none⟩ (.int .i64 k)).setCell ⟨g,1,none⟩ (.string s)).setCell ⟨g,2,none⟩ (.int .i64 n)).setCell ⟨g,3,none⟩ v).setCell ⟨g,4,none⟩ (.int .i64 p)=Qi g k n p s v w:=rfl
theorem Eb (g:Nat) (k n p:Int) (s:ByteArray) (v:Value) (w:World):But [g] w (Qi g k n p s v w):=
 ((((But.setCell ⟨g,0,none⟩ _ (by simp)).then (But.setCell ⟨g,1,none⟩ _ (by simp))).then (But.setCell ⟨g,2,none⟩ _ (by simp))).then (But.setCell ⟨g,3,none⟩ _ (by simp))).then (But.setCell ⟨g,4,none⟩ _ (by simp))
theorem yw.set {g:Nat} {w:World} (h:yw g w) (k n p:Int) (s:ByteArray) (v:Value):(Qi g k n p s v w).heap[g]?=some (.cells (Qc k n p s v) 101 (0,0)):=by have:=fD 4 (.int .i64 p) (fD 3 v (fD 2 (.int .i64 n) (fD 1 (.string s) (fD 0 (.int .i64 k) h.blk))));rwa [show (((((Qc 0 0 0 ⟨#[]⟩ (.slice none 0 0)).setIfInBounds 0 (.int .i64 k)).setIfInBounds 1 (.string s)).setIfInBounds 2 (.int .i64 n)).setIfInBounds 3 v).setIfInBounds 4 (.int .i64 p)=Qc k n p s v by simp[Qc]]at this
theorem Vy {w1:World} {g:Nat} {fn:Func} {p u1 u2:Tmp} (tmps:Array Value) (h:yw g w1) (k n q:Int) (s:ByteArray) (v:Value) (hf:fn.results=#[.cell p 101,.tmp u1,.tmp u2]) (hp:tmps.getD p undef=.pointer (some ⟨g,0,none⟩)):
  (results fn tmps).run Tryz.prog (Qi g k n q s v w1)=.ok (.tuple #[.agg (Qc k n q s v),tmps.getD u1 undef,tmps.getD u2 undef]) (Qi g k n q s v w1):=
 zu hf tmps _ g k n q s v hp (h.set k n q s v)
structure NZ (w0:World) (v:Value) (os:List M) (i:Nat) (w:World):Prop where
 opn:Opn (w0.heap.size+1) w v os
 ev:Ev w0 w
 box:yw w0.heap.size w
 some_:os≠[]
 few:os.length≤i+1
 kids:∀e∈os,e.kids.length≤i
theorem NZ.evs {w0 w w':World} {v:Value} {os:List M} {i:Nat} (h:NZ w0 v os i w) (hE:Ev w w'):NZ w0 v os i w':=
 ⟨h.opn.ev hE,h.ev.trans hE,h.box.ev hE,h.some_,h.few,h.kids⟩
theorem NZ.high {w0 w:World} {v:Value} {os:List M} {i:Nat} (h:NZ w0 v os i w):∀x∈blk v os,w0.heap.size<x:=fun x hx=>by have:=(h.opn.range hx).1;omega
theorem NZ.next {w0 w w':World} {v v':Value} {os os':List M} {i i':Nat} {t:T} (h:NZ w0 v os i w) (ho:Opn (w0.heap.size+1) w' v' os') (hm:os'.map M.t=sxTake (os.map M.t) t) (ht:t.kids=[]) (hn:os'≠[]) (hb:But (blk v os) w w') (hi:i<i'):NZ w0 v' os' i' w':=by
 refine⟨ho,((But.aS (K:=blk v os) h.ev).then hb).ev fun k hk=>by have:=h.high k hk;omega,h.box.but hb fun hk=>by have:=h.high _ hk;omega,hn,?_,fun e he=>?_⟩;have h1:=TJ (os.map M.t) t;rw[←hm,atq,atq]at h1;have:=h.few;omega;have h1:=Qh (os.map M.t) t i (fun e he=>by
  obtain⟨m,hm',rfl⟩:=atV.1 he;rw[M.aY,atq];exact h.kids m hm') ht e.t (by rw[←hm];exact atV.2 ⟨e,he,rfl⟩)
 rw[M.aY,atq]at h1;omega
theorem WG {K:List Nat} {w4 w6:World} {gx:Nat} {j v:Value} (hb:But K (w4.setCell ⟨gx,4,none⟩ j) w6) (hx:gx∉K) (hlt:gx<w4.heap.size) (c:w4.cell? ⟨gx,5,none⟩=some v):w6.cell? ⟨gx,5,none⟩=some v:=by rw[World.cell?_of_block (w:=w4.setCell ⟨gx,4,none⟩ j) (hb.block gx (by simpa[World.setCell] using hlt) hx)];have h2:(w4.setCell ⟨gx,4,none⟩ j).cell? ⟨gx,5,none⟩=w4.cell? ⟨gx,5,none⟩:=World.cell?_setCell_other _ _ _ _ (by simp);exact h2.trans c
theorem Opn.init (w:World):Opn (w.heap.size+1) ((w.alloc (.cells #[.int .i64 0,.string ⟨#[]⟩,.int .i64 0,.slice none 0 0,.int .i64 0] 101)).alloc (.cells #[.int .i64 0,.string ⟨#[]⟩,.int .i64 0,.slice none 0 0,.int .i64 0] 101)) (.slice (some ⟨w.heap.size+1,0,none⟩) 1 1) [iK]:=by
 refine⟨⟨rfl,.inr ⟨w.heap.size+1,1,_,rfl,att _,heap_alloc2_new w _ _,att _,by decide,rfl,rfl⟩⟩,fun e he=>?_,?_,fun e he m hm=>?_⟩;simp at he;subst he;exact World.ownsRow_nil _ _ _ _;simp[blk,foot,Value.ownBlock,iK,M.kv,M.A];simp at he;subst he
 cases hm
def qG (R:Res) (w:World) (e:Ending) (w':World):Prop:=
 ∃m:M,e=.returned (.tuple #[.agg #[.int .i64 m.kind,.string ⟨m.s.toArray⟩,.int .i64 m.n,.slice m.A m.kids.length m.cap,.int .i64 (m.pos:Int)],.int .i64 R.2.1,.int .i64 (R.2.2:Int)])∧m.t=R.1∧Lies w.heap.size [] w' m∧Ev w w'
theorem GZ (s0:ByteArray) (w:World) (hs:s0.size≤100000):
  Calls Tryz.prog 57 #[.string s0] w (qG (eF s0.data.toList) w):=by
 have jd:s0.data.toList.length=s0.size:=by rw[atU];rfl
 have HL:=zq jd;obtain⟨R,hR⟩:∃R,R=eF s0.data.toList:=⟨_,rfl⟩
 rw[←hR];unfold eF at hR;rw[jd]at hR;have HR:=zq hR;clear hR jd;go_enter Tryz.func57,Tryz.ntmps57;go_wp2;refine Ae 0 60 (fun s w2=>s 0=.string s0∧s 2=.pointer (some ⟨w.heap.size,0,none⟩)∧∃(v:Value) (os:List M) (i f:Nat),s 5=v∧s 6=.int .i64 (i:Int)∧i≤s0.size∧s0.size - i<f∧NZ w v os i w2∧Hid (R=sxGo f (os.map M.t) (s0.data.toList.drop i) i)) (fun s _=>s0.size - (intOf (s 6)).toNat) rfl ?_ ?_
 ·rintro s w2 ⟨h0,h2,v,os,i,f,h5,h6,hi,hf,ST,HT⟩;change Code.wp _ _ _ ⟨#[s 0,s 1,s 2,s 3,s 4,s 5,s 6,s 7,s 8,s 9,s 10,s 11,s 12,s 13,s 14,s 15,s 16,s 17,s 18,s 19,s 20,s 21,s 22,s 23,s 24,s 25,s 26,s 27,s 28,s 29,s 30,s 31,s 32,s 33,s 34,s 35,s 36,s 37,s 38,s 39,s 40,s 41,s 42,s 43,s 44,s 45,s 46,s 47,s 48,s 49,s 50,s 51,s 52,s 53,s 54,s 55,s 56,s 57,s 58,s 59],[]⟩ _;simp only[h0,h2,h5,h6];clear h0 h2 h5;obtain⟨f,rfl⟩:∃f',f=f'+1:=⟨f - 1,by omega⟩
  obtain⟨r,hr⟩:∃r:ByteArray,r=s0.extract i s0.size:=⟨_,rfl⟩
  have hx:s0.extract i s0.size=r:=hr.symm;have hrl:r.data.toList=s0.data.toList.drop i:=by rw[hr,Lib.extract_eq,atJ (by rw[at1,HL.out];exact att _)]
  have hrz:r.size=s0.size - i:=by
   have:r.data.toList.length=r.size:=by rw[atU];rfl
   rw[←this,hrl,at1,HL.out]
  have HB:=zq (fun w1=>H7 r w1 (by omega));rw[hrl]at HB;have adO:=jr dA (s0.data.toList.drop i);rw[at1,HL.out]at adO;have HGO:=HT.out;unfold sxGo at HGO;rw[List.drop_drop]at HGO;generalize hp:sxRun dA (s0.data.toList.drop i)=p at*;have HG:=zq HGO;clear hr hrl hp HT HGO hrz;go_upto_region 6 with (first
   | ((with_reducible refine (HB.out _).mono ?_);rintro e w3 ⟨rfl,rfl⟩))
  have e1:(i:Int)+(p:Int)=((i+p:Nat):Int):=by omega
  simp only[e1];have hj:i+p≤s0.size:=by omega
  have AX:i≤i+p:=by omega
  generalize i+p=j at*;clear HB e1 hx;by_cases hjz:j=s0.size
  ·have rV:Hid (R=jT (os.map M.t) s0.size):=zq (by
    rw[HG.out,auh (by rw[HL.out];omega),hjz])
   have e2:(j:Int)=(s0.size:Int):=by omega
   have HW:=fun w1 (h1:Opn (w.heap.size+1) w1 v os)=>YG w1 h1 ST.some_ s0.size;unfold mv M.kv at HW;have HW:=zq HW;clear HG hjz
   go_wp2_with (first
    | ((with_reducible refine (HW.out _ ST.opn).mono ?_);rintro e w3 ⟨m,rfl,DU,hml,iE⟩;have B4:=(ST.evs iE).box;have E4:=(ST.evs iE).ev;obtain⟨c0,c1,c2,c3,c4,f0,f1,f2,f3,f4⟩:=B4.cs))
   simp only[Exit.jump];rw[Ig];refine bodyPost_ret (Vy _ B4 _ _ _ _ _ rfl rfl) rfl ?_;refine⟨m,?_,by rw[rV.out];exact DU,?_,E4.mZ (Eb _ _ _ _ _ _ _) (att _)⟩;rw[rV.out];rfl;exact ((hml.less (K':=[w.heap.size]) (fun x hx=>by simp at hx;exact .inr (.inl (by omega)))).move (Eb _ _ _ _ _ _ _) (K':=[]) (fun x hx=>by cases hx)).low (aub _)
  have hlt:j<s0.size:=by omega
  have hat:=qN s0 j hlt;obtain⟨c,hc⟩:∃c,s0[j]=c:=⟨_,rfl⟩
  rw[hc]at hat;have hdr:=Cj _ _ _ hat;obtain⟨q,hq⟩:∃q,q=s0.data.toList.drop (j+1):=⟨_,rfl⟩
  rw[←hq]at hdr;have lQ:(c::q).length=s0.size - j:=by rw[←hdr,at1,HL.out]
  have tX:=HG.out;rw[hdr]at tX;simp only[]at tX;have A8:=wI c q;have hjo:=fun h=>Ie (os:=os.map M.t) A8 h;have hjf:=fun h=>Lc (os:=os.map M.t) A8 h;rw[atq]at hjo;have e2:¬((j:Int)=(s0.size:Int)):=by omega
  have e2':((j:Int)==(s0.size:Int))=false:=atp.2 e2;obtain⟨y,hy⟩:∃y:ByteArray,y=s0.extract j s0.size:=⟨_,rfl⟩
  have hxy:s0.extract j s0.size=y:=hy.symm;have yD:y.data.toList=c::q:=by rw[hy,Lib.extract_eq,atJ (by rw[at1,HL.out];exact att _),hdr]
  have hyz:y.size=s0.size - j:=by
   have:y.data.toList.length=y.size:=by rw[atU];rfl
   rw[←this,yD,lQ]
  have HS:=fun w1=>abm y w1 (by omega) (by omega);rw[yD]at HS;have HJ:=fun w1 (h1:Opn (w.heap.size+1) w1 v os)=>YH w1 h1 ST.some_ (bF (c::q));generalize hX:bF (c::q)=X at*;generalize hJ:iD (os.map M.t) X=J at*;obtain⟨k,xs,n,z,yy,ff⟩:=X;obtain⟨jw,jf⟩:=J;simp only[Yd,Vu]at HS HJ tX hjo hjf;have HS:=zq HS;have HJ:=zq (fun w1 (hE:Ev w2 w1)=>HJ w1 (ST.opn.ev hE));have xx:=zq tX;have HQ:=zq hq;have zQ:=zq lQ;have HDR:=zq hdr;have adU:=A8.good;simp only at adU;have HOK:=zq adU;have HJO:=zq hjo;have HJF:=zq hjf;clear hc hat hdr hq lQ HG tX A8 hjo hjf hy yD hJ hX adU;by_cases hw:jw=0
  ·subst hw;obtain⟨hyy,hk2,_,_⟩:=HJO.out rfl;subst hyy;obtain⟨hz1,hz2,_⟩:=HOK.out rfl;rw[zQ.out]at hz2;have rV:Hid (R=sxGo f (sxTake (os.map M.t) (ng k xs n j).t) (s0.data.toList.drop (j+z)) (j+z)):=zq (by
    rw[xx.out];simp only[auc,if_true];rw[←HDR.out,List.drop_drop];rfl)
   have HT:=fun w1 (hE:Ev w2 w1)=>abt w1 (ST.opn.ev hE) ST.some_ k xs n j (fun h=>by
    have:=hk2 h;have h0:=ST.some_
    cases hos:os with
    | nil=>exact absurd hos h0
    | cons a l=>
     cases l with
     | nil=>rw[hos]at this;exact absurd rfl this
     | cons b l=>simp) (by have:=ST.few;omega) (fun e he=>by have:=ST.kids e he;omega)
   rw[show mv (ng k xs n j)=.agg #[.int .i64 k,.string ⟨xs.toArray⟩,.int .i64 n,.slice none 0 0,.int .i64 (j:Int)] from rfl]at HT;have HT:=zq HT;have i1:Hid ((j:Int)+(z:Int)=((j+z:Nat):Int)):=zq (by omega);have ajx:j+z≤s0.size:=by omega
   clear xx HDR HQ zQ HOK HJO HJF hk2 hz2
   go_wp2_with (first
    | ((with_reducible refine (HS.out _).mono ?_);rintro e w3 ⟨rfl,iE⟩)
    | ((with_reducible refine (HJ.out _ (iE.trans (Ev.alloc _ _))).mono ?_);rintro e w4 ⟨rfl,gI⟩;have X4:=(jW.new ⟨k,xs,n,z,0,ff⟩ w3).ev gI;obtain⟨c0,c1,c2,c3,c4,c5,c6,c7⟩:=X4.cs;have f4:=X4.f 4;simp only at c0 c1 c2 c5;have Cm:Ev w2 (w4.setCell ⟨w3.heap.size,4,none⟩ (.int .i64 (j:Int))):=Ev.mZ (g:=w3.heap.size) ((iE.trans (Ev.alloc _ _)).trans gI) (But.setCell _ _ (by simp)) iE.size)
    | ((with_reducible refine (HT.out _ Cm).mono ?_);rintro e w6 ⟨v',os',rfl,P9,hmap',ajy,hb',hs'⟩;have hgx:w3.heap.size∉blk v os:=(fun hm=>by have:=(ST.opn.range hm).2;have:=iE.size;omega);have d5:w6.cell? ⟨w3.heap.size,5,none⟩=some (.int .i64 (z:Int)):=WG hb' hgx X4.lt c5))
   go_step3
   refine⟨rfl,⟨rfl,rfl,rfl,rfl,v',os',j+z,f,rfl,?_,ajx,by omega,?_,?_⟩,?_⟩;rw[←i1.out];rfl
   ·exact (ST.evs Cm).next P9 hmap' rfl ajy hb' (by omega)
   rw[hmap'];exact rV;simp[Act.eval,intOf];omega
  have hw':(jw==0)=false:=atp.2 hw;have hw'':(jw !=0)=true:=auJ.2 hw;have ajz:=HJF.out hw;rw[zQ.out]at ajz;have rV:Hid (R=(dM,jw,j+jf)):=zq (by
   rw[xx.out];simp only[hw',atE,if_false])
  have i2:Hid ((j:Int)+(jf:Int)=((j+jf:Nat):Int)):=zq (by omega);have i3:j+jf≤s0.size:=by omega
  clear xx HDR HQ zQ HOK HJO HJF
  go_wp2_with (first
   | ((with_reducible refine (HS.out _).mono ?_);rintro e w3 ⟨rfl,iE⟩)
   | ((with_reducible refine (HJ.out _ (iE.trans (Ev.alloc _ _))).mono ?_);rintro e w4 ⟨rfl,gI⟩;have X4:=(jW.new ⟨k,xs,n,z,yy,ff⟩ w3).ev gI;have B4:=(ST.evs ((iE.trans (Ev.alloc _ _)).trans gI)).box;have E4:=(ST.evs ((iE.trans (Ev.alloc _ _)).trans gI)).ev;obtain⟨c0,c1,c2,c3,c4,f0,f1,f2,f3,f4⟩:=B4.cs))
  simp only[Exit.jump];rw[Ig];refine bodyPost_ret (Vy _ B4 _ _ _ _ _ rfl rfl) rfl ?_;refine⟨iK,?_,by rw[rV.out];rfl,Lies.zero _ _ _,E4.mZ (Eb _ _ _ _ _ _ _) (att _)⟩;rw[rV.out,←i2.out];rfl
 intro H;by_cases hbig:600<s0.size
 ·have rV:Hid (R=(dM,3,0)):=zq (by rw[HR.out,if_pos hbig]);have e1:(600:Int)<(s0.size:Int):=by omega
  go_wp2
  try simp only[Exit.jump]
  refine bodyPost_ret (zu rfl _ _ w.heap.size 0 0 0 ⟨#[]⟩ (.slice none 0 0) rfl (heap_alloc_new w _)) rfl ?_;refine⟨iK,?_,by rw[rV.out];rfl,Lies.zero _ _ _,Ev.alloc _ _⟩;rw[rV.out];rfl
 have rV:Hid (R=sxGo (s0.size+1) [dM] s0.data.toList 0):=zq (by rw[HR.out,if_neg hbig]);have e1:¬((600:Int)<(s0.size:Int)):=by omega
 go_wp2
 go_step3
 rename_i hK;refine hK _ _ (H _ _ ?_ ?_ ?_);rfl;rfl;refine⟨rfl,rfl,_,[iK],0,s0.size+1,rfl,rfl,atG _,by omega,⟨Opn.init w,(Ev.alloc _ _).trans (Ev.alloc _ _),⟨?_⟩,by simp,by simp,fun e he=>?_⟩,rV⟩;exact heap_alloc2_old w _ _;simp at he;rw[he];exact att _
theorem Ih (w:World) (m:M):(w.alloc (.cells #[.int .i64 m.kind,.string ⟨m.s.toArray⟩,.int .i64 m.n,.slice m.A m.kids.length m.cap,.int .i64 (m.pos:Int)] 101)).heap[w.heap.size]?=some (.cells (mc m).toArray 101 (0,0)):=heap_alloc_new _ _
theorem Ec {w:World} {g:Nat} {m:M} (h:w.heap[g]?=some (.cells (mc m).toArray 101 (0,0))):w.cell? ⟨g,0,none⟩=some (.int .i64 m.kind)∧w.cell? ⟨g,1,none⟩=some (.string ⟨m.s.toArray⟩)∧w.cell? ⟨g,2,none⟩=some (.int .i64 m.n)∧w.cell? ⟨g,3,none⟩=some (.slice m.A m.kids.length m.cap)∧w.cell? ⟨g,4,none⟩=some (.int .i64 (m.pos:Int)):=by refine⟨?_,?_,?_,?_,?_⟩<;>(rw[Lib.cell_of_heap h];rfl)
theorem TK {w w':World} {g:Nat} {o:Obj} (h:w.heap[g]?=some o) (hE:Ev w w'):w'.heap[g]?=some o:=by rw[hE.block g (atC.1 h).1];exact h
theorem Ef (c:UInt8) (w:World):
  Calls Tryz.prog 75 #[.int .u8 (c.toNat:Int)] w fun e w'=>e=.returned (.bool (bf c))∧w=w':=by
 by_cases h1:(97:Int)≤(c.toNat:Int)
 ·have e:bf c=decide ((c.toNat:Int)≤122):=by unfold bf;rw[auq];simp;omega
  rw[e];go_enter Tryz.func75,Tryz.ntmps75;go_wp2;go_ret;exact⟨rfl,rfl⟩
 have e:bf c=false:=by unfold bf;rw[auq];simp;omega
 rw[e];go_enter Tryz.func75,Tryz.ntmps75;go_wp2;go_ret;exact⟨rfl,rfl⟩
theorem Ik (c:UInt8) (w:World):
  Calls Tryz.prog 76 #[.int .u8 (c.toNat:Int)] w fun e w'=>e=.returned (.bool (aW c))∧w=w':=by
 by_cases h1:(48:Int)≤(c.toNat:Int)
 ·have e:aW c=decide ((c.toNat:Int)≤57):=by unfold aW;rw[auq];simp;omega
  rw[e];go_enter Tryz.func76,Tryz.ntmps76;go_wp2;go_ret;exact⟨rfl,rfl⟩
 have e:aW c=false:=by unfold aW;rw[auq];simp;omega
 rw[e];go_enter Tryz.func76,Tryz.ntmps76;go_wp2;go_ret;exact⟨rfl,rfl⟩
def Eg (c:UInt8):Int:=match gV c with
 | none=>-1
 | some a=>(a:Int)
theorem aw' {P:Prop} (h:P:=by
 go_enter Tryz.func160,Tryz.ntmps160
 go_wp2_with (first|((with_reducible refine (HD.out _).mono ?_);rintro x w1 ⟨rfl,rfl⟩))
 go_ret;exact⟨rfl,rfl⟩):P:=h
theorem ad2 (c:UInt8) (w:World):
  Calls Tryz.prog 160 #[.int .u8 (c.toNat:Int)] w fun e w'=>e=.returned (.int .i64 (Eg c))∧w=w':=by
 have HD:=Ik c;have hlt:=c.toNat_lt;by_cases h1:48≤c.toNat∧c.toNat≤57;have e:Eg c=(c.toNat:Int) - 48:=by unfold Eg gV;rw[if_pos h1];simp;omega
 rw[e];rw[show aW c=true by unfold aW;simp;exact h1]at HD;have HD:=zq HD;have i1:IntKind.u8.wrap ((c.toNat:Int) - 48)=(c.toNat:Int) - 48:=IntWalk.u8_in _ (by omega);exact aw';rw[show aW c=false by unfold aW;rw[auq];simp;omega]at HD;have HD:=zq HD;by_cases h2:97≤c.toNat;have j1:(97:Int)≤(c.toNat:Int):=by omega
 by_cases h3:c.toNat≤102;have e:Eg c=(c.toNat:Int) - 97+10:=by unfold Eg gV;rw[if_neg h1,if_pos ⟨h2,h3⟩];simp;omega
 rw[e];have j2:(c.toNat:Int)≤102:=by omega
 have i1:IntKind.u8.wrap ((c.toNat:Int) - 97)=(c.toNat:Int) - 97:=IntWalk.u8_in _ (by omega);exact aw';have e:Eg c=-1:=by unfold Eg gV;rw[if_neg h1,if_neg (fun h=>h3 h.2)]
 rw[e];have j2:¬((c.toNat:Int)≤102):=by omega
 exact aw';have e:Eg c=-1:=by unfold Eg gV;rw[if_neg h1,if_neg (fun h=>h2 h.1)]
 rw[e];have j1:¬((97:Int)≤(c.toNat:Int)):=by omega
 exact aw'
theorem MP {c:UInt8} (h:gV c=none):Eg c=-1:=by unfold Eg;rw[h]
theorem zy {c:UInt8} {a:Nat} (h:gV c=some a):Eg c=(a:Int):=by unfold Eg;rw[h]
theorem Qm (l:By) (k:Nat) (c:UInt8) (h:l[k]?=some c) (hr:k<sxRun aW l):(dE l)[k]?=some c:=by unfold dE;rw[List.getElem?_take,if_pos hr,h]
def rW (D:By) (k u:Nat) (fine:Bool):Prop:=if fine then sxBelow D 0=sxBelow (D.drop k) (-(u:Int))∧u≤9223372036854775808 else sxBelow D 0=none
theorem agc (x:Int):∃n:Nat,IntKind.u64.wrap x=(n:Int)∧n<18446744073709551616:=⟨(x % 18446744073709551616).toNat,by simp[IntKind.wrap,IntKind.signed,IntKind.bits];omega,by omega⟩
theorem YQ {u:Nat} (h:u≤9223372036854775808):wrap64 (IntKind.u64.wrap (-(u:Int)))=-(u:Int):=by simp[IntKind.wrap,IntKind.signed,IntKind.bits,wrap64];omega
theorem rW.bad {D:By} {k u u' d:Nat} {fine:Bool} (h:rW D k u fine) (hs:∀m:Int,sxBelow (D.drop k) m=if m < -((9223372036854775808 - (d:Int)) / 10) then none else sxBelow (D.drop (k+1)) (m*10 - (d:Int))) (ht:(9223372036854775808 - (d:Int)) / 10<(u:Int)):rW D (k+1) u' false:=by
 unfold rW at h⊢;simp only[atE,if_false]
 cases fine
 exact h;rw[h.1,hs,if_pos (by omega)]
theorem rW.good {D:By} {k u d:Nat} {fine:Bool} (h:rW D k u fine) (hs:∀m:Int,sxBelow (D.drop k) m=if m < -((9223372036854775808 - (d:Int)) / 10) then none else sxBelow (D.drop (k+1)) (m*10 - (d:Int))) (hd:d≤9) (ht:¬(9223372036854775808 - (d:Int)) / 10<(u:Int)):rW D (k+1) (u*10+d) fine:=by
 unfold rW at h⊢
 cases fine
 exact h;simp only[if_true]at h⊢;refine⟨?_,by omega⟩;rw[h.1,hs,if_neg (by omega),show (-(u:Int))*10 - (d:Int)=-((u*10+d:Nat):Int) by omega]
theorem rW.out {D:By} {u:Nat} {fine:Bool} (h:rW D D.length u fine) (plus:Bool):(D.length=0∨fine=false∨9223372036854775808<u∨(plus=true∧9223372036854775807<u))→sxNum plus D=aV 12 0:=by
 intro hc;unfold rW at h;unfold sxNum
 cases fine
 simp only[atE,if_false]at h;rw[h];simp only[if_true]at h;obtain⟨h1,h2⟩:=h;rw[auh (att _)]at h1;rw[h1];simp only[sxBelow];rcases hc with hc|hc|hc|⟨hc,hu⟩
 rw[aup hc];rfl
 cases hc
 omega;rw[if_pos];have:u=9223372036854775808:=by omega
 subst this;subst hc;simp
theorem rW.fit {D:By} {u:Nat} (h:rW D D.length u true) (plus:Bool) (hk:D.length≠0) (hu:plus=true→u≤9223372036854775807):u≤9223372036854775808∧sxNum plus D=if plus then ⟨3,[],(u:Int),D.length,0,0⟩ else ⟨3,[],-(u:Int),1+D.length,0,0⟩:=by
 unfold rW at h;simp only[if_true]at h;obtain⟨h1,h2⟩:=h;refine⟨h2,?_⟩;rw[auh (att _)]at h1;unfold sxNum;rw[h1];simp only[sxBelow];have he:D.isEmpty=false:=by
  cases D with
  | nil=>exact absurd rfl hk
  | cons a l=>rfl
 cases plus
 simp[he];have:=hu rfl;rw[if_neg (by rw[he];simp;omega)];simp
theorem aya {P:Prop} (h:P:=by
 go_ret3
 exact⟨j,by rw[HX.out];rfl,fun h=>(by rw[HX.out]at h;cases h),Ev.refl _⟩):P:=h
theorem aw0 {P:Prop} (h:P:=by
 go_wp2_with (first|((with_reducible refine (HC.out _).mono ?_);rintro x w1 ⟨rfl,rfl⟩))
 exact aya):P:=h
theorem awx {P:Prop} (h:P:=by
 have ej:j=from_:=by rw[HJ.out,hz];rfl
 have HZ:=zq hz;clear hz uT;subst ej;exact aw0):P:=h
theorem awW {P:Prop} (h:P:=by clear uT;exact aw0):P:=h
theorem avu {P:Prop} (h:P:=by
 rw[K_]at HC hst;simp only[if_true]at hst;have HC:=zq HC;have uQ:k<D.length:=by have:=HK.out;rw[hst]at this;omega
 have HK2:Hid (sxRun aW (s.data.toList.drop (j+1))+(k+1)=D.length):=zq (by have:=HK.out;rw[hst]at this;omega);have hDc:=agd.out k c (by rw[List.getElem?_drop,←HJ.out];exact hat) uQ;obtain⟨d,hd,hd9⟩:∃d:Nat,(c.toNat:Int)=48+(d:Int)∧d≤9:=by unfold aW at K_;simp at K_;exact⟨c.toNat - 48,by omega,by omega⟩
 have hstep:=fun m=>xG D k c m hDc;have i0:(48:Int)+(d:Int) - 48=(d:Int):=by omega
 rw[hd]at hstep HC;rw[i0]at hstep;have i1:IntKind.u8.wrap ((48:Int)+(d:Int) - 48)=(d:Int):=by rw[i0];exact IntWalk.u8_in _ (by omega)
 have HST:=zq hstep;clear hstep hst hc hat K_ hDc
 go_wp2_with (first|((with_reducible refine (HC.out _).mono ?_);rintro x w1 ⟨rfl,rfl⟩))
 ·obtain⟨u',hu',hu2⟩:=agc (IntKind.u64.wrap ((u:Int)*10)+(d:Int))
  go_round
  case rel=>exact⟨k+1,u',false,by omega,by rw[HJ.out];go_num,by rw[hu'],rfl,hu2,zq (HN.out.bad HST.out (by omega)),by rw[show from_+(k+1)=j+1 by rw[HJ.out];omega];exact HK2⟩
  case measure=>simp[intOf];omega
 go_round
 case rel=>exact⟨k+1,u*10+d,fine,by omega,by rw[HJ.out];go_num,by go_num,rfl,by omega,zq (HN.out.good HST.out hd9 (by omega)),by rw[show from_+(k+1)=j+1 by rw[HJ.out];omega];exact HK2⟩
 case measure=>simp[intOf];omega):P:=h
theorem aw5 {P:Prop} (h:P:=by
 have ej:j=from_:=by rw[HJ.out,hz];rfl
 have HZ:=zq hz;clear hz uT;subst ej;go_wp2;exact aya):P:=h
theorem ax2 {P:Prop} (h:P:=by clear uT;go_wp2;exact aya):P:=h
theorem awH {P:Prop} (h:P:=by
 go_ret3
 exact⟨j,(by rw[HX.out];exact congrArg (fun x=>Ending.returned (Value.tuple #[Value.int .i64 x,Value.int .i64 (j:Int),Value.bool true])) HNG.out),fun _=>(by rw[HX.out,HJ.out,HF.out];simp only[atE,if_false];omega),Ev.refl _⟩):P:=h
theorem Il (s:ByteArray) (w:World) (hs:s.size≤100000) (i from_:Nat) (c0:UInt8) (hi:i<s.size) (hc0:s.data.toList[i]?=some c0) (minus:Bool) (hm:(c0.toNat==45)=minus) (hf:from_=if minus then i+1 else i):
  Calls Tryz.prog 122 #[.string s,.int .i64 (i:Int)] w fun e w'=>
   ∃j:Nat,e=.returned (.tuple #[.int .i64 (sxNum (!minus) (dE (s.data.toList.drop from_))).n,.int .i64 (j:Int),.bool ((sxNum (!minus) (dE (s.data.toList.drop from_))).why==0)])∧
    ((sxNum (!minus) (dE (s.data.toList.drop from_))).why=0→j=i+(sxNum (!minus) (dE (s.data.toList.drop from_))).size)∧Ev w w':=by
 have jd:s.data.toList.length=s.size:=by rw[atU];rfl
 have HL:=zq jd;have hidx:∀hh,s[i]'hh=c0:=fun hh=>by have:=qN s i hh;rw[this]at hc0;exact aui hc0
 have hfs:from_≤s.size:=by rw[hf];split<;>omega
 have hDl:=sD (s.data.toList.drop from_);have hDa:=eH (s.data.toList.drop from_);have ad3:=fun k c h hr=>Qm (s.data.toList.drop from_) k c h hr;have hDr:=jr aW (s.data.toList.drop from_);rw[at1,jd]at hDr;generalize hD:dE (s.data.toList.drop from_)=D at*;rw[←hDl]at hDr ad3;have HDl:=zq hDl;have agd:=zq ad3;have age:=zq Ik;clear hc0 hD hDl hDa ad3 jd
 cases minus
 ·obtain rfl:from_=i:=hf;have e1:¬((c0.toNat:Int)=45):=by have:=atp.1 hm;omega
  have e1':((c0.toNat:Int)==45)=false:=atp.2 e1;have Cf:(0:Int)≤(from_:Int):=by omega
  clear hm;simp only[Bool.not_false];go_enter Tryz.func122,Tryz.ntmps122;go_wp2
  go_loop [7,9,10] (fun iv uv fv=>∃(k u:Nat) (fine:Bool),k≤D.length∧iv=.int .i64 ((from_+k:Nat):Int)∧uv=.int .u64 (u:Int)∧fv=.bool fine∧u<18446744073709551616∧Hid (rW D k u fine)∧Hid (sxRun aW (s.data.toList.drop (from_+k))+k=D.length)) (fun iv _ _=>s.size - (intOf iv).toNat)
  case atStart=>exact⟨0,0,true,atG _,rfl,rfl,rfl,by omega,zq ⟨rfl,by omega⟩,zq (by rw[HDl.out];rfl)⟩
  case round=>
   obtain⟨k,u,fine,hk,rfl,rfl,rfl,hu,HN,HK⟩:=hrel;obtain⟨j,hj⟩:∃j,j=from_+k:=⟨_,rfl⟩
   rw[←hj]at HK⊢;have hjb:j≤300000:=by have:=hDr;omega
   have HJ:=zq hj;clear hj;by_cases hlt:j<s.size
   ·have hat:=qN s j hlt;obtain⟨c,hc⟩:∃c,s[j]=c:=⟨_,rfl⟩
    have YR:∀hh,s[j]'hh=c:=fun _=>hc;rw[hc]at hat;have hst:=lU aW s.data.toList j c hat;have HC:=age.out c;have hj0:(0:Int)≤(j:Int):=by omega
    have hj1:(j:Int)<(s.size:Int):=by omega
    cases K_:aW c
    ·rw[K_]at HC hst;simp only[atE,if_false]at hst;have hkD:k=D.length:=by have:=HK.out;rw[hst]at this;omega
     have HC:=zq HC;obtain rfl:k=D.length:=hkD;have uT:=HN.out;by_cases hz:D.length=0;have HX:Hid (sxNum true D=aV 12 0):=zq (uT.out true (.inl hz));exact awx;have ej:¬((j:Int)=(from_:Int)):=by rw[HJ.out];omega
     have ej':((j:Int)==(from_:Int))=false:=atp.2 ej
     cases fine
     have HX:Hid (sxNum true D=aV 12 0):=zq (uT.out true (.inr (.inl rfl)));exact awW;by_cases hbig:9223372036854775807<u;have HX:Hid (sxNum true D=aV 12 0):=zq (uT.out true (.inr (.inr (.inr ⟨rfl,hbig⟩))));have hb2:(9223372036854775807:Int)<(u:Int):=by omega
     exact awW;obtain⟨hu3,hX⟩:=uT.fit true hz (fun _=>by omega);have HX:=zq hX;have hb2:¬((9223372036854775807:Int)<(u:Int)):=by omega
     have hb3:¬((9223372036854775808:Int)<(u:Int)):=by omega
     clear uT hX
     go_wp2_with (first|((with_reducible refine (HC.out _).mono ?_);rintro x w1 ⟨rfl,rfl⟩))
     go_ret3
     exact⟨j,by rw[HX.out];rfl,fun _=>(by rw[HX.out,HJ.out];rfl),Ev.refl _⟩
    exact avu
   have WI:j=s.size:=by have:=jr aW (s.data.toList.drop j);rw[at1,HL.out]at this;have h2:=HK.out;have h3:=HJ.out;omega
   have hkD:k=D.length:=by have:=HK.out;rw[auh (by rw[HL.out];omega)]at this;simp only[sxRun]at this;omega
   have hlt2:¬((j:Int)<(s.size:Int)):=by omega
   clear WI;obtain rfl:k=D.length:=hkD;have uT:=HN.out;by_cases hz:D.length=0;have HX:Hid (sxNum true D=aV 12 0):=zq (uT.out true (.inl hz));exact aw5;have ej:¬((j:Int)=(from_:Int)):=by rw[HJ.out];omega
   have ej':((j:Int)==(from_:Int))=false:=atp.2 ej
   cases fine
   have HX:Hid (sxNum true D=aV 12 0):=zq (uT.out true (.inr (.inl rfl)));exact ax2;by_cases hbig:9223372036854775807<u;have HX:Hid (sxNum true D=aV 12 0):=zq (uT.out true (.inr (.inr (.inr ⟨rfl,hbig⟩))));have hb2:(9223372036854775807:Int)<(u:Int):=by omega
   exact ax2;obtain⟨hu3,hX⟩:=uT.fit true hz (fun _=>by omega);have HX:=zq hX;have hb2:¬((9223372036854775807:Int)<(u:Int)):=by omega
   have hb3:¬((9223372036854775808:Int)<(u:Int)):=by omega
   clear uT hX;go_wp2
   go_ret3
   exact⟨j,by rw[HX.out];rfl,fun _=>(by rw[HX.out,HJ.out];rfl),Ev.refl _⟩
 have hf':from_=i+1:=hf;have HF:=zq hf';have e1:(c0.toNat:Int)=45:=by have:=atH.1 hm;omega
 have Cf:(0:Int)≤(i:Int):=by omega
 have hi1:(i:Int)+1=(from_:Int):=by omega
 clear hf hf';clear hm;simp only[Bool.not_true];go_enter Tryz.func122,Tryz.ntmps122;go_wp2
 go_loop [7,9,10] (fun iv uv fv=>∃(k u:Nat) (fine:Bool),k≤D.length∧iv=.int .i64 ((from_+k:Nat):Int)∧uv=.int .u64 (u:Int)∧fv=.bool fine∧u<18446744073709551616∧Hid (rW D k u fine)∧Hid (sxRun aW (s.data.toList.drop (from_+k))+k=D.length)) (fun iv _ _=>s.size - (intOf iv).toNat)
 case atStart=>exact⟨0,0,true,atG _,rfl,rfl,rfl,by omega,zq ⟨rfl,by omega⟩,zq (by rw[HDl.out];rfl)⟩
 case round=>
  obtain⟨k,u,fine,hk,rfl,rfl,rfl,hu,HN,HK⟩:=hrel;obtain⟨j,hj⟩:∃j,j=from_+k:=⟨_,rfl⟩
  rw[←hj]at HK⊢;have hjb:j≤300000:=by have:=hDr;omega
  have HJ:=zq hj;clear hj;by_cases hlt:j<s.size
  ·have hat:=qN s j hlt;obtain⟨c,hc⟩:∃c,s[j]=c:=⟨_,rfl⟩
   have YR:∀hh,s[j]'hh=c:=fun _=>hc;rw[hc]at hat;have hst:=lU aW s.data.toList j c hat;have HC:=age.out c;have hj0:(0:Int)≤(j:Int):=by omega
   have hj1:(j:Int)<(s.size:Int):=by omega
   cases K_:aW c
   ·rw[K_]at HC hst;simp only[atE,if_false]at hst;have hkD:k=D.length:=by have:=HK.out;rw[hst]at this;omega
    have HC:=zq HC;obtain rfl:k=D.length:=hkD;have uT:=HN.out;by_cases hz:D.length=0;have HX:Hid (sxNum false D=aV 12 0):=zq (uT.out false (.inl hz));exact awx;have ej:¬((j:Int)=(from_:Int)):=by rw[HJ.out];omega
    have ej':((j:Int)==(from_:Int))=false:=atp.2 ej
    cases fine
    have HX:Hid (sxNum false D=aV 12 0):=zq (uT.out false (.inr (.inl rfl)));exact awW;obtain⟨hu3,hX⟩:=uT.fit false hz (fun h=>by cases h);have HNG:=zq (YQ hu3);have HX:=zq hX;have hb3:¬((9223372036854775808:Int)<(u:Int)):=by omega
    clear uT hX
    go_wp2_with (first|((with_reducible refine (HC.out _).mono ?_);rintro x w1 ⟨rfl,rfl⟩))
    exact awH
   exact avu
  have WI:j=s.size:=by have:=jr aW (s.data.toList.drop j);rw[at1,HL.out]at this;have h2:=HK.out;have h3:=HJ.out;omega
  have hkD:k=D.length:=by have:=HK.out;rw[auh (by rw[HL.out];omega)]at this;simp only[sxRun]at this;omega
  have hlt2:¬((j:Int)<(s.size:Int)):=by omega
  clear WI;obtain rfl:k=D.length:=hkD;have uT:=HN.out;by_cases hz:D.length=0;have HX:Hid (sxNum false D=aV 12 0):=zq (uT.out false (.inl hz));exact aw5;have ej:¬((j:Int)=(from_:Int)):=by rw[HJ.out];omega
  have ej':((j:Int)==(from_:Int))=false:=atp.2 ej
  cases fine
  have HX:Hid (sxNum false D=aV 12 0):=zq (uT.out false (.inr (.inl rfl)));exact ax2;obtain⟨hu3,hX⟩:=uT.fit false hz (fun h=>by cases h);have HNG:=zq (YQ hu3);have HX:=zq hX;have hb3:¬((9223372036854775808:Int)<(u:Int)):=by omega
  clear uT hX;go_wp2;exact awH
theorem kJ {l:By} {i:Nat} {c:UInt8} (h:l[i]?=some c):l.drop i=c::l.drop (i+1):=by obtain⟨hi,e⟩:=atr.1 h;rw[auu hi,e]
theorem WN (s:ByteArray) (w:World) (hs:s.size≤100000) (i:Nat) (c0:UInt8) (hi:i<s.size) (hc0:s.data.toList[i]?=some c0):
  Calls Tryz.prog 122 #[.string s,.int .i64 (i:Int)] w fun e w'=>
   ∃j:Nat,e=.returned (.tuple #[.int .i64 (dI (s.data.toList.drop i)).n,.int .i64 (j:Int),.bool ((dI (s.data.toList.drop i)).why==0)])∧
    ((dI (s.data.toList.drop i)).why=0→j=i+(dI (s.data.toList.drop i)).size)∧Ev w w':=by
 have hd:=kJ hc0
 cases hm:(c0.toNat==45) with
 | true=>
  have:=Il s w hs i (i+1) c0 hi hc0 true hm rfl;have e:dI (s.data.toList.drop i)=sxNum (!true) (dE (s.data.toList.drop (i+1))):=by rw[hd];simp only[dI,hm,if_true];rfl
  rw[e];exact this
 | false=>
  have:=Il s w hs i i c0 hi hc0 false hm rfl;have e:dI (s.data.toList.drop i)=sxNum (!false) (dE (s.data.toList.drop i)):=by rw[hd];simp only[dI,hm];rfl
  rw[e];exact this
theorem MQ {P:Program} {ops:Array Oper} {o:Oper} {a:Act} {w:World} {K:Act→World→Prop} {Q:Exit→Act→World→Prop} {E:Prop}
  (hg:o.guard=none) (f:FuncId) (xs:Array Operand) (ts:Array TypeId) (hop:o.op=.call {callee:=.value (.func f),args:=xs,argTypes:=ts}) (hb:D7 P f=true) (args:Array Value) (ha:xs.map a.eval=args) (v:Value)
  (hc:Calls P f args w fun e w'=>e=.returned v∧w=w') (hK:K (a.put o.dst v) w):
  if Region.wanted o (yielded ops a.tmps)=true then Oper.wp P o a w K Q else E:=by
 rw[if_pos (ay hg)];unfold Oper.wp;rw[bP f xs ts hop hb w,ha];refine hc.mono ?_;rintro e w' ⟨rfl,rfl⟩;exact hK
theorem Eh {P:Program} {ops:Array Oper} {o:Oper} {a:Act} {w:World} {K:Act→World→Prop} {Q:Exit→Act→World→Prop} {E:Prop}
  (hg:o.guard=none) (s x:Operand) (hop:o.op=.call {callee:=.builtin .append,args:=#[s,x],argTypes:=#[93,93]})
  (ht:P.underlying 93=some (.slice 5)) (hi:(P.info? 5).map (fun i=>(i.zero,i.size,i.bytes))=some (some (.int .u8 0),1,1))
  (v:Value) (l:By) (hs:a.eval s=v) (hown:Row w v l) (A:Option Addr) (m c:Nat) (l':By) (hx:a.eval x=.slice A m c) (hB:Bs w A m c l') (hbytes:l.length+l'.length≤140737488355328)
  (hK:∀v' w',Row w' v' (l++l')→But (foot v) w w'→eX w v v'→K (a.put o.dst v') w'):
  if Region.wanted o (yielded ops a.tmps)=true then Oper.wp P o a w K Q else E:=by
 rw[if_pos (ay hg)];obtain⟨v',w',hr,h2,h3,h4⟩:=yJ (P:=P) (w:=w) o.type ht hi v l hown A m c l' hB hbytes;unfold Oper.wp execOp;simp only[hop,resolve,invoke,builtin,Sem.run_bind,Sem.run_pure,Result.andThen_ok,auH,atx,atQ,hs,hx,hr];exact hK _ _ h2 h3 h4
theorem iT {fn:Func} {t u v x:Tmp} (h:fn.results=#[.tmp t,.tmp u,.tmp v,.tmp x]) (tmps:Array Value) (P:Program) (w:World):
  (results fn tmps).run P w=.ok (.tuple #[tmps.getD t undef,tmps.getD u undef,tmps.getD v undef,tmps.getD x undef]) w:=by
 simp[results,h]
structure agi (Y:Tk) (i0:Nat) (sb:ByteArray) (en wh:Int):Prop where
 ok:Y.why=0→sb=⟨Y.s.toArray⟩∧en=((i0+Y.size:Nat):Int)
 bad:Y.why≠0→wh=((i0+Y.fault:Nat):Int)
structure Aj (w0:World) (A:Option Addr) (n cap:Nat) (b:By) (w:World):Prop where
 row:Row w (.slice A n cap) b
 len:b.length=n
 high:∀k,(Value.slice A n cap).ownBlock=some k→w0.heap.size≤k
 ev:Ev w0 w
theorem Aj.step {w0 w w1:World} {A:Option Addr} {n cap:Nat} {b B1:By} {v1:Value} (h:Aj w0 A n cap b w) (hr:Row w1 v1 B1) (hb:But (foot (.slice A n cap)) w w1) (hs:eX w (.slice A n cap) v1):
  ∃A1 n1 cap1,v1=.slice A1 n1 cap1∧Aj w0 A1 n1 cap1 B1 w1:=by
 obtain⟨A1,cap1,rfl,_,_,_⟩:=hr.bs;refine⟨A1,_,cap1,rfl,hr,rfl,fun k hk=>?_,((But.aS (K:=foot (.slice A n cap)) h.ev).then hb).ev fun k hk=>h.high k (aB.1 hk)⟩;rcases hs k hk with h1|h1;exact h.high k h1;have:=h.ev.size;omega
theorem Aj.evs {w0 w w1:World} {A:Option Addr} {n cap:Nat} {b:By} (h:Aj w0 A n cap b w) (hE:Ev w w1):Aj w0 A n cap b w1:=⟨h.row.ev hE,h.len,h.high,h.ev.trans hE⟩
theorem Aj.init (w:World):Aj w (some ⟨w.heap.size,0,none⟩) 0 0 [] (w.alloc (.cells #[] 5)):=
 ⟨⟨rfl,.inr ⟨w.heap.size,0,#[],rfl,atG _,heap_alloc_new w _,att _,by decide,rfl,rfl⟩⟩,rfl,by simp[Value.ownBlock],Ev.alloc _ _⟩
theorem WR (b:By) (c x y:UInt8) (q:By) (i ha hb:Nat) (hc:c.toNat=92) (hx:gV x=some ha) (hy:gV y=some hb):sxTextGo b (c::x::y::q) i=sxTextGo (b++[UInt8.ofNat (16*ha+hb)]) q (i+3):=by
 conv=>lhs;unfold sxTextGo
 have hp:bV c=false:=by unfold bV;rw[hc];rfl
 simp[hp,hc,hx,hy]
theorem aby {a b:Nat} (ha:a<16) (hb:b<16):IntKind.u8.wrap (16*(a:Int)+(b:Int))=((UInt8.ofNat (16*a+b)).toNat:Int):=by rw[IntWalk.u8_in _ (by omega),UInt8.toNat_ofNat'];omega
theorem awQ {P:Prop} (h:P:=by
 go_wp2
 (try simp only[Exit.inBlock,Exit.then]);refine bodyPost_ret (iT rfl _ _ _) rfl ?_
 exact⟨_,_,_,by rw[tX.out];rfl,⟨(fun h=>by rw[tX.out]at h;cases h),(fun _=>by rw[tX.out];simp only[aV];omega)⟩,ST.ev⟩):P:=h
theorem av9 {P:Prop} (h:P:=by
 have SI:¬(c.toNat=92):=by omega
 unfold sxTextGo at jy;simp[hp,Ib,SI]at jy;have tX:=zq jy;clear jy;exact awQ):P:=h
theorem awS {P:Prop} (h:P:=by
 (try simp only[Exit.inBlock,Exit.then]);refine bodyPost_ret (iT rfl _ _ _) rfl ?_
 exact⟨_,_,_,by rw[N_.out];rfl,⟨(fun h=>by rw[N_.out]at h;cases h),(fun _=>by rw[N_.out];simp only[aV];omega)⟩,ST.ev⟩):P:=h
theorem avV {P:Prop} (h:P:=by
 rw[PU]at xx;rw[MP PU]at HX;have HX:=zq HX;have N_:=zq xx;clear xx tX HA HB hx ex
 go_wp2_with (first|((with_reducible refine (HX.out _).mono ?_);rintro e w1 ⟨rfl,rfl⟩))
 exact awS):P:=h
theorem awC {P:Prop} (h:P:=by have N_:=zq xx;clear xx tX HA HB;go_wp2;exact awS):P:=h
theorem abz (s:ByteArray) (w:World) (hs:s.size≤100000) (i0:Nat) (hi:i0<s.size):
  Calls Tryz.prog 121 #[.string s,.int .i64 (i0:Int)] w fun e w'=>
   ∃(sb:ByteArray) (en wh:Int),e=.returned (.tuple #[.string sb,.int .i64 en,.int .i64 (sxTextGo [] (s.data.toList.drop (i0+1)) 1).why,.int .i64 wh])∧
    agi (sxTextGo [] (s.data.toList.drop (i0+1)) 1) i0 sb en wh∧Ev w w':=by
 have jd:s.data.toList.length=s.size:=by rw[atU];rfl
 obtain⟨Y,hY⟩:∃Y,Y=sxTextGo [] (s.data.toList.drop (i0+1)) 1:=⟨_,rfl⟩
 rw[←hY];have HY:=zq hY;have HL:=zq jd;have HH:=zq ad2;clear hY jd;go_enter Tryz.func121,Tryz.ntmps121;go_wp2
 go_loopw [8,9] (fun ov iv wr=>∃(b:By) (A:Option Addr) (n cap j:Nat),ov=.slice A n cap∧iv=.int .i64 (j:Int)∧i0+1≤j∧j≤s.size∧n≤j∧Aj w A n cap b wr∧Hid (Y=sxTextGo b (s.data.toList.drop j) (j - i0))) (fun _ iv _=>s.size - (intOf iv).toNat)
 case atStart=>exact⟨[],_,0,0,i0+1,rfl,by go_num,att _,hi,by omega,Aj.init w,zq (by rw[show i0+1 - i0=1 by omega];exact HY.out)⟩
 case round=>
  obtain⟨b,A,n,cap,j,rfl,rfl,hj0,hj,hnj,ST,HG⟩:=hrel;by_cases hlt:j<s.size
  ·have hat:=qN s j hlt;obtain⟨c,hc⟩:∃c,s[j]=c:=⟨_,rfl⟩
   have YR:∀hh,s[j]'hh=c:=fun _=>hc;rw[hc]at hat;have hdr:=kJ hat;have g0:(0:Int)≤(j:Int):=by omega
   have g1:(j:Int)<(s.size:Int):=by omega
   have g2:¬((s.size:Int)≤(j:Int)):=by omega
   have vZ:=zq ST.len;have jy:=HG.out;rw[hdr]at jy;clear hc HG hdr;by_cases Ib:c.toNat=34
   ·have e34:(c.toNat:Int)=34:=by omega
    have hp:bV c=false:=by unfold bV;rw[Ib];rfl
    unfold sxTextGo at jy;simp[hp,Ib,vZ.out]at jy;by_cases Gq:40<n
    ·rw[if_pos Gq]at jy;have tX:=zq jy;have e40:(40:Int)<(n:Int):=by omega
     clear jy;go_wp2
     (try simp only[Exit.inBlock,Exit.then]);refine bodyPost_ret (iT rfl _ _ _) rfl ?_
     exact⟨_,_,_,by rw[tX.out];rfl,⟨(fun h=>by rw[tX.out]at h;cases h),(fun _=>by rw[tX.out];rfl)⟩,ST.ev⟩
    rw[if_neg Gq]at jy;have tX:=zq jy;have e40:¬((40:Int)<(n:Int)):=by omega
    obtain⟨Wx,wH,hv,hbs,_,_⟩:=ST.row.bs;rw[vZ.out]at hv hbs;injection hv with KZ hv2 hv3
    subst KZ;subst hv3;have hcv:=hbs.str 93 9 5 Tryz.underlying93 Tryz.underlying5 Tryz.underlying9;clear jy hv2;go_wp2
    (try simp only[Exit.inBlock,Exit.then]);refine bodyPost_ret (iT rfl _ _ _) rfl ?_
    have hsz:((i0+(j - i0+1):Nat):Int)=(j:Int)+1:=by omega
    exact⟨_,_,_,by rw[tX.out];rfl,⟨(fun _=>by rw[tX.out];exact⟨rfl,hsz.symm⟩),(fun h=>by rw[tX.out]at h;exact absurd rfl h)⟩,ST.ev⟩
   have e34:¬((c.toNat:Int)=34):=by omega
   have agj:((c.toNat:Int)==34)=false:=atp.2 e34;by_cases h32:c.toNat<32;have e32:(c.toNat:Int)<32:=by omega
   have hp:bV c=false:=by unfold bV;rw[auj (show ¬32≤c.toNat by omega)];rfl
   exact av9;have e32:¬((c.toNat:Int)<32):=by omega
   by_cases ao1:126<c.toNat;have e126:(126:Int)<(c.toNat:Int):=by omega
   have hp:bV c=false:=by unfold bV;rw[auj (show ¬c.toNat≤126 by omega)];simp
   exact av9;have e126:¬((126:Int)<(c.toNat:Int)):=by omega
   by_cases SI:c.toNat=92
   ·have e92:(c.toNat:Int)=92:=by omega
    have tX:=zq jy;clear jy;go_wp2
    go_loop [11] (fun kv=>∃k:Nat,kv=.int .i64 (k:Int)∧1≤k∧k≤3∧Hid (2≤k→∃x a,s.data.toList[j+1]?=some x∧gV x=some a)∧Hid (3≤k→∃x a,s.data.toList[j+2]?=some x∧gV x=some a)) (fun kv=>3 - (intOf kv).toNat)
    case atStart=>exact⟨1,rfl,att _,by omega,zq fun h=>absurd h (by omega),zq fun h=>absurd h (by omega)⟩
    case round=>
     obtain⟨k,rfl,uQ,hk3,HA,HB⟩:=hrel;have hpl:bV c=false:=by unfold bV;rw[SI];rfl
     by_cases k3:k=3
     ·subst k3;obtain⟨x,ha,hx,PU⟩:=HA.out (by omega);obtain⟨y,hb,hy,hyb⟩:=HB.out (by omega);have xx:=tX.out;rw[kJ hx,kJ hy,WR b c x y _ _ ha hb SI PU hyb]at xx;obtain⟨hj1,ex⟩:=atr.1 hx;obtain⟨hj2,ey⟩:=atr.1 hy;rw[HL.out]at hj1 hj2;have hx1:∀hh,s[j+1]'hh=x:=fun _=>ex;have hy1:∀hh,s[j+2]'hh=y:=fun _=>ey;have q1:(0:Int)≤(j:Int)+1:=by omega
      have q2:(j:Int)+1<(s.size:Int):=by omega
      have q3:(0:Int)≤(j:Int)+2:=by omega
      have q4:(j:Int)+2<(s.size:Int):=by omega
      have t1:((j:Int)+1).toNat=j+1:=by omega
      have t2:((j:Int)+2).toNat=j+2:=by omega
      have z1:IntKind.i64.wrap ((j:Int)+1)=(j:Int)+1:=IntWalk.i64_in _ (by omega);have z2:IntKind.i64.wrap ((j:Int)+2)=(j:Int)+2:=IntWalk.i64_in _ (by omega);have hha:=H_ PU;have hhb:=H_ hyb;have HX:=HH.out x;have HY2:=HH.out y;rw[zy PU]at HX;rw[zy hyb]at HY2;have HX:=zq HX;have HY2:=zq HY2;have hbyte:=aby hha hhb;have z3:IntKind.i64.wrap (16*(ha:Int))=16*(ha:Int):=IntWalk.i64_in _ (by omega);have z4:IntKind.i64.wrap (16*(ha:Int)+(hb:Int))=16*(ha:Int)+(hb:Int):=IntWalk.i64_in _ (by omega);have N_:=zq xx;generalize hN:UInt8.ofNat (16*ha+hb)=N16 at*;have HBS:=zq (fun w1:World=>xH w1 N16);have HST:=zq ST;clear xx tX HA HB hx hy ex ey PU hyb hN hha hhb;go_wp2
      go_region_law (first
       | (refine MQ rfl 160 #[.tmp 73] #[5] rfl (by kernel_rfl) #[.int .u8 (x.toNat:Int)] (by simp only[auH,atx,atQ];rfl) _ (HX.out _) ?_)
       | (refine MQ rfl 160 #[.tmp 79] #[5] rfl (by kernel_rfl) #[.int .u8 (y.toNat:Int)] (by simp only[auH,atx,atQ];rfl) _ (HY2.out _) ?_)
       | (refine Eh rfl (.tmp 69) (.tmp 83) rfl Tryz.underlying93 Tryz.D8 (.slice A n cap) b rfl (HST.out.row.ev ((Ev.drew wr).trans (Ev.alloc wr.drew _))) (some ⟨wr.heap.size,0,none⟩) 1 1 [N16] rfl (HBS.out wr.drew) (by rw[vZ.out];simp;omega) ?_;intro v2 w5 hr2 hb2 hs2;obtain⟨A2,n2,cap2,rfl,ST2⟩:=(HST.out.evs ((Ev.drew wr).trans (Ev.alloc wr.drew _))).step hr2 hb2 hs2))
      all_goals (
       go_wp2
       go_round
       case rel=>exact⟨b++[N16],A2,n2,cap2,j+3,rfl,by go_num,by omega,by omega,by rw[←ST2.len,atv,vZ.out];simp;omega,ST2,zq (by rw[show j+3 - i0=j - i0+3 by omega];exact N_.out)⟩
       case measure=>simp[intOf];omega)
     obtain rfl|rfl:k=1∨k=2:=by omega
     ·skip
      have kz:IntKind.i64.wrap ((j:Int)+1)=(j:Int)+1:=IntWalk.i64_in _ (by omega);have xx:=tX.out;by_cases hk:j+1<s.size
      ·have hx:=qN s (j+1) hk;obtain⟨x,ex⟩:∃x,s[j+1]=x:=⟨_,rfl⟩
       have hx1:∀hh,s[j+1]'hh=x:=fun _=>ex;rw[ex]at hx;rw[kJ hx]at xx;unfold sxTextGo at xx;simp[hpl,SI]at xx;have q1:(0:Int)≤(j:Int)+1:=by omega
       have q2:(j:Int)+1<(s.size:Int):=by omega
       have q3:¬((s.size:Int)≤(j:Int)+1):=by omega
       have t1:((j:Int)+1).toNat=j+1:=by omega
       have HX:=HH.out x
       cases PU:gV x with
       | none=>
        exact avV
       | some a=>
        rw[zy PU]at HX;have HX:=zq HX;have q4:¬((a:Int)<0):=by omega
        have q5:(0:Int)≤(a:Int):=by omega
        have HAx:Hid (∃x a,s.data.toList[j+1]?=some x∧gV x=some a):=zq ⟨x,a,hx,PU⟩;clear xx hx ex
        go_wp2_with (first|((with_reducible refine (HX.out _).mono ?_);rintro e w1 ⟨rfl,rfl⟩))
        go_round
        case rel=>exact⟨2,rfl,by omega,by omega,zq fun _=>HAx.out,zq fun h=>absurd h (by omega)⟩
        case measure=>simp[intOf]
      have q3:(s.size:Int)≤(j:Int)+1:=by omega
      rw[auh (by rw[HL.out];omega)]at xx;unfold sxTextGo at xx;simp[hpl,SI]at xx;exact awC
     skip
     have kz:IntKind.i64.wrap ((j:Int)+2)=(j:Int)+2:=IntWalk.i64_in _ (by omega);obtain⟨x0,ha0,hx0,agk⟩:=HA.out (by omega);have xx:=tX.out;rw[kJ hx0]at xx;have hj1:=(atr.1 hx0).1;rw[HL.out]at hj1;by_cases hk:j+2<s.size
     ·have hx:=qN s (j+2) hk;obtain⟨x,ex⟩:∃x,s[j+2]=x:=⟨_,rfl⟩
      have hx1:∀hh,s[j+2]'hh=x:=fun _=>ex;rw[ex]at hx;rw[kJ hx]at xx;unfold sxTextGo at xx;simp[hpl,SI,agk]at xx;have q1:(0:Int)≤(j:Int)+2:=by omega
      have q2:(j:Int)+2<(s.size:Int):=by omega
      have q3:¬((s.size:Int)≤(j:Int)+2):=by omega
      have t1:((j:Int)+2).toNat=j+2:=by omega
      have HX:=HH.out x
      cases PU:gV x with
      | none=>
       exact avV
      | some a=>
       rw[zy PU]at HX;have HX:=zq HX;have q4:¬((a:Int)<0):=by omega
       have q5:(0:Int)≤(a:Int):=by omega
       have HAx:Hid (∃x a,s.data.toList[j+2]?=some x∧gV x=some a):=zq ⟨x,a,hx,PU⟩;clear xx hx ex
       go_wp2_with (first|((with_reducible refine (HX.out _).mono ?_);rintro e w1 ⟨rfl,rfl⟩))
       go_round
       case rel=>exact⟨3,rfl,by omega,by omega,zq fun _=>HA.out (by omega),zq fun _=>HAx.out⟩
       case measure=>simp[intOf]
     have q3:(s.size:Int)≤(j:Int)+2:=by omega
     rw[auh (by rw[HL.out];omega)]at xx;unfold sxTextGo at xx;simp[hpl,SI,agk]at xx;exact awC
   have e92:¬((c.toNat:Int)=92):=by omega
   have ao2:((c.toNat:Int)==92)=false:=atp.2 e92;have hp:bV c=true:=by unfold bV;simp;omega
   unfold sxTextGo at jy;simp[hp]at jy;have tX:=zq jy;have HBS:=zq (xH wr c);clear jy
   go_wp2_with (first
    | ((show wpList _ _ _ (⟨some 46,_,_,_,_,_⟩::_) _ _);refine og (o:=⟨some 46,_,_,_,_,_⟩) rfl (.tmp 43) (.tmp 45) rfl Tryz.underlying93 Tryz.D8 (.slice A n cap) b rfl (ST.row.ev (Ev.alloc _ _)) (some ⟨wr.heap.size,0,none⟩) 1 1 [c] rfl HBS.out (by rw[vZ.out];simp;omega) ?_;intro v2 w5 hr2 hb2 hs2;obtain⟨A2,n2,cap2,rfl,ST2⟩:=(ST.evs (Ev.alloc _ _)).step hr2 hb2 hs2))
   go_round
   case rel=>exact⟨b++[c],A2,n2,cap2,j+1,rfl,by go_num,by omega,by omega,by rw[←ST2.len,atv,vZ.out];simp;omega,ST2,zq (by rw[show j+1 - i0=j - i0+1 by omega];exact tX.out)⟩
   case measure=>simp[intOf];omega
  have WI:j=s.size:=by omega
  have jy:=HG.out;rw[auh (by rw[HL.out];omega)]at jy;unfold sxTextGo at jy;have tX:=zq jy;have g2:(s.size:Int)≤(j:Int):=by omega
  clear jy HG;exact awQ
structure Bx (T:TypeId) (g:Nat) (cs:Array Value) (w:World):Prop where
 blk:w.heap[g]?=some (.cells cs T (0,0))
theorem Bx.but {K:List Nat} {T:TypeId} {g:Nat} {cs:Array Value} {w w':World} (h:Bx T g cs w) (hb:But K w w') (hn:g∉K):Bx T g cs w':=⟨hb.heap h.blk hn⟩
theorem Bx.ev {T:TypeId} {g:Nat} {cs:Array Value} {w w':World} (h:Bx T g cs w) (hE:Ev w w'):Bx T g cs w':=h.but (But.aS (K:=[]) hE) (by simp)
theorem Bx.lt {T:TypeId} {g:Nat} {cs:Array Value} {w:World} (h:Bx T g cs w):g<w.heap.size:=(atC.1 h.blk).1
theorem Bx.cell {T:TypeId} {g:Nat} {cs:Array Value} {w:World} (h:Bx T g cs w) (i:Nat):w.cell? ⟨g,i,none⟩=cs[i]?:=by rw[Lib.cell_of_heap h.blk]
theorem Bx.frozen {T:TypeId} {g:Nat} {cs:Array Value} {w:World} (h:Bx T g cs w) (i:Nat):w.frozen? ⟨g,i,none⟩=false:=Lib.frozen_of_heap h.blk i
theorem Bx.set {T:TypeId} {g:Nat} {cs:Array Value} {w:World} (h:Bx T g cs w) (i:Nat) (v:Value):Bx T g (cs.setIfInBounds i v) (w.setCell ⟨g,i,none⟩ v):=⟨Fj i v h.blk⟩
theorem Bx.new (T:TypeId) (cs:Array Value) (w:World):Bx T w.heap.size cs (w.alloc (.cells cs T)):=⟨heap_alloc_new w _⟩
theorem Bx.five {T:TypeId} {g:Nat} {w:World} {v0 v1 v2 v3 v4:Value} (h:Bx T g #[v0,v1,v2,v3,v4] w):(w.cell? ⟨g,0,none⟩=some v0∧w.cell? ⟨g,1,none⟩=some v1∧w.cell? ⟨g,2,none⟩=some v2∧w.cell? ⟨g,3,none⟩=some v3∧w.cell? ⟨g,4,none⟩=some v4)∧
  (w.frozen? ⟨g,0,none⟩=false∧w.frozen? ⟨g,1,none⟩=false∧w.frozen? ⟨g,2,none⟩=false∧w.frozen? ⟨g,3,none⟩=false∧w.frozen? ⟨g,4,none⟩=false):=
 ⟨⟨h.cell 0,h.cell 1,h.cell 2,h.cell 3,h.cell 4⟩,h.frozen 0,h.frozen 1,h.frozen 2,h.frozen 3,h.frozen 4⟩
theorem Bx.four {T:TypeId} {g:Nat} {w:World} {v0 v1 v2 v3:Value} (h:Bx T g #[v0,v1,v2,v3] w):(w.cell? ⟨g,0,none⟩=some v0∧w.cell? ⟨g,1,none⟩=some v1∧w.cell? ⟨g,2,none⟩=some v2∧w.cell? ⟨g,3,none⟩=some v3)∧
  (w.frozen? ⟨g,0,none⟩=false∧w.frozen? ⟨g,1,none⟩=false∧w.frozen? ⟨g,2,none⟩=false∧w.frozen? ⟨g,3,none⟩=false):=
 ⟨⟨h.cell 0,h.cell 1,h.cell 2,h.cell 3⟩,h.frozen 0,h.frozen 1,h.frozen 2,h.frozen 3⟩
def jM (g:Nat) (v0 v1 v2 v3:Value) (w:World):World:=(((w.setCell ⟨g,0,none⟩ v0).setCell ⟨g,1,none⟩ v1).setCell ⟨g,2,none⟩ v2).setCell ⟨g,3,none⟩ v3
def jO (g:Nat) (v0 v1 v2 v3 v4:Value) (w:World):World:=(jM g v0 v1 v2 v3 w).setCell ⟨g,4,none⟩ v4
theorem bW (g:Nat) (v0 v1 v2 v3 v4:Value) (w:World):((((w.setCell ⟨g,0,none⟩ v0).setCell ⟨g,1,none⟩ v1).setCell ⟨g,2,none⟩ v2).setCell ⟨g,3,none⟩ v3).setCell ⟨g,4,none⟩ v4=jO g v0 v1 v2 v3 v4 w:=rfl
theorem dF (g:Nat) (v0 v1 v2 v3:Value) (w:World):(((w.setCell ⟨g,0,none⟩ v0).setCell ⟨g,1,none⟩ v1).setCell ⟨g,2,none⟩ v2).setCell ⟨g,3,none⟩ v3=jM g v0 v1 v2 v3 w:=rfl
theorem dW (g:Nat) (v0 v1 v2 v3:Value) (w:World):But [g] w (jM g v0 v1 v2 v3 w):=
 (((But.setCell ⟨g,0,none⟩ _ (by simp)).then (But.setCell ⟨g,1,none⟩ _ (by simp))).then (But.setCell ⟨g,2,none⟩ _ (by simp))).then (But.setCell ⟨g,3,none⟩ _ (by simp))
theorem bD (g:Nat) (v0 v1 v2 v3 v4:Value) (w:World):But [g] w (jO g v0 v1 v2 v3 v4 w):=(dW g v0 v1 v2 v3 w).then (But.setCell ⟨g,4,none⟩ _ (by simp))
theorem Bx.jM {T:TypeId} {g:Nat} {w:World} {u0 u1 u2 u3:Value} (h:Bx T g #[u0,u1,u2,u3] w) (v0 v1 v2 v3:Value):Bx T g #[v0,v1,v2,v3] (jM g v0 v1 v2 v3 w):=by have:=(((h.set 0 v0).set 1 v1).set 2 v2).set 3 v3;rw[show (((((#[u0,u1,u2,u3]:Array Value).setIfInBounds 0 v0).setIfInBounds 1 v1).setIfInBounds 2 v2).setIfInBounds 3 v3)=#[v0,v1,v2,v3] by simp]at this;exact this
theorem Bx.jO {T:TypeId} {g:Nat} {w:World} {u0 u1 u2 u3 u4:Value} (h:Bx T g #[u0,u1,u2,u3,u4] w) (v0 v1 v2 v3 v4:Value):Bx T g #[v0,v1,v2,v3,v4] (jO g v0 v1 v2 v3 v4 w):=by have:=((((h.set 0 v0).set 1 v1).set 2 v2).set 3 v3).set 4 v4;rw[show ((((((#[u0,u1,u2,u3,u4]:Array Value).setIfInBounds 0 v0).setIfInBounds 1 v1).setIfInBounds 2 v2).setIfInBounds 3 v3).setIfInBounds 4 v4)=#[v0,v1,v2,v3,v4] by simp]at this;exact this
theorem Ev.box {w w1 w2:World} {g:Nat} (h:Ev w w1) (hb:But [g] w1 w2) (hg:w.heap.size≤g):Ev w w2:=
 ((But.aS (K:=[g]) h).then hb).ev fun k hk=>by simp at hk;omega
theorem aP {P:Program} {fn:Func} {p:Tmp} {ty:TypeId} (h:fn.results=#[.cell p ty]) (tmps:Array Value) (w:World) (g:Nat) (cs:Array Value) (d:TypeDesc)
  (hp:tmps.getD p undef=.pointer (some ⟨g,0,none⟩)) (hg:Bx ty g cs w)
  (hu:P.underlying ty=some d) (hd:(match d with|.struct _|.array _ _=>true|_=>false)=true) (hi:(P.info? ty).map (·.size)=some cs.size):
  (results fn tmps).run P w=.ok (.agg cs) w:=by
 have hp':tmps[p]?.getD undef=.pointer (some ⟨g,0,none⟩):=by simpa using hp
 simp[results,h,hp',asAddr,run_loadVar_row w g ty ty cs (0,0) d hg.blk hu hd hi]
theorem ni {P:Program} {fn:Func} {p u1 u2 u3:Tmp} {ty:TypeId} (h:fn.results=#[.cell p ty,.tmp u1,.tmp u2,.tmp u3]) (tmps:Array Value) (w:World) (g:Nat) (cs:Array Value) (d:TypeDesc)
  (hp:tmps.getD p undef=.pointer (some ⟨g,0,none⟩)) (hg:Bx ty g cs w)
  (hu:P.underlying ty=some d) (hd:(match d with|.struct _|.array _ _=>true|_=>false)=true) (hi:(P.info? ty).map (·.size)=some cs.size):
  (results fn tmps).run P w=.ok (.tuple #[.agg cs,tmps.getD u1 undef,tmps.getD u2 undef,tmps.getD u3 undef]) w:=by
 have hp':tmps[p]?.getD undef=.pointer (some ⟨g,0,none⟩):=by simpa using hp
 simp[results,h,hp',asAddr,run_loadVar_row w g ty ty cs (0,0) d hg.blk hu hd hi]
theorem aF {P:Program} {fn:Func} {p u1 u2:Tmp} {ty:TypeId} (h:fn.results=#[.cell p ty,.tmp u1,.tmp u2]) (tmps:Array Value) (w:World) (g:Nat) (cs:Array Value) (d:TypeDesc)
  (hp:tmps.getD p undef=.pointer (some ⟨g,0,none⟩)) (hg:Bx ty g cs w)
  (hu:P.underlying ty=some d) (hd:(match d with|.struct _|.array _ _=>true|_=>false)=true) (hi:(P.info? ty).map (·.size)=some cs.size):
  (results fn tmps).run P w=.ok (.tuple #[.agg cs,tmps.getD u1 undef,tmps.getD u2 undef]) w:=
 Ah h tmps w g ty cs (0,0) d hp hg.blk hu hd hi
theorem Tryz.iM:(Tryz.prog.info? 79).map (·.size)=some 5:=by kernel_rfl
theorem Io:∀(N:Nat) (r b:By) (i:Nat),r.length≤N→(sxTextGo b r i).n=0:=by
 intro N
 induction N with
 | zero=>
  intro r b i h;have:r=[]:=aup (by omega);subst this;rfl
 | succ N ih=>
  intro r b i h
  cases r with
  | nil=>rfl
  | cons c q=>
   simp at h;unfold sxTextGo;split;exact ih q _ _ h;split;split;rfl;rename_i x q1;simp at h;split;rfl;split;rfl;rename_i y q2;simp at h;split;rfl;exact ih q2 _ _ (by omega);split
   ·split<;>rfl
   rfl
theorem Bc (plus:Bool) (d:By):((sxNum plus d).why=0→(sxNum plus d).kind=3∧(sxNum plus d).s=[])∧((sxNum plus d).why≠0→(sxNum plus d).why=12∧(sxNum plus d).fault=0):=by unfold sxNum;split;exact⟨(fun h=>by cases h),(fun _=>⟨rfl,rfl⟩)⟩;split;exact⟨(fun h=>by cases h),(fun _=>⟨rfl,rfl⟩)⟩;split;exact⟨fun _=>⟨rfl,rfl⟩,fun h=>absurd rfl h⟩;exact⟨fun _=>⟨rfl,rfl⟩,fun h=>absurd rfl h⟩
theorem Ak (l:By):((dI l).why=0→(dI l).kind=3∧(dI l).s=[])∧((dI l).why≠0→(dI l).why=12∧(dI l).fault=0):=by unfold dI;split;exact Bc _ _;split;exact Bc _ _;exact Bc _ _
theorem Ld (l:By):(dI l).why=0→(dI l).kind=3∧(dI l).s=[]:=(Ak l).1
theorem Oa (l:By):(dI l).why≠0→(dI l).why=12∧(dI l).fault=0:=(Ak l).2
def abB (X:Tk) (i:Nat) (w:World) (e:Ending) (w':World):Prop:=
 ∃(k n p en wh:Int) (sb:ByteArray),e=.returned (.tuple #[.agg #[.int .i64 k,.string sb,.int .i64 n,.slice none 0 0,.int .i64 p],.int .i64 en,.int .i64 X.why,.int .i64 wh])∧
  (X.why=0→k=X.kind∧sb=⟨X.s.toArray⟩∧n=X.n∧p=(i:Int)∧en=((i+X.size:Nat):Int))∧(X.why≠0→wh=((i+X.fault:Nat):Int))∧Ev w w'
theorem av1 {P:Prop} (h:P:=by (try simp only[Exit.inBlock,Exit.then]);rw[bW];refine bodyPost_ret (ni rfl _ _ _ _ _ rfl (HB.out.jO _ _ _ _ _) Tryz.underlying79 rfl Tryz.iM) rfl ?_;exact⟨_,_,_,_,_,_,(by rw[HX.out];rfl),(fun _=>by rw[HX.out];exact⟨rfl,oW.out HJQ.out,rfl,rfl,HXE.out HJQ.out⟩),(fun h=>absurd (by rw[HX.out]) h),HE.out.box (bD _ _ _ _ _ _ _) (att _)⟩):P:=h
theorem abC (s:ByteArray) (w:World) (hs:s.size≤100000) (i:Nat) (hi:i<s.size) (c:UInt8) (hc0:s.data.toList[i]?=some c) (hk:c.toNat=34∨c.toNat=45∨bf c=true∨aW c=true):
  Calls Tryz.prog 77 #[.string s,.int .i64 (i:Int)] w (abB (bF (s.data.toList.drop i)) i w):=by
 have jd:s.data.toList.length=s.size:=by rw[atU];rfl
 have HL:=zq jd;have hidx:∀hh,s[i]'hh=c:=fun hh=>by have:=qN s i hh;rw[this]at hc0;exact aui hc0
 have g0:(0:Int)≤(i:Int):=by omega
 have g1:(i:Int)<(s.size:Int):=by omega
 have hdr:=kJ hc0;obtain⟨X,hX⟩:∃X,X=bF (s.data.toList.drop i):=⟨_,rfl⟩
 rw[←hX];have hB:=Bx.new 79 #[.int .i64 0,.string ⟨#[]⟩,.int .i64 0,.slice none 0 0,.int .i64 0] w;have hE:=Ev.alloc w (.cells #[.int .i64 0,.string ⟨#[]⟩,.int .i64 0,.slice none 0 0,.int .i64 0] 79);obtain⟨w0,hw0⟩:∃w0,w.alloc (.cells #[.int .i64 0,.string ⟨#[]⟩,.int .i64 0,.slice none 0 0,.int .i64 0] 79)=w0:=⟨_,rfl⟩
 rw[hw0]at hB hE;have HB:=zq hB;have HE:=zq hE;clear hB hE;by_cases Ib:c.toNat=34
 ·have e34:(c.toNat:Int)=34:=by omega
  have HT:=zq (fun w1:World=>abz s w1 hs i hi);rw[hdr]at hX;simp[bF,Ib]at hX;have hp:=kH _ (s.data.toList.drop (i+1)) [] 1 (att _);have hn:=Io _ (s.data.toList.drop (i+1)) [] 1 (att _);rw[←hX]at hp hn HT;have HP:=zq hp;have HN:=zq hn;clear hX hdr hc0 hp hn;go_enter Tryz.func77,Tryz.ntmps77
  go_wp2_with (first|((with_reducible refine (HT.out _).mono ?_);rintro e w1 ⟨sb,en,wh,rfl,HO,aH⟩;have B1:=HB.out.ev aH;have E1:=HE.out.trans aH;obtain⟨⟨c0,c1,c2,c3,c4⟩,f0,f1,f2,f3,f4⟩:=B1.five))
  (try simp only[Exit.inBlock,Exit.then]);rw[bW];refine bodyPost_ret (ni rfl _ _ _ _ _ rfl (B1.jO _ _ _ _ _) Tryz.underlying79 rfl Tryz.iM) rfl ?_;exact⟨_,_,_,_,_,_,rfl,fun h=>⟨((HP.out.2 h).1).symm,(HO.ok h).1,HN.out.symm,rfl,(HO.ok h).2⟩,HO.bad,E1.box (bD _ _ _ _ _ _ _) (att _)⟩
 have e34:¬((c.toNat:Int)=34):=by omega
 have agj:((c.toNat:Int)==34)=false:=atp.2 e34;have qI:=zq Ef;have HC:=Ef c
 cases hlc:bf c with
 | true=>
  rw[hlc]at HC;have HC:=zq HC;have agl:=hlc;unfold bf at agl;simp at agl;have hnd:aW c=false:=by unfold aW;simp;omega
  rw[hdr]at hX;simp only[bF,hlc,hnd,show (c.toNat==40)=false by simp;omega,show (c.toNat==41)=false by simp;omega,show (c.toNat==34)=false by simp;omega,show (c.toNat==45)=false by simp;omega]at hX;simp at hX;rw[←hdr]at hX;have hrl:=jr bf (s.data.toList.drop i);rw[at1,jd]at hrl;obtain⟨q,hq⟩:∃q,q=sxRun bf (s.data.toList.drop i):=⟨_,rfl⟩
  rw[←hq]at hX hrl;have HX:=zq hX;have HQ:=zq hq;clear hX hdr hc0 hq jd;go_enter Tryz.func77,Tryz.ntmps77
  go_wp2_with (first|((with_reducible refine (HC.out _).mono ?_);rintro e w1 ⟨rfl,rfl⟩))
  go_loop [12] (fun iv=>∃j:Nat,iv=.int .i64 (j:Int)∧i≤j∧j≤s.size∧Hid (sxRun bf (s.data.toList.drop j)+(j - i)=q)) (fun iv=>s.size - (intOf iv).toNat)
  case atStart=>exact⟨i,rfl,att _,by omega,zq (by rw[HQ.out];omega)⟩
  case round=>
   obtain⟨j,rfl,hj0,hj1,HJ⟩:=hrel;obtain⟨⟨c0,c1,c2,c3,c4⟩,f0,f1,f2,f3,f4⟩:=HB.out.five;have Cf:(0:Int)≤(i:Int):=by omega
   have AX:(i:Int)≤(j:Int):=by omega
   have WI:(j:Int)≤(s.size:Int):=by omega
   have oW:Hid (j - i=q→(s.extract i j)=⟨((s.data.toList.drop i).take q).toArray⟩):=zq fun h=>by apply ByteArray.ext;apply Array.toList_inj.1;rw[Lib.extract_eq,h]
   have HXE:Hid (j - i=q→(j:Int)=((i+q:Nat):Int)):=zq (fun h=>by omega);by_cases hlt:j<s.size
   ·have hat:=qN s j hlt;obtain⟨x,ex⟩:∃x,s[j]=x:=⟨_,rfl⟩
    have hx1:∀hh,s[j]'hh=x:=fun _=>ex;rw[ex]at hat;have hst:=lU bf s.data.toList j x hat;have q0:(0:Int)≤(j:Int):=by omega
    have q1:(j:Int)<(s.size:Int):=by omega
    have pz:=qI.out x
    cases iq:bf x with
    | true=>
     rw[iq]at pz hst;simp only[if_true]at hst;have pz:=zq pz;have HJ2:Hid (sxRun bf (s.data.toList.drop (j+1))+(j+1 - i)=q):=zq (by have:=HJ.out;omega);clear hst hat ex
     go_wp2_with (first|((with_reducible refine (pz.out _).mono ?_);rintro e w1 ⟨rfl,rfl⟩))
     go_round
     case rel=>exact⟨j+1,by go_num,by omega,by omega,HJ2⟩
     case measure=>simp[intOf];omega
    | false=>
     rw[iq]at pz hst;simp only[atE,if_false]at hst;have pz:=zq pz;have hjq:j - i=q:=by have:=HJ.out;omega
     have HJQ:=zq hjq;clear hst hat ex hjq
     go_wp2_with (first|((with_reducible refine (pz.out _).mono ?_);rintro e w1 ⟨rfl,rfl⟩))
     exact av1
   have q1:¬((j:Int)<(s.size:Int)):=by omega
   have hjq:j - i=q:=by have:=HJ.out;rw[auh (by rw[HL.out];omega)]at this;simp[sxRun]at this;exact this
   have HJQ:=zq hjq;clear hjq;go_wp2;exact av1
 | false=>
  rw[hlc]at HC;have HC:=zq HC;have hk2:c.toNat=45∨aW c=true:=by rcases hk with h|h|h|h;exact absurd h Ib;exact .inl h;rw[hlc]at h;cases h;exact .inr h
  have Vz:X=dI (s.data.toList.drop i):=by
   rw[hX,hdr];have h4:(c.toNat==40)=false∧(c.toNat==41)=false:=by rcases hk2 with h|h;simp[h];unfold aW at h;simp at h;simp;omega
   have h5:(c.toNat==45||aW c)=true:=by simp;exact hk2
   simp only[bF,h4.1,h4.2,h5,show (c.toNat==34)=false by simp;omega];simp
  have HN:=fun w1=>WN s w1 hs i c hi hc0;rw[←Vz]at HN;have HN:=zq HN;have HX3:Hid (X.why=0→X.kind=3∧X.s=[]):=zq (by rw[Vz];exact Ld _);have HX4:Hid (X.why≠0→X.why=12∧X.fault=0):=zq (by rw[Vz];exact Oa _);obtain⟨wy,hwy⟩:∃wy,wy=X.why:=⟨_,rfl⟩
  rw[←hwy]at HN;clear hX Vz hdr hc0;by_cases hw:wy=0
  ·have Le:(wy==0)=true:=by rw[hw];rfl
   rw[Le]at HN;subst hw;have HW:=zq hwy;clear hwy Le;go_enter Tryz.func77,Tryz.ntmps77
   go_wp2_with (first
    | ((with_reducible refine (HC.out _).mono ?_);rintro e w1 ⟨rfl,rfl⟩)
    | ((with_reducible refine (HN.out _).mono ?_);rintro e w1 ⟨j,rfl,hj,aH⟩;have HJ:=zq (hj (by simp));clear hj;have B1:=HB.out.ev aH;have E1:=HE.out.trans aH;obtain⟨⟨c0,c1,c2,c3,c4⟩,f0,f1,f2,f3,f4⟩:=B1.five))
   (try simp only[Exit.inBlock,Exit.then]);rw[bW];refine bodyPost_ret (ni rfl _ _ _ _ _ rfl (B1.jO _ _ _ _ _) Tryz.underlying79 rfl Tryz.iM) rfl ?_;exact⟨_,_,_,_,_,_,by rw[←HW.out];rfl,(fun h=>⟨((HX3.out h).1).symm,(by rw[(HX3.out h).2]),rfl,rfl,(by rw[HJ.out])⟩),(fun h=>absurd HW.out.symm h),E1.box (bD _ _ _ _ _ _ _) (att _)⟩
  have Le:(wy==0)=false:=atp.2 hw;rw[Le]at HN;have HW:=zq hwy;have HW2:=zq hw;clear hwy Le hw;go_enter Tryz.func77,Tryz.ntmps77
  go_wp2_with (first
   | ((with_reducible refine (HC.out _).mono ?_);rintro e w1 ⟨rfl,rfl⟩)
   | ((with_reducible refine (HN.out _).mono ?_);rintro e w1 ⟨j,rfl,hj,aH⟩;clear hj;have B1:=HB.out.ev aH;have E1:=HE.out.trans aH;obtain⟨⟨c0,c1,c2,c3,c4⟩,f0,f1,f2,f3,f4⟩:=B1.five))
  (try simp only[Exit.inBlock,Exit.then]);rw[bW];refine bodyPost_ret (ni rfl _ _ _ _ _ rfl (B1.jO _ _ _ _ _) Tryz.underlying79 rfl Tryz.iM) rfl ?_;exact⟨_,_,_,_,_,_,by rw[(HX4.out (by rw[←HW.out];exact HW2.out)).1];rfl,(fun h=>absurd (HW.out.trans h) HW2.out),(fun h=>by rw[(HX4.out h).2];rfl),E1.box (bD _ _ _ _ _ _ _) (att _)⟩
end Go.Proofs.YtpbfokkocaemlaaGreatDoor
