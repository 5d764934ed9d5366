import Derived.Test.YtbgmhhfjkkfhpaaGreatDoorZ41G
import Derived.Test.YtbgmhhfjkkfhpaaGreatDoorZ39G
set_option linter.unusedVariables false
set_option maxRecDepth 100000
set_option maxHeartbeats 64000000
namespace Go.Proofs.YtbgmhhfjkkfhpaaGreatDoor
open Go.RowKit
open Go.Lib renaming hid → zq
open Go renaming World → ak
open Go renaming Value → au
open Go.Proofs.Tryz renaming prog → ax
variable {U:Prop}
open Go.Proofs.Tryz
theorem VX(n0 n1:By)(c0 c1:List C)(hn:(n1==n0)=false)(hcm:0<=or2 (Nv ⟨n1.toArray⟩ ⟨n0.toArray⟩) (Nw ((1:Nat):Int) ((0:Nat):Int)))(h0:gU ⟨n0.toArray⟩=true)(h1:gU ⟨n1.toArray⟩=true)(k0:qO c0=0)(k1:qO c1=0):zQ [(n0,c0),(n1,c1)]:=λD A n cap w h hD hA=>by
 match D,hD with
 | [d0,d1],hD=>
  injection hD with e0 hD
  injection hD with e1 _
  have a0:d0.name=n0:=aD8 Prod.fst e0;have a1:d1.name=n1:=aD8 Prod.fst e1;have b0:d0.cols=c0:=aD8 Prod.snd e0;have b1:d1.cols=c1:=aD8 Prod.snd e1;have hl:=h.sl.len;simp at hl;subst hl;obtain⟨b,off,e,_⟩:=h.sl.rd ae;have h5:=hA _ e;injection h5 with _ h6 _
  subst h6 e;exact al2 b cap d0 d1 w h (by rw[a0,a1];exact hn) (by unfold afm;rw[a0,a1];exact hcm) (by rw[a0];exact h0) (by rw[a1];exact h1) (by rw[b0];exact k0) (by rw[b1];exact k1)
theorem IC(n0:By)(c0:List C)(h0:gU ⟨n0.toArray⟩=true)(k0:qO c0=0):zQ [(n0,c0)]:=λD A n cap w h hD hA=>by
 match D,hD with
 | [d0],hD=>
  injection hD with e0 _
  have a0:d0.name=n0:=aD8 Prod.fst e0;have b0:d0.cols=c0:=aD8 Prod.snd e0;have hl:=h.sl.len;simp at hl;subst hl;obtain⟨b,off,e,_⟩:=h.sl.rd ae;have h5:=hA _ e;injection h5 with _ h6 _
  subst h6 e;exact al1 b cap d0 w h (by rw[a0];exact h0) (by rw[b0];exact k0)
theorem apl:zQ tuF:=VX _ _ _ _ ai (by decide+kernel) akc akd apj apk
theorem auz:zQ [([116],jO)]:=IC _ _ akc apj
theorem auA:zQ [([117],cZ)]:=IC _ _ akd apk
structure SG(l:List TM):Prop where
 fit:∀t∈l,aff t
 cols:∀t∈l,t.cols.length<=6/\0<t.cols.length
 ok:zQ (l.map TM.df)
 len:l.length<=1000
theorem afq{A:Option Addr}{n cap:Nat}{l:List TM}(w:ak)(h:tJ w A n cap l)(hr:SG l):
  Calls ax 20 #[.slice A n cap] w λe w'=>e=.returned (.bool true)/\Ev w w':=by
 have hl:=h.sl.len;have HD:=zq (Si w h (by have:=hr.len;omega) λt ht=>by have:=hr.cols t ht;omega);unfold Jz at HD;have HO:=zq hr.ok;have HC:=zq (λw1 (hE:Ev w w1)=>I9 w1 (h.ev hE) hr.fit);clear h hr;go_enter func20,ntmps20
 go_wp2_with (first
  | ((with_reducible refine(HD.out).mono ?_);rintro e w1 ⟨D,A1,n1,c1,rfl,Oo,hD2,hD3,aJ⟩;have jE:=zq aJ;have HK:=zq (HO.out D A1 n1 c1 w1 Oo hD2 hD3);clear Oo hD2 hD3 aJ)
  | ((with_reducible refine(HK.out).mono ?_);rintro e w2 ⟨rfl,dJ⟩;have uX:=zq (jE.out.trans dJ);clear dJ)
  | ((with_reducible refine(HC.out _ uX.out).mono ?_);rintro e w3 ⟨rfl,jW⟩))
 go_ret;exact⟨rfl,uX.out.trans jW⟩
theorem VY{l:List TM}{k:Nat}{t:TM}(p:TM->Bool)(ht:l[k]?=some t):(l.take (k+1)).filter p=(l.take k).filter p++(if p t then [t] else []):=by
 obtain⟨hk,rfl⟩:=aC6.1 ht;rw[aDi hk,List.filter_append];congr 1
 cases hp:p l[k]<;>simp[hp]
theorem Tryz.Qk:(Tryz.prog.info? 40).map (λi=>(i.zero,i.size,i.bytes))=some (some (.agg #[.string ⟨#[]⟩,↑(),↑()]),3,64):=ah
theorem afr{A B:Option Addr}{n cap m cap2:Nat}{l:List TM}{ns:List By}(w:ak)(h:tJ w A n cap l)(hS:Ss w B m cap2 ns)(hn:n<=1000):
  Calls ax 24 #[.slice A n cap,.slice B m cap2] w λe w'=>∃v,e=.returned v/\OSt 40 3 tc w v (l.filter λt=>wu ns (dV t.name)) w':=by
 have hcl:=h.sl.le;have hcm:=h.sl.max;have HL:=zq h.sl.len;have H:=zq h;have HN:=zq (λs w1 (hE:Ev w w1)=>L6 ns B m cap2 s w1 (hS.ev hE));clear h hS;go_enter func24,ntmps24;go_wp2
 go_loopw [5,10] (λav iv wr=>∃(A1:Option Addr) (n1 cap1 k:Nat) (Z:List TM),av=.slice A1 n1 cap1/\iv=↑k/\k<=n/\Hid (Z.length=n1/\n1<=k)/\Hid (Z=(l.take k).filter λt=>wu ns (dV t.name))/\Hid (OSt 40 3 tc w (.slice A1 n1 cap1) Z wr)) (λ_ iv _=>n-(intOf iv).toNat)
 case atStart=>exact⟨none,0,0,0,[],rfl,rfl,aDl _,zq ⟨rfl,aC8 _⟩,zq rfl,zq ⟨Ow.nil_ _,Ev.refl _⟩⟩
 case round=>
  obtain⟨A1,n1,cap1,k,Z,rfl,rfl,hk,OI,HZ,HS⟩:=hrel;by_cases hlt:k<n
  ·obtain⟨t,ht⟩:=H.out.sl.at hlt;obtain⟨b,off,rfl,hb,c0,c1,c2⟩:=(H.out.ev HS.out.ev).cell ht;obtain⟨wx,hwx,qV,hX,hsx⟩:=R_ wr t;obtain⟨⟨x0,x1,x2⟩,_⟩:=hX.three;have HT:=zq (VY (λt=>wu ns (dV t.name)) ht);rw[<-HZ.out]at HT;have LV:=zq (HN.out (dV t.name) wx (HS.out.ev.trans qV));have Jt:=zq qV;have HXX:=zq hX;have i1:(0:Int)<=(k:Int):=ae;have i2:(k:Int)<(n:Int):=ae;clear ht hX qV
   cases hq:wu ns (dV t.name)
   ·rw[hq]at LV HT;have LV:=zq LV;have HT:=zq HT;clear hq;unfold dV at LV
    go_wp2_with (first
     | ((with_reducible refine(LV.out.out).mono ?_);rintro r w1 ⟨rfl,aJ⟩))
    go_roundw
    case rel=>exact⟨A1,n1,cap1,k+1,Z,rfl,by go_num,ae,zq ⟨OI.out.1,by have:=OI.out.2;omega⟩,zq (by rw[HT.out.out];simp),zq (HS.out.up (Jt.out.trans aJ))⟩
    case measure=>simp[intOf];omega
   rw[hq]at LV HT;have LV:=zq LV;have HT:=zq HT;have HZ1:=zq OI.out.1;have hz2:=OI.out.2;clear hq;unfold dV at LV
   go_wp2_with (first
    | ((with_reducible refine(LV.out.out).mono ?_);rintro r w1 ⟨rfl,aJ⟩;have S1:=zq (HS.out.up (Jt.out.trans aJ));clear x0 x1 x2;obtain⟨⟨x0,x1,x2⟩,_⟩:=(HXX.out.ev aJ).three;clear aJ)
    | ((show wpList _ _ _ (⟨some 21,_,_,_,_,_⟩::_) _ _);refine aQ (o:=⟨some 21,_,_,_,_,_⟩) rfl 23 (.tmp 18) (.tmp 20) rfl Vb underlying23 Tryz.Qk rfl rfl (S1.out.own.ev aC) ↑w1 1 1 [t] rfl (Sl.one (et:=40) Vb w1 t _ rfl) (by rw[HZ1.out];simp;omega) (by rw[HZ1.out];simp;omega) (S1.out.ev.trans aC).size ?_;intro v2 w2 iq;have E2:Ev w w2:=((But.aU (S1.out.ev.trans aC)).then iq.2.1).ev (λk hk=>(S1.out.own.lt (aG.1 hk)).1);obtain⟨A2,yB,rfl,_,Mc⟩:=iq.1.form Vb;clear Mc;generalize qX:(Z++[t]).length=nn at iq|-;have xy:Hid (nn=n1+1):=zq (by rw[<-qX,aDd,HZ1.out];rfl);clear qX;obtain rfl:=xy.out))
   go_roundw
   case rel=>exact⟨A2,n1+1,yB,k+1,Z++[t],rfl,by go_num,ae,zq ⟨by rw[aDd,HZ1.out];rfl,ae⟩,zq (by rw[HT.out.out];rfl),zq ⟨iq.1,E2⟩⟩
   case measure=>simp[intOf];omega
  obtain rfl:k=n:=ae;have HT:Hid (l.take k=l):=zq (aDj (by rw[HL.out];exact aC8 _));go_wp2;go_ret;refine⟨_,rfl,?_⟩;have h1:=HS.out;rw[HZ.out,HT.out]at h1;exact h1
def gcs(x:dK J):List au:=[.slice x.A x.l.length x.cap]
theorem V3:Enc 1 gcs:=⟨ae,λ_=>rfl,λx u hu=>by
 simp[gcs]at hu;rcases hu with rfl;rfl⟩
theorem yf:Enc 2 eu:=⟨ae,λ_=>rfl,λx u hu=>by
 simp[eu]at hu;rcases hu with rfl|rfl<;>rfl⟩
theorem Tryz.afs:(Tryz.prog.info? 26).map (λi=>(i.zero,i.size,i.bytes))=some (some ↑(),1,24):=ah
abbrev gv(x:dK J):au:=.slice x.A x.l.length x.cap
structure uq(w0:ak)(A:Option Addr)(n cap:Nat)(Z:List (dK J))(w:ak):Prop where
 own:Ow 26 1 gcs w0.heap.size w (.slice A n cap) Z
 each:∀x∈Z,Ow 47 2 eu w0.heap.size w (gv x) x.l
 apart:Z.Pairwise λx y=>∀g∈foot (gv x),g∉foot (gv y)
 off:∀x∈Z,∀g∈foot (gv x),g∉foot (.slice A n cap)
 rows:∀x∈Z,∀j∈x.l,mP w0.heap.size w0 j
 ev:Ev w0 w
theorem uq.start(w0:ak):uq w0 none 0 0 [] w0:=⟨Ow.nil_ _,(λx hx=>by cases hx),List.Pairwise.nil,(λx hx=>by cases hx),(λx hx=>by cases hx),Ev.refl _⟩
theorem uq.up{w0 w w':ak}{A:Option Addr}{n cap:Nat}{Z:List (dK J)}(h:uq w0 A n cap Z w)(hE:Ev w w'):uq w0 A n cap Z w':=
 ⟨h.own.ev hE,λx hx=>(h.each x hx).ev hE,h.apart,h.off,h.rows,h.ev.trans hE⟩
theorem uq.grow{w0 wr wq w2:ak}{A:Option Addr}{n cap:Nat}{Z:List (dK J)}{v2:au}(h:uq w0 A n cap Z wr)(hE:Ev wr wq)(hA:uG 26 1 gcs w0.heap.size wq (.slice A n cap) (Z++[⟨none,0,[]⟩]) v2 w2):
  ∃A2 cap2,v2=.slice A2 (Z.length+1) cap2/\uq w0 A2 (Z.length+1) cap2 (Z++[⟨none,0,[]⟩]) w2:=by
 obtain⟨ho,hb,hs⟩:=hA;obtain⟨A2,cap2,rfl,_,_⟩:=ho.form V3;have hl:(Z++[(⟨none,0,[]⟩:dK J)]).length=Z.length+1:=aj;rw[hl]at ho hs|-;have hnf:∀g,g∉foot (gv ⟨none,0,[]⟩):=λg hg=>by cases aG.1 hg
 have hyb:∀y∈Z,∀g∈foot (gv y),g<wr.heap.size:=λy hy g hg=>((h.each y hy).lt (aG.1 hg)).2;have hK:∀k∈foot (.slice A n cap),w0.heap.size<=k:=λk hk=>(h.own.lt (aG.1 hk)).1;refine⟨A2,cap2,rfl,ho,λy hy=>?_,?_,λy hy g hg hm=>?_,λy hy=>?_,((But.aU (h.ev.trans hE)).then hb).ev λk hk=>hK k hk⟩;rcases aDm.1 hy with h1|h1;exact((h.each y h1).ev hE).but hb λg hg hm=>h.off y h1 g (aG.2 hg) hm;simp at h1;subst h1;exact Ow.nil_ _;rw[aEE];refine⟨h.apart,aEr _ _,λy hy z hz g hg hm=>?_⟩;simp at hz;subst hz;exact hnf g hm;rcases aDm.1 hy with h1|h1;rcases hs g (aG.1 hm) with h2|h2;exact h.off y h1 g hg (aG.2 h2);have:=hyb y h1 g hg;have:=hE.size;omega;simp at h1;subst h1;exact hnf g hg;rcases aDm.1 hy with h1|h1;exact h.rows y h1;simp at h1;subst h1;intro j hj
 cases hj
theorem uq.cell{w0 w:ak}{A:Option Addr}{n cap:Nat}{Z:List (dK J)}(h:uq w0 A n cap Z w){i:Nat}{x:dK J}(hx:Z[i]?=some x):∃b,A=some ⟨b,0,none⟩/\b<w.heap.size/\w0.heap.size<=b/\b∈foot (.slice A n cap)/\w.cell? ⟨b,i,none⟩=some (gv x)/\w.frozen? ⟨b,i,none⟩=false:=by
 obtain⟨A1,cap1,hv,hS,I7⟩:=h.own.form V3;injection hv with h1 h2 h3
 subst h1;have hi:=(aC6.1 hx).1;obtain⟨b,off,e,hlt,hc⟩:=hS.rd ae;have h5:=I7 _ e;have h6:=h5.2.2.2.1;injection h6 with _ h6 _
 subst h6;have:=hc i x hx 0 _ rfl;rw[aED,aDw,aDt]at this;exact⟨b,e,hlt,h5.2.1,aG.2 h5.1,this,h5.2.2.2.2 i⟩
theorem uq.len{w0 w:ak}{A:Option Addr}{n cap:Nat}{Z:List (dK J)}(h:uq w0 A n cap Z w):Z.length=n:=by
 obtain⟨A1,cap1,hv,_⟩:=h.own.form V3;injection hv with _ h2 _
 exact h2.symm
theorem uq.items{w0 w:ak}{A:Option Addr}{n cap:Nat}{Z:List (dK J)}(h:uq w0 A n cap Z w){x:dK J}(hx:x∈Z):Zs w.heap.size w x.A x.l.length x.cap x.l:=by
 obtain⟨A1,cap1,hv,hS,I7⟩:=(h.each x hx).form yf;injection hv with h1 h2 h3
 subst h1 h3;exact⟨hS,λj hj=>⟨(h.rows x hx j hj).1.ev h.ev,λad ea=>aDf ((h.rows x hx j hj).2 ad ea) h.ev.size⟩,λad ea=>(I7 ad ea).2.2.1,aC8 _⟩
theorem YU{A LA:Option Addr}{n cap m lc bl bx:Nat}{gl:List J}{left:List Nat}{x:J}(w:ak)(hl:w.cell? ⟨bl,0,none⟩=some (.slice LA m lc))(hL:Ks w LA m lc (left.map Bc))(hx:w.cell? ⟨bx,0,none⟩=some (.slice x.1.1 x.1.2.1 x.1.2.2))(hxr:Vs w x.1.1 x.1.2.1 x.1.2.2 x.2.1)
  (hG:Zs w.heap.size w A n cap gl) (hn:0<n) (hin:∀j∈gl,∀i∈left,i<j.2.1.length) (aft:∀i∈left,i<x.2.1.length):
  Calls ax 199 #[.slice A n cap,.pointer ↑bl,.pointer ↑bx] w λe w'=>e=.returned (.bool (hasKey (keyAt left) x.2 (aK gl)))/\Ev w w':=by
 have dH:Tryz.prog.follows .mixedOrders=true:=ah;obtain⟨b,off,j,rfl,hb,_,hj,c0,c1,hv⟩:=hG.at hn;unfold nK at c0;have Zy:=aDb hj;have hME:=zq (λw1 (hE:Ev w w1)=>ahU (l:=left) (r:=left) w1 (hv.ev hE) (hL.ev hE) (hxr.ev hE) (hL.ev hE) rfl (λi hi=>by rw[<-hv.len];exact hin j Zy i hi) (λi hi=>by rw[<-hxr.len];exact aft i hi));have HK:Hid (hasKey (keyAt left) x.2 (aK gl)=decide (dF j.2.1 left=dF x.2.1 left)):=zq (by
  cases gl with
  | nil=>simp at hj
  | cons y gl=>simp at hj;subst hj;rfl)
 have hcl:=hG.le;have hcm:=hG.max;have i0:(0:Int)<(n:Int):=ae;simp only[aDH,aDw]at c0;rw[HK.out];generalize decide (dF j.2.1 left=dF x.2.1 left)=q at*;clear hL hxr hG hin aft hv hj Zy HK c1;go_enter func199,ntmps199;go_upto_region 1 with fail
 go_still_tail 8,ah
 generalize hwd:({heap:=w.heap,tape:=w.tape,drawn:=w.drawn+1,os:=w.os,output:=w.output}:ak)=wd;have CE:Ev w wd:=hwd▸Ev.drew w;have X3:=zq CE;clear hwd CE
 go_wp2_with (first
  | ((with_reducible refine(hME.out wd X3.out).mono ?_);rintro r w1 ⟨rfl,aJ⟩))
 go_ret;exact⟨rfl,X3.out.trans aJ⟩
abbrev kJ(Z:List (dK J)):List (List I):=Z.map λx=>aK x.l
def ixG(key:I->List V)(x:I)(G:List (List I)):Int:=match G.findIdx? (hasKey key x) with|some i=>(i:Int)|none=>-1
theorem SI{A LA:Option Addr}{n cap m lc bl bx:Nat}{Z:List (dK J)}{left:List Nat}{x:J}(w0 w:ak)(h:uq w0 A n cap Z w)(hl:w.cell? ⟨bl,0,none⟩=some (.slice LA m lc))(hbl:bl<w.heap.size)(hL:Ks w LA m lc (left.map Bc))(hx:w.cell? ⟨bx,0,none⟩=some (.slice x.1.1 x.1.2.1 x.1.2.2))(Gx:bx<w.heap.size)(hxr:Vs w x.1.1 x.1.2.1 x.1.2.2 x.2.1)
  (hne:∀g∈Z,g.l≠[]) (hin:∀g∈Z,∀j∈g.l,∀i∈left,i<j.2.1.length) (aft:∀i∈left,i<x.2.1.length):
  Calls ax 198 #[.slice A n cap,.func (.func 199) #[] #[.pointer ↑bl,.pointer ↑bx]] w λe w'=>e=.returned (.int .i64 (ixG (keyAt left) x.2 (kJ Z)))/\Ev w w':=by
 have HN:=zq h.len;have H:=zq h;obtain⟨_,_,hv0,hS0,_⟩:=h.own.form V3;injection hv0 with e1 e2 e3
 subst e1 e3;have hn:=hS0.le;have hm:=hS0.max;rw[HN.out]at hn;have HC:=zq (λ(g:dK J) (hg:g∈Z) w1 (hE:Ev w w1)=>YU (gl:=g.l) (left:=left) (x:=x) w1 ((hE.cell (p:=⟨bl,0,none⟩) hbl).trans hl) (hL.ev hE) ((hE.cell (p:=⟨bx,0,none⟩) Gx).trans hx) (hxr.ev hE) ((h.up hE).items hg) (aE1.2 (hne g hg)) (hin g hg) aft);clear h hl hL hx hxr hne hin aft hS0 e2;go_enter func198,ntmps198;go_wp2
 go_loopw [8] (λi wr=>∃k:Nat,k<=n/\i=↑k/\Hid (∀i g,i<k->Z[i]?=some g->hasKey (keyAt left) x.2 (aK g.l)=false)/\Hid (Ev w wr)) (λi _=>n-(intOf i).toNat)
 case atStart=>exact⟨0,aDl _,rfl,zq (λi d hi=>by omega),zq aS⟩
 case round=>
  obtain⟨k,hk,rfl,HT,HE⟩:=hrel;by_cases hlk:k<n;obtain⟨g,hg⟩:∃g,Z[k]?=some g:=⟨_,aDo (by rw[HN.out];exact hlk)⟩
  obtain⟨b,rfl,hb,_,_,c0,_⟩:=(H.out.up HE.out).cell hg;have HD:=zq hg;have i1:(0:Int)<=(k:Int):=ae;have i2:(k:Int)<(n:Int):=ae;have EY:=HC.out g (aDb hg);clear hg
  cases ht:hasKey (keyAt left) x.2 (aK g.l)
  rw[ht]at EY;have EY:=zq EY;have HF:Hid (∀i g,i<k+1->Z[i]?=some g->hasKey (keyAt left) x.2 (aK g.l)=false):=zq (λi d' hi W9=>by
   by_cases hik:i<k;exact HT.out i d' hik W9;obtain rfl:i=k:=ae;rw[HD.out]at W9;obtain rfl:=aDp W9;exact ht)
  exact aGA;rw[ht]at EY;have EY:=zq EY;have HF:Hid (ixG (keyAt left) x.2 (kJ Z)=(k:Int)):=zq (by
   have h1:(kJ Z).findIdx? (hasKey (keyAt left) x.2)=some k:=by rw[aD6];obtain⟨hk2,e⟩:=aC6.1 HD.out;refine⟨by simpa using hk2,by simp only[List.getElem_map,e];exact ht,λj hj=>?_⟩;have:=HT.out j _ hj (aDo ae);simpa using this
   unfold ixG;rw[h1])
  exact aGV;obtain rfl:k=n:=ae;have HF:Hid (ixG (keyAt left) x.2 (kJ Z)=-1):=zq (by
   have h1:(kJ Z).findIdx? (hasKey (keyAt left) x.2)=none:=by rw[aEA];intro d hd;obtain⟨g,hg,rfl⟩:=aDz.1 hd;obtain⟨i,hi,e⟩:=aEN hg;exact HT.out i g (by rw[<-HN.out];exact hi) (by rw[aDo hi,e])
   unfold ixG;rw[h1])
  go_wp2;go_ret;exact⟨by rw[HF.out];rfl,HE.out⟩
theorem eQ.lies{l:List I}{w:ak}{A:Option Addr}{n cap:Nat}(h:eQ l w A n cap){k:Nat}(hk:k<n):∃b off z,A=some ⟨b,off,none⟩/\b<w.heap.size/\l[k]?=some z.2/\mP w.heap.size w z/\∀w1,Ev w w1->w1.cell? ⟨b,off+k*2,none⟩=some (.slice z.1.1 z.1.2.1 z.1.2.2)/\w1.cell? ⟨b,off+k*2+1,none⟩=some (.complex .f64 (fl z.2.2.1) (fl z.2.2.2)):=by obtain⟨Z,hZ,rfl⟩:=h;obtain⟨b,off,z,e,hb,_,hz,c0,c1,hv⟩:=hZ.at hk;refine⟨b,off,z,e,hb,by unfold aK;rw[aDG,hz];rfl,hZ.rows z (aDb hz),λw1 hE=>⟨(hE.cell (p:=⟨b,off+k*2,none⟩) hb).trans c0,(hE.cell (p:=⟨b,off+k*2+1,none⟩) hb).trans c1⟩⟩
theorem mP.ev{w w':ak}{z:J}(h:mP w.heap.size w z)(hE:Ev w w'):mP w'.heap.size w' z:=⟨h.1.ev hE,λad ea=>aDf (h.2 ad ea) hE.size⟩
def Ew(b0:Nat)(wq:ak)(g:dK J)(z:J)(v:au)(u:ak):Prop:=∃x:dK J,v=gv x/\x.l=g.l++[z]/\Ow 47 2 eu b0 u (gv x) x.l/\dE wq (gv g) (gv x)
theorem Ew.mono(b0:Nat)(wq:ak)(g:dK J)(z:J):kK (Ew b0 wq g z):=λv w w' hE ⟨x,h1,h2,h3,h4⟩=>⟨x,h1,h2,h3.ev hE,h4⟩
theorem Ew.but{b0:Nat}{wq:ak}{g:dK J}{z:J}{ba:Nat}(h1:ba∉foot (gv g))(h2:ba<wq.heap.size)(v:au)(w w':ak)(hb:But [ba] w w')(h:Ew b0 wq g z v w):Ew b0 wq g z v w':=by obtain⟨x,e,hl,ho,hs⟩:=h;refine⟨x,e,hl,ho.but hb λq hq hm=>?_,hs⟩;simp at hm;subst hm;rcases hs _ hq with h3|h3;exact h1 (aG.2 h3);omega
def YV(b0:Nat)(wq:ak)(g:dK J)(z:J)(ba n cap:Nat)(Z:List (dK J))(i:Nat)(u:ak):Prop:=∃x:dK J,x.l=g.l++[z]/\Ow 47 2 eu b0 u (gv x) x.l/\dE wq (gv g) (gv x)/\Ow 26 1 gcs b0 u (.slice ↑ba n cap) (Z.set i x)/\But (ba::foot (gv g)) wq u
theorem YV.ev{b0:Nat}{wq:ak}{g:dK J}{z:J}{ba n cap:Nat}{Z:List (dK J)}{i:Nat}{u u':ak}(h:YV b0 wq g z ba n cap Z i u)(hE:Ev u u'):YV b0 wq g z ba n cap Z i u':=by obtain⟨x,h1,h2,h3,h4,h5⟩:=h;exact⟨x,h1,h2.ev hE,h3,h4.ev hE,h5.then (But.aU hE)⟩
theorem uq.set{w0 wq u:ak}{ba n cap i:Nat}{Z:List (dK J)}{g:dK J}{z:J}(h:uq w0 ↑ba n cap Z wq)(hg:Z[i]?=some g)(hz:mP w0.heap.size w0 z)(hf:YV w0.heap.size wq g z ba n cap Z i u):∃x:dK J,x.l=g.l++[z]/\uq w0 ↑ba n cap (Z.set i x) u:=by
 obtain⟨x,hl,ho,hs,hown,hb⟩:=hf;obtain⟨hi,hgi⟩:=aC6.1 hg;obtain⟨b,eb,hblt,auB,hbf,_,_⟩:=h.cell hg;injection eb with eb
 injection eb with eb _ _
 subst eb;have hsplit:Z=Z.take i++g::Z.drop (i+1):=by rw[<-hgi,aEQ,aDS]
 have hset:Z.set i x=Z.take i++x::Z.drop (i+1):=by rw[List.set_eq_take_append_cons_drop,if_pos hi]
 have hgm:g∈Z:=aDb hg;have hap:=h.apart;rw[hsplit]at hap;obtain⟨p1,p2,p3⟩:=aEE.1 hap;obtain⟨p4,p5⟩:=aDQ.1 p2;have hxf:∀q∈foot (gv x),q∈foot (gv g)∨wq.heap.size<=q:=λq hq=>(hs q (aG.1 hq)).imp (λe=>aG.2 e) id;have hlt:∀y∈Z,∀q∈foot (gv y),w0.heap.size<=q/\q<wq.heap.size:=λy hy q hq=>(h.each y hy).lt (aG.1 hq);have hm1:∀y,y∈Z.take i∨y∈Z.drop (i+1)->y∈Z:=λy hy=>hy.elim aD2 aEm;have hoth:∀y,y∈Z.take i∨y∈Z.drop (i+1)->∀q∈foot (gv y),q∉foot (gv g):=λy hy q hq hm=>by rcases hy with hy|hy;exact p3 y hy g aC' q hq hm;exact p4 y hy q hm hq
 have ake:∀y,y∈Z.take i∨y∈Z.drop (i+1)->Ow 47 2 eu w0.heap.size u (gv y) y.l:=λy hy=>(h.each y (hm1 y hy)).but hb λq hq hm=>by rcases aDg.1 hm with e|hm;exact h.off y (hm1 y hy) q (aG.2 hq) (e▸hbf);exact hoth y hy q (aG.2 hq) hm
 refine⟨x,hl,hown,λy hy=>?_,?_,λy hy q hq hm=>?_,λy hy=>?_,((But.aU h.ev).then hb).ev λq hq=>?_⟩;rw[hset]at hy;rcases aDm.1 hy with h1|h1;exact ake y (.inl h1);rcases aDg.1 h1 with rfl|h1;exact ho;exact ake y (.inr h1);rw[hset];refine aEE.2 ⟨p1,aDQ.2 ⟨λy hy q hq hm=>?_,p5⟩,λy hy k hk q hq hm=>?_⟩;rcases hxf q hq with h1|h1;exact p4 y hy q h1 hm;have:=(hlt y (hm1 y (.inr hy)) q hm).2;omega;rcases aDg.1 hk with rfl|hk;rcases hxf q hm with h1|h1;exact p3 y hy g aC' q hq h1;have:=(hlt y (hm1 y (.inl hy)) q hq).2;omega;exact p3 y hy k (aDc _ hk) q hq hm;rw[hset]at hy;rcases aDm.1 hy with h1|h1;exact h.off y (hm1 y (.inl h1)) q hq hm;rcases aDg.1 h1 with rfl|h1;rcases hxf q hq with h2|h2;exact h.off g hgm q h2 hm;have:=(h.own.lt (aG.1 hm)).2;omega;exact h.off y (hm1 y (.inr h1)) q hq hm;rw[hset]at hy;rcases aDm.1 hy with h1|h1;exact h.rows y (hm1 y (.inl h1));rcases aDg.1 h1 with rfl|h1;intro j hj;rw[hl]at hj;rcases aDm.1 hj with hj|hj;exact h.rows g hgm j hj;rw[aDM.1 hj];exact hz;exact h.rows y (hm1 y (.inr h1));rcases aDg.1 hq with rfl|hq;exact auB;exact(hlt g hgm q hq).1
theorem V4{α:Type}(l:List α):(l.map λ_=>(1:Int)).sum=(l.length:Int):=by
 induction l with
 | nil=>rfl
 | cons x l ih=>simp only[aDe,aDI,ih,aDh];omega
theorem wK{α:Type}(f:α->Int):∀l:List α,(∀x∈l,1<=f x)->(l.length:Int)<=(l.map f).sum/\∀x∈l,f x<=(l.map f).sum
 | [],_=>by simp
 | y::l,h=>by obtain⟨h1,h2⟩:=wK f l λz hz=>h z (aDc _ hz);have hy:=h y aC';simp only[aDe,aDI,aDh];refine⟨ae,λx hx=>?_⟩;rcases aDg.1 hx with rfl|hx;omega;have:=h2 x hx;omega
theorem Ey(key:I->List V)(l:List I):(dB key l).length<=l.length/\∀g∈dB key l,g.length<=l.length:=by
 have hG:=pK key l;have hs:=hG.sum λ_=>1;rw[V4]at hs;have he:(dB key l).map (λg=>(g.map λ_=>(1:Int)).sum)=(dB key l).map λg=>(g.length:Int):=aDT λg _=>V4 g;rw[he]at hs;obtain⟨h1,h2⟩:=wK (λg:List I=>(g.length:Int)) (dB key l) λg hg=>by have:=aE1.2 (hG.ne g hg);omega
 refine⟨ae,λg hg=>?_⟩;have:=h2 g hg;omega
theorem aix(w:ak)(v:au):∃w0,w.alloc (.cells #[v] 175)=w0/\Ev w w0/\Bx 175 w.heap.size #[v] w0/\w0.heap.size=w.heap.size+1:=⟨_,rfl,Ev.alloc _ _,Bx.new _ _ _,aj⟩
theorem afu{key:I->List V}{G:List (List I)}{x:I}{i:Nat}{g:List I}(h:G.findIdx? (hasKey key x)=some i)(hg:G[i]?=some g):G.set i (g++[x])=DU key G x:=by unfold DU;rw[h];simp only[List.getD,hg,Option.getD_some]
theorem ace{key:I->List V}{G:List (List I)}{x:I}(h:G.findIdx? (hasKey key x)=none):(G++[[]]).set G.length ([]++[x])=DU key G x:=by unfold DU;rw[h];simp
theorem acf(key:I->List V)(x:I)(G:List (List I)):(G.findIdx? (hasKey key x)=none/\ixG key x G=-1)∨∃i g,G.findIdx? (hasKey key x)=some i/\G[i]?=some g/\ixG key x G=(i:Int):=by
 unfold ixG;cases h:G.findIdx? (hasKey key x) with
 | none=>exact .inl ⟨rfl,rfl⟩
 | some i=>
  have hi:=(aD6.1 h).1;exact .inr ⟨i,G[i],rfl,aDo hi,rfl⟩
theorem acg{A LA:Option Addr}{n cap m lc:Nat}{l:List I}{left:List Nat}(w:ak)(h:eQ l w A n cap)(hL:Ks w LA m lc (left.map Bc))(hn:n<=100000)(hin:∀x∈l,∀i∈left,i<x.1.length):
  Calls ax 146 #[.slice A n cap,.slice LA m lc] w λe w'=>∃(A2:Option Addr) (n2 c2:Nat) (Z:List (dK J)) (w0:ak),e=.returned (.slice A2 n2 c2)/\uq w0 A2 n2 c2 Z w'/\kJ Z=dB (keyAt left) l/\Ev w w0:=by
 have dH:Tryz.prog.follows .mixedOrders=true:=ah;have hst:=f_;have hmf:∀(fn:Fn) (first cap:Array au) (w:ak),(Instr.makeFunc fn first cap).run ax w=.ok (.func fn first cap) w:=λ_ _ _ _=>rfl;obtain⟨uC,hn2⟩:=h.le;have vU:=zq h.len;have H:=zq h;have WS:=zq hin;obtain⟨w0,hw0,aV,hB0,hs0⟩:=aix w (.slice LA m lc);obtain⟨bl,hbl⟩:∃bl,bl=w.heap.size:=⟨_,rfl⟩
 rw[<-hbl]at hB0;have auC:=zq hB0;have HL:=zq (hL.ev aV);have cO:=zq aV;have auD:Hid (bl<w0.heap.size):=zq hB0.lt;clear h hL hin hB0 aV;go_enter func146,ntmps146;go_wp2;rw[<-hbl];clear hbl
 go_loopw [5,11] (λav iv wr=>∃(A1:Option Addr) (n1 c1 k:Nat) (Z:List (dK J)),av=.slice A1 n1 c1/\iv=↑k/\k<=n/\Hid (uq w0 A1 n1 c1 Z wr)/\Hid (kJ Z=dB (keyAt left) (l.take k))) (λ_ iv _=>n-(intOf iv).toNat)
 case atStart=>exact⟨none,0,0,0,[],rfl,rfl,aDl _,zq (uq.start w0),zq rfl⟩
 case round=>
  obtain⟨A1,n1,c1,k,Z,rfl,rfl,hk,HG,HI⟩:=hrel;by_cases hlt:k<n
  ·obtain⟨b,off,z,rfl,hb,hz,hzl,hcell⟩:=H.out.lies hlt;obtain⟨c0,oO⟩:=hcell wr (cO.out.trans HG.out.ev);have hb0:b<wr.heap.size:=aDf hb (cO.out.trans HG.out.ev).size;have Jk:=aDb hz;have OI:=zq (hzl.ev cO.out);obtain⟨wx,hwx,qV,hX,hsx⟩:=ZU wr z;obtain⟨bx,Gx⟩:∃bx,bx=wr.heap.size:=⟨_,rfl⟩
   rw[<-Gx]at hX;have HX:=zq hX;have ZT:=zq Gx;have hGO:=pK (keyAt left) (l.take k);have hmem:∀g∈Z,∀j∈g.l,j.2∈l:=λg hg j hj=>by have h1:aK g.l∈kJ Z:=aDF hg;rw[HI.out]at h1;exact aD2 (hGO.mem _ h1 j.2 (aDF hj))
   have HIX:=zq (SI (bl:=bl) (bx:=bx) (left:=left) (x:=z) w0 wx (HG.out.up qV) ((auC.out.ev (HG.out.ev.trans qV)).cell 0) (aDf auD.out (HG.out.ev.trans qV).size) (HL.out.ev (HG.out.ev.trans qV)) (hX.cell 0) hX.lt (hzl.1.ev ((cO.out.trans HG.out.ev).trans qV))
    (λg hg e=>by
     have h1:aK g.l∈kJ Z:=aDF hg;rw[HI.out]at h1;exact hGO.ne _ h1 (by rw[e];rfl)) (λg hg j hj=>WS.out j.2 (hmem g hg j hj)) (WS.out z.2 Jk))
   have mr:Hid (dB (keyAt left) (l.take (k+1))=DU (keyAt left) (dB (keyAt left) (l.take k)) z.2):=zq (by
    obtain⟨hk2,e1⟩:=aC6.1 hz;rw[aDi hk2,e1,xH])
   have Jt:=zq qV;have HZN:=zq HG.out.len;have HGS:=zq (Ey (keyAt left) (l.take k));have hzk:Z.length<=100000:=by have h1:=HGS.out.1;rw[<-HI.out]at h1;unfold kJ at h1;rw[aC_,aDP]at h1;omega
   have i1:(0:Int)<=(k:Int):=ae;have i2:(k:Int)<(n:Int):=ae;rw[HI.out]at HIX;obtain⟨ix,hix⟩:∃ix,ix=ixG (keyAt left) z.2 (dB (keyAt left) (l.take k)):=⟨_,rfl⟩
   rw[<-hix,Gx]at HIX;have acj:=zq hix;clear hz hzl hcell Jk hX qV hGO hmem hix Gx
   go_upto_if 19 with (first
    | ((with_reducible refine(HIX.out).mono ?_);rintro r w1 ⟨rfl,aJ⟩;have jE:=zq aJ;clear aJ))
   go_cut [5,8] (λv5 v8 wq=>∃(A2:Option Addr) (n2 c2 i:Nat) (Z2:List (dK J)) (g:dK J),v5=.slice A2 n2 c2/\v8=↑i/\Hid (Z2[i]?=some g)/\Hid (uq w0 A2 n2 c2 Z2 wq)/\Hid ((kJ Z2).set i (aK g.l++[z.2])=DU (keyAt left) (dB (keyAt left) (l.take k)) z.2)/\Hid (Bx 47 bx #[.slice z.1.1 z.1.2.1 z.1.2.2,.complex .f64 (fl z.2.2.1) (fl z.2.2.2)] wq)/\Hid (∀q∈foot (gv g),q<bx)/\Hid (g.l.length<=100000))
   case first=>
    rcases acf (keyAt left) z.2 (dB (keyAt left) (l.take k)) with⟨hf,he⟩|⟨i,gi,hf,hgi,he⟩
    ·rw[he]at acj;obtain rfl:=acj.out;have Px:=zq (ace hf);have auE:Hid (∀q∈foot (gv ⟨none,0,[]⟩),q<bx):=zq λq hq=>by cases aG.1 hq
     have HGW:=zq (HG.out.up (Jt.out.trans jE.out));clear hf he acj
     go_wp2_with (first
      | ((show wpList _ _ _ (⟨some 24,_,_,_,_,_⟩::_) _ _);refine aQ (o:=⟨some 24,_,_,_,_,_⟩) rfl 213 (.tmp 22) (.tmp 23) rfl V3 underlying213 Tryz.afs rfl rfl (HGW.out.own.ev aC) (some ⟨↑w1,0,none⟩) 1 1 [⟨none,0,[]⟩] rfl (Sl.one (et:=26) V3 w1 ⟨none,0,[]⟩ _ rfl) (by have:=HZN.out;simp;omega) (by have:=HZN.out;simp;omega) (HGW.out.ev.trans aC).size ?_;intro v2 w2 iq;obtain⟨A2,c2,rfl,hG2⟩:=HGW.out.grow aC iq;have oM:=zq hG2;have N8:=zq iq.2.1;have HFT:Hid (∀q∈foot (.slice A1 n1 c1),w0.heap.size<=q):=zq (λq hq=>(HGW.out.own.lt (aG.1 hq)).1);clear iq hG2))
     go_meet
     refine⟨A2,n1+1,c2,n1,Z++[⟨none,0,[]⟩],⟨none,0,[]⟩,by rw[HZN.out],rfl,?_,?_,?_,?_,auE,zq aj⟩;exact zq (by rw[<-HZN.out];simp);rw[<-HZN.out];exact oM;exact zq (by
      have h:=Px.out;rw[<-HI.out]at h|-;have hl:(kJ Z).length=n1:=by unfold kJ;rw[aC_,HZN.out]
      rw[hl]at h;rw[<-h];unfold kJ aK;simp)
     exact zq (((HX.out.ev jE.out).ev aC).but N8.out λhm=>by
      have h1:=(HG.out.own.lt (aG.1 hm)).2;have h2:=ZT.out;omega)
    rw[he]at acj;obtain rfl:=acj.out;have hgz:∃g,Z[i]?=some g/\aK g.l=gi:=by have h1:=hgi;rw[<-HI.out]at h1;unfold kJ at h1;rw[aDG,aEF]at h1;exact h1
    obtain⟨g,hgz,al4⟩:=hgz;have HGZ:=zq hgz;have HHT:=zq (afu hf hgi);have HGL:Hid (g.l.length<=100000):=zq (by
     have h1:=HGS.out.2 gi (aDb hgi);rw[<-al4]at h1;unfold aK at h1;rw[aC_,aDP]at h1;omega)
    have HFB:Hid (∀q∈foot (gv g),q<bx):=zq λq hq=>by have h1:=((HG.out.each g (aDb hgz)).lt (aG.1 hq)).2;have h2:=ZT.out;omega
    have auF:=zq al4;have HGW:=zq (HG.out.up (Jt.out.trans jE.out));have i5:¬((i:Int)<0):=ae;clear hf he hgi hgz al4 acj
    go_wp2_with fail
    go_meet
    exact⟨A1,n1,c1,i,Z,g,rfl,rfl,HGZ,HGW,zq (by rw[HI.out,auF.out];exact HHT.out),zq (HX.out.ev jE.out),HFB,HGL⟩
   case rest=>
   rename ak=>wq;obtain⟨A2,n2,c2,i,Z2,g,rfl,rfl,HGI,oM,HAD,HX2,HFB,HGL⟩:=hcut;obtain⟨ba,rfl,hba,auG,apo,hcg,hzg⟩:=oM.out.cell HGI.out;have aiy:i<n2:=by have h1:=(aC6.1 HGI.out).1;have h2:=oM.out.len;omega
   have HBL:=zq hba;have HNB:Hid (ba∉foot (gv g)):=zq λhm=>oM.out.off g (aDb HGI.out) ba hm apo;have HFW:Hid (∀q∈foot (gv g),q<wq.heap.size):=zq λq hq=>((oM.out.each g (aDb HGI.out)).lt (aG.1 hq)).2;have HBW:Hid (∀q∈[ba],q<wq.heap.size):=zq λq hq=>by simp at hq;omega
   have HOG:=zq (oM.out.each g (aDb HGI.out));have HOA:=zq oM.out.own;have HWS:Hid (w0.heap.size<=wq.heap.size):=zq oM.out.ev.size;have i3:(0:Int)<=(i:Int):=ae;have i4:(i:Int)<(n2:Int):=ae;clear hba auG apo hzg aiy
   go_wp2_with fail
   rw[<-ZT.out];refine GN dH (λ_=>True) (λp u u'=>match p with|0=>But (foot (gv g)) u u'|1=>But [ba] u u'|_=>False) [8,10] (λp u=>match p with|0=>Ev wq u|1=>But (foot (gv g)) wq u|_=>YV w0.heap.size wq g z ba n2 c2 Z2 i u) [λv _=>v=.slice ↑ba n2 c2,λv _=>v=↑i,λv _=>v=.slice ↑ba n2 c2,λv _=>v=↑i,λv _=>v=.pointer ↑(ba,i),λv _=>v=.slice g.A g.l.length g.cap,λv _=>v=.agg #[.slice z.1.1 z.1.2.1 z.1.2.2,.complex .f64 (fl z.2.2.1) (fl z.2.2.2)],lV 2 eu wq.heap.size (λ_ y=>y=z),Ew w0.heap.size wq g z,λv _=>v=.pointer ↑(ba,i),λ_ _=>True]
    37 2 rfl ah ⟨aB _,aB _,aB _,aB _,aB _,aB _,aB _,lV.mono (λ_ _ _ _ h=>h),Ew.mono _ _ _ _,aB _,fC,trivial⟩ (λp=>match p with|0=>⟨.inr (λ_ _ _ _ h=>h),.inr (λ_ _ _ _ h=>h),.inr (λ_ _ _ _ h=>h),.inr (λ_ _ _ _ h=>h),.inr (λ_ _ _ _ h=>h),.inr (λ_ _ _ _ h=>h),.inr (λ_ _ _ _ h=>h),.inr (lV.yu HFW.out (λ_ _ _ _ h=>h)),.inl rfl,.inr (λ_ _ _ _ h=>h),.inl rfl,trivial⟩|1=>⟨.inr (λ_ _ _ _ h=>h),.inr (λ_ _ _ _ h=>h),.inr (λ_ _ _ _ h=>h),.inr (λ_ _ _ _ h=>h),.inr (λ_ _ _ _ h=>h),.inr (λ_ _ _ _ h=>h),.inr (λ_ _ _ _ h=>h),.inr (lV.yu HBW.out (λ_ _ _ _ h=>h)),.inr (Ew.but HNB.out HBL.out),.inr (λ_ _ _ _ h=>h),.inl rfl,trivial⟩|_+2=>⟨.inr (λ_ _ _ hf _=>hf.elim),.inr (λ_ _ _ hf _=>hf.elim),.inr (λ_ _ _ hf _=>hf.elim),.inr (λ_ _ _ hf _=>hf.elim),.inr (λ_ _ _ hf _=>hf.elim),.inr (λ_ _ _ hf _=>hf.elim),.inr (λ_ _ _ hf _=>hf.elim),.inr (λ_ _ _ hf _=>hf.elim),.inr (λ_ _ _ hf _=>hf.elim),.inr (λ_ _ _ hf _=>hf.elim),.inr (λ_ _ _ hf _=>hf.elim),trivial⟩) ah (λp u u' hE h=>match p,h with|0,h=>Ev.trans h hE|1,h=>But.then h (But.aU hE)|_+2,h=>YV.ev h hE) (λ_ _ _ _=>trivial) trivial (Ev.refl wq) ah ?_ ?_ ?_
   ·refine aO 0 ?_ (aO 1 ?_ (aO 2 ?_ (aO 3 ?_ (aO 4 ?_ (aO 5 ?_ (aO 6 ?_ (aO 7 ?_ (gq 8 ai (aO 9 ?_ (gq 10 ai (uU 11)))))))))));refine nJ λa wv c he=>⟨(ay rfl),_,run_move _ rfl wv,(c.was 5 rfl)⟩
    refine nJ λa wv c he=>⟨(ay rfl),_,run_move _ rfl wv,(c.was 8 rfl)⟩
    refine nJ λa wv c he=>⟨(ay rfl),_,run_move _ rfl wv,(c.was 5 rfl)⟩
    refine nJ λa wv c he=>⟨(ay rfl),_,run_move _ rfl wv,(c.was 8 rfl)⟩
    ·refine nJ λa wv c he=>⟨(ay rfl),.pointer ↑(ba,i),?_,rfl⟩
     have bn:a.eval (.tmp 27)=.slice ↑ba n2 c2:=(c.new 2 27)
     have jk:a.eval (.tmp 28)=↑i:=(c.new 3 28)
     generalize a.eval=ρ at bn jk|-;simp[execOp,bn,jk,go_sem,i3,i4]
    ·refine nJ λa wv c he=>⟨(ay rfl),.slice g.A g.l.length g.cap,?_,rfl⟩
     have bn:a.eval (.tmp 29)=.pointer ↑(ba,i):=(c.new 4 29)
     have hE:Ev wq wv:=he ah;have hc:=(hE.cell (p:=⟨ba,i,none⟩) HBL.out).trans hcg;generalize a.eval=ρ at bn|-;simp[execOp,bn,go_sem,hc]
    ·refine nJ λa wv c he=>⟨(ay rfl),.agg #[.slice z.1.1 z.1.2.1 z.1.2.2,.complex .f64 (fl z.2.2.1) (fl z.2.2.2)],?_,rfl⟩
     have bn:a.eval (.tmp 7)=.pointer ↑bx:=(c.was 7 rfl)
     have hE:Ev wq wv:=he ah;obtain⟨⟨x0,x1⟩,_⟩:=(HX2.out.ev hE).two;generalize a.eval=ρ at bn|-;simp[execOp,bn,go_sem,x0,x1]
    ·refine acd λa wv c he=>?_;have bn:a.eval (.tmp 31)=.agg #[.slice z.1.1 z.1.2.1 z.1.2.2,.complex .f64 (fl z.2.2.1) (fl z.2.2.2)]:=(c.new 6 31)
     have hE:Ev wq wv:=he ah;refine⟨(ay rfl),.slice ↑wv 1 1,wv.alloc (.cells #[.slice z.1.1 z.1.2.1 z.1.2.2,.complex .f64 (fl z.2.2.1) (fl z.2.2.2)] 47),?_,Ev.alloc _ _,trivial,wv.heap.size,z,rfl,hE.size,Sl.one (et:=47) yf wv z _ rfl,rfl⟩;generalize a.eval=ρ at bn|-;simp[execOp,bn,go_sem]
    refine nJ λa wv c he=>⟨(ay rfl),.pointer ↑(ba,i),?_,rfl⟩
    have bn:a.eval (.tmp 25)=.slice ↑ba n2 c2:=(c.new 0 25)
    have jk:a.eval (.tmp 26)=↑i:=(c.new 1 26)
    generalize a.eval=ρ at bn jk|-;simp[execOp,bn,jk,go_sem,i3,i4]
   ·refine jr 0 rfl ?_ (jr 1 rfl ?_ (xX 2));refine YS λa wv c st=>?_;have st:Ev wq wv:=st;have bn:a.eval (.tmp 30)=.slice g.A g.l.length g.cap:=(c.new 5 30)
    obtain⟨gn,y,jk,hgn,hS,rfl⟩:=((c.new 7 32):lV 2 eu wq.heap.size (λ_ y=>y=z) (a.eval (.tmp 32)) wv)
    obtain⟨v',w',hr,ho,hb,hs,_⟩:=ja (P:=ax) yf 26 26 underlying26 Tryz.kY rfl (HOG.out.ev st) ↑gn 1 1 [y] hS (by have:=HGL.out;simp;omega) (by have:=HGL.out;simp;omega) (aDr HWS.out st.size);obtain⟨A9,c9,hv9,_,_⟩:=ho.form yf;subst hv9;refine⟨(ay rfl),_,w',?_,hb,trivial,(But.aU st).then hb,⟨A9,c9,g.l++[y]⟩,rfl,rfl,ho,λq hq=>?_⟩;change (execOp a.eval ⟨some 33,.call {callee:=.builtin .append,args:=#[.tmp 30,.tmp 32],argTypes:=#[26,26]},26,_,_,_⟩).run _ _=_;unfold execOp;simp only[resolve,invoke,builtin,aFa,aFb,aFc,aD1,aDe,aDu,bn,jk,hr];rcases hs q hq with h1|h1;exact .inl h1;exact .inr (aDr st.size h1);refine YT rfl λa wv c st=>?_;have st:But (foot (gv g)) wq wv:=st;have bn:a.eval (.tmp 34)=.pointer ↑(ba,i):=(c.new 9 34)
    obtain⟨x,jk,lD,hxo,hxs⟩:=((c.new 8 33):Ew w0.heap.size wq g z (a.eval (.tmp 33)) wv)
    have hcv:=(st.Ec (p:=⟨ba,i,none⟩) HBL.out HNB.out).trans hcg;have hOA:=HOA.out.but st λq hq hm=>by have e9:ba=q:=aDp hq;exact HNB.out (by rw[e9];exact hm)
    have hfv:wv.frozen? ⟨ba,i,none⟩=false:=by
     obtain⟨A8,c8,hv8,_,hA8⟩:=hOA.form V3;injection hv8 with h81 _ _
     exact(hA8 _ h81.symm).2.2.2.2 i
    have hset:=Ow.set V3 hOA HGI.out (j:=0) ae (show gcs x=(gcs g).set 0 (gv x) from rfl);rw[aED,aDw]at hset;refine⟨(ay rfl),wv.setCell ⟨ba,i,none⟩ (gv x),?_,But.setCell _ _ aj,trivial,⟨x,lD,hxo.but (But.setCell (K:=[ba]) ⟨ba,i,none⟩ (gv x) aj) λq hq hm=>?_,hxs,hset,?_⟩,trivial⟩
    ·generalize a.eval=ρ at bn jk|-;simp[execOp,bn,jk,go_sem,hcv,hfv]
    simp at hm;subst hm;rcases hxs _ hq with h3|h3;exact HNB.out (aG.2 h3);have:=HBL.out;omega;exact(st.wide λq hq=>.inl (aDc _ hq)).then (But.setCell _ _ aj)
   intro s w5 _ hold hnew hst;have hst:YV w0.heap.size wq g z ba n2 c2 Z2 i w5:=hst;have f0:s 0=.slice ↑(b,off) n cap:=hold 0;have f1:s 1=.slice LA m lc:=hold 1;have f2:_=undef:=hold 2;have f3:s 3=.pointer ↑bl:=hold 3;have f4:s 4=↑():=hold 4;have f5:s 5=.slice ↑ba n2 c2:=hold 5;have f6:_=undef:=hold 6;have f9:s 9=.slice ↑(b,off) n cap:=hold 9;have f10:s 10=↑n:=hold 10;have f11:s 11=↑k:=hold 11;have f36:_=undef:=hold 36;change Exit.inBlock _ _ .normal ⟨#[s 0,s 1,s 2,s 3,s 4,s 5,s 6,s 7,s 8,s 9,s 10,s 11,s 12,s 13,s 14,s 15,s 16,s 17,s 18,s 19,s 20,s 21,s 22,s 23,s 24,s 25,s 26,s 27,s 28,s 29,s 30,s 31,s 32,s 33,s 34,s 35,s 36],_⟩ _;simp only[f0,f1,f2,f3,f4,f5,f6,f9,f10,f11,f36];clear hold hnew;generalize s 7=u7_,s 8=u8_,s 12=YJ,s 13=ab3,s 14=YK,s 15=Vh,s 16=Vj,s 17=X5,s 18=X6,s 19=X7,s 20=Vk,s 21=Vl,s 22=X8,s 23=X9,s 24=Ya,s 25=Yb,s 26=Yc,s 27=Yd,s 28=QP,s 29=Uk,s 30=Ye,s 31=Yf,s 32=Yg,s 33=Yh,s 34=Yi,s 35=aeH;obtain⟨x,lD,hG5⟩:=oM.out.set HGI.out OI.out hst;have HG5:=zq hG5;have HI5:Hid (kJ (Z2.set i x)=dB (keyAt left) (l.take (k+1))):=zq (by
    rw[mr.out,<-HAD.out];unfold kJ;rw[List.map_set,lD];simp[aK])
   clear hst hG5 lD;go_wp2;go_roundw
   case rel=>exact⟨some ⟨ba,0,none⟩,n2,c2,k+1,Z2.set i x,rfl,by go_num,ae,HG5,HI5⟩
   case measure=>simp[intOf];omega
  obtain rfl:k=n:=ae;have HT:Hid (l.take k=l):=zq (aDj (by rw[vU.out];exact aC8 _));go_wp2;go_ret;exact⟨A1,n1,c1,Z,w0,rfl,HG.out,by rw[HI.out,HT.out],cO.out⟩
theorem IE:∀(l:List I) (prev:Option (List V)),setFrom prev l=true↔(∀x∈l,yX x=true)/\l.Pairwise (λx y=>eG x.1 y.1=true)/\∀r,prev=some r->∀x∈l,eG r x.1=true
 | [],prev=>by cases prev<;>simp[setFrom]
 | x::l,prev=>by
  have ih:=IE l (some x.1);have key:setFrom (some x.1) l=true↔(∀y∈l,yX y=true)/\l.Pairwise (λx y=>eG x.1 y.1=true)/\∀y∈l,eG x.1 y.1=true:=by rw[ih];simp
  cases prev with
  | none=>
   simp only[setFrom,aC9,key,List.forall_mem_cons,aDQ];constructor;rintro⟨h1,h2,h3,h4⟩;exact⟨⟨h1,h2⟩,⟨h4,h3⟩,λr e=>by cases e⟩;rintro⟨⟨h1,h2⟩,⟨h4,h3⟩,_⟩;exact⟨h1,h2,h3,h4⟩
  | some r=>
   simp only[setFrom,aC9,key,List.forall_mem_cons,aDQ];constructor;rintro⟨h1,h0,h2,h3,h4⟩;refine⟨⟨h1,h2⟩,⟨h4,h3⟩,λr' e=>?_⟩;injection e with e
   subst e;exact⟨h0,λy hy=>Hf h0 (h4 y hy)⟩;rintro⟨⟨h1,h2⟩,⟨h4,h3⟩,h5⟩;exact⟨h1,(h5 r rfl).1,h2,h3,h4⟩
theorem afw{l m:List I}(h:setB l=true)(hs:m.Sublist l):setB m=true:=by unfold setB at h|-;rw[IE]at h|-;exact⟨λx hx=>h.1 x (hs.subset hx),h.2.1.sublist hs,λr e=>by cases e⟩
theorem V5{κ:Type}[DecidableEq κ](key:I->κ)(l:List I):∀g∈dB key l,g.Sublist l:=by
 suffices H:∀(m p:List I),(∀g∈dB key p,g.Sublist p)->∀g∈dB key (p++m),g.Sublist (p++m) from H l [] (by simp[dB])
 intro m
 induction m with
 | nil=>intro p h;simpa using h
 | cons x m ih=>
  intro p h;have:=ih (p++[x]) ?_;simpa using this;intro g hg;rw[xH]at hg;unfold DU at hg
  cases hf:(dB key p).findIdx? (hasKey key x) with
  | none=>
   rw[hf]at hg;rcases aDm.1 hg with hg|hg;exact(h g hg).trans (List.sublist_append_left _ _);rw[aDM.1 hg];exact List.sublist_append_right _ _
  | some i=>
   rw[hf]at hg;rcases List.mem_or_eq_of_mem_set hg with hg|hg;exact(h g hg).trans (List.sublist_append_left _ _);obtain⟨hi,_⟩:=aD6.1 hf;rw[hg];refine List.Sublist.append ?_ (List.Sublist.refl _);have e:(dB key p).getD i []=(dB key p)[i]:=by simp[List.getD,hi]
   rw[e];exact h _ (List.getElem_mem hi)
theorem aFU(h:U:=by
 go_enter func147,ntmps147
 go_wp2_with (first
  | ((with_reducible refine(HS.out).mono ?_);rintro r w1 ⟨rfl,aJ⟩;obtain⟨⟨r0,r1,r2⟩,z0,z1,z2⟩:=(um.out.ev aJ).three))
 (try simp only[Exit.inBlock,Exit.then]);rw[bM];refine aFe (lu rfl _ _ _ _ _ rfl ((um.out.ev aJ).kL _ _ _) underlying42 rfl Tryz.rY) rfl ?_;exact⟨rfl,(cO.out.trans aJ).box (bP _ _ _ _ _) (aC8 _)⟩):U:=h
theorem SK{A:Option Addr}{n cap:Nat}{g:List I}(fn:By)(i:Nat)(w:ak)(h:eQ g w A n cap)(h0:0<n)(hg:jc g)(ht:bU g<=512)(hin:∀x∈g,(fn=lG∨fn=lY∨fn=lZ->i<x.1.length)/\(fn=lG->-2147483648<=(jT x.1 i).2.1/\(jT x.1 i).2.1<=2147483647))(hs:setB g=true):
  Calls ax 147 #[↑fn,.slice A n cap,↑i] w λe w'=>e=.returned (.tuple #[vv (Ou fn g i).1 (Ou fn g i).2.1 (Ou fn g i).2.2,.int .i64 0])/\Ev w w':=by
 obtain⟨w0,hw0,aV,hB0⟩:∃w0,w.alloc (.cells #[.int .i64 0,.int .i64 0,.string ⟨#[]⟩] 42)=w0/\Ev w w0/\Bx 42 w.heap.size #[.int .i64 0,.int .i64 0,.string ⟨#[]⟩] w0:=⟨_,rfl,Ev.alloc _ _,Bx.new _ _ _⟩
 have um:=zq hB0;have cO:=zq aV;have h5:=h.ev aV;unfold Ou lG lY lZ;by_cases hsm:fn=[115,117,109];rw[if_pos hsm];have HS:=zq (ale i w0 h5 hg ht λx hx=>⟨(hin x hx).1 (.inl hsm),(hin x hx).2 hsm⟩);subst hsm;clear h h0 hg ht hin hs hB0 aV h5;exact aFU;rw[if_neg hsm];by_cases hmn:fn=[109,105,110];rw[if_pos hmn];have HS:=zq (Vg i sZ 202 w0 h5 h0 (λx hx=>(hin x hx).1 (.inr (.inl hmn))) ah PV _ rfl);subst hmn;generalize vG sZ lg (g.map λx=>jT x.1 i)=z at*;clear h h0 hg ht hin hs hB0 aV h5 hsm;exact aFU;rw[if_neg hmn];by_cases hmx:fn=[109,97,120];rw[if_pos hmx];have HS:=zq (Vg i xI 203 w0 h5 h0 (λx hx=>(hin x hx).1 (.inr (.inr hmx))) ah abJ _ rfl);subst hmx;generalize vG xI lg (g.map λx=>jT x.1 i)=z at*;clear h h0 hg ht hin hs hB0 aV h5 hsm hmn;exact aFU;rw[if_neg hmx];have hT:=U6 w0 h5 (hg.part ae);rw[hs,Ah g 0 hg (aEI _) ae,Int.zero_add]at hT;have HT:=zq hT;have HNU:=zq (λw1=>PW (bU g) w1);generalize bU g=tg at*;unfold LU at HT;have e1:(fn==([115,117,109]:By))=false:=aC7.2 hsm;have e2:(fn==([109,105,110]:By))=false:=aC7.2 hmn;have e3:(fn==([109,97,120]:By))=false:=aC7.2 hmx;clear h h0 hg ht hin hs hB0 aV h5 hT;go_enter func147,ntmps147
 go_wp2_with (first
  | ((with_reducible refine(HT.out).mono ?_);rintro r w1 ⟨rfl,aJ⟩;have jE:=zq aJ;clear aJ)
  | ((with_reducible refine(HNU.out _).mono ?_);rintro r w2 ⟨rfl,dJ⟩;obtain⟨⟨r0,r1,r2⟩,z0,z1,z2⟩:=(um.out.ev (jE.out.trans dJ)).three))
 (try simp only[Exit.inBlock,Exit.then]);rw[bM];refine aFe (lu rfl _ _ _ _ _ rfl ((um.out.ev (jE.out.trans dJ)).kL _ _ _) underlying42 rfl Tryz.rY) rfl ?_;exact⟨rfl,(cO.out.trans (jE.out.trans dJ)).box (bP _ _ _ _ _) (aC8 _)⟩
theorem YW{A B:Option Addr}{n cap m cap2:Nat}{cols:List C}{l:List By}(w:ak)(hC:Cs w A n cap cols)(hL:Ss w B m cap2 l)(hm:m<=10000):
  Calls ax 139 #[.slice A n cap,.slice B m cap2] w λe w'=>∃LA lc,e=.returned (.slice LA m lc)/\Ks w' LA m lc ((jM cols l).map Bc)/\Ev w w':=by
 have hl:=hL.len;refine(abE w hC hL hm).mono ?_;rintro e w' ⟨v,rfl,hO⟩;obtain⟨LA,lc,rfl,hS,_⟩:=hO.own.form encI;have e1:((jM cols l).map Bc).length=m:=by unfold jM;rw[aC_,aC_,hl]
 rw[e1]at hS|-;exact⟨LA,lc,rfl,hS,hO.ev⟩
theorem YX{A B:Option Addr}{n cap m cap2:Nat}{r:List V}{l:List Nat}(w:ak)(hR:Vs w A n cap r)(hL:Ks w B m cap2 (l.map Bc))(hm:m<=10000)(hin:∀i∈l,i<n):
  Calls ax 144 #[.slice A n cap,.slice B m cap2] w λe w'=>∃RA rc,e=.returned (.slice RA m rc)/\OSt 42 3 je w (.slice RA m rc) (dF r l) w':=by
 have hl:=hL.len;rw[aC_]at hl;refine(abG w hR hL hm hin).mono ?_;rintro e w' ⟨v,rfl,hO⟩;obtain⟨RA,rc,rfl,hS,_⟩:=hO.own.form Ll;have e1:(dF r l).length=m:=by unfold dF;rw[aC_,hl]
 rw[e1]at hO|-;exact⟨RA,rc,rfl,hO⟩
structure GR(w:ak)(v:au)(Z:List J)(wr:ak):Prop where
 own:Ow 47 2 eu w.heap.size wr v Z
 rows:∀z∈Z,Vs wr z.1.1 z.1.2.1 z.1.2.2 z.2.1/\∀ad,z.1.1=some ad->w.heap.size<=ad.block/\ad.block<wr.heap.size/\ad.block∉foot v
 ev:Ev w wr
theorem GR.start(w:ak):GR w ↑() [] w:=⟨Ow.nil_ _,(λz hz=>by cases hz),Ev.refl _⟩
theorem GR.next{w wr wq w2:ak}{v v2:au}{Z:List J}{RA:Option Addr}{n cap:Nat}{R:List V}{p q:Int}(h:GR w v Z wr)(hE:Ev wr wq)(hR:Vs wq RA n cap R)(hRb:∀ad,RA=some ad->wr.heap.size<=ad.block/\ad.block<wq.heap.size)(hA:uG 47 2 eu w.heap.size wq v (Z++[(((RA,n,cap),(R,p,q)):J)]) v2 w2):GR w v2 (Z++[((RA,n,cap),(R,p,q))]) w2:=by obtain⟨ho,hb,hs⟩:=hA;have hv:∀k∈foot v,w.heap.size<=k/\k<wr.heap.size:=λk hk=>h.own.lt (aG.1 hk);have hv2:∀k∈foot v2,k∈foot v∨wq.heap.size<=k:=λk hk=>(hs k (aG.1 hk)).imp (λe=>aG.2 e) id;refine⟨ho,λz hz=>?_,((But.aU (h.ev.trans hE)).then hb).ev λk hk=>(hv k hk).1⟩;rcases aDm.1 hz with hz|hz;obtain⟨a1,a2⟩:=h.rows z hz;exact aGw;rw[aDM.1 hz];refine⟨hR.but hb λad ea hm=>?_,λad ea=>⟨?_,aDf (hRb ad ea).2 hb.size,λhm=>?_⟩⟩;have:=(hRb ad ea).1;have:=(hv _ hm).2;omega;have:=(hRb ad ea).1;have:=h.ev.size;show _<=ad.block;omega;have h6:=hRb ad ea;rcases hv2 _ hm with h5|h5;have:=(hv _ h5).2;omega;omega
theorem GR.set{w wr:ak}{A:Option Addr}{n cap:Nat}{Z:List J}{l:List I}(h:GR w (.slice A n cap) Z wr)(hl:aK Z=l):eQ l wr A n cap:=by
 obtain⟨A1,c1,hv,hS,hA⟩:=h.own.form yf;injection hv with e1 e2 e3
 subst e1 e3;rw[e2];exact⟨Z,⟨hS,λz hz=>⟨(h.rows z hz).1,λad ea=>((h.rows z hz).2 ad ea).2.1⟩,λad ea=>(hA ad ea).2.2.1,aC8 _⟩,hl⟩
theorem Tryz.GU:(Tryz.prog.info? 47).map (λi=>(i.zero,i.size,i.bytes))=some (some (.agg #[↑(),.complex .f64 0 0]),2,40):=ah
theorem aHl(h:U:=by rw[show (w.alloc (.cells ↑m 35)).heap.size=w.heap.size+1 by simp]at hB;exact⟨_,rfl,(Ev.alloc w _).trans aC,(Bx.new 35 ↑m w).ev aC,hB⟩):U:=h
theorem apq(w:ak)(m:PM)(t:TM):∃w0,(w.alloc (.cells ↑m 35)).alloc (.cells #[↑t.name,.slice t.cA t.cols.length t.cc,.slice t.rA t.rows.length t.rc] 40)=w0/\Ev w w0/\Bx 35 w.heap.size ↑m w0/\Bx 40 (w.heap.size+1) #[↑t.name,.slice t.cA t.cols.length t.cc,.slice t.rA t.rows.length t.rc] w0:=by have hB:=Bx.new 40 #[↑t.name,.slice t.cA t.cols.length t.cc,.slice t.rA t.rows.length t.rc] (w.alloc (.cells ↑m 35));exact aHl
theorem al5(w:ak)(a:Ag):∃w0,w.alloc (.cells #[.string ⟨a.1.toArray⟩,.string ⟨a.2.1.toArray⟩,.string ⟨a.2.2.toArray⟩] 161)=w0/\Ev w w0/\Bx 161 w.heap.size #[.string ⟨a.1.toArray⟩,.string ⟨a.2.1.toArray⟩,.string ⟨a.2.2.toArray⟩] w0/\w0.heap.size=w.heap.size+1:=⟨_,rfl,Ev.alloc _ _,Bx.new _ _ _,aj⟩
structure yg(cols:List C)(lf:List By)(ag:List Ag)(rows:List I):Prop where
 adds:jc rows
 tot:bU rows<=512
 set:setB rows=true
 len:∀x∈rows,x.1.length=cols.length
 left:∀i∈jM cols lf,i<cols.length
 zo:∀a∈ag,(a.2.1=lG∨a.2.1=lY∨a.2.1=lZ->(gZ cols (dV a.2.2)).getD 0<cols.length)/\(a.2.1=lG->∀x∈rows,-2147483648<=(jT x.1 ((gZ cols (dV a.2.2)).getD 0)).2.1/\(jT x.1 ((gZ cols (dV a.2.2)).getD 0)).2.1<=2147483647)
 small:lf.length<=1000/\ag.length<=1000
theorem afx(m:PM)(b0:Nat)(t:TM)(w:ak)(hQ:Qx b0 [] w m)(h:yI w t)(hk:yg t.cols m.lf.l m.ag.l t.rows):
  Calls ax 85 #[.agg ↑m,.agg #[↑t.name,.slice t.cA t.cols.length t.cc,.slice t.rA t.rows.length t.rc]] w λe w'=>∃A n cap,e=.returned (.tuple #[.slice A n cap,.int .i64 0])/\eQ (fQ t.cols m.lf.l m.ag.l t.rows) w' A n cap/\Ev w w':=by
 have hst:=f_;obtain⟨w0,hw0,aV,hP,hT⟩:=apq w m t;have cO:=zq aV;have HP:=zq hP;have HT:=zq hT;have HK:=zq hk;obtain⟨⟨p0,p1,p2,p3,p4,p5,p6,p7⟩,_⟩:=hP.eight;obtain⟨⟨t0,t1,t2⟩,_⟩:=hT.three;have HPL:=zq (YW w0 (h.cols.ev aV) (hQ.at.2.2.2.1.sl.ev aV) (by have:=hk.small.1;omega));have Ru:=zq h.rows;have Ip:=zq hQ.at.2.2.2.2.2.1.sl;have SE:=zq (λs w1 (hE:Ev w w1)=>yS s w1 (h.cols.ev hE));have hrl:=h.rows.len;have apf:=hQ.at.2.2.2.2.2.1.sl.le;have aur:=hQ.at.2.2.2.2.2.1.sl.max;obtain⟨L,hL⟩:∃L,L=jM t.cols m.lf.l:=⟨_,rfl⟩
 obtain⟨G,hG⟩:∃G,G=dB (keyAt L) t.rows:=⟨_,rfl⟩
 have HL:=zq hL;have HG:=zq hG;rw[<-hL]at HPL;clear hQ h hk aV hP hT hL hG;generalize hnl:m.lf.l.length=nl at*;generalize hna:m.ag.l.length=na at*;have oU:=zq hnl;have Iu:=zq hna;clear hnl hna;generalize m.ag.A=agA at*;generalize m.ag.cap=agc at*;go_enter func85,ntmps85
 go_wp2_with (first
  | ((with_reducible refine(HPL.out).mono ?_);rintro r w1 ⟨LA,lc,rfl,hKs,aJ⟩;have HKs:=zq hKs;have jE:=zq aJ;have HGR:=zq (acg w1 (Ru.out.ev (cO.out.trans aJ)) hKs (by have:=HK.out.adds.tot.2;have h9:=HK.out.tot;have h8:=(wK (λx:I=>x.2.1) t.rows λx hx=>(HK.out.adds.pos x hx).1).1;unfold bU at h9;omega) (λx hx i hi=>by rw[HK.out.len x hx];exact HK.out.left i (HL.out▸hi)));clear p0 p1 p2 p3 p4 p5 p6 p7 t0 t1 t2;obtain⟨⟨p0,p1,p2,p3,p4,p5,p6,p7⟩,_⟩:=(HP.out.ev aJ).eight;obtain⟨⟨t0,t1,t2⟩,_⟩:=(HT.out.ev aJ).three;clear hKs aJ)
  | ((with_reducible refine(HGR.out).mono ?_);rintro r w2 ⟨A2,n2,c2,ZG,wg,rfl,hGS,hGI,dJ⟩;have HGS:=zq hGS;have HGI:=zq hGI;have uX:=zq (dJ.trans hGS.ev);clear hGS hGI dJ))
 have HZN:=zq HGS.out.len;have hgn:n2<=1000:=by have h1:=(Ey (keyAt L) t.rows).1;rw[<-HGI.out]at h1;unfold kJ at h1;rw[aC_,HZN.out]at h1;have h9:=HK.out.tot;have h8:=(wK (λx:I=>x.2.1) t.rows λx hx=>(HK.out.adds.pos x hx).1).1;unfold bU at h9;omega
 go_loopw [6,27] (λiv kv wr=>∃(IA:Option Addr) (ic k:Nat) (Z:List J),iv=.slice IA k ic/\kv=↑k/\k<=n2/\Hid (GR w2 (.slice IA k ic) Z wr)/\Hid (aK Z=(G.take k).map (groupRow t.cols L m.ag.l))) (λ_ kv _=>n2-(intOf kv).toNat)
 case atStart=>exact⟨none,0,0,[],rfl,rfl,aDl _,zq (GR.start w2),zq rfl⟩
 case round=>
  obtain⟨IA,ic,k,Z,rfl,rfl,hk,HIS,HIZ⟩:=hrel;by_cases hlt:k<n2
  ·obtain⟨x,hx⟩:∃x,ZG[k]?=some x:=⟨_,aDo (by rw[HZN.out];exact hlt)⟩
   have tq:=aDb hx;obtain⟨bg,rfl,hbg,_,_,cg,_⟩:=(HGS.out.up HIS.out.ev).cell hx;have HIT:=zq (λwq (hE:Ev wr wq)=>(HGS.out.up (HIS.out.ev.trans hE)).items tq);have hgk:(dB (keyAt L) t.rows)[k]?=some (aK x.l):=by rw[<-HGI.out];unfold kJ;rw[aDG,hx];rfl
   have hgm:=aDb hgk;have hGO:=pK (keyAt L) t.rows;have hpos:0<x.l.length:=by have h1:=aE1.2 (hGO.ne _ hgm);rwa [nZ]at h1
   obtain⟨b,off,z,TI,hb,_,hz,c0,c1,hv⟩:=(HIT.out wr aS).at hpos;have hzr:z.2∈t.rows:=hGO.mem _ hgm z.2 (aDF (aDb hz));have HVA:=zq (YX (l:=L) wr hv (HKs.out.ev (uX.out.trans HIS.out.ev)) (by have:=HK.out.small.1;have:=oU.out;omega) (λi hi=>by rw[<-hv.len,HK.out.len _ hzr];exact HK.out.left i (HL.out▸hi)));unfold nK at c0;simp only[aDH,aDw]at c0 c1;have RQ:Hid ((aK x.l).headD ajG=z.2):=zq (by
    cases lD:x.l with
    | nil=>rw[lD]at hz;simp at hz
    | cons y q=>rw[lD]at hz;simp at hz;subst hz;rfl)
   have HGK:=zq hgk;have hsub:=V5 (keyAt L) t.rows _ hgm;have HGA:Hid (jc (aK x.l)/\bU (aK x.l)<=512/\setB (aK x.l)=true/\∀y∈aK x.l,y∈t.rows):=zq ⟨HK.out.adds.sub λy hy=>hsub.subset hy,by
    have h1:=hGO.sum λy=>y.2.1;have h2:=wK (λg:List I=>bU g) (dB (keyAt L) t.rows) (λg hg=>by
     have h3:=(wK (λx:I=>x.2.1) g λy hy=>(HK.out.adds.pos y (hGO.mem g hg y hy)).1).1;have h4:=aE1.2 (hGO.ne g hg);unfold bU;omega)
    have h5:=h2.2 _ hgm;have h6:=HK.out.tot;unfold bU at h5 h6|-;have h7:((dB (keyAt L) t.rows).map λg=>(g.map λx=>x.2.1).sum).sum=(t.rows.map λx=>x.2.1).sum:=h1;omega,afw HK.out.set hsub,λy hy=>hsub.subset hy⟩
   have ajV:=(HIT.out wr aS).le;have hcapm:=(HIT.out wr aS).max;have i1:(0:Int)<=(k:Int):=ae;have i2:(k:Int)<(n2:Int):=ae;have i3:(0:Int)<(x.l.length:Int):=ae;obtain⟨⟨p0,p1,p2,p3,p4,p5,p6,p7⟩,_⟩:=(HP.out.ev (jE.out.trans (uX.out.trans HIS.out.ev))).eight;obtain⟨⟨t0,t1,t2⟩,_⟩:=(HT.out.ev (jE.out.trans (uX.out.trans HIS.out.ev))).three;have HXA:=zq TI;clear hx tq hgk hgm hGO hzr hsub hz hv;unfold gv at cg;rw[TI]at cg;generalize hxn:x.l.length=xn at*;clear hxn TI
   go_wp2_with (first
    | ((with_reducible refine(HVA.out).mono ?_);rintro r w3 ⟨RA,rc,rfl,hO⟩;have HO:=zq hO;clear p0 p1 p2 p3 p4 p5 p6 p7 t0 t1 t2;obtain⟨⟨p0,p1,p2,p3,p4,p5,p6,p7⟩,_⟩:=(HP.out.ev (jE.out.trans (uX.out.trans (HIS.out.ev.trans hO.ev)))).eight;obtain⟨⟨t0,t1,t2⟩,_⟩:=(HT.out.ev (jE.out.trans (uX.out.trans (HIS.out.ev.trans hO.ev)))).three;clear hO))
   obtain⟨gk,hgk⟩:∃gk,gk=aK x.l:=⟨_,rfl⟩
   have apr:=zq hgk
   go_loopw [10,40] (λrv jv ws=>∃(RB:Option Addr) (rd j:Nat),rv=.slice RB (nl+j) rd/\jv=↑j/\j<=na/\Hid (OSt 42 3 je wr (.slice RB (nl+j) rd) (dF z.2.1 L++(m.ag.l.take j).map (uO t.cols gk)) ws)) (λ_ jv _=>na-(intOf jv).toNat)
   case atStart=>exact⟨RA,rc,0,rfl,rfl,aDl _,by rw[List.take_zero,aDu,aD5];exact HO⟩
   case round=>
    rename ak=>ws;obtain⟨RB,rd,j,rfl,rfl,hj,HRS⟩:=hrel;obtain⟨⟨p0,p1,p2,p3,p4,p5,p6,p7⟩,_⟩:=(HP.out.ev (jE.out.trans (uX.out.trans (HIS.out.ev.trans HRS.out.ev)))).eight;by_cases hjl:j<na
    ·have HAW:=Ip.out.ev (cO.out.trans (jE.out.trans (uX.out.trans (HIS.out.ev.trans HRS.out.ev))));obtain⟨a,ha⟩:=HAW.at hjl;have ham:=aDb ha;obtain⟨ba,oa,rfl,d0,d1,d2⟩:=As.PO HAW ha;obtain⟨wx,hwx,qV,hX,hsx⟩:=al5 ws a;have HXX:=zq hX;obtain⟨⟨x0,x1,x2⟩,_⟩:=hX.three;clear t0 t1 t2;obtain⟨⟨t0,t1,t2⟩,_⟩:=(HT.out.ev (jE.out.trans (uX.out.trans (HIS.out.ev.trans (HRS.out.ev.trans qV))))).three;have Jt:=zq qV;have HFA:=zq (SE.out (dV a.2.2) wx (cO.out.trans (jE.out.trans (uX.out.trans (HIS.out.ev.trans (HRS.out.ev.trans qV))))));rw[DX]at HFA;have HAR:=zq (λwq (hE:Ev wr wq)=>SK a.2.1 ((gZ t.cols (dV a.2.2)).getD 0) wq ⟨x.l,HIT.out wq hE,rfl⟩ hpos HGA.out.1 HGA.out.2.1 (λy hy=>⟨λhf=>by rw[HK.out.len y (HGA.out.2.2.2 y hy)];exact(HK.out.zo a ham).1 hf,λhf=>(HK.out.zo a ham).2 hf y (HGA.out.2.2.2 y hy)⟩) HGA.out.2.2.1);rw[<-hgk,HXA.out]at HAR;have mr:Hid ((m.ag.l.take (j+1)).map (uO t.cols gk)=(m.ag.l.take j).map (uO t.cols gk)++[uO t.cols gk a]):=zq (by
      obtain⟨hj2,e1⟩:=aC6.1 ha;rw[aDi hj2,e1,aDk];rfl)
     have hao:Ou a.2.1 gk ((gZ t.cols (dV a.2.2)).getD 0)=uO t.cols gk a:=rfl;rw[hao]at HAR;obtain⟨y,hy⟩:∃y,y=uO t.cols gk a:=⟨_,rfl⟩
     rw[<-hy]at HAR mr;generalize (gZ t.cols (dV a.2.2)).getD 0=ix at*;generalize (gZ t.cols (dV a.2.2)).isSome=ok at*;have wR:Hid ((dF z.2.1 L++(m.ag.l.take j).map (uO t.cols gk)).length=nl+j):=zq (by
      obtain⟨_,_,hv5,_,_⟩:=HRS.out.own.form Ll;injection hv5 with _ h5 _
      exact h5.symm)
     have hsm:=HK.out.small;rw[oU.out,Iu.out]at hsm;have j1:(0:Int)<=(j:Int):=ae;have j2:(j:Int)<(na:Int):=ae;clear ha ham HAW hX qV hsx hao hy;unfold dV at HFA
     go_wp2_with (first
      | ((with_reducible refine(HFA.out).mono ?_);rintro r w4 ⟨rfl,gy⟩;simp only[];have HE4:=zq gy;clear x0 x1 x2;obtain⟨⟨x0,x1,x2⟩,_⟩:=(HXX.out.ev gy).three;clear gy)
      | ((with_reducible refine(HAR.out _ (HRS.out.ev.trans (Jt.out.trans HE4.out))).mono ?_);rintro r w5 ⟨rfl,qP⟩;simp only[];obtain⟨wv,hwv,hEv,hBv⟩:∃wv,w5.alloc (.cells #[.int .i64 y.1,.int .i64 y.2.1,.string y.2.2] 42)=wv/\Ev w5 wv/\Bx 42 w5.heap.size #[.int .i64 y.1,.int .i64 y.2.1,.string y.2.2] wv:=⟨_,rfl,Ev.alloc _ _,Bx.new _ _ _⟩;obtain⟨⟨y0,y1,y2⟩,_⟩:=hBv.three;have S5:=zq (HRS.out.up (Jt.out.trans (HE4.out.trans (qP.trans hEv))));clear qP hEv hBv)
      | ((show wpList _ _ _ (⟨some 66,_,_,_,_,_⟩::_) _ _);refine aQ (o:=⟨some 66,_,_,_,_,_⟩) rfl 44 (.tmp 63) (.tmp 65) rfl Ll underlying44 Tryz.Po rfl rfl (S5.out.own.ev aC) ↑wv 1 1 [y] rfl (Sl.one (et:=42) Ll wv y _ rfl) (by rw[wR.out];simp;omega) (by rw[wR.out];simp;omega) (S5.out.ev.trans aC).size ?_;intro v6 w6 hA6;have E6:Ev wr w6:=((But.aU (S5.out.ev.trans aC)).then hA6.2.1).ev (λk hk=>(S5.out.own.lt (aG.1 hk)).1);obtain⟨A6,cap6,rfl,_,auN⟩:=hA6.1.form Ll;clear auN;generalize qX:((dF z.2.1 L++(m.ag.l.take j).map (uO t.cols gk))++[y]).length=nn at hA6|-;have auO:Hid (nn=nl+(j+1)):=zq (by rw[<-qX,aDd,wR.out];rfl);clear qX;obtain rfl:=auO.out))
     go_roundw
     case rel=>exact⟨A6,cap6,j+1,rfl,by go_num,ae,zq ⟨by rw[mr.out,<-aDA];exact hA6.1,E6⟩⟩
     case measure=>simp[intOf];omega
    have HTJ:Hid (m.ag.l.take j=m.ag.l):=zq (aDj (by rw[Iu.out];omega));have hrs:=HRS.out;rw[HTJ.out]at hrs;obtain⟨RB2,rd2,hv6,hSv,hAv⟩:=hrs.own.form Ll;injection hv6 with e1 e2 e3
    subst e1 e3;rw[<-e2]at hSv;obtain⟨R,hR⟩:∃R,R=dF z.2.1 L++m.ag.l.map (uO t.cols gk):=⟨_,rfl⟩
    rw[<-hR]at hSv;have HRE:=zq hR;have HSV:=zq hSv;have HAV:Hid (∀ad,RB=some ad->wr.heap.size<=ad.block/\ad.block<ws.heap.size):=zq λad ea=>⟨(hAv ad ea).2.1,(hAv ad ea).2.2.1⟩
    have HOF:=zq (λw1=>J8 1 0 w1);have HZK:Hid (Z.length=k):=zq (by
     obtain⟨_,_,hv5,_,_⟩:=HIS.out.own.form yf;injection hv5 with _ h5 _
     exact h5.symm)
    have HGT:Hid ((G.take (k+1)).map (groupRow t.cols L m.ag.l)=(G.take k).map (groupRow t.cols L m.ag.l)++[(R,1,0)]):=zq (by
     have h1:=HGK.out;rw[<-HG.out,<-apr.out]at h1;obtain⟨hj2,e9⟩:=aC6.1 h1;rw[aDi hj2,e9,aDk];congr 1;have h2:=RQ.out;rw[<-apr.out]at h2;show [groupRow t.cols L m.ag.l gk]=_;unfold groupRow;rw[h2,HRE.out])
    clear hrs hSv hAv e2 hR
    go_wp2_with (first
     | ((with_reducible refine(HOF.out _).mono ?_);rintro r w4 ⟨rfl,rfl⟩)
     | ((show wpList _ _ _ (⟨some 73,_,_,_,_,_⟩::_) _ _);refine aQ (o:=⟨some 73,_,_,_,_,_⟩) rfl 25 (.tmp 68) (.tmp 72) rfl yf underlying25 Tryz.GU rfl rfl ((HIS.out.own.ev HRS.out.ev).ev aC) ↑ws 1 1 [((RB,nl+j,rd),(R,1,0))] rfl (Sl.one (et:=47) yf ws ((RB,nl+j,rd),(R,1,0)) _ rfl) (by rw[HZK.out];simp;omega) (by rw[HZK.out];simp;omega) ((HIS.out.ev.trans HRS.out.ev).trans aC).size ?_;intro v7 w7 hA7;have HN7:=zq (HIS.out.next (HRS.out.ev.trans aC) (HSV.out.ev aC) (λad ea=>⟨(HAV.out ad ea).1,aDf (HAV.out ad ea).2 aC.size⟩) hA7);obtain⟨IA2,ic2,rfl,_,_⟩:=hA7.1.form yf;clear hA7;generalize qX:(Z++[(((RB,nl+j,rd),(R,1,0)):J)]).length=nn at HN7|-;have rQ:Hid (nn=k+1):=zq (by rw[<-qX,aDd,HZK.out];rfl);clear qX;obtain rfl:=rQ.out))
    go_roundw
    case rel=>exact⟨IA2,ic2,k+1,Z++[((RB,nl+j,rd),(R,1,0))],rfl,by go_num,ae,HN7,zq (by
     rw[HGT.out,<-HIZ.out];unfold aK;rw[aDk];rfl)⟩
    case measure=>simp[intOf];omega
  obtain rfl:k=n2:=ae;have HTG:Hid (G.take k=G):=zq (aDj (by
   rw[HG.out,<-HGI.out];unfold kJ;rw[aC_,HZN.out];exact aC8 _))
  go_wp2
  go_ret2
  refine⟨IA,k,ic,rfl,HIS.out.set (by rw[HIZ.out,HTG.out,HG.out,HL.out];rfl),cO.out.trans (jE.out.trans (uX.out.trans HIS.out.ev))⟩
theorem YZ(t:TM)(nm:By)(gb:Nat)(w:ak)(hB:w.cell? ⟨gb,1,none⟩=some ↑nm)(hlt:gb<w.heap.size):
  Calls ax 79 #[.agg #[↑t.name,.slice t.cA t.cols.length t.cc,.slice t.rA t.rows.length t.rc],.pointer ↑gb] w λe w'=>e=.returned (.bool (t.name==nm))/\Ev w w':=by
 obtain⟨w0,hw0,aV,hT,_⟩:=R_ w t;obtain⟨⟨t0,t1,t2⟩,_⟩:=hT.three;have c0:=(aV.cell (p:=⟨gb,1,none⟩) hlt).trans hB;have HE:=zq aV;clear hT aV hB;go_enter func79,ntmps79;go_wp2;go_ret;exact⟨aj,HE.out⟩
def ixT(l:List TM)(nm:By):Int:=match l.findIdx? (λt=>t.name==nm) with|some i=>(i:Int)|none=>-1
theorem Y0{A:Option Addr}{n cap:Nat}{l:List TM}(nm:By)(gb:Nat)(w:ak)(h:tJ w A n cap l)(hB:w.cell? ⟨gb,1,none⟩=some ↑nm)(hlt:gb<w.heap.size):
  Calls ax 66 #[.slice A n cap,.func (.func 79) #[] #[.pointer ↑gb]] w λe w'=>e=.returned (.int .i64 (ixT l nm))/\Ev w w':=by
 have hn:=h.sl.le;have hm:=h.sl.max;have HN:=zq h.sl.len;have H:=zq h;have HC:=zq (λt w1 (hE:Ev w w1)=>YZ t nm gb w1 ((hE.cell (p:=⟨gb,1,none⟩) hlt).trans hB) (aDf hlt hE.size));clear h hB;go_enter func66,ntmps66;go_wp2
 go_loopw [8] (λi wr=>∃k:Nat,k<=n/\i=↑k/\Hid (∀i d,i<k->l[i]?=some d->(d.name==nm)=false)/\Hid (Ev w wr)) (λi _=>n-(intOf i).toNat)
 case atStart=>exact⟨0,aDl _,rfl,zq (λi d hi=>by omega),zq aS⟩
 case round=>
  obtain⟨k,hk,rfl,HT,HE⟩:=hrel;by_cases hlk:k<n;obtain⟨d,hd⟩:=H.out.sl.at hlk;obtain⟨b,off,rfl,hb,c0,c1,c2⟩:=(H.out.ev HE.out).cell hd;have HD:=zq hd;have i1:(0:Int)<=(k:Int):=ae;have i2:(k:Int)<(n:Int):=ae;have EY:=HC.out d;clear hd
  cases ht:(d.name==nm)
  exact aFL;rw[ht]at EY;have EY:=zq EY;have HF:Hid (ixT l nm=(k:Int)):=zq (by
   have h1:l.findIdx? (λd=>d.name==nm)=some k:=by exact aH0
   unfold ixT;rw[h1])
  exact aGV;obtain rfl:k=n:=ae;have HF:Hid (ixT l nm=-1):=zq (by
   have h1:l.findIdx? (λd=>d.name==nm)=none:=by exact aHS
   unfold ixT;rw[h1])
  go_wp2;go_ret;exact⟨by rw[HF.out];rfl,HE.out⟩
def Jb(GI:List I)(v:au)(w:ak):Prop:=∃A n c,v=.slice A n c/\eQ GI w A n c
def acn(GI:List I)(v:au)(w:ak):Prop:=∃A n c,v=.tuple #[.slice A n c,.int .i64 0]/\eQ GI w A n c
theorem Jb.mono(GI:List I):kK (Jb GI):=λv w w' hE ⟨A,n,c,e,h⟩=>⟨A,n,c,e,h.ev hE⟩
theorem acn.mono(GI:List I):kK (acn GI):=λv w w' hE ⟨A,n,c,e,h⟩=>⟨A,n,c,e,h.ev hE⟩
def rH(items:List I)(w:ak)(e:Ending)(w':ak):Prop:=∃A n cap,e=.returned (.tuple #[.slice A n cap,.int .i64 0])/\eQ items w' A n cap/\Ev w w'
theorem SL(m:PM)(l:List TM)(KA LA:Option Addr)(kn kc ln lc:Nat)(t:TM)(i:Nat)(w:ak)(hk:m.kind=1)(h:tJ w LA ln lc l)(hi:l.findIdx? (λt=>t.name==m.name)=some i)(ht:l[i]?=some t):
  Calls ax 43 #[.agg ↑m,.slice KA kn kc,.slice LA ln lc] w (rH t.rows w):=by
 have hmf:∀(fn:Fn) (first cap:Array au) (w:ak),(Instr.makeFunc fn first cap).run ax w=.ok (.func fn first cap) w:=λ_ _ _ _=>rfl;obtain⟨w0,hw0,aV,hB,_⟩:=Ez w m;obtain⟨⟨p0,p1,p2,p3,p4,p5,p6,p7⟩,_⟩:=hB.eight;have HT:=zq (Y0 m.name w.heap.size w0 (h.ev aV) p1 hB.lt);have hix:ixT l m.name=(i:Int):=by unfold ixT;rw[hi]
 rw[hix]at HT;have H:=zq h;have cO:=zq aV;have WA:i<ln:=by have h1:=(aC6.1 ht).1;have h2:=h.sl.len;omega
 obtain⟨b,off,eA,_⟩:=h.cell ht;subst eA;have HTT:=zq ht;have i1:(0:Int)<=(i:Int):=ae;have i2:(i:Int)<(ln:Int):=ae;unfold rH;clear h hi ht aV hB hix;generalize m.kind=kd at*;subst hk;go_enter func43,ntmps43
 go_wp2_with (first
  | ((with_reducible refine(HT.out).mono ?_);rintro r w1 ⟨rfl,aJ⟩;obtain⟨b',off',e',hb,c0,c1,c2⟩:=(H.out.ev (cO.out.trans aJ)).cell HTT.out;injection e' with e';injection e' with e1 e2 _;subst e1 e2;have jE:=zq (cO.out.trans aJ);clear aJ))
 go_ret2
 exact⟨_,_,_,rfl,((H.out.each t (aDb HTT.out)).ev jE.out).rows,jE.out⟩
theorem aIi(h:U:=by generalize a.eval=ρ at bn|-;simp[execOp,bn,go_sem,p0,p1,p2,p3,p4,p5,p6,p7]):U:=h
theorem aH9(h:U:=by refine⟨(ay rfl),.int .i64 0,?_,rfl⟩;generalize a.eval=ρ at bn|-;simp[execOp,bn,go_sem]):U:=h
theorem SN(m:PM)(b0:Nat)(t:TM)(KA LA:Option Addr)(kc ln lc:Nat)(w:ak)(hk:m.kind=7)(hQ:Qx b0 [] w m)(hK:tJ w KA 1 kc [t])(hg:yg t.cols m.lf.l m.ag.l t.rows):
  Calls ax 43 #[.agg ↑m,.slice KA 1 kc,.slice LA ln lc] w (rH (fQ t.cols m.lf.l m.ag.l t.rows) w):=by
 obtain⟨w0,hw0,aV,hB,_⟩:=Ez w m;obtain⟨⟨p0,p1,p2,p3,p4,p5,p6,p7⟩,_⟩:=hB.eight;have HGR:=zq (λw1 (hE:Ev w w1)=>afx m b0 t w1 (hQ.ev hE) ((hK.each t aj).ev hE) hg);obtain⟨b,off,eA,hb,c0,c1,c2⟩:=(hK.ev aV).cell (i:=0) (t:=t) rfl;subst eA;have qm:=hK.sl.le;have hkm:=hK.sl.max;have dH:Tryz.prog.follows .mixedOrders=true:=ah;have HKT:=zq (hK.ev aV);have HB:=zq hB;have cO:=zq aV;unfold rH;simp only[aDH,aDw]at c0 c1 c2;generalize fQ t.cols m.lf.l m.ag.l t.rows=GI at*;clear hQ hK hg aV hB;generalize m.kind=kd at*;subst hk;go_enter func43,ntmps43;go_upto_region 2 with fail
 refine bD dH [λv _=>v=.agg #[.int .i64 7,↑m.name,.slice m.ex.A m.ex.l.length m.ex.cap,.slice m.co.A m.co.l.length m.co.cap,.slice m.lf.A m.lf.l.length m.lf.cap,.slice m.rt.A m.rt.l.length m.rt.cap,.slice m.ag.A m.ag.l.length m.ag.cap,.slice m.A m.kids.length m.cap],λv _=>v=.slice ↑(b,off) 1 kc,λv _=>v=.pointer ↑(b,off),λv _=>v=.agg #[↑t.name,.slice t.cA t.cols.length t.cc,.slice t.rA t.rows.length t.rc],acn GI,Jb GI,λv _=>v=.int .i64 0,Jb GI,λv _=>v=.int .i64 0]
  81 rfl ah ⟨aB _,aB _,aB _,aB _,acn.mono _,Jb.mono _,aB _,Jb.mono _,aB _,trivial⟩ ?_ ?_
 ·refine az 0 ?_ (az 1 ?_ (az 2 ?_ (az 3 ?_ (az 4 ?_ (az 5 ?_ (az 6 ?_ (az 7 ?_ (az 8 ?_ (eY 9)))))))));refine aF λa wv c=>⟨(ay rfl),.agg #[.int .i64 7,↑m.name,.slice m.ex.A m.ex.l.length m.ex.cap,.slice m.co.A m.co.l.length m.co.cap,.slice m.lf.A m.lf.l.length m.lf.cap,.slice m.rt.A m.rt.l.length m.rt.cap,.slice m.ag.A m.ag.l.length m.ag.cap,.slice m.A m.kids.length m.cap],?_,rfl⟩
  have bn:a.eval (.tmp 3)=.pointer ↑w:=(c.was 3 rfl)
  obtain⟨⟨p0,p1,p2,p3,p4,p5,p6,p7⟩,_⟩:=(HB.out.ev c.ev).eight;exact aIi;exact aIn;refine aF λa wv c=>⟨(ay rfl),.pointer ↑(b,off),?_,rfl⟩
  have bn:a.eval (.tmp 12)=.slice ↑(b,off) 1 kc:=(c.new 1 12)
  exact aHN
  ·refine aF λa wv c=>⟨(ay rfl),.agg #[↑t.name,.slice t.cA t.cols.length t.cc,.slice t.rA t.rows.length t.rc],?_,rfl⟩
   have bn:a.eval (.tmp 13)=.pointer ↑(b,off):=(c.new 2 13)
   obtain⟨b9,o9,e9,_,k0,k1,k2⟩:=(HKT.out.ev c.ev).cell (i:=0) (t:=t) rfl;injection e9 with e9
   injection e9 with e91 e92 _
   subst e91 e92;simp only[aDH,aDw]at k0 k1 k2;generalize a.eval=ρ at bn|-;simp[execOp,bn,go_sem,k0,k1,k2]
  refine eP λa wv c=>⟨(ay rfl),85,#[.agg #[.int .i64 7,↑m.name,.slice m.ex.A m.ex.l.length m.ex.cap,.slice m.co.A m.co.l.length m.co.cap,.slice m.lf.A m.lf.l.length m.lf.cap,.slice m.rt.A m.rt.l.length m.rt.cap,.slice m.ag.A m.ag.l.length m.ag.cap,.slice m.A m.kids.length m.cap],.agg #[↑t.name,.slice t.cA t.cols.length t.cc,.slice t.rA t.rows.length t.rc]],?_,?_⟩
  rw[bK 85 _ _ rfl ah];have bn:a.eval (.tmp 11)=.agg #[.int .i64 7,↑m.name,.slice m.ex.A m.ex.l.length m.ex.cap,.slice m.co.A m.co.l.length m.co.cap,.slice m.lf.A m.lf.l.length m.lf.cap,.slice m.rt.A m.rt.l.length m.rt.cap,.slice m.ag.A m.ag.l.length m.ag.cap,.slice m.A m.kids.length m.cap]:=(c.new 0 11)
  have jk:a.eval (.tmp 14)=.agg #[↑t.name,.slice t.cA t.cols.length t.cc,.slice t.rA t.rows.length t.rc]:=(c.new 3 14)
  simp[bn,jk];refine(HGR.out wv (cO.out.trans c.ev)).mono ?_;rintro e wp ⟨A1,n1,oO,rfl,hS,aJ⟩;exact⟨_,rfl,aJ,A1,n1,oO,rfl,hS⟩
  ·refine aF λa wv c=>?_;obtain⟨A1,n1,oO,bn,hS⟩:=((c.new 4 15):acn GI (a.eval (.tmp 15)) wv)
   refine⟨(ay rfl),.slice A1 n1 oO,?_,A1,n1,oO,rfl,hS⟩;generalize a.eval=ρ at bn|-;simp[execOp,bn,go_sem]
  refine aF λa wv c=>?_;obtain⟨A1,n1,oO,bn,hS⟩:=((c.new 4 15):acn GI (a.eval (.tmp 15)) wv)
  exact aH9;refine aF λa wv c=>⟨(ay rfl),_,run_assign _ rfl wv,(c.new 5 16)⟩
  refine aF λa wv c=>⟨(ay rfl),_,run_assign _ rfl wv,(c.new 6 17)⟩
 intro s w5 qP hold hnew;obtain⟨A1,n1,oO,f6,hS⟩:=(hnew 7 6:Jb GI (s 6) w5)
 have f7:s 7=.int .i64 0:=hnew 8 7;change Exit.then _ _ .normal ⟨_,_⟩ _;simp only[List.range,List.range.loop,List.map];simp only[f6,f7];clear hold hnew;generalize s 0=u0_,s 1=u1_,s 2=u2_,s 3=u3_,s 4=u4_,s 5=u5_,s 8=u8_,s 9=u9_,s 10=ab1,s 11=ab2,s 12=YJ,s 13=ab3,s 14=YK,s 15=Vh,s 16=Vj,s 17=X5,s 18=X6,s 19=X7,s 20=Vk,s 21=Vl,s 22=X8,s 23=X9,s 24=Ya,s 25=Yb,s 26=Yc,s 27=Yd,s 28=QP,s 29=Uk,s 30=Ye,s 31=Yf,s 32=Yg,s 33=Yh,s 34=Yi,s 35=aeH,s 36=adw,s 37=ahc,s 38=alh,s 39=ali,s 40=apv,s 41=apw,s 42=apx,s 43=apy,s 44=apz,s 45=apA,s 46=akY,s 47=apB,s 48=apC,s 49=apD,s 50=apE,s 51=apF,s 52=akZ,s 53=ak0,s 54=apG,s 55=apH,s 56=apI,s 57=ak1,s 58=ak2,s 59=apJ,s 60=apK,s 61=apL,s 62=apM,s 63=apN,s 64=apO,s 65=apP,s 66=apQ,s 67=apR,s 68=apS,s 69=apT,s 70=apU,s 71=apV,s 72=apW,s 73=apX,s 74=apY,s 75=apZ,s 76=ap0,s 77=ap1,s 78=ap2,s 79=ap3,s 80=ap4;go_wp2
 go_ret2
 exact⟨A1,n1,oO,rfl,hS,cO.out.trans qP⟩
theorem CZ{l s:List I}(h:jc l)(ht:bU l<=512)(hm:uD l=some s):vY l=(0,s):=by
 have hw:l.any Rf=false:=by rw[List.any_eq_false];intro x hx;have h1:=h.part ae x hx;unfold Rf;rw[h.right x hx,lq.2 h1.1,lq.2 h1.2];simp
 unfold vY;rw[hw,hm];simp
def C9(cols:List C)(rows:List I)(w:ak)(e:Ending)(w':ak):Prop:=∃t:TM,e=.returned (.tuple #[.agg #[↑t.name,.slice t.cA t.cols.length t.cc,.slice t.rA t.rows.length t.rc],.int .i64 0])/\t.cols=cols/\t.rows=rows/\yI w' t/\Ev w w'/\t.name=[]
theorem SS:∀{l:List I},jc l->(l.length:Int)<=bU l
 | [],_=>by simp[bU]
 | x::l,h=>by have h1:=SS (h.sub λy hy=>aDc x hy:jc l);have h2:=(h.pos x aC').1;rw[ni,aDh];omega
def IG(L:List Df)(v:au)(w:ak):Prop:=∃(D:List DM) (A:Option Addr) (n cap:Nat),v=.slice A n cap/\yH w A n cap D/\D.map DM.df=L/\(∀ad,A=some ad->ad=⟨ad.block,0,none⟩)
def qW(l:List C)(v:au)(w:ak):Prop:=∃A c,v=.tuple #[.slice A l.length c,.int .i64 0,.string ⟨#[]⟩]/\Cs w A l.length c l
def Nz(l:List C)(v:au)(w:ak):Prop:=∃A c,v=.slice A l.length c/\Cs w A l.length c l
theorem IG.mono(L:List Df):kK (IG L):=λv w w' hE ⟨D,A,n,c,e,h,h1,h2⟩=>⟨D,A,n,c,e,h.ev hE,h1,h2⟩
theorem qW.mono(l:List C):kK (qW l):=λv w w' hE ⟨A,c,e,h⟩=>⟨A,c,e,h.ev hE⟩
theorem Nz.mono(l:List C):kK (Nz l):=λv w w' hE ⟨A,c,e,h⟩=>⟨A,c,e,h.ev hE⟩
theorem Tryz.aco:(Tryz.prog.info? 40).map (·.size)=some 3:=ah
theorem Sl.past{α:Type}{k:Nat}{enc:α->List au}{w w':ak}{A:Option Addr}{n cap g:Nat}{l:List α}(h:Sl k enc w A n cap l)(hb:But [g] w w')(hne:∀x∈l,∃(j:Nat) (u:au),(enc x)[j]?=some u/\∀o,w.cell? ⟨g,o,none⟩≠some u):Sl k enc w' A n cap l:=
 ⟨h.len,h.le,h.max,h.nil,λhn=>by
  obtain⟨b,off,e,hlt,hc⟩:=h.rd hn;have hg:b∉[g]:=by intro hm;obtain rfl:=aDM.1 hm;obtain⟨x,hx⟩:=h.at hn;obtain⟨j,u,hj,hu⟩:=hne x (aDb hx);exact hu _ (hc 0 x hx j u hj)
  refine⟨b,off,e,aDf hlt hb.size,λi x hx j u hu=>?_⟩;rw[World.cell?_of_block (w:=w) (hb.block b hlt hg)];exact hc i x hx j u hu⟩
theorem Y2{T:TypeId}{g:Nat}{w:ak}(h:Bx T g #[.string ⟨#[]⟩,↑(),↑()] w)(u:au)(h1:∀s,u≠.string s)(h2:∀A n c,u≠.slice A n c)(o:Nat):w.cell? ⟨g,o,none⟩≠some u:=by rw[h.cell];rcases o with _|_|_|o;intro e;simp at e;exact h1 _ e.symm;intro e;simp at e;exact h2 _ _ _ e.symm;intro e;simp at e;exact h2 _ _ _ e.symm;intro e;simp at e
theorem eQ.past{T:TypeId}{l:List I}{w w':ak}{A:Option Addr}{n cap g:Nat}(h:eQ l w A n cap)(hB:Bx T g #[.string ⟨#[]⟩,↑(),↑()] w)(hb:But [g] w w'):eQ l w' A n cap:=by obtain⟨Z,hz,hl⟩:=h;refine⟨Z,⟨hz.js.past hb λx hx=>⟨1,nP x,rfl,Y2 hB _ (λs e=>by cases e) (λA n c e=>by cases e)⟩,λz Jk=>⟨(hz.rows z Jk).1.past hb λx hx=>⟨0,.int .i64 x.1,rfl,Y2 hB _ (λs e=>by cases e) (λA n c e=>by cases e)⟩,λad e=>aDf ((hz.rows z Jk).2 ad e) hb.size⟩,λad e=>aDf (hz.low ad e) hb.size,aC8 _⟩,hl⟩
theorem acp{T:TypeId}{l:List C}{w w':ak}{A:Option Addr}{n cap g:Nat}(h:Cs w A n cap l)(hB:Bx T g #[.string ⟨#[]⟩,↑(),↑()] w)(hb:But [g] w w'):Cs w' A n cap l:=
 h.past hb λx hx=>⟨1,.int .i64 x.2,rfl,Y2 hB _ (λs e=>by cases e) (λA n c e=>by cases e)⟩
def PvT(u:au):Prop:=(∃s,u=.string s)∨∃A n c,u=.slice A n c
theorem al_(x:TM):∀u∈tc x,PvT u:=λu hu=>by simp[tc]at hu;rcases hu with rfl|rfl|rfl;exact .inl ⟨_,rfl⟩;exact .inr ⟨_,_,_,rfl⟩;exact .inr ⟨_,_,_,rfl⟩
theorem OwP.ev{α:Type}{et:TypeId}{k base:Nat}{enc:α->List au}{Pv:au->Prop}{w w':ak}{v:au}{Z:List α}(h:OwP Pv w v)(hO:Ow et k enc base w v Z)(hE:Ev w w'):OwP Pv w' v:=λg hg cs T q hb=>h g hg cs T q (by rw[<-hE.block g (hO.lt hg).2];exact hb)
theorem aiC{α:Type}{et:TypeId}{k base:Nat}{enc:α->List au}{Pv:au->Prop}{w:ak}{v:au}{Z:List α}(hO:Ow et k enc base w v Z)(hp:OwP Pv w v){g:Nat}(hg:v.ownBlock=some g){o:Nat}{u:au}(hc:w.cell? ⟨g,o,none⟩=some u):Pv u:=by
 rcases hO.2 with⟨rfl,hn⟩|⟨g',cap,cur,rfl,_,hh,_⟩
 simp[Value.ownBlock]at hg;simp only[Value.ownBlock,aEK]at hg;subst hg;rw[aFf hh]at hc;exact hp _ rfl _ _ _ hh u (Array.mem_toList_iff.2 (Array.mem_of_getElem? hc))
theorem NC{α β:Type}{et:TypeId}{k base j:Nat}{enc:α->List au}{en2:β->List au}{w w':ak}{v:au}{Z:List α}(hO:Ow et k enc base w v Z)(hp:OwP PvT w v)(hb:But (foot v) w w'){A:Option Addr}{n cap:Nat}{l:List β}(h:Sl j en2 w A n cap l)(hne:∀x∈l,∃(j:Nat) (u:au),(en2 x)[j]?=some u/\¬PvT u):Sl j en2 w' A n cap l:=by
 cases hv:v.ownBlock with
 | none=>exact h.ev (hb.ev λg hg=>by rw[aG,hv]at hg;cases hg)
 | some g=>
  have hf:foot v=[g]:=by unfold foot;rw[hv];rfl
  rw[hf]at hb;exact h.past hb λx hx=>by obtain⟨j,u,h1,h2⟩:=hne x hx;exact⟨j,u,h1,λo hc=>h2 (aiC hO hp hv hc)⟩
theorem aiD(x:J):¬PvT (nP x):=λh=>by unfold nP at h;rcases h with⟨s,e⟩|⟨A,n,c,e⟩<;>cases e
theorem aak(a:Int):¬PvT ↑a:=λh=>by rcases h with⟨s,e⟩|⟨A,n,c,e⟩<;>cases e
theorem yI.grown{α:Type}{et:TypeId}{k base:Nat}{enc:α->List au}{w w':ak}{v:au}{Z:List α}{t:TM}(h:yI w t)(hO:Ow et k enc base w v Z)(hp:OwP PvT w v)(hb:But (foot v) w w'):yI w' t:=by obtain⟨Y,hz,hl⟩:=h.rows;exact⟨NC hO hp hb h.cols λx hx=>⟨1,.int .i64 x.2,rfl,aak _⟩,Y,⟨NC hO hp hb hz.js λx hx=>⟨1,nP x,rfl,aiD x⟩,λz Jk=>⟨NC hO hp hb (hz.rows z Jk).1 λx hx=>⟨0,.int .i64 x.1,rfl,aak _⟩,λad e=>aDf ((hz.rows z Jk).2 ad e) hb.size⟩,λad e=>aDf (hz.low ad e) hb.size,aC8 _⟩,hl⟩
theorem afy:∀u∈(Value.agg #[.string ⟨#[]⟩,↑(),↑()]).cells.toList,PvT u:=λu hu=>by simp[Value.cells]at hu;rcases hu with rfl|rfl;exact .inl ⟨_,rfl⟩;exact .inr ⟨_,_,_,rfl⟩
theorem ap5(w:ak)(m:PM):∃w0,(w.alloc (.cells ↑m 35)).alloc (.cells #[.string ⟨#[]⟩,↑(),↑()] 40)=w0/\Ev w w0/\Bx 35 w.heap.size ↑m w0/\Bx 40 (w.heap.size+1) #[.string ⟨#[]⟩,↑(),↑()] w0:=by have hB:=Bx.new 40 #[.string ⟨#[]⟩,↑(),↑()] (w.alloc (.cells ↑m 35));exact aHl
theorem aHJ(h:U:=by rintro e wp ⟨v,rfl,hO,aJ⟩;refine⟨_,rfl,aJ,?_⟩;obtain⟨A9,c9,rfl,qJ,had⟩:=hO.form rD;exact⟨A9,c9,rfl,qJ⟩):U:=h
theorem acr(m:PM)(b0:Nat)(l:List TM)(LA:Option Addr)(ln lc:Nat)(KK:List (List C×List I))(items rows:List I)(cols:List C)(w:ak)(hQ:Qx b0 [] w m)(Ob:m.kids.length<=1000)(hl:tJ w LA ln lc l)(Xt:ln<=1000)(hlc:∀t∈l,t.cols.length<=1000/\0<t.cols.length)
  (hlen:KK.length=m.kids.length)
  (hkids:∀(i:Nat) (x:PM) (c:List C×List I),m.kids[i]?=some x->KK[i]?=some c->∀w1,Ev w w1->Calls ax 23 #[.agg ↑x,.slice LA ln lc] w1 (C9 c.1 c.2 w1))
  (hstep:∀(Ts:List TM) (KA:Option Addr) (kc:Nat) w1,Ev w w1->tJ w1 KA Ts.length kc Ts->Ts.map (λt=>(t.cols,t.rows))=KK->Calls ax 43 #[.agg ↑m,.slice KA Ts.length kc,.slice LA ln lc] w1 (rH items w1))
  (hA:jc items) (ht:bU items<=512) (hmk:uD items=some rows) (hM:Made items rows) (hB:setB rows=true)
  (hout:∀(D:List DM) (DA:Option Addr) (dn iE:Nat) w1,Ev w w1->yH w1 DA dn iE D->D.map DM.df=l.map TM.df->(∀ad,DA=some ad->ad=⟨ad.block,0,none⟩)->Calls ax 21 #[.agg ↑m,.slice DA dn iE] w1 (SQ (cols,0,⟨#[]⟩) w1)):
  Calls ax 23 #[.agg ↑m,.slice LA ln lc] w (C9 cols rows w):=by
 have dH:Tryz.prog.follows .mixedOrders=true:=ah;obtain⟨w0,hw0,aV,hP,hT⟩:=ap5 w m;have HP:=zq hP;have HT:=zq hT;have cO:=zq aV;obtain⟨⟨p0,p1,p2,p3,p4,p5,p6,p7⟩,_⟩:=hP.eight;have WY:=zq (λw1 (hE:Ev w w1)=>hQ.ps.ev hE);have HKI:=zq hkids;have HST:=zq hstep;have HOU:=zq hout;have vU:=zq hlen;have qm:=hQ.ps.le;have hkm:=hQ.ps.max;unfold C9 at HKI;unfold C9;clear hkids hstep hout hQ hP hT aV hlen;generalize qX:m.kids.length=nk at*;generalize m.A=mA at*;generalize m.cap=mc at*;clear qX;go_enter func23,ntmps23;go_wp2
 go_loopw [6,23] (λzv iv wr=>∃(ZA:Option Addr) (zc k:Nat) (Z:List TM),zv=.slice ZA k zc/\iv=↑k/\k<=nk/\Hid (Z.map (λt=>(t.cols,t.rows))=KK.take k)/\Hid (Z.length=k)/\Hid (Ow 40 3 tc w0.heap.size wr (.slice ZA k zc) Z)/\Hid (∀t∈Z,yI wr t)/\Hid (OwP PvT wr (.slice ZA k zc))/\Hid (Ev w0 wr)) (λ_ iv _=>nk-(intOf iv).toNat)
 case atStart=>exact⟨none,0,0,[],rfl,rfl,aDl _,zq rfl,zq rfl,zq (Ow.nil_ _),zq (λt ht=>by cases ht),zq (OwP.none_ _ _ _ _),zq aS⟩
 case round=>
  obtain⟨ZA,zc,k,Z,rfl,rfl,hk,HZM,OI,HO,HTM,HZN,HE⟩:=hrel;by_cases hlt:k<nk
  ·obtain⟨x,hx⟩:=(WY.out _ (cO.out.trans HE.out)).at hlt;obtain⟨bk,ok,rfl,hbk,_⟩:=(WY.out _ (cO.out.trans HE.out)).rd ae;obtain⟨x0,x1,x2,x3,x4,x5,x6,x7⟩:=Ps.cell (WY.out _ (cO.out.trans HE.out)) hx;unfold dK.v PM.kv at*;have Kr:k<KK.length:=by rw[vU.out];exact hlt
   obtain⟨c,hc⟩:∃c,KK[k]?=some c:=⟨_,aDo Kr⟩
   have HIX:=zq (λw1 (hE:Ev w w1)=>HKI.out k x c hx hc w1 hE);have mr:Hid (KK.take (k+1)=KK.take k++[c]):=zq (by rw[List.take_add_one,hc];rfl);have i1:(0:Int)<=(k:Int):=ae;have i2:(k:Int)<(nk:Int):=ae;clear hx hc Kr;go_upto_region 5 with fail
   obtain⟨w8,TR,Bf,Gy⟩:∃w8,wr.alloc (.cells ↑x 35)=w8/\Ev wr w8/\Bx 35 wr.heap.size ↑x w8:=⟨_,rfl,Ev.alloc _ _,Bx.new _ _ _⟩
   rw[TR];obtain⟨⟨u0,u1,u2,u3,u4,u5,u6,u7⟩,_⟩:=Gy.eight;have E8:=zq (HE.out.trans Bf);have R8:=zq Bf;clear Bf Gy TR x0 x1 x2 x3 x4 x5 x6 x7;go_upto_region 6 with (first
    | ((with_reducible refine(HIX.out _ (cO.out.trans E8.out)).mono ?_);rintro r w6 ⟨t,rfl,htc,htr,hT,uK,hnm⟩;have HTC:=zq htc;have HTR:=zq htr;have HT6:=zq hT;have E6:=zq (E8.out.trans uK);have R6:=zq (R8.out.trans uK);clear htc htr hT uK hnm))
   obtain⟨w9,hw9,hE9,hB9⟩:∃w9,w6.alloc (.cells #[↑t.name,.slice t.cA t.cols.length t.cc,.slice t.rA t.rows.length t.rc] 40)=w9/\Ev w6 w9/\Bx 40 w6.heap.size #[↑t.name,.slice t.cA t.cols.length t.cc,.slice t.rA t.rows.length t.rc] w9:=⟨_,rfl,Ev.alloc _ _,Bx.new _ _ _⟩
   rw[hw9];obtain⟨⟨y0,y1,y2⟩,_⟩:=hB9.three;have E9:=zq (E6.out.trans hE9);have R9:=zq (R6.out.trans hE9);have H69:=zq hE9;clear hE9 hB9 hw9;have hzl:=OI.out;subst hzl;clear u0 u1 u2 u3 u4 u5 u6 u7
   go_wp2_with (first
    | ((show wpList _ _ _ (⟨some 40,_,_,_,_,_⟩::_) _ _);refine EC PvT (o:=⟨some 40,_,_,_,_,_⟩) rfl 23 (.tmp 37) (.tmp 39) rfl Vb underlying23 Tryz.Qk rfl rfl ((HO.out.ev (R9.out.trans aC))) ↑w9 1 1 [t] rfl (Sl.one (et:=40) Vb w9 t _ rfl) (by rw[show Z.length=Z.length from rfl];simp;omega) (by rw[show Z.length=Z.length from rfl];simp;omega) ((E9.out.trans aC)).size ae afy (λx hx=>by obtain rfl:=aDM.1 hx;exact al_ x) (HZN.out.ev HO.out (R9.out.trans aC)) ?_;rintro v2 w2 ⟨iq,hP2⟩;have E2:Ev w0 w2:=((But.aU ((E9.out.trans aC))).then iq.2.1).ev (λk hk=>(HO.out.lt (aG.1 hk)).1);obtain⟨A2,cap2,rfl,_,Mc⟩:=iq.1.form Vb;clear Mc;generalize qX:(Z++[t]).length=nn at iq|-;have xy:Hid (nn=Z.length+1):=zq (by rw[<-qX,aDd,show Z.length=Z.length from rfl];rfl);clear qX;obtain rfl:=xy.out;have HO2:=zq iq.1;have HP2:=zq hP2;have N8:Hid (But (foot (.slice ZA Z.length zc)) (w9.alloc (.cells #[↑t.name,.slice t.cA t.cols.length t.cc,.slice t.rA t.rows.length t.rc] 40)) w2):=zq iq.2.1;clear hP2;have E2:=zq E2))
   go_roundw
   case rel=>exact⟨A2,cap2,Z.length+1,Z++[t],rfl,by go_num,ae,zq (by rw[mr.out,aDk,HZM.out];simp[HTC.out,HTR.out]),zq aj,HO2,zq (λt' ht'=>by
    have HO9:=HO.out.ev (R9.out.trans (Ev.alloc w9 (.cells #[↑t.name,.slice t.cA t.cols.length t.cc,.slice t.rA t.rows.length t.rc] 40)));have HP9:=HZN.out.ev HO.out (R9.out.trans (Ev.alloc w9 (.cells #[↑t.name,.slice t.cA t.cols.length t.cc,.slice t.rA t.rows.length t.rc] 40)));rcases aDm.1 ht' with h1|h1;exact(((HTM.out t' h1).ev R9.out).ev (Ev.alloc w9 _)).grown HO9 HP9 N8.out;obtain rfl:=aDM.1 h1;exact((HT6.out.ev H69.out).ev (Ev.alloc w9 _)).grown HO9 HP9 N8.out),zq (by have h:=HP2.out;rw[aDd]at h;exact h),E2⟩
   case measure=>simp[intOf];omega
  obtain rfl:k=nk:=ae;have HZK:Hid (Z.map (λt=>(t.cols,t.rows))=KK):=zq (by rw[HZM.out,aDj (by rw[vU.out];omega)]);have HTS:Hid (tJ wr ZA k zc Z):=zq (by
   obtain⟨A,cap,hv,qJ,_⟩:=HO.out.form Vb;rw[OI.out]at hv qJ;injection hv with h1 h2 h3
   subst h1 h3;exact⟨qJ,HTM.out⟩)
  have HSt:=zq (HST.out Z ZA zc wr (cO.out.trans HE.out) (by rw[OI.out];exact HTS.out) HZK.out);rw[OI.out]at HSt;unfold rH at HSt;clear p0 p1 p2 p3 p4 p5 p6 p7;obtain⟨⟨p0,p1,p2,p3,p4,p5,p6,p7⟩,_⟩:=(HP.out.ev HE.out).eight;have HSU:Hid (bU rows=bU items):=zq (by
   have h1:=hM.sum λ_=>1;simpa[bU] using h1)
  have HTO:Hid (LU (setB rows) (sumN 0 rows)=.tuple #[.int .i64 (bU items),.bool true]):=zq (by
   have h1:=Ah rows 0 hM.adds ae (by rw[HSU.out];omega);rw[h1,hB,HSU.out,Int.zero_add];rfl)
  have HMK:Hid (vY items=(0,rows)):=zq (CZ hA ht hmk);have IV:Hid (items.length<=512):=zq (by have:=SS hA;omega);have HTA:Hid (∀x∈items,nR x.2.1 x.2.2):=zq (λx hx=>nR.part (hA.part ae x hx).1 (hA.part ae x hx).2);have HPI:Hid (xK rows):=zq (λx hx=>hM.adds.part (by rw[HSU.out];omega) x hx);have t0:=hA.tot.1;have HL:=zq hl;have HLC:=zq hlc;generalize bU items=nT at*;clear hl hlc hA hM hB hmk;go_upto_region 17 with (first
   | ((with_reducible refine(HSt.out).mono ?_);rintro r w1 ⟨A1,n1,oO,rfl,hS,aJ⟩;have N9:=zq hS;have E1:=zq (HE.out.trans aJ);clear hS aJ)
   | ((with_reducible refine(Rh _ N9.out (by have h1:=N9.out.len;have h2:=IV.out;omega) HTA.out).mono ?_);rw[HMK.out];rintro r w2 ⟨⟨A2,c2_,rfl,hS⟩,dJ⟩;simp only[];have HS2:=zq hS;have E2:=zq (E1.out.trans dJ);clear hS dJ)
   | ((with_reducible refine(U6 _ HS2.out HPI.out).mono ?_);rw[HTO.out];rintro r w3 ⟨rfl,jW⟩;have HS3:=zq (HS2.out.ev jW);have E3:=zq (E2.out.trans jW);clear jW))
  refine bD dH [λv _=>v=.agg #[↑m.kind,↑m.name,.slice m.ex.A m.ex.l.length m.ex.cap,.slice m.co.A m.co.l.length m.co.cap,.slice m.lf.A m.lf.l.length m.lf.cap,.slice m.rt.A m.rt.l.length m.rt.cap,.slice m.ag.A m.ag.l.length m.ag.cap,.slice mA k mc],λv _=>v=.slice LA ln lc,IG (l.map TM.df),qW cols,qW cols,Nz cols,λv _=>v=.int .i64 0,λv _=>v=.string ⟨#[]⟩,Nz cols,λv _=>v=.int .i64 0,λv _=>v=.string ⟨#[]⟩]
   81 rfl ah ⟨aB _,aB _,IG.mono _,qW.mono _,qW.mono _,Nz.mono _,aB _,aB _,Nz.mono _,aB _,aB _,trivial⟩ ?_ ?_
  ·refine az 0 ?_ (az 1 ?_ (az 2 ?_ (az 3 ?_ (az 4 ?_ (az 5 ?_ (az 6 ?_ (az 7 ?_ (az 8 ?_ (az 9 ?_ (az 10 ?_ (eY 11)))))))))));refine aF λa wv c=>⟨(ay rfl),.agg #[↑m.kind,↑m.name,.slice m.ex.A m.ex.l.length m.ex.cap,.slice m.co.A m.co.l.length m.co.cap,.slice m.lf.A m.lf.l.length m.lf.cap,.slice m.rt.A m.rt.l.length m.rt.cap,.slice m.ag.A m.ag.l.length m.ag.cap,.slice mA k mc],?_,rfl⟩
   have bn:a.eval (.tmp 2)=.pointer ↑w:=(c.was 2 rfl)
   obtain⟨⟨p0,p1,p2,p3,p4,p5,p6,p7⟩,_⟩:=(HP.out.ev (E3.out.trans c.ev)).eight;exact aIi;exact aIn;refine eP λa wv c=>⟨(ay rfl),22,#[.slice LA ln lc],?_,?_⟩
   rw[bK 22 _ _ rfl ah];have bn:a.eval (.tmp 72)=.slice LA ln lc:=(c.new 1 72)
   simp[bn];refine(Si wv (HL.out.ev (cO.out.trans (E3.out.trans c.ev))) Xt HLC.out).mono ?_;rintro e wp ⟨D,DA,dn,iE,rfl,hD,WZ,WI,aJ⟩;exact⟨_,rfl,aJ,D,DA,dn,iE,rfl,hD,WZ,WI⟩;refine eP λa wv c=>?_;obtain⟨D,DA,dn,iE,jk,hD,WZ,WI⟩:=((c.new 2 73):IG (l.map TM.df) (a.eval (.tmp 73)) wv)
   refine⟨(ay rfl),21,#[.agg #[↑m.kind,↑m.name,.slice m.ex.A m.ex.l.length m.ex.cap,.slice m.co.A m.co.l.length m.co.cap,.slice m.lf.A m.lf.l.length m.lf.cap,.slice m.rt.A m.rt.l.length m.rt.cap,.slice m.ag.A m.ag.l.length m.ag.cap,.slice mA k mc],.slice DA dn iE],?_,?_⟩;rw[bK 21 _ _ rfl ah];have bn:a.eval (.tmp 71)=.agg #[↑m.kind,↑m.name,.slice m.ex.A m.ex.l.length m.ex.cap,.slice m.co.A m.co.l.length m.co.cap,.slice m.lf.A m.lf.l.length m.lf.cap,.slice m.rt.A m.rt.l.length m.rt.cap,.slice m.ag.A m.ag.l.length m.ag.cap,.slice mA k mc]:=(c.new 0 71)
   simp[bn,jk];refine(HOU.out D DA dn iE wv (cO.out.trans (E3.out.trans c.ev)) hD WZ WI).mono ?_;exact aHJ;refine aF λa wv c=>⟨(ay rfl),_,run_move _ rfl wv,(c.new 3 74)⟩
   ·refine aF λa wv c=>?_;obtain⟨A9,c9,bn,hS⟩:=((c.new 4 70):qW cols (a.eval (.tmp 70)) wv)
    refine⟨(ay rfl),.slice A9 cols.length c9,?_,A9,c9,rfl,hS⟩;generalize a.eval=ρ at bn|-;simp[execOp,bn,go_sem]
   refine aF λa wv c=>?_;obtain⟨A9,c9,bn,hS⟩:=((c.new 4 70):qW cols (a.eval (.tmp 70)) wv)
   exact aH9
   ·refine aF λa wv c=>?_;obtain⟨A9,c9,bn,hS⟩:=((c.new 4 70):qW cols (a.eval (.tmp 70)) wv)
    refine⟨(ay rfl),.string ⟨#[]⟩,?_,rfl⟩;generalize a.eval=ρ at bn|-;simp[execOp,bn,go_sem]
   refine aF λa wv c=>⟨(ay rfl),_,run_assign _ rfl wv,(c.new 5 75)⟩
   refine aF λa wv c=>⟨(ay rfl),_,run_assign _ rfl wv,(c.new 6 76)⟩
   refine aF λa wv c=>⟨(ay rfl),_,run_assign _ rfl wv,(c.new 7 77)⟩
  intro s w5 qP hold hnew;obtain⟨A9,c9,f17,hC9⟩:=(hnew 8 17:Nz cols (s 17) w5)
  have f4:s 4=.pointer (some ⟨w.heap.size+1,0,none⟩):=hold 4;have f13:s 13=.slice A2 rows.length c2_:=hold 13;change Exit.then _ _ .normal ⟨_,_⟩ _;simp only[List.range,List.range.loop,List.map];simp only[f4,f13,f17];clear hold hnew;generalize s 0=u0_,s 1=u1_,s 2=u2_,s 3=u3_,s 5=u5_,s 6=u6_,s 7=u7_,s 8=u8_,s 9=u9_,s 10=ab1,s 11=ab2,s 12=YJ,s 14=YK,s 15=Vh,s 16=Vj,s 20=Vk,s 21=Vl,s 22=X8,s 23=X9,s 24=Ya,s 25=Yb,s 26=Yc,s 27=Yd,s 28=QP,s 29=Uk,s 30=Ye,s 31=Yf,s 32=Yg,s 33=Yh,s 34=Yi,s 35=aeH,s 36=adw,s 37=ahc,s 38=alh,s 39=ali,s 40=apv,s 41=apw,s 42=apx,s 43=apy,s 44=apz,s 45=apA,s 46=akY,s 47=apB,s 48=apC,s 49=apD,s 50=apE,s 51=apF,s 52=akZ,s 53=ak0,s 54=apG,s 55=apH,s 56=apI,s 57=ak1,s 58=ak2,s 59=apJ,s 60=apK,s 61=apL,s 62=apM,s 63=apN,s 64=apO,s 65=apP,s 66=apQ,s 67=apR,s 68=apS,s 69=apT,s 70=apU,s 71=apV,s 72=apW,s 73=apX,s 74=apY,s 75=apZ,s 76=ap0,s 77=ap1,s 78=ap2,s 79=ap3,s 80=ap4;have HC9:=zq hC9;have E5:=zq (E3.out.trans qP);have HS5:=zq (HS3.out.ev qP);clear hC9 qP p0 p1 p2 p3 p4 p5 p6 p7;obtain⟨⟨y0,y1,y2⟩,z0,z1,z2⟩:=(HT.out.ev E5.out).three;go_wp2;(try simp only[Exit.inBlock,Exit.then]);rw[bM]
  refine aFe (lu rfl _ _ _ _ _ rfl ((HT.out.ev E5.out).kL _ _ _) underlying40 rfl Tryz.aco) rfl ?_;exact⟨⟨[],A9,c9,cols,A2,c2_,rows⟩,rfl,rfl,rfl,⟨acp HC9.out (HT.out.ev E5.out) (bP _ _ _ _ _),HS5.out.past (HT.out.ev E5.out) (bP _ _ _ _ _)⟩,(cO.out.trans E5.out).box (bP _ _ _ _ _) (aD3 _),rfl⟩
def sG1:By:=[40,103,114,111,117,112,32,40,97,41,32,40,110,32,99,111,117,110,116,41,32,40,109,32,115,117,109,32,99,41,32,40,111,32,109,105,110,32,99,41,32,40,112,32,109,97,120,32,99,41,32,40,116,97,98,108,101,32,117,41,41]
def sG2:By:=[40,103,114,111,117,112,32,40,41,32,40,110,32,99,111,117,110,116,41,32,40,109,32,115,117,109,32,99,41,32,40,116,97,98,108,101,32,117,41,41]
def sG3:By:=[40,103,114,111,117,112,32,40,41,32,40,110,32,99,111,117,110,116,41,32,40,103,114,111,117,112,32,40,97,41,32,40,109,32,99,111,117,110,116,41,32,40,116,97,98,108,101,32,117,41,41,41]
def sV:By:=[40,117,110,105,111,110,32,40,116,97,98,108,101,32,116,41,32,40,116,97,98,108,101,32,116,41,41]
def Za:Pl:=.mk 1 [117] [] [] [] [] [] []
def plT:Pl:=.mk 1 [116] [] [] [] [] [] []
def EG:Pl:=.mk 7 [] [] [] [[97]] [] OM [Za]
def GY:Pl:=.mk 7 [] [] [] [] [] ag2 [Za]
def Zb:Pl:=.mk 7 [] [] [] [[97]] [] Qo [Za]
def EH:Pl:=.mk 7 [] [] [] [] [] agN [Zb]
def plV:Pl:=.mk 5 [] [] [] [] [] [] [plT,plT]
structure Zc(s:By)(p:Pl):Prop where
 eq:yt s=(p,0,0)
 len:s.length<=100000
 no:(fP s).1.every (noT EE)=true
 ink:(pPlan (fP s).1).inK qL=true
 c0:(fP s).2.1=0
 e0:(dD (fP s).1).1=0
 l6:¬600<(printS (aI (pPlan (fP s).1))).length
theorem aat:Zc sG1 EG:=⟨ah,ai,ah,ah,ah,ah,by decide+kernel⟩
theorem aau:Zc sG2 GY:=⟨ah,ai,ah,ah,ah,ah,by decide+kernel⟩
theorem aav:Zc sG3 EH:=⟨ah,ai,ah,ah,ah,ah,by decide+kernel⟩
theorem afU:Zc sV plV:=⟨ah,ai,ah,ah,ah,ah,by decide+kernel⟩
theorem Zc.wr{s:By}{p:Pl}(h:Zc s p):WrP p:=by have:=Y9 s (by rw[h.eq]);rwa [h.eq]at this
structure Zd(p:Pl):Prop where
 wr:WrP p
 ink:p.inK qL=true
 no:(fH (printS (aI p))).1.every (noT EE)=true
theorem afV:Zd EG:=⟨aat.wr,by decide+kernel,ah⟩
theorem akl:Zd GY:=⟨aau.wr,by decide+kernel,ah⟩
theorem afW:Zd EH:=⟨aav.wr,by decide+kernel,ah⟩
theorem amy:Zd plV:=⟨afU.wr,by decide+kernel,ah⟩
theorem aqI:Zd Zb:=⟨YG afW.wr (by simp[EH,Pl.kids]),by decide+kernel,ah⟩
theorem avq:Zd Za:=⟨YG afV.wr (by simp[EG,Pl.kids]),by decide+kernel,ah⟩
theorem avr:Zd plT:=⟨YG amy.wr (by simp[plV,Pl.kids]),by decide+kernel,ah⟩
def NL:List C:=[(⟨#[97]⟩,1),(⟨#[110]⟩,1),(⟨#[109]⟩,1),(⟨#[111]⟩,1),(⟨#[112]⟩,1)]
def NM:List C:=[(⟨#[110]⟩,1),(⟨#[109]⟩,1)]
def NP:List C:=[(⟨#[110]⟩,1)]
def uF:List Df:=[([117],cZ)]
def tF:List Df:=[([116],jO)]
theorem avs:ckOf uF Za=CR.of cZ:=ah
theorem avt:ckOf tF plT=CR.of jO:=ah
theorem aqJ:ckOf uF EG=CR.of NL:=ah
theorem aqK:ckOf uF GY=CR.of NM:=ah
theorem aqL:ckOf uF Zb=CR.of BO:=ah
theorem aqM:ckOf uF EH=CR.of NP:=ah
theorem avu:ckOf tF plV=CR.of jO:=ah
theorem amz:ckOf tuF EG=CR.of NL:=ah
theorem amA:ckOf tuF GY=CR.of NM:=ah
theorem amB:ckOf tuF EH=CR.of NP:=ah
theorem aqN:ckOf tuF plV=CR.of jO:=ah
theorem zX{l S:List I}(hm:Made l S):bU S=bU l:=by have h1:=hm.sum λ_=>1;simpa[bU] using h1
theorem oI.made{l S:List I}(h:oI l)(hm:Made l S):oI S:=⟨hm.adds,λx hx=>by
 obtain⟨y,hy,e⟩:=hm.from_ x hx;rw[<-e];exact h.rows y hy,by rw[zX hm];exact h.tot⟩
theorem afX{S:List I}(h:oI S):∀x∈S,x.1.length=2/\-2147483648<=(jT x.1 1).2.1/\(jT x.1 1).2.1<=2147483647:=λx hx=>by obtain⟨a,c,e,_,_,h3,h4⟩:=h.rows x hx;rw[e];refine⟨rfl,?_,?_⟩;show (-2147483648:Int)<=c;omega;show c<=(2147483647:Int);omega
theorem avv{S:List I}(h:oI S)(hs:setB S=true):yg cZ [[97]] OM S:=by
 refine⟨h.adds,by have:=h.tot;omega,hs,λx hx=>(afX h x hx).1,λi hi=>?_,λa ha=>?_,ai⟩;rw[aiQ]at hi;obtain rfl:=aDM.1 hi;decide;simp only[OM,aDg,aEa,aEG]at ha;have f:(gZ cZ (dV [99])).getD 0=1:=by decide+kernel
 rcases ha with rfl|rfl|rfl|rfl;exact⟨λe=>absurd e ai,λe=>absurd e ai⟩;simp only[f];exact⟨λ_=>by decide,λ_ x hx=>(afX h x hx).2⟩;simp only[f];exact⟨λ_=>by decide,λe=>absurd e ai⟩;simp only[f];exact⟨λ_=>by decide,λe=>absurd e ai⟩
theorem avw{S:List I}(h:oI S)(hs:setB S=true):yg cZ [] ag2 S:=by
 refine⟨h.adds,by have:=h.tot;omega,hs,λx hx=>(afX h x hx).1,λi hi=>?_,λa ha=>?_,ai⟩;rw[JI]at hi
 cases hi
 simp only[ag2,aDg,aEa,aEG]at ha;have f:(gZ cZ (dV [99])).getD 0=1:=by decide+kernel
 rcases ha with rfl|rfl;exact⟨λe=>absurd e ai,λe=>absurd e ai⟩;simp only[f];exact⟨λ_=>by decide,λ_ x hx=>(afX h x hx).2⟩
theorem avx{S:List I}(h:oI S)(hs:setB S=true):yg cZ [[97]] Qo S:=by refine⟨h.adds,by have:=h.tot;omega,hs,λx hx=>(afX h x hx).1,λi hi=>?_,λa ha=>?_,ai⟩;rw[aiQ]at hi;obtain rfl:=aDM.1 hi;decide;simp only[Qo,aDg,aEa,aEG]at ha;subst ha;exact⟨λe=>absurd e ai,λe=>absurd e ai⟩
theorem avy{G:List I}(hA:jc G)(ht:bU G<=512)(hs:setB G=true)(hl:∀x∈G,x.1.length=2):yg BO [] agN G:=by
 refine⟨hA,ht,hs,hl,λi hi=>?_,λa ha=>?_,ai⟩;rw[JI]at hi
 cases hi
 simp only[agN,aDg,aEa,aEG]at ha;subst ha;exact⟨λe=>absurd e ai,λe=>absurd e ai⟩
theorem J_{r:List V}{s:List I}(h:Made [(r,1,0)] s):s=[(r,1,0)]:=by
 have h1:=(h.once (aEr _ _) (λx hx=>by obtain rfl:=aDM.1 hx;rfl)).1;have h2:∀x∈s,x=(r,1,0):=λx hx=>by obtain⟨y,hy,e⟩:=h.from_ x hx;obtain rfl:=aDM.1 hy;exact Prod.ext e.symm (h1 x hx)
 have h3:=zX h
 match s,h2,h3 with
 | [],_,h3=>simp[bU]at h3
 | [x],h2,_=>rw[h2 x aj]
 | x::y::s,h2,h3=>
  have h4:=h.adds.sub (m:=s) λz hz=>by simp[hz]
  have h5:=h4.tot.1;rw[h2 x aj,h2 y aj]at h3;simp only[ni]at h3;simp[bU]at h3 h5;omega
theorem afY{s:List I}(h:Made [] s):s=[]:=by
 cases s with
 | nil=>rfl
 | cons x s=>
  obtain⟨y,hy,_⟩:=h.from_ x aj
  cases hy
theorem NQ{cols:List C}{lf:List By}{ag:List Ag}{S G:List I}(h:Made (fQ cols lf ag S) G):jc (fQ cols lf ag S):=⟨λx hx=>by
 obtain⟨y,hy,e⟩:=h.all x hx;rw[<-e];exact h.adds.right y hy,λx hx=>by
 unfold fQ at hx;obtain⟨g,_,rfl⟩:=aDz.1 hx;exact⟨aEI _,rfl⟩⟩
theorem zY{r:List V}(h:bZ r=true):jc [(r,1,0)]:=⟨λx hx=>by obtain rfl:=aDM.1 hx;exact h,λx hx=>by obtain rfl:=aDM.1 hx;exact⟨aEI _,rfl⟩⟩
theorem DL:jc []:=⟨λx hx=>by(cases hx),λx hx=>by(cases hx)⟩
def oJ(S:List I)(r:List V):List I:=if S=[] then [] else [(r,1,0)]
theorem Tv(S:List I)(r:List V)(h:bZ r=true):uD (oJ S r)=some (oJ S r)/\Made (oJ S r) (oJ S r)/\setB (oJ S r)=true/\bU (oJ S r)<=20/\jc (oJ S r):=by
 have hA:jc (oJ S r):=by unfold oJ;split;exact DL;exact zY h
 have ht:bU (oJ S r)<=20:=by unfold oJ;split;decide;simp[bU]
 obtain⟨s,h1,h2,h3⟩:=pz _ hA ae;have hs:s=oJ S r:=by unfold oJ at h2|-;split at h2;rename_i e;rw[if_pos e];exact afY h2;rename_i e;rw[if_neg e];exact J_ h2
 subst hs;exact⟨h1,h2,h3,ht,hA⟩
theorem afZ(a b:Int):bZ [bI a,bI b]=true:=by unfold bZ okR iQ bI ed;simp
theorem af0(a:Int):bZ [bI a]=true:=by unfold bZ okR iQ bI ed;simp
end Go.Proofs.YtbgmhhfjkkfhpaaGreatDoor
