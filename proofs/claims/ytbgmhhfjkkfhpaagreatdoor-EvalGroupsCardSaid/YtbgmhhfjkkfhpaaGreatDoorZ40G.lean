import Derived.Test.YtbgmhhfjkkfhpaaGreatDoorZ38G
import Derived.Test.YtbgmhhfjkkfhpaaGreatDoorZ34G
set_option linter.unusedVariables false
set_option maxRecDepth 100000
set_option maxHeartbeats 64000000
namespace Go.Proofs.YtbgmhhfjkkfhpaaGreatDoor
open Go.RowKit
open Go.Lib renaming hid → zq
open Go renaming World → ak
open Go renaming Value → au
open Go.Proofs.Tryz renaming prog → ax
variable {U:Prop}
open Go.Proofs.Tryz
structure TM where
 name:By
 cA:Option Addr
 cc:Nat
 cols:List C
 rA:Option Addr
 rc:Nat
 rows:List I
def tc(t:TM):List au:=[↑t.name,.slice t.cA t.cols.length t.cc,.slice t.rA t.rows.length t.rc]
theorem Vb:Enc 3 tc:=⟨ae,λ_=>rfl,λx u hu=>by
 simp[tc]at hu;rcases hu with rfl|rfl|rfl<;>rfl⟩
structure yI(w:ak)(t:TM):Prop where
 cols:Cs w t.cA t.cols.length t.cc t.cols
 rows:eQ t.rows w t.rA t.rows.length t.rc
theorem yI.ev{w w':ak}{t:TM}(h:yI w t)(hE:Ev w w'):yI w' t:=⟨h.cols.ev hE,h.rows.ev hE⟩
structure tJ(w:ak)(A:Option Addr)(n cap:Nat)(l:List TM):Prop where
 sl:Sl 3 tc w A n cap l
 each:∀t∈l,yI w t
theorem tJ.ev{w w':ak}{A:Option Addr}{n cap:Nat}{l:List TM}(h:tJ w A n cap l)(hE:Ev w w'):tJ w' A n cap l:=⟨h.sl.ev hE,λt ht=>(h.each t ht).ev hE⟩
theorem tJ.cell{w:ak}{A:Option Addr}{n cap:Nat}{l:List TM}(h:tJ w A n cap l){i:Nat}{t:TM}(ht:l[i]?=some t):∃b off,A=some ⟨b,off,none⟩/\b<w.heap.size/\w.cell? ⟨b,off+i*3,none⟩=some ↑t.name/\w.cell? ⟨b,off+i*3+1,none⟩=some (.slice t.cA t.cols.length t.cc)/\w.cell? ⟨b,off+i*3+2,none⟩=some (.slice t.rA t.rows.length t.rc):=by have hi:=(aC6.1 ht).1;have hl:=h.sl.len;obtain⟨b,off,e,hlt,hc⟩:=h.sl.rd ae;exact⟨b,off,e,hlt,hc i t ht 0 _ rfl,hc i t ht 1 _ rfl,hc i t ht 2 _ rfl⟩
def TM.df(t:TM):Df:=(t.name,t.cols)
theorem DX(o:Option Nat):foundAt o=((o.getD 0:Nat):Int):=by cases o<;>rfl
def Bc(n:Nat):Int:=(n:Int)
theorem Vd{cols:List C}{l:List By}{k:Nat}{x:By}(hx:l[k]?=some x):(jM cols (l.take (k+1))).map Bc=(jM cols (l.take k)).map Bc++[foundAt (gZ cols (dV x))]:=by obtain⟨hk,rfl⟩:=aC6.1 hx;unfold jM;rw[aDi hk,aDk,aDk,DX];rfl
structure OSt{α:Type}(et:TypeId)(k:Nat)(enc:α->List au)(w:ak)(v:au)(Z:List α)(wr:ak):Prop where
 own:Ow et k enc w.heap.size wr v Z
 ev:Ev w wr
theorem OSt.up{α:Type}{et:TypeId}{k:Nat}{enc:α->List au}{w wr w1:ak}{v:au}{Z:List α}(h:OSt et k enc w v Z wr)(hE:Ev wr w1):OSt et k enc w v Z w1:=⟨h.own.ev hE,h.ev.trans hE⟩
theorem aHw(h:U:=by
 go_roundw
 case rel=>exact⟨A2,yB,k+1,rfl,by go_num,ae,zq ⟨by rw[HT.out];exact iq.1,E2⟩⟩
 case measure=>simp[intOf];omega):U:=h
theorem aHg(h:U:=by obtain rfl:k=m:=ae;have HT:Hid (l.take k=l):=zq (aDj (by rw[HL.out];exact aC8 _));go_wp2;go_ret;refine⟨_,rfl,?_⟩;have:=HS.out;rwa [HT.out]at this):U:=h
theorem abE{A B:Option Addr}{n cap m cap2:Nat}{cols:List C}{l:List By}(w:ak)(hC:Cs w A n cap cols)(hL:Ss w B m cap2 l)(hm:m<=10000):
  Calls ax 139 #[.slice A n cap,.slice B m cap2] w λe w'=>∃v,e=.returned v/\OSt 3 1 ic w v ((jM cols l).map Bc) w':=by
 have hcl:=hL.le;have hcm:=hL.max;have HL:=zq hL.len;have H:=zq hL;have HF:=zq (λs w1 (hE:Ev w w1)=>yS s w1 (hC.ev hE));clear hL hC;go_enter func139,ntmps139;go_wp2
 go_loopw [5,12] (λav iv wr=>∃(A1:Option Addr) (cap1 k:Nat),av=.slice A1 k cap1/\iv=↑k/\k<=m/\Hid (OSt 3 1 ic w (.slice A1 k cap1) ((jM cols (l.take k)).map Bc) wr)) (λ_ iv _=>m-(intOf iv).toNat)
 case atStart=>exact⟨none,0,0,rfl,rfl,aDl _,zq ⟨Ow.nil_ _,Ev.refl _⟩⟩
 case round=>
  obtain⟨A1,cap1,k,rfl,rfl,hk,HS⟩:=hrel;by_cases hlt:k<m
  ·obtain⟨x,hx⟩:=H.out.at hlt;obtain⟨b,off,rfl,c0⟩:=Ss.PO (H.out.ev HS.out.ev) hx;have HT:=zq (Vd (cols:=cols) hx);have wR:Hid (((jM cols (l.take k)).map Bc).length=k):=zq (by unfold jM;rw[aC_,aC_,aDP,HL.out];omega);have HFX:=zq (HF.out (dV x));obtain⟨z,hz⟩:∃z,z=foundAt (gZ cols (dV x)):=⟨_,rfl⟩
   rw[<-hz]at HT HFX;have i1:(0:Int)<=(k:Int):=ae;have i2:(k:Int)<(m:Int):=ae;clear hx hz;unfold dV at HFX
   go_wp2_with (first
    | ((with_reducible refine(HFX.out _ HS.out.ev).mono ?_);rintro r w1 ⟨rfl,aJ⟩;simp only[];have S1:=zq (HS.out.up aJ))
    | ((show wpList _ _ _ (⟨some 25,_,_,_,_,_⟩::_) _ _);refine aQ (o:=⟨some 25,_,_,_,_,_⟩) rfl 175 (.tmp 22) (.tmp 24) rfl encI underlying175 Tryz.ahC rfl rfl (S1.out.own.ev aC) ↑w1 1 1 [z] rfl (Sl.one (et:=3) encI w1 z _ rfl) (by rw[wR.out];simp;omega) (by rw[wR.out];simp;omega) (S1.out.ev.trans aC).size ?_;intro v2 w2 iq;have E2:Ev w w2:=((But.aU (S1.out.ev.trans aC)).then iq.2.1).ev (λk hk=>(S1.out.own.lt (aG.1 hk)).1);obtain⟨A2,yB,rfl,_,Mc⟩:=iq.1.form encI;clear Mc;generalize qX:(((jM cols (l.take k)).map Bc)++[z]).length=nn at iq|-;have xy:Hid (nn=k+1):=zq (by rw[<-qX,aDd,wR.out];rfl);clear qX;obtain rfl:=xy.out))
   exact aHw
  exact aHg
theorem zF{r:List V}{l:List Nat}{k i:Nat}(hx:l[k]?=some i):dF r (l.take (k+1))=dF r (l.take k)++[jT r i]:=by obtain⟨hk,rfl⟩:=aC6.1 hx;unfold dF;rw[aDi hk,aDk];rfl
theorem Vs.tC{w:ak}{A:Option Addr}{n cap:Nat}{l:List V}(h:Vs w A n cap l){i:Nat}(hi:i<n):∃b off,A=some ⟨b,off,none⟩/\b<w.heap.size/\w.cell? ⟨b,off+i*3,none⟩=some (.int .i64 (jT l i).1)/\w.cell? ⟨b,off+i*3+1,none⟩=some (.int .i64 (jT l i).2.1)/\w.cell? ⟨b,off+i*3+2,none⟩=some (.string (jT l i).2.2):=by
 obtain⟨x,hx⟩:=h.at hi;obtain⟨b,off,e,hlt,hc⟩:=h.rd ae;have e2:jT l i=x:=by unfold jT List.getD;rw[hx];rfl
 rw[e2];exact⟨b,off,e,hlt,hc i x hx 0 _ rfl,hc i x hx 1 _ rfl,hc i x hx 2 _ rfl⟩
theorem Ks.tC{w:ak}{A:Option Addr}{n cap:Nat}{l:List Nat}(h:Ks w A n cap (l.map Bc)){i:Nat}(hi:i<n):∃b off j,A=some ⟨b,off,none⟩/\b<w.heap.size/\l[i]?=some j/\w.cell? ⟨b,off+i,none⟩=some (.int .i64 (j:Int)):=by obtain⟨x,hx⟩:=h.at hi;obtain⟨b,off,e,hlt,hc⟩:=h.rd ae;have hx2:=hx;rw[aDG,aEF]at hx2;obtain⟨j,hj,rfl⟩:=hx2;have:=hc i _ hx 0 _ rfl;rw[aED,aDw]at this;exact⟨b,off,j,e,hlt,hj,this⟩
theorem abG{A B:Option Addr}{n cap m cap2:Nat}{r:List V}{l:List Nat}(w:ak)(hR:Vs w A n cap r)(hL:Ks w B m cap2 (l.map Bc))(hm:m<=10000)(hin:∀i∈l,i<n):
  Calls ax 144 #[.slice A n cap,.slice B m cap2] w λe w'=>∃v,e=.returned v/\OSt 42 3 je w v (dF r l) w':=by
 have hcl:=hL.le;have hcm:=hL.max;have hrl:=hR.le;have hrm:=hR.max;have HL:Hid (l.length=m):=zq (by have:=hL.len;rwa [aC_]at this);have H:=zq hL;have HR:=zq hR;have WS:=zq hin;clear hL hR hin;go_enter func144,ntmps144;go_wp2
 go_loopw [5,10] (λav iv wr=>∃(A1:Option Addr) (cap1 k:Nat),av=.slice A1 k cap1/\iv=↑k/\k<=m/\Hid (OSt 42 3 je w (.slice A1 k cap1) (dF r (l.take k)) wr)) (λ_ iv _=>m-(intOf iv).toNat)
 case atStart=>exact⟨none,0,0,rfl,rfl,aDl _,zq ⟨Ow.nil_ _,Ev.refl _⟩⟩
 case round=>
  obtain⟨A1,cap1,k,rfl,rfl,hk,HS⟩:=hrel;by_cases hlt:k<m
  ·obtain⟨b,off,i,rfl,hb,hx,c0⟩:=Ks.tC (H.out.ev HS.out.ev) hlt;have hi:=WS.out i (aDb hx);obtain⟨b2,jC,rfl,hb2,d0,d1,d2⟩:=Vs.tC (HR.out.ev HS.out.ev) hi;have HT:=zq (zF (r:=r) hx);have wR:Hid ((dF r (l.take k)).length=k):=zq (by unfold dF;rw[aC_,aDP,HL.out];omega);obtain⟨z,hz⟩:∃z,z=jT r i:=⟨_,rfl⟩
   rw[<-hz]at HT d0 d1 d2;have i1:(0:Int)<=(k:Int):=ae;have i2:(k:Int)<(m:Int):=ae;have i3:(0:Int)<=(i:Int):=ae;have i4:(i:Int)<(n:Int):=ae;clear hx hz
   go_wp2_with (first
    | ((show wpList _ _ _ (⟨some 20,_,_,_,_,_⟩::_) _ _);refine aQ (o:=⟨some 20,_,_,_,_,_⟩) rfl 44 (.tmp 14) (.tmp 19) rfl Ll underlying44 Tryz.Po rfl rfl (HS.out.own.ev aC) ↑wr 1 1 [z] rfl (Sl.one (et:=42) Ll wr z _ rfl) (by rw[wR.out];simp;omega) (by rw[wR.out];simp;omega) (HS.out.ev.trans aC).size ?_;intro v2 w2 iq;have E2:Ev w w2:=((But.aU (HS.out.ev.trans aC)).then iq.2.1).ev (λk hk=>(HS.out.own.lt (aG.1 hk)).1);obtain⟨A2,yB,rfl,_,Mc⟩:=iq.1.form Ll;clear Mc;generalize qX:((dF r (l.take k))++[z]).length=nn at iq|-;have xy:Hid (nn=k+1):=zq (by rw[<-qX,aDd,wR.out];rfl);clear qX;obtain rfl:=xy.out))
   exact aHw
  exact aHg
theorem Ov{a b:List V}{l r:List Nat}{k i j:Nat}(hx:l[k]?=some i)(hy:r[k]?=some j)(h:dF a (l.take k)=dF b (r.take k))(e:jT a i=jT b j):dF a (l.take (k+1))=dF b (r.take (k+1)):=by rw[zF hx,zF hy,h,e]
theorem abH{a b:List V}{l r:List Nat}{k i j:Nat}(hx:l[k]?=some i)(hy:r[k]?=some j)(e:jT a i≠jT b j):dF a l≠dF b r:=λh=>by
 have h1:(dF a l)[k]?=some (jT a i):=by unfold dF;rw[aDG,hx];rfl
 have h2:(dF b r)[k]?=some (jT b j):=by unfold dF;rw[aDG,hy];rfl
 rw[h,h2]at h1;exact e (aDp h1).symm
theorem ahU{A B A' B':Option Addr}{n cap m cap2 n' cap' m' ajL:Nat}{a b:List V}{l r:List Nat}(w:ak)(hA:Vs w A n cap a)(hL:Ks w B m cap2 (l.map Bc))(hB:Vs w A' n' cap' b)(hR:Ks w B' m' ajL (r.map Bc))(hlen:m=m')(hin:∀i∈l,i<n)(aoz:∀i∈r,i<n'):
  Calls ax 141 #[.slice A n cap,.slice B m cap2,.slice A' n' cap',.slice B' m' ajL] w λe w'=>e=.returned (.bool (decide (dF a l=dF b r)))/\Ev w w':=by
 subst hlen;have dH:Tryz.prog.follows .mixedOrders=true:=ah;have h1:=hL.le;have h2:=hL.max;have h3:=hA.le;have h4:=hA.max;have h5:=hB.le;have h6:=hB.max;have h7:=hR.le;have h8:=hR.max;have HL:Hid (l.length=m):=zq (by have:=hL.len;rwa [aC_]at this);have HRL:Hid (r.length=m):=zq (by have:=hR.len;rwa [aC_]at this);have HA:=zq hA;have HB:=zq hB;have H:=zq hL;have HR:=zq hR;have WS:=zq hin;have atF:=zq aoz;clear hA hL hB hR hin aoz;go_enter func141,ntmps141;go_wp2
 go_loopw [12] (λiv wr=>∃k:Nat,iv=↑k/\k<=m/\Hid (dF a (l.take k)=dF b (r.take k))/\Hid (Ev w wr)) (λiv _=>m-(intOf iv).toNat)
 case atStart=>exact⟨0,rfl,aDl _,zq rfl,zq aS⟩
 case round=>
  obtain⟨k,rfl,hk,HV,HE⟩:=hrel;by_cases hlt:k<m
  ·obtain⟨bl,ol,i,rfl,hbl,hx,c0⟩:=Ks.tC (H.out.ev HE.out) hlt;obtain⟨br,or_,j,rfl,hbr,hy,d0⟩:=Ks.tC (HR.out.ev HE.out) hlt;have hi:=WS.out i (aDb hx);have hj:=atF.out j (aDb hy);obtain⟨ba,oa,rfl,hba,x0,x1,x2⟩:=Vs.tC (HA.out.ev HE.out) hi;obtain⟨bb,ob,rfl,Zt,y0,y1,y2⟩:=Vs.tC (HB.out.ev HE.out) hj;have HP:=zq (λ(e:jT a i=jT b j)=>Ov hx hy HV.out e);have HN:=zq (λ(e:jT a i≠jT b j)=>abH hx hy e);obtain⟨x,hxx⟩:∃x,x=jT a i:=⟨_,rfl⟩
   obtain⟨y,hyy⟩:∃y,y=jT b j:=⟨_,rfl⟩
   rw[<-hxx,<-hyy]at HP HN;rw[<-hxx]at x0 x1 x2;rw[<-hyy]at y0 y1 y2;have i1:(0:Int)<=(k:Int):=ae;have i2:(k:Int)<(m:Int):=ae;have i3:(0:Int)<=(i:Int):=ae;have i4:(i:Int)<(n:Int):=ae;have i5:(0:Int)<=(j:Int):=ae;have i6:(j:Int)<(n':Int):=ae;clear hx hy hxx hyy;by_cases e:x=y
   ·have hd:oP x.1 x.2.1 x.2.2 y.1 y.2.1 y.2.2=true:=by rw[rM];exact aDE e
    have HP1:=zq (HP.out e);clear e
    go_wp2_with fail
    refine wp_region_quiet_lit ah ah ?_
    repeat (quiet_step (fail))
    refine BigFrame.wpQuiet_want rfl λK hK=>vw rfl rfl rfl (hK _ ?_);refine wpQuiet_nil ?_;rintro _ ⟨nq,rfl⟩;rw[hd];go_wp2;go_roundw
    case rel=>exact⟨k+1,by go_num,ae,HP1,zq (HE.out.trans (Ev.drewN _ _))⟩
    case measure=>simp[intOf];omega
   have hd:oP x.1 x.2.1 x.2.2 y.1 y.2.1 y.2.2=false:=by rw[rM];exact aDB e
   have HN1:=zq (HN.out e);clear e
   go_wp2_with fail
   refine wp_region_quiet_lit ah ah ?_
   repeat (quiet_step (fail))
   refine BigFrame.wpQuiet_want rfl λK hK=>vw rfl rfl rfl (hK _ ?_);refine wpQuiet_nil ?_;rintro _ ⟨nq,rfl⟩;rw[hd];go_wp2;go_ret;exact⟨by rw[aDB HN1.out];rfl,HE.out.trans (Ev.drewN _ _)⟩
  obtain rfl:k=m:=ae;have HT:Hid (dF a l=dF b r):=zq (by
   have:=HV.out;rwa [aDj (by rw[HL.out];exact aC8 _),aDj (by rw[HRL.out];exact aC8 _)]at this)
  go_wp2;go_ret;exact⟨by rw[aDE HT.out];rfl,HE.out⟩
def lV{α:Type}(k:Nat)(enc:α->List au)(n0:Nat)(P:ak->α->Prop)(v:au)(w:ak):Prop:=∃g x,v=.slice (some ⟨g,0,none⟩) 1 1/\n0<=g/\Sl k enc w (some ⟨g,0,none⟩) 1 1 [x]/\P w x
def iY{α:Type}(et:TypeId)(k:Nat)(enc:α->List au)(base:Nat)(v0:au)(w0:ak)(Z:List α)(P:ak->α->Prop)(loc:α->Option Addr)(v:au)(w:ak):Prop:=∃x,Ow et k enc base w v (Z++[x])/\P w x/\dE w0 v0 v/\∀ad,loc x=some ad->ad.block∉foot v
theorem lV.mono{α:Type}{k:Nat}{enc:α->List au}{n0:Nat}{P:ak->α->Prop}(hP:∀w w' x,Ev w w'->P w x->P w' x):kK (lV k enc n0 P):=λv w w' hE ⟨g,x,e,h1,h2,h3⟩=>⟨g,x,e,h1,h2.ev hE,hP _ _ _ hE h3⟩
theorem lV.yu{α:Type}{k:Nat}{enc:α->List au}{n0:Nat}{P:ak->α->Prop}{K:List Nat}(hK:∀k∈K,k<n0)(hP:∀w w' x,But K w w'->P w x->P w' x):J4 K (lV k enc n0 P):=λv w w' hB ⟨g,x,e,h1,h2,h3⟩=>⟨g,x,e,h1,h2.but hB λad ea hm=>by cases ea;have h5:g<n0:=hK _ hm;omega,hP _ _ _ hB h3⟩
theorem iY.mono{α:Type}{et:TypeId}{k:Nat}{enc:α->List au}{base:Nat}{v0:au}{w0:ak}{Z:List α}{P:ak->α->Prop}{loc:α->Option Addr}(hP:∀w w' x,Ev w w'->P w x->P w' x):kK (iY et k enc base v0 w0 Z P loc):=λv w w' hE ⟨x,h1,h2,h3,h4⟩=>⟨x,h1.ev hE,hP _ _ _ hE h2,h3,h4⟩
theorem lV.append{α:Type}{et:TypeId}{k:Nat}{enc:α->List au}{n0 base:Nat}{w0 w:ak}{P:ak->α->Prop}{loc:α->Option Addr}{v0 x:au}{Z:List α}(h:lV k enc n0 P x w)(E:Enc k enc)(T ty:TypeId)(ht:Tryz.prog.underlying T=some (.slice et)){zero:au}{bytes:Nat}(hi:(Tryz.prog.info? et).map (λi=>(i.zero,i.size,i.bytes))=some (some zero,k,bytes))(hz:zero.cells.size=k)
  (hE:Ev w0 w) (hown:Ow et k enc base w0 v0 Z) (hn:n0=w0.heap.size) (hP:∀w w' x,But (foot v0) w w'->P w x->P w' x) (hloc:∀w x ad,P w x->loc x=some ad->n0<=ad.block/\ad.block<w.heap.size) (hbytes:(Z.length+1)*bytes<=140737488355328) (hsm:Z.length+1<=1000000000) (hbase:base<=w.heap.size):
  ∃v' w',(Builtin.append_ #[T,T] ty #[v0,x]).run ax w=.ok v' w'/\iY et k enc base v0 w0 Z P loc v' w'/\But (foot v0) w w':=by
 obtain⟨g,y,rfl,hg,hS,hy⟩:=h;obtain⟨v',w',hr,ho,hb,hs,_⟩:=ja (P:=ax) E T ty ht hi hz (hown.ev hE) ↑g 1 1 [y] hS hbytes hsm hbase;refine⟨v',w',hr,⟨y,ho,hP _ _ _ hb hy,λq hq=>?_,λad ea hm=>?_⟩,hb⟩;rcases hs q hq with h1|h1;exact .inl h1;exact .inr (aDr hE.size h1);obtain⟨h1,h2⟩:=hloc _ _ _ hy ea;rcases hs _ (aG.1 hm) with h3|h3;have:=(hown.lt h3).2;omega;omega
def uY(n0:Nat)(cols:List C)(v:au)(w:ak):Prop:=∃A cap,v=.slice A cols.length cap/\Cs w A cols.length cap cols/\∀ad,A=some ad->n0<=ad.block/\ad.block<w.heap.size
theorem uY.mono(n0:Nat)(cols:List C):kK (uY n0 cols):=λv w w' hE ⟨A,cap,e,h1,h2⟩=>⟨A,cap,e,h1.ev hE,λad ea=>⟨(h2 ad ea).1,aDf (h2 ad ea).2 hE.size⟩⟩
theorem uY.yu{n0:Nat}(cols:List C){K:List Nat}(hK:∀k∈K,k<n0):J4 K (uY n0 cols):=λv w w' hB ⟨A,cap,e,h1,h2⟩=>⟨A,cap,e,h1.but hB (λad ea hm=>by have:=hK _ hm;have:=(h2 ad ea).1;omega),λad ea=>⟨(h2 ad ea).1,aDf (h2 ad ea).2 hB.size⟩⟩
def zO(n0:Nat)(nm:By)(cols:List C)(v:au)(w:ak):Prop:=∃A cap,v=.agg #[↑nm,.slice A cols.length cap]/\Cs w A cols.length cap cols/\∀ad,A=some ad->n0<=ad.block/\ad.block<w.heap.size
theorem zO.mono(n0:Nat)(nm:By)(cols:List C):kK (zO n0 nm cols):=λv w w' hE ⟨A,cap,e,h1,h2⟩=>⟨A,cap,e,h1.ev hE,λad ea=>⟨(h2 ad ea).1,aDf (h2 ad ea).2 hE.size⟩⟩
theorem zO.yu{n0:Nat}(nm:By)(cols:List C){K:List Nat}(hK:∀k∈K,k<n0):J4 K (zO n0 nm cols):=λv w w' hB ⟨A,cap,e,h1,h2⟩=>⟨A,cap,e,h1.but hB (λad ea hm=>by have:=hK _ hm;have:=(h2 ad ea).1;omega),λad ea=>⟨(h2 ad ea).1,aDf (h2 ad ea).2 hB.size⟩⟩
def qG(n0:Nat)(nm:By)(cols:List C)(w:ak)(d:DM):Prop:=d.df=(nm,cols)/\Cs w d.A d.cols.length d.cap d.cols/\∀ad,d.A=some ad->n0<=ad.block/\ad.block<w.heap.size
theorem qG.ev{n0:Nat}{nm:By}{cols:List C}(w w':ak)(d:DM)(hE:Ev w w')(h:qG n0 nm cols w d):qG n0 nm cols w' d:=⟨h.1,h.2.1.ev hE,λad ea=>⟨(h.2.2 ad ea).1,aDf (h.2.2 ad ea).2 hE.size⟩⟩
theorem qG.but{n0:Nat}{nm:By}{cols:List C}{K:List Nat}(hK:∀k∈K,k<n0)(w w':ak)(d:DM)(hB:But K w w')(h:qG n0 nm cols w d):qG n0 nm cols w' d:=⟨h.1,h.2.1.but hB (λad ea hm=>by have:=hK _ hm;have:=(h.2.2 ad ea).1;omega),λad ea=>⟨(h.2.2 ad ea).1,aDf (h.2.2 ad ea).2 hB.size⟩⟩
theorem Tryz.aia:(Tryz.prog.info? 97).map (λi=>(i.zero,i.size,i.bytes))=some (some (.agg #[.string ⟨#[]⟩,↑()]),2,40):=ah
structure aib(w:ak)(v:au)(L:List Df)(Z:List DM)(wr:ak):Prop where
 own:Ow 97 2 dc w.heap.size wr v Z
 df:Z.map DM.df=L
 cols:∀d∈Z,Cs wr d.A d.cols.length d.cap d.cols/\∀ad,d.A=some ad->w.heap.size<=ad.block/\ad.block<wr.heap.size/\ad.block∉foot v
 ev:Ev w wr
theorem aGw(h:U:=by refine⟨(a1.ev hE).but hb λad ea hm=>(a2 ad ea).2.2 hm,λad ea=>⟨(a2 ad ea).1,aDf (a2 ad ea).2.1 (aDr hE.size hb.size),λhm=>?_⟩⟩;rcases hv2 _ hm with h5|h5;exact(a2 ad ea).2.2 h5;have:=(a2 ad ea).2.1;have:=hE.size;omega):U:=h
theorem aib.next{w wr wp w2:ak}{v v2:au}{L:List Df}{Z:List DM}{nm:By}{cols:List C}(h:aib w v L Z wr)(hE:Ev wr wp)(hb:But (foot v) wp w2)(hG:iY 97 2 dc w.heap.size v wp Z (qG wp.heap.size nm cols) DM.A v2 w2):∃d,aib w v2 (L++[(nm,cols)]) (Z++[d]) w2:=by obtain⟨d,ho,⟨h1,h2,h3⟩,hs,h4⟩:=hG;have hv2:∀k∈foot v2,k∈foot v∨wp.heap.size<=k:=λk hk=>(hs k (aG.1 hk)).imp (λe=>aG.2 e) id;refine⟨d,ho,by rw[aDk,h.df,aDe,aDu,h1],λx hx=>?_,?_⟩;rcases aDm.1 hx with hx|hx;obtain⟨a1,a2⟩:=h.cols x hx;exact aGw;rw[aDM.1 hx];exact⟨h2,λad ea=>⟨by have:=(h3 ad ea).1;have:=hE.size;have:=h.ev.size;omega,(h3 ad ea).2,h4 ad ea⟩⟩;exact((But.aU (h.ev.trans hE)).then hb).ev λk hk=>(h.own.lt (aG.1 hk)).1
theorem R_(w:ak)(t:TM):∃w0,w.alloc (.cells #[.string ⟨t.name.toArray⟩,.slice t.cA t.cols.length t.cc,.slice t.rA t.rows.length t.rc] 40)=w0/\Ev w w0/\Bx 40 w.heap.size #[.string ⟨t.name.toArray⟩,.slice t.cA t.cols.length t.cc,.slice t.rA t.rows.length t.rc] w0/\w0.heap.size=w.heap.size+1:=⟨_,rfl,Ev.alloc _ _,Bx.new _ _ _,aj⟩
def Jz(L:List Df)(w:ak)(e:Ending)(w':ak):Prop:=∃(D:List DM) (A:Option Addr) (n cap:Nat),e=.returned (.slice A n cap)/\yH w' A n cap D/\D.map DM.df=L/\(∀ad,A=some ad->ad=⟨ad.block,0,none⟩)/\Ev w w'
theorem aHV(h:U:=by
 have bn:a.eval (.tmp 5)=.pointer ↑bx:=(c.was 5 rfl)
 generalize a.eval=ρ at bn|-;simp[execOp,bn,go_sem]):U:=h
theorem aHA(h:U:=by refine⟨(ay rfl),v_,w_,?_,jh.self hT_,hG_⟩;unfold execOp;simp only[resolve,invoke,builtin,aFa,aFb,aFc,aD1,aDe,aDu,bn,hr_]):U:=h
theorem Si{A:Option Addr}{n cap:Nat}{l:List TM}(w:ak)(h:tJ w A n cap l)(hn:n<=1000)(hc:∀t∈l,t.cols.length<=1000/\0<t.cols.length):
  Calls ax 22 #[.slice A n cap] w (Jz (l.map TM.df) w):=by
 have dH:Tryz.prog.follows .mixedOrders=true:=ah;have hcl:=h.sl.le;have hcm:=h.sl.max;have HL:=zq h.sl.len;have H:=zq h;have HC:=zq hc;unfold Jz;clear h hc;go_enter func22,ntmps22;go_wp2
 go_loopw [3,8] (λav iv wr=>∃(A1:Option Addr) (cap1 k:Nat) (Z:List DM),av=.slice A1 k cap1/\iv=↑k/\k<=n/\Hid (Z.length=k)/\Hid (aib w (.slice A1 k cap1) ((l.take k).map TM.df) Z wr)) (λ_ iv _=>n-(intOf iv).toNat)
 case atStart=>exact⟨none,0,0,[],rfl,rfl,aDl _,zq rfl,zq ⟨Ow.nil_ _,rfl,(λd hd=>by cases hd),Ev.refl _⟩⟩
 case round=>
  obtain⟨A1,cap1,k,Z,rfl,rfl,hk,OI,HS⟩:=hrel;by_cases hlt:k<n
  ·obtain⟨t,ht⟩:=H.out.sl.at hlt;obtain⟨b,off,rfl,hb,c0,c1,c2⟩:=(H.out.ev HS.out.ev).cell ht;obtain⟨wx,hwx,qV,hX,hsx⟩:=R_ wr t;have htm:=aDb ht;have HT:Hid ((l.take (k+1)).map TM.df=(l.take k).map TM.df++[(t.name,t.cols)]):=zq (by
    obtain⟨hk2,e1⟩:=aC6.1 ht;rw[aDi hk2,e1,aDk];rfl)
   have hcw:=((H.out.each t htm).ev (HS.out.ev.trans qV)).cols;have hfk:∀q∈foot (.slice A1 k cap1),w.heap.size<=q/\q<wr.heap.size:=λq hq=>HS.out.own.lt (aG.1 hq);have HKW:Hid (∀q∈foot (.slice A1 k cap1),q<wx.heap.size):=zq λq hq=>aDf (hfk q hq).2 qV.size;have hcb:∀ad,t.cA=some ad->ad.block<w.heap.size:=λad ea=>by have h1:=(H.out.each t htm).cols;obtain⟨b9,o9,e9,h9,_⟩:=h1.rd (HC.out t htm).2;rw[ea]at e9;obtain rfl:=aDp e9;exact h9
   have HCL:=zq (λw1 (hB:But (foot (.slice A1 k cap1)) wx w1)=>Nk w1 (hcw.but hB λad ea hm=>by have:=hcb ad ea;have:=(hfk _ hm).1;omega) (by have:=(HC.out t htm).1;omega) (HC.out t htm).2);obtain⟨bx,Gx⟩:∃bx,bx=wr.heap.size:=⟨_,rfl⟩
   rw[<-Gx]at hX;have HX:=zq hX;have ZT:Hid (bx∉foot (.slice A1 k cap1)):=zq λhm=>by have:=(hfk _ hm).2;omega
   have YI:=zq (HS.out.own.ev qV);have Kw:Hid ((Z.length+1)*40<=140737488355328/\Z.length+1<=1000000000):=zq (by rw[OI.out];omega);have HSW:Hid (w.heap.size<=wx.heap.size):=zq (HS.out.ev.trans qV).size;have Jt:=zq qV;have i1:(0:Int)<=(k:Int):=ae;have i2:(k:Int)<(n:Int):=ae;clear ht htm hcw hfk hcb hX qV hsx;go_upto_region 5 with fail
   rw[<-Gx];refine jb dH (foot (.slice A1 k cap1)) 8 [λv _=>v=.slice A1 k cap1,λv _=>v=.pointer ↑bx,λv _=>v=↑t.name,λv _=>v=.pointer (some ⟨bx,1,none⟩),λv _=>v=.slice t.cA t.cols.length t.cc,uY wx.heap.size t.cols,zO wx.heap.size t.name t.cols,lV 2 dc wx.heap.size (qG wx.heap.size t.name t.cols),iY 97 2 dc w.heap.size (.slice A1 k cap1) wx Z (qG wx.heap.size t.name t.cols) DM.A,iY 97 2 dc w.heap.size (.slice A1 k cap1) wx Z (qG wx.heap.size t.name t.cols) DM.A]
    23 rfl ah ⟨aB _,aB _,aB _,aB _,aB _,uY.mono _ _,zO.mono _ _ _,lV.mono qG.ev,iY.mono qG.ev,iY.mono qG.ev,trivial⟩ ⟨.inr (.inr (cu _ _)),.inr (.inr (cu _ _)),.inr (.inr (cu _ _)),.inr (.inr (cu _ _)),.inr (.inr (cu _ _)),.inr (.inr (uY.yu _ HKW.out)),.inr (.inr (zO.yu _ _ HKW.out)),.inr (.inr (lV.yu HKW.out (qG.but HKW.out))),.inl rfl,.inr (.inl ah),trivial⟩ ?_ ?_
   ·refine az 0 ?_ (az 1 ?_ (az 2 ?_ (az 3 ?_ (az 4 ?_ (az 5 ?_ (az 6 ?_ (az 7 ?_ (az 8 ?_ (az 9 ?_ (eY 10))))))))));refine bF λa wq c=>⟨(ay rfl),_,run_move _ rfl wq,(c.was 3 rfl)⟩
    refine bF λa wq c=>⟨(ay rfl),.pointer ↑bx,?_,rfl⟩
    exact aHV
    ·refine bF λa wq c=>⟨(ay rfl),↑t.name,?_,rfl⟩
     have bn:a.eval (.tmp 13)=.pointer ↑bx:=(c.new 1 13)
     have hc:=(HX.out.but c.but ZT.out).cell 0;generalize a.eval=ρ at bn|-;simp[execOp,bn,go_sem,hc]
    refine bF λa wq c=>⟨(ay rfl),.pointer (some ⟨bx,1,none⟩),?_,rfl⟩
    exact aHV
    ·refine bF λa wq c=>⟨(ay rfl),.slice t.cA t.cols.length t.cc,?_,rfl⟩
     have bn:a.eval (.tmp 15)=.pointer (some ⟨bx,1,none⟩):=(c.new 3 15)
     have hc:=(HX.out.but c.but ZT.out).cell 1;generalize a.eval=ρ at bn|-;simp[execOp,bn,go_sem,hc]
    refine Dt λa wq c=>⟨(ay rfl),42,#[.slice t.cA t.cols.length t.cc],?_,?_⟩
    rw[bK 42 _ _ rfl ah];have bn:a.eval (.tmp 16)=.slice t.cA t.cols.length t.cc:=(c.new 4 16)
    simp[bn];refine(HCL.out wq c.but).mono ?_;rintro e wp ⟨v,rfl,hO,hE⟩;refine⟨v,rfl,jh.aU hE,?_⟩;obtain⟨A5,cap5,rfl,hS5,hA5⟩:=hO.form rD;exact⟨A5,cap5,rfl,hS5,λad ea=>⟨aDr c.but.size (hA5 ad ea).2.1,(hA5 ad ea).2.2.1⟩⟩
    ·refine bF λa wq c=>?_;have bn:a.eval (.tmp 14)=↑t.name:=(c.new 2 14)
     obtain⟨A5,cap5,jk,hS5,hA5⟩:=((c.new 5 17):uY wx.heap.size t.cols (a.eval (.tmp 17)) wq)
     refine⟨(ay rfl),.agg #[↑t.name,.slice A5 t.cols.length cap5],?_,A5,cap5,rfl,hS5,hA5⟩;generalize a.eval=ρ at bn jk|-;simp[execOp,bn,jk,go_sem]
    ·refine lh λa wq c=>?_;obtain⟨A5,cap5,bn,hS5,hA5⟩:=((c.new 6 18):zO wx.heap.size t.name t.cols (a.eval (.tmp 18)) wq)
     refine⟨(ay rfl),.slice ↑wq 1 1,wq.alloc (.cells #[↑t.name,.slice A5 t.cols.length cap5] 97),?_,jh.aU aC,wq.heap.size,⟨t.name,A5,cap5,t.cols⟩,rfl,c.but.size,Sl.one (et:=97) ahT wq _ _ rfl,rfl,hS5.ev aC,λad ea=>⟨(hA5 ad ea).1,aDf (hA5 ad ea).2 aC.size⟩⟩;generalize a.eval=ρ at bn|-;simp[execOp,bn,go_sem]
    refine lh λa wq c=>?_;have bn:a.eval (.tmp 12)=.slice A1 k cap1:=(c.new 0 12)
    have hO_:lV 2 dc wx.heap.size (qG wx.heap.size t.name t.cols) (a.eval (.tmp 19)) wq:=(c.new 7 19)
    obtain⟨v_,w_,hr_,hG_,hT_⟩:=hO_.append (loc:=DM.A) ahT 62 62 underlying62 Tryz.aia rfl (c.evm rfl) YI.out rfl (qG.but HKW.out) (λw1 x1 ad h1 ea=>h1.2.2 ad ea) Kw.out.1 Kw.out.2 (aDr HSW.out c.but.size);exact aHA;refine bF λa wq c=>⟨(ay rfl),_,run_assign _ rfl wq,((c.new 8 20))⟩
   intro s w5 hB hold hnew;have hG:iY 97 2 dc w.heap.size (.slice A1 k cap1) wx Z (qG wx.heap.size t.name t.cols) DM.A (s 3) w5:=hnew 9 3;have f0:s 0=.slice ↑(b,off) n cap:=hold 0;have f1:_=undef:=hold 1;have f2:s 2=↑():=hold 2;have f4:_=undef:=hold 4;have f6:s 6=.slice ↑(b,off) n cap:=hold 6;have f7:s 7=↑n:=hold 7;have f8:s 8=↑k:=hold 8;have f22:_=undef:=hold 22;change Exit.inBlock _ _ .normal ⟨#[s 0,s 1,s 2,s 3,s 4,s 5,s 6,s 7,s 8,s 9,s 10,s 11,s 12,s 13,s 14,s 15,s 16,s 17,s 18,s 19,s 20,s 21,s 22],_⟩ _;simp only[f0,f1,f2,f4,f6,f7,f8,f22];clear hold hnew;generalize s 5=u5_,s 9=u9_,s 10=ab1,s 11=ab2,s 12=YJ,s 13=ab3,s 14=YK,s 15=Vh,s 16=Vj,s 17=X5,s 18=X6,s 19=X7,s 20=Vk,s 21=Vl;obtain⟨d,HD2⟩:=HS.out.next Jt.out hB hG
   obtain⟨A2,yB,hv2,_,_⟩:=HD2.own.form ahT;generalize s 3=v3 at*;subst hv2;have HD3:=zq HD2;have HZ2:Hid ((Z++[d]).length=k+1):=zq (by rw[aDd,OI.out];rfl);rw[HZ2.out]at HD3;clear hG HD2 hB;go_wp2;rw[HZ2.out];go_roundw
   case rel=>exact⟨A2,yB,k+1,Z++[d],rfl,by go_num,ae,HZ2,zq (by rw[HT.out];exact HD3.out)⟩
   case measure=>simp[intOf];omega
  obtain rfl:k=n:=ae;have HT:Hid (l.take k=l):=zq (aDj (by rw[HL.out];exact aC8 _));go_wp2;go_ret;have hS:=HS.out;rw[HT.out]at hS;obtain⟨A2,yB,hv2,auc,iq⟩:=hS.own.form ahT;injection hv2 with e1 e2 e3
  subst e1 e3;refine⟨Z,A1,k,cap1,rfl,⟨by have:=auc;rwa [OI.out]at this,λd hd=>(hS.cols d hd).1⟩,hS.df,λad ea=>(iq ad ea).2.2.2.1,hS.ev⟩
end Go.Proofs.YtbgmhhfjkkfhpaaGreatDoor
