import Derived.Test.YtbgmhhfjkkfhpaaGreatDoorZ8G
import Derived.Test.YtbgmhhfjkkfhpaaGreatDoorZ3G
set_option linter.unusedVariables false
set_option maxRecDepth 100000
set_option maxHeartbeats 64000000
namespace Go.Proofs.YtbgmhhfjkkfhpaaGreatDoor
open Go.RowKit
open Go renaming World → ak
open Go renaming Value → au
open Go.Proofs.Tryz renaming prog → ax
abbrev I:=List V×Int×Int
abbrev J:=(Option Addr×Nat×Nat)×I
def wX(x:I):List V:=x.1
def gz(x:J):List V:=x.2.1
def nK(x:J):au:=.slice x.1.1 x.1.2.1 x.1.2.2
def nP(x:J):au:=.complex .f64 (fl x.2.2.1) (fl x.2.2.2)
def eu(x:J):List au:=[nK x,nP x]
def jv(x:J):au:=.agg #[nK x,nP x]
abbrev Js:=Sl 2 eu
theorem Sl.adm{α:Type}{k:Nat}{enc:α->List au}{b0:Nat}{w w':ak}{A:Option Addr}{n cap:Nat}{l:List α}(h:Sl k enc w A n cap l)(hb:Below b0 w w')(hA:∀ad,A=some ad->ad.block<b0):Sl k enc w' A n cap l:=
 ⟨h.len,h.le,h.max,h.nil,λhn=>by
  obtain⟨b,off,e,hlt,hc⟩:=h.rd hn;have h0:=hA _ e;exact⟨b,off,e,aDf hlt hb.size,λi x hx j u hu=>(hb.cell (p:=⟨b,off+i*k+j,none⟩) h0).trans (hc i x hx j u hu)⟩⟩
def kM(s:Nat)(A:Option Addr)(cap k:Nat):Option Addr:=if cap=k then A else Option.map (λx=>x.add (k*s)) A
theorem Sl.from_{α:Type}{k:Nat}{enc:α->List au}{w:ak}{A:Option Addr}{n cap:Nat}{l:List α}(h:Sl k enc w A n cap l){j:Nat}(hj:j<=n):Sl k enc w (kM k A cap j) (n-j) (cap-j) (l.drop j):=
 ⟨by rw[aDD,h.len],by have:=h.le;omega,by have:=h.max;omega,
  λe=>by
  have:=h.le;unfold kM at e;split at e;omega;have:=h.nil (by simpa using e);omega,
  λh0=>by
  obtain⟨b,off,rfl,hlt,hc⟩:=h.rd ae;have:=h.le;unfold kM;rw[if_neg ae];refine⟨b,off+j*k,by rw[Option.map_some,aE9],hlt,λi x hx q u hu=>?_⟩;have hx':l[j+i]?=some x:=by rw[<-hx,aES]
  have:=hc (j+i) x hx' q u hu;rwa [aEv,<-Nat.add_assoc]at this⟩
def mP(b0:Nat)(w:ak)(z:J):Prop:=Vs w z.1.1 z.1.2.1 z.1.2.2 z.2.1/\∀ad,z.1.1=some ad->ad.block<b0
theorem mP.below{b0:Nat}{w w':ak}{z:J}(h:mP b0 w z)(hb:Below b0 w w'):mP b0 w' z:=⟨h.1.adm hb h.2,h.2⟩
structure Zs(b0:Nat)(w:ak)(A:Option Addr)(n cap:Nat)(Z:List J):Prop where
 js:Js w A n cap Z
 rows:∀z∈Z,mP b0 w z
 low:∀ad,A=some ad->ad.block<b0
 base:b0<=w.heap.size
section
variable {b0:Nat} {w w':ak} {A:Option Addr} {n cap:Nat} {Z:List J}
theorem Zs.below(h:Zs b0 w A n cap Z)(hb:Below b0 w w'):Zs b0 w' A n cap Z:=
 ⟨h.js.adm hb h.low,λz hz=>(h.rows z hz).below hb,h.low,aDr h.base hb.size⟩
theorem Zs.ev(h:Zs b0 w A n cap Z)(hb:Ev w w'):Zs b0 w' A n cap Z:=h.below (Below.mono hb h.base)
theorem Zs.wide{b1:Nat}(h:Zs b0 w A n cap Z)(h1:b0<=b1)(h2:b1<=w.heap.size):Zs b1 w A n cap Z:=
 ⟨h.js,λz hz=>⟨(h.rows z hz).1,λad e=>aDf ((h.rows z hz).2 ad e) h1⟩,λad e=>aDf (h.low ad e) h1,h2⟩
theorem Zs.to(h:Zs b0 w A n cap Z)(k:Nat)(hk:k<=n):Zs b0 w A k cap (Z.take k):=
 ⟨h.js.to k hk,λz hz=>h.rows z (aD2 hz),h.low,h.base⟩
theorem Zs.from_(h:Zs b0 w A n cap Z){k:Nat}(hk:k<=n):Zs b0 w (kM 2 A cap k) (n-k) (cap-k) (Z.drop k):=
 ⟨h.js.from_ hk,λz hz=>h.rows z (aEm hz),λad e=>by
  unfold kM at e;split at e;exact h.low ad e;obtain⟨x,hx,rfl⟩:=aEF.1 e;have hxb:(x.add (k*2)).block=x.block:=by unfold Addr.add;split<;>rfl
  rw[hxb];exact h.low x hx,h.base⟩
theorem Zs.nil_(h:b0<=w.heap.size):Zs b0 w none 0 0 []:=⟨Sl.nil_ w,λ_ h=>(by cases h),λ_ e=>(by cases e),h⟩
theorem Zs.len(h:Zs b0 w A n cap Z):Z.length=n:=h.js.len
theorem Zs.le(h:Zs b0 w A n cap Z):n<=cap:=h.js.le
theorem Zs.max(h:Zs b0 w A n cap Z):cap<=9223372036854775807:=h.js.max
theorem Zs.at(h:Zs b0 w A n cap Z){i:Nat}(hi:i<n):
  ∃b off z,A=some ⟨b,off,none⟩/\b<w.heap.size/\b<b0/\Z[i]?=some z/\w.cell? ⟨b,off+i*2,none⟩=some (nK z)/\w.cell? ⟨b,off+i*2+1,none⟩=some (nP z)/\Vs w z.1.1 z.1.2.1 z.1.2.2 z.2.1:=by
 obtain⟨x,hx⟩:=h.js.at hi;obtain⟨b,off,e,hlt,hc⟩:=h.js.rd ae;exact⟨b,off,x,e,hlt,h.low _ e,hx,hc i x hx 0 _ rfl,hc i x hx 1 _ rfl,(h.rows x (aDb hx)).1⟩
end
theorem pW{ρ:Operand->au}{o:Oper}{x:Operand}{A:Option Addr}{n cap:Nat}(ho:o.op=.call {callee:=.builtin .len,args:=#[x],argTypes:=#[25]})(h:ρ x=.slice A n cap)(w:ak):
  (execOp ρ o).run ax w=.ok (.value ↑n) w:=by
 unfold execOp;rw[ho];simp[h,go_sem]
theorem yR{ρ:Operand->au}{o:Oper}{x:Operand}{A:Option Addr}{n cap:Nat}(k:Nat){c:Operand}(ho:o.op=.slice 25 x (some c) none none)(h:ρ x=.slice A n cap)(hc:ρ c=↑k)(h0:0<k)(hk:k<=n)(w:ak):
  (execOp ρ o).run ax w=.ok (.value (.slice (kM 2 A cap k) (n-k) (cap-k))) w:=by
 have h1:(k:Int)<=(n:Int):=ae;have h2:(0:Int)<=(k:Int):=ae;have ht:Tryz.prog.underlying 25=some (.slice (Tryz.prog.elem 25)):=ah;have hs:(sizeOf (Tryz.prog.elem 25)).run ax w=.ok 2 w:=ah;unfold execOp;rw[ho];simp[h,hc,run_sliceAt_slice w 25 _ _ _ _ ht,run_slice_l w 25 A n cap ht .i64 (k:Int) h2 h1,hs,Result.andThen,sliced,kM]
theorem QH{ρ:Operand->au}{o:Oper}{x:Operand}{A:Option Addr}{n cap:Nat}(k:Nat){c:Operand}(ho:o.op=.slice 25 x none (some c) none)(h:ρ x=.slice A n cap)(hc:ρ c=↑k)(hk:k<=cap)(w:ak):
  (execOp ρ o).run ax w=.ok (.value (.slice A k cap)) w:=by
 have h1:(k:Int)<=(cap:Int):=ae;have h2:(0:Int)<=(k:Int):=ae;have ht:Tryz.prog.underlying 25=some (.slice (Tryz.prog.elem 25)):=ah;have hs:(sizeOf (Tryz.prog.elem 25)).run ax w=.ok 2 w:=ah;unfold execOp;rw[ho];simp[h,hc,run_sliceAt_slice w 25 _ _ _ _ ht,run_slice_h w 25 A n cap ht .i64 (k:Int) h2 h1,hs,Result.andThen,sliced,Addr.add]
theorem Bl{ρ:Operand->au}{o:Oper}{x:Operand}{b off:Nat}{z:J}{w:ak}(ho:o.op=.load 47 x)(hx:ρ x=.pointer ↑(b,off))
  (c0:w.cell? ⟨b,off,none⟩=some (nK z)) (c1:w.cell? ⟨b,off+1,none⟩=some (nP z)):
  (execOp ρ o).run ax w=.ok (.value (jv z)) w:=by
 unfold execOp;rw[ho];simp[hx,go_sem,c0,c1];rfl
def l9(l:List J):List au:=l.flatMap eu
theorem QI(l:List J):(l9 l).length=l.length*2:=by
 induction l with
 | nil=>rfl
 | cons x l ih=>
  have:(l9 (x::l)).length=2+(l9 l).length:=by simp[l9,eu];omega
  rw[this,ih,aDh];omega
theorem QJ(l m:List J):l9 (l++m)=l9 l++l9 m:=by simp[l9]
theorem O8:∀(l:List J) (i:Nat) (x:J),l[i]?=some x->∀j u,(eu x)[j]?=some u->(l9 l)[i*2+j]?=some u
 | [],_,_,h,_,_,_=>by simp at h
 | y::l,0,x,h,j,u,hu=>by simp at h;subst h;have hj:j<2:=(aC6.1 hu).1;have e:l9 (y::l)=eu y++l9 l:=rfl;rw[e,aDH,aDt,aD9 (by simpa[eu] using hj)];exact hu
 | y::l,i+1,x,h,j,u,hu=>by have e:l9 (y::l)=eu y++l9 l:=rfl;have hl:(eu y).length=2:=rfl;rw[e,aEe (by rw[hl];omega),hl,show (i+1)*2+j-2=i*2+j by omega];exact O8 l i x (by simpa using h) j u hu
theorem Ko:∀(l:List J) (q:Nat) (u:au),(l9 l)[q]?=some u->∃x,l[q / 2]?=some x/\(eu x)[q % 2]?=some u
 | [],q,u,h=>by simp[l9]at h
 | y::l,q,u,h=>by have e:l9 (y::l)=eu y++l9 l:=rfl;have hl:(eu y).length=2:=rfl;rw[e]at h;by_cases hq:q<2;exact aHO;rw[aEe (by rw[hl];omega),hl]at h;obtain⟨x,h1,h2⟩:=Ko l (q-2) u h;refine⟨x,?_,?_⟩;rw[show q / 2=(q-2) / 2+1 by omega];simpa using h1;rw[show q % 2=(q-2) % 2 by omega];exact h2
theorem aaO(l:List J):∀u∈l9 l,u.oneCell'=true:=by intro u hu;obtain⟨x,_,hx⟩:=aEh.1 hu;simp[eu]at hx;rcases hx with rfl|rfl<;>rfl
structure o_(w:ak)(v:au)(Z:List J):Prop where
 own:w.ownsRow 0 47 2 v Z.length (l9 Z)
 rows:∀z∈Z,Vs w z.1.1 z.1.2.1 z.1.2.2 z.2.1/\∀ad,z.1.1=some ad->ad.block<w.heap.size/\v.ownBlock≠some ad.block
theorem o_.nil_(w:ak):o_ w ↑() []:=⟨aE_ _ _ _ _,λ_ h=>by cases h⟩
theorem o_.but{K:List Nat}{w w':ak}{v:au}{Z:List J}(h:o_ w v Z)(hb:But K w w')(hn:∀g,v.ownBlock=some g->g∉K)(hz:∀z∈Z,∀ad,z.1.1=some ad->ad.block∉K):o_ w' v Z:=by
 refine⟨⟨h.own.1,?_⟩,λz hzz=>⟨(h.rows z hzz).1.but hb (hz z hzz),λad e=>⟨aDf ((h.rows z hzz).2 ad e).1 hb.size,((h.rows z hzz).2 ad e).2⟩⟩⟩;rcases h.own.2 with h2|⟨g,cap,cur,rfl,hg,hh,r⟩
 exact .inl h2;exact .inr ⟨g,cap,cur,rfl,hg,hb.heap hh (hn g rfl),r⟩
theorem o_.ev{w w':ak}{v:au}{Z:List J}(h:o_ w v Z)(hb:Ev w w'):o_ w' v Z:=h.but (But.aU (K:=[]) hb) (λ_ _=>by simp) (λ_ _ _ _=>by simp)
theorem o_.lt{w:ak}{v:au}{Z:List J}(h:o_ w v Z){g:Nat}(hg:v.ownBlock=some g):g<w.heap.size:=(World.ownsRow.lt h.own g hg).2
theorem o_.form{w:ak}{v:au}{Z:List J}(h:o_ w v Z):∃A cap,v=.slice A Z.length cap/\Zs w.heap.size w A Z.length cap Z/\(∀ad,A=some ad->v.ownBlock=some ad.block):=by
 rcases h.own.2 with⟨rfl,hn⟩|⟨g,cap,cur,rfl,hb,hg,AU,hcm,hcs,ht⟩
 have hl:Z=[]:=aDv hn;subst hl;exact⟨none,0,rfl,Zs.nil_ (aC8 _),aj⟩;refine⟨_,_,rfl,⟨⟨rfl,AU,by simpa[maxLen] using hcm,aj,λh0=>⟨g,0,rfl,(aDa.1 hg).1,λi x hx j u hu=>?_⟩⟩,λz hz=>⟨(h.rows z hz).1,λad e=>((h.rows z hz).2 ad e).1⟩,?_,aC8 _⟩,by rintro ad ⟨⟩;rfl⟩;have hi:=(aC6.1 hx).1;have hj:j<2:=(aC6.1 hu).1;have:=World.ownsRow.cellAt h.own (i*2+j) ae;rw[aDt,this];exact O8 Z i x hx j u hu;rintro ad ⟨⟩;exact(aDa.1 hg).1
theorem Tryz.kY:(Tryz.prog.info? 47).map (λi=>(i.zero,i.size,i.bytes))=some (some (.agg #[↑(),.complex .f64 0 0]),2,40):=ah
theorem vN{P:Program}{w:ak}(T ty:TypeId)
  (ht:P.underlying T=some (.slice 47)) (hi:(P.info? 47).map (λi=>(i.zero,i.size,i.bytes))=some (some (.agg #[↑(),.complex .f64 0 0]),2,40))
  (v:au) (xs:List J) (hown:o_ w v xs) (A:Option Addr) (m c:Nat) (l:List J) (hB:Js w A m c l)
  (hr:∀z∈l,Vs w z.1.1 z.1.2.1 z.1.2.2 z.2.1/\∀ad,z.1.1=some ad->ad.block<w.heap.size/\v.ownBlock≠some ad.block) (hbytes:(xs.length+l.length)*40<=140737488355328):
  ∃v' w',(Builtin.append_ #[T,T] ty #[v,.slice A m c]).run P w=.ok v' w'/\o_ w' v' (xs++l)/\But (foot v) w w'/\dE w v v':=by
 obtain⟨i,uj,hz,hsz,hby⟩:=aE' hi;have hl:=hB.len
 cases A with
 | none=>
  obtain⟨h0,h1⟩:=hB.nil rfl;subst h0 h1;have hnil:l=[]:=aDv hl;subst hnil;exact⟨v,w,run_append_owned_none (P:=P) (w:=w) 0 T ty 47 i 2 ht uj v _ _ hown.own,by simpa using hown,But.refl _ _,dE.refl _ _⟩
 | some ad=>
  have hcells:∀j u,(l9 l)[j]?=some u->w.cell? (ad.add j)=some u:=by intro q u hu;obtain⟨x,hx,hxu⟩:=Ko l q u hu;have hq:=(aC6.1 hx).1;obtain⟨b,off,e,_,hc⟩:=hB.rd ae;obtain rfl:=aDp e;have:=hc (q / 2) x hx (q % 2) u hxu;rw[aE9];rwa [show off+q / 2*2+q % 2=off+q by omega]at this
  obtain⟨v',w',hr',h1,h2,_,h4⟩:=run_append_own_at (P:=P) w 0 T ty 47 i _ 2 40 ht uj hz hsz hby rfl ai v xs.length (l9 xs) hown.own ad m c (l9 l) (by rw[QI,hl]) hcells (aaO l) (by unfold maxLen;omega) (by rw[<-hl];exact hbytes) (aDl _);have Dv:But (foot v) w w':=But.grown h2 (λg hg=>aG.2 hg);have ag9:dE w v v':=λg hg=>by rcases h4 with h4|h4;exact .inl (h4▸hg);rw[h4]at hg;simp at hg;exact .inr ae
  refine⟨v',w',hr',⟨by rw[QJ,aDd,hl];exact h1,λz hz=>?_⟩,Dv,ag9⟩;have hzz:Vs w z.1.1 z.1.2.1 z.1.2.2 z.2.1/\∀ad,z.1.1=some ad->ad.block<w.heap.size/\v.ownBlock≠some ad.block:=by rcases aDm.1 hz with hz|hz;exact hown.rows z hz;exact hr z hz
  refine⟨hzz.1.but Dv λad e hm=>(hzz.2 ad e).2 (aG.1 hm),λad e=>⟨aDf (hzz.2 ad e).1 Dv.size,λe'=>?_⟩⟩;rcases ag9 _ e' with h5|h5;exact(hzz.2 ad e).2 h5;have:=(hzz.2 ad e).1;omega
theorem ig{P:Program}{w:ak}{ops:Array Oper}{rest:List Oper}{o:Oper}{a:Act}{Q:Exit->Act->ak->Prop}(hgd:o.guard=none)(T:TypeId)(s x:Operand)
  (ho:o.op=.call {callee:=.builtin .append,args:=#[s,x],argTypes:=#[T,T]})
  (ht:P.underlying T=some (.slice 47)) (hi:(P.info? 47).map (λi=>(i.zero,i.size,i.bytes))=some (some (.agg #[↑(),.complex .f64 0 0]),2,40))
  (v:au) (xs:List J) (hs:a.eval s=v) (hown:o_ w v xs) (A:Option Addr) (m c:Nat) (l:List J) (hx:a.eval x=.slice A m c) (hB:Js w A m c l)
  (hr:∀z∈l,Vs w z.1.1 z.1.2.1 z.1.2.2 z.2.1/\∀ad,z.1.1=some ad->ad.block<w.heap.size/\v.ownBlock≠some ad.block) (hbytes:(xs.length+l.length)*40<=140737488355328)
  (h:∀v' w',o_ w' v' (xs++l)->But (foot v) w w'->dE w v v'->wpList P ops Q rest (a.put o.dst v') w'):wpList P ops Q (o::rest) a w:=by
 refine wpList_plain hgd λK hK=>?_;obtain⟨v',w',hr,h2,h3,h4⟩:=vN (P:=P) (w:=w) T o.type ht hi v xs hown A m c l hB hr hbytes;unfold Oper.wp execOp;simp only[ho,resolve,invoke,builtin,aFa,aFb,aFc,aD1,aDe,aDu,hs,hx,hr];exact hK _ _ (h v' w' h2 h3 h4)
theorem Js.one(w:ak)(z:J):Js (w.alloc (.cells #[nK z,nP z] 47)) ↑w 1 1 [z]:=
 ⟨rfl,aC8 _,ae,aj,λ_=>⟨w.heap.size,0,rfl,aj,λi x hx j u hu=>by
  have hi:i=0:=by have:=(aC6.1 hx).1;simp at this;omega
  subst hi;simp at hx;subst hx;rw[aFf (aFd w _)];simpa[eu] using hu⟩⟩
end Go.Proofs.YtbgmhhfjkkfhpaaGreatDoor
