import Derived.StillTailTactics
import Derived.Test.YtbgmhhfjkkfhpaaGreatDoorZ34G
set_option linter.unusedVariables false
set_option maxRecDepth 100000
set_option maxHeartbeats 64000000
namespace Go.Proofs.YtbgmhhfjkkfhpaaGreatDoor
open Go.RowKit
open Go.Lib renaming hid → zq
open Go renaming World → ak
open Go renaming Value → au
open Go.Proofs.Tryz renaming prog → ax
variable {U:Prop}
open Go.Proofs.Tryz
mutual
theorem VU{D:List Df}(hD:∀d∈D,d.2.length<=6):∀p:Pl,(ckOf D p).why=0->(ckOf D p).cols.length<=6
 | .mk k nm es cs lf rt ag l=>λh=>by
  have hl:=Qj hD l;rw[ckOf]at h|-
  cases hb:zD (ckAll D l) with
  | some r=>
   rw[hb]at h;exact absurd h (abD hb)
  | none=>
   rw[hb]at h;simp only at h|-;have hk:∀i,(((ckAll D l).map CR.cols).getD i []).length<=6:=λi=>by
    rw[aEx,aDG]
    cases hi:(ckAll D l)[i]? with
    | none=>simp
    | some r=>exact hl r (aDb hi) (aex hb r (aDb hi))
   generalize (ckAll D l).map CR.cols=K at*;unfold Ro at h|-;by_cases h1:k=1;rw[if_pos h1]at h|-;unfold xM at h|-
   cases hf:D.find? (λd=>d.1==nm) with
   | none=>simp[CR.zero,CR.fail]
   | some d=>exact hD d (List.mem_of_find?_eq_some hf)
   rw[if_neg h1]at h|-;by_cases h2:k=2;rw[if_pos h2]at h|-;unfold Va;simp only;split;rw[CR.PU];exact hk 0;rw[CR.kF,CR.PU];exact hk 0;rw[if_neg h2]at h|-;by_cases h3:k=3;rw[if_pos h3]at h|-;unfold PQ at h|-;rw[CR.Cm];exact(CR.Gg.1 h).2;rw[if_neg h3]at h|-;by_cases h4:k=4;rw[if_pos h4]at h|-;unfold aew at h|-;split at h;rename_i hj;rw[if_pos hj,CR.Cm];exact(CR.Gg.1 h).2;rename_i hj;rw[if_neg hj,CR.kF];exact hk 0;rw[if_neg h4]at h|-;by_cases h5:k=5
   ·rw[if_pos h5]at h|-;unfold Ar;split
    ·have:∀(n:Nat) (r:CR),((List.range n).foldl (xN (K.getD 0 []) (K.getD 1 [])) r).cols=r.cols:=λn r=>by
      induction n with
      | zero=>rfl
      | succ n ih=>
       rw[Ib];unfold xN;split;exact ih;rw[CR.kF];exact ih
     rw[this];exact hk 0
    rw[CR.kF];exact hk 0
   rw[if_neg h5]at h|-;by_cases h6:k=6;rw[if_pos h6];exact hk 0;rw[if_neg h6]at h|-;unfold DW at h|-;simp only at h|-;rw[CR.Cm];exact(CR.Gg.1 h).2
theorem Qj{D:List Df}(hD:∀d∈D,d.2.length<=6):∀l:List Pl,∀r∈ckAll D l,r.why=0->r.cols.length<=6
 | []=>λr hr=>by rw[ckAll]at hr;cases hr
 | p::l=>λr hr h0=>by have hp:=VU hD p;have hl:=Qj hD l;rw[ckAll]at hr;rcases aDg.1 hr with h1|h1;rw[h1]at h0|-;exact hp h0;exact hl r h1 h0
end
def kc(x:dK C):List au:=[.slice x.A x.l.length x.cap]
theorem aio:Enc 1 kc:=⟨ae,λ_=>rfl,λx u hu=>by
 simp[kc]at hu;rcases hu with rfl;rfl⟩
theorem Tryz.afk:(Tryz.prog.info? 38).map (λi=>(i.zero,i.size,i.bytes))=some (some ↑(),1,24):=ah
structure Eu(w0:ak)(A:Option Addr)(cap:Nat)(Z:List (dK C))(w:ak):Prop where
 own:Ow 38 1 kc w0.heap.size w (.slice A Z.length cap) Z
 each:∀x∈Z,Ow 82 2 jY w0.heap.size w (.slice x.A x.l.length x.cap) x.l
 apart:Z.Pairwise λx y=>∀g∈foot (.slice x.A x.l.length x.cap),g∉foot (.slice y.A y.l.length y.cap)
 off:∀x∈Z,∀g∈foot (.slice x.A x.l.length x.cap),g∉foot (.slice A Z.length cap)
 ev:Ev w0 w
theorem Eu.start(w0:ak):Eu w0 none 0 [] w0:=⟨Ow.nil_ _,(λx hx=>by cases hx),List.Pairwise.nil,(λx hx=>by cases hx),Ev.refl _⟩
theorem Eu.up{w0 w w':ak}{A:Option Addr}{cap:Nat}{Z:List (dK C)}(h:Eu w0 A cap Z w)(hE:Ev w w'):Eu w0 A cap Z w':=
 ⟨h.own.ev hE,λx hx=>(h.each x hx).ev hE,h.apart,h.off,h.ev.trans hE⟩
theorem Eu.next{w0 wr wp wq w2:ak}{A:Option Addr}{cap:Nat}{Z:List (dK C)}{x:dK C}{v2:au}(h:Eu w0 A cap Z wr)(hp:wr.heap.size<=wp.heap.size)(hE:Ev wr wq)(hx:Ow 82 2 jY wp.heap.size wq (.slice x.A x.l.length x.cap) x.l)(hA:uG 38 1 kc w0.heap.size wq (.slice A Z.length cap) (Z++[x]) v2 w2):
  ∃A2 cap2,v2=.slice A2 (Z.length+1) cap2/\Eu w0 A2 cap2 (Z++[x]) w2:=by
 obtain⟨ho,hb,hs⟩:=hA;obtain⟨A2,cap2,rfl,_,_⟩:=ho.form aio;have hl:(Z++[x]).length=Z.length+1:=aj;have hxb:∀g∈foot (.slice x.A x.l.length x.cap),wp.heap.size<=g/\g<wq.heap.size:=λg hg=>⟨(hx.lt (aG.1 hg)).1,(hx.lt (aG.1 hg)).2⟩
 have hzb:∀g∈foot (.slice A Z.length cap),g<wr.heap.size:=λg hg=>(h.own.lt (aG.1 hg)).2;have hyb:∀y∈Z,∀g∈foot (.slice y.A y.l.length y.cap),g<wr.heap.size:=λy hy g hg=>((h.each y hy).lt (aG.1 hg)).2;have hw0:=h.ev.size;have hK:∀k∈foot (.slice A Z.length cap),w0.heap.size<=k:=λk hk=>(h.own.lt (aG.1 hk)).1;refine⟨A2,cap2,by rw[hl],ho,λy hy=>?_,?_,λy hy g hg hm=>?_,((But.aU (h.ev.trans hE)).then hb).ev λk hk=>hK k hk⟩;rcases aDm.1 hy with h1|h1;exact((h.each y h1).ev hE).but hb λg hg hm=>h.off y h1 g (aG.2 hg) hm;simp at h1;subst h1;refine Ow.VP (hx.but hb λg hg hm=>?_) (aDr hw0 hp);have h2:=(hxb g (aG.2 hg)).1;have h3:=hzb g hm;omega;rw[aEE];refine⟨h.apart,aEr _ _,λy hy z hz g hg hm=>?_⟩;simp at hz;subst hz;have h2:=(hxb g hm).1;have h3:=hyb y hy g hg;omega;have hlt:g<wq.heap.size:=by rcases aDm.1 hy with h1|h1;exact aDf (hyb y h1 g hg) hE.size;simp at h1;subst h1;exact(hxb g hg).2
 rcases hs g (aG.1 hm) with h2|h2;rcases aDm.1 hy with h1|h1;exact h.off y h1 g hg (aG.2 h2);simp at h1;subst h1;have h3:=(hxb g hg).1;have h4:=hzb g (aG.2 h2);omega;omega
theorem Eu.cell{w0 w:ak}{A:Option Addr}{cap:Nat}{Z:List (dK C)}(h:Eu w0 A cap Z w){i:Nat}{x:dK C}(hx:Z[i]?=some x):∃b,A=some ⟨b,0,none⟩/\b<w.heap.size/\∀w1,Ev w w1->w1.cell? ⟨b,i,none⟩=some (.slice x.A x.l.length x.cap):=by
 obtain⟨A1,cap1,hv,hS,I7⟩:=h.own.form aio;injection hv with h1 h2 h3
 subst h1;have hi:=(aC6.1 hx).1;obtain⟨b,off,e,hlt,hc⟩:=hS.rd ae;have h5:=(I7 _ e).2.2.2.1;injection h5 with _ h6 _
 subst h6;refine⟨b,e,hlt,λw1 hE=>?_⟩;have:=hc i x hx 0 _ rfl;rw[aED,aDw,aDt]at this;exact(hE.cell (p:=⟨_,_,none⟩) hlt).trans this
theorem JG{w wr w2:ak}{g base:Nat}{r:CR}{va v c0 c1 c2:au}(hE:Ev w wr)(hB:Bx 93 g #[c0,c1,c2] wr)(ho:Ow 82 2 jY base w2 v r.cols)(hb:But (foot va) wr w2)(hs:dE wr va v)(hva:∀k∈foot va,w.heap.size<=k/\k≠g)(hg:w.heap.size<=g)(hbase:w.heap.size<=base):
  Bx 93 g #[v,↑r.why,.string r.name] (kL g v ↑r.why (.string r.name) w2)/\nI w.heap.size ↑() r w (.returned (.agg #[v,↑r.why,.string r.name])) (kL g v ↑r.why (.string r.name) w2):=by
 have hgl:=hB.lt;have hgv:g∉foot v:=λhm=>by rcases hs g (aG.1 hm) with h1|h1;exact(hva g (aG.2 h1)).2 rfl;omega
 have Oq:=bP g v ↑r.why (.string r.name) w2;refine⟨(hB.but hb λhm=>(hva g hm).2 rfl).kL _ _ _,v,rfl,(ho.but Oq λk hk=>by simp;intro e;exact hgv (aG.2 (e▸hk))).VP hbase,?_,λk hk=>.inr ?_⟩;have h1:Ev w w2:=((But.aU hE).then hb).ev λk hk=>(hva k hk).1;exact But.aU (h1.box Oq hg);rcases hs k hk with h1|h1;exact(hva k (aG.2 h1)).1;exact aDr hE.size h1
theorem aph(w:ak)(cs:Array au):∃w0,(w.alloc (.cells cs 35)).alloc (.cells ↑Zz.d 93)=w0/\Ev w w0/\Bx 35 w.heap.size cs w0/\Bx 93 (w.heap.size+1) ↑Zz.d w0/\w0.heap.size=w.heap.size+2:=RY w _ _
structure YQ(D:List Df)(l:List PM)(k:Nat)(Z:List (dK C)):Prop where
 len:Z.length=k
 ok:∀r∈(l.take k).map (λx=>ckOf D x.p),r.why=0
 cols:Z.map dK.l=((l.take k).map λx=>ckOf D x.p).map CR.cols
theorem YQ.next{D:List Df}{l:List PM}{k:Nat}{Z:List (dK C)}{x:PM}{z:dK C}(h:YQ D l k Z)(hx:l[k]?=some x)(h0:(ckOf D x.p).why=0)(hz:z.l=(ckOf D x.p).cols):YQ D l (k+1) (Z++[z]):=by
 obtain⟨hk,e⟩:=aC6.1 hx;have ht:l.take (k+1)=l.take k++[x]:=by rw[aDi hk,e]
 refine⟨by simp[h.len],λr hr=>?_,?_⟩;rw[ht,aDk]at hr;rcases aDm.1 hr with h1|h1;exact h.ok r h1;simp at h1;rw[h1];exact h0;rw[ht,aDk,aDk,aDk,h.cols,aDe,aDu,hz];rfl
theorem afl(D:List Df)(m:PM):ckOf D m.p=match zD (m.kids.map λx=>ckOf D x.p) with
  | some r=>r
  | none=>Ro D m.kind m.name (m.ex.l.map M.t) m.co.l m.lf.l m.rt.l m.ag.l ((m.kids.map λx=>ckOf D x.p).map CR.cols):=by
 rw[PM.tu,ckOf,PR,aDx];rfl
theorem YQ.bad{D:List Df}{m:PM}{k:Nat}{Z:List (dK C)}{x:PM}(h:YQ D m.kids k Z)(hx:m.kids[k]?=some x)(h0:(ckOf D x.p).why≠0):ckOf D m.p=ckOf D x.p:=by rw[afl,abC (k:=k) (r:=ckOf D x.p) (λy hy=>h.ok y (by rwa [aEf])) (by rw[aDG,hx];rfl) h0]
theorem YQ.fin{D:List Df}{m:PM}{Z:List (dK C)}(h:YQ D m.kids m.kids.length Z):ckOf D m.p=Ro D m.kind m.name (m.ex.l.map M.t) m.co.l m.lf.l m.rt.l m.ag.l (Z.map dK.l):=by have h1:=h.ok;have h2:=h.cols;rw[aEt]at h1 h2;rw[afl,XZ h1,h2]
theorem alT{m:PM}(h:m.p.good):zu m.kind m.name (m.ex.l.map M.t) m.co.l m.lf.l m.rt.l m.ag.l m.kids.length/\∀x∈m.kids,x.p.good:=by rw[PM.tu,Pl.good,Pl.rW,aC_]at h;exact⟨h.1,λx hx=>h.2 x.p (aDF hx)⟩
theorem nI.up{base:Nat}{va:au}{r:CR}{w:ak}{e:Ending}{w1 w2:ak}(h:nI base va r w e w1)(hE:Ev w1 w2):nI base va r w e w2:=by obtain⟨v,he,ho,hb,hs⟩:=h;exact⟨v,he,ho.ev hE,hb.then (But.aU hE),hs⟩
theorem YQ.small{D:List Df}{l:List PM}{k:Nat}{Z:List (dK C)}(h:YQ D l k Z)(hD:∀p,(ckOf D p).why=0->(ckOf D p).cols.length<=6):∀z∈Z,z.l.length<=6:=λz hz=>by have h1:z.l∈Z.map dK.l:=aDF hz;rw[h.cols]at h1;obtain⟨r,hr,e⟩:=aDz.1 h1;have h2:=h.ok r hr;obtain⟨x,_,rfl⟩:=aDz.1 hr;rw[<-e];exact hD x.p h2
theorem aj_{base:Nat}{w:ak}{x:dK C}(h:Ow 82 2 jY base w (.slice x.A x.l.length x.cap) x.l):Cs w x.A x.l.length x.cap x.l/\∀ad,x.A=some ad->base<=ad.block/\ad.block<w.heap.size/\ad.block∈foot (.slice x.A x.l.length x.cap):=by
 obtain⟨A,cap,hv,hS,hA⟩:=h.form rD;injection hv with h1 h2 h3
 rw[<-h1,<-h3]at hS;refine⟨hS,λad e=>?_⟩;have h4:=hA ad (h1▸e);exact⟨h4.2.1,h4.2.2.1,aG.2 h4.1⟩
theorem Eu.kid{w0 w wd:ak}{A:Option Addr}{cap:Nat}{Z:List (dK C)}{z:dK C}{i:Nat}(h:Eu w0 A cap Z w)(hz:Z[i]?=some z)(hE:Ev w wd):Ow 82 2 jY w0.heap.size wd (.slice z.A z.l.length z.cap) z.l:=(h.each z (aDb hz)).ev hE
theorem alU{α:Type}{l:List α}(h:l.length=1):∃x,l=[x]:=by
 match l,h with
 | [x],_=>exact⟨x,rfl⟩
abbrev aFh:=@Go.wp_loop_rounds
abbrev aFi:=@Go.rounds_succ
def Nv(s t:ByteArray):Int:=if Op.bytesLess s.toList t.toList then -1 else if s.toList==t.toList then 0 else 1
def Nw(a b:Int):Int:=if a<b then -1 else if b<a then 1 else 0
theorem aca(s t:ByteArray)(w:ak):(binOp .gtr 9 (.string s) (.string t)).run ax w=.ok (.bool !(Op.bytesLess s.toList t.toList||s.toList==t.toList)) w:=by unfold binOp;simp[go_sem,Op.stringOp]
theorem aIw(h:U:=by go_enter func116,ntmps116;go_wp2;go_ret;exact⟨rfl,rfl⟩):U:=h
theorem aip(s t:ByteArray)(w:ak):Calls ax 116 #[.string s,.string t] w λe w'=>e=.returned (.int .i64 (Nv s t))/\w'=w:=by
 have hG:=aca s t;unfold Nv
 cases h1:Op.bytesLess s.toList t.toList with
 | true=>
  exact aIw
 | false=>
  cases h2:s.toList==t.toList with
  | true=>
   simp only[h1,h2]at hG;exact aIw
  | false=>
   simp only[h1,h2]at hG;exact aIw
theorem aIx(h:U:=by go_enter func117,ntmps117;go_wp2;go_ret;exact⟨rfl,rfl⟩):U:=h
theorem aiq(a b:Int)(w:ak):Calls ax 117 #[↑a,↑b] w λe w'=>e=.returned (.int .i64 (Nw a b))/\w'=w:=by unfold Nw;by_cases h1:a<b;rw[if_pos h1];exact aIx;rw[if_neg h1];by_cases h2:b<a;rw[if_pos h2];exact aIx;rw[if_neg h2];exact aIx
def or2(x y:Int):Int:=if x=0 then y else x
theorem alW(g:Nat)(x y:Int)(w:ak)(h:Bx 3 g #[↑x,↑y] w):Calls ax 115 #[.slice ↑g 2 2] w λe w'=>e=.returned (.int .i64 (or2 x y))/\w'=w:=by
 have c0:=h.cell 0;have c1:=h.cell 1;have c0:w.cell? ⟨g,0,none⟩=some ↑x:=c0;have c1:w.cell? ⟨g,1,none⟩=some ↑y:=c1;clear h;unfold or2;by_cases hx:x=0
 ·subst hx;rw[if_pos rfl];by_cases hy:y=0
  ·subst hy;go_enter func115,ntmps115;go_wp2;refine aFh 3 ?_;rw[aFi];go_wp2;rw[aFi];go_wp2;rw[aFi];go_wp2;go_ret;exact⟨rfl,rfl⟩
  have hyn:(y==0)=false:=by simpa using hy
  go_enter func115,ntmps115;go_wp2;refine aFh 3 ?_;rw[aFi];go_wp2;rw[aFi];go_wp2;go_ret;exact⟨rfl,rfl⟩
 have hxn:(x==0)=false:=by simpa using hx
 rw[if_neg hx];go_enter func115,ntmps115;go_wp2;refine aFh 3 ?_;rw[aFi];go_wp2;go_ret;exact⟨rfl,rfl⟩
def Ny(x y:Int)(v:au)(w:ak):Prop:=∃g,v=.slice (some ⟨g,0,none⟩) 2 2/\Bx 3 g #[↑x,↑y] w
theorem Ny.mono(x y:Int):kK (Ny x y):=λv w w' hE ⟨g,e,h⟩=>⟨g,e,h.ev hE⟩
def afm(di dj:DM)(i j:Nat):Int:=or2 (Nv ⟨di.name.toArray⟩ ⟨dj.name.toArray⟩) (Nw (i:Int) (j:Int))
theorem aGC(h:U:=by
 refine aF λa w c=>⟨(ay rfl),.slice ↑(bd,od) n cap,?_,rfl⟩
 have e2:a.eval (.tmp 2)=.pointer ↑gb:=(c.was 2 rfl)
 have hc:=(c.ev.cell (p:=⟨gb,0,none⟩) hgl).trans HB;generalize a.eval=ρ at e2|-;simp[execOp,e2,hc,go_sem]):U:=h
theorem air(gb bd od n cap:Nat)(l:List DM)(i j:Nat)(di dj:DM)(w:ak)(hB:Bx 62 gb #[.slice ↑(bd,od) n cap] w)(h:yH w ↑(bd,od) n cap l)(hi:l[i]?=some di)(hj:l[j]?=some dj):
  Calls ax 114 #[↑i,↑j,.pointer ↑gb] w λe w'=>e=.returned (.int .i64 (afm di dj i j))/\Ev w w':=by
 have dH:Tryz.prog.follows .mixedOrders=true:=ah;have HB:w.cell? ⟨gb,0,none⟩=some (.slice ↑(bd,od) n cap):=hB.cell 0;have hgl:=hB.lt;have hnl:=h.sl.len;have AU:=h.sl.le;have hcm:=h.sl.max;obtain⟨b,o,e,hbl,ci,_⟩:=h.cell hi;obtain⟨b',o',e',_,cj,_⟩:=h.cell hj;injection e with e
 injection e with e1 e2 _
 injection e' with e'
 injection e' with e3 e4 _
 subst e1 e2 e3 e4;have WA:=(aC6.1 hi).1;have hjl:=(aC6.1 hj).1;have i1:(0:Int)<=(i:Int):=ae;have i2:(i:Int)<(n:Int):=ae;have j1:(0:Int)<=(j:Int):=ae;have j2:(j:Int)<(n:Int):=ae;unfold afm;clear hB h hi hj WA hjl;go_enter func114,ntmps114;go_upto_region 1 with fail
 refine bD dH [λv _=>v=.slice ↑(bd,od) n cap,λv _=>v=↑i,λv _=>v=.pointer ↑(bd,od+i*2),λv _=>v=.pointer ↑(bd,od+i*2),λv _=>v=↑di.name,λv _=>v=.slice ↑(bd,od) n cap,λv _=>v=↑j,λv _=>v=.pointer ↑(bd,od+j*2),λv _=>v=.pointer ↑(bd,od+j*2),λv _=>v=↑dj.name,λv _=>v=.int .i64 (Nv ⟨di.name.toArray⟩ ⟨dj.name.toArray⟩),λv _=>v=↑i,λv _=>v=↑j,λv _=>v=.int .i64 (Nw (i:Int) (j:Int)),Ny (Nv ⟨di.name.toArray⟩ ⟨dj.name.toArray⟩) (Nw (i:Int) (j:Int)),λv _=>v=.int .i64 (or2 (Nv ⟨di.name.toArray⟩ ⟨dj.name.toArray⟩) (Nw (i:Int) (j:Int))),λv _=>v=.int .i64 (or2 (Nv ⟨di.name.toArray⟩ ⟨dj.name.toArray⟩) (Nw (i:Int) (j:Int)))]
  22 rfl ah ⟨aB _,aB _,aB _,aB _,aB _,aB _,aB _,aB _,aB _,aB _,aB _,aB _,aB _,aB _,Ny.mono _ _,aB _,aB _,trivial⟩ ?_ ?_
 ·refine az 0 ?_ (az 1 ?_ (az 2 ?_ (az 3 ?_ (az 4 ?_ (az 5 ?_ (az 6 ?_ (az 7 ?_ (az 8 ?_ (az 9 ?_ (az 10 ?_ (az 11 ?_ (az 12 ?_ (az 13 ?_ (az 14 ?_ (az 15 ?_ (az 16 ?_ (eY 17)))))))))))))))));exact aGC;exact aIp
  ·refine aF λa wq c=>⟨(ay rfl),.pointer ↑(bd,od+i*2),?_,rfl⟩
   have bn:a.eval (.tmp 6)=.slice ↑(bd,od) n cap:=(c.new 0 6)
   have jk:a.eval (.tmp 7)=↑i:=(c.new 1 7)
   generalize a.eval=ρ at bn jk|-;simp[execOp,bn,jk,go_sem,i1,i2]
  ·refine aF λa w c=>⟨(ay rfl),.pointer ↑(bd,od+i*2),?_,rfl⟩
   have e8:a.eval (.tmp 8)=.pointer ↑(bd,od+i*2):=(c.new 2 8)
   generalize a.eval=ρ at e8|-;simp[execOp,e8,go_sem]
  ·refine aF λa w c=>⟨(ay rfl),↑di.name,?_,rfl⟩
   have e9:a.eval (.tmp 9)=.pointer ↑(bd,od+i*2):=(c.new 3 9)
   have hc:=(c.ev.cell (p:=⟨bd,od+i*2,none⟩) hbl).trans ci;generalize a.eval=ρ at e9|-;simp[execOp,e9,hc,go_sem]
  exact aGC;exact aIq
  ·refine aF λa wq c=>⟨(ay rfl),.pointer ↑(bd,od+j*2),?_,rfl⟩
   have bn:a.eval (.tmp 11)=.slice ↑(bd,od) n cap:=(c.new 5 11)
   have jk:a.eval (.tmp 12)=↑j:=(c.new 6 12)
   generalize a.eval=ρ at bn jk|-;simp[execOp,bn,jk,go_sem,j1,j2]
  ·refine aF λa w c=>⟨(ay rfl),.pointer ↑(bd,od+j*2),?_,rfl⟩
   have e13:a.eval (.tmp 13)=.pointer ↑(bd,od+j*2):=(c.new 7 13)
   generalize a.eval=ρ at e13|-;simp[execOp,e13,go_sem]
  ·refine aF λa w c=>⟨(ay rfl),↑dj.name,?_,rfl⟩
   have e14:a.eval (.tmp 14)=.pointer ↑(bd,od+j*2):=(c.new 8 14)
   have hc:=(c.ev.cell (p:=⟨bd,od+j*2,none⟩) hbl).trans cj;generalize a.eval=ρ at e14|-;simp[execOp,e14,hc,go_sem]
  refine eP λa wq c=>⟨(ay rfl),116,#[↑di.name,↑dj.name],?_,?_⟩
  rw[bK 116 _ _ rfl ah];have bn:a.eval (.tmp 10)=↑di.name:=(c.new 4 10)
  have jk:a.eval (.tmp 15)=↑dj.name:=(c.new 9 15)
  simp[bn,jk];refine(aip _ _ wq).mono ?_;rintro e wp ⟨rfl,rfl⟩;exact⟨_,rfl,Ev.refl _,rfl⟩;exact aIp;exact aIq;refine eP λa wq c=>⟨(ay rfl),117,#[↑i,↑j],?_,?_⟩
  rw[bK 117 _ _ rfl ah];have bn:a.eval (.tmp 17)=↑i:=(c.new 11 17)
  have jk:a.eval (.tmp 18)=↑j:=(c.new 12 18)
  simp[bn,jk];refine(aiq _ _ wq).mono ?_;rintro e wp ⟨rfl,rfl⟩;exact⟨_,rfl,Ev.refl _,rfl⟩
  ·refine JQ λa wq c=>?_;have bn:a.eval (.tmp 16)=.int .i64 (Nv ⟨di.name.toArray⟩ ⟨dj.name.toArray⟩):=(c.new 10 16)
   have jk:a.eval (.tmp 19)=.int .i64 (Nw (i:Int) (j:Int)):=(c.new 13 19)
   refine⟨(ay rfl),.slice ↑wq 2 2,wq.alloc (.cells #[.int .i64 (Nv ⟨di.name.toArray⟩ ⟨dj.name.toArray⟩),.int .i64 (Nw (i:Int) (j:Int))] 3),?_,Ev.alloc _ _,⟨wq.heap.size,rfl,Bx.new _ _ _⟩⟩;generalize a.eval=ρ at bn jk|-;simp[execOp,bn,jk,go_sem]
  refine eP λa wq c=>?_;obtain⟨g_,eg_,hB_⟩:=(c.got 14 20 ah ah rfl:Ny _ _ _ _)
  refine⟨(ay rfl),115,#[.slice ↑g_ 2 2],?_,?_⟩;rw[bK 115 _ _ rfl ah];simp[eg_];refine(alW g_ _ _ wq hB_).mono ?_;rintro e wp ⟨rfl,rfl⟩;exact⟨_,rfl,Ev.refl _,rfl⟩;refine aF λa w c=>⟨(ay rfl),_,run_assign _ rfl w,(c.new 15 21)⟩
 intro s w2 hE hold hnew;have f0:s 0=↑i:=hold 0;have f1:s 1=↑j:=hold 1;have f2:s 2=.pointer ↑gb:=hold 2;have f5:s 5=.int .i64 (or2 (Nv ⟨di.name.toArray⟩ ⟨dj.name.toArray⟩) (Nw (i:Int) (j:Int))):=hnew 16 5;change Exit.then _ _ .normal ⟨#[s 0,s 1,s 2,s 3,s 4,s 5,s 6,s 7,s 8,s 9,s 10,s 11,s 12,s 13,s 14,s 15,s 16,s 17,s 18,s 19,s 20,s 21],_⟩ _;simp only[f0,f1,f2,f5];go_wp2;go_ret;exact⟨rfl,hE⟩
theorem acb{a:Act}{o:Oper}(f:FuncId)(cb:Array au)(x:Operand)(xs:Array Operand)(ts:Array TypeId)(ho:o.op=.call {callee:=.value x,args:=xs,argTypes:=ts})(h:E_ ax f=true)(hx:a.eval x=.func (.func f) #[] cb)(w:ak):
  (execOp a.eval o).run ax w=.ok (.enter f (xs.map a.eval++cb)) w:=by
 unfold execOp;rw[ho];simp[resolve,Deferred.ofValue,invoke,hx];exact Ff h _ w
theorem ais(go gb:Nat)(r:Int)(w:ak)(hO:Bx 3 go #[.int .i64 0,.int .i64 1] w)(hr0:0<=r)(hC:∀w1,Ev w w1->Calls ax 114 #[.int .i64 1,.int .i64 0,.pointer ↑gb] w1 λe w'=>e=.returned ↑r/\Ev w1 w'):
  Calls ax 214 #[.slice ↑go 2 2,.int .i64 0,.int .i64 2,.func (.func 114) #[] #[.pointer ↑gb]] w λe w'=>e=.returned (.tuple #[])/\Ev w w':=by
 have dH:Tryz.prog.follows .mixedOrders=true:=ah;have o0:w.cell? ⟨go,0,none⟩=some (.int .i64 0):=hO.cell 0;have o1:w.cell? ⟨go,1,none⟩=some (.int .i64 1):=hO.cell 1;have hgo:=hO.lt;have hr:decide (r<0)=false:=by simp;omega
 have auy:=zq hC;have HE:=zq (Ev.refl w);clear hO hC;go_enter func214,ntmps214;go_wp2;refine aFh 3 ?_;rw[aFi];go_wp2;refine aFh 2 ?_;rw[aFi];go_wp2;refine bD dH [λv _=>v=.int .i64 1,λv _=>v=.int .i64 0,λv _=>v=.bool true,λv _=>v=.bool true,λv _=>v=.func (.func 114) #[] #[.pointer ↑gb],λv _=>v=.slice ↑go 2 2,λv _=>v=.int .i64 1,λv _=>v=.pointer (some ⟨go,1,none⟩),λv _=>v=.int .i64 1,λv _=>v=.slice ↑go 2 2,λv _=>v=.int .i64 1,λv _=>v=.int .i64 0,λv _=>v=.pointer ↑go,λv _=>v=.int .i64 0,λv _=>v=↑r,λv _=>v=.bool false,λv _=>v=.bool false]
  53 rfl ah ⟨aB _,aB _,aB _,aB _,aB _,aB _,aB _,aB _,aB _,aB _,aB _,aB _,aB _,aB _,aB _,aB _,aB _,trivial⟩ ?_ ?_
 ·refine az 0 ?_ (az 1 ?_ (az 2 ?_ (az 3 ?_ (az 4 ?_ (az 5 ?_ (az 6 ?_ (az 7 ?_ (az 8 ?_ (az 9 ?_ (az 10 ?_ (az 11 ?_ (az 12 ?_ (az 13 ?_ (az 14 ?_ (az 15 ?_ (az 16 ?_ (eY 17)))))))))))))))));refine aF λa w c=>⟨(ay rfl),_,run_move _ rfl w,(c.was 9 rfl)⟩
  exact aIq
  ·refine aF λa w c=>⟨(ay rfl),.bool true,?_,rfl⟩
   have e18:a.eval (.tmp 18)=.int .i64 1:=(c.new 0 18)
   have e19:a.eval (.tmp 19)=.int .i64 0:=(c.new 1 19)
   generalize a.eval=ρ at e18 e19|-;simp[execOp,e18,e19,go_sem]
  refine aF λa w c=>⟨(ay rfl),_,run_move _ rfl w,(c.new 2 20)⟩
  refine aF λa w c=>⟨(aH rfl ah (c.new 3 21)),_,run_move _ rfl w,(c.was 3 rfl)⟩
  refine aF λa w c=>⟨(aH rfl ah (c.new 3 21)),_,run_move _ rfl w,(c.was 0 rfl)⟩
  refine aF λa w c=>⟨(aH rfl ah (c.new 3 21)),_,run_move _ rfl w,(c.was 9 rfl)⟩
  ·refine aF λa wq c=>⟨(aH rfl ah (c.new 3 21)),.pointer (some ⟨go,1,none⟩),?_,rfl⟩
   have bn:a.eval (.tmp 23)=.slice ↑go 2 2:=(c.new 5 23)
   have jk:a.eval (.tmp 24)=.int .i64 1:=(c.new 6 24)
   generalize a.eval=ρ at bn jk|-;simp[execOp,bn,jk,go_sem]
  ·refine aF λa w c=>⟨(aH rfl ah (c.new 3 21)),.int .i64 1,?_,rfl⟩
   have e25:a.eval (.tmp 25)=.pointer (some ⟨go,1,none⟩):=(c.new 7 25)
   have hc:=(c.ev.cell (p:=⟨go,1,none⟩) hgo).trans o1;generalize a.eval=ρ at e25|-;simp[execOp,e25,hc,go_sem]
  refine aF λa w c=>⟨(aH rfl ah (c.new 3 21)),_,run_move _ rfl w,(c.was 0 rfl)⟩
  refine aF λa w c=>⟨(aH rfl ah (c.new 3 21)),_,run_move _ rfl w,(c.was 9 rfl)⟩
  ·refine aF λa w c=>⟨(aH rfl ah (c.new 3 21)),.int .i64 0,?_,rfl⟩
   have e28:a.eval (.tmp 28)=.int .i64 1:=(c.new 10 28)
   have jS:a.eval (.const (.int .i64 1))=.int .i64 1:=rfl;generalize a.eval=ρ at e28 jS|-;simp[execOp,e28,jS,go_sem,show IntKind.i64.wrap 0=0 from rfl]
  ·refine aF λa wq c=>⟨(aH rfl ah (c.new 3 21)),.pointer ↑go,?_,rfl⟩
   have bn:a.eval (.tmp 27)=.slice ↑go 2 2:=(c.new 9 27)
   have jk:a.eval (.tmp 29)=.int .i64 0:=(c.new 11 29)
   generalize a.eval=ρ at bn jk|-;simp[execOp,bn,jk,go_sem]
  ·refine aF λa w c=>⟨(aH rfl ah (c.new 3 21)),.int .i64 0,?_,rfl⟩
   have e30:a.eval (.tmp 30)=.pointer ↑go:=(c.new 12 30)
   have hc:=(c.ev.cell (p:=⟨go,0,none⟩) hgo).trans o0;generalize a.eval=ρ at e30|-;simp[execOp,e30,hc,go_sem]
  refine eP λa wq c=>⟨(aH rfl ah (c.new 3 21)),114,#[.int .i64 1,.int .i64 0,.pointer ↑gb],?_,?_⟩
  have bn:a.eval (.tmp 22)=.func (.func 114) #[] #[.pointer ↑gb]:=(c.new 4 22)
  have jk:a.eval (.tmp 26)=.int .i64 1:=(c.new 8 26)
  have e_2:a.eval (.tmp 31)=.int .i64 0:=(c.new 13 31)
  rw[acb 114 #[.pointer ↑gb] _ _ _ rfl ah bn];simp[jk,e_2];refine(auy.out wq (HE.out.trans c.ev)).mono ?_;rintro e wp ⟨rfl,Z8⟩;exact⟨_,rfl,Z8,rfl⟩
  ·refine aF λa w c=>⟨(aH rfl ah (c.new 3 21)),.bool false,?_,rfl⟩
   have e32:a.eval (.tmp 32)=↑r:=(c.new 14 32)
   have jS:a.eval (.const (.int .i64 0))=.int .i64 0:=rfl;generalize a.eval=ρ at e32 jS|-;simp[execOp,e32,jS,go_sem,hr]
  refine aF λa w c=>⟨(ay rfl),_,iZ rfl (c.new 3 21) w,(c.new 15 33)⟩
 intro s w2 hE hold hnew;have f0:s 0=.slice ↑go 2 2:=hold 0;have f1:s 1=.int .i64 0:=hold 1;have f2:s 2=.int .i64 2:=hold 2;have f3:s 3=.func (.func 114) #[] #[.pointer ↑gb]:=hold 3;have f8:s 8=.int .i64 1:=hold 8;have f9:s 9=.int .i64 1:=hold 9;have f34:s 34=.bool false:=hnew 16 34;change Exit.then _ _ .normal ⟨_,_⟩ _;simp only[List.range,List.range.loop,List.map];simp only[f0,f1,f2,f3,f8,f9,f34];clear hold hnew;go_wp2;rw[aFi];go_wp2;go_end0;exact⟨rfl,hE⟩
end Go.Proofs.YtbgmhhfjkkfhpaaGreatDoor
