import Derived.Test.YtpbfokkocaemlaaGreatDoorZ19J
import Derived.Test.YtpbfokkocaemlaaGreatDoorZ16J
set_option linter.unusedVariables false
set_option maxRecDepth 100000
set_option maxHeartbeats 64000000
namespace Go.Proofs.YtpbfokkocaemlaaGreatDoor
open Go.RowKit
open Go.Lib renaming hid → zq
open Go renaming World → ak
open Go renaming Value → au
open Go.Proofs.Tryz renaming prog → ax
variable {U:Prop}
open Go.Proofs.Tryz
theorem DZ:∀(N:Nat) (r b:By) (i:Nat),r.length<=N->(sxTextGo b r i).s.length<=40
 | 0,[],b,i,_=>by simp[sxTextGo,aX]
 | N+1,[],b,i,_=>by simp[sxTextGo,aX]
 | 0,c::q,b,i,h=>by simp at h
 | N+1,c::q,b,i,h=>by
  have hq:q.length<=N:=by simpa using h
  unfold sxTextGo;split;exact DZ N q _ _ hq;split
  cases q with
  | nil=>simp[aX]
  | cons x q1=>
   simp only[]
   cases iq x with
   | none=>simp[aX]
   | some a=>
    cases q1 with
    | nil=>simp[aX]
    | cons y q2=>
     simp only[]
     cases iq y with
     | none=>simp[aX]
     | some k=>exact DZ N q2 _ _ (by simp at hq;omega)
  split;split;simp[aX];rename_i h;simp;omega;simp[aX]
theorem IY(plus:Bool)(d:By)(hd:∀c∈d,aY c=true):zD (sxNum plus d).n/\(sxNum plus d).s=[]:=by
 unfold sxNum
 cases hb:sxBelow d 0 with
 | none=>exact⟨(show zD 0 by decide),rfl⟩
 | some n=>
  have hr:=rG d hd 0 n ae ae hb;simp only[];split;exact⟨(show zD 0 by decide),rfl⟩;rename_i h1
  cases plus
  simp only[awv,if_false];exact⟨⟨hr.1,ae⟩,aj⟩;simp at h1;simp only[if_true];exact⟨⟨ae,by have:=h1.2;omega⟩,aj⟩
theorem YF(c:UInt8)(q:By):(bK (c::q)).s.length<=q.length+41/\zD (bK (c::q)).n:=by simp only[bK];split;exact⟨aj,ai⟩;split;exact⟨aj,ai⟩;split;have:=DZ q.length q [] 1 (awj _);rw[JC q.length q [] 1 (awj _)];exact⟨ae,ai⟩;split;simp only[dO];split;obtain⟨h1,h2⟩:=IY false (dJ q) (fC q);exact⟨by rw[h2];simp,h1⟩;obtain⟨h1,h2⟩:=IY true (dJ (c::q)) (fC (c::q));exact⟨by rw[h2];simp,h1⟩;split;exact⟨by simp only[awT,awr];omega,by show zD 0;decide⟩;exact⟨by simp[aX],by show zD 0;decide⟩
theorem T.aaO(e t:T):(e.add t).size=e.size+t.size:=by rw[T.size_eq,T.size_eq e];show ((e.kids++[t]).map T.size).sum+1=_;rw[awt,axt];simp;omega
theorem T.aaP(e t:T):(e.add t).every cO=(e.every cO&&t.every cO):=by rw[T.gz,T.gz cO e];show (cO e&&(e.kids++[t]).all (T.every cO))=_;rw[axG,Bool.and_assoc];simp
theorem IZ:∀(os:List T) (t:T),((sxPut os t).map T.size).sum<=(os.map T.size).sum+t.size
 | [],t=>by simp[sxPut]
 | [e],t=>by simp[sxPut,T.aaO]
 | e::e'::os,t=>by have:=IZ (e'::os) t;simp only[sxPut,awo,aw8]at this|-;omega
theorem JV:∀(os:List T) (t:T),os.all (T.every cO)=true->t.every cO=true->(sxPut os t).all (T.every cO)=true
 | [],t,_,_=>rfl
 | [e],t,h,ht=>by simp only[axW,List.all_nil,axP]at h;simp[sxPut,T.aaP,h,ht]
 | e::e'::os,t,h,ht=>by rw[axW,awk]at h;have:=JV (e'::os) t h.2 ht;simp only[sxPut,axW,h.1,axi]at this|-;exact this
theorem Xw(os:List T):((rfPop os).map T.size).sum<=(os.map T.size).sum:=by
 unfold rfPop;cases h:os.getLast? with
 | none=>exact awj _
 | some e=>
  have h1:=IZ os.dropLast e;have h2:os=os.dropLast++[e]:=by rw[axS]at h;obtain⟨l,rfl⟩:=h;simp
  have h3:(os.map T.size).sum=(os.dropLast.map T.size).sum+e.size:=by
   conv=>lhs;rw[h2]
   rw[awt,axt];simp
  simp only[];omega
theorem aaQ(os:List T)(h:os.all (T.every cO)=true):(rfPop os).all (T.every cO)=true:=by
 unfold rfPop
 cases hl:os.getLast? with
 | none=>exact h
 | some e=>
  rw[axS]at hl;obtain⟨l,rfl⟩:=hl;rw[axG,awk]at h;simp only[List.dropLast_concat];exact JV _ _ h.1 (by simpa using h.2)
def P7(N:Nat)(t:T):Prop:=t.every cO=true/\t.size<=N
theorem kC{N:Nat}(h:1<=N):P7 N dR:=⟨by decide+kernel,h⟩
theorem SA{N:Nat}(hN:1<=N):∀(os:List T) (pos:Nat),os.all (T.every cO)=true->(os.map T.size).sum<=N->P7 N (kN os pos).1
 | [],_,_,_=>kC hN
 | e::os,pos,h,hs=>by
  unfold kN
  cases hk:e.kids with
  | nil=>simp only[hk];exact kC hN
  | cons t l=>
   simp only[hk];rw[axW,awk,T.gz,awk,hk,axW,awk]at h;refine⟨h.1.2.1,?_⟩;have:=T.size_eq e;rw[hk]at this;simp only[awo,aw8]at this hs;omega
theorem uY(N:Nat)(hN:1<=N)(UJ:N<=1000):∀(f:Nat) (os:List T) (r:By) (pos:Nat),os.all (T.every cO)=true->(os.map T.size).sum<=pos+1->pos+r.length+1<=N->P7 N (rfGo f os r pos).1
 | 0,_,_,_,_,_,_=>kC hN
 | f+1,os,[],pos,h,hs,hp=>by unfold rfGo IW;split;exact kC hN;exact SA hN _ _ h (by simp at hp;omega)
 | f+1,os,c::q,pos,h,hs,hp=>by
  simp only[awr]at hp;unfold rfGo;split;exact uY N hN UJ f _ _ _ h ae ae;split;split;exact kC hN;exact uY N hN UJ f _ _ _ (aaQ _ h) (by have:=Xw os;omega) ae;split;exact kC hN;split;exact kC hN;split;split;exact kC hN;refine uY N hN UJ f _ _ _ ?_ ?_ ae;rw[axG,h];rfl;rw[awt,axt];simp[T.size,T.sizes];omega;split;rename_i hw;have CE:=(xP c q).good (by simpa using hw);have hsn:=YF c q;generalize bK (c::q)=x at*;have ht:(x.tree pos).every cO=true/\(x.tree pos).size=1:=by refine⟨?_,rfl⟩;simp only[Tk.tree,T.every,T.everys,axP,cO,T.n,T.s,awk];exact⟨awO hsn.2,awO ae⟩
  refine uY N hN UJ f _ _ _ (JV _ _ h ht.1) ?_ ?_;have h1:=IZ os (x.tree pos);have h2:=CE.1;rw[ht.2]at h1;omega;rw[awQ];have:=CE.2.1;simp only[awr]at this|-;omega;exact kC hN
theorem aaR(l:By):P7 601 (dG l).1:=by unfold dG;split;exact kC ae;exact uY 601 ae ae _ _ _ _ (by decide+kernel) (by decide+kernel) ae
def JW(t:T):Bool:=!(t.kind==4)||decide (t.s.length<=40)
def zI(e:T):Bool:=!(e.kind==3)||decide (e.s.length<=40)
theorem VB{k:Int}{s:By}{n:Int}{l:List T}{p:Nat}(h:s.length<=40):zI (.mk k s n l p)=true:=by unfold zI;rw[awP];exact .inr (awO h)
theorem su{k:Int}{s:By}{n:Int}{l:List T}{p:Nat}(h1:zD n)(h2:s.length<=100000):cO (.mk k s n l p)=true:=by unfold cO;rw[awk];exact⟨awO h1,awO h2⟩
theorem pK{k:Int}{s:By}{n:Int}{l:List T}{p:Nat}(h:cO (.mk k s n l p)=true):zD n/\s.length<=100000:=by unfold cO at h;rw[awk]at h;exact⟨axI h.1,axI h.2⟩
theorem yM{p:T->Bool}(hz:dR.every p=true)(s:By)(hp:∀l,p (.mk 4 s 0 l 0)=true):∀(rs:List DU) (done:List T),(∀t∈done,t.every p=true)->(∀r∈rs,r.1.every p=true)->(xReads s done rs).1.every p=true
 | [],done,hd,_=>by simp only[xReads];rw[T.gz,hp];show (true&&done.all (T.every p))=true;rw[axi,awF];exact hd
 | r::rs,done,hd,hr=>by unfold xReads;split;refine yM hz s hp rs _ (λt ht=>?_) λx hx=>hr x (awn _ hx);rcases awD.1 ht with h|h;exact hd t h;simp at h;subst h;exact hr r (awp ..);exact hz
theorem oP(s:By)(n:Int)(l:List T)(p:Nat):xRead (.mk 1 s n l p)=(match l with
  | []=>ku 12 p
  | h::q=>if h.kind==2&&!(bI h.s==0) then (if q.length==bI h.s then xReads h.s [] (q.map xRead) else ku 23 p) else ku 12 p):=by
 cases l with
 | nil=>rfl
 | cons h q=>simp only[xRead,uk];rfl
theorem jT{k:Int}(s:By)(n:Int)(l:List T)(p:Nat)(h1:k≠1):xRead (.mk k s n l p)=if k==2 then (if iC s then (.mk 1 s 0 [] 0,0,0) else ku 20 p) else if k==3 then (.mk 2 [] n [] 0,0,0) else if k==4 then (.mk 3 s 0 [] 0,0,0) else ku 12 p:=by
 have h:(k==1)=false:=awg.2 h1
 cases l<;>simp only[xRead,h,awv,if_false]
mutual
theorem G5:∀t:T,t.every JW=true->(xRead t).1.every zI=true
 | .mk k s n l p,h=>by
  have hz:dR.every zI=true:=by decide+kernel
  rw[T.every,awk]at h;have hl:=zJ l h.2;by_cases k1:k=1;subst k1;rw[oP]
  cases l with
  | nil=>exact hz
  | cons hd q=>
   simp only;split;split;refine yM hz hd.s (λl=>rfl) _ [] (λt ht=>by cases ht) λr hr=>?_;obtain⟨t,ht,rfl⟩:=awN.1 hr;exact hl t (awn _ ht);exact hz;exact hz
  rw[jT s n l p k1];split;split;simp[T.every,T.everys,zI,T.kind];exact hz;split;simp[T.every,T.everys,zI,T.kind];split;rename_i h4;have h5:=h.1;unfold JW at h5;have h6:s.length<=40:=by rw[show (T.mk k s n l p).kind=k from rfl,h4,Bool.not_true,Bool.false_or]at h5;exact axI h5
  simp[T.every,T.everys,VB h6];exact hz
theorem zJ:∀l:List T,T.everys JW l=true->∀t∈l,(xRead t).1.every zI=true
 | [],_=>λt ht=>by cases ht
 | a::l,h=>by rw[T.everys,awk]at h;intro t ht;rcases awq.1 ht with h3|h3;rw[h3];exact G5 a h.1;exact zJ l h.2 t h3
end
mutual
theorem JX:∀t:T,t.every cO=true->(xRead t).1.every cO=true
 | .mk k s n l p,h=>by
  have hz:dR.every cO=true:=by decide+kernel
  rw[T.every,awk]at h;have hl:=BQ l h.2;have hl2:=h.2;have h1:=pK h.1;have DK:zD 0:=ai;by_cases k1:k=1;subst k1;rw[oP]
  cases l with
  | nil=>exact hz
  | cons hd q=>
   simp only;have hh:hd.s.length<=100000:=by rw[T.everys,awk,T.gz,awk]at hl2;have:=hl2.1.1;unfold cO at this;rw[awk]at this;exact axI this.2
   split;split;refine yM hz hd.s (λl=>?_) _ [] (λt ht=>by cases ht) λr hr=>?_;exact su DK hh;obtain⟨t,ht,rfl⟩:=awN.1 hr;exact hl t (awn _ ht);exact hz;exact hz
  rw[jT s n l p k1];split;split;simp[T.every,T.everys,su DK h1.2];exact hz;split;simp[T.every,T.everys,su h1.1 (show ([]:By).length<=100000 by simp)];split;simp[T.every,T.everys,su DK h1.2];exact hz
theorem BQ:∀l:List T,T.everys cO l=true->∀t∈l,(xRead t).1.every cO=true
 | [],_=>λt ht=>by cases ht
 | a::l,h=>by rw[T.everys,awk]at h;intro t ht;rcases awq.1 ht with h3|h3;rw[h3];exact JX a h.1;exact BQ l h.2 t h3
end
theorem G6(s:By):∀(rs:List DU) (done:List T),(xReads s done rs).1.size<=(done.map T.size).sum+(rs.map λr=>r.1.size).sum+1
 | [],done=>by simp only[xReads];rw[T.size_eq];simp[T.kids]
 | r::rs,done=>by unfold xReads;split;have:=G6 s rs (done++[r.1]);simp only[awt,axt,awo,aw8,awG,axT]at this|-;omega;simp[dR,T.size,T.sizes]
theorem JY{α:Type}{f g:α->Nat}:∀{l:List α},(∀x∈l,f x<=g x)->(l.map f).sum<=(l.map g).sum
 | [],_=>awj _
 | a::l,h=>by have h1:=h a (awp ..);have h2:=JY (l:=l) λx hx=>h x (awn _ hx);simp only[awo,aw8];omega
mutual
theorem JZ:∀t:T,(xRead t).1.size<=t.size
 | .mk k s n l p=>by
  have hp:=T.size_pos (.mk k s n l p);have hb:dR.size<=(T.mk k s n l p).size:=hp;have hl:=BR l;by_cases k1:k=1;subst k1;rw[oP]
  cases l with
  | nil=>exact hb
  | cons hd q=>
   simp only;split;split;have h1:=G6 hd.s (q.map xRead) [];have h2:((q.map xRead).map λr=>r.1.size).sum<=(q.map T.size).sum:=by rw[awy];exact JY λt ht=>hl t (awn _ ht)
   rw[T.size_eq (.mk 1 s n (hd::q) p)];simp only[T.kids,awo,aw8,awG,axT]at h1|-;omega;exact hb;exact hb
  rw[jT s n l p k1];split;split;exact hp;exact hb;split;exact hp;split;exact hp;exact hb
theorem BR:∀l:List T,∀t∈l,(xRead t).1.size<=t.size
 | []=>λt ht=>by cases ht
 | a::l=>by intro t ht;rcases awq.1 ht with h3|h3;rw[h3];exact JZ a;exact BR l t h3
end
mutual
theorem G7:∀t:T,(xRead t).2.1=0->dQ (xRead t).1=true
 | .mk k s n l p=>by
  intro h;have hl:=zK l;by_cases k1:k=1
  ·subst k1;rw[oP]at h|-
   cases l with
   | nil=>simp[ku]at h
   | cons hd q=>
    simp only at h|-;by_cases hk:(hd.kind==2&&!(bI hd.s==0))=true
    ·rw[if_pos hk]at h|-;by_cases hq:(q.length==bI hd.s)=true
     ·rw[if_pos hq]at h|-;have h3:∀(rs:List DU) (done:List T),(xReads hd.s done rs).2.1=0->(∀r∈rs,r.2.1=0)/\xReads hd.s done rs=(.mk 4 hd.s 0 (done++rs.map (·.1)) 0,0,0):=by
       intro rs
       induction rs with
       | nil=>intro done _;exact⟨(λ_ h=>by cases h),by simp[xReads]⟩
       | cons r rs ih=>
        intro done h;unfold xReads at h|-;by_cases hr:r.2.1=0;rw[if_pos (by simp[hr])]at h|-;obtain⟨h1,h2⟩:=ih (done++[r.1]) h;refine⟨λx hx=>?_,by rw[h2];simp⟩;rcases awq.1 hx with rfl|hx;exact hr;exact h1 x hx;rw[if_neg (by simp[hr])]at h;exact absurd h hr
      obtain⟨h1,h2⟩:=h3 _ [] h;rw[h2];simp only[axd,awy];simp only[awk,awx,axC,awg]at hk hq;rw[dQ,wM,awk,awF];refine⟨?_,λt ht=>?_⟩;have:(bI hd.s==0)=false:=awg.2 hk.2;have e:∀L:List T,lQ (.mk 4 hd.s 0 L 0)=(bI hd.s==0||!((0:Int)==0)||!(L.length==bI hd.s)):=λL=>rfl;rw[e,this,awh,hq];simp;obtain⟨u,hu,rfl⟩:=awN.1 ht;exact hl u (awn _ hu) (h1 _ (awN.2 ⟨u,hu,rfl⟩))
     rw[if_neg hq]at h;exact absurd h (by simp[ku])
    rw[if_neg hk]at h;exact absurd h (by simp[ku])
  rw[jT s n l p k1]at h|-;by_cases k2:k=2;subst k2;by_cases hn:iC s=true;simp[hn,dQ,rP,lQ,T.kind,T.s,T.n,T.kids];simp[hn,ku]at h;by_cases k3:k=3;subst k3;rfl;by_cases k4:k=4;subst k4;rfl;simp[k2,k3,k4,ku]at h
theorem zK:∀l:List T,∀t∈l,(xRead t).2.1=0->dQ (xRead t).1=true
 | []=>λt ht=>by cases ht
 | a::l=>by intro t ht;rcases awq.1 ht with h3|h3;rw[h3];exact G7 a;exact zK l t h3
end
theorem aaS{s:By}(h:(PH s||PI s)=true):s=Be∨s=Bf∨s=Bg∨s=UF∨s=UG∨s=Bh∨s=UH∨s=Bi∨s=Bj∨s=Bl∨s=Bo:=by unfold PH PI at h;simp only[awP,awx]at h;rcases h with (((((((h1|h1)|h1)|h1)|h1)|h1)|h1)|h1)|((h1|h1)|h1)<;>simp[h1]
theorem D5(s:By):∀(l:List (Int×Int)) (done:List Int),(∀r∈l,r.2=0)->xKindsGo s done l=bP s (done++l.map (·.1))
 | [],done,_=>by simp[xKindsGo]
 | r::l,done,h=>by unfold xKindsGo;rw[if_pos (by simp[h r (awp ..)]),D5 s l _ λx hx=>h x (awn _ hx)];simp
def uf:List C:=[(⟨#[97]⟩,1),(⟨#[99]⟩,1)]
abbrev af_:au:=.func (.func 182) #[] #[]
structure af'(b0:Nat)(w:ak)(x:M)(A:Option Addr)(n cap:Nat)(Z:List M):Prop where
 call:∀w1,Calls ax 182 #[.agg ↑x] w1 λe w'=>e=.returned (.slice A n cap)/\Ev w1 w'
 sl:Ms w A n cap Z
 lies:∀y∈Z,Lies b0 [] w y
 size:(Z.map λx=>x.t.size).sum+1<=x.t.size
 len:Z.length=n
theorem adw{b0:Nat}{w:ak}{x:M}(h:Lies b0 [] w x):∃A n cap Z,af' b0 w x A n cap Z:=by
 by_cases hk:x.kind=1
 ·refine⟨x.A,x.kids.length,x.cap,x.kids,λw1=>?_,h.ms,h.kid,?_,rfl⟩
  ·rw[hk];go_enter func182,ntmps182;go_wp2;go_ret;exact⟨rfl,Ev.alloc _ _⟩
  have h1:=T.size_eq x.t;rw[M.aZ,awy]at h1;have:(T.size ∘ M.t)=(λx:M=>x.t.size):=rfl;rw[this]at h1;omega
 refine⟨none,0,0,[],λw1=>?_,Sl.nil_ w,(λy hy=>by cases hy),?_,rfl⟩
 ·have hk':(x.kind !=1)=true:=by simp[hk]
  go_enter func182,ntmps182;go_wp2;go_ret;exact⟨rfl,Ev.alloc _ _⟩
 have:=T.size_pos x.t;simp;omega
structure PtT(m:M)(b0:Nat)(w0:ak)(v:au)(L:List M)(i:Nat)(w:ak):Prop where
 own:Ow 101 5 mc w0.heap.size w v L
 ev:Ev w0 w
 lies:∀x∈L,Lies b0 [] w0 x
 le:i<=L.length
 size:i+((L.drop i).map λx=>x.t.size).sum<=m.t.size
theorem PtT.short{m:M}{b0:Nat}{w0 w:ak}{v:au}{L:List M}{i:Nat}(h:PtT m b0 w0 v L i w):L.length<=m.t.size:=by exact azS
theorem PtT.next{m:M}{b0:Nat}{w0 w w':ak}{v v':au}{L Z:List M}{i:Nat}{x:M}(h:PtT m b0 w0 v L i w)(hx:L[i]?=some x)(hZ:∀y∈Z,Lies b0 [] w0 y)(hs:(Z.map λx=>x.t.size).sum+1<=x.t.size)(ho:Ow 101 5 mc w0.heap.size w' v' (L++Z))(hE:Ev w0 w'):PtT m b0 w0 v' (L++Z) (i+1) w':=by
 obtain⟨hi,hxe⟩:=awi.1 hx;have hd:L.drop i=x::L.drop (i+1):=by rw[axc hi,hxe]
 have hd2:(L++Z).drop (i+1)=L.drop (i+1)++Z:=by rw[List.drop_append_of_le_length hi]
 refine⟨ho,hE,λy hy=>?_,by rw[awl];omega,?_⟩;rcases awD.1 hy with h1|h1;exact h.lies y h1;exact hZ y h1;have h1:=h.size;rw[hd]at h1;rw[hd2];simp only[awt,axt,awo,aw8]at h1|-;omega
theorem YI(m:M)(b0:Nat)(w:ak)(h:Lies b0 [] w m)(hsz:m.t.size<=16000):
  Calls ax 181 #[.agg ↑m,af_] w λe w'=>∃(A:Option Addr) (n cap:Nat),e=.returned (.tuple #[.slice A n cap,.bool true])/\Ev w w':=by
 have aW:=(Ev.alloc w (.cells ↑m 101)).trans (Ev.alloc _ (.cells ↑m 101));have hP:PtT m b0 w (.slice (some ⟨w.heap.size+1,0,none⟩) 1 1) [m] 0 ((w.alloc (.cells ↑m 101)).alloc (.cells ↑m 101)):=by refine⟨?_,aW,λx hx=>by simp at hx;subst hx;exact h,aj,aj⟩;have:=Ow.made (et:=101) (base:=w.heap.size) gW (w.alloc (.cells ↑m 101)) [m] ↑m rfl aj aj;simpa using this
 have HP:=zq hP;clear hP aW;go_enter func181,ntmps181;go_wp2
 go_loopw [6,7] (λav iv wr=>∃(A:Option Addr) (n cap i:Nat) (L:List M),av=.slice A n cap/\iv=↑i/\n=L.length/\Hid (PtT m b0 w (.slice A n cap) L i wr)) (λ_ iv _=>m.t.size - (intOf iv).toNat)
 case atStart=>exact⟨_,1,1,0,[m],rfl,rfl,rfl,HP⟩
 case round=>
  obtain⟨A,n,cap,i,L,rfl,rfl,hn,HS⟩:=hrel;have hns:=HS.out.short;rw[<-hn]at hns;have jg:=zq hn;clear hn;obtain⟨_,cap',ZJ,qm,hA⟩:=HS.out.own.form gW;injection ZJ with h1 h2 h3
  subst h1 h3;clear h2;rw[<-jg.out]at qm;have zA:=qm.le;have hcm:=qm.max;by_cases hi:i<n
  ·obtain⟨x,hx⟩:=qm.at hi;obtain⟨b,off,rfl,hb,c0,c1,c2,c3,c4⟩:=Ms.cell qm hx;have HX:=zq hx;have UI:=HS.out.lies x (awm hx);obtain⟨xA,xn,am9,Z,hKA⟩:=adw UI;have Ih:xn+n<=m.t.size:=by
    have h4:=HS.out.size;have hd:L.drop i=x::L.drop (i+1):=by obtain⟨hi',e⟩:=awi.1 hx;rw[axc hi',e]
    rw[hd]at h4;have h5:=hKA.size;have h6:=jS (Z.map M.t);rw[awh,awy,hKA.len]at h6;have h7:=jS ((L.drop (i+1)).map M.t);rw[awh,awy,awQ,<-jg.out]at h7;have:(T.size ∘ M.t)=(λx:M=>x.t.size):=rfl;rw[this]at h6 h7;simp only[awo,aw8]at h4;omega
   have HKA:=zq hKA;have kZ:=zq hKA.call;have Ny:=zq hKA.len;have kc1:=hKA.sl.le;have kc2:=hKA.sl.max;unfold M.kv at c3;have i1:(0:Int)<=(i:Int):=ae;have i2:(i:Int)<(n:Int):=ae;have i3:¬((16384:Int) - (n:Int)<(xn:Int)):=ae;clear hx UI hA qm hb hKA
   go_wp2_with (first
    | ((with_reducible refine(kZ.out _).mono ?_);rintro e w1 ⟨rfl,aK⟩)
    | ((show wpList _ _ _ (⟨some 31,_,_,_,_,_⟩::_) _ _);refine aO (o:=⟨some 31,_,_,_,_,_⟩) rfl 99 (.tmp 29) (.tmp 30) rfl gW underlying99 Tryz.infoTree rfl rfl (HS.out.own.ev aK) xA xn am9 Z rfl (HKA.out.sl.ev (HS.out.ev.trans aK)) (by rw[Ny.out,<-jg.out];omega) (by rw[Ny.out,<-jg.out];omega) (HS.out.ev.trans aK).size ?_;intro v2 w2 gV;have E2:=((But.aV (HS.out.ev.trans aK)).then gV.2.1).ev (λk hk=>(HS.out.own.lt (aG.1 hk)).1);have S2:=HS.out.next HX.out HKA.out.lies HKA.out.size gV.1 E2;obtain⟨A2,cap2,rfl,_,_⟩:=gV.1.form gW;generalize CU:(L++Z).length=nn at S2|-;have FQ:=zq CU.symm;clear CU))
   exact aAB
  have hin:i=L.length:=by have:=HS.out.le;have:=jg.out;omega
  have i2:¬((i:Int)<(n:Int)):=ae;go_wp2
  go_ret2
  exact⟨⟨_,_,_,rfl⟩,HS.out.ev⟩
theorem nK{w wa wb:ak}{x:M}{g:Nat}(hE:Ev w wb)(hg:w.heap.size<=g)(hL:Lx wa.heap.size [] wb x)(hga:g<wa.heap.size)(v0 v1 v2 v3:au):Lx w.heap.size [] (kG g v0 v1 v2 v3 wb) x/\Ev w (kG g v0 v1 v2 v3 wb):=
 ⟨((hL.less (K':=[g]) λk hk=>by simp at hk;subst hk;exact .inr (.inl hga)).move (eP _ _ _ _ _ _) λk hk=>by cases hk).low ae,hE.box (eP _ _ _ _ _ _) hg⟩
theorem Kt(w:ak)(c0 c1 c2 c3 c4:au):∃w0,(w.alloc (.cells #[c0,c1,c2,c3,c4] 101)).alloc (.cells ↑Zz.e 47)=w0/\Ev w w0/\Bx 101 w.heap.size #[c0,c1,c2,c3,c4] w0/\Bx 47 (w.heap.size+1) ↑Zz.e w0/\w.heap.size+1<w0.heap.size:=by
 have hB:Bx 47 (w.heap.size+1) ↑Zz.e ((w.alloc (.cells #[c0,c1,c2,c3,c4] 101)).alloc (.cells ↑Zz.e 47)):=by have:=Bx.new 47 ↑Zz.e (w.alloc (.cells #[c0,c1,c2,c3,c4] 101));simpa using this
 exact⟨_,rfl,(Ev.alloc w _).trans az,(Bx.new 101 #[c0,c1,c2,c3,c4] w).ev az,hB,hB.lt⟩
theorem SI(why:Int)(m:M)(w:ak):Calls ax 183 #[↑why,.agg ↑m] w (BK (dR,why,m.pos) w):=by
 obtain⟨w0,hw0,aW,hX,hB,hlt⟩:=Kt w ↑m.kind ↑m.s ↑m.n (.slice m.A m.kids.length m.cap) ↑m.pos;have HE:=zq aW;have HB:=zq hB;obtain⟨⟨c0,c1,c2,c3,c4⟩,_⟩:=hX.five;obtain⟨⟨yJ,yK,yL,MO⟩,zi,zk,xJ,MP⟩:=hB.four;clear aW hX hB;go_enter func183,ntmps183;go_wp2
 go_region
 all_goals (
  go_wp2;(try simp only[Exit.inBlock,Exit.then]);rw[dK];refine bodyPost_ret (aI rfl _ _ _ _ _ rfl ((HB.out.ev (Ev.drew w0)).kG _ _ _ _) underlying47 rfl Tryz.eQ) rfl ?_;exact⟨iU,rfl,rfl,Lx.leaf,(HE.out.trans (Ev.drew w0)).box (eP _ _ _ _ _ _) ae⟩
  )
theorem VF{α:Type}{P:Program}{ops:Array Oper}{o:Oper}{a:Act}{w:ak}{K:Act->ak->Prop}{Q:Exit->Act->ak->Prop}{E:Prop}
  (hg:o.guard=none) (f:FuncId) (xs:Array Operand) (ts:Array TypeId) (hop:o.op=.call {callee:=.value (.func f),args:=xs,argTypes:=ts}) (hb:Fb P f=true) (args:Array au) (ha:xs.map a.eval=args) {F:α->au} {S:α->ak->Prop}
  (hc:Calls P f args w λe w'=>∃x:α,e=.returned (F x)/\S x w') (hK:∀x w',S x w'->K (a.put o.dst (F x)) w'):
  if Region.wanted o (yielded ops a.tmps)=true then Oper.wp P o a w K Q else E:=by
 rw[if_pos (ay hg)];unfold Oper.wp;rw[bC f xs ts hop hb w,ha];refine hc.mono ?_;rintro e w' ⟨x,rfl,h⟩;exact hK x w' h
theorem Ku{α:Type}{k:Nat}{enc:α->List au}{et:TypeId}{base:Nat}{v:au}{Z:List α}{P:Program}{ops:Array Oper}{o:Oper}{a:Act}{w:ak}{K:Act->ak->Prop}{Q:Exit->Act->ak->Prop}{E0:Prop}
  (hg:o.guard=none) (T:TypeId) (s x:Operand) (hop:o.op=.call {callee:=.builtin .append,args:=#[s,x],argTypes:=#[T,T]}) (E:Enc k enc)
  (ht:P.underlying T=some (.slice et)) {zero:au} {bytes:Nat} (hi:(P.info? et).map (λi=>(i.zero,i.size,i.bytes))=some (some zero,k,bytes)) (hz:zero.cells.size=k)
  (hs:a.eval s=v) (hown:Ow et k enc base w v Z) (A:Option Addr) (m c:Nat) (l:List α) (hx:a.eval x=.slice A m c) (hB:Sl k enc w A m c l)
  (hbytes:(Z.length+l.length)*bytes<=140737488355328) (hsm:Z.length+l.length<=1000000000) (hbase:base<=w.heap.size)
  (hK:∀v' w',nR et k enc base w v (Z++l) v' w'->K (a.put o.dst v') w'):
  if Region.wanted o (yielded ops a.tmps)=true then Oper.wp P o a w K Q else E0:=by
 rw[if_pos (ay hg)];obtain⟨v',w',hr,h2,h3,h4,_⟩:=j_ (P:=P) E T o.type ht hi hz hown A m c l hB hbytes hsm hbase;unfold Oper.wp execOp;simp only[hop,resolve,invoke,builtin,Sem.run_bind,Sem.run_pure,Result.andThen_ok,axl,awo,awG,hs,hx,hr];exact hK _ _ ⟨h2,h3,h4⟩
def gq(t:T)(w:ak)(e:Ending)(w':ak):Prop:=∃x:M,e=.returned (.agg ↑x)/\x.t=t/\Lies w.heap.size [] w' x/\Ev w w'
def VG(N:Nat):Prop:=∀(m:M) (b0:Nat) (w:ak),m.dep<=N->Lies b0 [] w m->m.t.every cO=true->m.t.size<=16000->
 Calls ax 184 #[.agg ↑m] w (BK (xRead m.t) w)
theorem azu(h:U:=by(try simp only[Exit.inBlock,Exit.then]);rw[dK];refine bodyPost_ret (aI rfl _ _ _ _ _ rfl (B1.kG _ _ _ _) underlying47 rfl Tryz.eQ) rfl ?_;exact⟨x,by rw[HK.out];rfl,by rw[qj.out,HK.out];rfl,FIN.out _ _ _ _⟩):U:=h
theorem ayu(h:U:=by
 go_wp2_with (first
  | ((with_reducible refine(HWR.out 12 _).mono ?_);rintro e w1 ⟨x,rfl,jI,iJ,aK⟩;have qj:=zq jI;have B1:=HB.out.ev aK;have FIN:=zq (λv0 v1 v2 v3=>nK (g:=w.heap.size+1) (HE.out.trans aK) ae iJ rO.out v0 v1 v2 v3);obtain⟨⟨yJ,yK,yL,MO⟩,zi,zk,xJ,MP⟩:=B1.four;clear jI iJ))
 exact azu):U:=h
theorem P9(N:Nat)(ih:VG N)(m:M)(b0:Nat)(w:ak)(hd:m.dep<=N+1)(hL:Lies b0 [] w m)(hfair:m.t.every cO=true)(hsz:m.t.size<=16000)(wE:m.kind=1):
  Calls ax 197 #[.agg ↑m] w (BK (xRead m.t) w):=by
 have pq:m.kids.length<=16000:=by have h1:=T.size_eq m.t;have h2:=jS m.t.kids;rw[M.aZ,awh]at h2;rw[M.aZ]at h1;omega
 have zx:=zq hsz;have dL:=xRead_eq m;rw[wE]at dL;have fJ:=hL.ms;unfold VG at ih;have mP:=zq ih;have HL:=zq hL;have HD:=zq hd;have JR:=zq hfair;have hwr:=λwhy w1=>SI why m w1;rw[wE]at hwr|-;have HWR:=zq hwr;clear hwr;obtain⟨R,hR⟩:∃R,R=xRead m.t:=⟨_,rfl⟩
 rw[<-hR]at dL|-;obtain⟨kn,hkn⟩:∃kn,kn=m.kids.length:=⟨_,rfl⟩
 rw[<-hkn]at fJ pq HWR|-;have mF:=zq hkn;generalize ZN:m.A=mA at*;generalize hmc:m.cap=kJ at*;have hcm:=fJ.max;have hcl:=fJ.le;have DT:=zq fJ;obtain⟨w0,hw0,aW,hX,hB,hlt⟩:=Kt w (.int .i64 1) ↑m.s ↑m.n (.slice mA kn kJ) ↑m.pos;have HE:=zq aW;have HX:=zq hX;have HB:=zq hB;have rO:=zq hlt;obtain⟨⟨c0,c1,c2,c3,c4⟩,_⟩:=hX.five;obtain⟨⟨yJ,yK,yL,MO⟩,zi,zk,xJ,MP⟩:=hB.four;simp only[awZ,if_true,show ((1:Int)==2)=false from rfl,show ((1:Int)==3)=false from rfl,show ((1:Int)==4)=false from rfl,awv,if_false]at dL;clear ih hL hd hfair hkn aW hX hB hR ZN hmc fJ hlt hsz wE
 cases hk:m.kids with
 | nil=>
  obtain rfl:kn=0:=by rw[mF.out,hk];rfl
  rw[hk]at dL;have HK:Hid (R=ku 12 m.pos):=zq dL;clear dL;go_enter func197,ntmps197
  go_wp2_with (first
   | ((with_reducible refine(HWR.out 12 _).mono ?_);rintro e w1 ⟨x,rfl,jI,iJ,aK⟩;have qj:=zq jI;have B1:=HB.out.ev aK;have FIN:=zq (λv0 v1 v2 v3=>nK (g:=w.heap.size+1) (HE.out.trans aK) ae iJ rO.out v0 v1 v2 v3);obtain⟨⟨yJ,yK,yL,MO⟩,zi,zk,xJ,MP⟩:=B1.four;clear jI iJ))
  (try simp only[Exit.inBlock,Exit.then]);rw[dK];refine bodyPost_ret (aI rfl _ _ _ _ _ rfl (B1.kG _ _ _ _) underlying47 rfl Tryz.eQ) rfl ?_;exact⟨x,by rw[HK.out];rfl,by rw[qj.out,HK.out];rfl,FIN.out _ _ _ _⟩
 | cons hm1 q=>
  have aaF:kn=q.length+1:=by rw[mF.out,hk];rfl
  rw[hk]at dL;obtain⟨b,off,rfl,hb,h0,h1,_,_,_⟩:=DT.out.cell (i:=0) (x:=hm1) (by rw[hk];rfl);simp only[awW,awM]at h0 h1;have HH:Hid (∀w1,Ev w w1->w1.cell? ⟨b,off,none⟩=some ↑hm1.kind/\w1.cell? ⟨b,off+1,none⟩=some ↑hm1.s):=zq λw1 hE=>⟨(hE.cell (p:=⟨_,_,none⟩) hb).trans h0,(hE.cell (p:=⟨_,_,none⟩) hb).trans h1⟩
  clear h0 h1;obtain⟨h0,h1⟩:=HH.out _ HE.out;have i0:¬((kn:Int)=0):=ae;have i0':((kn:Int)==0)=false:=awg.2 i0;have i1:(0:Int)<(kn:Int):=ae;have HKQ:=zq aaF;have aaG:=zq hk;clear aaF hk;by_cases hh:hm1.kind=2
  ·have hhb:(hm1.kind==2)=true:=awx.2 hh;have hhn:(hm1.kind !=2)=false:=by simp[hh]
   have HT:=λw1=>GU hm1.s w1;unfold dh at HT;obtain⟨t,ht⟩:∃t,t=bI hm1.s:=⟨_,rfl⟩
   simp only[hhb,axi]at dL;rw[<-ht]at HT dL;have HT:=zq HT;have E3:=Ev.alloc w0 (.cells #[.int .i64 4,↑hm1.s,.int .i64 0,↑()] 47);have HI0:=zq (FV.init w0 hm1.s);have YJ:=zq E3;have HBA:=zq (HB.out.ev YJ.out);have HXA:=zq (HX.out.ev YJ.out);obtain⟨⟨d0,d1,d2,d3⟩,r0,r1,r2,r3⟩:=HI0.out.box.four;obtain⟨⟨cc0,cc1,cc2,cc3,cc4⟩,_⟩:=HXA.out.five;obtain⟨⟨asU,asV,asW,asX⟩,asY,asZ,as1,as2⟩:=HBA.out.four;obtain⟨hh0,hh1⟩:=HH.out _ (HE.out.trans YJ.out);clear hh ht E3;by_cases hz:t=0
   ·subst hz;have HK:Hid (R=ku 12 m.pos):=zq (by rw[dL];rfl);clear dL;go_enter func197,ntmps197
    go_wp2_with (first
     | ((with_reducible refine(HT.out _).mono ?_);rintro e w1 ⟨rfl,rfl⟩)
     | ((with_reducible refine(HWR.out 12 _).mono ?_);rintro e w1 ⟨x,rfl,jI,iJ,aK⟩;have qj:=zq jI;have B1:=HBA.out.ev aK;have FIN:=zq (λv0 v1 v2 v3=>nK (g:=w.heap.size+1) ((HE.out.trans YJ.out).trans aK) ae iJ (awz rO.out YJ.out.size) v0 v1 v2 v3);obtain⟨⟨yJ,yK,yL,MO⟩,zi,zk,xJ,MP⟩:=B1.four;clear jI iJ))
    exact azu
   have z1:¬((t:Int)=0):=ae;have z2:((t:Int)==0)=false:=awg.2 z1;have htb:(t==0)=false:=awg.2 hz;rw[htb]at dL;simp only[Bool.not_false,if_true]at dL;by_cases hq:q.length=t
   ·rw[if_pos (awx.2 hq)]at dL;have HK:=zq dL;have HQ:=zq hq;have Xt:(t:Int)=(kn:Int) - 1:=by have:=HKQ.out;omega
    have af0:((t:Int)==((kn:Int) - 1))=true:=awx.2 Xt;have af1:((t:Int) !=((kn:Int) - 1))=false:=by simp;exact Xt
    have m1:¬(kJ=1):=by have:=HKQ.out;omega
    have m2:(1:Int)<=(kn:Int):=ae;have m3:(1:Int)<=(kJ:Int):=ae;have m4:(kn:Int)<=(kJ:Int):=ae;clear dL Xt hq;go_enter func197,ntmps197
    go_wp2_with (first
     | ((with_reducible refine(HT.out _).mono ?_);rintro e w1 ⟨rfl,rfl⟩))
    have aa0:Hid (kn=t+1):=zq (by have:=HKQ.out;have:=HQ.out;omega)
    go_loopw [62] (λiv wr=>∃(A:Option Addr) (n cap:Nat) (L:List M),iv=↑n/\n<=t/\Hid (FV w0 w0.heap.size hm1.s A n cap L wr)/\Hid (R=xReads hm1.s (L.map M.t) ((q.drop n).map λx=>xRead x.t))) (λiv _=>t - (intOf iv).toNat)
    case atStart=>exact⟨none,0,0,[],rfl,aww _,HI0,HK⟩
    case round=>
     obtain⟨A,n,cap,L,rfl,hj,HS,HR⟩:=hrel;have ou:=zq (HE.out.trans HS.out.ev);have FW:=zq HS.out.ev;obtain⟨⟨c0,c1,c2,c3,c4⟩,_⟩:=(HX.out.ev FW.out).five;obtain⟨⟨yJ,yK,yL,MO⟩,zi,zk,xJ,MP⟩:=(HB.out.ev FW.out).four;obtain⟨⟨d0,d1,d2,d3⟩,r0,r1,r2,r3⟩:=HS.out.box.four;have t_:=zq HS.out.len;by_cases hlt:n<t
     ·obtain⟨x,hx⟩:∃x,q[n]?=some x:=⟨_,awE (by have:=HQ.out;omega)⟩
      have iP:m.kids[n+1]?=some x:=by rw[aaG.out];simpa using hx
      obtain⟨b',off',he,_,x0,x1,x2,x3,x4⟩:=Ms.cell (DT.out.ev ou.out) iP;injection he with he
      injection he with he1 JS _
      subst he1 JS;have aiE:off+(n+1)*5=off+5+n*5:=ae;rw[aiE]at x0 x1 x2 x3 x4;have hdj:q.drop n=x::q.drop (n+1):=by obtain⟨hj',e⟩:=awi.1 hx;rw[axc hj',e]
      have mY:=HR.out;rw[hdj,awo]at mY;unfold xReads at mY;have Q8:=awm iP;have hxf:x.t.every cO=true:=by exact aAM
      have UD:x.t.size<=16000:=by exact az5
      have HI:=λw1 (hE:Ev w w1)=>mP.out x b0 w1 (by have:=M.mg Q8;have:=HD.out;omega) ((HL.out.kid x Q8).ev hE) hxf UD;unfold BK at HI;unfold M.kv at x3;generalize xRead x.t=rx at*;obtain⟨rt,ry,rp⟩:=rx;simp only at mY HI;have HI:=zq HI;have hnb:n<=20000:=by have:=aa0.out;omega
      have i2:(n:Int)<(t:Int):=ae;have i3:(0:Int)<=(n:Int):=ae;have i4:(n:Int)<(kn:Int) - 1:=by have:=aa0.out;omega
      have i5:(n:Int)<((kn - 1:Nat):Int):=by have:=aa0.out;omega
      have PK:=zq (Ev.alloc wr (.cells ↑x 101));clear hx iP hdj Q8 hxf UD aiE;by_cases hw:ry=0
      ·subst hw;rw[if_pos (by rfl)]at mY;have uX:=zq mY;clear mY
       go_wp2_with (first
        | ((with_reducible refine(HI.out _ (ou.out.trans PK.out)).mono ?_);rintro e w1 ⟨x',rfl,jI,iJ,aK⟩;have qj:=zq jI;have qC:=zq (iJ.low PK.out.size);have E1:=zq (PK.out.trans aK);obtain⟨⟨d0,d1,d2,d3⟩,r0,r1,r2,r3⟩:=(HS.out.box.ev (E1.out.trans (Ev.alloc w1 (.cells ↑(x',()) 47)))).four;clear jI iJ)
        | ((show wpList _ _ _ (⟨some 81,_,_,_,_,_⟩::_) _ _);refine aO (o:=⟨some 81,_,_,_,_,_⟩) rfl 28 (.tmp 78) (.tmp 80) rfl xU underlying28 Tryz.zF rfl rfl (HS.out.own.ev (E1.out.trans ((Ev.alloc w1 _).trans az))) (some ⟨w1.heap.size+1,0,none⟩) 1 1 [x'] rfl (by have:=Sl.one (et:=47) xU (w1.alloc (.cells ↑(x',()) 47)) x' ↑(x',()) rfl;simpa using this) (by rw[t_.out];simp;omega) (by rw[t_.out];simp;omega) (by have h7:=HS.out.box.lt;have h8:=(E1.out.trans ((Ev.alloc w1 (.cells ↑(x',()) 47)).trans (Ev.alloc _ (.cells ↑(x',()) 47)))).size;omega) ?_;intro v2 w2 gV;obtain⟨⟨d0,d1,d2,d3⟩,r0,r1,r2,r3⟩:=(HS.out.after (E1.out.trans ((Ev.alloc w1 _).trans az)) gV).four;obtain⟨A2,cap2,rfl,ST2⟩:=HS.out.next (E1.out.trans ((Ev.alloc w1 _).trans az)) (qC.out.ev ((Ev.alloc w1 _).trans az)) gV))
       go_roundw
       case rel=>exact⟨A2,n+1,cap2,L++[x'],by go_num,ae,zq ST2,zq (by rw[uX.out,awt,awo,awG,qj.out])⟩
       case measure=>simp[intOf];omega
      have MN:(ry==0)=false:=awg.2 hw;have hwn:(ry !=0)=true:=by simp[hw]
      rw[MN]at mY;simp only[awv,if_false]at mY;have uX:=zq mY;clear mY
      go_wp2_with (first
       | ((with_reducible refine(HI.out _ (ou.out.trans PK.out)).mono ?_);rintro e w1 ⟨x',rfl,jI,iJ,aK⟩;have E1:=ou.out.trans (PK.out.trans (aK.trans (Ev.alloc w1 (.cells ↑(x',()) 47))));have B1:=HB.out.ev (FW.out.trans (PK.out.trans (aK.trans (Ev.alloc w1 (.cells ↑(x',()) 47)))));obtain⟨⟨yJ,yK,yL,MO⟩,zi,zk,xJ,MP⟩:=B1.four))
      exact azo
     have hjk:n=t:=ae;have i2:¬((n:Int)<(t:Int)):=ae;have i4:¬((n:Int)<(kn:Int) - 1):=by have:=aa0.out;omega
     have i5:¬((n:Int)<((kn - 1:Nat):Int)):=by have:=aa0.out;omega
     have mY:=HR.out;rw[aw2 (by have:=HQ.out;omega)]at mY;simp only[awG,xReads]at mY;have uX:=zq mY;obtain⟨hlx,hnl⟩:=HS.out.done (b0:=w.heap.size) HE.out.size;have hlg:=(HS.out.done (b0:=w0.heap.size) (awj _)).1;have aaI:=zq (hlg.less (K':=[w.heap.size+1]) λk hk=>by simp at hk;subst hk;exact .inr (.inl rO.out));clear hlg;have jg:=zq hnl;clear mY hjk hlx hnl;go_wp2;(try simp only[Exit.inBlock,Exit.then]);rw[dK];refine bodyPost_ret (aI rfl _ _ _ _ _ rfl ((HB.out.ev FW.out).kG _ _ _ _) underlying47 rfl Tryz.eQ) rfl ?_;refine⟨.mk 4 hm1.s 0 A cap L 0,by rw[uX.out];simp only[M.kids];rw[<-jg.out];rfl,by rw[uX.out];simp[M.t,M.jJ],?_,ou.out.box (eP _ _ _ _ _ _) ae⟩;exact(aaI.out.move (eP _ _ _ _ _ _) λk hk=>by cases hk).low (by have:=rO.out;omega)
   rw[if_neg (by simp;exact hq)]at dL;have HK:Hid (R=ku 23 m.pos):=zq dL;have Xt:¬((t:Int)=(kn:Int) - 1):=by have:=HKQ.out;omega
   have af0:((t:Int)==((kn:Int) - 1))=false:=awg.2 Xt;have af1:((t:Int) !=((kn:Int) - 1))=true:=by simp;exact Xt
   clear dL;go_enter func197,ntmps197
   go_wp2_with (first
    | ((with_reducible refine(HT.out _).mono ?_);rintro e w1 ⟨rfl,rfl⟩)
    | ((with_reducible refine(HWR.out 23 _).mono ?_);rintro e w1 ⟨x,rfl,jI,iJ,aK⟩;have qj:=zq jI;have B1:=HBA.out.ev aK;have FIN:=zq (λv0 v1 v2 v3=>nK (g:=w.heap.size+1) ((HE.out.trans YJ.out).trans aK) ae iJ (awz rO.out YJ.out.size) v0 v1 v2 v3);obtain⟨⟨yJ,yK,yL,MO⟩,zi,zk,xJ,MP⟩:=B1.four;clear jI iJ))
   exact azu
  have hhb:(hm1.kind==2)=false:=awg.2 hh;have hhn:(hm1.kind !=2)=true:=by simp[hh]
  simp only[hhb,aw6,awv,if_false]at dL;have HK:Hid (R=ku 12 m.pos):=zq dL;clear dL;go_enter func197,ntmps197;exact ayu
theorem adx(N:Nat):VG N:=by
 induction N with
 | zero=>
  intro m b0 w hd;rw[M.nT]at hd;omega
 | succ N ih=>
  intro m b0 w hd hL hfair hsz;have dL:=xRead_eq m;have Ij:m.s.length<=100000:=by exact aAv
  have HWR:=zq (λwhy w1=>SI why m w1);have HAP:=zq (λw1 (hE:Ev w w1) (hk:m.kind=1)=>P9 N ih m b0 w1 hd (hL.ev hE) hfair hsz hk);have hc1:=hL.ms.le;have hc2:=hL.ms.max;obtain⟨w0,hw0,aW,hX,hB,hlt⟩:=Kt w ↑m.kind ↑m.s ↑m.n (.slice m.A m.kids.length m.cap) ↑m.pos;have HE:=zq aW;have HB:=zq hB;have HX:=zq hX;have rO:=zq hlt;obtain⟨⟨c0,c1,c2,c3,c4⟩,_⟩:=hX.five;obtain⟨⟨yJ,yK,yL,MO⟩,zi,zk,xJ,MP⟩:=hB.four;obtain⟨R,hR⟩:∃R,R=xRead m.t:=⟨_,rfl⟩
  rw[<-hR]at dL HAP|-;clear ih hL hd hfair aW hX hB hR hlt hsz;by_cases k1:m.kind=1
  ·have anb:=zq (λw1 hE=>HAP.out w1 hE k1);have k1b:(m.kind==1)=true:=awx.2 k1;clear HAP dL k1;go_enter func184,ntmps184
   go_wp2_with (first
    | ((with_reducible refine(anb.out _ HE.out).mono ?_);rintro e w1 ⟨x,rfl,jI,iJ,aK⟩;have qj:=zq jI;have B1:=HB.out.ev aK;have FIN:=zq (λv0 v1 v2 v3=>nK (g:=w.heap.size+1) (HE.out.trans aK) ae iJ rO.out v0 v1 v2 v3);obtain⟨⟨yJ,yK,yL,MO⟩,zi,zk,xJ,MP⟩:=B1.four;clear jI iJ))
   (try simp only[Exit.inBlock,Exit.then]);rw[dK];refine bodyPost_ret (aI rfl _ _ _ _ _ rfl (B1.kG _ _ _ _) underlying47 rfl Tryz.eQ) rfl ?_;exact⟨x,rfl,qj.out,FIN.out _ _ _ _⟩
  have k1':(m.kind==1)=false:=awg.2 k1;rw[k1']at dL;by_cases k2:m.kind=2
  ·have k2b:(m.kind==2)=true:=awx.2 k2;rw[k2b]at dL;simp only[if_true]at dL;have HN:=λw1=>xW (dh m.s) w1;unfold dh at HN;rw[show iC m.s=fK ⟨m.s.toArray⟩ from rfl]at dL;clear k1 k2
   cases hn:fK ⟨m.s.toArray⟩ with
   | false=>
    rw[hn]at dL HN;simp only[awv,if_false]at dL;have HK:=zq dL;have HN:=zq HN;clear dL;go_enter func184,ntmps184
    go_wp2_with (first
     | ((with_reducible refine(HN.out _).mono ?_);rintro e wn ⟨rfl,hEn⟩;have HEN:=zq hEn;obtain⟨⟨c0,c1,c2,c3,c4⟩,_⟩:=(HX.out.ev hEn).five)
     | ((with_reducible refine(HWR.out 20 _).mono ?_);rintro e w1 ⟨x,rfl,jI,iJ,aK⟩;have qj:=zq jI;have B1:=HB.out.ev (HEN.out.trans aK);have FIN:=zq (λv0 v1 v2 v3=>nK (g:=w.heap.size+1) ((HE.out.trans HEN.out).trans aK) ae iJ (awz rO.out HEN.out.size) v0 v1 v2 v3);obtain⟨⟨yJ,yK,yL,MO⟩,zi,zk,xJ,MP⟩:=B1.four;clear jI iJ))
    exact azu
   | true=>
    rw[hn]at dL HN;simp only[if_true]at dL;have HK:=zq dL;have HN:=zq HN;clear dL;go_enter func184,ntmps184
    go_wp2_with (first|((with_reducible refine(HN.out _).mono ?_);rintro e w1 ⟨rfl,aK⟩;have E1:=HE.out.trans aK;have B1:=HB.out.ev aK;obtain⟨⟨c0,c1,c2,c3,c4⟩,_⟩:=(HX.out.ev aK).five;obtain⟨⟨yJ,yK,yL,MO⟩,zi,zk,xJ,MP⟩:=B1.four))
    exact ay7
  have k2':(m.kind==2)=false:=awg.2 k2;rw[k2']at dL;by_cases k3:m.kind=3
  ·have k3b:(m.kind==3)=true:=awx.2 k3;rw[k3b]at dL;have HK:Hid (R=(.mk 2 [] m.n [] 0,0,0)):=zq dL;clear dL k1 k2 k3;go_enter func184,ntmps184;exact ayY
  have ZL:(m.kind==3)=false:=awg.2 k3;rw[ZL]at dL;by_cases k4:m.kind=4
  ·have k4b:(m.kind==4)=true:=awx.2 k4;rw[k4b]at dL;have HK:Hid (R=(.mk 3 m.s 0 [] 0,0,0)):=zq dL;clear dL k1 k2 k3 k4;go_enter func184,ntmps184;exact ayZ
  have k4':(m.kind==4)=false:=awg.2 k4;rw[k4']at dL;have HK:Hid (R=ku 12 m.pos):=zq dL;clear dL k1 k2 k3 k4;go_enter func184,ntmps184;exact ayu
theorem ady(m:M)(b0:Nat)(w:ak)(hL:Lies b0 [] w m)(hfair:m.t.every cO=true)(hsz:m.t.size<=16000):
  Calls ax 157 #[.agg ↑m] w (BK (xRead m.t) w):=by
 have HP:=zq (λw1 (hE:Ev w w1)=>YI m b0 w1 (hL.ev hE) hsz);have HR:=zq (λw1 (hE:Ev w w1)=>adx m.dep m b0 w1 (awj _) (hL.ev hE) hfair hsz);have hc1:=hL.ms.le;have hc2:=hL.ms.max;obtain⟨w0,hw0,aW,hX,hB,hlt⟩:=Kt w ↑m.kind ↑m.s ↑m.n (.slice m.A m.kids.length m.cap) ↑m.pos;have HE:=zq aW;have HB:=zq hB;have HX:=zq hX;have rO:=zq hlt;obtain⟨⟨c0,c1,c2,c3,c4⟩,_⟩:=hX.five;obtain⟨⟨yJ,yK,yL,MO⟩,zi,zk,xJ,MP⟩:=hB.four;generalize xRead m.t=R at*;clear hL hfair aW hX hB hlt hsz;go_enter func157,ntmps157
 go_wp2_with (first
  | ((with_reducible refine(HP.out _ HE.out).mono ?_);rintro e wn ⟨A,n,cap,rfl,hEn⟩;have HEN:=zq hEn;obtain⟨⟨c0,c1,c2,c3,c4⟩,_⟩:=(HX.out.ev hEn).five)
  | ((with_reducible refine(HR.out _ (HE.out.trans HEN.out)).mono ?_);rintro e w1 ⟨x,rfl,jI,iJ,aK⟩;have qj:=zq jI;have B1:=HB.out.ev (HEN.out.trans aK);have FIN:=zq (λv0 v1 v2 v3=>nK (g:=w.heap.size+1) ((HE.out.trans HEN.out).trans aK) ae iJ (awz rO.out HEN.out.size) v0 v1 v2 v3);obtain⟨⟨yJ,yK,yL,MO⟩,zi,zk,xJ,MP⟩:=B1.four;clear jI iJ))
 (try simp only[Exit.inBlock,Exit.then]);rw[dK];refine bodyPost_ret (aI rfl _ _ _ _ _ rfl (B1.kG _ _ _ _) underlying47 rfl Tryz.eQ) rfl ?_;exact⟨x,rfl,qj.out,FIN.out _ _ _ _⟩
theorem jk{P:Program}{ρ:Operand->au}{o:Oper}{x:Operand}{T:TypeId}{g:Nat}{cs:Array au}{w:ak}{d:TypeDesc}(ho:o.op=.load T x)(hx:ρ x=.pointer ↑g)(hB:Bx T g cs w)
  (hu:P.underlying T=some d) (hd:(match d with|.struct _|.array _ _=>true|_=>false)=true) (hi:(P.info? T).map (·.size)=some cs.size):
  (execOp ρ o).run P w=.ok (.value (.agg cs)) w:=by
 have h:=run_loadVar_row w g T T _ (0,0) _ hB.blk hu hd hi;unfold execOp;rw[ho];simp only[hx,Instr.loadAt,Instr.sureAddr,Sem.run_bind,Sem.run_pure,Result.andThen_ok,h]
end Go.Proofs.YtpbfokkocaemlaaGreatDoor
