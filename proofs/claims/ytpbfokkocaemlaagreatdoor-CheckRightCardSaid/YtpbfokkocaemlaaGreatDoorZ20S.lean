import Derived.Test.YtpbfokkocaemlaaGreatDoorZ19S
import Derived.Test.YtpbfokkocaemlaaGreatDoorZ16S
set_option linter.unusedVariables false
set_option maxRecDepth 100000
set_option maxHeartbeats 64000000
namespace Go.Proofs.YtpbfokkocaemlaaGreatDoor
open Go.RowKit
open Go.Lib renaming hid → zq
theorem CU:∀(N:Nat) (r b:By) (i:Nat),r.length≤N→(sxTextGo b r i).s.length≤40
 | 0,[],b,i,_=>by simp[sxTextGo,aV]
 | N+1,[],b,i,_=>by simp[sxTextGo,aV]
 | 0,c::q,b,i,h=>by simp at h
 | N+1,c::q,b,i,h=>by
  have hq:q.length≤N:=by simpa using h
  unfold sxTextGo;split;exact CU N q _ _ hq;split
  cases q with
  | nil=>simp[aV]
  | cons x q1=>
   simp only[]
   cases gV x with
   | none=>simp[aV]
   | some a=>
    cases q1 with
    | nil=>simp[aV]
    | cons y q2=>
     simp only[]
     cases gV y with
     | none=>simp[aV]
     | some k=>exact CU N q2 _ _ (by simp at hq;omega)
  split;split;simp[aV];rename_i h;simp;omega;simp[aV]
theorem G7 (plus:Bool) (d:By) (hd:∀c∈d,aW c=true):yL (sxNum plus d).n∧(sxNum plus d).s=[]:=by
 unfold sxNum
 cases hb:sxBelow d 0 with
 | none=>exact⟨(show yL 0 by decide),rfl⟩
 | some n=>
  have hr:=qE d hd 0 n (by omega) (by omega) hb;simp only[];split;exact⟨(show yL 0 by decide),rfl⟩;rename_i h1
  cases plus
  simp only[atE,if_false];exact⟨⟨hr.1,by omega⟩,by simp⟩;simp at h1;simp only[if_true];exact⟨⟨by omega,by have:=h1.2;omega⟩,by simp⟩
theorem W_ (c:UInt8) (q:By):(bF (c::q)).s.length≤q.length+41∧yL (bF (c::q)).n:=by simp only[bF];split;exact⟨by simp,by decide⟩;split;exact⟨by simp,by decide⟩;split;have:=CU q.length q [] 1 (att _);rw[Io q.length q [] 1 (att _)];exact⟨by omega,by decide⟩;split;simp only[dI];split;obtain⟨h1,h2⟩:=G7 false (dE q) (eH q);exact⟨by rw[h2];simp,h1⟩;obtain⟨h1,h2⟩:=G7 true (dE (c::q)) (eH (c::q));exact⟨by rw[h2];simp,h1⟩;split;exact⟨by simp only[aua,atF];omega,by show yL 0;decide⟩;exact⟨by simp[aV],by show yL 0;decide⟩
theorem T.Zd (e t:T):(e.add t).size=e.size+t.size:=by rw[T.size_eq,T.size_eq e];show ((e.kids++[t]).map T.size).sum+1=_;rw[atB,auL];simp;omega
theorem T.Ze (e t:T):(e.add t).every bZ=(e.every bZ&&t.every bZ):=by rw[T.fQ,T.fQ bZ e];show (bZ e&&(e.kids++[t]).all (T.every bZ))=_;rw[auZ,Bool.and_assoc];simp
theorem G8:∀(os:List T) (t:T),((sxPut os t).map T.size).sum≤(os.map T.size).sum+t.size
 | [],t=>by simp[sxPut]
 | [e],t=>by simp[sxPut,T.Zd]
 | e::e'::os,t=>by have:=G8 (e'::os) t;simp only[sxPut,atx,auo]at this⊢;omega
theorem IJ:∀(os:List T) (t:T),os.all (T.every bZ)=true→t.every bZ=true→(sxPut os t).all (T.every bZ)=true
 | [],t,_,_=>rfl
 | [e],t,h,ht=>by simp only[avd,List.all_nil,au8]at h;simp[sxPut,T.Ze,h,ht]
 | e::e'::os,t,h,ht=>by rw[avd,atu]at h;have:=IJ (e'::os) t h.2 ht;simp only[sxPut,avd,h.1,auA]at this⊢;exact this
theorem VJ (os:List T):((rfPop os).map T.size).sum≤(os.map T.size).sum:=by
 unfold rfPop;cases h:os.getLast? with
 | none=>exact att _
 | some e=>
  have h1:=G8 os.dropLast e;have h2:os=os.dropLast++[e]:=by rw[au']at h;obtain⟨l,rfl⟩:=h;simp
  have h3:(os.map T.size).sum=(os.dropLast.map T.size).sum+e.size:=by
   conv=>lhs;rw[h2]
   rw[atB,auL];simp
  simp only[];omega
theorem Zf (os:List T) (h:os.all (T.every bZ)=true):(rfPop os).all (T.every bZ)=true:=by
 unfold rfPop
 cases hl:os.getLast? with
 | none=>exact h
 | some e=>
  rw[au']at hl;obtain⟨l,rfl⟩:=hl;rw[auZ,atu]at h;simp only[List.dropLast_concat];exact IJ _ _ h.1 (by simpa using h.2)
def Ov (N:Nat) (t:T):Prop:=t.every bZ=true∧t.size≤N
theorem jI {N:Nat} (h:1≤N):Ov N dM:=⟨by decide+kernel,h⟩
theorem QB {N:Nat} (hN:1≤N):∀(os:List T) (pos:Nat),os.all (T.every bZ)=true→(os.map T.size).sum≤N→Ov N (jT os pos).1
 | [],_,_,_=>jI hN
 | e::os,pos,h,hs=>by
  unfold jT
  cases hk:e.kids with
  | nil=>simp only[hk];exact jI hN
  | cons t l=>
   simp only[hk];rw[avd,atu,T.fQ,atu,hk,avd,atu]at h;refine⟨h.1.2.1,?_⟩;have:=T.size_eq e;rw[hk]at this;simp only[atx,auo]at this hs;omega
theorem ug (N:Nat) (hN:1≤N) (SV:N≤1000):∀(f:Nat) (os:List T) (r:By) (pos:Nat),os.all (T.every bZ)=true→(os.map T.size).sum≤pos+1→pos+r.length+1≤N→Ov N (rfGo f os r pos).1
 | 0,_,_,_,_,_,_=>jI hN
 | f+1,os,[],pos,h,hs,hp=>by unfold rfGo G5;split;exact jI hN;exact QB hN _ _ h (by simp at hp;omega)
 | f+1,os,c::q,pos,h,hs,hp=>by
  simp only[atF]at hp;unfold rfGo;split;exact ug N hN SV f _ _ _ h (by omega) (by omega);split;split;exact jI hN;exact ug N hN SV f _ _ _ (Zf _ h) (by have:=VJ os;omega) (by omega);split;exact jI hN;split;exact jI hN;split;split;exact jI hN;refine ug N hN SV f _ _ _ ?_ ?_ (by omega);rw[auZ,h];rfl;rw[atB,auL];simp[T.size,T.sizes];omega;split;rename_i hw;have A8:=(wI c q).good (by simpa using hw);have hsn:=W_ c q;generalize bF (c::q)=x at*;have ht:(x.tree pos).every bZ=true∧(x.tree pos).size=1:=by refine⟨?_,rfl⟩;simp only[Tk.tree,T.every,T.everys,au8,bZ,T.n,T.s,atu];exact⟨atX hsn.2,atX (by omega)⟩
  refine ug N hN SV f _ _ _ (IJ _ _ h ht.1) ?_ ?_;have h1:=G8 os (x.tree pos);have h2:=A8.1;rw[ht.2]at h1;omega;rw[at1];have:=A8.2.1;simp only[atF]at this⊢;omega;exact jI hN
theorem Zg (l:By):Ov 601 (dB l).1:=by unfold dB;split;exact jI (by omega);exact ug 601 (by omega) (by omega) _ _ _ _ (by decide+kernel) (by decide+kernel) (by omega)
def IK (t:T):Bool:=!(t.kind==4)||decide (t.s.length≤40)
def yQ (e:T):Bool:=!(e.kind==3)||decide (e.s.length≤40)
theorem Uf {k:Int} {s:By} {n:Int} {l:List T} {p:Nat} (h:s.length≤40):yQ (.mk k s n l p)=true:=by unfold yQ;rw[atZ];exact .inr (atX h)
theorem qR {k:Int} {s:By} {n:Int} {l:List T} {p:Nat} (h1:yL n) (h2:s.length≤100000):bZ (.mk k s n l p)=true:=by unfold bZ;rw[atu];exact⟨atX h1,atX h2⟩
theorem oG {k:Int} {s:By} {n:Int} {l:List T} {p:Nat} (h:bZ (.mk k s n l p)=true):yL n∧s.length≤100000:=by unfold bZ at h;rw[atu]at h;exact⟨au1 h.1,au1 h.2⟩
theorem xR {p:T→Bool} (hz:dM.every p=true) (s:By) (hp:∀l,p (.mk 4 s 0 l 0)=true):∀(rs:List CG) (done:List T),(∀t∈done,t.every p=true)→(∀r∈rs,r.1.every p=true)→(xReads s done rs).1.every p=true
 | [],done,hd,_=>by simp only[xReads];rw[T.fQ,hp];show (true&&done.all (T.every p))=true;rw[auA,atL];exact hd
 | r::rs,done,hd,hr=>by unfold xReads;split;refine xR hz s hp rs _ (fun t ht=>?_) fun x hx=>hr x (aty _ hx);rcases atK.1 ht with h|h;exact hd t h;simp at h;subst h;exact hr r (atz ..);exact hz
theorem nT (s:By) (n:Int) (l:List T) (p:Nat):xRead (.mk 1 s n l p)=(match l with
  | []=>jH 12 p
  | h::q=>if h.kind==2&&!(bC h.s==0) then (if q.length==bC h.s then xReads h.s [] (q.map xRead) else jH 23 p) else jH 12 p):=by
 cases l with
 | nil=>rfl
 | cons h q=>simp only[xRead,sF];rfl
theorem jB {k:Int} (s:By) (n:Int) (l:List T) (p:Nat) (h1:k≠1):xRead (.mk k s n l p)=if k==2 then (if jh s then (.mk 1 s 0 [] 0,0,0) else jH 20 p) else if k==3 then (.mk 2 [] n [] 0,0,0) else if k==4 then (.mk 3 s 0 [] 0,0,0) else jH 12 p:=by
 have h:(k==1)=false:=atp.2 h1
 cases l<;>simp only[xRead,h,atE,if_false]
mutual
theorem FD:∀t:T,t.every IK=true→(xRead t).1.every yQ=true
 | .mk k s n l p,h=>by
  have hz:dM.every yQ=true:=by decide+kernel
  rw[T.every,atu]at h;have hl:=yR l h.2;by_cases k1:k=1;subst k1;rw[nT]
  cases l with
  | nil=>exact hz
  | cons hd q=>
   simp only;split;split;refine xR hz hd.s (fun l=>rfl) _ [] (fun t ht=>by cases ht) fun r hr=>?_;obtain⟨t,ht,rfl⟩:=atV.1 hr;exact hl t (aty _ ht);exact hz;exact hz
  rw[jB s n l p k1];split;split;simp[T.every,T.everys,yQ,T.kind];exact hz;split;simp[T.every,T.everys,yQ,T.kind];split;rename_i h4;have h5:=h.1;unfold IK at h5;have h6:s.length≤40:=by rw[show (T.mk k s n l p).kind=k from rfl,h4,Bool.not_true,Bool.false_or]at h5;exact au1 h5
  simp[T.every,T.everys,Uf h6];exact hz
theorem yR:∀l:List T,T.everys IK l=true→∀t∈l,(xRead t).1.every yQ=true
 | [],_=>fun t ht=>by cases ht
 | a::l,h=>by rw[T.everys,atu]at h;intro t ht;rcases atA.1 ht with h3|h3;rw[h3];exact FD a h.1;exact yR l h.2 t h3
end
mutual
theorem IL:∀t:T,t.every bZ=true→(xRead t).1.every bZ=true
 | .mk k s n l p,h=>by
  have hz:dM.every bZ=true:=by decide+kernel
  rw[T.every,atu]at h;have hl:=Aw l h.2;have hl2:=h.2;have h1:=oG h.1;have Cf:yL 0:=by decide
  by_cases k1:k=1;subst k1;rw[nT]
  cases l with
  | nil=>exact hz
  | cons hd q=>
   simp only;have hh:hd.s.length≤100000:=by rw[T.everys,atu,T.fQ,atu]at hl2;have:=hl2.1.1;unfold bZ at this;rw[atu]at this;exact au1 this.2
   split;split;refine xR hz hd.s (fun l=>?_) _ [] (fun t ht=>by cases ht) fun r hr=>?_;exact qR Cf hh;obtain⟨t,ht,rfl⟩:=atV.1 hr;exact hl t (aty _ ht);exact hz;exact hz
  rw[jB s n l p k1];split;split;simp[T.every,T.everys,qR Cf h1.2];exact hz;split;simp[T.every,T.everys,qR h1.1 (show ([]:By).length≤100000 by simp)];split;simp[T.every,T.everys,qR Cf h1.2];exact hz
theorem Aw:∀l:List T,T.everys bZ l=true→∀t∈l,(xRead t).1.every bZ=true
 | [],_=>fun t ht=>by cases ht
 | a::l,h=>by rw[T.everys,atu]at h;intro t ht;rcases atA.1 ht with h3|h3;rw[h3];exact IL a h.1;exact Aw l h.2 t h3
end
theorem FH (s:By):∀(rs:List CG) (done:List T),(xReads s done rs).1.size≤(done.map T.size).sum+(rs.map fun r=>r.1.size).sum+1
 | [],done=>by simp only[xReads];rw[T.size_eq];simp[T.kids]
 | r::rs,done=>by unfold xReads;split;have:=FH s rs (done++[r.1]);simp only[atB,auL,atx,auo,atQ,ava]at this⊢;omega;simp[dM,T.size,T.sizes]
theorem IM {α:Type} {f g:α→Nat}:∀{l:List α},(∀x∈l,f x≤g x)→(l.map f).sum≤(l.map g).sum
 | [],_=>att _
 | a::l,h=>by have h1:=h a (atz ..);have h2:=IM (l:=l) fun x hx=>h x (aty _ hx);simp only[atx,auo];omega
mutual
theorem IP:∀t:T,(xRead t).1.size≤t.size
 | .mk k s n l p=>by
  have hp:=T.size_pos (.mk k s n l p);have hb:dM.size≤(T.mk k s n l p).size:=hp;have hl:=Az l;by_cases k1:k=1;subst k1;rw[nT]
  cases l with
  | nil=>exact hb
  | cons hd q=>
   simp only;split;split;have h1:=FH hd.s (q.map xRead) [];have h2:((q.map xRead).map fun r=>r.1.size).sum≤(q.map T.size).sum:=by rw[atI];exact IM fun t ht=>hl t (aty _ ht)
   rw[T.size_eq (.mk 1 s n (hd::q) p)];simp only[T.kids,atx,auo,atQ,ava]at h1⊢;omega;exact hb;exact hb
  rw[jB s n l p k1];split;split;exact hp;exact hb;split;exact hp;split;exact hp;exact hb
theorem Az:∀l:List T,∀t∈l,(xRead t).1.size≤t.size
 | []=>fun t ht=>by cases ht
 | a::l=>by intro t ht;rcases atA.1 ht with h3|h3;rw[h3];exact IP a;exact Az l t h3
end
mutual
theorem FI:∀t:T,(xRead t).2.1=0→dK (xRead t).1=true
 | .mk k s n l p=>by
  intro h;have hl:=yS l;by_cases k1:k=1
  ·subst k1;rw[nT]at h⊢
   cases l with
   | nil=>simp[jH]at h
   | cons hd q=>
    simp only at h⊢;by_cases hk:(hd.kind==2&&!(bC hd.s==0))=true
    ·rw[if_pos hk]at h⊢;by_cases hq:(q.length==bC hd.s)=true
     ·rw[if_pos hq]at h⊢;have h3:∀(rs:List CG) (done:List T),(xReads hd.s done rs).2.1=0→(∀r∈rs,r.2.1=0)∧xReads hd.s done rs=(.mk 4 hd.s 0 (done++rs.map (·.1)) 0,0,0):=by
       intro rs
       induction rs with
       | nil=>intro done _;exact⟨(fun _ h=>by cases h),by simp[xReads]⟩
       | cons r rs ih=>
        intro done h;unfold xReads at h⊢;by_cases hr:r.2.1=0;rw[if_pos (by simp[hr])]at h⊢;obtain⟨h1,h2⟩:=ih (done++[r.1]) h;refine⟨fun x hx=>?_,by rw[h2];simp⟩;rcases atA.1 hx with rfl|hx;exact hr;exact h1 x hx;rw[if_neg (by simp[hr])]at h;exact absurd h hr
      obtain⟨h1,h2⟩:=h3 _ [] h;rw[h2];simp only[auv,atI];simp only[atu,atH,auV,atp]at hk hq;rw[dK,u_,atu,atL];refine⟨?_,fun t ht=>?_⟩;have:(bC hd.s==0)=false:=atp.2 hk.2;have e:∀L:List T,kT (.mk 4 hd.s 0 L 0)=(bC hd.s==0||!((0:Int)==0)||!(L.length==bC hd.s)):=fun L=>rfl;rw[e,this,atq,hq];simp;obtain⟨u,hu,rfl⟩:=atV.1 ht;exact hl u (aty _ hu) (h1 _ (atV.2 ⟨u,hu,rfl⟩))
     rw[if_neg hq]at h;exact absurd h (by simp[jH])
    rw[if_neg hk]at h;exact absurd h (by simp[jH])
  rw[jB s n l p k1]at h⊢;by_cases k2:k=2;subst k2;by_cases hn:jh s=true;simp[hn,dK,qJ,kT,T.kind,T.s,T.n,T.kids];simp[hn,jH]at h;by_cases k3:k=3;subst k3;rfl;by_cases k4:k=4;subst k4;rfl;simp[k2,k3,k4,jH]at h
theorem yS:∀l:List T,∀t∈l,(xRead t).2.1=0→dK (xRead t).1=true
 | []=>fun t ht=>by cases ht
 | a::l=>by intro t ht;rcases atA.1 ht with h3|h3;rw[h3];exact FI a;exact yS l t h3
end
theorem Zh {s:By} (h:(Ob s||Oc s)=true):s=zS∨s=zT∨s=zU∨s=SL∨s=SN∨s=zV∨s=SQ∨s=zW∨s=zX∨s=zY∨s=zZ:=by unfold Ob Oc at h;simp only[atZ,atH]at h;rcases h with (((((((h1|h1)|h1)|h1)|h1)|h1)|h1)|h1)|((h1|h1)|h1)<;>simp[h1]
theorem CV (s:By):∀(l:List (Int×Int)) (done:List Int),(∀r∈l,r.2=0)→xKindsGo s done l=bH s (done++l.map (·.1))
 | [],done,_=>by simp[xKindsGo]
 | r::l,done,h=>by unfold xKindsGo;rw[if_pos (by simp[h r (atz ..)]),CV s l _ fun x hx=>h x (aty _ hx)];simp
def rX:List C:=[(⟨#[97]⟩,1),(⟨#[99]⟩,1)]
abbrev aen:Value:=.func (.func 182) #[] #[]
structure aeo (b0:Nat) (w:World) (x:M) (A:Option Addr) (n cap:Nat) (Z:List M):Prop where
 call:∀w1,Calls Tryz.prog 182 #[.agg #[.int .i64 x.kind,.string ⟨x.s.toArray⟩,.int .i64 x.n,.slice x.A x.kids.length x.cap,.int .i64 (x.pos:Int)]] w1 fun e w'=>e=.returned (.slice A n cap)∧Ev w1 w'
 sl:Ms w A n cap Z
 lies:∀y∈Z,Lies b0 [] w y
 size:(Z.map fun x=>x.t.size).sum+1≤x.t.size
 len:Z.length=n
theorem abR {b0:Nat} {w:World} {x:M} (h:Lies b0 [] w x):∃A n cap Z,aeo b0 w x A n cap Z:=by
 by_cases hk:x.kind=1
 ·refine⟨x.A,x.kids.length,x.cap,x.kids,fun w1=>?_,h.ms,h.kid,?_,rfl⟩
  ·rw[hk];go_enter Tryz.func182,Tryz.ntmps182;go_wp2;go_ret;exact⟨rfl,Ev.alloc _ _⟩
  have h1:=T.size_eq x.t;rw[M.aY,atI]at h1;have:(T.size ∘ M.t)=(fun x:M=>x.t.size):=rfl;rw[this]at h1;omega
 refine⟨none,0,0,[],fun w1=>?_,Sl.nil_ w,(fun y hy=>by cases hy),?_,rfl⟩
 ·have hk':(x.kind !=1)=true:=by simp[hk]
  go_enter Tryz.func182,Tryz.ntmps182;go_wp2;go_ret;exact⟨rfl,Ev.alloc _ _⟩
 have:=T.size_pos x.t;simp;omega
structure PtT (m:M) (b0:Nat) (w0:World) (v:Value) (L:List M) (i:Nat) (w:World):Prop where
 own:Ow 101 5 mc w0.heap.size w v L
 ev:Ev w0 w
 lies:∀x∈L,Lies b0 [] w0 x
 le:i≤L.length
 size:i+((L.drop i).map fun x=>x.t.size).sum≤m.t.size
theorem PtT.short {m:M} {b0:Nat} {w0 w:World} {v:Value} {L:List M} {i:Nat} (h:PtT m b0 w0 v L i w):L.length≤m.t.size:=by exact axb
theorem PtT.next {m:M} {b0:Nat} {w0 w w':World} {v v':Value} {L Z:List M} {i:Nat} {x:M} (h:PtT m b0 w0 v L i w) (hx:L[i]?=some x) (hZ:∀y∈Z,Lies b0 [] w0 y) (hs:(Z.map fun x=>x.t.size).sum+1≤x.t.size) (ho:Ow 101 5 mc w0.heap.size w' v' (L++Z)) (hE:Ev w0 w'):PtT m b0 w0 v' (L++Z) (i+1) w':=by
 obtain⟨hi,hxe⟩:=atr.1 hx;have hd:L.drop i=x::L.drop (i+1):=by rw[auu hi,hxe]
 have hd2:(L++Z).drop (i+1)=L.drop (i+1)++Z:=by rw[List.drop_append_of_le_length hi]
 refine⟨ho,hE,fun y hy=>?_,by rw[atv];omega,?_⟩;rcases atK.1 hy with h1|h1;exact h.lies y h1;exact hZ y h1;have h1:=h.size;rw[hd]at h1;rw[hd2];simp only[atB,auL,atx,auo]at h1⊢;omega
theorem Xc (m:M) (b0:Nat) (w:World) (h:Lies b0 [] w m) (hsz:m.t.size≤16000):
  Calls Tryz.prog 181 #[.agg #[.int .i64 m.kind,.string ⟨m.s.toArray⟩,.int .i64 m.n,.slice m.A m.kids.length m.cap,.int .i64 (m.pos:Int)],aen] w fun e w'=>∃(A:Option Addr) (n cap:Nat),e=.returned (.tuple #[.slice A n cap,.bool true])∧Ev w w':=by
 have aT:=(Ev.alloc w (.cells #[.int .i64 m.kind,.string ⟨m.s.toArray⟩,.int .i64 m.n,.slice m.A m.kids.length m.cap,.int .i64 (m.pos:Int)] 101)).trans (Ev.alloc _ (.cells #[.int .i64 m.kind,.string ⟨m.s.toArray⟩,.int .i64 m.n,.slice m.A m.kids.length m.cap,.int .i64 (m.pos:Int)] 101));have hP:PtT m b0 w (.slice (some ⟨w.heap.size+1,0,none⟩) 1 1) [m] 0 ((w.alloc (.cells #[.int .i64 m.kind,.string ⟨m.s.toArray⟩,.int .i64 m.n,.slice m.A m.kids.length m.cap,.int .i64 (m.pos:Int)] 101)).alloc (.cells #[.int .i64 m.kind,.string ⟨m.s.toArray⟩,.int .i64 m.n,.slice m.A m.kids.length m.cap,.int .i64 (m.pos:Int)] 101)):=by refine⟨?_,aT,fun x hx=>by simp at hx;subst hx;exact h,by simp,by simp⟩;have:=Ow.made (et:=101) (base:=w.heap.size) gB (w.alloc (.cells #[.int .i64 m.kind,.string ⟨m.s.toArray⟩,.int .i64 m.n,.slice m.A m.kids.length m.cap,.int .i64 (m.pos:Int)] 101)) [m] #[.int .i64 m.kind,.string ⟨m.s.toArray⟩,.int .i64 m.n,.slice m.A m.kids.length m.cap,.int .i64 (m.pos:Int)] rfl (by simp) (by simp);simpa using this
 have HP:=zq hP;clear hP aT;go_enter Tryz.func181,Tryz.ntmps181;go_wp2
 go_loopw [6,7] (fun av iv wr=>∃(A:Option Addr) (n cap i:Nat) (L:List M),av=.slice A n cap∧iv=.int .i64 (i:Int)∧n=L.length∧Hid (PtT m b0 w (.slice A n cap) L i wr)) (fun _ iv _=>m.t.size - (intOf iv).toNat)
 case atStart=>exact⟨_,1,1,0,[m],rfl,rfl,rfl,HP⟩
 case round=>
  obtain⟨A,n,cap,i,L,rfl,rfl,hn,HS⟩:=hrel;have hns:=HS.out.short;rw[←hn]at hns;have iQ:=zq hn;clear hn;obtain⟨_,cap',Yf,oZ,hA⟩:=HS.out.own.form gB;injection Yf with h1 h2 h3
  subst h1;subst h3;clear h2;rw[←iQ.out]at oZ;have yI:=oZ.le;have hcm:=oZ.max;by_cases hi:i<n
  ·obtain⟨x,hx⟩:=oZ.at hi;obtain⟨b,off,rfl,hb,c0,c1,c2,c3,c4⟩:=Ms.cell oZ hx;have HX:=zq hx;have SS:=HS.out.lies x (atw hx);obtain⟨xA,xn,akO,Z,hKA⟩:=abR SS;have Gp:xn+n≤m.t.size:=by
    have h4:=HS.out.size;have hd:L.drop i=x::L.drop (i+1):=by obtain⟨hi',e⟩:=atr.1 hx;rw[auu hi',e]
    rw[hd]at h4;have h5:=hKA.size;have h6:=jA (Z.map M.t);rw[atq,atI,hKA.len]at h6;have h7:=jA ((L.drop (i+1)).map M.t);rw[atq,atI,at1,←iQ.out]at h7;have:(T.size ∘ M.t)=(fun x:M=>x.t.size):=rfl;rw[this]at h6 h7;simp only[atx,auo]at h4;omega
   have HKA:=zq hKA;have lu:=zq hKA.call;have LJ:=zq hKA.len;have kc1:=hKA.sl.le;have kc2:=hKA.sl.max;unfold M.kv at c3;have i1:(0:Int)≤(i:Int):=by omega
   have i2:(i:Int)<(n:Int):=by omega
   have i3:¬((16384:Int) - (n:Int)<(xn:Int)):=by omega
   clear hx SS hA oZ hb hKA
   go_wp2_with (first
    | ((with_reducible refine (lu.out _).mono ?_);rintro e w1 ⟨rfl,aH⟩)
    | ((show wpList _ _ _ (⟨some 31,_,_,_,_,_⟩::_) _ _);refine aK (o:=⟨some 31,_,_,_,_,_⟩) rfl 99 (.tmp 29) (.tmp 30) rfl gB Tryz.underlying99 Tryz.infoTree rfl rfl (HS.out.own.ev aH) xA xn akO Z rfl (HKA.out.sl.ev (HS.out.ev.trans aH)) (by rw[LJ.out,←iQ.out];omega) (by rw[LJ.out,←iQ.out];omega) (HS.out.ev.trans aH).size ?_;intro v2 w2 gz;have E2:=((But.aS (HS.out.ev.trans aH)).then gz.2.1).ev (fun k hk=>(HS.out.own.lt (aB.1 hk)).1);have S2:=HS.out.next HX.out HKA.out.lies HKA.out.size gz.1 E2;obtain⟨A2,cap2,rfl,_,_⟩:=gz.1.form gB;generalize BX:(L++Z).length=nn at S2⊢;have En:=zq BX.symm;clear BX))
   exact axS
  have hin:i=L.length:=by have:=HS.out.le;have:=iQ.out;omega
  have i2:¬((i:Int)<(n:Int)):=by omega
  go_wp2
  go_ret2
  exact⟨⟨_,_,_,rfl⟩,HS.out.ev⟩
theorem mJ {w wa wb:World} {x:M} {g:Nat} (hE:Ev w wb) (hg:w.heap.size≤g) (hL:Lx wa.heap.size [] wb x) (hga:g<wa.heap.size) (v0 v1 v2 v3:Value):Lx w.heap.size [] (jM g v0 v1 v2 v3 wb) x∧Ev w (jM g v0 v1 v2 v3 wb):=
 ⟨((hL.less (K':=[g]) fun k hk=>by simp at hk;subst hk;exact .inr (.inl hga)).move (dW _ _ _ _ _ _) fun k hk=>by cases hk).low (by omega),hE.box (dW _ _ _ _ _ _) hg⟩
theorem I8 (w:World) (c0 c1 c2 c3 c4:Value):∃w0,(w.alloc (.cells #[c0,c1,c2,c3,c4] 101)).alloc (.cells #[.int .i64 0,.string ⟨#[]⟩,.int .i64 0,.slice none 0 0] 47)=w0∧Ev w w0∧Bx 101 w.heap.size #[c0,c1,c2,c3,c4] w0∧Bx 47 (w.heap.size+1) #[.int .i64 0,.string ⟨#[]⟩,.int .i64 0,.slice none 0 0] w0∧w.heap.size+1<w0.heap.size:=by
 have hB:Bx 47 (w.heap.size+1) #[.int .i64 0,.string ⟨#[]⟩,.int .i64 0,.slice none 0 0] ((w.alloc (.cells #[c0,c1,c2,c3,c4] 101)).alloc (.cells #[.int .i64 0,.string ⟨#[]⟩,.int .i64 0,.slice none 0 0] 47)):=by have:=Bx.new 47 #[.int .i64 0,.string ⟨#[]⟩,.int .i64 0,.slice none 0 0] (w.alloc (.cells #[c0,c1,c2,c3,c4] 101));simpa using this
 exact⟨_,rfl,(Ev.alloc w _).trans (Ev.alloc _ _),(Bx.new 101 #[c0,c1,c2,c3,c4] w).ev (Ev.alloc _ _),hB,hB.lt⟩
theorem QH (why:Int) (m:M) (w:World):Calls Tryz.prog 183 #[.int .i64 why,.agg #[.int .i64 m.kind,.string ⟨m.s.toArray⟩,.int .i64 m.n,.slice m.A m.kids.length m.cap,.int .i64 (m.pos:Int)]] w (Ap (dM,why,m.pos) w):=by
 obtain⟨w0,hw0,aT,hX,hB,hlt⟩:=I8 w (.int .i64 m.kind) (.string ⟨m.s.toArray⟩) (.int .i64 m.n) (.slice m.A m.kids.length m.cap) (.int .i64 (m.pos:Int));have HE:=zq aT;have HB:=zq hB;obtain⟨⟨c0,c1,c2,c3,c4⟩,_⟩:=hX.five;obtain⟨⟨xO,xP,xQ,KL⟩,KN,KO,KP,KQ⟩:=hB.four;clear aT hX hB;go_enter Tryz.func183,Tryz.ntmps183;go_wp2
 go_region
 all_goals (
  go_wp2;(try simp only[Exit.inBlock,Exit.then]);rw[dF];refine bodyPost_ret (aF rfl _ _ _ _ _ rfl ((HB.out.ev (Ev.drew w0)).jM _ _ _ _) Tryz.underlying47 rfl Tryz.dX) rfl ?_;exact⟨iK,rfl,rfl,Lx.leaf,(HE.out.trans (Ev.drew w0)).box (dW _ _ _ _ _ _) (by omega)⟩
  )
theorem Ui {α:Type} {P:Program} {ops:Array Oper} {o:Oper} {a:Act} {w:World} {K:Act→World→Prop} {Q:Exit→Act→World→Prop} {E:Prop}
  (hg:o.guard=none) (f:FuncId) (xs:Array Operand) (ts:Array TypeId) (hop:o.op=.call {callee:=.value (.func f),args:=xs,argTypes:=ts}) (hb:D7 P f=true) (args:Array Value) (ha:xs.map a.eval=args) {F:α→Value} {S:α→World→Prop}
  (hc:Calls P f args w fun e w'=>∃x:α,e=.returned (F x)∧S x w') (hK:∀x w',S x w'→K (a.put o.dst (F x)) w'):
  if Region.wanted o (yielded ops a.tmps)=true then Oper.wp P o a w K Q else E:=by
 rw[if_pos (ay hg)];unfold Oper.wp;rw[bP f xs ts hop hb w,ha];refine hc.mono ?_;rintro e w' ⟨x,rfl,h⟩;exact hK x w' h
theorem I9 {α:Type} {k:Nat} {enc:α→List Value} {et:TypeId} {base:Nat} {v:Value} {Z:List α} {P:Program} {ops:Array Oper} {o:Oper} {a:Act} {w:World} {K:Act→World→Prop} {Q:Exit→Act→World→Prop} {E0:Prop}
  (hg:o.guard=none) (T:TypeId) (s x:Operand) (hop:o.op=.call {callee:=.builtin .append,args:=#[s,x],argTypes:=#[T,T]}) (E:Enc k enc)
  (ht:P.underlying T=some (.slice et)) {zero:Value} {bytes:Nat} (hi:(P.info? et).map (fun i=>(i.zero,i.size,i.bytes))=some (some zero,k,bytes)) (hz:zero.cells.size=k)
  (hs:a.eval s=v) (hown:Ow et k enc base w v Z) (A:Option Addr) (m c:Nat) (l:List α) (hx:a.eval x=.slice A m c) (hB:Sl k enc w A m c l)
  (hbytes:(Z.length+l.length)*bytes≤140737488355328) (hsm:Z.length+l.length≤1000000000) (hbase:base≤w.heap.size)
  (hK:∀v' w',mW et k enc base w v (Z++l) v' w'→K (a.put o.dst v') w'):
  if Region.wanted o (yielded ops a.tmps)=true then Oper.wp P o a w K Q else E0:=by
 rw[if_pos (ay hg)];obtain⟨v',w',hr,h2,h3,h4,_⟩:=kY (P:=P) E T o.type ht hi hz hown A m c l hB hbytes hsm hbase;unfold Oper.wp execOp;simp only[hop,resolve,invoke,builtin,Sem.run_bind,Sem.run_pure,Result.andThen_ok,auH,atx,atQ,hs,hx,hr];exact hK _ _ ⟨h2,h3,h4⟩
def fO (t:T) (w:World) (e:Ending) (w':World):Prop:=∃x:M,e=.returned (.agg #[.int .i64 x.kind,.string ⟨x.s.toArray⟩,.int .i64 x.n,.slice x.A x.kids.length x.cap,.int .i64 (x.pos:Int)])∧x.t=t∧Lies w.heap.size [] w' x∧Ev w w'
def Uj (N:Nat):Prop:=∀(m:M) (b0:Nat) (w:World),m.dep≤N→Lies b0 [] w m→m.t.every bZ=true→m.t.size≤16000→
 Calls Tryz.prog 184 #[.agg #[.int .i64 m.kind,.string ⟨m.s.toArray⟩,.int .i64 m.n,.slice m.A m.kids.length m.cap,.int .i64 (m.pos:Int)]] w (Ap (xRead m.t) w)
theorem awP {P:Prop} (h:P:=by (try simp only[Exit.inBlock,Exit.then]);rw[dF];refine bodyPost_ret (aF rfl _ _ _ _ _ rfl (B1.jM _ _ _ _) Tryz.underlying47 rfl Tryz.dX) rfl ?_;exact⟨x,by rw[HK.out];rfl,by rw[oW.out,HK.out];rfl,FIN.out _ _ _ _⟩):P:=h
theorem avL {P:Prop} (h:P:=by
 go_wp2_with (first
  | ((with_reducible refine (HWR.out 12 _).mono ?_);rintro e w1 ⟨x,rfl,jg,iq,aH⟩;have oW:=zq jg;have B1:=HB.out.ev aH;have FIN:=zq (fun v0 v1 v2 v3=>mJ (g:=w.heap.size+1) (HE.out.trans aH) (by omega) iq qI.out v0 v1 v2 v3);obtain⟨⟨xO,xP,xQ,KL⟩,KN,KO,KP,KQ⟩:=B1.four;clear jg iq))
 exact awP):P:=h
theorem Oy (N:Nat) (ih:Uj N) (m:M) (b0:Nat) (w:World) (hd:m.dep≤N+1) (hL:Lies b0 [] w m) (hfair:m.t.every bZ=true) (hsz:m.t.size≤16000) (uQ:m.kind=1):
  Calls Tryz.prog 197 #[.agg #[.int .i64 m.kind,.string ⟨m.s.toArray⟩,.int .i64 m.n,.slice m.A m.kids.length m.cap,.int .i64 (m.pos:Int)]] w (Ap (xRead m.t) w):=by
 have ou:m.kids.length≤16000:=by have h1:=T.size_eq m.t;have h2:=jA m.t.kids;rw[M.aY,atq]at h2;rw[M.aY]at h1;omega
 have yH:=zq hsz;have dG:=xRead_eq m;rw[uQ]at dG;have fA:=hL.ms;unfold Uj at ih;have lS:=zq ih;have HL:=zq hL;have HD:=zq hd;have IE:=zq hfair;have hwr:=fun why w1=>QH why m w1;rw[uQ]at hwr⊢;have HWR:=zq hwr;clear hwr;obtain⟨R,hR⟩:∃R,R=xRead m.t:=⟨_,rfl⟩
 rw[←hR]at dG⊢;obtain⟨kn,hkn⟩:∃kn,kn=m.kids.length:=⟨_,rfl⟩
 rw[←hkn]at fA ou HWR⊢;have lJ:=zq hkn;generalize Yj:m.A=mA at*;generalize hmc:m.cap=jP at*;have hcm:=fA.max;have hcl:=fA.le;have CE:=zq fA;obtain⟨w0,hw0,aT,hX,hB,hlt⟩:=I8 w (.int .i64 1) (.string ⟨m.s.toArray⟩) (.int .i64 m.n) (.slice mA kn jP) (.int .i64 (m.pos:Int));have HE:=zq aT;have HX:=zq hX;have HB:=zq hB;have qI:=zq hlt;obtain⟨⟨c0,c1,c2,c3,c4⟩,_⟩:=hX.five;obtain⟨⟨xO,xP,xQ,KL⟩,KN,KO,KP,KQ⟩:=hB.four;simp only[auc,if_true,show ((1:Int)==2)=false from rfl,show ((1:Int)==3)=false from rfl,show ((1:Int)==4)=false from rfl,atE,if_false]at dG;clear ih hL hd hfair hkn aT hX hB hR Yj hmc fA hlt hsz uQ
 cases hk:m.kids with
 | nil=>
  obtain rfl:kn=0:=by rw[lJ.out,hk];rfl
  rw[hk]at dG;have HK:Hid (R=jH 12 m.pos):=zq dG;clear dG;go_enter Tryz.func197,Tryz.ntmps197
  go_wp2_with (first
   | ((with_reducible refine (HWR.out 12 _).mono ?_);rintro e w1 ⟨x,rfl,jg,iq,aH⟩;have oW:=zq jg;have B1:=HB.out.ev aH;have FIN:=zq (fun v0 v1 v2 v3=>mJ (g:=w.heap.size+1) (HE.out.trans aH) (by omega) iq qI.out v0 v1 v2 v3);obtain⟨⟨xO,xP,xQ,KL⟩,KN,KO,KP,KQ⟩:=B1.four;clear jg iq))
  (try simp only[Exit.inBlock,Exit.then]);rw[dF];refine bodyPost_ret (aF rfl _ _ _ _ _ rfl (B1.jM _ _ _ _) Tryz.underlying47 rfl Tryz.dX) rfl ?_;exact⟨x,by rw[HK.out];rfl,by rw[oW.out,HK.out];rfl,FIN.out _ _ _ _⟩
 | cons hm1 q=>
  have Y4:kn=q.length+1:=by rw[lJ.out,hk];rfl
  rw[hk]at dG;obtain⟨b,off,rfl,hb,h0,h1,_,_,_⟩:=CE.out.cell (i:=0) (x:=hm1) (by rw[hk];rfl);simp only[aud,atW]at h0 h1;have HH:Hid (∀w1,Ev w w1→w1.cell? ⟨b,off,none⟩=some (.int .i64 hm1.kind)∧w1.cell? ⟨b,off+1,none⟩=some (.string ⟨hm1.s.toArray⟩)):=zq fun w1 hE=>⟨(hE.cell (p:=⟨_,_,none⟩) hb).trans h0,(hE.cell (p:=⟨_,_,none⟩) hb).trans h1⟩
  clear h0 h1;obtain⟨h0,h1⟩:=HH.out _ HE.out;have i0:¬((kn:Int)=0):=by omega
  have i0':((kn:Int)==0)=false:=atp.2 i0;have i1:(0:Int)<(kn:Int):=by omega
  have HKQ:=zq Y4;have Y5:=zq hk;clear Y4 hk;by_cases hh:hm1.kind=2
  ·have hhb:(hm1.kind==2)=true:=atH.2 hh;have hhn:(hm1.kind !=2)=false:=by simp[hh]
   have HT:=fun w1=>Fq hm1.s w1;unfold dh at HT;obtain⟨t,ht⟩:∃t,t=bC hm1.s:=⟨_,rfl⟩
   simp only[hhb,auA]at dG;rw[←ht]at HT dG;have HT:=zq HT;have E3:=Ev.alloc w0 (.cells #[.int .i64 4,.string ⟨hm1.s.toArray⟩,.int .i64 0,.slice none 0 0] 47);have HI0:=zq (Ep.init w0 hm1.s);have Xd:=zq E3;have HBA:=zq (HB.out.ev Xd.out);have HXA:=zq (HX.out.ev Xd.out);obtain⟨⟨d0,d1,d2,d3⟩,r0,r1,r2,r3⟩:=HI0.out.box.four;obtain⟨⟨cc0,cc1,cc2,cc3,cc4⟩,_⟩:=HXA.out.five;obtain⟨⟨ap_,ap',aqa,aqb⟩,aqc,aqd,aqe,aqf⟩:=HBA.out.four;obtain⟨hh0,hh1⟩:=HH.out _ (HE.out.trans Xd.out);clear hh ht E3;by_cases hz:t=0
   ·subst hz;have HK:Hid (R=jH 12 m.pos):=zq (by rw[dG];rfl);clear dG;go_enter Tryz.func197,Tryz.ntmps197
    go_wp2_with (first
     | ((with_reducible refine (HT.out _).mono ?_);rintro e w1 ⟨rfl,rfl⟩)
     | ((with_reducible refine (HWR.out 12 _).mono ?_);rintro e w1 ⟨x,rfl,jg,iq,aH⟩;have oW:=zq jg;have B1:=HBA.out.ev aH;have FIN:=zq (fun v0 v1 v2 v3=>mJ (g:=w.heap.size+1) ((HE.out.trans Xd.out).trans aH) (by omega) iq (atM qI.out Xd.out.size) v0 v1 v2 v3);obtain⟨⟨xO,xP,xQ,KL⟩,KN,KO,KP,KQ⟩:=B1.four;clear jg iq))
    exact awP
   have z1:¬((t:Int)=0):=by omega
   have z2:((t:Int)==0)=false:=atp.2 z1;have htb:(t==0)=false:=atp.2 hz;rw[htb]at dG;simp only[Bool.not_false,if_true]at dG;by_cases hq:q.length=t
   ·rw[if_pos (atH.2 hq)]at dG;have HK:=zq dG;have HQ:=zq hq;have VG:(t:Int)=(kn:Int) - 1:=by have:=HKQ.out;omega
    have aee:((t:Int)==((kn:Int) - 1))=true:=atH.2 VG;have aef:((t:Int) !=((kn:Int) - 1))=false:=by simp;exact VG
    have m1:¬(jP=1):=by have:=HKQ.out;omega
    have m2:(1:Int)≤(kn:Int):=by omega
    have m3:(1:Int)≤(jP:Int):=by omega
    have m4:(kn:Int)≤(jP:Int):=by omega
    clear dG VG hq;go_enter Tryz.func197,Tryz.ntmps197
    go_wp2_with (first
     | ((with_reducible refine (HT.out _).mono ?_);rintro e w1 ⟨rfl,rfl⟩))
    have Zp:Hid (kn=t+1):=zq (by have:=HKQ.out;have:=HQ.out;omega)
    go_loopw [62] (fun iv wr=>∃(A:Option Addr) (n cap:Nat) (L:List M),iv=.int .i64 (n:Int)∧n≤t∧Hid (Ep w0 w0.heap.size hm1.s A n cap L wr)∧Hid (R=xReads hm1.s (L.map M.t) ((q.drop n).map fun x=>xRead x.t))) (fun iv _=>t - (intOf iv).toNat)
    case atStart=>exact⟨none,0,0,[],rfl,atG _,HI0,HK⟩
    case round=>
     obtain⟨A,n,cap,L,rfl,hj,HS,HR⟩:=hrel;have nG:=zq (HE.out.trans HS.out.ev);have Et:=zq HS.out.ev;obtain⟨⟨c0,c1,c2,c3,c4⟩,_⟩:=(HX.out.ev Et.out).five;obtain⟨⟨xO,xP,xQ,KL⟩,KN,KO,KP,KQ⟩:=(HB.out.ev Et.out).four;obtain⟨⟨d0,d1,d2,d3⟩,r0,r1,r2,r3⟩:=HS.out.box.four;have uS:=zq HS.out.len;by_cases hlt:n<t
     ·obtain⟨x,hx⟩:∃x,q[n]?=some x:=⟨_,atN (by have:=HQ.out;omega)⟩
      have iF:m.kids[n+1]?=some x:=by rw[Y5.out];simpa using hx
      obtain⟨b',off',he,_,x0,x1,x2,x3,x4⟩:=Ms.cell (CE.out.ev nG.out) iF;injection he with he
      injection he with he1 IG _
      subst he1;subst IG;have agH:off+(n+1)*5=off+5+n*5:=by omega
      rw[agH]at x0 x1 x2 x3 x4;have hdj:q.drop n=x::q.drop (n+1):=by obtain⟨hj',e⟩:=atr.1 hx;rw[auu hj',e]
      have lX:=HR.out;rw[hdj,atx]at lX;unfold xReads at lX;have PV:=atw iF;have hxf:x.t.every bZ=true:=by exact ax4
      have SK:x.t.size≤16000:=by exact axm
      have HI:=fun w1 (hE:Ev w w1)=>lS.out x b0 w1 (by have:=M.lF PV;have:=HD.out;omega) ((HL.out.kid x PV).ev hE) hxf SK;unfold Ap at HI;unfold M.kv at x3;generalize xRead x.t=rx at*;obtain⟨rt,ry,rp⟩:=rx;simp only at lX HI;have HI:=zq HI;have hnb:n≤20000:=by have:=Zp.out;omega
      have i2:(n:Int)<(t:Int):=by omega
      have i3:(0:Int)≤(n:Int):=by omega
      have i4:(n:Int)<(kn:Int) - 1:=by have:=Zp.out;omega
      have i5:(n:Int)<((kn - 1:Nat):Int):=by have:=Zp.out;omega
      have Oe:=zq (Ev.alloc wr (.cells #[.int .i64 x.kind,.string ⟨x.s.toArray⟩,.int .i64 x.n,.slice x.A x.kids.length x.cap,.int .i64 (x.pos:Int)] 101));clear hx iF hdj PV hxf SK agH;by_cases hw:ry=0
      ·subst hw;rw[if_pos (by rfl)]at lX;have tZ:=zq lX;clear lX
       go_wp2_with (first
        | ((with_reducible refine (HI.out _ (nG.out.trans Oe.out)).mono ?_);rintro e w1 ⟨x',rfl,jg,iq,aH⟩;have oW:=zq jg;have pz:=zq (iq.low Oe.out.size);have E1:=zq (Oe.out.trans aH);obtain⟨⟨d0,d1,d2,d3⟩,r0,r1,r2,r3⟩:=(HS.out.box.ev (E1.out.trans (Ev.alloc w1 (.cells #[.int .i64 x'.kind,.string ⟨x'.s.toArray⟩,.int .i64 x'.n,.slice x'.A x'.kids.length x'.cap] 47)))).four;clear jg iq)
        | ((show wpList _ _ _ (⟨some 81,_,_,_,_,_⟩::_) _ _);refine aK (o:=⟨some 81,_,_,_,_,_⟩) rfl 28 (.tmp 78) (.tmp 80) rfl wM Tryz.underlying28 Tryz.yM rfl rfl (HS.out.own.ev (E1.out.trans ((Ev.alloc w1 _).trans (Ev.alloc _ _)))) (some ⟨w1.heap.size+1,0,none⟩) 1 1 [x'] rfl (by have:=Sl.one (et:=47) wM (w1.alloc (.cells #[.int .i64 x'.kind,.string ⟨x'.s.toArray⟩,.int .i64 x'.n,.slice x'.A x'.kids.length x'.cap] 47)) x' #[.int .i64 x'.kind,.string ⟨x'.s.toArray⟩,.int .i64 x'.n,.slice x'.A x'.kids.length x'.cap] rfl;simpa using this) (by rw[uS.out];simp;omega) (by rw[uS.out];simp;omega) (by have h7:=HS.out.box.lt;have h8:=(E1.out.trans ((Ev.alloc w1 (.cells #[.int .i64 x'.kind,.string ⟨x'.s.toArray⟩,.int .i64 x'.n,.slice x'.A x'.kids.length x'.cap] 47)).trans (Ev.alloc _ (.cells #[.int .i64 x'.kind,.string ⟨x'.s.toArray⟩,.int .i64 x'.n,.slice x'.A x'.kids.length x'.cap] 47)))).size;omega) ?_;intro v2 w2 gz;obtain⟨⟨d0,d1,d2,d3⟩,r0,r1,r2,r3⟩:=(HS.out.after (E1.out.trans ((Ev.alloc w1 _).trans (Ev.alloc _ _))) gz).four;obtain⟨A2,cap2,rfl,ST2⟩:=HS.out.next (E1.out.trans ((Ev.alloc w1 _).trans (Ev.alloc _ _))) (pz.out.ev ((Ev.alloc w1 _).trans (Ev.alloc _ _))) gz))
       go_roundw
       case rel=>exact⟨A2,n+1,cap2,L++[x'],by go_num,by omega,zq ST2,zq (by rw[tZ.out,atB,atx,atQ,oW.out])⟩
       case measure=>simp[intOf];omega
      have Le:(ry==0)=false:=atp.2 hw;have hwn:(ry !=0)=true:=by simp[hw]
      rw[Le]at lX;simp only[atE,if_false]at lX;have tZ:=zq lX;clear lX
      go_wp2_with (first
       | ((with_reducible refine (HI.out _ (nG.out.trans Oe.out)).mono ?_);rintro e w1 ⟨x',rfl,jg,iq,aH⟩;have E1:=nG.out.trans (Oe.out.trans (aH.trans (Ev.alloc w1 (.cells #[.int .i64 x'.kind,.string ⟨x'.s.toArray⟩,.int .i64 x'.n,.slice x'.A x'.kids.length x'.cap] 47))));have B1:=HB.out.ev (Et.out.trans (Oe.out.trans (aH.trans (Ev.alloc w1 (.cells #[.int .i64 x'.kind,.string ⟨x'.s.toArray⟩,.int .i64 x'.n,.slice x'.A x'.kids.length x'.cap] 47)))));obtain⟨⟨xO,xP,xQ,KL⟩,KN,KO,KP,KQ⟩:=B1.four))
      exact awG
     have hjk:n=t:=by omega
     have i2:¬((n:Int)<(t:Int)):=by omega
     have i4:¬((n:Int)<(kn:Int) - 1):=by have:=Zp.out;omega
     have i5:¬((n:Int)<((kn - 1:Nat):Int)):=by have:=Zp.out;omega
     have lX:=HR.out;rw[auh (by have:=HQ.out;omega)]at lX;simp only[atQ,xReads]at lX;have tZ:=zq lX;obtain⟨hlx,hnl⟩:=HS.out.done (b0:=w.heap.size) HE.out.size;have hlg:=(HS.out.done (b0:=w0.heap.size) (att _)).1;have Y7:=zq (hlg.less (K':=[w.heap.size+1]) fun k hk=>by simp at hk;subst hk;exact .inr (.inl qI.out));clear hlg;have iQ:=zq hnl;clear lX hjk hlx hnl;go_wp2;(try simp only[Exit.inBlock,Exit.then]);rw[dF];refine bodyPost_ret (aF rfl _ _ _ _ _ rfl ((HB.out.ev Et.out).jM _ _ _ _) Tryz.underlying47 rfl Tryz.dX) rfl ?_;refine⟨.mk 4 hm1.s 0 A cap L 0,by rw[tZ.out];simp only[M.kids];rw[←iQ.out];rfl,by rw[tZ.out];simp[M.t,M.ji],?_,nG.out.box (dW _ _ _ _ _ _) (by omega)⟩;exact (Y7.out.move (dW _ _ _ _ _ _) fun k hk=>by cases hk).low (by have:=qI.out;omega)
   rw[if_neg (by simp;exact hq)]at dG;have HK:Hid (R=jH 23 m.pos):=zq dG;have VG:¬((t:Int)=(kn:Int) - 1):=by have:=HKQ.out;omega
   have aee:((t:Int)==((kn:Int) - 1))=false:=atp.2 VG;have aef:((t:Int) !=((kn:Int) - 1))=true:=by simp;exact VG
   clear dG;go_enter Tryz.func197,Tryz.ntmps197
   go_wp2_with (first
    | ((with_reducible refine (HT.out _).mono ?_);rintro e w1 ⟨rfl,rfl⟩)
    | ((with_reducible refine (HWR.out 23 _).mono ?_);rintro e w1 ⟨x,rfl,jg,iq,aH⟩;have oW:=zq jg;have B1:=HBA.out.ev aH;have FIN:=zq (fun v0 v1 v2 v3=>mJ (g:=w.heap.size+1) ((HE.out.trans Xd.out).trans aH) (by omega) iq (atM qI.out Xd.out.size) v0 v1 v2 v3);obtain⟨⟨xO,xP,xQ,KL⟩,KN,KO,KP,KQ⟩:=B1.four;clear jg iq))
   exact awP
  have hhb:(hm1.kind==2)=false:=atp.2 hh;have hhn:(hm1.kind !=2)=true:=by simp[hh]
  simp only[hhb,aum,atE,if_false]at dG;have HK:Hid (R=jH 12 m.pos):=zq dG;clear dG;go_enter Tryz.func197,Tryz.ntmps197;exact avL
theorem abS (N:Nat):Uj N:=by
 induction N with
 | zero=>
  intro m b0 w hd;rw[M.mX]at hd;omega
 | succ N ih=>
  intro m b0 w hd hL hfair hsz;have dG:=xRead_eq m;have Gs:m.s.length≤100000:=by exact axN
  have HWR:=zq (fun why w1=>QH why m w1);have HAP:=zq (fun w1 (hE:Ev w w1) (hk:m.kind=1)=>Oy N ih m b0 w1 hd (hL.ev hE) hfair hsz hk);have hc1:=hL.ms.le;have hc2:=hL.ms.max;obtain⟨w0,hw0,aT,hX,hB,hlt⟩:=I8 w (.int .i64 m.kind) (.string ⟨m.s.toArray⟩) (.int .i64 m.n) (.slice m.A m.kids.length m.cap) (.int .i64 (m.pos:Int));have HE:=zq aT;have HB:=zq hB;have HX:=zq hX;have qI:=zq hlt;obtain⟨⟨c0,c1,c2,c3,c4⟩,_⟩:=hX.five;obtain⟨⟨xO,xP,xQ,KL⟩,KN,KO,KP,KQ⟩:=hB.four;obtain⟨R,hR⟩:∃R,R=xRead m.t:=⟨_,rfl⟩
  rw[←hR]at dG HAP⊢;clear ih hL hd hfair aT hX hB hR hlt hsz;by_cases k1:m.kind=1
  ·have akS:=zq (fun w1 hE=>HAP.out w1 hE k1);have k1b:(m.kind==1)=true:=atH.2 k1;clear HAP dG k1;go_enter Tryz.func184,Tryz.ntmps184
   go_wp2_with (first
    | ((with_reducible refine (akS.out _ HE.out).mono ?_);rintro e w1 ⟨x,rfl,jg,iq,aH⟩;have oW:=zq jg;have B1:=HB.out.ev aH;have FIN:=zq (fun v0 v1 v2 v3=>mJ (g:=w.heap.size+1) (HE.out.trans aH) (by omega) iq qI.out v0 v1 v2 v3);obtain⟨⟨xO,xP,xQ,KL⟩,KN,KO,KP,KQ⟩:=B1.four;clear jg iq))
   (try simp only[Exit.inBlock,Exit.then]);rw[dF];refine bodyPost_ret (aF rfl _ _ _ _ _ rfl (B1.jM _ _ _ _) Tryz.underlying47 rfl Tryz.dX) rfl ?_;exact⟨x,rfl,oW.out,FIN.out _ _ _ _⟩
  have k1':(m.kind==1)=false:=atp.2 k1;rw[k1']at dG;by_cases k2:m.kind=2
  ·have k2b:(m.kind==2)=true:=atH.2 k2;rw[k2b]at dG;simp only[if_true]at dG;have HN:=fun w1=>wO (dh m.s) w1;unfold dh at HN;rw[show jh m.s=fM ⟨m.s.toArray⟩ from rfl]at dG;clear k1 k2
   cases hn:fM ⟨m.s.toArray⟩ with
   | false=>
    rw[hn]at dG HN;simp only[atE,if_false]at dG;have HK:=zq dG;have HN:=zq HN;clear dG;go_enter Tryz.func184,Tryz.ntmps184
    go_wp2_with (first
     | ((with_reducible refine (HN.out _).mono ?_);rintro e wn ⟨rfl,hEn⟩;have HEN:=zq hEn;obtain⟨⟨c0,c1,c2,c3,c4⟩,_⟩:=(HX.out.ev hEn).five)
     | ((with_reducible refine (HWR.out 20 _).mono ?_);rintro e w1 ⟨x,rfl,jg,iq,aH⟩;have oW:=zq jg;have B1:=HB.out.ev (HEN.out.trans aH);have FIN:=zq (fun v0 v1 v2 v3=>mJ (g:=w.heap.size+1) ((HE.out.trans HEN.out).trans aH) (by omega) iq (atM qI.out HEN.out.size) v0 v1 v2 v3);obtain⟨⟨xO,xP,xQ,KL⟩,KN,KO,KP,KQ⟩:=B1.four;clear jg iq))
    exact awP
   | true=>
    rw[hn]at dG HN;simp only[if_true]at dG;have HK:=zq dG;have HN:=zq HN;clear dG;go_enter Tryz.func184,Tryz.ntmps184
    go_wp2_with (first|((with_reducible refine (HN.out _).mono ?_);rintro e w1 ⟨rfl,aH⟩;have E1:=HE.out.trans aH;have B1:=HB.out.ev aH;obtain⟨⟨c0,c1,c2,c3,c4⟩,_⟩:=(HX.out.ev aH).five;obtain⟨⟨xO,xP,xQ,KL⟩,KN,KO,KP,KQ⟩:=B1.four))
    exact awo
  have k2':(m.kind==2)=false:=atp.2 k2;rw[k2']at dG;by_cases k3:m.kind=3
  ·have k3b:(m.kind==3)=true:=atH.2 k3;rw[k3b]at dG;have HK:Hid (R=(.mk 2 [] m.n [] 0,0,0)):=zq dG;clear dG k1 k2 k3;go_enter Tryz.func184,Tryz.ntmps184;exact awg
  have Yh:(m.kind==3)=false:=atp.2 k3;rw[Yh]at dG;by_cases k4:m.kind=4
  ·have k4b:(m.kind==4)=true:=atH.2 k4;rw[k4b]at dG;have HK:Hid (R=(.mk 3 m.s 0 [] 0,0,0)):=zq dG;clear dG k1 k2 k3 k4;go_enter Tryz.func184,Tryz.ntmps184;exact awh
  have k4':(m.kind==4)=false:=atp.2 k4;rw[k4']at dG;have HK:Hid (R=jH 12 m.pos):=zq dG;clear dG k1 k2 k3 k4;go_enter Tryz.func184,Tryz.ntmps184;exact avL
theorem abT (m:M) (b0:Nat) (w:World) (hL:Lies b0 [] w m) (hfair:m.t.every bZ=true) (hsz:m.t.size≤16000):
  Calls Tryz.prog 157 #[.agg #[.int .i64 m.kind,.string ⟨m.s.toArray⟩,.int .i64 m.n,.slice m.A m.kids.length m.cap,.int .i64 (m.pos:Int)]] w (Ap (xRead m.t) w):=by
 have HP:=zq (fun w1 (hE:Ev w w1)=>Xc m b0 w1 (hL.ev hE) hsz);have HR:=zq (fun w1 (hE:Ev w w1)=>abS m.dep m b0 w1 (att _) (hL.ev hE) hfair hsz);have hc1:=hL.ms.le;have hc2:=hL.ms.max;obtain⟨w0,hw0,aT,hX,hB,hlt⟩:=I8 w (.int .i64 m.kind) (.string ⟨m.s.toArray⟩) (.int .i64 m.n) (.slice m.A m.kids.length m.cap) (.int .i64 (m.pos:Int));have HE:=zq aT;have HB:=zq hB;have HX:=zq hX;have qI:=zq hlt;obtain⟨⟨c0,c1,c2,c3,c4⟩,_⟩:=hX.five;obtain⟨⟨xO,xP,xQ,KL⟩,KN,KO,KP,KQ⟩:=hB.four;generalize xRead m.t=R at*;clear hL hfair aT hX hB hlt hsz;go_enter Tryz.func157,Tryz.ntmps157
 go_wp2_with (first
  | ((with_reducible refine (HP.out _ HE.out).mono ?_);rintro e wn ⟨A,n,cap,rfl,hEn⟩;have HEN:=zq hEn;obtain⟨⟨c0,c1,c2,c3,c4⟩,_⟩:=(HX.out.ev hEn).five)
  | ((with_reducible refine (HR.out _ (HE.out.trans HEN.out)).mono ?_);rintro e w1 ⟨x,rfl,jg,iq,aH⟩;have oW:=zq jg;have B1:=HB.out.ev (HEN.out.trans aH);have FIN:=zq (fun v0 v1 v2 v3=>mJ (g:=w.heap.size+1) ((HE.out.trans HEN.out).trans aH) (by omega) iq (atM qI.out HEN.out.size) v0 v1 v2 v3);obtain⟨⟨xO,xP,xQ,KL⟩,KN,KO,KP,KQ⟩:=B1.four;clear jg iq))
 (try simp only[Exit.inBlock,Exit.then]);rw[dF];refine bodyPost_ret (aF rfl _ _ _ _ _ rfl (B1.jM _ _ _ _) Tryz.underlying47 rfl Tryz.dX) rfl ?_;exact⟨x,rfl,oW.out,FIN.out _ _ _ _⟩
theorem AA {P:Program} {ρ:Operand→Value} {o:Oper} {x:Operand} {T:TypeId} {g:Nat} {cs:Array Value} {w:World} {d:TypeDesc} (ho:o.op=.load T x) (hx:ρ x=.pointer (some ⟨g,0,none⟩)) (hB:Bx T g cs w)
  (hu:P.underlying T=some d) (hd:(match d with|.struct _|.array _ _=>true|_=>false)=true) (hi:(P.info? T).map (·.size)=some cs.size):
  (execOp ρ o).run P w=.ok (.value (.agg cs)) w:=by
 have h:=run_loadVar_row w g T T _ (0,0) _ hB.blk hu hd hi;unfold execOp;rw[ho];simp only[hx,Instr.loadAt,Instr.sureAddr,Sem.run_bind,Sem.run_pure,Result.andThen_ok,h]
end Go.Proofs.YtpbfokkocaemlaaGreatDoor
