import Derived.Test.YtpbfokkocaemlaaGreatDoorZ15S
set_option linter.unusedVariables false
set_option maxRecDepth 100000
set_option maxHeartbeats 64000000
namespace Go.Proofs.YtpbfokkocaemlaaGreatDoor
open Go.RowKit
open Go.Lib renaming hid → zq
theorem Du (t:T):t.size=(t.kids.map T.size).sum+1:=by
 cases t
 rw[T.size,T.pM];rfl
theorem zL (t:T):1≤t.size:=by rw[Du];omega
theorem Rh:∀l:List T,l.length≤(l.map T.size).sum
 | []=>by simp
 | t::l=>by have:=Rh l;have:=zL t;simp;omega
structure Ri (m:M) (b0:Nat) (w0:World) (v:Value) (L:List M) (p:Nat) (w:World):Prop where
 own:Ow 101 5 mc w0.heap.size w v L
 ev:Ev w0 w
 lies:∀x∈L,Lies b0 [] w0 x
 sum:p+(L.map fun x=>x.t.size).sum≤m.t.size+L.length
 few:L.length≤p
theorem Rj:∀L:List M,L.length≤(L.map fun x=>x.t.size).sum
 | []=>by simp
 | x::L=>by have:=Rj L;have:=zL x.t;simp;omega
theorem Ri.drop {m x:M} {b0 p:Nat} {w0 w w':World} {A:Option Addr} {n cap:Nat} {L:List M} (h:Ri m b0 w0 (.slice A (n+1) cap) (L++[x]) p w) (hn:L.length=n) (hE:Ev w w'):Ri m b0 w0 (.slice A n cap) L p w':=by have h1:=h.own.to gB rfl n (by simp;omega);rw[List.take_left' hn]at h1;have h2:=h.sum;have h3:=zL x.t;simp only[atB,auL,atx,atQ,auo,ava,atv,atF,aur]at h2;have h4:=h.few;rw[atv]at h4;exact⟨h1.ev hE,h.ev.trans hE,fun y hy=>h.lies y (atO _ hy),by omega,by omega⟩
theorem Ri.more {m x:M} {b0 p:Nat} {w0 w w' w2:World} {A:Option Addr} {n cap:Nat} {v2:Value} {L:List M} (h:Ri m b0 w0 (.slice A (n+1) cap) (L++[x]) p w) (hE:Ev w w') (ho:Ow 101 5 mc w0.heap.size w2 v2 (L++x.kids)) (bK:Ev w0 w2):Ri m b0 w0 v2 (L++x.kids) (p+x.kids.length) w2:=by have h2:=h.sum;have h3:=Du x.t;rw[M.aY,atI]at h3;have:(T.size ∘ M.t)=(fun x:M=>x.t.size):=rfl;rw[this]at h3;simp only[atB,auL,atx,atQ,auo,ava,atv,atF,aur]at h2;have h4:=h.few;rw[atv]at h4;refine⟨ho,bK,fun y hy=>?_,?_,by rw[atv];omega⟩;rcases atK.1 hy with h1|h1;exact h.lies y (atO _ h1);exact (h.lies x (by simp)).kid y h1;simp only[atB,auL,atv];omega
theorem ab_ {L:List M} {n:Nat} (h:L.length=n+1):∃L' x,L=L'++[x]∧L'.length=n:=by
 cases hL:L.getLast? with
 | none=>rw[List.getLast?_eq_none_iff]at hL;subst hL;simp at h
 | some x=>
  rw[au']at hL;obtain⟨L',rfl⟩:=hL;exact⟨L',x,rfl,by simpa using h⟩
theorem Nq (m:M) (b0:Nat) (w:World) (h:Lies b0 [] w m) (hsz:m.t.size≤100000):
  Calls Tryz.prog 97 #[.agg #[.int .i64 m.kind,.string ⟨m.s.toArray⟩,.int .i64 m.n,.slice m.A m.kids.length m.cap,.int .i64 (m.pos:Int)]] w fun e w'=>e=.returned (.bool true)∧Ev w w':=by
 have aT:=(Ev.alloc w (.cells #[.int .i64 m.kind,.string ⟨m.s.toArray⟩,.int .i64 m.n,.slice m.A m.kids.length m.cap,.int .i64 (m.pos:Int)] 101)).trans (Ev.alloc _ (.cells #[.int .i64 m.kind,.string ⟨m.s.toArray⟩,.int .i64 m.n,.slice m.A m.kids.length m.cap,.int .i64 (m.pos:Int)] 101));have hP:Ri m b0 w (.slice (some ⟨w.heap.size+1,0,none⟩) 1 1) [m] 1 ((w.alloc (.cells #[.int .i64 m.kind,.string ⟨m.s.toArray⟩,.int .i64 m.n,.slice m.A m.kids.length m.cap,.int .i64 (m.pos:Int)] 101)).alloc (.cells #[.int .i64 m.kind,.string ⟨m.s.toArray⟩,.int .i64 m.n,.slice m.A m.kids.length m.cap,.int .i64 (m.pos:Int)] 101)):=by refine⟨?_,aT,fun x hx=>by simp at hx;subst hx;exact h,by simp;omega,by simp⟩;have:=Ow.made (et:=101) (base:=w.heap.size) gB (w.alloc (.cells #[.int .i64 m.kind,.string ⟨m.s.toArray⟩,.int .i64 m.n,.slice m.A m.kids.length m.cap,.int .i64 (m.pos:Int)] 101)) [m] #[.int .i64 m.kind,.string ⟨m.s.toArray⟩,.int .i64 m.n,.slice m.A m.kids.length m.cap,.int .i64 (m.pos:Int)] rfl (by simp) (by simp);simpa using this
 have HP:=zq hP;have yH:=zq hsz;clear hP aT hsz;go_enter Tryz.func97,Tryz.ntmps97;go_wp2
 go_loopg [3,4] m.t.size (fun g lv pv wr=>∃(A:Option Addr) (n cap p:Nat) (L:List M),lv=.slice A n cap∧pv=.int .i64 (p:Int)∧Hid (Ri m b0 w (.slice A n cap) L p wr)∧Hid (g=(L.map fun x=>x.t.size).sum)∧Hid (L.length=n))
 case atStart=>exact⟨_,1,1,1,[m],rfl,rfl,HP,zq (by simp),zq rfl⟩
 case round=>
  obtain⟨A,n,cap,p,L,rfl,rfl,HS,HG,HN⟩:=hrel
  cases n with
  | zero=>
   go_wp2;go_ret;exact⟨rfl,HS.out.ev⟩
  | succ n=>
   obtain⟨L,x,rfl,hl⟩:=ab_ HN.out;have uS:=zq hl;obtain⟨A',cap',Yf,oZ,hA⟩:=HS.out.own.form gB;rw[HN.out]at Yf oZ;injection Yf with h1 h2 h3
   subst h1;subst h3;have yI:=oZ.le;have hcm:=oZ.max;have hx:(L++[x])[n]?=some x:=by rw[←uS.out];simp
   obtain⟨b,off,rfl,hb,c0,c1,c2,c3,c4⟩:=Ms.cell oZ hx;unfold M.kv at c3;have SS:=HS.out.lies x (by simp);have hsum:=HS.out.sum;have hls:=Rj L;have hfew:=HS.out.few;rw[atv,List.length_singleton]at hfew;have hkz:x.kids.length+1≤x.t.size:=by have h5:=Du x.t;have h6:=Rh x.t.kids;rw[M.aY]at h5 h6;rw[atq]at h6;omega
   have hgk:gk=(L.map fun x=>x.t.size).sum+x.t.size:=by rw[HG.out];simp
   simp only[atB,auL,atx,atQ,auo,ava,atv,atF,aur]at hsum;have hsz:=yH.out;have hpk:p+x.kids.length≤131072:=by omega
   have Ia:n≤200000:=by omega
   have HGK:=zq hgk;have rH:=SS.ms.le;have WC:=SS.ms.max;have UK:=zq SS;have Oe:=zq (Ev.alloc wr (.cells #[.int .i64 x.kind,.string ⟨x.s.toArray⟩,.int .i64 x.n,.slice x.A x.kids.length x.cap,.int .i64 (x.pos:Int)] 101));have HDR:=zq (HS.out.drop hl Oe.out);have i1:(0:Int)≤(n:Int):=by omega
   have i2:(n:Int)≤(cap:Int):=by omega
   have ak_:(p:Int)+(x.kids.length:Int)≤131072:=by omega
   have i3:¬((131072:Int)<(p:Int)+(x.kids.length:Int)):=by omega
   have i4:decide ((131072:Int)<(p:Int)+(x.kids.length:Int))=false:=auj i3;clear hx hA oZ hb hl hsum hls hfew hkz hgk hsz SS h2;by_cases hk:x.kind=1
   ·have hkb:(x.kind==1)=true:=atH.2 hk;have hkn:(x.kind !=1)=false:=by simp[hk]
    clear hk;obtain⟨kn,aeP⟩:∃kn,kn=x.kids.length:=⟨_,rfl⟩
    rw[←aeP]at c3 rH hpk ak_ i3 i4 Oe;have lJ:=zq aeP;clear aeP
    go_wp2_with (first
     | ((show wpList _ _ _ (⟨some 35,_,_,_,_,_⟩::_) _ _);refine aK (o:=⟨some 35,_,_,_,_,_⟩) rfl 99 (.tmp 32) (.tmp 34) rfl gB Tryz.underlying99 Tryz.infoTree rfl rfl (by have:=HDR.out.own;rw[←lJ.out]at this;exact this) x.A kn x.cap x.kids rfl (by have:=UK.out.ms.ev (HS.out.ev.trans Oe.out);rw[←lJ.out]at this;exact this) (by rw[←lJ.out,uS.out];omega) (by rw[←lJ.out,uS.out];omega) (HS.out.ev.trans Oe.out).size ?_;intro v2 w2 gz;have E2:=((But.aS (HS.out.ev.trans Oe.out)).then gz.2.1).ev (fun k hk=>(HDR.out.own.lt (aB.1 hk)).1);have S2:=HS.out.more Oe.out gz.1 E2;obtain⟨A2,cap2,rfl,_,_⟩:=gz.1.form gB;generalize BX:(L++x.kids).length=nn at S2⊢;have En:=zq BX;clear BX))
    go_roundg (((L++x.kids).map fun x=>x.t.size).sum)
    case measure=>
     rw[HGK.out];have h5:=Du x.t;rw[M.aY,atI]at h5;have:(T.size ∘ M.t)=(fun x:M=>x.t.size):=rfl;rw[this]at h5;simp only[atB,auL];omega
    case rel=>exact⟨A2,nn,cap2,p+kn,L++x.kids,rfl,by go_num,zq (by rw[lJ.out];exact S2),zq rfl,En⟩
   have hkb:(x.kind==1)=false:=atp.2 hk;have hkn:(x.kind !=1)=true:=by simp[hk]
   clear hk;go_wp2
   go_roundg ((L.map fun x=>x.t.size).sum)
   case measure=>rw[HGK.out];have:=zL x.t;omega
   case rel=>exact⟨_,n,cap,p,L,rfl,rfl,HDR,zq rfl,uS⟩
end Go.Proofs.YtpbfokkocaemlaaGreatDoor
