import Derived.Test.YtbgmhhfjkkfhpaaGreatDoorZ20G
set_option linter.unusedVariables false
set_option maxRecDepth 100000
set_option maxHeartbeats 64000000
namespace Go.Proofs.YtbgmhhfjkkfhpaaGreatDoor
open Go.RowKit
open Go.Lib renaming hid → zq
open Go renaming World → ak
open Go renaming Value → au
open Go.Proofs.Tryz renaming prog → ax
open Go.Proofs.Tryz
theorem Ei(t:T):t.size=(t.kids.map T.size).sum+1:=by
 cases t
 rw[T.size,T.rU];rfl
theorem AL(t:T):1<=t.size:=by rw[Ei];omega
theorem VE:∀l:List T,l.length<=(l.map T.size).sum
 | []=>by simp
 | t::l=>by have:=VE l;have:=AL t;simp;omega
structure VF(m:M)(b0:Nat)(w0:ak)(v:au)(L:List M)(p:Nat)(w:ak):Prop where
 own:Ow 186 5 mc w0.heap.size w v L
 ev:Ev w0 w
 lies:∀x∈L,Lies b0 [] w0 x
 sum:p+(L.map λx=>x.t.size).sum<=m.t.size+L.length
 few:L.length<=p
theorem VG:∀L:List M,L.length<=(L.map λx=>x.t.size).sum
 | []=>by simp
 | x::L=>by have:=VG L;have:=AL x.t;simp;omega
theorem VF.drop{m x:M}{b0 p:Nat}{w0 w w':ak}{A:Option Addr}{n cap:Nat}{L:List M}(h:VF m b0 w0 (.slice A (n+1) cap) (L++[x]) p w)(hn:L.length=n)(hE:Ev w w'):VF m b0 w0 (.slice A n cap) L p w':=by have h1:=h.own.to jU rfl n (by simp;omega);rw[List.take_left' hn]at h1;have h2:=h.sum;have h3:=AL x.t;simp only[aDk,aEb,aDe,aDu,aDI,aE0,aDd,aDh,aDZ]at h2;have h4:=h.few;rw[aDd]at h4;exact⟨h1.ev hE,h.ev.trans hE,λy hy=>h.lies y (aDy _ hy),ae,ae⟩
theorem VF.more{m x:M}{b0 p:Nat}{w0 w w' w2:ak}{A:Option Addr}{n cap:Nat}{v2:au}{L:List M}(h:VF m b0 w0 (.slice A (n+1) cap) (L++[x]) p w)(hE:Ev w w')(ho:Ow 186 5 mc w0.heap.size w2 v2 (L++x.kids))(dJ:Ev w0 w2):VF m b0 w0 v2 (L++x.kids) (p+x.kids.length) w2:=by have h2:=h.sum;have h3:=Ei x.t;rw[M.dO,aDx]at h3;have:(T.size ∘ M.t)=(λx:M=>x.t.size):=rfl;rw[this]at h3;simp only[aDk,aEb,aDe,aDu,aDI,aE0,aDd,aDh,aDZ]at h2;have h4:=h.few;rw[aDd]at h4;refine⟨ho,dJ,λy hy=>?_,?_,by rw[aDd];omega⟩;rcases aDm.1 hy with h1|h1;exact h.lies y (aDy _ h1);exact(h.lies x aj).kid y h1;simp only[aDk,aEb,aDd];omega
theorem ah7{L:List M}{n:Nat}(h:L.length=n+1):∃L' x,L=L'++[x]/\L'.length=n:=by
 cases hL:L.getLast? with
 | none=>rw[List.getLast?_eq_none_iff]at hL;subst hL;simp at h
 | some x=>
  rw[aEX]at hL;obtain⟨L',rfl⟩:=hL;exact⟨L',x,rfl,by simpa using h⟩
theorem Qa(m:M)(b0:Nat)(w:ak)(h:Lies b0 [] w m)(hsz:m.t.size<=100000):
  Calls ax 172 #[.agg ↑m] w λe w'=>e=.returned (.bool true)/\Ev w w':=by
 have aV:=(Ev.alloc w (.cells ↑m 186)).trans (Ev.alloc _ (.cells ↑m 186));have hP:VF m b0 w (.slice (some ⟨w.heap.size+1,0,none⟩) 1 1) [m] 1 ((w.alloc (.cells ↑m 186)).alloc (.cells ↑m 186)):=by refine⟨?_,aV,λx hx=>by simp at hx;subst hx;exact h,by simp;omega,aj⟩;have:=Ow.made (et:=186) (base:=w.heap.size) jU (w.alloc (.cells ↑m 186)) [m] ↑m rfl aj aj;simpa using this
 have HP:=zq hP;have Kw:=zq hsz;clear hP aV hsz;go_enter func172,ntmps172;go_wp2
 go_loopg [3,4] m.t.size (λg lv pv wr=>∃(A:Option Addr) (n cap p:Nat) (L:List M),lv=.slice A n cap/\pv=↑p/\Hid (VF m b0 w (.slice A n cap) L p wr)/\Hid (g=(L.map λx=>x.t.size).sum)/\Hid (L.length=n))
 case atStart=>exact⟨_,1,1,1,[m],rfl,rfl,HP,zq aj,zq rfl⟩
 case round=>
  obtain⟨A,n,cap,p,L,rfl,rfl,HS,HG,HN⟩:=hrel
  cases n with
  | zero=>
   go_wp2;go_ret;exact⟨rfl,HS.out.ev⟩
  | succ n=>
   obtain⟨L,x,rfl,hl⟩:=ah7 HN.out;have wR:=zq hl;obtain⟨A',cap',hvv,qJ,hA⟩:=HS.out.own.form jU;rw[HN.out]at hvv qJ;injection hvv with h1 h2 h3
   subst h1 h3;have AU:=qJ.le;have hcm:=qJ.max;have hx:(L++[x])[n]?=some x:=by rw[<-wR.out];simp
   obtain⟨b,off,rfl,hb,c0,c1,c2,c3,c4⟩:=Ms.cell qJ hx;unfold M.kv at c3;have hLx:=HS.out.lies x aj;have hsum:=HS.out.sum;have hls:=VG L;have hfew:=HS.out.few;rw[aDd,List.length_singleton]at hfew;have hkz:x.kids.length+1<=x.t.size:=by have h5:=Ei x.t;have h6:=VE x.t.kids;rw[M.dO]at h5 h6;rw[aC_]at h6;omega
   have hgk:gk=(L.map λx=>x.t.size).sum+x.t.size:=by rw[HG.out];simp
   simp only[aDk,aEb,aDe,aDu,aDI,aE0,aDd,aDh,aDZ]at hsum;have hsz:=Kw.out;have hpk:p+x.kids.length<=131072:=ae;have hn2:n<=200000:=ae;have HGK:=zq hgk;have ET:=hLx.ms.le;have hkm:=hLx.ms.max;have HLX:=zq hLx;have N7:=zq (Ev.alloc wr (.cells ↑x 186));have HDR:=zq (HS.out.drop hl N7.out);have i1:(0:Int)<=(n:Int):=ae;have i2:(n:Int)<=(cap:Int):=ae;have atW:(p:Int)+(x.kids.length:Int)<=131072:=ae;have i3:¬((131072:Int)<(p:Int)+(x.kids.length:Int)):=ae;have i4:decide ((131072:Int)<(p:Int)+(x.kids.length:Int))=false:=aDB i3;clear hx hA qJ hb hl hsum hls hfew hkz hgk hsz hLx h2;by_cases hk:x.kind=1
   ·have hkb:(x.kind==1)=true:=aDn.2 hk;have hkn:(x.kind !=1)=false:=by simp[hk]
    clear hk;obtain⟨kn,alB⟩:∃kn,kn=x.kids.length:=⟨_,rfl⟩
    rw[<-alB]at c3 ET hpk atW i3 i4 N7;have qg:=zq alB;clear alB
    go_wp2_with (first
     | ((show wpList _ _ _ (⟨some 35,_,_,_,_,_⟩::_) _ _);refine aQ (o:=⟨some 35,_,_,_,_,_⟩) rfl 184 (.tmp 32) (.tmp 34) rfl jU underlying184 Tryz.infoTree rfl rfl (by have:=HDR.out.own;rw[<-qg.out]at this;exact this) x.A kn x.cap x.kids rfl (by have:=HLX.out.ms.ev (HS.out.ev.trans N7.out);rw[<-qg.out]at this;exact this) (by rw[<-qg.out,wR.out];omega) (by rw[<-qg.out,wR.out];omega) (HS.out.ev.trans N7.out).size ?_;intro v2 w2 iq;have E2:=((But.aU (HS.out.ev.trans N7.out)).then iq.2.1).ev (λk hk=>(HDR.out.own.lt (aG.1 hk)).1);have S2:=HS.out.more N7.out iq.1 E2;obtain⟨A2,cap2,rfl,_,_⟩:=iq.1.form jU;generalize qX:(L++x.kids).length=nn at S2|-;have xy:=zq qX;clear qX))
    go_roundg (((L++x.kids).map λx=>x.t.size).sum)
    case measure=>
     rw[HGK.out];have h5:=Ei x.t;rw[M.dO,aDx]at h5;have:(T.size ∘ M.t)=(λx:M=>x.t.size):=rfl;rw[this]at h5;simp only[aDk,aEb];omega
    case rel=>exact⟨A2,nn,cap2,p+kn,L++x.kids,rfl,by go_num,zq (by rw[qg.out];exact S2),zq rfl,xy⟩
   have hkb:(x.kind==1)=false:=aC7.2 hk;have hkn:(x.kind !=1)=true:=by simp[hk]
   clear hk;go_wp2
   go_roundg ((L.map λx=>x.t.size).sum)
   case measure=>rw[HGK.out];have:=AL x.t;omega
   case rel=>exact⟨_,n,cap,p,L,rfl,rfl,HDR,zq rfl,wR⟩
end Go.Proofs.YtbgmhhfjkkfhpaaGreatDoor
