import Derived.Test.YtpbfokkocaemlaaGreatDoorZ14P
set_option linter.unusedVariables false
set_option maxRecDepth 100000
set_option maxHeartbeats 64000000
namespace Go.Proofs.YtpbfokkocaemlaaGreatDoor
open Go.RowKit
open Go.Lib renaming hid → zq
open Go renaming World → ak
open Go renaming Value → au
open Go.Proofs.Tryz renaming prog → ax
open Go.Proofs.Tryz
theorem EF(t:T):t.size=(t.kids.map T.size).sum+1:=by
 cases t
 rw[T.size,T.rD];rfl
theorem BG(t:T):1<=t.size:=by rw[EF];omega
theorem Ub:∀l:List T,l.length<=(l.map T.size).sum
 | []=>by simp
 | t::l=>by have:=Ub l;have:=BG t;simp;omega
structure Uc(m:M)(b0:Nat)(w0:ak)(v:au)(L:List M)(p:Nat)(w:ak):Prop where
 own:Ow 101 5 mc w0.heap.size w v L
 ev:Ev w0 w
 lies:∀x∈L,Lies b0 [] w0 x
 sum:p+(L.map λx=>x.t.size).sum<=m.t.size+L.length
 few:L.length<=p
theorem Ud:∀L:List M,L.length<=(L.map λx=>x.t.size).sum
 | []=>by simp
 | x::L=>by have:=Ud L;have:=BG x.t;simp;omega
theorem Uc.drop{m x:M}{b0 p:Nat}{w0 w w':ak}{A:Option Addr}{n cap:Nat}{L:List M}(h:Uc m b0 w0 (.slice A (n+1) cap) (L++[x]) p w)(hn:L.length=n)(hE:Ev w w'):Uc m b0 w0 (.slice A n cap) L p w':=by have h1:=h.own.to ik rfl n (by simp;omega);rw[List.take_left' hn]at h1;have h2:=h.sum;have h3:=BG x.t;simp only[awM,axP,awI,awY,axr,aye,awE,awR,axw]at h2;have h4:=h.few;rw[awE]at h4;exact⟨h1.ev hE,h.ev.trans hE,λy hy=>h.lies y (awZ _ hy),ae,ae⟩
theorem Uc.more{m x:M}{b0 p:Nat}{w0 w w' w2:ak}{A:Option Addr}{n cap:Nat}{v2:au}{L:List M}(h:Uc m b0 w0 (.slice A (n+1) cap) (L++[x]) p w)(hE:Ev w w')(ho:Ow 101 5 mc w0.heap.size w2 v2 (L++x.kids))(bM:Ev w0 w2):Uc m b0 w0 v2 (L++x.kids) (p+x.kids.length) w2:=by have h2:=h.sum;have h3:=EF x.t;rw[M.bD,awT]at h3;have:(T.size ∘ M.t)=(λx:M=>x.t.size):=rfl;rw[this]at h3;simp only[awM,axP,awI,awY,axr,aye,awE,awR,axw]at h2;have h4:=h.few;rw[awE]at h4;refine⟨ho,bM,λy hy=>?_,?_,by rw[awE];omega⟩;rcases awV.1 hy with h1|h1;exact h.lies y (awZ _ h1);exact(h.lies x aj).kid y h1;simp only[awM,axP,awE];omega
theorem ae5{L:List M}{n:Nat}(h:L.length=n+1):∃L' x,L=L'++[x]/\L'.length=n:=by
 cases hL:L.getLast? with
 | none=>rw[List.getLast?_eq_none_iff]at hL;subst hL;simp at h
 | some x=>
  rw[ayd]at hL;obtain⟨L',rfl⟩:=hL;exact⟨L',x,rfl,by simpa using h⟩
theorem OW(m:M)(b0:Nat)(w:ak)(h:Lies b0 [] w m)(hsz:m.t.size<=100000):
  Calls ax 97 #[.agg ↑m] w λe w'=>e=.returned (.bool true)/\Ev w w':=by
 have aV:=(Ev.alloc w (.cells ↑m 101)).trans (Ev.alloc _ (.cells ↑m 101));have hP:Uc m b0 w (.slice (some ⟨w.heap.size+1,0,none⟩) 1 1) [m] 1 ((w.alloc (.cells ↑m 101)).alloc (.cells ↑m 101)):=by refine⟨?_,aV,λx hx=>by simp at hx;subst hx;exact h,by simp;omega,aj⟩;have:=Ow.made (et:=101) (base:=w.heap.size) ik (w.alloc (.cells ↑m 101)) [m] ↑m rfl aj aj;simpa using this
 have HP:=zq hP;have zQ:=zq hsz;clear hP aV hsz;go_enter func97,ntmps97;go_wp2
 go_loopg [3,4] m.t.size (λg lv pv wr=>∃(A:Option Addr) (n cap p:Nat) (L:List M),lv=.slice A n cap/\pv=↑p/\Hid (Uc m b0 w (.slice A n cap) L p wr)/\Hid (g=(L.map λx=>x.t.size).sum)/\Hid (L.length=n))
 case atStart=>exact⟨_,1,1,1,[m],rfl,rfl,HP,zq aj,zq rfl⟩
 case round=>
  obtain⟨A,n,cap,p,L,rfl,rfl,HS,HG,HN⟩:=hrel
  cases n with
  | zero=>
   go_wp2;go_ret;exact⟨rfl,HS.out.ev⟩
  | succ n=>
   obtain⟨L,x,rfl,hl⟩:=ae5 HN.out;have uf:=zq hl;obtain⟨A',cap',hvv,qL,hA⟩:=HS.out.own.form ik;rw[HN.out]at hvv qL;injection hvv with h1 h2 h3
   subst h1 h3;have yK:=qL.le;have hcm:=qL.max;have hx:(L++[x])[n]?=some x:=by rw[<-uf.out];simp
   obtain⟨b,off,rfl,hb,c0,c1,c2,c3,c4⟩:=Ms.cell qL hx;unfold M.kv at c3;have U4:=HS.out.lies x aj;have hsum:=HS.out.sum;have hls:=Ud L;have hfew:=HS.out.few;rw[awE,List.length_singleton]at hfew;have hkz:x.kids.length+1<=x.t.size:=by have h5:=EF x.t;have h6:=Ub x.t.kids;rw[M.bD]at h5 h6;rw[awD]at h6;omega
   have hgk:gk=(L.map λx=>x.t.size).sum+x.t.size:=by rw[HG.out];simp
   simp only[awM,axP,awI,awY,axr,aye,awE,awR,axw]at hsum;have hsz:=zQ.out;have hpk:p+x.kids.length<=131072:=ae;have G5:n<=200000:=ae;have HGK:=zq hgk;have qM:=U4.ms.le;have Vy:=U4.ms.max;have TS:=zq U4;have Iu:=zq (Ev.alloc wr (.cells ↑x 101));have HDR:=zq (HS.out.drop hl Iu.out);have i1:(0:Int)<=(n:Int):=ae;have i2:(n:Int)<=(cap:Int):=ae;have aoG:(p:Int)+(x.kids.length:Int)<=131072:=ae;have i3:¬((131072:Int)<(p:Int)+(x.kids.length:Int)):=ae;have i4:decide ((131072:Int)<(p:Int)+(x.kids.length:Int))=false:=axf i3;clear hx hA qL hb hl hsum hls hfew hkz hgk hsz U4 h2;by_cases hk:x.kind=1
   ·have hkb:(x.kind==1)=true:=awO.2 hk;have hkn:(x.kind !=1)=false:=by simp[hk]
    clear hk;obtain⟨kn,ahX⟩:∃kn,kn=x.kids.length:=⟨_,rfl⟩
    rw[<-ahX]at c3 qM hpk aoG i3 i4 Iu;have mg:=zq ahX;clear ahX
    go_wp2_with (first
     | ((show wpList _ _ _ (⟨some 35,_,_,_,_,_⟩::_) _ _);refine aO (o:=⟨some 35,_,_,_,_,_⟩) rfl 99 (.tmp 32) (.tmp 34) rfl ik underlying99 Tryz.infoTree rfl rfl (by have:=HDR.out.own;rw[<-mg.out]at this;exact this) x.A kn x.cap x.kids rfl (by have:=TS.out.ms.ev (HS.out.ev.trans Iu.out);rw[<-mg.out]at this;exact this) (by rw[<-mg.out,uf.out];omega) (by rw[<-mg.out,uf.out];omega) (HS.out.ev.trans Iu.out).size ?_;intro v2 w2 dY;have E2:=((But.aW (HS.out.ev.trans Iu.out)).then dY.2.1).ev (λk hk=>(HDR.out.own.lt (aG.1 hk)).1);have S2:=HS.out.more Iu.out dY.1 E2;obtain⟨A2,cap2,rfl,_,_⟩:=dY.1.form ik;generalize BO:(L++x.kids).length=nn at S2|-;have Dh:=zq BO;clear BO))
    go_roundg (((L++x.kids).map λx=>x.t.size).sum)
    case measure=>
     rw[HGK.out];have h5:=EF x.t;rw[M.bD,awT]at h5;have:(T.size ∘ M.t)=(λx:M=>x.t.size):=rfl;rw[this]at h5;simp only[awM,axP];omega
    case rel=>exact⟨A2,nn,cap2,p+kn,L++x.kids,rfl,by go_num,zq (by rw[mg.out];exact S2),zq rfl,Dh⟩
   have hkb:(x.kind==1)=false:=awy.2 hk;have hkn:(x.kind !=1)=true:=by simp[hk]
   clear hk;go_wp2
   go_roundg ((L.map λx=>x.t.size).sum)
   case measure=>rw[HGK.out];have:=BG x.t;omega
   case rel=>exact⟨_,n,cap,p,L,rfl,rfl,HDR,zq rfl,uf⟩
end Go.Proofs.YtpbfokkocaemlaaGreatDoor
