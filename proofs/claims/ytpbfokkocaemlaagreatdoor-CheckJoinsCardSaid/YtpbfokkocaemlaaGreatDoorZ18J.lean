import Derived.Test.YtpbfokkocaemlaaGreatDoorZ15J
set_option linter.unusedVariables false
set_option maxRecDepth 100000
set_option maxHeartbeats 64000000
namespace Go.Proofs.YtpbfokkocaemlaaGreatDoor
open Go.RowKit
open Go.Lib renaming hid → zq
open Go renaming World → ak
open Go renaming Value → au
open Go.Proofs.Tryz renaming prog → ax
open Go.Proofs.Tryz
theorem Ep(t:T):t.size=(t.kids.map T.size).sum+1:=by
 cases t
 rw[T.size,T.qK];rfl
theorem AY(t:T):1<=t.size:=by rw[Ep];omega
theorem TD:∀l:List T,l.length<=(l.map T.size).sum
 | []=>by simp
 | t::l=>by have:=TD l;have:=AY t;simp;omega
structure TE(m:M)(b0:Nat)(w0:ak)(v:au)(L:List M)(p:Nat)(w:ak):Prop where
 own:Ow 101 5 mc w0.heap.size w v L
 ev:Ev w0 w
 lies:∀x∈L,Lies b0 [] w0 x
 sum:p+(L.map λx=>x.t.size).sum<=m.t.size+L.length
 few:L.length<=p
theorem TF:∀L:List M,L.length<=(L.map λx=>x.t.size).sum
 | []=>by simp
 | x::L=>by have:=TF L;have:=AY x.t;simp;omega
theorem TE.drop{m x:M}{b0 p:Nat}{w0 w w':ak}{A:Option Addr}{n cap:Nat}{L:List M}(h:TE m b0 w0 (.slice A (n+1) cap) (L++[x]) p w)(hn:L.length=n)(hE:Ev w w'):TE m b0 w0 (.slice A n cap) L p w':=by have h1:=h.own.to gW rfl n (by simp;omega);rw[List.take_left' hn]at h1;have h2:=h.sum;have h3:=AY x.t;simp only[awt,axt,awo,awG,aw8,axT,awl,awr,aw']at h2;have h4:=h.few;rw[awl]at h4;exact⟨h1.ev hE,h.ev.trans hE,λy hy=>h.lies y (awH _ hy),ae,ae⟩
theorem TE.more{m x:M}{b0 p:Nat}{w0 w w' w2:ak}{A:Option Addr}{n cap:Nat}{v2:au}{L:List M}(h:TE m b0 w0 (.slice A (n+1) cap) (L++[x]) p w)(hE:Ev w w')(ho:Ow 101 5 mc w0.heap.size w2 v2 (L++x.kids))(bQ:Ev w0 w2):TE m b0 w0 v2 (L++x.kids) (p+x.kids.length) w2:=by have h2:=h.sum;have h3:=Ep x.t;rw[M.aZ,awy]at h3;have:(T.size ∘ M.t)=(λx:M=>x.t.size):=rfl;rw[this]at h3;simp only[awt,axt,awo,awG,aw8,axT,awl,awr,aw']at h2;have h4:=h.few;rw[awl]at h4;refine⟨ho,bQ,λy hy=>?_,?_,by rw[awl];omega⟩;rcases awD.1 hy with h1|h1;exact h.lies y (awH _ h1);exact(h.lies x aj).kid y h1;simp only[awt,axt,awl];omega
theorem adN{L:List M}{n:Nat}(h:L.length=n+1):∃L' x,L=L'++[x]/\L'.length=n:=by
 cases hL:L.getLast? with
 | none=>rw[List.getLast?_eq_none_iff]at hL;subst hL;simp at h
 | some x=>
  rw[axS]at hL;obtain⟨L',rfl⟩:=hL;exact⟨L',x,rfl,by simpa using h⟩
theorem OH(m:M)(b0:Nat)(w:ak)(h:Lies b0 [] w m)(hsz:m.t.size<=100000):
  Calls ax 97 #[.agg ↑m] w λe w'=>e=.returned (.bool true)/\Ev w w':=by
 have aW:=(Ev.alloc w (.cells ↑m 101)).trans (Ev.alloc _ (.cells ↑m 101));have hP:TE m b0 w (.slice (some ⟨w.heap.size+1,0,none⟩) 1 1) [m] 1 ((w.alloc (.cells ↑m 101)).alloc (.cells ↑m 101)):=by refine⟨?_,aW,λx hx=>by simp at hx;subst hx;exact h,by simp;omega,aj⟩;have:=Ow.made (et:=101) (base:=w.heap.size) gW (w.alloc (.cells ↑m 101)) [m] ↑m rfl aj aj;simpa using this
 have HP:=zq hP;have zx:=zq hsz;clear hP aW hsz;go_enter func97,ntmps97;go_wp2
 go_loopg [3,4] m.t.size (λg lv pv wr=>∃(A:Option Addr) (n cap p:Nat) (L:List M),lv=.slice A n cap/\pv=↑p/\Hid (TE m b0 w (.slice A n cap) L p wr)/\Hid (g=(L.map λx=>x.t.size).sum)/\Hid (L.length=n))
 case atStart=>exact⟨_,1,1,1,[m],rfl,rfl,HP,zq aj,zq rfl⟩
 case round=>
  obtain⟨A,n,cap,p,L,rfl,rfl,HS,HG,HN⟩:=hrel
  cases n with
  | zero=>
   go_wp2;go_ret;exact⟨rfl,HS.out.ev⟩
  | succ n=>
   obtain⟨L,x,rfl,hl⟩:=adN HN.out;have t_:=zq hl;obtain⟨A',cap',ZJ,qm,hA⟩:=HS.out.own.form gW;rw[HN.out]at ZJ qm;injection ZJ with h1 h2 h3
   subst h1 h3;have zA:=qm.le;have hcm:=qm.max;have hx:(L++[x])[n]?=some x:=by rw[<-t_.out];simp
   obtain⟨b,off,rfl,hb,c0,c1,c2,c3,c4⟩:=Ms.cell qm hx;unfold M.kv at c3;have UI:=HS.out.lies x aj;have hsum:=HS.out.sum;have hls:=TF L;have hfew:=HS.out.few;rw[awl,List.length_singleton]at hfew;have hkz:x.kids.length+1<=x.t.size:=by have h5:=Ep x.t;have h6:=TD x.t.kids;rw[M.aZ]at h5 h6;rw[awh]at h6;omega
   have hgk:gk=(L.map λx=>x.t.size).sum+x.t.size:=by rw[HG.out];simp
   simp only[awt,axt,awo,awG,aw8,axT,awl,awr,aw']at hsum;have hsz:=zx.out;have hpk:p+x.kids.length<=131072:=ae;have Jq:n<=200000:=ae;have HGK:=zq hgk;have tJ:=UI.ms.le;have Yk:=UI.ms.max;have V6:=zq UI;have PK:=zq (Ev.alloc wr (.cells ↑x 101));have HDR:=zq (HS.out.drop hl PK.out);have i1:(0:Int)<=(n:Int):=ae;have i2:(n:Int)<=(cap:Int):=ae;have anu:(p:Int)+(x.kids.length:Int)<=131072:=ae;have i3:¬((131072:Int)<(p:Int)+(x.kids.length:Int)):=ae;have i4:decide ((131072:Int)<(p:Int)+(x.kids.length:Int))=false:=awY i3;clear hx hA qm hb hl hsum hls hfew hkz hgk hsz UI h2;by_cases hk:x.kind=1
   ·have hkb:(x.kind==1)=true:=awx.2 hk;have hkn:(x.kind !=1)=false:=by simp[hk]
    clear hk;obtain⟨kn,agB⟩:∃kn,kn=x.kids.length:=⟨_,rfl⟩
    rw[<-agB]at c3 tJ hpk anu i3 i4 PK;have mF:=zq agB;clear agB
    go_wp2_with (first
     | ((show wpList _ _ _ (⟨some 35,_,_,_,_,_⟩::_) _ _);refine aO (o:=⟨some 35,_,_,_,_,_⟩) rfl 99 (.tmp 32) (.tmp 34) rfl gW underlying99 Tryz.infoTree rfl rfl (by have:=HDR.out.own;rw[<-mF.out]at this;exact this) x.A kn x.cap x.kids rfl (by have:=V6.out.ms.ev (HS.out.ev.trans PK.out);rw[<-mF.out]at this;exact this) (by rw[<-mF.out,t_.out];omega) (by rw[<-mF.out,t_.out];omega) (HS.out.ev.trans PK.out).size ?_;intro v2 w2 gV;have E2:=((But.aV (HS.out.ev.trans PK.out)).then gV.2.1).ev (λk hk=>(HDR.out.own.lt (aG.1 hk)).1);have S2:=HS.out.more PK.out gV.1 E2;obtain⟨A2,cap2,rfl,_,_⟩:=gV.1.form gW;generalize CU:(L++x.kids).length=nn at S2|-;have FQ:=zq CU;clear CU))
    go_roundg (((L++x.kids).map λx=>x.t.size).sum)
    case measure=>
     rw[HGK.out];have h5:=Ep x.t;rw[M.aZ,awy]at h5;have:(T.size ∘ M.t)=(λx:M=>x.t.size):=rfl;rw[this]at h5;simp only[awt,axt];omega
    case rel=>exact⟨A2,nn,cap2,p+kn,L++x.kids,rfl,by go_num,zq (by rw[mF.out];exact S2),zq rfl,FQ⟩
   have hkb:(x.kind==1)=false:=awg.2 hk;have hkn:(x.kind !=1)=true:=by simp[hk]
   clear hk;go_wp2
   go_roundg ((L.map λx=>x.t.size).sum)
   case measure=>rw[HGK.out];have:=AY x.t;omega
   case rel=>exact⟨_,n,cap,p,L,rfl,rfl,HDR,zq rfl,t_⟩
end Go.Proofs.YtpbfokkocaemlaaGreatDoor
