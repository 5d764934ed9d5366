import Derived.Test.YtbgmhhfjkkfhpaaGreatDoorZ25G
import Derived.Test.YtbgmhhfjkkfhpaaGreatDoorZ22G
set_option linter.unusedVariables false
set_option maxRecDepth 100000
set_option maxHeartbeats 64000000
namespace Go.Proofs.YtbgmhhfjkkfhpaaGreatDoor
open Go.RowKit
open Go.Lib renaming hid → zq
open Go renaming World → ak
open Go.Proofs.Tryz renaming prog → ax
variable {U:Prop}
open Go.Proofs.Tryz
theorem DN:∀(N:Nat) (r b:By) (i:Nat),r.length<=N->(sxTextGo b r i).s.length<=40
 | 0,[],b,i,_=>by simp[sxTextGo,aW]
 | N+1,[],b,i,_=>by simp[sxTextGo,aW]
 | 0,c::q,b,i,h=>by simp at h
 | N+1,c::q,b,i,h=>by
  have hq:q.length<=N:=by simpa using h
  unfold sxTextGo;split;exact DN N q _ _ hq;split
  cases q with
  | nil=>simp[aW]
  | cons x q1=>
   simp only[]
   cases gV x with
   | none=>simp[aW]
   | some a=>
    cases q1 with
    | nil=>simp[aW]
    | cons y q2=>
     simp only[]
     cases gV y with
     | none=>simp[aW]
     | some k=>exact DN N q2 _ _ (by simp at hq;omega)
  split;split;simp[aW];rename_i h;simp;omega;simp[aW]
theorem Jp(plus:Bool)(d:By)(hd:∀c∈d,aY c=true):y7 (sxNum plus d).n/\(sxNum plus d).s=[]:=by
 unfold sxNum
 cases hb:sxBelow d 0 with
 | none=>exact⟨(show y7 0 by decide),rfl⟩
 | some n=>
  have hr:=pX d hd 0 n ae ae hb;simp only[];split;exact⟨(show y7 0 by decide),rfl⟩;rename_i h1
  cases plus
  simp only[aDq,aDU];exact⟨⟨hr.1,ae⟩,aj⟩;simp at h1;simp only[aDL];exact⟨⟨ae,by have:=h1.2;omega⟩,aj⟩
theorem abt(c:UInt8)(q:By):(bJ (c::q)).s.length<=q.length+41/\y7 (bJ (c::q)).n:=by simp only[bJ];split;exact⟨aj,ai⟩;split;exact⟨aj,ai⟩;split;have:=DN q.length q [] 1 (aC8 _);rw[La q.length q [] 1 (aC8 _)];exact⟨ae,ai⟩;split;simp only[dL];split;obtain⟨h1,h2⟩:=Jp false (dC q) (eF q);exact⟨by rw[h2];simp,h1⟩;obtain⟨h1,h2⟩:=Jp true (dC (c::q)) (eF (c::q));exact⟨by rw[h2];simp,h1⟩;split;exact⟨by simp only[aDP,aDh];omega,by show y7 0;decide⟩;exact⟨by simp[aW],by show y7 0;decide⟩
theorem T.aed(e t:T):(e.add t).size=e.size+t.size:=by rw[T.size_eq,T.size_eq e];show ((e.kids++[t]).map T.size).sum+1=_;rw[aDk,aEb];simp;omega
theorem T.aee(e t:T):(e.add t).every dY=(e.every dY&&t.every dY):=by rw[T.kD,T.kD dY e];show (dY e&&(e.kids++[t]).all (T.every dY))=_;rw[aET,Bool.and_assoc];simp
theorem Jq:∀(os:List T) (t:T),((sxPut os t).map T.size).sum<=(os.map T.size).sum+t.size
 | [],t=>by simp[sxPut]
 | [e],t=>by simp[sxPut,T.aed]
 | e::e'::os,t=>by have:=Jq (e'::os) t;simp only[sxPut,aDe,aDI]at this|-;omega
theorem Lp:∀(os:List T) (t:T),os.all (T.every dY)=true->t.every dY=true->(sxPut os t).all (T.every dY)=true
 | [],t,_,_=>rfl
 | [e],t,h,ht=>by simp only[List.all_cons,List.all_nil,aEU]at h;simp[sxPut,T.aee,h,ht]
 | e::e'::os,t,h,ht=>by rw[List.all_cons,aC9]at h;have:=Lp (e'::os) t h.2 ht;simp only[sxPut,List.all_cons,h.1,aD']at this|-;exact this
theorem ZM(os:List T):((rfPop os).map T.size).sum<=(os.map T.size).sum:=by
 unfold rfPop;cases h:os.getLast? with
 | none=>exact aC8 _
 | some e=>
  have h1:=Jq os.dropLast e;have h2:os=os.dropLast++[e]:=by rw[aEX]at h;obtain⟨l,rfl⟩:=h;simp
  have h3:(os.map T.size).sum=(os.dropLast.map T.size).sum+e.size:=by
   conv=>lhs;rw[h2]
   rw[aDk,aEb];simp
  simp only[];omega
theorem aef(os:List T)(h:os.all (T.every dY)=true):(rfPop os).all (T.every dY)=true:=by
 unfold rfPop
 cases hl:os.getLast? with
 | none=>exact h
 | some e=>
  rw[aEX]at hl;obtain⟨l,rfl⟩:=hl;rw[aET,aC9]at h;simp only[List.dropLast_concat];exact Lp _ _ h.1 (by simpa using h.2)
def Q8(N:Nat)(t:T):Prop:=t.every dY=true/\t.size<=N
theorem jQ{N:Nat}(h:1<=N):Q8 N dQ:=⟨by decide+kernel,h⟩
theorem UZ{N:Nat}(hN:1<=N):∀(os:List T) (pos:Nat),os.all (T.every dY)=true->(os.map T.size).sum<=N->Q8 N (jX os pos).1
 | [],_,_,_=>jQ hN
 | e::os,pos,h,hs=>by
  unfold jX
  cases hk:e.kids with
  | nil=>simp only[hk];exact jQ hN
  | cons t l=>
   simp only[hk];rw[List.all_cons,aC9,T.kD,aC9,hk,List.all_cons,aC9]at h;refine⟨h.1.2.1,?_⟩;have:=T.size_eq e;rw[hk]at this;simp only[aDe,aDI]at this hs;omega
theorem sS(N:Nat)(hN:1<=N)(hN2:N<=1000):∀(f:Nat) (os:List T) (r:By) (pos:Nat),os.all (T.every dY)=true->(os.map T.size).sum<=pos+1->pos+r.length+1<=N->Q8 N (rfGo f os r pos).1
 | 0,_,_,_,_,_,_=>jQ hN
 | f+1,os,[],pos,h,hs,hp=>by unfold rfGo Jn;split;exact jQ hN;exact UZ hN _ _ h (by simp at hp;omega)
 | f+1,os,c::q,pos,h,hs,hp=>by
  simp only[aDh]at hp;unfold rfGo;split;exact sS N hN hN2 f _ _ _ h ae ae;split;split;exact jQ hN;exact sS N hN hN2 f _ _ _ (aef _ h) (by have:=ZM os;omega) ae;split;exact jQ hN;split;exact jQ hN;split;split;exact jQ hN;refine sS N hN hN2 f _ _ _ ?_ ?_ ae;rw[aET,h];rfl;rw[aDk,aEb];simp[T.size,T.sizes];omega;split;rename_i hw;have wO:=(vV c q).good (by simpa using hw);have hsn:=abt c q;generalize bJ (c::q)=x at*;have ht:(x.tree pos).every dY=true/\(x.tree pos).size=1:=by refine⟨?_,rfl⟩;simp only[Tk.tree,T.every,T.everys,aEU,dY,T.n,T.s,aC9];exact⟨aDE hsn.2,aDE ae⟩
  refine sS N hN hN2 f _ _ _ (Lp _ _ h ht.1) ?_ ?_;have h1:=Jq os (x.tree pos);have h2:=wO.1;rw[ht.2]at h1;omega;rw[aDD];have:=wO.2.1;simp only[aDh]at this|-;omega;exact jQ hN
theorem aeg(l:By):Q8 601 (fP l).1:=by unfold fP;split;exact jQ ae;exact sS 601 ae ae _ _ _ _ (by decide+kernel) (by decide+kernel) ae
def Lr(t:T):Bool:=!(t.kind==4)||decide (t.s.length<=40)
def zg(e:T):Bool:=!(e.kind==3)||decide (e.s.length<=40)
theorem XM{k:Int}{s:By}{n:Int}{l:List T}{p:Nat}(h:s.length<=40):zg (.mk k s n l p)=true:=by unfold zg;rw[aDC];exact .inr (aDE h)
theorem qx{k:Int}{s:By}{n:Int}{l:List T}{p:Nat}(h1:y7 n)(h2:s.length<=100000):dY (.mk k s n l p)=true:=by unfold dY;rw[aC9];exact⟨aDE h1,aDE h2⟩
theorem vW{k:Int}{s:By}{n:Int}{l:List T}{p:Nat}(h:dY (.mk k s n l p)=true):y7 n/\s.length<=100000:=by unfold dY at h;rw[aC9]at h;exact⟨aEq h.1,aEq h.2⟩
theorem xB{p:T->Bool}(hz:dQ.every p=true)(s:By)(hp:∀l,p (.mk 4 s 0 l 0)=true):∀(rs:List FV) (done:List T),(∀t∈done,t.every p=true)->(∀r∈rs,r.1.every p=true)->(xReads s done rs).1.every p=true
 | [],done,hd,_=>by simp only[xReads];rw[T.kD,hp];show (true&&done.all (T.every p))=true;rw[aD',aDs];exact hd
 | r::rs,done,hd,hr=>by unfold xReads;split;refine xB hz s hp rs _ (λt ht=>?_) λx hx=>hr x (aDc _ hx);rcases aDm.1 ht with h|h;exact hd t h;simp at h;subst h;exact hr r (aC' ..);exact hz
theorem nD(s:By)(n:Int)(l:List T)(p:Nat):xRead (.mk 1 s n l p)=(match l with
  | []=>lF 12 p
  | h::q=>if h.kind==2&&!(dU h.s==0) then (if q.length==dU h.s then xReads h.s [] (q.map xRead) else lF 23 p) else lF 12 p):=by
 cases l with
 | nil=>rfl
 | cons h q=>simp only[xRead,rf];rfl
theorem jL{k:Int}(s:By)(n:Int)(l:List T)(p:Nat)(h1:k≠1):xRead (.mk k s n l p)=if k==2 then (if kZ s then (.mk 1 s 0 [] 0,0,0) else lF 20 p) else if k==3 then (.mk 2 [] n [] 0,0,0) else if k==4 then (.mk 3 s 0 [] 0,0,0) else lF 12 p:=by
 have h:(k==1)=false:=aC7.2 h1
 cases l<;>simp only[xRead,h,aDq,aDU]
mutual
theorem H8:∀t:T,t.every Lr=true->(xRead t).1.every zg=true
 | .mk k s n l p,h=>by
  have hz:dQ.every zg=true:=by decide+kernel
  rw[T.every,aC9]at h;have hl:=zh l h.2;by_cases k1:k=1;subst k1;rw[nD]
  cases l with
  | nil=>exact hz
  | cons hd q=>
   simp only;split;split;refine xB hz hd.s (λl=>rfl) _ [] (λt ht=>by cases ht) λr hr=>?_;obtain⟨t,ht,rfl⟩:=aDz.1 hr;exact hl t (aDc _ ht);exact hz;exact hz
  rw[jL s n l p k1];split;split;simp[T.every,T.everys,zg,T.kind];exact hz;split;simp[T.every,T.everys,zg,T.kind];split;rename_i h4;have h5:=h.1;unfold Lr at h5;have h6:s.length<=40:=by rw[show (T.mk k s n l p).kind=k from rfl,h4,Bool.not_true,Bool.false_or]at h5;exact aEq h5
  simp[T.every,T.everys,XM h6];exact hz
theorem zh:∀l:List T,T.everys Lr l=true->∀t∈l,(xRead t).1.every zg=true
 | [],_=>λt ht=>by cases ht
 | a::l,h=>by rw[T.everys,aC9]at h;intro t ht;rcases aDg.1 ht with h3|h3;rw[h3];exact H8 a h.1;exact zh l h.2 t h3
end
mutual
theorem Ls:∀t:T,t.every dY=true->(xRead t).1.every dY=true
 | .mk k s n l p,h=>by
  have hz:dQ.every dY=true:=by decide+kernel
  rw[T.every,aC9]at h;have hl:=BJ l h.2;have hl2:=h.2;have h1:=vW h.1;have uj:y7 0:=ai;by_cases k1:k=1;subst k1;rw[nD]
  cases l with
  | nil=>exact hz
  | cons hd q=>
   simp only;have hh:hd.s.length<=100000:=by rw[T.everys,aC9,T.kD,aC9]at hl2;have:=hl2.1.1;unfold dY at this;rw[aC9]at this;exact aEq this.2
   split;split;refine xB hz hd.s (λl=>?_) _ [] (λt ht=>by cases ht) λr hr=>?_;exact qx uj hh;obtain⟨t,ht,rfl⟩:=aDz.1 hr;exact hl t (aDc _ ht);exact hz;exact hz
  rw[jL s n l p k1];split;split;simp[T.every,T.everys,qx uj h1.2];exact hz;split;simp[T.every,T.everys,qx h1.1 (show ([]:By).length<=100000 by simp)];split;simp[T.every,T.everys,qx uj h1.2];exact hz
theorem BJ:∀l:List T,T.everys dY l=true->∀t∈l,(xRead t).1.every dY=true
 | [],_=>λt ht=>by cases ht
 | a::l,h=>by rw[T.everys,aC9]at h;intro t ht;rcases aDg.1 ht with h3|h3;rw[h3];exact Ls a h.1;exact BJ l h.2 t h3
end
theorem H9(s:By):∀(rs:List FV) (done:List T),(xReads s done rs).1.size<=(done.map T.size).sum+(rs.map λr=>r.1.size).sum+1
 | [],done=>by simp only[xReads];rw[T.size_eq];simp[T.kids]
 | r::rs,done=>by unfold xReads;split;have:=H9 s rs (done++[r.1]);simp only[aDk,aEb,aDe,aDI,aDu,aE0]at this|-;omega;simp[dQ,T.size,T.sizes]
theorem Lt{α:Type}{f g:α->Nat}:∀{l:List α},(∀x∈l,f x<=g x)->(l.map f).sum<=(l.map g).sum
 | [],_=>aC8 _
 | a::l,h=>by have h1:=h a (aC' ..);have h2:=Lt (l:=l) λx hx=>h x (aDc _ hx);simp only[aDe,aDI];omega
mutual
theorem Lu:∀t:T,(xRead t).1.size<=t.size
 | .mk k s n l p=>by
  have hp:=T.size_pos (.mk k s n l p);have hb:dQ.size<=(T.mk k s n l p).size:=hp;have hl:=BK l;by_cases k1:k=1;subst k1;rw[nD]
  cases l with
  | nil=>exact hb
  | cons hd q=>
   simp only;split;split;have h1:=H9 hd.s (q.map xRead) [];have h2:((q.map xRead).map λr=>r.1.size).sum<=(q.map T.size).sum:=by rw[aDx];exact Lt λt ht=>hl t (aDc _ ht)
   rw[T.size_eq (.mk 1 s n (hd::q) p)];simp only[T.kids,aDe,aDI,aDu,aE0]at h1|-;omega;exact hb;exact hb
  rw[jL s n l p k1];split;split;exact hp;exact hb;split;exact hp;split;exact hp;exact hb
theorem BK:∀l:List T,∀t∈l,(xRead t).1.size<=t.size
 | []=>λt ht=>by cases ht
 | a::l=>by intro t ht;rcases aDg.1 ht with h3|h3;rw[h3];exact Lu a;exact BK l t h3
end
mutual
theorem H_:∀t:T,(xRead t).2.1=0->pI (xRead t).1=true
 | .mk k s n l p=>by
  intro h;have hl:=zi l;by_cases k1:k=1
  ·subst k1;rw[nD]at h|-
   cases l with
   | nil=>simp[lF]at h
   | cons hd q=>
    simp only at h|-;by_cases hk:(hd.kind==2&&!(dU hd.s==0))=true
    ·rw[if_pos hk]at h|-;by_cases hq:(q.length==dU hd.s)=true
     ·rw[if_pos hq]at h|-;have h3:∀(rs:List FV) (done:List T),(xReads hd.s done rs).2.1=0->(∀r∈rs,r.2.1=0)/\xReads hd.s done rs=(.mk 4 hd.s 0 (done++rs.map (·.1)) 0,0,0):=by
       intro rs
       induction rs with
       | nil=>intro done _;exact⟨(λ_ h=>by cases h),by simp[xReads]⟩
       | cons r rs ih=>
        intro done h;unfold xReads at h|-;by_cases hr:r.2.1=0;rw[if_pos (by simp[hr])]at h|-;obtain⟨h1,h2⟩:=ih (done++[r.1]) h;refine⟨λx hx=>?_,by rw[h2];simp⟩;rcases aDg.1 hx with rfl|hx;exact hr;exact h1 x hx;rw[if_neg (by simp[hr])]at h;exact absurd h hr
      obtain⟨h1,h2⟩:=h3 _ [] h;rw[h2];simp only[aDW,aDx];simp only[aC9,aDn,aEJ,aC7]at hk hq;rw[pI,y5,aC9,aDs];refine⟨?_,λt ht=>?_⟩;have:(dU hd.s==0)=false:=aC7.2 hk.2;have e:∀L:List T,DF (.mk 4 hd.s 0 L 0)=(dU hd.s==0||!((0:Int)==0)||!(L.length==dU hd.s)):=λL=>rfl;rw[e,this,aC_,hq];simp;obtain⟨u,hu,rfl⟩:=aDz.1 ht;exact hl u (aDc _ hu) (h1 _ (aDz.2 ⟨u,hu,rfl⟩))
     rw[if_neg hq]at h;exact absurd h (by simp[lF])
    rw[if_neg hk]at h;exact absurd h (by simp[lF])
  rw[jL s n l p k1]at h|-;by_cases k2:k=2;subst k2;by_cases hn:kZ s=true;simp[hn,pI,DI,DF,T.kind,T.s,T.n,T.kids];simp[hn,lF]at h;by_cases k3:k=3;subst k3;rfl;by_cases k4:k=4;subst k4;rfl;simp[k2,k3,k4,lF]at h
theorem zi:∀l:List T,∀t∈l,(xRead t).2.1=0->pI (xRead t).1=true
 | []=>λt ht=>by cases ht
 | a::l=>by intro t ht;rcases aDg.1 ht with h3|h3;rw[h3];exact H_ a;exact zi l t h3
end
theorem aeh{s:By}(h:(abd s||abe s)=true):s=UE∨s=UF∨s=UG∨s=bEq∨s=bLt∨s=UH∨s=bOr∨s=UI∨s=UJ∨s=UK∨s=UL:=by unfold abd abe at h;simp only[aDC,aDn]at h;rcases h with (((((((h1|h1)|h1)|h1)|h1)|h1)|h1)|h1)|((h1|h1)|h1)<;>simp[h1]
def cZ:List C:=[(⟨#[97]⟩,1),(⟨#[99]⟩,1)]
theorem ak7(w:ak):Calls ax 19 #[] w λe w'=>e=.returned (.slice ↑w 2 2)/\Cs w' ↑w 2 2 cZ/\Ev w w':=by go_enter func19,ntmps19;go_wp2;go_ret;exact⟨rfl,Cs.made cZ 2 rfl ai w _ rfl,Ev.alloc _ _⟩
def oV(t:T)(w:ak)(e:Ending)(w':ak):Prop:=∃x:M,e=.returned (.agg ↑x)/\x.t=t/\Lies w.heap.size [] w' x/\Ev w w'
theorem aGM(h:U:=by(try simp only[Exit.inBlock,Exit.then]);rw[ik];refine aFe (aN rfl _ _ _ _ _ rfl (B1.qZ _ _ _ _) underlying135 rfl Tryz.iP) rfl ?_;exact⟨x,by rw[HK.out];rfl,by rw[Am.out,HK.out];rfl,FIN.out _ _ _ _⟩):U:=h
theorem aFK(h:U:=by
 go_wp2_with (first
  | ((with_reducible refine(HWR.out 12 _).mono ?_);rintro e w1 ⟨x,rfl,qB,lD,aJ⟩;have Am:=zq qB;have B1:=HB.out.ev aJ;have FIN:=zq (λv0 v1 v2 v3=>l7 (g:=w.heap.size+1) (HE.out.trans aJ) ae lD xx.out v0 v1 v2 v3);obtain⟨⟨AY,AZ,Ba,WJ⟩,WL,WM,WN,WO⟩:=B1.four;clear qB lD))
 exact aGM):U:=h
end Go.Proofs.YtbgmhhfjkkfhpaaGreatDoor
