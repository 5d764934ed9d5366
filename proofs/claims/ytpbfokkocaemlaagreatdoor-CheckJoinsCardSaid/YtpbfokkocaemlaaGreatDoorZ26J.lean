import Derived.Test.YtpbfokkocaemlaaGreatDoorZ23J
import Derived.Test.YtpbfokkocaemlaaGreatDoorZ24J
set_option linter.unusedVariables false
set_option maxRecDepth 100000
set_option maxHeartbeats 64000000
namespace Go.Proofs.YtpbfokkocaemlaaGreatDoor
open Go.RowKit
open Go.Lib renaming hid → zq
open Go renaming World → ak
open Go.Proofs.Tryz renaming prog → ax
variable {U:Prop}
open Go.Proofs.Tryz
theorem Oo{p:UInt8->Bool}{c:UInt8}{q:By}(h:p c=true):(c::q).take (sxRun p (c::q))=c::q.take (sxRun p q):=by simp[sxRun,h]
theorem Oq(c:UInt8)(q:By)(hq:q.length<=600)(h:(bK (c::q)).why=0):
  ((bK (c::q)).kind=1/\(bK (c::q)).s=[]/\(bK (c::q)).n=0)∨(bK (c::q)).kind=-1∨gZ (bK (c::q)).kind (bK (c::q)).s (bK (c::q)).n []=true:=by
 revert h
 simp only[bK];split;exact λ_=>.inl ⟨rfl,rfl,rfl⟩;split;exact λ_=>.inr (.inl rfl);split;intro h;have h1:=DZ q.length q [] 1 (awj _);have h2:=JC q.length q [] 1 (awj _);have h3:=((lD q.length q [] 1 (awj _)).2 h).1;right;right;rw[h2,h3];unfold gZ;simp[h1];split;simp only[dO];split;intro h;have h1:=IY false (dJ q) (fC q);have h2:=((lg false (dJ q) (fC q)).2 h).1;right;right;rw[h1.2,h2];have h3:=h1.1;unfold zD at h3;unfold gZ;simp[h3];intro h;have h1:=IY true (dJ (c::q)) (fC (c::q));have h2:=((lg true (dJ (c::q)) (fC (c::q))).2 h).1;right;right;rw[h1.2,h2];have h3:=h1.1;unfold zD at h3;unfold gZ;simp[h3];split;rename_i hl;intro _;right;right;rw[Oo hl];have hall:(c::q.take (sxRun bn q)).all bn=true:=by rw[<-Oo hl,awF];exact Ff bn (c::q)
 have hlen:(c::q.take (sxRun bn q)).length<=1000:=by simp only[awr,awT];omega
 unfold gZ;rw[hall,awO hlen];rfl;intro h;simp[aX]at h
theorem VC(c:UInt8)(q:By)(h:(c.toNat==41)=false):(bK (c::q)).kind≠-1:=by simp only[bK,h,awv,if_false];split;intro h1;cases h1;split;intro h1;by_cases VD:(sxTextGo [] q 1).why=0;rw[((lD q.length q [] 1 (awj _)).2 VD).1]at h1;cases h1;rw[((lD q.length q [] 1 (awj _)).1 VD).1]at h1;cases h1;split;simp only[dO];split;intro h1;by_cases VD:(sxNum false (dJ q)).why=0;rw[((lg false (dJ q) (fC q)).2 VD).1]at h1;cases h1;rw[((lg false (dJ q) (fC q)).1 VD).1]at h1;cases h1;intro h1;by_cases VD:(sxNum true (dJ (c::q))).why=0;rw[((lg true (dJ (c::q)) (fC (c::q))).2 VD).1]at h1;cases h1;rw[((lg true (dJ (c::q)) (fC (c::q))).1 VD).1]at h1;cases h1;split;intro h1;cases h1;intro h1;cases h1
def InvAt:Nat->List T->Prop
 | _,[]=>True
 | j,e::os=>(j=0∨(e.kind=1/\e.s=[]/\e.n=0/\j<=12))/\(∀k∈e.kids,k.fine=true/\j+k.deep<=12)/\InvAt (j+1) os
theorem P8:∀(os:List T) (j:Nat) (t:T),InvAt j os->t.fine=true->j+os.length+t.deep<=13->InvAt j (sxPut os t)
 | [],j,t,h,_,_=>trivial
 | [e],j,t,h,ht,hd=>by refine⟨h.1.imp id λh=>h,λk hk=>?_,trivial⟩;rw[T.RF]at hk;rcases awD.1 hk with h1|h1;exact h.2.1 k h1;simp at h1;subst h1;simp at hd;exact⟨ht,ae⟩
 | e::e'::os,j,t,h,ht,hd=>by refine⟨h.1,h.2.1,P8 (e'::os) (j+1) t h.2.2 ht ?_⟩;simp only[awr]at hd|-;omega
theorem J4:∀(os:List T) (j:Nat) (e:T),InvAt j (os++[e])↔(InvAt j os/\InvAt (j+os.length) [e])
 | [],j,e=>by simp[InvAt]
 | a::os,j,e=>by simp only[awV,InvAt,J4 os (j+1) e,awr];rw[show j+1+os.length=j+(os.length+1) by omega];constructor;rintro⟨h1,h2,h3,h4⟩;exact⟨⟨h1,h2,h3⟩,h4⟩;rintro⟨⟨h1,h2,h3⟩,h4⟩;exact⟨h1,h2,h3,h4⟩
theorem SB:∀(l:List T) (d:Nat),(∀k∈l,k.deep<=d)->T.oM l<=d
 | [],d,_=>by simp[T.oM]
 | a::l,d,h=>by have h1:=h a (awp ..);have h2:=SB l d λk hk=>h k (awn _ hk);rw[T.oM];omega
theorem FX:∀l:List T,T.wO l=l.all T.fine
 | []=>rfl
 | t::l=>by simp[T.wO,FX l]
theorem adv(os:List T)(e:T)(h0:os≠[])(h:InvAt 0 (os++[e])):InvAt 0 (sxPut os e):=by
 obtain⟨h1,h2,h3,_⟩:=(J4 os 0 e).1 h;have hpos:0<os.length:=by cases os with|nil=>exact absurd rfl h0|cons a b=>simp
 rcases h2 with h2|⟨k1,k2,k3,k4⟩
 omega;rw[awL]at h3 k4;refine P8 os 0 e h1 ?_ ?_;cases e with
 | mk k s n l p=>
  simp only[T.kind,T.s,T.n]at k1 k2 k3;subst k1 k2 k3;rw[T.fine,FX];have:l.all T.fine=true:=awF.2 λx hx=>(h3 x hx).1;rw[this];rfl
 cases e with
 | mk k s n l p=>
  simp only[T.kind]at k1;subst k1;rw[T.deep,if_pos rfl];have:=SB l (12 - os.length) λx hx=>by have:=(h3 x hx).2;omega
  omega
theorem SC(os:List T)(pos:Nat)(h:InvAt 0 os)(hl:os.length<=12):InvAt 0 (os++[.mk 1 [] 0 [] pos]):=by refine(J4 os 0 _).2 ⟨h,.inr ⟨rfl,rfl,rfl,ae⟩,(λk hk=>by cases hk),trivial⟩
theorem YG{k:Int}{s:By}{n:Int}{p:Nat}(h:gZ k s n []=true):(T.mk k s n [] p).fine=true/\(T.mk k s n [] p).deep=0/\k≠1/\k≠-1:=by obtain⟨c,q,h1,h2,h3,h4,h5,_⟩:=FP (p:=p) h (r:=[]) (.inl rfl);have h4':=awg.1 h4;refine⟨by rw[T.fine,h,Bool.or_true],by rw[T.deep,if_neg h4'],h4',awg.1 h5⟩
def FY(r:Res):Prop:=r.2.1=0->r.1.fine=true/\r.1.deep<=12/\r.1.size<=601
theorem jl{t:T}{why:Int}{pos:Nat}(h:why≠0):FY (t,why,pos):=λh0=>absurd h0 h
theorem G8(os:List T)(pos:Nat)(h:InvAt 0 os)(hs:(os.map T.size).sum<=601):FY (kN os pos):=by
 unfold kN
 cases os with
 | nil=>exact jl ai
 | cons e os=>
  cases hk:e.kids with
  | nil=>simp only[hk];exact jl ai
  | cons t l=>
   simp only[hk];intro _;have h1:=h.2.1 t (by rw[hk];exact awp ..);have:=T.size_eq e;rw[hk]at this;simp only[awo,aw8]at this hs;exact⟨h1.1,(by show t.deep<=12;omega),(by show t.size<=601;omega)⟩
theorem aaT{os:List T}(h:os≠[])(t:T):sxPut os t≠[]:=by
 intro h2;have:=uI os t;rw[h2]at this
 cases os with
 | nil=>exact h rfl
 | cons a b=>simp at this
theorem CV(os:List T)(x:Tk)(pos:Nat)(h0:os≠[])(h:InvAt 0 os)(h13:os.length<=13)(hx:(x.kind=1/\x.s=[]/\x.n=0)∨x.kind=-1∨gZ x.kind x.s x.n []=true)(h1:x.kind=-1->os.length≠1)(h2:x.kind=1->os.length<=12):
  sxTake os (x.tree pos)≠[]/\InvAt 0 (sxTake os (x.tree pos))/\(sxTake os (x.tree pos)).length<=13/\((sxTake os (x.tree pos)).map T.size).sum<=(os.map T.size).sum+1:=by
 rcases hx with⟨k1,k2,k3⟩|k1|k1;have e:sxTake os (x.tree pos)=os++[.mk 1 [] 0 [] pos]:=by unfold sxTake Tk.tree;simp[T.kind,k1,k2,k3]
 rw[e];refine⟨aj,SC os pos h (h2 k1),by have:=h2 k1;simp;omega,by simp[T.size,T.sizes]⟩;have e:sxTake os (x.tree pos)=rfPop os:=by unfold sxTake Tk.tree rfPop;simp only[T.kind,k1];rfl
 rw[e];have hsum:=Xw os;unfold rfPop at hsum|-
 cases hl:os.getLast? with
 | none=>
  rw[List.getLast?_eq_none_iff]at hl;exact absurd hl h0
 | some y=>
  rw[axS]at hl;obtain⟨l,rfl⟩:=hl;simp only[List.dropLast_concat,List.getLast?_concat]at hsum|-;have hl0:l≠[]:=by rintro rfl;exact h1 k1 rfl
  refine⟨aaT hl0 y,adv l y hl0 h,?_,ae⟩;rw[uI];simp at h13;omega
 obtain⟨f1,f2,f3,f4⟩:=YG (p:=pos) k1;have e:sxTake os (x.tree pos)=sxPut os (.mk x.kind x.s x.n [] pos):=by unfold sxTake Tk.tree;simp[T.kind,f3,f4]
 rw[e];have hp:=IZ os (.mk x.kind x.s x.n [] pos);have hz:(T.mk x.kind x.s x.n [] pos).size=1:=rfl;refine⟨aaT h0 _,P8 os 0 _ h f1 (by rw[f2];omega),by rw[uI];exact h13,ae⟩
theorem J5:∀(f:Nat) (os:List T) (r:By) (pos:Nat),os≠[]->InvAt 0 os->os.length<=13->(os.map T.size).sum<=pos+1->pos+r.length<=600->FY (sxGo f os r pos)
 | 0,_,_,_,_,_,_,_,_=>jl ai
 | f+1,os,r,pos,h0,h,h13,hs,hp=>by
  unfold sxGo;have hrl:=jQ dE r;have ZI:(r.drop (sxRun dE r)).length=r.length - sxRun dE r:=awQ ..
  cases hd:r.drop (sxRun dE r) with
  | nil=>exact G8 os _ h ae
  | cons c q=>
   simp only;rw[hd]at ZI;simp only[awr]at ZI;split;rename_i hj;have CE:=xP c q;obtain⟨j1,j2,j3,j4⟩:=Jt CE (by simpa using hj);have hg:=CE.good j1;have oQ:=Oq c q ae j1;generalize bK (c::q)=x at*;obtain⟨t1,t2,t3,t4⟩:=CV os x (pos+sxRun dE r) h0 h h13 oQ j2 j4;refine J5 f _ _ _ t1 t2 t3 (by have:=hg.1;omega) ?_;rw[awQ,awr];have:=hg.2.1;simp only[awr]at this;omega;rename_i hj;exact jl (by simpa using hj)
theorem J6(l:By):FY (fA l):=by unfold fA;split;exact jl ai;exact J5 _ _ _ _ aj ⟨.inl rfl,(λk hk=>by cases hk),trivial⟩ aj (by decide+kernel) ae
theorem uZ:∀(f:Nat) (os:List T) (r:By) (pos:Nat),os≠[]->InvAt 0 os->os.length<=13->(os.map T.size).sum<=pos+1->pos+r.length<=600->FY (rfGo f os r pos)
 | 0,_,_,_,_,_,_,_,_=>jl ai
 | f+1,os,[],pos,h0,h,h13,hs,hp=>by unfold rfGo IW;split;exact jl ai;exact G8 _ _ h (by simp at hp;omega)
 | f+1,os,c::q,pos,h0,h,h13,hs,hp=>by
  simp only[awr]at hp;unfold rfGo;split;exact uZ f _ _ _ h0 h h13 ae ae;split;split;exact jl ai;rename_i h41 MR;obtain⟨t1,t2,t3,t4⟩:=CV os ⟨-1,[],0,1,0,0⟩ pos h0 h h13 (.inr (.inl rfl)) (λ_=>by simpa using MR) (λh=>by cases h);have e:sxTake os ((Tk.mk (-1) [] 0 1 0 0).tree pos)=rfPop os:=rfl;rw[e]at t1 t2 t3 t4;exact uZ f _ _ _ t1 t2 t3 ae ae;split;exact jl ai;split;exact jl ai;split;split;exact jl ai;rename_i h12;refine uZ f _ _ _ aj (SC os pos h ae) (by simp;omega) ?_ ae;simp[T.size,T.sizes];omega;split;rename_i Ii hw;have h41:¬(c.toNat==41)=true:=by assumption
  have hw':(bK (c::q)).why=0:=by simpa using hw
  have hg:=(xP c q).good hw';have oQ:=Oq c q ae hw';have hk:(bK (c::q)).kind≠1/\(bK (c::q)).kind≠-1:=by
   constructor;intro h1;rcases hg.2.2 with⟨_,h2⟩|h2|⟨h2,_⟩|⟨h2,_⟩|⟨h2,_⟩
   rw[h2]at Ii;exact absurd rfl Ii;rw[h1]at h2;cases h2;rw[h1]at h2;cases h2;rw[h1]at h2;cases h2;rw[h1]at h2;cases h2;exact VC c q (by simpa using h41)
  generalize bK (c::q)=x at*;obtain⟨t1,t2,t3,t4⟩:=CV os x pos h0 h h13 oQ (λh=>absurd h hk.2) (λh=>absurd h hk.1);have e:sxTake os (x.tree pos)=sxPut os (x.tree pos):=by unfold sxTake Tk.tree;simp[T.kind,hk.1,hk.2]
  rw[e]at t1 t2 t3 t4;refine uZ f _ _ _ t1 t2 t3 (by have:=hg.1;omega) ?_;rw[awQ,awr];have:=hg.2.1;simp only[awr]at this;omega;rename_i hw;exact jl (by simpa using hw)
theorem D6(l:By):FY (dG l):=by unfold dG;split;exact jl ai;exact uZ _ _ _ _ aj ⟨.inl rfl,(λk hk=>by cases hk),trivial⟩ aj (by decide+kernel) ae
mutual
theorem jL:∀t:T,t.fine=true->t.every cO=true/\t.every JW=true
 | .mk k s n l p,h=>by
  have hl:=J7 l;have DK:zD 0:=ai;rw[T.fine,awP]at h;rw[T.every,T.every];rcases h with h|h;simp only[awk,awx,axL]at h;obtain⟨⟨⟨rfl,rfl⟩,rfl⟩,h4⟩:=h;obtain⟨h5,h6⟩:=hl h4;rw[h5,h6,su DK aj];exact⟨rfl,rfl⟩;unfold gZ at h;simp only[awP,awk,awx,aw7,axC,axL,awF]at h;rcases h with (⟨⟨⟨rfl,hs,_⟩,rfl,h1⟩,rfl⟩|⟨⟨⟨rfl,rfl⟩,h1,h2⟩,rfl⟩)|⟨⟨⟨rfl,hs⟩,rfl⟩,rfl⟩
  rw[su DK ae];exact⟨rfl,rfl⟩;rw[su ⟨h1,h2⟩ aj];exact⟨rfl,rfl⟩;rw[su DK ae];refine⟨rfl,?_⟩;unfold JW;simp[T.kind,T.s,hs,T.everys]
theorem J7:∀l:List T,T.wO l=true->T.everys cO l=true/\T.everys JW l=true
 | [],_=>⟨rfl,rfl⟩
 | t::l,h=>by rw[T.wO,awk]at h;have h1:=jL t h.1;have h2:=J7 l h.2;rw[T.everys,T.everys,h1.1,h1.2,h2.1,h2.2];exact⟨rfl,rfl⟩
end
abbrev Ag:=By×By×By
inductive Pl where
 | mk (kind:Int) (name:By) (exprs:List T) (cols left right:List By) (F7:List Ag) (kids:List Pl):Pl
def Pl.kind:Pl->Int
 | .mk k _ _ _ _ _ _ _=>k
def Pl.name:Pl->By
 | .mk _ s _ _ _ _ _ _=>s
def Pl.exprs:Pl->List T
 | .mk _ _ l _ _ _ _ _=>l
def Pl.cols:Pl->List By
 | .mk _ _ _ l _ _ _ _=>l
def Pl.left:Pl->List By
 | .mk _ _ _ _ l _ _ _=>l
def Pl.right:Pl->List By
 | .mk _ _ _ _ _ l _ _=>l
def Pl.F7:Pl->List Ag
 | .mk _ _ _ _ _ _ l _=>l
def Pl.kids:Pl->List Pl
 | .mk _ _ _ _ _ _ _ l=>l
def ik:Pl:=.mk 0 [] [] [] [] [] [] []
def gU:By:=[116,97,98,108,101]
def d_:By:=[102,105,108,116,101,114]
def bT:By:=[112,114,111,106,101,99,116]
def gB:By:=[106,111,105,110]
def iH:By:=[117,110,105,111,110]
def dN:By:=[100,105,115,116,105,110,99,116]
def dU:By:=[103,114,111,117,112]
def fH:By:=[99,111,117,110,116]
def ve:By:=[115,117,109]
def vg:By:=[109,105,110]
def vk:By:=[109,97,120]
def aP(s:By):T:=.mk 2 s 0 [] 0
def bU(l:List T):T:=.mk 1 [] 0 l 0
def aU(l:List By):T:=bU (l.map aP)
def eF(a:Ag):T:=bU (if a.2.2.isEmpty then [aP a.1,aP a.2.1] else [aP a.1,aP a.2.1,aP a.2.2])
def bM(c:By)(e:T):T:=bU [aP c,xTree e]
def kF(k:Int)(nm:By)(es:List T)(cs lf rt:List By)(ag:List Ag):List T:=
 if k=1 then [aP gU,aP nm]
 else if k=2 then aP d_::es.map xTree
 else if k=3 then aP bT::List.zipWith bM cs es
 else if k=4 then [aP gB,aU lf,aU rt]
 else if k=5 then [aP iH]
 else if k=6 then [aP dN]
 else if k=7 then aP dU::aU lf::ag.map eF
 else []
mutual
def aH:Pl->T
 | .mk k nm es cs lf rt ag l=>bU (kF k nm es cs lf rt ag++pTrees l)
def pTrees:List Pl->List T
 | []=>[]
 | p::l=>aH p::pTrees l
end
theorem vw:∀l:List Pl,pTrees l=l.map aH
 | []=>by simp[pTrees]
 | p::l=>by simp[pTrees,vw l]
def fV(s:By):Nat:=if s==gU then 1 else if s==d_ then 2 else if s==bT then 3 else if s==gB then 4 else if s==iH then 5 else if s==dN then 6 else if s==dU then 7 else 0
abbrev at_(l:List T)(i:Nat):T:=l.getD i dR
def bW(t:T):Bool:=t.kind==2
def dH(t:T):Bool:=t.kind==1&&t.kids.all bW
def eU(t:T):Bool:=t.kind==1&&t.kids.length==2&&bW (at_ t.kids 0)
def dX(t:T):Bool:=dH t&&(t.kids.length==2||t.kids.length==3)
def pFormOf(k:Nat)(q:List T):Bool:=
 match k with
 | 1=>q.length==1&&bW (at_ q 0)
 | 2=>q.length==2
 | 3=>decide (2<=q.length)&&(q.take (q.length - 1)).all eU
 | 4=>q.length==4&&(q.take 2).all dH
 | 5=>q.length==2
 | 6=>q.length==1
 | 7=>decide (2<=q.length)&&dH (at_ q 0)&&((q.take (q.length - 1)).drop 1).all dX
 | _=>false
def fZ(t:T):Bool:=t.kind==1&&decide (2<=t.kids.length)&&bW (at_ t.kids 0)&&pFormOf (fV (at_ t.kids 0).s) (t.kids.drop 1)
def qP(t:T):By:=(at_ t.kids 0).s
def qQ(t:T):T:=(xRead (at_ t.kids 1)).1
def kK(t:T):Ag:=((at_ t.kids 0).s,(at_ t.kids 1).s,if t.kids.length==3 then (at_ t.kids 2).s else [])
def pMake(k:Nat)(q:List T)(ps:List Pl):Pl:=
 match k with
 | 1=>.mk 1 (at_ q 0).s [] [] [] [] [] []
 | 2=>.mk 2 [] [(xRead (at_ q 0)).1] [] [] [] [] (ps.drop 1)
 | 3=>.mk 3 [] ((q.take (q.length - 1)).map qQ) ((q.take (q.length - 1)).map qP) [] [] [] (ps.drop (q.length - 1))
 | 4=>.mk 4 [] [] [] ((at_ q 0).kids.map T.s) ((at_ q 1).kids.map T.s) [] (ps.drop 2)
 | 5=>.mk 5 [] [] [] [] [] [] ps
 | 6=>.mk 6 [] [] [] [] [] [] ps
 | _=>.mk 7 [] [] [] ((at_ q 0).kids.map T.s) [] (((q.take (q.length - 1)).drop 1).map kK) (ps.drop (q.length - 1))
mutual
def pPlan:T->Pl
 | .mk k s n l p=>if fZ (.mk k s n l p) then pMake (fV (at_ l 0).s) (l.drop 1) ((pPlans l).drop 1) else ik
def pPlans:List T->List Pl
 | []=>[]
 | t::l=>pPlan t::pPlans l
end
theorem yN:∀l:List T,pPlans l=l.map pPlan
 | []=>by simp[pPlans]
 | p::l=>by simp[pPlans,yN l]
abbrev Er:=Int×Nat
def fO(a b:Er):Er:=if a.1==0&&!(b.1==0) then b else a
def aT(l:List Er):Er:=l.foldl fO (0,0)
def bF(t:T):Er:=if iC t.s then (0,0) else (20,t.pos)
def jU(t:T):Er:=((xRead t).2.1,(xRead t).2.2)
def isFun(f:By)(of:Bool):Bool:=if f==ve||f==vg||f==vk then of else if f==fH then !of else false
def ed(t:T):List Er:=[bF (at_ t.kids 0),jU (at_ t.kids 1)]
def dY(t:T):List Er:=[bF (at_ t.kids 0),if isFun (at_ t.kids 1).s (t.kids.length==3) then (0,0) else (12,(at_ t.kids 1).pos),if t.kids.length==3 then bF (at_ t.kids 2) else (0,0)]
def yO(k:Nat)(q:List T)(es:List Er):List Er:=
 match k with
 | 1=>[bF (at_ q 0)]
 | 2=>jU (at_ q 0)::es.drop 1
 | 3=>(q.take (q.length - 1)).flatMap ed++es.drop (q.length - 1)
 | 4=>(at_ q 0).kids.map bF++((at_ q 1).kids.map bF++es.drop 2)
 | 5=>es
 | 6=>es
 | _=>(at_ q 0).kids.map bF++(((q.take (q.length - 1)).drop 1).flatMap dY++es.drop (q.length - 1))
mutual
def bf:T->Er
 | .mk k s n l p=>if fZ (.mk k s n l p) then aT (yO (fV (at_ l 0).s) (l.drop 1) ((D7 l).drop 1)) else (12,p)
def D7:List T->List Er
 | []=>[]
 | t::l=>bf t::D7 l
end
theorem AB:∀l:List T,D7 l=l.map bf
 | []=>by simp[D7]
 | p::l=>by simp[D7,AB l]
theorem AL(a b c:Er):fO (fO a b) c=fO a (fO b c):=by
 unfold fO
 cases h1:a.1==0<;>cases h2:b.1==0<;>cases h3:c.1==0<;>simp[h1,h2,h3]
theorem xZ(a:Er):fO a (0,0)=a:=by simp[fO]
theorem uq(a b:Er):(fO a b).1=0↔a.1=0/\b.1=0:=by
 unfold fO
 cases h1:a.1==0<;>cases h2:b.1==0<;>simp_all
theorem SH(a y:Er):fO a (fO (0,0) y)=fO a y:=by cases h:y.1==0<;>simp[fO,h]
theorem jo:∀(l:List Er) (a:Er),l.foldl fO a=fO a (aT l)
 | [],a=>by simp[aT,xZ]
 | e::l,a=>by unfold aT;rw[axj,jo l,axj,jo l (fO (0,0) e),AL,AL];rw[SH]
theorem gI:∀l:List Er,(aT l).1=0↔∀e∈l,e.1=0
 | []=>by simp[aT]
 | e::l=>by
  have:aT (e::l)=fO (fO (0,0) e) (aT l):=by unfold aT;rw[axj,jo];rfl
  rw[this,uq,uq,gI l];simp
theorem VE(a:Er)(e:Er)(l:List Er):fO (fO a e) (aT l)=fO a (aT (e::l)):=by rw[<-jo,<-jo];rfl
theorem lW(a:Er)(l m:List Er):fO (fO a (aT l)) (aT m)=fO a (aT (l++m)):=by rw[<-jo,<-jo,<-jo,axD]
abbrev aaV:=Pl×Int×Nat
def pFrom(t:T):aaV:=if (bf t).1==0 then (if 600<(printS (aH (pPlan t))).length then (ik,3,0) else (pPlan t,0,0)) else (ik,(bf t).1,(bf t).2)
def mi(s:By):aaV:=if (fA s).2.1==0 then pFrom (fA s).1 else (ik,(fA s).2.1,(fA s).2.2)
def qR(p:Pl):By:=if (printS (aH p)).length<=600/\(aH p).deep<=12 then printS (aH p) else []
mutual
def Pl.size:Pl->Nat
 | .mk _ _ _ _ _ _ _ l=>Pl.sizes l+1
def Pl.sizes:List Pl->Nat
 | []=>0
 | p::l=>p.size+Pl.sizes l
end
theorem Pl.qK:∀l:List Pl,Pl.sizes l=(l.map Pl.size).sum
 | []=>by simp[Pl.sizes]
 | p::l=>by simp[Pl.sizes,Pl.qK l]
structure wR(e:T):Prop where
 right:dQ e=true
 text:e.every zI=true
 fair:e.every cO=true
 back:xRead (xTree e)=(e,0,0)
def Kq(a:Ag):Prop:=iC a.1=true/\((a.2.1=fH/\a.2.2=[])∨((a.2.1=ve∨a.2.1=vg∨a.2.1=vk)/\iC a.2.2=true))
def Nms(l:List By):Prop:=∀s∈l,iC s=true
def x8(k:Int)(nm:By)(es:List T)(cs lf rt:List By)(ag:List Ag)(nk:Nat):Prop:=
 (k=1/\iC nm=true/\es=[]/\cs=[]/\lf=[]/\rt=[]/\ag=[]/\nk=0)∨
 (k=2/\nm=[]/\(∃e,es=[e]/\wR e)/\cs=[]/\lf=[]/\rt=[]/\ag=[]/\nk=1)∨
 (k=3/\nm=[]/\(∀e∈es,wR e)/\es.length=cs.length/\1<=cs.length/\Nms cs/\lf=[]/\rt=[]/\ag=[]/\nk=1)∨
 (k=4/\nm=[]/\es=[]/\cs=[]/\Nms lf/\Nms rt/\ag=[]/\nk=2)∨
 (k=5/\nm=[]/\es=[]/\cs=[]/\lf=[]/\rt=[]/\ag=[]/\nk=2)∨
 (k=6/\nm=[]/\es=[]/\cs=[]/\lf=[]/\rt=[]/\ag=[]/\nk=1)∨
 (k=7/\nm=[]/\es=[]/\cs=[]/\Nms lf/\rt=[]/\(∀a∈ag,Kq a)/\nk=1)
mutual
def Pl.good:Pl->Prop
 | .mk k nm es cs lf rt ag l=>x8 k nm es cs lf rt ag l.length/\Pl.Kr l
def Pl.Kr:List Pl->Prop
 | []=>True
 | p::l=>p.good/\Pl.Kr l
end
theorem Pl.uK:∀l:List Pl,Pl.Kr l↔∀p∈l,p.good
 | []=>by simp[Pl.Kr]
 | p::l=>by simp[Pl.Kr,Pl.uK l]
theorem C9(L:List M)(i:Nat)(x:M)(h:L[i]?=some x):at_ (L.map M.t) i=x.t:=by unfold at_;rw[axa,aw5,h];rfl
theorem lG(m:M):bW m.t=(m.kind==2):=by unfold bW;rw[M.xB]
theorem sK{p:M->Bool}{l:List M}{k:Nat}{x:M}(h:(l.take k).all p=true)(hx:l[k]?=some x):(l.take (k+1)).all p=p x:=by obtain⟨hk,e⟩:=awi.1 hx;rw[aws hk,axG,h,e];simp
theorem all_false{p:M->Bool}{l:List M}{k:Nat}{x:M}(hx:l[k]?=some x)(h:p x=false):l.all p=false:=by
 cases hl:l.all p
 rfl;have:=awF.1 hl x (awm hx);rw[h]at this;cases this
theorem AO(m:M)(w:ak):
  Calls ax 152 #[.agg ↑m] w λe w'=>e=.returned (.bool (bW m.t))/\Ev w w':=by
 rw[lG];have hB:=Bx.new 101 ↑m w;obtain⟨⟨c0,c1,c2,c3,c4⟩,_⟩:=hB.five;clear hB;go_enter func152,ntmps152;go_wp2;go_ret;exact⟨rfl,Ev.alloc _ _⟩
theorem ays(h:U:=by
 rw[<-hq]at hF;have HF:=zq hF;have HQ:=zq hq;have HX:=zq hx;have oO:=zq (HE.out.trans (Ev.alloc wr (.cells ↑x 101)));have i1:(0:Int)<=(k:Int):=ae;have i2:(k:Int)<(n:Int):=ae;clear hx hF hq hf h
 cases q
 ·go_wp2_with (first
   | ((with_reducible refine(HF.out _ oO.out).mono ?_);rintro e w1 ⟨rfl,aK⟩))
  go_ret;exact⟨by rw[all_false HX.out HQ.out.symm];rfl,oO.out.trans aK⟩
 go_wp2_with (first
  | ((with_reducible refine(HF.out _ oO.out).mono ?_);rintro e w1 ⟨rfl,aK⟩))
 go_roundw
 case rel=>exact⟨k+1,ae,by go_num,zq (by rw[sK HT.out HX.out,<-HQ.out]),zq (oO.out.trans aK)⟩
 case measure=>simp[intOf];omega):U:=h
theorem azD(h:U:=by obtain rfl:k=n:=ae;have HA:Hid (l.all (λx=>bW x.t)=true):=zq (by have:=HT.out;rwa [awC (by rw[HL.out];exact awj _)]at this);go_wp2;go_ret;exact⟨by rw[HA.out];rfl,HE.out⟩):U:=h
theorem Nz{A:Option Addr}{n cap:Nat}{l:List M}(w:ak)(h:Ms w A n cap l)(hf:∀x∈l,∀w1,Ev w w1->Calls ax 152 #[.agg ↑x] w1 λe w'=>e=.returned (.bool (bW x.t))/\Ev w1 w'):
  Calls ax 153 #[.slice A n cap,.func (.func 152) #[] #[]] w λe w'=>e=.returned (.bool ((l.map M.t).all bW))/\Ev w w':=by
 have hn:=h.le;have hm:=h.max;have HL:=zq h.len;have HLA:Hid ((l.map M.t).all bW=l.all λx=>bW x.t):=zq (by rw[axs];rfl);rw[HLA.out];go_enter func153,ntmps153;go_wp2
 go_loopw [9] (λi wr=>∃k:Nat,k<=n/\i=↑k/\Hid ((l.take k).all (λx=>bW x.t)=true)/\Hid (Ev w wr)) (λi _=>n - (intOf i).toNat)
 case atStart=>exact⟨0,aww _,rfl,zq aj,zq aJ⟩
 case round=>
  obtain⟨k,hk,rfl,HT,HE⟩:=hrel;by_cases hlt:k<n;obtain⟨x,hx⟩:=h.at hlt;obtain⟨b,off,rfl,hb,c0,c1,c2,c3,c4⟩:=Ms.cell (h.ev HE.out) hx;unfold M.kv at c3;have hF:=hf x (awm hx);obtain⟨q,hq⟩:∃q,q=bW x.t:=⟨_,rfl⟩
  exact ays;exact azD
theorem C_(m:M)(b0:Nat)(w:ak)(h:Lies b0 [] w m):
  Calls ax 155 #[.agg ↑m] w λe w'=>e=.returned (.bool (dH m.t))/\Ev w w':=by
 have hB:=Bx.new 101 ↑m w;have aW:=Ev.alloc w (.cells ↑m 101);have HA:=zq (λw1 (hE:Ev w w1)=>Nz w1 (h.ms.ev hE) λx _ w2 _=>AO x w2);have hF:dH m.t=(m.kind==1&&(m.kids.map M.t).all bW):=by unfold dH;rw[M.xB,M.aZ]
 rw[hF];have dM:=zq aW;obtain⟨⟨c0,c1,c2,c3,c4⟩,_⟩:=hB.five;generalize (m.kids.map M.t).all bW=q at*;clear hB aW h hF;by_cases hk:m.kind=1
 ·rw[hk]at c0 dM|-;go_enter func155,ntmps155
  go_wp2_with (first
   | ((with_reducible refine(HA.out _ dM.out).mono ?_);rintro e w1 ⟨rfl,aK⟩))
  go_ret;exact⟨rfl,dM.out.trans aK⟩
 have hk':(m.kind==1)=false:=awg.2 hk;rw[hk'];go_enter func155,ntmps155;go_wp2;go_ret;exact⟨rfl,dM.out⟩
theorem Ky{A:Option Addr}{n cap:Nat}{l:List M}(w:ak)(h:Ms w A n cap l)(hf:∀x∈l,∀w1,Ev w w1->Calls ax 155 #[.agg ↑x] w1 λe w'=>e=.returned (.bool (dH x.t))/\Ev w1 w'):
  Calls ax 153 #[.slice A n cap,.func (.func 155) #[] #[]] w λe w'=>e=.returned (.bool ((l.map M.t).all dH))/\Ev w w':=by
 have hn:=h.le;have hm:=h.max;have HL:=zq h.len;have HLA:Hid ((l.map M.t).all dH=l.all λx=>dH x.t):=zq (by rw[axs];rfl);rw[HLA.out];go_enter func153,ntmps153;go_wp2
 go_loopw [9] (λi wr=>∃k:Nat,k<=n/\i=↑k/\Hid ((l.take k).all (λx=>dH x.t)=true)/\Hid (Ev w wr)) (λi _=>n - (intOf i).toNat)
 case atStart=>exact⟨0,aww _,rfl,zq aj,zq aJ⟩
 case round=>
  obtain⟨k,hk,rfl,HT,HE⟩:=hrel;by_cases hlt:k<n;obtain⟨x,hx⟩:=h.at hlt;obtain⟨b,off,rfl,hb,c0,c1,c2,c3,c4⟩:=Ms.cell (h.ev HE.out) hx;unfold M.kv at c3;have hF:=hf x (awm hx);obtain⟨q,hq⟩:∃q,q=dH x.t:=⟨_,rfl⟩
  exact ays;obtain rfl:k=n:=ae;have HA:Hid (l.all (λx=>dH x.t)=true):=zq (by have:=HT.out;rwa [awC (by rw[HL.out];exact awj _)]at this);go_wp2;go_ret;exact⟨by rw[HA.out];rfl,HE.out⟩
theorem az8(h:U:=by
 go_wp2_with (first
  | ((with_reducible refine(HX.out _).mono ?_);rintro e w1 ⟨rfl,aK⟩))
 go_ret;exact⟨rfl,dM.out.trans aK⟩):U:=h
theorem SX(m:M)(b0:Nat)(w:ak)(h:Lies b0 [] w m):
  Calls ax 154 #[.agg ↑m] w λe w'=>e=.returned (.bool (eU m.t))/\Ev w w':=by
 have hB:=Bx.new 101 ↑m w;have aW:=Ev.alloc w (.cells ↑m 101);have fJ:=h.ms;have hF:eU m.t=(m.kind==1&&(m.kids.length==2&&bW (at_ (m.kids.map M.t) 0))):=by unfold eU;rw[M.xB,M.aZ,awh,Bool.and_assoc]
 rw[hF];have dM:=zq aW;obtain⟨⟨c0,c1,c2,c3,c4⟩,_⟩:=hB.five;clear hB h hF;by_cases hk:m.kind=1
 ·by_cases hl:m.kids.length=2
  ·obtain⟨x,hx⟩:=fJ.at (i:=0) ae;obtain⟨b,off,hA,hb,d0,d1,d2,d3,d4⟩:=Ms.cell (fJ.ev aW) hx;unfold M.kv at d3;have hX:=λw1=>AO x w1;have hat:=C9 m.kids 0 x hx;rw[hat];generalize bW x.t=q at*;have HX:=zq hX;rw[hA]at c3 dM|-;rw[hl]at c3 dM|-;rw[hk]at c0 dM|-;rw[hA,hl,hk]at d0 d1 d2 d3 d4;simp only[awW,awM]at d0 d1 d2 d3 d4;have hcap:2<=m.cap:=by have:=fJ.le;omega
   clear hX hat hx aW fJ hA hb;go_enter func154,ntmps154;exact az8
  have hl':(m.kids.length==2)=false:=awg.2 hl;have hl2:((m.kids.length:Int)==2)=false:=by rw[awg];omega
  rw[hk]at c0 dM|-;rw[hl'];clear fJ aW;go_enter func154,ntmps154;go_wp2;go_ret;exact⟨rfl,dM.out⟩
 have hk':(m.kind==1)=false:=awg.2 hk;rw[hk'];clear fJ aW;go_enter func154,ntmps154;go_wp2;go_ret;exact⟨rfl,dM.out⟩
theorem aza(h:U:=by
 go_enter func156,ntmps156
 go_wp2_with (first
  | ((with_reducible refine(HN.out _ dM.out).mono ?_);rintro e w1 ⟨rfl,aK⟩;clear c0 c1 c2 c3 c4;obtain⟨⟨c0,c1,c2,c3,c4⟩,_⟩:=(HB.out.ev aK).five))
 go_ret;exact⟨rfl,dM.out.trans aK⟩):U:=h
theorem aa5(m:M)(b0:Nat)(w:ak)(h:Lies b0 [] w m):
  Calls ax 156 #[.agg ↑m] w λe w'=>e=.returned (.bool (dX m.t))/\Ev w w':=by
 have hB:=Bx.new 101 ↑m w;have aW:=Ev.alloc w (.cells ↑m 101);have HN:=zq (λw1 (hE:Ev w w1)=>C_ m b0 w1 (h.ev hE));have hF:dX m.t=(dH m.t&&(m.kids.length==2||m.kids.length==3)):=by unfold dX;rw[M.aZ,awh]
 rw[hF];have dM:=zq aW;have HB:=zq hB;obtain⟨⟨c0,c1,c2,c3,c4⟩,_⟩:=hB.five;have hmx:=h.ms.max;have hmc:=h.ms.le;generalize dH m.t=q at*;clear hB aW h hF;generalize m.kids.length=n at*
 cases q
 exact aza;by_cases h2:n=2;subst h2;exact aza;have h2':(n==2)=false:=awg.2 h2;have h2i:((n:Int)==2)=false:=by rw[awg];omega
 have h3i:((n:Int)==3)=(n==3):=by rw[aw_,awx,awx];omega
 rw[h2',Bool.false_or];exact aza
theorem Ir{A:Option Addr}{n cap:Nat}{l:List M}(w:ak)(h:Ms w A n cap l)(hf:∀x∈l,∀w1,Ev w w1->Calls ax 154 #[.agg ↑x] w1 λe w'=>e=.returned (.bool (eU x.t))/\Ev w1 w'):
  Calls ax 153 #[.slice A n cap,.func (.func 154) #[] #[]] w λe w'=>e=.returned (.bool ((l.map M.t).all eU))/\Ev w w':=by
 have hn:=h.le;have hm:=h.max;have HL:=zq h.len;have HLA:Hid ((l.map M.t).all eU=l.all λx=>eU x.t):=zq (by rw[axs];rfl);rw[HLA.out];go_enter func153,ntmps153;go_wp2
 go_loopw [9] (λi wr=>∃k:Nat,k<=n/\i=↑k/\Hid ((l.take k).all (λx=>eU x.t)=true)/\Hid (Ev w wr)) (λi _=>n - (intOf i).toNat)
 case atStart=>exact⟨0,aww _,rfl,zq aj,zq aJ⟩
 case round=>
  obtain⟨k,hk,rfl,HT,HE⟩:=hrel;by_cases hlt:k<n;obtain⟨x,hx⟩:=h.at hlt;obtain⟨b,off,rfl,hb,c0,c1,c2,c3,c4⟩:=Ms.cell (h.ev HE.out) hx;unfold M.kv at c3;have hF:=hf x (awm hx);obtain⟨q,hq⟩:∃q,q=eU x.t:=⟨_,rfl⟩
  exact ays;obtain rfl:k=n:=ae;have HA:Hid (l.all (λx=>eU x.t)=true):=zq (by have:=HT.out;rwa [awC (by rw[HL.out];exact awj _)]at this);go_wp2;go_ret;exact⟨by rw[HA.out];rfl,HE.out⟩
theorem Qa{A:Option Addr}{n cap:Nat}{l:List M}(w:ak)(h:Ms w A n cap l)(hf:∀x∈l,∀w1,Ev w w1->Calls ax 156 #[.agg ↑x] w1 λe w'=>e=.returned (.bool (dX x.t))/\Ev w1 w'):
  Calls ax 153 #[.slice A n cap,.func (.func 156) #[] #[]] w λe w'=>e=.returned (.bool ((l.map M.t).all dX))/\Ev w w':=by
 have hn:=h.le;have hm:=h.max;have HL:=zq h.len;have HLA:Hid ((l.map M.t).all dX=l.all λx=>dX x.t):=zq (by rw[axs];rfl);rw[HLA.out];go_enter func153,ntmps153;go_wp2
 go_loopw [9] (λi wr=>∃k:Nat,k<=n/\i=↑k/\Hid ((l.take k).all (λx=>dX x.t)=true)/\Hid (Ev w wr)) (λi _=>n - (intOf i).toNat)
 case atStart=>exact⟨0,aww _,rfl,zq aj,zq aJ⟩
 case round=>
  obtain⟨k,hk,rfl,HT,HE⟩:=hrel;by_cases hlt:k<n;obtain⟨x,hx⟩:=h.at hlt;obtain⟨b,off,rfl,hb,c0,c1,c2,c3,c4⟩:=Ms.cell (h.ev HE.out) hx;unfold M.kv at c3;have hF:=hf x (awm hx);obtain⟨q,hq⟩:∃q,q=dX x.t:=⟨_,rfl⟩
  exact ays;obtain rfl:k=n:=ae;have HA:Hid (l.all (λx=>dX x.t)=true):=zq (by have:=HT.out;rwa [awC (by rw[HL.out];exact awj _)]at this);go_wp2;go_ret;exact⟨by rw[HA.out];rfl,HE.out⟩
theorem aA1(h:U:=by go_enter func158,ntmps158;go_wp2;go_ret;exact⟨rfl,Ev.refl _⟩):U:=h
theorem NC(s:By)(o:Bool)(w:ak):
  Calls ax 158 #[↑s,.bool o] w λe w'=>e=.returned (.bool (isFun s o))/\Ev w w':=by
 by_cases Ea:s=ve;subst Ea;rw[show isFun ve o=(o) from rfl];unfold ve;exact aA1;by_cases Eb:s=vg;subst Eb;rw[show isFun vg o=(o) from rfl];unfold vg;exact aA1;by_cases Ec:s=vk;subst Ec;rw[show isFun vk o=(o) from rfl];unfold vk;exact aA1;by_cases XA:s=fH;subst XA;rw[show isFun fH o=(!o) from rfl];unfold fH;exact aA1;have gS:(s==ve)=false:=awg.2 Ea;have gN:(s==vg)=false:=awg.2 Eb;have gX:(s==vk)=false:=awg.2 Ec;have gC:(s==fH)=false:=awg.2 XA;rw[show isFun s o=false by unfold isFun;rw[gS,gN,gX,gC];rfl];unfold ve vg vk fH at*;go_enter func158,ntmps158;go_wp2;go_ret;exact⟨rfl,Ev.refl _⟩
theorem zQ(m:M):fZ m.t=(m.kind==1&&(decide (2<=m.kids.length)&&(bW (at_ (m.kids.map M.t) 0)&&pFormOf (fV (at_ (m.kids.map M.t) 0).s) ((m.kids.map M.t).drop 1)))):=by unfold fZ;rw[M.xB,M.aZ,awh,Bool.and_assoc,Bool.and_assoc]
theorem Ms.rest{w:ak}{b off k c:Nat}{x:M}{q:List M}(h:Ms w ↑(b,off) (k+2) (c+2) (x::q)):Ms w ↑(b,off+5) (k+1) (c+1) q:=by
 refine⟨by have:=h.len;simp at this;omega,by have:=h.le;omega,by have:=h.max;omega,(λe=>by cases e),λ_=>?_⟩;obtain⟨b',off',e,hlt,hc⟩:=h.rd ae;injection e with e
 injection e with e1 e2 _
 subst e1 e2;refine⟨b,off+5,rfl,hlt,λi y hy j u hu=>?_⟩;have:=hc (i+1) y (by simpa using hy) j u hu;rwa [show off+(i+1)*5+j=off+5+i*5+j by omega]at this
theorem Ms.qI{w:ak}{b off n cap:Nat}{l:List M}(h:Ms w ↑(b,off) n cap l){i:Nat}{x:M}(hx:l[i]?=some x):
  w.cell? ⟨b,off+i*5,none⟩=some ↑x.kind/\w.cell? ⟨b,off+i*5+1,none⟩=some ↑x.s/\w.cell? ⟨b,off+i*5+2,none⟩=some ↑x.n/\w.cell? ⟨b,off+i*5+3,none⟩=some (.slice x.A x.kids.length x.cap)/\w.cell? ⟨b,off+i*5+4,none⟩=some ↑x.pos:=by
 obtain⟨b',off',e,_,h0,h1,h2,h3,h4⟩:=Ms.cell h hx;injection e with e
 injection e with e1 e2 _
 subst e1 e2;exact⟨h0,h1,h2,h3,h4⟩
theorem VH{s:By}(h:¬(s=gU)/\¬(s=d_)/\¬(s=bT)/\¬(s=gB)/\¬(s=iH)/\¬(s=dN)/\¬(s=dU)):fV s=0:=by obtain⟨h1,h2,h3,h4,h5,h6,h7⟩:=h;unfold fV;simp[h1,h2,h3,h4,h5,h6,h7]
theorem ayN(h:U:=by
 go_enter func111,ntmps111
 go_wp2_with (first
  | ((with_reducible refine(HX.out _).mono ?_);rintro e w1 ⟨rfl,aK⟩;have E1:=zq (dM.out.trans aK);clear c0 c1 c2 c3 c4 d0 d1 d2 d3 d4;obtain⟨⟨c0,c1,c2,c3,c4⟩,_⟩:=(HB.out.ev aK).five;obtain⟨d0,d1,d2,d3,d4⟩:=kZ.out _ E1.out))
 go_ret;exact⟨rfl,E1.out⟩):U:=h
theorem ayx(h:U:=by
 clear hP;go_enter func111,ntmps111
 go_wp2_with (first
  | ((with_reducible refine(HC.out _ E1.out).mono ?_);rintro e w2 ⟨rfl,bQ⟩)
  | ((with_reducible refine(HX.out _).mono ?_);rintro e w1 ⟨rfl,aK⟩;have E1:=zq (dM.out.trans aK);clear c0 c1 c2 c3 c4 d0 d1 d2 d3 d4;obtain⟨⟨c0,c1,c2,c3,c4⟩,_⟩:=(HB.out.ev aK).five;obtain⟨d0,d1,d2,d3,d4⟩:=kZ.out _ E1.out))
 go_ret;exact⟨rfl,E1.out.trans bQ⟩):U:=h
theorem ni(m:M)(b0:Nat)(w:ak)(h:Lies b0 [] w m):
  Calls ax 111 #[.agg ↑m] w λe w'=>e=.returned (.bool (fZ m.t))/\Ev w w':=by
 have hB:=Bx.new 101 ↑m w;have aW:=Ev.alloc w (.cells ↑m 101);have fJ:=h.ms;have hk0:=h.kid;rw[zQ];have dM:=zq aW;have HB:=zq hB;obtain⟨⟨c0,c1,c2,c3,c4⟩,_⟩:=hB.five;clear hB h;have hlk:(m.kids.map M.t).length=m.kids.length:=awh ..;generalize Po:m.kind=kd at*;generalize ZN:m.A=mA at*;generalize hkn:m.kids.length=kn at*;generalize hmc:m.cap=mc at*;generalize ZQ:m.kids=L at*;clear Po ZN hmc ZQ;by_cases hk:kd=1
 ·subst hk;by_cases hl:2<=kn
  ·obtain⟨x,q,hq⟩:∃x q,L=x::q:=by
    cases L with
    | nil=>simp at hkn;omega
    | cons x q=>exact⟨x,q,rfl⟩
   obtain⟨k,rfl⟩:∃k,kn=k+2:=⟨kn - 2,ae⟩
   have hcl:=fJ.le;have hcm:=fJ.max;obtain⟨c,rfl⟩:∃c,mc=c+2:=⟨mc - 2,ae⟩
   subst hq;obtain⟨b,off,rfl,hb,_⟩:=Ms.cell fJ (i:=0) (x:=x) rfl;have mO:q.length=k+1:=by simpa using hkn
   rw[awO hl];have kZ:=zq (λw1 (hE:Ev w w1)=>Ms.qI (fJ.ev hE) (i:=0) (x:=x) rfl);simp only[awW,awM]at kZ;have HR:=zq (λw1 (hE:Ev w w1)=>Ms.rest (fJ.ev hE));have Ny:=zq (λy (hy:y∈q) w1 (hE:Ev w w1)=>(hk0 y (awn _ hy)).ev hE);have Bc:=zq mO;have HX:=zq (λw1=>AO x w1);simp only[awo,awR,axh,at_,axJ,M.uJ,awZ,axi]at HX|-;obtain⟨d0,d1,d2,d3,d4⟩:=kZ.out _ dM.out;clear fJ hk0 mO hl hb aW hkn hlk;have ARM:=trivial;generalize hqa:bW x.t=qa at*
   cases qa
   ·rw[aw6];go_enter func111,ntmps111;exact az8
   rw[axi];generalize UD:x.s=s at*;by_cases VI:s=gU
   ·subst VI;by_cases hz:k=0
    ·subst hz;obtain⟨y,hy⟩:∃y,q=[y]:=by
      have:=Bc.out
      match q,this with
      | [y],_=>exact⟨y,rfl⟩
     have hP:pFormOf (fV gU) (q.map M.t)=bW y.t:=by rw[hy];rfl
     rw[hP];have HY:=zq (λw1=>AO y w1);have HYC:=zq (λw1 (hE:Ev w w1)=>Ms.qI (HR.out w1 hE) (i:=0) (x:=y) (by rw[hy];rfl));simp only[awW,awM]at HYC;generalize bW y.t=qy at*;unfold gU at*;clear hy hP;go_enter func111,ntmps111
     go_wp2_with (first
      | ((with_reducible refine(HY.out _).mono ?_);rintro e w2 ⟨rfl,bQ⟩)
      | ((with_reducible refine(HX.out _).mono ?_);rintro e w1 ⟨rfl,aK⟩;have E1:=zq (dM.out.trans aK);clear c0 c1 c2 c3 c4 d0 d1 d2 d3 d4;obtain⟨⟨c0,c1,c2,c3,c4⟩,_⟩:=(HB.out.ev aK).five;obtain⟨d0,d1,d2,d3,d4⟩:=kZ.out _ E1.out;obtain⟨e0,e1,e2,e3,e4⟩:=HYC.out _ E1.out))
     go_ret;exact⟨rfl,E1.out.trans bQ⟩
    have hP:pFormOf (fV gU) (q.map M.t)=false:=by show ((q.map M.t).length==1&&bW (at_ (q.map M.t) 0))=false;rw[awh,Bc.out,show (k+1==1)=false from awg.2 ae,aw6]
    rw[hP];have i1:((k:Int)+1==1)=false:=by rw[awg];omega
    unfold gU at*;exact ayN
   by_cases Qb:s=d_;subst Qb;have hP:pFormOf (fV d_) (q.map M.t)=((k:Int)+1==2):=by show ((q.map M.t).length==2)=_;rw[awh,Bc.out,aw_,awx,awx];omega
   rw[hP];unfold d_ at*;exact ayN;by_cases Kz:s=bT;subst Kz;by_cases hz:1<=k;have hP:pFormOf (fV bT) (q.map M.t)=((q.take k).map M.t).all eU:=by show (decide (2<=(q.map M.t).length)&&((q.map M.t).take ((q.map M.t).length - 1)).all eU)=_;rw[awh,Bc.out,awO ae,axi,axq,<-axe]
   rw[hP];have HC:=zq (λw1 (hE:Ev w w1)=>Ir w1 ((HR.out w1 hE).to k ae) λy hy w2 bQ=>SX y b0 w2 (Ny.out y (axo hy) w2 (hE.trans bQ)));generalize ((q.take k).map M.t).all eU=qc at*;have i1:(2:Int)<=(k:Int)+1:=ae;have i2:(0:Int)<=(k:Int):=ae;have i3:(k:Int)<=(c:Int)+1:=ae;unfold bT at*;exact ayx;have hP:pFormOf (fV bT) (q.map M.t)=false:=by show (decide (2<=(q.map M.t).length)&&((q.map M.t).take ((q.map M.t).length - 1)).all eU)=_;rw[awh,Bc.out,awY ae,aw6]
   rw[hP];have i1:¬(2:Int)<=(k:Int)+1:=ae;unfold bT at*;exact ayN;by_cases aa6:s=gB;subst aa6;by_cases hz:k=3;subst hz;have hP:pFormOf (fV gB) (q.map M.t)=((q.take 2).map M.t).all dH:=by show ((q.map M.t).length==4&&((q.map M.t).take 2).all dH)=_;rw[awh,Bc.out,<-axe];rfl
   rw[hP];have HC:=zq (λw1 (hE:Ev w w1)=>Ky w1 ((HR.out w1 hE).to 2 ae) λy hy w2 bQ=>C_ y b0 w2 (Ny.out y (axo hy) w2 (hE.trans bQ)));generalize ((q.take 2).map M.t).all dH=qc at*;have i3:(2:Int)<=(c:Int)+1:=ae;unfold gB at*;exact ayx;have hP:pFormOf (fV gB) (q.map M.t)=false:=by show ((q.map M.t).length==4&&((q.map M.t).take 2).all dH)=_;rw[awh,Bc.out,show (k+1==4)=false from awg.2 ae,aw6]
   rw[hP];have i1:((k:Int)+1==4)=false:=by rw[awg];omega
   unfold gB at*;exact ayN;by_cases VJ:s=iH;subst VJ;have hP:pFormOf (fV iH) (q.map M.t)=((k:Int)+1==2):=by show ((q.map M.t).length==2)=_;rw[awh,Bc.out,aw_,awx,awx];omega
   rw[hP];unfold iH at*;exact ayN;by_cases F9:s=dN;subst F9;have hP:pFormOf (fV dN) (q.map M.t)=((k:Int)+1==1):=by show ((q.map M.t).length==1)=_;rw[awh,Bc.out,aw_,awx,awx];omega
   rw[hP];unfold dN at*;exact ayN;by_cases VK:s=dU
   ·subst VK;by_cases hz:1<=k
    ·obtain⟨y,r,hy⟩:∃y r,q=y::r:=by
      cases q with
      | nil=>have:=Bc.out;simp at this
      | cons y r=>exact⟨y,r,rfl⟩
     obtain⟨k1,rfl⟩:∃k1,k=k1+1:=⟨k - 1,ae⟩
     have hrl:r.length=k1+1:=by have:=Bc.out;rw[hy]at this;simpa using this
     have hP:pFormOf (fV dU) (q.map M.t)=(dH y.t&&((r.take k1).map M.t).all dX):=by show (decide (2<=(q.map M.t).length)&&dH (at_ (q.map M.t) 0)&&(((q.map M.t).take ((q.map M.t).length - 1)).drop 1).all dX)=_;rw[awh,Bc.out,awO ae,axi,axq,<-axe,hy,axg];rfl
     rw[hP];have HY:=zq (λw1 (hE:Ev w w1)=>C_ y b0 w1 (Ny.out y (by rw[hy];exact awp ..) w1 hE));have HYC:=zq (λw1 (hE:Ev w w1)=>Ms.qI (HR.out w1 hE) (i:=0) (x:=y) (by rw[hy];rfl));simp only[awW,awM]at HYC;obtain⟨qp,rfl⟩:∃c1,c=c1+1:=⟨c - 1,ae⟩
     have Qc:=zq (λw1 (hE:Ev w w1)=>Ms.rest (x:=y) (q:=r) (by have:=HR.out w1 hE;rw[hy]at this;exact this));have HC:=zq (λw1 (hE:Ev w w1)=>Qa w1 ((Qc.out w1 hE).to k1 ae) λz hzm w2 bQ=>aa5 z b0 w2 (Ny.out z (by rw[hy];exact awn _ (axo hzm)) w2 (hE.trans bQ)));generalize dH y.t=qy at*;generalize ((r.take k1).map M.t).all dX=qc at*;have i1:(2:Int)<=(k1:Int)+1+1:=ae;have i2:(1:Int)<=(k1:Int)+1:=ae;have i3:(k1:Int)+1<=(qp:Int)+1+1:=ae;unfold dU at*;clear hP hy hrl
     cases qy
     ·go_enter func111,ntmps111
      go_wp2_with (first
       | ((with_reducible refine(HY.out _ E1.out).mono ?_);rintro e w2 ⟨rfl,bQ⟩)
       | ((with_reducible refine(HX.out _).mono ?_);rintro e w1 ⟨rfl,aK⟩;have E1:=zq (dM.out.trans aK);clear c0 c1 c2 c3 c4 d0 d1 d2 d3 d4;obtain⟨⟨c0,c1,c2,c3,c4⟩,_⟩:=(HB.out.ev aK).five;obtain⟨d0,d1,d2,d3,d4⟩:=kZ.out _ E1.out;obtain⟨e0,e1,e2,e3,e4⟩:=HYC.out _ E1.out))
      go_ret;exact⟨rfl,E1.out.trans bQ⟩
     go_enter func111,ntmps111
     go_wp2_with (first
      | ((with_reducible refine(HY.out _ E1.out).mono ?_);rintro e w2 ⟨rfl,bQ⟩;have E2:=zq (E1.out.trans bQ))
      | ((with_reducible refine(HC.out _ E2.out).mono ?_);rintro e w3 ⟨rfl,iI⟩)
      | ((with_reducible refine(HX.out _).mono ?_);rintro e w1 ⟨rfl,aK⟩;have E1:=zq (dM.out.trans aK);clear c0 c1 c2 c3 c4 d0 d1 d2 d3 d4;obtain⟨⟨c0,c1,c2,c3,c4⟩,_⟩:=(HB.out.ev aK).five;obtain⟨d0,d1,d2,d3,d4⟩:=kZ.out _ E1.out;obtain⟨e0,e1,e2,e3,e4⟩:=HYC.out _ E1.out))
     go_ret;exact⟨rfl,E2.out.trans iI⟩
    have hP:pFormOf (fV dU) (q.map M.t)=false:=by show (decide (2<=(q.map M.t).length)&&dH (at_ (q.map M.t) 0)&&(((q.map M.t).take ((q.map M.t).length - 1)).drop 1).all dX)=_;rw[awh,Bc.out,awY ae,aw6,aw6]
    rw[hP];have i1:¬(2:Int)<=(k:Int)+1:=ae;unfold dU at*;exact ayN
   rw[VH ⟨VI,Qb,Kz,aa6,VJ,F9,VK⟩];have agb:(s==gU)=false:=awg.2 VI;have adC:(s==d_)=false:=awg.2 Qb;have aa7:(s==bT)=false:=awg.2 Kz;have aiG:(s==gB)=false:=awg.2 aa6;have agc:(s==iH)=false:=awg.2 VJ;have YM:(s==dN)=false:=awg.2 F9;have agd:(s==dU)=false:=awg.2 VK;unfold gU d_ bT gB iH dN dU at*;rw[show pFormOf 0 (q.map M.t)=false from rfl];exact ayN
  rw[awY hl,aw6,Bool.and_false];have i1:(kn:Int)<2:=ae;clear fJ hk0 aW;go_enter func111,ntmps111;go_wp2;go_ret;exact⟨rfl,dM.out⟩
 have hk':(kd==1)=false:=awg.2 hk;have as3:(kd !=1)=true:=by simp[hk]
 rw[hk',aw6];clear fJ hk0 aW;go_enter func111,ntmps111;go_wp2;go_ret;exact⟨rfl,dM.out⟩
theorem vF(t:T):t.strip.kind=t.kind:=by cases t;rw[T.jB];rfl
theorem oz(t:T):t.strip.s=t.s:=by cases t;rw[T.jB];rfl
theorem jC(t:T):t.strip.kids=t.kids.map T.strip:=by cases t;rw[T.jB];rfl
mutual
theorem KC:∀t:T,t.strip.deep=t.deep
 | .mk k s n l p=>by rw[T.strip,T.deep,T.deep,Ha l]
theorem Ha:∀l:List T,T.oM (T.strips l)=T.oM l
 | []=>by rw[T.strips]
 | t::l=>by rw[T.strips,T.oM,T.oM,KC t,Ha l]
end
mutual
theorem Dc:∀t:T,t.strip.size=t.size
 | .mk k s n l p=>by rw[T.strip,T.size,T.size,He l]
theorem He:∀l:List T,T.sizes (T.strips l)=T.sizes l
 | []=>by rw[T.strips]
 | t::l=>by rw[T.strips,T.sizes,T.sizes,Dc t,He l]
end
theorem VL(k:Int)(s:By)(n:Int)(l:List T):gZ k s n (T.strips l)=gZ k s n l:=by unfold gZ;rw[T.qL,List.isEmpty_map]
mutual
theorem KD:∀t:T,t.strip.fine=t.fine
 | .mk k s n l p=>by rw[T.strip,T.fine,T.fine,Hf l,VL]
theorem Hf:∀l:List T,T.wO (T.strips l)=T.wO l
 | []=>by rw[T.strips]
 | t::l=>by rw[T.strips,T.wO,T.wO,KD t,Hf l]
end
mutual
theorem zT:∀t:T,printS t.strip=printS t
 | .mk k s n l p=>by rw[T.strip,printS,printS,Ee l true]
theorem Ee:∀(l:List T) (b:Bool),printL b (T.strips l)=printL b l
 | [],b=>by rw[T.strips]
 | t::l,b=>by rw[T.strips,printL,printL,zT t,Ee l false]
end
theorem Hg(s:By):∀(rs rs':List DU) (done:List T),rs.map (λr=>(r.1,r.2.1))=rs'.map (λr=>(r.1,r.2.1))->(xReads s done rs).1=(xReads s done rs').1/\(xReads s done rs).2.1=(xReads s done rs').2.1
 | [],[],done,_=>⟨rfl,rfl⟩
 | [],r'::rs',done,h=>by simp at h
 | r::rs,[],done,h=>by simp at h
 | r::rs,r'::rs',done,h=>by simp only[awo,List.cons.injEq,Prod.mk.injEq]at h;obtain⟨⟨h1,h2⟩,h3⟩:=h;unfold xReads;rw[h1,h2];split;exact Hg s rs rs' _ h3;exact⟨rfl,rfl⟩
mutual
theorem wS:∀t:T,(xRead t.strip).1=(xRead t).1/\(xRead t.strip).2.1=(xRead t).2.1
 | .mk k s n l p=>by
  have hl:=Ef l;by_cases k1:k=1;subst k1;rw[T.jB,oP,oP]
  cases l with
  | nil=>exact⟨rfl,rfl⟩
  | cons h q=>
   simp only[awo,vF,oz,awh];split;split;have hq:∀t∈q,(xRead t.strip).1=(xRead t).1/\(xRead t.strip).2.1=(xRead t).2.1:=λt ht=>hl t (awn _ ht);refine Hg h.s _ _ [] ?_;rw[awy,awy,awy];refine aw1 λt ht=>?_;have:=hq t ht;simp[this.1,this.2];exact⟨rfl,rfl⟩;exact⟨rfl,rfl⟩
  rw[T.jB,jT s n _ 0 k1,jT s n l p k1];split;split;exact⟨rfl,rfl⟩;exact⟨rfl,rfl⟩;split;exact⟨rfl,rfl⟩;split<;>exact⟨rfl,rfl⟩
theorem Ef:∀l:List T,∀t∈l,(xRead t.strip).1=(xRead t).1/\(xRead t.strip).2.1=(xRead t).2.1
 | []=>λt ht=>by cases ht
 | a::l=>by intro t ht;rcases awq.1 ht with h1|h1;rw[h1];exact wS a;exact Ef l t h1
end
theorem jW(l:List T)(i:Nat):at_ (l.map T.strip) i=(at_ l i).strip:=by
 unfold at_;rw[axa,axa,aw5]
 cases l[i]? with
 | none=>simp[dR,T.jB]
 | some t=>rfl
theorem uz(t:T):bW t.strip=bW t:=by unfold bW;rw[vF]
theorem zU(t:T):dH t.strip=dH t:=by unfold dH;rw[vF,jC,axs];congr 2;funext x;exact uz x
theorem SY(t:T):eU t.strip=eU t:=by unfold eU;rw[vF,jC,awh,jW,uz]
theorem S_(t:T):dX t.strip=dX t:=by unfold dX;rw[zU,jC,awh]
theorem Gf{f:T->Bool}(hf:∀t:T,f t.strip=f t)(l:List T):(l.map T.strip).all f=l.all f:=by rw[axs];congr 1;funext x;exact hf x
theorem Qe(k:Nat)(q:List T):pFormOf k (q.map T.strip)=pFormOf k q:=by unfold pFormOf;split<;>simp only[awh,jW,uz,zU,<-axe,<-axm,Gf SY,Gf zU,Gf S_]
theorem KE(t:T):fZ t.strip=fZ t:=by unfold fZ;rw[vF,jC,awh,jW,uz,oz,<-axm,Qe]
theorem VM(t:T):qP t.strip=qP t:=by unfold qP;rw[jC,jW,oz]
theorem VN(t:T):qQ t.strip=qQ t:=by unfold qQ;rw[jC,jW,(wS _).1]
theorem VO(t:T):kK t.strip=kK t:=by unfold kK;rw[jC,jW,jW,jW,oz,oz,oz,awh]
theorem AQ{α:Type}{f:T->α}(hf:∀t:T,f t.strip=f t)(l:List T):(l.map T.strip).map f=l.map f:=by rw[awy];exact aw1 λt _=>hf t
theorem VP(k:Nat)(q:List T)(ps:List Pl):pMake k (q.map T.strip) ps=pMake k q ps:=by unfold pMake;split<;>simp only[awh,jW,oz,jC,(wS _).1,<-axe,<-axm,AQ VN,AQ VM,AQ VO,AQ oz]
mutual
theorem Dh:∀t:T,pPlan t.strip=pPlan t
 | .mk k s n l p=>by have hl:=Hl l;have hf:=KE (.mk k s n l p);rw[T.strip,pPlan,pPlan,hl];rw[T.strip]at hf;rw[hf];split;rw[T.qL,jW,oz,<-axm,VP];rfl
theorem Hl:∀l:List T,pPlans (T.strips l)=pPlans l
 | []=>by rw[T.strips]
 | t::l=>by rw[T.strips,pPlans,pPlans,Dh t,Hl l]
end
theorem Qg:∀(l l':List Er),l.map (·.1)=l'.map (·.1)->(aT l).1=(aT l').1:=by
 have key:∀(l l':List Er) (a a':Er),a.1=a'.1->l.map (·.1)=l'.map (·.1)->(l.foldl fO a).1=(l'.foldl fO a').1:=by
  intro l
  induction l with
  | nil=>
   intro l' a a' ha h
   cases l' with
   | nil=>exact ha
   | cons e l'=>simp at h
  | cons e l ih=>
   intro l' a a' ha h
   cases l' with
   | nil=>simp at h
   | cons e' l'=>
    simp only[awo,List.cons.injEq]at h;rw[axj,axj];refine ih l' _ _ ?_ h.2;unfold fO;rw[ha,h.1];split;exact h.1;exact ha
 intro l l' h;exact key l l' _ _ rfl h
theorem sN(t:T):(bF t.strip).1=(bF t).1:=by unfold bF;rw[oz];split<;>rfl
theorem Hm(t:T):(jU t.strip).1=(jU t).1:=(wS t).2
theorem NF(t:T):(ed t.strip).map (·.1)=(ed t).map (·.1):=by unfold ed;simp only[awo,awG,jC,jW,sN,Hm]
theorem Qh(t:T):(dY t.strip).map (·.1)=(dY t).map (·.1):=by
 unfold dY;simp only[awo,awG,jC,jW,sN,oz,awh];congr 1;congr 1
 ·split<;>rfl
 congr 1;split;exact sN _;rfl
theorem xC{f:T->List Er}(hf:∀t:T,(f t.strip).map (·.1)=(f t).map (·.1)):∀l:List T,((l.map T.strip).flatMap f).map (·.1)=(l.flatMap f).map (·.1)
 | []=>rfl
 | t::l=>by simp only[awo,axv,awt,hf t,xC hf l]
theorem YO{f:T->Er}(hf:∀t:T,(f t.strip).1=(f t).1)(l:List T):((l.map T.strip).map f).map (·.1)=(l.map f).map (·.1):=by rw[awy,awy,awy];exact aw1 λt _=>hf t
theorem Tc(k:Nat)(q:List T)(es es':List Er)(h:es'.map (·.1)=es.map (·.1)):(yO k (q.map T.strip) es').map (·.1)=(yO k q es).map (·.1):=by unfold yO;split<;>simp only[awo,awG,awt,awh,jW,jC,sN,Hm,<-axe,<-axm,xC NF,xC Qh,YO sN,h]<;>(try rw[axm,axm,h])
mutual
theorem Gg:∀t:T,(bf t.strip).1=(bf t).1
 | .mk k s n l p=>by have hl:=KF l;have hf:=KE (.mk k s n l p);rw[T.strip,bf,bf];rw[T.strip]at hf;rw[hf];split;rw[T.qL,jW,oz,<-axm];refine Qg _ _ (Tc _ _ _ _ ?_);rw[axm,axm,<-T.qL,hl];rfl
theorem KF:∀l:List T,(D7 (T.strips l)).map (·.1)=(D7 l).map (·.1)
 | []=>by rw[T.strips]
 | t::l=>by rw[T.strips,D7,D7,awo,awo,Gg t,KF l]
end
theorem qW(a:T)(q:List T)(hf:fZ (bU (a::q))=true):pPlan (bU (a::q))=pMake (fV a.s) q (q.map pPlan):=by unfold bU at hf|-;rw[pPlan,if_pos hf,yN];rfl
theorem vG(a:T)(q:List T)(hf:fZ (bU (a::q))=true):bf (bU (a::q))=aT (yO (fV a.s) q (q.map bf)):=by unfold bU at hf|-;rw[bf,if_pos hf,AB];rfl
theorem Gh(w:By)(q:List T)(hq:1<=q.length):fZ (bU (aP w::q))=pFormOf (fV w) q:=by
 unfold fZ bU;have h1:(2<=(T.mk 1 [] 0 (aP w::q) 0).kids.length):=by simp[T.kids];omega
 rw[awO h1];rfl
theorem YP{s:By}(h:s≠[])(hl:∀c∈s,bn c=true)(hn:s.length<=1000):(aP s).fine=true:=by
 unfold aP;rw[T.fine];have h1:s.isEmpty=false:=by cases s with|nil=>exact absurd rfl h|cons a b=>rfl
 have h2:s.all bn=true:=awF.2 hl;unfold gZ;rw[h1,h2,awO hn];rfl
theorem qX{s:By}(h:iC s=true):(aP s).fine=true/\s≠[]:=by
 have hl:=SG h;have h0:s≠[]:=by rintro rfl;simp at hl
 refine⟨YP h0 (λc hc=>?_) ae,h0⟩;unfold iC fK at h;simp only[awk,awF]at h;exact h.2.1 c (by simpa[dh] using hc)
theorem jO{l:List T}(h:∀t∈l,t.fine=true):(bU l).fine=true:=by unfold bU;rw[T.fine,FX,awF.2 h];rfl
theorem Di{l:List By}(h:Nms l):(aU l).fine=true:=jO λt ht=>by obtain⟨s,hs,rfl⟩:=awN.1 ht;exact(qX (h s hs)).1
theorem adE{s:By}(h:bI s≠0):(aP s).fine=true:=by
 cases hi:s==Nc
 ·rcases aaS (aaB h hi).1 with h1|h1|h1|h1|h1|h1|h1|h1|h1|h1|h1<;>subst h1<;>decide+kernel
 have:=awx.1 hi;subst this;decide+kernel
mutual
theorem KG:∀e:T,dQ e=true->e.every zI=true->e.every cO=true->(xTree e).fine=true
 | .mk k s n l p,hr,he,hf=>by
  have hl:=Ho l;rw[dQ,wM,awk,awF]at hr;rw[T.every,T.CS,awk,awF]at he hf;obtain⟨mG,hrs⟩:=hr;obtain⟨he1,hes⟩:=he;obtain⟨hf1,hfs⟩:=hf;obtain⟨aiJ,as5⟩:=pK hf1;simp only[axC,lQ,T.kind,T.s,T.n,T.kids]at mG;by_cases k1:k=1;subst k1;simp only[awZ,if_true,Bool.or_eq_false_iff,Bool.not_eq_false']at mG;have e:xTree (.mk 1 s n l p)=aP s:=by simp[xTree,aP]
  rw[e];exact(qX mG.1.1).1;have k1':(k==1)=false:=awg.2 k1;by_cases k2:k=2;subst k2;have e:xTree (.mk 2 s n l p)=.mk 3 [] n [] 0:=by simp[xTree]
  rw[e,T.fine];unfold zD at aiJ;unfold gZ;simp[aiJ];have k2':(k==2)=false:=awg.2 k2;by_cases k3:k=3;subst k3;have e:xTree (.mk 3 s n l p)=.mk 4 s 0 [] 0:=by simp[xTree]
  rw[e,T.fine];have JS:s.length<=40:=by unfold zI at he1;rw[show (T.mk 3 s n l p).kind=3 from rfl,show (!((3:Int)==3))=false from rfl,Bool.false_or]at he1;exact axI he1
  unfold gZ;simp[JS];have ZL:(k==3)=false:=awg.2 k3;by_cases k4:k=4;subst k4;simp only[k1',k2',ZL,awv,if_false,awZ,if_true,Bool.or_eq_false_iff,Bool.not_eq_false',awx,awg]at mG;obtain⟨⟨ht0,_⟩,_⟩:=mG;have e:xTree (.mk 4 s n l p)=bU (aP s::l.map xTree):=by rw[xTree,u_];rfl
  rw[e];refine jO λt ht=>?_;rcases awq.1 ht with rfl|ht;exact adE ht0;obtain⟨u,hu,rfl⟩:=awN.1 ht;exact hl u hu (hrs u hu) (hes u hu) (hfs u hu);simp[k1',k2',ZL,k4]at mG
theorem Ho:∀l:List T,∀e∈l,dQ e=true->e.every zI=true->e.every cO=true->(xTree e).fine=true
 | []=>λe he=>by cases he
 | a::l=>by intro e he;rcases awq.1 he with h1|h1;rw[h1];exact KG a;exact Ho l e h1
end
theorem wR.tree{e:T}(h:wR e):(xTree e).fine=true:=KG e h.right h.text h.fair
theorem wR.err{e:T}(h:wR e):jU (xTree e)=(0,0):=by unfold jU;rw[h.back]
theorem Td{s:By}(h:iC s=true):bF (aP s)=(0,0):=by unfold bF;rw[show (aP s).s=s from rfl,if_pos h]
theorem KH{l:List By}(h:Nms l):∀e∈(l.map aP).map bF,e.1=0:=by intro e he;obtain⟨t,ht,rfl⟩:=awN.1 he;obtain⟨s,hs,rfl⟩:=awN.1 ht;rw[Td (h s hs)]
theorem Dj(l:List By):(aU l).kids.map T.s=l:=by show (l.map aP).map T.s=l;rw[awy];have:(T.s ∘ aP)=id:=rfl;rw[this,List.map_id]
theorem Hq(l:List By):dH (aU l)=true:=by unfold dH;show ((1:Int)==1&&(l.map aP).all bW)=true;rw[axs];have:(bW ∘ aP)=λ_=>true:=rfl;rw[this];simp
theorem YQ{a:Ag}(h:Kq a):(a.2.1=fH/\a.2.2=[]/\eF a=bU [aP a.1,aP fH])∨((a.2.1=ve∨a.2.1=vg∨a.2.1=vk)/\iC a.2.2=true/\eF a=bU [aP a.1,aP a.2.1,aP a.2.2]):=by
 rcases h.2 with⟨h1,h2⟩|⟨h1,h2⟩
 left;refine⟨h1,h2,?_⟩;unfold eF;rw[h1,h2];rfl;right;refine⟨h1,h2,?_⟩;have h0:=(qX h2).2;have:a.2.2.isEmpty=false:=by cases h3:a.2.2 with|nil=>exact absurd h3 h0|cons x y=>rfl
 unfold eF;rw[this];rfl
theorem Eg{a:Ag}(h:Kq a):dX (eF a)=true/\kK (eF a)=a/\(∀e∈dY (eF a),e.1=0)/\(eF a).fine=true:=by
 obtain⟨n,f,c⟩:=a;have hn:bF (aP n)=(0,0):=Td h.1;have hnf:=(qX h.1).1;simp only at hn hnf;rcases YQ h with⟨h1,h2,h3⟩|⟨h1,h2,h3⟩
 simp only at h1 h2 h3;subst h1 h2;rw[h3];refine⟨rfl,rfl,?_,jO ?_⟩;have:dY (bU [aP n,aP fH])=[bF (aP n),(0,0),(0,0)]:=rfl;rw[this,hn];simp;intro t ht;simp at ht;rcases ht with rfl|rfl;exact hnf;decide+kernel;simp only at h1 h2 h3;rw[h3];have hc:=Td h2;refine⟨rfl,rfl,?_,jO ?_⟩
 ·have:dY (bU [aP n,aP f,aP c])=[bF (aP n),if isFun f true then (0,0) else (12,0),bF (aP c)]:=rfl;rw[this,hn,hc];rcases h1 with rfl|rfl|rfl<;>simp[isFun]
 intro t ht;simp at ht;rcases ht with rfl|rfl|rfl;exact hnf
 ·rcases h1 with rfl|rfl|rfl<;>decide+kernel
 exact(qX h2).1
theorem Tf:∀(cs:List By) (es:List T),es.length=cs.length->(∀e∈es,wR e)->Nms cs->
  (List.zipWith bM cs es).all eU=true/\(List.zipWith bM cs es).map qQ=es/\(List.zipWith bM cs es).map qP=cs/\(∀e∈(List.zipWith bM cs es).flatMap ed,e.1=0)/\(∀t∈List.zipWith bM cs es,t.fine=true)/\(List.zipWith bM cs es).length=cs.length
 | [],[],_,_,_=>by simp
 | [],_::_,h,_,_=>by simp at h
 | _::_,[],h,_,_=>by simp at h
 | c::cs,e::es,h,he,hc=>by obtain⟨h1,h2,h3,h4,h5,h6⟩:=Tf cs es (by simpa using h) (λx hx=>he x (awn _ hx)) (λx hx=>hc x (awn _ hx));have hge:=he e (awp ..);have hgc:=hc c (awp ..);simp only[List.zipWith_cons_cons,axW,awo,axv,h1,h2,h3,awr,h6,axP];refine⟨rfl,?_,?_,?_,?_,by trivial⟩;congr 1;show (xRead (xTree e)).1=e;rw[hge.back];rfl;intro x hx;rcases awD.1 hx with hx|hx;have:ed (bM c e)=[bF (aP c),jU (xTree e)]:=rfl;rw[this,Td hgc,hge.err]at hx;simp at hx;rw[hx];exact h4 x hx;intro t ht;rcases awq.1 ht with rfl|ht;refine jO λt ht=>?_;simp at ht;rcases ht with rfl|rfl;exact(qX hgc).1;exact hge.tree;exact h5 t ht
def XB(p:Pl):Prop:=p.good->pPlan (aH p)=p/\(bf (aH p)).1=0/\(aH p).fine=true
theorem uA{α:Type}{l:List α}(h:l.length=1):∃a,l=[a]:=by
 match l,h with
 | [a],_=>exact⟨a,rfl⟩
theorem wU{α:Type}{l:List α}(h:l.length=2):∃a b,l=[a,b]:=by
 match l,h with
 | [a,b],_=>exact⟨a,b,rfl⟩
theorem qY:∀w∈[gU,d_,bT,gB,iH,dN,dU],(aP w).fine=true:=by decide+kernel
theorem VQ(k:Int)(nm:By)(es:List T)(cs lf rt:List By)(ag:List Ag)(l:List Pl)(hl:∀p∈l,XB p):XB (.mk k nm es cs lf rt ag l):=by
 intro hg;rw[Pl.good,Pl.uK]at hg;obtain⟨hg,P5⟩:=hg;have hk:∀p∈l,pPlan (aH p)=p/\(bf (aH p)).1=0/\(aH p).fine=true:=λp hp=>hl p hp (P5 p hp);rw[aH,vw];rcases hg with⟨rfl,h1,rfl,rfl,rfl,rfl,rfl,h2⟩|⟨rfl,rfl,⟨e,rfl,he⟩,rfl,rfl,rfl,rfl,h2⟩|⟨rfl,rfl,he,hlen,h1,hc,rfl,rfl,rfl,h2⟩|⟨rfl,rfl,rfl,rfl,h3,h4,rfl,h2⟩|⟨rfl,rfl,rfl,rfl,rfl,rfl,rfl,h2⟩|⟨rfl,rfl,rfl,rfl,rfl,rfl,rfl,h2⟩|⟨rfl,rfl,rfl,rfl,h3,rfl,h4,h2⟩
 have:l=[]:=aw9 h2;subst this;have e:bU (kF 1 nm [] [] [] [] []++([]:List Pl).map aH)=bU (aP gU::[aP nm]):=rfl;have hf:fZ (bU (aP gU::[aP nm]))=true:=rfl;rw[e,qW _ _ hf,vG _ _ hf];refine⟨rfl,?_,jO ?_⟩;rw[gI];intro x hx;have:yO (fV (aP gU).s) [aP nm] ([aP nm].map bf)=[bF (aP nm)]:=rfl;rw[this,Td h1]at hx;simp at hx;rw[hx];intro t ht;simp at ht;rcases ht with rfl|rfl;exact qY _ aj;exact(qX h1).1;obtain⟨q,rfl⟩:=uA h2;obtain⟨k1,k2,k3⟩:=hk q aj;have e':bU (kF 2 [] [e] [] [] [] []++[q].map aH)=bU (aP d_::[xTree e,aH q]):=rfl;have hf:fZ (bU (aP d_::[xTree e,aH q]))=true:=rfl;rw[e',qW _ _ hf,vG _ _ hf];refine⟨?_,?_,jO ?_⟩;show Pl.mk 2 [] [(xRead (xTree e)).1] [] [] [] [] [pPlan (aH q)]=_;rw[he.back,k1];rw[gI];intro x hx;have:yO (fV (aP d_).s) [xTree e,aH q] ([xTree e,aH q].map bf)=[jU (xTree e),bf (aH q)]:=rfl;rw[this,he.err]at hx;simp at hx;rcases hx with rfl|rfl;rfl;exact k2;intro t ht;simp at ht;rcases ht with rfl|rfl|rfl;exact qY _ aj;exact he.tree;exact k3;obtain⟨q,rfl⟩:=uA h2;obtain⟨k1,k2,k3⟩:=hk q aj;obtain⟨z1,z2,z3,z4,z5,z6⟩:=Tf cs es hlen he hc;have e':bU (kF 3 [] es cs [] [] []++[q].map aH)=bU (aP bT::(List.zipWith bM cs es++[aH q])):=rfl;generalize List.zipWith bM cs es=Z at*;have ht:(Z++[aH q]).length - 1=Z.length:=aj;have hf:fZ (bU (aP bT::(Z++[aH q])))=true:=by rw[Gh _ _ aj];show (decide (2<=(Z++[aH q]).length)&&((Z++[aH q]).take ((Z++[aH q]).length - 1)).all eU)=true;rw[ht,ax0,z1,axP];exact awO (by simp;omega)
 rw[e',qW _ _ hf,vG _ _ hf];refine⟨?_,?_,jO ?_⟩;show Pl.mk 3 [] (((Z++[aH q]).take ((Z++[aH q]).length - 1)).map qQ) (((Z++[aH q]).take ((Z++[aH q]).length - 1)).map qP) [] [] [] (((Z++[aH q]).map pPlan).drop ((Z++[aH q]).length - 1))=_;rw[ht,ax0,z2,z3,awt,axX aj,awo,awG,k1];rw[gI];show ∀x∈((Z++[aH q]).take ((Z++[aH q]).length - 1)).flatMap ed++((Z++[aH q]).map bf).drop ((Z++[aH q]).length - 1),x.1=0;rw[ht,ax0,awt,axX aj];intro x hx;rcases awD.1 hx with hx|hx;exact z4 x hx;simp at hx;rw[hx];exact k2;intro t ht;rcases awq.1 ht with rfl|ht;exact qY _ aj;rcases awD.1 ht with ht|ht;exact z5 t ht;simp at ht;rw[ht];exact k3;obtain⟨q,q',rfl⟩:=wU h2;obtain⟨k1,k2,k3⟩:=hk q aj;obtain⟨m1,m2,m3⟩:=hk q' aj;have e':bU (kF 4 [] [] [] lf rt []++[q,q'].map aH)=bU (aP gB::[aU lf,aU rt,aH q,aH q']):=rfl;have hf:fZ (bU (aP gB::[aU lf,aU rt,aH q,aH q']))=true:=by rw[Gh _ _ aj];show ((4:Nat)==4&&[aU lf,aU rt].all dH)=true;simp[Hq]
 rw[e',qW _ _ hf,vG _ _ hf];refine⟨?_,?_,jO ?_⟩;show Pl.mk 4 [] [] [] ((aU lf).kids.map T.s) ((aU rt).kids.map T.s) [] [pPlan (aH q),pPlan (aH q')]=_;rw[Dj,Dj,k1,m1];rw[gI];show ∀x∈(lf.map aP).map bF++((rt.map aP).map bF++[bf (aH q),bf (aH q')]),x.1=0;intro x hx;rcases awD.1 hx with hx|hx;exact KH h3 x hx;rcases awD.1 hx with hx|hx;exact KH h4 x hx;simp at hx;rcases hx with rfl|rfl;exact k2;exact m2;intro t ht;simp at ht;rcases ht with rfl|rfl|rfl|rfl|rfl;exact qY _ aj;exact Di h3;exact Di h4;exact k3;exact m3;obtain⟨q,q',rfl⟩:=wU h2;obtain⟨k1,k2,k3⟩:=hk q aj;obtain⟨m1,m2,m3⟩:=hk q' aj;have e':bU (kF 5 [] [] [] [] [] []++[q,q'].map aH)=bU (aP iH::[aH q,aH q']):=rfl;have hf:fZ (bU (aP iH::[aH q,aH q']))=true:=rfl;rw[e',qW _ _ hf,vG _ _ hf];refine⟨?_,?_,jO ?_⟩;show Pl.mk 5 [] [] [] [] [] [] [pPlan (aH q),pPlan (aH q')]=_;rw[k1,m1];rw[gI];show ∀x∈[bf (aH q),bf (aH q')],x.1=0;intro x hx;simp at hx;rcases hx with rfl|rfl;exact k2;exact m2;intro t ht;simp at ht;rcases ht with rfl|rfl|rfl;exact qY _ aj;exact k3;exact m3;obtain⟨q,rfl⟩:=uA h2;obtain⟨k1,k2,k3⟩:=hk q aj;have e':bU (kF 6 [] [] [] [] [] []++[q].map aH)=bU (aP dN::[aH q]):=rfl;have hf:fZ (bU (aP dN::[aH q]))=true:=rfl;rw[e',qW _ _ hf,vG _ _ hf];refine⟨?_,?_,jO ?_⟩;show Pl.mk 6 [] [] [] [] [] [] [pPlan (aH q)]=_;rw[k1];rw[gI];show ∀x∈[bf (aH q)],x.1=0;intro x hx;simp at hx;rw[hx];exact k2;intro t ht;simp at ht;rcases ht with rfl|rfl;exact qY _ aj;exact k3;obtain⟨q,rfl⟩:=uA h2;obtain⟨k1,k2,k3⟩:=hk q aj;have e':bU (kF 7 [] [] [] lf [] ag++[q].map aH)=bU (aP dU::(aU lf::(ag.map eF++[aH q]))):=rfl;have hall:(ag.map eF).all dX=true:=by rw[axs,awF];exact λa ha=>(Eg (h4 a ha)).1
 have hmap:(ag.map eF).map kK=ag:=by
  rw[awy]
  conv=>rhs;rw[<-List.map_id ag]
  exact aw1 λa ha=>(Eg (h4 a ha)).2.1
 have herr:∀e∈(ag.map eF).flatMap dY,e.1=0:=by intro e he;obtain⟨t,ht,he⟩:=axx.1 he;obtain⟨a,ha,rfl⟩:=awN.1 ht;exact(Eg (h4 a ha)).2.2.1 e he
 have hfin:∀t∈ag.map eF,t.fine=true:=by intro t ht;obtain⟨a,ha,rfl⟩:=awN.1 ht;exact(Eg (h4 a ha)).2.2.2
 generalize ag.map eF=Z at*;have ht:(aU lf::(Z++[aH q])).length - 1=Z.length+1:=aj;have oV:((aU lf::(Z++[aH q])).take (Z.length+1)).drop 1=Z:=by rw[axg,ax0];rfl
 have hf:fZ (bU (aP dU::(aU lf::(Z++[aH q]))))=true:=by rw[Gh _ _ aj];show (decide (2<=(aU lf::(Z++[aH q])).length)&&dH (aU lf)&&(((aU lf::(Z++[aH q])).take ((aU lf::(Z++[aH q])).length - 1)).drop 1).all dX)=true;rw[ht,oV,hall,Hq,axP,axP];exact awO aj
 rw[e',qW _ _ hf,vG _ _ hf];refine⟨?_,?_,jO ?_⟩;show Pl.mk 7 [] [] [] ((aU lf).kids.map T.s) [] ((((aU lf::(Z++[aH q])).take ((aU lf::(Z++[aH q])).length - 1)).drop 1).map kK) (((aU lf::(Z++[aH q])).map pPlan).drop ((aU lf::(Z++[aH q])).length - 1))=_;rw[ht,oV,hmap,Dj,awo,awR,awt,axX aj,awo,awG,k1];rw[gI];show ∀x∈(aU lf).kids.map bF++((((aU lf::(Z++[aH q])).take ((aU lf::(Z++[aH q])).length - 1)).drop 1).flatMap dY++((aU lf::(Z++[aH q])).map bf).drop ((aU lf::(Z++[aH q])).length - 1)),x.1=0;rw[ht,oV,awo,awR,awt,axX aj];intro x hx;rcases awD.1 hx with hx|hx;exact KH h3 x hx;rcases awD.1 hx with hx|hx;exact herr x hx;simp at hx;rw[hx];exact k2;intro t ht;rcases awq.1 ht with rfl|ht;exact qY _ aj;rcases awq.1 ht with rfl|ht;exact Di h3;rcases awD.1 ht with ht|ht;exact hfin t ht;simp at ht;rw[ht];exact k3
mutual
theorem Ti:∀p:Pl,XB p
 | .mk k nm es cs lf rt ag l=>VQ k nm es cs lf rt ag l (aa_ l)
theorem aa_:∀l:List Pl,∀p∈l,XB p
 | []=>λp hp=>by cases hp
 | a::l=>by intro p hp;rcases awq.1 hp with h1|h1;rw[h1];exact Ti a;exact aa_ l p h1
end
theorem Oz:∀l:List T,T.wO l=true->∀t∈l,t.fine=true
 | [],_,t,h=>by cases h
 | a::l,hf,t,h=>by rw[T.wO,awk]at hf;rcases awq.1 h with rfl|h;exact hf.1;exact Oz l hf.2 t h
theorem vH{k:Int}{s:By}{n:Int}{l:List T}{p:Nat}(h:(T.mk k s n l p).fine=true):(k=1/\s=[]/\n=0/\∀t∈l,t.fine=true)∨(k=2/\n=0/\l=[]/\s≠[])∨(k=3/\s=[]/\l=[])∨(k=4/\n=0/\l=[]/\s.length<=40):=by
 rw[T.fine]at h;unfold gZ at h;simp only[awP,awk,awx,aw7,axL,axC,List.isEmpty_eq_false_iff]at h;rcases h with h|((h|h)|h)
 exact .inl ⟨h.1.1.1,h.1.1.2,h.1.2,Oz l h.2⟩;exact .inr (.inl ⟨h.1.1.1,h.1.2.1,h.2,h.1.1.2.1⟩);exact .inr (.inr (.inl ⟨h.1.1.1,h.1.1.2,h.2⟩));exact .inr (.inr (.inr ⟨h.1.1.1,h.1.2,h.2,h.1.1.2⟩))
theorem qZ{t:T}(h:t.fine=true)(ha:t.kind=2):t.strip=aP t.s/\t.s≠[]:=by obtain⟨k,s,n,l,p⟩:=t;change k=2 at ha;subst ha;rcases vH h with h1|h1|h1|h1;exact absurd h1.1 ai;obtain⟨_,h2,h3,h4⟩:=h1;subst h2 h3;exact⟨by rw[T.jB];rfl,h4⟩;exact absurd h1.1 ai;exact absurd h1.1 ai
theorem yR{t:T}(h:t.fine=true)(ha:t.kind=1):t.strip=bU (t.kids.map T.strip)/\∀x∈t.kids,x.fine=true:=by obtain⟨k,s,n,l,p⟩:=t;change k=1 at ha;subst ha;rcases vH h with h1|h1|h1|h1;obtain⟨_,h2,h3,h4⟩:=h1;subst h2 h3;exact⟨by rw[T.jB];rfl,h4⟩;exact absurd h1.1 ai;exact absurd h1.1 ai;exact absurd h1.1 ai
mutual
theorem Dk:∀t:T,t.fine=true->(xRead t).2.1=0->xTree (xRead t).1=t.strip
 | .mk k s n l p,hf,h=>by
  have hl:=Hr l;rcases vH hf with⟨h1,h2,h3,h4⟩|⟨h1,h2,h3,_⟩|⟨h1,h2,h3⟩|⟨h1,h2,h3,_⟩
  subst h1 h2 h3;rw[CW]at h|-
  cases l with
  | nil=>simp[ku]at h
  | cons hd q=>
   simp only at h|-;by_cases hk:(hd.kind==2&&!(bI hd.s==0))=true;rw[if_pos hk]at h|-;by_cases hq:(q.length==bI hd.s)=true;rw[if_pos hq]at h|-;obtain⟨h5,h6⟩:=FZ hd.s (q.map xRead) [] h;rw[h6];rw[awk,awx]at hk;have ha:=(qZ (h4 hd (awp ..)) hk.1).1;rw[T.jB,awo,ha,xTree,u_,axd,awy,awy];have hm:q.map ((xTree ∘ λx:DU=>x.1) ∘ xRead)=q.map T.strip:=aw1 λt ht=>hl t (awn _ ht) (h4 t (awn _ ht)) (h5 _ (awS ht));rw[hm];rfl;rw[if_neg hq]at h;simp[ku]at h;rw[if_neg hk]at h;simp[ku]at h
  subst h1 h2 h3;rw[jT s 0 [] p ai]at h|-;rw[if_pos (show ((2:Int)==2)=true from rfl)]at h|-;by_cases hn:iC s=true;rw[if_pos hn,T.jB];rfl;rw[if_neg hn]at h;simp[ku]at h;subst h1 h2 h3;rw[jT [] n [] p ai,T.jB];rfl;subst h1 h2 h3;rw[jT s 0 [] p ai,T.jB];rfl
theorem Hr:∀l:List T,∀t∈l,t.fine=true->(xRead t).2.1=0->xTree (xRead t).1=t.strip
 | [],t,h=>by cases h
 | a::l,t,h=>by rcases awq.1 h with h1|h1;rw[h1];exact Dk a;exact Hr l t h1
end
theorem AU{t:T}(h:t.fine=true)(ha:dH t=true):t.strip=aU (t.kids.map T.s)/\∀s∈t.kids.map T.s,s≠[]:=by unfold dH bW at ha;rw[awk,awx,awF]at ha;obtain⟨h1,h2⟩:=yR h ha.1;refine⟨?_,λs hs=>?_⟩;rw[h1];unfold aU;rw[awy];exact congrArg bU (aw1 λx hx=>(qZ (h2 x hx) (by simpa using ha.2 x hx)).1);obtain⟨x,hx,rfl⟩:=awN.1 hs;exact(qZ (h2 x hx) (by simpa using ha.2 x hx)).2
theorem VR{l:List T}(h:l.length=2):l=[at_ l 0,at_ l 1]:=by
 match l,h with
 | [a,b],_=>rfl
theorem aa'{l:List T}(h:l.length=3):l=[at_ l 0,at_ l 1,at_ l 2]:=by
 match l,h with
 | [a,b,c],_=>rfl
theorem YR{t:T}(h:t.fine=true)(ha:eU t=true)(he:(jU (at_ t.kids 1)).1=0):t.strip=bM (qP t) (qQ t):=by
 unfold eU bW at ha;simp only[awk,awx]at ha;obtain⟨h1,h2⟩:=yR h ha.1.1;have hk:=VR ha.1.2;have m0:at_ t.kids 0∈t.kids:=by rw[hk];simp
 have m1:at_ t.kids 1∈t.kids:=by rw[hk];simp
 rw[h1,hk,awo,awo,awG,(qZ (h2 _ m0) ha.2).1,<-Dk _ (h2 _ m1) he];rfl
theorem YS{t:T}(h:t.fine=true)(ha:dX t=true):t.strip=eF (kK t):=by
 unfold dX at ha;simp only[awk,awP,awx]at ha;obtain⟨h1,h2⟩:=AU h ha.1;rw[h1];rcases ha.2 with hl|hl;have hk:=VR hl;unfold eF kK aU;rw[hl];rw[hk];rfl;have hk:=aa' hl;have hne:(at_ t.kids 2).s≠[]:=h2 _ (by rw[hk];simp);unfold eF kK aU;rw[hl];simp only[awZ,if_true];rw[show (at_ t.kids 2).s.isEmpty=false by
  cases hc:(at_ t.kids 2).s with
  | nil=>exact absurd hc hne
  | cons _ _=>rfl]
 conv=>lhs;rw[hk]
 rfl
theorem yS{t:T}(h:(bF t).1=0):iC t.s=true:=by unfold bF at h;split at h;assumption;cases h
theorem XC{t:T}(ht:t.every JW=true)(hf:t.every cO=true)(h:(jU t).1=0):wR (xRead t).1:=⟨G7 t h,G5 t ht,JX t hf,(Ou t h).1⟩
theorem zV(s:By):(fV s=1/\s=gU)∨(fV s=2/\s=d_)∨(fV s=3/\s=bT)∨(fV s=4/\s=gB)∨(fV s=5/\s=iH)∨(fV s=6/\s=dN)∨(fV s=7/\s=dU)∨fV s=0:=by by_cases h1:s=gU;exact .inl ⟨by rw[h1];decide+kernel,h1⟩;by_cases h2:s=d_;exact .inr (.inl ⟨by rw[h2];decide+kernel,h2⟩);by_cases h3:s=bT;exact .inr (.inr (.inl ⟨by rw[h3];decide+kernel,h3⟩));by_cases h4:s=gB;exact .inr (.inr (.inr (.inl ⟨by rw[h4];decide+kernel,h4⟩)));by_cases h5:s=iH;exact .inr (.inr (.inr (.inr (.inl ⟨by rw[h5];decide+kernel,h5⟩))));by_cases h6:s=dN;exact .inr (.inr (.inr (.inr (.inr (.inl ⟨by rw[h6];decide+kernel,h6⟩)))));by_cases h7:s=dU;exact .inr (.inr (.inr (.inr (.inr (.inr (.inl ⟨by rw[h7];decide+kernel,h7⟩))))));refine .inr (.inr (.inr (.inr (.inr (.inr (.inr ?_))))));unfold fV;simp[h1,h2,h3,h4,h5,h6,h7]
theorem aba{t:T}(h:t.fine=true)(ha:dX t=true)(he:∀e∈dY t,e.1=0):Kq (kK t):=by
 unfold dY at he;have e0:=he _ (awp ..);have e1:=he _ (awn _ (awp ..));have e2:=he _ (awn _ (awn _ (awp ..)));have hfn:isFun (at_ t.kids 1).s (t.kids.length==3)=true:=by
  cases hc:isFun (at_ t.kids 1).s (t.kids.length==3)
  rw[hc]at e1;simp at e1;rfl
 refine⟨yS e0,?_⟩;unfold kK;unfold isFun at hfn;by_cases h3:(t.kids.length==3)=true;rw[h3]at hfn e2;rw[if_pos rfl]at e2;simp only[h3,if_true];refine .inr ⟨?_,yS e2⟩;by_cases hs:((at_ t.kids 1).s==ve||(at_ t.kids 1).s==vg||(at_ t.kids 1).s==vk)=true;simp only[awP,awx]at hs;rcases hs with (hs|hs)|hs;exact .inl hs;exact .inr (.inl hs);exact .inr (.inr hs);rw[if_neg hs]at hfn;by_cases hc:((at_ t.kids 1).s==fH)=true;rw[if_pos hc]at hfn;cases hfn;rw[if_neg hc]at hfn;cases hfn;have h3':(t.kids.length==3)=false:=by simpa using h3
 rw[h3']at hfn;simp only[h3',awv,if_false];refine .inl ⟨?_,trivial⟩;by_cases hs:((at_ t.kids 1).s==ve||(at_ t.kids 1).s==vg||(at_ t.kids 1).s==vk)=true;rw[if_pos hs]at hfn;cases hfn;rw[if_neg hs]at hfn;by_cases hc:((at_ t.kids 1).s==fH)=true;exact awx.1 hc;rw[if_neg hc]at hfn;cases hfn
def FwP(t:T):Prop:=t.fine=true->(bf t).1=0->aH (pPlan t)=t.strip/\(pPlan t).good
theorem Tj{α:Type}{l:List α}(h:1<=l.length):∃c z,l=c++[z]:=by
 have hne:l≠[]:=λe=>by rw[e]at h;simp at h
 exact⟨l.dropLast,l.getLast hne,(List.dropLast_concat_getLast hne).symm⟩
theorem abb(k:Int)(s:By)(n:Int)(l:List T)(p:Nat)(hl:∀x∈l,FwP x):FwP (.mk k s n l p):=by
 intro hfi he;have hf:fZ (.mk k s n l p)=true:=by
  cases hc:fZ (.mk k s n l p) with
  | true=>rfl
  | false=>rw[bf,hc]at he;simp at he
 rw[bf,if_pos hf,AB,gI]at he;rw[pPlan,if_pos hf,yN];have hf2:k=1/\2<=l.length/\(at_ l 0).kind=2/\pFormOf (fV (at_ l 0).s) (l.drop 1)=true:=by unfold fZ at hf;rw[awk,awk,awk,awx,aw7]at hf;exact⟨hf.1.1.1,hf.1.1.2,awx.1 hf.1.2,hf.2⟩
 obtain⟨rfl,h2,h3,h4⟩:=hf2;obtain⟨hst,hfk⟩:=yR hfi rfl
 cases l with
 | nil=>simp at h2
 | cons a q=>
  rw[hst];have ha:a.strip=aP a.s:=(qZ (hfk a (awp ..)) h3).1;have hq:∀x∈q,x.fine=true:=λx hx=>hfk x (awn _ hx);have yc:∀x∈q,(bf x).1=0->aH (pPlan x)=x.strip/\(pPlan x).good:=λx hx h=>hl x (awn _ hx) (hq x hx) h;have hex:∀x∈q,(jU x).1=0->wR (xRead x).1/\xTree (xRead x).1=x.strip:=λx hx h=>⟨XC (jL x (hq x hx)).2 (jL x (hq x hx)).1 h,Dk x (hq x hx) h⟩
  change aH (pMake (fV a.s) q (q.map pPlan))=bU (a.strip::q.map T.strip)/\(pMake (fV a.s) q (q.map pPlan)).good;change pFormOf (fV a.s) q=true at h4;change ∀e∈yO (fV a.s) q (q.map bf),e.1=0 at he;rw[ha];rcases zV a.s with⟨hk,hs⟩|⟨hk,hs⟩|⟨hk,hs⟩|⟨hk,hs⟩|⟨hk,hs⟩|⟨hk,hs⟩|⟨hk,hs⟩|hk;rw[hk]at h4 he|-;rw[hs];have h5:(q.length==1&&bW (at_ q 0))=true:=h4;rw[awk,awx]at h5;obtain⟨y,rfl⟩:=uA h5.1;have hy:=(qZ (hq y (awp ..)) (awx.1 h5.2)).1;have hn:=yS (he (bF y) (awp ..));exact⟨by
   show bU ([aP gU,aP y.s]++[])=bU (aP gU::[y.strip]);rw[hy];rfl,.inl ⟨rfl,hn,rfl,rfl,rfl,rfl,rfl,rfl⟩,trivial⟩
  rw[hk]at h4 he|-;rw[hs];have h5:(q.length==2)=true:=h4;rw[awx]at h5;obtain⟨x,y,rfl⟩:=wU h5;obtain⟨g1,g2⟩:=hex x (awp ..) (he (jU x) (awp ..));obtain⟨g3,g4⟩:=yc y (awn _ (awp ..)) (he (bf y) (awn _ (awp ..)));refine⟨?_,.inr (.inl ⟨rfl,rfl,⟨_,rfl,g1⟩,rfl,rfl,rfl,rfl,rfl⟩),g4,trivial⟩;show bU (aP d_::[xTree (xRead x).1]++[aH (pPlan y)])=_;rw[g2,g3];rfl;rw[hk]at h4 he|-;rw[hs];have h5:(decide (2<=q.length)&&(q.take (q.length - 1)).all eU)=true:=h4;rw[awk,aw7]at h5;obtain⟨c,z,rfl⟩:=Tj (l:=q) ae;have hlen:(c++[z]).length - 1=c.length:=aj;have oV:(c++[z]).take ((c++[z]).length - 1)=c:=by rw[hlen,List.take_left'];rfl
  have hdr:∀{α:Type} (f:T->α),((c++[z]).map f).drop ((c++[z]).length - 1)=[f z]:=λf=>by rw[hlen,awt,axX (by rw[awh])];rfl
  rw[oV,awF]at h5;have JS:∀e∈c.flatMap ed++[bf z],e.1=0:=by have h6:∀e∈((c++[z]).take ((c++[z]).length - 1)).flatMap ed++((c++[z]).map bf).drop ((c++[z]).length - 1),e.1=0:=he;rwa [oV,hdr]at h6
  have hc:∀x∈c,(bF (at_ x.kids 0)).1=0/\(jU (at_ x.kids 1)).1=0:=λx hx=>⟨JS _ (awH _ (axx.2 ⟨x,hx,awp ..⟩)),JS _ (awH _ (axx.2 ⟨x,hx,awn _ (awp ..)⟩))⟩
  obtain⟨g3,g4⟩:=yc z (aw4 _ (awp ..)) (JS _ (aw4 _ (awp ..)));have hcs:c.map (λx=>bM (qP x) (qQ x))=c.map T.strip:=aw1 λx hx=>(YR (hq x (awH _ hx)) (h5.2 x hx) (hc x hx).2).symm;have hkf:∀x∈c,(at_ x.kids 1).fine=true:=λx hx=>by have zW:=h5.2 x hx;unfold eU at zW;simp only[awk,awx]at zW;have hk2:=VR zW.1.2;exact(yR (hq x (awH _ hx)) zW.1.1).2 _ (by rw[hk2];simp)
  have hmk:pMake 3 (c++[z]) ((c++[z]).map pPlan)=.mk 3 [] (c.map qQ) (c.map qP) [] [] [] [pPlan z]:=by show Pl.mk 3 [] (((c++[z]).take ((c++[z]).length - 1)).map qQ) (((c++[z]).take ((c++[z]).length - 1)).map qP) [] [] [] (((c++[z]).map pPlan).drop ((c++[z]).length - 1))=_;rw[oV,hdr]
  rw[hmk];refine⟨?_,.inr (.inr (.inl ⟨rfl,rfl,λe he=>?_,by rw[awh,awh],by rw[awh];have:=h5.1;simp at this;omega,λs hs=>?_,rfl,rfl,rfl,rfl⟩)),g4,trivial⟩;show bU ((aP bT::List.zipWith bM (c.map qP) (c.map qQ))++[aH (pPlan z)])=_;rw[List.zipWith_map,List.zipWith_self,hcs,g3,awt];rfl;obtain⟨x,hx,rfl⟩:=awN.1 he;exact XC (jL _ (hkf x hx)).2 (jL _ (hkf x hx)).1 (hc x hx).2;obtain⟨x,hx,rfl⟩:=awN.1 hs;exact yS (hc x hx).1;rw[hk]at h4 he|-;rw[hs];have h5:(q.length==4&&(q.take 2).all dH)=true:=h4;rw[awk,awx]at h5
  match q,h5.1 with
  | [x,y,u,v],_=>
   have h6:(dH x&&(dH y&&true))=true:=h5.2;rw[awk,awk]at h6;have JS:∀e∈x.kids.map bF++(y.kids.map bF++[bf u,bf v]),e.1=0:=he;obtain⟨g1,g2⟩:=yc u aj (JS _ aj);obtain⟨g3,g4⟩:=yc v aj (JS _ aj);have hx:=(AU (hq x aj) h6.1).1;have hy:=(AU (hq y aj) h6.2.1).1;refine⟨?_,.inr (.inr (.inr (.inl ⟨rfl,rfl,rfl,rfl,λs hs=>?_,λs hs=>?_,rfl,rfl⟩))),g2,g4,trivial⟩;show bU ([aP gB,aU (x.kids.map T.s),aU (y.kids.map T.s)]++[aH (pPlan u),aH (pPlan v)])=_;rw[<-hx,<-hy,g1,g3];rfl;obtain⟨z,hz,rfl⟩:=awN.1 hs;exact yS (JS _ (awH _ (awS hz)));obtain⟨z,hz,rfl⟩:=awN.1 hs;exact yS (JS _ (aw4 _ (awH _ (awS hz))))
  rw[hk]at h4 he|-;rw[hs];have h5:(q.length==2)=true:=h4;rw[awx]at h5;obtain⟨x,y,rfl⟩:=wU h5;obtain⟨g1,g2⟩:=yc x aj (he (bf x) (awp ..));obtain⟨g3,g4⟩:=yc y aj (he (bf y) (awn _ (awp ..)));refine⟨?_,.inr (.inr (.inr (.inr (.inl ⟨rfl,rfl,rfl,rfl,rfl,rfl,rfl,rfl⟩)))),g2,g4,trivial⟩;show bU ([aP iH]++[aH (pPlan x),aH (pPlan y)])=_;rw[g1,g3];rfl;rw[hk]at h4 he|-;rw[hs];have h5:(q.length==1)=true:=h4;rw[awx]at h5;obtain⟨x,rfl⟩:=uA h5;obtain⟨g1,g2⟩:=yc x aj (he (bf x) (awp ..));refine⟨?_,.inr (.inr (.inr (.inr (.inr (.inl ⟨rfl,rfl,rfl,rfl,rfl,rfl,rfl,rfl⟩))))),g2,trivial⟩;show bU ([aP dN]++[aH (pPlan x)])=_;rw[g1];rfl;rw[hk]at h4 he|-;rw[hs];have h5:(decide (2<=q.length)&&dH (at_ q 0)&&((q.take (q.length - 1)).drop 1).all dX)=true:=h4;rw[awk,awk,aw7]at h5;obtain⟨x,r,rfl⟩:∃x r,q=x::r:=by
   cases q with
   | nil=>simp at h5
   | cons x r=>exact⟨x,r,rfl⟩
  obtain⟨c,z,rfl⟩:=Tj (l:=r) (by have:=h5.1.1;simp at this;omega);have hlen:(x::(c++[z])).length - 1=c.length+1:=aj;have oV:((x::(c++[z])).take ((x::(c++[z])).length - 1)).drop 1=c:=by rw[hlen,axg,awR,axh,List.take_left'];rfl
  have hdr:∀{α:Type} (f:T->α),((x::(c++[z])).map f).drop ((x::(c++[z])).length - 1)=[f z]:=λf=>by rw[hlen,awo,awR,awt,axX (by rw[awh])];rfl
  rw[oV,awF]at h5;have JS:∀e∈x.kids.map bF++(c.flatMap dY++[bf z]),e.1=0:=by have h6:∀e∈x.kids.map bF++((((x::(c++[z])).take ((x::(c++[z])).length - 1)).drop 1).flatMap dY++((x::(c++[z])).map bf).drop ((x::(c++[z])).length - 1)),e.1=0:=he;rwa [oV,hdr]at h6
  obtain⟨g3,g4⟩:=yc z aj (JS _ aj);have hx:=(AU (hq x aj) h5.1.2).1;have hcs:(c.map kK).map eF=c.map T.strip:=by rw[awy];exact aw1 λy hy=>(YS (hq y (by simp[hy])) (h5.2 y hy)).symm
  have hmk:pMake 7 (x::(c++[z])) ((x::(c++[z])).map pPlan)=.mk 7 [] [] [] (x.kids.map T.s) [] (c.map kK) [pPlan z]:=by show Pl.mk 7 [] [] [] (x.kids.map T.s) [] ((((x::(c++[z])).take ((x::(c++[z])).length - 1)).drop 1).map kK) (((x::(c++[z])).map pPlan).drop ((x::(c++[z])).length - 1))=_;rw[oV,hdr]
  rw[hmk];refine⟨?_,.inr (.inr (.inr (.inr (.inr (.inr ⟨rfl,rfl,rfl,rfl,λs hs=>?_,rfl,λa ha=>?_,rfl⟩))))),g4,trivial⟩;show bU ((aP dU::aU (x.kids.map T.s)::(c.map kK).map eF)++[aH (pPlan z)])=_;rw[<-hx,hcs,g3,awo,awt];rfl;obtain⟨y,hy,rfl⟩:=awN.1 hs;exact yS (JS _ (awH _ (awS hy)));obtain⟨y,hy,rfl⟩:=awN.1 ha;exact aba (hq y (by simp[hy])) (h5.2 y hy) λe he=>JS _ (aw4 _ (awH _ (axx.2 ⟨y,hy,he⟩)));rw[hk]at h4
  cases h4
mutual
theorem aiL:∀t:T,FwP t
 | .mk k s n l p=>abb k s n l p (ae2 l)
theorem ae2:∀l:List T,∀t∈l,FwP t
 | []=>λt h=>by cases h
 | a::l=>by intro t h;rcases awq.1 h with h1|h1;rw[h1];exact aiL a;exact ae2 l t h1
end
end Go.Proofs.YtpbfokkocaemlaaGreatDoor
