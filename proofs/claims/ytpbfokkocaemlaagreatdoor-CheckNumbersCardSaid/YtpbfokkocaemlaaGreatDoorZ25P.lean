import Derived.Test.YtpbfokkocaemlaaGreatDoorZ22P
import Derived.Test.YtpbfokkocaemlaaGreatDoorZ23P
set_option linter.unusedVariables false
set_option maxRecDepth 100000
set_option maxHeartbeats 64000000
namespace Go.Proofs.YtpbfokkocaemlaaGreatDoor
open Go.RowKit
open Go.Lib renaming hid → zq
open Go renaming World → ak
open Go.Proofs.Tryz renaming prog → ax
variable {U:Prop}
open Go.Proofs.Tryz
theorem Oz{p:UInt8->Bool}{c:UInt8}{q:By}(h:p c=true):(c::q).take (sxRun p (c::q))=c::q.take (sxRun p q):=by simp[sxRun,h]
theorem OB(c:UInt8)(q:By)(hq:q.length<=600)(h:(bW (c::q)).why=0):
  ((bW (c::q)).kind=1/\(bW (c::q)).s=[]/\(bW (c::q)).n=0)∨(bW (c::q)).kind=-1∨iw (bW (c::q)).kind (bW (c::q)).s (bW (c::q)).n []=true:=by
 revert h
 simp only[bW];split;exact λ_=>.inl ⟨rfl,rfl,rfl⟩;split;exact λ_=>.inr (.inl rfl);split;intro h;have h1:=Eg q.length q [] 1 (awC _);have h2:=JL q.length q [] 1 (awC _);have h3:=((lL q.length q [] 1 (awC _)).2 h).1;right;right;rw[h2,h3];unfold iw;simp[h1];split;simp only[dW];split;intro h;have h1:=I8 false (dR q) (fJ q);have h2:=((lF false (dR q) (fJ q)).2 h).1;right;right;rw[h1.2,h2];have h3:=h1.1;unfold zW at h3;unfold iw;simp[h3];intro h;have h1:=I8 true (dR (c::q)) (fJ (c::q));have h2:=((lF true (dR (c::q)) (fJ (c::q))).2 h).1;right;right;rw[h1.2,h2];have h3:=h1.1;unfold zW at h3;unfold iw;simp[h3];split;rename_i hl;intro _;right;right;rw[Oz hl];have hall:(c::q.take (sxRun bG q)).all bG=true:=by rw[<-Oz hl,awW];exact FV bG (c::q)
 have hlen:(c::q.take (sxRun bG q)).length<=1000:=by simp only[awR,axa];omega
 unfold iw;rw[hall,aw5 hlen];rfl;intro h;simp[bf]at h
theorem VT(c:UInt8)(q:By)(h:(c.toNat==41)=false):(bW (c::q)).kind≠-1:=by simp only[bW,h,awP,aw7];split;intro h1;cases h1;split;intro h1;by_cases FD:(sxTextGo [] q 1).why=0;rw[((lL q.length q [] 1 (awC _)).2 FD).1]at h1;cases h1;rw[((lL q.length q [] 1 (awC _)).1 FD).1]at h1;cases h1;split;simp only[dW];split;intro h1;by_cases FD:(sxNum false (dR q)).why=0;rw[((lF false (dR q) (fJ q)).2 FD).1]at h1;cases h1;rw[((lF false (dR q) (fJ q)).1 FD).1]at h1;cases h1;intro h1;by_cases FD:(sxNum true (dR (c::q))).why=0;rw[((lF true (dR (c::q)) (fJ (c::q))).2 FD).1]at h1;cases h1;rw[((lF true (dR (c::q)) (fJ (c::q))).1 FD).1]at h1;cases h1;split;intro h1;cases h1;intro h1;cases h1
def InvAt:Nat->List T->Prop
 | _,[]=>True
 | j,e::os=>(j=0∨(e.kind=1/\e.s=[]/\e.n=0/\j<=12))/\(∀k∈e.kids,k.fine=true/\j+k.deep<=12)/\InvAt (j+1) os
theorem Qi:∀(os:List T) (j:Nat) (t:T),InvAt j os->t.fine=true->j+os.length+t.deep<=13->InvAt j (sxPut os t)
 | [],j,t,h,_,_=>trivial
 | [e],j,t,h,ht,hd=>by refine⟨h.1.imp id λh=>h,λk hk=>?_,trivial⟩;rw[T.Su]at hk;rcases awV.1 hk with h1|h1;exact h.2.1 k h1;simp at h1;subst h1;simp at hd;exact⟨ht,ae⟩
 | e::e'::os,j,t,h,ht,hd=>by refine⟨h.1,h.2.1,Qi (e'::os) (j+1) t h.2.2 ht ?_⟩;simp only[awR]at hd|-;omega
theorem Kr:∀(os:List T) (j:Nat) (e:T),InvAt j (os++[e])↔(InvAt j os/\InvAt (j+os.length) [e])
 | [],j,e=>by simp[InvAt]
 | a::os,j,e=>by simp only[axj,InvAt,Kr os (j+1) e,awR];rw[show j+1+os.length=j+(os.length+1) by omega];constructor;rintro⟨h1,h2,h3,h4⟩;exact⟨⟨h1,h2,h3⟩,h4⟩;rintro⟨⟨h1,h2,h3⟩,h4⟩;exact⟨h1,h2,h3,h4⟩
theorem Tj:∀(l:List T) (d:Nat),(∀k∈l,k.deep<=d)->T.pM l<=d
 | [],d,_=>by simp[T.pM]
 | a::l,d,h=>by have h1:=h a (awL ..);have h2:=Tj l d λk hk=>h k (awK _ hk);rw[T.pM];omega
theorem Gn:∀l:List T,T.wU l=l.all T.fine
 | []=>rfl
 | t::l=>by simp[T.wU,Gn l]
theorem aeM(os:List T)(e:T)(h0:os≠[])(h:InvAt 0 (os++[e])):InvAt 0 (sxPut os e):=by
 obtain⟨h1,h2,h3,_⟩:=(Kr os 0 e).1 h;have hpos:0<os.length:=by cases os with|nil=>exact absurd rfl h0|cons a b=>simp
 rcases h2 with h2|⟨k1,k2,k3,k4⟩
 omega;rw[aw3]at h3 k4;refine Qi os 0 e h1 ?_ ?_;cases e with
 | mk k s n l p=>
  simp only[T.kind,T.s,T.n]at k1 k2 k3;subst k1 k2 k3;rw[T.fine,Gn];have:l.all T.fine=true:=awW.2 λx hx=>(h3 x hx).1;rw[this];rfl
 cases e with
 | mk k s n l p=>
  simp only[T.kind]at k1;subst k1;rw[T.deep,if_pos rfl];have:=Tj l (12-os.length) λx hx=>by have:=(h3 x hx).2;omega
  omega
theorem Tm(os:List T)(pos:Nat)(h:InvAt 0 os)(hl:os.length<=12):InvAt 0 (os++[.mk 1 [] 0 [] pos]):=by refine(Kr os 0 _).2 ⟨h,.inr ⟨rfl,rfl,rfl,ae⟩,(λk hk=>by cases hk),trivial⟩
theorem Zd{k:Int}{s:By}{n:Int}{p:Nat}(h:iw k s n []=true):(T.mk k s n [] p).fine=true/\(T.mk k s n [] p).deep=0/\k≠1/\k≠-1:=by obtain⟨c,q,h1,h2,h3,h4,h5,_⟩:=Gj (p:=p) h (r:=[]) (.inl rfl);have h4':=awy.1 h4;refine⟨by rw[T.fine,h,Bool.or_true],by rw[T.deep,if_neg h4'],h4',awy.1 h5⟩
def Gp(r:Res):Prop:=r.2.1=0->r.1.fine=true/\r.1.deep<=12/\r.1.size<=601
theorem jA{t:T}{why:Int}{pos:Nat}(h:why≠0):Gp (t,why,pos):=λh0=>absurd h0 h
theorem Hr(os:List T)(pos:Nat)(h:InvAt 0 os)(hs:(os.map T.size).sum<=601):Gp (kV os pos):=by
 unfold kV
 cases os with
 | nil=>exact jA ai
 | cons e os=>
  cases hk:e.kids with
  | nil=>simp only[hk];exact jA ai
  | cons t l=>
   simp only[hk];intro _;have h1:=h.2.1 t (by rw[hk];exact awL ..);have:=T.size_eq e;rw[hk]at this;simp only[awI,axr]at this hs;exact⟨h1.1,(by show t.deep<=12;omega),(by show t.size<=601;omega)⟩
theorem abG{os:List T}(h:os≠[])(t:T):sxPut os t≠[]:=by
 intro h2;have:=uJ os t;rw[h2]at this
 cases os with
 | nil=>exact h rfl
 | cons a b=>simp at this
theorem Di(os:List T)(x:Tk)(pos:Nat)(h0:os≠[])(h:InvAt 0 os)(h13:os.length<=13)(hx:(x.kind=1/\x.s=[]/\x.n=0)∨x.kind=-1∨iw x.kind x.s x.n []=true)(h1:x.kind=-1->os.length≠1)(h2:x.kind=1->os.length<=12):
  sxTake os (x.tree pos)≠[]/\InvAt 0 (sxTake os (x.tree pos))/\(sxTake os (x.tree pos)).length<=13/\((sxTake os (x.tree pos)).map T.size).sum<=(os.map T.size).sum+1:=by
 rcases hx with⟨k1,k2,k3⟩|k1|k1;have e:sxTake os (x.tree pos)=os++[.mk 1 [] 0 [] pos]:=by unfold sxTake Tk.tree;simp[T.kind,k1,k2,k3]
 rw[e];refine⟨aj,Tm os pos h (h2 k1),by have:=h2 k1;simp;omega,by simp[T.size,T.sizes]⟩;have e:sxTake os (x.tree pos)=rfPop os:=by unfold sxTake Tk.tree rfPop;simp only[T.kind,k1];rfl
 rw[e];have hsum:=XV os;unfold rfPop at hsum|-
 cases hl:os.getLast? with
 | none=>
  rw[List.getLast?_eq_none_iff]at hl;exact absurd hl h0
 | some y=>
  rw[ayd]at hl;obtain⟨l,rfl⟩:=hl;simp only[List.dropLast_concat,List.getLast?_concat]at hsum|-;have hl0:l≠[]:=by rintro rfl;exact h1 k1 rfl
  refine⟨abG hl0 y,aeM l y hl0 h,?_,ae⟩;rw[uJ];simp at h13;omega
 obtain⟨f1,f2,f3,f4⟩:=Zd (p:=pos) k1;have e:sxTake os (x.tree pos)=sxPut os (.mk x.kind x.s x.n [] pos):=by unfold sxTake Tk.tree;simp[T.kind,f3,f4]
 rw[e];have hp:=I9 os (.mk x.kind x.s x.n [] pos);have hz:(T.mk x.kind x.s x.n [] pos).size=1:=rfl;refine⟨abG h0 _,Qi os 0 _ h f1 (by rw[f2];omega),by rw[uJ];exact h13,ae⟩
theorem Kt:∀(f:Nat) (os:List T) (r:By) (pos:Nat),os≠[]->InvAt 0 os->os.length<=13->(os.map T.size).sum<=pos+1->pos+r.length<=600->Gp (sxGo f os r pos)
 | 0,_,_,_,_,_,_,_,_=>jA ai
 | f+1,os,r,pos,h0,h,h13,hs,hp=>by
  unfold sxGo;have hrl:=jW dN r;have YH:(r.drop (sxRun dN r)).length=r.length-sxRun dN r:=aw' ..
  cases hd:r.drop (sxRun dN r) with
  | nil=>exact Hr os _ h ae
  | cons c q=>
   simp only;rw[hd]at YH;simp only[awR]at YH;split;rename_i hj;have D8:=xW c q;obtain⟨j1,j2,j3,j4⟩:=JB D8 (by simpa using hj);have hg:=D8.good j1;have pU:=OB c q ae j1;generalize bW (c::q)=x at*;obtain⟨t1,t2,t3,t4⟩:=Di os x (pos+sxRun dN r) h0 h h13 pU j2 j4;refine Kt f _ _ _ t1 t2 t3 (by have:=hg.1;omega) ?_;rw[aw',awR];have:=hg.2.1;simp only[awR]at this;omega;rename_i hj;exact jA (by simpa using hj)
theorem Ku(l:By):Gp (fF l):=by unfold fF;split;exact jA ai;exact Kt _ _ _ _ aj ⟨.inl rfl,(λk hk=>by cases hk),trivial⟩ aj (by decide+kernel) ae
theorem vz:∀(f:Nat) (os:List T) (r:By) (pos:Nat),os≠[]->InvAt 0 os->os.length<=13->(os.map T.size).sum<=pos+1->pos+r.length<=600->Gp (rfGo f os r pos)
 | 0,_,_,_,_,_,_,_,_=>jA ai
 | f+1,os,[],pos,h0,h,h13,hs,hp=>by unfold rfGo I5;split;exact jA ai;exact Hr _ _ h (by simp at hp;omega)
 | f+1,os,c::q,pos,h0,h,h13,hs,hp=>by
  simp only[awR]at hp;unfold rfGo;split;exact vz f _ _ _ h0 h h13 ae ae;split;split;exact jA ai;rename_i h41 MV;obtain⟨t1,t2,t3,t4⟩:=Di os ⟨-1,[],0,1,0,0⟩ pos h0 h h13 (.inr (.inl rfl)) (λ_=>by simpa using MV) (λh=>by cases h);have e:sxTake os ((Tk.mk (-1) [] 0 1 0 0).tree pos)=rfPop os:=rfl;rw[e]at t1 t2 t3 t4;exact vz f _ _ _ t1 t2 t3 ae ae;split;exact jA ai;split;exact jA ai;split;split;exact jA ai;rename_i h12;refine vz f _ _ _ aj (Tm os pos h ae) (by simp;omega) ?_ ae;simp[T.size,T.sizes];omega;split;rename_i Iq hw;have h41:¬(c.toNat==41)=true:=by assumption
  have hw':(bW (c::q)).why=0:=by simpa using hw
  have hg:=(xW c q).good hw';have pU:=OB c q ae hw';have hk:(bW (c::q)).kind≠1/\(bW (c::q)).kind≠-1:=by
   constructor;intro h1;rcases hg.2.2 with⟨_,h2⟩|h2|⟨h2,_⟩|⟨h2,_⟩|⟨h2,_⟩
   rw[h2]at Iq;exact absurd rfl Iq;rw[h1]at h2;cases h2;rw[h1]at h2;cases h2;rw[h1]at h2;cases h2;rw[h1]at h2;cases h2;exact VT c q (by simpa using h41)
  generalize bW (c::q)=x at*;obtain⟨t1,t2,t3,t4⟩:=Di os x pos h0 h h13 pU (λh=>absurd h hk.2) (λh=>absurd h hk.1);have e:sxTake os (x.tree pos)=sxPut os (x.tree pos):=by unfold sxTake Tk.tree;simp[T.kind,hk.1,hk.2]
  rw[e]at t1 t2 t3 t4;refine vz f _ _ _ t1 t2 t3 (by have:=hg.1;omega) ?_;rw[aw',awR];have:=hg.2.1;simp only[awR]at this;omega;rename_i hw;exact jA (by simpa using hw)
theorem Eh(l:By):Gp (dO l):=by unfold dO;split;exact jA ai;exact vz _ _ _ _ aj ⟨.inl rfl,(λk hk=>by cases hk),trivial⟩ aj (by decide+kernel) ae
mutual
theorem jT:∀t:T,t.fine=true->t.every dh=true/\t.every J9=true
 | .mk k s n l p,h=>by
  have hl:=Kv l;have D5:zW 0:=ai;rw[T.fine,aw_]at h;rw[T.every,T.every];rcases h with h|h;simp only[awF,awO,ax7]at h;obtain⟨⟨⟨rfl,rfl⟩,rfl⟩,h4⟩:=h;obtain⟨h5,h6⟩:=hl h4;rw[h5,h6,sV D5 aj];exact⟨rfl,rfl⟩;unfold iw at h;simp only[aw_,awF,awO,axq,ax0,ax7,awW]at h;rcases h with (⟨⟨⟨rfl,hs,_⟩,rfl,h1⟩,rfl⟩|⟨⟨⟨rfl,rfl⟩,h1,h2⟩,rfl⟩)|⟨⟨⟨rfl,hs⟩,rfl⟩,rfl⟩
  rw[sV D5 ae];exact⟨rfl,rfl⟩;rw[sV ⟨h1,h2⟩ aj];exact⟨rfl,rfl⟩;rw[sV D5 ae];refine⟨rfl,?_⟩;unfold J9;simp[T.kind,T.s,hs,T.everys]
theorem Kv:∀l:List T,T.wU l=true->T.everys dh l=true/\T.everys J9 l=true
 | [],_=>⟨rfl,rfl⟩
 | t::l,h=>by rw[T.wU,awF]at h;have h1:=jT t h.1;have h2:=Kv l h.2;rw[T.everys,T.everys,h1.1,h1.2,h2.1,h2.2];exact⟨rfl,rfl⟩
end
abbrev Ag:=By×By×By
inductive Pl where
 | mk (kind:Int) (name:By) (exprs:List T) (cols left right:List By) (Gs:List Ag) (kids:List Pl):Pl
def Pl.kind:Pl->Int
 | .mk k _ _ _ _ _ _ _=>k
def Pl.name:Pl->By
 | .mk _ s _ _ _ _ _ _=>s
def Pl.exprs:Pl->List T
 | .mk _ _ l _ _ _ _ _=>l
def Pl.cols:Pl->List By
 | .mk _ _ _ l _ _ _ _=>l
def Pl.left:Pl->List By
 | .mk _ _ _ _ l _ _ _=>l
def Pl.right:Pl->List By
 | .mk _ _ _ _ _ l _ _=>l
def Pl.Gs:Pl->List Ag
 | .mk _ _ _ _ _ _ l _=>l
def Pl.kids:Pl->List Pl
 | .mk _ _ _ _ _ _ _ l=>l
def iC:Pl:=.mk 0 [] [] [] [] [] [] []
def gY:By:=[116,97,98,108,101]
def eP:By:=[102,105,108,116,101,114]
def cZ:By:=[112,114,111,106,101,99,116]
def iD:By:=[106,111,105,110]
def iM:By:=[117,110,105,111,110]
def dU:By:=[100,105,115,116,105,110,99,116]
def fB:By:=[103,114,111,117,112]
def gK:By:=[99,111,117,110,116]
def kR:By:=[115,117,109]
def oU:By:=[109,105,110]
def oV:By:=[109,97,120]
def aS(s:By):T:=.mk 2 s 0 [] 0
def dG(l:List T):T:=.mk 1 [] 0 l 0
def aX(l:List By):T:=dG (l.map aS)
def fK(a:Ag):T:=dG (if a.2.2.isEmpty then [aS a.1,aS a.2.1] else [aS a.1,aS a.2.1,aS a.2.2])
def b_(c:By)(e:T):T:=dG [aS c,xTree e]
def kN(k:Int)(nm:By)(es:List T)(cs lf rt:List By)(ag:List Ag):List T:=
 if k=1 then [aS gY,aS nm]
 else if k=2 then aS eP::es.map xTree
 else if k=3 then aS cZ::List.zipWith b_ cs es
 else if k=4 then [aS iD,aX lf,aX rt]
 else if k=5 then [aS iM]
 else if k=6 then [aS dU]
 else if k=7 then aS fB::aX lf::ag.map fK
 else []
mutual
def aH:Pl->T
 | .mk k nm es cs lf rt ag l=>dG (kN k nm es cs lf rt ag++pTrees l)
def pTrees:List Pl->List T
 | []=>[]
 | p::l=>aH p::pTrees l
end
theorem vF:∀l:List Pl,pTrees l=l.map aH
 | []=>by simp[pTrees]
 | p::l=>by simp[pTrees,vF l]
def gq(s:By):Nat:=if s==gY then 1 else if s==eP then 2 else if s==cZ then 3 else if s==iD then 4 else if s==iM then 5 else if s==dU then 6 else if s==fB then 7 else 0
abbrev at_(l:List T)(i:Nat):T:=l.getD i eu
def dB(t:T):Bool:=t.kind==2
def dP(t:T):Bool:=t.kind==1&&t.kids.all dB
def fC(t:T):Bool:=t.kind==1&&t.kids.length==2&&dB (at_ t.kids 0)
def eF(t:T):Bool:=dP t&&(t.kids.length==2||t.kids.length==3)
def pFormOf(k:Nat)(q:List T):Bool:=
 match k with
 | 1=>q.length==1&&dB (at_ q 0)
 | 2=>q.length==2
 | 3=>decide (2<=q.length)&&(q.take (q.length-1)).all fC
 | 4=>q.length==4&&(q.take 2).all dP
 | 5=>q.length==2
 | 6=>q.length==1
 | 7=>decide (2<=q.length)&&dP (at_ q 0)&&((q.take (q.length-1)).drop 1).all eF
 | _=>false
def gu(t:T):Bool:=t.kind==1&&decide (2<=t.kids.length)&&dB (at_ t.kids 0)&&pFormOf (gq (at_ t.kids 0).s) (t.kids.drop 1)
def rH(t:T):By:=(at_ t.kids 0).s
def rJ(t:T):T:=(xRead (at_ t.kids 1)).1
def kS(t:T):Ag:=((at_ t.kids 0).s,(at_ t.kids 1).s,if t.kids.length==3 then (at_ t.kids 2).s else [])
def pMake(k:Nat)(q:List T)(ps:List Pl):Pl:=
 match k with
 | 1=>.mk 1 (at_ q 0).s [] [] [] [] [] []
 | 2=>.mk 2 [] [(xRead (at_ q 0)).1] [] [] [] [] (ps.drop 1)
 | 3=>.mk 3 [] ((q.take (q.length-1)).map rJ) ((q.take (q.length-1)).map rH) [] [] [] (ps.drop (q.length-1))
 | 4=>.mk 4 [] [] [] ((at_ q 0).kids.map T.s) ((at_ q 1).kids.map T.s) [] (ps.drop 2)
 | 5=>.mk 5 [] [] [] [] [] [] ps
 | 6=>.mk 6 [] [] [] [] [] [] ps
 | _=>.mk 7 [] [] [] ((at_ q 0).kids.map T.s) [] (((q.take (q.length-1)).drop 1).map kS) (ps.drop (q.length-1))
mutual
def pPlan:T->Pl
 | .mk k s n l p=>if gu (.mk k s n l p) then pMake (gq (at_ l 0).s) (l.drop 1) ((pPlans l).drop 1) else iC
def pPlans:List T->List Pl
 | []=>[]
 | t::l=>pPlan t::pPlans l
end
theorem zg:∀l:List T,pPlans l=l.map pPlan
 | []=>by simp[pPlans]
 | p::l=>by simp[pPlans,zg l]
abbrev Er:=Int×Nat
def fU(a b:Er):Er:=if a.1==0&&!(b.1==0) then b else a
def aU(l:List Er):Er:=l.foldl fU (0,0)
def bK(t:T):Er:=if jO t.s then (0,0) else (20,t.pos)
def kC(t:T):Er:=((xRead t).2.1,(xRead t).2.2)
def isFun(f:By)(of:Bool):Bool:=if f==kR||f==oU||f==oV then of else if f==gK then !of else false
def eQ(t:T):List Er:=[bK (at_ t.kids 0),kC (at_ t.kids 1)]
def eG(t:T):List Er:=[bK (at_ t.kids 0),if isFun (at_ t.kids 1).s (t.kids.length==3) then (0,0) else (12,(at_ t.kids 1).pos),if t.kids.length==3 then bK (at_ t.kids 2) else (0,0)]
def zh(k:Nat)(q:List T)(es:List Er):List Er:=
 match k with
 | 1=>[bK (at_ q 0)]
 | 2=>kC (at_ q 0)::es.drop 1
 | 3=>(q.take (q.length-1)).flatMap eQ++es.drop (q.length-1)
 | 4=>(at_ q 0).kids.map bK++((at_ q 1).kids.map bK++es.drop 2)
 | 5=>es
 | 6=>es
 | _=>(at_ q 0).kids.map bK++(((q.take (q.length-1)).drop 1).flatMap eG++es.drop (q.length-1))
mutual
def bF:T->Er
 | .mk k s n l p=>if gu (.mk k s n l p) then aU (zh (gq (at_ l 0).s) (l.drop 1) ((Ei l).drop 1)) else (12,p)
def Ei:List T->List Er
 | []=>[]
 | t::l=>bF t::Ei l
end
theorem Bi:∀l:List T,Ei l=l.map bF
 | []=>by simp[Ei]
 | p::l=>by simp[Ei,Bi l]
theorem Bj(a b c:Er):fU (fU a b) c=fU a (fU b c):=by
 unfold fU
 cases h1:a.1==0<;>cases h2:b.1==0<;>cases h3:c.1==0<;>simp[h1,h2,h3]
theorem yh(a:Er):fU a (0,0)=a:=by simp[fU]
theorem uA(a b:Er):(fU a b).1=0↔a.1=0/\b.1=0:=by
 unfold fU
 cases h1:a.1==0<;>cases h2:b.1==0<;>simp_all
theorem Tq(a y:Er):fU a (fU (0,0) y)=fU a y:=by cases h:y.1==0<;>simp[fU,h]
theorem jB:∀(l:List Er) (a:Er),l.foldl fU a=fU a (aU l)
 | [],a=>by simp[aU,yh]
 | e::l,a=>by unfold aU;rw[axT,jB l,axT,jB l (fU (0,0) e),Bj,Bj];rw[Tq]
theorem gU:∀l:List Er,(aU l).1=0↔∀e∈l,e.1=0
 | []=>by simp[aU]
 | e::l=>by
  have:aU (e::l)=fU (fU (0,0) e) (aU l):=by unfold aU;rw[axT,jB];rfl
  rw[this,uA,uA,gU l];simp
theorem VU(a:Er)(e:Er)(l:List Er):fU (fU a e) (aU l)=fU a (aU (e::l)):=by rw[<-jB,<-jB];rfl
theorem mJ(a:Er)(l m:List Er):fU (fU a (aU l)) (aU m)=fU a (aU (l++m)):=by rw[<-jB,<-jB,<-jB,axW]
abbrev abJ:=Pl×Int×Nat
def pFrom(t:T):abJ:=if (bF t).1==0 then (if 600<(printS (aH (pPlan t))).length then (iC,3,0) else (pPlan t,0,0)) else (iC,(bF t).1,(bF t).2)
def ng(s:By):abJ:=if (fF s).2.1==0 then pFrom (fF s).1 else (iC,(fF s).2.1,(fF s).2.2)
def ug(p:Pl):By:=if (printS (aH p)).length<=600/\(aH p).deep<=12 then printS (aH p) else []
mutual
def Pl.size:Pl->Nat
 | .mk _ _ _ _ _ _ _ l=>Pl.sizes l+1
def Pl.sizes:List Pl->Nat
 | []=>0
 | p::l=>p.size+Pl.sizes l
end
theorem Pl.rD:∀l:List Pl,Pl.sizes l=(l.map Pl.size).sum
 | []=>by simp[Pl.sizes]
 | p::l=>by simp[Pl.sizes,Pl.rD l]
structure wY(e:T):Prop where
 right:dX e=true
 text:e.every zZ=true
 fair:e.every dh=true
 back:xRead (xTree e)=(e,0,0)
def KC(a:Ag):Prop:=jO a.1=true/\((a.2.1=gK/\a.2.2=[])∨((a.2.1=kR∨a.2.1=oU∨a.2.1=oV)/\jO a.2.2=true))
def Nms(l:List By):Prop:=∀s∈l,jO s=true
def Ac(k:Int)(nm:By)(es:List T)(cs lf rt:List By)(ag:List Ag)(nk:Nat):Prop:=
 (k=1/\jO nm=true/\es=[]/\cs=[]/\lf=[]/\rt=[]/\ag=[]/\nk=0)∨
 (k=2/\nm=[]/\(∃e,es=[e]/\wY e)/\cs=[]/\lf=[]/\rt=[]/\ag=[]/\nk=1)∨
 (k=3/\nm=[]/\(∀e∈es,wY e)/\es.length=cs.length/\1<=cs.length/\Nms cs/\lf=[]/\rt=[]/\ag=[]/\nk=1)∨
 (k=4/\nm=[]/\es=[]/\cs=[]/\Nms lf/\Nms rt/\ag=[]/\nk=2)∨
 (k=5/\nm=[]/\es=[]/\cs=[]/\lf=[]/\rt=[]/\ag=[]/\nk=2)∨
 (k=6/\nm=[]/\es=[]/\cs=[]/\lf=[]/\rt=[]/\ag=[]/\nk=1)∨
 (k=7/\nm=[]/\es=[]/\cs=[]/\Nms lf/\rt=[]/\(∀a∈ag,KC a)/\nk=1)
mutual
def Pl.good:Pl->Prop
 | .mk k nm es cs lf rt ag l=>Ac k nm es cs lf rt ag l.length/\Pl.Tt l
def Pl.Tt:List Pl->Prop
 | []=>True
 | p::l=>p.good/\Pl.Tt l
end
theorem Pl.uM:∀l:List Pl,Pl.Tt l↔∀p∈l,p.good
 | []=>by simp[Pl.Tt]
 | p::l=>by simp[Pl.Tt,Pl.uM l]
theorem Dn(L:List M)(i:Nat)(x:M)(h:L[i]?=some x):at_ (L.map M.t) i=x.t:=by unfold at_;rw[axD,axh,h];rfl
theorem lV(m:M):dB m.t=(m.kind==2):=by unfold dB;rw[M.xI]
theorem tu{p:M->Bool}{l:List M}{k:Nat}{x:M}(h:(l.take k).all p=true)(hx:l[k]?=some x):(l.take (k+1)).all p=p x:=by obtain⟨hk,e⟩:=awz.1 hx;rw[awH hk,axJ,h,e];simp
theorem all_false{p:M->Bool}{l:List M}{k:Nat}{x:M}(hx:l[k]?=some x)(h:p x=false):l.all p=false:=by
 cases hl:l.all p
 rfl;have:=awW.1 hl x (awG hx);rw[h]at this;cases this
theorem Bo(m:M)(w:ak):
  Calls ax 152 #[.agg ↑m] w λe w'=>e=.returned (.bool (dB m.t))/\Ev w w':=by
 rw[lV];have hB:=Bx.new 101 ↑m w;obtain⟨⟨c0,c1,c2,c3,c4⟩,_⟩:=hB.five;clear hB;go_enter func152,ntmps152;go_wp2;go_ret;exact⟨rfl,Ev.alloc _ _⟩
theorem ay3(h:U:=by
 rw[<-hq]at hF;have HF:=zq hF;have HQ:=zq hq;have HX:=zq hx;have oK:=zq (HE.out.trans (Ev.alloc wr (.cells ↑x 101)));have i1:(0:Int)<=(k:Int):=ae;have i2:(k:Int)<(n:Int):=ae;clear hx hF hq hf h
 cases q
 ·go_wp2_with (first
   | ((with_reducible refine(HF.out _ oK.out).mono ?_);rintro e w1 ⟨rfl,aN⟩))
  go_ret;exact⟨by rw[all_false HX.out HQ.out.symm];rfl,oK.out.trans aN⟩
 go_wp2_with (first
  | ((with_reducible refine(HF.out _ oK.out).mono ?_);rintro e w1 ⟨rfl,aN⟩))
 go_roundw
 case rel=>exact⟨k+1,ae,by go_num,zq (by rw[tu HT.out HX.out,<-HQ.out]),zq (oK.out.trans aN)⟩
 case measure=>simp[intOf];omega):U:=h
theorem aAx(h:U:=by obtain rfl:k=n:=ae;have HA:Hid (l.all (λx=>dB x.t)=true):=zq (by have:=HT.out;rwa [awS (by rw[HL.out];exact awC _)]at this);go_wp2;go_ret;exact⟨by rw[HA.out];rfl,HE.out⟩):U:=h
theorem NF{A:Option Addr}{n cap:Nat}{l:List M}(w:ak)(h:Ms w A n cap l)(hf:∀x∈l,∀w1,Ev w w1->Calls ax 152 #[.agg ↑x] w1 λe w'=>e=.returned (.bool (dB x.t))/\Ev w1 w'):
  Calls ax 153 #[.slice A n cap,.func (.func 152) #[] #[]] w λe w'=>e=.returned (.bool ((l.map M.t).all dB))/\Ev w w':=by
 have hn:=h.le;have hm:=h.max;have HL:=zq h.len;have HLA:Hid ((l.map M.t).all dB=l.all λx=>dB x.t):=zq (by rw[axN];rfl);rw[HLA.out];go_enter func153,ntmps153;go_wp2
 go_loopw [9] (λi wr=>∃k:Nat,k<=n/\i=↑k/\Hid ((l.take k).all (λx=>dB x.t)=true)/\Hid (Ev w wr)) (λi _=>n-(intOf i).toNat)
 case atStart=>exact⟨0,awJ _,rfl,zq aj,zq aK⟩
 case round=>
  obtain⟨k,hk,rfl,HT,HE⟩:=hrel;by_cases hlt:k<n;obtain⟨x,hx⟩:=h.at hlt;obtain⟨b,off,rfl,hb,c0,c1,c2,c3,c4⟩:=Ms.cell (h.ev HE.out) hx;unfold M.kv at c3;have hF:=hf x (awG hx);obtain⟨q,hq⟩:∃q,q=dB x.t:=⟨_,rfl⟩
  exact ay3;exact aAx
theorem Dp(m:M)(b0:Nat)(w:ak)(h:Lies b0 [] w m):
  Calls ax 155 #[.agg ↑m] w λe w'=>e=.returned (.bool (dP m.t))/\Ev w w':=by
 have hB:=Bx.new 101 ↑m w;have aV:=Ev.alloc w (.cells ↑m 101);have HA:=zq (λw1 (hE:Ev w w1)=>NF w1 (h.ms.ev hE) λx _ w2 _=>Bo x w2);have hF:dP m.t=(m.kind==1&&(m.kids.map M.t).all dB):=by unfold dP;rw[M.xI,M.bD]
 rw[hF];have cu:=zq aV;obtain⟨⟨c0,c1,c2,c3,c4⟩,_⟩:=hB.five;generalize (m.kids.map M.t).all dB=q at*;clear hB aV h hF;by_cases hk:m.kind=1
 ·rw[hk]at c0 cu|-;go_enter func155,ntmps155
  go_wp2_with (first
   | ((with_reducible refine(HA.out _ cu.out).mono ?_);rintro e w1 ⟨rfl,aN⟩))
  go_ret;exact⟨rfl,cu.out.trans aN⟩
 have hk':(m.kind==1)=false:=awy.2 hk;rw[hk'];go_enter func155,ntmps155;go_wp2;go_ret;exact⟨rfl,cu.out⟩
theorem KF{A:Option Addr}{n cap:Nat}{l:List M}(w:ak)(h:Ms w A n cap l)(hf:∀x∈l,∀w1,Ev w w1->Calls ax 155 #[.agg ↑x] w1 λe w'=>e=.returned (.bool (dP x.t))/\Ev w1 w'):
  Calls ax 153 #[.slice A n cap,.func (.func 155) #[] #[]] w λe w'=>e=.returned (.bool ((l.map M.t).all dP))/\Ev w w':=by
 have hn:=h.le;have hm:=h.max;have HL:=zq h.len;have HLA:Hid ((l.map M.t).all dP=l.all λx=>dP x.t):=zq (by rw[axN];rfl);rw[HLA.out];go_enter func153,ntmps153;go_wp2
 go_loopw [9] (λi wr=>∃k:Nat,k<=n/\i=↑k/\Hid ((l.take k).all (λx=>dP x.t)=true)/\Hid (Ev w wr)) (λi _=>n-(intOf i).toNat)
 case atStart=>exact⟨0,awJ _,rfl,zq aj,zq aK⟩
 case round=>
  obtain⟨k,hk,rfl,HT,HE⟩:=hrel;by_cases hlt:k<n;obtain⟨x,hx⟩:=h.at hlt;obtain⟨b,off,rfl,hb,c0,c1,c2,c3,c4⟩:=Ms.cell (h.ev HE.out) hx;unfold M.kv at c3;have hF:=hf x (awG hx);obtain⟨q,hq⟩:∃q,q=dP x.t:=⟨_,rfl⟩
  exact ay3;obtain rfl:k=n:=ae;have HA:Hid (l.all (λx=>dP x.t)=true):=zq (by have:=HT.out;rwa [awS (by rw[HL.out];exact awC _)]at this);go_wp2;go_ret;exact⟨by rw[HA.out];rfl,HE.out⟩
theorem aA4(h:U:=by
 go_wp2_with (first
  | ((with_reducible refine(HX.out _).mono ?_);rintro e w1 ⟨rfl,aN⟩))
 go_ret;exact⟨rfl,cu.out.trans aN⟩):U:=h
theorem TB(m:M)(b0:Nat)(w:ak)(h:Lies b0 [] w m):
  Calls ax 154 #[.agg ↑m] w λe w'=>e=.returned (.bool (fC m.t))/\Ev w w':=by
 have hB:=Bx.new 101 ↑m w;have aV:=Ev.alloc w (.cells ↑m 101);have fM:=h.ms;have hF:fC m.t=(m.kind==1&&(m.kids.length==2&&dB (at_ (m.kids.map M.t) 0))):=by unfold fC;rw[M.xI,M.bD,awD,Bool.and_assoc]
 rw[hF];have cu:=zq aV;obtain⟨⟨c0,c1,c2,c3,c4⟩,_⟩:=hB.five;clear hB h hF;by_cases hk:m.kind=1
 ·by_cases hl:m.kids.length=2
  ·obtain⟨x,hx⟩:=fM.at (i:=0) ae;obtain⟨b,off,hA,hb,d0,d1,d2,d3,d4⟩:=Ms.cell (fM.ev aV) hx;unfold M.kv at d3;have hX:=λw1=>Bo x w1;have hat:=Dn m.kids 0 x hx;rw[hat];generalize dB x.t=q at*;have HX:=zq hX;rw[hA]at c3 cu|-;rw[hl]at c3 cu|-;rw[hk]at c0 cu|-;rw[hA,hl,hk]at d0 d1 d2 d3 d4;simp only[axi,aw2]at d0 d1 d2 d3 d4;have hcap:2<=m.cap:=by have:=fM.le;omega
   clear hX hat hx aV fM hA hb;go_enter func154,ntmps154;exact aA4
  have hl':(m.kids.length==2)=false:=awy.2 hl;have hl2:((m.kids.length:Int)==2)=false:=by rw[awy];omega
  rw[hk]at c0 cu|-;rw[hl'];clear fM aV;go_enter func154,ntmps154;go_wp2;go_ret;exact⟨rfl,cu.out⟩
 have hk':(m.kind==1)=false:=awy.2 hk;rw[hk'];clear fM aV;go_enter func154,ntmps154;go_wp2;go_ret;exact⟨rfl,cu.out⟩
theorem azR(h:U:=by
 go_enter func156,ntmps156
 go_wp2_with (first
  | ((with_reducible refine(HN.out _ cu.out).mono ?_);rintro e w1 ⟨rfl,aN⟩;clear c0 c1 c2 c3 c4;obtain⟨⟨c0,c1,c2,c3,c4⟩,_⟩:=(HB.out.ev aN).five))
 go_ret;exact⟨rfl,cu.out.trans aN⟩):U:=h
theorem abT(m:M)(b0:Nat)(w:ak)(h:Lies b0 [] w m):
  Calls ax 156 #[.agg ↑m] w λe w'=>e=.returned (.bool (eF m.t))/\Ev w w':=by
 have hB:=Bx.new 101 ↑m w;have aV:=Ev.alloc w (.cells ↑m 101);have HN:=zq (λw1 (hE:Ev w w1)=>Dp m b0 w1 (h.ev hE));have hF:eF m.t=(dP m.t&&(m.kids.length==2||m.kids.length==3)):=by unfold eF;rw[M.bD,awD]
 rw[hF];have cu:=zq aV;have HB:=zq hB;obtain⟨⟨c0,c1,c2,c3,c4⟩,_⟩:=hB.five;have hmx:=h.ms.max;have hmc:=h.ms.le;generalize dP m.t=q at*;clear hB aV h hF;generalize m.kids.length=n at*
 cases q
 exact azR;by_cases h2:n=2;subst h2;exact azR;have h2':(n==2)=false:=awy.2 h2;have h2i:((n:Int)==2)=false:=by rw[awy];omega
 have h3i:((n:Int)==3)=(n==3):=by rw[axv,awO,awO];omega
 rw[h2',Bool.false_or];exact azR
theorem Iz{A:Option Addr}{n cap:Nat}{l:List M}(w:ak)(h:Ms w A n cap l)(hf:∀x∈l,∀w1,Ev w w1->Calls ax 154 #[.agg ↑x] w1 λe w'=>e=.returned (.bool (fC x.t))/\Ev w1 w'):
  Calls ax 153 #[.slice A n cap,.func (.func 154) #[] #[]] w λe w'=>e=.returned (.bool ((l.map M.t).all fC))/\Ev w w':=by
 have hn:=h.le;have hm:=h.max;have HL:=zq h.len;have HLA:Hid ((l.map M.t).all fC=l.all λx=>fC x.t):=zq (by rw[axN];rfl);rw[HLA.out];go_enter func153,ntmps153;go_wp2
 go_loopw [9] (λi wr=>∃k:Nat,k<=n/\i=↑k/\Hid ((l.take k).all (λx=>fC x.t)=true)/\Hid (Ev w wr)) (λi _=>n-(intOf i).toNat)
 case atStart=>exact⟨0,awJ _,rfl,zq aj,zq aK⟩
 case round=>
  obtain⟨k,hk,rfl,HT,HE⟩:=hrel;by_cases hlt:k<n;obtain⟨x,hx⟩:=h.at hlt;obtain⟨b,off,rfl,hb,c0,c1,c2,c3,c4⟩:=Ms.cell (h.ev HE.out) hx;unfold M.kv at c3;have hF:=hf x (awG hx);obtain⟨q,hq⟩:∃q,q=fC x.t:=⟨_,rfl⟩
  exact ay3;obtain rfl:k=n:=ae;have HA:Hid (l.all (λx=>fC x.t)=true):=zq (by have:=HT.out;rwa [awS (by rw[HL.out];exact awC _)]at this);go_wp2;go_ret;exact⟨by rw[HA.out];rfl,HE.out⟩
theorem Qo{A:Option Addr}{n cap:Nat}{l:List M}(w:ak)(h:Ms w A n cap l)(hf:∀x∈l,∀w1,Ev w w1->Calls ax 156 #[.agg ↑x] w1 λe w'=>e=.returned (.bool (eF x.t))/\Ev w1 w'):
  Calls ax 153 #[.slice A n cap,.func (.func 156) #[] #[]] w λe w'=>e=.returned (.bool ((l.map M.t).all eF))/\Ev w w':=by
 have hn:=h.le;have hm:=h.max;have HL:=zq h.len;have HLA:Hid ((l.map M.t).all eF=l.all λx=>eF x.t):=zq (by rw[axN];rfl);rw[HLA.out];go_enter func153,ntmps153;go_wp2
 go_loopw [9] (λi wr=>∃k:Nat,k<=n/\i=↑k/\Hid ((l.take k).all (λx=>eF x.t)=true)/\Hid (Ev w wr)) (λi _=>n-(intOf i).toNat)
 case atStart=>exact⟨0,awJ _,rfl,zq aj,zq aK⟩
 case round=>
  obtain⟨k,hk,rfl,HT,HE⟩:=hrel;by_cases hlt:k<n;obtain⟨x,hx⟩:=h.at hlt;obtain⟨b,off,rfl,hb,c0,c1,c2,c3,c4⟩:=Ms.cell (h.ev HE.out) hx;unfold M.kv at c3;have hF:=hf x (awG hx);obtain⟨q,hq⟩:∃q,q=eF x.t:=⟨_,rfl⟩
  exact ay3;obtain rfl:k=n:=ae;have HA:Hid (l.all (λx=>eF x.t)=true):=zq (by have:=HT.out;rwa [awS (by rw[HL.out];exact awC _)]at this);go_wp2;go_ret;exact⟨by rw[HA.out];rfl,HE.out⟩
theorem aCe(h:U:=by go_enter func158,ntmps158;go_wp2;go_ret;exact⟨rfl,Ev.refl _⟩):U:=h
theorem NG(s:By)(o:Bool)(w:ak):
  Calls ax 158 #[↑s,.bool o] w λe w'=>e=.returned (.bool (isFun s o))/\Ev w w':=by
 by_cases En:s=kR;subst En;rw[show isFun kR o=(o) from rfl];unfold kR;exact aCe;by_cases Eo:s=oU;subst Eo;rw[show isFun oU o=(o) from rfl];unfold oU;exact aCe;by_cases Ep:s=oV;subst Ep;rw[show isFun oV o=(o) from rfl];unfold oV;exact aCe;by_cases X3:s=gK;subst X3;rw[show isFun gK o=(!o) from rfl];unfold gK;exact aCe;have gS:(s==kR)=false:=awy.2 En;have gN:(s==oU)=false:=awy.2 Eo;have gX:(s==oV)=false:=awy.2 Ep;have gC:(s==gK)=false:=awy.2 X3;rw[show isFun s o=false by unfold isFun;rw[gS,gN,gX,gC];rfl];unfold kR oU oV gK at*;go_enter func158,ntmps158;go_wp2;go_ret;exact⟨rfl,Ev.refl _⟩
theorem Ah(m:M):gu m.t=(m.kind==1&&(decide (2<=m.kids.length)&&(dB (at_ (m.kids.map M.t) 0)&&pFormOf (gq (at_ (m.kids.map M.t) 0).s) ((m.kids.map M.t).drop 1)))):=by unfold gu;rw[M.xI,M.bD,awD,Bool.and_assoc,Bool.and_assoc]
theorem Ms.rest{w:ak}{b off k c:Nat}{x:M}{q:List M}(h:Ms w ↑(b,off) (k+2) (c+2) (x::q)):Ms w ↑(b,off+5) (k+1) (c+1) q:=by
 refine⟨by have:=h.len;simp at this;omega,by have:=h.le;omega,by have:=h.max;omega,(λe=>by cases e),λ_=>?_⟩;obtain⟨b',off',e,hlt,hc⟩:=h.rd ae;injection e with e
 injection e with e1 e2 _
 subst e1 e2;refine⟨b,off+5,rfl,hlt,λi y hy j u hu=>?_⟩;have:=hc (i+1) y (by simpa using hy) j u hu;rwa [show off+(i+1)*5+j=off+5+i*5+j by omega]at this
theorem Ms.rf{w:ak}{b off n cap:Nat}{l:List M}(h:Ms w ↑(b,off) n cap l){i:Nat}{x:M}(hx:l[i]?=some x):
  w.cell? ⟨b,off+i*5,none⟩=some ↑x.kind/\w.cell? ⟨b,off+i*5+1,none⟩=some ↑x.s/\w.cell? ⟨b,off+i*5+2,none⟩=some ↑x.n/\w.cell? ⟨b,off+i*5+3,none⟩=some (.slice x.A x.kids.length x.cap)/\w.cell? ⟨b,off+i*5+4,none⟩=some ↑x.pos:=by
 obtain⟨b',off',e,_,h0,h1,h2,h3,h4⟩:=Ms.cell h hx;injection e with e
 injection e with e1 e2 _
 subst e1 e2;exact⟨h0,h1,h2,h3,h4⟩
theorem V3{s:By}(h:¬(s=gY)/\¬(s=eP)/\¬(s=cZ)/\¬(s=iD)/\¬(s=iM)/\¬(s=dU)/\¬(s=fB)):gq s=0:=by obtain⟨h1,h2,h3,h4,h5,h6,h7⟩:=h;unfold gq;simp[h1,h2,h3,h4,h5,h6,h7]
theorem azp(h:U:=by
 go_enter func111,ntmps111
 go_wp2_with (first
  | ((with_reducible refine(HX.out _).mono ?_);rintro e w1 ⟨rfl,aN⟩;have E1:=zq (cu.out.trans aN);clear c0 c1 c2 c3 c4 d0 d1 d2 d3 d4;obtain⟨⟨c0,c1,c2,c3,c4⟩,_⟩:=(HB.out.ev aN).five;obtain⟨d0,d1,d2,d3,d4⟩:=l9.out _ E1.out))
 go_ret;exact⟨rfl,E1.out⟩):U:=h
theorem ay9(h:U:=by
 clear hP;go_enter func111,ntmps111
 go_wp2_with (first
  | ((with_reducible refine(HC.out _ E1.out).mono ?_);rintro e w2 ⟨rfl,bM⟩)
  | ((with_reducible refine(HX.out _).mono ?_);rintro e w1 ⟨rfl,aN⟩;have E1:=zq (cu.out.trans aN);clear c0 c1 c2 c3 c4 d0 d1 d2 d3 d4;obtain⟨⟨c0,c1,c2,c3,c4⟩,_⟩:=(HB.out.ev aN).five;obtain⟨d0,d1,d2,d3,d4⟩:=l9.out _ E1.out))
 go_ret;exact⟨rfl,E1.out.trans bM⟩):U:=h
theorem nR(m:M)(b0:Nat)(w:ak)(h:Lies b0 [] w m):
  Calls ax 111 #[.agg ↑m] w λe w'=>e=.returned (.bool (gu m.t))/\Ev w w':=by
 have hB:=Bx.new 101 ↑m w;have aV:=Ev.alloc w (.cells ↑m 101);have fM:=h.ms;have hk0:=h.kid;rw[Ah];have cu:=zq aV;have HB:=zq hB;obtain⟨⟨c0,c1,c2,c3,c4⟩,_⟩:=hB.five;clear hB h;have hlk:(m.kids.map M.t).length=m.kids.length:=awD ..;generalize PH:m.kind=kd at*;generalize VP:m.A=mA at*;generalize hkn:m.kids.length=kn at*;generalize hmc:m.cap=mc at*;generalize hLL:m.kids=L at*;clear PH VP hmc hLL;by_cases hk:kd=1
 ·subst hk;by_cases hl:2<=kn
  ·obtain⟨x,q,hq⟩:∃x q,L=x::q:=by
    cases L with
    | nil=>simp at hkn;omega
    | cons x q=>exact⟨x,q,rfl⟩
   obtain⟨k,rfl⟩:∃k,kn=k+2:=⟨kn-2,ae⟩
   have hcl:=fM.le;have hcm:=fM.max;obtain⟨c,rfl⟩:∃c,mc=c+2:=⟨mc-2,ae⟩
   subst hq;obtain⟨b,off,rfl,hb,_⟩:=Ms.cell fM (i:=0) (x:=x) rfl;have nD:q.length=k+1:=by simpa using hkn
   rw[aw5 hl];have l9:=zq (λw1 (hE:Ev w w1)=>Ms.rf (fM.ev hE) (i:=0) (x:=x) rfl);simp only[axi,aw2]at l9;have HR:=zq (λw1 (hE:Ev w w1)=>Ms.rest (fM.ev hE));have Gt:=zq (λy (hy:y∈q) w1 (hE:Ev w w1)=>(hk0 y (awK _ hy)).ev hE);have BN:=zq nD;have HX:=zq (λw1=>Bo x w1);simp only[awI,axb,axE,at_,ax5,M.uK,axe,axB]at HX|-;obtain⟨d0,d1,d2,d3,d4⟩:=l9.out _ cu.out;clear fM hk0 nD hl hb aV hkn hlk;have ARM:=trivial;generalize hqa:dB x.t=qa at*
   cases qa
   ·rw[axp];go_enter func111,ntmps111;exact aA4
   rw[axB];generalize PG:x.s=s at*;by_cases V4:s=gY
   ·subst V4;by_cases hz:k=0
    ·subst hz;obtain⟨y,hy⟩:∃y,q=[y]:=by
      have:=BN.out
      match q,this with
      | [y],_=>exact⟨y,rfl⟩
     have hP:pFormOf (gq gY) (q.map M.t)=dB y.t:=by rw[hy];rfl
     rw[hP];have HY:=zq (λw1=>Bo y w1);have TC:=zq (λw1 (hE:Ev w w1)=>Ms.rf (HR.out w1 hE) (i:=0) (x:=y) (by rw[hy];rfl));simp only[axi,aw2]at TC;generalize dB y.t=qy at*;unfold gY at*;clear hy hP;go_enter func111,ntmps111
     go_wp2_with (first
      | ((with_reducible refine(HY.out _).mono ?_);rintro e w2 ⟨rfl,bM⟩)
      | ((with_reducible refine(HX.out _).mono ?_);rintro e w1 ⟨rfl,aN⟩;have E1:=zq (cu.out.trans aN);clear c0 c1 c2 c3 c4 d0 d1 d2 d3 d4;obtain⟨⟨c0,c1,c2,c3,c4⟩,_⟩:=(HB.out.ev aN).five;obtain⟨d0,d1,d2,d3,d4⟩:=l9.out _ E1.out;obtain⟨e0,e1,e2,e3,e4⟩:=TC.out _ E1.out))
     go_ret;exact⟨rfl,E1.out.trans bM⟩
    have hP:pFormOf (gq gY) (q.map M.t)=false:=by show ((q.map M.t).length==1&&dB (at_ (q.map M.t) 0))=false;rw[awD,BN.out,show (k+1==1)=false from awy.2 ae,axp]
    rw[hP];have i1:((k:Int)+1==1)=false:=by rw[awy];omega
    unfold gY at*;exact azp
   by_cases Qp:s=eP;subst Qp;have hP:pFormOf (gq eP) (q.map M.t)=((k:Int)+1==2):=by show ((q.map M.t).length==2)=_;rw[awD,BN.out,axv,awO,awO];omega
   rw[hP];unfold eP at*;exact azp;by_cases KG:s=cZ;subst KG;by_cases hz:1<=k;have hP:pFormOf (gq cZ) (q.map M.t)=((q.take k).map M.t).all fC:=by show (decide (2<=(q.map M.t).length)&&((q.map M.t).take ((q.map M.t).length-1)).all fC)=_;rw[awD,BN.out,aw5 ae,axB,axM,<-axy]
   rw[hP];have HC:=zq (λw1 (hE:Ev w w1)=>Iz w1 ((HR.out w1 hE).to k ae) λy hy w2 bM=>TB y b0 w2 (Gt.out y (axO hy) w2 (hE.trans bM)));generalize ((q.take k).map M.t).all fC=qc at*;have i1:(2:Int)<=(k:Int)+1:=ae;have i2:(0:Int)<=(k:Int):=ae;have i3:(k:Int)<=(c:Int)+1:=ae;unfold cZ at*;exact ay9;have hP:pFormOf (gq cZ) (q.map M.t)=false:=by show (decide (2<=(q.map M.t).length)&&((q.map M.t).take ((q.map M.t).length-1)).all fC)=_;rw[awD,BN.out,axf ae,axp]
   rw[hP];have i1:¬(2:Int)<=(k:Int)+1:=ae;unfold cZ at*;exact azp;by_cases abU:s=iD;subst abU;by_cases hz:k=3;subst hz;have hP:pFormOf (gq iD) (q.map M.t)=((q.take 2).map M.t).all dP:=by show ((q.map M.t).length==4&&((q.map M.t).take 2).all dP)=_;rw[awD,BN.out,<-axy];rfl
   rw[hP];have HC:=zq (λw1 (hE:Ev w w1)=>KF w1 ((HR.out w1 hE).to 2 ae) λy hy w2 bM=>Dp y b0 w2 (Gt.out y (axO hy) w2 (hE.trans bM)));generalize ((q.take 2).map M.t).all dP=qc at*;have i3:(2:Int)<=(c:Int)+1:=ae;unfold iD at*;exact ay9;have hP:pFormOf (gq iD) (q.map M.t)=false:=by show ((q.map M.t).length==4&&((q.map M.t).take 2).all dP)=_;rw[awD,BN.out,show (k+1==4)=false from awy.2 ae,axp]
   rw[hP];have i1:((k:Int)+1==4)=false:=by rw[awy];omega
   unfold iD at*;exact azp;by_cases V5:s=iM;subst V5;have hP:pFormOf (gq iM) (q.map M.t)=((k:Int)+1==2):=by show ((q.map M.t).length==2)=_;rw[awD,BN.out,axv,awO,awO];omega
   rw[hP];unfold iM at*;exact azp;by_cases Gv:s=dU;subst Gv;have hP:pFormOf (gq dU) (q.map M.t)=((k:Int)+1==1):=by show ((q.map M.t).length==1)=_;rw[awD,BN.out,axv,awO,awO];omega
   rw[hP];unfold dU at*;exact azp;by_cases V6:s=fB
   ·subst V6;by_cases hz:1<=k
    ·obtain⟨y,r,hy⟩:∃y r,q=y::r:=by
      cases q with
      | nil=>have:=BN.out;simp at this
      | cons y r=>exact⟨y,r,rfl⟩
     obtain⟨k1,rfl⟩:∃k1,k=k1+1:=⟨k-1,ae⟩
     have hrl:r.length=k1+1:=by have:=BN.out;rw[hy]at this;simpa using this
     have hP:pFormOf (gq fB) (q.map M.t)=(dP y.t&&((r.take k1).map M.t).all eF):=by show (decide (2<=(q.map M.t).length)&&dP (at_ (q.map M.t) 0)&&(((q.map M.t).take ((q.map M.t).length-1)).drop 1).all eF)=_;rw[awD,BN.out,aw5 ae,axB,axM,<-axy,hy,axz];rfl
     rw[hP];have HY:=zq (λw1 (hE:Ev w w1)=>Dp y b0 w1 (Gt.out y (by rw[hy];exact awL ..) w1 hE));have TC:=zq (λw1 (hE:Ev w w1)=>Ms.rf (HR.out w1 hE) (i:=0) (x:=y) (by rw[hy];rfl));simp only[axi,aw2]at TC;obtain⟨qN,rfl⟩:∃c1,c=c1+1:=⟨c-1,ae⟩
     have DU:=zq (λw1 (hE:Ev w w1)=>Ms.rest (x:=y) (q:=r) (by have:=HR.out w1 hE;rw[hy]at this;exact this));have HC:=zq (λw1 (hE:Ev w w1)=>Qo w1 ((DU.out w1 hE).to k1 ae) λz hzm w2 bM=>abT z b0 w2 (Gt.out z (by rw[hy];exact awK _ (axO hzm)) w2 (hE.trans bM)));generalize dP y.t=qy at*;generalize ((r.take k1).map M.t).all eF=qc at*;have i1:(2:Int)<=(k1:Int)+1+1:=ae;have i2:(1:Int)<=(k1:Int)+1:=ae;have i3:(k1:Int)+1<=(qN:Int)+1+1:=ae;unfold fB at*;clear hP hy hrl
     cases qy
     ·go_enter func111,ntmps111
      go_wp2_with (first
       | ((with_reducible refine(HY.out _ E1.out).mono ?_);rintro e w2 ⟨rfl,bM⟩)
       | ((with_reducible refine(HX.out _).mono ?_);rintro e w1 ⟨rfl,aN⟩;have E1:=zq (cu.out.trans aN);clear c0 c1 c2 c3 c4 d0 d1 d2 d3 d4;obtain⟨⟨c0,c1,c2,c3,c4⟩,_⟩:=(HB.out.ev aN).five;obtain⟨d0,d1,d2,d3,d4⟩:=l9.out _ E1.out;obtain⟨e0,e1,e2,e3,e4⟩:=TC.out _ E1.out))
      go_ret;exact⟨rfl,E1.out.trans bM⟩
     go_enter func111,ntmps111
     go_wp2_with (first
      | ((with_reducible refine(HY.out _ E1.out).mono ?_);rintro e w2 ⟨rfl,bM⟩;have E2:=zq (E1.out.trans bM))
      | ((with_reducible refine(HC.out _ E2.out).mono ?_);rintro e w3 ⟨rfl,dV⟩)
      | ((with_reducible refine(HX.out _).mono ?_);rintro e w1 ⟨rfl,aN⟩;have E1:=zq (cu.out.trans aN);clear c0 c1 c2 c3 c4 d0 d1 d2 d3 d4;obtain⟨⟨c0,c1,c2,c3,c4⟩,_⟩:=(HB.out.ev aN).five;obtain⟨d0,d1,d2,d3,d4⟩:=l9.out _ E1.out;obtain⟨e0,e1,e2,e3,e4⟩:=TC.out _ E1.out))
     go_ret;exact⟨rfl,E2.out.trans dV⟩
    have hP:pFormOf (gq fB) (q.map M.t)=false:=by show (decide (2<=(q.map M.t).length)&&dP (at_ (q.map M.t) 0)&&(((q.map M.t).take ((q.map M.t).length-1)).drop 1).all eF)=_;rw[awD,BN.out,axf ae,axp,axp]
    rw[hP];have i1:¬(2:Int)<=(k:Int)+1:=ae;unfold fB at*;exact azp
   rw[V3 ⟨V4,Qp,KG,abU,V5,Gv,V6⟩];have ahC:(s==gY)=false:=awy.2 V4;have aeS:(s==eP)=false:=awy.2 Qp;have abV:(s==cZ)=false:=awy.2 KG;have akf:(s==iD)=false:=awy.2 abU;have ahD:(s==iM)=false:=awy.2 V5;have Zj:(s==dU)=false:=awy.2 Gv;have ahE:(s==fB)=false:=awy.2 V6;unfold gY eP cZ iD iM dU fB at*;rw[show pFormOf 0 (q.map M.t)=false from rfl];exact azp
  rw[axf hl,axp,Bool.and_false];have i1:(kn:Int)<2:=ae;clear fM hk0 aV;go_enter func111,ntmps111;go_wp2;go_ret;exact⟨rfl,cu.out⟩
 have hk':(kd==1)=false:=awy.2 hk;have atu:(kd !=1)=true:=by simp[hk]
 rw[hk',axp];clear fM hk0 aV;go_enter func111,ntmps111;go_wp2;go_ret;exact⟨rfl,cu.out⟩
theorem vG(t:T):t.strip.kind=t.kind:=by cases t;rw[T.jH];rfl
theorem pg(t:T):t.strip.s=t.s:=by cases t;rw[T.jH];rfl
theorem jI(t:T):t.strip.kids=t.kids.map T.strip:=by cases t;rw[T.jH];rfl
mutual
theorem KI:∀t:T,t.strip.deep=t.deep
 | .mk k s n l p=>by rw[T.strip,T.deep,T.deep,Hw l]
theorem Hw:∀l:List T,T.pM (T.strips l)=T.pM l
 | []=>by rw[T.strips]
 | t::l=>by rw[T.strips,T.pM,T.pM,KI t,Hw l]
end
mutual
theorem Dq:∀t:T,t.strip.size=t.size
 | .mk k s n l p=>by rw[T.strip,T.size,T.size,Hy l]
theorem Hy:∀l:List T,T.sizes (T.strips l)=T.sizes l
 | []=>by rw[T.strips]
 | t::l=>by rw[T.strips,T.sizes,T.sizes,Dq t,Hy l]
end
theorem V7(k:Int)(s:By)(n:Int)(l:List T):iw k s n (T.strips l)=iw k s n l:=by unfold iw;rw[T.rE,List.isEmpty_map]
mutual
theorem KJ:∀t:T,t.strip.fine=t.fine
 | .mk k s n l p=>by rw[T.strip,T.fine,T.fine,Hz l,V7]
theorem Hz:∀l:List T,T.wU (T.strips l)=T.wU l
 | []=>by rw[T.strips]
 | t::l=>by rw[T.strips,T.wU,T.wU,KJ t,Hz l]
end
mutual
theorem Aj:∀t:T,printS t.strip=printS t
 | .mk k s n l p=>by rw[T.strip,printS,printS,Eu l true]
theorem Eu:∀(l:List T) (b:Bool),printL b (T.strips l)=printL b l
 | [],b=>by rw[T.strips]
 | t::l,b=>by rw[T.strips,printL,printL,Aj t,Eu l false]
end
theorem H5(s:By):∀(rs rs':List Ea) (done:List T),rs.map (λr=>(r.1,r.2.1))=rs'.map (λr=>(r.1,r.2.1))->(xReads s done rs).1=(xReads s done rs').1/\(xReads s done rs).2.1=(xReads s done rs').2.1
 | [],[],done,_=>⟨rfl,rfl⟩
 | [],r'::rs',done,h=>by simp at h
 | r::rs,[],done,h=>by simp at h
 | r::rs,r'::rs',done,h=>by simp only[awI,List.cons.injEq,Prod.mk.injEq]at h;obtain⟨⟨h1,h2⟩,h3⟩:=h;unfold xReads;rw[h1,h2];split;exact H5 s rs rs' _ h3;exact⟨rfl,rfl⟩
mutual
theorem wZ:∀t:T,(xRead t.strip).1=(xRead t).1/\(xRead t.strip).2.1=(xRead t).2.1
 | .mk k s n l p=>by
  have hl:=Ew l;by_cases k1:k=1;subst k1;rw[T.jH,pR,pR]
  cases l with
  | nil=>exact⟨rfl,rfl⟩
  | cons h q=>
   simp only[awI,vG,pg,awD];split;split;have hq:∀t∈q,(xRead t.strip).1=(xRead t).1/\(xRead t.strip).2.1=(xRead t).2.1:=λt ht=>hl t (awK _ ht);refine H5 h.s _ _ [] ?_;rw[awT,awT,awT];refine axl λt ht=>?_;have:=hq t ht;simp[this.1,this.2];exact⟨rfl,rfl⟩;exact⟨rfl,rfl⟩
  rw[T.jH,ku s n _ 0 k1,ku s n l p k1];split;split;exact⟨rfl,rfl⟩;exact⟨rfl,rfl⟩;split;exact⟨rfl,rfl⟩;split<;>exact⟨rfl,rfl⟩
theorem Ew:∀l:List T,∀t∈l,(xRead t.strip).1=(xRead t).1/\(xRead t.strip).2.1=(xRead t).2.1
 | []=>λt ht=>by cases ht
 | a::l=>by intro t ht;rcases awN.1 ht with h1|h1;rw[h1];exact wZ a;exact Ew l t h1
end
theorem kD(l:List T)(i:Nat):at_ (l.map T.strip) i=(at_ l i).strip:=by
 unfold at_;rw[axD,axD,axh]
 cases l[i]? with
 | none=>simp[eu,T.jH]
 | some t=>rfl
theorem uB(t:T):dB t.strip=dB t:=by unfold dB;rw[vG]
theorem Ak(t:T):dP t.strip=dP t:=by unfold dP;rw[vG,jI,axN];congr 2;funext x;exact uB x
theorem TD(t:T):fC t.strip=fC t:=by unfold fC;rw[vG,jI,awD,kD,uB]
theorem TE(t:T):eF t.strip=eF t:=by unfold eF;rw[Ak,jI,awD]
theorem Gx{f:T->Bool}(hf:∀t:T,f t.strip=f t)(l:List T):(l.map T.strip).all f=l.all f:=by rw[axN];congr 1;funext x;exact hf x
theorem Qr(k:Nat)(q:List T):pFormOf k (q.map T.strip)=pFormOf k q:=by unfold pFormOf;split<;>simp only[awD,kD,uB,Ak,<-axy,<-axG,Gx TD,Gx Ak,Gx TE]
theorem KL(t:T):gu t.strip=gu t:=by unfold gu;rw[vG,jI,awD,kD,uB,pg,<-axG,Qr]
theorem V8(t:T):rH t.strip=rH t:=by unfold rH;rw[jI,kD,pg]
theorem V9(t:T):rJ t.strip=rJ t:=by unfold rJ;rw[jI,kD,(wZ _).1]
theorem V_(t:T):kS t.strip=kS t:=by unfold kS;rw[jI,kD,kD,kD,pg,pg,pg,awD]
theorem Bz{α:Type}{f:T->α}(hf:∀t:T,f t.strip=f t)(l:List T):(l.map T.strip).map f=l.map f:=by rw[awT];exact axl λt _=>hf t
theorem We(k:Nat)(q:List T)(ps:List Pl):pMake k (q.map T.strip) ps=pMake k q ps:=by unfold pMake;split<;>simp only[awD,kD,pg,jI,(wZ _).1,<-axy,<-axG,Bz V9,Bz V8,Bz V_,Bz pg]
mutual
theorem Dt:∀t:T,pPlan t.strip=pPlan t
 | .mk k s n l p=>by have hl:=H6 l;have hf:=KL (.mk k s n l p);rw[T.strip,pPlan,pPlan,hl];rw[T.strip]at hf;rw[hf];split;rw[T.rE,kD,pg,<-axG,We];rfl
theorem H6:∀l:List T,pPlans (T.strips l)=pPlans l
 | []=>by rw[T.strips]
 | t::l=>by rw[T.strips,pPlans,pPlans,Dt t,H6 l]
end
theorem Qs:∀(l l':List Er),l.map (·.1)=l'.map (·.1)->(aU l).1=(aU l').1:=by
 have key:∀(l l':List Er) (a a':Er),a.1=a'.1->l.map (·.1)=l'.map (·.1)->(l.foldl fU a).1=(l'.foldl fU a').1:=by
  intro l
  induction l with
  | nil=>
   intro l' a a' ha h
   cases l' with
   | nil=>exact ha
   | cons e l'=>simp at h
  | cons e l ih=>
   intro l' a a' ha h
   cases l' with
   | nil=>simp at h
   | cons e' l'=>
    simp only[awI,List.cons.injEq]at h;rw[axT,axT];refine ih l' _ _ ?_ h.2;unfold fU;rw[ha,h.1];split;exact h.1;exact ha
 intro l l' h;exact key l l' _ _ rfl h
theorem tC(t:T):(bK t.strip).1=(bK t).1:=by unfold bK;rw[pg];split<;>rfl
theorem H7(t:T):(kC t.strip).1=(kC t).1:=(wZ t).2
theorem NI(t:T):(eQ t.strip).map (·.1)=(eQ t).map (·.1):=by unfold eQ;simp only[awI,awY,jI,kD,tC,H7]
theorem Qu(t:T):(eG t.strip).map (·.1)=(eG t).map (·.1):=by
 unfold eG;simp only[awI,awY,jI,kD,tC,pg,awD];congr 1;congr 1
 ·split<;>rfl
 congr 1;split;exact tC _;rfl
theorem xM{f:T->List Er}(hf:∀t:T,(f t.strip).map (·.1)=(f t).map (·.1)):∀l:List T,((l.map T.strip).flatMap f).map (·.1)=(l.flatMap f).map (·.1)
 | []=>rfl
 | t::l=>by simp only[awI,axS,awM,hf t,xM hf l]
theorem Zl{f:T->Er}(hf:∀t:T,(f t.strip).1=(f t).1)(l:List T):((l.map T.strip).map f).map (·.1)=(l.map f).map (·.1):=by rw[awT,awT,awT];exact axl λt _=>hf t
theorem TF(k:Nat)(q:List T)(es es':List Er)(h:es'.map (·.1)=es.map (·.1)):(zh k (q.map T.strip) es').map (·.1)=(zh k q es).map (·.1):=by unfold zh;split<;>simp only[awI,awY,awM,awD,kD,jI,tC,H7,<-axy,<-axG,xM NI,xM Qu,Zl tC,h]<;>(try rw[axG,axG,h])
mutual
theorem Gy:∀t:T,(bF t.strip).1=(bF t).1
 | .mk k s n l p=>by have hl:=KN l;have hf:=KL (.mk k s n l p);rw[T.strip,bF,bF];rw[T.strip]at hf;rw[hf];split;rw[T.rE,kD,pg,<-axG];refine Qs _ _ (TF _ _ _ _ ?_);rw[axG,axG,<-T.rE,hl];rfl
theorem KN:∀l:List T,(Ei (T.strips l)).map (·.1)=(Ei l).map (·.1)
 | []=>by rw[T.strips]
 | t::l=>by rw[T.strips,Ei,Ei,awI,awI,Gy t,KN l]
end
theorem rO(a:T)(q:List T)(hf:gu (dG (a::q))=true):pPlan (dG (a::q))=pMake (gq a.s) q (q.map pPlan):=by unfold dG at hf|-;rw[pPlan,if_pos hf,zg];rfl
theorem vH(a:T)(q:List T)(hf:gu (dG (a::q))=true):bF (dG (a::q))=aU (zh (gq a.s) q (q.map bF)):=by unfold dG at hf|-;rw[bF,if_pos hf,Bi];rfl
theorem Gz(w:By)(q:List T)(hq:1<=q.length):gu (dG (aS w::q))=pFormOf (gq w) q:=by
 unfold gu dG;have h1:(2<=(T.mk 1 [] 0 (aS w::q) 0).kids.length):=by simp[T.kids];omega
 rw[aw5 h1];rfl
theorem Zm{s:By}(h:s≠[])(hl:∀c∈s,bG c=true)(hn:s.length<=1000):(aS s).fine=true:=by
 unfold aS;rw[T.fine];have h1:s.isEmpty=false:=by cases s with|nil=>exact absurd rfl h|cons a b=>rfl
 have h2:s.all bG=true:=awW.2 hl;unfold iw;rw[h1,h2,aw5 hn];rfl
theorem rP{s:By}(h:jO s=true):(aS s).fine=true/\s≠[]:=by
 have hl:=abH h;have h0:s≠[]:=by rintro rfl;simp at hl
 refine⟨Zm h0 (λc hc=>?_) ae,h0⟩;unfold jO f_ at h;simp only[awF,awW]at h;exact h.2.1 c (by simpa[aY] using hc)
theorem jU{l:List T}(h:∀t∈l,t.fine=true):(dG l).fine=true:=by unfold dG;rw[T.fine,Gn,awW.2 h];rfl
theorem Du{l:List By}(h:Nms l):(aX l).fine=true:=jU λt ht=>by obtain⟨s,hs,rfl⟩:=aw6.1 ht;exact(rP (h s hs)).1
theorem aeT{s:By}(h:bQ s≠0):(aS s).fine=true:=by
 cases hi:s==JP
 ·rcases Ti (SY h hi).1 with h1|h1|h1|h1|h1|h1|h1|h1|h1|h1|h1<;>subst h1<;>decide+kernel
 have:=awO.1 hi;subst this;decide+kernel
mutual
theorem KO:∀e:T,dX e=true->e.every zZ=true->e.every dh=true->(xTree e).fine=true
 | .mk k s n l p,hr,he,hf=>by
  have hl:=H8 l;rw[dX,wS,awF,awW]at hr;rw[T.every,T.Dc,awF,awW]at he hf;obtain⟨nG,hrs⟩:=hr;obtain⟨he1,hes⟩:=he;obtain⟨hf1,hfs⟩:=hf;obtain⟨aki,atw⟩:=qo hf1;simp only[ax0,oQ,T.kind,T.s,T.n,T.kids]at nG;by_cases k1:k=1;subst k1;simp only[axe,aw4,Bool.or_eq_false_iff,Bool.not_eq_false']at nG;have e:xTree (.mk 1 s n l p)=aS s:=by simp[xTree,aS]
  rw[e];exact(rP nG.1.1).1;have k1':(k==1)=false:=awy.2 k1;by_cases k2:k=2;subst k2;have e:xTree (.mk 2 s n l p)=.mk 3 [] n [] 0:=by simp[xTree]
  rw[e,T.fine];unfold zW at aki;unfold iw;simp[aki];have k2':(k==2)=false:=awy.2 k2;by_cases k3:k=3;subst k3;have e:xTree (.mk 3 s n l p)=.mk 4 s 0 [] 0:=by simp[xTree]
  rw[e,T.fine];have J6:s.length<=40:=by unfold zZ at he1;rw[show (T.mk 3 s n l p).kind=3 from rfl,show (!((3:Int)==3))=false from rfl,Bool.false_or]at he1;exact ax1 he1
  unfold iw;simp[J6];have k3':(k==3)=false:=awy.2 k3;by_cases k4:k=4;subst k4;simp only[k1',k2',k3',awP,aw7,axe,aw4,Bool.or_eq_false_iff,Bool.not_eq_false',awO,awy]at nG;obtain⟨⟨ht0,_⟩,_⟩:=nG;have e:xTree (.mk 4 s n l p)=dG (aS s::l.map xTree):=by rw[xTree,vC];rfl
  rw[e];refine jU λt ht=>?_;rcases awN.1 ht with rfl|ht;exact aeT ht0;obtain⟨u,hu,rfl⟩:=aw6.1 ht;exact hl u hu (hrs u hu) (hes u hu) (hfs u hu);simp[k1',k2',k3',k4]at nG
theorem H8:∀l:List T,∀e∈l,dX e=true->e.every zZ=true->e.every dh=true->(xTree e).fine=true
 | []=>λe he=>by cases he
 | a::l=>by intro e he;rcases awN.1 he with h1|h1;rw[h1];exact KO a;exact H8 l e h1
end
theorem wY.tree{e:T}(h:wY e):(xTree e).fine=true:=KO e h.right h.text h.fair
theorem wY.err{e:T}(h:wY e):kC (xTree e)=(0,0):=by unfold kC;rw[h.back]
theorem TG{s:By}(h:jO s=true):bK (aS s)=(0,0):=by unfold bK;rw[show (aS s).s=s from rfl,if_pos h]
theorem KP{l:List By}(h:Nms l):∀e∈(l.map aS).map bK,e.1=0:=by intro e he;obtain⟨t,ht,rfl⟩:=aw6.1 he;obtain⟨s,hs,rfl⟩:=aw6.1 ht;rw[TG (h s hs)]
theorem Dv(l:List By):(aX l).kids.map T.s=l:=by show (l.map aS).map T.s=l;rw[awT];have:(T.s ∘ aS)=id:=rfl;rw[this,List.map_id]
theorem H9(l:List By):dP (aX l)=true:=by unfold dP;show ((1:Int)==1&&(l.map aS).all dB)=true;rw[axN];have:(dB ∘ aS)=λ_=>true:=rfl;rw[this];simp
theorem Zn{a:Ag}(h:KC a):(a.2.1=gK/\a.2.2=[]/\fK a=dG [aS a.1,aS gK])∨((a.2.1=kR∨a.2.1=oU∨a.2.1=oV)/\jO a.2.2=true/\fK a=dG [aS a.1,aS a.2.1,aS a.2.2]):=by
 rcases h.2 with⟨h1,h2⟩|⟨h1,h2⟩
 left;refine⟨h1,h2,?_⟩;unfold fK;rw[h1,h2];rfl;right;refine⟨h1,h2,?_⟩;have h0:=(rP h2).2;have:a.2.2.isEmpty=false:=by cases h3:a.2.2 with|nil=>exact absurd h3 h0|cons x y=>rfl
 unfold fK;rw[this];rfl
theorem Ey{a:Ag}(h:KC a):eF (fK a)=true/\kS (fK a)=a/\(∀e∈eG (fK a),e.1=0)/\(fK a).fine=true:=by
 obtain⟨n,f,c⟩:=a;have hn:bK (aS n)=(0,0):=TG h.1;have hnf:=(rP h.1).1;simp only at hn hnf;rcases Zn h with⟨h1,h2,h3⟩|⟨h1,h2,h3⟩
 simp only at h1 h2 h3;subst h1 h2;rw[h3];refine⟨rfl,rfl,?_,jU ?_⟩;have:eG (dG [aS n,aS gK])=[bK (aS n),(0,0),(0,0)]:=rfl;rw[this,hn];simp;intro t ht;simp at ht;rcases ht with rfl|rfl;exact hnf;decide+kernel;simp only at h1 h2 h3;rw[h3];have hc:=TG h2;refine⟨rfl,rfl,?_,jU ?_⟩
 ·have:eG (dG [aS n,aS f,aS c])=[bK (aS n),if isFun f true then (0,0) else (12,0),bK (aS c)]:=rfl;rw[this,hn,hc];rcases h1 with rfl|rfl|rfl<;>simp[isFun]
 intro t ht;simp at ht;rcases ht with rfl|rfl|rfl;exact hnf
 ·rcases h1 with rfl|rfl|rfl<;>decide+kernel
 exact(rP h2).1
theorem TI:∀(cs:List By) (es:List T),es.length=cs.length->(∀e∈es,wY e)->Nms cs->
  (List.zipWith b_ cs es).all fC=true/\(List.zipWith b_ cs es).map rJ=es/\(List.zipWith b_ cs es).map rH=cs/\(∀e∈(List.zipWith b_ cs es).flatMap eQ,e.1=0)/\(∀t∈List.zipWith b_ cs es,t.fine=true)/\(List.zipWith b_ cs es).length=cs.length
 | [],[],_,_,_=>by simp
 | [],_::_,h,_,_=>by simp at h
 | _::_,[],h,_,_=>by simp at h
 | c::cs,e::es,h,he,hc=>by obtain⟨h1,h2,h3,h4,h5,h6⟩:=TI cs es (by simpa using h) (λx hx=>he x (awK _ hx)) (λx hx=>hc x (awK _ hx));have hge:=he e (awL ..);have hgc:=hc c (awL ..);simp only[List.zipWith_cons_cons,ayh,awI,axS,h1,h2,h3,awR,h6,ayb];refine⟨rfl,?_,?_,?_,?_,by trivial⟩;congr 1;show (xRead (xTree e)).1=e;rw[hge.back];rfl;intro x hx;rcases awV.1 hx with hx|hx;have:eQ (b_ c e)=[bK (aS c),kC (xTree e)]:=rfl;rw[this,TG hgc,hge.err]at hx;simp at hx;rw[hx];exact h4 x hx;intro t ht;rcases awN.1 ht with rfl|ht;refine jU λt ht=>?_;simp at ht;rcases ht with rfl|rfl;exact(rP hgc).1;exact hge.tree;exact h5 t ht
def X5(p:Pl):Prop:=p.good->pPlan (aH p)=p/\(bF (aH p)).1=0/\(aH p).fine=true
theorem uC{α:Type}{l:List α}(h:l.length=1):∃a,l=[a]:=by
 match l,h with
 | [a],_=>exact⟨a,rfl⟩
theorem xg{α:Type}{l:List α}(h:l.length=2):∃a b,l=[a,b]:=by
 match l,h with
 | [a,b],_=>exact⟨a,b,rfl⟩
theorem rQ:∀w∈[gY,eP,cZ,iD,iM,dU,fB],(aS w).fine=true:=by decide+kernel
theorem Wh(k:Int)(nm:By)(es:List T)(cs lf rt:List By)(ag:List Ag)(l:List Pl)(hl:∀p∈l,X5 p):X5 (.mk k nm es cs lf rt ag l):=by
 intro hg;rw[Pl.good,Pl.uM]at hg;obtain⟨hg,Ny⟩:=hg;have hk:∀p∈l,pPlan (aH p)=p/\(bF (aH p)).1=0/\(aH p).fine=true:=λp hp=>hl p hp (Ny p hp);rw[aH,vF];rcases hg with⟨rfl,h1,rfl,rfl,rfl,rfl,rfl,h2⟩|⟨rfl,rfl,⟨e,rfl,he⟩,rfl,rfl,rfl,rfl,h2⟩|⟨rfl,rfl,he,hlen,h1,hc,rfl,rfl,rfl,h2⟩|⟨rfl,rfl,rfl,rfl,h3,h4,rfl,h2⟩|⟨rfl,rfl,rfl,rfl,rfl,rfl,rfl,h2⟩|⟨rfl,rfl,rfl,rfl,rfl,rfl,rfl,h2⟩|⟨rfl,rfl,rfl,rfl,h3,rfl,h4,h2⟩
 have:l=[]:=axu h2;subst this;have e:dG (kN 1 nm [] [] [] [] []++([]:List Pl).map aH)=dG (aS gY::[aS nm]):=rfl;have hf:gu (dG (aS gY::[aS nm]))=true:=rfl;rw[e,rO _ _ hf,vH _ _ hf];refine⟨rfl,?_,jU ?_⟩;rw[gU];intro x hx;have:zh (gq (aS gY).s) [aS nm] ([aS nm].map bF)=[bK (aS nm)]:=rfl;rw[this,TG h1]at hx;simp at hx;rw[hx];intro t ht;simp at ht;rcases ht with rfl|rfl;exact rQ _ aj;exact(rP h1).1;obtain⟨q,rfl⟩:=uC h2;obtain⟨k1,k2,k3⟩:=hk q aj;have e':dG (kN 2 [] [e] [] [] [] []++[q].map aH)=dG (aS eP::[xTree e,aH q]):=rfl;have hf:gu (dG (aS eP::[xTree e,aH q]))=true:=rfl;rw[e',rO _ _ hf,vH _ _ hf];refine⟨?_,?_,jU ?_⟩;show Pl.mk 2 [] [(xRead (xTree e)).1] [] [] [] [] [pPlan (aH q)]=_;rw[he.back,k1];rw[gU];intro x hx;have:zh (gq (aS eP).s) [xTree e,aH q] ([xTree e,aH q].map bF)=[kC (xTree e),bF (aH q)]:=rfl;rw[this,he.err]at hx;simp at hx;rcases hx with rfl|rfl;rfl;exact k2;intro t ht;simp at ht;rcases ht with rfl|rfl|rfl;exact rQ _ aj;exact he.tree;exact k3;obtain⟨q,rfl⟩:=uC h2;obtain⟨k1,k2,k3⟩:=hk q aj;obtain⟨z1,z2,z3,z4,z5,z6⟩:=TI cs es hlen he hc;have e':dG (kN 3 [] es cs [] [] []++[q].map aH)=dG (aS cZ::(List.zipWith b_ cs es++[aH q])):=rfl;generalize List.zipWith b_ cs es=Z at*;have ht:(Z++[aH q]).length-1=Z.length:=aj;have hf:gu (dG (aS cZ::(Z++[aH q])))=true:=by rw[Gz _ _ aj];show (decide (2<=(Z++[aH q]).length)&&((Z++[aH q]).take ((Z++[aH q]).length-1)).all fC)=true;rw[ht,ayk,z1,ayb];exact aw5 (by simp;omega)
 rw[e',rO _ _ hf,vH _ _ hf];refine⟨?_,?_,jU ?_⟩;show Pl.mk 3 [] (((Z++[aH q]).take ((Z++[aH q]).length-1)).map rJ) (((Z++[aH q]).take ((Z++[aH q]).length-1)).map rH) [] [] [] (((Z++[aH q]).map pPlan).drop ((Z++[aH q]).length-1))=_;rw[ht,ayk,z2,z3,awM,ayi aj,awI,awY,k1];rw[gU];show ∀x∈((Z++[aH q]).take ((Z++[aH q]).length-1)).flatMap eQ++((Z++[aH q]).map bF).drop ((Z++[aH q]).length-1),x.1=0;rw[ht,ayk,awM,ayi aj];intro x hx;rcases awV.1 hx with hx|hx;exact z4 x hx;simp at hx;rw[hx];exact k2;intro t ht;rcases awN.1 ht with rfl|ht;exact rQ _ aj;rcases awV.1 ht with ht|ht;exact z5 t ht;simp at ht;rw[ht];exact k3;obtain⟨q,q',rfl⟩:=xg h2;obtain⟨k1,k2,k3⟩:=hk q aj;obtain⟨m1,m2,m3⟩:=hk q' aj;have e':dG (kN 4 [] [] [] lf rt []++[q,q'].map aH)=dG (aS iD::[aX lf,aX rt,aH q,aH q']):=rfl;have hf:gu (dG (aS iD::[aX lf,aX rt,aH q,aH q']))=true:=by rw[Gz _ _ aj];show ((4:Nat)==4&&[aX lf,aX rt].all dP)=true;simp[H9]
 rw[e',rO _ _ hf,vH _ _ hf];refine⟨?_,?_,jU ?_⟩;show Pl.mk 4 [] [] [] ((aX lf).kids.map T.s) ((aX rt).kids.map T.s) [] [pPlan (aH q),pPlan (aH q')]=_;rw[Dv,Dv,k1,m1];rw[gU];show ∀x∈(lf.map aS).map bK++((rt.map aS).map bK++[bF (aH q),bF (aH q')]),x.1=0;intro x hx;rcases awV.1 hx with hx|hx;exact KP h3 x hx;rcases awV.1 hx with hx|hx;exact KP h4 x hx;simp at hx;rcases hx with rfl|rfl;exact k2;exact m2;intro t ht;simp at ht;rcases ht with rfl|rfl|rfl|rfl|rfl;exact rQ _ aj;exact Du h3;exact Du h4;exact k3;exact m3;obtain⟨q,q',rfl⟩:=xg h2;obtain⟨k1,k2,k3⟩:=hk q aj;obtain⟨m1,m2,m3⟩:=hk q' aj;have e':dG (kN 5 [] [] [] [] [] []++[q,q'].map aH)=dG (aS iM::[aH q,aH q']):=rfl;have hf:gu (dG (aS iM::[aH q,aH q']))=true:=rfl;rw[e',rO _ _ hf,vH _ _ hf];refine⟨?_,?_,jU ?_⟩;show Pl.mk 5 [] [] [] [] [] [] [pPlan (aH q),pPlan (aH q')]=_;rw[k1,m1];rw[gU];show ∀x∈[bF (aH q),bF (aH q')],x.1=0;intro x hx;simp at hx;rcases hx with rfl|rfl;exact k2;exact m2;intro t ht;simp at ht;rcases ht with rfl|rfl|rfl;exact rQ _ aj;exact k3;exact m3;obtain⟨q,rfl⟩:=uC h2;obtain⟨k1,k2,k3⟩:=hk q aj;have e':dG (kN 6 [] [] [] [] [] []++[q].map aH)=dG (aS dU::[aH q]):=rfl;have hf:gu (dG (aS dU::[aH q]))=true:=rfl;rw[e',rO _ _ hf,vH _ _ hf];refine⟨?_,?_,jU ?_⟩;show Pl.mk 6 [] [] [] [] [] [] [pPlan (aH q)]=_;rw[k1];rw[gU];show ∀x∈[bF (aH q)],x.1=0;intro x hx;simp at hx;rw[hx];exact k2;intro t ht;simp at ht;rcases ht with rfl|rfl;exact rQ _ aj;exact k3;obtain⟨q,rfl⟩:=uC h2;obtain⟨k1,k2,k3⟩:=hk q aj;have e':dG (kN 7 [] [] [] lf [] ag++[q].map aH)=dG (aS fB::(aX lf::(ag.map fK++[aH q]))):=rfl;have hall:(ag.map fK).all eF=true:=by rw[axN,awW];exact λa ha=>(Ey (h4 a ha)).1
 have hmap:(ag.map fK).map kS=ag:=by
  rw[awT]
  conv=>rhs;rw[<-List.map_id ag]
  exact axl λa ha=>(Ey (h4 a ha)).2.1
 have herr:∀e∈(ag.map fK).flatMap eG,e.1=0:=by intro e he;obtain⟨t,ht,he⟩:=axV.1 he;obtain⟨a,ha,rfl⟩:=aw6.1 ht;exact(Ey (h4 a ha)).2.2.1 e he
 have hfin:∀t∈ag.map fK,t.fine=true:=by intro t ht;obtain⟨a,ha,rfl⟩:=aw6.1 ht;exact(Ey (h4 a ha)).2.2.2
 generalize ag.map fK=Z at*;have ht:(aX lf::(Z++[aH q])).length-1=Z.length+1:=aj;have oO:((aX lf::(Z++[aH q])).take (Z.length+1)).drop 1=Z:=by rw[axz,ayk];rfl
 have hf:gu (dG (aS fB::(aX lf::(Z++[aH q]))))=true:=by rw[Gz _ _ aj];show (decide (2<=(aX lf::(Z++[aH q])).length)&&dP (aX lf)&&(((aX lf::(Z++[aH q])).take ((aX lf::(Z++[aH q])).length-1)).drop 1).all eF)=true;rw[ht,oO,hall,H9,ayb,ayb];exact aw5 aj
 rw[e',rO _ _ hf,vH _ _ hf];refine⟨?_,?_,jU ?_⟩;show Pl.mk 7 [] [] [] ((aX lf).kids.map T.s) [] ((((aX lf::(Z++[aH q])).take ((aX lf::(Z++[aH q])).length-1)).drop 1).map kS) (((aX lf::(Z++[aH q])).map pPlan).drop ((aX lf::(Z++[aH q])).length-1))=_;rw[ht,oO,hmap,Dv,awI,axb,awM,ayi aj,awI,awY,k1];rw[gU];show ∀x∈(aX lf).kids.map bK++((((aX lf::(Z++[aH q])).take ((aX lf::(Z++[aH q])).length-1)).drop 1).flatMap eG++((aX lf::(Z++[aH q])).map bF).drop ((aX lf::(Z++[aH q])).length-1)),x.1=0;rw[ht,oO,awI,axb,awM,ayi aj];intro x hx;rcases awV.1 hx with hx|hx;exact KP h3 x hx;rcases awV.1 hx with hx|hx;exact herr x hx;simp at hx;rw[hx];exact k2;intro t ht;rcases awN.1 ht with rfl|ht;exact rQ _ aj;rcases awN.1 ht with rfl|ht;exact Du h3;rcases awV.1 ht with ht|ht;exact hfin t ht;simp at ht;rw[ht];exact k3
mutual
theorem TJ:∀p:Pl,X5 p
 | .mk k nm es cs lf rt ag l=>Wh k nm es cs lf rt ag l (abZ l)
theorem abZ:∀l:List Pl,∀p∈l,X5 p
 | []=>λp hp=>by cases hp
 | a::l=>by intro p hp;rcases awN.1 hp with h1|h1;rw[h1];exact TJ a;exact abZ l p h1
end
theorem OL:∀l:List T,T.wU l=true->∀t∈l,t.fine=true
 | [],_,t,h=>by cases h
 | a::l,hf,t,h=>by rw[T.wU,awF]at hf;rcases awN.1 h with rfl|h;exact hf.1;exact OL l hf.2 t h
theorem vI{k:Int}{s:By}{n:Int}{l:List T}{p:Nat}(h:(T.mk k s n l p).fine=true):(k=1/\s=[]/\n=0/\∀t∈l,t.fine=true)∨(k=2/\n=0/\l=[]/\s≠[])∨(k=3/\s=[]/\l=[])∨(k=4/\n=0/\l=[]/\s.length<=40):=by
 rw[T.fine]at h;unfold iw at h;simp only[aw_,awF,awO,axq,ax7,ax0,List.isEmpty_eq_false_iff]at h;rcases h with h|((h|h)|h)
 exact .inl ⟨h.1.1.1,h.1.1.2,h.1.2,OL l h.2⟩;exact .inr (.inl ⟨h.1.1.1,h.1.2.1,h.2,h.1.1.2.1⟩);exact .inr (.inr (.inl ⟨h.1.1.1,h.1.1.2,h.2⟩));exact .inr (.inr (.inr ⟨h.1.1.1,h.1.2,h.2,h.1.1.2⟩))
theorem rU{t:T}(h:t.fine=true)(ha:t.kind=2):t.strip=aS t.s/\t.s≠[]:=by obtain⟨k,s,n,l,p⟩:=t;change k=2 at ha;subst ha;rcases vI h with h1|h1|h1|h1;exact absurd h1.1 ai;obtain⟨_,h2,h3,h4⟩:=h1;subst h2 h3;exact⟨by rw[T.jH];rfl,h4⟩;exact absurd h1.1 ai;exact absurd h1.1 ai
theorem zi{t:T}(h:t.fine=true)(ha:t.kind=1):t.strip=dG (t.kids.map T.strip)/\∀x∈t.kids,x.fine=true:=by obtain⟨k,s,n,l,p⟩:=t;change k=1 at ha;subst ha;rcases vI h with h1|h1|h1|h1;obtain⟨_,h2,h3,h4⟩:=h1;subst h2 h3;exact⟨by rw[T.jH];rfl,h4⟩;exact absurd h1.1 ai;exact absurd h1.1 ai;exact absurd h1.1 ai
mutual
theorem Dw:∀t:T,t.fine=true->(xRead t).2.1=0->xTree (xRead t).1=t.strip
 | .mk k s n l p,hf,h=>by
  have hl:=H_ l;rcases vI hf with⟨h1,h2,h3,h4⟩|⟨h1,h2,h3,_⟩|⟨h1,h2,h3⟩|⟨h1,h2,h3,_⟩
  subst h1 h2 h3;rw[Dj]at h|-
  cases l with
  | nil=>simp[kK]at h
  | cons hd q=>
   simp only at h|-;by_cases hk:(hd.kind==2&&!(bQ hd.s==0))=true;rw[if_pos hk]at h|-;by_cases hq:(q.length==bQ hd.s)=true;rw[if_pos hq]at h|-;obtain⟨h5,h6⟩:=Gq hd.s (q.map xRead) [] h;rw[h6];rw[awF,awO]at hk;have ha:=(rU (h4 hd (awL ..)) hk.1).1;rw[T.jH,awI,ha,xTree,vC,axA,awT,awT];have hm:q.map ((xTree ∘ λx:Ea=>x.1) ∘ xRead)=q.map T.strip:=axl λt ht=>hl t (awK _ ht) (h4 t (awK _ ht)) (h5 _ (aw9 ht));rw[hm];rfl;rw[if_neg hq]at h;simp[kK]at h;rw[if_neg hk]at h;simp[kK]at h
  subst h1 h2 h3;rw[ku s 0 [] p ai]at h|-;rw[if_pos (show ((2:Int)==2)=true from rfl)]at h|-;by_cases hn:jO s=true;rw[if_pos hn,T.jH];rfl;rw[if_neg hn]at h;simp[kK]at h;subst h1 h2 h3;rw[ku [] n [] p ai,T.jH];rfl;subst h1 h2 h3;rw[ku s 0 [] p ai,T.jH];rfl
theorem H_:∀l:List T,∀t∈l,t.fine=true->(xRead t).2.1=0->xTree (xRead t).1=t.strip
 | [],t,h=>by cases h
 | a::l,t,h=>by rcases awN.1 h with h1|h1;rw[h1];exact Dw a;exact H_ l t h1
end
theorem BB{t:T}(h:t.fine=true)(ha:dP t=true):t.strip=aX (t.kids.map T.s)/\∀s∈t.kids.map T.s,s≠[]:=by unfold dP dB at ha;rw[awF,awO,awW]at ha;obtain⟨h1,h2⟩:=zi h ha.1;refine⟨?_,λs hs=>?_⟩;rw[h1];unfold aX;rw[awT];exact axc dG (axl λx hx=>(rU (h2 x hx) (by simpa using ha.2 x hx)).1);obtain⟨x,hx,rfl⟩:=aw6.1 hs;exact(rU (h2 x hx) (by simpa using ha.2 x hx)).2
theorem Wi{l:List T}(h:l.length=2):l=[at_ l 0,at_ l 1]:=by
 match l,h with
 | [a,b],_=>rfl
theorem ab1{l:List T}(h:l.length=3):l=[at_ l 0,at_ l 1,at_ l 2]:=by
 match l,h with
 | [a,b,c],_=>rfl
theorem Zo{t:T}(h:t.fine=true)(ha:fC t=true)(he:(kC (at_ t.kids 1)).1=0):t.strip=b_ (rH t) (rJ t):=by
 unfold fC dB at ha;simp only[awF,awO]at ha;obtain⟨h1,h2⟩:=zi h ha.1.1;have hk:=Wi ha.1.2;have m0:at_ t.kids 0∈t.kids:=by rw[hk];simp
 have m1:at_ t.kids 1∈t.kids:=by rw[hk];simp
 rw[h1,hk,awI,awI,awY,(rU (h2 _ m0) ha.2).1,<-Dw _ (h2 _ m1) he];rfl
theorem Zp{t:T}(h:t.fine=true)(ha:eF t=true):t.strip=fK (kS t):=by
 unfold eF at ha;simp only[awF,aw_,awO]at ha;obtain⟨h1,h2⟩:=BB h ha.1;rw[h1];rcases ha.2 with hl|hl;have hk:=Wi hl;unfold fK kS aX;rw[hl];rw[hk];rfl;have hk:=ab1 hl;have hne:(at_ t.kids 2).s≠[]:=h2 _ (by rw[hk];simp);unfold fK kS aX;rw[hl];simp only[axe,aw4];rw[show (at_ t.kids 2).s.isEmpty=false by
  cases hc:(at_ t.kids 2).s with
  | nil=>exact absurd hc hne
  | cons _ _=>rfl]
 conv=>lhs;rw[hk]
 rfl
theorem zk{t:T}(h:(bK t).1=0):jO t.s=true:=by unfold bK at h;split at h;assumption;cases h
theorem X6{t:T}(ht:t.every J9=true)(hf:t.every dh=true)(h:(kC t).1=0):wY (xRead t).1:=⟨Hq t h,Hm t ht,J_ t hf,(OD t h).1⟩
theorem Am(s:By):(gq s=1/\s=gY)∨(gq s=2/\s=eP)∨(gq s=3/\s=cZ)∨(gq s=4/\s=iD)∨(gq s=5/\s=iM)∨(gq s=6/\s=dU)∨(gq s=7/\s=fB)∨gq s=0:=by by_cases h1:s=gY;exact .inl ⟨by rw[h1];decide+kernel,h1⟩;by_cases h2:s=eP;exact .inr (.inl ⟨by rw[h2];decide+kernel,h2⟩);by_cases h3:s=cZ;exact .inr (.inr (.inl ⟨by rw[h3];decide+kernel,h3⟩));by_cases h4:s=iD;exact .inr (.inr (.inr (.inl ⟨by rw[h4];decide+kernel,h4⟩)));by_cases h5:s=iM;exact .inr (.inr (.inr (.inr (.inl ⟨by rw[h5];decide+kernel,h5⟩))));by_cases h6:s=dU;exact .inr (.inr (.inr (.inr (.inr (.inl ⟨by rw[h6];decide+kernel,h6⟩)))));by_cases h7:s=fB;exact .inr (.inr (.inr (.inr (.inr (.inr (.inl ⟨by rw[h7];decide+kernel,h7⟩))))));refine .inr (.inr (.inr (.inr (.inr (.inr (.inr ?_))))));unfold gq;simp[h1,h2,h3,h4,h5,h6,h7]
theorem ab2{t:T}(h:t.fine=true)(ha:eF t=true)(he:∀e∈eG t,e.1=0):KC (kS t):=by
 unfold eG at he;have e0:=he _ (awL ..);have e1:=he _ (awK _ (awL ..));have e2:=he _ (awK _ (awK _ (awL ..)));have hfn:isFun (at_ t.kids 1).s (t.kids.length==3)=true:=by
  cases hc:isFun (at_ t.kids 1).s (t.kids.length==3)
  rw[hc]at e1;simp at e1;rfl
 refine⟨zk e0,?_⟩;unfold kS;unfold isFun at hfn;by_cases h3:(t.kids.length==3)=true;rw[h3]at hfn e2;rw[if_pos rfl]at e2;simp only[h3,aw4];refine .inr ⟨?_,zk e2⟩;by_cases hs:((at_ t.kids 1).s==kR||(at_ t.kids 1).s==oU||(at_ t.kids 1).s==oV)=true;simp only[aw_,awO]at hs;rcases hs with (hs|hs)|hs;exact .inl hs;exact .inr (.inl hs);exact .inr (.inr hs);rw[if_neg hs]at hfn;by_cases hc:((at_ t.kids 1).s==gK)=true;rw[if_pos hc]at hfn;cases hfn;rw[if_neg hc]at hfn;cases hfn;have h3':(t.kids.length==3)=false:=by simpa using h3
 rw[h3']at hfn;simp only[h3',awP,aw7];refine .inl ⟨?_,trivial⟩;by_cases hs:((at_ t.kids 1).s==kR||(at_ t.kids 1).s==oU||(at_ t.kids 1).s==oV)=true;rw[if_pos hs]at hfn;cases hfn;rw[if_neg hs]at hfn;by_cases hc:((at_ t.kids 1).s==gK)=true;exact awO.1 hc;rw[if_neg hc]at hfn;cases hfn
def FwP(t:T):Prop:=t.fine=true->(bF t).1=0->aH (pPlan t)=t.strip/\(pPlan t).good
theorem TK{α:Type}{l:List α}(h:1<=l.length):∃c z,l=c++[z]:=by
 have hne:l≠[]:=λe=>by rw[e]at h;simp at h
 exact⟨l.dropLast,l.getLast hne,(List.dropLast_concat_getLast hne).symm⟩
theorem ab3(k:Int)(s:By)(n:Int)(l:List T)(p:Nat)(hl:∀x∈l,FwP x):FwP (.mk k s n l p):=by
 intro hfi he;have hf:gu (.mk k s n l p)=true:=by
  cases hc:gu (.mk k s n l p) with
  | true=>rfl
  | false=>rw[bF,hc]at he;simp at he
 rw[bF,if_pos hf,Bi,gU]at he;rw[pPlan,if_pos hf,zg];have hf2:k=1/\2<=l.length/\(at_ l 0).kind=2/\pFormOf (gq (at_ l 0).s) (l.drop 1)=true:=by unfold gu at hf;rw[awF,awF,awF,awO,axq]at hf;exact⟨hf.1.1.1,hf.1.1.2,awO.1 hf.1.2,hf.2⟩
 obtain⟨rfl,h2,h3,h4⟩:=hf2;obtain⟨hst,hfk⟩:=zi hfi rfl
 cases l with
 | nil=>simp at h2
 | cons a q=>
  rw[hst];have ha:a.strip=aS a.s:=(rU (hfk a (awL ..)) h3).1;have hq:∀x∈q,x.fine=true:=λx hx=>hfk x (awK _ hx);have IA:∀x∈q,(bF x).1=0->aH (pPlan x)=x.strip/\(pPlan x).good:=λx hx h=>hl x (awK _ hx) (hq x hx) h;have hex:∀x∈q,(kC x).1=0->wY (xRead x).1/\xTree (xRead x).1=x.strip:=λx hx h=>⟨X6 (jT x (hq x hx)).2 (jT x (hq x hx)).1 h,Dw x (hq x hx) h⟩
  change aH (pMake (gq a.s) q (q.map pPlan))=dG (a.strip::q.map T.strip)/\(pMake (gq a.s) q (q.map pPlan)).good;change pFormOf (gq a.s) q=true at h4;change ∀e∈zh (gq a.s) q (q.map bF),e.1=0 at he;rw[ha];rcases Am a.s with⟨hk,hs⟩|⟨hk,hs⟩|⟨hk,hs⟩|⟨hk,hs⟩|⟨hk,hs⟩|⟨hk,hs⟩|⟨hk,hs⟩|hk;rw[hk]at h4 he|-;rw[hs];have h5:(q.length==1&&dB (at_ q 0))=true:=h4;rw[awF,awO]at h5;obtain⟨y,rfl⟩:=uC h5.1;have hy:=(rU (hq y (awL ..)) (awO.1 h5.2)).1;have hn:=zk (he (bK y) (awL ..));exact⟨by
   show dG ([aS gY,aS y.s]++[])=dG (aS gY::[y.strip]);rw[hy];rfl,.inl ⟨rfl,hn,rfl,rfl,rfl,rfl,rfl,rfl⟩,trivial⟩
  rw[hk]at h4 he|-;rw[hs];have h5:(q.length==2)=true:=h4;rw[awO]at h5;obtain⟨x,y,rfl⟩:=xg h5;obtain⟨g1,g2⟩:=hex x (awL ..) (he (kC x) (awL ..));obtain⟨g3,g4⟩:=IA y (awK _ (awL ..)) (he (bF y) (awK _ (awL ..)));refine⟨?_,.inr (.inl ⟨rfl,rfl,⟨_,rfl,g1⟩,rfl,rfl,rfl,rfl,rfl⟩),g4,trivial⟩;show dG (aS eP::[xTree (xRead x).1]++[aH (pPlan y)])=_;rw[g2,g3];rfl;rw[hk]at h4 he|-;rw[hs];have h5:(decide (2<=q.length)&&(q.take (q.length-1)).all fC)=true:=h4;rw[awF,axq]at h5;obtain⟨c,z,rfl⟩:=TK (l:=q) ae;have hlen:(c++[z]).length-1=c.length:=aj;have oO:(c++[z]).take ((c++[z]).length-1)=c:=by rw[hlen,List.take_left'];rfl
  have hdr:∀{α:Type} (f:T->α),((c++[z]).map f).drop ((c++[z]).length-1)=[f z]:=λf=>by rw[hlen,awM,ayi (by rw[awD])];rfl
  rw[oO,awW]at h5;have J6:∀e∈c.flatMap eQ++[bF z],e.1=0:=by have h6:∀e∈((c++[z]).take ((c++[z]).length-1)).flatMap eQ++((c++[z]).map bF).drop ((c++[z]).length-1),e.1=0:=he;rwa [oO,hdr]at h6
  have hc:∀x∈c,(bK (at_ x.kids 0)).1=0/\(kC (at_ x.kids 1)).1=0:=λx hx=>⟨J6 _ (awZ _ (axV.2 ⟨x,hx,awL ..⟩)),J6 _ (awZ _ (axV.2 ⟨x,hx,awK _ (awL ..)⟩))⟩
  obtain⟨g3,g4⟩:=IA z (axo _ (awL ..)) (J6 _ (axo _ (awL ..)));have hcs:c.map (λx=>b_ (rH x) (rJ x))=c.map T.strip:=axl λx hx=>(Zo (hq x (awZ _ hx)) (h5.2 x hx) (hc x hx).2).symm;have hkf:∀x∈c,(at_ x.kids 1).fine=true:=λx hx=>by have wH:=h5.2 x hx;unfold fC at wH;simp only[awF,awO]at wH;have hk2:=Wi wH.1.2;exact(zi (hq x (awZ _ hx)) wH.1.1).2 _ (by rw[hk2];simp)
  have hmk:pMake 3 (c++[z]) ((c++[z]).map pPlan)=.mk 3 [] (c.map rJ) (c.map rH) [] [] [] [pPlan z]:=by show Pl.mk 3 [] (((c++[z]).take ((c++[z]).length-1)).map rJ) (((c++[z]).take ((c++[z]).length-1)).map rH) [] [] [] (((c++[z]).map pPlan).drop ((c++[z]).length-1))=_;rw[oO,hdr]
  rw[hmk];refine⟨?_,.inr (.inr (.inl ⟨rfl,rfl,λe he=>?_,by rw[awD,awD],by rw[awD];have:=h5.1;simp at this;omega,λs hs=>?_,rfl,rfl,rfl,rfl⟩)),g4,trivial⟩;show dG ((aS cZ::List.zipWith b_ (c.map rH) (c.map rJ))++[aH (pPlan z)])=_;rw[List.zipWith_map,List.zipWith_self,hcs,g3,awM];rfl;obtain⟨x,hx,rfl⟩:=aw6.1 he;exact X6 (jT _ (hkf x hx)).2 (jT _ (hkf x hx)).1 (hc x hx).2;obtain⟨x,hx,rfl⟩:=aw6.1 hs;exact zk (hc x hx).1;rw[hk]at h4 he|-;rw[hs];have h5:(q.length==4&&(q.take 2).all dP)=true:=h4;rw[awF,awO]at h5
  match q,h5.1 with
  | [x,y,u,v],_=>
   have h6:(dP x&&(dP y&&true))=true:=h5.2;rw[awF,awF]at h6;have J6:∀e∈x.kids.map bK++(y.kids.map bK++[bF u,bF v]),e.1=0:=he;obtain⟨g1,g2⟩:=IA u aj (J6 _ aj);obtain⟨g3,g4⟩:=IA v aj (J6 _ aj);have hx:=(BB (hq x aj) h6.1).1;have hy:=(BB (hq y aj) h6.2.1).1;refine⟨?_,.inr (.inr (.inr (.inl ⟨rfl,rfl,rfl,rfl,λs hs=>?_,λs hs=>?_,rfl,rfl⟩))),g2,g4,trivial⟩;show dG ([aS iD,aX (x.kids.map T.s),aX (y.kids.map T.s)]++[aH (pPlan u),aH (pPlan v)])=_;rw[<-hx,<-hy,g1,g3];rfl;obtain⟨z,hz,rfl⟩:=aw6.1 hs;exact zk (J6 _ (awZ _ (aw9 hz)));obtain⟨z,hz,rfl⟩:=aw6.1 hs;exact zk (J6 _ (axo _ (awZ _ (aw9 hz))))
  rw[hk]at h4 he|-;rw[hs];have h5:(q.length==2)=true:=h4;rw[awO]at h5;obtain⟨x,y,rfl⟩:=xg h5;obtain⟨g1,g2⟩:=IA x aj (he (bF x) (awL ..));obtain⟨g3,g4⟩:=IA y aj (he (bF y) (awK _ (awL ..)));refine⟨?_,.inr (.inr (.inr (.inr (.inl ⟨rfl,rfl,rfl,rfl,rfl,rfl,rfl,rfl⟩)))),g2,g4,trivial⟩;show dG ([aS iM]++[aH (pPlan x),aH (pPlan y)])=_;rw[g1,g3];rfl;rw[hk]at h4 he|-;rw[hs];have h5:(q.length==1)=true:=h4;rw[awO]at h5;obtain⟨x,rfl⟩:=uC h5;obtain⟨g1,g2⟩:=IA x aj (he (bF x) (awL ..));refine⟨?_,.inr (.inr (.inr (.inr (.inr (.inl ⟨rfl,rfl,rfl,rfl,rfl,rfl,rfl,rfl⟩))))),g2,trivial⟩;show dG ([aS dU]++[aH (pPlan x)])=_;rw[g1];rfl;rw[hk]at h4 he|-;rw[hs];have h5:(decide (2<=q.length)&&dP (at_ q 0)&&((q.take (q.length-1)).drop 1).all eF)=true:=h4;rw[awF,awF,axq]at h5;obtain⟨x,r,rfl⟩:∃x r,q=x::r:=by
   cases q with
   | nil=>simp at h5
   | cons x r=>exact⟨x,r,rfl⟩
  obtain⟨c,z,rfl⟩:=TK (l:=r) (by have:=h5.1.1;simp at this;omega);have hlen:(x::(c++[z])).length-1=c.length+1:=aj;have oO:((x::(c++[z])).take ((x::(c++[z])).length-1)).drop 1=c:=by rw[hlen,axz,axb,axE,List.take_left'];rfl
  have hdr:∀{α:Type} (f:T->α),((x::(c++[z])).map f).drop ((x::(c++[z])).length-1)=[f z]:=λf=>by rw[hlen,awI,axb,awM,ayi (by rw[awD])];rfl
  rw[oO,awW]at h5;have J6:∀e∈x.kids.map bK++(c.flatMap eG++[bF z]),e.1=0:=by have h6:∀e∈x.kids.map bK++((((x::(c++[z])).take ((x::(c++[z])).length-1)).drop 1).flatMap eG++((x::(c++[z])).map bF).drop ((x::(c++[z])).length-1)),e.1=0:=he;rwa [oO,hdr]at h6
  obtain⟨g3,g4⟩:=IA z aj (J6 _ aj);have hx:=(BB (hq x aj) h5.1.2).1;have hcs:(c.map kS).map fK=c.map T.strip:=by rw[awT];exact axl λy hy=>(Zp (hq y (by simp[hy])) (h5.2 y hy)).symm
  have hmk:pMake 7 (x::(c++[z])) ((x::(c++[z])).map pPlan)=.mk 7 [] [] [] (x.kids.map T.s) [] (c.map kS) [pPlan z]:=by show Pl.mk 7 [] [] [] (x.kids.map T.s) [] ((((x::(c++[z])).take ((x::(c++[z])).length-1)).drop 1).map kS) (((x::(c++[z])).map pPlan).drop ((x::(c++[z])).length-1))=_;rw[oO,hdr]
  rw[hmk];refine⟨?_,.inr (.inr (.inr (.inr (.inr (.inr ⟨rfl,rfl,rfl,rfl,λs hs=>?_,rfl,λa ha=>?_,rfl⟩))))),g4,trivial⟩;show dG ((aS fB::aX (x.kids.map T.s)::(c.map kS).map fK)++[aH (pPlan z)])=_;rw[<-hx,hcs,g3,awI,awM];rfl;obtain⟨y,hy,rfl⟩:=aw6.1 hs;exact zk (J6 _ (awZ _ (aw9 hy)));obtain⟨y,hy,rfl⟩:=aw6.1 ha;exact ab2 (hq y (by simp[hy])) (h5.2 y hy) λe he=>J6 _ (axo _ (awZ _ (axV.2 ⟨y,hy,he⟩)));rw[hk]at h4
  cases h4
mutual
theorem akj:∀t:T,FwP t
 | .mk k s n l p=>ab3 k s n l p (agj l)
theorem agj:∀l:List T,∀t∈l,FwP t
 | []=>λt h=>by cases h
 | a::l=>by intro t h;rcases awN.1 h with h1|h1;rw[h1];exact akj a;exact agj l t h1
end
end Go.Proofs.YtpbfokkocaemlaaGreatDoor
