import Derived.Test.YtpbfokkocaemlaaGreatDoorZ23S
import Derived.Test.YtpbfokkocaemlaaGreatDoorZ24S
set_option linter.unusedVariables false
set_option maxRecDepth 100000
set_option maxHeartbeats 64000000
namespace Go.Proofs.YtpbfokkocaemlaaGreatDoor
open Go.RowKit
open Go.Lib renaming hid → zq
theorem MV {p:UInt8→Bool} {c:UInt8} {q:By} (h:p c=true):(c::q).take (sxRun p (c::q))=c::q.take (sxRun p q):=by simp[sxRun,h]
theorem MW (c:UInt8) (q:By) (hq:q.length≤600) (h:(bF (c::q)).why=0):
  ((bF (c::q)).kind=1∧(bF (c::q)).s=[]∧(bF (c::q)).n=0)∨(bF (c::q)).kind=-1∨gJ (bF (c::q)).kind (bF (c::q)).s (bF (c::q)).n []=true:=by
 revert h
 simp only[bF];split;exact fun _=>.inl ⟨rfl,rfl,rfl⟩;split;exact fun _=>.inr (.inl rfl);split;intro h;have h1:=CU q.length q [] 1 (att _);have h2:=Io q.length q [] 1 (att _);have h3:=((kH q.length q [] 1 (att _)).2 h).1;right;right;rw[h2,h3];unfold gJ;simp[h1];split;simp only[dI];split;intro h;have h1:=G7 false (dE q) (eH q);have h2:=((kD false (dE q) (eH q)).2 h).1;right;right;rw[h1.2,h2];have h3:=h1.1;unfold yL at h3;unfold gJ;simp[h3];intro h;have h1:=G7 true (dE (c::q)) (eH (c::q));have h2:=((kD true (dE (c::q)) (eH (c::q))).2 h).1;right;right;rw[h1.2,h2];have h3:=h1.1;unfold yL at h3;unfold gJ;simp[h3];split;rename_i hl;intro _;right;right;rw[MV hl];have hall:(c::q.take (sxRun bf q)).all bf=true:=by rw[←MV hl,atL];exact D9 bf (c::q)
 have hlen:(c::q.take (sxRun bf q)).length≤1000:=by simp only[atF,aua];omega
 unfold gJ;rw[hall,atX hlen];rfl;intro h;simp[aV]at h
theorem Ug (c:UInt8) (q:By) (h:(c.toNat==41)=false):(bF (c::q)).kind≠-1:=by simp only[bF,h,atE,if_false];split;intro h1;cases h1;split;intro h1;by_cases QC:(sxTextGo [] q 1).why=0;rw[((kH q.length q [] 1 (att _)).2 QC).1]at h1;cases h1;rw[((kH q.length q [] 1 (att _)).1 QC).1]at h1;cases h1;split;simp only[dI];split;intro h1;by_cases QC:(sxNum false (dE q)).why=0;rw[((kD false (dE q) (eH q)).2 QC).1]at h1;cases h1;rw[((kD false (dE q) (eH q)).1 QC).1]at h1;cases h1;intro h1;by_cases QC:(sxNum true (dE (c::q))).why=0;rw[((kD true (dE (c::q)) (eH (c::q))).2 QC).1]at h1;cases h1;rw[((kD true (dE (c::q)) (eH (c::q))).1 QC).1]at h1;cases h1;split;intro h1;cases h1;intro h1;cases h1
def InvAt:Nat→List T→Prop
 | _,[]=>True
 | j,e::os=>(j=0∨(e.kind=1∧e.s=[]∧e.n=0∧j≤12))∧(∀k∈e.kids,k.fine=true∧j+k.deep≤12)∧InvAt (j+1) os
theorem Ox:∀(os:List T) (j:Nat) (t:T),InvAt j os→t.fine=true→j+os.length+t.deep≤13→InvAt j (sxPut os t)
 | [],j,t,h,_,_=>trivial
 | [e],j,t,h,ht,hd=>by refine⟨h.1.imp id fun h=>h,fun k hk=>?_,trivial⟩;rw[T.Qg]at hk;rcases atK.1 hk with h1|h1;exact h.2.1 k h1;simp at h1;subst h1;simp at hd;exact⟨ht,by omega⟩
 | e::e'::os,j,t,h,ht,hd=>by refine⟨h.1,h.2.1,Ox (e'::os) (j+1) t h.2.2 ht ?_⟩;simp only[atF]at hd⊢;omega
theorem IQ:∀(os:List T) (j:Nat) (e:T),InvAt j (os++[e])↔(InvAt j os∧InvAt (j+os.length) [e])
 | [],j,e=>by simp[InvAt]
 | a::os,j,e=>by simp only[aue,InvAt,IQ os (j+1) e,atF];rw[show j+1+os.length=j+(os.length+1) by omega];constructor;rintro⟨h1,h2,h3,h4⟩;exact⟨⟨h1,h2,h3⟩,h4⟩;rintro⟨⟨h1,h2,h3⟩,h4⟩;exact⟨h1,h2,h3,h4⟩
theorem QD:∀(l:List T) (d:Nat),(∀k∈l,k.deep≤d)→T.nP l≤d
 | [],d,_=>by simp[T.nP]
 | a::l,d,h=>by have h1:=h a (atz ..);have h2:=QD l d fun k hk=>h k (aty _ hk);rw[T.nP];omega
theorem Eu:∀l:List T,T.ve l=l.all T.fine
 | []=>rfl
 | t::l=>by simp[T.ve,Eu l]
theorem abQ (os:List T) (e:T) (h0:os≠[]) (h:InvAt 0 (os++[e])):InvAt 0 (sxPut os e):=by
 obtain⟨h1,h2,h3,_⟩:=(IQ os 0 e).1 h;have hpos:0<os.length:=by cases os with|nil=>exact absurd rfl h0|cons a b=>simp
 rcases h2 with h2|⟨k1,k2,k3,k4⟩
 omega;rw[atT]at h3 k4;refine Ox os 0 e h1 ?_ ?_;cases e with
 | mk k s n l p=>
  simp only[T.kind,T.s,T.n]at k1 k2 k3;subst k1;subst k2;subst k3;rw[T.fine,Eu];have:l.all T.fine=true:=atL.2 fun x hx=>(h3 x hx).1;rw[this];rfl
 cases e with
 | mk k s n l p=>
  simp only[T.kind]at k1;subst k1;rw[T.deep,if_pos rfl];have:=QD l (12 - os.length) fun x hx=>by have:=(h3 x hx).2;omega
  omega
theorem QE (os:List T) (pos:Nat) (h:InvAt 0 os) (hl:os.length≤12):InvAt 0 (os++[.mk 1 [] 0 [] pos]):=by refine (IQ os 0 _).2 ⟨h,.inr ⟨rfl,rfl,rfl,by omega⟩,(fun k hk=>by cases hk),trivial⟩
theorem Xa {k:Int} {s:By} {n:Int} {p:Nat} (h:gJ k s n []=true):(T.mk k s n [] p).fine=true∧(T.mk k s n [] p).deep=0∧k≠1∧k≠-1:=by obtain⟨c,q,h1,h2,h3,h4,h5,_⟩:=Em (p:=p) h (r:=[]) (.inl rfl);have h4':=atp.1 h4;refine⟨by rw[T.fine,h,Bool.or_true],by rw[T.deep,if_neg h4'],h4',atp.1 h5⟩
def Ew (r:Res):Prop:=r.2.1=0→r.1.fine=true∧r.1.deep≤12∧r.1.size≤601
theorem iU {t:T} {why:Int} {pos:Nat} (h:why≠0):Ew (t,why,pos):=fun h0=>absurd h0 h
theorem FK (os:List T) (pos:Nat) (h:InvAt 0 os) (hs:(os.map T.size).sum≤601):Ew (jT os pos):=by
 unfold jT
 cases os with
 | nil=>exact iU (by decide)
 | cons e os=>
  cases hk:e.kids with
  | nil=>simp only[hk];exact iU (by decide)
  | cons t l=>
   simp only[hk];intro _;have h1:=h.2.1 t (by rw[hk];exact atz ..);have:=T.size_eq e;rw[hk]at this;simp only[atx,auo]at this hs;exact⟨h1.1,(by show t.deep≤12;omega),(by show t.size≤601;omega)⟩
theorem Zi {os:List T} (h:os≠[]) (t:T):sxPut os t≠[]:=by
 intro h2;have:=tq os t;rw[h2]at this
 cases os with
 | nil=>exact h rfl
 | cons a b=>simp at this
theorem Bi (os:List T) (x:Tk) (pos:Nat) (h0:os≠[]) (h:InvAt 0 os) (h13:os.length≤13) (hx:(x.kind=1∧x.s=[]∧x.n=0)∨x.kind=-1∨gJ x.kind x.s x.n []=true) (h1:x.kind=-1→os.length≠1) (h2:x.kind=1→os.length≤12):
  sxTake os (x.tree pos)≠[]∧InvAt 0 (sxTake os (x.tree pos))∧(sxTake os (x.tree pos)).length≤13∧((sxTake os (x.tree pos)).map T.size).sum≤(os.map T.size).sum+1:=by
 rcases hx with⟨k1,k2,k3⟩|k1|k1;have e:sxTake os (x.tree pos)=os++[.mk 1 [] 0 [] pos]:=by unfold sxTake Tk.tree;simp[T.kind,k1,k2,k3]
 rw[e];refine⟨by simp,QE os pos h (h2 k1),by have:=h2 k1;simp;omega,by simp[T.size,T.sizes]⟩;have e:sxTake os (x.tree pos)=rfPop os:=by unfold sxTake Tk.tree rfPop;simp only[T.kind,k1];rfl
 rw[e];have hsum:=VJ os;unfold rfPop at hsum⊢
 cases hl:os.getLast? with
 | none=>
  rw[List.getLast?_eq_none_iff]at hl;exact absurd hl h0
 | some y=>
  rw[au']at hl;obtain⟨l,rfl⟩:=hl;simp only[List.dropLast_concat,List.getLast?_concat]at hsum⊢;have hl0:l≠[]:=by rintro rfl;exact h1 k1 rfl
  refine⟨Zi hl0 y,abQ l y hl0 h,?_,by omega⟩;rw[tq];simp at h13;omega
 obtain⟨f1,f2,f3,f4⟩:=Xa (p:=pos) k1;have e:sxTake os (x.tree pos)=sxPut os (.mk x.kind x.s x.n [] pos):=by unfold sxTake Tk.tree;simp[T.kind,f3,f4]
 rw[e];have hp:=G8 os (.mk x.kind x.s x.n [] pos);have hz:(T.mk x.kind x.s x.n [] pos).size=1:=rfl;refine⟨Zi h0 _,Ox os 0 _ h f1 (by rw[f2];omega),by rw[tq];exact h13,by omega⟩
theorem IU:∀(f:Nat) (os:List T) (r:By) (pos:Nat),os≠[]→InvAt 0 os→os.length≤13→(os.map T.size).sum≤pos+1→pos+r.length≤600→Ew (sxGo f os r pos)
 | 0,_,_,_,_,_,_,_,_=>iU (by decide)
 | f+1,os,r,pos,h0,h,h13,hs,hp=>by
  unfold sxGo;have hrl:=jr dA r;have Ye:(r.drop (sxRun dA r)).length=r.length - sxRun dA r:=at1 ..
  cases hd:r.drop (sxRun dA r) with
  | nil=>exact FK os _ h (by omega)
  | cons c q=>
   simp only;rw[hd]at Ye;simp only[atF]at Ye;split;rename_i hj;have A8:=wI c q;obtain⟨j1,j2,j3,j4⟩:=Ie A8 (by simpa using hj);have hg:=A8.good j1;have nU:=MW c q (by omega) j1;generalize bF (c::q)=x at*;obtain⟨t1,t2,t3,t4⟩:=Bi os x (pos+sxRun dA r) h0 h h13 nU j2 j4;refine IU f _ _ _ t1 t2 t3 (by have:=hg.1;omega) ?_;rw[at1,atF];have:=hg.2.1;simp only[atF]at this;omega;rename_i hj;exact iU (by simpa using hj)
theorem IV (l:By):Ew (eF l):=by unfold eF;split;exact iU (by decide);exact IU _ _ _ _ (by simp) ⟨.inl rfl,(fun k hk=>by cases hk),trivial⟩ (by simp) (by decide+kernel) (by omega)
theorem uh:∀(f:Nat) (os:List T) (r:By) (pos:Nat),os≠[]→InvAt 0 os→os.length≤13→(os.map T.size).sum≤pos+1→pos+r.length≤600→Ew (rfGo f os r pos)
 | 0,_,_,_,_,_,_,_,_=>iU (by decide)
 | f+1,os,[],pos,h0,h,h13,hs,hp=>by unfold rfGo G5;split;exact iU (by decide);exact FK _ _ h (by simp at hp;omega)
 | f+1,os,c::q,pos,h0,h,h13,hs,hp=>by
  simp only[atF]at hp;unfold rfGo;split;exact uh f _ _ _ h0 h h13 (by omega) (by omega);split;split;exact iU (by decide);rename_i YF KT;obtain⟨t1,t2,t3,t4⟩:=Bi os ⟨-1,[],0,1,0,0⟩ pos h0 h h13 (.inr (.inl rfl)) (fun _=>by simpa using KT) (fun h=>by cases h);have e:sxTake os ((Tk.mk (-1) [] 0 1 0 0).tree pos)=rfPop os:=rfl;rw[e]at t1 t2 t3 t4;exact uh f _ _ _ t1 t2 t3 (by omega) (by omega);split;exact iU (by decide);split;exact iU (by decide);split;split;exact iU (by decide);rename_i h12;refine uh f _ _ _ (by simp) (QE os pos h (by omega)) (by simp;omega) ?_ (by omega);simp[T.size,T.sizes];omega;split;rename_i Gq hw;have YF:¬(c.toNat==41)=true:=by assumption
  have hw':(bF (c::q)).why=0:=by simpa using hw
  have hg:=(wI c q).good hw';have nU:=MW c q (by omega) hw';have hk:(bF (c::q)).kind≠1∧(bF (c::q)).kind≠-1:=by
   constructor;intro h1;rcases hg.2.2 with⟨_,h2⟩|h2|⟨h2,_⟩|⟨h2,_⟩|⟨h2,_⟩
   rw[h2]at Gq;exact absurd rfl Gq;rw[h1]at h2;cases h2;rw[h1]at h2;cases h2;rw[h1]at h2;cases h2;rw[h1]at h2;cases h2;exact Ug c q (by simpa using YF)
  generalize bF (c::q)=x at*;obtain⟨t1,t2,t3,t4⟩:=Bi os x pos h0 h h13 nU (fun h=>absurd h hk.2) (fun h=>absurd h hk.1);have e:sxTake os (x.tree pos)=sxPut os (x.tree pos):=by unfold sxTake Tk.tree;simp[T.kind,hk.1,hk.2]
  rw[e]at t1 t2 t3 t4;refine uh f _ _ _ t1 t2 t3 (by have:=hg.1;omega) ?_;rw[at1,atF];have:=hg.2.1;simp only[atF]at this;omega;rename_i hw;exact iU (by simpa using hw)
theorem CW (l:By):Ew (dB l):=by unfold dB;split;exact iU (by decide);exact uh _ _ _ _ (by simp) ⟨.inl rfl,(fun k hk=>by cases hk),trivial⟩ (by simp) (by decide+kernel) (by omega)
mutual
theorem jl:∀t:T,t.fine=true→t.every bZ=true∧t.every IK=true
 | .mk k s n l p,h=>by
  have hl:=IW l;have Cf:yL 0:=by decide
  rw[T.fine,atZ]at h;rw[T.every,T.every];rcases h with h|h;simp only[atu,atH,au4]at h;obtain⟨⟨⟨rfl,rfl⟩,rfl⟩,h4⟩:=h;obtain⟨h5,h6⟩:=hl h4;rw[h5,h6,qR Cf (by simp)];exact⟨rfl,rfl⟩;unfold gJ at h;simp only[atZ,atu,atH,aun,auV,au4,atL]at h;rcases h with (⟨⟨⟨rfl,hs,_⟩,rfl,h1⟩,rfl⟩|⟨⟨⟨rfl,rfl⟩,h1,h2⟩,rfl⟩)|⟨⟨⟨rfl,hs⟩,rfl⟩,rfl⟩
  rw[qR Cf (by omega)];exact⟨rfl,rfl⟩;rw[qR ⟨h1,h2⟩ (by simp)];exact⟨rfl,rfl⟩;rw[qR Cf (by omega)];refine⟨rfl,?_⟩;unfold IK;simp[T.kind,T.s,hs,T.everys]
theorem IW:∀l:List T,T.ve l=true→T.everys bZ l=true∧T.everys IK l=true
 | [],_=>⟨rfl,rfl⟩
 | t::l,h=>by rw[T.ve,atu]at h;have h1:=jl t h.1;have h2:=IW l h.2;rw[T.everys,T.everys,h1.1,h1.2,h2.1,h2.2];exact⟨rfl,rfl⟩
end
abbrev Ag:=By×By×By
inductive Pl where
 | mk (kind:Int) (name:By) (exprs:List T) (cols left right:List By) (Ez:List Ag) (kids:List Pl):Pl
def Pl.kind:Pl→Int
 | .mk k _ _ _ _ _ _ _=>k
def Pl.name:Pl→By
 | .mk _ s _ _ _ _ _ _=>s
def Pl.exprs:Pl→List T
 | .mk _ _ l _ _ _ _ _=>l
def Pl.cols:Pl→List By
 | .mk _ _ _ l _ _ _ _=>l
def Pl.left:Pl→List By
 | .mk _ _ _ _ l _ _ _=>l
def Pl.right:Pl→List By
 | .mk _ _ _ _ _ l _ _=>l
def Pl.Ez:Pl→List Ag
 | .mk _ _ _ _ _ _ l _=>l
def Pl.kids:Pl→List Pl
 | .mk _ _ _ _ _ _ _ l=>l
def gQ:Pl:=.mk 0 [] [] [] [] [] [] []
def gq:By:=[116,97,98,108,101]
def dL:By:=[102,105,108,116,101,114]
def bM:By:=[112,114,111,106,101,99,116]
def gU:By:=[106,111,105,110]
def fP:By:=[117,110,105,111,110]
def dw:By:=[100,105,115,116,105,110,99,116]
def dY:By:=[103,114,111,117,112]
def iH:By:=[99,111,117,110,116]
def uj:By:=[115,117,109]
def uk:By:=[109,105,110]
def um:By:=[109,97,120]
def aN (s:By):T:=.mk 2 s 0 [] 0
def bU (l:List T):T:=.mk 1 [] 0 l 0
def aU (l:List By):T:=bU (l.map aN)
def eQ (a:Ag):T:=bU (if a.2.2.isEmpty then [aN a.1,aN a.2.1] else [aN a.1,aN a.2.1,aN a.2.2])
def bG (c:By) (e:T):T:=bU [aN c,xTree e]
def jL (k:Int) (nm:By) (es:List T) (cs lf rt:List By) (ag:List Ag):List T:=
 if k=1 then [aN gq,aN nm]
 else if k=2 then aN dL::es.map xTree
 else if k=3 then aN bM::List.zipWith bG cs es
 else if k=4 then [aN gU,aU lf,aU rt]
 else if k=5 then [aN fP]
 else if k=6 then [aN dw]
 else if k=7 then aN dY::aU lf::ag.map eQ
 else []
mutual
def aC:Pl→T
 | .mk k nm es cs lf rt ag l=>bU (jL k nm es cs lf rt ag++pTrees l)
def pTrees:List Pl→List T
 | []=>[]
 | p::l=>aC p::pTrees l
end
theorem uo:∀l:List Pl,pTrees l=l.map aC
 | []=>by simp[pTrees]
 | p::l=>by simp[pTrees,uo l]
def fF (s:By):Nat:=if s==gq then 1 else if s==dL then 2 else if s==bM then 3 else if s==gU then 4 else if s==fP then 5 else if s==dw then 6 else if s==dY then 7 else 0
abbrev at_ (l:List T) (i:Nat):T:=l.getD i dM
def bT (t:T):Bool:=t.kind==2
def dC (t:T):Bool:=t.kind==1&&t.kids.all bT
def dZ (t:T):Bool:=t.kind==1&&t.kids.length==2&&bT (at_ t.kids 0)
def dP (t:T):Bool:=dC t&&(t.kids.length==2||t.kids.length==3)
def pFormOf (k:Nat) (q:List T):Bool:=
 match k with
 | 1=>q.length==1&&bT (at_ q 0)
 | 2=>q.length==2
 | 3=>decide (2≤q.length)&&(q.take (q.length - 1)).all dZ
 | 4=>q.length==4&&(q.take 2).all dC
 | 5=>q.length==2
 | 6=>q.length==1
 | 7=>decide (2≤q.length)&&dC (at_ q 0)&&((q.take (q.length - 1)).drop 1).all dP
 | _=>false
def fG (t:T):Bool:=t.kind==1&&decide (2≤t.kids.length)&&bT (at_ t.kids 0)&&pFormOf (fF (at_ t.kids 0).s) (t.kids.drop 1)
def pW (t:T):By:=(at_ t.kids 0).s
def pX (t:T):T:=(xRead (at_ t.kids 1)).1
def jQ (t:T):Ag:=((at_ t.kids 0).s,(at_ t.kids 1).s,if t.kids.length==3 then (at_ t.kids 2).s else [])
def pMake (k:Nat) (q:List T) (ps:List Pl):Pl:=
 match k with
 | 1=>.mk 1 (at_ q 0).s [] [] [] [] [] []
 | 2=>.mk 2 [] [(xRead (at_ q 0)).1] [] [] [] [] (ps.drop 1)
 | 3=>.mk 3 [] ((q.take (q.length - 1)).map pX) ((q.take (q.length - 1)).map pW) [] [] [] (ps.drop (q.length - 1))
 | 4=>.mk 4 [] [] [] ((at_ q 0).kids.map T.s) ((at_ q 1).kids.map T.s) [] (ps.drop 2)
 | 5=>.mk 5 [] [] [] [] [] [] ps
 | 6=>.mk 6 [] [] [] [] [] [] ps
 | _=>.mk 7 [] [] [] ((at_ q 0).kids.map T.s) [] (((q.take (q.length - 1)).drop 1).map jQ) (ps.drop (q.length - 1))
mutual
def pPlan:T→Pl
 | .mk k s n l p=>if fG (.mk k s n l p) then pMake (fF (at_ l 0).s) (l.drop 1) ((pPlans l).drop 1) else gQ
def pPlans:List T→List Pl
 | []=>[]
 | t::l=>pPlan t::pPlans l
end
theorem xU:∀l:List T,pPlans l=l.map pPlan
 | []=>by simp[pPlans]
 | p::l=>by simp[pPlans,xU l]
abbrev Er:=Int×Nat
def fB (a b:Er):Er:=if a.1==0&&!(b.1==0) then b else a
def aQ (l:List Er):Er:=l.foldl fB (0,0)
def bn (t:T):Er:=if jh t.s then (0,0) else (20,t.pos)
def jC (t:T):Er:=((xRead t).2.1,(xRead t).2.2)
def isFun (f:By) (of:Bool):Bool:=if f==uj||f==uk||f==um then of else if f==iH then !of else false
def dS (t:T):List Er:=[bn (at_ t.kids 0),jC (at_ t.kids 1)]
def dQ (t:T):List Er:=[bn (at_ t.kids 0),if isFun (at_ t.kids 1).s (t.kids.length==3) then (0,0) else (12,(at_ t.kids 1).pos),if t.kids.length==3 then bn (at_ t.kids 2) else (0,0)]
def xW (k:Nat) (q:List T) (es:List Er):List Er:=
 match k with
 | 1=>[bn (at_ q 0)]
 | 2=>jC (at_ q 0)::es.drop 1
 | 3=>(q.take (q.length - 1)).flatMap dS++es.drop (q.length - 1)
 | 4=>(at_ q 0).kids.map bn++((at_ q 1).kids.map bn++es.drop 2)
 | 5=>es
 | 6=>es
 | _=>(at_ q 0).kids.map bn++(((q.take (q.length - 1)).drop 1).flatMap dQ++es.drop (q.length - 1))
mutual
def aZ:T→Er
 | .mk k s n l p=>if fG (.mk k s n l p) then aQ (xW (fF (at_ l 0).s) (l.drop 1) ((CX l).drop 1)) else (12,p)
def CX:List T→List Er
 | []=>[]
 | t::l=>aZ t::CX l
end
theorem zC:∀l:List T,CX l=l.map aZ
 | []=>by simp[CX]
 | p::l=>by simp[CX,zC l]
theorem zD (a b c:Er):fB (fB a b) c=fB a (fB b c):=by
 unfold fB
 cases h1:a.1==0<;>cases h2:b.1==0<;>cases h3:c.1==0<;>simp[h1,h2,h3]
theorem wR (a:Er):fB a (0,0)=a:=by simp[fB]
theorem sJ (a b:Er):(fB a b).1=0↔a.1=0∧b.1=0:=by
 unfold fB
 cases h1:a.1==0<;>cases h2:b.1==0<;>simp_all
theorem QG (a y:Er):fB a (fB (0,0) y)=fB a y:=by cases h:y.1==0<;>simp[fB,h]
theorem iV:∀(l:List Er) (a:Er),l.foldl fB a=fB a (aQ l)
 | [],a=>by simp[aQ,wR]
 | e::l,a=>by unfold aQ;rw[auR,iV l,auR,iV l (fB (0,0) e),zD,zD];rw[QG]
theorem fU:∀l:List Er,(aQ l).1=0↔∀e∈l,e.1=0
 | []=>by simp[aQ]
 | e::l=>by
  have:aQ (e::l)=fB (fB (0,0) e) (aQ l):=by unfold aQ;rw[auR,iV];rfl
  rw[this,sJ,sJ,fU l];simp
theorem Uh (a:Er) (e:Er) (l:List Er):fB (fB a e) (aQ l)=fB a (aQ (e::l)):=by rw[←iV,←iV];rfl
theorem kZ (a:Er) (l m:List Er):fB (fB a (aQ l)) (aQ m)=fB a (aQ (l++m)):=by rw[←iV,←iV,←iV,auW]
abbrev Zl:=Pl×Int×Nat
def pFrom (t:T):Zl:=if (aZ t).1==0 then (if 600<(printS (aC (pPlan t))).length then (gQ,3,0) else (pPlan t,0,0)) else (gQ,(aZ t).1,(aZ t).2)
def lG (s:By):Zl:=if (eF s).2.1==0 then pFrom (eF s).1 else (gQ,(eF s).2.1,(eF s).2.2)
def rJ (p:Pl):By:=if (printS (aC p)).length≤600∧(aC p).deep≤12 then printS (aC p) else []
mutual
def Pl.size:Pl→Nat
 | .mk _ _ _ _ _ _ _ l=>Pl.sizes l+1
def Pl.sizes:List Pl→Nat
 | []=>0
 | p::l=>p.size+Pl.sizes l
end
theorem Pl.pM:∀l:List Pl,Pl.sizes l=(l.map Pl.size).sum
 | []=>by simp[Pl.sizes]
 | p::l=>by simp[Pl.sizes,Pl.pM l]
structure uq (e:T):Prop where
 right:dK e=true
 text:e.every yQ=true
 fair:e.every bZ=true
 back:xRead (xTree e)=(e,0,0)
def I5 (a:Ag):Prop:=jh a.1=true∧((a.2.1=iH∧a.2.2=[])∨((a.2.1=uj∨a.2.1=uk∨a.2.1=um)∧jh a.2.2=true))
def Nms (l:List By):Prop:=∀s∈l,jh s=true
def wS (k:Int) (nm:By) (es:List T) (cs lf rt:List By) (ag:List Ag) (nk:Nat):Prop:=
 (k=1∧jh nm=true∧es=[]∧cs=[]∧lf=[]∧rt=[]∧ag=[]∧nk=0)∨
 (k=2∧nm=[]∧(∃e,es=[e]∧uq e)∧cs=[]∧lf=[]∧rt=[]∧ag=[]∧nk=1)∨
 (k=3∧nm=[]∧(∀e∈es,uq e)∧es.length=cs.length∧1≤cs.length∧Nms cs∧lf=[]∧rt=[]∧ag=[]∧nk=1)∨
 (k=4∧nm=[]∧es=[]∧cs=[]∧Nms lf∧Nms rt∧ag=[]∧nk=2)∨
 (k=5∧nm=[]∧es=[]∧cs=[]∧lf=[]∧rt=[]∧ag=[]∧nk=2)∨
 (k=6∧nm=[]∧es=[]∧cs=[]∧lf=[]∧rt=[]∧ag=[]∧nk=1)∨
 (k=7∧nm=[]∧es=[]∧cs=[]∧Nms lf∧rt=[]∧(∀a∈ag,I5 a)∧nk=1)
mutual
def Pl.good:Pl→Prop
 | .mk k nm es cs lf rt ag l=>wS k nm es cs lf rt ag l.length∧Pl.I7 l
def Pl.I7:List Pl→Prop
 | []=>True
 | p::l=>p.good∧Pl.I7 l
end
theorem Pl.tC:∀l:List Pl,Pl.I7 l↔∀p∈l,p.good
 | []=>by simp[Pl.I7]
 | p::l=>by simp[Pl.I7,Pl.tC l]
theorem Bq (L:List M) (i:Nat) (x:M) (h:L[i]?=some x):at_ (L.map M.t) i=x.t:=by unfold at_;rw[aus,aul,h];rfl
theorem kK (m:M):bT m.t=(m.kind==2):=by unfold bT;rw[M.vW]
theorem qW {p:M→Bool} {l:List M} {k:Nat} {x:M} (h:(l.take k).all p=true) (hx:l[k]?=some x):(l.take (k+1)).all p=p x:=by obtain⟨hk,e⟩:=atr.1 hx;rw[atD hk,auZ,h,e];simp
theorem all_false {p:M→Bool} {l:List M} {k:Nat} {x:M} (hx:l[k]?=some x) (h:p x=false):l.all p=false:=by
 cases hl:l.all p
 rfl;have:=atL.1 hl x (atw hx);rw[h]at this;cases this
theorem zF (m:M) (w:World):
  Calls Tryz.prog 152 #[.agg #[.int .i64 m.kind,.string ⟨m.s.toArray⟩,.int .i64 m.n,.slice m.A m.kids.length m.cap,.int .i64 (m.pos:Int)]] w fun e w'=>e=.returned (.bool (bT m.t))∧Ev w w':=by
 rw[kK];have hB:=Bx.new 101 #[.int .i64 m.kind,.string ⟨m.s.toArray⟩,.int .i64 m.n,.slice m.A m.kids.length m.cap,.int .i64 (m.pos:Int)] w;obtain⟨⟨c0,c1,c2,c3,c4⟩,_⟩:=hB.five;clear hB;go_enter Tryz.func152,Tryz.ntmps152;go_wp2;go_ret;exact⟨rfl,Ev.alloc _ _⟩
theorem avD {P:Prop} (h:P:=by
 rw[←hq]at hF;have HF:=zq hF;have HQ:=zq hq;have HX:=zq hx;have nS:=zq (HE.out.trans (Ev.alloc wr (.cells #[.int .i64 x.kind,.string ⟨x.s.toArray⟩,.int .i64 x.n,.slice x.A x.kids.length x.cap,.int .i64 (x.pos:Int)] 101)));have i1:(0:Int)≤(k:Int):=by omega
 have i2:(k:Int)<(n:Int):=by omega
 clear hx hF hq hf h
 cases q
 ·go_wp2_with (first
   | ((with_reducible refine (HF.out _ nS.out).mono ?_);rintro e w1 ⟨rfl,aH⟩))
  go_ret;exact⟨by rw[all_false HX.out HQ.out.symm];rfl,nS.out.trans aH⟩
 go_wp2_with (first
  | ((with_reducible refine (HF.out _ nS.out).mono ?_);rintro e w1 ⟨rfl,aH⟩))
 go_roundw
 case rel=>exact⟨k+1,by omega,by go_num,zq (by rw[qW HT.out HX.out,←HQ.out]),zq (nS.out.trans aH)⟩
 case measure=>simp[intOf];omega):P:=h
theorem awX {P:Prop} (h:P:=by
 obtain rfl:k=n:=by omega
 have HA:Hid (l.all (fun x=>bT x.t)=true):=zq (by have:=HT.out;rwa [atJ (by rw[HL.out];exact att _)]at this);go_wp2;go_ret;exact⟨by rw[HA.out];rfl,HE.out⟩):P:=h
theorem LK {A:Option Addr} {n cap:Nat} {l:List M} (w:World) (h:Ms w A n cap l) (hf:∀x∈l,∀w1,Ev w w1→Calls Tryz.prog 152 #[.agg #[.int .i64 x.kind,.string ⟨x.s.toArray⟩,.int .i64 x.n,.slice x.A x.kids.length x.cap,.int .i64 (x.pos:Int)]] w1 fun e w'=>e=.returned (.bool (bT x.t))∧Ev w1 w'):
  Calls Tryz.prog 153 #[.slice A n cap,.func (.func 152) #[] #[]] w fun e w'=>e=.returned (.bool ((l.map M.t).all bT))∧Ev w w':=by
 have hn:=h.le;have hm:=h.max;have HL:=zq h.len;have HLA:Hid ((l.map M.t).all bT=l.all fun x=>bT x.t):=zq (by rw[auI];rfl);rw[HLA.out];go_enter Tryz.func153,Tryz.ntmps153;go_wp2
 go_loopw [9] (fun i wr=>∃k:Nat,k≤n∧i=.int .i64 (k:Int)∧Hid ((l.take k).all (fun x=>bT x.t)=true)∧Hid (Ev w wr)) (fun i _=>n - (intOf i).toNat)
 case atStart=>exact⟨0,atG _,rfl,zq (by simp),zq (Ev.refl _)⟩
 case round=>
  obtain⟨k,hk,rfl,HT,HE⟩:=hrel;by_cases hlt:k<n;obtain⟨x,hx⟩:=h.at hlt;obtain⟨b,off,rfl,hb,c0,c1,c2,c3,c4⟩:=Ms.cell (h.ev HE.out) hx;unfold M.kv at c3;have hF:=hf x (atw hx);obtain⟨q,hq⟩:∃q,q=bT x.t:=⟨_,rfl⟩
  exact avD;exact awX
theorem Bv (m:M) (b0:Nat) (w:World) (h:Lies b0 [] w m):
  Calls Tryz.prog 155 #[.agg #[.int .i64 m.kind,.string ⟨m.s.toArray⟩,.int .i64 m.n,.slice m.A m.kids.length m.cap,.int .i64 (m.pos:Int)]] w fun e w'=>e=.returned (.bool (dC m.t))∧Ev w w':=by
 have hB:=Bx.new 101 #[.int .i64 m.kind,.string ⟨m.s.toArray⟩,.int .i64 m.n,.slice m.A m.kids.length m.cap,.int .i64 (m.pos:Int)] w;have aT:=Ev.alloc w (.cells #[.int .i64 m.kind,.string ⟨m.s.toArray⟩,.int .i64 m.n,.slice m.A m.kids.length m.cap,.int .i64 (m.pos:Int)] 101);have HA:=zq (fun w1 (hE:Ev w w1)=>LK w1 (h.ms.ev hE) fun x _ w2 _=>zF x w2);have hF:dC m.t=(m.kind==1&&(m.kids.map M.t).all bT):=by unfold dC;rw[M.vW,M.aY]
 rw[hF];have dH:=zq aT;obtain⟨⟨c0,c1,c2,c3,c4⟩,_⟩:=hB.five;generalize (m.kids.map M.t).all bT=q at*;clear hB aT h hF;by_cases hk:m.kind=1
 ·rw[hk]at c0 dH⊢;go_enter Tryz.func155,Tryz.ntmps155
  go_wp2_with (first
   | ((with_reducible refine (HA.out _ dH.out).mono ?_);rintro e w1 ⟨rfl,aH⟩))
  go_ret;exact⟨rfl,dH.out.trans aH⟩
 have hk':(m.kind==1)=false:=atp.2 hk;rw[hk'];go_enter Tryz.func155,Tryz.ntmps155;go_wp2;go_ret;exact⟨rfl,dH.out⟩
theorem Jd {A:Option Addr} {n cap:Nat} {l:List M} (w:World) (h:Ms w A n cap l) (hf:∀x∈l,∀w1,Ev w w1→Calls Tryz.prog 155 #[.agg #[.int .i64 x.kind,.string ⟨x.s.toArray⟩,.int .i64 x.n,.slice x.A x.kids.length x.cap,.int .i64 (x.pos:Int)]] w1 fun e w'=>e=.returned (.bool (dC x.t))∧Ev w1 w'):
  Calls Tryz.prog 153 #[.slice A n cap,.func (.func 155) #[] #[]] w fun e w'=>e=.returned (.bool ((l.map M.t).all dC))∧Ev w w':=by
 have hn:=h.le;have hm:=h.max;have HL:=zq h.len;have HLA:Hid ((l.map M.t).all dC=l.all fun x=>dC x.t):=zq (by rw[auI];rfl);rw[HLA.out];go_enter Tryz.func153,Tryz.ntmps153;go_wp2
 go_loopw [9] (fun i wr=>∃k:Nat,k≤n∧i=.int .i64 (k:Int)∧Hid ((l.take k).all (fun x=>dC x.t)=true)∧Hid (Ev w wr)) (fun i _=>n - (intOf i).toNat)
 case atStart=>exact⟨0,atG _,rfl,zq (by simp),zq (Ev.refl _)⟩
 case round=>
  obtain⟨k,hk,rfl,HT,HE⟩:=hrel;by_cases hlt:k<n;obtain⟨x,hx⟩:=h.at hlt;obtain⟨b,off,rfl,hb,c0,c1,c2,c3,c4⟩:=Ms.cell (h.ev HE.out) hx;unfold M.kv at c3;have hF:=hf x (atw hx);obtain⟨q,hq⟩:∃q,q=dC x.t:=⟨_,rfl⟩
  exact avD;obtain rfl:k=n:=by omega
  have HA:Hid (l.all (fun x=>dC x.t)=true):=zq (by have:=HT.out;rwa [atJ (by rw[HL.out];exact att _)]at this);go_wp2;go_ret;exact⟨by rw[HA.out];rfl,HE.out⟩
theorem axq {P:Prop} (h:P:=by
 go_wp2_with (first
  | ((with_reducible refine (HX.out _).mono ?_);rintro e w1 ⟨rfl,aH⟩))
 go_ret;exact⟨rfl,dH.out.trans aH⟩):P:=h
theorem QN (m:M) (b0:Nat) (w:World) (h:Lies b0 [] w m):
  Calls Tryz.prog 154 #[.agg #[.int .i64 m.kind,.string ⟨m.s.toArray⟩,.int .i64 m.n,.slice m.A m.kids.length m.cap,.int .i64 (m.pos:Int)]] w fun e w'=>e=.returned (.bool (dZ m.t))∧Ev w w':=by
 have hB:=Bx.new 101 #[.int .i64 m.kind,.string ⟨m.s.toArray⟩,.int .i64 m.n,.slice m.A m.kids.length m.cap,.int .i64 (m.pos:Int)] w;have aT:=Ev.alloc w (.cells #[.int .i64 m.kind,.string ⟨m.s.toArray⟩,.int .i64 m.n,.slice m.A m.kids.length m.cap,.int .i64 (m.pos:Int)] 101);have fA:=h.ms;have hF:dZ m.t=(m.kind==1&&(m.kids.length==2&&bT (at_ (m.kids.map M.t) 0))):=by unfold dZ;rw[M.vW,M.aY,atq,Bool.and_assoc]
 rw[hF];have dH:=zq aT;obtain⟨⟨c0,c1,c2,c3,c4⟩,_⟩:=hB.five;clear hB h hF;by_cases hk:m.kind=1
 ·by_cases hl:m.kids.length=2
  ·obtain⟨x,hx⟩:=fA.at (i:=0) (by omega);obtain⟨b,off,hA,hb,d0,d1,d2,d3,d4⟩:=Ms.cell (fA.ev aT) hx;unfold M.kv at d3;have hX:=fun w1=>zF x w1;have hat:=Bq m.kids 0 x hx;rw[hat];generalize bT x.t=q at*;have HX:=zq hX;rw[hA]at c3 dH⊢;rw[hl]at c3 dH⊢;rw[hk]at c0 dH⊢;rw[hA,hl,hk]at d0 d1 d2 d3 d4;simp only[aud,atW]at d0 d1 d2 d3 d4;have hcap:2≤m.cap:=by have:=fA.le;omega
   clear hX hat hx aT fA hA hb;go_enter Tryz.func154,Tryz.ntmps154;exact axq
  have hl':(m.kids.length==2)=false:=atp.2 hl;have hl2:((m.kids.length:Int)==2)=false:=by rw[atp];omega
  rw[hk]at c0 dH⊢;rw[hl'];clear fA aT;go_enter Tryz.func154,Tryz.ntmps154;go_wp2;go_ret;exact⟨rfl,dH.out⟩
 have hk':(m.kind==1)=false:=atp.2 hk;rw[hk'];clear fA aT;go_enter Tryz.func154,Tryz.ntmps154;go_wp2;go_ret;exact⟨rfl,dH.out⟩
theorem awv {P:Prop} (h:P:=by
 go_enter Tryz.func156,Tryz.ntmps156
 go_wp2_with (first
  | ((with_reducible refine (HN.out _ dH.out).mono ?_);rintro e w1 ⟨rfl,aH⟩;clear c0 c1 c2 c3 c4;obtain⟨⟨c0,c1,c2,c3,c4⟩,_⟩:=(HB.out.ev aH).five))
 go_ret;exact⟨rfl,dH.out.trans aH⟩):P:=h
theorem Zv (m:M) (b0:Nat) (w:World) (h:Lies b0 [] w m):
  Calls Tryz.prog 156 #[.agg #[.int .i64 m.kind,.string ⟨m.s.toArray⟩,.int .i64 m.n,.slice m.A m.kids.length m.cap,.int .i64 (m.pos:Int)]] w fun e w'=>e=.returned (.bool (dP m.t))∧Ev w w':=by
 have hB:=Bx.new 101 #[.int .i64 m.kind,.string ⟨m.s.toArray⟩,.int .i64 m.n,.slice m.A m.kids.length m.cap,.int .i64 (m.pos:Int)] w;have aT:=Ev.alloc w (.cells #[.int .i64 m.kind,.string ⟨m.s.toArray⟩,.int .i64 m.n,.slice m.A m.kids.length m.cap,.int .i64 (m.pos:Int)] 101);have HN:=zq (fun w1 (hE:Ev w w1)=>Bv m b0 w1 (h.ev hE));have hF:dP m.t=(dC m.t&&(m.kids.length==2||m.kids.length==3)):=by unfold dP;rw[M.aY,atq]
 rw[hF];have dH:=zq aT;have HB:=zq hB;obtain⟨⟨c0,c1,c2,c3,c4⟩,_⟩:=hB.five;have hmx:=h.ms.max;have hmc:=h.ms.le;generalize dC m.t=q at*;clear hB aT h hF;generalize m.kids.length=n at*
 cases q
 exact awv;by_cases h2:n=2;subst h2;exact awv;have h2':(n==2)=false:=atp.2 h2;have h2i:((n:Int)==2)=false:=by rw[atp];omega
 have h3i:((n:Int)==3)=(n==3):=by rw[auq,atH,atH];omega
 rw[h2',Bool.false_or];exact awv
theorem Gx {A:Option Addr} {n cap:Nat} {l:List M} (w:World) (h:Ms w A n cap l) (hf:∀x∈l,∀w1,Ev w w1→Calls Tryz.prog 154 #[.agg #[.int .i64 x.kind,.string ⟨x.s.toArray⟩,.int .i64 x.n,.slice x.A x.kids.length x.cap,.int .i64 (x.pos:Int)]] w1 fun e w'=>e=.returned (.bool (dZ x.t))∧Ev w1 w'):
  Calls Tryz.prog 153 #[.slice A n cap,.func (.func 154) #[] #[]] w fun e w'=>e=.returned (.bool ((l.map M.t).all dZ))∧Ev w w':=by
 have hn:=h.le;have hm:=h.max;have HL:=zq h.len;have HLA:Hid ((l.map M.t).all dZ=l.all fun x=>dZ x.t):=zq (by rw[auI];rfl);rw[HLA.out];go_enter Tryz.func153,Tryz.ntmps153;go_wp2
 go_loopw [9] (fun i wr=>∃k:Nat,k≤n∧i=.int .i64 (k:Int)∧Hid ((l.take k).all (fun x=>dZ x.t)=true)∧Hid (Ev w wr)) (fun i _=>n - (intOf i).toNat)
 case atStart=>exact⟨0,atG _,rfl,zq (by simp),zq (Ev.refl _)⟩
 case round=>
  obtain⟨k,hk,rfl,HT,HE⟩:=hrel;by_cases hlt:k<n;obtain⟨x,hx⟩:=h.at hlt;obtain⟨b,off,rfl,hb,c0,c1,c2,c3,c4⟩:=Ms.cell (h.ev HE.out) hx;unfold M.kv at c3;have hF:=hf x (atw hx);obtain⟨q,hq⟩:∃q,q=dZ x.t:=⟨_,rfl⟩
  exact avD;obtain rfl:k=n:=by omega
  have HA:Hid (l.all (fun x=>dZ x.t)=true):=zq (by have:=HT.out;rwa [atJ (by rw[HL.out];exact att _)]at this);go_wp2;go_ret;exact⟨by rw[HA.out];rfl,HE.out⟩
theorem OB {A:Option Addr} {n cap:Nat} {l:List M} (w:World) (h:Ms w A n cap l) (hf:∀x∈l,∀w1,Ev w w1→Calls Tryz.prog 156 #[.agg #[.int .i64 x.kind,.string ⟨x.s.toArray⟩,.int .i64 x.n,.slice x.A x.kids.length x.cap,.int .i64 (x.pos:Int)]] w1 fun e w'=>e=.returned (.bool (dP x.t))∧Ev w1 w'):
  Calls Tryz.prog 153 #[.slice A n cap,.func (.func 156) #[] #[]] w fun e w'=>e=.returned (.bool ((l.map M.t).all dP))∧Ev w w':=by
 have hn:=h.le;have hm:=h.max;have HL:=zq h.len;have HLA:Hid ((l.map M.t).all dP=l.all fun x=>dP x.t):=zq (by rw[auI];rfl);rw[HLA.out];go_enter Tryz.func153,Tryz.ntmps153;go_wp2
 go_loopw [9] (fun i wr=>∃k:Nat,k≤n∧i=.int .i64 (k:Int)∧Hid ((l.take k).all (fun x=>dP x.t)=true)∧Hid (Ev w wr)) (fun i _=>n - (intOf i).toNat)
 case atStart=>exact⟨0,atG _,rfl,zq (by simp),zq (Ev.refl _)⟩
 case round=>
  obtain⟨k,hk,rfl,HT,HE⟩:=hrel;by_cases hlt:k<n;obtain⟨x,hx⟩:=h.at hlt;obtain⟨b,off,rfl,hb,c0,c1,c2,c3,c4⟩:=Ms.cell (h.ev HE.out) hx;unfold M.kv at c3;have hF:=hf x (atw hx);obtain⟨q,hq⟩:∃q,q=dP x.t:=⟨_,rfl⟩
  exact avD;obtain rfl:k=n:=by omega
  have HA:Hid (l.all (fun x=>dP x.t)=true):=zq (by have:=HT.out;rwa [atJ (by rw[HL.out];exact att _)]at this);go_wp2;go_ret;exact⟨by rw[HA.out];rfl,HE.out⟩
theorem ayh {P:Prop} (h:P:=by go_enter Tryz.func158,Tryz.ntmps158;go_wp2;go_ret;exact⟨rfl,Ev.refl _⟩):P:=h
theorem LM (s:By) (o:Bool) (w:World):
  Calls Tryz.prog 158 #[.string ⟨s.toArray⟩,.bool o] w fun e w'=>e=.returned (.bool (isFun s o))∧Ev w w':=by
 by_cases C9:s=uj;subst C9;rw[show isFun uj o=(o) from rfl];unfold uj;exact ayh;by_cases C_:s=uk;subst C_;rw[show isFun uk o=(o) from rfl];unfold uk;exact ayh;by_cases Dc:s=um;subst Dc;rw[show isFun um o=(o) from rfl];unfold um;exact ayh;by_cases VN:s=iH;subst VN;rw[show isFun iH o=(!o) from rfl];unfold iH;exact ayh;have gS:(s==uj)=false:=atp.2 C9;have gN:(s==uk)=false:=atp.2 C_;have gX:(s==um)=false:=atp.2 Dc;have gC:(s==iH)=false:=atp.2 VN;rw[show isFun s o=false by unfold isFun;rw[gS,gN,gX,gC];rfl];unfold uj uk um iH at*;go_enter Tryz.func158,Tryz.ntmps158;go_wp2;go_ret;exact⟨rfl,Ev.refl _⟩
theorem yV (m:M):fG m.t=(m.kind==1&&(decide (2≤m.kids.length)&&(bT (at_ (m.kids.map M.t) 0)&&pFormOf (fF (at_ (m.kids.map M.t) 0).s) ((m.kids.map M.t).drop 1)))):=by unfold fG;rw[M.vW,M.aY,atq,Bool.and_assoc,Bool.and_assoc]
theorem Ms.rest {w:World} {b off k c:Nat} {x:M} {q:List M} (h:Ms w (some ⟨b,off,none⟩) (k+2) (c+2) (x::q)):Ms w (some ⟨b,off+5,none⟩) (k+1) (c+1) q:=by
 refine⟨by have:=h.len;simp at this;omega,by have:=h.le;omega,by have:=h.max;omega,(fun e=>by cases e),fun _=>?_⟩;obtain⟨b',off',e,hlt,hc⟩:=h.rd (by omega);injection e with e
 injection e with e1 e2 _
 subst e1;subst e2;refine⟨b,off+5,rfl,hlt,fun i y hy j u hu=>?_⟩;have:=hc (i+1) y (by simpa using hy) j u hu;rwa [show off+(i+1)*5+j=off+5+i*5+j by omega]at this
theorem Ms.pJ {w:World} {b off n cap:Nat} {l:List M} (h:Ms w (some ⟨b,off,none⟩) n cap l) {i:Nat} {x:M} (hx:l[i]?=some x):
  w.cell? ⟨b,off+i*5,none⟩=some (.int .i64 x.kind)∧w.cell? ⟨b,off+i*5+1,none⟩=some (.string ⟨x.s.toArray⟩)∧w.cell? ⟨b,off+i*5+2,none⟩=some (.int .i64 x.n)∧w.cell? ⟨b,off+i*5+3,none⟩=some (.slice x.A x.kids.length x.cap)∧w.cell? ⟨b,off+i*5+4,none⟩=some (.int .i64 (x.pos:Int)):=by
 obtain⟨b',off',e,_,h0,h1,h2,h3,h4⟩:=Ms.cell h hx;injection e with e
 injection e with e1 e2 _
 subst e1;subst e2;exact⟨h0,h1,h2,h3,h4⟩
theorem Uk {s:By} (h:¬(s=gq)∧¬(s=dL)∧¬(s=bM)∧¬(s=gU)∧¬(s=fP)∧¬(s=dw)∧¬(s=dY)):fF s=0:=by obtain⟨h1,h2,h3,h4,h5,h6,h7⟩:=h;unfold fF;simp[h1,h2,h3,h4,h5,h6,h7]
theorem av5 {P:Prop} (h:P:=by
 go_enter Tryz.func111,Tryz.ntmps111
 go_wp2_with (first
  | ((with_reducible refine (HX.out _).mono ?_);rintro e w1 ⟨rfl,aH⟩;have E1:=zq (dH.out.trans aH);clear c0 c1 c2 c3 c4 d0 d1 d2 d3 d4;obtain⟨⟨c0,c1,c2,c3,c4⟩,_⟩:=(HB.out.ev aH).five;obtain⟨d0,d1,d2,d3,d4⟩:=lu.out _ E1.out))
 go_ret;exact⟨rfl,E1.out⟩):P:=h
theorem avP {P:Prop} (h:P:=by
 clear hP;go_enter Tryz.func111,Tryz.ntmps111
 go_wp2_with (first
  | ((with_reducible refine (HC.out _ E1.out).mono ?_);rintro e w2 ⟨rfl,bK⟩)
  | ((with_reducible refine (HX.out _).mono ?_);rintro e w1 ⟨rfl,aH⟩;have E1:=zq (dH.out.trans aH);clear c0 c1 c2 c3 c4 d0 d1 d2 d3 d4;obtain⟨⟨c0,c1,c2,c3,c4⟩,_⟩:=(HB.out.ev aH).five;obtain⟨d0,d1,d2,d3,d4⟩:=lu.out _ E1.out))
 go_ret;exact⟨rfl,E1.out.trans bK⟩):P:=h
theorem l7 (m:M) (b0:Nat) (w:World) (h:Lies b0 [] w m):
  Calls Tryz.prog 111 #[.agg #[.int .i64 m.kind,.string ⟨m.s.toArray⟩,.int .i64 m.n,.slice m.A m.kids.length m.cap,.int .i64 (m.pos:Int)]] w fun e w'=>e=.returned (.bool (fG m.t))∧Ev w w':=by
 have hB:=Bx.new 101 #[.int .i64 m.kind,.string ⟨m.s.toArray⟩,.int .i64 m.n,.slice m.A m.kids.length m.cap,.int .i64 (m.pos:Int)] w;have aT:=Ev.alloc w (.cells #[.int .i64 m.kind,.string ⟨m.s.toArray⟩,.int .i64 m.n,.slice m.A m.kids.length m.cap,.int .i64 (m.pos:Int)] 101);have fA:=h.ms;have hk0:=h.kid;rw[yV];have dH:=zq aT;have HB:=zq hB;obtain⟨⟨c0,c1,c2,c3,c4⟩,_⟩:=hB.five;clear hB h;have hlk:(m.kids.map M.t).length=m.kids.length:=atq ..;generalize NY:m.kind=kd at*;generalize Yj:m.A=mA at*;generalize hkn:m.kids.length=kn at*;generalize hmc:m.cap=mc at*;generalize Ym:m.kids=L at*;clear NY Yj hmc Ym;by_cases hk:kd=1
 ·subst hk;by_cases hl:2≤kn
  ·obtain⟨x,q,hq⟩:∃x q,L=x::q:=by
    cases L with
    | nil=>simp at hkn;omega
    | cons x q=>exact⟨x,q,rfl⟩
   obtain⟨k,rfl⟩:∃k,kn=k+2:=⟨kn - 2,by omega⟩
   have hcl:=fA.le;have hcm:=fA.max;obtain⟨c,rfl⟩:∃c,mc=c+2:=⟨mc - 2,by omega⟩
   subst hq;obtain⟨b,off,rfl,hb,_⟩:=Ms.cell fA (i:=0) (x:=x) rfl;have lQ:q.length=k+1:=by simpa using hkn
   rw[atX hl];have lu:=zq (fun w1 (hE:Ev w w1)=>Ms.pJ (fA.ev hE) (i:=0) (x:=x) rfl);simp only[aud,atW]at lu;have HR:=zq (fun w1 (hE:Ev w w1)=>Ms.rest (fA.ev hE));have LJ:=zq (fun y (hy:y∈q) w1 (hE:Ev w w1)=>(hk0 y (aty _ hy)).ev hE);have zQ:=zq lQ;have HX:=zq (fun w1=>zF x w1);simp only[atx,at6,auC,at_,au2,M.tu,auc,auA]at HX⊢;obtain⟨d0,d1,d2,d3,d4⟩:=lu.out _ dH.out;clear fA hk0 lQ hl hb aT hkn hlk;have ARM:=trivial;generalize hqa:bT x.t=qa at*
   cases qa
   ·rw[aum];go_enter Tryz.func111,Tryz.ntmps111;exact axq
   rw[auA];generalize SK:x.s=s at*;by_cases Ul:s=gq
   ·subst Ul;by_cases hz:k=0
    ·subst hz;obtain⟨y,hy⟩:∃y,q=[y]:=by
      have:=zQ.out
      match q,this with
      | [y],_=>exact⟨y,rfl⟩
     have hP:pFormOf (fF gq) (q.map M.t)=bT y.t:=by rw[hy];rfl
     rw[hP];have HY:=zq (fun w1=>zF y w1);have HYC:=zq (fun w1 (hE:Ev w w1)=>Ms.pJ (HR.out w1 hE) (i:=0) (x:=y) (by rw[hy];rfl));simp only[aud,atW]at HYC;generalize bT y.t=qy at*;unfold gq at*;clear hy hP;go_enter Tryz.func111,Tryz.ntmps111
     go_wp2_with (first
      | ((with_reducible refine (HY.out _).mono ?_);rintro e w2 ⟨rfl,bK⟩)
      | ((with_reducible refine (HX.out _).mono ?_);rintro e w1 ⟨rfl,aH⟩;have E1:=zq (dH.out.trans aH);clear c0 c1 c2 c3 c4 d0 d1 d2 d3 d4;obtain⟨⟨c0,c1,c2,c3,c4⟩,_⟩:=(HB.out.ev aH).five;obtain⟨d0,d1,d2,d3,d4⟩:=lu.out _ E1.out;obtain⟨e0,e1,e2,e3,e4⟩:=HYC.out _ E1.out))
     go_ret;exact⟨rfl,E1.out.trans bK⟩
    have hP:pFormOf (fF gq) (q.map M.t)=false:=by show ((q.map M.t).length==1&&bT (at_ (q.map M.t) 0))=false;rw[atq,zQ.out,show (k+1==1)=false from atp.2 (by omega),aum]
    rw[hP];have i1:((k:Int)+1==1)=false:=by rw[atp];omega
    unfold gq at*;exact av5
   by_cases OC:s=dL;subst OC;have hP:pFormOf (fF dL) (q.map M.t)=((k:Int)+1==2):=by show ((q.map M.t).length==2)=_;rw[atq,zQ.out,auq,atH,atH];omega
   rw[hP];unfold dL at*;exact av5;by_cases Je:s=bM;subst Je;by_cases hz:1≤k;have hP:pFormOf (fF bM) (q.map M.t)=((q.take k).map M.t).all dZ:=by show (decide (2≤(q.map M.t).length)&&((q.map M.t).take ((q.map M.t).length - 1)).all dZ)=_;rw[atq,zQ.out,atX (by omega),auA,auG,←auw]
   rw[hP];have HC:=zq (fun w1 (hE:Ev w w1)=>Gx w1 ((HR.out w1 hE).to k (by omega)) fun y hy w2 bK=>QN y b0 w2 (LJ.out y (auK hy) w2 (hE.trans bK)));generalize ((q.take k).map M.t).all dZ=qc at*;have i1:(2:Int)≤(k:Int)+1:=by omega
   have i2:(0:Int)≤(k:Int):=by omega
   have i3:(k:Int)≤(c:Int)+1:=by omega
   unfold bM at*;exact avP;have hP:pFormOf (fF bM) (q.map M.t)=false:=by show (decide (2≤(q.map M.t).length)&&((q.map M.t).take ((q.map M.t).length - 1)).all dZ)=_;rw[atq,zQ.out,auj (by omega),aum]
   rw[hP];have i1:¬(2:Int)≤(k:Int)+1:=by omega
   unfold bM at*;exact av5;by_cases Zw:s=gU;subst Zw;by_cases hz:k=3;subst hz;have hP:pFormOf (fF gU) (q.map M.t)=((q.take 2).map M.t).all dC:=by show ((q.map M.t).length==4&&((q.map M.t).take 2).all dC)=_;rw[atq,zQ.out,←auw];rfl
   rw[hP];have HC:=zq (fun w1 (hE:Ev w w1)=>Jd w1 ((HR.out w1 hE).to 2 (by omega)) fun y hy w2 bK=>Bv y b0 w2 (LJ.out y (auK hy) w2 (hE.trans bK)));generalize ((q.take 2).map M.t).all dC=qc at*;have i3:(2:Int)≤(c:Int)+1:=by omega
   unfold gU at*;exact avP;have hP:pFormOf (fF gU) (q.map M.t)=false:=by show ((q.map M.t).length==4&&((q.map M.t).take 2).all dC)=_;rw[atq,zQ.out,show (k+1==4)=false from atp.2 (by omega),aum]
   rw[hP];have i1:((k:Int)+1==4)=false:=by rw[atp];omega
   unfold gU at*;exact av5;by_cases Um:s=fP;subst Um;have hP:pFormOf (fF fP) (q.map M.t)=((k:Int)+1==2):=by show ((q.map M.t).length==2)=_;rw[atq,zQ.out,auq,atH,atH];omega
   rw[hP];unfold fP at*;exact av5;by_cases ED:s=dw;subst ED;have hP:pFormOf (fF dw) (q.map M.t)=((k:Int)+1==1):=by show ((q.map M.t).length==1)=_;rw[atq,zQ.out,auq,atH,atH];omega
   rw[hP];unfold dw at*;exact av5;by_cases Un:s=dY
   ·subst Un;by_cases hz:1≤k
    ·obtain⟨y,r,hy⟩:∃y r,q=y::r:=by
      cases q with
      | nil=>have:=zQ.out;simp at this
      | cons y r=>exact⟨y,r,rfl⟩
     obtain⟨k1,rfl⟩:∃k1,k=k1+1:=⟨k - 1,by omega⟩
     have hrl:r.length=k1+1:=by have:=zQ.out;rw[hy]at this;simpa using this
     have hP:pFormOf (fF dY) (q.map M.t)=(dC y.t&&((r.take k1).map M.t).all dP):=by show (decide (2≤(q.map M.t).length)&&dC (at_ (q.map M.t) 0)&&(((q.map M.t).take ((q.map M.t).length - 1)).drop 1).all dP)=_;rw[atq,zQ.out,atX (by omega),auA,auG,←auw,hy,auz];rfl
     rw[hP];have HY:=zq (fun w1 (hE:Ev w w1)=>Bv y b0 w1 (LJ.out y (by rw[hy];exact atz ..) w1 hE));have HYC:=zq (fun w1 (hE:Ev w w1)=>Ms.pJ (HR.out w1 hE) (i:=0) (x:=y) (by rw[hy];rfl));simp only[aud,atW]at HYC;obtain⟨o8,rfl⟩:∃c1,c=c1+1:=⟨c - 1,by omega⟩
     have OD:=zq (fun w1 (hE:Ev w w1)=>Ms.rest (x:=y) (q:=r) (by have:=HR.out w1 hE;rw[hy]at this;exact this));have HC:=zq (fun w1 (hE:Ev w w1)=>OB w1 ((OD.out w1 hE).to k1 (by omega)) fun z hzm w2 bK=>Zv z b0 w2 (LJ.out z (by rw[hy];exact aty _ (auK hzm)) w2 (hE.trans bK)));generalize dC y.t=qy at*;generalize ((r.take k1).map M.t).all dP=qc at*;have i1:(2:Int)≤(k1:Int)+1+1:=by omega
     have i2:(1:Int)≤(k1:Int)+1:=by omega
     have i3:(k1:Int)+1≤(o8:Int)+1+1:=by omega
     unfold dY at*;clear hP hy hrl
     cases qy
     ·go_enter Tryz.func111,Tryz.ntmps111
      go_wp2_with (first
       | ((with_reducible refine (HY.out _ E1.out).mono ?_);rintro e w2 ⟨rfl,bK⟩)
       | ((with_reducible refine (HX.out _).mono ?_);rintro e w1 ⟨rfl,aH⟩;have E1:=zq (dH.out.trans aH);clear c0 c1 c2 c3 c4 d0 d1 d2 d3 d4;obtain⟨⟨c0,c1,c2,c3,c4⟩,_⟩:=(HB.out.ev aH).five;obtain⟨d0,d1,d2,d3,d4⟩:=lu.out _ E1.out;obtain⟨e0,e1,e2,e3,e4⟩:=HYC.out _ E1.out))
      go_ret;exact⟨rfl,E1.out.trans bK⟩
     go_enter Tryz.func111,Tryz.ntmps111
     go_wp2_with (first
      | ((with_reducible refine (HY.out _ E1.out).mono ?_);rintro e w2 ⟨rfl,bK⟩;have E2:=zq (E1.out.trans bK))
      | ((with_reducible refine (HC.out _ E2.out).mono ?_);rintro e w3 ⟨rfl,iE⟩)
      | ((with_reducible refine (HX.out _).mono ?_);rintro e w1 ⟨rfl,aH⟩;have E1:=zq (dH.out.trans aH);clear c0 c1 c2 c3 c4 d0 d1 d2 d3 d4;obtain⟨⟨c0,c1,c2,c3,c4⟩,_⟩:=(HB.out.ev aH).five;obtain⟨d0,d1,d2,d3,d4⟩:=lu.out _ E1.out;obtain⟨e0,e1,e2,e3,e4⟩:=HYC.out _ E1.out))
     go_ret;exact⟨rfl,E2.out.trans iE⟩
    have hP:pFormOf (fF dY) (q.map M.t)=false:=by show (decide (2≤(q.map M.t).length)&&dC (at_ (q.map M.t) 0)&&(((q.map M.t).take ((q.map M.t).length - 1)).drop 1).all dP)=_;rw[atq,zQ.out,auj (by omega),aum,aum]
    rw[hP];have i1:¬(2:Int)≤(k:Int)+1:=by omega
    unfold dY at*;exact av5
   rw[Uk ⟨Ul,OC,Je,Zw,Um,ED,Un⟩];have aeq:(s==gq)=false:=atp.2 Ul;have abX:(s==dL)=false:=atp.2 OC;have Zx:(s==bM)=false:=atp.2 Je;have agJ:(s==gU)=false:=atp.2 Zw;have aer:(s==fP)=false:=atp.2 Um;have Xg:(s==dw)=false:=atp.2 ED;have aes:(s==dY)=false:=atp.2 Un;unfold gq dL bM gU fP dw dY at*;rw[show pFormOf 0 (q.map M.t)=false from rfl];exact av5
  rw[auj hl,aum,Bool.and_false];have i1:(kn:Int)<2:=by omega
  clear fA hk0 aT;go_enter Tryz.func111,Tryz.ntmps111;go_wp2;go_ret;exact⟨rfl,dH.out⟩
 have hk':(kd==1)=false:=atp.2 hk;have aqg:(kd !=1)=true:=by simp[hk]
 rw[hk',aum];clear fA hk0 aT;go_enter Tryz.func111,Tryz.ntmps111;go_wp2;go_ret;exact⟨rfl,dH.out⟩
theorem uw (t:T):t.strip.kind=t.kind:=by cases t;rw[T.iZ];rfl
theorem nH (t:T):t.strip.s=t.s:=by cases t;rw[T.iZ];rfl
theorem ja (t:T):t.strip.kids=t.kids.map T.strip:=by cases t;rw[T.iZ];rfl
mutual
theorem Jg:∀t:T,t.strip.deep=t.deep
 | .mk k s n l p=>by rw[T.strip,T.deep,T.deep,FP l]
theorem FP:∀l:List T,T.nP (T.strips l)=T.nP l
 | []=>by rw[T.strips]
 | t::l=>by rw[T.strips,T.nP,T.nP,Jg t,FP l]
end
mutual
theorem Bz:∀t:T,t.strip.size=t.size
 | .mk k s n l p=>by rw[T.strip,T.size,T.size,FQ l]
theorem FQ:∀l:List T,T.sizes (T.strips l)=T.sizes l
 | []=>by rw[T.strips]
 | t::l=>by rw[T.strips,T.sizes,T.sizes,Bz t,FQ l]
end
theorem Uo (k:Int) (s:By) (n:Int) (l:List T):gJ k s n (T.strips l)=gJ k s n l:=by unfold gJ;rw[T.pO,List.isEmpty_map]
mutual
theorem Jh:∀t:T,t.strip.fine=t.fine
 | .mk k s n l p=>by rw[T.strip,T.fine,T.fine,FU l,Uo]
theorem FU:∀l:List T,T.ve (T.strips l)=T.ve l
 | []=>by rw[T.strips]
 | t::l=>by rw[T.strips,T.ve,T.ve,Jh t,FU l]
end
mutual
theorem yY:∀t:T,printS t.strip=printS t
 | .mk k s n l p=>by rw[T.strip,printS,printS,Di l true]
theorem Di:∀(l:List T) (b:Bool),printL b (T.strips l)=printL b l
 | [],b=>by rw[T.strips]
 | t::l,b=>by rw[T.strips,printL,printL,yY t,Di l false]
end
theorem FV (s:By):∀(rs rs':List CG) (done:List T),rs.map (fun r=>(r.1,r.2.1))=rs'.map (fun r=>(r.1,r.2.1))→(xReads s done rs).1=(xReads s done rs').1∧(xReads s done rs).2.1=(xReads s done rs').2.1
 | [],[],done,_=>⟨rfl,rfl⟩
 | [],r'::rs',done,h=>by simp at h
 | r::rs,[],done,h=>by simp at h
 | r::rs,r'::rs',done,h=>by simp only[atx,List.cons.injEq,Prod.mk.injEq]at h;obtain⟨⟨h1,h2⟩,h3⟩:=h;unfold xReads;rw[h1,h2];split;exact FV s rs rs' _ h3;exact⟨rfl,rfl⟩
mutual
theorem vF:∀t:T,(xRead t.strip).1=(xRead t).1∧(xRead t.strip).2.1=(xRead t).2.1
 | .mk k s n l p=>by
  have hl:=Dj l;by_cases k1:k=1;subst k1;rw[T.iZ,nT,nT]
  cases l with
  | nil=>exact⟨rfl,rfl⟩
  | cons h q=>
   simp only[atx,uw,nH,atq];split;split;have hq:∀t∈q,(xRead t.strip).1=(xRead t).1∧(xRead t.strip).2.1=(xRead t).2.1:=fun t ht=>hl t (aty _ ht);refine FV h.s _ _ [] ?_;rw[atI,atI,atI];refine aug fun t ht=>?_;have:=hq t ht;simp[this.1,this.2];exact⟨rfl,rfl⟩;exact⟨rfl,rfl⟩
  rw[T.iZ,jB s n _ 0 k1,jB s n l p k1];split;split;exact⟨rfl,rfl⟩;exact⟨rfl,rfl⟩;split;exact⟨rfl,rfl⟩;split<;>exact⟨rfl,rfl⟩
theorem Dj:∀l:List T,∀t∈l,(xRead t.strip).1=(xRead t).1∧(xRead t.strip).2.1=(xRead t).2.1
 | []=>fun t ht=>by cases ht
 | a::l=>by intro t ht;rcases atA.1 ht with h1|h1;rw[h1];exact vF a;exact Dj l t h1
end
theorem jD (l:List T) (i:Nat):at_ (l.map T.strip) i=(at_ l i).strip:=by
 unfold at_;rw[aus,aus,aul]
 cases l[i]? with
 | none=>simp[dM,T.iZ]
 | some t=>rfl
theorem sN (t:T):bT t.strip=bT t:=by unfold bT;rw[uw]
theorem yZ (t:T):dC t.strip=dC t:=by unfold dC;rw[uw,ja,auI];congr 2;funext x;exact sN x
theorem QO (t:T):dZ t.strip=dZ t:=by unfold dZ;rw[uw,ja,atq,jD,sN]
theorem QP (t:T):dP t.strip=dP t:=by unfold dP;rw[yZ,ja,atq]
theorem EF {f:T→Bool} (hf:∀t:T,f t.strip=f t) (l:List T):(l.map T.strip).all f=l.all f:=by rw[auI];congr 1;funext x;exact hf x
theorem OG (k:Nat) (q:List T):pFormOf k (q.map T.strip)=pFormOf k q:=by unfold pFormOf;split<;>simp only[atq,jD,sN,yZ,←auw,←auD,EF QO,EF yZ,EF QP]
theorem Ji (t:T):fG t.strip=fG t:=by unfold fG;rw[uw,ja,atq,jD,sN,nH,←auD,OG]
theorem Ur (t:T):pW t.strip=pW t:=by unfold pW;rw[ja,jD,nH]
theorem Ut (t:T):pX t.strip=pX t:=by unfold pX;rw[ja,jD,(vF _).1]
theorem Uu (t:T):jQ t.strip=jQ t:=by unfold jQ;rw[ja,jD,jD,jD,nH,nH,nH,atq]
theorem zH {α:Type} {f:T→α} (hf:∀t:T,f t.strip=f t) (l:List T):(l.map T.strip).map f=l.map f:=by rw[atI];exact aug fun t _=>hf t
theorem Uw (k:Nat) (q:List T) (ps:List Pl):pMake k (q.map T.strip) ps=pMake k q ps:=by unfold pMake;split<;>simp only[atq,jD,nH,ja,(vF _).1,←auw,←auD,zH Ut,zH Ur,zH Uu,zH nH]
mutual
theorem BB:∀t:T,pPlan t.strip=pPlan t
 | .mk k s n l p=>by have hl:=FW l;have hf:=Ji (.mk k s n l p);rw[T.strip,pPlan,pPlan,hl];rw[T.strip]at hf;rw[hf];split;rw[T.pO,jD,nH,←auD,Uw];rfl
theorem FW:∀l:List T,pPlans (T.strips l)=pPlans l
 | []=>by rw[T.strips]
 | t::l=>by rw[T.strips,pPlans,pPlans,BB t,FW l]
end
theorem OH:∀(l l':List Er),l.map (·.1)=l'.map (·.1)→(aQ l).1=(aQ l').1:=by
 have key:∀(l l':List Er) (a a':Er),a.1=a'.1→l.map (·.1)=l'.map (·.1)→(l.foldl fB a).1=(l'.foldl fB a').1:=by
  intro l
  induction l with
  | nil=>
   intro l' a a' ha h
   cases l' with
   | nil=>exact ha
   | cons e l'=>simp at h
  | cons e l ih=>
   intro l' a a' ha h
   cases l' with
   | nil=>simp at h
   | cons e' l'=>
    simp only[atx,List.cons.injEq]at h;rw[auR,auR];refine ih l' _ _ ?_ h.2;unfold fB;rw[ha,h.1];split;exact h.1;exact ha
 intro l l' h;exact key l l' _ _ rfl h
theorem qX (t:T):(bn t.strip).1=(bn t).1:=by unfold bn;rw[nH];split<;>rfl
theorem FX (t:T):(jC t.strip).1=(jC t).1:=(vF t).2
theorem LQ (t:T):(dS t.strip).map (·.1)=(dS t).map (·.1):=by unfold dS;simp only[atx,atQ,ja,jD,qX,FX]
theorem OI (t:T):(dQ t.strip).map (·.1)=(dQ t).map (·.1):=by
 unfold dQ;simp only[atx,atQ,ja,jD,qX,nH,atq];congr 1;congr 1
 ·split<;>rfl
 congr 1;split;exact qX _;rfl
theorem vX {f:T→List Er} (hf:∀t:T,(f t.strip).map (·.1)=(f t).map (·.1)):∀l:List T,((l.map T.strip).flatMap f).map (·.1)=(l.flatMap f).map (·.1)
 | []=>rfl
 | t::l=>by simp only[atx,auN,atB,hf t,vX hf l]
theorem Xi {f:T→Er} (hf:∀t:T,(f t.strip).1=(f t).1) (l:List T):((l.map T.strip).map f).map (·.1)=(l.map f).map (·.1):=by rw[atI,atI,atI];exact aug fun t _=>hf t
theorem QQ (k:Nat) (q:List T) (es es':List Er) (h:es'.map (·.1)=es.map (·.1)):(xW k (q.map T.strip) es').map (·.1)=(xW k q es).map (·.1):=by unfold xW;split<;>simp only[atx,atQ,atB,atq,jD,ja,qX,FX,←auw,←auD,vX LQ,vX OI,Xi qX,h]<;>(try rw[auD,auD,h])
mutual
theorem EG:∀t:T,(aZ t.strip).1=(aZ t).1
 | .mk k s n l p=>by have hl:=Jj l;have hf:=Ji (.mk k s n l p);rw[T.strip,aZ,aZ];rw[T.strip]at hf;rw[hf];split;rw[T.pO,jD,nH,←auD];refine OH _ _ (QQ _ _ _ _ ?_);rw[auD,auD,←T.pO,hl];rfl
theorem Jj:∀l:List T,(CX (T.strips l)).map (·.1)=(CX l).map (·.1)
 | []=>by rw[T.strips]
 | t::l=>by rw[T.strips,CX,CX,atx,atx,EG t,Jj l]
end
theorem qh (a:T) (q:List T) (hf:fG (bU (a::q))=true):pPlan (bU (a::q))=pMake (fF a.s) q (q.map pPlan):=by unfold bU at hf⊢;rw[pPlan,if_pos hf,xU];rfl
theorem uy (a:T) (q:List T) (hf:fG (bU (a::q))=true):aZ (bU (a::q))=aQ (xW (fF a.s) q (q.map aZ)):=by unfold bU at hf⊢;rw[aZ,if_pos hf,zC];rfl
theorem EH (w:By) (q:List T) (hq:1≤q.length):fG (bU (aN w::q))=pFormOf (fF w) q:=by
 unfold fG bU;have h1:(2≤(T.mk 1 [] 0 (aN w::q) 0).kids.length):=by simp[T.kids];omega
 rw[atX h1];rfl
theorem Xj {s:By} (h:s≠[]) (hl:∀c∈s,bf c=true) (hn:s.length≤1000):(aN s).fine=true:=by
 unfold aN;rw[T.fine];have h1:s.isEmpty=false:=by cases s with|nil=>exact absurd rfl h|cons a b=>rfl
 have h2:s.all bf=true:=atL.2 hl;unfold gJ;rw[h1,h2,atX hn];rfl
theorem qi {s:By} (h:jh s=true):(aN s).fine=true∧s≠[]:=by
 have hl:=Zj h;have h0:s≠[]:=by rintro rfl;simp at hl
 refine⟨Xj h0 (fun c hc=>?_) (by omega),h0⟩;unfold jh fM at h;simp only[atu,atL]at h;exact h.2.1 c (by simpa[dh] using hc)
theorem jo {l:List T} (h:∀t∈l,t.fine=true):(bU l).fine=true:=by unfold bU;rw[T.fine,Eu,atL.2 h];rfl
theorem BD {l:List By} (h:Nms l):(aU l).fine=true:=jo fun t ht=>by obtain⟨s,hs,rfl⟩:=atV.1 ht;exact (qi (h s hs)).1
theorem abZ {s:By} (h:bC s≠0):(aN s).fine=true:=by
 cases hi:s==Lh
 ·rcases Zh (Y0 h hi).1 with h1|h1|h1|h1|h1|h1|h1|h1|h1|h1|h1<;>subst h1<;>decide+kernel
 have:=atH.1 hi;subst this;decide+kernel
mutual
theorem Jk:∀e:T,dK e=true→e.every yQ=true→e.every bZ=true→(xTree e).fine=true
 | .mk k s n l p,hr,he,hf=>by
  have hl:=FY l;rw[dK,u_,atu,atL]at hr;rw[T.every,T.Bh,atu,atL]at he hf;obtain⟨lK,hrs⟩:=hr;obtain⟨he1,hes⟩:=he;obtain⟨hf1,hfs⟩:=hf;obtain⟨agM,aqi⟩:=oG hf1;simp only[auV,kT,T.kind,T.s,T.n,T.kids]at lK;by_cases k1:k=1;subst k1;simp only[auc,if_true,Bool.or_eq_false_iff,Bool.not_eq_false']at lK;have e:xTree (.mk 1 s n l p)=aN s:=by simp[xTree,aN]
  rw[e];exact (qi lK.1.1).1;have k1':(k==1)=false:=atp.2 k1;by_cases k2:k=2;subst k2;have e:xTree (.mk 2 s n l p)=.mk 3 [] n [] 0:=by simp[xTree]
  rw[e,T.fine];unfold yL at agM;unfold gJ;simp[agM];have k2':(k==2)=false:=atp.2 k2;by_cases k3:k=3;subst k3;have e:xTree (.mk 3 s n l p)=.mk 4 s 0 [] 0:=by simp[xTree]
  rw[e,T.fine];have IG:s.length≤40:=by unfold yQ at he1;rw[show (T.mk 3 s n l p).kind=3 from rfl,show (!((3:Int)==3))=false from rfl,Bool.false_or]at he1;exact au1 he1
  unfold gJ;simp[IG];have Yh:(k==3)=false:=atp.2 k3;by_cases k4:k=4;subst k4;simp only[k1',k2',Yh,atE,if_false,auc,if_true,Bool.or_eq_false_iff,Bool.not_eq_false',atH,atp]at lK;obtain⟨⟨ht0,_⟩,_⟩:=lK;have e:xTree (.mk 4 s n l p)=bU (aN s::l.map xTree):=by rw[xTree,ui];rfl
  rw[e];refine jo fun t ht=>?_;rcases atA.1 ht with rfl|ht;exact abZ ht0;obtain⟨u,hu,rfl⟩:=atV.1 ht;exact hl u hu (hrs u hu) (hes u hu) (hfs u hu);simp[k1',k2',Yh,k4]at lK
theorem FY:∀l:List T,∀e∈l,dK e=true→e.every yQ=true→e.every bZ=true→(xTree e).fine=true
 | []=>fun e he=>by cases he
 | a::l=>by intro e he;rcases atA.1 he with h1|h1;rw[h1];exact Jk a;exact FY l e h1
end
theorem uq.tree {e:T} (h:uq e):(xTree e).fine=true:=Jk e h.right h.text h.fair
theorem uq.err {e:T} (h:uq e):jC (xTree e)=(0,0):=by unfold jC;rw[h.back]
theorem QR {s:By} (h:jh s=true):bn (aN s)=(0,0):=by unfold bn;rw[show (aN s).s=s from rfl,if_pos h]
theorem Jl {l:List By} (h:Nms l):∀e∈(l.map aN).map bn,e.1=0:=by intro e he;obtain⟨t,ht,rfl⟩:=atV.1 he;obtain⟨s,hs,rfl⟩:=atV.1 ht;rw[QR (h s hs)]
theorem BF (l:List By):(aU l).kids.map T.s=l:=by show (l.map aN).map T.s=l;rw[atI];have:(T.s ∘ aN)=id:=rfl;rw[this,List.map_id]
theorem FZ (l:List By):dC (aU l)=true:=by unfold dC;show ((1:Int)==1&&(l.map aN).all bT)=true;rw[auI];have:(bT ∘ aN)=fun _=>true:=rfl;rw[this];simp
theorem Xk {a:Ag} (h:I5 a):(a.2.1=iH∧a.2.2=[]∧eQ a=bU [aN a.1,aN iH])∨((a.2.1=uj∨a.2.1=uk∨a.2.1=um)∧jh a.2.2=true∧eQ a=bU [aN a.1,aN a.2.1,aN a.2.2]):=by
 rcases h.2 with⟨h1,h2⟩|⟨h1,h2⟩
 left;refine⟨h1,h2,?_⟩;unfold eQ;rw[h1,h2];rfl;right;refine⟨h1,h2,?_⟩;have h0:=(qi h2).2;have:a.2.2.isEmpty=false:=by cases h3:a.2.2 with|nil=>exact absurd h3 h0|cons x y=>rfl
 unfold eQ;rw[this];rfl
theorem Dk {a:Ag} (h:I5 a):dP (eQ a)=true∧jQ (eQ a)=a∧(∀e∈dQ (eQ a),e.1=0)∧(eQ a).fine=true:=by
 obtain⟨n,f,c⟩:=a;have hn:bn (aN n)=(0,0):=QR h.1;have hnf:=(qi h.1).1;simp only at hn hnf;rcases Xk h with⟨h1,h2,h3⟩|⟨h1,h2,h3⟩
 simp only at h1 h2 h3;subst h1;subst h2;rw[h3];refine⟨rfl,rfl,?_,jo ?_⟩;have:dQ (bU [aN n,aN iH])=[bn (aN n),(0,0),(0,0)]:=rfl;rw[this,hn];simp;intro t ht;simp at ht;rcases ht with rfl|rfl;exact hnf;decide+kernel;simp only at h1 h2 h3;rw[h3];have hc:=QR h2;refine⟨rfl,rfl,?_,jo ?_⟩
 ·have:dQ (bU [aN n,aN f,aN c])=[bn (aN n),if isFun f true then (0,0) else (12,0),bn (aN c)]:=rfl;rw[this,hn,hc];rcases h1 with rfl|rfl|rfl<;>simp[isFun]
 intro t ht;simp at ht;rcases ht with rfl|rfl|rfl;exact hnf
 ·rcases h1 with rfl|rfl|rfl<;>decide+kernel
 exact (qi h2).1
theorem QS:∀(cs:List By) (es:List T),es.length=cs.length→(∀e∈es,uq e)→Nms cs→
  (List.zipWith bG cs es).all dZ=true∧(List.zipWith bG cs es).map pX=es∧(List.zipWith bG cs es).map pW=cs∧(∀e∈(List.zipWith bG cs es).flatMap dS,e.1=0)∧(∀t∈List.zipWith bG cs es,t.fine=true)∧(List.zipWith bG cs es).length=cs.length
 | [],[],_,_,_=>by simp
 | [],_::_,h,_,_=>by simp at h
 | _::_,[],h,_,_=>by simp at h
 | c::cs,e::es,h,he,hc=>by obtain⟨h1,h2,h3,h4,h5,h6⟩:=QS cs es (by simpa using h) (fun x hx=>he x (aty _ hx)) (fun x hx=>hc x (aty _ hx));have hge:=he e (atz ..);have hgc:=hc c (atz ..);simp only[List.zipWith_cons_cons,avd,atx,auN,h1,h2,h3,atF,h6,au8];refine⟨rfl,?_,?_,?_,?_,by trivial⟩;congr 1;show (xRead (xTree e)).1=e;rw[hge.back];rfl;intro x hx;rcases atK.1 hx with hx|hx;have:dS (bG c e)=[bn (aN c),jC (xTree e)]:=rfl;rw[this,QR hgc,hge.err]at hx;simp at hx;rw[hx];exact h4 x hx;intro t ht;rcases atA.1 ht with rfl|ht;refine jo fun t ht=>?_;simp at ht;rcases ht with rfl|rfl;exact (qi hgc).1;exact hge.tree;exact h5 t ht
def VO (p:Pl):Prop:=p.good→pPlan (aC p)=p∧(aZ (aC p)).1=0∧(aC p).fine=true
theorem sO {α:Type} {l:List α} (h:l.length=1):∃a,l=[a]:=by
 match l,h with
 | [a],_=>exact⟨a,rfl⟩
theorem vG {α:Type} {l:List α} (h:l.length=2):∃a b,l=[a,b]:=by
 match l,h with
 | [a,b],_=>exact⟨a,b,rfl⟩
theorem qj:∀w∈[gq,dL,bM,gU,fP,dw,dY],(aN w).fine=true:=by decide+kernel
theorem Ux (k:Int) (nm:By) (es:List T) (cs lf rt:List By) (ag:List Ag) (l:List Pl) (hl:∀p∈l,VO p):VO (.mk k nm es cs lf rt ag l):=by
 intro hg;rw[Pl.good,Pl.tC]at hg;obtain⟨hg,Ot⟩:=hg;have hk:∀p∈l,pPlan (aC p)=p∧(aZ (aC p)).1=0∧(aC p).fine=true:=fun p hp=>hl p hp (Ot p hp);rw[aC,uo];rcases hg with⟨rfl,h1,rfl,rfl,rfl,rfl,rfl,h2⟩|⟨rfl,rfl,⟨e,rfl,he⟩,rfl,rfl,rfl,rfl,h2⟩|⟨rfl,rfl,he,hlen,h1,hc,rfl,rfl,rfl,h2⟩|⟨rfl,rfl,rfl,rfl,h3,h4,rfl,h2⟩|⟨rfl,rfl,rfl,rfl,rfl,rfl,rfl,h2⟩|⟨rfl,rfl,rfl,rfl,rfl,rfl,rfl,h2⟩|⟨rfl,rfl,rfl,rfl,h3,rfl,h4,h2⟩
 have:l=[]:=aup h2;subst this;have e:bU (jL 1 nm [] [] [] [] []++([]:List Pl).map aC)=bU (aN gq::[aN nm]):=rfl;have hf:fG (bU (aN gq::[aN nm]))=true:=rfl;rw[e,qh _ _ hf,uy _ _ hf];refine⟨rfl,?_,jo ?_⟩;rw[fU];intro x hx;have:xW (fF (aN gq).s) [aN nm] ([aN nm].map aZ)=[bn (aN nm)]:=rfl;rw[this,QR h1]at hx;simp at hx;rw[hx];intro t ht;simp at ht;rcases ht with rfl|rfl;exact qj _ (by simp);exact (qi h1).1;obtain⟨q,rfl⟩:=sO h2;obtain⟨k1,k2,k3⟩:=hk q (by simp);have e':bU (jL 2 [] [e] [] [] [] []++[q].map aC)=bU (aN dL::[xTree e,aC q]):=rfl;have hf:fG (bU (aN dL::[xTree e,aC q]))=true:=rfl;rw[e',qh _ _ hf,uy _ _ hf];refine⟨?_,?_,jo ?_⟩;show Pl.mk 2 [] [(xRead (xTree e)).1] [] [] [] [] [pPlan (aC q)]=_;rw[he.back,k1];rw[fU];intro x hx;have:xW (fF (aN dL).s) [xTree e,aC q] ([xTree e,aC q].map aZ)=[jC (xTree e),aZ (aC q)]:=rfl;rw[this,he.err]at hx;simp at hx;rcases hx with rfl|rfl;rfl;exact k2;intro t ht;simp at ht;rcases ht with rfl|rfl|rfl;exact qj _ (by simp);exact he.tree;exact k3;obtain⟨q,rfl⟩:=sO h2;obtain⟨k1,k2,k3⟩:=hk q (by simp);obtain⟨z1,z2,z3,z4,z5,z6⟩:=QS cs es hlen he hc;have e':bU (jL 3 [] es cs [] [] []++[q].map aC)=bU (aN bM::(List.zipWith bG cs es++[aC q])):=rfl;generalize List.zipWith bG cs es=Z at*;have ht:(Z++[aC q]).length - 1=Z.length:=by simp
 have hf:fG (bU (aN bM::(Z++[aC q])))=true:=by rw[EH _ _ (by simp)];show (decide (2≤(Z++[aC q]).length)&&((Z++[aC q]).take ((Z++[aC q]).length - 1)).all dZ)=true;rw[ht,avh,z1,au8];exact atX (by simp;omega)
 rw[e',qh _ _ hf,uy _ _ hf];refine⟨?_,?_,jo ?_⟩;show Pl.mk 3 [] (((Z++[aC q]).take ((Z++[aC q]).length - 1)).map pX) (((Z++[aC q]).take ((Z++[aC q]).length - 1)).map pW) [] [] [] (((Z++[aC q]).map pPlan).drop ((Z++[aC q]).length - 1))=_;rw[ht,avh,z2,z3,atB,ave (by simp),atx,atQ,k1];rw[fU];show ∀x∈((Z++[aC q]).take ((Z++[aC q]).length - 1)).flatMap dS++((Z++[aC q]).map aZ).drop ((Z++[aC q]).length - 1),x.1=0;rw[ht,avh,atB,ave (by simp)];intro x hx;rcases atK.1 hx with hx|hx;exact z4 x hx;simp at hx;rw[hx];exact k2;intro t ht;rcases atA.1 ht with rfl|ht;exact qj _ (by simp);rcases atK.1 ht with ht|ht;exact z5 t ht;simp at ht;rw[ht];exact k3;obtain⟨q,q',rfl⟩:=vG h2;obtain⟨k1,k2,k3⟩:=hk q (by simp);obtain⟨m1,m2,m3⟩:=hk q' (by simp);have e':bU (jL 4 [] [] [] lf rt []++[q,q'].map aC)=bU (aN gU::[aU lf,aU rt,aC q,aC q']):=rfl;have hf:fG (bU (aN gU::[aU lf,aU rt,aC q,aC q']))=true:=by rw[EH _ _ (by simp)];show ((4:Nat)==4&&[aU lf,aU rt].all dC)=true;simp[FZ]
 rw[e',qh _ _ hf,uy _ _ hf];refine⟨?_,?_,jo ?_⟩;show Pl.mk 4 [] [] [] ((aU lf).kids.map T.s) ((aU rt).kids.map T.s) [] [pPlan (aC q),pPlan (aC q')]=_;rw[BF,BF,k1,m1];rw[fU];show ∀x∈(lf.map aN).map bn++((rt.map aN).map bn++[aZ (aC q),aZ (aC q')]),x.1=0;intro x hx;rcases atK.1 hx with hx|hx;exact Jl h3 x hx;rcases atK.1 hx with hx|hx;exact Jl h4 x hx;simp at hx;rcases hx with rfl|rfl;exact k2;exact m2;intro t ht;simp at ht;rcases ht with rfl|rfl|rfl|rfl|rfl;exact qj _ (by simp);exact BD h3;exact BD h4;exact k3;exact m3;obtain⟨q,q',rfl⟩:=vG h2;obtain⟨k1,k2,k3⟩:=hk q (by simp);obtain⟨m1,m2,m3⟩:=hk q' (by simp);have e':bU (jL 5 [] [] [] [] [] []++[q,q'].map aC)=bU (aN fP::[aC q,aC q']):=rfl;have hf:fG (bU (aN fP::[aC q,aC q']))=true:=rfl;rw[e',qh _ _ hf,uy _ _ hf];refine⟨?_,?_,jo ?_⟩;show Pl.mk 5 [] [] [] [] [] [] [pPlan (aC q),pPlan (aC q')]=_;rw[k1,m1];rw[fU];show ∀x∈[aZ (aC q),aZ (aC q')],x.1=0;intro x hx;simp at hx;rcases hx with rfl|rfl;exact k2;exact m2;intro t ht;simp at ht;rcases ht with rfl|rfl|rfl;exact qj _ (by simp);exact k3;exact m3;obtain⟨q,rfl⟩:=sO h2;obtain⟨k1,k2,k3⟩:=hk q (by simp);have e':bU (jL 6 [] [] [] [] [] []++[q].map aC)=bU (aN dw::[aC q]):=rfl;have hf:fG (bU (aN dw::[aC q]))=true:=rfl;rw[e',qh _ _ hf,uy _ _ hf];refine⟨?_,?_,jo ?_⟩;show Pl.mk 6 [] [] [] [] [] [] [pPlan (aC q)]=_;rw[k1];rw[fU];show ∀x∈[aZ (aC q)],x.1=0;intro x hx;simp at hx;rw[hx];exact k2;intro t ht;simp at ht;rcases ht with rfl|rfl;exact qj _ (by simp);exact k3;obtain⟨q,rfl⟩:=sO h2;obtain⟨k1,k2,k3⟩:=hk q (by simp);have e':bU (jL 7 [] [] [] lf [] ag++[q].map aC)=bU (aN dY::(aU lf::(ag.map eQ++[aC q]))):=rfl;have hall:(ag.map eQ).all dP=true:=by rw[auI,atL];exact fun a ha=>(Dk (h4 a ha)).1
 have hmap:(ag.map eQ).map jQ=ag:=by
  rw[atI]
  conv=>rhs;rw[←List.map_id ag]
  exact aug fun a ha=>(Dk (h4 a ha)).2.1
 have herr:∀e∈(ag.map eQ).flatMap dQ,e.1=0:=by intro e he;obtain⟨t,ht,he⟩:=auP.1 he;obtain⟨a,ha,rfl⟩:=atV.1 ht;exact (Dk (h4 a ha)).2.2.1 e he
 have hfin:∀t∈ag.map eQ,t.fine=true:=by intro t ht;obtain⟨a,ha,rfl⟩:=atV.1 ht;exact (Dk (h4 a ha)).2.2.2
 generalize ag.map eQ=Z at*;have ht:(aU lf::(Z++[aC q])).length - 1=Z.length+1:=by simp
 have nX:((aU lf::(Z++[aC q])).take (Z.length+1)).drop 1=Z:=by rw[auz,avh];rfl
 have hf:fG (bU (aN dY::(aU lf::(Z++[aC q]))))=true:=by rw[EH _ _ (by simp)];show (decide (2≤(aU lf::(Z++[aC q])).length)&&dC (aU lf)&&(((aU lf::(Z++[aC q])).take ((aU lf::(Z++[aC q])).length - 1)).drop 1).all dP)=true;rw[ht,nX,hall,FZ,au8,au8];exact atX (by simp)
 rw[e',qh _ _ hf,uy _ _ hf];refine⟨?_,?_,jo ?_⟩;show Pl.mk 7 [] [] [] ((aU lf).kids.map T.s) [] ((((aU lf::(Z++[aC q])).take ((aU lf::(Z++[aC q])).length - 1)).drop 1).map jQ) (((aU lf::(Z++[aC q])).map pPlan).drop ((aU lf::(Z++[aC q])).length - 1))=_;rw[ht,nX,hmap,BF,atx,at6,atB,ave (by simp),atx,atQ,k1];rw[fU];show ∀x∈(aU lf).kids.map bn++((((aU lf::(Z++[aC q])).take ((aU lf::(Z++[aC q])).length - 1)).drop 1).flatMap dQ++((aU lf::(Z++[aC q])).map aZ).drop ((aU lf::(Z++[aC q])).length - 1)),x.1=0;rw[ht,nX,atx,at6,atB,ave (by simp)];intro x hx;rcases atK.1 hx with hx|hx;exact Jl h3 x hx;rcases atK.1 hx with hx|hx;exact herr x hx;simp at hx;rw[hx];exact k2;intro t ht;rcases atA.1 ht with rfl|ht;exact qj _ (by simp);rcases atA.1 ht with rfl|ht;exact BD h3;rcases atK.1 ht with ht|ht;exact hfin t ht;simp at ht;rw[ht];exact k3
mutual
theorem QT:∀p:Pl,VO p
 | .mk k nm es cs lf rt ag l=>Ux k nm es cs lf rt ag l (ZC l)
theorem ZC:∀l:List Pl,∀p∈l,VO p
 | []=>fun p hp=>by cases hp
 | a::l=>by intro p hp;rcases atA.1 hp with h1|h1;rw[h1];exact QT a;exact ZC l p h1
end
theorem Nc:∀l:List T,T.ve l=true→∀t∈l,t.fine=true
 | [],_,t,h=>by cases h
 | a::l,hf,t,h=>by rw[T.ve,atu]at hf;rcases atA.1 h with rfl|h;exact hf.1;exact Nc l hf.2 t h
theorem uz {k:Int} {s:By} {n:Int} {l:List T} {p:Nat} (h:(T.mk k s n l p).fine=true):(k=1∧s=[]∧n=0∧∀t∈l,t.fine=true)∨(k=2∧n=0∧l=[]∧s≠[])∨(k=3∧s=[]∧l=[])∨(k=4∧n=0∧l=[]∧s.length≤40):=by
 rw[T.fine]at h;unfold gJ at h;simp only[atZ,atu,atH,aun,au4,auV,List.isEmpty_eq_false_iff]at h;rcases h with h|((h|h)|h)
 exact .inl ⟨h.1.1.1,h.1.1.2,h.1.2,Nc l h.2⟩;exact .inr (.inl ⟨h.1.1.1,h.1.2.1,h.2,h.1.1.2.1⟩);exact .inr (.inr (.inl ⟨h.1.1.1,h.1.1.2,h.2⟩));exact .inr (.inr (.inr ⟨h.1.1.1,h.1.2,h.2,h.1.1.2⟩))
theorem qm {t:T} (h:t.fine=true) (ha:t.kind=2):t.strip=aN t.s∧t.s≠[]:=by obtain⟨k,s,n,l,p⟩:=t;change k=2 at ha;subst ha;rcases uz h with h1|h1|h1|h1;exact absurd h1.1 (by decide);obtain⟨_,h2,h3,h4⟩:=h1;subst h2;subst h3;exact⟨by rw[T.iZ];rfl,h4⟩;exact absurd h1.1 (by decide);exact absurd h1.1 (by decide)
theorem x8 {t:T} (h:t.fine=true) (ha:t.kind=1):t.strip=bU (t.kids.map T.strip)∧∀x∈t.kids,x.fine=true:=by obtain⟨k,s,n,l,p⟩:=t;change k=1 at ha;subst ha;rcases uz h with h1|h1|h1|h1;obtain⟨_,h2,h3,h4⟩:=h1;subst h2;subst h3;exact⟨by rw[T.iZ];rfl,h4⟩;exact absurd h1.1 (by decide);exact absurd h1.1 (by decide);exact absurd h1.1 (by decide)
mutual
theorem BG:∀t:T,t.fine=true→(xRead t).2.1=0→xTree (xRead t).1=t.strip
 | .mk k s n l p,hf,h=>by
  have hl:=F7 l;rcases uz hf with⟨h1,h2,h3,h4⟩|⟨h1,h2,h3,_⟩|⟨h1,h2,h3⟩|⟨h1,h2,h3,_⟩
  subst h1;subst h2;subst h3;rw[Bj]at h⊢
  cases l with
  | nil=>simp[jH]at h
  | cons hd q=>
   simp only at h⊢;by_cases hk:(hd.kind==2&&!(bC hd.s==0))=true;rw[if_pos hk]at h⊢;by_cases hq:(q.length==bC hd.s)=true;rw[if_pos hq]at h⊢;obtain⟨h5,h6⟩:=Ey hd.s (q.map xRead) [] h;rw[h6];rw[atu,atH]at hk;have ha:=(qm (h4 hd (atz ..)) hk.1).1;rw[T.iZ,atx,ha,xTree,ui,auv,atI,atI];have hm:q.map ((xTree ∘ fun x:CG=>x.1) ∘ xRead)=q.map T.strip:=aug fun t ht=>hl t (aty _ ht) (h4 t (aty _ ht)) (h5 _ (at7 ht));rw[hm];rfl;rw[if_neg hq]at h;simp[jH]at h;rw[if_neg hk]at h;simp[jH]at h
  subst h1;subst h2;subst h3;rw[jB s 0 [] p (by decide)]at h⊢;rw[if_pos (show ((2:Int)==2)=true from rfl)]at h⊢;by_cases hn:jh s=true;rw[if_pos hn,T.iZ];rfl;rw[if_neg hn]at h;simp[jH]at h;subst h1;subst h2;subst h3;rw[jB [] n [] p (by decide),T.iZ];rfl;subst h1;subst h2;subst h3;rw[jB s 0 [] p (by decide),T.iZ];rfl
theorem F7:∀l:List T,∀t∈l,t.fine=true→(xRead t).2.1=0→xTree (xRead t).1=t.strip
 | [],t,h=>by cases h
 | a::l,t,h=>by rcases atA.1 h with h1|h1;rw[h1];exact BG a;exact F7 l t h1
end
theorem zI {t:T} (h:t.fine=true) (ha:dC t=true):t.strip=aU (t.kids.map T.s)∧∀s∈t.kids.map T.s,s≠[]:=by unfold dC bT at ha;rw[atu,atH,atL]at ha;obtain⟨h1,h2⟩:=x8 h ha.1;refine⟨?_,fun s hs=>?_⟩;rw[h1];unfold aU;rw[atI];exact congrArg bU (aug fun x hx=>(qm (h2 x hx) (by simpa using ha.2 x hx)).1);obtain⟨x,hx,rfl⟩:=atV.1 hs;exact (qm (h2 x hx) (by simpa using ha.2 x hx)).2
theorem Uy {l:List T} (h:l.length=2):l=[at_ l 0,at_ l 1]:=by
 match l,h with
 | [a,b],_=>rfl
theorem ZE {l:List T} (h:l.length=3):l=[at_ l 0,at_ l 1,at_ l 2]:=by
 match l,h with
 | [a,b,c],_=>rfl
theorem Xl {t:T} (h:t.fine=true) (ha:dZ t=true) (he:(jC (at_ t.kids 1)).1=0):t.strip=bG (pW t) (pX t):=by
 unfold dZ bT at ha;simp only[atu,atH]at ha;obtain⟨h1,h2⟩:=x8 h ha.1.1;have hk:=Uy ha.1.2;have m0:at_ t.kids 0∈t.kids:=by rw[hk];simp
 have m1:at_ t.kids 1∈t.kids:=by rw[hk];simp
 rw[h1,hk,atx,atx,atQ,(qm (h2 _ m0) ha.2).1,←BG _ (h2 _ m1) he];rfl
theorem Xm {t:T} (h:t.fine=true) (ha:dP t=true):t.strip=eQ (jQ t):=by
 unfold dP at ha;simp only[atu,atZ,atH]at ha;obtain⟨h1,h2⟩:=zI h ha.1;rw[h1];rcases ha.2 with hl|hl;have hk:=Uy hl;unfold eQ jQ aU;rw[hl];rw[hk];rfl;have hk:=ZE hl;have hne:(at_ t.kids 2).s≠[]:=h2 _ (by rw[hk];simp);unfold eQ jQ aU;rw[hl];simp only[auc,if_true];rw[show (at_ t.kids 2).s.isEmpty=false by
  cases hc:(at_ t.kids 2).s with
  | nil=>exact absurd hc hne
  | cons _ _=>rfl]
 conv=>lhs;rw[hk]
 rfl
theorem yc {t:T} (h:(bn t).1=0):jh t.s=true:=by unfold bn at h;split at h;assumption;cases h
theorem VP {t:T} (ht:t.every IK=true) (hf:t.every bZ=true) (h:(jC t).1=0):uq (xRead t).1:=⟨FI t h,FD t ht,IL t hf,(MZ t h).1⟩
theorem y5 (s:By):(fF s=1∧s=gq)∨(fF s=2∧s=dL)∨(fF s=3∧s=bM)∨(fF s=4∧s=gU)∨(fF s=5∧s=fP)∨(fF s=6∧s=dw)∨(fF s=7∧s=dY)∨fF s=0:=by by_cases h1:s=gq;exact .inl ⟨by rw[h1];decide+kernel,h1⟩;by_cases h2:s=dL;exact .inr (.inl ⟨by rw[h2];decide+kernel,h2⟩);by_cases h3:s=bM;exact .inr (.inr (.inl ⟨by rw[h3];decide+kernel,h3⟩));by_cases h4:s=gU;exact .inr (.inr (.inr (.inl ⟨by rw[h4];decide+kernel,h4⟩)));by_cases h5:s=fP;exact .inr (.inr (.inr (.inr (.inl ⟨by rw[h5];decide+kernel,h5⟩))));by_cases h6:s=dw;exact .inr (.inr (.inr (.inr (.inr (.inl ⟨by rw[h6];decide+kernel,h6⟩)))));by_cases h7:s=dY;exact .inr (.inr (.inr (.inr (.inr (.inr (.inl ⟨by rw[h7];decide+kernel,h7⟩))))));refine .inr (.inr (.inr (.inr (.inr (.inr (.inr ?_))))));unfold fF;simp[h1,h2,h3,h4,h5,h6,h7]
theorem ZF {t:T} (h:t.fine=true) (ha:dP t=true) (he:∀e∈dQ t,e.1=0):I5 (jQ t):=by
 unfold dQ at he;have e0:=he _ (atz ..);have e1:=he _ (aty _ (atz ..));have e2:=he _ (aty _ (aty _ (atz ..)));have hfn:isFun (at_ t.kids 1).s (t.kids.length==3)=true:=by
  cases hc:isFun (at_ t.kids 1).s (t.kids.length==3)
  rw[hc]at e1;simp at e1;rfl
 refine⟨yc e0,?_⟩;unfold jQ;unfold isFun at hfn;by_cases h3:(t.kids.length==3)=true;rw[h3]at hfn e2;rw[if_pos rfl]at e2;simp only[h3,if_true];refine .inr ⟨?_,yc e2⟩;by_cases hs:((at_ t.kids 1).s==uj||(at_ t.kids 1).s==uk||(at_ t.kids 1).s==um)=true;simp only[atZ,atH]at hs;rcases hs with (hs|hs)|hs;exact .inl hs;exact .inr (.inl hs);exact .inr (.inr hs);rw[if_neg hs]at hfn;by_cases hc:((at_ t.kids 1).s==iH)=true;rw[if_pos hc]at hfn;cases hfn;rw[if_neg hc]at hfn;cases hfn;have h3':(t.kids.length==3)=false:=by simpa using h3
 rw[h3']at hfn;simp only[h3',atE,if_false];refine .inl ⟨?_,trivial⟩;by_cases hs:((at_ t.kids 1).s==uj||(at_ t.kids 1).s==uk||(at_ t.kids 1).s==um)=true;rw[if_pos hs]at hfn;cases hfn;rw[if_neg hs]at hfn;by_cases hc:((at_ t.kids 1).s==iH)=true;exact atH.1 hc;rw[if_neg hc]at hfn;cases hfn
def FwP (t:T):Prop:=t.fine=true→(aZ t).1=0→aC (pPlan t)=t.strip∧(pPlan t).good
theorem QU {α:Type} {l:List α} (h:1≤l.length):∃c z,l=c++[z]:=by
 have hne:l≠[]:=fun e=>by rw[e]at h;simp at h
 exact⟨l.dropLast,l.getLast hne,(List.dropLast_concat_getLast hne).symm⟩
theorem ZG (k:Int) (s:By) (n:Int) (l:List T) (p:Nat) (hl:∀x∈l,FwP x):FwP (.mk k s n l p):=by
 intro hfi he;have hf:fG (.mk k s n l p)=true:=by
  cases hc:fG (.mk k s n l p) with
  | true=>rfl
  | false=>rw[aZ,hc]at he;simp at he
 rw[aZ,if_pos hf,zC,fU]at he;rw[pPlan,if_pos hf,xU];have hf2:k=1∧2≤l.length∧(at_ l 0).kind=2∧pFormOf (fF (at_ l 0).s) (l.drop 1)=true:=by unfold fG at hf;rw[atu,atu,atu,atH,aun]at hf;exact⟨hf.1.1.1,hf.1.1.2,atH.1 hf.1.2,hf.2⟩
 obtain⟨rfl,h2,h3,h4⟩:=hf2;obtain⟨hst,hfk⟩:=x8 hfi rfl
 cases l with
 | nil=>simp at h2
 | cons a q=>
  rw[hst];have ha:a.strip=aN a.s:=(qm (hfk a (atz ..)) h3).1;have hq:∀x∈q,x.fine=true:=fun x hx=>hfk x (aty _ hx);have wU:∀x∈q,(aZ x).1=0→aC (pPlan x)=x.strip∧(pPlan x).good:=fun x hx h=>hl x (aty _ hx) (hq x hx) h;have hex:∀x∈q,(jC x).1=0→uq (xRead x).1∧xTree (xRead x).1=x.strip:=fun x hx h=>⟨VP (jl x (hq x hx)).2 (jl x (hq x hx)).1 h,BG x (hq x hx) h⟩
  change aC (pMake (fF a.s) q (q.map pPlan))=bU (a.strip::q.map T.strip)∧(pMake (fF a.s) q (q.map pPlan)).good;change pFormOf (fF a.s) q=true at h4;change ∀e∈xW (fF a.s) q (q.map aZ),e.1=0 at he;rw[ha];rcases y5 a.s with⟨hk,hs⟩|⟨hk,hs⟩|⟨hk,hs⟩|⟨hk,hs⟩|⟨hk,hs⟩|⟨hk,hs⟩|⟨hk,hs⟩|hk;rw[hk]at h4 he⊢;rw[hs];have h5:(q.length==1&&bT (at_ q 0))=true:=h4;rw[atu,atH]at h5;obtain⟨y,rfl⟩:=sO h5.1;have hy:=(qm (hq y (atz ..)) (atH.1 h5.2)).1;have hn:=yc (he (bn y) (atz ..));exact⟨by
   show bU ([aN gq,aN y.s]++[])=bU (aN gq::[y.strip]);rw[hy];rfl,.inl ⟨rfl,hn,rfl,rfl,rfl,rfl,rfl,rfl⟩,trivial⟩
  rw[hk]at h4 he⊢;rw[hs];have h5:(q.length==2)=true:=h4;rw[atH]at h5;obtain⟨x,y,rfl⟩:=vG h5;obtain⟨g1,g2⟩:=hex x (atz ..) (he (jC x) (atz ..));obtain⟨g3,g4⟩:=wU y (aty _ (atz ..)) (he (aZ y) (aty _ (atz ..)));refine⟨?_,.inr (.inl ⟨rfl,rfl,⟨_,rfl,g1⟩,rfl,rfl,rfl,rfl,rfl⟩),g4,trivial⟩;show bU (aN dL::[xTree (xRead x).1]++[aC (pPlan y)])=_;rw[g2,g3];rfl;rw[hk]at h4 he⊢;rw[hs];have h5:(decide (2≤q.length)&&(q.take (q.length - 1)).all dZ)=true:=h4;rw[atu,aun]at h5;obtain⟨c,z,rfl⟩:=QU (l:=q) (by omega);have hlen:(c++[z]).length - 1=c.length:=by simp
  have nX:(c++[z]).take ((c++[z]).length - 1)=c:=by rw[hlen,List.take_left'];rfl
  have hdr:∀{α:Type} (f:T→α),((c++[z]).map f).drop ((c++[z]).length - 1)=[f z]:=fun f=>by rw[hlen,atB,ave (by rw[atq])];rfl
  rw[nX,atL]at h5;have IG:∀e∈c.flatMap dS++[aZ z],e.1=0:=by have h6:∀e∈((c++[z]).take ((c++[z]).length - 1)).flatMap dS++((c++[z]).map aZ).drop ((c++[z]).length - 1),e.1=0:=he;rwa [nX,hdr]at h6
  have hc:∀x∈c,(bn (at_ x.kids 0)).1=0∧(jC (at_ x.kids 1)).1=0:=fun x hx=>⟨IG _ (atO _ (auP.2 ⟨x,hx,atz ..⟩)),IG _ (atO _ (auP.2 ⟨x,hx,aty _ (atz ..)⟩))⟩
  obtain⟨g3,g4⟩:=wU z (auk _ (atz ..)) (IG _ (auk _ (atz ..)));have hcs:c.map (fun x=>bG (pW x) (pX x))=c.map T.strip:=aug fun x hx=>(Xl (hq x (atO _ hx)) (h5.2 x hx) (hc x hx).2).symm;have hkf:∀x∈c,(at_ x.kids 1).fine=true:=fun x hx=>by have wV:=h5.2 x hx;unfold dZ at wV;simp only[atu,atH]at wV;have hk2:=Uy wV.1.2;exact (x8 (hq x (atO _ hx)) wV.1.1).2 _ (by rw[hk2];simp)
  have hmk:pMake 3 (c++[z]) ((c++[z]).map pPlan)=.mk 3 [] (c.map pX) (c.map pW) [] [] [] [pPlan z]:=by show Pl.mk 3 [] (((c++[z]).take ((c++[z]).length - 1)).map pX) (((c++[z]).take ((c++[z]).length - 1)).map pW) [] [] [] (((c++[z]).map pPlan).drop ((c++[z]).length - 1))=_;rw[nX,hdr]
  rw[hmk];refine⟨?_,.inr (.inr (.inl ⟨rfl,rfl,fun e he=>?_,by rw[atq,atq],by rw[atq];have:=h5.1;simp at this;omega,fun s hs=>?_,rfl,rfl,rfl,rfl⟩)),g4,trivial⟩;show bU ((aN bM::List.zipWith bG (c.map pW) (c.map pX))++[aC (pPlan z)])=_;rw[List.zipWith_map,List.zipWith_self,hcs,g3,atB];rfl;obtain⟨x,hx,rfl⟩:=atV.1 he;exact VP (jl _ (hkf x hx)).2 (jl _ (hkf x hx)).1 (hc x hx).2;obtain⟨x,hx,rfl⟩:=atV.1 hs;exact yc (hc x hx).1;rw[hk]at h4 he⊢;rw[hs];have h5:(q.length==4&&(q.take 2).all dC)=true:=h4;rw[atu,atH]at h5
  match q,h5.1 with
  | [x,y,u,v],_=>
   have h6:(dC x&&(dC y&&true))=true:=h5.2;rw[atu,atu]at h6;have IG:∀e∈x.kids.map bn++(y.kids.map bn++[aZ u,aZ v]),e.1=0:=he;obtain⟨g1,g2⟩:=wU u (by simp) (IG _ (by simp));obtain⟨g3,g4⟩:=wU v (by simp) (IG _ (by simp));have hx:=(zI (hq x (by simp)) h6.1).1;have hy:=(zI (hq y (by simp)) h6.2.1).1;refine⟨?_,.inr (.inr (.inr (.inl ⟨rfl,rfl,rfl,rfl,fun s hs=>?_,fun s hs=>?_,rfl,rfl⟩))),g2,g4,trivial⟩;show bU ([aN gU,aU (x.kids.map T.s),aU (y.kids.map T.s)]++[aC (pPlan u),aC (pPlan v)])=_;rw[←hx,←hy,g1,g3];rfl;obtain⟨z,hz,rfl⟩:=atV.1 hs;exact yc (IG _ (atO _ (at7 hz)));obtain⟨z,hz,rfl⟩:=atV.1 hs;exact yc (IG _ (auk _ (atO _ (at7 hz))))
  rw[hk]at h4 he⊢;rw[hs];have h5:(q.length==2)=true:=h4;rw[atH]at h5;obtain⟨x,y,rfl⟩:=vG h5;obtain⟨g1,g2⟩:=wU x (by simp) (he (aZ x) (atz ..));obtain⟨g3,g4⟩:=wU y (by simp) (he (aZ y) (aty _ (atz ..)));refine⟨?_,.inr (.inr (.inr (.inr (.inl ⟨rfl,rfl,rfl,rfl,rfl,rfl,rfl,rfl⟩)))),g2,g4,trivial⟩;show bU ([aN fP]++[aC (pPlan x),aC (pPlan y)])=_;rw[g1,g3];rfl;rw[hk]at h4 he⊢;rw[hs];have h5:(q.length==1)=true:=h4;rw[atH]at h5;obtain⟨x,rfl⟩:=sO h5;obtain⟨g1,g2⟩:=wU x (by simp) (he (aZ x) (atz ..));refine⟨?_,.inr (.inr (.inr (.inr (.inr (.inl ⟨rfl,rfl,rfl,rfl,rfl,rfl,rfl,rfl⟩))))),g2,trivial⟩;show bU ([aN dw]++[aC (pPlan x)])=_;rw[g1];rfl;rw[hk]at h4 he⊢;rw[hs];have h5:(decide (2≤q.length)&&dC (at_ q 0)&&((q.take (q.length - 1)).drop 1).all dP)=true:=h4;rw[atu,atu,aun]at h5;obtain⟨x,r,rfl⟩:∃x r,q=x::r:=by
   cases q with
   | nil=>simp at h5
   | cons x r=>exact⟨x,r,rfl⟩
  obtain⟨c,z,rfl⟩:=QU (l:=r) (by have:=h5.1.1;simp at this;omega);have hlen:(x::(c++[z])).length - 1=c.length+1:=by simp
  have nX:((x::(c++[z])).take ((x::(c++[z])).length - 1)).drop 1=c:=by rw[hlen,auz,at6,auC,List.take_left'];rfl
  have hdr:∀{α:Type} (f:T→α),((x::(c++[z])).map f).drop ((x::(c++[z])).length - 1)=[f z]:=fun f=>by rw[hlen,atx,at6,atB,ave (by rw[atq])];rfl
  rw[nX,atL]at h5;have IG:∀e∈x.kids.map bn++(c.flatMap dQ++[aZ z]),e.1=0:=by have h6:∀e∈x.kids.map bn++((((x::(c++[z])).take ((x::(c++[z])).length - 1)).drop 1).flatMap dQ++((x::(c++[z])).map aZ).drop ((x::(c++[z])).length - 1)),e.1=0:=he;rwa [nX,hdr]at h6
  obtain⟨g3,g4⟩:=wU z (by simp) (IG _ (by simp));have hx:=(zI (hq x (by simp)) h5.1.2).1;have hcs:(c.map jQ).map eQ=c.map T.strip:=by rw[atI];exact aug fun y hy=>(Xm (hq y (by simp[hy])) (h5.2 y hy)).symm
  have hmk:pMake 7 (x::(c++[z])) ((x::(c++[z])).map pPlan)=.mk 7 [] [] [] (x.kids.map T.s) [] (c.map jQ) [pPlan z]:=by show Pl.mk 7 [] [] [] (x.kids.map T.s) [] ((((x::(c++[z])).take ((x::(c++[z])).length - 1)).drop 1).map jQ) (((x::(c++[z])).map pPlan).drop ((x::(c++[z])).length - 1))=_;rw[nX,hdr]
  rw[hmk];refine⟨?_,.inr (.inr (.inr (.inr (.inr (.inr ⟨rfl,rfl,rfl,rfl,fun s hs=>?_,rfl,fun a ha=>?_,rfl⟩))))),g4,trivial⟩;show bU ((aN dY::aU (x.kids.map T.s)::(c.map jQ).map eQ)++[aC (pPlan z)])=_;rw[←hx,hcs,g3,atx,atB];rfl;obtain⟨y,hy,rfl⟩:=atV.1 hs;exact yc (IG _ (atO _ (at7 hy)));obtain⟨y,hy,rfl⟩:=atV.1 ha;exact ZF (hq y (by simp[hy])) (h5.2 y hy) fun e he=>IG _ (auk _ (atO _ (auP.2 ⟨y,hy,he⟩)));rw[hk]at h4
  cases h4
mutual
theorem agN:∀t:T,FwP t
 | .mk k s n l p=>ZG k s n l p (adf l)
theorem adf:∀l:List T,∀t∈l,FwP t
 | []=>fun t h=>by cases h
 | a::l=>by intro t h;rcases atA.1 h with h1|h1;rw[h1];exact agN a;exact adf l t h1
end
end Go.Proofs.YtpbfokkocaemlaaGreatDoor
