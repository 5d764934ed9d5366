import Derived.Test.YtbgmhhfjkkfhpaaGreatDoorZ28G
set_option linter.unusedVariables false
set_option maxRecDepth 100000
set_option maxHeartbeats 64000000
namespace Go.Proofs.YtbgmhhfjkkfhpaaGreatDoor
open Go.RowKit
mutual
def T.strip:T->T
 | .mk k s n l _=>.mk k s n (T.strips l) 0
def T.strips:List T->List T
 | []=>[]
 | t::l=>t.strip::T.strips l
end
theorem T.pJ:∀l:List T,T.strips l=l.map T.strip
 | []=>by simp[T.strips]
 | t::l=>by simp[T.strips,T.pJ l]
theorem T.jo(k:Int)(s:By)(n:Int)(l:List T)(p:Nat):(T.mk k s n l p).strip=.mk k s n (l.map T.strip) 0:=by rw[T.strip,T.pJ]
mutual
def T.deep:T->Nat
 | .mk k _ _ l _=>if k=1 then T.lM l+1 else 0
def T.lM:List T->Nat
 | []=>0
 | t::l=>max t.deep (T.lM l)
end
def gB(k:Int)(s:By)(n:Int)(l:List T):Bool:=
 (k==2&&(!s.isEmpty&&s.all bC)&&(n==0&&decide (s.length<=1000))&&l.isEmpty)||(k==3&&s.isEmpty&&(decide (-9223372036854775808<=n)&&decide (n<=9223372036854775807))&&l.isEmpty)||(k==4&&decide (s.length<=40)&&n==0&&l.isEmpty)
mutual
def T.fine:T->Bool
 | .mk k s n l _=>(k==1&&s.isEmpty&&n==0&&T.uI l)||gB k s n l
def T.uI:List T->Bool
 | []=>true
 | t::l=>t.fine&&T.uI l
end
theorem ahB(p:UInt8->Bool)(h:∀i:Fin 256,p (UInt8.ofNat i.val)=true)(c:UInt8):p c=true:=by have h1:=h ⟨c.toNat,c.toNat_lt⟩;simpa using h1
theorem ad1(c:UInt8):bV c=yZ c:=by have:=ahB (λc=>bV c==yZ c) (by decide+kernel) c;exact aDn.1 this
theorem ad2(c:UInt8):gV (AX (c.toNat / 16))=some (c.toNat / 16)/\gV (AX (c.toNat % 16))=some (c.toNat % 16)/\UInt8.ofNat (16*(c.toNat / 16)+c.toNat % 16)=c:=by have:=ahB (λc=>gV (AX (c.toNat / 16))==some (c.toNat / 16)&&(gV (AX (c.toNat % 16))==some (c.toNat % 16)&&UInt8.ofNat (16*(c.toNat / 16)+c.toNat % 16)==c)) (by decide+kernel) c;simp only[aC9,aDn]at this;exact this
theorem Pm(c:UInt8)(h:bC c=true):(c.toNat==40)=false/\(c.toNat==41)=false/\(c.toNat==34)=false/\(c.toNat==45||aY c)=false/\dA c=false:=by have:=ahB (λc=>!bC c||(!(c.toNat==40)&&(!(c.toNat==41)&&(!(c.toNat==34)&&(!(c.toNat==45||aY c)&&!dA c))))) (by decide+kernel) c;rw[h]at this;simpa using this
theorem UM(c:UInt8)(h:aY c=true):(c.toNat==40)=false/\(c.toNat==41)=false/\(c.toNat==34)=false/\(c.toNat==45)=false/\dA c=false:=by have:=ahB (λc=>!aY c||(!(c.toNat==40)&&(!(c.toNat==41)&&(!(c.toNat==34)&&(!(c.toNat==45)&&!dA c))))) (by decide+kernel) c;rw[h]at this;simpa using this
def Lc(r:By):Prop:=r=[]∨∃c q,r=c::q/\(c=32∨c=41)
theorem FW(p:UInt8->Bool){r:By}(hr:∀c q,r=c::q->p c=false):∀s:By,(∀c∈s,p c=true)->sxRun p (s++r)=s.length
 | [],_=>by
  cases r with
  | nil=>rfl
  | cons c q=>simp[sxRun,hr c q rfl]
 | c::s,h=>by have h1:=FW p hr s λx hx=>h x (aDc _ hx);simp only[aDR,sxRun,h c (aC' ..),aDL,h1,aDh]
theorem UN{r:By}(h:Lc r):∀c q,r=c::q->bC c=false/\aY c=false:=by
 rintro c q rfl;rcases h with h|⟨c',q',h,hc⟩
 cases h;injection h with h1 h2
 subst h1;rcases hc with rfl|rfl<;>exact⟨ai,ai⟩
theorem abf{s r:By}(hs:s≠[])(hl:∀c∈s,bC c=true)(hr:Lc r):bJ (s++r)=⟨2,s,0,s.length,0,0⟩:=by
 have hrun:=FW bC (λc q e=>(UN hr c q e).1) s hl
 cases s with
 | nil=>exact absurd rfl hs
 | cons c s=>
  have hc:=hl c (aC' ..);obtain⟨h1,h2,h3,h4,_⟩:=Pm c hc;rw[aDR]at hrun|-;unfold bJ;simp only[h1,h2,h3,h4,hc,aDq,aDU,aDL,hrun];rw[<-aDR,aEY]
theorem UO{d:Nat}(h:d<10):aY (UInt8.ofNat (48+d))=true/\((UInt8.ofNat (48+d)).toNat:Int)-48=(d:Int):=by
 have:∀d:Fin 10,aY (UInt8.ofNat (48+d.val))=true/\((UInt8.ofNat (48+d.val)).toNat:Int)-48=(d.val:Int):=by decide+kernel
 exact this ⟨d,h⟩
theorem below_app:∀(l:By) (c:UInt8) (n:Int),sxBelow (l++[c]) n=match sxBelow l n with|none=>none|some m=>sxBelow [c] m
 | [],c,n=>rfl
 | x::l,c,n=>by
  simp only[aDR]
  conv=>lhs;unfold sxBelow
  conv=>rhs;unfold sxBelow
  split;rfl;exact below_app l c _
theorem FX(u:Nat):u<=9223372036854775808->(∀c∈Lib.decDigits u,aY c=true)/\sxBelow (Lib.decDigits u) 0=some (-(u:Int))/\Lib.decDigits u≠[]:=by
 induction u using Nat.strongRecOn with
 | _ u ih=>
  intro hu;by_cases h:u<10;obtain⟨h1,h2⟩:=UO h;rw[Lib.decDigits_one h];refine⟨λc hc=>by rw[aDM]at hc;rw[hc];exact h1,?_,aj⟩;unfold sxBelow;rw[h2,if_neg ae];unfold sxBelow;congr 1;omega;obtain⟨h1,h2,h3⟩:=ih (u / 10) ae ae;obtain⟨d1,d2⟩:=UO (show u % 10<10 by omega);rw[Lib.decDigits,dif_neg h];refine⟨λc hc=>?_,?_,aj⟩;rcases aDm.1 hc with hc|hc;exact h1 c hc;rw[aDM]at hc;rw[hc];exact d1;rw[below_app,h2];simp only;unfold sxBelow;rw[d2,if_neg ae];unfold sxBelow;congr 1;omega
theorem Ld{d r:By}(hd:∀c∈d,aY c=true)(hr:Lc r):dC (d++r)=d:=by unfold dC;rw[FW aY (λc q e=>(UN hr c q e).2) d hd,aEY]
theorem scan_num{n:Int}{r:By}(h1:-9223372036854775808<=n)(h2:n<=9223372036854775807)(hr:Lc r):bJ (Lib.itoa n++r)=⟨3,[],n,(Lib.itoa n).length,0,0⟩:=by
 unfold Lib.itoa;split;rename_i hn;obtain⟨hd,hb,hne⟩:=FX n.natAbs ae;have he:(Lib.decDigits n.natAbs).isEmpty=false:=by cases h:Lib.decDigits n.natAbs with|nil=>exact absurd h hne|cons a b=>rfl
 rw[aDR];unfold bJ;have c1:((45:UInt8).toNat==40)=false:=ai;have c2:((45:UInt8).toNat==41)=false:=ai;have c3:((45:UInt8).toNat==34)=false:=ai;have c4:((45:UInt8).toNat==45)=true:=ai;simp only[c1,c2,c3,c4,Bool.true_or,aDq,aDU,aDL];unfold dL;simp only[c4,aDL];rw[Ld hd hr];unfold sxNum;rw[hb];simp only[he,aD0,Bool.or_self,aDq,aDU];congr 1;omega;rw[aDh];omega;rename_i hn;obtain⟨hd,hb,hne⟩:=FX n.toNat ae
 cases hl:Lib.decDigits n.toNat with
 | nil=>exact absurd hl hne
 | cons c q=>
  rw[hl]at hd hb;obtain⟨n1,n2,n3,n4,_⟩:=UM c (hd c (aC' ..));rw[aDR];unfold bJ;simp only[n1,n2,n3,hd c (aC' ..),Bool.or_true,aDq,aDU,aDL];unfold dL;simp only[n4,aDq,aDU];rw[<-aDR,Ld hd hr];unfold sxNum;rw[hb];have hx:decide (-(n.toNat:Int)=-9223372036854775808)=false:=aDB ae;simp only[hx,List.isEmpty_cons,Bool.and_false,Bool.or_self,aDq,aDU,aDL];congr 1;omega
theorem ZH:∀(s b:By) (r:By) (i:Nat),sxTextGo b (s.flatMap ny++34::r) i=if 40<(b++s).length then aW 3 0 else ⟨4,b++s,0,i+(s.flatMap ny).length+1,0,0⟩
 | [],b,r,i=>by simp only[List.flatMap_nil,aDW,aD5];unfold sxTextGo;have c1:bV (34:UInt8)=false:=ai;have c2:((34:UInt8).toNat==92)=false:=ai;have c3:((34:UInt8).toNat==34)=true:=ai;simp only[c1,c2,c3,aDq,aDU,aDL];rfl
 | c::s,b,r,i=>by
  have ih:=ZH s (b++[c]) r;rw[aEp,aDA];by_cases hp:yZ c=true;have e:ny c=[c]:=by unfold ny;rw[if_pos hp]
  rw[e];simp only[aDR,aDW]
  conv=>lhs;unfold sxTextGo
  simp only[ad1,hp,aDL];rw[ih (i+1)];simp only[aDA,aDR,aDW,aDh];congr 2;omega;have hp':yZ c=false:=by simpa using hp
  have e:ny c=[92,AX (c.toNat / 16),AX (c.toNat % 16)]:=by unfold ny;rw[if_neg hp]
  obtain⟨x1,x2,x3⟩:=ad2 c;rw[e];simp only[aDR,aDW]
  conv=>lhs;unfold sxTextGo
  have c1:bV (92:UInt8)=false:=ai;have c2:((92:UInt8).toNat==92)=true:=ai;simp only[c1,c2,aDq,aDU,aDL,x1,x2,x3];rw[ih (i+3)];simp only[aDA,aDR,aDW,aDh];congr 2;omega
theorem XE{s r:By}(h:s.length<=40):bJ (oh s++r)=⟨4,s,0,(oh s).length,0,0⟩:=by unfold oh;rw[aDR,aDA];unfold bJ;have c1:((34:UInt8).toNat==40)=false:=ai;have c2:((34:UInt8).toNat==41)=false:=ai;have c3:((34:UInt8).toNat==34)=true:=ai;simp only[c1,c2,c3,aDq,aDU,aDL];have:=ZH s [] r 1;simp only[aDW]at this;rw[aDR,aDW,this,if_neg ae];congr 1;rw[aDh,aDd];simp only[aDh,aDZ];omega
theorem abg{s:By}(h:s.length<=40):showV 2 0 ⟨s.toArray⟩=oh s:=by
 have hr:ed 2 0 ⟨s.toArray⟩=true:=by simp[ed,ByteArray.size,h]
 simp[showV,hr]
theorem FY{k:Int}{s:By}{n:Int}{l:List T}{p:Nat}(h:gB k s n l=true){r:By}(hr:Lc r):
  ∃c q,printS (.mk k s n l p)=c::q/\dA c=false/\bJ (printS (.mk k s n l p)++r)=⟨k,s,n,(printS (.mk k s n l p)).length,0,0⟩/\(k==1)=false/\(k==-1)=false/\l=[]:=by
 unfold gB at h;simp only[aDC,aC9,aDn,aDV,aEJ,aEZ,aDs]at h;rcases h with (⟨⟨⟨rfl,hs,hl⟩,rfl,_⟩,rfl⟩|⟨⟨⟨rfl,rfl⟩,h1,h2⟩,rfl⟩)|⟨⟨⟨rfl,hs⟩,rfl⟩,rfl⟩
 have e:printS (.mk 2 s 0 [] p)=s:=by simp[printS]
 have hs':s≠[]:=by rintro rfl;simp at hs
 rw[e,abf hs' hl hr]
 cases s with
 | nil=>exact absurd rfl hs'
 | cons c q=>exact⟨c,q,rfl,(Pm c (hl c (aC' ..))).2.2.2.2,rfl,rfl,rfl,rfl⟩
 have e:printS (.mk 3 [] n [] p)=Lib.itoa n:=by simp[printS]
 rw[e,scan_num h1 h2 hr];have:∃c q,Lib.itoa n=c::q/\dA c=false:=by
  unfold Lib.itoa;split;exact⟨45,_,rfl,ai⟩;rename_i hn;obtain⟨hd,_,hne⟩:=FX n.toNat ae
  cases hl:Lib.decDigits n.toNat with
  | nil=>exact absurd hl hne
  | cons c q=>
   rw[hl]at hd;exact⟨c,q,rfl,(UM c (hd c (aC' ..))).2.2.2.2⟩
 obtain⟨c,q,h3,h4⟩:=this;exact⟨c,q,h3,h4,rfl,rfl,rfl,rfl⟩;have e:printS (.mk 4 s 0 [] p)=oh s:=by simp[printS,abg hs]
 rw[e,XE hs];exact⟨34,_,rfl,ai,rfl,rfl,rfl,rfl⟩
theorem sN(p:Nat)(s:By)(n:Int)(l:List T):printS (.mk 1 s n l p)=40::(printL true l++[41]):=by simp[printS]
theorem XF{t:T}(h:t.fine=true):∃c q,printS t=c::q/\dA c=false:=by
 cases t with
 | mk k s n l p=>
  rw[T.fine,aDC]at h;rcases h with h|h;simp only[aC9,aDn]at h;obtain⟨⟨⟨rfl,_⟩,_⟩,_⟩:=h;exact⟨40,_,sN p s n l,ai⟩;obtain⟨c,q,h1,h2,_⟩:=FY (p:=p) h (r:=[]) (.inl rfl);exact⟨c,q,h1,h2⟩
theorem go_blanks{c:UInt8}{q:By}(hb:dA c=false)(f:Nat)(os:List T)(pos:Nat):sxGo (f+1) os (32::c::q) pos=sxGo (f+1) os (c::q) (pos+1):=by
 have e1:sxRun dA (32::c::q)=1:=by have:dA 32=true:=ai;simp[sxRun,this,hb]
 have e2:sxRun dA (c::q)=0:=by simp[sxRun,hb]
 conv=>lhs;unfold sxGo
 conv=>rhs;unfold sxGo
 simp only[e1,e2,aDJ,aEc,aDw]
theorem go_step{c:UInt8}{q:By}(hb:dA c=false)(f:Nat)(os:List T)(pos:Nat):sxGo (f+1) os (c::q) pos=
  if (iF os (bJ (c::q))).1==0 then sxGo f (sxTake os ((bJ (c::q)).tree pos)) ((c::q).drop (bJ (c::q)).size) (pos+(bJ (c::q)).size)
  else (dQ,(iF os (bJ (c::q))).1,pos+(iF os (bJ (c::q))).2):=by
 have e2:sxRun dA (c::q)=0:=by simp[sxRun,hb]
 conv=>lhs;unfold sxGo
 simp only[e2,aEc,aDw]
theorem abh{os:List T}(h:os≠[])(e:T):sxDone (os++[e])=sxDone os:=by
 cases os with
 | nil=>exact absurd rfl h
 | cons a b=>rfl
def T.adds(e:T)(l:List T):T:=.mk e.kind e.s e.n (e.kids++l) e.pos
theorem T.DL(e:T):e.adds []=e:=by cases e;simp[T.adds,T.kind,T.s,T.n,T.kids,T.pos]
theorem T.abj(e t:T)(l:List T):(e.add t).adds l=e.adds (t::l):=by simp[T.adds,T.add,T.kind,T.s,T.n,T.kids,T.pos]
def ZI(t:T):Prop:=∀(os:List T) (r:By) (pos f:Nat),os≠[]->sxDone os=false->Lc r->(printS t).length+r.length<f->
 (os.length+t.deep<=13->∃t' f' pos',t'.strip=t.strip/\r.length<f'/\sxGo f os (printS t++r) pos=sxGo f' (sxPut os t') r pos')/\
 (13<os.length+t.deep->os.length<=13->∃x,sxGo f os (printS t++r) pos=(dQ,14,x))
def ZJ(l:List T):Prop:=∀(b:Bool) (os:List T) (e:T) (r:By) (pos f:Nat),os≠[]->sxDone os=false->(∃q,r=41::q)->(printL b l).length+r.length<f->
 (os.length+1+T.lM l<=13->∃l' f' pos',l'.map T.strip=l.map T.strip/\r.length<f'/\sxGo f (os++[e]) (printL b l++r) pos=sxGo f' (os++[e.adds l']) r pos')/\
 (13<os.length+1+T.lM l->os.length+1<=13->∃x,sxGo f (os++[e]) (printL b l++r) pos=(dQ,14,x))
theorem abk(t:T)(l:List T)(ht:t.fine=true)(h1:ZI t)(h2:ZJ l):ZJ (t::l):=by
 intro b os e r pos f h0 hd hr hf;obtain⟨c,q,hp,hb⟩:=XF ht;have hne:os++[e]≠[]:=aj;have UQ:sxDone (os++[e])=false:=by rw[abh h0];exact hd
 have hr2:Lc (printL false l++r):=by
  cases l with
  | nil=>
   obtain⟨q',rfl⟩:=hr;exact .inr ⟨41,q',by simp[printL],.inr rfl⟩
  | cons a l=>exact .inr ⟨32,_,by simp[printL];rfl,.inl rfl⟩
 have hstart:∃akR,sxGo f (os++[e]) (printL b (t::l)++r) pos=sxGo f (os++[e]) (printS t++(printL false l++r)) akR:=by
  cases b
  ·refine⟨pos+1,?_⟩;rw[printL];simp only[aDq,aDU,aDA,aDR,aDW];rw[hp];obtain⟨g,rfl⟩:∃g,f=g+1:=⟨f-1,ae⟩
   simp only[aDR];exact go_blanks hb g _ _
  refine⟨pos,?_⟩;rw[printL];simp only[aDL,aDW,aDA]
 obtain⟨akR,hs⟩:=hstart;have hlen:(printS t).length+(printL false l++r).length<f:=by
  have:(printL b (t::l)).length≥(printS t).length+(printL false l).length:=by
   rw[printL]
   cases b<;>simp
  rw[aDd];omega
 obtain⟨g1,g2⟩:=h1 (os++[e]) (printL false l++r) akR f hne UQ hr2 hlen;have hol:(os++[e]).length=os.length+1:=aj;rw[hol]at g1 g2;rw[hs];constructor;intro hdp;rw[T.lM]at hdp;have hA:os.length+1+t.deep<=13:=by have:=Nat.le_max_left t.deep (T.lM l);omega
 have hB:os.length+1+T.lM l<=13:=by have:=Nat.le_max_right t.deep (T.lM l);omega
 clear hdp g2;obtain⟨t',f',pos',hst,hf',heq⟩:=g1 hA;rw[aDd]at hf';obtain⟨k1,_⟩:=h2 false os (e.add t') r pos' f' h0 hd hr hf';obtain⟨l',f2,ati,H5,hf2,atj⟩:=k1 hB;refine⟨t'::l',f2,ati,by simp[hst,H5],hf2,?_⟩;rw[heq,mX,atj,T.abj];intro hdp hle;rw[T.lM]at hdp;by_cases atl:os.length+1+t.deep<=13;have hB:13<os.length+1+T.lM l:=by rcases Nat.le_total t.deep (T.lM l) with h|h;rw[Nat.max_eq_right h]at hdp;exact hdp;rw[Nat.max_eq_left h]at hdp;omega
 clear hdp g2;obtain⟨t',f',pos',hst,hf',heq⟩:=g1 atl;rw[aDd]at hf';obtain⟨_,k2⟩:=h2 false os (e.add t') r pos' f' h0 hd hr hf';rw[heq,mX];exact k2 hB hle;exact g2 ae hle
theorem abm{k:Int}{s:By}{n:Int}{l:List T}{p:Nat}(h:gB k s n l=true):ZI (.mk k s n l p):=by
 intro os r pos f h0 hd hr hf;obtain⟨c,q,hp,hb,hsc,nX,hk2,hl⟩:=FY (p:=p) h hr;subst hl;have hdp:(T.mk k s n [] p).deep=0:=by rw[T.deep,if_neg (aC7.1 nX)]
 obtain⟨g,rfl⟩:∃g,f=g+1:=⟨f-1,ae⟩
 rw[hdp];refine⟨λhle=>?_,λh13 hle=>by omega⟩;rw[hp]at hsc hf|-;rw[aDR,go_step hb,<-aDR,hsc];have hj:iF os ⟨k,s,n,(c::q).length,0,0⟩=(0,0):=by unfold iF;simp[hd,nX,hk2]
 have atm:=aC7.1 nX;have atn:=aC7.1 hk2;have ht:sxTake os ((Tk.mk k s n (c::q).length 0 0).tree pos)=sxPut os (.mk k s n [] pos):=by unfold sxTake Tk.tree;simp[T.kind,atm,atn]
 rw[hj];simp only[aD_,aDL];rw[ht,List.drop_left];refine⟨.mk k s n [] pos,g,_,by simp[T.jo],by simp at hf;omega,rfl⟩
theorem abn{l:List T}{p:Nat}(h:ZJ l):ZI (.mk 1 [] 0 l p):=by
 intro os r pos f h0 hd hr hf;rw[sN]at hf|-;simp only[aDh,aDd,aDZ]at hf;obtain⟨g,rfl⟩:∃g,f=g+1:=⟨f-1,ae⟩
 have hb:dA 40=false:=ai;have hsc:∀q,bJ (40::q)=⟨1,[],0,1,0,0⟩:=λq=>by unfold bJ;rfl
 have hdp:(T.mk 1 [] 0 l p).deep=T.lM l+1:=by rw[T.deep,if_pos rfl]
 rw[hdp,aDR,go_step hb,hsc,aDA];have hj:iF os ⟨1,[],0,1,0,0⟩=if 12<os.length then (14,0) else (0,0):=by unfold iF;simp[hd]
 rw[hj];by_cases h12:12<os.length;rw[if_pos h12];refine⟨λhle=>by omega,λ_ _=>⟨pos,aj⟩⟩;rw[if_neg h12];simp only[aD_,aDL,aDJ,aEc];have ht:sxTake os ((Tk.mk 1 [] 0 1 0 0).tree pos)=os++[.mk 1 [] 0 [] pos]:=by unfold sxTake Tk.tree;simp[T.kind]
 rw[ht];obtain⟨k1,k2⟩:=h true os (.mk 1 [] 0 [] pos) ([41]++r) (pos+1) g h0 hd ⟨r,rfl⟩ (by simp;omega);refine⟨λhle=>?_,λh13 hle=>k2 ae ae⟩;obtain⟨l',f',pos',hst,hf',heq⟩:=k1 ae;simp only[aDd,aDh,aDZ]at hf';obtain⟨g',rfl⟩:∃g',f'=g'+1:=⟨f'-1,ae⟩
 rw[heq];have hb2:dA 41=false:=ai;have ato:bJ (41::r)=⟨-1,[],0,1,0,0⟩:=by unfold bJ;rfl
 have hj2:iF (os++[(T.mk 1 [] 0 [] pos).adds l']) ⟨-1,[],0,1,0,0⟩=(0,0):=by unfold iF;simp[h0]
 rw[aDR,aDW,go_step hb2,ato,hj2];simp only[aD_,aDL,aDJ,aEc];have ht2:sxTake (os++[(T.mk 1 [] 0 [] pos).adds l']) ((Tk.mk (-1) [] 0 1 0 0).tree pos')=sxPut os ((T.mk 1 [] 0 [] pos).adds l'):=by unfold sxTake Tk.tree;simp[T.kind]
 rw[ht2];refine⟨(T.mk 1 [] 0 [] pos).adds l',g',_,?_,ae,rfl⟩;simp only[T.adds,T.kind,T.s,T.n,T.kids,T.pos,aDW];rw[T.jo,T.jo,hst]
mutual
theorem Pn:∀t:T,t.fine=true->ZI t
 | .mk k s n l p,h=>by have hl:=Le l;rw[T.fine,aDC]at h;rcases h with h|h;simp only[aC9,aDn,aEZ]at h;obtain⟨⟨⟨rfl,rfl⟩,rfl⟩,h4⟩:=h;exact abn (hl h4);exact abm h
theorem Le:∀l:List T,T.uI l=true->ZJ l
 | [],_=>by intro b os e r pos f h0 hd hr hf;refine⟨λ_=>⟨[],f,pos,rfl,ae,?_⟩,λh13 hle=>by simp[T.lM]at h13;omega⟩;rw[T.DL];simp[printL]
 | t::l,h=>by rw[T.uI,aC9]at h;exact abk t l h.1 (Pn t h.1) (Le l h.2)
end
theorem XG(t:T)(h:t.fine=true):(600<(printS t).length->fH (printS t)=(dQ,3,0))/\
  ((printS t).length<=600->t.deep<=12->∃t',t'.strip=t.strip/\fH (printS t)=(t',0,0))/\
  ((printS t).length<=600->12<t.deep->∃x,fH (printS t)=(dQ,14,x)):=by
 have hg:=Pn t h [dQ] [] 0 ((printS t).length+1) aj rfl (.inl rfl) aj;rw[aD5]at hg;have h1:([dQ]:List T).length=1:=rfl;rw[h1]at hg;refine⟨λhl=>by unfold fH;rw[if_pos hl],λhl hd=>?_,λhl hd=>?_⟩;obtain⟨t',f',pos',hst,hf',heq⟩:=hg.1 ae;refine⟨t',hst,?_⟩;unfold fH;rw[if_neg ae,heq];obtain⟨g,rfl⟩:∃g,f'=g+1:=⟨f'-1,by simp at hf';omega⟩
 unfold sxGo;simp[sxPut,dQ,T.add,T.kids,jX,sxRun];obtain⟨x,hx⟩:=hg.2 ae ae;exact⟨x,by unfold fH;rw[if_neg ae,hx]⟩
end Go.Proofs.YtbgmhhfjkkfhpaaGreatDoor
