import Derived.Test.YtpbfokkocaemlaaGreatDoorZ22J
set_option linter.unusedVariables false
set_option maxRecDepth 100000
set_option maxHeartbeats 64000000
namespace Go.Proofs.YtpbfokkocaemlaaGreatDoor
open Go.RowKit
mutual
def T.strip:T->T
 | .mk k s n l _=>.mk k s n (T.strips l) 0
def T.strips:List T->List T
 | []=>[]
 | t::l=>t.strip::T.strips l
end
theorem T.qL:∀l:List T,T.strips l=l.map T.strip
 | []=>by simp[T.strips]
 | t::l=>by simp[T.strips,T.qL l]
theorem T.jB(k:Int)(s:By)(n:Int)(l:List T)(p:Nat):(T.mk k s n l p).strip=.mk k s n (l.map T.strip) 0:=by rw[T.strip,T.qL]
mutual
def T.deep:T->Nat
 | .mk k _ _ l _=>if k=1 then T.oM l+1 else 0
def T.oM:List T->Nat
 | []=>0
 | t::l=>max t.deep (T.oM l)
end
def gZ(k:Int)(s:By)(n:Int)(l:List T):Bool:=
 (k==2&&(!s.isEmpty&&s.all bn)&&(n==0&&decide (s.length<=1000))&&l.isEmpty)||(k==3&&s.isEmpty&&(decide (-9223372036854775808<=n)&&decide (n<=9223372036854775807))&&l.isEmpty)||(k==4&&decide (s.length<=40)&&n==0&&l.isEmpty)
mutual
def T.fine:T->Bool
 | .mk k s n l _=>(k==1&&s.isEmpty&&n==0&&T.wO l)||gZ k s n l
def T.wO:List T->Bool
 | []=>true
 | t::l=>t.fine&&T.wO l
end
theorem adi(p:UInt8->Bool)(h:∀i:Fin 256,p (UInt8.ofNat i.val)=true)(c:UInt8):p c=true:=by have h1:=h ⟨c.toNat,c.toNat_lt⟩;simpa using h1
theorem aau(c:UInt8):bY c=lZ c:=by have:=adi (λc=>bY c==lZ c) (by decide+kernel) c;exact awx.1 this
theorem aav(c:UInt8):iq (mD (c.toNat / 16))=some (c.toNat / 16)/\iq (mD (c.toNat % 16))=some (c.toNat % 16)/\UInt8.ofNat (16*(c.toNat / 16)+c.toNat % 16)=c:=by have:=adi (λc=>iq (mD (c.toNat / 16))==some (c.toNat / 16)&&(iq (mD (c.toNat % 16))==some (c.toNat % 16)&&UInt8.ofNat (16*(c.toNat / 16)+c.toNat % 16)==c)) (by decide+kernel) c;simp only[awk,awx]at this;exact this
theorem Ol(c:UInt8)(h:bn c=true):(c.toNat==40)=false/\(c.toNat==41)=false/\(c.toNat==34)=false/\(c.toNat==45||aY c)=false/\dE c=false:=by have:=adi (λc=>!bn c||(!(c.toNat==40)&&(!(c.toNat==41)&&(!(c.toNat==34)&&(!(c.toNat==45||aY c)&&!dE c))))) (by decide+kernel) c;rw[h]at this;simpa using this
theorem RY(c:UInt8)(h:aY c=true):(c.toNat==40)=false/\(c.toNat==41)=false/\(c.toNat==34)=false/\(c.toNat==45)=false/\dE c=false:=by have:=adi (λc=>!aY c||(!(c.toNat==40)&&(!(c.toNat==41)&&(!(c.toNat==34)&&(!(c.toNat==45)&&!dE c))))) (by decide+kernel) c;rw[h]at this;simpa using this
def JE(r:By):Prop:=r=[]∨∃c q,r=c::q/\(c=32∨c=41)
theorem FK(p:UInt8->Bool){r:By}(hr:∀c q,r=c::q->p c=false):∀s:By,(∀c∈s,p c=true)->sxRun p (s++r)=s.length
 | [],_=>by
  cases r with
  | nil=>rfl
  | cons c q=>simp[sxRun,hr c q rfl]
 | c::s,h=>by have h1:=FK p hr s λx hx=>h x (awn _ hx);simp only[awV,sxRun,h c (awp ..),if_true,h1,awr]
theorem RZ{r:By}(h:JE r):∀c q,r=c::q->bn c=false/\aY c=false:=by
 rintro c q rfl;rcases h with h|⟨c',q',h,hc⟩
 cases h;injection h with h1 h2
 subst h1;rcases hc with rfl|rfl<;>exact⟨ai,ai⟩
theorem Yw{s r:By}(hs:s≠[])(hl:∀c∈s,bn c=true)(hr:JE r):bK (s++r)=⟨2,s,0,s.length,0,0⟩:=by
 have hrun:=FK bn (λc q e=>(RZ hr c q e).1) s hl
 cases s with
 | nil=>exact absurd rfl hs
 | cons c s=>
  have hc:=hl c (awp ..);obtain⟨h1,h2,h3,h4,_⟩:=Ol c hc;rw[awV]at hrun|-;unfold bK;simp only[h1,h2,h3,h4,hc,awv,if_false,if_true,hrun];rw[<-awV,ax0]
theorem R_{d:Nat}(h:d<10):aY (UInt8.ofNat (48+d))=true/\((UInt8.ofNat (48+d)).toNat:Int) - 48=(d:Int):=by
 have:∀d:Fin 10,aY (UInt8.ofNat (48+d.val))=true/\((UInt8.ofNat (48+d.val)).toNat:Int) - 48=(d.val:Int):=by decide+kernel
 exact this ⟨d,h⟩
theorem below_app:∀(l:By) (c:UInt8) (n:Int),sxBelow (l++[c]) n=match sxBelow l n with|none=>none|some m=>sxBelow [c] m
 | [],c,n=>rfl
 | x::l,c,n=>by
  simp only[awV]
  conv=>lhs;unfold sxBelow
  conv=>rhs;unfold sxBelow
  split;rfl;exact below_app l c _
theorem FN(u:Nat):u<=9223372036854775808->(∀c∈Lib.decDigits u,aY c=true)/\sxBelow (Lib.decDigits u) 0=some (-(u:Int))/\Lib.decDigits u≠[]:=by
 induction u using Nat.strongRecOn with
 | _ u ih=>
  intro hu;by_cases h:u<10;obtain⟨h1,h2⟩:=R_ h;rw[Lib.decDigits_one h];refine⟨λc hc=>by rw[List.mem_singleton]at hc;rw[hc];exact h1,?_,aj⟩;unfold sxBelow;rw[h2,if_neg ae];unfold sxBelow;congr 1;omega;obtain⟨h1,h2,h3⟩:=ih (u / 10) ae ae;obtain⟨d1,d2⟩:=R_ (show u % 10<10 by omega);rw[Lib.decDigits,dif_neg h];refine⟨λc hc=>?_,?_,aj⟩;rcases awD.1 hc with hc|hc;exact h1 c hc;rw[List.mem_singleton]at hc;rw[hc];exact d1;rw[below_app,h2];simp only;unfold sxBelow;rw[d2,if_neg ae];unfold sxBelow;congr 1;omega
theorem JG{d r:By}(hd:∀c∈d,aY c=true)(hr:JE r):dJ (d++r)=d:=by unfold dJ;rw[FK aY (λc q e=>(RZ hr c q e).2) d hd,ax0]
theorem scan_num{n:Int}{r:By}(h1:-9223372036854775808<=n)(h2:n<=9223372036854775807)(hr:JE r):bK (Lib.itoa n++r)=⟨3,[],n,(Lib.itoa n).length,0,0⟩:=by
 unfold Lib.itoa;split;rename_i hn;obtain⟨hd,hb,hne⟩:=FN n.natAbs ae;have he:(Lib.decDigits n.natAbs).isEmpty=false:=by cases h:Lib.decDigits n.natAbs with|nil=>exact absurd h hne|cons a b=>rfl
 rw[awV];unfold bK;have c1:((45:UInt8).toNat==40)=false:=ai;have c2:((45:UInt8).toNat==41)=false:=ai;have c3:((45:UInt8).toNat==34)=false:=ai;have c4:((45:UInt8).toNat==45)=true:=ai;simp only[c1,c2,c3,c4,Bool.true_or,awv,if_false,if_true];unfold dO;simp only[c4,if_true];rw[JG hd hr];unfold sxNum;rw[hb];simp only[he,aw6,Bool.or_self,awv,if_false];congr 1;omega;rw[awr];omega;rename_i hn;obtain⟨hd,hb,hne⟩:=FN n.toNat ae
 cases hl:Lib.decDigits n.toNat with
 | nil=>exact absurd hl hne
 | cons c q=>
  rw[hl]at hd hb;obtain⟨n1,n2,n3,n4,_⟩:=RY c (hd c (awp ..));rw[awV];unfold bK;simp only[n1,n2,n3,hd c (awp ..),Bool.or_true,awv,if_false,if_true];unfold dO;simp only[n4,awv,if_false];rw[<-awV,JG hd hr];unfold sxNum;rw[hb];have hx:decide (-(n.toNat:Int)=-9223372036854775808)=false:=awY ae;simp only[hx,List.isEmpty_cons,Bool.and_false,Bool.or_self,awv,if_false,if_true];congr 1;omega
theorem Xn:∀(s b:By) (r:By) (i:Nat),sxTextGo b (s.flatMap iV++34::r) i=if 40<(b++s).length then aX 3 0 else ⟨4,b++s,0,i+(s.flatMap iV).length+1,0,0⟩
 | [],b,r,i=>by simp only[List.flatMap_nil,axd,axE];unfold sxTextGo;have c1:bY (34:UInt8)=false:=ai;have c2:((34:UInt8).toNat==92)=false:=ai;have c3:((34:UInt8).toNat==34)=true:=ai;simp only[c1,c2,c3,awv,if_false,if_true];rfl
 | c::s,b,r,i=>by
  have ih:=Xn s (b++[c]) r;rw[axv,awI];by_cases hp:lZ c=true;have e:iV c=[c]:=by unfold iV;rw[if_pos hp]
  rw[e];simp only[awV,axd]
  conv=>lhs;unfold sxTextGo
  simp only[aau,hp,if_true];rw[ih (i+1)];simp only[awI,awV,axd,awr];congr 2;omega;have hp':lZ c=false:=by simpa using hp
  have e:iV c=[92,mD (c.toNat / 16),mD (c.toNat % 16)]:=by unfold iV;rw[if_neg hp]
  obtain⟨x1,x2,x3⟩:=aav c;rw[e];simp only[awV,axd]
  conv=>lhs;unfold sxTextGo
  have c1:bY (92:UInt8)=false:=ai;have c2:((92:UInt8).toNat==92)=true:=ai;simp only[c1,c2,awv,if_false,if_true,x1,x2,x3];rw[ih (i+3)];simp only[awI,awV,axd,awr];congr 2;omega
theorem Vl{s r:By}(h:s.length<=40):bK (mX s++r)=⟨4,s,0,(mX s).length,0,0⟩:=by unfold mX;rw[awV,awI];unfold bK;have c1:((34:UInt8).toNat==40)=false:=ai;have c2:((34:UInt8).toNat==41)=false:=ai;have c3:((34:UInt8).toNat==34)=true:=ai;simp only[c1,c2,c3,awv,if_false,if_true];have:=Xn s [] r 1;simp only[axd]at this;rw[awV,axd,this,if_neg ae];congr 1;rw[awr,awl];simp only[awr,aw'];omega
theorem Yx{s:By}(h:s.length<=40):showV 2 0 ⟨s.toArray⟩=mX s:=by
 have hr:iG 2 0 ⟨s.toArray⟩=true:=by simp[iG,ByteArray.size,h]
 simp[showV,hr]
theorem FP{k:Int}{s:By}{n:Int}{l:List T}{p:Nat}(h:gZ k s n l=true){r:By}(hr:JE r):
  ∃c q,printS (.mk k s n l p)=c::q/\dE c=false/\bK (printS (.mk k s n l p)++r)=⟨k,s,n,(printS (.mk k s n l p)).length,0,0⟩/\(k==1)=false/\(k==-1)=false/\l=[]:=by
 unfold gZ at h;simp only[awP,awk,awx,aw7,axC,axL,awF]at h;rcases h with (⟨⟨⟨rfl,hs,hl⟩,rfl,_⟩,rfl⟩|⟨⟨⟨rfl,rfl⟩,h1,h2⟩,rfl⟩)|⟨⟨⟨rfl,hs⟩,rfl⟩,rfl⟩
 have e:printS (.mk 2 s 0 [] p)=s:=by simp[printS]
 have hs':s≠[]:=by rintro rfl;simp at hs
 rw[e,Yw hs' hl hr]
 cases s with
 | nil=>exact absurd rfl hs'
 | cons c q=>exact⟨c,q,rfl,(Ol c (hl c (awp ..))).2.2.2.2,rfl,rfl,rfl,rfl⟩
 have e:printS (.mk 3 [] n [] p)=Lib.itoa n:=by simp[printS]
 rw[e,scan_num h1 h2 hr];have:∃c q,Lib.itoa n=c::q/\dE c=false:=by
  unfold Lib.itoa;split;exact⟨45,_,rfl,ai⟩;rename_i hn;obtain⟨hd,_,hne⟩:=FN n.toNat ae
  cases hl:Lib.decDigits n.toNat with
  | nil=>exact absurd hl hne
  | cons c q=>
   rw[hl]at hd;exact⟨c,q,rfl,(RY c (hd c (awp ..))).2.2.2.2⟩
 obtain⟨c,q,h3,h4⟩:=this;exact⟨c,q,h3,h4,rfl,rfl,rfl,rfl⟩;have e:printS (.mk 4 s 0 [] p)=mX s:=by simp[printS,Yx hs]
 rw[e,Vl hs];exact⟨34,_,rfl,ai,rfl,rfl,rfl,rfl⟩
theorem qM(p:Nat)(s:By)(n:Int)(l:List T):printS (.mk 1 s n l p)=40::(printL true l++[41]):=by simp[printS]
theorem Vm{t:T}(h:t.fine=true):∃c q,printS t=c::q/\dE c=false:=by
 cases t with
 | mk k s n l p=>
  rw[T.fine,awP]at h;rcases h with h|h;simp only[awk,awx]at h;obtain⟨⟨⟨rfl,_⟩,_⟩,_⟩:=h;exact⟨40,_,qM p s n l,ai⟩;obtain⟨c,q,h1,h2,_⟩:=FP (p:=p) h (r:=[]) (.inl rfl);exact⟨c,q,h1,h2⟩
theorem go_blanks{c:UInt8}{q:By}(hb:dE c=false)(f:Nat)(os:List T)(pos:Nat):sxGo (f+1) os (32::c::q) pos=sxGo (f+1) os (c::q) (pos+1):=by
 have e1:sxRun dE (32::c::q)=1:=by have:dE 32=true:=ai;simp[sxRun,this,hb]
 have e2:sxRun dE (c::q)=0:=by simp[sxRun,hb]
 conv=>lhs;unfold sxGo
 conv=>rhs;unfold sxGo
 simp only[e1,e2,awR,axh,awM]
theorem go_step{c:UInt8}{q:By}(hb:dE c=false)(f:Nat)(os:List T)(pos:Nat):sxGo (f+1) os (c::q) pos=
  if (iO os (bK (c::q))).1==0 then sxGo f (sxTake os ((bK (c::q)).tree pos)) ((c::q).drop (bK (c::q)).size) (pos+(bK (c::q)).size)
  else (dR,(iO os (bK (c::q))).1,pos+(iO os (bK (c::q))).2):=by
 have e2:sxRun dE (c::q)=0:=by simp[sxRun,hb]
 conv=>lhs;unfold sxGo
 simp only[e2,axh,awM]
theorem Yy{os:List T}(h:os≠[])(e:T):sxDone (os++[e])=sxDone os:=by
 cases os with
 | nil=>exact absurd rfl h
 | cons a b=>rfl
def T.adds(e:T)(l:List T):T:=.mk e.kind e.s e.n (e.kids++l) e.pos
theorem T.aaw(e:T):e.adds []=e:=by cases e;simp[T.adds,T.kind,T.s,T.n,T.kids,T.pos]
theorem T.Yz(e t:T)(l:List T):(e.add t).adds l=e.adds (t::l):=by simp[T.adds,T.add,T.kind,T.s,T.n,T.kids,T.pos]
def Xo(t:T):Prop:=∀(os:List T) (r:By) (pos f:Nat),os≠[]->sxDone os=false->JE r->(printS t).length+r.length<f->
 (os.length+t.deep<=13->∃t' f' pos',t'.strip=t.strip/\r.length<f'/\sxGo f os (printS t++r) pos=sxGo f' (sxPut os t') r pos')/\
 (13<os.length+t.deep->os.length<=13->∃x,sxGo f os (printS t++r) pos=(dR,14,x))
def Xp(l:List T):Prop:=∀(b:Bool) (os:List T) (e:T) (r:By) (pos f:Nat),os≠[]->sxDone os=false->(∃q,r=41::q)->(printL b l).length+r.length<f->
 (os.length+1+T.oM l<=13->∃l' f' pos',l'.map T.strip=l.map T.strip/\r.length<f'/\sxGo f (os++[e]) (printL b l++r) pos=sxGo f' (os++[e.adds l']) r pos')/\
 (13<os.length+1+T.oM l->os.length+1<=13->∃x,sxGo f (os++[e]) (printL b l++r) pos=(dR,14,x))
theorem YA(t:T)(l:List T)(ht:t.fine=true)(h1:Xo t)(h2:Xp l):Xp (t::l):=by
 intro b os e r pos f h0 hd hr hf;obtain⟨c,q,hp,hb⟩:=Vm ht;have hne:os++[e]≠[]:=aj;have Xq:sxDone (os++[e])=false:=by rw[Yy h0];exact hd
 have hr2:JE (printL false l++r):=by
  cases l with
  | nil=>
   obtain⟨q',rfl⟩:=hr;exact .inr ⟨41,q',by simp[printL],.inr rfl⟩
  | cons a l=>exact .inr ⟨32,_,by simp[printL];rfl,.inl rfl⟩
 have hstart:∃afT,sxGo f (os++[e]) (printL b (t::l)++r) pos=sxGo f (os++[e]) (printS t++(printL false l++r)) afT:=by
  cases b
  ·refine⟨pos+1,?_⟩;rw[printL];simp only[awv,if_false,awI,awV,axd];rw[hp];obtain⟨g,rfl⟩:∃g,f=g+1:=⟨f - 1,ae⟩
   simp only[awV];exact go_blanks hb g _ _
  refine⟨pos,?_⟩;rw[printL];simp only[if_true,axd,awI]
 obtain⟨afT,hs⟩:=hstart;have hlen:(printS t).length+(printL false l++r).length<f:=by
  have:(printL b (t::l)).length≥(printS t).length+(printL false l).length:=by
   rw[printL]
   cases b<;>simp
  rw[awl];omega
 obtain⟨g1,g2⟩:=h1 (os++[e]) (printL false l++r) afT f hne Xq hr2 hlen;have hol:(os++[e]).length=os.length+1:=aj;rw[hol]at g1 g2;rw[hs];constructor;intro YB;rw[T.oM]at YB;have hA:os.length+1+t.deep<=13:=by have:=Nat.le_max_left t.deep (T.oM l);omega
 have hB:os.length+1+T.oM l<=13:=by have:=Nat.le_max_right t.deep (T.oM l);omega
 clear YB g2;obtain⟨t',f',pos',hst,hf',heq⟩:=g1 hA;rw[awl]at hf';obtain⟨k1,_⟩:=h2 false os (e.add t') r pos' f' h0 hd hr hf';obtain⟨l',f2,ama,Ij,hf2,amb⟩:=k1 hB;refine⟨t'::l',f2,ama,by simp[hst,Ij],hf2,?_⟩;rw[heq,oG,amb,T.Yz];intro YB hle;rw[T.oM]at YB;by_cases amc:os.length+1+t.deep<=13;have hB:13<os.length+1+T.oM l:=by rcases Nat.le_total t.deep (T.oM l) with h|h;rw[Nat.max_eq_right h]at YB;exact YB;rw[Nat.max_eq_left h]at YB;omega
 clear YB g2;obtain⟨t',f',pos',hst,hf',heq⟩:=g1 amc;rw[awl]at hf';obtain⟨_,k2⟩:=h2 false os (e.add t') r pos' f' h0 hd hr hf';rw[heq,oG];exact k2 hB hle;exact g2 ae hle
theorem YC{k:Int}{s:By}{n:Int}{l:List T}{p:Nat}(h:gZ k s n l=true):Xo (.mk k s n l p):=by
 intro os r pos f h0 hd hr hf;obtain⟨c,q,hp,hb,hsc,wE,hk2,hl⟩:=FP (p:=p) h hr;subst hl;have YB:(T.mk k s n [] p).deep=0:=by rw[T.deep,if_neg (awg.1 wE)]
 obtain⟨g,rfl⟩:∃g,f=g+1:=⟨f - 1,ae⟩
 rw[YB];refine⟨λhle=>?_,λh13 hle=>by omega⟩;rw[hp]at hsc hf|-;rw[awV,go_step hb,<-awV,hsc];have hj:iO os ⟨k,s,n,(c::q).length,0,0⟩=(0,0):=by unfold iO;simp[hd,wE,hk2]
 have ail:=awg.1 wE;have amd:=awg.1 hk2;have ht:sxTake os ((Tk.mk k s n (c::q).length 0 0).tree pos)=sxPut os (.mk k s n [] pos):=by unfold sxTake Tk.tree;simp[T.kind,ail,amd]
 rw[hj];simp only[awZ,if_true];rw[ht,List.drop_left];refine⟨.mk k s n [] pos,g,_,by simp[T.jB],by simp at hf;omega,rfl⟩
theorem YD{l:List T}{p:Nat}(h:Xp l):Xo (.mk 1 [] 0 l p):=by
 intro os r pos f h0 hd hr hf;rw[qM]at hf|-;simp only[awr,awl,aw']at hf;obtain⟨g,rfl⟩:∃g,f=g+1:=⟨f - 1,ae⟩
 have hb:dE 40=false:=ai;have hsc:∀q,bK (40::q)=⟨1,[],0,1,0,0⟩:=λq=>by unfold bK;rfl
 have YB:(T.mk 1 [] 0 l p).deep=T.oM l+1:=by rw[T.deep,if_pos rfl]
 rw[YB,awV,go_step hb,hsc,awI];have hj:iO os ⟨1,[],0,1,0,0⟩=if 12<os.length then (14,0) else (0,0):=by unfold iO;simp[hd]
 rw[hj];by_cases h12:12<os.length;rw[if_pos h12];refine⟨λhle=>by omega,λ_ _=>⟨pos,aj⟩⟩;rw[if_neg h12];simp only[awZ,if_true,awR,axh];have ht:sxTake os ((Tk.mk 1 [] 0 1 0 0).tree pos)=os++[.mk 1 [] 0 [] pos]:=by unfold sxTake Tk.tree;simp[T.kind]
 rw[ht];obtain⟨k1,k2⟩:=h true os (.mk 1 [] 0 [] pos) ([41]++r) (pos+1) g h0 hd ⟨r,rfl⟩ (by simp;omega);refine⟨λhle=>?_,λh13 hle=>k2 ae ae⟩;obtain⟨l',f',pos',hst,hf',heq⟩:=k1 ae;simp only[awl,awr,aw']at hf';obtain⟨g',rfl⟩:∃g',f'=g'+1:=⟨f' - 1,ae⟩
 rw[heq];have hb2:dE 41=false:=ai;have ame:bK (41::r)=⟨-1,[],0,1,0,0⟩:=by unfold bK;rfl
 have hj2:iO (os++[(T.mk 1 [] 0 [] pos).adds l']) ⟨-1,[],0,1,0,0⟩=(0,0):=by unfold iO;simp[h0]
 rw[awV,axd,go_step hb2,ame,hj2];simp only[awZ,if_true,awR,axh];have ZK:sxTake (os++[(T.mk 1 [] 0 [] pos).adds l']) ((Tk.mk (-1) [] 0 1 0 0).tree pos')=sxPut os ((T.mk 1 [] 0 [] pos).adds l'):=by unfold sxTake Tk.tree;simp[T.kind]
 rw[ZK];refine⟨(T.mk 1 [] 0 [] pos).adds l',g',_,?_,ae,rfl⟩;simp only[T.adds,T.kind,T.s,T.n,T.kids,T.pos,axd];rw[T.jB,T.jB,hst]
mutual
theorem Om:∀t:T,t.fine=true->Xo t
 | .mk k s n l p,h=>by have hl:=JH l;rw[T.fine,awP]at h;rcases h with h|h;simp only[awk,awx,axL]at h;obtain⟨⟨⟨rfl,rfl⟩,rfl⟩,h4⟩:=h;exact YD (hl h4);exact YC h
theorem JH:∀l:List T,T.wO l=true->Xp l
 | [],_=>by intro b os e r pos f h0 hd hr hf;refine⟨λ_=>⟨[],f,pos,rfl,ae,?_⟩,λh13 hle=>by simp[T.oM]at h13;omega⟩;rw[T.aaw];simp[printL]
 | t::l,h=>by rw[T.wO,awk]at h;exact YA t l h.1 (Om t h.1) (JH l h.2)
end
theorem Vo(t:T)(h:t.fine=true):(600<(printS t).length->fA (printS t)=(dR,3,0))/\
  ((printS t).length<=600->t.deep<=12->∃t',t'.strip=t.strip/\fA (printS t)=(t',0,0))/\
  ((printS t).length<=600->12<t.deep->∃x,fA (printS t)=(dR,14,x)):=by
 have hg:=Om t h [dR] [] 0 ((printS t).length+1) aj rfl (.inl rfl) aj;rw[axE]at hg;have h1:([dR]:List T).length=1:=rfl;rw[h1]at hg;refine⟨λhl=>by unfold fA;rw[if_pos hl],λhl hd=>?_,λhl hd=>?_⟩;obtain⟨t',f',pos',hst,hf',heq⟩:=hg.1 ae;refine⟨t',hst,?_⟩;unfold fA;rw[if_neg ae,heq];obtain⟨g,rfl⟩:∃g,f'=g+1:=⟨f' - 1,by simp at hf';omega⟩
 unfold sxGo;simp[sxPut,dR,T.add,T.kids,kN,sxRun];obtain⟨x,hx⟩:=hg.2 ae ae;exact⟨x,by unfold fA;rw[if_neg ae,hx]⟩
end Go.Proofs.YtpbfokkocaemlaaGreatDoor
