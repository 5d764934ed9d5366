import Derived.Test.YtpbfokkocaemlaaGreatDoorZ21P
set_option linter.unusedVariables false
set_option maxRecDepth 100000
set_option maxHeartbeats 64000000
namespace Go.Proofs.YtpbfokkocaemlaaGreatDoor
open Go.RowKit
mutual
def T.strip:T->T
 | .mk k s n l _=>.mk k s n (T.strips l) 0
def T.strips:List T->List T
 | []=>[]
 | t::l=>t.strip::T.strips l
end
theorem T.rE:∀l:List T,T.strips l=l.map T.strip
 | []=>by simp[T.strips]
 | t::l=>by simp[T.strips,T.rE l]
theorem T.jH(k:Int)(s:By)(n:Int)(l:List T)(p:Nat):(T.mk k s n l p).strip=.mk k s n (l.map T.strip) 0:=by rw[T.strip,T.rE]
mutual
def T.deep:T->Nat
 | .mk k _ _ l _=>if k=1 then T.pM l+1 else 0
def T.pM:List T->Nat
 | []=>0
 | t::l=>max t.deep (T.pM l)
end
def iw(k:Int)(s:By)(n:Int)(l:List T):Bool:=
 (k==2&&(!s.isEmpty&&s.all bG)&&(n==0&&decide (s.length<=1000))&&l.isEmpty)||(k==3&&s.isEmpty&&(decide (-9223372036854775808<=n)&&decide (n<=9223372036854775807))&&l.isEmpty)||(k==4&&decide (s.length<=40)&&n==0&&l.isEmpty)
mutual
def T.fine:T->Bool
 | .mk k s n l _=>(k==1&&s.isEmpty&&n==0&&T.wU l)||iw k s n l
def T.wU:List T->Bool
 | []=>true
 | t::l=>t.fine&&T.wU l
end
theorem aeB(p:UInt8->Bool)(h:∀i:Fin 256,p (UInt8.ofNat i.val)=true)(c:UInt8):p c=true:=by have h1:=h ⟨c.toNat,c.toNat_lt⟩;simpa using h1
theorem abj(c:UInt8):dD c=mQ c:=by have:=aeB (λc=>dD c==mQ c) (by decide+kernel) c;exact awO.1 this
theorem abk(c:UInt8):iG (ny (c.toNat / 16))=some (c.toNat / 16)/\iG (ny (c.toNat % 16))=some (c.toNat % 16)/\UInt8.ofNat (16*(c.toNat / 16)+c.toNat % 16)=c:=by have:=aeB (λc=>iG (ny (c.toNat / 16))==some (c.toNat / 16)&&(iG (ny (c.toNat % 16))==some (c.toNat % 16)&&UInt8.ofNat (16*(c.toNat / 16)+c.toNat % 16)==c)) (by decide+kernel) c;simp only[awF,awO]at this;exact this
theorem Ov(c:UInt8)(h:bG c=true):(c.toNat==40)=false/\(c.toNat==41)=false/\(c.toNat==34)=false/\(c.toNat==45||bg c)=false/\dN c=false:=by have:=aeB (λc=>!bG c||(!(c.toNat==40)&&(!(c.toNat==41)&&(!(c.toNat==34)&&(!(c.toNat==45||bg c)&&!dN c))))) (by decide+kernel) c;rw[h]at this;simpa using this
theorem SH(c:UInt8)(h:bg c=true):(c.toNat==40)=false/\(c.toNat==41)=false/\(c.toNat==34)=false/\(c.toNat==45)=false/\dN c=false:=by have:=aeB (λc=>!bg c||(!(c.toNat==40)&&(!(c.toNat==41)&&(!(c.toNat==34)&&(!(c.toNat==45)&&!dN c))))) (by decide+kernel) c;rw[h]at this;simpa using this
def JR(r:By):Prop:=r=[]∨∃c q,r=c::q/\(c=32∨c=41)
theorem Gh(p:UInt8->Bool){r:By}(hr:∀c q,r=c::q->p c=false):∀s:By,(∀c∈s,p c=true)->sxRun p (s++r)=s.length
 | [],_=>by
  cases r with
  | nil=>rfl
  | cons c q=>simp[sxRun,hr c q rfl]
 | c::s,h=>by have h1:=Gh p hr s λx hx=>h x (awK _ hx);simp only[axj,sxRun,h c (awL ..),aw4,h1,awR]
theorem SI{r:By}(h:JR r):∀c q,r=c::q->bG c=false/\bg c=false:=by
 rintro c q rfl;rcases h with h|⟨c',q',h,hc⟩
 cases h;injection h with h1 h2
 subst h1;rcases hc with rfl|rfl<;>exact⟨ai,ai⟩
theorem Y3{s r:By}(hs:s≠[])(hl:∀c∈s,bG c=true)(hr:JR r):bW (s++r)=⟨2,s,0,s.length,0,0⟩:=by
 have hrun:=Gh bG (λc q e=>(SI hr c q e).1) s hl
 cases s with
 | nil=>exact absurd rfl hs
 | cons c s=>
  have hc:=hl c (awL ..);obtain⟨h1,h2,h3,h4,_⟩:=Ov c hc;rw[axj]at hrun|-;unfold bW;simp only[h1,h2,h3,h4,hc,awP,aw7,aw4,hrun];rw[<-axj,ayk]
theorem SK{d:Nat}(h:d<10):bg (UInt8.ofNat (48+d))=true/\((UInt8.ofNat (48+d)).toNat:Int)-48=(d:Int):=by
 have:∀d:Fin 10,bg (UInt8.ofNat (48+d.val))=true/\((UInt8.ofNat (48+d.val)).toNat:Int)-48=(d.val:Int):=by decide+kernel
 exact this ⟨d,h⟩
theorem below_app:∀(l:By) (c:UInt8) (n:Int),sxBelow (l++[c]) n=match sxBelow l n with|none=>none|some m=>sxBelow [c] m
 | [],c,n=>rfl
 | x::l,c,n=>by
  simp only[axj]
  conv=>lhs;unfold sxBelow
  conv=>rhs;unfold sxBelow
  split;rfl;exact below_app l c _
theorem Gi(u:Nat):u<=9223372036854775808->(∀c∈Lib.decDigits u,bg c=true)/\sxBelow (Lib.decDigits u) 0=some (-(u:Int))/\Lib.decDigits u≠[]:=by
 induction u using Nat.strongRecOn with
 | _ u ih=>
  intro hu;by_cases h:u<10;obtain⟨h1,h2⟩:=SK h;rw[Lib.decDigits_one h];refine⟨λc hc=>by rw[List.mem_singleton]at hc;rw[hc];exact h1,?_,aj⟩;unfold sxBelow;rw[h2,if_neg ae];unfold sxBelow;congr 1;omega;obtain⟨h1,h2,h3⟩:=ih (u / 10) ae ae;obtain⟨d1,d2⟩:=SK (show u % 10<10 by omega);rw[Lib.decDigits,dif_neg h];refine⟨λc hc=>?_,?_,aj⟩;rcases awV.1 hc with hc|hc;exact h1 c hc;rw[List.mem_singleton]at hc;rw[hc];exact d1;rw[below_app,h2];simp only;unfold sxBelow;rw[d2,if_neg ae];unfold sxBelow;congr 1;omega
theorem JS{d r:By}(hd:∀c∈d,bg c=true)(hr:JR r):dR (d++r)=d:=by unfold dR;rw[Gh bg (λc q e=>(SI hr c q e).2) d hd,ayk]
theorem scan_num{n:Int}{r:By}(h1:-9223372036854775808<=n)(h2:n<=9223372036854775807)(hr:JR r):bW (Lib.itoa n++r)=⟨3,[],n,(Lib.itoa n).length,0,0⟩:=by
 unfold Lib.itoa;split;rename_i hn;obtain⟨hd,hb,hne⟩:=Gi n.natAbs ae;have he:(Lib.decDigits n.natAbs).isEmpty=false:=by cases h:Lib.decDigits n.natAbs with|nil=>exact absurd h hne|cons a b=>rfl
 rw[axj];unfold bW;have c1:((45:UInt8).toNat==40)=false:=ai;have c2:((45:UInt8).toNat==41)=false:=ai;have c3:((45:UInt8).toNat==34)=false:=ai;have c4:((45:UInt8).toNat==45)=true:=ai;simp only[c1,c2,c3,c4,Bool.true_or,awP,aw7,aw4];unfold dW;simp only[c4,aw4];rw[JS hd hr];unfold sxNum;rw[hb];simp only[he,axp,Bool.or_self,awP,aw7];congr 1;omega;rw[awR];omega;rename_i hn;obtain⟨hd,hb,hne⟩:=Gi n.toNat ae
 cases hl:Lib.decDigits n.toNat with
 | nil=>exact absurd hl hne
 | cons c q=>
  rw[hl]at hd hb;obtain⟨n1,n2,n3,n4,_⟩:=SH c (hd c (awL ..));rw[axj];unfold bW;simp only[n1,n2,n3,hd c (awL ..),Bool.or_true,awP,aw7,aw4];unfold dW;simp only[n4,awP,aw7];rw[<-axj,JS hd hr];unfold sxNum;rw[hb];have hx:decide (-(n.toNat:Int)=-9223372036854775808)=false:=axf ae;simp only[hx,List.isEmpty_cons,Bool.and_false,Bool.or_self,awP,aw7,aw4];congr 1;omega
theorem XJ:∀(s b:By) (r:By) (i:Nat),sxTextGo b (s.flatMap jb++34::r) i=if 40<(b++s).length then bf 3 0 else ⟨4,b++s,0,i+(s.flatMap jb).length+1,0,0⟩
 | [],b,r,i=>by simp only[List.flatMap_nil,axA,ax2];unfold sxTextGo;have c1:dD (34:UInt8)=false:=ai;have c2:((34:UInt8).toNat==92)=false:=ai;have c3:((34:UInt8).toNat==34)=true:=ai;simp only[c1,c2,c3,awP,aw7,aw4];rfl
 | c::s,b,r,i=>by
  have ih:=XJ s (b++[c]) r;rw[axS,aw1];by_cases hp:mQ c=true;have e:jb c=[c]:=by unfold jb;rw[if_pos hp]
  rw[e];simp only[axj,axA]
  conv=>lhs;unfold sxTextGo
  simp only[abj,hp,aw4];rw[ih (i+1)];simp only[aw1,axj,axA,awR];congr 2;omega;have hp':mQ c=false:=by simpa using hp
  have e:jb c=[92,ny (c.toNat / 16),ny (c.toNat % 16)]:=by unfold jb;rw[if_neg hp]
  obtain⟨x1,x2,x3⟩:=abk c;rw[e];simp only[axj,axA]
  conv=>lhs;unfold sxTextGo
  have c1:dD (92:UInt8)=false:=ai;have c2:((92:UInt8).toNat==92)=true:=ai;simp only[c1,c2,awP,aw7,aw4,x1,x2,x3];rw[ih (i+3)];simp only[aw1,axj,axA,awR];congr 2;omega
theorem VE{s r:By}(h:s.length<=40):bW (nJ s++r)=⟨4,s,0,(nJ s).length,0,0⟩:=by unfold nJ;rw[axj,aw1];unfold bW;have c1:((34:UInt8).toNat==40)=false:=ai;have c2:((34:UInt8).toNat==41)=false:=ai;have c3:((34:UInt8).toNat==34)=true:=ai;simp only[c1,c2,c3,awP,aw7,aw4];have:=XJ s [] r 1;simp only[axA]at this;rw[axj,axA,this,if_neg ae];congr 1;rw[awR,awE];simp only[awR,axw];omega
theorem Y4{s:By}(h:s.length<=40):showV 2 0 ⟨s.toArray⟩=nJ s:=by
 have hr:iL 2 0 ⟨s.toArray⟩=true:=by simp[iL,ByteArray.size,h]
 simp[showV,hr]
theorem Gj{k:Int}{s:By}{n:Int}{l:List T}{p:Nat}(h:iw k s n l=true){r:By}(hr:JR r):
  ∃c q,printS (.mk k s n l p)=c::q/\dN c=false/\bW (printS (.mk k s n l p)++r)=⟨k,s,n,(printS (.mk k s n l p)).length,0,0⟩/\(k==1)=false/\(k==-1)=false/\l=[]:=by
 unfold iw at h;simp only[aw_,awF,awO,axq,ax0,ax7,awW]at h;rcases h with (⟨⟨⟨rfl,hs,hl⟩,rfl,_⟩,rfl⟩|⟨⟨⟨rfl,rfl⟩,h1,h2⟩,rfl⟩)|⟨⟨⟨rfl,hs⟩,rfl⟩,rfl⟩
 have e:printS (.mk 2 s 0 [] p)=s:=by simp[printS]
 have hs':s≠[]:=by rintro rfl;simp at hs
 rw[e,Y3 hs' hl hr]
 cases s with
 | nil=>exact absurd rfl hs'
 | cons c q=>exact⟨c,q,rfl,(Ov c (hl c (awL ..))).2.2.2.2,rfl,rfl,rfl,rfl⟩
 have e:printS (.mk 3 [] n [] p)=Lib.itoa n:=by simp[printS]
 rw[e,scan_num h1 h2 hr];have:∃c q,Lib.itoa n=c::q/\dN c=false:=by
  unfold Lib.itoa;split;exact⟨45,_,rfl,ai⟩;rename_i hn;obtain⟨hd,_,hne⟩:=Gi n.toNat ae
  cases hl:Lib.decDigits n.toNat with
  | nil=>exact absurd hl hne
  | cons c q=>
   rw[hl]at hd;exact⟨c,q,rfl,(SH c (hd c (awL ..))).2.2.2.2⟩
 obtain⟨c,q,h3,h4⟩:=this;exact⟨c,q,h3,h4,rfl,rfl,rfl,rfl⟩;have e:printS (.mk 4 s 0 [] p)=nJ s:=by simp[printS,Y4 hs]
 rw[e,VE hs];exact⟨34,_,rfl,ai,rfl,rfl,rfl,rfl⟩
theorem u_(p:Nat)(s:By)(n:Int)(l:List T):printS (.mk 1 s n l p)=40::(printL true l++[41]):=by simp[printS]
theorem VF{t:T}(h:t.fine=true):∃c q,printS t=c::q/\dN c=false:=by
 cases t with
 | mk k s n l p=>
  rw[T.fine,aw_]at h;rcases h with h|h;simp only[awF,awO]at h;obtain⟨⟨⟨rfl,_⟩,_⟩,_⟩:=h;exact⟨40,_,u_ p s n l,ai⟩;obtain⟨c,q,h1,h2,_⟩:=Gj (p:=p) h (r:=[]) (.inl rfl);exact⟨c,q,h1,h2⟩
theorem go_blanks{c:UInt8}{q:By}(hb:dN c=false)(f:Nat)(os:List T)(pos:Nat):sxGo (f+1) os (32::c::q) pos=sxGo (f+1) os (c::q) (pos+1):=by
 have e1:sxRun dN (32::c::q)=1:=by have:dN 32=true:=ai;simp[sxRun,this,hb]
 have e2:sxRun dN (c::q)=0:=by simp[sxRun,hb]
 conv=>lhs;unfold sxGo
 conv=>rhs;unfold sxGo
 simp only[e1,e2,axb,axE,aw2]
theorem go_step{c:UInt8}{q:By}(hb:dN c=false)(f:Nat)(os:List T)(pos:Nat):sxGo (f+1) os (c::q) pos=
  if (iU os (bW (c::q))).1==0 then sxGo f (sxTake os ((bW (c::q)).tree pos)) ((c::q).drop (bW (c::q)).size) (pos+(bW (c::q)).size)
  else (eu,(iU os (bW (c::q))).1,pos+(iU os (bW (c::q))).2):=by
 have e2:sxRun dN (c::q)=0:=by simp[sxRun,hb]
 conv=>lhs;unfold sxGo
 simp only[e2,axE,aw2]
theorem Y5{os:List T}(h:os≠[])(e:T):sxDone (os++[e])=sxDone os:=by
 cases os with
 | nil=>exact absurd rfl h
 | cons a b=>rfl
def T.adds(e:T)(l:List T):T:=.mk e.kind e.s e.n (e.kids++l) e.pos
theorem T.abl(e:T):e.adds []=e:=by cases e;simp[T.adds,T.kind,T.s,T.n,T.kids,T.pos]
theorem T.Y6(e t:T)(l:List T):(e.add t).adds l=e.adds (t::l):=by simp[T.adds,T.add,T.kind,T.s,T.n,T.kids,T.pos]
def XK(t:T):Prop:=∀(os:List T) (r:By) (pos f:Nat),os≠[]->sxDone os=false->JR r->(printS t).length+r.length<f->
 (os.length+t.deep<=13->∃t' f' pos',t'.strip=t.strip/\r.length<f'/\sxGo f os (printS t++r) pos=sxGo f' (sxPut os t') r pos')/\
 (13<os.length+t.deep->os.length<=13->∃x,sxGo f os (printS t++r) pos=(eu,14,x))
def XL(l:List T):Prop:=∀(b:Bool) (os:List T) (e:T) (r:By) (pos f:Nat),os≠[]->sxDone os=false->(∃q,r=41::q)->(printL b l).length+r.length<f->
 (os.length+1+T.pM l<=13->∃l' f' pos',l'.map T.strip=l.map T.strip/\r.length<f'/\sxGo f (os++[e]) (printL b l++r) pos=sxGo f' (os++[e.adds l']) r pos')/\
 (13<os.length+1+T.pM l->os.length+1<=13->∃x,sxGo f (os++[e]) (printL b l++r) pos=(eu,14,x))
theorem Y7(t:T)(l:List T)(ht:t.fine=true)(h1:XK t)(h2:XL l):XL (t::l):=by
 intro b os e r pos f h0 hd hr hf;obtain⟨c,q,hp,hb⟩:=VF ht;have hne:os++[e]≠[]:=aj;have XM:sxDone (os++[e])=false:=by rw[Y5 h0];exact hd
 have hr2:JR (printL false l++r):=by
  cases l with
  | nil=>
   obtain⟨q',rfl⟩:=hr;exact .inr ⟨41,q',by simp[printL],.inr rfl⟩
  | cons a l=>exact .inr ⟨32,_,by simp[printL];rfl,.inl rfl⟩
 have hstart:∃ahl,sxGo f (os++[e]) (printL b (t::l)++r) pos=sxGo f (os++[e]) (printS t++(printL false l++r)) ahl:=by
  cases b
  ·refine⟨pos+1,?_⟩;rw[printL];simp only[awP,aw7,aw1,axj,axA];rw[hp];obtain⟨g,rfl⟩:∃g,f=g+1:=⟨f-1,ae⟩
   simp only[axj];exact go_blanks hb g _ _
  refine⟨pos,?_⟩;rw[printL];simp only[aw4,axA,aw1]
 obtain⟨ahl,hs⟩:=hstart;have hlen:(printS t).length+(printL false l++r).length<f:=by
  have:(printL b (t::l)).length≥(printS t).length+(printL false l).length:=by
   rw[printL]
   cases b<;>simp
  rw[awE];omega
 obtain⟨g1,g2⟩:=h1 (os++[e]) (printL false l++r) ahl f hne XM hr2 hlen;have hol:(os++[e]).length=os.length+1:=aj;rw[hol]at g1 g2;rw[hs];constructor;intro Y8;rw[T.pM]at Y8;have hA:os.length+1+t.deep<=13:=by have:=Nat.le_max_left t.deep (T.pM l);omega
 have hB:os.length+1+T.pM l<=13:=by have:=Nat.le_max_right t.deep (T.pM l);omega
 clear Y8 g2;obtain⟨t',f',pos',hst,hf',heq⟩:=g1 hA;rw[awE]at hf';obtain⟨k1,_⟩:=h2 false os (e.add t') r pos' f' h0 hd hr hf';obtain⟨l',f2,anW,FW,hf2,anX⟩:=k1 hB;refine⟨t'::l',f2,anW,by simp[hst,FW],hf2,?_⟩;rw[heq,pF,anX,T.Y6];intro Y8 hle;rw[T.pM]at Y8;by_cases anY:os.length+1+t.deep<=13;have hB:13<os.length+1+T.pM l:=by rcases Nat.le_total t.deep (T.pM l) with h|h;rw[Nat.max_eq_right h]at Y8;exact Y8;rw[Nat.max_eq_left h]at Y8;omega
 clear Y8 g2;obtain⟨t',f',pos',hst,hf',heq⟩:=g1 anY;rw[awE]at hf';obtain⟨_,k2⟩:=h2 false os (e.add t') r pos' f' h0 hd hr hf';rw[heq,pF];exact k2 hB hle;exact g2 ae hle
theorem Y9{k:Int}{s:By}{n:Int}{l:List T}{p:Nat}(h:iw k s n l=true):XK (.mk k s n l p):=by
 intro os r pos f h0 hd hr hf;obtain⟨c,q,hp,hb,hsc,um,hk2,hl⟩:=Gj (p:=p) h hr;subst hl;have Y8:(T.mk k s n [] p).deep=0:=by rw[T.deep,if_neg (awy.1 um)]
 obtain⟨g,rfl⟩:∃g,f=g+1:=⟨f-1,ae⟩
 rw[Y8];refine⟨λhle=>?_,λh13 hle=>by omega⟩;rw[hp]at hsc hf|-;rw[axj,go_step hb,<-axj,hsc];have hj:iU os ⟨k,s,n,(c::q).length,0,0⟩=(0,0):=by unfold iU;simp[hd,um,hk2]
 have ajV:=awy.1 um;have anZ:=awy.1 hk2;have ht:sxTake os ((Tk.mk k s n (c::q).length 0 0).tree pos)=sxPut os (.mk k s n [] pos):=by unfold sxTake Tk.tree;simp[T.kind,ajV,anZ]
 rw[hj];simp only[axe,aw4];rw[ht,List.drop_left];refine⟨.mk k s n [] pos,g,_,by simp[T.jH],by simp at hf;omega,rfl⟩
theorem Za{l:List T}{p:Nat}(h:XL l):XK (.mk 1 [] 0 l p):=by
 intro os r pos f h0 hd hr hf;rw[u_]at hf|-;simp only[awR,awE,axw]at hf;obtain⟨g,rfl⟩:∃g,f=g+1:=⟨f-1,ae⟩
 have hb:dN 40=false:=ai;have hsc:∀q,bW (40::q)=⟨1,[],0,1,0,0⟩:=λq=>by unfold bW;rfl
 have Y8:(T.mk 1 [] 0 l p).deep=T.pM l+1:=by rw[T.deep,if_pos rfl]
 rw[Y8,axj,go_step hb,hsc,aw1];have hj:iU os ⟨1,[],0,1,0,0⟩=if 12<os.length then (14,0) else (0,0):=by unfold iU;simp[hd]
 rw[hj];by_cases h12:12<os.length;rw[if_pos h12];refine⟨λhle=>by omega,λ_ _=>⟨pos,aj⟩⟩;rw[if_neg h12];simp only[axe,aw4,axb,axE];have ht:sxTake os ((Tk.mk 1 [] 0 1 0 0).tree pos)=os++[.mk 1 [] 0 [] pos]:=by unfold sxTake Tk.tree;simp[T.kind]
 rw[ht];obtain⟨k1,k2⟩:=h true os (.mk 1 [] 0 [] pos) ([41]++r) (pos+1) g h0 hd ⟨r,rfl⟩ (by simp;omega);refine⟨λhle=>?_,λh13 hle=>k2 ae ae⟩;obtain⟨l',f',pos',hst,hf',heq⟩:=k1 ae;simp only[awE,awR,axw]at hf';obtain⟨g',rfl⟩:∃g',f'=g'+1:=⟨f'-1,ae⟩
 rw[heq];have hb2:dN 41=false:=ai;have an0:bW (41::r)=⟨-1,[],0,1,0,0⟩:=by unfold bW;rfl
 have hj2:iU (os++[(T.mk 1 [] 0 [] pos).adds l']) ⟨-1,[],0,1,0,0⟩=(0,0):=by unfold iU;simp[h0]
 rw[axj,axA,go_step hb2,an0,hj2];simp only[axe,aw4,axb,axE];have SL:sxTake (os++[(T.mk 1 [] 0 [] pos).adds l']) ((Tk.mk (-1) [] 0 1 0 0).tree pos')=sxPut os ((T.mk 1 [] 0 [] pos).adds l'):=by unfold sxTake Tk.tree;simp[T.kind]
 rw[SL];refine⟨(T.mk 1 [] 0 [] pos).adds l',g',_,?_,ae,rfl⟩;simp only[T.adds,T.kind,T.s,T.n,T.kids,T.pos,axA];rw[T.jH,T.jH,hst]
mutual
theorem Ox:∀t:T,t.fine=true->XK t
 | .mk k s n l p,h=>by have hl:=JU l;rw[T.fine,aw_]at h;rcases h with h|h;simp only[awF,awO,ax7]at h;obtain⟨⟨⟨rfl,rfl⟩,rfl⟩,h4⟩:=h;exact Za (hl h4);exact Y9 h
theorem JU:∀l:List T,T.wU l=true->XL l
 | [],_=>by intro b os e r pos f h0 hd hr hf;refine⟨λ_=>⟨[],f,pos,rfl,ae,?_⟩,λh13 hle=>by simp[T.pM]at h13;omega⟩;rw[T.abl];simp[printL]
 | t::l,h=>by rw[T.wU,awF]at h;exact Y7 t l h.1 (Ox t h.1) (JU l h.2)
end
theorem VG(t:T)(h:t.fine=true):(600<(printS t).length->fF (printS t)=(eu,3,0))/\
  ((printS t).length<=600->t.deep<=12->∃t',t'.strip=t.strip/\fF (printS t)=(t',0,0))/\
  ((printS t).length<=600->12<t.deep->∃x,fF (printS t)=(eu,14,x)):=by
 have hg:=Ox t h [eu] [] 0 ((printS t).length+1) aj rfl (.inl rfl) aj;rw[ax2]at hg;have h1:([eu]:List T).length=1:=rfl;rw[h1]at hg;refine⟨λhl=>by unfold fF;rw[if_pos hl],λhl hd=>?_,λhl hd=>?_⟩;obtain⟨t',f',pos',hst,hf',heq⟩:=hg.1 ae;refine⟨t',hst,?_⟩;unfold fF;rw[if_neg ae,heq];obtain⟨g,rfl⟩:∃g,f'=g+1:=⟨f'-1,by simp at hf';omega⟩
 unfold sxGo;simp[sxPut,eu,T.add,T.kids,kV,sxRun];obtain⟨x,hx⟩:=hg.2 ae ae;exact⟨x,by unfold fF;rw[if_neg ae,hx]⟩
end Go.Proofs.YtpbfokkocaemlaaGreatDoor
