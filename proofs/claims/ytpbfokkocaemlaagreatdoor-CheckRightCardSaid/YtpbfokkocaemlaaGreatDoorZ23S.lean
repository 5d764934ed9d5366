import Derived.Test.YtpbfokkocaemlaaGreatDoorZ22S
set_option linter.unusedVariables false
set_option maxRecDepth 100000
set_option maxHeartbeats 64000000
namespace Go.Proofs.YtpbfokkocaemlaaGreatDoor
open Go.RowKit
mutual
def T.strip:T→T
 | .mk k s n l _=>.mk k s n (T.strips l) 0
def T.strips:List T→List T
 | []=>[]
 | t::l=>t.strip::T.strips l
end
theorem T.pO:∀l:List T,T.strips l=l.map T.strip
 | []=>by simp[T.strips]
 | t::l=>by simp[T.strips,T.pO l]
theorem T.iZ (k:Int) (s:By) (n:Int) (l:List T) (p:Nat):(T.mk k s n l p).strip=.mk k s n (l.map T.strip) 0:=by rw[T.strip,T.pO]
mutual
def T.deep:T→Nat
 | .mk k _ _ l _=>if k=1 then T.nP l+1 else 0
def T.nP:List T→Nat
 | []=>0
 | t::l=>max t.deep (T.nP l)
end
def gJ (k:Int) (s:By) (n:Int) (l:List T):Bool:=
 (k==2&&(!s.isEmpty&&s.all bf)&&(n==0&&decide (s.length≤1000))&&l.isEmpty)||(k==3&&s.isEmpty&&(decide (-9223372036854775808≤n)&&decide (n≤9223372036854775807))&&l.isEmpty)||(k==4&&decide (s.length≤40)&&n==0&&l.isEmpty)
mutual
def T.fine:T→Bool
 | .mk k s n l _=>(k==1&&s.isEmpty&&n==0&&T.ve l)||gJ k s n l
def T.ve:List T→Bool
 | []=>true
 | t::l=>t.fine&&T.ve l
end
theorem abD (p:UInt8→Bool) (h:∀i:Fin 256,p (UInt8.ofNat i.val)=true) (c:UInt8):p c=true:=by have h1:=h ⟨c.toNat,c.toNat_lt⟩;simpa using h1
theorem YU (c:UInt8):bV c=lh c:=by have:=abD (fun c=>bV c==lh c) (by decide+kernel) c;exact atH.1 this
theorem YV (c:UInt8):gV (lI (c.toNat / 16))=some (c.toNat / 16)∧gV (lI (c.toNat % 16))=some (c.toNat % 16)∧UInt8.ofNat (16*(c.toNat / 16)+c.toNat % 16)=c:=by have:=abD (fun c=>gV (lI (c.toNat / 16))==some (c.toNat / 16)&&(gV (lI (c.toNat % 16))==some (c.toNat % 16)&&UInt8.ofNat (16*(c.toNat / 16)+c.toNat % 16)==c)) (by decide+kernel) c;simp only[atu,atH]at this;exact this
theorem MR (c:UInt8) (h:bf c=true):(c.toNat==40)=false∧(c.toNat==41)=false∧(c.toNat==34)=false∧(c.toNat==45||aW c)=false∧dA c=false:=by have:=abD (fun c=>!bf c||(!(c.toNat==40)&&(!(c.toNat==41)&&(!(c.toNat==34)&&(!(c.toNat==45||aW c)&&!dA c))))) (by decide+kernel) c;rw[h]at this;simpa using this
theorem Qp (c:UInt8) (h:aW c=true):(c.toNat==40)=false∧(c.toNat==41)=false∧(c.toNat==34)=false∧(c.toNat==45)=false∧dA c=false:=by have:=abD (fun c=>!aW c||(!(c.toNat==40)&&(!(c.toNat==41)&&(!(c.toNat==34)&&(!(c.toNat==45)&&!dA c))))) (by decide+kernel) c;rw[h]at this;simpa using this
def Ip (r:By):Prop:=r=[]∨∃c q,r=c::q∧(c=32∨c=41)
theorem Ei (p:UInt8→Bool) {r:By} (hr:∀c q,r=c::q→p c=false):∀s:By,(∀c∈s,p c=true)→sxRun p (s++r)=s.length
 | [],_=>by
  cases r with
  | nil=>rfl
  | cons c q=>simp[sxRun,hr c q rfl]
 | c::s,h=>by have h1:=Ei p hr s fun x hx=>h x (aty _ hx);simp only[aue,sxRun,h c (atz ..),if_true,h1,atF]
theorem Qq {r:By} (h:Ip r):∀c q,r=c::q→bf c=false∧aW c=false:=by
 rintro c q rfl;rcases h with h|⟨c',q',h,hc⟩
 cases h;injection h with h1 h2
 subst h1;rcases hc with rfl|rfl<;>exact⟨by decide,by decide⟩
theorem WS {s r:By} (hs:s≠[]) (hl:∀c∈s,bf c=true) (hr:Ip r):bF (s++r)=⟨2,s,0,s.length,0,0⟩:=by
 have hrun:=Ei bf (fun c q e=>(Qq hr c q e).1) s hl
 cases s with
 | nil=>exact absurd rfl hs
 | cons c s=>
  have hc:=hl c (atz ..);obtain⟨h1,h2,h3,h4,_⟩:=MR c hc;rw[aue]at hrun⊢;unfold bF;simp only[h1,h2,h3,h4,hc,atE,if_false,if_true,hrun];rw[←aue,avh]
theorem Qr {d:Nat} (h:d<10):aW (UInt8.ofNat (48+d))=true∧((UInt8.ofNat (48+d)).toNat:Int) - 48=(d:Int):=by
 have:∀d:Fin 10,aW (UInt8.ofNat (48+d.val))=true∧((UInt8.ofNat (48+d.val)).toNat:Int) - 48=(d.val:Int):=by decide+kernel
 exact this ⟨d,h⟩
theorem below_app:∀(l:By) (c:UInt8) (n:Int),sxBelow (l++[c]) n=match sxBelow l n with|none=>none|some m=>sxBelow [c] m
 | [],c,n=>rfl
 | x::l,c,n=>by
  simp only[aue]
  conv=>lhs;unfold sxBelow
  conv=>rhs;unfold sxBelow
  split;rfl;exact below_app l c _
theorem Ej (u:Nat):u≤9223372036854775808→(∀c∈Lib.decDigits u,aW c=true)∧sxBelow (Lib.decDigits u) 0=some (-(u:Int))∧Lib.decDigits u≠[]:=by
 induction u using Nat.strongRecOn with
 | _ u ih=>
  intro hu;by_cases h:u<10;obtain⟨h1,h2⟩:=Qr h;rw[Lib.decDigits_one h];refine⟨fun c hc=>by rw[List.mem_singleton]at hc;rw[hc];exact h1,?_,by simp⟩;unfold sxBelow;rw[h2,if_neg (by omega)];unfold sxBelow;congr 1;omega;obtain⟨h1,h2,h3⟩:=ih (u / 10) (by omega) (by omega);obtain⟨d1,d2⟩:=Qr (show u % 10<10 by omega);rw[Lib.decDigits,dif_neg h];refine⟨fun c hc=>?_,?_,by simp⟩;rcases atK.1 hc with hc|hc;exact h1 c hc;rw[List.mem_singleton]at hc;rw[hc];exact d1;rw[below_app,h2];simp only;unfold sxBelow;rw[d2,if_neg (by omega)];unfold sxBelow;congr 1;omega
theorem Iq {d r:By} (hd:∀c∈d,aW c=true) (hr:Ip r):dE (d++r)=d:=by unfold dE;rw[Ei aW (fun c q e=>(Qq hr c q e).2) d hd,avh]
theorem scan_num {n:Int} {r:By} (h1:-9223372036854775808≤n) (h2:n≤9223372036854775807) (hr:Ip r):bF (Lib.itoa n++r)=⟨3,[],n,(Lib.itoa n).length,0,0⟩:=by
 unfold Lib.itoa;split;rename_i hn;obtain⟨hd,hb,hne⟩:=Ej n.natAbs (by omega);have he:(Lib.decDigits n.natAbs).isEmpty=false:=by cases h:Lib.decDigits n.natAbs with|nil=>exact absurd h hne|cons a b=>rfl
 rw[aue];unfold bF;have c1:((45:UInt8).toNat==40)=false:=by decide
 have c2:((45:UInt8).toNat==41)=false:=by decide
 have c3:((45:UInt8).toNat==34)=false:=by decide
 have c4:((45:UInt8).toNat==45)=true:=by decide
 simp only[c1,c2,c3,c4,Bool.true_or,atE,if_false,if_true];unfold dI;simp only[c4,if_true];rw[Iq hd hr];unfold sxNum;rw[hb];simp only[he,aum,Bool.or_self,atE,if_false];congr 1;omega;rw[atF];omega;rename_i hn;obtain⟨hd,hb,hne⟩:=Ej n.toNat (by omega)
 cases hl:Lib.decDigits n.toNat with
 | nil=>exact absurd hl hne
 | cons c q=>
  rw[hl]at hd hb;obtain⟨n1,n2,n3,n4,_⟩:=Qp c (hd c (atz ..));rw[aue];unfold bF;simp only[n1,n2,n3,hd c (atz ..),Bool.or_true,atE,if_false,if_true];unfold dI;simp only[n4,atE,if_false];rw[←aue,Iq hd hr];unfold sxNum;rw[hb];have hx:decide (-(n.toNat:Int)=-9223372036854775808)=false:=auj (by omega);simp only[hx,List.isEmpty_cons,Bool.and_false,Bool.or_self,atE,if_false,if_true];congr 1;omega
theorem VB:∀(s b:By) (r:By) (i:Nat),sxTextGo b (s.flatMap iL++34::r) i=if 40<(b++s).length then aV 3 0 else ⟨4,b++s,0,i+(s.flatMap iL).length+1,0,0⟩
 | [],b,r,i=>by
  simp only[List.flatMap_nil,auv,auX];unfold sxTextGo;have c1:bV (34:UInt8)=false:=by decide
  have c2:((34:UInt8).toNat==92)=false:=by decide
  have c3:((34:UInt8).toNat==34)=true:=by decide
  simp only[c1,c2,c3,atE,if_false,if_true];rfl
 | c::s,b,r,i=>by
  have ih:=VB s (b++[c]) r;rw[auN,atS];by_cases hp:lh c=true;have e:iL c=[c]:=by unfold iL;rw[if_pos hp]
  rw[e];simp only[aue,auv]
  conv=>lhs;unfold sxTextGo
  simp only[YU,hp,if_true];rw[ih (i+1)];simp only[atS,aue,auv,atF];congr 2;omega;have hp':lh c=false:=by simpa using hp
  have e:iL c=[92,lI (c.toNat / 16),lI (c.toNat % 16)]:=by unfold iL;rw[if_neg hp]
  obtain⟨x1,x2,x3⟩:=YV c;rw[e];simp only[aue,auv]
  conv=>lhs;unfold sxTextGo
  have c1:bV (92:UInt8)=false:=by decide
  have c2:((92:UInt8).toNat==92)=true:=by decide
  simp only[c1,c2,atE,if_false,if_true,x1,x2,x3];rw[ih (i+3)];simp only[atS,aue,auv,atF];congr 2;omega
theorem TQ {s r:By} (h:s.length≤40):bF (lV s++r)=⟨4,s,0,(lV s).length,0,0⟩:=by
 unfold lV;rw[aue,atS];unfold bF;have c1:((34:UInt8).toNat==40)=false:=by decide
 have c2:((34:UInt8).toNat==41)=false:=by decide
 have c3:((34:UInt8).toNat==34)=true:=by decide
 simp only[c1,c2,c3,atE,if_false,if_true];have:=VB s [] r 1;simp only[auv]at this;rw[aue,auv,this,if_neg (by omega)];congr 1;rw[atF,atv];simp only[atF,aur];omega
theorem WT {s:By} (h:s.length≤40):showV 2 0 ⟨s.toArray⟩=lV s:=by
 have hr:ik 2 0 ⟨s.toArray⟩=true:=by simp[ik,ByteArray.size,h]
 simp[showV,hr]
theorem Em {k:Int} {s:By} {n:Int} {l:List T} {p:Nat} (h:gJ k s n l=true) {r:By} (hr:Ip r):
  ∃c q,printS (.mk k s n l p)=c::q∧dA c=false∧bF (printS (.mk k s n l p)++r)=⟨k,s,n,(printS (.mk k s n l p)).length,0,0⟩∧(k==1)=false∧(k==-1)=false∧l=[]:=by
 unfold gJ at h;simp only[atZ,atu,atH,aun,auV,au4,atL]at h;rcases h with (⟨⟨⟨rfl,hs,hl⟩,rfl,_⟩,rfl⟩|⟨⟨⟨rfl,rfl⟩,h1,h2⟩,rfl⟩)|⟨⟨⟨rfl,hs⟩,rfl⟩,rfl⟩
 have e:printS (.mk 2 s 0 [] p)=s:=by simp[printS]
 have hs':s≠[]:=by rintro rfl;simp at hs
 rw[e,WS hs' hl hr]
 cases s with
 | nil=>exact absurd rfl hs'
 | cons c q=>exact⟨c,q,rfl,(MR c (hl c (atz ..))).2.2.2.2,rfl,rfl,rfl,rfl⟩
 have e:printS (.mk 3 [] n [] p)=Lib.itoa n:=by simp[printS]
 rw[e,scan_num h1 h2 hr];have:∃c q,Lib.itoa n=c::q∧dA c=false:=by
  unfold Lib.itoa;split;exact⟨45,_,rfl,by decide⟩;rename_i hn;obtain⟨hd,_,hne⟩:=Ej n.toNat (by omega)
  cases hl:Lib.decDigits n.toNat with
  | nil=>exact absurd hl hne
  | cons c q=>
   rw[hl]at hd;exact⟨c,q,rfl,(Qp c (hd c (atz ..))).2.2.2.2⟩
 obtain⟨c,q,h3,h4⟩:=this;exact⟨c,q,h3,h4,rfl,rfl,rfl,rfl⟩;have e:printS (.mk 4 s 0 [] p)=lV s:=by simp[printS,WT hs]
 rw[e,TQ hs];exact⟨34,_,rfl,by decide,rfl,rfl,rfl,rfl⟩
theorem pR (p:Nat) (s:By) (n:Int) (l:List T):printS (.mk 1 s n l p)=40::(printL true l++[41]):=by simp[printS]
theorem TR {t:T} (h:t.fine=true):∃c q,printS t=c::q∧dA c=false:=by
 cases t with
 | mk k s n l p=>
  rw[T.fine,atZ]at h;rcases h with h|h;simp only[atu,atH]at h;obtain⟨⟨⟨rfl,_⟩,_⟩,_⟩:=h;exact⟨40,_,pR p s n l,by decide⟩;obtain⟨c,q,h1,h2,_⟩:=Em (p:=p) h (r:=[]) (.inl rfl);exact⟨c,q,h1,h2⟩
theorem go_blanks {c:UInt8} {q:By} (hb:dA c=false) (f:Nat) (os:List T) (pos:Nat):sxGo (f+1) os (32::c::q) pos=sxGo (f+1) os (c::q) (pos+1):=by
 have e1:sxRun dA (32::c::q)=1:=by
  have:dA 32=true:=by decide
  simp[sxRun,this,hb]
 have e2:sxRun dA (c::q)=0:=by simp[sxRun,hb]
 conv=>lhs;unfold sxGo
 conv=>rhs;unfold sxGo
 simp only[e1,e2,at6,auC,atW]
theorem go_step {c:UInt8} {q:By} (hb:dA c=false) (f:Nat) (os:List T) (pos:Nat):sxGo (f+1) os (c::q) pos=
  if (iD os (bF (c::q))).1==0 then sxGo f (sxTake os ((bF (c::q)).tree pos)) ((c::q).drop (bF (c::q)).size) (pos+(bF (c::q)).size)
  else (dM,(iD os (bF (c::q))).1,pos+(iD os (bF (c::q))).2):=by
 have e2:sxRun dA (c::q)=0:=by simp[sxRun,hb]
 conv=>lhs;unfold sxGo
 simp only[e2,auC,atW]
theorem WU {os:List T} (h:os≠[]) (e:T):sxDone (os++[e])=sxDone os:=by
 cases os with
 | nil=>exact absurd rfl h
 | cons a b=>rfl
def T.adds (e:T) (l:List T):T:=.mk e.kind e.s e.n (e.kids++l) e.pos
theorem T.YW (e:T):e.adds []=e:=by cases e;simp[T.adds,T.kind,T.s,T.n,T.kids,T.pos]
theorem T.WV (e t:T) (l:List T):(e.add t).adds l=e.adds (t::l):=by simp[T.adds,T.add,T.kind,T.s,T.n,T.kids,T.pos]
def VC (t:T):Prop:=∀(os:List T) (r:By) (pos f:Nat),os≠[]→sxDone os=false→Ip r→(printS t).length+r.length<f→
 (os.length+t.deep≤13→∃t' f' pos',t'.strip=t.strip∧r.length<f'∧sxGo f os (printS t++r) pos=sxGo f' (sxPut os t') r pos')∧
 (13<os.length+t.deep→os.length≤13→∃x,sxGo f os (printS t++r) pos=(dM,14,x))
def VD (l:List T):Prop:=∀(b:Bool) (os:List T) (e:T) (r:By) (pos f:Nat),os≠[]→sxDone os=false→(∃q,r=41::q)→(printL b l).length+r.length<f→
 (os.length+1+T.nP l≤13→∃l' f' pos',l'.map T.strip=l.map T.strip∧r.length<f'∧sxGo f (os++[e]) (printL b l++r) pos=sxGo f' (os++[e.adds l']) r pos')∧
 (13<os.length+1+T.nP l→os.length+1≤13→∃x,sxGo f (os++[e]) (printL b l++r) pos=(dM,14,x))
theorem WW (t:T) (l:List T) (ht:t.fine=true) (h1:VC t) (h2:VD l):VD (t::l):=by
 intro b os e r pos f h0 hd hr hf;obtain⟨c,q,hp,hb⟩:=TR ht;have hne:os++[e]≠[]:=by simp
 have VE:sxDone (os++[e])=false:=by rw[WU h0];exact hd
 have hr2:Ip (printL false l++r):=by
  cases l with
  | nil=>
   obtain⟨q',rfl⟩:=hr;exact .inr ⟨41,q',by simp[printL],.inr rfl⟩
  | cons a l=>exact .inr ⟨32,_,by simp[printL];rfl,.inl rfl⟩
 have hstart:∃ad8,sxGo f (os++[e]) (printL b (t::l)++r) pos=sxGo f (os++[e]) (printS t++(printL false l++r)) ad8:=by
  cases b
  ·refine⟨pos+1,?_⟩;rw[printL];simp only[atE,if_false,atS,aue,auv];rw[hp];obtain⟨g,rfl⟩:∃g,f=g+1:=⟨f - 1,by omega⟩
   simp only[aue];exact go_blanks hb g _ _
  refine⟨pos,?_⟩;rw[printL];simp only[if_true,auv,atS]
 obtain⟨ad8,hs⟩:=hstart;have hlen:(printS t).length+(printL false l++r).length<f:=by
  have:(printL b (t::l)).length≥(printS t).length+(printL false l).length:=by
   rw[printL]
   cases b<;>simp
  rw[atv];omega
 obtain⟨g1,g2⟩:=h1 (os++[e]) (printL false l++r) ad8 f hne VE hr2 hlen;have hol:(os++[e]).length=os.length+1:=by simp
 rw[hol]at g1 g2;rw[hs];constructor;intro WX;rw[T.nP]at WX;have hA:os.length+1+t.deep≤13:=by have:=Nat.le_max_left t.deep (T.nP l);omega
 have hB:os.length+1+T.nP l≤13:=by have:=Nat.le_max_right t.deep (T.nP l);omega
 clear WX g2;obtain⟨t',f',pos',hst,hf',heq⟩:=g1 hA;rw[atv]at hf';obtain⟨k1,_⟩:=h2 false os (e.add t') r pos' f' h0 hd hr hf';obtain⟨l',f2,ajJ,Gs,hf2,ajK⟩:=k1 hB;refine⟨t'::l',f2,ajJ,by simp[hst,Gs],hf2,?_⟩;rw[heq,nJ,ajK,T.WV];intro WX hle;rw[T.nP]at WX;by_cases ajL:os.length+1+t.deep≤13;have hB:13<os.length+1+T.nP l:=by rcases Nat.le_total t.deep (T.nP l) with h|h;rw[Nat.max_eq_right h]at WX;exact WX;rw[Nat.max_eq_left h]at WX;omega
 clear WX g2;obtain⟨t',f',pos',hst,hf',heq⟩:=g1 ajL;rw[atv]at hf';obtain⟨_,k2⟩:=h2 false os (e.add t') r pos' f' h0 hd hr hf';rw[heq,nJ];exact k2 hB hle;exact g2 (by omega) hle
theorem WY {k:Int} {s:By} {n:Int} {l:List T} {p:Nat} (h:gJ k s n l=true):VC (.mk k s n l p):=by
 intro os r pos f h0 hd hr hf;obtain⟨c,q,hp,hb,hsc,uQ,hk2,hl⟩:=Em (p:=p) h hr;subst hl;have WX:(T.mk k s n [] p).deep=0:=by rw[T.deep,if_neg (atp.1 uQ)]
 obtain⟨g,rfl⟩:∃g,f=g+1:=⟨f - 1,by omega⟩
 rw[WX];refine⟨fun hle=>?_,fun h13 hle=>by omega⟩;rw[hp]at hsc hf⊢;rw[aue,go_step hb,←aue,hsc];have hj:iD os ⟨k,s,n,(c::q).length,0,0⟩=(0,0):=by unfold iD;simp[hd,uQ,hk2]
 have agq:=atp.1 uQ;have ajM:=atp.1 hk2;have ht:sxTake os ((Tk.mk k s n (c::q).length 0 0).tree pos)=sxPut os (.mk k s n [] pos):=by unfold sxTake Tk.tree;simp[T.kind,agq,ajM]
 rw[hj];simp only[auc,if_true];rw[ht,List.drop_left];refine⟨.mk k s n [] pos,g,_,by simp[T.iZ],by simp at hf;omega,rfl⟩
theorem WZ {l:List T} {p:Nat} (h:VD l):VC (.mk 1 [] 0 l p):=by
 intro os r pos f h0 hd hr hf;rw[pR]at hf⊢;simp only[atF,atv,aur]at hf;obtain⟨g,rfl⟩:∃g,f=g+1:=⟨f - 1,by omega⟩
 have hb:dA 40=false:=by decide
 have hsc:∀q,bF (40::q)=⟨1,[],0,1,0,0⟩:=fun q=>by unfold bF;rfl
 have WX:(T.mk 1 [] 0 l p).deep=T.nP l+1:=by rw[T.deep,if_pos rfl]
 rw[WX,aue,go_step hb,hsc,atS];have hj:iD os ⟨1,[],0,1,0,0⟩=if 12<os.length then (14,0) else (0,0):=by unfold iD;simp[hd]
 rw[hj];by_cases h12:12<os.length;rw[if_pos h12];refine⟨fun hle=>by omega,fun _ _=>⟨pos,by simp⟩⟩;rw[if_neg h12];simp only[auc,if_true,at6,auC];have ht:sxTake os ((Tk.mk 1 [] 0 1 0 0).tree pos)=os++[.mk 1 [] 0 [] pos]:=by unfold sxTake Tk.tree;simp[T.kind]
 rw[ht];obtain⟨k1,k2⟩:=h true os (.mk 1 [] 0 [] pos) ([41]++r) (pos+1) g h0 hd ⟨r,rfl⟩ (by simp;omega);refine⟨fun hle=>?_,fun h13 hle=>k2 (by omega) (by omega)⟩;obtain⟨l',f',pos',hst,hf',heq⟩:=k1 (by omega);simp only[atv,atF,aur]at hf';obtain⟨g',rfl⟩:∃g',f'=g'+1:=⟨f' - 1,by omega⟩
 rw[heq];have hb2:dA 41=false:=by decide
 have ajN:bF (41::r)=⟨-1,[],0,1,0,0⟩:=by unfold bF;rfl
 have hj2:iD (os++[(T.mk 1 [] 0 [] pos).adds l']) ⟨-1,[],0,1,0,0⟩=(0,0):=by unfold iD;simp[h0]
 rw[aue,auv,go_step hb2,ajN,hj2];simp only[auc,if_true,at6,auC];have Yg:sxTake (os++[(T.mk 1 [] 0 [] pos).adds l']) ((Tk.mk (-1) [] 0 1 0 0).tree pos')=sxPut os ((T.mk 1 [] 0 [] pos).adds l'):=by unfold sxTake Tk.tree;simp[T.kind]
 rw[Yg];refine⟨(T.mk 1 [] 0 [] pos).adds l',g',_,?_,by omega,rfl⟩;simp only[T.adds,T.kind,T.s,T.n,T.kids,T.pos,auv];rw[T.iZ,T.iZ,hst]
mutual
theorem MS:∀t:T,t.fine=true→VC t
 | .mk k s n l p,h=>by have hl:=Ir l;rw[T.fine,atZ]at h;rcases h with h|h;simp only[atu,atH,au4]at h;obtain⟨⟨⟨rfl,rfl⟩,rfl⟩,h4⟩:=h;exact WZ (hl h4);exact WY h
theorem Ir:∀l:List T,T.ve l=true→VD l
 | [],_=>by intro b os e r pos f h0 hd hr hf;refine⟨fun _=>⟨[],f,pos,rfl,by omega,?_⟩,fun h13 hle=>by simp[T.nP]at h13;omega⟩;rw[T.YW];simp[printL]
 | t::l,h=>by rw[T.ve,atu]at h;exact WW t l h.1 (MS t h.1) (Ir l h.2)
end
theorem TS (t:T) (h:t.fine=true):(600<(printS t).length→eF (printS t)=(dM,3,0))∧
  ((printS t).length≤600→t.deep≤12→∃t',t'.strip=t.strip∧eF (printS t)=(t',0,0))∧
  ((printS t).length≤600→12<t.deep→∃x,eF (printS t)=(dM,14,x)):=by
 have hg:=MS t h [dM] [] 0 ((printS t).length+1) (by simp) rfl (.inl rfl) (by simp);rw[auX]at hg;have h1:([dM]:List T).length=1:=rfl;rw[h1]at hg;refine⟨fun hl=>by unfold eF;rw[if_pos hl],fun hl hd=>?_,fun hl hd=>?_⟩;obtain⟨t',f',pos',hst,hf',heq⟩:=hg.1 (by omega);refine⟨t',hst,?_⟩;unfold eF;rw[if_neg (by omega),heq];obtain⟨g,rfl⟩:∃g,f'=g+1:=⟨f' - 1,by simp at hf';omega⟩
 unfold sxGo;simp[sxPut,dM,T.add,T.kids,jT,sxRun];obtain⟨x,hx⟩:=hg.2 (by omega) (by omega);exact⟨x,by unfold eF;rw[if_neg (by omega),hx]⟩
end Go.Proofs.YtpbfokkocaemlaaGreatDoor
