import Derived.Test.YtbgmhhfjkkfhpaaGreatDoorZ14G
import Derived.Test.YtbgmhhfjkkfhpaaGreatDoorZ12G
set_option linter.unusedVariables false
set_option maxRecDepth 100000
set_option maxHeartbeats 64000000
namespace Go.Proofs.YtbgmhhfjkkfhpaaGreatDoor
open Go.RowKit
open Go.Lib renaming hid → zq
open Go renaming World → ak
open Go renaming Value → au
open Go.Proofs.Tryz renaming prog → ax
variable {U:Prop}
open Go.Proofs.Tryz
def oQ(a:Int):Bool:=decide (0<=a)&&decide (a<=1125899906842624)
theorem lq{a:Int}:oQ a=true↔Part a:=by unfold oQ Part;simp
def nR(a b:Int):Prop:=∀w:ak,Calls ax 51 #[.complex .f64 (fl a) (fl b)] w λe w'=>e=.returned (.bool (oQ a&&oQ b))/\w=w'
theorem nR.part{a b:Int}(ha:Part a)(hb:Part b):nR a b:=λw=>by rw[lq.2 ha,lq.2 hb];exact ag7 a b ha hb w
def pq(x:J):Bool:=!(bZ x.2.1&&(oQ x.2.2.1&&oQ x.2.2.2))
structure iR(g:Nat)(z:J)(w:ak):Prop where
 blk:w.heap[g]?=some (.cells #[nK z,nP z] 47 (0,0))
theorem iR.c0{g:Nat}{z:J}{w:ak}(h:iR g z w):w.cell? ⟨g,0,none⟩=some (nK z):=by rw[aFf h.blk];rfl
theorem iR.c1{g:Nat}{z:J}{w:ak}(h:iR g z w):w.cell? ⟨g,1,none⟩=some (nP z):=by rw[aFf h.blk];rfl
theorem iR.ev{g:Nat}{z:J}{w w':ak}(h:iR g z w)(he:Ev w w'):iR g z w':=
 ⟨by rw[he.block g (aDa.1 h.blk).1];exact h.blk⟩
theorem iR.new(z:J)(w:ak):iR w.heap.size z (w.alloc (.cells #[nK z,nP z] 47)):=⟨aFd w _⟩
theorem iR.lt{g:Nat}{z:J}{w:ak}(h:iR g z w):g<w.heap.size:=(aDa.1 h.blk).1
theorem f_(w:ak)(a:Addr)(x y:Nat)(m:Mode):(store a (.complex .f64 x y) m).run ax w=stored ax w a (.complex .f64 x y) m:=run_store ax w a _ m rfl
theorem aF3(h:U:=by
 go_enter func59,ntmps59
 go_wp2_with (first|(rw[<-hw0];(with_reducible refine HR.out.mono ?_);rintro e w1 ⟨rfl,aJ⟩;have c1:w1.cell? ⟨w.heap.size,1,none⟩=some (.complex .f64 (fl a) (fl b)):=(B0.ev aJ).c1)|((with_reducible refine(HT.out _).mono ?_);rintro e w2 ⟨rfl,rfl⟩))
 go_ret;exact⟨rfl,aV.trans aJ⟩):U:=h
theorem QM(z:J)(w:ak)(hr:Vs w z.1.1 z.1.2.1 z.1.2.2 z.2.1)(ht:nR z.2.2.1 z.2.2.2):
  Calls ax 59 #[jv z] w λe w'=>e=.returned (.bool (pq z))/\Ev w w':=by
 obtain⟨⟨A,n,cap⟩,r,a,b⟩:=z;simp only at hr ht;obtain⟨w0,hw0⟩:∃w0,w0=w.alloc (.cells #[.slice A n cap,.complex .f64 (fl a) (fl b)] 47):=⟨_,rfl⟩
 have aV:Ev w w0:=hw0▸Ev.alloc _ _;have B0:iR w.heap.size ((A,n,cap),r,a,b) w0:=hw0▸iR.new ((A,n,cap),r,a,b) w;have c0:w0.cell? ⟨↑w,0,none⟩=some (.slice A n cap):=B0.c0;have HR:=zq (vO w0 (hr.ev aV));have HT:Hid (∀w:ak,Calls ax 51 #[.complex .f64 (fl a) (fl b)] w λe w'=>e=.returned (.bool (oQ a&&oQ b))/\w=w'):=zq ht;clear ht;unfold pq jv nK nP;simp only;generalize bZ r=x at*;generalize (oQ a&&oQ b)=y at*
 cases x
 ·go_enter func59,ntmps59
  go_wp2_with (first|(rw[<-hw0];(with_reducible refine HR.out.mono ?_);rintro e w1 ⟨rfl,aJ⟩))
  go_ret;exact⟨rfl,aV.trans aJ⟩
 cases y
 exact aF3;exact aF3
abbrev Uf:au:=.func (.func 59) #[] #[]
def Fq(Z:List J):Prop:=∀z∈Z,nR z.2.2.1 z.2.2.2
theorem Fv{b0:Nat}{A:Option Addr}{n cap:Nat}{Z:List J}(w:ak)(h:Zs b0 w A n cap Z)(ht:Fq Z):
  Calls ax 110 #[.slice A n cap,Uf] w λe w'=>(∃i:Int,e=.returned ↑i/\(decide (0<=i)=Z.any pq))/\Ev w w':=by
 have hn:=h.le;have hm:=h.max;have HN:=zq h.len;have HT:=zq ht;clear ht;go_enter func110,ntmps110;go_wp2
 go_loopw [8] (λi wr=>∃k:Nat,k<=n/\i=↑k/\Hid ((Z.take k).any pq=false)/\Ev w wr) (λi _=>n-(intOf i).toNat)
 case atStart=>exact⟨0,aDl _,rfl,zq rfl,Ev.refl _⟩
 case round=>
  obtain⟨k,hk,rfl,HF,hE⟩:=hrel;by_cases hlt:k<n
  ·obtain⟨b,off,z,rfl,hb,hb0,hx,c0,c1,hv⟩:=(h.ev hE).at hlt;have HI:=zq (λw1 (h1:Ev wr w1)=>QM z w1 (hv.ev h1) (HT.out z (aDb hx)));have HX:=zq hx;obtain⟨⟨A',n',cap'⟩,r,p,q⟩:=z;clear hx hv;generalize hz:pq ((A',n',cap'),r,p,q)=y at HI;have HZ:=zq hz;clear hz;unfold jv nK nP at HI;unfold nK at c0;unfold nP at c1;simp only at c0 c1 HI;have i1:(0:Int)<=(k:Int):=ae;have i2:(k:Int)<(n:Int):=ae
   cases y
   ·go_wp2_with (first|((with_reducible refine(HI.out _ aS).mono ?_);rintro e w1 ⟨rfl,aJ⟩))
    go_roundw
    case rel=>
     refine⟨k+1,ae,by go_num,zq ?_,hE.trans aJ⟩;obtain⟨hk2,e⟩:=aC6.1 HX.out;rw[aDi hk2,List.any_append,HF.out,e];simp[HZ.out]
    case measure=>simp[intOf];omega
   go_wp2_with (first|((with_reducible refine(HI.out _ aS).mono ?_);rintro e w1 ⟨rfl,aJ⟩))
   go_ret;refine⟨⟨k,rfl,?_⟩,hE.trans aJ⟩;rw[aDE i1];exact(aEj.2 ⟨_,aDb HX.out,HZ.out⟩).symm
  obtain rfl:k=n:=ae;go_wp2;go_ret;refine⟨⟨-1,rfl,?_⟩,hE⟩;have:=HF.out;rw[aDj (by rw[HN.out];exact aC8 _)]at this;rw[this];rfl
theorem AV{b0:Nat}{A:Option Addr}{n cap:Nat}{Z:List J}(w:ak)(h:Zs b0 w A n cap Z)(ht:Fq Z):
  Calls ax 58 #[.slice A n cap,Uf] w λe w'=>e=.returned (.bool (Z.any pq))/\Ev w w':=by
 have HI:=zq (Fv w h ht);generalize Z.any pq=y at*;clear ht;go_enter func58,ntmps58
 go_wp2_with (first|((with_reducible refine HI.out.mono ?_);rintro e w1 ⟨⟨i,rfl,rfl⟩,aJ⟩))
 go_ret;exact⟨rfl,aJ⟩
def iO(n:Int):Int:=(n.toNat:Int)
def ji(n:Int):Int:=((-n).toNat:Int)
theorem Zo(n:Int):Xo n (iO n) (ji n):=by unfold Xo iO ji;omega
def nS(n:Int):Bool:=decide (-1125899906842624<=n)&&decide (n<=1125899906842624)
theorem vS{n:Int}:nS n=true↔-1125899906842624<=n/\n<=1125899906842624:=by unfold nS;simp
theorem adp{n:Int}(h:nS n=false):¬(-1125899906842624<=n/\n<=1125899906842624):=λk=>by rw[vS.2 k]at h;cases h
theorem Ae{n:Int}(h:nS n=true):Part (iO n):=by have:=vS.1 h;unfold iO Part;omega
theorem Af{n:Int}(h:nS n=true):Part (ji n):=by have:=vS.1 h;unfold ji Part;omega
theorem Zp(n:Int):iO n-ji n=n:=by unfold iO ji;omega
abbrev tv(n:Int):au:=.complex .f64 (fl (iO n)) (fl (ji n))
theorem ag_:tv 0=.complex .f64 0 0:=by unfold tv iO ji;simp[wW]
theorem aaQ(n x y:Int)(hn:nS n=true)(hx:Part x)(hy:Part y)(w:ak):
  Calls ax 55 #[tv n,.complex .f64 (fl x) (fl y)] w λe w'=>e=.returned (cond (nS (n+(x-y))) (.tuple #[tv (n+(x-y)),.bool true]) (.tuple #[.complex .f64 0 0,.bool false]))/\w=w':=by
 have hp:=Ae hn;have hq:=Af hn;have e1:=Zp n
 cases hk:nS (n+(x-y))
 have h1:=adp hk;exact anS (iO n) (ji n) x y hp hq hx hy (zq (by rw[e1];omega)) w;exact anR (iO n) (ji n) x y _ _ (n+(x-y)) hp hq hx hy (zq (by rw[e1])) (Zo _) (Ae hk) (Af hk) w
def sumN(n:Int):List I->Option Int
 | []=>some n
 | x::l=>bif nS (n+(x.2.1-x.2.2)) then sumN (n+(x.2.1-x.2.2)) l else none
theorem Hr(l m:List I):∀n,sumN n (l++m)=(sumN n l).bind λk=>sumN k m:=by
 induction l with
 | nil=>intro n;rfl
 | cons x l ih=>
  intro n;simp only[aDR,sumN]
  cases nS (n+(x.2.1-x.2.2))
  rfl;exact ih _
theorem Zq(l:List I):∀n m,nS n=true->sumN n l=some m->nS m=true:=by
 induction l with
 | nil=>intro n m h e;simp[sumN]at e;rw[<-e];exact h
 | cons x l ih=>
  intro n m h e;simp only[sumN]at e
  cases hk:nS (n+(x.2.1-x.2.2))
  rw[hk]at e;cases e;rw[hk]at e;exact ih _ m hk e
def nV(Z:List J):Prop:=∀z∈Z,Part z.2.2.1/\Part z.2.2.2
def aK(Z:List J):List I:=Z.map λz=>z.2
def asx(s:Option Int):au:=match s with
 | some m=>.tuple #[tv m,.bool true]
 | none=>.tuple #[.complex .f64 0 0,.bool false]
theorem Ug{b0:Nat}{A:Option Addr}{n cap:Nat}{Z:List J}(w:ak)(h:Zs b0 w A n cap Z)(hp:nV Z):
  Calls ax 30 #[.slice A n cap] w λe w'=>e=.returned (asx (sumN 0 (aK Z)))/\Ev w w':=by
 have hn:=h.le;have hm:=h.max;have HN:=zq h.len;have HP:=zq hp;clear hp;have hst:=f_;go_enter func30,ntmps30;go_wp2
 go_loopw [11,4] (λi s wr=>∃k:Nat,∃m:Int,k<=n/\i=↑k/\s=tv m/\Hid (nS m=true/\sumN 0 (aK (Z.take k))=some m)/\Ev w wr) (λi _ _=>n-(intOf i).toNat)
 case atStart=>exact⟨0,0,aDl _,rfl,ag_.symm,zq ⟨ai,rfl⟩,Ev.refl _⟩
 case round=>
  obtain⟨k,m,hk,rfl,rfl,HF,hE⟩:=hrel;by_cases hlt:k<n
  ·obtain⟨b,off,z,rfl,hb,hb0,hx,c0,c1,hv⟩:=(h.ev hE).at hlt;have hzp:=HP.out z (aDb hx);have HX:=zq hx;obtain⟨⟨A',n',cap'⟩,r,p,q⟩:=z;have HA:=zq (λw1=>aaQ m p q HF.out.1 hzp.1 hzp.2 w1);clear hx hv hzp;unfold nK at c0;unfold nP at c1;simp only at c0 c1;obtain⟨w0,hw0⟩:∃w0,w0=wr.alloc (.cells #[.slice A' n' cap',.complex .f64 (fl p) (fl q)] 47):=⟨_,rfl⟩
   have aV:Ev wr w0:=hw0▸Ev.alloc _ _;have B0:iR wr.heap.size ((A',n',cap'),r,p,q) w0:=hw0▸iR.new ((A',n',cap'),r,p,q) wr;have d1:w0.cell? ⟨wr.heap.size,1,none⟩=some (.complex .f64 (fl p) (fl q)):=B0.c1;have i1:(0:Int)<=(k:Int):=ae;have i2:(k:Int)<(n:Int):=ae;have HS:Hid (sumN 0 (aK (Z.take (k+1)))=cond (nS (m+(p-q))) (some (m+(p-q))) none/\Z.drop (k+1)=Z.drop (k+1)):=zq ⟨by
    obtain⟨hk2,e⟩:=aC6.1 HX.out;rw[aDi hk2,e];unfold aK;rw[aDk,Hr];have:=HF.out.2;unfold aK at this;rw[this];simp only[Option.bind_some,aDe,aDu,sumN]
    ,rfl⟩
   generalize wO:nS (m+(p-q))=y at*;have HY:=zq wO;clear wO;generalize hmm:m+(p-q)=m' at*;clear hmm
   cases y
   ·go_wp2_with (first|(rw[<-hw0];(with_reducible refine(HA.out _).mono ?_);rintro e w1 ⟨rfl,rfl⟩))
    go_ret2
    refine⟨?_,hE.trans aC⟩;have hno:sumN 0 (aK Z)=none:=by have h1:Z=Z.take (k+1)++Z.drop (k+1):=(aDS _ _).symm;rw[h1];unfold aK;rw[aDk,Hr];have:=HS.out.1;unfold aK at this;rw[this];rfl
    rw[hno];rfl
   go_wp2_with (first|(rw[<-hw0];(with_reducible refine(HA.out _).mono ?_);rintro e w1 ⟨rfl,rfl⟩))
   go_roundw
   case rel=>exact⟨k+1,m',ae,by go_num,rfl,zq ⟨HY.out,HS.out.1⟩,hE.trans aC⟩
   case measure=>simp[intOf];omega
  obtain rfl:k=n:=ae;go_wp2
  go_ret2
  refine⟨?_,hE⟩;have:=HF.out.2;rw[aDj (by rw[HN.out];exact aC8 _)]at this;rw[this];rfl
def Zr(p q:Int):Bool:=!(decide (p=0)&&decide (q=0))&&(decide (p=0)||decide (q=0))
theorem wY{p:Int}(h:Part p):FloatKind.f64.format.order (fl p) 0=some (if p=0 then .eq else .gt):=by obtain⟨n,rfl,hn⟩:=h.nat;have:=sG n 0 ae ai;rw[show ((0:Nat):Int)=0 from rfl,wW]at this;rw[this];by_cases h0:n=0;subst h0;rfl;rw[Nat.compare_eq_gt.2 ae,if_neg ae]
theorem adq{p p':Int}(h:Part p)(h':Part p')(hlt:p'<p):FloatKind.f64.format.order (fl p) (fl p')=some .gt:=by obtain⟨n,rfl,hn⟩:=h.nat;obtain⟨m,rfl,hm⟩:=h'.nat;rw[sG n m ae ae,Nat.compare_eq_gt.2 ae]
theorem aHf(h:U:=by
 go_enter func53,ntmps53
 go_wp2_with (first|((with_reducible refine(HR.out _).mono ?_);rintro e w1 ⟨rfl,rfl⟩))
 go_ret;exact⟨rfl,rfl⟩):U:=h
theorem Uh(p q:Int)(hp:Part p)(hq:Part q)(w:ak):
  Calls ax 53 #[.complex .f64 (fl p) (fl q)] w λe w'=>e=.returned (.bool (Zr p q))/\w=w':=by
 have o1:=wY hp;have o2:=wY hq;have WB:Part (iO (p-q))/\Part (ji (p-q)):=by unfold Part iO ji at*;omega
 have HR:=zq (λw1=>adl p q _ _ hp hq (Zo (p-q)) w1);unfold Zr;by_cases h1:p=0
 ·by_cases h2:q=0
  ·subst h1 h2;simp only[aDL]at o1 o2;go_enter func53,ntmps53;go_wp2;go_ret;exact⟨rfl,rfl⟩
  subst h1;rw[if_neg h2]at o2;rw[if_pos rfl]at o1;have e1:iO (0-q)=0:=by unfold iO Part at*;omega
  have e2:ji (0-q)=q:=by unfold ji Part at*;omega
  rw[e1,e2]at HR;have o3:=Ji hp;have o4:=Ji hq;have e3:decide (q=0)=false:=aDB h2;rw[e3];clear e3 h2;exact aHf
 rw[if_neg h1]at o1;have e0:decide (p=0)=false:=aDB h1;by_cases h2:q=0;subst h2;have e1:iO (p-0)=p:=by unfold iO Part at*;omega
 have e2:ji (p-0)=0:=by unfold ji Part at*;omega
 rw[e1,e2]at HR;have o3:=Ji hp;have o4:=Ji hq;rw[e0];clear e0 h1 o2;exact aHf;have e3:decide (q=0)=false:=aDB h2;have o3:=adq hp WB.1 (by unfold iO Part at*;omega);generalize iO (p-q)=p' at*;generalize ji (p-q)=q' at*;rw[e0,e3];clear e0 e3 h1 h2 o2;exact aHf
theorem O9{A:Option Addr}{n cap:Nat}{r:List V}(w:ak)(h:Vs w A n cap r)(hn:n<=1000)(h0:0<n):
  Calls ax 62 #[.slice A n cap] w λe w'=>∃A' cap',e=.returned (.slice A' n cap')/\Vs w' A' n cap' r/\New w w' A'/\Ev w w':=by
 have q22:∀(w:ak) (a:Option Addr) (n c n' c':Nat),(binOp .eql 44 (.slice a n c) (.slice none n' c')).run ax w=.ok (.bool a.isNone) w:=λw a n c n' c'=>Lib.run_eql_slice_nil w 44 42 a n c n' c' underlying44;have HL:=zq h.len;obtain⟨b,off,rfl,_,_⟩:=h.rd h0;go_enter func62,ntmps62;have hE:qj (w.alloc (.cells #[] 42)) (.slice ↑w 0 0) []:=qj.of (base:=0) (World.ownsRow_made w #[] 0 (aDl _) (by unfold maxLen;omega) rfl)
 go_wp2_with (at_builtin;refine sH rfl (.tmp 5) (.tmp 6) rfl underlying44 Tryz.Zn (.slice ↑w 0 0) [] rfl hE ↑(b,off) n cap r rfl (h.ev aC) (by rw[HL.out];simp;omega) ?_;intro v1 w1 hr1 hb1 hs1;obtain⟨A1,cap1,rfl,hB1,hO1⟩:=hr1.vs)
 go_ret;have hl:=HL.out;simp only[aDW]at hB1|-;rw[hl]at hB1|-;refine⟨A1,cap1,rfl,hB1,λx hx=>⟨?_,hr1.lt (hO1 x hx)⟩,(But.ev (K:=[w.heap.size]) ((But.alloc (K:=[w.heap.size]) _).then (hb1.wide (by simp[foot,Value.ownBlock]))) aj)⟩;rcases hs1 x.block (hO1 x hx) with h3|h3;simp[Value.ownBlock]at h3;omega;simp at h3;omega
end Go.Proofs.YtbgmhhfjkkfhpaaGreatDoor
