import Derived.Test.YtpbfokkocaemlaaGreatDoorZ14J
import Derived.Test.YtpbfokkocaemlaaGreatDoorZ9J
set_option linter.unusedVariables false
set_option maxRecDepth 100000
set_option maxHeartbeats 64000000
namespace Go.Proofs.YtpbfokkocaemlaaGreatDoor
open Go.RowKit
open Go.Lib renaming hid → zq
open Go renaming World → ak
open Go renaming Value → au
open Go.Proofs.Tryz renaming prog → ax
variable {U:Prop}
open Go.Proofs.Tryz
theorem Bx.three{T:TypeId}{g:Nat}{w:ak}{v0 v1 v2:au}(h:Bx T g #[v0,v1,v2] w):(w.cell? ⟨g,0,none⟩=some v0/\w.cell? ⟨g,1,none⟩=some v1/\w.cell? ⟨g,2,none⟩=some v2)/\
  (w.frozen? ⟨g,0,none⟩=false/\w.frozen? ⟨g,1,none⟩=false/\w.frozen? ⟨g,2,none⟩=false):=
 ⟨⟨h.cell 0,h.cell 1,h.cell 2⟩,h.frozen 0,h.frozen 1,h.frozen 2⟩
def xX(g:Nat)(v0 v1 v2:au)(w:ak):ak:=((w.setCell ⟨g,0,none⟩ v0).setCell ⟨g,1,none⟩ v1).setCell ⟨g,2,none⟩ v2
theorem dw(g:Nat)(v0 v1 v2:au)(w:ak):((w.setCell ⟨g,0,none⟩ v0).setCell ⟨g,1,none⟩ v1).setCell ⟨g,2,none⟩ v2=xX g v0 v1 v2 w:=rfl
theorem uV(g:Nat)(v0 v1 v2:au)(w:ak):But [g] w (xX g v0 v1 v2 w):=
 ((But.setCell ⟨g,0,none⟩ _ aj).then (But.setCell ⟨g,1,none⟩ _ aj)).then (But.setCell ⟨g,2,none⟩ _ aj)
theorem Bx.xX{T:TypeId}{g:Nat}{w:ak}{u0 u1 u2:au}(h:Bx T g #[u0,u1,u2] w)(v0 v1 v2:au):Bx T g #[v0,v1,v2] (xX g v0 v1 v2 w):=by have:=((h.set 0 v0).set 1 v1).set 2 v2;rw[show ((((#[u0,u1,u2]:Array au).setIfInBounds 0 v0).setIfInBounds 1 v1).setIfInBounds 2 v2)=#[v0,v1,v2] by simp]at this;exact this
def zD(n:Int):Prop:=-9223372036854775808<=n/\n<=9223372036854775807
instance (n:Int):Decidable (zD n):=by unfold zD;infer_instance
theorem GR{s:By}(h:¬(s=Be)/\¬(s=Bf)/\¬(s=Bg)/\¬(s=UF)/\¬(s=UG)/\¬(s=Bh)/\¬(s=UH)/\¬(s=Bi)/\¬(s=Bj)/\¬(s=Bl)/\¬(s=Bo)/\¬(s=Nc)):bI s=0:=by obtain⟨h0,h1,h2,h3,h4,h5,h6,h7,h8,h9,h10,h11⟩:=h;unfold bI PH PI;simp[h0,h1,h2,h3,h4,h5,h6,h7,h8,h9,h10,h11]
theorem aA8(h:U:=by go_enter func194,ntmps194;go_wp2;go_ret;exact⟨rfl,rfl⟩):U:=h
theorem GU(s:By)(w:ak):Calls ax 194 #[.string (dh s)] w λe w'=>e=.returned (.int .i64 (bI s:Int))/\w=w':=by unfold dh;by_cases hAdd:s=Be;subst hAdd;unfold Be;rw[show bI [97,100,100]=2 from rfl];exact aA8;by_cases hSub:s=Bf;subst hSub;unfold Bf;rw[show bI [115,117,98]=2 from rfl];exact aA8;by_cases hMul:s=Bg;subst hMul;unfold Bg;rw[show bI [109,117,108]=2 from rfl];exact aA8;by_cases hEq:s=UF;subst hEq;unfold UF;rw[show bI [101,113]=2 from rfl];exact aA8;by_cases hLt:s=UG;subst hLt;unfold UG;rw[show bI [108,116]=2 from rfl];exact aA8;by_cases hAnd:s=Bh;subst hAnd;unfold Bh;rw[show bI [97,110,100]=2 from rfl];exact aA8;by_cases hOr:s=UH;subst hOr;unfold UH;rw[show bI [111,114]=2 from rfl];exact aA8;by_cases Vq:s=Bi;subst Vq;unfold Bi;rw[show bI [99,97,116]=2 from rfl];exact aA8;by_cases Vr:s=Bj;subst Vr;unfold Bj;rw[show bI [110,101,103]=1 from rfl];exact aA8;by_cases Vt:s=Bl;subst Vt;unfold Bl;rw[show bI [110,111,116]=1 from rfl];exact aA8;by_cases hLen:s=Bo;subst hLen;unfold Bo;rw[show bI [108,101,110]=1 from rfl];exact aA8;by_cases hIf:s=Nc;subst hIf;unfold Nc;rw[show bI [105,102]=3 from rfl];exact aA8;rw[GR ⟨hAdd,hSub,hMul,hEq,hLt,hAnd,hOr,Vq,Vr,Vt,hLen,hIf⟩];have amf:(s==Be)=false:=awg.2 hAdd;have amg:(s==Bf)=false:=awg.2 hSub;have amh:(s==Bg)=false:=awg.2 hMul;have gEq:(s==UF)=false:=awg.2 hEq;have gLt:(s==UG)=false:=awg.2 hLt;have ami:(s==Bh)=false:=awg.2 hAnd;have gOr:(s==UH)=false:=awg.2 hOr;have amj:(s==Bi)=false:=awg.2 Vq;have amk:(s==Bj)=false:=awg.2 Vr;have aml:(s==Bl)=false:=awg.2 Vt;have amm:(s==Bo)=false:=awg.2 hLen;have gIf:(s==Nc)=false:=awg.2 hIf;unfold Be Bf Bg UF UG Bh UH Bi Bj Bl Bo Nc at*;exact aA8
theorem aA9(h:U:=by go_enter func124,ntmps124;go_wp2;go_ret;exact⟨rfl,rfl⟩):U:=h
theorem Sj(s:By)(w:ak):Calls ax 124 #[.string (dh s)] w λe w'=>e=.returned (.int .i64 (bI s:Int))/\w=w':=by unfold dh;by_cases hAdd:s=Be;subst hAdd;unfold Be;rw[show bI [97,100,100]=2 from rfl];exact aA9;by_cases hSub:s=Bf;subst hSub;unfold Bf;rw[show bI [115,117,98]=2 from rfl];exact aA9;by_cases hMul:s=Bg;subst hMul;unfold Bg;rw[show bI [109,117,108]=2 from rfl];exact aA9;by_cases hEq:s=UF;subst hEq;unfold UF;rw[show bI [101,113]=2 from rfl];exact aA9;by_cases hLt:s=UG;subst hLt;unfold UG;rw[show bI [108,116]=2 from rfl];exact aA9;by_cases hAnd:s=Bh;subst hAnd;unfold Bh;rw[show bI [97,110,100]=2 from rfl];exact aA9;by_cases hOr:s=UH;subst hOr;unfold UH;rw[show bI [111,114]=2 from rfl];exact aA9;by_cases Vq:s=Bi;subst Vq;unfold Bi;rw[show bI [99,97,116]=2 from rfl];exact aA9;by_cases Vr:s=Bj;subst Vr;unfold Bj;rw[show bI [110,101,103]=1 from rfl];exact aA9;by_cases Vt:s=Bl;subst Vt;unfold Bl;rw[show bI [110,111,116]=1 from rfl];exact aA9;by_cases hLen:s=Bo;subst hLen;unfold Bo;rw[show bI [108,101,110]=1 from rfl];exact aA9;by_cases hIf:s=Nc;subst hIf;unfold Nc;rw[show bI [105,102]=3 from rfl];exact aA9;rw[GR ⟨hAdd,hSub,hMul,hEq,hLt,hAnd,hOr,Vq,Vr,Vt,hLen,hIf⟩];have amf:(s==Be)=false:=awg.2 hAdd;have amg:(s==Bf)=false:=awg.2 hSub;have amh:(s==Bg)=false:=awg.2 hMul;have gEq:(s==UF)=false:=awg.2 hEq;have gLt:(s==UG)=false:=awg.2 hLt;have ami:(s==Bh)=false:=awg.2 hAnd;have gOr:(s==UH)=false:=awg.2 hOr;have amj:(s==Bi)=false:=awg.2 Vq;have amk:(s==Bj)=false:=awg.2 Vr;have aml:(s==Bl)=false:=awg.2 Vt;have amm:(s==Bo)=false:=awg.2 hLen;have gIf:(s==Nc)=false:=awg.2 hIf;unfold Be Bf Bg UF UG Bh UH Bi Bj Bl Bo Nc at*;exact aA9
def ig(k:Int)(s:By)(n:Int)(n1:Nat):Bool:=
 if k==1 then !iC s||!(n==0)||decide (0<n1)
 else if k==2 then !s.isEmpty||decide (0<n1)
 else if k==3 then !(n==0)||decide (0<n1)
 else if k==4 then bI s==0||!(n==0)||!(n1==bI s)
 else true
theorem CQ(m:M):lQ m.t=ig m.kind m.s m.n m.kids.length:=by
 unfold lQ ig;rw[M.xB,M.uJ,M.t_n,M.aZ,awh];have:(!(m.kids.map M.t).isEmpty)=decide (0<m.kids.length):=by cases m.kids<;>simp
 rw[this]
theorem adk(m:M)(w:ak):Calls ax 173 #[Az m] w λe w'=>e=.returned m.kv/\Ev w w':=by unfold Az M.kv;go_enter func173,ntmps173;go_wp2;go_ret;exact⟨rfl,Ev.alloc _ _⟩
theorem azh(h:U:=by
 go_enter func175,ntmps175
 go_wp2_with (first|((with_reducible refine(HNm.out _).mono ?_);rintro e w1 ⟨rfl,aK⟩;have E1:=HE.out.trans aK;obtain⟨⟨c0,c1,c2,c3⟩,_⟩:=(HB.out.ev aK).four))
 go_ret;exact⟨by simp[h1],E1⟩):U:=h
theorem ay2(h:U:=by
 by_cases h1:0<n1
 ·have i1:(0:Int)<(n1:Int):=ae;go_enter func175,ntmps175;go_wp2;go_ret;exact⟨by first|rfl|simp[h1],HE.out⟩
 have i1:¬((0:Int)<(n1:Int)):=ae;go_enter func175,ntmps175;go_wp2;go_ret;exact⟨by first|rfl|simp[h1],HE.out⟩):U:=h
theorem azj(h:U:=by
 go_enter func175,ntmps175;go_wp2
 go_quiet (first|(go_at_call 194;exact Calls.quiet_of_same ((HO.out _).mono λ_ _ h=>⟨h.1,h.2.symm⟩)))
 all_goals (go_wp2;go_ret;exact⟨by first|rfl|simp,HE.out.trans (Ev.drewN _ _)⟩)):U:=h
theorem PN(k:Int)(s:By)(n:Int)(A:Option Addr)(n1 cap:Nat)(w:ak)(hs:s.length<=1000000)(rH:n1<=1000000):
  Calls ax 175 #[.agg #[↑k,↑s,↑n,.slice A n1 cap]] w λe w'=>e=.returned (.bool (ig k s n n1))/\Ev w w':=by
 have HNm:=λw1=>xW (dh s) w1;have HO:=zq (λw1=>GU s w1);have hE:=Ev.alloc w (.cells #[↑k,↑s,↑n,.slice A n1 cap] 47);have hB:=Bx.new 47 #[↑k,↑s,↑n,.slice A n1 cap] w;obtain⟨w0,hw0⟩:∃w0,w.alloc (.cells #[↑k,↑s,↑n,.slice A n1 cap] 47)=w0:=⟨_,rfl⟩
 rw[hw0]at hE hB;obtain⟨⟨c0,c1,c2,c3⟩,_⟩:=hB.four;have HB:=zq hB;have HE:=zq hE;clear hB hE;unfold dh at HNm HO;by_cases k1:k=1
 ·subst k1;unfold ig;simp only[awZ,if_true];rw[show iC s=fK ⟨s.toArray⟩ from rfl];generalize fK ⟨s.toArray⟩=y at*;have HNm:=zq HNm
  cases y with
  | false=>
   go_enter func175,ntmps175
   go_wp2_with (first|((with_reducible refine(HNm.out _).mono ?_);rintro e w1 ⟨rfl,aK⟩;have E1:=HE.out.trans aK))
   go_ret;exact⟨rfl,E1⟩
  | true=>
   by_cases h0:n=0;subst h0;by_cases h1:0<n1;have i1:(0:Int)<(n1:Int):=ae;exact azh;have i1:¬((0:Int)<(n1:Int)):=ae;exact azh;have h0':(n==0)=false:=awg.2 h0;have h0n:(n !=0)=true:=by simp[h0]
   go_enter func175,ntmps175
   go_wp2_with (first|((with_reducible refine(HNm.out _).mono ?_);rintro e w1 ⟨rfl,aK⟩;have E1:=HE.out.trans aK;obtain⟨⟨c0,c1,c2,c3⟩,_⟩:=(HB.out.ev aK).four))
   go_ret;exact⟨by simp[h0],E1⟩
 have k1':(k==1)=false:=awg.2 k1;by_cases k2:k=2
 ·subst k2;unfold ig;simp only[k1',awZ,if_true,awv,if_false]
  cases hse:s with
  | nil=>
   rw[hse]at c1 hw0;exact ay2
  | cons x q=>
   rw[hse]at c1 hw0;go_enter func175,ntmps175;go_wp2;go_ret;exact⟨rfl,HE.out⟩
 have k2':(k==2)=false:=awg.2 k2;by_cases k3:k=3
 ·subst k3;unfold ig;simp only[k1',k2',awZ,if_true,awv,if_false];by_cases h0:n=0;subst h0;exact ay2;have h0':(n==0)=false:=awg.2 h0;have h0n:(n !=0)=true:=by simp[h0]
  go_enter func175,ntmps175;go_wp2;go_ret;exact⟨by simp[h0],HE.out⟩
 have ZL:(k==3)=false:=awg.2 k3;by_cases k4:k=4
 ·subst k4;unfold ig;simp only[k1',k2',ZL,awZ,if_true,awv,if_false];obtain⟨t,ht⟩:∃t,t=bI s:=⟨_,rfl⟩
  rw[<-ht]at HO|-;clear ht
  cases t with
  | zero=>
    rw[show ((0:Nat):Int)=0 from rfl]at HO;exact azj
  | succ t=>
   have e1:¬(((t+1:Nat):Int)=0):=ae;have e1':(((t:Int)+1)==0)=false:=by simp;omega
   have e1n:¬((t:Int)+1=0):=ae;by_cases h0:n=0
   ·subst h0;by_cases h1:n1=t+1;subst h1;exact azj;have h1':¬((n1:Int)=(t:Int)+1):=ae;have h1n:((n1:Int) !=(t:Int)+1)=true:=by simp;omega
    go_enter func175,ntmps175;go_wp2
    go_quiet (first|(go_at_call 194;exact Calls.quiet_of_same ((HO.out _).mono λ_ _ h=>⟨h.1,h.2.symm⟩)))
    all_goals (go_wp2;go_ret;exact⟨by first|rfl|simp[h1],HE.out.trans (Ev.drewN _ _)⟩)
   have h0':(n==0)=false:=awg.2 h0;have h0n:(n !=0)=true:=by simp[h0]
   go_enter func175,ntmps175;go_wp2
   go_quiet (first|(go_at_call 194;exact Calls.quiet_of_same ((HO.out _).mono λ_ _ h=>⟨h.1,h.2.symm⟩)))
   all_goals (go_wp2;go_ret;exact⟨by first|rfl|simp[h0],HE.out.trans (Ev.drewN _ _)⟩)
 have k4':(k==4)=false:=awg.2 k4;unfold ig;simp only[k1',k2',ZL,k4',awv,if_false];go_enter func175,ntmps175;go_wp2;go_ret;exact⟨rfl,HE.out⟩
mutual
def T.every(p:T->Bool):T->Bool
 | .mk k s n l q=>p (.mk k s n l q)&&T.everys p l
def T.everys(p:T->Bool):List T->Bool
 | []=>true
 | t::l=>t.every p&&T.everys p l
end
theorem T.CS(p:T->Bool):∀l:List T,T.everys p l=l.all (T.every p)
 | []=>rfl
 | t::l=>by simp[T.everys,T.CS p l]
theorem T.gz(p:T->Bool)(t:T):t.every p=(p t&&t.kids.all (T.every p)):=by
 cases t
 rw[T.every,T.CS];rfl
theorem T.size_eq(t:T):t.size=(t.kids.map T.size).sum+1:=by
 cases t
 rw[T.size,T.qK];rfl
mutual
theorem um:∀t:T,dQ t=t.every λx=>!lQ x
 | .mk k s n l q=>by rw[dQ,T.every,BJ l]
theorem BJ:∀l:List T,rP l=T.everys (λx=>!lQ x) l
 | []=>rfl
 | t::l=>by rw[rP,T.everys,um t,BJ l]
end
theorem T.size_pos(t:T):1<=t.size:=by rw[T.size_eq];omega
theorem jS:∀l:List T,l.length<=(l.map T.size).sum
 | []=>by simp
 | t::l=>by have:=jS l;have:=T.size_pos t;simp;omega
theorem YE:∀l:List T,l.length<=T.sizes l:=λl=>by rw[T.qK];exact jS l
mutual
theorem GV(N:Nat):∀t:T,t.size<=N->t.every (λx=>decide (x.kids.length<=N))=true
 | .mk k s n l q,h=>by rw[T.size]at h;have:=YE l;rw[T.every,DY N l ae];show (decide (l.length<=N)&&true)=true;rw[awO ae];rfl
theorem DY(N:Nat):∀l:List T,T.sizes l<=N->T.everys (λx=>decide (x.kids.length<=N)) l=true
 | [],_=>rfl
 | t::l,h=>by rw[T.sizes]at h;rw[T.everys,GV N t ae,DY N l ae];rfl
end
abbrev JL:au:=.func (.func 175) #[] #[]
abbrev aim:au:=.func (.func 173) #[] #[]
def Fair(m:M):Prop:=m.s.length<=1000000/\m.kids.length<=1000000
def pF(m:M):Bool:=lQ m.t
theorem Vu(m:M)(hF:Fair m)(w:ak):Calls ax 175 #[Az m] w λe w'=>e=.returned (.bool (pF m))/\Ev w w':=by unfold pF;rw[CQ];exact PN m.kind m.s m.n m.A m.kids.length m.cap w hF.1 hF.2
theorem PO{A:Option Addr}{n cap:Nat}{Z:List M}(w:ak)(h:Es w A n cap Z)(hf:∀z∈Z,Fair z):
  Calls ax 193 #[.slice A n cap,JL] w λe w'=>(∃i:Int,e=.returned ↑i/\(decide (0<=i)=Z.any pF))/\Ev w w':=by
 have hn:=h.le;have hm:=h.max;have HN:=zq h.len;have HF0:=zq hf;clear hf;go_enter func193,ntmps193;go_wp2
 go_loopw [8] (λi wr=>∃k:Nat,k<=n/\i=↑k/\Hid ((Z.take k).any pF=false)/\Ev w wr) (λi _=>n - (intOf i).toNat)
 case atStart=>exact⟨0,aww _,rfl,zq rfl,Ev.refl _⟩
 case round=>
  obtain⟨k,hk,rfl,HF,hE⟩:=hrel;by_cases hlt:k<n
  ·obtain⟨z,hx⟩:=h.at hlt;obtain⟨b,off,rfl,hb,c0,c1,c2,c3⟩:=Es.cell (h.ev hE) hx;have HI:=λw1=>Vu z (HF0.out z (awm hx)) w1;have HX:=zq hx;clear hx;generalize hz:pF z=y at HI;have HZ:=zq hz;clear hz;unfold Az M.kv at HI;unfold M.kv at c3;have HI:=zq HI;have i1:(0:Int)<=(k:Int):=ae;have i2:(k:Int)<(n:Int):=ae
   cases y
   ·go_wp2_with (first|((with_reducible refine(HI.out _).mono ?_);rintro e w1 ⟨rfl,aK⟩))
    go_roundw
    case rel=>
     refine⟨k+1,ae,by go_num,zq ?_,hE.trans aK⟩;obtain⟨hk2,e⟩:=awi.1 HX.out;rw[aws hk2,List.any_append,HF.out,e];simp[HZ.out]
    case measure=>simp[intOf];omega
   go_wp2_with (first|((with_reducible refine(HI.out _).mono ?_);rintro e w1 ⟨rfl,aK⟩))
   go_ret;refine⟨⟨k,rfl,?_⟩,hE.trans aK⟩;rw[awO i1];exact(axu.2 ⟨_,awm HX.out,HZ.out⟩).symm
  obtain rfl:k=n:=ae;go_wp2;go_ret;refine⟨⟨-1,rfl,?_⟩,hE⟩;have:=HF.out;rw[awC (by rw[HN.out];exact awj _)]at this;rw[this];rfl
theorem Io{A:Option Addr}{n cap:Nat}{Z:List M}(w:ak)(h:Es w A n cap Z)(hf:∀z∈Z,Fair z):
  Calls ax 174 #[.slice A n cap,JL] w λe w'=>e=.returned (.bool (Z.any pF))/\Ev w w':=by
 have HI:=zq (PO w h hf);generalize Z.any pF=y at*;clear hf;go_enter func174,ntmps174
 go_wp2_with (first|((with_reducible refine HI.out.mono ?_);rintro e w1 ⟨⟨i,rfl,rfl⟩,aK⟩))
 go_ret;exact⟨rfl,aK⟩
theorem Tryz.zF:(Tryz.prog.info? 47).map (λi=>(i.zero,i.size,i.bytes))=some (some (.agg ↑Zz.e),4,56):=ah
structure PQ(m:M)(b0:Nat)(w0:ak)(v:au)(L:List M)(i:Nat)(w:ak):Prop where
 own:Ow 47 4 ec w0.heap.size w v L
 ev:Ev w0 w
 lies:∀x∈L,Lx b0 [] w0 x
 le:i<=L.length
 size:i+((L.drop i).map λx=>x.t.size).sum=m.t.size
 all:∀p:T->Bool,(((L.take i).all λx=>p x.t)&&((L.drop i).all λx=>x.t.every p))=m.t.every p
theorem PQ.init{m:M}{b0:Nat}{w:ak}{v:au}{w1:ak}(hL:Lx b0 [] w m)(hE:Ev w w1)(ho:Ow 47 4 ec w.heap.size w1 v [m]):PQ m b0 w v [m] 0 w1:=
 ⟨ho,hE,λx hx=>by simp at hx;subst hx;exact hL,aj,aj,λp=>by simp⟩
theorem azS(h:U:=by have h1:=jS ((L.drop i).map M.t);rw[awh,awQ,awy]at h1;have h2:=h.size;have h3:=h.le;have:(T.size ∘ M.t)=(λx:M=>x.t.size):=rfl;rw[this]at h1;omega):U:=h
theorem PQ.short{m:M}{b0:Nat}{w0 w:ak}{v:au}{L:List M}{i:Nat}(h:PQ m b0 w0 v L i w):L.length<=m.t.size:=by exact azS
theorem PQ.next{m:M}{b0:Nat}{w0 w w':ak}{v v':au}{L:List M}{i:Nat}{x:M}(h:PQ m b0 w0 v L i w)(hx:L[i]?=some x)(ho:Ow 47 4 ec w0.heap.size w' v' (L++x.kids))(hE:Ev w0 w'):PQ m b0 w0 v' (L++x.kids) (i+1) w':=by
 obtain⟨hi,hxe⟩:=awi.1 hx;have hd:L.drop i=x::L.drop (i+1):=by rw[axc hi,hxe]
 have hd2:(L++x.kids).drop (i+1)=L.drop (i+1)++x.kids:=by rw[List.drop_append_of_le_length hi]
 have ZK:(L++x.kids).take (i+1)=L.take i++[x]:=by rw[List.take_append_of_le_length hi,aws hi,hxe]
 refine⟨ho,hE,λy hy=>?_,by rw[awl];omega,?_,λp=>?_⟩;rcases awD.1 hy with h1|h1;exact h.lies y h1;exact(h.lies x (awm hx)).kid y h1;have h1:=h.size;rw[hd]at h1;rw[hd2];have h2:=T.size_eq x.t;rw[M.aZ,awy]at h2;have:(T.size ∘ M.t)=(λx:M=>x.t.size):=rfl;rw[this]at h2;simp only[awt,axt,awo,aw8]at h1|-;omega;have h1:=h.all p;rw[hd]at h1;rw[hd2,ZK,<-h1];simp only[axG,axW,List.all_nil,axP];rw[T.gz p x.t,M.aZ,axs];have:(T.every p ∘ M.t)=(λx:M=>x.t.every p):=rfl;rw[this]
 cases (L.take i).all (λx=>p x.t)<;>cases p x.t<;>cases x.kids.all (λx=>x.t.every p)<;>cases (L.drop (i+1)).all (λx=>x.t.every p)<;>rfl
theorem aAB(h:U:=by
 go_roundw
 case rel=>exact⟨A2,nn,cap2,i+1,_,rfl,by go_num,FQ.out,zq S2⟩
 case measure=>simp[intOf];omega):U:=h
theorem aay(m:M)(b0:Nat)(w:ak)(h:Lx b0 [] w m)(hsz:m.t.size<=16000):
  Calls ax 172 #[Az m,aim] w λe w'=>∃(A:Option Addr) (n cap:Nat) (L:List M),e=.returned (.tuple #[.slice A n cap,.bool true])/\Es w' A n cap L/\
   (∀x∈L,Lx b0 [] w x)/\(∀p:T->Bool,(L.all λx=>p x.t)=m.t.every p)/\n<=16000/\Ev w w':=by
 have aW:=(Ev.alloc w (.cells #[↑m.kind,↑m.s,↑m.n,m.kv] 47)).trans (Ev.alloc _ (.cells #[↑m.kind,↑m.s,↑m.n,m.kv] 47));have hP:=PQ.init (v:=.slice (some ⟨w.heap.size+1,0,none⟩) 1 1) h aW (by
  have:=Ow.made (et:=47) (base:=w.heap.size) xU (w.alloc (.cells #[↑m.kind,↑m.s,↑m.n,m.kv] 47)) [m] #[↑m.kind,↑m.s,↑m.n,m.kv] rfl aj aj;simpa using this)
 have HP:=zq hP;have HK:=zq (λx w1=>adk x w1);clear hP aW;unfold Az;unfold M.kv at*;go_enter func172,ntmps172;go_wp2
 go_loopw [6,7] (λav iv wr=>∃(A:Option Addr) (n cap i:Nat) (L:List M),av=.slice A n cap/\iv=↑i/\n=L.length/\Hid (PQ m b0 w (.slice A n cap) L i wr)) (λ_ iv _=>m.t.size - (intOf iv).toNat)
 case atStart=>exact⟨_,1,1,0,[m],rfl,rfl,rfl,HP⟩
 case round=>
  obtain⟨A,n,cap,i,L,rfl,rfl,hn,HS⟩:=hrel;have hns:=HS.out.short;rw[<-hn]at hns;have jg:=zq hn;clear hn;obtain⟨_,cap',ZJ,qm,hA⟩:=HS.out.own.form xU;injection ZJ with h1 h2 h3
  subst h1 h3;clear h2;rw[<-jg.out]at qm;have zA:=qm.le;have hcm:=qm.max;by_cases hi:i<n
  ·obtain⟨x,hx⟩:=qm.at hi;obtain⟨b,off,rfl,hb,c0,c1,c2,c3⟩:=Es.cell qm hx;have HX:=zq hx;have UI:=HS.out.lies x (awm hx);have hEs:=UI.es;have Ih:x.kids.length+n<=m.t.size:=by
    have h4:=HS.out.size;have hd:L.drop i=x::L.drop (i+1):=by obtain⟨hi',e⟩:=awi.1 hx;rw[axc hi',e]
    rw[hd]at h4;have h5:=T.size_eq x.t;rw[M.aZ,awy]at h5;have h6:=jS (x.kids.map M.t);rw[awh,awy]at h6;have h7:=jS ((L.drop (i+1)).map M.t);rw[awh,awy,awQ,<-jg.out]at h7;have:(T.size ∘ M.t)=(λx:M=>x.t.size):=rfl;rw[this]at h5 h6 h7;simp only[awo,aw8]at h4;omega
   have HEs:=zq hEs;have HKx:=HK.out x;unfold Az M.kv at HKx;unfold M.kv at c3;have HKx:=zq HKx;obtain⟨kn,hkn⟩:∃kn,kn=x.kids.length:=⟨_,rfl⟩
   rw[<-hkn]at HKx HEs c3 Ih;have mF:=zq hkn;have i1:(0:Int)<=(i:Int):=ae;have i2:(i:Int)<(n:Int):=ae;have i3:¬((16384:Int) - (n:Int)<(kn:Int)):=ae;have amn:=zA;clear hx hEs hkn UI hA qm amn hb
   go_wp2_with (first
    | ((with_reducible refine(HKx.out _).mono ?_);rintro e w1 ⟨rfl,aK⟩)
    | ((show wpList _ _ _ (⟨some 31,_,_,_,_,_⟩::_) _ _);refine aO (o:=⟨some 31,_,_,_,_,_⟩) rfl 28 (.tmp 29) (.tmp 30) rfl xU underlying28 Tryz.zF rfl rfl (HS.out.own.ev aK) x.A kn x.cap x.kids rfl (HEs.out.ev (HS.out.ev.trans aK)) (by rw[<-mF.out,<-jg.out];omega) (by rw[<-mF.out,<-jg.out];omega) (HS.out.ev.trans aK).size ?_;intro v2 w2 gV;have E2:=((But.aV (HS.out.ev.trans aK)).then gV.2.1).ev (λk hk=>(HS.out.own.lt (aG.1 hk)).1);have S2:=HS.out.next HX.out gV.1 E2;obtain⟨A2,cap2,rfl,_,_⟩:=gV.1.form xU;generalize CU:(L++x.kids).length=nn at S2|-;have FQ:=zq CU.symm;clear CU))
   exact aAB
  have hin:i=L.length:=by have:=HS.out.le;have:=jg.out;omega
  have i2:¬((i:Int)<(n:Int)):=ae;have HIN:=zq hin;clear hin;go_wp2
  go_ret2
  refine⟨_,_,_,rfl,L,qm,HS.out.lies,λp=>?_,ae,HS.out.ev⟩;have:=HS.out.all p;rw[HIN.out,aw0,List.drop_length]at this;simpa using this
theorem JM(m:M)(b0:Nat)(w:ak)(h:Lx b0 [] w m)(hsz:m.t.size<=16000)(hf:m.t.every (λt=>decide (t.s.length<=1000000))=true):
  Calls ax 142 #[Az m] w λe w'=>e=.returned (.bool (dQ m.t))/\Ev w w':=by
 have HP:=λw1 (hE:Ev w w1)=>aay m b0 w1 (h.ev hE) hsz;unfold Az at HP|-;have HP:=zq HP;have HF:=zq hf;have HR:=zq (um m.t);have aW:=Ev.alloc w (.cells #[↑m.kind,↑m.s,↑m.n,m.kv] 47);have HE:=zq aW;obtain⟨R,hR⟩:∃R,R=dQ m.t:=⟨_,rfl⟩
 rw[<-hR]at HR|-;unfold M.kv at*;clear hf hR aW;go_enter func142,ntmps142
 go_wp2_with (first
  | ((with_reducible refine(HP.out _ HE.out).mono ?_);rintro e w1 ⟨A,n,cap,L,rfl,hL,hLs,hall,hn,aK⟩;have hfair:∀z∈L,Fair z:=(by
    intro z hz;have h1:=hall (λt=>decide (t.s.length<=1000000));rw[HF.out]at h1;have h2:=awF.1 h1 z hz;simp only[decide_eq_true_iff,M.uJ]at h2;refine⟨h2,?_⟩;have h3:=hall (λt=>decide (t.kids.length<=1000000));rw[GV 1000000 m.t ae]at h3;have h4:=awF.1 h3 z hz;simp only[decide_eq_true_iff,M.aZ,awh]at h4;exact h4);have HC:=zq (Io w1 hL hfair);have HX:Hid (R=!L.any pF):=zq (by
    rw[HR.out,<-hall];rw[List.all_eq_not_any_not];simp;rfl);generalize L.any pF=y at*)
  | ((with_reducible refine HC.out.mono ?_);rintro e w2 ⟨rfl,bQ⟩))
 go_ret;exact⟨by rw[HX.out];cases y<;>rfl,(HE.out.trans aK).trans bQ⟩
theorem PU{α:Type}:∀{l:List α},l.length=2->∃a b,l=[a,b]
 | [],h=>by simp at h
 | [_],h=>by simp at h
 | [a,b],_=>⟨a,b,rfl⟩
 | _::_::_::_,h=>by simp at h
theorem aaz{α:Type}:∀{l:List α},l.length=3->∃a b c,l=[a,b,c]
 | [],h=>by simp at h
 | [_],h=>by simp at h
 | [_,_],h=>by simp at h
 | [a,b,c],_=>⟨a,b,c,rfl⟩
 | _::_::_::_::_,h=>by simp at h
def ic(n:Int):List au:=[↑n]
abbrev Ks:=Sl 1 ic
theorem encI:Enc 1 ic:=⟨ae,λ_=>rfl,λx u hu=>by
 simp[ic]at hu;rw[hu];rfl⟩
theorem Ks.cell{w:ak}{A:Option Addr}{n cap:Nat}{l:List Int}(h:Ks w A n cap l){i:Nat}{x:Int}(hx:l[i]?=some x):∃b off,A=some ⟨b,off,none⟩/\b<w.heap.size/\w.cell? ⟨b,off+i,none⟩=some ↑x:=by have hi:=(awi.1 hx).1;have hl:=h.len;obtain⟨b,off,e,hlt,hc⟩:=h.rd ae;have:=hc i x hx 0 _ rfl;rw[axY,awM]at this;exact⟨b,off,e,hlt,this⟩
theorem nJ{A:Option Addr}{n cap:Nat}{l:List Int}(k:Int)(w:ak)(h:Ks w A n cap l):
  Calls ax 198 #[.slice A n cap,↑k] w λe w'=>e=.returned (.bool (tH l k))/\w=w':=by
 have hn:=h.le;have hm:=h.max;have HL:=zq h.len;have HC:=zq (λi x (hx:l[i]?=some x)=>h.cell hx);have HA:=zq (λi (hi:i<n)=>h.at hi);go_enter func198,ntmps198;go_wp2
 go_loop [9] (λiv=>∃j:Nat,iv=↑j/\j<=n/\Hid ((l.take j).all (·==k)=true)) (λiv=>n - (intOf iv).toNat)
 case atStart=>exact⟨0,rfl,aww _,zq rfl⟩
 case round=>
  obtain⟨j,rfl,hj,HJ⟩:=hrel;by_cases hlt:j<n
  ·obtain⟨x,hx⟩:=HA.out j hlt;obtain⟨b,off,rfl,hb,c0⟩:=HC.out j x hx;have HX:=zq hx;have i1:(0:Int)<=(j:Int):=ae;have i2:(j:Int)<(n:Int):=ae;clear hx;by_cases hk:x=k
   ·subst hk;go_wp2
    go_round
    case rel=>
     refine⟨j+1,by go_num,ae,zq ?_⟩;obtain⟨hj2,e⟩:=awi.1 HX.out;rw[aws hj2,axG,HJ.out,e];simp
    case measure=>simp[intOf];omega
   have hk':(x==k)=false:=awg.2 hk;go_wp2;go_ret;refine⟨?_,rfl⟩;have:tH l k=false:=by unfold tH;rw[List.all_eq_false];exact⟨x,awm HX.out,by simp[hk]⟩
   rw[this];rfl
  have i2:¬((j:Int)<(n:Int)):=ae;go_wp2;go_ret;refine⟨?_,rfl⟩;have:=HJ.out;rw[awC (by rw[HL.out];omega)]at this;unfold tH;rw[this];rfl
theorem Nh{A:Option Addr}{n cap:Nat}{l:List Int}(w:ak)(h:Ks w A n cap l)(hl:l.length=2):
  Calls ax 185 #[.string (dh Be),.slice A n cap] w λe w'=>e=.returned (.tuple #[.int .i64 (bP Be l).1,.int .i64 (bP Be l).2])/\Ev w w':=by
 unfold dh Be;have hcm:=h.max;have hle:=h.le;have HA:=λw1 (hE:Ev w w1)=>nJ 1 w1 (h.ev hE);rw[show bP [97,100,100] l=if tH l 1 then (1,0) else (0,22) from rfl];generalize tH l 1=y at*;have HA:=zq HA;clear h hl
 cases y<;>(
  go_enter func185,ntmps185
  go_wp2_with (first|((with_reducible refine(HA.out _ aJ).mono ?_);rintro e w1 ⟨rfl,rfl⟩))
  go_ret2
  exact⟨rfl,Ev.refl _⟩)
theorem Nj{A:Option Addr}{n cap:Nat}{l:List Int}(w:ak)(h:Ks w A n cap l)(hl:l.length=2):
  Calls ax 185 #[.string (dh Bf),.slice A n cap] w λe w'=>e=.returned (.tuple #[.int .i64 (bP Bf l).1,.int .i64 (bP Bf l).2])/\Ev w w':=by
 unfold dh Bf;have hcm:=h.max;have hle:=h.le;have HA:=λw1 (hE:Ev w w1)=>nJ 1 w1 (h.ev hE);rw[show bP [115,117,98] l=if tH l 1 then (1,0) else (0,22) from rfl];generalize tH l 1=y at*;have HA:=zq HA;clear h hl
 cases y<;>(
  go_enter func185,ntmps185
  go_wp2_with (first|((with_reducible refine(HA.out _ aJ).mono ?_);rintro e w1 ⟨rfl,rfl⟩))
  go_ret2
  exact⟨rfl,Ev.refl _⟩)
theorem Nk{A:Option Addr}{n cap:Nat}{l:List Int}(w:ak)(h:Ks w A n cap l)(hl:l.length=2):
  Calls ax 185 #[.string (dh Bg),.slice A n cap] w λe w'=>e=.returned (.tuple #[.int .i64 (bP Bg l).1,.int .i64 (bP Bg l).2])/\Ev w w':=by
 unfold dh Bg;have hcm:=h.max;have hle:=h.le;have HA:=λw1 (hE:Ev w w1)=>nJ 1 w1 (h.ev hE);rw[show bP [109,117,108] l=if tH l 1 then (1,0) else (0,22) from rfl];generalize tH l 1=y at*;have HA:=zq HA;clear h hl
 cases y<;>(
  go_enter func185,ntmps185
  go_wp2_with (first|((with_reducible refine(HA.out _ aJ).mono ?_);rintro e w1 ⟨rfl,rfl⟩))
  go_ret2
  exact⟨rfl,Ev.refl _⟩)
theorem aAE(h:U:=by
 go_enter func185,ntmps185;go_wp2
 go_quiet (fail)
 go_wp2
 go_ret2
 exact⟨rfl,Ev.drewN _ _⟩):U:=h
theorem aAz(h:U:=by clear hx;exact aAE):U:=h
theorem azP(h:U:=by have g:(x0==x1)=true:=awx.2 hx;rw[if_pos g];exact aAz):U:=h
theorem aAa(h:U:=by simp only[awv,if_false];exact aAE):U:=h
theorem azK(h:U:=by have g:(x0==x1)=false:=awg.2 hx;rw[g];exact aAa):U:=h
theorem PV{A:Option Addr}{n cap:Nat}{l:List Int}(w:ak)(h:Ks w A n cap l)(hl:l.length=2):
  Calls ax 185 #[.string (dh UF),.slice A n cap] w λe w'=>e=.returned (.tuple #[.int .i64 (bP UF l).1,.int .i64 (bP UF l).2])/\Ev w w':=by
 unfold dh UF;have hn:n=2:=by rw[<-h.len,hl]
 subst hn;obtain⟨x0,x1,rfl⟩:∃x0 x1,l=[x0,x1]:=by exact PU hl
 obtain⟨b0,aip,e0,hb0,c0⟩:=h.cell (i:=0) (x:=x0) rfl;obtain⟨b1,aiq,e1,hb1,c1⟩:=h.cell (i:=1) (x:=x1) rfl;rw[e0]at e1;injection e1 with e1
 injection e1 with e1a e1b _
 subst e1a e1b e0;simp only[awM]at c0;have hcap:=h.le;clear h hl hb0 hb1;rw[show bP [101,113] [x0,x1]=if x0==x1 then (1,0) else (0,22) from rfl];by_cases hx:x0=x1;exact azP;exact azK
theorem PW{A:Option Addr}{n cap:Nat}{l:List Int}(w:ak)(h:Ks w A n cap l)(hl:l.length=2):
  Calls ax 185 #[.string (dh UG),.slice A n cap] w λe w'=>e=.returned (.tuple #[.int .i64 (bP UG l).1,.int .i64 (bP UG l).2])/\Ev w w':=by
 unfold dh UG;have hn:n=2:=by rw[<-h.len,hl]
 subst hn;obtain⟨x0,x1,rfl⟩:∃x0 x1,l=[x0,x1]:=by exact PU hl
 obtain⟨b0,aip,e0,hb0,c0⟩:=h.cell (i:=0) (x:=x0) rfl;obtain⟨b1,aiq,e1,hb1,c1⟩:=h.cell (i:=1) (x:=x1) rfl;rw[e0]at e1;injection e1 with e1
 injection e1 with e1a e1b _
 subst e1a e1b e0;simp only[awM]at c0;have hcap:=h.le;clear h hl hb0 hb1;rw[show bP [108,116] [x0,x1]=if x0==x1 then (1,0) else (0,22) from rfl];by_cases hx:x0=x1;exact azP;exact azK
theorem Nl{A:Option Addr}{n cap:Nat}{l:List Int}(w:ak)(h:Ks w A n cap l)(hl:l.length=2):
  Calls ax 185 #[.string (dh Bh),.slice A n cap] w λe w'=>e=.returned (.tuple #[.int .i64 (bP Bh l).1,.int .i64 (bP Bh l).2])/\Ev w w':=by
 unfold dh Bh;have hcm:=h.max;have hle:=h.le;have HA:=λw1 (hE:Ev w w1)=>nJ 1 w1 (h.ev hE);rw[show bP [97,110,100] l=if tH l 1 then (1,0) else (0,22) from rfl];generalize tH l 1=y at*;have HA:=zq HA;clear h hl
 cases y<;>(
  go_enter func185,ntmps185
  go_wp2_with (first|((with_reducible refine(HA.out _ aJ).mono ?_);rintro e w1 ⟨rfl,rfl⟩))
  go_ret2
  exact⟨rfl,Ev.refl _⟩)
theorem PY{A:Option Addr}{n cap:Nat}{l:List Int}(w:ak)(h:Ks w A n cap l)(hl:l.length=2):
  Calls ax 185 #[.string (dh UH),.slice A n cap] w λe w'=>e=.returned (.tuple #[.int .i64 (bP UH l).1,.int .i64 (bP UH l).2])/\Ev w w':=by
 unfold dh UH;have hcm:=h.max;have hle:=h.le;have HA:=λw1 (hE:Ev w w1)=>nJ 1 w1 (h.ev hE);rw[show bP [111,114] l=if tH l 1 then (1,0) else (0,22) from rfl];generalize tH l 1=y at*;have HA:=zq HA;clear h hl
 cases y<;>(
  go_enter func185,ntmps185
  go_wp2_with (first|((with_reducible refine(HA.out _ aJ).mono ?_);rintro e w1 ⟨rfl,rfl⟩))
  go_ret2
  exact⟨rfl,Ev.refl _⟩)
theorem Np{A:Option Addr}{n cap:Nat}{l:List Int}(w:ak)(h:Ks w A n cap l)(hl:l.length=2):
  Calls ax 185 #[.string (dh Bi),.slice A n cap] w λe w'=>e=.returned (.tuple #[.int .i64 (bP Bi l).1,.int .i64 (bP Bi l).2])/\Ev w w':=by
 unfold dh Bi;have hcm:=h.max;have hle:=h.le;have HA:=λw1 (hE:Ev w w1)=>nJ 2 w1 (h.ev hE);rw[show bP [99,97,116] l=if tH l 2 then (2,0) else (0,22) from rfl];generalize tH l 2=y at*;have HA:=zq HA;clear h hl
 cases y<;>(
  go_enter func185,ntmps185
  go_wp2_with (first|((with_reducible refine(HA.out _ aJ).mono ?_);rintro e w1 ⟨rfl,rfl⟩))
  go_ret2
  exact⟨rfl,Ev.refl _⟩)
theorem Nq{A:Option Addr}{n cap:Nat}{l:List Int}(w:ak)(h:Ks w A n cap l)(hl:l.length=1):
  Calls ax 185 #[.string (dh Bj),.slice A n cap] w λe w'=>e=.returned (.tuple #[.int .i64 (bP Bj l).1,.int .i64 (bP Bj l).2])/\Ev w w':=by
 unfold dh Bj;have hcm:=h.max;have hle:=h.le;have HA:=λw1 (hE:Ev w w1)=>nJ 1 w1 (h.ev hE);rw[show bP [110,101,103] l=if tH l 1 then (1,0) else (0,22) from rfl];generalize tH l 1=y at*;have HA:=zq HA;clear h hl
 cases y<;>(
  go_enter func185,ntmps185
  go_wp2_with (first|((with_reducible refine(HA.out _ aJ).mono ?_);rintro e w1 ⟨rfl,rfl⟩))
  go_ret2
  exact⟨rfl,Ev.refl _⟩)
theorem Nr{A:Option Addr}{n cap:Nat}{l:List Int}(w:ak)(h:Ks w A n cap l)(hl:l.length=1):
  Calls ax 185 #[.string (dh Bl),.slice A n cap] w λe w'=>e=.returned (.tuple #[.int .i64 (bP Bl l).1,.int .i64 (bP Bl l).2])/\Ev w w':=by
 unfold dh Bl;have hcm:=h.max;have hle:=h.le;have HA:=λw1 (hE:Ev w w1)=>nJ 1 w1 (h.ev hE);rw[show bP [110,111,116] l=if tH l 1 then (1,0) else (0,22) from rfl];generalize tH l 1=y at*;have HA:=zq HA;clear h hl
 cases y<;>(
  go_enter func185,ntmps185
  go_wp2_with (first|((with_reducible refine(HA.out _ aJ).mono ?_);rintro e w1 ⟨rfl,rfl⟩))
  go_ret2
  exact⟨rfl,Ev.refl _⟩)
theorem Ns{A:Option Addr}{n cap:Nat}{l:List Int}(w:ak)(h:Ks w A n cap l)(hl:l.length=1):
  Calls ax 185 #[.string (dh Bo),.slice A n cap] w λe w'=>e=.returned (.tuple #[.int .i64 (bP Bo l).1,.int .i64 (bP Bo l).2])/\Ev w w':=by
 unfold dh Bo;have hcm:=h.max;have hle:=h.le;have HA:=λw1 (hE:Ev w w1)=>nJ 2 w1 (h.ev hE);rw[show bP [108,101,110] l=if tH l 2 then (1,0) else (0,22) from rfl];generalize tH l 2=y at*;have HA:=zq HA;clear h hl
 cases y<;>(
  go_enter func185,ntmps185
  go_wp2_with (first|((with_reducible refine(HA.out _ aJ).mono ?_);rintro e w1 ⟨rfl,rfl⟩))
  go_ret2
  exact⟨rfl,Ev.refl _⟩)
theorem PZ{A:Option Addr}{n cap:Nat}{l:List Int}(w:ak)(h:Ks w A n cap l)(hl:l.length=3):
  Calls ax 185 #[.string (dh Nc),.slice A n cap] w λe w'=>e=.returned (.tuple #[.int .i64 (bP Nc l).1,.int .i64 (bP Nc l).2])/\Ev w w':=by
 unfold dh Nc;have hn:n=3:=by rw[<-h.len,hl]
 subst hn;obtain⟨x0,x1,x2,rfl⟩:∃x0 x1 x2,l=[x0,x1,x2]:=by exact aaz hl
 obtain⟨b0,aip,e0,hb0,c0⟩:=h.cell (i:=0) (x:=x0) rfl;obtain⟨b1,aiq,e1,hb1,c1⟩:=h.cell (i:=1) (x:=x1) rfl;obtain⟨b2,yH,e2,hb2,c2⟩:=h.cell (i:=2) (x:=x2) rfl;rw[e0]at e1;injection e1 with e1
 injection e1 with e1a e1b _
 subst e1a e1b;rw[e0]at e2;injection e2 with e2
 injection e2 with e2a e2b _
 subst e2a e2b e0;simp only[awM]at c0;have hcap:=h.le;clear h hl hb0 hb1 hb2;rw[show bP [105,102] [x0,x1,x2]=if x0==1&&x1==x2 then (x1,0) else (0,22) from rfl];by_cases h0:x0=1;subst h0;by_cases hx:x1=x2;have g:(x1==x2)=true:=awx.2 hx;rw[show ((1:Int)==1&&x1==x2)=true by rw[g];rfl,if_pos rfl];exact aAz;have g:(x1==x2)=false:=awg.2 hx;rw[show ((1:Int)==1&&x1==x2)=false by rw[g];rfl];exact aAa;have g:(x0==1)=false:=awg.2 h0;rw[g];simp only[aw6,awv,if_false];exact aAE
theorem Vx{A:Option Addr}{n cap:Nat}{l:List Int}(s:By)(w:ak)(h:Ks w A n cap l)(hl:l.length=bI s)(h0:bI s≠0):
  Calls ax 185 #[.string (dh s),.slice A n cap] w λe w'=>e=.returned (.tuple #[.int .i64 (bP s l).1,.int .i64 (bP s l).2])/\Ev w w':=by
 have hs:(PH s||PI s||s==Nc)=true:=by
  cases ht:PH s
  cases ho:PI s
  cases hi:s==Nc
  exfalso;apply h0;unfold bI;rw[ht,ho,hi];rfl;rfl;rfl;rfl
 unfold PH PI at hs;simp only[awP,awx]at hs;rcases hs with ((((((((h1|h1)|h1)|h1)|h1)|h1)|h1)|h1)|((h1|h1)|h1))|h1<;>subst h1;exact Nh w h hl;exact Nj w h hl;exact Nk w h hl;exact PV w h hl;exact PW w h hl;exact Nl w h hl;exact PY w h hl;exact Np w h hl;exact Nq w h hl;exact Nr w h hl;exact Ns w h hl;exact PZ w h hl
theorem Tryz.adm:(Tryz.prog.info? 3).map (λi=>(i.zero,i.size,i.bytes))=some (some (.int .i64 0),1,8):=ah
theorem JO{m:M}(h:dQ m.t=true):ig m.kind m.s m.n m.kids.length=false/\∀x∈m.kids,dQ x.t=true:=by rw[um,T.gz]at h;simp only[awk,axC]at h;refine⟨by rw[<-CQ];exact h.1,λx hx=>?_⟩;rw[um];exact awF.1 h.2 x.t (by rw[M.aZ];exact awN.2 ⟨x,hx,rfl⟩)
theorem zG{k:Int}{s:By}{n:Int}{n1:Nat}(h:ig k s n n1=false):k=1∨k=2∨k=3∨(k=4/\n1=bI s/\bI s≠0):=by unfold ig at h;by_cases h1:k=1;exact .inl h1;by_cases h2:k=2;exact .inr (.inl h2);by_cases h3:k=3;exact .inr (.inr (.inl h3));by_cases h4:k=4;subst h4;simp at h;exact .inr (.inr (.inr ⟨rfl,h.2,h.1.1⟩));simp[h1,h2,h3,h4]at h
theorem xKind_eq(cols:List C)(m:M):xKind cols m.t=if m.kind==1 then (match fM cols (dh m.s) with|none=>(0,20)|some i=>((cols.getD i (⟨#[]⟩,0)).2,0))
  else if m.kind==2 then (1,0) else if m.kind==3 then (2,0) else xKindsGo m.s [] (m.kids.map λx=>xKind cols x.t):=by
 rw[M.rV,xKind,CP,awy];rfl
theorem JP{l:List C}{s:ByteArray}{i:Nat}(h:fM l s=some i):i<l.length:=by unfold fM at h;exact(axy.1 h).1
structure KSt(w0:ak)(v:au)(ks:List Int)(w:ak):Prop where
 own:Ow 3 1 ic w0.heap.size w v ks
 ev:Ev w0 w
theorem adn(N:Nat):∀(m:M) (b0:Nat) (w:ak) (A:Option Addr) (n cap:Nat) (cols:List C),m.dep<=N->Lx b0 [] w m->Cs w A n cap cols->dQ m.t=true->
  Calls ax 159 #[Az m,.slice A n cap] w λe w'=>e=.returned (.tuple #[.int .i64 (xKind cols m.t).1,.int .i64 (xKind cols m.t).2])/\Ev w w':=by
 induction N with
 | zero=>
  intro m b0 w A n cap cols hd;rw[M.nT]at hd;omega
 | succ N ih=>
  intro m b0 w A n cap cols hd hL hC hr;obtain⟨hf,ZM⟩:=JO hr;have dL:=xKind_eq cols m;have aW:=Ev.alloc w (.cells #[↑m.kind,↑m.s,↑m.n,m.kv] 47);have hB:=Bx.new 47 #[↑m.kind,↑m.s,↑m.n,m.kv] w;obtain⟨w0,hw0⟩:∃w0,w.alloc (.cells #[↑m.kind,↑m.s,↑m.n,m.kv] 47)=w0:=⟨_,rfl⟩
  rw[hw0]at aW hB;have HE:=zq aW;have HB:=zq hB;have mP:=zq ih;have HL:=zq hL;have HC:=zq hC;have HKR:=zq ZM;have HD:=zq hd;have hes:=hL.es;obtain⟨kn,hkn⟩:∃kn,kn=m.kids.length:=⟨_,rfl⟩
  unfold Az;unfold M.kv at*;rw[<-hkn]at hf hw0 HB hes|-;have mF:=zq hkn;obtain⟨⟨c0,c1,c2,c3⟩,_⟩:=HB.out.four;clear ih hL hC hr ZM hd hkn aW hB;rcases zG hf with hk|hk|hk|⟨hk,rH,Jq⟩
  ·rw[hk]at dL hw0 c0|-;simp only[awZ,if_true]at dL;have HF:=λw1 (hE:Ev w w1)=>pz (dh m.s) w1 (HC.out.ev hE);unfold dh at HF dL
   cases hfc:fM cols ⟨m.s.toArray⟩ with
   | none=>
    rw[hfc]at dL HF;have HK:=zq dL;have HF:=zq HF;clear dL hfc;go_enter func159,ntmps159
    go_wp2_with (first|((with_reducible refine(HF.out _ HE.out).mono ?_);rintro e w1 ⟨rfl,aK⟩))
    go_ret2
    exact⟨by rw[HK.out];rfl,HE.out.trans aK⟩
   | some i=>
    rw[hfc]at dL HF;have Pg:=JP hfc;rw[HC.out.len]at Pg;obtain⟨b,off,x,rfl,hb,hx,d0,d1⟩:=HC.out.Z5 Pg;have hx2:cols.getD i (⟨#[]⟩,0)=x:=by simp[List.getD,hx]
    simp only[hx2]at dL;have HK:=zq dL;have HF:=zq HF;have HD1:=zq (λw1 (hE:Ev w w1)=>(hE.cell (p:=⟨b,off+i*2+1,none⟩) hb).trans d1);have i1:(0:Int)<=(i:Int):=ae;have i2:(i:Int)<(n:Int):=ae;clear dL hfc hx hx2 d0 d1;go_enter func159,ntmps159
    go_wp2_with (first|((with_reducible refine(HF.out _ HE.out).mono ?_);rintro e w1 ⟨rfl,aK⟩;simp only[foundAt,Option.isSome_some];have d1:=HD1.out _ (HE.out.trans aK)))
    go_ret2
    exact⟨by rw[HK.out];rfl,HE.out.trans aK⟩
  ·rw[hk]at dL hw0 c0|-;have HK:Hid (xKind cols m.t=(1,0)):=zq (by rw[dL];rfl);clear dL;go_enter func159,ntmps159;go_wp2
   go_ret2
   exact⟨by rw[HK.out];rfl,HE.out⟩
  ·rw[hk]at dL hw0 c0|-;have HK:Hid (xKind cols m.t=(2,0)):=zq (by rw[dL];rfl);clear dL;go_enter func159,ntmps159;go_wp2
   go_ret2
   exact⟨by rw[HK.out];rfl,HE.out⟩
  rw[hk]at dL hw0 c0|-;obtain⟨R,hR⟩:∃R,R=xKind cols m.t:=⟨_,rfl⟩
  rw[<-hR]at dL|-;have HK:Hid (R=xKindsGo m.s [] ((m.kids.drop 0).map λx=>xKind cols x.t)):=zq (by rw[dL];rfl);generalize m.A=mA at*;generalize m.cap=kJ at*;have Sm:=zq hes;have HN1:=zq rH;have HN2:=zq Jq;have tJ:=hes.le;have Yk:=hes.max;have hkb:kn<=3:=by rw[rH];unfold bI;split<;>(try split)<;>(try split)<;>omega
  have uG:=HB.out;rw[hk]at uG;have uG:=zq uG;clear dL hR rH Jq hes hk hf;go_enter func159,ntmps159;go_wp2
  go_loopw [8,38] (λkv iv wr=>∃(A1:Option Addr) (n1 cap1 j:Nat) (ks:List Int),kv=.slice A1 n1 cap1/\iv=↑j/\j<=kn/\Hid (n1=j/\ks.length=j)/\Hid (KSt w0 (.slice A1 n1 cap1) ks wr)/\Hid (R=xKindsGo m.s ks ((m.kids.drop j).map λx=>xKind cols x.t))) (λ_ iv _=>kn - (intOf iv).toNat)
  case atStart=>exact⟨none,0,0,0,[],rfl,rfl,aww _,zq ⟨rfl,rfl⟩,zq ⟨Ow.nil_ _,Ev.refl _⟩,HK⟩
  case round=>
   obtain⟨A1,n1,cap1,j,ks,rfl,rfl,hj,HN,HS,HR⟩:=hrel;obtain⟨⟨c0,c1,c2,c3⟩,_⟩:=(uG.out.ev HS.out.ev).four;have ou:=zq (HE.out.trans HS.out.ev);by_cases hlt:j<kn
   ·obtain⟨x,hx⟩:=Sm.out.at hlt;obtain⟨b,off,rfl,hb,x0,x1,x2,x3⟩:=Es.cell (Sm.out.ev ou.out) hx;have iP:=awm hx;have hdj:m.kids.drop j=x::m.kids.drop (j+1):=by obtain⟨hj',e⟩:=awi.1 hx;rw[axc hj',e]
    have mY:=HR.out;rw[hdj,awo]at mY;unfold xKindsGo at mY;have HI:=λw1 (hE:Ev w w1)=>mP.out x b0 w1 A n cap cols (by have:=M.mg iP;have:=HD.out;omega) ((HL.out.kid x iP).ev hE) (HC.out.ev hE) (HKR.out x iP);generalize xKind cols x.t=rx at*;obtain⟨rk,rw_⟩:=rx;simp only at HI mY;unfold Az M.kv at HI;unfold M.kv at x3;have HI:=zq HI;have i1:(0:Int)<=(j:Int):=ae;have i2:(j:Int)<(kn:Int):=ae;have wF:=HN;obtain⟨rH,Ih⟩:=HN.out;subst rH;have ES:=zq Ih;clear hx iP hdj Ih HN;by_cases hw:rw_=0
    ·subst hw;simp only[awZ,if_true]at mY;have uX:=zq mY;clear mY
     go_wp2_with (first
      | ((with_reducible refine(HI.out _ (ou.out.trans (Ev.alloc wr _))).mono ?_);rintro e w1 ⟨rfl,aK⟩;have E1:=zq ((Ev.alloc wr _).trans aK))
      | ((show wpList _ _ _ (⟨some 54,_,_,_,_,_⟩::_) _ _);refine aO (o:=⟨some 54,_,_,_,_,_⟩) rfl 88 (.tmp 51) (.tmp 53) rfl encI underlying88 Tryz.adm rfl rfl (HS.out.own.ev (E1.out.trans (Ev.alloc w1 _))) ↑w1.heap.size 1 1 [rk] rfl (Sl.one encI w1 rk _ rfl) (by rw[ES.out];simp;omega) (by rw[ES.out];simp;omega) ((HS.out.ev.trans E1.out).trans (Ev.alloc w1 _)).size ?_;intro v2 w2 gV;have E2:Ev w0 w2:=((But.aV ((HS.out.ev.trans E1.out).trans (Ev.alloc w1 _))).then gV.2.1).ev (λk hk=>(HS.out.own.lt (aG.1 hk)).1);obtain⟨A2,cap2,rfl,_,_⟩:=gV.1.form encI;generalize CU:(ks++[rk]).length=nn at gV|-;have FQ:=zq CU.symm;clear CU))
     go_roundw
     case rel=>exact⟨A2,nn,cap2,n1+1,ks++[rk],rfl,by go_num,ae,zq ⟨by rw[FQ.out,awl,ES.out];rfl,by rw[awl,ES.out];rfl⟩,zq ⟨gV.1,E2⟩,uX⟩
     case measure=>simp[intOf];omega
    have MN:(rw_==0)=false:=awg.2 hw;have hwn:(rw_ !=0)=true:=by simp[hw]
    rw[MN]at mY;simp only[awv,if_false]at mY;have uX:=zq mY;clear mY
    go_wp2_with (first
     | ((with_reducible refine(HI.out _ (ou.out.trans (Ev.alloc wr _))).mono ?_);rintro e w1 ⟨rfl,aK⟩;have E1:=zq ((Ev.alloc wr _).trans aK)))
    go_ret2
    exact⟨by rw[uX.out];rfl,ou.out.trans E1.out⟩
   have hjk:j=kn:=ae;have i2:¬((j:Int)<(kn:Int)):=ae;have mY:=HR.out;rw[hjk,mF.out,List.drop_length]at mY;simp only[awG,xKindsGo]at mY;obtain⟨rH,Ih⟩:=HN.out;obtain⟨_,amu,hvS,hMS,_⟩:=HS.out.own.form encI;injection hvS with MX hv2 hv3
   subst MX hv3;have hl:ks.length=bI m.s:=by rw[Ih,hjk,HN1.out]
   have HAP:=λw1 (hE:Ev wr w1)=>Vx m.s w1 (hMS.ev hE) hl HN2.out;rw[<-hv2]at HAP;unfold dh at HAP;rw[<-mY]at HAP;have HAP:=zq HAP;clear mY rH Ih hv2 hMS hl hjk HN
   go_wp2_with (first|((with_reducible refine(HAP.out _ aJ).mono ?_);rintro e w1 ⟨rfl,aK⟩))
   go_ret2
   exact⟨rfl,ou.out.trans aK⟩
theorem ado(m:M)(b0:Nat)(w:ak)(A:Option Addr)(n cap:Nat)(cols:List C)(hL:Lx b0 [] w m)(hC:Cs w A n cap cols)(hsz:m.t.size<=16000)(hf:m.t.every (λt=>decide (t.s.length<=1000000))=true):
  Calls ax 119 #[Az m,.slice A n cap] w λe w'=>e=.returned (.tuple #[.int .i64 (xType cols m.t).1,.int .i64 (xType cols m.t).2])/\Ev w w':=by
 have HR:=λw1 (hE:Ev w w1)=>JM m b0 w1 (hL.ev hE) hsz hf;have HK:=λw1 (hE:Ev w w1) (hr:dQ m.t=true)=>adn m.dep m b0 w1 A n cap cols (awj _) (hL.ev hE) (hC.ev hE) hr;have aW:=Ev.alloc w (.cells #[↑m.kind,↑m.s,↑m.n,m.kv] 47);have hB:=Bx.new 47 #[↑m.kind,↑m.s,↑m.n,m.kv] w;obtain⟨w0,hw0⟩:∃w0,w.alloc (.cells #[↑m.kind,↑m.s,↑m.n,m.kv] 47)=w0:=⟨_,rfl⟩
 rw[hw0]at aW hB;have HE:=zq aW;have HB:=zq hB;obtain⟨⟨c0,c1,c2,c3⟩,_⟩:=hB.four;unfold xType;generalize xKind cols m.t=rk at*;obtain⟨k,y⟩:=rk;unfold Az at*;unfold M.kv at*;simp only at HK;clear hL hC hsz hf aW hB
 cases hr:dQ m.t with
 | false=>
  rw[hr]at HR;have HR:=zq HR;clear HK hr;simp only[awv,if_false];go_enter func119,ntmps119
  go_wp2_with (first|((with_reducible refine(HR.out _ HE.out).mono ?_);rintro e w1 ⟨rfl,aK⟩))
  go_ret2
  exact⟨rfl,HE.out.trans aK⟩
 | true=>
  rw[hr]at HR;have HR:=zq HR;have HK:=zq (λw1 hE=>HK w1 hE hr);clear hr;simp only[if_true];go_enter func119,ntmps119
  go_wp2_with (first|((with_reducible refine(HR.out _ HE.out).mono ?_);rintro e w1 ⟨rfl,aK⟩;obtain⟨⟨c0,c1,c2,c3⟩,_⟩:=(HB.out.ev aK).four)|((with_reducible refine(HK.out _ (HE.out.trans aK)).mono ?_);rintro e w2 ⟨rfl,bQ⟩))
  go_ret2
  exact⟨rfl,(HE.out.trans aK).trans bQ⟩
def cO(t:T):Bool:=decide (zD t.n)&&decide (t.s.length<=100000)
theorem GY(s:By):∀(l:List (Int×Int)) (done:List Int),(xKindsGo s done l).2=0->∀r∈l,r.2=0
 | [],_,_=>λr hr=>by cases hr
 | r::l,done,h=>by unfold xKindsGo at h;intro x hx;split at h;rename_i h0;rcases awq.1 hx with rfl|hx;simpa using h0;exact GY s l _ h x hx;rename_i h0;simp only at h;exact absurd h (by simpa using h0)
theorem aaB{s:By}(h:bI s≠0)(hi:(s==Nc)=false):(PH s||PI s)=true/\(bI s=1∨bI s=2):=by
 unfold bI at*
 cases h2:PH s
 cases h1:PI s
 rw[h2,h1,hi]at h;exact absurd rfl h;exact⟨rfl,.inl rfl⟩;exact⟨rfl,.inr rfl⟩
theorem aaC{cols:List C}{t:T}(h:(xType cols t).2=0):dQ t=true/\(xKind cols t).2=0:=by unfold xType at h;split at h;rename_i hr;exact⟨hr,h⟩;cases h
end Go.Proofs.YtpbfokkocaemlaaGreatDoor
