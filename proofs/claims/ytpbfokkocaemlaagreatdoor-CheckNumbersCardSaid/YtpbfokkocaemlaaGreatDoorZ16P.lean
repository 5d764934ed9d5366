import Derived.Test.YtpbfokkocaemlaaGreatDoorZ14P
import Derived.Test.YtpbfokkocaemlaaGreatDoorZ9P
set_option linter.unusedVariables false
set_option maxRecDepth 100000
set_option maxHeartbeats 64000000
namespace Go.Proofs.YtpbfokkocaemlaaGreatDoor
open Go.RowKit
open Go.Lib renaming hid → zq
open Go renaming World → ak
open Go renaming Value → au
open Go.Proofs.Tryz renaming prog → ax
variable {U:Prop}
open Go.Proofs.Tryz
theorem Bx.three{T:TypeId}{g:Nat}{w:ak}{v0 v1 v2:au}(h:Bx T g #[v0,v1,v2] w):(w.cell? ⟨g,0,none⟩=some v0/\w.cell? ⟨g,1,none⟩=some v1/\w.cell? ⟨g,2,none⟩=some v2)/\
  (w.frozen? ⟨g,0,none⟩=false/\w.frozen? ⟨g,1,none⟩=false/\w.frozen? ⟨g,2,none⟩=false):=
 ⟨⟨h.cell 0,h.cell 1,h.cell 2⟩,h.frozen 0,h.frozen 1,h.frozen 2⟩
def yf(g:Nat)(v0 v1 v2:au)(w:ak):ak:=((w.setCell ⟨g,0,none⟩ v0).setCell ⟨g,1,none⟩ v1).setCell ⟨g,2,none⟩ v2
theorem dI(g:Nat)(v0 v1 v2:au)(w:ak):((w.setCell ⟨g,0,none⟩ v0).setCell ⟨g,1,none⟩ v1).setCell ⟨g,2,none⟩ v2=yf g v0 v1 v2 w:=rfl
theorem ve(g:Nat)(v0 v1 v2:au)(w:ak):But [g] w (yf g v0 v1 v2 w):=
 ((But.setCell ⟨g,0,none⟩ _ aj).then (But.setCell ⟨g,1,none⟩ _ aj)).then (But.setCell ⟨g,2,none⟩ _ aj)
theorem Bx.yf{T:TypeId}{g:Nat}{w:ak}{u0 u1 u2:au}(h:Bx T g #[u0,u1,u2] w)(v0 v1 v2:au):Bx T g #[v0,v1,v2] (yf g v0 v1 v2 w):=by have:=((h.set 0 v0).set 1 v1).set 2 v2;rw[show ((((#[u0,u1,u2]:Array au).setIfInBounds 0 v0).setIfInBounds 1 v1).setIfInBounds 2 v2)=#[v0,v1,v2] by simp]at this;exact this
def zW(n:Int):Prop:=-9223372036854775808<=n/\n<=9223372036854775807
instance (n:Int):Decidable (zW n):=by unfold zW;infer_instance
theorem He{s:By}(h:¬(s=yQ)/\¬(s=yR)/\¬(s=yS)/\¬(s=PV)/\¬(s=PW)/\¬(s=yT)/\¬(s=PY)/\¬(s=yU)/\¬(s=yV)/\¬(s=yX)/\¬(s=yY)/\¬(s=JP)):bQ s=0:=by obtain⟨h0,h1,h2,h3,h4,h5,h6,h7,h8,h9,h10,h11⟩:=h;unfold bQ P5 P6;simp[h0,h1,h2,h3,h4,h5,h6,h7,h8,h9,h10,h11]
theorem aCm(h:U:=by go_enter func194,ntmps194;go_wp2;go_ret;exact⟨rfl,rfl⟩):U:=h
theorem Hf(s:By)(w:ak):Calls ax 194 #[.string (aY s)] w λe w'=>e=.returned (.int .i64 (bQ s:Int))/\w=w':=by unfold aY;by_cases hAdd:s=yQ;subst hAdd;unfold yQ;rw[show bQ [97,100,100]=2 from rfl];exact aCm;by_cases hSub:s=yR;subst hSub;unfold yR;rw[show bQ [115,117,98]=2 from rfl];exact aCm;by_cases hMul:s=yS;subst hMul;unfold yS;rw[show bQ [109,117,108]=2 from rfl];exact aCm;by_cases I4:s=PV;subst I4;unfold PV;rw[show bQ [101,113]=2 from rfl];exact aCm;by_cases hLt:s=PW;subst hLt;unfold PW;rw[show bQ [108,116]=2 from rfl];exact aCm;by_cases hAnd:s=yT;subst hAnd;unfold yT;rw[show bQ [97,110,100]=2 from rfl];exact aCm;by_cases hOr:s=PY;subst hOr;unfold PY;rw[show bQ [111,114]=2 from rfl];exact aCm;by_cases VI:s=yU;subst VI;unfold yU;rw[show bQ [99,97,116]=2 from rfl];exact aCm;by_cases VJ:s=yV;subst VJ;unfold yV;rw[show bQ [110,101,103]=1 from rfl];exact aCm;by_cases VK:s=yX;subst VK;unfold yX;rw[show bQ [110,111,116]=1 from rfl];exact aCm;by_cases hLen:s=yY;subst hLen;unfold yY;rw[show bQ [108,101,110]=1 from rfl];exact aCm;by_cases hIf:s=JP;subst hIf;unfold JP;rw[show bQ [105,102]=3 from rfl];exact aCm;rw[He ⟨hAdd,hSub,hMul,I4,hLt,hAnd,hOr,VI,VJ,VK,hLen,hIf⟩];have an1:(s==yQ)=false:=awy.2 hAdd;have an2:(s==yR)=false:=awy.2 hSub;have an3:(s==yS)=false:=awy.2 hMul;have gEq:(s==PV)=false:=awy.2 I4;have gLt:(s==PW)=false:=awy.2 hLt;have an4:(s==yT)=false:=awy.2 hAnd;have gOr:(s==PY)=false:=awy.2 hOr;have an5:(s==yU)=false:=awy.2 VI;have an6:(s==yV)=false:=awy.2 VJ;have an7:(s==yX)=false:=awy.2 VK;have an8:(s==yY)=false:=awy.2 hLen;have gIf:(s==JP)=false:=awy.2 hIf;unfold yQ yR yS PV PW yT PY yU yV yX yY JP at*;exact aCm
theorem aCn(h:U:=by go_enter func124,ntmps124;go_wp2;go_ret;exact⟨rfl,rfl⟩):U:=h
theorem SQ(s:By)(w:ak):Calls ax 124 #[.string (aY s)] w λe w'=>e=.returned (.int .i64 (bQ s:Int))/\w=w':=by unfold aY;by_cases hAdd:s=yQ;subst hAdd;unfold yQ;rw[show bQ [97,100,100]=2 from rfl];exact aCn;by_cases hSub:s=yR;subst hSub;unfold yR;rw[show bQ [115,117,98]=2 from rfl];exact aCn;by_cases hMul:s=yS;subst hMul;unfold yS;rw[show bQ [109,117,108]=2 from rfl];exact aCn;by_cases I4:s=PV;subst I4;unfold PV;rw[show bQ [101,113]=2 from rfl];exact aCn;by_cases hLt:s=PW;subst hLt;unfold PW;rw[show bQ [108,116]=2 from rfl];exact aCn;by_cases hAnd:s=yT;subst hAnd;unfold yT;rw[show bQ [97,110,100]=2 from rfl];exact aCn;by_cases hOr:s=PY;subst hOr;unfold PY;rw[show bQ [111,114]=2 from rfl];exact aCn;by_cases VI:s=yU;subst VI;unfold yU;rw[show bQ [99,97,116]=2 from rfl];exact aCn;by_cases VJ:s=yV;subst VJ;unfold yV;rw[show bQ [110,101,103]=1 from rfl];exact aCn;by_cases VK:s=yX;subst VK;unfold yX;rw[show bQ [110,111,116]=1 from rfl];exact aCn;by_cases hLen:s=yY;subst hLen;unfold yY;rw[show bQ [108,101,110]=1 from rfl];exact aCn;by_cases hIf:s=JP;subst hIf;unfold JP;rw[show bQ [105,102]=3 from rfl];exact aCn;rw[He ⟨hAdd,hSub,hMul,I4,hLt,hAnd,hOr,VI,VJ,VK,hLen,hIf⟩];have an1:(s==yQ)=false:=awy.2 hAdd;have an2:(s==yR)=false:=awy.2 hSub;have an3:(s==yS)=false:=awy.2 hMul;have gEq:(s==PV)=false:=awy.2 I4;have gLt:(s==PW)=false:=awy.2 hLt;have an4:(s==yT)=false:=awy.2 hAnd;have gOr:(s==PY)=false:=awy.2 hOr;have an5:(s==yU)=false:=awy.2 VI;have an6:(s==yV)=false:=awy.2 VJ;have an7:(s==yX)=false:=awy.2 VK;have an8:(s==yY)=false:=awy.2 hLen;have gIf:(s==JP)=false:=awy.2 hIf;unfold yQ yR yS PV PW yT PY yU yV yX yY JP at*;exact aCn
abbrev ayv:=@Go.Calls.quiet_of_same
def iy(k:Int)(s:By)(n:Int)(n1:Nat):Bool:=
 if k==1 then !jO s||!(n==0)||decide (0<n1)
 else if k==2 then !s.isEmpty||decide (0<n1)
 else if k==3 then !(n==0)||decide (0<n1)
 else if k==4 then bQ s==0||!(n==0)||!(n1==bQ s)
 else true
theorem C_(m:M):oQ m.t=iy m.kind m.s m.n m.kids.length:=by
 unfold oQ iy;rw[M.xI,M.uK,M.t_n,M.bD,awD];have:(!(m.kids.map M.t).isEmpty)=decide (0<m.kids.length):=by cases m.kids<;>simp
 rw[this]
theorem aeC(m:M)(w:ak):Calls ax 173 #[xZ m] w λe w'=>e=.returned m.kv/\Ev w w':=by unfold xZ M.kv;go_enter func173,ntmps173;go_wp2;go_ret;exact⟨rfl,Ev.alloc _ _⟩
theorem az3(h:U:=by
 go_enter func175,ntmps175
 go_wp2_with (first|((with_reducible refine(HNm.out _).mono ?_);rintro e w1 ⟨rfl,aN⟩;have E1:=HE.out.trans aN;obtain⟨⟨c0,c1,c2,c3⟩,_⟩:=(HB.out.ev aN).four))
 go_ret;exact⟨by simp[h1],E1⟩):U:=h
theorem azB(h:U:=by
 by_cases h1:0<n1
 ·have i1:(0:Int)<(n1:Int):=ae;go_enter func175,ntmps175;go_wp2;go_ret;exact⟨by first|rfl|simp[h1],HE.out⟩
 have i1:¬((0:Int)<(n1:Int)):=ae;go_enter func175,ntmps175;go_wp2;go_ret;exact⟨by first|rfl|simp[h1],HE.out⟩):U:=h
theorem aAg(h:U:=by
 go_enter func175,ntmps175;go_wp2
 go_quiet (first|(go_at_call 194;exact ayv ((HO.out _).mono λ_ _ h=>⟨h.1,h.2.symm⟩)))
 all_goals (go_wp2;go_ret;exact⟨by first|rfl|simp,HE.out.trans (Ev.drewN _ _)⟩)):U:=h
theorem P8(k:Int)(s:By)(n:Int)(A:Option Addr)(n1 cap:Nat)(w:ak)(hs:s.length<=1000000)(pG:n1<=1000000):
  Calls ax 175 #[.agg #[↑k,↑s,↑n,.slice A n1 cap]] w λe w'=>e=.returned (.bool (iy k s n n1))/\Ev w w':=by
 have HNm:=λw1=>nK (aY s) w1;have HO:=zq (λw1=>Hf s w1);have hE:=Ev.alloc w (.cells #[↑k,↑s,↑n,.slice A n1 cap] 47);have hB:=Bx.new 47 #[↑k,↑s,↑n,.slice A n1 cap] w;obtain⟨w0,hw0⟩:∃w0,w.alloc (.cells #[↑k,↑s,↑n,.slice A n1 cap] 47)=w0:=⟨_,rfl⟩
 rw[hw0]at hE hB;obtain⟨⟨c0,c1,c2,c3⟩,_⟩:=hB.four;have HB:=zq hB;have HE:=zq hE;clear hB hE;unfold aY at HNm HO;by_cases k1:k=1
 ·subst k1;unfold iy;simp only[axe,aw4];rw[show jO s=f_ ⟨s.toArray⟩ from rfl];generalize f_ ⟨s.toArray⟩=y at*;have HNm:=zq HNm
  cases y with
  | false=>
   go_enter func175,ntmps175
   go_wp2_with (first|((with_reducible refine(HNm.out _).mono ?_);rintro e w1 ⟨rfl,aN⟩;have E1:=HE.out.trans aN))
   go_ret;exact⟨rfl,E1⟩
  | true=>
   by_cases h0:n=0;subst h0;by_cases h1:0<n1;have i1:(0:Int)<(n1:Int):=ae;exact az3;have i1:¬((0:Int)<(n1:Int)):=ae;exact az3;have h0':(n==0)=false:=awy.2 h0;have h0n:(n !=0)=true:=by simp[h0]
   go_enter func175,ntmps175
   go_wp2_with (first|((with_reducible refine(HNm.out _).mono ?_);rintro e w1 ⟨rfl,aN⟩;have E1:=HE.out.trans aN;obtain⟨⟨c0,c1,c2,c3⟩,_⟩:=(HB.out.ev aN).four))
   go_ret;exact⟨by simp[h0],E1⟩
 have k1':(k==1)=false:=awy.2 k1;by_cases k2:k=2
 ·subst k2;unfold iy;simp only[k1',axe,aw4,awP,aw7]
  cases hse:s with
  | nil=>
   rw[hse]at c1 hw0;exact azB
  | cons x q=>
   rw[hse]at c1 hw0;go_enter func175,ntmps175;go_wp2;go_ret;exact⟨rfl,HE.out⟩
 have k2':(k==2)=false:=awy.2 k2;by_cases k3:k=3
 ·subst k3;unfold iy;simp only[k1',k2',axe,aw4,awP,aw7];by_cases h0:n=0;subst h0;exact azB;have h0':(n==0)=false:=awy.2 h0;have h0n:(n !=0)=true:=by simp[h0]
  go_enter func175,ntmps175;go_wp2;go_ret;exact⟨by simp[h0],HE.out⟩
 have k3':(k==3)=false:=awy.2 k3;by_cases k4:k=4
 ·subst k4;unfold iy;simp only[k1',k2',k3',axe,aw4,awP,aw7];obtain⟨t,ht⟩:∃t,t=bQ s:=⟨_,rfl⟩
  rw[<-ht]at HO|-;clear ht
  cases t with
  | zero=>
    rw[show ((0:Nat):Int)=0 from rfl]at HO;exact aAg
  | succ t=>
   have e1:¬(((t+1:Nat):Int)=0):=ae;have e1':(((t:Int)+1)==0)=false:=by simp;omega
   have e1n:¬((t:Int)+1=0):=ae;by_cases h0:n=0
   ·subst h0;by_cases h1:n1=t+1;subst h1;exact aAg;have h1':¬((n1:Int)=(t:Int)+1):=ae;have h1n:((n1:Int) !=(t:Int)+1)=true:=by simp;omega
    go_enter func175,ntmps175;go_wp2
    go_quiet (first|(go_at_call 194;exact ayv ((HO.out _).mono λ_ _ h=>⟨h.1,h.2.symm⟩)))
    all_goals (go_wp2;go_ret;exact⟨by first|rfl|simp[h1],HE.out.trans (Ev.drewN _ _)⟩)
   have h0':(n==0)=false:=awy.2 h0;have h0n:(n !=0)=true:=by simp[h0]
   go_enter func175,ntmps175;go_wp2
   go_quiet (first|(go_at_call 194;exact ayv ((HO.out _).mono λ_ _ h=>⟨h.1,h.2.symm⟩)))
   all_goals (go_wp2;go_ret;exact⟨by first|rfl|simp[h0],HE.out.trans (Ev.drewN _ _)⟩)
 have k4':(k==4)=false:=awy.2 k4;unfold iy;simp only[k1',k2',k3',k4',awP,aw7];go_enter func175,ntmps175;go_wp2;go_ret;exact⟨rfl,HE.out⟩
mutual
def T.every(p:T->Bool):T->Bool
 | .mk k s n l q=>p (.mk k s n l q)&&T.everys p l
def T.everys(p:T->Bool):List T->Bool
 | []=>true
 | t::l=>t.every p&&T.everys p l
end
theorem T.Dc(p:T->Bool):∀l:List T,T.everys p l=l.all (T.every p)
 | []=>rfl
 | t::l=>by simp[T.everys,T.Dc p l]
theorem T.gI(p:T->Bool)(t:T):t.every p=(p t&&t.kids.all (T.every p)):=by
 cases t
 rw[T.every,T.Dc];rfl
theorem T.size_eq(t:T):t.size=(t.kids.map T.size).sum+1:=by
 cases t
 rw[T.size,T.rD];rfl
mutual
theorem uy:∀t:T,dX t=t.every λx=>!oQ x
 | .mk k s n l q=>by rw[dX,T.every,Ce l]
theorem Ce:∀l:List T,wR l=T.everys (λx=>!oQ x) l
 | []=>rfl
 | t::l=>by rw[wR,T.everys,uy t,Ce l]
end
theorem T.size_pos(t:T):1<=t.size:=by rw[T.size_eq];omega
theorem jZ:∀l:List T,l.length<=(l.map T.size).sum
 | []=>by simp
 | t::l=>by have:=jZ l;have:=T.size_pos t;simp;omega
theorem Zb:∀l:List T,l.length<=T.sizes l:=λl=>by rw[T.rD];exact jZ l
mutual
theorem Hg(N:Nat):∀t:T,t.size<=N->t.every (λx=>decide (x.kids.length<=N))=true
 | .mk k s n l q,h=>by rw[T.size]at h;have:=Zb l;rw[T.every,Ee N l ae];show (decide (l.length<=N)&&true)=true;rw[aw5 ae];rfl
theorem Ee(N:Nat):∀l:List T,T.sizes l<=N->T.everys (λx=>decide (x.kids.length<=N)) l=true
 | [],_=>rfl
 | t::l,h=>by rw[T.sizes]at h;rw[T.everys,Hg N t ae,Ee N l ae];rfl
end
abbrev JX:au:=.func (.func 175) #[] #[]
abbrev ajW:au:=.func (.func 173) #[] #[]
def Fair(m:M):Prop:=m.s.length<=1000000/\m.kids.length<=1000000
def qi(m:M):Bool:=oQ m.t
theorem VL(m:M)(hF:Fair m)(w:ak):Calls ax 175 #[xZ m] w λe w'=>e=.returned (.bool (qi m))/\Ev w w':=by unfold qi;rw[C_];exact P8 m.kind m.s m.n m.A m.kids.length m.cap w hF.1 hF.2
theorem P9{A:Option Addr}{n cap:Nat}{Z:List M}(w:ak)(h:Es w A n cap Z)(hf:∀z∈Z,Fair z):
  Calls ax 193 #[.slice A n cap,JX] w λe w'=>(∃i:Int,e=.returned ↑i/\(decide (0<=i)=Z.any qi))/\Ev w w':=by
 have hn:=h.le;have hm:=h.max;have HN:=zq h.len;have HF0:=zq hf;clear hf;go_enter func193,ntmps193;go_wp2
 go_loopw [8] (λi wr=>∃k:Nat,k<=n/\i=↑k/\Hid ((Z.take k).any qi=false)/\Ev w wr) (λi _=>n-(intOf i).toNat)
 case atStart=>exact⟨0,awJ _,rfl,zq rfl,Ev.refl _⟩
 case round=>
  obtain⟨k,hk,rfl,HF,hE⟩:=hrel;by_cases hlt:k<n
  ·obtain⟨z,hx⟩:=h.at hlt;obtain⟨b,off,rfl,hb,c0,c1,c2,c3⟩:=Es.cell (h.ev hE) hx;have HI:=λw1=>VL z (HF0.out z (awG hx)) w1;have HX:=zq hx;clear hx;generalize hz:qi z=y at HI;have HZ:=zq hz;clear hz;unfold xZ M.kv at HI;unfold M.kv at c3;have HI:=zq HI;have i1:(0:Int)<=(k:Int):=ae;have i2:(k:Int)<(n:Int):=ae
   cases y
   ·go_wp2_with (first|((with_reducible refine(HI.out _).mono ?_);rintro e w1 ⟨rfl,aN⟩))
    go_roundw
    case rel=>
     refine⟨k+1,ae,by go_num,zq ?_,hE.trans aN⟩;obtain⟨hk2,e⟩:=awz.1 HX.out;rw[awH hk2,List.any_append,HF.out,e];simp[HZ.out]
    case measure=>simp[intOf];omega
   go_wp2_with (first|((with_reducible refine(HI.out _).mono ?_);rintro e w1 ⟨rfl,aN⟩))
   go_ret;refine⟨⟨k,rfl,?_⟩,hE.trans aN⟩;rw[aw5 i1];exact(axQ.2 ⟨_,awG HX.out,HZ.out⟩).symm
  obtain rfl:k=n:=ae;go_wp2;go_ret;refine⟨⟨-1,rfl,?_⟩,hE⟩;have:=HF.out;rw[awS (by rw[HN.out];exact awC _)]at this;rw[this];rfl
theorem Iw{A:Option Addr}{n cap:Nat}{Z:List M}(w:ak)(h:Es w A n cap Z)(hf:∀z∈Z,Fair z):
  Calls ax 174 #[.slice A n cap,JX] w λe w'=>e=.returned (.bool (Z.any qi))/\Ev w w':=by
 have HI:=zq (P9 w h hf);generalize Z.any qi=y at*;clear hf;go_enter func174,ntmps174
 go_wp2_with (first|((with_reducible refine HI.out.mono ?_);rintro e w1 ⟨⟨i,rfl,rfl⟩,aN⟩))
 go_ret;exact⟨rfl,aN⟩
theorem Tryz.zX:(Tryz.prog.info? 47).map (λi=>(i.zero,i.size,i.bytes))=some (some (.agg ↑Zz.e),4,56):=ah
structure P_(m:M)(b0:Nat)(w0:ak)(v:au)(L:List M)(i:Nat)(w:ak):Prop where
 own:Ow 47 4 ec w0.heap.size w v L
 ev:Ev w0 w
 lies:∀x∈L,Lx b0 [] w0 x
 le:i<=L.length
 size:i+((L.drop i).map λx=>x.t.size).sum=m.t.size
 all:∀p:T->Bool,(((L.take i).all λx=>p x.t)&&((L.drop i).all λx=>x.t.every p))=m.t.every p
theorem P_.init{m:M}{b0:Nat}{w:ak}{v:au}{w1:ak}(hL:Lx b0 [] w m)(hE:Ev w w1)(ho:Ow 47 4 ec w.heap.size w1 v [m]):P_ m b0 w v [m] 0 w1:=
 ⟨ho,hE,λx hx=>by simp at hx;subst hx;exact hL,aj,aj,λp=>by simp⟩
theorem aAM(h:U:=by have h1:=jZ ((L.drop i).map M.t);rw[awD,aw',awT]at h1;have h2:=h.size;have h3:=h.le;have:(T.size ∘ M.t)=(λx:M=>x.t.size):=rfl;rw[this]at h1;omega):U:=h
theorem P_.short{m:M}{b0:Nat}{w0 w:ak}{v:au}{L:List M}{i:Nat}(h:P_ m b0 w0 v L i w):L.length<=m.t.size:=by exact aAM
theorem P_.next{m:M}{b0:Nat}{w0 w w':ak}{v v':au}{L:List M}{i:Nat}{x:M}(h:P_ m b0 w0 v L i w)(hx:L[i]?=some x)(ho:Ow 47 4 ec w0.heap.size w' v' (L++x.kids))(hE:Ev w0 w'):P_ m b0 w0 v' (L++x.kids) (i+1) w':=by
 obtain⟨hi,U3⟩:=awz.1 hx;have hd:L.drop i=x::L.drop (i+1):=by rw[axt hi,U3]
 have hd2:(L++x.kids).drop (i+1)=L.drop (i+1)++x.kids:=by rw[List.drop_append_of_le_length hi]
 have SL:(L++x.kids).take (i+1)=L.take i++[x]:=by rw[List.take_append_of_le_length hi,awH hi,U3]
 refine⟨ho,hE,λy hy=>?_,by rw[awE];omega,?_,λp=>?_⟩;rcases awV.1 hy with h1|h1;exact h.lies y h1;exact(h.lies x (awG hx)).kid y h1;have h1:=h.size;rw[hd]at h1;rw[hd2];have h2:=T.size_eq x.t;rw[M.bD,awT]at h2;have:(T.size ∘ M.t)=(λx:M=>x.t.size):=rfl;rw[this]at h2;simp only[awM,axP,awI,axr]at h1|-;omega;have h1:=h.all p;rw[hd]at h1;rw[hd2,SL,<-h1];simp only[axJ,ayh,List.all_nil,ayb];rw[T.gI p x.t,M.bD,axN];have:(T.every p ∘ M.t)=(λx:M=>x.t.every p):=rfl;rw[this]
 cases (L.take i).all (λx=>p x.t)<;>cases p x.t<;>cases x.kids.all (λx=>x.t.every p)<;>cases (L.drop (i+1)).all (λx=>x.t.every p)<;>rfl
theorem aBE(h:U:=by
 go_roundw
 case rel=>exact⟨A2,nn,cap2,i+1,_,rfl,by go_num,Dh.out,zq S2⟩
 case measure=>simp[intOf];omega):U:=h
theorem abn(m:M)(b0:Nat)(w:ak)(h:Lx b0 [] w m)(hsz:m.t.size<=16000):
  Calls ax 172 #[xZ m,ajW] w λe w'=>∃(A:Option Addr) (n cap:Nat) (L:List M),e=.returned (.tuple #[.slice A n cap,.bool true])/\Es w' A n cap L/\
   (∀x∈L,Lx b0 [] w x)/\(∀p:T->Bool,(L.all λx=>p x.t)=m.t.every p)/\n<=16000/\Ev w w':=by
 have aV:=(Ev.alloc w (.cells #[↑m.kind,↑m.s,↑m.n,m.kv] 47)).trans (Ev.alloc _ (.cells #[↑m.kind,↑m.s,↑m.n,m.kv] 47));have hP:=P_.init (v:=.slice (some ⟨w.heap.size+1,0,none⟩) 1 1) h aV (by
  have:=Ow.made (et:=47) (base:=w.heap.size) x8 (w.alloc (.cells #[↑m.kind,↑m.s,↑m.n,m.kv] 47)) [m] #[↑m.kind,↑m.s,↑m.n,m.kv] rfl aj aj;simpa using this)
 have HP:=zq hP;have HK:=zq (λx w1=>aeC x w1);clear hP aV;unfold xZ;unfold M.kv at*;go_enter func172,ntmps172;go_wp2
 go_loopw [6,7] (λav iv wr=>∃(A:Option Addr) (n cap i:Nat) (L:List M),av=.slice A n cap/\iv=↑i/\n=L.length/\Hid (P_ m b0 w (.slice A n cap) L i wr)) (λ_ iv _=>m.t.size-(intOf iv).toNat)
 case atStart=>exact⟨_,1,1,0,[m],rfl,rfl,rfl,HP⟩
 case round=>
  obtain⟨A,n,cap,i,L,rfl,rfl,hn,HS⟩:=hrel;have hns:=HS.out.short;rw[<-hn]at hns;have jd:=zq hn;clear hn;obtain⟨_,cap',hvv,qL,hA⟩:=HS.out.own.form x8;injection hvv with h1 h2 h3
  subst h1 h3;clear h2;rw[<-jd.out]at qL;have yK:=qL.le;have hcm:=qL.max;by_cases hi:i<n
  ·obtain⟨x,hx⟩:=qL.at hi;obtain⟨b,off,rfl,hb,c0,c1,c2,c3⟩:=Es.cell qL hx;have HX:=zq hx;have U4:=HS.out.lies x (awG hx);have hEs:=U4.es;have BM:x.kids.length+n<=m.t.size:=by
    have h4:=HS.out.size;have hd:L.drop i=x::L.drop (i+1):=by obtain⟨hi',e⟩:=awz.1 hx;rw[axt hi',e]
    rw[hd]at h4;have h5:=T.size_eq x.t;rw[M.bD,awT]at h5;have h6:=jZ (x.kids.map M.t);rw[awD,awT]at h6;have h7:=jZ ((L.drop (i+1)).map M.t);rw[awD,awT,aw',<-jd.out]at h7;have:(T.size ∘ M.t)=(λx:M=>x.t.size):=rfl;rw[this]at h5 h6 h7;simp only[awI,axr]at h4;omega
   have HEs:=zq hEs;have HKx:=HK.out x;unfold xZ M.kv at HKx;unfold M.kv at c3;have HKx:=zq HKx;obtain⟨kn,hkn⟩:∃kn,kn=x.kids.length:=⟨_,rfl⟩
   rw[<-hkn]at HKx HEs c3 BM;have mg:=zq hkn;have i1:(0:Int)<=(i:Int):=ae;have i2:(i:Int)<(n:Int):=ae;have i3:¬((16384:Int)-(n:Int)<(kn:Int)):=ae;have an9:=yK;clear hx hEs hkn U4 hA qL an9 hb
   go_wp2_with (first
    | ((with_reducible refine(HKx.out _).mono ?_);rintro e w1 ⟨rfl,aN⟩)
    | ((show wpList _ _ _ (⟨some 31,_,_,_,_,_⟩::_) _ _);refine aO (o:=⟨some 31,_,_,_,_,_⟩) rfl 28 (.tmp 29) (.tmp 30) rfl x8 underlying28 Tryz.zX rfl rfl (HS.out.own.ev aN) x.A kn x.cap x.kids rfl (HEs.out.ev (HS.out.ev.trans aN)) (by rw[<-mg.out,<-jd.out];omega) (by rw[<-mg.out,<-jd.out];omega) (HS.out.ev.trans aN).size ?_;intro v2 w2 dY;have E2:=((But.aW (HS.out.ev.trans aN)).then dY.2.1).ev (λk hk=>(HS.out.own.lt (aG.1 hk)).1);have S2:=HS.out.next HX.out dY.1 E2;obtain⟨A2,cap2,rfl,_,_⟩:=dY.1.form x8;generalize BO:(L++x.kids).length=nn at S2|-;have Dh:=zq BO.symm;clear BO))
   exact aBE
  have hin:i=L.length:=by have:=HS.out.le;have:=jd.out;omega
  have i2:¬((i:Int)<(n:Int)):=ae;have HIN:=zq hin;clear hin;go_wp2
  go_ret2
  refine⟨_,_,_,rfl,L,qL,HS.out.lies,λp=>?_,ae,HS.out.ev⟩;have:=HS.out.all p;rw[HIN.out,axk,List.drop_length]at this;simpa using this
theorem JY(m:M)(b0:Nat)(w:ak)(h:Lx b0 [] w m)(hsz:m.t.size<=16000)(hf:m.t.every (λt=>decide (t.s.length<=1000000))=true):
  Calls ax 142 #[xZ m] w λe w'=>e=.returned (.bool (dX m.t))/\Ev w w':=by
 have HP:=λw1 (hE:Ev w w1)=>abn m b0 w1 (h.ev hE) hsz;unfold xZ at HP|-;have HP:=zq HP;have HF:=zq hf;have HR:=zq (uy m.t);have aV:=Ev.alloc w (.cells #[↑m.kind,↑m.s,↑m.n,m.kv] 47);have HE:=zq aV;obtain⟨R,hR⟩:∃R,R=dX m.t:=⟨_,rfl⟩
 rw[<-hR]at HR|-;unfold M.kv at*;clear hf hR aV;go_enter func142,ntmps142
 go_wp2_with (first
  | ((with_reducible refine(HP.out _ HE.out).mono ?_);rintro e w1 ⟨A,n,cap,L,rfl,hL,hLs,hall,hn,aN⟩;have hfair:∀z∈L,Fair z:=(by
    intro z hz;have h1:=hall (λt=>decide (t.s.length<=1000000));rw[HF.out]at h1;have h2:=awW.1 h1 z hz;simp only[decide_eq_true_iff,M.uK]at h2;refine⟨h2,?_⟩;have h3:=hall (λt=>decide (t.kids.length<=1000000));rw[Hg 1000000 m.t ae]at h3;have h4:=awW.1 h3 z hz;simp only[decide_eq_true_iff,M.bD,awD]at h4;exact h4);have HC:=zq (Iw w1 hL hfair);have HX:Hid (R=!L.any qi):=zq (by
    rw[HR.out,<-hall];rw[List.all_eq_not_any_not];simp;rfl);generalize L.any qi=y at*)
  | ((with_reducible refine HC.out.mono ?_);rintro e w2 ⟨rfl,bM⟩))
 go_ret;exact⟨by rw[HX.out];cases y<;>rfl,(HE.out.trans aN).trans bM⟩
theorem yZ{α:Type}:∀{l:List α},l.length=2->∃a b,l=[a,b]
 | [],h=>by simp at h
 | [_],h=>by simp at h
 | [a,b],_=>⟨a,b,rfl⟩
 | _::_::_::_,h=>by simp at h
theorem SS{α:Type}:∀{l:List α},l.length=3->∃a b c,l=[a,b,c]
 | [],h=>by simp at h
 | [_],h=>by simp at h
 | [_,_],h=>by simp at h
 | [a,b,c],_=>⟨a,b,c,rfl⟩
 | _::_::_::_::_,h=>by simp at h
def ic(n:Int):List au:=[↑n]
abbrev Ks:=Sl 1 ic
theorem encI:Enc 1 ic:=⟨ae,λ_=>rfl,λx u hu=>by
 simp[ic]at hu;rw[hu];rfl⟩
theorem Ks.cell{w:ak}{A:Option Addr}{n cap:Nat}{l:List Int}(h:Ks w A n cap l){i:Nat}{x:Int}(hx:l[i]?=some x):∃b off,A=some ⟨b,off,none⟩/\b<w.heap.size/\w.cell? ⟨b,off+i,none⟩=some ↑x:=by have hi:=(awz.1 hx).1;have hl:=h.len;obtain⟨b,off,e,hlt,hc⟩:=h.rd ae;have:=hc i x hx 0 _ rfl;rw[ayj,aw2]at this;exact⟨b,off,e,hlt,this⟩
theorem nZ{A:Option Addr}{n cap:Nat}{l:List Int}(k:Int)(w:ak)(h:Ks w A n cap l):
  Calls ax 198 #[.slice A n cap,↑k] w λe w'=>e=.returned (.bool (lQ l k))/\w=w':=by
 have hn:=h.le;have hm:=h.max;have HL:=zq h.len;have HC:=zq (λi x (hx:l[i]?=some x)=>h.cell hx);have HA:=zq (λi (hi:i<n)=>h.at hi);go_enter func198,ntmps198;go_wp2
 go_loop [9] (λiv=>∃j:Nat,iv=↑j/\j<=n/\Hid ((l.take j).all (·==k)=true)) (λiv=>n-(intOf iv).toNat)
 case atStart=>exact⟨0,rfl,awJ _,zq rfl⟩
 case round=>
  obtain⟨j,rfl,hj,HJ⟩:=hrel;by_cases hlt:j<n
  ·obtain⟨x,hx⟩:=HA.out j hlt;obtain⟨b,off,rfl,hb,c0⟩:=HC.out j x hx;have HX:=zq hx;have i1:(0:Int)<=(j:Int):=ae;have i2:(j:Int)<(n:Int):=ae;clear hx;by_cases hk:x=k
   ·subst hk;go_wp2
    go_round
    case rel=>
     refine⟨j+1,by go_num,ae,zq ?_⟩;obtain⟨hj2,e⟩:=awz.1 HX.out;rw[awH hj2,axJ,HJ.out,e];simp
    case measure=>simp[intOf];omega
   have hk':(x==k)=false:=awy.2 hk;go_wp2;go_ret;refine⟨?_,rfl⟩;have:lQ l k=false:=by unfold lQ;rw[List.all_eq_false];exact⟨x,awG HX.out,by simp[hk]⟩
   rw[this];rfl
  have i2:¬((j:Int)<(n:Int)):=ae;go_wp2;go_ret;refine⟨?_,rfl⟩;have:=HJ.out;rw[awS (by rw[HL.out];omega)]at this;unfold lQ;rw[this];rfl
theorem Nl{A:Option Addr}{n cap:Nat}{l:List Int}(w:ak)(h:Ks w A n cap l)(hl:l.length=2):
  Calls ax 185 #[.string (aY yQ),.slice A n cap] w λe w'=>e=.returned (.tuple #[.int .i64 (bJ yQ l).1,.int .i64 (bJ yQ l).2])/\Ev w w':=by
 unfold aY yQ;have hcm:=h.max;have hle:=h.le;have HA:=λw1 (hE:Ev w w1)=>nZ 1 w1 (h.ev hE);rw[show bJ [97,100,100] l=if lQ l 1 then (1,0) else (0,22) from rfl];generalize lQ l 1=y at*;have HA:=zq HA;clear h hl
 cases y<;>(
  go_enter func185,ntmps185
  go_wp2_with (first|((with_reducible refine(HA.out _ aK).mono ?_);rintro e w1 ⟨rfl,rfl⟩))
  go_ret2
  exact⟨rfl,Ev.refl _⟩)
theorem Np{A:Option Addr}{n cap:Nat}{l:List Int}(w:ak)(h:Ks w A n cap l)(hl:l.length=2):
  Calls ax 185 #[.string (aY yR),.slice A n cap] w λe w'=>e=.returned (.tuple #[.int .i64 (bJ yR l).1,.int .i64 (bJ yR l).2])/\Ev w w':=by
 unfold aY yR;have hcm:=h.max;have hle:=h.le;have HA:=λw1 (hE:Ev w w1)=>nZ 1 w1 (h.ev hE);rw[show bJ [115,117,98] l=if lQ l 1 then (1,0) else (0,22) from rfl];generalize lQ l 1=y at*;have HA:=zq HA;clear h hl
 cases y<;>(
  go_enter func185,ntmps185
  go_wp2_with (first|((with_reducible refine(HA.out _ aK).mono ?_);rintro e w1 ⟨rfl,rfl⟩))
  go_ret2
  exact⟨rfl,Ev.refl _⟩)
theorem Nq{A:Option Addr}{n cap:Nat}{l:List Int}(w:ak)(h:Ks w A n cap l)(hl:l.length=2):
  Calls ax 185 #[.string (aY yS),.slice A n cap] w λe w'=>e=.returned (.tuple #[.int .i64 (bJ yS l).1,.int .i64 (bJ yS l).2])/\Ev w w':=by
 unfold aY yS;have hcm:=h.max;have hle:=h.le;have HA:=λw1 (hE:Ev w w1)=>nZ 1 w1 (h.ev hE);rw[show bJ [109,117,108] l=if lQ l 1 then (1,0) else (0,22) from rfl];generalize lQ l 1=y at*;have HA:=zq HA;clear h hl
 cases y<;>(
  go_enter func185,ntmps185
  go_wp2_with (first|((with_reducible refine(HA.out _ aK).mono ?_);rintro e w1 ⟨rfl,rfl⟩))
  go_ret2
  exact⟨rfl,Ev.refl _⟩)
theorem aBK(h:U:=by
 go_enter func185,ntmps185;go_wp2
 go_quiet (fail)
 go_wp2
 go_ret2
 exact⟨rfl,Ev.drewN _ _⟩):U:=h
theorem aBx(h:U:=by clear hx;exact aBK):U:=h
theorem aAJ(h:U:=by have g:(x0==x1)=true:=awO.2 hx;rw[if_pos g];exact aBx):U:=h
theorem aBc(h:U:=by simp only[awP,aw7];exact aBK):U:=h
theorem aAG(h:U:=by have g:(x0==x1)=false:=awy.2 hx;rw[g];exact aBc):U:=h
theorem Qa{A:Option Addr}{n cap:Nat}{l:List Int}(w:ak)(h:Ks w A n cap l)(hl:l.length=2):
  Calls ax 185 #[.string (aY PV),.slice A n cap] w λe w'=>e=.returned (.tuple #[.int .i64 (bJ PV l).1,.int .i64 (bJ PV l).2])/\Ev w w':=by
 unfold aY PV;have hn:n=2:=by rw[<-h.len,hl]
 subst hn;obtain⟨x0,x1,rfl⟩:∃x0 x1,l=[x0,x1]:=by exact yZ hl
 obtain⟨b0,aj0,e0,hb0,c0⟩:=h.cell (i:=0) (x:=x0) rfl;obtain⟨b1,aj1,e1,hb1,c1⟩:=h.cell (i:=1) (x:=x1) rfl;rw[e0]at e1;injection e1 with e1
 injection e1 with e1a e1b _
 subst e1a e1b e0;simp only[aw2]at c0;have hcap:=h.le;clear h hl hb0 hb1;rw[show bJ [101,113] [x0,x1]=if x0==x1 then (1,0) else (0,22) from rfl];by_cases hx:x0=x1;exact aAJ;exact aAG
theorem Qb{A:Option Addr}{n cap:Nat}{l:List Int}(w:ak)(h:Ks w A n cap l)(hl:l.length=2):
  Calls ax 185 #[.string (aY PW),.slice A n cap] w λe w'=>e=.returned (.tuple #[.int .i64 (bJ PW l).1,.int .i64 (bJ PW l).2])/\Ev w w':=by
 unfold aY PW;have hn:n=2:=by rw[<-h.len,hl]
 subst hn;obtain⟨x0,x1,rfl⟩:∃x0 x1,l=[x0,x1]:=by exact yZ hl
 obtain⟨b0,aj0,e0,hb0,c0⟩:=h.cell (i:=0) (x:=x0) rfl;obtain⟨b1,aj1,e1,hb1,c1⟩:=h.cell (i:=1) (x:=x1) rfl;rw[e0]at e1;injection e1 with e1
 injection e1 with e1a e1b _
 subst e1a e1b e0;simp only[aw2]at c0;have hcap:=h.le;clear h hl hb0 hb1;rw[show bJ [108,116] [x0,x1]=if x0==x1 then (1,0) else (0,22) from rfl];by_cases hx:x0=x1;exact aAJ;exact aAG
theorem Nr{A:Option Addr}{n cap:Nat}{l:List Int}(w:ak)(h:Ks w A n cap l)(hl:l.length=2):
  Calls ax 185 #[.string (aY yT),.slice A n cap] w λe w'=>e=.returned (.tuple #[.int .i64 (bJ yT l).1,.int .i64 (bJ yT l).2])/\Ev w w':=by
 unfold aY yT;have hcm:=h.max;have hle:=h.le;have HA:=λw1 (hE:Ev w w1)=>nZ 1 w1 (h.ev hE);rw[show bJ [97,110,100] l=if lQ l 1 then (1,0) else (0,22) from rfl];generalize lQ l 1=y at*;have HA:=zq HA;clear h hl
 cases y<;>(
  go_enter func185,ntmps185
  go_wp2_with (first|((with_reducible refine(HA.out _ aK).mono ?_);rintro e w1 ⟨rfl,rfl⟩))
  go_ret2
  exact⟨rfl,Ev.refl _⟩)
theorem Qc{A:Option Addr}{n cap:Nat}{l:List Int}(w:ak)(h:Ks w A n cap l)(hl:l.length=2):
  Calls ax 185 #[.string (aY PY),.slice A n cap] w λe w'=>e=.returned (.tuple #[.int .i64 (bJ PY l).1,.int .i64 (bJ PY l).2])/\Ev w w':=by
 unfold aY PY;have hcm:=h.max;have hle:=h.le;have HA:=λw1 (hE:Ev w w1)=>nZ 1 w1 (h.ev hE);rw[show bJ [111,114] l=if lQ l 1 then (1,0) else (0,22) from rfl];generalize lQ l 1=y at*;have HA:=zq HA;clear h hl
 cases y<;>(
  go_enter func185,ntmps185
  go_wp2_with (first|((with_reducible refine(HA.out _ aK).mono ?_);rintro e w1 ⟨rfl,rfl⟩))
  go_ret2
  exact⟨rfl,Ev.refl _⟩)
theorem Ns{A:Option Addr}{n cap:Nat}{l:List Int}(w:ak)(h:Ks w A n cap l)(hl:l.length=2):
  Calls ax 185 #[.string (aY yU),.slice A n cap] w λe w'=>e=.returned (.tuple #[.int .i64 (bJ yU l).1,.int .i64 (bJ yU l).2])/\Ev w w':=by
 unfold aY yU;have hcm:=h.max;have hle:=h.le;have HA:=λw1 (hE:Ev w w1)=>nZ 2 w1 (h.ev hE);rw[show bJ [99,97,116] l=if lQ l 2 then (2,0) else (0,22) from rfl];generalize lQ l 2=y at*;have HA:=zq HA;clear h hl
 cases y<;>(
  go_enter func185,ntmps185
  go_wp2_with (first|((with_reducible refine(HA.out _ aK).mono ?_);rintro e w1 ⟨rfl,rfl⟩))
  go_ret2
  exact⟨rfl,Ev.refl _⟩)
theorem Nu{A:Option Addr}{n cap:Nat}{l:List Int}(w:ak)(h:Ks w A n cap l)(hl:l.length=1):
  Calls ax 185 #[.string (aY yV),.slice A n cap] w λe w'=>e=.returned (.tuple #[.int .i64 (bJ yV l).1,.int .i64 (bJ yV l).2])/\Ev w w':=by
 unfold aY yV;have hcm:=h.max;have hle:=h.le;have HA:=λw1 (hE:Ev w w1)=>nZ 1 w1 (h.ev hE);rw[show bJ [110,101,103] l=if lQ l 1 then (1,0) else (0,22) from rfl];generalize lQ l 1=y at*;have HA:=zq HA;clear h hl
 cases y<;>(
  go_enter func185,ntmps185
  go_wp2_with (first|((with_reducible refine(HA.out _ aK).mono ?_);rintro e w1 ⟨rfl,rfl⟩))
  go_ret2
  exact⟨rfl,Ev.refl _⟩)
theorem Nv{A:Option Addr}{n cap:Nat}{l:List Int}(w:ak)(h:Ks w A n cap l)(hl:l.length=1):
  Calls ax 185 #[.string (aY yX),.slice A n cap] w λe w'=>e=.returned (.tuple #[.int .i64 (bJ yX l).1,.int .i64 (bJ yX l).2])/\Ev w w':=by
 unfold aY yX;have hcm:=h.max;have hle:=h.le;have HA:=λw1 (hE:Ev w w1)=>nZ 1 w1 (h.ev hE);rw[show bJ [110,111,116] l=if lQ l 1 then (1,0) else (0,22) from rfl];generalize lQ l 1=y at*;have HA:=zq HA;clear h hl
 cases y<;>(
  go_enter func185,ntmps185
  go_wp2_with (first|((with_reducible refine(HA.out _ aK).mono ?_);rintro e w1 ⟨rfl,rfl⟩))
  go_ret2
  exact⟨rfl,Ev.refl _⟩)
theorem Nw{A:Option Addr}{n cap:Nat}{l:List Int}(w:ak)(h:Ks w A n cap l)(hl:l.length=1):
  Calls ax 185 #[.string (aY yY),.slice A n cap] w λe w'=>e=.returned (.tuple #[.int .i64 (bJ yY l).1,.int .i64 (bJ yY l).2])/\Ev w w':=by
 unfold aY yY;have hcm:=h.max;have hle:=h.le;have HA:=λw1 (hE:Ev w w1)=>nZ 2 w1 (h.ev hE);rw[show bJ [108,101,110] l=if lQ l 2 then (1,0) else (0,22) from rfl];generalize lQ l 2=y at*;have HA:=zq HA;clear h hl
 cases y<;>(
  go_enter func185,ntmps185
  go_wp2_with (first|((with_reducible refine(HA.out _ aK).mono ?_);rintro e w1 ⟨rfl,rfl⟩))
  go_ret2
  exact⟨rfl,Ev.refl _⟩)
theorem Qd{A:Option Addr}{n cap:Nat}{l:List Int}(w:ak)(h:Ks w A n cap l)(hl:l.length=3):
  Calls ax 185 #[.string (aY JP),.slice A n cap] w λe w'=>e=.returned (.tuple #[.int .i64 (bJ JP l).1,.int .i64 (bJ JP l).2])/\Ev w w':=by
 unfold aY JP;have hn:n=3:=by rw[<-h.len,hl]
 subst hn;obtain⟨x0,x1,x2,rfl⟩:∃x0 x1 x2,l=[x0,x1,x2]:=by exact SS hl
 obtain⟨b0,aj0,e0,hb0,c0⟩:=h.cell (i:=0) (x:=x0) rfl;obtain⟨b1,aj1,e1,hb1,c1⟩:=h.cell (i:=1) (x:=x1) rfl;obtain⟨b2,y5,e2,hb2,c2⟩:=h.cell (i:=2) (x:=x2) rfl;rw[e0]at e1;injection e1 with e1
 injection e1 with e1a e1b _
 subst e1a e1b;rw[e0]at e2;injection e2 with e2
 injection e2 with e2a e2b _
 subst e2a e2b e0;simp only[aw2]at c0;have hcap:=h.le;clear h hl hb0 hb1 hb2;rw[show bJ [105,102] [x0,x1,x2]=if x0==1&&x1==x2 then (x1,0) else (0,22) from rfl];by_cases h0:x0=1;subst h0;by_cases hx:x1=x2;have g:(x1==x2)=true:=awO.2 hx;rw[show ((1:Int)==1&&x1==x2)=true by rw[g];rfl,if_pos rfl];exact aBx;have g:(x1==x2)=false:=awy.2 hx;rw[show ((1:Int)==1&&x1==x2)=false by rw[g];rfl];exact aBc;have g:(x0==1)=false:=awy.2 h0;rw[g];simp only[axp,awP,aw7];exact aBK
theorem VM{A:Option Addr}{n cap:Nat}{l:List Int}(s:By)(w:ak)(h:Ks w A n cap l)(hl:l.length=bQ s)(h0:bQ s≠0):
  Calls ax 185 #[.string (aY s),.slice A n cap] w λe w'=>e=.returned (.tuple #[.int .i64 (bJ s l).1,.int .i64 (bJ s l).2])/\Ev w w':=by
 have hs:(P5 s||P6 s||s==JP)=true:=by
  cases ht:P5 s
  cases ho:P6 s
  cases hi:s==JP
  exfalso;apply h0;unfold bQ;rw[ht,ho,hi];rfl;rfl;rfl;rfl
 unfold P5 P6 at hs;simp only[aw_,awO]at hs;rcases hs with ((((((((h1|h1)|h1)|h1)|h1)|h1)|h1)|h1)|((h1|h1)|h1))|h1<;>subst h1;exact Nl w h hl;exact Np w h hl;exact Nq w h hl;exact Qa w h hl;exact Qb w h hl;exact Nr w h hl;exact Qc w h hl;exact Ns w h hl;exact Nu w h hl;exact Nv w h hl;exact Nw w h hl;exact Qd w h hl
theorem Tryz.XN:(Tryz.prog.info? 3).map (λi=>(i.zero,i.size,i.bytes))=some (some (.int .i64 0),1,8):=ah
theorem Ef{m:M}(h:dX m.t=true):iy m.kind m.s m.n m.kids.length=false/\∀x∈m.kids,dX x.t=true:=by rw[uy,T.gI]at h;simp only[awF,ax0]at h;refine⟨by rw[<-C_];exact h.1,λx hx=>?_⟩;rw[uy];exact awW.1 h.2 x.t (by rw[M.bD];exact aw6.2 ⟨x,hx,rfl⟩)
theorem wW{k:Int}{s:By}{n:Int}{n1:Nat}(h:iy k s n n1=false):k=1∨k=2∨k=3∨(k=4/\n1=bQ s/\bQ s≠0):=by unfold iy at h;by_cases h1:k=1;exact .inl h1;by_cases h2:k=2;exact .inr (.inl h2);by_cases h3:k=3;exact .inr (.inr (.inl h3));by_cases h4:k=4;subst h4;simp at h;exact .inr (.inr (.inr ⟨rfl,h.2,h.1.1⟩));simp[h1,h2,h3,h4]at h
theorem xKind_eq(cols:List C)(m:M):xKind cols m.t=if m.kind==1 then (match bZ cols (aY m.s) with|none=>(0,20)|some i=>((cols.getD i (⟨#[]⟩,0)).2,0))
  else if m.kind==2 then (1,0) else if m.kind==3 then (2,0) else xKindsGo m.s [] (m.kids.map λx=>xKind cols x.t):=by
 rw[M.qR,xKind,JQ,awT];rfl
theorem SV{l:List C}{s:ByteArray}{i:Nat}(h:bZ l s=some i):i<l.length:=by unfold bZ at h;exact(axH.1 h).1
structure KSt(w0:ak)(v:au)(ks:List Int)(w:ak):Prop where
 own:Ow 3 1 ic w0.heap.size w v ks
 ev:Ev w0 w
theorem aAN(h:U:=by
 go_wp2_with (first|((with_reducible refine(HF.out _ HE.out).mono ?_);rintro e w1 ⟨rfl,aN⟩))
 go_ret2
 exact⟨by rw[HK.out];rfl,HE.out.trans aN⟩):U:=h
theorem aAc(h:U:=by
 go_wp2_with (first|((with_reducible refine(HF.out _ HE.out).mono ?_);rintro e w1 ⟨rfl,aN⟩;simp only[foundAt,Option.isSome_some];have d1:=HD1.out _ (HE.out.trans aN)))
 go_ret2
 exact⟨by rw[HK.out];rfl,HE.out.trans aN⟩):U:=h
theorem aAs(h:U:=by
 go_roundw
 case rel=>exact⟨A2,nn,cap2,n1+1,ks++[rk],rfl,by go_num,ae,zq ⟨by rw[Dh.out,awE,zJ.out];rfl,by rw[awE,zJ.out];rfl⟩,zq ⟨dY.1,E2⟩,jF⟩
 case measure=>simp[intOf];omega):U:=h
theorem aeD(N:Nat):∀(m:M) (b0:Nat) (w:ak) (A:Option Addr) (n cap:Nat) (cols:List C),m.dep<=N->Lx b0 [] w m->Cs w A n cap cols->dX m.t=true->
  Calls ax 159 #[xZ m,.slice A n cap] w λe w'=>e=.returned (.tuple #[.int .i64 (xKind cols m.t).1,.int .i64 (xKind cols m.t).2])/\Ev w w':=by
 induction N with
 | zero=>
  intro m b0 w A n cap cols hd;rw[M.lh]at hd;omega
 | succ N ih=>
  intro m b0 w A n cap cols hd hL hC hr;obtain⟨hf,VN⟩:=Ef hr;have dK:=xKind_eq cols m;have aV:=Ev.alloc w (.cells #[↑m.kind,↑m.s,↑m.n,m.kv] 47);have hB:=Bx.new 47 #[↑m.kind,↑m.s,↑m.n,m.kv] w;obtain⟨w0,hw0⟩:∃w0,w.alloc (.cells #[↑m.kind,↑m.s,↑m.n,m.kv] 47)=w0:=⟨_,rfl⟩
  rw[hw0]at aV hB;have HE:=zq aV;have HB:=zq hB;have lM:=zq ih;have HL:=zq hL;have HC:=zq hC;have HKR:=zq VN;have HD:=zq hd;have hes:=hL.es;obtain⟨kn,hkn⟩:∃kn,kn=m.kids.length:=⟨_,rfl⟩
  unfold xZ;unfold M.kv at*;rw[<-hkn]at hf hw0 HB hes|-;have mg:=zq hkn;obtain⟨⟨c0,c1,c2,c3⟩,_⟩:=HB.out.four;clear ih hL hC hr VN hd hkn aV hB;rcases wW hf with hk|hk|hk|⟨hk,pG,G5⟩
  ·rw[hk]at dK hw0 c0|-;simp only[axe,aw4]at dK;have HF:=λw1 (hE:Ev w w1)=>Ed (aY m.s) w1 (HC.out.ev hE);unfold aY at HF dK
   cases MN:bZ cols ⟨m.s.toArray⟩ with
   | none=>
    rw[MN]at dK HF;have HK:=zq dK;have HF:=zq HF;clear dK MN;go_enter func159,ntmps159;exact aAN
   | some i=>
    rw[MN]at dK HF;have MM:=SV MN;rw[HC.out.len]at MM;obtain⟨b,off,x,rfl,hb,hx,d0,d1⟩:=HC.out.Oj MM;have hx2:cols.getD i (⟨#[]⟩,0)=x:=by simp[List.getD,hx]
    simp only[hx2]at dK;have HK:=zq dK;have HF:=zq HF;have HD1:=zq (λw1 (hE:Ev w w1)=>(hE.cell (p:=⟨b,off+i*2+1,none⟩) hb).trans d1);have i1:(0:Int)<=(i:Int):=ae;have i2:(i:Int)<(n:Int):=ae;clear dK MN hx hx2 d0 d1;go_enter func159,ntmps159;exact aAc
  ·rw[hk]at dK hw0 c0|-;have HK:Hid (xKind cols m.t=(1,0)):=zq (by rw[dK];rfl);clear dK;go_enter func159,ntmps159;go_wp2
   go_ret2
   exact⟨by rw[HK.out];rfl,HE.out⟩
  ·rw[hk]at dK hw0 c0|-;have HK:Hid (xKind cols m.t=(2,0)):=zq (by rw[dK];rfl);clear dK;go_enter func159,ntmps159;go_wp2
   go_ret2
   exact⟨by rw[HK.out];rfl,HE.out⟩
  rw[hk]at dK hw0 c0|-;obtain⟨R,hR⟩:∃R,R=xKind cols m.t:=⟨_,rfl⟩
  rw[<-hR]at dK|-;have HK:Hid (R=xKindsGo m.s [] ((m.kids.drop 0).map λx=>xKind cols x.t)):=zq (by rw[dK];rfl);generalize m.A=mA at*;generalize m.cap=kL at*;have Oy:=zq hes;have HN1:=zq pG;have Qe:=zq G5;have qM:=hes.le;have Vy:=hes.max;have hkb:kn<=3:=by rw[pG];unfold bQ;split<;>(try split)<;>(try split)<;>omega
  have sN:=HB.out;rw[hk]at sN;have sN:=zq sN;clear dK hR pG G5 hes hk hf;go_enter func159,ntmps159;go_wp2
  go_loopw [8,38] (λkv iv wr=>∃(A1:Option Addr) (n1 cap1 j:Nat) (ks:List Int),kv=.slice A1 n1 cap1/\iv=↑j/\j<=kn/\Hid (n1=j/\ks.length=j)/\Hid (KSt w0 (.slice A1 n1 cap1) ks wr)/\Hid (R=xKindsGo m.s ks ((m.kids.drop j).map λx=>xKind cols x.t))) (λ_ iv _=>kn-(intOf iv).toNat)
  case atStart=>exact⟨none,0,0,0,[],rfl,rfl,awJ _,zq ⟨rfl,rfl⟩,zq ⟨Ow.nil_ _,Ev.refl _⟩,HK⟩
  case round=>
   obtain⟨A1,n1,cap1,j,ks,rfl,rfl,hj,HN,HS,HR⟩:=hrel;obtain⟨⟨c0,c1,c2,c3⟩,_⟩:=(sN.out.ev HS.out.ev).four;have jy:=zq (HE.out.trans HS.out.ev);by_cases hlt:j<kn
   ·obtain⟨x,hx⟩:=Oy.out.at hlt;obtain⟨b,off,rfl,hb,x0,x1,x2,x3⟩:=Es.cell (Oy.out.ev jy.out) hx;have gJ:=awG hx;have hdj:m.kids.drop j=x::m.kids.drop (j+1):=by obtain⟨hj',e⟩:=awz.1 hx;rw[axt hj',e]
    have gG:=HR.out;rw[hdj,awI]at gG;unfold xKindsGo at gG;have HI:=λw1 (hE:Ev w w1)=>lM.out x b0 w1 A n cap cols (by have:=M.jY gJ;have:=HD.out;omega) ((HL.out.kid x gJ).ev hE) (HC.out.ev hE) (HKR.out x gJ);generalize xKind cols x.t=rx at*;obtain⟨rk,rw_⟩:=rx;simp only at HI gG;unfold xZ M.kv at HI;unfold M.kv at x3;have HI:=zq HI;have i1:(0:Int)<=(j:Int):=ae;have i2:(j:Int)<(kn:Int):=ae;have wF:=HN;obtain⟨pG,BM⟩:=HN.out;subst pG;have zJ:=zq BM;clear hx gJ hdj BM HN;by_cases hw:rw_=0
    ·subst hw;simp only[axe,aw4]at gG;have jF:=zq gG;clear gG
     go_wp2_with (first
      | ((with_reducible refine(HI.out _ (jy.out.trans (Ev.alloc wr _))).mono ?_);rintro e w1 ⟨rfl,aN⟩;have E1:=zq ((Ev.alloc wr _).trans aN))
      | ((show wpList _ _ _ (⟨some 54,_,_,_,_,_⟩::_) _ _);refine aO (o:=⟨some 54,_,_,_,_,_⟩) rfl 88 (.tmp 51) (.tmp 53) rfl encI underlying88 Tryz.XN rfl rfl (HS.out.own.ev (E1.out.trans (Ev.alloc w1 _))) ↑w1 1 1 [rk] rfl (Sl.one encI w1 rk _ rfl) (by rw[zJ.out];simp;omega) (by rw[zJ.out];simp;omega) ((HS.out.ev.trans E1.out).trans (Ev.alloc w1 _)).size ?_;intro v2 w2 dY;have E2:Ev w0 w2:=((But.aW ((HS.out.ev.trans E1.out).trans (Ev.alloc w1 _))).then dY.2.1).ev (λk hk=>(HS.out.own.lt (aG.1 hk)).1);obtain⟨A2,cap2,rfl,_,_⟩:=dY.1.form encI;generalize BO:(ks++[rk]).length=nn at dY|-;have Dh:=zq BO.symm;clear BO))
     exact aAs
    have Nk:(rw_==0)=false:=awy.2 hw;have hwn:(rw_ !=0)=true:=by simp[hw]
    rw[Nk]at gG;simp only[awP,aw7]at gG;have jF:=zq gG;clear gG
    go_wp2_with (first
     | ((with_reducible refine(HI.out _ (jy.out.trans (Ev.alloc wr _))).mono ?_);rintro e w1 ⟨rfl,aN⟩;have E1:=zq ((Ev.alloc wr _).trans aN)))
    go_ret2
    exact⟨by rw[jF.out];rfl,jy.out.trans E1.out⟩
   have hjk:j=kn:=ae;have i2:¬((j:Int)<(kn:Int)):=ae;have gG:=HR.out;rw[hjk,mg.out,List.drop_length]at gG;simp only[awY,xKindsGo]at gG;obtain⟨pG,BM⟩:=HN.out;obtain⟨_,aj7,hvS,t_,_⟩:=HS.out.own.form encI;injection hvS with Jy hv2 hv3
   subst Jy hv3;have hl:ks.length=bQ m.s:=by rw[BM,hjk,HN1.out]
   have HAP:=λw1 (hE:Ev wr w1)=>VM m.s w1 (t_.ev hE) hl Qe.out;rw[<-hv2]at HAP;unfold aY at HAP;rw[<-gG]at HAP;have HAP:=zq HAP;clear gG pG BM hv2 t_ hl hjk HN
   go_wp2_with (first|((with_reducible refine(HAP.out _ aK).mono ?_);rintro e w1 ⟨rfl,aN⟩))
   go_ret2
   exact⟨rfl,jy.out.trans aN⟩
theorem aeF(m:M)(b0:Nat)(w:ak)(A:Option Addr)(n cap:Nat)(cols:List C)(hL:Lx b0 [] w m)(hC:Cs w A n cap cols)(hsz:m.t.size<=16000)(hf:m.t.every (λt=>decide (t.s.length<=1000000))=true):
  Calls ax 119 #[xZ m,.slice A n cap] w λe w'=>e=.returned (.tuple #[.int .i64 (xType cols m.t).1,.int .i64 (xType cols m.t).2])/\Ev w w':=by
 have HR:=λw1 (hE:Ev w w1)=>JY m b0 w1 (hL.ev hE) hsz hf;have HK:=λw1 (hE:Ev w w1) (hr:dX m.t=true)=>aeD m.dep m b0 w1 A n cap cols (awC _) (hL.ev hE) (hC.ev hE) hr;have aV:=Ev.alloc w (.cells #[↑m.kind,↑m.s,↑m.n,m.kv] 47);have hB:=Bx.new 47 #[↑m.kind,↑m.s,↑m.n,m.kv] w;obtain⟨w0,hw0⟩:∃w0,w.alloc (.cells #[↑m.kind,↑m.s,↑m.n,m.kv] 47)=w0:=⟨_,rfl⟩
 rw[hw0]at aV hB;have HE:=zq aV;have HB:=zq hB;obtain⟨⟨c0,c1,c2,c3⟩,_⟩:=hB.four;unfold xType;generalize xKind cols m.t=rk at*;obtain⟨k,y⟩:=rk;unfold xZ at*;unfold M.kv at*;simp only at HK;clear hL hC hsz hf aV hB
 cases hr:dX m.t with
 | false=>
  rw[hr]at HR;have HR:=zq HR;clear HK hr;simp only[awP,aw7];go_enter func119,ntmps119
  go_wp2_with (first|((with_reducible refine(HR.out _ HE.out).mono ?_);rintro e w1 ⟨rfl,aN⟩))
  go_ret2
  exact⟨rfl,HE.out.trans aN⟩
 | true=>
  rw[hr]at HR;have HR:=zq HR;have HK:=zq (λw1 hE=>HK w1 hE hr);clear hr;simp only[aw4];go_enter func119,ntmps119
  go_wp2_with (first|((with_reducible refine(HR.out _ HE.out).mono ?_);rintro e w1 ⟨rfl,aN⟩;obtain⟨⟨c0,c1,c2,c3⟩,_⟩:=(HB.out.ev aN).four)|((with_reducible refine(HK.out _ (HE.out.trans aN)).mono ?_);rintro e w2 ⟨rfl,bM⟩))
  go_ret2
  exact⟨rfl,(HE.out.trans aN).trans bM⟩
def dh(t:T):Bool:=decide (zW t.n)&&decide (t.s.length<=100000)
theorem SY{s:By}(h:bQ s≠0)(hi:(s==JP)=false):(P5 s||P6 s)=true/\(bQ s=1∨bQ s=2):=by
 unfold bQ at*
 cases h2:P5 s
 cases h1:P6 s
 rw[h2,h1,hi]at h;exact absurd rfl h;exact⟨rfl,.inl rfl⟩;exact⟨rfl,.inr rfl⟩
end Go.Proofs.YtpbfokkocaemlaaGreatDoor
