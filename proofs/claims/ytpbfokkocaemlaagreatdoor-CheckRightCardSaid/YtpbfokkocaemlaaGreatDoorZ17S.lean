import Derived.Test.YtpbfokkocaemlaaGreatDoorZ15S
import Derived.Test.YtpbfokkocaemlaaGreatDoorZ9S
set_option linter.unusedVariables false
set_option maxRecDepth 100000
set_option maxHeartbeats 64000000
namespace Go.Proofs.YtpbfokkocaemlaaGreatDoor
open Go.RowKit
open Go.Lib renaming hid → zq
theorem Bx.three {T:TypeId} {g:Nat} {w:World} {v0 v1 v2:Value} (h:Bx T g #[v0,v1,v2] w):(w.cell? ⟨g,0,none⟩=some v0∧w.cell? ⟨g,1,none⟩=some v1∧w.cell? ⟨g,2,none⟩=some v2)∧
  (w.frozen? ⟨g,0,none⟩=false∧w.frozen? ⟨g,1,none⟩=false∧w.frozen? ⟨g,2,none⟩=false):=
 ⟨⟨h.cell 0,h.cell 1,h.cell 2⟩,h.frozen 0,h.frozen 1,h.frozen 2⟩
def wP (g:Nat) (v0 v1 v2:Value) (w:World):World:=((w.setCell ⟨g,0,none⟩ v0).setCell ⟨g,1,none⟩ v1).setCell ⟨g,2,none⟩ v2
theorem cO (g:Nat) (v0 v1 v2:Value) (w:World):((w.setCell ⟨g,0,none⟩ v0).setCell ⟨g,1,none⟩ v1).setCell ⟨g,2,none⟩ v2=wP g v0 v1 v2 w:=rfl
theorem tY (g:Nat) (v0 v1 v2:Value) (w:World):But [g] w (wP g v0 v1 v2 w):=
 ((But.setCell ⟨g,0,none⟩ _ (by simp)).then (But.setCell ⟨g,1,none⟩ _ (by simp))).then (But.setCell ⟨g,2,none⟩ _ (by simp))
theorem Bx.wP {T:TypeId} {g:Nat} {w:World} {u0 u1 u2:Value} (h:Bx T g #[u0,u1,u2] w) (v0 v1 v2:Value):Bx T g #[v0,v1,v2] (wP g v0 v1 v2 w):=by have:=((h.set 0 v0).set 1 v1).set 2 v2;rw[show ((((#[u0,u1,u2]:Array Value).setIfInBounds 0 v0).setIfInBounds 1 v1).setIfInBounds 2 v2)=#[v0,v1,v2] by simp]at this;exact this
def yL (n:Int):Prop:=-9223372036854775808≤n∧n≤9223372036854775807
instance (n:Int):Decidable (yL n):=by unfold yL;infer_instance
theorem Fp {s:By} (h:¬(s=zS)∧¬(s=zT)∧¬(s=zU)∧¬(s=SL)∧¬(s=SN)∧¬(s=zV)∧¬(s=SQ)∧¬(s=zW)∧¬(s=zX)∧¬(s=zY)∧¬(s=zZ)∧¬(s=Lh)):bC s=0:=by obtain⟨h0,h1,h2,h3,h4,h5,h6,h7,h8,h9,h10,h11⟩:=h;unfold bC Ob Oc;simp[h0,h1,h2,h3,h4,h5,h6,h7,h8,h9,h10,h11]
theorem ayk {P:Prop} (h:P:=by go_enter Tryz.func194,Tryz.ntmps194;go_wp2;go_ret;exact⟨rfl,rfl⟩):P:=h
theorem Fq (s:By) (w:World):Calls Tryz.prog 194 #[.string (dh s)] w fun e w'=>e=.returned (.int .i64 (bC s:Int))∧w=w':=by unfold dh;by_cases hAdd:s=zS;subst hAdd;unfold zS;rw[show bC [97,100,100]=2 from rfl];exact ayk;by_cases hSub:s=zT;subst hSub;unfold zT;rw[show bC [115,117,98]=2 from rfl];exact ayk;by_cases hMul:s=zU;subst hMul;unfold zU;rw[show bC [109,117,108]=2 from rfl];exact ayk;by_cases hEq:s=SL;subst hEq;unfold SL;rw[show bC [101,113]=2 from rfl];exact ayk;by_cases hLt:s=SN;subst hLt;unfold SN;rw[show bC [108,116]=2 from rfl];exact ayk;by_cases hAnd:s=zV;subst hAnd;unfold zV;rw[show bC [97,110,100]=2 from rfl];exact ayk;by_cases hOr:s=SQ;subst hOr;unfold SQ;rw[show bC [111,114]=2 from rfl];exact ayk;by_cases TV:s=zW;subst TV;unfold zW;rw[show bC [99,97,116]=2 from rfl];exact ayk;by_cases TW:s=zX;subst TW;unfold zX;rw[show bC [110,101,103]=1 from rfl];exact ayk;by_cases TY:s=zY;subst TY;unfold zY;rw[show bC [110,111,116]=1 from rfl];exact ayk;by_cases hLen:s=zZ;subst hLen;unfold zZ;rw[show bC [108,101,110]=1 from rfl];exact ayk;by_cases hIf:s=Lh;subst hIf;unfold Lh;rw[show bC [105,102]=3 from rfl];exact ayk;rw[Fp ⟨hAdd,hSub,hMul,hEq,hLt,hAnd,hOr,TV,TW,TY,hLen,hIf⟩];have ajO:(s==zS)=false:=atp.2 hAdd;have ajP:(s==zT)=false:=atp.2 hSub;have ajQ:(s==zU)=false:=atp.2 hMul;have gEq:(s==SL)=false:=atp.2 hEq;have gLt:(s==SN)=false:=atp.2 hLt;have ajR:(s==zV)=false:=atp.2 hAnd;have gOr:(s==SQ)=false:=atp.2 hOr;have ajS:(s==zW)=false:=atp.2 TV;have ajT:(s==zX)=false:=atp.2 TW;have ajU:(s==zY)=false:=atp.2 TY;have ajV:(s==zZ)=false:=atp.2 hLen;have gIf:(s==Lh)=false:=atp.2 hIf;unfold zS zT zU SL SN zV SQ zW zX zY zZ Lh at*;exact ayk
theorem ayl {P:Prop} (h:P:=by go_enter Tryz.func124,Tryz.ntmps124;go_wp2;go_ret;exact⟨rfl,rfl⟩):P:=h
theorem Qu (s:By) (w:World):Calls Tryz.prog 124 #[.string (dh s)] w fun e w'=>e=.returned (.int .i64 (bC s:Int))∧w=w':=by unfold dh;by_cases hAdd:s=zS;subst hAdd;unfold zS;rw[show bC [97,100,100]=2 from rfl];exact ayl;by_cases hSub:s=zT;subst hSub;unfold zT;rw[show bC [115,117,98]=2 from rfl];exact ayl;by_cases hMul:s=zU;subst hMul;unfold zU;rw[show bC [109,117,108]=2 from rfl];exact ayl;by_cases hEq:s=SL;subst hEq;unfold SL;rw[show bC [101,113]=2 from rfl];exact ayl;by_cases hLt:s=SN;subst hLt;unfold SN;rw[show bC [108,116]=2 from rfl];exact ayl;by_cases hAnd:s=zV;subst hAnd;unfold zV;rw[show bC [97,110,100]=2 from rfl];exact ayl;by_cases hOr:s=SQ;subst hOr;unfold SQ;rw[show bC [111,114]=2 from rfl];exact ayl;by_cases TV:s=zW;subst TV;unfold zW;rw[show bC [99,97,116]=2 from rfl];exact ayl;by_cases TW:s=zX;subst TW;unfold zX;rw[show bC [110,101,103]=1 from rfl];exact ayl;by_cases TY:s=zY;subst TY;unfold zY;rw[show bC [110,111,116]=1 from rfl];exact ayl;by_cases hLen:s=zZ;subst hLen;unfold zZ;rw[show bC [108,101,110]=1 from rfl];exact ayl;by_cases hIf:s=Lh;subst hIf;unfold Lh;rw[show bC [105,102]=3 from rfl];exact ayl;rw[Fp ⟨hAdd,hSub,hMul,hEq,hLt,hAnd,hOr,TV,TW,TY,hLen,hIf⟩];have ajO:(s==zS)=false:=atp.2 hAdd;have ajP:(s==zT)=false:=atp.2 hSub;have ajQ:(s==zU)=false:=atp.2 hMul;have gEq:(s==SL)=false:=atp.2 hEq;have gLt:(s==SN)=false:=atp.2 hLt;have ajR:(s==zV)=false:=atp.2 hAnd;have gOr:(s==SQ)=false:=atp.2 hOr;have ajS:(s==zW)=false:=atp.2 TV;have ajT:(s==zX)=false:=atp.2 TW;have ajU:(s==zY)=false:=atp.2 TY;have ajV:(s==zZ)=false:=atp.2 hLen;have gIf:(s==Lh)=false:=atp.2 hIf;unfold zS zT zU SL SN zV SQ zW zX zY zZ Lh at*;exact ayl
def gK (k:Int) (s:By) (n:Int) (n1:Nat):Bool:=
 if k==1 then !jh s||!(n==0)||decide (0<n1)
 else if k==2 then !s.isEmpty||decide (0<n1)
 else if k==3 then !(n==0)||decide (0<n1)
 else if k==4 then bC s==0||!(n==0)||!(n1==bC s)
 else true
theorem Bg (m:M):kT m.t=gK m.kind m.s m.n m.kids.length:=by
 unfold kT gK;rw[M.vW,M.tu,M.t_n,M.aY,atq];have:(!(m.kids.map M.t).isEmpty)=decide (0<m.kids.length):=by cases m.kids<;>simp
 rw[this]
theorem abE (m:M) (w:World):Calls Tryz.prog 173 #[zA m] w fun e w'=>e=.returned m.kv∧Ev w w':=by unfold zA M.kv;go_enter Tryz.func173,Tryz.ntmps173;go_wp2;go_ret;exact⟨rfl,Ev.alloc _ _⟩
theorem awF {P:Prop} (h:P:=by
 go_enter Tryz.func175,Tryz.ntmps175
 go_wp2_with (first|((with_reducible refine (HNm.out _).mono ?_);rintro e w1 ⟨rfl,aH⟩;have E1:=HE.out.trans aH;obtain⟨⟨c0,c1,c2,c3⟩,_⟩:=(HB.out.ev aH).four))
 go_ret;exact⟨by simp[h1],E1⟩):P:=h
theorem awf {P:Prop} (h:P:=by
 by_cases h1:0<n1
 ·have i1:(0:Int)<(n1:Int):=by omega
  go_enter Tryz.func175,Tryz.ntmps175;go_wp2;go_ret;exact⟨by first|rfl|simp[h1],HE.out⟩
 have i1:¬((0:Int)<(n1:Int)):=by omega
 go_enter Tryz.func175,Tryz.ntmps175;go_wp2;go_ret;exact⟨by first|rfl|simp[h1],HE.out⟩):P:=h
theorem awI {P:Prop} (h:P:=by
 go_enter Tryz.func175,Tryz.ntmps175;go_wp2
 go_quiet (first|(go_at_call 194;exact Calls.quiet_of_same ((HO.out _).mono fun _ _ h=>⟨h.1,h.2.symm⟩)))
 all_goals (go_wp2;go_ret;exact⟨by first|rfl|simp,HE.out.trans (Ev.drewN _ _)⟩)):P:=h
theorem Og (k:Int) (s:By) (n:Int) (A:Option Addr) (n1 cap:Nat) (w:World) (hs:s.length≤1000000) (qF:n1≤1000000):
  Calls Tryz.prog 175 #[.agg #[.int .i64 k,.string ⟨s.toArray⟩,.int .i64 n,.slice A n1 cap]] w fun e w'=>e=.returned (.bool (gK k s n n1))∧Ev w w':=by
 have HNm:=fun w1=>wO (dh s) w1;have HO:=zq (fun w1=>Fq s w1);have hE:=Ev.alloc w (.cells #[.int .i64 k,.string ⟨s.toArray⟩,.int .i64 n,.slice A n1 cap] 47);have hB:=Bx.new 47 #[.int .i64 k,.string ⟨s.toArray⟩,.int .i64 n,.slice A n1 cap] w;obtain⟨w0,hw0⟩:∃w0,w.alloc (.cells #[.int .i64 k,.string ⟨s.toArray⟩,.int .i64 n,.slice A n1 cap] 47)=w0:=⟨_,rfl⟩
 rw[hw0]at hE hB;obtain⟨⟨c0,c1,c2,c3⟩,_⟩:=hB.four;have HB:=zq hB;have HE:=zq hE;clear hB hE;unfold dh at HNm HO;by_cases k1:k=1
 ·subst k1;unfold gK;simp only[auc,if_true];rw[show jh s=fM ⟨s.toArray⟩ from rfl];generalize fM ⟨s.toArray⟩=y at*;have HNm:=zq HNm
  cases y with
  | false=>
   go_enter Tryz.func175,Tryz.ntmps175
   go_wp2_with (first|((with_reducible refine (HNm.out _).mono ?_);rintro e w1 ⟨rfl,aH⟩;have E1:=HE.out.trans aH))
   go_ret;exact⟨rfl,E1⟩
  | true=>
   by_cases h0:n=0;subst h0;by_cases h1:0<n1;have i1:(0:Int)<(n1:Int):=by omega
   exact awF;have i1:¬((0:Int)<(n1:Int)):=by omega
   exact awF;have h0':(n==0)=false:=atp.2 h0;have h0n:(n !=0)=true:=by simp[h0]
   go_enter Tryz.func175,Tryz.ntmps175
   go_wp2_with (first|((with_reducible refine (HNm.out _).mono ?_);rintro e w1 ⟨rfl,aH⟩;have E1:=HE.out.trans aH;obtain⟨⟨c0,c1,c2,c3⟩,_⟩:=(HB.out.ev aH).four))
   go_ret;exact⟨by simp[h0],E1⟩
 have k1':(k==1)=false:=atp.2 k1;by_cases k2:k=2
 ·subst k2;unfold gK;simp only[k1',auc,if_true,atE,if_false]
  cases hse:s with
  | nil=>
   rw[hse]at c1 hw0;exact awf
  | cons x q=>
   rw[hse]at c1 hw0;go_enter Tryz.func175,Tryz.ntmps175;go_wp2;go_ret;exact⟨rfl,HE.out⟩
 have k2':(k==2)=false:=atp.2 k2;by_cases k3:k=3
 ·subst k3;unfold gK;simp only[k1',k2',auc,if_true,atE,if_false];by_cases h0:n=0;subst h0;exact awf;have h0':(n==0)=false:=atp.2 h0;have h0n:(n !=0)=true:=by simp[h0]
  go_enter Tryz.func175,Tryz.ntmps175;go_wp2;go_ret;exact⟨by simp[h0],HE.out⟩
 have Yh:(k==3)=false:=atp.2 k3;by_cases k4:k=4
 ·subst k4;unfold gK;simp only[k1',k2',Yh,auc,if_true,atE,if_false];obtain⟨t,ht⟩:∃t,t=bC s:=⟨_,rfl⟩
  rw[←ht]at HO⊢;clear ht
  cases t with
  | zero=>
    rw[show ((0:Nat):Int)=0 from rfl]at HO;exact awI
  | succ t=>
   have e1:¬(((t+1:Nat):Int)=0):=by omega
   have e1':(((t:Int)+1)==0)=false:=by simp;omega
   have e1n:¬((t:Int)+1=0):=by omega
   by_cases h0:n=0
   ·subst h0;by_cases h1:n1=t+1;subst h1;exact awI;have h1':¬((n1:Int)=(t:Int)+1):=by omega
    have h1n:((n1:Int) !=(t:Int)+1)=true:=by simp;omega
    go_enter Tryz.func175,Tryz.ntmps175;go_wp2
    go_quiet (first|(go_at_call 194;exact Calls.quiet_of_same ((HO.out _).mono fun _ _ h=>⟨h.1,h.2.symm⟩)))
    all_goals (go_wp2;go_ret;exact⟨by first|rfl|simp[h1],HE.out.trans (Ev.drewN _ _)⟩)
   have h0':(n==0)=false:=atp.2 h0;have h0n:(n !=0)=true:=by simp[h0]
   go_enter Tryz.func175,Tryz.ntmps175;go_wp2
   go_quiet (first|(go_at_call 194;exact Calls.quiet_of_same ((HO.out _).mono fun _ _ h=>⟨h.1,h.2.symm⟩)))
   all_goals (go_wp2;go_ret;exact⟨by first|rfl|simp[h0],HE.out.trans (Ev.drewN _ _)⟩)
 have k4':(k==4)=false:=atp.2 k4;unfold gK;simp only[k1',k2',Yh,k4',atE,if_false];go_enter Tryz.func175,Tryz.ntmps175;go_wp2;go_ret;exact⟨rfl,HE.out⟩
mutual
def T.every (p:T→Bool):T→Bool
 | .mk k s n l q=>p (.mk k s n l q)&&T.everys p l
def T.everys (p:T→Bool):List T→Bool
 | []=>true
 | t::l=>t.every p&&T.everys p l
end
theorem T.Bh (p:T→Bool):∀l:List T,T.everys p l=l.all (T.every p)
 | []=>rfl
 | t::l=>by simp[T.everys,T.Bh p l]
theorem T.fQ (p:T→Bool) (t:T):t.every p=(p t&&t.kids.all (T.every p)):=by
 cases t
 rw[T.every,T.Bh];rfl
theorem T.size_eq (t:T):t.size=(t.kids.map T.size).sum+1:=by
 cases t
 rw[T.size,T.pM];rfl
mutual
theorem sG:∀t:T,dK t=t.every fun x=>!kT x
 | .mk k s n l q=>by rw[dK,T.every,Am l]
theorem Am:∀l:List T,qJ l=T.everys (fun x=>!kT x) l
 | []=>rfl
 | t::l=>by rw[qJ,T.everys,sG t,Am l]
end
theorem T.size_pos (t:T):1≤t.size:=by rw[T.size_eq];omega
theorem jA:∀l:List T,l.length≤(l.map T.size).sum
 | []=>by simp
 | t::l=>by have:=jA l;have:=T.size_pos t;simp;omega
theorem W9:∀l:List T,l.length≤T.sizes l:=fun l=>by rw[T.pM];exact jA l
mutual
theorem Fv (N:Nat):∀t:T,t.size≤N→t.every (fun x=>decide (x.kids.length≤N))=true
 | .mk k s n l q,h=>by rw[T.size]at h;have:=W9 l;rw[T.every,CS N l (by omega)];show (decide (l.length≤N)&&true)=true;rw[atX (by omega)];rfl
theorem CS (N:Nat):∀l:List T,T.sizes l≤N→T.everys (fun x=>decide (x.kids.length≤N)) l=true
 | [],_=>rfl
 | t::l,h=>by rw[T.sizes]at h;rw[T.everys,Fv N t (by omega),CS N l (by omega)];rfl
end
abbrev Iy:Value:=.func (.func 175) #[] #[]
abbrev agr:Value:=.func (.func 173) #[] #[]
def Fair (m:M):Prop:=m.s.length≤1000000∧m.kids.length≤1000000
def oz (m:M):Bool:=kT m.t
theorem TZ (m:M) (hF:Fair m) (w:World):Calls Tryz.prog 175 #[zA m] w fun e w'=>e=.returned (.bool (oz m))∧Ev w w':=by unfold oz;rw[Bg];exact Og m.kind m.s m.n m.A m.kids.length m.cap w hF.1 hF.2
theorem Oh {A:Option Addr} {n cap:Nat} {Z:List M} (w:World) (h:Es w A n cap Z) (hf:∀z∈Z,Fair z):
  Calls Tryz.prog 193 #[.slice A n cap,Iy] w fun e w'=>(∃i:Int,e=.returned (.int .i64 i)∧(decide (0≤i)=Z.any oz))∧Ev w w':=by
 have hn:=h.le;have hm:=h.max;have HN:=zq h.len;have HF0:=zq hf;clear hf;go_enter Tryz.func193,Tryz.ntmps193;go_wp2
 go_loopw [8] (fun i wr=>∃k:Nat,k≤n∧i=.int .i64 (k:Int)∧Hid ((Z.take k).any oz=false)∧Ev w wr) (fun i _=>n - (intOf i).toNat)
 case atStart=>exact⟨0,atG _,rfl,zq rfl,Ev.refl _⟩
 case round=>
  obtain⟨k,hk,rfl,HF,hE⟩:=hrel;by_cases hlt:k<n
  ·obtain⟨z,hx⟩:=h.at hlt;obtain⟨b,off,rfl,hb,c0,c1,c2,c3⟩:=Es.cell (h.ev hE) hx;have HI:=fun w1=>TZ z (HF0.out z (atw hx)) w1;have HX:=zq hx;clear hx;generalize hz:oz z=y at HI;have HZ:=zq hz;clear hz;unfold zA M.kv at HI;unfold M.kv at c3;have HI:=zq HI;have i1:(0:Int)≤(k:Int):=by omega
   have i2:(k:Int)<(n:Int):=by omega
   cases y
   ·go_wp2_with (first|((with_reducible refine (HI.out _).mono ?_);rintro e w1 ⟨rfl,aH⟩))
    go_roundw
    case rel=>
     refine⟨k+1,by omega,by go_num,zq ?_,hE.trans aH⟩;obtain⟨hk2,e⟩:=atr.1 HX.out;rw[atD hk2,List.any_append,HF.out,e];simp[HZ.out]
    case measure=>simp[intOf];omega
   go_wp2_with (first|((with_reducible refine (HI.out _).mono ?_);rintro e w1 ⟨rfl,aH⟩))
   go_ret;refine⟨⟨k,rfl,?_⟩,hE.trans aH⟩;rw[atX i1];exact (auM.2 ⟨_,atw HX.out,HZ.out⟩).symm
  obtain rfl:k=n:=by omega
  go_wp2;go_ret;refine⟨⟨-1,rfl,?_⟩,hE⟩;have:=HF.out;rw[atJ (by rw[HN.out];exact att _)]at this;rw[this];rfl
theorem Gu {A:Option Addr} {n cap:Nat} {Z:List M} (w:World) (h:Es w A n cap Z) (hf:∀z∈Z,Fair z):
  Calls Tryz.prog 174 #[.slice A n cap,Iy] w fun e w'=>e=.returned (.bool (Z.any oz))∧Ev w w':=by
 have HI:=zq (Oh w h hf);generalize Z.any oz=y at*;clear hf;go_enter Tryz.func174,Tryz.ntmps174
 go_wp2_with (first|((with_reducible refine HI.out.mono ?_);rintro e w1 ⟨⟨i,rfl,rfl⟩,aH⟩))
 go_ret;exact⟨rfl,aH⟩
theorem Tryz.yM:(Tryz.prog.info? 47).map (fun i=>(i.zero,i.size,i.bytes))=some (some (.agg #[.int .i64 0,.string ⟨#[]⟩,.int .i64 0,.slice none 0 0]),4,56):=by kernel_rfl
structure Oi (m:M) (b0:Nat) (w0:World) (v:Value) (L:List M) (i:Nat) (w:World):Prop where
 own:Ow 47 4 ec w0.heap.size w v L
 ev:Ev w0 w
 lies:∀x∈L,Lx b0 [] w0 x
 le:i≤L.length
 size:i+((L.drop i).map fun x=>x.t.size).sum=m.t.size
 all:∀p:T→Bool,(((L.take i).all fun x=>p x.t)&&((L.drop i).all fun x=>x.t.every p))=m.t.every p
theorem Oi.init {m:M} {b0:Nat} {w:World} {v:Value} {w1:World} (hL:Lx b0 [] w m) (hE:Ev w w1) (ho:Ow 47 4 ec w.heap.size w1 v [m]):Oi m b0 w v [m] 0 w1:=
 ⟨ho,hE,fun x hx=>by simp at hx;subst hx;exact hL,by simp,by simp,fun p=>by simp⟩
theorem axb {P:Prop} (h:P:=by have h1:=jA ((L.drop i).map M.t);rw[atq,at1,atI]at h1;have h2:=h.size;have h3:=h.le;have:(T.size ∘ M.t)=(fun x:M=>x.t.size):=rfl;rw[this]at h1;omega):P:=h
theorem Oi.short {m:M} {b0:Nat} {w0 w:World} {v:Value} {L:List M} {i:Nat} (h:Oi m b0 w0 v L i w):L.length≤m.t.size:=by exact axb
theorem Oi.next {m:M} {b0:Nat} {w0 w w':World} {v v':Value} {L:List M} {i:Nat} {x:M} (h:Oi m b0 w0 v L i w) (hx:L[i]?=some x) (ho:Ow 47 4 ec w0.heap.size w' v' (L++x.kids)) (hE:Ev w0 w'):Oi m b0 w0 v' (L++x.kids) (i+1) w':=by
 obtain⟨hi,hxe⟩:=atr.1 hx;have hd:L.drop i=x::L.drop (i+1):=by rw[auu hi,hxe]
 have hd2:(L++x.kids).drop (i+1)=L.drop (i+1)++x.kids:=by rw[List.drop_append_of_le_length hi]
 have Yg:(L++x.kids).take (i+1)=L.take i++[x]:=by rw[List.take_append_of_le_length hi,atD hi,hxe]
 refine⟨ho,hE,fun y hy=>?_,by rw[atv];omega,?_,fun p=>?_⟩;rcases atK.1 hy with h1|h1;exact h.lies y h1;exact (h.lies x (atw hx)).kid y h1;have h1:=h.size;rw[hd]at h1;rw[hd2];have h2:=T.size_eq x.t;rw[M.aY,atI]at h2;have:(T.size ∘ M.t)=(fun x:M=>x.t.size):=rfl;rw[this]at h2;simp only[atB,auL,atx,auo]at h1⊢;omega;have h1:=h.all p;rw[hd]at h1;rw[hd2,Yg,←h1];simp only[auZ,avd,List.all_nil,au8];rw[T.fQ p x.t,M.aY,auI];have:(T.every p ∘ M.t)=(fun x:M=>x.t.every p):=rfl;rw[this]
 cases (L.take i).all (fun x=>p x.t)<;>cases p x.t<;>cases x.kids.all (fun x=>x.t.every p)<;>cases (L.drop (i+1)).all (fun x=>x.t.every p)<;>rfl
theorem axS {P:Prop} (h:P:=by
 go_roundw
 case rel=>exact⟨A2,nn,cap2,i+1,_,rfl,by go_num,En.out,zq S2⟩
 case measure=>simp[intOf];omega):P:=h
theorem YY (m:M) (b0:Nat) (w:World) (h:Lx b0 [] w m) (hsz:m.t.size≤16000):
  Calls Tryz.prog 172 #[zA m,agr] w fun e w'=>∃(A:Option Addr) (n cap:Nat) (L:List M),e=.returned (.tuple #[.slice A n cap,.bool true])∧Es w' A n cap L∧
   (∀x∈L,Lx b0 [] w x)∧(∀p:T→Bool,(L.all fun x=>p x.t)=m.t.every p)∧n≤16000∧Ev w w':=by
 have aT:=(Ev.alloc w (.cells #[.int .i64 m.kind,.string ⟨m.s.toArray⟩,.int .i64 m.n,m.kv] 47)).trans (Ev.alloc _ (.cells #[.int .i64 m.kind,.string ⟨m.s.toArray⟩,.int .i64 m.n,m.kv] 47));have hP:=Oi.init (v:=.slice (some ⟨w.heap.size+1,0,none⟩) 1 1) h aT (by
  have:=Ow.made (et:=47) (base:=w.heap.size) wM (w.alloc (.cells #[.int .i64 m.kind,.string ⟨m.s.toArray⟩,.int .i64 m.n,m.kv] 47)) [m] #[.int .i64 m.kind,.string ⟨m.s.toArray⟩,.int .i64 m.n,m.kv] rfl (by simp) (by simp);simpa using this)
 have HP:=zq hP;have HK:=zq (fun x w1=>abE x w1);clear hP aT;unfold zA;unfold M.kv at*;go_enter Tryz.func172,Tryz.ntmps172;go_wp2
 go_loopw [6,7] (fun av iv wr=>∃(A:Option Addr) (n cap i:Nat) (L:List M),av=.slice A n cap∧iv=.int .i64 (i:Int)∧n=L.length∧Hid (Oi m b0 w (.slice A n cap) L i wr)) (fun _ iv _=>m.t.size - (intOf iv).toNat)
 case atStart=>exact⟨_,1,1,0,[m],rfl,rfl,rfl,HP⟩
 case round=>
  obtain⟨A,n,cap,i,L,rfl,rfl,hn,HS⟩:=hrel;have hns:=HS.out.short;rw[←hn]at hns;have iQ:=zq hn;clear hn;obtain⟨_,cap',Yf,oZ,hA⟩:=HS.out.own.form wM;injection Yf with h1 h2 h3
  subst h1;subst h3;clear h2;rw[←iQ.out]at oZ;have yI:=oZ.le;have hcm:=oZ.max;by_cases hi:i<n
  ·obtain⟨x,hx⟩:=oZ.at hi;obtain⟨b,off,rfl,hb,c0,c1,c2,c3⟩:=Es.cell oZ hx;have HX:=zq hx;have SS:=HS.out.lies x (atw hx);have hEs:=SS.es;have Gp:x.kids.length+n≤m.t.size:=by
    have h4:=HS.out.size;have hd:L.drop i=x::L.drop (i+1):=by obtain⟨hi',e⟩:=atr.1 hx;rw[auu hi',e]
    rw[hd]at h4;have h5:=T.size_eq x.t;rw[M.aY,atI]at h5;have h6:=jA (x.kids.map M.t);rw[atq,atI]at h6;have h7:=jA ((L.drop (i+1)).map M.t);rw[atq,atI,at1,←iQ.out]at h7;have:(T.size ∘ M.t)=(fun x:M=>x.t.size):=rfl;rw[this]at h5 h6 h7;simp only[atx,auo]at h4;omega
   have HEs:=zq hEs;have HKx:=HK.out x;unfold zA M.kv at HKx;unfold M.kv at c3;have HKx:=zq HKx;obtain⟨kn,hkn⟩:∃kn,kn=x.kids.length:=⟨_,rfl⟩
   rw[←hkn]at HKx HEs c3 Gp;have lJ:=zq hkn;have i1:(0:Int)≤(i:Int):=by omega
   have i2:(i:Int)<(n:Int):=by omega
   have i3:¬((16384:Int) - (n:Int)<(kn:Int)):=by omega
   have ajW:=yI;clear hx hEs hkn SS hA oZ ajW hb
   go_wp2_with (first
    | ((with_reducible refine (HKx.out _).mono ?_);rintro e w1 ⟨rfl,aH⟩)
    | ((show wpList _ _ _ (⟨some 31,_,_,_,_,_⟩::_) _ _);refine aK (o:=⟨some 31,_,_,_,_,_⟩) rfl 28 (.tmp 29) (.tmp 30) rfl wM Tryz.underlying28 Tryz.yM rfl rfl (HS.out.own.ev aH) x.A kn x.cap x.kids rfl (HEs.out.ev (HS.out.ev.trans aH)) (by rw[←lJ.out,←iQ.out];omega) (by rw[←lJ.out,←iQ.out];omega) (HS.out.ev.trans aH).size ?_;intro v2 w2 gz;have E2:=((But.aS (HS.out.ev.trans aH)).then gz.2.1).ev (fun k hk=>(HS.out.own.lt (aB.1 hk)).1);have S2:=HS.out.next HX.out gz.1 E2;obtain⟨A2,cap2,rfl,_,_⟩:=gz.1.form wM;generalize BX:(L++x.kids).length=nn at S2⊢;have En:=zq BX.symm;clear BX))
   exact axS
  have hin:i=L.length:=by have:=HS.out.le;have:=iQ.out;omega
  have i2:¬((i:Int)<(n:Int)):=by omega
  have HIN:=zq hin;clear hin;go_wp2
  go_ret2
  refine⟨_,_,_,rfl,L,oZ,HS.out.lies,fun p=>?_,by omega,HS.out.ev⟩;have:=HS.out.all p;rw[HIN.out,auf,List.drop_length]at this;simpa using this
theorem Iz (m:M) (b0:Nat) (w:World) (h:Lx b0 [] w m) (hsz:m.t.size≤16000) (hf:m.t.every (fun t=>decide (t.s.length≤1000000))=true):
  Calls Tryz.prog 142 #[zA m] w fun e w'=>e=.returned (.bool (dK m.t))∧Ev w w':=by
 have HP:=fun w1 (hE:Ev w w1)=>YY m b0 w1 (h.ev hE) hsz;unfold zA at HP⊢;have HP:=zq HP;have HF:=zq hf;have HR:=zq (sG m.t);have aT:=Ev.alloc w (.cells #[.int .i64 m.kind,.string ⟨m.s.toArray⟩,.int .i64 m.n,m.kv] 47);have HE:=zq aT;obtain⟨R,hR⟩:∃R,R=dK m.t:=⟨_,rfl⟩
 rw[←hR]at HR⊢;unfold M.kv at*;clear hf hR aT;go_enter Tryz.func142,Tryz.ntmps142
 go_wp2_with (first
  | ((with_reducible refine (HP.out _ HE.out).mono ?_);rintro e w1 ⟨A,n,cap,L,rfl,hL,hLs,hall,hn,aH⟩;have hfair:∀z∈L,Fair z:=(by
    intro z hz;have h1:=hall (fun t=>decide (t.s.length≤1000000));rw[HF.out]at h1;have h2:=atL.1 h1 z hz;simp only[decide_eq_true_iff,M.tu]at h2;refine⟨h2,?_⟩;have h3:=hall (fun t=>decide (t.kids.length≤1000000));rw[Fv 1000000 m.t (by omega)]at h3;have h4:=atL.1 h3 z hz;simp only[decide_eq_true_iff,M.aY,atq]at h4;exact h4);have HC:=zq (Gu w1 hL hfair);have HX:Hid (R=!L.any oz):=zq (by
    rw[HR.out,←hall];rw[List.all_eq_not_any_not];simp;rfl);generalize L.any oz=y at*)
  | ((with_reducible refine HC.out.mono ?_);rintro e w2 ⟨rfl,bK⟩))
 go_ret;exact⟨by rw[HX.out];cases y<;>rfl,(HE.out.trans aH).trans bK⟩
theorem Oj {α:Type}:∀{l:List α},l.length=2→∃a b,l=[a,b]
 | [],h=>by simp at h
 | [_],h=>by simp at h
 | [a,b],_=>⟨a,b,rfl⟩
 | _::_::_::_,h=>by simp at h
theorem YZ {α:Type}:∀{l:List α},l.length=3→∃a b c,l=[a,b,c]
 | [],h=>by simp at h
 | [_],h=>by simp at h
 | [_,_],h=>by simp at h
 | [a,b,c],_=>⟨a,b,c,rfl⟩
 | _::_::_::_::_,h=>by simp at h
def ic (n:Int):List Value:=[.int .i64 n]
abbrev Ks:=Sl 1 ic
theorem encI:Enc 1 ic:=⟨by omega,fun _=>rfl,fun x u hu=>by
 simp[ic]at hu;rw[hu];rfl⟩
theorem Ks.cell {w:World} {A:Option Addr} {n cap:Nat} {l:List Int} (h:Ks w A n cap l) {i:Nat} {x:Int} (hx:l[i]?=some x):∃b off,A=some ⟨b,off,none⟩∧b<w.heap.size∧w.cell? ⟨b,off+i,none⟩=some (.int .i64 x):=by have hi:=(atr.1 hx).1;have hl:=h.len;obtain⟨b,off,e,hlt,hc⟩:=h.rd (by omega);have:=hc i x hx 0 _ rfl;rw[avf,atW]at this;exact⟨b,off,e,hlt,this⟩
theorem mG {A:Option Addr} {n cap:Nat} {l:List Int} (k:Int) (w:World) (h:Ks w A n cap l):
  Calls Tryz.prog 198 #[.slice A n cap,.int .i64 k] w fun e w'=>e=.returned (.bool (rG l k))∧w=w':=by
 have hn:=h.le;have hm:=h.max;have HL:=zq h.len;have HC:=zq (fun i x (hx:l[i]?=some x)=>h.cell hx);have HA:=zq (fun i (hi:i<n)=>h.at hi);go_enter Tryz.func198,Tryz.ntmps198;go_wp2
 go_loop [9] (fun iv=>∃j:Nat,iv=.int .i64 (j:Int)∧j≤n∧Hid ((l.take j).all (·==k)=true)) (fun iv=>n - (intOf iv).toNat)
 case atStart=>exact⟨0,rfl,atG _,zq rfl⟩
 case round=>
  obtain⟨j,rfl,hj,HJ⟩:=hrel;by_cases hlt:j<n
  ·obtain⟨x,hx⟩:=HA.out j hlt;obtain⟨b,off,rfl,hb,c0⟩:=HC.out j x hx;have HX:=zq hx;have i1:(0:Int)≤(j:Int):=by omega
   have i2:(j:Int)<(n:Int):=by omega
   clear hx;by_cases hk:x=k
   ·subst hk;go_wp2
    go_round
    case rel=>
     refine⟨j+1,by go_num,by omega,zq ?_⟩;obtain⟨hj2,e⟩:=atr.1 HX.out;rw[atD hj2,auZ,HJ.out,e];simp
    case measure=>simp[intOf];omega
   have hk':(x==k)=false:=atp.2 hk;go_wp2;go_ret;refine⟨?_,rfl⟩;have:rG l k=false:=by unfold rG;rw[List.all_eq_false];exact⟨x,atw HX.out,by simp[hk]⟩
   rw[this];rfl
  have i2:¬((j:Int)<(n:Int)):=by omega
  go_wp2;go_ret;refine⟨?_,rfl⟩;have:=HJ.out;rw[atJ (by rw[HL.out];omega)]at this;unfold rG;rw[this];rfl
theorem Ll {A:Option Addr} {n cap:Nat} {l:List Int} (w:World) (h:Ks w A n cap l) (hl:l.length=2):
  Calls Tryz.prog 185 #[.string (dh zS),.slice A n cap] w fun e w'=>e=.returned (.tuple #[.int .i64 (bH zS l).1,.int .i64 (bH zS l).2])∧Ev w w':=by
 unfold dh zS;have hcm:=h.max;have hle:=h.le;have HA:=fun w1 (hE:Ev w w1)=>mG 1 w1 (h.ev hE);rw[show bH [97,100,100] l=if rG l 1 then (1,0) else (0,22) from rfl];generalize rG l 1=y at*;have HA:=zq HA;clear h hl
 cases y<;>(
  go_enter Tryz.func185,Tryz.ntmps185
  go_wp2_with (first|((with_reducible refine (HA.out _ (Ev.refl _)).mono ?_);rintro e w1 ⟨rfl,rfl⟩))
  go_ret2
  exact⟨rfl,Ev.refl _⟩)
theorem Lm {A:Option Addr} {n cap:Nat} {l:List Int} (w:World) (h:Ks w A n cap l) (hl:l.length=2):
  Calls Tryz.prog 185 #[.string (dh zT),.slice A n cap] w fun e w'=>e=.returned (.tuple #[.int .i64 (bH zT l).1,.int .i64 (bH zT l).2])∧Ev w w':=by
 unfold dh zT;have hcm:=h.max;have hle:=h.le;have HA:=fun w1 (hE:Ev w w1)=>mG 1 w1 (h.ev hE);rw[show bH [115,117,98] l=if rG l 1 then (1,0) else (0,22) from rfl];generalize rG l 1=y at*;have HA:=zq HA;clear h hl
 cases y<;>(
  go_enter Tryz.func185,Tryz.ntmps185
  go_wp2_with (first|((with_reducible refine (HA.out _ (Ev.refl _)).mono ?_);rintro e w1 ⟨rfl,rfl⟩))
  go_ret2
  exact⟨rfl,Ev.refl _⟩)
theorem Lp {A:Option Addr} {n cap:Nat} {l:List Int} (w:World) (h:Ks w A n cap l) (hl:l.length=2):
  Calls Tryz.prog 185 #[.string (dh zU),.slice A n cap] w fun e w'=>e=.returned (.tuple #[.int .i64 (bH zU l).1,.int .i64 (bH zU l).2])∧Ev w w':=by
 unfold dh zU;have hcm:=h.max;have hle:=h.le;have HA:=fun w1 (hE:Ev w w1)=>mG 1 w1 (h.ev hE);rw[show bH [109,117,108] l=if rG l 1 then (1,0) else (0,22) from rfl];generalize rG l 1=y at*;have HA:=zq HA;clear h hl
 cases y<;>(
  go_enter Tryz.func185,Tryz.ntmps185
  go_wp2_with (first|((with_reducible refine (HA.out _ (Ev.refl _)).mono ?_);rintro e w1 ⟨rfl,rfl⟩))
  go_ret2
  exact⟨rfl,Ev.refl _⟩)
theorem axY {P:Prop} (h:P:=by
 go_enter Tryz.func185,Tryz.ntmps185;go_wp2
 go_quiet (fail)
 go_wp2
 go_ret2
 exact⟨rfl,Ev.drewN _ _⟩):P:=h
theorem axQ {P:Prop} (h:P:=by clear hx;exact axY):P:=h
theorem aw9 {P:Prop} (h:P:=by have g:(x0==x1)=true:=atH.2 hx;rw[if_pos g];exact axQ):P:=h
theorem axv {P:Prop} (h:P:=by simp only[atE,if_false];exact axY):P:=h
theorem aw6 {P:Prop} (h:P:=by have g:(x0==x1)=false:=atp.2 hx;rw[g];exact axv):P:=h
theorem Ol {A:Option Addr} {n cap:Nat} {l:List Int} (w:World) (h:Ks w A n cap l) (hl:l.length=2):
  Calls Tryz.prog 185 #[.string (dh SL),.slice A n cap] w fun e w'=>e=.returned (.tuple #[.int .i64 (bH SL l).1,.int .i64 (bH SL l).2])∧Ev w w':=by
 unfold dh SL;have hn:n=2:=by rw[←h.len,hl]
 subst hn;obtain⟨x0,x1,rfl⟩:∃x0 x1,l=[x0,x1]:=by exact Oj hl
 obtain⟨b0,agv,e0,hb0,c0⟩:=h.cell (i:=0) (x:=x0) rfl;obtain⟨b1,agw,e1,hb1,c1⟩:=h.cell (i:=1) (x:=x1) rfl;rw[e0]at e1;injection e1 with e1
 injection e1 with e1a e1b _
 subst e1a;subst e1b;subst e0;simp only[atW]at c0;have hcap:=h.le;clear h hl hb0 hb1;rw[show bH [101,113] [x0,x1]=if x0==x1 then (1,0) else (0,22) from rfl];by_cases hx:x0=x1;exact aw9;exact aw6
theorem Om {A:Option Addr} {n cap:Nat} {l:List Int} (w:World) (h:Ks w A n cap l) (hl:l.length=2):
  Calls Tryz.prog 185 #[.string (dh SN),.slice A n cap] w fun e w'=>e=.returned (.tuple #[.int .i64 (bH SN l).1,.int .i64 (bH SN l).2])∧Ev w w':=by
 unfold dh SN;have hn:n=2:=by rw[←h.len,hl]
 subst hn;obtain⟨x0,x1,rfl⟩:∃x0 x1,l=[x0,x1]:=by exact Oj hl
 obtain⟨b0,agv,e0,hb0,c0⟩:=h.cell (i:=0) (x:=x0) rfl;obtain⟨b1,agw,e1,hb1,c1⟩:=h.cell (i:=1) (x:=x1) rfl;rw[e0]at e1;injection e1 with e1
 injection e1 with e1a e1b _
 subst e1a;subst e1b;subst e0;simp only[atW]at c0;have hcap:=h.le;clear h hl hb0 hb1;rw[show bH [108,116] [x0,x1]=if x0==x1 then (1,0) else (0,22) from rfl];by_cases hx:x0=x1;exact aw9;exact aw6
theorem Lr {A:Option Addr} {n cap:Nat} {l:List Int} (w:World) (h:Ks w A n cap l) (hl:l.length=2):
  Calls Tryz.prog 185 #[.string (dh zV),.slice A n cap] w fun e w'=>e=.returned (.tuple #[.int .i64 (bH zV l).1,.int .i64 (bH zV l).2])∧Ev w w':=by
 unfold dh zV;have hcm:=h.max;have hle:=h.le;have HA:=fun w1 (hE:Ev w w1)=>mG 1 w1 (h.ev hE);rw[show bH [97,110,100] l=if rG l 1 then (1,0) else (0,22) from rfl];generalize rG l 1=y at*;have HA:=zq HA;clear h hl
 cases y<;>(
  go_enter Tryz.func185,Tryz.ntmps185
  go_wp2_with (first|((with_reducible refine (HA.out _ (Ev.refl _)).mono ?_);rintro e w1 ⟨rfl,rfl⟩))
  go_ret2
  exact⟨rfl,Ev.refl _⟩)
theorem Oo {A:Option Addr} {n cap:Nat} {l:List Int} (w:World) (h:Ks w A n cap l) (hl:l.length=2):
  Calls Tryz.prog 185 #[.string (dh SQ),.slice A n cap] w fun e w'=>e=.returned (.tuple #[.int .i64 (bH SQ l).1,.int .i64 (bH SQ l).2])∧Ev w w':=by
 unfold dh SQ;have hcm:=h.max;have hle:=h.le;have HA:=fun w1 (hE:Ev w w1)=>mG 1 w1 (h.ev hE);rw[show bH [111,114] l=if rG l 1 then (1,0) else (0,22) from rfl];generalize rG l 1=y at*;have HA:=zq HA;clear h hl
 cases y<;>(
  go_enter Tryz.func185,Tryz.ntmps185
  go_wp2_with (first|((with_reducible refine (HA.out _ (Ev.refl _)).mono ?_);rintro e w1 ⟨rfl,rfl⟩))
  go_ret2
  exact⟨rfl,Ev.refl _⟩)
theorem Ls {A:Option Addr} {n cap:Nat} {l:List Int} (w:World) (h:Ks w A n cap l) (hl:l.length=2):
  Calls Tryz.prog 185 #[.string (dh zW),.slice A n cap] w fun e w'=>e=.returned (.tuple #[.int .i64 (bH zW l).1,.int .i64 (bH zW l).2])∧Ev w w':=by
 unfold dh zW;have hcm:=h.max;have hle:=h.le;have HA:=fun w1 (hE:Ev w w1)=>mG 2 w1 (h.ev hE);rw[show bH [99,97,116] l=if rG l 2 then (2,0) else (0,22) from rfl];generalize rG l 2=y at*;have HA:=zq HA;clear h hl
 cases y<;>(
  go_enter Tryz.func185,Tryz.ntmps185
  go_wp2_with (first|((with_reducible refine (HA.out _ (Ev.refl _)).mono ?_);rintro e w1 ⟨rfl,rfl⟩))
  go_ret2
  exact⟨rfl,Ev.refl _⟩)
theorem Lt {A:Option Addr} {n cap:Nat} {l:List Int} (w:World) (h:Ks w A n cap l) (hl:l.length=1):
  Calls Tryz.prog 185 #[.string (dh zX),.slice A n cap] w fun e w'=>e=.returned (.tuple #[.int .i64 (bH zX l).1,.int .i64 (bH zX l).2])∧Ev w w':=by
 unfold dh zX;have hcm:=h.max;have hle:=h.le;have HA:=fun w1 (hE:Ev w w1)=>mG 1 w1 (h.ev hE);rw[show bH [110,101,103] l=if rG l 1 then (1,0) else (0,22) from rfl];generalize rG l 1=y at*;have HA:=zq HA;clear h hl
 cases y<;>(
  go_enter Tryz.func185,Tryz.ntmps185
  go_wp2_with (first|((with_reducible refine (HA.out _ (Ev.refl _)).mono ?_);rintro e w1 ⟨rfl,rfl⟩))
  go_ret2
  exact⟨rfl,Ev.refl _⟩)
theorem Lu {A:Option Addr} {n cap:Nat} {l:List Int} (w:World) (h:Ks w A n cap l) (hl:l.length=1):
  Calls Tryz.prog 185 #[.string (dh zY),.slice A n cap] w fun e w'=>e=.returned (.tuple #[.int .i64 (bH zY l).1,.int .i64 (bH zY l).2])∧Ev w w':=by
 unfold dh zY;have hcm:=h.max;have hle:=h.le;have HA:=fun w1 (hE:Ev w w1)=>mG 1 w1 (h.ev hE);rw[show bH [110,111,116] l=if rG l 1 then (1,0) else (0,22) from rfl];generalize rG l 1=y at*;have HA:=zq HA;clear h hl
 cases y<;>(
  go_enter Tryz.func185,Tryz.ntmps185
  go_wp2_with (first|((with_reducible refine (HA.out _ (Ev.refl _)).mono ?_);rintro e w1 ⟨rfl,rfl⟩))
  go_ret2
  exact⟨rfl,Ev.refl _⟩)
theorem LC {A:Option Addr} {n cap:Nat} {l:List Int} (w:World) (h:Ks w A n cap l) (hl:l.length=1):
  Calls Tryz.prog 185 #[.string (dh zZ),.slice A n cap] w fun e w'=>e=.returned (.tuple #[.int .i64 (bH zZ l).1,.int .i64 (bH zZ l).2])∧Ev w w':=by
 unfold dh zZ;have hcm:=h.max;have hle:=h.le;have HA:=fun w1 (hE:Ev w w1)=>mG 2 w1 (h.ev hE);rw[show bH [108,101,110] l=if rG l 2 then (1,0) else (0,22) from rfl];generalize rG l 2=y at*;have HA:=zq HA;clear h hl
 cases y<;>(
  go_enter Tryz.func185,Tryz.ntmps185
  go_wp2_with (first|((with_reducible refine (HA.out _ (Ev.refl _)).mono ?_);rintro e w1 ⟨rfl,rfl⟩))
  go_ret2
  exact⟨rfl,Ev.refl _⟩)
theorem Oq {A:Option Addr} {n cap:Nat} {l:List Int} (w:World) (h:Ks w A n cap l) (hl:l.length=3):
  Calls Tryz.prog 185 #[.string (dh Lh),.slice A n cap] w fun e w'=>e=.returned (.tuple #[.int .i64 (bH Lh l).1,.int .i64 (bH Lh l).2])∧Ev w w':=by
 unfold dh Lh;have hn:n=3:=by rw[←h.len,hl]
 subst hn;obtain⟨x0,x1,x2,rfl⟩:∃x0 x1 x2,l=[x0,x1,x2]:=by exact YZ hl
 obtain⟨b0,agv,e0,hb0,c0⟩:=h.cell (i:=0) (x:=x0) rfl;obtain⟨b1,agw,e1,hb1,c1⟩:=h.cell (i:=1) (x:=x1) rfl;obtain⟨b2,xM,e2,hb2,c2⟩:=h.cell (i:=2) (x:=x2) rfl;rw[e0]at e1;injection e1 with e1
 injection e1 with e1a e1b _
 subst e1a;subst e1b;rw[e0]at e2;injection e2 with e2
 injection e2 with e2a e2b _
 subst e2a;subst e2b;subst e0;simp only[atW]at c0;have hcap:=h.le;clear h hl hb0 hb1 hb2;rw[show bH [105,102] [x0,x1,x2]=if x0==1&&x1==x2 then (x1,0) else (0,22) from rfl];by_cases h0:x0=1;subst h0;by_cases hx:x1=x2;have g:(x1==x2)=true:=atH.2 hx;rw[show ((1:Int)==1&&x1==x2)=true by rw[g];rfl,if_pos rfl];exact axQ;have g:(x1==x2)=false:=atp.2 hx;rw[show ((1:Int)==1&&x1==x2)=false by rw[g];rfl];exact axv;have g:(x0==1)=false:=atp.2 h0;rw[g];simp only[aum,atE,if_false];exact axY
theorem Ub {A:Option Addr} {n cap:Nat} {l:List Int} (s:By) (w:World) (h:Ks w A n cap l) (hl:l.length=bC s) (h0:bC s≠0):
  Calls Tryz.prog 185 #[.string (dh s),.slice A n cap] w fun e w'=>e=.returned (.tuple #[.int .i64 (bH s l).1,.int .i64 (bH s l).2])∧Ev w w':=by
 have hs:(Ob s||Oc s||s==Lh)=true:=by
  cases ht:Ob s
  cases ho:Oc s
  cases hi:s==Lh
  exfalso;apply h0;unfold bC;rw[ht,ho,hi];rfl;rfl;rfl;rfl
 unfold Ob Oc at hs;simp only[atZ,atH]at hs;rcases hs with ((((((((h1|h1)|h1)|h1)|h1)|h1)|h1)|h1)|((h1|h1)|h1))|h1<;>subst h1;exact Ll w h hl;exact Lm w h hl;exact Lp w h hl;exact Ol w h hl;exact Om w h hl;exact Lr w h hl;exact Oo w h hl;exact Ls w h hl;exact Lt w h hl;exact Lu w h hl;exact LC w h hl;exact Oq w h hl
theorem Tryz.abH:(Tryz.prog.info? 3).map (fun i=>(i.zero,i.size,i.bytes))=some (some (.int .i64 0),1,8):=by kernel_rfl
theorem IA {m:M} (h:dK m.t=true):gK m.kind m.s m.n m.kids.length=false∧∀x∈m.kids,dK x.t=true:=by rw[sG,T.fQ]at h;simp only[atu,auV]at h;refine⟨by rw[←Bg];exact h.1,fun x hx=>?_⟩;rw[sG];exact atL.1 h.2 x.t (by rw[M.aY];exact atV.2 ⟨x,hx,rfl⟩)
theorem yO {k:Int} {s:By} {n:Int} {n1:Nat} (h:gK k s n n1=false):k=1∨k=2∨k=3∨(k=4∧n1=bC s∧bC s≠0):=by unfold gK at h;by_cases h1:k=1;exact .inl h1;by_cases h2:k=2;exact .inr (.inl h2);by_cases h3:k=3;exact .inr (.inr (.inl h3));by_cases h4:k=4;subst h4;simp at h;exact .inr (.inr (.inr ⟨rfl,h.2,h.1.1⟩));simp[h1,h2,h3,h4]at h
theorem xKind_eq (cols:List C) (m:M):xKind cols m.t=if m.kind==1 then (match iO cols (dh m.s) with|none=>(0,20)|some i=>((cols.getD i (⟨#[]⟩,0)).2,0))
  else if m.kind==2 then (1,0) else if m.kind==3 then (2,0) else xKindsGo m.s [] (m.kids.map fun x=>xKind cols x.t):=by
 rw[M.qO,xKind,Bf,atI];rfl
theorem IB {l:List C} {s:ByteArray} {i:Nat} (h:iO l s=some i):i<l.length:=by unfold iO at h;exact (auQ.1 h).1
structure KSt (w0:World) (v:Value) (ks:List Int) (w:World):Prop where
 own:Ow 3 1 ic w0.heap.size w v ks
 ev:Ev w0 w
theorem abI (N:Nat):∀(m:M) (b0:Nat) (w:World) (A:Option Addr) (n cap:Nat) (cols:List C),m.dep≤N→Lx b0 [] w m→Cs w A n cap cols→dK m.t=true→
  Calls Tryz.prog 159 #[zA m,.slice A n cap] w fun e w'=>e=.returned (.tuple #[.int .i64 (xKind cols m.t).1,.int .i64 (xKind cols m.t).2])∧Ev w w':=by
 induction N with
 | zero=>
  intro m b0 w A n cap cols hd;rw[M.mX]at hd;omega
 | succ N ih=>
  intro m b0 w A n cap cols hd hL hC hr;obtain⟨hf,Yi⟩:=IA hr;have dG:=xKind_eq cols m;have aT:=Ev.alloc w (.cells #[.int .i64 m.kind,.string ⟨m.s.toArray⟩,.int .i64 m.n,m.kv] 47);have hB:=Bx.new 47 #[.int .i64 m.kind,.string ⟨m.s.toArray⟩,.int .i64 m.n,m.kv] w;obtain⟨w0,hw0⟩:∃w0,w.alloc (.cells #[.int .i64 m.kind,.string ⟨m.s.toArray⟩,.int .i64 m.n,m.kv] 47)=w0:=⟨_,rfl⟩
  rw[hw0]at aT hB;have HE:=zq aT;have HB:=zq hB;have lS:=zq ih;have HL:=zq hL;have HC:=zq hC;have HKR:=zq Yi;have HD:=zq hd;have hes:=hL.es;obtain⟨kn,hkn⟩:∃kn,kn=m.kids.length:=⟨_,rfl⟩
  unfold zA;unfold M.kv at*;rw[←hkn]at hf hw0 HB hes⊢;have lJ:=zq hkn;obtain⟨⟨c0,c1,c2,c3⟩,_⟩:=HB.out.four;clear ih hL hC hr Yi hd hkn aT hB;rcases yO hf with hk|hk|hk|⟨hk,qF,Ia⟩
  ·rw[hk]at dG hw0 c0⊢;simp only[auc,if_true]at dG;have HF:=fun w1 (hE:Ev w w1)=>CQ (dh m.s) w1 (HC.out.ev hE);unfold dh at HF dG
   cases hfc:iO cols ⟨m.s.toArray⟩ with
   | none=>
    rw[hfc]at dG HF;have HK:=zq dG;have HF:=zq HF;clear dG hfc;go_enter Tryz.func159,Tryz.ntmps159
    go_wp2_with (first|((with_reducible refine (HF.out _ HE.out).mono ?_);rintro e w1 ⟨rfl,aH⟩))
    go_ret2
    exact⟨by rw[HK.out];rfl,HE.out.trans aH⟩
   | some i=>
    rw[hfc]at dG HF;have NS:=IB hfc;rw[HC.out.len]at NS;obtain⟨b,off,x,rfl,hb,hx,d0,d1⟩:=HC.out.Yy NS;have hx2:cols.getD i (⟨#[]⟩,0)=x:=by simp[List.getD,hx]
    simp only[hx2]at dG;have HK:=zq dG;have HF:=zq HF;have HD1:=zq (fun w1 (hE:Ev w w1)=>(hE.cell (p:=⟨b,off+i*2+1,none⟩) hb).trans d1);have i1:(0:Int)≤(i:Int):=by omega
    have i2:(i:Int)<(n:Int):=by omega
    clear dG hfc hx hx2 d0 d1;go_enter Tryz.func159,Tryz.ntmps159
    go_wp2_with (first|((with_reducible refine (HF.out _ HE.out).mono ?_);rintro e w1 ⟨rfl,aH⟩;simp only[foundAt,Option.isSome_some];have d1:=HD1.out _ (HE.out.trans aH)))
    go_ret2
    exact⟨by rw[HK.out];rfl,HE.out.trans aH⟩
  ·rw[hk]at dG hw0 c0⊢;have HK:Hid (xKind cols m.t=(1,0)):=zq (by rw[dG];rfl);clear dG;go_enter Tryz.func159,Tryz.ntmps159;go_wp2
   go_ret2
   exact⟨by rw[HK.out];rfl,HE.out⟩
  ·rw[hk]at dG hw0 c0⊢;have HK:Hid (xKind cols m.t=(2,0)):=zq (by rw[dG];rfl);clear dG;go_enter Tryz.func159,Tryz.ntmps159;go_wp2
   go_ret2
   exact⟨by rw[HK.out];rfl,HE.out⟩
  rw[hk]at dG hw0 c0⊢;obtain⟨R,hR⟩:∃R,R=xKind cols m.t:=⟨_,rfl⟩
  rw[←hR]at dG⊢;have HK:Hid (R=xKindsGo m.s [] ((m.kids.drop 0).map fun x=>xKind cols x.t)):=zq (by rw[dG];rfl);generalize m.A=mA at*;generalize m.cap=jP at*;have Qv:=zq hes;have HN1:=zq qF;have HN2:=zq Ia;have rH:=hes.le;have WC:=hes.max;have hkb:kn≤3:=by rw[qF];unfold bC;split<;>(try split)<;>(try split)<;>omega
  have sW:=HB.out;rw[hk]at sW;have sW:=zq sW;clear dG hR qF Ia hes hk hf;go_enter Tryz.func159,Tryz.ntmps159;go_wp2
  go_loopw [8,38] (fun kv iv wr=>∃(A1:Option Addr) (n1 cap1 j:Nat) (ks:List Int),kv=.slice A1 n1 cap1∧iv=.int .i64 (j:Int)∧j≤kn∧Hid (n1=j∧ks.length=j)∧Hid (KSt w0 (.slice A1 n1 cap1) ks wr)∧Hid (R=xKindsGo m.s ks ((m.kids.drop j).map fun x=>xKind cols x.t))) (fun _ iv _=>kn - (intOf iv).toNat)
  case atStart=>exact⟨none,0,0,0,[],rfl,rfl,atG _,zq ⟨rfl,rfl⟩,zq ⟨Ow.nil_ _,Ev.refl _⟩,HK⟩
  case round=>
   obtain⟨A1,n1,cap1,j,ks,rfl,rfl,hj,HN,HS,HR⟩:=hrel;obtain⟨⟨c0,c1,c2,c3⟩,_⟩:=(sW.out.ev HS.out.ev).four;have nG:=zq (HE.out.trans HS.out.ev);by_cases hlt:j<kn
   ·obtain⟨x,hx⟩:=Qv.out.at hlt;obtain⟨b,off,rfl,hb,x0,x1,x2,x3⟩:=Es.cell (Qv.out.ev nG.out) hx;have iF:=atw hx;have hdj:m.kids.drop j=x::m.kids.drop (j+1):=by obtain⟨hj',e⟩:=atr.1 hx;rw[auu hj',e]
    have lX:=HR.out;rw[hdj,atx]at lX;unfold xKindsGo at lX;have HI:=fun w1 (hE:Ev w w1)=>lS.out x b0 w1 A n cap cols (by have:=M.lF iF;have:=HD.out;omega) ((HL.out.kid x iF).ev hE) (HC.out.ev hE) (HKR.out x iF);generalize xKind cols x.t=rx at*;obtain⟨rk,rw_⟩:=rx;simp only at HI lX;unfold zA M.kv at HI;unfold M.kv at x3;have HI:=zq HI;have i1:(0:Int)≤(j:Int):=by omega
    have i2:(j:Int)<(kn:Int):=by omega
    have uT:=HN;obtain⟨qF,Gp⟩:=HN.out;subst qF;have BZ:=zq Gp;clear hx iF hdj Gp HN;by_cases hw:rw_=0
    ·subst hw;simp only[auc,if_true]at lX;have tZ:=zq lX;clear lX
     go_wp2_with (first
      | ((with_reducible refine (HI.out _ (nG.out.trans (Ev.alloc wr _))).mono ?_);rintro e w1 ⟨rfl,aH⟩;have E1:=zq ((Ev.alloc wr _).trans aH))
      | ((show wpList _ _ _ (⟨some 54,_,_,_,_,_⟩::_) _ _);refine aK (o:=⟨some 54,_,_,_,_,_⟩) rfl 88 (.tmp 51) (.tmp 53) rfl encI Tryz.underlying88 Tryz.abH rfl rfl (HS.out.own.ev (E1.out.trans (Ev.alloc w1 _))) (some ⟨w1.heap.size,0,none⟩) 1 1 [rk] rfl (Sl.one encI w1 rk _ rfl) (by rw[BZ.out];simp;omega) (by rw[BZ.out];simp;omega) ((HS.out.ev.trans E1.out).trans (Ev.alloc w1 _)).size ?_;intro v2 w2 gz;have E2:Ev w0 w2:=((But.aS ((HS.out.ev.trans E1.out).trans (Ev.alloc w1 _))).then gz.2.1).ev (fun k hk=>(HS.out.own.lt (aB.1 hk)).1);obtain⟨A2,cap2,rfl,_,_⟩:=gz.1.form encI;generalize BX:(ks++[rk]).length=nn at gz⊢;have En:=zq BX.symm;clear BX))
     go_roundw
     case rel=>exact⟨A2,nn,cap2,n1+1,ks++[rk],rfl,by go_num,by omega,zq ⟨by rw[En.out,atv,BZ.out];rfl,by rw[atv,BZ.out];rfl⟩,zq ⟨gz.1,E2⟩,tZ⟩
     case measure=>simp[intOf];omega
    have Le:(rw_==0)=false:=atp.2 hw;have hwn:(rw_ !=0)=true:=by simp[hw]
    rw[Le]at lX;simp only[atE,if_false]at lX;have tZ:=zq lX;clear lX
    go_wp2_with (first
     | ((with_reducible refine (HI.out _ (nG.out.trans (Ev.alloc wr _))).mono ?_);rintro e w1 ⟨rfl,aH⟩;have E1:=zq ((Ev.alloc wr _).trans aH)))
    go_ret2
    exact⟨by rw[tZ.out];rfl,nG.out.trans E1.out⟩
   have hjk:j=kn:=by omega
   have i2:¬((j:Int)<(kn:Int)):=by omega
   have lX:=HR.out;rw[hjk,lJ.out,List.drop_length]at lX;simp only[atQ,xKindsGo]at lX;obtain⟨qF,Gp⟩:=HN.out;obtain⟨_,aj3,hvS,hMS,_⟩:=HS.out.own.form encI;injection hvS with KZ hv2 hv3
   subst KZ;subst hv3;have hl:ks.length=bC m.s:=by rw[Gp,hjk,HN1.out]
   have HAP:=fun w1 (hE:Ev wr w1)=>Ub m.s w1 (hMS.ev hE) hl HN2.out;rw[←hv2]at HAP;unfold dh at HAP;rw[←lX]at HAP;have HAP:=zq HAP;clear lX qF Gp hv2 hMS hl hjk HN
   go_wp2_with (first|((with_reducible refine (HAP.out _ (Ev.refl _)).mono ?_);rintro e w1 ⟨rfl,aH⟩))
   go_ret2
   exact⟨rfl,nG.out.trans aH⟩
theorem abJ (m:M) (b0:Nat) (w:World) (A:Option Addr) (n cap:Nat) (cols:List C) (hL:Lx b0 [] w m) (hC:Cs w A n cap cols) (hsz:m.t.size≤16000) (hf:m.t.every (fun t=>decide (t.s.length≤1000000))=true):
  Calls Tryz.prog 119 #[zA m,.slice A n cap] w fun e w'=>e=.returned (.tuple #[.int .i64 (xType cols m.t).1,.int .i64 (xType cols m.t).2])∧Ev w w':=by
 have HR:=fun w1 (hE:Ev w w1)=>Iz m b0 w1 (hL.ev hE) hsz hf;have HK:=fun w1 (hE:Ev w w1) (hr:dK m.t=true)=>abI m.dep m b0 w1 A n cap cols (att _) (hL.ev hE) (hC.ev hE) hr;have aT:=Ev.alloc w (.cells #[.int .i64 m.kind,.string ⟨m.s.toArray⟩,.int .i64 m.n,m.kv] 47);have hB:=Bx.new 47 #[.int .i64 m.kind,.string ⟨m.s.toArray⟩,.int .i64 m.n,m.kv] w;obtain⟨w0,hw0⟩:∃w0,w.alloc (.cells #[.int .i64 m.kind,.string ⟨m.s.toArray⟩,.int .i64 m.n,m.kv] 47)=w0:=⟨_,rfl⟩
 rw[hw0]at aT hB;have HE:=zq aT;have HB:=zq hB;obtain⟨⟨c0,c1,c2,c3⟩,_⟩:=hB.four;unfold xType;generalize xKind cols m.t=rk at*;obtain⟨k,y⟩:=rk;unfold zA at*;unfold M.kv at*;simp only at HK;clear hL hC hsz hf aT hB
 cases hr:dK m.t with
 | false=>
  rw[hr]at HR;have HR:=zq HR;clear HK hr;simp only[atE,if_false];go_enter Tryz.func119,Tryz.ntmps119
  go_wp2_with (first|((with_reducible refine (HR.out _ HE.out).mono ?_);rintro e w1 ⟨rfl,aH⟩))
  go_ret2
  exact⟨rfl,HE.out.trans aH⟩
 | true=>
  rw[hr]at HR;have HR:=zq HR;have HK:=zq (fun w1 hE=>HK w1 hE hr);clear hr;simp only[if_true];go_enter Tryz.func119,Tryz.ntmps119
  go_wp2_with (first|((with_reducible refine (HR.out _ HE.out).mono ?_);rintro e w1 ⟨rfl,aH⟩;obtain⟨⟨c0,c1,c2,c3⟩,_⟩:=(HB.out.ev aH).four)|((with_reducible refine (HK.out _ (HE.out.trans aH)).mono ?_);rintro e w2 ⟨rfl,bK⟩))
  go_ret2
  exact⟨rfl,(HE.out.trans aH).trans bK⟩
def bZ (t:T):Bool:=decide (yL t.n)&&decide (t.s.length≤100000)
theorem Fz (s:By):∀(l:List (Int×Int)) (done:List Int),(xKindsGo s done l).2=0→∀r∈l,r.2=0
 | [],_,_=>fun r hr=>by cases hr
 | r::l,done,h=>by unfold xKindsGo at h;intro x hx;split at h;rename_i h0;rcases atA.1 hx with rfl|hx;simpa using h0;exact Fz s l _ h x hx;rename_i h0;simp only at h;exact absurd h (by simpa using h0)
theorem Y0 {s:By} (h:bC s≠0) (hi:(s==Lh)=false):(Ob s||Oc s)=true∧(bC s=1∨bC s=2):=by
 unfold bC at*
 cases h2:Ob s
 cases h1:Oc s
 rw[h2,h1,hi]at h;exact absurd rfl h;exact⟨rfl,.inl rfl⟩;exact⟨rfl,.inr rfl⟩
theorem Y1 {cols:List C} {t:T} (h:(xType cols t).2=0):dK t=true∧(xKind cols t).2=0:=by unfold xType at h;split at h;rename_i hr;exact⟨hr,h⟩;cases h
end Go.Proofs.YtpbfokkocaemlaaGreatDoor
