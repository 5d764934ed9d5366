import Derived.Test.YtpbfokkocaemlaaGreatDoorZ33S
set_option linter.unusedVariables false
set_option maxRecDepth 100000
set_option maxHeartbeats 64000000
namespace Go.Proofs.YtpbfokkocaemlaaGreatDoor
open Go.RowKit
open Go.Lib renaming hid → zq
theorem V_ (y:M):dC y.t=(y.kind==1&&(y.kids.map M.t).all bT):=by unfold dC;rw[M.vW,M.aY]
theorem ah_ (y:M):dP y.t=(dC y.t&&(y.kids.length==2||y.kids.length==3)):=by unfold dP;rw[M.aY,atq]
theorem ah' (w:World) (c0 c1 c2 c3 c4:Value):∃w0,w.alloc (.cells #[c0,c1,c2,c3,c4] 79)=w0∧Ev w w0∧Bx 79 w.heap.size #[c0,c1,c2,c3,c4] w0:=⟨_,rfl,Ev.alloc _ _,Bx.new _ _ _⟩
theorem avU {P:Prop} (h:P:=by
 have hyb:(y.kind==1)=false:=atp.2 hy;rw[hyb,aum,aum];go_enter Tryz.func78,Tryz.ntmps78
 go_wp2_with (first
  | ((with_reducible refine (HH.out _ dH.out).mono ?_);rintro e w1 ⟨rfl,aH⟩;have E1:=zq (dH.out.trans aH);have F1:=zq aH;clear c0 c1 c2 c3 c4 aH;obtain⟨⟨c0,c1,c2,c3,c4⟩,_⟩:=(HB.out.ev F1.out).five;obtain⟨d0,d1,d2,d3,d4⟩:=XY.out _ E1.out))
 go_ret;exact⟨rfl,E1.out⟩):P:=h
theorem R_ (m:M) (b0:Nat) (w:World) (h:Lies b0 [] w m) (x:M) (q:List M) (hq:m.kids=x::q) (uQ:m.kind=1) (hx2:x.kind=2) (hs:x.s=gU):
  Calls Tryz.prog 78 #[.agg #[.int .i64 m.kind,.string ⟨m.s.toArray⟩,.int .i64 m.n,.slice m.A m.kids.length m.cap,.int .i64 (m.pos:Int)]] w fun e w'=>e=.returned (.bool (pFormOf 4 (q.map M.t)))∧Ev w w':=by
 have hH:=fun w1 (hE:Ev w w1)=>jU m b0 w1 (h.ev hE);rw[sU hq uQ hx2,hs]at hH;have hB:=Bx.new 79 #[.int .i64 m.kind,.string ⟨m.s.toArray⟩,.int .i64 m.n,.slice m.A m.kids.length m.cap,.int .i64 (m.pos:Int)] w;have aT:=Ev.alloc w (.cells #[.int .i64 m.kind,.string ⟨m.s.toArray⟩,.int .i64 m.n,.slice m.A m.kids.length m.cap,.int .i64 (m.pos:Int)] 79);have fA:=h.ms;have ou:=h.kid;rw[hq]at fA ou;have hkn:m.kids.length=q.length+1:=by rw[hq];rfl
 have hcl:=fA.le;have hcm:=fA.max;obtain⟨b,off,hA,hb,_⟩:=Ms.cell fA (i:=0) (x:=x) rfl;simp only[atF]at fA hcl;rw[hkn,hA]at hB hH;rw[hkn]at aT⊢;rw[hA]at aT fA⊢;rw[uQ]at hB aT hH⊢;have lu:=zq (fun i y (hy:(x::q)[i]?=some y) w1 (hE:Ev w w1)=>Ms.pJ (fA.ev hE) hy);have LJ:=zq (fun y (hy:y∈q) w1 (hE:Ev w w1)=>(ou y (aty _ hy)).ev hE);have HH:=zq hH;have dH:=zq aT;have HB:=zq hB;obtain⟨⟨c0,c1,c2,c3,c4⟩,_⟩:=hB.five;obtain⟨kn,hk⟩:∃kn,kn=q.length:=⟨_,rfl⟩
 have lJ:=zq hk;rw[←hk]at HH dH HB c3 hcl⊢;clear hH hB aT fA ou hkn hk h hq hA uQ hs;generalize m.s=ms at*;generalize m.n=mn at*;generalize m.cap=mc at*;generalize m.pos=mp at*;unfold gU at*;by_cases hz:kn=4
 ·subst hz;obtain⟨y,z,u,v,hq⟩:∃y z u v,q=[y,z,u,v]:=by
   match q,lJ with
   | [y,z,u,v],_=>exact⟨y,z,u,v,rfl⟩
   | [],H=>exact absurd H.out (by simp)
   | [_],H=>exact absurd H.out (by simp)
   | [_,_],H=>exact absurd H.out (by simp)
   | [_,_,_],H=>exact absurd H.out (by simp)
   | _::_::_::_::_::r,H=>exact absurd H.out (by simp)
  subst hq;have hP:pFormOf 4 ([y,z,u,v].map M.t)=(dC y.t&&dC z.t):=by show (true&&([y.t,z.t].all dC))=_;simp
  rw[hP,V_,V_];have HAY:=zq (fun w1 (hE:Ev w w1)=>Dh w1 ((LJ.out y (by simp) w1 hE).ms));have HAZ:=zq (fun w1 (hE:Ev w w1)=>Dh w1 ((LJ.out z (by simp) w1 hE).ms));generalize (y.kids.map M.t).all bT=qa at*;generalize (z.kids.map M.t).all bT=qb at*;have XY:=zq (fun w1 (hE:Ev w w1)=>lu.out 1 y rfl w1 hE);have XX:=zq (fun w1 (hE:Ev w w1)=>lu.out 2 z rfl w1 hE);simp only[auE]at XY;clear hP;by_cases hy:y.kind=1
  ·rw[hy]at XY⊢;by_cases hz1:z.kind=1
   ·rw[hz1]at XX⊢
    cases qa
    ·simp only[auc,auA,aum,Bool.and_false];go_enter Tryz.func78,Tryz.ntmps78
     go_wp2_with (first
      | ((with_reducible refine (HAY.out _ E1.out).mono ?_);rintro e w2 ⟨rfl,bK⟩;have E2:=zq (E1.out.trans bK))
      | ((with_reducible refine (HH.out _ dH.out).mono ?_);rintro e w1 ⟨rfl,aH⟩;have E1:=zq (dH.out.trans aH);have F1:=zq aH;clear c0 c1 c2 c3 c4 aH;obtain⟨⟨c0,c1,c2,c3,c4⟩,_⟩:=(HB.out.ev F1.out).five;obtain⟨d0,d1,d2,d3,d4⟩:=XY.out _ E1.out;obtain⟨e0,e1,e2,e3,e4⟩:=XX.out _ E1.out))
     go_ret;exact⟨rfl,E2.out⟩
    simp only[auc,auA];go_enter Tryz.func78,Tryz.ntmps78
    go_wp2_with (first
     | ((with_reducible refine (HAY.out _ E1.out).mono ?_);rintro e w2 ⟨rfl,bK⟩;have E2:=zq (E1.out.trans bK);clear d0 d1 d2 d3 d4 e0 e1 e2 e3 e4;obtain⟨d0,d1,d2,d3,d4⟩:=XY.out _ E2.out;obtain⟨e0,e1,e2,e3,e4⟩:=XX.out _ E2.out;clear c0 c1 c2 c3 c4;obtain⟨⟨c0,c1,c2,c3,c4⟩,_⟩:=((HB.out.ev F1.out).ev bK).five)
     | ((with_reducible refine (HAZ.out _ E2.out).mono ?_);rintro e w3 ⟨rfl,iE⟩;have E3:=zq (E2.out.trans iE))
     | ((with_reducible refine (HH.out _ dH.out).mono ?_);rintro e w1 ⟨rfl,aH⟩;have E1:=zq (dH.out.trans aH);have F1:=zq aH;clear c0 c1 c2 c3 c4 aH;obtain⟨⟨c0,c1,c2,c3,c4⟩,_⟩:=(HB.out.ev F1.out).five;obtain⟨d0,d1,d2,d3,d4⟩:=XY.out _ E1.out;obtain⟨e0,e1,e2,e3,e4⟩:=XX.out _ E1.out))
    go_ret;exact⟨rfl,E3.out⟩
   have hzb:(z.kind==1)=false:=atp.2 hz1;rw[hzb,aum,Bool.and_false];go_enter Tryz.func78,Tryz.ntmps78
   go_wp2_with (first
    | ((with_reducible refine (HH.out _ dH.out).mono ?_);rintro e w1 ⟨rfl,aH⟩;have E1:=zq (dH.out.trans aH);have F1:=zq aH;clear c0 c1 c2 c3 c4 aH;obtain⟨⟨c0,c1,c2,c3,c4⟩,_⟩:=(HB.out.ev F1.out).five;obtain⟨d0,d1,d2,d3,d4⟩:=XY.out _ E1.out;obtain⟨e0,e1,e2,e3,e4⟩:=XX.out _ E1.out))
   go_ret;exact⟨rfl,E1.out⟩
  exact avU
 have hP:pFormOf 4 (q.map M.t)=false:=by show ((q.map M.t).length==4&&((q.map M.t).take 2).all dC)=_;rw[atq,←lJ.out,show (kn==4)=false from atp.2 hz,aum]
 rw[hP];have i1:((kn:Int)+1==5)=false:=by rw[atp];omega
 exact awc
theorem av2 {P:Prop} (h:P:=by
 go_wp2_with (first
  | ((with_reducible refine (HAZ.out _ E3.out).mono ?_);rintro e w4 ⟨rfl,gI⟩;have E4:=zq (E3.out.trans gI);clear e0 e1 e2 e3 e4;obtain⟨⟨e0,e1,e2,e3,e4⟩,_⟩:=(V6.out.ev gI).five))
 go_roundw
 case rel=>exact⟨j+1,by go_num,by omega,zq (by rw[qW HT.out HZT.out,HCT.out]),E4⟩
 case measure=>simp[intOf];omega):P:=h
theorem Pq (m:M) (b0:Nat) (w:World) (h:Lies b0 [] w m) (x:M) (q:List M) (hq:m.kids=x::q) (uQ:m.kind=1) (hx2:x.kind=2) (hs:x.s=dY):
  Calls Tryz.prog 78 #[.agg #[.int .i64 m.kind,.string ⟨m.s.toArray⟩,.int .i64 m.n,.slice m.A m.kids.length m.cap,.int .i64 (m.pos:Int)]] w fun e w'=>e=.returned (.bool (pFormOf 7 (q.map M.t)))∧Ev w w':=by
 have hH:=fun w1 (hE:Ev w w1)=>jU m b0 w1 (h.ev hE);rw[sU hq uQ hx2,hs]at hH;have hB:=Bx.new 79 #[.int .i64 m.kind,.string ⟨m.s.toArray⟩,.int .i64 m.n,.slice m.A m.kids.length m.cap,.int .i64 (m.pos:Int)] w;have aT:=Ev.alloc w (.cells #[.int .i64 m.kind,.string ⟨m.s.toArray⟩,.int .i64 m.n,.slice m.A m.kids.length m.cap,.int .i64 (m.pos:Int)] 79);have fA:=h.ms;have ou:=h.kid;rw[hq]at fA ou;have hkn:m.kids.length=q.length+1:=by rw[hq];rfl
 have hcl:=fA.le;have hcm:=fA.max;obtain⟨b,off,hA,hb,_⟩:=Ms.cell fA (i:=0) (x:=x) rfl;simp only[atF]at fA hcl;rw[hkn,hA]at hB hH;rw[hkn]at aT⊢;rw[hA]at aT fA⊢;rw[uQ]at hB aT hH⊢;have lu:=zq (fun i y (hy:(x::q)[i]?=some y) w1 (hE:Ev w w1)=>Ms.pJ (fA.ev hE) hy);have LJ:=zq (fun y (hy:y∈q) w1 (hE:Ev w w1)=>(ou y (aty _ hy)).ev hE);have HH:=zq hH;have dH:=zq aT;have HB:=zq hB;obtain⟨⟨c0,c1,c2,c3,c4⟩,_⟩:=hB.five;obtain⟨kn,hk⟩:∃kn,kn=q.length:=⟨_,rfl⟩
 have lJ:=zq hk;rw[←hk]at HH dH HB c3 hcl⊢;clear hH hB aT fA ou hkn hk h hq hA uQ hs;generalize m.s=ms at*;generalize m.n=mn at*;generalize m.cap=mc at*;generalize m.pos=mp at*;unfold dY at*;by_cases hz:2≤kn
 ·obtain⟨y,r,hq⟩:∃y r,q=y::r:=by
   cases q with
   | nil=>have:=lJ.out;simp at this;omega
   | cons y r=>exact⟨y,r,rfl⟩
  subst hq;obtain⟨k,rfl⟩:∃k,kn=k+2:=⟨kn - 2,by omega⟩
  have hrl:r.length=k+1:=by have:=lJ.out;simp at this;omega
  have hP:pFormOf 7 ((y::r).map M.t)=(dC y.t&&(r.take k).all fun z=>dP z.t):=by show (decide (2≤((y::r).map M.t).length)&&dC y.t&&((((y::r).map M.t).take (((y::r).map M.t).length - 1)).drop 1).all dP)=_;rw[atq,atF,hrl,atX (by omega),auA,auG,←auw,auz,atx,at6,auC,auI];rfl
  rw[hP,V_];have HAY:=zq (fun w1 (hE:Ev w w1)=>Dh w1 ((LJ.out y (by simp) w1 hE).ms));generalize (y.kids.map M.t).all bT=qa at*;have XY:=zq (fun w1 (hE:Ev w w1)=>lu.out 1 y rfl w1 hE);simp only[auE]at XY;have i1:¬((k:Int)+2+1<3):=by omega
  have vZ:=zq (show (r.take k).length=k by rw[aua,hrl];omega);have Yo:=zq hrl;clear hP hrl;by_cases hy:y.kind=1
  ·rw[hy]at XY⊢
   cases qa
   ·simp only[auc,auA,aum];go_enter Tryz.func78,Tryz.ntmps78
    go_wp2_with (first
     | ((with_reducible refine (HAY.out _ E1.out).mono ?_);rintro e w2 ⟨rfl,bK⟩;have E2:=zq (E1.out.trans bK))
     | ((with_reducible refine (HH.out _ dH.out).mono ?_);rintro e w1 ⟨rfl,aH⟩;have E1:=zq (dH.out.trans aH);have F1:=zq aH;clear c0 c1 c2 c3 c4 aH;obtain⟨⟨c0,c1,c2,c3,c4⟩,_⟩:=(HB.out.ev F1.out).five;obtain⟨d0,d1,d2,d3,d4⟩:=XY.out _ E1.out))
    go_ret;exact⟨rfl,E2.out⟩
   simp only[auc,auA];go_enter Tryz.func78,Tryz.ntmps78
   go_wp2_with (first
    | ((with_reducible refine (HAY.out _ E1.out).mono ?_);rintro e w2 ⟨rfl,bK⟩;have E2:=zq (E1.out.trans bK);clear d0 d1 d2 d3 d4)
    | ((with_reducible refine (HH.out _ dH.out).mono ?_);rintro e w1 ⟨rfl,aH⟩;have E1:=zq (dH.out.trans aH);have F1:=zq aH;clear c0 c1 c2 c3 c4 aH;obtain⟨⟨c0,c1,c2,c3,c4⟩,_⟩:=(HB.out.ev F1.out).five;obtain⟨d0,d1,d2,d3,d4⟩:=XY.out _ E1.out))
   go_loopw [6] (fun iv wr=>∃j:Nat,iv=.int .i64 ((j:Int)+2)∧j≤k∧Hid (((r.take k).take j).all (fun z=>dP z.t)=true)∧Hid (Ev w wr)) (fun iv _=>k+2 - (intOf iv).toNat)
   case atStart=>exact⟨0,rfl,atG _,zq (by simp),E2⟩
   case round=>
    obtain⟨j,rfl,hj,HT,kS⟩:=hrel;by_cases hlt:j<k
    ·obtain⟨z,hz2⟩:∃z,r[j]?=some z:=⟨_,atN (by rw[Yo.out];omega)⟩
     have HZT:=zq (show (r.take k)[j]?=some z by rw[List.getElem?_take_of_lt hlt];exact hz2);have hzm:z∈y::r:=aty _ (atw hz2);obtain⟨d0,d1,d2,d3,d4⟩:=lu.out (j+2) z hz2 _ kS.out;have HAZ:=zq (fun w1 (hE:Ev w w1)=>Dh w1 ((LJ.out z hzm w1 hE).ms));have HNM:=zq (V_ z);generalize (z.kids.map M.t).all bT=qb at*;have HAM:=zq (ah_ z);have i2:(0:Int)≤(j:Int)+2:=by omega
     have i3:(j:Int)+2<(k:Int)+2+1:=by omega
     have i4:(j:Int)+2<(k:Int)+2:=by omega
     generalize hzl:z.kids.length=zl at*;clear hzl;obtain⟨w3,hw3,iE,pq⟩:=ah' wr (.int .i64 z.kind) (.string ⟨z.s.toArray⟩) (.int .i64 z.n) (.slice z.A zl z.cap) (.int .i64 (z.pos:Int));have E3:=zq (kS.out.trans iE);have V6:=zq pq;obtain⟨⟨e0,e1,e2,e3,e4⟩,_⟩:=pq.five;clear hz2 hzm iE pq;by_cases Tq:z.kind=1
     ·have HZK:=zq Tq;rw[Tq]at e0;clear Tq
      cases qb
      ·have HCF:Hid (dP z.t=false):=zq (by rw[HAM.out,HNM.out,Bool.and_false,aum])
       go_wp2_with (first
        | ((with_reducible refine (HAZ.out _ E3.out).mono ?_);rintro e w4 ⟨rfl,gI⟩;have E4:=zq (E3.out.trans gI)))
       go_ret;exact⟨by rw[all_false HZT.out HCF.out];rfl,E4.out⟩
      have HNT:Hid (dC z.t=true):=zq (by rw[HNM.out,HZK.out];rfl);by_cases h2:zl=2;subst h2;have HCT:Hid (dP z.t=true):=zq (by rw[HAM.out,HNT.out];rfl);exact av2;have h2b:((zl:Int)==2)=false:=by rw[atp];omega
      by_cases h3:zl=3;subst h3;have HCT:Hid (dP z.t=true):=zq (by rw[HAM.out,HNT.out];rfl);clear h2b;exact av2;have h3b:((zl:Int)==3)=false:=by rw[atp];omega
      have h3c:((zl:Int) !=3)=true:=by rw[auJ];omega
      have h2c:((zl:Int) !=2)=true:=by rw[auJ];omega
      have HCF:Hid (dP z.t=false):=zq (by rw[HAM.out];simp[h2,h3])
      go_wp2_with (first
       | ((with_reducible refine (HAZ.out _ E3.out).mono ?_);rintro e w4 ⟨rfl,gI⟩;have E4:=zq (E3.out.trans gI);clear e0 e1 e2 e3 e4;obtain⟨⟨e0,e1,e2,e3,e4⟩,_⟩:=(V6.out.ev gI).five))
      go_ret;exact⟨by rw[all_false HZT.out HCF.out];rfl,E4.out⟩
     have HCF:Hid (dP z.t=false):=zq (by rw[HAM.out,HNM.out];simp[Tq]);go_wp2;go_ret;exact⟨by rw[all_false HZT.out HCF.out];rfl,E3.out⟩
    obtain rfl:j=k:=by omega
    have HA:Hid ((r.take j).all (fun z=>dP z.t)=true):=zq (by have:=HT.out;rwa [atJ (by rw[vZ.out];exact att _)]at this);have i4:¬((j:Int)+2<(j:Int)+2):=by omega
    go_wp2;go_ret;exact⟨by rw[HA.out];rfl,kS.out⟩
  exact avU
 have hP:pFormOf 7 (q.map M.t)=false:=by show (decide (2≤(q.map M.t).length)&&dC (at_ (q.map M.t) 0)&&(((q.map M.t).take ((q.map M.t).length - 1)).drop 1).all dP)=_;rw[atq,←lJ.out,auj hz,aum,aum]
 exact av4
theorem sV (m:M) (b0:Nat) (w:World) (h:Lies b0 [] w m):
  Calls Tryz.prog 78 #[.agg #[.int .i64 m.kind,.string ⟨m.s.toArray⟩,.int .i64 m.n,.slice m.A m.kids.length m.cap,.int .i64 (m.pos:Int)]] w fun e w'=>e=.returned (.bool (fG m.t))∧Ev w w':=by
 by_cases hk:m.kind=1
 ·cases hq:m.kids with
  | nil=>
   have h0:OE m.t=[]:=by rw[EE,hq];simp
   rw[EZ (.inl h0)];have:=vS m b0 w h (by rw[h0];rfl);rwa [hq]at this
  | cons x q=>
   have hl:m.kids.length=(x::q).length:=by rw[hq]
   rw[←hl];by_cases hx:x.kind=2
   ·rw[NI hq hk hx];rcases y5 x.s with⟨h1,h2⟩|⟨h1,h2⟩|⟨h1,h2⟩|⟨h1,h2⟩|⟨h1,h2⟩|⟨h1,h2⟩|⟨h1,h2⟩|h1<;>rw[h1];exact Pn m b0 w h x q hq hk hx h2;exact MB m b0 w h x q hq hk hx h2;exact Ko m b0 w h x q hq hk hx h2;exact R_ m b0 w h x q hq hk hx h2;exact Po m b0 w h x q hq hk hx h2;exact GR m b0 w h x q hq hk hx h2;exact Pq m b0 w h x q hq hk hx h2;exact vS m b0 w h (by rw[sU hq hk hx];exact h1)
   have h0:OE m.t=[]:=by rw[EE,hq];simp[at_,kK,hx]
   rw[EZ (.inl h0)];exact vS m b0 w h (by rw[h0];rfl)
 have h0:OE m.t=[]:=by rw[EE];simp[hk]
 rw[EZ (.inl h0)];exact vS m b0 w h (by rw[h0];rfl)
def mi (t:T):Zl:=if (aZ t).1=0 then (pPlan t,0,0) else (gQ,(aZ t).1,(aZ t).2)
theorem lg (e:Er):fB (0,0) e=if e.1=0 then (0,0) else e:=by unfold fB;by_cases h:e.1=0<;>simp[h]
theorem zo (l:List Er) (h:(aQ l).1=0):aQ l=(0,0):=vK fun e he=>(fU l).1 h e he
def qA (m:PM):Array Value:=#[.int .i64 m.kind,.string ⟨m.name.toArray⟩,.slice m.ex.A m.ex.l.length m.ex.cap,.slice m.co.A m.co.l.length m.co.cap,.slice m.lf.A m.lf.l.length m.lf.cap,.slice m.rt.A m.rt.l.length m.rt.cap,.slice m.ag.A m.ag.l.length m.ag.cap,.slice m.A m.kids.length m.cap]
def PM.jG (m:PM) (A:Option Addr) (cap:Nat) (l:List PM):PM:=.mk m.kind m.name m.ex m.co m.lf m.rt m.ag A cap l
structure Pv (b0:Nat) (K:List Nat) (w:World) (m:PM):Prop where
 ex:aX 4 ec b0 K w m.ex
 lx:∀e∈m.ex.l,Lx b0 K w e
 co:aX 1 sc b0 K w m.co
 lf:aX 1 sc b0 K w m.lf
 rt:aX 1 sc b0 K w m.rt
 ag:aX 3 ac b0 K w m.ag
theorem Pv.move {b0:Nat} {K K':List Nat} {w w':World} {m:PM} (h:Pv b0 K w m) (hb:But K w w') (hs:∀x∈K',x∈K∨x<b0∨w.heap.size≤x):Pv b0 K' w' m:=
 ⟨h.ex.move hb hs,fun e he=>(h.lx e he).move hb hs,h.co.move hb hs,h.lf.move hb hs,h.rt.move hb hs,h.ag.move hb hs⟩
theorem Pv.ev {b0:Nat} {K:List Nat} {w w':World} {m:PM} (h:Pv b0 K w m) (hE:Ev w w'):Pv b0 K w' m:=h.move (But.aS hE) fun _ hx=>.inl hx
structure rE (w1:World) (gp:Nat) (p:PM) (w:World):Prop where
 box:Bx 32 gp (qA p) w
 own:Ow 32 8 pc (gp+1) w (.slice p.A p.kids.length p.cap) p.kids
 hd:Pv (gp+1) (foot (.slice p.A p.kids.length p.cap)) w p
 kids:∀k∈p.kids,Qx (gp+1) (foot (.slice p.A p.kids.length p.cap)) w k
 ev:Ev w1 w
 FC:w1.heap.size≤gp
theorem rE.up {w1 w w':World} {gp:Nat} {p:PM} (h:rE w1 gp p w) (hE:Ev w w'):rE w1 gp p w':=
 ⟨h.box.ev hE,h.own.ev hE,h.hd.ev hE,fun k hk=>(h.kids k hk).ev hE,h.ev.trans hE,h.FC⟩
theorem rE.next {w1 wq w2:World} {gp:Nat} {p x:PM} {bx:Nat} {v2:Value} (h:rE w1 gp p wq) (hx:Qx bx [] wq x) (Ee:gp<bx) (hk:∀k∈foot (.slice p.A p.kids.length p.cap),k<bx) (hA:mW 32 8 pc (gp+1) wq (.slice p.A p.kids.length p.cap) (p.kids++[x]) v2 w2):
  ∃A2 cap2,v2=.slice A2 (p.kids.length+1) cap2∧rE w1 gp (p.jG A2 cap2 (p.kids++[x])) (w2.setCell ⟨gp,7,none⟩ v2):=by
 obtain⟨ho,hb,hs⟩:=hA;obtain⟨A2,cap2,rfl,oZ,wQ⟩:=ho.form qU;have hl:(p.kids++[x]).length=p.kids.length+1:=by rw[atv];rfl
 have Ot:=h.box.lt;have hK:gp∉foot (.slice p.A p.kids.length p.cap):=fun hm=>by have:=(h.own.lt (aB.1 hm)).1;omega
 have hB2:=(h.box).but hb hK;have Gw:But [gp] w2 (w2.setCell ⟨gp,7,none⟩ (.slice A2 (p.kids++[x]).length cap2)):=But.setCell _ _ (by simp);have hf2:∀k∈foot (.slice A2 (p.kids++[x]).length cap2),k∈foot (.slice p.A p.kids.length p.cap)∨k<gp+1∨wq.heap.size≤k:=fun k hk=>by exact ayc
 have hst:∀k∈gp::foot (.slice A2 (p.kids++[x]).length cap2),k∈foot (.slice A2 (p.kids++[x]).length cap2)∨k<gp+1∨w2.heap.size≤k:=fun k hk=>by exact ayf
 have acH:But (gp::foot (.slice A2 (p.kids++[x]).length cap2)) w2 (w2.setCell ⟨gp,7,none⟩ (.slice A2 (p.kids++[x]).length cap2)):=Gw.wide fun k hk=>by simp at hk;subst hk;exact .inl (by simp)
 have hin:∀k∈foot (.slice A2 (p.kids++[x]).length cap2),k∈gp::foot (.slice A2 (p.kids++[x]).length cap2)∨k<gp+1∨w2.heap.size≤k:=fun k hk=>.inl (aty _ hk);refine⟨A2,cap2,by rw[hl],?_⟩;refine⟨?_,?_,?_,fun y hy=>?_,?_,h.FC⟩;have:=hB2.set 7 (.slice A2 (p.kids++[x]).length cap2);simpa[qA,PM.jG,PM.kind,PM.name,PM.ex,PM.co,PM.lf,PM.rt,PM.ag,PM.A,PM.cap,PM.kids] using this;exact ho.but Gw fun g hg=>by have:=(ho.lt hg).1;simp;omega
 have h1:Pv (gp+1) (foot (.slice A2 (p.kids++[x]).length cap2)) w2 p:=h.hd.move hb hf2;have h2:=(h1.move (But.refl _ _) hst).move acH hin;exact⟨h2.ex,h2.lx,h2.co,h2.lf,h2.rt,h2.ag⟩;have hy1:Qx (gp+1) (foot (.slice p.A p.kids.length p.cap)) wq y:=by rcases atK.1 hy with h1|h1;exact h.kids y h1;simp at h1;subst h1;exact (hx.less fun k hk2=>.inr (.inl (hk k hk2))).low (by omega)
 exact (((hy1.move hb hf2).move (But.refl _ _) hst).move acH hin);have h1:Ev w1 w2:=((But.aS h.ev).then hb).ev fun k hk=>by have:=(h.own.lt (aB.1 hk)).1;have:=h.FC;omega
 exact h1.box Gw h.FC
theorem rE.after {w1 wq w2:World} {gp:Nat} {p:PM} {v2:Value} {L:List PM} (h:rE w1 gp p wq) (hA:mW 32 8 pc (gp+1) wq (.slice p.A p.kids.length p.cap) L v2 w2):Bx 32 gp (qA p) w2:=
 h.box.but hA.2.1 fun hm=>by have:=(h.own.lt (aB.1 hm)).1;omega
theorem rE.done {w1 w:World} {gp:Nat} {p:PM} (h:rE w1 gp p w):Qx (gp+1) [] w p:=by
 obtain⟨A2,cap2,hv,oZ,wQ⟩:=h.own.form qU;injection hv with h1 h2 h3
 have hH:=h.hd.move (K':=[]) (But.aS (Ev.refl w)) fun k hk=>by cases hk
 have hQ:∀k∈p.kids,Qx (gp+1) [] w k:=fun k hk=>(h.kids k hk).less fun x hx=>by cases hx
 have Gs:aX 8 pc (gp+1) [] w ⟨p.A,p.cap,p.kids⟩:=⟨by rw[h1,h3];exact oZ,fun ad e=>by rw[h1]at e;exact⟨(wQ ad e).2.1,(wQ ad e).2.2.1,by simp⟩⟩
 cases p
 exact .mk hH.ex hH.lx hH.co hH.lf hH.rt hH.ag Gs hQ
theorem rE.init (w1 w:World) (gp:Nat) (k:Int) (hB:Bx 32 gp (qA (.mk k [] .nil .nil .nil .nil .nil none 0 [])) w) (hE:Ev w1 w) (hg:w1.heap.size≤gp):rE w1 gp (.mk k [] .nil .nil .nil .nil .nil none 0 []) w:=
 ⟨hB,Ow.nil_ _,⟨aX.nil ..,(fun e he=>by cases he),aX.nil ..,aX.nil ..,aX.nil ..,aX.nil ..⟩,(fun k hk=>by cases hk),hE,hg⟩
theorem DK (w:World) (c0 c1 c2 c3 c4:Value):∃w0,(w.alloc (.cells #[c0,c1,c2,c3,c4] 79)).alloc (.cells #[.int .i64 0,.string ⟨#[]⟩,.slice none 0 0,.slice none 0 0,.slice none 0 0,.slice none 0 0,.slice none 0 0,.slice none 0 0] 32)=w0∧Ev w w0∧Bx 79 w.heap.size #[c0,c1,c2,c3,c4] w0∧Bx 32 (w.heap.size+1) #[.int .i64 0,.string ⟨#[]⟩,.slice none 0 0,.slice none 0 0,.slice none 0 0,.slice none 0 0,.slice none 0 0,.slice none 0 0] w0:=by have hB:=Bx.new 32 #[.int .i64 0,.string ⟨#[]⟩,.slice none 0 0,.slice none 0 0,.slice none 0 0,.slice none 0 0,.slice none 0 0,.slice none 0 0] (w.alloc (.cells #[c0,c1,c2,c3,c4] 79));rw[show (w.alloc (.cells #[c0,c1,c2,c3,c4] 79)).heap.size=w.heap.size+1 by simp]at hB;exact⟨_,rfl,(Ev.alloc w _).trans (Ev.alloc _ _),(Bx.new 79 #[c0,c1,c2,c3,c4] w).ev (Ev.alloc _ _),hB⟩
theorem XZ {t:T} (h:fG t=false):aZ t=(12,t.pos):=by
 cases t
 rw[aZ,h];rfl
theorem aaD {t:T} (h:fG t=false):mi t=(gQ,12,t.pos):=by unfold mi;rw[XZ h];rfl
theorem kP {w w1:World} {g:Nat} {c0 c1 c2 c3 c4 c5 c6 c7:Value} (hg:w.heap.size≤g) (hE:Ev w w1) (hB:Bx 32 g #[c0,c1,c2,c3,c4,c5,c6,c7] w1) (v0 v1 v2 v3 v4 v5 v6 v7:Value):Bx 32 g #[v0,v1,v2,v3,v4,v5,v6,v7] (iw g v0 v1 v2 v3 v4 v5 v6 v7 w1)∧Ev w (iw g v0 v1 v2 v3 v4 v5 v6 v7 w1):=⟨hB.iw _ _ _ _ _ _ _ _,hE.box (bQ _ _ _ _ _ _ _ _ _ _) hg⟩
structure ru (ql:List M) (e0:Er) (p0:PM) (j:Nat) (p:PM) (e:Er):Prop where
 same:p=p0.jG p.A p.cap p.kids
 len:p.kids.length≤j
 ok:e.1=0→e=(0,0)∧e0=(0,0)∧(∀y∈ql.take j,(aZ y.t).1=0)∧p.kids.map PM.p=(ql.take j).map fun y=>pPlan y.t
 bad:e.1≠0→fB e0 (aQ (ql.map fun y=>aZ y.t))=e
theorem ru.next {ql:List M} {e0:Er} {p0 p x:PM} {j:Nat} {A2:Option Addr} {cap2:Nat} {y:M} (h:ru ql e0 p0 j p (0,0)) (hy:ql[j]?=some y) (hx:x.p=(mi y.t).1):ru ql e0 p0 (j+1) (p.jG A2 cap2 (p.kids++[x])) (mi y.t).2:=by
 obtain⟨_,h2,h3,h4⟩:=h.ok rfl;obtain⟨hk,e1⟩:=atr.1 hy;have nX:ql.take (j+1)=ql.take j++[y]:=by rw[atD hk,e1]
 refine⟨?_,?_,fun he=>?_,fun he=>?_⟩;rw[h.same];rfl;show (p.kids++[x]).length≤j+1;have:=h.len;simp;omega;have hz:(aZ y.t).1=0:=by unfold mi at he;by_cases hz:(aZ y.t).1=0;exact hz;rw[if_neg hz]at he;exact he
 refine⟨by unfold mi;rw[if_pos hz],h2,fun z hz2=>?_,?_⟩;rw[nX]at hz2;rcases atK.1 hz2 with h5|h5;exact h3 z h5;simp at h5;rw[h5];exact hz;show (p.kids++[x]).map PM.p=_;rw[nX,atB,atB,h4,atx,atQ,hx];unfold mi;rw[if_pos hz];rfl;have hz:(aZ y.t).1≠0:=fun hz=>he (by unfold mi;rw[if_pos hz]);have h5:(mi y.t).2=aZ y.t:=by unfold mi;rw[if_neg hz]
 rw[h5,h2,uB (k:=j) (e:=aZ y.t) (fun x hx=>?_) (by rw[aul,hy];rfl) hz,lg,if_neg hz];rw[←auw]at hx;obtain⟨z,hz2,rfl⟩:=atV.1 hx;exact h3 z hz2
theorem ru.uK {ql:List M} {e0 e:Er} {p0 p:PM} {t:T} (h:ru ql e0 p0 ql.length p e) (he:e.1=0) (uF:aZ t=fB e0 (aQ (ql.map fun y=>aZ y.t)))
  (hPP:(aZ t).1=0→pPlan t=.mk p0.kind p0.name (p0.ex.l.map M.t) p0.co.l p0.lf.l p0.rt.l p0.ag.l (ql.map fun y=>pPlan y.t)):mi t=(p.p,0,0):=by
 obtain⟨_,h2,h3,h4⟩:=h.ok he;rw[auf]at h3 h4;have hz:aQ (ql.map fun y=>aZ y.t)=(0,0):=vK fun x hx=>by obtain⟨y,hy,rfl⟩:=atV.1 hx;exact h3 y hy
 rw[h2,hz]at uF;unfold mi;rw[uF,if_pos (by rfl),hPP (by rw[uF];rfl),PM.pY,h.same];show (Pl.mk p0.kind p0.name (p0.ex.l.map M.t) p0.co.l p0.lf.l p0.rt.l p0.ag.l _,_,_)=(Pl.mk p0.kind p0.name (p0.ex.l.map M.t) p0.co.l p0.lf.l p0.rt.l p0.ag.l (p.kids.map PM.p),_,_);rw[h4]
theorem ru.oU {ql:List M} {e0 e:Er} {p0 p:PM} {j:Nat} {t:T} (h:ru ql e0 p0 j p e) (he:e.1≠0) (uF:aZ t=fB e0 (aQ (ql.map fun y=>aZ y.t))):mi t=(gQ,e.1,e.2):=by rw[h.bad he]at uF;unfold mi;rw[uF,if_neg he]
theorem ru.start (ql:List M) (e0:Er) (p0:PM) (hk:p0.kids=[]) (hz:e0.1=0→e0=(0,0)):ru ql e0 p0 0 p0 e0:=
 ⟨by cases p0;rfl,by rw[hk];simp,fun h=>⟨hz h,hz h,by simp,by rw[hk];simp⟩,fun h=>by unfold fB;simp[h]⟩
theorem vT (l:List Er):fB (0,0) (aQ l)=aQ l:=by rw[lg];split;rename_i h;exact (zo l h).symm;rfl
theorem oV {w w0 wz:World} {g gp:Nat} {p:PM} {c0 c1 c2 c3 c4 c5 c6 c7:Value} (hK:rE w0 gp p wz) (hE:Ev w w0) (hg:w.heap.size≤g) (hgp:g<gp) (hB:Bx 32 g #[c0,c1,c2,c3,c4,c5,c6,c7] wz):
  Bx 32 g #[.int .i64 p.kind,.string ⟨p.name.toArray⟩,.slice p.ex.A p.ex.l.length p.ex.cap,.slice p.co.A p.co.l.length p.co.cap,.slice p.lf.A p.lf.l.length p.lf.cap,.slice p.rt.A p.rt.l.length p.rt.cap,.slice p.ag.A p.ag.l.length p.ag.cap,.slice p.A p.kids.length p.cap] (iw g (.int .i64 p.kind) (.string ⟨p.name.toArray⟩) (.slice p.ex.A p.ex.l.length p.ex.cap) (.slice p.co.A p.co.l.length p.co.cap) (.slice p.lf.A p.lf.l.length p.lf.cap) (.slice p.rt.A p.rt.l.length p.rt.cap) (.slice p.ag.A p.ag.l.length p.ag.cap) (.slice p.A p.kids.length p.cap) wz)∧Qx w.heap.size [] (iw g (.int .i64 p.kind) (.string ⟨p.name.toArray⟩) (.slice p.ex.A p.ex.l.length p.ex.cap) (.slice p.co.A p.co.l.length p.co.cap) (.slice p.lf.A p.lf.l.length p.lf.cap) (.slice p.rt.A p.rt.l.length p.rt.cap) (.slice p.ag.A p.ag.l.length p.ag.cap) (.slice p.A p.kids.length p.cap) wz) p∧Ev w (iw g (.int .i64 p.kind) (.string ⟨p.name.toArray⟩) (.slice p.ex.A p.ex.l.length p.ex.cap) (.slice p.co.A p.co.l.length p.co.cap) (.slice p.lf.A p.lf.l.length p.lf.cap) (.slice p.rt.A p.rt.l.length p.rt.cap) (.slice p.ag.A p.ag.l.length p.ag.cap) (.slice p.A p.kids.length p.cap) wz):=
 ⟨hB.iw _ _ _ _ _ _ _ _,(kL hK.done (bQ _ _ _ _ _ _ _ _ _ _) (fun k hk=>by simp at hk;omega)).low (by omega),(hE.trans hK.ev).box (bQ _ _ _ _ _ _ _ _ _ _) hg⟩
theorem Si (m:M) (b0:Nat) (w:World) (h:Lies b0 [] w m) (hf:fG m.t=false):
  Calls Tryz.prog 39 #[.agg #[.int .i64 m.kind,.string ⟨m.s.toArray⟩,.int .i64 m.n,.slice m.A m.kids.length m.cap,.int .i64 (m.pos:Int)]] w (bu (mi m.t) w):=by
 have fJ:Tryz.prog.follows .mixedOrders=true:=by kernel_rfl
 rw[aaD hf,M.Ff];have Gj:=zq (fun w1 (hE:Ev w w1)=>sV m b0 w1 (h.ev hE));rw[hf]at Gj;have hcl:=h.ms.le;have hcm:=h.ms.max;obtain⟨w0,hw0,aT,hT0,JL⟩:=DK w (.int .i64 m.kind) (.string ⟨m.s.toArray⟩) (.int .i64 m.n) (.slice m.A m.kids.length m.cap) (.int .i64 (m.pos:Int));have dH:=zq aT;have yF:=zq hT0;have Yn:=zq JL;obtain⟨⟨c0,c1,c2,c3,c4⟩,_⟩:=hT0.five;unfold bu;clear h aT hT0 JL hf;go_enter Tryz.func39,Tryz.ntmps39;go_upto_region 2 with (first
  | ((with_reducible refine (Gj.out _ dH.out).mono ?_);rintro r w1 ⟨rfl,aH⟩;have E1:=zq (dH.out.trans aH);have lX:=zq (Yn.out.ev aH);have HT1:=zq (yF.out.ev aH);clear c0 c1 c2 c3 c4;obtain⟨⟨c0,c1,c2,c3,c4⟩,_⟩:=(yF.out.ev aH).five;obtain⟨⟨r0,r1,r2,r3,r4,r5,r6,r7⟩,s0,s1,s2,s3,s4,s5,s6,s7⟩:=lX.out.eight;clear aH))
 refine iW fJ (fun u=>But [w.heap.size+1] w1 u) (But [w.heap.size+1]) [3] (fun _ u=>Bx 32 (w.heap.size+1) #[.int .i64 0,.string ⟨#[]⟩,.slice none 0 0,.slice none 0 0,.slice none 0 0,.slice none 0 0,.slice none 0 0,.slice none 0 0] u) [fun v _=>v=.agg #[.int .i64 0,.string ⟨#[]⟩,.slice none 0 0,.slice none 0 0,.slice none 0 0,.slice none 0 0,.slice none 0 0,.slice none 0 0],fun v _=>v=.pointer (some ⟨w.heap.size,4,none⟩),fun v _=>v=.int .i64 (m.pos:Int),fun _ _=>True,fun v _=>v=.int .i64 12,fun v _=>v=.int .i64 (m.pos:Int)]
  227 1 rfl (by kernel_rfl) ⟨az _,az _,az _,eG,az _,az _,trivial⟩ ⟨fun _ _ _ _ h=>h,fun _ _ _ _ h=>h,fun _ _ _ _ h=>h,fun _ _ _ _ h=>h,fun _ _ _ _ h=>h,fun _ _ _ _ h=>h,trivial⟩ (by kernel_rfl) (fun _ _ _ hE h=>h.ev hE) (fun u u' hE h=>h.then (But.aS hE)) (But.refl _ _) (lX.out) (by kernel_rfl) ?_ ?_ ?_
 ·refine aI 0 ?_ (aI 1 ?_ (aI 2 ?_ (cu 3 (by decide) (aI 4 ?_ (aI 5 ?_ (oL 6))))))
  ·refine aO fun a wq c=>⟨(ay rfl),.agg #[.int .i64 0,.string ⟨#[]⟩,.slice none 0 0,.slice none 0 0,.slice none 0 0,.slice none 0 0,.slice none 0 0,.slice none 0 0],?_,rfl⟩
   generalize a.eval=ρ;simp[execOp,go_sem]
  refine aO fun a wq c=>⟨(ay rfl),.pointer (some ⟨w.heap.size,4,none⟩),?_,rfl⟩
  exact axo
  ·refine aO fun a wq c=>⟨(ay rfl),.int .i64 (m.pos:Int),?_,rfl⟩
   have bI:a.eval (.tmp 22)=.pointer (some ⟨w.heap.size,4,none⟩):=(c.new 1 22)
   have hc:=(HT1.out.but c.inv (by simp)).cell 4;have hc:wq.cell? ⟨w.heap.size,4,none⟩=some (.int .i64 (m.pos:Int)):=hc;generalize a.eval=ρ at bI⊢;simp[execOp,bI,hc,go_sem]
  refine aO fun a w c=>⟨(ay rfl),_,run_assign _ rfl w,(evc a _)⟩
  refine aO fun a w c=>⟨(ay rfl),_,run_assign _ rfl w,(c.new 2 23)⟩
 ·refine gy 0 rfl ?_ (qM 1);refine tJ rfl fun a wq c st=>?_;have em:a.eval (.tmp 21)=.agg #[.int .i64 0,.string ⟨#[]⟩,.slice none 0 0,.slice none 0 0,.slice none 0 0,.slice none 0 0,.slice none 0 0,.slice none 0 0]:=(c.new 0 21)
  have e2:a.eval (.tmp 2)=.pointer (some ⟨w.heap.size+1,0,none⟩):=(c.was 2 rfl)
  have Ee:Bx 32 (w.heap.size+1) #[.int .i64 0,.string ⟨#[]⟩,.slice none 0 0,.slice none 0 0,.slice none 0 0,.slice none 0 0,.slice none 0 0,.slice none 0 0] wq:=st;obtain⟨⟨r0,r1,r2,r3,r4,r5,r6,r7⟩,s0,s1,s2,s3,s4,s5,s6,s7⟩:=Ee.eight;refine⟨ay rfl,iw (w.heap.size+1) (.int .i64 0) (.string ⟨#[]⟩) (.slice none 0 0) (.slice none 0 0) (.slice none 0 0) (.slice none 0 0) (.slice none 0 0) (.slice none 0 0) wq,?_,bQ _ _ _ _ _ _ _ _ _ _,c.inv.then (bQ _ _ _ _ _ _ _ _ _ _),Ee.iw _ _ _ _ _ _ _ _,trivial⟩;generalize a.eval=ρ at em e2⊢;simp[execOp,em,e2,go_sem,r0,r1,r2,r3,r4,r5,r6,r7,s0,s1,s2,s3,s4,s5,s6,s7,iw,jO,jM]
 intro sl w9 hI hold hnew hst;have f1:sl 1=.pointer (some ⟨w.heap.size,0,none⟩):=hold 1;have f2:sl 2=.pointer (some ⟨w.heap.size+1,0,none⟩):=hold 2;have f3:sl 3=.int .i64 12:=hnew 4 3;have f4:sl 4=.int .i64 (m.pos:Int):=hnew 5 4;change Exit.then _ _ .normal ⟨_,_⟩ _;simp only[List.range,List.range.loop,List.map];simp only[f1,f2,f3,f4];clear hold hnew;go_wp2;(try simp only[Exit.inBlock,Exit.then]);refine bodyPost_ret (aF rfl _ _ _ _ _ rfl hst Tryz.underlying32 rfl Tryz.bJ) rfl ?_;exact⟨jJ,rfl,gY,Qx.zero _ _ _,E1.out.box hI (by omega)⟩
theorem avp {P:Prop} (h:P:=by
 have zk:=Bx.new 32 #[.int .i64 0,.string ⟨#[]⟩,.slice none 0 0,.slice none 0 0,.slice none 0 0,.slice none 0 0,.slice none 0 0,.slice none 0 0] wr;clear hy;go_upto_region 57 with (first
  | ((with_reducible refine (Pz.out _ ((HE.out.trans HK.out.ev).trans (Ev.alloc _ _))).mono ?_);rintro r w6 ⟨x,rfl,su,xB,lL⟩;have Hu:=zq su;have E6:=zq ((Ev.alloc wr _).trans lL);have pF:=zq (zk.ev lL);obtain⟨⟨u0,u1,u2,u3,u4,u5,u6,u7⟩,v0,v1,v2,v3,v4,v5,v6,v7⟩:=pF.out.eight;have DZ:=zq xB;clear su xB lL zk;clear q0 q1 q2 q3 q4 q5 q6 q7))
 rw[bg];obtain⟨w8,uM⟩:∃w8,w8=iw wr.heap.size (.int .i64 x.kind) (.string ⟨x.name.toArray⟩) (.slice x.ex.A x.ex.l.length x.ex.cap) (.slice x.co.A x.co.l.length x.co.cap) (.slice x.lf.A x.lf.l.length x.lf.cap) (.slice x.rt.A x.rt.l.length x.rt.cap) (.slice x.ag.A x.ag.l.length x.ag.cap) (.slice x.A x.kids.length x.cap) w6:=⟨_,rfl⟩
 rw[←uM];have rY:=bQ wr.heap.size (.int .i64 x.kind) (.string ⟨x.name.toArray⟩) (.slice x.ex.A x.ex.l.length x.ex.cap) (.slice x.co.A x.co.l.length x.co.cap) (.slice x.lf.A x.lf.l.length x.lf.cap) (.slice x.rt.A x.rt.l.length x.rt.cap) (.slice x.ag.A x.ag.l.length x.ag.cap) (.slice x.A x.kids.length x.cap) w6;have nO:=pF.out.iw (.int .i64 x.kind) (.string ⟨x.name.toArray⟩) (.slice x.ex.A x.ex.l.length x.ex.cap) (.slice x.co.A x.co.l.length x.co.cap) (.slice x.lf.A x.lf.l.length x.lf.cap) (.slice x.rt.A x.rt.l.length x.rt.cap) (.slice x.ag.A x.ag.l.length x.ag.cap) (.slice x.A x.kids.length x.cap);have kW:=E6.out.box rY (att _);have kQ:=kL DZ.out rY (fun k hk=>by simp at hk;simp;omega);rw[←uM]at nO kW kQ;have lN:=zq (HK.out.up kW);have yu:=zq kQ;obtain⟨⟨q0,q1,q2,q3,q4,q5,q6,q7⟩,_⟩:=lN.out.box.eight;clear u0 u1 u2 u3 u4 u5 u6 u7 v0 v1 v2 v3 v4 v5 v6 v7;obtain⟨⟨u0,u1,u2,u3,u4,u5,u6,u7⟩,_⟩:=nO.eight;have Kt:=kW.size;have Ku:=lN.out.box.lt;have MG:=nO.lt;clear uM rY nO kW kQ
 go_wp2_with (first
  | ((show wpList _ _ _ (⟨some 219,_,_,_,_,_⟩::_) _ _);refine aK (o:=⟨some 219,_,_,_,_,_⟩) rfl 30 (.tmp 216) (.tmp 218) rfl qU Tryz.underlying30 Tryz.l_ rfl rfl (lN.out.up (Ev.alloc _ _)).own (some ⟨_,0,none⟩) 1 1 [x] rfl (Sl.one (et:=32) qU _ x _ rfl) (by simp;omega) (by simp;omega) (by simp;omega) ?_;intro v2 w7 gz;have uI:=zq gz;obtain⟨A2,cap2,rfl,AQ⟩:=rE.next (lN.out.up (Ev.alloc _ _)) (yu.out.ev (Ev.alloc _ _)) (by simp;omega) (by intro k hk;have:=(HK.out.own.lt (aB.1 hk)).2;simp;omega) uI.out;obtain⟨⟨o0,o1,o2,o3,o4,o5,o6,o7⟩,t0,t1,t2,t3,t4,t5,t6,t7⟩:=((lN.out.up (Ev.alloc _ _)).after uI.out).eight;have MH:=zq AQ;clear AQ gz))
 go_roundw
 case rel=>exact⟨j+1,p.jG A2 cap2 (p.kids++[x]),(mi y.t).2,rfl,rfl,by go_num,by omega,zq (HI.out.next HY.out Hu.out),MH⟩
 case measure=>simp[intOf];omega):P:=h
theorem avn {P:Prop} (h:P:=by
 obtain⟨y,hy⟩:=(HQ.out w (Ev.refl _)).at hlt;obtain⟨bq,oq,yt,hbl,d0,d1,d2,d3,d4⟩:=Ms.cell (HQ.out _ (HE.out.trans HK.out.ev)) hy;unfold M.kv at d3;injection yt with yt
 injection yt with h1 h2 _
 subst h1;subst h2;obtain⟨⟨q0,q1,q2,q3,q4,q5,q6,q7⟩,_⟩:=HK.out.box.eight;have HY:=zq hy;have hsw:=HK.out.ev.size;have Pz:=zq (NJ.out y (atw hy));have hpl:p.kids.length≤10000:=by have:=HI.out.len;omega
 have Kr:=HK.out.box.lt;have i1:(0:Int)≤(j:Int):=by omega
 have i2:(j:Int)<(2:Int):=by omega
 exact avp):P:=h
theorem avQ {P:Prop} (h:P:=by obtain⟨⟨q0,q1,q2,q3,q4,q5,q6,q7⟩,_⟩:=HK.out.box.eight;obtain⟨⟨r0,r1,r2,r3,r4,r5,r6,r7⟩,s0,s1,s2,s3,s4,s5,s6,s7⟩:=(HR.out.ev HK.out.ev).eight;go_wp2;(try simp only[Exit.inBlock,Exit.then]);rw[bg];obtain⟨f1,f2,f3⟩:=oV HK.out HE.out (aub w.heap.size) (by omega) (HR.out.ev HK.out.ev);refine bodyPost_ret (aF rfl _ _ _ _ _ rfl f1 Tryz.underlying32 rfl Tryz.bJ) rfl ?_;rw[uX.out];exact⟨p,rfl,rfl,f2,f3⟩):P:=h
theorem avE {P:Prop} (h:P:=by
 have Yu:(e.1==0)=false:=atp.2 he;have hen:(e.1 !=0)=true:=by simp[he]
 have uX:Hid (mi PT=(gQ,e.1,e.2)):=zq (ru.oU HI.out he uG.out);obtain⟨⟨r0,r1,r2,r3,r4,r5,r6,r7⟩,s0,s1,s2,s3,s4,s5,s6,s7⟩:=(HR.out.ev HK.out.ev).eight;have i1:(0:Int)≤(j:Int):=by omega
 by_cases hlt:(j:Int)<(2:Int)
 all_goals (
  go_wp2;(try simp only[Exit.inBlock,Exit.then]);rw[bg];obtain⟨f1,f2⟩:=kP (aub w.heap.size) (HE.out.trans HK.out.ev) (HR.out.ev HK.out.ev) (.int .i64 0) (.string ⟨#[]⟩) (.slice none 0 0) (.slice none 0 0) (.slice none 0 0) (.slice none 0 0) (.slice none 0 0) (.slice none 0 0);refine bodyPost_ret (aF rfl _ _ _ _ _ rfl f1 Tryz.underlying32 rfl Tryz.bJ) rfl ?_;rw[uX.out];exact⟨jJ,rfl,gY,Qx.zero _ _ _,f2⟩)):P:=h
theorem Py (m:M) (b0:Nat) (w:World) (hL:Lies b0 [] w m) (hfair:m.t.every bZ=true) (hsz:m.t.size≤10000) (hf:fG m.t=true) (x:M) (q:List M) (hq:m.kids=x::q) (hs:x.s=fP)
  (ih:∀y∈q,∀w1,Ev w w1→Calls Tryz.prog 39 #[.agg #[.int .i64 y.kind,.string ⟨y.s.toArray⟩,.int .i64 y.n,.slice y.A y.kids.length y.cap,.int .i64 (y.pos:Int)]] w1 (bu (mi y.t) w1)):
  Calls Tryz.prog 39 #[.agg #[.int .i64 m.kind,.string ⟨m.s.toArray⟩,.int .i64 m.n,.slice m.A m.kids.length m.cap,.int .i64 (m.pos:Int)]] w (bu (mi m.t) w):=by
 have fJ:Tryz.prog.follows .mixedOrders=true:=by kernel_rfl
 obtain⟨jF,kR,lK,hm1,hx2,qP⟩:=lC hq hf;have Kq:Lies b0 [w.heap.size] w m:=hL.less fun k hk=>by simp at hk;exact .inr (.inr (by omega))
 obtain⟨b,off,k,c,eu⟩:=uD Kq hq qP;have Gj:=zq (fun w1 (hE:Ev w w1)=>sV m b0 w1 (hL.ev hE));rw[hf]at Gj;have vJ:=zq (fun w1 (hE:Ev w w1)=>jU m b0 w1 (hL.ev hE));have rP:OE m.t=x.s:=by rw[EE,hq];simp[hm1,M.tu,kK,hx2]
 rw[rP,hs]at vJ;have LH:=q_len hq hsz;rw[hs]at jF kR lK;unfold bu at ih⊢;obtain⟨PT,tK⟩:∃PT,PT=m.t:=⟨_,rfl⟩
 rw[←tK]at jF kR⊢;have hA:=eu.hA;have hn:=eu.hn;have hc:=eu.hc;have rH:=eu.rH;have hcm:=eu.hcm;have lQ:=eu.lQ;have hbl:b<w.heap.size:=(eu.z_ w (But.refl _ _) off _ rfl).2.1;have nY:=zq eu;clear eu tK hq hL Kq hfair hsz qP hf hx2 rP;generalize zi:m.kids.length=kn at*;generalize uV:m.A=mA at*;generalize DC:m.cap=mc at*;generalize oQ:m.kind=kd at*;generalize hs_:m.s=ms at*;generalize uU:m.n=mn at*;generalize DD:m.pos=mp at*;clear zi uV DC oQ hs_ uU DD;subst hm1;subst hA;subst hn;subst hc;obtain⟨w0,hw0,aT,hX,hR⟩:=DK w (.int .i64 1) (.string ⟨ms.toArray⟩) (.int .i64 mn) (.slice (some ⟨b,off,none⟩) (k+2) (c+2)) (.int .i64 (mp:Int));have HX:=zq hX;have HR:=zq hR;have HE:=zq aT;have lS:=zq ih;unfold fP at*;obtain⟨⟨c0,c1,c2,c3,c4⟩,_⟩:=hX.five;clear hX hR aT ih hs;have hk2:q.length=2:=by exact ayq
 obtain rfl:k=1:=by omega
 have qx:Hid ((aZ PT).1=0→pPlan PT=.mk 5 [] [] [] [] [] [] (q.map fun y=>pPlan y.t)):=zq (fun _=>by rw[jF];show Pl.mk 5 [] [] [] [] [] [] ((q.map M.t).map pPlan)=_;rw[atI];rfl);have uG:Hid (aZ PT=fB (0,0) (aQ (q.map fun y=>aZ y.t))):=zq (by rw[kR,vT];show aQ ((q.map M.t).map aZ)=_;rw[atI];rfl);have HQ:Hid (∀w1,Ev w w1→Ms w1 (some ⟨b,off+5,none⟩) 2 (c+1) q):=zq fun w1 hE=>nY.out.rest w1 (But.aS hE);have P6:Hid (∀y∈q,y∈q):=zq fun y hy=>hy;clear jF kR lK;go_enter Tryz.func39,Tryz.ntmps39;go_upto_region 38 with (first
  | ((with_reducible refine (Gj.out _ HE.out).mono ?_);rintro r w1 ⟨rfl,aH⟩;have E1:=zq (HE.out.trans aH);have F1:=zq aH;have hx1:=(HX.out.ev aH).lt;have hr1:=(HR.out.ev aH).lt;clear c0 c1 c2 c3 c4;obtain⟨⟨c0,c1,c2,c3,c4⟩,_⟩:=(HX.out.ev aH).five;have xq:=Bx.new 32 #[.int .i64 0,.string ⟨#[]⟩,.slice none 0 0,.slice none 0 0,.slice none 0 0,.slice none 0 0,.slice none 0 0,.slice none 0 0] w1;clear aH)
  | ((with_reducible refine (vJ.out _ (E1.out.trans (Ev.alloc _ _))).mono ?_);rintro r w2 ⟨rfl,bK⟩;have F2:=zq ((F1.out.trans (Ev.alloc _ _)).trans bK);have BP:=zq (xq.ev bK);obtain⟨⟨p0,p1,p2,p3,p4,p5,p6,p7⟩,z0,z1,z2,z3,z4,z5,z6,z7⟩:=(xq.ev bK).eight;clear bK xq;clear c0 c1 c2 c3 c4;obtain⟨⟨c0,c1,c2,c3,c4⟩,_⟩:=(HX.out.ev F2.out).five))
 obtain⟨wL,Ce⟩:∃wL,wL=w2.setCell ⟨w1.heap.size,0,none⟩ (.int .i64 5):=⟨_,rfl⟩
 rw[←Ce];have EU:Hid (rE w0 w1.heap.size (.mk 5 [] .nil .nil .nil .nil .nil none 0 []) wL):=zq (rE.init w0 wL w1.heap.size 5 (by rw[Ce];have:=BP.out.set 0 (.int .i64 5);simpa[qA,PM.kind,PM.name,PM.ex,PM.co,PM.lf,PM.rt,PM.ag,PM.A,PM.cap,PM.kids,eU.nil] using this) (by rw[Ce];exact F2.out.box (But.setCell _ _ (by simp)) F1.out.size) F1.out.size);clear Ce p0 p1 p2 p3 p4 p5 p6 p7 z0 z1 z2 z3 z4 z5 z6 z7 c0 c1 c2 c3 c4;obtain⟨⟨c0,c1,c2,c3,c4⟩,_⟩:=(HX.out.ev EU.out.ev).five;go_wp2;have NJ:=zq (fun y (hy:y∈q) w1 (hE:Ev w w1)=>lS.out y (P6.out y hy) w1 hE);have pg:=zq (HQ.out w (Ev.refl _)).len;have MC:=(HQ.out w (Ev.refl _)).le;have MF:=(HQ.out w (Ev.refl _)).max
 go_loopw [7,8,16] (fun yv av iv wr=>∃(j:Nat) (p:PM) (e:Er),yv=.int .i64 e.1∧av=.int .i64 (e.2:Int)∧iv=.int .i64 (j:Int)∧j≤2∧Hid (ru q (0,0) (.mk 5 [] .nil .nil .nil .nil .nil none 0 []) j p e)∧Hid (rE w0 w1.heap.size p wr)) (fun _ _ iv _=>2 - (intOf iv).toNat)
 case atStart=>exact⟨0,.mk 5 [] .nil .nil .nil .nil .nil none 0 [],(0,0),rfl,rfl,rfl,atG _,zq (ru.start _ _ _ rfl (fun _=>rfl)),EU⟩
 case round=>
  obtain⟨j,p,e,rfl,rfl,rfl,hj,HI,HK⟩:=hrel;have GU:=F1.out.size;have GV:=HR.out.lt;by_cases he:e.1=0;have GX:=(HI.out.ok he).1;subst GX;by_cases hlt:j<2;exact avn;obtain rfl:j=2:=by omega
  have uX:Hid (mi PT=(p.p,0,0)):=zq (ru.uK (p0:=.mk 5 [] .nil .nil .nil .nil .nil none 0 []) (by rw[pg.out];exact HI.out) rfl uG.out qx.out);exact avQ;exact avE
theorem avo {P:Prop} (h:P:=by
 obtain⟨y,hy⟩:=(HQ.out w (Ev.refl _)).at hlt;obtain⟨bq,oq,yt,hbl,d0,d1,d2,d3,d4⟩:=Ms.cell (HQ.out _ (HE.out.trans HK.out.ev)) hy;unfold M.kv at d3;injection yt with yt
 injection yt with h1 h2 _
 subst h1;subst h2;obtain⟨⟨q0,q1,q2,q3,q4,q5,q6,q7⟩,_⟩:=HK.out.box.eight;have HY:=zq hy;have hsw:=HK.out.ev.size;have Pz:=zq (NJ.out y (atw hy));have hpl:p.kids.length≤10000:=by have:=HI.out.len;omega
 have Kr:=HK.out.box.lt;have i1:(0:Int)≤(j:Int):=by omega
 have i2:(j:Int)<(1:Int):=by omega
 exact avp):P:=h
theorem avF {P:Prop} (h:P:=by
 have Yu:(e.1==0)=false:=atp.2 he;have hen:(e.1 !=0)=true:=by simp[he]
 have uX:Hid (mi PT=(gQ,e.1,e.2)):=zq (ru.oU HI.out he uG.out);obtain⟨⟨r0,r1,r2,r3,r4,r5,r6,r7⟩,s0,s1,s2,s3,s4,s5,s6,s7⟩:=(HR.out.ev HK.out.ev).eight;have i1:(0:Int)≤(j:Int):=by omega
 by_cases hlt:(j:Int)<(1:Int)
 all_goals (
  go_wp2;(try simp only[Exit.inBlock,Exit.then]);rw[bg];obtain⟨f1,f2⟩:=kP (aub w.heap.size) (HE.out.trans HK.out.ev) (HR.out.ev HK.out.ev) (.int .i64 0) (.string ⟨#[]⟩) (.slice none 0 0) (.slice none 0 0) (.slice none 0 0) (.slice none 0 0) (.slice none 0 0) (.slice none 0 0);refine bodyPost_ret (aF rfl _ _ _ _ _ rfl f1 Tryz.underlying32 rfl Tryz.bJ) rfl ?_;rw[uX.out];exact⟨jJ,rfl,gY,Qx.zero _ _ _,f2⟩)):P:=h
theorem GY (m:M) (b0:Nat) (w:World) (hL:Lies b0 [] w m) (hfair:m.t.every bZ=true) (hsz:m.t.size≤10000) (hf:fG m.t=true) (x:M) (q:List M) (hq:m.kids=x::q) (hs:x.s=dw)
  (ih:∀y∈q,∀w1,Ev w w1→Calls Tryz.prog 39 #[.agg #[.int .i64 y.kind,.string ⟨y.s.toArray⟩,.int .i64 y.n,.slice y.A y.kids.length y.cap,.int .i64 (y.pos:Int)]] w1 (bu (mi y.t) w1)):
  Calls Tryz.prog 39 #[.agg #[.int .i64 m.kind,.string ⟨m.s.toArray⟩,.int .i64 m.n,.slice m.A m.kids.length m.cap,.int .i64 (m.pos:Int)]] w (bu (mi m.t) w):=by
 have fJ:Tryz.prog.follows .mixedOrders=true:=by kernel_rfl
 obtain⟨jF,kR,lK,hm1,hx2,qP⟩:=lC hq hf;have Kq:Lies b0 [w.heap.size] w m:=hL.less fun k hk=>by simp at hk;exact .inr (.inr (by omega))
 obtain⟨b,off,k,c,eu⟩:=uD Kq hq qP;have Gj:=zq (fun w1 (hE:Ev w w1)=>sV m b0 w1 (hL.ev hE));rw[hf]at Gj;have vJ:=zq (fun w1 (hE:Ev w w1)=>jU m b0 w1 (hL.ev hE));have rP:OE m.t=x.s:=by rw[EE,hq];simp[hm1,M.tu,kK,hx2]
 rw[rP,hs]at vJ;have LH:=q_len hq hsz;rw[hs]at jF kR lK;unfold bu at ih⊢;obtain⟨PT,tK⟩:∃PT,PT=m.t:=⟨_,rfl⟩
 rw[←tK]at jF kR⊢;have hA:=eu.hA;have hn:=eu.hn;have hc:=eu.hc;have rH:=eu.rH;have hcm:=eu.hcm;have lQ:=eu.lQ;have hbl:b<w.heap.size:=(eu.z_ w (But.refl _ _) off _ rfl).2.1;have nY:=zq eu;clear eu tK hq hL Kq hfair hsz qP hf hx2 rP;generalize zi:m.kids.length=kn at*;generalize uV:m.A=mA at*;generalize DC:m.cap=mc at*;generalize oQ:m.kind=kd at*;generalize hs_:m.s=ms at*;generalize uU:m.n=mn at*;generalize DD:m.pos=mp at*;clear zi uV DC oQ hs_ uU DD;subst hm1;subst hA;subst hn;subst hc;obtain⟨w0,hw0,aT,hX,hR⟩:=DK w (.int .i64 1) (.string ⟨ms.toArray⟩) (.int .i64 mn) (.slice (some ⟨b,off,none⟩) (k+2) (c+2)) (.int .i64 (mp:Int));have HX:=zq hX;have HR:=zq hR;have HE:=zq aT;have lS:=zq ih;unfold dw at*;obtain⟨⟨c0,c1,c2,c3,c4⟩,_⟩:=hX.five;clear hX hR aT ih hs;have hk2:q.length=1:=by have h1:((q.map M.t).length==1)=true:=lK;rw[atH,atq]at h1;exact h1
 obtain rfl:k=0:=by omega
 have qx:Hid ((aZ PT).1=0→pPlan PT=.mk 6 [] [] [] [] [] [] (q.map fun y=>pPlan y.t)):=zq (fun _=>by rw[jF];show Pl.mk 6 [] [] [] [] [] [] ((q.map M.t).map pPlan)=_;rw[atI];rfl);have uG:Hid (aZ PT=fB (0,0) (aQ (q.map fun y=>aZ y.t))):=zq (by rw[kR,vT];show aQ ((q.map M.t).map aZ)=_;rw[atI];rfl);have HQ:Hid (∀w1,Ev w w1→Ms w1 (some ⟨b,off+5,none⟩) 1 (c+1) q):=zq fun w1 hE=>nY.out.rest w1 (But.aS hE);have P6:Hid (∀y∈q,y∈q):=zq fun y hy=>hy;clear jF kR lK;go_enter Tryz.func39,Tryz.ntmps39;go_upto_region 41 with (first
  | ((with_reducible refine (Gj.out _ HE.out).mono ?_);rintro r w1 ⟨rfl,aH⟩;have E1:=zq (HE.out.trans aH);have F1:=zq aH;have hx1:=(HX.out.ev aH).lt;have hr1:=(HR.out.ev aH).lt;clear c0 c1 c2 c3 c4;obtain⟨⟨c0,c1,c2,c3,c4⟩,_⟩:=(HX.out.ev aH).five;have xq:=Bx.new 32 #[.int .i64 0,.string ⟨#[]⟩,.slice none 0 0,.slice none 0 0,.slice none 0 0,.slice none 0 0,.slice none 0 0,.slice none 0 0] w1;clear aH)
  | ((with_reducible refine (vJ.out _ (E1.out.trans (Ev.alloc _ _))).mono ?_);rintro r w2 ⟨rfl,bK⟩;have F2:=zq ((F1.out.trans (Ev.alloc _ _)).trans bK);have BP:=zq (xq.ev bK);obtain⟨⟨p0,p1,p2,p3,p4,p5,p6,p7⟩,z0,z1,z2,z3,z4,z5,z6,z7⟩:=(xq.ev bK).eight;clear bK xq;clear c0 c1 c2 c3 c4;obtain⟨⟨c0,c1,c2,c3,c4⟩,_⟩:=(HX.out.ev F2.out).five))
 obtain⟨wL,Ce⟩:∃wL,wL=w2.setCell ⟨w1.heap.size,0,none⟩ (.int .i64 6):=⟨_,rfl⟩
 rw[←Ce];have EU:Hid (rE w0 w1.heap.size (.mk 6 [] .nil .nil .nil .nil .nil none 0 []) wL):=zq (rE.init w0 wL w1.heap.size 6 (by rw[Ce];have:=BP.out.set 0 (.int .i64 6);simpa[qA,PM.kind,PM.name,PM.ex,PM.co,PM.lf,PM.rt,PM.ag,PM.A,PM.cap,PM.kids,eU.nil] using this) (by rw[Ce];exact F2.out.box (But.setCell _ _ (by simp)) F1.out.size) F1.out.size);clear Ce p0 p1 p2 p3 p4 p5 p6 p7 z0 z1 z2 z3 z4 z5 z6 z7 c0 c1 c2 c3 c4;obtain⟨⟨c0,c1,c2,c3,c4⟩,_⟩:=(HX.out.ev EU.out.ev).five;go_wp2;have NJ:=zq (fun y (hy:y∈q) w1 (hE:Ev w w1)=>lS.out y (P6.out y hy) w1 hE);have pg:=zq (HQ.out w (Ev.refl _)).len;have MC:=(HQ.out w (Ev.refl _)).le;have MF:=(HQ.out w (Ev.refl _)).max
 go_loopw [7,8,16] (fun yv av iv wr=>∃(j:Nat) (p:PM) (e:Er),yv=.int .i64 e.1∧av=.int .i64 (e.2:Int)∧iv=.int .i64 (j:Int)∧j≤1∧Hid (ru q (0,0) (.mk 6 [] .nil .nil .nil .nil .nil none 0 []) j p e)∧Hid (rE w0 w1.heap.size p wr)) (fun _ _ iv _=>1 - (intOf iv).toNat)
 case atStart=>exact⟨0,.mk 6 [] .nil .nil .nil .nil .nil none 0 [],(0,0),rfl,rfl,rfl,atG _,zq (ru.start _ _ _ rfl (fun _=>rfl)),EU⟩
 case round=>
  obtain⟨j,p,e,rfl,rfl,rfl,hj,HI,HK⟩:=hrel;have GU:=F1.out.size;have GV:=HR.out.lt;by_cases he:e.1=0;have GX:=(HI.out.ok he).1;subst GX;by_cases hlt:j<1;exact avo;obtain rfl:j=1:=by omega
  have uX:Hid (mi PT=(p.p,0,0)):=zq (ru.uK (p0:=.mk 6 [] .nil .nil .nil .nil .nil none 0 []) (by rw[pg.out];exact HI.out) rfl uG.out qx.out);exact avQ;exact avF
theorem Kv (s:By):∀(rs:List CG) (done:List T),(xReads s done rs).2.1=0→(xReads s done rs).2.2=0
 | [],done,h=>rfl
 | r::rs,done,h=>by unfold xReads at h⊢;split;rename_i h0;rw[if_pos h0]at h;exact Kv s rs _ h;rename_i h0;rw[if_neg h0]at h;exact absurd (by simpa using h) h0
theorem DL {why:Int} {p:Nat} (hw:why≠0) (h:(jH why p).2.1=0):False:=hw h
theorem aaE (t:T) (h:(xRead t).2.1=0):(xRead t).2.2=0:=by
 cases t with
 | mk k s n l p=>
  unfold xRead at h⊢;by_cases k2:(k==2)=true;rw[if_pos k2]at h⊢;by_cases hx:jh s=true;rw[if_pos hx];rw[if_neg hx]at h;exact (DL (by decide) h).elim;rw[if_neg k2]at h⊢;by_cases k3:(k==3)=true;rw[if_pos k3];rw[if_neg k3]at h⊢;by_cases k4:(k==4)=true;rw[if_pos k4];rw[if_neg k4]at h⊢;by_cases k1:(k==1)=true;rw[if_pos k1]at h⊢
  cases l with
  | nil=>exact (DL (by decide) h).elim
  | cons hd q=>
   simp only at h⊢;by_cases h1:(hd.kind==2&&!(bC hd.s==0))=true;rw[if_pos h1]at h⊢;by_cases h2:(q.length==bC hd.s)=true;rw[if_pos h2]at h⊢;exact Kv _ _ _ h;rw[if_neg h2]at h;exact (DL (by decide) h).elim;rw[if_neg h1]at h;exact (DL (by decide) h).elim
  rw[if_neg k1]at h;exact (DL (by decide) h).elim
theorem zt (t:T) (h:(jC t).1=0):jC t=(0,0):=Prod.ext h (aaE t h)
theorem axM {P:Prop} (h:P:=by unfold FN at h⊢;split;rfl;rename_i hx;rw[if_neg hx]at h;exact absurd h (show ¬((20:Int)=0) by decide)):P:=h
theorem Kw (t:T) (h:(FN t).2.1=0):(FN t).2=(0,0):=by exact axM
theorem PD (t:T):bn t=(FN t).2:=by unfold bn FN;split<;>rfl
theorem Sj (t:T) (h:(FN t).2.1=0):(FN t).1=t.s:=by exact axM
theorem E_ {a:Er} (h:a.1=0→a=(0,0)):fB (0,0) a=a:=by rw[lg];by_cases ha:a.1=0;rw[if_pos ha,h ha];rw[if_neg ha]
theorem vU {a:Er} (h:a.1=0→a=(0,0)) (l:List Er):aQ (a::l)=fB a (aQ l):=by rw[show aQ (a::l)=(a::l).foldl fB (0,0) from rfl,auR,E_ h,iV]
theorem xu (l:List Er) (h:(aQ l).1=0):aQ l=(0,0):=zo l h
theorem jc (l m:List Er):aQ (l++m)=fB (aQ l) (aQ m):=by have:=kZ (0,0) l m;rw[vT,vT]at this;exact this.symm
theorem rE.X0 {w0 wL:World} {gp:Nat} {p:PM} (hk:p.kids=[]) (hA:p.A=none) (hc:p.cap=0) (hB:Bx 32 gp (qA p) wL) (hH:Pv (gp+1) [] wL p) (hE:Ev w0 wL) (hg:w0.heap.size≤gp):rE w0 gp p wL:=by refine⟨hB,?_,?_,(fun k hk2=>by rw[hk]at hk2;cases hk2),hE,hg⟩;rw[hk,hA,hc];exact Ow.nil_ _;rw[hk,hA,hc];exact hH
theorem Ms.next {w:World} {b off n c:Nat} {x:M} {q:List M} (h:Ms w (some ⟨b,off,none⟩) (n+1) (c+1) (x::q)) (hn:1≤n) (hc:n≤c):Ms w (some ⟨b,off+5,none⟩) n c q:=by
 obtain⟨k,rfl⟩:∃k,n=k+1:=⟨n - 1,by omega⟩
 obtain⟨d,rfl⟩:∃d,c=d+1:=⟨c - 1,by omega⟩
 exact Ms.rest h
theorem PG (m:M) (b0:Nat) (w:World) (hL:Lies b0 [] w m) (hfair:m.t.every bZ=true) (hsz:m.t.size≤10000) (hf:fG m.t=true) (x:M) (q:List M) (hq:m.kids=x::q) (hs:x.s=gq)
  (ih:∀y∈q,∀w1,Ev w w1→Calls Tryz.prog 39 #[.agg #[.int .i64 y.kind,.string ⟨y.s.toArray⟩,.int .i64 y.n,.slice y.A y.kids.length y.cap,.int .i64 (y.pos:Int)]] w1 (bu (mi y.t) w1)):
  Calls Tryz.prog 39 #[.agg #[.int .i64 m.kind,.string ⟨m.s.toArray⟩,.int .i64 m.n,.slice m.A m.kids.length m.cap,.int .i64 (m.pos:Int)]] w (bu (mi m.t) w):=by
 have fJ:Tryz.prog.follows .mixedOrders=true:=by kernel_rfl
 obtain⟨jF,kR,lK,hm1,hx2,qP⟩:=lC hq hf;have Kq:Lies b0 [w.heap.size] w m:=hL.less fun k hk=>by simp at hk;exact .inr (.inr (by omega))
 obtain⟨b,off,k,c,eu⟩:=uD Kq hq qP;have Gj:=zq (fun w1 (hE:Ev w w1)=>sV m b0 w1 (hL.ev hE));rw[hf]at Gj;have vJ:=zq (fun w1 (hE:Ev w w1)=>jU m b0 w1 (hL.ev hE));have rP:OE m.t=x.s:=by rw[EE,hq];simp[hm1,M.tu,kK,hx2]
 rw[rP,hs]at vJ;have yB:=zq (fun y (hy:y∈q)=>lD hq hy hfair hsz);have LH:=q_len hq hsz;have Aa:=zq (fun i y (hy:q[i]?=some y) w1 (hE:Ev w w1)=>eu.kid (i+1) y (by rw[hq];simpa using hy) w1 (But.aS hE));rw[hs]at jF kR lK;unfold bu at ih⊢;obtain⟨PT,tK⟩:∃PT,PT=m.t:=⟨_,rfl⟩
 rw[←tK]at jF kR⊢;have hA:=eu.hA;have hn:=eu.hn;have hc:=eu.hc;have rH:=eu.rH;have hcm:=eu.hcm;have lQ:=eu.lQ;have hbl:b<w.heap.size:=(eu.z_ w (But.refl _ _) off _ rfl).2.1;clear eu tK hq hL Kq hfair hsz qP hf hx2 rP;generalize zi:m.kids.length=kn at*;generalize uV:m.A=mA at*;generalize DC:m.cap=mc at*;generalize oQ:m.kind=kd at*;generalize hs_:m.s=ms at*;generalize uU:m.n=mn at*;generalize DD:m.pos=mp at*;clear zi uV DC oQ hs_ uU DD;subst hm1;subst hA;subst hn;subst hc;obtain⟨w0,hw0,aT,hX,hR⟩:=DK w (.int .i64 1) (.string ⟨ms.toArray⟩) (.int .i64 mn) (.slice (some ⟨b,off,none⟩) (k+2) (c+2)) (.int .i64 (mp:Int));have HX:=zq hX;have HR:=zq hR;have HE:=zq aT;unfold gq at*;obtain⟨⟨c0,c1,c2,c3,c4⟩,_⟩:=hX.five;clear hX hR aT ih hs;have hk2:q.length=1:=by have h1:((q.map M.t).length==1&&bT (at_ (q.map M.t) 0))=true:=lK;rw[atu,atH,atq]at h1;exact h1.1
 obtain rfl:k=0:=by omega
 have Yv:=zq (fun y (hy:y∈q)=>(yB.out y hy).1);have HSL:Hid (∀y∈q,y.s.length≤1000000):=zq fun y hy=>by have h1:=Yv.out y hy;rw[T.fQ,atu]at h1;have h2:=h1.1;rw[M.qO]at h2;have:=(oG h2).2;omega
 obtain⟨y,rfl⟩:=sO hk2;obtain⟨NR,hNR⟩:∃NR,NR=FN y.t:=⟨_,rfl⟩
 have HNZ:=zq (Kw y.t);have qx:Hid ((aZ PT).1=0→pPlan PT=.mk 1 NR.1 [] [] [] [] [] (([]:List M).map fun y=>pPlan y.t)):=zq (fun h0=>by
  rw[jF];rw[kR]at h0;have h1:(aQ [bn y.t]).1=0:=h0;have h2:=(fU _).1 h1 _ (atz ..);rw[PD]at h2;rw[hNR,Sj _ h2];rfl)
 have uG:Hid (aZ PT=fB NR.2 (aQ (([]:List M).map fun y=>aZ y.t))):=zq (by
  rw[kR];show aQ [bn y.t]=_;rw[PD,hNR,vU (Kw y.t)];rfl)
 have HN:=zq (fun w1=>zG y w1 (HSL.out y (by simp)));have HQ:Hid (∀w1,Ev w w1→Ms w1 none 0 0 ([]:List M)):=zq fun w1 _=>Sl.nil_ w1;rw[←hNR]at HN HNZ;clear jF kR lK hNR;go_enter Tryz.func39,Tryz.ntmps39;go_upto_region 10 with (first
  | ((with_reducible refine (Gj.out _ HE.out).mono ?_);rintro r w1 ⟨rfl,aH⟩;have E1:=zq (HE.out.trans aH);have F1:=zq aH;have hx1:=(HX.out.ev aH).lt;have hr1:=(HR.out.ev aH).lt;clear c0 c1 c2 c3 c4;obtain⟨⟨c0,c1,c2,c3,c4⟩,_⟩:=(HX.out.ev aH).five;have xq:=Bx.new 32 #[.int .i64 0,.string ⟨#[]⟩,.slice none 0 0,.slice none 0 0,.slice none 0 0,.slice none 0 0,.slice none 0 0,.slice none 0 0] w1;clear aH)
  | ((with_reducible refine (vJ.out _ (E1.out.trans (Ev.alloc _ _))).mono ?_);rintro r w2 ⟨rfl,bK⟩;have F2:=zq ((F1.out.trans (Ev.alloc _ _)).trans bK);have BP:=zq (xq.ev bK);obtain⟨⟨p0,p1,p2,p3,p4,p5,p6,p7⟩,z0,z1,z2,z3,z4,z5,z6,z7⟩:=(xq.ev bK).eight;clear bK xq;clear c0 c1 c2 c3 c4;obtain⟨⟨c0,c1,c2,c3,c4⟩,_⟩:=(HX.out.ev F2.out).five))
 obtain⟨wA,yE⟩:∃wA,wA=w2.setCell ⟨w1.heap.size,0,none⟩ (.int .i64 1):=⟨_,rfl⟩
 rw[←yE];have DN:Hid (Bx 32 w1.heap.size #[.int .i64 1,.string ⟨#[]⟩,.slice none 0 0,.slice none 0 0,.slice none 0 0,.slice none 0 0,.slice none 0 0,.slice none 0 0] wA):=zq (by rw[yE];have:=BP.out.set 0 (.int .i64 1);simpa using this);have FA:Hid (Ev w0 wA):=zq (by rw[yE];exact F2.out.box (But.setCell _ _ (by simp)) F1.out.size);have EA:Hid (Ev w wA):=zq (HE.out.trans FA.out);clear yE p0 p1 p2 p3 p4 p5 p6 p7 z0 z1 z2 z3 z4 z5 z6 z7 c0 c1 c2 c3 c4;obtain⟨⟨p0,p1,p2,p3,p4,p5,p6,p7⟩,z0,z1,z2,z3,z4,z5,z6,z7⟩:=DN.out.eight;obtain⟨⟨c0,c1,c2,c3,c4⟩,_⟩:=(HX.out.ev FA.out).five;have hpA:=DN.out.lt;obtain⟨y0,y1,y2,y3,y4⟩:=Aa.out 0 y rfl _ EA.out;simp only[atT,auE]at y0 y1 y2 y3 y4;go_upto_region 52 with (first
  | ((with_reducible refine (HN.out _).mono ?_);rintro r w3 ⟨rfl,iE⟩;have E3:=zq iE;clear p0 p1 p2 p3 p4 p5 p6 p7 z0 z1 z2 z3 z4 z5 z6 z7;obtain⟨⟨p0,p1,p2,p3,p4,p5,p6,p7⟩,z0,z1,z2,z3,z4,z5,z6,z7⟩:=(DN.out.ev iE).eight;clear iE))
 obtain⟨wL,Ce⟩:∃wL,wL=w3.setCell ⟨w1.heap.size,1,none⟩ (.string ⟨NR.1.toArray⟩):=⟨_,rfl⟩
 rw[←Ce];have EU:Hid (rE w0 w1.heap.size (.mk 1 NR.1 .nil .nil .nil .nil .nil none 0 []) wL):=zq (rE.X0 rfl rfl rfl (by rw[Ce];have:=(DN.out.ev E3.out).set 1 (.string ⟨NR.1.toArray⟩);simpa[qA,PM.kind,PM.name,PM.ex,PM.co,PM.lf,PM.rt,PM.ag,PM.A,PM.cap,PM.kids,eU.nil] using this) ⟨aX.nil ..,(fun e he=>by cases he),aX.nil ..,aX.nil ..,aX.nil ..,aX.nil ..⟩ (by rw[Ce];exact (FA.out.trans E3.out).box (But.setCell _ _ (by simp)) F1.out.size) F1.out.size);clear Ce p0 p1 p2 p3 p4 p5 p6 p7 z0 z1 z2 z3 z4 z5 z6 z7 c0 c1 c2 c3 c4 y0 y1 y2 y3 y4;go_wp2;have pg:=zq (HQ.out w (Ev.refl _)).len;have MC:=(HQ.out w (Ev.refl _)).le;have MF:=(HQ.out w (Ev.refl _)).max
 go_loopw [7,8,16] (fun yv av iv wr=>∃(j:Nat) (p:PM) (e:Er),yv=.int .i64 e.1∧av=.int .i64 (e.2:Int)∧iv=.int .i64 (j:Int)∧j≤0∧Hid (ru ([]:List M) NR.2 (.mk 1 NR.1 .nil .nil .nil .nil .nil none 0 []) j p e)∧Hid (rE w0 w1.heap.size p wr)) (fun _ _ iv _=>0 - (intOf iv).toNat)
 case atStart=>exact⟨0,.mk 1 NR.1 .nil .nil .nil .nil .nil none 0 [],NR.2,rfl,rfl,rfl,atG _,zq (ru.start _ _ _ rfl HNZ.out),EU⟩
 case round=>
  obtain⟨j,p,e,rfl,rfl,rfl,hj,HI,HK⟩:=hrel;have GU:=F1.out.size;have GV:=HR.out.lt;by_cases he:e.1=0;have GX:=(HI.out.ok he).1;subst GX;obtain rfl:j=0:=by omega
  have uX:Hid (mi PT=(p.p,0,0)):=zq (ru.uK (p0:=.mk 1 NR.1 .nil .nil .nil .nil .nil none 0 []) (by rw[pg.out];exact HI.out) rfl uG.out qx.out);exact avQ;have Yu:(e.1==0)=false:=atp.2 he;have hen:(e.1 !=0)=true:=by simp[he]
  have uX:Hid (mi PT=(gQ,e.1,e.2)):=zq (ru.oU HI.out he uG.out);obtain⟨⟨r0,r1,r2,r3,r4,r5,r6,r7⟩,s0,s1,s2,s3,s4,s5,s6,s7⟩:=(HR.out.ev HK.out.ev).eight;have i1:(0:Int)≤(j:Int):=by omega
  obtain rfl:j=0:=by omega
  (
   go_wp2;(try simp only[Exit.inBlock,Exit.then]);rw[bg];obtain⟨f1,f2⟩:=kP (aub w.heap.size) (HE.out.trans HK.out.ev) (HR.out.ev HK.out.ev) (.int .i64 0) (.string ⟨#[]⟩) (.slice none 0 0) (.slice none 0 0) (.slice none 0 0) (.slice none 0 0) (.slice none 0 0) (.slice none 0 0);refine bodyPost_ret (aF rfl _ _ _ _ _ rfl f1 Tryz.underlying32 rfl Tryz.bJ) rfl ?_;rw[uX.out];exact⟨jJ,rfl,gY,Qx.zero _ _ _,f2⟩)
theorem MI (m:M) (b0:Nat) (w:World) (hL:Lies b0 [] w m) (hfair:m.t.every bZ=true) (hsz:m.t.size≤10000) (hf:fG m.t=true) (x:M) (q:List M) (hq:m.kids=x::q) (hs:x.s=dL)
  (ih:∀y∈q,∀w1,Ev w w1→Calls Tryz.prog 39 #[.agg #[.int .i64 y.kind,.string ⟨y.s.toArray⟩,.int .i64 y.n,.slice y.A y.kids.length y.cap,.int .i64 (y.pos:Int)]] w1 (bu (mi y.t) w1)):
  Calls Tryz.prog 39 #[.agg #[.int .i64 m.kind,.string ⟨m.s.toArray⟩,.int .i64 m.n,.slice m.A m.kids.length m.cap,.int .i64 (m.pos:Int)]] w (bu (mi m.t) w):=by
 have fJ:Tryz.prog.follows .mixedOrders=true:=by kernel_rfl
 obtain⟨jF,kR,lK,hm1,hx2,qP⟩:=lC hq hf;have Kq:Lies b0 [w.heap.size] w m:=hL.less fun k hk=>by simp at hk;exact .inr (.inr (by omega))
 obtain⟨b,off,k,c,eu⟩:=uD Kq hq qP;have Gj:=zq (fun w1 (hE:Ev w w1)=>sV m b0 w1 (hL.ev hE));rw[hf]at Gj;have vJ:=zq (fun w1 (hE:Ev w w1)=>jU m b0 w1 (hL.ev hE));have rP:OE m.t=x.s:=by rw[EE,hq];simp[hm1,M.tu,kK,hx2]
 rw[rP,hs]at vJ;have yB:=zq (fun y (hy:y∈q)=>lD hq hy hfair hsz);have LH:=q_len hq hsz;have Aa:=zq (fun i y (hy:q[i]?=some y) w1 (hE:Ev w w1)=>eu.kid (i+1) y (by rw[hq];simpa using hy) w1 (But.aS hE));rw[hs]at jF kR lK;unfold bu at ih⊢;obtain⟨PT,tK⟩:∃PT,PT=m.t:=⟨_,rfl⟩
 rw[←tK]at jF kR⊢;have hA:=eu.hA;have hn:=eu.hn;have hc:=eu.hc;have rH:=eu.rH;have hcm:=eu.hcm;have lQ:=eu.lQ;have hbl:b<w.heap.size:=(eu.z_ w (But.refl _ _) off _ rfl).2.1;have nY:=zq eu;clear eu tK hq hL Kq hfair hsz qP hf hx2 rP;generalize zi:m.kids.length=kn at*;generalize uV:m.A=mA at*;generalize DC:m.cap=mc at*;generalize oQ:m.kind=kd at*;generalize hs_:m.s=ms at*;generalize uU:m.n=mn at*;generalize DD:m.pos=mp at*;clear zi uV DC oQ hs_ uU DD;subst hm1;subst hA;subst hn;subst hc;obtain⟨w0,hw0,aT,hX,hR⟩:=DK w (.int .i64 1) (.string ⟨ms.toArray⟩) (.int .i64 mn) (.slice (some ⟨b,off,none⟩) (k+2) (c+2)) (.int .i64 (mp:Int));have HX:=zq hX;have HR:=zq hR;have HE:=zq aT;have lS:=zq ih;unfold dL at*;obtain⟨⟨c0,c1,c2,c3,c4⟩,_⟩:=hX.five;clear hX hR aT ih hs;have hk2:q.length=2:=by exact ayq
 obtain rfl:k=1:=by omega
 have Yv:=zq (fun y (hy:y∈q)=>(yB.out y hy).1);obtain⟨y,z,rfl⟩:=vG hk2;obtain⟨o8,rfl⟩:∃c1,c=c1+1:=⟨c - 1,by omega⟩
 obtain⟨XR,hXR⟩:∃XR,XR=xRead y.t:=⟨_,rfl⟩
 have HNZ:Hid (XR.2.1=0→XR.2=(0,0)):=zq (by rw[hXR];exact zt y.t);have qx:Hid ((aZ PT).1=0→pPlan PT=.mk 2 [] [XR.1] [] [] [] [] ([z].map fun y=>pPlan y.t)):=zq (fun _=>by rw[jF,hXR];rfl);have uG:Hid (aZ PT=fB XR.2 (aQ ([z].map fun y=>aZ y.t))):=zq (by
  rw[kR];show aQ (jC y.t::[aZ z.t])=_;rw[vU (zt y.t),hXR];rfl)
 have O6:=zq (fun w1 (hE:Ev w w1)=>VF y.dep y b0 w1 (att _) (((nY.out.lies y (by simp) w (But.refl _ _)).less fun k hk=>by cases hk).ev hE) (Yv.out y (by simp)) (by have:=(yB.out y (by simp)).2;omega));have HQ:Hid (∀w1,Ev w w1→Ms w1 (some ⟨b,off+10,none⟩) 1 (o8+1) [z]):=zq fun w1 hE=>(nY.out.rest w1 (But.aS hE)).next (by omega) (by omega)
 have P6:Hid (∀y_∈[z],y_∈[y,z]):=zq fun y_ hy=>by simp at hy;simp[hy]
 unfold Ap mv M.kv at O6;rw[←hXR]at O6;clear jF kR lK hXR;go_enter Tryz.func39,Tryz.ntmps39;go_upto_region 13 with (first
  | ((with_reducible refine (Gj.out _ HE.out).mono ?_);rintro r w1 ⟨rfl,aH⟩;have E1:=zq (HE.out.trans aH);have F1:=zq aH;have hx1:=(HX.out.ev aH).lt;have hr1:=(HR.out.ev aH).lt;clear c0 c1 c2 c3 c4;obtain⟨⟨c0,c1,c2,c3,c4⟩,_⟩:=(HX.out.ev aH).five;have xq:=Bx.new 32 #[.int .i64 0,.string ⟨#[]⟩,.slice none 0 0,.slice none 0 0,.slice none 0 0,.slice none 0 0,.slice none 0 0,.slice none 0 0] w1;clear aH)
  | ((with_reducible refine (vJ.out _ (E1.out.trans (Ev.alloc _ _))).mono ?_);rintro r w2 ⟨rfl,bK⟩;have F2:=zq ((F1.out.trans (Ev.alloc _ _)).trans bK);have BP:=zq (xq.ev bK);obtain⟨⟨p0,p1,p2,p3,p4,p5,p6,p7⟩,z0,z1,z2,z3,z4,z5,z6,z7⟩:=(xq.ev bK).eight;clear bK xq;clear c0 c1 c2 c3 c4;obtain⟨⟨c0,c1,c2,c3,c4⟩,_⟩:=(HX.out.ev F2.out).five))
 obtain⟨wA,yE⟩:∃wA,wA=w2.setCell ⟨w1.heap.size,0,none⟩ (.int .i64 2):=⟨_,rfl⟩
 rw[←yE];have DN:Hid (Bx 32 w1.heap.size #[.int .i64 2,.string ⟨#[]⟩,.slice none 0 0,.slice none 0 0,.slice none 0 0,.slice none 0 0,.slice none 0 0,.slice none 0 0] wA):=zq (by rw[yE];have:=BP.out.set 0 (.int .i64 2);simpa using this);have FA:Hid (Ev w0 wA):=zq (by rw[yE];exact F2.out.box (But.setCell _ _ (by simp)) F1.out.size);have EA:Hid (Ev w wA):=zq (HE.out.trans FA.out);clear yE p0 p1 p2 p3 p4 p5 p6 p7 z0 z1 z2 z3 z4 z5 z6 z7 c0 c1 c2 c3 c4;obtain⟨⟨p0,p1,p2,p3,p4,p5,p6,p7⟩,z0,z1,z2,z3,z4,z5,z6,z7⟩:=DN.out.eight;obtain⟨⟨c0,c1,c2,c3,c4⟩,_⟩:=(HX.out.ev FA.out).five;have hpA:=DN.out.lt;obtain⟨y0,y1,y2,y3,y4⟩:=Aa.out 0 y rfl _ EA.out;simp only[atT,auE]at y0 y1 y2 y3 y4;have hBE:=Bx.new 47 #[.int .i64 0,.string ⟨#[]⟩,.int .i64 0,.slice none 0 0] wA;have P5:b<wA.heap.size:=atM hbl EA.out.size;go_upto_region 15 with (first
  | ((with_reducible refine (O6.out _ (EA.out.trans (Ev.alloc _ _))).mono ?_);rintro r w3 ⟨x,rfl,jg,iq,iE⟩;have oW:=zq jg;have pz:=zq iq;have E3:=zq ((Ev.alloc wA _).trans iE);have HBE:=zq (hBE.ev iE);obtain⟨⟨u0,u1,u2,u3⟩,v0,v1,v2,v3⟩:=HBE.out.four;clear jg iq iE hBE))
 rw[dF];obtain⟨wB,X3⟩:∃wB,wB=jM wA.heap.size (.int .i64 x.kind) (.string ⟨x.s.toArray⟩) (.int .i64 x.n) (.slice x.A x.kids.length x.cap) w3:=⟨_,rfl⟩
 rw[←X3];have hS4:=dW wA.heap.size (.int .i64 x.kind) (.string ⟨x.s.toArray⟩) (.int .i64 x.n) (.slice x.A x.kids.length x.cap) w3;have D5:=HBE.out.jM (.int .i64 x.kind) (.string ⟨x.s.toArray⟩) (.int .i64 x.n) (.slice x.A x.kids.length x.cap);have gI:=E3.out.box hS4 (att _);have afl:=EM pz.out hS4 (fun k hk=>by simp at hk;simp;omega);rw[←X3]at D5 gI afl;have al6:=zq afl;have EB:=zq gI;clear u0 u1 u2 u3 v0 v1 v2 v3 p0 p1 p2 p3 p4 p5 p6 p7 z0 z1 z2 z3 z4 z5 z6 z7 y0 y1 y2 y3 y4 c0 c1 c2 c3 c4;obtain⟨⟨u0,u1,u2,u3⟩,_⟩:=D5.four;obtain⟨⟨p0,p1,p2,p3,p4,p5,p6,p7⟩,z0,z1,z2,z3,z4,z5,z6,z7⟩:=(DN.out.ev gI).eight;have hpB:=(DN.out.ev gI).lt;have arI:=gI.size;clear X3 hS4 D5 gI afl;go_upto_region 52 with fail
 obtain⟨wC,hwC⟩:∃wC,wC=wB.setCell ⟨w1.heap.size,2,none⟩ (.slice (some ⟨wB.heap.size,0,none⟩) 1 1):=⟨_,rfl⟩
 have aif:wC.heap.size=wB.heap.size:=by rw[hwC];simp
 obtain⟨wL,Ce⟩:∃wL,wL=wC.alloc (.cells #[.int .i64 x.kind,.string ⟨x.s.toArray⟩,.int .i64 x.n,.slice x.A x.kids.length x.cap] 47):=⟨_,rfl⟩
 rw[←hwC,←Ce];have GI:But [w1.heap.size] wB wC:=by rw[hwC];exact But.setCell _ _ (by simp)
 have hS1:=Sl.one (et:=47) wM wC x #[.int .i64 x.kind,.string ⟨x.s.toArray⟩,.int .i64 x.n,.slice x.A x.kids.length x.cap] rfl;rw[←Ce,aif]at hS1;have hEL:Ev wC wL:=by rw[Ce];exact Ev.alloc _ _
 have arJ:wL.heap.size=wB.heap.size+1:=by rw[Ce];simp[aif]
 have EU:Hid (rE w0 w1.heap.size (.mk 2 [] ⟨some ⟨wB.heap.size,0,none⟩,1,[x]⟩ .nil .nil .nil .nil none 0 []) wL):=zq (rE.X0 rfl rfl rfl (by refine Bx.ev ?_ hEL;rw[hwC];have:=(DN.out.ev EB.out).set 2 (.slice (some ⟨wB.heap.size,0,none⟩) 1 1);simpa[qA,PM.kind,PM.name,PM.ex,PM.co,PM.lf,PM.rt,PM.ag,PM.A,PM.cap,PM.kids,eU.nil] using this)
  ⟨⟨hS1,fun ad ea=>by cases ea;exact⟨by show w1.heap.size+1≤wB.heap.size;omega,by show wB.heap.size<wL.heap.size;omega,by simp⟩⟩,(fun e he=>by have he:e∈[x]:=he;simp at he;subst he;exact ((EM al6.out GI (fun k hk=>by simp at hk;first|omega|(simp;omega))).ev hEL).low (by first|omega|(simp;omega))),aX.nil ..,aX.nil ..,aX.nil ..,aX.nil ..⟩ (((FA.out.trans EB.out).box GI F1.out.size).trans hEL) F1.out.size)
 have qx:Hid ((aZ PT).1=0→pPlan PT=.mk 2 [] [x.t] [] [] [] [] ([z].map fun y=>pPlan y.t)):=zq (fun h=>by rw[qx.out h,oW.out]);clear Ce hwC hS1 hEL GI p0 p1 p2 p3 p4 p5 p6 p7 z0 z1 z2 z3 z4 z5 z6 z7 u0 u1 u2 u3;go_wp2;have NJ:=zq (fun y (hy:y∈[z]) w1 (hE:Ev w w1)=>lS.out y (P6.out y hy) w1 hE);have pg:=zq (HQ.out w (Ev.refl _)).len;have MC:=(HQ.out w (Ev.refl _)).le;have MF:=(HQ.out w (Ev.refl _)).max
 go_loopw [7,8,16] (fun yv av iv wr=>∃(j:Nat) (p:PM) (e:Er),yv=.int .i64 e.1∧av=.int .i64 (e.2:Int)∧iv=.int .i64 (j:Int)∧j≤1∧Hid (ru [z] XR.2 (.mk 2 [] ⟨some ⟨wB.heap.size,0,none⟩,1,[x]⟩ .nil .nil .nil .nil none 0 []) j p e)∧Hid (rE w0 w1.heap.size p wr)) (fun _ _ iv _=>1 - (intOf iv).toNat)
 case atStart=>exact⟨0,.mk 2 [] ⟨some ⟨wB.heap.size,0,none⟩,1,[x]⟩ .nil .nil .nil .nil none 0 [],XR.2,rfl,rfl,rfl,atG _,zq (ru.start _ _ _ rfl HNZ.out),EU⟩
 case round=>
  obtain⟨j,p,e,rfl,rfl,rfl,hj,HI,HK⟩:=hrel;have GU:=F1.out.size;have GV:=HR.out.lt;by_cases he:e.1=0;have GX:=(HI.out.ok he).1;subst GX;by_cases hlt:j<1;exact avo;obtain rfl:j=1:=by omega
  have uX:Hid (mi PT=(p.p,0,0)):=zq (ru.uK (p0:=.mk 2 [] ⟨some ⟨wB.heap.size,0,none⟩,1,[x]⟩ .nil .nil .nil .nil none 0 []) (by rw[pg.out];exact HI.out) rfl uG.out qx.out);exact avQ;exact avF
end Go.Proofs.YtpbfokkocaemlaaGreatDoor
