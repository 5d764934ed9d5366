import Derived.Test.YtpbfokkocaemlaaGreatDoorZ32S
set_option linter.unusedVariables false
set_option maxRecDepth 100000
set_option maxHeartbeats 64000000
namespace Go.Proofs.YtpbfokkocaemlaaGreatDoor
open Go.RowKit
open Go.Lib renaming hid → zq
def lsS (l:List By):By:=40::printL true (l.map aN)
theorem RU (l:List By) (s:By):lsS (l++[s])=lsS l++((if l.isEmpty then [] else [32])++s):=by unfold lsS;rw[atB,atx,atQ,lW,show (l.map aN).isEmpty=l.isEmpty by cases l<;>rfl];show 40::(_++(_++printS (aN s)))=_;rw[show printS (aN s)=s by unfold aN;simp[printS]];simp
theorem NH (l:List By):printS (aU l)=lsS l++[41]:=by unfold lsS aU bU;rw[pR];rfl
theorem RV:∀(m l:List By),(lsS l).length≤(lsS (l++m)).length
 | [],l=>by simp
 | s::m,l=>by
  have h1:=RV m (l++[s]);rw[atS]at h1;have h2:(lsS l).length≤(lsS (l++[s])).length:=by rw[RU,atv];omega
  exact atP h2 h1
theorem aax (l:List By) (k:Nat):(lsS (l.take k)).length≤(lsS l).length:=by have:=RV (l.drop k) (l.take k);rwa [auy]at this
theorem axV {P:Prop} (h:P:=by
 go_wp2;go_roundw
 case rel=>exact⟨k+1,Y,rfl,by go_num,by omega,HY,HE⟩
 case measure=>simp[intOf];omega):P:=h
theorem acB (l:List By) (A:Option Addr) (n cap:Nat) (w:World) (h:Ss w A n cap l) (hb:(lsS l).length≤1000000):
  Calls Tryz.prog 86 #[.slice A n cap] w fun e w'=>e=.returned (.string ⟨(printS (aU l)).toArray⟩)∧Ev w w':=by
 have hcl:=h.le;have hcm:=h.max;have HL:=zq h.len;have H:=zq h;have ahZ:=zq (fun k=>atP (aax l k) hb);have EY:=zq (NH l);clear h;go_enter Tryz.func86,Tryz.ntmps86;go_wp2
 go_loopw [3,4] (fun sv iv wr=>∃(k:Nat) (S:By),sv=.string ⟨S.toArray⟩∧iv=.int .i64 (k:Int)∧k≤n∧Hid (S=lsS (l.take k))∧Hid (Ev w wr)) (fun _ iv _=>n - (intOf iv).toNat)
 case atStart=>exact⟨0,[40],rfl,rfl,atG _,zq rfl,zq (Ev.refl _)⟩
 case round=>
  obtain⟨k,S,rfl,rfl,hk,HS,HE⟩:=hrel;have Gs:S.length≤1000000:=by rw[HS.out];exact ahZ.out k
  have hz:=cZ S;by_cases hlt:k<n;obtain⟨x,hx⟩:=H.out.at hlt;obtain⟨b,off,rfl,hbl,c0⟩:=Ss.cell2 (H.out.ev HE.out) hx;have ou:k<l.length:=by rw[HL.out];exact hlt
  have nX:lsS (l.take (k+1))=S++((if k=0 then [] else [32])++x):=by
   obtain⟨_,e1⟩:=atr.1 hx;rw[atD ou,e1,RU,HS.out]
   cases k with
   | zero=>simp
   | succ k=>
    cases l with
    | nil=>simp at ou
    | cons a l=>simp
  have hlen:=ahZ.out (k+1);rw[nX]at hlen;have pI:=zq nX;have i1:(0:Int)≤(k:Int):=by omega
  have i2:(k:Int)<(n:Int):=by omega
  have hz2:=cZ x;clear hx nX ou;by_cases hk0:k=0;have i3:¬((0:Int)<(k:Int)):=by omega
  obtain⟨Y,hY⟩:∃Y,Y=S++x:=⟨_,rfl⟩
  have lq:(⟨S.toArray⟩:ByteArray)++⟨x.toArray⟩=⟨Y.toArray⟩:=by rw[hY];exact dV _ _
  rw[if_pos hk0]at pI hlen;have hb2:S.length+x.length≤1000000:=by simp at hlen;omega
  have HY:Hid (Y=lsS (l.take (k+1))):=zq (by rw[pI.out,hY];simp);clear hY hlen hk0;exact axV;have i3:(0:Int)<(k:Int):=by omega
  obtain⟨Z,hZ⟩:∃Z,Z=S++[32]:=⟨_,rfl⟩
  obtain⟨Y,hY⟩:∃Y,Y=Z++x:=⟨_,rfl⟩
  have lq:(⟨S.toArray⟩:ByteArray)++⟨#[32]⟩=⟨Z.toArray⟩:=by rw[hZ];exact dV S [32]
  have J5:(⟨Z.toArray⟩:ByteArray)++⟨x.toArray⟩=⟨Y.toArray⟩:=by rw[hY];exact dV _ _
  have hz3:=cZ Z;have hzl:Z.length=S.length+1:=by rw[hZ];simp
  rw[if_neg hk0]at pI hlen;have hb2:Z.length+x.length≤1000000:=by simp at hlen;omega
  have HY:Hid (Y=lsS (l.take (k+1))):=zq (by rw[pI.out,hY,hZ];simp);clear hY hZ hlen hk0;exact axV;obtain rfl:k=n:=by omega
  have HF:Hid (S=lsS l):=zq (by have:=HS.out;rwa [atJ (by rw[HL.out];exact att _)]at this);have lq:(⟨S.toArray⟩:ByteArray)++⟨#[41]⟩=⟨(S++[41]).toArray⟩:=dV S [41];have HC:=zq lq;clear lq;go_wp2;go_ret;refine⟨?_,HE.out⟩;rw[EY.out,←HF.out,←HC.out];rfl
def o_ (l:List T):By:=40::printL true l
theorem iI {l:List T} (h:l≠[]) (t:T):o_ (l++[t])=o_ l++(32::printS t):=by
 unfold o_;rw[lW]
 cases l with
 | nil=>exact absurd rfl h
 | cons a l=>simp
theorem acC (l:List T) (t:T):(o_ l).length≤(o_ (l++[t])).length:=by unfold o_;rw[lW];simp
theorem kC:∀(m l:List T),(o_ l).length≤(o_ (l++m)).length
 | [],l=>by simp
 | s::m,l=>by have h1:=kC m (l++[s]);rw[atS]at h1;exact atP (acC l s) h1
theorem DJ (l:List T):printS (bU l)=o_ l++[41]:=by unfold bU o_;rw[pR];rfl
theorem uJ (m:PM):printS (aC m.p)=o_ (jL m.kind m.name (m.ex.l.map M.t) m.co.l m.lf.l m.rt.l m.ag.l++m.kids.map fun x=>aC x.p)++[41]:=by rw[xm,DJ,PM.pY];simp[Pl.kind,Pl.name,Pl.exprs,Pl.cols,Pl.left,Pl.right,Pl.Ez,Pl.kids,Function.comp_def]
def lH (p:Pl) (w:World) (e:Ending) (w':World):Prop:=e=.returned (.string ⟨(printS (aC p)).toArray⟩)∧Ev w w'
theorem J6 (w:World) (c0 c1 c2 c3 c4 c5 c6 c7:Value):∃w0,w.alloc (.cells #[c0,c1,c2,c3,c4,c5,c6,c7] 32)=w0∧Ev w w0∧Bx 32 w.heap.size #[c0,c1,c2,c3,c4,c5,c6,c7] w0:=⟨_,rfl,Ev.alloc _ _,Bx.new _ _ _⟩
theorem tN {l:List PM} {k:Nat} {x:PM} (hx:l[k]?=some x):(l.take (k+1)).map (fun y=>aC y.p)=(l.take k).map (fun y=>aC y.p)++[aC x.p]:=by obtain⟨hk,e⟩:=atr.1 hx;rw[atD hk,e,atB];rfl
theorem awY {P:Prop} (h:P:=by have h1:=kC ((m.kids.drop j).map fun x=>aC x.p) (HD++(m.kids.take j).map fun x=>aC x.p);rw[atS,←atB,auy]at h1;have h2:=congrArg List.length EY.out;rw[atv]at h2;have:=pg.out;omega):P:=h
theorem ayg {P:Prop} (h:P:=by obtain⟨⟨_,_,_,_,_,_,_,h7⟩,_⟩:=(BW.out.ev hE).eight;rw[wu.out];exact h7):P:=h
theorem avz {P:Prop} (h:P:=by
 have yD:Y.length≤1000000:=by rw[J8];exact RX.out (j+1)
 have lq:(⟨S.toArray⟩:ByteArray)++⟨#[32]⟩=⟨Z.toArray⟩:=by rw[hZ];exact dV S [32]
 have J5:(⟨Z.toArray⟩:ByteArray)++⟨PX.toArray⟩=⟨Y.toArray⟩:=by rw[hY];exact dV _ _
 have hz2:=cZ Z;have hz3:=cZ PX;have hyz:Z.length+PX.length≤1000000:=by rw[hY,atv]at yD;exact yD
 have hzl:Z.length=S.length+1:=by rw[hZ];simp
 have HI:=fun w2 (hE:Ev w w2)=>HQK.out x iF w2 hE;rw[←J7]at HI;have HI:=zq HI;have Tt:=zq J8;have i1:(0:Int)≤(j:Int):=by omega
 have i2:(j:Int)<(nk:Int):=by omega
 clear hx iF o9 P5 nX J7 hZ hY J8 yD
 go_wp2_with (first
  | ((with_reducible refine (HI.out _ (EW.out.trans kS.out)).mono ?_);rintro r w8 ⟨rfl,kW⟩;have E8:=zq (kS.out.trans kW)))
 go_roundw
 case rel=>exact⟨j+1,Y,rfl,by go_num,by omega,Tt,E8⟩
 case measure=>simp[intOf];omega):P:=h
theorem avs {P:Prop} (h:P:=by
 obtain⟨x,hx⟩:=BZ.out.at (by rw[←wu.out];exact hlt);have iF:=atw hx;obtain⟨b,off,P5,hb,_⟩:=(BZ.out.ev (EW.out.trans kS.out)).rd (by rw[←wu.out];omega);have o9:=BZ.out.ev (EW.out.trans kS.out);rw[P5]at o9 b7;obtain⟨c0,c1,c2,c3,c4,c5,c6,c7⟩:=Ps.cell o9 hx;unfold eU.v PM.kv at*;have nX:=tN hx;obtain⟨PX,J7⟩:∃PX,PX=printS (aC x.p):=⟨_,rfl⟩
 obtain⟨Z,hZ⟩:∃Z,Z=S++[32]:=⟨_,rfl⟩
 obtain⟨Y,hY⟩:∃Y,Y=Z++PX:=⟨_,rfl⟩
 have J8:Y=o_ (HD++(m.kids.take (j+1)).map fun x=>aC x.p):=by rw[nX,←atS,iI (by simp[kE]),←HS.out,hY,hZ,J7];simp
 exact avz):P:=h
theorem awn {P:Prop} (h:P:=by
 obtain rfl:j=nk:=by omega
 have lq:(⟨S.toArray⟩:ByteArray)++⟨#[41]⟩=⟨(S++[41]).toArray⟩:=dV S [41];have HC:=zq lq;have HF:Hid (PS=S++[41]):=zq (by rw[EY.out,HS.out,wu.out,auf]);clear lq;go_wp2;go_ret;refine⟨?_,EW.out.trans kS.out⟩;rw[HF.out,←HC.out];rfl):P:=h
theorem Pe (m:PM) (b0:Nat) (w:World) (h:Qx b0 [] w m) (hk:m.kind=5) (hlen:(printS (aC m.p)).length≤1000000) (ih:∀x∈m.kids,∀w1,Ev w w1→Calls Tryz.prog 40 #[pv x] w1 (lH x.p w1)):
  Calls Tryz.prog 40 #[pv m] w (lH m.p w):=by
 obtain⟨PS,vN⟩:∃PS,PS=printS (aC m.p):=⟨_,rfl⟩
 have rU:=uJ m;rw[hk]at rU;unfold lH at*;rw[←vN]at rU hlen⊢;have hQ:=h;have zO:=h.ps;have hle:=zO.le;have hmx:=zO.max;obtain⟨w0,hw0,aT,hB0⟩:=J6 w (.int .i64 5) (.string ⟨m.name.toArray⟩) (.slice m.ex.A m.ex.l.length m.ex.cap) (.slice m.co.A m.co.l.length m.co.cap) (.slice m.lf.A m.lf.l.length m.lf.cap) (.slice m.rt.A m.rt.l.length m.rt.cap) (.slice m.ag.A m.ag.l.length m.ag.cap) (.slice m.A m.kids.length m.cap);have dH:=zq aT;have rQ:=zq hB0;obtain⟨⟨p0,p1,p2,p3,p4,p5,p6,p7⟩,_⟩:=hB0.eight;unfold pv at ih⊢;unfold eU.v PM.kv at*;rw[hk];obtain⟨HD,kE⟩:∃HD,HD=[aN fP]:=⟨_,rfl⟩
 have rU:PS=o_ (HD++m.kids.map fun x=>aC x.p)++[41]:=by rw[kE];exact rU
 have jR:Hid (([40,117,110,105,111,110]:By)=o_ HD):=zq (by rw[kE];rfl);have EW:=dH;have BW:=rQ;clear aT hB0 hQ h hk;go_enter Tryz.func40,Tryz.ntmps40;go_wp2;have pg:=zq hlen;have EY:=zq rU;have BZ:=zq zO;have HQK:=zq (fun x (hx:x∈m.kids) w1 (hE:Ev w w1)=>ih x hx w1 hE);have RX:Hid (∀j,(o_ (HD++(m.kids.take j).map fun x=>aC x.p)).length≤1000000):=zq fun j=>by exact awY
 obtain⟨nk,xK⟩:∃nk,nk=m.kids.length:=⟨_,rfl⟩
 have wu:=zq xK;rw[←xK]at hle;have GM:Hid (∀wz,Ev w0 wz→wz.cell? ⟨w.heap.size,7,none⟩=some (.slice m.A nk m.cap)):=zq fun wz hE=>by exact ayg
 clear rU hlen zO ih xK;clear p0 p1 p2 p3 p4 p5 p6 p7;have b7:=GM.out _ (Ev.refl _)
 go_loopw [3,7] (fun sv iv wr=>∃(j:Nat) (S:By),sv=.string ⟨S.toArray⟩∧iv=.int .i64 (j:Int)∧j≤nk∧Hid (S=o_ (HD++(m.kids.take j).map fun x=>aC x.p))∧Hid (Ev w0 wr)) (fun _ iv _=>nk - (intOf iv).toNat)
 case atStart=>exact⟨0,_,rfl,rfl,atG _,zq (by simpa using jR.out),zq (Ev.refl _)⟩
 case round=>
  obtain⟨j,S,rfl,rfl,hj,HS,kS⟩:=hrel;clear b7;have b7:=GM.out _ kS.out;have hz:=cZ S;have Gs:S.length≤1000000:=by rw[HS.out];exact RX.out j
  by_cases hlt:j<nk;exact avs;exact awn
theorem GN (m:PM) (b0:Nat) (w:World) (h:Qx b0 [] w m) (hk:m.kind=6) (hlen:(printS (aC m.p)).length≤1000000) (ih:∀x∈m.kids,∀w1,Ev w w1→Calls Tryz.prog 40 #[pv x] w1 (lH x.p w1)):
  Calls Tryz.prog 40 #[pv m] w (lH m.p w):=by
 obtain⟨PS,vN⟩:∃PS,PS=printS (aC m.p):=⟨_,rfl⟩
 have rU:=uJ m;rw[hk]at rU;unfold lH at*;rw[←vN]at rU hlen⊢;have hQ:=h;have zO:=h.ps;have hle:=zO.le;have hmx:=zO.max;obtain⟨w0,hw0,aT,hB0⟩:=J6 w (.int .i64 6) (.string ⟨m.name.toArray⟩) (.slice m.ex.A m.ex.l.length m.ex.cap) (.slice m.co.A m.co.l.length m.co.cap) (.slice m.lf.A m.lf.l.length m.lf.cap) (.slice m.rt.A m.rt.l.length m.rt.cap) (.slice m.ag.A m.ag.l.length m.ag.cap) (.slice m.A m.kids.length m.cap);have dH:=zq aT;have rQ:=zq hB0;obtain⟨⟨p0,p1,p2,p3,p4,p5,p6,p7⟩,_⟩:=hB0.eight;unfold pv at ih⊢;unfold eU.v PM.kv at*;rw[hk];obtain⟨HD,kE⟩:∃HD,HD=[aN dw]:=⟨_,rfl⟩
 have rU:PS=o_ (HD++m.kids.map fun x=>aC x.p)++[41]:=by rw[kE];exact rU
 have jR:Hid (([40,100,105,115,116,105,110,99,116]:By)=o_ HD):=zq (by rw[kE];rfl);have EW:=dH;have BW:=rQ;clear aT hB0 hQ h hk;go_enter Tryz.func40,Tryz.ntmps40;go_wp2;have pg:=zq hlen;have EY:=zq rU;have BZ:=zq zO;have HQK:=zq (fun x (hx:x∈m.kids) w1 (hE:Ev w w1)=>ih x hx w1 hE);have RX:Hid (∀j,(o_ (HD++(m.kids.take j).map fun x=>aC x.p)).length≤1000000):=zq fun j=>by exact awY
 obtain⟨nk,xK⟩:∃nk,nk=m.kids.length:=⟨_,rfl⟩
 have wu:=zq xK;rw[←xK]at hle;have GM:Hid (∀wz,Ev w0 wz→wz.cell? ⟨w.heap.size,7,none⟩=some (.slice m.A nk m.cap)):=zq fun wz hE=>by exact ayg
 clear rU hlen zO ih xK;clear p0 p1 p2 p3 p4 p5 p6 p7;have b7:=GM.out _ (Ev.refl _)
 go_loopw [3,7] (fun sv iv wr=>∃(j:Nat) (S:By),sv=.string ⟨S.toArray⟩∧iv=.int .i64 (j:Int)∧j≤nk∧Hid (S=o_ (HD++(m.kids.take j).map fun x=>aC x.p))∧Hid (Ev w0 wr)) (fun _ iv _=>nk - (intOf iv).toNat)
 case atStart=>exact⟨0,_,rfl,rfl,atG _,zq (by simpa using jR.out),zq (Ev.refl _)⟩
 case round=>
  obtain⟨j,S,rfl,rfl,hj,HS,kS⟩:=hrel;clear b7;have b7:=GM.out _ kS.out;have hz:=cZ S;have Gs:S.length≤1000000:=by rw[HS.out];exact RX.out j
  by_cases hlt:j<nk;exact avs;exact awn
theorem J9 (e:M) (b0:Nat) (w:World) (hL:Lx b0 [] w e) (hr:dK e.t=true) (hf:e.t.every bZ=true) (hz:e.t.size≤10000) (hn:(xTree e.t).fine=true) (hl:(printS (xTree e.t)).length≤1000000):
  (Calls Tryz.prog 85 #[.agg #[.int .i64 e.kind,.string ⟨e.s.toArray⟩,.int .i64 e.n,.slice e.A e.kids.length e.cap]] w fun r w'=>∃x:M,r=.returned (.agg #[.int .i64 x.kind,.string ⟨x.s.toArray⟩,.int .i64 x.n,.slice x.A x.kids.length x.cap,.int .i64 (x.pos:Int)])∧(∀w2,Ev w' w2→Calls Tryz.prog 84 #[.agg #[.int .i64 x.kind,.string ⟨x.s.toArray⟩,.int .i64 x.n,.slice x.A x.kids.length x.cap,.int .i64 (x.pos:Int)]] w2 fun r w''=>r=.returned (.string ⟨(printS (xTree e.t)).toArray⟩)∧Ev w2 w'')∧Ev w w'):=by
 refine (acA e.dep e b0 w (att _) hL hr hf (by omega)).mono ?_;rintro r w' ⟨x,rfl,hx,SS,hE⟩;refine⟨x,rfl,fun w2 bK=>?_,hE⟩;have h1:=YP SS w2 bK (by rw[hx];exact hl) (by rw[hx];exact zB _ (jl _ hn).1);rw[hx]at h1;exact h1
theorem Me (m:PM) (b0:Nat) (w:World) (h:Qx b0 [] w m) (hk:m.kind=2) (e:M) (he:m.ex.l=[e]) (hr:dK e.t=true) (hf:e.t.every bZ=true) (hz:e.t.size≤10000) (hn:(xTree e.t).fine=true) (hlen:(printS (aC m.p)).length≤1000000) (ih:∀x∈m.kids,∀w1,Ev w w1→Calls Tryz.prog 40 #[pv x] w1 (lH x.p w1)):
  Calls Tryz.prog 40 #[pv m] w (lH m.p w):=by
 obtain⟨PS,vN⟩:∃PS,PS=printS (aC m.p):=⟨_,rfl⟩
 have rU:=uJ m;rw[hk]at rU;unfold lH at*;rw[←vN]at rU hlen⊢;have hQ:=h;have zO:=h.ps;have hle:=zO.le;have hmx:=zO.max;obtain⟨w0,hw0,aT,hB0⟩:=J6 w (.int .i64 2) (.string ⟨m.name.toArray⟩) (.slice m.ex.A m.ex.l.length m.ex.cap) (.slice m.co.A m.co.l.length m.co.cap) (.slice m.lf.A m.lf.l.length m.lf.cap) (.slice m.rt.A m.rt.l.length m.rt.cap) (.slice m.ag.A m.ag.l.length m.ag.cap) (.slice m.A m.kids.length m.cap);have dH:=zq aT;have rQ:=zq hB0;obtain⟨⟨p0,p1,p2,p3,p4,p5,p6,p7⟩,_⟩:=hB0.eight;unfold pv at ih⊢;unfold eU.v PM.kv at*;rw[hk];obtain⟨PE,uF⟩:∃PE,PE=printS (xTree e.t):=⟨_,rfl⟩
 rw[he]at rU;obtain⟨HD,kE⟩:∃HD,HD=[aN dL,xTree e.t]:=⟨_,rfl⟩
 have rU:PS=o_ (HD++m.kids.map fun x=>aC x.p)++[41]:=by rw[kE];exact rU
 have hS1:o_ HD=[40,102,105,108,116,101,114]++[32]++PE:=by rw[kE,show [aN dL,xTree e.t]=[aN dL]++[xTree e.t] from rfl,iI (by simp),uF];rfl
 have hpl:PE.length≤1000000:=by have h1:=kC (m.kids.map fun x=>aC x.p) HD;have h2:=congrArg List.length rU;have h3:=congrArg List.length hS1;simp only[atv,atF,aur]at h2 h3;omega
 obtain⟨hex,hlx,_⟩:=hQ.at;have hes:=hex.sl;have hel:m.ex.l.length=1:=by rw[he];rfl
 rw[he]at hes;have hLe:=hlx e (by rw[he];simp);have Tj:=hes.le;have arh:=hes.max;obtain⟨be,ari,heA,WE,_⟩:=Es.cell hes (i:=0) (x:=e) rfl;rw[heA]at hes;have HEC:=zq (fun w1 (hE:Ev w w1)=>Es.cell (hes.ev hE) (i:=0) (x:=e) rfl);have HTR:=zq (fun w1 (hE:Ev w w1)=>J9 e b0 w1 (hLe.ev hE) hr hf hz hn (by rw[←uF];exact hpl));rw[←uF]at HTR;rw[hel,heA]at p2 rQ hw0⊢;obtain⟨be',aof,Xo,_,e0,e1,e2,e3⟩:=HEC.out _ dH.out;injection Xo with Xo
 injection Xo with h1 h2 _
 subst h1;subst h2;simp only[aud,atW]at e0 e1 e2 e3;unfold M.kv at e3;obtain⟨S1,afi⟩:∃S1,S1=o_ HD:=⟨_,rfl⟩
 have aaz:(⟨#[40,102,105,108,116,101,114]⟩:ByteArray)++⟨#[32]⟩=⟨#[40,102,105,108,116,101,114,32]⟩:=dV [40,102,105,108,116,101,114] [32];have lq:(⟨#[40,102,105,108,116,101,114,32]⟩:ByteArray)++⟨PE.toArray⟩=⟨S1.toArray⟩:=by rw[afi,hS1];exact dV [40,102,105,108,116,101,114,32] PE
 have hze:=cZ PE;have jR:Hid (S1=o_ HD):=zq afi;clear aT hB0 hQ h hk hes hex hlx hLe he hel heA uF hS1 afi hr hf hz hn;go_enter Tryz.func40,Tryz.ntmps40
 go_wp2_with (first
  | ((with_reducible refine (HTR.out _ dH.out).mono ?_);rintro r w1 ⟨x1,rfl,hPr,aH⟩;have alW:=zq hPr;have E1:=zq (dH.out.trans aH);have F1:=zq aH;clear hPr aH)
  | ((with_reducible refine (alW.out _ (Ev.refl _)).mono ?_);rintro r w2 ⟨rfl,bK⟩;have EW:=zq (E1.out.trans bK);have BW:=zq (rQ.out.ev (F1.out.trans bK));clear bK))
 have pg:=zq hlen;have EY:=zq rU;have BZ:=zq zO;have HQK:=zq (fun x (hx:x∈m.kids) w1 (hE:Ev w w1)=>ih x hx w1 hE);have RX:Hid (∀j,(o_ (HD++(m.kids.take j).map fun x=>aC x.p)).length≤1000000):=zq fun j=>by exact awY
 obtain⟨nk,xK⟩:∃nk,nk=m.kids.length:=⟨_,rfl⟩
 have wu:=zq xK;rw[←xK]at hle;have GM:Hid (∀wz,Ev w2 wz→wz.cell? ⟨w.heap.size,7,none⟩=some (.slice m.A nk m.cap)):=zq fun wz hE=>by exact ayg
 clear rU hlen zO ih xK;clear p0 p1 p2 p3 p4 p5 p6 p7 lq aaz;have b7:=GM.out _ (Ev.refl _)
 go_loopw [3,7] (fun sv iv wr=>∃(j:Nat) (S:By),sv=.string ⟨S.toArray⟩∧iv=.int .i64 (j:Int)∧j≤nk∧Hid (S=o_ (HD++(m.kids.take j).map fun x=>aC x.p))∧Hid (Ev w2 wr)) (fun _ iv _=>nk - (intOf iv).toNat)
 case atStart=>exact⟨0,_,rfl,rfl,atG _,zq (by simpa using jR.out),zq (Ev.refl _)⟩
 case round=>
  obtain⟨j,S,rfl,rfl,hj,HS,kS⟩:=hrel;clear b7;have b7:=GM.out _ kS.out;have hz:=cZ S;have Gs:S.length≤1000000:=by rw[HS.out];exact RX.out j
  by_cases hlt:j<nk;exact avs;exact awn
theorem Pg (m:PM) (b0:Nat) (w:World) (h:Qx b0 [] w m) (hk:m.kind=1) (NY:m.kids=[]) (hlen:(printS (aC m.p)).length≤1000000):
  Calls Tryz.prog 40 #[pv m] w (lH m.p w):=by
 obtain⟨PS,vN⟩:∃PS,PS=printS (aC m.p):=⟨_,rfl⟩
 have rU:=uJ m;rw[hk,NY]at rU;unfold lH;rw[←vN]at rU hlen⊢;have hS1:PS=[40,116,97,98,108,101,32]++m.name++[41]:=by rw[rU];show o_ ([aN gq]++[aN m.name]++[])++[41]=_;rw[auX,iI (by simp),show printS (aN m.name)=m.name by unfold aN;simp[printS]];rfl
 obtain⟨w0,hw0,aT,hB0⟩:=J6 w (.int .i64 1) (.string ⟨m.name.toArray⟩) (.slice m.ex.A m.ex.l.length m.ex.cap) (.slice m.co.A m.co.l.length m.co.cap) (.slice m.lf.A m.lf.l.length m.lf.cap) (.slice m.rt.A m.rt.l.length m.rt.cap) (.slice m.ag.A m.ag.l.length m.ag.cap) (.slice m.A m.kids.length m.cap);have dH:=zq aT;obtain⟨⟨p0,p1,p2,p3,p4,p5,p6,p7⟩,_⟩:=hB0.eight;unfold pv;unfold eU.v PM.kv;rw[hk];obtain⟨Z,hZ⟩:∃Z,Z=[40,116,97,98,108,101,32]++m.name:=⟨_,rfl⟩
 have lq:(⟨#[40,116,97,98,108,101,32]⟩:ByteArray)++⟨m.name.toArray⟩=⟨Z.toArray⟩:=by rw[hZ];exact dV [40,116,97,98,108,101,32] _
 have J5:(⟨Z.toArray⟩:ByteArray)++⟨#[41]⟩=⟨PS.toArray⟩:=by rw[hS1,←hZ];exact dV Z [41]
 have hz:=cZ m.name;have hz2:=cZ Z;have hl2:Z.length+1≤1000000:=by rw[hS1,←hZ,atv]at hlen;exact hlen
 have hl3:7+m.name.length=Z.length:=by rw[hZ,atv];rfl
 clear aT hB0 h hk NY rU vN hlen hS1 hZ;go_enter Tryz.func40,Tryz.ntmps40;go_wp2;go_ret;exact⟨rfl,dH.out⟩
theorem rq {ρ:Operand→Value} {o:Oper} {x y:Operand} {a b c:By} (ho:o.op=.binOp .add 9 x y 9) (hx:ρ x=.string ⟨a.toArray⟩) (hy:ρ y=.string ⟨b.toArray⟩) (hc:c=a++b) (hl:c.length≤1000000) (w:World):
  (execOp ρ o).run Tryz.prog w=.ok (.value (.string ⟨c.toArray⟩)) w:=by
 have h1:=cZ a;have h2:=cZ b;have h3:=dV a b;rw[←hc]at h3;have h4:a.length+b.length≤1000000:=by rw[hc,atv]at hl;exact hl
 unfold execOp;rw[ho];simp[hx,hy,go_sem,h1,h2,h3,show a.length+b.length≤9223372036854775807 by omega]
theorem Ph (l:List By) (A:Option Addr) (n cap:Nat) (P:By) (hP:P=printS (aU l)) (w:World) (h:Ss w A n cap l) (hb:P.length≤1000000):
  Calls Tryz.prog 86 #[.slice A n cap] w fun e w'=>e=.returned (.string ⟨P.toArray⟩)∧Ev w w':=by
 subst hP;refine acB l A n cap w h ?_;rw[NH,atv]at hb;omega
theorem axp {P:Prop} (h:P:=by
 have e1:a.eval (.tmp 1)=.pointer (some ⟨w.heap.size,0,none⟩):=(c.was 1 rfl)
 generalize a.eval=ρ at e1⊢;simp[execOp,e1,go_sem]):P:=h
theorem RY (m:PM) (b0:Nat) (w:World) (h:Qx b0 [] w m) (hk:m.kind=4) (hlen:(printS (aC m.p)).length≤1000000) (ih:∀x∈m.kids,∀w1,Ev w w1→Calls Tryz.prog 40 #[pv x] w1 (lH x.p w1)):
  Calls Tryz.prog 40 #[pv m] w (lH m.p w):=by
 obtain⟨PS,vN⟩:∃PS,PS=printS (aC m.p):=⟨_,rfl⟩
 have rU:=uJ m;rw[hk]at rU;unfold lH at*;rw[←vN]at rU hlen⊢;have hQ:=h;have zO:=h.ps;have hle:=zO.le;have hmx:=zO.max;obtain⟨w0,hw0,aT,hB0⟩:=J6 w (.int .i64 4) (.string ⟨m.name.toArray⟩) (.slice m.ex.A m.ex.l.length m.ex.cap) (.slice m.co.A m.co.l.length m.co.cap) (.slice m.lf.A m.lf.l.length m.lf.cap) (.slice m.rt.A m.rt.l.length m.rt.cap) (.slice m.ag.A m.ag.l.length m.ag.cap) (.slice m.A m.kids.length m.cap);have dH:=zq aT;have rQ:=zq hB0;obtain⟨⟨p0,p1,p2,p3,p4,p5,p6,p7⟩,_⟩:=hB0.eight;unfold pv at ih⊢;unfold eU.v PM.kv at*;rw[hk];obtain⟨PL,hPL⟩:∃PL,PL=printS (aU m.lf.l):=⟨_,rfl⟩
 obtain⟨PR,hPR⟩:∃PR,PR=printS (aU m.rt.l):=⟨_,rfl⟩
 obtain⟨HD,kE⟩:∃HD,HD=[aN gU,aU m.lf.l,aU m.rt.l]:=⟨_,rfl⟩
 have rU:PS=o_ (HD++m.kids.map fun x=>aC x.p)++[41]:=by rw[kE];exact rU
 obtain⟨J1,hJ1⟩:∃J1:By,J1=[40,106,111,105,110,32]++PL:=⟨_,rfl⟩
 obtain⟨J2,hJ2⟩:∃J2,J2=J1++[32]:=⟨_,rfl⟩
 obtain⟨J3,hJ3⟩:∃J3,J3=J2++PR:=⟨_,rfl⟩
 have hS1:J3=o_ HD:=by rw[kE,show [aN gU,aU m.lf.l,aU m.rt.l]=([aN gU]++[aU m.lf.l])++[aU m.rt.l] from rfl,iI (by simp),iI (by simp),←hPL,←hPR,hJ3,hJ2,hJ1];show _=([40,106,111,105,110]++_)++_;simp
 have hl3:J3.length≤1000000:=by have h1:=kC (m.kids.map fun x=>aC x.p) HD;have h2:=congrArg List.length rU;rw[atv,List.length_singleton]at h2;rw[hS1];omega
 have hl2:J2.length≤1000000:=by rw[hJ3,atv]at hl3;omega
 have KT:J1.length≤1000000:=by rw[hJ2,atv]at hl2;omega
 have hpl:PL.length≤1000000:=by rw[hJ1,atv]at KT;omega
 have alY:PR.length≤1000000:=by rw[hJ3,atv]at hl3;omega
 obtain⟨_,_,_,rC,hrt,_⟩:=hQ.at;have KR:=zq (fun w1 (hE:Ev w w1)=>Ph m.lf.l m.lf.A m.lf.l.length m.lf.cap PL hPL w1 (rC.sl.ev hE) hpl);have Dt:=zq (fun w1 (hE:Ev w w1)=>Ph m.rt.l m.rt.A m.rt.l.length m.rt.cap PR hPR w1 (hrt.sl.ev hE) alY);have hb0:=hB0.lt;have HJ1:=zq hJ1;have HJ2:=zq hJ2;have HJ3:=zq hJ3;have jR:Hid (J3=o_ HD):=zq hS1;have fJ:Tryz.prog.follows .mixedOrders=true:=by kernel_rfl
 clear aT hB0 hQ h hk rC hrt hPL hPR hS1 hJ1 hJ2 hJ3;go_enter Tryz.func40,Tryz.ntmps40;go_upto_region 17 with fail
 refine fH fJ [fun v _=>v=.pointer (some ⟨w.heap.size,4,none⟩),fun v _=>v=.slice m.lf.A m.lf.l.length m.lf.cap,fun v _=>v=.string ⟨PL.toArray⟩,fun v _=>v=.string ⟨J1.toArray⟩,fun v _=>v=.string ⟨J2.toArray⟩,fun v _=>v=.pointer (some ⟨w.heap.size,5,none⟩),fun v _=>v=.slice m.rt.A m.rt.l.length m.rt.cap,fun v _=>v=.string ⟨PR.toArray⟩,fun v _=>v=.string ⟨J3.toArray⟩,fun v _=>v=.string ⟨J3.toArray⟩]
  135 rfl (by kernel_rfl) ⟨az _,az _,az _,az _,az _,az _,az _,az _,az _,az _,trivial⟩ ?_ ?_
 ·refine aG 0 ?_ (aG 1 ?_ (aG 2 ?_ (aG 3 ?_ (aG 4 ?_ (aG 5 ?_ (aG 6 ?_ (aG 7 ?_ (aG 8 ?_ (aG 9 ?_ (qC 10))))))))));refine aJ fun a wq c=>⟨(ay rfl),.pointer (some ⟨w.heap.size,4,none⟩),?_,rfl⟩
  exact axp
  ·refine aJ fun a wq c=>⟨(ay rfl),.slice m.lf.A m.lf.l.length m.lf.cap,?_,rfl⟩
   have bI:a.eval (.tmp 67)=.pointer (some ⟨w.heap.size,4,none⟩):=(c.new 0 67)
   have hc:=(c.ev.cell (p:=⟨w.heap.size,4,none⟩) hb0).trans p4;generalize a.eval=ρ at bI⊢;simp[execOp,bI,hc,go_sem]
  refine jS fun a wq c=>⟨(ay rfl),86,#[.slice m.lf.A m.lf.l.length m.lf.cap],?_,?_⟩
  rw[bP 86 _ _ rfl (by kernel_rfl)];have e68:a.eval (.tmp 68)=.slice m.lf.A m.lf.l.length m.lf.cap:=(c.new 1 68)
  simp[e68];refine (KR.out wq (dH.out.trans c.ev)).mono ?_;rintro e w2 ⟨rfl,hE⟩;exact⟨_,rfl,hE,rfl⟩;refine aJ fun a wq c=>⟨(ay rfl),_,rq (a:=[40,106,111,105,110,32]) rfl (evc a _) (c.new 2 69) HJ1.out KT wq,rfl⟩
  refine aJ fun a wq c=>⟨(ay rfl),_,rq (b:=[32]) rfl (c.new 3 70) (evc a _) HJ2.out hl2 wq,rfl⟩
  refine aJ fun a wq c=>⟨(ay rfl),.pointer (some ⟨w.heap.size,5,none⟩),?_,rfl⟩
  exact axp
  ·refine aJ fun a wq c=>⟨(ay rfl),.slice m.rt.A m.rt.l.length m.rt.cap,?_,rfl⟩
   have bI:a.eval (.tmp 72)=.pointer (some ⟨w.heap.size,5,none⟩):=(c.new 5 72)
   have hc:=(c.ev.cell (p:=⟨w.heap.size,5,none⟩) hb0).trans p5;generalize a.eval=ρ at bI⊢;simp[execOp,bI,hc,go_sem]
  refine jS fun a wq c=>⟨(ay rfl),86,#[.slice m.rt.A m.rt.l.length m.rt.cap],?_,?_⟩
  rw[bP 86 _ _ rfl (by kernel_rfl)];have e73:a.eval (.tmp 73)=.slice m.rt.A m.rt.l.length m.rt.cap:=(c.new 6 73)
  simp[e73];refine (Dt.out wq (dH.out.trans c.ev)).mono ?_;rintro e w2 ⟨rfl,hE⟩;exact⟨_,rfl,hE,rfl⟩;refine aJ fun a wq c=>⟨(ay rfl),_,rq rfl (c.new 4 71) (c.new 7 74) HJ3.out hl3 wq,rfl⟩
  refine aJ fun a wq c=>⟨(ay rfl),_,run_assign _ rfl wq,(c.new 8 75)⟩
 intro sl wv Lj hold hnew;have f0:sl 0=.agg #[.int .i64 4,.string ⟨m.name.toArray⟩,.slice m.ex.A m.ex.l.length m.ex.cap,.slice m.co.A m.co.l.length m.co.cap,.slice m.lf.A m.lf.l.length m.lf.cap,.slice m.rt.A m.rt.l.length m.rt.cap,.slice m.ag.A m.ag.l.length m.ag.cap,.slice m.A m.kids.length m.cap]:=hold 0;have f1:sl 1=.pointer (some ⟨w.heap.size,0,none⟩):=hold 1;have f2:sl 2=.string ⟨#[]⟩:=hold 2;have f4:sl 4=undef:=hold 4;have f5:sl 5=undef:=hold 5;have f6:sl 6=undef:=hold 6;have f7:sl 7=undef:=hold 7;have f8:sl 8=.pointer (some ⟨w.heap.size,0,none⟩):=hold 8;have f9:sl 9=.int .i64 4:=hold 9;have f10:sl 10=.bool false:=hold 10;have f11:sl 11=.bool false:=hold 11;have f12:sl 12=undef:=hold 12;have f13:sl 13=undef:=hold 13;have f14:sl 14=undef:=hold 14;have f15:sl 15=undef:=hold 15;have f16:sl 16=.bool false:=hold 16;have f17:sl 17=.bool false:=hold 17;have f18:sl 18=undef:=hold 18;have f19:sl 19=undef:=hold 19;have f20:sl 20=undef:=hold 20;have f21:sl 21=undef:=hold 21;have f22:sl 22=undef:=hold 22;have f23:sl 23=undef:=hold 23;have f24:sl 24=undef:=hold 24;have f25:sl 25=undef:=hold 25;have f26:sl 26=undef:=hold 26;have f27:sl 27=undef:=hold 27;have f28:sl 28=undef:=hold 28;have f29:sl 29=undef:=hold 29;have f30:sl 30=undef:=hold 30;have f31:sl 31=.bool false:=hold 31;have f32:sl 32=.bool false:=hold 32;have f33:sl 33=undef:=hold 33;have f34:sl 34=undef:=hold 34;have f35:sl 35=undef:=hold 35;have f36:sl 36=undef:=hold 36;have f37:sl 37=undef:=hold 37;have f38:sl 38=undef:=hold 38;have f39:sl 39=undef:=hold 39;have f40:sl 40=undef:=hold 40;have f41:sl 41=undef:=hold 41;have f42:sl 42=undef:=hold 42;have f43:sl 43=undef:=hold 43;have f44:sl 44=undef:=hold 44;have f45:sl 45=undef:=hold 45;have f46:sl 46=undef:=hold 46;have f47:sl 47=undef:=hold 47;have f48:sl 48=undef:=hold 48;have f49:sl 49=undef:=hold 49;have f50:sl 50=undef:=hold 50;have f51:sl 51=undef:=hold 51;have f52:sl 52=undef:=hold 52;have f53:sl 53=undef:=hold 53;have f54:sl 54=undef:=hold 54
 have f55:sl 55=undef:=hold 55;have f56:sl 56=undef:=hold 56;have f57:sl 57=undef:=hold 57;have f58:sl 58=undef:=hold 58;have f59:sl 59=undef:=hold 59;have f60:sl 60=undef:=hold 60;have f61:sl 61=undef:=hold 61;have f62:sl 62=undef:=hold 62;have f63:sl 63=undef:=hold 63;have f64:sl 64=undef:=hold 64;have f65:sl 65=.bool true:=hold 65;have f66:sl 66=.bool true:=hold 66;have f76:sl 76=undef:=hold 76;have f77:sl 77=undef:=hold 77;have f78:sl 78=undef:=hold 78;have f79:sl 79=undef:=hold 79;have f80:sl 80=undef:=hold 80;have f81:sl 81=undef:=hold 81;have f82:sl 82=undef:=hold 82;have f83:sl 83=undef:=hold 83;have f84:sl 84=undef:=hold 84;have f85:sl 85=undef:=hold 85;have f86:sl 86=undef:=hold 86;have f87:sl 87=undef:=hold 87;have f88:sl 88=undef:=hold 88;have f89:sl 89=undef:=hold 89;have f90:sl 90=undef:=hold 90;have f91:sl 91=undef:=hold 91;have f92:sl 92=undef:=hold 92;have f93:sl 93=undef:=hold 93;have f94:sl 94=undef:=hold 94;have f95:sl 95=undef:=hold 95;have f96:sl 96=undef:=hold 96;have f97:sl 97=undef:=hold 97;have f98:sl 98=undef:=hold 98;have f99:sl 99=undef:=hold 99;have f100:sl 100=undef:=hold 100;have f101:sl 101=undef:=hold 101;have f102:sl 102=undef:=hold 102;have f103:sl 103=undef:=hold 103;have f104:sl 104=undef:=hold 104;have f105:sl 105=undef:=hold 105;have f106:sl 106=undef:=hold 106;have f107:sl 107=undef:=hold 107;have f108:sl 108=undef:=hold 108;have f109:sl 109=undef:=hold 109;have f110:sl 110=undef:=hold 110;have f111:sl 111=undef:=hold 111;have f112:sl 112=undef:=hold 112;have f113:sl 113=undef:=hold 113;have f114:sl 114=undef:=hold 114;have f115:sl 115=undef:=hold 115;have f116:sl 116=undef:=hold 116;have f117:sl 117=undef:=hold 117;have f118:sl 118=undef:=hold 118;have f119:sl 119=undef:=hold 119;have f120:sl 120=undef:=hold 120;have f121:sl 121=undef:=hold 121;have f122:sl 122=undef:=hold 122;have f123:sl 123=undef:=hold 123;have f124:sl 124=undef:=hold 124;have f125:sl 125=undef:=hold 125;have f126:sl 126=undef:=hold 126
 have f127:sl 127=undef:=hold 127;have f128:sl 128=undef:=hold 128;have f129:sl 129=undef:=hold 129;have f130:sl 130=undef:=hold 130;have f131:sl 131=undef:=hold 131;have f132:sl 132=undef:=hold 132;have f133:sl 133=undef:=hold 133;have f134:sl 134=undef:=hold 134;have f3:sl 3=.string ⟨J3.toArray⟩:=hnew 9 3;change Exit.inBlock _ _ .normal ⟨_,_⟩ _;simp only[List.range,List.range.loop,List.map];simp only[f0,f1,f2,f4,f5,f6,f7,f8,f9,f10,f11,f12,f13,f14,f15,f16,f17,f18,f19,f20,f21,f22,f23,f24,f25,f26,f27,f28,f29,f30,f31,f32,f33,f34,f35,f36,f37,f38,f39,f40,f41,f42,f43,f44,f45,f46,f47,f48,f49,f50,f51,f52,f53,f54,f55,f56,f57,f58,f59,f60,f61,f62,f63,f64,f65,f66,f76,f77,f78,f79,f80,f81,f82,f83,f84,f85,f86,f87,f88,f89,f90,f91,f92,f93,f94,f95,f96,f97,f98,f99,f100,f101,f102,f103,f104,f105,f106,f107,f108,f109,f110,f111,f112,f113,f114,f115,f116,f117,f118,f119,f120,f121,f122,f123,f124,f125,f126,f127,f128,f129,f130,f131,f132,f133,f134,f3];clear hold hnew;have EW:=zq (dH.out.trans Lj);have BW:=zq (rQ.out.ev Lj);clear Lj;go_wp2;have pg:=zq hlen;have EY:=zq rU;have BZ:=zq zO;have HQK:=zq (fun x (hx:x∈m.kids) w1 (hE:Ev w w1)=>ih x hx w1 hE);have RX:Hid (∀j,(o_ (HD++(m.kids.take j).map fun x=>aC x.p)).length≤1000000):=zq fun j=>by exact awY
 obtain⟨nk,xK⟩:∃nk,nk=m.kids.length:=⟨_,rfl⟩
 have wu:=zq xK;rw[←xK]at hle;have GM:Hid (∀wz,Ev wv wz→wz.cell? ⟨w.heap.size,7,none⟩=some (.slice m.A nk m.cap)):=zq fun wz hE=>by exact ayg
 clear rU hlen zO ih xK;clear p0 p1 p2 p3 p4 p5 p6 p7;have b7:=GM.out _ (Ev.refl _)
 go_loopw [3,7] (fun sv iv wr=>∃(j:Nat) (S:By),sv=.string ⟨S.toArray⟩∧iv=.int .i64 (j:Int)∧j≤nk∧Hid (S=o_ (HD++(m.kids.take j).map fun x=>aC x.p))∧Hid (Ev wv wr)) (fun _ iv _=>nk - (intOf iv).toNat)
 case atStart=>exact⟨0,_,rfl,rfl,atG _,zq (by simpa using jR.out),zq (Ev.refl _)⟩
 case round=>
  obtain⟨j,S,rfl,rfl,hj,HS,kS⟩:=hrel;clear b7;have b7:=GM.out _ kS.out;have hz:=cZ S;have Gs:S.length≤1000000:=by rw[HS.out];exact RX.out j
  by_cases hlt:j<nk;exact avs;exact awn
def PrF (P:By) (v:Value) (w:World):Prop:=∀w2,Ev w w2→Calls Tryz.prog 84 #[v] w2 fun r w'=>r=.returned (.string ⟨P.toArray⟩)∧Ev w2 w'
theorem PrF.mono (P:By):rF (PrF P):=fun v w w' hE h w2 bK=>h w2 (hE.trans bK)
theorem XV (c:By) (e:T):printS (bG c e)=40::(c++(32::(printS (xTree e)++[41]))):=by unfold bG;rw[DJ,show [aN c,xTree e]=[aN c]++[xTree e] from rfl,iI (by simp)];show (40::(printL true [aN c])++_)++_=_;rw[show printL true [aN c]=c by unfold aN;simp[printL,printS]];simp
theorem axE {P:Prop} (h:P:=by have h1:=kC (m.kids.map fun x=>aC x.p) HD;have h2:=congrArg List.length rU;rw[atv,List.length_singleton]at h2;omega):P:=h
theorem J_ (m:PM) (b0:Nat) (w:World) (h:Qx b0 [] w m) (hk:m.kind=3) (hn:m.ex.l.length=m.co.l.length) (hx:∀e∈m.ex.l,dK e.t=true∧e.t.every bZ=true∧e.t.size≤10000∧(xTree e.t).fine=true) (hlen:(printS (aC m.p)).length≤1000000) (ih:∀x∈m.kids,∀w1,Ev w w1→Calls Tryz.prog 40 #[pv x] w1 (lH x.p w1)):
  Calls Tryz.prog 40 #[pv m] w (lH m.p w):=by
 obtain⟨PS,vN⟩:∃PS,PS=printS (aC m.p):=⟨_,rfl⟩
 have rU:=uJ m;rw[hk]at rU;unfold lH at*;rw[←vN]at rU hlen⊢;have hQ:=h;have zO:=h.ps;have hle:=zO.le;have hmx:=zO.max;obtain⟨w0,hw0,aT,hB0⟩:=J6 w (.int .i64 3) (.string ⟨m.name.toArray⟩) (.slice m.ex.A m.ex.l.length m.ex.cap) (.slice m.co.A m.co.l.length m.co.cap) (.slice m.lf.A m.lf.l.length m.lf.cap) (.slice m.rt.A m.rt.l.length m.rt.cap) (.slice m.ag.A m.ag.l.length m.ag.cap) (.slice m.A m.kids.length m.cap);have dH:=zq aT;have rQ:=zq hB0;obtain⟨⟨p0,p1,p2,p3,p4,p5,p6,p7⟩,_⟩:=hB0.eight;unfold pv at ih⊢;unfold eU.v PM.kv at*;rw[hk];obtain⟨HD0,Pj⟩:∃HD0,HD0=List.zipWith bG m.co.l (m.ex.l.map M.t):=⟨_,rfl⟩
 obtain⟨HD,kE⟩:∃HD,HD=aN bM::HD0:=⟨_,rfl⟩
 have rU:PS=o_ (HD++m.kids.map fun x=>aC x.p)++[41]:=by rw[kE,Pj];exact rU
 have hl0:(o_ HD).length≤1000000:=by exact axE
 have qI:Hid (∀j,(o_ (aN bM::HD0.take j)).length≤1000000):=zq fun j=>by have h1:=kC (HD0.drop j) (aN bM::HD0.take j);rw[aue,auy,←kE]at h1;omega
 obtain⟨hex,hlx,zK,_⟩:=hQ.at;have hcs:=zK.sl;have hes:=hex.sl;rw[hn]at hes;have ag5:=hcs.le;have ak2:=hcs.max;have ag6:=hes.le;have ak3:=hes.max;have HCS:=zq hcs;have Qv:=zq hes;have LZ:=zq (fun e (he:e∈m.ex.l) w1 (hE:Ev w w1) (hl:(printS (xTree e.t)).length≤1000000)=>J9 e b0 w1 ((hlx e he).ev hE) (hx e he).1 (hx e he).2.1 (hx e he).2.2.1 (hx e he).2.2.2 hl);rw[hn]at p2 rQ hw0⊢;obtain⟨nc,yI⟩:∃nc,nc=m.co.l.length:=⟨_,rfl⟩
 have OX:=zq yI;rw[←yI]at p2 p3 rQ hw0 ag5 ag6⊢;have hzl:HD0.length=nc:=by rw[Pj,au3,atq,hn,←yI,Nat.min_self]
 have HZL:=zq hzl;have HZD:=zq Pj;have HDD:=zq kE;have ah1:Hid (∀wz,Ev w0 wz→wz.cell? ⟨w.heap.size,2,none⟩=some (.slice m.ex.A nc m.ex.cap)∧wz.cell? ⟨w.heap.size,3,none⟩=some (.slice m.co.A nc m.co.cap)):=zq fun wz hE=>by obtain⟨⟨_,_,h2,h3,_⟩,_⟩:=(rQ.out.ev hE).eight;exact⟨h2,h3⟩
 have fJ:Tryz.prog.follows .mixedOrders=true:=by kernel_rfl
 have HGX:=zq hB0.lt;clear aT hB0 hQ h hk hex hlx zK hcs hes yI hzl hl0 hn hx Pj;clear p0 p1 p2 p3 p4 p5 p6 p7;obtain⟨⟨p0,p1,p2,p3,p4,p5,p6,p7⟩,_⟩:=rQ.out.eight;clear p1 p4 p5 p6 p7;go_enter Tryz.func40,Tryz.ntmps40;go_wp2;clear p0 p2 p3;obtain⟨q2,q3⟩:=ah1.out _ (Ev.refl _)
 go_loopw [3,4] (fun sv iv wr=>∃(j:Nat) (S:By),sv=.string ⟨S.toArray⟩∧iv=.int .i64 (j:Int)∧j≤nc∧Hid (S=o_ (aN bM::HD0.take j))∧Hid (Ev w0 wr)) (fun _ iv _=>nc - (intOf iv).toNat)
 case atStart=>exact⟨0,[40,112,114,111,106,101,99,116],rfl,rfl,atG _,zq rfl,zq (Ev.refl _)⟩
 case round=>
  obtain⟨j,S,rfl,rfl,hj,HS,kS⟩:=hrel;rename World=>wa;clear q2 q3;obtain⟨q2,q3⟩:=ah1.out _ kS.out;have Gs:S.length≤1000000:=by rw[HS.out];exact qI.out j
  by_cases hlt:j<nc
  ·obtain⟨c,hc⟩:=HCS.out.at (by rw[←OX.out];exact hlt);obtain⟨e,he⟩:=Qv.out.at (by rw[←OX.out];exact hlt);obtain⟨b,off,hcA,hb,c0⟩:=Ss.cell2 (HCS.out.ev (dH.out.trans kS.out)) hc;obtain⟨b',off',heA,hb',e0,e1,e2,e3⟩:=Es.cell (Qv.out.ev (dH.out.trans kS.out)) he;rw[hcA]at q3;rw[heA]at q2;unfold M.kv at e3;obtain⟨PE,uF⟩:∃PE,PE=printS (xTree e.t):=⟨_,rfl⟩
   have hzj:HD0[j]?=some (bG c e.t):=by rw[HZD.out,List.getElem?_zipWith,hc,aul,he];rfl
   obtain⟨Q1,hQ1⟩:∃Q1,Q1=S++[32,40]:=⟨_,rfl⟩
   obtain⟨Q2,Yr⟩:∃Q2,Q2=Q1++c:=⟨_,rfl⟩
   obtain⟨Q3,Yt⟩:∃Q3,Q3=Q2++[32]:=⟨_,rfl⟩
   obtain⟨Q4,U_⟩:∃Q4,Q4=Q3++PE:=⟨_,rfl⟩
   obtain⟨Q5,hQ5⟩:∃Q5,Q5=Q4++[41]:=⟨_,rfl⟩
   have hY:Q5=o_ (aN bM::HD0.take (j+1)):=by obtain⟨hk2,hz2⟩:=atr.1 hzj;rw[atD hk2,hz2,←aue,iI (by simp),←HS.out,XV,←uF,hQ5,U_,Yt,Yr,hQ1];simp
   have hl5:Q5.length≤1000000:=by rw[hY];exact qI.out (j+1)
   have hl4:Q4.length≤1000000:=by rw[hQ5,atv]at hl5;omega
   have hl3:Q3.length≤1000000:=by rw[U_,atv]at hl4;omega
   have hl2:Q2.length≤1000000:=by rw[Yt,atv]at hl3;omega
   have KT:Q1.length≤1000000:=by rw[Yr,atv]at hl2;omega
   have hlp:PE.length≤1000000:=by rw[U_,atv]at hl4;omega
   have HTR:=zq (fun w1 (hE:Ev wa w1)=>LZ.out e (atw he) w1 ((dH.out.trans kS.out).trans hE) (by rw[←uF];exact hlp));rw[←uF]at HTR;have HQ1:=zq hQ1;have HQ2:=zq Yr;have HQ3:=zq Yt;have HQ4:=zq U_;have HQ5:=zq hQ5;have HY:=zq hY;have hgx:w.heap.size<wa.heap.size:=atM HGX.out kS.out.size;have i1:(0:Int)≤(j:Int):=by omega
   have i2:(j:Int)<(nc:Int):=by omega
   clear hc he hcA heA uF hzj hQ1 Yr Yt U_ hQ5 hY;go_upto_region 15 with fail
   refine fH fJ [fun v _=>v=.string ⟨S.toArray⟩,fun v _=>v=.string ⟨Q1.toArray⟩,fun v _=>v=.pointer (some ⟨w.heap.size,3,none⟩),fun v _=>v=.slice (some ⟨b,off,none⟩) nc m.co.cap,fun v _=>v=.int .i64 (j:Int),fun v _=>v=.pointer (some ⟨b,off+j,none⟩),fun v _=>v=.string ⟨c.toArray⟩,fun v _=>v=.string ⟨Q2.toArray⟩,fun v _=>v=.string ⟨Q3.toArray⟩,fun v _=>v=.pointer (some ⟨w.heap.size,2,none⟩),fun v _=>v=.slice (some ⟨b',off',none⟩) nc m.ex.cap,fun v _=>v=.int .i64 (j:Int),fun v _=>v=.pointer (some ⟨b',off'+j*4,none⟩),fun v _=>v=.agg #[.int .i64 e.kind,.string ⟨e.s.toArray⟩,.int .i64 e.n,.slice e.A e.kids.length e.cap],PrF PE,fun v _=>v=.string ⟨PE.toArray⟩,fun v _=>v=.string ⟨Q4.toArray⟩,fun v _=>v=.string ⟨Q5.toArray⟩,fun v _=>v=.string ⟨Q5.toArray⟩]
    135 rfl (by kernel_rfl) ⟨az _,az _,az _,az _,az _,az _,az _,az _,az _,az _,az _,az _,az _,az _,PrF.mono _,az _,az _,az _,az _,trivial⟩ ?_ ?_
   ·refine aG 0 ?_ (aG 1 ?_ (aG 2 ?_ (aG 3 ?_ (aG 4 ?_ (aG 5 ?_ (aG 6 ?_ (aG 7 ?_ (aG 8 ?_ (aG 9 ?_ (aG 10 ?_ (aG 11 ?_ (aG 12 ?_ (aG 13 ?_ (aG 14 ?_ (aG 15 ?_ (aG 16 ?_ (aG 17 ?_ (aG 18 ?_ (qC 19)))))))))))))))))));refine aJ fun a wq c=>⟨(ay rfl),_,run_move _ rfl wq,(c.was 3 rfl)⟩
    refine aJ fun a wq c_=>⟨(ay rfl),_,rq (b:=[32,40]) rfl (c_.new 0 47 (by kernel_rfl) (by kernel_rfl)) (evc a _) HQ1.out KT wq,rfl⟩
    refine aJ fun a wq c=>⟨(ay rfl),.pointer (some ⟨w.heap.size,3,none⟩),?_,rfl⟩
    exact axp
    ·refine aJ fun a wq c_=>⟨(ay rfl),.slice (some ⟨b,off,none⟩) nc m.co.cap,?_,rfl⟩
     have bI:a.eval (.tmp 49)=.pointer (some ⟨w.heap.size,3,none⟩):=(c_.new 2 49 (by kernel_rfl) (by kernel_rfl))
     have hc:=(c_.ev.cell (p:=⟨w.heap.size,3,none⟩) hgx).trans q3;generalize a.eval=ρ at bI⊢;simp[execOp,bI,hc,go_sem]
    refine aJ fun a wq c=>⟨(ay rfl),_,run_move _ rfl wq,(c.was 4 rfl)⟩
    ·refine aJ fun a wq c=>⟨(ay rfl),.pointer (some ⟨b,off+j,none⟩),?_,rfl⟩
     have e50:a.eval (.tmp 50)=.slice (some ⟨b,off,none⟩) nc m.co.cap:=(c.new 3 50)
     have e51:a.eval (.tmp 51)=.int .i64 (j:Int):=(c.new 4 51)
     generalize a.eval=ρ at e50 e51⊢;simp[execOp,e50,e51,go_sem,i1,i2]
    ·refine aJ fun a wq c_=>⟨(ay rfl),.string ⟨c.toArray⟩,?_,rfl⟩
     have bI:a.eval (.tmp 52)=.pointer (some ⟨b,off+j,none⟩):=(c_.new 5 52 (by kernel_rfl) (by kernel_rfl))
     have hc:=(c_.ev.cell (p:=⟨b,off+j,none⟩) hb).trans c0;generalize a.eval=ρ at bI⊢;simp[execOp,bI,hc,go_sem]
    refine aJ fun a wq c_=>⟨(ay rfl),_,rq rfl (c_.new 1 48 (by kernel_rfl) (by kernel_rfl)) (c_.new 6 53 (by kernel_rfl) (by kernel_rfl)) HQ2.out hl2 wq,rfl⟩
    refine aJ fun a wq c_=>⟨(ay rfl),_,rq (b:=[32]) rfl (c_.new 7 54 (by kernel_rfl) (by kernel_rfl)) (evc a _) HQ3.out hl3 wq,rfl⟩
    refine aJ fun a wq c=>⟨(ay rfl),.pointer (some ⟨w.heap.size,2,none⟩),?_,rfl⟩
    exact axp
    ·refine aJ fun a wq c_=>⟨(ay rfl),.slice (some ⟨b',off',none⟩) nc m.ex.cap,?_,rfl⟩
     have bI:a.eval (.tmp 56)=.pointer (some ⟨w.heap.size,2,none⟩):=(c_.new 9 56 (by kernel_rfl) (by kernel_rfl))
     have hc:=(c_.ev.cell (p:=⟨w.heap.size,2,none⟩) hgx).trans q2;generalize a.eval=ρ at bI⊢;simp[execOp,bI,hc,go_sem]
    refine aJ fun a wq c=>⟨(ay rfl),_,run_move _ rfl wq,(c.was 4 rfl)⟩
    ·refine aJ fun a wq c=>⟨(ay rfl),.pointer (some ⟨b',off'+j*4,none⟩),?_,rfl⟩
     have e57:a.eval (.tmp 57)=.slice (some ⟨b',off',none⟩) nc m.ex.cap:=(c.new 10 57)
     have e58:a.eval (.tmp 58)=.int .i64 (j:Int):=(c.new 11 58)
     generalize a.eval=ρ at e57 e58⊢;simp[execOp,e57,e58,go_sem,i1,i2]
    ·refine aJ fun a wq c_=>⟨(ay rfl),.agg #[.int .i64 e.kind,.string ⟨e.s.toArray⟩,.int .i64 e.n,.slice e.A e.kids.length e.cap],?_,rfl⟩
     have bI:a.eval (.tmp 59)=.pointer (some ⟨b',off'+j*4,none⟩):=(c_.new 12 59 (by kernel_rfl) (by kernel_rfl))
     have h0_:=(c_.ev.cell (p:=⟨b',off'+j*4,none⟩) hb').trans e0;have h1_:=(c_.ev.cell (p:=⟨b',off'+j*4+1,none⟩) hb').trans e1;have h2_:=(c_.ev.cell (p:=⟨b',off'+j*4+2,none⟩) hb').trans e2;have h3_:=(c_.ev.cell (p:=⟨b',off'+j*4+3,none⟩) hb').trans e3;generalize a.eval=ρ at bI⊢;simp[execOp,bI,h0_,h1_,h2_,h3_,go_sem]
    refine jS fun a wq c_=>⟨(ay rfl),85,#[.agg #[.int .i64 e.kind,.string ⟨e.s.toArray⟩,.int .i64 e.n,.slice e.A e.kids.length e.cap]],?_,?_⟩
    rw[bP 85 _ _ rfl (by kernel_rfl)];have bI:a.eval (.tmp 60)=.agg #[.int .i64 e.kind,.string ⟨e.s.toArray⟩,.int .i64 e.n,.slice e.A e.kids.length e.cap]:=(c_.new 13 60 (by kernel_rfl) (by kernel_rfl))
    simp[bI];refine (HTR.out wq c_.ev).mono ?_;rintro r w3 ⟨x1,rfl,F_,mY⟩;exact⟨_,rfl,mY,F_⟩;refine jS fun a wq c_=>?_;have F_:=(c_.got 14 61 (by kernel_rfl) (by kernel_rfl) rfl:PrF PE _ _)
    refine⟨(ay rfl),84,#[a.eval (.tmp 61)],?_,?_⟩;rw[bP 84 _ _ rfl (by kernel_rfl)];simp;refine (F_ wq (Ev.refl _)).mono ?_;rintro r w3 ⟨rfl,mY⟩;exact⟨_,rfl,mY,rfl⟩;refine aJ fun a wq c_=>⟨(ay rfl),_,rq rfl (c_.new 8 55 (by kernel_rfl) (by kernel_rfl)) (c_.new 15 62 (by kernel_rfl) (by kernel_rfl)) HQ4.out hl4 wq,rfl⟩
    refine aJ fun a wq c_=>⟨(ay rfl),_,rq (b:=[41]) rfl (c_.new 16 63 (by kernel_rfl) (by kernel_rfl)) (evc a _) HQ5.out hl5 wq,rfl⟩
    refine aJ fun a wq c=>⟨(ay rfl),_,run_assign _ rfl wq,(c.new 17 64)⟩
   intro sl wv Lj hold hnew;have f0:sl 0=.agg #[.int .i64 3,.string ⟨m.name.toArray⟩,.slice m.ex.A nc m.ex.cap,.slice m.co.A nc m.co.cap,.slice m.lf.A m.lf.l.length m.lf.cap,.slice m.rt.A m.rt.l.length m.rt.cap,.slice m.ag.A m.ag.l.length m.ag.cap,.slice m.A m.kids.length m.cap]:=hold 0;have f1:sl 1=.pointer (some ⟨w.heap.size,0,none⟩):=hold 1;have f2:sl 2=.string ⟨#[]⟩:=hold 2;have f4:sl 4=.int .i64 (j:Int):=hold 4;have f5:sl 5=undef:=hold 5;have f6:sl 6=undef:=hold 6;have f7:sl 7=undef:=hold 7;have f8:sl 8=.pointer (some ⟨w.heap.size,0,none⟩):=hold 8;have f9:sl 9=.int .i64 3:=hold 9;have f10:sl 10=.bool false:=hold 10;have f11:sl 11=.bool false:=hold 11;have f12:sl 12=undef:=hold 12;have f13:sl 13=undef:=hold 13;have f14:sl 14=undef:=hold 14;have f15:sl 15=undef:=hold 15;have f16:sl 16=.bool false:=hold 16;have f17:sl 17=.bool false:=hold 17;have f18:sl 18=undef:=hold 18;have f19:sl 19=undef:=hold 19;have f20:sl 20=undef:=hold 20;have f21:sl 21=undef:=hold 21;have f22:sl 22=undef:=hold 22;have f23:sl 23=undef:=hold 23;have f24:sl 24=undef:=hold 24;have f25:sl 25=undef:=hold 25;have f26:sl 26=undef:=hold 26;have f27:sl 27=undef:=hold 27;have f28:sl 28=undef:=hold 28;have f29:sl 29=undef:=hold 29;have f30:sl 30=undef:=hold 30;have f31:sl 31=.bool true:=hold 31;have f32:sl 32=.bool true:=hold 32;have f33:sl 33=.int .i64 (j:Int):=hold 33;have f34:sl 34=.pointer (some ⟨w.heap.size,3,none⟩):=hold 34;have f35:sl 35=.slice (some ⟨b,off,none⟩) nc m.co.cap:=hold 35;have f36:sl 36=.int .i64 (nc:Int):=hold 36;have f37:sl 37=.bool true:=hold 37;have f38:sl 38=.bool true:=hold 38;have f39:sl 39=.int .i64 (j:Int):=hold 39;have f40:sl 40=.pointer (some ⟨w.heap.size,2,none⟩):=hold 40;have f41:sl 41=.slice (some ⟨b',off',none⟩) nc m.ex.cap:=hold 41;have f42:sl 42=.int .i64 (nc:Int):=hold 42;have f43:sl 43=.bool true:=hold 43;have f44:sl 44=.bool true:=hold 44;have f45:sl 45=u45:=hold 45;have f46:sl 46=u46:=hold 46;have f65:sl 65=undef:=hold 65;have f66:sl 66=undef:=hold 66
   have f67:sl 67=undef:=hold 67;have f68:sl 68=undef:=hold 68;have f69:sl 69=undef:=hold 69;have f70:sl 70=undef:=hold 70;have f71:sl 71=undef:=hold 71;have f72:sl 72=undef:=hold 72;have f73:sl 73=undef:=hold 73;have f74:sl 74=undef:=hold 74;have f75:sl 75=undef:=hold 75;have f76:sl 76=undef:=hold 76;have f77:sl 77=undef:=hold 77;have f78:sl 78=undef:=hold 78;have f79:sl 79=undef:=hold 79;have f80:sl 80=undef:=hold 80;have f81:sl 81=undef:=hold 81;have f82:sl 82=undef:=hold 82;have f83:sl 83=undef:=hold 83;have f84:sl 84=undef:=hold 84;have f85:sl 85=undef:=hold 85;have f86:sl 86=undef:=hold 86;have f87:sl 87=undef:=hold 87;have f88:sl 88=undef:=hold 88;have f89:sl 89=undef:=hold 89;have f90:sl 90=undef:=hold 90;have f91:sl 91=undef:=hold 91;have f92:sl 92=undef:=hold 92;have f93:sl 93=undef:=hold 93;have f94:sl 94=undef:=hold 94;have f95:sl 95=undef:=hold 95;have f96:sl 96=undef:=hold 96;have f97:sl 97=undef:=hold 97;have f98:sl 98=undef:=hold 98;have f99:sl 99=undef:=hold 99;have f100:sl 100=undef:=hold 100;have f101:sl 101=undef:=hold 101;have f102:sl 102=undef:=hold 102;have f103:sl 103=undef:=hold 103;have f104:sl 104=undef:=hold 104;have f105:sl 105=undef:=hold 105;have f106:sl 106=undef:=hold 106;have f107:sl 107=undef:=hold 107;have f108:sl 108=undef:=hold 108;have f109:sl 109=undef:=hold 109;have f110:sl 110=undef:=hold 110;have f111:sl 111=undef:=hold 111;have f112:sl 112=undef:=hold 112;have f113:sl 113=undef:=hold 113;have f114:sl 114=undef:=hold 114;have f115:sl 115=undef:=hold 115;have f116:sl 116=undef:=hold 116;have f117:sl 117=undef:=hold 117;have f118:sl 118=undef:=hold 118;have f119:sl 119=undef:=hold 119;have f120:sl 120=undef:=hold 120;have f121:sl 121=undef:=hold 121;have f122:sl 122=undef:=hold 122;have f123:sl 123=undef:=hold 123;have f124:sl 124=undef:=hold 124;have f125:sl 125=undef:=hold 125;have f126:sl 126=undef:=hold 126;have f127:sl 127=undef:=hold 127;have f128:sl 128=undef:=hold 128;have f129:sl 129=undef:=hold 129
   have f130:sl 130=undef:=hold 130;have f131:sl 131=undef:=hold 131;have f132:sl 132=undef:=hold 132;have f133:sl 133=undef:=hold 133;have f134:sl 134=undef:=hold 134;have f3:sl 3=.string ⟨Q5.toArray⟩:=hnew 18 3;change (_:Act→World→Prop) ⟨_,_⟩ _;simp only[List.range,List.range.loop,List.map];simp only[f0,f1,f2,f4,f5,f6,f7,f8,f9,f10,f11,f12,f13,f14,f15,f16,f17,f18,f19,f20,f21,f22,f23,f24,f25,f26,f27,f28,f29,f30,f31,f32,f33,f34,f35,f36,f37,f38,f39,f40,f41,f42,f43,f44,f45,f46,f65,f66,f67,f68,f69,f70,f71,f72,f73,f74,f75,f76,f77,f78,f79,f80,f81,f82,f83,f84,f85,f86,f87,f88,f89,f90,f91,f92,f93,f94,f95,f96,f97,f98,f99,f100,f101,f102,f103,f104,f105,f106,f107,f108,f109,f110,f111,f112,f113,f114,f115,f116,f117,f118,f119,f120,f121,f122,f123,f124,f125,f126,f127,f128,f129,f130,f131,f132,f133,f134,f3];clear hold hnew;go_wp2;go_roundw
   case rel=>exact⟨j+1,Q5,rfl,by go_num,by omega,HY,zq (kS.out.trans Lj)⟩
   case measure=>simp[intOf];omega
  obtain rfl:j=nc:=by omega
  have jR:Hid (S=o_ HD):=zq (by rw[HS.out,HDD.out,atJ (by rw[HZL.out];exact att _)]);have EW:=zq (dH.out.trans kS.out);have BW:=zq (rQ.out.ev kS.out);have q0:=trivial;go_wp2;have pg:=zq hlen;have EY:=zq rU;have BZ:=zq zO;have HQK:=zq (fun x (hx:x∈m.kids) w1 (hE:Ev w w1)=>ih x hx w1 hE);have RX:Hid (∀j,(o_ (HD++(m.kids.take j).map fun x=>aC x.p)).length≤1000000):=zq fun j=>by exact awY
  obtain⟨nk,xK⟩:∃nk,nk=m.kids.length:=⟨_,rfl⟩
  have wu:=zq xK;rw[←xK]at hle;have GM:Hid (∀wz,Ev wa wz→wz.cell? ⟨w.heap.size,7,none⟩=some (.slice m.A nk m.cap)):=zq fun wz hE=>by exact ayg
  clear rU hlen zO ih xK;have b7:=GM.out _ (Ev.refl _)
  go_loopw [3,7] (fun sv iv wr=>∃(j:Nat) (S:By),sv=.string ⟨S.toArray⟩∧iv=.int .i64 (j:Int)∧j≤nk∧Hid (S=o_ (HD++(m.kids.take j).map fun x=>aC x.p))∧Hid (Ev wa wr)) (fun _ iv _=>nk - (intOf iv).toNat)
  case atStart=>exact⟨0,_,rfl,rfl,atG _,zq (by simpa using jR.out),zq (Ev.refl _)⟩
  case round=>
   obtain⟨j,S,rfl,rfl,hj,HS,kS⟩:=hrel;clear b7;have b7:=GM.out _ kS.out;have hz:=cZ S;have Gs:S.length≤1000000:=by rw[HS.out];exact RX.out j
   by_cases hlt:j<nk;exact avs;exact awn
theorem ah2 (w:World) (c0 c1 c2:Value):∃w0,w.alloc (.cells #[c0,c1,c2] 54)=w0∧Ev w w0∧Bx 54 w.heap.size #[c0,c1,c2] w0:=⟨_,rfl,Ev.alloc _ _,Bx.new _ _ _⟩
theorem aaB {s:By} (h:jh s=true):s≠[]:=fun e=>by rw[e]at h;exact absurd h (by decide+kernel)
theorem aaC {a:Ag} (h:I5 a):printS (eQ a)=40::(a.1++(32::(a.2.1++((if a.2.1=iH then [] else 32::a.2.2)++[41])))):=by
 have hp:∀s:By,printS (aN s)=s:=fun s=>by unfold aN;simp[printS]
 have h1:∀s:By,o_ [aN s]=40::s:=fun s=>by unfold o_;simp[printL,hp]
 unfold eQ;rcases h.2 with⟨hf,hc⟩|⟨hf,hc⟩
 rw[hc];simp only[List.isEmpty_nil,if_true];rw[if_pos hf,DJ,show [aN a.1,aN a.2.1]=[aN a.1]++[aN a.2.1] from rfl,iI (by simp),h1,hp];simp;have hne:=aaB hc;have hcf:¬a.2.1=iH:=by rcases hf with e|e|e<;>rw[e]<;>decide
 have hie:a.2.2.isEmpty=false:=by
  cases hh:a.2.2 with
  | nil=>exact absurd hh hne
  | cons x l=>rfl
 rw[hie,if_neg hcf,DJ,if_neg (by simp),show [aN a.1,aN a.2.1,aN a.2.2]=([aN a.1]++[aN a.2.1])++[aN a.2.2] from rfl,iI (by simp),iI (by simp),h1,hp,hp];simp
theorem axT {P:Prop} (h:P:=by
 go_wp2;go_roundw
 case rel=>exact⟨j+1,Q7,rfl,by go_num,by omega,HY,Xd⟩
 case measure=>simp[intOf];omega):P:=h
theorem Pm (m:PM) (b0:Nat) (w:World) (h:Qx b0 [] w m) (hk:m.kind=7) (hg:∀a∈m.ag.l,I5 a) (hlen:(printS (aC m.p)).length≤1000000) (ih:∀x∈m.kids,∀w1,Ev w w1→Calls Tryz.prog 40 #[pv x] w1 (lH x.p w1)):
  Calls Tryz.prog 40 #[pv m] w (lH m.p w):=by
 obtain⟨PS,vN⟩:∃PS,PS=printS (aC m.p):=⟨_,rfl⟩
 have rU:=uJ m;rw[hk]at rU;unfold lH at*;rw[←vN]at rU hlen⊢;have hQ:=h;have zO:=h.ps;have hle:=zO.le;have hmx:=zO.max;obtain⟨w0,hw0,aT,hB0⟩:=J6 w (.int .i64 7) (.string ⟨m.name.toArray⟩) (.slice m.ex.A m.ex.l.length m.ex.cap) (.slice m.co.A m.co.l.length m.co.cap) (.slice m.lf.A m.lf.l.length m.lf.cap) (.slice m.rt.A m.rt.l.length m.rt.cap) (.slice m.ag.A m.ag.l.length m.ag.cap) (.slice m.A m.kids.length m.cap);have dH:=zq aT;have rQ:=zq hB0;obtain⟨⟨p0,p1,p2,p3,p4,p5,p6,p7⟩,_⟩:=hB0.eight;unfold pv at ih⊢;unfold eU.v PM.kv at*;rw[hk];obtain⟨PL,hPL⟩:∃PL,PL=printS (aU m.lf.l):=⟨_,rfl⟩
 obtain⟨H0,RZ⟩:∃H0:List T,H0=[aN dY,aU m.lf.l]:=⟨_,rfl⟩
 obtain⟨HA,V8⟩:∃HA,HA=m.ag.l.map eQ:=⟨_,rfl⟩
 obtain⟨HD,kE⟩:∃HD,HD=H0++HA:=⟨_,rfl⟩
 have ah3:H0≠[]:=by rw[RZ];simp
 have ah4:HD≠[]:=by rw[kE,RZ];simp
 have rU:PS=o_ (HD++m.kids.map fun x=>aC x.p)++[41]:=by rw[kE,RZ,V8];exact rU
 have hl0:(o_ HD).length≤1000000:=by exact axE
 have qI:Hid (∀j,(o_ (H0++HA.take j)).length≤1000000):=zq fun j=>by have h1:=kC (HA.drop j) (H0++HA.take j);rw[atS,auy,←kE]at h1;omega
 obtain⟨G0,hG0⟩:∃G0:By,G0=[40,103,114,111,117,112,32]++PL:=⟨_,rfl⟩
 have afk:G0=o_ H0:=by rw[RZ,show [aN dY,aU m.lf.l]=[aN dY]++[aU m.lf.l] from rfl,iI (by simp),←hPL,hG0];rfl
 have hlg:G0.length≤1000000:=by have:=qI.out 0;rw[List.take_zero,auX,←afk]at this;exact this
 have hlp:PL.length≤999993:=by rw[hG0,atv]at hlg;simp only[atF,aur]at hlg;omega
 have aaz:(⟨#[40,103,114,111,117,112,32]⟩:ByteArray)++⟨PL.toArray⟩=⟨G0.toArray⟩:=by rw[hG0];exact dV [40,103,114,111,117,112,32] _
 have hz0:=cZ PL;obtain⟨_,_,_,rC,_,zf,_⟩:=hQ.at;have KR:=zq (fun w1 (hE:Ev w w1)=>Ph m.lf.l m.lf.A m.lf.l.length m.lf.cap PL hPL w1 (rC.sl.ev hE) (by omega));have acE:=zf.sl;have hca:=acE.le;have hcm:=acE.max;have HAS:=zq acE;obtain⟨na,JS⟩:∃na,na=m.ag.l.length:=⟨_,rfl⟩
 have ES:=zq JS;rw[←JS]at p6 rQ hw0 hca⊢;have Oe:=zq (show HA.length=na by rw[V8,atq,JS]);have HAD:=zq V8;have HDD:=zq kE;have al1:=zq afk;have HGA:=zq hg;have HNE:=zq ah3;have al2:=zq ah4;have pF:Hid (∀wz,Ev w0 wz→wz.cell? ⟨w.heap.size,6,none⟩=some (.slice m.ag.A na m.ag.cap)):=zq fun wz hE=>by obtain⟨⟨_,_,_,_,_,_,h6,_⟩,_⟩:=(rQ.out.ev hE).eight;exact h6
 clear aT hB0 hQ h hk rC zf acE hPL hG0 afk JS V8 kE RZ hl0 hg ah3 ah4;go_enter Tryz.func40,Tryz.ntmps40
 go_wp2_with (first
  | ((with_reducible refine (KR.out _ dH.out).mono ?_);rintro r w1 ⟨rfl,aH⟩;have F1:=zq aH;clear aH))
 clear p0 p1 p2 p3 p4 p5 p6 p7 aaz;have q6:=pF.out _ F1.out
 go_loopw [3,5] (fun sv iv wr=>∃(j:Nat) (S:By),sv=.string ⟨S.toArray⟩∧iv=.int .i64 (j:Int)∧j≤na∧Hid (S=o_ (H0++HA.take j))∧Hid (Ev w0 wr)) (fun _ iv _=>na - (intOf iv).toNat)
 case atStart=>exact⟨0,G0,rfl,rfl,atG _,zq (by rw[List.take_zero,auX];exact al1.out),F1⟩
 case round=>
  obtain⟨j,S,rfl,rfl,hj,HS,kS⟩:=hrel;rename World=>wa;clear q6;have q6:=pF.out _ kS.out;have Gs:S.length≤1000000:=by rw[HS.out];exact qI.out j
  have hz:=cZ S;by_cases hlt:j<na;obtain⟨a,ha⟩:=HAS.out.at (by rw[←ES.out];exact hlt);obtain⟨b,off,haA,hb,hcells⟩:=(HAS.out.ev (dH.out.trans kS.out)).rd (by rw[←ES.out];omega);have c0:=hcells j a ha 0 _ rfl;have c1:=hcells j a ha 1 _ rfl;have c2:=hcells j a ha 2 _ rfl;simp only[atW]at c0;rw[haA]at q6;have hga:=HGA.out a (atw ha);have hzj:HA[j]?=some (eQ a):=by rw[HAD.out,aul,ha];rfl
  have hap:=aaC hga;have Yl:=qI.out (j+1);have htj:o_ (H0++HA.take (j+1))=S++(32::printS (eQ a)):=by obtain⟨hk2,hz2⟩:=atr.1 hzj;rw[atD hk2,hz2,←atS,iI (by simp[HNE.out]),←HS.out]
  rw[htj,hap]at Yl;rw[hap]at htj;obtain⟨an,af,ac_⟩:=a;simp only at c0 c1 c2 Yl htj hga;obtain⟨w3,hw3,iE,pq⟩:=ah2 wa (.string ⟨an.toArray⟩) (.string ⟨af.toArray⟩) (.string ⟨ac_.toArray⟩);obtain⟨⟨e0,e1,e2⟩,_⟩:=pq.three;have Xd:=zq (kS.out.trans iE);obtain⟨Q1,hQ1⟩:∃Q1,Q1=S++[32,40]:=⟨_,rfl⟩
  obtain⟨Q2,Yr⟩:∃Q2,Q2=Q1++an:=⟨_,rfl⟩
  obtain⟨Q3,Yt⟩:∃Q3,Q3=Q2++[32]:=⟨_,rfl⟩
  have k1:(⟨S.toArray⟩:ByteArray)++⟨#[32,40]⟩=⟨Q1.toArray⟩:=by rw[hQ1];exact dV S [32,40]
  have k2:(⟨Q1.toArray⟩:ByteArray)++⟨an.toArray⟩=⟨Q2.toArray⟩:=by rw[Yr];exact dV _ _
  have k3:(⟨Q2.toArray⟩:ByteArray)++⟨#[32]⟩=⟨Q3.toArray⟩:=by rw[Yt];exact dV Q2 [32]
  have s1:=cZ Q1;have s2:=cZ Q2;have s3:=cZ Q3;have s4:=cZ an;have i1:(0:Int)≤(j:Int):=by omega
  have i2:(j:Int)<(na:Int):=by omega
  by_cases YN:af=iH;subst YN;rw[if_pos rfl]at htj Yl;obtain⟨Q4,U_⟩:∃Q4,Q4=Q3++iH:=⟨_,rfl⟩
  obtain⟨Q7,hQ7⟩:∃Q7,Q7=Q4++[41]:=⟨_,rfl⟩
  have hY:Q7=o_ (H0++HA.take (j+1)):=by rw[htj,hQ7,U_,Yt,Yr,hQ1];simp
  have hl7:Q7.length≤1000000:=by rw[hY];exact qI.out (j+1)
  have hl4:Q4.length+1≤1000000:=by rw[hQ7,atv]at hl7;exact hl7
  have hl3:Q3.length+5≤1000000:=by rw[U_,atv]at hl4;simp only[iH,atF,aur]at hl4;omega
  have hl2:Q2.length+1≤1000000:=by rw[Yt,atv]at hl3;simp only[atF,aur]at hl3;omega
  have KT:Q1.length+an.length≤1000000:=by rw[Yr,atv]at hl2;omega
  have ZW:S.length+2≤1000000:=by rw[hQ1,atv]at KT;simp only[atF,aur]at KT;omega
  have k4:(⟨Q3.toArray⟩:ByteArray)++⟨iH.toArray⟩=⟨Q4.toArray⟩:=by rw[U_];exact dV _ _
  have k7:(⟨Q4.toArray⟩:ByteArray)++⟨#[41]⟩=⟨Q7.toArray⟩:=by rw[hQ7];exact dV Q4 [41]
  have s5:=cZ Q4;have HY:=zq hY;clear hY hQ1 Yr Yt U_ hQ7 htj Yl hap hzj hga ha hcells haA iE pq;unfold iH at*;simp only[List.toArray]at k4 c1 e1 hw3;exact axT;rw[if_neg YN]at htj Yl;have hcb:(af==iH)=false:=atp.2 YN;obtain⟨Q4,U_⟩:∃Q4,Q4=Q3++af:=⟨_,rfl⟩
  obtain⟨Q5,hQ5⟩:∃Q5,Q5=Q4++[32]:=⟨_,rfl⟩
  obtain⟨Q6,hQ6⟩:∃Q6,Q6=Q5++ac_:=⟨_,rfl⟩
  obtain⟨Q7,hQ7⟩:∃Q7,Q7=Q6++[41]:=⟨_,rfl⟩
  have hY:Q7=o_ (H0++HA.take (j+1)):=by rw[htj,hQ7,hQ6,hQ5,U_,Yt,Yr,hQ1];simp
  have hl7:Q7.length≤1000000:=by rw[hY];exact qI.out (j+1)
  have hl6:Q6.length+1≤1000000:=by rw[hQ7,atv]at hl7;exact hl7
  have hl5:Q5.length+ac_.length≤1000000:=by rw[hQ6,atv]at hl6;omega
  have hl4:Q4.length+1≤1000000:=by rw[hQ5,atv]at hl5;simp only[atF,aur]at hl5;omega
  have hl3:Q3.length+af.length≤1000000:=by rw[U_,atv]at hl4;omega
  have hl2:Q2.length+1≤1000000:=by rw[Yt,atv]at hl3;simp only[atF,aur]at hl3;omega
  have KT:Q1.length+an.length≤1000000:=by rw[Yr,atv]at hl2;omega
  have ZW:S.length+2≤1000000:=by rw[hQ1,atv]at KT;simp only[atF,aur]at KT;omega
  have k4:(⟨Q3.toArray⟩:ByteArray)++⟨af.toArray⟩=⟨Q4.toArray⟩:=by rw[U_];exact dV _ _
  have k5:(⟨Q4.toArray⟩:ByteArray)++⟨#[32]⟩=⟨Q5.toArray⟩:=by rw[hQ5];exact dV Q4 [32]
  have k6:(⟨Q5.toArray⟩:ByteArray)++⟨ac_.toArray⟩=⟨Q6.toArray⟩:=by rw[hQ6];exact dV _ _
  have k7:(⟨Q6.toArray⟩:ByteArray)++⟨#[41]⟩=⟨Q7.toArray⟩:=by rw[hQ7];exact dV Q6 [41]
  have s5:=cZ Q4;have s6:=cZ Q5;have s7:=cZ Q6;have s8:=cZ af;have s9:=cZ ac_;have HY:=zq hY;clear hY hQ1 Yr Yt U_ hQ5 hQ6 hQ7 htj Yl hap hzj hga ha hcells haA iE pq YN;unfold iH at*;exact axT;obtain rfl:j=na:=by omega
  have jR:Hid (S=o_ HD):=zq (by rw[HS.out,HDD.out,atJ (by rw[Oe.out];exact att _)]);have EW:=zq (dH.out.trans kS.out);have BW:=zq (rQ.out.ev kS.out);go_wp2;have pg:=zq hlen;have EY:=zq rU;have BZ:=zq zO;have HQK:=zq (fun x (hx:x∈m.kids) w1 (hE:Ev w w1)=>ih x hx w1 hE);have RX:Hid (∀j,(o_ (HD++(m.kids.take j).map fun x=>aC x.p)).length≤1000000):=zq fun j=>by exact awY
  obtain⟨nk,xK⟩:∃nk,nk=m.kids.length:=⟨_,rfl⟩
  have wu:=zq xK;rw[←xK]at hle;have GM:Hid (∀wz,Ev wa wz→wz.cell? ⟨w.heap.size,7,none⟩=some (.slice m.A nk m.cap)):=zq fun wz hE=>by exact ayg
  clear rU hlen zO ih xK;have b7:=GM.out _ (Ev.refl _)
  go_loopw [3,7] (fun sv iv wr=>∃(j:Nat) (S:By),sv=.string ⟨S.toArray⟩∧iv=.int .i64 (j:Int)∧j≤nk∧Hid (S=o_ (HD++(m.kids.take j).map fun x=>aC x.p))∧Hid (Ev wa wr)) (fun _ iv _=>nk - (intOf iv).toNat)
  case atStart=>exact⟨0,_,rfl,rfl,atG _,zq (by simpa using jR.out),zq (Ev.refl _)⟩
  case round=>
   obtain⟨j,S,rfl,rfl,hj,HS,kS⟩:=hrel;clear b7;have b7:=GM.out _ kS.out;have hz:=cZ S;have Gs:S.length≤1000000:=by rw[HS.out];exact RX.out j
   by_cases hlt:j<nk;obtain⟨x,hx⟩:=BZ.out.at (by rw[←wu.out];exact hlt);have iF:=atw hx;obtain⟨b,off,P5,hb,_⟩:=(BZ.out.ev (EW.out.trans kS.out)).rd (by rw[←wu.out];omega);have o9:=BZ.out.ev (EW.out.trans kS.out);rw[P5]at o9 b7;obtain⟨c0,c1,c2,c3,c4,c5,c6,c7⟩:=Ps.cell o9 hx;unfold eU.v PM.kv at*;have nX:=tN hx;obtain⟨PX,J7⟩:∃PX,PX=printS (aC x.p):=⟨_,rfl⟩
   obtain⟨Z,hZ⟩:∃Z,Z=S++[32]:=⟨_,rfl⟩
   obtain⟨Y,hY⟩:∃Y,Y=Z++PX:=⟨_,rfl⟩
   have J8:Y=o_ (HD++(m.kids.take (j+1)).map fun x=>aC x.p):=by rw[nX,←atS,iI (by simp[al2.out]),←HS.out,hY,hZ,J7];simp
   exact avz;exact awn
theorem XW {m:PM} (hg:m.p.good):∀t∈jL m.kind m.name (m.ex.l.map M.t) m.co.l m.lf.l m.rt.l m.ag.l,t.fine=true∧t.size≤(aC m.p).size:=by
 obtain⟨_,_,hf⟩:=QT m.p hg;have he:=xm m.p;rw[he]at hf;have hall:=nD hf;intro t ht;have Yg:t∈jL m.p.kind m.p.name m.p.exprs m.p.cols m.p.left m.p.right m.p.Ez:=by rw[PM.pY];exact ht
 refine⟨hall t (atO _ Yg),?_⟩;rw[he,qw];have:=iy (at7 (f:=T.size) (atO (m.p.kids.map aC) Yg));omega
theorem Va {p k:Pl} (hk:k∈p.kids):(aC k).size≤(aC p).size∧(printS (aC k)).length≤(printS (aC p)).length:=by have hm:aC k∈jL p.kind p.name p.exprs p.cols p.left p.right p.Ez++p.kids.map aC:=auk _ (at7 hk);rw[xm p,qw,Jw];have e1:=iy (at7 (f:=T.size) hm);have e2:=Jv _ true _ hm;exact⟨by omega,by omega⟩
theorem adG {e:M} (h:uq e.t) (hs:(xTree e.t).size≤10000) (hf:(xTree e.t).fine=true):dK e.t=true∧e.t.every bZ=true∧e.t.size≤10000∧(xTree e.t).fine=true:=
 ⟨h.right,h.fair,by have:=h.size;omega,hf⟩
theorem V9 (N:Nat):∀(m:PM) (b0:Nat) (w:World),m.dep≤N→Qx b0 [] w m→m.p.good→(aC m.p).size≤10000→(printS (aC m.p)).length≤1000000→
  Calls Tryz.prog 40 #[pv m] w (lH m.p w):=by
 induction N with
 | zero=>
  intro m b0 w hd;rw[PM.mX]at hd;omega
 | succ N ih=>
  intro m b0 w hd h hg hs hl;have wU:m.p.kids=m.kids.map PM.p:=by rw[PM.pY];rfl
  have hI:∀x∈m.kids,∀w1,Ev w w1→Calls Tryz.prog 40 #[pv x] w1 (lH x.p w1):=fun x hx w1 hE=>by
   have hm:x.p∈m.p.kids:=by rw[wU];exact at7 hx
   have hb:=Va hm;exact ih x b0 w1 (by have:=PM.lF hx;omega) ((h.kid x hx).ev hE) (Nu hg _ hm) (by omega) (by omega)
  have hF:=XW hg;have hgh:wS m.kind m.name (m.ex.l.map M.t) m.co.l m.lf.l m.rt.l m.ag.l m.kids.length:=by have h1:=hg;rw[PM.pY,Pl.good,atq]at h1;exact h1.1
  rcases hgh with⟨hk,_,_,_,_,_,_,hn⟩|⟨hk,_,⟨e,he,hge⟩,_⟩|⟨hk,_,he,Tj,_⟩|⟨hk,_⟩|⟨hk,_⟩|⟨hk,_⟩|⟨hk,_,_,_,_,_,ha,_⟩
  exact Pg m b0 w h hk (aup hn) hl;obtain⟨e1,he1,IG⟩:∃e1,m.ex.l=[e1]∧e1.t=e:=by
   match hh:m.ex.l,he with
   | [e1],he=>exact⟨e1,rfl,by simpa using he⟩
  subst IG;have hin:xTree e1.t∈jL m.kind m.name (m.ex.l.map M.t) m.co.l m.lf.l m.rt.l m.ag.l:=by rw[hk,he1];simp[jL]
  obtain⟨x1,x2,x3,x4⟩:=adG hge (by have:=(hF _ hin).2;omega) (hF _ hin).1;exact Me m b0 w h hk e1 he1 x1 x2 x3 x4 hl hI;rw[atq]at Tj;refine J_ m b0 w h hk Tj (fun e hx=>?_) hl hI;obtain⟨i,hi⟩:=auO hx;have NS:=(atr.1 hi).1;obtain⟨c,hc⟩:∃c,m.co.l[i]?=some c:=⟨_,atN (by omega)⟩
  have hin:bG c e.t∈jL m.kind m.name (m.ex.l.map M.t) m.co.l m.lf.l m.rt.l m.ag.l:=by rw[hk];refine aty _ (atw (i:=i) ?_);rw[List.getElem?_zipWith,hc,aul,hi];rfl
  have h1:=hF _ hin;have h2:xTree e.t∈[aN c,xTree e.t]:=by simp
  have h3:(xTree e.t).size≤(bG c e.t).size:=by unfold bG;rw[qw];have:=iy (at7 (f:=T.size) h2);omega
  exact adG (he _ (at7 hx)) (by omega) (nD h1.1 _ h2);exact RY m b0 w h hk hl hI;exact Pe m b0 w h hk hl hI;exact GN m b0 w h hk hl hI;exact Pm m b0 w h hk ha hl hI
theorem sU {m x:M} {q:List M} (hq:m.kids=x::q) (hk:m.kind=1) (hx:x.kind=2):OE m.t=x.s:=by rw[EE,hq];simp[hk,kK,hx,at_,M.tu]
theorem NI {m x:M} {q:List M} (hq:m.kids=x::q) (hk:m.kind=1) (hx:x.kind=2):fG m.t=pFormOf (fF x.s) (q.map M.t):=by
 rw[yV,hq];simp only[hk,auc,atx,at_,au2,kK,hx,M.tu,at6,auC,auA]
 cases q with
 | cons y r=>rw[atX (by simp),auA]
 | nil=>
  simp only[atQ,atF,aur];rcases y5 x.s with⟨h,_⟩|⟨h,_⟩|⟨h,_⟩|⟨h,_⟩|⟨h,_⟩|⟨h,_⟩|⟨h,_⟩|h<;>rw[h]<;>rfl
theorem EZ {m:M} (h:OE m.t=[]∨fF (OE m.t)=0):fG m.t=false:=by
 by_cases hk:m.kind=1
 cases hq:m.kids with
 | nil=>rw[yV,hq];simp
 | cons x q=>
  by_cases hx:x.kind=2;rw[NI hq hk hx];rw[sU hq hk hx]at h;have h0:fF x.s=0:=by rcases h with h|h;rw[h];rfl;exact h
  rw[h0];rfl;rw[yV,hq];simp[at_,kK,hx]
 rw[yV];simp[hk]
theorem Pn (m:M) (b0:Nat) (w:World) (h:Lies b0 [] w m) (x:M) (q:List M) (hq:m.kids=x::q) (uQ:m.kind=1) (hx2:x.kind=2) (hs:x.s=gq):
  Calls Tryz.prog 78 #[.agg #[.int .i64 m.kind,.string ⟨m.s.toArray⟩,.int .i64 m.n,.slice m.A m.kids.length m.cap,.int .i64 (m.pos:Int)]] w fun e w'=>e=.returned (.bool (pFormOf 1 (q.map M.t)))∧Ev w w':=by
 have hH:=fun w1 (hE:Ev w w1)=>jU m b0 w1 (h.ev hE);rw[sU hq uQ hx2,hs]at hH;have hB:=Bx.new 79 #[.int .i64 m.kind,.string ⟨m.s.toArray⟩,.int .i64 m.n,.slice m.A m.kids.length m.cap,.int .i64 (m.pos:Int)] w;have aT:=Ev.alloc w (.cells #[.int .i64 m.kind,.string ⟨m.s.toArray⟩,.int .i64 m.n,.slice m.A m.kids.length m.cap,.int .i64 (m.pos:Int)] 79);have fA:=h.ms;have ou:=h.kid;rw[hq]at fA ou;have hkn:m.kids.length=q.length+1:=by rw[hq];rfl
 have hcl:=fA.le;have hcm:=fA.max;obtain⟨b,off,hA,hb,_⟩:=Ms.cell fA (i:=0) (x:=x) rfl;simp only[atF]at fA hcl;rw[hkn,hA]at hB hH;rw[hkn]at aT⊢;rw[hA]at aT fA⊢;rw[uQ]at hB aT hH⊢;have lu:=zq (fun i y (hy:(x::q)[i]?=some y) w1 (hE:Ev w w1)=>Ms.pJ (fA.ev hE) hy);have HH:=zq hH;have dH:=zq aT;have HB:=zq hB;obtain⟨⟨c0,c1,c2,c3,c4⟩,_⟩:=hB.five;obtain⟨kn,hk⟩:∃kn,kn=q.length:=⟨_,rfl⟩
 have lJ:=zq hk;rw[←hk]at HH dH HB c3 hcl⊢;clear hH hB aT fA ou hkn hk h hq hA uQ hs;generalize m.s=ms at*;generalize m.n=mn at*;generalize m.cap=mc at*;generalize m.pos=mp at*;unfold gq at*
 match q,lJ with
 | [],lJ=>
  obtain rfl:kn=0:=lJ.out;go_enter Tryz.func78,Tryz.ntmps78
  go_wp2_with (first
   | ((with_reducible refine (HH.out _ dH.out).mono ?_);rintro e w1 ⟨rfl,aH⟩;have E1:=zq (dH.out.trans aH);have F1:=zq aH;clear c0 c1 c2 c3 c4 aH;obtain⟨⟨c0,c1,c2,c3,c4⟩,_⟩:=(HB.out.ev F1.out).five))
  go_ret;exact⟨rfl,E1.out⟩
 | [y],lJ=>
  obtain rfl:kn=1:=lJ.out;rw[show pFormOf 1 ([y].map M.t)=(y.kind==2) by show (true&&bT y.t)=_;rw[kK,auA]];by_cases hy:y.kind=2
  ·rw[hy];go_enter Tryz.func78,Tryz.ntmps78
   go_wp2_with (first
    | ((with_reducible refine (HH.out _ dH.out).mono ?_);rintro e w1 ⟨rfl,aH⟩;have E1:=zq (dH.out.trans aH);have F1:=zq aH;clear c0 c1 c2 c3 c4 aH;obtain⟨⟨c0,c1,c2,c3,c4⟩,_⟩:=(HB.out.ev F1.out).five;obtain⟨d0,d1,d2,d3,d4⟩:=lu.out 1 y (rfl) _ E1.out;simp only[auE]at d0 d1 d2 d3 d4;rw[hy]at d0))
   go_ret;exact⟨rfl,E1.out⟩
  have hyb:(y.kind==2)=false:=atp.2 hy;rw[hyb];go_enter Tryz.func78,Tryz.ntmps78
  go_wp2_with (first
   | ((with_reducible refine (HH.out _ dH.out).mono ?_);rintro e w1 ⟨rfl,aH⟩;have E1:=zq (dH.out.trans aH);have F1:=zq aH;clear c0 c1 c2 c3 c4 aH;obtain⟨⟨c0,c1,c2,c3,c4⟩,_⟩:=(HB.out.ev F1.out).five;obtain⟨d0,d1,d2,d3,d4⟩:=lu.out 1 y (rfl) _ E1.out;simp only[auE]at d0 d1 d2 d3 d4))
  go_ret;exact⟨rfl,E1.out⟩
 | y::z::r,lJ=>
  obtain⟨k,rfl⟩:∃k,kn=k+2:=⟨r.length,lJ.out⟩
  have i1:((k:Int)+2+1==2)=false:=by rw[atp];omega
  rw[show pFormOf 1 ((y::z::r).map M.t)=false by show ((r.map M.t).length+1+1==1&&bT y.t)=false;simp];go_enter Tryz.func78,Tryz.ntmps78
  go_wp2_with (first
   | ((with_reducible refine (HH.out _ dH.out).mono ?_);rintro e w1 ⟨rfl,aH⟩;have E1:=zq (dH.out.trans aH);have F1:=zq aH;clear c0 c1 c2 c3 c4 aH;obtain⟨⟨c0,c1,c2,c3,c4⟩,_⟩:=(HB.out.ev F1.out).five))
  go_ret;exact⟨rfl,E1.out⟩
theorem MB (m:M) (b0:Nat) (w:World) (h:Lies b0 [] w m) (x:M) (q:List M) (hq:m.kids=x::q) (uQ:m.kind=1) (hx2:x.kind=2) (hs:x.s=dL):
  Calls Tryz.prog 78 #[.agg #[.int .i64 m.kind,.string ⟨m.s.toArray⟩,.int .i64 m.n,.slice m.A m.kids.length m.cap,.int .i64 (m.pos:Int)]] w fun e w'=>e=.returned (.bool (pFormOf 2 (q.map M.t)))∧Ev w w':=by
 have hH:=fun w1 (hE:Ev w w1)=>jU m b0 w1 (h.ev hE);rw[sU hq uQ hx2,hs]at hH;have hB:=Bx.new 79 #[.int .i64 m.kind,.string ⟨m.s.toArray⟩,.int .i64 m.n,.slice m.A m.kids.length m.cap,.int .i64 (m.pos:Int)] w;have aT:=Ev.alloc w (.cells #[.int .i64 m.kind,.string ⟨m.s.toArray⟩,.int .i64 m.n,.slice m.A m.kids.length m.cap,.int .i64 (m.pos:Int)] 79);have fA:=h.ms;have ou:=h.kid;rw[hq]at fA ou;have hkn:m.kids.length=q.length+1:=by rw[hq];rfl
 have hcl:=fA.le;have hcm:=fA.max;obtain⟨b,off,hA,hb,_⟩:=Ms.cell fA (i:=0) (x:=x) rfl;simp only[atF]at fA hcl;rw[hkn,hA]at hB hH;rw[hkn]at aT⊢;rw[hA]at aT fA⊢;rw[uQ]at hB aT hH⊢;have HH:=zq hH;have dH:=zq aT;have HB:=zq hB;obtain⟨⟨c0,c1,c2,c3,c4⟩,_⟩:=hB.five;obtain⟨kn,hk⟩:∃kn,kn=q.length:=⟨_,rfl⟩
 have lJ:=zq hk;rw[←hk]at HH dH HB c3 hcl⊢;clear hH hB aT fA ou hkn hk h hq hA uQ hs;generalize m.s=ms at*;generalize m.n=mn at*;generalize m.cap=mc at*;generalize m.pos=mp at*;unfold dL at*;have hP:pFormOf 2 (q.map M.t)=((kn:Int)+1==3):=by show ((q.map M.t).length==2)=_;rw[atq,←lJ.out,auq,atH,atH];omega
 rw[hP];go_enter Tryz.func78,Tryz.ntmps78
 go_wp2_with (first
  | ((with_reducible refine (HH.out _ dH.out).mono ?_);rintro e w1 ⟨rfl,aH⟩;have E1:=zq (dH.out.trans aH);have F1:=zq aH;clear c0 c1 c2 c3 c4 aH;obtain⟨⟨c0,c1,c2,c3,c4⟩,_⟩:=(HB.out.ev F1.out).five))
 go_ret;exact⟨rfl,E1.out⟩
theorem Po (m:M) (b0:Nat) (w:World) (h:Lies b0 [] w m) (x:M) (q:List M) (hq:m.kids=x::q) (uQ:m.kind=1) (hx2:x.kind=2) (hs:x.s=fP):
  Calls Tryz.prog 78 #[.agg #[.int .i64 m.kind,.string ⟨m.s.toArray⟩,.int .i64 m.n,.slice m.A m.kids.length m.cap,.int .i64 (m.pos:Int)]] w fun e w'=>e=.returned (.bool (pFormOf 5 (q.map M.t)))∧Ev w w':=by
 have hH:=fun w1 (hE:Ev w w1)=>jU m b0 w1 (h.ev hE);rw[sU hq uQ hx2,hs]at hH;have hB:=Bx.new 79 #[.int .i64 m.kind,.string ⟨m.s.toArray⟩,.int .i64 m.n,.slice m.A m.kids.length m.cap,.int .i64 (m.pos:Int)] w;have aT:=Ev.alloc w (.cells #[.int .i64 m.kind,.string ⟨m.s.toArray⟩,.int .i64 m.n,.slice m.A m.kids.length m.cap,.int .i64 (m.pos:Int)] 79);have fA:=h.ms;have ou:=h.kid;rw[hq]at fA ou;have hkn:m.kids.length=q.length+1:=by rw[hq];rfl
 have hcl:=fA.le;have hcm:=fA.max;obtain⟨b,off,hA,hb,_⟩:=Ms.cell fA (i:=0) (x:=x) rfl;simp only[atF]at fA hcl;rw[hkn,hA]at hB hH;rw[hkn]at aT⊢;rw[hA]at aT fA⊢;rw[uQ]at hB aT hH⊢;have HH:=zq hH;have dH:=zq aT;have HB:=zq hB;obtain⟨⟨c0,c1,c2,c3,c4⟩,_⟩:=hB.five;obtain⟨kn,hk⟩:∃kn,kn=q.length:=⟨_,rfl⟩
 have lJ:=zq hk;rw[←hk]at HH dH HB c3 hcl⊢;clear hH hB aT fA ou hkn hk h hq hA uQ hs;generalize m.s=ms at*;generalize m.n=mn at*;generalize m.cap=mc at*;generalize m.pos=mp at*;unfold fP at*;have hP:pFormOf 5 (q.map M.t)=((kn:Int)+1==3):=by show ((q.map M.t).length==2)=_;rw[atq,←lJ.out,auq,atH,atH];omega
 rw[hP];go_enter Tryz.func78,Tryz.ntmps78
 go_wp2_with (first
  | ((with_reducible refine (HH.out _ dH.out).mono ?_);rintro e w1 ⟨rfl,aH⟩;have E1:=zq (dH.out.trans aH);have F1:=zq aH;clear c0 c1 c2 c3 c4 aH;obtain⟨⟨c0,c1,c2,c3,c4⟩,_⟩:=(HB.out.ev F1.out).five))
 go_ret;exact⟨rfl,E1.out⟩
theorem GR (m:M) (b0:Nat) (w:World) (h:Lies b0 [] w m) (x:M) (q:List M) (hq:m.kids=x::q) (uQ:m.kind=1) (hx2:x.kind=2) (hs:x.s=dw):
  Calls Tryz.prog 78 #[.agg #[.int .i64 m.kind,.string ⟨m.s.toArray⟩,.int .i64 m.n,.slice m.A m.kids.length m.cap,.int .i64 (m.pos:Int)]] w fun e w'=>e=.returned (.bool (pFormOf 6 (q.map M.t)))∧Ev w w':=by
 have hH:=fun w1 (hE:Ev w w1)=>jU m b0 w1 (h.ev hE);rw[sU hq uQ hx2,hs]at hH;have hB:=Bx.new 79 #[.int .i64 m.kind,.string ⟨m.s.toArray⟩,.int .i64 m.n,.slice m.A m.kids.length m.cap,.int .i64 (m.pos:Int)] w;have aT:=Ev.alloc w (.cells #[.int .i64 m.kind,.string ⟨m.s.toArray⟩,.int .i64 m.n,.slice m.A m.kids.length m.cap,.int .i64 (m.pos:Int)] 79);have fA:=h.ms;have ou:=h.kid;rw[hq]at fA ou;have hkn:m.kids.length=q.length+1:=by rw[hq];rfl
 have hcl:=fA.le;have hcm:=fA.max;obtain⟨b,off,hA,hb,_⟩:=Ms.cell fA (i:=0) (x:=x) rfl;simp only[atF]at fA hcl;rw[hkn,hA]at hB hH;rw[hkn]at aT⊢;rw[hA]at aT fA⊢;rw[uQ]at hB aT hH⊢;have HH:=zq hH;have dH:=zq aT;have HB:=zq hB;obtain⟨⟨c0,c1,c2,c3,c4⟩,_⟩:=hB.five;obtain⟨kn,hk⟩:∃kn,kn=q.length:=⟨_,rfl⟩
 have lJ:=zq hk;rw[←hk]at HH dH HB c3 hcl⊢;clear hH hB aT fA ou hkn hk h hq hA uQ hs;generalize m.s=ms at*;generalize m.n=mn at*;generalize m.cap=mc at*;generalize m.pos=mp at*;unfold dw at*;have hP:pFormOf 6 (q.map M.t)=((kn:Int)+1==2):=by show ((q.map M.t).length==1)=_;rw[atq,←lJ.out,auq,atH,atH];omega
 rw[hP];go_enter Tryz.func78,Tryz.ntmps78
 go_wp2_with (first
  | ((with_reducible refine (HH.out _ dH.out).mono ?_);rintro e w1 ⟨rfl,aH⟩;have E1:=zq (dH.out.trans aH);have F1:=zq aH;clear c0 c1 c2 c3 c4 aH;obtain⟨⟨c0,c1,c2,c3,c4⟩,_⟩:=(HB.out.ev F1.out).five))
 go_ret;exact⟨rfl,E1.out⟩
theorem vS (m:M) (b0:Nat) (w:World) (h:Lies b0 [] w m) (hn:fF (OE m.t)=0):
  Calls Tryz.prog 78 #[.agg #[.int .i64 m.kind,.string ⟨m.s.toArray⟩,.int .i64 m.n,.slice m.A m.kids.length m.cap,.int .i64 (m.pos:Int)]] w fun e w'=>e=.returned (.bool false)∧Ev w w':=by
 have hH:=fun w1 (hE:Ev w w1)=>jU m b0 w1 (h.ev hE);have hB:=Bx.new 79 #[.int .i64 m.kind,.string ⟨m.s.toArray⟩,.int .i64 m.n,.slice m.A m.kids.length m.cap,.int .i64 (m.pos:Int)] w;have aT:=Ev.alloc w (.cells #[.int .i64 m.kind,.string ⟨m.s.toArray⟩,.int .i64 m.n,.slice m.A m.kids.length m.cap,.int .i64 (m.pos:Int)] 79);generalize OE m.t=s at*;have hcl:=h.ms.le;have hcm:=h.ms.max;have aeq:(s==gq)=false:=atp.2 fun e=>by rw[e]at hn;exact absurd hn (by decide)
 have abX:(s==dL)=false:=atp.2 fun e=>by rw[e]at hn;exact absurd hn (by decide)
 have Zx:(s==bM)=false:=atp.2 fun e=>by rw[e]at hn;exact absurd hn (by decide)
 have agJ:(s==gU)=false:=atp.2 fun e=>by rw[e]at hn;exact absurd hn (by decide)
 have aer:(s==fP)=false:=atp.2 fun e=>by rw[e]at hn;exact absurd hn (by decide)
 have Xg:(s==dw)=false:=atp.2 fun e=>by rw[e]at hn;exact absurd hn (by decide)
 have aes:(s==dY)=false:=atp.2 fun e=>by rw[e]at hn;exact absurd hn (by decide)
 unfold gq dL bM gU fP dw dY at*;have HH:=zq hH;have dH:=zq aT;have HB:=zq hB;obtain⟨⟨c0,c1,c2,c3,c4⟩,_⟩:=hB.five;clear hH hB aT h hn;go_enter Tryz.func78,Tryz.ntmps78
 go_wp2_with (first
  | ((with_reducible refine (HH.out _ dH.out).mono ?_);rintro e w1 ⟨rfl,aH⟩;have E1:=zq (dH.out.trans aH);have F1:=zq aH;clear c0 c1 c2 c3 c4 aH;obtain⟨⟨c0,c1,c2,c3,c4⟩,_⟩:=(HB.out.ev F1.out).five))
 go_ret;exact⟨rfl,E1.out⟩
theorem ah7 (y:M):dZ y.t=(y.kind==1&&(y.kids.length==2&&bT (at_ (y.kids.map M.t) 0))):=by unfold dZ;rw[M.vW,M.aY,atq,Bool.and_assoc]
theorem awc {P:Prop} (h:P:=by
 go_enter Tryz.func78,Tryz.ntmps78
 go_wp2_with (first
  | ((with_reducible refine (HH.out _ dH.out).mono ?_);rintro e w1 ⟨rfl,aH⟩;have E1:=zq (dH.out.trans aH);have F1:=zq aH;clear c0 c1 c2 c3 c4 aH;obtain⟨⟨c0,c1,c2,c3,c4⟩,_⟩:=(HB.out.ev F1.out).five))
 go_ret;exact⟨rfl,E1.out⟩):P:=h
theorem av4 {P:Prop} (h:P:=by
 rw[hP];have i1:((kn:Int)+1<3):=by omega
 exact awc):P:=h
theorem Ko (m:M) (b0:Nat) (w:World) (h:Lies b0 [] w m) (x:M) (q:List M) (hq:m.kids=x::q) (uQ:m.kind=1) (hx2:x.kind=2) (hs:x.s=bM):
  Calls Tryz.prog 78 #[.agg #[.int .i64 m.kind,.string ⟨m.s.toArray⟩,.int .i64 m.n,.slice m.A m.kids.length m.cap,.int .i64 (m.pos:Int)]] w fun e w'=>e=.returned (.bool (pFormOf 3 (q.map M.t)))∧Ev w w':=by
 have hH:=fun w1 (hE:Ev w w1)=>jU m b0 w1 (h.ev hE);rw[sU hq uQ hx2,hs]at hH;have hB:=Bx.new 79 #[.int .i64 m.kind,.string ⟨m.s.toArray⟩,.int .i64 m.n,.slice m.A m.kids.length m.cap,.int .i64 (m.pos:Int)] w;have aT:=Ev.alloc w (.cells #[.int .i64 m.kind,.string ⟨m.s.toArray⟩,.int .i64 m.n,.slice m.A m.kids.length m.cap,.int .i64 (m.pos:Int)] 79);have fA:=h.ms;have ou:=h.kid;rw[hq]at fA ou;have hkn:m.kids.length=q.length+1:=by rw[hq];rfl
 have hcl:=fA.le;have hcm:=fA.max;obtain⟨b,off,hA,hb,_⟩:=Ms.cell fA (i:=0) (x:=x) rfl;simp only[atF]at fA hcl;rw[hkn,hA]at hB hH;rw[hkn]at aT⊢;rw[hA]at aT fA⊢;rw[uQ]at hB aT hH⊢;have lu:=zq (fun i y (hy:(x::q)[i]?=some y) w1 (hE:Ev w w1)=>Ms.pJ (fA.ev hE) hy);have LJ:=zq (fun y (hy:y∈q) w1 (hE:Ev w w1)=>(ou y (aty _ hy)).ev hE);have HH:=zq hH;have dH:=zq aT;have HB:=zq hB;obtain⟨⟨c0,c1,c2,c3,c4⟩,_⟩:=hB.five;obtain⟨kn,hk⟩:∃kn,kn=q.length:=⟨_,rfl⟩
 have lJ:=zq hk;rw[←hk]at HH dH HB c3 hcl⊢;clear hH hB aT fA ou hkn hk h hq hA uQ hs;generalize m.s=ms at*;generalize m.n=mn at*;generalize m.cap=mc at*;generalize m.pos=mp at*;unfold bM at*;by_cases hz:2≤kn
 ·obtain⟨k,rfl⟩:∃k,kn=k+1:=⟨kn - 1,by omega⟩
  have hP:pFormOf 3 (q.map M.t)=(q.take k).all fun y=>dZ y.t:=by show (decide (2≤(q.map M.t).length)&&((q.map M.t).take ((q.map M.t).length - 1)).all dZ)=_;rw[atq,←lJ.out,atX (by omega),auA,auG,←auw,auI];rfl
  rw[hP];have i1:¬((k:Int)+1+1<3):=by omega
  have vZ:=zq (show (q.take k).length=k by rw[aua,←lJ.out];omega);clear hP;go_enter Tryz.func78,Tryz.ntmps78
  go_wp2_with (first
   | ((with_reducible refine (HH.out _ dH.out).mono ?_);rintro e w1 ⟨rfl,aH⟩;have E1:=zq (dH.out.trans aH);have F1:=zq aH;clear c0 c1 c2 c3 c4 aH;obtain⟨⟨c0,c1,c2,c3,c4⟩,_⟩:=(HB.out.ev F1.out).five))
  go_loopw [5] (fun iv wr=>∃j:Nat,iv=.int .i64 ((j:Int)+1)∧j≤k∧Hid (((q.take k).take j).all (fun y=>dZ y.t)=true)∧Hid (Ev w1 wr)) (fun iv _=>k+1 - (intOf iv).toNat)
  case atStart=>exact⟨0,rfl,atG _,zq (by simp),zq (Ev.refl _)⟩
  case round=>
   obtain⟨j,rfl,hj,HT,kS⟩:=hrel;by_cases hlt:j<k
   ·obtain⟨y,hy⟩:∃y,q[j]?=some y:=⟨_,atN (by rw[←lJ.out];omega)⟩
    have hyt:(q.take k)[j]?=some y:=by rw[List.getElem?_take_of_lt hlt];exact hy
    have Tt:=zq hyt;have hym:=atw hy;have HYL:=zq (LJ.out y hym);obtain⟨d0,d1,d2,d3,d4⟩:=lu.out (j+1) y hy _ (E1.out.trans kS.out);have i2:(0:Int)≤(j:Int)+1:=by omega
    have i3:(j:Int)+1<(k:Int)+1+1:=by omega
    have i4:(j:Int)+1<(k:Int)+1:=by omega
    have ah8:=ah7 y;have HCM:=zq ah8;clear hyt hy hym ah8;by_cases hyk:y.kind=1
    ·rw[hyk]at d0 HCM;by_cases yD:y.kids.length=2
     ·rw[yD]at d3 HCM;obtain⟨z0,z1,hz2⟩:∃z0 z1,y.kids=[z0,z1]:=by
       match hh:y.kids,yD with
       | [z0,z1],_=>exact⟨z0,z1,rfl⟩
      have hzs:=(HYL.out _ (E1.out.trans kS.out)).ms;have hzc:=hzs.le;rw[hz2]at hzs hzc;simp only[atF,aur,atT,Nat.reduceAdd]at hzs hzc;obtain⟨bz,arD,hzA,hbz,z0_,_⟩:=Ms.cell hzs (i:=0) (x:=z0) rfl;simp only[aud,atW]at z0_;rw[hzA]at d3;have XX:Hid (dZ y.t=(z0.kind==2)):=zq (by rw[HCM.out,hz2];simp[at_,kK]);by_cases Tq:z0.kind=2
      ·rw[Tq]at z0_ XX;go_wp2;go_roundw
       case rel=>exact⟨j+1,by go_num,by omega,zq (by rw[qW HT.out Tt.out,XX.out];rfl),kS⟩
       case measure=>simp[intOf];omega
      go_wp2;go_ret;exact⟨by rw[all_false Tt.out (by rw[XX.out];exact atp.2 Tq)];rfl,E1.out.trans kS.out⟩
     have arE:((y.kids.length:Int)==2)=false:=by rw[atp];omega
     have XX:Hid (dZ y.t=false):=zq (by rw[HCM.out];simp[yD]);go_wp2;go_ret;exact⟨by rw[all_false Tt.out XX.out];rfl,E1.out.trans kS.out⟩
    have XX:Hid (dZ y.t=false):=zq (by rw[HCM.out];simp[hyk]);go_wp2;go_ret;exact⟨by rw[all_false Tt.out XX.out];rfl,E1.out.trans kS.out⟩
   obtain rfl:j=k:=by omega
   have HA:Hid ((q.take j).all (fun y=>dZ y.t)=true):=zq (by have:=HT.out;rwa [atJ (by rw[vZ.out];exact att _)]at this);have i4:¬((j:Int)+1<(j:Int)+1):=by omega
   go_wp2;go_ret;exact⟨by rw[HA.out];rfl,E1.out.trans kS.out⟩
 have hP:pFormOf 3 (q.map M.t)=false:=by show (decide (2≤(q.map M.t).length)&&((q.map M.t).take ((q.map M.t).length - 1)).all dZ)=_;rw[atq,←lJ.out,auj hz,aum]
 exact av4
end Go.Proofs.YtpbfokkocaemlaaGreatDoor
