import Derived.Lib.AppendZerosOnto
import Derived.Test.YtbgmhhfjkkfhpaaGreatDoorZ42G
set_option linter.unusedVariables false
set_option maxRecDepth 100000
set_option maxHeartbeats 64000000
namespace Go.Proofs.YtbgmhhfjkkfhpaaGreatDoor
open Go.RowKit
open Go.Lib renaming hid → zq
open Go renaming World → ak
open Go renaming Value → au
open Go.Proofs.Tryz renaming prog → ax
variable {U:Prop}
open Go.Proofs.Tryz
theorem NS(z:Array au)(n:Nat):(Builtin.zeroCells z n).size=n*z.size:=by unfold Builtin.zeroCells;simp
theorem Ze(n:Nat)(w:ak)(hn:n<=1000000):
  Calls ax 145 #[↑(),↑n] w λe w'=>∃v,e=.returned v/\Ow 47 2 eu w.heap.size w' v ([]:List J)/\Ev w w':=by
 have h1:¬((n:Int)<0):=ae;go_enter func145,ntmps145;by_cases h0:n=0
 ·subst h0;go_wp2;go_ret;exact⟨_,rfl,Ow.nil_ _,Ev.refl _⟩
 obtain⟨i0,uj,hz0,hs0,hb0⟩:=aE' Tryz.kY;have hpos:0<n:=ae;have hfit:Builtin.nextslicecap (0+n) 0*i0.bytes<=281474976710656:=growslice_fits ae (by rw[hb0];omega);obtain⟨G,hG⟩:∃G,G=grownCap w n 0 47:=⟨_,rfl⟩
 have hGn:n<=G:=by rw[hG];exact grownCap_ge w _ _ _
 have hGm:G<=maxLen:=by rw[hG];exact grownCap_le_maxLen w n 0 _ (by unfold maxLen;omega)
 have hG63:G<=9223372036854775807:=by simpa[maxLen] using hGm
 have hrz:∀ty,(Builtin.append_ #[26,3] ty #[↑(),↑n]).run ax w=.ok (.slice ↑w n G) (w.drew.alloc (.cells (Builtin.zeroCells #[↑(),.complex .f64 0 0] n++Builtin.zeroCells #[↑(),.complex .f64 0 0] (G-n)) 47)):=λty=>by have h:=Lib.run_append_grow_zeros (P:=ax) w 26 3 ty 47 i0 _ .i64 .i64 underlying26 underlying3 uj hz0 none 0 0 [] (run_firstCells_none w.drew i0.size 0 0 0) n hpos ae ae ae (by rw[hb0];omega) hfit;simp only[aDt]at h;rw[h,hG];simp[Value.cells]
 have HO:Hid (Ow 47 2 eu w.heap.size (w.drew.alloc (.cells (Builtin.zeroCells #[↑(),.complex .f64 0 0] n++Builtin.zeroCells #[↑(),.complex .f64 0 0] (G-n)) 47)) (.slice ↑w 0 G) ([]:List J)):=zq ⟨rfl,.inr ⟨w.heap.size,G,_,rfl,aC8 _,aFd w.drew _,aDl _,hGm,by
  rw[Array.size_append,NS,NS];show n*2+(G-n)*2=G*2;omega,by simp[cl]⟩⟩
 clear hfit uj hz0 hs0 hb0 hG hGm
 go_wp2_with (at_builtin;refine Lib.wpList_append_run _ rfl _ _ _ _ rfl _ _ rfl rfl _ _ (hrz _) ?_)
 go_ret;exact⟨_,rfl,HO.out,(Ev.drew _).trans aC⟩
structure aiY(w:ak)(A:Option Addr)(n cap:Nat)(L:List (dK J)):Prop where
 sl:Sl 1 gcs w A n cap L
 each:∀x∈L,Zs w.heap.size w x.A x.l.length x.cap x.l
theorem aiY.ev{w w':ak}{A:Option Addr}{n cap:Nat}{L:List (dK J)}(h:aiY w A n cap L)(hE:Ev w w'):aiY w' A n cap L:=⟨h.sl.ev hE,λx hx=>((h.each x hx).ev hE).wide hE.size (aC8 _)⟩
theorem af1{α:Type}(f:α->Nat){l:List α}{k:Nat}{x:α}(h:l[k]?=some x):((l.take (k+1)).map f).sum=((l.take k).map f).sum+f x:=by obtain⟨hk,rfl⟩:=aC6.1 h;rw[aDi hk,aDk,aEb];simp
theorem zZ{α:Type}(f:α->Nat)(l:List α)(k:Nat):((l.take k).map f).sum<=(l.map f).sum:=by
 conv=>rhs;rw[<-aDS k l,aDk,aEb]
 omega
theorem Zf{α β:Type}(f:α->List β){l:List α}{k:Nat}{x:α}(h:l[k]?=some x):(l.take (k+1)).flatMap f=(l.take k).flatMap f++f x:=by obtain⟨hk,rfl⟩:=aC6.1 h;rw[aDi hk,List.flatMap_append];simp
theorem EI{α β:Type}(f:α->List β):∀l:List α,(l.flatMap f).length=(l.map λx=>(f x).length).sum
 | []=>rfl
 | x::l=>by rw[aEp,aDd,EI f l,aDe,aDI]
theorem Tz{A:Option Addr}{n cap:Nat}{L:List (dK J)}(w:ak)(h:aiY w A n cap L)(ht:(L.map λx=>x.l.length).sum<=1000000)(hn:n<=1000):
  Calls ax 83 #[.slice A n cap] w λe w'=>∃A' n' c',e=.returned (.slice A' n' c')/\eQ (aK (L.flatMap dK.l)) w' A' n' c'/\Ev w w':=by
 have hcl:=h.sl.le;have hcm:=h.sl.max;have HN:=zq h.sl.len;have HT:=zq ht;have H:=zq h;clear h ht;go_enter func83,ntmps83;go_wp2
 go_loopw [3,11] (λsv iv wr=>∃k:Nat,sv=.int .i64 ((((L.take k).map λx=>x.l.length).sum:Nat):Int)/\iv=↑k/\k<=n/\Hid (Ev w wr)) (λ_ iv _=>n-(intOf iv).toNat)
 case atStart=>exact⟨0,rfl,rfl,aDl _,zq aS⟩
 case round=>
  obtain⟨k,rfl,rfl,hk,HE⟩:=hrel;have hs:=zZ (λx:dK J=>x.l.length) L k;have ht:=HT.out;by_cases hlt:k<n
  ·obtain⟨x,hx⟩:=H.out.sl.at hlt;obtain⟨b,off,rfl,hb,hc⟩:=(H.out.ev HE.out).sl.rd ae;have c0:=hc k x hx 0 _ rfl;simp only[aED,aDw]at c0;have HF:=zq (af1 (λx:dK J=>x.l.length) hx);have hs2:=zZ (λx:dK J=>x.l.length) L (k+1);rw[HF.out]at hs2;have i1:(0:Int)<=(k:Int):=ae;have i2:(k:Int)<(n:Int):=ae;have i4:((L.take k).map λx=>x.l.length).sum+x.l.length<=1000000:=ae;clear hx hc hs hs2 ht;generalize ((L.take k).map λx=>x.l.length).sum=s0 at*;have i3:¬((s0:Int)+(x.l.length:Int)<0):=ae;go_wp2;go_roundw
   case rel=>exact⟨k+1,by rw[HF.out];go_num,by go_num,ae,HE⟩
   case measure=>simp[intOf];omega
  obtain rfl:k=n:=ae;have HK:Hid (L.take k=L):=zq (aDj (by rw[HN.out];exact aC8 _));rw[HK.out];have HG:=zq (Ze (L.map λx=>x.l.length).sum wr ae);have HTS:Hid ((L.flatMap dK.l).length=(L.map λx=>x.l.length).sum):=zq (EI dK.l L);generalize hs2:(L.map λx=>x.l.length).sum=s2 at*;clear hs hs2;have hs3:s2<=1000000:=ht;go_upto_region 10 with (first
   | ((with_reducible refine(HG.out).mono ?_);rintro r w1 ⟨v,rfl,hO,aJ⟩;obtain⟨A1,c1,rfl,_,_⟩:=hO.form yf;have HO1:=zq hO;have F1:=zq aJ;clear hO aJ))
  go_wp2
  go_loopw [6,27] (λzv iv wq=>∃(ZA:Option Addr) (zn zc k2:Nat),zv=.slice ZA zn zc/\iv=↑k2/\k2<=k/\Hid (Ow 47 2 eu wr.heap.size wq (.slice ZA zn zc) ((L.take k2).flatMap dK.l))/\Hid (Ev wr wq)) (λ_ iv _=>k-(intOf iv).toNat)
  case atStart=>exact⟨A1,0,c1,0,rfl,rfl,aDl _,HO1,F1⟩
  case round=>
   rename ak=>ws;obtain⟨ZA,zn,zc,k2,rfl,rfl,hk2,HO,HEq⟩:=hrel;by_cases hlt2:k2<k
   ·obtain⟨x,hx⟩:=H.out.sl.at hlt2;obtain⟨b,off,rfl,hb,hc⟩:=(H.out.ev (HE.out.trans HEq.out)).sl.rd ae;have c0:=hc k2 x hx 0 _ rfl;simp only[aED,aDw]at c0;have HF:=zq (Zf dK.l hx);have HX:=zq (((H.out.ev (HE.out.trans HEq.out)).each x (aDb hx)).js);have HL:Hid (((L.take k2).flatMap dK.l).length+x.l.length<=1000000):=zq (by
     have h5:=aD8 List.length HF.out;rw[aDd]at h5;have h6:((L.take (k2+1)).flatMap dK.l).length<=(L.flatMap dK.l).length:=by rw[EI,EI];exact zZ _ _ _
     have h7:=HTS.out;omega)
    have i1:(0:Int)<=(k2:Int):=ae;have i2:(k2:Int)<(k:Int):=ae;clear hx hc
    go_wp2_with (first
     | ((show wpList _ _ _ (⟨some 33,_,_,_,_,_⟩::_) _ _);refine aQ (o:=⟨some 33,_,_,_,_,_⟩) rfl 26 (.tmp 31) (.tmp 32) rfl yf underlying26 Tryz.kY rfl rfl HO.out x.A x.l.length x.cap x.l rfl HX.out (by have:=HL.out;omega) (by have:=HL.out;omega) HEq.out.size ?_;intro v2 w2 iq;have E2:Ev wr w2:=((But.aU HEq.out).then iq.2.1).ev (λk hk=>(HO.out.lt (aG.1 hk)).1);obtain⟨A2,c2,rfl,_,_⟩:=iq.1.form yf;have HO2:=zq iq.1;have E2:=zq E2;clear iq;generalize ((L.take k2).flatMap dK.l++x.l).length=zn2 at*))
    go_roundw
    case rel=>exact⟨A2,zn2,c2,k2+1,rfl,by go_num,ae,zq (by rw[HF.out];exact HO2.out),E2⟩
    case measure=>simp[intOf];omega
   obtain rfl:k2=k:=ae;go_wp2;go_ret;have h8:=HO.out;rw[HK.out]at h8;obtain⟨A9,c9,hv,qJ,_⟩:=h8.form yf;injection hv with e1 e2 e3
   subst e1 e2 e3;refine⟨_,_,_,rfl,⟨_,⟨qJ,λz hz=>?_,?_,aC8 _⟩,rfl⟩,HE.out.trans HEq.out⟩;obtain⟨x,hx,hzx⟩:=aEh.1 hz;exact((H.out.ev (HE.out.trans HEq.out)).each x hx).rows z hzx;rintro ad rfl;exact(h8.lt rfl).2
def Wp(x y:dK J)(v:au)(w:ak):Prop:=∃g,v=.slice (some ⟨g,0,none⟩) 2 2/\Sl 1 gcs w (some ⟨g,0,none⟩) 2 2 [x,y]
theorem Wp.mono(x y:dK J):kK (Wp x y):=λv w w' hE ⟨g,e,h⟩=>⟨g,e,h.ev hE⟩
theorem TA(m:PM)(t t':TM)(KA LA:Option Addr)(kc ln lc:Nat)(w:ak)(hk:m.kind=5)(hK:tJ w KA 2 kc [t,t'])(hs:t.rows.length<=100000)(hs':t'.rows.length<=100000):
  Calls ax 43 #[.agg ↑m,.slice KA 2 kc,.slice LA ln lc] w (rH (t.rows++t'.rows) w):=by
 obtain⟨w0,hw0,aV,hB,_⟩:=Ez w m;obtain⟨⟨p0,p1,p2,p3,p4,p5,p6,p7⟩,_⟩:=hB.eight;obtain⟨b,off,eA,hb,_⟩:=(hK.ev aV).cell (i:=0) (t:=t) rfl;subst eA;have qm:=hK.sl.le;have hkm:=hK.sl.max;obtain⟨Z,hZ,hZi⟩:=(hK.each t aj).rows;obtain⟨Z',hZ',aqP⟩:=(hK.each t' aj).rows;have dH:Tryz.prog.follows .mixedOrders=true:=ah;have HKT:=zq (hK.ev aV);have cO:=zq aV;have Uj:=hZ.len;have hl2:=hZ'.len;have Oa:=zq (λ(A:Option Addr) w1 (hE:Ev w w1) (hs1:Sl 1 gcs w1 A 2 2 [⟨t.rA,t.rc,Z⟩,⟨t'.rA,t'.rc,Z'⟩])=>Tz w1 (L:=[⟨t.rA,t.rc,Z⟩,⟨t'.rA,t'.rc,Z'⟩]) ⟨hs1,λx hx=>by
  simp only[aDg,aEa,aEG]at hx;rcases hx with rfl|rfl;have h5:=(hZ.ev hE).wide hE.size (aC8 _);rwa [<-Uj]at h5;have h5:=(hZ'.ev hE).wide hE.size (aC8 _);rwa [<-hl2]at h5⟩ (by simp;omega) ai)
 have HGI:Hid (aK (([⟨t.rA,t.rc,Z⟩,⟨t'.rA,t'.rc,Z'⟩]:List (dK J)).flatMap dK.l)=t.rows++t'.rows):=zq (by
  rw[<-hZi,<-aqP];simp[aK])
 rw[HGI.out]at Oa;unfold rH;generalize t.rows++t'.rows=GI at*;clear hK aV hB hZ hZ' hZi aqP;generalize m.kind=kd at*;subst hk;go_enter func43,ntmps43;go_upto_region 13 with fail
 refine bD dH [λv _=>v=.slice ↑(b,off) 2 kc,λv _=>v=.pointer ↑(b,off),λv _=>v=.pointer ↑(b,off+2),λv _=>v=.slice t.rA t.rows.length t.rc,
   λv _=>v=.slice ↑(b,off) 2 kc,λv _=>v=.pointer ↑(b,off+3),λv _=>v=.pointer ↑(b,off+3+2),λv _=>v=.slice t'.rA t'.rows.length t'.rc,
   Wp ⟨t.rA,t.rc,Z⟩ ⟨t'.rA,t'.rc,Z'⟩,Jb GI,Jb GI,λv _=>v=.int .i64 0]
  81 rfl ah ⟨aB _,aB _,aB _,aB _,aB _,aB _,aB _,aB _,Wp.mono _ _,Jb.mono _,Jb.mono _,aB _,trivial⟩ ?_ ?_
 ·refine az 0 ?_ (az 1 ?_ (az 2 ?_ (az 3 ?_ (az 4 ?_ (az 5 ?_ (az 6 ?_ (az 7 ?_ (az 8 ?_ (az 9 ?_ (az 10 ?_ (az 11 ?_ (eY 12))))))))))));exact aIn;refine aF λa wv c=>⟨(ay rfl),.pointer ↑(b,off),?_,rfl⟩
  have bn:a.eval (.tmp 64)=.slice ↑(b,off) 2 kc:=(c.new 0 64)
  exact aHN
  ·refine aF λa wv c=>⟨(ay rfl),.pointer ↑(b,off+2),?_,rfl⟩
   have bn:a.eval (.tmp 65)=.pointer ↑(b,off):=(c.new 1 65)
   generalize a.eval=ρ at bn|-;simp[execOp,bn,go_sem]
  ·refine aF λa wv c=>⟨(ay rfl),.slice t.rA t.rows.length t.rc,?_,rfl⟩
   have bn:a.eval (.tmp 66)=.pointer ↑(b,off+2):=(c.new 2 66)
   obtain⟨b9,o9,e9,_,k0,k1,k2⟩:=(HKT.out.ev c.ev).cell (i:=0) (t:=t) rfl;injection e9 with e9
   injection e9 with e91 e92 _
   subst e91 e92;simp only[aDH,aDw]at k0 k1 k2;generalize a.eval=ρ at bn|-;simp[execOp,bn,go_sem,k2]
  exact aIn;refine aF λa wv c=>⟨(ay rfl),.pointer ↑(b,off+3),?_,rfl⟩
  have bn:a.eval (.tmp 68)=.slice ↑(b,off) 2 kc:=(c.new 4 68)
  exact aHL
  ·refine aF λa wv c=>⟨(ay rfl),.pointer ↑(b,off+3+2),?_,rfl⟩
   have bn:a.eval (.tmp 69)=.pointer ↑(b,off+3):=(c.new 5 69)
   generalize a.eval=ρ at bn|-;simp[execOp,bn,go_sem]
  ·refine aF λa wv c=>⟨(ay rfl),.slice t'.rA t'.rows.length t'.rc,?_,rfl⟩
   have bn:a.eval (.tmp 70)=.pointer ↑(b,off+3+2):=(c.new 6 70)
   obtain⟨b9,o9,e9,_,k0,k1,k2⟩:=(HKT.out.ev c.ev).cell (i:=1) (t:=t') rfl;injection e9 with e9
   injection e9 with e91 e92 _
   subst e91 e92;simp only[aEi]at k0 k1 k2;generalize a.eval=ρ at bn|-;simp[execOp,bn,go_sem,k2]
  ·refine JQ λa wq c=>?_;have bn:a.eval (.tmp 67)=.slice t.rA t.rows.length t.rc:=(c.new 3 67)
   have jk:a.eval (.tmp 71)=.slice t'.rA t'.rows.length t'.rc:=(c.new 7 71)
   refine⟨(ay rfl),.slice ↑wq 2 2,wq.alloc (.cells #[.slice t.rA t.rows.length t.rc,.slice t'.rA t'.rows.length t'.rc] 26),?_,Ev.alloc _ _,⟨wq.heap.size,rfl,Sl.made (enc:=gcs) (λ_=>rfl) [⟨t.rA,t.rc,Z⟩,⟨t'.rA,t'.rc,Z'⟩] 2 rfl ai wq _ _ (by simp[gcs,Uj,hl2])⟩⟩;generalize a.eval=ρ at bn jk|-;simp[execOp,bn,jk,go_sem]
  refine eP λa wv c=>?_;obtain⟨g,bn,hP⟩:=(c.got 8 72 ah ah rfl:Wp _ _ _ _)
  refine⟨(ay rfl),83,#[.slice ↑g 2 2],?_,?_⟩;rw[bK 83 _ _ rfl ah];simp[bn];refine(Oa.out _ wv (cO.out.trans c.ev) hP).mono ?_;rintro e wp ⟨A1,n1,oO,rfl,hS,aJ⟩;exact⟨_,rfl,aJ,A1,n1,oO,rfl,hS⟩;refine aF λa wv c=>⟨(ay rfl),_,run_assign _ rfl wv,(c.new 9 73)⟩
  refine aF λa wv c=>⟨(ay rfl),_,run_assign (.const (.int .i64 0)) rfl wv,rfl⟩
 intro s w5 qP hold hnew;obtain⟨A1,n1,oO,f6,hS⟩:=(hnew 10 6:Jb GI (s 6) w5)
 have f7:s 7=.int .i64 0:=hnew 11 7;change Exit.then _ _ .normal ⟨_,_⟩ _;simp only[List.range,List.range.loop,List.map];simp only[f6,f7];clear hold hnew;generalize s 0=u0_,s 1=u1_,s 2=u2_,s 3=u3_,s 4=u4_,s 5=u5_,s 8=u8_,s 9=u9_,s 10=ab1,s 11=ab2,s 12=YJ,s 13=ab3,s 14=YK,s 15=Vh,s 16=Vj,s 17=X5,s 18=X6,s 19=X7,s 20=Vk,s 21=Vl,s 22=X8,s 23=X9,s 24=Ya,s 25=Yb,s 26=Yc,s 27=Yd,s 28=QP,s 29=Uk,s 30=Ye,s 31=Yf,s 32=Yg,s 33=Yh,s 34=Yi,s 35=aeH,s 36=adw,s 37=ahc,s 38=alh,s 39=ali,s 40=apv,s 41=apw,s 42=apx,s 43=apy,s 44=apz,s 45=apA,s 46=akY,s 47=apB,s 48=apC,s 49=apD,s 50=apE,s 51=apF,s 52=akZ,s 53=ak0,s 54=apG,s 55=apH,s 56=apI,s 57=ak1,s 58=ak2,s 59=apJ,s 60=apK,s 61=apL,s 62=apM,s 63=apN,s 64=apO,s 65=apP,s 66=apQ,s 67=apR,s 68=apS,s 69=apT,s 70=apU,s 71=apV,s 72=apW,s 73=apX,s 74=apY,s 75=apZ,s 76=ap0,s 77=ap1,s 78=ap2,s 79=ap3,s 80=ap4;go_wp2
 go_ret2
 exact⟨A1,n1,oO,rfl,hS,cO.out.trans qP⟩
theorem af2(p:Pl)(cols:List C)(L:List Df)(hp:Zd p)(wO:zQ L)(hl:∀d∈L,0<d.2.length/\d.2.length<=6)(hck:ckOf L p=CR.of cols)(m:PM)(b0:Nat)(w:ak)(hT:Tab w)(hm:m.p=p)(h:Qx b0 [] w m)(D:List DM)(DA:Option Addr)(dn iE:Nat)(hD:yH w DA dn iE D)(WZ:D.map DM.df=L)(WI:∀ad,DA=some ad->ad=⟨ad.block,0,none⟩):
  Calls ax 21 #[.agg ↑m,.slice DA dn iE] w (SQ (cols,0,⟨#[]⟩) w):=by
 subst hm;have h1:=aiN m b0 D DA dn iE w hT h hp.wr hp.ink hp.no (λw1 hE=>wO D DA dn iE w1 (hD.ev hE) WZ WI) hD (λd hd=>hl d.df (WZ▸aDF hd)) (by rw[WZ,hck];rfl);rw[WZ,hck]at h1;exact h1
theorem TB{m:PM}{k:Int}{nm:By}{ex:List T}{co lf rt:List By}{ag:List Ag}{kids:List Pl}(h:m.p=.mk k nm ex co lf rt ag kids):m.kind=k/\m.name=nm/\m.lf.l=lf/\m.ag.l=ag/\m.kids.map PM.p=kids:=by
 rw[PM.tu]at h;injection h with h1 h2 h3 h4 h5 h6 h7 h8
 exact⟨h1,h2,h5,h7,h8⟩
structure Bg(w:ak)(LA:Option Addr)(ln lc:Nat)(l:List TM)(L:List Df):Prop where
 tab:Tab w
 at_:tJ w LA ln lc l
 ln:ln<=1000
 df:l.map TM.df=L
 ok:zQ L
 cols:∀d∈L,0<d.2.length/\d.2.length<=6
theorem Bg.ev{w w':ak}{LA:Option Addr}{ln lc:Nat}{l:List TM}{L:List Df}(h:Bg w LA ln lc l L)(hE:Ev w w'):Bg w' LA ln lc l L:=⟨h.tab.ev hE,h.at_.ev hE,h.ln,h.df,h.ok,h.cols⟩
def Bh(m:PM)(LA:Option Addr)(ln lc:Nat)(cols:List C)(rows:List I)(w:ak):Prop:=∀w1,Ev w w1->Calls ax 23 #[.agg ↑m,.slice LA ln lc] w1 (C9 cols rows w1)
structure qM(items rows:List I):Prop where
 adds:jc items
 tot:bU items<=512
 mkd:uD items=some rows
 made:Made items rows
 set:setB rows=true
theorem TC{w:ak}{LA:Option Addr}{ln lc:Nat}{l:List TM}{L:List Df}(env:Bg w LA ln lc l L)(m:PM)(b0:Nat)(p:Pl)(hm:m.p=p)(hp:Zd p)(hQ:Qx b0 [] w m)(Ob:m.kids.length<=1000)(KK:List (List C×List I))(items rows:List I)(cols:List C)(hck:ckOf L p=CR.of cols)(hlen:KK.length=m.kids.length)
  (hkids:∀(i:Nat) (x:PM) (c:List C×List I),m.kids[i]?=some x->KK[i]?=some c->Bh x LA ln lc c.1 c.2 w)
  (hstep:∀(Ts:List TM) (KA:Option Addr) (kc:Nat) w1,Ev w w1->tJ w1 KA Ts.length kc Ts->Ts.map (λt=>(t.cols,t.rows))=KK->Calls ax 43 #[.agg ↑m,.slice KA Ts.length kc,.slice LA ln lc] w1 (rH items w1))
  (ho:qM items rows):Bh m LA ln lc cols rows w:=λw1 hE=>by
 have aqQ:=env.ev hE;exact acr m b0 l LA ln lc KK items rows cols w1 (hQ.ev hE) Ob aqQ.at_ env.ln (λt ht=>by
  have h1:0<t.cols.length/\t.cols.length<=6:=env.cols t.df (env.df▸aDF ht);exact⟨ae,h1.1⟩) hlen (λi x c hx hc w2 h2=>hkids i x c hx hc w2 (hE.trans h2)) (λTs KA kc w2 h2=>hstep Ts KA kc w2 (hE.trans h2)) ho.adds ho.tot ho.mkd ho.made ho.set
  (λD DA dn iE w2 h2 hD WZ WI=>af2 p cols L hp env.ok env.cols hck m b0 w2 (aqQ.tab.ev h2) hm (hQ.ev (hE.trans h2)) D DA dn iE hD (by rw[WZ,env.df]) WI)
theorem af4{w:ak}{LA:Option Addr}{ln lc:Nat}{t:TM}{L:List Df}(env:Bg w LA ln lc [t] L)(m:PM)(b0:Nat)(nm:By)(hm:m.p=.mk 1 nm [] [] [] [] [] [])(hn:t.name=nm)(hp:Zd (.mk 1 nm [] [] [] [] [] []))(hQ:Qx b0 [] w m)(rows:List I)(hck:ckOf L (.mk 1 nm [] [] [] [] [] [])=CR.of t.cols)(ho:qM t.rows rows):Bh m LA ln lc t.cols rows w:=by
 obtain⟨h1,h2,_,_,h5⟩:=TB hm;have hk:m.kids.length=0:=by rw[<-aC_ (f:=PM.p),h5];rfl
 exact TC env m b0 _ hm hp hQ ae [] t.rows rows t.cols hck (by rw[hk];rfl) (λi x c _ hc=>by cases hc)
  (λTs KA kc w1 hE hTs hmap=>SL m [t] KA LA Ts.length kc ln lc t 0 w1 h1 (env.at_.ev hE) (by rw[h2,<-hn];simp) rfl) ho
theorem aiZ{Ts:List TM}{c:List C}{r:List I}(h:Ts.map (λt=>(t.cols,t.rows))=[(c,r)]):∃t,Ts=[t]/\t.cols=c/\t.rows=r:=by
 match Ts,h with
 | [t],h=>
  injection h with h _
  injection h with h1 h2
  exact⟨t,rfl,h1,h2⟩
theorem ai0{Ts:List TM}{c c':List C}{r r':List I}(h:Ts.map (λt=>(t.cols,t.rows))=[(c,r),(c',r')]):∃t t',Ts=[t,t']/\t.cols=c/\t.rows=r/\t'.cols=c'/\t'.rows=r':=by
 match Ts,h with
 | [t,t'],h=>
  injection h with h h'
  injection h with h1 h2
  injection h' with h' _
  injection h' with h3 h4
  exact⟨t,t',rfl,h1,h2,h3,h4⟩
theorem EJ{w:ak}{LA:Option Addr}{ln lc:Nat}{l:List TM}{L:List Df}(env:Bg w LA ln lc l L)(m:PM)(b0:Nat)(lf:List By)(ag:List Ag)(q:Pl)(hm:m.p=.mk 7 [] [] [] lf [] ag [q])(hp:Zd (.mk 7 [] [] [] lf [] ag [q]))(hQ:Qx b0 [] w m)(c:List C)(r rows:List I)(cols:List C)(hck:ckOf L (.mk 7 [] [] [] lf [] ag [q])=CR.of cols)
  (Be:∀x∈m.kids,x.p=q->Bh x LA ln lc c r w) (hg:yg c lf ag r) (ho:qM (fQ c lf ag r) rows):Bh m LA ln lc cols rows w:=by
 obtain⟨h1,_,h3,h4,h5⟩:=TB hm;have hk:m.kids.length=1:=by rw[<-aC_ (f:=PM.p),h5];rfl
 refine TC env m b0 _ hm hp hQ ae [(c,r)] (fQ c lf ag r) rows cols hck (by rw[hk];rfl) (λi x e hx he=>?_) (λTs KA kc w1 hE hTs hmap=>?_) ho;have hi:i=0:=by have:=(aC6.1 he).1;simp at this;omega
 subst hi;obtain rfl:=aDp he;have hx2:(m.kids.map PM.p)[0]?=some x.p:=by rw[aDG,hx];rfl
 rw[h5]at hx2;exact Be x (aDb hx) (aDp hx2).symm;obtain⟨t,rfl,rfl,rfl⟩:=aiZ hmap;have h6:=SN m b0 t KA LA kc ln lc w1 h1 (hQ.ev hE) hTs (by rw[h3,h4];exact hg);rw[h3,h4]at h6;have hl3:m.lf.l.length=lf.length:=by rw[h3]
 have hl4:m.ag.l.length=ag.length:=by rw[h4]
 rw[hl3,hl4];exact h6
theorem af5{w:ak}{LA:Option Addr}{ln lc:Nat}{l:List TM}{L:List Df}(env:Bg w LA ln lc l L)(m:PM)(b0:Nat)(q:Pl)(hm:m.p=.mk 5 [] [] [] [] [] [] [q,q])(hp:Zd (.mk 5 [] [] [] [] [] [] [q,q]))(hQ:Qx b0 [] w m)(c:List C)(r rows:List I)(cols:List C)(hck:ckOf L (.mk 5 [] [] [] [] [] [] [q,q])=CR.of cols)
  (Be:∀x∈m.kids,x.p=q->Bh x LA ln lc c r w) (ho:qM (r++r) rows) (hsm:r.length<=100000):Bh m LA ln lc cols rows w:=by
 obtain⟨h1,_,_,_,h5⟩:=TB hm;have hk:m.kids.length=2:=by rw[<-aC_ (f:=PM.p),h5];rfl
 refine TC env m b0 _ hm hp hQ ae [(c,r),(c,r)] (r++r) rows cols hck (by rw[hk];rfl) (λi x e hx he=>?_) (λTs KA kc w1 hE hTs hmap=>?_) ho;have hi:i<2:=by have:=(aC6.1 he).1;simpa using this
 have hx2:(m.kids.map PM.p)[i]?=some x.p:=by rw[aDG,hx];rfl
 rw[h5]at hx2;have Y7:x.p=q/\e=(c,r):=by
  match i,hi,hx2,he with
  | 0,_,hx2,he=>exact⟨(aDp hx2).symm,(aDp he).symm⟩
  | 1,_,hx2,he=>exact⟨(aDp hx2).symm,(aDp he).symm⟩
 rw[Y7.2];exact Be x (aDb hx) Y7.1;obtain⟨t,t',rfl,hc1,hr1,hc2,hr2⟩:=ai0 hmap;have h6:=TA m t t' KA LA kc ln lc w1 h1 hTs (by rw[hr1];exact hsm) (by rw[hr2];exact hsm);rw[hr1,hr2]at h6;exact h6
theorem amC{w:ak}{LA:Option Addr}{ln lc:Nat}{u:TM}(env:Bg w LA ln lc [u] uF)(hn:u.name=[117])(hc:u.cols=cZ)(S:List I)(ho:qM u.rows S)(m:PM)(b0:Nat)(hm:m.p=Za)(hQ:Qx b0 [] w m):Bh m LA ln lc cZ S w:=by have h:=af4 env m b0 [117] hm hn avq hQ S (by rw[hc];exact avs) ho;rwa [hc]at h
theorem aqR{w:ak}{LA:Option Addr}{ln lc:Nat}{u:TM}(env:Bg w LA ln lc [u] uF)(hn:u.name=[117])(hc:u.cols=cZ)(S G:List I)(ho:qM u.rows S)(hU:oI S)(hG:qM (fQ cZ [[97]] OM S) G)(m:PM)(b0:Nat)(hm:m.p=EG)(hQ:Qx b0 [] w m):Bh m LA ln lc NL G w:=
 EJ env m b0 [[97]] OM Za hm afV hQ cZ S G NL aqJ (λx hx hp=>amC env hn hc S ho x b0 hp (hQ.kid x hx)) (avv hU ho.set) hG
theorem aqS{w:ak}{LA:Option Addr}{ln lc:Nat}{u:TM}(env:Bg w LA ln lc [u] uF)(hn:u.name=[117])(hc:u.cols=cZ)(S G:List I)(ho:qM u.rows S)(hU:oI S)(hG:qM (fQ cZ [] ag2 S) G)(m:PM)(b0:Nat)(hm:m.p=GY)(hQ:Qx b0 [] w m):Bh m LA ln lc NM G w:=
 EJ env m b0 [] ag2 Za hm akl hQ cZ S G NM aqK (λx hx hp=>amC env hn hc S ho x b0 hp (hQ.kid x hx)) (avw hU ho.set) hG
theorem aqT{w:ak}{LA:Option Addr}{ln lc:Nat}{u:TM}(env:Bg w LA ln lc [u] uF)(hn:u.name=[117])(hc:u.cols=cZ)(S G:List I)(ho:qM u.rows S)(hU:oI S)(hG:qM (fQ cZ [[97]] Qo S) G)(m:PM)(b0:Nat)(hm:m.p=Zb)(hQ:Qx b0 [] w m):Bh m LA ln lc BO G w:=
 EJ env m b0 [[97]] Qo Za hm aqI hQ cZ S G BO aqL (λx hx hp=>amC env hn hc S ho x b0 hp (hQ.kid x hx)) (avx hU ho.set) hG
theorem aqU{w:ak}{LA:Option Addr}{ln lc:Nat}{u:TM}(env:Bg w LA ln lc [u] uF)(hn:u.name=[117])(hc:u.cols=cZ)(S G R:List I)(ho:qM u.rows S)(hU:oI S)(hG:qM (fQ cZ [[97]] Qo S) G)(hl:∀x∈G,x.1.length=2)(hR:qM (fQ BO [] agN G) R)(m:PM)(b0:Nat)(hm:m.p=EH)(hQ:Qx b0 [] w m):Bh m LA ln lc NP R w:=
 EJ env m b0 [] agN Zb hm afW hQ BO G R NP aqM (λx hx hp=>aqT env hn hc S G ho hU hG x b0 hp (hQ.kid x hx)) (avy hG.made.adds (by rw[zX hG.made];exact hG.tot) hG.set hl) hR
theorem avA{w:ak}{LA:Option Addr}{ln lc:Nat}{u:TM}(env:Bg w LA ln lc [u] tF)(hn:u.name=[116])(hc:u.cols=jO)(S:List I)(ho:qM u.rows S)(m:PM)(b0:Nat)(hm:m.p=plT)(hQ:Qx b0 [] w m):Bh m LA ln lc jO S w:=by have h:=af4 env m b0 [116] hm hn avr hQ S (by rw[hc];exact avt) ho;rwa [hc]at h
theorem avC{w:ak}{LA:Option Addr}{ln lc:Nat}{u:TM}(env:Bg w LA ln lc [u] tF)(hn:u.name=[116])(hc:u.cols=jO)(S G:List I)(ho:qM u.rows S)(hG:qM (S++S) G)(hsm:S.length<=100000)(m:PM)(b0:Nat)(hm:m.p=plV)(hQ:Qx b0 [] w m):Bh m LA ln lc jO G w:=
 af5 env m b0 plT hm amy hQ jO S G jO avu (λx hx hp=>avA env hn hc S ho x b0 hp (hQ.kid x hx)) hG hsm
def BxE(g:Nat)(w:ak):Prop:=∃(A:Option Addr) (n c:Nat) (B:Option Addr) (k d:Nat),Bx 40 g #[.string ⟨#[]⟩,.slice A n c,.slice B k d] w
theorem BxE.ev{g:Nat}{w w':ak}(h:BxE g w)(hE:Ev w w'):BxE g w':=by obtain⟨A,n,c,B,k,d,hB⟩:=h;exact⟨A,n,c,B,k,d,hB.ev hE⟩
def JE(w w':ak):Prop:=∃g,BxE g w/\BxE g w'/\But [g] w w'
theorem EK{g:Nat}{w:ak}(h:BxE g w)(u:au)(h1:u≠.string ⟨#[]⟩)(h2:∀A n c,u≠.slice A n c)(o:Nat):w.cell? ⟨g,o,none⟩≠some u:=by obtain⟨A,n,c,B,k,d,hB⟩:=h;rw[hB.cell];rcases o with _|_|_|o;intro e;simp at e;exact h1 e.symm;intro e;simp at e;exact h2 _ _ _ e.symm;intro e;simp at e;exact h2 _ _ _ e.symm;intro e;simp at e
theorem eQ.Qs{l:List I}{w w':ak}{A:Option Addr}{n cap g:Nat}(h:eQ l w A n cap)(hB:BxE g w)(hb:But [g] w w'):eQ l w' A n cap:=by obtain⟨Z,hz,hl⟩:=h;refine⟨Z,⟨hz.js.past hb λx hx=>⟨1,nP x,rfl,EK hB _ (λe=>by cases e) (λA n c e=>by cases e)⟩,λz Jk=>⟨(hz.rows z Jk).1.past hb λx hx=>⟨0,.int .i64 x.1,rfl,EK hB _ (λe=>by cases e) (λA n c e=>by cases e)⟩,λad e=>aDf ((hz.rows z Jk).2 ad e) hb.size⟩,λad e=>aDf (hz.low ad e) hb.size,aC8 _⟩,hl⟩
theorem yI.Qs{t:TM}{w w':ak}{g:Nat}(h:yI w t)(hB:BxE g w)(hb:But [g] w w'):yI w' t:=
 ⟨h.cols.past hb λx hx=>⟨1,.int .i64 x.2,rfl,EK hB _ (λe=>by cases e) (λA n c e=>by cases e)⟩,h.rows.Qs hB hb⟩
theorem af6{s:By}(h:s≠[]):Value.string ⟨s.toArray⟩≠.string ⟨#[]⟩:=λe=>by
 injection e with e
 injection e with e
 exact h (by simpa using e)
def EM(ns:List By)(v:au)(w:ak):Prop:=∃A n c,v=.slice A n c/\Ss w A n c ns
def TsF(l:List TM)(v:au)(w:ak):Prop:=∃A n c,v=.slice A n c/\tJ w A n c l
def GZ(cols:List C)(rows:List I)(v:au)(w:ak):Prop:=∃t:TM,v=.tuple #[.agg #[↑t.name,.slice t.cA t.cols.length t.cc,.slice t.rA t.rows.length t.rc],.int .i64 0]/\t.cols=cols/\t.rows=rows/\yI w t/\t.name=[]
def TD(cols:List C)(rows:List I)(v:au)(w:ak):Prop:=∃t:TM,v=.agg #[↑t.name,.slice t.cA t.cols.length t.cc,.slice t.rA t.rows.length t.rc]/\t.cols=cols/\t.rows=rows/\yI w t/\t.name=[]
def Jh(b:Nat)(v:au)(w:ak):Prop:=∃g,v=.pointer (some ⟨g,0,none⟩)/\BxE g w/\b<=g
def ai2(b:Nat)(cols:List C)(rows:List I)(v:au)(w:ak):Prop:=∃g,∃t:TM,v=.pointer (some ⟨g,0,none⟩)/\Bx 40 g #[↑t.name,.slice t.cA t.cols.length t.cc,.slice t.rA t.rows.length t.rc] w/\t.cols=cols/\t.rows=rows/\yI w t/\b<=g
theorem EM.mono(ns:List By):kK (EM ns):=λv w w' hE ⟨A,n,c,e,h⟩=>⟨A,n,c,e,h.ev hE⟩
theorem TsF.mono(l:List TM):kK (TsF l):=λv w w' hE ⟨A,n,c,e,h⟩=>⟨A,n,c,e,h.ev hE⟩
theorem GZ.mono(cols:List C)(rows:List I):kK (GZ cols rows):=λv w w' hE ⟨t,e,h1,h2,h3,h4⟩=>⟨t,e,h1,h2,h3.ev hE,h4⟩
theorem TD.mono(cols:List C)(rows:List I):kK (TD cols rows):=λv w w' hE ⟨t,e,h1,h2,h3,h4⟩=>⟨t,e,h1,h2,h3.ev hE,h4⟩
theorem Jh.mono(b:Nat):kK (Jh b):=λv w w' hE ⟨g,e,h,hb⟩=>⟨g,e,h.ev hE,hb⟩
theorem ai2.mono(b:Nat)(cols:List C)(rows:List I):kK (ai2 b cols rows):=λv w w' hE ⟨g,t,e,hB,h1,h2,h3,hb⟩=>⟨g,t,e,hB.ev hE,h1,h2,h3.ev hE,hb⟩
theorem EM.jump{ns:List By}(hne:∀s∈ns,s≠[]):∀v w w',JE w w'->EM ns v w->EM ns v w':=λv w w' ⟨g,hB,_,hb⟩ ⟨A,n,c,e,h⟩=>
 ⟨A,n,c,e,h.past hb λx hx=>⟨0,↑x,rfl,EK hB _ (af6 (hne x hx)) (λA n c e=>by cases e)⟩⟩
theorem TsF.jump{l:List TM}(hne:∀t∈l,t.name≠[]):∀v w w',JE w w'->TsF l v w->TsF l v w':=λv w w' ⟨g,hB,_,hb⟩ ⟨A,n,c,e,h⟩=>
 ⟨A,n,c,e,h.sl.past hb λx hx=>⟨0,↑x.name,rfl,EK hB _ (af6 (hne x hx)) (λA n c e=>by cases e)⟩,λt ht=>(h.each t ht).Qs hB hb⟩
theorem GZ.jump(cols:List C)(rows:List I):∀v w w',JE w w'->GZ cols rows v w->GZ cols rows v w':=λv w w' ⟨g,hB,_,hb⟩ ⟨t,e,h1,h2,h3,h4⟩=>⟨t,e,h1,h2,h3.Qs hB hb,h4⟩
theorem TD.jump(cols:List C)(rows:List I):∀v w w',JE w w'->TD cols rows v w->TD cols rows v w':=λv w w' ⟨g,hB,_,hb⟩ ⟨t,e,h1,h2,h3,h4⟩=>⟨t,e,h1,h2,h3.Qs hB hb,h4⟩
theorem Jh.jump(b:Nat):∀v w w',JE w w'->Jh b v w->Jh b v w':=λv w w' ⟨g,_,hB',hb⟩ ⟨g',e,h,h1⟩=>by by_cases hg:g'=g;subst hg;exact⟨g',e,hB',h1⟩;obtain⟨A,n,c,B,k,d,hB⟩:=h;exact⟨g',e,⟨A,n,c,B,k,d,hB.but hb (by simp;exact hg)⟩,h1⟩
theorem OQ{ρ:Operand->au}{o:Oper}{w:ak}(ho:o.op=.alloc 40):
  (execOp ρ o).run ax w=.ok (.value (.pointer ↑w)) (w.alloc (.cells #[.string ⟨#[]⟩,↑(),↑()] 40)):=by
 unfold execOp;rw[ho];simp[go_sem]
theorem Jh.new(b:Nat)(w:ak)(h:b<=w.heap.size):Jh b (.pointer ↑w) (w.alloc (.cells #[.string ⟨#[]⟩,↑(),↑()] 40)):=⟨_,rfl,⟨none,0,0,none,0,0,Bx.new _ _ _⟩,h⟩
def ve(rows:List I)(w:ak)(e:Ending)(w':ak):Prop:=∃A c,e=.returned (.tuple #[.slice A rows.length c,.int .i64 0])/\eQ rows w' A rows.length c/\Ev w w'
theorem aGq(h:U:=by
 refine aF λa wv c=>⟨(ay rfl),.agg ↑m,?_,rfl⟩
 have bn:a.eval (.tmp 2)=.pointer ↑w:=(c.was 2 rfl)
 obtain⟨⟨p0,p1,p2,p3,p4,p5,p6,p7⟩,_⟩:=(B2.out.ev c.ev).eight;exact aIi):U:=h
theorem aaw(p:Pl)(hp:Zd p)(L:List Df)(BQ cols:List C)(rows:List I)(m:PM)(b0:Nat)(A:Option Addr)(n cap:Nat)(l nl:List TM)(ns:List By)(w:ak)(hT:Tab w)(hm:m.p=p)(hQ:Qx b0 [] w m)(h:tJ w A n cap l)(hr:SG l)(hdf:l.map TM.df=L)(hck:ckOf L p=CR.of BQ)
  (hns:∀s,0<p.sum (t_ s)↔s∈ns) (hst:yj ns) (hne:∀s∈ns,s≠[]) (hnl:(l.filter λt=>wu ns (dV t.name))=nl) (avD:∀t∈nl,t.name≠[])
  (hof:∀(LA:Option Addr) (ln lc:Nat) w1,Ev w w1->tJ w1 LA ln lc nl->ln<=1000->Calls ax 23 #[.agg ↑m,.slice LA ln lc] w1 (C9 cols rows w1)):
  Calls ax 7 #[.agg ↑m,.slice A n cap] w (ve rows w):=by
 have dH:Tryz.prog.follows .mixedOrders=true:=ah;have Xt:n<=1000:=by rw[<-h.sl.len];exact hr.len
 obtain⟨w0,hw0,aV,hB,_⟩:=Ez w m;have HB:=zq hB;have cO:=zq aV;have HR:=zq (λw1 (hE:Ev w w1)=>afq w1 (h.ev hE) hr);have HDF:=zq (λw1 (hE:Ev w w1)=>Si w1 (h.ev hE) Xt λt ht=>by have:=hr.cols t ht;omega);unfold Jz at HDF;rw[hdf]at HDF;have HOU:=zq (λ(D:List DM) (DA:Option Addr) (dn iE:Nat) w1 (hE:Ev w w1) hD WZ WI=>af2 p BQ L hp (hdf▸hr.ok) (λd hd=>by
  rw[<-hdf]at hd;obtain⟨t,ht,rfl⟩:=aDz.1 hd;have h5:=hr.cols t ht;exact⟨h5.2,h5.1⟩) hck m b0 w1 (hT.ev hE) hm (hQ.ev hE) D DA dn iE hD WZ WI)
 have HTB:=zq (λw1 (hE:Ev w w1)=>acw m b0 w1 (hQ.ev hE) (by have:=VL hp.wr;rw[hm];omega));unfold Y4 at HTB;rw[hm]at HTB;have EU:=zq (λ(B:Option Addr) (k c:Nat) w1 (hE:Ev w w1) (hS:Ss w1 B k c ns)=>afr w1 (h.ev hE) hS Xt);rw[hnl]at EU;have oU:Hid (nl.length<=1000):=zq (by
  rw[<-hnl];have h5:=List.length_filter_le (λt:TM=>wu ns (dV t.name)) l;have h6:=hr.len;omega)
 have HTM:Hid (∀w1 w2,Ev w w1->Ev w1 w2->∀t∈nl,yI w2 t):=zq (λw1 w2 h1 h2 t ht=>by
  rw[<-hnl]at ht;exact(h.each t (List.mem_filter.1 ht).1).ev (h1.trans h2))
 have HOF:=zq hof;unfold C9 at HOF;have HNS:Hid (∀ks:List By,(∀s,s∈ks↔0<p.sum (t_ s))->Lib.compact (nG ks)=ns):=zq (λks hk=>Jd (λx=>(hk x).trans (hns x)) hst);obtain⟨⟨p0,p1,p2,p3,p4,p5,p6,p7⟩,_⟩:=hB.eight;unfold ve;unfold pv dK.v PM.kv at HTB;clear hB aV hof hnl hns hst hQ hT h hr hck hdf hp hm Xt;go_enter func7,ntmps7;go_upto_region 3 with (first
  | ((with_reducible refine(HR.out _ cO.out).mono ?_);rintro r w1 ⟨rfl,aJ⟩;have E1:=zq (cO.out.trans aJ);have B1:=zq (HB.out.ev aJ);clear aJ))
 refine bD dH [λv _=>v=.agg ↑m,λv _=>v=.slice A n cap,IG L,qW BQ,qW BQ,Nz BQ,λv _=>v=.int .i64 0,λv _=>v=.string ⟨#[]⟩,Nz BQ,λv _=>v=.int .i64 0,λv _=>v=.string ⟨#[]⟩]
  37 rfl ah ⟨aB _,aB _,IG.mono _,qW.mono _,qW.mono _,Nz.mono _,aB _,aB _,Nz.mono _,aB _,aB _,trivial⟩ ?_ ?_
 ·refine az 0 ?_ (az 1 ?_ (az 2 ?_ (az 3 ?_ (az 4 ?_ (az 5 ?_ (az 6 ?_ (az 7 ?_ (az 8 ?_ (az 9 ?_ (az 10 ?_ (eY 11)))))))))));refine aF λa wv c=>⟨(ay rfl),.agg ↑m,?_,rfl⟩
  have bn:a.eval (.tmp 2)=.pointer ↑w:=(c.was 2 rfl)
  obtain⟨⟨p0,p1,p2,p3,p4,p5,p6,p7⟩,_⟩:=(B1.out.ev c.ev).eight;exact aIi;exact aIn;refine eP λa wv c=>⟨(ay rfl),22,#[.slice A n cap],?_,?_⟩
  rw[bK 22 _ _ rfl ah];have bn:a.eval (.tmp 16)=.slice A n cap:=(c.new 1 16)
  simp[bn];refine(HDF.out wv (E1.out.trans c.ev)).mono ?_;rintro e wp ⟨D,DA,dn,iE,rfl,hD,WZ,WI,aJ⟩;exact⟨_,rfl,aJ,D,DA,dn,iE,rfl,hD,WZ,WI⟩;refine eP λa wv c=>?_;obtain⟨D,DA,dn,iE,jk,hD,WZ,WI⟩:=((c.new 2 17):IG L (a.eval (.tmp 17)) wv)
  refine⟨(ay rfl),21,#[.agg ↑m,.slice DA dn iE],?_,?_⟩;rw[bK 21 _ _ rfl ah];have bn:a.eval (.tmp 15)=.agg ↑m:=(c.new 0 15)
  simp[bn,jk];refine(HOU.out D DA dn iE wv (E1.out.trans c.ev) hD WZ WI).mono ?_;exact aHJ;refine aF λa wv c=>⟨(ay rfl),_,run_move _ rfl wv,(c.new 3 18)⟩
  ·refine aF λa wv c=>?_;obtain⟨A9,c9,bn,hS⟩:=((c.new 4 14):qW BQ (a.eval (.tmp 14)) wv)
   refine⟨(ay rfl),.slice A9 BQ.length c9,?_,A9,c9,rfl,hS⟩;generalize a.eval=ρ at bn|-;simp[execOp,bn,go_sem]
  refine aF λa wv c=>?_;obtain⟨A9,c9,bn,hS⟩:=((c.new 4 14):qW BQ (a.eval (.tmp 14)) wv)
  exact aH9
  ·refine aF λa wv c=>?_;obtain⟨A9,c9,bn,hS⟩:=((c.new 4 14):qW BQ (a.eval (.tmp 14)) wv)
   refine⟨(ay rfl),.string ⟨#[]⟩,?_,rfl⟩;generalize a.eval=ρ at bn|-;simp[execOp,bn,go_sem]
  refine aF λa wv c=>⟨(ay rfl),_,run_assign _ rfl wv,(c.new 5 19)⟩
  refine aF λa wv c=>⟨(ay rfl),_,run_assign _ rfl wv,(c.new 6 20)⟩
  refine aF λa wv c=>⟨(ay rfl),_,run_assign _ rfl wv,(c.new 7 21)⟩
 intro s w2 dJ hold hnew;have f1:s 1=.slice A n cap:=hold 1;have f2:s 2=.pointer ↑w:=hold 2;have f7:s 7=.int .i64 0:=hnew 9 7;change Exit.then _ _ .normal ⟨#[s 0,s 1,s 2,s 3,s 4,s 5,s 6,s 7,s 8,s 9,s 10,s 11,s 12,s 13,s 14,s 15,s 16,s 17,s 18,s 19,s 20,s 21,s 22,s 23,s 24,s 25,s 26,s 27,s 28,s 29,s 30,s 31,s 32,s 33,s 34,s 35,s 36],_⟩ _;simp only[f1,f2,f7];have E2:=zq (E1.out.trans dJ);have B2:=zq (B1.out.ev dJ);clear hold hnew dJ p0 p1 p2 p3 p4 p5 p6 p7;generalize s 0=u0_,s 3=u3_,s 4=u4_,s 5=u5_,s 6=u6_,s 8=u8_,s 9=u9_,s 10=ab1,s 11=ab2,s 12=YJ,s 13=ab3,s 14=YK,s 15=Vh,s 16=Vj,s 17=X5,s 18=X6,s 19=X7,s 20=Vk,s 21=Vl,s 22=X8,s 23=X9,s 24=Ya,s 25=Yb,s 26=Yc,s 27=Yd,s 28=QP,s 29=Uk,s 30=Ye,s 31=Yf,s 32=Yg,s 33=Yh,s 34=Yi,s 35=aeH,s 36=adw;go_upto_region 6 with fail
 refine Gf dH JE 10 9 9 (ai2 w2.heap.size cols rows) [λv _=>v=.agg ↑m,λv _=>v=.slice A n cap,λv _=>v=.agg ↑m,EM ns,TsF nl,GZ cols rows,GZ cols rows,TD cols rows,λv _=>v=.int .i64 0,Jh w2.heap.size,λ_ _=>True,λv _=>v=.int .i64 0]
  37 rfl ah ⟨aB _,aB _,aB _,EM.mono _,TsF.mono _,GZ.mono _ _,GZ.mono _ _,TD.mono _ _,aB _,Jh.mono _,fC,aB _,trivial⟩
  ⟨.inr (.inr λ_ _ _ _ h=>h),.inr (.inr λ_ _ _ _ h=>h),.inr (.inr λ_ _ _ _ h=>h),.inr (.inr (EM.jump hne)),.inr (.inr (TsF.jump avD)),.inr (.inr (GZ.jump _ _)),.inr (.inr (GZ.jump _ _)),.inr (.inr (TD.jump _ _)),.inr (.inr λ_ _ _ _ h=>h),.inr (.inr (Jh.jump _)),.inl rfl,.inr (.inr λ_ _ _ _ h=>h),trivial⟩ (ai2.mono _ _ _) _ rfl ah ah ?_ ?_ ?_
 ·refine lT 0 ?_ (lT 1 ?_ (lT 2 ?_ (lT 3 ?_ (lT 4 ?_ (lT 5 ?_ (lT 6 ?_ (lT 7 ?_ (lT 8 ?_ (lT 9 ?_ (abz 10 (lT 11 ?_ (ahS 12))))))))))));exact aGq;exact aIn;exact aGq;refine eP λa wv c=>⟨(ay rfl),25,#[.agg ↑m],?_,?_⟩
  rw[bK 25 _ _ rfl ah];have bn:a.eval (.tmp 28)=.agg ↑m:=(c.new 2 28)
  simp[bn];refine(HTB.out wv (E2.out.trans c.ev)).mono ?_;rintro e wp ⟨A9,n9,c9,ks,rfl,hS,hk,_,hE9⟩;rw[HNS.out ks hk]at hS;exact⟨_,rfl,hE9,A9,n9,c9,rfl,hS⟩;refine eP λa wv c=>?_;obtain⟨A9,n9,c9,jk,hS⟩:=((c.new 3 29):EM ns (a.eval (.tmp 29)) wv)
  refine⟨(ay rfl),24,#[.slice A n cap,.slice A9 n9 c9],?_,?_⟩;rw[bK 24 _ _ rfl ah];have bn:a.eval (.tmp 27)=.slice A n cap:=(c.new 1 27)
  simp[bn,jk];refine(EU.out A9 n9 c9 wv (E2.out.trans c.ev) hS).mono ?_;rintro e wp ⟨v,rfl,hO⟩;obtain⟨A8,c8,rfl,qJ,_⟩:=hO.own.form Vb;exact⟨_,rfl,hO.ev,A8,nl.length,c8,rfl,qJ,HTM.out _ _ (E2.out.trans c.ev) hO.ev⟩;refine eP λa wv c=>?_;obtain⟨A9,n9,c9,jk,hS⟩:=((c.new 4 30):TsF nl (a.eval (.tmp 30)) wv)
  refine⟨(ay rfl),23,#[.agg ↑m,.slice A9 n9 c9],?_,?_⟩;rw[bK 23 _ _ rfl ah];have bn:a.eval (.tmp 26)=.agg ↑m:=(c.new 0 26)
  simp[bn,jk];refine(HOF.out A9 n9 c9 wv (E2.out.trans c.ev) hS (by rw[<-hS.sl.len];exact oU.out)).mono ?_;rintro e wp ⟨t,rfl,h1,h2,h3,hE9,h4⟩;exact⟨_,rfl,hE9,t,rfl,h1,h2,h3,h4⟩;refine aF λa wv c=>⟨(ay rfl),_,run_move _ rfl wv,(c.new 5 31)⟩
  ·refine aF λa wv c=>?_;obtain⟨t,bn,h1,h2,h3,h4⟩:=((c.new 6 25):GZ cols rows (a.eval (.tmp 25)) wv)
   refine⟨(ay rfl),.agg #[↑t.name,.slice t.cA t.cols.length t.cc,.slice t.rA t.rows.length t.rc],?_,t,rfl,h1,h2,h3,h4⟩;generalize a.eval=ρ at bn|-;simp[execOp,bn,go_sem]
  refine aF λa wv c=>?_;obtain⟨t,bn,h1,h2,h3,h4⟩:=((c.new 6 25):GZ cols rows (a.eval (.tmp 25)) wv)
  exact aH9;refine JQ λa wq c=>⟨(ay rfl),_,_,OQ rfl,Ev.alloc _ _,Jh.new _ _ c.ev.size⟩
  refine aF λa wv c=>⟨(ay rfl),_,run_assign _ rfl wv,(c.new 8 33)⟩
 ·refine⟨rfl,λa wq c=>?_⟩;obtain⟨g_,eg_,⟨A_,n_,c_,B_,k_,d_,hB_⟩,hb_⟩:=(c.got 9 9 ah ah rfl:Jh _ _ _)
  obtain⟨t,aeW,h1,h2,h3,h4⟩:=(c.got 7 32 ah ah rfl:TD _ _ _ _)
  obtain⟨⟨z0_,z1_,z2_⟩,y0_,y1_,y2_⟩:=hB_.three;have hBE:BxE g_ wq:=⟨A_,n_,c_,B_,k_,d_,hB_⟩
  have Dv:=bP g_ ↑t.name (.slice t.cA t.cols.length t.cc) (.slice t.rA t.rows.length t.rc) wq;refine⟨ay rfl,kL g_ ↑t.name (.slice t.cA t.cols.length t.cc) (.slice t.rA t.rows.length t.rc) wq,?_,⟨g_,hBE,⟨_,_,_,_,_,_,by have h9:=hB_.kL ↑t.name (.slice t.cA t.cols.length t.cc) (.slice t.rA t.rows.length t.rc);rw[h4]at h9|-;exact h9⟩,Dv⟩,c.ev.box Dv hb_,⟨g_,t,eg_,hB_.kL _ _ _,h1,h2,h3.Qs hBE Dv,hb_⟩⟩;generalize a.eval=ρ at eg_ aeW|-;simp[execOp,eg_,aeW,go_sem,z0_,z1_,z2_,y0_,y1_,y2_,kL]
 intro s w3 jW hold hnew yG;obtain⟨g,t,f9,hBt,ht1,ht2,ht3,_⟩:=yG;have f10:s 10=.int .i64 0:=hnew 11 10;change Exit.then _ _ .normal ⟨#[s 0,s 1,s 2,s 3,s 4,s 5,s 6,s 7,s 8,s 9,s 10,s 11,s 12,s 13,s 14,s 15,s 16,s 17,s 18,s 19,s 20,s 21,s 22,s 23,s 24,s 25,s 26,s 27,s 28,s 29,s 30,s 31,s 32,s 33,s 34,s 35,s 36],_⟩ _;simp only[f9,f10];have E3:=zq (E2.out.trans jW);have HT3:=zq ht3.rows;have Ht:=zq ht2;obtain⟨⟨t0,t1,t2⟩,_⟩:=hBt.three;clear hold hnew jW ht1 ht2 ht3 hBt;generalize s 0=y0_,s 1=y1_,s 2=y2_,s 3=y3_,s 4=y4_,s 5=y5_,s 6=y6_,s 7=y7_,s 8=y8_,s 11=aA9,s 12=aA_,s 13=aA',s 14=aBa,s 15=aBb,s 16=aBc,s 17=aBd,s 18=aBe,s 19=aBf,s 20=aBg,s 21=aBh,s 22=aBi,s 23=aBj,s 24=aBk,s 25=aBl,s 26=aBm,s 27=aBn,s 28=aBo,s 29=aBp,s 30=aBq,s 31=aBr,s 32=aBs,s 33=aBt,s 34=aBu,s 35=aBv,s 36=aBw;go_wp2
 go_ret2
 have h9:=HT3.out;have h8:=Ht.out;subst h8;exact⟨_,_,rfl,h9,E3.out⟩
def amM(L:List (List V)):List I:=(L.take 20).map λr=>(jB r,1,0)
def ai4(L:List (List V)):List I:=(L.take 20).map λr=>(iM r,1,0)
theorem acN(L:List (List V)):oI (amM L):=⟨AP jB IJ _,λx hx=>by
 unfold amM at hx;obtain⟨r,_,rfl⟩:=aDz.1 hx;have h1:=Wq (r.getD 0 lg).2.1;have h2:=Wq (r.getD 1 lg).2.1;exact⟨_,_,rfl,h1.1,h1.2,h2.1,h2.2⟩,EN jB L⟩
theorem Zj{S:List I}(hA:jc S)(hs:setB S=true):xJ S=true:=by unfold xJ;rw[hs,aEU,aDs];intro x hx;obtain⟨h1,h2⟩:=hA.pos x hx;rw[h2];simp;omega
structure oL(cols:List C)(S:List I):Prop where
 adds:jc S
 tot:bU S<=20
 set:setB S=true
 fits:∀x∈S,fitsL cols x.1=true
theorem amN(a c:Int):fitsL cZ [bI a,bI c]=true:=by unfold fitsL cZ bI iQ ed;simp[fitsL,iQ,ed]
theorem amO(r:List V):fitsL jO (iM r)=true:=by have h:=Qu (r.getD 1 lg).2.2;unfold iM;generalize G5 (r.getD 1 lg).2.2=s at h|-;simp[fitsL,jO,bI,iQ,ed];omega
theorem amP(L:List (List V)):∃S,vY (amM L)=(0,S)/\oL cZ S/\oI S:=by
 have hU:=acN L;obtain⟨S,h1,h2,h3⟩:=pz _ hU.adds (by have:=hU.tot;omega);have hS:=hU.made h2;exact⟨S,CZ hU.adds (by have:=hU.tot;omega) h1,⟨hS.adds,hS.tot,h3,λx hx=>by
  obtain⟨a,c,e,_⟩:=hS.rows x hx;rw[e];exact amN a c⟩,hS⟩
theorem amQ(L:List (List V)):∃S,vY (ai4 L)=(0,S)/\oL jO S:=by have hA:jc (ai4 L):=AP iM IK _;have ht:bU (ai4 L)<=20:=EN iM L;obtain⟨S,h1,h2,h3⟩:=pz _ hA ae;refine⟨S,CZ hA ae h1,h2.adds,by rw[zX h2];exact ht,h3,λx hx=>?_⟩;obtain⟨y,hy,e⟩:=h2.from_ x hx;rw[<-e];unfold ai4 at hy;obtain⟨r,_,rfl⟩:=aDz.1 hy;exact amO r
theorem oL.mks{cols:List C}{S:List I}(h:oL cols S):∃S',qM S S':=by obtain⟨S',h1,h2,h3⟩:=pz _ h.adds (by have:=h.tot;omega);exact⟨S',h.adds,by have:=h.tot;omega,h1,h2,h3⟩
theorem agd{S:List I}(h:jc S)(h0:bU S=0):S=[]:=by
 cases S with
 | nil=>rfl
 | cons x S=>
  have h1:=(h.pos x aC').1;have h2:=(h.sub (m:=S) λy hy=>aDc _ hy).tot.1;rw[ni]at h0;omega
end Go.Proofs.YtbgmhhfjkkfhpaaGreatDoor
