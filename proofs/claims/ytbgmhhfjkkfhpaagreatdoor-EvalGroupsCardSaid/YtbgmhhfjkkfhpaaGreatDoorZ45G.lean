import Derived.Test.YtbgmhhfjkkfhpaaGreatDoorZ43G
import Derived.Test.YtbgmhhfjkkfhpaaGreatDoorZ44G
set_option linter.unusedVariables false
set_option maxRecDepth 100000
set_option maxHeartbeats 64000000
namespace Go.Proofs.YtbgmhhfjkkfhpaaGreatDoor
open Go.RowKit
open Go.Lib renaming hid → zq
open Go renaming World → ak
open Go.Proofs.Tryz renaming prog → ax
open Go.Proofs.Tryz
def IL(p:Pl)(w:ak)(e:Ending)(w':ak):Prop:=∃m:PM,e=.returned (.agg ↑m)/\m.p=p/\Qx 0 [] w' m/\Ev w w'
theorem TF(s:By)(p:Pl)(h:Zc s p)(w:ak):Calls ax 8 #[↑s] w (IL p w):=by
 have HR:=zq (λw1=>agf s w1 h.len h.no h.ink h.c0 h.e0 h.l6);rw[h.eq]at HR;obtain⟨w0,hw0,aV,hB0,hs0⟩:=SA w;have um:=zq hB0;have cO:=zq aV;obtain⟨⟨d0,d1,d2,d3,d4,d5,d6,d7⟩,r0,r1,r2,r3,r4,r5,r6,r7⟩:=hB0.eight;unfold gJ at HR;unfold IL;clear hB0 aV h;go_enter func8,ntmps8
 go_wp2_with (first
  | ((with_reducible refine(HR.out _).mono ?_);rintro r w1 ⟨m,rfl,hmp,hmq,aJ⟩;simp only[];obtain⟨w2,hw2,dJ,hB2,_⟩:=Ez w1 m;have E2:=zq (aJ.trans dJ);have HMP:=zq hmp;have HMQ:=zq ((hmq.ev dJ).less (K':=[w.heap.size]) (λk hk=>by simp at hk;subst hk;exact .inr (.inl ae)));obtain⟨⟨p0,p1,p2,p3,p4,p5,p6,p7⟩,_⟩:=hB2.eight;clear d0 d1 d2 d3 d4 d5 d6 d7 r0 r1 r2 r3 r4 r5 r6 r7;obtain⟨⟨d0,d1,d2,d3,d4,d5,d6,d7⟩,r0,r1,r2,r3,r4,r5,r6,r7⟩:=(um.out.ev E2.out).eight;have uk:=zq (um.out.ev E2.out);clear hmp hmq aJ dJ hB2))
 (try simp only[Exit.inBlock,Exit.then]);rw[gI];refine aFe (aZ rfl _ _ _ _ _ rfl (uk.out.mi _ _ _ _ _ _ _ _) underlying35 rfl Tryz.iI) rfl ?_;exact⟨m,rfl,HMP.out,((HMQ.out.move (fB _ _ _ _ _ _ _ _ _ _) λk hk=>.inl hk).less (K':=[]) λk hk=>by cases hk).low (aDl _),(cO.out.trans E2.out).box (fB _ _ _ _ _ _ _ _ _ _) (aC8 _)⟩
theorem ai5:∀s,0<EG.sum (t_ s)↔s∈([[117]]:List By):=λs=>by by_cases e:s=[117];subst e;simp[EG,Za,Pl.sum,Pl.sums,t_,Pl.kind,Pl.name];have e':¬([117]:By)=s:=λh=>e h.symm;simp[EG,Za,Pl.sum,Pl.sums,t_,Pl.kind,Pl.name,e,e']
theorem ai6:∀s,0<GY.sum (t_ s)↔s∈([[117]]:List By):=λs=>by by_cases e:s=[117];subst e;simp[GY,Za,Pl.sum,Pl.sums,t_,Pl.kind,Pl.name];have e':¬([117]:By)=s:=λh=>e h.symm;simp[GY,Za,Pl.sum,Pl.sums,t_,Pl.kind,Pl.name,e,e']
theorem ai7:∀s,0<EH.sum (t_ s)↔s∈([[117]]:List By):=λs=>by by_cases e:s=[117];subst e;simp[EH,Zb,Za,Pl.sum,Pl.sums,t_,Pl.kind,Pl.name];have e':¬([117]:By)=s:=λh=>e h.symm;simp[EH,Zb,Za,Pl.sum,Pl.sums,t_,Pl.kind,Pl.name,e,e']
theorem amR:∀s,0<plV.sum (t_ s)↔s∈([[116]]:List By):=λs=>by by_cases e:s=[116];subst e;simp[plV,plT,Pl.sum,Pl.sums,t_,Pl.kind,Pl.name];have e':¬([116]:By)=s:=λh=>e h.symm;simp[plV,plT,Pl.sum,Pl.sums,t_,Pl.kind,Pl.name,e,e']
theorem oL.fit{t:TM}{cols:List C}{S:List I}(h:oL cols S)(hc:t.cols=cols)(hr:t.rows=S):aff t:=by subst hc hr;exact⟨λx hx=>h.adds.part (by have:=h.tot;omega) x hx,h.fits,Zj h.adds h.set⟩
section
variable {ST SU:List I} {tT tU:TM} {A:Option Addr} {w:ak}
theorem iC.df(h:iC ST SU tT tU A w):[tT,tU].map TM.df=tuF:=by simp[TM.df,tuF,h.nT.1,h.nT.2.1,h.nU.1,h.nU.2.1]
theorem iC.right(h:iC ST SU tT tU A w)(hT:oL jO ST)(hU:oL cZ SU):SG [tT,tU]:=by refine⟨λt ht=>?_,λt ht=>?_,by rw[h.df];exact apl,aj⟩;simp only[aDg,aEa,aEG]at ht;rcases ht with rfl|rfl;exact hT.fit h.nT.2.1 h.nT.2.2;exact hU.fit h.nU.2.1 h.nU.2.2;simp only[aDg,aEa,aEG]at ht;rcases ht with rfl|rfl;rw[h.nT.2.1];decide;rw[h.nU.2.1];decide
theorem iC.ai8(h:iC ST SU tT tU A w):([tT,tU].filter λt=>wu [[117]] (dV t.name))=[tU]:=by simp[wu,dV,h.nT.1,h.nU.1]
theorem iC.ai9(h:iC ST SU tT tU A w):([tT,tU].filter λt=>wu [[116]] (dV t.name))=[tT]:=by simp[wu,dV,h.nT.1,h.nU.1]
theorem Zk(p:Pl)(hp:Zd p)(cols:List C)(G:List I)(hck:ckOf tuF p=CR.of cols)(htab:∀s,0<p.sum (t_ s)↔s∈([[117]]:List By))(hL:iC ST SU tT tU A w)(hTO:oL jO ST)(hUO:oL cZ SU)(hT:Tab w)(m:PM)(hm:m.p=p)(hQ:Qx 0 [] w m)
  (hof:∀(LA:Option Addr) (ln lc:Nat) w1,Bg w1 LA ln lc [tU] uF->Qx 0 [] w1 m->Bh m LA ln lc cols G w1):
  Calls ax 7 #[.agg ↑m,.slice A 2 2] w (ve G w):=
 aaw p hp tuF cols cols G m 0 A 2 2 [tT,tU] [tU] [[117]] w hT hm hQ hL.at_ (hL.right hTO hUO) hL.df hck htab (aEr _ _) (λs hs=>by rw[aDM.1 hs];decide) hL.ai8 (λt ht=>by rw[aDM.1 ht,hL.nU.1];decide)
  (λLA ln lc w1 hE hTs Xt=>hof LA ln lc w1 ⟨hT.ev hE,hTs,Xt,by simp[TM.df,uF,hL.nU.1,hL.nU.2.1],auA,ai⟩ (hQ.ev hE) w1 aS)
theorem amS(p:Pl)(hp:Zd p)(cols:List C)(G:List I)(hck:ckOf tuF p=CR.of cols)(htab:∀s,0<p.sum (t_ s)↔s∈([[116]]:List By))(hL:iC ST SU tT tU A w)(hTO:oL jO ST)(hUO:oL cZ SU)(hT:Tab w)(m:PM)(hm:m.p=p)(hQ:Qx 0 [] w m)
  (hof:∀(LA:Option Addr) (ln lc:Nat) w1,Bg w1 LA ln lc [tT] tF->Qx 0 [] w1 m->Bh m LA ln lc cols G w1):
  Calls ax 7 #[.agg ↑m,.slice A 2 2] w (ve G w):=
 aaw p hp tuF cols cols G m 0 A 2 2 [tT,tU] [tT] [[116]] w hT hm hQ hL.at_ (hL.right hTO hUO) hL.df hck htab (aEr _ _) (λs hs=>by rw[aDM.1 hs];decide) hL.ai9 (λt ht=>by rw[aDM.1 ht,hL.nT.1];decide)
  (λLA ln lc w1 hE hTs Xt=>hof LA ln lc w1 ⟨hT.ev hE,hTs,Xt,by simp[TM.df,tF,hL.nT.1,hL.nT.2.1],auz,ai⟩ (hQ.ev hE) w1 aS)
end
structure aaA(SU G R K:List I):Prop where
 tab:oL cZ SU
 g1:∃S,qM SU S/\oI S/\qM (fQ cZ [[97]] OM S) G/\qM (fQ cZ [] ag2 S) R/\∃Gi,qM (fQ cZ [[97]] Qo S) Gi/\(∀x∈Gi,x.1.length=2)/\qM (fQ BO [] agN Gi) K
section
variable {ST SU G R K:List I} {tT tU:TM} {A:Option Addr} {w:ak}
theorem ai'(h:aaA SU G R K)(hL:iC ST SU tT tU A w)(hTO:oL jO ST)(hT:Tab w)(m:PM)(hm:m.p=EG)(hQ:Qx 0 [] w m):Calls ax 7 #[.agg ↑m,.slice A 2 2] w (ve G w):=by obtain⟨S,h1,h2,h3,_⟩:=h.g1;exact Zk EG afV NL G amz ai5 hL hTO h.tab hT m hm hQ λLA ln lc w1 env hQ1=>aqR env hL.nU.1 hL.nU.2.1 S G (by rw[hL.nU.2.2];exact h1) h2 h3 m 0 hm hQ1
theorem aja(h:aaA SU G R K)(hL:iC ST SU tT tU A w)(hTO:oL jO ST)(hT:Tab w)(m:PM)(hm:m.p=GY)(hQ:Qx 0 [] w m):Calls ax 7 #[.agg ↑m,.slice A 2 2] w (ve R w):=by obtain⟨S,h1,h2,_,h4,_⟩:=h.g1;exact Zk GY akl NM R amA ai6 hL hTO h.tab hT m hm hQ λLA ln lc w1 env hQ1=>aqS env hL.nU.1 hL.nU.2.1 S R (by rw[hL.nU.2.2];exact h1) h2 h4 m 0 hm hQ1
theorem ajb(h:aaA SU G R K)(hL:iC ST SU tT tU A w)(hTO:oL jO ST)(hT:Tab w)(m:PM)(hm:m.p=EH)(hQ:Qx 0 [] w m):Calls ax 7 #[.agg ↑m,.slice A 2 2] w (ve K w):=by obtain⟨S,h1,h2,_,_,Gi,h5,h6,h7⟩:=h.g1;exact Zk EH afW NP K amB ai7 hL hTO h.tab hT m hm hQ λLA ln lc w1 env hQ1=>aqU env hL.nU.1 hL.nU.2.1 S Gi K (by rw[hL.nU.2.2];exact h1) h2 h5 h6 h7 m 0 hm hQ1
end
theorem aq4:Enc 1 rwc:=⟨ae,λ_=>rfl,λx u hu=>by
 simp[rwc]at hu;subst hu;rfl⟩
def Wv:I:=([bI 1,bI 2,(2,0,⟨#[]⟩)],1,0)
def kv2:I:=([bI 1,bI 2,(2,0,⟨#[]⟩)],2,0)
theorem EO:bZ Wv.1=true:=by decide+kernel
theorem ako:qM [Wv] [Wv]:=by obtain⟨h1,h2,h3,_,h5⟩:=Tv [Wv] Wv.1 EO;exact⟨h5,by decide+kernel,h1,h2,h3⟩
theorem amT:qM ([Wv]++[Wv]) [kv2]:=by
 have hA:jc ([Wv]++[Wv]):=(zY EO).append (zY EO);obtain⟨s,h1,h2,h3⟩:=pz _ hA (by decide+kernel);have h4:uD ([Wv]++[Wv])=some [kv2]:=by decide+kernel
 rw[h4]at h1;obtain rfl:=aDp h1;exact⟨hA,by decide+kernel,h4,h2,h3⟩
theorem amU:oL jO [Wv]:=⟨zY EO,by decide+kernel,ako.set,λx hx=>by obtain rfl:=aDM.1 hx;decide+kernel⟩
theorem amV:oL cZ []:=⟨DL,ai,rfl,λx hx=>by cases hx⟩
theorem amW(s:dK V)(hs:s.l=[1,2].map bI):vY (((([s].map dK.l).take 20).map λr=>(iM r,1,0)))=(0,[Wv]):=by rw[aDe,aDu,hs];decide+kernel
theorem amX:vY (((([]:List (dK V)).map dK.l).take 20).map λr=>(jB r,1,0))=(0,[]):=by decide+kernel
theorem acO(w:ak)(hT:Tab w):Calls ax 12 #[] w (Yes w):=by
 have HN:=zq (λw1=>LW [1,2] 2 rfl ai ai w1 #[.int .i64 1,.int .i64 2] rfl);have xx:Hid (∀(s:dK V) w1,s.l=[1,2].map bI->Vs w1 s.A s.l.length s.cap s.l->Calls ax 6 #[.slice ↑w1 1 1,↑()] (w1.alloc (.cells #[.slice s.A s.l.length s.cap] 44)) λe w'=>∃(C:Option Addr) (tT tU:TM),e=.returned (.slice C 2 2)/\iC [Wv] [] tT tU C w'/\Ev (w1.alloc (.cells #[.slice s.A s.l.length s.cap] 44)) w'):=zq (λs w1 hs hv=>
  NZ _ (L:=[s]) (K:=[]) ⟨Sl.one (et:=44) (enc:=rwc) aq4 w1 s _ rfl,λx hx=>by
   obtain rfl:=aDM.1 hx;refine⟨hv.ev aC,?_⟩;rw[hs];unfold okN bI;simp⟩ (oK.nil_ _) [Wv] [] (amW s hs) amX)
 have HOF:Hid (∀w1,Calls ax 8 #[.string ⟨#[40,117,110,105,111,110,32,40,116,97,98,108,101,32,116,41,32,40,116,97,98,108,101,32,116,41,41]⟩] w1 (IL plV w1)):=zq (λw1=>TF sV plV afU w1);have HEV:Hid (∀(m:PM) (tT tU:TM) (A:Option Addr) w1,Ev w w1->iC [Wv] [] tT tU A w1->m.p=plV->Qx 0 [] w1 m->Calls ax 7 #[.agg ↑m,.slice A 2 2] w1 λe w'=>∃A c,e=.returned (.tuple #[.slice A 1 c,.int .i64 0])/\eQ [kv2] w' A 1 c/\Ev w1 w'):=zq (λm tT tU A w1 hE hL hm hQ=>
  amS plV amy jO [kv2] aqN amR hL amU amV (hT.ev hE) m hm hQ λLA ln lc w2 env hQ2=>avC env hL.nT.1 hL.nT.2.1 [Wv] [kv2] (by rw[hL.nT.2.2];exact ako) amT ai m 0 hm hQ2)
 have o2:FloatKind.f64.format.order 4611686018427387904 4611686018427387904=some .eq:=by decide+kernel
 have o0:FloatKind.f64.format.order 0 0=some .eq:=by decide+kernel
 unfold IL at HOF;unfold Yes;clear hT;go_enter func12,ntmps12;go_upto_region 2 with (first
  | ((with_reducible refine(HN.out _).mono ?_);rintro e w1 ⟨A1,m1,c1,rfl,hR,hE⟩;obtain⟨s,hsA,H5,hsc⟩:∃s:dK V,s.A=A1/\s.l=[1,2].map bI/\s.cap=c1:=⟨⟨A1,c1,[1,2].map bI⟩,rfl,rfl,rfl⟩;have hm1:s.l.length=m1:=(by rw[H5];exact hR.1.len);subst hsA hsc hm1;have HV:Hid (Vs w1 s.A s.l.length s.cap s.l):=zq (by have h9:=hR.1;rw[H5]at h9|-;exact h9);have HSL:=zq H5;have E1:=zq hE;clear hR hE H5)
  | ((with_reducible refine(xx.out s _ HSL.out HV.out).mono ?_);rintro e w2 ⟨C,tT,tU,rfl,hL,hE⟩;have HL:=zq hL;have E2:=zq ((E1.out.trans aC).trans hE);clear hL hE))
 go_upto_region 3 with (first
  | ((with_reducible refine(HOF.out _).mono ?_);rintro e w3 ⟨m,rfl,hm,hQ,hE⟩;have HM:=zq hm;have HQ:=zq hQ;have HL3:=zq (HL.out.ev hE);have E3:=zq (E2.out.trans hE);clear hm hQ hE)
  | ((with_reducible refine(HEV.out m tT tU C _ E3.out HL3.out HM.out HQ.out).mono ?_);rintro e w4 ⟨A4,c4,rfl,hS,hE⟩;have HS:=zq hS;have E4:=zq (E3.out.trans hE);clear hS hE))
 obtain⟨b,off,z,rfl,hb,hz,_,hc⟩:=HS.out.lies (k:=0) ae;obtain⟨_,c1⟩:=hc w4 aS;have hz3:z.2=kv2:=(aDp hz).symm;have hz1:z.2.2.1=2:=by rw[hz3];rfl
 have hz2:z.2.2.2=0:=by rw[hz3];rfl
 rw[hz1,hz2,avF,wW]at c1;simp only[aDH,aDw]at c1;clear hc hz hz1 hz2 hz3;go_wp2;go_ret;exact⟨rfl,E4.out⟩
def avJ(x:I):Prop:=x.2=(1,0)/\∃a c s lo hi:Int,x.1=[bI a,bI c,bI s,bI lo,bI hi]/\1<=c/\c<=20/\lo<=hi/\c*lo<=s/\s<=c*hi/\-3<=lo/\lo<=3/\-3<=hi/\hi<=3
def G6(G:List I):Int:=(G.map λx=>(jT x.1 1).2.1).sum
def Wx(G:List I):Int:=(G.map λx=>(jT x.1 2).2.1).sum
structure ajc(G R K:List I):Prop where
 rows:∀x∈G,avJ x
 few:G.length<=20
 none_:G6 G=0->R=[]/\K=[]
 some_:G6 G≠0->R=[([bI (G6 G),bI (Wx G)],1,0)]/\K=[([bI (G.length:Int)],1,0)]
theorem agh{SU:List I}(hUO:oL cZ SU)(hUR:oI SU):∃G R K,aaA SU G R K/\ajc G R K:=by
 obtain⟨S,hS⟩:=hUO.mks;have hU:oI S:=hUR.made hS.made;obtain⟨G,g1,g2,g3,g4,g5⟩:=acz hU;obtain⟨Gi,i1,i2,i3,i4,i5,i6,i7⟩:=afJ hU;have hR:=Tv S [bI (bU S),bI (qA S 1)] (afZ _ _);have hK:=Tv Gi [bI (bU Gi)] (af0 _);have eR:fQ cZ [] ag2 S=oJ S [bI (bU S),bI (qA S 1)]:=aiR S;have eK:fQ BO [] agN Gi=oJ Gi [bI (bU Gi)]:=amj Gi;have hlen:G.length=Gi.length:=by rw[g4.len,i7]
 refine⟨G,oJ S [bI (bU S),bI (qA S 1)],oJ Gi [bI (bU Gi)],⟨hUO,S,hS,hU,⟨NQ g2,ae,g1,g2,g3⟩,?_,Gi,⟨NQ i2,ae,i1,i2,i3⟩,λx hx=>?_,?_⟩,⟨λx hx=>⟨g4.ones x hx,?_⟩,?_,λh0=>?_,λh0=>?_⟩⟩;rw[eR];exact⟨hR.2.2.2.2,by have:=hR.2.2.2.1;omega,hR.1,hR.2.1,hR.2.2.1⟩;obtain⟨_,a,n,e,_⟩:=i4 x hx;rw[e];rfl;rw[eK];exact⟨hK.2.2.2.2,by have:=hK.2.2.2.1;omega,hK.1,hK.2.1,hK.2.2.1⟩;obtain⟨g,a,lo,hi,ht,e⟩:=g4.told x hx;have hs:=ht.small;exact⟨a,bU g,qA g 1,lo,hi,e,ht.pos,hs.2.2.2.2.2.2,ht.le,ht.least,ht.most,hs.2.2.1,hs.2.2.2.1,hs.2.2.2.2.1,hs.2.2.2.2.2.1⟩;have h1:=SS g2.adds;rw[zX g2]at h1;omega;have h1:bU S=0:=by rw[<-g4.cnt];exact h0
 have h2:=agd hU.adds h1;subst h2;have h3:Gi=[]:=by
  have h4:Gi.length=0:=by rw[i7];rfl
  exact aDv h4
 subst h3;exact⟨rfl,rfl⟩;have h1:bU S≠0:=λe=>h0 (by unfold G6;rw[g4.cnt];exact e);have h2:S≠[]:=λe=>h1 (by rw[e];rfl);have h3:Gi≠[]:=λe=>by
  have h4:bU S=0:=by have h5:G=[]:=aDv (by rw[hlen,e];rfl);rw[<-g4.cnt,h5];rfl
  exact h1 h4
 refine⟨?_,?_⟩;unfold oJ;rw[if_neg h2];unfold G6 Wx;rw[g4.cnt,g4.sum];unfold oJ;rw[if_neg h3,i6,<-g4.len]
theorem aq5{c l:Int}(h1:1<=c)(h2:c<=20)(h3:-3<=l)(h4:l<=3):-60<=c*l/\c*l<=60:=by have a:=aEM h4 (by omega:0<=c);have b:=aEM h3 (by omega:0<=c);omega
theorem agi{G:List I}{k:Nat}{x:I}(h:G[k]?=some x):G6 (G.take (k+1))=G6 (G.take k)+(jT x.1 1).2.1/\Wx (G.take (k+1))=Wx (G.take k)+(jT x.1 2).2.1:=by obtain⟨hk,rfl⟩:=aC6.1 h;unfold G6 Wx;rw[aDi hk,aDk,aDk,aEb,aEb];simp
theorem Vs.five{w:ak}{A:Option Addr}{n cap:Nat}{v0 v1 v2 v3 v4:V}(h:Vs w A n cap [v0,v1,v2,v3,v4]):n=5/\∃b off,A=some ⟨b,off,none⟩/\b<w.heap.size/\w.cell? ⟨b,off+3+1,none⟩=some (.int .i64 v1.2.1)/\w.cell? ⟨b,off+6+1,none⟩=some (.int .i64 v2.2.1)/\w.cell? ⟨b,off+9+1,none⟩=some (.int .i64 v3.2.1)/\w.cell? ⟨b,off+12+1,none⟩=some (.int .i64 v4.2.1):=by have hn:n=5:=h.len.symm;obtain⟨b,off,e,hb,hc⟩:=h.rd ae;exact⟨hn,b,off,e,hb,hc 1 v1 rfl 1 _ rfl,hc 2 v2 rfl 1 _ rfl,hc 3 v3 rfl 1 _ rfl,hc 4 v4 rfl 1 _ rfl⟩
theorem agj{r:List V}{A B:Option Addr}{cap cap':Nat}(w:ak)(h:eQ [(r,1,0)] w A 1 cap)(h':eQ [(r,1,0)] w B 1 cap')(hr:bZ r=true):Calls ax 14 #[.slice A 1 cap,.slice B 1 cap'] w (Yes w):=
 acL w h h' (λx hx=>(zY hr).part (by simp[bU]) x hx) (Tv [(r,1,0)] r hr |>.2.2.1) (λx hx=>by obtain rfl:=aDM.1 hx;exact hr)
theorem Wy{A B:Option Addr}{n cap n2 cap2:Nat}{L K0:List (dK V)}(w:ak)(hT:Tab w)(h0:oK w A n cap L)(h1:oK w B n2 cap2 K0):
  Calls ax 5 #[.slice A n cap,.slice B n2 cap2] w λe w'=>e=.returned (.bool true)/\Ev w w':=by
 have dH:Tryz.prog.follows .mixedOrders=true:=ah;obtain⟨ST,hST,hTO⟩:=amQ (L.map dK.l);obtain⟨SU,hSU,hUO,hUR⟩:=amP (K0.map dK.l);obtain⟨G,R,K,h3,hA⟩:=agh hUO hUR;have HTB:=zq (NZ w h0 h1 ST SU hST hSU);have HO1:Hid (∀w1,Calls ax 8 #[.string ⟨#[40,103,114,111,117,112,32,40,97,41,32,40,110,32,99,111,117,110,116,41,32,40,109,32,115,117,109,32,99,41,32,40,111,32,109,105,110,32,99,41,32,40,112,32,109,97,120,32,99,41,32,40,116,97,98,108,101,32,117,41,41]⟩] w1 (IL EG w1)):=zq (λw1=>TF sG1 EG aat w1);have HO2:Hid (∀w1,Calls ax 8 #[.string ⟨#[40,103,114,111,117,112,32,40,41,32,40,110,32,99,111,117,110,116,41,32,40,109,32,115,117,109,32,99,41,32,40,116,97,98,108,101,32,117,41,41]⟩] w1 (IL GY w1)):=zq (λw1=>TF sG2 GY aau w1);have HO3:Hid (∀w1,Calls ax 8 #[.string ⟨#[40,103,114,111,117,112,32,40,41,32,40,110,32,99,111,117,110,116,41,32,40,103,114,111,117,112,32,40,97,41,32,40,109,32,99,111,117,110,116,41,32,40,116,97,98,108,101,32,117,41,41,41]⟩] w1 (IL EH w1)):=zq (λw1=>TF sG3 EH aav w1);have jE:=zq (λ(m:PM) (tT tU:TM) (A:Option Addr) w1 (hE:Ev w w1) (hL:iC ST SU tT tU A w1) (hm:m.p=EG) (hQ:Qx 0 [] w1 m)=>ai' h3 hL hTO (hT.ev hE) m hm hQ);have uX:=zq (λ(m:PM) (tT tU:TM) (A:Option Addr) w1 (hE:Ev w w1) (hL:iC ST SU tT tU A w1) (hm:m.p=GY) (hQ:Qx 0 [] w1 m)=>aja h3 hL hTO (hT.ev hE) m hm hQ);have U8:=zq (λ(m:PM) (tT tU:TM) (A:Option Addr) w1 (hE:Ev w w1) (hL:iC ST SU tT tU A w1) (hm:m.p=EH) (hQ:Qx 0 [] w1 m)=>ajb h3 hL hTO (hT.ev hE) m hm hQ);have qg:=zq (λw1 (hE:Ev w w1)=>acO w1 (hT.ev hE));have HA:=zq hA;have HSM:=zq (λ(r:List V) (A B:Option Addr) (c c':Nat) w1 h h' hr=>agj (r:=r) (A:=A) (B:=B) (cap:=c) (cap':=c') w1 h h' hr);have HON:=zq (λ(l:List Int) (A:Option Addr) (n c:Nat) w1 h=>acM (l:=l) (A:=A) (n:=n) (cap:=c) w1 h);unfold IL at HO1 HO2 HO3;unfold ve at jE uX U8;unfold Yes at qg HSM;have hfew:G.length<=20:=hA.few;have hRl:R.length<=1000:=by by_cases e:G6 G=0;rw[(hA.none_ e).1];decide;rw[(hA.some_ e).1];simp
 have hKl:K.length<=1000:=by by_cases e:G6 G=0;rw[(hA.none_ e).2];decide;rw[(hA.some_ e).2];simp
 have o1:FloatKind.f64.format.order 4607182418800017408 4607182418800017408=some .eq:=by decide+kernel
 have o0:FloatKind.f64.format.order 0 0=some .eq:=by decide+kernel
 clear hT h0 h1 hST hSU hTO hUO hUR h3 hA;go_enter func5,ntmps5;go_upto_region 3 with (first
  | ((with_reducible refine(HTB.out).mono ?_);rintro r w1 ⟨C,tT,tU,rfl,hL,hE⟩;have HL1:=zq hL;have E1:=zq hE;clear hL hE)
  | ((with_reducible refine(HO1.out _).mono ?_);rintro r w2 ⟨m,rfl,hm,hQ,hE⟩;have HM:=zq hm;have HQ:=zq hQ;have HL2:=zq (HL1.out.ev hE);have E2:=zq (E1.out.trans hE);clear hm hQ hE)
  | ((with_reducible refine(jE.out m tT tU C _ E2.out HL2.out HM.out HQ.out).mono ?_);rintro r w3 ⟨A3,c3,rfl,hS,hE⟩;have HS3:=zq hS;have HL3:=zq (HL2.out.ev hE);have E3:=zq (E2.out.trans hE);clear hS hE))
 clear HM HQ;go_upto_region 4 with (first
  | ((with_reducible refine(HO2.out _).mono ?_);rintro r w4 ⟨m2,rfl,hm,hQ,hE⟩;have HM:=zq hm;have HQ:=zq hQ;have HL4:=zq (HL3.out.ev hE);have HS4:=zq (HS3.out.ev hE);have E4:=zq (E3.out.trans hE);clear hm hQ hE)
  | ((with_reducible refine(uX.out m2 tT tU C _ E4.out HL4.out HM.out HQ.out).mono ?_);rintro r w5 ⟨A5,c5,rfl,hS,hE⟩;have HR5:=zq hS;have HS5:=zq (HS4.out.ev hE);have HL5:=zq (HL4.out.ev hE);have E5:=zq (E4.out.trans hE);clear hS hE))
 clear HM HQ;go_upto_region 5 with (first
  | ((with_reducible refine(HO3.out _).mono ?_);rintro r w6 ⟨m3,rfl,hm,hQ,hE⟩;have HM:=zq hm;have HQ:=zq hQ;have HL6:=zq (HL5.out.ev hE);have HS6:=zq (HS5.out.ev hE);have HR6:=zq (HR5.out.ev hE);have E6:=zq (E5.out.trans hE);clear hm hQ hE)
  | ((with_reducible refine(U8.out m3 tT tU C _ E6.out HL6.out HM.out HQ.out).mono ?_);rintro r w7 ⟨A7,c7,rfl,hS,hE⟩;have HK7:=zq hS;have HS7:=zq (HS6.out.ev hE);have HR7:=zq (HR6.out.ev hE);have E7:=zq (E6.out.trans hE);clear hS hE))
 clear HM HQ HTB HO1 HO2 HO3 jE uX U8 HL1 HL2 HL3 HL4 HL5 HL6 HS3 HS4 HS5 HS6 HR5 HR6 E1 E2 E3 E4 E5 E6;generalize hng:G.length=ng at*;generalize hrl:R.length=rl at*;generalize qm:K.length=kl at*;have HNG:=zq hng;have HRL:=zq hrl;have N_:=zq qm;clear hng hrl qm;go_wp2
 go_loopw [12,13,14] (λnv mv iv wr=>∃(k:Nat) (cv sv:Int),nv=↑cv/\mv=↑sv/\iv=↑k/\k<=ng/\Hid (cv=G6 (G.take k)/\sv=Wx (G.take k))/\(0<=cv/\cv<=20*k/\-60*k<=sv/\sv<=60*k)/\Hid (Ev w7 wr)) (λ_ _ iv _=>ng-(intOf iv).toNat)
 case atStart=>exact⟨0,0,0,rfl,rfl,rfl,aDl _,zq ⟨rfl,rfl⟩,ae,zq aS⟩
 case round=>
  obtain⟨k,cv,sv,rfl,rfl,rfl,hk,HCS,hbd,HE⟩:=hrel;by_cases hlt:k<ng
  ·obtain⟨b,off,z,rfl,hb,hx,hrl,hcz⟩:=(HS7.out.ev HE.out).lies hlt;obtain⟨z0,z1⟩:=hcz wr aS;obtain⟨hone,a,c,s,lo,hi,hrow,b1,b2,b3,b4,b5,b6,b7,b8,b9⟩:=HA.out.rows z.2 (aDb hx);have hz1:z.2.2.1=1:=by rw[hone]
   have hz2:z.2.2.2=0:=by rw[hone]
   have mr:=zq (agi hx);rw[hrow]at mr;have mr:Hid (G6 (G.take (k+1))=G6 (G.take k)+c/\Wx (G.take (k+1))=Wx (G.take k)+s):=zq mr.out;have hv:=hrl.1;rw[hrow]at hv;obtain⟨hn5,rb,ro,era,WC,t1,t2,t3,t4⟩:=hv.five;rw[era,hn5]at z0;rw[hz1,hz2,avE,wW]at z1;have r1:wr.cell? ⟨rb,ro+3+1,none⟩=some ↑c:=t1;have r2:wr.cell? ⟨rb,ro+6+1,none⟩=some ↑s:=t2;have r3:wr.cell? ⟨rb,ro+9+1,none⟩=some ↑lo:=t3;have r4:wr.cell? ⟨rb,ro+12+1,none⟩=some ↑hi:=t4;have q1:=aq5 b1 b2 b6 b7;have q2:=aq5 b1 b2 b8 b9;have i1:(0:Int)<=(k:Int):=ae;have i2:(k:Int)<(ng:Int):=ae;have d1:decide (lo>hi)=false:=aDB ae;have d2:decide (c<1)=false:=aDB ae;have d3:decide (s<c*lo)=false:=aDB ae;have d4:decide (s>c*hi)=false:=aDB ae;have w1_:wrap64 (c*lo)=c*lo:=by unfold wrap64;omega
   have w2_:wrap64 (c*hi)=c*hi:=by unfold wrap64;omega
   have aBL:cv+c<=20*(k+1:Nat)/\0<=cv+c:=ae;have aBM:sv+s<=60*(k+1:Nat)/\-60*(k+1:Nat)<=sv+s:=ae;have aqX:(k:Int)<20:=ae;clear t1 t2 t3 t4 hone hrow hz1 hz2 hx hrl hcz hv era hn5;go_upto_region 12 with fail
   go_quiet (fail)
   generalize hwq:World.drewN _ _=wk;have hEK:Ev wr wk:=hwq▸Ev.drewN _ _;have s1:=(hEK.cell (p:=⟨rb,ro+3+1,none⟩) WC).trans r1;have s2:=(hEK.cell (p:=⟨rb,ro+6+1,none⟩) WC).trans r2;have HEK:=zq hEK;clear hwq r1 r2 r3 r4 z0 z1 hEK;go_wp2;go_roundw
   case rel=>exact⟨k+1,cv+c,sv+s,by go_num,by go_num,by go_num,ae,zq ⟨by rw[mr.out.1,HCS.out.1],by rw[mr.out.2,HCS.out.2]⟩,ae,zq (HE.out.trans HEK.out)⟩
   case measure=>simp[intOf];omega
  obtain rfl:k=ng:=ae;have mr:Hid (G.take k=G):=zq (aDj (by rw[HNG.out];exact aC8 _));have hcs:=HCS.out;rw[mr.out]at hcs;obtain⟨hc1,hc2⟩:=hcs;have E8:=zq (E7.out.trans HE.out);have HR8:=zq (HR7.out.ev HE.out);have II:=zq (HK7.out.ev HE.out);by_cases hz:cv=0
  ·obtain⟨hR,hK⟩:=HA.out.none_ (by rw[<-hc1];exact hz);have e1:rl=0:=by rw[<-HRL.out,hR];rfl
   have e2:kl=0:=by rw[<-N_.out,hK];rfl
   subst e1 e2 hz;clear hc1 hc2 hR hK
   go_wp2_with (first
    | ((with_reducible refine(qg.out _ E8.out).mono ?_);rintro r w9 ⟨rfl,hE⟩))
   go_ret;exact⟨rfl,E8.out.trans hE⟩
  obtain⟨hR,hK⟩:=HA.out.some_ (by rw[<-hc1];exact hz);have e1:rl=1:=by rw[<-HRL.out,hR];rfl
  have e2:kl=1:=by rw[<-N_.out,hK];rfl
  subst e1 e2;rw[<-hc1,<-hc2]at hR;rw[HNG.out]at hK;have hR8:=HR8.out;have hK8:=II.out;rw[hR]at hR8;rw[hK]at hK8;have HR9:=zq hR8;have HK9:=zq hK8;have HN2:=zq (λw1=>LW [cv,sv] 2 rfl ai ai w1 #[↑cv,↑sv] rfl);have HN1:=zq (λw1=>LW [(k:Int)] 1 rfl ai ai w1 #[↑k] rfl);clear hc1 hc2 hR hK HR8 II hR8 hK8
  go_wp2_with (first
   | ((with_reducible refine(HN2.out _).mono ?_);rintro r w9 ⟨A9,n9,c9,rfl,hR,hE⟩;have HN9:=zq hR;have F9:=zq hE;clear hR hE)
   | ((with_reducible refine(HON.out _ _ _ _ _ HN9.out).mono ?_);rintro r wa ⟨Aa,rfl,hS,hE⟩;have HSa:Hid (eQ [([bI cv,bI sv],1,0)] wa Aa 1 1):=zq hS;have Fa:=zq (F9.out.trans hE);clear hS hE)
   | ((with_reducible refine(HSM.out _ _ _ _ _ _ (HR9.out.ev Fa.out) HSa.out (afZ _ _)).mono ?_);rintro r wb ⟨rfl,hE⟩;have Fb:=zq (Fa.out.trans hE);clear hE)
   | ((with_reducible refine(HN1.out _).mono ?_);rintro r wc ⟨Ac,nc,cc,rfl,hR,hE⟩;have HNc:=zq hR;have Fc:=zq (Fb.out.trans hE);clear hR hE)
   | ((with_reducible refine(HON.out _ _ _ _ _ HNc.out).mono ?_);rintro r wd ⟨Ad,rfl,hS,hE⟩;have HSd:Hid (eQ [([bI (k:Int)],1,0)] wd Ad 1 1):=zq hS;have Fd:=zq (Fc.out.trans hE);clear hS hE)
   | ((with_reducible refine(HSM.out _ _ _ _ _ _ (HK9.out.ev Fd.out) HSd.out (af0 _)).mono ?_);rintro r we ⟨rfl,hE⟩;have Fe:=zq (Fd.out.trans hE);clear hE)
   | ((with_reducible refine(qg.out _ (E8.out.trans Fe.out)).mono ?_);rintro r wf ⟨rfl,hE⟩))
  go_ret;exact⟨rfl,E8.out.trans (Fe.out.trans hE)⟩
end Go.Proofs.YtbgmhhfjkkfhpaaGreatDoor
