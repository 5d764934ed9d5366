import Derived.Test.YtpbfokkocaemlaaGreatDoorZ27J
set_option linter.unusedVariables false
set_option maxRecDepth 100000
set_option maxHeartbeats 64000000
namespace Go.Proofs.YtpbfokkocaemlaaGreatDoor
open Go.RowKit
open Go.Lib renaming hid → zq
open Go renaming World → ak
open Go renaming Value → au
open Go.Proofs.Tryz renaming prog → ax
variable {U:Prop}
open Go.Proofs.Tryz
theorem Zt9{a:Prop}{b:Nat->Prop}{J:Nat->Go.World->Go.World->Prop}:a\/∀p,b p\/∀(v:Go.Value)(w w1:Go.World),J p w w1->True->True:=Or.inr λ_=>Or.inr λ_ _ _ _ h=>h
theorem Tryz.I_:(Tryz.prog.info? 54).map (λi=>(i.zero,i.size,i.bytes))=some (some (.agg #[.string ⟨#[]⟩,.string ⟨#[]⟩,.string ⟨#[]⟩]),3,48):=ah
theorem Tryz.oD:Tryz.prog.underlying 29=some (.slice 54):=ah
def Qi(b:Nat)(v:au)(w:ak):Prop:=∃g c0 c1 c2,v=.pointer (some ⟨g,0,none⟩)/\Bx 54 g #[c0,c1,c2] w/\b<=g
theorem Qi.mono(b:Nat):o8 (Qi b):=λv w w' hE h=>by obtain⟨g,c0,c1,c2,e,hB,hb⟩:=h;exact⟨g,c0,c1,c2,e,hB.ev hE,hb⟩
def JA(gr b:Nat)(w w':ak):Prop:=But [gr] w w'∨∃(g:Nat) (v0 v1 v2:au),b<=g/\(∃c0 c1 c2,Bx 54 g #[c0,c1,c2] w)/\w'=xX g v0 v1 v2 w
theorem Qi.jump(gr b:Nat)(hg:gr<b):∀v w w',JA gr b w w'->Qi b v w->Qi b v w':=by rintro v w w' (hb|⟨g,v0,v1,v2,_,⟨c0,c1,c2,hB⟩,rfl⟩) ⟨g',d0,d1,d2,e,hB',hb'⟩;exact⟨g',d0,d1,d2,e,hB'.but hb (by simp;omega),hb'⟩;by_cases hgg:g'=g;subst hgg;exact⟨g',v0,v1,v2,e,hB'.xX _ _ _,hb'⟩;exact⟨g',d0,d1,d2,e,hB'.but (uV g v0 v1 v2 w) (by simp;exact hgg),hb'⟩
def BxA(b:Nat)(s f c:ByteArray)(v:au)(w:ak):Prop:=∃g,v=.pointer (some ⟨g,0,none⟩)/\Bx 54 g #[.string s,.string f,.string c] w/\b<=g
theorem BxA.mono(b:Nat)(s f c:ByteArray):o8 (BxA b s f c):=λv w w' hE h=>by obtain⟨g,e,hB,hb⟩:=h;exact⟨g,e,hB.ev hE,hb⟩
theorem NH{ρ:Operand->au}{o:Oper}{w:ak}(ho:o.op=.alloc 54):
  (execOp ρ o).run ax w=.ok (.value (.pointer ↑w.heap.size)) (w.alloc (.cells #[.string ⟨#[]⟩,.string ⟨#[]⟩,.string ⟨#[]⟩] 54)):=by
 unfold execOp;rw[ho];simp[go_sem]
theorem adH{x:M}(h:dX x.t=true):x.kids.length=2∨x.kids.length=3:=by unfold dX at h;simp only[awk,awP,awx]at h;have:=h.2;rwa [M.aZ,awh]at this
theorem OD{b0 gr:Nat}{w:ak}{x:M}(h:Lies b0 [gr] w x){b off:Nat}(hA:x.A=some ⟨b,off,none⟩){i:Nat}{x2:M}(hx:x.kids[i]?=some x2):∀w1,But [gr] w w1->
  (w1.cell? ⟨b,off+i*5,none⟩=some ↑x2.kind/\w1.cell? ⟨b,off+i*5+1,none⟩=some ↑x2.s/\w1.cell? ⟨b,off+i*5+2,none⟩=some ↑x2.n/\w1.cell? ⟨b,off+i*5+3,none⟩=some (.slice x2.A x2.kids.length x2.cap)/\w1.cell? ⟨b,off+i*5+4,none⟩=some ↑x2.pos):=by
 intro w1 hb;have hgb:b≠gr:=by
  cases h with
  | mk h1 h2 h3=>
   have:=(h2 _ hA).2.2;simpa using this
 have fJ:=h.ms;rw[hA]at fJ;exact Ms.qI (fJ.but hb λad e=>by cases e;simp;exact hgb) hx
structure NI(w0:ak)(gr:Nat)(A1:Option Addr)(k cap1:Nat)(L:List Ag)(e:Er)(gb:Nat)(bc:Array au)(g8:Nat)(ac8:Array au)(w:ak):Prop where
 st:zS 54 3 ac w0 gr A1 k cap1 L e w
 bx:Bx 101 gb bc w
 ba:Bx 54 g8 ac8 w
 nr:gb≠gr
 n8:g8≠gr
 lo:w0.heap.size<=g8
 ns:∀g,(Value.slice A1 k cap1).ownBlock=some g->g≠g8
theorem NI.through{w0 wr wq:ak}{gr gb g8:Nat}{bc ac8:Array au}{A1:Option Addr}{k cap1:Nat}{L:List Ag}{e e':Er}(h:NI w0 gr A1 k cap1 L e gb bc g8 ac8 wr)(hr:iF gr e' wr wq)(hg:gr<w0.heap.size):NI w0 gr A1 k cap1 L e' gb bc g8 ac8 wq:=
 ⟨⟨h.st.owq hr hg,h.st.len,h.st.rd.then hr⟩,h.bx.but hr.but (by simp;exact h.nr),h.ba.but hr.but (by simp;exact h.n8),h.nr,h.n8,h.lo,h.ns⟩
theorem NI.ev{w0 wr wq:ak}{gr gb g8:Nat}{bc ac8:Array au}{A1:Option Addr}{k cap1:Nat}{L:List Ag}{e:Er}(h:NI w0 gr A1 k cap1 L e gb bc g8 ac8 wr)(hE:Ev wr wq):NI w0 gr A1 k cap1 L e gb bc g8 ac8 wq:=
 ⟨⟨h.st.own.ev hE,h.st.len,h.st.rd.ev hE⟩,h.bx.ev hE,h.ba.ev hE,h.nr,h.n8,h.lo,h.ns⟩
theorem NI.store2{w0 wr:ak}{gr gb g8:Nat}{bc:Array au}{v0 v1 v2:au}{A1:Option Addr}{k cap1:Nat}{L:List Ag}{e:Er}(h:NI w0 gr A1 k cap1 L e gb bc g8 #[v0,v1,v2] wr)(v:au):NI w0 gr A1 k cap1 L e gb bc g8 #[v0,v1,v] (wr.setCell ⟨g8,2,none⟩ v):=by
 have hb:But [g8] wr (wr.setCell ⟨g8,2,none⟩ v):=But.setCell _ _ aj;by_cases hgb:gb=g8;exfalso;have h1:=h.bx.blk;rw[hgb,h.ba.blk]at h1;injection h1 with h1
 injection h1 with _ h2
 cases h2
 refine⟨⟨h.st.own.but hb (λg hg=>by simp;exact h.ns g hg),h.st.len,h.st.rd.bx.but hb (by simp;exact λe=>h.n8 e.symm),h.st.rd.but.trans hb λy hy=>by simp at hy;subst hy;exact .inr h.lo⟩,h.bx.but hb (by simp;exact hgb),?_,h.nr,h.n8,h.lo,h.ns⟩;have:=h.ba.set 2 v;rw[show ((#[v0,v1,v2]:Array au).setIfInBounds 2 v)=#[v0,v1,v] by simp]at this;exact this
theorem aA'(h:U:=by refine aQ λa w c=>⟨(ay rfl),_,run_move _ rfl w,(c.was 0 rfl)⟩):U:=h
theorem azA(h:U:=by
 refine aQ λa wq c=>⟨(ay rfl),.pointer (some ⟨gb,3,none⟩),?_,rfl⟩
 have bD:a.eval (.tmp 7)=.pointer ↑gb:=(c.was 7 rfl)
 generalize a.eval=ρ at bD|-;simp[execOp,bD,go_sem]):U:=h
theorem aAb(h:U:=by have hc:=(c.inv.Ht (p:=⟨gb,3,none⟩) hlA (by simp;omega)).trans d3;generalize a.eval=ρ at bD|-;simp[execOp,bD,hc,go_sem]):U:=h
theorem adI(gr:Nat)(e:Er)(l:List M)(A:Option Addr)(n cap b0:Nat)(w:ak)(hB:Rb gr e w)(h:Ms w A n cap l)(hr:SK b0 [gr] w A)(hn:n<=10000)(hagg:∀x∈l,dX x.t=true)(hlies:∀x∈l,Lies b0 [gr] w x):
  Calls ax 118 #[.pointer ↑gr,.slice A n cap] w λr w'=>∃x:fE Ag,r=.returned x.v/\x.l=l.map (λx=>kK x.t)/\bg 3 ac w.heap.size [] w' x/\iF gr (fO e (aT (l.flatMap λx=>dY x.t))) w w':=by
 have fD:Tryz.prog.follows .mixedOrders=true:=ah;have hcl:=h.le;have hcm:=h.max;have HL:=zq h.len;have hgr:=hB.lt;have kL:=zq (zS.start 54 3 ac hB);have DT:=zq (λw1 (hb:But [gr] w w1)=>h.but hb λad e=>(hr ad e).2.2);have HRN:=zq (λm e w1 hB=>I8 gr e m w1 hB);have HRF:=zq (λe pos w1 hB=>I7 gr e 12 pos ai w1 hB);have HIF:=zq (λs o w1=>NC s o w1);have BZ:=zq (λx hx w1 (hb:But [gr] w w1)=>(hlies x hx).move hb λ_ hy=>.inl hy);have ank:=zq hagg;clear hB h hr hagg hlies;go_enter func118,ntmps118;go_wp2
 go_loopw [5,11] (λav iv wr=>∃(A1:Option Addr) (cap1 k:Nat) (E:Er),av=.slice A1 k cap1/\iv=↑k/\k<=n/\Hid (E=(((l.take k).flatMap λx=>dY x.t).foldl fO e))/\Hid (zS 54 3 ac w gr A1 k cap1 ((l.take k).map λx=>kK x.t) E wr)) (λ_ iv _=>n - (intOf iv).toNat)
 case atStart=>exact⟨none,0,0,e,rfl,rfl,aww _,zq rfl,kL⟩
 case round=>
  obtain⟨A1,cap1,k,E,rfl,rfl,hk,HEE,HS⟩:=hrel;by_cases hlt:k<n
  ·obtain⟨x,hx⟩:=(DT.out w (But.refl _ _)).at hlt;have iP:=awm hx;obtain⟨b,off,rfl,hb,c0,c1,c2,c3,c4⟩:=Ms.cell (DT.out wr HS.out.rd.but) hx;unfold M.kv at c3;have aiR:=adH (ank.out x iP);have aiS:=(BZ.out x iP w (But.refl _ _)).ms.le;have hcapm:x.cap<=9223372036854775807:=(BZ.out x iP w (But.refl _ _)).ms.max;obtain⟨b',off',x0,x1,hxA,hx0,hx1,hKC⟩:=Tu (BZ.out x iP w (But.refl _ _)) (n:=x.kids.length - 2) ae;have kZ:=zq hKC;have HK2:=zq (λx2 (h2:x.kids[2]?=some x2)=>OD (BZ.out x iP w (But.refl _ _)) hxA h2);have HX0:=zq hx0;have Su:=zq hx1;have HX:=zq hx;rw[hxA]at c3;obtain⟨kn,hkn⟩:∃kn,kn=x.kids.length:=⟨_,rfl⟩
   rw[<-hkn]at c3 aiS aiR;have mF:=zq hkn;have hb8:Bx 101 wr.heap.size #[↑x.kind,↑x.s,↑x.n,.slice ↑(b',off') kn x.cap,↑x.pos] (wr.alloc (.cells #[↑x.kind,↑x.s,↑x.n,.slice ↑(b',off') kn x.cap,↑x.pos] 101)):=Bx.new _ _ _;have hEb:=Ev.alloc wr (.cells #[↑x.kind,↑x.s,↑x.n,.slice ↑(b',off') kn x.cap,↑x.pos] 101);have hsb:(wr.alloc (.cells #[↑x.kind,↑x.s,↑x.n,.slice ↑(b',off') kn x.cap,↑x.pos] 101)).heap.size=wr.heap.size+1:=aj;have HEB:=zq hEb;have i1:(0:Int)<=(k:Int):=ae;have i2:(k:Int)<(n:Int):=ae;have i3:(0:Int)<(kn:Int):=ae;have i4:(1:Int)<(kn:Int):=ae;have n0:¬kn=0:=ae;have hgw:gr<wr.heap.size:=HS.out.rd.bx.lt;have hww:=HS.out.rd.but.size;have OE:b'<w.heap.size/\b'≠gr:=by
    have h1:=BZ.out x iP w (But.refl _ _)
    cases h1 with
    | mk h1 h2 h3=>
     have:=h2 _ hxA;exact⟨this.2.1,by simpa using this.2.2⟩
   clear hx iP hx0 hx1 hxA hKC hkn hb hEb;go_upto_region 5 with fail
   generalize zn:wr.alloc (.cells #[↑x.kind,↑x.s,↑x.n,.slice ↑(b',off') kn x.cap,↑x.pos] 101)=wA at*;clear zn c0 c1 c2 c3 c4;have HB8:=zq hb8;have HSB:=zq hsb;obtain⟨⟨d0,d1,d2,d3,d4⟩,_⟩:=hb8.five;have Yu:But [gr] w wA:=HS.out.rd.but.then (But.aV HEB.out);obtain⟨⟨k0,k1,k2,k3,k4⟩,j0,j1,j2,j3,j4⟩:=kZ.out _ Yu;have hlA:=HB8.out.lt;have hszA:=Yu.size;generalize hgb:wr.heap.size=gb at*;clear hb8 hsb Yu;refine Gl fD (λu=>But [gr] wA u) (JA gr (gb+1)) [5,13] (λp u=>Rb gr (if p=0 then E else fO E (bF x0.t)) u) 13 12 8 (BxA (gb+1) ⟨x0.s.toArray⟩ ⟨x1.s.toArray⟩ ⟨#[]⟩) [λv _=>v=.pointer ↑gr,λv _=>v=.pointer (some ⟨gb,3,none⟩),λv _=>v=.slice ↑(b',off') kn x.cap,λv _=>v=.pointer ↑(b',off'),λv _=>v=.agg ↑x0,λv _=>v=↑x0.s,λv _=>v=.pointer (some ⟨gb,3,none⟩),λv _=>v=.slice ↑(b',off') kn x.cap,λv _=>v=.pointer ↑(b',off'+5),λv _=>v=.pointer ↑(b',off'+5+1),λv _=>v=↑x1.s,λv _=>v=.agg #[↑x0.s,↑x1.s,.string ⟨#[]⟩],Qi (gb+1),λ_ _=>True]
    59 2 1 rfl ah ⟨aB _,aB _,aB _,aB _,aB _,aB _,aB _,aB _,aB _,aB _,aB _,aB _,Qi.mono _,fB,trivial⟩ ⟨λ_ _ _ _ h=>h,λ_ _ _ _ h=>h,λ_ _ _ _ h=>h,λ_ _ _ _ h=>h,λ_ _ _ _ h=>h,λ_ _ _ _ h=>h,λ_ _ _ _ h=>h,λ_ _ _ _ h=>h,λ_ _ _ _ h=>h,λ_ _ _ _ h=>h,λ_ _ _ _ h=>h,λ_ _ _ _ h=>h,Qi.jump _ _ ae,λ_ _ _ _ h=>h,trivial⟩ ah (λp u u' hE h=>h.ev hE) (λu u' hE h=>h.then (But.aV hE)) (But.refl _ _) (HS.out.rd.bx.ev HEB.out) ah (BxA.mono _ _ _ _) rfl rfl _ rfl ah ah ?_ ?_ ?_ ?_
   ·refine aN 0 ?_ (aN 1 ?_ (aN 2 ?_ (aN 3 ?_ (aN 4 ?_ (bZ 5 ai (aN 6 ?_ (aN 7 ?_ (aN 8 ?_ (aN 9 ?_ (aN 10 ?_ (aN 11 ?_ (aN 12 ?_ (bZ 13 ai (oC 14))))))))))))));exact aA';exact azA;refine aQ λa wq c=>⟨(ay rfl),.slice ↑(b',off') kn x.cap,?_,rfl⟩
    have bD:a.eval (.tmp 16)=.pointer (some ⟨gb,3,none⟩):=(c.new 1 16)
    exact aAb
    ·refine aQ λa wq c=>⟨(ay rfl),.pointer ↑(b',off'),?_,rfl⟩
     have bD:a.eval (.tmp 17)=.slice ↑(b',off') kn x.cap:=(c.new 2 17)
     have lh:a.eval (.const (.int .i64 0))=.int .i64 0:=rfl;generalize a.eval=ρ at bD lh|-;simp[execOp,bD,lh,go_sem,n0]
    ·refine aQ λa wq c=>⟨(ay rfl),.agg ↑x0,?_,rfl⟩
     have bD:a.eval (.tmp 18)=.pointer ↑(b',off'):=(c.new 3 18)
     have q0:=(c.inv.Ht (p:=⟨b',off',none⟩) (by show b'<_;omega) (by simp;exact OE.2)).trans k0;have q1:=(c.inv.Ht (p:=⟨b',off'+1,none⟩) (by show b'<_;omega) (by simp;exact OE.2)).trans k1;have q2:=(c.inv.Ht (p:=⟨b',off'+2,none⟩) (by show b'<_;omega) (by simp;exact OE.2)).trans k2;have q3:=(c.inv.Ht (p:=⟨b',off'+3,none⟩) (by show b'<_;omega) (by simp;exact OE.2)).trans k3;have q4:=(c.inv.Ht (p:=⟨b',off'+4,none⟩) (by show b'<_;omega) (by simp;exact OE.2)).trans k4;generalize a.eval=ρ at bD|-;simp[execOp,bD,q0,q1,q2,q3,q4,go_sem]
    exact azA;refine aQ λa wq c=>⟨(ay rfl),.slice ↑(b',off') kn x.cap,?_,rfl⟩
    have bD:a.eval (.tmp 21)=.pointer (some ⟨gb,3,none⟩):=(c.new 6 21)
    exact aAb
    ·refine aQ λa wq c=>⟨(ay rfl),.pointer ↑(b',off'+5),?_,rfl⟩
     have bD:a.eval (.tmp 22)=.slice ↑(b',off') kn x.cap:=(c.new 7 22)
     have lh:a.eval (.const (.int .i64 1))=.int .i64 1:=rfl;generalize a.eval=ρ at bD lh|-;simp[execOp,bD,lh,go_sem,i4]
    ·refine aQ λa wq c=>⟨(ay rfl),.pointer ↑(b',off'+5+1),?_,rfl⟩
     have bD:a.eval (.tmp 23)=.pointer ↑(b',off'+5):=(c.new 8 23)
     generalize a.eval=ρ at bD|-;simp[execOp,bD,go_sem]
    ·refine aQ λa wq c=>⟨(ay rfl),↑x1.s,?_,rfl⟩
     have bD:a.eval (.tmp 24)=.pointer ↑(b',off'+5+1):=(c.new 9 24)
     have hc:=(c.inv.Ht (p:=⟨b',off'+5+1,none⟩) (by show b'<_;omega) (by simp;exact OE.2)).trans j1;generalize a.eval=ρ at bD|-;simp[execOp,bD,hc,go_sem]
    ·refine aQ λa wq c=>⟨(ay rfl),.agg #[↑x0.s,↑x1.s,.string ⟨#[]⟩],?_,rfl⟩
     have bD:a.eval (.tmp 20)=↑x0.s:=(c.new 5 20)
     have mQ:a.eval (.tmp 25)=↑x1.s:=(c.new 10 25)
     generalize a.eval=ρ at bD mQ|-;simp[execOp,bD,mQ,go_sem]
    refine OC λa wq c=>⟨(ay rfl),_,_,NH rfl,Ev.alloc _ _,c.inv.then (But.aV az),⟨wq.heap.size,_,_,_,rfl,Bx.new _ _ _,by have:=c.inv.size;have:=HSB.out;omega⟩⟩
   refine abn 0 rfl ?_ (abm 1);refine ny λa wq c st=>⟨ay rfl,113,#[.pointer ↑gr,.agg ↑x0],?_,?_⟩
   rw[bC 113 _ _ rfl ah];have bD:a.eval (.tmp 15)=.pointer ↑gr:=(c.new 0 15)
   have mQ:a.eval (.tmp 19)=.agg ↑x0:=(c.new 4 19)
   simp[bD,mQ];refine(HRN.out x0 E wq st).mono ?_;rintro r wp ⟨rfl,hR⟩;exact⟨_,rfl,.inl hR.but,c.inv.then hR.but,hR.bx,rfl⟩
   ·refine⟨rfl,λa wq c st=>?_⟩;obtain⟨g_,z0,z1,z2,eg_,hB_,KJ⟩:=(c.got 12 8 ah ah rfl:Qi _ _ _)
    have aiV:a.eval (.tmp 26)=.agg #[↑x0.s,↑x1.s,.string ⟨#[]⟩]:=(c.new 11 26)
    obtain⟨⟨z0_,z1_,z2_⟩,y0_,y1_,y2_⟩:=hB_.three;refine⟨ay rfl,xX g_ ↑x0.s ↑x1.s (.string ⟨#[]⟩) wq,?_,.inr ⟨g_,_,_,_,KJ,⟨_,_,_,hB_⟩,rfl⟩,c.inv.trans (uV _ _ _ _ _) (λy hy=>by simp at hy;subst hy;exact .inr (by have:=HSB.out;omega)),st.but (uV _ _ _ _ _) (by simp;omega),trivial,⟨g_,eg_,hB_.xX _ _ _,KJ⟩⟩;generalize a.eval=ρ at eg_ aiV|-;simp[execOp,eg_,aiV,go_sem,z0_,z1_,z2_,y0_,y1_,y2_,xX]
   intro sl wB hI hold hnew hst qw;obtain⟨g8,f8,BA,hb8⟩:=qw;have f0:sl 0=.pointer ↑gr:=hold 0;have f1:sl 1=.slice ↑(b,off) n cap:=hold 1;have f2:_=undef:=hold 2;have f3:_=undef:=hold 3;have f4:sl 4=↑():=hold 4;have f5:sl 5=.slice A1 k cap1:=hold 5;have f6:_=undef:=hold 6;have f7:sl 7=.pointer ↑gb:=hold 7;have f9:sl 9=.slice ↑(b,off) n cap:=hold 9;have f10:sl 10=↑n:=hold 10;have f11:sl 11=↑k:=hold 11;have f12:sl 12=.bool true:=hold 12;have f13:sl 13=.pointer ↑(b,off+k*5):=hold 13;have f14:sl 14=.agg #[↑x.kind,↑x.s,↑x.n,.slice ↑(b',off') kn x.cap,↑x.pos]:=hold 14;have f27:sl 27=u27:=hold 27;have f28:sl 28=u28:=hold 28;have f29:sl 29=u29:=hold 29;have f30:sl 30=u30:=hold 30;have f31:sl 31=u31:=hold 31;have f32:sl 32=u32:=hold 32;have f33:sl 33=u33:=hold 33;have f34:sl 34=u34:=hold 34;have f35:sl 35=u35:=hold 35;have f36:sl 36=u36:=hold 36;have f37:sl 37=u37:=hold 37;have f38:sl 38=u38:=hold 38;have f39:sl 39=u39:=hold 39;have f40:sl 40=u40:=hold 40;have f41:sl 41=u41:=hold 41;have f42:sl 42=u42:=hold 42;have f43:sl 43=u43:=hold 43;have f44:sl 44=u44:=hold 44;have f45:sl 45=u45:=hold 45;have f46:sl 46=u46:=hold 46;have f47:sl 47=u47:=hold 47;have f48:sl 48=u48:=hold 48;have f49:sl 49=u49:=hold 49;have f50:sl 50=u50:=hold 50;have f51:sl 51=u51:=hold 51;have f52:sl 52=u52:=hold 52;have f53:sl 53=u53:=hold 53;have f54:sl 54=u54:=hold 54;have f55:sl 55=u55:=hold 55;have f56:sl 56=u56:=hold 56;have f57:sl 57=u57:=hold 57;have f58:_=undef:=hold 58;change Exit.then _ _ .normal ⟨_,_⟩ _;simp only[List.range,List.range.loop,List.map];simp only[f8,f0,f1,f2,f3,f4,f5,f6,f7,f9,f10,f11,f12,f13,f14,f27,f28,f29,f30,f31,f32,f33,f34,f35,f36,f37,f38,f39,f40,f41,f42,f43,f44,f45,f46,f47,f48,f49,f50,f51,f52,f53,f54,f55,f56,f57,f58];clear hold hnew;have kT:iF gr (fO E (bF x0.t)) wA wB:=⟨hst,hI⟩
   have hLA:zS 54 3 ac w gr A1 k cap1 ((l.take k).map λx=>kK x.t) E wA:=⟨HS.out.own.ev HEB.out,HS.out.len,HS.out.rd.ev HEB.out⟩
   have hAG:NI w gr A1 k cap1 ((l.take k).map λx=>kK x.t) (fO E (bF x0.t)) gb #[↑x.kind,↑x.s,↑x.n,.slice ↑(b',off') kn x.cap,↑x.pos] g8 #[↑x0.s,↑x1.s,.string ⟨#[]⟩] wB:=
    ⟨⟨hLA.owq kT hgr,hLA.len,hLA.rd.then kT⟩,HB8.out.but hI (by simp;omega),BA,ae,ae,ae,λg hg=>by have:=(HS.out.own.lt hg).2;omega⟩
   have EU:=zq hAG;have qo:Hid ((l.take (k+1)).map (λx=>kK x.t)=(l.take k).map (λx=>kK x.t)++[kK x.t]/\((l.take (k+1)).flatMap λx=>dY x.t).foldl fO e=(dY x.t).foldl fO E):=zq (by
    obtain⟨hk2,e1⟩:=awi.1 HX.out;rw[aws hk2,e1,awt,axU,axD,<-HEE.out];simp only[awo,awG,axv,List.flatMap_nil,axE];refine⟨?_,?_⟩<;>first|rfl|trivial)
   have jg:=zq HS.out.len;clear hst hI kT hLA hAG BA d0 d1 d2 d3 d4 k0 k1 k2 k3 k4 j0 j1 j2 j3 j4;obtain⟨⟨UL,UM,UN⟩,yJ,yK,yL⟩:=EU.out.ba.three;obtain⟨⟨d0,d1,d2,d3,d4⟩,_⟩:=EU.out.bx.five;obtain⟨⟨k0,k1,k2,k3,k4⟩,j0,j1,j2,j3,j4⟩:=kZ.out _ EU.out.st.rd.but;rcases aiR with h23|h23
   ·subst h23;have HAO:Hid (kK x.t=(x0.s,x1.s,[])):=zq (by unfold kK;rw[M.aZ,C9 _ _ _ HX0.out,C9 _ _ _ Su.out,M.uJ,M.uJ,awh,<-mF.out];rfl);have HAE:Hid (dY x.t=[bF x0.t,if isFun x1.s false then (0,0) else (12,x1.pos),(0,0)]):=zq (by unfold dY;rw[M.aZ,C9 _ _ _ HX0.out,C9 _ _ _ Su.out,M.uJ,M.GK,awh,<-mF.out];rfl);have HI:=zq (HIF.out x1.s false);generalize isFun x1.s false=q at*
    cases q
    ·go_wp2_with (first
      | ((with_reducible refine(HI.out _).mono ?_);rintro r w1 ⟨rfl,aK⟩;have rq:=zq (EU.out.ev aK);clear UL UM UN yJ yK yL d0 d1 d2 d3 d4 k0 k1 k2 k3 k4 j0 j1 j2 j3 j4;obtain⟨⟨UL,UM,UN⟩,yJ,yK,yL⟩:=rq.out.ba.three;obtain⟨⟨d0,d1,d2,d3,d4⟩,_⟩:=rq.out.bx.five;obtain⟨⟨k0,k1,k2,k3,k4⟩,j0,j1,j2,j3,j4⟩:=kZ.out _ rq.out.st.rd.but)
      | ((with_reducible refine(HRF.out _ x1.pos _ rq.out.st.rd.bx).mono ?_);rintro r w2 ⟨rfl,hR⟩;have En:=zq (rq.out.through hR hgr);clear hR UL UM UN yJ yK yL d0 d1 d2 d3 d4 k0 k1 k2 k3 k4 j0 j1 j2 j3 j4;obtain⟨⟨UL,UM,UN⟩,yJ,yK,yL⟩:=En.out.ba.three;obtain⟨⟨d0,d1,d2,d3,d4⟩,_⟩:=En.out.bx.five;obtain⟨⟨k0,k1,k2,k3,k4⟩,j0,j1,j2,j3,j4⟩:=kZ.out _ En.out.st.rd.but)
      | ((show wpList _ _ _ (⟨some 56,_,_,_,_,_⟩::_) _ _);refine aO (o:=⟨some 56,_,_,_,_,_⟩) rfl 29 (.tmp 53) (.tmp 55) rfl zL Tryz.oD Tryz.I_ rfl rfl (En.out.st.own.ev (Ev.alloc w2 _)) ↑w2.heap.size 1 1 [(x0.s,x1.s,[])] rfl (Sl.one (et:=54) zL w2 (x0.s,x1.s,[]) _ rfl) (by rw[jg.out];simp;omega) (by rw[jg.out];simp;omega) (awJ En.out.st.rd.but.size (Ev.alloc w2 _).size) ?_;intro v2 w7 gV;obtain⟨A2,cap2,rfl,ST2⟩:=En.out.st.next zL (iF.of En.out.st.rd.bx (Ev.alloc w2 _)) hgr gV))
     go_roundw
     case rel=>exact⟨A2,cap2,k+1,fO (fO E (bF x0.t)) (12,x1.pos),rfl,by go_num,ae,zq (by rw[qo.out.2,HAE.out];simp[xZ]),zq (by rw[qo.out.1,HAO.out];exact ST2)⟩
     case measure=>simp[intOf];omega
    go_wp2_with (first
     | ((with_reducible refine(HI.out _).mono ?_);rintro r w1 ⟨rfl,aK⟩;have rq:=zq (EU.out.ev aK);clear UL UM UN yJ yK yL d0 d1 d2 d3 d4 k0 k1 k2 k3 k4 j0 j1 j2 j3 j4;obtain⟨⟨UL,UM,UN⟩,yJ,yK,yL⟩:=rq.out.ba.three;obtain⟨⟨d0,d1,d2,d3,d4⟩,_⟩:=rq.out.bx.five;obtain⟨⟨k0,k1,k2,k3,k4⟩,j0,j1,j2,j3,j4⟩:=kZ.out _ rq.out.st.rd.but)
     | ((show wpList _ _ _ (⟨some 56,_,_,_,_,_⟩::_) _ _);refine aO (o:=⟨some 56,_,_,_,_,_⟩) rfl 29 (.tmp 53) (.tmp 55) rfl zL Tryz.oD Tryz.I_ rfl rfl (rq.out.st.own.ev (Ev.alloc w1 _)) ↑w1.heap.size 1 1 [(x0.s,x1.s,[])] rfl (Sl.one (et:=54) zL w1 (x0.s,x1.s,[]) _ rfl) (by rw[jg.out];simp;omega) (by rw[jg.out];simp;omega) (awJ rq.out.st.rd.but.size (Ev.alloc w1 _).size) ?_;intro v2 w7 gV;obtain⟨A2,cap2,rfl,ST2⟩:=rq.out.st.next zL (iF.of rq.out.st.rd.bx (Ev.alloc w1 _)) hgr gV))
    go_roundw
    case rel=>exact⟨A2,cap2,k+1,fO E (bF x0.t),rfl,by go_num,ae,zq (by rw[qo.out.2,HAE.out];simp[xZ]),zq (by rw[qo.out.1,HAO.out];exact ST2)⟩
    case measure=>simp[intOf];omega
   subst h23;obtain⟨x2,hx2⟩:∃x2,x.kids[2]?=some x2:=⟨_,awE (by have:=mF.out;omega)⟩
   have HX2:=zq hx2;have HK3:=zq (HK2.out x2 hx2);simp only[show 2*5=10 from rfl]at HK3;clear hx2;have i5:(3:Int)<=(x.cap:Int):=ae;have HAO:Hid (kK x.t=(x0.s,x1.s,x2.s)):=zq (by unfold kK;rw[M.aZ,C9 _ _ _ HX0.out,C9 _ _ _ Su.out,M.uJ,M.uJ,awh,<-mF.out];rw[C9 _ _ _ HX2.out,M.uJ];rfl);have HAE:Hid (dY x.t=[bF x0.t,if isFun x1.s true then (0,0) else (12,x1.pos),bF x2.t]):=zq (by unfold dY;rw[M.aZ,C9 _ _ _ HX0.out,C9 _ _ _ Su.out,M.uJ,M.GK,awh,<-mF.out];rw[C9 _ _ _ HX2.out];rfl);have HI:=zq (HIF.out x1.s true);generalize isFun x1.s true=q at*
   cases q
   ·have HNM:=zq (λe1 w9 hB9=>HRN.out x2 e1 w9 hB9);obtain⟨m0,m1,m2,m3,m4⟩:=HK3.out _ EU.out.st.rd.but
    go_wp2_with (first
     | ((with_reducible refine(HI.out _).mono ?_);rintro r w1 ⟨rfl,aK⟩;have rq:=zq (EU.out.ev aK);clear UL UM UN yJ yK yL d0 d1 d2 d3 d4 k0 k1 k2 k3 k4 j0 j1 j2 j3 j4;obtain⟨⟨UL,UM,UN⟩,yJ,yK,yL⟩:=rq.out.ba.three;obtain⟨⟨d0,d1,d2,d3,d4⟩,_⟩:=rq.out.bx.five;obtain⟨⟨k0,k1,k2,k3,k4⟩,j0,j1,j2,j3,j4⟩:=kZ.out _ rq.out.st.rd.but;clear m0 m1 m2 m3 m4;obtain⟨m0,m1,m2,m3,m4⟩:=HK3.out _ rq.out.st.rd.but)
     | ((with_reducible refine(HRF.out _ x1.pos _ rq.out.st.rd.bx).mono ?_);rintro r w2 ⟨rfl,hR⟩;have En:=zq (rq.out.through hR hgr);clear hR UL UM UN yJ yK yL d0 d1 d2 d3 d4 k0 k1 k2 k3 k4 j0 j1 j2 j3 j4;obtain⟨⟨UL,UM,UN⟩,yJ,yK,yL⟩:=En.out.ba.three;obtain⟨⟨d0,d1,d2,d3,d4⟩,_⟩:=En.out.bx.five;obtain⟨⟨k0,k1,k2,k3,k4⟩,j0,j1,j2,j3,j4⟩:=kZ.out _ En.out.st.rd.but;clear m0 m1 m2 m3 m4;obtain⟨m0,m1,m2,m3,m4⟩:=HK3.out _ En.out.st.rd.but)
     | ((with_reducible refine(HNM.out _ _ En.out.st.rd.bx).mono ?_);rintro r w3 ⟨rfl,hR⟩;have KL:=zq (En.out.through hR hgr);clear hR UL UM UN yJ yK yL d0 d1 d2 d3 d4 k0 k1 k2 k3 k4 j0 j1 j2 j3 j4;obtain⟨⟨UL,UM,UN⟩,yJ,yK,yL⟩:=KL.out.ba.three;obtain⟨⟨d0,d1,d2,d3,d4⟩,_⟩:=KL.out.bx.five;obtain⟨⟨k0,k1,k2,k3,k4⟩,j0,j1,j2,j3,j4⟩:=kZ.out _ KL.out.st.rd.but;clear m0 m1 m2 m3 m4;obtain⟨m0,m1,m2,m3,m4⟩:=HK3.out _ KL.out.st.rd.but)
     | ((show wpList _ _ _ (⟨some 56,_,_,_,_,_⟩::_) _ _);have Qj:=zq (KL.out.store2 ↑x2.s);refine aO (o:=⟨some 56,_,_,_,_,_⟩) rfl 29 (.tmp 53) (.tmp 55) rfl zL Tryz.oD Tryz.I_ rfl rfl (Qj.out.st.own.ev az) ↑w3.heap.size 1 1 [(x0.s,x1.s,x2.s)] rfl (by have:=Sl.one (et:=54) zL (w3.setCell ⟨g8,2,none⟩ ↑x2.s) (x0.s,x1.s,x2.s) #[↑x0.s,↑x1.s,↑x2.s] rfl;simpa[World.setCell] using this) (by rw[jg.out];simp;omega) (by rw[jg.out];simp;omega) (awJ Qj.out.st.rd.but.size az.size) ?_;intro v2 w7 gV;obtain⟨A2,cap2,rfl,ST2⟩:=Qj.out.st.next zL (iF.of Qj.out.st.rd.bx az) hgr gV))
    go_roundw
    case rel=>exact⟨A2,cap2,k+1,fO (fO (fO E (bF x0.t)) (12,x1.pos)) (bF x2.t),rfl,by go_num,ae,zq (by rw[qo.out.2,HAE.out];simp),zq (by rw[qo.out.1,HAO.out];exact ST2)⟩
    case measure=>simp[intOf];omega
   have HNM:=zq (λe1 w9 hB9=>HRN.out x2 e1 w9 hB9);obtain⟨m0,m1,m2,m3,m4⟩:=HK3.out _ EU.out.st.rd.but
   go_wp2_with (first
    | ((with_reducible refine(HI.out _).mono ?_);rintro r w1 ⟨rfl,aK⟩;have rq:=zq (EU.out.ev aK);clear UL UM UN yJ yK yL d0 d1 d2 d3 d4 k0 k1 k2 k3 k4 j0 j1 j2 j3 j4;obtain⟨⟨UL,UM,UN⟩,yJ,yK,yL⟩:=rq.out.ba.three;obtain⟨⟨d0,d1,d2,d3,d4⟩,_⟩:=rq.out.bx.five;obtain⟨⟨k0,k1,k2,k3,k4⟩,j0,j1,j2,j3,j4⟩:=kZ.out _ rq.out.st.rd.but;clear m0 m1 m2 m3 m4;obtain⟨m0,m1,m2,m3,m4⟩:=HK3.out _ rq.out.st.rd.but)
    | ((with_reducible refine(HNM.out _ _ rq.out.st.rd.bx).mono ?_);rintro r w3 ⟨rfl,hR⟩;have KL:=zq (rq.out.through hR hgr);clear hR UL UM UN yJ yK yL d0 d1 d2 d3 d4 k0 k1 k2 k3 k4 j0 j1 j2 j3 j4;obtain⟨⟨UL,UM,UN⟩,yJ,yK,yL⟩:=KL.out.ba.three;obtain⟨⟨d0,d1,d2,d3,d4⟩,_⟩:=KL.out.bx.five;obtain⟨⟨k0,k1,k2,k3,k4⟩,j0,j1,j2,j3,j4⟩:=kZ.out _ KL.out.st.rd.but;clear m0 m1 m2 m3 m4;obtain⟨m0,m1,m2,m3,m4⟩:=HK3.out _ KL.out.st.rd.but)
    | ((show wpList _ _ _ (⟨some 56,_,_,_,_,_⟩::_) _ _);have Qj:=zq (KL.out.store2 ↑x2.s);refine aO (o:=⟨some 56,_,_,_,_,_⟩) rfl 29 (.tmp 53) (.tmp 55) rfl zL Tryz.oD Tryz.I_ rfl rfl (Qj.out.st.own.ev az) ↑w3.heap.size 1 1 [(x0.s,x1.s,x2.s)] rfl (by have:=Sl.one (et:=54) zL (w3.setCell ⟨g8,2,none⟩ ↑x2.s) (x0.s,x1.s,x2.s) #[↑x0.s,↑x1.s,↑x2.s] rfl;simpa[World.setCell] using this) (by rw[jg.out];simp;omega) (by rw[jg.out];simp;omega) (awJ Qj.out.st.rd.but.size az.size) ?_;intro v2 w7 gV;obtain⟨A2,cap2,rfl,ST2⟩:=Qj.out.st.next zL (iF.of Qj.out.st.rd.bx az) hgr gV))
   go_roundw
   case rel=>exact⟨A2,cap2,k+1,fO (fO E (bF x0.t)) (bF x2.t),rfl,by go_num,ae,zq (by rw[qo.out.2,HAE.out];simp[xZ]),zq (by rw[qo.out.1,HAO.out];exact ST2)⟩
   case measure=>simp[intOf];omega
  obtain rfl:k=n:=ae;have HF:Hid ((l.take k).map (λx=>kK x.t)=l.map (λx=>kK x.t)/\E=fO e (aT (l.flatMap λx=>dY x.t))):=zq (by
   have h1:=HEE.out;rw[awC (by rw[HL.out];exact awj _)]at h1|-;exact⟨rfl,by rw[h1,jo]⟩)
  go_wp2;go_ret;obtain⟨x,hxv,iJ,UD⟩:=HS.out.own.sle zL;rw[hxv];exact⟨x,rfl,by rw[iJ,HF.out.1],UD,HF.out.2▸HS.out.rd⟩
theorem Tryz.nz:(Tryz.prog.info? 32).map (λi=>(i.zero,i.size,i.bytes))=some (some (.agg ↑Zz.b),8,168):=ah
theorem Tryz.bG:(Tryz.prog.info? 32).map (·.size)=some 8:=ah
def ru(gr:Nat)(e:Er)(t:T)(w:ak)(r:Ending)(w':ak):Prop:=∃p:PM,r=.returned (.agg ↑p)/\p.p=pPlan t/\Qx w.heap.size [] w' p/\iF gr (fO e (bf t)) w w'
structure V5(w0:ak)(gr:Nat)(A:Option Addr)(n cap:Nat)(L:List PM)(e:Er)(w:ak):Prop where
 st:zS 32 8 pc w0 gr A n cap L e w
 lies:∀x∈L,Qx w0.heap.size (foot (.slice A n cap)) w x
theorem V5.start{w0:ak}{gr:Nat}{e:Er}(hB:Rb gr e w0):V5 w0 gr none 0 0 [] e w0:=⟨zS.start _ _ _ hB,λx hx=>by cases hx⟩
theorem V5.next{w0 wr wp wq w2:ak}{gr n cap:Nat}{A:Option Addr}{L:List PM}{e e':Er}{x:PM}{v2:au}(h:V5 w0 gr A n cap L e wr)(hr:iF gr e' wr wq)(hg:gr<w0.heap.size)(hx:Qx wp.heap.size [] wq x)(hp:wr.heap.size<=wp.heap.size)(hA:nR 32 8 pc w0.heap.size wq (.slice A n cap) (L++[x]) v2 w2):
  ∃A2 cap2,v2=.slice A2 (n+1) cap2/\V5 w0 gr A2 (n+1) cap2 (L++[x]) e' w2:=by
 obtain⟨A2,cap2,hv,hS⟩:=h.st.next sF hr hg hA
 refine⟨A2,cap2,hv,hS,λy hy=>?_⟩;subst hv;have hy2:Qx w0.heap.size (foot (.slice A n cap)) wq y:=by rcases awD.1 hy with h1|h1;refine((h.lies y h1).less (K':=gr::foot (.slice A n cap)) λz hz=>?_).move (hr.but.wide λz hz=>.inl (by simp at hz;subst hz;exact awp ..)) λz hz=>.inl (awn _ hz);rcases awq.1 hz with rfl|hz;exact .inr (.inl hg);exact .inl hz;simp at h1;subst h1;refine(hx.less λk hk=>.inr (.inl ?_)).low (awJ h.st.rd.but.size hp);exact awz (h.st.own.lt (aG.1 hk)).2 hp
 refine hy2.move hA.2.1 λz hz=>?_;rcases hA.2.2 z (aG.1 hz) with h2|h2;exact .inl (aG.2 h2);exact .inr (.inr h2)
theorem yg(gr:Nat)(e:Er)(l:List M)(A:Option Addr)(n cap b0:Nat)(w:ak)(hB:Rb gr e w)(h:Ms w A n cap l)(hr:SK b0 [gr] w A)(hn:n<=10000)(hp:∀x∈l,∀w1 e1,But [gr] w w1->Rb gr e1 w1->Calls ax 58 #[.pointer ↑gr,.agg ↑x] w1 (ru gr e1 x.t w1)):
  Calls ax 115 #[.pointer ↑gr,.slice A n cap] w λr w'=>∃x:fE PM,r=.returned x.v/\x.l.map PM.p=l.map (λx=>pPlan x.t)/\bg 8 pc w.heap.size [] w' x/\(∀k∈x.l,Qx w.heap.size [] w' k)/\iF gr (fO e (aT (l.map λx=>bf x.t))) w w':=by
 have hcl:=h.le;have hcm:=h.max;have HL:=zq h.len;have hgr:=hB.lt;have kL:=zq (V5.start hB);have DT:=zq (λw1 (hb:But [gr] w w1)=>h.but hb λad e=>(hr ad e).2.2);unfold ru at hp;have HP:=zq hp;clear hB h hr hp;go_enter func115,ntmps115;go_wp2
 go_loopw [5,10] (λav iv wr=>∃(A1:Option Addr) (cap1 k:Nat) (E:Er) (L:List PM),av=.slice A1 k cap1/\iv=↑k/\k<=n/\Hid (L.map PM.p=(l.take k).map λx=>pPlan x.t)/\Hid (E=(((l.take k).map λx=>bf x.t).foldl fO e))/\Hid (V5 w gr A1 k cap1 L E wr)) (λ_ iv _=>n - (intOf iv).toNat)
 case atStart=>exact⟨none,0,0,e,[],rfl,rfl,aww _,zq rfl,zq rfl,kL⟩
 case round=>
  obtain⟨A1,cap1,k,E,L,rfl,rfl,hk,t_,HEE,HS⟩:=hrel;by_cases hlt:k<n
  ·obtain⟨x,hx⟩:=(DT.out w (But.refl _ _)).at hlt;obtain⟨b,off,rfl,hb,c0,c1,c2,c3,c4⟩:=Ms.cell (DT.out wr HS.out.st.rd.but) hx;unfold M.kv at c3;have qo:Hid ((l.take (k+1)).map (λx=>pPlan x.t)=(l.take k).map (λx=>pPlan x.t)++[pPlan x.t]/\((l.take (k+1)).map λx=>bf x.t).foldl fO e=fO E (bf x.t)):=zq (by
    obtain⟨hk2,e1⟩:=awi.1 hx;rw[aws hk2,e1,awt,awt,axD,<-HEE.out];exact⟨rfl,rfl⟩)
   have HN:=zq (HP.out x (awm hx) (wr.alloc (.cells ↑x 101)) E (HS.out.st.rd.but.then (But.aV az)) (HS.out.st.rd.bx.ev az));have jg:=zq HS.out.st.len;have i1:(0:Int)<=(k:Int):=ae;have i2:(k:Int)<(n:Int):=ae;clear hx
   go_wp2_with (first
    | ((with_reducible refine(HN.out).mono ?_);rintro r w1 ⟨p,rfl,hpt,hpl,hR⟩;have HPT:=zq hpt;have HPL:=zq (hpl.ev (Ev.alloc w1 (.cells ↑p 32)));have HR:=zq ((⟨hR.bx,(But.aV (Ev.alloc wr (.cells ↑x 101))).then hR.but⟩:iF gr _ wr w1).ev (Ev.alloc w1 (.cells ↑p 32)));clear hR hpt hpl)
    | ((show wpList _ _ _ (⟨some 19,_,_,_,_,_⟩::_) _ _);refine aO (o:=⟨some 19,_,_,_,_,_⟩) rfl 30 (.tmp 14) (.tmp 18) rfl sF underlying30 Tryz.nz rfl rfl (HS.out.st.owq HR.out hgr) (some ⟨w1.heap.size,0,none⟩) 1 1 [p] rfl (Sl.one (et:=32) sF w1 p _ rfl) (by rw[jg.out];simp;omega) (by rw[jg.out];simp;omega) (HS.out.st.size HR.out) ?_;intro v2 w2 gV;obtain⟨A2,cap2,rfl,ST2⟩:=HS.out.next HR.out hgr HPL.out aj gV))
   go_roundw
   case rel=>exact⟨A2,cap2,k+1,_,_,rfl,by go_num,ae,zq (by rw[awt,t_.out,qo.out.1,awo,awG,HPT.out]),zq qo.out.2.symm,zq ST2⟩
   case measure=>simp[intOf];omega
  obtain rfl:k=n:=ae;have HF:Hid ((l.take k).map (λx=>pPlan x.t)=l.map (λx=>pPlan x.t)/\E=fO e (aT (l.map λx=>bf x.t))):=zq (by
   have h1:=HEE.out;rw[awC (by rw[HL.out];exact awj _)]at h1|-;exact⟨rfl,by rw[h1,jo]⟩)
  go_wp2;go_ret;obtain⟨x,hxv,iJ,UD⟩:=HS.out.st.own.sle sF;rw[hxv];exact⟨x,rfl,by rw[iJ,t_.out,HF.out.1],UD,λy hy=>(HS.out.lies y (by rwa [iJ]at hy)).less (λz hz=>by cases hz),HF.out.2▸HS.out.st.rd⟩
def ExF(base:Nat)(t:T)(v:au)(w:ak):Prop:=∃x:M,v=.agg ↑(x,())/\x.t=t/\Lx base [] w x
def XsF(base:Nat)(ts:List T)(v:au)(w:ak):Prop:=∃X:fE M,v=.slice X.A X.l.length X.cap/\X.l.map M.t=ts/\bg 4 ec base [] w X/\∀x∈X.l,Lx base [] w x
def Q9(base:Nat)(ns:List By)(v:au)(w:ak):Prop:=∃X:fE By,v=.slice X.A X.l.length X.cap/\X.l=ns/\bg 1 sc base [] w X
def AsF(base:Nat)(as_:List Ag)(v:au)(w:ak):Prop:=∃X:fE Ag,v=.slice X.A X.l.length X.cap/\X.l=as_/\bg 3 ac base [] w X
def Q_(base:Nat)(ps:List Pl)(v:au)(w:ak):Prop:=∃X:fE PM,v=.slice X.A X.l.length X.cap/\X.l.map PM.p=ps/\bg 8 pc base [] w X/\∀k∈X.l,Qx base [] w k
def Rf(base:Nat)(p:Pl)(v:au)(w:ak):Prop:=∃m:PM,v=.agg ↑m/\m.p=p/\Qx base [] w m
theorem Gm{base:Nat}{K:List Nat}{w w':ak}{x:M}(h:Lx base [] w x)(hb:But K w w')(hK:∀k∈K,k<base):Lx base [] w' x:=(h.less (K':=K) λk hk=>.inr (.inl (hK k hk))).move hb λk hk=>by cases hk
theorem lH{base:Nat}{K:List Nat}{w w':ak}{x:PM}(h:Qx base [] w x)(hb:But K w w')(hK:∀k∈K,k<base):Qx base [] w' x:=(h.less (K':=K) λk hk=>.inr (.inl (hK k hk))).move hb λk hk=>by cases hk
theorem pW{α:Type}{k:Nat}{enc:α->List au}{base:Nat}{K:List Nat}{w w':ak}{x:fE α}(h:bg k enc base [] w x)(hb:But K w w')(hK:∀k∈K,k<base):bg k enc base [] w' x:=
 (h.move (K':=K) (But.refl _ _) λk hk=>.inr (.inl (hK k hk))).move hb λk hk=>by cases hk
theorem ExF.old{base:Nat}{t:T}{K:List Nat}(hK:∀k∈K,k<base):∀v w w',But K w w'->ExF base t v w->ExF base t v w':=λv w w' hb ⟨x,e,ht,hL⟩=>⟨x,e,ht,Gm hL hb hK⟩
theorem XsF.old{base:Nat}{ts:List T}{K:List Nat}(hK:∀k∈K,k<base):∀v w w',But K w w'->XsF base ts v w->XsF base ts v w':=λv w w' hb ⟨x,e,ht,hS,hL⟩=>⟨x,e,ht,pW hS hb hK,λy hy=>Gm (hL y hy) hb hK⟩
theorem Q9.old{base:Nat}{ns:List By}{K:List Nat}(hK:∀k∈K,k<base):∀v w w',But K w w'->Q9 base ns v w->Q9 base ns v w':=λv w w' hb ⟨x,e,ht,hS⟩=>⟨x,e,ht,pW hS hb hK⟩
theorem AsF.old{base:Nat}{ns:List Ag}{K:List Nat}(hK:∀k∈K,k<base):∀v w w',But K w w'->AsF base ns v w->AsF base ns v w':=λv w w' hb ⟨x,e,ht,hS⟩=>⟨x,e,ht,pW hS hb hK⟩
theorem Q_.old{base:Nat}{ps:List Pl}{K:List Nat}(hK:∀k∈K,k<base):∀v w w',But K w w'->Q_ base ps v w->Q_ base ps v w':=λv w w' hb ⟨x,e,ht,hS,hL⟩=>⟨x,e,ht,pW hS hb hK,λy hy=>lH (hL y hy) hb hK⟩
theorem Rf.old{base:Nat}{p:Pl}{K:List Nat}(hK:∀k∈K,k<base):∀v w w',But K w w'->Rf base p v w->Rf base p v w':=λv w w' hb ⟨x,e,ht,hS⟩=>⟨x,e,ht,lH hS hb hK⟩
theorem Gn{base:Nat}:∀k∈([]:List Nat),k<base:=λk hk=>by cases hk
theorem ExF.mono(base:Nat)(t:T):o8 (ExF base t):=λv w w' hE h=>ExF.old Gn v w w' (But.aV hE) h
theorem XsF.mono(base:Nat)(ts:List T):o8 (XsF base ts):=λv w w' hE h=>XsF.old Gn v w w' (But.aV hE) h
theorem Q9.mono(base:Nat)(ns:List By):o8 (Q9 base ns):=λv w w' hE h=>Q9.old Gn v w w' (But.aV hE) h
theorem AsF.mono(base:Nat)(ns:List Ag):o8 (AsF base ns):=λv w w' hE h=>AsF.old Gn v w w' (But.aV hE) h
theorem Q_.mono(base:Nat)(ps:List Pl):o8 (Q_ base ps):=λv w w' hE h=>Q_.old Gn v w w' (But.aV hE) h
theorem Rf.mono(base:Nat)(p:Pl):o8 (Rf base p):=λv w w' hE h=>Rf.old Gn v w w' (But.aV hE) h
def iK(g:Nat)(v0 v1 v2 v3 v4 v5 v6 v7:au)(w:ak):ak:=(((kH g v0 v1 v2 v3 v4 w).setCell ⟨g,5,none⟩ v5).setCell ⟨g,6,none⟩ v6).setCell ⟨g,7,none⟩ v7
theorem bu(g:Nat)(v0 v1 v2 v3 v4 v5 v6 v7:au)(w:ak):(((((((w.setCell ⟨g,0,none⟩ v0).setCell ⟨g,1,none⟩ v1).setCell ⟨g,2,none⟩ v2).setCell ⟨g,3,none⟩ v3).setCell ⟨g,4,none⟩ v4).setCell ⟨g,5,none⟩ v5).setCell ⟨g,6,none⟩ v6).setCell ⟨g,7,none⟩ v7=iK g v0 v1 v2 v3 v4 v5 v6 v7 w:=rfl
theorem bV(g:Nat)(v0 v1 v2 v3 v4 v5 v6 v7:au)(w:ak):But [g] w (iK g v0 v1 v2 v3 v4 v5 v6 v7 w):=
 (((bJ g v0 v1 v2 v3 v4 w).then (But.setCell ⟨g,5,none⟩ _ aj)).then (But.setCell ⟨g,6,none⟩ _ aj)).then (But.setCell ⟨g,7,none⟩ _ aj)
theorem Bx.iK{T:TypeId}{g:Nat}{w:ak}{u0 u1 u2 u3 u4 u5 u6 u7:au}(h:Bx T g #[u0,u1,u2,u3,u4,u5,u6,u7] w)(v0 v1 v2 v3 v4 v5 v6 v7:au):Bx T g #[v0,v1,v2,v3,v4,v5,v6,v7] (iK g v0 v1 v2 v3 v4 v5 v6 v7 w):=by have:=(((((((h.set 0 v0).set 1 v1).set 2 v2).set 3 v3).set 4 v4).set 5 v5).set 6 v6).set 7 v7;rw[show (((((((((#[u0,u1,u2,u3,u4,u5,u6,u7]:Array au).setIfInBounds 0 v0).setIfInBounds 1 v1).setIfInBounds 2 v2).setIfInBounds 3 v3).setIfInBounds 4 v4).setIfInBounds 5 v5).setIfInBounds 6 v6).setIfInBounds 7 v7)=#[v0,v1,v2,v3,v4,v5,v6,v7] by simp]at this;exact this
theorem Bx.eight{T:TypeId}{g:Nat}{w:ak}{v0 v1 v2 v3 v4 v5 v6 v7:au}(h:Bx T g #[v0,v1,v2,v3,v4,v5,v6,v7] w):
  (w.cell? ⟨g,0,none⟩=some v0/\w.cell? ⟨g,1,none⟩=some v1/\w.cell? ⟨g,2,none⟩=some v2/\w.cell? ⟨g,3,none⟩=some v3/\w.cell? ⟨g,4,none⟩=some v4/\w.cell? ⟨g,5,none⟩=some v5/\w.cell? ⟨g,6,none⟩=some v6/\w.cell? ⟨g,7,none⟩=some v7)/\
  (w.frozen? ⟨g,0,none⟩=false/\w.frozen? ⟨g,1,none⟩=false/\w.frozen? ⟨g,2,none⟩=false/\w.frozen? ⟨g,3,none⟩=false/\w.frozen? ⟨g,4,none⟩=false/\w.frozen? ⟨g,5,none⟩=false/\w.frozen? ⟨g,6,none⟩=false/\w.frozen? ⟨g,7,none⟩=false):=
 ⟨⟨h.cell 0,h.cell 1,h.cell 2,h.cell 3,h.cell 4,h.cell 5,h.cell 6,h.cell 7⟩,h.frozen 0,h.frozen 1,h.frozen 2,h.frozen 3,h.frozen 4,h.frozen 5,h.frozen 6,h.frozen 7⟩
theorem wV(w:ak)(c0 c1 c2 c3 c4:au):∃w0,(w.alloc (.cells #[c0,c1,c2,c3,c4] 101)).alloc (.cells ↑Zz.b 32)=w0/\Ev w w0/\Bx 101 w.heap.size #[c0,c1,c2,c3,c4] w0/\Bx 32 (w.heap.size+1) ↑Zz.b w0/\w0.heap.size=w.heap.size+2:=by
 have hB:Bx 32 (w.heap.size+1) ↑Zz.b ((w.alloc (.cells #[c0,c1,c2,c3,c4] 101)).alloc (.cells ↑Zz.b 32)):=by have:=Bx.new 32 ↑Zz.b (w.alloc (.cells #[c0,c1,c2,c3,c4] 101));simpa using this
 exact⟨_,rfl,(Ev.alloc w _).trans az,(Bx.new 101 #[c0,c1,c2,c3,c4] w).ev az,hB,aj⟩
def nC(l:List T)(w:ak)(e:Ending)(w':ak):Prop:=∃A n cap L,e=.returned (.slice A n cap)/\lI w A n cap L w'/\L.map M.t=l
theorem lI.start(w:ak):lI w none 0 0 [] w:=⟨Ow.nil_ w,rfl,(λx hx=>by cases hx),Ev.refl w⟩
theorem lI.on{w0 w w':ak}{A:Option Addr}{n cap:Nat}{L:List M}(h:lI w0 A n cap L w)(hE:Ev w w'):lI w0 A n cap L w':=⟨h.own.ev hE,h.len,λx hx=>(h.lies x hx).ev hE,h.ev.trans hE⟩
theorem nP(A:Option Addr)(n cap:Nat)(w:ak):
  Calls ax 103 #[.slice A n cap] w λe w'=>e=.returned (.agg #[.int .i64 1,.string ⟨#[]⟩,.int .i64 0,.slice A n cap,.int .i64 0])/\Ev w w':=by
 go_enter func103,ntmps103;go_wp2;(try simp only[Exit.inBlock,Exit.then]);refine bodyPost_ret (aS rfl _ _ _ _ _ rfl (Bx.new 101 #[.int .i64 1,.string ⟨#[]⟩,.int .i64 0,.slice A n cap,.int .i64 0] w) underlying101 rfl Tryz.iQ) rfl ?_;exact⟨rfl,Ev.alloc w _⟩
theorem kV(l:List By)(A:Option Addr)(n cap:Nat)(w:ak)(h:Ss w A n cap l)(hn:n<=100000):
  Calls ax 100 #[.slice A n cap] w (nC (l.map aP) w):=by
 have hcl:=h.le;have hcm:=h.max;have HL:=zq h.len;have DT:=zq h;have kL:=zq (lI.start w);unfold nC;clear h;go_enter func100,ntmps100;go_wp2
 go_loopw [3,8] (λav iv wr=>∃(A1:Option Addr) (cap1 k:Nat) (L:List M),av=.slice A1 k cap1/\iv=↑k/\k<=n/\Hid (L.map M.t=(l.take k).map aP)/\Hid (lI w A1 k cap1 L wr)) (λ_ iv _=>n - (intOf iv).toNat)
 case atStart=>exact⟨none,0,0,[],rfl,rfl,aww _,zq rfl,kL⟩
 case round=>
  obtain⟨A1,cap1,k,L,rfl,rfl,hk,rO,HS⟩:=hrel;by_cases hlt:k<n
  ·obtain⟨x,hx⟩:=DT.out.at hlt;obtain⟨b,off,rfl,hb,hc⟩:=(DT.out.ev HS.out.ev).rd ae;have c0:=hc k x hx 0 _ rfl;simp only[axY,awM]at c0;have qo:Hid ((l.take (k+1)).map aP=(l.take k).map aP++[aP x]):=zq (by
    obtain⟨hk2,e1⟩:=awi.1 hx;rw[aws hk2,e1,awt];rfl)
   have t_:=zq HS.out.len;have i1:(0:Int)<=(k:Int):=ae;have i2:(k:Int)<(n:Int):=ae;clear hx hc
   go_wp2_with (first
    | ((show wpList _ _ _ (⟨some 16,_,_,_,_,_⟩::_) _ _);refine aO (o:=⟨some 16,_,_,_,_,_⟩) rfl 99 (.tmp 12) (.tmp 15) rfl gW underlying99 Tryz.infoTree rfl rfl (HS.out.own.ev (Ev.alloc wr _)) ↑wr.heap.size 1 1 [.mk 2 x 0 none 0 [] 0] rfl (Sl.one (et:=101) gW wr (.mk 2 x 0 none 0 [] 0) _ rfl) (by rw[t_.out];simp;omega) (by rw[t_.out];simp;omega) (HS.out.ev.trans (Ev.alloc wr _)).size ?_;intro v2 w2 gV;obtain⟨A2,cap2,rfl,ST2⟩:=HS.out.next (Ev.alloc wr _) (nO _ _ _ _ _ _ _) gV))
   go_roundw
   case rel=>exact⟨A2,cap2,k+1,_,rfl,by go_num,ae,zq (by rw[qo.out,awt,rO.out];rfl),zq ST2⟩
   case measure=>simp[intOf];omega
  obtain rfl:k=n:=ae;have HF:Hid (L.map M.t=l.map aP):=zq (by
   have h1:=rO.out;rwa [awC (by rw[HL.out];exact awj _)]at h1)
  go_wp2;go_ret;exact⟨A1,_,cap1,L,rfl,HS.out,HF.out⟩
theorem agr(w:ak)(c0 c1 c2:au):∃w0,(w.alloc (.cells #[c0,c1,c2] 54)).alloc (.cells ↑Zz.a 101)=w0/\Ev w w0/\Bx 54 w.heap.size #[c0,c1,c2] w0/\Bx 101 (w.heap.size+1) ↑Zz.a w0:=by
 have hB:Bx 101 (w.heap.size+1) ↑Zz.a ((w.alloc (.cells #[c0,c1,c2] 54)).alloc (.cells ↑Zz.a 101)):=by have:=Bx.new 101 ↑Zz.a (w.alloc (.cells #[c0,c1,c2] 54));simpa using this
 exact⟨_,rfl,(Ev.alloc w _).trans az,(Bx.new 54 #[c0,c1,c2] w).ev az,hB⟩
theorem Ss.made(w:ak)(l:List By)(cs:Array au)(h:cs.toList=cl sc l)(hl:l.length<=1000000):Ss (w.alloc (.cells cs 9)) ↑w.heap.size l.length l.length l:=by
 obtain⟨A,cap,hv,hS,_⟩:=(Ow.made (et:=9) (base:=w.heap.size) qH w l cs h (awj _) hl).form qH;injection hv with h1 _ h3
 subst h1 h3;exact hS
theorem ayy(h:U:=by have hbl:=HB.out.lt;refine⟨.mk 1 [] 0 A1 cap1 L 0,by simp only[M.kids,M.kind,M.s,M.n,M.A,M.cap,M.pos];rw[<-hnl];rfl,by simp only[M.t,M.jJ];rw[rO.out];rfl,?_,HE.out.trans ((((Ev.alloc w0 _).trans HK.out.ev).trans tu.out)) |>.box (bJ _ _ _ _ _ _ _) ae⟩;exact(((hlx.ev tu.out).less (K':=[w.heap.size+1]) λk hk=>by simp at hk;subst hk;exact .inr (.inl ae)).move (bJ _ _ _ _ _ _ _) λk hk=>by cases hk).low ae):U:=h
theorem V7(a:Ag)(w:ak):Calls ax 104 #[.agg #[.string ⟨a.1.toArray⟩,.string ⟨a.2.1.toArray⟩,.string ⟨a.2.2.toArray⟩]] w (gq (eF a) w):=by
 obtain⟨s0,s1,s2⟩:=a;obtain⟨w0,hw0,aW,hX,hB⟩:=agr w ↑s0 ↑s1 ↑s2;obtain⟨⟨c0,c1,c2⟩,_⟩:=hX.three;have HB:=zq hB;have HE:=zq aW;have UO:=zq (λA n cap w1=>nP A n cap w1);unfold gq;clear hX hB aW;simp only;by_cases hs:s2=[]
 ·subst hs;have HR:Hid (eF (s0,s1,[])=bU ([s0,s1].map aP)):=zq rfl;have KN:Calls ax 100 #[.slice (some ⟨w0.heap.size,0,none⟩) 2 2] (w0.alloc (.cells #[.string ⟨s0.toArray⟩,.string ⟨s1.toArray⟩] 9)) (nC ([s0,s1].map aP) (w0.alloc (.cells #[.string ⟨s0.toArray⟩,.string ⟨s1.toArray⟩] 9))):=kV [s0,s1] _ _ _ _ (Ss.made w0 [s0,s1] _ rfl aj) aj;unfold nC at KN;have HAT:=zq KN;clear KN;rw[HR.out];go_enter func104,ntmps104
  go_wp2_with (first
   | ((with_reducible refine HAT.out.mono ?_);rintro e w1 ⟨A1,n1,cap1,L,rfl,hK,Tz⟩;have HK:=zq hK;have rO:=zq Tz;clear hK Tz)
   | ((with_reducible refine(UO.out _ _ _ _).mono ?_);rintro e w2 ⟨rfl,bQ⟩;have tu:=zq bQ;have jP:=zq (HB.out.ev (((Ev.alloc w0 _).trans HK.out.ev).trans bQ));obtain⟨⟨d0,d1,d2,d3,d4⟩,r0,r1,r2,r3,r4⟩:=jP.out.five;clear bQ))
  (try simp only[Exit.inBlock,Exit.then]);rw[b_];refine bodyPost_ret (aS rfl _ _ _ _ _ rfl (jP.out.kH _ _ _ _ _) underlying101 rfl Tryz.iQ) rfl ?_;obtain⟨hlx,hnl⟩:=HK.out.done;have hsz:=HE.out.size;have YU:=(Ev.alloc w0 (.cells #[↑s0,↑s1] 9)).size;exact ayy
 have he:List.isEmpty s2=false:=by cases s2 with|nil=>exact absurd rfl hs|cons _ _=>rfl
 have HR:Hid (eF (s0,s1,s2)=bU ([s0,s1,s2].map aP)):=zq (by
  unfold eF;rw[show s2.isEmpty=false by cases s2 with|nil=>exact absurd rfl hs|cons _ _=>rfl];rfl)
 have KN:Calls ax 100 #[.slice (some ⟨w0.heap.size,0,none⟩) 3 3] (w0.alloc (.cells #[.string ⟨s0.toArray⟩,.string ⟨s1.toArray⟩,.string ⟨s2.toArray⟩] 9)) (nC ([s0,s1,s2].map aP) (w0.alloc (.cells #[.string ⟨s0.toArray⟩,.string ⟨s1.toArray⟩,.string ⟨s2.toArray⟩] 9))):=kV [s0,s1,s2] _ _ _ _ (Ss.made w0 [s0,s1,s2] _ rfl aj) aj;unfold nC at KN;have HAT:=zq KN;clear KN;rw[HR.out];go_enter func104,ntmps104
 go_wp2_with (first
  | ((with_reducible refine HAT.out.mono ?_);rintro e w1 ⟨A1,n1,cap1,L,rfl,hK,Tz⟩;have HK:=zq hK;have rO:=zq Tz;clear hK Tz)
  | ((with_reducible refine(UO.out _ _ _ _).mono ?_);rintro e w2 ⟨rfl,bQ⟩;have tu:=zq bQ;have jP:=zq (HB.out.ev (((Ev.alloc w0 _).trans HK.out.ev).trans bQ));obtain⟨⟨d0,d1,d2,d3,d4⟩,r0,r1,r2,r3,r4⟩:=jP.out.five;clear bQ))
 (try simp only[Exit.inBlock,Exit.then]);rw[b_];refine bodyPost_ret (aS rfl _ _ _ _ _ rfl (jP.out.kH _ _ _ _ _) underlying101 rfl Tryz.iQ) rfl ?_;obtain⟨hlx,hnl⟩:=HK.out.done;have hsz:=HE.out.size;have YU:=(Ev.alloc w0 (.cells #[↑s0,↑s1,↑s2] 9)).size;exact ayy
structure OwT(b0:Nat)(w:ak)(A:Option Addr)(n cap:Nat)(L:List M):Prop where
 own:Ow 101 5 mc b0 w (.slice A n cap) L
 len:L.length=n
 lies:∀x∈L,Lies b0 (foot (.slice A n cap)) w x
theorem lI.owt{w0 w:ak}{b0:Nat}{A:Option Addr}{n cap:Nat}{L:List M}(h:lI w0 A n cap L w)(hb:b0<=w0.heap.size):OwT b0 w A n cap L:=⟨h.own.low hb,h.len,λx hx=>(h.lies x hx).low hb⟩
theorem OwT.ev{b0:Nat}{w w':ak}{A:Option Addr}{n cap:Nat}{L:List M}(h:OwT b0 w A n cap L)(hE:Ev w w'):OwT b0 w' A n cap L:=⟨h.own.ev hE,h.len,λx hx=>(h.lies x hx).ev hE⟩
theorem OwT.but{b0:Nat}{K:List Nat}{w w':ak}{A:Option Addr}{n cap:Nat}{L:List M}(h:OwT b0 w A n cap L)(hb:But K w w')(hK:∀k∈K,k<b0):OwT b0 w' A n cap L:=
 ⟨h.own.but hb λg hg hm=>by have:=(h.own.lt hg).1;have:=hK g hm;omega,h.len,λx hx=>((h.lies x hx).less (K':=K++foot (.slice A n cap)) λy hy=>by
  rcases awD.1 hy with h1|h1;exact .inr (.inl (hK y h1));exact .inl h1).move (hb.wide λy hy=>.inl (awH _ hy)) λy hy=>.inl (aw4 _ hy)⟩
theorem OwT.done{b0:Nat}{w:ak}{n cap:Nat}{A:Option Addr}{L:List M}(h:OwT b0 w A n cap L):Lies b0 [] w (.mk 1 [] 0 A cap L 0)/\n=L.length:=by exact azr
def wW(b0:Nat)(Ts:List T)(v:au)(w:ak):Prop:=∃A n cap L,v=.slice A n cap/\OwT b0 w A n cap L/\L.map M.t=Ts
theorem wW.ev{b0:Nat}{Ts:List T}{v:au}{w w':ak}(h:wW b0 Ts v w)(hE:Ev w w'):wW b0 Ts v w':=by obtain⟨A,n,cap,L,e,h1,h2⟩:=h;exact⟨A,n,cap,L,e,h1.ev hE,h2⟩
theorem wW.pX{b0:Nat}{Ts:List T}{v:au}{w:ak}(h:wW b0 Ts v w):∀k∈foot v,b0<=k/\k<w.heap.size:=by obtain⟨A,n,cap,L,rfl,h1,h2⟩:=h;exact λk hk=>h1.own.lt (aG.1 hk)
theorem nC.p0{Ts:List T}{w:ak}{e:Ending}{w':ak}{b0:Nat}(h:nC Ts w e w')(hb:b0<=w.heap.size):∃v,e=.returned v/\wW b0 Ts v w'/\(∀k∈foot v,w.heap.size<=k)/\Ev w w':=by obtain⟨A,n,cap,L,rfl,h1,h2⟩:=h;exact⟨_,rfl,⟨A,n,cap,L,rfl,h1.owt hb,h2⟩,λk hk=>(h1.own.lt (aG.1 hk)).1,h1.ev⟩
structure JF(F:List Nat->au->ak->Prop):Prop where
 ev:∀K v u u',Ev u u'->F K v u->F K v u'
 new:∀K v u,(∀k∈K,u.heap.size<=k)->F [] v u->F K v u
def FT(b0:Nat)(t:T)(K:List Nat)(v:au)(u:ak):Prop:=∃x:M,v=.agg ↑x/\x.t=t/\Lies b0 K u x
theorem FT.jf(b0:Nat)(t:T):JF (FT b0 t):=⟨λK v u u' hE ⟨x,e,h1,h2⟩=>⟨x,e,h1,h2.ev hE⟩,λK v u hK ⟨x,e,h1,h2⟩=>⟨x,e,h1,h2.less λk hk=>.inr (.inr (hK k hk))⟩⟩
def FM(b0:Nat)(Ts:List T)(K:List Nat)(v:au)(u:ak):Prop:=∃A n cap L,v=.slice A n cap/\Ms u A n cap L/\L.map M.t=Ts/\∀x∈L,Lies b0 K u x
theorem FM.jf(b0:Nat)(Ts:List T):JF (FM b0 Ts):=⟨λK v u u' hE ⟨A,n,cap,L,e,h1,h2,h3⟩=>⟨A,n,cap,L,e,h1.ev hE,h2,λx hx=>(h3 x hx).ev hE⟩,λK v u hK ⟨A,n,cap,L,e,h1,h2,h3⟩=>⟨A,n,cap,L,e,h1,h2,λx hx=>(h3 x hx).less λk hk=>.inr (.inr (hK k hk))⟩⟩
theorem wW.fm{b0:Nat}{Ts:List T}{v:au}{w:ak}{K:List Nat}(h:wW b0 Ts v w)(hK:K=[]):FM b0 Ts K v w:=by
 subst hK;obtain⟨A,n,cap,L,rfl,h1,h2⟩:=h;obtain⟨A2,cap2,hv,qm,_⟩:=h1.own.form gW;injection hv with e1 e2 e3
 subst e1 e3;exact⟨A,n,cap,L,rfl,by rw[e2];exact qm,h2,λx hx=>(h1.lies x hx).less λy hy=>(by cases hy)⟩
def GJ(i0 d0:Nat)(P0:au->ak->Prop)(fs:List (Nat×Nat×(List Nat->au->ak->Prop)))(L:Nat->Bool)(a:Act)(u:ak):Prop:=
 (L i0=true->P0 (a.eval (.tmp d0)) u)/\∀f∈fs,L f.1=true->f.2.2 (if L i0=true then foot (a.eval (.tmp d0)) else []) (a.eval (.tmp f.2.1)) u
section
variable {i0 d0:Nat} {P0:au->ak->Prop} {fs:List (Nat×Nat×(List Nat->au->ak->Prop))}
theorem GJ.none{L:Nat->Bool}{a:Act}{u:ak}(h:∀j,L j=false):GJ i0 d0 P0 fs L a u:=⟨(λe=>by rw[h]at e;cases e),λf _ e=>by rw[h]at e;cases e⟩
theorem GJ.keep(hP:∀v u u',Ev u u'->P0 v u->P0 v u')(hJ:∀f∈fs,JF f.2.2){L L':Nat->Bool}{a a':Act}{u u':ak}(hL0:L' i0=L i0)(hL:∀f∈fs,L' f.1=L f.1)(ha0:a'.eval (.tmp d0)=a.eval (.tmp d0))(ha:∀f∈fs,a'.eval (.tmp f.2.1)=a.eval (.tmp f.2.1))(hE:Ev u u')(h:GJ i0 d0 P0 fs L a u):GJ i0 d0 P0 fs L' a' u':=by refine⟨λe=>?_,λf hf e=>?_⟩;rw[ha0];exact hP _ _ _ hE (h.1 (hL0▸e));rw[ha0,ha f hf,hL0];exact(hJ f hf).ev _ _ _ _ hE (h.2 f hf (hL f hf▸e))
theorem GJ.first(hJ:∀f∈fs,JF f.2.2){L L':Nat->Bool}{a:Act}{v:au}{u u':ak}(h:GJ i0 d0 P0 fs L a u)(hu:L i0=false)(hE:Ev u u')(hne:∀f∈fs,f.1≠i0/\f.2.1≠d0)(hsz:d0<a.tmps.size)(hP:P0 v u')(hnew:∀k∈foot v,u.heap.size<=k)(h1:L' i0=true)(h2:∀j,j≠i0->L' j=L j):GJ i0 d0 P0 fs L' (a.put (some d0) v) u':=by refine⟨λ_=>by rw[eval_put_same hsz];exact hP,λf hf e=>?_⟩;obtain⟨n1,n2⟩:=hne f hf;rw[eval_put_same hsz,eG (λe=>n2 (aw3 e).symm),h1,if_pos rfl];have h3:=h.2 f hf (h2 _ n1▸e);rw[hu,if_neg axM]at h3;exact(hJ f hf).ev _ _ _ _ hE ((hJ f hf).new _ _ _ hnew h3)
theorem GJ.other(hP:∀v u u',Ev u u'->P0 v u->P0 v u')(hJ:∀f∈fs,JF f.2.2){L L':Nat->Bool}{a:Act}{v:au}{u u':ak}{i d:Nat}(h:GJ i0 d0 P0 fs L a u)(hE:Ev u u')(hne:i≠i0/\d≠d0)(hd:∀f∈fs,f.1≠i->f.2.1≠d)(hsz:d<a.tmps.size)(hF:∀f∈fs,f.1=i->f.2.1=d/\f.2.2 (if L i0=true then foot (a.eval (.tmp d0)) else []) v u')(h1:L' i=true)(h2:∀j,j≠i->L' j=L j):GJ i0 d0 P0 fs L' (a.put (some d) v) u':=by have hL0:L' i0=L i0:=h2 _ λe=>hne.1 e.symm;have ha0:(a.put (some d) v).eval (.tmp d0)=a.eval (.tmp d0):=eG λe=>hne.2 (aw3 e);refine⟨λe=>?_,λf hf e=>?_⟩;rw[ha0];exact hP _ _ _ hE (h.1 (hL0▸e));rw[ha0,hL0];by_cases hi:f.1=i;obtain⟨e1,e2⟩:=hF f hf hi;rw[e1,eval_put_same hsz];exact e2;rw[eG (λe=>hd f hf hi (aw3 e).symm)];exact(hJ f hf).ev _ _ _ _ hE (h.2 f hf (h2 _ hi▸e))
theorem GJ.old{b0:Nat}{Ts:List T}{L:Nat->Bool}{a:Act}{u:ak}(h:GJ i0 d0 (wW b0 Ts) fs L a u):∀k∈(if L i0=true then foot (a.eval (.tmp d0)) else []),k<u.heap.size:=by
 intro k hk;split at hk;rename_i e;exact((h.1 e).pX k hk).2
 cases hk
end
theorem NJ{P:Program}{ρ:Operand->au}{o:Oper}{T:TypeId}{s x:Operand}{v y v':au}{w w':ak}(ho:o.op=.call {callee:=.builtin .append,args:=#[s,x],argTypes:=#[T,T]})(hs:ρ s=v)(hx:ρ x=y)(hr:(Builtin.append_ #[T,T] o.type #[v,y]).run P w=.ok v' w'):(execOp ρ o).run P w=.ok (.value v') w':=by unfold execOp;simp only[ho,resolve,invoke,builtin,Sem.run_bind,Sem.run_pure,Result.andThen_ok,axl,awo,awG,hs,hx,hr]
theorem kW{ρ:Operand->au}{o:Oper}{s x:Operand}{v y:au}{w:ak}{b0:Nat}{Ts Us:List T}(ho:o.op=.call {callee:=.builtin .append,args:=#[s,x],argTypes:=#[99,99]})(hs:ρ s=v)(hx:ρ x=y)(h1:wW b0 Ts v w)(h2:FM b0 Us (foot v) y w)(hl:Ts.length+Us.length<=1000000)(hb:b0<=w.heap.size):
  ∃v' w',(execOp ρ o).run ax w=.ok (.value v') w'/\wW b0 (Ts++Us) v' w'/\But (foot v) w w':=by
 obtain⟨A,n,cap,L,rfl,hO,hLt⟩:=h1;obtain⟨A2,n2,cap2,L2,rfl,hM,ai0,hlies⟩:=h2;have hLl:L.length=Ts.length:=by rw[<-hLt,awh]
 have atd:L2.length=Us.length:=by rw[<-ai0,awh]
 obtain⟨v',w',hr,h3,h4,h5,_⟩:=j_ (P:=ax) gW 99 o.type underlying99 Tryz.infoTree rfl hO.own A2 n2 cap2 L2 hM ae ae hb;refine⟨v',w',NJ ho hs hx hr,?_,h4⟩;obtain⟨A3,cap3,rfl,qm,xY⟩:=h3.form gW;refine⟨A3,_,cap3,L++L2,rfl,⟨h3,rfl,λy hy=>?_⟩,by rw[awt,hLt,ai0]⟩;have hy2:Lies b0 (foot (.slice A n cap)) w y:=by rcases awD.1 hy with h|h;exact hO.lies y h;exact hlies y h
 exact hy2.move h4 λk hk=>by rcases h5 k (aG.1 hk) with h|h;exact .inl (aG.2 h);exact .inr (.inr h)
theorem vI{ρ:Operand->au}{o:Oper}{x:Operand}(m:M)(ho:o.op=.buildSlice 99 1 #[(0,x)])(h:ρ x=.agg ↑m)(w:ak):
  (execOp ρ o).run ax w=.ok (.value (.slice ↑w.heap.size 1 1)) (w.alloc (.cells ↑m 101)):=by
 unfold execOp;rw[ho];simp[h,go_sem]
theorem pY{ρ:Operand->au}{o:Oper}{x:Operand}(s:By)(ho:o.op=.buildSlice 22 1 #[(0,x)])(h:ρ x=↑s)(w:ak):
  (execOp ρ o).run ax w=.ok (.value (.slice ↑w.heap.size 1 1)) (w.alloc (.cells #[↑s] 9)):=by
 unfold execOp;rw[ho];simp[h,go_sem]
theorem FT.slice{b0:Nat}{t:T}{K:List Nat}{u:ak}(x:M)(h:x.t=t)(hl:Lies b0 K u x):FM b0 [t] K (.slice ↑u.heap.size 1 1) (u.alloc (.cells ↑x 101)):=
 ⟨_,1,1,[x],rfl,Sl.one (et:=101) gW u x _ rfl,by rw[awo,awG,h],λy hy=>by simp at hy;subst hy;exact hl.ev az⟩
def XH(s:By)(v:au)(u:ak):Prop:=∃g,v=.slice (some ⟨g,0,none⟩) 1 1/\Ss u (some ⟨g,0,none⟩) 1 1 [s]
theorem XH.mono(s:By):o8 (XH s):=λv u u' hE ⟨g,e,h⟩=>⟨g,e,h.ev hE⟩
theorem wW.mono(b0:Nat)(Ts:List T):o8 (wW b0 Ts):=λv u u' hE h=>h.ev hE
theorem wW.but{b0:Nat}{Ts:List T}{v:au}{K:List Nat}{u u':ak}(h:wW b0 Ts v u)(hb:But K u u')(hK:∀k∈K,k<b0):wW b0 Ts v u':=by obtain⟨A,n,cap,L,e,h1,h2⟩:=h;exact⟨A,n,cap,L,e,h1.but hb hK,h2⟩
theorem FT.mono(b0:Nat)(t:T)(K:List Nat):o8 (FT b0 t K):=λv u u' hE h=>(FT.jf b0 t).ev _ _ _ _ hE h
theorem KO{b0:Nat}{K:List Nat}{u u':ak}{x:M}(h:Lies b0 [] u x)(hb:But K u u')(hK:∀k∈K,k<b0):Lies b0 [] u' x:=((h.less (K':=K) λy hy=>.inr (.inl (hK y hy))).move hb λy hy=>(by cases hy))
theorem FT.but{b0:Nat}{t:T}{v:au}{K:List Nat}{u u':ak}(h:FT b0 t [] v u)(hb:But K u u')(hK:∀k∈K,k<b0):FT b0 t [] v u':=by obtain⟨x,e,h1,h2⟩:=h;exact⟨x,e,h1,KO h2 hb hK⟩
theorem FM.mono(b0:Nat)(Ts:List T)(K:List Nat):o8 (FM b0 Ts K):=λv u u' hE h=>(FM.jf b0 Ts).ev _ _ _ _ hE h
def FMn(b0:Nat)(Ts:List T)(v:au)(u:ak):Prop:=FM b0 Ts [] v u/\∃g n cap,v=.slice (some ⟨g,0,none⟩) n cap/\b0<=g
theorem FMn.mono(b0:Nat)(Ts:List T):o8 (FMn b0 Ts):=λv u u' hE h=>⟨FM.mono _ _ _ _ _ _ hE h.1,h.2⟩
theorem FMn.but{b0:Nat}{Ts:List T}{v:au}{K:List Nat}{u u':ak}(h:FMn b0 Ts v u)(hb:But K u u')(hK:∀k∈K,k<b0):FMn b0 Ts v u':=by
 obtain⟨⟨A,n,cap,L,e,h1,h2,h3⟩,g,n',cap',e',hg⟩:=h;refine⟨⟨A,n,cap,L,e,h1.but hb λad ea hm=>?_,h2,λx hx=>KO (h3 x hx) hb hK⟩,g,n',cap',e',hg⟩;rw[e]at e';injection e' with e1
 rw[ea]at e1;injection e1 with e1
 subst e1;have:=hK _ hm;simp at this;omega
theorem But.zZ{K:List Nat}{w0 u u':ak}(hE:Ev w0 u)(hb:But K u u')(hK:∀k∈K,w0.heap.size<=k):Ev w0 u':=((But.aV hE).then hb).ev hK
theorem KP(l:List By)(X:List M)(A1 A2:Option Addr)(n cap1 cap2 b0:Nat)(w:ak)(h1:Ss w A1 n cap1 l)(h2:Es w A2 n cap2 X)(hn:n<=100000)(hlx:∀x∈X,Lx b0 [] w x)(hrt:∀x∈X,dQ x.t=true/\x.t.size<=16000/\x.t.every (λt=>decide (t.s.length<=1000000))=true):
  Calls ax 102 #[.slice A1 n cap1,.slice A2 n cap2] w (nC (List.zipWith bM l (X.map M.t)) w):=by
 have fD:Tryz.prog.follows .mixedOrders=true:=ah;have ai1:=h1.le;have anm:=h1.max;have ai2:=h2.le;have ann:=h2.max;have HL1:=zq h1.len;have HL2:=zq h2.len;have H1:=zq h1;have H2:=zq h2;have kL:=zq (lI.start w);have HTR:=zq (λx (hx:x∈X) w1 (hE:Ev w w1)=>XG x b0 w1 ((hlx x hx).ev hE) (hrt x hx).1 (hrt x hx).2.1 (hrt x hx).2.2);unfold nC;clear h1 h2 hlx hrt;go_enter func102,ntmps102;go_wp2
 go_loopw [5,12] (λav iv wr=>∃(A3:Option Addr) (cap3 k:Nat) (L:List M),av=.slice A3 k cap3/\iv=↑k/\k<=n/\Hid (L.map M.t=(List.zipWith bM l (X.map M.t)).take k)/\Hid (lI w A3 k cap3 L wr)) (λ_ iv _=>n - (intOf iv).toNat)
 case atStart=>exact⟨none,0,0,[],rfl,rfl,aww _,zq rfl,kL⟩
 case round=>
  obtain⟨A3,cap3,k,L,rfl,rfl,hk,rO,HS⟩:=hrel;by_cases hlt:k<n
  ·obtain⟨s,hs⟩:=H1.out.at hlt;obtain⟨x,hx⟩:=H2.out.at hlt;obtain⟨b,off,rfl,hb,hc⟩:=H1.out.rd ae;have n0:=hc k s hs 0 _ rfl;simp only[axY,awM]at n0;obtain⟨b2,yH,rfl,hb2,x0,x1,x2,x3⟩:=Es.cell H2.out hx;unfold M.kv at x3;have iP:=awm hx;have HT:=zq (HTR.out x iP);have qo:Hid ((List.zipWith bM l (X.map M.t)).take (k+1)=(List.zipWith bM l (X.map M.t)).take k++[bM s x.t]):=zq (by
    have hz:(List.zipWith bM l (X.map M.t))[k]?=some (bM s x.t):=by rw[List.getElem?_zipWith,hs,aw5,hx];rfl
    obtain⟨hk2,e1⟩:=awi.1 hz;rw[aws hk2,e1])
   have t_:=zq HS.out.len;have i1:(0:Int)<=(k:Int):=ae;have i2:(k:Int)<(n:Int):=ae;clear hs hx hc iP;go_upto_region 5 with fail
   have Hu:∀f∈([(11,26,FT wr.heap.size (xTree x.t)),(12,27,FM wr.heap.size [xTree x.t])]:List (Nat×Nat×(List Nat->au->ak->Prop))),JF f.2.2:=λf hf=>by simp at hf;rcases hf with rfl|rfl;exact FT.jf _ _;exact FM.jf _ _
   have JNE:∀f∈([(11,26,FT wr.heap.size (xTree x.t)),(12,27,FM wr.heap.size [xTree x.t])]:List (Nat×Nat×(List Nat->au->ak->Prop))),f.1≠6/\f.2.1≠21:=λf hf=>by simp at hf;rcases hf with rfl|rfl<;>simp
   have ags:∀y∈foot (.slice A3 k cap3),y<wr.heap.size:=λy hy=>(HS.out.own.lt (aG.1 hy)).2;refine kU fD (λu=>Ev w u/\wr.heap.size<=u.heap.size) (λp u u'=>match p with|0=>True|1=>But (foot (.slice A3 k cap3)) u u'|_+2=>False) [13,16] (λp u=>p<=1->Ev wr u) [5] [[13,14,15,16,17],[16,17]] 13 [λv _=>v=.slice A3 k cap3,λv _=>v=.slice ↑(b,off) n cap1,λv _=>v=↑k,λv _=>v=.pointer ↑(b,off+k),λv _=>v=↑s,XH s,λ_ _=>True,λv _=>v=.slice ↑(b2,yH) n cap2,λv _=>v=↑k,λv _=>v=.pointer ↑(b2,yH+k*4),λv _=>v=.agg ↑(x,()),λ_ _=>True,λ_ _=>True,wW wr.heap.size [aP s,xTree x.t],FT wr.heap.size (bM s x.t) [],FMn wr.heap.size [bM s x.t],wW w.heap.size (L.map M.t++[bM s x.t]),wW w.heap.size (L.map M.t++[bM s x.t])]
    34 2 rfl ah ⟨aB _,aB _,aB _,aB _,aB _,XH.mono s,fB,aB _,aB _,aB _,aB _,fB,fB,wW.mono _ _,FT.mono _ _ _,FMn.mono _ _,wW.mono _ _,wW.mono _ _,trivial⟩ ⟨dC,dC,dC,dC,dC,Or.inl rfl,Zt9,dC,dC,dC,dC,Zt9,Zt9,Or.inr λp=>match p with|0=>Or.inl rfl|1=>Or.inr λ_ _ _ hb h=>h.but hb ags|_+2=>Or.inr λ_ _ _ hb h=>hb.elim,Or.inr λp=>match p with|0=>Or.inl rfl|1=>Or.inr λ_ _ _ hb h=>h.but hb ags|_+2=>Or.inr λ_ _ _ hb h=>hb.elim,Or.inr λp=>match p with|0=>Or.inl rfl|1=>Or.inr λ_ _ _ hb h=>h.but hb ags|_+2=>Or.inr λ_ _ _ hb h=>hb.elim,Or.inr λp=>match p with|0=>Or.inl rfl|1=>Or.inl rfl|_+2=>Or.inr λ_ _ _ hb h=>hb.elim,Or.inr λp=>match p with|0=>Or.inl rfl|1=>Or.inl rfl|_+2=>Or.inr λ_ _ _ hb h=>hb.elim,trivial⟩ ah rfl ah (λp u u' hE h hp=>(h hp).trans hE) (λu u' hE h=>⟨h.1.trans hE,awJ h.2 hE.size⟩) (⟨HS.out.ev,awj _⟩) (λ_=>Ev.refl _) ah (GJ 6 21 (wW wr.heap.size [aP s]) [(11,26,FT wr.heap.size (xTree x.t)),(12,27,FM wr.heap.size [xTree x.t])]) [6,11,12] ah (λL L' a a' u u' hL ha hE h=>GJ.keep (λv u u' hE h=>h.ev hE) Hu (hL 6 ai) (λf hf=>by simp at hf;rcases hf with rfl|rfl<;>exact hL _ aj) (ha 6 ai _ ah) (λf hf=>by simp at hf;rcases hf with rfl|rfl;exact ha 11 aj 26 ah;exact ha 12 aj 27 ah) hE h) (λL hL=>GJ.none hL) ?_ ?_ ?_ ?_
   ·refine aN 0 ?_ (aN 1 ?_ (aN 2 ?_ (aN 3 ?_ (aN 4 ?_ (aN 5 ?_ (bZ 6 ai (aN 7 ?_ (aN 8 ?_ (aN 9 ?_ (aN 10 ?_ (bZ 11 ai (bZ 12 ai (bZ 13 ai (aN 14 ?_ (aN 15 ?_ (bZ 16 ai (aN 17 ?_ (oC 18))))))))))))))))));refine dP λa w c=>⟨(ay rfl),_,run_move _ rfl w,(c.was 5 rfl)⟩
    refine dP λa w c=>⟨(ay rfl),_,run_move _ rfl w,(c.was 0 rfl)⟩
    refine dP λa w c=>⟨(ay rfl),_,run_move _ rfl w,(c.was 6 rfl)⟩
    ·refine dP λa w c=>⟨(ay rfl),.pointer ↑(b,off+k),?_,rfl⟩
     have e16:a.eval (.tmp 16)=.slice ↑(b,off) n cap1:=(c.new 1 16)
     have e17:a.eval (.tmp 17)=↑k:=(c.new 2 17)
     generalize a.eval=ρ at e16 e17|-;simp[execOp,e16,e17,go_sem,i1,i2]
    ·refine dP λa wq c=>⟨(ay rfl),↑s,?_,rfl⟩
     have bD:a.eval (.tmp 18)=.pointer ↑(b,off+k):=(c.new 3 18)
     have q0:=(c.inv.1.cell (p:=⟨b,off+k,none⟩) hb).trans n0;generalize a.eval=ρ at bD|-;simp[execOp,bD,q0,go_sem]
    refine rf λa wq c=>⟨(ay rfl),_,_,pY s rfl (c.new 4 19) wq,Ev.alloc _ _,⟨c.inv.1.trans (Ev.alloc wq _),awJ c.inv.2 (Ev.alloc wq _).size⟩,⟨_,rfl,Ss.made wq [s] _ rfl aj⟩⟩
    refine dP λa w c=>⟨(ay rfl),_,run_move _ rfl w,(c.was 1 rfl)⟩
    refine dP λa w c=>⟨(ay rfl),_,run_move _ rfl w,(c.was 6 rfl)⟩
    ·refine dP λa w c=>⟨(ay rfl),.pointer ↑(b2,yH+k*4),?_,rfl⟩
     have e22:a.eval (.tmp 22)=.slice ↑(b2,yH) n cap2:=(c.new 7 22)
     have e23:a.eval (.tmp 23)=↑k:=(c.new 8 23)
     generalize a.eval=ρ at e22 e23|-;simp[execOp,e22,e23,go_sem,i1,i2]
    ·refine dP λa wq c=>⟨(ay rfl),.agg ↑(x,()),?_,rfl⟩
     have bD:a.eval (.tmp 24)=.pointer ↑(b2,yH+k*4):=(c.new 9 24)
     have q0:=(c.inv.1.cell (p:=⟨b2,yH+k*4,none⟩) hb2).trans x0;have q1:=(c.inv.1.cell (p:=⟨b2,yH+k*4+1,none⟩) hb2).trans x1;have q2:=(c.inv.1.cell (p:=⟨b2,yH+k*4+2,none⟩) hb2).trans x2;have q3:=(c.inv.1.cell (p:=⟨b2,yH+k*4+3,none⟩) hb2).trans x3;generalize a.eval=ρ at bD|-;simp[execOp,bD,q0,q1,q2,q3,go_sem]
    refine abf λa wq c=>?_;obtain⟨A_,n_,cap_,Z_,e_,V8,hZ_⟩:=(c.got 13 28 ah ah ah rfl:wW wr.heap.size [aP s,xTree x.t] _ _)
    refine⟨ay rfl,103,#[.slice A_ n_ cap_],?_,?_⟩;rw[bC 103 _ _ rfl ah];simp[e_];refine(nP A_ n_ cap_ wq).mono ?_;rintro r wp ⟨rfl,lT⟩;obtain⟨V9,wG⟩:=V8.done;exact⟨_,rfl,lT,⟨c.inv.1.trans lT,awJ c.inv.2 lT.size⟩,⟨.mk 1 [] 0 A_ cap_ Z_ 0,by rw[wG];rfl,by simp only[M.t,M.jJ];rw[hZ_];rfl,V9.ev lT⟩⟩;refine rf λa wq c=>?_;obtain⟨m_,e_,ht_,V9⟩:=(c.got 14 29 ah ah ah rfl:FT wr.heap.size (bM s x.t) [] _ _)
    exact⟨(ay rfl),_,_,vI m_ rfl e_ wq,Ev.alloc _ _,⟨c.inv.1.trans (Ev.alloc wq _),awJ c.inv.2 (Ev.alloc wq _).size⟩,FT.slice m_ ht_ V9,_,_,_,rfl,c.inv.2⟩;refine dP λa w c=>⟨(ay rfl),_,run_assign _ rfl w,(c.new 16 31)⟩
   refine jD rfl ?_ (jD rfl ?_ (jD rfl ?_ Em));refine lS λa wq L c hs hp hu hg=>?_;obtain⟨g_,e_,hS_⟩:=(c.got 5 20 ah ah ah rfl:XH s _ _)
   refine⟨ay rfl,100,#[.slice ↑g_ 1 1],?_,?_⟩;rw[bC 100 _ _ rfl ah];simp[e_];refine(kV [s] _ 1 1 wq hS_ ae).mono ?_;rintro r wp wH;obtain⟨v_,rfl,Hw,wG,lT⟩:=wH.p0 (b0:=wr.heap.size) c.inv.2;exact⟨v_,rfl,lT,⟨c.inv.1.trans lT,awJ c.inv.2 lT.size⟩,trivial,λL' h1 h2=>GJ.first Hu hg hu lT JNE (axk (by decide:21<34) hs.symm) Hw wG h1 h2⟩;refine lS λa wq L c hs hp hu hg=>?_;have e_:a.eval (.tmp 25)=.agg ↑(x,()):=(c.new 10 25)
   refine⟨ay rfl,101,#[.agg ↑(x,())],?_,?_⟩;rw[bC 101 _ _ rfl ah];simp[e_];refine(HT.out wq c.inv.1).mono ?_;rintro r wp ⟨m_,rfl,ht_,V9,lT⟩;refine⟨_,rfl,lT,⟨c.inv.1.trans lT,awJ c.inv.2 lT.size⟩,trivial,λL' h1 h2=>GJ.other (λv u u' hE h=>h.ev hE) Hu hg lT ai (λf hf hne=>?_) (axk (by decide:26<34) hs.symm) (λf hf he=>?_) h1 h2⟩;simp at hf;rcases hf with rfl|rfl;exact absurd rfl hne;simp;simp at hf;rcases hf with rfl|rfl;exact⟨rfl,m_,rfl,ht_,(V9.less λy hy=>.inr (.inl (hg.old y hy))).low c.inv.2⟩;simp at he;refine Gj λa wq L c hs hp hu hg=>?_;obtain⟨m_,e_,ht_,V9⟩:=hg.2 (11,26,FT wr.heap.size (xTree x.t)) aj (hp 11 ah);refine⟨ay rfl,_,_,vI m_ rfl e_ wq,Ev.alloc _ _,⟨c.inv.1.trans (Ev.alloc wq _),awJ c.inv.2 (Ev.alloc wq _).size⟩,trivial,λL' h1 h2=>GJ.other (λv u u' hE h=>h.ev hE) Hu hg az ai (λf hf hne=>?_) (axk (by decide:27<34) hs.symm) (λf hf he=>?_) h1 h2⟩;simp at hf;rcases hf with rfl|rfl;simp;exact absurd rfl hne;simp at hf;rcases hf with rfl|rfl;simp at he;exact⟨rfl,FT.slice m_ ht_ V9⟩;refine gG 0 rfl ?_ (gG 1 rfl ?_ (pU 2));refine uO λa wq c st hg=>?_;obtain⟨L_,V_,hG_⟩:=hg rfl;have Hw:=hG_.1 (V_ 6 ah);have NK:=hG_.2 (12,27,FM wr.heap.size [xTree x.t]) aj (V_ 12 ah);rw[if_pos (V_ 6 ah)]at NK;obtain⟨v_,w_,YV,Qk,KJ⟩:=kW (o:=⟨some 28,_,_,_,_,_⟩) rfl rfl rfl Hw NK aj c.inv.2;exact⟨ay rfl,v_,w_,YV,trivial,⟨But.zZ c.inv.1 KJ λy hy=>awJ HS.out.ev.size (Hw.pX y hy).1,awJ c.inv.2 KJ.size⟩,λ_=>But.zZ (st ae) KJ λy hy=>(Hw.pX y hy).1,Qk⟩;refine uO λa wq c st hg=>?_;have NK:=(c.got 15 30 ah ah ah rfl:FMn wr.heap.size [bM s x.t] _ _)
   have e_:a.eval (.tmp 15)=.slice A3 k cap3:=(c.new 0 15)
   have hK_:=HS.out.on (st ae);have Hw:wW w.heap.size (L.map M.t) (.slice A3 k cap3) wq:=⟨A3,k,cap3,L,rfl,hK_.owt (awj _),rfl⟩
   have ano:∀y∈foot (.slice A3 k cap3),y<wr.heap.size:=λy hy=>(HS.out.own.lt (aG.1 hy)).2;obtain⟨⟨B_,n_,cap_,Z_,Hy,YW,TA,V9⟩,_⟩:=NK;have hM_:FM w.heap.size [bM s x.t] (foot (.slice A3 k cap3)) (a.eval (.tmp 30)) wq:=⟨B_,n_,cap_,Z_,Hy,YW,TA,λy hy=>((V9 y hy).less λz hz=>.inr (.inl (ano z hz))).low HS.out.ev.size⟩
   obtain⟨v_,w_,YV,Qk,KJ⟩:=kW (o:=⟨some 31,_,_,_,_,_⟩) rfl e_ rfl Hw hM_ (by rw[awh,t_.out];simp;omega) c.inv.1.size;exact⟨ay rfl,v_,w_,YV,KJ,⟨But.zZ c.inv.1 KJ λy hy=>(HS.out.own.lt (aG.1 hy)).1,awJ c.inv.2 KJ.size⟩,(λh=>by omega),Qk⟩;intro sl wB hI hold hnew hst;obtain⟨A4,n4,cap4,L4,f5,hO4,hL4⟩:=(hnew 17 5:wW w.heap.size (L.map M.t++[bM s x.t]) (sl 5) wB)
   have f0:sl 0=.slice ↑(b,off) n cap1:=hold 0;have f1:sl 1=.slice ↑(b2,yH) n cap2:=hold 1;have f2:_=undef:=hold 2;have f3:_=undef:=hold 3;have f4:sl 4=↑():=hold 4;have f6:sl 6=↑k:=hold 6;have f7:sl 7=.slice ↑(b,off) n cap1:=hold 7;have f8:sl 8=↑n:=hold 8;have f9:sl 9=.slice ↑(b2,yH) n cap2:=hold 9;have f10:sl 10=↑n:=hold 10;have f11:sl 11=↑n:=hold 11;have f12:sl 12=↑k:=hold 12;have f13:sl 13=.bool true:=hold 13;have f14:sl 14=↑k:=hold 14;have f32:sl 32=u32:=hold 32;have f33:_=undef:=hold 33;change (_:Act->ak->Prop) ⟨_,_⟩ _;simp only[List.range,List.range.loop,List.map];simp only[f5,f0,f1,f2,f3,f4,f6,f7,f8,f9,f10,f11,f12,f13,f14,f32,f33];clear hold hnew;have hn4:n4=k+1:=by have h5:=congrArg List.length hL4;rw[awh,hO4.len,awl,awh,t_.out]at h5;simpa using h5
   subst hn4;have HK4:=zq (⟨hO4.own,hO4.len,hO4.lies,hI.1⟩:lI w A4 (k+1) cap4 L4 wB);have HL4:=zq hL4;clear hO4 hL4 hst hI Hu JNE n0 x0 x1 x2 x3;go_wp2;go_roundw
   case rel=>exact⟨A4,cap4,k+1,L4,rfl,by go_num,ae,zq (by rw[qo.out,HL4.out,rO.out]),HK4⟩
   case measure=>simp[intOf];omega
  obtain rfl:k=n:=ae;have HF:Hid (L.map M.t=List.zipWith bM l (X.map M.t)):=zq (by
   have h1:=rO.out;rwa [awC (by rw[axK,awh,HL1.out,HL2.out];omega)]at h1)
  go_wp2;go_ret;exact⟨A3,_,cap3,L,rfl,HS.out,HF.out⟩
theorem yV(m:PM):aH m.p=bU (kF m.kind m.name (m.ex.l.map M.t) m.co.l m.lf.l m.rt.l m.ag.l++m.kids.map λx=>aH x.p):=by rw[PM.sD,aH,vw,awy];rfl
theorem lI.since{w0 w1 w':ak}{A:Option Addr}{n cap:Nat}{L:List M}(hE:Ev w0 w1)(h:lI w1 A n cap L w'):lI w0 A n cap L w':=⟨h.own.low hE.size,h.len,λx hx=>(h.lies x hx).low hE.size,hE.trans h.ev⟩
theorem Aa(w:ak)(c0 c1 c2 c3 c4 c5 c6 c7:au):∃w0,(w.alloc (.cells #[c0,c1,c2,c3,c4,c5,c6,c7] 32)).alloc (.cells ↑Zz.a 101)=w0/\Ev w w0/\Bx 32 w.heap.size #[c0,c1,c2,c3,c4,c5,c6,c7] w0/\Bx 101 (w.heap.size+1) ↑Zz.a w0:=by
 have hB:Bx 101 (w.heap.size+1) ↑Zz.a ((w.alloc (.cells #[c0,c1,c2,c3,c4,c5,c6,c7] 32)).alloc (.cells ↑Zz.a 101)):=by have:=Bx.new 101 ↑Zz.a (w.alloc (.cells #[c0,c1,c2,c3,c4,c5,c6,c7] 32));simpa using this
 exact⟨_,rfl,(Ev.alloc w _).trans az,(Bx.new 32 #[c0,c1,c2,c3,c4,c5,c6,c7] w).ev az,hB⟩
theorem ayf(h:U:=by
 have jg:Hid (L.length<=50000):=zq (by
  have h5:=congrArg List.length HR.out;rw[awl,awh,awh,wX.out,awh,awT]at h5;have:=qA.out;have:=mF.out;omega)
 have i1:(0:Int)<=(j:Int):=ae;have i2:(j:Int)<(m.kids.length:Int):=ae;clear hx iP
 go_wp2_with (first
  | ((with_reducible refine(HI.out _ (ou.out.trans (Ev.alloc wr _))).mono ?_);rintro e w1 ⟨x',rfl,jI,iJ,aK⟩;have qj:=zq jI;have qC:=zq iJ;have E1:=zq ((Ev.alloc wr _).trans aK);clear jI iJ)
  | ((show wpList _ _ _ (⟨some 101,_,_,_,_,_⟩::_) _ _);refine aO (o:=⟨some 101,_,_,_,_,_⟩) rfl 99 (.tmp 97) (.tmp 100) rfl gW underlying99 Tryz.infoTree rfl rfl (HS.out.own.ev (E1.out.trans (Ev.alloc w1 _))) ↑w1.heap.size 1 1 [x'] rfl (Sl.one (et:=101) gW w1 x' _ rfl) (by have:=jg.out;simp;omega) (by have:=jg.out;simp;omega) ((HS.out.ev.trans E1.out).trans (Ev.alloc w1 _)).size ?_;intro v2 w2 gV;obtain⟨A2,cap2,rfl,ST2⟩:=HS.out.next (E1.out.trans (Ev.alloc w1 _)) ((qC.out.low (Ev.alloc wr (.cells ↑x 32)).size).ev (Ev.alloc w1 _)) gV))
 go_roundw
 case rel=>exact⟨A2,n1+1,cap2,j+1,L++[x'],rfl,by go_num,ae,zq ST2,zq (by rw[qo.out,awt,HR.out,awo,awG,qj.out,awI])⟩
 case measure=>simp[intOf];omega):U:=h
theorem aya(h:U:=by
 obtain⟨x,hx⟩:=tK.out.at hlt;obtain⟨b,off,rfl,KJ,_⟩:=tK.out.rd ae;obtain⟨x0,x1,x2,x3,x4,x5,x6,x7⟩:=Ps.cell (tK.out.ev ou.out) hx;unfold fE.v PM.kv at*;have iP:=awm hx;have qo:Hid ((m.kids.take (j+1)).map (λx=>aH x.p)=(m.kids.take j).map (λx=>aH x.p)++[aH x.p]):=zq (by
  obtain⟨hk2,e⟩:=awi.1 hx;rw[aws hk2,e,awt];rfl)
 have HI:=zq (λw1 (hE:Ev w w1)=>mP.out x iP w1 hE);exact ayf):U:=h
theorem ayg(h:U:=by
 obtain rfl:j=m.kids.length:=ae;obtain⟨hlx,hnl⟩:=HS.out.done;have jg:=zq hnl;have hbl:=HB.out.lt;have Gp:=zq (hlx.less (K':=[w.heap.size+1]) λk hk=>by simp at hk;subst hk;exact .inr (.inl hbl));have Nu:Hid (M.t (.mk 1 [] 0 A1 cap1 L 0)=R):=zq (by
  have h5:=HR.out;rw[aw0]at h5;simp only[M.t,M.jJ];rw[h5,BX.out];rfl)
 have UO:=zq (nP A1 n1 cap1 wr);have zx:=zq HE.out.size;clear hlx hnl hbl
 go_wp2_with (first
  | ((with_reducible refine UO.out.mono ?_);rintro e w2 ⟨rfl,bQ⟩;have tu:=zq bQ;have jP:=zq (HB.out.ev (HS.out.ev.trans bQ));obtain⟨⟨d0,d1,d2,d3,d4⟩,r0,r1,r2,r3,r4⟩:=jP.out.five;clear bQ))
 (try simp only[Exit.inBlock,Exit.then]);rw[b_];refine bodyPost_ret (aS rfl _ _ _ _ _ rfl (jP.out.kH _ _ _ _ _) underlying101 rfl Tryz.iQ) rfl ?_;refine⟨.mk 1 [] 0 A1 cap1 L 0,by simp only[M.kids,M.kind,M.s,M.n,M.A,M.cap,M.pos];rw[<-jg.out];rfl,Nu.out,?_,(ou.out.trans tu.out).box (bJ _ _ _ _ _ _ _) ae⟩;exact(((Gp.out.ev tu.out)).move (bJ _ _ _ _ _ _ _) λk hk=>by cases hk).low zx.out):U:=h
theorem Ql(m:PM)(b0:Nat)(w:ak)(h:Qx b0 [] w m)(hk:m.kind=1)(hkn:m.kids.length<=10000)(ih:∀x∈m.kids,∀w1,Ev w w1->Calls ax 56 #[pv x] w1 (gq (aH x.p) w1)):
  Calls ax 56 #[pv m] w (gq (aH m.p) w):=by
 have fD:Tryz.prog.follows .mixedOrders=true:=ah;have zo:=yV m;rw[hk]at zo;obtain⟨R,hR⟩:∃R,R=aH m.p:=⟨_,rfl⟩
 rw[<-hR]at zo|-;have Eo:Hid (R=bU ([gU,m.name].map aP++m.kids.map λx=>aH x.p)):=zq zo;obtain⟨hex,hlx,AX,tq,hrt,Ac,Ih,UQ⟩:=h.at;have qw:=h.ps;have tJ:=h.ps.le;have Yk:=h.ps.max;have mP:=zq ih;unfold pv fE.v PM.kv gq;unfold pv fE.v PM.kv gq at mP;rw[hk];clear Ih UQ h;generalize m.A=mA at*;generalize m.cap=kJ at*;have tK:=zq qw;obtain⟨w0,hw0,aW,hX,hB⟩:=Aa w (.int .i64 1) ↑m.name (.slice m.ex.A m.ex.l.length m.ex.cap) (.slice m.co.A m.co.l.length m.co.cap) (.slice m.lf.A m.lf.l.length m.lf.cap) (.slice m.rt.A m.rt.l.length m.rt.cap) (.slice m.ag.A m.ag.l.length m.ag.cap) (.slice mA m.kids.length kJ);obtain⟨⟨p0,p1,p2,p3,p4,p5,p6,p7⟩,_⟩:=hX.eight;have HX:=zq hX;have HB:=zq hB;have HE:=zq aW;have mF:=zq hkn;clear zo hX hB aW hex hlx AX tq hrt Ac ih hR hk qw;have KN:Calls ax 100 #[.slice (some ⟨w0.heap.size,0,none⟩) 2 2] (w0.alloc (.cells #[.string ⟨#[116,97,98,108,101]⟩,.string ⟨m.name.toArray⟩] 9)) (nC ([gU,m.name].map aP) (w0.alloc (.cells #[.string ⟨#[116,97,98,108,101]⟩,.string ⟨m.name.toArray⟩] 9))):=kV [gU,m.name] _ _ _ _ (Ss.made w0 [gU,m.name] _ rfl aj) aj;unfold nC at KN;have HAT:=zq KN;clear KN;go_enter func56,ntmps56
 go_wp2_with (first
  | ((with_reducible refine HAT.out.mono ?_);rintro e w1 ⟨A3,n3,cap3,L3,rfl,hK,Tz⟩;have HK:=zq (lI.since (Ev.alloc w0 _) hK);have rO:=zq Tz;clear hK Tz p0 p1 p2 p3 p4 p5 p6 p7;obtain⟨⟨p0,p1,p2,p3,p4,p5,p6,p7⟩,_⟩:=(HX.out.ev HK.out.ev).eight))
 have qA:Hid (L3.length<=30000):=zq (by have:=congrArg List.length rO.out;simp at this;omega);obtain⟨hd,tN⟩:∃hd,hd=L3.map M.t:=⟨_,rfl⟩
 have BX:Hid (R=bU (hd++m.kids.map λx=>aH x.p)):=zq (by rw[Eo.out,tN,rO.out]);have wX:=zq tN;clear tN
 go_loopw [3,93] (λkv iv wr=>∃(A1:Option Addr) (n1 cap1 j:Nat) (L:List M),kv=.slice A1 n1 cap1/\iv=↑j/\j<=m.kids.length/\Hid (lI w0 A1 n1 cap1 L wr)/\Hid (L.map M.t=hd++(m.kids.take j).map λx=>aH x.p)) (λ_ iv _=>m.kids.length - (intOf iv).toNat)
 case atStart=>exact⟨_,n3,cap3,0,L3,rfl,rfl,aww _,HK,zq (by rw[wX.out];simp)⟩
 case round=>
  obtain⟨A1,n1,cap1,j,L,rfl,rfl,hj,HS,HR⟩:=hrel;have ou:=zq (HE.out.trans HS.out.ev);by_cases hlt:j<m.kids.length;exact aya;exact ayg
theorem Qm(m:PM)(b0:Nat)(w:ak)(h:Qx b0 [] w m)(hk:m.kind=5)(hkn:m.kids.length<=10000)(ih:∀x∈m.kids,∀w1,Ev w w1->Calls ax 56 #[pv x] w1 (gq (aH x.p) w1)):
  Calls ax 56 #[pv m] w (gq (aH m.p) w):=by
 have fD:Tryz.prog.follows .mixedOrders=true:=ah;have zo:=yV m;rw[hk]at zo;obtain⟨R,hR⟩:∃R,R=aH m.p:=⟨_,rfl⟩
 rw[<-hR]at zo|-;have Eo:Hid (R=bU ([iH].map aP++m.kids.map λx=>aH x.p)):=zq zo;obtain⟨hex,hlx,AX,tq,hrt,Ac,Ih,UQ⟩:=h.at;have qw:=h.ps;have tJ:=h.ps.le;have Yk:=h.ps.max;have mP:=zq ih;unfold pv fE.v PM.kv gq;unfold pv fE.v PM.kv gq at mP;rw[hk];clear Ih UQ h;generalize m.A=mA at*;generalize m.cap=kJ at*;have tK:=zq qw;obtain⟨w0,hw0,aW,hX,hB⟩:=Aa w (.int .i64 5) ↑m.name (.slice m.ex.A m.ex.l.length m.ex.cap) (.slice m.co.A m.co.l.length m.co.cap) (.slice m.lf.A m.lf.l.length m.lf.cap) (.slice m.rt.A m.rt.l.length m.rt.cap) (.slice m.ag.A m.ag.l.length m.ag.cap) (.slice mA m.kids.length kJ);obtain⟨⟨p0,p1,p2,p3,p4,p5,p6,p7⟩,_⟩:=hX.eight;have HX:=zq hX;have HB:=zq hB;have HE:=zq aW;have mF:=zq hkn;clear zo hX hB aW hex hlx AX tq hrt Ac ih hR hk qw;have KN:Calls ax 100 #[.slice (some ⟨w0.heap.size,0,none⟩) 1 1] (w0.alloc (.cells #[.string ⟨#[117,110,105,111,110]⟩] 9)) (nC ([iH].map aP) (w0.alloc (.cells #[.string ⟨#[117,110,105,111,110]⟩] 9))):=kV [iH] _ _ _ _ (Ss.made w0 [iH] _ rfl aj) aj;unfold nC at KN;have HAT:=zq KN;clear KN;go_enter func56,ntmps56
 go_wp2_with (first
  | ((with_reducible refine HAT.out.mono ?_);rintro e w1 ⟨A3,n3,cap3,L3,rfl,hK,Tz⟩;have HK:=zq (lI.since (Ev.alloc w0 _) hK);have rO:=zq Tz;clear hK Tz p0 p1 p2 p3 p4 p5 p6 p7;obtain⟨⟨p0,p1,p2,p3,p4,p5,p6,p7⟩,_⟩:=(HX.out.ev HK.out.ev).eight))
 have qA:Hid (L3.length<=30000):=zq (by have:=congrArg List.length rO.out;simp at this;omega);obtain⟨hd,tN⟩:∃hd,hd=L3.map M.t:=⟨_,rfl⟩
 have BX:Hid (R=bU (hd++m.kids.map λx=>aH x.p)):=zq (by rw[Eo.out,tN,rO.out]);have wX:=zq tN;clear tN
 go_loopw [3,93] (λkv iv wr=>∃(A1:Option Addr) (n1 cap1 j:Nat) (L:List M),kv=.slice A1 n1 cap1/\iv=↑j/\j<=m.kids.length/\Hid (lI w0 A1 n1 cap1 L wr)/\Hid (L.map M.t=hd++(m.kids.take j).map λx=>aH x.p)) (λ_ iv _=>m.kids.length - (intOf iv).toNat)
 case atStart=>exact⟨_,n3,cap3,0,L3,rfl,rfl,aww _,HK,zq (by rw[wX.out];simp)⟩
 case round=>
  obtain⟨A1,n1,cap1,j,L,rfl,rfl,hj,HS,HR⟩:=hrel;have ou:=zq (HE.out.trans HS.out.ev);by_cases hlt:j<m.kids.length;exact aya;exact ayg
theorem Iu(m:PM)(b0:Nat)(w:ak)(h:Qx b0 [] w m)(hk:m.kind=6)(hkn:m.kids.length<=10000)(ih:∀x∈m.kids,∀w1,Ev w w1->Calls ax 56 #[pv x] w1 (gq (aH x.p) w1)):
  Calls ax 56 #[pv m] w (gq (aH m.p) w):=by
 have fD:Tryz.prog.follows .mixedOrders=true:=ah;have zo:=yV m;rw[hk]at zo;obtain⟨R,hR⟩:∃R,R=aH m.p:=⟨_,rfl⟩
 rw[<-hR]at zo|-;have Eo:Hid (R=bU ([dN].map aP++m.kids.map λx=>aH x.p)):=zq zo;obtain⟨hex,hlx,AX,tq,hrt,Ac,Ih,UQ⟩:=h.at;have qw:=h.ps;have tJ:=h.ps.le;have Yk:=h.ps.max;have mP:=zq ih;unfold pv fE.v PM.kv gq;unfold pv fE.v PM.kv gq at mP;rw[hk];clear Ih UQ h;generalize m.A=mA at*;generalize m.cap=kJ at*;have tK:=zq qw;obtain⟨w0,hw0,aW,hX,hB⟩:=Aa w (.int .i64 6) ↑m.name (.slice m.ex.A m.ex.l.length m.ex.cap) (.slice m.co.A m.co.l.length m.co.cap) (.slice m.lf.A m.lf.l.length m.lf.cap) (.slice m.rt.A m.rt.l.length m.rt.cap) (.slice m.ag.A m.ag.l.length m.ag.cap) (.slice mA m.kids.length kJ);obtain⟨⟨p0,p1,p2,p3,p4,p5,p6,p7⟩,_⟩:=hX.eight;have HX:=zq hX;have HB:=zq hB;have HE:=zq aW;have mF:=zq hkn;clear zo hX hB aW hex hlx AX tq hrt Ac ih hR hk qw;have KN:Calls ax 100 #[.slice (some ⟨w0.heap.size,0,none⟩) 1 1] (w0.alloc (.cells #[.string ⟨#[100,105,115,116,105,110,99,116]⟩] 9)) (nC ([dN].map aP) (w0.alloc (.cells #[.string ⟨#[100,105,115,116,105,110,99,116]⟩] 9))):=kV [dN] _ _ _ _ (Ss.made w0 [dN] _ rfl aj) aj;unfold nC at KN;have HAT:=zq KN;clear KN;go_enter func56,ntmps56
 go_wp2_with (first
  | ((with_reducible refine HAT.out.mono ?_);rintro e w1 ⟨A3,n3,cap3,L3,rfl,hK,Tz⟩;have HK:=zq (lI.since (Ev.alloc w0 _) hK);have rO:=zq Tz;clear hK Tz p0 p1 p2 p3 p4 p5 p6 p7;obtain⟨⟨p0,p1,p2,p3,p4,p5,p6,p7⟩,_⟩:=(HX.out.ev HK.out.ev).eight))
 have qA:Hid (L3.length<=30000):=zq (by have:=congrArg List.length rO.out;simp at this;omega);obtain⟨hd,tN⟩:∃hd,hd=L3.map M.t:=⟨_,rfl⟩
 have BX:Hid (R=bU (hd++m.kids.map λx=>aH x.p)):=zq (by rw[Eo.out,tN,rO.out]);have wX:=zq tN;clear tN
 go_loopw [3,93] (λkv iv wr=>∃(A1:Option Addr) (n1 cap1 j:Nat) (L:List M),kv=.slice A1 n1 cap1/\iv=↑j/\j<=m.kids.length/\Hid (lI w0 A1 n1 cap1 L wr)/\Hid (L.map M.t=hd++(m.kids.take j).map λx=>aH x.p)) (λ_ iv _=>m.kids.length - (intOf iv).toNat)
 case atStart=>exact⟨_,n3,cap3,0,L3,rfl,rfl,aww _,HK,zq (by rw[wX.out];simp)⟩
 case round=>
  obtain⟨A1,n1,cap1,j,L,rfl,rfl,hj,HS,HR⟩:=hrel;have ou:=zq (HE.out.trans HS.out.ev);by_cases hlt:j<m.kids.length;exact aya;exact ayg
end Go.Proofs.YtpbfokkocaemlaaGreatDoor
