import Derived.Test.YtpbfokkocaemlaaGreatDoorZ27S
set_option linter.unusedVariables false
set_option maxRecDepth 100000
set_option maxHeartbeats 64000000
namespace Go.Proofs.YtpbfokkocaemlaaGreatDoor
open Go.RowKit
open Go.Lib renaming hid → zq
theorem Tryz.Hm:(Tryz.prog.info? 54).map (fun i=>(i.zero,i.size,i.bytes))=some (some (.agg #[.string ⟨#[]⟩,.string ⟨#[]⟩,.string ⟨#[]⟩]),3,48):=by kernel_rfl
theorem Tryz.nI:Tryz.prog.underlying 29=some (.slice 54):=by kernel_rfl
def OJ (b:Nat) (v:Value) (w:World):Prop:=∃g c0 c1 c2,v=.pointer (some ⟨g,0,none⟩)∧Bx 54 g #[c0,c1,c2] w∧b≤g
theorem OJ.mono (b:Nat):rF (OJ b):=fun v w w' hE h=>by obtain⟨g,c0,c1,c2,e,hB,hb⟩:=h;exact⟨g,c0,c1,c2,e,hB.ev hE,hb⟩
def JA (gr b:Nat) (w w':World):Prop:=But [gr] w w'∨∃(g:Nat) (v0 v1 v2:Value),b≤g∧(∃c0 c1 c2,Bx 54 g #[c0,c1,c2] w)∧w'=wP g v0 v1 v2 w
theorem OJ.jump (gr b:Nat) (hg:gr<b):∀v w w',JA gr b w w'→OJ b v w→OJ b v w':=by rintro v w w' (hb|⟨g,v0,v1,v2,_,⟨c0,c1,c2,hB⟩,rfl⟩) ⟨g',d0,d1,d2,e,hB',hb'⟩;exact⟨g',d0,d1,d2,e,hB'.but hb (by simp;omega),hb'⟩;by_cases hgg:g'=g;subst hgg;exact⟨g',v0,v1,v2,e,hB'.wP _ _ _,hb'⟩;exact⟨g',d0,d1,d2,e,hB'.but (tY g v0 v1 v2 w) (by simp;exact hgg),hb'⟩
def BxA (b:Nat) (s f c:ByteArray) (v:Value) (w:World):Prop:=∃g,v=.pointer (some ⟨g,0,none⟩)∧Bx 54 g #[.string s,.string f,.string c] w∧b≤g
theorem BxA.mono (b:Nat) (s f c:ByteArray):rF (BxA b s f c):=fun v w w' hE h=>by obtain⟨g,e,hB,hb⟩:=h;exact⟨g,e,hB.ev hE,hb⟩
theorem LV {ρ:Operand→Value} {o:Oper} {w:World} (ho:o.op=.alloc 54):
  (execOp ρ o).run Tryz.prog w=.ok (.value (.pointer (some ⟨w.heap.size,0,none⟩))) (w.alloc (.cells #[.string ⟨#[]⟩,.string ⟨#[]⟩,.string ⟨#[]⟩] 54)):=by
 unfold execOp;rw[ho];simp[go_sem]
theorem ab3 {x:M} (h:dP x.t=true):x.kids.length=2∨x.kids.length=3:=by unfold dP at h;simp only[atu,atZ,atH]at h;have:=h.2;rwa [M.aY,atq]at this
theorem Nl {b0 gr:Nat} {w:World} {x:M} (h:Lies b0 [gr] w x) {b off:Nat} (hA:x.A=some ⟨b,off,none⟩) {i:Nat} {x2:M} (hx:x.kids[i]?=some x2):∀w1,But [gr] w w1→
  (w1.cell? ⟨b,off+i*5,none⟩=some (.int .i64 x2.kind)∧w1.cell? ⟨b,off+i*5+1,none⟩=some (.string ⟨x2.s.toArray⟩)∧w1.cell? ⟨b,off+i*5+2,none⟩=some (.int .i64 x2.n)∧w1.cell? ⟨b,off+i*5+3,none⟩=some (.slice x2.A x2.kids.length x2.cap)∧w1.cell? ⟨b,off+i*5+4,none⟩=some (.int .i64 (x2.pos:Int))):=by
 intro w1 hb;have hgb:b≠gr:=by
  cases h with
  | mk h1 h2 h3=>
   have:=(h2 _ hA).2.2;simpa using this
 have fA:=h.ms;rw[hA]at fA;exact Ms.pJ (fA.but hb fun ad e=>by cases e;simp;exact hgb) hx
structure LW (w0:World) (gr:Nat) (A1:Option Addr) (k cap1:Nat) (L:List Ag) (e:Er) (gb:Nat) (bc:Array Value) (g8:Nat) (ac8:Array Value) (w:World):Prop where
 st:yX 54 3 ac w0 gr A1 k cap1 L e w
 bx:Bx 101 gb bc w
 ba:Bx 54 g8 ac8 w
 nr:gb≠gr
 n8:g8≠gr
 lo:w0.heap.size≤g8
 ns:∀g,(Value.slice A1 k cap1).ownBlock=some g→g≠g8
theorem LW.through {w0 wr wq:World} {gr gb g8:Nat} {bc ac8:Array Value} {A1:Option Addr} {k cap1:Nat} {L:List Ag} {e e':Er} (h:LW w0 gr A1 k cap1 L e gb bc g8 ac8 wr) (hr:ig gr e' wr wq) (hg:gr<w0.heap.size):LW w0 gr A1 k cap1 L e' gb bc g8 ac8 wq:=
 ⟨⟨h.st.owq hr hg,h.st.len,h.st.rd.then hr⟩,h.bx.but hr.but (by simp;exact h.nr),h.ba.but hr.but (by simp;exact h.n8),h.nr,h.n8,h.lo,h.ns⟩
theorem LW.ev {w0 wr wq:World} {gr gb g8:Nat} {bc ac8:Array Value} {A1:Option Addr} {k cap1:Nat} {L:List Ag} {e:Er} (h:LW w0 gr A1 k cap1 L e gb bc g8 ac8 wr) (hE:Ev wr wq):LW w0 gr A1 k cap1 L e gb bc g8 ac8 wq:=
 ⟨⟨h.st.own.ev hE,h.st.len,h.st.rd.ev hE⟩,h.bx.ev hE,h.ba.ev hE,h.nr,h.n8,h.lo,h.ns⟩
theorem LW.store2 {w0 wr:World} {gr gb g8:Nat} {bc:Array Value} {v0 v1 v2:Value} {A1:Option Addr} {k cap1:Nat} {L:List Ag} {e:Er} (h:LW w0 gr A1 k cap1 L e gb bc g8 #[v0,v1,v2] wr) (v:Value):LW w0 gr A1 k cap1 L e gb bc g8 #[v0,v1,v] (wr.setCell ⟨g8,2,none⟩ v):=by
 have hb:But [g8] wr (wr.setCell ⟨g8,2,none⟩ v):=But.setCell _ _ (by simp);by_cases hgb:gb=g8;exfalso;have h1:=h.bx.blk;rw[hgb,h.ba.blk]at h1;injection h1 with h1
 injection h1 with _ h2
 cases h2
 refine⟨⟨h.st.own.but hb (fun g hg=>by simp;exact h.ns g hg),h.st.len,h.st.rd.bx.but hb (by simp;exact fun e=>h.n8 e.symm),h.st.rd.but.trans hb fun y hy=>by simp at hy;subst hy;exact .inr h.lo⟩,h.bx.but hb (by simp;exact hgb),?_,h.nr,h.n8,h.lo,h.ns⟩;have:=h.ba.set 2 v;rw[show ((#[v0,v1,v2]:Array Value).setIfInBounds 2 v)=#[v0,v1,v] by simp]at this;exact this
theorem ayn {P:Prop} (h:P:=by refine aO fun a w c=>⟨(ay rfl),_,run_move _ rfl w,(c.was 0 rfl)⟩):P:=h
theorem awU {P:Prop} (h:P:=by
 refine aO fun a wq c=>⟨(ay rfl),.pointer (some ⟨gb,3,none⟩),?_,rfl⟩
 have bI:a.eval (.tmp 7)=.pointer (some ⟨gb,0,none⟩):=(c.was 7 rfl)
 generalize a.eval=ρ at bI⊢;simp[execOp,bI,go_sem]):P:=h
theorem axw {P:Prop} (h:P:=by have hc:=(c.inv.F8 (p:=⟨gb,3,none⟩) hlA (by simp;omega)).trans d3;generalize a.eval=ρ at bI⊢;simp[execOp,bI,hc,go_sem]):P:=h
theorem ab4 (gr:Nat) (e:Er) (l:List M) (A:Option Addr) (n cap b0:Nat) (w:World) (hB:Rb gr e w) (h:Ms w A n cap l) (hr:QI b0 [gr] w A) (hn:n≤10000) (hagg:∀x∈l,dP x.t=true) (hlies:∀x∈l,Lies b0 [gr] w x):
  Calls Tryz.prog 118 #[.pointer (some ⟨gr,0,none⟩),.slice A n cap] w fun r w'=>∃x:eU Ag,r=.returned x.v∧x.l=l.map (fun x=>jQ x.t)∧aX 3 ac w.heap.size [] w' x∧ig gr (fB e (aQ (l.flatMap fun x=>dQ x.t))) w w':=by
 have fJ:Tryz.prog.follows .mixedOrders=true:=by kernel_rfl
 have hcl:=h.le;have hcm:=h.max;have HL:=zq h.len;have hgr:=hB.lt;have jR:=zq (yX.start 54 3 ac hB);have CE:=zq (fun w1 (hb:But [gr] w w1)=>h.but hb fun ad e=>(hr ad e).2.2);have HRN:=zq (fun m e w1 hB=>Hf gr e m w1 hB);have HRF:=zq (fun e pos w1 hB=>He gr e 12 pos (by decide) w1 hB);have HIF:=zq (fun s o w1=>LM s o w1);have AO:=zq (fun x hx w1 (hb:But [gr] w w1)=>(hlies x hx).move hb fun _ hy=>.inl hy);have ak0:=zq hagg;clear hB h hr hagg hlies;go_enter Tryz.func118,Tryz.ntmps118;go_wp2
 go_loopw [5,11] (fun av iv wr=>∃(A1:Option Addr) (cap1 k:Nat) (E:Er),av=.slice A1 k cap1∧iv=.int .i64 (k:Int)∧k≤n∧Hid (E=(((l.take k).flatMap fun x=>dQ x.t).foldl fB e))∧Hid (yX 54 3 ac w gr A1 k cap1 ((l.take k).map fun x=>jQ x.t) E wr)) (fun _ iv _=>n - (intOf iv).toNat)
 case atStart=>exact⟨none,0,0,e,rfl,rfl,atG _,zq rfl,jR⟩
 case round=>
  obtain⟨A1,cap1,k,E,rfl,rfl,hk,ZB,HS⟩:=hrel;by_cases hlt:k<n
  ·obtain⟨x,hx⟩:=(CE.out w (But.refl _ _)).at hlt;have iF:=atw hx;obtain⟨b,off,rfl,hb,c0,c1,c2,c3,c4⟩:=Ms.cell (CE.out wr HS.out.rd.but) hx;unfold M.kv at c3;have agV:=ab3 (ak0.out x iF);have agW:=(AO.out x iF w (But.refl _ _)).ms.le;have hcapm:x.cap≤9223372036854775807:=(AO.out x iF w (But.refl _ _)).ms.max;obtain⟨b',off',x0,x1,ZL,hx0,hx1,hKC⟩:=QZ (AO.out x iF w (But.refl _ _)) (n:=x.kids.length - 2) (by omega);have lu:=zq hKC;have HK2:=zq (fun x2 (h2:x.kids[2]?=some x2)=>Nl (AO.out x iF w (But.refl _ _)) ZL h2);have HX0:=zq hx0;have Qy:=zq hx1;have HX:=zq hx;rw[ZL]at c3;obtain⟨kn,hkn⟩:∃kn,kn=x.kids.length:=⟨_,rfl⟩
   rw[←hkn]at c3 agW agV;have lJ:=zq hkn;have hb8:Bx 101 wr.heap.size #[.int .i64 x.kind,.string ⟨x.s.toArray⟩,.int .i64 x.n,.slice (some ⟨b',off',none⟩) kn x.cap,.int .i64 (x.pos:Int)] (wr.alloc (.cells #[.int .i64 x.kind,.string ⟨x.s.toArray⟩,.int .i64 x.n,.slice (some ⟨b',off',none⟩) kn x.cap,.int .i64 (x.pos:Int)] 101)):=Bx.new _ _ _;have hEb:=Ev.alloc wr (.cells #[.int .i64 x.kind,.string ⟨x.s.toArray⟩,.int .i64 x.n,.slice (some ⟨b',off',none⟩) kn x.cap,.int .i64 (x.pos:Int)] 101);have hsb:(wr.alloc (.cells #[.int .i64 x.kind,.string ⟨x.s.toArray⟩,.int .i64 x.n,.slice (some ⟨b',off',none⟩) kn x.cap,.int .i64 (x.pos:Int)] 101)).heap.size=wr.heap.size+1:=by simp
   have HEB:=zq hEb;have i1:(0:Int)≤(k:Int):=by omega
   have i2:(k:Int)<(n:Int):=by omega
   have i3:(0:Int)<(kn:Int):=by omega
   have i4:(1:Int)<(kn:Int):=by omega
   have n0:¬kn=0:=by omega
   have hgw:gr<wr.heap.size:=HS.out.rd.bx.lt;have hww:=HS.out.rd.but.size;have Xo:b'<w.heap.size∧b'≠gr:=by
    have h1:=AO.out x iF w (But.refl _ _)
    cases h1 with
    | mk h1 h2 h3=>
     have:=h2 _ ZL;exact⟨this.2.1,by simpa using this.2.2⟩
   clear hx iF hx0 hx1 ZL hKC hkn hb hEb;go_upto_region 5 with fail
   generalize yE:wr.alloc (.cells #[.int .i64 x.kind,.string ⟨x.s.toArray⟩,.int .i64 x.n,.slice (some ⟨b',off',none⟩) kn x.cap,.int .i64 (x.pos:Int)] 101)=wA at*;clear yE c0 c1 c2 c3 c4;have HB8:=zq hb8;have HSB:=zq hsb;obtain⟨⟨d0,d1,d2,d3,d4⟩,_⟩:=hb8.five;have WQ:But [gr] w wA:=HS.out.rd.but.then (But.aS HEB.out);obtain⟨⟨k0,k1,k2,k3,k4⟩,j0,j1,j2,j3,j4⟩:=lu.out _ WQ;have hlA:=HB8.out.lt;have hszA:=WQ.size;generalize hgb:wr.heap.size=gb at*;clear hb8 hsb WQ;refine EK fJ (fun u=>But [gr] wA u) (JA gr (gb+1)) [5,13] (fun p u=>Rb gr (if p=0 then E else fB E (bn x0.t)) u) 13 12 8 (BxA (gb+1) ⟨x0.s.toArray⟩ ⟨x1.s.toArray⟩ ⟨#[]⟩) [fun v _=>v=.pointer (some ⟨gr,0,none⟩),fun v _=>v=.pointer (some ⟨gb,3,none⟩),fun v _=>v=.slice (some ⟨b',off',none⟩) kn x.cap,fun v _=>v=.pointer (some ⟨b',off',none⟩),fun v _=>v=.agg #[.int .i64 x0.kind,.string ⟨x0.s.toArray⟩,.int .i64 x0.n,.slice x0.A x0.kids.length x0.cap,.int .i64 (x0.pos:Int)],fun v _=>v=.string ⟨x0.s.toArray⟩,fun v _=>v=.pointer (some ⟨gb,3,none⟩),fun v _=>v=.slice (some ⟨b',off',none⟩) kn x.cap,fun v _=>v=.pointer (some ⟨b',off'+5,none⟩),fun v _=>v=.pointer (some ⟨b',off'+5+1,none⟩),fun v _=>v=.string ⟨x1.s.toArray⟩,fun v _=>v=.agg #[.string ⟨x0.s.toArray⟩,.string ⟨x1.s.toArray⟩,.string ⟨#[]⟩],OJ (gb+1),fun _ _=>True]
    59 2 1 rfl (by kernel_rfl) ⟨az _,az _,az _,az _,az _,az _,az _,az _,az _,az _,az _,az _,OJ.mono _,eG,trivial⟩ ⟨fun _ _ _ _ h=>h,fun _ _ _ _ h=>h,fun _ _ _ _ h=>h,fun _ _ _ _ h=>h,fun _ _ _ _ h=>h,fun _ _ _ _ h=>h,fun _ _ _ _ h=>h,fun _ _ _ _ h=>h,fun _ _ _ _ h=>h,fun _ _ _ _ h=>h,fun _ _ _ _ h=>h,fun _ _ _ _ h=>h,OJ.jump _ _ (by omega),fun _ _ _ _ h=>h,trivial⟩ (by kernel_rfl) (fun p u u' hE h=>h.ev hE) (fun u u' hE h=>h.then (But.aS hE)) (But.refl _ _) (HS.out.rd.bx.ev HEB.out) (by kernel_rfl) (BxA.mono _ _ _ _) rfl rfl _ rfl (by kernel_rfl) (by kernel_rfl) ?_ ?_ ?_ ?_
   ·refine aI 0 ?_ (aI 1 ?_ (aI 2 ?_ (aI 3 ?_ (aI 4 ?_ (cu 5 (by decide) (aI 6 ?_ (aI 7 ?_ (aI 8 ?_ (aI 9 ?_ (aI 10 ?_ (aI 11 ?_ (aI 12 ?_ (cu 13 (by decide) (oL 14))))))))))))));exact ayn;exact awU;refine aO fun a wq c=>⟨(ay rfl),.slice (some ⟨b',off',none⟩) kn x.cap,?_,rfl⟩
    have bI:a.eval (.tmp 16)=.pointer (some ⟨gb,3,none⟩):=(c.new 1 16)
    exact axw
    ·refine aO fun a wq c=>⟨(ay rfl),.pointer (some ⟨b',off',none⟩),?_,rfl⟩
     have bI:a.eval (.tmp 17)=.slice (some ⟨b',off',none⟩) kn x.cap:=(c.new 2 17)
     have uf:a.eval (.const (.int .i64 0))=.int .i64 0:=rfl;generalize a.eval=ρ at bI uf⊢;simp[execOp,bI,uf,go_sem,n0]
    ·refine aO fun a wq c=>⟨(ay rfl),.agg #[.int .i64 x0.kind,.string ⟨x0.s.toArray⟩,.int .i64 x0.n,.slice x0.A x0.kids.length x0.cap,.int .i64 (x0.pos:Int)],?_,rfl⟩
     have bI:a.eval (.tmp 18)=.pointer (some ⟨b',off',none⟩):=(c.new 3 18)
     have q0:=(c.inv.F8 (p:=⟨b',off',none⟩) (by show b'<_;omega) (by simp;exact Xo.2)).trans k0;have q1:=(c.inv.F8 (p:=⟨b',off'+1,none⟩) (by show b'<_;omega) (by simp;exact Xo.2)).trans k1;have q2:=(c.inv.F8 (p:=⟨b',off'+2,none⟩) (by show b'<_;omega) (by simp;exact Xo.2)).trans k2;have q3:=(c.inv.F8 (p:=⟨b',off'+3,none⟩) (by show b'<_;omega) (by simp;exact Xo.2)).trans k3;have q4:=(c.inv.F8 (p:=⟨b',off'+4,none⟩) (by show b'<_;omega) (by simp;exact Xo.2)).trans k4;generalize a.eval=ρ at bI⊢;simp[execOp,bI,q0,q1,q2,q3,q4,go_sem]
    exact awU;refine aO fun a wq c=>⟨(ay rfl),.slice (some ⟨b',off',none⟩) kn x.cap,?_,rfl⟩
    have bI:a.eval (.tmp 21)=.pointer (some ⟨gb,3,none⟩):=(c.new 6 21)
    exact axw
    ·refine aO fun a wq c=>⟨(ay rfl),.pointer (some ⟨b',off'+5,none⟩),?_,rfl⟩
     have bI:a.eval (.tmp 22)=.slice (some ⟨b',off',none⟩) kn x.cap:=(c.new 7 22)
     have uf:a.eval (.const (.int .i64 1))=.int .i64 1:=rfl;generalize a.eval=ρ at bI uf⊢;simp[execOp,bI,uf,go_sem,i4]
    ·refine aO fun a wq c=>⟨(ay rfl),.pointer (some ⟨b',off'+5+1,none⟩),?_,rfl⟩
     have bI:a.eval (.tmp 23)=.pointer (some ⟨b',off'+5,none⟩):=(c.new 8 23)
     generalize a.eval=ρ at bI⊢;simp[execOp,bI,go_sem]
    ·refine aO fun a wq c=>⟨(ay rfl),.string ⟨x1.s.toArray⟩,?_,rfl⟩
     have bI:a.eval (.tmp 24)=.pointer (some ⟨b',off'+5+1,none⟩):=(c.new 9 24)
     have hc:=(c.inv.F8 (p:=⟨b',off'+5+1,none⟩) (by show b'<_;omega) (by simp;exact Xo.2)).trans j1;generalize a.eval=ρ at bI⊢;simp[execOp,bI,hc,go_sem]
    ·refine aO fun a wq c=>⟨(ay rfl),.agg #[.string ⟨x0.s.toArray⟩,.string ⟨x1.s.toArray⟩,.string ⟨#[]⟩],?_,rfl⟩
     have bI:a.eval (.tmp 20)=.string ⟨x0.s.toArray⟩:=(c.new 5 20)
     have nz:a.eval (.tmp 25)=.string ⟨x1.s.toArray⟩:=(c.new 10 25)
     generalize a.eval=ρ at bI nz⊢;simp[execOp,bI,nz,go_sem]
    refine Nk fun a wq c=>⟨(ay rfl),_,_,LV rfl,Ev.alloc _ _,c.inv.then (But.aS (Ev.alloc _ _)),⟨wq.heap.size,_,_,_,rfl,Bx.new _ _ _,by have:=c.inv.size;have:=HSB.out;omega⟩⟩
   refine ZQ 0 rfl ?_ (ZP 1);refine l9 fun a wq c st=>⟨ay rfl,113,#[.pointer (some ⟨gr,0,none⟩),.agg #[.int .i64 x0.kind,.string ⟨x0.s.toArray⟩,.int .i64 x0.n,.slice x0.A x0.kids.length x0.cap,.int .i64 (x0.pos:Int)]],?_,?_⟩
   rw[bP 113 _ _ rfl (by kernel_rfl)];have bI:a.eval (.tmp 15)=.pointer (some ⟨gr,0,none⟩):=(c.new 0 15)
   have nz:a.eval (.tmp 19)=.agg #[.int .i64 x0.kind,.string ⟨x0.s.toArray⟩,.int .i64 x0.n,.slice x0.A x0.kids.length x0.cap,.int .i64 (x0.pos:Int)]:=(c.new 4 19)
   simp[bI,nz];refine (HRN.out x0 E wq st).mono ?_;rintro r wp ⟨rfl,hR⟩;exact⟨_,rfl,.inl hR.but,c.inv.then hR.but,hR.bx,rfl⟩
   ·refine⟨rfl,fun a wq c st=>?_⟩;obtain⟨g_,z0,z1,z2,eg_,hB_,Jn⟩:=(c.got 12 8 (by kernel_rfl) (by kernel_rfl) rfl:OJ _ _ _)
    have agZ:a.eval (.tmp 26)=.agg #[.string ⟨x0.s.toArray⟩,.string ⟨x1.s.toArray⟩,.string ⟨#[]⟩]:=(c.new 11 26)
    obtain⟨⟨z0_,z1_,z2_⟩,y0_,y1_,y2_⟩:=hB_.three;refine⟨ay rfl,wP g_ (.string ⟨x0.s.toArray⟩) (.string ⟨x1.s.toArray⟩) (.string ⟨#[]⟩) wq,?_,.inr ⟨g_,_,_,_,Jn,⟨_,_,_,hB_⟩,rfl⟩,c.inv.trans (tY _ _ _ _ _) (fun y hy=>by simp at hy;subst hy;exact .inr (by have:=HSB.out;omega)),st.but (tY _ _ _ _ _) (by simp;omega),trivial,⟨g_,eg_,hB_.wP _ _ _,Jn⟩⟩;generalize a.eval=ρ at eg_ agZ⊢;simp[execOp,eg_,agZ,go_sem,z0_,z1_,z2_,y0_,y1_,y2_,wP]
   intro sl wB hI hold hnew hst o9;obtain⟨g8,f8,BA,hb8⟩:=o9;have f0:sl 0=.pointer (some ⟨gr,0,none⟩):=hold 0;have f1:sl 1=.slice (some ⟨b,off,none⟩) n cap:=hold 1;have f2:sl 2=undef:=hold 2;have f3:sl 3=undef:=hold 3;have f4:sl 4=.slice none 0 0:=hold 4;have f5:sl 5=.slice A1 k cap1:=hold 5;have f6:sl 6=undef:=hold 6;have f7:sl 7=.pointer (some ⟨gb,0,none⟩):=hold 7;have f9:sl 9=.slice (some ⟨b,off,none⟩) n cap:=hold 9;have f10:sl 10=.int .i64 (n:Int):=hold 10;have f11:sl 11=.int .i64 (k:Int):=hold 11;have f12:sl 12=.bool true:=hold 12;have f13:sl 13=.pointer (some ⟨b,off+k*5,none⟩):=hold 13;have f14:sl 14=.agg #[.int .i64 x.kind,.string ⟨x.s.toArray⟩,.int .i64 x.n,.slice (some ⟨b',off',none⟩) kn x.cap,.int .i64 (x.pos:Int)]:=hold 14;have f27:sl 27=u27:=hold 27;have f28:sl 28=u28:=hold 28;have f29:sl 29=u29:=hold 29;have f30:sl 30=u30:=hold 30;have f31:sl 31=u31:=hold 31;have f32:sl 32=u32:=hold 32;have f33:sl 33=u33:=hold 33;have f34:sl 34=u34:=hold 34;have f35:sl 35=u35:=hold 35;have f36:sl 36=u36:=hold 36;have f37:sl 37=u37:=hold 37;have f38:sl 38=u38:=hold 38;have f39:sl 39=u39:=hold 39;have f40:sl 40=u40:=hold 40;have f41:sl 41=u41:=hold 41;have f42:sl 42=u42:=hold 42;have f43:sl 43=u43:=hold 43;have f44:sl 44=u44:=hold 44;have f45:sl 45=u45:=hold 45;have f46:sl 46=u46:=hold 46;have f47:sl 47=u47:=hold 47;have f48:sl 48=u48:=hold 48;have f49:sl 49=u49:=hold 49;have f50:sl 50=u50:=hold 50;have f51:sl 51=u51:=hold 51;have f52:sl 52=u52:=hold 52;have f53:sl 53=u53:=hold 53;have f54:sl 54=u54:=hold 54;have f55:sl 55=u55:=hold 55;have f56:sl 56=u56:=hold 56;have f57:sl 57=u57:=hold 57;have f58:sl 58=undef:=hold 58;change Exit.then _ _ .normal ⟨_,_⟩ _;simp only[List.range,List.range.loop,List.map];simp only[f8,f0,f1,f2,f3,f4,f5,f6,f7,f9,f10,f11,f12,f13,f14,f27,f28,f29,f30,f31,f32,f33,f34,f35,f36,f37,f38,f39,f40,f41,f42,f43,f44,f45,f46,f47,f48,f49,f50,f51,f52,f53,f54,f55,f56,f57,f58];clear hold hnew;have jZ:ig gr (fB E (bn x0.t)) wA wB:=⟨hst,hI⟩
   have hLA:yX 54 3 ac w gr A1 k cap1 ((l.take k).map fun x=>jQ x.t) E wA:=⟨HS.out.own.ev HEB.out,HS.out.len,HS.out.rd.ev HEB.out⟩
   have hAG:LW w gr A1 k cap1 ((l.take k).map fun x=>jQ x.t) (fB E (bn x0.t)) gb #[.int .i64 x.kind,.string ⟨x.s.toArray⟩,.int .i64 x.n,.slice (some ⟨b',off',none⟩) kn x.cap,.int .i64 (x.pos:Int)] g8 #[.string ⟨x0.s.toArray⟩,.string ⟨x1.s.toArray⟩,.string ⟨#[]⟩] wB:=
    ⟨⟨hLA.owq jZ hgr,hLA.len,hLA.rd.then jZ⟩,HB8.out.but hI (by simp;omega),BA,by omega,by omega,by omega,fun g hg=>by have:=(HS.out.own.lt hg).2;omega⟩
   have DX:=zq hAG;have pI:Hid ((l.take (k+1)).map (fun x=>jQ x.t)=(l.take k).map (fun x=>jQ x.t)++[jQ x.t]∧((l.take (k+1)).flatMap fun x=>dQ x.t).foldl fB e=(dQ x.t).foldl fB E):=zq (by
    obtain⟨hk2,e1⟩:=atr.1 HX.out;rw[atD hk2,e1,atB,avb,auW,←ZB.out];simp only[atx,atQ,auN,List.flatMap_nil,auX];refine⟨?_,?_⟩<;>first|rfl|trivial)
   have iQ:=zq HS.out.len;clear hst hI jZ hLA hAG BA d0 d1 d2 d3 d4 k0 k1 k2 k3 k4 j0 j1 j2 j3 j4;obtain⟨⟨SY,S_,Tc⟩,xO,xP,xQ⟩:=DX.out.ba.three;obtain⟨⟨d0,d1,d2,d3,d4⟩,_⟩:=DX.out.bx.five;obtain⟨⟨k0,k1,k2,k3,k4⟩,j0,j1,j2,j3,j4⟩:=lu.out _ DX.out.st.rd.but;rcases agV with h23|h23
   ·subst h23;have HAO:Hid (jQ x.t=(x0.s,x1.s,[])):=zq (by unfold jQ;rw[M.aY,Bq _ _ _ HX0.out,Bq _ _ _ Qy.out,M.tu,M.tu,atq,←lJ.out];rfl);have HAE:Hid (dQ x.t=[bn x0.t,if isFun x1.s false then (0,0) else (12,x1.pos),(0,0)]):=zq (by unfold dQ;rw[M.aY,Bq _ _ _ HX0.out,Bq _ _ _ Qy.out,M.tu,M.Ff,atq,←lJ.out];rfl);have HI:=zq (HIF.out x1.s false);generalize isFun x1.s false=q at*
    cases q
    ·go_wp2_with (first
      | ((with_reducible refine (HI.out _).mono ?_);rintro r w1 ⟨rfl,aH⟩;have qo:=zq (DX.out.ev aH);clear SY S_ Tc xO xP xQ d0 d1 d2 d3 d4 k0 k1 k2 k3 k4 j0 j1 j2 j3 j4;obtain⟨⟨SY,S_,Tc⟩,xO,xP,xQ⟩:=qo.out.ba.three;obtain⟨⟨d0,d1,d2,d3,d4⟩,_⟩:=qo.out.bx.five;obtain⟨⟨k0,k1,k2,k3,k4⟩,j0,j1,j2,j3,j4⟩:=lu.out _ qo.out.st.rd.but)
      | ((with_reducible refine (HRF.out _ x1.pos _ qo.out.st.rd.bx).mono ?_);rintro r w2 ⟨rfl,hR⟩;have Dq:=zq (qo.out.through hR hgr);clear hR;clear SY S_ Tc xO xP xQ d0 d1 d2 d3 d4 k0 k1 k2 k3 k4 j0 j1 j2 j3 j4;obtain⟨⟨SY,S_,Tc⟩,xO,xP,xQ⟩:=Dq.out.ba.three;obtain⟨⟨d0,d1,d2,d3,d4⟩,_⟩:=Dq.out.bx.five;obtain⟨⟨k0,k1,k2,k3,k4⟩,j0,j1,j2,j3,j4⟩:=lu.out _ Dq.out.st.rd.but)
      | ((show wpList _ _ _ (⟨some 56,_,_,_,_,_⟩::_) _ _);refine aK (o:=⟨some 56,_,_,_,_,_⟩) rfl 29 (.tmp 53) (.tmp 55) rfl yT Tryz.nI Tryz.Hm rfl rfl (Dq.out.st.own.ev (Ev.alloc w2 _)) (some ⟨w2.heap.size,0,none⟩) 1 1 [(x0.s,x1.s,[])] rfl (Sl.one (et:=54) yT w2 (x0.s,x1.s,[]) _ rfl) (by rw[iQ.out];simp;omega) (by rw[iQ.out];simp;omega) (atP Dq.out.st.rd.but.size (Ev.alloc w2 _).size) ?_;intro v2 w7 gz;obtain⟨A2,cap2,rfl,ST2⟩:=Dq.out.st.next yT (ig.of Dq.out.st.rd.bx (Ev.alloc w2 _)) hgr gz))
     go_roundw
     case rel=>exact⟨A2,cap2,k+1,fB (fB E (bn x0.t)) (12,x1.pos),rfl,by go_num,by omega,zq (by rw[pI.out.2,HAE.out];simp[wR]),zq (by rw[pI.out.1,HAO.out];exact ST2)⟩
     case measure=>simp[intOf];omega
    go_wp2_with (first
     | ((with_reducible refine (HI.out _).mono ?_);rintro r w1 ⟨rfl,aH⟩;have qo:=zq (DX.out.ev aH);clear SY S_ Tc xO xP xQ d0 d1 d2 d3 d4 k0 k1 k2 k3 k4 j0 j1 j2 j3 j4;obtain⟨⟨SY,S_,Tc⟩,xO,xP,xQ⟩:=qo.out.ba.three;obtain⟨⟨d0,d1,d2,d3,d4⟩,_⟩:=qo.out.bx.five;obtain⟨⟨k0,k1,k2,k3,k4⟩,j0,j1,j2,j3,j4⟩:=lu.out _ qo.out.st.rd.but)
     | ((show wpList _ _ _ (⟨some 56,_,_,_,_,_⟩::_) _ _);refine aK (o:=⟨some 56,_,_,_,_,_⟩) rfl 29 (.tmp 53) (.tmp 55) rfl yT Tryz.nI Tryz.Hm rfl rfl (qo.out.st.own.ev (Ev.alloc w1 _)) (some ⟨w1.heap.size,0,none⟩) 1 1 [(x0.s,x1.s,[])] rfl (Sl.one (et:=54) yT w1 (x0.s,x1.s,[]) _ rfl) (by rw[iQ.out];simp;omega) (by rw[iQ.out];simp;omega) (atP qo.out.st.rd.but.size (Ev.alloc w1 _).size) ?_;intro v2 w7 gz;obtain⟨A2,cap2,rfl,ST2⟩:=qo.out.st.next yT (ig.of qo.out.st.rd.bx (Ev.alloc w1 _)) hgr gz))
    go_roundw
    case rel=>exact⟨A2,cap2,k+1,fB E (bn x0.t),rfl,by go_num,by omega,zq (by rw[pI.out.2,HAE.out];simp[wR]),zq (by rw[pI.out.1,HAO.out];exact ST2)⟩
    case measure=>simp[intOf];omega
   subst h23;obtain⟨x2,hx2⟩:∃x2,x.kids[2]?=some x2:=⟨_,atN (by have:=lJ.out;omega)⟩
   have HX2:=zq hx2;have ZR:=zq (HK2.out x2 hx2);simp only[show 2*5=10 from rfl]at ZR;clear hx2;have i5:(3:Int)≤(x.cap:Int):=by omega
   have HAO:Hid (jQ x.t=(x0.s,x1.s,x2.s)):=zq (by unfold jQ;rw[M.aY,Bq _ _ _ HX0.out,Bq _ _ _ Qy.out,M.tu,M.tu,atq,←lJ.out];rw[Bq _ _ _ HX2.out,M.tu];rfl);have HAE:Hid (dQ x.t=[bn x0.t,if isFun x1.s true then (0,0) else (12,x1.pos),bn x2.t]):=zq (by unfold dQ;rw[M.aY,Bq _ _ _ HX0.out,Bq _ _ _ Qy.out,M.tu,M.Ff,atq,←lJ.out];rw[Bq _ _ _ HX2.out];rfl);have HI:=zq (HIF.out x1.s true);generalize isFun x1.s true=q at*
   cases q
   ·have HNM:=zq (fun e1 w9 hB9=>HRN.out x2 e1 w9 hB9);obtain⟨m0,m1,m2,m3,m4⟩:=ZR.out _ DX.out.st.rd.but
    go_wp2_with (first
     | ((with_reducible refine (HI.out _).mono ?_);rintro r w1 ⟨rfl,aH⟩;have qo:=zq (DX.out.ev aH);clear SY S_ Tc xO xP xQ d0 d1 d2 d3 d4 k0 k1 k2 k3 k4 j0 j1 j2 j3 j4;obtain⟨⟨SY,S_,Tc⟩,xO,xP,xQ⟩:=qo.out.ba.three;obtain⟨⟨d0,d1,d2,d3,d4⟩,_⟩:=qo.out.bx.five;obtain⟨⟨k0,k1,k2,k3,k4⟩,j0,j1,j2,j3,j4⟩:=lu.out _ qo.out.st.rd.but;clear m0 m1 m2 m3 m4;obtain⟨m0,m1,m2,m3,m4⟩:=ZR.out _ qo.out.st.rd.but)
     | ((with_reducible refine (HRF.out _ x1.pos _ qo.out.st.rd.bx).mono ?_);rintro r w2 ⟨rfl,hR⟩;have Dq:=zq (qo.out.through hR hgr);clear hR;clear SY S_ Tc xO xP xQ d0 d1 d2 d3 d4 k0 k1 k2 k3 k4 j0 j1 j2 j3 j4;obtain⟨⟨SY,S_,Tc⟩,xO,xP,xQ⟩:=Dq.out.ba.three;obtain⟨⟨d0,d1,d2,d3,d4⟩,_⟩:=Dq.out.bx.five;obtain⟨⟨k0,k1,k2,k3,k4⟩,j0,j1,j2,j3,j4⟩:=lu.out _ Dq.out.st.rd.but;clear m0 m1 m2 m3 m4;obtain⟨m0,m1,m2,m3,m4⟩:=ZR.out _ Dq.out.st.rd.but)
     | ((with_reducible refine (HNM.out _ _ Dq.out.st.rd.bx).mono ?_);rintro r w3 ⟨rfl,hR⟩;have Jo:=zq (Dq.out.through hR hgr);clear hR;clear SY S_ Tc xO xP xQ d0 d1 d2 d3 d4 k0 k1 k2 k3 k4 j0 j1 j2 j3 j4;obtain⟨⟨SY,S_,Tc⟩,xO,xP,xQ⟩:=Jo.out.ba.three;obtain⟨⟨d0,d1,d2,d3,d4⟩,_⟩:=Jo.out.bx.five;obtain⟨⟨k0,k1,k2,k3,k4⟩,j0,j1,j2,j3,j4⟩:=lu.out _ Jo.out.st.rd.but;clear m0 m1 m2 m3 m4;obtain⟨m0,m1,m2,m3,m4⟩:=ZR.out _ Jo.out.st.rd.but)
     | ((show wpList _ _ _ (⟨some 56,_,_,_,_,_⟩::_) _ _);have OL:=zq (Jo.out.store2 (.string ⟨x2.s.toArray⟩));refine aK (o:=⟨some 56,_,_,_,_,_⟩) rfl 29 (.tmp 53) (.tmp 55) rfl yT Tryz.nI Tryz.Hm rfl rfl (OL.out.st.own.ev (Ev.alloc _ _)) (some ⟨w3.heap.size,0,none⟩) 1 1 [(x0.s,x1.s,x2.s)] rfl (by have:=Sl.one (et:=54) yT (w3.setCell ⟨g8,2,none⟩ (.string ⟨x2.s.toArray⟩)) (x0.s,x1.s,x2.s) #[.string ⟨x0.s.toArray⟩,.string ⟨x1.s.toArray⟩,.string ⟨x2.s.toArray⟩] rfl;simpa[World.setCell] using this) (by rw[iQ.out];simp;omega) (by rw[iQ.out];simp;omega) (atP OL.out.st.rd.but.size (Ev.alloc _ _).size) ?_;intro v2 w7 gz;obtain⟨A2,cap2,rfl,ST2⟩:=OL.out.st.next yT (ig.of OL.out.st.rd.bx (Ev.alloc _ _)) hgr gz))
    go_roundw
    case rel=>exact⟨A2,cap2,k+1,fB (fB (fB E (bn x0.t)) (12,x1.pos)) (bn x2.t),rfl,by go_num,by omega,zq (by rw[pI.out.2,HAE.out];simp),zq (by rw[pI.out.1,HAO.out];exact ST2)⟩
    case measure=>simp[intOf];omega
   have HNM:=zq (fun e1 w9 hB9=>HRN.out x2 e1 w9 hB9);obtain⟨m0,m1,m2,m3,m4⟩:=ZR.out _ DX.out.st.rd.but
   go_wp2_with (first
    | ((with_reducible refine (HI.out _).mono ?_);rintro r w1 ⟨rfl,aH⟩;have qo:=zq (DX.out.ev aH);clear SY S_ Tc xO xP xQ d0 d1 d2 d3 d4 k0 k1 k2 k3 k4 j0 j1 j2 j3 j4;obtain⟨⟨SY,S_,Tc⟩,xO,xP,xQ⟩:=qo.out.ba.three;obtain⟨⟨d0,d1,d2,d3,d4⟩,_⟩:=qo.out.bx.five;obtain⟨⟨k0,k1,k2,k3,k4⟩,j0,j1,j2,j3,j4⟩:=lu.out _ qo.out.st.rd.but;clear m0 m1 m2 m3 m4;obtain⟨m0,m1,m2,m3,m4⟩:=ZR.out _ qo.out.st.rd.but)
    | ((with_reducible refine (HNM.out _ _ qo.out.st.rd.bx).mono ?_);rintro r w3 ⟨rfl,hR⟩;have Jo:=zq (qo.out.through hR hgr);clear hR;clear SY S_ Tc xO xP xQ d0 d1 d2 d3 d4 k0 k1 k2 k3 k4 j0 j1 j2 j3 j4;obtain⟨⟨SY,S_,Tc⟩,xO,xP,xQ⟩:=Jo.out.ba.three;obtain⟨⟨d0,d1,d2,d3,d4⟩,_⟩:=Jo.out.bx.five;obtain⟨⟨k0,k1,k2,k3,k4⟩,j0,j1,j2,j3,j4⟩:=lu.out _ Jo.out.st.rd.but;clear m0 m1 m2 m3 m4;obtain⟨m0,m1,m2,m3,m4⟩:=ZR.out _ Jo.out.st.rd.but)
    | ((show wpList _ _ _ (⟨some 56,_,_,_,_,_⟩::_) _ _);have OL:=zq (Jo.out.store2 (.string ⟨x2.s.toArray⟩));refine aK (o:=⟨some 56,_,_,_,_,_⟩) rfl 29 (.tmp 53) (.tmp 55) rfl yT Tryz.nI Tryz.Hm rfl rfl (OL.out.st.own.ev (Ev.alloc _ _)) (some ⟨w3.heap.size,0,none⟩) 1 1 [(x0.s,x1.s,x2.s)] rfl (by have:=Sl.one (et:=54) yT (w3.setCell ⟨g8,2,none⟩ (.string ⟨x2.s.toArray⟩)) (x0.s,x1.s,x2.s) #[.string ⟨x0.s.toArray⟩,.string ⟨x1.s.toArray⟩,.string ⟨x2.s.toArray⟩] rfl;simpa[World.setCell] using this) (by rw[iQ.out];simp;omega) (by rw[iQ.out];simp;omega) (atP OL.out.st.rd.but.size (Ev.alloc _ _).size) ?_;intro v2 w7 gz;obtain⟨A2,cap2,rfl,ST2⟩:=OL.out.st.next yT (ig.of OL.out.st.rd.bx (Ev.alloc _ _)) hgr gz))
   go_roundw
   case rel=>exact⟨A2,cap2,k+1,fB (fB E (bn x0.t)) (bn x2.t),rfl,by go_num,by omega,zq (by rw[pI.out.2,HAE.out];simp[wR]),zq (by rw[pI.out.1,HAO.out];exact ST2)⟩
   case measure=>simp[intOf];omega
  obtain rfl:k=n:=by omega
  have HF:Hid ((l.take k).map (fun x=>jQ x.t)=l.map (fun x=>jQ x.t)∧E=fB e (aQ (l.flatMap fun x=>dQ x.t))):=zq (by
   have h1:=ZB.out;rw[atJ (by rw[HL.out];exact att _)]at h1⊢;exact⟨rfl,by rw[h1,iV]⟩)
  go_wp2;go_ret;obtain⟨x,hxv,iq,SK⟩:=HS.out.own.sle yT;rw[hxv];exact⟨x,rfl,by rw[iq,HF.out.1],SK,HF.out.2▸HS.out.rd⟩
theorem Tryz.l_:(Tryz.prog.info? 32).map (fun i=>(i.zero,i.size,i.bytes))=some (some (.agg #[.int .i64 0,.string ⟨#[]⟩,.slice none 0 0,.slice none 0 0,.slice none 0 0,.slice none 0 0,.slice none 0 0,.slice none 0 0]),8,168):=by kernel_rfl
theorem Tryz.bJ:(Tryz.prog.info? 32).map (·.size)=some 8:=by kernel_rfl
def qp (gr:Nat) (e:Er) (t:T) (w:World) (r:Ending) (w':World):Prop:=∃p:PM,r=.returned (.agg #[.int .i64 p.kind,.string ⟨p.name.toArray⟩,.slice p.ex.A p.ex.l.length p.ex.cap,.slice p.co.A p.co.l.length p.co.cap,.slice p.lf.A p.lf.l.length p.lf.cap,.slice p.rt.A p.rt.l.length p.rt.cap,.slice p.ag.A p.ag.l.length p.ag.cap,.slice p.A p.kids.length p.cap])∧p.p=pPlan t∧Qx w.heap.size [] w' p∧ig gr (fB e (aZ t)) w w'
structure UJ (w0:World) (gr:Nat) (A:Option Addr) (n cap:Nat) (L:List PM) (e:Er) (w:World):Prop where
 st:yX 32 8 pc w0 gr A n cap L e w
 lies:∀x∈L,Qx w0.heap.size (foot (.slice A n cap)) w x
theorem UJ.start {w0:World} {gr:Nat} {e:Er} (hB:Rb gr e w0):UJ w0 gr none 0 0 [] e w0:=⟨yX.start _ _ _ hB,fun x hx=>by cases hx⟩
theorem UJ.next {w0 wr wp wq w2:World} {gr n cap:Nat} {A:Option Addr} {L:List PM} {e e':Er} {x:PM} {v2:Value} (h:UJ w0 gr A n cap L e wr) (hr:ig gr e' wr wq) (hg:gr<w0.heap.size) (hx:Qx wp.heap.size [] wq x) (hp:wr.heap.size≤wp.heap.size) (hA:mW 32 8 pc w0.heap.size wq (.slice A n cap) (L++[x]) v2 w2):
  ∃A2 cap2,v2=.slice A2 (n+1) cap2∧UJ w0 gr A2 (n+1) cap2 (L++[x]) e' w2:=by
 obtain⟨A2,cap2,hv,hS⟩:=h.st.next qU hr hg hA
 refine⟨A2,cap2,hv,hS,fun y hy=>?_⟩;subst hv;have hy2:Qx w0.heap.size (foot (.slice A n cap)) wq y:=by rcases atK.1 hy with h1|h1;refine ((h.lies y h1).less (K':=gr::foot (.slice A n cap)) fun z hz=>?_).move (hr.but.wide fun z hz=>.inl (by simp at hz;subst hz;exact atz ..)) fun z hz=>.inl (aty _ hz);rcases atA.1 hz with rfl|hz;exact .inr (.inl hg);exact .inl hz;simp at h1;subst h1;refine (hx.less fun k hk=>.inr (.inl ?_)).low (atP h.st.rd.but.size hp);exact atM (h.st.own.lt (aB.1 hk)).2 hp
 refine hy2.move hA.2.1 fun z hz=>?_;rcases hA.2.2 z (aB.1 hz) with h2|h2;exact .inl (aB.2 h2);exact .inr (.inr h2)
theorem xg (gr:Nat) (e:Er) (l:List M) (A:Option Addr) (n cap b0:Nat) (w:World) (hB:Rb gr e w) (h:Ms w A n cap l) (hr:QI b0 [gr] w A) (hn:n≤10000) (hp:∀x∈l,∀w1 e1,But [gr] w w1→Rb gr e1 w1→Calls Tryz.prog 58 #[.pointer (some ⟨gr,0,none⟩),.agg #[.int .i64 x.kind,.string ⟨x.s.toArray⟩,.int .i64 x.n,.slice x.A x.kids.length x.cap,.int .i64 (x.pos:Int)]] w1 (qp gr e1 x.t w1)):
  Calls Tryz.prog 115 #[.pointer (some ⟨gr,0,none⟩),.slice A n cap] w fun r w'=>∃x:eU PM,r=.returned x.v∧x.l.map PM.p=l.map (fun x=>pPlan x.t)∧aX 8 pc w.heap.size [] w' x∧(∀k∈x.l,Qx w.heap.size [] w' k)∧ig gr (fB e (aQ (l.map fun x=>aZ x.t))) w w':=by
 have hcl:=h.le;have hcm:=h.max;have HL:=zq h.len;have hgr:=hB.lt;have jR:=zq (UJ.start hB);have CE:=zq (fun w1 (hb:But [gr] w w1)=>h.but hb fun ad e=>(hr ad e).2.2);unfold qp at hp;have HP:=zq hp;clear hB h hr hp;go_enter Tryz.func115,Tryz.ntmps115;go_wp2
 go_loopw [5,10] (fun av iv wr=>∃(A1:Option Addr) (cap1 k:Nat) (E:Er) (L:List PM),av=.slice A1 k cap1∧iv=.int .i64 (k:Int)∧k≤n∧Hid (L.map PM.p=(l.take k).map fun x=>pPlan x.t)∧Hid (E=(((l.take k).map fun x=>aZ x.t).foldl fB e))∧Hid (UJ w gr A1 k cap1 L E wr)) (fun _ iv _=>n - (intOf iv).toNat)
 case atStart=>exact⟨none,0,0,e,[],rfl,rfl,atG _,zq rfl,zq rfl,jR⟩
 case round=>
  obtain⟨A1,cap1,k,E,L,rfl,rfl,hk,uS,ZB,HS⟩:=hrel;by_cases hlt:k<n
  ·obtain⟨x,hx⟩:=(CE.out w (But.refl _ _)).at hlt;obtain⟨b,off,rfl,hb,c0,c1,c2,c3,c4⟩:=Ms.cell (CE.out wr HS.out.st.rd.but) hx;unfold M.kv at c3;have pI:Hid ((l.take (k+1)).map (fun x=>pPlan x.t)=(l.take k).map (fun x=>pPlan x.t)++[pPlan x.t]∧((l.take (k+1)).map fun x=>aZ x.t).foldl fB e=fB E (aZ x.t)):=zq (by
    obtain⟨hk2,e1⟩:=atr.1 hx;rw[atD hk2,e1,atB,atB,auW,←ZB.out];exact⟨rfl,rfl⟩)
   have HN:=zq (HP.out x (atw hx) (wr.alloc (.cells #[.int .i64 x.kind,.string ⟨x.s.toArray⟩,.int .i64 x.n,.slice x.A x.kids.length x.cap,.int .i64 (x.pos:Int)] 101)) E (HS.out.st.rd.but.then (But.aS (Ev.alloc _ _))) (HS.out.st.rd.bx.ev (Ev.alloc _ _)));have iQ:=zq HS.out.st.len;have i1:(0:Int)≤(k:Int):=by omega
   have i2:(k:Int)<(n:Int):=by omega
   clear hx
   go_wp2_with (first
    | ((with_reducible refine (HN.out).mono ?_);rintro r w1 ⟨p,rfl,hpt,hpl,hR⟩;have HPT:=zq hpt;have HPL:=zq (hpl.ev (Ev.alloc w1 (.cells #[.int .i64 p.kind,.string ⟨p.name.toArray⟩,.slice p.ex.A p.ex.l.length p.ex.cap,.slice p.co.A p.co.l.length p.co.cap,.slice p.lf.A p.lf.l.length p.lf.cap,.slice p.rt.A p.rt.l.length p.rt.cap,.slice p.ag.A p.ag.l.length p.ag.cap,.slice p.A p.kids.length p.cap] 32)));have HR:=zq ((⟨hR.bx,(But.aS (Ev.alloc wr (.cells #[.int .i64 x.kind,.string ⟨x.s.toArray⟩,.int .i64 x.n,.slice x.A x.kids.length x.cap,.int .i64 (x.pos:Int)] 101))).then hR.but⟩:ig gr _ wr w1).ev (Ev.alloc w1 (.cells #[.int .i64 p.kind,.string ⟨p.name.toArray⟩,.slice p.ex.A p.ex.l.length p.ex.cap,.slice p.co.A p.co.l.length p.co.cap,.slice p.lf.A p.lf.l.length p.lf.cap,.slice p.rt.A p.rt.l.length p.rt.cap,.slice p.ag.A p.ag.l.length p.ag.cap,.slice p.A p.kids.length p.cap] 32)));clear hR hpt hpl)
    | ((show wpList _ _ _ (⟨some 19,_,_,_,_,_⟩::_) _ _);refine aK (o:=⟨some 19,_,_,_,_,_⟩) rfl 30 (.tmp 14) (.tmp 18) rfl qU Tryz.underlying30 Tryz.l_ rfl rfl (HS.out.st.owq HR.out hgr) (some ⟨w1.heap.size,0,none⟩) 1 1 [p] rfl (Sl.one (et:=32) qU w1 p _ rfl) (by rw[iQ.out];simp;omega) (by rw[iQ.out];simp;omega) (HS.out.st.size HR.out) ?_;intro v2 w2 gz;obtain⟨A2,cap2,rfl,ST2⟩:=HS.out.next HR.out hgr HPL.out (by simp) gz))
   go_roundw
   case rel=>exact⟨A2,cap2,k+1,_,_,rfl,by go_num,by omega,zq (by rw[atB,uS.out,pI.out.1,atx,atQ,HPT.out]),zq pI.out.2.symm,zq ST2⟩
   case measure=>simp[intOf];omega
  obtain rfl:k=n:=by omega
  have HF:Hid ((l.take k).map (fun x=>pPlan x.t)=l.map (fun x=>pPlan x.t)∧E=fB e (aQ (l.map fun x=>aZ x.t))):=zq (by
   have h1:=ZB.out;rw[atJ (by rw[HL.out];exact att _)]at h1⊢;exact⟨rfl,by rw[h1,iV]⟩)
  go_wp2;go_ret;obtain⟨x,hxv,iq,SK⟩:=HS.out.st.own.sle qU;rw[hxv];exact⟨x,rfl,by rw[iq,uS.out,HF.out.1],SK,fun y hy=>(HS.out.lies y (by rwa [iq]at hy)).less (fun z hz=>by cases hz),HF.out.2▸HS.out.st.rd⟩
def ExF (base:Nat) (t:T) (v:Value) (w:World):Prop:=∃x:M,v=.agg #[.int .i64 x.kind,.string ⟨x.s.toArray⟩,.int .i64 x.n,.slice x.A x.kids.length x.cap]∧x.t=t∧Lx base [] w x
def XsF (base:Nat) (ts:List T) (v:Value) (w:World):Prop:=∃X:eU M,v=.slice X.A X.l.length X.cap∧X.l.map M.t=ts∧aX 4 ec base [] w X∧∀x∈X.l,Lx base [] w x
def PW (base:Nat) (ns:List By) (v:Value) (w:World):Prop:=∃X:eU By,v=.slice X.A X.l.length X.cap∧X.l=ns∧aX 1 sc base [] w X
def AsF (base:Nat) (as_:List Ag) (v:Value) (w:World):Prop:=∃X:eU Ag,v=.slice X.A X.l.length X.cap∧X.l=as_∧aX 3 ac base [] w X
def PY (base:Nat) (ps:List Pl) (v:Value) (w:World):Prop:=∃X:eU PM,v=.slice X.A X.l.length X.cap∧X.l.map PM.p=ps∧aX 8 pc base [] w X∧∀k∈X.l,Qx base [] w k
def PZ (base:Nat) (p:Pl) (v:Value) (w:World):Prop:=∃m:PM,v=.agg #[.int .i64 m.kind,.string ⟨m.name.toArray⟩,.slice m.ex.A m.ex.l.length m.ex.cap,.slice m.co.A m.co.l.length m.co.cap,.slice m.lf.A m.lf.l.length m.lf.cap,.slice m.rt.A m.rt.l.length m.rt.cap,.slice m.ag.A m.ag.l.length m.ag.cap,.slice m.A m.kids.length m.cap]∧m.p=p∧Qx base [] w m
theorem EM {base:Nat} {K:List Nat} {w w':World} {x:M} (h:Lx base [] w x) (hb:But K w w') (hK:∀k∈K,k<base):Lx base [] w' x:=(h.less (K':=K) fun k hk=>.inr (.inl (hK k hk))).move hb fun k hk=>by cases hk
theorem kL {base:Nat} {K:List Nat} {w w':World} {x:PM} (h:Qx base [] w x) (hb:But K w w') (hK:∀k∈K,k<base):Qx base [] w' x:=(h.less (K':=K) fun k hk=>.inr (.inl (hK k hk))).move hb fun k hk=>by cases hk
theorem oM {α:Type} {k:Nat} {enc:α→List Value} {base:Nat} {K:List Nat} {w w':World} {x:eU α} (h:aX k enc base [] w x) (hb:But K w w') (hK:∀k∈K,k<base):aX k enc base [] w' x:=
 (h.move (K':=K) (But.refl _ _) fun k hk=>.inr (.inl (hK k hk))).move hb fun k hk=>by cases hk
theorem ExF.old {base:Nat} {t:T} {K:List Nat} (hK:∀k∈K,k<base):∀v w w',But K w w'→ExF base t v w→ExF base t v w':=fun v w w' hb ⟨x,e,ht,hL⟩=>⟨x,e,ht,EM hL hb hK⟩
theorem XsF.old {base:Nat} {ts:List T} {K:List Nat} (hK:∀k∈K,k<base):∀v w w',But K w w'→XsF base ts v w→XsF base ts v w':=fun v w w' hb ⟨x,e,ht,hS,hL⟩=>⟨x,e,ht,oM hS hb hK,fun y hy=>EM (hL y hy) hb hK⟩
theorem PW.old {base:Nat} {ns:List By} {K:List Nat} (hK:∀k∈K,k<base):∀v w w',But K w w'→PW base ns v w→PW base ns v w':=fun v w w' hb ⟨x,e,ht,hS⟩=>⟨x,e,ht,oM hS hb hK⟩
theorem AsF.old {base:Nat} {ns:List Ag} {K:List Nat} (hK:∀k∈K,k<base):∀v w w',But K w w'→AsF base ns v w→AsF base ns v w':=fun v w w' hb ⟨x,e,ht,hS⟩=>⟨x,e,ht,oM hS hb hK⟩
theorem PY.old {base:Nat} {ps:List Pl} {K:List Nat} (hK:∀k∈K,k<base):∀v w w',But K w w'→PY base ps v w→PY base ps v w':=fun v w w' hb ⟨x,e,ht,hS,hL⟩=>⟨x,e,ht,oM hS hb hK,fun y hy=>kL (hL y hy) hb hK⟩
theorem PZ.old {base:Nat} {p:Pl} {K:List Nat} (hK:∀k∈K,k<base):∀v w w',But K w w'→PZ base p v w→PZ base p v w':=fun v w w' hb ⟨x,e,ht,hS⟩=>⟨x,e,ht,kL hS hb hK⟩
theorem EN {base:Nat}:∀k∈([]:List Nat),k<base:=fun k hk=>by cases hk
theorem ExF.mono (base:Nat) (t:T):rF (ExF base t):=fun v w w' hE h=>ExF.old EN v w w' (But.aS hE) h
theorem XsF.mono (base:Nat) (ts:List T):rF (XsF base ts):=fun v w w' hE h=>XsF.old EN v w w' (But.aS hE) h
theorem PW.mono (base:Nat) (ns:List By):rF (PW base ns):=fun v w w' hE h=>PW.old EN v w w' (But.aS hE) h
theorem AsF.mono (base:Nat) (ns:List Ag):rF (AsF base ns):=fun v w w' hE h=>AsF.old EN v w w' (But.aS hE) h
theorem PY.mono (base:Nat) (ps:List Pl):rF (PY base ps):=fun v w w' hE h=>PY.old EN v w w' (But.aS hE) h
theorem PZ.mono (base:Nat) (p:Pl):rF (PZ base p):=fun v w w' hE h=>PZ.old EN v w w' (But.aS hE) h
def iw (g:Nat) (v0 v1 v2 v3 v4 v5 v6 v7:Value) (w:World):World:=(((jO g v0 v1 v2 v3 v4 w).setCell ⟨g,5,none⟩ v5).setCell ⟨g,6,none⟩ v6).setCell ⟨g,7,none⟩ v7
theorem bg (g:Nat) (v0 v1 v2 v3 v4 v5 v6 v7:Value) (w:World):(((((((w.setCell ⟨g,0,none⟩ v0).setCell ⟨g,1,none⟩ v1).setCell ⟨g,2,none⟩ v2).setCell ⟨g,3,none⟩ v3).setCell ⟨g,4,none⟩ v4).setCell ⟨g,5,none⟩ v5).setCell ⟨g,6,none⟩ v6).setCell ⟨g,7,none⟩ v7=iw g v0 v1 v2 v3 v4 v5 v6 v7 w:=rfl
theorem bQ (g:Nat) (v0 v1 v2 v3 v4 v5 v6 v7:Value) (w:World):But [g] w (iw g v0 v1 v2 v3 v4 v5 v6 v7 w):=
 (((bD g v0 v1 v2 v3 v4 w).then (But.setCell ⟨g,5,none⟩ _ (by simp))).then (But.setCell ⟨g,6,none⟩ _ (by simp))).then (But.setCell ⟨g,7,none⟩ _ (by simp))
theorem Bx.iw {T:TypeId} {g:Nat} {w:World} {u0 u1 u2 u3 u4 u5 u6 u7:Value} (h:Bx T g #[u0,u1,u2,u3,u4,u5,u6,u7] w) (v0 v1 v2 v3 v4 v5 v6 v7:Value):Bx T g #[v0,v1,v2,v3,v4,v5,v6,v7] (iw g v0 v1 v2 v3 v4 v5 v6 v7 w):=by have:=(((((((h.set 0 v0).set 1 v1).set 2 v2).set 3 v3).set 4 v4).set 5 v5).set 6 v6).set 7 v7;rw[show (((((((((#[u0,u1,u2,u3,u4,u5,u6,u7]:Array Value).setIfInBounds 0 v0).setIfInBounds 1 v1).setIfInBounds 2 v2).setIfInBounds 3 v3).setIfInBounds 4 v4).setIfInBounds 5 v5).setIfInBounds 6 v6).setIfInBounds 7 v7)=#[v0,v1,v2,v3,v4,v5,v6,v7] by simp]at this;exact this
theorem Bx.eight {T:TypeId} {g:Nat} {w:World} {v0 v1 v2 v3 v4 v5 v6 v7:Value} (h:Bx T g #[v0,v1,v2,v3,v4,v5,v6,v7] w):
  (w.cell? ⟨g,0,none⟩=some v0∧w.cell? ⟨g,1,none⟩=some v1∧w.cell? ⟨g,2,none⟩=some v2∧w.cell? ⟨g,3,none⟩=some v3∧w.cell? ⟨g,4,none⟩=some v4∧w.cell? ⟨g,5,none⟩=some v5∧w.cell? ⟨g,6,none⟩=some v6∧w.cell? ⟨g,7,none⟩=some v7)∧
  (w.frozen? ⟨g,0,none⟩=false∧w.frozen? ⟨g,1,none⟩=false∧w.frozen? ⟨g,2,none⟩=false∧w.frozen? ⟨g,3,none⟩=false∧w.frozen? ⟨g,4,none⟩=false∧w.frozen? ⟨g,5,none⟩=false∧w.frozen? ⟨g,6,none⟩=false∧w.frozen? ⟨g,7,none⟩=false):=
 ⟨⟨h.cell 0,h.cell 1,h.cell 2,h.cell 3,h.cell 4,h.cell 5,h.cell 6,h.cell 7⟩,h.frozen 0,h.frozen 1,h.frozen 2,h.frozen 3,h.frozen 4,h.frozen 5,h.frozen 6,h.frozen 7⟩
theorem axF {P:Prop} (h:P:=by exact⟨_,rfl,(Ev.alloc w _).trans (Ev.alloc _ _),(Bx.new 101 #[c0,c1,c2,c3,c4] w).ev (Ev.alloc _ _),hB,by simp⟩):P:=h
theorem vH (w:World) (c0 c1 c2 c3 c4:Value):∃w0,(w.alloc (.cells #[c0,c1,c2,c3,c4] 101)).alloc (.cells #[.int .i64 0,.string ⟨#[]⟩,.slice none 0 0,.slice none 0 0,.slice none 0 0,.slice none 0 0,.slice none 0 0,.slice none 0 0] 32)=w0∧Ev w w0∧Bx 101 w.heap.size #[c0,c1,c2,c3,c4] w0∧Bx 32 (w.heap.size+1) #[.int .i64 0,.string ⟨#[]⟩,.slice none 0 0,.slice none 0 0,.slice none 0 0,.slice none 0 0,.slice none 0 0,.slice none 0 0] w0∧w0.heap.size=w.heap.size+2:=by
 have hB:Bx 32 (w.heap.size+1) #[.int .i64 0,.string ⟨#[]⟩,.slice none 0 0,.slice none 0 0,.slice none 0 0,.slice none 0 0,.slice none 0 0,.slice none 0 0] ((w.alloc (.cells #[c0,c1,c2,c3,c4] 101)).alloc (.cells #[.int .i64 0,.string ⟨#[]⟩,.slice none 0 0,.slice none 0 0,.slice none 0 0,.slice none 0 0,.slice none 0 0,.slice none 0 0] 32)):=by have:=Bx.new 32 #[.int .i64 0,.string ⟨#[]⟩,.slice none 0 0,.slice none 0 0,.slice none 0 0,.slice none 0 0,.slice none 0 0,.slice none 0 0] (w.alloc (.cells #[c0,c1,c2,c3,c4] 101));simpa using this
 exact axF
def mf (l:List T) (w:World) (e:Ending) (w':World):Prop:=∃A n cap L,e=.returned (.slice A n cap)∧kM w A n cap L w'∧L.map M.t=l
theorem kM.start (w:World):kM w none 0 0 [] w:=⟨Ow.nil_ w,rfl,(fun x hx=>by cases hx),Ev.refl w⟩
theorem kM.on {w0 w w':World} {A:Option Addr} {n cap:Nat} {L:List M} (h:kM w0 A n cap L w) (hE:Ev w w'):kM w0 A n cap L w':=⟨h.own.ev hE,h.len,fun x hx=>(h.lies x hx).ev hE,h.ev.trans hE⟩
theorem mV (A:Option Addr) (n cap:Nat) (w:World):
  Calls Tryz.prog 103 #[.slice A n cap] w fun e w'=>e=.returned (.agg #[.int .i64 1,.string ⟨#[]⟩,.int .i64 0,.slice A n cap,.int .i64 0])∧Ev w w':=by
 go_enter Tryz.func103,Tryz.ntmps103;go_wp2;(try simp only[Exit.inBlock,Exit.then]);refine bodyPost_ret (aP rfl _ _ _ _ _ rfl (Bx.new 101 #[.int .i64 1,.string ⟨#[]⟩,.int .i64 0,.slice A n cap,.int .i64 0] w) Tryz.underlying101 rfl Tryz.iG) rfl ?_;exact⟨rfl,Ev.alloc w _⟩
theorem j_ (l:List By) (A:Option Addr) (n cap:Nat) (w:World) (h:Ss w A n cap l) (hn:n≤100000):
  Calls Tryz.prog 100 #[.slice A n cap] w (mf (l.map aN) w):=by
 have hcl:=h.le;have hcm:=h.max;have HL:=zq h.len;have CE:=zq h;have jR:=zq (kM.start w);unfold mf;clear h;go_enter Tryz.func100,Tryz.ntmps100;go_wp2
 go_loopw [3,8] (fun av iv wr=>∃(A1:Option Addr) (cap1 k:Nat) (L:List M),av=.slice A1 k cap1∧iv=.int .i64 (k:Int)∧k≤n∧Hid (L.map M.t=(l.take k).map aN)∧Hid (kM w A1 k cap1 L wr)) (fun _ iv _=>n - (intOf iv).toNat)
 case atStart=>exact⟨none,0,0,[],rfl,rfl,atG _,zq rfl,jR⟩
 case round=>
  obtain⟨A1,cap1,k,L,rfl,rfl,hk,qI,HS⟩:=hrel;by_cases hlt:k<n
  ·obtain⟨x,hx⟩:=CE.out.at hlt;obtain⟨b,off,rfl,hb,hc⟩:=(CE.out.ev HS.out.ev).rd (by omega);have c0:=hc k x hx 0 _ rfl;simp only[avf,atW]at c0;have pI:Hid ((l.take (k+1)).map aN=(l.take k).map aN++[aN x]):=zq (by
    obtain⟨hk2,e1⟩:=atr.1 hx;rw[atD hk2,e1,atB];rfl)
   have uS:=zq HS.out.len;have i1:(0:Int)≤(k:Int):=by omega
   have i2:(k:Int)<(n:Int):=by omega
   clear hx hc
   go_wp2_with (first
    | ((show wpList _ _ _ (⟨some 16,_,_,_,_,_⟩::_) _ _);refine aK (o:=⟨some 16,_,_,_,_,_⟩) rfl 99 (.tmp 12) (.tmp 15) rfl gB Tryz.underlying99 Tryz.infoTree rfl rfl (HS.out.own.ev (Ev.alloc wr _)) (some ⟨wr.heap.size,0,none⟩) 1 1 [.mk 2 x 0 none 0 [] 0] rfl (Sl.one (et:=101) gB wr (.mk 2 x 0 none 0 [] 0) _ rfl) (by rw[uS.out];simp;omega) (by rw[uS.out];simp;omega) (HS.out.ev.trans (Ev.alloc wr _)).size ?_;intro v2 w2 gz;obtain⟨A2,cap2,rfl,ST2⟩:=HS.out.next (Ev.alloc wr _) (mQ _ _ _ _ _ _ _) gz))
   go_roundw
   case rel=>exact⟨A2,cap2,k+1,_,rfl,by go_num,by omega,zq (by rw[pI.out,atB,qI.out];rfl),zq ST2⟩
   case measure=>simp[intOf];omega
  obtain rfl:k=n:=by omega
  have HF:Hid (L.map M.t=l.map aN):=zq (by
   have h1:=qI.out;rwa [atJ (by rw[HL.out];exact att _)]at h1)
  go_wp2;go_ret;exact⟨A1,_,cap1,L,rfl,HS.out,HF.out⟩
theorem aeF (w:World) (c0 c1 c2:Value):∃w0,(w.alloc (.cells #[c0,c1,c2] 54)).alloc (.cells #[.int .i64 0,.string ⟨#[]⟩,.int .i64 0,.slice none 0 0,.int .i64 0] 101)=w0∧Ev w w0∧Bx 54 w.heap.size #[c0,c1,c2] w0∧Bx 101 (w.heap.size+1) #[.int .i64 0,.string ⟨#[]⟩,.int .i64 0,.slice none 0 0,.int .i64 0] w0:=by
 have hB:Bx 101 (w.heap.size+1) #[.int .i64 0,.string ⟨#[]⟩,.int .i64 0,.slice none 0 0,.int .i64 0] ((w.alloc (.cells #[c0,c1,c2] 54)).alloc (.cells #[.int .i64 0,.string ⟨#[]⟩,.int .i64 0,.slice none 0 0,.int .i64 0] 101)):=by have:=Bx.new 101 #[.int .i64 0,.string ⟨#[]⟩,.int .i64 0,.slice none 0 0,.int .i64 0] (w.alloc (.cells #[c0,c1,c2] 54));simpa using this
 exact⟨_,rfl,(Ev.alloc w _).trans (Ev.alloc _ _),(Bx.new 54 #[c0,c1,c2] w).ev (Ev.alloc _ _),hB⟩
theorem Ss.made (w:World) (l:List By) (cs:Array Value) (h:cs.toList=cl sc l) (hl:l.length≤1000000):Ss (w.alloc (.cells cs 9)) (some ⟨w.heap.size,0,none⟩) l.length l.length l:=by
 obtain⟨A,cap,hv,hS,_⟩:=(Ow.made (et:=9) (base:=w.heap.size) pG w l cs h (att _) hl).form pG;injection hv with h1 _ h3
 subst h1;subst h3;exact hS
theorem avO {P:Prop} (h:P:=by have hbl:=HB.out.lt;refine⟨.mk 1 [] 0 A1 cap1 L 0,by simp only[M.kids,M.kind,M.s,M.n,M.A,M.cap,M.pos];rw[←hnl];rfl,by simp only[M.t,M.ji];rw[qI.out];rfl,?_,HE.out.trans ((((Ev.alloc w0 _).trans HK.out.ev).trans rD.out)) |>.box (bD _ _ _ _ _ _ _) (by omega)⟩;exact (((hlx.ev rD.out).less (K':=[w.heap.size+1]) fun k hk=>by simp at hk;subst hk;exact .inr (.inl (by omega))).move (bD _ _ _ _ _ _ _) fun k hk=>by cases hk).low (by omega)):P:=h
theorem UL (a:Ag) (w:World):Calls Tryz.prog 104 #[.agg #[.string ⟨a.1.toArray⟩,.string ⟨a.2.1.toArray⟩,.string ⟨a.2.2.toArray⟩]] w (fO (eQ a) w):=by
 obtain⟨s0,s1,s2⟩:=a;obtain⟨w0,hw0,aT,hX,hB⟩:=aeF w (.string ⟨s0.toArray⟩) (.string ⟨s1.toArray⟩) (.string ⟨s2.toArray⟩);obtain⟨⟨c0,c1,c2⟩,_⟩:=hX.three;have HB:=zq hB;have HE:=zq aT;have Td:=zq (fun A n cap w1=>mV A n cap w1);unfold fO;clear hX hB aT;simp only;by_cases hs:s2=[]
 ·subst hs;have HR:Hid (eQ (s0,s1,[])=bU ([s0,s1].map aN)):=zq rfl;have Jp:Calls Tryz.prog 100 #[.slice (some ⟨w0.heap.size,0,none⟩) 2 2] (w0.alloc (.cells #[.string ⟨s0.toArray⟩,.string ⟨s1.toArray⟩] 9)) (mf ([s0,s1].map aN) (w0.alloc (.cells #[.string ⟨s0.toArray⟩,.string ⟨s1.toArray⟩] 9))):=j_ [s0,s1] _ _ _ _ (Ss.made w0 [s0,s1] _ rfl (by simp)) (by simp);unfold mf at Jp;have ZT:=zq Jp;clear Jp;rw[HR.out];go_enter Tryz.func104,Tryz.ntmps104
  go_wp2_with (first
   | ((with_reducible refine ZT.out.mono ?_);rintro e w1 ⟨A1,n1,cap1,L,rfl,hK,Q9⟩;have HK:=zq hK;have qI:=zq Q9;clear hK Q9)
   | ((with_reducible refine (Td.out _ _ _ _).mono ?_);rintro e w2 ⟨rfl,bK⟩;have rD:=zq bK;have jq:=zq (HB.out.ev (((Ev.alloc w0 _).trans HK.out.ev).trans bK));obtain⟨⟨d0,d1,d2,d3,d4⟩,r0,r1,r2,r3,r4⟩:=jq.out.five;clear bK))
  (try simp only[Exit.inBlock,Exit.then]);rw[bW];refine bodyPost_ret (aP rfl _ _ _ _ _ rfl (jq.out.jO _ _ _ _ _) Tryz.underlying101 rfl Tryz.iG) rfl ?_;obtain⟨hlx,hnl⟩:=HK.out.done;have hsz:=HE.out.size;have Xp:=(Ev.alloc w0 (.cells #[.string ⟨s0.toArray⟩,.string ⟨s1.toArray⟩] 9)).size;exact avO
 have he:List.isEmpty s2=false:=by cases s2 with|nil=>exact absurd rfl hs|cons _ _=>rfl
 have HR:Hid (eQ (s0,s1,s2)=bU ([s0,s1,s2].map aN)):=zq (by
  unfold eQ;rw[show s2.isEmpty=false by cases s2 with|nil=>exact absurd rfl hs|cons _ _=>rfl];rfl)
 have Jp:Calls Tryz.prog 100 #[.slice (some ⟨w0.heap.size,0,none⟩) 3 3] (w0.alloc (.cells #[.string ⟨s0.toArray⟩,.string ⟨s1.toArray⟩,.string ⟨s2.toArray⟩] 9)) (mf ([s0,s1,s2].map aN) (w0.alloc (.cells #[.string ⟨s0.toArray⟩,.string ⟨s1.toArray⟩,.string ⟨s2.toArray⟩] 9))):=j_ [s0,s1,s2] _ _ _ _ (Ss.made w0 [s0,s1,s2] _ rfl (by simp)) (by simp);unfold mf at Jp;have ZT:=zq Jp;clear Jp;rw[HR.out];go_enter Tryz.func104,Tryz.ntmps104
 go_wp2_with (first
  | ((with_reducible refine ZT.out.mono ?_);rintro e w1 ⟨A1,n1,cap1,L,rfl,hK,Q9⟩;have HK:=zq hK;have qI:=zq Q9;clear hK Q9)
  | ((with_reducible refine (Td.out _ _ _ _).mono ?_);rintro e w2 ⟨rfl,bK⟩;have rD:=zq bK;have jq:=zq (HB.out.ev (((Ev.alloc w0 _).trans HK.out.ev).trans bK));obtain⟨⟨d0,d1,d2,d3,d4⟩,r0,r1,r2,r3,r4⟩:=jq.out.five;clear bK))
 (try simp only[Exit.inBlock,Exit.then]);rw[bW];refine bodyPost_ret (aP rfl _ _ _ _ _ rfl (jq.out.jO _ _ _ _ _) Tryz.underlying101 rfl Tryz.iG) rfl ?_;obtain⟨hlx,hnl⟩:=HK.out.done;have hsz:=HE.out.size;have Xp:=(Ev.alloc w0 (.cells #[.string ⟨s0.toArray⟩,.string ⟨s1.toArray⟩,.string ⟨s2.toArray⟩] 9)).size;exact avO
structure OwT (b0:Nat) (w:World) (A:Option Addr) (n cap:Nat) (L:List M):Prop where
 own:Ow 101 5 mc b0 w (.slice A n cap) L
 len:L.length=n
 lies:∀x∈L,Lies b0 (foot (.slice A n cap)) w x
theorem kM.owt {w0 w:World} {b0:Nat} {A:Option Addr} {n cap:Nat} {L:List M} (h:kM w0 A n cap L w) (hb:b0≤w0.heap.size):OwT b0 w A n cap L:=⟨h.own.low hb,h.len,fun x hx=>(h.lies x hx).low hb⟩
theorem OwT.ev {b0:Nat} {w w':World} {A:Option Addr} {n cap:Nat} {L:List M} (h:OwT b0 w A n cap L) (hE:Ev w w'):OwT b0 w' A n cap L:=⟨h.own.ev hE,h.len,fun x hx=>(h.lies x hx).ev hE⟩
theorem OwT.but {b0:Nat} {K:List Nat} {w w':World} {A:Option Addr} {n cap:Nat} {L:List M} (h:OwT b0 w A n cap L) (hb:But K w w') (hK:∀k∈K,k<b0):OwT b0 w' A n cap L:=
 ⟨h.own.but hb fun g hg hm=>by have:=(h.own.lt hg).1;have:=hK g hm;omega,h.len,fun x hx=>((h.lies x hx).less (K':=K++foot (.slice A n cap)) fun y hy=>by
  rcases atK.1 hy with h1|h1;exact .inr (.inl (hK y h1));exact .inl h1).move (hb.wide fun y hy=>.inl (atO _ hy)) fun y hy=>.inl (auk _ hy)⟩
theorem OwT.done {b0:Nat} {w:World} {n cap:Nat} {A:Option Addr} {L:List M} (h:OwT b0 w A n cap L):Lies b0 [] w (.mk 1 [] 0 A cap L 0)∧n=L.length:=by exact awN
def vI (b0:Nat) (Ts:List T) (v:Value) (w:World):Prop:=∃A n cap L,v=.slice A n cap∧OwT b0 w A n cap L∧L.map M.t=Ts
theorem vI.ev {b0:Nat} {Ts:List T} {v:Value} {w w':World} (h:vI b0 Ts v w) (hE:Ev w w'):vI b0 Ts v w':=by obtain⟨A,n,cap,L,e,h1,h2⟩:=h;exact⟨A,n,cap,L,e,h1.ev hE,h2⟩
theorem vI.oN {b0:Nat} {Ts:List T} {v:Value} {w:World} (h:vI b0 Ts v w):∀k∈foot v,b0≤k∧k<w.heap.size:=by obtain⟨A,n,cap,L,rfl,h1,h2⟩:=h;exact fun k hk=>h1.own.lt (aB.1 hk)
theorem mf.p0 {Ts:List T} {w:World} {e:Ending} {w':World} {b0:Nat} (h:mf Ts w e w') (hb:b0≤w.heap.size):∃v,e=.returned v∧vI b0 Ts v w'∧(∀k∈foot v,w.heap.size≤k)∧Ev w w':=by obtain⟨A,n,cap,L,rfl,h1,h2⟩:=h;exact⟨_,rfl,⟨A,n,cap,L,rfl,h1.owt hb,h2⟩,fun k hk=>(h1.own.lt (aB.1 hk)).1,h1.ev⟩
structure JF (F:List Nat→Value→World→Prop):Prop where
 ev:∀K v u u',Ev u u'→F K v u→F K v u'
 new:∀K v u,(∀k∈K,u.heap.size≤k)→F [] v u→F K v u
def FT (b0:Nat) (t:T) (K:List Nat) (v:Value) (u:World):Prop:=∃x:M,v=.agg #[.int .i64 x.kind,.string ⟨x.s.toArray⟩,.int .i64 x.n,.slice x.A x.kids.length x.cap,.int .i64 (x.pos:Int)]∧x.t=t∧Lies b0 K u x
theorem FT.jf (b0:Nat) (t:T):JF (FT b0 t):=⟨fun K v u u' hE ⟨x,e,h1,h2⟩=>⟨x,e,h1,h2.ev hE⟩,fun K v u hK ⟨x,e,h1,h2⟩=>⟨x,e,h1,h2.less fun k hk=>.inr (.inr (hK k hk))⟩⟩
def FM (b0:Nat) (Ts:List T) (K:List Nat) (v:Value) (u:World):Prop:=∃A n cap L,v=.slice A n cap∧Ms u A n cap L∧L.map M.t=Ts∧∀x∈L,Lies b0 K u x
theorem FM.jf (b0:Nat) (Ts:List T):JF (FM b0 Ts):=⟨fun K v u u' hE ⟨A,n,cap,L,e,h1,h2,h3⟩=>⟨A,n,cap,L,e,h1.ev hE,h2,fun x hx=>(h3 x hx).ev hE⟩,fun K v u hK ⟨A,n,cap,L,e,h1,h2,h3⟩=>⟨A,n,cap,L,e,h1,h2,fun x hx=>(h3 x hx).less fun k hk=>.inr (.inr (hK k hk))⟩⟩
theorem vI.fm {b0:Nat} {Ts:List T} {v:Value} {w:World} {K:List Nat} (h:vI b0 Ts v w) (hK:K=[]):FM b0 Ts K v w:=by
 subst hK;obtain⟨A,n,cap,L,rfl,h1,h2⟩:=h;obtain⟨A2,cap2,hv,oZ,_⟩:=h1.own.form gB;injection hv with e1 e2 e3
 subst e1;subst e3;exact⟨A,n,cap,L,rfl,by rw[e2];exact oZ,h2,fun x hx=>(h1.lies x hx).less fun y hy=>(by cases hy)⟩
def GJ (i0 d0:Nat) (P0:Value→World→Prop) (fs:List (Nat×Nat×(List Nat→Value→World→Prop))) (L:Nat→Bool) (a:Act) (u:World):Prop:=
 (L i0=true→P0 (a.eval (.tmp d0)) u)∧∀f∈fs,L f.1=true→f.2.2 (if L i0=true then foot (a.eval (.tmp d0)) else []) (a.eval (.tmp f.2.1)) u
section
variable {i0 d0:Nat} {P0:Value→World→Prop} {fs:List (Nat×Nat×(List Nat→Value→World→Prop))}
theorem GJ.none {L:Nat→Bool} {a:Act} {u:World} (h:∀j,L j=false):GJ i0 d0 P0 fs L a u:=⟨(fun e=>by rw[h]at e;cases e),fun f _ e=>by rw[h]at e;cases e⟩
theorem GJ.keep (hP:∀v u u',Ev u u'→P0 v u→P0 v u') (hJ:∀f∈fs,JF f.2.2) {L L':Nat→Bool} {a a':Act} {u u':World} (hL0:L' i0=L i0) (hL:∀f∈fs,L' f.1=L f.1) (ha0:a'.eval (.tmp d0)=a.eval (.tmp d0)) (ha:∀f∈fs,a'.eval (.tmp f.2.1)=a.eval (.tmp f.2.1)) (hE:Ev u u') (h:GJ i0 d0 P0 fs L a u):GJ i0 d0 P0 fs L' a' u':=by refine⟨fun e=>?_,fun f hf e=>?_⟩;rw[ha0];exact hP _ _ _ hE (h.1 (hL0▸e));rw[ha0,ha f hf,hL0];exact (hJ f hf).ev _ _ _ _ hE (h.2 f hf (hL f hf▸e))
theorem GJ.first (hJ:∀f∈fs,JF f.2.2) {L L':Nat→Bool} {a:Act} {v:Value} {u u':World} (h:GJ i0 d0 P0 fs L a u) (hu:L i0=false) (hE:Ev u u') (hne:∀f∈fs,f.1≠i0∧f.2.1≠d0) (hsz:d0<a.tmps.size) (hP:P0 v u') (hnew:∀k∈foot v,u.heap.size≤k) (h1:L' i0=true) (h2:∀j,j≠i0→L' j=L j):GJ i0 d0 P0 fs L' (a.put (some d0) v) u':=by refine⟨fun _=>by rw[eval_put_same hsz];exact hP,fun f hf e=>?_⟩;obtain⟨n1,n2⟩:=hne f hf;rw[eval_put_same hsz,dU (fun e=>n2 (aui e).symm),h1,if_pos rfl];have h3:=h.2 f hf (h2 _ n1▸e);rw[hu,if_neg au5]at h3;exact (hJ f hf).ev _ _ _ _ hE ((hJ f hf).new _ _ _ hnew h3)
theorem GJ.other (hP:∀v u u',Ev u u'→P0 v u→P0 v u') (hJ:∀f∈fs,JF f.2.2) {L L':Nat→Bool} {a:Act} {v:Value} {u u':World} {i d:Nat} (h:GJ i0 d0 P0 fs L a u) (hE:Ev u u') (hne:i≠i0∧d≠d0) (hd:∀f∈fs,f.1≠i→f.2.1≠d) (hsz:d<a.tmps.size) (hF:∀f∈fs,f.1=i→f.2.1=d∧f.2.2 (if L i0=true then foot (a.eval (.tmp d0)) else []) v u') (h1:L' i=true) (h2:∀j,j≠i→L' j=L j):GJ i0 d0 P0 fs L' (a.put (some d) v) u':=by have hL0:L' i0=L i0:=h2 _ fun e=>hne.1 e.symm;have ha0:(a.put (some d) v).eval (.tmp d0)=a.eval (.tmp d0):=dU fun e=>hne.2 (aui e);refine⟨fun e=>?_,fun f hf e=>?_⟩;rw[ha0];exact hP _ _ _ hE (h.1 (hL0▸e));rw[ha0,hL0];by_cases hi:f.1=i;obtain⟨e1,e2⟩:=hF f hf hi;rw[e1,eval_put_same hsz];exact e2;rw[dU (fun e=>hd f hf hi (aui e).symm)];exact (hJ f hf).ev _ _ _ _ hE (h.2 f hf (h2 _ hi▸e))
theorem GJ.old {b0:Nat} {Ts:List T} {L:Nat→Bool} {a:Act} {u:World} (h:GJ i0 d0 (vI b0 Ts) fs L a u):∀k∈(if L i0=true then foot (a.eval (.tmp d0)) else []),k<u.heap.size:=by
 intro k hk;split at hk;rename_i e;exact ((h.1 e).oN k hk).2
 cases hk
end
theorem LX {P:Program} {ρ:Operand→Value} {o:Oper} {T:TypeId} {s x:Operand} {v y v':Value} {w w':World} (ho:o.op=.call {callee:=.builtin .append,args:=#[s,x],argTypes:=#[T,T]}) (hs:ρ s=v) (hx:ρ x=y) (hr:(Builtin.append_ #[T,T] o.type #[v,y]).run P w=.ok v' w'):(execOp ρ o).run P w=.ok (.value v') w':=by unfold execOp;simp only[ho,resolve,invoke,builtin,Sem.run_bind,Sem.run_pure,Result.andThen_ok,auH,atx,atQ,hs,hx,hr]
theorem ku {ρ:Operand→Value} {o:Oper} {s x:Operand} {v y:Value} {w:World} {b0:Nat} {Ts Us:List T} (ho:o.op=.call {callee:=.builtin .append,args:=#[s,x],argTypes:=#[99,99]}) (hs:ρ s=v) (hx:ρ x=y) (h1:vI b0 Ts v w) (h2:FM b0 Us (foot v) y w) (hl:Ts.length+Us.length≤1000000) (hb:b0≤w.heap.size):
  ∃v' w',(execOp ρ o).run Tryz.prog w=.ok (.value v') w'∧vI b0 (Ts++Us) v' w'∧But (foot v) w w':=by
 obtain⟨A,n,cap,L,rfl,hO,hLt⟩:=h1;obtain⟨A2,n2,cap2,L2,rfl,hM,ag4,hlies⟩:=h2;have hLl:L.length=Ts.length:=by rw[←hLt,atq]
 have aqs:L2.length=Us.length:=by rw[←ag4,atq]
 obtain⟨v',w',hr,h3,h4,h5,_⟩:=kY (P:=Tryz.prog) gB 99 o.type Tryz.underlying99 Tryz.infoTree rfl hO.own A2 n2 cap2 L2 hM (by omega) (by omega) hb;refine⟨v',w',LX ho hs hx hr,?_,h4⟩;obtain⟨A3,cap3,rfl,oZ,wQ⟩:=h3.form gB;refine⟨A3,_,cap3,L++L2,rfl,⟨h3,rfl,fun y hy=>?_⟩,by rw[atB,hLt,ag4]⟩;have hy2:Lies b0 (foot (.slice A n cap)) w y:=by rcases atK.1 hy with h|h;exact hO.lies y h;exact hlies y h
 exact hy2.move h4 fun k hk=>by rcases h5 k (aB.1 hk) with h|h;exact .inl (aB.2 h);exact .inr (.inr h)
theorem uA {ρ:Operand→Value} {o:Oper} {x:Operand} (m:M) (ho:o.op=.buildSlice 99 1 #[(0,x)]) (h:ρ x=.agg #[.int .i64 m.kind,.string ⟨m.s.toArray⟩,.int .i64 m.n,.slice m.A m.kids.length m.cap,.int .i64 (m.pos:Int)]) (w:World):
  (execOp ρ o).run Tryz.prog w=.ok (.value (.slice (some ⟨w.heap.size,0,none⟩) 1 1)) (w.alloc (.cells #[.int .i64 m.kind,.string ⟨m.s.toArray⟩,.int .i64 m.n,.slice m.A m.kids.length m.cap,.int .i64 (m.pos:Int)] 101)):=by
 unfold execOp;rw[ho];simp[h,go_sem]
theorem oO {ρ:Operand→Value} {o:Oper} {x:Operand} (s:By) (ho:o.op=.buildSlice 22 1 #[(0,x)]) (h:ρ x=.string ⟨s.toArray⟩) (w:World):
  (execOp ρ o).run Tryz.prog w=.ok (.value (.slice (some ⟨w.heap.size,0,none⟩) 1 1)) (w.alloc (.cells #[.string ⟨s.toArray⟩] 9)):=by
 unfold execOp;rw[ho];simp[h,go_sem]
theorem FT.slice {b0:Nat} {t:T} {K:List Nat} {u:World} (x:M) (h:x.t=t) (hl:Lies b0 K u x):FM b0 [t] K (.slice (some ⟨u.heap.size,0,none⟩) 1 1) (u.alloc (.cells #[.int .i64 x.kind,.string ⟨x.s.toArray⟩,.int .i64 x.n,.slice x.A x.kids.length x.cap,.int .i64 (x.pos:Int)] 101)):=
 ⟨_,1,1,[x],rfl,Sl.one (et:=101) gB u x _ rfl,by rw[atx,atQ,h],fun y hy=>by simp at hy;subst hy;exact hl.ev (Ev.alloc _ _)⟩
def VU (s:By) (v:Value) (u:World):Prop:=∃g,v=.slice (some ⟨g,0,none⟩) 1 1∧Ss u (some ⟨g,0,none⟩) 1 1 [s]
theorem VU.mono (s:By):rF (VU s):=fun v u u' hE ⟨g,e,h⟩=>⟨g,e,h.ev hE⟩
theorem vI.mono (b0:Nat) (Ts:List T):rF (vI b0 Ts):=fun v u u' hE h=>h.ev hE
theorem vI.but {b0:Nat} {Ts:List T} {v:Value} {K:List Nat} {u u':World} (h:vI b0 Ts v u) (hb:But K u u') (hK:∀k∈K,k<b0):vI b0 Ts v u':=by obtain⟨A,n,cap,L,e,h1,h2⟩:=h;exact⟨A,n,cap,L,e,h1.but hb hK,h2⟩
theorem FT.mono (b0:Nat) (t:T) (K:List Nat):rF (FT b0 t K):=fun v u u' hE h=>(FT.jf b0 t).ev _ _ _ _ hE h
theorem Jq {b0:Nat} {K:List Nat} {u u':World} {x:M} (h:Lies b0 [] u x) (hb:But K u u') (hK:∀k∈K,k<b0):Lies b0 [] u' x:=((h.less (K':=K) fun y hy=>.inr (.inl (hK y hy))).move hb fun y hy=>(by cases hy))
theorem FT.but {b0:Nat} {t:T} {v:Value} {K:List Nat} {u u':World} (h:FT b0 t [] v u) (hb:But K u u') (hK:∀k∈K,k<b0):FT b0 t [] v u':=by obtain⟨x,e,h1,h2⟩:=h;exact⟨x,e,h1,Jq h2 hb hK⟩
theorem FM.mono (b0:Nat) (Ts:List T) (K:List Nat):rF (FM b0 Ts K):=fun v u u' hE h=>(FM.jf b0 Ts).ev _ _ _ _ hE h
def FMn (b0:Nat) (Ts:List T) (v:Value) (u:World):Prop:=FM b0 Ts [] v u∧∃g n cap,v=.slice (some ⟨g,0,none⟩) n cap∧b0≤g
theorem FMn.mono (b0:Nat) (Ts:List T):rF (FMn b0 Ts):=fun v u u' hE h=>⟨FM.mono _ _ _ _ _ _ hE h.1,h.2⟩
theorem FMn.but {b0:Nat} {Ts:List T} {v:Value} {K:List Nat} {u u':World} (h:FMn b0 Ts v u) (hb:But K u u') (hK:∀k∈K,k<b0):FMn b0 Ts v u':=by
 obtain⟨⟨A,n,cap,L,e,h1,h2,h3⟩,g,n',cap',e',hg⟩:=h;refine⟨⟨A,n,cap,L,e,h1.but hb fun ad ea hm=>?_,h2,fun x hx=>Jq (h3 x hx) hb hK⟩,g,n',cap',e',hg⟩;rw[e]at e';injection e' with e1
 rw[ea]at e1;injection e1 with e1
 subst e1;have:=hK _ hm;simp at this;omega
theorem But.AP {K:List Nat} {w0 u u':World} (hE:Ev w0 u) (hb:But K u u') (hK:∀k∈K,w0.heap.size≤k):Ev w0 u':=((But.aS hE).then hb).ev hK
theorem Jr (l:List By) (X:List M) (A1 A2:Option Addr) (n cap1 cap2 b0:Nat) (w:World) (h1:Ss w A1 n cap1 l) (h2:Es w A2 n cap2 X) (hn:n≤100000) (hlx:∀x∈X,Lx b0 [] w x) (hrt:∀x∈X,dK x.t=true∧x.t.size≤16000∧x.t.every (fun t=>decide (t.s.length≤1000000))=true):
  Calls Tryz.prog 102 #[.slice A1 n cap1,.slice A2 n cap2] w (mf (List.zipWith bG l (X.map M.t)) w):=by
 have fJ:Tryz.prog.follows .mixedOrders=true:=by kernel_rfl
 have ag5:=h1.le;have ak2:=h1.max;have ag6:=h2.le;have ak3:=h2.max;have HL1:=zq h1.len;have HL2:=zq h2.len;have H1:=zq h1;have H2:=zq h2;have jR:=zq (kM.start w);have HTR:=zq (fun x (hx:x∈X) w1 (hE:Ev w w1)=>VT x b0 w1 ((hlx x hx).ev hE) (hrt x hx).1 (hrt x hx).2.1 (hrt x hx).2.2);unfold mf;clear h1 h2 hlx hrt;go_enter Tryz.func102,Tryz.ntmps102;go_wp2
 go_loopw [5,12] (fun av iv wr=>∃(A3:Option Addr) (cap3 k:Nat) (L:List M),av=.slice A3 k cap3∧iv=.int .i64 (k:Int)∧k≤n∧Hid (L.map M.t=(List.zipWith bG l (X.map M.t)).take k)∧Hid (kM w A3 k cap3 L wr)) (fun _ iv _=>n - (intOf iv).toNat)
 case atStart=>exact⟨none,0,0,[],rfl,rfl,atG _,zq rfl,jR⟩
 case round=>
  obtain⟨A3,cap3,k,L,rfl,rfl,hk,qI,HS⟩:=hrel;by_cases hlt:k<n
  ·obtain⟨s,hs⟩:=H1.out.at hlt;obtain⟨x,hx⟩:=H2.out.at hlt;obtain⟨b,off,rfl,hb,hc⟩:=H1.out.rd (by omega);have n0:=hc k s hs 0 _ rfl;simp only[avf,atW]at n0;obtain⟨b2,xM,rfl,hb2,x0,x1,x2,x3⟩:=Es.cell H2.out hx;unfold M.kv at x3;have iF:=atw hx;have HT:=zq (HTR.out x iF);have pI:Hid ((List.zipWith bG l (X.map M.t)).take (k+1)=(List.zipWith bG l (X.map M.t)).take k++[bG s x.t]):=zq (by
    have hz:(List.zipWith bG l (X.map M.t))[k]?=some (bG s x.t):=by rw[List.getElem?_zipWith,hs,aul,hx];rfl
    obtain⟨hk2,e1⟩:=atr.1 hz;rw[atD hk2,e1])
   have uS:=zq HS.out.len;have i1:(0:Int)≤(k:Int):=by omega
   have i2:(k:Int)<(n:Int):=by omega
   clear hs hx hc iF;go_upto_region 5 with fail
   have F9:∀f∈([(11,26,FT wr.heap.size (xTree x.t)),(12,27,FM wr.heap.size [xTree x.t])]:List (Nat×Nat×(List Nat→Value→World→Prop))),JF f.2.2:=fun f hf=>by simp at hf;rcases hf with rfl|rfl;exact FT.jf _ _;exact FM.jf _ _
   have ZU:∀f∈([(11,26,FT wr.heap.size (xTree x.t)),(12,27,FM wr.heap.size [xTree x.t])]:List (Nat×Nat×(List Nat→Value→World→Prop))),f.1≠6∧f.2.1≠21:=fun f hf=>by simp at hf;rcases hf with rfl|rfl<;>simp
   have aeG:∀y∈foot (.slice A3 k cap3),y<wr.heap.size:=fun y hy=>(HS.out.own.lt (aB.1 hy)).2;refine mP fJ (fun u=>Ev w u∧wr.heap.size≤u.heap.size) (fun p u u'=>match p with|0=>True|1=>But (foot (.slice A3 k cap3)) u u'|_+2=>False) [13,16] (fun p u=>p≤1→Ev wr u) [5] [[13,14,15,16,17],[16,17]] 13 [fun v _=>v=.slice A3 k cap3,fun v _=>v=.slice (some ⟨b,off,none⟩) n cap1,fun v _=>v=.int .i64 (k:Int),fun v _=>v=.pointer (some ⟨b,off+k,none⟩),fun v _=>v=.string ⟨s.toArray⟩,VU s,fun _ _=>True,fun v _=>v=.slice (some ⟨b2,xM,none⟩) n cap2,fun v _=>v=.int .i64 (k:Int),fun v _=>v=.pointer (some ⟨b2,xM+k*4,none⟩),fun v _=>v=.agg #[.int .i64 x.kind,.string ⟨x.s.toArray⟩,.int .i64 x.n,.slice x.A x.kids.length x.cap],fun _ _=>True,fun _ _=>True,vI wr.heap.size [aN s,xTree x.t],FT wr.heap.size (bG s x.t) [],FMn wr.heap.size [bG s x.t],vI w.heap.size (L.map M.t++[bG s x.t]),vI w.heap.size (L.map M.t++[bG s x.t])]
    34 2 rfl (by kernel_rfl) ⟨az _,az _,az _,az _,az _,VU.mono s,eG,az _,az _,az _,az _,eG,eG,vI.mono _ _,FT.mono _ _ _,FMn.mono _ _,vI.mono _ _,vI.mono _ _,trivial⟩ ⟨Or.inr fun p=>Or.inr fun _ _ _ _ h=>h,Or.inr fun p=>Or.inr fun _ _ _ _ h=>h,Or.inr fun p=>Or.inr fun _ _ _ _ h=>h,Or.inr fun p=>Or.inr fun _ _ _ _ h=>h,Or.inr fun p=>Or.inr fun _ _ _ _ h=>h,Or.inl rfl,Or.inr fun p=>Or.inr fun _ _ _ _ h=>h,Or.inr fun p=>Or.inr fun _ _ _ _ h=>h,Or.inr fun p=>Or.inr fun _ _ _ _ h=>h,Or.inr fun p=>Or.inr fun _ _ _ _ h=>h,Or.inr fun p=>Or.inr fun _ _ _ _ h=>h,Or.inr fun p=>Or.inr fun _ _ _ _ h=>h,Or.inr fun p=>Or.inr fun _ _ _ _ h=>h,Or.inr fun p=>match p with|0=>Or.inl rfl|1=>Or.inr fun _ _ _ hb h=>h.but hb aeG|_+2=>Or.inr fun _ _ _ hb h=>hb.elim,Or.inr fun p=>match p with|0=>Or.inl rfl|1=>Or.inr fun _ _ _ hb h=>h.but hb aeG|_+2=>Or.inr fun _ _ _ hb h=>hb.elim,Or.inr fun p=>match p with|0=>Or.inl rfl|1=>Or.inr fun _ _ _ hb h=>h.but hb aeG|_+2=>Or.inr fun _ _ _ hb h=>hb.elim,Or.inr fun p=>match p with|0=>Or.inl rfl|1=>Or.inl rfl|_+2=>Or.inr fun _ _ _ hb h=>hb.elim,Or.inr fun p=>match p with|0=>Or.inl rfl|1=>Or.inl rfl|_+2=>Or.inr fun _ _ _ hb h=>hb.elim,trivial⟩ (by kernel_rfl) rfl (by kernel_rfl) (fun p u u' hE h hp=>(h hp).trans hE) (fun u u' hE h=>⟨h.1.trans hE,atP h.2 hE.size⟩) (⟨HS.out.ev,att _⟩) (fun _=>Ev.refl _) (by kernel_rfl) (GJ 6 21 (vI wr.heap.size [aN s]) [(11,26,FT wr.heap.size (xTree x.t)),(12,27,FM wr.heap.size [xTree x.t])]) [6,11,12] (by kernel_rfl) (fun L L' a a' u u' hL ha hE h=>GJ.keep (fun v u u' hE h=>h.ev hE) F9 (hL 6 (by decide)) (fun f hf=>by simp at hf;rcases hf with rfl|rfl<;>exact hL _ (by simp)) (ha 6 (by decide) _ (by kernel_rfl)) (fun f hf=>by simp at hf;rcases hf with rfl|rfl;exact ha 11 (by simp) 26 (by kernel_rfl);exact ha 12 (by simp) 27 (by kernel_rfl)) hE h) (fun L hL=>GJ.none hL) ?_ ?_ ?_ ?_
   ·refine aI 0 ?_ (aI 1 ?_ (aI 2 ?_ (aI 3 ?_ (aI 4 ?_ (aI 5 ?_ (cu 6 (by decide) (aI 7 ?_ (aI 8 ?_ (aI 9 ?_ (aI 10 ?_ (cu 11 (by decide) (cu 12 (by decide) (cu 13 (by decide) (aI 14 ?_ (aI 15 ?_ (cu 16 (by decide) (aI 17 ?_ (oL 18))))))))))))))))));refine d_ fun a w c=>⟨(ay rfl),_,run_move _ rfl w,(c.was 5 rfl)⟩
    refine d_ fun a w c=>⟨(ay rfl),_,run_move _ rfl w,(c.was 0 rfl)⟩
    refine d_ fun a w c=>⟨(ay rfl),_,run_move _ rfl w,(c.was 6 rfl)⟩
    ·refine d_ fun a w c=>⟨(ay rfl),.pointer (some ⟨b,off+k,none⟩),?_,rfl⟩
     have e16:a.eval (.tmp 16)=.slice (some ⟨b,off,none⟩) n cap1:=(c.new 1 16)
     have e17:a.eval (.tmp 17)=.int .i64 (k:Int):=(c.new 2 17)
     generalize a.eval=ρ at e16 e17⊢;simp[execOp,e16,e17,go_sem,i1,i2]
    ·refine d_ fun a wq c=>⟨(ay rfl),.string ⟨s.toArray⟩,?_,rfl⟩
     have bI:a.eval (.tmp 18)=.pointer (some ⟨b,off+k,none⟩):=(c.new 3 18)
     have q0:=(c.inv.1.cell (p:=⟨b,off+k,none⟩) hb).trans n0;generalize a.eval=ρ at bI⊢;simp[execOp,bI,q0,go_sem]
    refine wX fun a wq c=>⟨(ay rfl),_,_,oO s rfl (c.new 4 19) wq,Ev.alloc _ _,⟨c.inv.1.trans (Ev.alloc wq _),atP c.inv.2 (Ev.alloc wq _).size⟩,⟨_,rfl,Ss.made wq [s] _ rfl (by simp)⟩⟩
    refine d_ fun a w c=>⟨(ay rfl),_,run_move _ rfl w,(c.was 1 rfl)⟩
    refine d_ fun a w c=>⟨(ay rfl),_,run_move _ rfl w,(c.was 6 rfl)⟩
    ·refine d_ fun a w c=>⟨(ay rfl),.pointer (some ⟨b2,xM+k*4,none⟩),?_,rfl⟩
     have e22:a.eval (.tmp 22)=.slice (some ⟨b2,xM,none⟩) n cap2:=(c.new 7 22)
     have e23:a.eval (.tmp 23)=.int .i64 (k:Int):=(c.new 8 23)
     generalize a.eval=ρ at e22 e23⊢;simp[execOp,e22,e23,go_sem,i1,i2]
    ·refine d_ fun a wq c=>⟨(ay rfl),.agg #[.int .i64 x.kind,.string ⟨x.s.toArray⟩,.int .i64 x.n,.slice x.A x.kids.length x.cap],?_,rfl⟩
     have bI:a.eval (.tmp 24)=.pointer (some ⟨b2,xM+k*4,none⟩):=(c.new 9 24)
     have q0:=(c.inv.1.cell (p:=⟨b2,xM+k*4,none⟩) hb2).trans x0;have q1:=(c.inv.1.cell (p:=⟨b2,xM+k*4+1,none⟩) hb2).trans x1;have q2:=(c.inv.1.cell (p:=⟨b2,xM+k*4+2,none⟩) hb2).trans x2;have q3:=(c.inv.1.cell (p:=⟨b2,xM+k*4+3,none⟩) hb2).trans x3;generalize a.eval=ρ at bI⊢;simp[execOp,bI,q0,q1,q2,q3,go_sem]
    refine ZJ fun a wq c=>?_;obtain⟨A_,n_,cap_,Z_,e_,hO_,hZ_⟩:=(c.got 13 28 (by kernel_rfl) (by kernel_rfl) (by kernel_rfl) rfl:vI wr.heap.size [aN s,xTree x.t] _ _)
    refine⟨ay rfl,103,#[.slice A_ n_ cap_],?_,?_⟩;rw[bP 103 _ _ rfl (by kernel_rfl)];simp[e_];refine (mV A_ n_ cap_ wq).mono ?_;rintro r wp ⟨rfl,mY⟩;obtain⟨UM,uU⟩:=hO_.done;exact⟨_,rfl,mY,⟨c.inv.1.trans mY,atP c.inv.2 mY.size⟩,⟨.mk 1 [] 0 A_ cap_ Z_ 0,by rw[uU];rfl,by simp only[M.t,M.ji];rw[hZ_];rfl,UM.ev mY⟩⟩;refine wX fun a wq c=>?_;obtain⟨m_,e_,ht_,UM⟩:=(c.got 14 29 (by kernel_rfl) (by kernel_rfl) (by kernel_rfl) rfl:FT wr.heap.size (bG s x.t) [] _ _)
    exact⟨(ay rfl),_,_,uA m_ rfl e_ wq,Ev.alloc _ _,⟨c.inv.1.trans (Ev.alloc wq _),atP c.inv.2 (Ev.alloc wq _).size⟩,FT.slice m_ ht_ UM,_,_,_,rfl,c.inv.2⟩;refine d_ fun a w c=>⟨(ay rfl),_,run_assign _ rfl w,(c.new 16 31)⟩
   refine jb rfl ?_ (jb rfl ?_ (jb rfl ?_ Hl));refine kV fun a wq L c hs hp hu hg=>?_;obtain⟨g_,e_,hS_⟩:=(c.got 5 20 (by kernel_rfl) (by kernel_rfl) (by kernel_rfl) rfl:VU s _ _)
   refine⟨ay rfl,100,#[.slice (some ⟨g_,0,none⟩) 1 1],?_,?_⟩;rw[bP 100 _ _ rfl (by kernel_rfl)];simp[e_];refine (j_ [s] _ 1 1 wq hS_ (by omega)).mono ?_;rintro r wp uV;obtain⟨v_,rfl,F_,uU,mY⟩:=uV.p0 (b0:=wr.heap.size) c.inv.2;exact⟨v_,rfl,mY,⟨c.inv.1.trans mY,atP c.inv.2 mY.size⟩,trivial,fun L' h1 h2=>GJ.first F9 hg hu mY ZU (auB (by decide:21<34) hs.symm) F_ uU h1 h2⟩;refine kV fun a wq L c hs hp hu hg=>?_;have e_:a.eval (.tmp 25)=.agg #[.int .i64 x.kind,.string ⟨x.s.toArray⟩,.int .i64 x.n,.slice x.A x.kids.length x.cap]:=(c.new 10 25)
   refine⟨ay rfl,101,#[.agg #[.int .i64 x.kind,.string ⟨x.s.toArray⟩,.int .i64 x.n,.slice x.A x.kids.length x.cap]],?_,?_⟩;rw[bP 101 _ _ rfl (by kernel_rfl)];simp[e_];refine (HT.out wq c.inv.1).mono ?_;rintro r wp ⟨m_,rfl,ht_,UM,mY⟩;refine⟨_,rfl,mY,⟨c.inv.1.trans mY,atP c.inv.2 mY.size⟩,trivial,fun L' h1 h2=>GJ.other (fun v u u' hE h=>h.ev hE) F9 hg mY (by decide) (fun f hf hne=>?_) (auB (by decide:26<34) hs.symm) (fun f hf he=>?_) h1 h2⟩;simp at hf;rcases hf with rfl|rfl;exact absurd rfl hne;simp;simp at hf;rcases hf with rfl|rfl;exact⟨rfl,m_,rfl,ht_,(UM.less fun y hy=>.inr (.inl (hg.old y hy))).low c.inv.2⟩;simp at he;refine EJ fun a wq L c hs hp hu hg=>?_;obtain⟨m_,e_,ht_,UM⟩:=hg.2 (11,26,FT wr.heap.size (xTree x.t)) (by simp) (hp 11 (by kernel_rfl));refine⟨ay rfl,_,_,uA m_ rfl e_ wq,Ev.alloc _ _,⟨c.inv.1.trans (Ev.alloc wq _),atP c.inv.2 (Ev.alloc wq _).size⟩,trivial,fun L' h1 h2=>GJ.other (fun v u u' hE h=>h.ev hE) F9 hg (Ev.alloc _ _) (by decide) (fun f hf hne=>?_) (auB (by decide:27<34) hs.symm) (fun f hf he=>?_) h1 h2⟩;simp at hf;rcases hf with rfl|rfl;simp;exact absurd rfl hne;simp at hf;rcases hf with rfl|rfl;simp at he;exact⟨rfl,FT.slice m_ ht_ UM⟩;refine gy 0 rfl ?_ (gy 1 rfl ?_ (qM 2));refine wY fun a wq c st hg=>?_;obtain⟨L_,UN,ZV⟩:=hg rfl;have F_:=ZV.1 (UN 6 (by kernel_rfl));have LY:=ZV.2 (12,27,FM wr.heap.size [xTree x.t]) (by simp) (UN 12 (by kernel_rfl));rw[if_pos (UN 6 (by kernel_rfl))]at LY;obtain⟨v_,w_,hr_,OM,Jn⟩:=ku (o:=⟨some 28,_,_,_,_,_⟩) rfl rfl rfl F_ LY (by simp) c.inv.2;exact⟨ay rfl,v_,w_,hr_,trivial,⟨But.AP c.inv.1 Jn fun y hy=>atP HS.out.ev.size (F_.oN y hy).1,atP c.inv.2 Jn.size⟩,fun _=>But.AP (st (by omega)) Jn fun y hy=>(F_.oN y hy).1,OM⟩;refine wY fun a wq c st hg=>?_;have LY:=(c.got 15 30 (by kernel_rfl) (by kernel_rfl) (by kernel_rfl) rfl:FMn wr.heap.size [bG s x.t] _ _)
   have e_:a.eval (.tmp 15)=.slice A3 k cap3:=(c.new 0 15)
   have hK_:=HS.out.on (st (by omega));have F_:vI w.heap.size (L.map M.t) (.slice A3 k cap3) wq:=⟨A3,k,cap3,L,rfl,hK_.owt (att _),rfl⟩
   have ak4:∀y∈foot (.slice A3 k cap3),y<wr.heap.size:=fun y hy=>(HS.out.own.lt (aB.1 hy)).2;obtain⟨⟨B_,n_,cap_,Z_,e2_,Xq,hz_,UM⟩,_⟩:=LY;have hM_:FM w.heap.size [bG s x.t] (foot (.slice A3 k cap3)) (a.eval (.tmp 30)) wq:=⟨B_,n_,cap_,Z_,e2_,Xq,hz_,fun y hy=>((UM y hy).less fun z hz=>.inr (.inl (ak4 z hz))).low HS.out.ev.size⟩
   obtain⟨v_,w_,hr_,OM,Jn⟩:=ku (o:=⟨some 31,_,_,_,_,_⟩) rfl e_ rfl F_ hM_ (by rw[atq,uS.out];simp;omega) c.inv.1.size;exact⟨ay rfl,v_,w_,hr_,Jn,⟨But.AP c.inv.1 Jn fun y hy=>(HS.out.own.lt (aB.1 hy)).1,atP c.inv.2 Jn.size⟩,(fun h=>by omega),OM⟩;intro sl wB hI hold hnew hst;obtain⟨A4,n4,cap4,L4,f5,hO4,hL4⟩:=(hnew 17 5:vI w.heap.size (L.map M.t++[bG s x.t]) (sl 5) wB)
   have f0:sl 0=.slice (some ⟨b,off,none⟩) n cap1:=hold 0;have f1:sl 1=.slice (some ⟨b2,xM,none⟩) n cap2:=hold 1;have f2:sl 2=undef:=hold 2;have f3:sl 3=undef:=hold 3;have f4:sl 4=.slice none 0 0:=hold 4;have f6:sl 6=.int .i64 (k:Int):=hold 6;have f7:sl 7=.slice (some ⟨b,off,none⟩) n cap1:=hold 7;have f8:sl 8=.int .i64 (n:Int):=hold 8;have f9:sl 9=.slice (some ⟨b2,xM,none⟩) n cap2:=hold 9;have f10:sl 10=.int .i64 (n:Int):=hold 10;have f11:sl 11=.int .i64 (n:Int):=hold 11;have f12:sl 12=.int .i64 (k:Int):=hold 12;have f13:sl 13=.bool true:=hold 13;have f14:sl 14=.int .i64 (k:Int):=hold 14;have f32:sl 32=u32:=hold 32;have f33:sl 33=undef:=hold 33;change (_:Act→World→Prop) ⟨_,_⟩ _;simp only[List.range,List.range.loop,List.map];simp only[f5,f0,f1,f2,f3,f4,f6,f7,f8,f9,f10,f11,f12,f13,f14,f32,f33];clear hold hnew;have hn4:n4=k+1:=by have h5:=congrArg List.length hL4;rw[atq,hO4.len,atv,atq,uS.out]at h5;simpa using h5
   subst hn4;have HK4:=zq (⟨hO4.own,hO4.len,hO4.lies,hI.1⟩:kM w A4 (k+1) cap4 L4 wB);have HL4:=zq hL4;clear hO4 hL4 hst hI F9 ZU n0 x0 x1 x2 x3;go_wp2;go_roundw
   case rel=>exact⟨A4,cap4,k+1,L4,rfl,by go_num,by omega,zq (by rw[pI.out,HL4.out,qI.out]),HK4⟩
   case measure=>simp[intOf];omega
  obtain rfl:k=n:=by omega
  have HF:Hid (L.map M.t=List.zipWith bG l (X.map M.t)):=zq (by
   have h1:=qI.out;rwa [atJ (by rw[au3,atq,HL1.out,HL2.out];omega)]at h1)
  go_wp2;go_ret;exact⟨A3,_,cap3,L,rfl,HS.out,HF.out⟩
end Go.Proofs.YtpbfokkocaemlaaGreatDoor
