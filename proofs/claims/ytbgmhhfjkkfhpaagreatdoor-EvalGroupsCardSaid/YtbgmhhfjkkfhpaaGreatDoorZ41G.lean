import Derived.StillTailTactics
import Derived.Test.YtbgmhhfjkkfhpaaGreatDoorZ40G
set_option linter.unusedVariables false
set_option maxRecDepth 100000
set_option maxHeartbeats 64000000
namespace Go.Proofs.YtbgmhhfjkkfhpaaGreatDoor
open Go.RowKit
open Go.Lib renaming hid → zq
open Go renaming World → ak
open Go renaming Value → au
open Go.Proofs.Tryz renaming prog → ax
variable {U:Prop}
open Go.Proofs.Tryz
theorem Tryz.rY:(Tryz.prog.info? 42).map (·.size)=some 3:=ah
theorem aeF(w:ak)(a b:V):∃w0,(w.alloc (.cells #[.int .i64 a.1,.int .i64 a.2.1,.string a.2.2] 42)).alloc (.cells #[.int .i64 b.1,.int .i64 b.2.1,.string b.2.2] 42)=w0/\Ev w w0/\Bx 42 w.heap.size #[.int .i64 a.1,.int .i64 a.2.1,.string a.2.2] w0/\Bx 42 (w.heap.size+1) #[.int .i64 b.1,.int .i64 b.2.1,.string b.2.2] w0/\w0.heap.size=w.heap.size+2:=by have hB:=Bx.new 42 #[.int .i64 b.1,.int .i64 b.2.1,.string b.2.2] (w.alloc (.cells #[.int .i64 a.1,.int .i64 a.2.1,.string a.2.2] 42));rw[show (w.alloc (.cells #[.int .i64 a.1,.int .i64 a.2.1,.string a.2.2] 42)).heap.size=w.heap.size+1 by simp]at hB;exact⟨_,rfl,(Ev.alloc w _).trans aC,(Bx.new 42 #[.int .i64 a.1,.int .i64 a.2.1,.string a.2.2] w).ev aC,hB,aj⟩
theorem PV(a b:V)(w:ak):Calls ax 202 #[vv a.1 a.2.1 a.2.2,vv b.1 b.2.1 b.2.2] w λe w'=>e=.returned (.bool (sZ a b))/\Ev w w':=by
 obtain⟨w0,hw0,aV,hA,hB,hs0⟩:=aeF w a b;obtain⟨⟨a0,a1,a2⟩,_⟩:=hA.three;have HE:=zq aV;obtain⟨⟨b0,b1,b2⟩,_⟩:=(hB.ev (Ev.alloc w0 (.cells #[.int .i64 a.1,.int .i64 a.2.1,.string a.2.2] 42))).three;have hL:=Dx (a:=[a]) (b:=[b]) ((w0.alloc (.cells #[.int .i64 a.1,.int .i64 a.2.1,.string a.2.2] 42)).alloc (.cells #[.int .i64 b.1,.int .i64 b.2.1,.string b.2.2] 42)) ((Sl.one (et:=42) Ll w0 a _ rfl).ev aC) (Sl.one (et:=42) Ll (w0.alloc (.cells #[.int .i64 a.1,.int .i64 a.2.1,.string a.2.2] 42)) b _ rfl);rw[show (w0.alloc (.cells #[.int .i64 a.1,.int .i64 a.2.1,.string a.2.2] 42)).heap.size=w.heap.size+2+1 by simp[hs0],hs0]at hL;have HL:=zq hL;clear hL;unfold sZ;clear aV hA hB;go_enter func202,ntmps202
 go_wp2_with (first
  | ((with_reducible refine(HL.out).mono ?_);rintro e w1 ⟨rfl,aJ⟩;have E1:=zq (HE.out.trans ((Ev.alloc w0 _).trans (aC.trans aJ)))))
 go_ret;exact⟨rfl,E1.out⟩
theorem abJ(a b:V)(w:ak):Calls ax 203 #[vv a.1 a.2.1 a.2.2,vv b.1 b.2.1 b.2.2] w λe w'=>e=.returned (.bool (xI a b))/\Ev w w':=by
 obtain⟨w0,hw0,aV,hA,hB,hs0⟩:=aeF w a b;obtain⟨⟨a0,a1,a2⟩,_⟩:=hA.three;obtain⟨⟨b0,b1,b2⟩,_⟩:=hB.three;have HE:=zq aV;have HL:=zq (λw1=>PV b a w1);unfold xI;clear aV hA hB;go_enter func203,ntmps203
 go_wp2_with (first
  | ((with_reducible refine(HL.out _).mono ?_);rintro e w1 ⟨rfl,aJ⟩))
 go_ret;exact⟨rfl,HE.out.trans aJ⟩
theorem PW(n:Int)(w:ak):Calls ax 204 #[↑n] w λe w'=>e=.returned (vv 1 n ⟨#[]⟩)/\Ev w w':=by go_enter func204,ntmps204;go_wp2;refine aFe (Dn rfl _ _ w.heap.size 1 n ⟨#[]⟩ rfl (aFd w _)) rfl ?_;exact⟨rfl,Ev.alloc _ _⟩
theorem eQ.at{l:List I}{w:ak}{A:Option Addr}{n cap:Nat}(h:eQ l w A n cap){k:Nat}(hk:k<n):∃b off z,A=some ⟨b,off,none⟩/\b<w.heap.size/\l[k]?=some z.2/\w.cell? ⟨b,off+k*2,none⟩=some (nK z)/\w.cell? ⟨b,off+k*2+1,none⟩=some (nP z)/\Vs w z.1.1 z.1.2.1 z.1.2.2 z.2.1:=by obtain⟨Z,hZ,rfl⟩:=h;obtain⟨b,off,z,e,hb,_,hz,c0,c1,hv⟩:=hZ.at hk;exact⟨b,off,z,e,hb,by unfold aK;rw[aDG,hz];rfl,c0,c1,hv⟩
theorem eQ.le{l:List I}{w:ak}{A:Option Addr}{n cap:Nat}(h:eQ l w A n cap):n<=cap/\cap<=9223372036854775807:=by obtain⟨Z,hZ,rfl⟩:=h;exact⟨hZ.le,hZ.max⟩
theorem ZU(w:ak)(z:J):∃w0,w.alloc (.cells #[.slice z.1.1 z.1.2.1 z.1.2.2,.complex .f64 (fl z.2.2.1) (fl z.2.2.2)] 47)=w0/\Ev w w0/\Bx 47 w.heap.size #[.slice z.1.1 z.1.2.1 z.1.2.2,.complex .f64 (fl z.2.2.1) (fl z.2.2.2)] w0/\w0.heap.size=w.heap.size+1:=⟨_,rfl,Ev.alloc _ _,Bx.new _ _ _,aj⟩
theorem aoC(w:ak)(x:V):∃w0,(w.alloc (.cells #[.int .i64 0,.int .i64 0,.string ⟨#[]⟩] 42)).alloc (.cells #[.int .i64 x.1,.int .i64 x.2.1,.string x.2.2] 42)=w0/\Ev w w0/\Bx 42 w.heap.size #[.int .i64 0,.int .i64 0,.string ⟨#[]⟩] w0/\Bx 42 (w.heap.size+1) #[.int .i64 x.1,.int .i64 x.2.1,.string x.2.2] w0:=by obtain⟨w0,h1,h2,h3,h4,_⟩:=aeF w (0,0,⟨#[]⟩) x;exact⟨w0,h1,h2,h3,h4⟩
def xP(bf:V->V->Bool)(l:List V)(k:Nat):V:=(l.take k).foldl (λv y=>if bf y v then y else v) (l.headD lg)
theorem Vf{bf:V->V->Bool}{l:List V}{k:Nat}{y:V}(hy:l[k]?=some y):xP bf l (k+1)=if bf y (xP bf l k) then y else xP bf l k:=by obtain⟨hk,rfl⟩:=aC6.1 hy;unfold xP;rw[aDi hk,aEz];rfl
theorem X0{bf:V->V->Bool}{l:List V}{k:Nat}(hk:l.length<=k)(h0:l≠[]):xP bf l k=vG bf lg l:=by
 unfold xP;rw[aDj hk]
 cases l with
 | nil=>exact absurd rfl h0
 | cons x l=>rfl
theorem Vg{A:Option Addr}{n cap:Nat}{g:List I}(i:Nat)(bf:V->V->Bool)(F:FuncId)(w:ak)(h:eQ g w A n cap)(h0:0<n)(hin:∀x∈g,i<x.1.length)(hbd:E_ ax F=true)
  (hF:∀(a b:V) (w:ak),Calls ax F #[vv a.1 a.2.1 a.2.2,vv b.1 b.2.1 b.2.2] w λe w'=>e=.returned (.bool (bf a b))/\Ev w w') (z:V) (hz:z=vG bf lg (g.map λx=>jT x.1 i)):
  Calls ax 201 #[.slice A n cap,↑i,.func (.func F) #[] #[]] w λe w'=>e=.returned (vv z.1 z.2.1 z.2.2)/\Ev w w':=by
 have hst:=f_;have hent:∀(args:Array au) (w:ak),(callFunc F args).run ax w=.ok (.enter F args) w:=λargs w=>Ff hbd args w;have dH:Tryz.prog.follows .mixedOrders=true:=ah;obtain⟨uC,hn2⟩:=h.le;have HL:=zq h.len;have H:=zq h;have WS:=zq hin;have HF:=zq hF;have HZ:=zq hz;obtain⟨b,off,x0,rfl,hb,hx0,c0,c1,hv0⟩:=h.at h0;unfold nK at c0;have uj:=hin x0.2 (aDb hx0);rw[hv0.len]at uj;obtain⟨b2,jC,e2,hb2,d0,d1,d2⟩:=Vs.tC hv0 uj;have hvl:=hv0.le;have hvm:=hv0.max;obtain⟨⟨xA,xn,xc⟩,xr,xp,xq⟩:=x0;simp only at c0 c1 e2 d0 d1 d2 uj hvl hvm hx0;subst e2;obtain⟨v0,alc⟩:∃v0,v0=jT xr i:=⟨_,rfl⟩
 rw[<-alc]at d0 d1 d2;obtain⟨w0,hw0,aV,hX,hB⟩:=aoC w v0;have HX:=zq hX;have HB:=zq hB;have HE:=zq aV;have rE:Hid (v0=xP bf (g.map λx=>jT x.1 i) 0):=zq (by
  rw[alc];unfold xP
  cases g with
  | nil=>simp at hx0
  | cons y g=>simp at hx0;rw[hx0];rfl)
 have i3:(0:Int)<=(i:Int):=ae;have i4:(i:Int)<(xn:Int):=ae;have i5:(0:Int)<(n:Int):=ae;simp only[aDH,aDw]at c0 c1;have k0:=(Ev.alloc w (.cells #[.int .i64 0,.int .i64 0,.string ⟨#[]⟩] 42)).cell (p:=⟨b,off,none⟩) hb;clear h hin hF hz hv0 hx0 hX hB aV alc c1;go_enter func201,ntmps201;go_wp2
 go_loopw [19] (λiv wr=>∃(k:Nat) (cur:V),iv=↑k/\k<=n/\Hid (cur=xP bf (g.map λx=>jT x.1 i) k)/\Hid (Bx 42 w.heap.size #[.int .i64 0,.int .i64 0,.string ⟨#[]⟩] wr)/\Hid (Bx 42 (w.heap.size+1) #[.int .i64 cur.1,.int .i64 cur.2.1,.string cur.2.2] wr)/\Hid (Ev w wr)) (λiv _=>n-(intOf iv).toNat)
 case atStart=>exact⟨0,v0,rfl,aDl _,rE,HX,HB,HE⟩
 case round=>
  obtain⟨k,cur,rfl,hk,HV,HXr,HBr,HEr⟩:=hrel;obtain⟨⟨v_0,v_1,v_2⟩,z0,z1,z2⟩:=HBr.out.three;by_cases hlt:k<n
  ·obtain⟨b3,azl,x,e3,hb3,hx,d0,d1,hv⟩:=(H.out.ev HEr.out).at hlt;injection e3 with e3
   injection e3 with e4 e5 _
   subst e4 e5;unfold nK at d0;unfold nP at d1;have hi:=WS.out x.2 (aDb hx);rw[hv.len]at hi;obtain⟨wx,hwx,qV,hX,hsx⟩:=ZU wr x;obtain⟨⟨x0,x1⟩,_⟩:=hX.two;obtain⟨bv,ov,ev,hbv,y0,y1,y2⟩:=Vs.tC (hv.ev qV) hi;have hvl:=hv.le;have hvm:=hv.max;have HST:=zq (Vf (bf:=bf) (l:=g.map λx=>jT x.1 i) (k:=k) (y:=jT x.2.1 i) (by rw[aDG,hx];rfl));rw[<-HV.out]at HST;obtain⟨y,hy⟩:∃y,y=jT x.2.1 i:=⟨_,rfl⟩
   rw[<-hy]at HST y0 y1 y2;have u0:=(qV.cell (p:=⟨w.heap.size+1,0,none⟩) HBr.out.lt).trans v_0;have u1:=(qV.cell (p:=⟨w.heap.size+1,1,none⟩) HBr.out.lt).trans v_1;have u2:=(qV.cell (p:=⟨w.heap.size+1,2,none⟩) HBr.out.lt).trans v_2;have Jt:=zq qV;have HXX:=zq hX;have HFY:=zq (λw1=>HF.out y cur w1);obtain⟨⟨xA,xn,xc⟩,xr,xp,xq⟩:=x;simp only at d0 d1 hi hvl hvm hx x0 x1 ev hwx;subst ev;have i6:(0:Int)<=(k:Int):=ae;have i7:(k:Int)<(n:Int):=ae;have i8:(i:Int)<(xn:Int):=ae;have HY0:=zq (And.intro y0 (And.intro y1 y2));clear hv hx hX qV hy
   cases hc:bf y cur
   ·rw[hc]at HFY HST;have HFY:=zq HFY;have HST:=zq HST;clear hc;go_upto_region 5 with fail
    go_still_tail 7,ah
    generalize hwd:({heap:=wx.heap,tape:=wx.tape,drawn:=wx.drawn+1,os:=wx.os,output:=wx.output}:ak)=wd;have CE:Ev wx wd:=hwd▸Ev.drew wx;have X3:=zq CE;clear hwd CE
    go_wp2_with (first
     | ((with_reducible refine(HFY.out.out wd).mono ?_);rintro r w1 ⟨rfl,aJ⟩;have jE:=zq (Jt.out.trans (X3.out.trans aJ))))
    go_roundw
    case rel=>exact⟨k+1,cur,by go_num,ae,zq (by rw[HST.out];rfl),zq (HXr.out.ev jE.out),zq (HBr.out.ev jE.out),zq (HEr.out.trans jE.out)⟩
    case measure=>simp[intOf];omega
   rw[hc]at HFY HST;have HFY:=zq HFY;have HST:=zq HST;clear hc;go_upto_region 5 with fail
   go_still_tail 7,ah
   generalize hwd:({heap:=wx.heap,tape:=wx.tape,drawn:=wx.drawn+1,os:=wx.os,output:=wx.output}:ak)=wd;have CE:Ev wx wd:=hwd▸Ev.drew wx;have X3:=zq CE;clear hwd CE
   go_wp2_with (first
    | ((with_reducible refine(HFY.out.out wd).mono ?_);rintro r w1 ⟨rfl,aJ⟩;have jE:=zq (Jt.out.trans (X3.out.trans aJ));clear u0 u1 u2 x0 x1 y0 y1 y2 z0 z1 z2;obtain⟨⟨x0,x1⟩,_⟩:=(HXX.out.ev (X3.out.trans aJ)).two;obtain⟨_,z0,z1,z2⟩:=(HBr.out.ev jE.out).three;have y0:=(aJ.cell (p:=⟨_,_,none⟩) (aDf hbv X3.out.size)).trans ((X3.out.cell (p:=⟨_,_,none⟩) hbv).trans HY0.out.1);have y1:=(aJ.cell (p:=⟨_,_,none⟩) (aDf hbv X3.out.size)).trans ((X3.out.cell (p:=⟨_,_,none⟩) hbv).trans HY0.out.2.1);have y2:=(aJ.cell (p:=⟨_,_,none⟩) (aDf hbv X3.out.size)).trans ((X3.out.cell (p:=⟨_,_,none⟩) hbv).trans HY0.out.2.2)))
   (try simp only[Exit.inBlock,Exit.then]);rw[bM];go_roundw
   case rel=>exact⟨k+1,y,by go_num,ae,zq (by rw[HST.out];rfl),zq ((HXr.out.ev jE.out).but (bP _ _ _ _ _) aj),zq ((HBr.out.ev jE.out).kL _ _ _),zq ((HEr.out.trans jE.out).box (bP _ _ _ _ _) ae)⟩
   case measure=>simp[intOf];omega
  obtain rfl:k=n:=ae;have HZF:Hid (cur=z):=zq (by
   rw[HV.out,HZ.out];refine X0 (by rw[aC_,HL.out];exact aC8 _) (λe=>?_);have h9:=aD8 List.length e;rw[aC_,HL.out]at h9;simp at h9;omega)
  obtain⟨⟨r0,r1,r2⟩,y0,y1,y2⟩:=HXr.out.three;go_wp2;(try simp only[Exit.inBlock,Exit.then]);rw[bM];refine aFe (aZ rfl _ _ _ _ _ rfl (HXr.out.kL _ _ _) underlying42 rfl Tryz.rY) rfl ?_;rw[HZF.out];exact⟨rfl,HEr.out.box (bP _ _ _ _ _) (aC8 _)⟩
theorem Rw(n:Int)(h0:0<=n)(h1:n<9223372036854775808):IntKind.i64.wrap n=n:=by rw[IntKind.wrap_i64];omega
theorem aeG(n:Int):(BitVec.ofInt 64 n).toNat=(n % 18446744073709551616).toNat:=by rw[BitVec.toNat_ofInt];rfl
theorem MB(x:Int):bits .and .i64 x 4294967295=x % 4294967296:=by show IntKind.i64.wrap ((BitVec.ofInt 64 x&&& BitVec.ofInt 64 4294967295).toNat:Int)=_;rw[BitVec.toNat_and,aeG,show (BitVec.ofInt 64 4294967295).toNat=2 ^ 32-1 from rfl,Nat.and_two_pow_sub_one_eq_mod,show (2:Nat) ^ 32=4294967296 from rfl];rw[Rw _ ae ae];omega
def upTo(f:I->Int)(g:List I)(k:Nat):Int:=((g.take k).map f).sum
theorem PY{f:I->Int}{g:List I}{k:Nat}{x:I}(hx:g[k]?=some x):upTo f g (k+1)=upTo f g k+f x:=by obtain⟨hk,rfl⟩:=aC6.1 hx;unfold upTo;rw[aDi hk,aDk,aEb];simp
theorem MC(f:I->Int)(c:Int)(g:List I)(hg:jc g)(hf:∀x∈g,-(c*x.2.1)<=f x/\f x<=c*x.2.1)(hc:0<=c)(k:Nat):-(c*bU g)<=upTo f g k/\upTo f g k<=c*bU g:=by
 have H:∀l:List I,(∀x∈l,x∈g)->-(c*bU l)<=(l.map f).sum/\(l.map f).sum<=c*bU l:=by
  intro l
  induction l with
  | nil=>intro _;simp[bU]
  | cons x l ih=>
   intro h;obtain⟨a,b⟩:=ih λy hy=>h y (aDc _ hy);obtain⟨a',b'⟩:=hf x (h x aC');rw[aDe,aDI,ni,Int.mul_add];omega
 obtain⟨a,b⟩:=H (g.take k) λx hx=>aD2 hx;have e:bU g=bU (g.take k)+bU (g.drop k):=by rw[<-Hy,aDS]
 have h1:0<=bU (g.drop k):=(hg.sub λx hx=>aEm hx).tot.1;have h2:c*bU g=c*bU (g.take k)+c*bU (g.drop k):=by rw[e,Int.mul_add]
 have h3:0<=c*bU (g.drop k):=Int.mul_nonneg hc h1;unfold upTo;omega
theorem aHU(h:U:=by
 have bn:a.eval (.tmp 9)=.pointer ↑wr:=(c.was 9 rfl)
 generalize a.eval=ρ at bn|-;simp[execOp,bn,go_sem]):U:=h
theorem aIn(h:U:=by refine aF λa wv c=>⟨(ay rfl),_,run_move _ rfl wv,(c.was 1 rfl)⟩):U:=h
theorem ale{A:Option Addr}{n cap:Nat}{g:List I}(i:Nat)(w:ak)(h:eQ g w A n cap)(hg:jc g)(ht:bU g<=512)(hin:∀x∈g,i<x.1.length/\-2147483648<=(jT x.1 i).2.1/\(jT x.1 i).2.1<=2147483647):
  Calls ax 200 #[.slice A n cap,↑i] w λe w'=>e=.returned (.tuple #[vv 1 (qA g i) ⟨#[]⟩,.int .i64 0])/\Ev w w':=by
 have hst:=f_;have dH:Tryz.prog.follows .mixedOrders=true:=ah;obtain⟨uC,hn2⟩:=h.le;have HL:=zq h.len;have H:=zq h;have WS:=zq hin;have HG:=zq hg;have HTT:=zq ht;have hU:=MC (λx=>(jT x.1 i).2.1 / 4294967296*x.2.1) 1 g hg (λx hx=>by
  have h1:=hin x hx;have h2:=(hg.pos x hx).1;have h3:(jT x.1 i).2.1 / 4294967296=0∨(jT x.1 i).2.1 / 4294967296=-1:=ae;rcases h3 with h3|h3<;>rw[h3]<;>omega) ai
 have hLo:=MC (λx=>(jT x.1 i).2.1 % 4294967296*x.2.1) 4294967296 g hg (λx hx=>by
  have h1:=hin x hx;have h2:=(hg.pos x hx).1;have h3:0<=(jT x.1 i).2.1 % 4294967296/\(jT x.1 i).2.1 % 4294967296<=4294967296:=ae;have h4:=Int.mul_le_mul_of_nonneg_right h3.2 (show 0<=x.2.1 by omega);have h5:=Int.mul_nonneg h3.1 (show 0<=x.2.1 by omega);have h6:0<=4294967296*x.2.1:=ae;exact⟨ae,h4⟩) ai
 have HU:=zq hU;have HLO:=zq hLo;obtain⟨w0,hw0,aV,hB0⟩:∃w0,w.alloc (.cells #[.int .i64 0,.int .i64 0,.string ⟨#[]⟩] 42)=w0/\Ev w w0/\Bx 42 w.heap.size #[.int .i64 0,.int .i64 0,.string ⟨#[]⟩] w0:=⟨_,rfl,Ev.alloc _ _,Bx.new _ _ _⟩
 have um:=zq hB0;have cO:=zq aV;clear h hin hg ht hU hLo hB0 aV;go_enter func200,ntmps200;go_wp2
 go_loopw [6,7,14] (λuv lv iv wr=>∃(k:Nat) (u lo:Int),uv=↑u/\lv=↑lo/\iv=↑k/\k<=n/\Hid (u=upTo (λx=>(jT x.1 i).2.1 / 4294967296*x.2.1) g k)/\Hid (lo=upTo (λx=>(jT x.1 i).2.1 % 4294967296*x.2.1) g k)/\Hid (Ev w0 wr)) (λ_ _ iv _=>n-(intOf iv).toNat)
 case atStart=>exact⟨0,0,0,rfl,rfl,rfl,aDl _,zq rfl,zq rfl,zq aS⟩
 case round=>
  obtain⟨k,u,lo,rfl,rfl,rfl,hk,HUK,HLK,HE⟩:=hrel;have hub:=HU.out k;have hlb:=HLO.out k;rw[<-HUK.out]at hub;rw[<-HLK.out]at hlb;have htt:=HTT.out;have htn:=HG.out.tot.1;generalize hTG:bU g=TG at*;by_cases hlt:k<n
  ·obtain⟨b,off,z,rfl,hb,hx,c0,c1,hv⟩:=(H.out.ev (cO.out.trans HE.out)).at hlt;unfold nK at c0;unfold nP at c1;have Jk:=aDb hx;obtain⟨hi,BR,hv2⟩:=WS.out z.2 Jk;rw[hv.len]at hi;obtain⟨hp1,hp2⟩:=HG.out.pos z.2 Jk;have hp3:=HG.out.tot.2 z.2 Jk;rw[hTG]at hp3;have hU1:=PY (f:=λx=>(jT x.1 i).2.1 / 4294967296*x.2.1) hx;have hL1:=PY (f:=λx=>(jT x.1 i).2.1 % 4294967296*x.2.1) hx;have alf:=HU.out (k+1);have alg:=HLO.out (k+1);rw[hU1,<-HUK.out]at alf;rw[hL1,<-HLK.out]at alg;rw[<-HUK.out]at hU1;rw[<-HLK.out]at hL1;obtain⟨wx,hwx,qV,hX,hsx⟩:=ZU wr z;obtain⟨⟨x0,x1⟩,_⟩:=hX.two;obtain⟨bv,ov,ev,hbv,y0,y1,y2⟩:=Vs.tC (hv.ev qV) hi;have hvl:=hv.le;have hvm:=hv.max;have hnt:=XQ z.2.2.1 (vS.2 ae);rw[show iO z.2.2.1=z.2.2.1 by unfold iO;omega,show ji z.2.2.1=z.2.2.2 by unfold ji;omega]at hnt;have LV:=zq hnt;have HU1:=zq hU1;have HL1:=zq hL1;have Jt:=zq qV;have HXX:=zq hX;have HBV:=zq hbv;obtain⟨⟨xA,xn,xc⟩,xr,xp,xq⟩:=z;simp only at c0 c1 hi hvl hvm x0 x1 ev hwx hp1 hp2 hp3 alf alg;subst ev;obtain⟨y,hy⟩:∃y,y=(jT xr i).2.1:=⟨_,rfl⟩
   simp only[<-hy]at alf alg BR hv2 y1;have HYY:=zq hy;have hmk:=MB y;have HY1:=zq y1;have i6:(0:Int)<=(k:Int):=ae;have i7:(k:Int)<(n:Int):=ae;have i3:(0:Int)<=(i:Int):=ae;have i8:(i:Int)<(xn:Int):=ae;clear hv hx hX qV hnt Jk hU1 hL1 hTG hy hp2
   go_wp2_with fail
   refine bD dH [λv _=>v=.pointer ↑wr,λv _=>v=.slice ↑(bv,ov) xn xc,λv _=>v=↑i,λv _=>v=.pointer ↑(bv,ov+i*3),λv _=>v=.pointer ↑(bv,ov+i*3+1),λv _=>v=↑y,λv _=>v=.pointer (some ⟨wr.heap.size,1,none⟩),λv _=>v=.complex .f64 (fl xp) (fl xq),λv _=>v=↑xp,λv _=>v=↑y,λv _=>v=↑xp]
    57 rfl ah ⟨aB _,aB _,aB _,aB _,aB _,aB _,aB _,aB _,aB _,aB _,aB _,trivial⟩ ?_ ?_
   ·refine az 0 ?_ (az 1 ?_ (az 2 ?_ (az 3 ?_ (az 4 ?_ (az 5 ?_ (az 6 ?_ (az 7 ?_ (az 8 ?_ (az 9 ?_ (az 10 ?_ (eY 11)))))))))));refine aF λa wv c=>⟨(ay rfl),.pointer ↑wr,?_,rfl⟩
    exact aHU
    ·refine aF λa wv c=>⟨(ay rfl),.slice ↑(bv,ov) xn xc,?_,rfl⟩
     have bn:a.eval (.tmp 18)=.pointer ↑wr:=(c.new 0 18)
     obtain⟨⟨x0,x1⟩,_⟩:=(HXX.out.ev c.ev).two;generalize a.eval=ρ at bn|-;simp[execOp,bn,go_sem,x0]
    exact aIn
    ·refine aF λa wv c=>⟨(ay rfl),.pointer ↑(bv,ov+i*3),?_,rfl⟩
     have bn:a.eval (.tmp 19)=.slice ↑(bv,ov) xn xc:=(c.new 1 19)
     have jk:a.eval (.tmp 20)=↑i:=(c.new 2 20)
     generalize a.eval=ρ at bn jk|-;simp[execOp,bn,jk,go_sem,i3,i8]
    ·refine aF λa wv c=>⟨(ay rfl),.pointer ↑(bv,ov+i*3+1),?_,rfl⟩
     have bn:a.eval (.tmp 21)=.pointer ↑(bv,ov+i*3):=(c.new 3 21)
     generalize a.eval=ρ at bn|-;simp[execOp,bn,go_sem]
    ·refine aF λa wv c=>⟨(ay rfl),↑y,?_,rfl⟩
     have bn:a.eval (.tmp 22)=.pointer ↑(bv,ov+i*3+1):=(c.new 4 22)
     have hc:=(c.ev.cell (p:=⟨bv,ov+i*3+1,none⟩) HBV.out).trans HY1.out;generalize a.eval=ρ at bn|-;simp[execOp,bn,go_sem,hc]
    refine aF λa wv c=>⟨(ay rfl),.pointer (some ⟨wr.heap.size,1,none⟩),?_,rfl⟩
    exact aHU
    ·refine aF λa wv c=>⟨(ay rfl),.complex .f64 (fl xp) (fl xq),?_,rfl⟩
     have bn:a.eval (.tmp 24)=.pointer (some ⟨wr.heap.size,1,none⟩):=(c.new 6 24)
     obtain⟨⟨x0,x1⟩,_⟩:=(HXX.out.ev c.ev).two;generalize a.eval=ρ at bn|-;simp[execOp,bn,go_sem,x1]
    refine eP λa wv c=>⟨(ay rfl),10,#[.complex .f64 (fl xp) (fl xq)],?_,?_⟩
    rw[bK 10 _ _ rfl ah];have bn:a.eval (.tmp 25)=.complex .f64 (fl xp) (fl xq):=(c.new 7 25)
    simp[bn];refine(LV.out wv).mono ?_;rintro e wp ⟨rfl,rfl⟩;exact⟨_,rfl,Ev.refl _,rfl⟩;refine aF λa wv c=>⟨(ay rfl),_,run_assign _ rfl wv,(c.new 5 23)⟩
    refine aF λa wv c=>⟨(ay rfl),_,run_assign _ rfl wv,(c.new 8 26)⟩
   intro s wd CE hold hnew;have f0:s 0=.slice ↑(b,off) n cap:=hold 0;have f1:s 1=↑i:=hold 1;have f2:_=undef:=hold 2;have f3:_=undef:=hold 3;have f4:s 4=.pointer ↑w:=hold 4;have f5:s 5=.int .i64 0:=hold 5;have f6:s 6=↑u:=hold 6;have f7:s 7=↑lo:=hold 7;have f8:_=undef:=hold 8;have f12:s 12=.slice ↑(b,off) n cap:=hold 12;have f13:s 13=↑n:=hold 13;have f14:s 14=↑k:=hold 14;have f40:_=undef:=hold 40;have f41:_=undef:=hold 41;have f42:_=undef:=hold 42;have f43:_=undef:=hold 43;have f44:_=undef:=hold 44;have f45:_=undef:=hold 45;have f46:_=undef:=hold 46;have f47:_=undef:=hold 47;have f48:_=undef:=hold 48;have f49:_=undef:=hold 49;have f50:_=undef:=hold 50;have f51:_=undef:=hold 51;have f52:_=undef:=hold 52;have f53:_=undef:=hold 53;have f54:_=undef:=hold 54;have f55:_=undef:=hold 55;have f56:_=undef:=hold 56;have f10:s 10=↑y:=hnew 9 10;have f11:s 11=↑xp:=hnew 10 11;change Exit.then _ _ .normal ⟨_,_⟩ _;simp only[List.range,List.range.loop,List.map];simp only[f0,f1,f2,f3,f4,f5,f6,f7,f8,f12,f13,f14,f40,f41,f42,f43,f44,f45,f46,f47,f48,f49,f50,f51,f52,f53,f54,f55,f56,f10,f11];clear hold hnew;generalize s 9=u9_,s 15=Vh,s 16=Vj,s 17=X5,s 18=X6,s 19=X7,s 20=Vk,s 21=Vl,s 22=X8,s 23=X9,s 24=Ya,s 25=Yb,s 26=Yc,s 27=Yd,s 28=QP,s 29=Uk,s 30=Ye,s 31=Yf,s 32=Yg,s 33=Yh,s 34=Yi,s 35=aeH,s 36=adw,s 37=ahc,s 38=alh,s 39=ali;have X3:=zq CE;clear CE;go_wp2;go_roundw
   case rel=>exact⟨k+1,u+y / 4294967296*xp,lo+y % 4294967296*xp,rfl,rfl,by go_num,ae,zq (by rw[HU1.out,HYY.out]),zq (by rw[HL1.out,HYY.out]),zq ((HE.out.trans Jt.out).trans X3.out)⟩
   case measure=>simp[intOf];omega
  obtain rfl:k=n:=ae;have HSU:Hid (qA g i=u*4294967296+lo):=zq (by
   rw[HUK.out,HLK.out];unfold upTo qA;rw[aDj (by rw[HL.out];exact aC8 _)]
   suffices HH:∀l:List I,(l.map λx=>(jT x.1 i).2.1*x.2.1).sum=(l.map λx=>(jT x.1 i).2.1 / 4294967296*x.2.1).sum*4294967296+(l.map λx=>(jT x.1 i).2.1 % 4294967296*x.2.1).sum from HH g
   intro l
   induction l with
   | nil=>simp
   | cons x l ih=>
    simp only[aDe,aDI,Int.add_mul];have h1:(jT x.1 i).2.1*x.2.1=(jT x.1 i).2.1 / 4294967296*x.2.1*4294967296+(jT x.1 i).2.1 % 4294967296*x.2.1:=by
     conv=>lhs;rw[show (jT x.1 i).2.1=(jT x.1 i).2.1 / 4294967296*4294967296+(jT x.1 i).2.1 % 4294967296 by omega]
     rw[Int.add_mul,Int.mul_right_comm]
    omega)
  have hmk:=MB lo;obtain⟨⟨r0,r1,r2⟩,z0,z1,z2⟩:=(um.out.ev HE.out).three;have b1:-2048<=u+lo / 4294967296:=ae;have b2:u+lo / 4294967296<=2048:=ae;have b3:¬(u+lo / 4294967296 < -2147483648):=ae;have b4:¬(2147483647<u+lo / 4294967296):=ae;have HNU:=zq (λx w1=>PW x w1)
  go_wp2_with (first
   | ((with_reducible refine(HNU.out _ _).mono ?_);rintro r w1 ⟨rfl,aJ⟩;clear r0 r1 r2 z0 z1 z2;obtain⟨⟨r0,r1,r2⟩,z0,z1,z2⟩:=(um.out.ev (HE.out.trans aJ)).three))
  (try simp only[Exit.inBlock,Exit.then]);rw[bM];refine aFe (lu rfl _ _ _ _ _ rfl ((um.out.ev (HE.out.trans aJ)).kL _ _ _) underlying42 rfl Tryz.rY) rfl ?_;refine⟨?_,(cO.out.trans (HE.out.trans aJ)).box (bP _ _ _ _ _) (aC8 _)⟩;rw[HSU.out,show (u+lo / 4294967296)*4294967296+lo % 4294967296=u*4294967296+lo by omega];rfl
structure aff(t:TM):Prop where
 parts:xK t.rows
 fits:∀x∈t.rows,fitsL t.cols x.1=true
 plain:xJ t.rows=true
theorem YL(t:TM)(w:ak)(h:yI w t)(hf:aff t):
  Calls ax 39 #[.agg #[↑t.name,.slice t.cA t.cols.length t.cc,.slice t.rA t.rows.length t.rc]] w λe w'=>e=.returned (.bool false)/\Ev w w':=by
 have hst:=f_;obtain⟨w0,hw0,aV,hB,hs0⟩:=R_ w t;have HF:=zq hf.fits;have HPL:=zq (λw1 (hE:Ev w w1)=>aeo w1 (h.rows.ev hE) hf.parts);rw[hf.plain]at HPL;obtain⟨uC,hn2⟩:=h.rows.le;have HR:=zq h.rows;have HC:=zq h.cols;have HB:=zq hB;have cO:=zq aV;obtain⟨⟨t0,t1,t2⟩,_⟩:=hB.three;generalize hrn:t.rows.length=n at*;generalize t.rA=rA at*;generalize t.rc=rc at*;clear h hf hB aV hrn;go_enter func39,ntmps39;go_wp2
 go_loopw [8] (λiv wr=>∃k:Nat,iv=↑k/\k<=n/\Hid (Ev w0 wr)) (λiv _=>n-(intOf iv).toNat)
 case atStart=>exact⟨0,rfl,aDl _,zq aS⟩
 case round=>
  obtain⟨k,rfl,hk,HE⟩:=hrel;obtain⟨⟨t0,t1,t2⟩,_⟩:=(HB.out.ev HE.out).three;by_cases hlt:k<n
  ·obtain⟨b,off,z,rfl,hb,hx,c0,c1,hv⟩:=(HR.out.ev (cO.out.trans HE.out)).at hlt;unfold nK at c0;unfold nP at c1;obtain⟨wx,hwx,qV,hX,hsx⟩:=ZU wr z;obtain⟨⟨x0,x1⟩,_⟩:=hX.two;have k1:=(qV.cell (p:=⟨w.heap.size,1,none⟩) (HB.out.ev HE.out).lt).trans t1;have HFX:=zq (ado wx (HC.out.ev ((cO.out.trans HE.out).trans qV)) (hv.ev qV));rw[HF.out _ (aDb hx)]at HFX;have Jt:=zq qV;have i1:(0:Int)<=(k:Int):=ae;have i2:(k:Int)<(n:Int):=ae;clear hx hv hX qV
   go_wp2_with (first
    | ((with_reducible refine(HFX.out).mono ?_);rintro r w1 ⟨rfl,aJ⟩))
   go_roundw
   case rel=>exact⟨k+1,by go_num,ae,zq ((HE.out.trans Jt.out).trans aJ)⟩
   case measure=>simp[intOf];omega
  obtain rfl:k=n:=ae;have HP1:=zq (HPL.out wr (cO.out.trans HE.out))
  go_wp2_with (first
   | ((with_reducible refine(HP1.out).mono ?_);rintro r w1 ⟨rfl,aJ⟩))
  go_ret;exact⟨rfl,(cO.out.trans HE.out).trans aJ⟩
theorem Sj{A:Option Addr}{n cap:Nat}{l:List TM}(w:ak)(h:tJ w A n cap l)(hf:∀t∈l,aff t):
  Calls ax 66 #[.slice A n cap,.func (.func 39) #[] #[]] w λe w'=>e=.returned (.int .i64 (-1))/\Ev w w':=by
 have hn:=h.sl.le;have hm:=h.sl.max;have H:=zq h;have HC:=zq (λ(t:TM) (ht:t∈l) w1 (hE:Ev w w1)=>YL t w1 ((h.each t ht).ev hE) (hf t ht));clear h hf;go_enter func66,ntmps66;go_wp2
 go_loopw [8] (λiv wr=>∃k:Nat,iv=↑k/\k<=n/\Hid (Ev w wr)) (λiv _=>n-(intOf iv).toNat)
 case atStart=>exact⟨0,rfl,aDl _,zq aS⟩
 case round=>
  obtain⟨k,rfl,hk,HE⟩:=hrel;by_cases hlk:k<n
  ·obtain⟨t,ht⟩:=H.out.sl.at hlk;obtain⟨b,off,rfl,hb,c0,c1,c2⟩:=(H.out.ev HE.out).cell ht;have EY:=zq (HC.out t (aDb ht));have i1:(0:Int)<=(k:Int):=ae;have i2:(k:Int)<(n:Int):=ae;clear ht
   go_wp2_with (first
    | ((with_reducible refine(EY.out _ HE.out).mono ?_);rintro e w1 ⟨rfl,aJ⟩;have E1:=zq (HE.out.trans aJ);clear aJ))
   go_roundw
   case rel=>exact⟨k+1,by go_num,ae,E1⟩
   case measure=>simp[intOf];omega
  obtain rfl:k=n:=ae;go_wp2;go_ret;exact⟨rfl,HE.out⟩
theorem I9{A:Option Addr}{n cap:Nat}{l:List TM}(w:ak)(h:tJ w A n cap l)(hf:∀t∈l,aff t):
  Calls ax 38 #[.slice A n cap,.func (.func 39) #[] #[]] w λe w'=>e=.returned (.bool false)/\Ev w w':=by
 have HC:=zq (Sj w h hf);clear h hf;go_enter func38,ntmps38
 go_wp2_with (first
  | ((with_reducible refine(HC.out).mono ?_);rintro e w1 ⟨rfl,aJ⟩))
 go_ret;exact⟨rfl,aJ⟩
def zQ(L:List Df):Prop:=∀(D:List DM) (A:Option Addr) (n cap:Nat) (w:ak),yH w A n cap D->D.map DM.df=L->(∀ad,A=some ad->ad=⟨ad.block,0,none⟩)->
  Calls ax 37 #[.slice A n cap] w λe w'=>e=.returned (.int .i64 0)/\Ev w w'
end Go.Proofs.YtbgmhhfjkkfhpaaGreatDoor
