import Derived.WalkLawsBesides
import Derived.Test.YtbgmhhfjkkfhpaaGreatDoorZ0G
import Derived.Test.YtbgmhhfjkkfhpaaGreatDoorZ1G
set_option linter.unusedVariables false
set_option maxRecDepth 100000
set_option maxHeartbeats 64000000
namespace Go.Proofs.YtbgmhhfjkkfhpaaGreatDoor
open Go.RowKit
open Go renaming World → ak
open Go.Proofs.Tryz renaming prog → ax
variable {U:Prop}
open Go.Proofs.Tryz
theorem J8(a b:Int)(w:ak):Calls ax 35 #[↑a,↑b] w λe w'=>e=.returned (.complex .f64 (fl a) (fl b))/\w=w':=by go_enter func35,ntmps35;go_wp2;go_ret;exact⟨rfl,rfl⟩
theorem aaK {P : Program} {f : FuncId} {fn : Func} {args : Array Value} {w : World} {e : Array Value → Sem Value} {v : Value} (hf : P.funcs[f]? = some fn) (hn : (fn.name == "runtime.NumGoroutine") = false) (hb : fn.body.isNone = true) (hx : Extern.findNext fn = none) (he : Extern.find fn = some e) (hv : (e args).run P w = .ok v w) :
  (callFunc f args).run P w=.ok (.value v) w:=by
 have h1 : ¬ fn.name = "runtime.NumGoroutine" := by simpa using hn
 have h2:fn.body=none:=by simpa using hb
 simp[callFunc,hf,h1,h2,hx,he,hv]
theorem QF{P:Program}(s:String)(n:Nat)(h:n<9007199254740992)(w:ak):(Extern.MathFloor.toIntegral s .zero #[.float .f64 (fl n)]).run P w=.ok (.float .f64 (fl n)) w:=by
 have hi:=Hm n h;obtain⟨m,p,e,_⟩:=wV n h;rw[e]at hi;have hE:=aaJ n;generalize hx:fl n=x at e hE|-;generalize hy:FloatKind.f64.encode (.number false n 0)=y at hE;clear hx
 conv=>lhs;arg 2;whnf
 rw[e];change Sem.run P (pure (Value.float FloatKind.f64 (FloatKind.f64.encode (Ieee.Datum.integral Ieee.Toward.zero (.number false m (-(p:Int))))))) w=_;rw[hi,hy,hE];rfl
theorem aaL(n:Nat)(h:n<9007199254740992)(w:ak):(callFunc 212 #[.float .f64 (fl n)]).run ax w=.ok (.value (.float .f64 (fl n))) w:=
 aaK Tryz.func212 (by kernel_rfl) (by kernel_rfl) (by kernel_rfl) (e := Extern.MathFloor.toIntegral "math.archTrunc" .zero) (by kernel_rfl) (QF _ n h w)
theorem adh(n:Nat)(h:n<9007199254740992)(w:ak):Calls ax 167 #[.float .f64 (fl n)] w λe w'=>e=.returned (.float .f64 (fl n))/\w=w':=by have hr:=λw=>aaL n h w;go_enter func167,ntmps167;go_wp2;go_ret;exact⟨rfl,rfl⟩
theorem mW{n:Nat}(h:n<=1125899906842624):n<9007199254740992:=ae
theorem wW:fl 0=0:=by decide+kernel
theorem ag6:fl 1125899906842624=4832362400168542208:=by decide+kernel
theorem O5(n:Nat)(h:n<=1125899906842624)(w:ak):Calls ax 101 #[.float .f64 (fl n)] w λe w'=>e=.returned (.bool true)/\w=w':=by
 have o1:=sG 0 n ai (mW h);have o2:=sG n 1125899906842624 (mW h) ai;have o3:=sG n n (mW h) (mW h);rw[show ((0:Nat):Int)=0 from rfl,wW]at o1;rw[show ((1125899906842624:Nat):Int)=1125899906842624 from rfl,ag6]at o2;have c3:compare n n=.eq:=aj;have c1:(FloatKind.f64.format.order 0 (fl n)==some .lt||FloatKind.f64.format.order 0 (fl n)==some .eq)=true:=by rw[o1];by_cases h0:n=0;subst h0;decide;rw[Nat.compare_eq_lt.2 ae];decide
 have c2:(FloatKind.f64.format.order (fl n) 4832362400168542208==some .lt||FloatKind.f64.format.order (fl n) 4832362400168542208==some .eq)=true:=by rw[o2];by_cases h0:n=1125899906842624;subst h0;decide;rw[Nat.compare_eq_lt.2 ae];decide
 have c4:(FloatKind.f64.format.order (fl n) (fl n)==some .eq)=true:=by rw[o3,c3];decide
 clear o1 o2 o3 c3;go_enter func101,ntmps101
 go_wp2_with (refine(adh n (mW h) w).mono ?_;rintro e w' ⟨rfl,rfl⟩)
 go_ret;exact⟨rfl,rfl⟩
theorem vM(a b:Nat)(ha:a<=1125899906842624)(hb:b<=1125899906842624)(w:ak):Calls ax 51 #[.complex .f64 (fl a) (fl b)] w λe w'=>e=.returned (.bool true)/\w=w':=by go_enter func51,ntmps51;go_wp2_with (first|((with_reducible refine(O5 a ha w).mono ?_);rintro e w' ⟨rfl,rfl⟩)|((with_reducible refine(O5 b hb w).mono ?_);rintro e w' ⟨rfl,rfl⟩));go_ret;exact⟨rfl,rfl⟩
theorem adi(a b:Nat)(ha:a<=1125899906842624)(hb:b<=1125899906842624)(w:ak):Calls ax 28 #[.complex .f64 (fl a) (fl b)] w λe w'=>e=.returned (.tuple #[↑a,↑b,.bool true])/\w=w':=by have i1:=λ(w:ak)=>run_convert_float_int (P:=ax) w 78 2 .f64 .i64 (fl a) a ah ah (Ho a (mW ha));have i2:=λ(w:ak)=>run_convert_float_int (P:=ax) w 78 2 .f64 .i64 (fl b) b ah ah (Ho b (mW hb));go_enter func28,ntmps28;go_wp2_with ((with_reducible refine(vM a b ha hb w).mono ?_);rintro e w' ⟨rfl,rfl⟩);go_ret3;exact⟨rfl,rfl⟩
theorem Fp(a b:Nat)(ha:a<=1125899906842624)(hb:b<=1125899906842624)(w:ak):Calls ax 10 #[.complex .f64 (fl a) (fl b)] w λe w'=>e=.returned (.int .i64 ((a:Int)-b))/\w=w':=by go_enter func10,ntmps10;go_wp2_with ((with_reducible refine(adi a b ha hb w).mono ?_);rintro e w' ⟨rfl,rfl⟩);go_ret;exact⟨rfl,rfl⟩
theorem size_any(n:Int)(h1:-4611686018427387904<=n)(h2:n<=4611686018427387904)(w:ak):Calls ax 107 #[↑n] w λe w'=>e=.returned ↑n.natAbs/\w=w':=by
 go_enter func107,ntmps107;go_wp2
 all_goals
  go_ret;exact⟨Xn ae,rfl⟩
theorem adk{a b c d:Int}(h1:a=b)(h2:c=d):Ending.returned (.complex .f64 (fl a) (fl c))=.returned (.complex .f64 (fl b) (fl d)):=by rw[h1,h2]
def Red(n:Int)(p q:Nat):Prop:=(p:Int)-q=n/\(p=0∨q=0)
theorem aGY(h:U:=by
 go_enter func108,ntmps108
 go_wp2_with ((with_reducible refine(J8 _ _ _).mono ?_);rintro e w' ⟨rfl,rfl⟩)
 all_goals
  go_ret;unfold Red at hr;exact⟨adk ae ae,rfl⟩):U:=h
theorem O6(n:Int)(p q:Nat)(hr:Red n p q)(h1:-4611686018427387904<=n)(h2:n<=4611686018427387904)(w:ak):Calls ax 108 #[↑n] w λe w'=>e=.returned (.complex .f64 (fl p) (fl q))/\w=w':=by by_cases h0:0<n;exact aGY;exact aGY
theorem aaM(a b p q:Nat)(ha:a<=1125899906842624)(hb:b<=1125899906842624)(h:Red ((a:Int)-b) p q)(w:ak):Calls ax 104 #[.complex .f64 (fl a) (fl b)] w λe w'=>e=.returned (.complex .f64 (fl p) (fl q))/\w=w':=by go_enter func104,ntmps104;go_wp2_with (first|((with_reducible refine(Fp a b ha hb w).mono ?_);rintro e w' ⟨rfl,rfl⟩)|((with_reducible refine(O6 _ p q h ae ae w).mono ?_);rintro e w' ⟨rfl,rfl⟩));go_ret;exact⟨rfl,rfl⟩
theorem aks(a b c d p q:Nat)(ha:a<=1125899906842624)(hb:b<=1125899906842624)(hc:c<=1125899906842624)(hd:d<=1125899906842624)(h:Red ((a:Int)-b+((c:Int)-d)) p q)(h1:p<=1125899906842624)(h2:q<=1125899906842624)(w:ak):
  Calls ax 55 #[.complex .f64 (fl a) (fl b),.complex .f64 (fl c) (fl d)] w λe w'=>e=.returned (.tuple #[.complex .f64 (fl p) (fl q),.bool true])/\w=w':=by
 have k:¬(1125899906842624:Int)<(((a:Int)-b+((c:Int)-d)).natAbs:Int):=by unfold Red at h;omega
 go_enter func55,ntmps55
 go_wp2_with (first|((with_reducible refine(vM a b ha hb w).mono ?_);rintro e w' ⟨rfl,rfl⟩)|((with_reducible refine(vM c d hc hd w).mono ?_);rintro e w' ⟨rfl,rfl⟩)|((with_reducible refine(Fp a b ha hb w).mono ?_);rintro e w' ⟨rfl,rfl⟩)|((with_reducible refine(Fp c d hc hd w).mono ?_);rintro e w' ⟨rfl,rfl⟩)|((with_reducible refine(size_any _ ae ae w).mono ?_);rintro e w' ⟨rfl,rfl⟩)|((with_reducible refine(O6 _ p q h ae ae w).mono ?_);rintro e w' ⟨rfl,rfl⟩))
 go_ret2
 exact⟨rfl,rfl⟩
theorem add_over(a b c d:Nat)(ha:a<=1125899906842624)(hb:b<=1125899906842624)(hc:c<=1125899906842624)(hd:d<=1125899906842624)(k:(1125899906842624:Int)<(((a:Int)-b+((c:Int)-d)).natAbs:Int))(w:ak):
  Calls ax 55 #[.complex .f64 (fl a) (fl b),.complex .f64 (fl c) (fl d)] w λe w'=>e=.returned (.tuple #[.complex .f64 0 0,.bool false])/\w=w':=by
 go_enter func55,ntmps55
 go_wp2_with (first|((with_reducible refine(vM a b ha hb w).mono ?_);rintro e w' ⟨rfl,rfl⟩)|((with_reducible refine(vM c d hc hd w).mono ?_);rintro e w' ⟨rfl,rfl⟩)|((with_reducible refine(Fp a b ha hb w).mono ?_);rintro e w' ⟨rfl,rfl⟩)|((with_reducible refine(Fp c d hc hd w).mono ?_);rintro e w' ⟨rfl,rfl⟩)|((with_reducible refine(size_any _ ae ae w).mono ?_);rintro e w' ⟨rfl,rfl⟩))
 go_ret2
 exact⟨rfl,rfl⟩
theorem anQ(a b:Nat)(x:Int)(hx:Hid ((a:Int)-b=x))(ha:a<=1125899906842624)(hb:b<=1125899906842624)(w:ak):Calls ax 10 #[.complex .f64 (fl a) (fl b)] w λe w'=>e=.returned ↑x/\w=w':=by have:=hx.out;subst this;exact Fp a b ha hb w
def Part(a:Int):Prop:=0<=a/\a<=1125899906842624
theorem Part.nat{a:Int}(h:Part a):∃n:Nat,a=n/\n<=1125899906842624:=⟨a.toNat,by unfold Part at h;omega⟩
def Xo(n p q:Int):Prop:=0<=p/\0<=q/\p-q=n/\(p=0∨q=0)
theorem Xo.red{n:Int}{p q:Nat}(h:Xo n p q):Red n p q:=by unfold Xo at h;unfold Red;omega
theorem Ji{a:Int}(h:Part a):FloatKind.f64.format.order (fl a) (fl a)=some .eq:=by obtain⟨n,rfl,hn⟩:=h.nat;rw[sG n n ae ae];simp
theorem ag7(a b:Int)(ha:Part a)(hb:Part b)(w:ak):Calls ax 51 #[.complex .f64 (fl a) (fl b)] w λe w'=>e=.returned (.bool true)/\w=w':=by obtain⟨a,rfl,ma⟩:=ha.nat;obtain⟨b,rfl,mb⟩:=hb.nat;exact vM a b ma mb w
theorem ajf(a b x:Int)(hx:Hid (a-b=x))(ha:Part a)(hb:Part b)(w:ak):Calls ax 10 #[.complex .f64 (fl a) (fl b)] w λe w'=>e=.returned ↑x/\w=w':=by obtain⟨a,rfl,ma⟩:=ha.nat;obtain⟨b,rfl,mb⟩:=hb.nat;exact anQ a b x hx ma mb w
theorem adl(a b p q:Int)(ha:Part a)(hb:Part b)(h:Xo (a-b) p q)(w:ak):Calls ax 104 #[.complex .f64 (fl a) (fl b)] w λe w'=>e=.returned (.complex .f64 (fl p) (fl q))/\w=w':=by obtain⟨a,rfl,ma⟩:=ha.nat;obtain⟨b,rfl,mb⟩:=hb.nat;obtain⟨p,rfl⟩:=Int.eq_ofNat_of_zero_le h.1;obtain⟨q,rfl⟩:=Int.eq_ofNat_of_zero_le h.2.1;exact aaM a b p q ma mb h.red w
theorem anR(a b c d p q n:Int)(ha:Part a)(hb:Part b)(hc:Part c)(hd:Part d)(hn:Hid (a-b+(c-d)=n))(h:Xo n p q)(hp:Part p)(hq:Part q)(w:ak):
  Calls ax 55 #[.complex .f64 (fl a) (fl b),.complex .f64 (fl c) (fl d)] w λe w'=>e=.returned (.tuple #[.complex .f64 (fl p) (fl q),.bool true])/\w=w':=by
 have hn:=hn.out;subst hn;obtain⟨a,rfl,ma⟩:=ha.nat;obtain⟨b,rfl,mb⟩:=hb.nat;obtain⟨c,rfl,mc⟩:=hc.nat;obtain⟨d,rfl,md⟩:=hd.nat;obtain⟨p,rfl,mp⟩:=hp.nat;obtain⟨q,rfl,mq⟩:=hq.nat;exact aks a b c d p q ma mb mc md h.red mp mq w
theorem anS(a b c d:Int)(ha:Part a)(hb:Part b)(hc:Part c)(hd:Part d)(k:Hid ((1125899906842624:Int)<((a-b+(c-d)).natAbs:Int)))(w:ak):
  Calls ax 55 #[.complex .f64 (fl a) (fl b),.complex .f64 (fl c) (fl d)] w λe w'=>e=.returned (.tuple #[.complex .f64 0 0,.bool false])/\w=w':=by
 obtain⟨a,rfl,ma⟩:=ha.nat;obtain⟨b,rfl,mb⟩:=hb.nat;obtain⟨c,rfl,mc⟩:=hc.nat;obtain⟨d,rfl,md⟩:=hd.nat;exact add_over a b c d ma mb mc md k.out w
end Go.Proofs.YtbgmhhfjkkfhpaaGreatDoor
