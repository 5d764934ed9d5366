import Derived.Test.YtbgmhhfjkkfhpaaGreatDoorAliasG
import Derived.Laws.FloatArith
set_option linter.unusedVariables false
set_option maxRecDepth 100000
set_option maxHeartbeats 64000000
namespace Go.Proofs.YtbgmhhfjkkfhpaaGreatDoor
open Go.RowKit
open Ieee
abbrev fl(n:Int):Nat:=floatOfInt .f64 n
theorem Uc(L k:Nat)(hL:L<=52)(h1:4503599627370496<=k)(h2:k<9007199254740992):
  double.read ((L+1022)*4503599627370496+k)=.number false k ((L:Int)-52):=by
 have e1:double.signWeight=9223372036854775808:=ai;have e2:double.binade=4503599627370496:=ai;have e3:double.infRung=9218868437227405312:=ai;have e4:double.leastPlace=-1074:=ai;unfold Format.read;simp only[e1,e2,e3,e4];have a1:((L+1022)*4503599627370496+k) / 9223372036854775808=0:=ae;have a2:((L+1022)*4503599627370496+k) % 9223372036854775808=(L+1022)*4503599627370496+k:=ae;have a3:((L+1022)*4503599627370496+k) / 4503599627370496=L+1023:=ae;have a4:((L+1022)*4503599627370496+k) % 4503599627370496=k-4503599627370496:=ae;rw[a1,a2,a3,a4,if_neg ae,if_pos ae];simp only[Datum.number.injEq];refine⟨ai,ae,ae⟩
theorem Ud(way:Toward)(neg:Bool)(n:Nat):way.cut neg n 0=n:=by
 unfold Toward.cut;simp only[Nat.zero_min,Nat.shiftLeft_zero,Nat.div_one,Nat.mod_one,Nat.mul_zero]
 cases way<;>simp
theorem J6(n:Nat)(h0:n≠0)(h:n<9007199254740992):
  double.nearest false n 0=(n.log2+1022)*4503599627370496+n*2 ^ (52-n.log2)/\n.log2<=52/\4503599627370496<=n*2 ^ (52-n.log2)/\n*2 ^ (52-n.log2)<9007199254740992:=by
 have hL:n.log2<=52:=by have:=(Nat.log2_lt h0 (k:=53)).2 ae;omega
 have b1:2 ^ n.log2<=n:=Nat.log2_self_le h0;have b2:n<2 ^ (n.log2+1):=Nat.lt_log2_self;have p1:4503599627370496=2 ^ n.log2*2 ^ (52-n.log2):=by rw[<-Nat.pow_add,show n.log2+(52-n.log2)=52 by omega]
 have p2:9007199254740992=2 ^ (n.log2+1)*2 ^ (52-n.log2):=by rw[<-Nat.pow_add,show n.log2+1+(52-n.log2)=53 by omega]
 have q1:4503599627370496<=n*2 ^ (52-n.log2):=by rw[p1];exact aEW _ b1
 have q2:n*2 ^ (52-n.log2)<9007199254740992:=by rw[p2];exact aER b2 (Nat.two_pow_pos _)
 refine⟨?_,hL,q1,q2⟩;have e2:double.binade=4503599627370496:=ai;have e3:double.infRung=9218868437227405312:=ai;have e4:double.leastPlace=-1074:=ai;have e5:double.fractionBits=52:=ai;unfold Format.nearest;rw[if_neg h0];simp only[e2,e3,e4,e5];have m:max ((0:Int)+(n.log2:Int)-((52:Nat):Int)) (-1074)=(n.log2:Int)-52:=ae;rw[m];have t1:((0:Int)-((n.log2:Int)-52)).toNat=52-n.log2:=ae;have t2:((n.log2:Int)-52-0).toNat=0:=ae;have t3:((n.log2:Int)-52 - -1074).toNat=n.log2+1022:=ae;rw[t1,t2,t3,Ud,Nat.shiftLeft_eq];rw[Nat.min_eq_left ae];rfl
theorem aaH(n:Nat)(h0:n≠0)(h:n<9007199254740992):
  FloatKind.f64.decode (fl n)=.number false (n*2 ^ (52-n.log2)) ((n.log2:Int)-52)/\n.log2<=52:=by
 obtain⟨e,hL,q1,q2⟩:=J6 n h0 h;refine⟨?_,hL⟩;have hn:decide ((n:Int)<0)=false:=aj;have:fl n=double.nearest false n 0:=by show double.nearest (decide ((n:Int)<0)) (n:Int).natAbs 0=_;rw[hn,Int.natAbs_natCast]
 rw[this,e];exact Uc _ _ hL q1 q2
theorem J7:FloatKind.f64.decode (fl 0)=.number false 0 (-1074):=by decide+kernel
theorem aaI(n k up:Nat):(n*2 ^ k) <<< up=n*2 ^ (k+up):=by rw[Nat.shiftLeft_eq,Nat.mul_assoc,<-Nat.pow_add]
theorem wV(n:Nat)(h:n<9007199254740992):∃(m:Nat) (p:Nat),FloatKind.f64.decode (fl n)=.number false m (-(p:Int))/\m=n*2 ^ (p-0)/\p<=1074/\(n≠0->p<=52):=by
 by_cases h0:n=0;subst h0;obtain⟨p,hp⟩:∃p:Nat,p=1074:=⟨_,rfl⟩
 exact⟨0,p,by rw[hp];exact J7,(aDH _).symm,Nat.le_of_eq hp,λh=>absurd rfl h⟩;obtain⟨e,hL⟩:=aaH n h0 h;refine⟨n*2 ^ (52-n.log2),52-n.log2,?_,rfl,ae,λ_=>by omega⟩;rw[e,show ((n.log2:Int)-52)=-((52-n.log2:Nat):Int) by omega]
theorem adf(n p:Nat):Toward.zero.cut false (n*2 ^ p) p=n:=by
 unfold Toward.cut;simp only[Bool.toNat_false,aDw];by_cases h0:n=0;subst h0;simp;have hl:(n*2 ^ p).log2=n.log2+p:=by have b1:2 ^ n.log2<=n:=Nat.log2_self_le h0;have b2:n<2 ^ (n.log2+1):=Nat.lt_log2_self;have hne:n*2 ^ p≠0:=Nat.mul_ne_zero h0 (Nat.ne_of_gt (Nat.two_pow_pos _));have c1:n.log2+p<=(n*2 ^ p).log2:=(Nat.le_log2 hne).2 (by rw[Nat.pow_add];exact aEW _ b1);have c2:(n*2 ^ p).log2<n.log2+p+1:=(Nat.log2_lt hne).2 (by rw[show n.log2+p+1=n.log2+1+p by omega,Nat.pow_add];exact aER b2 (Nat.two_pow_pos _));omega
 rw[hl,Nat.min_eq_left ae,Nat.shiftLeft_eq,aEi];exact Nat.mul_div_cancel _ (Nat.two_pow_pos _)
theorem Hm(n:Nat)(h:n<9007199254740992):(FloatKind.f64.decode (fl n)).integral .zero=.number false n 0:=by obtain⟨m,p,e,hm,_,_⟩:=wV n h;rw[e];unfold Datum.integral;simp only[Int.neg_neg,Int.toNat_natCast];rw[show (-(p:Int)).toNat=0 by omega,Nat.shiftLeft_zero,hm,Nat.sub_zero,adf]
theorem adg(n:Nat)(h:n<9007199254740992):(FloatKind.f64.decode (fl n)).toInt .zero=some (n:Int):=by unfold Datum.toInt;rw[Hm n h];simp[signed]
theorem aaJ(n:Nat):FloatKind.f64.encode (.number false n 0)=fl n:=by show _=FloatKind.f64.encode (.number (decide ((n:Int)<0)) (n:Int).natAbs 0);rw[show decide ((n:Int)<0)=false by simp,Int.natAbs_natCast]
theorem Oh(a b k:Nat):compare ((a*2 ^ k:Nat):Int) ((b*2 ^ k:Nat):Int)=compare a b:=by have hk:0<2 ^ k:=Nat.two_pow_pos _;rcases Nat.lt_trichotomy a b with h|h|h;rw[Nat.compare_eq_lt.2 h,Int.compare_eq_lt.2 (by exact_mod_cast aER h hk)];subst h;simp;rw[Nat.compare_eq_gt.2 h,Int.compare_eq_gt.2 (by exact_mod_cast aER h hk)]
theorem sG(a b:Nat)(ha:a<9007199254740992)(hb:b<9007199254740992):FloatKind.f64.format.order (fl a) (fl b)=some (compare a b):=by obtain⟨m,p,e,hm,_,_⟩:=wV a ha;obtain⟨m',p',e',WE,_,_⟩:=wV b hb;unfold Format.order;have e1:FloatKind.f64.format.read (fl a)=_:=e;have e2:FloatKind.f64.format.read (fl b)=_:=e';rw[e1,e2];unfold Datum.order signed;simp only[aDq,aDU,hm,WE,Nat.sub_zero,aaI];rw[show p+(-(p:Int)-min (-(p:Int)) (-(p':Int))).toNat=max p p' by omega,show p'+(-(p':Int)-min (-(p:Int)) (-(p':Int))).toNat=max p p' by omega,Oh]
theorem Ho(n:Nat)(h:n<9007199254740992):floatToIntVal .f64 (fl n) .i64=some (n:Int):=by
 unfold floatToIntVal;rw[adg n h];have:IntKind.i64.min<=(n:Int)/\(n:Int)<=IntKind.i64.max:=by have e1:IntKind.i64.min=-9223372036854775808:=ai;have e2:IntKind.i64.max=9223372036854775807:=ai;rw[e1,e2];omega
 exact if_pos this
end Go.Proofs.YtbgmhhfjkkfhpaaGreatDoor
