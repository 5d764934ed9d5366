import Derived.Test.YtbgmhhfjkkfhpaaGreatDoorRows
import Derived.Lib.SmallJoins
import Derived.Test.YtbgmhhfjkkfhpaaGreatDoorZ7G
set_option linter.unusedVariables false
set_option maxRecDepth 100000
set_option maxHeartbeats 64000000
namespace Go.Proofs.YtbgmhhfjkkfhpaaGreatDoor
open Go.RowKit
open Go.Lib renaming hid → zq
open Go renaming World → ak
open Go renaming Value → au
open Go.Proofs.Tryz renaming prog → ax
variable {U:Prop}
open Go.Proofs.Tryz
open Go.RowKit Go.WideShapes Go.ChangeShapes
section
variable {H:Type} {enc:TypeId×au->H} {w:ak} {base:Nat} {sp:Nat->Bool} {held:Bool}
end
def oP(k n:Int)(s:ByteArray)(k' n':Int)(s':ByteArray):Bool:=k==k'&&(n==n'&&s.toList==s'.toList)
theorem G7(op:BinOp)(x y:Operand)(xs ys:Array au)(w:ak):(eqGuard op 42 x y (.agg xs) (.agg ys)).run ax w=.ok () w:=run_eqGuard_agg w op 42 x y xs ys ah
theorem JV(k n:Int)(s:ByteArray)(k' n':Int)(s':ByteArray)(w:ak):
  (binOp .eql 42 (vv k n s) (vv k' n' s')).run ax w=.ok (.bool (oP k n s k' n' s')) w:=by
 rw[run_eql_struct,run_equalIn_agg w 9999 42 _ _ ah ah];simp only[Program.fieldsOf,underlying42];unfold oP;by_cases h1:k=k'
 ·by_cases h2:n=n'
  ·by_cases h3:s.toList=s'.toList
   ·simp[Op.eqFields,go_sem,h1,h2,h3]
   simp[Op.eqFields,go_sem,h1,h2,h3]
  simp[Op.eqFields,go_sem,h1,h2]
 simp[Op.eqFields,go_sem,h1]
theorem TY(k n:Int)(s:ByteArray)(k' n':Int)(s':ByteArray)(w:ak):
  (binOp .neq 42 (vv k n s) (vv k' n' s')).run ax w=.ok (.bool (!oP k n s k' n' s')) w:=by
 have h:=JV k n s k' n' s' w;rw[run_eql_struct]at h;rw[run_neq_struct]
 cases hr:(Op.equalIn 10000 42 (vv k n s) (vv k' n' s')).run ax w with
 | ok b w'=>
  rw[hr]at h;simp only[aFc,Result.ok.injEq,Value.bool.injEq]at h|-;exact⟨by rw[h.1],h.2⟩
 | halt x w'=>
  rw[hr]at h;cases h
theorem toList_inj{s t:ByteArray}(h:s.toList=t.toList):s=t:=by obtain⟨⟨x⟩⟩:=s;obtain⟨⟨y⟩⟩:=t;simpa using h
theorem z_{k n:Int}{s:ByteArray}{k' n':Int}{s':ByteArray}:oP k n s k' n' s'=true↔k=k'/\n=n'/\s=s':=by unfold oP;constructor;intro h;simp only[aC9,aDn]at h;exact⟨h.1,h.2.1,toList_inj h.2.2⟩;rintro⟨rfl,rfl,rfl⟩;simp
theorem wS{ρ:Operand->au}{o:Oper}{x:Operand}{g:Nat}{k n:Int}{s:ByteArray}{w:ak}(ho:o.op=.load 42 x)(hx:ρ x=.pointer ↑g)(hB:Boxed g k n s w):
  (execOp ρ o).run ax w=.ok (.value (vv k n s)) w:=by
 have h:=run_loadVar_row w g 42 42 _ (0,0) _ hB.blk underlying42 rfl Tryz.Zl;unfold execOp;rw[ho];simp only[hx,Instr.loadAt,Instr.sureAddr,aFa,aFb,aFc,h]
theorem aaE{ρ:Operand->au}{o:Oper}{x y:Operand}{k n:Int}{s:ByteArray}{k' n':Int}{s':ByteArray}{w:ak}(ho:o.op=.binOp .eql 42 x y 42)(hx:ρ x=vv k n s)(hy:ρ y=vv k' n' s'):
  (execOp ρ o).run ax w=.ok (.value (.bool (oP k n s k' n' s'))) w:=by
 have h1:=JV k n s k' n' s' w;have h2:=G7 .eql x y #[↑k,↑n,.string s] #[↑k',↑n',.string s'] w;unfold execOp;rw[ho];simp only[hx,hy,aFa,h1,h2,aFc,aFb]
theorem Xc{ρ:Operand->au}{o:Oper}{x y:Operand}{k n:Int}{s:ByteArray}{k' n':Int}{s':ByteArray}{w:ak}(ho:o.op=.binOp .neq 42 x y 42)(hx:ρ x=vv k n s)(hy:ρ y=vv k' n' s'):
  (execOp ρ o).run ax w=.ok (.value (.bool (!oP k n s k' n' s'))) w:=by
 have h1:=TY k n s k' n' s' w;have h2:=G7 .neq x y #[↑k,↑n,.string s] #[↑k',↑n',.string s'] w;unfold execOp;rw[ho];simp only[hx,hy,aFa,h1,h2,aFc,aFb]
structure Sl{α:Type}(k:Nat)(enc:α->List au)(w:ak)(A:Option Addr)(n cap:Nat)(l:List α):Prop where
 len:l.length=n
 le:n<=cap
 max:cap<=9223372036854775807
 nil:A=none->n=0/\cap=0
 rd:0<n->∃b off,A=some ⟨b,off,none⟩/\b<w.heap.size/\∀i x,l[i]?=some x->∀j u,(enc x)[j]?=some u->w.cell? ⟨b,off+i*k+j,none⟩=some u
section
variable {α:Type} {k:Nat} {enc:α->List au} {w w':ak} {A:Option Addr} {n cap:Nat} {l:List α}
theorem Sl.below(h:Sl k enc w A n cap l)(hb:Below w.heap.size w w'):Sl k enc w' A n cap l:=
 ⟨h.len,h.le,h.max,h.nil,λhn=>by
  obtain⟨b,off,e,hlt,hc⟩:=h.rd hn;exact⟨b,off,e,aDf hlt hb.size,λi x hx j u hu=>(hb.cell (p:=⟨b,off+i*k+j,none⟩) hlt).trans (hc i x hx j u hu)⟩⟩
theorem Sl.ev(h:Sl k enc w A n cap l)(hb:Ev w w'):Sl k enc w' A n cap l:=h.below hb
theorem Sl.but{K:List Nat}(h:Sl k enc w A n cap l)(hb:But K w w')(hA:∀ad,A=some ad->ad.block∉K):Sl k enc w' A n cap l:=
 ⟨h.len,h.le,h.max,h.nil,λhn=>by
  obtain⟨b,off,e,hlt,hc⟩:=h.rd hn;refine⟨b,off,e,aDf hlt hb.size,λi x hx j u hu=>?_⟩;rw[World.cell?_of_block (w:=w) (hb.block b hlt (hA _ e))];exact hc i x hx j u hu⟩
theorem Sl.nil_(w:ak):Sl k enc w none 0 0 ([]:List α):=⟨rfl,aC8 _,ae,λ_=>⟨rfl,rfl⟩,λh=>absurd h ae⟩
theorem Sl.to(h:Sl k enc w A n cap l)(m:Nat)(hm:m<=n):Sl k enc w A m cap (l.take m):=
 ⟨by rw[aDP,h.len];omega,aDr hm h.le,h.max,λe=>by have:=h.nil e;omega,λh0=>by
  obtain⟨b,off,e,hlt,hc⟩:=h.rd ae;refine⟨b,off,e,hlt,λi x hx j u hu=>hc i x ?_ j u hu⟩;rw[List.getElem?_take]at hx;split at hx;exact hx
  cases hx⟩
theorem Sl.at(h:Sl k enc w A n cap l){i:Nat}(hi:i<n):∃x,l[i]?=some x:=⟨_,aDo (by rw[h.len];exact hi)⟩
end
abbrev V:=Int×Int×ByteArray
abbrev C:=ByteArray×Int
def je(x:V):List au:=[.int .i64 x.1,.int .i64 x.2.1,.string x.2.2]
def jY(x:C):List au:=[.string x.1,.int .i64 x.2]
abbrev Vs:=Sl 3 je
abbrev Cs:=Sl 2 jY
theorem Sl.G8{w:ak}{A:Option Addr}{n cap:Nat}{l:List V}(h:Vs w A n cap l){i:Nat}(hi:i<n):
  ∃b off x,A=some ⟨b,off,none⟩/\b<w.heap.size/\l[i]?=some x/\w.cell? ⟨b,off+i*3,none⟩=some (.int .i64 x.1)/\w.cell? ⟨b,off+i*3+1,none⟩=some (.int .i64 x.2.1)/\w.cell? ⟨b,off+i*3+2,none⟩=some (.string x.2.2):=by
 obtain⟨x,hx⟩:=h.at hi;obtain⟨b,off,e,hlt,hc⟩:=h.rd ae;exact⟨b,off,x,e,hlt,hx,hc i x hx 0 _ rfl,hc i x hx 1 _ rfl,hc i x hx 2 _ rfl⟩
theorem Sl.ac5{w:ak}{A:Option Addr}{n cap:Nat}{l:List C}(h:Cs w A n cap l){i:Nat}(hi:i<n):
  ∃b off x,A=some ⟨b,off,none⟩/\b<w.heap.size/\l[i]?=some x/\w.cell? ⟨b,off+i*2,none⟩=some (.string x.1)/\w.cell? ⟨b,off+i*2+1,none⟩=some (.int .i64 x.2):=by
 obtain⟨x,hx⟩:=h.at hi;obtain⟨b,off,e,hlt,hc⟩:=h.rd ae;exact⟨b,off,x,e,hlt,hx,hc i x hx 0 _ rfl,hc i x hx 1 _ rfl⟩
theorem rM(x y:V):oP x.1 x.2.1 x.2.2 y.1 y.2.1 y.2.2=decide (x=y):=by rw[aDY,z_,decide_eq_true_iff];constructor;rintro⟨h1,h2,h3⟩;exact Prod.ext h1 (Prod.ext h2 h3);rintro rfl;exact⟨rfl,rfl,rfl⟩
theorem QB{C_:ak->Prop}{K:Act->Prop}{a:Act}{o:Oper}{x y:Operand}{k n:Int}{s:ByteArray}{k' n':Int}{s':ByteArray}(ho:o.op=.binOp .eql 42 x y 42)(hx:a.eval x=vv k n s)(hy:a.eval y=vv k' n' s')
  (hk:K (a.put o.dst (.bool (oP k n s k' n' s')))):o.quiet ax a C_ K:=
 ⟨_,λw _=>by unfold Oper.quietAt;rw[aaE ho hx hy];exact⟨rfl,rfl⟩,hk⟩
theorem vw{C_:ak->Prop}{K:Act->Prop}{a:Act}{o:Oper}{x y:Operand}{k n:Int}{s:ByteArray}{k' n':Int}{s':ByteArray}(ho:o.op=.binOp .neq 42 x y 42)(hx:a.eval x=vv k n s)(hy:a.eval y=vv k' n' s')
  (hk:K (a.put o.dst (.bool (!oP k n s k' n' s')))):o.quiet ax a C_ K:=
 ⟨_,λw _=>by unfold Oper.quietAt;rw[Xc ho hx hy];exact⟨rfl,rfl⟩,hk⟩
theorem Bi{ρ:Operand->au}{o:Oper}{x:Operand}{b off:Nat}{k n:Int}{s:ByteArray}{w:ak}(ho:o.op=.load 42 x)(hx:ρ x=.pointer ↑(b,off))
  (c0:w.cell? ⟨b,off,none⟩=some ↑k) (c1:w.cell? ⟨b,off+1,none⟩=some ↑n) (c2:w.cell? ⟨b,off+2,none⟩=some (.string s)):
  (execOp ρ o).run ax w=.ok (.value (vv k n s)) w:=by
 unfold execOp;rw[ho];simp[hx,go_sem,c0,c1,c2]
theorem OV:∀x:List UInt8,Op.bytesLess x x=false
 | []=>rfl
 | a::x=>by simp[Op.bytesLess,OV x]
theorem ac6:∀x y:List UInt8,x≠y->Op.bytesLess x y=!Op.bytesLess y x
 | [],[],h=>absurd rfl h
 | [],_::_,_=>rfl
 | _::_,[],_=>rfl
 | a::x,b::y,h=>by
  by_cases hab:a=b;subst hab;have h2:x≠y:=λe=>h (by rw[e]);simp[Op.bytesLess,ac6 x y h2];have hn:a.toNat≠b.toNat:=λe=>hab (UInt8.toNat_inj.1 e);have hba:¬b=a:=λe=>hab e.symm;by_cases hlt:a<b;have h3:¬b<a:=by rw[UInt8.lt_iff_toNat_lt]at hlt|-;omega
  simp[Op.bytesLess,hlt,h3,hba];have h3:b<a:=by rw[UInt8.lt_iff_toNat_lt]at hlt|-;omega
  simp[Op.bytesLess,hlt,h3,hab]
theorem TZ:∀x y z:List UInt8,Op.bytesLess x y=true->Op.bytesLess y z=true->Op.bytesLess x z=true
 | [],[],_,h,_=>by cases h
 | [],_::_,[],_,h=>by cases h
 | [],_::_,_::_,_,_=>rfl
 | _::_,[],_,h,_=>by cases h
 | _::_,_::_,[],_,h=>by cases h
 | a::x,b::y,c::z,h1,h2=>by
  simp only[Op.bytesLess,aDC,aC9,aDV,aDn]at h1 h2|-;rcases h1 with h1|⟨rfl,h1⟩
  rcases h2 with h2|⟨rfl,h2⟩
  left;rw[UInt8.lt_iff_toNat_lt]at h1 h2|-;omega;exact .inl h1;rcases h2 with h2|⟨rfl,h2⟩
  exact .inl h2;exact .inr ⟨rfl,TZ x y z h1 h2⟩
theorem kR{k n:Int}{s:ByteArray}(h:ed k n s=true):(k=1/\s=⟨#[]⟩)∨(k=2/\n=0/\s.size<=40):=by
 unfold ed at h;split at h;rename_i h1;obtain⟨⟨l⟩⟩:=s;have:l=[]:=by simpa using h
 subst this;exact .inl ⟨h1,rfl⟩;split at h;rename_i h1;simp at h;exact .inr ⟨h1,h.1,h.2⟩;cases h
theorem ac7{k n:Int}{s:ByteArray}{k' n':Int}{s':ByteArray}(h:ed k n s=true)(h':ed k' n' s'=true):
  (mD k n s k' n' s' !=mD k' n' s' k n s)=!oP k n s k' n' s':=by
 have key:(oP k n s k' n' s'=true->mD k n s k' n' s'=mD k' n' s' k n s)/\(oP k n s k' n' s'=false->mD k n s k' n' s'=!mD k' n' s' k n s):=by
  constructor;intro e;obtain⟨rfl,rfl,rfl⟩:=z_.1 e;rfl;intro e;have hne:¬(k=k'/\n=n'/\s=s'):=λc=>by rw[z_.2 c]at e;cases e
  unfold mD;rw[h,h'];simp only[aE3,if_pos];rcases kR h with⟨rfl,rfl⟩|⟨rfl,rfl,_⟩
  rcases kR h' with⟨rfl,rfl⟩|⟨rfl,rfl,_⟩
  have hn:n≠n':=λc=>hne ⟨rfl,c,rfl⟩;have hd:decide (n<n')=!decide (n'<n):=by by_cases a:n<n';have b:¬n'<n:=ae;simp[a,b];have b:n'<n:=ae;simp[a,b]
  simp only[aDL];exact hd;simp;rcases kR h' with⟨rfl,rfl⟩|⟨rfl,rfl,_⟩
  simp;have hs:s.toList≠s'.toList:=λc=>hne ⟨rfl,rfl,toList_inj c⟩;simp[ac6 _ _ hs]
 cases hsm:oP k n s k' n' s'
 ·rw[key.2 hsm];cases mD k' n' s' k n s<;>rfl
 rw[key.1 hsm];cases mD k' n' s' k n s<;>rfl
theorem Xd{k n:Int}{s:ByteArray}{k' n':Int}{s':ByteArray}{k2 n2:Int}{s2:ByteArray}(h1:mD k n s k' n' s'=true)(h2:mD k' n' s' k2 n2 s2=true):mD k n s k2 n2 s2=true:=by
 unfold mD at h1 h2|-;split at h1;rename_i hr1;split at h2;rename_i hr2;simp only[aC9]at hr1 hr2;rw[hr1.1,hr2.2];simp only[aE3,if_pos];rcases kR hr1.1 with⟨rfl,rfl⟩|⟨rfl,rfl,_⟩
 rcases kR hr1.2 with⟨rfl,rfl⟩|⟨rfl,rfl,_⟩
 rcases kR hr2.2 with⟨rfl,rfl⟩|⟨rfl,rfl,_⟩
 simp at h1 h2|-;omega;simp;rcases kR hr2.2 with⟨rfl,rfl⟩|⟨rfl,rfl,_⟩
 simp at h2;simp;rcases kR hr1.2 with⟨rfl,rfl⟩|⟨rfl,rfl,_⟩
 simp at h1;rcases kR hr2.2 with⟨rfl,rfl⟩|⟨rfl,rfl,_⟩
 simp at h2;simp at h1 h2|-;exact TZ _ _ _ h1 h2
 cases h2
 cases h1
abbrev iQ(x:V):Bool:=ed x.1 x.2.1 x.2.2
abbrev qK(x y:V):Bool:=mD x.1 x.2.1 x.2.2 y.1 y.2.1 y.2.2
def okR(l:List V):Bool:=l.all λx=>iQ x
def bZ(l:List V):Bool:=(decide (1<=l.length)&&decide (l.length<=6))&&okR l
theorem ac9{l:List V}{k:Nat}{x:V}(hx:l[k]?=some x):okR (l.take (k+1))=(okR (l.take k)&&iQ x):=by obtain⟨hk,rfl⟩:=aC6.1 hx;unfold okR;rw[aDi hk,aET];simp
theorem ag0{l:List V}{k:Nat}{x:V}(hx:l[k]?=some x)(hr:iQ x=false):okR l=false:=by unfold okR;rw[List.all_eq_false];exact⟨x,aDb hx,by simp[hr]⟩
theorem OW{l:List V}(h:bZ l=true):okR l=true:=by unfold bZ at h;simp only[aC9]at h;exact h.2
theorem Xe{l:List V}(h:bZ l=true):1<=l.length/\l.length<=6:=by unfold bZ at h;simp only[aC9,aDV]at h;exact h.1
theorem OX{α:Type}{a b:List α}{k:Nat}{x:α}(h:a.take k=b.take k)(hx:a[k]?=some x)(hy:b[k]?=some x):a.take (k+1)=b.take (k+1):=by obtain⟨ha,rfl⟩:=aC6.1 hx;obtain⟨hb,e⟩:=aC6.1 hy;rw[aDi ha,aDi hb,h,e]
def lessL:List V->List V->Bool
 | _,[]=>false
 | [],_::_=>true
 | x::a,y::b=>if x=y then lessL a b else qK x y
def eG(a b:List V):Bool:=if bZ a&&bZ b then lessL a b else false
theorem T_(x:V):qK x x=false:=by unfold qK mD;split;simp[OV];rfl
theorem Xf{x y:V}(h:iQ x=true)(h':iQ y=true)(hne:x≠y):qK x y=!qK y x:=by
 have:=ac7 h h';have hs:oP x.1 x.2.1 x.2.2 y.1 y.2.1 y.2.2=false:=by
  cases hc:oP x.1 x.2.1 x.2.2 y.1 y.2.1 y.2.2
  rfl;obtain⟨h1,h2,h3⟩:=z_.1 hc;exact absurd (Prod.ext h1 (Prod.ext h2 h3)) hne
 rw[hs]at this;unfold qK
 revert this
 generalize mD x.1 x.2.1 x.2.2 y.1 y.2.1 y.2.2=p,mD y.1 y.2.1 y.2.2 x.1 x.2.1 x.2.2=q
 revert p q
 decide
theorem QC{x y z:V}(h1:qK x y=true)(h2:qK y z=true):qK x z=true:=Xd h1 h2
theorem aaF{x y:V}(h:qK x y=true):x≠y:=by rintro rfl;rw[T_]at h;cases h
theorem JW:∀a:List V,lessL a a=false
 | []=>rfl
 | x::a=>by simp[lessL,JW a]
theorem Dp{x:V}{a:List V}(h:okR (x::a)=true):iQ x=true/\okR a=true:=by unfold okR at h|-;simpa using h
theorem OY:∀a b:List V,okR a=true->okR b=true->a≠b->lessL a b=!lessL b a
 | [],[],_,_,h=>absurd rfl h
 | [],_::_,_,_,_=>rfl
 | _::_,[],_,_,_=>rfl
 | x::a,y::b,h,h',hne=>by unfold lessL;by_cases e:x=y;subst e;simp only[aDL];exact OY a b (Dp h).2 (Dp h').2 (λc=>hne (by rw[c]));rw[if_neg e,if_neg (λc=>e c.symm)];exact Xf (Dp h).1 (Dp h').1 e
theorem Ha:∀a b c:List V,lessL a b=true->lessL b c=true->lessL a c=true
 | _,[],_,h,_=>by simp[lessL]at h
 | _,_::_,[],_,h=>by simp[lessL]at h
 | [],_::_,_::_,_,_=>rfl
 | x::a,y::b,z::c,h1,h2=>by unfold lessL at h1 h2|-;by_cases e1:x=y;subst e1;rw[if_pos rfl]at h1;by_cases e2:x=z;subst e2;rw[if_pos rfl]at h2|-;exact Ha a b c h1 h2;rw[if_neg e2]at h2|-;exact h2;rw[if_neg e1]at h1;by_cases e2:y=z;subst e2;rw[if_neg e1];exact h1;rw[if_neg e2]at h2;have h3:=QC h1 h2;rw[if_neg (aaF h3)];exact h3
theorem wU:∀(k:Nat) (a b:List V),a.take k=b.take k->k<=a.length->k<=b.length->lessL a b=lessL (a.drop k) (b.drop k)
 | 0,_,_,_,_,_=>rfl
 | k+1,[],_,_,h,_=>by simp at h
 | k+1,_::_,[],_,_,h=>by simp at h
 | k+1,x::a,y::b,h,h1,h2=>by simp only[aDX,List.cons.injEq]at h;obtain⟨rfl,h⟩:=h;simp only[aDh,Nat.add_le_add_iff_right]at h1 h2;simp only[lessL,aDL,aDJ];exact wU k a b h h1 h2
theorem uy{α:Type}{a:List α}{k:Nat}{x:α}(h:a[k]?=some x):a.drop k=x::a.drop (k+1):=by obtain⟨hk,rfl⟩:=aC6.1 h;exact aEl hk
theorem ac'{k:Nat}{a b:List V}{x y:V}(h:a.take k=b.take k)(hx:a[k]?=some x)(hy:b[k]?=some y)(hne:x≠y):lessL a b=qK x y:=by rw[wU k a b h (Nat.le_of_lt (aC6.1 hx).1) (Nat.le_of_lt (aC6.1 hy).1),uy hx,uy hy];simp[lessL,hne]
theorem OZ{k:Nat}{a b:List V}(h:a.take k=b.take k)(h1:k<=a.length)(h2:k<=b.length)(he:k=a.length∨k=b.length):lessL a b=decide (a.length<b.length):=by rw[wU k a b h h1 h2];by_cases hb:k=b.length;have h3:b.drop k=[]:=List.drop_eq_nil_of_le ae;rw[h3];have:¬a.length<b.length:=ae;simp[lessL,this];have ha:k=a.length:=he.resolve_right hb;have h3:a.drop k=[]:=List.drop_eq_nil_of_le ae;have h4:k<b.length:=ae;rw[h3,aEl h4];have:a.length<b.length:=ae;simp[lessL,this]
theorem akp{α:Type}{k:Nat}{a b:List α}(h:a.take k=b.take k)(h1:k=a.length)(h2:k=b.length):a=b:=by rwa [aDj ae,aDj ae]at h
theorem anN{α:Type}{k:Nat}{a b:List α}{x y:α}(hx:a[k]?=some x)(hy:b[k]?=some y)(hne:x≠y):a≠b:=by rintro rfl;exact hne (aDp (hx.symm.trans hy))
def eqL(a b:List V):Bool:=decide (a=b)
def yO(a b:List V):Bool:=bZ a&&eqL a b
def fitsL:List C->List V->Bool
 | [],[]=>true
 | c::l,x::r=>(iQ x&&x.1==c.2)&&fitsL l r
 | _,_=>false
theorem O0:∀(l:List C) (r:List V),fitsL l r=true->l.length=r.length
 | [],[],_=>rfl
 | [],_::_,h=>by cases h
 | _::_,[],h=>by cases h
 | c::l,x::r,h=>by simp only[fitsL,aC9]at h;simp[O0 l r h.2]
theorem ada{l:List C}{r:List V}(h:l.length≠r.length):fitsL l r=false:=by
 cases hf:fitsL l r
 rfl;exact absurd (O0 l r hf) h
theorem JX:∀(k:Nat) (l:List C) (r:List V) (c:C) (x:V),fitsL (l.take k) (r.take k)=true->l[k]?=some c->r[k]?=some x->iQ x=true->x.1=c.2->fitsL (l.take (k+1)) (r.take (k+1))=true
 | 0,[],_,_,_,_,h,_,_,_=>by cases h
 | 0,_::_,[],_,_,_,_,h,_,_=>by cases h
 | 0,c::l,x::r,_,_,_,h1,h2,hr,hk=>by simp at h1 h2;subst h1 h2;simp[fitsL,hr,hk]
 | k+1,[],_,_,_,_,h,_,_,_=>by cases h
 | k+1,_::_,[],_,_,_,_,h,_,_=>by cases h
 | k+1,c::l,x::r,c',x',h,h1,h2,hr,hk=>by rw[aDX,aDX]at h|-;simp only[fitsL,aC9]at h|-;exact⟨h.1,JX k l r c' x' h.2 (by simpa using h1) (by simpa using h2) hr hk⟩
theorem Fh:∀(k:Nat) (l:List C) (r:List V) (c:C) (x:V),l[k]?=some c->r[k]?=some x->(iQ x=false∨x.1≠c.2)->fitsL l r=false
 | _,[],_,_,_,h,_,_=>by simp at h
 | _,_::_,[],_,_,_,h,_=>by simp at h
 | 0,c::l,x::r,_,_,h1,h2,h=>by simp at h1 h2;subst h1 h2;rcases h with h|h;simp[fitsL,h];simp[fitsL,h]
 | k+1,c::l,x::r,c',x',h1,h2,h=>by simp only[fitsL];rw[Fh k l r c' x' (by simpa using h1) (by simpa using h2) h];simp
def words:List (List UInt8):=[[116,97,98,108,101],[102,105,108,116,101,114],[112,114,111,106,101,99,116],[106,111,105,110],[117,110,105,111,110],[100,105,115,116,105,110,99,116],[103,114,111,117,112],[99,111,117,110,116],[115,117,109],[109,105,110],[109,97,120],[97,100,100],[115,117,98],[109,117,108],[110,101,103],[101,113],[108,116],[97,110,100],[111,114],[110,111,116],[99,97,116],[108,101,110],[105,102]]
def gY(c:UInt8):Bool:=decide (97<=c.toNat)&&decide (c.toNat<=122)
def gU(s:ByteArray):Bool:=(decide (1<=s.size)&&decide (s.size<=12))&&(s.data.toList.all gY&&!words.contains s.data.toList)
def named(s:ByteArray)(c:C):Bool:=c.1.toList==s.toList
def gZ(l:List C)(s:ByteArray):Option Nat:=l.findIdx? (named s)
theorem Xg{l:List C}{s:ByteArray}{k:Nat}{c:C}(hT:∀i c,i<k->l[i]?=some c->named s c=false)(hc:l[k]?=some c)(h:named s c=true):gZ l s=some k:=by unfold gZ;rw[aD6];obtain⟨hk,rfl⟩:=aC6.1 hc;exact⟨hk,h,λj hj=>by simp[hT j _ hj (aDo ae)]⟩
theorem Xh{l:List C}{s:ByteArray}(hT:∀i c,i<l.length->l[i]?=some c->named s c=false):gZ l s=none:=by unfold gZ;rw[aEA];intro c hc;obtain⟨i,hi,rfl⟩:=aEN hc;exact hT i _ hi (aDo hi)
def foundAt(o:Option Nat):Int:=match o with|some k=>(k:Int)|none=>0
def iH(pre:List C):List C->Int
 | []=>0
 | c::r=>if (gU c.1&&(c.2==1||c.2==2))=false then 20 else if (gZ pre c.1).isSome=true then 21 else iH (pre++[c]) r
def qO(l:List C):Int:=if (decide (1<=l.length)&&decide (l.length<=6))=true then iH [] l else 23
theorem Ua{l:List C}{k:Nat}{c:C}(hc:l[k]?=some c):iH (l.take k) (l.drop k)=
  if (gU c.1&&(c.2==1||c.2==2))=false then 20 else if (gZ (l.take k) c.1).isSome=true then 21 else iH (l.take (k+1)) (l.drop (k+1)):=by
 have ht:l.take (k+1)=l.take k++[c]:=by obtain⟨hk,rfl⟩:=aC6.1 hc;rw[aDi hk]
 rw[uy hc,ht];rfl
theorem He{a b:List V}(h:eG a b=true):bZ a=true/\bZ b=true:=by unfold eG at h;split at h;rename_i h1;simpa using h1;cases h
theorem yP{a b:List V}(ha:bZ a=true)(hb:bZ b=true):eG a b=lessL a b:=by unfold eG;rw[ha,hb];rfl
theorem oZ(a:List V):eG a a=false:=by unfold eG;split;exact JW a;rfl
theorem vJ{a b:List V}(ha:bZ a=true)(hb:bZ b=true)(hne:a≠b):eG a b=!eG b a:=by rw[yP ha hb,yP hb ha];exact OY a b (OW ha) (OW hb) hne
theorem Hf{a b c:List V}(h1:eG a b=true)(h2:eG b c=true):eG a c=true:=by have r1:=He h1;have r2:=He h2;rw[yP r1.1 r1.2]at h1;rw[yP r2.1 r2.2]at h2;rw[yP r1.1 r2.2];exact Ha a b c h1 h2
theorem uz{a b c:List V}(ha:bZ a=true)(hb:bZ b=true)(hc:bZ c=true)(h1:eG b a=false)(h2:eG c b=false):eG c a=false:=by cases h:eG c a;rfl;by_cases hab:a=b;subst hab;rw[h]at h2;cases h2;have h3:=vJ ha hb hab;rw[h1]at h3;have:=Hf h h3;rw[h2]at this;cases this
theorem JY{a b:List V}(ha:bZ a=true)(hb:bZ b=true)(h1:eG b a=false)(h2:eG a b=false):a=b:=by by_cases hab:a=b;exact hab;have h3:=vJ ha hb hab;rw[h1,h2]at h3;cases h3
section
variable {α:Type} (key:α->List V)
def jg(l:List α):Prop:=l.Pairwise λx y=>eG (key y) (key x)=false
def dN(l:List α):Prop:=∀x∈l,bZ (key x)=true
def dM(r:List V)(l:List α):List α:=l.filter λx=>decide (key x=r)
def Alike(l m:List α):Prop:=∀r,dM key r l=dM key r m
variable {key}
theorem Alike.refl(l:List α):Alike key l l:=λ_=>rfl
theorem Alike.trans{l m n:List α}(h:Alike key l m)(k:Alike key m n):Alike key l n:=λr=>(h r).trans (k r)
theorem Alike.symm{l m:List α}(h:Alike key l m):Alike key m l:=λr=>(h r).symm
theorem kS(r:List V)(l m:List α):dM key r (l++m)=dM key r l++dM key r m:=List.filter_append _ _
theorem Alike.mem{l m:List α}(h:Alike key l m){x:α}(hx:x∈l):x∈m:=by have h1:x∈dM key (key x) l:=List.mem_filter.2 ⟨hx,aj⟩;rw[h (key x)]at h1;exact(List.mem_filter.1 h1).1
theorem Alike.right{l m:List α}(h:Alike key l m)(hr:dN key l):dN key m:=λx hx=>hr x (h.symm.mem hx)
theorem dN.take{l:List α}(h:dN key l)(k:Nat):dN key (l.take k):=λx hx=>h x (aD2 hx)
theorem dN.drop{l:List α}(h:dN key l)(k:Nat):dN key (l.drop k):=λx hx=>h x (aEm hx)
theorem Alike.length{l m:List α}(h:Alike key l m):l.length=m.length:=by
 induction l generalizing m with
 | nil=>
  cases m with
  | nil=>rfl
  | cons y m=>exact absurd (h.symm.mem (aC' (a:=y))) aj
 | cons x l ih=>
  obtain⟨p,q,hp,rfl⟩:∃p q,dM key (key x) p=[]/\m=p++x::q:=by
   have h1:=h (key x);have e1:dM key (key x) (x::l)=x::dM key (key x) l:=by simp[dM]
   rw[e1]at h1;clear h ih e1
   induction m with
   | nil=>simp[dM]at h1
   | cons y m ihm=>
    by_cases hy:key y=key x;have e2:dM key (key x) (y::m)=y::dM key (key x) m:=by simp[dM,hy]
    rw[e2]at h1;obtain⟨rfl,_⟩:=List.cons.inj h1;exact⟨[],m,rfl,rfl⟩;have e2:dM key (key x) (y::m)=dM key (key x) m:=by simp[dM,hy]
    rw[e2]at h1;obtain⟨p,q,hp,rfl⟩:=ihm h1;exact⟨y::p,q,by simpa[dM,hy] using hp,rfl⟩
  have hh:Alike key l (p++q):=λr=>by
   have h1:=h r;rw[kS];rw[kS]at h1;by_cases hr:key x=r;subst hr;rw[hp]at h1|-;have e1:∀z,dM key (key x) (x::z)=x::dM key (key x) z:=λz=>by simp[dM]
   rw[e1,e1,aDW]at h1;rw[aDW];exact(List.cons.inj h1).2;have e1:∀z,dM key r (x::z)=dM key r z:=λz=>by simp[dM,hr]
   rw[e1,e1]at h1;exact h1
  have:=ih hh;simp only[aDd,aDh]at this|-;omega
structure Bj(key:α->List V)(l:List α)(k:Nat):Prop where
 le:k<=l.length
 pos:0<l.length->1<=k
 up:∀i x y,l[i]?=some x->l[i+1]?=some y->i+1<k->eG (key y) (key x)=false
 ends:∀x y,l[k-1]?=some x->l[k]?=some y->eG (key y) (key x)=true
theorem adb{l:List α}(hr:dN key l)(h:∀i x y,l[i]?=some x->l[i+1]?=some y->eG (key y) (key x)=false):jg key l:=by
 induction l with
 | nil=>exact List.Pairwise.nil
 | cons a l ih=>
  have ihl:=ih (λx hx=>hr x (aDc _ hx)) (λi x y hx hy=>h (i+1) x y (by simpa using hx) (by simpa using hy));refine List.Pairwise.cons (λz hz=>?_) ihl
  cases l with
  | nil=>cases hz
  | cons b l=>
   have h1:=h 0 a b rfl rfl;rcases aDg.1 hz with rfl|hz;exact h1;have h2:=(aDQ.1 ihl).1 z hz;exact uz (hr a aj) (hr b aj) (hr z (by simp[hz])) h1 h2
theorem jg.step{l:List α}(h:jg key l){i j:Nat}{x y:α}(hx:l[i]?=some x)(hy:l[j]?=some y)(qN:i<j):eG (key y) (key x)=false:=by obtain⟨hi,rfl⟩:=aC6.1 hx;obtain⟨hj,rfl⟩:=aC6.1 hy;exact aEV.1 h i j hi hj qN
theorem Bj.rises{l:List α}{k:Nat}(h:Bj key l k)(hr:dN key l):jg key (l.take k):=by
 refine adb (hr.take k) λi x y hx hy=>?_;rw[List.getElem?_take]at hx hy;split at hy;rename_i h1;rw[if_pos ae]at hx;exact h.up i x y hx hy h1
 cases hy
theorem Bj.whole{l:List α}{k:Nat}(h:Bj key l k)(hs:jg key l):k=l.length:=by
 by_cases hk:k<l.length;have h1:=h.pos ae;have:=h.ends _ _ (aDo (i:=k-1) ae) (aDo hk);rw[hs.step (aDo (i:=k-1) ae) (aDo hk) ae]at this
 cases this
 have:=h.le;omega
def iD(key:α->List V)(p:Nat)(l:List α):Prop:=∃ls:List (List α),ls.flatten=l/\ls.length<=p/\∀s∈ls,jg key s
theorem iD.ag1(l:List α):iD key l.length l:=
 ⟨l.map λx=>[x],by induction l with|nil=>rfl|cons x l ih=>simp[ih],aj,λs hs=>by
  obtain⟨x,_,rfl⟩:=aDz.1 hs;exact aEr _ _⟩
theorem iD.mono{p q:Nat}{l:List α}(h:iD key p l)(WB:p<=q):iD key q l:=by obtain⟨ls,h1,h2,h3⟩:=h;exact⟨ls,h1,ae,h3⟩
theorem iD.nil_:iD key 0 ([]:List α):=⟨[],rfl,aC8 _,λ_ h=>by cases h⟩
theorem iD.none{l:List α}(h:iD key 0 l):l=[]:=by obtain⟨ls,rfl,h2,_⟩:=h;rw[aDv (by omega:ls.length=0)];rfl
theorem iD.one{l:List α}(h:iD key 1 l):jg key l:=by
 obtain⟨ls,rfl,h2,h3⟩:=h
 match ls,h2,h3 with
 | [],_,_=>exact List.Pairwise.nil
 | [s],_,h3=>simpa using h3 s aj
 | _::_::_,h2,_=>simp at h2
theorem iD.anO(ls:List (List α)):∀j,(∀s∈ls,jg key s)->∃ls':List (List α),ls'.flatten=ls.flatten.drop j/\ls'.length<=ls.length/\∀s∈ls',jg key s:=by
 induction ls with
 | nil=>exact λj _=>⟨[],aj,aC8 _,λ_ h=>by cases h⟩
 | cons s ls ih=>
  intro j h;by_cases hj:j<=s.length;refine⟨s.drop j::ls,?_,aj,λt ht=>?_⟩;simp only[aE5];rw[List.drop_append_of_le_length hj];rcases aDg.1 ht with rfl|ht;exact(h s aj).drop;exact h t (by simp[ht]);obtain⟨ls',h1,h2,h3⟩:=ih (j-s.length) λt ht=>h t (by simp[ht]);refine⟨ls',?_,by simp;omega,h3⟩;have e:s.drop j=[]:=aDO ae;rw[h1,aE5,List.drop_append,e,aDW]
theorem iD.run{q k:Nat}{l:List α}(h:iD key (q+1) l)(hk:Bj key l k):iD key q (l.drop k):=by
 obtain⟨ls,rfl,h2,h3⟩:=h
 cases ls with
 | nil=>exact⟨[],aj,aj,λ_ h=>by cases h⟩
 | cons s ls=>
  have hs:=h3 s aj;have hle:s.length<=k:=by
   by_cases hc:k<s.length;exfalso;have hl:k<(s::ls).flatten.length:=by simp;omega
   have h1:=hk.pos ae;have e1:(s::ls).flatten[k-1]?=s[k-1]?:=by rw[aE5,aD9 ae]
   have e2:(s::ls).flatten[k]?=s[k]?:=by rw[aE5,aD9 ae]
   have h4:=hk.ends _ _ (e1.trans (aDo ae)) (e2.trans (aDo hc));rw[hs.step (aDo (i:=k-1) ae) (aDo hc) ae]at h4
   cases h4
   omega
  obtain⟨ls',g1,g2,g3⟩:=iD.anO ls (k-s.length) λt ht=>h3 t (by simp[ht]);refine⟨ls',?_,by simp at h2;omega,g3⟩;have e:s.drop k=[]:=aDO hle;rw[g1,aE5,List.drop_append,e,aDW]
theorem iD.snoc{p:Nat}{l s:List α}(h:iD key p l)(hs:jg key s):iD key (p+1) (l++s):=by obtain⟨ls,rfl,h2,h3⟩:=h;refine⟨ls++[s],aj,by simp;omega,λt ht=>?_⟩;rcases aDm.1 ht with ht|ht;exact h3 t ht;rw[aDM.1 ht];exact hs
variable (key)
def mergeF:List α->List α->List α
 | [],b=>b
 | x::a,[]=>x::a
 | x::a,y::b=>if eG (key y) (key x) then y::mergeF (x::a) b else x::mergeF a (y::b)
termination_by a b=>a.length+b.length
variable {key}
theorem o8(b:List α):mergeF key [] b=b:=by rw[mergeF]
theorem Ub(a:List α):mergeF key a []=a:=by cases a<;>rw[mergeF]
theorem JZ(a b:List α):∀z,z∈mergeF key a b↔z∈a∨z∈b:=by
 induction a,b using mergeF.induct (key:=key) with
 | case1 b=>intro z;rw[mergeF];simp
 | case2 x a=>intro z;rw[mergeF];simp
 | case3 x a y b h ih=>intro z;rw[mergeF,if_pos h,aDg,ih];simp only[aDg];exact or_left_comm
 | case4 x a y b h ih=>intro z;rw[mergeF,if_neg h,aDg,ih];simp only[aDg];exact or_assoc.symm
theorem Og(a b:List α):(mergeF key a b).length=a.length+b.length:=by
 induction a,b using mergeF.induct (key:=key) with
 | case1 b=>rw[mergeF];simp
 | case2 x a=>rw[mergeF];simp
 | case3 x a y b h ih=>rw[mergeF,if_pos h,aDh,ih];simp only[aDh];omega
 | case4 x a y b h ih=>rw[mergeF,if_neg h,aDh,ih];simp only[aDh];omega
theorem QD(a b:List α)(hra:dN key a)(WC:dN key b)(ha:jg key a)(hb:jg key b):jg key (mergeF key a b):=by
 induction a,b using mergeF.induct (key:=key) with
 | case1 b=>rw[mergeF];exact hb
 | case2 x a=>rw[mergeF];exact ha
 | case3 x a y b h ih=>
  rw[mergeF,if_pos h];have hb':=aDQ.1 hb;have ha':=aDQ.1 ha;have hyx:eG (key x) (key y)=false:=by have:=vJ (WC y aj) (hra x aj) (λe=>by rw[e,oZ]at h;cases h);rw[h]at this;simpa using this
  refine List.Pairwise.cons (λz hz=>?_) (ih hra (λz hz=>WC z (by simp[hz])) ha hb'.2);rcases (JZ _ _ z).1 hz with hz|hz;rcases aDg.1 hz with rfl|hz;exact hyx;exact uz (WC y aj) (hra x aj) (hra z (by simp[hz])) hyx (ha'.1 z hz);exact hb'.1 z hz
 | case4 x a y b h ih=>
  rw[mergeF,if_neg h];have hb':=aDQ.1 hb;have ha':=aDQ.1 ha;have Fj:eG (key y) (key x)=false:=by simpa using h
  refine List.Pairwise.cons (λz hz=>?_) (ih (λz hz=>hra z (by simp[hz])) WC ha'.2 hb);rcases (JZ _ _ z).1 hz with hz|hz;exact ha'.1 z hz;rcases aDg.1 hz with rfl|hz;exact Fj;exact uz (hra x aj) (WC y aj) (WC z (by simp[hz])) Fj (hb'.1 z hz)
theorem QE(a b:List α)(hra:dN key a)(WC:dN key b)(ha:jg key a)(r:List V):dM key r (mergeF key a b)=dM key r a++dM key r b:=by
 induction a,b using mergeF.induct (key:=key) with
 | case1 b=>rw[mergeF];rfl
 | case2 x a=>rw[mergeF];simp[dM]
 | case3 x a y b h ih=>
  rw[mergeF,if_pos h];have ih':=ih hra (λz hz=>WC z (by simp[hz])) ha;by_cases hy:key y=r;have hno:dM key r (x::a)=[]:=by
   apply List.filter_eq_nil_iff.2;intro z hz hzr;have hzr:key z=r:=by simpa using hzr
   have Fj:=h;rw[hy,<-hzr]at Fj;rcases aDg.1 hz with rfl|hz';rw[oZ]at Fj;cases Fj;rw[(aDQ.1 ha).1 z hz']at Fj;cases Fj
  have e:∀t,dM key r (y::t)=y::dM key r t:=λt=>by simp[dM,hy]
  rw[e,e,ih',hno];rfl;have e:∀t,dM key r (y::t)=dM key r t:=λt=>by simp[dM,hy]
  rw[e,e,ih']
 | case4 x a y b h ih=>
  rw[mergeF,if_neg h];have ih':=ih (λz hz=>hra z (by simp[hz])) WC (aDQ.1 ha).2;by_cases hx:key x=r;have e:∀t,dM key r (x::t)=x::dM key r t:=λt=>by simp[dM,hx]
  rw[e,e,ih'];rfl;have e:∀t,dM key r (x::t)=dM key r t:=λt=>by simp[dM,hx]
  rw[e,e,ih']
theorem Xi{l m:List α}(hr:dN key l)(hl:jg key l)(hm:jg key m)(h:Alike key l m):l=m:=by
 induction l generalizing m with
 | nil=>
  have:=h.length;exact(aDv (by simpa using this.symm)).symm
 | cons x l ih=>
  cases m with
  | nil=>have:=h.length;simp at this
  | cons y m=>
   have hrm:=h.right hr;have h1:eG (key x) (key y)=false:=by rcases aDg.1 (h.mem (aC' (a:=x) (l:=l))) with e|hx;rw[e];exact oZ _;exact(aDQ.1 hm).1 x hx
   have h2:eG (key y) (key x)=false:=by rcases aDg.1 (h.symm.mem (aC' (a:=y) (l:=m))) with e|hy;rw[e];exact oZ _;exact(aDQ.1 hl).1 y hy
   have hk:=JY (hr x aj) (hrm y aj) h2 h1;have e1:∀t,dM key (key x) (x::t)=x::dM key (key x) t:=λt=>by simp[dM]
   have e2:∀t,dM key (key x) (y::t)=y::dM key (key x) t:=λt=>by simp[dM,hk]
   have h3:=h (key x);rw[e1,e2]at h3;obtain⟨rfl,h4⟩:=List.cons.inj h3;congr 1;refine ih (λz hz=>hr z (by simp[hz])) (aDQ.1 hl).2 (aDQ.1 hm).2 λr=>?_;by_cases hxr:key x=r;subst hxr;exact h4;have h5:=h r;have e3:∀t,dM key r (x::t)=dM key r t:=λt=>by simp[dM,hxr]
   rwa [e3,e3]at h5
variable (key)
def insF(x:α):List α->List α
 | []=>[x]
 | y::l=>if eG (key y) (key x) then y::insF x l else x::y::l
def mF:List α->List α
 | []=>[]
 | x::l=>insF key x (mF l)
variable {key}
theorem J3(x:α)(l:List α):∀z,z∈insF key x l↔z=x∨z∈l:=by
 induction l with
 | nil=>intro z;simp[insF]
 | cons y l ih=>
  intro z;unfold insF;split;rw[aDg,ih];simp only[aDg];exact or_left_comm;exact aDg
theorem Xj{x:α}{l:List α}(hx:bZ (key x)=true)(hr:dN key l)(hl:jg key l):jg key (insF key x l):=by
 induction l with
 | nil=>exact aEr _ _
 | cons y l ih=>
  have hl':=aDQ.1 hl;unfold insF;split;rename_i h;refine List.Pairwise.cons (λz hz=>?_) (ih (λz hz=>hr z (by simp[hz])) hl'.2);rcases (J3 x l z).1 hz with rfl|hz;have:=vJ (hr y aj) hx (λe=>by rw[e,oZ]at h;cases h);rw[h]at this;simpa using this;exact hl'.1 z hz;rename_i h;have h:eG (key y) (key x)=false:=by simpa using h
  refine List.Pairwise.cons (λz hz=>?_) hl;rcases aDg.1 hz with rfl|hz;exact h;exact uz hx (hr y aj) (hr z (by simp[hz])) h (hl'.1 z hz)
theorem Xk(x:α)(l:List α)(r:List V):dM key r (insF key x l)=dM key r (x::l):=by
 induction l with
 | nil=>rfl
 | cons y l ih=>
  unfold insF;split;rename_i h;have hne:¬(key y=r/\key x=r):=λ⟨h1,h2⟩=>by rw[h1,h2,oZ]at h;cases h
  have c:∀(z:α) (t:List α),dM key r (z::t)=if key z=r then z::dM key r t else dM key r t:=λz t=>by unfold dM;rw[List.filter_cons];simp
  rw[c,ih,c,c,c];by_cases h1:key y=r;by_cases h2:key x=r;exact absurd ⟨h1,h2⟩ hne;simp[h1,h2];simp[h1];rfl
theorem Hg{l:List α}(hr:dN key l):dN key (mF key l):=by
 induction l with
 | nil=>exact hr
 | cons x l ih=>
  intro z hz;rcases (J3 x _ z).1 hz with rfl|hz;exact hr _ aj;exact ih (λz hz=>hr z (by simp[hz])) z hz
theorem Hl{l:List α}(hr:dN key l):jg key (mF key l):=by
 induction l with
 | nil=>exact List.Pairwise.nil
 | cons x l ih=>
  have hr':dN key l:=λz hz=>hr z (by simp[hz]);exact Xj (hr x aj) (Hg hr') (ih hr')
theorem yQ(l:List α):Alike key (mF key l) l:=by
 induction l with
 | nil=>exact Alike.refl _
 | cons x l ih=>
  intro r;have c:∀(z:α) (t:List α),dM key r (z::t)=if key z=r then z::dM key r t else dM key r t:=λz t=>by unfold dM;rw[List.filter_cons];simp
  show dM key r (insF key x (mF key l))=_;rw[Xk,c,c,ih r]
theorem Xl{l m:List α}(hr:dN key l)(hm:jg key m)(h:Alike key m l):m=mF key l:=
 (Xi (Hg hr) (Hl hr) hm ((yQ l).trans h.symm)).symm
theorem O3{β:Type}(f:α->β)(key':β->List V)(l:List α)(r:List V):dM key' r (l.map f)=(dM (λx=>key' (f x)) r l).map f:=by unfold dM;rw[List.filter_map];rfl
theorem Alike.map{β:Type}(f:α->β){key':β->List V}{l m:List α}(h:Alike (λx=>key' (f x)) l m):Alike key' (l.map f) (m.map f):=λr=>by rw[O3,O3,h r]
theorem jg.map{β:Type}(f:α->β){key':β->List V}{l:List α}(h:jg (λx=>key' (f x)) l):jg key' (l.map f):=by unfold jg at h|-;rw[List.pairwise_map];exact h
end
def lH(l:List V):List au:=l.flatMap je
theorem Du(l:List V):(lH l).length=l.length*3:=by
 induction l with
 | nil=>rfl
 | cons x l ih=>
  have:(lH (x::l)).length=3+(lH l).length:=by simp[lH,je];omega
  rw[this,ih,aDh];omega
theorem QG(l m:List V):lH (l++m)=lH l++lH m:=by simp[lH]
theorem O7:∀(l:List V) (i:Nat) (x:V),l[i]?=some x->∀j u,(je x)[j]?=some u->(lH l)[i*3+j]?=some u
 | [],_,_,h,_,_,_=>by simp at h
 | y::l,0,x,h,j,u,hu=>by simp at h;subst h;have hj:j<3:=(aC6.1 hu).1;have e:lH (y::l)=je y++lH l:=rfl;rw[e,aDH,aDt,aD9 (by simpa[je] using hj)];exact hu
 | y::l,i+1,x,h,j,u,hu=>by have e:lH (y::l)=je y++lH l:=rfl;have hl:(je y).length=3:=rfl;rw[e,aEe (by rw[hl];omega),hl,show (i+1)*3+j-3=i*3+j by omega];exact O7 l i x (by simpa using h) j u hu
theorem aHO(h:U:=by rw[aD9 (by rw[hl];exact hq)]at h;refine⟨y,by rw[Nat.div_eq_of_lt hq];rfl,?_⟩;rw[Nat.mod_eq_of_lt hq];exact h):U:=h
theorem J9:∀(l:List V) (q:Nat) (u:au),(lH l)[q]?=some u->∃x,l[q / 3]?=some x/\(je x)[q % 3]?=some u
 | [],q,u,h=>by simp[lH]at h
 | y::l,q,u,h=>by have e:lH (y::l)=je y++lH l:=rfl;have hl:(je y).length=3:=rfl;rw[e]at h;by_cases hq:q<3;exact aHO;rw[aEe (by rw[hl];omega),hl]at h;obtain⟨x,h1,h2⟩:=J9 l (q-3) u h;refine⟨x,?_,?_⟩;rw[show q / 3=(q-3) / 3+1 by omega];simpa using h1;rw[show q % 3=(q-3) % 3 by omega];exact h2
theorem aaN(l:List V):∀u∈lH l,u.oneCell'=true:=by intro u hu;obtain⟨x,_,hx⟩:=aEh.1 hu;simp[je]at hx;rcases hx with rfl|rfl|rfl<;>rfl
def qj(w:ak)(v:au)(l:List V):Prop:=w.ownsRow 0 42 3 v l.length (lH l)
theorem qj.nil_(w:ak):qj w ↑() []:=aE_ _ _ _ _
theorem qj.of{w:ak}{base n:Nat}{v:au}{l:List V}(h:w.ownsRow base 42 3 v n (lH l)):qj w v l:=by
 have hn:l.length=n:=by have:=h.1;rw[Du]at this;omega
 exact aHt
theorem qj.but{K:List Nat}{w w':ak}{v:au}{l:List V}(h:qj w v l)(hb:But K w w')(hn:∀g,v.ownBlock=some g->g∉K):qj w' v l:=by exact aHk
theorem qj.ev{w w':ak}{v:au}{l:List V}(h:qj w v l)(hb:Ev w w'):qj w' v l:=h.but (But.aU (K:=[]) hb) (λ_ _=>by simp)
theorem qj.lt{w:ak}{v:au}{l:List V}(h:qj w v l){g:Nat}(hg:v.ownBlock=some g):g<w.heap.size:=(World.ownsRow.lt (show w.ownsRow _ _ _ _ _ _ from h) g hg).2
theorem qj.vs{w:ak}{v:au}{l:List V}(h:qj w v l):∃A cap,v=.slice A l.length cap/\Vs w A l.length cap l/\(∀ad,A=some ad->v.ownBlock=some ad.block):=by
 rcases h.2 with⟨rfl,hn⟩|⟨g,cap,cur,rfl,hb,hg,AU,hcm,hcs,ht⟩
 have hl:l=[]:=aDv hn;subst hl;exact⟨none,0,rfl,Sl.nil_ w,aj⟩;refine⟨_,_,rfl,⟨rfl,AU,by simpa[maxLen] using hcm,aj,λh0=>⟨g,0,rfl,(aDa.1 hg).1,λi x hx j u hu=>?_⟩⟩,by rintro ad ⟨⟩;rfl⟩;have hi:=(aC6.1 hx).1;have hj:j<3:=(aC6.1 hu).1;have:=World.ownsRow.cellAt (show w.ownsRow 0 42 3 (.slice ↑g l.length cap) l.length (lH l) from h) (i*3+j) ae;rw[aDt,this];exact O7 l i x hx j u hu
theorem qj.form{w:ak}{v:au}{l:List V}(h:qj w v l):∃A n cap,v=.slice A n cap:=by obtain⟨A,cap,rfl,_⟩:=h.vs;exact⟨_,_,_,rfl⟩
theorem Vs.J_(w:ak)(k n:Int)(s:ByteArray):Vs (w.alloc (.cells #[↑k,↑n,.string s] 42)) ↑w 1 1 [(k,n,s)]:=
 ⟨rfl,aC8 _,ae,aj,λ_=>⟨w.heap.size,0,rfl,aj,λi x hx j u hu=>by
  have hi:i=0:=by have:=(aC6.1 hx).1;simp at this;omega
  subst hi;simp at hx;subst hx;rw[aFf (aFd w _)];simpa[je] using hu⟩⟩
theorem IM{P:Program}{w:ak}(ty:TypeId)
  (ht:P.underlying 44=some (.slice 42)) (hi:(P.info? 42).map (λi=>(i.zero,i.size,i.bytes))=some (some (.agg #[.int .i64 0,.int .i64 0,.string ⟨#[]⟩]),3,32))
  (v:au) (xs:List V) (hown:qj w v xs) (A:Option Addr) (m c:Nat) (l:List V) (hB:Vs w A m c l) (hbytes:(xs.length+l.length)*32<=140737488355328):
  ∃v' w',(Builtin.append_ #[44,44] ty #[v,.slice A m c]).run P w=.ok v' w'/\qj w' v' (xs++l)/\But (foot v) w w'/\dE w v v':=by
 obtain⟨i,uj,hz,hsz,hby⟩:=aE' hi;have hl:=hB.len
 cases A with
 | none=>
  obtain⟨h0,h1⟩:=hB.nil rfl;subst h0 h1;have hnil:l=[]:=aDv hl;subst hnil;exact⟨v,w,run_append_owned_none (P:=P) (w:=w) 0 44 ty 42 i 3 ht uj v _ _ hown,by simpa using hown,But.refl _ _,dE.refl _ _⟩
 | some ad=>
  have hcells:∀j u,(lH l)[j]?=some u->w.cell? (ad.add j)=some u:=by intro q u hu;obtain⟨x,hx,hxu⟩:=J9 l q u hu;have hq:=(aC6.1 hx).1;obtain⟨b,off,e,_,hc⟩:=hB.rd ae;obtain rfl:=aDp e;have:=hc (q / 3) x hx (q % 3) u hxu;rw[aE9];rwa [show off+q / 3*3+q % 3=off+q by omega]at this
  obtain⟨v',w',hr,h1,h2,_,h4⟩:=run_append_own_at (P:=P) w 0 44 ty 42 i _ 3 32 ht uj hz hsz hby rfl ai v xs.length (lH xs) hown ad m c (lH l) (by rw[Du,hl]) hcells (aaN l) (by unfold maxLen;omega) (by rw[<-hl];exact hbytes) (aDl _);refine⟨v',w',hr,qj.of (base:=0) (n:=xs.length+m) (by rw[QG];exact h1),But.grown h2 (λg hg=>aG.2 hg),λg hg=>?_⟩;rcases h4 with h4|h4;exact .inl (h4▸hg);rw[h4]at hg;simp at hg;exact .inr ae
theorem sH{P:Program}{w:ak}{ops:Array Oper}{rest:List Oper}{o:Oper}{a:Act}{Q:Exit->Act->ak->Prop}(hgd:o.guard=none)(s x:Operand)
  (ho:o.op=.call {callee:=.builtin .append,args:=#[s,x],argTypes:=#[44,44]})
  (ht:P.underlying 44=some (.slice 42)) (hi:(P.info? 42).map (λi=>(i.zero,i.size,i.bytes))=some (some (.agg #[.int .i64 0,.int .i64 0,.string ⟨#[]⟩]),3,32))
  (v:au) (xs:List V) (hs:a.eval s=v) (hown:qj w v xs) (A:Option Addr) (m c:Nat) (l:List V) (hx:a.eval x=.slice A m c) (hB:Vs w A m c l) (hbytes:(xs.length+l.length)*32<=140737488355328)
  (h:∀v' w',qj w' v' (xs++l)->But (foot v) w w'->dE w v v'->wpList P ops Q rest (a.put o.dst v') w'):wpList P ops Q (o::rest) a w:=by
 refine wpList_plain hgd λK hK=>?_;obtain⟨v',w',hr,h2,h3,h4⟩:=IM (P:=P) (w:=w) o.type ht hi v xs hown A m c l hB hbytes;unfold Oper.wp execOp;simp only[ho,resolve,invoke,builtin,aFa,aFb,aFc,aD1,aDe,aDu,hs,hx,hr];exact hK _ _ (h v' w' h2 h3 h4)
theorem Tryz.Zn:(Tryz.prog.info? 42).map (λi=>(i.zero,i.size,i.bytes))=some (some (.agg #[.int .i64 0,.int .i64 0,.string ⟨#[]⟩]),3,32):=ah
theorem Hq(n:Nat)(w:ak)(hn:n<9223372036854775808):
  Calls ax 102 #[↑n] w λe w'=>e=.returned (.bool (decide (1<=n)&&decide (n<=6)))/\w=w':=by
 go_enter func102,ntmps102;by_cases h1:1<=n
 ·have i1:(1:Int)<=(n:Int):=ae;have e:(decide (1<=n)&&decide (n<=6))=decide ((n:Int)<=6):=by rw[aDE h1,aD'];exact decide_eq_decide.2 ae
  rw[e];go_wp2;go_ret;exact⟨rfl,rfl⟩
 have i1:¬(1:Int)<=(n:Int):=ae;rw[show (decide (1<=n)&&decide (n<=6))=false by rw[aDB h1];rfl];go_wp2;go_ret;exact⟨rfl,rfl⟩
theorem aHo(h:U:=by
 go_wp2_with (first|((with_reducible refine(HC.out _).mono ?_);rintro x w1 ⟨rfl,rfl⟩))
 go_ret;exact⟨by rw[HG.out];rfl,Ev.refl _⟩):U:=h
theorem vO{A:Option Addr}{n cap:Nat}{l:List V}(w:ak)(h:Vs w A n cap l):
  Calls ax 52 #[.slice A n cap] w λe w'=>e=.returned (.bool (bZ l))/\Ev w w':=by
 have hn:=h.le;have hm:=h.max;have HN:=zq h.len;have HC:=zq (λw1=>Hq n w1 ae);have HG:Hid (bZ l=((decide (1<=n)&&decide (n<=6))&&okR l)):=zq (by unfold bZ;rw[HN.out]);generalize (decide (1<=n)&&decide (n<=6))=c at*
 cases c
 ·go_enter func52,ntmps52;exact aHo
 go_enter func52,ntmps52
 go_wp2_with (first|((with_reducible refine(HC.out _).mono ?_);rintro x w1 ⟨rfl,rfl⟩))
 go_loopw [11] (λi wr=>∃k:Nat,k<=n/\i=↑k/\Hid (okR (l.take k)=true)/\Ev w wr) (λi _=>n-(intOf i).toNat)
 case atStart=>exact⟨0,aDl _,rfl,zq rfl,Ev.refl _⟩
 case round=>
  obtain⟨k,hk,rfl,HT,hE⟩:=hrel;by_cases hlt:k<n
  ·obtain⟨b,off,x,rfl,hb,hx,c0,c1,c2⟩:=(h.ev hE).G8 hlt;have HX:=zq hx;clear hx;obtain⟨xk,xn,xs⟩:=x;simp only at c0 c1 c2;have HV:=zq (λw1=>qi xk xn xs w1)
   cases hr:ed xk xn xs
   ·have HF:=zq (ag0 HX.out hr);rw[hr]at HV
    go_wp2_with (first|((with_reducible refine(HV.out _).mono ?_);rintro x w1 ⟨rfl,aJ⟩))
    go_ret;exact⟨by rw[HG.out,HF.out];rfl,(hE.trans aC).trans aJ⟩
   have HF:Hid (okR (l.take (k+1))=true):=zq (by rw[ac9 HX.out,HT.out];exact hr);rw[hr]at HV
   go_wp2_with (first|((with_reducible refine(HV.out _).mono ?_);rintro x w1 ⟨rfl,aJ⟩))
   go_roundw
   case rel=>exact⟨k+1,ae,by go_num,HF,(hE.trans aC).trans aJ⟩
   case measure=>simp[intOf];omega
  obtain rfl:k=n:=ae;go_wp2;go_ret;refine⟨?_,hE⟩;have:=HT.out;rw[aDj (by rw[HN.out];exact aC8 _)]at this;rw[HG.out,this];rfl
theorem QK{A B:Option Addr}{n m cap cap':Nat}{a b:List V}(w:ak)(h:Vs w A n cap a)(h':Vs w B m cap' b):
  Calls ax 109 #[.slice A n cap,.slice B m cap'] w λe w'=>e=.returned (.bool (eqL a b))/\Ev w w':=by
 have hn:=h.le;have hm:=h.max;have hn':=h'.le;have WE:=h'.max;have HL:=zq h.len;have HM:=zq h'.len;by_cases qX:n=m
 ·subst qX;go_enter func109,ntmps109;go_wp2
  go_loopw [13] (λi wr=>∃k:Nat,k<=n/\i=↑k/\Hid (a.take k=b.take k)/\Ev w wr) (λi _=>n-(intOf i).toNat)
  case atStart=>exact⟨0,aDl _,rfl,zq aj,Ev.refl _⟩
  case round=>
   obtain⟨k,hk,rfl,HT,hE⟩:=hrel;by_cases hlt:k<n
   ·obtain⟨b1,off,⟨xk,xn,xs⟩,rfl,hb,hx,c0,c1,c2⟩:=(h.ev hE).G8 hlt;obtain⟨b2,off',⟨yk,yn,ys⟩,rfl,hb',hy,d0,d1,d2⟩:=(h'.ev hE).G8 hlt;have i1:(0:Int)<=(k:Int):=ae;have i2:(k:Int)<(n:Int):=ae;simp only at c0 c1 c2 d0 d1 d2;have HX:=zq hx;have HY:=zq hy;clear hx hy h h'
    go_wp2_with fail
    refine wp_region_quiet_lit ah ah ?_
    repeat (quiet_step (fail))
    refine BigFrame.wpQuiet_want rfl λK hK=>vw rfl rfl rfl (hK _ ?_);refine wpQuiet_nil ?_;rintro _ ⟨nq,rfl⟩;by_cases Fj:(xk,xn,xs)=(yk,yn,ys)
    ·have HT':Hid (a.take (k+1)=b.take (k+1)):=zq (OX HT.out HX.out (Fj▸HY.out));rw[(rM (xk,xn,xs) (yk,yn,ys)).trans (aDE Fj)];clear HX HY HT Fj;go_wp2;go_roundw
     case rel=>exact⟨k+1,ae,by go_num,HT',hE.trans (Ev.drewN _ _)⟩
     case measure=>simp[intOf];omega
    have HF:=zq (anN HX.out HY.out Fj);rw[(rM (xk,xn,xs) (yk,yn,ys)).trans (aDB Fj)];clear HX HY HT Fj;go_wp2;go_ret;exact⟨by rw[eqL,aDB HF.out];rfl,hE.trans (Ev.drewN _ _)⟩
   obtain rfl:k=n:=ae;have HF:=zq (akp HT.out HL.out.symm HM.out.symm);go_wp2;go_ret;exact⟨by rw[eqL,aDE HF.out];rfl,hE⟩
 go_enter func109,ntmps109;have hne:¬(n:Int)=(m:Int):=ae;have HF:Hid (a≠b):=zq (λe=>qX (by rw[<-HL.out,<-HM.out,e]));go_wp2;go_ret;exact⟨by rw[eqL,aDB HF.out];rfl,Ev.refl _⟩
structure QL(a b:List V)(i:Nat):Prop where
 le:i<=a.length
 le':i<=b.length
 same:a.take i=b.take i
 differ:∀x y,a[i]?=some x->b[i]?=some y->x≠y
theorem aH1(h:U:=by
 go_wp2_with fail
 go_quiet (fail)
 go_wp2;go_ret;exact⟨⟨k,rfl,HF.out⟩,hE.trans (Ev.drewN _ _)⟩):U:=h
theorem Xp{A B:Option Addr}{n m cap cap':Nat}{a b:List V}(w:ak)(h:Vs w A n cap a)(h':Vs w B m cap' b):
  Calls ax 105 #[.slice A n cap,.slice B m cap'] w λe w'=>(∃i:Nat,e=.returned ↑i/\QL a b i)/\Ev w w':=by
 have hn:=h.le;have hm:=h.max;have hn':=h'.le;have WE:=h'.max;have HL:=zq h.len;have HM:=zq h'.len;go_enter func105,ntmps105;go_wp2
 go_loopw [5] (λi wr=>∃k:Nat,k<=n/\k<=m/\i=↑k/\Hid (a.take k=b.take k)/\Ev w wr) (λi _=>n-(intOf i).toNat)
 case atStart=>exact⟨0,aDl _,aDl _,rfl,zq aj,Ev.refl _⟩
 case round=>
  obtain⟨k,hk,hk',rfl,HT,hE⟩:=hrel;by_cases hlt:k<n
  ·have i2:(k:Int)<(n:Int):=ae;by_cases asw:k<m
   ·obtain⟨b1,off,⟨xk,xn,xs⟩,rfl,hb,hx,c0,c1,c2⟩:=(h.ev hE).G8 hlt;obtain⟨b2,off',⟨yk,yn,ys⟩,rfl,hb',hy,d0,d1,d2⟩:=(h'.ev hE).G8 asw;have i1:(0:Int)<=(k:Int):=ae;have i3:(k:Int)<(m:Int):=ae;simp only at c0 c1 c2 d0 d1 d2;have HX:=zq hx;have HY:=zq hy;clear hx hy h h'
    go_wp2_with fail
    refine wp_region_quiet_lit ah ah ?_
    repeat (quiet_step (fail))
    refine BigFrame.wpQuiet_want rfl λK hK=>QB rfl rfl rfl (hK _ ?_)
    repeat (quiet_step (fail))
    refine wpQuiet_nil ?_;rintro _ ⟨nq,rfl⟩;by_cases Fj:(xk,xn,xs)=(yk,yn,ys)
    ·have HT':Hid (a.take (k+1)=b.take (k+1)):=zq (OX HT.out HX.out (Fj▸HY.out));rw[(rM (xk,xn,xs) (yk,yn,ys)).trans (aDE Fj)];clear HX HY HT Fj;go_wp2;go_roundw
     case rel=>exact⟨k+1,ae,ae,by go_num,HT',hE.trans (Ev.drewN _ _)⟩
     case measure=>simp[intOf];omega
    have HF:Hid (QL a b k):=zq ⟨by rw[HL.out];exact hk,by rw[HM.out];exact hk',HT.out,λx y ex ey=>by
     obtain rfl:=aDp (HX.out.symm.trans ex);obtain rfl:=aDp (HY.out.symm.trans ey);exact Fj⟩
    rw[(rM (xk,xn,xs) (yk,yn,ys)).trans (aDB Fj)];clear HX HY HT Fj;go_wp2;go_ret;exact⟨⟨k,rfl,HF.out⟩,hE.trans (Ev.drewN _ _)⟩
   have i3:¬(k:Int)<(m:Int):=ae;have HF:Hid (QL a b k):=zq ⟨by rw[HL.out];exact hk,by rw[HM.out];exact hk',HT.out,λx y ex ey=>by
    have:=(aC6.1 ey).1;rw[HM.out]at this;omega⟩
   exact aH1
  have i2:¬(k:Int)<(n:Int):=ae;have HF:Hid (QL a b k):=zq ⟨by rw[HL.out];exact hk,by rw[HM.out];exact hk',HT.out,λx y ex ey=>by
   have:=(aC6.1 ex).1;rw[HL.out]at this;omega⟩
  exact aH1
theorem aHK(h:U:=by
 go_wp2_with (first|((with_reducible refine(HR.out _ h).mono ?_);rintro x w1 ⟨rfl,aJ⟩))
 go_ret;exact⟨rfl,aJ⟩):U:=h
theorem Ue{A B:Option Addr}{n m cap cap':Nat}{a b:List V}(w:ak)(h:Vs w A n cap a)(h':Vs w B m cap' b):
  Calls ax 56 #[.slice A n cap,.slice B m cap'] w λe w'=>e=.returned (.bool (yO a b))/\Ev w w':=by
 have HR:=zq (λw1 (h1:Vs w1 A n cap a)=>vO w1 h1);have HE:=zq (λw1 (h1:Vs w1 A n cap a) (h2:Vs w1 B m cap' b)=>QK w1 h1 h2);unfold yO;generalize bZ a=r at*
 cases r
 ·go_enter func56,ntmps56;exact aHK
 go_enter func56,ntmps56
 go_wp2_with (first|((with_reducible refine(HR.out _ h).mono ?_);rintro x w1 ⟨rfl,aJ⟩)|((with_reducible refine(HE.out _ (h.ev aJ) (h'.ev aJ)).mono ?_);rintro x w2 ⟨rfl,dJ⟩))
 go_ret;exact⟨rfl,aJ.trans dJ⟩
abbrev By:=List UInt8
inductive T where
 | mk (kind:Int) (s:By) (n:Int) (kids:List T) (pos:Nat):T
def T.kind:T->Int
 | .mk k _ _ _ _=>k
def T.s:T->By
 | .mk _ s _ _ _=>s
def T.n:T->Int
 | .mk _ _ n _ _=>n
def T.kids:T->List T
 | .mk _ _ _ l _=>l
def T.pos:T->Nat
 | .mk _ _ _ _ p=>p
def T.add(e t:T):T:=.mk e.kind e.s e.n (e.kids++[t]) e.pos
def dQ:T:=.mk 0 [] 0 [] 0
structure Tk where
 kind:Int
 s:By
 n:Int
 size:Nat
 why:Int
 fault:Nat
def Tk.tree(x:Tk)(pos:Nat):T:=.mk x.kind x.s x.n [] pos
def sxRun(p:UInt8->Bool):By->Nat
 | []=>0
 | c::l=>if p c then sxRun p l+1 else 0
def dA(c:UInt8):Bool:=c.toNat==32||c.toNat==10
def bC(c:UInt8):Bool:=decide (97<=c.toNat)&&decide (c.toNat<=122)
def aY(c:UInt8):Bool:=decide (48<=c.toNat)&&decide (c.toNat<=57)
def bV(c:UInt8):Bool:=decide (32<=c.toNat)&&decide (c.toNat<=126)&&!(c.toNat==34)&&!(c.toNat==92)
def aW(why:Int)(fault:Nat):Tk:=⟨0,[],0,0,why,fault⟩
def sxBelow:By->Int->Option Int
 | [],n=>some n
 | c::l,n=>if n < -((9223372036854775808-((c.toNat:Int)-48)) / 10) then none else sxBelow l (n*10-((c.toNat:Int)-48))
def dC(l:By):By:=l.take (sxRun aY l)
def sxNum(plus:Bool)(d:By):Tk:=
 match sxBelow d 0 with
 | none=>aW 12 0
 | some n=>if d.isEmpty||plus&&decide (n=-9223372036854775808) then aW 12 0 else if plus then ⟨3,[],-n,d.length,0,0⟩ else ⟨3,[],n,1+d.length,0,0⟩
def dL:By->Tk
 | []=>sxNum true []
 | c::q=>if c.toNat==45 then sxNum false (dC q) else sxNum true (dC (c::q))
def gV(c:UInt8):Option Nat:=
 if 48<=c.toNat/\c.toNat<=57 then some (c.toNat-48) else if 97<=c.toNat/\c.toNat<=102 then some (c.toNat-87) else none
def sxEscaped:By->UInt8×Int
 | []=>(0,10)
 | x::q=>match gV x with
  | none=>(0,12)
  | some a=>match q with
   | []=>(0,10)
   | y::_=>match gV y with
    | none=>(0,12)
    | some b=>(UInt8.ofNat (16*a+b),0)
def sxTextGo:By->By->Nat->Tk
 | _,[],i=>aW 10 i
 | b,c::q,i=>
  if bV c then sxTextGo (b++[c]) q (i+1)
  else if c.toNat==92 then
   match q with
   | []=>aW 10 (i+1)
   | x::q1=>match gV x with
    | none=>aW 12 i
    | some h=>match q1 with
     | []=>aW 10 (i+2)
     | y::q2=>match gV y with
      | none=>aW 12 i
      | some k=>sxTextGo (b++[UInt8.ofNat (16*h+k)]) q2 (i+3)
  else if c.toNat==34 then (if 40<b.length then aW 3 0 else ⟨4,b,0,i+1,0,0⟩)
  else aW 12 i
def bJ:By->Tk
 | []=>aW 12 0
 | c::q=>
  if c.toNat==40 then ⟨1,[],0,1,0,0⟩
  else if c.toNat==41 then ⟨-1,[],0,1,0,0⟩
  else if c.toNat==34 then sxTextGo [] q 1
  else if c.toNat==45||aY c then dL (c::q)
  else if bC c then ⟨2,(c::q).take (sxRun bC (c::q)),0,sxRun bC (c::q),0,0⟩
  else aW 12 0
def sxDone:List T->Bool
 | []=>false
 | e::_=>!e.kids.isEmpty
def iF(os:List T)(x:Tk):Int×Nat:=
 if !(x.why==0)&&!(sxDone os&&decide (0<x.fault)) then (x.why,x.fault)
 else if x.kind==-1&&os.length==1 then (12,0)
 else if !(x.kind==-1)&&sxDone os then (11,0)
 else if x.kind==1&&decide (12<os.length) then (14,0)
 else (0,0)
def sxPut:List T->T->List T
 | [],_=>[]
 | [e],t=>[e.add t]
 | e::e'::os,t=>e::sxPut (e'::os) t
def sxTake(os:List T)(t:T):List T:=
 if t.kind==1 then os++[t]
 else if t.kind==-1 then (match os.getLast? with|none=>os|some e=>sxPut os.dropLast e)
 else sxPut os t
abbrev Res:=T×Int×Nat
def jX(os:List T)(pos:Nat):Res:=
 match os with
 | []=>(dQ,10,pos)
 | e::_=>match e.kids with
  | []=>(dQ,10,pos)
  | t::_=>(t,0,0)
def sxGo:Nat->List T->By->Nat->Res
 | 0,_,_,_=>(dQ,12,0)
 | f+1,os,r,pos=>
  match r.drop (sxRun dA r) with
  | []=>jX os (pos+sxRun dA r)
  | c::q=>
   if (iF os (bJ (c::q))).1==0 then
    sxGo f (sxTake os ((bJ (c::q)).tree (pos+sxRun dA r))) ((c::q).drop (bJ (c::q)).size) (pos+sxRun dA r+(bJ (c::q)).size)
   else (dQ,(iF os (bJ (c::q))).1,pos+sxRun dA r+(iF os (bJ (c::q))).2)
def fH(l:By):Res:=if 600<l.length then (dQ,3,0) else sxGo (l.length+1) [dQ] l 0
theorem jJ(p:UInt8->Bool):∀l:By,sxRun p l<=l.length
 | []=>aC8 _
 | c::l=>by unfold sxRun;have:=jJ p l;split<;>simp<;>omega
theorem lL(p:UInt8->Bool):∀(l:By) (k:Nat) (c:UInt8),l[k]?=some c->sxRun p (l.drop k)=if p c then sxRun p (l.drop (k+1))+1 else 0
 | [],k,c,h=>by simp at h
 | x::l,0,c,h=>by simp at h;subst h;simp[sxRun]
 | x::l,k+1,c,h=>by have:=lL p l k c (by simpa using h);simpa using this
theorem FC(p:UInt8->Bool):∀l:By,∀c∈l.take (sxRun p l),p c=true
 | [],c,h=>by simp[sxRun]at h
 | x::l,c,h=>by unfold sxRun at h;split at h;rename_i hx;rw[aDX]at h;rcases aDg.1 h with rfl|h;exact hx;exact FC p l c h;simp at h
theorem KG(p:UInt8->Bool):∀(l:By) (c:UInt8),l[sxRun p l]?=some c->p c=false
 | [],c,h=>by simp at h
 | x::l,c,h=>by unfold sxRun at h;split at h;exact KG p l c (by simpa using h);rename_i hx;simp at h;subst h;simpa using hx
theorem mX:∀(os:List T) (e t:T),sxPut (os++[e]) t=os++[e.add t]
 | [],e,t=>rfl
 | [a],e,t=>rfl
 | a::b::os,e,t=>by have:=mX (b::os) e t;simp only[aDR]at this|-;unfold sxPut;rw[this]
theorem Dz:∀(r b:By) (i:Nat),sxTextGo b r i=sxTextGo (b++r.take (sxRun bV r)) (r.drop (sxRun bV r)) (i+sxRun bV r)
 | [],b,i=>by simp[sxRun]
 | c::q,b,i=>by
  by_cases h:bV c=true;have e:sxRun bV (c::q)=sxRun bV q+1:=by simp[sxRun,h]
  rw[e,aDX,aDJ]
  conv=>lhs;unfold sxTextGo
  simp only[h,aDL];rw[Dz q (b++[c]) (i+1)];rw[aDA,List.singleton_append,show i+1+sxRun bV q=i+(sxRun bV q+1) by omega];have e:sxRun bV (c::q)=0:=by simp[sxRun,h]
  rw[e];simp
theorem Xv(s:ByteArray)(k:Nat)(h:k<s.size):s[k]=s.data.toList.getD k 0:=by obtain⟨a⟩:=s;have h2:k<a.size:=h;show a[k]=_;simp[List.getD,h2]
theorem qo(s:ByteArray)(k:Nat)(h:k<s.size):s.data.toList[k]?=some s[k]:=by
 rw[Xv s k h];have h2:k<s.data.toList.length:=by rw[aDK];exact h
 simp[List.getD,aDo h2]
theorem Xw(c:UInt8)(w:ak):
  Calls ax 181 #[.int .u8 (c.toNat:Int)] w λe w'=>e=.returned (.bool (dA c))/\w=w':=by
 by_cases h1:(c.toNat:Int)=32
 ·have e:dA c=true:=by unfold dA;simp;omega
  rw[e];go_enter func181,ntmps181;go_wp2;go_ret;exact⟨rfl,rfl⟩
 have e:dA c=((c.toNat:Int)==10):=by unfold dA;rw[aDY];simp;omega
 have h1':((c.toNat:Int)==32)=false:=aC7.2 h1;rw[e];go_enter func181,ntmps181;go_wp2;go_ret;exact⟨rfl,rfl⟩
theorem Hz(c:UInt8)(w:ak):
  Calls ax 233 #[.int .u8 (c.toNat:Int)] w λe w'=>e=.returned (.bool (bC c))/\w=w':=by
 by_cases h1:(97:Int)<=(c.toNat:Int)
 ·have e:bC c=decide ((c.toNat:Int)<=122):=by unfold bC;rw[aDY];simp;omega
  rw[e];go_enter func233,ntmps233;go_wp2;go_ret;exact⟨rfl,rfl⟩
 have e:bC c=false:=by unfold bC;rw[aDY];simp;omega
 rw[e];go_enter func233,ntmps233;go_wp2;go_ret;exact⟨rfl,rfl⟩
theorem KH(c:UInt8)(w:ak):
  Calls ax 231 #[.int .u8 (c.toNat:Int)] w λe w'=>e=.returned (.bool (aY c))/\w=w':=by
 by_cases h1:(48:Int)<=(c.toNat:Int)
 ·have e:aY c=decide ((c.toNat:Int)<=57):=by unfold aY;rw[aDY];simp;omega
  rw[e];go_enter func231,ntmps231;go_wp2;go_ret;exact⟨rfl,rfl⟩
 have e:aY c=false:=by unfold aY;rw[aDY];simp;omega
 rw[e];go_enter func231,ntmps231;go_wp2;go_ret;exact⟨rfl,rfl⟩
theorem aHx(h:U:=by
 have e:bV c=false:=by unfold bV;rw[aDY];simp;omega
 rw[e];go_enter func266,ntmps266;go_wp2;go_ret;exact⟨rfl,rfl⟩):U:=h
theorem Xx(c:UInt8)(w:ak):
  Calls ax 266 #[.int .u8 (c.toNat:Int)] w λe w'=>e=.returned (.bool (bV c))/\w=w':=by
 by_cases h1:(32:Int)<=(c.toNat:Int)
 ·by_cases h2:(c.toNat:Int)<=126
  ·by_cases h3:(c.toNat:Int)=34;exact aHx;have e:bV c=((c.toNat:Int) !=34&&(c.toNat:Int) !=92):=by unfold bV;rw[aDY];simp;omega
   rw[e];go_enter func266,ntmps266;go_wp2;go_ret;exact⟨rfl,rfl⟩
  exact aHx
 exact aHx
theorem aG2(h:U:=by
 rw[hp]at HC HS;have HC:=zq HC;clear hp
 go_wp2_with (first|((with_reducible refine(HC.out _).mono ?_);rintro x w1 ⟨rfl,rfl⟩))
 go_ret;refine⟨?_,rfl⟩;rw[HK.out,HS.out];rfl):U:=h
theorem aGp(h:U:=by
 rw[hp]at HC HS;have HC:=zq HC;clear hp
 go_wp2_with (first|((with_reducible refine(HC.out _).mono ?_);rintro x w1 ⟨rfl,rfl⟩))
 go_round
 case rel=>exact⟨k+1,ae,by go_num,zq (by rw[HK.out,HS.out];simp only[aDL];omega)⟩
 case measure=>simp[intOf];omega):U:=h
theorem KI(s:ByteArray)(w:ak)(hs:s.size<=9223372036854775806):
  Calls ax 180 #[.string s,.func (.func 181) #[] #[]] w λe w'=>e=.returned (.int .i64 (sxRun dA s.data.toList:Int))/\w=w':=by
 have kN:s.data.toList.length=s.size:=by rw[aDK];rfl
 have HL:=zq kN;clear kN;have HP:=zq Xw;go_enter func180,ntmps180;go_wp2
 go_loop [5] (λi=>∃k:Nat,k<=s.size/\i=↑k/\Hid (sxRun dA s.data.toList=k+sxRun dA (s.data.toList.drop k))) (λi=>s.size-(intOf i).toNat)
 case atStart=>exact⟨0,aDl _,rfl,zq aj⟩
 case round=>
  obtain⟨k,hk,rfl,HK⟩:=hrel;by_cases hlt:k<s.size;have HS:=zq (lL dA s.data.toList k _ (qo s k hlt));obtain⟨c,hc⟩:∃c,s[k]=c:=⟨_,rfl⟩
  have hidx:∀hh,s[k]'hh=c:=λ_=>hc;rw[hc]at HS;clear hc;have HC:=HP.out c
  cases hp:dA c
  exact aG2;exact aGp;obtain rfl:k=s.size:=ae;have HZ:Hid (sxRun dA s.data.toList=s.size):=zq (by rw[HK.out,aDO (by rw[HL.out];exact aC8 _)];rfl);clear HK;go_wp2;go_ret;rw[HZ.out];exact⟨rfl,rfl⟩
theorem IQ(s:ByteArray)(w:ak)(hs:s.size<=9223372036854775806):
  Calls ax 180 #[.string s,.func (.func 233) #[] #[]] w λe w'=>e=.returned (.int .i64 (sxRun bC s.data.toList:Int))/\w=w':=by
 have kN:s.data.toList.length=s.size:=by rw[aDK];rfl
 have HL:=zq kN;clear kN;have HP:=zq Hz;go_enter func180,ntmps180;go_wp2
 go_loop [5] (λi=>∃k:Nat,k<=s.size/\i=↑k/\Hid (sxRun bC s.data.toList=k+sxRun bC (s.data.toList.drop k))) (λi=>s.size-(intOf i).toNat)
 case atStart=>exact⟨0,aDl _,rfl,zq aj⟩
 case round=>
  obtain⟨k,hk,rfl,HK⟩:=hrel;by_cases hlt:k<s.size;have HS:=zq (lL bC s.data.toList k _ (qo s k hlt));obtain⟨c,hc⟩:∃c,s[k]=c:=⟨_,rfl⟩
  have hidx:∀hh,s[k]'hh=c:=λ_=>hc;rw[hc]at HS;clear hc;have HC:=HP.out c
  cases hp:bC c
  exact aG2;exact aGp;obtain rfl:k=s.size:=ae;have HZ:Hid (sxRun bC s.data.toList=s.size):=zq (by rw[HK.out,aDO (by rw[HL.out];exact aC8 _)];rfl);clear HK;go_wp2;go_ret;rw[HZ.out];exact⟨rfl,rfl⟩
theorem KJ(s:ByteArray)(w:ak)(hs:s.size<=9223372036854775806):
  Calls ax 180 #[.string s,.func (.func 231) #[] #[]] w λe w'=>e=.returned (.int .i64 (sxRun aY s.data.toList:Int))/\w=w':=by
 have kN:s.data.toList.length=s.size:=by rw[aDK];rfl
 have HL:=zq kN;clear kN;have HP:=zq KH;go_enter func180,ntmps180;go_wp2
 go_loop [5] (λi=>∃k:Nat,k<=s.size/\i=↑k/\Hid (sxRun aY s.data.toList=k+sxRun aY (s.data.toList.drop k))) (λi=>s.size-(intOf i).toNat)
 case atStart=>exact⟨0,aDl _,rfl,zq aj⟩
 case round=>
  obtain⟨k,hk,rfl,HK⟩:=hrel;by_cases hlt:k<s.size;have HS:=zq (lL aY s.data.toList k _ (qo s k hlt));obtain⟨c,hc⟩:∃c,s[k]=c:=⟨_,rfl⟩
  have hidx:∀hh,s[k]'hh=c:=λ_=>hc;rw[hc]at HS;clear hc;have HC:=HP.out c
  cases hp:aY c
  exact aG2;exact aGp;obtain rfl:k=s.size:=ae;have HZ:Hid (sxRun aY s.data.toList=s.size):=zq (by rw[HK.out,aDO (by rw[HL.out];exact aC8 _)];rfl);clear HK;go_wp2;go_ret;rw[HZ.out];exact⟨rfl,rfl⟩
theorem KL(s:ByteArray)(w:ak)(hs:s.size<=9223372036854775806):
  Calls ax 180 #[.string s,.func (.func 266) #[] #[]] w λe w'=>e=.returned (.int .i64 (sxRun bV s.data.toList:Int))/\w=w':=by
 have kN:s.data.toList.length=s.size:=by rw[aDK];rfl
 have HL:=zq kN;clear kN;have HP:=zq Xx;go_enter func180,ntmps180;go_wp2
 go_loop [5] (λi=>∃k:Nat,k<=s.size/\i=↑k/\Hid (sxRun bV s.data.toList=k+sxRun bV (s.data.toList.drop k))) (λi=>s.size-(intOf i).toNat)
 case atStart=>exact⟨0,aDl _,rfl,zq aj⟩
 case round=>
  obtain⟨k,hk,rfl,HK⟩:=hrel;by_cases hlt:k<s.size;have HS:=zq (lL bV s.data.toList k _ (qo s k hlt));obtain⟨c,hc⟩:∃c,s[k]=c:=⟨_,rfl⟩
  have hidx:∀hh,s[k]'hh=c:=λ_=>hc;rw[hc]at HS;clear hc;have HC:=HP.out c
  cases hp:bV c
  exact aG2;exact aGp;obtain rfl:k=s.size:=ae;have HZ:Hid (sxRun bV s.data.toList=s.size):=zq (by rw[HK.out,aDO (by rw[HL.out];exact aC8 _)];rfl);clear HK;go_wp2;go_ret;rw[HZ.out];exact⟨rfl,rfl⟩
def okN(l:List V):Prop:=∀x∈l,-9223372036854775808<=x.2.1/\x.2.1<=9223372036854775807
end Go.Proofs.YtbgmhhfjkkfhpaaGreatDoor
