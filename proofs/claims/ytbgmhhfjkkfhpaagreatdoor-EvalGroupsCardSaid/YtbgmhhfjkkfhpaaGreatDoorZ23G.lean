import Derived.Test.YtbgmhhfjkkfhpaaGreatDoorZ20G
import Derived.Test.YtbgmhhfjkkfhpaaGreatDoorZ12G
set_option linter.unusedVariables false
set_option maxRecDepth 100000
set_option maxHeartbeats 64000000
namespace Go.Proofs.YtbgmhhfjkkfhpaaGreatDoor
open Go.RowKit
open Go renaming World → ak
open Go renaming Value → au
open Go.Proofs.Tryz renaming prog → ax
variable {U:Prop}
open Go.Proofs.Tryz
theorem lu{P:Program}{fn:Func}{p u1:Tmp}{ty:TypeId}(h:fn.results=#[.cell p ty,.tmp u1])(tmps:Array au)(w:ak)(g:Nat)(cs:Array au)(d:TypeDesc)
  (hp:tmps.getD p undef=.pointer ↑g) (hg:Bx ty g cs w)
  (hu:P.underlying ty=some d) (hd:(match d with|.struct _|.array _ _=>true|_=>false)=true) (hi:(P.info? ty).map (·.size)=some cs.size):
  (results fn tmps).run P w=.ok (.tuple #[.agg cs,tmps.getD u1 undef]) w:=by
 have hp':tmps[p]?.getD undef=.pointer ↑g:=by simpa using hp
 simp[results,h,hp',asAddr,run_loadVar_row w g ty ty cs (0,0) d hg.blk hu hd hi]
theorem Bx.three{T:TypeId}{g:Nat}{w:ak}{v0 v1 v2:au}(h:Bx T g #[v0,v1,v2] w):(w.cell? ⟨g,0,none⟩=some v0/\w.cell? ⟨g,1,none⟩=some v1/\w.cell? ⟨g,2,none⟩=some v2)/\
  (w.frozen? ⟨g,0,none⟩=false/\w.frozen? ⟨g,1,none⟩=false/\w.frozen? ⟨g,2,none⟩=false):=
 ⟨⟨h.cell 0,h.cell 1,h.cell 2⟩,h.frozen 0,h.frozen 1,h.frozen 2⟩
def kL(g:Nat)(v0 v1 v2:au)(w:ak):ak:=((w.setCell ⟨g,0,none⟩ v0).setCell ⟨g,1,none⟩ v1).setCell ⟨g,2,none⟩ v2
theorem bM(g:Nat)(v0 v1 v2:au)(w:ak):((w.setCell ⟨g,0,none⟩ v0).setCell ⟨g,1,none⟩ v1).setCell ⟨g,2,none⟩ v2=kL g v0 v1 v2 w:=rfl
theorem bP(g:Nat)(v0 v1 v2:au)(w:ak):But [g] w (kL g v0 v1 v2 w):=
 ((But.setCell ⟨g,0,none⟩ _ aj).then (But.setCell ⟨g,1,none⟩ _ aj)).then (But.setCell ⟨g,2,none⟩ _ aj)
theorem Bx.kL{T:TypeId}{g:Nat}{w:ak}{u0 u1 u2:au}(h:Bx T g #[u0,u1,u2] w)(v0 v1 v2:au):Bx T g #[v0,v1,v2] (kL g v0 v1 v2 w):=by have:=((h.set 0 v0).set 1 v1).set 2 v2;rw[show ((((#[u0,u1,u2]:Array au).setIfInBounds 0 v0).setIfInBounds 1 v1).setIfInBounds 2 v2)=#[v0,v1,v2] by simp]at this;exact this
def y7(n:Int):Prop:=-9223372036854775808<=n/\n<=9223372036854775807
instance (n:Int):Decidable (y7 n):=by unfold y7;infer_instance
theorem UR{s:By}(h:¬(s=UE)/\¬(s=UF)/\¬(s=UG)/\¬(s=bEq)/\¬(s=bLt)/\¬(s=UH)/\¬(s=bOr)/\¬(s=UI)/\¬(s=UJ)/\¬(s=UK)/\¬(s=UL)/\¬(s=bIf)):dU s=0:=by obtain⟨h0,h1,h2,h3,h4,h5,h6,h7,h8,h9,h10,h11⟩:=h;unfold dU abd abe;simp[h0,h1,h2,h3,h4,h5,h6,h7,h8,h9,h10,h11]
theorem aIt(h:U:=by go_enter func287,ntmps287;go_wp2;go_ret;exact⟨rfl,rfl⟩):U:=h
theorem UT(s:By)(w:ak):Calls ax 287 #[.string (dV s)] w λe w'=>e=.returned (.int .i64 (dU s:Int))/\w=w':=by unfold dV;by_cases hAdd:s=UE;subst hAdd;unfold UE;rw[show dU [97,100,100]=2 from rfl];exact aIt;by_cases hSub:s=UF;subst hSub;unfold UF;rw[show dU [115,117,98]=2 from rfl];exact aIt;by_cases hMul:s=UG;subst hMul;unfold UG;rw[show dU [109,117,108]=2 from rfl];exact aIt;by_cases hEq:s=bEq;subst hEq;unfold bEq;rw[show dU [101,113]=2 from rfl];exact aIt;by_cases hLt:s=bLt;subst hLt;unfold bLt;rw[show dU [108,116]=2 from rfl];exact aIt;by_cases hAnd:s=UH;subst hAnd;unfold UH;rw[show dU [97,110,100]=2 from rfl];exact aIt;by_cases hOr:s=bOr;subst hOr;unfold bOr;rw[show dU [111,114]=2 from rfl];exact aIt;by_cases akS:s=UI;subst akS;unfold UI;rw[show dU [99,97,116]=2 from rfl];exact aIt;by_cases akT:s=UJ;subst akT;unfold UJ;rw[show dU [110,101,103]=1 from rfl];exact aIt;by_cases akU:s=UK;subst akU;unfold UK;rw[show dU [110,111,116]=1 from rfl];exact aIt;by_cases hLen:s=UL;subst hLen;unfold UL;rw[show dU [108,101,110]=1 from rfl];exact aIt;by_cases hIf:s=bIf;subst hIf;unfold bIf;rw[show dU [105,102]=3 from rfl];exact aIt;rw[UR ⟨hAdd,hSub,hMul,hEq,hLt,hAnd,hOr,akS,akT,akU,hLen,hIf⟩];have ayH:(s==UE)=false:=aC7.2 hAdd;have ayI:(s==UF)=false:=aC7.2 hSub;have ayJ:(s==UG)=false:=aC7.2 hMul;have gEq:(s==bEq)=false:=aC7.2 hEq;have gLt:(s==bLt)=false:=aC7.2 hLt;have ayK:(s==UH)=false:=aC7.2 hAnd;have gOr:(s==bOr)=false:=aC7.2 hOr;have ayL:(s==UI)=false:=aC7.2 akS;have ayM:(s==UJ)=false:=aC7.2 akT;have ayN:(s==UK)=false:=aC7.2 akU;have ayO:(s==UL)=false:=aC7.2 hLen;have gIf:(s==bIf)=false:=aC7.2 hIf;unfold UE UF UG bEq bLt UH bOr UI UJ UK UL bIf at*;exact aIt
mutual
def T.every(p:T->Bool):T->Bool
 | .mk k s n l q=>p (.mk k s n l q)&&T.everys p l
def T.everys(p:T->Bool):List T->Bool
 | []=>true
 | t::l=>t.every p&&T.everys p l
end
theorem T.Ce(p:T->Bool):∀l:List T,T.everys p l=l.all (T.every p)
 | []=>rfl
 | t::l=>by simp[T.everys,T.Ce p l]
theorem T.kD(p:T->Bool)(t:T):t.every p=(p t&&t.kids.all (T.every p)):=by
 cases t
 rw[T.every,T.Ce];rfl
theorem T.size_eq(t:T):t.size=(t.kids.map T.size).sum+1:=by
 cases t
 rw[T.size,T.rU];rfl
theorem T.size_pos(t:T):1<=t.size:=by rw[T.size_eq];omega
theorem p_:∀l:List T,l.length<=(l.map T.size).sum
 | []=>by simp
 | t::l=>by have:=p_ l;have:=T.size_pos t;simp;omega
theorem Tryz.ad4:(Tryz.prog.info? 135).map (λi=>(i.zero,i.size,i.bytes))=some (some (.agg ↑Zz.e),4,56):=ah
theorem akV{α:Type}:∀{l:List α},l.length=2->∃a b,l=[a,b]
 | [],h=>by simp at h
 | [_],h=>by simp at h
 | [a,b],_=>⟨a,b,rfl⟩
 | _::_::_::_,h=>by simp at h
def ic(n:Int):List au:=[↑n]
abbrev Ks:=Sl 1 ic
theorem encI:Enc 1 ic:=⟨ae,λ_=>rfl,λx u hu=>by
 simp[ic]at hu;rw[hu];rfl⟩
theorem Tryz.ahC:(Tryz.prog.info? 3).map (λi=>(i.zero,i.size,i.bytes))=some (some (.int .i64 0),1,8):=ah
def dY(t:T):Bool:=decide (y7 t.n)&&decide (t.s.length<=100000)
theorem Ll:Enc 3 je:=⟨ae,λ_=>rfl,λx u hu=>by
 simp[je]at hu;rcases hu with rfl|rfl|rfl<;>rfl⟩
theorem Tryz.Po:(Tryz.prog.info? 42).map (λi=>(i.zero,i.size,i.bytes))=some (some (.agg #[.int .i64 0,.int .i64 0,.string ⟨#[]⟩]),3,32):=ah
theorem ad6{s:By}(h:dU s≠0)(hi:(s==bIf)=false):(abd s||abe s)=true/\(dU s=1∨dU s=2):=by
 unfold dU at*
 cases h2:abd s
 cases h1:abe s
 rw[h2,h1,hi]at h;exact absurd rfl h;exact⟨rfl,.inl rfl⟩;exact⟨rfl,.inr rfl⟩
end Go.Proofs.YtbgmhhfjkkfhpaaGreatDoor
