import Derived.Test.YtbgmhhfjkkfhpaaGreatDoorCards
import Derived.Test.YtbgmhhfjkkfhpaaGreatDoorTie
import Derived.Deep.DeepHandedRow
import Derived.Stop.LaidErr
import Derived.Test.YtbgmhhfjkkfhpaaGreatDoorZ45G
set_option linter.unusedVariables false
set_option maxRecDepth 100000
set_option maxHeartbeats 64000000
namespace Go.Proofs.YtbgmhhfjkkfhpaaGreatDoor.evalGroups
open Go.ChangeShapes Go.WideShapes Go.ChangeAt Go.RowKit
open Go.Lib renaming hid → zq
open Go renaming World → ak
open Go renaming Value → au
open Go.Proofs.Tryz renaming prog → ax
open Go.Proofs.Tryz
variable {U:Prop}
theorem own:ownKnob Tryz.prog.godebug=none:=ah
theorem laidOut:laidOutB ax=true:=ah
theorem walk(A0:Option Addr)(n0 cap0:Nat)(l0:List (dK V))(A1:Option Addr)(n1 cap1:Nat)(l1:List (dK V))(w:ak)(hT:Tab w)(h0:oK w A0 n0 cap0 l0)(h1:oK w A1 n1 cap1 l1):
  Calls ax 5 #[.slice A0 n0 cap0,.slice A1 n1 cap1] w λe w'=>e=.returned (.bool true)/\Ev w w':=by
 exact Wy w hT h0 h1
noncomputable def laidWorld (os:Os):ak:=
 {World.holding ax os ⟨#[],#[],[]⟩ with heap:=(((((((World.holding ax os ⟨#[],#[],[]⟩).heap).modify 3 (λo=>match o with|.cells _ t fz=>.cells #[.int .u8 0,.int .u8 1,.int .u8 28,.int .u8 2,.int .u8 29,.int .u8 14,.int .u8 24,.int .u8 3,.int .u8 30,.int .u8 22,.int .u8 20,.int .u8 15,.int .u8 25,.int .u8 17,.int .u8 4,.int .u8 8,.int .u8 31,.int .u8 27,.int .u8 13,.int .u8 23,.int .u8 21,.int .u8 19,.int .u8 16,.int .u8 7,.int .u8 26,.int .u8 12,.int .u8 18,.int .u8 6,.int .u8 11,.int .u8 5,.int .u8 10,.int .u8 9] t fz|o=>o))).modify 4 (λo=>match o with|.cells _ t fz=>.cells #[.int .u8 0,.int .u8 1,.int .u8 56,.int .u8 2,.int .u8 57,.int .u8 49,.int .u8 28,.int .u8 3,.int .u8 61,.int .u8 58,.int .u8 42,.int .u8 50,.int .u8 38,.int .u8 29,.int .u8 17,.int .u8 4,.int .u8 62,.int .u8 47,.int .u8 59,.int .u8 36,.int .u8 45,.int .u8 43,.int .u8 51,.int .u8 22,.int .u8 53,.int .u8 39,.int .u8 33,.int .u8 30,.int .u8 24,.int .u8 18,.int .u8 12,.int .u8 5,.int .u8 63,.int .u8 55,.int .u8 48,.int .u8 27,.int .u8 60,.int .u8 41,.int .u8 37,.int .u8 16,.int .u8 46,.int .u8 35,.int .u8 44,.int .u8 21,.int .u8 52,.int .u8 32,.int .u8 23,.int .u8 11,.int .u8 54,.int .u8 26,.int .u8 40,.int .u8 15,.int .u8 34,.int .u8 20,.int .u8 31,.int .u8 10,.int .u8 25,.int .u8 14,.int .u8 19,.int .u8 9,.int .u8 13,.int .u8 8,.int .u8 7,.int .u8 6] t fz|o=>o))).modify 1 (λo=>match o with|.cells _ t fz=>.cells #[.int .u64 1,.int .u64 10,.int .u64 100,.int .u64 1000,.int .u64 10000,.int .u64 100000,.int .u64 1000000,.int .u64 10000000,.int .u64 100000000,.int .u64 1000000000,.int .u64 10000000000,.int .u64 100000000000,.int .u64 1000000000000,.int .u64 10000000000000,.int .u64 100000000000000,.int .u64 1000000000000000,.int .u64 10000000000000000,.int .u64 100000000000000000,.int .u64 1000000000000000000,.int .u64 10000000000000000000] t fz|o=>o))}
theorem laid_met(os:Os):laidMet ax Rows.evalGroupsRow.laid ((laidWorld os).forCall (λ_ _=>0) ⟨#[],#[↑(),↑()],[]⟩).memory:=
 laidMet_of_run' 8 ah ah
theorem reads(os:Os){H:Type}(enc:TypeId×au->H):∃places,DataW.whole enc ax ((laidWorld os).forCall (λ_ _=>0) ⟨#[],#[↑(),↑()],[]⟩).memory Tryz.f5.params.toList Rows.evalGroupsSpec.vars false (#[↑(),↑()]:Array au).toList 8=some ([.nil,.nil],[],places):=
 ⟨[],ah⟩
theorem lifted(os:Os)(started:os.Started)(H:Type)(enc:TypeId×au->H)(F:Stop.Interp):
  ReturnsInHanded {} Tryz.checked os 5 .any ((OpenSpec.ofChange Rows.evalGroupsSpec).preRow enc ax Tryz.f5 Rows.evalGroupsRow.domain false Rows.evalGroupsRow.laid) (((OpenSpec.ofChange Rows.evalGroupsSpec).at F).post enc ax Tryz.f5 false true false false):=by
 obtain⟨places,hx⟩:=reads os enc;refine returnsInHanded_of_row (C:=Tryz.checked) (s:=OpenSpec.ofChange Rows.evalGroupsSpec) own started ah func5
  (witness_row_at (enc:=enc) (C:=Tryz.checked) false (laidWorld os) #[↑(),↑()] rfl ah ah ah
   (OpenSpec.preRow_of_cond 8 hx ah (λk hk=>by cases hk) ah (laid_met os))) ?_
 intro W base args ds gs before hval0 hW _ _ hsz hL _ _;have hval:∀(j:Nat) t v,Tryz.f5.params[j]?=some t->args[j]?=some v->Value.okWide ax W .any base t v:=hval0;have hW':=hW;have htab:Tab W:=Lib.tabIs_of_head (P:=ax) (g:=1) ah ah underlying345 underlying228 ah ah (laidMet.tail (laidMet.tail (show laidMet ax Rows.evalGroupsRow.laid W from hL)));obtain⟨p,q,hA0,hV,rfl,hfz,hnd⟩:=hW;have hA:DataW.TrodAll enc ax W 0 (λ_=>true) true Tryz.f5.params.toList args.toList ds p:=hA0;rw[Tryz.params5]at hA hval;obtain⟨v0,vs0,d0,ds0,p0,q0,hargs,rfl,rfl,h0,r0⟩:=trodAll_cons hA;obtain⟨v1,vs1,d1,ds1,p1,q1,rfl,rfl,rfl,h1,r1⟩:=trodAll_cons r0;obtain⟨rfl,rfl,rfl⟩:=trodAll_nil r1;obtain rfl:args=#[v0,v1]:=by cases args;simp_all
 obtain⟨rfl,rfl⟩:=trodVars_none hV;obtain⟨A0,n0,cap0,rfl⟩:=okWide_slice underlying22 (hval 0 22 v0 rfl rfl);have k0:=h0;have lt0:∀x∈p0,x.block<W.heap.size:=by obtain⟨m,hm⟩:=k0;exact DataW.trod_lt m _ _ _ hm
 obtain⟨l0,b0⟩:∃L,oK W A0 n0 cap0 L:=by obtain⟨fuel,hf⟩:=h0;exact Qv hf
 obtain⟨A1,n1,cap1,rfl⟩:=okWide_slice underlying22 (hval 1 22 v1 rfl rfl);have k1:=h1;have lt1:∀x∈p1,x.block<W.heap.size:=by obtain⟨m,hm⟩:=k1;exact DataW.trod_lt m _ _ _ hm
 obtain⟨l1,b1⟩:∃L,oK W A1 n1 cap1 L:=by obtain⟨fuel,hf⟩:=h1;exact Qv hf
 clear hA0 hval0;refine(walk A0 n0 cap0 l0 A1 n1 cap1 l1 W htab b0 b1).mono λe W' ⟨he,bel⟩=>?_;subst he;exact⟨_,rfl,_,_,_,[],_,[],hW',trodAll_mk1 (shut_bool underlying4 _),(trodAll_cons_mk (Below.trod laidOut ah (aEq ah) k0 bel lt0) (trodAll_cons_mk (Below.trod laidOut ah (aEq ah) k1 bel lt1) trodAll_mk0)),rfl,bel.frame _,λh=>by cases h⟩
end Go.Proofs.YtbgmhhfjkkfhpaaGreatDoor.evalGroups
