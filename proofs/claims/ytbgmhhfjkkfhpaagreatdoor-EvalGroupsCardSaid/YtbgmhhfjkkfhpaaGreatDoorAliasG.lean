import GoSem.Core.World
import Derived.KernelRfl
namespace Go.Proofs.YtbgmhhfjkkfhpaaGreatDoor
open Go
abbrev aC6 := @List.getElem?_eq_some_iff
abbrev aC7 := @beq_eq_false_iff_ne
abbrev aC8 := @Nat.le_refl
abbrev aC9 := @Bool.and_eq_true
abbrev aC_ := @List.length_map
abbrev aC' := @List.mem_cons_self
abbrev aDa := @Array.getElem?_eq_some_iff
abbrev aDb := @List.mem_of_getElem?
abbrev aDc := @List.mem_cons_of_mem
abbrev aDd := @List.length_append
abbrev aDe := @List.map_cons
abbrev aDf := @Nat.lt_of_lt_of_le
abbrev aDg := @List.mem_cons
abbrev aDh := @List.length_cons
abbrev aDi := @List.take_succ_eq_append_getElem
abbrev aDj := @List.take_of_length_le
abbrev aDk := @List.map_append
abbrev aDl := @Nat.zero_le
abbrev aDm := @List.mem_append
abbrev aDn := @beq_iff_eq
abbrev aDo := @List.getElem?_eq_getElem
abbrev aDp := @Option.some.inj
abbrev aDq := @Bool.false_eq_true
abbrev aDr := @Nat.le_trans
abbrev aDs := @List.all_eq_true
abbrev aDt := @Nat.zero_add
abbrev aDu := @List.map_nil
abbrev aDv := @List.eq_nil_of_length_eq_zero
abbrev aDw := @Nat.add_zero
abbrev aDx := @List.map_map
abbrev aDy := @List.mem_append_left
abbrev aDz := @List.mem_map
abbrev aDA := @List.append_assoc
abbrev aDB := @decide_eq_false
abbrev aDC := @Bool.or_eq_true
abbrev aDD := @List.length_drop
abbrev aDE := @decide_eq_true
abbrev aDF := @List.mem_map_of_mem
abbrev aDG := @List.getElem?_map
abbrev aDH := @Nat.zero_mul
abbrev aDI := @List.sum_cons
abbrev aDJ := @List.drop_succ_cons
abbrev aDK := @Array.length_toList
abbrev aDL := @if_true
abbrev aDM := @List.mem_singleton
abbrev aDN := @List.mem_range
abbrev aDO := @List.drop_of_length_le
abbrev aDP := @List.length_take
abbrev aDQ := @List.pairwise_cons
abbrev aDR := @List.cons_append
abbrev aDS := @List.take_append_drop
abbrev aDT := @List.map_congr_left
abbrev aDU := @if_false
abbrev aDV := @decide_eq_true_eq
abbrev aDW := @List.nil_append
abbrev aDX := @List.take_succ_cons
abbrev aDY := @Bool.eq_iff_iff
abbrev aDZ := @List.length_nil
abbrev aD0 := @Bool.false_and
abbrev aD1 := @List.map_toArray
abbrev aD2 := @List.mem_of_mem_take
abbrev aD3 := @Nat.le_succ
abbrev aD4 := @Array.any_eq_true'
abbrev aD5 := @List.append_nil
abbrev aD6 := @List.findIdx?_eq_some_iff_getElem
abbrev aD7 := @List.mem_append_right
abbrev aD8 := @congrArg
abbrev aD9 := @List.getElem?_append_left
abbrev aD_ := @beq_self_eq_true
abbrev aD' := @Bool.true_and
abbrev aEa := @List.not_mem_nil
abbrev aEb := @List.sum_append
abbrev aEc := @List.drop_zero
abbrev aEd := @List.eq_nil_iff_forall_not_mem
abbrev aEe := @List.getElem?_append_right
abbrev aEf := @List.map_take
abbrev aEg := @List.countP_eq_zero
abbrev aEh := @List.mem_flatMap
abbrev aEi := @Nat.one_mul
abbrev aEj := @List.any_eq_true
abbrev aEk := @bne_iff_ne
abbrev aEl := @List.drop_eq_getElem_cons
abbrev aEm := @List.mem_of_mem_drop
abbrev aEn := @List.getElem?_of_mem
abbrev aEo := @List.map_drop
abbrev aEp := @List.flatMap_cons
abbrev aEq := @of_decide_eq_true
abbrev aEr := @List.pairwise_singleton
abbrev aEs := @Bool.false_ne_true
abbrev aEt := @List.take_length
abbrev aEu := @List.countP_le_length
abbrev aEv := @Nat.add_mul
abbrev aEw := @List.foldl_cons
abbrev aEx := @List.getD_eq_getElem?_getD
abbrev aEy := @List.all_map
abbrev aEz := @List.foldl_append
abbrev aEA := @List.findIdx?_eq_none_iff
abbrev aEB := @List.exists_mem_of_ne_nil
abbrev aEC := @Nat.add_sub_cancel
abbrev aED := @Nat.mul_one
abbrev aEE := @List.pairwise_append
abbrev aEF := @Option.map_eq_some_iff
abbrev aEG := @or_false
abbrev aEH := @Array.getElem?_eq_getElem
abbrev aEI := @Int.le_refl
abbrev aEJ := @Bool.not_eq_true'
abbrev aEK := @Option.some.injEq
abbrev aEL := @List.nodup_append
abbrev aEM := @Int.mul_le_mul_of_nonneg_left
abbrev aEN := @List.getElem_of_mem
abbrev aEO := @List.getD_cons_zero
abbrev aEP := @List.drop_drop
abbrev aEQ := @List.getElem_cons_drop
abbrev aER := @Nat.mul_lt_mul_of_pos_right
abbrev aES := @List.getElem?_drop
abbrev aET := @List.all_append
abbrev aEU := @Bool.and_true
abbrev aEV := @List.pairwise_iff_getElem
abbrev aEW := @Nat.mul_le_mul_right
abbrev aEX := @List.getLast?_eq_some_iff
abbrev aEY := @List.take_left
abbrev aEZ := @List.isEmpty_iff
abbrev aE0 := @List.sum_nil
abbrev aE1 := @List.length_pos_iff
abbrev aE2 := @List.countP_cons_of_neg
abbrev aE3 := @Bool.and_self
abbrev aE4 := @List.drop_left'
abbrev aE5 := @List.flatten_cons
theorem ae {P:Prop} (h:P:=by omega):P:=h
theorem ah {P:Prop} (h:P:=by kernel_rfl):P:=h
theorem ai {P:Prop} (h:P:=by decide):P:=h
theorem aj {P:Prop} (h:P:=by simp):P:=h
inductive Zz|a|b|c|d|e
instance cea:CoeDep Zz .a (Array Value):=⟨#[.int .i64 0,.string ⟨#[]⟩,.int .i64 0,.slice none 0 0,.int .i64 0]⟩
instance ceb:CoeDep Zz .b (Array Value):=⟨#[.int .i64 0,.string ⟨#[]⟩,.slice none 0 0,.slice none 0 0,.slice none 0 0,.slice none 0 0,.slice none 0 0,.slice none 0 0]⟩
instance cec:CoeDep Zz .c (Array Value):=⟨#[.int .i64 2,.string ⟨#[]⟩,.int .i64 1,.slice none 0 0]⟩
instance ced:CoeDep Zz .d (Array Value):=⟨#[.slice none 0 0,.int .i64 0,.string ⟨#[]⟩]⟩
instance cee:CoeDep Zz .e (Array Value):=⟨#[.int .i64 0,.string ⟨#[]⟩,.int .i64 0,.slice none 0 0]⟩
instance cef:Coe Int Value:=⟨fun k=>.int .i64 k⟩
instance ceg:Coe Nat Value:=⟨fun k=>.int .i64 (k:Int)⟩
instance ceh:Coe (List UInt8) Value:=⟨fun l=>.string ⟨l.toArray⟩⟩
instance cei:Coe Nat (Option Addr):=⟨fun b=>some ⟨b,0,none⟩⟩
instance cel:Coe World (Option Addr):=⟨fun w=>some ⟨w.heap.size,0,none⟩⟩
instance cem:Coe World Nat:=⟨fun w=>w.heap.size⟩
instance cej (b o:Nat):CoeDep (Nat×Nat) (b,o) (Option Addr):=⟨some ⟨b,o,none⟩⟩
instance cek:CoeDep Unit () Value:=⟨.slice none 0 0⟩
end Go.Proofs.YtbgmhhfjkkfhpaaGreatDoor
