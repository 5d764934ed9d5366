import GoSem.Core.World
import Derived.KernelRfl
namespace Go.Proofs.YtpbfokkocaemlaaGreatDoor
open Go
abbrev awy := @beq_eq_false_iff_ne
abbrev awz := @List.getElem?_eq_some_iff
abbrev awC := @Nat.le_refl
abbrev awD := @List.length_map
abbrev awE := @List.length_append
abbrev awF := @Bool.and_eq_true
abbrev awG := @List.mem_of_getElem?
abbrev awH := @List.take_succ_eq_append_getElem
abbrev awI := @List.map_cons
abbrev awJ := @Nat.zero_le
abbrev awK := @List.mem_cons_of_mem
abbrev awL := @List.mem_cons_self
abbrev awM := @List.map_append
abbrev awN := @List.mem_cons
abbrev awO := @beq_iff_eq
abbrev awP := @Bool.false_eq_true
abbrev awQ := @Array.getElem?_eq_some_iff
abbrev awR := @List.length_cons
abbrev awS := @List.take_of_length_le
abbrev awT := @List.map_map
abbrev awU := @Nat.lt_of_lt_of_le
abbrev awV := @List.mem_append
abbrev awW := @List.all_eq_true
abbrev awX := @List.getElem?_eq_getElem
abbrev awY := @List.map_nil
abbrev awZ := @List.mem_append_left
abbrev aw0 := @Nat.le_trans
abbrev aw1 := @List.append_assoc
abbrev aw2 := @Nat.add_zero
abbrev aw3 := @Nat.zero_add
abbrev aw4 := @if_true
abbrev aw5 := @decide_eq_true
abbrev aw6 := @List.mem_map
abbrev aw7 := @if_false
abbrev aw8 := @Array.length_toList
abbrev aw9 := @List.mem_map_of_mem
abbrev aw_ := @Bool.or_eq_true
abbrev aw' := @List.length_drop
abbrev axa := @List.length_take
abbrev axb := @List.drop_succ_cons
abbrev axc := @congrArg
abbrev axd := @Option.some.inj
abbrev axe := @beq_self_eq_true
abbrev axf := @decide_eq_false
abbrev axg := @Nat.le_succ
abbrev axh := @List.getElem?_map
abbrev axi := @Nat.zero_mul
abbrev axj := @List.cons_append
abbrev axk := @List.take_length
abbrev axl := @List.map_congr_left
abbrev axm := @List.drop_of_length_le
abbrev axn := @List.not_mem_nil
abbrev axo := @List.mem_append_right
abbrev axp := @Bool.false_and
abbrev axq := @decide_eq_true_eq
abbrev axr := @List.sum_cons
abbrev axs := @List.take_append_drop
abbrev axt := @List.drop_eq_getElem_cons
abbrev axu := @List.eq_nil_of_length_eq_zero
abbrev axv := @Bool.eq_iff_iff
abbrev axw := @List.length_nil
abbrev axx := @List.mem_range
abbrev axy := @List.map_take
abbrev axz := @List.take_succ_cons
abbrev axA := @List.nil_append
abbrev axB := @Bool.true_and
abbrev axC := @Nat.lt_of_lt_of_eq
abbrev axD := @List.getD_eq_getElem?_getD
abbrev axE := @List.drop_zero
abbrev axF := @List.map_toArray
abbrev axG := @List.map_drop
abbrev axH := @List.findIdx?_eq_some_iff_getElem
abbrev axI := @bne_iff_ne
abbrev axJ := @List.all_append
abbrev axK := @Nat.one_mul
abbrev axL := @Array.any_eq_true'
abbrev axM := @Nat.add_sub_cancel
abbrev axN := @List.all_map
abbrev axO := @List.mem_of_mem_take
abbrev axP := @List.sum_append
abbrev axQ := @List.any_eq_true
abbrev axR := @or_false
abbrev axS := @List.flatMap_cons
abbrev axT := @List.foldl_cons
abbrev axU := @List.getElem?_of_mem
abbrev axV := @List.mem_flatMap
abbrev axW := @List.foldl_append
abbrev axX := @List.countP_eq_zero
abbrev axY := @List.eq_nil_iff_forall_not_mem
abbrev axZ := @Nat.add_mul
abbrev ax0 := @Bool.not_eq_true'
abbrev ax1 := @of_decide_eq_true
abbrev ax2 := @List.append_nil
abbrev ax3 := @Array.getElem?_eq_getElem
abbrev ax4 := @List.nodup_append
abbrev ax5 := @List.getD_cons_zero
abbrev ax6 := @List.length_zipWith
abbrev ax7 := @List.isEmpty_iff
abbrev ax8 := @List.getElem_cons_drop
abbrev ax9 := @List.find?_eq_none
abbrev ax_ := @Bool.false_ne_true
abbrev ax' := @List.countP_le_length
abbrev aya := @List.getElem?_append_right
abbrev ayb := @Bool.and_true
abbrev ayc := @List.getElem?_append_left
abbrev ayd := @List.getLast?_eq_some_iff
abbrev aye := @List.sum_nil
abbrev ayf := @List.flatMap_append
abbrev ayg := @List.countP_cons_of_neg
abbrev ayh := @List.all_cons
abbrev ayi := @List.drop_left'
abbrev ayj := @Nat.mul_one
abbrev ayk := @List.take_left
theorem ae {P:Prop} (h:P:=by omega):P:=h
theorem ah {P:Prop} (h:P:=by kernel_rfl):P:=h
theorem ai {P:Prop} (h:P:=by decide):P:=h
theorem aj {P:Prop} (h:P:=by simp):P:=h
inductive Zz|a|b|c|d|e
instance cea:CoeDep Zz .a (Array Value):=⟨#[.int .i64 0,.string ⟨#[]⟩,.int .i64 0,.slice none 0 0,.int .i64 0]⟩
instance ceb:CoeDep Zz .b (Array Value):=⟨#[.int .i64 0,.string ⟨#[]⟩,.slice none 0 0,.slice none 0 0,.slice none 0 0,.slice none 0 0,.slice none 0 0,.slice none 0 0]⟩
instance cec:CoeDep Zz .c (Array Value):=⟨#[.int .i64 2,.string ⟨#[]⟩,.int .i64 1,.slice none 0 0]⟩
instance ced:CoeDep Zz .d (Array Value):=⟨#[.slice none 0 0,.int .i64 0,.string ⟨#[]⟩]⟩
instance cee:CoeDep Zz .e (Array Value):=⟨#[.int .i64 0,.string ⟨#[]⟩,.int .i64 0,.slice none 0 0]⟩
instance cef:Coe Int Value:=⟨fun k=>.int .i64 k⟩
instance ceg:Coe Nat Value:=⟨fun k=>.int .i64 (k:Int)⟩
instance ceh:Coe (List UInt8) Value:=⟨fun l=>.string ⟨l.toArray⟩⟩
instance cei:Coe Nat (Option Addr):=⟨fun b=>some ⟨b,0,none⟩⟩
instance cel:Coe World (Option Addr):=⟨fun w=>some ⟨w.heap.size,0,none⟩⟩
instance cem:Coe World Nat:=⟨fun w=>w.heap.size⟩
instance cej (b o:Nat):CoeDep (Nat×Nat) (b,o) (Option Addr):=⟨some ⟨b,o,none⟩⟩
instance cek:CoeDep Unit () Value:=⟨.slice none 0 0⟩
end Go.Proofs.YtpbfokkocaemlaaGreatDoor
