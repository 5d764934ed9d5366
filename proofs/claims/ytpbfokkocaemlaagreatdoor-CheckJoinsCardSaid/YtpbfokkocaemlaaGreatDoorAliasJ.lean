import GoSem.Core.Value
import Derived.KernelRfl
namespace Go.Proofs.YtpbfokkocaemlaaGreatDoor
open Go
abbrev awg := @beq_eq_false_iff_ne
abbrev awh := @List.length_map
abbrev awi := @List.getElem?_eq_some_iff
abbrev awj := @Nat.le_refl
abbrev awk := @Bool.and_eq_true
abbrev awl := @List.length_append
abbrev awm := @List.mem_of_getElem?
abbrev awn := @List.mem_cons_of_mem
abbrev awo := @List.map_cons
abbrev awp := @List.mem_cons_self
abbrev awq := @List.mem_cons
abbrev awr := @List.length_cons
abbrev aws := @List.take_succ_eq_append_getElem
abbrev awt := @List.map_append
abbrev awu := @Array.getElem?_eq_some_iff
abbrev awv := @Bool.false_eq_true
abbrev aww := @Nat.zero_le
abbrev awx := @beq_iff_eq
abbrev awy := @List.map_map
abbrev awz := @Nat.lt_of_lt_of_le
abbrev awC := @List.take_of_length_le
abbrev awD := @List.mem_append
abbrev awE := @List.getElem?_eq_getElem
abbrev awF := @List.all_eq_true
abbrev awG := @List.map_nil
abbrev awH := @List.mem_append_left
abbrev awI := @List.append_assoc
abbrev awJ := @Nat.le_trans
abbrev awK := @Array.length_toList
abbrev awL := @Nat.zero_add
abbrev awM := @Nat.add_zero
abbrev awN := @List.mem_map
abbrev awO := @decide_eq_true
abbrev awP := @Bool.or_eq_true
abbrev awQ := @List.length_drop
abbrev awR := @List.drop_succ_cons
abbrev awS := @List.mem_map_of_mem
abbrev awT := @List.length_take
abbrev awU := @List.not_mem_nil
abbrev awV := @List.cons_append
abbrev awW := @Nat.zero_mul
abbrev awX := @Nat.le_succ
abbrev awY := @decide_eq_false
abbrev awZ := @beq_self_eq_true
abbrev aw0 := @List.take_length
abbrev aw1 := @List.map_congr_left
abbrev aw2 := @List.drop_of_length_le
abbrev aw3 := @Option.some.inj
abbrev aw4 := @List.mem_append_right
abbrev aw5 := @List.getElem?_map
abbrev aw6 := @Bool.false_and
abbrev aw7 := @decide_eq_true_eq
abbrev aw8 := @List.sum_cons
abbrev aw9 := @List.eq_nil_of_length_eq_zero
abbrev aw_ := @Bool.eq_iff_iff
abbrev aw' := @List.length_nil
abbrev axa := @List.getD_eq_getElem?_getD
abbrev axb := @List.mem_range
abbrev axc := @List.drop_eq_getElem_cons
abbrev axd := @List.nil_append
abbrev axe := @List.map_take
abbrev axf := @List.take_append_drop
abbrev axg := @List.take_succ_cons
abbrev axh := @List.drop_zero
abbrev axi := @Bool.true_and
abbrev axj := @List.foldl_cons
abbrev axk := @Nat.lt_of_lt_of_eq
abbrev axl := @List.map_toArray
abbrev axm := @List.map_drop
abbrev axn := @Nat.one_mul
abbrev axo := @List.mem_of_mem_take
abbrev axp := @Array.any_eq_true'
abbrev axq := @Nat.add_sub_cancel
abbrev axr := @bne_iff_ne
abbrev axs := @List.all_map
abbrev axt := @List.sum_append
abbrev axu := @List.any_eq_true
abbrev axv := @List.flatMap_cons
abbrev axw := @List.getElem?_of_mem
abbrev axx := @List.mem_flatMap
abbrev axy := @List.findIdx?_eq_some_iff_getElem
abbrev axz := @Nat.add_mul
abbrev axA := @List.countP_eq_zero
abbrev axB := @List.eq_nil_iff_forall_not_mem
abbrev axC := @Bool.not_eq_true'
abbrev axD := @List.foldl_append
abbrev axE := @List.append_nil
abbrev axF := @Array.getElem?_eq_getElem
abbrev axG := @List.all_append
abbrev axH := @List.nodup_append
abbrev axI := @of_decide_eq_true
abbrev axJ := @List.getD_cons_zero
abbrev axK := @List.length_zipWith
abbrev axL := @List.isEmpty_iff
abbrev axM := @Bool.false_ne_true
abbrev axN := @List.countP_le_length
abbrev axO := @List.getElem?_append_right
abbrev axP := @Bool.and_true
abbrev axQ := @List.getElem?_append_left
abbrev axR := @List.findIdx?_eq_none_iff
abbrev axS := @List.getLast?_eq_some_iff
abbrev axT := @List.sum_nil
abbrev axU := @List.flatMap_append
abbrev axV := @List.countP_cons_of_neg
abbrev axW := @List.all_cons
abbrev axX := @List.drop_left'
abbrev axY := @Nat.mul_one
abbrev axZ := @List.getElem_cons_drop
abbrev ax0 := @List.take_left
theorem ae {P:Prop} (h:P:=by omega):P:=h
theorem ah {P:Prop} (h:P:=by kernel_rfl):P:=h
theorem ai {P:Prop} (h:P:=by decide):P:=h
theorem aj {P:Prop} (h:P:=by simp):P:=h
inductive Zz|a|b|c|d|e
instance cea:CoeDep Zz .a (Array Value):=⟨#[.int .i64 0,.string ⟨#[]⟩,.int .i64 0,.slice none 0 0,.int .i64 0]⟩
instance ceb:CoeDep Zz .b (Array Value):=⟨#[.int .i64 0,.string ⟨#[]⟩,.slice none 0 0,.slice none 0 0,.slice none 0 0,.slice none 0 0,.slice none 0 0,.slice none 0 0]⟩
instance cec:CoeDep Zz .c (Array Value):=⟨#[.int .i64 2,.string ⟨#[]⟩,.int .i64 1,.slice none 0 0]⟩
instance ced:CoeDep Zz .d (Array Value):=⟨#[.slice none 0 0,.int .i64 0,.string ⟨#[]⟩]⟩
instance cee:CoeDep Zz .e (Array Value):=⟨#[.int .i64 0,.string ⟨#[]⟩,.int .i64 0,.slice none 0 0]⟩
instance cef:Coe Int Value:=⟨fun k=>.int .i64 k⟩
instance ceg:Coe Nat Value:=⟨fun k=>.int .i64 (k:Int)⟩
instance ceh:Coe (List UInt8) Value:=⟨fun l=>.string ⟨l.toArray⟩⟩
instance cei:Coe Nat (Option Addr):=⟨fun b=>some ⟨b,0,none⟩⟩
instance cej (b o:Nat):CoeDep (Nat×Nat) (b,o) (Option Addr):=⟨some ⟨b,o,none⟩⟩
instance cek:CoeDep Unit () Value:=⟨.slice none 0 0⟩
end Go.Proofs.YtpbfokkocaemlaaGreatDoor
