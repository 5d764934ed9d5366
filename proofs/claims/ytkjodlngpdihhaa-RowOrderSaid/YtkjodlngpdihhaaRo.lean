/-
  The walk of RowOrder.
-/
import Derived.Test.YtkjodlngpdihhaaLaw5
import Derived.Deep.Cut
namespace Go.Proofs.Ytkjodlngpdihhaa
open Go.RowKit
set_option linter.unusedVariables false

/-- What stays through RowOrder: its three rows, and the one that was got. -/
structure RoS (w0 : World) (A0 : Option Addr) (n0 c0 : Nat) (l0 : List V) (A1 : Option Addr) (n1 c1 : Nat) (l1 : List V) (A2 : Option Addr) (n2 c2 : Nat) (l2 : List V) (w : World) : Prop where
  a : Vs w A0 n0 c0 l0
  b : Vs w A1 n1 c1 l1
  c : Vs w A2 n2 c2 l2
  all : Ev w0 w
theorem RoS.ev {w0 : World} {A0 : Option Addr} {n0 c0 : Nat} {l0 : List V} {A1 : Option Addr} {n1 c1 : Nat} {l1 : List V} {A2 : Option Addr} {n2 c2 : Nat} {l2 : List V} {w w' : World} (h : RoS w0 A0 n0 c0 l0 A1 n1 c1 l1 A2 n2 c2 l2 w) (hE : Ev w w') : RoS w0 A0 n0 c0 l0 A1 n1 c1 l1 A2 n2 c2 l2 w' :=
  ⟨h.a.ev hE, h.b.ev hE, h.c.ev hE, h.all.trans hE⟩

set_option maxRecDepth 100000 in
set_option maxHeartbeats 8000000 in
theorem ro_walk (A0 : Option Addr) (n0 c0 : Nat) (l0 : List V) (A1 : Option Addr) (n1 c1 : Nat) (l1 : List V) (A2 : Option Addr) (n2 c2 : Nat) (l2 : List V) (w : World) (h0 : Vs w A0 n0 c0 l0) (N0 : okN l0) (h1 : Vs w A1 n1 c1 l1) (h2 : Vs w A2 n2 c2 l2) :
    Calls Try.prog 5 #[.slice A0 n0 c0, .slice A1 n1 c1, .slice A2 n2 c2] w fun e w' => e = .returned (.bool true) ∧ Ev w w' := by
  have S : RoS w A0 n0 c0 l0 A1 n1 c1 l1 A2 n2 c2 l2 w := ⟨h0, h1, h2, Ev.refl _⟩
  have hn0 := h0.le
  have hm0 := h0.max
  have hlen := h0.len
  have HR0 := fun w1 (h : Vs w1 A0 n0 c0 l0) => row_right w1 h
  have HR1 := fun w1 (h : Vs w1 A1 n1 c1 l1) => row_right w1 h
  have HR2 := fun w1 (h : Vs w1 A2 n2 c2 l2) => row_right w1 h
  have HK := Lib.hid (fun w => known_any w)
  clear h0 h1 h2
  cases hr0 : rightR l0
  · rw [hr0] at HR0
    have HR0 := Lib.hid HR0
    clear hr0
    go_enter Try.func5, Try.ntmps5
    go_wp2_with (first | ((with_reducible refine (HR0.out _ S.a).mono ?_); rintro y w1 ⟨rfl, hE1⟩) | ((with_reducible refine (HK.out _).mono ?_); rintro y w2 ⟨rfl, hE2⟩))
    go_ret
    exact ⟨rfl, hE1.trans hE2⟩
  · cases hr1 : rightR l1
    · rw [hr0] at HR0
      rw [hr1] at HR1
      have HR0 := Lib.hid HR0
      have HR1 := Lib.hid HR1
      clear hr0 hr1
      go_enter Try.func5, Try.ntmps5
      go_wp2_with (first | ((with_reducible refine (HR0.out _ S.a).mono ?_); rintro y w1 ⟨rfl, hE1⟩; replace S := S.ev hE1) | ((with_reducible refine (HR1.out _ S.b).mono ?_); rintro y w2 ⟨rfl, hE2⟩; replace S := S.ev hE2) | ((with_reducible refine (HK.out _).mono ?_); rintro y w3 ⟨rfl, hE3⟩))
      go_ret
      exact ⟨rfl, S.all.trans hE3⟩
    · cases hr2 : rightR l2
      · rw [hr0] at HR0
        rw [hr1] at HR1
        rw [hr2] at HR2
        have HR0 := Lib.hid HR0
        have HR1 := Lib.hid HR1
        have HR2 := Lib.hid HR2
        clear hr0 hr1 hr2
        go_enter Try.func5, Try.ntmps5
        go_wp2_with (first | ((with_reducible refine (HR0.out _ S.a).mono ?_); rintro y w1 ⟨rfl, hE1⟩; replace S := S.ev hE1) | ((with_reducible refine (HR1.out _ S.b).mono ?_); rintro y w2 ⟨rfl, hE2⟩; replace S := S.ev hE2) | ((with_reducible refine (HR2.out _ S.c).mono ?_); rintro y w3 ⟨rfl, hE3⟩; replace S := S.ev hE3) | ((with_reducible refine (HK.out _).mono ?_); rintro y w4 ⟨rfl, hE4⟩))
        go_ret
        exact ⟨rfl, S.all.trans hE4⟩
      · have hlx : lessR l0 l1 = lessL l0 l1 := by unfold lessR; rw [hr0, hr1]; rfl
        have hly : lessR l1 l0 = lessL l1 l0 := by unfold lessR; rw [hr0, hr1]; rfl
        have hlb : lessR l1 l2 = lessL l1 l2 := by unfold lessR; rw [hr1, hr2]; rfl
        have hlc : lessR l0 l2 = lessL l0 l2 := by unfold lessR; rw [hr0, hr2]; rfl
        have hsm : sameR l0 l1 = eqL l0 l1 := by unfold sameR; rw [hr0]; rfl
        have hxx : eqL l0 l0 = true := by unfold eqL; simp
        have htri : eqL l0 l1 = false → lessL l0 l1 = !lessL l1 l0 := fun e => lessL_tri l0 l1 (rightR_ok hr0) (rightR_ok hr1) (by unfold eqL at e; simpa using e)
        have hself : eqL l0 l1 = true → lessL l0 l1 = false ∧ lessL l1 l0 = false := fun e => by
          unfold eqL at e
          have e : l0 = l1 := by simpa using e
          subst e
          exact ⟨lessL_self _, lessL_self _⟩
        have htrans : lessL l0 l1 = true → lessL l1 l2 = true → lessL l0 l2 = true := fun a b => lessL_trans _ _ _ a b
        have hb6 := rightR_len hr0
        have hsz := sizeR_right l0 (rightR_ok hr0)
        have hback := row_back hr0 N0
        have hcut : 1 < n0 → lessR (l0.take (n0 - 1)) l0 = true := fun h => by
          have hlt : n0 - 1 < l0.length := by omega
          have hr3 : rightR (l0.take (n0 - 1)) = true := by
            have ho := rightR_ok hr0
            unfold rightR
            rw [List.length_take, decide_eq_true (p := 1 ≤ min (n0 - 1) l0.length) (by omega), decide_eq_true (p := min (n0 - 1) l0.length ≤ 6) (by omega)]
            unfold okR at ho ⊢
            rw [List.all_eq_true] at ho
            simp only [Bool.and_self, Bool.true_and, List.all_eq_true]
            intro x hx
            exact ho x (List.mem_of_mem_take hx)
          unfold lessR
          rw [hr3, hr0]
          simp only [Bool.and_self, if_true]
          have e : l0 = l0.take (n0 - 1) ++ l0[n0 - 1] :: [] := by
            conv => lhs; rw [← List.take_append_drop (n0 - 1) l0]
            rw [List.drop_eq_getElem_cons hlt, List.drop_eq_nil_of_le (by omega)]
          conv => lhs; arg 2; rw [e]
          exact lessL_more _ _ _
        rw [hr0] at HR0
        rw [hr1] at HR1
        rw [hr2] at HR2
        have HR0 := Lib.hid HR0
        have HR1 := Lib.hid HR1
        have HR2 := Lib.hid HR2
        have HX := fun w1 (h : Vs w1 A0 n0 c0 l0) (h' : Vs w1 A1 n1 c1 l1) => row_less w1 h h'
        have HY := fun w1 (h : Vs w1 A0 n0 c0 l0) (h' : Vs w1 A1 n1 c1 l1) => row_less w1 h' h
        have HB := fun w1 (h : Vs w1 A1 n1 c1 l1) (h' : Vs w1 A2 n2 c2 l2) => row_less w1 h h'
        have HC := fun w1 (h : Vs w1 A0 n0 c0 l0) (h' : Vs w1 A2 n2 c2 l2) => row_less w1 h h'
        have HQ := fun w1 (h : Vs w1 A0 n0 c0 l0) (h' : Vs w1 A1 n1 c1 l1) => keep_row w1 h h'
        have HS := fun w1 (h : Vs w1 A0 n0 c0 l0) (h' : Vs w1 A1 n1 c1 l1) => row_same w1 h h'
        have HXX := fun A n c w1 (h : Vs w1 A n c l0) (h' : Vs w1 A0 n0 c0 l0) => keep_row w1 h h'
        rw [hlx] at HX; rw [hly] at HY; rw [hlb] at HB; rw [hlc] at HC; rw [hsm] at HS; rw [hxx] at HXX
        generalize lessL l0 l1 = x at *
        generalize lessL l1 l0 = y at *
        generalize lessL l1 l2 = b at *
        generalize lessL l0 l2 = c at *
        generalize eqL l0 l1 = q at *
        obtain ⟨L, hL⟩ : ∃ L, putR l0 = L := ⟨_, rfl⟩
        have hpl := putR_length l0
        have HP := fun p w1 (h : Wr p (.slice none 0 0) [] w1) (hr : Vs w1 A0 n0 c0 l0) (hA : 0 < n0 → ∀ ad, A0 = some ad → ad.block ∉ p :: foot (.slice none 0 0)) => row_put p (.slice none 0 0) [] w1 h hr hA (by simp only [List.length_nil]; omega)
        rw [hL] at HP hback hpl
        simp only [List.nil_append] at HP
        have hLl : L.length ≤ 140737488355328 := by omega
        have HD := Lib.hid (fun p v w (h : Wr p v L w) => writer_done p v L w h hLl)
        have HN := Lib.hid (fun A cap w (h : Bs w A L.length cap L) => new_reader A L.length cap L w h hLl)
        have HG := fun p A cap w (h : Rd p A L.length cap L 0 0 w) => row_get w h
        rw [hback] at HG
        have HEnd := fun p A cap w (h : Rd p A L.length cap L 0 L.length w) => reader_end w h
        rw [rdEnd_whole] at HEnd
        have HP := Lib.hid HP; have HG := Lib.hid HG; have HEnd := Lib.hid HEnd; have HNW := Lib.hid (fun w => new_writer5 w)
        have HX := Lib.hid HX; have HY := Lib.hid HY; have HB := Lib.hid HB; have HC := Lib.hid HC; have HQ := Lib.hid HQ; have HS := Lib.hid HS; have HXX := Lib.hid HXX
        have HT := Lib.hid (fun (hn : 1 < n0) w1 (h : Vs w1 A0 n0 c0 l0) => (hcut hn ▸ row_less w1 (h.to (n0 - 1) (by omega)) h : Calls Try.prog 28 #[.slice A0 (n0 - 1) c0, .slice A0 n0 c0] w1 fun e w' => e = .returned (.bool true) ∧ Ev w1 w'))
        clear hcut hback hpl hsz hlx hly hlb hlc hsm hxx hr0 hr1 hr2 hL N0 hb6
        cases q
        · have ht := htri rfl
          clear htri hself
          subst ht
          cases y
          · have hbc := htrans rfl
            clear htrans
            simp only [Bool.not_false] at HX
            cases b
            · clear hbc
              by_cases hn1 : 1 < n0
              · have j1 : (1 : Int) < (n0 : Int) := by omega
                go_enter Try.func5, Try.ntmps5
                go_wp2_with (first
                  | ((with_reducible refine (HR0.out _ S.a).mono ?_); rintro y_ w1 ⟨rfl, hE1⟩; replace S := S.ev hE1)
                  | ((with_reducible refine (HR1.out _ S.b).mono ?_); rintro y_ w2 ⟨rfl, hE2⟩; replace S := S.ev hE2)
                  | ((with_reducible refine (HR2.out _ S.c).mono ?_); rintro y_ w3 ⟨rfl, hE3⟩; replace S := S.ev hE3)
                  | ((with_reducible refine (HNW.out w3).mono ?_); rintro y_ w4 ⟨rfl, hW4, hE4⟩)
                  | ((with_reducible refine (HP.out _ w4 hW4 (S.a.ev hE4) (fun h ad e => by have := S.a.lt h ad e; simp [foot, Value.ownBlock]; omega)).mono ?_); rintro y_ w5 ⟨rfl, v5, hW5, hT5⟩; replace S := S.ev (Wrote.new5 hE4 (Nat.le_refl _) hT5))
                  | ((with_reducible refine (HD.out _ _ w5 hW5).mono ?_); rintro y_ w6 ⟨A6, cap6, rfl, hB6, _, hE6⟩; replace S := S.ev hE6)
                  | ((with_reducible refine (HN.out _ _ w6 hB6).mono ?_); rintro y_ w7 ⟨p7, A7, cap7, rfl, hR7, hp7, _, hE7⟩)
                  | ((with_reducible refine (HG.out _ _ _ w7 hR7).mono ?_); rintro y_ w8 ⟨v8, rfl, hV8, _, hR8, hB8⟩; obtain ⟨A8, cap8, rfl, hX8, _⟩ := hV8.vs; rw [hlen] at hX8; replace S := S.ev (But.new1 hE7 hp7 hB8))
                  | ((with_reducible refine (HEnd.out _ _ _ w8 hR8).mono ?_); rintro y_ w9 ⟨rfl, hq9⟩; have hE9 := Ev.of_drewN hq9; clear hq9; replace S := S.ev hE9; have X := hX8.ev hE9)
                  | ((with_reducible refine (HX.out _ S.a S.b).mono ?_); rintro y_ wz ⟨rfl, hEz⟩; replace S := S.ev hEz; replace X := X.ev hEz)
                  | ((with_reducible refine (HY.out _ S.a S.b).mono ?_); rintro y_ wz ⟨rfl, hEz⟩; replace S := S.ev hEz; replace X := X.ev hEz)
                  | ((with_reducible refine (HQ.out _ S.a S.b).mono ?_); rintro y_ wz ⟨rfl, hEz⟩; replace S := S.ev hEz; replace X := X.ev hEz)
                  | ((with_reducible refine (HS.out _ S.a S.b).mono ?_); rintro y_ wz ⟨rfl, hEz⟩; replace S := S.ev hEz; replace X := X.ev hEz)
                  | ((with_reducible refine (HB.out _ S.b S.c).mono ?_); rintro y_ wz ⟨rfl, hEz⟩; replace S := S.ev hEz; replace X := X.ev hEz)
                  | ((with_reducible refine (HC.out _ S.a S.c).mono ?_); rintro y_ wz ⟨rfl, hEz⟩; replace S := S.ev hEz; replace X := X.ev hEz)
                  | ((with_reducible refine (HXX.out _ _ _ _ X S.a).mono ?_); rintro y_ wz ⟨rfl, hEz⟩; replace S := S.ev hEz; replace X := X.ev hEz)
                  | ((with_reducible refine (HK.out _).mono ?_); rintro y_ wz ⟨rfl, hEz⟩; replace S := S.ev hEz; replace X := X.ev hEz)
                  | ((with_reducible refine (HT.out hn1 _ S.a).mono ?_); rintro y_ wz ⟨rfl, hEz⟩; replace S := S.ev hEz; replace X := X.ev hEz))
                go_ret
                exact ⟨rfl, S.all⟩
              · have j1 : ¬ (1 : Int) < (n0 : Int) := by omega
                go_enter Try.func5, Try.ntmps5
                go_wp2_with (first
                  | ((with_reducible refine (HR0.out _ S.a).mono ?_); rintro y_ w1 ⟨rfl, hE1⟩; replace S := S.ev hE1)
                  | ((with_reducible refine (HR1.out _ S.b).mono ?_); rintro y_ w2 ⟨rfl, hE2⟩; replace S := S.ev hE2)
                  | ((with_reducible refine (HR2.out _ S.c).mono ?_); rintro y_ w3 ⟨rfl, hE3⟩; replace S := S.ev hE3)
                  | ((with_reducible refine (HNW.out w3).mono ?_); rintro y_ w4 ⟨rfl, hW4, hE4⟩)
                  | ((with_reducible refine (HP.out _ w4 hW4 (S.a.ev hE4) (fun h ad e => by have := S.a.lt h ad e; simp [foot, Value.ownBlock]; omega)).mono ?_); rintro y_ w5 ⟨rfl, v5, hW5, hT5⟩; replace S := S.ev (Wrote.new5 hE4 (Nat.le_refl _) hT5))
                  | ((with_reducible refine (HD.out _ _ w5 hW5).mono ?_); rintro y_ w6 ⟨A6, cap6, rfl, hB6, _, hE6⟩; replace S := S.ev hE6)
                  | ((with_reducible refine (HN.out _ _ w6 hB6).mono ?_); rintro y_ w7 ⟨p7, A7, cap7, rfl, hR7, hp7, _, hE7⟩)
                  | ((with_reducible refine (HG.out _ _ _ w7 hR7).mono ?_); rintro y_ w8 ⟨v8, rfl, hV8, _, hR8, hB8⟩; obtain ⟨A8, cap8, rfl, hX8, _⟩ := hV8.vs; rw [hlen] at hX8; replace S := S.ev (But.new1 hE7 hp7 hB8))
                  | ((with_reducible refine (HEnd.out _ _ _ w8 hR8).mono ?_); rintro y_ w9 ⟨rfl, hq9⟩; have hE9 := Ev.of_drewN hq9; clear hq9; replace S := S.ev hE9; have X := hX8.ev hE9)
                  | ((with_reducible refine (HX.out _ S.a S.b).mono ?_); rintro y_ wz ⟨rfl, hEz⟩; replace S := S.ev hEz; replace X := X.ev hEz)
                  | ((with_reducible refine (HY.out _ S.a S.b).mono ?_); rintro y_ wz ⟨rfl, hEz⟩; replace S := S.ev hEz; replace X := X.ev hEz)
                  | ((with_reducible refine (HQ.out _ S.a S.b).mono ?_); rintro y_ wz ⟨rfl, hEz⟩; replace S := S.ev hEz; replace X := X.ev hEz)
                  | ((with_reducible refine (HS.out _ S.a S.b).mono ?_); rintro y_ wz ⟨rfl, hEz⟩; replace S := S.ev hEz; replace X := X.ev hEz)
                  | ((with_reducible refine (HB.out _ S.b S.c).mono ?_); rintro y_ wz ⟨rfl, hEz⟩; replace S := S.ev hEz; replace X := X.ev hEz)
                  | ((with_reducible refine (HC.out _ S.a S.c).mono ?_); rintro y_ wz ⟨rfl, hEz⟩; replace S := S.ev hEz; replace X := X.ev hEz)
                  | ((with_reducible refine (HXX.out _ _ _ _ X S.a).mono ?_); rintro y_ wz ⟨rfl, hEz⟩; replace S := S.ev hEz; replace X := X.ev hEz)
                  | ((with_reducible refine (HK.out _).mono ?_); rintro y_ wz ⟨rfl, hEz⟩; replace S := S.ev hEz; replace X := X.ev hEz))
                go_ret
                exact ⟨rfl, S.all⟩
            · obtain rfl := hbc rfl
              by_cases hn1 : 1 < n0
              · have j1 : (1 : Int) < (n0 : Int) := by omega
                go_enter Try.func5, Try.ntmps5
                go_wp2_with (first
                  | ((with_reducible refine (HR0.out _ S.a).mono ?_); rintro y_ w1 ⟨rfl, hE1⟩; replace S := S.ev hE1)
                  | ((with_reducible refine (HR1.out _ S.b).mono ?_); rintro y_ w2 ⟨rfl, hE2⟩; replace S := S.ev hE2)
                  | ((with_reducible refine (HR2.out _ S.c).mono ?_); rintro y_ w3 ⟨rfl, hE3⟩; replace S := S.ev hE3)
                  | ((with_reducible refine (HNW.out w3).mono ?_); rintro y_ w4 ⟨rfl, hW4, hE4⟩)
                  | ((with_reducible refine (HP.out _ w4 hW4 (S.a.ev hE4) (fun h ad e => by have := S.a.lt h ad e; simp [foot, Value.ownBlock]; omega)).mono ?_); rintro y_ w5 ⟨rfl, v5, hW5, hT5⟩; replace S := S.ev (Wrote.new5 hE4 (Nat.le_refl _) hT5))
                  | ((with_reducible refine (HD.out _ _ w5 hW5).mono ?_); rintro y_ w6 ⟨A6, cap6, rfl, hB6, _, hE6⟩; replace S := S.ev hE6)
                  | ((with_reducible refine (HN.out _ _ w6 hB6).mono ?_); rintro y_ w7 ⟨p7, A7, cap7, rfl, hR7, hp7, _, hE7⟩)
                  | ((with_reducible refine (HG.out _ _ _ w7 hR7).mono ?_); rintro y_ w8 ⟨v8, rfl, hV8, _, hR8, hB8⟩; obtain ⟨A8, cap8, rfl, hX8, _⟩ := hV8.vs; rw [hlen] at hX8; replace S := S.ev (But.new1 hE7 hp7 hB8))
                  | ((with_reducible refine (HEnd.out _ _ _ w8 hR8).mono ?_); rintro y_ w9 ⟨rfl, hq9⟩; have hE9 := Ev.of_drewN hq9; clear hq9; replace S := S.ev hE9; have X := hX8.ev hE9)
                  | ((with_reducible refine (HX.out _ S.a S.b).mono ?_); rintro y_ wz ⟨rfl, hEz⟩; replace S := S.ev hEz; replace X := X.ev hEz)
                  | ((with_reducible refine (HY.out _ S.a S.b).mono ?_); rintro y_ wz ⟨rfl, hEz⟩; replace S := S.ev hEz; replace X := X.ev hEz)
                  | ((with_reducible refine (HQ.out _ S.a S.b).mono ?_); rintro y_ wz ⟨rfl, hEz⟩; replace S := S.ev hEz; replace X := X.ev hEz)
                  | ((with_reducible refine (HS.out _ S.a S.b).mono ?_); rintro y_ wz ⟨rfl, hEz⟩; replace S := S.ev hEz; replace X := X.ev hEz)
                  | ((with_reducible refine (HB.out _ S.b S.c).mono ?_); rintro y_ wz ⟨rfl, hEz⟩; replace S := S.ev hEz; replace X := X.ev hEz)
                  | ((with_reducible refine (HC.out _ S.a S.c).mono ?_); rintro y_ wz ⟨rfl, hEz⟩; replace S := S.ev hEz; replace X := X.ev hEz)
                  | ((with_reducible refine (HXX.out _ _ _ _ X S.a).mono ?_); rintro y_ wz ⟨rfl, hEz⟩; replace S := S.ev hEz; replace X := X.ev hEz)
                  | ((with_reducible refine (HK.out _).mono ?_); rintro y_ wz ⟨rfl, hEz⟩; replace S := S.ev hEz; replace X := X.ev hEz)
                  | ((with_reducible refine (HT.out hn1 _ S.a).mono ?_); rintro y_ wz ⟨rfl, hEz⟩; replace S := S.ev hEz; replace X := X.ev hEz))
                go_ret
                exact ⟨rfl, S.all⟩
              · have j1 : ¬ (1 : Int) < (n0 : Int) := by omega
                go_enter Try.func5, Try.ntmps5
                go_wp2_with (first
                  | ((with_reducible refine (HR0.out _ S.a).mono ?_); rintro y_ w1 ⟨rfl, hE1⟩; replace S := S.ev hE1)
                  | ((with_reducible refine (HR1.out _ S.b).mono ?_); rintro y_ w2 ⟨rfl, hE2⟩; replace S := S.ev hE2)
                  | ((with_reducible refine (HR2.out _ S.c).mono ?_); rintro y_ w3 ⟨rfl, hE3⟩; replace S := S.ev hE3)
                  | ((with_reducible refine (HNW.out w3).mono ?_); rintro y_ w4 ⟨rfl, hW4, hE4⟩)
                  | ((with_reducible refine (HP.out _ w4 hW4 (S.a.ev hE4) (fun h ad e => by have := S.a.lt h ad e; simp [foot, Value.ownBlock]; omega)).mono ?_); rintro y_ w5 ⟨rfl, v5, hW5, hT5⟩; replace S := S.ev (Wrote.new5 hE4 (Nat.le_refl _) hT5))
                  | ((with_reducible refine (HD.out _ _ w5 hW5).mono ?_); rintro y_ w6 ⟨A6, cap6, rfl, hB6, _, hE6⟩; replace S := S.ev hE6)
                  | ((with_reducible refine (HN.out _ _ w6 hB6).mono ?_); rintro y_ w7 ⟨p7, A7, cap7, rfl, hR7, hp7, _, hE7⟩)
                  | ((with_reducible refine (HG.out _ _ _ w7 hR7).mono ?_); rintro y_ w8 ⟨v8, rfl, hV8, _, hR8, hB8⟩; obtain ⟨A8, cap8, rfl, hX8, _⟩ := hV8.vs; rw [hlen] at hX8; replace S := S.ev (But.new1 hE7 hp7 hB8))
                  | ((with_reducible refine (HEnd.out _ _ _ w8 hR8).mono ?_); rintro y_ w9 ⟨rfl, hq9⟩; have hE9 := Ev.of_drewN hq9; clear hq9; replace S := S.ev hE9; have X := hX8.ev hE9)
                  | ((with_reducible refine (HX.out _ S.a S.b).mono ?_); rintro y_ wz ⟨rfl, hEz⟩; replace S := S.ev hEz; replace X := X.ev hEz)
                  | ((with_reducible refine (HY.out _ S.a S.b).mono ?_); rintro y_ wz ⟨rfl, hEz⟩; replace S := S.ev hEz; replace X := X.ev hEz)
                  | ((with_reducible refine (HQ.out _ S.a S.b).mono ?_); rintro y_ wz ⟨rfl, hEz⟩; replace S := S.ev hEz; replace X := X.ev hEz)
                  | ((with_reducible refine (HS.out _ S.a S.b).mono ?_); rintro y_ wz ⟨rfl, hEz⟩; replace S := S.ev hEz; replace X := X.ev hEz)
                  | ((with_reducible refine (HB.out _ S.b S.c).mono ?_); rintro y_ wz ⟨rfl, hEz⟩; replace S := S.ev hEz; replace X := X.ev hEz)
                  | ((with_reducible refine (HC.out _ S.a S.c).mono ?_); rintro y_ wz ⟨rfl, hEz⟩; replace S := S.ev hEz; replace X := X.ev hEz)
                  | ((with_reducible refine (HXX.out _ _ _ _ X S.a).mono ?_); rintro y_ wz ⟨rfl, hEz⟩; replace S := S.ev hEz; replace X := X.ev hEz)
                  | ((with_reducible refine (HK.out _).mono ?_); rintro y_ wz ⟨rfl, hEz⟩; replace S := S.ev hEz; replace X := X.ev hEz))
                go_ret
                exact ⟨rfl, S.all⟩
          · clear htrans
            simp only [Bool.not_true] at HX
            by_cases hn1 : 1 < n0
            · have j1 : (1 : Int) < (n0 : Int) := by omega
              go_enter Try.func5, Try.ntmps5
              go_wp2_with (first
                | ((with_reducible refine (HR0.out _ S.a).mono ?_); rintro y_ w1 ⟨rfl, hE1⟩; replace S := S.ev hE1)
                | ((with_reducible refine (HR1.out _ S.b).mono ?_); rintro y_ w2 ⟨rfl, hE2⟩; replace S := S.ev hE2)
                | ((with_reducible refine (HR2.out _ S.c).mono ?_); rintro y_ w3 ⟨rfl, hE3⟩; replace S := S.ev hE3)
                | ((with_reducible refine (HNW.out w3).mono ?_); rintro y_ w4 ⟨rfl, hW4, hE4⟩)
                | ((with_reducible refine (HP.out _ w4 hW4 (S.a.ev hE4) (fun h ad e => by have := S.a.lt h ad e; simp [foot, Value.ownBlock]; omega)).mono ?_); rintro y_ w5 ⟨rfl, v5, hW5, hT5⟩; replace S := S.ev (Wrote.new5 hE4 (Nat.le_refl _) hT5))
                | ((with_reducible refine (HD.out _ _ w5 hW5).mono ?_); rintro y_ w6 ⟨A6, cap6, rfl, hB6, _, hE6⟩; replace S := S.ev hE6)
                | ((with_reducible refine (HN.out _ _ w6 hB6).mono ?_); rintro y_ w7 ⟨p7, A7, cap7, rfl, hR7, hp7, _, hE7⟩)
                | ((with_reducible refine (HG.out _ _ _ w7 hR7).mono ?_); rintro y_ w8 ⟨v8, rfl, hV8, _, hR8, hB8⟩; obtain ⟨A8, cap8, rfl, hX8, _⟩ := hV8.vs; rw [hlen] at hX8; replace S := S.ev (But.new1 hE7 hp7 hB8))
                | ((with_reducible refine (HEnd.out _ _ _ w8 hR8).mono ?_); rintro y_ w9 ⟨rfl, hq9⟩; have hE9 := Ev.of_drewN hq9; clear hq9; replace S := S.ev hE9; have X := hX8.ev hE9)
                | ((with_reducible refine (HX.out _ S.a S.b).mono ?_); rintro y_ wz ⟨rfl, hEz⟩; replace S := S.ev hEz; replace X := X.ev hEz)
                | ((with_reducible refine (HY.out _ S.a S.b).mono ?_); rintro y_ wz ⟨rfl, hEz⟩; replace S := S.ev hEz; replace X := X.ev hEz)
                | ((with_reducible refine (HQ.out _ S.a S.b).mono ?_); rintro y_ wz ⟨rfl, hEz⟩; replace S := S.ev hEz; replace X := X.ev hEz)
                | ((with_reducible refine (HS.out _ S.a S.b).mono ?_); rintro y_ wz ⟨rfl, hEz⟩; replace S := S.ev hEz; replace X := X.ev hEz)
                | ((with_reducible refine (HB.out _ S.b S.c).mono ?_); rintro y_ wz ⟨rfl, hEz⟩; replace S := S.ev hEz; replace X := X.ev hEz)
                | ((with_reducible refine (HC.out _ S.a S.c).mono ?_); rintro y_ wz ⟨rfl, hEz⟩; replace S := S.ev hEz; replace X := X.ev hEz)
                | ((with_reducible refine (HXX.out _ _ _ _ X S.a).mono ?_); rintro y_ wz ⟨rfl, hEz⟩; replace S := S.ev hEz; replace X := X.ev hEz)
                | ((with_reducible refine (HK.out _).mono ?_); rintro y_ wz ⟨rfl, hEz⟩; replace S := S.ev hEz; replace X := X.ev hEz)
                | ((with_reducible refine (HT.out hn1 _ S.a).mono ?_); rintro y_ wz ⟨rfl, hEz⟩; replace S := S.ev hEz; replace X := X.ev hEz))
              go_ret
              exact ⟨rfl, S.all⟩
            · have j1 : ¬ (1 : Int) < (n0 : Int) := by omega
              go_enter Try.func5, Try.ntmps5
              go_wp2_with (first
                | ((with_reducible refine (HR0.out _ S.a).mono ?_); rintro y_ w1 ⟨rfl, hE1⟩; replace S := S.ev hE1)
                | ((with_reducible refine (HR1.out _ S.b).mono ?_); rintro y_ w2 ⟨rfl, hE2⟩; replace S := S.ev hE2)
                | ((with_reducible refine (HR2.out _ S.c).mono ?_); rintro y_ w3 ⟨rfl, hE3⟩; replace S := S.ev hE3)
                | ((with_reducible refine (HNW.out w3).mono ?_); rintro y_ w4 ⟨rfl, hW4, hE4⟩)
                | ((with_reducible refine (HP.out _ w4 hW4 (S.a.ev hE4) (fun h ad e => by have := S.a.lt h ad e; simp [foot, Value.ownBlock]; omega)).mono ?_); rintro y_ w5 ⟨rfl, v5, hW5, hT5⟩; replace S := S.ev (Wrote.new5 hE4 (Nat.le_refl _) hT5))
                | ((with_reducible refine (HD.out _ _ w5 hW5).mono ?_); rintro y_ w6 ⟨A6, cap6, rfl, hB6, _, hE6⟩; replace S := S.ev hE6)
                | ((with_reducible refine (HN.out _ _ w6 hB6).mono ?_); rintro y_ w7 ⟨p7, A7, cap7, rfl, hR7, hp7, _, hE7⟩)
                | ((with_reducible refine (HG.out _ _ _ w7 hR7).mono ?_); rintro y_ w8 ⟨v8, rfl, hV8, _, hR8, hB8⟩; obtain ⟨A8, cap8, rfl, hX8, _⟩ := hV8.vs; rw [hlen] at hX8; replace S := S.ev (But.new1 hE7 hp7 hB8))
                | ((with_reducible refine (HEnd.out _ _ _ w8 hR8).mono ?_); rintro y_ w9 ⟨rfl, hq9⟩; have hE9 := Ev.of_drewN hq9; clear hq9; replace S := S.ev hE9; have X := hX8.ev hE9)
                | ((with_reducible refine (HX.out _ S.a S.b).mono ?_); rintro y_ wz ⟨rfl, hEz⟩; replace S := S.ev hEz; replace X := X.ev hEz)
                | ((with_reducible refine (HY.out _ S.a S.b).mono ?_); rintro y_ wz ⟨rfl, hEz⟩; replace S := S.ev hEz; replace X := X.ev hEz)
                | ((with_reducible refine (HQ.out _ S.a S.b).mono ?_); rintro y_ wz ⟨rfl, hEz⟩; replace S := S.ev hEz; replace X := X.ev hEz)
                | ((with_reducible refine (HS.out _ S.a S.b).mono ?_); rintro y_ wz ⟨rfl, hEz⟩; replace S := S.ev hEz; replace X := X.ev hEz)
                | ((with_reducible refine (HB.out _ S.b S.c).mono ?_); rintro y_ wz ⟨rfl, hEz⟩; replace S := S.ev hEz; replace X := X.ev hEz)
                | ((with_reducible refine (HC.out _ S.a S.c).mono ?_); rintro y_ wz ⟨rfl, hEz⟩; replace S := S.ev hEz; replace X := X.ev hEz)
                | ((with_reducible refine (HXX.out _ _ _ _ X S.a).mono ?_); rintro y_ wz ⟨rfl, hEz⟩; replace S := S.ev hEz; replace X := X.ev hEz)
                | ((with_reducible refine (HK.out _).mono ?_); rintro y_ wz ⟨rfl, hEz⟩; replace S := S.ev hEz; replace X := X.ev hEz))
              go_ret
              exact ⟨rfl, S.all⟩
        · obtain ⟨rfl, rfl⟩ := hself rfl
          clear htri hself htrans
          by_cases hn1 : 1 < n0
          · have j1 : (1 : Int) < (n0 : Int) := by omega
            go_enter Try.func5, Try.ntmps5
            go_wp2_with (first
              | ((with_reducible refine (HR0.out _ S.a).mono ?_); rintro y_ w1 ⟨rfl, hE1⟩; replace S := S.ev hE1)
              | ((with_reducible refine (HR1.out _ S.b).mono ?_); rintro y_ w2 ⟨rfl, hE2⟩; replace S := S.ev hE2)
              | ((with_reducible refine (HR2.out _ S.c).mono ?_); rintro y_ w3 ⟨rfl, hE3⟩; replace S := S.ev hE3)
              | ((with_reducible refine (HNW.out w3).mono ?_); rintro y_ w4 ⟨rfl, hW4, hE4⟩)
              | ((with_reducible refine (HP.out _ w4 hW4 (S.a.ev hE4) (fun h ad e => by have := S.a.lt h ad e; simp [foot, Value.ownBlock]; omega)).mono ?_); rintro y_ w5 ⟨rfl, v5, hW5, hT5⟩; replace S := S.ev (Wrote.new5 hE4 (Nat.le_refl _) hT5))
              | ((with_reducible refine (HD.out _ _ w5 hW5).mono ?_); rintro y_ w6 ⟨A6, cap6, rfl, hB6, _, hE6⟩; replace S := S.ev hE6)
              | ((with_reducible refine (HN.out _ _ w6 hB6).mono ?_); rintro y_ w7 ⟨p7, A7, cap7, rfl, hR7, hp7, _, hE7⟩)
              | ((with_reducible refine (HG.out _ _ _ w7 hR7).mono ?_); rintro y_ w8 ⟨v8, rfl, hV8, _, hR8, hB8⟩; obtain ⟨A8, cap8, rfl, hX8, _⟩ := hV8.vs; rw [hlen] at hX8; replace S := S.ev (But.new1 hE7 hp7 hB8))
              | ((with_reducible refine (HEnd.out _ _ _ w8 hR8).mono ?_); rintro y_ w9 ⟨rfl, hq9⟩; have hE9 := Ev.of_drewN hq9; clear hq9; replace S := S.ev hE9; have X := hX8.ev hE9)
              | ((with_reducible refine (HX.out _ S.a S.b).mono ?_); rintro y_ wz ⟨rfl, hEz⟩; replace S := S.ev hEz; replace X := X.ev hEz)
              | ((with_reducible refine (HY.out _ S.a S.b).mono ?_); rintro y_ wz ⟨rfl, hEz⟩; replace S := S.ev hEz; replace X := X.ev hEz)
              | ((with_reducible refine (HQ.out _ S.a S.b).mono ?_); rintro y_ wz ⟨rfl, hEz⟩; replace S := S.ev hEz; replace X := X.ev hEz)
              | ((with_reducible refine (HS.out _ S.a S.b).mono ?_); rintro y_ wz ⟨rfl, hEz⟩; replace S := S.ev hEz; replace X := X.ev hEz)
              | ((with_reducible refine (HB.out _ S.b S.c).mono ?_); rintro y_ wz ⟨rfl, hEz⟩; replace S := S.ev hEz; replace X := X.ev hEz)
              | ((with_reducible refine (HC.out _ S.a S.c).mono ?_); rintro y_ wz ⟨rfl, hEz⟩; replace S := S.ev hEz; replace X := X.ev hEz)
              | ((with_reducible refine (HXX.out _ _ _ _ X S.a).mono ?_); rintro y_ wz ⟨rfl, hEz⟩; replace S := S.ev hEz; replace X := X.ev hEz)
              | ((with_reducible refine (HK.out _).mono ?_); rintro y_ wz ⟨rfl, hEz⟩; replace S := S.ev hEz; replace X := X.ev hEz)
              | ((with_reducible refine (HT.out hn1 _ S.a).mono ?_); rintro y_ wz ⟨rfl, hEz⟩; replace S := S.ev hEz; replace X := X.ev hEz))
            go_ret
            exact ⟨rfl, S.all⟩
          · have j1 : ¬ (1 : Int) < (n0 : Int) := by omega
            go_enter Try.func5, Try.ntmps5
            go_wp2_with (first
              | ((with_reducible refine (HR0.out _ S.a).mono ?_); rintro y_ w1 ⟨rfl, hE1⟩; replace S := S.ev hE1)
              | ((with_reducible refine (HR1.out _ S.b).mono ?_); rintro y_ w2 ⟨rfl, hE2⟩; replace S := S.ev hE2)
              | ((with_reducible refine (HR2.out _ S.c).mono ?_); rintro y_ w3 ⟨rfl, hE3⟩; replace S := S.ev hE3)
              | ((with_reducible refine (HNW.out w3).mono ?_); rintro y_ w4 ⟨rfl, hW4, hE4⟩)
              | ((with_reducible refine (HP.out _ w4 hW4 (S.a.ev hE4) (fun h ad e => by have := S.a.lt h ad e; simp [foot, Value.ownBlock]; omega)).mono ?_); rintro y_ w5 ⟨rfl, v5, hW5, hT5⟩; replace S := S.ev (Wrote.new5 hE4 (Nat.le_refl _) hT5))
              | ((with_reducible refine (HD.out _ _ w5 hW5).mono ?_); rintro y_ w6 ⟨A6, cap6, rfl, hB6, _, hE6⟩; replace S := S.ev hE6)
              | ((with_reducible refine (HN.out _ _ w6 hB6).mono ?_); rintro y_ w7 ⟨p7, A7, cap7, rfl, hR7, hp7, _, hE7⟩)
              | ((with_reducible refine (HG.out _ _ _ w7 hR7).mono ?_); rintro y_ w8 ⟨v8, rfl, hV8, _, hR8, hB8⟩; obtain ⟨A8, cap8, rfl, hX8, _⟩ := hV8.vs; rw [hlen] at hX8; replace S := S.ev (But.new1 hE7 hp7 hB8))
              | ((with_reducible refine (HEnd.out _ _ _ w8 hR8).mono ?_); rintro y_ w9 ⟨rfl, hq9⟩; have hE9 := Ev.of_drewN hq9; clear hq9; replace S := S.ev hE9; have X := hX8.ev hE9)
              | ((with_reducible refine (HX.out _ S.a S.b).mono ?_); rintro y_ wz ⟨rfl, hEz⟩; replace S := S.ev hEz; replace X := X.ev hEz)
              | ((with_reducible refine (HY.out _ S.a S.b).mono ?_); rintro y_ wz ⟨rfl, hEz⟩; replace S := S.ev hEz; replace X := X.ev hEz)
              | ((with_reducible refine (HQ.out _ S.a S.b).mono ?_); rintro y_ wz ⟨rfl, hEz⟩; replace S := S.ev hEz; replace X := X.ev hEz)
              | ((with_reducible refine (HS.out _ S.a S.b).mono ?_); rintro y_ wz ⟨rfl, hEz⟩; replace S := S.ev hEz; replace X := X.ev hEz)
              | ((with_reducible refine (HB.out _ S.b S.c).mono ?_); rintro y_ wz ⟨rfl, hEz⟩; replace S := S.ev hEz; replace X := X.ev hEz)
              | ((with_reducible refine (HC.out _ S.a S.c).mono ?_); rintro y_ wz ⟨rfl, hEz⟩; replace S := S.ev hEz; replace X := X.ev hEz)
              | ((with_reducible refine (HXX.out _ _ _ _ X S.a).mono ?_); rintro y_ wz ⟨rfl, hEz⟩; replace S := S.ev hEz; replace X := X.ev hEz)
              | ((with_reducible refine (HK.out _).mono ?_); rintro y_ wz ⟨rfl, hEz⟩; replace S := S.ev hEz; replace X := X.ev hEz))
            go_ret
            exact ⟨rfl, S.all⟩
end Go.Proofs.Ytkjodlngpdihhaa
