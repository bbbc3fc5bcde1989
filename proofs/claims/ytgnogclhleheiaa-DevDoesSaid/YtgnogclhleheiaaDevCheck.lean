/-
  Package dev: there, Check. Conditions: those that each lemma states.
-/
import Derived.Test.YtgnogclhleheiaaDisk
import Derived.Deep.CutBlock
import Derived.Lib.Hide
import Derived.Outline
namespace Go.Proofs.Ytgnogclhleheiaa
open Go.RowKit

def thereB (n : Int) : Bool := decide (0 ≤ n) && decide (n < 256)
theorem there_any (n : Int) (w : World) : Calls Try.prog 45 #[.int .i64 n] w fun e w' => e = .returned (.bool (thereB n)) ∧ w = w' := by
  unfold thereB
  by_cases h : 0 ≤ n
  · go_enter Try.func45, Try.ntmps45
    go_wp2
    go_ret
    exact ⟨by simp [h], rfl⟩
  · go_enter Try.func45, Try.ntmps45
    go_wp2
    go_ret
    exact ⟨by simp [h]; omega, rfl⟩

set_option maxRecDepth 100000 in
set_option maxHeartbeats 2000000 in
theorem check_any (v : Value) (d : Dk) (w : World) (h : Dsk (Old w) w v d) : Calls Try.prog 13 #[v] w fun e w' => e = .returned (.int .i64 (chk d)) ∧ Below w.heap.size w w' := by
  obtain ⟨A, c, B, c', rfl, l1, m1, l2, m2, hA, hB⟩ := h.open
  have HA := Lib.hid hA
  have HB := Lib.hid hB
  clear hA hB h
  obtain ⟨n, hn⟩ : ∃ n, d.1.length = n := ⟨_, rfl⟩
  obtain ⟨m, hm⟩ : ∃ m, d.2.length = m := ⟨_, rfl⟩
  rw [hn] at l1 ⊢
  rw [hm] at l2 ⊢
  replace hn := Lib.hid hn
  replace hm := Lib.hid hm
  have hB1 := balloc (Below.refl w.heap.size w) (.cells #[.slice A n c, .slice B m c'] 25)
  by_cases h1 : n = 256
  · subst h1
    by_cases h2 : m ≤ 4096
    · go_enter Try.func13, Try.ntmps13
      go_wp2_with fail
      go_loopw [20] (fun i wr => ∃ k : Nat, k ≤ 256 ∧ i = .int .i64 k ∧ (d.1.take k).all byB = true ∧ wr = w.alloc (.cells #[.slice A 256 c, .slice B m c'] 25)) (fun i _ => 256 - (intOf i).toNat)
      case atStart => exact ⟨0, by omega, rfl, rfl, rfl⟩
      case round =>
        obtain ⟨k, hk, rfl, ha, rfl⟩ := hrel
        replace ha := Lib.hid ha
        by_cases hlt : k < 256
        · obtain ⟨x, hx⟩ : ∃ x, d.1[k]? = some x := ⟨_, List.getElem?_eq_getElem (by rw [hn.out]; exact hlt)⟩
          replace hx := Lib.hid hx
          obtain ⟨ad, v, rfl, hok, hc, hby⟩ := HA.out k x hx.out
          obtain ⟨E, ce, rfl, _⟩ := rBy_open hby
          have hc' := Lib.cell?_alloc_some (.cells #[.slice (some ad) 256 c, .slice B m c'] 25) hc
          by_cases hx8 : x.length = 128
          · replace hx8 := Lib.hid hx8
            have e8 : ((x.length : Int) != 128) = false := by rw [hx8.out]; rfl
            go_wp2_with fail
            go_roundw
            case rel => exact ⟨k + 1, by omega, by go_num, all_take ha.out hx.out (by simp [byB, hx8.out]), trivial⟩
            case measure => simp [intOf]; omega
          · have e8 : ¬ (x.length : Int) = 128 := by omega
            go_wp2_with fail
            go_ret
            exact ⟨ret_int (chk_bad (may_block hx.out hx8)).symm, hB1⟩
        · have hge : 256 ≤ k := by omega
          have ha' : Hid (d.1.all byB = true) := Lib.hid (by have := ha.out; rwa [List.take_of_length_le (by rw [hn.out]; exact hge)] at this)
          clear ha
          obtain ⟨w0, hw0⟩ : ∃ w0, w.alloc (.cells #[.slice A 256 c, .slice B m c'] 25) = w0 := ⟨_, rfl⟩
          have f1 : w0.cell? ⟨w.heap.size, 0, none⟩ = some (.slice A 256 c) := by rw [← hw0]; simp
          have f2 : w0.cell? ⟨w.heap.size, 1, none⟩ = some (.slice B m c') := by rw [← hw0]; simp
          have f3 : w0.heap.size = w.heap.size + 1 := by rw [← hw0]; simp
          rw [hw0] at hB1 ⊢
          clear hw0
          replace f3 := Lib.hid f3
          go_wp2_with fail
          go_loopw [31] (fun i wr => ∃ k : Nat, k ≤ m ∧ i = .int .i64 k ∧ (d.2.take k).all wtB = true ∧ Below w0.heap.size w0 wr) (fun i _ => m - (intOf i).toNat)
          case atStart => exact ⟨0, by omega, rfl, rfl, Below.refl _ _⟩
          case round =>
            obtain ⟨k, hk, rfl, ha, hb⟩ := hrel
            replace ha := Lib.hid ha
            by_cases hlt : k < m
            · obtain ⟨x, hx⟩ : ∃ x, d.2[k]? = some x := ⟨_, List.getElem?_eq_getElem (by rw [hm.out]; exact hlt)⟩
              replace hx := Lib.hid hx
              obtain ⟨ad, v, rfl, hok1, hok2, hc1, hc2, hby, _, _⟩ := HB.out k x hx.out
              obtain ⟨E, ce, rfl, _⟩ := rBy_open hby
              have hbw := hB1.trans (hb.mono hB1.size)
              have g1 := (hbw.cell hok1).trans hc1
              have g2 := (hbw.cell hok2).trans hc2
              rw [add_next] at g2
              have g3 := (hb.cell (p := ⟨w.heap.size, 1, none⟩) (by rw [f3.out]; simp)).trans f2
              by_cases ht : thereB x.1 = true
              · by_cases hx8 : x.2.length = 128
                · replace hx8 := Lib.hid hx8
                  have e8 : ((x.2.length : Int) != 128) = false := by rw [hx8.out]; rfl
                  have hall := Lib.hid (all_take ha.out hx.out (by unfold thereB at ht; simp [wtB, hx8.out]; simpa using ht))
                  go_wp2_with fail
                  refine (there_any _ _).mono ?_
                  rintro e w2 ⟨rfl, rfl⟩
                  rw [ht]
                  go_wp2_with fail
                  go_roundw
                  case rel => exact ⟨k + 1, by omega, by go_num, hall.out, hb.alloc hb.size _⟩
                  case measure => simp [intOf]; omega
                · have e8 : ((x.2.length : Int) != 128) = true := by simp; omega
                  have hbad := Lib.hid (chk_bad (may_wait hx.out (show wtB x = false by simp [wtB, hx8])))
                  go_wp2_with fail
                  refine (there_any _ _).mono ?_
                  rintro e w2 ⟨rfl, rfl⟩
                  rw [ht]
                  go_wp2_with fail
                  go_ret
                  exact ⟨ret_int hbad.out.symm, hB1.trans ((hb.alloc hb.size _).mono hB1.size)⟩
              · have ht' : thereB x.1 = false := by simpa using ht
                have hbad := Lib.hid (chk_bad (may_wait hx.out (show wtB x = false by unfold thereB at ht'; simp [wtB, ht'])))
                clear ht
                go_wp2_with fail
                refine (there_any _ _).mono ?_
                rintro e w2 ⟨rfl, rfl⟩
                rw [ht']
                go_wp2_with fail
                go_ret
                exact ⟨ret_int hbad.out.symm, hB1.trans ((hb.alloc hb.size _).mono hB1.size)⟩
            · obtain rfl : k = m := by omega
              have hok := Lib.hid (chk_ok (may_mk hn.out (by rw [hm.out]; exact h2) ha'.out (by have := ha.out; rwa [List.take_of_length_le (by rw [hm.out]; exact Nat.le_refl _)] at this)))
              go_wp2_with fail
              go_ret
              exact ⟨ret_int hok.out.symm, hB1.trans (hb.mono hB1.size)⟩
    · have h2' : (4096 : Int) < m := by omega
      have hbad := Lib.hid (chk_bad (may_len2 (d := d) (by rw [hm.out]; omega)))
      go_enter Try.func13, Try.ntmps13
      go_wp2_with fail
      go_ret
      exact ⟨ret_int hbad.out.symm, hB1⟩
  · have h1' : ((n : Int) != 256) = true := by simp; omega
    have hbad := Lib.hid (chk_bad (may_len1 (d := d) (by rw [hn.out]; exact h1)))
    go_enter Try.func13, Try.ntmps13
    go_wp2_with fail
    go_ret
    exact ⟨ret_int hbad.out.symm, hB1⟩
end Go.Proofs.Ytgnogclhleheiaa
