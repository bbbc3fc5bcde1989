/-
  The document's answers of layer 3: May, Check. Conditions: those that each lemma states.
-/
import Derived.Test.YtgnogclhleheiaaDisk
import Derived.Deep.CutBlock
import Derived.Lib.Hide
import Derived.Outline
namespace Go.Proofs.Ytgnogclhleheiaa
open Go.RowKit

/-- A disk's box: the world behind it, as a letter. -/
theorem box_disk (w : World) (a b : Value) : ∃ w0, w0 = w.alloc (.cells #[a, b] 25) ∧ w0.cell? ⟨w.heap.size, 0, none⟩ = some a ∧ w0.cell? ⟨w.heap.size, 1, none⟩ = some b ∧ w0.heap.size = w.heap.size + 1 ∧ Below w.heap.size w w0 ∧ (∀ o, w0.frozen? ⟨w.heap.size, o, none⟩ = false) :=
  ⟨_, rfl, by simp, by simp, by simp, balloc (Below.refl _ _) _, fun o => by unfold World.frozen?; rw [heap_alloc_new]; simp⟩

/-- A disk's box, and one box more. -/
theorem box_two (w : World) (a b : Value) (o : Array Value) (t : TypeId) : ∃ w2, (w.alloc (.cells #[a, b] 25)).alloc (.cells o t) = w2 ∧ w2.cell? ⟨w.heap.size, 0, none⟩ = some a ∧ w2.cell? ⟨w.heap.size, 1, none⟩ = some b ∧ w2.heap[w.heap.size + 1]? = some (.cells o t (0, 0)) ∧ w2.heap.size = w.heap.size + 2 ∧ Below w.heap.size w w2 := by
  refine ⟨_, rfl, by go_simp, by go_simp, ?_, by simp, ((Below.refl w.heap.size w).alloc (Nat.le_refl _) _).alloc (by simp) _⟩
  have := heap_alloc_new (w.alloc (.cells #[a, b] 25)) (.cells o t)
  rwa [World.size_alloc] at this

set_option maxRecDepth 100000 in
set_option maxHeartbeats 2000000 in
theorem may_any (v : Value) (d : Dk) (w : World) (h : Dsk (Old w) w v d) : Calls Try.prog 46 #[v] w fun e w' => e = .returned (.bool (mayB d)) ∧ Below w.heap.size w w' := by
  obtain ⟨A, c, B, c', rfl, l1, m1, l2, m2, hA, hB⟩ := h.open
  have HA := Lib.hid hA
  have HB := Lib.hid hB
  clear hA hB h
  obtain ⟨n, hn⟩ : ∃ n, d.1.length = n := ⟨_, rfl⟩
  obtain ⟨m, hm⟩ : ∃ m, d.2.length = m := ⟨_, rfl⟩
  rw [hn] at l1 ⊢
  rw [hm] at l2 ⊢
  replace hn := Lib.hid hn
  replace hm := Lib.hid hm
  obtain ⟨w0, e0, f1, f2, f3, hB1, _⟩ := box_disk w (.slice A n c) (.slice B m c')
  by_cases h1 : n = 256
  · by_cases h2 : m ≤ 4096
    · have h1' : ((n : Int) != 256) = false := by simp; omega
      replace h1 := Lib.hid h1
      replace f3 := Lib.hid f3
      go_enter Try.func46, Try.ntmps46
      go_upto_region 1 with fail
      rw [← e0]
      clear e0
      go_wp2_with fail
      go_loop [3] (fun i => ∃ k : Nat, k ≤ n ∧ i = .int .i64 k ∧ (d.1.take k).all byB = true) (fun i => n - (intOf i).toNat)
      case atStart => exact ⟨0, by omega, rfl, rfl⟩
      case round =>
        obtain ⟨k, hk, rfl, ha⟩ := hrel
        replace ha := Lib.hid ha
        by_cases hlt : k < n
        · obtain ⟨x, hx⟩ : ∃ x, d.1[k]? = some x := ⟨_, List.getElem?_eq_getElem (by rw [hn.out]; exact hlt)⟩
          replace hx := Lib.hid hx
          obtain ⟨ad, v, rfl, hok, hc, hby⟩ := HA.out k x hx.out
          obtain ⟨E, ce, rfl, _⟩ := rBy_open hby
          replace hc := (hB1.cell hok).trans hc
          by_cases hx8 : x.length = 128
          · replace hx8 := Lib.hid hx8
            have e8 : ((x.length : Int) != 128) = false := by rw [hx8.out]; rfl
            go_wp2_with fail
            go_round
            case rel => exact ⟨k + 1, by omega, by go_num, all_take ha.out hx.out (by simp [byB, hx8.out])⟩
            case measure => simp [intOf]; omega
          · have e8 : ((x.length : Int) != 128) = true := by simp; omega
            have hbad := Lib.hid (may_block hx.out hx8)
            go_wp2_with fail
            go_ret
            exact ⟨ret_bool hbad.out.symm, hB1⟩
        · have hge : n ≤ k := by omega
          have ha' : Hid (d.1.all byB = true) := Lib.hid (by have := ha.out; rwa [List.take_of_length_le (by rw [hn.out]; exact hge)] at this)
          clear ha
          go_wp2_with fail
          go_loop [4] (fun i => ∃ k : Nat, k ≤ m ∧ i = .int .i64 k ∧ (d.2.take k).all wtB = true) (fun i => m - (intOf i).toNat)
          case atStart => exact ⟨0, by omega, rfl, rfl⟩
          case round =>
            obtain ⟨k, hk, rfl, ha⟩ := hrel
            replace ha := Lib.hid ha
            by_cases hlt : k < m
            · obtain ⟨x, hx⟩ : ∃ x, d.2[k]? = some x := ⟨_, List.getElem?_eq_getElem (by rw [hm.out]; exact hlt)⟩
              replace hx := Lib.hid hx
              obtain ⟨ad, v, rfl, hok1, hok2, hc1, hc2, hby, _, _⟩ := HB.out k x hx.out
              obtain ⟨E, ce, rfl, _⟩ := rBy_open hby
              replace hc1 := (hB1.cell hok1).trans hc1
              replace hc2 := (hB1.cell hok2).trans hc2
              rw [add_next] at hc2
              by_cases t1 : x.1 < 0
              · have hbad := Lib.hid (may_wait hx.out (wtB_no (by omega)))
                go_wp2_with fail
                go_ret
                exact ⟨ret_bool hbad.out.symm, hB1⟩
              · by_cases t2 : 256 ≤ x.1
                · have hbad := Lib.hid (may_wait hx.out (wtB_no (by omega)))
                  go_wp2_with fail
                  go_ret
                  exact ⟨ret_bool hbad.out.symm, hB1⟩
                · by_cases hx8 : x.2.length = 128
                  · replace hx8 := Lib.hid hx8
                    have e8 : ((x.2.length : Int) != 128) = false := by rw [hx8.out]; rfl
                    have hall := Lib.hid (all_take ha.out hx.out (by simp [wtB, hx8.out]; omega))
                    go_wp2_with fail
                    go_round
                    case rel => exact ⟨k + 1, by omega, by go_num, hall.out⟩
                    case measure => simp [intOf]; omega
                  · have e8 : ((x.2.length : Int) != 128) = true := by simp; omega
                    have hbad := Lib.hid (may_wait hx.out (wtB_no (by omega)))
                    go_wp2_with fail
                    go_ret
                    exact ⟨ret_bool hbad.out.symm, hB1⟩
            · have hge2 : m ≤ k := by omega
              have hok := Lib.hid (may_mk (by rw [hn.out]; exact h1.out) (by rw [hm.out]; exact h2) ha'.out (by have := ha.out; rwa [List.take_of_length_le (by rw [hm.out]; exact hge2)] at this))
              go_wp2_with fail
              go_ret
              exact ⟨ret_bool hok.out.symm, hB1⟩
    · have h1' : ((n : Int) != 256) = false := by simp; omega
      replace h1 := Lib.hid h1
      have h2' : (4096 : Int) < m := by omega
      have hbad := Lib.hid (may_len2 (d := d) (by rw [hm.out]; omega))
      subst e0
      clear f1 f2 f3
      go_enter Try.func46, Try.ntmps46
      go_wp2_with fail
      go_ret
      exact ⟨ret_bool hbad.out.symm, hB1⟩
  · have h1' : ((n : Int) != 256) = true := by simp; omega
    have hbad := Lib.hid (may_len1 (d := d) (by rw [hn.out]; exact h1))
    subst e0
    clear f1 f2 f3
    go_enter Try.func46, Try.ntmps46
    go_wp2_with fail
    go_ret
    exact ⟨ret_bool hbad.out.symm, hB1⟩

theorem refCheck_any (v : Value) (d : Dk) (w : World) (h : Dsk (Old w) w v d) : Calls Try.prog 14 #[v] w fun e w' => e = .returned (.int .i64 (chk d)) ∧ Below w.heap.size w w' := by
  obtain ⟨a, b, rfl, _⟩ := id h
  have hB := balloc (Below.refl w.heap.size w) (.cells #[a, b] 25)
  have H := Lib.hid (h.below hB)
  cases hm : mayB d with
  | true =>
    have hc := Lib.hid (chk_ok hm)
    replace hm := Lib.hid hm
    go_enter Try.func14, Try.ntmps14
    go_wp2_with fail
    refine (may_any _ d _ H.out).mono ?_
    rintro e w1 ⟨rfl, hb1⟩
    rw [hm.out]
    go_wp2_with fail
    go_ret
    exact ⟨ret_int hc.out.symm, hB.trans (hb1.mono hB.size)⟩
  | false =>
    have hc := Lib.hid (chk_bad hm)
    replace hm := Lib.hid hm
    go_enter Try.func14, Try.ntmps14
    go_wp2_with fail
    refine (may_any _ d _ H.out).mono ?_
    rintro e w1 ⟨rfl, hb1⟩
    rw [hm.out]
    go_wp2_with fail
    go_ret
    exact ⟨ret_int hc.out.symm, hB.trans (hb1.mono hB.size)⟩
end Go.Proofs.Ytgnogclhleheiaa
