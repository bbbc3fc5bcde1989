/-
  The document's answers of layer 3: Same. Conditions: those that each lemma states.
-/
import Derived.Test.YtgnogclhleheiaaSame
namespace Go.Proofs.Ytgnogclhleheiaa
open Go.RowKit

set_option maxRecDepth 100000 in
set_option maxHeartbeats 4000000 in
theorem refSame_any (v u : Value) (d o : Dk) (w : World) (hv : Dsk (Old w) w v d) (hu : Dsk (Old w) w u o) :
    Calls Try.prog 16 #[v, u] w fun e w' => e = .returned (.bool (sameB d o)) ∧ Below w.heap.size w w' := by
  obtain ⟨A, c, B, c', rfl, l1, m1, l2, m2, hA, hB⟩ := hv.open
  obtain ⟨A', g, B', g', rfl, l1', m1', l2', m2', hA', hB'⟩ := hu.open
  have HA := Lib.hid hA
  have HB := Lib.hid hB
  have HA' := Lib.hid hA'
  have HB' := Lib.hid hB'
  clear hA hB hA' hB' hv hu
  obtain ⟨n, hn⟩ : ∃ n, d.1.length = n := ⟨_, rfl⟩
  obtain ⟨m, hm⟩ : ∃ m, d.2.length = m := ⟨_, rfl⟩
  obtain ⟨n', hn'⟩ : ∃ n, o.1.length = n := ⟨_, rfl⟩
  obtain ⟨m', hm'⟩ : ∃ m, o.2.length = m := ⟨_, rfl⟩
  rw [hn] at l1 ⊢
  rw [hm] at l2 ⊢
  rw [hn'] at l1' ⊢
  rw [hm'] at l2' ⊢
  replace hn := Lib.hid hn
  replace hm := Lib.hid hm
  replace hn' := Lib.hid hn'
  replace hm' := Lib.hid hm'
  have hB0 := (((Below.refl w.heap.size w).alloc (Nat.le_refl _) (.cells #[.slice A n c, .slice B m c'] 25)).alloc (by simp) (.cells #[.slice A' n' g, .slice B' m' g'] 25))
  by_cases h1 : n = n'
  · by_cases h2 : m = m'
    · subst h1
      subst h2
      obtain ⟨w0, e0⟩ : ∃ w0, w0 = (w.alloc (.cells #[.slice A n c, .slice B m c'] 25)).alloc (.cells #[.slice A' n g, .slice B' m g'] 25) := ⟨_, rfl⟩
      have f1 : w0.cell? ⟨w.heap.size, 0, none⟩ = some (.slice A n c) := by rw [e0]; simp
      have f2 : w0.cell? ⟨w.heap.size, 1, none⟩ = some (.slice B m c') := by rw [e0]; simp
      have f3 : w0.cell? ⟨w.heap.size + 1, 0, none⟩ = some (.slice A' n g) := by rw [e0]; simp
      have f4 : w0.cell? ⟨w.heap.size + 1, 1, none⟩ = some (.slice B' m g') := by rw [e0]; simp
      have fs : w0.heap.size = w.heap.size + 2 := by rw [e0]; simp
      rw [← e0] at hB0
      replace fs := Lib.hid fs
      go_enter Try.func16, Try.ntmps16
      go_upto_region 1 with fail
      rw [← e0]
      clear e0
      go_wp2_with fail
      go_loopw [5] (fun i wr => ∃ k : Nat, k ≤ n ∧ i = .int .i64 k ∧ d.1.take k = o.1.take k ∧ Below w0.heap.size w0 wr) (fun i _ => n - (intOf i).toNat)
      case atStart => exact ⟨0, by omega, rfl, rfl, Below.refl _ _⟩
      case round =>
        obtain ⟨k, hk, rfl, ha, hb⟩ := hrel
        replace ha := Lib.hid ha
        have q1 := (hb.cell (p := ⟨w.heap.size, 0, none⟩) (by rw [fs.out]; simp)).trans f1
        have q2 := (hb.cell (p := ⟨w.heap.size + 1, 0, none⟩) (by rw [fs.out]; simp)).trans f3
        by_cases hlt : k < n
        · have hbw := hB0.trans (hb.mono hB0.size)
          obtain ⟨x, hx⟩ : ∃ x, d.1[k]? = some x := ⟨_, List.getElem?_eq_getElem (by rw [hn.out]; exact hlt)⟩
          obtain ⟨y, hy⟩ : ∃ y, o.1[k]? = some y := ⟨_, List.getElem?_eq_getElem (by rw [hn'.out]; exact hlt)⟩
          obtain ⟨ad, v, rfl, hok, hc, hby⟩ := HA.out k x hx
          obtain ⟨bd, u, rfl, hok2, hc2, hby2⟩ := HA'.out k y hy
          replace hx := Lib.hid hx
          replace hy := Lib.hid hy
          replace hc := (hbw.cell hok).trans hc
          replace hc2 := (hbw.cell hok2).trans hc2
          have s1 := rBy_str (stab_by.old hby hbw)
          have s2 := rBy_str (stab_by.old hby2 hbw)
          obtain ⟨E, ce, rfl, _⟩ := rBy_open hby
          obtain ⟨E', ce', rfl, _⟩ := rBy_open hby2
          clear hby hby2
          by_cases e : x = y
          · have he : (x == y) = true := by simpa using e
            replace e := Lib.hid e
            go_wp2_with fail
            go_quiet (fail)
            go_wp2_with fail
            go_roundw
            case rel => exact ⟨k + 1, by omega, by go_num, take_eq_succ ha.out hx.out hy.out e.out, below_drewN hb _⟩
            case measure => simp [intOf]; omega
          · have he : (x == y) = false := by simpa using e
            have hne := Lib.hid (show sameB d o = false by
              unfold sameB
              simp only [decide_eq_false_iff_not]
              exact fun h => ne_of_at hx.out hy.out e (by rw [h]))
            clear e
            go_wp2_with fail
            go_quiet (fail)
            go_wp2_with fail
            go_ret
            exact ⟨ret_bool hne.out.symm, below_drewN hbw _⟩
        · have hge : n ≤ k := by omega
          have he1 : Hid (d.1 = o.1) := Lib.hid (by
            have := ha.out
            rwa [List.take_of_length_le (by rw [hn.out]; exact hge), List.take_of_length_le (by rw [hn'.out]; exact hge)] at this)
          clear ha
          obtain ⟨wo, rfl⟩ : ∃ wo : World, wo = wr := ⟨_, rfl⟩
          go_wp2_with fail
          go_loopw [6] (fun i wr => ∃ k : Nat, k ≤ m ∧ i = .int .i64 k ∧ d.2.take k = o.2.take k ∧ Below w0.heap.size w0 wr) (fun i _ => m - (intOf i).toNat)
          case atStart => exact ⟨0, by omega, rfl, rfl, hb⟩
          case round =>
            clear hb q1 q2
            obtain ⟨k, hk, rfl, ha, hb⟩ := hrel
            replace ha := Lib.hid ha
            have q1 := (hb.cell (p := ⟨w.heap.size, 1, none⟩) (by rw [fs.out]; simp)).trans f2
            have q2 := (hb.cell (p := ⟨w.heap.size + 1, 1, none⟩) (by rw [fs.out]; simp)).trans f4
            have hbw := hB0.trans (hb.mono hB0.size)
            by_cases hlt : k < m
            · obtain ⟨x, hx⟩ : ∃ x, d.2[k]? = some x := ⟨_, List.getElem?_eq_getElem (by rw [hm.out]; exact hlt)⟩
              obtain ⟨y, hy⟩ : ∃ y, o.2[k]? = some y := ⟨_, List.getElem?_eq_getElem (by rw [hm'.out]; exact hlt)⟩
              obtain ⟨ad, v, rfl, hok, hok', hc, hc', hby, _, _⟩ := HB.out k x hx
              obtain ⟨bd, u, rfl, hok2, hok2', hc2, hc2', hby2, _, _⟩ := HB'.out k y hy
              replace hx := Lib.hid hx
              replace hy := Lib.hid hy
              replace hc := (hbw.cell hok).trans hc
              replace hc2 := (hbw.cell hok2).trans hc2
              replace hc' := (hbw.cell hok').trans hc'
              replace hc2' := (hbw.cell hok2').trans hc2'
              rw [add_next] at hc' hc2'
              have s1 := rBy_str (stab_by.old hby hbw)
              have s2 := rBy_str (stab_by.old hby2 hbw)
              obtain ⟨E, ce, rfl, _⟩ := rBy_open hby
              obtain ⟨E', ce', rfl, _⟩ := rBy_open hby2
              clear hby hby2
              by_cases ea : x.1 = y.1
              · by_cases e : x.2 = y.2
                · have hea : (x.1 != y.1) = false := by simpa using ea
                  have he : (x.2 == y.2) = true := by simpa using e
                  have hxy := Lib.hid (show x = y from Prod.ext ea e)
                  clear e ea
                  go_wp2_with fail
                  go_quiet (fail)
                  go_wp2_with fail
                  go_roundw
                  case rel => exact ⟨k + 1, by omega, by go_num, take_eq_succ ha.out hx.out hy.out hxy.out, below_drewN hb _⟩
                  case measure => simp [intOf]; omega
                · have hea : (x.1 != y.1) = false := by simpa using ea
                  have he : (x.2 == y.2) = false := by simpa using e
                  have hne := Lib.hid (show sameB d o = false by
                    unfold sameB
                    simp only [decide_eq_false_iff_not]
                    exact fun h => ne_of_at hx.out hy.out (fun h' => e (by rw [h'])) (by rw [h]))
                  clear e ea
                  go_wp2_with fail
                  go_quiet (fail)
                  go_wp2_with fail
                  go_ret
                  exact ⟨ret_bool hne.out.symm, below_drewN hbw _⟩
              · have hea : (x.1 != y.1) = true := by simpa using ea
                have hne := Lib.hid (show sameB d o = false by
                  unfold sameB
                  simp only [decide_eq_false_iff_not]
                  exact fun h => ne_of_at hx.out hy.out (fun h' => ea (by rw [h'])) (by rw [h]))
                clear ea
                go_wp2_with fail
                go_quiet (fail)
                go_wp2_with fail
                go_ret
                exact ⟨ret_bool hne.out.symm, below_drewN hbw _⟩
            · have hge2 : m ≤ k := by omega
              have he2 : Hid (sameB d o = true) := Lib.hid (by
                have := ha.out
                rw [List.take_of_length_le (by rw [hm.out]; exact hge2), List.take_of_length_le (by rw [hm'.out]; exact hge2)] at this
                unfold sameB
                simp only [decide_eq_true_eq]
                exact Prod.ext he1.out this)
              go_wp2_with fail
              go_ret
              exact ⟨ret_bool he2.out.symm, hbw⟩
    · have hne := Lib.hid (show sameB d o = false by
        unfold sameB
        simp only [decide_eq_false_iff_not]
        intro h
        have := hm.out
        rw [h, hm'.out] at this
        exact h2 this.symm)
      have h1' : ((n : Int) != n') = false := by simp; omega
      have h2' : ((m : Int) != m') = true := by simp; omega
      clear h1 h2
      go_enter Try.func16, Try.ntmps16
      go_wp2_with fail
      go_ret
      exact ⟨ret_bool hne.out.symm, hB0⟩
  · have hne := Lib.hid (show sameB d o = false by
      unfold sameB
      simp only [decide_eq_false_iff_not]
      intro h
      have := hn.out
      rw [h, hn'.out] at this
      exact h1 this.symm)
    have h1' : ((n : Int) != n') = true := by simp; omega
    clear h1
    go_enter Try.func16, Try.ntmps16
    go_wp2_with fail
    go_ret
    exact ⟨ret_bool hne.out.symm, hB0⟩
end Go.Proofs.Ytgnogclhleheiaa
