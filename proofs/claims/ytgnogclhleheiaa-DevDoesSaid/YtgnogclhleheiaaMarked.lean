/-
  Package dev: marked. Conditions: those that each lemma states.
-/
import Derived.Test.YtgnogclhleheiaaClones
import Derived.Test.YtgnogclhleheiaaLast
import Derived.Deep.CutBlock
import Derived.Outline
namespace Go.Proofs.Ytgnogclhleheiaa
open Go.RowKit

/-- The writes whose marks are true. -/
def markedW : List Wt → List Bool → List Wt
  | x :: r, k :: ks => if k then x :: markedW r ks else markedW r ks
  | _, _ => []
theorem markedW_snoc : ∀ (ws : List Wt) (ks : List Bool) (x : Wt) (k : Bool), ws.length = ks.length → markedW (ws ++ [x]) (ks ++ [k]) = markedW ws ks ++ if k then [x] else []
  | [], [], x, k, _ => by cases k <;> rfl
  | y :: r, q :: ks, x, k, h => by
    have ih := markedW_snoc r ks x k (by simpa using h)
    cases q
    · simpa [markedW] using ih
    · simpa [markedW] using ih
theorem markedW_take {ws : List Wt} {ks : List Bool} {k : Nat} {x : Wt} {b : Bool} (hl : ws.length = ks.length) (hx : ws[k]? = some x) (hb : ks[k]? = some b) : markedW (ws.take (k + 1)) (ks.take (k + 1)) = markedW (ws.take k) (ks.take k) ++ if b then [x] else [] := by
  rw [List.take_add_one, List.take_add_one, hx, hb]
  exact markedW_snoc _ _ _ _ (by simp [hl])
theorem markedW_length : ∀ (ws : List Wt) (ks : List Bool), (markedW ws ks).length ≤ ws.length
  | [], ks => by cases ks <;> simp [markedW]
  | x :: r, [] => by simp [markedW]
  | x :: r, k :: ks => by
    have := markedW_length r ks
    cases k <;> simp [markedW] <;> omega

set_option maxRecDepth 100000 in
set_option maxHeartbeats 4000000 in
theorem marked_any (v u : Value) (ws : List Wt) (ks : List Bool) (w : World) (hv : rSl 2 rWt (Old w) w [v] ws) (hu : rSl 1 rBool (Old w) w [u] ks) (hl : ws.length = ks.length) (hbig : ws.length ≤ 100000) :
    Calls Try.prog 57 #[v, u] w fun e w' => ∃ x, e = .returned x ∧ rSl 2 rWt (Old w') w' [x] (markedW ws ks) ∧ Below w.heap.size w w' := by
  obtain ⟨i0, hi, hz0, hz1, hz2⟩ := info_parts wts_info0
  obtain ⟨A, a, ev, la, ma, hA⟩ := wts_open hv
  obtain ⟨B, b, rfl, lb, mb, hB⟩ := bools_open hu
  cases ev
  clear hv hu
  have HA := Lib.hid hA
  have HB := Lib.hid hB
  clear hA hB
  obtain ⟨n, hn⟩ : ∃ n, ws.length = n := ⟨_, rfl⟩
  have hm : ks.length = n := by omega
  rw [hn] at la hbig ⊢
  rw [hm] at lb ⊢
  replace hn := Lib.hid hn
  replace hm := Lib.hid hm
  replace hl := Lib.hid hl
  go_enter Try.func57, Try.ntmps57
  go_wp2_with fail
  go_loopw [5, 10] (fun s i wr => ∃ k : Nat, k ≤ n ∧ i = .int .i64 k ∧ Below w.heap.size w wr ∧ ∃ qs : List (Int × Value), wr.ownsRow w.heap.size 78 2 s (markedW (ws.take k) (ks.take k)).length (wcells qs) ∧
      ∀ (j : Nat) (p : Int × Value) (x : Wt), qs[j]? = some p → (markedW (ws.take k) (ks.take k))[j]? = some x → p.1 = x.1 ∧ rBy (Old w) w [p.2] x.2 ∧ -9223372036854775808 ≤ x.1 ∧ x.1 ≤ 9223372036854775807) (fun _ i _ => n - (intOf i).toNat)
  case atStart => exact ⟨0, by omega, rfl, Below.refl _ _, [], World.ownsRow_nil _ _ _ _, fun j p x h => by simp at h⟩
  case round =>
    obtain ⟨k, hk, rfl, hb, qs, hqs, hq⟩ := hrel
    replace hq := Lib.hid hq
    by_cases hlt : k < n
    · obtain ⟨x, hx⟩ : ∃ x, ws[k]? = some x := ⟨_, List.getElem?_eq_getElem (by rw [hn.out]; exact hlt)⟩
      obtain ⟨y, hy⟩ : ∃ y, ks[k]? = some y := ⟨_, List.getElem?_eq_getElem (by rw [hm.out]; exact hlt)⟩
      obtain ⟨ad, v, rfl, hok, hok', hc, hc', hby, b1, b2⟩ := HA.out k x hx
      obtain ⟨bd, rfl, hok2, hc2⟩ := HB.out k y hy
      have hmt := markedW_take hl.out hx hy
      obtain ⟨E, ce, rfl, _⟩ := rBy_open hby
      replace hc := (hb.cell hok).trans hc
      replace hc' := (hb.cell hok').trans hc'
      replace hc2 := (hb.cell hok2).trans hc2
      rw [add_next] at hc'
      obtain ⟨wb, hwb, f1, f2, f3, hbb⟩ := box_pair wr (.int .i64 x.1) (.slice E x.2.length ce) 78
      have lt1 := World.block_lt_of_cell? _ _ hc2
      have hc3 := (hbb.cell lt1).trans hc2
      have hlm := markedW_length (ws.take k) (ks.take k)
      have hlm2 : (ws.take k).length ≤ k := List.length_take_le _ _
      have hmt' := Lib.hid hmt
      clear hmt
      replace hx := Lib.hid hx
      replace hy := Lib.hid hy
      obtain ⟨M, hM⟩ : ∃ M, markedW (ws.take k) (ks.take k) = M := ⟨_, rfl⟩
      rw [hM] at hqs hlm
      replace hM := Lib.hid hM
      have hown := own_below hqs hbb
      have hbw := hb.trans (hbb.mono hb.size)
      replace f3 := Lib.hid f3
      have hw0 : w.heap.size ≤ wb.heap.size := hbw.size
      cases y with
      | true =>
        go_upto_region 5 with fail
        clear hwb
        go_wp2_with (at_builtin; refine wpList_append_own _ rfl _ _ 23 rfl w.heap.size 78 i0 (.agg #[.int .i64 0, .slice none 0 0]) 2 32 Try.underlying23 hi hz0 hz1 hz2 rfl (by decide) _ _ _ rfl (hown.alloc _) ⟨wb.heap.size, 0, none⟩ 1 1 [.int .i64 x.1, .slice E x.2.length ce] rfl rfl ?d1 ?d2 ?d3 ?d4 ?d5 ?_)
        case d2 => exact ⟨rfl, rfl⟩
        case d3 => unfold maxLen; omega
        case d4 => omega
        case d5 => omega
        intro v' w1 hown' hgrow _
        have hbx : Below w.heap.size w w1 := (hbw.alloc hw0 _).grown hgrow (by simp; omega) (fun q e => (hown.lt q e).1)
        go_wp2_with fail
        go_roundw
        case rel =>
          refine ⟨k + 1, by omega, by go_num, hbx, qs ++ [(x.1, .slice E x.2.length ce)], ?_, fun j p y hp hy => ?_⟩
          · rw [hmt'.out, hM.out, wcells_append]
            simpa [wcells] using hown'
          · rw [hmt'.out, hM.out] at hy
            have hql : qs.length = M.length := by have := hqs.1; rw [wcells_length] at this; omega
            rcases Nat.lt_or_ge j qs.length with hj | hj
            · rw [List.getElem?_append_left hj] at hp
              rw [List.getElem?_append_left (by omega)] at hy
              exact hq.out j p y hp (by rw [hM.out]; exact hy)
            · rw [List.getElem?_append_right hj] at hp
              rw [List.getElem?_append_right (by omega)] at hy
              have hj0 : j - qs.length = 0 := by
                have := (List.getElem?_eq_some_iff.1 hp).1
                simp at this
                omega
              rw [hj0] at hp
              rw [← hql, hj0] at hy
              simp at hp hy
              subst hp
              subst hy
              exact ⟨rfl, hby, b1, b2⟩
        case measure => simp [intOf]; omega
      | false =>
        go_upto_region 5 with fail
        clear hwb
        go_wp2_with fail
        go_roundw
        case rel =>
          refine ⟨k + 1, by omega, by go_num, hbw, qs, ?_, fun j p y hp hy => ?_⟩
          · rw [hmt'.out, hM.out]
            simpa using hown
          · rw [hmt'.out] at hy
            exact hq.out j p y hp (by simpa using hy)
        case measure => simp [intOf]; omega
    · have hge : n ≤ k := by omega
      have e1 : ws.take k = ws := List.take_of_length_le (by rw [hn.out]; exact hge)
      have e2 : ks.take k = ks := List.take_of_length_le (by rw [hm.out]; exact hge)
      rw [e1, e2] at hqs
      have hq' := hq.out
      rw [e1, e2] at hq'
      clear e1 e2
      have hfin := Lib.hid (own_wts_ok (ok := Old wr) (fun p _ hp => hp.2.1) hqs rfl (fun j p x hp hx => by
        obtain ⟨c1, c2, c3⟩ := hq' j p x hp hx
        exact ⟨c1, stab_by.old c2 hb, c3⟩))
      clear hq hq'
      replace hqs := Lib.hid hqs
      go_wp2_with fail
      go_ret
      exact ⟨_, rfl, hfin.out, hb⟩
end Go.Proofs.Ytgnogclhleheiaa
