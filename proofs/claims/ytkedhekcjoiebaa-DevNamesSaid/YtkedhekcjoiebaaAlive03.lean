/-
  The laws' own functions of layer 3: full, alive. Conditions: those that each lemma states.
-/
import Derived.Test.YtkedhekcjoiebaaDevWrite
import Derived.Test.YtkedhekcjoiebaaDevCrash
import Derived.Test.YtkedhekcjoiebaaAny
import Derived.Test.YtkedhekcjoiebaaSame
namespace Go.Proofs.Ytkedhekcjoiebaa
open Go.RowKit

theorem byte_info0 : (Try.prog.info? 5).map (fun i => (i.zero, i.size, i.bytes)) = some (some (.int .u8 0), 1, 1) := by kernel_rfl
set_option maxRecDepth 100000 in
set_option maxHeartbeats 2000000 in
theorem full_any (x : UInt8) (w : World) : Calls Try.prog 13 #[.int .u8 (x.toNat : Int)] w fun e w' => ∃ u, e = .returned u ∧ rBy (New w.heap.size w') w' [u] (List.replicate 128 x) ∧ Below w.heap.size w w' := by
  obtain ⟨i0, hi, hz0, hz1, hz2⟩ := info_parts byte_info0
  obtain ⟨y, hy⟩ : ∃ y : Int, y = (x.toNat : Int) := ⟨_, rfl⟩
  rw [← hy]
  replace hy := Lib.hid hy
  go_enter Try.func13, Try.ntmps13
  go_wp2_with fail
  go_loopw [3, 4] (fun s i wr => ∃ k : Nat, k ≤ 128 ∧ i = .int .i64 k ∧ Below w.heap.size w wr ∧ wr.ownsRow w.heap.size 5 1 s k (List.replicate k (.int .u8 y))) (fun _ i _ => 128 - (intOf i).toNat)
  case atStart => exact ⟨0, by omega, rfl, Below.refl _ _, World.ownsRow_nil _ _ _ _⟩
  case round =>
    obtain ⟨k, hk, rfl, hb, hown⟩ := hrel
    by_cases hlt : k < 128
    · have p1 : k + 1 ≤ maxLen := by unfold maxLen; omega
      have p2 : (k + 1) * 1 ≤ 140737488355328 := by omega
      have hbs := hb.size
      go_wp2_with (at_builtin; refine wpList_append_own _ rfl _ _ 23 rfl w.heap.size 5 i0 (.int .u8 0) 1 1 Try.underlying23 hi hz0 hz1 hz2 rfl (by decide) _ _ _ rfl (hown.alloc _) ⟨wr.heap.size, 0, none⟩ 1 1 [.int .u8 y] rfl rfl ?d1 ?d2 p1 p2 ?d5 ?_)
      case d1 => exact World.news_of_block (cs := #[.int .u8 y]) (heap_alloc_new wr _)
      case d2 =>
        intro u hu
        simp at hu
        subst hu
        rfl
      case d5 => simp; omega
      intro v' w1 hown' hgrow _
      have hbx : Below w.heap.size w w1 := (hb.alloc hbs _).grown hgrow (by simp; omega) (fun q e => (hown.lt q e).1)
      go_wp2_with fail
      go_roundw
      case rel => exact ⟨k + 1, by omega, by go_num, hbx, by rw [List.replicate_succ']; exact hown'⟩
      case measure => simp [intOf]; omega
    · obtain rfl : k = 128 := by omega
      have e : List.replicate 128 (Value.int .u8 y) = u8s (List.replicate 128 x) := by rw [hy.out]; simp [u8s]
      rw [e] at hown
      have hfin := Lib.hid (own_by hown)
      clear e
      replace hown := Lib.hid hown
      go_wp2_with fail
      go_ret
      exact ⟨_, rfl, hfin.out, hb⟩

theorem zero_len1 : zeroD.1.length = 256 := List.length_replicate
theorem zero_len2 : zeroD.2.length = 0 := rfl
theorem zero_at {k : Nat} (hk : k < 256) : zeroD.1[k]? = some (List.replicate 128 0) := by
  rw [show zeroD.1 = List.replicate 256 (List.replicate 128 0) from rfl, List.getElem?_replicate, if_pos hk]
theorem may_zero : mayB zeroD = true := by
  refine may_mk zero_len1 (by rw [zero_len2]; omega) ?_ rfl
  rw [List.all_eq_true]
  intro x hx
  obtain ⟨j, hj⟩ := List.getElem?_of_mem hx
  have hjl := (List.getElem?_eq_some_iff.1 hj).1
  rw [zero_len1] at hjl
  rw [zero_at hjl] at hj
  cases hj
  exact decide_eq_true List.length_replicate
/-- A disk with one write more. -/
def wrD (d : Dk) (k : Nat) (xs : List UInt8) : Dk := (d.1, d.2 ++ [((k : Int), xs)])
theorem wrD_fst (d : Dk) (k : Nat) (xs : List UInt8) : (wrD d k xs).1 = d.1 := rfl
theorem wrD_len (d : Dk) (k : Nat) (xs : List UInt8) : (wrD d k xs).2.length = d.2.length + 1 := by simp [wrD]
theorem may_write {d : Dk} {k : Nat} {xs : List UInt8} (h : mayB d = true) (hk : k < 256) (hl : xs.length = 128) (hf : d.2.length < 4096) : mayB (wrD d k xs) = true := by
  obtain ⟨h1, h2, h3, h4⟩ := may_of h
  refine may_mk h1 (by rw [wrD_len]; omega) ?_ ?_
  · rw [List.all_eq_true]
    intro x hx
    obtain ⟨j, hj⟩ := List.getElem?_of_mem hx
    exact decide_eq_true (h3 j x hj)
  · rw [List.all_eq_true]
    intro x hx
    rcases List.mem_append.1 hx with hx | hx
    · obtain ⟨j, hj⟩ := List.getElem?_of_mem hx
      obtain ⟨a, b, c⟩ := h4 j x hj
      exact wtB_yes a b c
    · obtain rfl := List.mem_singleton.1 hx
      exact wtB_yes (show (0 : Int) ≤ (k : Int) by omega) (show (k : Int) < 256 by omega) hl
theorem seenD_write {d : Dk} {k : Nat} {xs : List UInt8} : seenD (wrD d k xs) k = xs := by
  simp [wrD, seenD, seenW]
theorem seenD_write_ne {d : Dk} {k j : Nat} {xs : List UInt8} (h : j ≠ k) : seenD (wrD d k xs) j = seenD d j := by
  have : ¬ (k : Int) = j := by omega
  simp [wrD, seenD, seenW, this]
theorem write_wr (v u : Value) (d : Dk) (k : Nat) (xs : List UInt8) (w : World) (h : Dsk (Old w) w v d) (hu : rBy (Old w) w [u] xs) (hm : mayB d = true) (hk : k < 256) (hl : xs.length = 128) (hf : d.2.length < 4096) :
    Calls Try.prog 12 #[v, .int .i64 k, u] w fun e w' => ∃ x, e = .returned (.tuple #[x, .int .i64 0]) ∧ Dsk (New w.heap.size w') w' x (wrD d k xs) ∧ Below w.heap.size w w' := write_ok v u d k xs w h hu hm hk hl hf

set_option maxRecDepth 100000 in
set_option maxHeartbeats 4000000 in
theorem alive_any (w : World) : Calls Try.prog 9 #[] w fun e w' => e = .returned (.bool true) ∧ Below w.heap.size w w' := by
  obtain ⟨fs, hfs⟩ : ∃ fs : List UInt8, List.replicate 128 1 = fs := ⟨_, rfl⟩
  have hfl : Hid (fs.length = 128) := Lib.hid (by rw [← hfs]; simp)
  have hfull : Hid (∀ W, Calls Try.prog 13 #[.int .u8 1] W fun e w' => ∃ u, e = .returned u ∧ rBy (New W.heap.size w') w' [u] fs ∧ Below W.heap.size W w') := Lib.hid fun W => by
    have := full_any 1 W
    rw [hfs] at this
    exact this
  clear hfs
  go_enter Try.func9, Try.ntmps9
  go_wp2_with fail
  refine (new_any _).mono ?_
  rintro e w1 ⟨u, rfl, hu, hb1⟩
  go_wp2_with fail
  refine (hfull.out _).mono ?_
  rintro e w2 ⟨v, rfl, hv, hb2⟩
  have hu2 := hu.drop.below hb2
  have hB2 := hb1.trans (hb2.mono hb1.size)
  go_wp2_with fail
  refine (write_wr u v zeroD 9 fs _ hu2 (stab_by.drop hv) may_zero (by omega) hfl.out (by rw [zero_len2]; omega)).mono ?_
  rintro e w3 ⟨x, rfl, hx, hb3⟩
  have hB3 := hB2.trans (hb3.mono hB2.size)
  have hmd := may_write (k := 9) may_zero (by omega) hfl.out (by rw [zero_len2]; omega)
  have hsd : Hid (seenD (wrD zeroD 9 fs) 9 = fs) := Lib.hid seenD_write
  have hln : Hid ((wrD zeroD 9 fs).2.length = 1) := Lib.hid rfl
  generalize wrD zeroD 9 fs = d at *
  obtain ⟨A, c, B, e, rfl, _⟩ := id hx.open
  rw [hln.out] at hx ⊢
  clear hu hu2 hv hb1 hb2 hb3
  obtain ⟨wb, hwb, b1, b3, hbb⟩ := box_pair' w3 (.slice A d.1.length c) (.slice B 1 e) 30
  obtain ⟨z1, z2, _, z4⟩ := two_cells b1
  have hxb := hx.drop.below hbb
  have hBb := hB3.trans (hbb.mono hB3.size)
  replace b1 := Lib.hid b1
  replace b3 := Lib.hid b3
  go_upto_region 2 with fail
  clear hwb
  go_wp2_with fail
  refine (read_ok _ d 9 _ hxb hmd (by omega)).mono ?_
  rintro e' w4 ⟨y, rfl, hy, hb4⟩
  rw [hsd.out] at hy
  have hB4 := hBb.trans (hb4.mono hBb.size)
  obtain ⟨E, ce, rfl, _⟩ := rBy_open hy
  have y2 := (hb4.cell (p := ⟨w3.heap.size, 1, none⟩) z4).trans z2
  have lt4 := World.block_lt_of_cell? _ _ y2
  have hyo := Lib.hid (stab_by.drop hy)
  clear z1 z2 hx hxb hy hb4
  go_wp2_with fail
  have HS := Lib.hid (fun W (hC : Below w4.heap.size w4 W) => rBy_str0 (stab_by.old hyo.out hC))
  refine wp_region_as (by kernel_rfl) (fun W => Below w4.heap.size w4 W) (fun i => match i with
      | 9 => some (fun v W => rBy (New w4.heap.size W) W [v] fs)
      | _ => none) (by kernel_rfl) (Below.refl _ _).drew (fun w w' h hb => h.trans (hb.mono h.size)) ?tst ?_
  case tst =>
    intro j φ x W W' hp hx hb
    match j, hp with
    | 9, hp => cases hp; exact stab_by.new hx (Nat.le_refl _) hb
  repeat (first
    | (refine wpAs_skip rfl ?_; simp only [Act.put, List.setIfInBounds_toArray, List.set_cons_zero, List.set_cons_succ])
    | (refine wpAs_pure (v := ?_) rfl rfl ?_ ?_; rotate_left; (intro W hC hE; clear hE; (have s1 := HS.out W hC); clear hC; go_simp; done); simp only [Act.put, List.setIfInBounds_toArray, List.set_cons_zero, List.set_cons_succ])
    | (refine wpAs_pure (v := ?_) rfl rfl ?_ ?_; rotate_left; (intro W hC hE; clear hE; (have s1 := HS.out W hC); clear hC; go_simp; with_reducible rfl); simp only [Act.put, List.setIfInBounds_toArray, List.set_cons_zero, List.set_cons_succ]))
  refine wpAs_act rfl rfl ?_ ?_
  · intro W hC hE
    clear hE
    refine does_enter (f := 13) (args := #[.int .u8 1]) ?_ ?_
    · go_simp
    · refine (hfull.out W).mono ?_
      rintro e W' ⟨u, rfl, ho, hb⟩
      exact ⟨_, rfl, stab_by.mono ho hC.size, hb⟩
  simp only [Act.put, List.setIfInBounds_toArray, List.set_cons_zero, List.set_cons_succ, envAdd]
  intro x25
  refine wpAs_pure (v := .string ⟨fs.toArray⟩) rfl rfl (fun W hC hE => run_convert_op _ _ _ rfl rfl (rBy_str0 (stab_by.drop (hE.1 rfl)))) ?_
  simp only [Act.put, List.setIfInBounds_toArray, List.set_cons_zero, List.set_cons_succ]
  repeat (first
    | (refine wpAs_skip rfl ?_; simp only [Act.put, List.setIfInBounds_toArray, List.set_cons_zero, List.set_cons_succ])
    | (refine wpAs_pure (v := ?_) rfl rfl ?_ ?_; rotate_left; (intro W hC hE; clear hE; (have z2 := (hC.cell lt4).trans y2); clear hC; go_simp; done); simp only [Act.put, List.setIfInBounds_toArray, List.set_cons_zero, List.set_cons_succ])
    | (refine wpAs_pure (v := ?_) rfl rfl ?_ ?_; rotate_left; (intro W hC hE; clear hE; (have z2 := (hC.cell lt4).trans y2); clear hC; go_simp; with_reducible rfl); simp only [Act.put, List.setIfInBounds_toArray, List.set_cons_zero, List.set_cons_succ]))
  refine wpAs_end fun W hC hE => ?_
  clear hE
  have hBW := hB4.trans (hC.mono hB4.size)
  go_wp2
  go_ret
  exact ⟨rfl, hBW⟩
end Go.Proofs.Ytkedhekcjoiebaa
