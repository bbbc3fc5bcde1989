/-
  For every item and two lists of bytes ItemBack answers true and leaves its arguments as they were. No condition.
-/
import Derived.Test.YtmefejbbnfgbeaaBnd2
import Derived.StillTailTactics
import Derived.Deep.CutBlock
import Derived.Deep.CutRange
namespace Go.Proofs.Ytmefejbbnfgbeaa.itemBack
open Go.ChangeShapes Go.WideShapes Go.RowKit

theorem own : ownKnob Try.prog.godebug = none := by kernel_rfl
theorem laidOut : laidOutB Try.prog = true := by kernel_rfl

theorem rBy_take {ok : Addr → Prop} {w : World} {A : Option Addr} {n c : Nat} {xs : List UInt8} (h : rBy ok w [.slice A n c] xs) (m : Nat) (hm : m ≤ xs.length) : rBy ok w [.slice A m c] (xs.take m) := by
  obtain ⟨A', c', e, l1, l2, h4⟩ := h
  cases e
  have hl : (xs.take m).length = m := by simp; omega
  refine ⟨A, c, by rw [hl], by rw [hl]; omega, l2, fun i x hi => ?_⟩
  have him : i < m := by rw [← hl]; exact (List.getElem?_eq_some_iff.1 hi).1
  exact h4 i x (by rwa [List.getElem?_take_of_lt him] at hi)
theorem rBy_some {ok : Addr → Prop} {w : World} {A : Option Addr} {n c : Nat} {xs : List UInt8} (h : rBy ok w [.slice A n c] xs) (hn : 0 < n) : (∃ ad, A = some ad) ∧ n ≤ c ∧ c ≤ 9223372036854775807 := by
  obtain ⟨A', c', e, l1, l2, h4⟩ := h
  cases e
  obtain ⟨ad, _, e, _⟩ := h4 0 _ (List.getElem?_eq_getElem hn)
  exact ⟨⟨ad, e⟩, l1, l2⟩
theorem byt_of {w : World} {A : Option Addr} {n c : Nat} {xs : List UInt8} (h : rBy (Old w) w [.slice A n c] xs) : Byt w w.heap.size A xs := by
  obtain ⟨_, _, e, _, _, hy⟩ := rBy_byt (B := w.heap.size) (fun p hp => hp) h
  cases e
  exact hy
/-- What bytes tell that are refused. -/
theorem read_no {b : List UInt8} (h : okR b = false) : itE b = 8 ∧ itN b = 0 ∧ itR b = zeroI := ⟨by simp [itE, h], by simp [itN, h], by simp [itR, h]⟩
set_option maxRecDepth 100000 in
set_option maxHeartbeats 8000000 in
/-- The law's second half: from the read of b on. -/
theorem dummy : True := trivial
set_option maxRecDepth 100000 in
set_option maxHeartbeats 16000000 in
theorem walk (v : Value) (x : It) (P : Option Addr) (np cp : Nat) (p : List UInt8) (hnp0 : p.length = np) (hlp : np ≤ cp) (hcp : cp ≤ 9223372036854775807) (Q : Option Addr) (nb cb : Nat) (b : List UInt8) (hnb0 : b.length = nb) (hlb : nb ≤ cb) (hcb : cb ≤ 9223372036854775807) (w : World) (hv : Itm (Old w) w v x) (hp : Byt w w.heap.size P p) (hb : Byt w w.heap.size Q b) :
    Calls Try.prog 6 #[v, .slice P np cp, .slice Q nb cb] w fun e w' => e = .returned (.bool true) ∧ Below w.heap.size w w' := by
  obtain ⟨A, c, rfl, ix, l1, m1, _⟩ := hv.open
  have IX := Lib.hid ix
  have rp : rBy (Old w) w [.slice P np cp] p := by rw [← hnp0]; exact byt_rBy hp (by omega) hcp
  have rb : rBy (Old w) w [.slice Q nb cb] b := by rw [← hnb0]; exact byt_rBy hb (by omega) hcb
  have hnp := Lib.hid hnp0
  have hnb := Lib.hid hnb0
  obtain ⟨k1, r1, v1⟩ := x
  have G0 := (((Bag.nil w).add (F := OldI _ _) hv (lasts_oldI _ _)).add (F := OldB _ _) rp (lasts_oldB _ _)).add (F := OldB _ _) rb (lasts_oldB _ _)
  obtain ⟨w1, hw1, G1, B1, _, s1⟩ := bag_item G0 (Below.refl _ _) (.int .u8 (k1.1.toNat : Int)) (.int .u32 k1.2.1) (.int .u32 k1.2.2) (.int .i64 r1) (.slice A v1.length c)
  have BB := Lib.hid B1
  have HG := Lib.hid G1
  replace hw1 := Lib.hid hw1
  unfold itV at *
  dsimp only at *
  clear G0 G1 B1 s1 hv ix hp hb rp rb hnp0 hnb0
  go_enter Try.func6, Try.ntmps6
  go_upto_region 1 with fail
  rw [hw1.out]
  clear hw1
  go_wp2_with fail
  with_reducible refine (alive5 _).mono ?_
  rintro e3 w3 ⟨rfl, hb3⟩
  replace HG := Lib.hid (HG.out.below hb3)
  replace BB := Lib.hid (BB.out.trans (hb3.mono BB.out.size))
  clear hb3
  obtain ⟨n1, hn1⟩ : ∃ n, v1.length = n := ⟨_, rfl⟩
  rw [hn1] at l1 HG ⊢
  replace hn1 := Lib.hid hn1
  obtain ⟨x1, x2, x3, x4, x5, _⟩ := HG.out.at 0 rfl
  by_cases b1 : 10000 < np
  · have j1 : (10000 : Int) < np := by omega
    go_wp2_with fail
    go_ret
    exact ⟨rfl, BB.out⟩
  by_cases b2 : 10000 < nb
  · have j1 : ¬ (10000 : Int) < np := by omega
    have j2 : (10000 : Int) < nb := by omega
    go_wp2_with fail
    go_ret
    exact ⟨rfl, BB.out⟩
  by_cases b3 : 10000 < n1
  · have j1 : ¬ (10000 : Int) < np := by omega
    have j2 : ¬ (10000 : Int) < nb := by omega
    have j3 : (10000 : Int) < n1 := by omega
    go_wp2_with fail
    go_ret
    exact ⟨rfl, BB.out⟩
  have j1 : ¬ (10000 : Int) < np := by omega
  have j2 : ¬ (10000 : Int) < nb := by omega
  have j3 : ¬ (10000 : Int) < n1 := by omega
  have HX : Hid (Itm (Old w3) w3 _ (k1, r1, v1)) := Lib.hid (HG.out.at 3 rfl)
  go_wp2_with fail
  with_reducible refine (itWrite_any _ (k1, r1, v1) _ HX.out).mono ?_
  rintro e4 w4 ⟨a, rfl, ha, hb4⟩
  obtain ⟨T, tc, rfl, _, _, _⟩ := id (rBy_open ha)
  obtain ⟨la, hla⟩ : ∃ n, (wrI (k1, r1, v1)).length = n := ⟨_, rfl⟩
  rw [hla] at ha ⊢
  replace HG := Lib.hid ((HG.out.below hb4).add (F := OldB _ _) (stab_by.drop ha) (lasts_oldB _ _))
  replace BB := Lib.hid (BB.out.trans (hb4.mono BB.out.size))
  replace hla := Lib.hid hla
  clear x1 x2 x3 x4 x5 ha hb4 HX
  obtain ⟨E, hE⟩ : ∃ E, chkI (k1, r1, v1) = E := ⟨_, rfl⟩
  rw [hE]
  replace hE := Lib.hid hE
  go_upto_if 40 with fail
  go_cut [0, 10, 11, 12] from 41 to 63 (fun _ _ _ _ wx => Below w4.heap.size w4 wx)
  case first =>
    rcases bool_ways (mayI (k1, r1, v1)) with hm | hm
    · have h8 : E = 8 := by rw [← hE.out]; exact chkI_bad hm
      subst h8
      replace hm := Lib.hid hm
      go_wp2_with fail
      go_meet
      exact Below.refl _ _
    · have h0 : E = 0 := by rw [← hE.out]; exact chkI_ok hm
      subst h0
      have hwx := Lib.hid (show wrI (k1, r1, v1) = itB (k1, r1, v1) by simp [wrI, hm])
      obtain ⟨q0, q1, q2, q3⟩ := itB_read (k1, r1, v1) p IX.out hm
      have h12 := (mayI_of hm).2
      have hlx : la = 12 + n1 := by rw [← hla.out, hwx.out, itB_length, ← hn1.out]
      have hla9 : la ≤ 10024 := by omega
      rw [← hwx.out] at q0 q1 q2 q3
      rw [hla.out] at q2
      have q1' := Lib.hid q1
      have q2' := Lib.hid q2
      have q3' := Lib.hid q3
      replace hm := Lib.hid hm
      replace hlx := Lib.hid hlx
      clear q0 q1 q2 q3 h12
      have hown0 : w4.ownsRow w4.heap.size 5 1 (.slice none 0 0) 0 (u8s []) := World.ownsRow_nil _ _ _ _
      obtain ⟨v5, w5, hr5, o5, b5⟩ := app_own_byt (.slice none 0 0) 0 la tc [] (wrI (k1, r1, v1)) T w4.heap.size w4 hown0 (byt_of (HG.out.at 0 rfl : rBy (Old w4) w4 [.slice T la tc] _)) hla.out (by omega) (Nat.le_refl _)
      have HG5 := HG.out.below b5
      obtain ⟨v6, w6, hr6, o6, b6⟩ := app_own_byt v5 (0 + la) np cp _ p P w4.heap.size w5 o5 (byt_of (HG5.at 3 rfl : rBy (Old w5) w5 [.slice P np cp] p)) hnp.out (by omega) b5.size
      rw [List.nil_append] at o6
      have hy6 := Lib.hid (stab_by.drop (own_by o6))
      have B6 := Lib.hid (b5.trans b6)
      have HG6 := Lib.hid (HG.out.below B6.out)
      have H5 := Lib.hid hr5
      have H6 := Lib.hid hr6
      clear hr5 hr6 o5 o6 b5 b6 hown0 HG5
      go_wp2_with (first
        | (at_builtin; refine wpList_append_run rfl _ _ _ rfl rfl rfl H5.out ?_; clear H5)
        | (at_builtin; refine wpList_append_run rfl _ _ _ rfl rfl rfl H6.out ?_; clear H6))
      with_reducible refine (itRead_any _ _ _ hy6.out).mono ?_
      rintro e7 w7 ⟨u7, rfl, hu7, hb7⟩
      rw [q2'.out, q3'.out]
      rw [q1'.out] at hu7
      obtain ⟨D, dc, rfl, _⟩ := id hu7.open
      obtain ⟨w8, hw8, HG8, hb8, _, s8⟩ := bag_item ((HG6.out.below hb7).add (F := OldI _ _) hu7.drop (lasts_oldI _ _)) (Below.refl _ _) (.int .u8 (k1.1.toNat : Int)) (.int .u32 k1.2.1) (.int .u32 k1.2.2) (.int .i64 r1) (.slice D v1.length dc)
      have HG9 := Lib.hid HG8
      have B8 := Lib.hid ((B6.out.trans (hb7.mono B6.out.size)).trans (hb8.mono (B6.out.trans (hb7.mono B6.out.size)).size))
      clear hu7 hb7 HG8 hb8 s8
      unfold itV at *
      dsimp only at *
      obtain ⟨z1, z2, z3, z4, z5, _⟩ := HG9.out.at 0 rfl
      obtain ⟨x1, x2, x3, x4, x5, _⟩ := HG9.out.at 3 rfl
      have HR : Hid (Itm (Old w8) w8 _ (k1, r1, v1)) := Lib.hid (HG9.out.at 1 rfl)
      have HX : Hid (Itm (Old w8) w8 _ (k1, r1, v1)) := Lib.hid (HG9.out.at 6 rfl)
      have t9 : ((la : Int) != la) = false := by simp
      go_upto_region 7 with fail
      clear hw8
      go_wp2_with fail
      with_reducible refine (sameI_any _ _ _ _ _ HR.out HX.out).mono ?_
      rintro e9 w9 ⟨rfl, hb9⟩
      rw [sameI_self]
      have B9 := Lib.hid (B8.out.trans (hb9.mono B8.out.size))
      clear hb9
      go_wp2_with fail
      go_meet
      exact B9.out
  case rest =>
  obtain ⟨w5, rfl⟩ : ∃ w5 : World, w5 = wc := ⟨_, rfl⟩
  replace HG := Lib.hid (HG.out.below hcut)
  replace BB := Lib.hid (BB.out.trans (hcut.mono BB.out.size))
  clear hcut
  have HQ : Hid (rBy (Old w5) w5 [.slice Q nb cb] b) := Lib.hid (HG.out.at 2 rfl)
  go_wp2_with fail
  with_reducible refine (itRead_any _ b _ HQ.out).mono ?_
  rintro e7 w7 ⟨u7, rfl, hu7, hb7⟩
  obtain ⟨D, dc, rfl, _⟩ := id hu7.open
  obtain ⟨w8, hw8, HG8, hb8, _, s8⟩ := bag_item ((HG.out.below hb7).add (F := OldI _ _) hu7.drop (lasts_oldI _ _)) (Below.refl _ _) (.int .u8 ((itR b).1.1.toNat : Int)) (.int .u32 (itR b).1.2.1) (.int .u32 (itR b).1.2.2) (.int .i64 (itR b).2.1) (.slice D (itR b).2.2.length dc)
  replace HG := Lib.hid HG8
  replace BB := Lib.hid ((BB.out.trans (hb7.mono BB.out.size)).trans (hb8.mono (BB.out.trans (hb7.mono BB.out.size)).size))
  clear hu7 hb7 HG8 hb8 s8
  obtain ⟨s, hs⟩ : ∃ s, itR b = s := ⟨_, rfl⟩
  obtain ⟨N, hN⟩ : ∃ N, itN b = N := ⟨_, rfl⟩
  obtain ⟨F, hF⟩ : ∃ F, itE b = F := ⟨_, rfl⟩
  rw [hs] at HG hw8 ⊢
  rw [hN, hF]
  replace hs := Lib.hid hs
  replace hN := Lib.hid hN
  replace hF := Lib.hid hF
  unfold itV at *
  go_upto_region 10 with fail
  clear hw8
  obtain ⟨z1, z2, z3, z4, z5, _⟩ := HG.out.at 0 rfl
  rcases bool_ways (okR b) with hok | hok
  · obtain ⟨f1, f2, f3⟩ := read_no hok
    rw [hF.out] at f1
    rw [hN.out] at f2
    rw [hs.out] at f3
    subst f1
    subst f2
    subst f3
    replace hok := Lib.hid hok
    have HR : Hid (Itm (Old w8) w8 _ zeroI) := Lib.hid (HG.out.at 1 rfl)
    have HZ := Lib.hid (itm_zero (Old w8) w8)
    go_wp2_with fail
    with_reducible refine (sameI_any _ _ _ _ _ HR.out HZ.out).mono ?_
    rintro e9 w9 ⟨rfl, hb9⟩
    rw [sameI_self]
    have B9 := Lib.hid (BB.out.trans (hb9.mono BB.out.size))
    clear hb9
    go_wp2_with fail
    go_ret
    exact ⟨rfl, B9.out⟩
  · obtain ⟨m, hm1, hm2, hm3, hm4⟩ := read_itB hok
    have f1 : F = 0 := by rw [← hF.out]; simp [itE, hok]
    rw [hN.out] at hm1
    rw [hs.out] at hm3 hm4
    subst f1
    subst hm1
    have hck := Lib.hid (chkI_ok hm3)
    have hwr := Lib.hid (show wrI s = b.take m by simp [wrI, hm3, hm4])
    replace hok := Lib.hid hok
    replace hm3 := Lib.hid hm3
    replace hm4 := Lib.hid hm4
    rw [hnb.out] at hm2
    have HR : Hid (Itm (Old w8) w8 _ s) := Lib.hid (HG.out.at 1 rfl)
    go_wp2_with fail
    with_reducible refine (itWrite_any _ s _ HR.out).mono ?_
    rintro e9 w9 ⟨u9, rfl, hu9, hb9⟩
    rw [hck.out]
    rw [hwr.out] at hu9
    have hnb0 : 0 < nb := by
      have := okC_yes (okR_fields hok.out).1
      rw [hnb.out] at this
      omega
    replace HG := Lib.hid (HG.out.below hb9)
    replace BB := Lib.hid (BB.out.trans (hb9.mono BB.out.size))
    have HQ9 : rBy (Old w9) w9 [.slice Q nb cb] b := HG.out.at 4 rfl
    obtain ⟨⟨qa, rfl⟩, lqc, lqm⟩ := rBy_some HQ9 hnb0
    have hq9 := rBy_take HQ9 m (by rw [hnb.out]; exact hm2)
    have hu9' := stab_by.drop hu9
    obtain ⟨L, hL⟩ : ∃ L, b.take m = L := ⟨_, rfl⟩
    rw [hL] at hq9 hu9'
    obtain ⟨T9, t9, rfl, _⟩ := id (rBy_open hu9')
    obtain ⟨lu, hlu⟩ : ∃ n, L.length = n := ⟨_, rfl⟩
    rw [hlu] at hu9' ⊢
    have HA : Hid (∀ W', Below w9.heap.size w9 W' → rBy (Old W') W' [.slice T9 lu t9] L) := Lib.hid fun W' hW => stab_by.old hu9' hW
    have HBB : Hid (∀ W', Below w9.heap.size w9 W' → rBy (Old W') W' [.slice (some qa) m cb] L) := Lib.hid fun W' hW => stab_by.old hq9 hW
    have BB2 : Hid (Below w.heap.size w w9) := BB
    have c1 : (0 : Int) ≤ m := by omega
    have c2 : (m : Int) ≤ cb := by omega
    have c3 : (m : Int) ≤ nb := by omega
    have c4 : (L == L) = true := by simp
    replace hL := Lib.hid hL
    replace hlu := Lib.hid hlu
    clear HG hb9 hu9 hq9 hu9' HQ9 z1 z2 z3 z4 z5 HR HQ
    go_upto_region 13 with fail
    refine wp_region_as (by kernel_rfl) (fun W' => Below w9.heap.size w9 W') (fun _ => none) (by kernel_rfl) (Below.refl _ _).drew (fun w w' h hb => h.trans (hb.mono h.size)) (fun j φ x w w' hp => by cases hp) ?_
    repeat (first
      | (refine wpAs_skip rfl ?_; simp only [Act.put, List.setIfInBounds_toArray, List.set_cons_zero, List.set_cons_succ])
      | (refine wpAs_pure (v := ?_) rfl rfl ?_ ?_; rotate_left; (intro W hC hE; clear hE; skip; clear hC; go_simp; done); simp only [Act.put, List.setIfInBounds_toArray, List.set_cons_zero, List.set_cons_succ])
      | (refine wpAs_pure (v := ?_) rfl rfl ?_ ?_; rotate_left; (intro W hC hE; clear hE; skip; clear hC; go_simp; with_reducible rfl); simp only [Act.put, List.setIfInBounds_toArray, List.set_cons_zero, List.set_cons_succ]))
    refine wpAs_pure (v := .string ⟨(L).toArray⟩) rfl rfl ?_ ?_
    · intro W hC hE
      have h : rBy (Old W) W [.slice T9 lu t9] (L) := HA.out W hC
      have hs := rBy_str0 h
      clear h hC hE
      refine run_convert_op (v := .slice T9 lu t9) _ _ _ rfl ?_ hs
      first | rfl | (simp; done) | (go_simp; done)
    simp only [Act.put, List.setIfInBounds_toArray, List.set_cons_zero, List.set_cons_succ]
    repeat (first
      | (refine wpAs_skip rfl ?_; simp only [Act.put, List.setIfInBounds_toArray, List.set_cons_zero, List.set_cons_succ])
      | (refine wpAs_pure (v := ?_) rfl rfl ?_ ?_; rotate_left; (intro W hC hE; clear hE; skip; clear hC; go_simp; done); simp only [Act.put, List.setIfInBounds_toArray, List.set_cons_zero, List.set_cons_succ])
      | (refine wpAs_pure (v := ?_) rfl rfl ?_ ?_; rotate_left; (intro W hC hE; clear hE; skip; clear hC; go_simp; with_reducible rfl); simp only [Act.put, List.setIfInBounds_toArray, List.set_cons_zero, List.set_cons_succ]))
    refine wpAs_pure (v := .string ⟨(L).toArray⟩) rfl rfl ?_ ?_
    · intro W hC hE
      have h : rBy (Old W) W [.slice (some qa) m cb] (L) := HBB.out W hC
      have hs := rBy_str0 h
      clear h hC hE
      refine run_convert_op (v := .slice (some qa) m cb) _ _ _ rfl ?_ hs
      first | rfl | (simp; done) | (go_simp; done)
    simp only [Act.put, List.setIfInBounds_toArray, List.set_cons_zero, List.set_cons_succ]
    repeat (first
      | (refine wpAs_skip rfl ?_; simp only [Act.put, List.setIfInBounds_toArray, List.set_cons_zero, List.set_cons_succ])
      | (refine wpAs_pure (v := ?_) rfl rfl ?_ ?_; rotate_left; (intro W hC hE; clear hE; skip; clear hC; go_simp; done); simp only [Act.put, List.setIfInBounds_toArray, List.set_cons_zero, List.set_cons_succ])
      | (refine wpAs_pure (v := ?_) rfl rfl ?_ ?_; rotate_left; (intro W hC hE; clear hE; skip; clear hC; go_simp; with_reducible rfl); simp only [Act.put, List.setIfInBounds_toArray, List.set_cons_zero, List.set_cons_succ]))
    refine wpAs_end fun W hC hE => ?_
    clear hE
    go_wp2
    go_ret
    exact ⟨rfl, BB2.out.trans (hC.mono BB2.out.size)⟩

/-! ### The row's step -/
set_option maxRecDepth 100000 in
theorem lifted (os : Os) (started : os.Started) (H : Type) (enc : TypeId × Value → H) :
    ReturnsInHanded {} Try.checked os 6 .any (Rows.itemBackSpec.pre6 enc Try.prog Try.f6 Rows.itemBackRow.domain false) (Rows.itemBackSpec.post enc Try.prog Try.f6 false true false false) := by
  refine returnsInHanded_of_change (C := Try.checked) own started (by kernel_rfl) Try.func6
    (ChangeSpec.witness6 (enc := enc) (C := Try.checked) false ⟨#[], #[.agg #[.int .u8 0, .int .u32 0, .int .u32 0, .int .i64 0, .slice none 0 0], .slice none 0 0, .slice none 0 0], []⟩ 8 (by kernel_rfl) (by kernel_rfl) (by kernel_rfl) (by kernel_rfl)) ?_
  intro W base args ds gs before hval0 hW _ _
  have hval : ∀ (j : Nat) t v, Try.f6.params[j]? = some t → args[j]? = some v → Value.okWide Try.prog W .any base t v := hval0
  have hW' := hW
  obtain ⟨p, q, hA0, hV, _, _, _⟩ := hW
  have hA : DataW.TrodAll enc Try.prog W 0 (fun _ => true) true Try.f6.params.toList args.toList ds p := hA0
  rw [Try.params6] at hA hval
  obtain ⟨v0, vs0, d0, ds0, p0, q0, hargs, rfl, _, h0, r0⟩ := trodAll_cons hA
  obtain ⟨v1, vs1, d1, ds1, p1, q1, rfl, rfl, _, h1, r1⟩ := trodAll_cons r0
  obtain ⟨v2, vs2, d2, ds2, p2, q2, rfl, rfl, _, h2, r2⟩ := trodAll_cons r1
  obtain ⟨rfl, rfl, _⟩ := trodAll_nil r2
  obtain rfl : args = #[v0, v1, v2] := by cases args; simp_all
  obtain ⟨rfl, _⟩ := trodVars_none hV
  obtain ⟨d0x, y0⟩ := open_item (hval 0 27 v0 rfl rfl) h0
  obtain ⟨A1, n1, c1, x1, rfl, l1, m1, b1, y1⟩ := open_bytes Try.underlying25 Try.underlying5 (by kernel_rfl) (hval 1 25 v1 rfl rfl) h1
  obtain ⟨A2, n2, c2, x2, rfl, l2, m2, b2, y2⟩ := open_bytes Try.underlying25 Try.underlying5 (by kernel_rfl) (hval 2 25 v2 rfl rfl) h2
  clear hA0 hval0
  refine (walk v0 d0x A1 n1 c1 x1 y1 l1 m1 A2 n2 c2 x2 y2 l2 m2 W y0 b1 b2).mono fun e W' ⟨he, hb⟩ => ?_
  subst he
  exact ⟨_, rfl, law_post laidOut (by rw [Try.params6]; decide +kernel) (by kernel_rfl) Try.underlying4 rfl ⟨rfl, by simp [Rows.itemBackSpec], rfl⟩ hW' hb⟩

theorem over : Rows.itemBackRow.holds Try.pinned (OpenSpec.ofChange Rows.itemBackSpec) :=
  OpenClaim.holds_of_wide 6 Try.f6 rfl rfl rfl rfl rfl rfl rfl ⟨rfl, rfl, rfl, rfl, rfl⟩ rfl rfl rfl rfl rfl (by kernel_rfl) Try.func6 (by kernel_rfl)
    (of_decide_eq_true (by kernel_rfl)) (by unfold Func.isWrapper; first | (rw [if_pos (by decide +kernel)]; kernel_rfl) | (rw [if_neg (by decide +kernel)]; exact ⟨rfl, rfl⟩))
    (fun os started H enc _ => lifted os started H enc)

end Go.Proofs.Ytmefejbbnfgbeaa.itemBack
namespace Go.Proofs.Ytmefejbbnfgbeaa
theorem itemBack_proved : Rows.ItemBackSaid := itemBack.over
end Go.Proofs.Ytmefejbbnfgbeaa
