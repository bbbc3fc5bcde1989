/-
  For every two items ItemTwins answers true and leaves its arguments as they were. No condition.
-/
import Derived.Test.YtmefejbbnfgbeaaBnd2
import Derived.StillTailTactics
import Derived.Deep.CutBlock
import Derived.Deep.CutRange
namespace Go.Proofs.Ytmefejbbnfgbeaa.itemTwins
open Go.ChangeShapes Go.WideShapes Go.RowKit

theorem own : ownKnob Try.prog.godebug = none := by kernel_rfl
theorem laidOut : laidOutB Try.prog = true := by kernel_rfl

theorem two_boxes (w : World) (a b c a' b' c' : Value) (t : TypeId) : Box3 w.heap.size a b c ((w.alloc (.cells #[a, b, c] t)).alloc (.cells #[a', b', c'] t)).drew ∧ Box3 (w.heap.size + 1) a' b' c' ((w.alloc (.cells #[a, b, c] t)).alloc (.cells #[a', b', c'] t)).drew ∧ Below w.heap.size w ((w.alloc (.cells #[a, b, c] t)).alloc (.cells #[a', b', c'] t)).drew := by
  obtain ⟨w1, e1, f1, f2, f3, f4, f5, _⟩ := box_three w a b c t
  rw [e1]
  obtain ⟨w2, e2, g1, g2, g3, g4, g5, _⟩ := box_three w1 a' b' c' t
  rw [e2]
  have lt : w.heap.size < w1.heap.size := by omega
  rw [f4] at g1 g2 g3
  exact ⟨⟨(g5.cell (p := ⟨w.heap.size, 0, none⟩) lt).trans f1, (g5.cell (p := ⟨w.heap.size, 1, none⟩) lt).trans f2, (g5.cell (p := ⟨w.heap.size, 2, none⟩) lt).trans f3, by show w.heap.size < w2.heap.size; omega⟩, ⟨g1, g2, g3, by show w.heap.size + 1 < w2.heap.size; omega⟩, (f5.trans (g5.mono f5.size)).drew⟩
theorem three_ways {a b : Int} : a < b ∨ a = b ∨ b < a := by omega
set_option maxRecDepth 100000 in
set_option maxHeartbeats 8000000 in
theorem walk (v : Value) (x : It) (u : Value) (y : It) (w : World) (hv : Itm (Old w) w v x) (hu : Itm (Old w) w u y) :
    Calls Try.prog 8 #[v, u] w fun e w' => e = .returned (.bool true) ∧ Below w.heap.size w w' := by
  obtain ⟨A, c, rfl, ix, l1, m1, _⟩ := hv.open
  obtain ⟨B, d, rfl, iy, l2, m2, _⟩ := hu.open
  obtain ⟨⟨k1, i1, o1⟩, r1, v1⟩ := x
  obtain ⟨⟨k2, i2, o2⟩, r2, v2⟩ := y
  have G0 := ((Bag.nil w).add (F := OldI _ _) hv (lasts_oldI _ _)).add (F := OldI _ _) hu (lasts_oldI _ _)
  obtain ⟨w1, hw1, G1, B1, _, s1⟩ := bag_item G0 (Below.refl _ _) (.int .u8 (k1.toNat : Int)) (.int .u32 i1) (.int .u32 o1) (.int .i64 r1) (.slice A v1.length c)
  obtain ⟨w2, hw2, G2, B2, _, s2⟩ := bag_item G1 (Below.refl _ _) (.int .u8 (k2.toNat : Int)) (.int .u32 i2) (.int .u32 o2) (.int .i64 r2) (.slice B v2.length d)
  have BB := Lib.hid (B1.trans (B2.mono B1.size))
  have HG := Lib.hid G2
  have HP := Lib.hid (same_parts k1 k2 i1 i2 o1 o2 r1 r2 v1 v2)
  have HL := Lib.hid (less_ways (k1, i1, o1) (k2, i2, o2))
  have hanti : Hid (lessK (k1, i1, o1) (k2, i2, o2) = true → lessK (k2, i2, o2) (k1, i1, o1) = false) := Lib.hid less_anti
  have hcomm := Lib.hid (sameI_comm ((k2, i2, o2), r2, v2) ((k1, i1, o1), r1, v1))
  have hself := Lib.hid (sameI_self ((k1, i1, o1), r1, v1))
  replace hw2 := Lib.hid hw2
  unfold itV at *
  dsimp only at *
  clear G0 G1 G2 B1 B2 s1 s2 hv hu ix iy
  go_enter Try.func8, Try.ntmps8
  go_upto_region 1 with fail
  rw [hw2.out]
  clear hw1 hw2
  go_wp2_with fail
  with_reducible refine (alive5 _).mono ?_
  rintro e3 w3 ⟨rfl, hb3⟩
  replace HG := Lib.hid (HG.out.below hb3)
  replace BB := Lib.hid (BB.out.trans (hb3.mono BB.out.size))
  clear hb3
  obtain ⟨n1, hn1⟩ : ∃ n, v1.length = n := ⟨_, rfl⟩
  obtain ⟨n2, hn2⟩ : ∃ n, v2.length = n := ⟨_, rfl⟩
  rw [hn1] at l1 HG ⊢
  rw [hn2] at l2 HG ⊢
  obtain ⟨x1, x2, x3, x4, x5, _⟩ := HG.out.at 1 rfl
  obtain ⟨y1, y2, y3, y4, y5, _⟩ := HG.out.at 0 rfl
  by_cases b1 : 10000 < n1
  · have j1 : (10000 : Int) < n1 := by omega
    replace hn1 := Lib.hid hn1
    replace hn2 := Lib.hid hn2
    go_wp2_with fail
    go_ret
    exact ⟨rfl, BB.out⟩
  by_cases b2 : 10000 < n2
  · have j1 : ¬ (10000 : Int) < n1 := by omega
    have j2 : (10000 : Int) < n2 := by omega
    replace hn1 := Lib.hid hn1
    replace hn2 := Lib.hid hn2
    go_wp2_with fail
    go_ret
    exact ⟨rfl, BB.out⟩
  have j1 : ¬ (10000 : Int) < n1 := by omega
  have j2 : ¬ (10000 : Int) < n2 := by omega
  replace hn1 := Lib.hid hn1
  replace hn2 := Lib.hid hn2
  have HX : Hid (Itm (Old w3) w3 _ ((k1, i1, o1), r1, v1)) := Lib.hid (HG.out.at 3 rfl)
  go_wp2_with fail
  with_reducible refine (twinI_any _ ((k1, i1, o1), r1, v1) _ (by show v1.length ≤ _; rw [hn1.out]; omega) HX.out).mono ?_
  rintro e4 w4 ⟨t, rfl, ht, hb4⟩
  obtain ⟨T, tc, rfl, _⟩ := id ht.open
  have HG4 := (HG.out.below hb4).add (F := OldI _ _) ht.drop (lasts_oldI _ _)
  obtain ⟨w5, hw5, HG5, hb5, _, s5⟩ := bag_item HG4 (Below.refl _ _) (.int .u8 (k1.toNat : Int)) (.int .u32 i1) (.int .u32 o1) (.int .i64 r1) (.slice T v1.length tc)
  replace HG := Lib.hid HG5
  replace BB := Lib.hid (BB.out.trans ((hb4.trans (hb5.mono hb4.size)).mono BB.out.size))
  clear x1 x2 x3 x4 x5 y1 y2 y3 y4 y5 ht HG4 HG5 hb4 hb5 s5 HX
  unfold itV at *
  dsimp only at *
  go_upto_region 5 with fail
  clear hw5
  go_cut [0, 1, 7] (fun _ _ p wc => p = .bool (sameI ((k1, i1, o1), r1, v1) ((k2, i2, o2), r2, v2)) ∧ wc = w5)
  case first =>
    obtain ⟨x1, x2, x3, x4, x5, _⟩ := HG.out.at 3 rfl
    obtain ⟨y1, y2, y3, y4, y5, _⟩ := HG.out.at 2 rfl
    obtain ⟨_, ee, _, hrx⟩ : Itm (Old w5) w5 _ _ := HG.out.at 5 rfl
    cases ee
    obtain ⟨_, ee, _, hry⟩ : Itm (Old w5) w5 _ _ := HG.out.at 4 rfl
    cases ee
    have hs1 := rBy_str0 hrx
    have hs2 := rBy_str0 hry
    clear hrx hry HL hanti hcomm hself
    obtain ⟨res, hres⟩ : ∃ res, sameI ((k1, i1, o1), r1, v1) ((k2, i2, o2), r2, v2) = res := ⟨_, rfl⟩
    rw [hres] at HP
    generalize (k1.toNat : Int) = p at *
    generalize (k2.toNat : Int) = q at *
    replace hres := Lib.hid hres
    by_cases e1 : p = q
    case neg =>
      have t1 : (p == q) = false := by simpa using e1
      have hne := Lib.hid (show res = false by rw [HP.out]; simp [e1])
      go_wp2_with fail
      go_meet
      exact ⟨by rw [hres.out, hne.out], rfl⟩
    by_cases e2 : i1 = i2
    case neg =>
      have t1 : (p == q) = true := by simpa using e1
      have t2 : (i1 == i2) = false := by simpa using e2
      have hne := Lib.hid (show res = false by rw [HP.out]; simp [e2])
      go_wp2_with fail
      go_meet
      exact ⟨by rw [hres.out, hne.out], rfl⟩
    by_cases e3 : o1 = o2
    case neg =>
      have t1 : (p == q) = true := by simpa using e1
      have t2 : (i1 == i2) = true := by simpa using e2
      have t3 : (o1 == o2) = false := by simpa using e3
      have hne := Lib.hid (show res = false by rw [HP.out]; simp [e3])
      go_wp2_with fail
      go_meet
      exact ⟨by rw [hres.out, hne.out], rfl⟩
    by_cases e4 : r1 = r2
    case neg =>
      have t1 : (p == q) = true := by simpa using e1
      have t2 : (i1 == i2) = true := by simpa using e2
      have t3 : (o1 == o2) = true := by simpa using e3
      have t4 : (r1 == r2) = false := by simpa using e4
      have hne := Lib.hid (show res = false by rw [HP.out]; simp [e4])
      clear e4
      go_wp2_with fail
      go_meet
      exact ⟨by rw [hres.out, hne.out], rfl⟩
    have t4 : (r1 == r2) = true := by simpa using e4
    have hne := Lib.hid (show res = (v1 == v2) by rw [HP.out, beq_dec]; simp [e1, e2, e3, e4])
    clear e4
    go_wp2_with fail
    go_meet
    exact ⟨by rw [hres.out, hne.out], rfl⟩
  case rest =>
  obtain ⟨rfl, hwc⟩ := hcut
  subst hwc
  obtain ⟨z1, z2, z3, z4, z5, _⟩ := HG.out.at 0 rfl
  obtain ⟨y1, y2, y3, y4, y5, _⟩ := HG.out.at 2 rfl
  obtain ⟨x1, x2, x3, x4, x5, _⟩ := HG.out.at 3 rfl
  have HT : Hid (Itm (Old wc) wc _ ((k1, i1, o1), r1, v1)) := Lib.hid (HG.out.at 1 rfl)
  have HX : Hid (Itm (Old wc) wc _ ((k1, i1, o1), r1, v1)) := Lib.hid (HG.out.at 5 rfl)
  go_wp2_with fail
  with_reducible refine (sameI_any _ _ _ _ _ HT.out HX.out).mono ?_
  rintro e6 w6 ⟨rfl, hb6⟩
  rw [hself.out]
  replace HG := Lib.hid (HG.out.below hb6)
  replace BB := Lib.hid (BB.out.trans (hb6.mono BB.out.size))
  clear hb6 x1 x2 x3 x4 x5 y1 y2 y3 y4 y5 z1 z2 z3 z4 z5 HT HX
  obtain ⟨y1, y2, y3, y4, y5, _⟩ := HG.out.at 2 rfl
  obtain ⟨x1, x2, x3, x4, x5, _⟩ := HG.out.at 3 rfl
  have HX : Hid (Itm (Old w6) w6 _ ((k1, i1, o1), r1, v1)) := Lib.hid (HG.out.at 5 rfl)
  have HY : Hid (Itm (Old w6) w6 _ ((k2, i2, o2), r2, v2)) := Lib.hid (HG.out.at 4 rfl)
  go_wp2_with fail
  with_reducible refine (sameI_any _ _ _ _ _ HX.out HY.out).mono ?_
  rintro e7 w7 ⟨rfl, hb7⟩
  obtain ⟨res, hres⟩ : ∃ res, sameI ((k1, i1, o1), r1, v1) ((k2, i2, o2), r2, v2) = res := ⟨_, rfl⟩
  rw [hres] at hcomm ⊢
  replace hres := Lib.hid hres
  replace HG := Lib.hid (HG.out.below hb7)
  replace BB := Lib.hid (BB.out.trans (hb7.mono BB.out.size))
  clear hb7 x1 x2 x3 x4 x5 y1 y2 y3 y4 y5 HX HY
  obtain ⟨y1, y2, y3, y4, y5, _⟩ := HG.out.at 2 rfl
  obtain ⟨x1, x2, x3, x4, x5, _⟩ := HG.out.at 3 rfl
  have HX : Hid (Itm (Old w7) w7 _ ((k1, i1, o1), r1, v1)) := Lib.hid (HG.out.at 5 rfl)
  have HY : Hid (Itm (Old w7) w7 _ ((k2, i2, o2), r2, v2)) := Lib.hid (HG.out.at 4 rfl)
  have q1 : (res != res) = false := by simp
  go_wp2_with fail
  with_reducible refine (sameI_any _ _ _ _ _ HY.out HX.out).mono ?_
  rintro e8 w8 ⟨rfl, hb8⟩
  rw [hcomm.out]
  replace HG := Lib.hid (HG.out.below hb8)
  replace BB := Lib.hid (BB.out.trans (hb8.mono BB.out.size))
  clear hb8 x1 x2 x3 x4 x5 y1 y2 y3 y4 y5 HX HY
  go_upto_region 8 with fail
  obtain ⟨y1, y2, y3, y4, y5, _⟩ := HG.out.at 2 rfl
  obtain ⟨x1, x2, x3, x4, x5, _⟩ := HG.out.at 3 rfl
  go_cut [0, 1, 8, 9] (fun _ _ pa pb wx => ∃ g h, pa = .pointer (some ⟨g, 0, none⟩) ∧ pb = .pointer (some ⟨h, 0, none⟩) ∧ Box3 g (.int .u8 (k1.toNat : Int)) (.int .u32 i1) (.int .u32 o1) wx ∧ Box3 h (.int .u8 (k2.toNat : Int)) (.int .u32 i2) (.int .u32 o2) wx ∧ Below w8.heap.size w8 wx)
  case first =>
    go_region
    all_goals (go_wp2_with fail; go_meet)
    · have tb := two_boxes w8 (.int .u8 (k1.toNat : Int)) (.int .u32 i1) (.int .u32 o1) (.int .u8 (k2.toNat : Int)) (.int .u32 i2) (.int .u32 o2) 24
      exact ⟨_, _, rfl, rfl, tb.1, tb.2.1, tb.2.2⟩
    · have tb := two_boxes w8 (.int .u8 (k2.toNat : Int)) (.int .u32 i2) (.int .u32 o2) (.int .u8 (k1.toNat : Int)) (.int .u32 i1) (.int .u32 o1) 24
      exact ⟨_, _, rfl, rfl, tb.2.1, tb.1, tb.2.2⟩
  case rest =>
  obtain ⟨g, h, rfl, rfl, bg, bh, hb9⟩ := hcut
  obtain ⟨w9, rfl⟩ : ∃ w9 : World, w9 = wc := ⟨_, rfl⟩
  replace BB := Lib.hid (BB.out.trans (hb9.mono BB.out.size))
  have HG9 := Lib.hid (((Bag.nil w9).add (F := Box3 g _ _ _) bg (lasts_box3 _ _ _ _)).add (F := Box3 h _ _ _) bh (lasts_box3 _ _ _ _))
  clear HG bg bh hb9 x1 x2 x3 x4 x5 y1 y2 y3 y4 y5
  obtain ⟨x1, x2, x3, _⟩ := HG9.out.at 1 rfl
  obtain ⟨y1, y2, y3, _⟩ := HG9.out.at 0 rfl
  obtain ⟨les, hles⟩ : ∃ les, lessK (k1, i1, o1) (k2, i2, o2) = les := ⟨_, rfl⟩
  rw [hles] at HL hanti
  replace hles := Lib.hid hles
  go_upto_region 9 with fail
  go_cut [10] (fun l wx => l = .bool les ∧ wx = w9)
  case first =>
    generalize (k1.toNat : Int) = p at *
    generalize (k2.toNat : Int) = q at *
    rcases three_ways (a := p) (b := q) with h1 | h1 | h1
    · have hr := Lib.hid (show les = true by rw [HL.out, if_pos (by omega)]; simpa using h1)
      go_wp2_with fail
      go_meet
      exact ⟨by rw [hr.out], rfl⟩
    · rcases three_ways (a := i1) (b := i2) with h2 | h2 | h2
      · have hr := Lib.hid (show les = true by rw [HL.out, if_neg (by omega), if_pos (by omega)]; simpa using h2)
        have t1 : ¬ p < q := by omega
        have t2 : (p == q) = true := by simpa using h1
        go_wp2_with fail
        go_meet
        exact ⟨by rw [hr.out], rfl⟩
      · have hr := Lib.hid (show les = decide (o1 < o2) by rw [HL.out, if_neg (by omega), if_neg (by omega)])
        have t1 : ¬ p < q := by omega
        have t2 : (p == q) = true := by simpa using h1
        have t3 : ¬ i1 < i2 := by omega
        have t4 : (i1 == i2) = true := by simpa using h2
        go_wp2_with fail
        go_meet
        exact ⟨by rw [hr.out], rfl⟩
      · have hr := Lib.hid (show les = false by rw [HL.out, if_neg (by omega), if_pos (by omega)]; simp; omega)
        have t1 : ¬ p < q := by omega
        have t2 : (p == q) = true := by simpa using h1
        have t3 : ¬ i1 < i2 := by omega
        have t4 : (i1 == i2) = false := by simp; omega
        go_wp2_with fail
        go_meet
        exact ⟨by rw [hr.out], rfl⟩
    · have hr := Lib.hid (show les = false by rw [HL.out, if_pos (by omega)]; simp; omega)
      have t1 : ¬ p < q := by omega
      have t2 : (p == q) = false := by simp; omega
      go_wp2_with fail
      go_meet
      exact ⟨by rw [hr.out], rfl⟩
  case rest =>
  obtain ⟨rfl, rfl⟩ := hcut
  go_wp2_with fail
  with_reducible refine (less_any (k1, i1, o1) (k2, i2, o2) _).mono ?_
  rintro ea wa ⟨rfl, hba⟩
  rw [hles.out]
  replace HG9 := Lib.hid (HG9.out.below hba)
  replace BB := Lib.hid (BB.out.trans (hba.mono BB.out.size))
  clear x1 x2 x3 y1 y2 y3 hba
  obtain ⟨x1, x2, x3, _⟩ := HG9.out.at 1 rfl
  obtain ⟨y1, y2, y3, _⟩ := HG9.out.at 0 rfl
  clear HL
  cases les with
  | false =>
    go_wp2_with fail
    go_ret
    exact ⟨rfl, BB.out⟩
  | true =>
    have hba2 := hanti.out rfl
    go_wp2_with fail
    with_reducible refine (less_any (k2, i2, o2) (k1, i1, o1) _).mono ?_
    rintro eb wb ⟨rfl, hbb⟩
    rw [hba2]
    replace BB := Lib.hid (BB.out.trans (hbb.mono BB.out.size))
    clear hbb
    go_wp2_with fail
    go_ret
    exact ⟨rfl, BB.out⟩

/-! ### The row's step -/
set_option maxRecDepth 100000 in
theorem lifted (os : Os) (started : os.Started) (H : Type) (enc : TypeId × Value → H) :
    ReturnsInHanded {} Try.checked os 8 .any (Rows.itemTwinsSpec.pre6 enc Try.prog Try.f8 Rows.itemTwinsRow.domain false) (Rows.itemTwinsSpec.post enc Try.prog Try.f8 false true false false) := by
  refine returnsInHanded_of_change (C := Try.checked) own started (by kernel_rfl) Try.func8
    (ChangeSpec.witness6 (enc := enc) (C := Try.checked) false ⟨#[], #[.agg #[.int .u8 0, .int .u32 0, .int .u32 0, .int .i64 0, .slice none 0 0], .agg #[.int .u8 0, .int .u32 0, .int .u32 0, .int .i64 0, .slice none 0 0]], []⟩ 8 (by kernel_rfl) (by kernel_rfl) (by kernel_rfl) (by kernel_rfl)) ?_
  intro W base args ds gs before hval0 hW _ _
  have hval : ∀ (j : Nat) t v, Try.f8.params[j]? = some t → args[j]? = some v → Value.okWide Try.prog W .any base t v := hval0
  have hW' := hW
  obtain ⟨p, q, hA0, hV, _, _, _⟩ := hW
  have hA : DataW.TrodAll enc Try.prog W 0 (fun _ => true) true Try.f8.params.toList args.toList ds p := hA0
  rw [Try.params8] at hA hval
  obtain ⟨v0, vs0, d0, ds0, p0, q0, hargs, rfl, _, h0, r0⟩ := trodAll_cons hA
  obtain ⟨v1, vs1, d1, ds1, p1, q1, rfl, rfl, _, h1, r1⟩ := trodAll_cons r0
  obtain ⟨rfl, rfl, _⟩ := trodAll_nil r1
  obtain rfl : args = #[v0, v1] := by cases args; simp_all
  obtain ⟨rfl, _⟩ := trodVars_none hV
  obtain ⟨d0x, y0⟩ := open_item (hval 0 27 v0 rfl rfl) h0
  obtain ⟨d1x, y1⟩ := open_item (hval 1 27 v1 rfl rfl) h1
  clear hA0 hval0
  refine (walk v0 d0x v1 d1x W y0 y1).mono fun e W' ⟨he, hb⟩ => ?_
  subst he
  exact ⟨_, rfl, law_post laidOut (by rw [Try.params8]; decide +kernel) (by kernel_rfl) Try.underlying4 rfl ⟨rfl, by simp [Rows.itemTwinsSpec], rfl⟩ hW' hb⟩

theorem over : Rows.itemTwinsRow.holds Try.pinned (OpenSpec.ofChange Rows.itemTwinsSpec) :=
  OpenClaim.holds_of_wide 8 Try.f8 rfl rfl rfl rfl rfl rfl rfl ⟨rfl, rfl, rfl, rfl, rfl⟩ rfl rfl rfl rfl rfl (by kernel_rfl) Try.func8 (by kernel_rfl)
    (of_decide_eq_true (by kernel_rfl)) (by unfold Func.isWrapper; first | (rw [if_pos (by decide +kernel)]; kernel_rfl) | (rw [if_neg (by decide +kernel)]; exact ⟨rfl, rfl⟩))
    (fun os started H enc _ => lifted os started H enc)

end Go.Proofs.Ytmefejbbnfgbeaa.itemTwins
namespace Go.Proofs.Ytmefejbbnfgbeaa
theorem itemTwins_proved : Rows.ItemTwinsSaid := itemTwins.over
end Go.Proofs.Ytmefejbbnfgbeaa
