/-
  Lemmas on the program and on the document's answers, gathered: RmTake, RmSame, Get, SumSeal, Ref01, Ref02, RefBlk, Concat, Total02, RingWrite, RingRead, RmRef, RmShare, CntSide, CntRead, CntRef, CntChunk, CntWrite, CntRefW, StoZero, RmRefT, RmRefK, RingRead2, RingRead3, RefRead4, Bag04, Item, ItLess, ItCheck, ItSame, RefIt, ItWrite, ItRead. Conditions: those that each lemma states.
-/
import Derived.Test.YtjlbkcnhbndgbaaGreatBnd2
import Derived.Lib.Hide
import Derived.Lib.AppendZerosOnto
import Derived.Sort.QuietIn
import Derived.Sort.CutIn
import Derived.Deep.QuietTactic
import Derived.BigQuiet
/-
  Package room: Take. Conditions: those that each lemma states.
-/
namespace Go.Proofs.YtjlbkcnhbndgbaaGreat
open Go.RowKit

/-- A store in its box, and the result's behind it. -/
theorem box_sto2 {w : World} {v : Value} {s : Rm} (h : Sto (Old w) w v s) : ∃ A ca B cb N cn L cl w1, v = .agg #[.slice A s.1.1.length ca, .slice B s.1.2.length cb, .slice N s.2.1.length cn, .slice L s.2.2.length cl] ∧
    (w.alloc (.cells #[.slice A s.1.1.length ca, .slice B s.1.2.length cb, .slice N s.2.1.length cn, .slice L s.2.2.length cl] 28)).alloc (.cells #[.slice none 0 0, .slice none 0 0, .slice none 0 0, .slice none 0 0] 28) = w1 ∧
    w1.heap[w.heap.size]? = some (.cells #[.slice A s.1.1.length ca, .slice B s.1.2.length cb, .slice N s.2.1.length cn, .slice L s.2.2.length cl] 28 (0, 0)) ∧ w1.heap[w.heap.size + 1]? = some (.cells #[.slice none 0 0, .slice none 0 0, .slice none 0 0, .slice none 0 0] 28 (0, 0)) ∧ w1.heap.size = w.heap.size + 2 ∧ Below w.heap.size w w1 ∧
    Hid (Sto (Old w1) w1 (.agg #[.slice A s.1.1.length ca, .slice B s.1.2.length cb, .slice N s.2.1.length cn, .slice L s.2.2.length cl]) s) := by
  obtain ⟨A, ca, B, cb, N, cn, L, cl, rfl, _, _, _⟩ := h.open
  have hb : Below w.heap.size w ((w.alloc (.cells #[.slice A s.1.1.length ca, .slice B s.1.2.length cb, .slice N s.2.1.length cn, .slice L s.2.2.length cl] 28)).alloc (.cells #[.slice none 0 0, .slice none 0 0, .slice none 0 0, .slice none 0 0] 28)) := ((Below.refl _ w).alloc (Nat.le_refl _) _).alloc (by simp) _
  refine ⟨A, ca, B, cb, N, cn, L, cl, _, rfl, rfl, alloc_block (heap_alloc_new _ _), ?_, by simp, hb, Lib.hid (h.below hb)⟩
  have := heap_alloc_new (w.alloc (.cells #[.slice A s.1.1.length ca, .slice B s.1.2.length cb, .slice N s.2.1.length cn, .slice L s.2.2.length cl] 28)) (.cells #[.slice none 0 0, .slice none 0 0, .slice none 0 0, .slice none 0 0] 28)
  rwa [World.size_alloc] at this

theorem tk_write {s : Rm} {b : List UInt8} (hm : mayR s = true) (hb : b.length = 128) (hl : freeL s ≠ []) : (8 ≤ tkK s ∧ tkK s < 256 ∧ s.2.1[tkK s]?.getD 0 = 0 ∧ wErr s.1 (tkK s : Int) b = (if 4096 ≤ s.1.2.length then 9 else 0)) := by
  cases hf : freeL s with
  | nil => exact absurd hf hl
  | cons k m =>
    obtain ⟨h1, h2, h3, h4⟩ := free_in (s := s) (i := k) (by rw [hf]; exact List.mem_cons_self)
    have hk : tkK s = k := by simp [tkK, hf]
    rw [hk]
    refine ⟨h1, h2, h3, ?_⟩
    have hmd := (mayR_of hm).1
    have h5 := (may_of hmd).2.1
    have h6 : thereB (k : Int) = true := thereB_of h2
    by_cases h7 : 4096 ≤ s.1.2.length
    · have h8 : s.1.2.length = 4096 := by omega
      simp [wErr, hmd, h6, hb, h8]
    · have h8 : s.1.2.length ≠ 4096 := by omega
      simp [wErr, hmd, h6, hb, h8, h7]

set_option maxRecDepth 100000 in
set_option maxHeartbeats 4000000 in
theorem takeR_any (v u : Value) (s : Rm) (b : List UInt8) (w : World) (h : Sto (Old w) w v s) (hu : rBy (Old w) w [u] b) :
    Calls Tryz.prog 8 #[v, u] w fun e w' => ∃ t, e = .returned (.tuple #[t, .int .i64 (tkN s b), .int .i64 (tkE s b)]) ∧ Sto (New w.heap.size w') w' t (tkV s b) ∧ Below w.heap.size w w' := by
  obtain ⟨A, ca, B, cb, N, cn, L, cl, w1, rfl, hw1, f1, f2, hsz, hB, H⟩ := box_sto2 h
  obtain ⟨E, ce, rfl, _⟩ := id (rBy_open hu)
  have U := Lib.hid (stab_by.old hu hB)
  clear h hu
  obtain ⟨k0, k1, k2, k3, _, kg⟩ := four_cells f1
  replace hsz := Lib.hid hsz
  rcases tk_ways s b with ⟨hm, hE⟩ | ⟨hm, hlb, hE⟩ | ⟨hm, hlb, hfl, hE⟩ | ⟨hm, hlb, hfl, hfw, hE⟩ | ⟨hm, hlb, hfl, hfw, hE⟩
  · replace hE := Lib.hid hE
    have e1 := chkR_bad hm
    replace f2 := Lib.hid f2
    go_enter Tryz.func8, Tryz.ntmps8
    go_upto_region 1 with fail
    clear hw1
    go_wp2_with fail
    with_reducible refine (checkR_any _ s _ H.out).mono ?_
    rintro e w2 ⟨rfl, hb2⟩
    rw [e1]
    have F2 := (hb2.block (w.heap.size + 1) (by rw [hsz.out]; omega)).trans f2.out
    replace hb2 := Lib.hid (hB.trans (hb2.mono hB.size))
    obtain ⟨k0, k1, k2, k3, k4, k5⟩ := four_cells F2
    obtain ⟨W9, hW9, g9, gr9, gs9⟩ := put_four (a' := .slice none 0 0) (b' := .slice none 0 0) (c' := .slice none 0 0) (d' := .slice none 0 0) F2
    obtain ⟨n0, n1, n2, n3, _, _⟩ := four_cells g9
    have hB9 := Lib.hid ((hb2).out.grown gr9 (hb2).out.size (fun q e => by cases e; omega))
    replace g9 := Lib.hid g9
    replace F2 := Lib.hid F2
    clear gr9 gs9
    go_wp2_with fail
    refine bodyPost_ret (v := .tuple #[.agg #[.slice none 0 0, .slice none 0 0, .slice none 0 0, .slice none 0 0], .int .i64 0, .int .i64 8]) (by simp [results, Tryz.results8, go_sem, n0, n1, n2, n3]) rfl ?_
    obtain ⟨hN, hV⟩ := tk_no (s := s) (b := b) (by rw [hE.out]; decide)
    rw [hN, hV, hE.out]
    exact ⟨_, rfl, sto_empty _ _, hB9.out⟩
  · replace hE := Lib.hid hE
    have e1 := chkR_ok hm
    have e2 : ((b.length : Int) != 128) = true := by simp; omega
    replace f2 := Lib.hid f2
    go_enter Tryz.func8, Tryz.ntmps8
    go_upto_region 1 with fail
    clear hw1
    go_wp2_with fail
    with_reducible refine (checkR_any _ s _ H.out).mono ?_
    rintro e w2 ⟨rfl, hb2⟩
    rw [e1]
    have G2 := (hb2.block w.heap.size kg).trans f1
    obtain ⟨m0, m1, m2, m3, _, mg⟩ := four_cells G2
    have F2 := (hb2.block (w.heap.size + 1) (by rw [hsz.out]; omega)).trans f2.out
    have H2 := Lib.hid (H.out.below hb2)
    have U2 := Lib.hid (stab_by.old U.out hb2)
    have s2 : Hid (w.heap.size + 2 ≤ w2.heap.size) := Lib.hid (by have := hb2.size; have := hsz.out; omega)
    replace hb2 := Lib.hid (hB.trans (hb2.mono hB.size))
    replace G2 := Lib.hid G2
    replace F2 := Lib.hid F2
    clear k0 k1 k2 k3 kg f1 hB
    replace F2 := F2.out
    obtain ⟨k0, k1, k2, k3, k4, k5⟩ := four_cells F2
    obtain ⟨W9, hW9, g9, gr9, gs9⟩ := put_four (a' := .slice none 0 0) (b' := .slice none 0 0) (c' := .slice none 0 0) (d' := .slice none 0 0) F2
    obtain ⟨n0, n1, n2, n3, _, _⟩ := four_cells g9
    have hB9 := Lib.hid ((hb2).out.grown gr9 (hb2).out.size (fun q e => by cases e; omega))
    replace g9 := Lib.hid g9
    replace F2 := Lib.hid F2
    clear gr9 gs9
    go_wp2_with fail
    refine bodyPost_ret (v := .tuple #[.agg #[.slice none 0 0, .slice none 0 0, .slice none 0 0, .slice none 0 0], .int .i64 0, .int .i64 3]) (by simp [results, Tryz.results8, go_sem, n0, n1, n2, n3]) rfl ?_
    obtain ⟨hN, hV⟩ := tk_no (s := s) (b := b) (by rw [hE.out]; decide)
    rw [hN, hV, hE.out]
    exact ⟨_, rfl, sto_empty _ _, hB9.out⟩
  · replace hE := Lib.hid hE
    have e1 := chkR_ok hm
    have e2 : ((b.length : Int) != 128) = false := by rw [hlb]; rfl
    have hemp : (!(freeL s).isEmpty) = false := by rw [hfl]; rfl
    replace f2 := Lib.hid f2
    replace hlb := Lib.hid hlb
    replace hfl := Lib.hid hfl
    go_enter Tryz.func8, Tryz.ntmps8
    go_upto_region 1 with fail
    clear hw1
    go_wp2_with fail
    with_reducible refine (checkR_any _ s _ H.out).mono ?_
    rintro e w2 ⟨rfl, hb2⟩
    rw [e1]
    have G2 := (hb2.block w.heap.size kg).trans f1
    obtain ⟨m0, m1, m2, m3, _, mg⟩ := four_cells G2
    have F2 := (hb2.block (w.heap.size + 1) (by rw [hsz.out]; omega)).trans f2.out
    have H2 := Lib.hid (H.out.below hb2)
    have U2 := Lib.hid (stab_by.old U.out hb2)
    have s2 : Hid (w.heap.size + 2 ≤ w2.heap.size) := Lib.hid (by have := hb2.size; have := hsz.out; omega)
    replace hb2 := Lib.hid (hB.trans (hb2.mono hB.size))
    replace G2 := Lib.hid G2
    replace F2 := Lib.hid F2
    clear k0 k1 k2 k3 kg f1 hB
    go_wp2_with fail
    with_reducible refine (firstR_any _ s hm _ H2.out).mono ?_
    rintro e w3 ⟨rfl, hb3⟩
    rw [hemp]
    have G3 := (hb3.block w.heap.size mg).trans G2.out
    obtain ⟨k0, k1, k2, k3, _, kg⟩ := four_cells G3
    have F3 := (hb3.block (w.heap.size + 1) (by have := s2.out; omega)).trans F2.out
    have H3 := Lib.hid (H2.out.below hb3)
    have U3 := Lib.hid (stab_by.old U2.out hb3)
    have s3 : Hid (w.heap.size + 2 ≤ w3.heap.size) := Lib.hid (by have := hb3.size; have := s2.out; omega)
    replace hb3 := Lib.hid (hb2.out.trans (hb3.mono hb2.out.size))
    replace G3 := Lib.hid G3
    clear m0 m1 m2 m3 mg G2 F2 H2 U2 hb2
    obtain ⟨k0, k1, k2, k3, k4, k5⟩ := four_cells F3
    obtain ⟨W9, hW9, g9, gr9, gs9⟩ := put_four (a' := .slice none 0 0) (b' := .slice none 0 0) (c' := .slice none 0 0) (d' := .slice none 0 0) F3
    obtain ⟨n0, n1, n2, n3, _, _⟩ := four_cells g9
    have hB9 := Lib.hid ((hb3).out.grown gr9 (hb3).out.size (fun q e => by cases e; omega))
    replace g9 := Lib.hid g9
    replace F3 := Lib.hid F3
    clear gr9 gs9
    go_wp2_with fail
    refine bodyPost_ret (v := .tuple #[.agg #[.slice none 0 0, .slice none 0 0, .slice none 0 0, .slice none 0 0], .int .i64 0, .int .i64 9]) (by simp [results, Tryz.results8, go_sem, n0, n1, n2, n3]) rfl ?_
    obtain ⟨hN, hV⟩ := tk_no (s := s) (b := b) (by rw [hE.out]; decide)
    rw [hN, hV, hE.out]
    exact ⟨_, rfl, sto_empty _ _, hB9.out⟩
  · replace hE := Lib.hid hE
    have e1 := chkR_ok hm
    have e2 : ((b.length : Int) != 128) = false := by rw [hlb]; rfl
    have hemp : (!(freeL s).isEmpty) = true := by cases hq : freeL s with
      | nil => exact absurd hq hfl
      | cons k m => rfl
    obtain ⟨h8, h256, h0, hwe⟩ := tk_write hm hlb hfl
    rw [if_pos hfw] at hwe
    obtain ⟨k, hk⟩ : ∃ k, tkK s = k := ⟨_, rfl⟩
    obtain ⟨R, hR⟩ : ∃ R, wrR s.1 (k : Int) b = R := ⟨_, rfl⟩
    rw [hk] at h8 h256 hwe
    replace f2 := Lib.hid f2
    replace hlb := Lib.hid hlb
    replace hfl := Lib.hid hfl
    replace hk := Lib.hid hk
    replace hR := Lib.hid hR
    replace hwe := Lib.hid hwe
    go_enter Tryz.func8, Tryz.ntmps8
    go_upto_region 1 with fail
    clear hw1
    go_wp2_with fail
    with_reducible refine (checkR_any _ s _ H.out).mono ?_
    rintro e w2 ⟨rfl, hb2⟩
    rw [e1]
    have G2 := (hb2.block w.heap.size kg).trans f1
    obtain ⟨m0, m1, m2, m3, _, mg⟩ := four_cells G2
    have F2 := (hb2.block (w.heap.size + 1) (by rw [hsz.out]; omega)).trans f2.out
    have H2 := Lib.hid (H.out.below hb2)
    have U2 := Lib.hid (stab_by.old U.out hb2)
    have s2 : Hid (w.heap.size + 2 ≤ w2.heap.size) := Lib.hid (by have := hb2.size; have := hsz.out; omega)
    replace hb2 := Lib.hid (hB.trans (hb2.mono hB.size))
    replace G2 := Lib.hid G2
    replace F2 := Lib.hid F2
    clear k0 k1 k2 k3 kg f1 hB
    go_wp2_with fail
    with_reducible refine (firstR_any _ s hm _ H2.out).mono ?_
    rintro e w3 ⟨rfl, hb3⟩
    rw [hemp]
    have G3 := (hb3.block w.heap.size mg).trans G2.out
    obtain ⟨k0, k1, k2, k3, _, kg⟩ := four_cells G3
    have F3 := (hb3.block (w.heap.size + 1) (by have := s2.out; omega)).trans F2.out
    have H3 := Lib.hid (H2.out.below hb3)
    have U3 := Lib.hid (stab_by.old U2.out hb3)
    have s3 : Hid (w.heap.size + 2 ≤ w3.heap.size) := Lib.hid (by have := hb3.size; have := s2.out; omega)
    replace hb3 := Lib.hid (hb2.out.trans (hb3.mono hb2.out.size))
    replace G3 := Lib.hid G3
    clear m0 m1 m2 m3 mg G2 F2 H2 U2 hb2
    rw [hk.out]
    replace F3 := Lib.hid F3
    go_wp2_with fail
    with_reducible refine (write_new _ _ s.1 (k : Int) b _ H3.out.parts.1 U3.out).mono ?_
    rintro e w4 ⟨A4, c4, B4, d4, rfl, _, hb4⟩
    rw [hwe.out, hR.out]
    have F4 := (hb4.block (w.heap.size + 1) (by have := s3.out; omega)).trans F3.out
    obtain ⟨w5, hw5, g5, hs5, hb5⟩ := box_pair' w4 (.slice A4 R.1.length c4) (.slice B4 R.2.length d4) 25
    have F5 := (hb5.block (w.heap.size + 1) (by have := s3.out; have := hb4.size; omega)).trans F4
    have B5 := Lib.hid (hb3.out.trans ((hb4.trans (hb5.mono hb4.size)).mono hb3.out.size))
    replace F4 := Lib.hid F4
    replace g5 := Lib.hid g5
    replace hs5 := Lib.hid hs5
    clear hb4 hb5
    go_upto_region 10 with fail
    clear hw5
    obtain ⟨k0, k1, k2, k3, k4, k5⟩ := four_cells F5
    obtain ⟨W9, hW9, g9, gr9, gs9⟩ := put_four (a' := .slice none 0 0) (b' := .slice none 0 0) (c' := .slice none 0 0) (d' := .slice none 0 0) F5
    obtain ⟨n0, n1, n2, n3, _, _⟩ := four_cells g9
    have hB9 := Lib.hid ((B5).out.grown gr9 (B5).out.size (fun q e => by cases e; omega))
    replace g9 := Lib.hid g9
    replace F5 := Lib.hid F5
    clear gr9 gs9
    go_wp2_with fail
    refine bodyPost_ret (v := .tuple #[.agg #[.slice none 0 0, .slice none 0 0, .slice none 0 0, .slice none 0 0], .int .i64 0, .int .i64 9]) (by simp [results, Tryz.results8, go_sem, n0, n1, n2, n3]) rfl ?_
    obtain ⟨hN, hV⟩ := tk_no (s := s) (b := b) (by rw [hE.out]; decide)
    rw [hN, hV, hE.out]
    exact ⟨_, rfl, sto_empty _ _, hB9.out⟩
  · replace hE := Lib.hid hE
    have e1 := chkR_ok hm
    have e2 : ((b.length : Int) != 128) = false := by rw [hlb]; rfl
    have hemp : (!(freeL s).isEmpty) = true := by cases hq : freeL s with
      | nil => exact absurd hq hfl
      | cons k m => rfl
    obtain ⟨h8, h256, h0, hwe⟩ := tk_write hm hlb hfl
    rw [if_neg (by omega)] at hwe
    have hV : Hid (tkV s b = (wrR s.1 (tkK s : Int) b, s.2.1.set (tkK s) 1, s.2.2)) := Lib.hid (by
      rw [(tk_ok hE.out).2.2.2.2.2.2.2.2.2, wrR_nat hwe])
    have hT : Hid (tkN s b = (tkK s : Int)) := Lib.hid (tk_ok hE.out).2.2.2.2.2.2.2.2.1
    obtain ⟨k, hk⟩ : ∃ k, tkK s = k := ⟨_, rfl⟩
    obtain ⟨R, hR⟩ : ∃ R, wrR s.1 (k : Int) b = R := ⟨_, rfl⟩
    rw [hk] at h8 h256 hwe hV hT h0
    rw [hR] at hV
    obtain ⟨hu0, hu1⟩ := up_ok (mayR_of hm).2.1 h8 h256 (by rw [h0]; decide)
    rw [h0, show (0 : UInt8) + 1 = 1 from rfl] at hu1
    obtain ⟨T, hT2⟩ : ∃ T, s.2.1.set k 1 = T := ⟨_, rfl⟩
    rw [hT2] at hu1 hV
    have hll := mayT_len (mayR_of hm).2.2
    replace f2 := Lib.hid f2
    replace hlb := Lib.hid hlb
    replace hfl := Lib.hid hfl
    replace hk := Lib.hid hk
    replace hR := Lib.hid hR
    replace hwe := Lib.hid hwe
    replace hu0 := Lib.hid hu0
    replace hu1 := Lib.hid hu1
    replace hT2 := Lib.hid hT2
    replace hll := Lib.hid hll
    replace h0 := Lib.hid h0
    go_enter Tryz.func8, Tryz.ntmps8
    go_upto_region 1 with fail
    clear hw1
    go_wp2_with fail
    with_reducible refine (checkR_any _ s _ H.out).mono ?_
    rintro e w2 ⟨rfl, hb2⟩
    rw [e1]
    have G2 := (hb2.block w.heap.size kg).trans f1
    obtain ⟨m0, m1, m2, m3, _, mg⟩ := four_cells G2
    have F2 := (hb2.block (w.heap.size + 1) (by rw [hsz.out]; omega)).trans f2.out
    have H2 := Lib.hid (H.out.below hb2)
    have U2 := Lib.hid (stab_by.old U.out hb2)
    have s2 : Hid (w.heap.size + 2 ≤ w2.heap.size) := Lib.hid (by have := hb2.size; have := hsz.out; omega)
    replace hb2 := Lib.hid (hB.trans (hb2.mono hB.size))
    replace G2 := Lib.hid G2
    replace F2 := Lib.hid F2
    clear k0 k1 k2 k3 kg f1 hB
    go_wp2_with fail
    with_reducible refine (firstR_any _ s hm _ H2.out).mono ?_
    rintro e w3 ⟨rfl, hb3⟩
    rw [hemp]
    have G3 := (hb3.block w.heap.size mg).trans G2.out
    obtain ⟨k0, k1, k2, k3, _, kg⟩ := four_cells G3
    have F3 := (hb3.block (w.heap.size + 1) (by have := s2.out; omega)).trans F2.out
    have H3 := Lib.hid (H2.out.below hb3)
    have U3 := Lib.hid (stab_by.old U2.out hb3)
    have s3 : Hid (w.heap.size + 2 ≤ w3.heap.size) := Lib.hid (by have := hb3.size; have := s2.out; omega)
    replace hb3 := Lib.hid (hb2.out.trans (hb3.mono hb2.out.size))
    replace G3 := Lib.hid G3
    clear m0 m1 m2 m3 mg G2 F2 H2 U2 hb2
    rw [hk.out]
    replace F3 := Lib.hid F3
    go_wp2_with fail
    with_reducible refine (write_new _ _ s.1 (k : Int) b _ H3.out.parts.1 U3.out).mono ?_
    rintro e w4 ⟨A4, c4, B4, d4, rfl, hd4, hb4⟩
    rw [hwe.out, hR.out]
    rw [hR.out] at hd4
    have F4 := (hb4.block (w.heap.size + 1) (by have := s3.out; omega)).trans F3.out
    have G4 := (hb4.block w.heap.size kg).trans G3.out
    obtain ⟨w5, hw5, g5, hs5, hb5⟩ := box_pair' w4 (.slice A4 R.1.length c4) (.slice B4 R.2.length d4) 25
    have F5 := Lib.hid ((hb5.block (w.heap.size + 1) (by have := s3.out; have := hb4.size; omega)).trans F4)
    have G5 := (hb5.block w.heap.size (by have := s3.out; have := hb4.size; omega)).trans G4
    have H5 := Lib.hid ((H3.out.below hb4).below hb5)
    have D5 := Lib.hid (hd4.new (Nat.le_refl _) hb5)
    have s5 : Hid (w4.heap.size + 1 = w5.heap.size ∧ w.heap.size + 2 ≤ w4.heap.size) := Lib.hid ⟨by omega, by have := s3.out; have := hb4.size; omega⟩
    have B5 := Lib.hid (hb3.out.trans ((hb4.trans (hb5.mono hb4.size)).mono hb3.out.size))
    obtain ⟨m0, m1, m2, m3, _, mg⟩ := four_cells G5
    replace F4 := Lib.hid F4
    replace g5 := Lib.hid g5
    replace hs5 := Lib.hid hs5
    replace G5 := Lib.hid G5
    clear hb4 hb5 G4 k0 k1 k2 k3 hd4 H3 U3 G3
    go_upto_region 10 with fail
    clear hw5
    go_wp2_with fail
    with_reducible refine (up_open _ s.2.1 (k : Int) _ H5.out.parts.2.1).mono ?_
    rintro e w6 ⟨E6, c6, rfl, h6, hb6⟩
    rw [hu0.out, hu1.out]
    rw [hu1.out] at h6
    have F6 := Lib.hid ((hb6.block (w.heap.size + 1) (by have := s5.out; omega)).trans F5.out)
    have G6 := (hb6.block w.heap.size mg).trans G5.out
    have P6 := (hb6.block w4.heap.size (by have := s5.out; omega)).trans g5.out
    have H6 := Lib.hid (H5.out.below hb6)
    have D6 := Lib.hid (D5.out.new (Nat.le_refl _) hb6)
    have T6 := Lib.hid h6
    have B6 := Lib.hid (B5.out.trans (hb6.mono B5.out.size))
    have s6 : Hid (w.heap.size + 2 ≤ w6.heap.size) := Lib.hid (by have := s5.out; have := hb6.size; omega)
    clear hb6 h6 m0 m1 m2 m3
    obtain ⟨m0, m1, m2, m3, _, mg⟩ := four_cells G6
    obtain ⟨p0, p1, _, pg⟩ := two_cells P6
    replace G6 := Lib.hid G6
    replace P6 := Lib.hid P6
    have hcl : Hid (∀ W, Below w6.heap.size w6 W → Calls Tryz.prog 33 #[.slice L s.2.2.length cl] W fun e W' => ∃ X xc, e = .returned (.slice X s.2.2.length xc) ∧ rBy (New w6.heap.size W') W' [.slice X s.2.2.length xc] s.2.2 ∧ Below w6.heap.size w6 W') := Lib.hid fun W hC => by
      refine (clone_by _ s.2.2 W (by rw [hll.out]; omega) (stab_by.old H6.out.parts.2.2 hC)).mono ?_
      rintro e W' ⟨u, rfl, hx, hb⟩
      obtain ⟨X, xc, rfl, _⟩ := id (rBy_open hx)
      exact ⟨X, xc, rfl, stab_by.mono hx hC.size, hC.trans (hb.mono hC.size)⟩
    go_upto_region 15 with fail
    have hdr : Below w6.heap.size w6 w6.drew := (Below.refl _ _).drew
    go_region_with (first
      | (go_at_call 33; refine (hcl.out _ hdr).mono ?_; rintro e' wm ⟨X, xc, rfl, hx, hw⟩; have bW := (hw.block (w.heap.size + 1) (by have := s6.out; omega)).trans F6.out; obtain ⟨y0, y1, _, _⟩ := two_cells ((hw.block w4.heap.size pg).trans P6.out); obtain ⟨c0, c1, c2, c3, c4', _⟩ := four_cells bW))
    all_goals
      (go_wp2_with fail
       obtain ⟨W9, hW9, g9, gr9, gs9⟩ := put_four (a' := .slice A4 R.1.length c4) (b' := .slice B4 R.2.length d4) (c' := .slice E6 T.length c6) (d' := .slice X s.2.2.length xc) bW
       obtain ⟨n0, n1, n2, n3, _, _⟩ := four_cells g9
       rw [hW9]
       have BW := B6.out.trans (hw.mono B6.out.size)
       have l3 := hb3.out.size
       have l5 := B5.out.size
       have l6 := B6.out.size
       have r3 := s3.out
       have r5 := s5.out
       have r6 := s6.out
       refine bodyPost_ret (v := .tuple #[.agg #[.slice A4 R.1.length c4, .slice B4 R.2.length d4, .slice E6 T.length c6, .slice X s.2.2.length xc], .int .i64 (k : Int), .int .i64 0]) (by simp [results, Tryz.results8, go_sem, n0, n1, n2, n3]) rfl ?_
       rw [hT.out, hV.out, hE.out]
       exact ⟨_, rfl, Sto.mk (((D6.out.new (Nat.le_refl _) hw).grown gr9 (fun q e => by cases e; omega)).new l3 (Below.refl _ _)) (stab_by.new (stab_by.grown (stab_by.new T6.out (Nat.le_refl _) hw) gr9 (fun q e => by cases e; omega)) l5 (Below.refl _ _)) (stab_by.new (stab_by.grown hx gr9 (fun q e => by cases e; omega)) l6 (Below.refl _ _)), BW.grown gr9 BW.size (fun q e => by cases e; omega)⟩)
end Go.Proofs.YtjlbkcnhbndgbaaGreat

/-
  Package room: Same, New. Conditions: those that each lemma states.
-/
namespace Go.Proofs.YtjlbkcnhbndgbaaGreat
open Go.RowKit

def sameR (a b : Rm) : Bool := sameB a.1 b.1 && decide (a.2.1 = b.2.1) && decide (a.2.2 = b.2.2)
theorem sameR_refl (a : Rm) : sameR a a = true := by simp [sameR, sameB]
theorem sameR_iff {a b : Rm} : sameR a b = true ↔ a = b := by
  simp only [sameR, sameB, Bool.and_eq_true, decide_eq_true_eq]
  exact ⟨fun ⟨⟨h1, h2⟩, h3⟩ => Prod.ext h1 (Prod.ext h2 h3), fun h => by rw [h]; exact ⟨⟨rfl, rfl⟩, rfl⟩⟩

set_option maxRecDepth 100000 in
set_option maxHeartbeats 4000000 in
theorem sameR_any (v u : Value) (s o : Rm) (w : World) (h : Sto (Old w) w v s) (hu : Sto (Old w) w u o) :
    Calls Tryz.prog 19 #[v, u] w fun e w' => e = .returned (.bool (sameR s o)) ∧ Below w.heap.size w w' := by
  obtain ⟨A, ca, B, cb, N, cn, L, cl, rfl, _, _, _⟩ := h.open
  obtain ⟨A', ca', B', cb', N', cn', L', cl', rfl, _, _, _⟩ := hu.open
  obtain ⟨w1, hw1, f1, f2, hsz, hB⟩ : ∃ w1, (w.alloc (.cells #[.slice A s.1.1.length ca, .slice B s.1.2.length cb, .slice N s.2.1.length cn, .slice L s.2.2.length cl] 28)).alloc (.cells #[.slice A' o.1.1.length ca', .slice B' o.1.2.length cb', .slice N' o.2.1.length cn', .slice L' o.2.2.length cl'] 28) = w1 ∧
      w1.heap[w.heap.size]? = some (.cells #[.slice A s.1.1.length ca, .slice B s.1.2.length cb, .slice N s.2.1.length cn, .slice L s.2.2.length cl] 28 (0, 0)) ∧ w1.heap[w.heap.size + 1]? = some (.cells #[.slice A' o.1.1.length ca', .slice B' o.1.2.length cb', .slice N' o.2.1.length cn', .slice L' o.2.2.length cl'] 28 (0, 0)) ∧ w1.heap.size = w.heap.size + 2 ∧ Below w.heap.size w w1 := by
    refine ⟨_, rfl, alloc_block (heap_alloc_new _ _), ?_, by simp, ((Below.refl _ w).alloc (Nat.le_refl _) _).alloc (by simp) _⟩
    have := heap_alloc_new (w.alloc (.cells #[.slice A s.1.1.length ca, .slice B s.1.2.length cb, .slice N s.2.1.length cn, .slice L s.2.2.length cl] 28)) (.cells #[.slice A' o.1.1.length ca', .slice B' o.1.2.length cb', .slice N' o.2.1.length cn', .slice L' o.2.2.length cl'] 28)
    rwa [World.size_alloc] at this
  have H := Lib.hid (h.below hB)
  have U := Lib.hid (hu.below hB)
  clear h hu
  obtain ⟨k0, k1, k2, k3, _, kg⟩ := four_cells f1
  obtain ⟨j0, j1, j2, j3, _, jg⟩ := four_cells f2
  replace hsz := Lib.hid hsz
  replace f1 := Lib.hid f1
  replace f2 := Lib.hid f2
  obtain ⟨p, hp⟩ : ∃ p, sameB s.1 o.1 = p := ⟨_, rfl⟩
  obtain ⟨q, hq⟩ : ∃ q, decide (s.2.1 = o.2.1) = q := ⟨_, rfl⟩
  obtain ⟨r, hr⟩ : ∃ r, decide (s.2.2 = o.2.2) = r := ⟨_, rfl⟩
  have hR : Hid (sameR s o = (p && q && r)) := Lib.hid (by rw [sameR, hp, hq, hr])
  replace hp := Lib.hid hp
  replace hq := Lib.hid hq
  replace hr := Lib.hid hr
  cases p with
  | false =>
    go_enter Tryz.func19, Tryz.ntmps19
    go_upto_region 1 with fail
    clear hw1
    go_wp2_with fail
    with_reducible refine (same_any _ _ s.1 o.1 _ H.out.parts.1 U.out.parts.1).mono ?_
    rintro e w2 ⟨rfl, hb2⟩
    rw [hp.out]
    replace hb2 := Lib.hid (hB.trans (hb2.mono hB.size))
    go_wp2_with fail
    go_ret
    exact ⟨ret_bool (by rw [hR.out]; rfl), hb2.out⟩
  | true =>
    cases q
    all_goals
      go_enter Tryz.func19, Tryz.ntmps19
      go_upto_region 1 with fail
      clear hw1
      go_wp2_with fail
      with_reducible refine (same_any _ _ s.1 o.1 _ H.out.parts.1 U.out.parts.1).mono ?_
      rintro e w2 ⟨rfl, hb2⟩
      rw [hp.out]
      replace k2 := (hb2.cell (p := ⟨w.heap.size, 2, none⟩) kg).trans k2
      replace k3 := (hb2.cell (p := ⟨w.heap.size, 3, none⟩) kg).trans k3
      replace j2 := (hb2.cell (p := ⟨w.heap.size + 1, 2, none⟩) jg).trans j2
      replace j3 := (hb2.cell (p := ⟨w.heap.size + 1, 3, none⟩) jg).trans j3
      have H2 := Lib.hid (H.out.below hb2)
      have U2 := Lib.hid (U.out.below hb2)
      replace hb2 := Lib.hid (hB.trans (hb2.mono hB.size))
      go_wp2_with fail
      with_reducible refine (equal_any _ _ s.2.1 o.2.1 _ H2.out.parts.2.1 U2.out.parts.2.1).mono ?_
      rintro e w3 ⟨rfl, rfl⟩
      rw [hq.out]
      go_wp2_with fail
    · go_ret
      exact ⟨ret_bool (by rw [hR.out]; rfl), hb2.out⟩
    · with_reducible refine (equal_any _ _ s.2.2 o.2.2 _ H2.out.parts.2.2 U2.out.parts.2.2).mono ?_
      rintro e w3 ⟨rfl, rfl⟩
      rw [hr.out]
      go_wp2_with fail
      go_ret
      exact ⟨ret_bool (by rw [hR.out]; cases r <;> rfl), hb2.out⟩

/-- A new store. -/
def newR : Rm := (zeroD, zeros 256, zeros 256)
set_option maxRecDepth 100000 in
set_option maxHeartbeats 4000000 in
theorem newR_any (w : World) : Calls Tryz.prog 20 #[] w fun e w' => ∃ t, e = .returned t ∧ Sto (New w.heap.size w') w' t newR ∧ Below w.heap.size w w' := by
  obtain ⟨w1, hw1, f1, hsz, hB⟩ := box_4 w (.slice none 0 0) (.slice none 0 0) (.slice none 0 0) (.slice none 0 0) 28
  have hz : Hid ((zeros 256).length = 256) := Lib.hid (zeros_length 256)
  replace hsz := Lib.hid hsz
  go_enter Tryz.func20, Tryz.ntmps20
  go_upto_region 1 with fail
  clear hw1
  go_wp2_with fail
  with_reducible refine (new_any _).mono ?_
  rintro e w2 ⟨u, rfl, h2, hb2⟩
  obtain ⟨P, p, Q, r, rfl, _⟩ := id h2.open
  have H2 := Lib.hid h2
  have F2 := (hb2.block w.heap.size (by rw [hsz.out]; omega)).trans f1
  have B2 := Lib.hid (hB.trans (hb2.mono hB.size))
  have s2 : Hid (w.heap.size + 1 ≤ w1.heap.size ∧ w1.heap.size ≤ w2.heap.size) := Lib.hid ⟨by rw [hsz.out]; omega, hb2.size⟩
  clear h2 hb2 f1
  go_wp2_with fail
  with_reducible refine (cntNew_by _).mono ?_
  rintro e w3 ⟨g3, rfl, h3, hb3⟩
  have H3 := Lib.hid h3
  have D3 := Lib.hid (H2.out.new (Nat.le_refl _) hb3)
  have F3 := (hb3.block w.heap.size (by have := s2.out; omega)).trans F2
  have B3 := Lib.hid (B2.out.trans (hb3.mono B2.out.size))
  have s3 : Hid (w2.heap.size ≤ w3.heap.size) := Lib.hid hb3.size
  clear h3 hb3 F2 H2
  go_wp2_with fail
  with_reducible refine (cntNew_by _).mono ?_
  rintro e w4 ⟨g4, rfl, h4, hb4⟩
  have D4 := D3.out.new (Nat.le_refl _) hb4
  have N4 := stab_by.new H3.out (Nat.le_refl _) hb4
  have F4 := (hb4.block w.heap.size (by have := s2.out; have := s3.out; omega)).trans F3
  have B4 := B3.out.trans (hb4.mono B3.out.size)
  obtain ⟨c0, c1, c2, c3, c4, c5⟩ := four_cells F4
  obtain ⟨W9, hW9, g9, gr9, gs9⟩ := put_four (a' := .slice P zeroD.1.length p) (b' := .slice Q zeroD.2.length r) (c' := .slice (some ⟨g3, 0, none⟩) 256 256) (d' := .slice (some ⟨g4, 0, none⟩) 256 256) F4
  obtain ⟨n0, n1, n2, n3, _, _⟩ := four_cells g9
  have q2 := s2.out
  have q3 := s3.out
  have l2 := B2.out.size
  have l3 := B3.out.size
  have hfin := Lib.hid (show Sto (New w.heap.size W9) W9 (.agg #[.slice P zeroD.1.length p, .slice Q zeroD.2.length r, .slice (some ⟨g3, 0, none⟩) 256 256, .slice (some ⟨g4, 0, none⟩) 256 256]) newR from
    Sto.mk ((D4.grown gr9 (fun q e => by cases e; omega)).new (by omega) (Below.refl _ _)) (stab_by.new (stab_by.grown N4 gr9 (fun q e => by cases e; omega)) (by omega) (Below.refl _ _)) (stab_by.new (stab_by.grown h4 gr9 (fun q e => by cases e; omega)) (by omega) (Below.refl _ _)))
  have hB9 := Lib.hid (B4.grown gr9 B4.size (fun q e => by cases e; omega))
  clear D4 N4 gr9 gs9 B4 q2 q3 l2 l3 h4 hb4
  replace F4 := Lib.hid F4
  replace F3 := Lib.hid F3
  replace g9 := Lib.hid g9
  go_wp2_with fail
  refine bodyPost_ret (v := .agg #[.slice P zeroD.1.length p, .slice Q zeroD.2.length r, .slice (some ⟨g3, 0, none⟩) 256 256, .slice (some ⟨g4, 0, none⟩) 256 256]) (by simp [results, Tryz.results20, go_sem, n0, n1, n2, n3]) rfl ?_
  exact ⟨_, rfl, hfin.out, hB9.out⟩
end Go.Proofs.YtjlbkcnhbndgbaaGreat

/-
  Package code: GetTwo and GetFour. Conditions: those that each lemma states.
-/
namespace Go.Proofs.YtjlbkcnhbndgbaaGreat
open Go.RowKit

theorem gather_ok (A : Option Addr) (len cap m k : Nat) (xs : List UInt8) (hlen : xs.length = len) (hm0 : 0 < m) (hm : m ≤ 4) (hle : k + m ≤ len) (hlc : len ≤ cap) (hcap : cap ≤ 9223372036854775807) (w : World) (hx : Byt w w.heap.size A xs) :
    Calls Tryz.prog 89 #[.slice A len cap, .int .i64 k, .int .i64 m] w fun e W' => e = .returned (.tuple #[.int .u32 (num ((xs.drop k).take m)), .int .i64 0]) ∧ Below w.heap.size w W' := by
  subst hlen
  obtain ⟨ad, rfl, hp⟩ := hx.part hle hm0
  have hl : ((xs.drop k).take m).length = m := by simp; omega
  obtain ⟨ad', e, hb, hc⟩ := hp (by omega)
  cases e
  exact callsIn_wide.1 (gather_in Fence.wide 3 trivial trivial trivial rfl (Nat.le_refl _) ad xs.length cap m k _ hl hm0 hm hle hlc hcap w (by rw [add_block] at hb; exact hb) hc)

theorem gather_no (A : Option Addr) (len cap : Nat) (k : Int) (m : Nat) (hm : m ≤ 4) (hl : len ≤ 9223372036854775807) (h : k < 0 ∨ (len : Int) - m < k) (w : World) :
    Calls Tryz.prog 89 #[.slice A len cap, .int .i64 k, .int .i64 m] w fun e W' => e = .returned (.tuple #[.int .u32 0, .int .i64 8]) ∧ w = W' := by
  by_cases h' : k < 0
  · go_enter Tryz.func89, Tryz.ntmps89
    go_wp2
    go_ret2
    exact ⟨rfl, rfl⟩
  · have h2 : (len : Int) - m < k := by omega
    go_enter Tryz.func89, Tryz.ntmps89
    go_wp2
    go_ret2
    exact ⟨rfl, rfl⟩

theorem getTwo_ok (A : Option Addr) (len cap k : Nat) (xs : List UInt8) (hlen : Hid (xs.length = len)) (hle : k + 2 ≤ len) (hlc : len ≤ cap) (hcap : cap ≤ 9223372036854775807) (w : World) (hx : Byt w w.heap.size A xs) :
    Calls Tryz.prog 105 #[.slice A len cap, .int .i64 k] w fun e W' => e = .returned (.tuple #[.int .i64 (num ((xs.drop k).take 2)), .int .i64 0]) ∧ Below w.heap.size w W' := by
  have h0 := num_nonneg ((xs.drop k).take 2)
  have h1 := num_lt ((xs.drop k).take 2)
  have hl : ((xs.drop k).take 2).length = 2 := by have := hlen.out; simp; omega
  rw [hl] at h1
  simp at h1
  clear hl
  go_enter Tryz.func105, Tryz.ntmps105
  go_wp2_with fail
  refine (gather_ok A len cap 2 k xs hlen.out (by omega) (by omega) hle hlc hcap _ hx).mono ?_
  rintro e w1 ⟨rfl, hb⟩
  go_wp2
  go_ret2
  exact ⟨rfl, hb⟩

theorem getTwo_no (A : Option Addr) (len cap : Nat) (k : Int) (hl : len ≤ 9223372036854775807) (h : k < 0 ∨ (len : Int) - 2 < k) (w : World) :
    Calls Tryz.prog 105 #[.slice A len cap, .int .i64 k] w fun e W' => e = .returned (.tuple #[.int .i64 0, .int .i64 8]) ∧ w = W' := by
  go_enter Tryz.func105, Tryz.ntmps105
  go_wp2_with fail
  refine (gather_no A len cap k 2 (by omega) hl h _).mono ?_
  rintro e w1 ⟨rfl, rfl⟩
  go_wp2
  go_ret2
  exact ⟨rfl, rfl⟩

theorem getFour_ok (A : Option Addr) (len cap k : Nat) (xs : List UInt8) (hlen : Hid (xs.length = len)) (hle : k + 4 ≤ len) (hlc : len ≤ cap) (hcap : cap ≤ 9223372036854775807) (w : World) (hx : Byt w w.heap.size A xs) :
    Calls Tryz.prog 75 #[.slice A len cap, .int .i64 k] w fun e W' => e = .returned (.tuple #[.int .u32 (num ((xs.drop k).take 4)), .int .i64 0]) ∧ Below w.heap.size w W' := by
  go_enter Tryz.func75, Tryz.ntmps75
  go_wp2_with fail
  refine (gather_ok A len cap 4 k xs hlen.out (by omega) (by omega) hle hlc hcap _ hx).mono ?_
  rintro e w1 ⟨rfl, hb⟩
  go_wp2
  go_ret2
  exact ⟨rfl, hb⟩

theorem getFour_no (A : Option Addr) (len cap : Nat) (k : Int) (hl : len ≤ 9223372036854775807) (h : k < 0 ∨ (len : Int) - 4 < k) (w : World) :
    Calls Tryz.prog 75 #[.slice A len cap, .int .i64 k] w fun e W' => e = .returned (.tuple #[.int .u32 0, .int .i64 8]) ∧ w = W' := by
  go_enter Tryz.func75, Tryz.ntmps75
  go_wp2_with fail
  refine (gather_no A len cap k 4 (by omega) hl h _).mono ?_
  rintro e w1 ⟨rfl, rfl⟩
  go_wp2
  go_ret2
  exact ⟨rfl, rfl⟩

/-! ### The contracts for every argument -/
def te (n : Int) : Int := if 0 ≤ n ∧ n < 65536 then 0 else 2
def tb (n : Int) : List UInt8 := if 0 ≤ n ∧ n < 65536 then le 2 n else []
def ge (m : Nat) (len : Nat) (k : Int) : Int := if 0 ≤ k ∧ k + m ≤ len then 0 else 8
def gv (m : Nat) (xs : List UInt8) (k : Int) : Int := if 0 ≤ k ∧ k + m ≤ xs.length then num ((xs.drop k.toNat).take m) else 0
theorem te_yes {n : Int} (h : 0 ≤ n ∧ n < 65536) : te n = 0 := if_pos h
theorem te_no {n : Int} (h : ¬ (0 ≤ n ∧ n < 65536)) : te n = 2 := if_neg h
theorem tb_yes {n : Int} (h : 0 ≤ n ∧ n < 65536) : tb n = le 2 n := if_pos h
theorem tb_no {n : Int} (h : ¬ (0 ≤ n ∧ n < 65536)) : tb n = [] := if_neg h
theorem ge_yes {m len : Nat} {k : Int} (h : 0 ≤ k ∧ k + m ≤ len) : ge m len k = 0 := if_pos h
theorem ge_no {m len : Nat} {k : Int} (h : ¬ (0 ≤ k ∧ k + m ≤ len)) : ge m len k = 8 := if_neg h
theorem gv_yes {m : Nat} {xs : List UInt8} {k : Int} (h : 0 ≤ k ∧ k + m ≤ xs.length) : gv m xs k = num ((xs.drop k.toNat).take m) := if_pos h
theorem gv_no {m : Nat} {xs : List UInt8} {k : Int} (h : ¬ (0 ≤ k ∧ k + m ≤ xs.length)) : gv m xs k = 0 := if_neg h
theorem gv_bounds (m : Nat) (xs : List UInt8) (k : Int) : 0 ≤ gv m xs k ∧ gv m xs k < (256 : Int) ^ m := by
  by_cases h : 0 ≤ k ∧ k + m ≤ xs.length
  · rw [gv_yes h]
    have hl : ((xs.drop k.toNat).take m).length = m := by simp; omega
    have h1 := num_lt ((xs.drop k.toNat).take m)
    rw [hl] at h1
    exact ⟨num_nonneg _, h1⟩
  · rw [gv_no h]
    exact ⟨by omega, Int.pow_pos (by omega)⟩

theorem getTwo_any (A : Option Addr) (len cap : Nat) (k : Int) (xs : List UInt8) (hlen : Hid (xs.length = len)) (hlc : len ≤ cap) (hcap : cap ≤ 9223372036854775807) (w : World) (hx : Byt w w.heap.size A xs) :
    Calls Tryz.prog 105 #[.slice A len cap, .int .i64 k] w fun e W' => e = .returned (.tuple #[.int .i64 (gv 2 xs k), .int .i64 (ge 2 len k)]) ∧ Below w.heap.size w W' := by
  obtain rfl := hlen.out
  by_cases h : 0 ≤ k ∧ k + (2 : Nat) ≤ xs.length
  · rw [ge_yes h, gv_yes h]
    obtain ⟨n, rfl⟩ := Int.eq_ofNat_of_zero_le h.1
    rw [Int.toNat_natCast]
    exact getTwo_ok A _ cap n xs hlen (by omega) hlc hcap w hx
  · rw [ge_no h, gv_no h]
    exact (getTwo_no A xs.length cap k (by omega) (by omega) w).mono fun e w' ⟨he, hw⟩ => ⟨he, hw ▸ Below.refl _ _⟩
theorem getFour_any (A : Option Addr) (len cap : Nat) (k : Int) (xs : List UInt8) (hlen : Hid (xs.length = len)) (hlc : len ≤ cap) (hcap : cap ≤ 9223372036854775807) (w : World) (hx : Byt w w.heap.size A xs) :
    Calls Tryz.prog 75 #[.slice A len cap, .int .i64 k] w fun e W' => e = .returned (.tuple #[.int .u32 (gv 4 xs k), .int .i64 (ge 4 len k)]) ∧ Below w.heap.size w W' := by
  obtain rfl := hlen.out
  by_cases h : 0 ≤ k ∧ k + (4 : Nat) ≤ xs.length
  · rw [ge_yes h, gv_yes h]
    obtain ⟨n, rfl⟩ := Int.eq_ofNat_of_zero_le h.1
    rw [Int.toNat_natCast]
    exact getFour_ok A _ cap n xs hlen (by omega) hlc hcap w hx
  · rw [ge_no h, gv_no h]
    exact (getFour_no A xs.length cap k (by omega) (by omega) w).mono fun e w' ⟨he, hw⟩ => ⟨he, hw ▸ Below.refl _ _⟩
end Go.Proofs.YtjlbkcnhbndgbaaGreat

/-
  Package sum: Seal, Open. Conditions: those that each lemma states.
-/
namespace Go.Proofs.YtjlbkcnhbndgbaaGreat
open Go.RowKit

/-- Bytes, and noughts behind, 124 in all; these sealed. -/
def padN (xs : List UInt8) : List UInt8 := xs ++ zeros (124 - xs.length)
def sealN (xs : List UInt8) : List UInt8 := le 4 (crc (padN xs) : Nat) ++ padN xs
theorem padN_length {xs : List UInt8} (h : xs.length ≤ 124) : (padN xs).length = 124 := by simp [padN, zeros]; omega
theorem sealN_length {xs : List UInt8} (h : xs.length ≤ 124) : (sealN xs).length = 128 := by simp [sealN, le_length, padN_length h]
theorem splice_pad {xs : List UInt8} (h : xs.length ≤ 124) : splice (zeros 128) 4 xs = zeros 4 ++ padN xs := by
  simp only [splice, zeros, padN, List.take_replicate, List.drop_replicate]
  rw [show min 4 128 = 4 from rfl, show 128 - (4 + xs.length) = 124 - xs.length by omega]
theorem splice_seal (ys zs : List UInt8) (h : ys.length = 4) : splice (zeros 4 ++ zs) 0 ys = ys ++ zs := by
  simp only [splice, List.take_zero, List.nil_append, Nat.zero_add, h]
  rw [List.drop_left' (by simp [zeros])]

set_option maxRecDepth 100000 in
theorem open_no (A : Option Addr) (len cap : Nat) (hl : len ≠ 128) (w : World) :
    Calls Tryz.prog 63 #[.slice A len cap] w fun e w' => e = .returned (.tuple #[.slice none 0 0, .int .i64 3]) ∧ w = w' := by
  go_enter Tryz.func63, Tryz.ntmps63
  go_wp2
  go_ret2
  exact ⟨rfl, rfl⟩
def fits (xs : List UInt8) : Prop := num (xs.take 4) = (crc (xs.drop 4) : Nat)
set_option maxRecDepth 100000 in
theorem open_bad (ad : Addr) (cap : Nat) (xs : List UInt8) (hlen : Hid (xs.length = 128)) (hlc : 128 ≤ cap) (hcap : cap ≤ 9223372036854775807) (w : World) (hx : Byt w w.heap.size (some ad) xs) (hn : ¬ fits xs) :
    Calls Tryz.prog 63 #[.slice (some ad) 128 cap] w fun e w' => e = .returned (.tuple #[.slice none 0 0, .int .i64 8]) ∧ Below w.heap.size w w' := by
  have hp : Byt w w.heap.size (some (ad.add 4)) (xs.drop 4) := by
    obtain ⟨ad', e, hp⟩ := hx.part (k := 4) (n := 124) (by rw [hlen.out]; omega) (by omega)
    cases e
    rwa [List.take_of_length_le (by simp [hlen.out])] at hp
  have hpl : Hid ((xs.drop 4).length = 124) := Lib.hid (by simp [hlen.out])
  have hb := crc_lt (xs.drop 4)
  have hd : ((num (xs.take 4) : Int) == (crc (xs.drop 4) : Nat)) = false := by simpa [fits] using hn
  have hd' : ((num (xs.take 4) : Int) != (crc (xs.drop 4) : Nat)) = true := by simpa [fits] using hn
  have HD := Lib.hid hd
  have HD' := Lib.hid hd'
  clear hn hd hd'
  go_enter Tryz.func63, Tryz.ntmps63
  go_wp2_with fail
  refine (getFour_ok _ _ cap 0 xs hlen (by omega) (by omega) (by omega) _ hx).mono ?_
  rintro e w1 ⟨rfl, hb1⟩
  rw [List.drop_zero]
  have hp1 := (hp.below hb1).more hb1.size
  go_wp2_with fail
  refine (of_any _ _ _ _ hpl (by omega) (by omega) _ hp1).mono ?_
  rintro e w2 ⟨rfl, hb2⟩
  generalize num (xs.take 4) = q at *
  generalize crc (xs.drop 4) = r at *
  have hd := HD.out
  have hd' := HD'.out
  go_wp2_with fail
  go_ret2
  exact ⟨rfl, bstep hb1 hb2⟩
theorem own_base {w : World} {B B' : Nat} {e : TypeId} {v : Value} {n : Nat} {xs : List Value} (h : w.ownsRow B e 1 v n xs) (hb : B' ≤ B) : w.ownsRow B' e 1 v n xs := by
  refine ⟨h.1, h.2.imp id ?_⟩
  rintro ⟨g, cap, cur, h1, h2, h3⟩
  exact ⟨g, cap, cur, h1, Nat.le_trans hb h2, h3⟩
set_option maxRecDepth 100000 in
theorem open_ok (ad : Addr) (cap : Nat) (xs : List UInt8) (hlen : Hid (xs.length = 128)) (hlc : 128 ≤ cap) (hcap : cap ≤ 9223372036854775807) (w : World) (hx : Byt w w.heap.size (some ad) xs) (hn : fits xs) :
    Calls Tryz.prog 63 #[.slice (some ad) 128 cap] w fun e w' => ∃ v, e = .returned (.tuple #[v, .int .i64 0]) ∧ w'.ownsRow w.heap.size 5 1 v 124 (u8s (xs.drop 4)) ∧ Below w.heap.size w w' := by
  have hp : Byt w w.heap.size (some (ad.add 4)) (xs.drop 4) := by
    obtain ⟨ad', e, hp⟩ := hx.part (k := 4) (n := 124) (by rw [hlen.out]; omega) (by omega)
    cases e
    rwa [List.take_of_length_le (by simp [hlen.out])] at hp
  have hpl : Hid ((xs.drop 4).length = 124) := Lib.hid (by simp [hlen.out])
  have hb := crc_lt (xs.drop 4)
  have HN : Hid (num (xs.take 4) = (crc (xs.drop 4) : Nat)) := Lib.hid hn
  clear hn
  go_enter Tryz.func63, Tryz.ntmps63
  go_wp2_with fail
  refine (getFour_ok _ _ cap 0 xs hlen (by omega) (by omega) (by omega) _ hx).mono ?_
  rintro e w1 ⟨rfl, hb1⟩
  rw [List.drop_zero, HN.out]
  have hp1 := (hp.below hb1).more hb1.size
  go_wp2_with fail
  refine (of_any _ _ _ _ hpl (by omega) (by omega) _ hp1).mono ?_
  rintro e w2 ⟨rfl, hb2⟩
  generalize crc (xs.drop 4) = r at *
  have hp2 := (hp1.below hb2).more hb2.size
  go_wp2_with fail
  refine (clone_some _ _ _ _ hpl (by omega) _ hp2).mono ?_
  rintro e w3 ⟨v, rfl, hown, _, hb3⟩
  have hB := bstep (bstep hb1 hb2) hb3
  have hsz := Nat.le_trans hb1.size hb2.size
  have HO := Lib.hid (own_base hown hsz)
  clear hown hp hp1 hp2 hx hb1 hb2 hb3 hsz
  go_wp2_with fail
  go_ret2
  exact ⟨v, rfl, HO.out, hB⟩
theorem fits_seal (xs : List UInt8) : fits (sealN xs) := by
  unfold fits sealN
  rw [List.take_left' (le_length 4 _), List.drop_left' (le_length 4 _)]
  exact num_le 4 _ (by omega) (by have := crc_lt (padN xs); simp; omega)
theorem seal_drop (xs : List UInt8) : (sealN xs).drop 4 = padN xs := by
  unfold sealN
  rw [List.drop_left' (le_length 4 _)]
theorem padN_full {xs : List UInt8} (h : xs.length = 124) : padN xs = xs := by simp [padN, zeros, h]
theorem seal_back {xs : List UInt8} (h : xs.length = 128) (hf : fits xs) : sealN (xs.drop 4) = xs := by
  unfold fits at hf
  unfold sealN
  have e := le_num (xs.take 4)
  rw [show (xs.take 4).length = 4 by simp [h]] at e
  rw [padN_full (by simp [h]), ← hf, e]
  exact List.take_append_drop 4 xs
end Go.Proofs.YtjlbkcnhbndgbaaGreat

/-
  The document's answers of layer 1: the contracts of package scionryref01. Conditions: those that each lemma states.
-/
namespace Go.Proofs.YtjlbkcnhbndgbaaGreat
open Go.RowKit

theorem u8_info : (Tryz.prog.info? 5).map (fun i => (i.zero, i.size, i.bytes)) = some (some (.int .u8 0), 1, 1) := by kernel_rfl

set_option maxHeartbeats 800000 in
theorem bytes_own (n : Int) (m : Nat) (h0 : 0 ≤ n) (h1 : n ≤ 9223372036854775807) (hm : m ≤ 1000) (w : World) :
    Calls Tryz.prog 114 #[.int .i64 n, .int .i64 m] w fun e w' => ∃ v, e = .returned v ∧ w'.ownsRow w.heap.size 5 1 v m (u8s (le m n)) ∧ Below w.heap.size w w' := by
  obtain ⟨i0, hi, hz0, hz1, hz2⟩ := info_parts u8_info
  go_enter Tryz.func114, Tryz.ntmps114
  go_wp2
  go_loopw [0, 5, 6] (fun t v i wr => ∃ k : Nat, k ≤ m ∧ i = .int .i64 k ∧ t = .int .i64 (n / 256 ^ k) ∧ wr.ownsRow w.heap.size 5 1 v k ((le k n).map fun x => Value.int .u8 (x.toNat : Int)) ∧ Below w.heap.size w wr)
    (fun _ _ i _ => m - (intOf i).toNat)
  case atStart => exact ⟨0, Nat.zero_le _, rfl, by simp, World.ownsRow_nil _ _ _ _, Below.refl _ _⟩
  case round =>
    obtain ⟨k, hk, rfl, rfl, hown, hB⟩ := hrel
    have d0 := div_pow_nonneg n k h0
    have d1 := div_pow_le n k h0
    have hd := Lib.hid (div_pow_succ n k)
    have hs := Lib.hid (le_snoc k n)
    have hb := Lib.hid (byte_toNat (n / 256 ^ k))
    generalize n / 256 ^ k = q at *
    by_cases hlt : k < m
    · go_wp2_with (at_builtin; refine wpList_append_own _ rfl _ _ 26 rfl w.heap.size 5 i0 (.int .u8 0) 1 1 Tryz.underlying26 hi hz0 hz1 hz2 rfl (by decide) _ _ _ rfl (hown.alloc _) ⟨wr.heap.size, 0, none⟩ 1 1 [.int .u8 (q % 256)] rfl rfl ?c1 ?c2 ?c3 ?c4 ?c5 ?_)
      case c1 =>
        intro j u hj
        match j, hj with
        | 0, hj => simp at hj; subst hj; simp [Addr.add]
      case c2 => intro u hu; simp at hu; subst hu; rfl
      case c3 => unfold maxLen; omega
      case c4 => omega
      case c5 => have := hB.size; simp; omega
      intro v' w1 hown' hgrow _
      have hB1 : Below w.heap.size w w1 := (balloc hB _).grown hgrow (balloc hB _).size (fun r e => by have := hown.lt r e; omega)
      rw [show (le k n).map (fun x => Value.int .u8 (x.toNat : Int)) ++ [.int .u8 (q % 256)] = (le (k + 1) n).map (fun x => Value.int .u8 (x.toNat : Int)) by rw [hs.out, List.map_append, List.map_cons, List.map_nil, hb.out]] at hown'
      clear hgrow hown
      go_wp2
      go_roundw
      case rel => exact ⟨k + 1, by omega, by go_num, by rw [hd.out], hown', hB1⟩
      case measure => simp [intOf]; omega
    · obtain rfl : k = m := by omega
      go_wp2
      go_ret
      exact ⟨_, rfl, hown, hB⟩
theorem bytes_ref (n : Int) (m : Nat) (h0 : 0 ≤ n) (h1 : n ≤ 9223372036854775807) (hm : m ≤ 1000) (w : World) :
    Calls Tryz.prog 114 #[.int .i64 n, .int .i64 m] w fun e w' => ∃ A cap, e = .returned (.slice A m cap) ∧ Byt w' w'.heap.size A (le m n) ∧ Below w.heap.size w w' := by
  refine (bytes_own n m h0 h1 hm w).mono ?_
  rintro e w' ⟨v, rfl, hown, hB⟩
  obtain ⟨A, cap, rfl, _, _, hy⟩ := own_byt hown
  exact ⟨A, cap, rfl, hy, hB⟩

theorem num_ref_nil (A : Option Addr) (cap : Nat) (w : World) :
    Calls Tryz.prog 111 #[.slice A 0 cap] w fun e w' => e = .returned (.int .i64 0) ∧ w = w' := by
  go_enter Tryz.func111, Tryz.ntmps111
  go_wp2
  refine wp_loop_rounds 1 ?_
  rw [rounds_succ]
  go_wp2
  go_ret
  exact ⟨rfl, rfl⟩

theorem num_drop (xs : List UInt8) (k : Nat) (h : k < xs.length) : num (xs.drop (xs.length - (k + 1))) = num (xs.drop (xs.length - k)) * 256 + ((xs[xs.length - 1 - k]?.getD 0).toNat : Int) := by
  have := val_back xs (k + 1) (by omega)
  rw [back_succ, val_snoc, val_back xs k (by omega)] at this
  exact this.symm
theorem num_small (xs : List UInt8) (h : xs.length ≤ 6) : 0 ≤ num xs ∧ num xs < 281474976710656 := by
  have hp : ∀ n : Nat, n ≤ 6 → (256 : Int) ^ n ≤ 281474976710656 := by decide
  exact ⟨num_nonneg _, Int.lt_of_lt_of_le (num_lt xs) (hp _ h)⟩

set_option maxHeartbeats 800000 in
theorem number_ref (A : Option Addr) (len cap : Nat) (xs : List UInt8) (hlen : Hid (xs.length = len)) (hm : len ≤ 7) (w : World) (hx : Byt w w.heap.size A xs) :
    Calls Tryz.prog 111 #[.slice A len cap] w fun e w' => e = .returned (.int .i64 (num xs)) ∧ w = w' := by
  obtain rfl := hlen.out
  rcases Nat.eq_zero_or_pos xs.length with h0 | h0
  · have hx0 : xs = [] := List.eq_nil_of_length_eq_zero h0
    subst hx0
    exact num_ref_nil A cap w
  · obtain ⟨ad, rfl, _, hc⟩ := hx h0
    go_enter Tryz.func111, Tryz.ntmps111
    go_wp2
    go_loop [3, 4] (fun t i => ∃ k : Nat, k ≤ xs.length ∧ i = .int .i64 ((xs.length : Int) - 1 - k) ∧ t = .int .i64 (num (xs.drop (xs.length - k)))) (fun _ i => (intOf i + 1).toNat)
    case atStart => exact ⟨0, Nat.zero_le _, by simp, by simp [num]⟩
    case round =>
      obtain ⟨k, hk, rfl, rfl⟩ := hrel
      by_cases hlt : k < xs.length
      · obtain ⟨b0, b1⟩ := num_small (xs.drop (xs.length - k)) (by simp; omega)
        have hd := Lib.hid (num_drop xs k hlt)
        have hcx := hc (xs.length - 1 - k) (by omega)
        have hxb := (xs[xs.length - 1 - k]?.getD 0).toNat_lt
        have e1 : ((xs.length : Int) - 1 - k).toNat = xs.length - 1 - k := by omega
        generalize xs[xs.length - 1 - k]?.getD 0 = c at *
        generalize num (xs.drop (xs.length - k)) = q at *
        go_wp2
        go_round
        case rel => exact ⟨k + 1, by omega, by go_num, by rw [hd.out]⟩
        case measure => simp [intOf]; omega
      · obtain rfl : k = xs.length := by omega
        go_wp2
        go_ret
        simp

/-! ### The document's answers, as the code's -/
theorem four_ref (n : Int) (h0 : 0 ≤ n) (h1 : n < 4294967296) (w : World) :
    Calls Tryz.prog 113 #[.int .u32 n] w fun e w' => ∃ A cap, e = .returned (.slice A 4 cap) ∧ Byt w' w'.heap.size A (le 4 n) ∧ Below w.heap.size w w' := by
  go_enter Tryz.func113, Tryz.ntmps113
  go_wp2_with fail
  refine (bytes_ref n 4 h0 (by omega) (by omega) _).mono ?_
  rintro e w1 ⟨A, cap, rfl, hx, hb⟩
  go_wp2
  go_ret
  exact ⟨A, cap, rfl, hx, hb⟩

theorem four_own (n : Int) (h0 : 0 ≤ n) (h1 : n < 4294967296) (w : World) :
    Calls Tryz.prog 113 #[.int .u32 n] w fun e w' => ∃ v, e = .returned v ∧ w'.ownsRow w.heap.size 5 1 v 4 (u8s (le 4 n)) ∧ Below w.heap.size w w' := by
  go_enter Tryz.func113, Tryz.ntmps113
  go_wp2_with fail
  refine (bytes_own n 4 h0 (by omega) (by omega) _).mono ?_
  rintro e w1 ⟨v, rfl, hx, hb⟩
  go_wp2
  go_ret
  exact ⟨v, rfl, hx, hb⟩

theorem there_ref (A : Option Addr) (len cap : Nat) (k : Int) (m : Nat) (hm : m ≤ 4) (hl : len ≤ 9223372036854775807) (w : World) :
    Calls Tryz.prog 110 #[.slice A len cap, .int .i64 k, .int .i64 m] w fun e w' => e = .returned (.bool (decide (0 ≤ k ∧ k + m ≤ len))) ∧ w = w' := by
  rcases (by omega : k < 0 ∨ 0 ≤ k) with h | h
  · go_enter Tryz.func110, Tryz.ntmps110
    go_wp2
    go_ret
    exact ⟨by simp; omega, rfl⟩
  · rcases (by omega : k ≤ len ∨ (len : Int) < k) with h2 | h2
    · go_enter Tryz.func110, Tryz.ntmps110
      go_wp2
      go_ret
      exact ⟨ret_bool (by rw [decide_eq_decide]; omega), rfl⟩
    · go_enter Tryz.func110, Tryz.ntmps110
      go_wp2
      go_ret
      exact ⟨by simp; omega, rfl⟩

theorem getTwo_ref (A : Option Addr) (len cap : Nat) (k : Int) (xs : List UInt8) (hlen : Hid (xs.length = len)) (hlc : len ≤ cap) (hcap : cap ≤ 9223372036854775807) (w : World) (hx : Byt w w.heap.size A xs) :
    Calls Tryz.prog 99 #[.slice A len cap, .int .i64 k] w fun e w' => e = .returned (.tuple #[.int .i64 (gv 2 xs k), .int .i64 (ge 2 len k)]) ∧ w = w' := by
  obtain rfl := hlen.out
  by_cases h : 0 ≤ k ∧ k + (2 : Nat) ≤ xs.length
  · have hd : decide (0 ≤ k ∧ k + (2 : Nat) ≤ xs.length) = true := by simpa using h
    rw [ge_yes h, gv_yes h]
    obtain ⟨n, rfl⟩ := Int.eq_ofNat_of_zero_le h.1
    rw [Int.toNat_natCast]
    have hn : n + 2 ≤ xs.length := by omega
    obtain ⟨ad, rfl, hp⟩ := hx.part hn (by omega)
    have hHd := Lib.hid hd
    clear hd h
    go_enter Tryz.func99, Tryz.ntmps99
    go_wp2_with fail
    refine (there_ref _ _ cap n 2 (by omega) (by omega) _).mono ?_
    rintro e w1 ⟨rfl, rfl⟩
    rw [hHd.out]
    go_wp2_with fail
    refine (number_ref _ 2 _ _ (Lib.hid (by simp; omega)) (by omega) _ hp).mono ?_
    rintro e w1 ⟨rfl, rfl⟩
    go_wp2
    go_ret2
    exact ⟨rfl, rfl⟩
  · have hd : decide (0 ≤ k ∧ k + (2 : Nat) ≤ xs.length) = false := by simpa using h
    rw [ge_no h, gv_no h]
    have hHd := Lib.hid hd
    clear hd h
    go_enter Tryz.func99, Tryz.ntmps99
    go_wp2_with fail
    refine (there_ref _ _ cap k 2 (by omega) (by omega) _).mono ?_
    rintro e w1 ⟨rfl, rfl⟩
    rw [hHd.out]
    go_wp2
    go_ret2
    exact ⟨rfl, rfl⟩

theorem getFour_ref (A : Option Addr) (len cap : Nat) (k : Int) (xs : List UInt8) (hlen : Hid (xs.length = len)) (hlc : len ≤ cap) (hcap : cap ≤ 9223372036854775807) (w : World) (hx : Byt w w.heap.size A xs) :
    Calls Tryz.prog 97 #[.slice A len cap, .int .i64 k] w fun e w' => e = .returned (.tuple #[.int .u32 (gv 4 xs k), .int .i64 (ge 4 len k)]) ∧ w = w' := by
  obtain rfl := hlen.out
  by_cases h : 0 ≤ k ∧ k + (4 : Nat) ≤ xs.length
  · have hd : decide (0 ≤ k ∧ k + (4 : Nat) ≤ xs.length) = true := by simpa using h
    have hv := gv_bounds 4 xs k
    rw [gv_yes h] at hv
    rw [ge_yes h, gv_yes h]
    obtain ⟨n, rfl⟩ := Int.eq_ofNat_of_zero_le h.1
    rw [Int.toNat_natCast] at hv ⊢
    have hn : n + 4 ≤ xs.length := by omega
    obtain ⟨v0, v1⟩ := hv
    simp only [Int.reducePow] at v1
    obtain ⟨ad, rfl, hp⟩ := hx.part hn (by omega)
    have hHd := Lib.hid hd
    clear hd h
    go_enter Tryz.func97, Tryz.ntmps97
    go_wp2_with fail
    refine (there_ref _ _ cap n 4 (by omega) (by omega) _).mono ?_
    rintro e w1 ⟨rfl, rfl⟩
    rw [hHd.out]
    go_wp2_with fail
    refine (number_ref _ 4 _ _ (Lib.hid (by simp; omega)) (by omega) _ hp).mono ?_
    rintro e w1 ⟨rfl, rfl⟩
    go_wp2
    go_ret2
    exact ⟨rfl, rfl⟩
  · have hd : decide (0 ≤ k ∧ k + (4 : Nat) ≤ xs.length) = false := by simpa using h
    rw [ge_no h, gv_no h]
    have hHd := Lib.hid hd
    clear hd h
    go_enter Tryz.func97, Tryz.ntmps97
    go_wp2_with fail
    refine (there_ref _ _ cap k 4 (by omega) (by omega) _).mono ?_
    rintro e w1 ⟨rfl, rfl⟩
    rw [hHd.out]
    go_wp2
    go_ret2
    exact ⟨rfl, rfl⟩
end Go.Proofs.YtjlbkcnhbndgbaaGreat

/-
  The document's answers of layer 2: the contracts of package scionryref02. Conditions: those that each lemma states.
-/
namespace Go.Proofs.YtjlbkcnhbndgbaaGreat
open Go.RowKit

set_option maxHeartbeats 800000 in
theorem halved_any (s m : Nat) (h : s < 4294967296) (hm : m ≤ 1000) (w : World) :
    Calls Tryz.prog 112 #[.int .u32 s, .int .i64 m] w fun e w' => e = .returned (.int .u32 (halvesN m s)) ∧ w = w' := by
  go_enter Tryz.func112, Tryz.ntmps112
  go_wp2
  go_loop [0, 5] (fun t i => ∃ k : Nat, k ≤ m ∧ i = .int .i64 k ∧ t = .int .u32 (halvesN k s)) (fun _ i => m - (intOf i).toNat)
  case atStart => exact ⟨0, by omega, rfl, rfl⟩
  case round =>
    obtain ⟨k, hk, rfl, rfl⟩ := hrel
    have hq := halvesN_lt k h
    by_cases hlt : k < m
    · have hh := Lib.hid (halvesN_succ k s)
      generalize halvesN k s = q at *
      rcases (by omega : q % 2 = 1 ∨ q % 2 = 0) with h1 | h1
      · have e : Hid (halfN q = q / 2 ^^^ 3988292384) := Lib.hid (if_pos h1)
        have h1' : (q : Int) % 2 = 1 := by omega
        have hx := bxor (q / 2) 3988292384 ((q : Int) / 2) 3988292384 (by omega) (by omega) (by omega) (by omega)
        clear h1
        go_wp2
        go_round
        case rel => exact ⟨k + 1, by omega, by go_num, by rw [hh.out, e.out]⟩
        case measure => simp [intOf]; omega
      · have e : Hid (halfN q = q / 2) := Lib.hid (if_neg (by omega))
        have h1' : (q : Int) % 2 = 0 := by omega
        clear h1
        go_wp2
        go_round
        case rel => exact ⟨k + 1, by omega, by go_num, by rw [hh.out, e.out]; go_num⟩
        case measure => simp [intOf]; omega
    · obtain rfl : k = m := by omega
      go_wp2
      go_ret
      exact ⟨rfl, rfl⟩

set_option maxRecDepth 100000 in
set_option maxHeartbeats 1600000 in
theorem ofRef_ad (ad : Addr) (len cap : Nat) (xs : List UInt8) (hlen : Hid (xs.length = len)) (hlc : len ≤ cap) (hcap : cap ≤ 9223372036854775807) (w : World) (hbl : ad.block < w.heap.size) (hc : Hid (∀ j, j < len → w.cell? (ad.add j) = some (.int .u8 ((xs[j]?.getD 0).toNat : Int)))) :
    Calls Tryz.prog 98 #[.slice (some ad) len cap] w fun e w' => e = .returned (.int .u32 (crc xs : Nat)) ∧ Below w.heap.size w w' := by
  have h0 : #[Value.int .u32 0, .int .u32 0, .int .u32 0, .int .u32 0, .int .u32 0, .int .u32 0, .int .u32 0, .int .u32 0, .int .u32 0, .int .u32 0, .int .u32 0, .int .u32 0, .int .u32 0, .int .u32 0, .int .u32 0, .int .u32 0] = tabV 0 := by kernel_rfl
  have H0 := Lib.hid h0
  clear h0
  go_enter Tryz.func98, Tryz.ntmps98
  go_wp2
  rw [H0.out]
  go_loopw [4] (fun i wr => ∃ k : Nat, k ≤ 16 ∧ i = .int .i64 k ∧ wr.heap.size = w.heap.size + 1 ∧ wr.heap[w.heap.size]? = some (.cells (tabV k) 135 (0, 0)) ∧ Below w.heap.size w wr)
    (fun i _ => 16 - (intOf i).toNat)
  case atStart => exact ⟨0, by omega, rfl, by simp, heap_alloc_new w _, balloc (Below.refl _ _) _⟩
  case round =>
    obtain ⟨k, hk, rfl, hs, hT, hB⟩ := hrel
    by_cases hlt : k < 16
    · have hc : wr.cell? ⟨w.heap.size, k, none⟩ = some (.int .u32 0) := by rw [cell_of_row _ _ _ _ _ _ hT]; simp [tabV, hlt]
      have hf : wr.frozen? ⟨w.heap.size, k, none⟩ = false := frozen_of_row _ _ _ _ _ hT
      go_wp2_with (go_at_call 112; refine (halved_any k 4 (by omega) (by omega) _).mono ?_; rintro e w' ⟨rfl, rfl⟩)
      exact ⟨⟨k + 1, by omega, by go_num, by simpa using hs, (heap_setCell_same _ _ _ _ _ _ hT).trans (by rw [← tabV_set k hlt]; rfl), hB.setCell (by simp) _⟩, by simp [intOf]; omega⟩
    · obtain rfl : k = 16 := by omega
      have HT := Lib.hid hT
      clear hT hs
      go_wp2
      go_loop [5, 6] (fun s i => ∃ k : Nat, k ≤ len ∧ i = .int .i64 k ∧ s = .int .u32 (foldN 4294967295 (xs.take k) : Nat)) (fun _ i => len - (intOf i).toNat)
      case atStart => exact ⟨0, by omega, rfl, rfl⟩
      case round =>
        obtain ⟨k, hk, rfl, rfl⟩ := hrel
        have hq := foldN_lt (s := 4294967295) (xs.take k) (by omega)
        by_cases hlt : k < len
        · have hs := Lib.hid (take_succ_fold 4294967295 xs k (by rw [hlen.out]; exact hlt))
          have hcx := (hB.cell (p := ad.add k) (by rw [add_block]; exact hbl)).trans (hc.out k hlt)
          have hxb := (xs[k]?.getD 0).toNat_lt
          have hx1 := bxor (foldN 4294967295 (xs.take k)) (xs[k]?.getD 0).toNat _ _ rfl rfl hq (by omega)
          have hr1 := xor_lt32 hq (by omega : (xs[k]?.getD 0).toNat < 4294967296)
          generalize xs[k]?.getD 0 = c at *
          generalize foldN 4294967295 (xs.take k) = q at *
          generalize q ^^^ c.toNat = r1 at *
          have hc1 : wr.cell? ⟨w.heap.size, r1 % 16, none⟩ = some (.int .u32 (fourN (r1 % 16))) := by rw [cell_of_row _ _ _ _ _ _ HT.out]; exact tabV_get 16 _ (by omega) (by omega)
          have hx2 := bxor (r1 / 16) (fourN (r1 % 16)) ((r1 : Int) / 16) (fourN (r1 % 16)) (by omega) rfl (by omega) (fourN_lt (by omega))
          have hr2 := nibN_lt hr1
          have he2 : (r1 / 16) ^^^ fourN (r1 % 16) = nibN r1 := Nat.xor_comm _ _
          rw [he2] at hx2
          clear he2
          generalize nibN r1 = r2 at *
          have hc2 : wr.cell? ⟨w.heap.size, r2 % 16, none⟩ = some (.int .u32 (fourN (r2 % 16))) := by rw [cell_of_row _ _ _ _ _ _ HT.out]; exact tabV_get 16 _ (by omega) (by omega)
          have hx3 := bxor (r2 / 16) (fourN (r2 % 16)) ((r2 : Int) / 16) (fourN (r2 % 16)) (by omega) rfl (by omega) (fourN_lt (by omega))
          have hr3 := nibN_lt hr2
          have he3 : (r2 / 16) ^^^ fourN (r2 % 16) = nibN r2 := Nat.xor_comm _ _
          rw [he3] at hx3
          clear he3
          generalize nibN r2 = r3 at *
          have hf1 : fourN (r1 % 16) < 4294967296 := fourN_lt (by omega)
          have hf2 : fourN (r2 % 16) < 4294967296 := fourN_lt (by omega)
          generalize fourN (r1 % 16) = f1 at *
          generalize fourN (r2 % 16) = f2 at *
          have hm1 : ((r1 : Int) % 16).toNat = r1 % 16 := by omega
          have hm2 : ((r2 : Int) % 16).toNat = r2 % 16 := by omega
          have hm3 : r1 % 16 < 16 := by omega
          have hm4 : r2 % 16 < 16 := by omega
          clear hB
          go_wp2
          go_round
          case rel => exact ⟨k + 1, by omega, by go_num, by rw [hs.out]⟩
          case measure => simp [intOf]; omega
        · obtain rfl : k = len := by omega
          have he := Lib.hid (bxor _ 4294967295 _ 4294967295 rfl rfl hq (by omega))
          have ht := Lib.hid (List.take_of_length_le (l := xs) (Nat.le_of_eq hlen.out))
          go_wp2
          go_ret
          exact ⟨ret_int (he.out.trans (by rw [ht.out]; rfl)), hB⟩
set_option maxHeartbeats 800000 in
theorem ofRef_nil (A : Option Addr) (cap : Nat) (w : World) :
    Calls Tryz.prog 98 #[.slice A 0 cap] w fun e w' => e = .returned (.int .u32 0) ∧ Below w.heap.size w w' := by
  have h0 : #[Value.int .u32 0, .int .u32 0, .int .u32 0, .int .u32 0, .int .u32 0, .int .u32 0, .int .u32 0, .int .u32 0, .int .u32 0, .int .u32 0, .int .u32 0, .int .u32 0, .int .u32 0, .int .u32 0, .int .u32 0, .int .u32 0] = tabV 0 := by kernel_rfl
  have H0 := Lib.hid h0
  clear h0
  go_enter Tryz.func98, Tryz.ntmps98
  go_wp2
  rw [H0.out]
  go_loopw [4] (fun i wr => ∃ k : Nat, k ≤ 16 ∧ i = .int .i64 k ∧ wr.heap.size = w.heap.size + 1 ∧ wr.heap[w.heap.size]? = some (.cells (tabV k) 135 (0, 0)) ∧ Below w.heap.size w wr)
    (fun i _ => 16 - (intOf i).toNat)
  case atStart => exact ⟨0, by omega, rfl, by simp, heap_alloc_new w _, balloc (Below.refl _ _) _⟩
  case round =>
    obtain ⟨k, hk, rfl, hs, hT, hB⟩ := hrel
    by_cases hlt : k < 16
    · have hc : wr.cell? ⟨w.heap.size, k, none⟩ = some (.int .u32 0) := by rw [cell_of_row _ _ _ _ _ _ hT]; simp [tabV, hlt]
      have hf : wr.frozen? ⟨w.heap.size, k, none⟩ = false := frozen_of_row _ _ _ _ _ hT
      go_wp2_with (go_at_call 112; refine (halved_any k 4 (by omega) (by omega) _).mono ?_; rintro e w' ⟨rfl, rfl⟩)
      exact ⟨⟨k + 1, by omega, by go_num, by simpa using hs, (heap_setCell_same _ _ _ _ _ _ hT).trans (by rw [← tabV_set k hlt]; rfl), hB.setCell (by simp) _⟩, by simp [intOf]; omega⟩
    · obtain rfl : k = 16 := by omega
      clear hT hs
      go_wp2
      refine wp_loop_rounds 1 ?_
      rw [rounds_succ]
      go_wp2
      go_ret
      exact ⟨rfl, hB⟩
theorem ofRef_any (A : Option Addr) (len cap : Nat) (xs : List UInt8) (hlen : Hid (xs.length = len)) (hlc : len ≤ cap) (hcap : cap ≤ 9223372036854775807) (w : World) (hx : Byt w w.heap.size A xs) :
    Calls Tryz.prog 98 #[.slice A len cap] w fun e w' => e = .returned (.int .u32 (crc xs : Nat)) ∧ Below w.heap.size w w' := by
  rcases Nat.eq_zero_or_pos xs.length with h0 | h0
  · have hx0 : xs = [] := List.eq_nil_of_length_eq_zero h0
    subst hx0
    obtain rfl := hlen.out
    exact ofRef_nil A cap w
  · obtain ⟨ad, rfl, hbl, hc⟩ := hx h0
    exact ofRef_ad ad len cap xs hlen hlc hcap w hbl (Lib.hid fun j hj => hc j (by rw [hlen.out]; exact hj))

def lenOfV : Value → Nat
  | .slice _ n _ => n
  | _ => 0
theorem zeros_snoc (k : Nat) : zeros k ++ [0] = zeros (k + 1) := by simp [zeros, List.replicate_succ']
theorem u8s_zero : u8s [0] = [.int .u8 0] := rfl
theorem openRef_no (A : Option Addr) (len cap : Nat) (hl : len ≠ 128) (w : World) :
    Calls Tryz.prog 83 #[.slice A len cap] w fun e w' => e = .returned (.tuple #[.slice none 0 0, .int .i64 3]) ∧ w = w' := by
  go_enter Tryz.func83, Tryz.ntmps83
  go_wp2
  go_ret2
  exact ⟨rfl, rfl⟩
theorem ge_ok : ge 4 128 0 = 0 := rfl
theorem gv_ok {xs : List UInt8} (h : xs.length = 128) : gv 4 xs 0 = num (xs.take 4) := by
  rw [gv_yes (by omega)]
  rfl
theorem openRef_bad (ad : Addr) (cap : Nat) (xs : List UInt8) (hlen : Hid (xs.length = 128)) (hlc : 128 ≤ cap) (hcap : cap ≤ 9223372036854775807) (w : World) (hx : Byt w w.heap.size (some ad) xs) (hn : ¬ fits xs) :
    Calls Tryz.prog 83 #[.slice (some ad) 128 cap] w fun e w' => e = .returned (.tuple #[.slice none 0 0, .int .i64 8]) ∧ Below w.heap.size w w' := by
  have hp : Byt w w.heap.size (some (ad.add 4)) (xs.drop 4) := by
    obtain ⟨ad', e, hp⟩ := hx.part (k := 4) (n := 124) (by rw [hlen.out]; omega) (by omega)
    cases e
    rwa [List.take_of_length_le (by simp [hlen.out])] at hp
  have hpl : Hid ((xs.drop 4).length = 124) := Lib.hid (by simp [hlen.out])
  have hb := crc_lt (xs.drop 4)
  have hd' : ((num (xs.take 4) : Int) != (crc (xs.drop 4) : Nat)) = true := by simpa [fits] using hn
  have HD' := Lib.hid hd'
  have hgv := Lib.hid (gv_ok hlen.out)
  clear hn hd'
  go_enter Tryz.func83, Tryz.ntmps83
  go_wp2_with fail
  refine (getFour_ref _ _ cap 0 xs hlen (by omega) (by omega) _ hx).mono ?_
  rintro e w1 ⟨rfl, rfl⟩
  rw [hgv.out]
  go_wp2_with fail
  refine (ofRef_any _ _ _ _ hpl (by omega) (by omega) _ hp).mono ?_
  rintro e w2 ⟨rfl, hb2⟩
  generalize num (xs.take 4) = q at *
  generalize crc (xs.drop 4) = r at *
  have hd' := HD'.out
  go_wp2_with fail
  go_ret2
  exact ⟨rfl, hb2⟩
theorem openRef_ok (ad : Addr) (cap : Nat) (xs : List UInt8) (hlen : Hid (xs.length = 128)) (hlc : 128 ≤ cap) (hcap : cap ≤ 9223372036854775807) (w : World) (hx : Byt w w.heap.size (some ad) xs) (hn : fits xs) :
    Calls Tryz.prog 83 #[.slice (some ad) 128 cap] w fun e w' => ∃ v, e = .returned (.tuple #[v, .int .i64 0]) ∧ w'.ownsRow w.heap.size 5 1 v 124 (u8s (xs.drop 4)) ∧ Below w.heap.size w w' := by
  have hp : Byt w w.heap.size (some (ad.add 4)) (xs.drop 4) := by
    obtain ⟨ad', e, hp⟩ := hx.part (k := 4) (n := 124) (by rw [hlen.out]; omega) (by omega)
    cases e
    rwa [List.take_of_length_le (by simp [hlen.out])] at hp
  have hpl : Hid ((xs.drop 4).length = 124) := Lib.hid (by simp [hlen.out])
  have hb := crc_lt (xs.drop 4)
  have HN : Hid (num (xs.take 4) = (crc (xs.drop 4) : Nat)) := Lib.hid hn
  have hgv := Lib.hid (gv_ok hlen.out)
  obtain ⟨i0, hi, hz0, hz1, hz2⟩ := info_parts u8_info
  clear hn
  go_enter Tryz.func83, Tryz.ntmps83
  go_wp2_with fail
  refine (getFour_ref _ _ cap 0 xs hlen (by omega) (by omega) _ hx).mono ?_
  rintro e w1 ⟨rfl, rfl⟩
  rw [hgv.out, HN.out]
  go_wp2_with fail
  refine (ofRef_any _ _ _ _ hpl (by omega) (by omega) _ hp).mono ?_
  rintro e w2 ⟨rfl, hb2⟩
  have hp2 := (hp.below hb2).more hb2.size
  obtain ⟨v3, w3, hrun3, own3, ba3⟩ := app_byt (P := Tryz.prog) (w := w2) w2.heap.size 26 26 5 i0 Tryz.underlying26 hi hz0 hz1 hz2 (.slice none 0 0) 0 [] (World.ownsRow_nil _ _ _ _) w2.heap.size _ 124 (cap - 4) _ hp2 hpl.out (by omega) (Nat.le_refl _)
  rw [Nat.zero_add, List.nil_append] at own3
  have HO := Lib.hid (own_base own3 hb2.size)
  have H3 := Lib.hid hrun3
  have hB := bstep hb2 ba3
  clear hrun3 own3 hp2 hp hx hb2 ba3
  generalize crc (xs.drop 4) = r at *
  go_wp2_with (at_builtin; refine wpList_append_run rfl _ _ _ rfl rfl rfl H3.out ?_; clear H3)
  go_ret2
  exact ⟨_, rfl, HO.out, hB⟩
end Go.Proofs.YtjlbkcnhbndgbaaGreat

/-
  The document's answers of layer 4: a superblock's block, Write. Conditions: those that each lemma states.
-/
namespace Go.Proofs.YtjlbkcnhbndgbaaGreat
open Go.RowKit

def headS (s : Sp) : List UInt8 := le 4 s.1 ++ le 2 s.2.1 ++ le 4 s.2.2.1 ++ le 4 s.2.2.2.1 ++ [UInt8.ofNat s.2.2.2.2.length]
def twos (xs : List Int) : List UInt8 := xs.flatMap (le 2)
def bodyS (s : Sp) : List UInt8 := headS s ++ twos s.2.2.2.2
def blkS (s : Sp) : List UInt8 := sealN (bodyS s)
def wrS (s : Sp) : List UInt8 := if mayS s then blkS s else []
theorem headS_length (s : Sp) : (headS s).length = 15 := by simp [headS, le_length]
theorem twos_length (xs : List Int) : (twos xs).length = 2 * xs.length := by
  induction xs with
  | nil => rfl
  | cons x r ih =>
    show (le 2 x ++ twos r).length = _
    rw [List.length_append, le_length, ih, List.length_cons]
    omega
theorem twos_snoc (xs : List Int) (x : Int) : twos (xs ++ [x]) = twos xs ++ le 2 x := by simp [twos]
theorem bodyS_length (s : Sp) : (bodyS s).length = 15 + 2 * s.2.2.2.2.length := by rw [bodyS, List.length_append, headS_length, twos_length]
theorem blkS_length {s : Sp} (h : mayS s = true) : (blkS s).length = 128 := sealN_length (by rw [bodyS_length]; have := (mayS_of h).2.1; omega)
theorem rBy_nil_new (lo : Nat) (w : World) : rBy (New lo w) w [.slice none 0 0] [] := ⟨none, 0, rfl, by simp, by omega, fun i x h => by simp at h⟩
theorem ret_two {a : Value} {k : IntKind} {x y : Int} (h : x = y) : Ending.returned (.tuple #[a, .int k x]) = .returned (.tuple #[a, .int k y]) := by rw [h]
theorem takB_of {n : Int} (h : takB n = true) : 8 ≤ n ∧ n < 256 := by
  simp only [takB, Bool.and_eq_true, decide_eq_true_eq] at h
  exact h
/-- Bytes of the call's own, with bytes behind. -/
theorem app_own_byt (v : Value) (n m c : Nat) (xs ys : List UInt8) (A : Option Addr) (lo : Nat) (w : World) (hown : w.ownsRow lo 5 1 v n (u8s xs)) (hy : Byt w w.heap.size A ys) (hl : ys.length = m) (hs : n + m ≤ 1000000000) (hlo : lo ≤ w.heap.size) :
    ∃ v' w', (Builtin.append_ #[26, 26] 26 #[v, .slice A m c]).run Tryz.prog w = .ok v' w' ∧ w'.ownsRow lo 5 1 v' (n + m) (u8s (xs ++ ys)) ∧ Below lo w w' := by
  obtain ⟨i0, hi, hz0, hz1, hz2⟩ := info_parts u8_info0
  exact app_byt (P := Tryz.prog) (w := w) lo 26 26 5 i0 Tryz.underlying26 hi hz0 hz1 hz2 v n xs hown w.heap.size A m c ys hy hl hs hlo

end Go.Proofs.YtjlbkcnhbndgbaaGreat

/-
  slices.Grow of nil, slices.Concat, at bytes. Conditions: those that each lemma states.
-/
namespace Go.Proofs.YtjlbkcnhbndgbaaGreat
open Go.RowKit

/-- The walk at an 'append' of whatever second argument, of which it is known what it comes to. -/
theorem wpList_append_run2 {P : Program} {w : World} {ops : Array Oper} {rest : List Oper} {o : Oper} {a : Act} {Q : Exit → Act → World → Prop} (hgd : o.guard = none) (s x : Operand) (t tn : TypeId)
    (ho : o.op = .call { callee := .builtin .append, args := #[s, x], argTypes := #[t, tn] }) {v u v' : Value} {w' : World} (hs : a.eval s = v) (hx : a.eval x = u)
    (hrun : (Builtin.append_ #[t, tn] o.type #[v, u]).run P w = .ok v' w') (h : wpList P ops Q rest (a.put o.dst v') w') : wpList P ops Q (o :: rest) a w :=
  wpList_plain hgd fun _ hK => by
    unfold Oper.wp execOp
    simp only [ho, resolve, invoke, builtin, Sem.run_bind, Sem.run_pure, Result.andThen_ok, List.map_toArray, List.map_cons, List.map_nil, hs, hx, hrun]
    exact hK _ _ h

/-- How many bytes the first ones have. -/
def lens (xss : List (List UInt8)) : Nat := xss.flatten.length
theorem lens_snoc {xss : List (List UInt8)} {k : Nat} {x : List UInt8} (h : xss[k]? = some x) : lens (xss.take (k + 1)) = lens (xss.take k) + x.length := by
  simp [lens, List.take_add_one, h]
theorem flat_snoc {xss : List (List UInt8)} {k : Nat} {x : List UInt8} (h : xss[k]? = some x) : (xss.take (k + 1)).flatten = (xss.take k).flatten ++ x := by
  simp [List.take_add_one, h]
theorem lens_le {xss : List (List UInt8)} (k : Nat) : lens (xss.take k) ≤ lens xss := by
  have h : lens xss = lens (xss.take k) + lens (xss.drop k) := by
    unfold lens
    rw [← List.length_append, ← List.flatten_append, List.take_append_drop]
  omega

end Go.Proofs.YtjlbkcnhbndgbaaGreat

/-
  Layer 2: the contracts for every argument. Conditions: those that each lemma states.
-/
namespace Go.Proofs.YtjlbkcnhbndgbaaGreat
open Go.RowKit

/-- What Seal and Open answer. -/
def sb (xs : List UInt8) : List UInt8 := if xs.length ≤ 124 then sealN xs else []
def se (n : Nat) : Int := if n ≤ 124 then 0 else 3
open Classical in
noncomputable def ob (xs : List UInt8) : List UInt8 := if xs.length = 128 ∧ fits xs then xs.drop 4 else []
open Classical in
noncomputable def oe (xs : List UInt8) : Int := if xs.length = 128 then (if fits xs then 0 else 8) else 3

theorem open_any (A : Option Addr) (len cap : Nat) (xs : List UInt8) (hlen : Hid (xs.length = len)) (hlc : len ≤ cap) (hcap : cap ≤ 9223372036854775807) (w : World) (hx : Byt w w.heap.size A xs) :
    Calls Tryz.prog 63 #[.slice A len cap] w fun e w' => ∃ v, e = .returned (.tuple #[v, .int .i64 (oe xs)]) ∧ w'.ownsRow w.heap.size 5 1 v (ob xs).length (u8s (ob xs)) ∧ Below w.heap.size w w' := by
  by_cases h : len = 128
  · subst h
    obtain ⟨ad, rfl, _, _⟩ := hx (by rw [hlen.out]; omega)
    by_cases hf : fits xs
    · have h1 : oe xs = 0 := by unfold oe; rw [if_pos hlen.out, if_pos hf]
      have h2 : ob xs = xs.drop 4 := by unfold ob; rw [if_pos ⟨hlen.out, hf⟩]
      rw [h1, h2, show (xs.drop 4).length = 124 by simp [hlen.out]]
      exact open_ok ad cap xs hlen hlc hcap w hx hf
    · have h1 : oe xs = 8 := by unfold oe; rw [if_pos hlen.out, if_neg hf]
      have h2 : ob xs = [] := by unfold ob; rw [if_neg (fun h => hf h.2)]
      rw [h1, h2]
      refine (open_bad ad cap xs hlen hlc hcap w hx hf).mono ?_
      rintro e w' ⟨rfl, hb⟩
      exact ⟨_, rfl, World.ownsRow_nil _ _ _ _, hb⟩
  · have h1 : oe xs = 3 := by unfold oe; rw [if_neg (by rw [hlen.out]; exact h)]
    have h2 : ob xs = [] := by unfold ob; rw [if_neg (fun h' => h (by rw [← hlen.out]; exact h'.1))]
    rw [h1, h2]
    refine (open_no A len cap h w).mono ?_
    rintro e w' ⟨rfl, rfl⟩
    exact ⟨_, rfl, World.ownsRow_nil _ _ _ _, Below.refl _ _⟩
theorem openRef_any (A : Option Addr) (len cap : Nat) (xs : List UInt8) (hlen : Hid (xs.length = len)) (hlc : len ≤ cap) (hcap : cap ≤ 9223372036854775807) (w : World) (hx : Byt w w.heap.size A xs) :
    Calls Tryz.prog 83 #[.slice A len cap] w fun e w' => ∃ v, e = .returned (.tuple #[v, .int .i64 (oe xs)]) ∧ w'.ownsRow w.heap.size 5 1 v (ob xs).length (u8s (ob xs)) ∧ Below w.heap.size w w' := by
  by_cases h : len = 128
  · subst h
    obtain ⟨ad, rfl, _, _⟩ := hx (by rw [hlen.out]; omega)
    by_cases hf : fits xs
    · have h1 : oe xs = 0 := by unfold oe; rw [if_pos hlen.out, if_pos hf]
      have h2 : ob xs = xs.drop 4 := by unfold ob; rw [if_pos ⟨hlen.out, hf⟩]
      rw [h1, h2, show (xs.drop 4).length = 124 by simp [hlen.out]]
      exact openRef_ok ad cap xs hlen hlc hcap w hx hf
    · have h1 : oe xs = 8 := by unfold oe; rw [if_pos hlen.out, if_neg hf]
      have h2 : ob xs = [] := by unfold ob; rw [if_neg (fun h => hf h.2)]
      rw [h1, h2]
      refine (openRef_bad ad cap xs hlen hlc hcap w hx hf).mono ?_
      rintro e w' ⟨rfl, hb⟩
      exact ⟨_, rfl, World.ownsRow_nil _ _ _ _, hb⟩
  · have h1 : oe xs = 3 := by unfold oe; rw [if_neg (by rw [hlen.out]; exact h)]
    have h2 : ob xs = [] := by unfold ob; rw [if_neg (fun h' => h (by rw [← hlen.out]; exact h'.1))]
    rw [h1, h2]
    refine (openRef_no A len cap h w).mono ?_
    rintro e w' ⟨rfl, rfl⟩
    exact ⟨_, rfl, World.ownsRow_nil _ _ _ _, Below.refl _ _⟩
end Go.Proofs.YtjlbkcnhbndgbaaGreat

/-
  Package ring: Write. Conditions: those that each lemma states.
-/
namespace Go.Proofs.YtjlbkcnhbndgbaaGreat
open Go.RowKit

theorem byte_lit (w : World) (t : TypeId) (x : UInt8) (n : Int) (h : (x.toNat : Int) = n) : rBy (Old (w.alloc (.cells #[.int .u8 n] t))) (w.alloc (.cells #[.int .u8 n] t)) [.slice (some ⟨w.heap.size, 0, none⟩) 1 1] [x] := by
  subst h
  have hy := byt_new w t [x] #[.int .u8 (x.toNat : Int)] rfl
  have e : (w.alloc (.cells #[.int .u8 (x.toNat : Int)] t)).heap.size = w.heap.size + 1 := by simp
  rw [← e] at hy
  exact byt_rBy (xs := [x]) (cap := 1) hy (Nat.le_refl _) (by omega)
/-- A literal row of slices of bytes. -/
theorem rows_lit (w : World) (t : TypeId) (vs : List Value) (xss : List (List UInt8)) (hl : vs.length = xss.length) (hb : xss.length ≤ 1000) (h : ∀ (i : Nat) (v : Value) (x : List UInt8), vs[i]? = some v → xss[i]? = some x → rBy (Old w) w [v] x) :
    rSl 1 rBy (Old (w.alloc (.cells vs.toArray t))) (w.alloc (.cells vs.toArray t)) [.slice (some ⟨w.heap.size, 0, none⟩) xss.length xss.length] xss := by
  have hB : Below w.heap.size w (w.alloc (.cells vs.toArray t)) := (Below.refl _ _).alloc (Nat.le_refl _) _
  refine ⟨_, _, rfl, Nat.le_refl _, by omega, fun i x hi => ?_⟩
  have hil : i < vs.length := by rw [hl]; exact (List.getElem?_eq_some_iff.1 hi).1
  have hv : vs[i]? = some vs[i] := List.getElem?_eq_getElem hil
  refine ⟨_, [vs[i]], rfl, rfl, fun j v hj => ?_, stab_by.old (h i _ x hv hi) hB⟩
  have hj0 : j = 0 := by
    have := (List.getElem?_eq_some_iff.1 hj).1
    simp at this
    omega
  subst hj0
  cases hj
  have e : (⟨w.heap.size, 0, none⟩ : Addr).add (i * 1 + 0) = ⟨w.heap.size, i, none⟩ := by rw [add_off]; simp
  rw [e]
  refine ⟨by simp [Old], ?_⟩
  simp

end Go.Proofs.YtjlbkcnhbndgbaaGreat

/-
  Package ring: Write of any superblock, deadOf, fields, Read; cmp.Or. Conditions: those that each lemma states.
-/
namespace Go.Proofs.YtjlbkcnhbndgbaaGreat
open Go.RowKit

theorem put_five {W : World} {g : Nat} {a b c d e u0 u1 u2 u3 u4 : Value} {t : TypeId} (h : W.heap[g]? = some (.cells #[a, b, c, d, e] t (0, 0))) : ∃ W1, ((((W.setCell ⟨g, 0, none⟩ u0).setCell ⟨g, 1, none⟩ u1).setCell ⟨g, 2, none⟩ u2).setCell ⟨g, 3, none⟩ u3).setCell ⟨g, 4, none⟩ u4 = W1 ∧
    W1.heap[g]? = some (.cells #[u0, u1, u2, u3, u4] t (0, 0)) ∧ W.grownBy W1 (some g) ∧ W1.heap.size = W.heap.size :=
  ⟨_, rfl, by simp [World.setCell, Array.getElem?_modify, h], grow_put (p := ⟨g, 4, none⟩) (grow_put (p := ⟨g, 3, none⟩) (grow_put (p := ⟨g, 2, none⟩) (grow_put (p := ⟨g, 1, none⟩) (grow_put (p := ⟨g, 0, none⟩) (grow_refl W (some g)) rfl u0) rfl u1) rfl u2) rfl u3) rfl u4, by simp⟩
theorem five_cells {W : World} {g : Nat} {a b c d e : Value} {t : TypeId} (h : W.heap[g]? = some (.cells #[a, b, c, d, e] t (0, 0))) : W.cell? ⟨g, 0, none⟩ = some a ∧ W.cell? ⟨g, 1, none⟩ = some b ∧ W.cell? ⟨g, 2, none⟩ = some c ∧ W.cell? ⟨g, 3, none⟩ = some d ∧ W.cell? ⟨g, 4, none⟩ = some e ∧ (∀ o, W.frozen? ⟨g, o, none⟩ = false) ∧ g < W.heap.size :=
  ⟨by simp [World.cell?, h], by simp [World.cell?, h], by simp [World.cell?, h], by simp [World.cell?, h], by simp [World.cell?, h], fun o => by simp [World.frozen?, h], (Array.getElem?_eq_some_iff.1 h).1⟩

/-! ### The numbers that wait, as bytes tell them -/
def deadN (body : List UInt8) (k : Nat) : List Int := (List.range k).map fun i : Nat => gv 2 body (15 + 2 * (i : Int))
theorem deadN_length (body : List UInt8) (k : Nat) : (deadN body k).length = k := by simp [deadN]
theorem deadN_succ (body : List UInt8) (k : Nat) : deadN body (k + 1) = deadN body k ++ [gv 2 body (15 + 2 * (k : Int))] := by simp [deadN, List.range_succ]
def cntN (body : List UInt8) : Nat := (body[14]?.getD 0).toNat
theorem cntN_lt (body : List UInt8) : cntN body < 256 := (body[14]?.getD 0).toNat_lt
theorem int_info0 : (Tryz.prog.info? 3).map (fun i => (i.zero, i.size, i.bytes)) = some (some (.int .i64 0), 1, 8) := by kernel_rfl
theorem rI64_mk {ok : Addr → Prop} {w : World} {n : Int} (h : In64 n) : rK .i64 ok w [.int .i64 n] n := ⟨rfl, by simpa [IntKind.min, IntKind.signed, IntKind.bits] using h.1, by simpa [IntKind.max, IntKind.signed, IntKind.bits] using h.2⟩
theorem ints_push {w : World} {lo : Nat} {A : Option Addr} {c : Nat} {xs : List Int} (h : RowOf (rK .i64) 1 3 lo w A c xs) (g : Nat) (n : Int) (m : Nat) (hg : w.heap[g]? = some (.cells #[.int .i64 n] 3 (0, 0))) (hs : xs.length < 100000) (hbase : lo ≤ w.heap.size) (hn : In64 n) :
    ∃ A' c' w', (Builtin.append_ #[31, 31] 31 #[.slice A xs.length c, .slice (some ⟨g, 0, none⟩) 1 m]).run Tryz.prog w = .ok (.slice A' (xs.length + 1) c') w' ∧ RowOf (rK .i64) 1 3 lo w' A' c' (xs ++ [n]) ∧ w.grownBy w' (A.map (·.block)) ∧ Below lo w w' := by
  obtain ⟨i0, hi, hz0, hz1, hz2⟩ := info_parts int_info0
  exact RowOf.push (stab_k _) h 31 31 i0 (.int .i64 0) 8 Tryz.underlying31 hi hz0 hz1 hz2 rfl (by decide) ⟨g, 0, none⟩ m _ n rfl (World.news_of_block (cs := #[.int .i64 n]) hg) (fun u hu => by
    simp at hu
    subst hu
    rfl) (by unfold maxLen; omega) (by omega) hbase (rI64_mk hn)

def deadE (k : Nat) : Int := if k ≤ 54 then 0 else 8
def deadV (body : List UInt8) : List Int := if cntN body ≤ 54 then deadN body (cntN body) else []
theorem gv2_in (body : List UInt8) (k : Int) : In64 (gv 2 body k) := by
  have := gv_bounds 2 body k
  exact ⟨by omega, by omega⟩
theorem gv4_in (body : List UInt8) (k : Int) : InU (gv 4 body k) := by
  have := gv_bounds 4 body k
  exact ⟨by omega, by omega⟩

/-! ### The first that is no nought -/
def orN (xs : List Int) : Int := (xs.find? fun x => x != 0).getD 0
theorem orN_take {xs : List Int} {k : Nat} {x : Int} (h : ∀ y ∈ xs.take k, y = 0) (hx : xs[k]? = some x) (h0 : x ≠ 0) : orN xs = x := by
  have e : xs = xs.take k ++ x :: xs.drop (k + 1) := by
    have hk := (List.getElem?_eq_some_iff.1 hx)
    obtain ⟨hk1, hk2⟩ := hk
    rw [← hk2, ← List.drop_eq_getElem_cons hk1, List.take_append_drop]
  unfold orN
  rw [e, List.find?_append, List.find?_eq_none.2 (by intro y hy; simp [h y hy])]
  simp [h0]
theorem orN_zero {xs : List Int} (h : ∀ y ∈ xs, y = 0) : orN xs = 0 := by
  unfold orN
  rw [List.find?_eq_none.2 (by intro y hy; simp [h y hy])]
  rfl
set_option maxRecDepth 100000 in
set_option maxHeartbeats 2000000 in
theorem or_any (v : Value) (xs : List Int) (w : World) (h : rInts (Old w) w [v] xs) :
    Calls Tryz.prog 107 #[v] w fun e w' => e = .returned (.int .i64 (orN xs)) ∧ w = w' := by
  obtain ⟨A, c, rfl, l1, m1, hA⟩ := rInts_open h
  have HA := Lib.hid hA
  clear hA h
  obtain ⟨n, hn⟩ : ∃ n, xs.length = n := ⟨_, rfl⟩
  rw [hn] at l1 ⊢
  replace hn := Lib.hid hn
  go_enter Tryz.func107, Tryz.ntmps107
  go_wp2_with fail
  go_loop [8] (fun i => ∃ k : Nat, k ≤ n ∧ i = .int .i64 k ∧ ∀ y ∈ xs.take k, y = 0) (fun i => n - (intOf i).toNat)
  case atStart => exact ⟨0, by omega, rfl, fun y hy => by simp at hy⟩
  case round =>
    obtain ⟨k, hk, rfl, ha⟩ := hrel
    replace ha := Lib.hid ha
    by_cases hlt : k < n
    · obtain ⟨x, hx⟩ : ∃ x, xs[k]? = some x := ⟨_, List.getElem?_eq_getElem (by rw [hn.out]; exact hlt)⟩
      obtain ⟨ad, rfl, hok, hc, _⟩ := HA.out k x hx
      replace hx := Lib.hid hx
      by_cases e : x = 0
      · have he : (x != 0) = false := by simpa using e
        replace e := Lib.hid e
        go_wp2_with fail
        go_round
        case rel => exact ⟨k + 1, by omega, by go_num, fun y hy => by
          rw [List.take_add_one, hx.out] at hy
          simp at hy
          rcases hy with hy | hy
          · exact ha.out y hy
          · rw [hy]; exact e.out⟩
        case measure => simp [intOf]; omega
      · have he : (x != 0) = true := by simpa using e
        have hor := Lib.hid (orN_take ha.out hx.out e)
        clear e
        go_wp2_with fail
        go_ret
        exact ⟨ret_int hor.out.symm, rfl⟩
    · have hge : n ≤ k := by omega
      have hor : Hid (orN xs = 0) := Lib.hid (orN_zero (by
        have := ha.out
        rwa [List.take_of_length_le (by rw [hn.out]; exact hge)] at this))
      go_wp2_with fail
      go_ret
      exact ⟨ret_int hor.out.symm, rfl⟩
/-- A literal row of numbers. -/
theorem ints_lit (w : World) (t : TypeId) (xs : List Int) (cs : Array Value) (hc : cs.toList = xs.map fun x => Value.int .i64 x) (hb : xs.length ≤ 1000) (h : ∀ x ∈ xs, In64 x) :
    rInts (Old (w.alloc (.cells cs t))) (w.alloc (.cells cs t)) [.slice (some ⟨w.heap.size, 0, none⟩) xs.length xs.length] xs := by
  refine ⟨_, _, rfl, Nat.le_refl _, by omega, fun i x hi => ?_⟩
  refine ⟨_, [.int .i64 x], rfl, rfl, fun j v hj => ?_, rI64_mk (h x (List.mem_of_getElem? hi))⟩
  have hj0 : j = 0 := by
    have := (List.getElem?_eq_some_iff.1 hj).1
    simp at this
    omega
  subst hj0
  cases hj
  have e : (⟨w.heap.size, 0, none⟩ : Addr).add (i * 1 + 0) = ⟨w.heap.size, i, none⟩ := by rw [add_off]; simp
  rw [e]
  have hci : cs[i]? = some (.int .i64 x) := by rw [← Array.getElem?_toList, hc, List.getElem?_map, hi]; rfl
  refine ⟨by simp [Old], ?_⟩
  rw [← hci]
  simp
end Go.Proofs.YtjlbkcnhbndgbaaGreat

/-
  The document's answers of layer 8: May, Check, asked, Same, New, All, Free. Conditions: those that each lemma states.
-/
namespace Go.Proofs.YtjlbkcnhbndgbaaGreat
open Go.RowKit

theorem refMayT_by (v : Value) (t : List UInt8) (w : World) (h : rBy (Old w) w [v] t) : Calls Tryz.prog 55 #[v] w fun e w' => e = .returned (.bool (mayT t)) ∧ w = w' := by
  obtain ⟨A, c, rfl, l1, m1, hb⟩ := rBy_byt (B := w.heap.size) (fun _ h => h) h
  exact refMayT_any A t.length c t (Lib.hid rfl) l1 m1 w hb

set_option maxRecDepth 100000 in
set_option maxHeartbeats 2000000 in
theorem refMayR_any (v : Value) (s : Rm) (w : World) (h : Sto (Old w) w v s) : Calls Tryz.prog 28 #[v] w fun e w' => e = .returned (.bool (mayR s)) ∧ Below w.heap.size w w' := by
  obtain ⟨A, ca, B, cb, N, cn, L, cl, w1, rfl, hw1, f, hsz, hB, D, NN, LL⟩ := box_sto h
  clear h
  obtain ⟨k0, k1, k2, k3, _, kg⟩ := four_cells f
  replace hsz := Lib.hid hsz
  obtain ⟨p, hp⟩ : ∃ p, mayB s.1 = p := ⟨_, rfl⟩
  obtain ⟨q, hq⟩ : ∃ q, mayT s.2.1 = q := ⟨_, rfl⟩
  obtain ⟨r, hr⟩ : ∃ r, mayT s.2.2 = r := ⟨_, rfl⟩
  have hR : Hid (mayR s = (p && q && r)) := Lib.hid (by rw [mayR, hp, hq, hr])
  replace hp := Lib.hid hp
  replace hq := Lib.hid hq
  replace hr := Lib.hid hr
  cases p with
  | false =>
    go_enter Tryz.func28, Tryz.ntmps28
    go_upto_region 1 with fail
    clear hw1
    go_wp2_with fail
    with_reducible refine (may_any _ s.1 _ D.out).mono ?_
    rintro e w2 ⟨rfl, hb2⟩
    rw [hp.out]
    go_wp2_with fail
    go_ret
    exact ⟨ret_bool (by rw [hR.out]; rfl), hB.trans (hb2.mono hB.size)⟩
  | true =>
    cases q
    all_goals
      go_enter Tryz.func28, Tryz.ntmps28
      go_upto_region 1 with fail
      clear hw1
      go_wp2_with fail
      with_reducible refine (may_any _ s.1 _ D.out).mono ?_
      rintro e w2 ⟨rfl, hb2⟩
      rw [hp.out]
      replace k2 := (hb2.cell (p := ⟨w.heap.size, 2, none⟩) kg).trans k2
      replace k3 := (hb2.cell (p := ⟨w.heap.size, 3, none⟩) kg).trans k3
      have N2 := Lib.hid (stab_by.old NN.out hb2)
      have L2 := Lib.hid (stab_by.old LL.out hb2)
      replace hb2 := Lib.hid (hB.trans (hb2.mono hB.size))
      go_wp2_with fail
      with_reducible refine (refMayT_by _ s.2.1 _ N2.out).mono ?_
      rintro e w3 ⟨rfl, rfl⟩
      rw [hq.out]
      go_wp2_with fail
    · go_ret
      exact ⟨ret_bool (by rw [hR.out]; rfl), hb2.out⟩
    · with_reducible refine (refMayT_by _ s.2.2 _ L2.out).mono ?_
      rintro e w3 ⟨rfl, rfl⟩
      rw [hr.out]
      go_wp2_with fail
      go_ret
      exact ⟨ret_bool (by rw [hR.out]; cases r <;> rfl), hb2.out⟩

set_option maxRecDepth 100000 in
set_option maxHeartbeats 2000000 in
theorem refCheckR_any (v : Value) (s : Rm) (w : World) (h : Sto (Old w) w v s) : Calls Tryz.prog 18 #[v] w fun e w' => e = .returned (.int .i64 (chkR s)) ∧ Below w.heap.size w w' := by
  obtain ⟨A, ca, B, cb, N, cn, L, cl, w1, rfl, hw1, f, hsz, hB, _, _, _⟩ := box_sto h
  have H := Lib.hid (h.below hB)
  clear h
  obtain ⟨k0, k1, k2, k3, _, kg⟩ := four_cells f
  replace hsz := Lib.hid hsz
  obtain ⟨p, hp⟩ : ∃ p, mayR s = p := ⟨_, rfl⟩
  have hR : Hid (chkR s = if p then 0 else 8) := Lib.hid (by rw [chkR, hp])
  replace hp := Lib.hid hp
  cases p
  all_goals
    go_enter Tryz.func18, Tryz.ntmps18
    go_upto_region 1 with fail
    clear hw1
    go_wp2_with fail
    with_reducible refine (refMayR_any _ s _ H.out).mono ?_
    rintro e w2 ⟨rfl, hb2⟩
    rw [hp.out]
    replace hb2 := Lib.hid (hB.trans (hb2.mono hB.size))
    go_wp2_with fail
    go_ret
    exact ⟨ret_int (by rw [hR.out]; rfl), hb2.out⟩

set_option maxRecDepth 100000 in
set_option maxHeartbeats 2000000 in
theorem refAskedR_any (v : Value) (s : Rm) (n : Int) (w : World) (h : Sto (Old w) w v s) : Calls Tryz.prog 37 #[v, .int .i64 n] w fun e w' => e = .returned (.int .i64 (asE s n)) ∧ Below w.heap.size w w' := by
  obtain ⟨A, ca, B, cb, N, cn, L, cl, w1, rfl, hw1, f, hsz, hB, _, NN, _⟩ := box_sto h
  have H := Lib.hid (h.below hB)
  clear h
  obtain ⟨k0, k1, k2, k3, _, kg⟩ := four_cells f
  replace hsz := Lib.hid hsz
  rcases as_ways s n with ⟨hm, he⟩ | ⟨hm, hn, he⟩ | ⟨k, hm, rfl, h8, h256, hx, he⟩ | ⟨k, hm, rfl, h8, h256, hx, he⟩
  · replace he := Lib.hid he
    go_enter Tryz.func37, Tryz.ntmps37
    go_upto_region 1 with fail
    clear hw1
    go_wp2_with fail
    with_reducible refine (refMayR_any _ s _ H.out).mono ?_
    rintro e w2 ⟨rfl, hb2⟩
    rw [hm]
    replace hb2 := Lib.hid (hB.trans (hb2.mono hB.size))
    go_wp2_with fail
    go_ret
    exact ⟨ret_int he.out.symm, hb2.out⟩
  · replace he := Lib.hid he
    by_cases h8 : n < 8
    · clear hn
      go_enter Tryz.func37, Tryz.ntmps37
      go_upto_region 1 with fail
      clear hw1
      go_wp2_with fail
      with_reducible refine (refMayR_any _ s _ H.out).mono ?_
      rintro e w2 ⟨rfl, hb2⟩
      rw [hm]
      replace hb2 := Lib.hid (hB.trans (hb2.mono hB.size))
      go_wp2_with fail
      go_ret
      exact ⟨ret_int he.out.symm, hb2.out⟩
    · have h9 : 256 ≤ n := by omega
      clear hn
      go_enter Tryz.func37, Tryz.ntmps37
      go_upto_region 1 with fail
      clear hw1
      go_wp2_with fail
      with_reducible refine (refMayR_any _ s _ H.out).mono ?_
      rintro e w2 ⟨rfl, hb2⟩
      rw [hm]
      replace hb2 := Lib.hid (hB.trans (hb2.mono hB.size))
      go_wp2_with fail
      go_ret
      exact ⟨ret_int he.out.symm, hb2.out⟩
  all_goals
    replace he := Lib.hid he
    have hlen := mayT_len (mayR_of hm).2.1
    obtain ⟨A', c', e2, l1, m1, hby⟩ := rBy_byt (B := w1.heap.size) (fun _ h => h) NN.out
    cases e2
    obtain ⟨ad, rfl, hbk, hc⟩ := hby (by omega)
    have hcell := hc k (by omega)
    replace hbk : (ad.add k).block < w1.heap.size := by rw [add_block]; exact hbk
    obtain ⟨x, hx2⟩ : ∃ x, s.2.1[k]?.getD 0 = x := ⟨_, rfl⟩
    rw [hx2] at hcell hx
    have hlt : k < s.2.1.length := by omega
    first
      | have t0 := byte_same (y := 0) (q := 0) rfl hx
      | have t0 := byte_unlike (y := 0) (q := 0) rfl hx
    have i1 : ¬ (k : Int) < 8 := by omega
    have i2 : ¬ 256 ≤ (k : Int) := by omega
    replace hx2 := Lib.hid hx2
    replace hx := Lib.hid hx
    replace hlen := Lib.hid hlen
    clear hc hby
    go_enter Tryz.func37, Tryz.ntmps37
    go_upto_region 1 with fail
    clear hw1
    go_wp2_with fail
    with_reducible refine (refMayR_any _ s _ H.out).mono ?_
    rintro e w2 ⟨rfl, hb2⟩
    rw [hm]
    replace k2 := (hb2.cell (p := ⟨w.heap.size, 2, none⟩) kg).trans k2
    replace hcell := (hb2.cell hbk).trans hcell
    replace hb2 := Lib.hid (hB.trans (hb2.mono hB.size))
    go_wp2_with fail
    go_ret
    exact ⟨ret_int he.out.symm, hb2.out⟩

set_option maxRecDepth 100000 in
set_option maxHeartbeats 4000000 in
theorem refSameR_any (v u : Value) (s o : Rm) (w : World) (h : Sto (Old w) w v s) (hu : Sto (Old w) w u o) :
    Calls Tryz.prog 15 #[v, u] w fun e w' => e = .returned (.bool (sameR s o)) ∧ Below w.heap.size w w' := by
  obtain ⟨A, ca, B, cb, N, cn, L, cl, rfl, _, _, _⟩ := h.open
  obtain ⟨A', ca', B', cb', N', cn', L', cl', rfl, _, _, _⟩ := hu.open
  obtain ⟨w1, hw1, f1, f2, hsz, hB⟩ : ∃ w1, (w.alloc (.cells #[.slice A s.1.1.length ca, .slice B s.1.2.length cb, .slice N s.2.1.length cn, .slice L s.2.2.length cl] 28)).alloc (.cells #[.slice A' o.1.1.length ca', .slice B' o.1.2.length cb', .slice N' o.2.1.length cn', .slice L' o.2.2.length cl'] 28) = w1 ∧
      w1.heap[w.heap.size]? = some (.cells #[.slice A s.1.1.length ca, .slice B s.1.2.length cb, .slice N s.2.1.length cn, .slice L s.2.2.length cl] 28 (0, 0)) ∧ w1.heap[w.heap.size + 1]? = some (.cells #[.slice A' o.1.1.length ca', .slice B' o.1.2.length cb', .slice N' o.2.1.length cn', .slice L' o.2.2.length cl'] 28 (0, 0)) ∧ w1.heap.size = w.heap.size + 2 ∧ Below w.heap.size w w1 := by
    refine ⟨_, rfl, alloc_block (heap_alloc_new _ _), ?_, by simp, ((Below.refl _ w).alloc (Nat.le_refl _) _).alloc (by simp) _⟩
    have := heap_alloc_new (w.alloc (.cells #[.slice A s.1.1.length ca, .slice B s.1.2.length cb, .slice N s.2.1.length cn, .slice L s.2.2.length cl] 28)) (.cells #[.slice A' o.1.1.length ca', .slice B' o.1.2.length cb', .slice N' o.2.1.length cn', .slice L' o.2.2.length cl'] 28)
    rwa [World.size_alloc] at this
  have H := Lib.hid (h.below hB)
  have U := Lib.hid (hu.below hB)
  clear h hu
  obtain ⟨k0, k1, k2, k3, _, kg⟩ := four_cells f1
  obtain ⟨j0, j1, j2, j3, _, jg⟩ := four_cells f2
  replace hsz := Lib.hid hsz
  replace f1 := Lib.hid f1
  replace f2 := Lib.hid f2
  obtain ⟨p, hp⟩ : ∃ p, sameB s.1 o.1 = p := ⟨_, rfl⟩
  obtain ⟨q, hq⟩ : ∃ q, (s.2.1 == o.2.1) = q := ⟨_, rfl⟩
  obtain ⟨r, hr⟩ : ∃ r, (s.2.2 == o.2.2) = r := ⟨_, rfl⟩
  have hR : Hid (sameR s o = (p && q && r)) := Lib.hid (by rw [sameR, hp, ← hq, ← hr, beq_dec, beq_dec])
  replace hp := Lib.hid hp
  cases p with
  | false =>
    go_enter Tryz.func15, Tryz.ntmps15
    go_upto_region 1 with fail
    clear hw1
    go_wp2_with fail
    with_reducible refine (refSame_any _ _ s.1 o.1 _ H.out.parts.1 U.out.parts.1).mono ?_
    rintro e w2 ⟨rfl, hb2⟩
    rw [hp.out]
    replace hb2 := Lib.hid (hB.trans (hb2.mono hB.size))
    go_wp2_with fail
    go_ret
    exact ⟨ret_bool (by rw [hR.out]; rfl), hb2.out⟩
  | true =>
    cases q
    all_goals
      go_enter Tryz.func15, Tryz.ntmps15
      go_upto_region 1 with fail
      clear hw1
      go_wp2_with fail
      with_reducible refine (refSame_any _ _ s.1 o.1 _ H.out.parts.1 U.out.parts.1).mono ?_
      rintro e w2 ⟨rfl, hb2⟩
      rw [hp.out]
      replace k2 := (hb2.cell (p := ⟨w.heap.size, 2, none⟩) kg).trans k2
      replace k3 := (hb2.cell (p := ⟨w.heap.size, 3, none⟩) kg).trans k3
      replace j2 := (hb2.cell (p := ⟨w.heap.size + 1, 2, none⟩) jg).trans j2
      replace j3 := (hb2.cell (p := ⟨w.heap.size + 1, 3, none⟩) jg).trans j3
      have s1 := rBy_str0 (H.out.below hb2).parts.2.1
      have s2 := rBy_str0 (U.out.below hb2).parts.2.1
      have s3 := rBy_str0 (H.out.below hb2).parts.2.2
      have s4 := rBy_str0 (U.out.below hb2).parts.2.2
      replace hb2 := Lib.hid (hB.trans (hb2.mono hB.size))
      go_wp2_with fail
      go_ret
      exact ⟨ret_bool (by rw [hR.out]; first | rfl | simp), hb2.out⟩

set_option maxRecDepth 100000 in
set_option maxHeartbeats 4000000 in
theorem refNewR_any (w : World) : Calls Tryz.prog 21 #[] w fun e w' => ∃ t, e = .returned t ∧ Sto (New w.heap.size w') w' t newR ∧ Below w.heap.size w w' := by
  obtain ⟨w1, hw1, f1, hsz, hB⟩ := box_4 w (.slice none 0 0) (.slice none 0 0) (.slice none 0 0) (.slice none 0 0) 28
  have hz : Hid ((zeros 256).length = 256) := Lib.hid (zeros_length 256)
  replace hsz := Lib.hid hsz
  go_enter Tryz.func21, Tryz.ntmps21
  go_upto_region 1 with fail
  clear hw1
  go_wp2_with fail
  with_reducible refine (refNew_any _).mono ?_
  rintro e w2 ⟨u, rfl, h2, hb2⟩
  obtain ⟨P, p, Q, r, rfl, _⟩ := id h2.open
  have H2 := Lib.hid h2
  have F2 := (hb2.block w.heap.size (by rw [hsz.out]; omega)).trans f1
  have B2 := Lib.hid (hB.trans (hb2.mono hB.size))
  have s2 : Hid (w.heap.size + 1 ≤ w1.heap.size ∧ w1.heap.size ≤ w2.heap.size) := Lib.hid ⟨by rw [hsz.out]; omega, hb2.size⟩
  clear h2 hb2 f1
  go_wp2_with fail
  with_reducible refine (refNewT_by _).mono ?_
  rintro e w3 ⟨g3, rfl, h3, hb3⟩
  have H3 := Lib.hid h3
  have D3 := Lib.hid (H2.out.new (Nat.le_refl _) hb3)
  have F3 := (hb3.block w.heap.size (by have := s2.out; omega)).trans F2
  have B3 := Lib.hid (B2.out.trans (hb3.mono B2.out.size))
  have s3 : Hid (w2.heap.size ≤ w3.heap.size) := Lib.hid hb3.size
  clear h3 hb3 F2 H2
  go_wp2_with fail
  with_reducible refine (refNewT_by _).mono ?_
  rintro e w4 ⟨g4, rfl, h4, hb4⟩
  have D4 := D3.out.new (Nat.le_refl _) hb4
  have N4 := stab_by.new H3.out (Nat.le_refl _) hb4
  have F4 := (hb4.block w.heap.size (by have := s2.out; have := s3.out; omega)).trans F3
  have B4 := B3.out.trans (hb4.mono B3.out.size)
  obtain ⟨c0, c1, c2, c3, c4, c5⟩ := four_cells F4
  obtain ⟨W9, hW9, g9, gr9, gs9⟩ := put_four (a' := .slice P zeroD.1.length p) (b' := .slice Q zeroD.2.length r) (c' := .slice (some ⟨g3, 0, none⟩) 256 256) (d' := .slice (some ⟨g4, 0, none⟩) 256 256) F4
  obtain ⟨n0, n1, n2, n3, _, _⟩ := four_cells g9
  have q2 := s2.out
  have q3 := s3.out
  have l2 := B2.out.size
  have l3 := B3.out.size
  have hfin := Lib.hid (show Sto (New w.heap.size W9) W9 (.agg #[.slice P zeroD.1.length p, .slice Q zeroD.2.length r, .slice (some ⟨g3, 0, none⟩) 256 256, .slice (some ⟨g4, 0, none⟩) 256 256]) newR from
    Sto.mk ((D4.grown gr9 (fun q e => by cases e; omega)).new (by omega) (Below.refl _ _)) (stab_by.new (stab_by.grown N4 gr9 (fun q e => by cases e; omega)) (by omega) (Below.refl _ _)) (stab_by.new (stab_by.grown h4 gr9 (fun q e => by cases e; omega)) (by omega) (Below.refl _ _)))
  have hB9 := Lib.hid (B4.grown gr9 B4.size (fun q e => by cases e; omega))
  clear D4 N4 gr9 gs9 B4 q2 q3 l2 l3 h4 hb4
  replace F4 := Lib.hid F4
  replace F3 := Lib.hid F3
  replace g9 := Lib.hid g9
  go_wp2_with fail
  refine bodyPost_ret (v := .agg #[.slice P zeroD.1.length p, .slice Q zeroD.2.length r, .slice (some ⟨g3, 0, none⟩) 256 256, .slice (some ⟨g4, 0, none⟩) 256 256]) (by simp [results, Tryz.results21, go_sem, n0, n1, n2, n3]) rfl ?_
  exact ⟨_, rfl, hfin.out, hB9.out⟩

set_option maxRecDepth 100000 in
set_option maxHeartbeats 4000000 in
theorem refAllR_any (v : Value) (s : Rm) (hm : mayR s = true) (w : World) (h : Sto (Old w) w v s) :
    Calls Tryz.prog 29 #[v] w fun e W' => ∃ u, e = .returned u ∧ rInts (New w.heap.size W') W' [u] (intsN (freeL s)) ∧ Below w.heap.size w W' := by
  obtain ⟨A, ca, B, cb, N, cn, L, cl, w1, rfl, hw1, f, hsz, hB, _, NN, LL⟩ := box_sto h
  clear h
  obtain ⟨k0, k1, k2, k3, _, kg⟩ := four_cells f
  obtain ⟨ad, bd, rfl, rfl, hl1, hl2, l1, l2, had, hbd, hc⟩ := tables_at hm NN.out LL.out
  rw [hl1] at k2 hw1 ⊢
  rw [hl2] at k3 hw1 ⊢
  have HC := Lib.hid hc
  replace hsz := Lib.hid hsz
  replace hl1 := Lib.hid hl1
  replace hl2 := Lib.hid hl2
  replace hm := Lib.hid hm
  clear hc NN LL f
  go_enter Tryz.func29, Tryz.ntmps29
  go_upto_region 1 with fail
  clear hw1
  go_wp2_with fail
  go_loopw [4, 3] (fun i u wr => ∃ k : Nat, k ≤ 248 ∧ i = .int .i64 ((8 + k : Nat) : Int) ∧ Below w1.heap.size w1 wr ∧ ∃ (A1 : Option Addr) (c1 : Nat), u = .slice A1 (freeK s k).length c1 ∧ RowOf (rK .i64) 1 3 w1.heap.size wr A1 c1 (intsN (freeK s k))) (fun i _ _ => 256 - (intOf i).toNat)
  case atStart => exact ⟨0, by omega, by simp, Below.refl _ _, none, 0, rfl, RowOf.nil _ _ _ _ _⟩
  case round =>
    obtain ⟨k, hk, rfl, hnx, A1, c1, rfl, hrow⟩ := hrel
    have b2 := (hnx.cell (p := ⟨w.heap.size, 2, none⟩) kg).trans k2
    have b3 := (hnx.cell (p := ⟨w.heap.size, 3, none⟩) kg).trans k3
    have HB := Lib.hid hnx
    replace hrow := Lib.hid hrow
    by_cases hlt : k < 248
    · have hx := HC.out (8 + k) (by omega)
      have c1' := (hnx.cell (p := ad.add (8 + k)) (by rw [add_block]; exact had)).trans hx.1
      have c2 := (hnx.cell (p := bd.add (8 + k)) (by rw [add_block]; exact hbd)).trans hx.2
      clear hx hnx
      have hlen := freeK_len s k
      have hi : 8 + k < 256 := by omega
      have hno1 := Lib.hid (fun h => freeK_no (freeAt_no1 (s := s) (i := 8 + k) h))
      have hno2 := Lib.hid (fun h => freeK_no (freeAt_no2 (s := s) (i := 8 + k) h))
      have hyes := Lib.hid (fun h h' => freeK_yes (freeAt_yes (s := s) (i := 8 + k) h h'))
      obtain ⟨x, hx⟩ : ∃ x, s.2.1[8 + k]?.getD 0 = x := ⟨_, rfl⟩
      obtain ⟨y, hy⟩ : ∃ y, s.2.2[8 + k]?.getD 0 = y := ⟨_, rfl⟩
      rw [hx] at c1' hno1 hyes
      rw [hy] at c2 hno2 hyes
      replace hx := Lib.hid hx
      replace hy := Lib.hid hy
      obtain ⟨i, hi2⟩ : ∃ i, 8 + k = i := ⟨_, rfl⟩
      have hi3 : Hid (8 + k = i) := Lib.hid hi2
      rw [hi2] at c1' c2 hi hyes ⊢
      clear hi2
      obtain ⟨M, hM⟩ : ∃ M, (freeK s k).length = M := ⟨_, rfl⟩
      rw [hM] at hlen ⊢
      replace hM := Lib.hid hM
      by_cases h0 : x = 0
      · by_cases h1 : y = 0
        · have t0 := byte_same (y := 0) (q := 0) rfl h0
          have t1 := byte_same (y := 0) (q := 0) rfl h1
          have hfk := Lib.hid (hyes.out h0 h1)
          replace h0 := Lib.hid h0
          replace h1 := Lib.hid h1
          obtain ⟨w8, hw8, hs8⟩ : ∃ w8, wr.alloc (.cells #[.int .i64 (i : Int)] 3) = w8 ∧ w8.heap[wr.heap.size]? = some (.cells #[.int .i64 (i : Int)] 3 (0, 0)) := ⟨_, rfl, heap_alloc_new _ _⟩
          have b8 : Below wr.heap.size wr w8 := by rw [← hw8]; exact (Below.refl _ _).alloc (Nat.le_refl _) _
          have row8 := hrow.out.below (stab_k _) b8
          obtain ⟨A2, c2', w9, hr9, row9, _, ba9⟩ := ints_push row8 wr.heap.size (i : Int) 1 hs8 (by rw [intsN_length, hM.out]; omega) (Nat.le_trans HB.out.size b8.size) ⟨by omega, by omega⟩
          rw [intsN_length, hM.out] at hr9
          have B9 := Lib.hid ((HB.out.trans (b8.mono HB.out.size)).trans ba9)
          have H9 := Lib.hid hr9
          replace row9 := Lib.hid row9
          replace hs8 := Lib.hid hs8
          clear b8 row8 hr9 ba9
          go_wp2_with (at_builtin; refine wpList_append_run rfl _ _ _ rfl rfl rfl H9.out ?_; clear H9)
          go_roundw
          case rel =>
            refine ⟨k + 1, by omega, by have := hi3.out; go_num, B9.out, A2, c2', ?_, ?_⟩
            · rw [hfk.out, List.length_append, hM.out]; rfl
            · rw [hfk.out, intsN_snoc]; exact row9.out
          case measure => simp [intOf]; omega
        · have t0 := byte_same (y := 0) (q := 0) rfl h0
          have t1 := byte_unlike (y := 0) (q := 0) rfl h1
          have hfk := Lib.hid (hno2.out h1)
          replace h0 := Lib.hid h0
          replace h1 := Lib.hid h1
          go_wp2_with fail
          go_roundw
          case rel => exact ⟨k + 1, by omega, by have := hi3.out; go_num, HB.out, A1, c1, by rw [hfk.out, hM.out], by rw [hfk.out]; exact hrow.out⟩
          case measure => simp [intOf]; omega
      · have t0 := byte_unlike (y := 0) (q := 0) rfl h0
        have hfk := Lib.hid (hno1.out h0)
        replace h0 := Lib.hid h0
        go_wp2_with fail
        go_roundw
        case rel => exact ⟨k + 1, by omega, by have := hi3.out; go_num, HB.out, A1, c1, by rw [hfk.out, hM.out], by rw [hfk.out]; exact hrow.out⟩
        case measure => simp [intOf]; omega
    · obtain rfl : k = 248 := by omega
      clear hnx
      go_wp2_with fail
      go_ret
      have hr := (hrow.out.low (stab_k _) hB.size).rel (stab_k _)
      rw [intsN_length] at hr
      exact ⟨_, rfl, hr, hB.trans (HB.out.mono hB.size)⟩

set_option maxRecDepth 100000 in
set_option maxHeartbeats 2000000 in
theorem refFreeR_any (v : Value) (s : Rm) (w : World) (h : Sto (Old w) w v s) :
    Calls Tryz.prog 7 #[v] w fun e W' => ∃ u, e = .returned (.tuple #[u, .int .i64 (chkR s)]) ∧ rInts (New w.heap.size W') W' [u] (intsN (frV s)) ∧ Below w.heap.size w W' := by
  obtain ⟨A, ca, B, cb, N, cn, L, cl, w1, rfl, hw1, f, hsz, hB, _, _, _⟩ := box_sto h
  have H := Lib.hid (h.below hB)
  clear h
  obtain ⟨k0, k1, k2, k3, _, kg⟩ := four_cells f
  replace hsz := Lib.hid hsz
  cases hm : mayR s with
  | false =>
    have hr : Hid (frV s = []) := Lib.hid (by simp [frV, hm])
    have e1 := Lib.hid (chkR_bad hm)
    go_enter Tryz.func7, Tryz.ntmps7
    go_upto_region 1 with fail
    clear hw1
    go_wp2_with fail
    with_reducible refine (refMayR_any _ s _ H.out).mono ?_
    rintro e w2 ⟨rfl, hb2⟩
    rw [hm]
    replace hb2 := Lib.hid (hB.trans (hb2.mono hB.size))
    go_wp2_with fail
    go_ret2
    rw [hr.out, e1.out]
    exact ⟨_, rfl, rInts_none _ _, hb2.out⟩
  | true =>
    have hr : Hid (frV s = freeL s) := Lib.hid (by simp [frV, hm])
    have e1 := Lib.hid (chkR_ok hm)
    go_enter Tryz.func7, Tryz.ntmps7
    go_upto_region 1 with fail
    clear hw1
    go_wp2_with fail
    with_reducible refine (refMayR_any _ s _ H.out).mono ?_
    rintro e w2 ⟨rfl, hb2⟩
    rw [hm]
    replace k0 := (hb2.cell (p := ⟨w.heap.size, 0, none⟩) kg).trans k0
    replace k1 := (hb2.cell (p := ⟨w.heap.size, 1, none⟩) kg).trans k1
    replace k2 := (hb2.cell (p := ⟨w.heap.size, 2, none⟩) kg).trans k2
    replace k3 := (hb2.cell (p := ⟨w.heap.size, 3, none⟩) kg).trans k3
    have H2 := Lib.hid (H.out.below hb2)
    replace hb2 := Lib.hid (hB.trans (hb2.mono hB.size))
    go_wp2_with fail
    with_reducible refine (refAllR_any _ s hm _ H2.out).mono ?_
    rintro e w3 ⟨u, rfl, h3, hb3⟩
    have h5 := Lib.hid (stab_ints.new h3 hb2.out.size (Below.refl _ _))
    have B3 := Lib.hid (hb2.out.trans (hb3.mono hb2.out.size))
    clear h3 hb3
    go_wp2_with fail
    go_ret2
    rw [hr.out, e1.out]
    exact ⟨_, rfl, h5.out, B3.out⟩
end Go.Proofs.YtjlbkcnhbndgbaaGreat

/-
  Package room: Share. Conditions: those that each lemma states.
-/
namespace Go.Proofs.YtjlbkcnhbndgbaaGreat
open Go.RowKit

theorem sh_bad {s : Rm} {n : Int} (h : asE s n ≠ 0) : shE s n = asE s n := by simp [shE, h]
theorem as_in {s : Rm} {n : Int} (h : asE s n = 0) : ∃ k : Nat, n = k ∧ 8 ≤ k ∧ k < 256 ∧ s.2.1[k]?.getD 0 ≠ 0 := by
  rcases as_ways s n with ⟨_, e⟩ | ⟨_, _, e⟩ | ⟨k, _, _, _, _, _, e⟩ | ⟨k, _, hn, h8, h256, hx, _⟩
  · rw [e] at h; cases h
  · rw [e] at h; cases h
  · rw [e] at h; cases h
  · exact ⟨k, hn, h8, h256, hx⟩
theorem sh_up {s : Rm} {n : Int} (h : asE s n = 0) : mayR s = true ∧ upE s.2.1 n = shE s n ∧ (shE s n = 0 → shV s n = (s.1, upV s.2.1 n, s.2.2)) := by
  rcases as_ways s n with ⟨_, e⟩ | ⟨_, _, e⟩ | ⟨k, _, _, _, _, _, e⟩ | ⟨k, hm, rfl, h8, h256, hx, e⟩
  · rw [e] at h; cases h
  · rw [e] at h; cases h
  · rw [e] at h; cases h
  · have hi := inT_of h8 h256
    have hmt := (mayR_of hm).2.1
    have h1 : upE s.2.1 (k : Int) = shE s (k : Int) := by simp [upE, turnE, shE, e, hmt, hi]
    exact ⟨hm, h1, fun h0 => by rw [shV, if_pos h0, upV, if_pos (by rw [h1]; exact h0)]⟩

set_option maxRecDepth 100000 in
set_option maxHeartbeats 4000000 in
theorem shareR_any (v : Value) (s : Rm) (n : Int) (w : World) (h : Sto (Old w) w v s) :
    Calls Tryz.prog 10 #[v, .int .i64 n] w fun e w' => ∃ t, e = .returned (.tuple #[t, .int .i64 (shE s n)]) ∧ Sto (New w.heap.size w') w' t (shV s n) ∧ Below w.heap.size w w' := by
  obtain ⟨A, ca, B, cb, N, cn, L, cl, w1, rfl, hw1, f1, f2, hsz, hB, H⟩ := box_sto2 h
  clear h
  obtain ⟨k0, k1, k2, k3, _, kg⟩ := four_cells f1
  replace hsz := Lib.hid hsz
  replace f2 := Lib.hid f2
  obtain ⟨q, hq⟩ : ∃ q, shE s n = q := ⟨_, rfl⟩
  by_cases ha : asE s n = 0
  · obtain ⟨hm, hup, hsv⟩ := sh_up ha
    rw [hq] at hup hsv
    have hll := Lib.hid (mayT_len (mayR_of hm).2.2)
    have hsm := Lib.hid (small_of_may (mayR_of hm).1)
    obtain ⟨T, hT⟩ : ∃ T, upV s.2.1 n = T := ⟨_, rfl⟩
    rw [hT] at hsv
    have hq0 : q ≠ 0 → shV s n = emptyR := fun h => sh_no (by rw [hq]; exact h)
    have hq9 := hq
    replace hq := Lib.hid hq9
    replace ha := Lib.hid ha
    replace hup := Lib.hid hup
    replace hT := Lib.hid hT
    replace hsv := Lib.hid hsv
    clear hq9
    go_enter Tryz.func10, Tryz.ntmps10
    go_upto_region 1 with fail
    clear hw1
    go_wp2_with fail
    with_reducible refine (checkTakenR_any _ s n _ H.out).mono ?_
    rintro e w2 ⟨rfl, hb2⟩
    rw [ha.out]
    have G2 := (hb2.block w.heap.size kg).trans f1
    obtain ⟨m0, m1, m2, m3, _, mg⟩ := four_cells G2
    have F2 := Lib.hid ((hb2.block (w.heap.size + 1) (by rw [hsz.out]; omega)).trans f2.out)
    have H2 := Lib.hid (H.out.below hb2)
    have s2 : Hid (w.heap.size + 2 ≤ w2.heap.size) := Lib.hid (by have := hb2.size; have := hsz.out; omega)
    replace hb2 := Lib.hid (hB.trans (hb2.mono hB.size))
    replace G2 := Lib.hid G2
    clear k0 k1 k2 k3 kg f1 hB
    go_wp2_with fail
    with_reducible refine (up_open _ s.2.1 n _ H2.out.parts.2.1).mono ?_
    rintro e w3 ⟨E3, c3, rfl, h3, hb3⟩
    rw [hup.out, hT.out]
    rw [hT.out] at h3
    have F3 := Lib.hid ((hb3.block (w.heap.size + 1) (by have := s2.out; omega)).trans F2.out)
    have G3 := (hb3.block w.heap.size mg).trans G2.out
    have H3 := Lib.hid (H2.out.below hb3)
    have T3 := Lib.hid h3
    have B3 := Lib.hid (hb2.out.trans (hb3.mono hb2.out.size))
    have s3 : Hid (w.heap.size + 2 ≤ w3.heap.size) := Lib.hid (by have := hb3.size; have := s2.out; omega)
    clear hb3 h3 m0 m1 m2 m3 mg F2
    obtain ⟨m0, m1, m2, m3, _, mg⟩ := four_cells G3
    replace G3 := Lib.hid G3
    by_cases hqz : q = 0
    · subst hqz
      have hV := Lib.hid (hsv.out rfl)
      clear hq0 hsv
      go_upto_region 7 with fail
      refine wp_region_tails (by kernel_rfl) 8 (fun W => Below w3.heap.size w3 W) (fun i => match i with
          | 2 => some (fun v W => Dsk (New w3.heap.size W) W v s.1)
          | 6 => some (fun v W => rBy (New w3.heap.size W) W [v] s.2.2)
          | 7 => some (fun v W => ∃ P p Q r X x, v = .agg #[.slice P s.1.1.length p, .slice Q s.1.2.length r, .slice E3 T.length c3, .slice X s.2.2.length x] ∧ Dsk (New w3.heap.size W) W (.agg #[.slice P s.1.1.length p, .slice Q s.1.2.length r]) s.1 ∧ rBy (New w3.heap.size W) W [.slice X s.2.2.length x] s.2.2)
          | _ => none) (fun _ => none) (by decide) (by kernel_rfl) (by kernel_rfl) (Below.refl _ _).drew (fun w w' h hb => h.trans (hb.mono h.size)) ?tst ?_
      case tst =>
        intro j φ x W W' hp hx hb
        match j, hp with
        | 2, hp => cases hp; exact hx.new (Nat.le_refl _) hb
        | 6, hp => cases hp; exact stab_by.new hx (Nat.le_refl _) hb
        | 7, hp =>
          cases hp
          obtain ⟨P, p, Q, r, X, x, e1, e2, e3⟩ := hx
          exact ⟨P, p, Q, r, X, x, e1, e2.new (Nat.le_refl _) hb, stab_by.new e3 (Nat.le_refl _) hb⟩
      simp only [List.take_succ_cons, List.take_zero, List.drop_succ_cons, List.drop_zero]
      repeat (first
        | (refine wpAs_skip rfl ?_; simp only [Act.put, List.setIfInBounds_toArray, List.set_cons_zero, List.set_cons_succ])
        | (refine wpAs_pure (v := ?_) rfl rfl ?_ ?_; rotate_left; (intro W hC hE; clear hE; (have z0 := (hC.cell (p := ⟨w.heap.size, 0, none⟩) mg).trans m0; have z1 := (hC.cell (p := ⟨w.heap.size, 1, none⟩) mg).trans m1); clear hC; go_simp; done); simp only [Act.put, List.setIfInBounds_toArray, List.set_cons_zero, List.set_cons_succ])
        | (refine wpAs_pure (v := ?_) rfl rfl ?_ ?_; rotate_left; (intro W hC hE; clear hE; (have z0 := (hC.cell (p := ⟨w.heap.size, 0, none⟩) mg).trans m0; have z1 := (hC.cell (p := ⟨w.heap.size, 1, none⟩) mg).trans m1); clear hC; go_simp; with_reducible rfl); simp only [Act.put, List.setIfInBounds_toArray, List.set_cons_zero, List.set_cons_succ]))
      refine wpAs_act rfl rfl ?_ ?_
      · intro W hC hE
        clear hE
        refine does_enter (f := 36) (args := #[.agg #[.slice A s.1.1.length ca, .slice B s.1.2.length cb]]) ?_ ?_
        · go_simp
        · refine (twin_any _ s.1 W hsm.out (H3.out.below hC).parts.1).mono ?_
          rintro e W' ⟨u, rfl, hu, hb⟩
          exact ⟨_, rfl, hu.new hC.size (Below.refl _ _), hb⟩
      simp only [Act.put, List.setIfInBounds_toArray, List.set_cons_zero, List.set_cons_succ, envAdd]
      intro x29
      repeat (first
        | (refine wpAs_skip rfl ?_; simp only [Act.put, List.setIfInBounds_toArray, List.set_cons_zero, List.set_cons_succ])
        | (refine wpAs_pure (v := ?_) rfl rfl ?_ ?_; rotate_left; (intro W hC hE; clear hE; (have z3 := (hC.cell (p := ⟨w.heap.size, 3, none⟩) mg).trans m3); clear hC; go_simp; done); simp only [Act.put, List.setIfInBounds_toArray, List.set_cons_zero, List.set_cons_succ])
        | (refine wpAs_pure (v := ?_) rfl rfl ?_ ?_; rotate_left; (intro W hC hE; clear hE; (have z3 := (hC.cell (p := ⟨w.heap.size, 3, none⟩) mg).trans m3); clear hC; go_simp; with_reducible rfl); simp only [Act.put, List.setIfInBounds_toArray, List.set_cons_zero, List.set_cons_succ]))
      refine wpAs_act rfl rfl ?_ ?_
      · intro W hC hE
        clear hE
        refine does_enter (f := 33) (args := #[.slice L s.2.2.length cl]) ?_ ?_
        · go_simp
        · refine (clone_by _ s.2.2 W (by rw [hll.out]; omega) (H3.out.below hC).parts.2.2).mono ?_
          rintro e W' ⟨u, rfl, ho, hb⟩
          exact ⟨_, rfl, stab_by.new ho hC.size (Below.refl _ _), hb⟩
      simp only [Act.put, List.setIfInBounds_toArray, List.set_cons_zero, List.set_cons_succ, envAdd]
      intro x33
      refine wpAs_act rfl rfl ?_ ?_
      · intro W hC hE
        have h33 := hE.1 rfl
        have h29 := hE.2.1 rfl
        obtain ⟨X, x, rfl, _⟩ := rBy_open h33
        obtain ⟨P, p, Q, r, rfl, _⟩ := h29.open
        have h33' := Lib.hid h33
        have h29' := Lib.hid h29
        clear hE hC h33 h29
        go_simp
        exact ⟨⟨P, p, Q, r, X, x, rfl, h29'.out, h33'.out⟩, Below.refl _ _⟩
      simp only [Act.put, List.setIfInBounds_toArray, List.set_cons_zero, List.set_cons_succ, envAdd]
      intro x34
      refine wpAs_end fun W hC hE => ?_
      obtain ⟨⟨P, p, Q, r, X, x, rfl, hd, hx⟩, _⟩ := hE
      have bW := (hC.block (w.heap.size + 1) (by have := s3.out; omega)).trans F3.out
      obtain ⟨c0, c1, c2, c3', c4, c5⟩ := four_cells bW
      obtain ⟨W9, hW9, g9, gr9, gs9⟩ := put_four (a' := .slice P s.1.1.length p) (b' := .slice Q s.1.2.length r) (c' := .slice E3 T.length c3) (d' := .slice X s.2.2.length x) bW
      obtain ⟨n0, n1, n2, n3, _, _⟩ := four_cells g9
      have BW := B3.out.trans (hC.mono B3.out.size)
      have r3 := s3.out
      have l2 := hb2.out.size
      have l3 := B3.out.size
      have hfin := Lib.hid (show Sto (New w.heap.size W9) W9 (.agg #[.slice P s.1.1.length p, .slice Q s.1.2.length r, .slice E3 T.length c3, .slice X s.2.2.length x]) (shV s n) from by
        rw [hV.out]
        exact Sto.mk ((hd.grown gr9 (fun q e => by cases e; omega)).new l3 (Below.refl _ _)) (stab_by.new (stab_by.grown (stab_by.new T3.out (Nat.le_refl _) hC) gr9 (fun q e => by cases e; have := s2.out; omega)) l2 (Below.refl _ _)) (stab_by.new (stab_by.grown hx gr9 (fun q e => by cases e; omega)) l3 (Below.refl _ _)))
      have hB9 := Lib.hid (BW.grown gr9 BW.size (fun q e => by cases e; omega))
      clear hd hx gr9 gs9 BW r3 l2 l3
      replace bW := Lib.hid bW
      replace g9 := Lib.hid g9
      go_wp2_with fail
      refine bodyPost_ret (v := .tuple #[.agg #[.slice P s.1.1.length p, .slice Q s.1.2.length r, .slice E3 T.length c3, .slice X s.2.2.length x], .int .i64 0]) (by simp [results, Tryz.results10, go_sem, n0, n1, n2, n3]) rfl ?_
      rw [hq.out]
      exact ⟨_, rfl, hfin.out, hB9.out⟩
    · have hV := Lib.hid (hq0 hqz)
      have hq1 : (q != 0) = true := by simpa using hqz
      clear hq0 hqz hsv
      replace F3 := F3.out
      obtain ⟨k0, k1, k2, k3, k4, k5⟩ := four_cells F3
      obtain ⟨W9, hW9, g9, gr9, gs9⟩ := put_four (a' := .slice none 0 0) (b' := .slice none 0 0) (c' := .slice none 0 0) (d' := .slice none 0 0) F3
      obtain ⟨n0, n1, n2, n3, _, _⟩ := four_cells g9
      have hB9 := Lib.hid ((B3).out.grown gr9 (B3).out.size (fun q e => by cases e; omega))
      replace g9 := Lib.hid g9
      replace F3 := Lib.hid F3
      clear gr9 gs9
      go_wp2_with fail
      refine bodyPost_ret (v := .tuple #[.agg #[.slice none 0 0, .slice none 0 0, .slice none 0 0, .slice none 0 0], .int .i64 q]) (by simp [results, Tryz.results10, go_sem, n0, n1, n2, n3]) rfl ?_
      rw [hV.out, hq.out]
      exact ⟨_, rfl, sto_empty _ _, hB9.out⟩
  · have hV := Lib.hid (sh_no (s := s) (n := n) (by rw [sh_bad ha]; exact ha))
    rw [sh_bad ha] at hq
    have hq1 : (q != 0) = true := by rw [← hq]; simpa using ha
    have hq2 : Hid (asE s n = q) := Lib.hid hq
    replace hq : Hid (shE s n = q) := Lib.hid (by rw [sh_bad ha]; exact hq)
    clear ha
    go_enter Tryz.func10, Tryz.ntmps10
    go_upto_region 1 with fail
    clear hw1
    go_wp2_with fail
    with_reducible refine (checkTakenR_any _ s n _ H.out).mono ?_
    rintro e w2 ⟨rfl, hb2⟩
    rw [hq2.out]
    have F2 := (hb2.block (w.heap.size + 1) (by rw [hsz.out]; omega)).trans f2.out
    replace hb2 := Lib.hid (hB.trans (hb2.mono hB.size))
    obtain ⟨k0, k1, k2, k3, k4, k5⟩ := four_cells F2
    obtain ⟨W9, hW9, g9, gr9, gs9⟩ := put_four (a' := .slice none 0 0) (b' := .slice none 0 0) (c' := .slice none 0 0) (d' := .slice none 0 0) F2
    obtain ⟨n0, n1, n2, n3, _, _⟩ := four_cells g9
    have hB9 := Lib.hid ((hb2).out.grown gr9 (hb2).out.size (fun q e => by cases e; omega))
    replace g9 := Lib.hid g9
    replace F2 := Lib.hid F2
    clear gr9 gs9
    go_wp2_with fail
    refine bodyPost_ret (v := .tuple #[.agg #[.slice none 0 0, .slice none 0 0, .slice none 0 0, .slice none 0 0], .int .i64 q]) (by simp [results, Tryz.results10, go_sem, n0, n1, n2, n3]) rfl ?_
    rw [hV.out, hq.out]
    exact ⟨_, rfl, sto_empty _ _, hB9.out⟩
end Go.Proofs.YtjlbkcnhbndgbaaGreat

/-
  Package count: sides, and what is written on them, plain; checkSide, firstOf. Conditions: those that each lemma states.
-/
namespace Go.Proofs.YtjlbkcnhbndgbaaGreat
open Go.RowKit

def sideB (s : Int) : Bool := decide (s = 0) || decide (s = 1)
def csE (d : Dk) (s : Int) : Int := if mayB d then (if sideB s then 0 else 2) else 8
/-- What Write tells, and leaves. -/
def cwE (d : Dk) (s : Int) (t : List UInt8) : Int := if mayB d then (if sideB s then (if mayT t then (if wErr d (4 + 2 * s) (t.take 128) = 0 then wErr (wrR d (4 + 2 * s) (t.take 128)) (5 + 2 * s) (t.drop 128) else wErr d (4 + 2 * s) (t.take 128)) else 8) else 2) else 8
def cwR (d : Dk) (s : Int) (t : List UInt8) : Dk := if cwE d s t = 0 then wrR (wrR d (4 + 2 * s) (t.take 128)) (5 + 2 * s) (t.drop 128) else emptyD
/-- What Read tells. -/
def sdV (d : Dk) (s : Int) : List UInt8 := seenD d (4 + 2 * s).toNat ++ seenD d (5 + 2 * s).toNat
def crE (d : Dk) (s : Int) : Int := if mayB d then (if sideB s then (if mayT (sdV d s) then 0 else 8) else 2) else 8
def crV (d : Dk) (s : Int) : List UInt8 := if crE d s = 0 then sdV d s else []
theorem side_ways {s : Int} (h : sideB s = true) : s = 0 ∨ s = 1 := by simpa [sideB] using h
theorem side_no {s : Int} (h : sideB s = false) : s ≠ 0 ∧ s ≠ 1 := by simpa [sideB] using h

end Go.Proofs.YtjlbkcnhbndgbaaGreat

/-
  Package count: Read. Conditions: those that each lemma states.
-/
namespace Go.Proofs.YtjlbkcnhbndgbaaGreat
open Go.RowKit

/-- The bytes of the first k blocks of a side. -/
def sdK (d : Dk) (s : Int) (k : Nat) : List UInt8 := match k with
  | 0 => []
  | 1 => seenD d (4 + 2 * s).toNat
  | _ => sdV d s
theorem sdK_len {d : Dk} {s : Int} (hm : mayB d = true) (hs : s = 0 ∨ s = 1) {k : Nat} (hk : k ≤ 2) : (sdK d s k).length = 128 * k := by
  have h1 : (seenD d (4 + 2 * s).toNat).length = 128 := seenD_length hm (by rcases hs with rfl | rfl <;> decide)
  have h2 : (seenD d (5 + 2 * s).toNat).length = 128 := seenD_length hm (by rcases hs with rfl | rfl <;> decide)
  rcases k with _ | _ | _ | k
  · rfl
  · simpa [sdK] using h1
  · simp [sdK, sdV, h1, h2]
  · omega
theorem sdK_succ {d : Dk} {s : Int} (_ : s = 0 ∨ s = 1) {k : Nat} (hk : k < 2) : sdK d s (k + 1) = sdK d s k ++ seenD d (4 + 2 * s + k).toNat := by
  rcases k with _ | _ | k
  · simp [sdK]
  · have : (4 + 2 * s + ((0 + 1 : Nat) : Int)) = 5 + 2 * s := by omega
    rw [this]
    rfl
  · omega
/-- 'append(v, ys...)': v a row of bytes of the call's own. -/
theorem app_rows (v : Value) (n : Nat) (xs : List UInt8) (u : Value) (ys : List UInt8) (base : Nat) (w : World) (hv : w.ownsRow base 5 1 v n (u8s xs)) (hy : rBy (Old w) w [u] ys) (hs : n + ys.length ≤ 1000000000) (hb : base ≤ w.heap.size) :
    ∃ v' w', (Builtin.append_ #[26, 26] 26 #[v, u]).run Tryz.prog w = .ok v' w' ∧ w'.ownsRow base 5 1 v' (n + ys.length) (u8s (xs ++ ys)) ∧ Below base w w' := by
  obtain ⟨i0, hi, hz0, hz1, hz2⟩ := info_parts u8_info0
  obtain ⟨A, cap, rfl, _, _, hby⟩ := rBy_byt (B := w.heap.size) (fun p hp => hp) hy
  exact app_byt (P := Tryz.prog) (w := w) base 26 26 5 i0 Tryz.underlying26 hi hz0 hz1 hz2 v n xs hv w.heap.size A ys.length cap ys hby rfl hs hb

end Go.Proofs.YtjlbkcnhbndgbaaGreat

/-
  The document's answers of layer 7: Up, Down, Sum. Conditions: those that each lemma states.
-/
namespace Go.Proofs.YtjlbkcnhbndgbaaGreat
open Go.RowKit

set_option maxRecDepth 100000 in
set_option maxHeartbeats 2000000 in
theorem refWithT_any (v : Value) (t : List UInt8) (k : Nat) (x : UInt8) (q : Int) (hq : (x.toNat : Int) = q) (hk : k < t.length) (hbig : t.length ≤ 1000000) (w : World) (h : rBy (Old w) w [v] t) :
    Calls Tryz.prog 38 #[v, .int .i64 k, .int .u8 q] w fun e w' => ∃ u, e = .returned u ∧ rBy (New w.heap.size w') w' [u] (t.set k x) ∧ Below w.heap.size w w' := by
  obtain ⟨v', w2, hr2, ho2, hb2⟩ := app_rows (.slice none 0 0) 0 [] v t w.heap.size w (World.ownsRow_nil _ _ _ _) h (by omega) (Nat.le_refl _)
  rw [Nat.zero_add, List.nil_append] at ho2
  obtain ⟨A, c, rfl, l1, m1, _⟩ := id (rBy_open h)
  obtain ⟨g, c2, rfl, hg1, hg2, hg3, hg4⟩ := own_head ho2 (by omega)
  have hcell := own_cell ho2 (j := k) hk
  have hfr : w2.frozen? ⟨g, k, none⟩ = false := by
    have := own_free ho2 k
    rwa [show (⟨g, 0, none⟩ : Addr).add k = ⟨g, k, none⟩ by simp [add_off]] at this
  have hset := own_set ho2 k x
  rw [hq] at hset
  replace hset := Lib.hid hset
  generalize t[k]?.getD 0 = y at *
  have H2 := Lib.hid hr2
  have Hb2 := Lib.hid hb2
  replace hq := Lib.hid hq
  clear ho2 hr2 h hb2
  go_enter Tryz.func38, Tryz.ntmps38
  go_wp2_with (at_builtin; refine wpList_append_run rfl _ _ _ rfl rfl rfl H2.out ?_; clear H2)
  go_ret
  exact ⟨_, rfl, own_by hset.out, Hb2.out.setCell hg1 _⟩

end Go.Proofs.YtjlbkcnhbndgbaaGreat

/-
  slices.Chunk at a slice of 256 bytes, in parts of 128. Conditions: those that each lemma states.
-/
namespace Go.Proofs.YtjlbkcnhbndgbaaGreat
open Go.RowKit Go.Shelf
attribute [local go_sem] Oper.semAt_some

/-- What a round keeps: all that lay below block n₀, and the two boxes from Bs on. -/
def Keeps2 (n₀ Bs : Nat) (A B : World) : Prop := Below n₀ A B ∧ B.cell? ⟨Bs, 0, none⟩ = A.cell? ⟨Bs, 0, none⟩ ∧ B.cell? ⟨Bs + 1, 0, none⟩ = A.cell? ⟨Bs + 1, 0, none⟩
theorem Keeps2.trans {n₀ Bs : Nat} {A B C : World} (h : Keeps2 n₀ Bs A B) (h' : Keeps2 n₀ Bs B C) : Keeps2 n₀ Bs A C := ⟨h.1.trans h'.1, h'.2.1.trans h.2.1, h'.2.2.trans h.2.2⟩
theorem Keeps2.refl (n₀ Bs : Nat) (A : World) : Keeps2 n₀ Bs A A := ⟨Below.refl _ _, rfl, rfl⟩
theorem Keeps2.below {n₀ Bs : Nat} {A B : World} (h : Below n₀ A B) (hB : Bs + 1 < n₀) : Keeps2 n₀ Bs A B := ⟨h, h.cell (p := ⟨Bs, 0, none⟩) (by show Bs < n₀; omega), h.cell (p := ⟨Bs + 1, 0, none⟩) hB⟩
theorem keeps2_b {W w : World} {Bs n₀ : Nat} (hBs : Bs + 1 < w.heap.size) (hn₀ : n₀ ≤ w.heap.size) (l : Nat) (o o' : Obj) (hl : w.heap.size ≤ l) (h1 : W.heap[l]? = some o) (h2 : o.isCells = false) (h3 : o.isWalk = false) : Keeps2 n₀ Bs W (W.putObj l o') :=
  ⟨belowK_b hn₀ W l o o' hl h1 h2 h3, World.cell?_of_block (World.putObj_heap_other (k := Bs) (by omega)), World.cell?_of_block (World.putObj_heap_other (k := Bs + 1) (by omega))⟩
theorem grown_drawn (w : World) (n : Nat) (row : Option Nat) : w.grownBy (w.drewN n) row := ⟨rfl, rfl, rfl, Nat.le_refl _, fun _ _ _ => rfl⟩

end Go.Proofs.YtjlbkcnhbndgbaaGreat

/-
  Package count: Write, which ranges over slices.Chunk. Conditions: those that each lemma states.
-/
namespace Go.Proofs.YtjlbkcnhbndgbaaGreat
open Go.RowKit Go.Shelf
attribute [local go_sem] Oper.semAt_some

theorem rBy_piece {ok : Addr → Prop} {w : World} {ad : Addr} {n c : Nat} {b : List UInt8} (h : rBy ok w [.slice (some ad) n c] b) (k m cap : Nat) (hk : k + m ≤ b.length) (hm : m ≤ cap) (hc : cap ≤ 9223372036854775807) : rBy ok w [.slice (some (ad.add k)) m cap] ((b.drop k).take m) := by
  obtain ⟨A, c', e, _, _, h4⟩ := h
  cases e
  have hl : ((b.drop k).take m).length = m := by simp; omega
  refine ⟨some (ad.add k), cap, by rw [hl], by rw [hl]; exact hm, hc, fun i x hi => ?_⟩
  have him : i < m := by rw [← hl]; exact (List.getElem?_eq_some_iff.1 hi).1
  have hi' : b[k + i]? = some x := by
    rw [List.getElem?_take_of_lt him, List.getElem?_drop] at hi
    exact hi
  obtain ⟨ad', vs, e1, e2, e3, e4⟩ := h4 (k + i) x hi'
  cases e1
  refine ⟨ad.add k, vs, rfl, e2, fun j v hj => ?_, e4⟩
  have := e3 j v hj
  rw [add_add', show k + (i * 1 + j) = (k + i) * 1 + j by omega]
  exact this

/-! ### The two writes, plain -/
def halfT (t : List UInt8) (b : Bool) : List UInt8 := if b then t.drop 128 else t.take 128
/-- The disk, the next place, and the first error, behind some halves. -/
def stepW (t : List UInt8) (s : Dk × Int × Int) (b : Bool) : Dk × Int × Int := (wrR s.1 s.2.1 (halfT t b), s.2.1 + 1, if s.2.2 = 0 then wErr s.1 s.2.1 (halfT t b) else s.2.2)
def runW (d : Dk) (p : Int) (t : List UInt8) (l : List Bool) : Dk × Int × Int := l.foldl (stepW t) (d, p, 0)
theorem runW_snoc (d : Dk) (p : Int) (t : List UInt8) (l : List Bool) (b : Bool) : runW d p t (l ++ [b]) = stepW t (runW d p t l) b := by simp [runW, List.foldl_append]
theorem foldW_place (t : List UInt8) : ∀ (l : List Bool) (s : Dk × Int × Int), (l.foldl (stepW t) s).2.1 = s.2.1 + (l.length : Int)
  | [], s => by simp
  | b :: l, s => by
    rw [List.foldl_cons, foldW_place t l]
    simp only [stepW, List.length_cons]
    omega
theorem runW_place (d : Dk) (p : Int) (t : List UInt8) (l : List Bool) : (runW d p t l).2.1 = p + (l.length : Int) := foldW_place t l _
theorem runW_stuck {d : Dk} {p : Int} {t : List UInt8} {l : List Bool} {b : Bool} (h : (runW d p t l).2.2 ≠ 0) : (runW d p t (l ++ [b])).2.2 = (runW d p t l).2.2 := by rw [runW_snoc]; simp [stepW, h]
theorem put_one {W : World} {g : Nat} {a u : Value} {t : TypeId} (h : W.heap[g]? = some (.cells #[a] t (0, 0))) : ∃ W1, W.setCell ⟨g, 0, none⟩ u = W1 ∧ W1.heap[g]? = some (.cells #[u] t (0, 0)) ∧ W.grownBy W1 (some g) ∧ W1.heap.size = W.heap.size :=
  ⟨_, rfl, by simp [World.setCell, Array.getElem?_modify, h], grow_put (p := ⟨g, 0, none⟩) (grow_refl W (some g)) rfl u, by simp⟩
theorem one_cell {W : World} {g : Nat} {a : Value} {t : TypeId} (h : W.heap[g]? = some (.cells #[a] t (0, 0))) : W.cell? ⟨g, 0, none⟩ = some a ∧ W.frozen? ⟨g, 0, none⟩ = false ∧ g < W.heap.size :=
  ⟨by simp [World.cell?, h], by simp [World.frozen?, h], (Array.getElem?_eq_some_iff.1 h).1⟩
theorem keepsFrom_below {B : Nat} {W W' : World} (h : Below W.heap.size W W') : KeepsFrom B W W' := ⟨h.size, fun k _ _ hk _ => (h.block k (Array.getElem?_eq_some_iff.1 hk).1).trans hk⟩
theorem keepsFrom_put {B : Nat} {W W' : World} {g : Nat} {cs : Array Value} {t : TypeId} (hg : W.grownBy W' (some g)) (h : W.heap[g]? = some (.cells cs t (0, 0))) : KeepsFrom B W W' :=
  ⟨hg.size, fun k o _ hk ho => (hg.block k (Array.getElem?_eq_some_iff.1 hk).1 (fun e => by
    simp only [Option.some.injEq] at e
    subst e
    rw [h] at hk
    cases hk
    cases ho)).trans hk⟩
theorem block_kept {W W' : World} {row : Option Nat} {g : Nat} {cs : Array Value} {t : TypeId} (h : W.heap[g]? = some (.cells cs t (0, 0))) (hg : W.grownBy W' row) (hrow : ∀ r, row = some r → ∃ o : Obj, W.heap[r]? = some o ∧ o.isCells = false) : W'.heap[g]? = some (.cells cs t (0, 0)) :=
  (grownBy_keeps_cells hg hrow h rfl).trans h
theorem dsk_kept_old {W W' : World} {row : Option Nat} {v : Value} {d : Dk} (h : Dsk (Old W) W v d) (hg : W.grownBy W' row) (hrow : ∀ r, row = some r → ∃ o : Obj, W.heap[r]? = some o ∧ o.isCells = false) : Dsk (Old W') W' v d :=
  h.map fun _ _ hp hc => ⟨Nat.lt_of_lt_of_le hp hg.size, cell_kept hc hg hrow⟩
theorem dsk_kept_new {W W' : World} {row : Option Nat} {v : Value} {d : Dk} {lo : Nat} (h : Dsk (New lo W) W v d) (hg : W.grownBy W' row) (hrow : ∀ r, row = some r → ∃ o : Obj, W.heap[r]? = some o ∧ o.isCells = false) : Dsk (New lo W') W' v d :=
  h.map fun _ _ hp hc => ⟨⟨hp.1, Nat.lt_of_lt_of_le hp.2.1 hg.size, (frozen_kept hc hg hrow).trans hp.2.2⟩, cell_kept hc hg hrow⟩

/-- Three boxes that are made one behind the other. -/
theorem box_dde (w : World) (a b : Value) : ∃ w3, ((w.alloc (.cells #[a, b] 25)).alloc (.cells #[.slice none 0 0, .slice none 0 0] 25)).alloc (.cells #[.int .i64 0] 32) = w3 ∧ w3.heap[w.heap.size]? = some (.cells #[a, b] 25 (0, 0)) ∧
    w3.heap[w.heap.size + 1]? = some (.cells #[.slice none 0 0, .slice none 0 0] 25 (0, 0)) ∧ w3.heap[w.heap.size + 2]? = some (.cells #[.int .i64 0] 32 (0, 0)) ∧ w3.heap.size = w.heap.size + 3 ∧ Below w.heap.size w w3 := by
  refine ⟨_, rfl, alloc_block (alloc_block (heap_alloc_new _ _)), alloc_block ?_, ?_, by simp, ((((Below.refl _ w).alloc (Nat.le_refl _) _).alloc (by simp) _).alloc (by simp; omega) _)⟩
  · have := heap_alloc_new (w.alloc (.cells #[a, b] 25)) (.cells #[.slice none 0 0, .slice none 0 0] 25)
    rwa [World.size_alloc] at this
  · have := heap_alloc_new ((w.alloc (.cells #[a, b] 25)).alloc (.cells #[.slice none 0 0, .slice none 0 0] 25)) (.cells #[.int .i64 0] 32)
    rwa [World.size_alloc, World.size_alloc] at this

/-- What stands between two rounds. -/
def BtW (w : World) (d : Dk) (p : Int) (t : List UInt8) (g : Nat) (pre : List Bool) (W : World) : Prop :=
  (∃ A c B e, (runW d p t pre).2.2 = 0 ∧ Bx W w.heap.size A c B e (runW d p t pre).1 ∧ (pre ≠ [] → Dsk (New (g + 3) W) W (.agg #[.slice A (runW d p t pre).1.1.length c, .slice B (runW d p t pre).1.2.length e]) (runW d p t pre).1) ∧
    W.heap[g]? = some (.cells #[.int .i64 (p + (pre.length : Int))] 3 (0, 0)) ∧ W.heap[w.heap.size + 1]? = some (.cells #[.slice none 0 0, .slice none 0 0] 25 (0, 0)) ∧ W.heap[w.heap.size + 2]? = some (.cells #[.int .i64 0] 32 (0, 0)) ∧ g + 3 ≤ W.heap.size) ∧ Below w.heap.size w W
/-- What stands where a write was refused. -/
def EndW (w : World) (d : Dk) (p : Int) (t : List UInt8) (cd : Code) (pre : List Bool) (W : World) : Prop :=
  (cd = .ret ∧ (runW d p t pre).2.2 ≠ 0 ∧ W.heap[w.heap.size + 1]? = some (.cells #[.slice none 0 0, .slice none 0 0] 25 (0, 0)) ∧ W.heap[w.heap.size + 2]? = some (.cells #[.int .i64 (runW d p t pre).2.2] 32 (0, 0))) ∧ Below w.heap.size w W
theorem ownFrom_bt (w : World) (d : Dk) (p : Int) (t : List UInt8) (g B : Nat) (hB : w.heap.size ≤ B) : OwnFrom B (BtW w d p t g) :=
  OwnFrom.and (Own.from (fun s A B row hs hg hr => by
    obtain ⟨a, c, b, e, h0, h1, h2, h3, h4, h5, h6⟩ := hs
    exact ⟨a, c, b, e, h0, ⟨block_kept h1.1 hg hr, dsk_kept_old h1.2 hg hr⟩, fun hn => dsk_kept_new (h2 hn) hg hr, block_kept h3 hg hr, block_kept h4 hg hr, block_kept h5 hg hr, Nat.le_trans h6 hg.size⟩) _) (ownFrom_below (Nat.le_refl _) hB)
theorem ownFrom_end (w : World) (d : Dk) (p : Int) (t : List UInt8) (cd : Code) (B : Nat) (hB : w.heap.size ≤ B) : OwnFrom B (EndW w d p t cd) :=
  OwnFrom.and (Own.from (fun _ _ _ _ hs hg hr => ⟨hs.1, hs.2.1, block_kept hs.2.2.1 hg hr, block_kept hs.2.2.2 hg hr⟩) _) (ownFrom_below (Nat.le_refl _) hB)

theorem cw_run {d : Dk} {s : Int} {t : List UInt8} (hm : mayB d = true) (hs : sideB s = true) (ht : mayT t = true) : (runW d (4 + 2 * s) t [false, true]).2.2 = cwE d s t ∧ (runW d (4 + 2 * s) t [false, true]).1 = wrR (wrR d (4 + 2 * s) (t.take 128)) (5 + 2 * s) (t.drop 128) := by
  have e1 : 4 + 2 * s + 1 = 5 + 2 * s := by omega
  simp only [runW, List.foldl_cons, List.foldl_nil, stepW, halfT, cwE, hm, hs, ht, if_true, e1]
  simp

end Go.Proofs.YtjlbkcnhbndgbaaGreat

/-
  The document's answers of layer 7: Write. Conditions: those that each lemma states.
-/
namespace Go.Proofs.YtjlbkcnhbndgbaaGreat
open Go.RowKit

/-- Cells that hold no empty slice. -/
def NZ (ok : Addr → Prop) (w : World) : Addr → Prop := fun p => ok p ∧ w.cell? p ≠ some (.slice none 0 0)
theorem by_nz {ok : Addr → Prop} {w : World} {cs : List Value} {x : List UInt8} (h : rBy ok w cs x) : rBy (NZ ok w) w cs x := by
  obtain ⟨A, cap, h1, h2, h3, h4⟩ := h
  refine ⟨A, cap, h1, h2, h3, fun i y hi => ?_⟩
  obtain ⟨ad, vs, e1, e2, e3, e4⟩ := h4 i y hi
  refine ⟨ad, vs, e1, e2, fun j u hj => ⟨⟨(e3 j u hj).1, ?_⟩, (e3 j u hj).2⟩, e4⟩
  unfold rU8 at e4
  subst e4
  have := List.mem_of_getElem? hj
  simp only [List.mem_singleton] at this
  rw [(e3 j u hj).2, this]
  simp
theorem slice_nz {ok : Addr → Prop} {w : World} {u : Value} {x : List UInt8} (h : rBy ok w [u] x) (hx : x ≠ []) : u ≠ .slice none 0 0 := by
  obtain ⟨A, c, rfl, _⟩ := rBy_open h
  intro e
  simp only [Value.slice.injEq] at e
  exact hx (List.eq_nil_of_length_eq_zero e.2.1)
theorem rows_nz {ok : Addr → Prop} {w : World} {cs : List Value} {xss : List (List UInt8)} (h : rSl 1 rBy ok w cs xss) (hn : ∀ x ∈ xss, x ≠ []) : rSl 1 rBy (NZ ok w) w cs xss := by
  obtain ⟨A, cap, h1, h2, h3, h4⟩ := h
  refine ⟨A, cap, h1, h2, h3, fun i y hi => ?_⟩
  obtain ⟨ad, vs, e1, e2, e3, e4⟩ := h4 i y hi
  refine ⟨ad, vs, e1, e2, fun j u hj => ⟨⟨(e3 j u hj).1, ?_⟩, (e3 j u hj).2⟩, by_nz e4⟩
  match vs, e2 with
  | [v], _ =>
    have := List.mem_of_getElem? hj
    simp only [List.mem_singleton] at this
    rw [(e3 j u hj).2, this]
    exact fun e => slice_nz e4 (hn y (List.mem_of_getElem? hi)) (by simpa using e)
theorem wts_nz {ok : Addr → Prop} {w : World} {cs : List Value} {ws : List Wt} (h : rSl 2 rWt ok w cs ws) (hn : ∀ x ∈ ws, x.2 ≠ []) : rSl 2 rWt (NZ ok w) w cs ws := by
  obtain ⟨A, cap, h1, h2, h3, h4⟩ := h
  refine ⟨A, cap, h1, h2, h3, fun i y hi => ?_⟩
  obtain ⟨ad, vs, e1, e2, e3, e4⟩ := h4 i y hi
  obtain ⟨v, rfl, b1, b2, hv⟩ := rWt_open e4
  refine ⟨ad, _, e1, e2, fun j u hj => ⟨⟨(e3 j u hj).1, ?_⟩, (e3 j u hj).2⟩, rWt_mk b1 b2 (by_nz hv)⟩
  have := List.mem_of_getElem? hj
  simp only [List.mem_cons, List.not_mem_nil, or_false] at this
  rw [(e3 j u hj).2]
  rcases this with rfl | rfl
  · simp
  · exact fun e => slice_nz hv (hn y (List.mem_of_getElem? hi)) (by simpa using e)
theorem dsk_nz {ok : Addr → Prop} {w : World} {v : Value} {d : Dk} (h : Dsk ok w v d) (h1 : ∀ x ∈ d.1, x ≠ []) (h2 : ∀ x ∈ d.2, x.2 ≠ []) : Dsk (NZ ok w) w v d := by
  obtain ⟨a, b, e, r1, r2⟩ := h
  exact ⟨a, b, e, rows_nz r1 h1, wts_nz r2 h2⟩
theorem full_may {d : Dk} (h : mayB d = true) : (∀ x ∈ d.1, x ≠ []) ∧ (∀ x ∈ d.2, x.2 ≠ []) := by
  obtain ⟨_, _, h1, h2⟩ := may_of h
  refine ⟨fun x hx e => ?_, fun x hx e => ?_⟩
  · obtain ⟨i, hi⟩ := List.getElem?_of_mem hx
    have := h1 i x hi
    rw [e] at this
    cases this
  · obtain ⟨i, hi⟩ := List.getElem?_of_mem hx
    have := (h2 i x hi).2.2
    rw [e] at this
    cases this
theorem full_wr (d : Dk) (n : Int) (xs : List UInt8) : (∀ x ∈ (wrR d n xs).1, x ≠ []) ∧ (∀ x ∈ (wrR d n xs).2, x.2 ≠ []) := by
  by_cases he : wErr d n xs = 0
  · exact full_may (may_wrR he).1
  · rw [show wrR d n xs = emptyD by simp [wrR, he]]
    exact ⟨fun x hx => absurd hx (by simp [emptyD]), fun x hx => absurd hx (by simp [emptyD])⟩
/-- A store into a box that holds two empty slices turns nothing of a disk that holds none. -/
theorem dsk_put_zero {W W9 : World} {g : Nat} {t : TypeId} {v : Value} {d : Dk} (h : Dsk (Old W) W v d) (hd : (∀ x ∈ d.1, x ≠ []) ∧ (∀ x ∈ d.2, x.2 ≠ [])) (hz : W.heap[g]? = some (.cells #[.slice none 0 0, .slice none 0 0] t (0, 0))) (hg : W.grownBy W9 (some g)) : Dsk (Old W9) W9 v d :=
  (dsk_nz h hd.1 hd.2).map fun p u hp hc => by
    have hn : p.block ≠ g := fun e => by
      refine hp.2 ?_
      rw [hc]
      unfold World.cell? at hc
      rw [e, hz] at hc
      dsimp only at hc
      split at hc
      · cases hc
      · rcases hk : p.off with _ | _ | k
        · rw [hk] at hc; exact hc.symm
        · rw [hk] at hc; exact hc.symm
        · rw [hk] at hc; simp at hc
    exact ⟨Nat.lt_of_lt_of_le hp.1 hg.size, (World.cell?_of_block (hg.block _ hp.1 (by simpa using hn))).trans hc⟩
theorem dsk_apart {w0 w w' : World} {v : Value} {d : Dk} (h : Dsk (Apart w0 w w') w' v d) (hs : w0.heap.size ≤ w'.heap.size) : Dsk (Old w') w' v d :=
  h.map fun _ _ hp hc => ⟨hp.elim (fun hp => Nat.lt_of_lt_of_le hp hs) (fun hp => hp.2), hc⟩
/-- A store into a block between stays apart. -/
theorem dsk_apart_put {w0 w w' W : World} {v : Value} {d : Dk} (h : Dsk (Apart w0 w w') w' v d) (hs : w0.heap.size < w.heap.size) (hs2 : w0.heap.size ≤ w'.heap.size) (hg : w'.grownBy W (some w0.heap.size)) : Dsk (Old W) W v d :=
  h.map fun p _ hp hc => by
    have hlt : p.block < w'.heap.size := hp.elim (fun hp => Nat.lt_of_lt_of_le hp hs2) (fun hp => hp.2)
    have hn : p.block ≠ w0.heap.size := fun e => by rcases hp with hp | hp <;> omega
    exact ⟨Nat.lt_of_lt_of_le hlt hg.size, (World.cell?_of_block (hg.block _ hlt (by simpa using hn))).trans hc⟩
theorem dsk_empty_any (ok : Addr → Prop) (w : World) : Dsk ok w (.agg #[.slice none 0 0, .slice none 0 0]) emptyD :=
  ⟨_, _, rfl, ⟨none, 0, rfl, by simp [emptyD], by omega, fun i x h => by simp [emptyD] at h⟩, ⟨none, 0, rfl, by simp [emptyD], by omega, fun i x h => by simp [emptyD] at h⟩⟩
end Go.Proofs.YtjlbkcnhbndgbaaGreat

/-
  A store into a box of noughts turns nothing of a store that may be. Conditions: those that each lemma states.
-/
namespace Go.Proofs.YtjlbkcnhbndgbaaGreat
open Go.RowKit

theorem nz_apart {W : World} {g : Nat} {cs : Array Value} {t : TypeId} {p : Addr} {u : Value} (hz : W.heap[g]? = some (.cells cs t (0, 0))) (hcs : ∀ c ∈ cs, c = .slice none 0 0) (hc : W.cell? p = some u) (hn : W.cell? p ≠ some (.slice none 0 0)) : p.block ≠ g := fun e => by
  refine hn ?_
  rw [hc]
  unfold World.cell? at hc
  rw [e, hz] at hc
  dsimp only at hc
  split at hc
  · cases hc
  · obtain ⟨hlt, hu⟩ := Array.getElem?_eq_some_iff.1 hc
    rw [← hu]
    exact congrArg some (hcs _ (Array.getElem_mem hlt))
theorem sto_nz {ok : Addr → Prop} {w : World} {v : Value} {s : Rm} (h : Sto ok w v s) (hd : (∀ x ∈ s.1.1, x ≠ []) ∧ (∀ x ∈ s.1.2, x.2 ≠ [])) : Sto (NZ ok w) w v s := by
  obtain ⟨a, b, n, l, e, h1, h2, h3⟩ := h
  exact ⟨a, b, n, l, e, dsk_nz h1 hd.1 hd.2, by_nz h2, by_nz h3⟩
def FullR (s : Rm) : Prop := (∀ x ∈ s.1.1, x ≠ []) ∧ (∀ x ∈ s.1.2, x.2 ≠ [])
theorem full_rm {s : Rm} (h : mayR s = true) : FullR s := full_may (mayR_of h).1
theorem full_empty : FullR emptyR := ⟨fun x hx => absurd hx (by simp [emptyR, emptyD]), fun x hx => absurd hx (by simp [emptyR, emptyD])⟩
theorem full_tk (s : Rm) (b : List UInt8) : FullR (tkV s b) := by
  by_cases h : tkE s b = 0
  · exact full_rm (tk_may h)
  · rw [(tk_no h).2]; exact full_empty
theorem full_sh (s : Rm) (n : Int) : FullR (shV s n) := by
  by_cases h : shE s n = 0
  · exact full_rm (sh_may h)
  · rw [sh_no h]; exact full_empty
theorem sto_put_zero {W W9 : World} {g : Nat} {cs : Array Value} {t : TypeId} {v : Value} {s : Rm} (h : Sto (Old W) W v s) (hd : FullR s) (hz : W.heap[g]? = some (.cells cs t (0, 0))) (hcs : ∀ c ∈ cs, c = .slice none 0 0) (hg : W.grownBy W9 (some g)) : Sto (Old W9) W9 v s :=
  (sto_nz h hd).map fun p u hp hc => by
    have hn := nz_apart hz hcs hc hp.2
    exact ⟨Nat.lt_of_lt_of_le hp.1 hg.size, (World.cell?_of_block (hg.block _ hp.1 (by simpa using hn))).trans hc⟩
end Go.Proofs.YtjlbkcnhbndgbaaGreat

/-
  The document's answers of layer 8: Taken. Conditions: those that each lemma states.
-/
namespace Go.Proofs.YtjlbkcnhbndgbaaGreat
open Go.RowKit

/-- Cells that lie there, but not in block g. -/
def Off (g : Nat) (w : World) : Addr → Prop := fun p => p.block < w.heap.size ∧ p.block ≠ g
theorem off_put {g : Nat} {W W1 : World} {p : Addr} {v : Value} (gr : W.grownBy W1 (some g)) (hp : Off g W p) (hc : W.cell? p = some v) : Off g W1 p ∧ W1.cell? p = some v :=
  ⟨⟨Nat.lt_of_lt_of_le hp.1 gr.size, hp.2⟩, (World.cell?_of_block (gr.block _ hp.1 (by simpa using hp.2))).trans hc⟩
theorem off_below {g : Nat} {W W1 : World} {p : Addr} {v : Value} (hb : Below W.heap.size W W1) (hp : Off g W p) (hc : W.cell? p = some v) : Off g W1 p ∧ W1.cell? p = some v :=
  ⟨⟨Nat.lt_of_lt_of_le hp.1 hb.size, hp.2⟩, (hb.cell hp.1).trans hc⟩
theorem off_low {g : Nat} {w W : World} {p : Addr} {v : Value} (hb : Below w.heap.size w W) (hg : w.heap.size ≤ g) (hp : Old w p) (hc : w.cell? p = some v) : Off g W p ∧ W.cell? p = some v :=
  ⟨⟨Nat.lt_of_lt_of_le hp hb.size, fun e => by have h : p.block < w.heap.size := hp; omega⟩, (hb.cell hp).trans hc⟩
theorem off_new {g lo : Nat} {W : World} {p : Addr} {v : Value} (hg : g < lo) (hp : New lo W p) (hc : W.cell? p = some v) : Off g W p ∧ W.cell? p = some v :=
  ⟨⟨hp.2.1, fun e => by have := hp.1; omega⟩, hc⟩
theorem off_old {g : Nat} {W : World} {p : Addr} {v : Value} (hp : Off g W p) (hc : W.cell? p = some v) : Old W p ∧ W.cell? p = some v := ⟨hp.1, hc⟩
theorem off_apart {g : Nat} {w W W' : World} {p : Addr} {v : Value} (hw : w.heap.size ≤ g) (hg : g < W.heap.size) (hs : W.heap.size ≤ W'.heap.size) (hp : Apart w W W' p) (hc : W'.cell? p = some v) : Off g W' p ∧ W'.cell? p = some v :=
  ⟨hp.elim (fun h => ⟨by omega, by omega⟩) (fun h => ⟨h.2, by omega⟩), hc⟩

def tnN (s : Rm) : Int := if freeL s = [] ∨ 4096 ≤ s.1.2.length then -1 else (tkK s : Int)
def tnV (s : Rm) (b : List UInt8) : Rm := if freeL s = [] ∨ 4096 ≤ s.1.2.length then s else (wrD s.1 (tkK s) b, s.2.1.set (tkK s) 1, s.2.2)

set_option maxRecDepth 100000 in
set_option maxHeartbeats 8000000 in
theorem refTakenR_any (v u : Value) (s : Rm) (b : List UInt8) (hm : mayR s = true) (hb128 : b.length = 128) (w : World) (h : Sto (Old w) w v s) (hu : rBy (Old w) w [u] b) :
    Calls Tryz.prog 34 #[v, u] w fun e w' => ∃ A ca B cb N cn L cl, e = .returned (.tuple #[.agg #[.slice A (tnV s b).1.1.length ca, .slice B (tnV s b).1.2.length cb, .slice N (tnV s b).2.1.length cn, .slice L (tnV s b).2.2.length cl], .int .i64 (tnN s)]) ∧
      Sto (Old w') w' (.agg #[.slice A (tnV s b).1.1.length ca, .slice B (tnV s b).1.2.length cb, .slice N (tnV s b).2.1.length cn, .slice L (tnV s b).2.2.length cl]) (tnV s b) ∧ Below w.heap.size w w' := by
  have H0 := Lib.hid h
  have U0 := Lib.hid hu
  obtain ⟨A, ca, B, cb, N, cn, L, cl, w1, rfl, hw1, f1, f2, hsz, hB, H⟩ := box_sto2 h
  obtain ⟨E, ce, rfl, _⟩ := id (rBy_open hu)
  clear h hu
  obtain ⟨k0, k1, k2, k3, _, kg⟩ := four_cells f1
  replace hsz := Lib.hid hsz
  replace f2 := Lib.hid f2
  have hl1 := Lib.hid (mayT_len (mayR_of hm).2.1)
  obtain ⟨M, hM⟩ : ∃ M, (freeL s).length = M := ⟨_, rfl⟩
  go_enter Tryz.func34, Tryz.ntmps34
  go_upto_region 1 with fail
  clear hw1
  go_wp2_with fail
  with_reducible refine (refAllR_any _ s hm _ H.out).mono ?_
  rintro e w2 ⟨u2, rfl, h2, hb2⟩
  obtain ⟨X, xc, rfl, _⟩ := id (rInts_open h2)
  rw [intsN_length, hM] at h2 ⊢
  have F1 := (hb2.block w.heap.size kg).trans f1
  have F2 := (hb2.block (w.heap.size + 1) (by rw [hsz.out]; omega)).trans f2.out
  have B2 := Lib.hid (hB.trans (hb2.mono hB.size))
  have X2 := Lib.hid h2
  have s2 : Hid (w1.heap.size = w.heap.size + 2 ∧ w.heap.size + 2 ≤ w2.heap.size) := Lib.hid ⟨hsz.out, by have := hsz.out; have := hb2.size; omega⟩
  clear k0 k1 k2 k3 kg f1 hb2 h2 H
  obtain ⟨m0, m1, m2, m3, _, mg⟩ := four_cells F1
  by_cases hno : freeL s = [] ∨ 4096 ≤ s.1.2.length
  · have hN : Hid (tnN s = -1) := Lib.hid (by rw [tnN, if_pos hno])
    have hV : Hid (tnV s b = s) := Lib.hid (by rw [tnV, if_pos hno])
    obtain ⟨c0, c1, c2, c3, c4, c5⟩ := four_cells F2
    obtain ⟨W9, hW9, g9, gr9, gs9⟩ := put_four (a' := .slice A s.1.1.length ca) (b' := .slice B s.1.2.length cb) (c' := .slice N s.2.1.length cn) (d' := .slice L s.2.2.length cl) F2
    obtain ⟨n0, n1, n2, n3, _, _⟩ := four_cells g9
    have hB9 := Lib.hid (B2.out.grown gr9 B2.out.size (fun q e => by cases e; omega))
    replace g9 := Lib.hid g9
    replace F2 := Lib.hid F2
    replace F1 := Lib.hid F1
    clear gr9 gs9
    have hfin : ∀ (x : Value), x = .tuple #[.agg #[.slice A s.1.1.length ca, .slice B s.1.2.length cb, .slice N s.2.1.length cn, .slice L s.2.2.length cl], .int .i64 (-1)] → ∃ A ca B cb N cn L cl, Ending.returned x = .returned (.tuple #[.agg #[.slice A (tnV s b).1.1.length ca, .slice B (tnV s b).1.2.length cb, .slice N (tnV s b).2.1.length cn, .slice L (tnV s b).2.2.length cl], .int .i64 (tnN s)]) ∧
      Sto (Old W9) W9 (.agg #[.slice A (tnV s b).1.1.length ca, .slice B (tnV s b).1.2.length cb, .slice N (tnV s b).2.1.length cn, .slice L (tnV s b).2.2.length cl]) (tnV s b) ∧ Below w.heap.size w W9 := by
      rintro x rfl
      rw [hN.out, hV.out]
      exact ⟨A, ca, B, cb, N, cn, L, cl, rfl, H0.out.below hB9.out, hB9.out⟩
    replace hfin := Lib.hid hfin
    by_cases hz : M = 0
    · subst hz
      clear hno
      replace hM := Lib.hid hM
      go_wp2_with fail
      exact bodyPost_ret (v := .tuple #[.agg #[.slice A s.1.1.length ca, .slice B s.1.2.length cb, .slice N s.2.1.length cn, .slice L s.2.2.length cl], .int .i64 (-1)]) (by simp [results, Tryz.results34, go_sem, n0, n1, n2, n3]) rfl (hfin.out _ rfl)
    · have hz2 : ((M : Int) == 0) = false := by rw [beq_eq_false_iff_ne]; omega
      have hw4 : 4096 ≤ s.1.2.length := by
        rcases hno with h | h
        · rw [h] at hM; exact absurd hM.symm hz
        · exact h
      have hw4' : (4096 : Int) ≤ s.1.2.length := by omega
      clear hno
      replace hM := Lib.hid hM
      go_wp2_with fail
      exact bodyPost_ret (v := .tuple #[.agg #[.slice A s.1.1.length ca, .slice B s.1.2.length cb, .slice N s.2.1.length cn, .slice L s.2.2.length cl], .int .i64 (-1)]) (by simp [results, Tryz.results34, go_sem, n0, n1, n2, n3]) rfl (hfin.out _ rfl)
  · obtain ⟨hf, hw4⟩ := not_or.1 hno
    have hE := tk_yes hm hb128 hf (by omega)
    obtain ⟨-, -, -, hfl, h8, h256, -, -, -, -⟩ := tk_ok hE
    obtain ⟨k, hk⟩ : ∃ k, tkK s = k := ⟨_, rfl⟩
    have hN : Hid (tnN s = (k : Int)) := Lib.hid (by rw [tnN, if_neg hno, hk])
    have hV : Hid (tnV s b = (wrD s.1 k b, s.2.1.set k 1, s.2.2)) := Lib.hid (by rw [tnV, if_neg hno, hk])
    have hVf : Hid (FullR (wrD s.1 k b, s.2.1.set k 1, s.2.2)) := Lib.hid (by
      have := full_tk s b
      rwa [(tk_ok hE).2.2.2.2.2.2.2.2.2, hk] at this)
    rw [hk] at hfl h8 h256
    have hw4' : s.1.2.length < 4096 := by omega
    have hxm : 0 < M := by rw [← hM, hfl]; simp
    obtain ⟨xad, rfl, hxl, hxc⟩ : ∃ xad, X = some xad ∧ w1.heap.size ≤ xad.block ∧ w2.cell? xad = some (.int .i64 (k : Int)) := by
      obtain ⟨X', c', e, _, _, hc⟩ := rInts_open X2.out
      simp only [Value.slice.injEq] at e
      obtain ⟨rfl, -, -⟩ := e
      obtain ⟨xad, rfl, hn, hcc, _⟩ := hc 0 (k : Int) (intsN_get0 hfl)
      exact ⟨xad, rfl, by simpa [Addr.add] using hn.1, by simpa [Addr.add] using hcc⟩
    have hxb : xad.block < w2.heap.size := World.block_lt_of_cell? _ _ hxc
    have hz2 : ((M : Int) == 0) = false := by rw [beq_eq_false_iff_ne]; omega
    have hw5 : ¬ (4096 : Int) ≤ s.1.2.length := by omega
    replace hM := Lib.hid hM
    have hxl' := Lib.hid hxl
    have hw4'' := Lib.hid hw4'
    have h256' := Lib.hid h256
    have F1h := Lib.hid F1
    have F2h := Lib.hid F2
    have hxch := Lib.hid hxc
    clear hno hf hw4 hE hfl hk hxl F1 F2
    go_upto_region 4 with fail
    obtain ⟨n1, hn1⟩ : ∃ n1, (wrD s.1 k b).1.length = n1 := ⟨_, rfl⟩
    obtain ⟨n2, hn2⟩ : ∃ n2, (wrD s.1 k b).2.length = n2 := ⟨_, rfl⟩
    refine wp_region_tails (by kernel_rfl) 8 (fun W => Below w2.heap.size w2 W) (fun i => match i with
        | 6 => some (fun v W => ∃ P p Q r, v = .agg #[.slice P n1 p, .slice Q n2 r] ∧ Dsk (Off w.heap.size W) W (.agg #[.slice P n1 p, .slice Q n2 r]) (wrD s.1 k b))
        | _ => none) (fun _ => none) (by decide) (by kernel_rfl) (by kernel_rfl) (Below.refl _ _).drew (fun w w' h hb => h.trans (hb.mono h.size)) ?tst ?_
    case tst =>
      intro j φ x W W' hp hx hb
      match j, hp with
      | 6, hp =>
        cases hp
        obtain ⟨P, p, Q, r, e, hd⟩ := hx
        exact ⟨P, p, Q, r, e, hd.map fun _ _ hp hc => off_below hb hp hc⟩
    simp only [List.take_succ_cons, List.take_zero, List.drop_succ_cons, List.drop_zero]
    repeat (first
      | (refine wpAs_skip rfl ?_; simp only [Act.put, List.setIfInBounds_toArray, List.set_cons_zero, List.set_cons_succ])
      | (refine wpAs_pure (v := ?_) rfl rfl ?_ ?_; rotate_left; (intro W hC hE; clear hE; (have z0 := (hC.cell (p := ⟨w.heap.size, 0, none⟩) mg).trans m0; have z1 := (hC.cell (p := ⟨w.heap.size, 1, none⟩) mg).trans m1; have zx := (hC.cell (p := xad) hxb).trans hxch.out); clear hC; go_simp; done); simp only [Act.put, List.setIfInBounds_toArray, List.set_cons_zero, List.set_cons_succ])
      | (refine wpAs_pure (v := ?_) rfl rfl ?_ ?_; rotate_left; (intro W hC hE; clear hE; (have z0 := (hC.cell (p := ⟨w.heap.size, 0, none⟩) mg).trans m0; have z1 := (hC.cell (p := ⟨w.heap.size, 1, none⟩) mg).trans m1; have zx := (hC.cell (p := xad) hxb).trans hxch.out); clear hC; go_simp; with_reducible rfl); simp only [Act.put, List.setIfInBounds_toArray, List.set_cons_zero, List.set_cons_succ]))
    refine wpAs_act rfl rfl ?_ ?_
    · intro W hC hE
      clear hE
      refine does_enter (f := 58) (args := #[.agg #[.slice A s.1.1.length ca, .slice B s.1.2.length cb], .int .i64 (k : Int), .slice E b.length ce]) ?_ ?_
      · go_simp
      · refine (refWith_in _ _ s.1 k b w W (B2.out.trans (hC.mono B2.out.size)) H0.out.parts.1 U0.out hw4''.out h256'.out).mono ?_
        rintro e W' ⟨x, rfl, hx, hb⟩
        obtain ⟨P, p, Q, r, rfl, _⟩ := id hx.open
        rw [hn1, hn2] at hx
        rw [hn1, hn2]
        exact ⟨_, rfl, ⟨P, p, Q, r, rfl, hx.map fun _ _ hp hc => off_apart (Nat.le_refl _) (by have := s2.out; have := hC.size; omega) hb.size hp hc⟩, hb⟩
    simp only [Act.put, List.setIfInBounds_toArray, List.set_cons_zero, List.set_cons_succ, envAdd]
    intro x26
    repeat (first
      | (refine wpAs_skip rfl ?_; simp only [Act.put, List.setIfInBounds_toArray, List.set_cons_zero, List.set_cons_succ])
      | (refine wpAs_pure (v := ?_) rfl rfl ?_ ?_; rotate_left; (intro W hC hE; clear hE; skip; clear hC; go_simp; done); simp only [Act.put, List.setIfInBounds_toArray, List.set_cons_zero, List.set_cons_succ])
      | (refine wpAs_pure (v := ?_) rfl rfl ?_ ?_; rotate_left; (intro W hC hE; clear hE; skip; clear hC; go_simp; with_reducible rfl); simp only [Act.put, List.setIfInBounds_toArray, List.set_cons_zero, List.set_cons_succ]))
    refine wpAs_end fun W hC hE => ?_
    obtain ⟨⟨P, p, Q, r, rfl, hd⟩, _⟩ := hE
    have bW := (hC.block w.heap.size mg).trans F1h.out
    obtain ⟨c0, c1, c2, c3, c4, c5⟩ := four_cells bW
    obtain ⟨W4, hW4, g4, gr4, gs4⟩ := put_duo (a' := .slice P n1 p) (b' := .slice Q n2 r) bW
    have hd4 := Lib.hid (hd.map fun _ _ hp hc => off_put gr4 hp hc)
    have F4 := Lib.hid ((gr4.block (w.heap.size + 1) (by have := s2.out; have := hC.size; omega) (by simp)).trans ((hC.block (w.heap.size + 1) (by have := s2.out; omega)).trans F2h.out))
    have B4 := Lib.hid ((B2.out.trans (hC.mono B2.out.size)).grown gr4 (Nat.le_trans B2.out.size hC.size) (fun q e => by cases e; omega))
    have xc4 := Lib.hid (((World.cell?_of_block (gr4.block xad.block (by have := hC.size; omega) (by simp; have := hxl'.out; have := s2.out; omega)) : W4.cell? xad = W.cell? xad)).trans ((hC.cell (p := xad) hxb).trans hxch.out))
    have s4 : Hid (w.heap.size + 2 ≤ W4.heap.size ∧ xad.block < W4.heap.size) := Lib.hid ⟨by have := s2.out; have := hC.size; omega, by have := hC.size; omega⟩
    have G4 := Lib.hid g4
    replace bW := Lib.hid bW
    replace g4 := Lib.hid g4
    clear hd gr4 gs4 hC m0 m1 m2 m3 mg
    go_upto_region 5 with fail
    clear hW4 c0 c1 c2 c3 c4 c5
    obtain ⟨w4, rfl⟩ : ∃ w4 : World, w4 = W4 := ⟨_, rfl⟩
    obtain ⟨m0, m1, m2, m3, _, mg⟩ := four_cells G4.out
    refine wp_region_tails (by kernel_rfl) 7 (fun W => Below w4.heap.size w4 W) (fun i => match i with
        | 5 => some (fun v W => ∃ Y y, v = .slice Y 256 y ∧ rBy (Off w.heap.size W) W [.slice Y 256 y] (s.2.1.set k 1))
        | _ => none) (fun _ => none) (by decide) (by kernel_rfl) (by kernel_rfl) (Below.refl _ _).drew (fun w w' h hb => h.trans (hb.mono h.size)) ?tst ?_
    case tst =>
      intro j φ x W W' hp hx hb
      match j, hp with
      | 5, hp =>
        cases hp
        obtain ⟨Y, y, e, hy⟩ := hx
        exact ⟨Y, y, e, stab_by _ _ _ _ _ _ (fun _ _ hp hc => off_below hb hp hc) hy⟩
    simp only [List.take_succ_cons, List.take_zero, List.drop_succ_cons, List.drop_zero]
    repeat (first
      | (refine wpAs_skip rfl ?_; simp only [Act.put, List.setIfInBounds_toArray, List.set_cons_zero, List.set_cons_succ])
      | (refine wpAs_pure (v := ?_) rfl rfl ?_ ?_; rotate_left; (intro W hC hE; clear hE; (have z2 := (hC.cell (p := ⟨w.heap.size, 2, none⟩) mg).trans m2; have zx := (hC.cell (p := xad) s4.out.2).trans xc4.out); clear hC; go_simp; done); simp only [Act.put, List.setIfInBounds_toArray, List.set_cons_zero, List.set_cons_succ])
      | (refine wpAs_pure (v := ?_) rfl rfl ?_ ?_; rotate_left; (intro W hC hE; clear hE; (have z2 := (hC.cell (p := ⟨w.heap.size, 2, none⟩) mg).trans m2; have zx := (hC.cell (p := xad) s4.out.2).trans xc4.out); clear hC; go_simp; with_reducible rfl); simp only [Act.put, List.setIfInBounds_toArray, List.set_cons_zero, List.set_cons_succ]))
    refine wpAs_act rfl rfl ?_ ?_
    · intro W hC hE
      clear hE
      refine does_enter (f := 38) (args := #[.slice N s.2.1.length cn, .int .i64 (k : Int), .int .u8 1]) ?_ ?_
      · go_simp
      · refine (refWithT_any _ s.2.1 k 1 1 rfl (by rw [hl1.out]; exact h256'.out) (by rw [hl1.out]; omega) W (H0.out.below (B4.out.trans (hC.mono B4.out.size))).parts.2.1).mono ?_
        rintro e W' ⟨x, rfl, hx, hb⟩
        obtain ⟨Y, y, rfl, _⟩ := id (rBy_open hx)
        rw [List.length_set, hl1.out] at hx
        rw [List.length_set, hl1.out]
        exact ⟨_, rfl, ⟨Y, y, rfl, stab_by _ _ _ _ _ _ (fun _ _ hp hc => off_new (by have := s4.out; have := hC.size; omega) hp hc) hx⟩, hb⟩
    simp only [Act.put, List.setIfInBounds_toArray, List.set_cons_zero, List.set_cons_succ, envAdd]
    intro x33
    repeat (first
      | (refine wpAs_skip rfl ?_; simp only [Act.put, List.setIfInBounds_toArray, List.set_cons_zero, List.set_cons_succ])
      | (refine wpAs_pure (v := ?_) rfl rfl ?_ ?_; rotate_left; (intro W hC hE; clear hE; skip; clear hC; go_simp; done); simp only [Act.put, List.setIfInBounds_toArray, List.set_cons_zero, List.set_cons_succ])
      | (refine wpAs_pure (v := ?_) rfl rfl ?_ ?_; rotate_left; (intro W hC hE; clear hE; skip; clear hC; go_simp; with_reducible rfl); simp only [Act.put, List.setIfInBounds_toArray, List.set_cons_zero, List.set_cons_succ]))
    refine wpAs_end fun W hC hE => ?_
    obtain ⟨⟨Y, y, rfl, hy⟩, _⟩ := hE
    have bW := (hC.block w.heap.size mg).trans G4.out
    obtain ⟨c0, c1, c2, c3, c4, c5⟩ := four_cells bW
    obtain ⟨W5, hW5, g5, gr5, gs5⟩ := put_third (c' := .slice Y 256 y) bW
    have hy5 := Lib.hid (stab_by _ _ _ _ _ _ (fun _ _ hp hc => off_put gr5 hp hc) hy)
    have hd5 := Lib.hid ((hd4.out.map fun _ _ hp hc => off_below hC hp hc).map fun _ _ hp hc => off_put gr5 hp hc)
    have F5 := (gr5.block (w.heap.size + 1) (by have := s4.out; have := hC.size; omega) (by simp)).trans ((hC.block (w.heap.size + 1) (by have := s4.out; omega)).trans F4.out)
    have B5 := Lib.hid ((B4.out.trans (hC.mono B4.out.size)).grown gr5 (Nat.le_trans B4.out.size hC.size) (fun q e => by cases e; omega))
    have xc5 := ((World.cell?_of_block (gr5.block xad.block (by have := s4.out; have := hC.size; omega) (by simp; have := hxl'.out; have := s2.out; omega)) : W5.cell? xad = W.cell? xad)).trans ((hC.cell (p := xad) s4.out.2).trans xc4.out)
    have G5 := Lib.hid g5
    replace bW := Lib.hid bW
    replace g5 := Lib.hid g5
    clear hy gr5 gs5 hC m0 m1 m2 m3 mg
    go_upto_region 6 with fail
    clear hW5 c0 c1 c2 c3 c4 c5
    obtain ⟨w5, rfl⟩ : ∃ w5 : World, w5 = W5 := ⟨_, rfl⟩
    obtain ⟨m0, m1, m2, m3, _, mg⟩ := four_cells G5.out
    obtain ⟨c0, c1, c2, c3, c4, c5⟩ := four_cells F5
    obtain ⟨W9, hW9, g9, gr9, gs9⟩ := put_four (a' := .slice P n1 p) (b' := .slice Q n2 r) (c' := .slice Y 256 y) (d' := .slice L s.2.2.length cl) F5
    obtain ⟨o0, o1, o2, o3, _, _⟩ := four_cells g9
    have hB9 := Lib.hid (B5.out.grown gr9 B5.out.size (fun q e => by cases e; omega))
    have hx9 : W9.cell? xad = some (.int .i64 (k : Int)) := (World.cell?_of_block (gr9.block xad.block (World.block_lt_of_cell? _ _ xc5) (by simp; have := hxl'.out; have := s2.out; omega))).trans xc5
    have hs9 : Hid (Sto (Old W9) W9 (.agg #[.slice P n1 p, .slice Q n2 r, .slice Y 256 y, .slice L s.2.2.length cl]) (wrD s.1 k b, s.2.1.set k 1, s.2.2)) := Lib.hid (by
      have h5 : Sto (Old w5) w5 (.agg #[.slice P n1 p, .slice Q n2 r, .slice Y 256 y, .slice L s.2.2.length cl]) (wrD s.1 k b, s.2.1.set k 1, s.2.2) :=
        Sto.mk (hd5.out.map fun _ _ hp hc => off_old hp hc) (stab_by _ _ _ _ _ _ (fun _ _ hp hc => off_old hp hc) hy5.out) (H0.out.below B5.out).parts.2.2
      exact sto_put_zero h5 hVf.out F5 (by simp) gr9)
    rw [← hW9] at hx9
    have hW := Lib.hid hW9
    have hlen : Hid ((wrD s.1 k b).1.length = n1 ∧ (wrD s.1 k b).2.length = n2 ∧ (s.2.1.set k 1).length = 256) := Lib.hid ⟨hn1, hn2, by rw [List.length_set]; exact hl1.out⟩
    replace g9 := Lib.hid g9
    replace F5 := Lib.hid F5
    clear hW9 gr9 gs9 hn1 hn2
    go_region
    all_goals
      (go_wp2_with fail
       try rw [hW.out]
       have o0' : (W9.drew).cell? ⟨w.heap.size + 1, 0, none⟩ = some (.slice P n1 p) := o0
       have o1' : (W9.drew).cell? ⟨w.heap.size + 1, 1, none⟩ = some (.slice Q n2 r) := o1
       have o2' : (W9.drew).cell? ⟨w.heap.size + 1, 2, none⟩ = some (.slice Y 256 y) := o2
       have o3' : (W9.drew).cell? ⟨w.heap.size + 1, 3, none⟩ = some (.slice L s.2.2.length cl) := o3
       refine bodyPost_ret (v := .tuple #[.agg #[.slice P n1 p, .slice Q n2 r, .slice Y 256 y, .slice L s.2.2.length cl], .int .i64 (k : Int)]) (by simp [results, Tryz.results34, go_sem, o0', o1', o2', o3']) rfl ?_
       rw [hN.out, hV.out]
       show ∃ A ca B cb N cn L cl, _ = Ending.returned (.tuple #[.agg #[.slice A (wrD s.1 k b).1.length ca, .slice B (wrD s.1 k b).2.length cb, .slice N (s.2.1.set k 1).length cn, .slice L s.2.2.length cl], .int .i64 (k : Int)]) ∧ Sto _ _ (.agg #[.slice A (wrD s.1 k b).1.length ca, .slice B (wrD s.1 k b).2.length cb, .slice N (s.2.1.set k 1).length cn, .slice L s.2.2.length cl]) (wrD s.1 k b, s.2.1.set k 1, s.2.2) ∧ _
       rw [hlen.out.1, hlen.out.2.1, hlen.out.2.2]
       exact ⟨P, p, Q, r, Y, y, L, cl, rfl, hs9.out.below (Below.refl _ _).drew, hB9.out.trans ((Below.refl _ _).drew)⟩)
end Go.Proofs.YtjlbkcnhbndgbaaGreat

/-
  The document's answers of layer 8: Take, Share. Conditions: those that each lemma states.
-/
namespace Go.Proofs.YtjlbkcnhbndgbaaGreat
open Go.RowKit

set_option maxRecDepth 100000 in
set_option maxHeartbeats 8000000 in
theorem refTakeR_any (v u : Value) (s : Rm) (b : List UInt8) (w : World) (h : Sto (Old w) w v s) (hu : rBy (Old w) w [u] b) :
    Calls Tryz.prog 9 #[v, u] w fun e w' => ∃ t, e = .returned (.tuple #[t, .int .i64 (tkN s b), .int .i64 (tkE s b)]) ∧ Sto (Old w') w' t (tkV s b) ∧ Below w.heap.size w w' := by
  obtain ⟨A, ca, B, cb, N, cn, L, cl, w1, rfl, hw1, f1, f2, hsz, hB, H⟩ := box_sto2 h
  obtain ⟨E, ce, rfl, _⟩ := id (rBy_open hu)
  have U := Lib.hid (stab_by.old hu hB)
  clear h hu
  obtain ⟨k0, k1, k2, k3, _, kg⟩ := four_cells f1
  replace hsz := Lib.hid hsz
  have hways := tk_ways s b
  cases hm : mayR s with
  | false =>
    have hE : Hid (tkE s b = 8) := Lib.hid (by
      rcases hways with ⟨_, e⟩ | ⟨h, _⟩ | ⟨h, _⟩ | ⟨h, _⟩ | ⟨h, _⟩
      · exact e
      all_goals (rw [hm] at h; cases h))
    clear hways
    go_enter Tryz.func9, Tryz.ntmps9
    go_upto_region 1 with fail
    clear hw1
    go_wp2_with fail
    with_reducible refine (refMayR_any _ s _ H.out).mono ?_
    rintro e w2 ⟨rfl, hb2⟩
    rw [hm]
    have F2 := (hb2.block (w.heap.size + 1) (by rw [hsz.out]; omega)).trans f2
    replace hb2 := Lib.hid (hB.trans (hb2.mono hB.size))
    replace f2 := Lib.hid f2
    obtain ⟨k0, k1, k2, k3, k4, k5⟩ := four_cells F2
    obtain ⟨W9, hW9, g9, gr9, gs9⟩ := put_four (a' := .slice none 0 0) (b' := .slice none 0 0) (c' := .slice none 0 0) (d' := .slice none 0 0) F2
    obtain ⟨n0, n1, n2, n3, _, _⟩ := four_cells g9
    have hB9 := Lib.hid ((hb2).out.grown gr9 (hb2).out.size (fun q e => by cases e; omega))
    replace g9 := Lib.hid g9
    replace F2 := Lib.hid F2
    clear gr9 gs9
    go_wp2_with fail
    refine bodyPost_ret (v := .tuple #[.agg #[.slice none 0 0, .slice none 0 0, .slice none 0 0, .slice none 0 0], .int .i64 0, .int .i64 8]) (by simp [results, Tryz.results9, go_sem, n0, n1, n2, n3]) rfl ?_
    obtain ⟨hN, hV⟩ := tk_no (s := s) (b := b) (by rw [hE.out]; decide)
    rw [hN, hV, hE.out]
    exact ⟨_, rfl, sto_empty _ _, hB9.out⟩
  | true =>
    by_cases hlb : b.length = 128
    case neg =>
      have hE : Hid (tkE s b = 3) := Lib.hid (by
        rcases hways with ⟨h, _⟩ | ⟨_, _, e⟩ | ⟨_, h, _⟩ | ⟨_, h, _⟩ | ⟨_, h, _⟩
        · rw [hm] at h; cases h
        · exact e
        all_goals exact absurd h hlb)
      have e2 : ((b.length : Int) != 128) = true := by simp; omega
      clear hways
      go_enter Tryz.func9, Tryz.ntmps9
      go_upto_region 1 with fail
      clear hw1
      go_wp2_with fail
      with_reducible refine (refMayR_any _ s _ H.out).mono ?_
      rintro e w2 ⟨rfl, hb2⟩
      rw [hm]
      have F2 := (hb2.block (w.heap.size + 1) (by rw [hsz.out]; omega)).trans f2
      replace hb2 := Lib.hid (hB.trans (hb2.mono hB.size))
      replace f2 := Lib.hid f2
      obtain ⟨k0, k1, k2, k3, k4, k5⟩ := four_cells F2
      obtain ⟨W9, hW9, g9, gr9, gs9⟩ := put_four (a' := .slice none 0 0) (b' := .slice none 0 0) (c' := .slice none 0 0) (d' := .slice none 0 0) F2
      obtain ⟨n0, n1, n2, n3, _, _⟩ := four_cells g9
      have hB9 := Lib.hid ((hb2).out.grown gr9 (hb2).out.size (fun q e => by cases e; omega))
      replace g9 := Lib.hid g9
      replace F2 := Lib.hid F2
      clear gr9 gs9
      go_wp2_with fail
      refine bodyPost_ret (v := .tuple #[.agg #[.slice none 0 0, .slice none 0 0, .slice none 0 0, .slice none 0 0], .int .i64 0, .int .i64 3]) (by simp [results, Tryz.results9, go_sem, n0, n1, n2, n3]) rfl ?_
      obtain ⟨hN, hV⟩ := tk_no (s := s) (b := b) (by rw [hE.out]; decide)
      rw [hN, hV, hE.out]
      exact ⟨_, rfl, sto_empty _ _, hB9.out⟩
    have e2 : ((b.length : Int) != 128) = false := by rw [hlb]; rfl
    have htn := Lib.hid (fun (W : World) (hS : Sto (Old W) W (.agg #[.slice A s.1.1.length ca, .slice B s.1.2.length cb, .slice N s.2.1.length cn, .slice L s.2.2.length cl]) s) (hU : rBy (Old W) W [.slice E b.length ce] b) => refTakenR_any _ _ s b hm hlb W hS hU)
    have hw2 : (tkE s b = 9 ∧ tnN s = -1) ∨ (tkE s b = 0 ∧ ∃ k : Nat, tnN s = k ∧ tkN s b = k ∧ tkV s b = tnV s b) := by
      rcases hways with ⟨h, _⟩ | ⟨_, h, _⟩ | ⟨_, _, h, e⟩ | ⟨_, _, _, h, e⟩ | ⟨_, _, h, h', e⟩
      · rw [hm] at h; cases h
      · exact absurd hlb h
      · exact .inl ⟨e, by rw [tnN, if_pos (.inl h)]⟩
      · exact .inl ⟨e, by rw [tnN, if_pos (.inr h)]⟩
      · have hno : ¬ (freeL s = [] ∨ 4096 ≤ s.1.2.length) := by
          rintro (h1 | h1)
          · exact h h1
          · omega
        obtain ⟨-, -, -, -, -, -, -, -, hN, hV⟩ := tk_ok e
        exact .inr ⟨e, tkK s, by rw [tnN, if_neg hno], hN, by rw [hV, tnV, if_neg hno]⟩
    replace hlb := Lib.hid hlb
    replace f2 := Lib.hid f2
    obtain ⟨p1, hp1⟩ : ∃ p, tnN s = p := ⟨_, rfl⟩
    obtain ⟨T, hT⟩ : ∃ T, tnV s b = T := ⟨_, rfl⟩
    rw [hp1, hT] at htn hw2
    clear hways
    go_enter Tryz.func9, Tryz.ntmps9
    go_upto_region 1 with fail
    clear hw1
    go_wp2_with fail
    with_reducible refine (refMayR_any _ s _ H.out).mono ?_
    rintro e w2 ⟨rfl, hb2⟩
    rw [hm]
    have G2 := (hb2.block w.heap.size kg).trans f1
    obtain ⟨m0, m1, m2, m3, _, mg⟩ := four_cells G2
    have F2 := Lib.hid ((hb2.block (w.heap.size + 1) (by rw [hsz.out]; omega)).trans f2.out)
    have H2 := Lib.hid (H.out.below hb2)
    have U2 := Lib.hid (stab_by.old U.out hb2)
    have s2 : Hid (w.heap.size + 2 ≤ w2.heap.size) := Lib.hid (by have := hb2.size; have := hsz.out; omega)
    replace hb2 := Lib.hid (hB.trans (hb2.mono hB.size))
    replace hT := Lib.hid hT
    replace hp1 := Lib.hid hp1
    clear k0 k1 k2 k3 kg f1 hB G2
    go_wp2_with fail
    with_reducible refine (htn.out _ H2.out U2.out).mono ?_
    rintro e w3 ⟨A3, a3, B3', b3, N3, n3, L3, l3, rfl, h3, hb3⟩
    have F3 := (hb3.block (w.heap.size + 1) (by have := s2.out; omega)).trans F2.out
    obtain ⟨w4, hw4, g4, hs4, hb4⟩ := box_4 w3 (.slice A3 T.1.1.length a3) (.slice B3' T.1.2.length b3) (.slice N3 T.2.1.length n3) (.slice L3 T.2.2.length l3) 28
    have F4 := (hb4.block (w.heap.size + 1) (by have := s2.out; have := hb3.size; omega)).trans F3
    have T4 := Lib.hid (h3.below hb4)
    have B4 := Lib.hid (hb2.out.trans ((hb3.trans (hb4.mono hb3.size)).mono hb2.out.size))
    obtain ⟨p0, p1', p2, p3, _, pg⟩ := four_cells g4
    replace g4 := Lib.hid g4
    replace hs4 := Lib.hid hs4
    replace F3 := Lib.hid F3
    clear h3 hb3 hb4 m0 m1 m2 m3 mg F2
    rcases hw2 with ⟨hE, hp⟩ | ⟨hE, k, hp, hN, hV⟩
    · subst hp
      replace hE := Lib.hid hE
      go_upto_region 6 with fail
      clear hw4
      obtain ⟨k0, k1, k2, k3, k4, k5⟩ := four_cells F4
      obtain ⟨W9, hW9, g9, gr9, gs9⟩ := put_four (a' := .slice none 0 0) (b' := .slice none 0 0) (c' := .slice none 0 0) (d' := .slice none 0 0) F4
      obtain ⟨n0, n1, n2, n3, _, _⟩ := four_cells g9
      have hB9 := Lib.hid ((B4).out.grown gr9 (B4).out.size (fun q e => by cases e; omega))
      replace g9 := Lib.hid g9
      replace F4 := Lib.hid F4
      clear gr9 gs9
      go_wp2_with fail
      refine bodyPost_ret (v := .tuple #[.agg #[.slice none 0 0, .slice none 0 0, .slice none 0 0, .slice none 0 0], .int .i64 0, .int .i64 9]) (by simp [results, Tryz.results9, go_sem, n0, n1, n2, n3]) rfl ?_
      obtain ⟨hN, hV⟩ := tk_no (s := s) (b := b) (by rw [hE.out]; decide)
      rw [hN, hV, hE.out]
      exact ⟨_, rfl, sto_empty _ _, hB9.out⟩
    · subst hp
      have hVf := full_tk s b
      rw [hV] at hVf
      obtain ⟨c0, c1, c2, c3, c4, c5⟩ := four_cells F4
      obtain ⟨W9, hW9, g9, gr9, gs9⟩ := put_four (a' := .slice A3 T.1.1.length a3) (b' := .slice B3' T.1.2.length b3) (c' := .slice N3 T.2.1.length n3) (d' := .slice L3 T.2.2.length l3) F4
      obtain ⟨n0, n1, n2, n3', _, _⟩ := four_cells g9
      have hfin := Lib.hid (sto_put_zero T4.out hVf F4 (by simp) gr9)
      have hB9 := Lib.hid (B4.out.grown gr9 B4.out.size (fun q e => by cases e; omega))
      have i1 : ¬ (k : Int) < 0 := by omega
      replace hE := Lib.hid hE
      replace hN := Lib.hid hN
      replace hV := Lib.hid hV
      replace g9 := Lib.hid g9
      replace F4 := Lib.hid F4
      clear gr9 gs9 hVf
      go_upto_region 6 with fail
      clear hw4
      go_wp2_with fail
      refine bodyPost_ret (v := .tuple #[.agg #[.slice A3 T.1.1.length a3, .slice B3' T.1.2.length b3, .slice N3 T.2.1.length n3, .slice L3 T.2.2.length l3], .int .i64 (k : Int), .int .i64 0]) (by simp [results, Tryz.results9, go_sem, n0, n1, n2, n3']) rfl ?_
      rw [hE.out, hN.out, hV.out]
      exact ⟨_, rfl, hfin.out, hB9.out⟩

set_option maxRecDepth 100000 in
set_option maxHeartbeats 8000000 in
theorem refShareR_any (v : Value) (s : Rm) (n : Int) (w : World) (h : Sto (Old w) w v s) :
    Calls Tryz.prog 11 #[v, .int .i64 n] w fun e w' => ∃ t, e = .returned (.tuple #[t, .int .i64 (shE s n)]) ∧ Sto (Old w') w' t (shV s n) ∧ Below w.heap.size w w' := by
  have H0 := Lib.hid h
  obtain ⟨A, ca, B, cb, N, cn, L, cl, w1, rfl, hw1, f1, f2, hsz, hB, H⟩ := box_sto2 h
  clear h
  obtain ⟨k0, k1, k2, k3, _, kg⟩ := four_cells f1
  replace hsz := Lib.hid hsz
  replace f2 := Lib.hid f2
  obtain ⟨q, hq⟩ : ∃ q, shE s n = q := ⟨_, rfl⟩
  by_cases ha : asE s n = 0
  · obtain ⟨hm, hup, hsv⟩ := sh_up ha
    have hk := as_in ha
    obtain ⟨k, rfl, h8, h256, hx0⟩ := hk
    obtain ⟨ad, bd, rfl, rfl, hl1, hl2, _, _, had, _, hc⟩ := tables_at hm H.out.parts.2.1 H.out.parts.2.2
    have hcell := (hc k h256).1
    obtain ⟨x, hx⟩ : ∃ x, s.2.1[k]?.getD 0 = x := ⟨_, rfl⟩
    rw [hx] at hcell
    have hq2 : (q = 70 ∧ x = 255 ∧ shV s (k : Int) = emptyR) ∨ (q = 0 ∧ x ≠ 255 ∧ shV s (k : Int) = (s.1, s.2.1.set k (x + 1), s.2.2)) := by
      by_cases h255 : x = 255
      · have e : shE s (k : Int) = 70 := by
          have h2 : s.2.1[k]?.getD 0 = 255 := by rw [hx, h255]
          simp [shE, ha, h2]
        exact .inl ⟨by rw [← hq, e], h255, sh_no (by rw [e]; decide)⟩
      · have e : shE s (k : Int) = 0 := by
          have h2 : ¬ s.2.1[k]?.getD 0 = 255 := by rw [hx]; exact h255
          simp [shE, ha, h2]
        exact .inr ⟨by rw [← hq, e], h255, by rw [shV, if_pos e, Int.toNat_natCast, hx]⟩
    have hVf := Lib.hid (full_sh s (k : Int))
    have i3 : k < s.2.1.length := by rw [hl1]; exact h256
    replace hq := Lib.hid hq
    have hax := Lib.hid ha
    replace hl1 := Lib.hid hl1
    replace hl2 := Lib.hid hl2
    replace hx := Lib.hid hx
    clear hup hsv hc ha
    go_enter Tryz.func11, Tryz.ntmps11
    go_upto_region 1 with fail
    clear hw1
    go_wp2_with fail
    with_reducible refine (refAskedR_any _ s (k : Int) _ H.out).mono ?_
    rintro e w2 ⟨rfl, hb2⟩
    rw [hax.out]
    have G2 := (hb2.block w.heap.size kg).trans f1
    obtain ⟨m0, m1, m2, m3, mf, mg⟩ := four_cells G2
    have F2 := Lib.hid ((hb2.block (w.heap.size + 1) (by rw [hsz.out]; omega)).trans f2.out)
    have hc2 := (hb2.cell (p := ad.add k) (by rw [add_block]; exact had)).trans hcell
    have hcb : (ad.add k).block < w2.heap.size := World.block_lt_of_cell? _ _ hc2
    have s2 : Hid (w.heap.size + 2 ≤ w2.heap.size) := Lib.hid (by have := hb2.size; have := hsz.out; omega)
    replace hb2 := Lib.hid (hB.trans (hb2.mono hB.size))
    have G2h := Lib.hid G2
    clear k0 k1 k2 k3 kg f1 hB hcell G2 mf
    rcases hq2 with ⟨rfl, h255, hV⟩ | ⟨rfl, h255, hV⟩
    · have t0 := byte_same (y := 255) (q := 255) rfl h255
      replace hV := Lib.hid hV
      replace F2 := F2.out
      obtain ⟨k0, k1, k2, k3, k4, k5⟩ := four_cells F2
      obtain ⟨W9, hW9, g9, gr9, gs9⟩ := put_four (a' := .slice none 0 0) (b' := .slice none 0 0) (c' := .slice none 0 0) (d' := .slice none 0 0) F2
      obtain ⟨n0, n1, n2, n3, _, _⟩ := four_cells g9
      have hB9 := Lib.hid ((hb2).out.grown gr9 (hb2).out.size (fun q e => by cases e; omega))
      replace g9 := Lib.hid g9
      replace F2 := Lib.hid F2
      clear gr9 gs9
      go_wp2_with fail
      refine bodyPost_ret (v := .tuple #[.agg #[.slice none 0 0, .slice none 0 0, .slice none 0 0, .slice none 0 0], .int .i64 70]) (by simp [results, Tryz.results11, go_sem, n0, n1, n2, n3]) rfl ?_
      rw [hV.out, hq.out]
      exact ⟨_, rfl, sto_empty _ _, hB9.out⟩
    · have t0 := byte_unlike (y := 255) (q := 255) rfl h255
      obtain ⟨hu, hu1, hu2⟩ := up_byte h255
      have hwr : Hid (IntKind.u8.wrap ((x.toNat : Int) + 1) = ((x + 1).toNat : Int)) := Lib.hid (by rw [← hu]; simp only [IntKind.wrap, IntKind.signed, IntKind.bits]; simp; omega)
      have i3h := Lib.hid i3
      have hlb : Hid (s.2.1.length ≤ 1000000) := Lib.hid (by have := hl1.out; omega)
      replace hV := Lib.hid hV
      replace hu := Lib.hid hu
      clear hu1 hu2
      go_upto_region 6 with fail
      clear t0
      refine wp_region_tails (by kernel_rfl) 11 (fun W => Below w2.heap.size w2 W) (fun i => match i with
          | 9 => some (fun v W => ∃ Y y, v = .slice Y s.2.1.length y ∧ rBy (Off w.heap.size W) W [.slice Y s.2.1.length y] (s.2.1.set k (x + 1)))
          | _ => none) (fun i => match i with
          | 8 => some (.int .u8 ((x + 1).toNat : Int))
          | _ => none) (by decide) (by kernel_rfl) (by kernel_rfl) (Below.refl _ _).drew (fun w w' h hb => h.trans (hb.mono h.size)) ?tst ?_
      case tst =>
        intro j φ x W W' hp hx hb
        match j, hp with
        | 9, hp =>
          cases hp
          obtain ⟨Y, y, e, hy⟩ := hx
          exact ⟨Y, y, e, stab_by _ _ _ _ _ _ (fun _ _ hp hc => off_below hb hp hc) hy⟩
      simp only [List.take_succ_cons, List.take_zero, List.drop_succ_cons, List.drop_zero]
      repeat (first
        | (refine wpAs_skip rfl ?_; simp only [Act.put, List.setIfInBounds_toArray, List.set_cons_zero, List.set_cons_succ])
        | (refine wpAs_pure (v := ?_) rfl rfl ?_ ?_; rotate_left; (intro W hC hE; clear hE; (have i3' := i3h.out; have z2 := (hC.cell (p := ⟨w.heap.size, 2, none⟩) mg).trans m2; have zx := (hC.cell (p := ad.add k) hcb).trans hc2); clear hC; go_simp; done); simp only [Act.put, List.setIfInBounds_toArray, List.set_cons_zero, List.set_cons_succ])
        | (refine wpAs_pure (v := ?_) rfl rfl ?_ ?_; rotate_left; (intro W hC hE; clear hE; (have i3' := i3h.out; have z2 := (hC.cell (p := ⟨w.heap.size, 2, none⟩) mg).trans m2; have zx := (hC.cell (p := ad.add k) hcb).trans hc2); clear hC; go_simp; with_reducible rfl); simp only [Act.put, List.setIfInBounds_toArray, List.set_cons_zero, List.set_cons_succ]))
      refine wpAs_fixed rfl rfl rfl ?_ ?_
      · intro W hC hE
        have hwr' := hwr.out
        clear hE hC
        go_simp
        exact ⟨rfl, Below.refl _ _⟩
      simp only [Act.put, List.setIfInBounds_toArray, List.set_cons_zero, List.set_cons_succ]
      refine wpAs_act rfl rfl ?_ ?_
      · intro W hC hE
        clear hE
        refine does_enter (f := 38) (args := #[.slice (some ad) s.2.1.length cn, .int .i64 (k : Int), .int .u8 ((x + 1).toNat : Int)]) ?_ ?_
        · go_simp
        · refine (refWithT_any _ s.2.1 k (x + 1) _ rfl i3h.out hlb.out W (H0.out.below (hb2.out.trans (hC.mono hb2.out.size))).parts.2.1).mono ?_
          rintro e W' ⟨z, rfl, hz, hb⟩
          obtain ⟨Y, y, rfl, _⟩ := id (rBy_open hz)
          rw [List.length_set] at hz
          rw [List.length_set]
          exact ⟨_, rfl, ⟨Y, y, rfl, stab_by _ _ _ _ _ _ (fun _ _ hp hc => off_new (by have := s2.out; have := hC.size; omega) hp hc) hz⟩, hb⟩
      simp only [Act.put, List.setIfInBounds_toArray, List.set_cons_zero, List.set_cons_succ, envAdd]
      intro x30
      repeat (first
        | (refine wpAs_skip rfl ?_; simp only [Act.put, List.setIfInBounds_toArray, List.set_cons_zero, List.set_cons_succ])
        | (refine wpAs_pure (v := ?_) rfl rfl ?_ ?_; rotate_left; (intro W hC hE; clear hE; skip; clear hC; go_simp; done); simp only [Act.put, List.setIfInBounds_toArray, List.set_cons_zero, List.set_cons_succ])
        | (refine wpAs_pure (v := ?_) rfl rfl ?_ ?_; rotate_left; (intro W hC hE; clear hE; skip; clear hC; go_simp; with_reducible rfl); simp only [Act.put, List.setIfInBounds_toArray, List.set_cons_zero, List.set_cons_succ]))
      refine wpAs_end fun W hC hE => ?_
      obtain ⟨⟨Y, y, rfl, hy⟩, _⟩ := hE
      have bW := (hC.block w.heap.size mg).trans G2h.out
      obtain ⟨c0, c1, c2, c3, c4, c5⟩ := four_cells bW
      obtain ⟨W5, hW5, g5, gr5, gs5⟩ := put_third (c' := .slice Y s.2.1.length y) bW
      have hy5 := Lib.hid (stab_by _ _ _ _ _ _ (fun _ _ hp hc => off_put gr5 hp hc) hy)
      have F5 := (gr5.block (w.heap.size + 1) (by have := s2.out; have := hC.size; omega) (by simp)).trans ((hC.block (w.heap.size + 1) (by have := s2.out; omega)).trans F2.out)
      have B5 := Lib.hid ((hb2.out.trans (hC.mono hb2.out.size)).grown gr5 (Nat.le_trans hb2.out.size hC.size) (fun q e => by cases e; omega))
      have G5 := Lib.hid g5
      replace bW := Lib.hid bW
      replace g5 := Lib.hid g5
      clear hy gr5 gs5 hC m0 m1 m2 m3 mg
      go_upto_region 7 with fail
      clear hW5 c0 c1 c2 c3 c4 c5
      obtain ⟨w5, rfl⟩ : ∃ w5 : World, w5 = W5 := ⟨_, rfl⟩
      obtain ⟨m0, m1, m2, m3, _, mg⟩ := four_cells G5.out
      obtain ⟨c0, c1, c2, c3, c4, c5⟩ := four_cells F5
      obtain ⟨W9, hW9, g9, gr9, gs9⟩ := put_four (a' := .slice A s.1.1.length ca) (b' := .slice B s.1.2.length cb) (c' := .slice Y s.2.1.length y) (d' := .slice (some bd) s.2.2.length cl) F5
      obtain ⟨o0, o1, o2, o3, _, _⟩ := four_cells g9
      have hB9 := Lib.hid (B5.out.grown gr9 B5.out.size (fun q e => by cases e; omega))
      have hs9 : Hid (Sto (Old W9) W9 (.agg #[.slice A s.1.1.length ca, .slice B s.1.2.length cb, .slice Y s.2.1.length y, .slice (some bd) s.2.2.length cl]) (s.1, s.2.1.set k (x + 1), s.2.2)) := Lib.hid (by
        have hf := hVf.out
        rw [hV.out] at hf
        have h5 : Sto (Old w5) w5 (.agg #[.slice A s.1.1.length ca, .slice B s.1.2.length cb, .slice Y s.2.1.length y, .slice (some bd) s.2.2.length cl]) (s.1, s.2.1.set k (x + 1), s.2.2) :=
          Sto.mk (H0.out.below B5.out).parts.1 (stab_by _ _ _ _ _ _ (fun _ _ hp hc => off_old hp hc) hy5.out) (H0.out.below B5.out).parts.2.2
        exact sto_put_zero h5 hf F5 (by simp) gr9)
      replace g9 := Lib.hid g9
      replace F5 := Lib.hid F5
      clear gr9 gs9
      go_wp2_with fail
      refine bodyPost_ret (v := .tuple #[.agg #[.slice A s.1.1.length ca, .slice B s.1.2.length cb, .slice Y s.2.1.length y, .slice (some bd) s.2.2.length cl], .int .i64 0]) (by simp [results, Tryz.results11, go_sem, o0, o1, o2, o3]) rfl ?_
      rw [hq.out, hV.out]
      exact ⟨_, rfl, hs9.out, hB9.out⟩
  · have hV := Lib.hid (sh_no (s := s) (n := n) (by rw [sh_bad ha]; exact ha))
    rw [sh_bad ha] at hq
    have hq1 : (q != 0) = true := by rw [← hq]; simpa using ha
    have hq2 : Hid (asE s n = q) := Lib.hid hq
    replace hq : Hid (shE s n = q) := Lib.hid (by rw [sh_bad ha]; exact hq)
    clear ha
    go_enter Tryz.func11, Tryz.ntmps11
    go_upto_region 1 with fail
    clear hw1
    go_wp2_with fail
    with_reducible refine (refAskedR_any _ s n _ H.out).mono ?_
    rintro e w2 ⟨rfl, hb2⟩
    rw [hq2.out]
    have F2 := (hb2.block (w.heap.size + 1) (by rw [hsz.out]; omega)).trans f2.out
    replace hb2 := Lib.hid (hB.trans (hb2.mono hB.size))
    obtain ⟨k0, k1, k2, k3, k4, k5⟩ := four_cells F2
    obtain ⟨W9, hW9, g9, gr9, gs9⟩ := put_four (a' := .slice none 0 0) (b' := .slice none 0 0) (c' := .slice none 0 0) (d' := .slice none 0 0) F2
    obtain ⟨n0, n1, n2, n3, _, _⟩ := four_cells g9
    have hB9 := Lib.hid ((hb2).out.grown gr9 (hb2).out.size (fun q e => by cases e; omega))
    replace g9 := Lib.hid g9
    replace F2 := Lib.hid F2
    clear gr9 gs9
    go_wp2_with fail
    refine bodyPost_ret (v := .tuple #[.agg #[.slice none 0 0, .slice none 0 0, .slice none 0 0, .slice none 0 0], .int .i64 q]) (by simp [results, Tryz.results11, go_sem, n0, n1, n2, n3]) rfl ?_
    rw [hV.out, hq.out]
    exact ⟨_, rfl, sto_empty _ _, hB9.out⟩
end Go.Proofs.YtjlbkcnhbndgbaaGreat

/-
  Package ring: fields, Read. Conditions: those that each lemma states.
-/
namespace Go.Proofs.YtjlbkcnhbndgbaaGreat
open Go.RowKit

def zeroSp : Sp := (0, 0, 0, 0, [])
def fieldsS (body : List UInt8) : Sp := (gv 4 body 0, gv 2 body 4, gv 4 body 6, gv 4 body 10, deadV body)
def fieldsR (body : List UInt8) : Sp := if cntN body ≤ 54 then fieldsS body else zeroSp
theorem inSp_zero : InSp zeroSp := ⟨⟨by decide, by decide⟩, ⟨by decide, by decide⟩, ⟨by decide, by decide⟩, ⟨by decide, by decide⟩⟩
theorem inSp_fields (body : List UInt8) : InSp (fieldsS body) := ⟨gv4_in _ _, gv2_in _ _, gv4_in _ _, gv4_in _ _⟩
theorem sup_zero (ok : Addr → Prop) (w : World) : Sup ok w (.agg #[.int .u32 0, .int .i64 0, .int .u32 0, .int .u32 0, .slice none 0 0]) zeroSp := ⟨_, rfl, inSp_zero, rInts_none _ _⟩
theorem ge_in {m : Nat} {k : Int} (h0 : 0 ≤ k) (h1 : k + m ≤ 124) : ge m 124 k = 0 := ge_yes ⟨h0, by omega⟩
theorem orN_five (e : Int) : orN [0, 0, 0, 0, e] = e := by
  unfold orN
  by_cases h : e = 0
  · subst h; rfl
  · simp [h]
theorem deadE_in (k : Nat) : In64 (deadE k) := by
  unfold deadE
  split <;> exact ⟨by decide, by decide⟩
theorem Sup.grown {w w' : World} {lo : Nat} {v : Value} {s : Sp} {row : Option Nat} (h : Sup (New lo w) w v s) (hg : w.grownBy w' row) (hr : ∀ q, row = some q → q < lo) : Sup (New lo w') w' v s := by
  obtain ⟨d, e, h1, h2⟩ := h
  exact ⟨d, e, h1, stab_ints.grown h2 hg hr⟩

end Go.Proofs.YtjlbkcnhbndgbaaGreat

/-
  Package ring: Read. Conditions: those that each lemma states.
-/
namespace Go.Proofs.YtjlbkcnhbndgbaaGreat
open Go.RowKit

noncomputable def okRe (b : List UInt8) : Bool := decide (cntN (ob b) ≤ 40) && mayS (fieldsS (ob b)) && decide (blkS (fieldsS (ob b)) = b)
noncomputable def reE (b : List UInt8) : Int := if oe b = 0 then (if okRe b then 0 else 8) else oe b
noncomputable def reS (b : List UInt8) : Sp := if oe b = 0 then (if okRe b then fieldsS (ob b) else zeroSp) else zeroSp
theorem oe_zero {b : List UInt8} (h : oe b = 0) : b.length = 128 ∧ fits b ∧ ob b = b.drop 4 ∧ (ob b).length = 124 := by
  unfold oe at h
  by_cases h1 : b.length = 128
  · by_cases h2 : fits b
    · have e : ob b = b.drop 4 := by unfold ob; rw [if_pos ⟨h1, h2⟩]
      exact ⟨h1, h2, e, by rw [e, List.length_drop, h1]⟩
    · rw [if_pos h1, if_neg h2] at h
      cases h
  · rw [if_neg h1] at h
    cases h
theorem okRe_no {b : List UInt8} (h : ¬ cntN (ob b) ≤ 54) : okRe b = false := by
  have : decide (cntN (ob b) ≤ 40) = false := by simp; omega
  simp [okRe, this]
theorem okRe_may {b : List UInt8} (h : mayS (fieldsS (ob b)) = false) : okRe b = false := by simp [okRe, h]
theorem okRe_eq {b : List UInt8} (hc : cntN (ob b) ≤ 54) (h : mayS (fieldsS (ob b)) = true) : okRe b = decide (blkS (fieldsS (ob b)) = b) := by
  have h40 := (mayS_of h).2.1
  have hd : (fieldsS (ob b)).2.2.2.2 = deadN (ob b) (cntN (ob b)) := by simp [fieldsS, deadV, hc]
  rw [hd, deadN_length] at h40
  simp [okRe, h, h40]

end Go.Proofs.YtjlbkcnhbndgbaaGreat

/-
  The document's answers of layer 4: Read. Conditions: those that each lemma states.
-/
namespace Go.Proofs.YtjlbkcnhbndgbaaGreat
open Go.RowKit

section
variable {W : World} {g : Nat} {a b c d e u : Value} {t : TypeId}
theorem put5_0 (h : W.heap[g]? = some (.cells #[a, b, c, d, e] t (0, 0))) (u : Value) : ∃ W1, W.setCell ⟨g, 0, none⟩ u = W1 ∧ W1.heap[g]? = some (.cells #[u, b, c, d, e] t (0, 0)) ∧ W.grownBy W1 (some g) ∧ W1.heap.size = W.heap.size :=
  ⟨_, rfl, by simp [World.setCell, Array.getElem?_modify, h], grow_put (p := ⟨g, 0, none⟩) (grow_refl W (some g)) rfl u, by simp⟩
theorem put5_1 (h : W.heap[g]? = some (.cells #[a, b, c, d, e] t (0, 0))) (u : Value) : ∃ W1, W.setCell ⟨g, 1, none⟩ u = W1 ∧ W1.heap[g]? = some (.cells #[a, u, c, d, e] t (0, 0)) ∧ W.grownBy W1 (some g) ∧ W1.heap.size = W.heap.size :=
  ⟨_, rfl, by simp [World.setCell, Array.getElem?_modify, h], grow_put (p := ⟨g, 1, none⟩) (grow_refl W (some g)) rfl u, by simp⟩
theorem put5_2 (h : W.heap[g]? = some (.cells #[a, b, c, d, e] t (0, 0))) (u : Value) : ∃ W1, W.setCell ⟨g, 2, none⟩ u = W1 ∧ W1.heap[g]? = some (.cells #[a, b, u, d, e] t (0, 0)) ∧ W.grownBy W1 (some g) ∧ W1.heap.size = W.heap.size :=
  ⟨_, rfl, by simp [World.setCell, Array.getElem?_modify, h], grow_put (p := ⟨g, 2, none⟩) (grow_refl W (some g)) rfl u, by simp⟩
theorem put5_3 (h : W.heap[g]? = some (.cells #[a, b, c, d, e] t (0, 0))) (u : Value) : ∃ W1, W.setCell ⟨g, 3, none⟩ u = W1 ∧ W1.heap[g]? = some (.cells #[a, b, c, u, e] t (0, 0)) ∧ W.grownBy W1 (some g) ∧ W1.heap.size = W.heap.size :=
  ⟨_, rfl, by simp [World.setCell, Array.getElem?_modify, h], grow_put (p := ⟨g, 3, none⟩) (grow_refl W (some g)) rfl u, by simp⟩
theorem put5_4 (h : W.heap[g]? = some (.cells #[a, b, c, d, e] t (0, 0))) (u : Value) : ∃ W1, W.setCell ⟨g, 4, none⟩ u = W1 ∧ W1.heap[g]? = some (.cells #[a, b, c, d, u] t (0, 0)) ∧ W.grownBy W1 (some g) ∧ W1.heap.size = W.heap.size :=
  ⟨_, rfl, by simp [World.setCell, Array.getElem?_modify, h], grow_put (p := ⟨g, 4, none⟩) (grow_refl W (some g)) rfl u, by simp⟩
end
theorem getTwo_refB (A : Option Addr) (len cap : Nat) (k : Int) (xs : List UInt8) (hlen : Hid (xs.length = len)) (hlc : len ≤ cap) (hcap : cap ≤ 9223372036854775807) (w : World) (hx : Byt w w.heap.size A xs) :
    Calls Tryz.prog 99 #[.slice A len cap, .int .i64 k] w fun e w' => e = .returned (.tuple #[.int .i64 (gv 2 xs k), .int .i64 (ge 2 len k)]) ∧ Below w.heap.size w w' :=
  (getTwo_ref A len cap k xs hlen hlc hcap w hx).mono fun _ _ ⟨e, hw⟩ => ⟨e, hw ▸ Below.refl _ _⟩
theorem getFour_refB (A : Option Addr) (len cap : Nat) (k : Int) (xs : List UInt8) (hlen : Hid (xs.length = len)) (hlc : len ≤ cap) (hcap : cap ≤ 9223372036854775807) (w : World) (hx : Byt w w.heap.size A xs) :
    Calls Tryz.prog 97 #[.slice A len cap, .int .i64 k] w fun e w' => e = .returned (.tuple #[.int .u32 (gv 4 xs k), .int .i64 (ge 4 len k)]) ∧ Below w.heap.size w w' :=
  (getFour_ref A len cap k xs hlen hlc hcap w hx).mono fun _ _ ⟨e, hw⟩ => ⟨e, hw ▸ Below.refl _ _⟩
theorem okRe_many {b : List UInt8} (h : 40 < cntN (ob b)) : okRe b = false := by
  have : decide (cntN (ob b) ≤ 40) = false := by simp; omega
  simp [okRe, this]

end Go.Proofs.YtjlbkcnhbndgbaaGreat

/-
  A bag's facts on superblocks. Conditions: those that each lemma states.
-/
namespace Go.Proofs.YtjlbkcnhbndgbaaGreat
open Go.RowKit

/-- Five cells that are a box. -/
def Box5 (g : Nat) (a b c d e : Value) : World → Prop := fun w => w.cell? ⟨g, 0, none⟩ = some a ∧ w.cell? ⟨g, 1, none⟩ = some b ∧ w.cell? ⟨g, 2, none⟩ = some c ∧ w.cell? ⟨g, 3, none⟩ = some d ∧ w.cell? ⟨g, 4, none⟩ = some e ∧ g < w.heap.size
theorem lasts_box5 (g : Nat) (a b c d e : Value) : Lasts (Box5 g a b c d e) := fun _ _ h hb => ⟨(hb.cell (p := ⟨g, 0, none⟩) h.2.2.2.2.2).trans h.1, (hb.cell (p := ⟨g, 1, none⟩) h.2.2.2.2.2).trans h.2.1, (hb.cell (p := ⟨g, 2, none⟩) h.2.2.2.2.2).trans h.2.2.1, (hb.cell (p := ⟨g, 3, none⟩) h.2.2.2.2.2).trans h.2.2.2.1, (hb.cell (p := ⟨g, 4, none⟩) h.2.2.2.2.2).trans h.2.2.2.2.1, Nat.lt_of_lt_of_le h.2.2.2.2.2 hb.size⟩
def OldS (v : Value) (s : Sp) : World → Prop := fun w => Sup (Old w) w v s
theorem lasts_oldS (v : Value) (s : Sp) : Lasts (OldS v s) := fun _ _ h hb => h.below hb
/-- The value of a superblock, its list at A, c. -/
abbrev supV (s : Sp) (A : Option Addr) (c : Nat) : Value := .agg #[.int .u32 s.1, .int .i64 s.2.1, .int .u32 s.2.2.1, .int .u32 s.2.2.2.1, .slice A s.2.2.2.2.length c]
end Go.Proofs.YtjlbkcnhbndgbaaGreat

/-
  Items and keys (api.Item, api.Key): how they read; which may be; their bytes; items as arguments. Conditions: those that each lemma states.
-/
namespace Go.Proofs.YtjlbkcnhbndgbaaGreat
open Go.ChangeShapes Go.WideShapes Go.RowKit

/-! ### Keys: kind, id, off -/
abbrev Ky := UInt8 × Int × Int
def rKy : Rel Ky := rPair rU8 (rPair (rK .u32) (rK .u32))
theorem stab_ky : Stab rKy := stab_pair stab_u8 (stab_pair (stab_k _) (stab_k _))
structure InK (k : Ky) : Prop where
  id : InU k.2.1
  off : InU k.2.2
abbrev kyV (k : Ky) : Value := .agg #[.int .u8 (k.1.toNat : Int), .int .u32 k.2.1, .int .u32 k.2.2]
theorem rKy_open {ok : Addr → Prop} {w : World} {cs : List Value} {k : Ky} (h : rKy ok w cs k) : cs = [.int .u8 (k.1.toNat : Int), .int .u32 k.2.1, .int .u32 k.2.2] ∧ InK k := by
  obtain ⟨_, _, rfl, rfl, _, _, rfl, ⟨rfl, a1, a2⟩, ⟨rfl, b1, b2⟩⟩ := h
  simp [IntKind.min, IntKind.max, IntKind.signed, IntKind.bits] at a1 a2 b1 b2
  exact ⟨rfl, ⟨⟨a1, by omega⟩, ⟨b1, by omega⟩⟩⟩
theorem rKy_mk {ok : Addr → Prop} {w : World} {k : Ky} (h : InK k) : rKy ok w [.int .u8 (k.1.toNat : Int), .int .u32 k.2.1, .int .u32 k.2.2] k := by
  obtain ⟨⟨a1, a2⟩, ⟨b1, b2⟩⟩ := h
  refine ⟨[_], _, rfl, rfl, [_], _, rfl, ⟨rfl, ?_, ?_⟩, rfl, ?_, ?_⟩ <;> simp [IntKind.min, IntKind.max, IntKind.signed, IntKind.bits] <;> omega

/-! ### Items: key, ref, val -/
abbrev It := Ky × Int × List UInt8
def rIt : Rel It := rPair rKy (rPair (rK .i64) rBy)
theorem stab_it : Stab rIt := stab_pair stab_ky (stab_pair (stab_k _) stab_by)
structure InI (s : It) : Prop where
  key : InK s.1
  ref : In64 s.2.1
abbrev itV (s : It) (d : Value) : Value := .agg #[.int .u8 (s.1.1.toNat : Int), .int .u32 s.1.2.1, .int .u32 s.1.2.2, .int .i64 s.2.1, d]
/-- A value that reads as an item. -/
def Itm (ok : Addr → Prop) (w : World) (v : Value) (s : It) : Prop := ∃ d, v = itV s d ∧ InI s ∧ rBy ok w [d] s.2.2
theorem rIt_open {ok : Addr → Prop} {w : World} {cs : List Value} {s : It} (h : rIt ok w cs s) : ∃ d, cs = [.int .u8 (s.1.1.toNat : Int), .int .u32 s.1.2.1, .int .u32 s.1.2.2, .int .i64 s.2.1, d] ∧ InI s ∧ rBy ok w [d] s.2.2 := by
  obtain ⟨_, _, rfl, hk, _, _, rfl, ⟨rfl, a1, a2⟩, hd⟩ := h
  obtain ⟨rfl, hi⟩ := rKy_open hk
  obtain ⟨A, cap, rfl, hd'⟩ := hd
  simp [IntKind.min, IntKind.max, IntKind.signed, IntKind.bits] at a1 a2
  exact ⟨_, rfl, ⟨hi, ⟨a1, a2⟩⟩, A, cap, rfl, hd'⟩
theorem rIt_mk {ok : Addr → Prop} {w : World} {d : Value} {s : It} (h : InI s) (hd : rBy ok w [d] s.2.2) : rIt ok w [.int .u8 (s.1.1.toNat : Int), .int .u32 s.1.2.1, .int .u32 s.1.2.2, .int .i64 s.2.1, d] s := by
  obtain ⟨hk, ⟨a1, a2⟩⟩ := h
  refine ⟨[_, _, _], _, rfl, rKy_mk hk, [_], _, rfl, ⟨rfl, ?_, ?_⟩, hd⟩ <;> simp [IntKind.min, IntKind.max, IntKind.signed, IntKind.bits] <;> omega
theorem Itm.cells {ok : Addr → Prop} {w : World} {v : Value} {s : It} (h : Itm ok w v s) : rIt ok w v.cells.toList s := by
  obtain ⟨d, rfl, h1, h2⟩ := h
  exact rIt_mk h1 h2
theorem Itm.map {ok ok' : Addr → Prop} {w w' : World} {v : Value} {s : It} (hk : ∀ p v, ok p → w.cell? p = some v → ok' p ∧ w'.cell? p = some v) (h : Itm ok w v s) : Itm ok' w' v s := by
  obtain ⟨d, e, h1, h2⟩ := h
  exact ⟨d, e, h1, stab_by _ _ _ _ _ _ hk h2⟩
theorem Itm.below {w w' : World} {v : Value} {s : It} (h : Itm (Old w) w v s) (hb : Below w.heap.size w w') : Itm (Old w') w' v s :=
  h.map fun _ _ hp hc => ⟨Nat.lt_of_lt_of_le hp hb.size, (hb.cell hp).trans hc⟩
theorem Itm.drop {lo : Nat} {w : World} {v : Value} {s : It} (h : Itm (New lo w) w v s) : Itm (Old w) w v s :=
  h.map fun _ _ hp hc => ⟨hp.2.1, hc⟩
theorem Itm.new {lo lo' : Nat} {w w' : World} {v : Value} {s : It} (h : Itm (New lo w) w v s) (hl : lo' ≤ lo) (hb : Below w.heap.size w w') : Itm (New lo' w') w' v s :=
  h.map fun _ _ hp hc => ⟨⟨Nat.le_trans hl hp.1, Nat.lt_of_lt_of_le hp.2.1 hb.size, (hb.frozen hp.2.1).trans hp.2.2⟩, (hb.cell hp.2.1).trans hc⟩
theorem Itm.grown {w w' : World} {lo : Nat} {v : Value} {s : It} {row : Option Nat} (h : Itm (New lo w) w v s) (hg : w.grownBy w' row) (hr : ∀ q, row = some q → q < lo) : Itm (New lo w') w' v s := by
  obtain ⟨d, e, h1, h2⟩ := h
  exact ⟨d, e, h1, stab_by.grown h2 hg hr⟩
/-- An item, opened. -/
theorem Itm.open {ok : Addr → Prop} {w : World} {v : Value} {s : It} (h : Itm ok w v s) : ∃ A c, v = itV s (.slice A s.2.2.length c) ∧ InI s ∧ s.2.2.length ≤ c ∧ c ≤ 9223372036854775807 ∧ rBy ok w [.slice A s.2.2.length c] s.2.2 := by
  obtain ⟨d, rfl, h1, h2⟩ := h
  obtain ⟨A, c, rfl, h3, h4, h5⟩ := rBy_open h2
  exact ⟨A, c, rfl, h1, h3, h4, h2⟩
/-- A box of three. -/
theorem box_three (w : World) (a b c : Value) (t : TypeId) : ∃ w1, w.alloc (.cells #[a, b, c] t) = w1 ∧ w1.cell? ⟨w.heap.size, 0, none⟩ = some a ∧ w1.cell? ⟨w.heap.size, 1, none⟩ = some b ∧ w1.cell? ⟨w.heap.size, 2, none⟩ = some c ∧ w1.heap.size = w.heap.size + 1 ∧ Below w.heap.size w w1 ∧ w1.heap[w.heap.size]? = some (.cells #[a, b, c] t (0, 0)) :=
  ⟨_, rfl, by simp, by simp, by simp, by simp, (Below.refl _ _).alloc (Nat.le_refl _) _, heap_alloc_new _ _⟩

/-! ### Which items may be; their bytes -/
def mayI (s : It) : Bool := (decide (s.2.1 = 0) || (decide (8 ≤ s.2.1) && decide (s.2.1 < 256))) && decide (s.2.2.length ≤ 12)
def chkI (s : It) : Int := if mayI s then 0 else 8
theorem mayI_of {s : It} (h : mayI s = true) : (s.2.1 = 0 ∨ (8 ≤ s.2.1 ∧ s.2.1 < 256)) ∧ s.2.2.length ≤ 12 := by
  simpa [mayI] using h
theorem mayI_mk {s : It} (h : (s.2.1 = 0 ∨ (8 ≤ s.2.1 ∧ s.2.1 < 256)) ∧ s.2.2.length ≤ 12) : mayI s = true := by simpa [mayI] using h
theorem mayI_no {s : It} (h : ¬ ((s.2.1 = 0 ∨ (8 ≤ s.2.1 ∧ s.2.1 < 256)) ∧ s.2.2.length ≤ 12)) : mayI s = false := by
  cases e : mayI s with
  | true => exact absurd (mayI_of e) h
  | false => rfl
theorem chkI_ok {s : It} (h : mayI s = true) : chkI s = 0 := by simp [chkI, h]
theorem chkI_bad {s : It} (h : mayI s = false) : chkI s = 8 := by simp [chkI, h]
theorem chkI_in (s : It) : In64 (chkI s) := by
  unfold chkI
  split <;> exact ⟨by decide, by decide⟩
def itB (s : It) : List UInt8 := [s.1.1] ++ (le 4 s.1.2.1 ++ (le 4 s.1.2.2 ++ (le 2 s.2.1 ++ ([UInt8.ofNat s.2.2.length] ++ s.2.2))))
theorem itB_length (s : It) : (itB s).length = 12 + s.2.2.length := by simp [itB, le_length]; omega
def wrI (s : It) : List UInt8 := if mayI s then itB s else []
def zeroI : It := ((0, 0, 0), 0, [])
theorem inI_zero : InI zeroI := ⟨⟨⟨by decide, by decide⟩, ⟨by decide, by decide⟩⟩, ⟨by decide, by decide⟩⟩
theorem itm_zero (ok : Addr → Prop) (w : World) : Itm ok w (.agg #[.int .u8 0, .int .u32 0, .int .u32 0, .int .i64 0, .slice none 0 0]) zeroI := ⟨_, rfl, inI_zero, none, 0, rfl, by simp [zeroI], by omega, fun i x h => by simp [zeroI] at h⟩

/-! ### Arguments -/
set_option maxRecDepth 100000 in
theorem opens_key : Opens Tryz.prog 108 rKy := opens_struct Tryz.underlying108 (opensF_cons rfl (opens_u8 Tryz.underlying5) (opensF_cons (by kernel_rfl) (opens_k Tryz.underlying106) (opensF_one (by kernel_rfl) (by kernel_rfl) (opens_k Tryz.underlying106))))
set_option maxRecDepth 100000 in
theorem opens_by8 : Opens Tryz.prog 26 rBy := opens_sl Tryz.underlying26 (by kernel_rfl) (opens_u8 Tryz.underlying5)
set_option maxRecDepth 100000 in
theorem opens_item : Opens Tryz.prog 110 rIt := opens_struct Tryz.underlying110 (opensF_cons rfl opens_key (opensF_cons (by kernel_rfl) (opens_k Tryz.underlying3) (opensF_one (by kernel_rfl) (by kernel_rfl) opens_by8)))
set_option maxRecDepth 100000 in
/-- An item that came in. -/
theorem open_item {H : Type} {enc : TypeId × Value → H} {w : World} {b0 : Nat} {spare : Nat → Bool} {held : Bool} {r : Reach} {v : Value} {x : DataW H} {ps : List MemPlace} (hval : Value.okWide Tryz.prog w r b0 110 v) (hd : DataW.Trod enc Tryz.prog w 0 spare held 110 v x ps) :
    ∃ s, Itm (Old w) w v s := by
  obtain ⟨cs, rfl, _⟩ := okWide_struct Tryz.underlying110 hval
  obtain ⟨s, hs⟩ := open_rel opens_item hd
  obtain ⟨d, h1, h2, h3⟩ := rIt_open hs
  exact ⟨s, d, by obtain ⟨cs⟩ := cs; simp [Value.cells] at h1; rw [h1], h2, h3⟩
set_option maxRecDepth 100000 in
/-- A key that came in. -/
theorem open_key {H : Type} {enc : TypeId × Value → H} {w : World} {b0 : Nat} {spare : Nat → Bool} {held : Bool} {r : Reach} {v : Value} {x : DataW H} {ps : List MemPlace} (hval : Value.okWide Tryz.prog w r b0 108 v) (hd : DataW.Trod enc Tryz.prog w 0 spare held 108 v x ps) :
    ∃ k, v = kyV k ∧ InK k := by
  obtain ⟨cs, rfl, _⟩ := okWide_struct Tryz.underlying108 hval
  obtain ⟨s, hs⟩ := open_rel opens_key hd
  obtain ⟨h1, h2⟩ := rKy_open hs
  exact ⟨s, by obtain ⟨cs⟩ := cs; simp [Value.cells] at h1; rw [h1], h2⟩
end Go.Proofs.YtjlbkcnhbndgbaaGreat

/-
  Package item and the document's answers of layer 5: Less; cmp.Compare, cmp.Or at numbers. Conditions: those that each lemma states.
-/
namespace Go.Proofs.YtjlbkcnhbndgbaaGreat
open Go.RowKit

/-- How two numbers stand. -/
def cmpN (a b : Int) : Int := if a < b then -1 else if b < a then 1 else 0
theorem cmpN_lt {a b : Int} (h : a < b) : cmpN a b = -1 := if_pos h
theorem cmpN_gt {a b : Int} (h : b < a) : cmpN a b = 1 := by unfold cmpN; rw [if_neg (by omega), if_pos h]
theorem cmpN_eq {a b : Int} (h : a = b) : cmpN a b = 0 := by subst h; simp [cmpN]
theorem cmpN_in (a b : Int) : In64 (cmpN a b) := by
  unfold cmpN
  split
  · exact ⟨by decide, by decide⟩
  · split <;> exact ⟨by decide, by decide⟩
def lessK (a b : Ky) : Bool := if a.1.toNat ≠ b.1.toNat then decide (a.1.toNat < b.1.toNat) else if a.2.1 ≠ b.2.1 then decide (a.2.1 < b.2.1) else decide (a.2.2 < b.2.2)
theorem orN_three (a b c : Int) : orN [a, b, c] = if a ≠ 0 then a else if b ≠ 0 then b else c := by
  unfold orN
  by_cases h : a = 0
  · subst h
    by_cases h : b = 0
    · subst h
      by_cases h : c = 0
      · subst h; rfl
      · simp [h]
    · simp [h]
  · simp [h]
theorem less_or (a b : Ky) : decide (orN [cmpN a.1.toNat b.1.toNat, cmpN a.2.1 b.2.1, cmpN a.2.2 b.2.2] < 0) = lessK a b := by
  rw [orN_three]
  unfold lessK
  have z : ¬ (0 : Int) ≠ 0 := by omega
  have m1 : (-1 : Int) ≠ 0 := by omega
  have p1 : (1 : Int) ≠ 0 := by omega
  rcases Nat.lt_trichotomy a.1.toNat b.1.toNat with h | h | h
  · rw [cmpN_lt (by omega), if_pos m1, if_pos (show a.1.toNat ≠ b.1.toNat by omega)]; simp [h]
  · rw [cmpN_eq (show (a.1.toNat : Int) = b.1.toNat by omega), if_neg z, if_neg (show ¬ a.1.toNat ≠ b.1.toNat by omega)]
    rcases Int.lt_trichotomy a.2.1 b.2.1 with h1 | h1 | h1
    · rw [cmpN_lt h1, if_pos m1, if_pos (show a.2.1 ≠ b.2.1 by omega)]; simp [h1]
    · rw [cmpN_eq h1, if_neg z, if_neg (show ¬ a.2.1 ≠ b.2.1 by omega)]
      rcases Int.lt_trichotomy a.2.2 b.2.2 with h2 | h2 | h2
      · rw [cmpN_lt h2]; simp [h2]
      · rw [cmpN_eq h2]; simp [h2]
      · rw [cmpN_gt h2, decide_eq_false (show ¬ (1 : Int) < 0 by omega), decide_eq_false (show ¬ a.2.2 < b.2.2 by omega)]
    · rw [cmpN_gt h1, if_pos p1, if_pos (show a.2.1 ≠ b.2.1 by omega), decide_eq_false (show ¬ (1 : Int) < 0 by omega), decide_eq_false (show ¬ a.2.1 < b.2.1 by omega)]
  · rw [cmpN_gt (show (b.1.toNat : Int) < a.1.toNat by omega), if_pos p1, if_pos (show a.1.toNat ≠ b.1.toNat by omega), decide_eq_false (show ¬ (1 : Int) < 0 by omega), decide_eq_false (show ¬ a.1.toNat < b.1.toNat by omega)]

set_option maxRecDepth 100000 in
theorem isNaN8 (a : Int) (w : World) : Calls Tryz.prog 108 #[.int .u8 a] w fun e w' => e = .returned (.bool false) ∧ w = w' := by
  go_enter Tryz.func108, Tryz.ntmps108
  go_wp2_with fail
  go_ret
  exact ⟨ret_bool (by simp), rfl⟩
set_option maxRecDepth 100000 in
theorem isNaN32 (a : Int) (w : World) : Calls Tryz.prog 109 #[.int .u32 a] w fun e w' => e = .returned (.bool false) ∧ w = w' := by
  go_enter Tryz.func109, Tryz.ntmps109
  go_wp2_with fail
  go_ret
  exact ⟨ret_bool (by simp), rfl⟩
set_option maxRecDepth 100000 in
theorem compare8 (a b : Int) (w : World) : Calls Tryz.prog 94 #[.int .u8 a, .int .u8 b] w fun e w' => e = .returned (.int .i64 (cmpN a b)) ∧ w = w' := by
  rcases Int.lt_trichotomy a b with h | h | h
  · rw [cmpN_lt h]
    go_enter Tryz.func94, Tryz.ntmps94
    go_wp2_with fail
    with_reducible refine (isNaN8 a _).mono ?_
    rintro e w1 ⟨rfl, rfl⟩
    go_wp2_with fail
    with_reducible refine (isNaN8 b _).mono ?_
    rintro e w1 ⟨rfl, rfl⟩
    go_wp2_with fail
    go_ret
    exact ⟨rfl, rfl⟩
  · rw [cmpN_eq h]
    subst h
    go_enter Tryz.func94, Tryz.ntmps94
    go_wp2_with fail
    with_reducible refine (isNaN8 a _).mono ?_
    rintro e w1 ⟨rfl, rfl⟩
    go_wp2_with fail
    with_reducible refine (isNaN8 a _).mono ?_
    rintro e w1 ⟨rfl, rfl⟩
    go_wp2_with fail
    go_ret
    exact ⟨rfl, rfl⟩
  · rw [cmpN_gt h]
    have h2 : ¬ a < b := by omega
    go_enter Tryz.func94, Tryz.ntmps94
    go_wp2_with fail
    with_reducible refine (isNaN8 a _).mono ?_
    rintro e w1 ⟨rfl, rfl⟩
    go_wp2_with fail
    with_reducible refine (isNaN8 b _).mono ?_
    rintro e w1 ⟨rfl, rfl⟩
    go_wp2_with fail
    go_ret
    exact ⟨rfl, rfl⟩
set_option maxRecDepth 100000 in
theorem compare32 (a b : Int) (w : World) : Calls Tryz.prog 95 #[.int .u32 a, .int .u32 b] w fun e w' => e = .returned (.int .i64 (cmpN a b)) ∧ w = w' := by
  rcases Int.lt_trichotomy a b with h | h | h
  · rw [cmpN_lt h]
    go_enter Tryz.func95, Tryz.ntmps95
    go_wp2_with fail
    with_reducible refine (isNaN32 a _).mono ?_
    rintro e w1 ⟨rfl, rfl⟩
    go_wp2_with fail
    with_reducible refine (isNaN32 b _).mono ?_
    rintro e w1 ⟨rfl, rfl⟩
    go_wp2_with fail
    go_ret
    exact ⟨rfl, rfl⟩
  · rw [cmpN_eq h]
    subst h
    go_enter Tryz.func95, Tryz.ntmps95
    go_wp2_with fail
    with_reducible refine (isNaN32 a _).mono ?_
    rintro e w1 ⟨rfl, rfl⟩
    go_wp2_with fail
    with_reducible refine (isNaN32 a _).mono ?_
    rintro e w1 ⟨rfl, rfl⟩
    go_wp2_with fail
    go_ret
    exact ⟨rfl, rfl⟩
  · rw [cmpN_gt h]
    have h2 : ¬ a < b := by omega
    go_enter Tryz.func95, Tryz.ntmps95
    go_wp2_with fail
    with_reducible refine (isNaN32 a _).mono ?_
    rintro e w1 ⟨rfl, rfl⟩
    go_wp2_with fail
    with_reducible refine (isNaN32 b _).mono ?_
    rintro e w1 ⟨rfl, rfl⟩
    go_wp2_with fail
    go_ret
    exact ⟨rfl, rfl⟩
set_option maxRecDepth 100000 in
set_option maxHeartbeats 2000000 in
theorem orInt_any (v : Value) (xs : List Int) (w : World) (h : rInts (Old w) w [v] xs) :
    Calls Tryz.prog 93 #[v] w fun e w' => e = .returned (.int .i64 (orN xs)) ∧ w = w' := by
  obtain ⟨A, c, rfl, l1, m1, hA⟩ := rInts_open h
  have HA := Lib.hid hA
  clear hA h
  obtain ⟨n, hn⟩ : ∃ n, xs.length = n := ⟨_, rfl⟩
  rw [hn] at l1 ⊢
  replace hn := Lib.hid hn
  go_enter Tryz.func93, Tryz.ntmps93
  go_wp2_with fail
  go_loop [8] (fun i => ∃ k : Nat, k ≤ n ∧ i = .int .i64 k ∧ ∀ y ∈ xs.take k, y = 0) (fun i => n - (intOf i).toNat)
  case atStart => exact ⟨0, by omega, rfl, fun y hy => by simp at hy⟩
  case round =>
    obtain ⟨k, hk, rfl, ha⟩ := hrel
    replace ha := Lib.hid ha
    by_cases hlt : k < n
    · obtain ⟨x, hx⟩ : ∃ x, xs[k]? = some x := ⟨_, List.getElem?_eq_getElem (by rw [hn.out]; exact hlt)⟩
      obtain ⟨ad, rfl, hok, hc, _⟩ := HA.out k x hx
      replace hx := Lib.hid hx
      by_cases e : x = 0
      · have he : (x != 0) = false := by simpa using e
        replace e := Lib.hid e
        go_wp2_with fail
        go_round
        case rel => exact ⟨k + 1, by omega, by go_num, fun y hy => by
          rw [List.take_add_one, hx.out] at hy
          simp at hy
          rcases hy with hy | hy
          · exact ha.out y hy
          · rw [hy]; exact e.out⟩
        case measure => simp [intOf]; omega
      · have he : (x != 0) = true := by simpa using e
        have hor := Lib.hid (orN_take ha.out hx.out e)
        clear e
        go_wp2_with fail
        go_ret
        exact ⟨ret_int hor.out.symm, rfl⟩
    · have hge : n ≤ k := by omega
      have hor : Hid (orN xs = 0) := Lib.hid (orN_zero (by
        have := ha.out
        rwa [List.take_of_length_le (by rw [hn.out]; exact hge)] at this))
      go_wp2_with fail
      go_ret
      exact ⟨ret_int hor.out.symm, rfl⟩

set_option maxRecDepth 100000 in
set_option maxHeartbeats 4000000 in
theorem less_any (a b : Ky) (w : World) :
    Calls Tryz.prog 80 #[kyV a, kyV b] w fun e w' => e = .returned (.bool (lessK a b)) ∧ Below w.heap.size w w' := by
  have hfin := Lib.hid (less_or a b)
  obtain ⟨ak, ai, ao⟩ := a
  obtain ⟨bk, bi, bo⟩ := b
  unfold kyV
  dsimp only at hfin ⊢
  generalize lessK (ak, ai, ao) (bk, bi, bo) = res at hfin ⊢
  obtain ⟨p, hp⟩ : ∃ p : Int, (ak.toNat : Int) = p := ⟨_, rfl⟩
  obtain ⟨q, hq⟩ : ∃ q : Int, (bk.toNat : Int) = q := ⟨_, rfl⟩
  rw [hp, hq] at hfin ⊢
  clear hp hq
  obtain ⟨w1, hw1, f1, f2, f3, hs1, hB1, _⟩ := box_three w (.int .u8 p) (.int .u32 ai) (.int .u32 ao) 108
  obtain ⟨w2, hw2, g1, g2, g3, hs2, hB2, _⟩ := box_three w1 (.int .u8 q) (.int .u32 bi) (.int .u32 bo) 108
  have hB := Lib.hid (hB1.trans (hB2.mono hB1.size))
  have k1 := (hB2.cell (p := ⟨w.heap.size, 0, none⟩) (show w.heap.size < _ by omega)).trans f1
  have k2 := (hB2.cell (p := ⟨w.heap.size, 1, none⟩) (show w.heap.size < _ by omega)).trans f2
  have k3 := (hB2.cell (p := ⟨w.heap.size, 2, none⟩) (show w.heap.size < _ by omega)).trans f3
  have lt1 : w.heap.size < w2.heap.size := by omega
  have lt2 : w1.heap.size < w2.heap.size := by omega
  have i1 := Lib.hid (cmpN_in p q)
  have i2 := Lib.hid (cmpN_in ai bi)
  have i3 := Lib.hid (cmpN_in ao bo)
  obtain ⟨c1, h1⟩ : ∃ c, cmpN p q = c := ⟨_, rfl⟩
  obtain ⟨c2, h2⟩ : ∃ c, cmpN ai bi = c := ⟨_, rfl⟩
  obtain ⟨c3, h3⟩ : ∃ c, cmpN ao bo = c := ⟨_, rfl⟩
  rw [h1] at i1 hfin
  rw [h2] at i2 hfin
  rw [h3] at i3 hfin
  replace h1 := Lib.hid h1
  replace h2 := Lib.hid h2
  replace h3 := Lib.hid h3
  obtain ⟨c, hc⟩ : ∃ c, orN [c1, c2, c3] = c := ⟨_, rfl⟩
  rw [hc] at hfin
  replace hc := Lib.hid hc
  clear f1 f2 f3 hB1 hB2
  replace hs1 := Lib.hid hs1
  replace hs2 := Lib.hid hs2
  go_enter Tryz.func80, Tryz.ntmps80
  go_upto_region 1 with fail
  clear hw1 hw2
  refine wp_region_fx (by kernel_rfl) (fun W => Below w2.heap.size w2 W) (fun i => match i with
      | 15 => some (fun v W => rInts (Old W) W [v] [c1, c2, c3])
      | _ => none) (fun i => match i with
      | 4 => some (.int .i64 c1)
      | 9 => some (.int .i64 c2)
      | 14 => some (.int .i64 c3)
      | 16 => some (.int .i64 c)
      | _ => none) (by kernel_rfl) (Below.refl _ _).drew (fun w w' h hb => h.trans (hb.mono h.size)) ?tst ?_
  case tst =>
    intro j φ x W W' hp hx hb
    match j, hp with
    | 15, hp => cases hp; exact stab_ints.old hx hb
  repeat (first
    | (refine wpAs_skip rfl ?_; simp only [Act.put, List.setIfInBounds_toArray, List.set_cons_zero, List.set_cons_succ])
    | (refine wpAs_pure (v := ?_) rfl rfl ?_ ?_; rotate_left; (intro W hC hE; clear hE; (have z1 := (hC.cell (p := ⟨w.heap.size, 0, none⟩) lt1).trans k1; have z2 := (hC.cell (p := ⟨w1.heap.size, 0, none⟩) lt2).trans g1); clear hC; go_simp; done); simp only [Act.put, List.setIfInBounds_toArray, List.set_cons_zero, List.set_cons_succ])
    | (refine wpAs_pure (v := ?_) rfl rfl ?_ ?_; rotate_left; (intro W hC hE; clear hE; (have z1 := (hC.cell (p := ⟨w.heap.size, 0, none⟩) lt1).trans k1; have z2 := (hC.cell (p := ⟨w1.heap.size, 0, none⟩) lt2).trans g1); clear hC; go_simp; with_reducible rfl); simp only [Act.put, List.setIfInBounds_toArray, List.set_cons_zero, List.set_cons_succ]))
  refine wpAs_fixed rfl rfl rfl ?_ ?_
  · intro W hC hE
    refine does_enter (f := 94) (args := #[.int .u8 p, .int .u8 q]) ?_ ?_
    · go_simp
    · refine (compare8 p q W).mono ?_
      rintro e w' ⟨rfl, rfl⟩; rw [h1.out]; have hg := Below.refl W.heap.size W
      exact ⟨_, rfl, rfl, hg⟩
  simp only [Act.put, List.setIfInBounds_toArray, List.set_cons_zero, List.set_cons_succ]
  repeat (first
    | (refine wpAs_skip rfl ?_; simp only [Act.put, List.setIfInBounds_toArray, List.set_cons_zero, List.set_cons_succ])
    | (refine wpAs_pure (v := ?_) rfl rfl ?_ ?_; rotate_left; (intro W hC hE; clear hE; (have z1 := (hC.cell (p := ⟨w.heap.size, 1, none⟩) lt1).trans k2; have z2 := (hC.cell (p := ⟨w1.heap.size, 1, none⟩) lt2).trans g2); clear hC; go_simp; done); simp only [Act.put, List.setIfInBounds_toArray, List.set_cons_zero, List.set_cons_succ])
    | (refine wpAs_pure (v := ?_) rfl rfl ?_ ?_; rotate_left; (intro W hC hE; clear hE; (have z1 := (hC.cell (p := ⟨w.heap.size, 1, none⟩) lt1).trans k2; have z2 := (hC.cell (p := ⟨w1.heap.size, 1, none⟩) lt2).trans g2); clear hC; go_simp; with_reducible rfl); simp only [Act.put, List.setIfInBounds_toArray, List.set_cons_zero, List.set_cons_succ]))
  refine wpAs_fixed rfl rfl rfl ?_ ?_
  · intro W hC hE
    refine does_enter (f := 95) (args := #[.int .u32 ai, .int .u32 bi]) ?_ ?_
    · go_simp
    · refine (compare32 ai bi W).mono ?_
      rintro e w' ⟨rfl, rfl⟩; rw [h2.out]; have hg := Below.refl W.heap.size W
      exact ⟨_, rfl, rfl, hg⟩
  simp only [Act.put, List.setIfInBounds_toArray, List.set_cons_zero, List.set_cons_succ]
  repeat (first
    | (refine wpAs_skip rfl ?_; simp only [Act.put, List.setIfInBounds_toArray, List.set_cons_zero, List.set_cons_succ])
    | (refine wpAs_pure (v := ?_) rfl rfl ?_ ?_; rotate_left; (intro W hC hE; clear hE; (have z1 := (hC.cell (p := ⟨w.heap.size, 2, none⟩) lt1).trans k3; have z2 := (hC.cell (p := ⟨w1.heap.size, 2, none⟩) lt2).trans g3); clear hC; go_simp; done); simp only [Act.put, List.setIfInBounds_toArray, List.set_cons_zero, List.set_cons_succ])
    | (refine wpAs_pure (v := ?_) rfl rfl ?_ ?_; rotate_left; (intro W hC hE; clear hE; (have z1 := (hC.cell (p := ⟨w.heap.size, 2, none⟩) lt1).trans k3; have z2 := (hC.cell (p := ⟨w1.heap.size, 2, none⟩) lt2).trans g3); clear hC; go_simp; with_reducible rfl); simp only [Act.put, List.setIfInBounds_toArray, List.set_cons_zero, List.set_cons_succ]))
  refine wpAs_fixed rfl rfl rfl ?_ ?_
  · intro W hC hE
    refine does_enter (f := 95) (args := #[.int .u32 ao, .int .u32 bo]) ?_ ?_
    · go_simp
    · refine (compare32 ao bo W).mono ?_
      rintro e w' ⟨rfl, rfl⟩; rw [h3.out]; have hg := Below.refl W.heap.size W
      exact ⟨_, rfl, rfl, hg⟩
  simp only [Act.put, List.setIfInBounds_toArray, List.set_cons_zero, List.set_cons_succ]
  refine wpAs_act rfl rfl ?_ ?_
  · intro W hC hE
    clear hE
    have hl := Lib.hid (ints_lit W 3 [c1, c2, c3] #[.int .i64 c1, .int .i64 c2, .int .i64 c3] rfl (by simp) (fun x hx => by
      simp at hx
      rcases hx with rfl | rfl | rfl
      · exact i1.out
      · exact i2.out
      · exact i3.out))
    clear hC
    go_simp
    exact ⟨hl.out, (Below.refl _ _).alloc (Nat.le_refl _) _⟩
  simp only [Act.put, List.setIfInBounds_toArray, List.set_cons_zero, List.set_cons_succ, envAdd]
  intro x20
  refine wpAs_fixed rfl rfl rfl ?_ ?_
  · intro W hC hE
    have y20 := hE.1 rfl
    refine does_enter (f := 93) (args := #[x20]) ?_ ?_
    · clear hE hC
      obtain ⟨_, _, e, _⟩ := rInts_open y20
      cases e
      clear y20
      go_simp
    · refine (orInt_any x20 _ W y20).mono ?_
      rintro e w' ⟨rfl, rfl⟩
      rw [hc.out]
      exact ⟨_, rfl, rfl, Below.refl _ _⟩
  simp only [Act.put, List.setIfInBounds_toArray, List.set_cons_zero, List.set_cons_succ]
  repeat (first
    | (refine wpAs_skip rfl ?_; simp only [Act.put, List.setIfInBounds_toArray, List.set_cons_zero, List.set_cons_succ])
    | (refine wpAs_pure (v := ?_) rfl rfl ?_ ?_; rotate_left; (intro W hC hE; clear hE; skip; clear hC; go_simp; done); simp only [Act.put, List.setIfInBounds_toArray, List.set_cons_zero, List.set_cons_succ])
    | (refine wpAs_pure (v := ?_) rfl rfl ?_ ?_; rotate_left; (intro W hC hE; clear hE; skip; clear hC; go_simp; with_reducible rfl); simp only [Act.put, List.setIfInBounds_toArray, List.set_cons_zero, List.set_cons_succ]))
  refine wpAs_end fun W hC hE => ?_
  clear hE
  go_wp2
  go_ret
  exact ⟨ret_bool (by rw [← hfin.out]), hB.out.trans (hC.mono hB.out.size)⟩
end Go.Proofs.YtjlbkcnhbndgbaaGreat

/-
  Package item and the document's answers of layer 5: Check. Conditions: those that each lemma states.
-/
namespace Go.Proofs.YtjlbkcnhbndgbaaGreat
open Go.RowKit

/-- The five ways of a Ref and a length. -/
theorem may_ways (s : It) (n : Nat) (hn : s.2.2.length = n) : (s.2.1 = 0 ∧ n ≤ 12 ∧ mayI s = true) ∨ (s.2.1 = 0 ∧ 12 < n ∧ mayI s = false) ∨ (s.2.1 ≠ 0 ∧ s.2.1 < 8 ∧ mayI s = false) ∨ (s.2.1 ≠ 0 ∧ ¬ s.2.1 < 8 ∧ 256 ≤ s.2.1 ∧ mayI s = false) ∨ (s.2.1 ≠ 0 ∧ ¬ s.2.1 < 8 ∧ ¬ 256 ≤ s.2.1 ∧ n ≤ 12 ∧ mayI s = true) ∨ (s.2.1 ≠ 0 ∧ ¬ s.2.1 < 8 ∧ ¬ 256 ≤ s.2.1 ∧ 12 < n ∧ mayI s = false) := by
  subst hn
  cases e : mayI s with
  | true =>
    have := mayI_of e
    simp only [and_true, reduceCtorEq, and_false, or_false, false_or]
    omega
  | false =>
    have : ¬ ((s.2.1 = 0 ∨ (8 ≤ s.2.1 ∧ s.2.1 < 256)) ∧ s.2.2.length ≤ 12) := fun h => by rw [mayI_mk h] at e; cases e
    simp only [and_true, reduceCtorEq, and_false, false_or]
    omega

set_option maxRecDepth 100000 in
set_option maxHeartbeats 2000000 in
theorem checkI_any (v : Value) (s : It) (w : World) (h : Itm (Old w) w v s) : Calls Tryz.prog 78 #[v] w fun e w' => e = .returned (.int .i64 (chkI s)) ∧ Below w.heap.size w w' := by
  obtain ⟨A, c, rfl, _, l1, m1, _⟩ := h.open
  obtain ⟨n, hn⟩ : ∃ n, s.2.2.length = n := ⟨_, rfl⟩
  have hw := may_ways s n hn
  unfold itV
  rw [hn] at l1 ⊢
  obtain ⟨w0, hw0, f1, f2, f3, f4, f5, hs0, hB0, _⟩ := box_five w (.int .u8 (s.1.1.toNat : Int)) (.int .u32 s.1.2.1) (.int .u32 s.1.2.2) (.int .i64 s.2.1) (.slice A n c) 110
  clear f1 f2 f3 hs0 hn h
  have HB0 := Lib.hid hB0
  clear hB0
  obtain ⟨r, hr⟩ : ∃ r, s.2.1 = r := ⟨_, rfl⟩
  rw [hr] at hw f4 ⊢
  rw [hr] at hw0
  clear hr
  rcases hw with ⟨rfl, h1, hm⟩ | ⟨rfl, h1, hm⟩ | ⟨h0, h1, hm⟩ | ⟨h0, h1, h2, hm⟩ | ⟨h0, h1, h2, h3, hm⟩ | ⟨h0, h1, h2, h3, hm⟩
  · have hc := Lib.hid (chkI_ok hm)
    have i1 : ¬ (12 : Int) < n := by omega
    clear hm
    rw [hc.out]
    go_enter Tryz.func78, Tryz.ntmps78
    go_upto_region 1 with fail
    clear hw0
    go_wp2_with fail
    go_ret
    exact ⟨rfl, HB0.out⟩
  · have hc := Lib.hid (chkI_bad hm)
    have i1 : (12 : Int) < n := by omega
    clear hm
    rw [hc.out]
    go_enter Tryz.func78, Tryz.ntmps78
    go_upto_region 1 with fail
    clear hw0
    go_wp2_with fail
    go_ret
    exact ⟨rfl, HB0.out⟩
  · have hc := Lib.hid (chkI_bad hm)
    have t0 : (r != 0) = true := by simpa using h0
    have t1 : (r == 0) = false := by simpa using h0
    clear h0
    clear hm
    rw [hc.out]
    go_enter Tryz.func78, Tryz.ntmps78
    go_upto_region 1 with fail
    clear hw0
    go_wp2_with fail
    go_ret
    exact ⟨rfl, HB0.out⟩
  · have hc := Lib.hid (chkI_bad hm)
    have t0 : (r != 0) = true := by simpa using h0
    have t1 : (r == 0) = false := by simpa using h0
    clear h0
    clear hm
    rw [hc.out]
    go_enter Tryz.func78, Tryz.ntmps78
    go_upto_region 1 with fail
    clear hw0
    go_wp2_with fail
    go_ret
    exact ⟨rfl, HB0.out⟩
  · have hc := Lib.hid (chkI_ok hm)
    have t0 : (r != 0) = true := by simpa using h0
    have t1 : (r == 0) = false := by simpa using h0
    have i4 : ¬ (12 : Int) < n := by omega
    clear h0
    clear hm
    rw [hc.out]
    go_enter Tryz.func78, Tryz.ntmps78
    go_upto_region 1 with fail
    clear hw0
    go_wp2_with fail
    go_ret
    exact ⟨rfl, HB0.out⟩
  · have hc := Lib.hid (chkI_bad hm)
    have t0 : (r != 0) = true := by simpa using h0
    have t1 : (r == 0) = false := by simpa using h0
    have i4 : (12 : Int) < n := by omega
    clear h0
    clear hm
    rw [hc.out]
    go_enter Tryz.func78, Tryz.ntmps78
    go_upto_region 1 with fail
    clear hw0
    go_wp2_with fail
    go_ret
    exact ⟨rfl, HB0.out⟩

set_option maxRecDepth 100000 in
set_option maxHeartbeats 2000000 in
theorem refMayI_any (v : Value) (s : It) (w : World) (h : Itm (Old w) w v s) : Calls Tryz.prog 100 #[v] w fun e w' => e = .returned (.bool (mayI s)) ∧ Below w.heap.size w w' := by
  obtain ⟨A, c, rfl, _, l1, m1, _⟩ := h.open
  obtain ⟨n, hn⟩ : ∃ n, s.2.2.length = n := ⟨_, rfl⟩
  have hw := may_ways s n hn
  unfold itV
  rw [hn] at l1 ⊢
  obtain ⟨w0, hw0, f1, f2, f3, f4, f5, hs0, hB0, _⟩ := box_five w (.int .u8 (s.1.1.toNat : Int)) (.int .u32 s.1.2.1) (.int .u32 s.1.2.2) (.int .i64 s.2.1) (.slice A n c) 110
  clear f1 f2 f3 hs0 hn h
  have HB0 := Lib.hid hB0
  clear hB0
  obtain ⟨r, hr⟩ : ∃ r, s.2.1 = r := ⟨_, rfl⟩
  rw [hr] at hw f4 ⊢
  rw [hr] at hw0
  clear hr
  rcases hw with ⟨rfl, h1, hm⟩ | ⟨rfl, h1, hm⟩ | ⟨h0, h1, hm⟩ | ⟨h0, h1, h2, hm⟩ | ⟨h0, h1, h2, h3, hm⟩ | ⟨h0, h1, h2, h3, hm⟩
  · have hc := Lib.hid hm
    have i1 : (n : Int) ≤ 12 := by omega
    clear hm
    rw [hc.out]
    go_enter Tryz.func100, Tryz.ntmps100
    go_upto_region 1 with fail
    clear hw0
    go_wp2_with fail
    go_ret
    exact ⟨ret_bool (by simp <;> omega), HB0.out⟩
  · have hc := Lib.hid hm
    have i1 : ¬ (n : Int) ≤ 12 := by omega
    clear hm
    rw [hc.out]
    go_enter Tryz.func100, Tryz.ntmps100
    go_upto_region 1 with fail
    clear hw0
    go_wp2_with fail
    go_ret
    exact ⟨ret_bool (by simp <;> omega), HB0.out⟩
  · have hc := Lib.hid hm
    have t0 : (r != 0) = true := by simpa using h0
    have t1 : (r == 0) = false := by simpa using h0
    have i2 : ¬ 8 ≤ r := by omega
    clear h0
    clear hm
    rw [hc.out]
    go_enter Tryz.func100, Tryz.ntmps100
    go_upto_region 1 with fail
    clear hw0
    go_wp2_with fail
    go_ret
    exact ⟨ret_bool (by simp <;> omega), HB0.out⟩
  · have hc := Lib.hid hm
    have t0 : (r != 0) = true := by simpa using h0
    have t1 : (r == 0) = false := by simpa using h0
    have i2 : 8 ≤ r := by omega
    have i3 : ¬ r ≤ 255 := by omega
    clear h0
    clear hm
    rw [hc.out]
    go_enter Tryz.func100, Tryz.ntmps100
    go_upto_region 1 with fail
    clear hw0
    go_wp2_with fail
    go_ret
    exact ⟨ret_bool (by simp <;> omega), HB0.out⟩
  · have hc := Lib.hid hm
    have t0 : (r != 0) = true := by simpa using h0
    have t1 : (r == 0) = false := by simpa using h0
    have i2 : 8 ≤ r := by omega
    have i3 : r ≤ 255 := by omega
    have i4 : (n : Int) ≤ 12 := by omega
    clear h0
    clear hm
    rw [hc.out]
    go_enter Tryz.func100, Tryz.ntmps100
    go_upto_region 1 with fail
    clear hw0
    go_wp2_with fail
    go_ret
    exact ⟨ret_bool (by simp <;> omega), HB0.out⟩
  · have hc := Lib.hid hm
    have t0 : (r != 0) = true := by simpa using h0
    have t1 : (r == 0) = false := by simpa using h0
    have i2 : 8 ≤ r := by omega
    have i3 : r ≤ 255 := by omega
    have i4 : ¬ (n : Int) ≤ 12 := by omega
    clear h0
    clear hm
    rw [hc.out]
    go_enter Tryz.func100, Tryz.ntmps100
    go_upto_region 1 with fail
    clear hw0
    go_wp2_with fail
    go_ret
    exact ⟨ret_bool (by simp <;> omega), HB0.out⟩

end Go.Proofs.YtjlbkcnhbndgbaaGreat

/-
  Package item and the document's answers of layer 5: Same, Twin. Conditions: those that each lemma states.
-/
namespace Go.Proofs.YtjlbkcnhbndgbaaGreat
open Go.RowKit

def sameI (s o : It) : Bool := decide (s = o)
theorem sameI_self (s : It) : sameI s s = true := by simp [sameI]
theorem sameI_eq {s o : It} (h : sameI s o = true) : s = o := by simpa [sameI] using h
theorem same_parts (a1 b1 : UInt8) (a2 b2 a3 b3 a4 b4 : Int) (a5 b5 : List UInt8) : sameI ((a1, a2, a3), a4, a5) ((b1, b2, b3), b4, b5) = decide ((a1.toNat : Int) = b1.toNat ∧ a2 = b2 ∧ a3 = b3 ∧ a4 = b4 ∧ a5 = b5) := by
  unfold sameI
  rw [Bool.eq_iff_iff]
  simp only [Prod.mk.injEq, decide_eq_true_eq]
  have h : a1 = b1 ↔ (a1.toNat : Int) = b1.toNat := ⟨fun h => by rw [h], fun h => UInt8.toNat.inj (by omega)⟩
  rw [h]
  constructor
  · rintro ⟨⟨h1, h2, h3⟩, h4, h5⟩; exact ⟨h1, h2, h3, h4, h5⟩
  · rintro ⟨h1, h2, h3, h4, h5⟩; exact ⟨⟨h1, h2, h3⟩, h4, h5⟩
theorem sameI_comm (s o : It) : sameI s o = sameI o s := by
  unfold sameI
  rw [Bool.eq_iff_iff]
  simp only [decide_eq_true_eq]
  exact ⟨fun h => h.symm, fun h => h.symm⟩

set_option maxRecDepth 100000 in
set_option maxHeartbeats 4000000 in
theorem refSameI_any (v u : Value) (s o : It) (w : World) (hv : Itm (Old w) w v s) (hu : Itm (Old w) w u o) :
    Calls Tryz.prog 69 #[v, u] w fun e w' => e = .returned (.bool (sameI s o)) ∧ Below w.heap.size w w' := by
  obtain ⟨A, c, rfl, _, _, _, rv⟩ := hv.open
  obtain ⟨B, c', rfl, _, _, _, ru⟩ := hu.open
  obtain ⟨⟨a1, a2, a3⟩, a4, a5⟩ := s
  obtain ⟨⟨b1, b2, b3⟩, b4, b5⟩ := o
  unfold itV
  dsimp only at *
  have hfin := Lib.hid (same_parts a1 b1 a2 b2 a3 b3 a4 b4 a5 b5)
  generalize sameI ((a1, a2, a3), a4, a5) ((b1, b2, b3), b4, b5) = res at hfin ⊢
  obtain ⟨w1, hw1, f1, f2, f3, f4, f5, hs1, hB1, _⟩ := box_five w (.int .u8 (a1.toNat : Int)) (.int .u32 a2) (.int .u32 a3) (.int .i64 a4) (.slice A a5.length c) 110
  obtain ⟨w2, hw2, g1, g2, g3, g4, g5, hs2, hB2, _⟩ := box_five w1 (.int .u8 (b1.toNat : Int)) (.int .u32 b2) (.int .u32 b3) (.int .i64 b4) (.slice B b5.length c') 110
  have hB := hB1.trans (hB2.mono hB1.size)
  have k1 := (hB2.cell (p := ⟨w.heap.size, 0, none⟩) (show w.heap.size < _ by omega)).trans f1
  have k2 := (hB2.cell (p := ⟨w.heap.size, 1, none⟩) (show w.heap.size < _ by omega)).trans f2
  have k3 := (hB2.cell (p := ⟨w.heap.size, 2, none⟩) (show w.heap.size < _ by omega)).trans f3
  have k4 := (hB2.cell (p := ⟨w.heap.size, 3, none⟩) (show w.heap.size < _ by omega)).trans f4
  have k5 := (hB2.cell (p := ⟨w.heap.size, 4, none⟩) (show w.heap.size < _ by omega)).trans f5
  have xv := Lib.hid (stab_by.old rv hB)
  have xu := Lib.hid (stab_by.old ru hB)
  clear f1 f2 f3 f4 f5 hv hu rv ru hB1 hB2
  replace hB := Lib.hid hB
  replace hs1 := Lib.hid hs1
  replace hs2 := Lib.hid hs2
  replace hw2 := Lib.hid hw2
  go_enter Tryz.func69, Tryz.ntmps69
  go_upto_region 1 with fail
  rw [hw2.out]
  clear hw1 hw2
  generalize (a1.toNat : Int) = p at *
  generalize (b1.toNat : Int) = q at *
  by_cases e1 : p = q
  case neg =>
    have t1 : (p == q) = false := by simpa using e1
    have hne := Lib.hid (show res = false by rw [hfin.out]; simp [e1])
    go_wp2_with fail
    go_ret
    exact ⟨ret_bool hne.out.symm, hB.out⟩
  by_cases e2 : a2 = b2
  case neg =>
    have t1 : (p == q) = true := by simpa using e1
    have t2 : (a2 == b2) = false := by simpa using e2
    have hne := Lib.hid (show res = false by rw [hfin.out]; simp [e2])
    go_wp2_with fail
    go_ret
    exact ⟨ret_bool hne.out.symm, hB.out⟩
  by_cases e3 : a3 = b3
  case neg =>
    have t1 : (p == q) = true := by simpa using e1
    have t2 : (a2 == b2) = true := by simpa using e2
    have t3 : (a3 == b3) = false := by simpa using e3
    have hne := Lib.hid (show res = false by rw [hfin.out]; simp [e3])
    go_wp2_with fail
    go_ret
    exact ⟨ret_bool hne.out.symm, hB.out⟩
  by_cases e4 : a4 = b4
  case neg =>
    have t1 : (p == q) = true := by simpa using e1
    have t2 : (a2 == b2) = true := by simpa using e2
    have t3 : (a3 == b3) = true := by simpa using e3
    have t4 : (a4 == b4) = false := by simpa using e4
    have hne := Lib.hid (show res = false by rw [hfin.out]; simp [e4])
    clear e4
    go_wp2_with fail
    go_ret
    exact ⟨ret_bool hne.out.symm, hB.out⟩
  have t4 : (a4 == b4) = true := by simpa using e4
  have hne := Lib.hid (show res = decide (a5 = b5) by rw [hfin.out]; simp [e1, e2, e3, e4])
  clear e4
  have hs1 := Lib.hid (rBy_str0 xv.out)
  have hs2 := Lib.hid (rBy_str0 xu.out)
  have hsx := Lib.hid (str_eq a5 b5)
  replace hs1 := hs1.out
  replace hs2 := hs2.out
  go_wp2
  go_ret
  exact ⟨ret_bool (by rw [hne.out, beq_dec]), hB.out⟩

theorem put_last {W : World} {g : Nat} {a b c d e u : Value} {t : TypeId} (h : W.heap[g]? = some (.cells #[a, b, c, d, e] t (0, 0))) : ∃ W1, W.setCell ⟨g, 4, none⟩ u = W1 ∧ W1.heap[g]? = some (.cells #[a, b, c, d, u] t (0, 0)) ∧ W.grownBy W1 (some g) ∧ W1.heap.size = W.heap.size :=
  ⟨_, rfl, by simp [World.setCell, Array.getElem?_modify, h], grow_put (p := ⟨g, 4, none⟩) (grow_refl W (some g)) rfl u, by simp⟩
theorem itm_put {lo g : Nat} {w w' : World} {v : Value} {s : It} (h : Itm (New lo w) w v s) (hg : w.grownBy w' (some g)) (hr : g < lo) : Itm (New lo w') w' v s := h.grown hg (fun q e => by cases e; exact hr)

set_option maxRecDepth 100000 in
set_option maxHeartbeats 4000000 in
theorem twinI_any (v : Value) (s : It) (w : World) (hbig : s.2.2.length ≤ 1000000000) (h : Itm (Old w) w v s) :
    Calls Tryz.prog 92 #[v] w fun e w' => ∃ u, e = .returned u ∧ Itm (New w.heap.size w') w' u s ∧ Below w.heap.size w w' := by
  obtain ⟨A, c, rfl, hin, _, _, rv⟩ := h.open
  obtain ⟨⟨a1, a2, a3⟩, a4, a5⟩ := s
  unfold itV
  dsimp only at *
  obtain ⟨w1, hw1, f1, f2, f3, f4, f5, hs1, hB1, b1⟩ := box_five w (.int .u8 (a1.toNat : Int)) (.int .u32 a2) (.int .u32 a3) (.int .i64 a4) (.slice A a5.length c) 110
  obtain ⟨w2, hw2, _, _, _, _, _, hs2, hB2, b2⟩ := box_five w1 (.int .u8 0) (.int .u32 0) (.int .u32 0) (.int .i64 0) (.slice none 0 0) 110
  have hB := hB1.trans (hB2.mono hB1.size)
  have lt1 : w.heap.size < w1.heap.size := by omega
  have lt2 : w1.heap.size < w2.heap.size := by omega
  have b1' := Lib.hid ((hB2.block w.heap.size lt1).trans b1)
  have k5 := (hB2.cell (p := ⟨w.heap.size, 4, none⟩) lt1).trans f5
  have xv := Lib.hid (stab_by.old rv hB)
  clear f1 f2 f3 f4 f5 h rv hB1 hB2 b1
  replace hB := Lib.hid hB
  replace hs1 := Lib.hid hs1
  replace hs2 := Lib.hid hs2
  replace b2 := Lib.hid b2
  replace hw2 := Lib.hid hw2
  replace hbig := Lib.hid hbig
  go_enter Tryz.func92, Tryz.ntmps92
  go_upto_region 1 with fail
  rw [hw2.out]
  clear hw1 hw2
  go_wp2_with fail
  with_reducible refine (clone_by _ a5 _ (by have := hbig.out; omega) xv.out).mono ?_
  rintro e w3 ⟨u, rfl, hu, hb3⟩
  have lt3 : w2.heap.size ≤ w3.heap.size := hb3.size
  have c1 := (hb3.block w.heap.size (by omega)).trans b1'.out
  have c2 := (hb3.block w1.heap.size (by omega)).trans b2.out
  obtain ⟨k0, k1, k2, k3, _, kf, _⟩ := five_cells c1
  obtain ⟨w4, hw4, d1, gr4, gs4⟩ := put_last (u := u) c1
  obtain ⟨l0, l1, l2, l3, l4, _, _⟩ := five_cells d1
  have d2 := (gr4.block w1.heap.size (by omega) (by simp; omega)).trans c2
  obtain ⟨W9, hW9, g9, gr9, gs9⟩ := put_five (u0 := .int .u8 (a1.toNat : Int)) (u1 := .int .u32 a2) (u2 := .int .u32 a3) (u3 := .int .i64 a4) (u4 := u) d2
  obtain ⟨m0, m1, m2, m3, m4, _, _⟩ := five_cells g9
  obtain ⟨n0, n1, n2, n3, n4, nf, _⟩ := five_cells d2
  have B3 := hB.out.trans (hb3.mono hB.out.size)
  have B4 := B3.grown gr4 B3.size (fun q e => by cases e; omega)
  have B9 := Lib.hid (B4.grown gr9 B4.size (fun q e => by cases e; omega))
  have hfin : Hid (Itm (New w.heap.size W9) W9 (.agg #[.int .u8 (a1.toNat : Int), .int .u32 a2, .int .u32 a3, .int .i64 a4, u]) ((a1, a2, a3), a4, a5)) := Lib.hid ⟨u, rfl, hin, by
    have h1 := stab_by.grown hu gr4 (fun q e => by cases e; omega)
    have h2 := stab_by.grown h1 gr9 (fun q e => by cases e; omega)
    exact stab_by.mono h2 (by omega)⟩
  obtain ⟨_, _, rfl, _⟩ := id (rBy_open hu)
  clear c1 c2 d1 d2 g9 gr4 gr9 hu B3 B4 hb3 lt3
  replace hs1 := Lib.hid lt1
  replace hs2 := Lib.hid lt2
  clear lt1 lt2
  go_wp2_with fail
  exact bodyPost_ret (v := .agg #[.int .u8 (a1.toNat : Int), .int .u32 a2, .int .u32 a3, .int .i64 a4, .slice _ _ _]) (by simp [results, Tryz.results92, go_sem, m0, m1, m2, m3, m4]) rfl ⟨_, rfl, hfin.out, B9.out⟩

end Go.Proofs.YtjlbkcnhbndgbaaGreat

/-
  The document's answers of layer 5: Less, Bytes, Write. Conditions: those that each lemma states.
-/
namespace Go.Proofs.YtjlbkcnhbndgbaaGreat
open Go.RowKit

theorem less_ways (a b : Ky) : lessK a b = (if (a.1.toNat : Int) ≠ b.1.toNat then decide ((a.1.toNat : Int) < b.1.toNat) else if a.2.1 ≠ b.2.1 then decide (a.2.1 < b.2.1) else decide (a.2.2 < b.2.2)) := by
  unfold lessK
  by_cases h : a.1.toNat = b.1.toNat
  · rw [if_neg (show ¬ a.1.toNat ≠ b.1.toNat by omega), if_neg (show ¬ (a.1.toNat : Int) ≠ b.1.toNat by omega)]
  · rw [if_pos h, if_pos (show (a.1.toNat : Int) ≠ b.1.toNat by omega)]
    rw [Bool.eq_iff_iff]
    simp

set_option maxRecDepth 100000 in
set_option maxHeartbeats 4000000 in
theorem refLess_any (a b : Ky) (w : World) :
    Calls Tryz.prog 101 #[kyV a, kyV b] w fun e w' => e = .returned (.bool (lessK a b)) ∧ Below w.heap.size w w' := by
  have hfin := Lib.hid (less_ways a b)
  obtain ⟨ak, ai, ao⟩ := a
  obtain ⟨bk, bi, bo⟩ := b
  unfold kyV
  dsimp only at hfin ⊢
  generalize lessK (ak, ai, ao) (bk, bi, bo) = res at hfin ⊢
  obtain ⟨p, hp⟩ : ∃ p : Int, (ak.toNat : Int) = p := ⟨_, rfl⟩
  obtain ⟨q, hq⟩ : ∃ q : Int, (bk.toNat : Int) = q := ⟨_, rfl⟩
  rw [hp, hq] at hfin ⊢
  clear hp hq
  obtain ⟨w1, hw1, f1, f2, f3, hs1, hB1, _⟩ := box_three w (.int .u8 p) (.int .u32 ai) (.int .u32 ao) 108
  obtain ⟨w2, hw2, g1, g2, g3, hs2, hB2, _⟩ := box_three w1 (.int .u8 q) (.int .u32 bi) (.int .u32 bo) 108
  have hB := Lib.hid (hB1.trans (hB2.mono hB1.size))
  have k1 := (hB2.cell (p := ⟨w.heap.size, 0, none⟩) (show w.heap.size < _ by omega)).trans f1
  have k2 := (hB2.cell (p := ⟨w.heap.size, 1, none⟩) (show w.heap.size < _ by omega)).trans f2
  have k3 := (hB2.cell (p := ⟨w.heap.size, 2, none⟩) (show w.heap.size < _ by omega)).trans f3
  clear f1 f2 f3 hB1 hB2
  replace hs1 := Lib.hid hs1
  replace hs2 := Lib.hid hs2
  by_cases e1 : p = q
  case neg =>
    have t1 : (p != q) = true := by simpa using e1
    have hr := Lib.hid (show res = decide (p < q) by rw [hfin.out, if_pos e1])
    clear e1
    go_enter Tryz.func101, Tryz.ntmps101
    go_upto_region 1 with fail
    clear hw1 hw2
    go_wp2_with fail
    go_ret
    exact ⟨ret_bool (by rw [hr.out]), hB.out⟩
  subst e1
  by_cases e2 : ai = bi
  case neg =>
    have t2 : (ai != bi) = true := by simpa using e2
    have hr := Lib.hid (show res = decide (ai < bi) by rw [hfin.out, if_neg (fun h => h rfl), if_pos e2])
    clear e2
    go_enter Tryz.func101, Tryz.ntmps101
    go_upto_region 1 with fail
    clear hw1 hw2
    go_wp2_with fail
    go_ret
    exact ⟨ret_bool (by rw [hr.out]), hB.out⟩
  subst e2
  have hr := Lib.hid (show res = decide (ao < bo) by rw [hfin.out, if_neg (fun h => h rfl), if_neg (fun h => h rfl)])
  go_enter Tryz.func101, Tryz.ntmps101
  go_upto_region 1 with fail
  clear hw1 hw2
  go_wp2_with fail
  go_ret
  exact ⟨ret_bool (by rw [hr.out]), hB.out⟩

/-- A literal byte, as a row of the call's own. -/
theorem lit_own (w : World) (x : UInt8) (n : Int) (h : (x.toNat : Int) = n) : ∃ w1, w.alloc (.cells #[.int .u8 n] 5) = w1 ∧ w1.ownsRow w.heap.size 5 1 (.slice (some ⟨w.heap.size, 0, none⟩) 1 1) 1 (u8s [x]) ∧ Below w.heap.size w w1 ∧ w1.heap.size = w.heap.size + 1 := by
  subst h
  refine ⟨_, rfl, ?_, (Below.refl _ _).alloc (Nat.le_refl _) _, by simp⟩
  have h1 : Row (w.alloc (.cells #[.int .u8 (x.toNat : Int)] 5)) w.heap.size [x] := Row.new w [x]
  exact h1.own (Nat.le_refl _) (by simp)

set_option maxRecDepth 100000 in
set_option maxHeartbeats 8000000 in
theorem refBytes_ok (v : Value) (s : It) (w : World) (h : Itm (Old w) w v s) (hm : mayI s = true) :
    Calls Tryz.prog 102 #[v] w fun e w' => ∃ u, e = .returned u ∧ rBy (New w.heap.size w') w' [u] (itB s) ∧ Below w.heap.size w w' := by
  have hmay := mayI_of hm
  obtain ⟨A, c, rfl, hin, l1, m1, rv⟩ := h.open
  obtain ⟨⟨⟨g0, g1⟩, ⟨n0, n1⟩⟩, _⟩ := hin
  obtain ⟨w0, hw0, f1, f2, f3, f4, f5, hs0, hB0, _⟩ := box_five w (.int .u8 (s.1.1.toNat : Int)) (.int .u32 s.1.2.1) (.int .u32 s.1.2.2) (.int .i64 s.2.1) (.slice A s.2.2.length c) 110
  have RV : Hid (Byt w0 w0.heap.size A s.2.2) := Lib.hid (by
    obtain ⟨_, _, e, _, _, hy⟩ := rBy_byt (B := w.heap.size) (fun p hp => hp) rv
    cases e
    exact (hy.below hB0).more hB0.size)
  clear rv
  obtain ⟨n, hn⟩ : ∃ n, s.2.2.length = n := ⟨_, rfl⟩
  have hfin := Lib.hid (show itB s = [s.1.1] ++ le 4 s.1.2.1 ++ le 4 s.1.2.2 ++ le 2 s.2.1 ++ [UInt8.ofNat n] ++ s.2.2 by rw [← hn]; simp [itB])
  unfold itV
  rw [hn] at l1 f5 hw0 hmay ⊢
  have h12 : n ≤ 12 := hmay.2
  have hr0 : 0 ≤ s.2.1 ∧ s.2.1 < 65536 := by have := hmay.1; omega
  have hu8 : ((UInt8.ofNat n).toNat : Int) = (n : Int) := by
    rw [UInt8.toNat_ofNat']
    omega
  have HU := Lib.hid hu8
  obtain ⟨p, hp⟩ : ∃ p : Int, (s.1.1.toNat : Int) = p := ⟨_, rfl⟩
  have HP := Lib.hid hp
  rw [hp] at f1 hw0 ⊢
  have lt0 : w.heap.size < w0.heap.size := by omega
  have HB0 := Lib.hid hB0
  replace hn := Lib.hid hn
  clear hp hmay hB0 hs0 h hu8 hm
  go_enter Tryz.func102, Tryz.ntmps102
  go_upto_region 1 with fail
  clear hw0
  obtain ⟨w1, hw1, o1, B1, hs1⟩ := lit_own w0 s.1.1 p HP.out
  have k2 := (B1.cell (p := ⟨w.heap.size, 1, none⟩) lt0).trans f2
  have k3 := (B1.cell (p := ⟨w.heap.size, 2, none⟩) lt0).trans f3
  have k4 := (B1.cell (p := ⟨w.heap.size, 3, none⟩) lt0).trans f4
  have k5 := (B1.cell (p := ⟨w.heap.size, 4, none⟩) lt0).trans f5
  replace B1 := Lib.hid B1
  replace o1 := Lib.hid o1
  replace hs1 := Lib.hid hs1
  go_upto_region 2 with fail
  clear hw1 f1 f2 f3 f4 f5
  go_wp2_with fail
  with_reducible refine (four_ref s.1.2.1 g0 g1 _).mono ?_
  rintro e4 w4 ⟨A4, c4, rfl, y4, hb4⟩
  obtain ⟨v5, w5, hr5, o5, ba5⟩ := app_own_byt _ 1 4 c4 _ _ A4 w0.heap.size w4 (own_below o1.out hb4) y4 (le_length _ _) (by omega) (Nat.le_trans B1.out.size hb4.size)
  have B5 := Lib.hid ((B1.out.trans (hb4.mono B1.out.size)).trans ba5)
  have q3 := (ba5.cell (p := ⟨w.heap.size, 2, none⟩) lt0).trans ((hb4.cell (p := ⟨w.heap.size, 2, none⟩) (Nat.lt_of_lt_of_le lt0 B1.out.size)).trans k3)
  have q4 := (ba5.cell (p := ⟨w.heap.size, 3, none⟩) lt0).trans ((hb4.cell (p := ⟨w.heap.size, 3, none⟩) (Nat.lt_of_lt_of_le lt0 B1.out.size)).trans k4)
  have q5 := (ba5.cell (p := ⟨w.heap.size, 4, none⟩) lt0).trans ((hb4.cell (p := ⟨w.heap.size, 4, none⟩) (Nat.lt_of_lt_of_le lt0 B1.out.size)).trans k5)
  have H5 := Lib.hid hr5
  replace o5 := Lib.hid o5
  clear k2 k3 k4 k5 hb4 y4 ba5 o1 B1 hr5
  go_wp2_with (at_builtin; refine wpList_append_run rfl _ _ _ rfl rfl rfl H5.out ?_; clear H5)
  with_reducible refine (four_ref s.1.2.2 n0 n1 _).mono ?_
  rintro e4 w6 ⟨A6, c6, rfl, y6, hb6⟩
  obtain ⟨v7, w7, hr7, o7, ba7⟩ := app_own_byt v5 5 4 c6 _ _ A6 w0.heap.size w6 (own_below o5.out hb6) y6 (le_length _ _) (by omega) (Nat.le_trans B5.out.size hb6.size)
  have B7 := Lib.hid ((B5.out.trans (hb6.mono B5.out.size)).trans ba7)
  have k4 := (ba7.cell (p := ⟨w.heap.size, 3, none⟩) lt0).trans ((hb6.cell (p := ⟨w.heap.size, 3, none⟩) (Nat.lt_of_lt_of_le lt0 B5.out.size)).trans q4)
  have k5 := (ba7.cell (p := ⟨w.heap.size, 4, none⟩) lt0).trans ((hb6.cell (p := ⟨w.heap.size, 4, none⟩) (Nat.lt_of_lt_of_le lt0 B5.out.size)).trans q5)
  have H7 := Lib.hid hr7
  replace o7 := Lib.hid o7
  clear q3 q4 q5 hb6 y6 ba7 o5 B5 hr7
  go_wp2_with (at_builtin; refine wpList_append_run rfl _ _ _ rfl rfl rfl H7.out ?_; clear H7)
  refine (bytes_ref s.2.1 2 (by omega) (by omega) (by omega) _).mono ?_
  rintro e2 w8 ⟨A8, c8, rfl, y8, hb8⟩
  obtain ⟨v9, w9, hr9, o9, ba9⟩ := app_own_byt v7 9 2 c8 _ _ A8 w0.heap.size w8 (own_below o7.out hb8) y8 (le_length _ _) (by omega) (Nat.le_trans B7.out.size hb8.size)
  have B9 := Lib.hid ((B7.out.trans (hb8.mono B7.out.size)).trans ba9)
  have q5 := (ba9.cell (p := ⟨w.heap.size, 4, none⟩) lt0).trans ((hb8.cell (p := ⟨w.heap.size, 4, none⟩) (Nat.lt_of_lt_of_le lt0 B7.out.size)).trans k5)
  have H9 := Lib.hid hr9
  obtain ⟨wa, hwa, oa, Ba, hsa⟩ := lit_own w9 (UInt8.ofNat n) n HU.out
  obtain ⟨_, _, e, _, _, ya⟩ := own_byt oa
  cases e
  obtain ⟨vb, wb, hrb, ob, bab⟩ := app_own_byt v9 11 1 1 _ _ _ w0.heap.size wa (own_below o9 Ba) ya rfl (by omega) (Nat.le_trans B9.out.size Ba.size)
  have Bb := Lib.hid ((B9.out.trans (Ba.mono B9.out.size)).trans bab)
  have z5 := (Bb.out.cell (p := ⟨w.heap.size, 4, none⟩) lt0)
  have q5b := (bab.cell (p := ⟨w.heap.size, 4, none⟩) lt0).trans ((Ba.cell (p := ⟨w.heap.size, 4, none⟩) (Nat.lt_of_lt_of_le lt0 B9.out.size)).trans q5)
  have yv := (RV.out.below Bb.out).more Bb.out.size
  obtain ⟨vc, wc, hrc, oc, bac⟩ := app_own_byt vb 12 n c _ _ A w0.heap.size wb ob yv hn.out (by omega) Bb.out.size
  have BF := Lib.hid (HB0.out.trans ((Bb.out.trans bac).mono HB0.out.size))
  have hown : Hid (rBy (New w.heap.size wc) wc [vc] (itB s)) := Lib.hid (by
    rw [hfin.out]
    exact stab_by.mono (own_by oc) (Nat.le_of_lt lt0))
  have HB := Lib.hid hrb
  have HC := Lib.hid hrc
  clear k4 k5 hb8 y8 ba9 o7 B7 hr9 o9 oa Ba ya hrb ob bab z5 yv hrc oc bac
  replace hsa := Lib.hid hsa
  go_wp2_with (first
    | (at_builtin; refine wpList_append_run rfl _ _ _ rfl rfl rfl H9.out ?_; clear H9)
    | (at_builtin; refine wpList_append_run rfl _ _ _ rfl rfl rfl HB.out ?_; clear HB)
    | (at_builtin; refine wpList_append_run rfl _ _ _ rfl rfl rfl HC.out ?_; clear HC))
  go_ret
  exact ⟨_, rfl, hown.out, BF.out⟩

end Go.Proofs.YtjlbkcnhbndgbaaGreat

/-
  Package item: Write. Conditions: those that each lemma states.
-/
namespace Go.Proofs.YtjlbkcnhbndgbaaGreat
open Go.RowKit

theorem itB_flat (s : It) : [[s.1.1], le 4 s.1.2.1, le 4 s.1.2.2, le 2 s.2.1, [UInt8.ofNat s.2.2.length], s.2.2].flatten = itB s := by simp [itB]

end Go.Proofs.YtjlbkcnhbndgbaaGreat

/-
  Package item: cut, fields, Read. Conditions: those that each lemma states.
-/
namespace Go.Proofs.YtjlbkcnhbndgbaaGreat
open Go.RowKit

/-! ### What bytes tell -/
def cutN (b : List UInt8) : Nat := (b[11]?.getD 0).toNat
theorem cutN_lt (b : List UInt8) : cutN b < 256 := (b[11]?.getD 0).toNat_lt
def okC (b : List UInt8) : Bool := decide (12 + cutN b ≤ b.length)
def cutV (b : List UInt8) : List UInt8 := if okC b then (b.drop 12).take (cutN b) else []
def cutE (b : List UInt8) : Int := if okC b then 0 else 8
def fieldsI (b : List UInt8) : It := ((b[0]?.getD 0, gv 4 b 1, gv 4 b 5), gv 2 b 9, (b.drop 12).take (cutN b))
def fldI (b : List UInt8) : It := if okC b then fieldsI b else zeroI
theorem okC_yes {b : List UInt8} (h : okC b = true) : 12 + cutN b ≤ b.length := by simpa [okC] using h
theorem okC_no {b : List UInt8} (h : okC b = false) : ¬ 12 + cutN b ≤ b.length := by simpa [okC] using h
theorem inI_fields (b : List UInt8) : InI (fieldsI b) := ⟨⟨gv4_in _ _, gv4_in _ _⟩, gv2_in _ _⟩
theorem inI_fld (b : List UInt8) : InI (fldI b) := by
  unfold fldI
  split
  · exact inI_fields b
  · exact inI_zero
theorem fieldsI_length {b : List UInt8} (h : okC b = true) : (fieldsI b).2.2.length = cutN b := by
  have := okC_yes h
  simp [fieldsI]
  omega
def okR (b : List UInt8) : Bool := okC b && mayI (fldI b)
def itR (b : List UInt8) : It := if okR b then fieldsI b else zeroI
def itN (b : List UInt8) : Int := if okR b then (12 + cutN b : Int) else 0
def itE (b : List UInt8) : Int := if okR b then 0 else 8

/-- A part of bytes. -/
theorem rBy_part {ok : Addr → Prop} {w : World} {ad : Addr} {n c : Nat} {b : List UInt8} (h : rBy ok w [.slice (some ad) n c] b) (k m cap : Nat) (hk : k + m ≤ b.length) (hm : m ≤ cap) (hc : cap ≤ 9223372036854775807) : rBy ok w [.slice (some (ad.add k)) m cap] ((b.drop k).take m) := by
  obtain ⟨A, c', e, _, _, h4⟩ := h
  cases e
  have hl : ((b.drop k).take m).length = m := by simp; omega
  refine ⟨some (ad.add k), cap, by rw [hl], by rw [hl]; exact hm, hc, fun i x hi => ?_⟩
  have him : i < m := by rw [← hl]; exact (List.getElem?_eq_some_iff.1 hi).1
  have hi' : b[k + i]? = some x := by
    rw [List.getElem?_take_of_lt him, List.getElem?_drop] at hi
    exact hi
  obtain ⟨ad', vs, e1, e2, e3, e4⟩ := h4 (k + i) x hi'
  cases e1
  refine ⟨ad.add k, vs, rfl, e2, fun j v hj => ?_, e4⟩
  have := e3 j v hj
  rw [add_add', show k + (i * 1 + j) = (k + i) * 1 + j by omega]
  exact this
theorem rBy_part0 (ok : Addr → Prop) (w : World) (A : Option Addr) : rBy ok w [.slice A 0 0] [] := ⟨A, 0, rfl, by simp, by omega, fun i x h => by simp at h⟩

set_option maxRecDepth 100000 in
set_option maxHeartbeats 2000000 in
theorem cut_any (ok : Addr → Prop) (v : Value) (b : List UInt8) (w : World) (h : rBy ok w [v] b) :
    Calls Tryz.prog 106 #[v] w fun e w' => ∃ u, e = .returned (.tuple #[u, .int .i64 (cutE b)]) ∧ rBy ok w' [u] (cutV b) ∧ w = w' := by
  obtain ⟨A, c, rfl, l1, m1, hy⟩ := rBy_open h
  obtain ⟨n, hn⟩ : ∃ n, b.length = n := ⟨_, rfl⟩
  have hcn := cutN_lt b
  cases hok : okC b with
  | false =>
    have hno := okC_no hok
    have hE := Lib.hid (show cutE b = 8 by simp [cutE, hok])
    have hV := Lib.hid (show cutV b = [] by simp [cutV, hok])
    rw [hE.out, hV.out]
    by_cases h12 : n < 12
    · have i1 : (n : Int) < 12 := by omega
      rw [hn] at l1 ⊢
      clear hok hno hn hy h
      go_enter Tryz.func106, Tryz.ntmps106
      go_wp2_with fail
      go_ret2
      exact ⟨_, rfl, rBy_part0 _ _ _, rfl⟩
    · obtain ⟨ad, rfl, _, hc⟩ := hy 11 (by omega)
      have h11 : w.cell? ⟨ad.block, ad.off + 11, none⟩ = some (.int .u8 (cutN b : Int)) := by simpa [Addr.add, cutN] using hc
      obtain ⟨k, hk⟩ : ∃ k, cutN b = k := ⟨_, rfl⟩
      rw [hk] at h11 hno hcn
      rw [hn] at l1 hno ⊢
      have i1 : ¬ (n : Int) < 12 := by omega
      have i2 : (n : Int) < 12 + k := by omega
      clear hok hno hn hy h hc hk
      go_enter Tryz.func106, Tryz.ntmps106
      go_wp2_with fail
      go_ret2
      exact ⟨_, rfl, rBy_part0 _ _ _, rfl⟩
  | true =>
    have hyes := okC_yes hok
    have hE := Lib.hid (show cutE b = 0 by simp [cutE, hok])
    have hV := Lib.hid (show cutV b = (b.drop 12).take (cutN b) by simp [cutV, hok])
    rw [hE.out, hV.out]
    obtain ⟨ad, rfl, _, hc⟩ := hy 11 (by omega)
    have h11 : w.cell? ⟨ad.block, ad.off + 11, none⟩ = some (.int .u8 (cutN b : Int)) := by simpa [Addr.add, cutN] using hc
    obtain ⟨k, hk⟩ : ∃ k, cutN b = k := ⟨_, rfl⟩
    rw [hk] at h11 hyes hcn ⊢
    rw [hn] at l1 hyes ⊢
    have i1 : ¬ (n : Int) < 12 := by omega
    have i2 : ¬ (n : Int) < 12 + k := by omega
    clear hok hE hV hc
    rcases Nat.eq_zero_or_pos k with h0 | h0
    · subst h0
      rw [List.take_zero]
      go_enter Tryz.func106, Tryz.ntmps106
      go_wp2_with fail
      go_ret2
      exact ⟨_, rfl, rBy_part0 _ _ _, rfl⟩
    · have hfin : Hid (rBy ok w [.slice (some ⟨ad.block, ad.off + 12, none⟩) k k] ((b.drop 12).take k)) := Lib.hid (by
        have h1 : ad.add 12 = ⟨ad.block, ad.off + 12, none⟩ := by simp [Addr.add]
        have h2 := rBy_part h 12 k k (by omega) (Nat.le_refl _) (by omega)
        rwa [h1] at h2)
      have h0' : ¬ k = 0 := by omega
      clear hy h hn hk
      go_enter Tryz.func106, Tryz.ntmps106
      go_wp2_with fail
      go_ret2
      exact ⟨_, rfl, hfin.out, rfl⟩

theorem orN_no {a b c : Int} (ha : a = 0 ∨ a = 8) (hb : b = 0 ∨ b = 8) (hc : c = 0 ∨ c = 8) : orN [a, b, c, 8] = 8 := by
  rcases ha with rfl | rfl <;> rcases hb with rfl | rfl <;> rcases hc with rfl | rfl <;> rfl
theorem ge_ways (m n : Nat) (k : Int) : ge m n k = 0 ∨ ge m n k = 8 := by
  unfold ge
  split
  · exact Or.inl rfl
  · exact Or.inr rfl
theorem errs_in {e : Int} (h : e = 0 ∨ e = 8) : In64 e := by
  rcases h with rfl | rfl <;> exact ⟨by decide, by decide⟩

set_option maxRecDepth 100000 in
set_option maxHeartbeats 8000000 in
theorem fieldsI_any (ok : Addr → Prop) (v : Value) (b : List UInt8) (w : World) (hok0 : ∀ p, ok p → p.block < w.heap.size) (h : rBy ok w [v] b) :
    Calls Tryz.prog 91 #[v] w fun e w' => ∃ u, e = .returned (.tuple #[u, .int .i64 (cutE b)]) ∧ Itm ok w' u (fldI b) ∧ Below w.heap.size w w' := by
  obtain ⟨A, c, rfl, l1, m1, hy⟩ := rBy_byt (B := w.heap.size) hok0 h
  obtain ⟨n, hn⟩ : ∃ n, b.length = n := ⟨_, rfl⟩
  have hin := Lib.hid (inI_fields b)
  have HO := Lib.hid hok0
  have hhead : okC b = true → ∃ ad, A = some ad ∧ Old w ad ∧ w.cell? ad = some (.int .u8 ((b[0]?.getD 0).toNat : Int)) := fun hk => by
    have := okC_yes hk
    obtain ⟨ad, rfl, hb, hc⟩ := hy (by omega)
    exact ⟨ad, rfl, hb, by have := hc 0 (by omega); simpa [Addr.add] using this⟩
  replace hhead := Lib.hid hhead
  have hF : Hid (fldI b = if okC b then fieldsI b else zeroI) := Lib.hid rfl
  have hE : Hid (cutE b = if okC b then 0 else 8) := Lib.hid rfl
  have hV : Hid (cutV b = if okC b then (b.drop 12).take (cutN b) else []) := Lib.hid rfl
  have hg1 := ge_ways 4 n 1
  have hg2 := ge_ways 4 n 5
  have hg3 := ge_ways 2 n 9
  have hgy : Hid (okC b = true → ge 4 n 1 = 0 ∧ ge 4 n 5 = 0 ∧ ge 2 n 9 = 0) := Lib.hid (fun hk => by
    have := okC_yes hk
    exact ⟨ge_yes (by omega), ge_yes (by omega), ge_yes (by omega)⟩)
  rw [hn] at l1 h ⊢
  have HL := Lib.hid hn
  have HY := Lib.hid hy
  have HV := Lib.hid h
  obtain ⟨w0, hw0, _, _, _, _, _, hs0, hB0, b0⟩ := box_five w (.int .u8 0) (.int .u32 0) (.int .u32 0) (.int .i64 0) (.slice none 0 0) 110
  have lt0 : w.heap.size < w0.heap.size := by omega
  have HB0 := Lib.hid hB0
  replace b0 := Lib.hid b0
  replace hw0 := Lib.hid hw0
  obtain ⟨x0, hx0⟩ : ∃ x, b[0]?.getD 0 = x := ⟨_, rfl⟩
  obtain ⟨x1, hx1⟩ : ∃ x, gv 4 b 1 = x := ⟨_, rfl⟩
  obtain ⟨x2, hx2⟩ : ∃ x, gv 4 b 5 = x := ⟨_, rfl⟩
  obtain ⟨x3, hx3⟩ : ∃ x, gv 2 b 9 = x := ⟨_, rfl⟩
  obtain ⟨e1, he1⟩ : ∃ x, ge 4 n 1 = x := ⟨_, rfl⟩
  obtain ⟨e2, he2⟩ : ∃ x, ge 4 n 5 = x := ⟨_, rfl⟩
  obtain ⟨e3, he3⟩ : ∃ x, ge 2 n 9 = x := ⟨_, rfl⟩
  rw [hx0] at hhead
  rw [he1] at hg1 hgy
  rw [he2] at hg2 hgy
  rw [he3] at hg3 hgy
  have hFE := Lib.hid (show fieldsI b = ((x0, x1, x2), x3, (b.drop 12).take (cutN b)) by rw [← hx0, ← hx1, ← hx2, ← hx3]; rfl)
  replace hx0 := Lib.hid hx0
  replace hx1 := Lib.hid hx1
  replace hx2 := Lib.hid hx2
  replace hx3 := Lib.hid hx3
  replace he1 := Lib.hid he1
  replace he2 := Lib.hid he2
  replace he3 := Lib.hid he3
  replace hg1 := Lib.hid hg1
  replace hg2 := Lib.hid hg2
  replace hg3 := Lib.hid hg3
  clear hB0 hs0 h hy hn hok0
  go_enter Tryz.func91, Tryz.ntmps91
  go_upto_region 1 with fail
  rw [hw0.out]
  clear hw0
  go_wp2_with fail
  with_reducible refine (getFour_any _ n c 1 b HL l1 m1 _ ((HY.out.below HB0.out).more HB0.out.size)).mono ?_
  rintro f1 w1 ⟨rfl, hb1⟩
  rw [he1.out, hx1.out]
  have B1 := Lib.hid (HB0.out.trans (hb1.mono HB0.out.size))
  have C1 := Lib.hid hb1
  clear hb1
  go_wp2_with fail
  with_reducible refine (getFour_any _ n c 5 b HL l1 m1 _ ((HY.out.below B1.out).more B1.out.size)).mono ?_
  rintro f2 w2 ⟨rfl, hb2⟩
  rw [he2.out, hx2.out]
  have B2 := Lib.hid (B1.out.trans (hb2.mono B1.out.size))
  have C2 := Lib.hid (C1.out.trans (hb2.mono C1.out.size))
  clear hb2
  go_wp2_with fail
  with_reducible refine (getTwo_any _ n c 9 b HL l1 m1 _ ((HY.out.below B2.out).more B2.out.size)).mono ?_
  rintro f3 w3 ⟨rfl, hb3⟩
  rw [he3.out, hx3.out]
  have B3 := Lib.hid (B2.out.trans (hb3.mono B2.out.size))
  have C3 := Lib.hid (C2.out.trans (hb3.mono C2.out.size))
  clear hb3
  go_wp2_with fail
  have hv3 : Hid (rBy ok w3 [.slice A n c] b) := Lib.hid (stab_by _ _ _ _ _ _ (fun p v hp hc => ⟨hp, (B3.out.cell (HO.out p hp)).trans hc⟩) HV.out)
  with_reducible refine (cut_any ok _ b _ hv3.out).mono ?_
  rintro f4 w4 ⟨u, rfl, hu, rfl⟩
  cases hok : okC b with
  | false =>
    have hq := Lib.hid (show cutE b = 8 by rw [hE.out, hok]; rfl)
    have hz := Lib.hid (show fldI b = zeroI by rw [hF.out, hok]; rfl)
    rw [hq.out]
    obtain ⟨w6, hw6, h6⟩ : ∃ w6, w3.alloc (.cells #[.int .i64 e1, .int .i64 e2, .int .i64 e3, .int .i64 8] 32) = w6 ∧ rInts (Old w6) w6 [.slice (some ⟨w3.heap.size, 0, none⟩) 4 4] [e1, e2, e3, 8] :=
      ⟨_, rfl, ints_lit w3 32 [e1, e2, e3, 8] _ rfl (by simp) (fun x hx => by
        simp at hx
        rcases hx with rfl | rfl | rfl | rfl
        · exact errs_in hg1.out
        · exact errs_in hg2.out
        · exact errs_in hg3.out
        · exact ⟨by decide, by decide⟩)⟩
    have b6 : Below w3.heap.size w3 w6 := by rw [← hw6]; exact (Below.refl _ _).alloc (Nat.le_refl _) _
    have B6 := Lib.hid (B3.out.trans (b6.mono B3.out.size))
    have C6 := Lib.hid (C3.out.trans (b6.mono C3.out.size))
    have hor := Lib.hid (orN_no hg1.out hg2.out hg3.out)
    replace h6 := Lib.hid h6
    replace hok := Lib.hid hok
    obtain ⟨_, _, rfl, _⟩ := id (rBy_open hu)
    clear b6 hu
    go_wp2_with fail
    with_reducible refine (or_any _ [e1, e2, e3, 8] _ h6.out).mono ?_
    rintro f7 w7 ⟨rfl, rfl⟩
    rw [hor.out]
    clear hw6
    have b9 := (C6.out.block w.heap.size lt0).trans b0.out
    obtain ⟨W9, hW9, g9, gr9, gs9⟩ := put_five (u0 := .int .u8 0) (u1 := .int .u32 0) (u2 := .int .u32 0) (u3 := .int .i64 0) (u4 := .slice none 0 0) b9
    obtain ⟨k0, k1, k2, k3, k4, _, _⟩ := five_cells g9
    obtain ⟨a0, a1, a2, a3, a4, af, _⟩ := five_cells b9
    have B9 := Lib.hid (B6.out.grown gr9 B6.out.size (fun q e => by cases e; omega))
    replace b9 := Lib.hid b9
    clear g9 gr9
    go_wp2_with fail
    exact bodyPost_ret (v := .tuple #[.agg #[.int .u8 0, .int .u32 0, .int .u32 0, .int .i64 0, .slice none 0 0], .int .i64 8]) (by simp [results, Tryz.results91, go_sem, k0, k1, k2, k3, k4]) rfl ⟨_, ret_two hq.out.symm, by rw [hz.out]; exact itm_zero _ _, B9.out⟩
  | true =>
    have hq := Lib.hid (show cutE b = 0 by rw [hE.out, hok]; rfl)
    have hz := Lib.hid (show fldI b = fieldsI b by rw [hF.out, hok]; rfl)
    have hv := Lib.hid (show cutV b = (b.drop 12).take (cutN b) by rw [hV.out, hok]; rfl)
    obtain ⟨rfl, rfl, rfl⟩ := hgy.out hok
    obtain ⟨ad, rfl, hold, hcell⟩ := hhead.out hok
    rw [hq.out]
    rw [hv.out] at hu
    obtain ⟨L, hL⟩ : ∃ L, (b.drop 12).take (cutN b) = L := ⟨_, rfl⟩
    rw [hL] at hu
    have hFL := hFE.out
    rw [hL] at hFL
    replace hFL := Lib.hid hFL
    replace hL := Lib.hid hL
    obtain ⟨w6, hw6, h6⟩ : ∃ w6, w3.alloc (.cells #[.int .i64 0, .int .i64 0, .int .i64 0, .int .i64 0] 32) = w6 ∧ rInts (Old w6) w6 [.slice (some ⟨w3.heap.size, 0, none⟩) 4 4] [0, 0, 0, 0] :=
      ⟨_, rfl, ints_lit w3 32 [0, 0, 0, 0] _ rfl (by simp) (fun x hx => by
        simp at hx
        subst hx
        exact ⟨by decide, by decide⟩)⟩
    have b6 : Below w3.heap.size w3 w6 := by rw [← hw6]; exact (Below.refl _ _).alloc (Nat.le_refl _) _
    have B6 := Lib.hid (B3.out.trans (b6.mono B3.out.size))
    have C6 := Lib.hid (C3.out.trans (b6.mono C3.out.size))
    have hor : Hid (orN [0, 0, 0, 0] = 0) := Lib.hid rfl
    have hu6 : Hid (rBy ok w6 _ L) := Lib.hid (stab_by _ _ _ _ _ _ (fun p v hp hc => ⟨hp, (b6.cell (Nat.lt_of_lt_of_le (HO.out p hp) B3.out.size)).trans hc⟩) hu)
    have hn0 := okC_yes hok
    have hnn : 0 < n := by have := HL.out; omega
    replace h6 := Lib.hid h6
    replace hok := Lib.hid hok
    obtain ⟨D, dc, rfl, _⟩ := id (rBy_open hu)
    clear b6 hu hn0
    go_wp2_with fail
    with_reducible refine (or_any _ [0, 0, 0, 0] _ h6.out).mono ?_
    rintro f7 w7 ⟨rfl, rfl⟩
    rw [hor.out]
    clear hw6
    have c0 := (B6.out.cell hold).trans hcell
    have b9 := (C6.out.block w.heap.size lt0).trans b0.out
    obtain ⟨W9, hW9, g9, gr9, gs9⟩ := put_five (u0 := .int .u8 (x0.toNat : Int)) (u1 := .int .u32 x1) (u2 := .int .u32 x2) (u3 := .int .i64 x3) (u4 := .slice D L.length dc) b9
    obtain ⟨k0, k1, k2, k3, k4, _, _⟩ := five_cells g9
    obtain ⟨a0, a1, a2, a3, a4, af, _⟩ := five_cells b9
    have B9 := Lib.hid (B6.out.grown gr9 B6.out.size (fun q e => by cases e; omega))
    have hfin : Hid (Itm ok W9 (.agg #[.int .u8 (x0.toNat : Int), .int .u32 x1, .int .u32 x2, .int .i64 x3, .slice D L.length dc]) (fldI b)) := Lib.hid (by
      have h2 := hin.out
      rw [hFL.out] at h2
      rw [hz.out, hFL.out]
      refine ⟨_, rfl, h2, stab_by _ _ _ _ _ _ (fun p v hp hc => ⟨hp, ?_⟩) hu6.out⟩
      have hb := gr9.block p.block (Nat.lt_of_lt_of_le (HO.out p hp) B6.out.size) (fun e => by have h1 := Option.some.inj e; have h2 : p.block < w.heap.size := HO.out p hp; omega)
      exact (World.cell?_of_block hb).trans hc)
    replace b9 := Lib.hid b9
    replace hold := Lib.hid hold
    clear g9 gr9 hcell
    go_wp2_with fail
    exact bodyPost_ret (v := .tuple #[.agg #[.int .u8 (x0.toNat : Int), .int .u32 x1, .int .u32 x2, .int .i64 x3, .slice D L.length dc], .int .i64 0]) (by simp [results, Tryz.results91, go_sem, k0, k1, k2, k3, k4]) rfl ⟨_, ret_two hq.out.symm, hfin.out, B9.out⟩

theorem bool_ways (b : Bool) : b = false ∨ b = true := by cases b <;> simp
theorem okR_fields {b : List UInt8} (h : okR b = true) : okC b = true ∧ mayI (fldI b) = true := by simpa [okR] using h

set_option maxRecDepth 100000 in
set_option maxHeartbeats 8000000 in
theorem itRead_any (v : Value) (b : List UInt8) (w : World) (h : rBy (Old w) w [v] b) :
    Calls Tryz.prog 77 #[v] w fun e w' => ∃ u, e = .returned (.tuple #[u, .int .i64 (itN b), .int .i64 (itE b)]) ∧ Itm (New w.heap.size w') w' u (itR b) ∧ Below w.heap.size w w' := by
  obtain ⟨A, c, rfl, _⟩ := id (rBy_open h)
  obtain ⟨n, hn⟩ : ∃ n, b.length = n := ⟨_, rfl⟩
  have hE : Hid (itE b = if okR b then 0 else 8) := Lib.hid rfl
  have hN : Hid (itN b = if okR b then (12 + cutN b : Int) else 0) := Lib.hid rfl
  have hR : Hid (itR b = if okR b then fieldsI b else zeroI) := Lib.hid rfl
  have hO : Hid (okR b = (okC b && mayI (fldI b))) := Lib.hid rfl
  obtain ⟨w0, hw0, _, _, _, _, _, hs0, hB0, b0⟩ := box_five w (.int .u8 0) (.int .u32 0) (.int .u32 0) (.int .i64 0) (.slice none 0 0) 110
  have lt0 : w.heap.size < w0.heap.size := by omega
  have HV : Hid (rBy (Old w) w0 [.slice A b.length c] b) := Lib.hid (stab_by _ _ _ _ _ _ (fun p v hp hc => ⟨hp, (hB0.cell hp).trans hc⟩) h)
  have HB0 := Lib.hid hB0
  replace b0 := Lib.hid b0
  replace hw0 := Lib.hid hw0
  rw [hn] at HV ⊢
  replace hn := Lib.hid hn
  clear hB0 hs0 h
  go_enter Tryz.func77, Tryz.ntmps77
  go_upto_region 1 with fail
  rw [hw0.out]
  clear hw0
  go_wp2_with fail
  with_reducible refine (fieldsI_any (Old w) _ b _ (fun p hp => Nat.lt_trans hp lt0) HV.out).mono ?_
  rintro f1 w1 ⟨u, rfl, hu, hb1⟩
  have B1 := Lib.hid (HB0.out.trans (hb1.mono HB0.out.size))
  have C1 := Lib.hid hb1
  have b1 := (hb1.block w.heap.size lt0).trans b0.out
  have lt1 : w.heap.size < w1.heap.size := Nat.lt_of_lt_of_le lt0 hb1.size
  have hF : Hid (fldI b = if okC b then fieldsI b else zeroI) := Lib.hid rfl
  obtain ⟨s, hs⟩ : ∃ s, fldI b = s := ⟨_, rfl⟩
  rw [hs] at hu hO hF
  replace hs := Lib.hid hs
  have hin := hu.open
  obtain ⟨D, dc, rfl, hin, d1, d2, hu2⟩ := hin
  obtain ⟨W2, hW2, g2, gr2, gs2⟩ := put_five (u0 := .int .u8 (s.1.1.toNat : Int)) (u1 := .int .u32 s.1.2.1) (u2 := .int .u32 s.1.2.2) (u3 := .int .i64 s.2.1) (u4 := .slice D s.2.2.length dc) b1
  obtain ⟨a0, a1, a2, a3, a4, af, _⟩ := five_cells b1
  obtain ⟨k0, k1, k2, k3, k4, kf, _⟩ := five_cells g2
  have B2 := Lib.hid (B1.out.grown gr2 B1.out.size (fun q e => by cases e; omega))
  have hu3 : Hid (Itm (Old w) W2 (itV s (.slice D s.2.2.length dc)) s) := Lib.hid (by
    refine ⟨_, rfl, hin, stab_by _ _ _ _ _ _ (fun p v hp hc => ⟨hp, ?_⟩) hu2⟩
    exact (World.cell?_of_block (gr2.block p.block (Nat.lt_trans hp lt1) (fun e => by have h1 := Option.some.inj e; have h2 : p.block < w.heap.size := hp; omega))).trans hc)
  have hfinB : ∀ (W : World), Below W2.heap.size W2 W → okR b = false → ∃ W9 : World, (((((W.setCell ⟨w.heap.size, 0, none⟩ (.int .u8 0)).setCell ⟨w.heap.size, 1, none⟩ (.int .u32 0)).setCell ⟨w.heap.size, 2, none⟩ (.int .u32 0)).setCell ⟨w.heap.size, 3, none⟩ (.int .i64 0)).setCell ⟨w.heap.size, 4, none⟩ (.slice none 0 0)) = W9 ∧
      W9.heap[w.heap.size]? = some (.cells #[.int .u8 0, .int .u32 0, .int .u32 0, .int .i64 0, .slice none 0 0] 110 (0, 0)) ∧ Hid (itE b = 8 ∧ itN b = 0 ∧ itR b = zeroI ∧ Below w.heap.size w W9) := fun W hW hno => by
    obtain ⟨W9, hW9, g9, gr9, gs9⟩ := put_five (u0 := .int .u8 0) (u1 := .int .u32 0) (u2 := .int .u32 0) (u3 := .int .i64 0) (u4 := .slice none 0 0) ((hW.block w.heap.size (by omega)).trans g2)
    have B := B2.out.trans (hW.mono B2.out.size)
    exact ⟨W9, hW9, g9, Lib.hid ⟨by rw [hE.out, hno]; rfl, by rw [hN.out, hno]; rfl, by rw [hR.out, hno]; rfl, B.grown gr9 B.size (fun q e => by cases e; omega)⟩⟩
  replace hfinB := Lib.hid hfinB
  replace b1 := Lib.hid b1
  replace g2 := Lib.hid g2
  replace gs2 := Lib.hid gs2
  replace gr2 := Lib.hid gr2
  clear hu hu2 hb1
  rcases bool_ways (okC b) with hok | hok
  · skip
    have hq := Lib.hid (show cutE b = 8 by simp [cutE, hok])
    have hno : okR b = false := by simp [okR, hok]
    obtain ⟨W9, hW9, g9, hz⟩ := hfinB.out W2 (Below.refl _ _) hno
    obtain ⟨m0, m1, m2, m3, m4, _, _⟩ := five_cells g9
    rw [hq.out]
    replace hok := Lib.hid hok
    replace hno := Lib.hid hno
    replace g9 := Lib.hid g9
    go_wp2_with fail
    exact bodyPost_ret (v := .tuple #[.agg #[.int .u8 0, .int .u32 0, .int .u32 0, .int .i64 0, .slice none 0 0], .int .i64 0, .int .i64 8]) (by simp [results, Tryz.results77, go_sem, m0, m1, m2, m3, m4]) rfl ⟨_, by rw [hz.out.1, hz.out.2.1], by rw [hz.out.2.2.1]; exact itm_zero _ _, hz.out.2.2.2⟩
  · skip
    have hq := Lib.hid (show cutE b = 0 by simp [cutE, hok])
    have hsf := Lib.hid (show s = fieldsI b by rw [hF.out, hok]; rfl)
    have hcl : s.2.2.length = cutN b := by rw [hsf.out]; exact fieldsI_length hok
    have hcn := cutN_lt b
    rw [hq.out]
    have hO2 := Lib.hid (show okR b = mayI s by rw [hO.out, hok]; rfl)
    replace hok := Lib.hid hok
    replace hcl := Lib.hid hcl
    go_wp2_with fail
    with_reducible refine (checkI_any _ s _ (hu3.out.map fun p v hp hc => ⟨Nat.lt_trans hp (by have := gs2.out; have := C1.out.size; omega), hc⟩)).mono ?_
    rintro f2 w3 ⟨rfl, hb3⟩
    have C3 := Lib.hid hb3
    have lt2 : w.heap.size < W2.heap.size := by have := gs2.out; omega
    have b3 := (hb3.block w.heap.size lt2).trans g2.out
    obtain ⟨q0, q1, q2, q3, q4, qf, _⟩ := five_cells b3
    clear k0 k1 k2 k3 k4 kf
    have B3 := Lib.hid (B2.out.trans (hb3.mono B2.out.size))
    rcases bool_ways (mayI s) with hm | hm
    · skip
      obtain ⟨W9, hW9, g9, hz⟩ := hfinB.out w3 C3.out (by rw [hO2.out, hm])
      obtain ⟨m0, m1, m2, m3, m4, _, _⟩ := five_cells g9
      have hck := Lib.hid (chkI_bad hm)
      rw [hck.out]
      replace hm := Lib.hid hm
      replace g9 := Lib.hid g9
      replace b3 := Lib.hid b3
      clear hb3
      go_wp2_with fail
      exact bodyPost_ret (v := .tuple #[.agg #[.int .u8 0, .int .u32 0, .int .u32 0, .int .i64 0, .slice none 0 0], .int .i64 0, .int .i64 8]) (by simp [results, Tryz.results77, go_sem, m0, m1, m2, m3, m4]) rfl ⟨_, by rw [hz.out.1, hz.out.2.1], by rw [hz.out.2.2.1]; exact itm_zero _ _, hz.out.2.2.2⟩
    · skip
      have hck := Lib.hid (chkI_ok hm)
      have hyes : okR b = true := by rw [hO2.out, hm]
      have hE9 := Lib.hid (show itE b = 0 by rw [hE.out, hyes]; rfl)
      have hN9 := Lib.hid (show itN b = 12 + s.2.2.length by rw [hN.out, hyes, hcl.out]; rfl)
      have hR9 := Lib.hid (show itR b = s by rw [hR.out, hyes, hsf.out]; rfl)
      have h12 : s.2.2.length ≤ 12 := (mayI_of hm).2
      have hu4 : Hid (Itm (Old w3) w3 (itV s (.slice D s.2.2.length dc)) s) := Lib.hid (hu3.out.map fun p v hp hc => by
        have h1 : p.block < W2.heap.size := Nat.lt_trans hp (by have := gs2.out; have := C1.out.size; omega)
        exact ⟨Nat.lt_of_lt_of_le h1 hb3.size, (hb3.cell h1).trans hc⟩)
      have lt3 : w.heap.size < w3.heap.size := Nat.lt_of_lt_of_le lt2 hb3.size
      rw [hck.out]
      replace hm := Lib.hid hm
      replace hyes := Lib.hid hyes
      replace b3 := Lib.hid b3
      clear hb3 a0 a1 a2 a3 a4 af
      go_wp2_with fail
      have HT : Hid (∀ W, Below w3.heap.size w3 W → Calls Tryz.prog 92 #[itV s (.slice D s.2.2.length dc)] W fun e w' => ∃ X xc, e = .returned (itV s (.slice X s.2.2.length xc)) ∧ Itm (New w3.heap.size w') w' (itV s (.slice X s.2.2.length xc)) s ∧ Below w3.heap.size w3 w') := Lib.hid fun W hC => by
        refine (twinI_any _ s W (by omega) (hu4.out.below hC)).mono ?_
        rintro e W' ⟨x, rfl, hx, hb⟩
        obtain ⟨X, xc, rfl, _⟩ := id hx.open
        exact ⟨X, xc, rfl, hx.map fun p v hp hc => ⟨⟨Nat.le_trans hC.size hp.1, hp.2⟩, hc⟩, hC.trans (hb.mono hC.size)⟩
      have hdr : Below w3.heap.size w3 w3.drew := (Below.refl _ _).drew
      have hwr : IntKind.i64.wrap (12 + (s.2.2.length : Int)) = 12 + s.2.2.length := by rw [IntKind.wrap_i64]; omega
      go_region_with (first
        | (go_at_call 92; refine (HT.out _ hdr).mono ?_; rintro e' wm ⟨X, xc, rfl, hx, hw⟩; have bW := (hw.block w.heap.size lt3).trans b3.out; obtain ⟨c0, c1, c2, c3, c4, cf, _⟩ := five_cells bW))
      all_goals
        (go_wp2_with fail
         obtain ⟨W9, hW9, g9, gr9, gs9⟩ := put_five (u0 := .int .u8 (s.1.1.toNat : Int)) (u1 := .int .u32 s.1.2.1) (u2 := .int .u32 s.1.2.2) (u3 := .int .i64 s.2.1) (u4 := .slice X s.2.2.length xc) bW
         obtain ⟨m0, m1, m2, m3, m4, _, _⟩ := five_cells g9
         rw [hW9]
         have BW := B3.out.trans (hw.mono B3.out.size)
         exact bodyPost_ret (v := .tuple #[.agg #[.int .u8 (s.1.1.toNat : Int), .int .u32 s.1.2.1, .int .u32 s.1.2.2, .int .i64 s.2.1, .slice X s.2.2.length xc], .int .i64 (12 + s.2.2.length), .int .i64 0]) (by simp [results, Tryz.results77, go_sem, m0, m1, m2, m3, m4]) rfl ⟨_, by rw [hE9.out, hN9.out], by
           rw [hR9.out]
           exact (hx.grown gr9 (fun q e => by cases e; omega)).map fun p v hp hc => ⟨⟨Nat.le_trans B3.out.size hp.1, hp.2⟩, hc⟩, BW.grown gr9 BW.size (fun q e => by cases e; omega)⟩)
end Go.Proofs.YtjlbkcnhbndgbaaGreat
