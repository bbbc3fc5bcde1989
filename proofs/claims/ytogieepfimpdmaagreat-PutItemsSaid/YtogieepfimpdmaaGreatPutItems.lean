/-
  For every store, two roots and an item PutItems answers true and leaves its arguments as they were. No condition.
-/
import Derived.Test.YtogieepfimpdmaaGreatBnd6
import Derived.Deep.CutRange
namespace Go.Proofs.YtogieepfimpdmaaGreat.putItems
open Go.ChangeShapes Go.WideShapes Go.RowKit

theorem own : ownKnob Tryz.prog.godebug = none := by kernel_rfl
theorem laidOut : laidOutB Tryz.prog = true := by kernel_rfl

set_option maxRecDepth 100000 in
set_option maxHeartbeats 16000000 in
theorem walk (v : Value) (s : Rm) (a : Int) (_hn : (Lit.int .i64 a).wf = true) (b : Int) (_hn2 : (Lit.int .i64 b).wf = true) (u : Value) (x : It) (w : World) (h : Sto (Old w) w v s) (hu : Itm (Old w) w u x) :
    Calls Tryz.prog 4 #[v, .int .i64 a, .int .i64 b, u] w fun e w' => e = .returned (.bool true) ∧ Below w.heap.size w w' := by
  clear _hn _hn2
  obtain ⟨qa, qb, qc, qd, rfl⟩ : ∃ qa qb qc qd : Option Addr × Nat × Nat, v = .agg #[.slice qa.1 qa.2.1 qa.2.2, .slice qb.1 qb.2.1 qb.2.2, .slice qc.1 qc.2.1 qc.2.2, .slice qd.1 qd.2.1 qd.2.2] := by
    obtain ⟨A, ca, B, cb, N, cn, L, cl, rfl, _⟩ := h.open
    exact ⟨(A, _, ca), (B, _, cb), (N, _, cn), (L, _, cl), rfl⟩
  obtain ⟨E, ce, rfl, hxi, -, -, -⟩ := id hu.open
  have HG0 : Bag w [OldR (.agg #[.slice qa.1 qa.2.1 qa.2.2, .slice qb.1 qb.2.1 qb.2.2, .slice qc.1 qc.2.1 qc.2.2, .slice qd.1 qd.2.1 qd.2.2]) s, OldI (itV x (.slice E x.2.2.length ce)) x] := ((Bag.nil w).add (F := OldI _ x) hu (lasts_oldI _ _)).add (F := OldR _ s) h (lasts_oldR _ _)
  obtain ⟨w1, hw1, hg1, hB1, -, hs1⟩ := bag_four HG0 (Below.refl _ _) (.slice qa.1 qa.2.1 qa.2.2) (.slice qb.1 qb.2.1 qb.2.2) (.slice qc.1 qc.2.1 qc.2.2) (.slice qd.1 qd.2.1 qd.2.2) 29
  obtain ⟨w2, hw2, hg2, hB2, -, hs2⟩ := bag_item hg1 (Below.refl _ _) (.int .u8 (x.1.1.toNat : Int)) (.int .u32 x.1.2.1) (.int .u32 x.1.2.2) (.int .i64 x.2.1) (.slice E x.2.2.length ce)
  have hB12 := hB1.trans (hB2.mono hB1.size)
  have HG2 := Lib.hid hg2
  have B2 := Lib.hid hB12
  have hIn := Lib.hid hxi
  replace hs1 := Lib.hid hs1
  replace hs2 := Lib.hid hs2
  clear HG0 hg1 hg2 h hu hB1 hB2 hB12 hxi
  unfold itV
  go_enter Tryz.func4, Tryz.ntmps4
  go_upto_region 1 with fail
  clear hw1 hw2
  go_wp2_with fail
  with_reducible refine (alive12 _).mono ?_
  rintro e w3 ⟨rfl, hb3⟩
  have HG3 := Lib.hid (HG2.out.below hb3)
  have B3 := Lib.hid (B2.out.trans (hb3.mono B2.out.size))
  clear hb3 HG2 B2
  obtain ⟨ck, hck⟩ : ∃ q, ckE s a = q := ⟨_, rfl⟩
  obtain ⟨hh, hhh⟩ : ∃ q, ckH s a = q := ⟨_, rfl⟩
  obtain ⟨cb, hcb⟩ : ∃ q, ckE s b = q := ⟨_, rfl⟩
  obtain ⟨hhb, hhhb⟩ : ∃ q, ckH s b = q := ⟨_, rfl⟩
  have hCk := Lib.hid (findCheck_any _ s a _ (HG3.out.at 2 rfl))
  rw [hck, hhh] at hCk
  have hCb := Lib.hid (fun v W hW => findCheck_any v s b W hW)
  rw [hcb, hhhb] at hCb
  replace hck := Lib.hid hck
  replace hhh := Lib.hid hhh
  replace hcb := Lib.hid hcb
  replace hhhb := Lib.hid hhhb
  obtain ⟨k0, k1, k2, k3, kg⟩ := HG3.out.at 1 rfl
  go_upto_region 4 with fail
  go_wp2_with fail
  with_reducible refine hCk.out.mono ?_
  rintro e w4 ⟨rfl, hb4⟩
  have HG4 := Lib.hid (HG3.out.below hb4)
  have B4 := Lib.hid (B3.out.trans (hb4.mono B3.out.size))
  clear hb4 HG3 B3 k0 k1 k2 k3 kg hCk
  obtain ⟨k0, k1, k2, k3, kg⟩ := HG4.out.at 1 rfl
  go_wp2_with fail
  with_reducible refine (hCb.out _ _ (HG4.out.at 2 rfl)).mono ?_
  rintro e w5 ⟨rfl, hb5⟩
  have HG5 := Lib.hid (HG4.out.below hb5)
  have B5 := Lib.hid (B4.out.trans (hb5.mono B4.out.size))
  clear hb5 HG4 B4 k0 k1 k2 k3 kg hCb
  obtain ⟨k0, k1, k2, k3, kg⟩ := HG5.out.at 1 rfl
  go_wp2_with fail
  with_reducible refine (greatR_any _ s _ (HG5.out.at 2 rfl)).mono ?_
  rintro e w6 ⟨rfl, hb6⟩
  have HG6 := Lib.hid (HG5.out.below hb6)
  have B6 := Lib.hid (B5.out.trans (hb6.mono B5.out.size))
  clear hb6 HG5 B5 k0 k1 k2 k3 kg
  cases hgr : greatR s with
  | true =>
    go_wp2_with fail
    go_ret
    exact ⟨rfl, B6.out⟩
  | false =>
  clear hgr
  by_cases hk : ck = 0
  case neg =>
    have t0 : (ck != 0) = true := by simpa using hk
    go_wp2_with fail
    go_ret
    exact ⟨rfl, B6.out⟩
  subst hk
  by_cases hk : cb = 0
  case neg =>
    have t0 : (cb != 0) = true := by simpa using hk
    go_wp2_with fail
    go_ret
    exact ⟨rfl, B6.out⟩
  subst hk
  obtain ⟨n0, n1, n2, n3, n4, ng⟩ := HG6.out.at 0 rfl
  have hCi := checkI_any _ x w6 (HG6.out.at 3 rfl)
  obtain ⟨ci, hci⟩ : ∃ q, chkI x = q := ⟨_, rfl⟩
  rw [hci] at hCi
  unfold itV at hCi
  replace hCi := Lib.hid hCi
  replace hci := Lib.hid hci
  go_wp2_with fail
  with_reducible refine hCi.out.mono ?_
  rintro e w7 ⟨rfl, hb7⟩
  have HG7 := Lib.hid (HG6.out.below hb7)
  have B7 := Lib.hid (B6.out.trans (hb7.mono B6.out.size))
  clear hb7 HG6 B6 n0 n1 n2 n3 n4 ng hCi
  by_cases hk : ci = 0
  case neg =>
    have t0 : (ci != 0) = true := by simpa using hk
    go_wp2_with fail
    go_ret
    exact ⟨rfl, B7.out⟩
  subst hk
  have hmx : Hid (mayI x = true) := Lib.hid (by
    have := hci.out
    unfold chkI at this
    split at this
    · assumption
    · cases this)
  have hrf := Lib.hid (mayI_of hmx.out).1
  have hxi2 := Lib.hid (hIn.out).2
  obtain ⟨n0, n1, n2, n3, n4, ng⟩ := HG7.out.at 0 rfl
  go_upto_region 9 with fail
  obtain ⟨pb, hpb⟩ : ∃ b, decide (0 < x.2.1) = b := ⟨_, rfl⟩
  go_cut [55] from 53 to 55 (fun xc wx => xc = .bool pb ∧ w7 = wx)
  case first =>
    by_cases i1 : x.2.1 > 0
    · obtain rfl : pb = true := by rw [← hpb]; exact decide_eq_true (by omega)
      replace hpb := Lib.hid hpb
      go_wp2_with fail
      go_meet
      exact ⟨by simp, rfl⟩
    · obtain rfl : pb = false := by rw [← hpb]; exact decide_eq_false (by omega)
      replace hpb := Lib.hid hpb
      go_wp2_with fail
      go_meet
      exact ⟨by simp, rfl⟩
  case rest =>
  obtain ⟨rfl, rfl⟩ := hcut
  replace hpb := Lib.hid hpb
  go_upto_if 55 with fail
  go_cut [14] from 56 to 60 (fun xc wx => ∃ (A : Option Addr) (n c : Nat), xc = .slice A n c ∧ (heldI x).length = n ∧ rSl 1 (rK .i64) (Old wx) wx [.slice A n c] (heldI x) ∧ Below w7.heap.size w7 wx)
  case first =>
    cases pb with
    | false =>
      have hhe : Hid (heldI x = []) := Lib.hid (by have := of_decide_eq_false hpb.out; have := hrf.out; unfold heldI; rw [if_neg (by omega)])
      go_wp2_with fail
      go_meet
      exact ⟨none, 0, 0, rfl, by rw [hhe.out]; rfl, by rw [hhe.out]; exact nil_sl _ _, Below.refl _ _⟩
    | true =>
      have hhe : Hid (heldI x = [x.2.1]) := Lib.hid (by have := of_decide_eq_true hpb.out; have := hrf.out; unfold heldI; rw [if_pos (by omega)])
      obtain ⟨wA, hwA, gA, hsA, hBA⟩ := box_1 w7 (.int .i64 x.2.1) 3
      obtain ⟨A', c', w', hrun, hrel, hb⟩ := one_held w7.heap.size x.2.1 1 gA hxi2.out
      have HR := Lib.hid hrun
      have HL := Lib.hid hrel
      have HB := Lib.hid (hBA.trans (hb.mono hBA.size))
      replace hsA := Lib.hid hsA
      clear hrun hrel hb hBA gA
      go_wp2_with (at_builtin; refine wpList_append_run2 rfl _ _ _ _ rfl rfl rfl HR.out ?_; clear HR hwA)
      go_meet
      exact ⟨A', 1, c', rfl, by rw [hhe.out]; rfl, by rw [hhe.out]; exact HL.out, HB.out⟩
  case rest =>
  obtain ⟨w10, rfl⟩ : ∃ w10 : World, w10 = wc := ⟨_, rfl⟩
  obtain ⟨HA, hn, hc, rfl, hhl, hHr, hBH⟩ := hcut
  have HG10 := Lib.hid (HG7.out.below hBH)
  have B10 := Lib.hid (B7.out.trans (hBH.mono B7.out.size))
  have hHr' := Lib.hid hHr
  have hhl' := Lib.hid hhl
  clear hHr hhl hBH HG7 B7 n0 n1 n2 n3 n4 ng
  obtain ⟨wA, hwA, gA, hsA, hBA⟩ : ∃ w1, w10.alloc (.cells #[.int .i64 a, .int .i64 b] 3) = w1 ∧ w1.heap[w10.heap.size]? = some (.cells #[.int .i64 a, .int .i64 b] 3 (0, 0)) ∧ w1.heap.size = w10.heap.size + 1 ∧ Below w10.heap.size w10 w1 := ⟨_, rfl, heap_alloc_new _ _, by simp, (Below.refl _ _).alloc (Nat.le_refl _) _⟩
  have HGA := Lib.hid (HG10.out.below hBA)
  have BA := Lib.hid (B10.out.trans (hBA.mono B10.out.size))
  have hrt : Hid (∀ r ∈ [a, b], ckE s r = 0) := Lib.hid fun r hr => by
    simp only [List.mem_cons, List.not_mem_nil, or_false] at hr
    rcases hr with rfl | rfl
    · exact hck.out
    · exact hcb.out
  have hen := Lib.hid (enough_any qa qb qc qd s (some ⟨w10.heap.size, 0, none⟩) 2 2 [a, b] HA hn hc (heldI x) wA (HGA.out.at 2 rfl) (two_ints gA (ck_64 hck.out) (ck_64 hcb.out)) (sl_below hHr'.out hBA) rfl hhl'.out (by omega) (by omega) (by have := held_len x; have := hhl'.out; omega) hrt.out (held_256 x))
  replace hsA := Lib.hid hsA
  obtain ⟨k0, k1, k2, k3, kg⟩ := HG10.out.at 1 rfl
  clear gA hBA
  go_upto_region 11 with fail
  go_wp2_with fail
  with_reducible refine hen.out.mono ?_
  rintro e w11 ⟨V, res, hV1, hV2, hV3, rfl, hb11⟩
  have HG11 := Lib.hid (HGA.out.below hb11)
  have B11 := Lib.hid (BA.out.trans (hb11.mono BA.out.size))
  clear hb11 hen k0 k1 k2 k3 kg HGA BA HG10 B10
  cases res with
  | false =>
    go_wp2_with fail
    go_ret
    exact ⟨rfl, B11.out⟩
  | true =>
  have hEn := Lib.hid (And.intro hV1 (And.intro hV2 (hV3.1 rfl)))
  clear hV1 hV2 hV3
  have hPut := putPut_any qa qb qc qd s a x E ce w11 (HG11.out.at 2 rfl) (HG11.out.at 3 rfl)
  unfold itV at hPut
  replace hPut := Lib.hid hPut
  obtain ⟨k0, k1, k2, k3, kg⟩ := HG11.out.at 1 rfl
  obtain ⟨n0, n1, n2, n3, n4, ng⟩ := HG11.out.at 0 rfl
  go_upto_region 13 with fail
  go_wp2_with fail
  with_reducible refine hPut.out.mono ?_
  rintro e w12 ⟨l, ra, rb, rc, rd, hl8, rfl, hS8, hb8⟩
  have hR2 := Lib.hid (put_two_res hIn.out hmx.out hck.out hcb.out hl8 hEn.out.1 hEn.out.2.1 hEn.out.2.2)
  obtain ⟨X, hX⟩ : ∃ X, putS s a x l = X := ⟨_, rfl⟩
  obtain ⟨pe, ps, pn2⟩ := X
  rw [hX] at hS8 hR2 ⊢
  obtain ⟨w13, hw13, hg13, hB13, -, hs13⟩ := bag_four ((HG11.out.below hb8).add (F := OldR _ ps) hS8.drop (lasts_oldR _ _)) (Below.refl _ _) (.slice ra.1 ra.2.1 ra.2.2) (.slice rb.1 rb.2.1 rb.2.2) (.slice rc.1 rc.2.1 rc.2.2) (.slice rd.1 rd.2.1 rd.2.2) 29
  have HG13 := Lib.hid hg13
  have B13 := Lib.hid (B11.out.trans ((hb8.trans (hB13.mono hb8.size)).mono B11.out.size))
  replace hX := Lib.hid hX
  replace hs13 := Lib.hid hs13
  clear hS8 hb8 hB13 hg13 hl8 hPut k0 k1 k2 k3 kg n0 n1 n2 n3 n4 ng HG11 B11
  go_upto_region 14 with fail
  clear hw13
  by_cases hpe : pe = 0
  case neg =>
    have t0 : (pe != 0) = true := by simpa using hpe
    obtain ⟨m0, m1, m2, m3, mg⟩ := HG13.out.at 0 rfl
    rcases hR2.out with ⟨_, h3, h4⟩ | ⟨h0, _⟩
    case inr => exact absurd h0 hpe
    have hr0 : Hid (rc.2.1 = 0) := Lib.hid (by
      obtain ⟨_, hN, _⟩ := (HG13.out.at 1 rfl : Sto (Old w13) w13 (.agg #[.slice ra.1 ra.2.1 ra.2.2, .slice rb.1 rb.2.1 rb.2.2, .slice rc.1 rc.2.1 rc.2.2, .slice rd.1 rd.2.1 rd.2.2]) ps).parts
      rw [h4] at hN
      obtain ⟨A', cap', e, _, _, _⟩ := rBy_byt (B := w13.heap.size) (fun p hp => hp) hN
      simp only [Value.slice.injEq] at e
      exact e.2.1)
    have hc0 : ((rc.2.1 : Int) == 0) = true := by rw [hr0.out]; rfl
    clear h4
    rcases h3 with rfl | rfl | rfl
    · go_wp2_with fail
      go_ret
      exact ⟨rfl, B13.out⟩
    · go_wp2_with fail
      go_ret
      exact ⟨rfl, B13.out⟩
    · go_wp2_with fail
      go_ret
      exact ⟨rfl, B13.out⟩
  subst hpe
  have hR3 : Hid (ckE ps pn2 = 0 ∧ ckE ps b = 0 ∧ allO ps pn2 = putL (allO s a) x ∧ allO ps b = allO s b ∧ (ps.1.2.length : Int) ≤ s.1.2.length + 2 * ckH s a + 1 ∧ ∀ W : List Int, W.Nodup → (∀ n, n ∈ W ↔ ∃ r ∈ [pn2, b], n ∈ nodesO ps r) → ∀ i : Nat, 1 ≤ i → i < 256 → cntL [] i + cntL [pn2, b] i + sumD ps.1 W i ≤ cnt8 ps.2.1 i) := Lib.hid (by
    rcases hR2.out with ⟨h0, _⟩ | ⟨_, h⟩
    · exact absurd rfl h0
    · exact h)
  have hU := Lib.hid ((tree_all (ck_of hck.out).1).1)
  have hL6 := (tree_all (ck_of hck.out).1).2.1
  have hrL := Lib.hid (raV_all hck.out)
  obtain ⟨L, hL⟩ : ∃ q, allO s a = q := ⟨_, rfl⟩
  obtain ⟨n, hn⟩ : ∃ q, L.length = q := ⟨_, rfl⟩
  rw [hL] at hU hL6 hrL
  rw [hn] at hL6
  replace hL := Lib.hid hL
  have hn' := Lib.hid hn
  obtain ⟨k0, k1, k2, k3, kg⟩ := HG13.out.at 3 rfl
  have hAl := Lib.hid (all_ph qa qb qc qd hrL.out hn w13.heap.size w13 (Nat.le_refl _) (HG13.out.at 4 rfl))
  clear hn hR2
  go_upto_region 17 with fail
  go_wp2_with fail
  with_reducible refine hAl.out.mono ?_
  rintro e w0 ⟨_, rfl, ⟨U, uc, rfl, hUr⟩, hb0⟩
  have HG := Lib.hid (HG13.out.below hb0)
  have B0 := Lib.hid (B13.out.trans (hb0.mono B13.out.size))
  have HL := Lib.hid (fun k (z : It) (hk : L[k]? = some z) => its_low (stab_its.drop hUr) hk)
  have hXl := Lib.hid (itm_low (HG.out.at 5 rfl : Itm (Old w0) w0 (itV x (.slice E x.2.2.length ce)) x))
  clear hUr hb0 HG13 B13 k0 k1 k2 k3 kg hAl
  go_wp2_with fail
  go_loopw [18, 20, 21] (fun wv pv iv wr => ∃ (j : Nat) (A : Option Addr) (m c : Nat), j ≤ n ∧ iv = .int .i64 (j : Int) ∧ pv = .bool (putB x (L.take j)) ∧ wv = .slice A m c ∧ StayI w0.heap.size wr A m c (wantL x (L.take j)) ∧ Below w0.heap.size w0 wr) (fun _ _ iv _ => n - (intOf iv).toNat)
  case atStart => exact ⟨0, none, 0, 0, by omega, rfl, rfl, rfl, StayI.nil _ _ (Nat.le_refl _), Below.refl _ _⟩
  case round =>
    obtain ⟨j, A, m, c, hj, rfl, rfl, rfl, hSt, hB⟩ := hrel
    have hml : m ≤ n + 1 := by
      have h1 := hSt.len
      have h2 := wantL_few x (L.take j)
      rw [List.length_take] at h2
      omega
    have ST := Lib.hid hSt
    have BR := Lib.hid hB
    clear hSt hB
    obtain ⟨pb, hpb⟩ : ∃ q, putB x (L.take j) = q := ⟨_, rfl⟩
    rw [hpb]
    replace hpb := Lib.hid hpb
    by_cases hjn : j < n
    case neg =>
      obtain rfl : j = n := by omega
      have i5 : ¬ ((j : Int) < (j : Int)) := by omega
      have htk : Hid (L.take j = L) := Lib.hid (List.take_of_length_le (by have := hn'.out; omega))
      rw [htk.out] at ST hpb
      go_upto_if 140 with fail
      go_cut [18] from 141 to 144 (fun wv wx => ∃ (A' : Option Addr) (m' c' : Nat), wv = .slice A' m' c' ∧ StayI w0.heap.size wx A' m' c' (putL L x) ∧ Below w0.heap.size w0 wx)
      case first =>
        cases pb with
        | true =>
          have hwe : Hid (wantL x L = putL L x) := Lib.hid (by have := want_end x L; rw [hpb.out] at this; exact this)
          rw [hwe.out] at ST
          go_wp2_with fail
          go_meet
          exact ⟨A, m, c, rfl, ST.out, BR.out⟩
        | false =>
          have hwe : Hid (wantL x L ++ [x] = putL L x) := Lib.hid (by have := want_end x L; rw [hpb.out] at this; exact this)
          obtain ⟨wA, hwA, -, -, -, -, -, hsA, hBA, gA⟩ := box_five wr (.int .u8 (x.1.1.toNat : Int)) (.int .u32 x.1.2.1) (.int .u32 x.1.2.2) (.int .i64 x.2.1) (.slice E x.2.2.length ce) 40
          obtain ⟨A', c', w', hrun, hst, hb⟩ := (ST.out.below hBA).push wr.heap.size x (.slice E x.2.2.length ce) 1 gA (by omega) hIn.out (hXl.out wA (BR.out.trans (hBA.mono BR.out.size)))
          rw [hwe.out] at hst
          have HR := Lib.hid hrun
          have HS := Lib.hid hst
          have HB := Lib.hid ((BR.out.trans (hBA.mono BR.out.size)).trans hb)
          replace hsA := Lib.hid hsA
          obtain ⟨n0, n1, n2, n3, n4, ng⟩ := (HG.out.below BR.out).at 2 rfl
          clear hrun hst hb hBA gA
          go_wp2_with (at_builtin; refine wpList_append_run2 rfl _ _ _ _ rfl rfl rfl HR.out ?_; clear HR hwA)
          go_meet
          exact ⟨A', m + 1, c', rfl, HS.out, HB.out⟩
      case rest =>
      obtain ⟨wf, rfl⟩ : ∃ wf : World, wf = wc := ⟨_, rfl⟩
      obtain ⟨A', m', c', rfl, hSf, hBf⟩ := hcut
      have HGf := Lib.hid (HG.out.below hBf)
      have BF := Lib.hid (B0.out.trans (hBf.mono B0.out.size))
      have hmf := hSf.len
      have hSF := Lib.hid hSf
      clear hSf hBf
      obtain ⟨g1, g2, g3, g4, g5, g6⟩ := hR3.out
      have r1 := Lib.hid (raV_all g1)
      have r2 := Lib.hid (raV_all g2)
      have r3 := Lib.hid (raV_all hcb.out)
      have hlT := (tree_all (ck_of g1).1).2.1
      have hlO := (tree_all (ck_of hcb.out).1).2.1
      rw [hL.out] at g3
      rw [g3] at r1 hlT
      rw [g4] at r2
      obtain ⟨T, hT⟩ : ∃ q, putL L x = q := ⟨_, rfl⟩
      obtain ⟨O, hO⟩ : ∃ q, allO s b = q := ⟨_, rfl⟩
      obtain ⟨nO, hnO⟩ : ∃ q, O.length = q := ⟨_, rfl⟩
      rw [hT] at r1 hlT hmf hSF
      rw [hO] at r2 r3 hlO
      rw [hnO] at hlO
      rw [hmf] at hlT
      have hd1 := Lib.hid (decide_eq_true (rfl : T = T))
      have hd2 := Lib.hid (decide_eq_true (rfl : O = O))
      have hmf' := Lib.hid hmf
      have hnO' := Lib.hid hnO
      have hnow := root_in g1
      obtain ⟨f1, f2⟩ := ck_few hck.out
      rw [hhh.out] at f1 f2 g5
      obtain ⟨y1, y2⟩ := waits_len (HGf.out.at 1 rfl : Sto (Old wf) wf (.agg #[.slice ra.1 ra.2.1 ra.2.2, .slice rb.1 rb.2.1 rb.2.2, .slice rc.1 rc.2.1 rc.2.2, .slice rd.1 rd.2.1 rd.2.2]) ps)
      obtain ⟨y3, y4⟩ := waits_len (HGf.out.at 4 rfl : Sto (Old wf) wf (.agg #[.slice qa.1 qa.2.1 qa.2.2, .slice qb.1 qb.2.1 qb.2.2, .slice qc.1 qc.2.1 qc.2.2, .slice qd.1 qd.2.1 qd.2.2]) s)
      rw [← y1, ← y3] at g5
      have hE6 := Lib.hid g6
      have hck1 := Lib.hid g1
      have hck2 := Lib.hid g2
      obtain ⟨lr, hlr⟩ : ∃ q, rb.2.1 = q := ⟨_, rfl⟩
      obtain ⟨lq, hlq⟩ : ∃ q, qb.2.1 = q := ⟨_, rfl⟩
      rw [hlr, hlq] at g5
      rw [hlr] at y2
      rw [hlq] at y4
      have j1 : IntKind.i64.wrap ((lr : Int) - (lq : Int)) = (lr : Int) - (lq : Int) := IntWalk.i64_in _ (by omega)
      have j2 : IntKind.i64.wrap (2 * hh) = 2 * hh := IntWalk.i64_in _ (by omega)
      have j3 : IntKind.i64.wrap (2 * hh + 1) = 2 * hh + 1 := IntWalk.i64_in _ (by omega)
      have j4 : (lr : Int) - (lq : Int) ≤ 2 * hh + 1 := by omega
      have hlr' := Lib.hid hlr
      have hlq' := Lib.hid hlq
      clear hlr hlq y1 y3 g1 g2 g3 g4 g5 g6 hmf hnO
      replace hT := Lib.hid hT
      replace hO := Lib.hid hO
      go_upto_region 29 with fail
      refine wp_region_fx (by kernel_rfl) (fun W => Below wf.heap.size wf W) (fun i => match i with
          | 4 => some (PhAll wf.heap.size m' T)
          | 11 => some (PhAll wf.heap.size nO O)
          | 14 => some (PhAll wf.heap.size nO O)
          | 21 => some (PhTwo pn2 b)
          | _ => none) (fun i => match i with
          | 6 => some (.bool true)
          | 15 => some (.bool true)
          | 22 => some (.bool true)
          | _ => none) (by kernel_rfl) (Below.refl _ _).drew (fun w w' h hb => h.trans (hb.mono h.size)) (fun j φ x W W' hp hx hb => by
            match j, hp with
            | 4, hp => cases hp; exact hx.below hb
            | 11, hp => cases hp; exact hx.below hb
            | 14, hp => cases hp; exact hx.below hb
            | 21, hp => cases hp; exact hx.below hb) ?_
      repeat (first
        | (refine wpAs_skip rfl ?_; simp only [Act.put, List.setIfInBounds_toArray, List.set_cons_zero, List.set_cons_succ])
        | (refine wpAs_pure (v := ?_) rfl rfl ?_ ?_; rotate_left; (intro W hC hE; clear hE; (obtain ⟨m0, m1, m2, m3, mg⟩ := (HGf.out.below hC).at 0 rfl); clear hC; go_simp; done); simp only [Act.put, List.setIfInBounds_toArray, List.set_cons_zero, List.set_cons_succ])
        | (refine wpAs_pure (v := ?_) rfl rfl ?_ ?_; rotate_left; (intro W hC hE; clear hE; (obtain ⟨m0, m1, m2, m3, mg⟩ := (HGf.out.below hC).at 0 rfl); clear hC; go_simp; with_reducible rfl); simp only [Act.put, List.setIfInBounds_toArray, List.set_cons_zero, List.set_cons_succ]))
      refine wpAs_act rfl rfl ?_ ?_
      · intro W hC hE
        clear hE
        refine does_enter (f := 18) (args := #[.agg #[.slice ra.1 ra.2.1 ra.2.2, .slice rb.1 rb.2.1 rb.2.2, .slice rc.1 rc.2.1 rc.2.2, .slice rd.1 rd.2.1 rd.2.2], .int .i64 pn2]) ?_ ?_
        · go_simp
        · exact all_ph ra rb rc rd r1.out hmf'.out wf.heap.size W hC.size ((HGf.out.below hC).at 1 rfl)
      simp only [Act.put, List.setIfInBounds_toArray, List.set_cons_zero, List.set_cons_succ, envAdd]
      intro x4
      repeat (first
        | (refine wpAs_skip rfl ?_; simp only [Act.put, List.setIfInBounds_toArray, List.set_cons_zero, List.set_cons_succ])
        | (refine wpAs_pure (v := ?_) rfl rfl ?_ ?_; rotate_left; (intro W hC hE; clear hE; skip; clear hC; go_simp; done); simp only [Act.put, List.setIfInBounds_toArray, List.set_cons_zero, List.set_cons_succ])
        | (refine wpAs_pure (v := ?_) rfl rfl ?_ ?_; rotate_left; (intro W hC hE; clear hE; skip; clear hC; go_simp; with_reducible rfl); simp only [Act.put, List.setIfInBounds_toArray, List.set_cons_zero, List.set_cons_succ]))
      refine wpAs_fixed rfl rfl rfl ?_ ?_
      · intro W hC hE
        have h1 := hE.1 rfl
        clear hE
        refine does_enter (f := 20) (args := #[x4, .slice A' m' c']) ?_ ?_
        · go_simp
        · refine (same_stay h1 (hSF.out.below hC) hmf'.out hmf'.out (by omega) (by omega) hd1.out).mono ?_
          rintro e W' ⟨rfl, hg⟩
          exact ⟨_, rfl, rfl, hg⟩
      simp only [Act.put, List.setIfInBounds_toArray, List.set_cons_zero, List.set_cons_succ]
      repeat (first
        | (refine wpAs_skip rfl ?_; simp only [Act.put, List.setIfInBounds_toArray, List.set_cons_zero, List.set_cons_succ])
        | (refine wpAs_pure (v := ?_) rfl rfl ?_ ?_; rotate_left; (intro W hC hE; clear hE; (obtain ⟨m0, m1, m2, m3, mg⟩ := (HGf.out.below hC).at 0 rfl); clear hC; go_simp; done); simp only [Act.put, List.setIfInBounds_toArray, List.set_cons_zero, List.set_cons_succ])
        | (refine wpAs_pure (v := ?_) rfl rfl ?_ ?_; rotate_left; (intro W hC hE; clear hE; (obtain ⟨m0, m1, m2, m3, mg⟩ := (HGf.out.below hC).at 0 rfl); clear hC; go_simp; with_reducible rfl); simp only [Act.put, List.setIfInBounds_toArray, List.set_cons_zero, List.set_cons_succ]))
      refine wpAs_act rfl rfl ?_ ?_
      · intro W hC hE
        clear hE
        refine does_enter (f := 18) (args := #[.agg #[.slice ra.1 ra.2.1 ra.2.2, .slice rb.1 rb.2.1 rb.2.2, .slice rc.1 rc.2.1 rc.2.2, .slice rd.1 rd.2.1 rd.2.2], .int .i64 b]) ?_ ?_
        · go_simp
        · exact all_ph ra rb rc rd r2.out hnO'.out wf.heap.size W hC.size ((HGf.out.below hC).at 1 rfl)
      simp only [Act.put, List.setIfInBounds_toArray, List.set_cons_zero, List.set_cons_succ, envAdd]
      intro x11
      repeat (first
        | (refine wpAs_skip rfl ?_; simp only [Act.put, List.setIfInBounds_toArray, List.set_cons_zero, List.set_cons_succ])
        | (refine wpAs_pure (v := ?_) rfl rfl ?_ ?_; rotate_left; (intro W hC hE; clear hE; (obtain ⟨k0, k1, k2, k3, kg⟩ := (HGf.out.below hC).at 3 rfl); clear hC; go_simp; done); simp only [Act.put, List.setIfInBounds_toArray, List.set_cons_zero, List.set_cons_succ])
        | (refine wpAs_pure (v := ?_) rfl rfl ?_ ?_; rotate_left; (intro W hC hE; clear hE; (obtain ⟨k0, k1, k2, k3, kg⟩ := (HGf.out.below hC).at 3 rfl); clear hC; go_simp; with_reducible rfl); simp only [Act.put, List.setIfInBounds_toArray, List.set_cons_zero, List.set_cons_succ]))
      refine wpAs_act rfl rfl ?_ ?_
      · intro W hC hE
        clear hE
        refine does_enter (f := 18) (args := #[.agg #[.slice qa.1 qa.2.1 qa.2.2, .slice qb.1 qb.2.1 qb.2.2, .slice qc.1 qc.2.1 qc.2.2, .slice qd.1 qd.2.1 qd.2.2], .int .i64 b]) ?_ ?_
        · go_simp
        · exact all_ph qa qb qc qd r3.out hnO'.out wf.heap.size W hC.size ((HGf.out.below hC).at 4 rfl)
      simp only [Act.put, List.setIfInBounds_toArray, List.set_cons_zero, List.set_cons_succ, envAdd]
      intro x14
      refine wpAs_fixed rfl rfl rfl ?_ ?_
      · intro W hC hE
        have h1 := hE.2.1 rfl
        have h2 := hE.1 rfl
        clear hE
        refine does_enter (f := 20) (args := #[x11, x14]) ?_ ?_
        · go_simp
        · refine (same_ph h1 h2 hnO'.out hnO'.out (by omega) (by omega) hd2.out).mono ?_
          rintro e W' ⟨rfl, hg⟩
          exact ⟨_, rfl, rfl, hg⟩
      simp only [Act.put, List.setIfInBounds_toArray, List.set_cons_zero, List.set_cons_succ]
      repeat (first
        | (refine wpAs_skip rfl ?_; simp only [Act.put, List.setIfInBounds_toArray, List.set_cons_zero, List.set_cons_succ])
        | (refine wpAs_pure (v := ?_) rfl rfl ?_ ?_; rotate_left; (intro W hC hE; clear hE; (obtain ⟨m0, m1, m2, m3, mg⟩ := (HGf.out.below hC).at 0 rfl); clear hC; go_simp; done); simp only [Act.put, List.setIfInBounds_toArray, List.set_cons_zero, List.set_cons_succ])
        | (refine wpAs_pure (v := ?_) rfl rfl ?_ ?_; rotate_left; (intro W hC hE; clear hE; (obtain ⟨m0, m1, m2, m3, mg⟩ := (HGf.out.below hC).at 0 rfl); clear hC; go_simp; with_reducible rfl); simp only [Act.put, List.setIfInBounds_toArray, List.set_cons_zero, List.set_cons_succ]))
      refine wpAs_act rfl rfl ?_ ?_
      · intro W hC hE
        clear hE
        go_simp
        exact ⟨⟨W.heap.size, rfl, heap_alloc_new _ _⟩, (Below.refl _ _).alloc (Nat.le_refl _) _⟩
      simp only [Act.put, List.setIfInBounds_toArray, List.set_cons_zero, List.set_cons_succ, envAdd]
      intro x21
      refine wpAs_fixed rfl rfl rfl ?_ ?_
      · intro W hC hE
        obtain ⟨g, rfl, hg2⟩ := hE.1 rfl
        clear hE
        refine does_enter (f := 17) (args := #[.agg #[.slice ra.1 ra.2.1 ra.2.2, .slice rb.1 rb.2.1 rb.2.2, .slice rc.1 rc.2.1 rc.2.2, .slice rd.1 rd.2.1 rd.2.2], .slice (some ⟨g, 0, none⟩) 2 2, .slice none 0 0]) ?_ ?_
        · go_simp
        · refine (enough_any ra rb rc rd ps (some ⟨g, 0, none⟩) 2 2 [pn2, b] none 0 0 [] W ((HGf.out.below hC).at 1 rfl) (two_ints hg2 (ck_64 hck1.out) (ck_64 hcb.out)) (nil_sl _ _) rfl rfl (by omega) (by omega) (by omega) (fun r hr => by
            simp only [List.mem_cons, List.not_mem_nil, or_false] at hr
            rcases hr with rfl | rfl
            · exact hck1.out
            · exact hck2.out) (fun z hz => by cases hz)).mono ?_
          rintro e W' ⟨V, res, v1, v2, v3, rfl, hg⟩
          have : res = true := v3.2 (hE6.out V v1 v2)
          subst this
          exact ⟨_, rfl, rfl, hg⟩
      simp only [Act.put, List.setIfInBounds_toArray, List.set_cons_zero, List.set_cons_succ]
      repeat (first
        | (refine wpAs_skip rfl ?_; simp only [Act.put, List.setIfInBounds_toArray, List.set_cons_zero, List.set_cons_succ])
        | (refine wpAs_pure (v := ?_) rfl rfl ?_ ?_; rotate_left; (intro W hC hE; clear hE; (obtain ⟨m0, m1, m2, m3, mg⟩ := (HGf.out.below hC).at 0 rfl; obtain ⟨k0, k1, k2, k3, kg⟩ := (HGf.out.below hC).at 3 rfl; rw [hlr'.out] at m1; rw [hlq'.out] at k1); clear hC; go_simp; done); simp only [Act.put, List.setIfInBounds_toArray, List.set_cons_zero, List.set_cons_succ])
        | (refine wpAs_pure (v := ?_) rfl rfl ?_ ?_; rotate_left; (intro W hC hE; clear hE; (obtain ⟨m0, m1, m2, m3, mg⟩ := (HGf.out.below hC).at 0 rfl; obtain ⟨k0, k1, k2, k3, kg⟩ := (HGf.out.below hC).at 3 rfl; rw [hlr'.out] at m1; rw [hlq'.out] at k1); clear hC; go_simp; with_reducible rfl); simp only [Act.put, List.setIfInBounds_toArray, List.set_cons_zero, List.set_cons_succ]))
      refine wpAs_end fun W hC hE => ?_
      have BW := Lib.hid (BF.out.trans (hC.mono BF.out.size))
      clear hE hC
      go_wp2_with fail
      go_ret
      exact ⟨rfl, BW.out⟩
    obtain ⟨z, hz⟩ : ∃ z, L[j]? = some z := ⟨_, List.getElem?_eq_getElem (by rw [hn'.out]; exact hjn)⟩
    obtain ⟨ad, E5, ce5, rfl, hin5, FZ0⟩ := HL.out j z hz
    have FZ := Lib.hid FZ0
    have hsnoc := Lib.hid (want_snoc (x := x) (L := L.take j) (y := z) (by
      have : L.take j ++ [z] = L.take (j + 1) := by rw [List.take_add_one, hz]; rfl
      rw [this]
      exact hU.out.sublist (List.take_sublist _ _)))
    have hbsn := Lib.hid (putB_snoc x (L.take j) z)
    have htk : Hid (L.take (j + 1) = L.take j ++ [z]) := Lib.hid (by rw [List.take_add_one, hz]; rfl)
    rw [hpb.out, ← htk.out] at hsnoc hbsn
    obtain ⟨bl, hbl⟩ : ∃ q, lessK z.1 x.1 = q := ⟨_, rfl⟩
    rw [hbl] at hsnoc hbsn
    obtain ⟨M, hM⟩ : ∃ q, wantL x (L.take j) = q := ⟨_, rfl⟩
    rw [hM] at ST hsnoc
    replace hM := Lib.hid hM
    have i4 : (0 : Int) ≤ (j : Int) := by omega
    have i5 : (j : Int) < (n : Int) := by omega
    have hin5' := Lib.hid hin5
    replace hz := Lib.hid hz
    clear FZ0 hin5
    go_upto_region 22 with fail
    go_cut [119] from 107 to 119 (fun xc wx => xc = .bool (!pb && !bl) ∧ Below wr.heap.size wr wx)
    case first =>
      replace hbl := Lib.hid hbl
      cases pb with
      | true =>
        refine wp_region_fx (by kernel_rfl) (fun W => Below wr.heap.size wr W) (fun _ => none) (fun _ => none) (by kernel_rfl) (Below.refl _ _).drew (fun w w' h hb => h.trans (hb.mono h.size)) (fun j φ x W W' hp => by cases hp) ?_
        iterate 1 (first
          | (refine wpAs_skip rfl ?_; simp only [Act.put, List.setIfInBounds_toArray, List.set_cons_zero, List.set_cons_succ])
          | (refine wpAs_pure (v := ?_) rfl rfl ?_ ?_; rotate_left; (intro W hC hE; clear hE; skip; clear hC; go_simp; with_reducible rfl); simp only [Act.put, List.setIfInBounds_toArray, List.set_cons_zero, List.set_cons_succ]))
        refine wpAs_pure_jump (v := .bool false) 0 rfl rfl rfl ?_ (by kernel_rfl) ?_
        · intro W hC hE
          clear hE hC
          first
            | (go_simp; done)
            | (go_simp; simp; omega)
            | (go_simp; simp_all; done)
        simp only [skipN, Act.put, List.drop_zero, List.setIfInBounds_toArray, List.set_cons_zero, List.set_cons_succ]
        refine wpAs_pure_jump (v := .bool false) 9 rfl rfl rfl ?_ (by kernel_rfl) ?_
        · intro W hC hE
          clear hE hC
          first
            | (go_simp; done)
            | (go_simp; simp; omega)
            | (go_simp; simp_all; done)
        simp only [skipN, Act.put, List.drop_succ_cons, List.drop_zero, List.setIfInBounds_toArray, List.set_cons_zero, List.set_cons_succ]
        iterate 1 (first
          | (refine wpAs_skip rfl ?_; simp only [Act.put, List.setIfInBounds_toArray, List.set_cons_zero, List.set_cons_succ])
          | (refine wpAs_pure (v := ?_) rfl rfl ?_ ?_; rotate_left; (intro W hC hE; clear hE; skip; clear hC; go_simp; with_reducible rfl); simp only [Act.put, List.setIfInBounds_toArray, List.set_cons_zero, List.set_cons_succ]))
        refine wpAs_end fun W hC hE => ?_
        have hC' := Lib.hid hC
        clear hE hC
        go_wp2_with fail
        go_meet
        exact ⟨rfl, hC'.out⟩
      | false =>
        refine wp_region_fx (by kernel_rfl) (fun W => Below wr.heap.size wr W) (fun _ => none) (fun i => match i with
          | 10 => some (.bool bl)
          | _ => none) (by kernel_rfl) (Below.refl _ _).drew (fun w w' h hb => h.trans (hb.mono h.size)) (fun j φ x W W' hp => by cases hp) ?_
        repeat (first
          | (refine wpAs_skip rfl ?_; simp only [Act.put, List.setIfInBounds_toArray, List.set_cons_zero, List.set_cons_succ])
          | (refine wpAs_pure (v := ?_) rfl rfl ?_ ?_; rotate_left; (intro W hC hE; clear hE; (obtain ⟨⟨z0, z1, z2, z3, z4⟩, _⟩ := FZ.out W (BR.out.trans (hC.mono BR.out.size)); obtain ⟨n0, n1, n2, n3, n4, ng⟩ := (HG.out.below (BR.out.trans (hC.mono BR.out.size))).at 2 rfl); clear hC; go_simp; done); simp only [Act.put, List.setIfInBounds_toArray, List.set_cons_zero, List.set_cons_succ])
          | (refine wpAs_pure (v := ?_) rfl rfl ?_ ?_; rotate_left; (intro W hC hE; clear hE; (obtain ⟨⟨z0, z1, z2, z3, z4⟩, _⟩ := FZ.out W (BR.out.trans (hC.mono BR.out.size)); obtain ⟨n0, n1, n2, n3, n4, ng⟩ := (HG.out.below (BR.out.trans (hC.mono BR.out.size))).at 2 rfl); clear hC; go_simp; with_reducible rfl); simp only [Act.put, List.setIfInBounds_toArray, List.set_cons_zero, List.set_cons_succ]))
        refine wpAs_fixed rfl rfl rfl ?_ ?_
        · intro W hC hE
          refine does_enter (f := 19) (args := #[kyV z.1, kyV x.1]) ?_ ?_
          · go_simp
          · refine (less_any z.1 x.1 W).mono ?_
            (rintro e W' ⟨rfl, hg⟩; rw [hbl.out])
            exact ⟨_, rfl, rfl, hg⟩
        simp only [Act.put, List.setIfInBounds_toArray, List.set_cons_zero, List.set_cons_succ]
        repeat (first
          | (refine wpAs_skip rfl ?_; simp only [Act.put, List.setIfInBounds_toArray, List.set_cons_zero, List.set_cons_succ])
          | (refine wpAs_pure (v := ?_) rfl rfl ?_ ?_; rotate_left; (intro W hC hE; clear hE; skip; clear hC; go_simp; done); simp only [Act.put, List.setIfInBounds_toArray, List.set_cons_zero, List.set_cons_succ])
          | (refine wpAs_pure (v := ?_) rfl rfl ?_ ?_; rotate_left; (intro W hC hE; clear hE; skip; clear hC; go_simp; with_reducible rfl); simp only [Act.put, List.setIfInBounds_toArray, List.set_cons_zero, List.set_cons_succ]))
        refine wpAs_end fun W hC hE => ?_
        have hC' := Lib.hid hC
        clear hE hC
        go_wp2_with fail
        go_meet
        exact ⟨rfl, hC'.out⟩
    case rest =>
    obtain ⟨wX, rfl⟩ : ∃ wX : World, wX = wc := ⟨_, rfl⟩
    obtain ⟨rfl, hbX⟩ := hcut
    have BX := Lib.hid (BR.out.trans (hbX.mono BR.out.size))
    have SX := Lib.hid (ST.out.below hbX)
    clear hbX ST BR
    obtain ⟨cc, hcc⟩ : ∃ q, (!pb && !bl) = q := ⟨_, rfl⟩
    rw [hcc]
    replace hbl := Lib.hid hbl
    go_upto_if 119 with fail
    go_cut [18, 20] from 120 to 123 (fun wv pv wx => ∃ (A' : Option Addr) (m' c' : Nat), wv = .slice A' m' c' ∧ pv = .bool (pb || !bl) ∧ StayI w0.heap.size wx A' m' c' (if pb = false ∧ bl = false then M ++ [x] else M) ∧ Below w0.heap.size w0 wx ∧ m' ≤ m + 1)
    case first =>
      cases cc with
      | false =>
        have hpv : Hid (pb = (pb || !bl) ∧ ¬ (pb = false ∧ bl = false)) := Lib.hid (by revert hcc; cases pb <;> cases bl <;> simp)
        replace hcc := Lib.hid hcc
        go_wp2_with fail
        go_meet
        exact ⟨A, m, c, rfl, by rw [← hpv.out.1], by rw [if_neg hpv.out.2]; exact SX.out, BX.out, by omega⟩
      | true =>
        have hpv : Hid (true = (pb || !bl) ∧ (pb = false ∧ bl = false)) := Lib.hid (by revert hcc; cases pb <;> cases bl <;> simp)
        replace hcc := Lib.hid hcc
        obtain ⟨wA, hwA, -, -, -, -, -, hsA, hBA, gA⟩ := box_five wX (.int .u8 (x.1.1.toNat : Int)) (.int .u32 x.1.2.1) (.int .u32 x.1.2.2) (.int .i64 x.2.1) (.slice E x.2.2.length ce) 40
        obtain ⟨A', c', w', hrun, hst, hb⟩ := (SX.out.below hBA).push wX.heap.size x (.slice E x.2.2.length ce) 1 gA (by omega) hIn.out (hXl.out wA (BX.out.trans (hBA.mono BX.out.size)))
        have HR := Lib.hid hrun
        have HS := Lib.hid hst
        have HB := Lib.hid ((BX.out.trans (hBA.mono BX.out.size)).trans hb)
        replace hsA := Lib.hid hsA
        obtain ⟨n0, n1, n2, n3, n4, ng⟩ := (HG.out.below BX.out).at 2 rfl
        clear hrun hst hb hBA gA
        go_wp2_with (at_builtin; refine wpList_append_run2 rfl _ _ _ _ rfl rfl rfl HR.out ?_; clear HR hwA)
        go_meet
        exact ⟨A', m + 1, c', rfl, by rw [← hpv.out.1], by rw [if_pos hpv.out.2]; exact HS.out, HB.out, by omega⟩
    case rest =>
    obtain ⟨wY, rfl⟩ : ∃ wY : World, wY = wc := ⟨_, rfl⟩
    obtain ⟨A2, m2, c2, rfl, rfl, hSY, hBY, hm2⟩ := hcut
    have SY := Lib.hid hSY
    have BY := Lib.hid hBY
    clear hSY hBY SX BX
    obtain ⟨M2, hM2⟩ : ∃ q, (if pb = false ∧ bl = false then M ++ [x] else M) = q := ⟨_, rfl⟩
    rw [hM2] at SY hsnoc
    replace hM2 := Lib.hid hM2
    replace hcc := Lib.hid hcc
    have hke := key_eq z.1 x.1
    have hkg := key_guard
    unfold kyV at hke
    obtain ⟨b3, hb3⟩ : ∃ b, decide (z.1 = x.1) = b := ⟨_, rfl⟩
    rw [hb3] at hke
    replace hb3 := Lib.hid hb3
    go_upto_region 25 with fail
    go_cut [131] from 124 to 131 (fun xc wx => xc = .bool (!b3) ∧ Below wY.heap.size wY wx)
    case first =>
      refine wp_region_fx (by kernel_rfl) (fun W => Below wY.heap.size wY W) (fun _ => none) (fun _ => none) (by kernel_rfl) (Below.refl _ _).drew (fun w w' h hb => h.trans (hb.mono h.size)) (fun j φ x W W' hp => by cases hp) ?_
      repeat (first
        | (refine wpAs_skip rfl ?_; simp only [Act.put, List.setIfInBounds_toArray, List.set_cons_zero, List.set_cons_succ])
        | (refine wpAs_pure (v := ?_) rfl rfl ?_ ?_; rotate_left; (intro W hC hE; clear hE; (obtain ⟨⟨z0, z1, z2, z3, z4⟩, _⟩ := FZ.out W (BY.out.trans (hC.mono BY.out.size)); obtain ⟨n0, n1, n2, n3, n4, ng⟩ := (HG.out.below (BY.out.trans (hC.mono BY.out.size))).at 2 rfl); clear hC; go_simp; done); simp only [Act.put, List.setIfInBounds_toArray, List.set_cons_zero, List.set_cons_succ])
        | (refine wpAs_pure (v := ?_) rfl rfl ?_ ?_; rotate_left; (intro W hC hE; clear hE; (obtain ⟨⟨z0, z1, z2, z3, z4⟩, _⟩ := FZ.out W (BY.out.trans (hC.mono BY.out.size)); obtain ⟨n0, n1, n2, n3, n4, ng⟩ := (HG.out.below (BY.out.trans (hC.mono BY.out.size))).at 2 rfl); clear hC; go_simp; with_reducible rfl); simp only [Act.put, List.setIfInBounds_toArray, List.set_cons_zero, List.set_cons_succ]))
      refine wpAs_end fun W hC hE => ?_
      have hC' := Lib.hid hC
      clear hE hC
      go_wp2_with fail
      go_meet
      exact ⟨rfl, hC'.out⟩
    case rest =>
    obtain ⟨wZ, rfl⟩ : ∃ wZ : World, wZ = wc := ⟨_, rfl⟩
    obtain ⟨rfl, hbZ⟩ := hcut
    have BZ := Lib.hid (BY.out.trans (hbZ.mono BY.out.size))
    have SZ := Lib.hid (SY.out.below hbZ)
    clear hbZ SY BY hke hkg
    obtain ⟨b4, hb4⟩ : ∃ q, (!b3) = q := ⟨_, rfl⟩
    rw [hb4]
    go_upto_if 131 with fail
    cases b4 with
    | false =>
      have hpv : Hid (z.1 = x.1) := Lib.hid (of_decide_eq_true (by rw [hb3.out]; revert hb4; cases b3 <;> simp))
      replace hb4 := Lib.hid hb4
      rw [if_pos hpv.out, List.append_nil] at hsnoc
      go_wp2_with fail
      go_roundw
      case rel => exact ⟨j + 1, A2, m2, c2, by omega, by go_num, by rw [hbsn.out], rfl, by rw [hsnoc.out]; exact SZ.out, BZ.out⟩
      case measure => simp [intOf]; omega
    | true =>
      have hpv : Hid (¬ z.1 = x.1) := Lib.hid (of_decide_eq_false (by rw [hb3.out]; revert hb4; cases b3 <;> simp))
      replace hb4 := Lib.hid hb4
      rw [if_neg hpv.out] at hsnoc
      obtain ⟨wA, hwA, -, -, -, -, -, hsA, hBA, gA⟩ := box_five wZ (.int .u8 (z.1.1.toNat : Int)) (.int .u32 z.1.2.1) (.int .u32 z.1.2.2) (.int .i64 z.2.1) (.slice E5 z.2.2.length ce5) 40
      obtain ⟨⟨z0, z1, z2, z3, z4⟩, _⟩ := FZ.out wZ BZ.out
      obtain ⟨A', c', w', hrun, hst, hb⟩ := (SZ.out.below hBA).push wZ.heap.size z (.slice E5 z.2.2.length ce5) 1 gA (by omega) hin5'.out (FZ.out wA (BZ.out.trans (hBA.mono BZ.out.size))).2
      have HR := Lib.hid hrun
      have HS := Lib.hid hst
      have HB := Lib.hid ((BZ.out.trans (hBA.mono BZ.out.size)).trans hb)
      replace hsA := Lib.hid hsA
      clear hrun hst hb hBA gA
      go_wp2_with (at_builtin; refine wpList_append_run2 rfl _ _ _ _ rfl rfl rfl HR.out ?_; clear HR hwA)
      go_roundw
      case rel => exact ⟨j + 1, A', m2 + 1, c', by omega, by go_num, by rw [hbsn.out], rfl, by rw [hsnoc.out]; exact HS.out, HB.out⟩
      case measure => simp [intOf]; omega


/-! ### The row's step -/
set_option maxRecDepth 100000 in
theorem lifted (os : Os) (started : os.Started) (H : Type) (enc : TypeId × Value → H) :
    ReturnsInHanded {} Tryz.checked os 4 .any (Rows.putItemsSpec.pre6 enc Tryz.prog Tryz.f4 Rows.putItemsRow.domain false) (Rows.putItemsSpec.post enc Tryz.prog Tryz.f4 false true false false) := by
  refine returnsInHanded_of_change (C := Tryz.checked) own started (by kernel_rfl) Tryz.func4
    (ChangeSpec.witness6 (enc := enc) (C := Tryz.checked) false ⟨#[], #[.agg #[.slice none 0 0, .slice none 0 0, .slice none 0 0, .slice none 0 0], .int .i64 0, .int .i64 0, .agg #[.int .u8 0, .int .u32 0, .int .u32 0, .int .i64 0, .slice none 0 0]], []⟩ 8 (by kernel_rfl) (by kernel_rfl) (by kernel_rfl) (by kernel_rfl)) ?_
  intro W base args ds gs before hval0 hW _ _
  have hval : ∀ (j : Nat) t v, Tryz.f4.params[j]? = some t → args[j]? = some v → Value.okWide Tryz.prog W .any base t v := hval0
  have hW' := hW
  obtain ⟨p, q, hA0, hV, _, _, _⟩ := hW
  have hA : DataW.TrodAll enc Tryz.prog W 0 (fun _ => true) true Tryz.f4.params.toList args.toList ds p := hA0
  rw [Tryz.params4] at hA hval
  obtain ⟨v0, vs0, d0, ds0, p0, q0, hargs, rfl, _, h0, r0⟩ := trodAll_cons hA
  obtain ⟨v1, vs1, d1, ds1, p1, q1, rfl, rfl, _, h1, r1⟩ := trodAll_cons r0
  obtain ⟨v2, vs2, d2, ds2, p2, q2, rfl, rfl, _, h2, r2⟩ := trodAll_cons r1
  obtain ⟨v3, vs3, d3, ds3, p3, q3, rfl, rfl, _, h3, r3⟩ := trodAll_cons r2
  obtain ⟨rfl, rfl, _⟩ := trodAll_nil r3
  obtain rfl : args = #[v0, v1, v2, v3] := by cases args; simp_all
  obtain ⟨rfl, _⟩ := trodVars_none hV
  obtain ⟨d0x, y0⟩ := open_store (hval 0 29 v0 rfl rfl) h0
  obtain ⟨a1, rfl, _, _, w1⟩ := open_int Tryz.underlying3 (hval 1 3 v1 rfl rfl) h1
  obtain ⟨a2, rfl, _, _, w2⟩ := open_int Tryz.underlying3 (hval 2 3 v2 rfl rfl) h2
  obtain ⟨d3x, y3⟩ := open_item (hval 3 40 v3 rfl rfl) h3
  clear hA0 hval0
  refine (walk v0 d0x a1 w1 a2 w2 v3 d3x W y0 y3).mono fun e W' ⟨he, hb⟩ => ?_
  subst he
  exact ⟨_, rfl, law_post laidOut (by rw [Tryz.params4]; decide +kernel) (by kernel_rfl) Tryz.underlying4 rfl ⟨rfl, by simp [Rows.putItemsSpec], rfl⟩ hW' hb⟩

theorem over : Rows.putItemsRow.holds Tryz.pinned (OpenSpec.ofChange Rows.putItemsSpec) :=
  OpenClaim.holds_of_wide 4 Tryz.f4 rfl rfl rfl rfl rfl rfl rfl ⟨rfl, rfl, rfl, rfl, rfl⟩ rfl rfl rfl rfl rfl (by kernel_rfl) Tryz.func4 (by kernel_rfl)
    (of_decide_eq_true (by kernel_rfl)) (by unfold Func.isWrapper; first | (rw [if_pos (by decide +kernel)]; kernel_rfl) | (rw [if_neg (by decide +kernel)]; exact ⟨rfl, rfl⟩))
    (fun os started H enc _ => lifted os started H enc)

end Go.Proofs.YtogieepfimpdmaaGreat.putItems
namespace Go.Proofs.YtogieepfimpdmaaGreat
theorem putItems_proved : Rows.PutItemsSaid := putItems.over
end Go.Proofs.YtogieepfimpdmaaGreat
