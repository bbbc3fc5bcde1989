/-
  For every store, root, item and key PutTells answers true and leaves its arguments as they were. No condition.
-/
import Derived.Test.YtogieepfimpdmaaGreatBnd6
import Derived.Deep.CutRange
namespace Go.Proofs.YtogieepfimpdmaaGreat.putTells
open Go.ChangeShapes Go.WideShapes Go.RowKit

theorem own : ownKnob Tryz.prog.godebug = none := by kernel_rfl
theorem laidOut : laidOutB Tryz.prog = true := by kernel_rfl

set_option maxRecDepth 100000 in
set_option maxHeartbeats 8000000 in
theorem walk (v : Value) (s : Rm) (a : Int) (_hn : (Lit.int .i64 a).wf = true) (u : Value) (x : It) (kk : Ky) (w : World) (h : Sto (Old w) w v s) (hu : Itm (Old w) w u x) :
    Calls Tryz.prog 5 #[v, .int .i64 a, u, kyV kk] w fun e w' => e = .returned (.bool true) ∧ Below w.heap.size w w' := by
  clear _hn
  obtain ⟨qa, qb, qc, qd, rfl⟩ : ∃ qa qb qc qd : Option Addr × Nat × Nat, v = .agg #[.slice qa.1 qa.2.1 qa.2.2, .slice qb.1 qb.2.1 qb.2.2, .slice qc.1 qc.2.1 qc.2.2, .slice qd.1 qd.2.1 qd.2.2] := by
    obtain ⟨A, ca, B, cb, N, cn, L, cl, rfl, _⟩ := h.open
    exact ⟨(A, _, ca), (B, _, cb), (N, _, cn), (L, _, cl), rfl⟩
  obtain ⟨E, ce, rfl, hxi, -, -, -⟩ := id hu.open
  have HG0 : Bag w [OldR (.agg #[.slice qa.1 qa.2.1 qa.2.2, .slice qb.1 qb.2.1 qb.2.2, .slice qc.1 qc.2.1 qc.2.2, .slice qd.1 qd.2.1 qd.2.2]) s, OldI (itV x (.slice E x.2.2.length ce)) x] := ((Bag.nil w).add (F := OldI _ x) hu (lasts_oldI _ _)).add (F := OldR _ s) h (lasts_oldR _ _)
  obtain ⟨w1, hw1, hg1, hB1, -, hs1⟩ := bag_four HG0 (Below.refl _ _) (.slice qa.1 qa.2.1 qa.2.2) (.slice qb.1 qb.2.1 qb.2.2) (.slice qc.1 qc.2.1 qc.2.2) (.slice qd.1 qd.2.1 qd.2.2) 29
  obtain ⟨w2, hw2, hg2, hB2, -, hs2⟩ := bag_item hg1 (Below.refl _ _) (.int .u8 (x.1.1.toNat : Int)) (.int .u32 x.1.2.1) (.int .u32 x.1.2.2) (.int .i64 x.2.1) (.slice E x.2.2.length ce)
  obtain ⟨w3, hw3, hg3, hB3, -, hs3⟩ := bag_key hg2 (Below.refl _ _) (.int .u8 (kk.1.toNat : Int)) (.int .u32 kk.2.1) (.int .u32 kk.2.2)
  have hB13 := hB1.trans ((hB2.trans (hB3.mono hB2.size)).mono hB1.size)
  have HG1 := Lib.hid hg3
  have B1 := Lib.hid hB13
  have hIn := Lib.hid hxi
  replace hs1 := Lib.hid hs1
  replace hs2 := Lib.hid hs2
  replace hs3 := Lib.hid hs3
  clear HG0 hg1 hg2 hg3 h hu hB1 hB2 hB3 hB13 hxi
  unfold itV kyV
  go_enter Tryz.func5, Tryz.ntmps5
  go_upto_region 1 with fail
  clear hw1 hw2 hw3
  go_wp2_with fail
  with_reducible refine (alive12 _).mono ?_
  rintro e w4 ⟨rfl, hb4⟩
  have HG4 := Lib.hid (HG1.out.below hb4)
  have B4 := Lib.hid (B1.out.trans (hb4.mono B1.out.size))
  clear hb4 HG1 B1
  obtain ⟨k0, k1, k2, k3, kg⟩ := HG4.out.at 2 rfl
  go_upto_region 4 with fail
  go_wp2_with fail
  with_reducible refine (greatR_any _ s _ (HG4.out.at 3 rfl)).mono ?_
  rintro e w5 ⟨rfl, hb5⟩
  have HG5 := Lib.hid (HG4.out.below hb5)
  have B5 := Lib.hid (B4.out.trans (hb5.mono B4.out.size))
  clear hb5 HG4 B4 k0 k1 k2 k3 kg
  cases hgr : greatR s with
  | true =>
    go_wp2_with fail
    go_ret
    exact ⟨rfl, B5.out⟩
  | false =>
  clear hgr
  -- an empty tree
  obtain ⟨k0, k1, k2, k3, kg⟩ := HG5.out.at 2 rfl
  have hNw := Lib.hid (putNew_any qa qb qc qd s w5 (HG5.out.at 3 rfl))
  have hne := Lib.hid (fun hh => new_empty (s := s) hh)
  obtain ⟨ne, hne1⟩ : ∃ q, mkE s zeroN = q := ⟨_, rfl⟩
  obtain ⟨nn, hnn⟩ : ∃ q, mkN s zeroN = q := ⟨_, rfl⟩
  obtain ⟨nv, hnv⟩ : ∃ q, mkV s zeroN = q := ⟨_, rfl⟩
  rw [hne1, hnn, hnv] at hNw hne
  replace hne1 := Lib.hid hne1
  replace hnn := Lib.hid hnn
  replace hnv := Lib.hid hnv
  go_upto_region 6 with fail
  go_wp2_with fail
  with_reducible refine hNw.out.mono ?_
  rintro e w6 ⟨na, nb, nc, nd, rfl, hS6, hb6⟩
  obtain ⟨w7, hw7, hg7, hB7, -, hs7⟩ := bag_four ((HG5.out.below hb6).add (F := OldR _ nv) hS6.drop (lasts_oldR _ _)) (Below.refl _ _) (.slice na.1 na.2.1 na.2.2) (.slice nb.1 nb.2.1 nb.2.2) (.slice nc.1 nc.2.1 nc.2.2) (.slice nd.1 nd.2.1 nd.2.2) 29
  have HG7 := Lib.hid hg7
  have B7 := Lib.hid (B5.out.trans ((hb6.trans (hB7.mono hb6.size)).mono B5.out.size))
  replace hs7 := Lib.hid hs7
  clear hb6 hg7 hB7 hS6 hNw HG5 B5 k0 k1 k2 k3 kg
  go_upto_region 7 with fail
  clear hw7
  go_cut [53] from 37 to 53 (fun x53 wx => x53 = .bool false ∧ Below w7.heap.size w7 wx)
  case first =>
    by_cases h0 : ne = 0
    case neg =>
      have t0 : (ne == 0) = false := by simpa using h0
      go_wp2_with fail
      go_meet
      exact ⟨rfl, Below.refl _ _⟩
    subst h0
    obtain ⟨e1, e2, k, rfl, k256, kl, kc⟩ := hne.out rfl
    obtain ⟨j0, j1, j2, j3, jg⟩ := HG7.out.at 0 rfl
    have hall := Lib.hid (allP_any na nb nc nd nv (k : Int) w7 (HG7.out.at 1 rfl))
    have e3 := raV_all e1
    rw [e2] at e3
    rw [e3] at hall
    go_wp2_with fail
    with_reducible refine hall.out.mono ?_
    rintro e w8 ⟨U, c, rfl, -, hb8⟩
    have HG8 := Lib.hid (HG7.out.below hb8)
    have B8 := Lib.hid hb8
    clear hb8 j0 j1 j2 j3 jg hall
    obtain ⟨j0, j1, j2, j3, jg⟩ := HG8.out.at 0 rfl
    obtain ⟨ad, had, hcn, hcc, hcm, hcell⟩ := now_at (HG8.out.at 1 rfl) kc
    rw [kl] at hcn
    rw [had, hcn] at j2
    rw [hcn] at hcc
    have hcell' : w8.cell? (ad.add k) = some (.int .u8 1) := hcell
    have i3 : (k : Int) < ((256 : Nat) : Int) := by omega
    have i4 : (0 : Int) ≤ (k : Int) := by omega
    replace had := Lib.hid had
    replace hcn := Lib.hid hcn
    replace kc := Lib.hid kc
    replace kl := Lib.hid kl
    clear hcell
    simp only [List.length_nil]
    go_wp2_with fail
    go_meet
    exact ⟨rfl, B8.out⟩
  case rest =>
  obtain ⟨w8, rfl⟩ : ∃ w8 : World, w8 = wc := ⟨_, rfl⟩
  obtain ⟨rfl, hb8⟩ := hcut
  have hg8 := HG7.out.below hb8
  have hbag : Bag w8 [Box3 w2.heap.size (.int .u8 (kk.1.toNat : Int)) (.int .u32 kk.2.1) (.int .u32 kk.2.2), Box5 w1.heap.size (.int .u8 (x.1.1.toNat : Int)) (.int .u32 x.1.2.1) (.int .u32 x.1.2.2) (.int .i64 x.2.1) (.slice E x.2.2.length ce), Box4 w.heap.size (.slice qa.1 qa.2.1 qa.2.2) (.slice qb.1 qb.2.1 qb.2.2) (.slice qc.1 qc.2.1 qc.2.2) (.slice qd.1 qd.2.1 qd.2.2), OldR (.agg #[.slice qa.1 qa.2.1 qa.2.2, .slice qb.1 qb.2.1 qb.2.2, .slice qc.1 qc.2.1 qc.2.2, .slice qd.1 qd.2.1 qd.2.2]) s, OldI (itV x (.slice E x.2.2.length ce)) x] := hg8.tail2
  have HG8 := Lib.hid hbag
  have B8 := Lib.hid (B7.out.trans (hb8.mono B7.out.size))
  clear hb8 hg8 hbag HG7 B7 hne
  -- the tree
  obtain ⟨k0, k1, k2, k3, kg⟩ := HG8.out.at 2 rfl
  obtain ⟨ck, hck⟩ : ∃ q, ckE s a = q := ⟨_, rfl⟩
  obtain ⟨hh, hhh⟩ : ∃ q, ckH s a = q := ⟨_, rfl⟩
  have hCk := Lib.hid (findCheck_any _ s a _ (HG8.out.at 3 rfl))
  rw [hck, hhh] at hCk
  replace hck := Lib.hid hck
  replace hhh := Lib.hid hhh
  go_upto_region 9 with fail
  go_wp2_with fail
  with_reducible refine hCk.out.mono ?_
  rintro e w9 ⟨rfl, hb9⟩
  have HG9 := Lib.hid (HG8.out.below hb9)
  have B9 := Lib.hid (B8.out.trans (hb9.mono B8.out.size))
  clear hb9 HG8 B8 k0 k1 k2 k3 kg hCk
  have hxi2 := Lib.hid (hIn.out).2
  obtain ⟨n0, n1, n2, n3, n4, ng⟩ := HG9.out.at 1 rfl
  go_upto_region 11 with fail
  obtain ⟨pb, hpb⟩ : ∃ b, decide (8 ≤ x.2.1 ∧ x.2.1 < 256) = b := ⟨_, rfl⟩
  go_cut [67] from 60 to 67 (fun xc wx => xc = .bool pb ∧ w9 = wx)
  case first =>
    by_cases i1 : x.2.1 ≥ 8
    case neg =>
      obtain rfl : pb = false := by rw [← hpb]; exact decide_eq_false (by omega)
      replace hpb := Lib.hid hpb
      go_wp2_with fail
      go_meet
      exact ⟨rfl, rfl⟩
    by_cases i2 : x.2.1 < 256
    · obtain rfl : pb = true := by rw [← hpb]; exact decide_eq_true (by omega)
      replace hpb := Lib.hid hpb
      go_wp2_with fail
      go_meet
      exact ⟨rfl, rfl⟩
    · obtain rfl : pb = false := by rw [← hpb]; exact decide_eq_false (by omega)
      replace hpb := Lib.hid hpb
      go_wp2_with fail
      go_meet
      exact ⟨rfl, rfl⟩
  case rest =>
  obtain ⟨rfl, rfl⟩ := hcut
  replace hpb := Lib.hid hpb
  go_upto_if 67 with fail
  go_cut [15] from 68 to 72 (fun xc wx => ∃ (A : Option Addr) (n c : Nat), xc = .slice A n c ∧ (heldI x).length = n ∧ rSl 1 (rK .i64) (Old wx) wx [.slice A n c] (heldI x) ∧ Below w9.heap.size w9 wx)
  case first =>
    cases pb with
    | false =>
      have hhe : Hid (heldI x = []) := Lib.hid (by have := of_decide_eq_false hpb.out; unfold heldI; rw [if_neg this])
      go_wp2_with fail
      go_meet
      exact ⟨none, 0, 0, rfl, by rw [hhe.out]; rfl, by rw [hhe.out]; exact nil_sl _ _, Below.refl _ _⟩
    | true =>
      have hhe : Hid (heldI x = [x.2.1]) := Lib.hid (by have := of_decide_eq_true hpb.out; unfold heldI; rw [if_pos this])
      obtain ⟨wA, hwA, gA, hsA, hBA⟩ := box_1 w9 (.int .i64 x.2.1) 3
      obtain ⟨A', c', w', hrun, hrel, hb⟩ := one_held w9.heap.size x.2.1 1 gA hxi2.out
      have HR := Lib.hid hrun
      have HL := Lib.hid hrel
      have HB := Lib.hid (hBA.trans (hb.mono hBA.size))
      replace hsA := Lib.hid hsA
      clear hrun hrel hb hBA gA
      go_wp2_with (at_builtin; refine wpList_append_run2 rfl _ _ _ _ rfl rfl rfl HR.out ?_; clear HR hwA)
      go_meet
      exact ⟨A', 1, c', rfl, by rw [hhe.out]; rfl, by rw [hhe.out]; exact HL.out, HB.out⟩
  case rest =>
  obtain ⟨w10, rfl⟩ : ∃ w10 : World, w10 = wc := ⟨_, rfl⟩
  obtain ⟨HA, hn, hc, rfl, hhl, hHr, hBH⟩ := hcut
  have HG10 := Lib.hid (HG9.out.below hBH)
  have B10 := Lib.hid (B9.out.trans (hBH.mono B9.out.size))
  have hHr' := Lib.hid hHr
  have hhl' := Lib.hid hhl
  clear hHr hhl hBH HG9 B9 n0 n1 n2 n3 n4 ng
  go_upto_region 13 with fail
  by_cases hk : ck = 0
  case neg =>
    have t0 : (ck != 0) = true := by simpa using hk
    go_wp2_with fail
    go_ret
    exact ⟨rfl, B10.out⟩
  subst hk
  obtain ⟨wA, hwA, gA, hsA, hBA⟩ := box_1 w10 (.int .i64 a) 3
  have HGA := Lib.hid (HG10.out.below hBA)
  have BA := Lib.hid (B10.out.trans (hBA.mono B10.out.size))
  have hen := Lib.hid (enough_any qa qb qc qd s (some ⟨w10.heap.size, 0, none⟩) 1 1 [a] HA hn hc (heldI x) wA (HGA.out.at 3 rfl) (one_int gA (ck_64 hck.out)) (sl_below hHr'.out hBA) rfl hhl'.out (by omega) (by omega) (by have := held_len x; have := hhl'.out; omega) (fun r hr => by rw [List.mem_singleton.1 hr]; exact hck.out) (held_256 x))
  replace hsA := Lib.hid hsA
  obtain ⟨k0, k1, k2, k3, kg⟩ := HG10.out.at 2 rfl
  clear gA hBA
  go_wp2_with fail
  with_reducible refine hen.out.mono ?_
  rintro e w11 ⟨V, res, hV1, hV2, hV3, rfl, hb11⟩
  have HG11 := Lib.hid (HGA.out.below hb11)
  have B11 := Lib.hid (BA.out.trans (hb11.mono BA.out.size))
  clear hb11 hen k0 k1 k2 k3 kg HGA BA HG10 B10
  cases res with
  | false =>
    go_wp2_with fail
    go_ret
    exact ⟨rfl, B11.out⟩
  | true =>
  have hPut' := putPut_any qa qb qc qd s a x E ce w11 (HG11.out.at 3 rfl) (HG11.out.at 4 rfl)
  unfold itV at hPut'
  replace hPut' := Lib.hid hPut'
  obtain ⟨k0, k1, k2, k3, kg⟩ := HG11.out.at 2 rfl
  obtain ⟨n0, n1, n2, n3, n4, ng⟩ := HG11.out.at 1 rfl
  have hEn := Lib.hid (And.intro hV1 (And.intro hV2 (hV3.1 rfl)))
  clear hV1 hV2 hV3
  go_upto_region 15 with fail
  go_wp2_with fail
  with_reducible refine hPut'.out.mono ?_
  rintro e w12 ⟨l, ra, rb, rc, rd, hl8, rfl, hS8, hb8⟩
  obtain ⟨X, hX⟩ : ∃ X, putS s a x l = X := ⟨_, rfl⟩
  obtain ⟨pe, ps, pn2⟩ := X
  rw [hX] at hS8 ⊢
  obtain ⟨w13, hw13, hg13, hB13, -, hs13⟩ := bag_four ((HG11.out.below hb8).add (F := OldR _ ps) hS8.drop (lasts_oldR _ _)) (Below.refl _ _) (.slice ra.1 ra.2.1 ra.2.2) (.slice rb.1 rb.2.1 rb.2.2) (.slice rc.1 rc.2.1 rc.2.2) (.slice rd.1 rd.2.1 rd.2.2) 29
  have HG13 := Lib.hid hg13
  have B13 := Lib.hid (B11.out.trans ((hb8.trans (hB13.mono hb8.size)).mono B11.out.size))
  have hlw := Lib.hid hl8
  replace hX := Lib.hid hX
  replace hs13 := Lib.hid hs13
  clear hS8 hb8 hB13 hg13 hl8 hPut' k0 k1 k2 k3 kg n0 n1 n2 n3 n4 ng HG11 B11
  go_upto_region 16 with fail
  clear hw13
  by_cases hpe : pe = 0
  case neg =>
    have t0 : (pe != 0) = true := by simpa using hpe
    go_wp2_with fail
    go_ret
    exact ⟨rfl, B13.out⟩
  subst hpe
  obtain ⟨M, H⟩ := put_one_res hIn.out (by rw [hX.out]) hlw.out hEn.out.1 hEn.out.2.1 hEn.out.2.2
  rw [hX.out] at H
  obtain ⟨F1, F2, F3⟩ := is_found hck.out H
  clear H
  have hF1 := Lib.hid (fun v W hW => findFind_open v ps pn2 x.1 W hW)
  have hF2 := Lib.hid (fun v W hW => findFind_open v s a kk W hW)
  have hF3 := Lib.hid (fun v W hW => findFind_open v ps pn2 kk W hW)
  rw [F1, F2] at hF1
  have hway : Hid (kk = x.1 ∨ (fdE ps pn2 kk = fdE s a kk ∧ fdV ps pn2 kk = fdV s a kk)) := Lib.hid (by
    by_cases e : kk = x.1
    · exact .inl e
    · exact .inr (F3 kk e))
  clear F1 F2 F3
  obtain ⟨ge, hge⟩ : ∃ q, fdE s a kk = q := ⟨_, rfl⟩
  obtain ⟨y1, hy1⟩ : ∃ q, fdV s a kk = q := ⟨_, rfl⟩
  obtain ⟨gf, hgf⟩ : ∃ q, fdE ps pn2 kk = q := ⟨_, rfl⟩
  obtain ⟨y2, hy2⟩ : ∃ q, fdV ps pn2 kk = q := ⟨_, rfl⟩
  rw [hge, hy1] at hF2
  rw [hgf, hy2] at hF3
  rw [hge, hy1, hgf, hy2] at hway
  unfold kyV at hF1 hF2 hF3
  replace hge := Lib.hid hge
  replace hy1 := Lib.hid hy1
  replace hgf := Lib.hid hgf
  replace hy2 := Lib.hid hy2
  -- what was put in is found
  obtain ⟨m0, m1, m2, m3, mg⟩ := HG13.out.at 0 rfl
  obtain ⟨n0, n1, n2, n3, n4, ng⟩ := HG13.out.at 3 rfl
  go_upto_region 18 with fail
  go_wp2_with fail
  with_reducible refine (hF1.out _ _ (HG13.out.at 1 rfl)).mono ?_
  rintro e w14 ⟨P, pc, rfl, hit, hb⟩
  obtain ⟨w15, hw15, hg15, hB15, -, hs15⟩ := bag_item ((HG13.out.below hb).add (F := OldI _ x) hit.drop (lasts_oldI _ _)) (Below.refl _ _) (.int .u8 (x.1.1.toNat : Int)) (.int .u32 x.1.2.1) (.int .u32 x.1.2.2) (.int .i64 x.2.1) (.slice P x.2.2.length pc)
  have HG15 := Lib.hid hg15
  have B15 := Lib.hid (B13.out.trans ((hb.trans (hB15.mono hb.size)).mono B13.out.size))
  replace hs15 := Lib.hid hs15
  clear hb hg15 hB15 hit HG13 B13 m0 m1 m2 m3 mg n0 n1 n2 n3 n4 ng hF1
  -- the other key, ahead of it
  obtain ⟨k0, k1, k2, k3, kg⟩ := HG15.out.at 6 rfl
  obtain ⟨t0, t1, t2, tg⟩ := HG15.out.at 4 rfl
  go_upto_region 19 with fail
  clear hw15
  go_wp2_with fail
  with_reducible refine (hF2.out _ _ (HG15.out.at 7 rfl)).mono ?_
  rintro e w16 ⟨P2, pc2, rfl, hit, hb⟩
  obtain ⟨w17, hw17, hg17, hB17, -, hs17⟩ := bag_item ((HG15.out.below hb).add (F := OldI _ y1) hit.drop (lasts_oldI _ _)) (Below.refl _ _) (.int .u8 (y1.1.1.toNat : Int)) (.int .u32 y1.1.2.1) (.int .u32 y1.1.2.2) (.int .i64 y1.2.1) (.slice P2 y1.2.2.length pc2)
  have HG17 := Lib.hid hg17
  have B17 := Lib.hid (B15.out.trans ((hb.trans (hB17.mono hb.size)).mono B15.out.size))
  replace hs17 := Lib.hid hs17
  clear hb hg17 hB17 hit HG15 B15 k0 k1 k2 k3 kg t0 t1 t2 tg hF2
  -- and behind it
  obtain ⟨m0, m1, m2, m3, mg⟩ := HG17.out.at 4 rfl
  obtain ⟨t0, t1, t2, tg⟩ := HG17.out.at 6 rfl
  go_upto_region 20 with fail
  clear hw17
  go_wp2_with fail
  with_reducible refine (hF3.out _ _ (HG17.out.at 5 rfl)).mono ?_
  rintro e w18 ⟨P3, pc3, rfl, hit, hb⟩
  obtain ⟨w19, hw19, hg19, hB19, -, hs19⟩ := bag_item ((HG17.out.below hb).add (F := OldI _ y2) hit.drop (lasts_oldI _ _)) (Below.refl _ _) (.int .u8 (y2.1.1.toNat : Int)) (.int .u32 y2.1.2.1) (.int .u32 y2.1.2.2) (.int .i64 y2.2.1) (.slice P3 y2.2.2.length pc3)
  have HG19 := Lib.hid hg19
  have B19 := Lib.hid (B17.out.trans ((hb.trans (hB19.mono hb.size)).mono B17.out.size))
  replace hs19 := Lib.hid hs19
  clear hb hg19 hB19 hit HG17 B17 m0 m1 m2 m3 mg t0 t1 t2 tg hF3
  go_upto_region 21 with fail
  clear hw19
  obtain ⟨n0, n1, n2, n3, n4, ng⟩ := HG19.out.at 9 rfl
  obtain ⟨o0, o1, o2, o3, o4, og⟩ := HG19.out.at 4 rfl
  have hSm := sameI_any _ _ x x w19 (HG19.out.at 12 rfl) (HG19.out.at 5 rfl)
  unfold itV at hSm
  rw [sameI_self] at hSm
  replace hSm := Lib.hid hSm
  go_wp2_with fail
  with_reducible refine hSm.out.mono ?_
  rintro e w20 ⟨rfl, hb⟩
  have HG20 := Lib.hid (HG19.out.below hb)
  have B20 := Lib.hid (B19.out.trans (hb.mono B19.out.size))
  clear hb HG19 B19 n0 n1 n2 n3 n4 ng o0 o1 o2 o3 o4 og hSm
  obtain ⟨n0, n1, n2, n3, n4, ng⟩ := HG20.out.at 9 rfl
  obtain ⟨t0, t1, t2, tg⟩ := HG20.out.at 8 rfl
  have hke := key_eq kk x.1
  have hkg := key_guard
  unfold kyV at hke
  obtain ⟨b3, hb3⟩ : ∃ b, decide (kk = x.1) = b := ⟨_, rfl⟩
  rw [hb3] at hke
  replace hb3 := Lib.hid hb3
  cases b3 with
  | true =>
    go_wp2_with fail
    go_ret
    exact ⟨rfl, B20.out⟩
  | false =>
    obtain ⟨rfl, rfl⟩ : gf = ge ∧ y2 = y1 := by
      rcases hway.out with e | e
      · exact absurd e (of_decide_eq_false hb3.out)
      · exact e
    obtain ⟨o0, o1, o2, o3, o4, og⟩ := HG20.out.at 2 rfl
    obtain ⟨p0, p1, p2, p3, p4, pg⟩ := HG20.out.at 0 rfl
    have hSm := sameI_any _ _ y2 y2 w20 (HG20.out.at 3 rfl) (HG20.out.at 1 rfl)
    unfold itV at hSm
    rw [sameI_self] at hSm
    replace hSm := Lib.hid hSm
    have i5 : (gf == gf) = true := by simp
    go_wp2_with fail
    with_reducible refine hSm.out.mono ?_
    rintro e w21 ⟨rfl, hb⟩
    have B21 := Lib.hid (B20.out.trans (hb.mono B20.out.size))
    clear hb
    go_wp2_with fail
    go_ret
    exact ⟨rfl, B21.out⟩

/-! ### The row's step -/
set_option maxRecDepth 100000 in
theorem lifted (os : Os) (started : os.Started) (H : Type) (enc : TypeId × Value → H) :
    ReturnsInHanded {} Tryz.checked os 5 .any (Rows.putTellsSpec.pre6 enc Tryz.prog Tryz.f5 Rows.putTellsRow.domain false) (Rows.putTellsSpec.post enc Tryz.prog Tryz.f5 false true false false) := by
  refine returnsInHanded_of_change (C := Tryz.checked) own started (by kernel_rfl) Tryz.func5
    (ChangeSpec.witness6 (enc := enc) (C := Tryz.checked) false ⟨#[], #[.agg #[.slice none 0 0, .slice none 0 0, .slice none 0 0, .slice none 0 0], .int .i64 0, .agg #[.int .u8 0, .int .u32 0, .int .u32 0, .int .i64 0, .slice none 0 0], .agg #[.int .u8 0, .int .u32 0, .int .u32 0]], []⟩ 8 (by kernel_rfl) (by kernel_rfl) (by kernel_rfl) (by kernel_rfl)) ?_
  intro W base args ds gs before hval0 hW _ _
  have hval : ∀ (j : Nat) t v, Tryz.f5.params[j]? = some t → args[j]? = some v → Value.okWide Tryz.prog W .any base t v := hval0
  have hW' := hW
  obtain ⟨p, q, hA0, hV, _, _, _⟩ := hW
  have hA : DataW.TrodAll enc Tryz.prog W 0 (fun _ => true) true Tryz.f5.params.toList args.toList ds p := hA0
  rw [Tryz.params5] at hA hval
  obtain ⟨v0, vs0, d0, ds0, p0, q0, hargs, rfl, _, h0, r0⟩ := trodAll_cons hA
  obtain ⟨v1, vs1, d1, ds1, p1, q1, rfl, rfl, _, h1, r1⟩ := trodAll_cons r0
  obtain ⟨v2, vs2, d2, ds2, p2, q2, rfl, rfl, _, h2, r2⟩ := trodAll_cons r1
  obtain ⟨v3, vs3, d3, ds3, p3, q3, rfl, rfl, _, h3, r3⟩ := trodAll_cons r2
  obtain ⟨rfl, rfl, _⟩ := trodAll_nil r3
  obtain rfl : args = #[v0, v1, v2, v3] := by cases args; simp_all
  obtain ⟨rfl, _⟩ := trodVars_none hV
  obtain ⟨d0x, y0⟩ := open_store (hval 0 29 v0 rfl rfl) h0
  obtain ⟨a1, rfl, _, _, w1⟩ := open_int Tryz.underlying3 (hval 1 3 v1 rfl rfl) h1
  obtain ⟨d2x, y2⟩ := open_item (hval 2 40 v2 rfl rfl) h2
  obtain ⟨k3x, rfl, _⟩ := open_key (hval 3 37 v3 rfl rfl) h3
  clear hA0 hval0
  refine (walk v0 d0x a1 w1 v2 d2x k3x W y0 y2).mono fun e W' ⟨he, hb⟩ => ?_
  subst he
  exact ⟨_, rfl, law_post laidOut (by rw [Tryz.params5]; decide +kernel) (by kernel_rfl) Tryz.underlying4 rfl ⟨rfl, by simp [Rows.putTellsSpec], rfl⟩ hW' hb⟩

theorem over : Rows.putTellsRow.holds Tryz.pinned (OpenSpec.ofChange Rows.putTellsSpec) :=
  OpenClaim.holds_of_wide 5 Tryz.f5 rfl rfl rfl rfl rfl rfl rfl ⟨rfl, rfl, rfl, rfl, rfl⟩ rfl rfl rfl rfl rfl (by kernel_rfl) Tryz.func5 (by kernel_rfl)
    (of_decide_eq_true (by kernel_rfl)) (by unfold Func.isWrapper; first | (rw [if_pos (by decide +kernel)]; kernel_rfl) | (rw [if_neg (by decide +kernel)]; exact ⟨rfl, rfl⟩))
    (fun os started H enc _ => lifted os started H enc)

end Go.Proofs.YtogieepfimpdmaaGreat.putTells
namespace Go.Proofs.YtogieepfimpdmaaGreat
theorem putTells_proved : Rows.PutTellsSaid := putTells.over
end Go.Proofs.YtogieepfimpdmaaGreat
