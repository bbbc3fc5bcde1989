/-
  For every store, root and two keys WalkDoes answers true and leaves its arguments as they were. No condition.
-/
import Derived.Test.YtdaidhbmfocodaaGreatBnd5
import Derived.StillTailTactics
namespace Go.Proofs.YtdaidhbmfocodaaGreat.walkDoes
open Go.ChangeShapes Go.WideShapes Go.RowKit

theorem own : ownKnob Tryz.prog.godebug = none := by kernel_rfl
theorem laidOut : laidOutB Tryz.prog = true := by kernel_rfl

def FzIs (lo hi : Nat) (v : Value) (l : List It) : World → Prop := fun w => rIts (Fz lo hi w) w [v] l ∧ hi ≤ w.heap.size
theorem lasts_fzIs (lo hi : Nat) (v : Value) (l : List It) : Lasts (FzIs lo hi v l) := fun _ _ h hb => ⟨stab_its _ _ _ _ _ _ (fun p _ hp hc => ⟨⟨hp.1, hp.2.1, (hb.frozen (Nat.lt_of_lt_of_le hp.2.1 h.2)).trans hp.2.2⟩, (hb.cell (Nat.lt_of_lt_of_le hp.2.1 h.2)).trans hc⟩) h.1, Nat.le_trans h.2 hb.size⟩
theorem fzIs_of {lo : Nat} {w : World} {v : Value} {l : List It} (h : rIts (New lo w) w [v] l) : FzIs lo w.heap.size v l w := ⟨stab_its _ _ _ _ _ _ (fun p _ hp hc => ⟨⟨hp.1, hp.2.1, hp.2.2⟩, hc⟩) h, Nat.le_refl _⟩
theorem fzIs_old {lo hi : Nat} {w : World} {v : Value} {l : List It} (h : FzIs lo hi v l w) : rIts (Old w) w [v] l := stab_its _ _ _ _ _ _ (fun p _ hp hc => ⟨Nat.lt_of_lt_of_le hp.2.1 h.2, hc⟩) h.1
set_option maxRecDepth 100000 in
set_option maxHeartbeats 8000000 in
theorem walk (v : Value) (s : Rm) (a : Int) (_hn : (Lit.int .i64 a).wf = true) (f t : Ky) (w : World) (h : Sto (Old w) w v s) :
    Calls Tryz.prog 4 #[v, .int .i64 a, kyV f, kyV t] w fun e w' => e = .returned (.bool true) ∧ Below w.heap.size w w' := by
  clear _hn
  obtain ⟨A, ca, B, cb, N, cn, L, cl, rfl, _⟩ := id h.open
  have HG0 : Bag w [OldR (.agg #[.slice A s.1.1.length ca, .slice B s.1.2.length cb, .slice N s.2.1.length cn, .slice L s.2.2.length cl]) s] := (Bag.nil w).add (F := OldR _ s) h (lasts_oldR _ _)
  obtain ⟨w0, hw0, hg0, hB0, _, hs0⟩ := bag_four HG0 (Below.refl _ _) (.slice A s.1.1.length ca) (.slice B s.1.2.length cb) (.slice N s.2.1.length cn) (.slice L s.2.2.length cl) 29
  obtain ⟨w1, hw1, hg1, hB1, _, hs1⟩ := bag_key hg0 (Below.refl _ _) (.int .u8 (f.1.toNat : Int)) (.int .u32 f.2.1) (.int .u32 f.2.2)
  obtain ⟨w9, hw9, hg9, hB9, _, hs9⟩ := bag_key hg1 (Below.refl _ _) (.int .u8 (t.1.toNat : Int)) (.int .u32 t.2.1) (.int .u32 t.2.2)
  have HG1 := Lib.hid hg9
  have B1 := Lib.hid (hB0.trans ((hB1.trans (hB9.mono hB1.size)).mono hB0.size))
  replace hs1 := Lib.hid hs1
  replace hs0 := Lib.hid hs0
  replace hs9 := Lib.hid hs9
  clear HG0 hg1 hg0 hg9 h hB1 hB0 hB9
  unfold kyV
  go_enter Tryz.func4, Tryz.ntmps4
  go_upto_region 1 with fail
  clear hw0 hw1 hw9
  obtain ⟨k0, k1, k2, k3, kg⟩ := HG1.out.at 2 rfl
  go_wp2_with fail
  with_reducible refine (greatR_any _ s _ (HG1.out.at 3 rfl)).mono ?_
  rintro e w2 ⟨rfl, hb2⟩
  have HG2 := Lib.hid (HG1.out.below hb2)
  have B2 := Lib.hid (B1.out.trans (hb2.mono B1.out.size))
  clear hb2 HG1 B1 k0 k1 k2 k3 kg
  cases hgr : greatR s with
  | true =>
    go_wp2_with fail
    go_ret
    exact ⟨rfl, B2.out⟩
  | false =>
  have hsm := Lib.hid (smallR_of_great hgr)
  clear hgr
  obtain ⟨k0, k1, k2, k3, kg⟩ := HG2.out.at 2 rfl
  go_wp2_with fail
  with_reducible refine (refTwinR_any _ s hsm.out _ (HG2.out.at 3 rfl)).mono ?_
  rintro e w3 ⟨X0, x0, X1, x1, X2, x2, X3, x3, rfl, t4, hb3⟩
  obtain ⟨w4, hw4, G4, hB4, hB4', hs4⟩ := bag_four ((HG2.out.below hb3).add (F := OldR _ s) t4.drop (lasts_oldR _ _)) (Below.refl _ _) (.slice X0 s.1.1.length x0) (.slice X1 s.1.2.length x1) (.slice X2 s.2.1.length x2) (.slice X3 s.2.2.length x3) 29
  have HG4 := Lib.hid G4
  have B4 := Lib.hid (B2.out.trans ((hb3.trans (hB4.mono hb3.size)).mono B2.out.size))
  replace hs4 := Lib.hid hs4
  clear hb3 G4 hB4 hB4' t4 HG2 B2 k0 k1 k2 k3 kg
  go_upto_region 4 with fail
  clear hw4
  have hR1 := Lib.hid (fun v W hW => walkRange_any v s a f t W hW)
  have hR2 := Lib.hid (fun v W hW => refRange_any v s a f t W hW)
  have hN1 := Lib.hid (fun v W hW => walkNodes_any v s a W hW)
  have hN2 := Lib.hid (fun v W hW => refNodesF_any v s a W hW)
  unfold RangeR at hR1 hR2
  unfold NodesR at hN1 hN2
  obtain ⟨E0, hE0⟩ : ∃ q, ckE s a = q := ⟨_, rfl⟩
  obtain ⟨V, hV⟩ : ∃ q, raV s a f t = q := ⟨_, rfl⟩
  obtain ⟨Y, hY⟩ : ∃ q, ndsV s a = q := ⟨_, rfl⟩
  obtain ⟨Z, hZ⟩ : ∃ q, rfsV s a = q := ⟨_, rfl⟩
  obtain ⟨n, hn⟩ : ∃ n, V.length = n := ⟨_, rfl⟩
  obtain ⟨n1, hn1⟩ : ∃ n, Y.length = n := ⟨_, rfl⟩
  obtain ⟨n2, hn2⟩ : ∃ n, Z.length = n := ⟨_, rfl⟩
  rw [hE0] at hR1 hR2 hN1 hN2
  rw [hV, hn] at hR1 hR2
  rw [hY, hZ, hn1, hn2] at hN1 hN2
  unfold kyV at hR1 hR2
  replace hE0 := Lib.hid hE0
  replace hV := Lib.hid hV
  replace hY := Lib.hid hY
  replace hZ := Lib.hid hZ
  replace hn := Lib.hid hn
  replace hn1 := Lib.hid hn1
  replace hn2 := Lib.hid hn2
  obtain ⟨j0, j1, j2, j3, jg⟩ := HG4.out.at 0 rfl
  obtain ⟨t0, t1, t2, _⟩ := HG4.out.at 3 rfl
  obtain ⟨u0, u1, u2, _⟩ := HG4.out.at 2 rfl
  go_wp2_with fail
  with_reducible refine (hR1.out _ _ (HG4.out.at 1 rfl)).mono ?_
  rintro e w5 ⟨U, uc, rfl, hU, hb5⟩
  have HG5 := Lib.hid ((HG4.out.below hb5).add (F := FzIs w4.heap.size w5.heap.size _ V) (fzIs_of hU) (lasts_fzIs _ _ _ _))
  have C5 := Lib.hid hb5
  have S5 := Lib.hid hb5.size
  clear hb5 hU j0 j1 j2 j3 jg t0 t1 t2 u0 u1 u2 hR1
  obtain ⟨k0, k1, k2, k3, kg⟩ := HG5.out.at 5 rfl
  obtain ⟨t0, t1, t2, _⟩ := HG5.out.at 4 rfl
  obtain ⟨u0, u1, u2, _⟩ := HG5.out.at 3 rfl
  go_wp2_with fail
  with_reducible refine (hR2.out _ _ (HG5.out.at 6 rfl)).mono ?_
  rintro e w6 ⟨P, pc, rfl, hP, hb6⟩
  have HG6 := Lib.hid ((HG5.out.below hb6).add (F := OldIs _ V) (stab_its.drop hP) (lasts_oldIs _ _))
  have C6 := Lib.hid (C5.out.trans (hb6.mono C5.out.size))
  clear hb6 hP HG5 C5 k0 k1 k2 k3 kg t0 t1 t2 u0 u1 u2 hR2
  obtain ⟨j0, j1, j2, j3, jg⟩ := HG6.out.at 2 rfl
  go_wp2_with fail
  with_reducible refine (hN1.out _ _ (HG6.out.at 3 rfl)).mono ?_
  rintro e w7 ⟨Q1, q1, Q2, q2, rfl, hQ1, hQ2, hb7⟩
  have HG7 := Lib.hid (HG6.out.below hb7)
  have hQ17 := Lib.hid ((stab_sl (stab_k .i64)).drop hQ1)
  have hQ27 := Lib.hid ((stab_sl (stab_k .i64)).drop hQ2)
  have C7 := Lib.hid (C6.out.trans (hb7.mono C6.out.size))
  clear hb7 hQ1 hQ2 HG6 C6 j0 j1 j2 j3 jg hN1
  obtain ⟨k0, k1, k2, k3, kg⟩ := HG7.out.at 6 rfl
  go_wp2_with fail
  with_reducible refine (hN2.out _ _ (HG7.out.at 7 rfl)).mono ?_
  rintro e w8 ⟨O1, o1, O2, o2, rfl, hO1, hO2, hb8⟩
  have HG8 := Lib.hid (HG7.out.below hb8)
  have hQ18 := Lib.hid ((stab_sl (stab_k .i64)).old hQ17.out hb8)
  have hQ28 := Lib.hid ((stab_sl (stab_k .i64)).old hQ27.out hb8)
  have hO18 := Lib.hid ((stab_sl (stab_k .i64)).drop hO1)
  have hO28 := Lib.hid ((stab_sl (stab_k .i64)).drop hO2)
  have C8 := Lib.hid (C7.out.trans (hb8.mono C7.out.size))
  clear hb8 hO1 hO2 HG7 C7 k0 k1 k2 k3 kg hN2 hQ17 hQ27
  go_wp2_with fail
  with_reducible refine (refSameIs_any _ _ V V _ (fzIs_old (HG8.out.at 1 rfl)) (HG8.out.at 0 rfl)).mono ?_
  rintro e wa ⟨rfl, hba⟩
  rw [show sameIs V V = true from decide_eq_true rfl]
  have HGa := Lib.hid (HG8.out.below hba)
  have hQ1a := Lib.hid ((stab_sl (stab_k .i64)).old hQ18.out hba)
  have hQ2a := Lib.hid ((stab_sl (stab_k .i64)).old hQ28.out hba)
  have hO1a := Lib.hid ((stab_sl (stab_k .i64)).old hO18.out hba)
  have hO2a := Lib.hid ((stab_sl (stab_k .i64)).old hO28.out hba)
  have Ca := Lib.hid (C8.out.trans (hba.mono C8.out.size))
  clear hba HG8 C8 hQ18 hQ28 hO18 hO28
  go_wp2_with fail
  with_reducible refine (sameNumbers_any _ _ Y Y _ (show rInts (Old wa) wa [.slice Q1 n1 q1] Y by unfold rInts; exact hQ1a.out) (show rInts (Old wa) wa [.slice O1 n1 o1] Y by unfold rInts; exact hO1a.out)).mono ?_
  rintro e wb ⟨rfl, hbb⟩
  rw [show decide (Y = Y) = true from decide_eq_true rfl]
  have HGb := Lib.hid (HGa.out.below hbb)
  have hQ2b := Lib.hid ((stab_sl (stab_k .i64)).old hQ2a.out hbb)
  have hO2b := Lib.hid ((stab_sl (stab_k .i64)).old hO2a.out hbb)
  have Cb := Lib.hid (Ca.out.trans (hbb.mono Ca.out.size))
  clear hbb HGa Ca hQ1a hQ2a hO1a hO2a
  go_wp2_with fail
  with_reducible refine (sameNumbers_any _ _ Z Z _ (show rInts (Old wb) wb [.slice Q2 n2 q2] Z by unfold rInts; exact hQ2b.out) (show rInts (Old wb) wb [.slice O2 n2 o2] Z by unfold rInts; exact hO2b.out)).mono ?_
  rintro e wc ⟨rfl, hbc⟩
  rw [show decide (Z = Z) = true from decide_eq_true rfl]
  have HGc := Lib.hid (HGb.out.below hbc)
  have Cc := Lib.hid (Cb.out.trans (hbc.mono Cb.out.size))
  clear hbc HGb Cb hQ2b hO2b
  -- what was answered is turned
  have HA := Lib.hid (HGc.out.at 1 rfl : FzIs w4.heap.size w5.heap.size _ V wc).1
  have hhi0 : w5.heap.size ≤ wc.heap.size := (HGc.out.at 1 rfl : FzIs w4.heap.size w5.heap.size _ V wc).2
  have hn63 : n ≤ 9223372036854775807 := by
    obtain ⟨_, _, e, l1, l2, _⟩ := HA.out
    rw [hn.out] at l1
    omega
  go_upto_region 10 with fail
  go_wp2_with fail
  go_loopw [20] (fun i wr => ∃ j : Nat, j ≤ n ∧ i = .int .i64 j ∧ Turn6 w4.heap.size w5.heap.size wc wr) (fun i _ => n - (intOf i).toNat)
  case atStart => exact ⟨0, by omega, rfl, Turn6.refl _ _ _⟩
  case round =>
  obtain ⟨j, hj, rfl, hS⟩ := hrel
  by_cases hlt : j < n
  case neg =>
    have CW := Cc.out.trans (hS.low.mono (Nat.le_refl _))
    have HW := HG4.out.below CW
    have BW := Lib.hid (B4.out.trans (CW.mono B4.out.size))
    obtain ⟨j0, j1, j2, j3, jg⟩ := HW.at 0 rfl
    obtain ⟨k0, k1, k2, k3, kg⟩ := HW.at 4 rfl
    have K1 : Hid (Sto (Old wr) wr _ s) := Lib.hid (HW.at 1 rfl)
    have K2 : Hid (Sto (Old wr) wr _ s) := Lib.hid (HW.at 5 rfl)
    clear hS CW HW
    go_wp2_with fail
    with_reducible refine (refSameR_any _ _ s s _ K1.out K2.out).mono ?_
    rintro e w12 ⟨rfl, hb12⟩
    rw [sameR_refl]
    have BF := Lib.hid (BW.out.trans (hb12.mono BW.out.size))
    clear hb12
    go_wp2_with fail
    go_ret
    exact ⟨rfl, BF.out⟩
  obtain ⟨x, hx⟩ : ∃ x, V[j]? = some x := ⟨_, List.getElem?_eq_getElem (by rw [hn.out]; exact hlt)⟩
  obtain ⟨rd, E, ce, rfl, hok, hat, hit, q1, q2, _⟩ := its_at HA.out hx
  obtain ⟨d9, e9, _, hby⟩ := hit
  have ed9 : d9 = .slice E x.2.2.length ce := by injection e9 with e; simpa using e.symm
  subst ed9
  obtain ⟨_, _, e10, _, _, HE0⟩ := rBy_open hby
  cases e10
  have HE := Lib.hid HE0
  obtain ⟨q, hq⟩ : ∃ q, x.2.2.length = q := ⟨_, rfl⟩
  have c4 := hat.c4
  have ltr := hat.lt
  rw [hq] at q1 c4
  have HC4 := Lib.hid c4
  replace hq := Lib.hid hq
  have i1 : (0 : Int) ≤ (j : Int) := by omega
  have i2 : (j : Int) < (n : Int) := by omega
  have hS0 := hS
  clear HE0 hby hx hok hat e9 c4
  go_wp2_with fail
  go_loopw [21] (fun i wi => ∃ k : Nat, k ≤ q ∧ i = .int .i64 k ∧ Turn6 w4.heap.size w5.heap.size wc wi) (fun i _ => q - (intOf i).toNat)
  case atStart => exact ⟨0, by omega, rfl, hS0⟩
  case round =>
  clear hS hS0
  obtain ⟨k, hk, rfl, hT⟩ := hrel
  have c4 := hT.rest ⟨(rd.add (j * 5)).block, (rd.add (j * 5)).off + 4, none⟩ _ _ _ ltr HC4.out
  by_cases hl2 : k < q
  · obtain ⟨bd, rfl, hok2, hcb⟩ := HE.out k (by rw [hq.out]; exact hl2)
    have hlt2 : (bd.add k).block < wc.heap.size := Nat.lt_of_lt_of_le hok2.2.1 hhi0
    obtain ⟨y, hy⟩ := hT.byte (bd.add k) _ hlt2 hcb
    have hf := (hT.fro _ hlt2).trans hok2.2.2
    have hadd := u8_succ3 y
    have hst := Lib.hid (hT.stepU hok2.1 hok2.2.1 hy (y + 1))
    generalize (y + 1) = y' at *
    replace hok2 := Lib.hid hok2
    clear hcb hT hlt2
    go_wp2_with fail
    go_still_tail 16, (by kernel_rfl)
    change wpList _ _ _ _ _ wr.drew
    go_wp2
    go_roundw
    case rel => exact ⟨k + 1, by omega, by go_num, hst.out.drew⟩
    case measure => simp [intOf]; omega
  · have hst := Lib.hid hT
    clear hT
    go_wp2_with fail
    go_roundw
    case rel => exact ⟨j + 1, by omega, by go_num, hst.out⟩
    case measure => simp [intOf]; omega

/-! ### The row's step -/
set_option maxRecDepth 100000 in
theorem lifted (os : Os) (started : os.Started) (H : Type) (enc : TypeId × Value → H) :
    ReturnsInHanded {} Tryz.checked os 4 .any (Rows.walkDoesSpec.pre6 enc Tryz.prog Tryz.f4 Rows.walkDoesRow.domain false) (Rows.walkDoesSpec.post enc Tryz.prog Tryz.f4 false true false false) := by
  refine returnsInHanded_of_change (C := Tryz.checked) own started (by kernel_rfl) Tryz.func4
    (ChangeSpec.witness6 (enc := enc) (C := Tryz.checked) false ⟨#[], #[.agg #[.slice none 0 0, .slice none 0 0, .slice none 0 0, .slice none 0 0], .int .i64 0, .agg #[.int .u8 0, .int .u32 0, .int .u32 0], .agg #[.int .u8 0, .int .u32 0, .int .u32 0]], []⟩ 8 (by kernel_rfl) (by kernel_rfl) (by kernel_rfl) (by kernel_rfl)) ?_
  intro W base args ds gs before hval0 hW _ _
  have hval : ∀ (j : Nat) t v, Tryz.f4.params[j]? = some t → args[j]? = some v → Value.okWide Tryz.prog W .any base t v := hval0
  have hW' := hW
  obtain ⟨p, q, hA0, hV, _, _, _⟩ := hW
  have hA : DataW.TrodAll enc Tryz.prog W 0 (fun _ => true) true Tryz.f4.params.toList args.toList ds p := hA0
  rw [Tryz.params4] at hA hval
  obtain ⟨v0, vs0, d0, ds0, p0, q0, hargs, rfl, _, h0, r0⟩ := trodAll_cons hA
  obtain ⟨v1, vs1, d1, ds1, p1, q1, rfl, rfl, _, h1, r1⟩ := trodAll_cons r0
  obtain ⟨v2, vs2, d2, ds2, p2, q2, rfl, rfl, _, h2, r2⟩ := trodAll_cons r1
  obtain ⟨v3, vs3, d3, ds3, p3, q3, rfl, rfl, _, h3, r3⟩ := trodAll_cons r2
  obtain ⟨rfl, rfl, _⟩ := trodAll_nil r3
  obtain rfl : args = #[v0, v1, v2, v3] := by cases args; simp_all
  obtain ⟨rfl, _⟩ := trodVars_none hV
  obtain ⟨d0x, y0⟩ := open_store (hval 0 29 v0 rfl rfl) h0
  obtain ⟨a1, rfl, _, _, w1⟩ := open_int Tryz.underlying3 (hval 1 3 v1 rfl rfl) h1
  obtain ⟨k2x, rfl, _⟩ := open_key (hval 2 38 v2 rfl rfl) h2
  obtain ⟨k3x, rfl, _⟩ := open_key (hval 3 38 v3 rfl rfl) h3
  clear hA0 hval0
  refine (walk v0 d0x a1 w1 k2x k3x W y0).mono fun e W' ⟨he, hb⟩ => ?_
  subst he
  exact ⟨_, rfl, law_post laidOut (by rw [Tryz.params4]; decide +kernel) (by kernel_rfl) Tryz.underlying4 rfl ⟨rfl, by simp [Rows.walkDoesSpec], rfl⟩ hW' hb⟩

theorem over : Rows.walkDoesRow.holds Tryz.pinned (OpenSpec.ofChange Rows.walkDoesSpec) :=
  OpenClaim.holds_of_wide 4 Tryz.f4 rfl rfl rfl rfl rfl rfl rfl ⟨rfl, rfl, rfl, rfl, rfl⟩ rfl rfl rfl rfl rfl (by kernel_rfl) Tryz.func4 (by kernel_rfl)
    (of_decide_eq_true (by kernel_rfl)) (by unfold Func.isWrapper; first | (rw [if_pos (by decide +kernel)]; kernel_rfl) | (rw [if_neg (by decide +kernel)]; exact ⟨rfl, rfl⟩))
    (fun os started H enc _ => lifted os started H enc)

end Go.Proofs.YtdaidhbmfocodaaGreat.walkDoes
namespace Go.Proofs.YtdaidhbmfocodaaGreat
theorem walkDoes_proved : Rows.WalkDoesSaid := walkDoes.over
end Go.Proofs.YtdaidhbmfocodaaGreat
