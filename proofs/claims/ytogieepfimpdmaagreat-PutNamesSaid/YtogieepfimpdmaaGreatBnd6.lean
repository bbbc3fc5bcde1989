/-
  Lemmas on the program and on the document's answers, gathered: PuLaw, FnRef, FnFind, PuNames. Conditions: those that each lemma states.
-/
import Derived.Test.YtogieepfimpdmaaGreatBnd5
import Derived.WalkMore
/-
  The laws of layer 12: key, grown, alive. Conditions: those that each lemma states.
-/
namespace Go.Proofs.YtogieepfimpdmaaGreat
open Go.RowKit

set_option maxRecDepth 100000 in
theorem keyP_any (x : Int) (w : World) : Calls Tryz.prog 11 #[.int .u32 x] w fun e w' => e = .returned (.agg #[.int .u8 2, .int .u32 0, .int .u32 x]) ∧ Below w.heap.size w w' := by
  obtain ⟨w1, hw1, f1, f2, f3, hs1, hB1, _⟩ := box_three w (.int .u8 2) (.int .u32 0) (.int .u32 x) 37
  go_enter Tryz.func11, Tryz.ntmps11
  go_wp2_with fail
  exact bodyPost_ret (v := .agg #[.int .u8 2, .int .u32 0, .int .u32 x]) (by simp [results, Tryz.results11, go_sem, f1, f2, f3]) rfl ⟨rfl, hB1⟩

theorem gS_all (n : Nat) (h : n ≤ 5) : insO (gS n).1 (gS n).2 (kx (n + 1)) = (0, (gS (n + 1)).1, (gS (n + 1)).2) := by
  rcases Nat.lt_or_ge n 5 with h5 | h5
  · exact gS_ins n h5
  · obtain rfl : n = 5 := by omega
    obtain ⟨T, e, _⟩ := six_made
    rw [gS_succ 5, e]
/-- Put, into what was grown. -/
theorem put_lf {s : Rm} {a : Nat} {L : List It} {m : Nat} (h : Lf s a L m) {x : It} (hx : InI x) (hm : mayI x = true) (h0 : x.2.1 = 0) {l : List Sv} (hl : ckE s (a : Int) = 0 → citE s x = 0 → WayL s x.1 (a : Int) l) : putS s (a : Int) x l = insO s (a : Int) x := by
  have hck := h.tree.2.2.1
  have hci : citE s x = 0 := by
    unfold citE
    rw [if_pos hm, if_neg (fun h => h.1 h0)]
  refine (putS_is (P := fun i => if i = a then 1 else 0) hx hck hci (List.mem_singleton.2 rfl) (h.enf.same fun i => ?_) (hl hck hci)).1
  have hh : hold x i = 0 := by unfold hold; rw [if_neg (fun h => h.1 h0)]
  show (if i = a then 1 else 0) + hold x i = _
  rw [hh]
  rfl
theorem put_gS (n : Nat) (h : n ≤ 5) (qa qb qc qd : Option Addr × Nat × Nat) (w : World) (hS : Sto (Old w) w (.agg #[.slice qa.1 qa.2.1 qa.2.2, .slice qb.1 qb.2.1 qb.2.2, .slice qc.1 qc.2.1 qc.2.2, .slice qd.1 qd.2.1 qd.2.2]) (gS n).1) :
    Calls Tryz.prog 10 #[.agg #[.slice qa.1 qa.2.1 qa.2.2, .slice qb.1 qb.2.1 qb.2.2, .slice qc.1 qc.2.1 qc.2.2, .slice qd.1 qd.2.1 qd.2.2], .int .i64 (gS n).2, .agg #[.int .u8 2, .int .u32 0, .int .u32 ((n + 1 : Nat) : Int), .int .i64 0, .slice none 0 0]] w fun e w' => ∃ qa qb qc qd : Option Addr × Nat × Nat,
      e = .returned (.tuple #[.agg #[.slice qa.1 qa.2.1 qa.2.2, .slice qb.1 qb.2.1 qb.2.2, .slice qc.1 qc.2.1 qc.2.2, .slice qd.1 qd.2.1 qd.2.2], .int .i64 (gS (n + 1)).2, .int .i64 0]) ∧ Sto (New w.heap.size w') w' (.agg #[.slice qa.1 qa.2.1 qa.2.2, .slice qb.1 qb.2.1 qb.2.2, .slice qc.1 qc.2.1 qc.2.2, .slice qd.1 qd.2.1 qd.2.2]) (gS (n + 1)).1 ∧ Below w.heap.size w w' := by
  obtain ⟨h1, h2⟩ := gS_lf n h
  obtain ⟨hi, hz⟩ := Ls_in (n + 1) (by omega) (kx (n + 1)) (List.mem_append_right _ (List.mem_singleton.2 rfl))
  refine (putPut_any qa qb qc qd (gS n).1 (gS n).2 (kx (n + 1)) none 0 w hS ⟨_, rfl, hi, rBy_part0 _ _ none⟩).mono ?_
  rintro e w' ⟨l, ra, rb, rc, rd, hl, rfl, hs, hb⟩
  have hm : mayI (kx (n + 1)) = true := mayI_mk ⟨.inl rfl, by show (0 : Nat) ≤ 12; omega⟩
  have hp : putS (gS n).1 (gS n).2 (kx (n + 1)) l = (0, (gS (n + 1)).1, (gS (n + 1)).2) := by
    rw [← gS_all n h]
    rw [h2] at hl ⊢
    exact put_lf h1 hi hm hz hl
  rw [hp] at hs ⊢
  exact ⟨ra, rb, rc, rd, rfl, hs, hb⟩

def PhT (lo : Nat) (R : Int) (s : Rm) (v : Value) (W : World) : Prop := ∃ pa pb pc pd : Option Addr × Nat × Nat, v = .tuple #[.agg #[.slice pa.1 pa.2.1 pa.2.2, .slice pb.1 pb.2.1 pb.2.2, .slice pc.1 pc.2.1 pc.2.2, .slice pd.1 pd.2.1 pd.2.2], .int .i64 R, .int .i64 0] ∧ Sto (New lo W) W (.agg #[.slice pa.1 pa.2.1 pa.2.2, .slice pb.1 pb.2.1 pb.2.2, .slice pc.1 pc.2.1 pc.2.2, .slice pd.1 pd.2.1 pd.2.2]) s
def PhA (lo : Nat) (s : Rm) (v : Value) (W : World) : Prop := ∃ pa pb pc pd : Option Addr × Nat × Nat, v = .agg #[.slice pa.1 pa.2.1 pa.2.2, .slice pb.1 pb.2.1 pb.2.2, .slice pc.1 pc.2.1 pc.2.2, .slice pd.1 pd.2.1 pd.2.2] ∧ Sto (New lo W) W (.agg #[.slice pa.1 pa.2.1 pa.2.2, .slice pb.1 pb.2.1 pb.2.2, .slice pc.1 pc.2.1 pc.2.2, .slice pd.1 pd.2.1 pd.2.2]) s
theorem PhT.below {lo : Nat} {R : Int} {s : Rm} {v : Value} {W W' : World} (h : PhT lo R s v W) (hb : Below W.heap.size W W') : PhT lo R s v W' := by
  obtain ⟨pa, pb, pc, pd, e, h⟩ := h
  exact ⟨pa, pb, pc, pd, e, h.new (Nat.le_refl _) hb⟩
theorem PhA.below {lo : Nat} {s : Rm} {v : Value} {W W' : World} (h : PhA lo s v W) (hb : Below W.heap.size W W') : PhA lo s v W' := by
  obtain ⟨pa, pb, pc, pd, e, h⟩ := h
  exact ⟨pa, pb, pc, pd, e, h.new (Nat.le_refl _) hb⟩
def GrwR (s : Rm) (R : Int) (w : World) (e : Ending) (w' : World) : Prop := ∃ qa qb qc qd : Option Addr × Nat × Nat,
      e = .returned (.tuple #[.agg #[.slice qa.1 qa.2.1 qa.2.2, .slice qb.1 qb.2.1 qb.2.2, .slice qc.1 qc.2.1 qc.2.2, .slice qd.1 qd.2.1 qd.2.2], .int .i64 R, .bool true]) ∧ Sto (Old w') w' (.agg #[.slice qa.1 qa.2.1 qa.2.2, .slice qb.1 qb.2.1 qb.2.2, .slice qc.1 qc.2.1 qc.2.2, .slice qd.1 qd.2.1 qd.2.2]) s ∧ Below w.heap.size w w'

set_option maxRecDepth 100000 in
set_option maxHeartbeats 8000000 in
theorem grown_any (many : Nat) (hmany : many ≤ 6) (w : World) : Calls Tryz.prog 9 #[.int .u32 (many : Int)] w (GrwR (gS many).1 (gS many).2 w) := by
  obtain ⟨w1, hw1, b1, hs1, hB1⟩ := box_4 w (.slice none 0 0) (.slice none 0 0) (.slice none 0 0) (.slice none 0 0) 29
  obtain ⟨e1, e2, hlf⟩ := lf_new
  have hr0 : (gS 0).2 = (8 : Int) := by rw [(gS_lf 0 (by omega)).2]; rfl
  have hv0 : mkV newR zeroN = (gS 0).1 := by unfold gS; rfl
  have hPut := Lib.hid put_gS
  have B1 := Lib.hid hB1
  have G1 := Lib.hid b1
  have SZ := Lib.hid hs1
  have hNew : Hid (∀ v W, Sto (Old W) W v newR → ∃ qa qb qc qd : Option Addr × Nat × Nat, v = .agg #[.slice qa.1 qa.2.1 qa.2.2, .slice qb.1 qb.2.1 qb.2.2, .slice qc.1 qc.2.1 qc.2.2, .slice qd.1 qd.2.1 qd.2.2]) := Lib.hid fun v W h => by
    obtain ⟨A, ca, B, cb, N, cn, L, cl, rfl, _⟩ := h.open
    exact ⟨(A, _, ca), (B, _, cb), (N, _, cn), (L, _, cl), rfl⟩
  replace hs1 := Lib.hid hs1
  replace hr0 := Lib.hid hr0
  replace hv0 := Lib.hid hv0
  replace e1 := Lib.hid e1
  replace e2 := Lib.hid e2
  clear hlf hB1 b1
  go_enter Tryz.func9, Tryz.ntmps9
  go_upto_region 1 with fail
  clear hw1
  go_wp2_with fail
  with_reducible refine (newR_any _).mono ?_
  rintro e w2 ⟨t, rfl, ht, hb2⟩
  obtain ⟨pa, pb, pc, pd, rfl⟩ := hNew.out t w2 ht.drop
  have hN2 := Lib.hid (putNew_any pa pb pc pd newR w2 ht.drop)
  have B2 := Lib.hid hb2
  clear ht hb2
  go_wp2_with fail
  with_reducible refine (hN2.out).mono ?_
  rintro e w3 ⟨ra, rb, rc, rd, rfl, hS3, hb3⟩
  rw [e1.out, e2.out]
  rw [hv0.out] at hS3
  obtain ⟨w4, hw4, b4, hs4, hB4⟩ := box_4 w3 (.slice ra.1 ra.2.1 ra.2.2) (.slice rb.1 rb.2.1 rb.2.2) (.slice rc.1 rc.2.1 rc.2.2) (.slice rd.1 rd.2.1 rd.2.2) 29
  have B14 := Lib.hid (B2.out.trans ((hb3.trans (hB4.mono hb3.size)).mono B2.out.size))
  have S4 := Lib.hid ((hS3.new (lo' := w1.heap.size) B2.out.size (hB4.mono (Nat.le_refl _))))
  have G4 := Lib.hid b4
  have sz3 := Lib.hid (show w1.heap.size ≤ w3.heap.size from Nat.le_trans B2.out.size hb3.size)
  replace hs4 := Lib.hid hs4
  clear hS3 hb3 hB4 b4 hN2
  go_upto_region 2 with fail
  clear hw4
  go_wp2_with fail
  go_loopw [6, 7, 8] (fun rv ev nv wr => ∃ (n : Nat) (qa qb qc qd : Option Addr × Nat × Nat), n ≤ many ∧ rv = .int .i64 (gS n).2 ∧ ev = .int .i64 0 ∧ nv = .int .u32 ((n + 1 : Nat) : Int) ∧ wr.heap[w3.heap.size]? = some (.cells #[.slice qa.1 qa.2.1 qa.2.2, .slice qb.1 qb.2.1 qb.2.2, .slice qc.1 qc.2.1 qc.2.2, .slice qd.1 qd.2.1 qd.2.2] 29 (0, 0)) ∧
    Sto (New w1.heap.size wr) wr (.agg #[.slice qa.1 qa.2.1 qa.2.2, .slice qb.1 qb.2.1 qb.2.2, .slice qc.1 qc.2.1 qc.2.2, .slice qd.1 qd.2.1 qd.2.2]) (gS n).1 ∧ Below w1.heap.size w1 wr) (fun _ _ nv _ => 10 - (intOf nv).toNat)
  case atStart => exact ⟨0, ra, rb, rc, rd, by omega, by rw [hr0.out], rfl, rfl, G4.out, S4.out, B14.out⟩
  case round =>
    obtain ⟨n, qa, qb, qc, qd, hn, rfl, rfl, rfl, hbx, hS, hB⟩ := hrel
    obtain ⟨k0, k1, k2, k3, kf, _⟩ := four_cells hbx
    have hn63 : ((n + 1 : Nat) : Int) < 4294967296 := by omega
    by_cases hlt : n < many
    case neg =>
      obtain rfl : n = many := by omega
      have hle : ¬ (((n + 1 : Nat) : Int) ≤ (n : Int)) := by omega
      obtain ⟨W9, hW9, g9, gr9, gs9⟩ := put_four (a' := .slice qa.1 qa.2.1 qa.2.2) (b' := .slice qb.1 qb.2.1 qb.2.2) (c' := .slice qc.1 qc.2.1 qc.2.2) (d' := .slice qd.1 qd.2.1 qd.2.2) ((hB.block w.heap.size (by have := SZ.out; omega)).trans G1.out)
      obtain ⟨y0, y1, y2, y3, _, _⟩ := four_cells g9
      obtain ⟨u0, u1, u2, u3, uf, _⟩ := four_cells ((hB.block w.heap.size (by have := SZ.out; omega)).trans G1.out)
      have hfin := Lib.hid (show Sto (Old W9) W9 (.agg #[.slice qa.1 qa.2.1 qa.2.2, .slice qb.1 qb.2.1 qb.2.2, .slice qc.1 qc.2.1 qc.2.2, .slice qd.1 qd.2.1 qd.2.2]) (gS n).1 from (hS.grown gr9 (fun q e => by cases e; have := SZ.out; omega)).drop)
      have hB9 := Lib.hid ((B1.out.trans (hB.mono B1.out.size)).grown gr9 (B1.out.trans (hB.mono B1.out.size)).size (fun q e => by cases e; omega))
      obtain ⟨R, hR⟩ : ∃ q, (gS n).2 = q := ⟨_, rfl⟩
      have hfin2 : Hid (GrwR (gS n).1 (gS n).2 w (.returned (.tuple #[.agg #[.slice qa.1 qa.2.1 qa.2.2, .slice qb.1 qb.2.1 qb.2.2, .slice qc.1 qc.2.1 qc.2.2, .slice qd.1 qd.2.1 qd.2.2], .int .i64 R, .bool true])) W9) := Lib.hid ⟨qa, qb, qc, qd, by rw [hR], hfin.out, hB9.out⟩
      obtain ⟨X, hX⟩ : ∃ q : Int, ((n + 1 : Nat) : Int) = q := ⟨_, rfl⟩
      rw [hX] at hle hn63
      rw [hR, hX]
      replace hR := Lib.hid hR
      replace hX := Lib.hid hX
      replace g9 := Lib.hid g9
      clear gr9 gs9 hS hB hbx
      go_wp2_with fail
      exact bodyPost_ret (v := .tuple #[.agg #[.slice qa.1 qa.2.1 qa.2.2, .slice qb.1 qb.2.1 qb.2.2, .slice qc.1 qc.2.1 qc.2.2, .slice qd.1 qd.2.1 qd.2.2], .int .i64 R, .bool true]) (by simp [results, Tryz.results9, go_sem, y0, y1, y2, y3]) rfl hfin2.out
    have hle : ((n + 1 : Nat) : Int) ≤ (many : Int) := by omega
    have hPn := Lib.hid (hPut.out n (by omega))
    obtain ⟨R, hR⟩ : ∃ q, (gS n).2 = q := ⟨_, rfl⟩
    obtain ⟨R', hR'⟩ : ∃ q, (gS (n + 1)).2 = q := ⟨_, rfl⟩
    obtain ⟨s0, hs0⟩ : ∃ q, (gS n).1 = q := ⟨_, rfl⟩
    obtain ⟨s1, hs1'⟩ : ∃ q, (gS (n + 1)).1 = q := ⟨_, rfl⟩
    obtain ⟨X, hX⟩ : ∃ q : Int, ((n + 1 : Nat) : Int) = q := ⟨_, rfl⟩
    rw [hR, hR', hs0, hs1', hX] at hPn
    rw [hs0] at hS
    rw [hX] at hle hn63
    rw [hR, hX]
    replace hR := Lib.hid hR
    replace hR' := Lib.hid hR'
    replace hs0 := Lib.hid hs0
    replace hs1' := Lib.hid hs1'
    have hX1 : 1 ≤ X := by omega
    replace hX := Lib.hid hX
    have hS' := Lib.hid hS
    have hB' := Lib.hid hB
    have hbx' := Lib.hid hbx
    have KB := Lib.hid (fun W (hW : Below wr.heap.size wr W) => four_cells ((hW.block w3.heap.size (Array.getElem?_eq_some_iff.1 hbx'.out).1).trans hbx'.out))
    clear hS hB hbx k0 k1 k2 k3 kf hPut
    go_upto_region 5 with fail
    refine wp_region_late (ops' := ?opsLate) (by kernel_rfl) [(10, 8), (10, 9), (11, 9)] ?he (by kernel_rfl) (fun d _ _ _ _ h => by cases d <;> exact h) 10 (fun W => Below wr.heap.size wr W) (fun i => match i with
        | 5 => some (fun v W => PhT wr.heap.size R' s1 v W)
        | 6 => some (fun v W => PhT wr.heap.size R' s1 v W)
        | 7 => some (fun v W => PhA wr.heap.size s1 v W)
        | _ => none) (fun i => match i with
        | 3 => some (.agg #[.int .u8 2, .int .u32 0, .int .u32 X])
        | 8 => some (.int .i64 R')
        | 9 => some (.int .i64 0)
        | _ => none) ?h1 ?h2 ?h3 (Below.refl _ _).drew (fun w w' h hb => h.trans (hb.mono h.size)) ?tst ?_
    case he =>
      simp [withEdges]
      rfl
    case h1 => decide
    case h2 => kernel_rfl
    case h3 => kernel_rfl
    case tst =>
      intro j φ x W W' hp hx hb
      match j, hp with
      | 5, hp => cases hp; exact hx.below hb
      | 6, hp => cases hp; exact hx.below hb
      | 7, hp => cases hp; exact hx.below hb
    simp only [List.take_succ_cons, List.take_zero, List.drop_succ_cons, List.drop_zero]
    repeat (first
      | (refine wpAs_skip rfl ?_; simp only [Act.put, List.setIfInBounds_toArray, List.set_cons_zero, List.set_cons_succ])
      | (refine wpAs_pure (v := ?_) rfl rfl ?_ ?_; rotate_left; (intro W hC hE; clear hE; (obtain ⟨k0, k1, k2, k3, _⟩ := KB.out W hC); clear hC; go_simp; done); simp only [Act.put, List.setIfInBounds_toArray, List.set_cons_zero, List.set_cons_succ])
      | (refine wpAs_pure (v := ?_) rfl rfl ?_ ?_; rotate_left; (intro W hC hE; clear hE; (obtain ⟨k0, k1, k2, k3, _⟩ := KB.out W hC); clear hC; go_simp; with_reducible rfl); simp only [Act.put, List.setIfInBounds_toArray, List.set_cons_zero, List.set_cons_succ]))
    refine wpAs_fixed rfl rfl rfl ?_ ?_
    · intro W hC hE
      refine does_enter (f := 11) (args := #[.int .u32 X]) ?_ ?_
      · go_simp
      · refine (keyP_any X W).mono ?_
        (rintro e W' ⟨rfl, hg⟩)
        exact ⟨_, rfl, rfl, hg⟩
    simp only [Act.put, List.setIfInBounds_toArray, List.set_cons_zero, List.set_cons_succ]
    repeat (first
      | (refine wpAs_skip rfl ?_; simp only [Act.put, List.setIfInBounds_toArray, List.set_cons_zero, List.set_cons_succ])
      | (refine wpAs_pure (v := ?_) rfl rfl ?_ ?_; rotate_left; (intro W hC hE; clear hE; skip; clear hC; go_simp; done); simp only [Act.put, List.setIfInBounds_toArray, List.set_cons_zero, List.set_cons_succ])
      | (refine wpAs_pure (v := ?_) rfl rfl ?_ ?_; rotate_left; (intro W hC hE; clear hE; skip; clear hC; go_simp; with_reducible rfl); simp only [Act.put, List.setIfInBounds_toArray, List.set_cons_zero, List.set_cons_succ]))
    refine wpAs_act rfl rfl ?_ ?_
    · intro W hC hE
      clear hE
      refine does_enter (f := 10) (args := #[.agg #[.slice qa.1 qa.2.1 qa.2.2, .slice qb.1 qb.2.1 qb.2.2, .slice qc.1 qc.2.1 qc.2.2, .slice qd.1 qd.2.1 qd.2.2], .int .i64 R, .agg #[.int .u8 2, .int .u32 0, .int .u32 X, .int .i64 0, .slice none 0 0]]) ?_ ?_
      · go_simp
      · refine (hPn.out qa qb qc qd W (hS'.out.drop.below hC)).mono ?_
        rintro e W' ⟨pa, pb, pc, pd, rfl, hz, hb⟩
        exact ⟨_, rfl, ⟨pa, pb, pc, pd, rfl, hz.new hC.size (Below.refl _ _)⟩, hb⟩
    simp only [Act.put, List.setIfInBounds_toArray, List.set_cons_zero, List.set_cons_succ, envAdd]
    intro x5
    refine wpAs_act rfl rfl ?_ ?_
    · intro W hC hE
      have h7 := hE.1 rfl
      clear hE hC
      go_simp
      exact ⟨h7, Below.refl _ _⟩
    simp only [Act.put, List.setIfInBounds_toArray, List.set_cons_zero, List.set_cons_succ, envAdd]
    intro x6
    refine wpAs_act rfl rfl ?_ ?_
    · intro W hC hE
      obtain ⟨pa, pb, pc, pd, rfl, hz⟩ := hE.1 rfl
      have hz' := Lib.hid hz
      clear hE hz hC
      go_simp
      exact ⟨⟨pa, pb, pc, pd, rfl, hz'.out⟩, Below.refl _ _⟩
    simp only [Act.put, List.setIfInBounds_toArray, List.set_cons_zero, List.set_cons_succ, envAdd]
    intro x7
    refine wpAs_fixed rfl rfl rfl ?_ ?_
    · intro W hC hE
      obtain ⟨pa, pb, pc, pd, rfl, hz⟩ := hE.2.1 rfl
      clear hE hz hC
      go_simp
      exact ⟨rfl, Below.refl _ _⟩
    simp only [Act.put, List.setIfInBounds_toArray, List.set_cons_zero, List.set_cons_succ]
    refine wpAs_fixed rfl rfl rfl ?_ ?_
    · intro W hC hE
      obtain ⟨pa, pb, pc, pd, rfl, hz⟩ := hE.2.1 rfl
      clear hE hz hC
      go_simp
      exact ⟨rfl, Below.refl _ _⟩
    simp only [Act.put, List.setIfInBounds_toArray, List.set_cons_zero, List.set_cons_succ]
    refine wpAs_end fun W hC hE => ?_
    obtain ⟨h7, _⟩ := hE
    obtain ⟨pa, pb, pc, pd, rfl, hz⟩ := h7
    obtain ⟨u0, u1, u2, u3, uf, _⟩ := KB.out W hC
    obtain ⟨W9, hW9, g9, gr9, gs9⟩ := put_four (a' := .slice pa.1 pa.2.1 pa.2.2) (b' := .slice pb.1 pb.2.1 pb.2.2) (c' := .slice pc.1 pc.2.1 pc.2.2) (d' := .slice pd.1 pd.2.1 pd.2.2) ((hC.block w3.heap.size (Array.getElem?_eq_some_iff.1 hbx'.out).1).trans hbx'.out)
    have S9 := Lib.hid ((hz.grown gr9 (fun q e => by cases e; exact (Array.getElem?_eq_some_iff.1 hbx'.out).1)).new (lo' := w1.heap.size) hB'.out.size (Below.refl _ _))
    have BW := Lib.hid ((hB'.out.trans (hC.mono hB'.out.size)).grown gr9 (hB'.out.trans (hC.mono hB'.out.size)).size (fun q e => by cases e; exact sz3.out))
    have g9' := Lib.hid g9
    clear hC hz gr9 gs9 g9
    go_wp2_with fail
    go_roundw
    case rel => exact ⟨n + 1, pa, pb, pc, pd, by omega, by rw [hR'.out], rfl, by have := hX.out; go_num, g9'.out, by rw [hs1'.out]; exact S9.out, BW.out⟩
    case measure => have := hX.out; simp [intOf]; omega

theorem gS_six : (gS 6).2 = 11 ∧ mayR (gS 6).1 = true ∧ rmE (gS 6).1 11 = 0 ∧ rmV (gS 6).1 11 = (1, upS) ∧ rmE (gS 6).1 8 = 0 ∧ rmV (gS 6).1 8 = (0, (Ls 6).take 3) ∧ ckE (gS 6).1 11 = 0 ∧ ckH (gS 6).1 11 = 2 := by
  obtain ⟨T, e, h1, h2, h3, h4, h5, h6, h7⟩ := six_made
  have eg : gS 6 = (T, 11) := by rw [gS_succ 5, e]
  rw [eg]
  exact ⟨rfl, h1, h2, h3, h4, h5, six_tree h2 h3 h4 h5 h6 h7⟩
theorem grown_six (w : World) : Calls Tryz.prog 9 #[.int .u32 6] w (GrwR (gS 6).1 11 w) := by
  have := grown_any 6 (Nat.le_refl _) w
  rw [gS_six.1] at this
  exact this

set_option maxRecDepth 100000 in
set_option maxHeartbeats 8000000 in
theorem alive12 (w : World) : Calls Tryz.prog 8 #[] w fun e w' => e = .returned (.bool true) ∧ Below w.heap.size w w' := by
  obtain ⟨-, -, -, -, -, -, hE, hH⟩ := gS_six
  have hG := Lib.hid (fun W => grown_six W)
  obtain ⟨T, hT⟩ : ∃ T, (gS 6).1 = T := ⟨_, rfl⟩
  rw [hT] at hE hH hG
  replace hT := Lib.hid hT
  have hCk : Hid (∀ v W, Sto (Old W) W v T → Calls Tryz.prog 14 #[v, .int .i64 11] W fun e w' => e = .returned (.tuple #[.int .i64 2, .int .i64 0]) ∧ Below W.heap.size W w') := Lib.hid fun v W hW => by
    have := findCheck_any v T 11 W hW
    rw [hE, hH] at this
    exact this
  clear hE hH
  go_enter Tryz.func8, Tryz.ntmps8
  go_upto_region 1 with fail
  go_wp2_with fail
  with_reducible refine (hG.out _).mono ?_
  rintro e w1 ⟨qa, qb, qc, qd, rfl, h1, hb1⟩
  obtain ⟨w2, hw2, b2, hs2, hB2⟩ := box_4 w1 (.slice qa.1 qa.2.1 qa.2.2) (.slice qb.1 qb.2.1 qb.2.2) (.slice qc.1 qc.2.1 qc.2.2) (.slice qd.1 qd.2.1 qd.2.2) 29
  obtain ⟨k0, k1, k2, k3, _⟩ := four_cells b2
  have S2 := Lib.hid (h1.below hB2)
  have B2 := Lib.hid (hb1.trans (hB2.mono hb1.size))
  replace hs2 := Lib.hid hs2
  clear h1 hb1 hB2 hG b2
  go_upto_region 2 with fail
  clear hw2
  go_wp2_with fail
  with_reducible refine (hCk.out _ _ S2.out).mono ?_
  rintro e w3 ⟨rfl, hb3⟩
  have B3 := Lib.hid (B2.out.trans (hb3.mono B2.out.size))
  clear hb3 k0 k1 k2 k3
  go_wp2_with fail
  go_ret
  exact ⟨rfl, B3.out⟩
end Go.Proofs.YtogieepfimpdmaaGreat

/-
  The document's Find of layer 10. Conditions: those that each lemma states.
-/
namespace Go.Proofs.YtogieepfimpdmaaGreat
open Go.RowKit

noncomputable def fdE (s : Rm) (a : Int) (k : Ky) : Int := if ckE s a = 0 then (if (theO s a k).isSome = true then 0 else 6) else ckE s a
noncomputable def fdV (s : Rm) (a : Int) (k : Ky) : It := if ckE s a = 0 then (theO s a k).getD zeroI else zeroI
theorem fd_bad {s : Rm} {a : Int} {k : Ky} (h : ckE s a ≠ 0) : fdE s a k = ckE s a ∧ fdV s a k = zeroI := ⟨by rw [fdE, if_neg h], by rw [fdV, if_neg h]⟩
theorem fd_some {s : Rm} {a : Int} {k : Ky} {x : It} (h : ckE s a = 0) (hx : theO s a k = some x) : fdE s a k = 0 ∧ fdV s a k = x := ⟨by rw [fdE, if_pos h, hx]; rfl, by rw [fdV, if_pos h, hx]; rfl⟩
theorem fd_none {s : Rm} {a : Int} {k : Ky} (h : ckE s a = 0) (hx : theO s a k = none) : fdE s a k = 6 ∧ fdV s a k = zeroI := ⟨by rw [fdE, if_pos h, hx]; rfl, by rw [fdV, if_pos h, hx]; rfl⟩
end Go.Proofs.YtogieepfimpdmaaGreat

/-
  Package find: Find. Conditions: those that each lemma states.
-/
namespace Go.Proofs.YtogieepfimpdmaaGreat
open Go.RowKit

theorem nodePlace_open (v : Value) (n : Nd) (key : Ky) (w : World) (h : Nod (Old w) w v n) :
    Calls Tryz.prog 29 #[v, kyV key] w fun e w' => e = .returned (.tuple #[.int .i64 (placeN n key : Nat), .bool (thereN n key)]) ∧ Below w.heap.size w w' := nodePlace_any v n key w h

set_option maxRecDepth 100000 in
set_option maxHeartbeats 8000000 in
theorem findFind_any (v : Value) (s : Rm) (a : Int) (key : Ky) (w : World) (h : Sto (Old w) w v s) :
    Calls Tryz.prog 12 #[v, .int .i64 a, kyV key] w fun e w' => ∃ u, e = .returned (.tuple #[u, .int .i64 (fdE s a key)]) ∧ Itm (New w.heap.size w') w' u (fdV s a key) ∧ Below w.heap.size w w' := by
  obtain ⟨A, ca, B, cb, N, cn, L, cl, rfl, _⟩ := id h.open
  have hCk := Lib.hid (fun v W hW => findCheck_any v s a W hW)
  have hct := Lib.hid (fun hh => ck_of (s := s) (a := a) hh)
  have hta := Lib.hid (fun ht => tree_at (s := s) (a := a) ht)
  have htl := Lib.hid (fun ht => tree_of (s := s) (a := a) ht)
  have hfb := Lib.hid (fun hh => fd_bad (s := s) (a := a) (k := key) hh)
  have hfs := Lib.hid (fun x hh hx => fd_some (s := s) (a := a) (k := key) (x := x) hh hx)
  have hfn := Lib.hid (fun hh hx => fd_none (s := s) (a := a) (k := key) hh hx)
  obtain ⟨T, hT⟩ : ∃ T, theO s a key = T := ⟨_, rfl⟩
  have hT' : Hid (oneO s (rmV s a).1.toNat a key = T) := Lib.hid hT
  rw [hT] at hfs hfn
  obtain ⟨E0, hE0⟩ : ∃ q, ckE s a = q := ⟨_, rfl⟩
  obtain ⟨H0, hH0⟩ : ∃ q, ckH s a = q := ⟨_, rfl⟩
  rw [hE0] at hCk hct hfb hfs hfn
  rw [hH0] at hCk hct
  obtain ⟨E1, hE1⟩ : ∃ q, fdE s a key = q := ⟨_, rfl⟩
  obtain ⟨V1, hV1⟩ : ∃ q, fdV s a key = q := ⟨_, rfl⟩
  rw [hE1, hV1] at hfb hfs hfn ⊢
  have HG0 : Bag w [OldR (.agg #[.slice A s.1.1.length ca, .slice B s.1.2.length cb, .slice N s.2.1.length cn, .slice L s.2.2.length cl]) s] := (Bag.nil w).add (F := OldR _ s) h (lasts_oldR _ _)
  obtain ⟨w0, hw0, hg0, hB0, _, hs0⟩ := bag_four HG0 (Below.refl _ _) (.slice A s.1.1.length ca) (.slice B s.1.2.length cb) (.slice N s.2.1.length cn) (.slice L s.2.2.length cl) 29
  obtain ⟨w1, hw1, hg1, hB1, _, hs1⟩ := bag_key hg0 (Below.refl _ _) (.int .u8 (key.1.toNat : Int)) (.int .u32 key.2.1) (.int .u32 key.2.2)
  obtain ⟨w2, hw2, _, _, _, _, _, hs2, hB2, G2⟩ := box_five w1 (.int .u8 0) (.int .u32 0) (.int .u32 0) (.int .i64 0) (.slice none 0 0) 40
  have HG := Lib.hid ((hg1.below hB2).add (F := BoxW w1.heap.size _ _) G2 (lasts_boxW _ _ _))
  have BB := Lib.hid ((hB0.trans (hB1.mono hB0.size)).trans (hB2.mono (hB0.trans (hB1.mono hB0.size)).size))
  have lo1 : Hid (w.heap.size ≤ w1.heap.size ∧ w1.heap.size < w2.heap.size) := Lib.hid ⟨(hB0.trans (hB1.mono hB0.size)).size, by omega⟩
  obtain ⟨s0, s1, s2, s3, _⟩ := HG.out.at 2 rfl
  replace hs2 := Lib.hid hs2
  replace hs1 := Lib.hid hs1
  replace hs0 := Lib.hid hs0
  replace hE0 := Lib.hid hE0
  replace hH0 := Lib.hid hH0
  replace hE1 := Lib.hid hE1
  replace hV1 := Lib.hid hV1
  replace hT := Lib.hid hT
  clear HG0 hg1 hg0 h hB2 hB1 hB0 G2
  unfold kyV
  go_enter Tryz.func12, Tryz.ntmps12
  go_wp2_with fail
  go_step3
  go_upto_region 1 with fail
  clear hw0 hw1 hw2
  go_wp2_with fail
  with_reducible refine (hCk.out _ _ (HG.out.at 3 rfl)).mono ?_
  rintro e w3 ⟨rfl, hb3⟩
  have HR := Lib.hid (HG.out.below hb3)
  have BR := Lib.hid (BB.out.trans (hb3.mono BB.out.size))
  have lo3 : Hid (w1.heap.size < w3.heap.size ∧ w.heap.size ≤ w3.heap.size) := Lib.hid ⟨by have := lo1.out; have := hb3.size; omega, BR.out.size⟩
  clear hb3 s0 s1 s2 s3 hCk HG
  by_cases he : E0 = 0
  case neg =>
    have hq1 : (E0 != 0) = true := by simpa using he
    have hf := Lib.hid (hfb.out he)
    have G5 : w3.heap[w1.heap.size]? = _ := HR.out.at 0 rfl
    obtain ⟨W9, hW9, g9, gr9, gs9⟩ := put_five (u0 := .int .u8 0) (u1 := .int .u32 0) (u2 := .int .u32 0) (u3 := .int .i64 0) (u4 := .slice none 0 0) G5
    obtain ⟨n0, n1, n2, n3, n4, _⟩ := five_cells g9
    obtain ⟨f0, f1, f2, f3, f4, f5, _⟩ := five_cells G5
    have hB9 := Lib.hid (BR.out.grown gr9 BR.out.size (fun q e => by cases e; exact lo1.out.1))
    replace G5 := Lib.hid G5
    replace g9 := Lib.hid g9
    clear gr9 gs9 he
    go_wp2_with fail
    rw [Exit.noGoto_ret]
    refine bodyPost_ret (v := .tuple #[.agg #[.int .u8 0, .int .u32 0, .int .u32 0, .int .i64 0, .slice none 0 0], .int .i64 E0]) (by simp [results, Tryz.results12, go_sem, n0, n1, n2, n3, n4]) rfl ?_
    rw [hf.out.1, hf.out.2]
    exact ⟨_, rfl, itm_zero _ _, hB9.out⟩
  obtain ⟨ht, _, hh⟩ := hct.out he
  have hat := Lib.hid (hta.out ht)
  obtain ⟨_, _, _, l0, l6, _⟩ := htl.out ht
  have hfs' := Lib.hid (fun x hx => hfs.out x he hx)
  have hfn' := Lib.hid (fun hx => hfn.out he hx)
  subst he
  obtain ⟨M, hM⟩ : ∃ M, (rmV s a).1.toNat = M := ⟨_, rfl⟩
  rw [hM] at hat hT'
  have hHM : Hid (H0 = (M : Int) + 1) := Lib.hid (by omega)
  have hM6 : Hid (M < 6) := Lib.hid (by omega)
  replace hM := Lib.hid hM
  clear ht hh l0 l6 hct hta htl hfs hfn hfb
  go_wp2_with fail
  go_step3
  go_wp2_with fail
  go_loopw [27, 10] (fun vi va wr => ∃ (i l : Nat) (b : Int), i + l = M ∧ vi = .int .i64 (i : Int) ∧ va = .int .i64 b ∧ AtT s l b ∧ oneO s l b key = T ∧ Below w3.heap.size w3 wr) (fun vi _ _ => 7 - (intOf vi).toNat)
  case atStart => exact ⟨0, M, a, by omega, rfl, rfl, hat.out, hT'.out, Below.refl _ _⟩
  case round =>
    obtain ⟨i, l, b, hil, rfl, rfl, hab, hone, hbr⟩ := hrel
    have HQ := Lib.hid (HR.out.below hbr)
    have BQ := Lib.hid hbr
    have hi5 : i ≤ 5 := by have := hM6.out; omega
    have i0 : (i : Int) < H0 := by have := hHM.out; have := hM6.out; omega
    have hNd := Lib.hid (fun v W hW => nodeR_open v s b W hW)
    have hok := hab.ok
    have hmn := Lib.hid hab.may
    have hlv := Lib.hid hab.lvl
    have hdn := Lib.hid (fun (j : Nat) (hj : l = j + 1) (x : It) (hx : x ∈ (rmV s b).2) => (by subst hj; exact hab.down hx : AtT s j x.2.1))
    have hz := Lib.hid (fun (h0 : l = 0) => (by subst h0; exact hone.symm.trans (oneO_zero s b key) : T = (rmV s b).2.reverse.find? fun x => decide (x.1 = key)))
    have hsu := Lib.hid (fun (j : Nat) (hj : l = j + 1) => (by subst hj; exact hone.symm.trans (oneO_succ s j b key) : T = ((rmV s b).2.reverse.find? fun x => !lessK key x.1).bind fun x => oneO s j x.2.1 key))
    obtain ⟨nd, hnd⟩ : ∃ q, rmV s b = q := ⟨_, rfl⟩
    rw [hok, hnd] at hNd
    rw [hnd] at hmn hlv hdn hz hsu
    have hPl := Lib.hid (fun v W hW => nodePlace_open v nd key W hW)
    obtain ⟨p, hp⟩ : ∃ p, placeN nd key = p := ⟨_, rfl⟩
    obtain ⟨t, htt⟩ : ∃ t, thereN nd key = t := ⟨_, rfl⟩
    rw [hp, htt] at hPl
    obtain ⟨lw, hlw⟩ : ∃ q, nd.1 = q := ⟨_, rfl⟩
    obtain ⟨ll, hl⟩ : ∃ q, nd.2 = q := ⟨_, rfl⟩
    obtain ⟨m, hlm⟩ : ∃ q, ll.length = q := ⟨_, rfl⟩
    rw [hlw, hl, hlm] at hNd
    rw [hl] at hdn hz hsu
    rw [hlw] at hlv
    replace hnd := Lib.hid hnd
    replace hlw := Lib.hid hlw
    replace hl := Lib.hid hl
    replace hlm := Lib.hid hlm
    replace hp := Lib.hid hp
    replace htt := Lib.hid htt
    replace hone := Lib.hid hone
    replace hil := Lib.hid hil
    have hm5 : m ≤ 5 := by
      have := (mayN_of hmn.out).1.2.2.1
      rw [hl.out, hlm.out] at this
      exact this
    clear hok hab hbr
    obtain ⟨s0, s1, s2, s3, _⟩ := HQ.out.at 2 rfl
    go_wp2_with fail
    with_reducible refine (hNd.out _ _ (HQ.out.at 3 rfl)).mono ?_
    rintro e w4 ⟨Z, zc, rfl, -, h4n, hb4⟩
    have h4s : rIts (New wr.heap.size w4) w4 [.slice Z m zc] ll := by
      obtain ⟨_, e, _, h⟩ := h4n
      cases e
      rw [hl.out] at h
      exact h
    obtain ⟨w5, hw5, hg5, hB5, -, hs5⟩ := bag_node (((HQ.out.below hb4).add (F := OldN _ nd) h4n.drop (lasts_oldN _ _)).add (F := NewIs wr.heap.size _ ll) h4s (lasts_newIs _ _ _)) (Below.refl _ _) (.int .i64 lw) (.slice Z m zc)
    have H5 := Lib.hid hg5
    have B5 := Lib.hid (BQ.out.trans ((hb4.trans (hB5.mono hb4.size)).mono BQ.out.size))
    replace hs5 := Lib.hid hs5
    clear s0 s1 s2 s3 hg5 hB5 hb4 h4n h4s hNd
    go_upto_region 8 with fail
    clear hw5
    obtain ⟨y0, y1, _⟩ := H5.out.at 0 rfl
    obtain ⟨t0, t1, t2, _⟩ := H5.out.at 4 rfl
    go_upto_region 10 with fail
    go_wp2_with fail
    with_reducible refine (hPl.out _ _ (H5.out.at 2 rfl)).mono ?_
    rintro e w6 ⟨rfl, hb6⟩
    have H6 := Lib.hid (H5.out.below hb6)
    have B6 := Lib.hid (B5.out.trans (hb6.mono B5.out.size))
    clear hb6 y0 y1 t0 t1 t2 hPl H5 B5
    obtain ⟨y0, y1, _⟩ := H6.out.at 0 rfl
    cases t with
    | true =>
      have hpm : p < m := by
        have := place_in htt.out
        rw [hp.out, hl.out, hlm.out] at this
        exact this
      obtain ⟨x, hx⟩ : ∃ x, ll[p]? = some x := ⟨_, List.getElem?_eq_getElem (by rw [hlm.out]; exact hpm)⟩
      obtain ⟨hxk, hf1, hf2⟩ := place_below hmn.out htt.out (x := x) (by rw [hp.out, hl.out]; exact hx)
      rw [hl.out] at hf1 hf2
      obtain ⟨ad, E5, ce5, rfl, -, FX⟩ := its_new (H6.out.at 1 rfl : rIts (New wr.heap.size w6) w6 [.slice Z m zc] ll) hx
      obtain ⟨⟨z0, z1, z2, z3, z4⟩, hit⟩ := FX w6 (Below.refl _ _)
      have i4 : (0 : Int) ≤ (p : Int) := by omega
      have i5 : (p : Int) < (m : Int) := by omega
      have hxm := Lib.hid (List.mem_of_getElem? hx)
      replace hx := Lib.hid hx
      replace hxk := Lib.hid hxk
      cases l with
      | zero =>
        have e0 : lw = 0 := hlv.out
        have hf := Lib.hid (hfs'.out x ((hz.out rfl).trans hf2))
        replace e0 := Lib.hid e0
        have c0 : (lw == 0) = true := by rw [e0.out]; rfl
        have G5 : w6.heap[w1.heap.size]? = _ := H6.out.at 3 rfl
        obtain ⟨f0, f1, f2, f3, f4, f5, _⟩ := five_cells G5
        obtain ⟨W9, hW9, g9, gr9, gs9⟩ := put_five (u0 := .int .u8 (x.1.1.toNat : Int)) (u1 := .int .u32 x.1.2.1) (u2 := .int .u32 x.1.2.2) (u3 := .int .i64 x.2.1) (u4 := .slice E5 x.2.2.length ce5) G5
        obtain ⟨n0, n1, n2, n3, n4, _⟩ := five_cells g9
        have hfin := Lib.hid (show Itm (New w.heap.size W9) W9 (itV x (.slice E5 x.2.2.length ce5)) x from (hit.grown gr9 (fun q e => by cases e; have := lo3.out; have := BQ.out.size; omega)).new (by have := lo3.out; have := BQ.out.size; omega) (Below.refl _ _))
        have B9 := BR.out.trans (B6.out.mono BR.out.size)
        have hB9 := Lib.hid (B9.grown gr9 B9.size (fun q e => by cases e; exact lo1.out.1))
        replace G5 := Lib.hid G5
        replace g9 := Lib.hid g9
        clear gr9 gs9 hit FX hf1 hf2 B9
        go_wp2_with fail
        rw [Exit.noGoto_ret]
        refine bodyPost_ret (v := .tuple #[itV x (.slice E5 x.2.2.length ce5), .int .i64 0]) (by simp [results, Tryz.results12, go_sem, n0, n1, n2, n3, n4]) rfl ?_
        rw [hf.out.1, hf.out.2]
        exact ⟨_, rfl, hfin.out, hB9.out⟩
      | succ l1 =>
        have c0 : (lw == 0) = false := by have := hlv.out; simp; omega
        have hn1 := Lib.hid (hdn.out l1 rfl x hxm.out)
        have hn2 : Hid (oneO s l1 x.2.1 key = T) := Lib.hid (by rw [hsu.out l1 rfl, hf1]; rfl)
        clear FX hf1 hf2 hit
        go_wp2_with fail
        go_roundw
        case rel => exact ⟨i + 1, l1, x.2.1, by have := hil.out; omega, by go_num, rfl, hn1.out, hn2.out, B6.out⟩
        case measure => have := hil.out; simp [intOf]; omega
    | false =>
      by_cases hp0 : 0 < p
      · have i6 : (0 : Int) < (p : Int) := by omega
        cases l with
        | zero =>
          have e0 : lw = 0 := hlv.out
          have c0 : ¬ (0 : Int) < lw := by omega
          have hf := Lib.hid (hfn'.out ((hz.out rfl).trans (by
            have := place_miss hmn.out htt.out
            rw [hl.out] at this
            exact this)))
          replace e0 := Lib.hid e0
          have G5 : w6.heap[w1.heap.size]? = _ := H6.out.at 3 rfl
          obtain ⟨f0, f1, f2, f3, f4, f5, _⟩ := five_cells G5
          obtain ⟨W9, hW9, g9, gr9, gs9⟩ := put_five (u0 := .int .u8 0) (u1 := .int .u32 0) (u2 := .int .u32 0) (u3 := .int .i64 0) (u4 := .slice none 0 0) G5
          obtain ⟨n0, n1, n2, n3, n4, _⟩ := five_cells g9
          have B9 := BR.out.trans (B6.out.mono BR.out.size)
          have hB9 := Lib.hid (B9.grown gr9 B9.size (fun q e => by cases e; exact lo1.out.1))
          replace G5 := Lib.hid G5
          replace g9 := Lib.hid g9
          clear gr9 gs9 B9
          go_wp2_with fail
          rw [Exit.noGoto_ret]
          refine bodyPost_ret (v := .tuple #[.agg #[.int .u8 0, .int .u32 0, .int .u32 0, .int .i64 0, .slice none 0 0], .int .i64 6]) (by simp [results, Tryz.results12, go_sem, n0, n1, n2, n3, n4]) rfl ?_
          rw [hf.out.1, hf.out.2]
          exact ⟨_, rfl, itm_zero _ _, hB9.out⟩
        | succ l1 =>
          have c0 : (0 : Int) < lw := by have := hlv.out; omega
          obtain ⟨j, hj⟩ : ∃ j, p = j + 1 := ⟨p - 1, by omega⟩
          have hpm : p ≤ m := by
            have := placeN_le nd key
            rw [hp.out, hl.out, hlm.out] at this
            exact this
          obtain ⟨x, hx⟩ : ∃ x, ll[j]? = some x := ⟨_, List.getElem?_eq_getElem (by rw [hlm.out]; omega)⟩
          have hf1 := place_ahead hmn.out (x := x) htt.out (by rw [hp.out, hj]) (by rw [hl.out]; exact hx)
          rw [hl.out] at hf1
          obtain ⟨ad, E5, ce5, rfl, -, FX⟩ := its_new (H6.out.at 1 rfl : rIts (New wr.heap.size w6) w6 [.slice Z m zc] ll) hx
          obtain ⟨⟨z0, z1, z2, z3, z4⟩, hit⟩ := FX w6 (Below.refl _ _)
          have i4 : (0 : Int) ≤ (j : Int) := by omega
          have i5 : (j : Int) < (m : Int) := by omega
          have i7 : (p : Int) - 1 = (j : Int) := by omega
          have i8 : IntKind.i64.wrap (j : Int) = (j : Int) := IntWalk.i64_in _ (by omega)
          have hxm := Lib.hid (List.mem_of_getElem? hx)
          have hn1 := Lib.hid (hdn.out l1 rfl x hxm.out)
          have hn2 : Hid (oneO s l1 x.2.1 key = T) := Lib.hid (by rw [hsu.out l1 rfl, hf1]; rfl)
          replace hx := Lib.hid hx
          replace hj := Lib.hid hj
          clear FX hf1 hit
          go_wp2_with fail
          go_roundw
          case rel => exact ⟨i + 1, l1, x.2.1, by have := hil.out; omega, by go_num, rfl, hn1.out, hn2.out, B6.out⟩
          case measure => have := hil.out; simp [intOf]; omega
      · have i6 : ¬ (0 : Int) < (p : Int) := by omega
        have hf := Lib.hid (hfn'.out (by
          cases l with
          | zero =>
            refine (hz.out rfl).trans ?_
            have := place_miss hmn.out htt.out
            rw [hl.out] at this
            exact this
          | succ l1 =>
            have h1 := place_none hmn.out htt.out (by rw [hp.out]; omega)
            rw [hl.out] at h1
            rw [hsu.out l1 rfl, h1]
            rfl))
        have G5 : w6.heap[w1.heap.size]? = _ := H6.out.at 3 rfl
        obtain ⟨f0, f1, f2, f3, f4, f5, _⟩ := five_cells G5
        obtain ⟨W9, hW9, g9, gr9, gs9⟩ := put_five (u0 := .int .u8 0) (u1 := .int .u32 0) (u2 := .int .u32 0) (u3 := .int .i64 0) (u4 := .slice none 0 0) G5
        obtain ⟨n0, n1, n2, n3, n4, _⟩ := five_cells g9
        have B9 := BR.out.trans (B6.out.mono BR.out.size)
        have hB9 := Lib.hid (B9.grown gr9 B9.size (fun q e => by cases e; exact lo1.out.1))
        replace G5 := Lib.hid G5
        replace g9 := Lib.hid g9
        clear gr9 gs9 B9
        go_wp2_with fail
        rw [Exit.noGoto_ret]
        refine bodyPost_ret (v := .tuple #[.agg #[.int .u8 0, .int .u32 0, .int .u32 0, .int .i64 0, .slice none 0 0], .int .i64 6]) (by simp [results, Tryz.results12, go_sem, n0, n1, n2, n3, n4]) rfl ?_
        rw [hf.out.1, hf.out.2]
        exact ⟨_, rfl, itm_zero _ _, hB9.out⟩
end Go.Proofs.YtogieepfimpdmaaGreat

/-
  PutNames: what its calls answer. Conditions: those that each lemma states.
-/
namespace Go.Proofs.YtogieepfimpdmaaGreat
open Go.RowKit

def xOne : It := (keyN 1, 0, [1])
def xFar : It := (keyZ, 99, [])
def xNil : It := (keyZ, 0, [])
theorem oneN_plain : ∃ t, insO (gS 1).1 9 xOne = (0, t, 8) ∧ Lf t 8 [xOne] 3 := by
  obtain ⟨h1, _⟩ := gS_lf 1 (by omega)
  have hx : InI xOne := ⟨⟨⟨by decide, by decide⟩, by decide, by decide⟩, by decide, by decide⟩
  have e : putL (Ls 1) xOne = [xOne] := by decide +kernel
  obtain ⟨t, e1, e2⟩ := h1.put (by omega) hx rfl (by rw [e]; decide +kernel)
  rw [e] at e2
  exact ⟨t, e1, e2⟩
theorem oneN_found {t : Rm} {m : Nat} (h : Lf t 8 [xOne] m) : fdE t 8 (keyN 1) = 0 ∧ fdV t 8 (keyN 1) = xOne := by
  refine fd_some h.tree.2.2.1 ?_
  have r2 : rmV t 8 = (0, [xOne]) := h.rm.2
  unfold theO
  rw [r2]
  show oneO t 0 8 (keyN 1) = _
  rw [oneO_zero, r2]
  decide +kernel
theorem gS_one : (gS 1).2 = 9 ∧ (gS 1).1.2.1.length = 256 ∧ (gS 1).1.2.1[8]?.getD 0 = 0 ∧ ckE (gS 1).1 9 = 0 ∧ (gS 1).1.2.1[99]?.getD 0 = 0 ∧ ckE (gS 1).1 200 = 6 := by
  obtain ⟨h1, h2⟩ := gS_lf 1 (by omega)
  refine ⟨h2, ?_, ?_, h1.tree.2.2.1, ?_, ?_⟩
  · rw [h1.now]; decide +kernel
  · rw [h1.now]; decide +kernel
  · rw [h1.now]; decide +kernel
  · have ha : asE (gS 1).1 200 = 6 := by
      rw [asE, h1.may, if_pos rfl, if_pos (by decide), h1.now]
      decide +kernel
    rw [(ck_no (by rw [ha]; decide)).1, ha]

section
variable (qa qb qc qd : Option Addr × Nat × Nat) (w : World)
theorem putN_one {t : Rm} (e : insO (gS 1).1 9 xOne = (0, t, 8)) (h : Nat) (hS : Sto (Old w) w (.agg #[.slice qa.1 qa.2.1 qa.2.2, .slice qb.1 qb.2.1 qb.2.2, .slice qc.1 qc.2.1 qc.2.2, .slice qd.1 qd.2.1 qd.2.2]) (gS 1).1) (hb : rBy (Old w) w [.slice (some ⟨h, 0, none⟩) 1 1] [1]) :
    Calls Tryz.prog 10 #[.agg #[.slice qa.1 qa.2.1 qa.2.2, .slice qb.1 qb.2.1 qb.2.2, .slice qc.1 qc.2.1 qc.2.2, .slice qd.1 qd.2.1 qd.2.2], .int .i64 9, .agg #[.int .u8 2, .int .u32 0, .int .u32 1, .int .i64 0, .slice (some ⟨h, 0, none⟩) 1 1]] w fun e w' => ∃ v, e = .returned v ∧ PhT w.heap.size 8 t v w' ∧ Below w.heap.size w w' := by
  obtain ⟨h1, h2⟩ := gS_lf 1 (by omega)
  have hi : InI xOne := ⟨⟨⟨by decide, by decide⟩, by decide, by decide⟩, by decide, by decide⟩
  refine (putPut_any qa qb qc qd (gS 1).1 9 xOne (some ⟨h, 0, none⟩) 1 w hS ⟨_, rfl, hi, hb⟩).mono ?_
  rintro e' w' ⟨l, ra, rb, rc, rd, hl, rfl, hs, hb⟩
  have hp : putS (gS 1).1 9 xOne l = (0, t, 8) := by
    rw [← e]
    exact put_lf h1 hi (by decide +kernel) rfl hl
  rw [hp] at hs ⊢
  exact ⟨_, rfl, ⟨ra, rb, rc, rd, rfl, hs⟩, hb⟩
def PhZ (e : Int) (v : Value) : Prop := ∃ pa pb pc pd : Option Addr × Nat × Nat, v = .tuple #[.agg #[.slice pa.1 pa.2.1 pa.2.2, .slice pb.1 pb.2.1 pb.2.2, .slice pc.1 pc.2.1 pc.2.2, .slice pd.1 pd.2.1 pd.2.2], .int .i64 0, .int .i64 e]
theorem putN_far (hS : Sto (Old w) w (.agg #[.slice qa.1 qa.2.1 qa.2.2, .slice qb.1 qb.2.1 qb.2.2, .slice qc.1 qc.2.1 qc.2.2, .slice qd.1 qd.2.1 qd.2.2]) (gS 1).1) :
    Calls Tryz.prog 10 #[.agg #[.slice qa.1 qa.2.1 qa.2.2, .slice qb.1 qb.2.1 qb.2.2, .slice qc.1 qc.2.1 qc.2.2, .slice qd.1 qd.2.1 qd.2.2], .int .i64 9, .agg #[.int .u8 0, .int .u32 0, .int .u32 0, .int .i64 99, .slice none 0 0]] w fun e w' => ∃ v, e = .returned v ∧ PhZ 6 v ∧ Below w.heap.size w w' := by
  obtain ⟨_, _, _, c1, c2, _⟩ := gS_one
  have hi : InI xFar := ⟨⟨⟨by decide, by decide⟩, by decide, by decide⟩, by decide, by decide⟩
  refine (putPut_any qa qb qc qd (gS 1).1 9 xFar none 0 w hS ⟨_, rfl, hi, rBy_part0 _ _ none⟩).mono ?_
  rintro e' w' ⟨l, ra, rb, rc, rd, hl, rfl, hs, hb⟩
  have hci : citE (gS 1).1 xFar = 6 := by
    unfold citE
    rw [if_pos (by decide +kernel), if_pos ⟨by decide, c2⟩]
  have hp : putS (gS 1).1 9 xFar l = (6, emptyR, 0) := by
    unfold putS
    rw [if_neg (fun h => h c1), hci, if_pos (by decide)]
  rw [hp]
  exact ⟨_, rfl, ⟨ra, rb, rc, rd, rfl⟩, hb⟩
theorem putN_nil (hS : Sto (Old w) w (.agg #[.slice qa.1 qa.2.1 qa.2.2, .slice qb.1 qb.2.1 qb.2.2, .slice qc.1 qc.2.1 qc.2.2, .slice qd.1 qd.2.1 qd.2.2]) (gS 1).1) :
    Calls Tryz.prog 10 #[.agg #[.slice qa.1 qa.2.1 qa.2.2, .slice qb.1 qb.2.1 qb.2.2, .slice qc.1 qc.2.1 qc.2.2, .slice qd.1 qd.2.1 qd.2.2], .int .i64 200, .agg #[.int .u8 0, .int .u32 0, .int .u32 0, .int .i64 0, .slice none 0 0]] w fun e w' => ∃ v, e = .returned v ∧ PhZ 6 v ∧ Below w.heap.size w w' := by
  obtain ⟨_, _, _, _, _, c3⟩ := gS_one
  have hi : InI xNil := ⟨⟨⟨by decide, by decide⟩, by decide, by decide⟩, by decide, by decide⟩
  refine (putPut_any qa qb qc qd (gS 1).1 200 xNil none 0 w hS ⟨_, rfl, hi, rBy_part0 _ _ none⟩).mono ?_
  rintro e' w' ⟨l, ra, rb, rc, rd, hl, rfl, hs, hb⟩
  have hp : putS (gS 1).1 200 xNil l = (6, emptyR, 0) := by
    unfold putS
    rw [c3, if_pos (by decide)]
  rw [hp]
  exact ⟨_, rfl, ⟨ra, rb, rc, rd, rfl⟩, hb⟩
end
def PhF (v : Value) (W : World) : Prop := ∃ P pc, v = .tuple #[.agg #[.int .u8 2, .int .u32 0, .int .u32 1, .int .i64 0, .slice P 1 pc], .int .i64 0] ∧ rBy (Old W) W [.slice P 1 pc] [1]
def PhX (v : Value) (W : World) : Prop := ∃ P pc, v = .agg #[.int .u8 2, .int .u32 0, .int .u32 1, .int .i64 0, .slice P 1 pc] ∧ rBy (Old W) W [.slice P 1 pc] [1]
theorem findN_one {t : Rm} (ht : fdE t 8 (keyN 1) = 0 ∧ fdV t 8 (keyN 1) = xOne) (v : Value) (w : World) (hS : Sto (Old w) w v t) :
    Calls Tryz.prog 12 #[v, .int .i64 8, .agg #[.int .u8 2, .int .u32 0, .int .u32 1]] w fun e w' => ∃ v, e = .returned v ∧ PhF v w' ∧ Below w.heap.size w w' := by
  refine (findFind_any v t 8 (keyN 1) w hS).mono ?_
  rintro e w' ⟨u, rfl, hu, hb⟩
  rw [ht.1]
  rw [ht.2] at hu
  obtain ⟨P, pc, rfl, _, _, _, hy⟩ := hu.drop.open
  exact ⟨_, rfl, ⟨P, pc, rfl, hy⟩, hb⟩
def PhN (lv : Int) (n : Nat) (v : Value) : Prop := ∃ A c, v = .tuple #[.agg #[.int .i64 lv, .slice A n c], .int .i64 0]
theorem nodeN_top (v : Value) (w : World) (hS : Sto (Old w) w v (gS 6).1) : Calls Tryz.prog 13 #[v, .int .i64 11] w fun e w' => ∃ A c, e = .returned (.tuple #[.agg #[.int .i64 1, .slice A 2 c], .int .i64 0]) ∧ rIts (Old w') w' [.slice A 2 c] upS ∧ Below w.heap.size w w' := by
  obtain ⟨_, _, r1, r2, _⟩ := gS_six
  refine (nodeR_any v _ 11 w hS).mono ?_
  rintro e w' ⟨u, rfl, hu, hb⟩
  rw [r1]
  rw [r2] at hu
  obtain ⟨d, rfl, _, hi⟩ := hu.drop
  obtain ⟨A, c, e, _, _, _⟩ := id hi
  cases e
  exact ⟨A, c, rfl, hi, hb⟩
theorem nodeN_low (v : Value) (w : World) (hS : Sto (Old w) w v (gS 6).1) : Calls Tryz.prog 13 #[v, .int .i64 8] w fun e w' => ∃ v, e = .returned v ∧ PhN 0 3 v ∧ Below w.heap.size w w' := by
  obtain ⟨_, _, _, _, r1, r2, _⟩ := gS_six
  refine (nodeR_any v _ 8 w hS).mono ?_
  rintro e w' ⟨u, rfl, hu, hb⟩
  rw [r1]
  rw [r2] at hu
  obtain ⟨d, rfl, _, hi⟩ := hu.drop
  obtain ⟨A, c, e, _, _, _⟩ := id hi
  cases e
  exact ⟨_, rfl, ⟨A, c, rfl⟩, hb⟩
theorem oneN_by {ok : Addr → Prop} {w : World} {cs : List Value} (h : rBy ok w cs [1]) : rBy (fun p => ok p ∧ w.cell? p = some (.int .u8 1)) w cs [1] := by
  obtain ⟨A, cap, h1, h2, h3, h4⟩ := h
  refine ⟨A, cap, h1, h2, h3, fun i y hi => ?_⟩
  obtain ⟨ad, vs, e1, e2, e3, e4⟩ := h4 i y hi
  have hy : y = 1 := by
    have := List.mem_of_getElem? hi
    simpa using this
  subst hy
  refine ⟨ad, vs, e1, e2, fun j u hj => ⟨⟨(e3 j u hj).1, ?_⟩, (e3 j u hj).2⟩, e4⟩
  unfold rU8 at e4
  subst e4
  have := List.mem_of_getElem? hj
  simp only [List.mem_singleton] at this
  rw [(e3 j u hj).2, this]
  rfl
theorem oneN_apart {W W9 : World} {f : Nat} {u : Value} {t : TypeId} (hy : rBy (Old W) W [u] [1]) (hz : W.heap[f]? = some (.cells #[.int .u8 0, .int .u32 0, .int .u32 0, .int .i64 0, .slice none 0 0] t (0, 0))) (hg : W.grownBy W9 (some f)) : rBy (Old W9) W9 [u] [1] :=
  stab_by _ _ _ _ _ _ (fun p v hp hc => by
    have hne : p.block ≠ f := fun e => by
      have h1 := hp.2
      unfold World.cell? at h1
      rw [e, hz] at h1
      dsimp only at h1
      split at h1
      · cases h1
      · obtain ⟨hlt, hu⟩ := Array.getElem?_eq_some_iff.1 h1
        have hm : Value.int .u8 1 ∈ (#[.int .u8 0, .int .u32 0, .int .u32 0, .int .i64 0, .slice none 0 0] : Array Value) := by
          rw [← hu]
          exact Array.getElem_mem hlt
        simp at hm
    exact ⟨Nat.lt_of_lt_of_le hp.1 hg.size, (World.cell?_of_block (hg.block _ hp.1 (by simpa using hne))).trans hc⟩) (oneN_by hy)
end Go.Proofs.YtogieepfimpdmaaGreat
