/-
  CountNames answers true: the errors have their numbers, and the chapter's examples are so. No condition, no argument.
-/
import Derived.Test.YtkklkhnoljmgbaaBnd2
namespace Go.Proofs.Ytkklkhnoljmgbaa.countNames
open Go.ChangeShapes Go.WideShapes Go.RowKit

theorem own : ownKnob Try.prog.godebug = none := by kernel_rfl
theorem laidOut : laidOutB Try.prog = true := by kernel_rfl

theorem zero_seen7 {k : Nat} (hk : k < 256) : seenD zeroD k = List.replicate 128 0 := by
  unfold seenD
  rw [zero_at hk]
  rfl
theorem zero_sdV : sdV zeroD 0 = zeros 256 := by
  rw [sdV, zero_seen7 (by decide), zero_seen7 (by decide)]
  decide +kernel
theorem zero_read : crE zeroD 0 = 0 ∧ crV zeroD 0 = zeros 256 := by
  have h : crE zeroD 0 = 0 := by rw [crE, may_zero, zero_sdV, may_zeros]; decide
  exact ⟨h, by rw [crV, if_pos h, zero_sdV]⟩
theorem zero_write {t : List UInt8} (hm : mayT t = true) : cwE zeroD 1 t = 0 := by
  have hl := mayT_len hm
  have ha : (t.take 128).length = 128 := by simp [hl]
  have hb : (t.drop 128).length = 128 := by simp [hl]
  have e1 : wErr zeroD 6 (t.take 128) = 0 := by simp [wErr, may_zero, ha, zero_len2, thereB]
  obtain ⟨m1, l1, _⟩ := may_wrR e1
  have e2 : wErr (wrR zeroD 6 (t.take 128)) 7 (t.drop 128) = 0 := by simp [wErr, m1, hb, l1, zero_len2, thereB]
  rw [cwE, may_zero, hm]
  show (if true = true then if sideB 1 = true then if true = true then if wErr zeroD 6 (t.take 128) = 0 then wErr (wrR zeroD 6 (t.take 128)) 7 (t.drop 128) else wErr zeroD 6 (t.take 128) else 8 else 2 else 8) = 0
  rw [e1, e2]
  decide
theorem side_two (d : Dk) (h : mayB d = true) : crE d 2 = 2 ∧ crV d 2 = [] := by
  have e : crE d 2 = 2 := by simp [crE, h, sideB]
  exact ⟨e, by simp [crV, e]⟩
theorem up_200 : upE (zeros 256) 200 = 0 ∧ mayT (upV (zeros 256) 200) = true := by decide +kernel
theorem dn_9 : dnE (zeros 256) 9 = 70 ∧ dnV (zeros 256) 9 = [] := by decide +kernel
theorem up_7 : upE (zeros 256) 7 = 2 ∧ upV (zeros 256) 7 = [] := by decide +kernel
theorem sum_zeros : crc (zeros 256) = 227968344 := by
  have h0 : foldN 4294967295 (zeros 32) = 3874859602 := by decide +kernel
  have h1 : foldN 3874859602 (zeros 32) = 2322767049 := by decide +kernel
  have h2 : foldN 2322767049 (zeros 32) = 1158388305 := by decide +kernel
  have h3 : foldN 1158388305 (zeros 32) = 1029113186 := by decide +kernel
  have h4 : foldN 1029113186 (zeros 32) = 1442360476 := by decide +kernel
  have h5 : foldN 1442360476 (zeros 32) = 1946220301 := by decide +kernel
  have h6 : foldN 1946220301 (zeros 32) = 3269371036 := by decide +kernel
  have h7 : foldN 3269371036 (zeros 32) = 4066998951 := by decide +kernel
  have e : zeros 256 = zeros 32 ++ (zeros 32 ++ (zeros 32 ++ (zeros 32 ++ (zeros 32 ++ (zeros 32 ++ (zeros 32 ++ zeros 32)))))) := by decide +kernel
  rw [e, crc, foldN_append, h0, foldN_append, h1, foldN_append, h2, foldN_append, h3, foldN_append, h4, foldN_append, h5, foldN_append, h6, h7]
  decide
theorem zeros_short : mayT (zeros 255) = false := by decide +kernel
theorem does_make {P : Program} {ρ : Operand → Value} {o : Oper} {w w' : World} {R : Value → World → Prop} (t : TypeId) (a b : Operand) (ho : o.op = .makeSlice t a b) {v : Value} (hrun : (Instr.makeSlice t (ρ a) (ρ b)).run P w = .ok v w') (h : R v w') : doesUpon P R ((execOp ρ o).run P w) := by
  unfold execOp
  simp only [ho, Sem.run_bind, Sem.run_pure, Result.andThen_ok, hrun]
  exact h
set_option maxRecDepth 100000 in
set_option maxHeartbeats 16000000 in
theorem walk (w : World) :
    Calls Try.prog 3 #[] w fun e w' => e = .returned (.bool true) ∧ Below w.heap.size w w' := by
  obtain ⟨u1, u2⟩ := up_200
  obtain ⟨r1, r2⟩ := zero_read
  have hsz : smV (zeros 256) = 227968344 := by rw [smV, if_pos may_zeros, sum_zeros]
  have hcz := chkT_ok may_zeros
  obtain ⟨d1, d2⟩ := dn_9
  obtain ⟨p1, p2⟩ := up_7
  obtain ⟨Z, hZ⟩ : ∃ Z, zeros 256 = Z := ⟨_, rfl⟩
  have hnew : Hid (∀ W, Calls Try.prog 11 #[] W fun e w' => ∃ g, e = .returned (.slice (some ⟨g, 0, none⟩) 256 256) ∧ rBy (New W.heap.size w') w' [.slice (some ⟨g, 0, none⟩) 256 256] Z ∧ Below W.heap.size W w') := Lib.hid fun W => by rw [← hZ]; exact cntNew_by W
  have hZl : Hid (Z.length = 256) := Lib.hid (by rw [← hZ, zeros_length])
  rw [hZ] at u1 u2 r2 hsz hcz d1 d2 p1 p2
  obtain ⟨T, hT⟩ : ∃ T, upV Z 200 = T := ⟨_, rfl⟩
  rw [hT] at u2
  have hTl : Hid (T.length = 256) := Lib.hid (mayT_len u2)
  have hw := zero_write u2
  obtain ⟨f1, f2, _, _, _, f6, _⟩ := sides_ok hw
  obtain ⟨D, hD⟩ : ∃ D, cwR zeroD 1 T = D := ⟨_, rfl⟩
  rw [hD] at f1 f2 f6
  have s2 := side_two D f6
  have hdn : Hid (∀ (v : Value) W, rBy (Old W) W [v] Z → Calls Try.prog 10 #[v, .int .i64 9] W fun e w' => ∃ E c, e = .returned (.tuple #[.slice E 0 c, .int .i64 70]) ∧ Below W.heap.size W w') := Lib.hid fun v W h => by
    have := down_open v Z 9 W h
    rw [d1, d2] at this
    exact this.mono fun e w' ⟨E, c, a, _, b⟩ => ⟨E, c, a, b⟩
  have hup7 : Hid (∀ (v : Value) W, rBy (Old W) W [v] Z → Calls Try.prog 12 #[v, .int .i64 7] W fun e w' => ∃ E c, e = .returned (.tuple #[.slice E 0 c, .int .i64 2]) ∧ Below W.heap.size W w') := Lib.hid fun v W h => by
    have := up_open v Z 7 W h
    rw [p1, p2] at this
    exact this.mono fun e w' ⟨E, c, a, _, b⟩ => ⟨E, c, a, b⟩
  have hup : Hid (∀ (v : Value) W, rBy (Old W) W [v] Z → Calls Try.prog 12 #[v, .int .i64 200] W fun e w' => ∃ E c, e = .returned (.tuple #[.slice E 256 c, .int .i64 0]) ∧ rBy (New W.heap.size w') w' [.slice E 256 c] T ∧ Below W.heap.size W w') := Lib.hid fun v W h => by
    have := up_open v Z 200 W h
    rwa [u1, hT, hTl.out] at this
  have hwr : Hid (∀ (v u : Value) W, Dsk (Old W) W v zeroD → rBy (Old W) W [u] T → Calls Try.prog 13 #[v, .int .i64 1, u] W fun e w' => ∃ A c B f, e = .returned (.tuple #[.agg #[.slice A D.1.length c, .slice B D.2.length f], .int .i64 0]) ∧ Dsk (New W.heap.size w') w' (.agg #[.slice A D.1.length c, .slice B D.2.length f]) D ∧ Below W.heap.size W w') := Lib.hid fun v u W h h' => by
    have := cntWrite_any v u zeroD 1 T W h h'
    rwa [hw, hD] at this
  have hrd1 : Hid (∀ (v : Value) W, Dsk (Old W) W v D → Calls Try.prog 15 #[v, .int .i64 1] W fun e w' => ∃ E c, e = .returned (.tuple #[.slice E 256 c, .int .i64 0]) ∧ rBy (New W.heap.size w') w' [.slice E 256 c] T ∧ Below W.heap.size W w') := Lib.hid fun v W h => by
    have := cntRead_open v D 1 W h
    rwa [f1, f2, hTl.out] at this
  have hrd0 : Hid (∀ (v : Value) W, Dsk (Old W) W v zeroD → Calls Try.prog 15 #[v, .int .i64 0] W fun e w' => ∃ E c, e = .returned (.tuple #[.slice E 256 c, .int .i64 0]) ∧ rBy (New W.heap.size w') w' [.slice E 256 c] Z ∧ Below W.heap.size W w') := Lib.hid fun v W h => by
    have := cntRead_open v zeroD 0 W h
    rwa [r1, r2, hZl.out] at this
  have hrd2 : Hid (∀ (v : Value) W, Dsk (Old W) W v D → Calls Try.prog 15 #[v, .int .i64 2] W fun e w' => ∃ E c, e = .returned (.tuple #[.slice E 0 c, .int .i64 2]) ∧ Below W.heap.size W w') := Lib.hid fun v W h => by
    have := cntRead_open v D 2 W h
    rw [s2.1, s2.2] at this
    exact this.mono fun e w' ⟨E, c, a, _, b⟩ => ⟨E, c, a, b⟩
  have hsum : Hid (∀ (v : Value) W, rBy (Old W) W [v] Z → Calls Try.prog 16 #[v] W fun e w' => e = .returned (.tuple #[.int .u32 227968344, .int .i64 0]) ∧ Below W.heap.size W w') := Lib.hid fun v W h => by
    have := sumT_any v Z W h
    rwa [hsz, hcz] at this
  clear hZ u1 u2 r1 r2 hsz hcz d1 d2 p1 p2 hT hw f1 f2 f6 hD s2
  go_enter Try.func3, Try.ntmps3
  go_wp2_with fail
  with_reducible refine (alive7 _).mono ?_
  rintro e1 w1 ⟨rfl, hb1⟩
  have B1 := Lib.hid hb1
  clear hb1
  go_wp2_with fail
  with_reducible refine (hnew.out _).mono ?_
  rintro e2 w2 ⟨g2, rfl, h2, hb2⟩
  have H2 := Lib.hid (stab_by.drop h2)
  have B2 := Lib.hid (B1.out.trans (hb2.mono B1.out.size))
  clear h2 hb2 B1
  go_wp2_with fail
  with_reducible refine (hdn.out _ _ H2.out).mono ?_
  rintro e3 w3 ⟨E3, c3, rfl, hb3⟩
  have B3 := Lib.hid (B2.out.trans (hb3.mono B2.out.size))
  clear hb3 B2 H2
  go_wp2_with fail
  with_reducible refine (hnew.out _).mono ?_
  rintro e4 w4 ⟨g4, rfl, h4, hb4⟩
  have H4 := Lib.hid (stab_by.drop h4)
  have B4 := Lib.hid (B3.out.trans (hb4.mono B3.out.size))
  clear h4 hb4 B3
  go_wp2_with fail
  with_reducible refine (hup7.out _ _ H4.out).mono ?_
  rintro e5 w5 ⟨E5, c5, rfl, hb5⟩
  have B5 := Lib.hid (B4.out.trans (hb5.mono B4.out.size))
  clear hb5 B4 H4
  go_wp2_with fail
  with_reducible refine (hnew.out _).mono ?_
  rintro e6 w6 ⟨g6, rfl, h6, hb6⟩
  have H6 := Lib.hid (stab_by.drop h6)
  have B6 := Lib.hid (B5.out.trans (hb6.mono B5.out.size))
  clear h6 hb6 B5
  go_wp2_with fail
  with_reducible refine (hup.out _ _ H6.out).mono ?_
  rintro e7 w7 ⟨E7, c7, rfl, h7, hb7⟩
  have H7 := Lib.hid (stab_by.drop h7)
  have B7 := Lib.hid (B6.out.trans (hb7.mono B6.out.size))
  clear h7 hb7 B6 H6
  go_wp2_with fail
  with_reducible refine (new_any _).mono ?_
  rintro e8 w8 ⟨u8, rfl, h8, hb8⟩
  have H8 := Lib.hid h8.drop
  have T8 := Lib.hid (stab_by.old H7.out hb8)
  have B8 := Lib.hid (B7.out.trans (hb8.mono B7.out.size))
  clear h8 hb8 B7 H7
  go_wp2_with fail
  with_reducible refine (hwr.out _ _ _ H8.out T8.out).mono ?_
  rintro e9 w9 ⟨A9, c9, B9', d9, rfl, h9, hb9⟩
  have T9 := Lib.hid (stab_by.old T8.out hb9)
  have B9 := Lib.hid (B8.out.trans (hb9.mono B8.out.size))
  obtain ⟨wa, hwa, g1, g3, hba⟩ := box_pair' w9 (.slice A9 D.1.length c9) (.slice B9' D.2.length d9) 31
  have Ha := Lib.hid (h9.drop.below hba)
  have Ta := Lib.hid (stab_by.old T9.out hba)
  have Ba := Lib.hid (B9.out.trans (hba.mono B9.out.size))
  obtain ⟨z1, z2, _, lta⟩ := two_cells g1
  replace g1 := Lib.hid g1
  replace g3 := Lib.hid g3
  clear h9 hb9 hba B8 B9 T8 T9 H8
  go_upto_region 7 with fail
  clear hwa
  go_wp2_with fail
  with_reducible refine (hrd1.out _ _ Ha.out).mono ?_
  rintro eb wb ⟨Eb, cb, rfl, hxb, hbb⟩
  have Hb := Lib.hid (Ha.out.below hbb)
  have Tb := Lib.hid (stab_by.old Ta.out hbb)
  have Rb := Lib.hid (stab_by.drop hxb)
  have Bb := Lib.hid (Ba.out.trans (hbb.mono Ba.out.size))
  have Cb := Lib.hid hbb
  clear hxb hbb Ba Ha Ta
  go_wp2_with fail
  with_reducible refine (new_any _).mono ?_
  rintro ec wc ⟨uc, rfl, hc, hbc⟩
  have Hc := Lib.hid (Hb.out.below hbc)
  have Tc := Lib.hid (stab_by.old Tb.out hbc)
  have Rc := Lib.hid (stab_by.old Rb.out hbc)
  have Dc := Lib.hid hc.drop
  have Bc := Lib.hid (Bb.out.trans (hbc.mono Bb.out.size))
  have Cc := Lib.hid (Cb.out.trans (hbc.mono Cb.out.size))
  clear hc hbc Bb Hb Tb Rb Cb
  go_wp2_with fail
  with_reducible refine (hrd0.out _ _ Dc.out).mono ?_
  rintro ed wd ⟨Ed, cd, rfl, hxd, hbd⟩
  have Hd := Lib.hid (Hc.out.below hbd)
  have Td := Lib.hid (stab_by.old Tc.out hbd)
  have Rd := Lib.hid (stab_by.old Rc.out hbd)
  have Sd := Lib.hid (stab_by.drop hxd)
  have Bd := Lib.hid (Bc.out.trans (hbd.mono Bc.out.size))
  have Cd := Lib.hid (Cc.out.trans (hbd.mono Cc.out.size))
  obtain ⟨y1, y2, _, _⟩ := two_cells ((Cd.out.block w9.heap.size lta).trans g1.out)
  clear hxd hbd Bc Hc Tc Rc Cc Dc z1 z2
  go_wp2_with fail
  with_reducible refine (hrd2.out _ _ Hd.out).mono ?_
  rintro ee we ⟨Ee, ce, rfl, hbe⟩
  have Te := Lib.hid (stab_by.old Td.out hbe)
  have Re := Lib.hid (stab_by.old Rd.out hbe)
  have Se := Lib.hid (stab_by.old Sd.out hbe)
  have Be := Lib.hid (Bd.out.trans (hbe.mono Bd.out.size))
  clear hbe Bd Hd Td Rd Sd Cd y1 y2
  go_wp2_with fail
  with_reducible refine (hnew.out _).mono ?_
  rintro ef wf ⟨gf, rfl, hf, hbf⟩
  have Zf := Lib.hid (stab_by.drop hf)
  have Tf := Lib.hid (stab_by.old Te.out hbf)
  have Rf := Lib.hid (stab_by.old Re.out hbf)
  have Sf := Lib.hid (stab_by.old Se.out hbf)
  have Bf := Lib.hid (Be.out.trans (hbf.mono Be.out.size))
  clear hf hbf Be Te Re Se
  go_wp2_with fail
  with_reducible refine (hsum.out _ _ Zf.out).mono ?_
  rintro eg wg ⟨rfl, hbg⟩
  have Tg := Lib.hid (stab_by.old Tf.out hbg)
  have Rg := Lib.hid (stab_by.old Rf.out hbg)
  have Sg := Lib.hid (stab_by.old Sf.out hbg)
  have Bg := Lib.hid (Bf.out.trans (hbg.mono Bf.out.size))
  clear hbg Bf Tf Rf Sf Zf
  go_upto_region 11 with fail
  refine wp_region_fx (by kernel_rfl) (fun W => Below wg.heap.size wg W) (fun i => match i with
      | 30 => some (fun v W => ∃ g, v = .slice (some ⟨g, 0, none⟩) 256 256 ∧ rBy (Old W) W [.slice (some ⟨g, 0, none⟩) 256 256] Z)
      | 39 => some (fun v W => ∃ g, v = .slice (some ⟨g, 0, none⟩) 255 255 ∧ rBy (Old W) W [.slice (some ⟨g, 0, none⟩) 255 255] (zeros 255))
      | _ => none) (fun i => match i with
      | 31 => some (.string ⟨Z.toArray⟩)
      | 40 => some (.int .i64 8)
      | _ => none) (by kernel_rfl) (Below.refl _ _).drew (fun w w' h hb => h.trans (hb.mono h.size)) ?tst ?_
  case tst =>
    intro j φ x W W' hp hx hb
    match j, hp with
    | 30, hp =>
      cases hp
      obtain ⟨g, e, h1⟩ := hx
      exact ⟨g, e, stab_by.old h1 hb⟩
    | 39, hp =>
      cases hp
      obtain ⟨g, e, h1⟩ := hx
      exact ⟨g, e, stab_by.old h1 hb⟩
  repeat (first
    | (refine wpAs_skip rfl ?_; simp only [Act.put, List.setIfInBounds_toArray, List.set_cons_zero, List.set_cons_succ])
    | (refine wpAs_pure (v := ?_) rfl rfl ?_ ?_; rotate_left; (intro W hC hE; clear hE; skip; clear hC; go_simp; done); simp only [Act.put, List.setIfInBounds_toArray, List.set_cons_zero, List.set_cons_succ])
    | (refine wpAs_pure (v := ?_) rfl rfl ?_ ?_; rotate_left; (intro W hC hE; clear hE; skip; clear hC; go_simp; with_reducible rfl); simp only [Act.put, List.setIfInBounds_toArray, List.set_cons_zero, List.set_cons_succ]))
  refine wpAs_pure (v := .string ⟨(T).toArray⟩) rfl rfl ?_ ?_
  · intro W hC hE
    have h : rBy (Old W) W [.slice Eb 256 cb] (T) := (stab_by.old Rg.out hC)
    have hs := rBy_str0 h
    clear h hC hE
    refine run_convert_op (v := .slice Eb 256 cb) _ _ _ rfl ?_ hs
    first | rfl | (simp; done) | (go_simp; done)
  simp only [Act.put, List.setIfInBounds_toArray, List.set_cons_zero, List.set_cons_succ]
  repeat (first
    | (refine wpAs_skip rfl ?_; simp only [Act.put, List.setIfInBounds_toArray, List.set_cons_zero, List.set_cons_succ])
    | (refine wpAs_pure (v := ?_) rfl rfl ?_ ?_; rotate_left; (intro W hC hE; clear hE; skip; clear hC; go_simp; done); simp only [Act.put, List.setIfInBounds_toArray, List.set_cons_zero, List.set_cons_succ])
    | (refine wpAs_pure (v := ?_) rfl rfl ?_ ?_; rotate_left; (intro W hC hE; clear hE; skip; clear hC; go_simp; with_reducible rfl); simp only [Act.put, List.setIfInBounds_toArray, List.set_cons_zero, List.set_cons_succ]))
  refine wpAs_pure (v := .string ⟨(T).toArray⟩) rfl rfl ?_ ?_
  · intro W hC hE
    have h : rBy (Old W) W [.slice E7 256 c7] (T) := (stab_by.old Tg.out hC)
    have hs := rBy_str0 h
    clear h hC hE
    refine run_convert_op (v := .slice E7 256 c7) _ _ _ rfl ?_ hs
    first | rfl | (simp; done) | (go_simp; done)
  simp only [Act.put, List.setIfInBounds_toArray, List.set_cons_zero, List.set_cons_succ]
  repeat (first
    | (refine wpAs_skip rfl ?_; simp only [Act.put, List.setIfInBounds_toArray, List.set_cons_zero, List.set_cons_succ])
    | (refine wpAs_pure (v := ?_) rfl rfl ?_ ?_; rotate_left; (intro W hC hE; clear hE; skip; clear hC; go_simp; done); simp only [Act.put, List.setIfInBounds_toArray, List.set_cons_zero, List.set_cons_succ])
    | (refine wpAs_pure (v := ?_) rfl rfl ?_ ?_; rotate_left; (intro W hC hE; clear hE; skip; clear hC; go_simp; with_reducible rfl); simp only [Act.put, List.setIfInBounds_toArray, List.set_cons_zero, List.set_cons_succ]))
  refine wpAs_pure (v := .string ⟨(Z).toArray⟩) rfl rfl ?_ ?_
  · intro W hC hE
    have h : rBy (Old W) W [.slice Ed 256 cd] (Z) := (stab_by.old Sg.out hC)
    have hs := rBy_str0 h
    clear h hC hE
    refine run_convert_op (v := .slice Ed 256 cd) _ _ _ rfl ?_ hs
    first | rfl | (simp; done) | (go_simp; done)
  simp only [Act.put, List.setIfInBounds_toArray, List.set_cons_zero, List.set_cons_succ]
  refine wpAs_act rfl rfl ?_ ?_
  · intro W hC hE
    refine does_enter (f := 11) (args := #[]) ?_ ?_
    · go_simp
    · refine (hnew.out W).mono ?_
      rintro e W' ⟨g, rfl, h1, hw⟩
      exact ⟨_, rfl, ⟨g, rfl, stab_by.drop h1⟩, hw⟩
  simp only [Act.put, List.setIfInBounds_toArray, List.set_cons_zero, List.set_cons_succ, envAdd]
  intro x90
  refine wpAs_fixed rfl rfl rfl ?_ ?_
  · intro W hC hE
    obtain ⟨g, rfl, h1⟩ := hE.1 rfl
    have hs := rBy_str0 h1
    clear hE hC h1
    rw [run_convert_op (v := .slice (some ⟨g, 0, none⟩) 256 256) _ _ _ rfl (by first | rfl | simp) hs]
    exact ⟨rfl, Below.refl _ _⟩
  simp only [Act.put, List.setIfInBounds_toArray, List.set_cons_zero, List.set_cons_succ]
  repeat (first
    | (refine wpAs_skip rfl ?_; simp only [Act.put, List.setIfInBounds_toArray, List.set_cons_zero, List.set_cons_succ])
    | (refine wpAs_pure (v := ?_) rfl rfl ?_ ?_; rotate_left; (intro W hC hE; clear hE; skip; clear hC; go_simp; done); simp only [Act.put, List.setIfInBounds_toArray, List.set_cons_zero, List.set_cons_succ])
    | (refine wpAs_pure (v := ?_) rfl rfl ?_ ?_; rotate_left; (intro W hC hE; clear hE; skip; clear hC; go_simp; with_reducible rfl); simp only [Act.put, List.setIfInBounds_toArray, List.set_cons_zero, List.set_cons_succ]))
  refine wpAs_act rfl rfl ?_ ?_
  · intro W hC hE
    have hm : (Instr.makeSlice 23 (.int .i64 255) (.int .i64 255)).run Try.prog W = .ok (.slice (some ⟨W.heap.size, 0, none⟩) 255 255) (W.alloc (.cells (rowA (zeros 255)) 5)) := make_bytes 255 (by omega) W
    clear hC hE
    have hr := stab_by.drop (row_by W (zeros 255) (by rw [zeros_length]; omega))
    rw [zeros_length] at hr
    exact does_make 23 (.const (.int .i64 255)) (.const (.int .i64 255)) rfl hm ⟨⟨_, rfl, hr⟩, (Below.refl _ _).alloc (Nat.le_refl _) _⟩
  simp only [Act.put, List.setIfInBounds_toArray, List.set_cons_zero, List.set_cons_succ, envAdd]
  intro x99
  refine wpAs_fixed rfl rfl rfl ?_ ?_
  · intro W hC hE
    obtain ⟨g, rfl, h1⟩ := hE.1 rfl
    refine does_enter (f := 17) (args := #[.slice (some ⟨g, 0, none⟩) 255 255]) ?_ ?_
    · go_simp
    · obtain ⟨_, _, e, l1, m1, hby⟩ := rBy_byt (B := W.heap.size) (fun _ h => h) h1
      rw [zeros_length] at e l1
      cases e
      refine (checkT_any (some ⟨g, 0, none⟩) 255 255 (zeros 255) (Lib.hid (zeros_length _)) l1 m1 W hby).mono ?_
      rintro e W' ⟨rfl, rfl⟩
      rw [chkT_bad zeros_short]
      exact ⟨_, rfl, rfl, Below.refl _ _⟩
  simp only [Act.put, List.setIfInBounds_toArray, List.set_cons_zero, List.set_cons_succ]
  repeat (first
    | (refine wpAs_skip rfl ?_; simp only [Act.put, List.setIfInBounds_toArray, List.set_cons_zero, List.set_cons_succ])
    | (refine wpAs_pure (v := ?_) rfl rfl ?_ ?_; rotate_left; (intro W hC hE; clear hE; skip; clear hC; go_simp; done); simp only [Act.put, List.setIfInBounds_toArray, List.set_cons_zero, List.set_cons_succ])
    | (refine wpAs_pure (v := ?_) rfl rfl ?_ ?_; rotate_left; (intro W hC hE; clear hE; skip; clear hC; go_simp; with_reducible rfl); simp only [Act.put, List.setIfInBounds_toArray, List.set_cons_zero, List.set_cons_succ]))
  refine wpAs_end fun W hC hE => ?_
  clear hE
  go_wp2_with fail
  go_ret
  exact ⟨rfl, Bg.out.trans (hC.mono Bg.out.size)⟩

/-! ### The row's step -/
set_option maxRecDepth 100000 in
theorem lifted (os : Os) (started : os.Started) (H : Type) (enc : TypeId × Value → H) :
    ReturnsInHanded {} Try.checked os 3 .any (Rows.countNamesSpec.pre6 enc Try.prog Try.f3 Rows.countNamesRow.domain false) (Rows.countNamesSpec.post enc Try.prog Try.f3 false true false false) := by
  refine returnsInHanded_of_change (C := Try.checked) own started (by kernel_rfl) Try.func3
    (ChangeSpec.witness6 (enc := enc) (C := Try.checked) false ⟨#[], #[], []⟩ 8 (by kernel_rfl) (by kernel_rfl) (by kernel_rfl) (by kernel_rfl)) ?_
  intro W base args ds gs before hval0 hW _ _
  have hval : ∀ (j : Nat) t v, Try.f3.params[j]? = some t → args[j]? = some v → Value.okWide Try.prog W .any base t v := hval0
  have hW' := hW
  obtain ⟨p, q, hA0, hV, _, _, _⟩ := hW
  have hA : DataW.TrodAll enc Try.prog W 0 (fun _ => true) true Try.f3.params.toList args.toList ds p := hA0
  rw [Try.params3] at hA hval
  obtain ⟨hargs, rfl, _⟩ := trodAll_nil hA
  obtain rfl : args = #[] := by cases args; simp_all
  obtain ⟨rfl, _⟩ := trodVars_none hV
  clear hA0 hval0
  refine (walk  W ).mono fun e W' ⟨he, hb⟩ => ?_
  subst he
  exact ⟨_, rfl, law_post laidOut (by rw [Try.params3]; decide +kernel) (by kernel_rfl) Try.underlying4 rfl ⟨rfl, by simp [Rows.countNamesSpec], rfl⟩ hW' hb⟩

theorem over : Rows.countNamesRow.holds Try.pinned (OpenSpec.ofChange Rows.countNamesSpec) :=
  OpenClaim.holds_of_wide 3 Try.f3 rfl rfl rfl rfl rfl rfl rfl ⟨rfl, rfl, rfl, rfl, rfl⟩ rfl rfl rfl rfl rfl (by kernel_rfl) Try.func3 (by kernel_rfl)
    (of_decide_eq_true (by kernel_rfl)) (by unfold Func.isWrapper; first | (rw [if_pos (by decide +kernel)]; kernel_rfl) | (rw [if_neg (by decide +kernel)]; exact ⟨rfl, rfl⟩))
    (fun os started H enc _ => lifted os started H enc)

end Go.Proofs.Ytkklkhnoljmgbaa.countNames
namespace Go.Proofs.Ytkklkhnoljmgbaa
theorem countNames_proved : Rows.CountNamesSaid := countNames.over
end Go.Proofs.Ytkklkhnoljmgbaa
