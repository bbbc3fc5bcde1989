/-
  For every store, root and key FindAll answers true and leaves its arguments as they were. No condition.
-/
import Derived.Test.YtncnoingbaeomaaBnd4
import Derived.Deep.CutRange
import Derived.Deep.RegionWith
namespace Go.Proofs.Ytncnoingbaeomaa.findAll
open Go.ChangeShapes Go.WideShapes Go.RowKit

theorem own : ownKnob Try.prog.godebug = none := by kernel_rfl
theorem laidOut : laidOutB Try.prog = true := by kernel_rfl

theorem any_take {k : Ky} {l : List It} {i : Nat} {x : It} (hx : l[i]? = some x) : (l.take (i + 1)).any (fun x => decide (x.1 = k)) = ((l.take i).any (fun x => decide (x.1 = k)) || decide (x.1 = k)) := by
  rw [List.take_add_one, hx, Option.toList_some, List.any_append]
  simp
set_option maxRecDepth 100000 in
set_option maxHeartbeats 8000000 in
theorem walk (v : Value) (s : Rm) (a : Int) (_hn : (Lit.int .i64 a).wf = true) (key : Ky) (w : World) (h : Sto (Old w) w v s) :
    Calls Try.prog 5 #[v, .int .i64 a, kyV key] w fun e w' => e = .returned (.bool true) ∧ Below w.heap.size w w' := by
  clear _hn
  obtain ⟨A, ca, B, cb, N, cn, L, cl, rfl, _⟩ := id h.open
  have HG0 : Bag w [OldR (.agg #[.slice A s.1.1.length ca, .slice B s.1.2.length cb, .slice N s.2.1.length cn, .slice L s.2.2.length cl]) s] := (Bag.nil w).add (F := OldR _ s) h (lasts_oldR _ _)
  obtain ⟨w0, hw0, hg0, hB0, _, hs0⟩ := bag_four HG0 (Below.refl _ _) (.slice A s.1.1.length ca) (.slice B s.1.2.length cb) (.slice N s.2.1.length cn) (.slice L s.2.2.length cl) 29
  obtain ⟨w1, hw1, hg1, hB1, _, hs1⟩ := bag_key hg0 (Below.refl _ _) (.int .u8 (key.1.toNat : Int)) (.int .u32 key.2.1) (.int .u32 key.2.2)
  have HG1 := Lib.hid hg1
  have B1 := Lib.hid (hB0.trans (hB1.mono hB0.size))
  replace hs1 := Lib.hid hs1
  replace hs0 := Lib.hid hs0
  clear HG0 hg1 hg0 h hB1 hB0
  unfold kyV
  go_enter Try.func5, Try.ntmps5
  go_upto_region 1 with fail
  clear hw0 hw1
  go_wp2_with fail
  with_reducible refine (alive10 _).mono ?_
  rintro e w2 ⟨rfl, hb2⟩
  have HG2 := Lib.hid (HG1.out.below hb2)
  have B2 := Lib.hid (B1.out.trans (hb2.mono B1.out.size))
  clear hb2 HG1 B1
  obtain ⟨k0, k1, k2, k3, kg⟩ := HG2.out.at 1 rfl
  go_wp2_with fail
  with_reducible refine (findCheck_any _ s a _ (HG2.out.at 2 rfl)).mono ?_
  rintro e w3 ⟨rfl, hb3⟩
  have HG3 := Lib.hid (HG2.out.below hb3)
  have B3 := Lib.hid (B2.out.trans (hb3.mono B2.out.size))
  clear hb3 HG2 B2 k0 k1 k2 k3 kg
  have hct := Lib.hid (fun hh => ck_of (s := s) (a := a) hh)
  have hcn := Lib.hid (fun (hh : ckE s a ≠ 0) => (show ckH s a = 0 from by rw [ckH, if_neg hh]))
  have hfs := Lib.hid (fun k x hh hx => fd_some (s := s) (a := a) (k := k) (x := x) hh hx)
  have hfn := Lib.hid (fun hh hx => fd_none (s := s) (a := a) (k := key) hh hx)
  obtain ⟨E0, hE0⟩ : ∃ q, ckE s a = q := ⟨_, rfl⟩
  obtain ⟨H0, hH0⟩ : ∃ q, ckH s a = q := ⟨_, rfl⟩
  rw [hE0, hH0] at hct hcn
  rw [hE0] at hfs hfn
  rw [hE0, hH0]
  replace hE0 := Lib.hid hE0
  replace hH0 := Lib.hid hH0
  obtain ⟨k0, k1, k2, k3, kg⟩ := HG3.out.at 1 rfl
  go_wp2_with fail
  with_reducible refine (greatR_any _ s _ (HG3.out.at 2 rfl)).mono ?_
  rintro e w6 ⟨rfl, hb6⟩
  have HG6 := Lib.hid (HG3.out.below hb6)
  have B6 := Lib.hid (B3.out.trans (hb6.mono B3.out.size))
  clear hb6 HG3 B3 k0 k1 k2 k3 kg
  by_cases he : E0 = 0
  case neg =>
    have e1 : (E0 != 0) = true := by simpa using he
    have e2 : (E0 == 0) = false := by simpa using he
    have f3 := hcn.out he
    subst f3
    clear he
    cases hgr : greatR s with
    | true =>
      go_wp2_with fail
      go_ret
      exact ⟨rfl, B6.out⟩
    | false =>
      go_wp2_with fail
      go_ret
      exact ⟨rfl, B6.out⟩
  obtain ⟨ht, _, hH⟩ := hct.out he
  obtain ⟨_, _, _, l0, l6, _⟩ := tree_of ht
  obtain ⟨hup, hmax, hthe⟩ := tree_all ht
  have hany := Lib.hid (tree_any ht key)
  have hall := Lib.hid (fun v W hW => all_open v s a ht W hW)
  have hfx := Lib.hid (fun x hx => hfs.out x.1 x he (hthe x hx))
  have hFd := Lib.hid (fun v k W hW => findFind_open v s a k W hW)
  obtain ⟨lw, hlw⟩ : ∃ q, (rmV s a).1 = q := ⟨_, rfl⟩
  obtain ⟨l, hl⟩ : ∃ q, allO s a = q := ⟨_, rfl⟩
  obtain ⟨T, hT⟩ : ∃ T, theO s a key = T := ⟨_, rfl⟩
  obtain ⟨n, hn⟩ : ∃ n, l.length = n := ⟨_, rfl⟩
  rw [hlw] at hH l0 l6
  rw [hl, hlw, hn] at hall
  rw [hl, hn] at hmax
  rw [hl] at hup hany hfx
  rw [hT] at hany hfn
  have hfs' : Hid (∀ x, T = some x → fdE s a key = 0 ∧ fdV s a key = x) := Lib.hid fun x hx => hfs.out key x he (hT.trans hx)
  have hfn' := Lib.hid (fun hx => hfn.out he hx)
  subst he
  have c1 : H0 - 1 = lw := by omega
  have c2 : IntKind.i64.wrap lw = lw := IntWalk.i64_in _ (by omega)
  have c3 : ¬ H0 < 1 := by omega
  have c4 : ¬ 6 < H0 := by omega
  have c5 : ¬ (15625 : Int) < (n : Int) := by omega
  have hmax' := Lib.hid hmax
  replace hlw := Lib.hid hlw
  replace hl := Lib.hid hl
  replace hn := Lib.hid hn
  replace hT := Lib.hid hT
  replace hH := Lib.hid hH
  replace hup := Lib.hid hup
  clear ht hct hfs hfn hcn hthe
  cases hgr : greatR s with
  | true =>
    go_wp2_with fail
    go_ret
    exact ⟨rfl, B6.out⟩
  | false =>
  clear hgr
  obtain ⟨k0, k1, k2, k3, kg⟩ := HG6.out.at 1 rfl
  go_wp2_with fail
  with_reducible refine (hall.out _ _ (HG6.out.at 2 rfl)).mono ?_
  rintro e w7 ⟨U, uc, rfl, hU, hb7⟩
  have HG7 := Lib.hid ((HG6.out.below hb7).add (F := OldIs _ l) (stab_its.drop hU) (lasts_oldIs _ _))
  have B7 := Lib.hid (B6.out.trans (hb7.mono B6.out.size))
  clear hb7 hU HG6 B6 k0 k1 k2 k3 kg hall
  go_wp2_with fail
  clear c1 c2 c3 c4 c5
  go_loopw [12, 13] (fun va vi wr => ∃ k : Nat, k ≤ n ∧ vi = .int .i64 k ∧ va = .bool ((l.take k).any fun x => decide (x.1 = key)) ∧ Below w7.heap.size w7 wr) (fun _ vi _ => n - (intOf vi).toNat)
  case atStart => exact ⟨0, by omega, rfl, rfl, Below.refl _ _⟩
  case round =>
    obtain ⟨k, hk, rfl, rfl, hbr⟩ := hrel
    have HR := Lib.hid (HG7.out.below hbr)
    have BR := Lib.hid hbr
    clear hbr
    by_cases hlt : k < n
    case neg =>
      have hkn : l.take k = l := List.take_of_length_le (by rw [hn.out]; omega)
      rw [hkn, hany.out]
      have BF := Lib.hid (B7.out.trans (BR.out.mono B7.out.size))
      obtain ⟨t0, t1, t2, _⟩ := HR.out.at 1 rfl
      obtain ⟨k0, k1, k2, k3, kg⟩ := HR.out.at 2 rfl
      have hFk := Lib.hid (hFd.out _ key wr (HR.out.at 3 rfl))
      obtain ⟨E1, hE1⟩ : ∃ q, fdE s a key = q := ⟨_, rfl⟩
      obtain ⟨y, hV1⟩ : ∃ q, fdV s a key = q := ⟨_, rfl⟩
      rw [hE1, hV1] at hFk
      rw [hE1] at hfs' hfn'
      obtain ⟨b1, hb1⟩ : ∃ b, T.isSome = b := ⟨_, rfl⟩
      rw [hb1]
      replace hE1 := Lib.hid hE1
      replace hV1 := Lib.hid hV1
      clear hkn
      have hway : Hid ((b1 = true ∧ E1 = 0) ∨ (b1 = false ∧ E1 = 6)) := Lib.hid (by
        cases T with
        | none => exact .inr ⟨hb1.symm, (hfn'.out rfl).1⟩
        | some x => exact .inl ⟨hb1.symm, (hfs'.out x rfl).1⟩)
      replace hb1 := Lib.hid hb1
      go_wp2_with fail
      with_reducible refine hFk.out.mono ?_
      rintro e w8 ⟨P, pc, rfl, hit, hb8⟩
      obtain ⟨w9, hw9, hg9, hB9, -, hs9⟩ := bag_item (Bag.nil w8) (Below.refl _ _) (.int .u8 (y.1.1.toNat : Int)) (.int .u32 y.1.2.1) (.int .u32 y.1.2.2) (.int .i64 y.2.1) (.slice P y.2.2.length pc)
      have B9 := Lib.hid (BF.out.trans ((hb8.trans (hB9.mono hb8.size)).mono BF.out.size))
      replace hs9 := Lib.hid hs9
      clear hb8 hg9 hB9 hit t0 t1 t2 k0 k1 k2 k3 kg hFk
      go_upto_region 22 with fail
      clear hw9
      rcases hway.out with ⟨rfl, rfl⟩ | ⟨rfl, rfl⟩
      · go_wp2_with fail
        go_ret
        exact ⟨rfl, B9.out⟩
      · go_wp2_with fail
        go_ret
        exact ⟨rfl, B9.out⟩
    obtain ⟨x, hx⟩ : ∃ x, l[k]? = some x := ⟨_, List.getElem?_eq_getElem (by rw [hn.out]; exact hlt)⟩
    obtain ⟨ad, E5, ce5, rfl, _, _, hin5, FX0⟩ := its_old (HR.out.at 0 rfl : rIts (Old wr) wr [.slice U n uc] l) hx
    have FX := Lib.hid FX0
    have hat := any_take (k := key) hx
    have hxm := Lib.hid (List.mem_of_getElem? hx)
    obtain ⟨q, hq⟩ : ∃ q, ((l.take k).any fun x => decide (x.1 = key)) = q := ⟨_, rfl⟩
    rw [hq] at hat ⊢
    have hat' := Lib.hid hat
    have i4 : (0 : Int) ≤ (k : Int) := by omega
    have i5 : (k : Int) < (n : Int) := by omega
    have hn15 := hmax'.out
    replace hq := Lib.hid hq
    clear FX0 hat
    -- the one ahead
    by_cases hk0 : k = 0
    · have i6 : ¬ (0 : Int) < (k : Int) := by omega
      have i7 : (k : Int) < 20 := by omega
      replace hx := Lib.hid hx
      replace hk0 := Lib.hid hk0
      go_upto_region 14 with fail
      refine wp_region_fx (by kernel_rfl) (fun W => Below wr.heap.size wr W) (fun _ => none) (fun _ => none) (by kernel_rfl) (Below.refl _ _).drew (fun w w' h hb => h.trans (hb.mono h.size)) (fun j φ x W W' hp => by cases hp) ?_
      iterate 2 (first
        | (refine wpAs_skip rfl ?_; simp only [Act.put, List.setIfInBounds_toArray, List.set_cons_zero, List.set_cons_succ])
        | (refine wpAs_pure (v := ?_) rfl rfl ?_ ?_; rotate_left; (intro W hC hE; clear hE; skip; clear hC; go_simp; with_reducible rfl); simp only [Act.put, List.setIfInBounds_toArray, List.set_cons_zero, List.set_cons_succ]))
      refine wpAs_pure_jump (v := .bool false) 13 rfl rfl rfl ?_ (by kernel_rfl) ?_
      · intro W hC hE
        clear hE hC
        first
          | (go_simp; done)
          | (go_simp; simp; omega)
          | (go_simp; simp_all; done)
      simp only [skipN, Act.put, List.drop_succ_cons, List.drop_zero, List.setIfInBounds_toArray, List.set_cons_zero, List.set_cons_succ]
      iterate 1 (first
        | (refine wpAs_skip rfl ?_; simp only [Act.put, List.setIfInBounds_toArray, List.set_cons_zero, List.set_cons_succ])
        | (refine wpAs_pure (v := ?_) rfl rfl ?_ ?_; rotate_left; (intro W hC hE; clear hE; skip; clear hC; go_simp; with_reducible rfl); simp only [Act.put, List.setIfInBounds_toArray, List.set_cons_zero, List.set_cons_succ]))
      refine wpAs_end fun W0 hC hE => ?_
      have HR0 := Lib.hid (HR.out.below hC)
      have BR0 := Lib.hid (BR.out.trans (hC.mono BR.out.size))
      have FX' := Lib.hid (fun W (hW : Below W0.heap.size W0 W) => FX.out W (hC.trans (hW.mono hC.size)))
      clear hE hC HR BR FX
      obtain ⟨wr, rfl⟩ : ∃ wr : World, wr = W0 := ⟨_, rfl⟩
      have HR := HR0
      have BR := BR0
      have FX := FX'
      clear HR0 BR0 FX'
      go_upto_region 17 with fail
      obtain ⟨m1, m2⟩ := hfx.out x hxm.out
      have hFx : Hid (∀ v W, Sto (Old W) W v s → Calls Try.prog 11 #[v, .int .i64 a, kyV x.1] W fun e w' => ∃ P pc, e = .returned (.tuple #[itV x (.slice P x.2.2.length pc), .int .i64 0]) ∧ Itm (New W.heap.size w') w' (itV x (.slice P x.2.2.length pc)) x ∧ Below W.heap.size W w') := Lib.hid fun v W hW => by
        have := hFd.out v x.1 W hW
        rw [m1, m2] at this
        exact this
      clear m1 m2
      obtain ⟨k0, k1, k2, k3, kg⟩ := HR.out.at 2 rfl
      obtain ⟨⟨z0, z1, z2, z3, z4⟩, _⟩ := FX.out wr (Below.refl _ _)
      obtain ⟨wA, hwA, _, _, _, _, _, hsA, hBA, gA⟩ := box_five wr (.int .u8 0) (.int .u32 0) (.int .u32 0) (.int .i64 0) (.slice none 0 0) 39
      obtain ⟨ka0, ka1, ka2, ka3, kag⟩ := (HR.out.below hBA).at 2 rfl
      obtain ⟨⟨za0, za1, za2, za3, za4⟩, _⟩ := FX.out wA hBA
      have SA := Lib.hid (show Sto (Old wA.drew) wA.drew _ s from (HR.out.below hBA.drew).at 3 rfl)
      have SR := Lib.hid (show Sto (Old wr.drew) wr.drew _ s from (HR.out.below (Below.refl _ _).drew).at 3 rfl)
      have hBA' := Lib.hid hBA
      have gA' := Lib.hid gA
      have hsA' := Lib.hid hsA
      clear hBA gA hsA
      have ltA : Hid (wr.heap.size < wA.drew.heap.size) := Lib.hid (by show wr.heap.size < wA.heap.size; rw [hsA'.out]; omega)
      go_cut [14, 15] from 90 to 100 (fun x14 x15 wx => ∃ g P pc, x14 = .pointer (some ⟨g, 0, none⟩) ∧ x15 = .int .i64 0 ∧ BoxW g #[.int .u8 (x.1.1.toNat : Int), .int .u32 x.1.2.1, .int .u32 x.1.2.2, .int .i64 x.2.1, .slice P x.2.2.length pc] 39 wx ∧ Itm (Old wx) wx (itV x (.slice P x.2.2.length pc)) x ∧ Below wr.heap.size wr wx)
      case first =>
        go_region_with (first
          | (go_at_call 11; refine (hFx.out _ _ SR.out).mono ?_; rintro e' wm ⟨P, pc, rfl, hx, hb⟩)
          | (go_at_call 11; refine (hFx.out _ _ SA.out).mono ?_; rintro e' wm ⟨P, pc, rfl, hx, hb⟩; have GA := (hb.block wr.heap.size ltA.out).trans gA'.out; obtain ⟨f0, f1, f2, f3, f4, f5, _⟩ := five_cells GA; obtain ⟨W9, hW9, g9, gr9, gs9⟩ := put_five (u0 := .int .u8 (x.1.1.toNat : Int)) (u1 := .int .u32 x.1.2.1) (u2 := .int .u32 x.1.2.2) (u3 := .int .i64 x.2.1) (u4 := .slice P x.2.2.length pc) GA))
        all_goals (go_wp2_with fail; go_meet; first
          | exact ⟨wr.heap.size, P, pc, rfl, rfl, g9, (hx.grown gr9 (fun q e => by cases e; exact ltA.out)).drop, ((hBA'.out.drew).trans (hb.mono hBA'.out.size)).grown gr9 (Nat.le_trans hBA'.out.size hb.size) (fun q e => by cases e; exact Nat.le_refl _)⟩
          | exact ⟨wm.heap.size, P, pc, rfl, rfl, heap_alloc_new _ _, hx.drop.below ((Below.refl _ _).alloc (Nat.le_refl _) _), ((Below.refl wr.heap.size wr).drew.trans hb).alloc hb.size _⟩)
      case rest =>
      obtain ⟨g, P, pc, rfl, rfl, hG, hI, hC⟩ := hcut
      clear ltA SA SR hBA' gA' hsA' hwA ka0 ka1 ka2 ka3 kag za0 za1 za2 za3 za4 k0 k1 k2 k3 kg z0 z1 z2 z3 z4 hFx
      obtain ⟨W0, rfl⟩ : ∃ W0 : World, W0 = wc := ⟨_, rfl⟩
      have hE := True.intro
      have HR0 := Lib.hid (HR.out.below hC)
      have BR0 := Lib.hid (BR.out.trans (hC.mono BR.out.size))
      have FX' := Lib.hid (fun W (hW : Below W0.heap.size W0 W) => FX.out W (hC.trans (hW.mono hC.size)))
      clear hE hC HR BR FX
      obtain ⟨wr, rfl⟩ : ∃ wr : World, wr = W0 := ⟨_, rfl⟩
      have HR := HR0
      have BR := BR0
      have FX := FX'
      clear HR0 BR0 FX'
      have hG' := Lib.hid hG
      have hI' := Lib.hid hI
      clear hG hI
      go_upto_region 18 with fail
      refine wp_region_fx (by kernel_rfl) (fun W => Below wr.heap.size wr W) (fun _ => none) (fun i => match i with
        | 8 => some (.bool true)
        | _ => none) (by kernel_rfl) (Below.refl _ _).drew (fun w w' h hb => h.trans (hb.mono h.size)) (fun j φ x W W' hp => by cases hp) ?_
      repeat (first
        | (refine wpAs_skip rfl ?_; simp only [Act.put, List.setIfInBounds_toArray, List.set_cons_zero, List.set_cons_succ])
        | (refine wpAs_pure (v := ?_) rfl rfl ?_ ?_; rotate_left; (intro W hC hE; clear hE; (have GW := lasts_boxW _ _ _ _ _ hG'.out hC; obtain ⟨n0, n1, n2, n3, n4, _⟩ := five_cells GW; clear GW; obtain ⟨⟨z0, z1, z2, z3, z4⟩, _⟩ := FX.out W hC); clear hC; go_simp; done); simp only [Act.put, List.setIfInBounds_toArray, List.set_cons_zero, List.set_cons_succ])
        | (refine wpAs_pure (v := ?_) rfl rfl ?_ ?_; rotate_left; (intro W hC hE; clear hE; (have GW := lasts_boxW _ _ _ _ _ hG'.out hC; obtain ⟨n0, n1, n2, n3, n4, _⟩ := five_cells GW; clear GW; obtain ⟨⟨z0, z1, z2, z3, z4⟩, _⟩ := FX.out W hC); clear hC; go_simp; with_reducible rfl); simp only [Act.put, List.setIfInBounds_toArray, List.set_cons_zero, List.set_cons_succ]))
      refine wpAs_fixed rfl rfl rfl ?_ ?_
      · intro W hC hE
        clear hE
        refine does_enter (f := 21) (args := #[itV x (.slice P x.2.2.length pc), itV x (.slice E5 x.2.2.length ce5)]) ?_ ?_
        · go_simp
        · refine (sameI_any _ _ x x W (hI'.out.below hC) (FX.out W hC).2).mono ?_
          rintro e W' ⟨rfl, hg⟩
          rw [sameI_self]
          exact ⟨_, rfl, rfl, hg⟩
      simp only [Act.put, List.setIfInBounds_toArray, List.set_cons_zero, List.set_cons_succ]
      repeat (first
        | (refine wpAs_skip rfl ?_; simp only [Act.put, List.setIfInBounds_toArray, List.set_cons_zero, List.set_cons_succ])
        | (refine wpAs_pure (v := ?_) rfl rfl ?_ ?_; rotate_left; (intro W hC hE; clear hE; skip; clear hC; go_simp; done); simp only [Act.put, List.setIfInBounds_toArray, List.set_cons_zero, List.set_cons_succ])
        | (refine wpAs_pure (v := ?_) rfl rfl ?_ ?_; rotate_left; (intro W hC hE; clear hE; skip; clear hC; go_simp; with_reducible rfl); simp only [Act.put, List.setIfInBounds_toArray, List.set_cons_zero, List.set_cons_succ]))
      refine wpAs_end fun W0 hC hE => ?_
      clear hG' hI'
      have HR0 := Lib.hid (HR.out.below hC)
      have BR0 := Lib.hid (BR.out.trans (hC.mono BR.out.size))
      have FX' := Lib.hid (fun W (hW : Below W0.heap.size W0 W) => FX.out W (hC.trans (hW.mono hC.size)))
      clear hE hC HR BR FX
      obtain ⟨wr, rfl⟩ : ∃ wr : World, wr = W0 := ⟨_, rfl⟩
      have HR := HR0
      have BR := BR0
      have FX := FX'
      clear HR0 BR0 FX'
      cases q with
      | true =>
        go_upto_region 20 with fail
        refine wp_region_fx (by kernel_rfl) (fun W => Below wr.heap.size wr W) (fun _ => none) (fun _ => none) (by kernel_rfl) (Below.refl _ _).drew (fun w w' h hb => h.trans (hb.mono h.size)) (fun j φ x W W' hp => by cases hp) ?_
        iterate 1 (first
          | (refine wpAs_skip rfl ?_; simp only [Act.put, List.setIfInBounds_toArray, List.set_cons_zero, List.set_cons_succ])
          | (refine wpAs_pure (v := ?_) rfl rfl ?_ ?_; rotate_left; (intro W hC hE; clear hE; skip; clear hC; go_simp; with_reducible rfl); simp only [Act.put, List.setIfInBounds_toArray, List.set_cons_zero, List.set_cons_succ]))
        refine wpAs_pure_jump (v := .bool true) 7 rfl rfl rfl ?_ (by kernel_rfl) ?_
        · intro W hC hE
          clear hE hC
          first
            | (go_simp; done)
            | (go_simp; simp; omega)
            | (go_simp; simp_all; done)
        simp only [skipN, Act.put, List.drop_succ_cons, List.drop_zero, List.setIfInBounds_toArray, List.set_cons_zero, List.set_cons_succ]
        iterate 2 (first
          | (refine wpAs_skip rfl ?_; simp only [Act.put, List.setIfInBounds_toArray, List.set_cons_zero, List.set_cons_succ])
          | (refine wpAs_pure (v := ?_) rfl rfl ?_ ?_; rotate_left; (intro W hC hE; clear hE; skip; clear hC; go_simp; with_reducible rfl); simp only [Act.put, List.setIfInBounds_toArray, List.set_cons_zero, List.set_cons_succ]))
        refine wpAs_end fun W0 hC hE => ?_
        have B9 := Lib.hid (BR.out.trans (hC.mono BR.out.size))
        clear hE hC
        go_wp2_with fail
        go_roundw
        case rel => exact ⟨k + 1, by omega, by go_num, by rw [hat'.out]; rfl, B9.out⟩
        case measure => simp [intOf]; omega
      | false =>
        have hke := key_eq x.1 key
        have hkg := key_guard
        unfold kyV at hke
        obtain ⟨b3, hb3⟩ : ∃ b, decide (x.1 = key) = b := ⟨_, rfl⟩
        rw [hb3] at hke hat'
        replace hb3 := Lib.hid hb3
        go_upto_region 20 with fail
        refine wp_region_fx (by kernel_rfl) (fun W => Below wr.heap.size wr W) (fun _ => none) (fun _ => none) (by kernel_rfl) (Below.refl _ _).drew (fun w w' h hb => h.trans (hb.mono h.size)) (fun j φ x W W' hp => by cases hp) ?_
        repeat (first
          | (refine wpAs_skip rfl ?_; simp only [Act.put, List.setIfInBounds_toArray, List.set_cons_zero, List.set_cons_succ])
          | (refine wpAs_pure (v := ?_) rfl rfl ?_ ?_; rotate_left; (intro W hC hE; clear hE; (obtain ⟨⟨z0, z1, z2, z3, z4⟩, _⟩ := FX.out W hC; obtain ⟨t0, t1, t2, _⟩ := (HR.out.below hC).at 1 rfl); clear hC; go_simp; done); simp only [Act.put, List.setIfInBounds_toArray, List.set_cons_zero, List.set_cons_succ])
          | (refine wpAs_pure (v := ?_) rfl rfl ?_ ?_; rotate_left; (intro W hC hE; clear hE; (obtain ⟨⟨z0, z1, z2, z3, z4⟩, _⟩ := FX.out W hC; obtain ⟨t0, t1, t2, _⟩ := (HR.out.below hC).at 1 rfl); clear hC; go_simp; with_reducible rfl); simp only [Act.put, List.setIfInBounds_toArray, List.set_cons_zero, List.set_cons_succ]))
        refine wpAs_end fun W0 hC hE => ?_
        have B9 := Lib.hid (BR.out.trans (hC.mono BR.out.size))
        clear hE hC
        go_wp2_with fail
        go_roundw
        case rel => exact ⟨k + 1, by omega, by go_num, by rw [hat'.out]; rfl, B9.out⟩
        case measure => simp [intOf]; omega
    · have i6 : (0 : Int) < (k : Int) := by omega
      have i6n : 0 < k := by omega
      obtain ⟨j, hj⟩ : ∃ j, k = j + 1 := ⟨k - 1, by omega⟩
      obtain ⟨z, hz⟩ : ∃ z, l[j]? = some z := ⟨_, List.getElem?_eq_getElem (by rw [hn.out]; omega)⟩
      have hls := up_next hup.out hz (by rw [← hj]; exact hx)
      obtain ⟨ad', E7, ce7, e7, _, _, _, FZ0⟩ := its_old (HR.out.at 0 rfl : rIts (Old wr) wr [.slice (some ad) n uc] l) hz
      cases e7
      have FZ := Lib.hid FZ0
      have i8 : (k : Int) - 1 = (j : Int) := by omega
      have i9 : IntKind.i64.wrap (j : Int) = (j : Int) := IntWalk.i64_in _ (by omega)
      have i10 : (j : Int) < (n : Int) := by omega
      have i11 : (0 : Int) ≤ (j : Int) := by omega
      replace hx := Lib.hid hx
      replace hz := Lib.hid hz
      replace hj := Lib.hid hj
      clear FZ0
      go_upto_region 14 with fail
      refine wp_region_fx (by kernel_rfl) (fun W => Below wr.heap.size wr W) (fun _ => none) (fun i => match i with
        | 14 => some (.bool true)
        | _ => none) (by kernel_rfl) (Below.refl _ _).drew (fun w w' h hb => h.trans (hb.mono h.size)) (fun j φ x W W' hp => by cases hp) ?_
      repeat (first
        | (refine wpAs_skip rfl ?_; simp only [Act.put, List.setIfInBounds_toArray, List.set_cons_zero, List.set_cons_succ])
        | (refine wpAs_pure (v := ?_) rfl rfl ?_ ?_; rotate_left; (intro W hC hE; clear hE; (obtain ⟨⟨z0, z1, z2, _, _⟩, _⟩ := FX.out W hC; obtain ⟨⟨u0, u1, u2, _, _⟩, _⟩ := FZ.out W hC); clear hC; go_simp; done); simp only [Act.put, List.setIfInBounds_toArray, List.set_cons_zero, List.set_cons_succ])
        | (refine wpAs_pure (v := ?_) rfl rfl ?_ ?_; rotate_left; (intro W hC hE; clear hE; (obtain ⟨⟨z0, z1, z2, _, _⟩, _⟩ := FX.out W hC; obtain ⟨⟨u0, u1, u2, _, _⟩, _⟩ := FZ.out W hC); clear hC; go_simp; with_reducible rfl); simp only [Act.put, List.setIfInBounds_toArray, List.set_cons_zero, List.set_cons_succ]))
      refine wpAs_fixed rfl rfl rfl ?_ ?_
      · intro W hC hE
        refine does_enter (f := 20) (args := #[kyV z.1, kyV x.1]) ?_ ?_
        · go_simp
        · refine (less_any z.1 x.1 W).mono ?_
          (rintro e W' ⟨rfl, hg⟩; rw [hls])
          exact ⟨_, rfl, rfl, hg⟩
      simp only [Act.put, List.setIfInBounds_toArray, List.set_cons_zero, List.set_cons_succ]
      repeat (first
        | (refine wpAs_skip rfl ?_; simp only [Act.put, List.setIfInBounds_toArray, List.set_cons_zero, List.set_cons_succ])
        | (refine wpAs_pure (v := ?_) rfl rfl ?_ ?_; rotate_left; (intro W hC hE; clear hE; skip; clear hC; go_simp; done); simp only [Act.put, List.setIfInBounds_toArray, List.set_cons_zero, List.set_cons_succ])
        | (refine wpAs_pure (v := ?_) rfl rfl ?_ ?_; rotate_left; (intro W hC hE; clear hE; skip; clear hC; go_simp; with_reducible rfl); simp only [Act.put, List.setIfInBounds_toArray, List.set_cons_zero, List.set_cons_succ]))
      refine wpAs_end fun W0 hC hE => ?_
      clear FZ i8 i9 i10 i11 hls
      have HR0 := Lib.hid (HR.out.below hC)
      have BR0 := Lib.hid (BR.out.trans (hC.mono BR.out.size))
      have FX' := Lib.hid (fun W (hW : Below W0.heap.size W0 W) => FX.out W (hC.trans (hW.mono hC.size)))
      clear hE hC HR BR FX
      obtain ⟨wr, rfl⟩ : ∃ wr : World, wr = W0 := ⟨_, rfl⟩
      have HR := HR0
      have BR := BR0
      have FX := FX'
      clear HR0 BR0 FX'
      by_cases h20 : k < 20
      · have i7 : (k : Int) < 20 := by omega
        go_upto_region 17 with fail
        obtain ⟨m1, m2⟩ := hfx.out x hxm.out
        have hFx : Hid (∀ v W, Sto (Old W) W v s → Calls Try.prog 11 #[v, .int .i64 a, kyV x.1] W fun e w' => ∃ P pc, e = .returned (.tuple #[itV x (.slice P x.2.2.length pc), .int .i64 0]) ∧ Itm (New W.heap.size w') w' (itV x (.slice P x.2.2.length pc)) x ∧ Below W.heap.size W w') := Lib.hid fun v W hW => by
          have := hFd.out v x.1 W hW
          rw [m1, m2] at this
          exact this
        clear m1 m2
        obtain ⟨k0, k1, k2, k3, kg⟩ := HR.out.at 2 rfl
        obtain ⟨⟨z0, z1, z2, z3, z4⟩, _⟩ := FX.out wr (Below.refl _ _)
        obtain ⟨wA, hwA, _, _, _, _, _, hsA, hBA, gA⟩ := box_five wr (.int .u8 0) (.int .u32 0) (.int .u32 0) (.int .i64 0) (.slice none 0 0) 39
        obtain ⟨ka0, ka1, ka2, ka3, kag⟩ := (HR.out.below hBA).at 2 rfl
        obtain ⟨⟨za0, za1, za2, za3, za4⟩, _⟩ := FX.out wA hBA
        have SA := Lib.hid (show Sto (Old wA.drew) wA.drew _ s from (HR.out.below hBA.drew).at 3 rfl)
        have SR := Lib.hid (show Sto (Old wr.drew) wr.drew _ s from (HR.out.below (Below.refl _ _).drew).at 3 rfl)
        have hBA' := Lib.hid hBA
        have gA' := Lib.hid gA
        have hsA' := Lib.hid hsA
        clear hBA gA hsA
        have ltA : Hid (wr.heap.size < wA.drew.heap.size) := Lib.hid (by show wr.heap.size < wA.heap.size; rw [hsA'.out]; omega)
        go_cut [14, 15] from 90 to 100 (fun x14 x15 wx => ∃ g P pc, x14 = .pointer (some ⟨g, 0, none⟩) ∧ x15 = .int .i64 0 ∧ BoxW g #[.int .u8 (x.1.1.toNat : Int), .int .u32 x.1.2.1, .int .u32 x.1.2.2, .int .i64 x.2.1, .slice P x.2.2.length pc] 39 wx ∧ Itm (Old wx) wx (itV x (.slice P x.2.2.length pc)) x ∧ Below wr.heap.size wr wx)
        case first =>
          go_region_with (first
            | (go_at_call 11; refine (hFx.out _ _ SR.out).mono ?_; rintro e' wm ⟨P, pc, rfl, hx, hb⟩)
            | (go_at_call 11; refine (hFx.out _ _ SA.out).mono ?_; rintro e' wm ⟨P, pc, rfl, hx, hb⟩; have GA := (hb.block wr.heap.size ltA.out).trans gA'.out; obtain ⟨f0, f1, f2, f3, f4, f5, _⟩ := five_cells GA; obtain ⟨W9, hW9, g9, gr9, gs9⟩ := put_five (u0 := .int .u8 (x.1.1.toNat : Int)) (u1 := .int .u32 x.1.2.1) (u2 := .int .u32 x.1.2.2) (u3 := .int .i64 x.2.1) (u4 := .slice P x.2.2.length pc) GA))
          all_goals (go_wp2_with fail; go_meet; first
            | exact ⟨wr.heap.size, P, pc, rfl, rfl, g9, (hx.grown gr9 (fun q e => by cases e; exact ltA.out)).drop, ((hBA'.out.drew).trans (hb.mono hBA'.out.size)).grown gr9 (Nat.le_trans hBA'.out.size hb.size) (fun q e => by cases e; exact Nat.le_refl _)⟩
            | exact ⟨wm.heap.size, P, pc, rfl, rfl, heap_alloc_new _ _, hx.drop.below ((Below.refl _ _).alloc (Nat.le_refl _) _), ((Below.refl wr.heap.size wr).drew.trans hb).alloc hb.size _⟩)
        case rest =>
        obtain ⟨g, P, pc, rfl, rfl, hG, hI, hC⟩ := hcut
        clear ltA SA SR hBA' gA' hsA' hwA ka0 ka1 ka2 ka3 kag za0 za1 za2 za3 za4 k0 k1 k2 k3 kg z0 z1 z2 z3 z4 hFx
        obtain ⟨W0, rfl⟩ : ∃ W0 : World, W0 = wc := ⟨_, rfl⟩
        have hE := True.intro
        have HR0 := Lib.hid (HR.out.below hC)
        have BR0 := Lib.hid (BR.out.trans (hC.mono BR.out.size))
        have FX' := Lib.hid (fun W (hW : Below W0.heap.size W0 W) => FX.out W (hC.trans (hW.mono hC.size)))
        clear hE hC HR BR FX
        obtain ⟨wr, rfl⟩ : ∃ wr : World, wr = W0 := ⟨_, rfl⟩
        have HR := HR0
        have BR := BR0
        have FX := FX'
        clear HR0 BR0 FX'
        have hG' := Lib.hid hG
        have hI' := Lib.hid hI
        clear hG hI
        go_upto_region 18 with fail
        refine wp_region_fx (by kernel_rfl) (fun W => Below wr.heap.size wr W) (fun _ => none) (fun i => match i with
          | 8 => some (.bool true)
          | _ => none) (by kernel_rfl) (Below.refl _ _).drew (fun w w' h hb => h.trans (hb.mono h.size)) (fun j φ x W W' hp => by cases hp) ?_
        repeat (first
          | (refine wpAs_skip rfl ?_; simp only [Act.put, List.setIfInBounds_toArray, List.set_cons_zero, List.set_cons_succ])
          | (refine wpAs_pure (v := ?_) rfl rfl ?_ ?_; rotate_left; (intro W hC hE; clear hE; (have GW := lasts_boxW _ _ _ _ _ hG'.out hC; obtain ⟨n0, n1, n2, n3, n4, _⟩ := five_cells GW; clear GW; obtain ⟨⟨z0, z1, z2, z3, z4⟩, _⟩ := FX.out W hC); clear hC; go_simp; done); simp only [Act.put, List.setIfInBounds_toArray, List.set_cons_zero, List.set_cons_succ])
          | (refine wpAs_pure (v := ?_) rfl rfl ?_ ?_; rotate_left; (intro W hC hE; clear hE; (have GW := lasts_boxW _ _ _ _ _ hG'.out hC; obtain ⟨n0, n1, n2, n3, n4, _⟩ := five_cells GW; clear GW; obtain ⟨⟨z0, z1, z2, z3, z4⟩, _⟩ := FX.out W hC); clear hC; go_simp; with_reducible rfl); simp only [Act.put, List.setIfInBounds_toArray, List.set_cons_zero, List.set_cons_succ]))
        refine wpAs_fixed rfl rfl rfl ?_ ?_
        · intro W hC hE
          clear hE
          refine does_enter (f := 21) (args := #[itV x (.slice P x.2.2.length pc), itV x (.slice E5 x.2.2.length ce5)]) ?_ ?_
          · go_simp
          · refine (sameI_any _ _ x x W (hI'.out.below hC) (FX.out W hC).2).mono ?_
            rintro e W' ⟨rfl, hg⟩
            rw [sameI_self]
            exact ⟨_, rfl, rfl, hg⟩
        simp only [Act.put, List.setIfInBounds_toArray, List.set_cons_zero, List.set_cons_succ]
        repeat (first
          | (refine wpAs_skip rfl ?_; simp only [Act.put, List.setIfInBounds_toArray, List.set_cons_zero, List.set_cons_succ])
          | (refine wpAs_pure (v := ?_) rfl rfl ?_ ?_; rotate_left; (intro W hC hE; clear hE; skip; clear hC; go_simp; done); simp only [Act.put, List.setIfInBounds_toArray, List.set_cons_zero, List.set_cons_succ])
          | (refine wpAs_pure (v := ?_) rfl rfl ?_ ?_; rotate_left; (intro W hC hE; clear hE; skip; clear hC; go_simp; with_reducible rfl); simp only [Act.put, List.setIfInBounds_toArray, List.set_cons_zero, List.set_cons_succ]))
        refine wpAs_end fun W0 hC hE => ?_
        clear hG' hI'
        have HR0 := Lib.hid (HR.out.below hC)
        have BR0 := Lib.hid (BR.out.trans (hC.mono BR.out.size))
        have FX' := Lib.hid (fun W (hW : Below W0.heap.size W0 W) => FX.out W (hC.trans (hW.mono hC.size)))
        clear hE hC HR BR FX
        obtain ⟨wr, rfl⟩ : ∃ wr : World, wr = W0 := ⟨_, rfl⟩
        have HR := HR0
        have BR := BR0
        have FX := FX'
        clear HR0 BR0 FX'
        cases q with
        | true =>
          go_upto_region 20 with fail
          refine wp_region_fx (by kernel_rfl) (fun W => Below wr.heap.size wr W) (fun _ => none) (fun _ => none) (by kernel_rfl) (Below.refl _ _).drew (fun w w' h hb => h.trans (hb.mono h.size)) (fun j φ x W W' hp => by cases hp) ?_
          iterate 1 (first
            | (refine wpAs_skip rfl ?_; simp only [Act.put, List.setIfInBounds_toArray, List.set_cons_zero, List.set_cons_succ])
            | (refine wpAs_pure (v := ?_) rfl rfl ?_ ?_; rotate_left; (intro W hC hE; clear hE; skip; clear hC; go_simp; with_reducible rfl); simp only [Act.put, List.setIfInBounds_toArray, List.set_cons_zero, List.set_cons_succ]))
          refine wpAs_pure_jump (v := .bool true) 7 rfl rfl rfl ?_ (by kernel_rfl) ?_
          · intro W hC hE
            clear hE hC
            first
              | (go_simp; done)
              | (go_simp; simp; omega)
              | (go_simp; simp_all; done)
          simp only [skipN, Act.put, List.drop_succ_cons, List.drop_zero, List.setIfInBounds_toArray, List.set_cons_zero, List.set_cons_succ]
          iterate 2 (first
            | (refine wpAs_skip rfl ?_; simp only [Act.put, List.setIfInBounds_toArray, List.set_cons_zero, List.set_cons_succ])
            | (refine wpAs_pure (v := ?_) rfl rfl ?_ ?_; rotate_left; (intro W hC hE; clear hE; skip; clear hC; go_simp; with_reducible rfl); simp only [Act.put, List.setIfInBounds_toArray, List.set_cons_zero, List.set_cons_succ]))
          refine wpAs_end fun W0 hC hE => ?_
          have B9 := Lib.hid (BR.out.trans (hC.mono BR.out.size))
          clear hE hC
          go_wp2_with fail
          go_roundw
          case rel => exact ⟨k + 1, by omega, by go_num, by rw [hat'.out]; rfl, B9.out⟩
          case measure => simp [intOf]; omega
        | false =>
          have hke := key_eq x.1 key
          have hkg := key_guard
          unfold kyV at hke
          obtain ⟨b3, hb3⟩ : ∃ b, decide (x.1 = key) = b := ⟨_, rfl⟩
          rw [hb3] at hke hat'
          replace hb3 := Lib.hid hb3
          go_upto_region 20 with fail
          refine wp_region_fx (by kernel_rfl) (fun W => Below wr.heap.size wr W) (fun _ => none) (fun _ => none) (by kernel_rfl) (Below.refl _ _).drew (fun w w' h hb => h.trans (hb.mono h.size)) (fun j φ x W W' hp => by cases hp) ?_
          repeat (first
            | (refine wpAs_skip rfl ?_; simp only [Act.put, List.setIfInBounds_toArray, List.set_cons_zero, List.set_cons_succ])
            | (refine wpAs_pure (v := ?_) rfl rfl ?_ ?_; rotate_left; (intro W hC hE; clear hE; (obtain ⟨⟨z0, z1, z2, z3, z4⟩, _⟩ := FX.out W hC; obtain ⟨t0, t1, t2, _⟩ := (HR.out.below hC).at 1 rfl); clear hC; go_simp; done); simp only [Act.put, List.setIfInBounds_toArray, List.set_cons_zero, List.set_cons_succ])
            | (refine wpAs_pure (v := ?_) rfl rfl ?_ ?_; rotate_left; (intro W hC hE; clear hE; (obtain ⟨⟨z0, z1, z2, z3, z4⟩, _⟩ := FX.out W hC; obtain ⟨t0, t1, t2, _⟩ := (HR.out.below hC).at 1 rfl); clear hC; go_simp; with_reducible rfl); simp only [Act.put, List.setIfInBounds_toArray, List.set_cons_zero, List.set_cons_succ]))
          refine wpAs_end fun W0 hC hE => ?_
          have B9 := Lib.hid (BR.out.trans (hC.mono BR.out.size))
          clear hE hC
          go_wp2_with fail
          go_roundw
          case rel => exact ⟨k + 1, by omega, by go_num, by rw [hat'.out]; rfl, B9.out⟩
          case measure => simp [intOf]; omega
      · have i7 : ¬ (k : Int) < 20 := by omega
        cases q with
        | true =>
          go_upto_region 20 with fail
          refine wp_region_fx (by kernel_rfl) (fun W => Below wr.heap.size wr W) (fun _ => none) (fun _ => none) (by kernel_rfl) (Below.refl _ _).drew (fun w w' h hb => h.trans (hb.mono h.size)) (fun j φ x W W' hp => by cases hp) ?_
          iterate 1 (first
            | (refine wpAs_skip rfl ?_; simp only [Act.put, List.setIfInBounds_toArray, List.set_cons_zero, List.set_cons_succ])
            | (refine wpAs_pure (v := ?_) rfl rfl ?_ ?_; rotate_left; (intro W hC hE; clear hE; skip; clear hC; go_simp; with_reducible rfl); simp only [Act.put, List.setIfInBounds_toArray, List.set_cons_zero, List.set_cons_succ]))
          refine wpAs_pure_jump (v := .bool true) 7 rfl rfl rfl ?_ (by kernel_rfl) ?_
          · intro W hC hE
            clear hE hC
            first
              | (go_simp; done)
              | (go_simp; simp; omega)
              | (go_simp; simp_all; done)
          simp only [skipN, Act.put, List.drop_succ_cons, List.drop_zero, List.setIfInBounds_toArray, List.set_cons_zero, List.set_cons_succ]
          iterate 2 (first
            | (refine wpAs_skip rfl ?_; simp only [Act.put, List.setIfInBounds_toArray, List.set_cons_zero, List.set_cons_succ])
            | (refine wpAs_pure (v := ?_) rfl rfl ?_ ?_; rotate_left; (intro W hC hE; clear hE; skip; clear hC; go_simp; with_reducible rfl); simp only [Act.put, List.setIfInBounds_toArray, List.set_cons_zero, List.set_cons_succ]))
          refine wpAs_end fun W0 hC hE => ?_
          have B9 := Lib.hid (BR.out.trans (hC.mono BR.out.size))
          clear hE hC
          go_wp2_with fail
          go_roundw
          case rel => exact ⟨k + 1, by omega, by go_num, by rw [hat'.out]; rfl, B9.out⟩
          case measure => simp [intOf]; omega
        | false =>
          have hke := key_eq x.1 key
          have hkg := key_guard
          unfold kyV at hke
          obtain ⟨b3, hb3⟩ : ∃ b, decide (x.1 = key) = b := ⟨_, rfl⟩
          rw [hb3] at hke hat'
          replace hb3 := Lib.hid hb3
          go_upto_region 20 with fail
          refine wp_region_fx (by kernel_rfl) (fun W => Below wr.heap.size wr W) (fun _ => none) (fun _ => none) (by kernel_rfl) (Below.refl _ _).drew (fun w w' h hb => h.trans (hb.mono h.size)) (fun j φ x W W' hp => by cases hp) ?_
          repeat (first
            | (refine wpAs_skip rfl ?_; simp only [Act.put, List.setIfInBounds_toArray, List.set_cons_zero, List.set_cons_succ])
            | (refine wpAs_pure (v := ?_) rfl rfl ?_ ?_; rotate_left; (intro W hC hE; clear hE; (obtain ⟨⟨z0, z1, z2, z3, z4⟩, _⟩ := FX.out W hC; obtain ⟨t0, t1, t2, _⟩ := (HR.out.below hC).at 1 rfl); clear hC; go_simp; done); simp only [Act.put, List.setIfInBounds_toArray, List.set_cons_zero, List.set_cons_succ])
            | (refine wpAs_pure (v := ?_) rfl rfl ?_ ?_; rotate_left; (intro W hC hE; clear hE; (obtain ⟨⟨z0, z1, z2, z3, z4⟩, _⟩ := FX.out W hC; obtain ⟨t0, t1, t2, _⟩ := (HR.out.below hC).at 1 rfl); clear hC; go_simp; with_reducible rfl); simp only [Act.put, List.setIfInBounds_toArray, List.set_cons_zero, List.set_cons_succ]))
          refine wpAs_end fun W0 hC hE => ?_
          have B9 := Lib.hid (BR.out.trans (hC.mono BR.out.size))
          clear hE hC
          go_wp2_with fail
          go_roundw
          case rel => exact ⟨k + 1, by omega, by go_num, by rw [hat'.out]; rfl, B9.out⟩
          case measure => simp [intOf]; omega

/-! ### The row's step -/
set_option maxRecDepth 100000 in
theorem lifted (os : Os) (started : os.Started) (H : Type) (enc : TypeId × Value → H) :
    ReturnsInHanded {} Try.checked os 5 .any (Rows.findAllSpec.pre6 enc Try.prog Try.f5 Rows.findAllRow.domain false) (Rows.findAllSpec.post enc Try.prog Try.f5 false true false false) := by
  refine returnsInHanded_of_change (C := Try.checked) own started (by kernel_rfl) Try.func5
    (ChangeSpec.witness6 (enc := enc) (C := Try.checked) false ⟨#[], #[.agg #[.slice none 0 0, .slice none 0 0, .slice none 0 0, .slice none 0 0], .int .i64 0, .agg #[.int .u8 0, .int .u32 0, .int .u32 0]], []⟩ 8 (by kernel_rfl) (by kernel_rfl) (by kernel_rfl) (by kernel_rfl)) ?_
  intro W base args ds gs before hval0 hW _ _
  have hval : ∀ (j : Nat) t v, Try.f5.params[j]? = some t → args[j]? = some v → Value.okWide Try.prog W .any base t v := hval0
  have hW' := hW
  obtain ⟨p, q, hA0, hV, _, _, _⟩ := hW
  have hA : DataW.TrodAll enc Try.prog W 0 (fun _ => true) true Try.f5.params.toList args.toList ds p := hA0
  rw [Try.params5] at hA hval
  obtain ⟨v0, vs0, d0, ds0, p0, q0, hargs, rfl, _, h0, r0⟩ := trodAll_cons hA
  obtain ⟨v1, vs1, d1, ds1, p1, q1, rfl, rfl, _, h1, r1⟩ := trodAll_cons r0
  obtain ⟨v2, vs2, d2, ds2, p2, q2, rfl, rfl, _, h2, r2⟩ := trodAll_cons r1
  obtain ⟨rfl, rfl, _⟩ := trodAll_nil r2
  obtain rfl : args = #[v0, v1, v2] := by cases args; simp_all
  obtain ⟨rfl, _⟩ := trodVars_none hV
  obtain ⟨d0x, y0⟩ := open_store (hval 0 29 v0 rfl rfl) h0
  obtain ⟨a1, rfl, _, _, w1⟩ := open_int Try.underlying3 (hval 1 3 v1 rfl rfl) h1
  obtain ⟨k2x, rfl, _⟩ := open_key (hval 2 37 v2 rfl rfl) h2
  clear hA0 hval0
  refine (walk v0 d0x a1 w1 k2x W y0).mono fun e W' ⟨he, hb⟩ => ?_
  subst he
  exact ⟨_, rfl, law_post laidOut (by rw [Try.params5]; decide +kernel) (by kernel_rfl) Try.underlying4 rfl ⟨rfl, by simp [Rows.findAllSpec], rfl⟩ hW' hb⟩

theorem over : Rows.findAllRow.holds Try.pinned (OpenSpec.ofChange Rows.findAllSpec) :=
  OpenClaim.holds_of_wide 5 Try.f5 rfl rfl rfl rfl rfl rfl rfl ⟨rfl, rfl, rfl, rfl, rfl⟩ rfl rfl rfl rfl rfl (by kernel_rfl) Try.func5 (by kernel_rfl)
    (of_decide_eq_true (by kernel_rfl)) (by unfold Func.isWrapper; first | (rw [if_pos (by decide +kernel)]; kernel_rfl) | (rw [if_neg (by decide +kernel)]; exact ⟨rfl, rfl⟩))
    (fun os started H enc _ => lifted os started H enc)

end Go.Proofs.Ytncnoingbaeomaa.findAll
namespace Go.Proofs.Ytncnoingbaeomaa
theorem findAll_proved : Rows.FindAllSaid := findAll.over
end Go.Proofs.Ytncnoingbaeomaa
