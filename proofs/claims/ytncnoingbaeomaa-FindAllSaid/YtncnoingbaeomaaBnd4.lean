/-
  Lemmas on the program and on the document's answers, gathered: FnEnds, FnStands, FnRef, FnFind, RmRefT, DrMake, FnMade, FnAll, NdTwin, NdTwin2, FnItems, DrRefer, DrMk, DrLaw, FnLaw, FnAlive, FnGather, FnLaws. Conditions: those that each lemma states.
-/
import Derived.Test.YtncnoingbaeomaaBnd3
import Derived.WalkMore
/-
  Package find: the closure of stands that calls itself. Conditions: those that each lemma states.
-/
namespace Go.Proofs.Ytncnoingbaeomaa
open Go.RowKit

/-- The closure, with what it captured. -/
abbrev cloE (Bs Be : Nat) : Value := .func (.func 52) #[] #[.pointer (some ⟨Bs, 0, none⟩), .pointer (some ⟨Be, 0, none⟩)]
def BoxF (g : Nat) (v : Value) : World → Prop := fun w => w.cell? ⟨g, 0, none⟩ = some v ∧ g < w.heap.size
theorem lasts_boxF (g : Nat) (v : Value) : Lasts (BoxF g v) := fun _ _ h hb => ⟨(hb.cell (p := ⟨g, 0, none⟩) h.2).trans h.1, Nat.lt_of_lt_of_le h.2 hb.size⟩
def EndsP (s : Rm) (n : Nd) (w : World) : Ending → World → Prop := fun e w' => ∃ f t ok, e = .returned (.tuple #[kyV f, kyV t, .bool ok]) ∧ spanN s n = (if ok = true then some (f, t) else none) ∧ Below w.heap.size w w'
theorem ends_ret {s : Rm} {n : Nd} {w w' : World} (f t : Ky) (ok : Bool) (h : spanN s n = if ok = true then some (f, t) else none) (hb : Below w.heap.size w w') : EndsP s n w (.returned (.tuple #[kyV f, kyV t, .bool ok])) w' := ⟨f, t, ok, rfl, h, hb⟩
/-- What a call of it tells, at a level. -/
def EndsIs (s : Rm) (l : Nat) : Prop := ∀ (u v0 v1 v2 v3 : Value) (n : Nd) (Bs Be : Nat) (w : World), mayN n = true → n.1 = (l : Int) → n.2.length ≠ 0 → Nod (Old w) w u n → Sto (Old w) w (.agg #[v0, v1, v2, v3]) s → Box4 Bs v0 v1 v2 v3 w → BoxF Be (cloE Bs Be) w →
    Calls Try.prog 52 #[u, .pointer (some ⟨Bs, 0, none⟩), .pointer (some ⟨Be, 0, none⟩)] w (EndsP s n w)

set_option maxRecDepth 100000 in
set_option maxHeartbeats 8000000 in
theorem ends_step (s : Rm) (hm : mayR s = true) (l0 : Nat) (hr0 : ∀ j, l0 = j + 1 → EndsIs s j) : EndsIs s l0 := by
  intro u v0 v1 v2 v3 n Bs Be w hmn0 hlv hne hu h hBs hBe
  have hmn := Lib.hid hmn0
  obtain ⟨I, ci, rfl, -, -, -, hI⟩ := id hu.open
  obtain ⟨lw, hlw⟩ : ∃ q, n.1 = q := ⟨_, rfl⟩
  obtain ⟨l, hl⟩ : ∃ q, n.2 = q := ⟨_, rfl⟩
  obtain ⟨m, hlm⟩ : ∃ q, l.length = q := ⟨_, rfl⟩
  obtain ⟨R, hR⟩ : ∃ R, spanN s n = R := ⟨_, rfl⟩
  have hR0 := Lib.hid (fun (x y : It) (j : Nat) (h1 : n.1 = 0) (h2 : n.2[0]? = some x) (h3 : n.2.length = j + 1) (h4 : n.2[j]? = some y) => span_zero (s := s) h1 h2 h3 h4)
  have hR1 := Lib.hid (fun (j : Nat) (hj : n.1 = ((j + 1 : Nat) : Int)) => span_succ (s := s) hj)
  rw [hR] at hR0 hR1
  have hu' := hu
  rw [hl, hlm] at hI
  rw [hlw, hl, hlm] at hu'
  rw [hlw, hl, hlm] at hR0
  rw [hlw, hl] at hR1
  rw [hl, hlw, hlm]
  rw [hlw] at hlv
  rw [hl, hlm] at hne
  have hm5 : m ≤ 5 := by
    have := (mayN_of hmn.out).1.2.2.1
    rw [hl, hlm] at this
    exact this
  have HG0 : Bag w [BoxF Be (cloE Bs Be), Box4 Bs v0 v1 v2 v3, OldN (.agg #[.int .i64 lw, .slice I m ci]) n, OldIs (.slice I m ci) l, OldR (.agg #[v0, v1, v2, v3]) s] :=
    (((((Bag.nil w).add (F := OldR _ s) h (lasts_oldR _ _)).add (F := OldIs _ l) hI (lasts_oldIs _ _)).add (F := OldN _ n) hu' (lasts_oldN _ _)).add (F := Box4 _ _ _ _ _) hBs (lasts_box4 _ _ _ _ _)).add (F := BoxF _ _) hBe (lasts_boxF _ _)
  obtain ⟨w0, hw0, b0, hs0, hB0⟩ := box_pair' w (.int .i64 lw) (.slice I m ci) 64
  obtain ⟨w1, hw1, _, _, _, hs1, hB1, b1⟩ := box_three w0 (.int .u8 0) (.int .u32 0) (.int .u32 0) 37
  obtain ⟨w2, hw2, _, _, _, hs2, hB2, b2⟩ := box_three w1 (.int .u8 0) (.int .u32 0) (.int .u32 0) 37
  have HG := Lib.hid HG0
  have BB := Lib.hid ((hB0.trans (hB1.mono hB0.size)).trans (hB2.mono (hB0.trans (hB1.mono hB0.size)).size))
  have G0 : BoxW w.heap.size #[.int .i64 lw, .slice I m ci] 64 w2 := lasts_boxW _ _ _ _ _ (lasts_boxW _ _ _ _ _ b0 hB1) hB2
  have G1 : BoxW w0.heap.size #[.int .u8 0, .int .u32 0, .int .u32 0] 37 w2 := lasts_boxW _ _ _ _ _ b1 hB2
  have G2 : BoxW w1.heap.size #[.int .u8 0, .int .u32 0, .int .u32 0] 37 w2 := b2
  have lo : Hid (w.heap.size < w0.heap.size ∧ w0.heap.size < w1.heap.size ∧ w1.heap.size < w2.heap.size) := Lib.hid ⟨by omega, by omega, by omega⟩
  obtain ⟨y0, y1, _⟩ := two_cells G0
  replace hs2 := Lib.hid hs2
  replace hs1 := Lib.hid hs1
  replace hs0 := Lib.hid hs0
  replace hlw := Lib.hid hlw
  replace hl := Lib.hid hl
  replace hlm := Lib.hid hlm
  replace hlv := Lib.hid hlv
  replace hR := Lib.hid hR
  replace G0 := Lib.hid G0
  replace G1 := Lib.hid G1
  replace G2 := Lib.hid G2
  clear HG0 h hu hu' hB2 hB1 hB0 hI hBs hBe b0 b1 b2 hmn0
  obtain ⟨m1, hm1⟩ : ∃ j, m = j + 1 := ⟨m - 1, by omega⟩
  obtain ⟨x0, hx0⟩ : ∃ x, l[0]? = some x := ⟨_, List.getElem?_eq_getElem (by rw [hlm.out]; omega)⟩
  obtain ⟨yl, hyl⟩ : ∃ x, l[m1]? = some x := ⟨_, List.getElem?_eq_getElem (by rw [hlm.out]; omega)⟩
  have hx0' := Lib.hid hx0
  have hyl' := Lib.hid hyl
  have HW2 := Lib.hid (HG.out.below BB.out)
  obtain ⟨ad, E0, ce0, rfl, _, FX0⟩ := its_first (HW2.out.at 3 rfl : rIts (Old w2) w2 [.slice I m ci] l) hx0
  have FX := Lib.hid (fun W (hW : Below w2.heap.size w2 W) => (FX0 W hW).1)
  have iz : 0 < m := by omega
  cases l0 with
  | zero =>
    obtain ⟨ad', E6, ce6, e6, _, _, _, FY0⟩ := its_old (HW2.out.at 3 rfl : rIts (Old w2) w2 [.slice (some ad) m ci] l) hyl
    cases e6
    have FY := Lib.hid (fun W (hW : Below w2.heap.size w2 W) => (FY0 W hW).1)
    have e0 : lw = 0 := hlv.out
    subst e0
    obtain ⟨b, hb⟩ : ∃ b, leafO s l = b := ⟨_, rfl⟩
    have hfin := Lib.hid (hR0.out x0 yl m1 rfl hx0 hm1 hyl)
    rw [hb] at hfin
    replace hb := Lib.hid hb
    have i6 : (m : Int) - 1 = (m1 : Int) := by omega
    have i7 : (m1 : Int) < (m : Int) := by omega
    have i8 : (0 : Int) ≤ (m1 : Int) := by omega
    have i9 : IntKind.i64.wrap (m1 : Int) = (m1 : Int) := IntWalk.i64_in _ (by omega)
    have i0 : (0 : Int) < (m : Int) := by omega
    replace hm1 := Lib.hid hm1
    clear hR0 hR1 hx0 hyl FX0 FY0
    go_enter Try.func52, Try.ntmps52
    go_upto_region 1 with fail
    clear hw0 hw1 hw2
    go_wp2_with fail
    clear y0 y1
    obtain ⟨o4, ho4⟩ : ∃ o, (Obj.cells #[.int .u8 (x0.1.1.toNat : Int), .int .u32 x0.1.2.1, .int .u32 x0.1.2.2] 37 (0, 0)) = o := ⟨_, rfl⟩
    obtain ⟨o5, ho5⟩ : ∃ o, (Obj.cells #[.int .u8 (yl.1.1.toNat : Int), .int .u32 yl.1.2.1, .int .u32 yl.1.2.2] 37 (0, 0)) = o := ⟨_, rfl⟩
    obtain ⟨fin, hfn⟩ : ∃ f, finTwo w0.heap.size o4 w1.heap.size o5 = f := ⟨_, rfl⟩
    have fn4 : Hid (fin w0.heap.size = some o4) := Lib.hid (by rw [← hfn]; exact finTwo_one _ _ _ _)
    have fn5 : Hid (fin w1.heap.size = some o5) := Lib.hid (by rw [← hfn]; exact finTwo_two (by have := lo.out; omega) _ _)
    have fnl : Hid (∀ k, k < w0.heap.size → fin k = none) := Lib.hid fun k hk => by rw [← hfn]; exact finTwo_none (by omega) (by have := lo.out; omega) _ _
    replace ho4 := Lib.hid ho4
    replace ho5 := Lib.hid ho5
    replace hfn := Lib.hid hfn
    have HW0 := Lib.hid (fun W (hK : KeepT fin w2 W) => BB.out.trans (hK.below BB.out.size (fun k hk => fnl.out k (by have := lo.out; omega))))
    have hcl : Hid (∀ W, KeepT fin w2 W → Calls Try.prog 53 #[.agg #[v0, v1, v2, v3], .agg #[.int .i64 0, .slice (some ad) m ci]] W fun e W' => e = .returned (.bool b) ∧ Below W.heap.size W W') := Lib.hid fun W hK => by
      have HW := HG.out.below (HW0.out W hK)
      have := held_any _ _ s hm n hmn.out W (HW.at 4 rfl) (HW.at 2 rfl)
      rw [hl.out, hb.out] at this
      exact this
    have FXK : Hid (∀ W, KeepT fin w2 W → ∃ d, At5 W ad x0 d) := Lib.hid fun W hK => by
      obtain ⟨_, _, _, e, _, F⟩ := its_first ((HG.out.below (HW0.out W hK)).at 3 rfl : rIts (Old W) W [.slice (some ad) m ci] l) hx0'.out
      cases e
      exact ⟨_, (F W (Below.refl _ _)).1⟩
    have FYK : Hid (∀ W, KeepT fin w2 W → ∃ d, At5 W (ad.add (m1 * 5)) yl d) := Lib.hid fun W hK => by
      obtain ⟨_, _, _, e, _, _, _, F⟩ := its_old ((HG.out.below (HW0.out W hK)).at 3 rfl : rIts (Old W) W [.slice (some ad) m ci] l) hyl'.out
      cases e
      exact ⟨_, (F W (Below.refl _ _)).1⟩
    have KS : Hid (∀ W, KeepT fin w2 W → W.heap[w.heap.size]? = some (.cells #[.int .i64 0, .slice (some ad) m ci] 64 (0, 0))) := Lib.hid fun W hK => hK.other (fnl.out _ lo.out.1) G0.out
    have K4 : Hid (∀ W, KeepT fin w2 W → ∃ a b c, W.heap[w0.heap.size]? = some (.cells #[a, b, c] 37 (0, 0))) := Lib.hid fun W hK => by
      rcases hK.box fn4.out G1.out with e | e
      · exact ⟨_, _, _, e⟩
      · rw [← ho4.out] at e; exact ⟨_, _, _, e⟩
    have K5 : Hid (∀ W, KeepT fin w2 W → ∃ a b c, W.heap[w1.heap.size]? = some (.cells #[a, b, c] 37 (0, 0))) := Lib.hid fun W hK => by
      rcases hK.box fn5.out G2.out with e | e
      · exact ⟨_, _, _, e⟩
      · rw [← ho5.out] at e; exact ⟨_, _, _, e⟩
    refine Rb.wp_region_fx (KeepT fin) (by kernel_rfl) (fun W => KeepT fin w2 W) (fun i => match i with
      | 17 => some (fun _ W => W.heap[w0.heap.size]? = some o4)
      | 18 => some (fun _ W => W.heap[w1.heap.size]? = some o5)
      | _ => none) (fun i => match i with
      | 16 => some (.bool b)
      | _ => none) (by kernel_rfl) (KeepT.refl _ _).drew (fun w w' h hb => h.trans hb) ?tst ?_
    case tst =>
      intro j φ x W W' hp hx hb
      match j, hp with
      | 17, hp => cases hp; exact hb.done fn4.out hx
      | 18, hp => cases hp; exact hb.done fn5.out hx
    repeat (first
      | (refine Rb.wpAs_skip rfl ?_; simp only [Act.put, List.setIfInBounds_toArray, List.set_cons_zero, List.set_cons_succ])
      | (refine Rb.wpAs_pure (v := ?_) rfl rfl ?_ ?_; rotate_left; (intro W hC hE; clear hE; (obtain ⟨y0, y1, _⟩ := two_cells (KS.out W hC); obtain ⟨_, z0, z1, z2, _, _⟩ := FXK.out W hC; obtain ⟨_, u0, u1, u2, _, _⟩ := FYK.out W hC; obtain ⟨k0, k1, k2, k3, _⟩ := (HG.out.below (HW0.out W hC)).at 1 rfl); clear hC; go_simp; done); simp only [Act.put, List.setIfInBounds_toArray, List.set_cons_zero, List.set_cons_succ])
      | (refine Rb.wpAs_pure (v := ?_) rfl rfl ?_ ?_; rotate_left; (intro W hC hE; clear hE; (obtain ⟨y0, y1, _⟩ := two_cells (KS.out W hC); obtain ⟨_, z0, z1, z2, _, _⟩ := FXK.out W hC; obtain ⟨_, u0, u1, u2, _, _⟩ := FYK.out W hC; obtain ⟨k0, k1, k2, k3, _⟩ := (HG.out.below (HW0.out W hC)).at 1 rfl); clear hC; go_simp; with_reducible rfl); simp only [Act.put, List.setIfInBounds_toArray, List.set_cons_zero, List.set_cons_succ]))
    refine Rb.wpAs_fixed rfl rfl rfl ?_ ?_
    · intro W hC hE
      clear hE
      refine Rb.does_enter (f := 53) (args := #[.agg #[v0, v1, v2, v3], .agg #[.int .i64 0, .slice (some ad) m ci]]) ?_ ?_
      · go_simp
      · refine (hcl.out W hC).mono ?_
        rintro e W' ⟨rfl, hg⟩
        exact ⟨_, rfl, rfl, KeepT.of_below hg⟩
    simp only [Act.put, List.setIfInBounds_toArray, List.set_cons_zero, List.set_cons_succ]
    refine Rb.wpAs_act rfl rfl ?_ ?_
    · intro W hC hE
      clear hE
      obtain ⟨a, b, c, G⟩ := K4.out W hC
      obtain ⟨q0, q1, q2, q3, _⟩ := three_cells G
      obtain ⟨W1, hW1, g1, gr1, _⟩ := put_three (a' := .int .u8 (x0.1.1.toNat : Int)) (b' := .int .u32 x0.1.2.1) (c' := .int .u32 x0.1.2.2) G
      rw [ho4.out] at g1
      have hk := Lib.hid (KeepT.of_grown gr1 fn4.out g1)
      replace g1 := Lib.hid g1
      clear gr1 G hC
      go_simp
      exact ⟨g1.out, hk.out⟩
    simp only [Act.put, Rb.envAdd]
    intro _
    refine Rb.wpAs_act rfl rfl ?_ ?_
    · intro W hC hE
      clear hE
      obtain ⟨a, b, c, G⟩ := K5.out W hC
      obtain ⟨q0, q1, q2, q3, _⟩ := three_cells G
      obtain ⟨W1, hW1, g1, gr1, _⟩ := put_three (a' := .int .u8 (yl.1.1.toNat : Int)) (b' := .int .u32 yl.1.2.1) (c' := .int .u32 yl.1.2.2) G
      rw [ho5.out] at g1
      have hk := Lib.hid (KeepT.of_grown gr1 fn5.out g1)
      replace g1 := Lib.hid g1
      clear gr1 G hC
      go_simp
      exact ⟨g1.out, hk.out⟩
    simp only [Act.put, Rb.envAdd]
    intro _
    repeat (first
      | (refine Rb.wpAs_skip rfl ?_; simp only [Act.put, List.setIfInBounds_toArray, List.set_cons_zero, List.set_cons_succ])
      | (refine Rb.wpAs_pure (v := ?_) rfl rfl ?_ ?_; rotate_left; (intro W hC hE; clear hE; skip; clear hC; go_simp; done); simp only [Act.put, List.setIfInBounds_toArray, List.set_cons_zero, List.set_cons_succ])
      | (refine Rb.wpAs_pure (v := ?_) rfl rfl ?_ ?_; rotate_left; (intro W hC hE; clear hE; skip; clear hC; go_simp; with_reducible rfl); simp only [Act.put, List.setIfInBounds_toArray, List.set_cons_zero, List.set_cons_succ]))
    refine Rb.wpAs_end fun W hC hE => ?_
    have e5 := hE.1
    have e4 := hE.2.1
    have hB9 := Lib.hid (HW0.out W hC)
    rw [← ho4.out] at e4
    rw [← ho5.out] at e5
    obtain ⟨n0, n1, n2, _⟩ := three_cells e4
    obtain ⟨q0, q1, q2, _⟩ := three_cells e5
    replace e4 := Lib.hid e4
    replace e5 := Lib.hid e5
    clear hE hC
    go_wp2_with fail
    refine bodyPost_ret (v := .tuple #[kyV x0.1, kyV yl.1, .bool b]) (by simp [results, go_sem, n0, n1, n2, q0, q1, q2]) rfl ?_
    exact ends_ret (x0.1) (yl.1) b (hR.out.trans hfin.out) hB9.out
  | succ l1 =>
    have hrec := Lib.hid (hr0 l1 rfl)
    have c0 : (lw == 0) = false := by have := hlv.out; simp; omega
    have c1 : lw - 1 = (l1 : Int) := by have := hlv.out; omega
    have c2 : IntKind.i64.wrap (l1 : Int) = (l1 : Int) := by
      have := (mayN_of hmn.out).1.2.1
      rw [hlw.out, hlv.out] at this
      exact IntWalk.i64_in _ (by omega)
    have hRC : Hid (R = chainO (spanO s l1) l) := Lib.hid (hR1.out l1 hlv.out)
    replace hm1 := Lib.hid hm1
    clear hR0 hR1 hx0 hyl FX0
    go_enter Try.func52, Try.ntmps52
    go_upto_region 1 with fail
    clear hw0 hw1 hw2
    go_wp2_with fail
    clear y0 y1
    go_loopw [37] (fun vi wr => ∃ (k : Nat) (t : Ky), k ≤ m ∧ vi = .int .i64 k ∧ StC (spanO s l1) l k t ∧ Below w.heap.size w wr ∧ w2.heap.size ≤ wr.heap.size ∧ BoxW w.heap.size #[.int .i64 lw, .slice (some ad) m ci] 64 wr ∧ BoxW w0.heap.size #[.int .u8 0, .int .u32 0, .int .u32 0] 37 wr ∧ BoxW w1.heap.size #[.int .u8 (t.1.toNat : Int), .int .u32 t.2.1, .int .u32 t.2.2] 37 wr) (fun vi _ => m - (intOf vi).toNat)
    case atStart => exact ⟨0, keyZ, by omega, rfl, .inl rfl, BB.out, Nat.le_refl _, G0.out, G1.out, G2.out⟩
    case round =>
      obtain ⟨k, t, hk, rfl, hst, hbr, hsz, g0, g1, g2⟩ := hrel
      have HR := Lib.hid (HG.out.below hbr)
      have BR := Lib.hid hbr
      have SZ := Lib.hid hsz
      clear hbr hsz
      by_cases hlt : k < m
      case neg =>
        have hkm : k = m := by omega
        have hf : Hid (R = some (x0.1, t)) := Lib.hid (by
          subst hkm
          rcases hst with e | ⟨f, e⟩
          · omega
          · have e1 := chain_key hx0'.out (by omega) (by rw [hlm.out]; omega) e
            rw [List.take_of_length_le (by rw [hlm.out]; omega)] at e
            rw [hRC.out, e, ← e1])
        have i0 : (0 : Int) < (m : Int) := by omega
        have FXr := Lib.hid (fun W (hW : Below wr.heap.size wr W) => (its_first (HR.out.at 3 rfl : rIts (Old wr) wr [.slice (some ad) m ci] l) hx0'.out))
        obtain ⟨ad', E6, ce6, e6, _, FZ⟩ := its_first (HR.out.at 3 rfl : rIts (Old wr) wr [.slice (some ad) m ci] l) hx0'.out
        cases e6
        have FZ' := Lib.hid (fun W (hW : Below wr.heap.size wr W) => (FZ W hW).1)
        replace hst := Lib.hid hst
        replace g0 := Lib.hid g0
        replace g1 := Lib.hid g1
        replace g2 := Lib.hid g2
        clear FXr FZ hkm
        go_upto_region 14 with fail
        obtain ⟨y0, y1, _⟩ := two_cells g0.out
        obtain ⟨z0, z1, z2, _, _⟩ := FZ'.out wr (Below.refl _ _)
        have G4 : wr.heap[w0.heap.size]? = _ := g1.out
        have G5 : wr.heap[w1.heap.size]? = _ := g2.out
        obtain ⟨q0, q1, q2, q3, _⟩ := three_cells G5
        have BW := Lib.hid BR.out
        obtain ⟨W8, hW8, g8, gr8, gs8⟩ := put_three (a' := .int .u8 ((x0.1).1.toNat : Int)) (b' := .int .u32 (x0.1).2.1) (c' := .int .u32 (x0.1).2.2) G4
        have G8 : W8.heap[w1.heap.size]? = _ := (gr8.block w1.heap.size (Array.getElem?_eq_some_iff.1 G5).1 (by simp; have := lo.out; omega)).trans G5
        obtain ⟨W9, hW9, g9, gr9, gs9⟩ := put_three (a' := .int .u8 ((t).1.toNat : Int)) (b' := .int .u32 (t).2.1) (c' := .int .u32 (t).2.2) G8
        have g8' : W9.heap[w0.heap.size]? = _ := (gr9.block w0.heap.size (Array.getElem?_eq_some_iff.1 g8).1 (by simp; have := lo.out; omega)).trans g8
        obtain ⟨f4, f5, f6, f7, _⟩ := three_cells G4
        obtain ⟨j4, j5, j6, j7, _⟩ := three_cells G8
        obtain ⟨n0, n1, n2, _, _⟩ := three_cells g8'
        obtain ⟨o0, o1, o2, _, _⟩ := three_cells g9
        have hB9 := Lib.hid ((BW.out.grown gr8 BW.out.size (fun q e => by cases e; have := lo.out; omega)).grown gr9 (Nat.le_trans BW.out.size gr8.size) (fun q e => by cases e; have := lo.out; omega))
        replace G4 := Lib.hid G4
        replace G5 := Lib.hid G5
        replace G8 := Lib.hid G8
        replace g8 := Lib.hid g8
        replace g8' := Lib.hid g8'
        replace g9 := Lib.hid g9
        clear gr8 gr9 gs8 gs9
        go_region
        all_goals
          go_wp2_with fail
          refine bodyPost_ret (v := .tuple #[kyV x0.1, kyV t, .bool true]) (by simp [results, go_sem, n0, n1, n2, o0, o1, o2]) rfl ?_
          exact ends_ret (x0.1) (t) true (hR.out.trans hf.out) (below_drewN hB9.out _)
      obtain ⟨x, hx⟩ : ∃ x, l[k]? = some x := ⟨_, List.getElem?_eq_getElem (by rw [hlm.out]; exact hlt)⟩
      obtain ⟨ad', E5, ce5, e5, _, _, _, FZ⟩ := its_old (HR.out.at 3 rfl : rIts (Old wr) wr [.slice (some ad) m ci] l) hx
      cases e5
      obtain ⟨⟨z0, z1, z2, z3, z4⟩, _⟩ := FZ wr (Below.refl _ _)
      have hno1 := Lib.hid (fun h1 => hRC.out.trans (chain_no1 (g := spanO s l1) hx h1))
      have hno2 := Lib.hid (fun p h1 h2 => hRC.out.trans (chain_no2 (g := spanO s l1) (p := p) hx h1 h2))
      have hno3 := Lib.hid (fun h1 h2 => hRC.out.trans (chain_no3 (g := spanO s l1) hx h1 hst h2))
      have hyes := Lib.hid (fun p h1 h2 h3 => chain_yes (g := spanO s l1) (p := p) hx hst h1 h2 h3)
      have i4 : (0 : Int) ≤ (k : Int) := by omega
      have i5 : (k : Int) < (m : Int) := by omega
      replace hst := Lib.hid hst
      replace hx := Lib.hid hx
      obtain ⟨w3, hw3, hg3, hB3, -, hs3⟩ := bag_item (((HR.out.add (F := BoxW _ _ _) g2 (lasts_boxW _ _ _)).add (F := BoxW _ _ _) g1 (lasts_boxW _ _ _)).add (F := BoxW _ _ _) g0 (lasts_boxW _ _ _)) (Below.refl _ _) (.int .u8 (x.1.1.toNat : Int)) (.int .u32 x.1.2.1) (.int .u32 x.1.2.2) (.int .i64 x.2.1) (.slice E5 x.2.2.length ce5)
      have H3 := Lib.hid hg3
      have B3 := Lib.hid (BR.out.trans (hB3.mono BR.out.size))
      have S3 := Lib.hid (Nat.le_trans SZ.out hB3.size)
      replace hs3 := Lib.hid hs3
      clear FZ hg3 hB3 g0 g1 g2 HR BR SZ
      go_upto_region 6 with fail
      clear hw3 z0 z1 z2 z3 z4
      obtain ⟨k0, k1, k2, k3, _⟩ := H3.out.at 5 rfl
      obtain ⟨r0, r1, r2, r3, r4, _⟩ := H3.out.at 0 rfl
      have hNd := Lib.hid (fun v W hW => nodeR_open v s x.2.1 W hW)
      have hmy := Lib.hid (fun hh => (rm_may (s := s) (a := x.2.1) hh).1)
      have hsn := Lib.hid (fun hh => hno1.out (span_no (s := s) (l := l1) (a := x.2.1) hh))
      have hsy := Lib.hid (fun h1 h2 => span_yes (s := s) (l := l1) (a := x.2.1) h1 h2)
      obtain ⟨nb, hnb⟩ : ∃ q, rmV s x.2.1 = q := ⟨_, rfl⟩
      obtain ⟨eb, heb⟩ : ∃ q, rmE s x.2.1 = q := ⟨_, rfl⟩
      rw [hnb, heb] at hNd hsn hsy
      rw [hnb, heb] at hmy
      obtain ⟨lb, hlb⟩ : ∃ q, nb.1 = q := ⟨_, rfl⟩
      obtain ⟨mb, hmb⟩ : ∃ q, nb.2.length = q := ⟨_, rfl⟩
      rw [hlb, hmb] at hNd hsn
      rw [hlb] at hsy
      replace hnb := Lib.hid hnb
      replace heb := Lib.hid heb
      replace hlb := Lib.hid hlb
      replace hmb := Lib.hid hmb
      go_wp2_with fail
      with_reducible refine (hNd.out _ _ (H3.out.at 8 rfl)).mono ?_
      rintro e w4 ⟨Z, zc, rfl, -, h4n, hb4⟩
      obtain ⟨w5, hw5, hg5, hB5, -, hs5⟩ := bag_node ((H3.out.below hb4).add (F := OldN _ nb) h4n.drop (lasts_oldN _ _)) (Below.refl _ _) (.int .i64 lb) (.slice Z mb zc)
      have H5 := Lib.hid hg5
      have B5 := Lib.hid (B3.out.trans ((hb4.trans (hB5.mono hb4.size)).mono B3.out.size))
      have S5 := Lib.hid (Nat.le_trans S3.out (hb4.trans (hB5.mono hb4.size)).size)
      replace hs5 := Lib.hid hs5
      clear k0 k1 k2 k3 r0 r1 r2 r3 r4 hg5 hB5 hb4 h4n H3 B3 S3 hNd
      go_upto_region 7 with fail
      clear hw5
      obtain ⟨y0, y1, _⟩ := H5.out.at 0 rfl
      obtain ⟨f0, f1, _⟩ := two_cells (H5.out.at 3 rfl)
      by_cases he : eb = 0
      case neg =>
        have e1 : (eb != 0) = true := by simpa using he
        have hf := Lib.hid (hsn.out (fun hh => he hh.1))
        clear he
        have G4 : w5.heap[w0.heap.size]? = _ := H5.out.at 4 rfl
        have G5 : w5.heap[w1.heap.size]? = _ := H5.out.at 5 rfl
        have BW := Lib.hid B5.out
        obtain ⟨W8, hW8, g8, gr8, gs8⟩ := put_three (a' := .int .u8 0) (b' := .int .u32 0) (c' := .int .u32 0) G4
        have G8 : W8.heap[w1.heap.size]? = _ := (gr8.block w1.heap.size (Array.getElem?_eq_some_iff.1 G5).1 (by simp; have := lo.out; omega)).trans G5
        obtain ⟨W9, hW9, g9, gr9, gs9⟩ := put_three (a' := .int .u8 0) (b' := .int .u32 0) (c' := .int .u32 0) G8
        have g8' : W9.heap[w0.heap.size]? = _ := (gr9.block w0.heap.size (Array.getElem?_eq_some_iff.1 g8).1 (by simp; have := lo.out; omega)).trans g8
        obtain ⟨f4, f5, f6, f7, _⟩ := three_cells G4
        obtain ⟨j4, j5, j6, j7, _⟩ := three_cells G8
        obtain ⟨n0, n1, n2, _, _⟩ := three_cells g8'
        obtain ⟨o0, o1, o2, _, _⟩ := three_cells g9
        have hB9 := Lib.hid ((BW.out.grown gr8 BW.out.size (fun q e => by cases e; have := lo.out; omega)).grown gr9 (Nat.le_trans BW.out.size gr8.size) (fun q e => by cases e; have := lo.out; omega))
        replace G4 := Lib.hid G4
        replace G5 := Lib.hid G5
        replace G8 := Lib.hid G8
        replace g8 := Lib.hid g8
        replace g8' := Lib.hid g8'
        replace g9 := Lib.hid g9
        clear gr8 gr9 gs8 gs9
        go_wp2_with fail
        refine bodyPost_ret (v := .tuple #[.agg #[.int .u8 0, .int .u32 0, .int .u32 0], .agg #[.int .u8 0, .int .u32 0, .int .u32 0], .bool false]) (by simp [results, go_sem, n0, n1, n2, o0, o1, o2]) rfl ?_
        exact ends_ret (keyZ) (keyZ) false (hR.out.trans hf.out) hB9.out
      subst he
      by_cases hv : lb = (l1 : Int)
      case neg =>
        have e1 : (lb != (l1 : Int)) = true := by simpa using hv
        have hf := Lib.hid (hsn.out (fun hh => hv hh.2.1))
        clear hv
        have G4 : w5.heap[w0.heap.size]? = _ := H5.out.at 4 rfl
        have G5 : w5.heap[w1.heap.size]? = _ := H5.out.at 5 rfl
        have BW := Lib.hid B5.out
        obtain ⟨W8, hW8, g8, gr8, gs8⟩ := put_three (a' := .int .u8 0) (b' := .int .u32 0) (c' := .int .u32 0) G4
        have G8 : W8.heap[w1.heap.size]? = _ := (gr8.block w1.heap.size (Array.getElem?_eq_some_iff.1 G5).1 (by simp; have := lo.out; omega)).trans G5
        obtain ⟨W9, hW9, g9, gr9, gs9⟩ := put_three (a' := .int .u8 0) (b' := .int .u32 0) (c' := .int .u32 0) G8
        have g8' : W9.heap[w0.heap.size]? = _ := (gr9.block w0.heap.size (Array.getElem?_eq_some_iff.1 g8).1 (by simp; have := lo.out; omega)).trans g8
        obtain ⟨f4, f5, f6, f7, _⟩ := three_cells G4
        obtain ⟨j4, j5, j6, j7, _⟩ := three_cells G8
        obtain ⟨n0, n1, n2, _, _⟩ := three_cells g8'
        obtain ⟨o0, o1, o2, _, _⟩ := three_cells g9
        have hB9 := Lib.hid ((BW.out.grown gr8 BW.out.size (fun q e => by cases e; have := lo.out; omega)).grown gr9 (Nat.le_trans BW.out.size gr8.size) (fun q e => by cases e; have := lo.out; omega))
        replace G4 := Lib.hid G4
        replace G5 := Lib.hid G5
        replace G8 := Lib.hid G8
        replace g8 := Lib.hid g8
        replace g8' := Lib.hid g8'
        replace g9 := Lib.hid g9
        clear gr8 gr9 gs8 gs9
        go_wp2_with fail
        refine bodyPost_ret (v := .tuple #[.agg #[.int .u8 0, .int .u32 0, .int .u32 0], .agg #[.int .u8 0, .int .u32 0, .int .u32 0], .bool false]) (by simp [results, go_sem, n0, n1, n2, o0, o1, o2]) rfl ?_
        exact ends_ret (keyZ) (keyZ) false (hR.out.trans hf.out) hB9.out
      have e1 : (lb != (l1 : Int)) = false := by simp [hv]
      replace hv := Lib.hid hv
      by_cases hz : mb = 0
      · have e2 : ((mb : Int) == 0) = true := by simp [hz]
        have hf := Lib.hid (hsn.out (fun hh => hh.2.2 hz))
        replace hz := Lib.hid hz
        have G4 : w5.heap[w0.heap.size]? = _ := H5.out.at 4 rfl
        have G5 : w5.heap[w1.heap.size]? = _ := H5.out.at 5 rfl
        have BW := Lib.hid B5.out
        obtain ⟨W8, hW8, g8, gr8, gs8⟩ := put_three (a' := .int .u8 0) (b' := .int .u32 0) (c' := .int .u32 0) G4
        have G8 : W8.heap[w1.heap.size]? = _ := (gr8.block w1.heap.size (Array.getElem?_eq_some_iff.1 G5).1 (by simp; have := lo.out; omega)).trans G5
        obtain ⟨W9, hW9, g9, gr9, gs9⟩ := put_three (a' := .int .u8 0) (b' := .int .u32 0) (c' := .int .u32 0) G8
        have g8' : W9.heap[w0.heap.size]? = _ := (gr9.block w0.heap.size (Array.getElem?_eq_some_iff.1 g8).1 (by simp; have := lo.out; omega)).trans g8
        obtain ⟨f4, f5, f6, f7, _⟩ := three_cells G4
        obtain ⟨j4, j5, j6, j7, _⟩ := three_cells G8
        obtain ⟨n0, n1, n2, _, _⟩ := three_cells g8'
        obtain ⟨o0, o1, o2, _, _⟩ := three_cells g9
        have hB9 := Lib.hid ((BW.out.grown gr8 BW.out.size (fun q e => by cases e; have := lo.out; omega)).grown gr9 (Nat.le_trans BW.out.size gr8.size) (fun q e => by cases e; have := lo.out; omega))
        replace G4 := Lib.hid G4
        replace G5 := Lib.hid G5
        replace G8 := Lib.hid G8
        replace g8 := Lib.hid g8
        replace g8' := Lib.hid g8'
        replace g9 := Lib.hid g9
        clear gr8 gr9 gs8 gs9
        go_wp2_with fail
        refine bodyPost_ret (v := .tuple #[.agg #[.int .u8 0, .int .u32 0, .int .u32 0], .agg #[.int .u8 0, .int .u32 0, .int .u32 0], .bool false]) (by simp [results, go_sem, n0, n1, n2, o0, o1, o2]) rfl ?_
        exact ends_ret (keyZ) (keyZ) false (hR.out.trans hf.out) hB9.out
      have e2 : ((mb : Int) == 0) = false := by simpa using hz
      replace hz := Lib.hid hz
      have hspan := Lib.hid (hsy.out rfl hv.out)
      have hmb' := Lib.hid (hmy.out rfl)
      obtain ⟨c3, c4⟩ := (H5.out.at 6 rfl : BoxF Be (cloE Bs Be) w5)
      have hcall := Lib.hid (hrec.out (.agg #[.int .i64 lb, .slice Z mb zc]) v0 v1 v2 v3 nb Bs Be w5 hmb'.out (by rw [hlb.out, hv.out]) (by rw [hmb.out]; exact hz.out) (H5.out.at 1 rfl) (H5.out.at 10 rfl) (H5.out.at 7 rfl) (H5.out.at 6 rfl))
      clear hsn hsy hmy
      go_upto_region 9 with fail
      clear e1 e2 f0 f1
      go_wp2_with fail
      with_reducible refine hcall.out.mono ?_
      rintro e w6 ⟨f', t', ok, rfl, hsp, hb6⟩
      obtain ⟨w7, hw7, p0, p1, p2, hs7, hB7, _⟩ := box_three w6 (.int .u8 (f'.1.toNat : Int)) (.int .u32 f'.2.1) (.int .u32 f'.2.2) 37
      have hg7 := ((H5.out.below hb6).below hB7).add (F := Box3 w6.heap.size _ _ _) ⟨p0, p1, p2, by omega⟩ (lasts_box3 _ _ _ _)
      obtain ⟨w8, hw8, hg8, hB8, hB8', hs8⟩ := bag_key hg7 (Below.refl _ _) (.int .u8 (t'.1.toNat : Int)) (.int .u32 t'.2.1) (.int .u32 t'.2.2)
      have H8 := Lib.hid hg8
      have hb8 := hb6.trans ((hB7.trans (hB8.mono hB7.size)).mono hb6.size)
      have B8 := Lib.hid (B5.out.trans (hb8.mono B5.out.size))
      have S8 := Lib.hid (Nat.le_trans S5.out hb8.size)
      replace hs8 := Lib.hid hs8
      clear p0 p1 p2 hg7 hg8 hB7 hB8 hB8' hb6 hb8 y0 y1 c3 c4 hcall H5 B5 S5
      go_upto_region 10 with fail
      clear hw7 hw8
      obtain ⟨p0, p1, p2, _⟩ := H8.out.at 1 rfl
      obtain ⟨q0, q1, q2, _⟩ := H8.out.at 0 rfl
      rw [hs7] at q0 q1 q2
      replace hs7 := Lib.hid hs7
      obtain ⟨r0, r1, r2, r3, r4, _⟩ := H8.out.at 4 rfl
      have hg2 : w8.heap[w1.heap.size]? = _ := H8.out.at 7 rfl
      obtain ⟨d0, d1, d2, d3, _⟩ := three_cells hg2
      have G4 : w8.heap[w0.heap.size]? = _ := H8.out.at 6 rfl
      have G5 : w8.heap[w1.heap.size]? = _ := H8.out.at 7 rfl
      have BW := Lib.hid B8.out
      replace hg2 := Lib.hid hg2
      cases ok with
      | false =>
        have hf := Lib.hid (hno1.out (hspan.out.trans hsp))
        clear d3 hno2 hno3 hyes
        obtain ⟨W8, hW8, g8, gr8, gs8⟩ := put_three (a' := .int .u8 0) (b' := .int .u32 0) (c' := .int .u32 0) G4
        have G8 : W8.heap[w1.heap.size]? = _ := (gr8.block w1.heap.size (Array.getElem?_eq_some_iff.1 G5).1 (by simp; have := lo.out; omega)).trans G5
        obtain ⟨W9, hW9, g9, gr9, gs9⟩ := put_three (a' := .int .u8 0) (b' := .int .u32 0) (c' := .int .u32 0) G8
        have g8' : W9.heap[w0.heap.size]? = _ := (gr9.block w0.heap.size (Array.getElem?_eq_some_iff.1 g8).1 (by simp; have := lo.out; omega)).trans g8
        obtain ⟨f4, f5, f6, f7, _⟩ := three_cells G4
        obtain ⟨j4, j5, j6, j7, _⟩ := three_cells G8
        obtain ⟨n0, n1, n2, _, _⟩ := three_cells g8'
        obtain ⟨o0, o1, o2, _, _⟩ := three_cells g9
        have hB9 := Lib.hid ((BW.out.grown gr8 BW.out.size (fun q e => by cases e; have := lo.out; omega)).grown gr9 (Nat.le_trans BW.out.size gr8.size) (fun q e => by cases e; have := lo.out; omega))
        replace G4 := Lib.hid G4
        replace G5 := Lib.hid G5
        replace G8 := Lib.hid G8
        replace g8 := Lib.hid g8
        replace g8' := Lib.hid g8'
        replace g9 := Lib.hid g9
        clear gr8 gr9 gs8 gs9
        go_wp2_with fail
        refine bodyPost_ret (v := .tuple #[.agg #[.int .u8 0, .int .u32 0, .int .u32 0], .agg #[.int .u8 0, .int .u32 0, .int .u32 0], .bool false]) (by simp [results, go_sem, n0, n1, n2, o0, o1, o2]) rfl ?_
        exact ends_ret (keyZ) (keyZ) false (hR.out.trans hf.out) hB9.out
      | true =>
      have hsp' := Lib.hid (hspan.out.trans (hsp.trans (if_pos rfl)))
      have hke := key_eq f' x.1
      have hkg := key_guard
      unfold kyV at hke
      by_cases hkk : f' = x.1
      case neg =>
        have g3 : decide (f' = x.1) = false := by simpa using hkk
        rw [g3] at hke
        have hf := Lib.hid (hno2.out _ hsp'.out hkk)
        clear d3 hkk hno1 hno2 hno3 hyes
        obtain ⟨W8, hW8, g8, gr8, gs8⟩ := put_three (a' := .int .u8 0) (b' := .int .u32 0) (c' := .int .u32 0) G4
        have G8 : W8.heap[w1.heap.size]? = _ := (gr8.block w1.heap.size (Array.getElem?_eq_some_iff.1 G5).1 (by simp; have := lo.out; omega)).trans G5
        obtain ⟨W9, hW9, g9, gr9, gs9⟩ := put_three (a' := .int .u8 0) (b' := .int .u32 0) (c' := .int .u32 0) G8
        have g8' : W9.heap[w0.heap.size]? = _ := (gr9.block w0.heap.size (Array.getElem?_eq_some_iff.1 g8).1 (by simp; have := lo.out; omega)).trans g8
        obtain ⟨f4, f5, f6, f7, _⟩ := three_cells G4
        obtain ⟨j4, j5, j6, j7, _⟩ := three_cells G8
        obtain ⟨n0, n1, n2, _, _⟩ := three_cells g8'
        obtain ⟨o0, o1, o2, _, _⟩ := three_cells g9
        have hB9 := Lib.hid ((BW.out.grown gr8 BW.out.size (fun q e => by cases e; have := lo.out; omega)).grown gr9 (Nat.le_trans BW.out.size gr8.size) (fun q e => by cases e; have := lo.out; omega))
        replace G4 := Lib.hid G4
        replace G5 := Lib.hid G5
        replace G8 := Lib.hid G8
        replace g8 := Lib.hid g8
        replace g8' := Lib.hid g8'
        replace g9 := Lib.hid g9
        clear gr8 gr9 gs8 gs9
        go_wp2_with fail
        refine bodyPost_ret (v := .tuple #[.agg #[.int .u8 0, .int .u32 0, .int .u32 0], .agg #[.int .u8 0, .int .u32 0, .int .u32 0], .bool false]) (by simp [results, go_sem, n0, n1, n2, o0, o1, o2]) rfl ?_
        exact ends_ret (keyZ) (keyZ) false (hR.out.trans hf.out) hB9.out
      have g3 : decide (f' = x.1) = true := by simpa using hkk
      rw [g3] at hke
      have hkk' := Lib.hid hkk
      clear hkk hno1 hno2 hsp
      by_cases hk0 : k = 0
      · have i0 : ¬ (0 : Int) < (k : Int) := by omega
        have hn := Lib.hid (hyes.out (f', t') (fun hh => absurd hk0 hh) hsp'.out hkk'.out)
        have hk0' := Lib.hid hk0
        clear hk0
        obtain ⟨W9, hW9, g9, gr9, gs9⟩ := put_three (a' := .int .u8 (t'.1.toNat : Int)) (b' := .int .u32 t'.2.1) (c' := .int .u32 t'.2.2) hg2.out
        have hB9 := Lib.hid (BW.out.grown gr9 BW.out.size (fun q e => by cases e; have := lo.out; omega))
        have S9 := Lib.hid (Nat.le_trans S8.out gr9.size)
        have b9 := Lib.hid ((gr9.block w.heap.size (by have := lo.out; have := S8.out; omega) (by simp; have := lo.out; omega)).trans (H8.out.at 5 rfl))
        have c9 := Lib.hid ((gr9.block w0.heap.size (by have := lo.out; have := S8.out; omega) (by simp; have := lo.out; omega)).trans (H8.out.at 6 rfl))
        replace g9 := Lib.hid g9
        clear gr9 gs9
        go_wp2_with fail
        go_roundw
        case rel => exact ⟨k + 1, t', by omega, by go_num, hn.out, hB9.out, S9.out, b9.out, c9.out, g9.out⟩
        case measure => simp [intOf]; omega
      · have i0 : (0 : Int) < (k : Int) := by omega
        obtain ⟨q, hq⟩ : ∃ q, lessK t x.1 = q := ⟨_, rfl⟩
        have hls := Lib.hid (less_any t x.1 w8)
        rw [hq] at hls
        go_wp2_with fail
        with_reducible refine hls.out.mono ?_
        rintro e w9 ⟨rfl, hb9⟩
        cases q with
        | false =>
          have hf := Lib.hid (hno3.out hk0 hq)
          replace G4 := (hb9.block w0.heap.size (by have := lo.out; have := S8.out; omega)).trans G4
          replace G5 := (hb9.block w1.heap.size (by have := lo.out; have := S8.out; omega)).trans G5
          replace BW := Lib.hid (B8.out.trans (hb9.mono B8.out.size))
          replace hq := Lib.hid hq
          clear d0 d1 d2 d3 hb9 hno3 hyes hk0
          obtain ⟨W8, hW8, g8, gr8, gs8⟩ := put_three (a' := .int .u8 0) (b' := .int .u32 0) (c' := .int .u32 0) G4
          have G8 : W8.heap[w1.heap.size]? = _ := (gr8.block w1.heap.size (Array.getElem?_eq_some_iff.1 G5).1 (by simp; have := lo.out; omega)).trans G5
          obtain ⟨W9, hW9, g9, gr9, gs9⟩ := put_three (a' := .int .u8 0) (b' := .int .u32 0) (c' := .int .u32 0) G8
          have g8' : W9.heap[w0.heap.size]? = _ := (gr9.block w0.heap.size (Array.getElem?_eq_some_iff.1 g8).1 (by simp; have := lo.out; omega)).trans g8
          obtain ⟨f4, f5, f6, f7, _⟩ := three_cells G4
          obtain ⟨j4, j5, j6, j7, _⟩ := three_cells G8
          obtain ⟨n0, n1, n2, _, _⟩ := three_cells g8'
          obtain ⟨o0, o1, o2, _, _⟩ := three_cells g9
          have hB9 := Lib.hid ((BW.out.grown gr8 BW.out.size (fun q e => by cases e; have := lo.out; omega)).grown gr9 (Nat.le_trans BW.out.size gr8.size) (fun q e => by cases e; have := lo.out; omega))
          replace G4 := Lib.hid G4
          replace G5 := Lib.hid G5
          replace G8 := Lib.hid G8
          replace g8 := Lib.hid g8
          replace g8' := Lib.hid g8'
          replace g9 := Lib.hid g9
          clear gr8 gr9 gs8 gs9
          go_wp2_with fail
          refine bodyPost_ret (v := .tuple #[.agg #[.int .u8 0, .int .u32 0, .int .u32 0], .agg #[.int .u8 0, .int .u32 0, .int .u32 0], .bool false]) (by simp [results, go_sem, n0, n1, n2, o0, o1, o2]) rfl ?_
          exact ends_ret (keyZ) (keyZ) false (hR.out.trans hf.out) hB9.out
        | true =>
          have hn := Lib.hid (hyes.out (f', t') (fun _ => hq) hsp'.out hkk'.out)
          replace H8 := Lib.hid (H8.out.below hb9)
          replace B8 := Lib.hid (B8.out.trans (hb9.mono B8.out.size))
          replace S8 := Lib.hid (Nat.le_trans S8.out hb9.size)
          replace BW := Lib.hid B8.out
          replace hq := Lib.hid hq
          replace hg2 : Hid (w9.heap[w1.heap.size]? = _) := Lib.hid (H8.out.at 7 rfl)
          clear hb9 p0 p1 p2 q0 q1 q2 r0 r1 r2 r3 r4 d0 d1 d2 d3 G4 G5 hno3 hyes hk0
          obtain ⟨q0, q1, q2, _⟩ := H8.out.at 0 rfl
          rw [hs7.out] at q0 q1 q2
          obtain ⟨d0, d1, d2, d3, _⟩ := three_cells hg2.out
          obtain ⟨W9, hW9, g9, gr9, gs9⟩ := put_three (a' := .int .u8 (t'.1.toNat : Int)) (b' := .int .u32 t'.2.1) (c' := .int .u32 t'.2.2) hg2.out
          have hB9 := Lib.hid (BW.out.grown gr9 BW.out.size (fun q e => by cases e; have := lo.out; omega))
          have S9 := Lib.hid (Nat.le_trans S8.out gr9.size)
          have b9 := Lib.hid ((gr9.block w.heap.size (by have := lo.out; have := S8.out; omega) (by simp; have := lo.out; omega)).trans (H8.out.at 5 rfl))
          have c9 := Lib.hid ((gr9.block w0.heap.size (by have := lo.out; have := S8.out; omega) (by simp; have := lo.out; omega)).trans (H8.out.at 6 rfl))
          replace g9 := Lib.hid g9
          clear gr9 gs9
          go_wp2_with fail
          go_roundw
          case rel => exact ⟨k + 1, t', by omega, by go_num, hn.out, hB9.out, S9.out, b9.out, c9.out, g9.out⟩
          case measure => simp [intOf]; omega
theorem ends_any (s : Rm) (hm : mayR s = true) : ∀ l : Nat, EndsIs s l := by
  intro l
  induction l using Nat.strongRecOn with
  | ind l ih => exact ends_step s hm l fun j hj => ih j (by omega)
end Go.Proofs.Ytncnoingbaeomaa

/-
  Package find: stands, Check. Conditions: those that each lemma states.
-/
namespace Go.Proofs.Ytncnoingbaeomaa
open Go.RowKit

theorem reN_eight {b : List UInt8} (h : b.length = 128) (hr : reN b ≠ 0) : reN b = 8 := by
  by_cases ho : oe b = 0
  · cases h1 : rdN (ob b) with
    | false => exact (reN_bad ho h1).1
    | true => exact absurd (reN_good ho h1).1 hr
  · have h8 : oe b = 8 := by
      unfold oe at ho ⊢
      rw [if_pos h] at ho ⊢
      split at ho
      · exact absurd rfl ho
      · rename_i hf
        rw [if_neg hf]
    rw [(reN_open ho).1, h8]
theorem box_one (w : World) (v : Value) (t : TypeId) : ∃ w1, w.alloc (.cells #[v] t) = w1 ∧ w1.cell? ⟨w.heap.size, 0, none⟩ = some v ∧ w1.heap.size = w.heap.size + 1 ∧ Below w.heap.size w w1 :=
  ⟨_, rfl, by simp, by simp, (Below.refl _ _).alloc (Nat.le_refl _) _⟩

set_option maxRecDepth 100000 in
set_option maxHeartbeats 8000000 in
theorem stands_any (v u : Value) (s : Rm) (hm : mayR s = true) (n : Nd) (hn : mayN n = true) (w : World) (h : Sto (Old w) w v s) (hu : Nod (Old w) w u n) :
    Calls Try.prog 27 #[v, u] w fun e w' => e = .returned (.bool (standsN s n)) ∧ Below w.heap.size w w' := by
  have hmf : ∀ (fn : Fn) (first cap : Array Value) (w : World), (Instr.makeFunc fn first cap).run Try.prog w = .ok (.func fn first cap) w := fun _ _ _ _ => rfl
  have hsf : ∀ (a : Addr) (fn : Fn) (x y : Array Value) (w : World), (store a (.func fn x y)).run Try.prog w = stored Try.prog w a (.func fn x y) .plain := fun _ _ _ _ _ => run_store _ _ _ _ _ rfl
  obtain ⟨A, ca, B, cb, N, cn, L, cl, rfl, _⟩ := id h.open
  obtain ⟨I, ci, rfl, -, -, -, hI⟩ := id hu.open
  obtain ⟨lw, hlw⟩ : ∃ q, n.1 = q := ⟨_, rfl⟩
  obtain ⟨m, hlm⟩ : ∃ q, n.2.length = q := ⟨_, rfl⟩
  have hlv : 0 ≤ lw := by rw [← hlw]; exact (mayN_of hn).1.1
  have hst : standsN s n = (decide (m = 0) || (spanN s n).isSome) := by rw [standsN, hlm]
  have hu' := hu
  rw [hlw, hlm] at hu'
  rw [hlw, hlm, hst]
  clear hI hst
  have HG0 : Bag w [OldN (.agg #[.int .i64 lw, .slice I m ci]) n, OldR (.agg #[.slice A s.1.1.length ca, .slice B s.1.2.length cb, .slice N s.2.1.length cn, .slice L s.2.2.length cl]) s] := ((Bag.nil w).add (F := OldR _ s) h (lasts_oldR _ _)).add (F := OldN _ n) hu' (lasts_oldN _ _)
  obtain ⟨w0, hw0, hg0, hB0, _, hs0⟩ := bag_four HG0 (Below.refl _ _) (.slice A s.1.1.length ca) (.slice B s.1.2.length cb) (.slice N s.2.1.length cn) (.slice L s.2.2.length cl) 29
  obtain ⟨w1, hw1, hg1, hB1, _, hs1⟩ := bag_node hg0 (Below.refl _ _) (.int .i64 lw) (.slice I m ci)
  obtain ⟨w2, hw2, q0, hs2, hB2⟩ := box_one w1 (cloE w.heap.size w1.heap.size) 94
  have HG := Lib.hid ((hg1.below hB2).add (F := BoxF w1.heap.size (cloE w.heap.size w1.heap.size)) ⟨q0, by omega⟩ (lasts_boxF _ _))
  have BB := Lib.hid ((hB0.trans (hB1.mono hB0.size)).trans (hB2.mono (hB0.trans (hB1.mono hB0.size)).size))
  replace hs2 := Lib.hid hs2
  replace hs1 := Lib.hid hs1
  replace hs0 := Lib.hid hs0
  replace hlw := Lib.hid hlw
  replace hlm := Lib.hid hlm
  clear HG0 hg1 hg0 h hu hu' hB2 hB1 hB0 q0
  go_enter Try.func27, Try.ntmps27
  go_upto_region 3 with fail
  clear hw0 hw1 hw2
  obtain ⟨q0, _⟩ := HG.out.at 0 rfl
  obtain ⟨y0, y1, _⟩ := HG.out.at 1 rfl
  by_cases hm0 : m = 0
  · have c0 : ((m : Int) == 0) = true := by simp [hm0]
    have hf : Hid ((decide (m = 0) || (spanN s n).isSome) = true) := Lib.hid (by simp [hm0])
    replace hm0 := Lib.hid hm0
    go_wp2_with fail
    go_ret
    exact ⟨ret_bool hf.out.symm, BB.out⟩
  have c0 : ((m : Int) == 0) = false := by simpa using hm0
  have hf : Hid ((decide (m = 0) || (spanN s n).isSome) = (spanN s n).isSome) := Lib.hid (by simp [hm0])
  have hcall := Lib.hid (ends_any s hm lw.toNat (.agg #[.int .i64 lw, .slice I m ci]) _ _ _ _ n w.heap.size w1.heap.size w2 hn (by rw [hlw.out]; omega) (by rw [hlm.out]; exact hm0) (HG.out.at 3 rfl) (HG.out.at 4 rfl) (HG.out.at 2 rfl) (HG.out.at 0 rfl))
  replace hm0 := Lib.hid hm0
  go_wp2_with fail
  with_reducible refine hcall.out.mono ?_
  rintro e w3 ⟨f, t, ok, rfl, hsp, hb3⟩
  have B3 := Lib.hid (BB.out.trans (hb3.mono BB.out.size))
  obtain ⟨w4, hw4, p0, p1, p2, hs4, hB4, _⟩ := box_three w3 (.int .u8 (f.1.toNat : Int)) (.int .u32 f.2.1) (.int .u32 f.2.2) 37
  obtain ⟨w5, hw5, r0, r1, r2, hs5, hB5, _⟩ := box_three w4 (.int .u8 (t.1.toNat : Int)) (.int .u32 t.2.1) (.int .u32 t.2.2) 37
  have B5 := Lib.hid (B3.out.trans ((hB4.trans (hB5.mono hB4.size)).mono B3.out.size))
  have hfin : Hid ((spanN s n).isSome = ok) := Lib.hid (by rw [hsp]; cases ok <;> rfl)
  replace hsp := Lib.hid hsp
  replace hs5 := Lib.hid hs5
  clear hB4 hB5 hb3 p0 p1 p2 r0 r1 r2
  go_upto_region 6 with fail
  clear hw4 hw5
  go_wp2_with fail
  go_ret
  exact ⟨ret_bool (by rw [hf.out, hfin.out]), B5.out⟩

set_option maxRecDepth 100000 in
set_option maxHeartbeats 8000000 in
theorem findCheck_any (v : Value) (s : Rm) (a : Int) (w : World) (h : Sto (Old w) w v s) :
    Calls Try.prog 10 #[v, .int .i64 a] w fun e w' => e = .returned (.tuple #[.int .i64 (ckH s a), .int .i64 (ckE s a)]) ∧ Below w.heap.size w w' := by
  obtain ⟨A, ca, B, cb, N, cn, L, cl, rfl, _⟩ := id h.open
  have hNd := Lib.hid (fun v W hW => nodeR_open v s a W hW)
  have hway : Hid ((rmE s a ≠ 0 ∧ ckE s a = rmE s a ∧ ckH s a = 0) ∨ (rmE s a = 0 ∧ mayR s = true ∧ mayN (rmV s a) = true ∧ 0 ≤ (rmV s a).1 ∧ (rmV s a).1 < 6 ∧ standsN s (rmV s a) = false ∧ ckE s a = 8 ∧ ckH s a = 0) ∨
      (rmE s a = 0 ∧ mayR s = true ∧ mayN (rmV s a) = true ∧ 0 ≤ (rmV s a).1 ∧ (rmV s a).1 < 6 ∧ standsN s (rmV s a) = true ∧ ckE s a = 0 ∧ ckH s a = (rmV s a).1 + 1)) := Lib.hid (by
    by_cases ha : asE s a = 0
    · by_cases hr : rmE s a = 0
      · obtain ⟨hmn, _⟩ := rm_may hr
        have hst := stands_tree hr
        obtain ⟨k, _, hm, _⟩ := as_read ha
        have hsh := (mayN_of hmn).1
        cases ht : treeO s a with
        | false => exact .inr (.inl ⟨hr, hm, hmn, hsh.1, hsh.2.1, hst.trans ht, (ck_bad ha ht).1, (ck_bad ha ht).2⟩)
        | true => exact .inr (.inr ⟨hr, hm, hmn, hsh.1, hsh.2.1, hst.trans ht, (ck_ok ha ht).1, (ck_ok ha ht).2⟩)
      · obtain ⟨k, _, hm, _, h256, _, _, hE, _, _⟩ := as_read ha
        have h8 : rmE s a = 8 := by
          rw [hE] at hr ⊢
          exact reN_eight (seen_128 (mayR_of hm).1 h256) hr
        obtain ⟨h1, h2⟩ := ck_bad ha (tree_no hr)
        exact .inl ⟨hr, h1.trans h8.symm, h2⟩
    · obtain ⟨hE, _⟩ := rm_bad ha
      obtain ⟨h1, h2⟩ := ck_no ha
      exact .inl ⟨by rw [hE]; exact ha, h1.trans hE.symm, h2⟩)
  obtain ⟨nd, hnd⟩ : ∃ q, rmV s a = q := ⟨_, rfl⟩
  obtain ⟨E0, hE0⟩ : ∃ q, rmE s a = q := ⟨_, rfl⟩
  obtain ⟨cE, hcE⟩ : ∃ q, ckE s a = q := ⟨_, rfl⟩
  obtain ⟨cH, hcH⟩ : ∃ q, ckH s a = q := ⟨_, rfl⟩
  rw [hnd, hE0] at hNd hway
  rw [hcE, hcH] at hway ⊢
  obtain ⟨lw, hlw⟩ : ∃ q, nd.1 = q := ⟨_, rfl⟩
  obtain ⟨m, hlm⟩ : ∃ q, nd.2.length = q := ⟨_, rfl⟩
  rw [hlw, hlm] at hNd
  rw [hlw] at hway
  have HG0 : Bag w [OldR (.agg #[.slice A s.1.1.length ca, .slice B s.1.2.length cb, .slice N s.2.1.length cn, .slice L s.2.2.length cl]) s] := (Bag.nil w).add (F := OldR _ s) h (lasts_oldR _ _)
  obtain ⟨w0, hw0, hg0, hB0, _, hs0⟩ := bag_four HG0 (Below.refl _ _) (.slice A s.1.1.length ca) (.slice B s.1.2.length cb) (.slice N s.2.1.length cn) (.slice L s.2.2.length cl) 29
  have HG := Lib.hid hg0
  have BB := Lib.hid hB0
  obtain ⟨s0, s1, s2, s3, _⟩ := HG.out.at 0 rfl
  replace hs0 := Lib.hid hs0
  replace hnd := Lib.hid hnd
  replace hE0 := Lib.hid hE0
  replace hcE := Lib.hid hcE
  replace hcH := Lib.hid hcH
  replace hlw := Lib.hid hlw
  replace hlm := Lib.hid hlm
  clear HG0 hg0 h hB0
  go_enter Try.func10, Try.ntmps10
  go_upto_region 1 with fail
  clear hw0
  go_wp2_with fail
  with_reducible refine (hNd.out _ _ (HG.out.at 1 rfl)).mono ?_
  rintro e w3 ⟨Z, zc, rfl, -, h3n, hb3⟩
  obtain ⟨w4, hw4, hg4, hb4, -, hs4⟩ := bag_node ((HG.out.below hb3).add (F := OldN _ nd) h3n.drop (lasts_oldN _ _)) (Below.refl _ _) (.int .i64 lw) (.slice Z m zc)
  replace HG := Lib.hid hg4
  replace BB := Lib.hid (BB.out.trans ((hb3.trans (hb4.mono hb3.size)).mono BB.out.size))
  replace hs4 := Lib.hid hs4
  clear hg4 hb4 hb3 h3n s0 s1 s2 s3 hNd
  go_upto_region 2 with fail
  clear hw4
  rcases hway.out with ⟨he, h1, h2⟩ | ⟨he, hm, hmn, l0, l6, hst, h1, h2⟩ | ⟨he, hm, hmn, l0, l6, hst, h1, h2⟩
  · have e1 : (E0 != 0) = true := by simpa using he
    replace h1 := Lib.hid h1
    replace h2 := Lib.hid h2
    clear he hway
    go_wp2_with fail
    go_ret2
    exact ⟨by rw [h1.out, h2.out]; rfl, BB.out⟩
  · have hcall := Lib.hid (stands_any _ _ s hm nd hmn w4 (HG.out.at 3 rfl) (HG.out.at 1 rfl))
    rw [hst] at hcall
    subst he
    obtain ⟨y0, y1, _⟩ := HG.out.at 0 rfl
    obtain ⟨s0, s1, s2, s3, _⟩ := HG.out.at 2 rfl
    replace h1 := Lib.hid h1
    replace h2 := Lib.hid h2
    clear hway hst hm hmn l0 l6
    go_wp2_with fail
    with_reducible refine hcall.out.mono ?_
    rintro e w5 ⟨rfl, hb5⟩
    have B5 := Lib.hid (BB.out.trans (hb5.mono BB.out.size))
    clear hb5
    go_wp2_with fail
    go_ret2
    exact ⟨by rw [h1.out, h2.out]; rfl, B5.out⟩
  · have hcall := Lib.hid (stands_any _ _ s hm nd hmn w4 (HG.out.at 3 rfl) (HG.out.at 1 rfl))
    rw [hst] at hcall
    subst he
    obtain ⟨y0, y1, _⟩ := HG.out.at 0 rfl
    obtain ⟨s0, s1, s2, s3, _⟩ := HG.out.at 2 rfl
    have i9 : IntKind.i64.wrap (lw + 1) = lw + 1 := IntWalk.i64_in _ (by omega)
    replace h1 := Lib.hid h1
    replace h2 := Lib.hid h2
    clear hway hst hm hmn l0 l6
    go_wp2_with fail
    with_reducible refine hcall.out.mono ?_
    rintro e w5 ⟨rfl, hb5⟩
    have B5 := Lib.hid (BB.out.trans (hb5.mono BB.out.size))
    have HG5 := HG.out.below hb5
    clear hb5 y0 y1
    obtain ⟨y0, y1, _⟩ := HG5.at 0 rfl
    clear HG5
    go_wp2_with fail
    go_ret2
    exact ⟨by rw [h1.out, h2.out]; rfl, B5.out⟩
end Go.Proofs.Ytncnoingbaeomaa

/-
  The document's Find of layer 10. Conditions: those that each lemma states.
-/
namespace Go.Proofs.Ytncnoingbaeomaa
open Go.RowKit

noncomputable def fdE (s : Rm) (a : Int) (k : Ky) : Int := if ckE s a = 0 then (if (theO s a k).isSome = true then 0 else 6) else ckE s a
noncomputable def fdV (s : Rm) (a : Int) (k : Ky) : It := if ckE s a = 0 then (theO s a k).getD zeroI else zeroI
theorem fd_bad {s : Rm} {a : Int} {k : Ky} (h : ckE s a ≠ 0) : fdE s a k = ckE s a ∧ fdV s a k = zeroI := ⟨by rw [fdE, if_neg h], by rw [fdV, if_neg h]⟩
theorem fd_some {s : Rm} {a : Int} {k : Ky} {x : It} (h : ckE s a = 0) (hx : theO s a k = some x) : fdE s a k = 0 ∧ fdV s a k = x := ⟨by rw [fdE, if_pos h, hx]; rfl, by rw [fdV, if_pos h, hx]; rfl⟩
theorem fd_none {s : Rm} {a : Int} {k : Ky} (h : ckE s a = 0) (hx : theO s a k = none) : fdE s a k = 6 ∧ fdV s a k = zeroI := ⟨by rw [fdE, if_pos h, hx]; rfl, by rw [fdV, if_pos h, hx]; rfl⟩
end Go.Proofs.Ytncnoingbaeomaa

/-
  Package find: Find. Conditions: those that each lemma states.
-/
namespace Go.Proofs.Ytncnoingbaeomaa
open Go.RowKit

theorem nodePlace_open (v : Value) (n : Nd) (key : Ky) (w : World) (h : Nod (Old w) w v n) :
    Calls Try.prog 28 #[v, kyV key] w fun e w' => e = .returned (.tuple #[.int .i64 (placeN n key : Nat), .bool (thereN n key)]) ∧ Below w.heap.size w w' := nodePlace_any v n key w h

set_option maxRecDepth 100000 in
set_option maxHeartbeats 8000000 in
theorem findFind_any (v : Value) (s : Rm) (a : Int) (key : Ky) (w : World) (h : Sto (Old w) w v s) :
    Calls Try.prog 11 #[v, .int .i64 a, kyV key] w fun e w' => ∃ u, e = .returned (.tuple #[u, .int .i64 (fdE s a key)]) ∧ Itm (New w.heap.size w') w' u (fdV s a key) ∧ Below w.heap.size w w' := by
  obtain ⟨A, ca, B, cb, N, cn, L, cl, rfl, _⟩ := id h.open
  have hCk := Lib.hid (fun v W hW => findCheck_any v s a W hW)
  have hct := Lib.hid (fun hh => ck_of (s := s) (a := a) hh)
  have hta := Lib.hid (fun ht => tree_at (s := s) (a := a) ht)
  have htl := Lib.hid (fun ht => tree_of (s := s) (a := a) ht)
  have hfb := Lib.hid (fun hh => fd_bad (s := s) (a := a) (k := key) hh)
  have hfs := Lib.hid (fun x hh hx => fd_some (s := s) (a := a) (k := key) (x := x) hh hx)
  have hfn := Lib.hid (fun hh hx => fd_none (s := s) (a := a) (k := key) hh hx)
  obtain ⟨T, hT⟩ : ∃ T, theO s a key = T := ⟨_, rfl⟩
  have hT' : Hid (oneO s (rmV s a).1.toNat a key = T) := Lib.hid hT
  rw [hT] at hfs hfn
  obtain ⟨E0, hE0⟩ : ∃ q, ckE s a = q := ⟨_, rfl⟩
  obtain ⟨H0, hH0⟩ : ∃ q, ckH s a = q := ⟨_, rfl⟩
  rw [hE0] at hCk hct hfb hfs hfn
  rw [hH0] at hCk hct
  obtain ⟨E1, hE1⟩ : ∃ q, fdE s a key = q := ⟨_, rfl⟩
  obtain ⟨V1, hV1⟩ : ∃ q, fdV s a key = q := ⟨_, rfl⟩
  rw [hE1, hV1] at hfb hfs hfn ⊢
  have HG0 : Bag w [OldR (.agg #[.slice A s.1.1.length ca, .slice B s.1.2.length cb, .slice N s.2.1.length cn, .slice L s.2.2.length cl]) s] := (Bag.nil w).add (F := OldR _ s) h (lasts_oldR _ _)
  obtain ⟨w0, hw0, hg0, hB0, _, hs0⟩ := bag_four HG0 (Below.refl _ _) (.slice A s.1.1.length ca) (.slice B s.1.2.length cb) (.slice N s.2.1.length cn) (.slice L s.2.2.length cl) 29
  obtain ⟨w1, hw1, hg1, hB1, _, hs1⟩ := bag_key hg0 (Below.refl _ _) (.int .u8 (key.1.toNat : Int)) (.int .u32 key.2.1) (.int .u32 key.2.2)
  obtain ⟨w2, hw2, _, _, _, _, _, hs2, hB2, G2⟩ := box_five w1 (.int .u8 0) (.int .u32 0) (.int .u32 0) (.int .i64 0) (.slice none 0 0) 39
  have HG := Lib.hid ((hg1.below hB2).add (F := BoxW w1.heap.size _ _) G2 (lasts_boxW _ _ _))
  have BB := Lib.hid ((hB0.trans (hB1.mono hB0.size)).trans (hB2.mono (hB0.trans (hB1.mono hB0.size)).size))
  have lo1 : Hid (w.heap.size ≤ w1.heap.size ∧ w1.heap.size < w2.heap.size) := Lib.hid ⟨(hB0.trans (hB1.mono hB0.size)).size, by omega⟩
  obtain ⟨s0, s1, s2, s3, _⟩ := HG.out.at 2 rfl
  replace hs2 := Lib.hid hs2
  replace hs1 := Lib.hid hs1
  replace hs0 := Lib.hid hs0
  replace hE0 := Lib.hid hE0
  replace hH0 := Lib.hid hH0
  replace hE1 := Lib.hid hE1
  replace hV1 := Lib.hid hV1
  replace hT := Lib.hid hT
  clear HG0 hg1 hg0 h hB2 hB1 hB0 G2
  unfold kyV
  go_enter Try.func11, Try.ntmps11
  go_wp2_with fail
  go_step3
  go_upto_region 1 with fail
  clear hw0 hw1 hw2
  go_wp2_with fail
  with_reducible refine (hCk.out _ _ (HG.out.at 3 rfl)).mono ?_
  rintro e w3 ⟨rfl, hb3⟩
  have HR := Lib.hid (HG.out.below hb3)
  have BR := Lib.hid (BB.out.trans (hb3.mono BB.out.size))
  have lo3 : Hid (w1.heap.size < w3.heap.size ∧ w.heap.size ≤ w3.heap.size) := Lib.hid ⟨by have := lo1.out; have := hb3.size; omega, BR.out.size⟩
  clear hb3 s0 s1 s2 s3 hCk HG
  by_cases he : E0 = 0
  case neg =>
    have hq1 : (E0 != 0) = true := by simpa using he
    have hf := Lib.hid (hfb.out he)
    have G5 : w3.heap[w1.heap.size]? = _ := HR.out.at 0 rfl
    obtain ⟨W9, hW9, g9, gr9, gs9⟩ := put_five (u0 := .int .u8 0) (u1 := .int .u32 0) (u2 := .int .u32 0) (u3 := .int .i64 0) (u4 := .slice none 0 0) G5
    obtain ⟨n0, n1, n2, n3, n4, _⟩ := five_cells g9
    obtain ⟨f0, f1, f2, f3, f4, f5, _⟩ := five_cells G5
    have hB9 := Lib.hid (BR.out.grown gr9 BR.out.size (fun q e => by cases e; exact lo1.out.1))
    replace G5 := Lib.hid G5
    replace g9 := Lib.hid g9
    clear gr9 gs9 he
    go_wp2_with fail
    rw [Exit.noGoto_ret]
    refine bodyPost_ret (v := .tuple #[.agg #[.int .u8 0, .int .u32 0, .int .u32 0, .int .i64 0, .slice none 0 0], .int .i64 E0]) (by simp [results, Try.results11, go_sem, n0, n1, n2, n3, n4]) rfl ?_
    rw [hf.out.1, hf.out.2]
    exact ⟨_, rfl, itm_zero _ _, hB9.out⟩
  obtain ⟨ht, _, hh⟩ := hct.out he
  have hat := Lib.hid (hta.out ht)
  obtain ⟨_, _, _, l0, l6, _⟩ := htl.out ht
  have hfs' := Lib.hid (fun x hx => hfs.out x he hx)
  have hfn' := Lib.hid (fun hx => hfn.out he hx)
  subst he
  obtain ⟨M, hM⟩ : ∃ M, (rmV s a).1.toNat = M := ⟨_, rfl⟩
  rw [hM] at hat hT'
  have hHM : Hid (H0 = (M : Int) + 1) := Lib.hid (by omega)
  have hM6 : Hid (M < 6) := Lib.hid (by omega)
  replace hM := Lib.hid hM
  clear ht hh l0 l6 hct hta htl hfs hfn hfb
  go_wp2_with fail
  go_step3
  go_wp2_with fail
  go_loopw [27, 10] (fun vi va wr => ∃ (i l : Nat) (b : Int), i + l = M ∧ vi = .int .i64 (i : Int) ∧ va = .int .i64 b ∧ AtT s l b ∧ oneO s l b key = T ∧ Below w3.heap.size w3 wr) (fun vi _ _ => 7 - (intOf vi).toNat)
  case atStart => exact ⟨0, M, a, by omega, rfl, rfl, hat.out, hT'.out, Below.refl _ _⟩
  case round =>
    obtain ⟨i, l, b, hil, rfl, rfl, hab, hone, hbr⟩ := hrel
    have HQ := Lib.hid (HR.out.below hbr)
    have BQ := Lib.hid hbr
    have hi5 : i ≤ 5 := by have := hM6.out; omega
    have i0 : (i : Int) < H0 := by have := hHM.out; have := hM6.out; omega
    have hNd := Lib.hid (fun v W hW => nodeR_open v s b W hW)
    have hok := hab.ok
    have hmn := Lib.hid hab.may
    have hlv := Lib.hid hab.lvl
    have hdn := Lib.hid (fun (j : Nat) (hj : l = j + 1) (x : It) (hx : x ∈ (rmV s b).2) => (by subst hj; exact hab.down hx : AtT s j x.2.1))
    have hz := Lib.hid (fun (h0 : l = 0) => (by subst h0; exact hone.symm.trans (oneO_zero s b key) : T = (rmV s b).2.reverse.find? fun x => decide (x.1 = key)))
    have hsu := Lib.hid (fun (j : Nat) (hj : l = j + 1) => (by subst hj; exact hone.symm.trans (oneO_succ s j b key) : T = ((rmV s b).2.reverse.find? fun x => !lessK key x.1).bind fun x => oneO s j x.2.1 key))
    obtain ⟨nd, hnd⟩ : ∃ q, rmV s b = q := ⟨_, rfl⟩
    rw [hok, hnd] at hNd
    rw [hnd] at hmn hlv hdn hz hsu
    have hPl := Lib.hid (fun v W hW => nodePlace_open v nd key W hW)
    obtain ⟨p, hp⟩ : ∃ p, placeN nd key = p := ⟨_, rfl⟩
    obtain ⟨t, htt⟩ : ∃ t, thereN nd key = t := ⟨_, rfl⟩
    rw [hp, htt] at hPl
    obtain ⟨lw, hlw⟩ : ∃ q, nd.1 = q := ⟨_, rfl⟩
    obtain ⟨ll, hl⟩ : ∃ q, nd.2 = q := ⟨_, rfl⟩
    obtain ⟨m, hlm⟩ : ∃ q, ll.length = q := ⟨_, rfl⟩
    rw [hlw, hl, hlm] at hNd
    rw [hl] at hdn hz hsu
    rw [hlw] at hlv
    replace hnd := Lib.hid hnd
    replace hlw := Lib.hid hlw
    replace hl := Lib.hid hl
    replace hlm := Lib.hid hlm
    replace hp := Lib.hid hp
    replace htt := Lib.hid htt
    replace hone := Lib.hid hone
    replace hil := Lib.hid hil
    have hm5 : m ≤ 5 := by
      have := (mayN_of hmn.out).1.2.2.1
      rw [hl.out, hlm.out] at this
      exact this
    clear hok hab hbr
    obtain ⟨s0, s1, s2, s3, _⟩ := HQ.out.at 2 rfl
    go_wp2_with fail
    with_reducible refine (hNd.out _ _ (HQ.out.at 3 rfl)).mono ?_
    rintro e w4 ⟨Z, zc, rfl, -, h4n, hb4⟩
    have h4s : rIts (New wr.heap.size w4) w4 [.slice Z m zc] ll := by
      obtain ⟨_, e, _, h⟩ := h4n
      cases e
      rw [hl.out] at h
      exact h
    obtain ⟨w5, hw5, hg5, hB5, -, hs5⟩ := bag_node (((HQ.out.below hb4).add (F := OldN _ nd) h4n.drop (lasts_oldN _ _)).add (F := NewIs wr.heap.size _ ll) h4s (lasts_newIs _ _ _)) (Below.refl _ _) (.int .i64 lw) (.slice Z m zc)
    have H5 := Lib.hid hg5
    have B5 := Lib.hid (BQ.out.trans ((hb4.trans (hB5.mono hb4.size)).mono BQ.out.size))
    replace hs5 := Lib.hid hs5
    clear s0 s1 s2 s3 hg5 hB5 hb4 h4n h4s hNd
    go_upto_region 8 with fail
    clear hw5
    obtain ⟨y0, y1, _⟩ := H5.out.at 0 rfl
    obtain ⟨t0, t1, t2, _⟩ := H5.out.at 4 rfl
    go_upto_region 10 with fail
    go_wp2_with fail
    with_reducible refine (hPl.out _ _ (H5.out.at 2 rfl)).mono ?_
    rintro e w6 ⟨rfl, hb6⟩
    have H6 := Lib.hid (H5.out.below hb6)
    have B6 := Lib.hid (B5.out.trans (hb6.mono B5.out.size))
    clear hb6 y0 y1 t0 t1 t2 hPl H5 B5
    obtain ⟨y0, y1, _⟩ := H6.out.at 0 rfl
    cases t with
    | true =>
      have hpm : p < m := by
        have := place_in htt.out
        rw [hp.out, hl.out, hlm.out] at this
        exact this
      obtain ⟨x, hx⟩ : ∃ x, ll[p]? = some x := ⟨_, List.getElem?_eq_getElem (by rw [hlm.out]; exact hpm)⟩
      obtain ⟨hxk, hf1, hf2⟩ := place_below hmn.out htt.out (x := x) (by rw [hp.out, hl.out]; exact hx)
      rw [hl.out] at hf1 hf2
      obtain ⟨ad, E5, ce5, rfl, -, FX⟩ := its_new (H6.out.at 1 rfl : rIts (New wr.heap.size w6) w6 [.slice Z m zc] ll) hx
      obtain ⟨⟨z0, z1, z2, z3, z4⟩, hit⟩ := FX w6 (Below.refl _ _)
      have i4 : (0 : Int) ≤ (p : Int) := by omega
      have i5 : (p : Int) < (m : Int) := by omega
      have hxm := Lib.hid (List.mem_of_getElem? hx)
      replace hx := Lib.hid hx
      replace hxk := Lib.hid hxk
      cases l with
      | zero =>
        have e0 : lw = 0 := hlv.out
        have hf := Lib.hid (hfs'.out x ((hz.out rfl).trans hf2))
        replace e0 := Lib.hid e0
        have c0 : (lw == 0) = true := by rw [e0.out]; rfl
        have G5 : w6.heap[w1.heap.size]? = _ := H6.out.at 3 rfl
        obtain ⟨f0, f1, f2, f3, f4, f5, _⟩ := five_cells G5
        obtain ⟨W9, hW9, g9, gr9, gs9⟩ := put_five (u0 := .int .u8 (x.1.1.toNat : Int)) (u1 := .int .u32 x.1.2.1) (u2 := .int .u32 x.1.2.2) (u3 := .int .i64 x.2.1) (u4 := .slice E5 x.2.2.length ce5) G5
        obtain ⟨n0, n1, n2, n3, n4, _⟩ := five_cells g9
        have hfin := Lib.hid (show Itm (New w.heap.size W9) W9 (itV x (.slice E5 x.2.2.length ce5)) x from (hit.grown gr9 (fun q e => by cases e; have := lo3.out; have := BQ.out.size; omega)).new (by have := lo3.out; have := BQ.out.size; omega) (Below.refl _ _))
        have B9 := BR.out.trans (B6.out.mono BR.out.size)
        have hB9 := Lib.hid (B9.grown gr9 B9.size (fun q e => by cases e; exact lo1.out.1))
        replace G5 := Lib.hid G5
        replace g9 := Lib.hid g9
        clear gr9 gs9 hit FX hf1 hf2 B9
        go_wp2_with fail
        rw [Exit.noGoto_ret]
        refine bodyPost_ret (v := .tuple #[itV x (.slice E5 x.2.2.length ce5), .int .i64 0]) (by simp [results, Try.results11, go_sem, n0, n1, n2, n3, n4]) rfl ?_
        rw [hf.out.1, hf.out.2]
        exact ⟨_, rfl, hfin.out, hB9.out⟩
      | succ l1 =>
        have c0 : (lw == 0) = false := by have := hlv.out; simp; omega
        have hn1 := Lib.hid (hdn.out l1 rfl x hxm.out)
        have hn2 : Hid (oneO s l1 x.2.1 key = T) := Lib.hid (by rw [hsu.out l1 rfl, hf1]; rfl)
        clear FX hf1 hf2 hit
        go_wp2_with fail
        go_roundw
        case rel => exact ⟨i + 1, l1, x.2.1, by have := hil.out; omega, by go_num, rfl, hn1.out, hn2.out, B6.out⟩
        case measure => have := hil.out; simp [intOf]; omega
    | false =>
      by_cases hp0 : 0 < p
      · have i6 : (0 : Int) < (p : Int) := by omega
        cases l with
        | zero =>
          have e0 : lw = 0 := hlv.out
          have c0 : ¬ (0 : Int) < lw := by omega
          have hf := Lib.hid (hfn'.out ((hz.out rfl).trans (by
            have := place_miss hmn.out htt.out
            rw [hl.out] at this
            exact this)))
          replace e0 := Lib.hid e0
          have G5 : w6.heap[w1.heap.size]? = _ := H6.out.at 3 rfl
          obtain ⟨f0, f1, f2, f3, f4, f5, _⟩ := five_cells G5
          obtain ⟨W9, hW9, g9, gr9, gs9⟩ := put_five (u0 := .int .u8 0) (u1 := .int .u32 0) (u2 := .int .u32 0) (u3 := .int .i64 0) (u4 := .slice none 0 0) G5
          obtain ⟨n0, n1, n2, n3, n4, _⟩ := five_cells g9
          have B9 := BR.out.trans (B6.out.mono BR.out.size)
          have hB9 := Lib.hid (B9.grown gr9 B9.size (fun q e => by cases e; exact lo1.out.1))
          replace G5 := Lib.hid G5
          replace g9 := Lib.hid g9
          clear gr9 gs9 B9
          go_wp2_with fail
          rw [Exit.noGoto_ret]
          refine bodyPost_ret (v := .tuple #[.agg #[.int .u8 0, .int .u32 0, .int .u32 0, .int .i64 0, .slice none 0 0], .int .i64 6]) (by simp [results, Try.results11, go_sem, n0, n1, n2, n3, n4]) rfl ?_
          rw [hf.out.1, hf.out.2]
          exact ⟨_, rfl, itm_zero _ _, hB9.out⟩
        | succ l1 =>
          have c0 : (0 : Int) < lw := by have := hlv.out; omega
          obtain ⟨j, hj⟩ : ∃ j, p = j + 1 := ⟨p - 1, by omega⟩
          have hpm : p ≤ m := by
            have := placeN_le nd key
            rw [hp.out, hl.out, hlm.out] at this
            exact this
          obtain ⟨x, hx⟩ : ∃ x, ll[j]? = some x := ⟨_, List.getElem?_eq_getElem (by rw [hlm.out]; omega)⟩
          have hf1 := place_ahead hmn.out (x := x) htt.out (by rw [hp.out, hj]) (by rw [hl.out]; exact hx)
          rw [hl.out] at hf1
          obtain ⟨ad, E5, ce5, rfl, -, FX⟩ := its_new (H6.out.at 1 rfl : rIts (New wr.heap.size w6) w6 [.slice Z m zc] ll) hx
          obtain ⟨⟨z0, z1, z2, z3, z4⟩, hit⟩ := FX w6 (Below.refl _ _)
          have i4 : (0 : Int) ≤ (j : Int) := by omega
          have i5 : (j : Int) < (m : Int) := by omega
          have i7 : (p : Int) - 1 = (j : Int) := by omega
          have i8 : IntKind.i64.wrap (j : Int) = (j : Int) := IntWalk.i64_in _ (by omega)
          have hxm := Lib.hid (List.mem_of_getElem? hx)
          have hn1 := Lib.hid (hdn.out l1 rfl x hxm.out)
          have hn2 : Hid (oneO s l1 x.2.1 key = T) := Lib.hid (by rw [hsu.out l1 rfl, hf1]; rfl)
          replace hx := Lib.hid hx
          replace hj := Lib.hid hj
          clear FX hf1 hit
          go_wp2_with fail
          go_roundw
          case rel => exact ⟨i + 1, l1, x.2.1, by have := hil.out; omega, by go_num, rfl, hn1.out, hn2.out, B6.out⟩
          case measure => have := hil.out; simp [intOf]; omega
      · have i6 : ¬ (0 : Int) < (p : Int) := by omega
        have hf := Lib.hid (hfn'.out (by
          cases l with
          | zero =>
            refine (hz.out rfl).trans ?_
            have := place_miss hmn.out htt.out
            rw [hl.out] at this
            exact this
          | succ l1 =>
            have h1 := place_none hmn.out htt.out (by rw [hp.out]; omega)
            rw [hl.out] at h1
            rw [hsu.out l1 rfl, h1]
            rfl))
        have G5 : w6.heap[w1.heap.size]? = _ := H6.out.at 3 rfl
        obtain ⟨f0, f1, f2, f3, f4, f5, _⟩ := five_cells G5
        obtain ⟨W9, hW9, g9, gr9, gs9⟩ := put_five (u0 := .int .u8 0) (u1 := .int .u32 0) (u2 := .int .u32 0) (u3 := .int .i64 0) (u4 := .slice none 0 0) G5
        obtain ⟨n0, n1, n2, n3, n4, _⟩ := five_cells g9
        have B9 := BR.out.trans (B6.out.mono BR.out.size)
        have hB9 := Lib.hid (B9.grown gr9 B9.size (fun q e => by cases e; exact lo1.out.1))
        replace G5 := Lib.hid G5
        replace g9 := Lib.hid g9
        clear gr9 gs9 B9
        go_wp2_with fail
        rw [Exit.noGoto_ret]
        refine bodyPost_ret (v := .tuple #[.agg #[.int .u8 0, .int .u32 0, .int .u32 0, .int .i64 0, .slice none 0 0], .int .i64 6]) (by simp [results, Try.results11, go_sem, n0, n1, n2, n3, n4]) rfl ?_
        rw [hf.out.1, hf.out.2]
        exact ⟨_, rfl, itm_zero _ _, hB9.out⟩
end Go.Proofs.Ytncnoingbaeomaa

/-
  The document's answers of layer 8: Taken. Conditions: those that each lemma states.
-/
namespace Go.Proofs.Ytncnoingbaeomaa
open Go.RowKit

/-- Cells that lie there, but not in block g. -/
def Off (g : Nat) (w : World) : Addr → Prop := fun p => p.block < w.heap.size ∧ p.block ≠ g
theorem off_put {g : Nat} {W W1 : World} {p : Addr} {v : Value} (gr : W.grownBy W1 (some g)) (hp : Off g W p) (hc : W.cell? p = some v) : Off g W1 p ∧ W1.cell? p = some v :=
  ⟨⟨Nat.lt_of_lt_of_le hp.1 gr.size, hp.2⟩, (World.cell?_of_block (gr.block _ hp.1 (by simpa using hp.2))).trans hc⟩
theorem off_below {g : Nat} {W W1 : World} {p : Addr} {v : Value} (hb : Below W.heap.size W W1) (hp : Off g W p) (hc : W.cell? p = some v) : Off g W1 p ∧ W1.cell? p = some v :=
  ⟨⟨Nat.lt_of_lt_of_le hp.1 hb.size, hp.2⟩, (hb.cell hp.1).trans hc⟩
theorem off_low {g : Nat} {w W : World} {p : Addr} {v : Value} (hb : Below w.heap.size w W) (hg : w.heap.size ≤ g) (hp : Old w p) (hc : w.cell? p = some v) : Off g W p ∧ W.cell? p = some v :=
  ⟨⟨Nat.lt_of_lt_of_le hp hb.size, fun e => by have h : p.block < w.heap.size := hp; omega⟩, (hb.cell hp).trans hc⟩
theorem off_old {g : Nat} {W : World} {p : Addr} {v : Value} (hp : Off g W p) (hc : W.cell? p = some v) : Old W p ∧ W.cell? p = some v := ⟨hp.1, hc⟩
end Go.Proofs.Ytncnoingbaeomaa

/-
  The document's answers of layer 9: Counted, Made, Make. Conditions: those that each lemma states.
-/
namespace Go.Proofs.Ytncnoingbaeomaa
open Go.RowKit

theorem ct_split {l : List It} {i : Nat} {x : It} {t : List UInt8} (h : ctE t (l.take i) = 0) (hx : l[i]? = some x) : ctE t l = ctE (ctV t (l.take i)) (x :: l.drop (i + 1)) := by
  have hk := (List.getElem?_eq_some_iff.1 hx).1
  have hg : l[i] = x := (List.getElem?_eq_some_iff.1 hx).2
  have e : l = l.take i ++ x :: l.drop (i + 1) := by rw [← hg, List.getElem_cons_drop, List.take_append_drop]
  have : ctE t l = ctE t (l.take i ++ x :: l.drop (i + 1)) := by rw [← e]
  rw [this, ctE_app, if_pos h]
theorem ct_next {l : List It} {i : Nat} {x : It} {t : List UInt8} (h : ctE t (l.take i) = 0) (hx : l[i]? = some x) : ctE t (l.take (i + 1)) = ctE (ctV t (l.take i)) [x] ∧ ctV t (l.take (i + 1)) = ctV (ctV t (l.take i)) [x] := by
  have hk := (List.getElem?_eq_some_iff.1 hx).1
  have hg : l[i] = x := (List.getElem?_eq_some_iff.1 hx).2
  rw [← List.take_append_getElem hk, ctE_app, ctV_app, if_pos h, hg]
  exact ⟨rfl, rfl⟩
theorem box_three3 {w : World} (a b c d e f : Value) : ∃ w1, ((w.alloc (.cells #[a, b, c, d] 29)).alloc (.cells #[e, f] 64)).alloc (.cells #[.slice none 0 0, .slice none 0 0, .slice none 0 0, .slice none 0 0] 29) = w1 ∧
    w1.heap[w.heap.size]? = some (.cells #[a, b, c, d] 29 (0, 0)) ∧ w1.heap[w.heap.size + 1]? = some (.cells #[e, f] 64 (0, 0)) ∧ w1.heap[w.heap.size + 2]? = some (.cells #[.slice none 0 0, .slice none 0 0, .slice none 0 0, .slice none 0 0] 29 (0, 0)) ∧ w1.heap.size = w.heap.size + 3 ∧ Below w.heap.size w w1 := by
  refine ⟨_, rfl, alloc_block (alloc_block (heap_alloc_new _ _)), alloc_block ?_, ?_, by simp, (((Below.refl _ w).alloc (Nat.le_refl _) _).alloc (by simp) _).alloc (by simp; omega) _⟩
  · have := heap_alloc_new (w.alloc (.cells #[a, b, c, d] 29)) (.cells #[e, f] 64)
    rwa [World.size_alloc] at this
  · have := heap_alloc_new ((w.alloc (.cells #[a, b, c, d] 29)).alloc (.cells #[e, f] 64)) (.cells #[.slice none 0 0, .slice none 0 0, .slice none 0 0, .slice none 0 0] 29)
    rwa [World.size_alloc, World.size_alloc] at this

theorem mk_ways {s : Rm} {n : Nd} (hm : mayR s = true) (hn : mayN n = true) : (ctE s.2.1 n.2 ≠ 0 ∧ mkE s n = ctE s.2.1 n.2 ∧ mkN s n = 0 ∧ mkV s n = emptyR) ∨ (ctE s.2.1 n.2 = 0 ∧ mkE s n = tkE (ctS s n) (blkN n) ∧ mkN s n = tkN (ctS s n) (blkN n) ∧ mkV s n = tkV (ctS s n) (blkN n)) := by
  by_cases hc : ctE s.2.1 n.2 = 0
  · have e : mkE s n = tkE (ctS s n) (blkN n) := by simp [mkE, hm, hn, hc]
    refine .inr ⟨hc, e, ?_, ?_⟩
    · by_cases h : mkE s n = 0
      · rw [mkN, if_pos h]
      · rw [mkN, if_neg h, (tk_no (by rw [← e]; exact h)).1]
    · by_cases h : mkE s n = 0
      · rw [mkV, if_pos h]
      · rw [mkV, if_neg h, (tk_no (by rw [← e]; exact h)).2]
  · have e : mkE s n = ctE s.2.1 n.2 := by simp [mkE, hm, hn, hc]
    have h : mkE s n ≠ 0 := by rw [e]; exact hc
    exact .inl ⟨hc, e, (mk_no h).1, (mk_no h).2⟩

end Go.Proofs.Ytncnoingbaeomaa

/-
  The chapter's tree of layer 10, plain. Conditions: those that each lemma states.
-/
namespace Go.Proofs.Ytncnoingbaeomaa
open Go.RowKit

theorem zeros_get0 (n i : Nat) : (zeros n)[i]?.getD 0 = 0 := by
  unfold zeros
  by_cases h : i < n <;> simp [h]
def keyN (x : Int) : Ky := (2, 0, x)
def it2 : It := (keyN 2, 0, [])
def it4 : It := (keyN 4, 0, [7])
/-- The leaf; the node above, whose item has a key. -/
def lowN : Nd := (0, [it2, it4])
def topN (x : Int) : Nd := (1, [(keyN x, 8, [])])
theorem low_may : mayN lowN = true := by decide +kernel
theorem top_may (x : Int) : mayN (topN x) = true := mayN_mk ⟨by simp [topN], by simp [topN], by simp [topN], fun _ => by simp [topN]⟩ (fun i hi => by
  have hi0 : i = 0 := by
    simp [topN] at hi
    omega
  subst hi0
  rw [okAt_zero (x := (keyN x, 8, [])) rfl]
  rfl)
theorem low_in : InN lowN := ⟨⟨by decide, by decide⟩, fun x hx => by
  simp only [lowN, List.mem_cons, List.not_mem_nil, or_false] at hx
  rcases hx with rfl | rfl <;> exact ⟨⟨⟨by decide, by decide⟩, by decide, by decide⟩, by decide, by decide⟩⟩
theorem top_in {x : Int} (h : 0 ≤ x ∧ x < 4294967296) : InN (topN x) := ⟨⟨by simp [topN], by simp [topN]⟩, fun y hy => by
  simp only [topN, List.mem_cons, List.not_mem_nil, or_false] at hy
  subst hy
  exact ⟨⟨⟨by simp [keyN], by simp [keyN]⟩, h⟩, by simp, by simp⟩⟩
/-- The store with the leaf; with both. -/
noncomputable def tr1 : Rm := mkV newR lowN
noncomputable def tr2 (x : Int) : Rm := mkV tr1 (topN x)
set_option maxRecDepth 100000 in
theorem low_made : mkE newR lowN = 0 ∧ mkN newR lowN = 8 ∧ mayR tr1 = true ∧ tr1.2.1[8]?.getD 0 = 1 ∧ freeL tr1 = 9 :: (freeL newR).drop 2 ∧ tr1.1.2.length = 1 ∧ seenD tr1.1 8 = blkN lowN ∧ (∀ k : Nat, k ≠ 8 → tr1.2.1[k]?.getD 0 = 0) := by
  have hv : ctV newR.2.1 lowN.2 = newR.2.1 := by
    generalize newR.2.1 = t
    rfl
  have he : ctE newR.2.1 lowN.2 = 0 := by
    generalize newR.2.1 = t
    rfl
  have hs : ctS newR lowN = newR := by rw [ctS, hv]
  obtain ⟨t1, t2, t3, _, t5, _⟩ := new_take (blkN_length low_may)
  rcases mk_ways may_new low_may with ⟨hc, _⟩ | ⟨_, e, e2, e3⟩
  · exact absurd he hc
  rw [hs] at e e2 e3
  have hE := e.trans t1
  obtain ⟨k, e1, _, _, _, _, _, hV, hm, c1, c2, _⟩ := mk_counts hE
  rw [e2, t2] at e1
  have hk : k = 8 := by omega
  subst hk
  refine ⟨hE, e2.trans t2, hm, c1, ?_, ?_, ?_, fun i hi => ?_⟩
  · show freeL (mkV newR lowN) = _
    rw [e3, tk_free t1, new_free.2]
    rfl
  · show (mkV newR lowN).1.2.length = 1
    rw [e3]; exact t5
  · show seenD (mkV newR lowN).1 8 = _
    rw [hV]
    exact seenD_write
  · refine nat_zero.1 ?_
    show ((mkV newR lowN).2.1[i]?.getD 0).toNat = 0
    rw [c2 i hi]
    have h0 : newR.2.1[i]?.getD 0 = 0 := by
      have e0 : newR.2.1 = zeros 256 := rfl
      rw [e0]
      exact zeros_get0 256 i
    rw [h0, show cntR lowN.2 i = 0 by simp [lowN, cntR, it2, it4]]
    rfl
set_option maxRecDepth 100000 in
theorem top_made {x : Int} (hx : 0 ≤ x ∧ x < 4294967296) : mkE tr1 (topN x) = 0 ∧ mkN tr1 (topN x) = 9 ∧ mayR (tr2 x) = true ∧ rmE (tr2 x) 9 = 0 ∧ rmV (tr2 x) 9 = topN x ∧ rmE (tr2 x) 8 = 0 ∧ rmV (tr2 x) 8 = lowN ∧ asE (tr2 x) 10 = 6 ∧ asE (tr2 x) 7 = 2 := by
  obtain ⟨_, _, hm, h8, hf, hw, hsn, hz⟩ := low_made
  have he : ctE tr1.2.1 (topN x).2 = 0 := by
    simp only [topN, ctE]
    rw [if_neg (by decide), show ((8 : Int)).toNat = 8 from rfl, h8, if_neg (by decide), if_neg (by decide)]
  have hfs := ctS_free hm (top_may x) he
  have hms := ctS_may hm (top_may x) he
  have hT : tkE (ctS tr1 (topN x)) (blkN (topN x)) = 0 := tk_yes hms (blkN_length (top_may x)) (by rw [hfs, hf]; exact List.cons_ne_nil _ _) (by have e : (ctS tr1 (topN x)).1 = tr1.1 := rfl; rw [e, hw]; decide)
  have hK : tkK (ctS tr1 (topN x)) = 9 := by rw [tkK, hfs, hf]; rfl
  obtain ⟨_, _, _, _, _, _, _, _, hN, _⟩ := tk_ok hT
  rcases mk_ways hm (top_may x) with ⟨hc, _⟩ | ⟨_, e, e2, _⟩
  · exact absurd he hc
  have hE := e.trans hT
  have hN9 : mkN tr1 (topN x) = 9 := by rw [e2, hN, hK]; rfl
  obtain ⟨k, e1, _, _, _, _, _, hV, hmT, c1, c2, _, hl, _⟩ := mk_counts hE
  have hk : k = 9 := by omega
  subst hk
  have c8 : (mkV tr1 (topN x)).2.1[8]?.getD 0 ≠ 0 := fun h => by
    have := c2 8 (by decide)
    rw [h, h8] at this
    have e0 : (0 : UInt8).toNat = 0 := rfl
    have e1 : (1 : UInt8).toNat = 1 := rfl
    omega
  have hs9 : seenD (tr2 x).1 9 = blkN (topN x) := by
    show seenD (mkV tr1 (topN x)).1 9 = _
    rw [hV]
    exact seenD_write
  have hs8 : seenD (tr2 x).1 8 = blkN lowN := by
    show seenD (mkV tr1 (topN x)).1 8 = _
    rw [hV, ← hsn]
    exact seenD_write_ne (by decide)
  have a9 : asE (tr2 x) ((9 : Nat) : Int) = 0 := as_yes hmT (by decide) (by decide) (by rw [show (tr2 x).2.1[9]?.getD 0 = 1 from c1]; decide)
  have a8 : asE (tr2 x) ((8 : Nat) : Int) = 0 := as_yes hmT (by decide) (by decide) c8
  obtain ⟨r1, r2⟩ := rm_yes a9 hs9 (top_may x) (top_in hx)
  obtain ⟨r3, r4⟩ := rm_yes a8 hs8 low_may low_in
  refine ⟨hE, hN9, hmT, r1, r2, r3, r4, ?_, ?_⟩
  · have h10 : (tr2 x).2.1[10]?.getD 0 = 0 := nat_zero.1 (by
      have h1 := c2 10 (by decide)
      rw [hz 10 (by decide), show cntR (topN x).2 10 = 0 by simp [topN, cntR]] at h1
      exact h1)
    rw [asE, show mayR (tr2 x) = true from hmT, if_pos rfl, if_pos (by decide), show ((10 : Int)).toNat = 10 from rfl, if_pos h10]
  · rw [asE, show mayR (tr2 x) = true from hmT, if_pos rfl, if_neg (by decide)]
set_option maxRecDepth 100000 in
/-- What Check and Find tell of it. -/
theorem top_tree : treeO (tr2 2) 9 = true ∧ treeO (tr2 2) 8 = true ∧ treeO (tr2 1) 9 = false ∧ theO (tr2 2) 9 (keyN 4) = some it4 ∧ theO (tr2 2) 9 (keyN 3) = none := by
  obtain ⟨_, _, hm, r1, r2, r3, r4, _, _⟩ := top_made (x := 2) (by decide)
  obtain ⟨_, _, hm', q1, q2, q3, q4, _, _⟩ := top_made (x := 1) (by decide)
  have hl : leafO (tr2 2) lowN.2 = true := by
    simp [leafO, lowN, it2, it4]
  refine ⟨?_, ?_, ?_, ?_, ?_⟩
  · unfold treeO
    rw [r1, r2]
    show (true && rightO (tr2 2) 0 8 (keyN 2) keyZ false) = true
    unfold rightO
    rw [r3, r4, hl]
    decide
  · unfold treeO
    rw [r3, r4]
    show (true && leafO (tr2 2) lowN.2) = true
    rw [hl]
    rfl
  · unfold treeO
    rw [q1, q2]
    show (true && rightO (tr2 1) 0 8 (keyN 1) keyZ false) = false
    unfold rightO
    rw [q3, q4]
    rw [show headO lowN.2 (keyN 1) keyZ false = false by decide]
    simp
  · unfold theO
    rw [r2]
    show oneO (tr2 2) 1 9 (keyN 4) = some it4
    unfold oneO
    rw [r2]
    show ((topN 2).2.reverse.find? (fun x => !lessK (keyN 4) x.1)).bind _ = _
    rw [show (topN 2).2.reverse.find? (fun x => !lessK (keyN 4) x.1) = some (keyN 2, 8, []) by decide]
    show oneO (tr2 2) 0 8 (keyN 4) = _
    unfold oneO
    rw [r4]
    decide
  · unfold theO
    rw [r2]
    show oneO (tr2 2) 1 9 (keyN 3) = none
    unfold oneO
    rw [r2]
    show ((topN 2).2.reverse.find? (fun x => !lessK (keyN 3) x.1)).bind _ = _
    rw [show (topN 2).2.reverse.find? (fun x => !lessK (keyN 3) x.1) = some (keyN 2, 8, []) by decide]
    show oneO (tr2 2) 0 8 (keyN 3) = _
    unfold oneO
    rw [r4]
    decide
end Go.Proofs.Ytncnoingbaeomaa

/-
  All items of a tree, level by level, as the laws of layer 10 gather them; how often a key is among them; plain. Conditions: those that each lemma states.
-/
namespace Go.Proofs.Ytncnoingbaeomaa
open Go.RowKit

def flatO (g : Int → Option (List It)) : List It → Option (List It)
  | [] => some []
  | x :: r => (g x.2.1).bind fun m => (flatO g r).map fun q => m ++ q
/-- The items of the leaves below a block whose node is of a level. -/
noncomputable def allP (s : Rm) : Nat → Int → Option (List It)
  | 0, a => if rmE s a = 0 ∧ (rmV s a).1 = 0 then some (rmV s a).2 else none
  | l + 1, a => if rmE s a = 0 ∧ (rmV s a).1 = ((l + 1 : Nat) : Int) then flatO (allP s l) (rmV s a).2 else none
theorem flat_app (g : Int → Option (List It)) : ∀ (a b : List It), flatO g (a ++ b) = (flatO g a).bind fun m => (flatO g b).map fun q => m ++ q
  | [], b => by
    show flatO g b = (flatO g b).map fun q => [] ++ q
    cases flatO g b <;> rfl
  | x :: a, b => by
    simp only [List.cons_append, flatO]
    rw [flat_app g a b]
    cases g x.2.1 with
    | none => rfl
    | some m =>
      cases flatO g a with
      | none => rfl
      | some p =>
        cases flatO g b with
        | none => rfl
        | some q => simp
theorem flat_take (g : Int → Option (List It)) {l : List It} {i : Nat} {x : It} (hx : l[i]? = some x) : flatO g (l.take (i + 1)) = (flatO g (l.take i)).bind fun m => (g x.2.1).map fun q => m ++ q := by
  have hk := (List.getElem?_eq_some_iff.1 hx).1
  have hg : l[i] = x := (List.getElem?_eq_some_iff.1 hx).2
  rw [← List.take_append_getElem hk, flat_app, hg]
  cases flatO g (l.take i) with
  | none => rfl
  | some m =>
    show (flatO g [x]).map _ = (g x.2.1).map _
    unfold flatO
    cases g x.2.1 with
    | none => rfl
    | some q => simp [flatO]
theorem flat_bad (g : Int → Option (List It)) {l : List It} {i : Nat} (h : flatO g (l.take i) = none) : flatO g l = none := by
  rw [← List.take_append_drop i l, flat_app, h]
  rfl
theorem flat_some {g : Int → Option (List It)} {g' : Int → List It} : ∀ {l : List It}, (∀ x ∈ l, g x.2.1 = some (g' x.2.1)) → flatO g l = some (l.flatMap fun x => g' x.2.1)
  | [], _ => rfl
  | x :: r, h => by
    unfold flatO
    rw [h x List.mem_cons_self, flat_some fun y hy => h y (List.mem_cons_of_mem _ hy), List.flatMap_cons]
    rfl
theorem right_all (s : Rm) : ∀ (l : Nat) (a : Int) (k tb : Ky) (e : Bool), rightO s l a k tb e = true → allP s l a = some (itsT s l a)
  | 0, a, k, tb, e, h => by
    obtain ⟨h1, h2, _, _⟩ := right_of h
    unfold allP itsT
    rw [if_pos ⟨h1, h2⟩]
  | l + 1, a, k, tb, e, h => by
    obtain ⟨h1, h2, _, h4⟩ := right_of h
    unfold allP itsT
    rw [if_pos ⟨h1, h2⟩]
    exact flat_some fun x hx => by
      obtain ⟨t', e', hf⟩ := its_mem h4 x hx
      exact right_all s l _ _ _ _ hf
/-- Of a tree that may be, from its root's level on. -/
theorem tree_alls {s : Rm} {a : Int} (h : treeO s a = true) : allP s (rmV s a).1.toNat a = some (allO s a) := by
  obtain ⟨h1, _, _, l0, _, hi⟩ := tree_of h
  unfold allO
  unfold innerO at hi
  cases hl : (rmV s a).1.toNat with
  | zero =>
    unfold allP itsT
    rw [if_pos ⟨h1, by omega⟩]
  | succ l =>
    rw [hl] at hi
    unfold allP itsT
    rw [if_pos ⟨h1, by omega⟩]
    exact flat_some fun x hx => by
      obtain ⟨t', e', hf⟩ := its_mem hi x hx
      exact right_all s l _ _ _ _ hf
theorem up_next {l : List It} {i : Nat} {x y : It} (h : Up l) (hx : l[i]? = some x) (hy : l[i + 1]? = some y) : lessK x.1 y.1 = true := by
  obtain ⟨h1, e1⟩ := List.getElem?_eq_some_iff.1 hx
  obtain ⟨h2, e2⟩ := List.getElem?_eq_some_iff.1 hy
  rw [Up, List.pairwise_iff_getElem] at h
  have := h i (i + 1) h1 h2 (by omega)
  rwa [e1, e2] at this

/-! ### How often a key is among items -/
theorem tree_any {s : Rm} {a : Int} (h : treeO s a = true) (k : Ky) : (allO s a).any (fun x => decide (x.1 = k)) = (theO s a k).isSome := by
  cases ht : theO s a k with
  | none =>
    have := (the_none h).1 ht
    rw [Option.isSome_none, List.any_eq_false]
    intro x hx
    simpa using this x hx
  | some x =>
    obtain ⟨h1, h2⟩ := the_in ht
    rw [Option.isSome_some, List.any_eq_true]
    exact ⟨x, h1, by simpa using h2⟩
end Go.Proofs.Ytncnoingbaeomaa

/-
  Package node: slices.Clone at items, Twin. Conditions: those that each lemma states.
-/
namespace Go.Proofs.Ytncnoingbaeomaa
open Go.RowKit

abbrev Iv := It × Value
def cell5 (p : Iv) : List Value := [.int .u8 (p.1.1.1.toNat : Int), .int .u32 p.1.1.2.1, .int .u32 p.1.1.2.2, .int .i64 p.1.2.1, p.2]
def cells5 (ps : List Iv) : List Value := (ps.map cell5).flatten
theorem cells5_length : ∀ ps : List Iv, (cells5 ps).length = ps.length * 5
  | [] => rfl
  | p :: r => by
    have := cells5_length r
    simp [cells5, cell5] at this ⊢
    omega
theorem cells5_at : ∀ {ps : List Iv} {k : Nat} {p : Iv}, ps[k]? = some p → ∀ j v, (cell5 p)[j]? = some v → (cells5 ps)[k * 5 + j]? = some v
  | q :: r, 0, p, h, j, v, hv => by
    simp at h
    subst h
    have hj : j < (cell5 q).length := (List.getElem?_eq_some_iff.1 hv).1
    show ((cell5 q) ++ cells5 r)[0 * 5 + j]? = some v
    rw [Nat.zero_mul, Nat.zero_add, List.getElem?_append_left hj, hv]
  | q :: r, k + 1, p, h, j, v, hv => by
    have h' : r[k]? = some p := by simpa using h
    have := cells5_at h' j v hv
    show ((cell5 q) ++ cells5 r)[(k + 1) * 5 + j]? = some v
    have hl : (cell5 q).length = 5 := rfl
    rw [List.getElem?_append_right (by omega), hl, show (k + 1) * 5 + j - 5 = k * 5 + j by omega]
    exact this
theorem cells5_one {ps : List Iv} (h : ∀ p ∈ ps, p.2.oneCell' = true) : ∀ u ∈ cells5 ps, u.oneCell' = true := fun u hu => by
  unfold cells5 at hu
  rw [List.mem_flatten] at hu
  obtain ⟨l, hl, hul⟩ := hu
  obtain ⟨p, hp, rfl⟩ := List.mem_map.1 hl
  simp [cell5] at hul
  rcases hul with rfl | rfl | rfl | rfl | rfl
  · rfl
  · rfl
  · rfl
  · rfl
  · exact h p hp
end Go.Proofs.Ytncnoingbaeomaa

/-
  Package node: Twin. Conditions: those that each lemma states.
-/
namespace Go.Proofs.Ytncnoingbaeomaa
open Go.RowKit

theorem iv_one {ok : Addr → Prop} {w : World} {d : Value} {xs : List UInt8} (h : rBy ok w [d] xs) : d.oneCell' = true := by
  obtain ⟨_, _, rfl, _⟩ := rBy_open h
  rfl

end Go.Proofs.Ytncnoingbaeomaa

/-
  Rows of items: as literals, appended to one another; all items of a node's leaves, as the laws of layer 10 gather them. Conditions: those that each lemma states.
-/
namespace Go.Proofs.Ytncnoingbaeomaa
open Go.RowKit

/-- A literal row of items. -/
theorem its_lies {W : World} {g : Nat} {cs : Array Value} {t : TypeId} {ps : List Iv} (hz : W.heap[g]? = some (.cells cs t (0, 0))) (hcs : cs.toList = cells5 ps) (hl : ps.length ≤ 1000) (h : ∀ p ∈ ps, InI p.1 ∧ rBy (Old W) W [p.2] p.1.2.2) : rIts (Old W) W [.slice (some ⟨g, 0, none⟩) ps.length ps.length] (ps.map (·.1)) := by
  refine ⟨some ⟨g, 0, none⟩, ps.length, by rw [List.length_map], by rw [List.length_map]; omega, by omega, fun i x hi => ?_⟩
  rw [List.getElem?_map] at hi
  obtain ⟨p, hp, rfl⟩ := Option.map_eq_some_iff.1 hi
  obtain ⟨h1, h2⟩ := h p (List.mem_of_getElem? hp)
  refine ⟨⟨g, 0, none⟩, cell5 p, rfl, rfl, fun j v hj => ?_, rIt_mk h1 h2⟩
  have hc := cells5_at hp j v hj
  rw [← hcs, Array.getElem?_toList] at hc
  have e : ((⟨g, 0, none⟩ : Addr).add (i * 5 + j)) = ⟨g, i * 5 + j, none⟩ := by unfold Addr.add; split <;> simp_all
  rw [e]
  have hcell : W.cell? ⟨g, i * 5 + j, none⟩ = some v := by
    unfold World.cell?
    simp only [hz]
    exact hc
  exact ⟨World.block_lt_of_cell? _ _ hcell, hcell⟩

/-- The cells of a row of items whose slices lie in new memory. -/
theorem its_cellsN {l1 : Nat} {w : World} {A : Option Addr} {n c : Nat} {xs : List It} (h : rIts (New l1 w) w [.slice A n c] xs) : ∃ ps : List Iv, ps.map (·.1) = xs ∧ Cells w w.heap.size A (cells5 ps) ∧ (∀ p ∈ ps, InI p.1 ∧ rBy (New l1 w) w [p.2] p.1.2.2) := by
  obtain ⟨ps, hl, hps⟩ := list_of (n := xs.length) (p := fun i (p : Iv) => xs[i]? = some p.1 ∧ ∃ ad, A = some ad ∧ (∀ j v, (cell5 p)[j]? = some v → ad.block < w.heap.size ∧ w.cell? (ad.add (i * 5 + j)) = some v) ∧ InI p.1 ∧ rBy (New l1 w) w [p.2] p.1.2.2) (fun i hi => by
    have hx : xs[i]? = some xs[i] := List.getElem?_eq_getElem hi
    obtain ⟨_, _, e, _, _, h4⟩ := id h
    cases e
    obtain ⟨ad, vs, rfl, e5, q, r⟩ := h4 i _ hx
    obtain ⟨d, rfl, hin, hd⟩ := rIt_open r
    exact ⟨(xs[i], d), hx, ad, rfl, fun j v hj => ⟨by have := (q j v hj).1.2.1; rwa [add_block] at this, (q j v hj).2⟩, hin, hd⟩)
  refine ⟨ps, ?_, ?_, fun p hp => ?_⟩
  · apply List.ext_getElem?
    intro i
    rw [List.getElem?_map]
    cases e : ps[i]? with
    | none =>
      have : xs.length ≤ i := by rw [← hl]; exact List.getElem?_eq_none_iff.1 e
      rw [List.getElem?_eq_none this]
      rfl
    | some p => exact (hps i p e).1.symm
  · intro j v hj
    have hlt := (List.getElem?_eq_some_iff.1 hj).1
    rw [cells5_length] at hlt
    obtain ⟨p, hp⟩ : ∃ p, ps[j / 5]? = some p := ⟨_, List.getElem?_eq_getElem (by omega)⟩
    obtain ⟨_, ad, rfl, hc, _⟩ := hps _ p hp
    obtain ⟨u, hu⟩ : ∃ u, (cell5 p)[j % 5]? = some u := ⟨_, List.getElem?_eq_getElem (by show j % 5 < 5; omega)⟩
    have h1 := cells5_at hp _ _ hu
    rw [show j / 5 * 5 + j % 5 = j by omega, hj] at h1
    cases h1
    have := hc _ _ hu
    rw [show j / 5 * 5 + j % 5 = j by omega] at this
    exact ⟨ad, rfl, this.1, this.2⟩
  · obtain ⟨i, hi⟩ := List.mem_iff_getElem?.1 hp
    obtain ⟨_, _, _, _, h1, h2⟩ := hps i p hi
    exact ⟨h1, h2⟩

/-- 'append(v, l...)': v a row of items of the call's own, l one in memory that is newer. -/
theorem its_app {w : World} {lo l1 : Nat} {A B : Option Addr} {c m d : Nat} {xs ys : List It} (h : RowOf rIt 5 39 lo w A c xs) (hy : rIts (New l1 w) w [.slice B m d] ys) (hA : ∀ g, A.map (·.block) = some g → g < l1) (hl : lo ≤ l1) (hb : xs.length + ys.length ≤ 100000) (hbase : lo ≤ w.heap.size) (n : Nat) (hn : xs.length = n) :
    ∃ A' c' w', (Builtin.append_ #[52, 52] 52 #[.slice A n c, .slice B m d]).run Try.prog w = .ok (.slice A' (n + m) c') w' ∧ RowOf rIt 5 39 lo w' A' c' (xs ++ ys) ∧ Below lo w w' ∧ w.grownBy w' (A.map (·.block)) ∧ (∀ g, A'.map (·.block) = some g → g < w'.heap.size) := by
  subst hn
  obtain ⟨i0, hi, hz0, hz1, hz2⟩ := info_parts item_info0
  obtain ⟨cs, ho, hcs⟩ := h
  obtain ⟨ps, hps, hC, hin⟩ := its_cellsN hy
  have hml : ys.length = m := by
    obtain ⟨_, _, e, _⟩ := its_open hy
    cases e
    rfl
  have hpl : ps.length = m := by rw [← hml, ← hps, List.length_map]
  obtain ⟨A1, c1, e, _, _, e4, _⟩ := own_any ho
  cases e
  have hone : ∀ u ∈ cells5 ps, u.oneCell' = true := cells5_one fun p hp => iv_one (hin p hp).2
  have hcl : cs.length = xs.length * 5 := ho.1
  -- what the elements say, behind
  have fin : ∀ (A2 : Option Addr) (c2 : Nat) (w' : World), w'.ownsRow lo 39 5 (.slice A2 (xs.length + m) c2) (xs.length + m) (cs ++ cells5 ps) →
      (∀ p v, NewBut lo A w p → w.cell? p = some v → NewBut lo A2 w' p ∧ w'.cell? p = some v) → RowOf rIt 5 39 lo w' A2 c2 (xs ++ ys) := fun A2 c2 w' o1 mp => by
    refine ⟨cs ++ cells5 ps, by rw [List.length_append, hml]; exact o1, fun j y hj => ?_⟩
    rcases Nat.lt_or_ge j xs.length with hjl | hjl
    · rw [List.getElem?_append_left hjl] at hj
      obtain ⟨vs, e1, e2, e3⟩ := hcs j y hj
      refine ⟨vs, e1, fun k u hk => ?_, stab_it _ _ _ _ _ _ mp e3⟩
      have hcu := e2 k u hk
      rw [List.getElem?_append_left (List.getElem?_eq_some_iff.1 hcu).1]
      exact hcu
    · rw [List.getElem?_append_right hjl, ← hps, List.getElem?_map] at hj
      obtain ⟨p, hp, rfl⟩ := Option.map_eq_some_iff.1 hj
      obtain ⟨h1, h2⟩ := hin p (List.mem_of_getElem? hp)
      refine ⟨cell5 p, rfl, fun k u hk => ?_, ?_⟩
      · have hk5 : k < 5 := (List.getElem?_eq_some_iff.1 hk).1
        rw [List.getElem?_append_right (by omega), hcl]
        rw [show j * 5 + k - xs.length * 5 = (j - xs.length) * 5 + k by omega]
        exact cells5_at hp k u hk
      · refine rIt_mk h1 (stab_by _ _ _ _ _ _ (fun q v hq hc => mp q v ⟨⟨Nat.le_trans hl hq.1, hq.2⟩, fun e => ?_⟩ hc) h2)
        have := hA _ e
        have := hq.1
        omega
  rcases B with _ | bd
  · have h0 : ps = [] := by
      cases ps with
      | nil => rfl
      | cons p r =>
        obtain ⟨_, e, _⟩ := hC 0 _ (show (cells5 (p :: r))[0]? = some (Value.int .u8 (p.1.1.1.toNat : Int)) from rfl)
        cases e
    subst h0
    obtain rfl : m = 0 := by simpa using hpl.symm
    have hap := fin A c w (by simpa [cells5] using ho) (fun p v hp hc => ⟨hp, hc⟩)
    refine ⟨A, c, w, ?_, hap, Below.refl _ _, grow_refl _ _, fun g hg => ?_⟩
    · rcases ho.2 with ⟨e, e2⟩ | ⟨g, cap, cur, e, _, _, hnc, _⟩
      · rw [Nat.add_zero, e]
        simp [Builtin.append_, run_underlying Try.underlying52, sizeOf, typeInfo, hi, Builtin.lenOf, Builtin.firstCells]
      · rw [Nat.add_zero, e]
        simp [Builtin.append_, run_underlying Try.underlying52, sizeOf, typeInfo, hi, Builtin.lenOf, Builtin.firstCells, hnc, storeCells]
    · exact (ho.lt g (by rw [e4]; exact hg)).2
  · obtain ⟨v', w', hr, o1, g1, b1, k1⟩ := app_own (P := Try.prog) (w := w) lo 52 52 39 i0 (.agg #[.int .u8 0, .int .u32 0, .int .u32 0, .int .i64 0, .slice none 0 0]) 5 48 Try.underlying52 hi hz0 hz1 hz2 rfl (by decide) _ _ cs ho bd m d (cells5 ps) (by rw [cells5_length, hpl]) (fun j u hj => by
      obtain ⟨_, e, _, h⟩ := hC j u hj
      cases e
      exact h) hone (by unfold maxLen; omega) (by omega) hbase
    obtain ⟨A2, c2, rfl, _, _, e5, _⟩ := own_any o1
    rw [e4] at g1 k1
    rw [e5] at k1
    refine ⟨A2, c2, w', hr, fin A2 c2 w' o1 (fun p v hp hc => ?_), b1, g1, fun g hg => (o1.lt g (by rw [e5]; exact hg)).2⟩
    have hb := g1.block p.block hp.1.2.1 (fun e => hp.2 e.symm)
    refine ⟨⟨⟨hp.1.1, Nat.lt_of_lt_of_le hp.1.2.1 g1.size, (World.frozen?_of_block hb).trans hp.1.2.2⟩, fun e => ?_⟩, (World.cell?_of_block hb).trans hc⟩
    rcases k1 with k | k
    · exact hp.2 (k ▸ e)
    · rw [k] at e
      simp only [Option.some.injEq] at e
      have := hp.1.2.1
      omega
end Go.Proofs.Ytncnoingbaeomaa

/-
  Package drop: refer, which counts all Refs of a node in a table of the caller's own. Conditions: those that each lemma states.
-/
namespace Go.Proofs.Ytncnoingbaeomaa
open Go.RowKit

theorem grow_of {a b : World} {row : Option Nat} (h : Below a.heap.size a b) : a.grownBy b row := grow_later (grow_refl a row) h
set_option maxRecDepth 100000 in
set_option maxHeartbeats 8000000 in
theorem refer_any (g c lo : Nat) (t0 : List UInt8) (u : Value) (n : Nd) (hn : mayN n = true) (hl0 : t0.length = 256) (w : World) (hown : w.ownsRow lo 5 1 (.slice (some ⟨g, 0, none⟩) 256 c) 256 (u8s t0)) (hu : Nod (Off g w) w u n) :
    Calls Try.prog 47 #[.slice (some ⟨g, 0, none⟩) 256 c, u] w fun e w' => e = .returned (.int .i64 (ctE t0 n.2)) ∧ w.grownBy w' (some g) ∧ (ctE t0 n.2 = 0 → w'.ownsRow lo 5 1 (.slice (some ⟨g, 0, none⟩) 256 c) 256 (u8s (ctV t0 n.2))) := by
  obtain ⟨I, ci, rfl, _, _, _, hI⟩ := hu.open
  obtain ⟨lw, hlw⟩ : ∃ q, n.1 = q := ⟨_, rfl⟩
  obtain ⟨l, hl⟩ : ∃ q, n.2 = q := ⟨_, rfl⟩
  obtain ⟨m, hlm⟩ : ∃ q, l.length = q := ⟨_, rfl⟩
  have hrf := Lib.hid (refs_may hn)
  obtain ⟨⟨_, _, s3, _⟩, _⟩ := mayN_of hn
  rw [hl, hlm] at s3 hI
  rw [hl] at hrf ⊢
  rw [hlw, hlm]
  have hg0 : g < w.heap.size := ((hown.lt g rfl).2)
  obtain ⟨w1, hw1, b1, hs1, hB1⟩ := box_pair' w (.int .i64 lw) (.slice I m ci) 64
  have HI := Lib.hid (stab_its _ _ _ _ _ _ (fun _ _ hp hc => off_below (g := g) hB1 hp hc) hI)
  have HO := Lib.hid (own_below hown hB1)
  have GB := Lib.hid (grow_of (row := some g) hB1)
  obtain ⟨p0, p1, _, pg⟩ := two_cells b1
  have hgs : Hid (g ≠ w.heap.size) := Lib.hid (by omega)
  have b1h := Lib.hid b1
  replace hl0 := Lib.hid hl0
  replace hl := Lib.hid hl
  replace hlw := Lib.hid hlw
  replace hlm := Lib.hid hlm
  replace hs1 := Lib.hid hs1
  clear hown hu hI b1 hB1
  go_enter Try.func47, Try.ntmps47
  go_upto_region 1 with fail
  clear hw1
  go_wp2_with fail
  clear p0 p1
  go_loopw [10] (fun vi wr => ∃ i : Nat, i ≤ m ∧ vi = .int .i64 i ∧ ctE t0 (l.take i) = 0 ∧ wr.ownsRow lo 5 1 (.slice (some ⟨g, 0, none⟩) 256 c) 256 (u8s (ctV t0 (l.take i))) ∧ w1.grownBy wr (some g)) (fun vi _ => m - (intOf vi).toNat)
  case atStart => exact ⟨0, by omega, rfl, rfl, HO.out, grow_refl _ _⟩
  case round =>
    obtain ⟨i, hi, rfl, hE, hown, hgr⟩ := hrel
    have GF := Lib.hid (grow_trans GB.out hgr)
    by_cases hlt : i < m
    case neg =>
      have hlast : Hid (l.take i = l) := Lib.hid (List.take_of_length_le (by rw [hlm.out]; omega))
      have hEl : Hid (ctE t0 l = 0) := Lib.hid (by rw [← hE, hlast.out])
      rw [hlast.out] at hown
      have HO2 := Lib.hid hown
      clear hown hgr hE
      go_wp2_with fail
      go_ret
      exact ⟨ret_int hEl.out.symm, GF.out, fun _ => HO2.out⟩
    obtain ⟨x, hx⟩ : ∃ x, l[i]? = some x := ⟨_, List.getElem?_eq_getElem (by rw [hlm.out]; exact hlt)⟩
    have hsp := Lib.hid (ct_split hE hx)
    have hnx := Lib.hid (ct_next hE hx)
    have hxr := hrf.out x (List.mem_of_getElem? hx)
    have hIr := stab_its _ _ _ _ _ _ (fun _ _ hp hc => off_put (g := g) hgr hp hc) HI.out
    obtain ⟨ad5, E5, ce5, rfl, _, ⟨z0, z1, z2, z3, z4⟩, _⟩ := its_at hIr hx
    clear hIr
    obtain ⟨w5, hw5, y0, y1, y2, y3, y4, hs5, hB5, _⟩ := box_five wr (.int .u8 (x.1.1.toNat : Int)) (.int .u32 x.1.2.1) (.int .u32 x.1.2.2) (.int .i64 x.2.1) (.slice E5 x.2.2.length ce5) 39
    have hown5 := own_below hown hB5
    have hgr5 := Lib.hid (grow_later hgr (hB5.mono hgr.size))
    have GF5 := Lib.hid (grow_trans GB.out hgr5.out)
    replace hs5 := Lib.hid hs5
    have i4 : (0 : Int) ≤ (i : Int) := by omega
    have i5 : (i : Int) < (m : Int) := by omega
    obtain ⟨z, hzz⟩ : ∃ z, x.2.1 = z := ⟨_, rfl⟩
    have hc1 : ∀ T, ctE T (x :: l.drop (i + 1)) = if z = 0 then ctE T (l.drop (i + 1)) else if T[z.toNat]?.getD 0 = 0 then 6 else if T[z.toNat]?.getD 0 = 255 then 70 else ctE (T.set z.toNat (T[z.toNat]?.getD 0 + 1)) (l.drop (i + 1)) := fun T => by rw [← hzz]; rfl
    have hc2 : ∀ T, ctE T [x] = if z = 0 then 0 else if T[z.toNat]?.getD 0 = 0 then 6 else if T[z.toNat]?.getD 0 = 255 then 70 else 0 := fun T => by rw [← hzz]; rfl
    have hc3 : ∀ T, ctV T [x] = if z = 0 then T else T.set z.toNat (T[z.toNat]?.getD 0 + 1) := fun T => by rw [← hzz]; rfl
    rw [hzz] at z3 hxr hw5 y3
    replace hx := Lib.hid hx
    replace hzz := Lib.hid hzz
    obtain ⟨T, hT⟩ : ∃ T, ctV t0 (l.take i) = T := ⟨_, rfl⟩
    have hTl : Hid (T.length = 256) := Lib.hid (by rw [← hT, ctV_len, hl0.out])
    rw [hT] at hown5 hsp hnx
    replace hT := Lib.hid hT
    replace hE := Lib.hid hE
    clear hown hgr hB5
    go_upto_region 4 with fail
    clear hw5 z0 z1 z2 z3 z4
    by_cases hz0 : z = 0
    · have hn1 : Hid (ctE t0 (l.take (i + 1)) = 0 ∧ ctV t0 (l.take (i + 1)) = T) := Lib.hid ⟨by rw [hnx.out.1, hc2, if_pos hz0], by rw [hnx.out.2, hc3, if_pos hz0]⟩
      subst hz0
      have HO := Lib.hid hown5
      clear hc1 hc2 hc3 hxr hown5 hE hsp hnx
      go_wp2_with fail
      go_roundw
      case rel => exact ⟨i + 1, by omega, by go_num, hn1.out.1, by rw [hn1.out.2]; exact HO.out, hgr5.out⟩
      case measure => simp [intOf]; omega
    obtain ⟨r, hr, r8, r256⟩ : ∃ r : Nat, z = r ∧ 8 ≤ r ∧ r < 256 := ⟨z.toNat, by omega, by omega, by omega⟩
    rw [hc1, if_neg hz0, show z.toNat = r by omega] at hsp
    rw [hc2, hc3, if_neg hz0, if_neg hz0, show z.toNat = r by omega] at hnx
    have j3 : (z == 0) = false := by simpa using hz0
    subst hr
    have hcell := own_cell hown5 (j := r) r256
    obtain ⟨y, hy⟩ : ∃ y, T[r]?.getD 0 = y := ⟨_, rfl⟩
    rw [hy] at hsp hnx hcell
    replace hy := Lib.hid hy
    by_cases hy0 : y = 0
    · have t1 := byte_same (y := 0) (q := 0) rfl hy0
      have hEl : Hid (ctE t0 l = 6) := Lib.hid (by rw [hsp.out, if_pos hy0])
      clear hc1 hc2 hc3 hxr hown5 hE hsp hnx hz0
      go_wp2_with fail
      go_ret
      exact ⟨ret_int hEl.out.symm, GF5.out, fun h => by rw [hEl.out] at h; cases h⟩
    have t1 := byte_unlike (y := 0) (q := 0) rfl hy0
    by_cases hy5 : y = 255
    · have t2 := byte_same (y := 255) (q := 255) rfl hy5
      have hEl : Hid (ctE t0 l = 70) := Lib.hid (by rw [hsp.out, if_neg hy0, if_pos hy5])
      clear hc1 hc2 hc3 hxr hown5 hE hsp hnx hz0
      go_wp2_with fail
      go_ret
      exact ⟨ret_int hEl.out.symm, GF5.out, fun h => by rw [hEl.out] at h; cases h⟩
    have t2 := byte_unlike (y := 255) (q := 255) rfl hy5
    have hfr : w5.frozen? ⟨g, r, none⟩ = false := hown5.frozenAt r
    obtain ⟨hu1, hu2, hu3⟩ := up_byte hy5
    have hset := own_set hown5 r (y + 1)
    have hn1 : Hid (ctE t0 (l.take (i + 1)) = 0 ∧ ctV t0 (l.take (i + 1)) = T.set r (y + 1)) := Lib.hid ⟨by rw [hnx.out.1, if_neg hy0, if_neg hy5], hnx.out.2⟩
    rw [← hu1] at hset
    replace hset := Lib.hid hset
    replace hu1 := Lib.hid hu1
    have hgn := Lib.hid (grow_put hgr5.out (p := ⟨g, r, none⟩) rfl (.int .u8 ((y.toNat : Int) + 1)))
    clear hc1 hc2 hc3 hxr hown5 hE hsp hnx hz0
    go_wp2_with fail
    go_roundw
    case rel => exact ⟨i + 1, by omega, by go_num, hn1.out.1, by rw [hn1.out.2]; exact hset.out, hgn.out⟩
    case measure => simp [intOf]; omega
end Go.Proofs.Ytncnoingbaeomaa

/-
  Package drop: Make. Conditions: those that each lemma states.
-/
namespace Go.Proofs.Ytncnoingbaeomaa
open Go.RowKit

theorem mkE_store {s : Rm} {n : Nd} (h : mayR s = false) : mkE s n = 8 := by rw [mkE, h]; rfl
theorem mkE_node {s : Rm} {n : Nd} (h : mayN n = false) : mkE s n = 8 := by rw [mkE, h]; simp

set_option maxRecDepth 100000 in
set_option maxHeartbeats 8000000 in
theorem makeV_any (v u : Value) (s : Rm) (n : Nd) (w : World) (h : Sto (Old w) w v s) (hu : Nod (Old w) w u n) :
    Calls Try.prog 24 #[v, u] w fun e w' => ∃ t, e = .returned (.tuple #[t, .int .i64 (mkN s n), .int .i64 (mkE s n)]) ∧ Sto (New w.heap.size w') w' t (mkV s n) ∧ Below w.heap.size w w' := by
  obtain ⟨A, ca, B, cb, N, cn, L, cl, rfl, _⟩ := id h.open
  obtain ⟨I, ci, rfl, _⟩ := id hu.open
  obtain ⟨w1, hw1, f1, fn, f2, hsz, hB⟩ := box_three3 (w := w) (.slice A s.1.1.length ca) (.slice B s.1.2.length cb) (.slice N s.2.1.length cn) (.slice L s.2.2.length cl) (.int .i64 n.1) (.slice I n.2.length ci)
  have H := Lib.hid (h.below hB)
  have U := Lib.hid (hu.below hB)
  clear h hu
  obtain ⟨k0, k1, k2, k3, _, kg⟩ := four_cells f1
  obtain ⟨p0, p1, _, pg⟩ := two_cells fn
  replace hsz := Lib.hid hsz
  replace f2 := Lib.hid f2
  cases hm : mayR s with
  | false =>
    have hE := mkE_store (n := n) hm
    obtain ⟨hN, hV⟩ := mk_no (s := s) (n := n) (by rw [hE]; decide)
    have e1 := chkR_bad hm
    replace hE := Lib.hid hE
    replace hN := Lib.hid hN
    replace hV := Lib.hid hV
    go_enter Try.func24, Try.ntmps24
    go_upto_region 1 with fail
    clear hw1
    go_wp2_with fail
    with_reducible refine (checkR_any _ s _ H.out).mono ?_
    rintro e w2 ⟨rfl, hb2⟩
    rw [e1]
    have F2 := (hb2.block (w.heap.size + 2) (by rw [hsz.out]; omega)).trans f2.out
    replace hb2 := Lib.hid (hB.trans (hb2.mono hB.size))
    clear k0 k1 k2 k3 kg p0 p1 pg f1 fn hB e1 hm
    obtain ⟨k0, k1, k2, k3, k4, k5⟩ := four_cells F2
    obtain ⟨W9, hW9, g9, gr9, gs9⟩ := put_four (a' := .slice none 0 0) (b' := .slice none 0 0) (c' := .slice none 0 0) (d' := .slice none 0 0) F2
    obtain ⟨n0, n1, n2, n3, _, _⟩ := four_cells g9
    have hB9 := Lib.hid ((hb2).out.grown gr9 (hb2).out.size (fun q e => by cases e; omega))
    replace g9 := Lib.hid g9
    replace F2 := Lib.hid F2
    clear gr9 gs9
    go_wp2_with fail
    refine bodyPost_ret (v := .tuple #[.agg #[.slice none 0 0, .slice none 0 0, .slice none 0 0, .slice none 0 0], .int .i64 0, .int .i64 8]) (by simp [results, Try.results24, go_sem, n0, n1, n2, n3]) rfl ?_
    rw [hE.out, hN.out, hV.out]
    exact ⟨_, rfl, sto_empty _ _, hB9.out⟩
  | true =>
  have e1 := chkR_ok hm
  obtain ⟨b, hb⟩ : ∃ b, wrN n = b := ⟨_, rfl⟩
  obtain ⟨q, hq⟩ : ∃ q, chkN n = q := ⟨_, rfl⟩
  replace hb := Lib.hid hb
  replace hq := Lib.hid hq
  have hlen := Lib.hid (mayT_len (mayR_of hm).2.1)
  go_enter Try.func24, Try.ntmps24
  go_upto_region 1 with fail
  clear hw1
  go_wp2_with fail
  with_reducible refine (checkR_any _ s _ H.out).mono ?_
  rintro e w2 ⟨rfl, hb2⟩
  rw [e1]
  have F1 := (hb2.block w.heap.size kg).trans f1
  have Fn := (hb2.block (w.heap.size + 1) pg).trans fn
  have F2 := (hb2.block (w.heap.size + 2) (by rw [hsz.out]; omega)).trans f2.out
  have H2 := H.out.below hb2
  have U2 := U.out.below hb2
  have s2 : Hid (w.heap.size + 3 ≤ w2.heap.size) := Lib.hid (by have := hb2.size; have := hsz.out; omega)
  have B2 := Lib.hid (hB.trans (hb2.mono hB.size))
  clear k0 k1 k2 k3 kg p0 p1 pg f1 fn hb2 hB f2 e1 H U
  obtain ⟨k0, k1, k2, k3, _, kg⟩ := four_cells F1
  obtain ⟨p0, p1, _, pg⟩ := two_cells Fn
  replace F2 := Lib.hid F2
  replace H2 := Lib.hid H2
  replace U2 := Lib.hid U2
  go_wp2_with fail
  with_reducible refine (nodeWrite_any _ n _ U2.out).mono ?_
  rintro e w3 ⟨u3, rfl, h3, hb3⟩
  rw [hq.out]
  rw [hb.out] at h3
  obtain ⟨E, ce, rfl, _⟩ := id (rBy_open h3)
  have G1 := (hb3.block w.heap.size kg).trans F1
  have Gn := (hb3.block (w.heap.size + 1) pg).trans Fn
  have G2 := (hb3.block (w.heap.size + 2) (by have := s2.out; omega)).trans F2.out
  have H3 := H2.out.below hb3
  have U3 := U2.out.below hb3
  have s3 : Hid (w.heap.size + 3 ≤ w3.heap.size) := Lib.hid (by have := hb3.size; have := s2.out; omega)
  have B3 := Lib.hid (B2.out.trans (hb3.mono B2.out.size))
  have R3 := Lib.hid (stab_by.drop h3)
  clear k0 k1 k2 k3 kg p0 p1 pg F1 Fn hb3 F2 H2 U2 B2 h3 s2
  cases hn : mayN n with
  | false =>
    have hE := mkE_node (s := s) hn
    obtain ⟨hN, hV⟩ := mk_no (s := s) (n := n) (by rw [hE]; decide)
    have hq8 : q = 8 := by rw [← hq.out, chkN, hn]; rfl
    subst hq8
    replace hE := Lib.hid hE
    replace hN := Lib.hid hN
    replace hV := Lib.hid hV
    clear H3 U3 G1 Gn hn hm
    obtain ⟨k0, k1, k2, k3, k4, k5⟩ := four_cells G2
    obtain ⟨W9, hW9, g9, gr9, gs9⟩ := put_four (a' := .slice none 0 0) (b' := .slice none 0 0) (c' := .slice none 0 0) (d' := .slice none 0 0) G2
    obtain ⟨n0, n1, n2, n3, _, _⟩ := four_cells g9
    have hB9 := Lib.hid ((B3).out.grown gr9 (B3).out.size (fun q e => by cases e; omega))
    replace g9 := Lib.hid g9
    replace G2 := Lib.hid G2
    clear gr9 gs9
    go_wp2_with fail
    refine bodyPost_ret (v := .tuple #[.agg #[.slice none 0 0, .slice none 0 0, .slice none 0 0, .slice none 0 0], .int .i64 0, .int .i64 8]) (by simp [results, Try.results24, go_sem, n0, n1, n2, n3]) rfl ?_
    rw [hE.out, hN.out, hV.out]
    exact ⟨_, rfl, sto_empty _ _, hB9.out⟩
  | true =>
  have hq0 : q = 0 := by rw [← hq.out, chkN, hn]; rfl
  subst hq0
  have hbk : Hid (blkN n = b) := Lib.hid (by rw [← hb.out, wrN, hn]; rfl)
  have hways := Lib.hid (mk_ways hm hn)
  obtain ⟨k0, k1, k2, k3, _, kg⟩ := four_cells G1
  obtain ⟨p0, p1, _, pg⟩ := two_cells Gn
  replace G2 := Lib.hid G2
  replace H3 := Lib.hid H3
  replace U3 := Lib.hid U3
  go_wp2_with fail
  obtain ⟨_, _, e9, l1, m1, hby⟩ := rBy_byt (B := w3.heap.size) (fun _ h => h) H3.out.parts.2.1
  cases e9
  with_reducible refine (clone_any N s.2.1.length cn s.2.1 (Lib.hid rfl) (by rw [hlen.out]; omega) _ hby).mono ?_
  rintro e w4 ⟨u4, rfl, hu4, hb4⟩
  obtain ⟨g, c2, rfl, hg1, hg2, hg3, hg4⟩ := own_head hu4 (by rw [hlen.out]; omega)
  rw [hlen.out] at hu4 ⊢
  have F1 := (hb4.block w.heap.size kg).trans G1
  have Fn := (hb4.block (w.heap.size + 1) pg).trans Gn
  have F2 := Lib.hid ((hb4.block (w.heap.size + 2) (by have := s3.out; omega)).trans G2.out)
  have H4 := Lib.hid (show Sto (Off g w4) w4 _ s from H3.out.map fun _ _ hp hc => off_low hb4 hg1 hp hc)
  have U4 := Lib.hid (show Nod (Off g w4) w4 _ n from U3.out.map fun _ _ hp hc => off_low hb4 hg1 hp hc)
  have R4 := Lib.hid (show rBy (Off g w4) w4 _ b from stab_by _ _ _ _ _ _ (fun _ _ hp hc => off_low hb4 hg1 hp hc) R3.out)
  have O4 := Lib.hid hu4
  have B4 := Lib.hid (B3.out.trans (hb4.mono B3.out.size))
  have hgw : Hid (w.heap.size + 3 ≤ g) := Lib.hid (by have := s3.out; omega)
  clear k0 k1 k2 k3 kg p0 p1 pg G1 Gn G2 hb4 H3 U3 R3 B3 hby l1 m1 hu4 hg1 s3
  obtain ⟨k0, k1, k2, k3, _, kg⟩ := four_cells F1
  obtain ⟨p0, p1, _, pg⟩ := two_cells Fn
  obtain ⟨r, hr⟩ : ∃ r, ctE s.2.1 n.2 = r := ⟨_, rfl⟩
  go_wp2_with fail
  with_reducible refine (refer_any g c2 w3.heap.size s.2.1 _ n hn hlen.out _ O4.out U4.out).mono ?_
  rintro e w5 ⟨rfl, hgr, hown⟩
  rw [hr] at hown ⊢
  have E1 := (hgr.block w.heap.size kg (by have := hgw.out; simp; omega)).trans F1
  have E3 := (hgr.block (w.heap.size + 2) (by have := F2.out; exact (Array.getElem?_eq_some_iff.1 this).1) (by have := hgw.out; simp; omega)).trans F2.out
  have B5 := Lib.hid (B4.out.grown hgr B4.out.size (fun q e => by cases e; have := hgw.out; omega))
  have H5 := Lib.hid (show Sto (Old w5) w5 _ s from (H4.out.map fun _ _ hp hc => off_put hgr hp hc).map fun _ _ hp hc => off_old hp hc)
  have R5 := Lib.hid (show rBy (Old w5) w5 _ b from stab_by _ _ _ _ _ _ (fun _ _ hp hc => off_old hp hc) (stab_by _ _ _ _ _ _ (fun _ _ hp hc => off_put hgr hp hc) R4.out))
  clear k0 k1 k2 k3 kg p0 p1 pg F1 Fn F2 B4 H4 U4 R4 O4 hgr
  rcases hways.out with ⟨hc, hE, hN, hV⟩ | ⟨hc, hE, hN, hV⟩
  · rw [hr] at hc hE
    have hr1 : (r != 0) = true := by simpa using hc
    replace hE := Lib.hid hE
    replace hN := Lib.hid hN
    replace hV := Lib.hid hV
    replace hr := Lib.hid hr
    clear E1 hown hc hm hn hways
    obtain ⟨k0, k1, k2, k3, k4, k5⟩ := four_cells E3
    obtain ⟨W9, hW9, g9, gr9, gs9⟩ := put_four (a' := .slice none 0 0) (b' := .slice none 0 0) (c' := .slice none 0 0) (d' := .slice none 0 0) E3
    obtain ⟨n0, n1, n2, n3, _, _⟩ := four_cells g9
    have hB9 := Lib.hid ((B5).out.grown gr9 (B5).out.size (fun q e => by cases e; omega))
    replace g9 := Lib.hid g9
    replace E3 := Lib.hid E3
    clear gr9 gs9
    go_wp2_with fail
    refine bodyPost_ret (v := .tuple #[.agg #[.slice none 0 0, .slice none 0 0, .slice none 0 0, .slice none 0 0], .int .i64 0, .int .i64 r]) (by simp [results, Try.results24, go_sem, n0, n1, n2, n3]) rfl ?_
    rw [hE.out, hN.out, hV.out]
    exact ⟨_, rfl, sto_empty _ _, hB9.out⟩
  · rw [hr] at hc
    subst hc
    rw [hbk.out] at hE hN hV
    have hctl : (ctV s.2.1 n.2).length = 256 := by rw [ctV_len, hlen.out]
    have T5 : Hid (Sto (Old w5) w5 (.agg #[.slice A s.1.1.length ca, .slice B s.1.2.length cb, .slice (some ⟨g, 0, none⟩) 256 c2, .slice L s.2.2.length cl]) (ctS s n)) := Lib.hid (Sto.mk H5.out.parts.1 (stab_by.drop (own_by (hown rfl))) H5.out.parts.2.2)
    obtain ⟨S, hS⟩ : ∃ S, ctS s n = S := ⟨_, rfl⟩
    rw [hS] at T5 hE hN hV
    obtain ⟨V, hVV⟩ : ∃ V, tkV S b = V := ⟨_, rfl⟩
    obtain ⟨x, hx⟩ : ∃ x, tkN S b = x := ⟨_, rfl⟩
    obtain ⟨y, hy⟩ : ∃ y, tkE S b = y := ⟨_, rfl⟩
    rw [hVV] at hV
    rw [hx] at hN
    rw [hy] at hE
    replace hE := Lib.hid hE
    replace hN := Lib.hid hN
    replace hV := Lib.hid hV
    replace hr := Lib.hid hr
    replace hS := Lib.hid hS
    replace hVV := Lib.hid hVV
    replace hx := Lib.hid hx
    replace hy := Lib.hid hy
    obtain ⟨k0, k1, k2, k3, _, kg⟩ := four_cells E1
    replace E3 := Lib.hid E3
    clear hown hm hn hways hctl
    go_wp2_with fail
    with_reducible refine (takeR_any _ _ S b _ T5.out R5.out).mono ?_
    rintro e w6 ⟨t6, rfl, h6, hb6⟩
    rw [hx.out, hy.out]
    rw [hVV.out] at h6
    obtain ⟨A6, a6, B6, b6, N6, n6, L6, l6, rfl, _⟩ := id h6.open
    have F6 := (hb6.block (w.heap.size + 2) (by exact (Array.getElem?_eq_some_iff.1 E3.out).1)).trans E3.out
    have s6 : Hid (w.heap.size + 2 < w5.heap.size) := Lib.hid (Array.getElem?_eq_some_iff.1 E3.out).1
    obtain ⟨o0, o1, o2, o3, _, _⟩ := four_cells F6
    obtain ⟨W9, hW9, g9, gr9, gs9⟩ := put_four (a' := .slice A6 V.1.1.length a6) (b' := .slice B6 V.1.2.length b6) (c' := .slice N6 V.2.1.length n6) (d' := .slice L6 V.2.2.length l6) F6
    obtain ⟨n0, n1, n2, n3, _, _⟩ := four_cells g9
    have hfin := Lib.hid (show Sto (New w.heap.size W9) W9 _ V from (h6.grown gr9 (fun q e => by cases e; exact s6.out)).new B5.out.size (Below.refl _ _))
    have hB9 := Lib.hid ((B5.out.trans (hb6.mono B5.out.size)).grown gr9 (Nat.le_trans B5.out.size hb6.size) (fun q e => by cases e; omega))
    replace F6 := Lib.hid F6
    replace g9 := Lib.hid g9
    clear gr9 gs9 h6 hb6 k0 k1 k2 k3 kg E1
    go_wp2_with fail
    refine bodyPost_ret (v := .tuple #[.agg #[.slice A6 V.1.1.length a6, .slice B6 V.1.2.length b6, .slice N6 V.2.1.length n6, .slice L6 V.2.2.length l6], .int .i64 x, .int .i64 y]) (by simp [results, Try.results24, go_sem, n0, n1, n2, n3]) rfl ?_
    rw [hE.out, hN.out, hV.out]
    exact ⟨_, rfl, hfin.out, hB9.out⟩
end Go.Proofs.Ytncnoingbaeomaa

/-
  Layer 9: the contracts as laws want them; the laws' alive. Conditions: those that each lemma states.
-/
namespace Go.Proofs.Ytncnoingbaeomaa
open Go.RowKit

theorem makeV_open (v u : Value) (s : Rm) (n : Nd) (w : World) (h : Sto (Old w) w v s) (hu : Nod (Old w) w u n) :
    Calls Try.prog 24 #[v, u] w fun e W' => ∃ A ca B cb N cn L cl, e = .returned (.tuple #[.agg #[.slice A (mkV s n).1.1.length ca, .slice B (mkV s n).1.2.length cb, .slice N (mkV s n).2.1.length cn, .slice L (mkV s n).2.2.length cl], .int .i64 (mkN s n), .int .i64 (mkE s n)]) ∧
      Sto (New w.heap.size W') W' (.agg #[.slice A (mkV s n).1.1.length ca, .slice B (mkV s n).1.2.length cb, .slice N (mkV s n).2.1.length cn, .slice L (mkV s n).2.2.length cl]) (mkV s n) ∧ Below w.heap.size w W' := by
  refine (makeV_any v u s n w h hu).mono ?_
  rintro e W' ⟨t, rfl, ht, hb⟩
  obtain ⟨A, ca, B, cb, N, cn, L, cl, rfl, _⟩ := id ht.open
  exact ⟨A, ca, B, cb, N, cn, L, cl, rfl, ht, hb⟩
end Go.Proofs.Ytncnoingbaeomaa

/-
  The laws of layer 10: key, made, alive. Conditions: those that each lemma states.
-/
namespace Go.Proofs.Ytncnoingbaeomaa
open Go.RowKit

set_option maxRecDepth 100000 in
theorem keyF_any (x : Int) (w : World) : Calls Try.prog 12 #[.int .u32 x] w fun e w' => e = .returned (.agg #[.int .u8 2, .int .u32 0, .int .u32 x]) ∧ Below w.heap.size w w' := by
  obtain ⟨w1, hw1, f1, f2, f3, hs1, hB1, _⟩ := box_three w (.int .u8 2) (.int .u32 0) (.int .u32 x) 37
  go_enter Try.func12, Try.ntmps12
  go_wp2_with fail
  exact bodyPost_ret (v := .agg #[.int .u8 2, .int .u32 0, .int .u32 x]) (by simp [results, Try.results12, go_sem, f1, f2, f3]) rfl ⟨rfl, hB1⟩

theorem low_lies {w : World} {g h : Nat} (hz : w.heap[h]? = some (.cells #[.int .u8 2, .int .u32 0, .int .u32 2, .int .i64 0, .slice none 0 0, .int .u8 2, .int .u32 0, .int .u32 4, .int .i64 0, .slice (some ⟨g, 0, none⟩) 1 1] 39 (0, 0))) (hb : rBy (Old w) w [.slice (some ⟨g, 0, none⟩) 1 1] [7]) :
    Nod (Old w) w (.agg #[.int .i64 0, .slice (some ⟨h, 0, none⟩) 2 2]) lowN := by
  have := its_lies (ps := [(it2, .slice none 0 0), (it4, .slice (some ⟨g, 0, none⟩) 1 1)]) hz rfl (by simp) (fun p hp => by
    simp only [List.mem_cons, List.not_mem_nil, or_false] at hp
    rcases hp with rfl | rfl
    · exact ⟨low_in.2 it2 (by simp [lowN]), ⟨none, 0, rfl, by simp [it2], by omega, fun i x h => by simp [it2] at h⟩⟩
    · exact ⟨low_in.2 it4 (by simp [lowN]), hb⟩)
  exact ⟨_, rfl, low_in.1, this⟩
theorem top_lies {w : World} {h : Nat} {x : Int} (hx : 0 ≤ x ∧ x < 4294967296) (hz : w.heap[h]? = some (.cells #[.int .u8 2, .int .u32 0, .int .u32 x, .int .i64 8, .slice none 0 0] 39 (0, 0))) :
    Nod (Old w) w (.agg #[.int .i64 1, .slice (some ⟨h, 0, none⟩) 1 1]) (topN x) := by
  have := its_lies (ps := [((keyN x, 8, []), .slice none 0 0)]) hz rfl (by simp) (fun p hp => by
    simp only [List.mem_cons, List.not_mem_nil, or_false] at hp
    subst hp
    exact ⟨(top_in hx).2 _ (by simp [topN]), ⟨none, 0, rfl, by simp, by omega, fun i x h => by simp at h⟩⟩)
  exact ⟨_, rfl, (top_in hx).1, this⟩

set_option maxRecDepth 100000 in
set_option maxHeartbeats 8000000 in
theorem made_any (x : Int) (hx : 0 ≤ x ∧ x < 4294967296) (w : World) :
    Calls Try.prog 9 #[.int .u32 x] w fun e w' => ∃ A ca B cb N cn L cl, e = .returned (.tuple #[.agg #[.slice A (tr2 x).1.1.length ca, .slice B (tr2 x).1.2.length cb, .slice N (tr2 x).2.1.length cn, .slice L (tr2 x).2.2.length cl], .bool true]) ∧
      Sto (Old w') w' (.agg #[.slice A (tr2 x).1.1.length ca, .slice B (tr2 x).1.2.length cb, .slice N (tr2 x).2.1.length cn, .slice L (tr2 x).2.2.length cl]) (tr2 x) ∧ Below w.heap.size w w' := by
  obtain ⟨hE1, hN1, _⟩ := low_made
  obtain ⟨hE2, hN2, hm2, _⟩ := top_made hx
  obtain ⟨T, hT⟩ : ∃ T, tr1 = T := ⟨_, rfl⟩
  obtain ⟨V, hV⟩ : ∃ V, tr2 x = V := ⟨_, rfl⟩
  have hT1 : Hid (mkV newR lowN = T) := Lib.hid hT
  have hV1 : Hid (mkV T (topN x) = V) := Lib.hid (by rw [← hT]; exact hV)
  rw [hT] at hE2 hN2
  rw [hV] at hm2 ⊢
  have hfull := Lib.hid (full_rm hm2)
  replace hE1 := Lib.hid hE1
  replace hN1 := Lib.hid hN1
  replace hE2 := Lib.hid hE2
  replace hN2 := Lib.hid hN2
  replace hT := Lib.hid hT
  replace hV := Lib.hid hV
  clear hm2
  obtain ⟨w1, hw1, f1, hsz, hB⟩ := box_4 w (.slice none 0 0) (.slice none 0 0) (.slice none 0 0) (.slice none 0 0) 29
  have B1 := Lib.hid hB
  have F1 := Lib.hid f1
  replace hsz := Lib.hid hsz
  clear hB f1
  go_enter Try.func9, Try.ntmps9
  go_upto_region 1 with fail
  clear hw1
  go_wp2_with fail
  with_reducible refine (newR_any _).mono ?_
  rintro e w2 ⟨t, rfl, ht, hb2⟩
  have T2 := Lib.hid ht.drop
  have B2 := Lib.hid (B1.out.trans (hb2.mono B1.out.size))
  have s2 := Lib.hid hb2
  clear ht hb2
  go_wp2_with fail
  with_reducible refine (keyF_any 2 _).mono ?_
  rintro e w3 ⟨rfl, hb3⟩
  have T3 := Lib.hid (T2.out.below hb3)
  have B3 := Lib.hid (B2.out.trans (hb3.mono B2.out.size))
  have s3 := Lib.hid (s2.out.trans (hb3.mono s2.out.size))
  clear hb3 B2 T2 s2
  go_wp2_with fail
  with_reducible refine (keyF_any 4 _).mono ?_
  rintro e w4 ⟨rfl, hb4⟩
  have T4 := Lib.hid (T3.out.below hb4)
  have B4 := Lib.hid (B3.out.trans (hb4.mono B3.out.size))
  have s4 := Lib.hid (s3.out.trans (hb4.mono s3.out.size))
  clear hb4 B3 T3 s3
  obtain ⟨wA, hwA, hby, hsA, hA1⟩ : ∃ wA, w4.alloc (.cells #[.int .u8 7] 5) = wA ∧ rBy (Old wA) wA [.slice (some ⟨w4.heap.size, 0, none⟩) 1 1] [7] ∧ wA.heap.size = w4.heap.size + 1 ∧ Below w4.heap.size w4 wA := ⟨_, rfl, byte_lit w4 5 7 7 rfl, by simp, (Below.refl _ _).alloc (Nat.le_refl _) _⟩
  obtain ⟨wB, hwB, hB0, hB1⟩ : ∃ wB, wA.alloc (.cells #[.int .u8 2, .int .u32 0, .int .u32 2, .int .i64 0, .slice none 0 0, .int .u8 2, .int .u32 0, .int .u32 4, .int .i64 0, .slice (some ⟨w4.heap.size, 0, none⟩) 1 1] 39) = wB ∧ wB.heap[wA.heap.size]? = some (.cells #[.int .u8 2, .int .u32 0, .int .u32 2, .int .i64 0, .slice none 0 0, .int .u8 2, .int .u32 0, .int .u32 4, .int .i64 0, .slice (some ⟨w4.heap.size, 0, none⟩) 1 1] 39 (0, 0)) ∧ Below wA.heap.size wA wB := ⟨_, rfl, heap_alloc_new _ _, (Below.refl _ _).alloc (Nat.le_refl _) _⟩
  have NB := low_lies hB0 (stab_by.old hby hB1)
  rw [hsA] at NB
  replace NB := Lib.hid NB
  have hAB := hA1.trans (hB1.mono hA1.size)
  have TB := Lib.hid (T4.out.below hAB)
  have BB := Lib.hid (B4.out.trans (hAB.mono B4.out.size))
  have sB := Lib.hid (s4.out.trans (hAB.mono s4.out.size))
  clear hB0 hB1 hby hA1 hAB B4 T4 s4
  go_wp2_with fail
  clear hwA hwB hsA
  with_reducible refine (makeV_open _ _ newR lowN _ TB.out NB.out).mono ?_
  rintro e w5 ⟨E, ea, G, eg, M, em, K, ek, rfl, h5, hb5⟩
  rw [hT1.out] at h5 ⊢
  rw [hN1.out, hE1.out]
  obtain ⟨w6, hw6, hg6, hB6, -, hs6⟩ := bag_four ((Bag.nil w5).add (F := OldR _ T) h5.drop (lasts_oldR _ _)) (Below.refl _ _) (.slice E T.1.1.length ea) (.slice G T.1.2.length eg) (.slice M T.2.1.length em) (.slice K T.2.2.length ek) 29
  have H6 := Lib.hid hg6
  have b56 := hb5.trans (hB6.mono hb5.size)
  have B6 := Lib.hid (BB.out.trans (b56.mono BB.out.size))
  have S6 := Lib.hid (sB.out.trans (b56.mono sB.out.size))
  replace hs6 := Lib.hid hs6
  clear hg6 hB6 hb5 h5 BB TB NB sB b56
  go_upto_region 2 with fail
  clear hw6
  have hMk : Hid (∀ u v W, Sto (Old W) W u T → Nod (Old W) W v (topN x) → Calls Try.prog 24 #[u, v] W fun e W' => ∃ A ca B cb N cn L cl, e = .returned (.tuple #[.agg #[.slice A V.1.1.length ca, .slice B V.1.2.length cb, .slice N V.2.1.length cn, .slice L V.2.2.length cl], .int .i64 9, .int .i64 0]) ∧ Sto (New W.heap.size W') W' (.agg #[.slice A V.1.1.length ca, .slice B V.1.2.length cb, .slice N V.2.1.length cn, .slice L V.2.2.length cl]) V ∧ Below W.heap.size W W') := Lib.hid fun u v W h1 h2 => by
    have := makeV_open u v T (topN x) W h1 h2
    rw [hV1.out, hN2.out, hE2.out] at this
    exact this
  refine wp_region_late (ops' := ?opsLate) (by kernel_rfl) [(13, 10), (13, 11), (14, 11)] ?he (by kernel_rfl) (fun d _ _ _ _ h => by cases d <;> exact h) 13 (fun W => Below w6.heap.size w6 W) (fun i => match i with
      | 5 => some (fun v W => ∃ h, v = .slice (some ⟨h, 0, none⟩) 1 1 ∧ W.heap[h]? = some (.cells #[.int .u8 2, .int .u32 0, .int .u32 x, .int .i64 8, .slice none 0 0] 39 (0, 0)))
      | 6 => some (fun v W => Nod (Old W) W v (topN x))
      | 7 => some (fun v W => ∃ A ca B cb N cn L cl, v = .tuple #[.agg #[.slice A V.1.1.length ca, .slice B V.1.2.length cb, .slice N V.2.1.length cn, .slice L V.2.2.length cl], .int .i64 9, .int .i64 0] ∧ Sto (Old W) W (.agg #[.slice A V.1.1.length ca, .slice B V.1.2.length cb, .slice N V.2.1.length cn, .slice L V.2.2.length cl]) V)
      | 8 => some (fun v W => ∃ A ca B cb N cn L cl, v = .tuple #[.agg #[.slice A V.1.1.length ca, .slice B V.1.2.length cb, .slice N V.2.1.length cn, .slice L V.2.2.length cl], .int .i64 9, .int .i64 0] ∧ Sto (Old W) W (.agg #[.slice A V.1.1.length ca, .slice B V.1.2.length cb, .slice N V.2.1.length cn, .slice L V.2.2.length cl]) V)
      | 9 => some (fun v W => ∃ A ca B cb N cn L cl, v = .agg #[.slice A V.1.1.length ca, .slice B V.1.2.length cb, .slice N V.2.1.length cn, .slice L V.2.2.length cl] ∧ Sto (Old W) W (.agg #[.slice A V.1.1.length ca, .slice B V.1.2.length cb, .slice N V.2.1.length cn, .slice L V.2.2.length cl]) V)
      | 12 => some (fun v W => ∃ g, v = .pointer (some ⟨g, 0, none⟩) ∧ w6.heap.size ≤ g ∧ W.heap[g]? = some (.cells #[.slice none 0 0, .slice none 0 0, .slice none 0 0, .slice none 0 0] 29 (0, 0)))
      | _ => none) (fun i => match i with
      | 2 => some (.agg #[.int .u8 2, .int .u32 0, .int .u32 x])
      | 10 => some (.int .i64 9)
      | 11 => some (.int .i64 0)
      | _ => none) ?h1 ?h2 ?h3 (Below.refl _ _).drew (fun w w' h hb => h.trans (hb.mono h.size)) ?tst ?_
  case he =>
    simp [withEdges]
    rfl
  case h1 => decide
  case h2 => kernel_rfl
  case h3 => kernel_rfl
  case tst =>
    intro j φ x W W' hp hx hb
    match j, hp with
    | 5, hp => cases hp; obtain ⟨g, e, h2⟩ := hx; exact ⟨g, e, (hb.block g (Array.getElem?_eq_some_iff.1 h2).1).trans h2⟩
    | 6, hp => cases hp; exact hx.below hb
    | 7, hp => cases hp; obtain ⟨A, ca, B, cb, N, cn, L, cl, e, h⟩ := hx; exact ⟨A, ca, B, cb, N, cn, L, cl, e, h.below hb⟩
    | 8, hp => cases hp; obtain ⟨A, ca, B, cb, N, cn, L, cl, e, h⟩ := hx; exact ⟨A, ca, B, cb, N, cn, L, cl, e, h.below hb⟩
    | 9, hp => cases hp; obtain ⟨A, ca, B, cb, N, cn, L, cl, e, h⟩ := hx; exact ⟨A, ca, B, cb, N, cn, L, cl, e, h.below hb⟩
    | 12, hp => cases hp; obtain ⟨g, e, h1, h2⟩ := hx; exact ⟨g, e, h1, (hb.block g (Array.getElem?_eq_some_iff.1 h2).1).trans h2⟩
  simp only [List.take_succ_cons, List.take_zero, List.drop_succ_cons, List.drop_zero]
  repeat (first
    | (refine wpAs_skip rfl ?_; simp only [Act.put, List.setIfInBounds_toArray, List.set_cons_zero, List.set_cons_succ])
    | (refine wpAs_pure (v := ?_) rfl rfl ?_ ?_; rotate_left; (intro W hC hE; clear hE; (obtain ⟨j0, j1, j2, j3, jg⟩ := (H6.out.below hC).at 0 rfl); clear hC; go_simp; done); simp only [Act.put, List.setIfInBounds_toArray, List.set_cons_zero, List.set_cons_succ])
    | (refine wpAs_pure (v := ?_) rfl rfl ?_ ?_; rotate_left; (intro W hC hE; clear hE; (obtain ⟨j0, j1, j2, j3, jg⟩ := (H6.out.below hC).at 0 rfl); clear hC; go_simp; with_reducible rfl); simp only [Act.put, List.setIfInBounds_toArray, List.set_cons_zero, List.set_cons_succ]))
  refine wpAs_fixed rfl rfl rfl ?_ ?_
  · intro W hC hE
    refine does_enter (f := 12) (args := #[.int .u32 x]) ?_ ?_
    · go_simp
    · refine (keyF_any x W).mono ?_
      (rintro e W' ⟨rfl, hg⟩)
      exact ⟨_, rfl, rfl, hg⟩
  simp only [Act.put, List.setIfInBounds_toArray, List.set_cons_zero, List.set_cons_succ]
  repeat (first
    | (refine wpAs_skip rfl ?_; simp only [Act.put, List.setIfInBounds_toArray, List.set_cons_zero, List.set_cons_succ])
    | (refine wpAs_pure (v := ?_) rfl rfl ?_ ?_; rotate_left; (intro W hC hE; clear hE; skip; clear hC; go_simp; done); simp only [Act.put, List.setIfInBounds_toArray, List.set_cons_zero, List.set_cons_succ])
    | (refine wpAs_pure (v := ?_) rfl rfl ?_ ?_; rotate_left; (intro W hC hE; clear hE; skip; clear hC; go_simp; with_reducible rfl); simp only [Act.put, List.setIfInBounds_toArray, List.set_cons_zero, List.set_cons_succ]))
  refine wpAs_act rfl rfl ?_ ?_
  · intro W hC hE
    clear hE hC
    have hn := heap_alloc_new W (.cells #[.int .u8 2, .int .u32 0, .int .u32 x, .int .i64 8, .slice none 0 0] 39)
    have hb := (Below.refl W.heap.size W).alloc (Nat.le_refl _) (.cells #[.int .u8 2, .int .u32 0, .int .u32 x, .int .i64 8, .slice none 0 0] 39)
    replace hn := Lib.hid hn
    replace hb := Lib.hid hb
    go_simp
    exact ⟨⟨_, rfl, hn.out⟩, hb.out⟩
  simp only [Act.put, List.setIfInBounds_toArray, List.set_cons_zero, List.set_cons_succ, envAdd]
  intro x5
  refine wpAs_act rfl rfl ?_ ?_
  · intro W hC hE
    obtain ⟨h, rfl, h5⟩ := hE.1 rfl
    have h5' := Lib.hid (top_lies hx h5)
    clear hE hC h5
    go_simp
    exact ⟨h5'.out, Below.refl _ _⟩
  simp only [Act.put, List.setIfInBounds_toArray, List.set_cons_zero, List.set_cons_succ, envAdd]
  intro x6
  refine wpAs_act rfl rfl ?_ ?_
  · intro W hC hE
    have h6 := hE.1 rfl
    clear hE
    refine does_enter (f := 24) (args := #[.agg #[.slice E T.1.1.length ea, .slice G T.1.2.length eg, .slice M T.2.1.length em, .slice K T.2.2.length ek], x6]) ?_ ?_
    · go_simp
    · refine (hMk.out _ x6 W ((H6.out.below hC).at 1 rfl) h6).mono ?_
      rintro e W' ⟨A, ca, B, cb, N, cn, L, cl, rfl, hz, hb⟩
      exact ⟨_, rfl, ⟨A, ca, B, cb, N, cn, L, cl, rfl, hz.drop⟩, hb⟩
  simp only [Act.put, List.setIfInBounds_toArray, List.set_cons_zero, List.set_cons_succ, envAdd]
  intro x7
  refine wpAs_act rfl rfl ?_ ?_
  · intro W hC hE
    have h7 := hE.1 rfl
    clear hE hC
    go_simp
    exact ⟨h7, Below.refl _ _⟩
  simp only [Act.put, List.setIfInBounds_toArray, List.set_cons_zero, List.set_cons_succ, envAdd]
  intro x8
  refine wpAs_act rfl rfl ?_ ?_
  · intro W hC hE
    obtain ⟨A, ca, B, cb, N, cn, L, cl, rfl, hz⟩ := hE.1 rfl
    have hz' := Lib.hid hz
    clear hE hz hC
    go_simp
    exact ⟨⟨A, ca, B, cb, N, cn, L, cl, rfl, hz'.out⟩, Below.refl _ _⟩
  simp only [Act.put, List.setIfInBounds_toArray, List.set_cons_zero, List.set_cons_succ, envAdd]
  intro x9
  refine wpAs_fixed rfl rfl rfl ?_ ?_
  · intro W hC hE
    obtain ⟨A, ca, B, cb, N, cn, L, cl, rfl, hz⟩ := hE.2.1 rfl
    clear hE hz hC
    go_simp
    exact ⟨rfl, Below.refl _ _⟩
  simp only [Act.put, List.setIfInBounds_toArray, List.set_cons_zero, List.set_cons_succ]
  refine wpAs_fixed rfl rfl rfl ?_ ?_
  · intro W hC hE
    obtain ⟨A, ca, B, cb, N, cn, L, cl, rfl, hz⟩ := hE.2.1 rfl
    clear hE hz hC
    go_simp
    exact ⟨rfl, Below.refl _ _⟩
  simp only [Act.put, List.setIfInBounds_toArray, List.set_cons_zero, List.set_cons_succ]
  refine wpAs_act rfl rfl ?_ ?_
  · intro W hC hE
    have hs := hC.size
    clear hE hC
    go_simp
    exact ⟨⟨W.heap.size, rfl, hs, heap_alloc_new _ _⟩, (Below.refl _ _).alloc (Nat.le_refl _) _⟩
  simp only [Act.put, List.setIfInBounds_toArray, List.set_cons_zero, List.set_cons_succ, envAdd]
  intro x12
  refine wpAs_end fun W hC hE => ?_
  obtain ⟨⟨g, rfl, hg, hz⟩, ⟨A, ca, B, cb, N, cn, L, cl, rfl, hs⟩, _⟩ := hE
  obtain ⟨c0, c1, c2, c3, c4, c5⟩ := four_cells hz
  obtain ⟨W9, hW9, g9, gr9, gs9⟩ := put_four (a' := .slice A V.1.1.length ca) (b' := .slice B V.1.2.length cb) (c' := .slice N V.2.1.length cn) (d' := .slice L V.2.2.length cl) hz
  have hs9 := Lib.hid (sto_put_zero hs hfull.out hz (by simp) gr9)
  have hb9 := hC.grown gr9 hC.size (fun q e => by cases e; exact hg)
  have B9 := Lib.hid (B6.out.trans (hb9.mono B6.out.size))
  have F9 := Lib.hid ((((S6.out.trans (hb9.mono S6.out.size)).block w.heap.size (by rw [hsz.out]; omega)).trans F1.out))
  have g9h := Lib.hid g9
  replace hz := Lib.hid hz
  replace g9 := Lib.hid g9
  clear hs hC gr9 gs9 hb9 B6
  go_upto_region 3 with fail
  clear hW9 c0 c1 c2 c3 c4 c5
  obtain ⟨w11, rfl⟩ : ∃ w11 : World, w11 = W9 := ⟨_, rfl⟩
  obtain ⟨n0, n1, n2, n3, _, n5⟩ := four_cells g9h.out
  obtain ⟨o0, o1, o2, o3, o4, _⟩ := four_cells F9.out
  obtain ⟨WR, hWR, gR, grR, gsR⟩ := put_four (a' := .slice A V.1.1.length ca) (b' := .slice B V.1.2.length cb) (c' := .slice N V.2.1.length cn) (d' := .slice L V.2.2.length cl) F9.out
  obtain ⟨p0, p1, p2, p3, _, _⟩ := four_cells gR
  have hsR := Lib.hid (sto_put_zero hs9.out hfull.out F9.out (by simp) grR)
  have BR := Lib.hid (B9.out.grown grR B9.out.size (fun q e => by cases e; omega))
  replace gR := Lib.hid gR
  clear grR gsR
  go_wp2_with fail
  refine bodyPost_ret (v := .tuple #[.agg #[.slice A V.1.1.length ca, .slice B V.1.2.length cb, .slice N V.2.1.length cn, .slice L V.2.2.length cl], .bool true]) (by simp [results, Try.results9, go_sem, p0, p1, p2, p3]) rfl ?_
  exact ⟨A, ca, B, cb, N, cn, L, cl, rfl, hsR.out, BR.out⟩
end Go.Proofs.Ytncnoingbaeomaa

/-
  The laws of layer 10: what the chapter's tree tells; alive. Conditions: those that each lemma states.
-/
namespace Go.Proofs.Ytncnoingbaeomaa
open Go.RowKit

theorem findFind_lit (v : Value) (s : Rm) (a : Int) (x : Int) (w : World) (h : Sto (Old w) w v s) :
    Calls Try.prog 11 #[v, .int .i64 a, .agg #[.int .u8 2, .int .u32 0, .int .u32 x]] w fun e w' => ∃ u, e = .returned (.tuple #[u, .int .i64 (fdE s a (keyN x))]) ∧ Itm (New w.heap.size w') w' u (fdV s a (keyN x)) ∧ Below w.heap.size w w' := findFind_any v s a (keyN x) w h
theorem tree_tells : (ckH (tr2 2) 9 = 2 ∧ ckE (tr2 2) 9 = 0) ∧ (ckH (tr2 2) 8 = 1 ∧ ckE (tr2 2) 8 = 0) ∧ (ckH (tr2 2) 10 = 0 ∧ ckE (tr2 2) 10 = 6) ∧ (ckH (tr2 2) 7 = 0 ∧ ckE (tr2 2) 7 = 2) ∧ (ckH (tr2 1) 9 = 0 ∧ ckE (tr2 1) 9 = 8) ∧
    (fdE (tr2 2) 9 (keyN 4) = 0 ∧ fdV (tr2 2) 9 (keyN 4) = it4) ∧ (fdE (tr2 2) 9 (keyN 3) = 6 ∧ fdV (tr2 2) 9 (keyN 3) = zeroI) := by
  obtain ⟨_, _, _, r1, r2, r3, r4, r5, r6⟩ := top_made (x := 2) (by decide)
  obtain ⟨_, _, _, q1, q2, _, _, _, _⟩ := top_made (x := 1) (by decide)
  obtain ⟨t1, t2, t3, t4, t5⟩ := top_tree
  obtain ⟨c1, c2⟩ := ck_ok (tree_of t1).2.1 t1
  obtain ⟨d1, d2⟩ := ck_ok (tree_of t2).2.1 t2
  obtain ⟨e1, e2⟩ := ck_no (s := tr2 2) (a := 10) (by rw [r5]; decide)
  obtain ⟨f1, f2⟩ := ck_no (s := tr2 2) (a := 7) (by rw [r6]; decide)
  obtain ⟨g1, g2⟩ := ck_bad (rm_may q1).2 t3
  refine ⟨⟨by rw [c2, r2]; rfl, c1⟩, ⟨by rw [d2, r4]; rfl, d1⟩, ⟨e2, e1.trans r5⟩, ⟨f2, f1.trans r6⟩, ⟨g2, g1⟩, fd_some c1 t4, fd_none c1 t5⟩

theorem by_seven {W W9 : World} {g c : Nat} {E : Option Addr} {t : TypeId} (h : rBy (Old W) W [.slice E 1 c] [7]) (hz : W.heap[g]? = some (.cells #[.int .u8 0, .int .u32 0, .int .u32 0, .int .i64 0, .slice none 0 0] t (0, 0))) (hg : W.grownBy W9 (some g)) : rBy (Old W9) W9 [.slice E 1 c] [7] := by
  obtain ⟨A, cap, e, h1, h2, hA⟩ := rBy_open h
  cases e
  obtain ⟨ad, rfl, hold, hc⟩ := hA 0 (by decide)
  have hne : (ad.add 0).block ≠ g := fun e => by
    unfold World.cell? at hc
    rw [e, hz] at hc
    dsimp only at hc
    split at hc
    · cases hc
    · obtain ⟨hlt, hu⟩ := Array.getElem?_eq_some_iff.1 hc
      have : ∀ v ∈ #[Value.int .u8 0, .int .u32 0, .int .u32 0, .int .i64 0, .slice none 0 0], v ≠ .int .u8 7 := by simp
      exact this _ (Array.getElem_mem hlt) hu
  have hc9 : W9.cell? (ad.add 0) = some (.int .u8 7) := (World.cell?_of_block (hg.block _ hold (fun e => hne (Option.some.inj e)))).trans hc
  refine ⟨some ad, c, rfl, h1, h2, fun i x hi => ?_⟩
  have hi0 : i = 0 := by
    have := (List.getElem?_eq_some_iff.1 hi).1
    simp at this
    omega
  subst hi0
  cases hi
  refine ⟨ad, [.int .u8 7], rfl, rfl, fun j v hj => ?_, rfl⟩
  have hj0 : j = 0 := by
    have := (List.getElem?_eq_some_iff.1 hj).1
    simp at this
    omega
  subst hj0
  cases hj
  exact ⟨Nat.lt_of_lt_of_le hold hg.size, hc9⟩

set_option maxRecDepth 100000 in
set_option maxHeartbeats 8000000 in
theorem alive10 (w : World) : Calls Try.prog 8 #[] w fun e w' => e = .returned (.bool true) ∧ Below w.heap.size w w' := by
  obtain ⟨_, _, _, _, _, ⟨hE, hV⟩, _⟩ := tree_tells
  have hMd := Lib.hid (fun W => made_any 2 (by decide) W)
  have hFd := Lib.hid (fun v W hW => findFind_lit v (tr2 2) 9 4 W hW)
  rw [hE, hV] at hFd
  obtain ⟨T, hT⟩ : ∃ T, tr2 2 = T := ⟨_, rfl⟩
  rw [hT] at hMd hFd
  have hke : ∀ w, (Op.equalIn 10000 37 (.agg #[.int .u8 2, .int .u32 0, .int .u32 4]) (.agg #[.int .u8 2, .int .u32 0, .int .u32 4])).run Try.prog w = .ok true w := fun w => by
    have := key_eq (keyN 4) (keyN 4) w
    rw [decide_eq_true rfl] at this
    exact this
  have hkg := key_guard
  replace hT := Lib.hid hT
  clear hE hV
  go_enter Try.func8, Try.ntmps8
  go_wp2_with fail
  with_reducible refine (hMd.out _).mono ?_
  rintro e w1 ⟨A, ca, B, cb, N, cn, L, cl, rfl, h1, hb1⟩
  obtain ⟨w2, hw2, hg2, hB2, -, hs2⟩ := bag_four ((Bag.nil w1).add (F := OldR _ T) h1 (lasts_oldR _ _)) (Below.refl _ _) (.slice A T.1.1.length ca) (.slice B T.1.2.length cb) (.slice N T.2.1.length cn) (.slice L T.2.2.length cl) 29
  have H2 := Lib.hid hg2
  have B2 := Lib.hid (hb1.trans (hB2.mono hb1.size))
  replace hs2 := Lib.hid hs2
  clear hg2 hB2 hb1 h1 hMd
  go_upto_region 2 with fail
  clear hw2
  refine wp_region_late (ops' := ?opsLate) (by kernel_rfl) [(7, 5)] ?he (by kernel_rfl) (fun d _ _ _ _ h => by cases d <;> exact h) 7 (fun W => Below w2.heap.size w2 W) (fun i => match i with
      | 2 => some (fun v W => ∃ E ce, v = .tuple #[.agg #[.int .u8 2, .int .u32 0, .int .u32 4, .int .i64 0, .slice E 1 ce], .int .i64 0] ∧ rBy (Old W) W [.slice E 1 ce] [7])
      | 3 => some (fun v W => ∃ E ce, v = .tuple #[.agg #[.int .u8 2, .int .u32 0, .int .u32 4, .int .i64 0, .slice E 1 ce], .int .i64 0] ∧ rBy (Old W) W [.slice E 1 ce] [7])
      | 4 => some (fun v W => ∃ E ce, v = .agg #[.int .u8 2, .int .u32 0, .int .u32 4, .int .i64 0, .slice E 1 ce] ∧ rBy (Old W) W [.slice E 1 ce] [7])
      | 6 => some (fun v W => ∃ g, v = .pointer (some ⟨g, 0, none⟩) ∧ w2.heap.size ≤ g ∧ W.heap[g]? = some (.cells #[.int .u8 0, .int .u32 0, .int .u32 0, .int .i64 0, .slice none 0 0] 39 (0, 0)))
      | _ => none) (fun i => match i with
      | 1 => some (.agg #[.int .u8 2, .int .u32 0, .int .u32 4])
      | 5 => some (.int .i64 0)
      | _ => none) ?h1 ?h2 ?h3 (Below.refl _ _).drew (fun w w' h hb => h.trans (hb.mono h.size)) ?tst ?_
  case he =>
    simp [withEdges]
    rfl
  case h1 => decide
  case h2 => kernel_rfl
  case h3 => kernel_rfl
  case tst =>
    intro j φ x W W' hp hx hb
    match j, hp with
    | 2, hp => cases hp; obtain ⟨E, ce, e, h⟩ := hx; exact ⟨E, ce, e, stab_by.old h hb⟩
    | 3, hp => cases hp; obtain ⟨E, ce, e, h⟩ := hx; exact ⟨E, ce, e, stab_by.old h hb⟩
    | 4, hp => cases hp; obtain ⟨E, ce, e, h⟩ := hx; exact ⟨E, ce, e, stab_by.old h hb⟩
    | 6, hp => cases hp; obtain ⟨g, e, h1, h2⟩ := hx; exact ⟨g, e, h1, (hb.block g (Array.getElem?_eq_some_iff.1 h2).1).trans h2⟩
  simp only [List.take_succ_cons, List.take_zero, List.drop_succ_cons, List.drop_zero]
  repeat (first
    | (refine wpAs_skip rfl ?_; simp only [Act.put, List.setIfInBounds_toArray, List.set_cons_zero, List.set_cons_succ])
    | (refine wpAs_pure (v := ?_) rfl rfl ?_ ?_; rotate_left; (intro W hC hE; clear hE; (obtain ⟨k0, k1, k2, k3, _⟩ := (H2.out.below hC).at 0 rfl); clear hC; go_simp; done); simp only [Act.put, List.setIfInBounds_toArray, List.set_cons_zero, List.set_cons_succ])
    | (refine wpAs_pure (v := ?_) rfl rfl ?_ ?_; rotate_left; (intro W hC hE; clear hE; (obtain ⟨k0, k1, k2, k3, _⟩ := (H2.out.below hC).at 0 rfl); clear hC; go_simp; with_reducible rfl); simp only [Act.put, List.setIfInBounds_toArray, List.set_cons_zero, List.set_cons_succ]))
  refine wpAs_fixed rfl rfl rfl ?_ ?_
  · intro W hC hE
    refine does_enter (f := 12) (args := #[.int .u32 4]) ?_ ?_
    · go_simp
    · refine (keyF_any 4 W).mono ?_
      (rintro e W' ⟨rfl, hg⟩)
      exact ⟨_, rfl, rfl, hg⟩
  simp only [Act.put, List.setIfInBounds_toArray, List.set_cons_zero, List.set_cons_succ]
  refine wpAs_act rfl rfl ?_ ?_
  · intro W hC hE
    clear hE
    refine does_enter (f := 11) (args := #[.agg #[.slice A T.1.1.length ca, .slice B T.1.2.length cb, .slice N T.2.1.length cn, .slice L T.2.2.length cl], .int .i64 9, .agg #[.int .u8 2, .int .u32 0, .int .u32 4]]) ?_ ?_
    · go_simp
    · refine (hFd.out _ W ((H2.out.below hC).at 1 rfl)).mono ?_
      rintro e W' ⟨u, rfl, hu, hb⟩
      obtain ⟨E, ce, rfl, _, _, _, hby⟩ := hu.drop.open
      exact ⟨_, rfl, ⟨E, ce, rfl, hby⟩, hb⟩
  simp only [Act.put, List.setIfInBounds_toArray, List.set_cons_zero, List.set_cons_succ, envAdd]
  intro x2
  refine wpAs_act rfl rfl ?_ ?_
  · intro W hC hE
    have h7 := hE.1 rfl
    clear hE hC
    go_simp
    exact ⟨h7, Below.refl _ _⟩
  simp only [Act.put, List.setIfInBounds_toArray, List.set_cons_zero, List.set_cons_succ, envAdd]
  intro x3
  refine wpAs_act rfl rfl ?_ ?_
  · intro W hC hE
    obtain ⟨E, ce, rfl, hz⟩ := hE.1 rfl
    have hz' := Lib.hid hz
    clear hE hz hC
    go_simp
    exact ⟨⟨E, ce, rfl, hz'.out⟩, Below.refl _ _⟩
  simp only [Act.put, List.setIfInBounds_toArray, List.set_cons_zero, List.set_cons_succ, envAdd]
  intro x4
  refine wpAs_fixed rfl rfl rfl ?_ ?_
  · intro W hC hE
    obtain ⟨E, ce, rfl, hz⟩ := hE.2.1 rfl
    clear hE hz hC
    go_simp
    exact ⟨rfl, Below.refl _ _⟩
  simp only [Act.put, List.setIfInBounds_toArray, List.set_cons_zero, List.set_cons_succ]
  refine wpAs_act rfl rfl ?_ ?_
  · intro W hC hE
    have hs := hC.size
    clear hE hC
    go_simp
    exact ⟨⟨W.heap.size, rfl, hs, heap_alloc_new _ _⟩, (Below.refl _ _).alloc (Nat.le_refl _) _⟩
  simp only [Act.put, List.setIfInBounds_toArray, List.set_cons_zero, List.set_cons_succ, envAdd]
  intro x6
  refine wpAs_end fun W hC hE => ?_
  obtain ⟨⟨g, rfl, hg, hz⟩, ⟨E, ce, rfl, hs⟩, _⟩ := hE
  obtain ⟨c0, c1, c2, c3, c4, c5, _⟩ := five_cells hz
  obtain ⟨W9, hW9, g9, gr9, gs9⟩ := put_five (u0 := .int .u8 2) (u1 := .int .u32 0) (u2 := .int .u32 4) (u3 := .int .i64 0) (u4 := .slice E 1 ce) hz
  have hs9 := Lib.hid (by_seven hs hz gr9)
  have hb9 := hC.grown gr9 hC.size (fun q e => by cases e; exact hg)
  have B9 := Lib.hid (B2.out.trans (hb9.mono B2.out.size))
  have g9h := Lib.hid g9
  replace hz := Lib.hid hz
  replace g9 := Lib.hid g9
  clear hs hC gr9 gs9 hb9 B2
  go_upto_region 3 with fail
  clear hW9 c0 c1 c2 c3 c4 c5
  obtain ⟨w11, rfl⟩ : ∃ w11 : World, w11 = W9 := ⟨_, rfl⟩
  refine wp_region_fx (by kernel_rfl) (fun W => Below w11.heap.size w11 W) (fun _ => none) (fun i => match i with
      | 8 => some (.agg #[.int .u8 2, .int .u32 0, .int .u32 4])
      | _ => none) (by kernel_rfl) (Below.refl _ _).drew (fun w w' h hb => h.trans (hb.mono h.size)) (fun j φ x W W' hp => by cases hp) ?_
  repeat (first
    | (refine wpAs_skip rfl ?_; simp only [Act.put, List.setIfInBounds_toArray, List.set_cons_zero, List.set_cons_succ])
    | (refine wpAs_pure (v := ?_) rfl rfl ?_ ?_; rotate_left; (intro W hC hE; clear hE; (have GW := lasts_boxW _ _ _ _ _ g9h.out hC; obtain ⟨n0, n1, n2, n3, n4, _⟩ := five_cells GW; clear GW); clear hC; go_simp; done); simp only [Act.put, List.setIfInBounds_toArray, List.set_cons_zero, List.set_cons_succ])
    | (refine wpAs_pure (v := ?_) rfl rfl ?_ ?_; rotate_left; (intro W hC hE; clear hE; (have GW := lasts_boxW _ _ _ _ _ g9h.out hC; obtain ⟨n0, n1, n2, n3, n4, _⟩ := five_cells GW; clear GW); clear hC; go_simp; with_reducible rfl); simp only [Act.put, List.setIfInBounds_toArray, List.set_cons_zero, List.set_cons_succ]))
  refine wpAs_fixed rfl rfl rfl ?_ ?_
  · intro W hC hE
    refine does_enter (f := 12) (args := #[.int .u32 4]) ?_ ?_
    · go_simp
    · refine (keyF_any 4 W).mono ?_
      (rintro e W' ⟨rfl, hg⟩)
      exact ⟨_, rfl, rfl, hg⟩
  simp only [Act.put, List.setIfInBounds_toArray, List.set_cons_zero, List.set_cons_succ]
  repeat (first
    | (refine wpAs_skip rfl ?_; simp only [Act.put, List.setIfInBounds_toArray, List.set_cons_zero, List.set_cons_succ])
    | (refine wpAs_pure (v := ?_) rfl rfl ?_ ?_; rotate_left; (intro W hC hE; clear hE; (have GW := lasts_boxW _ _ _ _ _ g9h.out hC; obtain ⟨n0, n1, n2, n3, n4, _⟩ := five_cells GW; clear GW); clear hC; go_simp; done); simp only [Act.put, List.setIfInBounds_toArray, List.set_cons_zero, List.set_cons_succ])
    | (refine wpAs_pure (v := ?_) rfl rfl ?_ ?_; rotate_left; (intro W hC hE; clear hE; (have GW := lasts_boxW _ _ _ _ _ g9h.out hC; obtain ⟨n0, n1, n2, n3, n4, _⟩ := five_cells GW; clear GW); clear hC; go_simp; with_reducible rfl); simp only [Act.put, List.setIfInBounds_toArray, List.set_cons_zero, List.set_cons_succ]))
  refine wpAs_pure (v := .string ⟨([7]).toArray⟩) rfl rfl ?_ ?_
  · intro W hC hE
    have h : rBy (Old W) W [.slice E 1 ce] ([7]) := (stab_by.old hs9.out hC)
    have hs := rBy_str0 h
    clear h hC hE
    refine run_convert_op (v := .slice E 1 ce) _ _ _ rfl ?_ hs
    first | rfl | (simp; done) | (go_simp; done)
  simp only [Act.put, List.setIfInBounds_toArray, List.set_cons_zero, List.set_cons_succ]
  repeat (first
    | (refine wpAs_skip rfl ?_; simp only [Act.put, List.setIfInBounds_toArray, List.set_cons_zero, List.set_cons_succ])
    | (refine wpAs_pure (v := ?_) rfl rfl ?_ ?_; rotate_left; (intro W hC hE; clear hE; skip; clear hC; go_simp; done); simp only [Act.put, List.setIfInBounds_toArray, List.set_cons_zero, List.set_cons_succ])
    | (refine wpAs_pure (v := ?_) rfl rfl ?_ ?_; rotate_left; (intro W hC hE; clear hE; skip; clear hC; go_simp; with_reducible rfl); simp only [Act.put, List.setIfInBounds_toArray, List.set_cons_zero, List.set_cons_succ]))
  refine wpAs_end fun W hC hE => ?_
  have BW := Lib.hid (B9.out.trans (hC.mono B9.out.size))
  clear hE hC
  go_wp2_with fail
  go_ret
  exact ⟨rfl, BW.out⟩
end Go.Proofs.Ytncnoingbaeomaa

/-
  The laws' all: the items of a node's leaves, level by level. Conditions: those that each lemma states.
-/
namespace Go.Proofs.Ytncnoingbaeomaa
open Go.RowKit

theorem flat_len {g : Int → Option (List It)} {N : Nat} (hg : ∀ a m, g a = some m → m.length ≤ N) : ∀ {l m : List It}, flatO g l = some m → m.length ≤ N * l.length
  | [], m, h => by
    cases h
    simp
  | x :: r, m, h => by
    unfold flatO at h
    cases hx : g x.2.1 with
    | none => rw [hx] at h; cases h
    | some a =>
      rw [hx] at h
      cases hr : flatO g r with
      | none => rw [hr] at h; cases h
      | some b =>
        rw [hr] at h
        cases h
        have h1 := hg _ _ hx
        have h2 := flat_len hg hr
        rw [List.length_append, List.length_cons, Nat.mul_succ]
        omega
theorem all_len (s : Rm) : ∀ (l : Nat) (a : Int) (m : List It), allP s l a = some m → m.length ≤ 5 ^ (l + 1)
  | 0, a, m, h => by
    unfold allP at h
    split at h
    · rename_i hc
      cases h
      exact (mayN_of (rm_may hc.1).1).1.2.2.1
    · cases h
  | l + 1, a, m, h => by
    unfold allP at h
    split at h
    · rename_i hc
      have h5 := (mayN_of (rm_may hc.1).1).1.2.2.1
      refine Nat.le_trans (flat_len (all_len s l) h) ?_
      rw [Nat.pow_succ 5 (l + 1)]
      exact Nat.mul_le_mul_left _ h5
    · cases h
theorem all_no {s : Rm} {l : Nat} {a : Int} (h : ¬ (rmE s a = 0 ∧ (rmV s a).1 = (l : Int))) : allP s l a = none := by
  cases l with
  | zero => unfold allP; rw [if_neg (by simpa using h)]
  | succ l => unfold allP; rw [if_neg h]
theorem all_zero {s : Rm} {a : Int} (h : rmE s a = 0 ∧ (rmV s a).1 = ((0 : Nat) : Int)) : allP s 0 a = some (rmV s a).2 := by unfold allP; rw [if_pos (by simpa using h)]
theorem all_succ {s : Rm} {l : Nat} {a : Int} (h : rmE s a = 0 ∧ (rmV s a).1 = ((l + 1 : Nat) : Int)) : allP s (l + 1) a = flatO (allP s l) (rmV s a).2 := by unfold allP; rw [if_pos h]

/-- What a call of it tells, at a level. -/
def AllR (s : Rm) (l : Nat) (a : Int) (w : World) : Ending → World → Prop := fun e w' => ∃ u c, e = .returned (.tuple #[.slice u ((allP s l a).getD []).length c, .bool (allP s l a).isSome]) ∧ rIts (New w.heap.size w') w' [.slice u ((allP s l a).getD []).length c] ((allP s l a).getD []) ∧ Below w.heap.size w w'
def AllIs (s : Rm) (l : Nat) : Prop := ∀ (v : Value) (a : Int) (w : World), Sto (Old w) w v s → Calls Try.prog 19 #[v, .int .i64 a, .int .i64 (l : Int)] w (AllR s l a w)
theorem all_ret_no {s : Rm} {l : Nat} {a : Int} {w w' : World} (h : allP s l a = none) (hb : Below w.heap.size w w') : AllR s l a w (.returned (.tuple #[.slice none 0 0, .bool false])) w' := by
  unfold AllR
  rw [h]
  exact ⟨none, 0, rfl, its_nil _ _, hb⟩
theorem all_ret_yes {s : Rm} {l : Nat} {a : Int} {w w' : World} {m : List It} {n c : Nat} {u : Option Addr} (h : allP s l a = some m) (hn : m.length = n) (hr : rIts (New w.heap.size w') w' [.slice u n c] m) (hb : Below w.heap.size w w') : AllR s l a w (.returned (.tuple #[.slice u n c, .bool true])) w' := by
  unfold AllR
  rw [h]
  subst hn
  exact ⟨u, c, rfl, hr, hb⟩

set_option maxRecDepth 100000 in
set_option maxHeartbeats 8000000 in
theorem all_step (s : Rm) (l0 : Nat) (hl5 : l0 ≤ 5) (hr0 : ∀ j, l0 = j + 1 → AllIs s j) : AllIs s l0 := by
  intro v a w h
  obtain ⟨A, ca, B, cb, N, cn, L, cl, rfl, _⟩ := id h.open
  have hNd := Lib.hid (fun v W hW => nodeR_open v s a W hW)
  have hno := Lib.hid (fun hh => all_no (s := s) (l := l0) (a := a) hh)
  have hz := Lib.hid (fun hh => all_zero (s := s) (a := a) hh)
  have hsu := Lib.hid (fun (j : Nat) hh => all_succ (s := s) (l := j) (a := a) hh)
  have hmy := Lib.hid (fun hh => (rm_may (s := s) (a := a) hh).1)
  obtain ⟨nd, hnd⟩ : ∃ q, rmV s a = q := ⟨_, rfl⟩
  obtain ⟨E0, hE0⟩ : ∃ q, rmE s a = q := ⟨_, rfl⟩
  rw [hnd, hE0] at hNd hno hz hsu
  rw [hnd, hE0] at hmy
  obtain ⟨lw, hlw⟩ : ∃ q, nd.1 = q := ⟨_, rfl⟩
  obtain ⟨l, hl⟩ : ∃ q, nd.2 = q := ⟨_, rfl⟩
  obtain ⟨m, hlm⟩ : ∃ q, l.length = q := ⟨_, rfl⟩
  rw [hlw, hl, hlm] at hNd
  rw [hlw] at hno
  rw [hlw, hl] at hz hsu
  have HG0 : Bag w [OldR (.agg #[.slice A s.1.1.length ca, .slice B s.1.2.length cb, .slice N s.2.1.length cn, .slice L s.2.2.length cl]) s] := (Bag.nil w).add (F := OldR _ s) h (lasts_oldR _ _)
  obtain ⟨w0, hw0, hg0, hB0, _, hs0⟩ := bag_four HG0 (Below.refl _ _) (.slice A s.1.1.length ca) (.slice B s.1.2.length cb) (.slice N s.2.1.length cn) (.slice L s.2.2.length cl) 29
  have HG := Lib.hid hg0
  have BB := Lib.hid hB0
  obtain ⟨s0, s1, s2, s3, _⟩ := HG.out.at 0 rfl
  replace hs0 := Lib.hid hs0
  replace hnd := Lib.hid hnd
  replace hE0 := Lib.hid hE0
  replace hlw := Lib.hid hlw
  replace hl := Lib.hid hl
  replace hlm := Lib.hid hlm
  clear HG0 hg0 h hB0
  go_enter Try.func19, Try.ntmps19
  go_upto_region 1 with fail
  clear hw0
  go_wp2_with fail
  with_reducible refine (hNd.out _ _ (HG.out.at 1 rfl)).mono ?_
  rintro e w3 ⟨Z, zc, rfl, -, h3n, hb3⟩
  have h3s : rIts (New w0.heap.size w3) w3 [.slice Z m zc] l := by
    obtain ⟨_, e, _, h⟩ := h3n
    cases e
    rw [hl.out] at h
    exact h
  obtain ⟨w4, hw4, hg4, hb4, -, hs4⟩ := bag_node ((HG.out.below hb3).add (F := NewIs w0.heap.size _ l) h3s (lasts_newIs _ _ _)) (Below.refl _ _) (.int .i64 lw) (.slice Z m zc)
  replace HG := Lib.hid hg4
  have lo0 := Lib.hid BB.out.size
  replace BB := Lib.hid (BB.out.trans ((hb3.trans (hb4.mono hb3.size)).mono BB.out.size))
  replace hs4 := Lib.hid hs4
  clear hg4 hb4 hb3 h3s h3n s0 s1 s2 s3 hNd
  go_upto_region 2 with fail
  clear hw4
  obtain ⟨y0, y1, _⟩ := HG.out.at 0 rfl
  by_cases he : E0 = 0
  case neg =>
    have e1 : (E0 != 0) = true := by simpa using he
    have hf := Lib.hid (hno.out (fun hh => he hh.1))
    clear he
    go_wp2_with fail
    go_ret2
    exact all_ret_no hf.out BB.out
  subst he
  by_cases hv : lw = (l0 : Int)
  case neg =>
    have e1 : (lw != (l0 : Int)) = true := by simpa using hv
    have hf := Lib.hid (hno.out (fun hh => hv hh.2))
    clear hv
    go_wp2_with fail
    go_ret2
    exact all_ret_no hf.out BB.out
  have e1 : (lw != (l0 : Int)) = false := by simp [hv]
  have hmn := Lib.hid (hmy.out rfl)
  have hm5 : m ≤ 5 := by
    have := (mayN_of hmn.out).1.2.2.1
    rw [hl.out, hlm.out] at this
    exact this
  replace hv := Lib.hid hv
  cases l0 with
  | zero =>
    have hf := Lib.hid (hz.out ⟨rfl, hv.out⟩)
    have hit : Hid (rIts (New w.heap.size w4) w4 [.slice Z m zc] l) := Lib.hid (stab_its.new (HG.out.at 1 rfl : rIts (New w0.heap.size w4) w4 [.slice Z m zc] l) lo0.out (Below.refl _ _))
    go_wp2_with fail
    go_ret2
    exact all_ret_yes hf.out hlm.out hit.out BB.out
  | succ l1 =>
    have hrec := Lib.hid (hr0 l1 rfl)
    have c0 : (((l1 + 1 : Nat) : Int) == 0) = false := by simp; omega
    have hfl : Hid (allP s (l1 + 1) a = flatO (allP s l1) l) := Lib.hid (hsu.out l1 ⟨rfl, hv.out⟩)
    have hlen := Lib.hid (fun a m h => Nat.le_trans (all_len s l1 a m h) (Nat.pow_le_pow_right (by decide) (by omega : l1 + 1 ≤ 5)))
    obtain ⟨R, hR⟩ : ∃ R, flatO (allP s l1) l = R := ⟨_, rfl⟩
    rw [hR] at hfl
    obtain ⟨lz, hlz⟩ : ∃ z : Int, ((l1 + 1 : Nat) : Int) = z := ⟨_, rfl⟩
    rw [hlz] at c0 e1 ⊢
    have c1 : lz - 1 = (l1 : Int) := by omega
    have c2 : IntKind.i64.wrap (l1 : Int) = (l1 : Int) := IntWalk.i64_in _ (by omega)
    replace hlz := Lib.hid hlz
    replace hR := Lib.hid hR
    clear hno hz hsu hmy
    go_wp2_with fail
    clear y0 y1 e1 c0
    go_loopw [11, 10] (fun vi vo wr => ∃ (k n : Nat) (Q : Option Addr) (c : Nat) (q : List It), k ≤ m ∧ vi = .int .i64 k ∧ vo = .slice Q n c ∧ q.length = n ∧ flatO (allP s l1) (l.take k) = some q ∧ RowOf rIt 5 39 w4.heap.size wr Q c q ∧ (∀ g, Q.map (·.block) = some g → g < wr.heap.size) ∧ Below w4.heap.size w4 wr) (fun vi _ _ => m - (intOf vi).toNat)
    case atStart => exact ⟨0, 0, none, 0, [], by omega, rfl, rfl, rfl, rfl, RowOf.nil _ _ _ _ _, (fun g hg => by cases hg), Below.refl _ _⟩
    case round =>
      obtain ⟨k, n, Q, c, q, hk, rfl, rfl, hqn, hfk, hrow, hQl, hbr⟩ := hrel
      have HR := Lib.hid (HG.out.below hbr)
      have BR := Lib.hid hbr
      have hrow' := Lib.hid hrow
      have hQl' := Lib.hid hQl
      have hqn' := Lib.hid hqn
      clear hbr hrow hQl hqn
      obtain ⟨y0, y1, _⟩ := HR.out.at 0 rfl
      by_cases hlt : k < m
      case neg =>
        have hf : Hid (allP s (l1 + 1) a = some q) := Lib.hid (by
          rw [hfl.out, ← hR.out, ← hfk, List.take_of_length_le (by rw [hlm.out]; omega)])
        have B4 := Lib.hid (BB.out.trans (BR.out.mono BB.out.size))
        have hit : Hid (rIts (New w.heap.size wr) wr [.slice Q n c] q) := Lib.hid (by
          have := (RowOf.low stab_it hrow'.out BB.out.size).rel stab_it
          rw [hqn'.out] at this
          exact this)
        replace hfk := Lib.hid hfk
        go_wp2_with fail
        go_ret2
        exact all_ret_yes hf.out hqn'.out hit.out B4.out
      obtain ⟨x, hx0⟩ : ∃ x, l[k]? = some x := ⟨_, List.getElem?_eq_getElem (by rw [hlm.out]; exact hlt)⟩
      obtain ⟨ad, E5, ce5, rfl, _, FX⟩ := its_new (HR.out.at 1 rfl : rIts (New w0.heap.size wr) wr [.slice Z m zc] l) hx0
      have FX' := Lib.hid (fun W (hW : Below wr.heap.size wr W) => (FX W hW).1)
      have hx := Lib.hid hx0
      have i4 : (0 : Int) ≤ (k : Int) := by omega
      have i5 : (k : Int) < (m : Int) := by omega
      clear FX hx0
      have hq5 := Lib.hid (flat_len (N := 5 ^ 5) hlen.out hfk)
      have hft := flat_take (allP s l1) hx.out
      rw [hfk] at hft
      have hft' := Lib.hid hft
      have hcl := Lib.hid (fun v W hW => hrec.out v x.2.1 W hW)
      replace hfk := Lib.hid hfk
      clear hft
      obtain ⟨P, hP⟩ : ∃ P, allP s l1 x.2.1 = P := ⟨_, rfl⟩
      obtain ⟨b1, hb1⟩ : ∃ b, P.isSome = b := ⟨_, rfl⟩
      obtain ⟨y, hy⟩ : ∃ y, P.getD [] = y := ⟨_, rfl⟩
      obtain ⟨ym, hym⟩ : ∃ n, y.length = n := ⟨_, rfl⟩
      unfold AllR at hcl
      rw [hP] at hcl hft'
      rw [hb1, hy, hym] at hcl
      replace hP := Lib.hid hP
      replace hy := Lib.hid hy
      replace hym := Lib.hid hym
      go_upto_region 10 with fail
      clear y0 y1
      refine wp_region_fx (by kernel_rfl) (fun W => Below wr.heap.size wr W) (fun i => match i with
        | 9 => some (fun v W => ∃ u c, v = .tuple #[.slice u ym c, .bool b1] ∧ rIts (New wr.heap.size W) W [.slice u ym c] y)
        | 10 => some (fun v W => ∃ u c, v = .tuple #[.slice u ym c, .bool b1] ∧ rIts (New wr.heap.size W) W [.slice u ym c] y)
        | 11 => some (fun v W => ∃ u c, v = .slice u ym c ∧ rIts (New wr.heap.size W) W [.slice u ym c] y)
        | _ => none) (fun i => match i with
        | 12 => some (.bool b1)
        | _ => none) (by kernel_rfl) (Below.refl _ _).drew (fun w w' h hb => h.trans (hb.mono h.size)) ?tst ?_
      case tst =>
        intro j φ x W W' hp hx hb
        match j, hp with
        | 9, hp => cases hp; obtain ⟨u, c, e, h⟩ := hx; exact ⟨u, c, e, stab_its.new h (Nat.le_refl _) hb⟩
        | 10, hp => cases hp; obtain ⟨u, c, e, h⟩ := hx; exact ⟨u, c, e, stab_its.new h (Nat.le_refl _) hb⟩
        | 11, hp => cases hp; obtain ⟨u, c, e, h⟩ := hx; exact ⟨u, c, e, stab_its.new h (Nat.le_refl _) hb⟩
      repeat (first
        | (refine wpAs_skip rfl ?_; simp only [Act.put, List.setIfInBounds_toArray, List.set_cons_zero, List.set_cons_succ])
        | (refine wpAs_pure (v := ?_) rfl rfl ?_ ?_; rotate_left; (intro W hC hE; clear hE; (have HW := HR.out.below hC; obtain ⟨k0, k1, k2, k3, _⟩ := HW.at 2 rfl; obtain ⟨y0, y1, _⟩ := HW.at 0 rfl; clear HW; obtain ⟨z0, z1, z2, z3, _⟩ := FX'.out W hC); clear hC; go_simp; done); simp only [Act.put, List.setIfInBounds_toArray, List.set_cons_zero, List.set_cons_succ])
        | (refine wpAs_pure (v := ?_) rfl rfl ?_ ?_; rotate_left; (intro W hC hE; clear hE; (have HW := HR.out.below hC; obtain ⟨k0, k1, k2, k3, _⟩ := HW.at 2 rfl; obtain ⟨y0, y1, _⟩ := HW.at 0 rfl; clear HW; obtain ⟨z0, z1, z2, z3, _⟩ := FX'.out W hC); clear hC; go_simp; with_reducible rfl); simp only [Act.put, List.setIfInBounds_toArray, List.set_cons_zero, List.set_cons_succ]))
      refine wpAs_act rfl rfl ?_ ?_
      · intro W hC hE
        clear hE
        refine does_enter (f := 19) (args := #[.agg #[.slice A s.1.1.length ca, .slice B s.1.2.length cb, .slice N s.2.1.length cn, .slice L s.2.2.length cl], .int .i64 x.2.1, .int .i64 (l1 : Int)]) ?_ ?_
        · go_simp
        · refine (hcl.out _ W ((HR.out.below hC).at 3 rfl)).mono ?_
          rintro e W' ⟨u, c, rfl, hu, hb⟩
          exact ⟨_, rfl, ⟨u, c, rfl, stab_its.new hu hC.size (Below.refl _ _)⟩, hb⟩
      simp only [Act.put, List.setIfInBounds_toArray, List.set_cons_zero, List.set_cons_succ, envAdd]
      intro x9
      refine wpAs_act rfl rfl ?_ ?_
      · intro W hC hE
        have h9 := hE.1 rfl
        clear hE hC
        go_simp
        exact ⟨h9, Below.refl _ _⟩
      simp only [Act.put, List.setIfInBounds_toArray, List.set_cons_zero, List.set_cons_succ, envAdd]
      intro x10
      refine wpAs_act rfl rfl ?_ ?_
      · intro W hC hE
        obtain ⟨u, c, rfl, hu⟩ := hE.1 rfl
        clear hE hC
        replace hu := Lib.hid hu
        go_simp
        exact ⟨⟨u, c, rfl, hu.out⟩, Below.refl _ _⟩
      simp only [Act.put, List.setIfInBounds_toArray, List.set_cons_zero, List.set_cons_succ, envAdd]
      intro x11
      refine wpAs_fixed rfl rfl rfl ?_ ?_
      · intro W hC hE
        obtain ⟨u, c, rfl, hu⟩ := hE.2.1 rfl
        clear hE hC hu
        go_simp
        exact ⟨rfl, Below.refl _ _⟩
      simp only [Act.put, List.setIfInBounds_toArray, List.set_cons_zero, List.set_cons_succ]
      repeat (first
        | (refine wpAs_skip rfl ?_; simp only [Act.put, List.setIfInBounds_toArray, List.set_cons_zero, List.set_cons_succ])
        | (refine wpAs_pure (v := ?_) rfl rfl ?_ ?_; rotate_left; (intro W hC hE; clear hE; skip; clear hC; go_simp; done); simp only [Act.put, List.setIfInBounds_toArray, List.set_cons_zero, List.set_cons_succ])
        | (refine wpAs_pure (v := ?_) rfl rfl ?_ ?_; rotate_left; (intro W hC hE; clear hE; skip; clear hC; go_simp; with_reducible rfl); simp only [Act.put, List.setIfInBounds_toArray, List.set_cons_zero, List.set_cons_succ]))
      refine wpAs_end fun W hC hE => ?_
      obtain ⟨U, uc, rfl, hu⟩ := hE.1
      have hrowW := Lib.hid (RowOf.below stab_it hrow'.out hC)
      have BW := Lib.hid (BR.out.trans (hC.mono BR.out.size))
      have hun := Lib.hid hu
      clear hE
      cases b1 with
      | false =>
        have hf : Hid (allP s (l1 + 1) a = none) := Lib.hid (by
          have h0 : P = none := by simpa using hb1
          rw [hfl.out, ← hR.out]
          exact flat_bad _ (i := k + 1) (by rw [hft'.out, h0]; rfl))
        have B4 := Lib.hid (BB.out.trans (BW.out.mono BB.out.size))
        clear hC hu
        go_wp2_with fail
        go_ret2
        exact all_ret_no hf.out B4.out
      | true =>
        have hPy : P = some y := by
          obtain ⟨p, hp⟩ := Option.isSome_iff_exists.1 hb1
          rw [hp] at hy ⊢
          exact congrArg some hy.out
        have hny := hlen.out x.2.1 y (by rw [hP.out, hPy])
        have hq5' := hq5.out
        have hnx := Lib.hid (show flatO (allP s l1) (l.take (k + 1)) = some (q ++ y) from by rw [hft'.out, hPy]; rfl)
        have htk : (l.take k).length ≤ 5 := by rw [List.length_take]; have := hlm.out; omega
        obtain ⟨A', c', w', hap, hrow2, hlb, hgr, hA'⟩ := its_app (lo := w4.heap.size) (l1 := wr.heap.size) hrowW.out hun.out hQl'.out BR.out.size (by have := Nat.mul_le_mul_left (5 ^ 5) htk; omega) BW.out.size n hqn'.out
        have hgb := Lib.hid (BW.out.trans hlb)
        have hr2 := Lib.hid hrow2
        have hA2 := Lib.hid hA'
        have hqy : Hid ((q ++ y).length = n + ym) := Lib.hid (by rw [List.length_append, hqn'.out, hym.out])
        replace hb1 := Lib.hid hb1
        clear hC hu hrow2 hA' hlb hgr hny hq5' htk
        replace hPy := Lib.hid hPy
        go_wp2_with (at_builtin; refine wpList_append_run rfl _ _ 52 rfl rfl rfl hap ?_)
        go_roundw
        case rel => exact ⟨k + 1, n + ym, A', c', q ++ y, by omega, by go_num, rfl, hqy.out, hnx.out, hr2.out, hA2.out, hgb.out⟩
        case measure => simp [intOf]; omega
theorem all_any (s : Rm) : ∀ l : Nat, l ≤ 5 → AllIs s l := by
  intro l
  induction l using Nat.strongRecOn with
  | ind l ih => exact fun hl => all_step s l hl fun j hj => ih j (by omega) (by omega)
end Go.Proofs.Ytncnoingbaeomaa

/-
  Layer 10's contracts as its laws want them. Conditions: those that each lemma states.
-/
namespace Go.Proofs.Ytncnoingbaeomaa
open Go.RowKit

theorem findFind_open (v : Value) (s : Rm) (a : Int) (key : Ky) (w : World) (h : Sto (Old w) w v s) :
    Calls Try.prog 11 #[v, .int .i64 a, kyV key] w fun e w' => ∃ P pc, e = .returned (.tuple #[itV (fdV s a key) (.slice P (fdV s a key).2.2.length pc), .int .i64 (fdE s a key)]) ∧ Itm (New w.heap.size w') w' (itV (fdV s a key) (.slice P (fdV s a key).2.2.length pc)) (fdV s a key) ∧ Below w.heap.size w w' := by
  refine (findFind_any v s a key w h).mono ?_
  rintro e w' ⟨u, rfl, hu, hb⟩
  obtain ⟨P, pc, rfl, _⟩ := id hu.open
  exact ⟨P, pc, rfl, hu, hb⟩
theorem all_open (v : Value) (s : Rm) (a : Int) (ht : treeO s a = true) (w : World) (h : Sto (Old w) w v s) :
    Calls Try.prog 19 #[v, .int .i64 a, .int .i64 (rmV s a).1] w fun e w' => ∃ U c, e = .returned (.tuple #[.slice U (allO s a).length c, .bool true]) ∧ rIts (New w.heap.size w') w' [.slice U (allO s a).length c] (allO s a) ∧ Below w.heap.size w w' := by
  obtain ⟨_, _, _, l0, l6, _⟩ := tree_of ht
  have hall := tree_alls ht
  obtain ⟨M, hM⟩ : ∃ M : Nat, (rmV s a).1 = (M : Int) := ⟨(rmV s a).1.toNat, by omega⟩
  rw [hM] at hall ⊢
  rw [show ((M : Nat) : Int).toNat = M by omega] at hall
  refine (all_any s M (by omega) v a w h).mono ?_
  intro e w' hr
  unfold AllR at hr
  rw [hall] at hr
  exact hr
end Go.Proofs.Ytncnoingbaeomaa
