/-
  Lemmas on the program and on the document's answers, gathered: FnEnds, FnStands, FnRef, FnFind, RmTwin. Conditions: those that each lemma states.
-/
import Derived.Test.YtncnoingbaeomaaBnd3
import Derived.WalkMore
/-
  Package find: the closure of stands that calls itself. Conditions: those that each lemma states.
-/
namespace Go.Proofs.Ytncnoingbaeomaa
open Go.RowKit

/-- The closure, with what it captured. -/
abbrev cloE (Bs Be : Nat) : Value := .func (.func 52) #[] #[.pointer (some ⟨Bs, 0, none⟩), .pointer (some ⟨Be, 0, none⟩)]
def BoxF (g : Nat) (v : Value) : World → Prop := fun w => w.cell? ⟨g, 0, none⟩ = some v ∧ g < w.heap.size
theorem lasts_boxF (g : Nat) (v : Value) : Lasts (BoxF g v) := fun _ _ h hb => ⟨(hb.cell (p := ⟨g, 0, none⟩) h.2).trans h.1, Nat.lt_of_lt_of_le h.2 hb.size⟩
def EndsP (s : Rm) (n : Nd) (w : World) : Ending → World → Prop := fun e w' => ∃ f t ok, e = .returned (.tuple #[kyV f, kyV t, .bool ok]) ∧ spanN s n = (if ok = true then some (f, t) else none) ∧ Below w.heap.size w w'
theorem ends_ret {s : Rm} {n : Nd} {w w' : World} (f t : Ky) (ok : Bool) (h : spanN s n = if ok = true then some (f, t) else none) (hb : Below w.heap.size w w') : EndsP s n w (.returned (.tuple #[kyV f, kyV t, .bool ok])) w' := ⟨f, t, ok, rfl, h, hb⟩
/-- What a call of it tells, at a level. -/
def EndsIs (s : Rm) (l : Nat) : Prop := ∀ (u v0 v1 v2 v3 : Value) (n : Nd) (Bs Be : Nat) (w : World), mayN n = true → n.1 = (l : Int) → n.2.length ≠ 0 → Nod (Old w) w u n → Sto (Old w) w (.agg #[v0, v1, v2, v3]) s → Box4 Bs v0 v1 v2 v3 w → BoxF Be (cloE Bs Be) w →
    Calls Try.prog 52 #[u, .pointer (some ⟨Bs, 0, none⟩), .pointer (some ⟨Be, 0, none⟩)] w (EndsP s n w)

set_option maxRecDepth 100000 in
set_option maxHeartbeats 8000000 in
theorem ends_step (s : Rm) (hm : mayR s = true) (l0 : Nat) (hr0 : ∀ j, l0 = j + 1 → EndsIs s j) : EndsIs s l0 := by
  intro u v0 v1 v2 v3 n Bs Be w hmn0 hlv hne hu h hBs hBe
  have hmn := Lib.hid hmn0
  obtain ⟨I, ci, rfl, -, -, -, hI⟩ := id hu.open
  obtain ⟨lw, hlw⟩ : ∃ q, n.1 = q := ⟨_, rfl⟩
  obtain ⟨l, hl⟩ : ∃ q, n.2 = q := ⟨_, rfl⟩
  obtain ⟨m, hlm⟩ : ∃ q, l.length = q := ⟨_, rfl⟩
  obtain ⟨R, hR⟩ : ∃ R, spanN s n = R := ⟨_, rfl⟩
  have hR0 := Lib.hid (fun (x y : It) (j : Nat) (h1 : n.1 = 0) (h2 : n.2[0]? = some x) (h3 : n.2.length = j + 1) (h4 : n.2[j]? = some y) => span_zero (s := s) h1 h2 h3 h4)
  have hR1 := Lib.hid (fun (j : Nat) (hj : n.1 = ((j + 1 : Nat) : Int)) => span_succ (s := s) hj)
  rw [hR] at hR0 hR1
  have hu' := hu
  rw [hl, hlm] at hI
  rw [hlw, hl, hlm] at hu'
  rw [hlw, hl, hlm] at hR0
  rw [hlw, hl] at hR1
  rw [hl, hlw, hlm]
  rw [hlw] at hlv
  rw [hl, hlm] at hne
  have hm5 : m ≤ 5 := by
    have := (mayN_of hmn.out).1.2.2.1
    rw [hl, hlm] at this
    exact this
  have HG0 : Bag w [BoxF Be (cloE Bs Be), Box4 Bs v0 v1 v2 v3, OldN (.agg #[.int .i64 lw, .slice I m ci]) n, OldIs (.slice I m ci) l, OldR (.agg #[v0, v1, v2, v3]) s] :=
    (((((Bag.nil w).add (F := OldR _ s) h (lasts_oldR _ _)).add (F := OldIs _ l) hI (lasts_oldIs _ _)).add (F := OldN _ n) hu' (lasts_oldN _ _)).add (F := Box4 _ _ _ _ _) hBs (lasts_box4 _ _ _ _ _)).add (F := BoxF _ _) hBe (lasts_boxF _ _)
  obtain ⟨w0, hw0, b0, hs0, hB0⟩ := box_pair' w (.int .i64 lw) (.slice I m ci) 64
  obtain ⟨w1, hw1, _, _, _, hs1, hB1, b1⟩ := box_three w0 (.int .u8 0) (.int .u32 0) (.int .u32 0) 37
  obtain ⟨w2, hw2, _, _, _, hs2, hB2, b2⟩ := box_three w1 (.int .u8 0) (.int .u32 0) (.int .u32 0) 37
  have HG := Lib.hid HG0
  have BB := Lib.hid ((hB0.trans (hB1.mono hB0.size)).trans (hB2.mono (hB0.trans (hB1.mono hB0.size)).size))
  have G0 : BoxW w.heap.size #[.int .i64 lw, .slice I m ci] 64 w2 := lasts_boxW _ _ _ _ _ (lasts_boxW _ _ _ _ _ b0 hB1) hB2
  have G1 : BoxW w0.heap.size #[.int .u8 0, .int .u32 0, .int .u32 0] 37 w2 := lasts_boxW _ _ _ _ _ b1 hB2
  have G2 : BoxW w1.heap.size #[.int .u8 0, .int .u32 0, .int .u32 0] 37 w2 := b2
  have lo : Hid (w.heap.size < w0.heap.size ∧ w0.heap.size < w1.heap.size ∧ w1.heap.size < w2.heap.size) := Lib.hid ⟨by omega, by omega, by omega⟩
  obtain ⟨y0, y1, _⟩ := two_cells G0
  replace hs2 := Lib.hid hs2
  replace hs1 := Lib.hid hs1
  replace hs0 := Lib.hid hs0
  replace hlw := Lib.hid hlw
  replace hl := Lib.hid hl
  replace hlm := Lib.hid hlm
  replace hlv := Lib.hid hlv
  replace hR := Lib.hid hR
  replace G0 := Lib.hid G0
  replace G1 := Lib.hid G1
  replace G2 := Lib.hid G2
  clear HG0 h hu hu' hB2 hB1 hB0 hI hBs hBe b0 b1 b2 hmn0
  obtain ⟨m1, hm1⟩ : ∃ j, m = j + 1 := ⟨m - 1, by omega⟩
  obtain ⟨x0, hx0⟩ : ∃ x, l[0]? = some x := ⟨_, List.getElem?_eq_getElem (by rw [hlm.out]; omega)⟩
  obtain ⟨yl, hyl⟩ : ∃ x, l[m1]? = some x := ⟨_, List.getElem?_eq_getElem (by rw [hlm.out]; omega)⟩
  have hx0' := Lib.hid hx0
  have hyl' := Lib.hid hyl
  have HW2 := Lib.hid (HG.out.below BB.out)
  obtain ⟨ad, E0, ce0, rfl, _, FX0⟩ := its_first (HW2.out.at 3 rfl : rIts (Old w2) w2 [.slice I m ci] l) hx0
  have FX := Lib.hid (fun W (hW : Below w2.heap.size w2 W) => (FX0 W hW).1)
  have iz : 0 < m := by omega
  cases l0 with
  | zero =>
    obtain ⟨ad', E6, ce6, e6, _, _, _, FY0⟩ := its_old (HW2.out.at 3 rfl : rIts (Old w2) w2 [.slice (some ad) m ci] l) hyl
    cases e6
    have FY := Lib.hid (fun W (hW : Below w2.heap.size w2 W) => (FY0 W hW).1)
    have e0 : lw = 0 := hlv.out
    subst e0
    obtain ⟨b, hb⟩ : ∃ b, leafO s l = b := ⟨_, rfl⟩
    have hfin := Lib.hid (hR0.out x0 yl m1 rfl hx0 hm1 hyl)
    rw [hb] at hfin
    replace hb := Lib.hid hb
    have i6 : (m : Int) - 1 = (m1 : Int) := by omega
    have i7 : (m1 : Int) < (m : Int) := by omega
    have i8 : (0 : Int) ≤ (m1 : Int) := by omega
    have i9 : IntKind.i64.wrap (m1 : Int) = (m1 : Int) := IntWalk.i64_in _ (by omega)
    have i0 : (0 : Int) < (m : Int) := by omega
    replace hm1 := Lib.hid hm1
    clear hR0 hR1 hx0 hyl FX0 FY0
    go_enter Try.func52, Try.ntmps52
    go_upto_region 1 with fail
    clear hw0 hw1 hw2
    go_wp2_with fail
    clear y0 y1
    obtain ⟨o4, ho4⟩ : ∃ o, (Obj.cells #[.int .u8 (x0.1.1.toNat : Int), .int .u32 x0.1.2.1, .int .u32 x0.1.2.2] 37 (0, 0)) = o := ⟨_, rfl⟩
    obtain ⟨o5, ho5⟩ : ∃ o, (Obj.cells #[.int .u8 (yl.1.1.toNat : Int), .int .u32 yl.1.2.1, .int .u32 yl.1.2.2] 37 (0, 0)) = o := ⟨_, rfl⟩
    obtain ⟨fin, hfn⟩ : ∃ f, finTwo w0.heap.size o4 w1.heap.size o5 = f := ⟨_, rfl⟩
    have fn4 : Hid (fin w0.heap.size = some o4) := Lib.hid (by rw [← hfn]; exact finTwo_one _ _ _ _)
    have fn5 : Hid (fin w1.heap.size = some o5) := Lib.hid (by rw [← hfn]; exact finTwo_two (by have := lo.out; omega) _ _)
    have fnl : Hid (∀ k, k < w0.heap.size → fin k = none) := Lib.hid fun k hk => by rw [← hfn]; exact finTwo_none (by omega) (by have := lo.out; omega) _ _
    replace ho4 := Lib.hid ho4
    replace ho5 := Lib.hid ho5
    replace hfn := Lib.hid hfn
    have HW0 := Lib.hid (fun W (hK : KeepT fin w2 W) => BB.out.trans (hK.below BB.out.size (fun k hk => fnl.out k (by have := lo.out; omega))))
    have hcl : Hid (∀ W, KeepT fin w2 W → Calls Try.prog 53 #[.agg #[v0, v1, v2, v3], .agg #[.int .i64 0, .slice (some ad) m ci]] W fun e W' => e = .returned (.bool b) ∧ Below W.heap.size W W') := Lib.hid fun W hK => by
      have HW := HG.out.below (HW0.out W hK)
      have := held_any _ _ s hm n hmn.out W (HW.at 4 rfl) (HW.at 2 rfl)
      rw [hl.out, hb.out] at this
      exact this
    have FXK : Hid (∀ W, KeepT fin w2 W → ∃ d, At5 W ad x0 d) := Lib.hid fun W hK => by
      obtain ⟨_, _, _, e, _, F⟩ := its_first ((HG.out.below (HW0.out W hK)).at 3 rfl : rIts (Old W) W [.slice (some ad) m ci] l) hx0'.out
      cases e
      exact ⟨_, (F W (Below.refl _ _)).1⟩
    have FYK : Hid (∀ W, KeepT fin w2 W → ∃ d, At5 W (ad.add (m1 * 5)) yl d) := Lib.hid fun W hK => by
      obtain ⟨_, _, _, e, _, _, _, F⟩ := its_old ((HG.out.below (HW0.out W hK)).at 3 rfl : rIts (Old W) W [.slice (some ad) m ci] l) hyl'.out
      cases e
      exact ⟨_, (F W (Below.refl _ _)).1⟩
    have KS : Hid (∀ W, KeepT fin w2 W → W.heap[w.heap.size]? = some (.cells #[.int .i64 0, .slice (some ad) m ci] 64 (0, 0))) := Lib.hid fun W hK => hK.other (fnl.out _ lo.out.1) G0.out
    have K4 : Hid (∀ W, KeepT fin w2 W → ∃ a b c, W.heap[w0.heap.size]? = some (.cells #[a, b, c] 37 (0, 0))) := Lib.hid fun W hK => by
      rcases hK.box fn4.out G1.out with e | e
      · exact ⟨_, _, _, e⟩
      · rw [← ho4.out] at e; exact ⟨_, _, _, e⟩
    have K5 : Hid (∀ W, KeepT fin w2 W → ∃ a b c, W.heap[w1.heap.size]? = some (.cells #[a, b, c] 37 (0, 0))) := Lib.hid fun W hK => by
      rcases hK.box fn5.out G2.out with e | e
      · exact ⟨_, _, _, e⟩
      · rw [← ho5.out] at e; exact ⟨_, _, _, e⟩
    refine Rb.wp_region_fx (KeepT fin) (by kernel_rfl) (fun W => KeepT fin w2 W) (fun i => match i with
      | 17 => some (fun _ W => W.heap[w0.heap.size]? = some o4)
      | 18 => some (fun _ W => W.heap[w1.heap.size]? = some o5)
      | _ => none) (fun i => match i with
      | 16 => some (.bool b)
      | _ => none) (by kernel_rfl) (KeepT.refl _ _).drew (fun w w' h hb => h.trans hb) ?tst ?_
    case tst =>
      intro j φ x W W' hp hx hb
      match j, hp with
      | 17, hp => cases hp; exact hb.done fn4.out hx
      | 18, hp => cases hp; exact hb.done fn5.out hx
    repeat (first
      | (refine Rb.wpAs_skip rfl ?_; simp only [Act.put, List.setIfInBounds_toArray, List.set_cons_zero, List.set_cons_succ])
      | (refine Rb.wpAs_pure (v := ?_) rfl rfl ?_ ?_; rotate_left; (intro W hC hE; clear hE; (obtain ⟨y0, y1, _⟩ := two_cells (KS.out W hC); obtain ⟨_, z0, z1, z2, _, _⟩ := FXK.out W hC; obtain ⟨_, u0, u1, u2, _, _⟩ := FYK.out W hC; obtain ⟨k0, k1, k2, k3, _⟩ := (HG.out.below (HW0.out W hC)).at 1 rfl); clear hC; go_simp; done); simp only [Act.put, List.setIfInBounds_toArray, List.set_cons_zero, List.set_cons_succ])
      | (refine Rb.wpAs_pure (v := ?_) rfl rfl ?_ ?_; rotate_left; (intro W hC hE; clear hE; (obtain ⟨y0, y1, _⟩ := two_cells (KS.out W hC); obtain ⟨_, z0, z1, z2, _, _⟩ := FXK.out W hC; obtain ⟨_, u0, u1, u2, _, _⟩ := FYK.out W hC; obtain ⟨k0, k1, k2, k3, _⟩ := (HG.out.below (HW0.out W hC)).at 1 rfl); clear hC; go_simp; with_reducible rfl); simp only [Act.put, List.setIfInBounds_toArray, List.set_cons_zero, List.set_cons_succ]))
    refine Rb.wpAs_fixed rfl rfl rfl ?_ ?_
    · intro W hC hE
      clear hE
      refine Rb.does_enter (f := 53) (args := #[.agg #[v0, v1, v2, v3], .agg #[.int .i64 0, .slice (some ad) m ci]]) ?_ ?_
      · go_simp
      · refine (hcl.out W hC).mono ?_
        rintro e W' ⟨rfl, hg⟩
        exact ⟨_, rfl, rfl, KeepT.of_below hg⟩
    simp only [Act.put, List.setIfInBounds_toArray, List.set_cons_zero, List.set_cons_succ]
    refine Rb.wpAs_act rfl rfl ?_ ?_
    · intro W hC hE
      clear hE
      obtain ⟨a, b, c, G⟩ := K4.out W hC
      obtain ⟨q0, q1, q2, q3, _⟩ := three_cells G
      obtain ⟨W1, hW1, g1, gr1, _⟩ := put_three (a' := .int .u8 (x0.1.1.toNat : Int)) (b' := .int .u32 x0.1.2.1) (c' := .int .u32 x0.1.2.2) G
      rw [ho4.out] at g1
      have hk := Lib.hid (KeepT.of_grown gr1 fn4.out g1)
      replace g1 := Lib.hid g1
      clear gr1 G hC
      go_simp
      exact ⟨g1.out, hk.out⟩
    simp only [Act.put, Rb.envAdd]
    intro _
    refine Rb.wpAs_act rfl rfl ?_ ?_
    · intro W hC hE
      clear hE
      obtain ⟨a, b, c, G⟩ := K5.out W hC
      obtain ⟨q0, q1, q2, q3, _⟩ := three_cells G
      obtain ⟨W1, hW1, g1, gr1, _⟩ := put_three (a' := .int .u8 (yl.1.1.toNat : Int)) (b' := .int .u32 yl.1.2.1) (c' := .int .u32 yl.1.2.2) G
      rw [ho5.out] at g1
      have hk := Lib.hid (KeepT.of_grown gr1 fn5.out g1)
      replace g1 := Lib.hid g1
      clear gr1 G hC
      go_simp
      exact ⟨g1.out, hk.out⟩
    simp only [Act.put, Rb.envAdd]
    intro _
    repeat (first
      | (refine Rb.wpAs_skip rfl ?_; simp only [Act.put, List.setIfInBounds_toArray, List.set_cons_zero, List.set_cons_succ])
      | (refine Rb.wpAs_pure (v := ?_) rfl rfl ?_ ?_; rotate_left; (intro W hC hE; clear hE; skip; clear hC; go_simp; done); simp only [Act.put, List.setIfInBounds_toArray, List.set_cons_zero, List.set_cons_succ])
      | (refine Rb.wpAs_pure (v := ?_) rfl rfl ?_ ?_; rotate_left; (intro W hC hE; clear hE; skip; clear hC; go_simp; with_reducible rfl); simp only [Act.put, List.setIfInBounds_toArray, List.set_cons_zero, List.set_cons_succ]))
    refine Rb.wpAs_end fun W hC hE => ?_
    have e5 := hE.1
    have e4 := hE.2.1
    have hB9 := Lib.hid (HW0.out W hC)
    rw [← ho4.out] at e4
    rw [← ho5.out] at e5
    obtain ⟨n0, n1, n2, _⟩ := three_cells e4
    obtain ⟨q0, q1, q2, _⟩ := three_cells e5
    replace e4 := Lib.hid e4
    replace e5 := Lib.hid e5
    clear hE hC
    go_wp2_with fail
    refine bodyPost_ret (v := .tuple #[kyV x0.1, kyV yl.1, .bool b]) (by simp [results, go_sem, n0, n1, n2, q0, q1, q2]) rfl ?_
    exact ends_ret (x0.1) (yl.1) b (hR.out.trans hfin.out) hB9.out
  | succ l1 =>
    have hrec := Lib.hid (hr0 l1 rfl)
    have c0 : (lw == 0) = false := by have := hlv.out; simp; omega
    have c1 : lw - 1 = (l1 : Int) := by have := hlv.out; omega
    have c2 : IntKind.i64.wrap (l1 : Int) = (l1 : Int) := by
      have := (mayN_of hmn.out).1.2.1
      rw [hlw.out, hlv.out] at this
      exact IntWalk.i64_in _ (by omega)
    have hRC : Hid (R = chainO (spanO s l1) l) := Lib.hid (hR1.out l1 hlv.out)
    replace hm1 := Lib.hid hm1
    clear hR0 hR1 hx0 hyl FX0
    go_enter Try.func52, Try.ntmps52
    go_upto_region 1 with fail
    clear hw0 hw1 hw2
    go_wp2_with fail
    clear y0 y1
    go_loopw [37] (fun vi wr => ∃ (k : Nat) (t : Ky), k ≤ m ∧ vi = .int .i64 k ∧ StC (spanO s l1) l k t ∧ Below w.heap.size w wr ∧ w2.heap.size ≤ wr.heap.size ∧ BoxW w.heap.size #[.int .i64 lw, .slice (some ad) m ci] 64 wr ∧ BoxW w0.heap.size #[.int .u8 0, .int .u32 0, .int .u32 0] 37 wr ∧ BoxW w1.heap.size #[.int .u8 (t.1.toNat : Int), .int .u32 t.2.1, .int .u32 t.2.2] 37 wr) (fun vi _ => m - (intOf vi).toNat)
    case atStart => exact ⟨0, keyZ, by omega, rfl, .inl rfl, BB.out, Nat.le_refl _, G0.out, G1.out, G2.out⟩
    case round =>
      obtain ⟨k, t, hk, rfl, hst, hbr, hsz, g0, g1, g2⟩ := hrel
      have HR := Lib.hid (HG.out.below hbr)
      have BR := Lib.hid hbr
      have SZ := Lib.hid hsz
      clear hbr hsz
      by_cases hlt : k < m
      case neg =>
        have hkm : k = m := by omega
        have hf : Hid (R = some (x0.1, t)) := Lib.hid (by
          subst hkm
          rcases hst with e | ⟨f, e⟩
          · omega
          · have e1 := chain_key hx0'.out (by omega) (by rw [hlm.out]; omega) e
            rw [List.take_of_length_le (by rw [hlm.out]; omega)] at e
            rw [hRC.out, e, ← e1])
        have i0 : (0 : Int) < (m : Int) := by omega
        have FXr := Lib.hid (fun W (hW : Below wr.heap.size wr W) => (its_first (HR.out.at 3 rfl : rIts (Old wr) wr [.slice (some ad) m ci] l) hx0'.out))
        obtain ⟨ad', E6, ce6, e6, _, FZ⟩ := its_first (HR.out.at 3 rfl : rIts (Old wr) wr [.slice (some ad) m ci] l) hx0'.out
        cases e6
        have FZ' := Lib.hid (fun W (hW : Below wr.heap.size wr W) => (FZ W hW).1)
        replace hst := Lib.hid hst
        replace g0 := Lib.hid g0
        replace g1 := Lib.hid g1
        replace g2 := Lib.hid g2
        clear FXr FZ hkm
        go_upto_region 14 with fail
        obtain ⟨y0, y1, _⟩ := two_cells g0.out
        obtain ⟨z0, z1, z2, _, _⟩ := FZ'.out wr (Below.refl _ _)
        have G4 : wr.heap[w0.heap.size]? = _ := g1.out
        have G5 : wr.heap[w1.heap.size]? = _ := g2.out
        obtain ⟨q0, q1, q2, q3, _⟩ := three_cells G5
        have BW := Lib.hid BR.out
        obtain ⟨W8, hW8, g8, gr8, gs8⟩ := put_three (a' := .int .u8 ((x0.1).1.toNat : Int)) (b' := .int .u32 (x0.1).2.1) (c' := .int .u32 (x0.1).2.2) G4
        have G8 : W8.heap[w1.heap.size]? = _ := (gr8.block w1.heap.size (Array.getElem?_eq_some_iff.1 G5).1 (by simp; have := lo.out; omega)).trans G5
        obtain ⟨W9, hW9, g9, gr9, gs9⟩ := put_three (a' := .int .u8 ((t).1.toNat : Int)) (b' := .int .u32 (t).2.1) (c' := .int .u32 (t).2.2) G8
        have g8' : W9.heap[w0.heap.size]? = _ := (gr9.block w0.heap.size (Array.getElem?_eq_some_iff.1 g8).1 (by simp; have := lo.out; omega)).trans g8
        obtain ⟨f4, f5, f6, f7, _⟩ := three_cells G4
        obtain ⟨j4, j5, j6, j7, _⟩ := three_cells G8
        obtain ⟨n0, n1, n2, _, _⟩ := three_cells g8'
        obtain ⟨o0, o1, o2, _, _⟩ := three_cells g9
        have hB9 := Lib.hid ((BW.out.grown gr8 BW.out.size (fun q e => by cases e; have := lo.out; omega)).grown gr9 (Nat.le_trans BW.out.size gr8.size) (fun q e => by cases e; have := lo.out; omega))
        replace G4 := Lib.hid G4
        replace G5 := Lib.hid G5
        replace G8 := Lib.hid G8
        replace g8 := Lib.hid g8
        replace g8' := Lib.hid g8'
        replace g9 := Lib.hid g9
        clear gr8 gr9 gs8 gs9
        go_region
        all_goals
          go_wp2_with fail
          refine bodyPost_ret (v := .tuple #[kyV x0.1, kyV t, .bool true]) (by simp [results, go_sem, n0, n1, n2, o0, o1, o2]) rfl ?_
          exact ends_ret (x0.1) (t) true (hR.out.trans hf.out) (below_drewN hB9.out _)
      obtain ⟨x, hx⟩ : ∃ x, l[k]? = some x := ⟨_, List.getElem?_eq_getElem (by rw [hlm.out]; exact hlt)⟩
      obtain ⟨ad', E5, ce5, e5, _, _, _, FZ⟩ := its_old (HR.out.at 3 rfl : rIts (Old wr) wr [.slice (some ad) m ci] l) hx
      cases e5
      obtain ⟨⟨z0, z1, z2, z3, z4⟩, _⟩ := FZ wr (Below.refl _ _)
      have hno1 := Lib.hid (fun h1 => hRC.out.trans (chain_no1 (g := spanO s l1) hx h1))
      have hno2 := Lib.hid (fun p h1 h2 => hRC.out.trans (chain_no2 (g := spanO s l1) (p := p) hx h1 h2))
      have hno3 := Lib.hid (fun h1 h2 => hRC.out.trans (chain_no3 (g := spanO s l1) hx h1 hst h2))
      have hyes := Lib.hid (fun p h1 h2 h3 => chain_yes (g := spanO s l1) (p := p) hx hst h1 h2 h3)
      have i4 : (0 : Int) ≤ (k : Int) := by omega
      have i5 : (k : Int) < (m : Int) := by omega
      replace hst := Lib.hid hst
      replace hx := Lib.hid hx
      obtain ⟨w3, hw3, hg3, hB3, -, hs3⟩ := bag_item (((HR.out.add (F := BoxW _ _ _) g2 (lasts_boxW _ _ _)).add (F := BoxW _ _ _) g1 (lasts_boxW _ _ _)).add (F := BoxW _ _ _) g0 (lasts_boxW _ _ _)) (Below.refl _ _) (.int .u8 (x.1.1.toNat : Int)) (.int .u32 x.1.2.1) (.int .u32 x.1.2.2) (.int .i64 x.2.1) (.slice E5 x.2.2.length ce5)
      have H3 := Lib.hid hg3
      have B3 := Lib.hid (BR.out.trans (hB3.mono BR.out.size))
      have S3 := Lib.hid (Nat.le_trans SZ.out hB3.size)
      replace hs3 := Lib.hid hs3
      clear FZ hg3 hB3 g0 g1 g2 HR BR SZ
      go_upto_region 6 with fail
      clear hw3 z0 z1 z2 z3 z4
      obtain ⟨k0, k1, k2, k3, _⟩ := H3.out.at 5 rfl
      obtain ⟨r0, r1, r2, r3, r4, _⟩ := H3.out.at 0 rfl
      have hNd := Lib.hid (fun v W hW => nodeR_open v s x.2.1 W hW)
      have hmy := Lib.hid (fun hh => (rm_may (s := s) (a := x.2.1) hh).1)
      have hsn := Lib.hid (fun hh => hno1.out (span_no (s := s) (l := l1) (a := x.2.1) hh))
      have hsy := Lib.hid (fun h1 h2 => span_yes (s := s) (l := l1) (a := x.2.1) h1 h2)
      obtain ⟨nb, hnb⟩ : ∃ q, rmV s x.2.1 = q := ⟨_, rfl⟩
      obtain ⟨eb, heb⟩ : ∃ q, rmE s x.2.1 = q := ⟨_, rfl⟩
      rw [hnb, heb] at hNd hsn hsy
      rw [hnb, heb] at hmy
      obtain ⟨lb, hlb⟩ : ∃ q, nb.1 = q := ⟨_, rfl⟩
      obtain ⟨mb, hmb⟩ : ∃ q, nb.2.length = q := ⟨_, rfl⟩
      rw [hlb, hmb] at hNd hsn
      rw [hlb] at hsy
      replace hnb := Lib.hid hnb
      replace heb := Lib.hid heb
      replace hlb := Lib.hid hlb
      replace hmb := Lib.hid hmb
      go_wp2_with fail
      with_reducible refine (hNd.out _ _ (H3.out.at 8 rfl)).mono ?_
      rintro e w4 ⟨Z, zc, rfl, -, h4n, hb4⟩
      obtain ⟨w5, hw5, hg5, hB5, -, hs5⟩ := bag_node ((H3.out.below hb4).add (F := OldN _ nb) h4n.drop (lasts_oldN _ _)) (Below.refl _ _) (.int .i64 lb) (.slice Z mb zc)
      have H5 := Lib.hid hg5
      have B5 := Lib.hid (B3.out.trans ((hb4.trans (hB5.mono hb4.size)).mono B3.out.size))
      have S5 := Lib.hid (Nat.le_trans S3.out (hb4.trans (hB5.mono hb4.size)).size)
      replace hs5 := Lib.hid hs5
      clear k0 k1 k2 k3 r0 r1 r2 r3 r4 hg5 hB5 hb4 h4n H3 B3 S3 hNd
      go_upto_region 7 with fail
      clear hw5
      obtain ⟨y0, y1, _⟩ := H5.out.at 0 rfl
      obtain ⟨f0, f1, _⟩ := two_cells (H5.out.at 3 rfl)
      by_cases he : eb = 0
      case neg =>
        have e1 : (eb != 0) = true := by simpa using he
        have hf := Lib.hid (hsn.out (fun hh => he hh.1))
        clear he
        have G4 : w5.heap[w0.heap.size]? = _ := H5.out.at 4 rfl
        have G5 : w5.heap[w1.heap.size]? = _ := H5.out.at 5 rfl
        have BW := Lib.hid B5.out
        obtain ⟨W8, hW8, g8, gr8, gs8⟩ := put_three (a' := .int .u8 0) (b' := .int .u32 0) (c' := .int .u32 0) G4
        have G8 : W8.heap[w1.heap.size]? = _ := (gr8.block w1.heap.size (Array.getElem?_eq_some_iff.1 G5).1 (by simp; have := lo.out; omega)).trans G5
        obtain ⟨W9, hW9, g9, gr9, gs9⟩ := put_three (a' := .int .u8 0) (b' := .int .u32 0) (c' := .int .u32 0) G8
        have g8' : W9.heap[w0.heap.size]? = _ := (gr9.block w0.heap.size (Array.getElem?_eq_some_iff.1 g8).1 (by simp; have := lo.out; omega)).trans g8
        obtain ⟨f4, f5, f6, f7, _⟩ := three_cells G4
        obtain ⟨j4, j5, j6, j7, _⟩ := three_cells G8
        obtain ⟨n0, n1, n2, _, _⟩ := three_cells g8'
        obtain ⟨o0, o1, o2, _, _⟩ := three_cells g9
        have hB9 := Lib.hid ((BW.out.grown gr8 BW.out.size (fun q e => by cases e; have := lo.out; omega)).grown gr9 (Nat.le_trans BW.out.size gr8.size) (fun q e => by cases e; have := lo.out; omega))
        replace G4 := Lib.hid G4
        replace G5 := Lib.hid G5
        replace G8 := Lib.hid G8
        replace g8 := Lib.hid g8
        replace g8' := Lib.hid g8'
        replace g9 := Lib.hid g9
        clear gr8 gr9 gs8 gs9
        go_wp2_with fail
        refine bodyPost_ret (v := .tuple #[.agg #[.int .u8 0, .int .u32 0, .int .u32 0], .agg #[.int .u8 0, .int .u32 0, .int .u32 0], .bool false]) (by simp [results, go_sem, n0, n1, n2, o0, o1, o2]) rfl ?_
        exact ends_ret (keyZ) (keyZ) false (hR.out.trans hf.out) hB9.out
      subst he
      by_cases hv : lb = (l1 : Int)
      case neg =>
        have e1 : (lb != (l1 : Int)) = true := by simpa using hv
        have hf := Lib.hid (hsn.out (fun hh => hv hh.2.1))
        clear hv
        have G4 : w5.heap[w0.heap.size]? = _ := H5.out.at 4 rfl
        have G5 : w5.heap[w1.heap.size]? = _ := H5.out.at 5 rfl
        have BW := Lib.hid B5.out
        obtain ⟨W8, hW8, g8, gr8, gs8⟩ := put_three (a' := .int .u8 0) (b' := .int .u32 0) (c' := .int .u32 0) G4
        have G8 : W8.heap[w1.heap.size]? = _ := (gr8.block w1.heap.size (Array.getElem?_eq_some_iff.1 G5).1 (by simp; have := lo.out; omega)).trans G5
        obtain ⟨W9, hW9, g9, gr9, gs9⟩ := put_three (a' := .int .u8 0) (b' := .int .u32 0) (c' := .int .u32 0) G8
        have g8' : W9.heap[w0.heap.size]? = _ := (gr9.block w0.heap.size (Array.getElem?_eq_some_iff.1 g8).1 (by simp; have := lo.out; omega)).trans g8
        obtain ⟨f4, f5, f6, f7, _⟩ := three_cells G4
        obtain ⟨j4, j5, j6, j7, _⟩ := three_cells G8
        obtain ⟨n0, n1, n2, _, _⟩ := three_cells g8'
        obtain ⟨o0, o1, o2, _, _⟩ := three_cells g9
        have hB9 := Lib.hid ((BW.out.grown gr8 BW.out.size (fun q e => by cases e; have := lo.out; omega)).grown gr9 (Nat.le_trans BW.out.size gr8.size) (fun q e => by cases e; have := lo.out; omega))
        replace G4 := Lib.hid G4
        replace G5 := Lib.hid G5
        replace G8 := Lib.hid G8
        replace g8 := Lib.hid g8
        replace g8' := Lib.hid g8'
        replace g9 := Lib.hid g9
        clear gr8 gr9 gs8 gs9
        go_wp2_with fail
        refine bodyPost_ret (v := .tuple #[.agg #[.int .u8 0, .int .u32 0, .int .u32 0], .agg #[.int .u8 0, .int .u32 0, .int .u32 0], .bool false]) (by simp [results, go_sem, n0, n1, n2, o0, o1, o2]) rfl ?_
        exact ends_ret (keyZ) (keyZ) false (hR.out.trans hf.out) hB9.out
      have e1 : (lb != (l1 : Int)) = false := by simp [hv]
      replace hv := Lib.hid hv
      by_cases hz : mb = 0
      · have e2 : ((mb : Int) == 0) = true := by simp [hz]
        have hf := Lib.hid (hsn.out (fun hh => hh.2.2 hz))
        replace hz := Lib.hid hz
        have G4 : w5.heap[w0.heap.size]? = _ := H5.out.at 4 rfl
        have G5 : w5.heap[w1.heap.size]? = _ := H5.out.at 5 rfl
        have BW := Lib.hid B5.out
        obtain ⟨W8, hW8, g8, gr8, gs8⟩ := put_three (a' := .int .u8 0) (b' := .int .u32 0) (c' := .int .u32 0) G4
        have G8 : W8.heap[w1.heap.size]? = _ := (gr8.block w1.heap.size (Array.getElem?_eq_some_iff.1 G5).1 (by simp; have := lo.out; omega)).trans G5
        obtain ⟨W9, hW9, g9, gr9, gs9⟩ := put_three (a' := .int .u8 0) (b' := .int .u32 0) (c' := .int .u32 0) G8
        have g8' : W9.heap[w0.heap.size]? = _ := (gr9.block w0.heap.size (Array.getElem?_eq_some_iff.1 g8).1 (by simp; have := lo.out; omega)).trans g8
        obtain ⟨f4, f5, f6, f7, _⟩ := three_cells G4
        obtain ⟨j4, j5, j6, j7, _⟩ := three_cells G8
        obtain ⟨n0, n1, n2, _, _⟩ := three_cells g8'
        obtain ⟨o0, o1, o2, _, _⟩ := three_cells g9
        have hB9 := Lib.hid ((BW.out.grown gr8 BW.out.size (fun q e => by cases e; have := lo.out; omega)).grown gr9 (Nat.le_trans BW.out.size gr8.size) (fun q e => by cases e; have := lo.out; omega))
        replace G4 := Lib.hid G4
        replace G5 := Lib.hid G5
        replace G8 := Lib.hid G8
        replace g8 := Lib.hid g8
        replace g8' := Lib.hid g8'
        replace g9 := Lib.hid g9
        clear gr8 gr9 gs8 gs9
        go_wp2_with fail
        refine bodyPost_ret (v := .tuple #[.agg #[.int .u8 0, .int .u32 0, .int .u32 0], .agg #[.int .u8 0, .int .u32 0, .int .u32 0], .bool false]) (by simp [results, go_sem, n0, n1, n2, o0, o1, o2]) rfl ?_
        exact ends_ret (keyZ) (keyZ) false (hR.out.trans hf.out) hB9.out
      have e2 : ((mb : Int) == 0) = false := by simpa using hz
      replace hz := Lib.hid hz
      have hspan := Lib.hid (hsy.out rfl hv.out)
      have hmb' := Lib.hid (hmy.out rfl)
      obtain ⟨c3, c4⟩ := (H5.out.at 6 rfl : BoxF Be (cloE Bs Be) w5)
      have hcall := Lib.hid (hrec.out (.agg #[.int .i64 lb, .slice Z mb zc]) v0 v1 v2 v3 nb Bs Be w5 hmb'.out (by rw [hlb.out, hv.out]) (by rw [hmb.out]; exact hz.out) (H5.out.at 1 rfl) (H5.out.at 10 rfl) (H5.out.at 7 rfl) (H5.out.at 6 rfl))
      clear hsn hsy hmy
      go_upto_region 9 with fail
      clear e1 e2 f0 f1
      go_wp2_with fail
      with_reducible refine hcall.out.mono ?_
      rintro e w6 ⟨f', t', ok, rfl, hsp, hb6⟩
      obtain ⟨w7, hw7, p0, p1, p2, hs7, hB7, _⟩ := box_three w6 (.int .u8 (f'.1.toNat : Int)) (.int .u32 f'.2.1) (.int .u32 f'.2.2) 37
      have hg7 := ((H5.out.below hb6).below hB7).add (F := Box3 w6.heap.size _ _ _) ⟨p0, p1, p2, by omega⟩ (lasts_box3 _ _ _ _)
      obtain ⟨w8, hw8, hg8, hB8, hB8', hs8⟩ := bag_key hg7 (Below.refl _ _) (.int .u8 (t'.1.toNat : Int)) (.int .u32 t'.2.1) (.int .u32 t'.2.2)
      have H8 := Lib.hid hg8
      have hb8 := hb6.trans ((hB7.trans (hB8.mono hB7.size)).mono hb6.size)
      have B8 := Lib.hid (B5.out.trans (hb8.mono B5.out.size))
      have S8 := Lib.hid (Nat.le_trans S5.out hb8.size)
      replace hs8 := Lib.hid hs8
      clear p0 p1 p2 hg7 hg8 hB7 hB8 hB8' hb6 hb8 y0 y1 c3 c4 hcall H5 B5 S5
      go_upto_region 10 with fail
      clear hw7 hw8
      obtain ⟨p0, p1, p2, _⟩ := H8.out.at 1 rfl
      obtain ⟨q0, q1, q2, _⟩ := H8.out.at 0 rfl
      rw [hs7] at q0 q1 q2
      replace hs7 := Lib.hid hs7
      obtain ⟨r0, r1, r2, r3, r4, _⟩ := H8.out.at 4 rfl
      have hg2 : w8.heap[w1.heap.size]? = _ := H8.out.at 7 rfl
      obtain ⟨d0, d1, d2, d3, _⟩ := three_cells hg2
      have G4 : w8.heap[w0.heap.size]? = _ := H8.out.at 6 rfl
      have G5 : w8.heap[w1.heap.size]? = _ := H8.out.at 7 rfl
      have BW := Lib.hid B8.out
      replace hg2 := Lib.hid hg2
      cases ok with
      | false =>
        have hf := Lib.hid (hno1.out (hspan.out.trans hsp))
        clear d3 hno2 hno3 hyes
        obtain ⟨W8, hW8, g8, gr8, gs8⟩ := put_three (a' := .int .u8 0) (b' := .int .u32 0) (c' := .int .u32 0) G4
        have G8 : W8.heap[w1.heap.size]? = _ := (gr8.block w1.heap.size (Array.getElem?_eq_some_iff.1 G5).1 (by simp; have := lo.out; omega)).trans G5
        obtain ⟨W9, hW9, g9, gr9, gs9⟩ := put_three (a' := .int .u8 0) (b' := .int .u32 0) (c' := .int .u32 0) G8
        have g8' : W9.heap[w0.heap.size]? = _ := (gr9.block w0.heap.size (Array.getElem?_eq_some_iff.1 g8).1 (by simp; have := lo.out; omega)).trans g8
        obtain ⟨f4, f5, f6, f7, _⟩ := three_cells G4
        obtain ⟨j4, j5, j6, j7, _⟩ := three_cells G8
        obtain ⟨n0, n1, n2, _, _⟩ := three_cells g8'
        obtain ⟨o0, o1, o2, _, _⟩ := three_cells g9
        have hB9 := Lib.hid ((BW.out.grown gr8 BW.out.size (fun q e => by cases e; have := lo.out; omega)).grown gr9 (Nat.le_trans BW.out.size gr8.size) (fun q e => by cases e; have := lo.out; omega))
        replace G4 := Lib.hid G4
        replace G5 := Lib.hid G5
        replace G8 := Lib.hid G8
        replace g8 := Lib.hid g8
        replace g8' := Lib.hid g8'
        replace g9 := Lib.hid g9
        clear gr8 gr9 gs8 gs9
        go_wp2_with fail
        refine bodyPost_ret (v := .tuple #[.agg #[.int .u8 0, .int .u32 0, .int .u32 0], .agg #[.int .u8 0, .int .u32 0, .int .u32 0], .bool false]) (by simp [results, go_sem, n0, n1, n2, o0, o1, o2]) rfl ?_
        exact ends_ret (keyZ) (keyZ) false (hR.out.trans hf.out) hB9.out
      | true =>
      have hsp' := Lib.hid (hspan.out.trans (hsp.trans (if_pos rfl)))
      have hke := key_eq f' x.1
      have hkg := key_guard
      unfold kyV at hke
      by_cases hkk : f' = x.1
      case neg =>
        have g3 : decide (f' = x.1) = false := by simpa using hkk
        rw [g3] at hke
        have hf := Lib.hid (hno2.out _ hsp'.out hkk)
        clear d3 hkk hno1 hno2 hno3 hyes
        obtain ⟨W8, hW8, g8, gr8, gs8⟩ := put_three (a' := .int .u8 0) (b' := .int .u32 0) (c' := .int .u32 0) G4
        have G8 : W8.heap[w1.heap.size]? = _ := (gr8.block w1.heap.size (Array.getElem?_eq_some_iff.1 G5).1 (by simp; have := lo.out; omega)).trans G5
        obtain ⟨W9, hW9, g9, gr9, gs9⟩ := put_three (a' := .int .u8 0) (b' := .int .u32 0) (c' := .int .u32 0) G8
        have g8' : W9.heap[w0.heap.size]? = _ := (gr9.block w0.heap.size (Array.getElem?_eq_some_iff.1 g8).1 (by simp; have := lo.out; omega)).trans g8
        obtain ⟨f4, f5, f6, f7, _⟩ := three_cells G4
        obtain ⟨j4, j5, j6, j7, _⟩ := three_cells G8
        obtain ⟨n0, n1, n2, _, _⟩ := three_cells g8'
        obtain ⟨o0, o1, o2, _, _⟩ := three_cells g9
        have hB9 := Lib.hid ((BW.out.grown gr8 BW.out.size (fun q e => by cases e; have := lo.out; omega)).grown gr9 (Nat.le_trans BW.out.size gr8.size) (fun q e => by cases e; have := lo.out; omega))
        replace G4 := Lib.hid G4
        replace G5 := Lib.hid G5
        replace G8 := Lib.hid G8
        replace g8 := Lib.hid g8
        replace g8' := Lib.hid g8'
        replace g9 := Lib.hid g9
        clear gr8 gr9 gs8 gs9
        go_wp2_with fail
        refine bodyPost_ret (v := .tuple #[.agg #[.int .u8 0, .int .u32 0, .int .u32 0], .agg #[.int .u8 0, .int .u32 0, .int .u32 0], .bool false]) (by simp [results, go_sem, n0, n1, n2, o0, o1, o2]) rfl ?_
        exact ends_ret (keyZ) (keyZ) false (hR.out.trans hf.out) hB9.out
      have g3 : decide (f' = x.1) = true := by simpa using hkk
      rw [g3] at hke
      have hkk' := Lib.hid hkk
      clear hkk hno1 hno2 hsp
      by_cases hk0 : k = 0
      · have i0 : ¬ (0 : Int) < (k : Int) := by omega
        have hn := Lib.hid (hyes.out (f', t') (fun hh => absurd hk0 hh) hsp'.out hkk'.out)
        have hk0' := Lib.hid hk0
        clear hk0
        obtain ⟨W9, hW9, g9, gr9, gs9⟩ := put_three (a' := .int .u8 (t'.1.toNat : Int)) (b' := .int .u32 t'.2.1) (c' := .int .u32 t'.2.2) hg2.out
        have hB9 := Lib.hid (BW.out.grown gr9 BW.out.size (fun q e => by cases e; have := lo.out; omega))
        have S9 := Lib.hid (Nat.le_trans S8.out gr9.size)
        have b9 := Lib.hid ((gr9.block w.heap.size (by have := lo.out; have := S8.out; omega) (by simp; have := lo.out; omega)).trans (H8.out.at 5 rfl))
        have c9 := Lib.hid ((gr9.block w0.heap.size (by have := lo.out; have := S8.out; omega) (by simp; have := lo.out; omega)).trans (H8.out.at 6 rfl))
        replace g9 := Lib.hid g9
        clear gr9 gs9
        go_wp2_with fail
        go_roundw
        case rel => exact ⟨k + 1, t', by omega, by go_num, hn.out, hB9.out, S9.out, b9.out, c9.out, g9.out⟩
        case measure => simp [intOf]; omega
      · have i0 : (0 : Int) < (k : Int) := by omega
        obtain ⟨q, hq⟩ : ∃ q, lessK t x.1 = q := ⟨_, rfl⟩
        have hls := Lib.hid (less_any t x.1 w8)
        rw [hq] at hls
        go_wp2_with fail
        with_reducible refine hls.out.mono ?_
        rintro e w9 ⟨rfl, hb9⟩
        cases q with
        | false =>
          have hf := Lib.hid (hno3.out hk0 hq)
          replace G4 := (hb9.block w0.heap.size (by have := lo.out; have := S8.out; omega)).trans G4
          replace G5 := (hb9.block w1.heap.size (by have := lo.out; have := S8.out; omega)).trans G5
          replace BW := Lib.hid (B8.out.trans (hb9.mono B8.out.size))
          replace hq := Lib.hid hq
          clear d0 d1 d2 d3 hb9 hno3 hyes hk0
          obtain ⟨W8, hW8, g8, gr8, gs8⟩ := put_three (a' := .int .u8 0) (b' := .int .u32 0) (c' := .int .u32 0) G4
          have G8 : W8.heap[w1.heap.size]? = _ := (gr8.block w1.heap.size (Array.getElem?_eq_some_iff.1 G5).1 (by simp; have := lo.out; omega)).trans G5
          obtain ⟨W9, hW9, g9, gr9, gs9⟩ := put_three (a' := .int .u8 0) (b' := .int .u32 0) (c' := .int .u32 0) G8
          have g8' : W9.heap[w0.heap.size]? = _ := (gr9.block w0.heap.size (Array.getElem?_eq_some_iff.1 g8).1 (by simp; have := lo.out; omega)).trans g8
          obtain ⟨f4, f5, f6, f7, _⟩ := three_cells G4
          obtain ⟨j4, j5, j6, j7, _⟩ := three_cells G8
          obtain ⟨n0, n1, n2, _, _⟩ := three_cells g8'
          obtain ⟨o0, o1, o2, _, _⟩ := three_cells g9
          have hB9 := Lib.hid ((BW.out.grown gr8 BW.out.size (fun q e => by cases e; have := lo.out; omega)).grown gr9 (Nat.le_trans BW.out.size gr8.size) (fun q e => by cases e; have := lo.out; omega))
          replace G4 := Lib.hid G4
          replace G5 := Lib.hid G5
          replace G8 := Lib.hid G8
          replace g8 := Lib.hid g8
          replace g8' := Lib.hid g8'
          replace g9 := Lib.hid g9
          clear gr8 gr9 gs8 gs9
          go_wp2_with fail
          refine bodyPost_ret (v := .tuple #[.agg #[.int .u8 0, .int .u32 0, .int .u32 0], .agg #[.int .u8 0, .int .u32 0, .int .u32 0], .bool false]) (by simp [results, go_sem, n0, n1, n2, o0, o1, o2]) rfl ?_
          exact ends_ret (keyZ) (keyZ) false (hR.out.trans hf.out) hB9.out
        | true =>
          have hn := Lib.hid (hyes.out (f', t') (fun _ => hq) hsp'.out hkk'.out)
          replace H8 := Lib.hid (H8.out.below hb9)
          replace B8 := Lib.hid (B8.out.trans (hb9.mono B8.out.size))
          replace S8 := Lib.hid (Nat.le_trans S8.out hb9.size)
          replace BW := Lib.hid B8.out
          replace hq := Lib.hid hq
          replace hg2 : Hid (w9.heap[w1.heap.size]? = _) := Lib.hid (H8.out.at 7 rfl)
          clear hb9 p0 p1 p2 q0 q1 q2 r0 r1 r2 r3 r4 d0 d1 d2 d3 G4 G5 hno3 hyes hk0
          obtain ⟨q0, q1, q2, _⟩ := H8.out.at 0 rfl
          rw [hs7.out] at q0 q1 q2
          obtain ⟨d0, d1, d2, d3, _⟩ := three_cells hg2.out
          obtain ⟨W9, hW9, g9, gr9, gs9⟩ := put_three (a' := .int .u8 (t'.1.toNat : Int)) (b' := .int .u32 t'.2.1) (c' := .int .u32 t'.2.2) hg2.out
          have hB9 := Lib.hid (BW.out.grown gr9 BW.out.size (fun q e => by cases e; have := lo.out; omega))
          have S9 := Lib.hid (Nat.le_trans S8.out gr9.size)
          have b9 := Lib.hid ((gr9.block w.heap.size (by have := lo.out; have := S8.out; omega) (by simp; have := lo.out; omega)).trans (H8.out.at 5 rfl))
          have c9 := Lib.hid ((gr9.block w0.heap.size (by have := lo.out; have := S8.out; omega) (by simp; have := lo.out; omega)).trans (H8.out.at 6 rfl))
          replace g9 := Lib.hid g9
          clear gr9 gs9
          go_wp2_with fail
          go_roundw
          case rel => exact ⟨k + 1, t', by omega, by go_num, hn.out, hB9.out, S9.out, b9.out, c9.out, g9.out⟩
          case measure => simp [intOf]; omega
theorem ends_any (s : Rm) (hm : mayR s = true) : ∀ l : Nat, EndsIs s l := by
  intro l
  induction l using Nat.strongRecOn with
  | ind l ih => exact ends_step s hm l fun j hj => ih j (by omega)
end Go.Proofs.Ytncnoingbaeomaa

/-
  Package find: stands, Check. Conditions: those that each lemma states.
-/
namespace Go.Proofs.Ytncnoingbaeomaa
open Go.RowKit

theorem reN_eight {b : List UInt8} (h : b.length = 128) (hr : reN b ≠ 0) : reN b = 8 := by
  by_cases ho : oe b = 0
  · cases h1 : rdN (ob b) with
    | false => exact (reN_bad ho h1).1
    | true => exact absurd (reN_good ho h1).1 hr
  · have h8 : oe b = 8 := by
      unfold oe at ho ⊢
      rw [if_pos h] at ho ⊢
      split at ho
      · exact absurd rfl ho
      · rename_i hf
        rw [if_neg hf]
    rw [(reN_open ho).1, h8]
theorem box_one (w : World) (v : Value) (t : TypeId) : ∃ w1, w.alloc (.cells #[v] t) = w1 ∧ w1.cell? ⟨w.heap.size, 0, none⟩ = some v ∧ w1.heap.size = w.heap.size + 1 ∧ Below w.heap.size w w1 :=
  ⟨_, rfl, by simp, by simp, (Below.refl _ _).alloc (Nat.le_refl _) _⟩

set_option maxRecDepth 100000 in
set_option maxHeartbeats 8000000 in
theorem stands_any (v u : Value) (s : Rm) (hm : mayR s = true) (n : Nd) (hn : mayN n = true) (w : World) (h : Sto (Old w) w v s) (hu : Nod (Old w) w u n) :
    Calls Try.prog 27 #[v, u] w fun e w' => e = .returned (.bool (standsN s n)) ∧ Below w.heap.size w w' := by
  have hmf : ∀ (fn : Fn) (first cap : Array Value) (w : World), (Instr.makeFunc fn first cap).run Try.prog w = .ok (.func fn first cap) w := fun _ _ _ _ => rfl
  have hsf : ∀ (a : Addr) (fn : Fn) (x y : Array Value) (w : World), (store a (.func fn x y)).run Try.prog w = stored Try.prog w a (.func fn x y) .plain := fun _ _ _ _ _ => run_store _ _ _ _ _ rfl
  obtain ⟨A, ca, B, cb, N, cn, L, cl, rfl, _⟩ := id h.open
  obtain ⟨I, ci, rfl, -, -, -, hI⟩ := id hu.open
  obtain ⟨lw, hlw⟩ : ∃ q, n.1 = q := ⟨_, rfl⟩
  obtain ⟨m, hlm⟩ : ∃ q, n.2.length = q := ⟨_, rfl⟩
  have hlv : 0 ≤ lw := by rw [← hlw]; exact (mayN_of hn).1.1
  have hst : standsN s n = (decide (m = 0) || (spanN s n).isSome) := by rw [standsN, hlm]
  have hu' := hu
  rw [hlw, hlm] at hu'
  rw [hlw, hlm, hst]
  clear hI hst
  have HG0 : Bag w [OldN (.agg #[.int .i64 lw, .slice I m ci]) n, OldR (.agg #[.slice A s.1.1.length ca, .slice B s.1.2.length cb, .slice N s.2.1.length cn, .slice L s.2.2.length cl]) s] := ((Bag.nil w).add (F := OldR _ s) h (lasts_oldR _ _)).add (F := OldN _ n) hu' (lasts_oldN _ _)
  obtain ⟨w0, hw0, hg0, hB0, _, hs0⟩ := bag_four HG0 (Below.refl _ _) (.slice A s.1.1.length ca) (.slice B s.1.2.length cb) (.slice N s.2.1.length cn) (.slice L s.2.2.length cl) 29
  obtain ⟨w1, hw1, hg1, hB1, _, hs1⟩ := bag_node hg0 (Below.refl _ _) (.int .i64 lw) (.slice I m ci)
  obtain ⟨w2, hw2, q0, hs2, hB2⟩ := box_one w1 (cloE w.heap.size w1.heap.size) 94
  have HG := Lib.hid ((hg1.below hB2).add (F := BoxF w1.heap.size (cloE w.heap.size w1.heap.size)) ⟨q0, by omega⟩ (lasts_boxF _ _))
  have BB := Lib.hid ((hB0.trans (hB1.mono hB0.size)).trans (hB2.mono (hB0.trans (hB1.mono hB0.size)).size))
  replace hs2 := Lib.hid hs2
  replace hs1 := Lib.hid hs1
  replace hs0 := Lib.hid hs0
  replace hlw := Lib.hid hlw
  replace hlm := Lib.hid hlm
  clear HG0 hg1 hg0 h hu hu' hB2 hB1 hB0 q0
  go_enter Try.func27, Try.ntmps27
  go_upto_region 3 with fail
  clear hw0 hw1 hw2
  obtain ⟨q0, _⟩ := HG.out.at 0 rfl
  obtain ⟨y0, y1, _⟩ := HG.out.at 1 rfl
  by_cases hm0 : m = 0
  · have c0 : ((m : Int) == 0) = true := by simp [hm0]
    have hf : Hid ((decide (m = 0) || (spanN s n).isSome) = true) := Lib.hid (by simp [hm0])
    replace hm0 := Lib.hid hm0
    go_wp2_with fail
    go_ret
    exact ⟨ret_bool hf.out.symm, BB.out⟩
  have c0 : ((m : Int) == 0) = false := by simpa using hm0
  have hf : Hid ((decide (m = 0) || (spanN s n).isSome) = (spanN s n).isSome) := Lib.hid (by simp [hm0])
  have hcall := Lib.hid (ends_any s hm lw.toNat (.agg #[.int .i64 lw, .slice I m ci]) _ _ _ _ n w.heap.size w1.heap.size w2 hn (by rw [hlw.out]; omega) (by rw [hlm.out]; exact hm0) (HG.out.at 3 rfl) (HG.out.at 4 rfl) (HG.out.at 2 rfl) (HG.out.at 0 rfl))
  replace hm0 := Lib.hid hm0
  go_wp2_with fail
  with_reducible refine hcall.out.mono ?_
  rintro e w3 ⟨f, t, ok, rfl, hsp, hb3⟩
  have B3 := Lib.hid (BB.out.trans (hb3.mono BB.out.size))
  obtain ⟨w4, hw4, p0, p1, p2, hs4, hB4, _⟩ := box_three w3 (.int .u8 (f.1.toNat : Int)) (.int .u32 f.2.1) (.int .u32 f.2.2) 37
  obtain ⟨w5, hw5, r0, r1, r2, hs5, hB5, _⟩ := box_three w4 (.int .u8 (t.1.toNat : Int)) (.int .u32 t.2.1) (.int .u32 t.2.2) 37
  have B5 := Lib.hid (B3.out.trans ((hB4.trans (hB5.mono hB4.size)).mono B3.out.size))
  have hfin : Hid ((spanN s n).isSome = ok) := Lib.hid (by rw [hsp]; cases ok <;> rfl)
  replace hsp := Lib.hid hsp
  replace hs5 := Lib.hid hs5
  clear hB4 hB5 hb3 p0 p1 p2 r0 r1 r2
  go_upto_region 6 with fail
  clear hw4 hw5
  go_wp2_with fail
  go_ret
  exact ⟨ret_bool (by rw [hf.out, hfin.out]), B5.out⟩

set_option maxRecDepth 100000 in
set_option maxHeartbeats 8000000 in
theorem findCheck_any (v : Value) (s : Rm) (a : Int) (w : World) (h : Sto (Old w) w v s) :
    Calls Try.prog 10 #[v, .int .i64 a] w fun e w' => e = .returned (.tuple #[.int .i64 (ckH s a), .int .i64 (ckE s a)]) ∧ Below w.heap.size w w' := by
  obtain ⟨A, ca, B, cb, N, cn, L, cl, rfl, _⟩ := id h.open
  have hNd := Lib.hid (fun v W hW => nodeR_open v s a W hW)
  have hway : Hid ((rmE s a ≠ 0 ∧ ckE s a = rmE s a ∧ ckH s a = 0) ∨ (rmE s a = 0 ∧ mayR s = true ∧ mayN (rmV s a) = true ∧ 0 ≤ (rmV s a).1 ∧ (rmV s a).1 < 6 ∧ standsN s (rmV s a) = false ∧ ckE s a = 8 ∧ ckH s a = 0) ∨
      (rmE s a = 0 ∧ mayR s = true ∧ mayN (rmV s a) = true ∧ 0 ≤ (rmV s a).1 ∧ (rmV s a).1 < 6 ∧ standsN s (rmV s a) = true ∧ ckE s a = 0 ∧ ckH s a = (rmV s a).1 + 1)) := Lib.hid (by
    by_cases ha : asE s a = 0
    · by_cases hr : rmE s a = 0
      · obtain ⟨hmn, _⟩ := rm_may hr
        have hst := stands_tree hr
        obtain ⟨k, _, hm, _⟩ := as_read ha
        have hsh := (mayN_of hmn).1
        cases ht : treeO s a with
        | false => exact .inr (.inl ⟨hr, hm, hmn, hsh.1, hsh.2.1, hst.trans ht, (ck_bad ha ht).1, (ck_bad ha ht).2⟩)
        | true => exact .inr (.inr ⟨hr, hm, hmn, hsh.1, hsh.2.1, hst.trans ht, (ck_ok ha ht).1, (ck_ok ha ht).2⟩)
      · obtain ⟨k, _, hm, _, h256, _, _, hE, _, _⟩ := as_read ha
        have h8 : rmE s a = 8 := by
          rw [hE] at hr ⊢
          exact reN_eight (seen_128 (mayR_of hm).1 h256) hr
        obtain ⟨h1, h2⟩ := ck_bad ha (tree_no hr)
        exact .inl ⟨hr, h1.trans h8.symm, h2⟩
    · obtain ⟨hE, _⟩ := rm_bad ha
      obtain ⟨h1, h2⟩ := ck_no ha
      exact .inl ⟨by rw [hE]; exact ha, h1.trans hE.symm, h2⟩)
  obtain ⟨nd, hnd⟩ : ∃ q, rmV s a = q := ⟨_, rfl⟩
  obtain ⟨E0, hE0⟩ : ∃ q, rmE s a = q := ⟨_, rfl⟩
  obtain ⟨cE, hcE⟩ : ∃ q, ckE s a = q := ⟨_, rfl⟩
  obtain ⟨cH, hcH⟩ : ∃ q, ckH s a = q := ⟨_, rfl⟩
  rw [hnd, hE0] at hNd hway
  rw [hcE, hcH] at hway ⊢
  obtain ⟨lw, hlw⟩ : ∃ q, nd.1 = q := ⟨_, rfl⟩
  obtain ⟨m, hlm⟩ : ∃ q, nd.2.length = q := ⟨_, rfl⟩
  rw [hlw, hlm] at hNd
  rw [hlw] at hway
  have HG0 : Bag w [OldR (.agg #[.slice A s.1.1.length ca, .slice B s.1.2.length cb, .slice N s.2.1.length cn, .slice L s.2.2.length cl]) s] := (Bag.nil w).add (F := OldR _ s) h (lasts_oldR _ _)
  obtain ⟨w0, hw0, hg0, hB0, _, hs0⟩ := bag_four HG0 (Below.refl _ _) (.slice A s.1.1.length ca) (.slice B s.1.2.length cb) (.slice N s.2.1.length cn) (.slice L s.2.2.length cl) 29
  have HG := Lib.hid hg0
  have BB := Lib.hid hB0
  obtain ⟨s0, s1, s2, s3, _⟩ := HG.out.at 0 rfl
  replace hs0 := Lib.hid hs0
  replace hnd := Lib.hid hnd
  replace hE0 := Lib.hid hE0
  replace hcE := Lib.hid hcE
  replace hcH := Lib.hid hcH
  replace hlw := Lib.hid hlw
  replace hlm := Lib.hid hlm
  clear HG0 hg0 h hB0
  go_enter Try.func10, Try.ntmps10
  go_upto_region 1 with fail
  clear hw0
  go_wp2_with fail
  with_reducible refine (hNd.out _ _ (HG.out.at 1 rfl)).mono ?_
  rintro e w3 ⟨Z, zc, rfl, -, h3n, hb3⟩
  obtain ⟨w4, hw4, hg4, hb4, -, hs4⟩ := bag_node ((HG.out.below hb3).add (F := OldN _ nd) h3n.drop (lasts_oldN _ _)) (Below.refl _ _) (.int .i64 lw) (.slice Z m zc)
  replace HG := Lib.hid hg4
  replace BB := Lib.hid (BB.out.trans ((hb3.trans (hb4.mono hb3.size)).mono BB.out.size))
  replace hs4 := Lib.hid hs4
  clear hg4 hb4 hb3 h3n s0 s1 s2 s3 hNd
  go_upto_region 2 with fail
  clear hw4
  rcases hway.out with ⟨he, h1, h2⟩ | ⟨he, hm, hmn, l0, l6, hst, h1, h2⟩ | ⟨he, hm, hmn, l0, l6, hst, h1, h2⟩
  · have e1 : (E0 != 0) = true := by simpa using he
    replace h1 := Lib.hid h1
    replace h2 := Lib.hid h2
    clear he hway
    go_wp2_with fail
    go_ret2
    exact ⟨by rw [h1.out, h2.out]; rfl, BB.out⟩
  · have hcall := Lib.hid (stands_any _ _ s hm nd hmn w4 (HG.out.at 3 rfl) (HG.out.at 1 rfl))
    rw [hst] at hcall
    subst he
    obtain ⟨y0, y1, _⟩ := HG.out.at 0 rfl
    obtain ⟨s0, s1, s2, s3, _⟩ := HG.out.at 2 rfl
    replace h1 := Lib.hid h1
    replace h2 := Lib.hid h2
    clear hway hst hm hmn l0 l6
    go_wp2_with fail
    with_reducible refine hcall.out.mono ?_
    rintro e w5 ⟨rfl, hb5⟩
    have B5 := Lib.hid (BB.out.trans (hb5.mono BB.out.size))
    clear hb5
    go_wp2_with fail
    go_ret2
    exact ⟨by rw [h1.out, h2.out]; rfl, B5.out⟩
  · have hcall := Lib.hid (stands_any _ _ s hm nd hmn w4 (HG.out.at 3 rfl) (HG.out.at 1 rfl))
    rw [hst] at hcall
    subst he
    obtain ⟨y0, y1, _⟩ := HG.out.at 0 rfl
    obtain ⟨s0, s1, s2, s3, _⟩ := HG.out.at 2 rfl
    have i9 : IntKind.i64.wrap (lw + 1) = lw + 1 := IntWalk.i64_in _ (by omega)
    replace h1 := Lib.hid h1
    replace h2 := Lib.hid h2
    clear hway hst hm hmn l0 l6
    go_wp2_with fail
    with_reducible refine hcall.out.mono ?_
    rintro e w5 ⟨rfl, hb5⟩
    have B5 := Lib.hid (BB.out.trans (hb5.mono BB.out.size))
    have HG5 := HG.out.below hb5
    clear hb5 y0 y1
    obtain ⟨y0, y1, _⟩ := HG5.at 0 rfl
    clear HG5
    go_wp2_with fail
    go_ret2
    exact ⟨by rw [h1.out, h2.out]; rfl, B5.out⟩
end Go.Proofs.Ytncnoingbaeomaa

/-
  The document's Find of layer 10. Conditions: those that each lemma states.
-/
namespace Go.Proofs.Ytncnoingbaeomaa
open Go.RowKit

noncomputable def fdE (s : Rm) (a : Int) (k : Ky) : Int := if ckE s a = 0 then (if (theO s a k).isSome = true then 0 else 6) else ckE s a
noncomputable def fdV (s : Rm) (a : Int) (k : Ky) : It := if ckE s a = 0 then (theO s a k).getD zeroI else zeroI
theorem fd_bad {s : Rm} {a : Int} {k : Ky} (h : ckE s a ≠ 0) : fdE s a k = ckE s a ∧ fdV s a k = zeroI := ⟨by rw [fdE, if_neg h], by rw [fdV, if_neg h]⟩
theorem fd_some {s : Rm} {a : Int} {k : Ky} {x : It} (h : ckE s a = 0) (hx : theO s a k = some x) : fdE s a k = 0 ∧ fdV s a k = x := ⟨by rw [fdE, if_pos h, hx]; rfl, by rw [fdV, if_pos h, hx]; rfl⟩
theorem fd_none {s : Rm} {a : Int} {k : Ky} (h : ckE s a = 0) (hx : theO s a k = none) : fdE s a k = 6 ∧ fdV s a k = zeroI := ⟨by rw [fdE, if_pos h, hx]; rfl, by rw [fdV, if_pos h, hx]; rfl⟩
theorem tree_may {s : Rm} {a : Int} (h : treeO s a = true) : mayR s = true := by
  obtain ⟨k, _, hm, _⟩ := as_read (tree_of h).2.1
  exact hm

set_option maxRecDepth 100000 in
set_option maxHeartbeats 8000000 in
theorem refFindF_any (v : Value) (s : Rm) (a : Int) (key : Ky) (w : World) (h : Sto (Old w) w v s) :
    Calls Try.prog 16 #[v, .int .i64 a, kyV key] w fun e w' => ∃ u, e = .returned (.tuple #[u, .int .i64 (fdE s a key)]) ∧ Itm (New w.heap.size w') w' u (fdV s a key) ∧ Below w.heap.size w w' := by
  obtain ⟨A, ca, B, cb, N, cn, L, cl, rfl, _⟩ := id h.open
  have hCk := Lib.hid (fun v W hW => refCheckF_any v s a W hW)
  have hOne := Lib.hid (fun (ht : treeO s a = true) => fun v W hW => refOne_any s (tree_may ht) (rmV s a).1.toNat v a key W (tree_at ht) hW)
  have hct := Lib.hid (fun hh => (ck_of (s := s) (a := a) hh).1)
  have hfb := Lib.hid (fun hh => fd_bad (s := s) (a := a) (k := key) hh)
  have hfs := Lib.hid (fun x hh hx => fd_some (s := s) (a := a) (k := key) (x := x) hh hx)
  have hfn := Lib.hid (fun hh hx => fd_none (s := s) (a := a) (k := key) hh hx)
  obtain ⟨T, hT⟩ : ∃ T, theO s a key = T := ⟨_, rfl⟩
  have hT' : oneO s (rmV s a).1.toNat a key = T := hT
  rw [hT'] at hOne
  rw [hT] at hfs hfn
  obtain ⟨E0, hE0⟩ : ∃ q, ckE s a = q := ⟨_, rfl⟩
  obtain ⟨H0, hH0⟩ : ∃ q, ckH s a = q := ⟨_, rfl⟩
  rw [hE0] at hCk hct hfb hfs hfn
  rw [hH0] at hCk
  obtain ⟨E1, hE1⟩ : ∃ q, fdE s a key = q := ⟨_, rfl⟩
  obtain ⟨V1, hV1⟩ : ∃ q, fdV s a key = q := ⟨_, rfl⟩
  rw [hE1, hV1] at hfb hfs hfn ⊢
  have HG0 : Bag w [OldR (.agg #[.slice A s.1.1.length ca, .slice B s.1.2.length cb, .slice N s.2.1.length cn, .slice L s.2.2.length cl]) s] := (Bag.nil w).add (F := OldR _ s) h (lasts_oldR _ _)
  obtain ⟨w0, hw0, hg0, hB0, _, hs0⟩ := bag_four HG0 (Below.refl _ _) (.slice A s.1.1.length ca) (.slice B s.1.2.length cb) (.slice N s.2.1.length cn) (.slice L s.2.2.length cl) 29
  obtain ⟨w1, hw1, hg1, hB1, _, hs1⟩ := bag_key hg0 (Below.refl _ _) (.int .u8 (key.1.toNat : Int)) (.int .u32 key.2.1) (.int .u32 key.2.2)
  obtain ⟨w2, hw2, _, _, _, _, _, hs2, hB2, G2⟩ := box_five w1 (.int .u8 0) (.int .u32 0) (.int .u32 0) (.int .i64 0) (.slice none 0 0) 39
  have HG := Lib.hid ((hg1.below hB2).add (F := BoxW w1.heap.size _ _) G2 (lasts_boxW _ _ _))
  have BB := Lib.hid ((hB0.trans (hB1.mono hB0.size)).trans (hB2.mono (hB0.trans (hB1.mono hB0.size)).size))
  have lo1 : Hid (w.heap.size ≤ w1.heap.size ∧ w1.heap.size < w2.heap.size) := Lib.hid ⟨(hB0.trans (hB1.mono hB0.size)).size, by omega⟩
  obtain ⟨s0, s1, s2, s3, _⟩ := HG.out.at 2 rfl
  replace hs2 := Lib.hid hs2
  replace hs1 := Lib.hid hs1
  replace hs0 := Lib.hid hs0
  replace hE0 := Lib.hid hE0
  replace hH0 := Lib.hid hH0
  replace hE1 := Lib.hid hE1
  replace hV1 := Lib.hid hV1
  replace hT := Lib.hid hT
  clear HG0 hg1 hg0 h hB2 hB1 hB0 G2 hT'
  unfold kyV
  go_enter Try.func16, Try.ntmps16
  go_upto_region 1 with fail
  clear hw0 hw1 hw2
  go_wp2_with fail
  with_reducible refine (hCk.out _ _ (HG.out.at 3 rfl)).mono ?_
  rintro e w3 ⟨rfl, hb3⟩
  have HR := Lib.hid (HG.out.below hb3)
  have BR := Lib.hid (BB.out.trans (hb3.mono BB.out.size))
  have lo3 : Hid (w1.heap.size < w3.heap.size ∧ w.heap.size ≤ w3.heap.size) := Lib.hid ⟨by have := lo1.out; have := hb3.size; omega, BR.out.size⟩
  clear hb3 s0 s1 s2 s3 hCk HG
  by_cases he : E0 = 0
  case neg =>
    have hq1 : (E0 != 0) = true := by simpa using he
    have hf := Lib.hid (hfb.out he)
    have G5 : w3.heap[w1.heap.size]? = _ := HR.out.at 0 rfl
    obtain ⟨W9, hW9, g9, gr9, gs9⟩ := put_five (u0 := .int .u8 0) (u1 := .int .u32 0) (u2 := .int .u32 0) (u3 := .int .i64 0) (u4 := .slice none 0 0) G5
    obtain ⟨n0, n1, n2, n3, n4, _⟩ := five_cells g9
    obtain ⟨f0, f1, f2, f3, f4, f5, _⟩ := five_cells G5
    have hB9 := Lib.hid (BR.out.grown gr9 BR.out.size (fun q e => by cases e; exact lo1.out.1))
    replace G5 := Lib.hid G5
    replace g9 := Lib.hid g9
    clear gr9 gs9 he
    go_wp2_with fail
    refine bodyPost_ret (v := .tuple #[.agg #[.int .u8 0, .int .u32 0, .int .u32 0, .int .i64 0, .slice none 0 0], .int .i64 E0]) (by simp [results, Try.results16, go_sem, n0, n1, n2, n3, n4]) rfl ?_
    rw [hf.out.1, hf.out.2]
    exact ⟨_, rfl, itm_zero _ _, hB9.out⟩
  have hcall := Lib.hid (hOne.out (hct.out he))
  have hfs' := Lib.hid (fun x hx => hfs.out x he hx)
  have hfn' := Lib.hid (fun hx => hfn.out he hx)
  subst he
  obtain ⟨b1, hb1⟩ : ∃ b, T.isSome = b := ⟨_, rfl⟩
  obtain ⟨y, hy⟩ : ∃ y, T.getD zeroI = y := ⟨_, rfl⟩
  rw [hb1, hy] at hcall
  replace hy := Lib.hid hy
  replace hb1 := Lib.hid hb1
  obtain ⟨s0, s1, s2, s3, _⟩ := HR.out.at 2 rfl
  obtain ⟨t0, t1, t2, _⟩ := HR.out.at 1 rfl
  go_wp2_with fail
  with_reducible refine (hcall.out _ _ (HR.out.at 3 rfl)).mono ?_
  rintro e w4 ⟨u, rfl, hu, hb4⟩
  obtain ⟨P, pc, rfl, -, -, -, -⟩ := id hu.open
  obtain ⟨w5, hw5, hg5, hB5, hB5', hs5⟩ := bag_item ((HR.out.below hb4).add (F := NewI w3.heap.size _ y) hu (lasts_newI _ _ _)) (Below.refl _ _) (.int .u8 (y.1.1.toNat : Int)) (.int .u32 y.1.2.1) (.int .u32 y.1.2.2) (.int .i64 y.2.1) (.slice P y.2.2.length pc)
  have H5 := Lib.hid hg5
  have B5 := Lib.hid (BR.out.trans ((hb4.trans (hB5.mono hb4.size)).mono BR.out.size))
  replace hs5 := Lib.hid hs5
  clear s0 s1 s2 s3 t0 t1 t2 hg5 hB5 hB5' hb4 hu hcall hOne
  go_upto_region 5 with fail
  clear hw5
  obtain ⟨t0, t1, t2, t3, t4, _⟩ := H5.out.at 0 rfl
  have G5 : w5.heap[w1.heap.size]? = _ := H5.out.at 2 rfl
  have hit : Itm (New w3.heap.size w5) w5 _ y := H5.out.at 1 rfl
  obtain ⟨f0, f1, f2, f3, f4, f5, _⟩ := five_cells G5
  cases b1 with
  | false =>
    have hf := Lib.hid (hfn'.out (by simpa using hb1.out))
    obtain ⟨W9, hW9, g9, gr9, gs9⟩ := put_five (u0 := .int .u8 0) (u1 := .int .u32 0) (u2 := .int .u32 0) (u3 := .int .i64 0) (u4 := .slice none 0 0) G5
    obtain ⟨n0, n1, n2, n3, n4, _⟩ := five_cells g9
    have hB9 := Lib.hid (B5.out.grown gr9 B5.out.size (fun q e => by cases e; exact lo1.out.1))
    replace G5 := Lib.hid G5
    replace g9 := Lib.hid g9
    clear gr9 gs9 hit
    go_wp2_with fail
    refine bodyPost_ret (v := .tuple #[.agg #[.int .u8 0, .int .u32 0, .int .u32 0, .int .i64 0, .slice none 0 0], .int .i64 6]) (by simp [results, Try.results16, go_sem, n0, n1, n2, n3, n4]) rfl ?_
    rw [hf.out.1, hf.out.2]
    exact ⟨_, rfl, itm_zero _ _, hB9.out⟩
  | true =>
    have hf : Hid (E1 = 0 ∧ V1 = y) := Lib.hid (by
      obtain ⟨x, hx⟩ := Option.isSome_iff_exists.1 hb1.out
      have h1 := hfs'.out x hx
      have h2 := hy.out
      rw [hx] at h2
      exact ⟨h1.1, h1.2.trans h2⟩)
    obtain ⟨W9, hW9, g9, gr9, gs9⟩ := put_five (u0 := .int .u8 (y.1.1.toNat : Int)) (u1 := .int .u32 y.1.2.1) (u2 := .int .u32 y.1.2.2) (u3 := .int .i64 y.2.1) (u4 := .slice P y.2.2.length pc) G5
    obtain ⟨n0, n1, n2, n3, n4, _⟩ := five_cells g9
    have hfin := Lib.hid (show Itm (New w.heap.size W9) W9 (itV y (.slice P y.2.2.length pc)) y from (hit.grown gr9 (fun q e => by cases e; exact lo3.out.1)).new lo3.out.2 (Below.refl _ _))
    have hB9 := Lib.hid (B5.out.grown gr9 B5.out.size (fun q e => by cases e; exact lo1.out.1))
    replace G5 := Lib.hid G5
    replace g9 := Lib.hid g9
    clear gr9 gs9 hit
    go_wp2_with fail
    refine bodyPost_ret (v := .tuple #[itV y (.slice P y.2.2.length pc), .int .i64 0]) (by simp [results, Try.results16, go_sem, n0, n1, n2, n3, n4]) rfl ?_
    rw [hf.out.1, hf.out.2]
    exact ⟨_, rfl, hfin.out, hB9.out⟩
end Go.Proofs.Ytncnoingbaeomaa

/-
  Package find: Find. Conditions: those that each lemma states.
-/
namespace Go.Proofs.Ytncnoingbaeomaa
open Go.RowKit

theorem nodePlace_open (v : Value) (n : Nd) (key : Ky) (w : World) (h : Nod (Old w) w v n) :
    Calls Try.prog 28 #[v, kyV key] w fun e w' => e = .returned (.tuple #[.int .i64 (placeN n key : Nat), .bool (thereN n key)]) ∧ Below w.heap.size w w' := nodePlace_any v n key w h

set_option maxRecDepth 100000 in
set_option maxHeartbeats 8000000 in
theorem findFind_any (v : Value) (s : Rm) (a : Int) (key : Ky) (w : World) (h : Sto (Old w) w v s) :
    Calls Try.prog 11 #[v, .int .i64 a, kyV key] w fun e w' => ∃ u, e = .returned (.tuple #[u, .int .i64 (fdE s a key)]) ∧ Itm (New w.heap.size w') w' u (fdV s a key) ∧ Below w.heap.size w w' := by
  obtain ⟨A, ca, B, cb, N, cn, L, cl, rfl, _⟩ := id h.open
  have hCk := Lib.hid (fun v W hW => findCheck_any v s a W hW)
  have hct := Lib.hid (fun hh => ck_of (s := s) (a := a) hh)
  have hta := Lib.hid (fun ht => tree_at (s := s) (a := a) ht)
  have htl := Lib.hid (fun ht => tree_of (s := s) (a := a) ht)
  have hfb := Lib.hid (fun hh => fd_bad (s := s) (a := a) (k := key) hh)
  have hfs := Lib.hid (fun x hh hx => fd_some (s := s) (a := a) (k := key) (x := x) hh hx)
  have hfn := Lib.hid (fun hh hx => fd_none (s := s) (a := a) (k := key) hh hx)
  obtain ⟨T, hT⟩ : ∃ T, theO s a key = T := ⟨_, rfl⟩
  have hT' : Hid (oneO s (rmV s a).1.toNat a key = T) := Lib.hid hT
  rw [hT] at hfs hfn
  obtain ⟨E0, hE0⟩ : ∃ q, ckE s a = q := ⟨_, rfl⟩
  obtain ⟨H0, hH0⟩ : ∃ q, ckH s a = q := ⟨_, rfl⟩
  rw [hE0] at hCk hct hfb hfs hfn
  rw [hH0] at hCk hct
  obtain ⟨E1, hE1⟩ : ∃ q, fdE s a key = q := ⟨_, rfl⟩
  obtain ⟨V1, hV1⟩ : ∃ q, fdV s a key = q := ⟨_, rfl⟩
  rw [hE1, hV1] at hfb hfs hfn ⊢
  have HG0 : Bag w [OldR (.agg #[.slice A s.1.1.length ca, .slice B s.1.2.length cb, .slice N s.2.1.length cn, .slice L s.2.2.length cl]) s] := (Bag.nil w).add (F := OldR _ s) h (lasts_oldR _ _)
  obtain ⟨w0, hw0, hg0, hB0, _, hs0⟩ := bag_four HG0 (Below.refl _ _) (.slice A s.1.1.length ca) (.slice B s.1.2.length cb) (.slice N s.2.1.length cn) (.slice L s.2.2.length cl) 29
  obtain ⟨w1, hw1, hg1, hB1, _, hs1⟩ := bag_key hg0 (Below.refl _ _) (.int .u8 (key.1.toNat : Int)) (.int .u32 key.2.1) (.int .u32 key.2.2)
  obtain ⟨w2, hw2, _, _, _, _, _, hs2, hB2, G2⟩ := box_five w1 (.int .u8 0) (.int .u32 0) (.int .u32 0) (.int .i64 0) (.slice none 0 0) 39
  have HG := Lib.hid ((hg1.below hB2).add (F := BoxW w1.heap.size _ _) G2 (lasts_boxW _ _ _))
  have BB := Lib.hid ((hB0.trans (hB1.mono hB0.size)).trans (hB2.mono (hB0.trans (hB1.mono hB0.size)).size))
  have lo1 : Hid (w.heap.size ≤ w1.heap.size ∧ w1.heap.size < w2.heap.size) := Lib.hid ⟨(hB0.trans (hB1.mono hB0.size)).size, by omega⟩
  obtain ⟨s0, s1, s2, s3, _⟩ := HG.out.at 2 rfl
  replace hs2 := Lib.hid hs2
  replace hs1 := Lib.hid hs1
  replace hs0 := Lib.hid hs0
  replace hE0 := Lib.hid hE0
  replace hH0 := Lib.hid hH0
  replace hE1 := Lib.hid hE1
  replace hV1 := Lib.hid hV1
  replace hT := Lib.hid hT
  clear HG0 hg1 hg0 h hB2 hB1 hB0 G2
  unfold kyV
  go_enter Try.func11, Try.ntmps11
  go_wp2_with fail
  go_step3
  go_upto_region 1 with fail
  clear hw0 hw1 hw2
  go_wp2_with fail
  with_reducible refine (hCk.out _ _ (HG.out.at 3 rfl)).mono ?_
  rintro e w3 ⟨rfl, hb3⟩
  have HR := Lib.hid (HG.out.below hb3)
  have BR := Lib.hid (BB.out.trans (hb3.mono BB.out.size))
  have lo3 : Hid (w1.heap.size < w3.heap.size ∧ w.heap.size ≤ w3.heap.size) := Lib.hid ⟨by have := lo1.out; have := hb3.size; omega, BR.out.size⟩
  clear hb3 s0 s1 s2 s3 hCk HG
  by_cases he : E0 = 0
  case neg =>
    have hq1 : (E0 != 0) = true := by simpa using he
    have hf := Lib.hid (hfb.out he)
    have G5 : w3.heap[w1.heap.size]? = _ := HR.out.at 0 rfl
    obtain ⟨W9, hW9, g9, gr9, gs9⟩ := put_five (u0 := .int .u8 0) (u1 := .int .u32 0) (u2 := .int .u32 0) (u3 := .int .i64 0) (u4 := .slice none 0 0) G5
    obtain ⟨n0, n1, n2, n3, n4, _⟩ := five_cells g9
    obtain ⟨f0, f1, f2, f3, f4, f5, _⟩ := five_cells G5
    have hB9 := Lib.hid (BR.out.grown gr9 BR.out.size (fun q e => by cases e; exact lo1.out.1))
    replace G5 := Lib.hid G5
    replace g9 := Lib.hid g9
    clear gr9 gs9 he
    go_wp2_with fail
    rw [Exit.noGoto_ret]
    refine bodyPost_ret (v := .tuple #[.agg #[.int .u8 0, .int .u32 0, .int .u32 0, .int .i64 0, .slice none 0 0], .int .i64 E0]) (by simp [results, Try.results11, go_sem, n0, n1, n2, n3, n4]) rfl ?_
    rw [hf.out.1, hf.out.2]
    exact ⟨_, rfl, itm_zero _ _, hB9.out⟩
  obtain ⟨ht, _, hh⟩ := hct.out he
  have hat := Lib.hid (hta.out ht)
  obtain ⟨_, _, _, l0, l6, _⟩ := htl.out ht
  have hfs' := Lib.hid (fun x hx => hfs.out x he hx)
  have hfn' := Lib.hid (fun hx => hfn.out he hx)
  subst he
  obtain ⟨M, hM⟩ : ∃ M, (rmV s a).1.toNat = M := ⟨_, rfl⟩
  rw [hM] at hat hT'
  have hHM : Hid (H0 = (M : Int) + 1) := Lib.hid (by omega)
  have hM6 : Hid (M < 6) := Lib.hid (by omega)
  replace hM := Lib.hid hM
  clear ht hh l0 l6 hct hta htl hfs hfn hfb
  go_wp2_with fail
  go_step3
  go_wp2_with fail
  go_loopw [27, 10] (fun vi va wr => ∃ (i l : Nat) (b : Int), i + l = M ∧ vi = .int .i64 (i : Int) ∧ va = .int .i64 b ∧ AtT s l b ∧ oneO s l b key = T ∧ Below w3.heap.size w3 wr) (fun vi _ _ => 7 - (intOf vi).toNat)
  case atStart => exact ⟨0, M, a, by omega, rfl, rfl, hat.out, hT'.out, Below.refl _ _⟩
  case round =>
    obtain ⟨i, l, b, hil, rfl, rfl, hab, hone, hbr⟩ := hrel
    have HQ := Lib.hid (HR.out.below hbr)
    have BQ := Lib.hid hbr
    have hi5 : i ≤ 5 := by have := hM6.out; omega
    have i0 : (i : Int) < H0 := by have := hHM.out; have := hM6.out; omega
    have hNd := Lib.hid (fun v W hW => nodeR_open v s b W hW)
    have hok := hab.ok
    have hmn := Lib.hid hab.may
    have hlv := Lib.hid hab.lvl
    have hdn := Lib.hid (fun (j : Nat) (hj : l = j + 1) (x : It) (hx : x ∈ (rmV s b).2) => (by subst hj; exact hab.down hx : AtT s j x.2.1))
    have hz := Lib.hid (fun (h0 : l = 0) => (by subst h0; exact hone.symm.trans (oneO_zero s b key) : T = (rmV s b).2.reverse.find? fun x => decide (x.1 = key)))
    have hsu := Lib.hid (fun (j : Nat) (hj : l = j + 1) => (by subst hj; exact hone.symm.trans (oneO_succ s j b key) : T = ((rmV s b).2.reverse.find? fun x => !lessK key x.1).bind fun x => oneO s j x.2.1 key))
    obtain ⟨nd, hnd⟩ : ∃ q, rmV s b = q := ⟨_, rfl⟩
    rw [hok, hnd] at hNd
    rw [hnd] at hmn hlv hdn hz hsu
    have hPl := Lib.hid (fun v W hW => nodePlace_open v nd key W hW)
    obtain ⟨p, hp⟩ : ∃ p, placeN nd key = p := ⟨_, rfl⟩
    obtain ⟨t, htt⟩ : ∃ t, thereN nd key = t := ⟨_, rfl⟩
    rw [hp, htt] at hPl
    obtain ⟨lw, hlw⟩ : ∃ q, nd.1 = q := ⟨_, rfl⟩
    obtain ⟨ll, hl⟩ : ∃ q, nd.2 = q := ⟨_, rfl⟩
    obtain ⟨m, hlm⟩ : ∃ q, ll.length = q := ⟨_, rfl⟩
    rw [hlw, hl, hlm] at hNd
    rw [hl] at hdn hz hsu
    rw [hlw] at hlv
    replace hnd := Lib.hid hnd
    replace hlw := Lib.hid hlw
    replace hl := Lib.hid hl
    replace hlm := Lib.hid hlm
    replace hp := Lib.hid hp
    replace htt := Lib.hid htt
    replace hone := Lib.hid hone
    replace hil := Lib.hid hil
    have hm5 : m ≤ 5 := by
      have := (mayN_of hmn.out).1.2.2.1
      rw [hl.out, hlm.out] at this
      exact this
    clear hok hab hbr
    obtain ⟨s0, s1, s2, s3, _⟩ := HQ.out.at 2 rfl
    go_wp2_with fail
    with_reducible refine (hNd.out _ _ (HQ.out.at 3 rfl)).mono ?_
    rintro e w4 ⟨Z, zc, rfl, -, h4n, hb4⟩
    have h4s : rIts (New wr.heap.size w4) w4 [.slice Z m zc] ll := by
      obtain ⟨_, e, _, h⟩ := h4n
      cases e
      rw [hl.out] at h
      exact h
    obtain ⟨w5, hw5, hg5, hB5, -, hs5⟩ := bag_node (((HQ.out.below hb4).add (F := OldN _ nd) h4n.drop (lasts_oldN _ _)).add (F := NewIs wr.heap.size _ ll) h4s (lasts_newIs _ _ _)) (Below.refl _ _) (.int .i64 lw) (.slice Z m zc)
    have H5 := Lib.hid hg5
    have B5 := Lib.hid (BQ.out.trans ((hb4.trans (hB5.mono hb4.size)).mono BQ.out.size))
    replace hs5 := Lib.hid hs5
    clear s0 s1 s2 s3 hg5 hB5 hb4 h4n h4s hNd
    go_upto_region 8 with fail
    clear hw5
    obtain ⟨y0, y1, _⟩ := H5.out.at 0 rfl
    obtain ⟨t0, t1, t2, _⟩ := H5.out.at 4 rfl
    go_upto_region 10 with fail
    go_wp2_with fail
    with_reducible refine (hPl.out _ _ (H5.out.at 2 rfl)).mono ?_
    rintro e w6 ⟨rfl, hb6⟩
    have H6 := Lib.hid (H5.out.below hb6)
    have B6 := Lib.hid (B5.out.trans (hb6.mono B5.out.size))
    clear hb6 y0 y1 t0 t1 t2 hPl H5 B5
    obtain ⟨y0, y1, _⟩ := H6.out.at 0 rfl
    cases t with
    | true =>
      have hpm : p < m := by
        have := place_in htt.out
        rw [hp.out, hl.out, hlm.out] at this
        exact this
      obtain ⟨x, hx⟩ : ∃ x, ll[p]? = some x := ⟨_, List.getElem?_eq_getElem (by rw [hlm.out]; exact hpm)⟩
      obtain ⟨hxk, hf1, hf2⟩ := place_below hmn.out htt.out (x := x) (by rw [hp.out, hl.out]; exact hx)
      rw [hl.out] at hf1 hf2
      obtain ⟨ad, E5, ce5, rfl, -, FX⟩ := its_new (H6.out.at 1 rfl : rIts (New wr.heap.size w6) w6 [.slice Z m zc] ll) hx
      obtain ⟨⟨z0, z1, z2, z3, z4⟩, hit⟩ := FX w6 (Below.refl _ _)
      have i4 : (0 : Int) ≤ (p : Int) := by omega
      have i5 : (p : Int) < (m : Int) := by omega
      have hxm := Lib.hid (List.mem_of_getElem? hx)
      replace hx := Lib.hid hx
      replace hxk := Lib.hid hxk
      cases l with
      | zero =>
        have e0 : lw = 0 := hlv.out
        have hf := Lib.hid (hfs'.out x ((hz.out rfl).trans hf2))
        replace e0 := Lib.hid e0
        have c0 : (lw == 0) = true := by rw [e0.out]; rfl
        have G5 : w6.heap[w1.heap.size]? = _ := H6.out.at 3 rfl
        obtain ⟨f0, f1, f2, f3, f4, f5, _⟩ := five_cells G5
        obtain ⟨W9, hW9, g9, gr9, gs9⟩ := put_five (u0 := .int .u8 (x.1.1.toNat : Int)) (u1 := .int .u32 x.1.2.1) (u2 := .int .u32 x.1.2.2) (u3 := .int .i64 x.2.1) (u4 := .slice E5 x.2.2.length ce5) G5
        obtain ⟨n0, n1, n2, n3, n4, _⟩ := five_cells g9
        have hfin := Lib.hid (show Itm (New w.heap.size W9) W9 (itV x (.slice E5 x.2.2.length ce5)) x from (hit.grown gr9 (fun q e => by cases e; have := lo3.out; have := BQ.out.size; omega)).new (by have := lo3.out; have := BQ.out.size; omega) (Below.refl _ _))
        have B9 := BR.out.trans (B6.out.mono BR.out.size)
        have hB9 := Lib.hid (B9.grown gr9 B9.size (fun q e => by cases e; exact lo1.out.1))
        replace G5 := Lib.hid G5
        replace g9 := Lib.hid g9
        clear gr9 gs9 hit FX hf1 hf2 B9
        go_wp2_with fail
        rw [Exit.noGoto_ret]
        refine bodyPost_ret (v := .tuple #[itV x (.slice E5 x.2.2.length ce5), .int .i64 0]) (by simp [results, Try.results11, go_sem, n0, n1, n2, n3, n4]) rfl ?_
        rw [hf.out.1, hf.out.2]
        exact ⟨_, rfl, hfin.out, hB9.out⟩
      | succ l1 =>
        have c0 : (lw == 0) = false := by have := hlv.out; simp; omega
        have hn1 := Lib.hid (hdn.out l1 rfl x hxm.out)
        have hn2 : Hid (oneO s l1 x.2.1 key = T) := Lib.hid (by rw [hsu.out l1 rfl, hf1]; rfl)
        clear FX hf1 hf2 hit
        go_wp2_with fail
        go_roundw
        case rel => exact ⟨i + 1, l1, x.2.1, by have := hil.out; omega, by go_num, rfl, hn1.out, hn2.out, B6.out⟩
        case measure => have := hil.out; simp [intOf]; omega
    | false =>
      by_cases hp0 : 0 < p
      · have i6 : (0 : Int) < (p : Int) := by omega
        cases l with
        | zero =>
          have e0 : lw = 0 := hlv.out
          have c0 : ¬ (0 : Int) < lw := by omega
          have hf := Lib.hid (hfn'.out ((hz.out rfl).trans (by
            have := place_miss hmn.out htt.out
            rw [hl.out] at this
            exact this)))
          replace e0 := Lib.hid e0
          have G5 : w6.heap[w1.heap.size]? = _ := H6.out.at 3 rfl
          obtain ⟨f0, f1, f2, f3, f4, f5, _⟩ := five_cells G5
          obtain ⟨W9, hW9, g9, gr9, gs9⟩ := put_five (u0 := .int .u8 0) (u1 := .int .u32 0) (u2 := .int .u32 0) (u3 := .int .i64 0) (u4 := .slice none 0 0) G5
          obtain ⟨n0, n1, n2, n3, n4, _⟩ := five_cells g9
          have B9 := BR.out.trans (B6.out.mono BR.out.size)
          have hB9 := Lib.hid (B9.grown gr9 B9.size (fun q e => by cases e; exact lo1.out.1))
          replace G5 := Lib.hid G5
          replace g9 := Lib.hid g9
          clear gr9 gs9 B9
          go_wp2_with fail
          rw [Exit.noGoto_ret]
          refine bodyPost_ret (v := .tuple #[.agg #[.int .u8 0, .int .u32 0, .int .u32 0, .int .i64 0, .slice none 0 0], .int .i64 6]) (by simp [results, Try.results11, go_sem, n0, n1, n2, n3, n4]) rfl ?_
          rw [hf.out.1, hf.out.2]
          exact ⟨_, rfl, itm_zero _ _, hB9.out⟩
        | succ l1 =>
          have c0 : (0 : Int) < lw := by have := hlv.out; omega
          obtain ⟨j, hj⟩ : ∃ j, p = j + 1 := ⟨p - 1, by omega⟩
          have hpm : p ≤ m := by
            have := placeN_le nd key
            rw [hp.out, hl.out, hlm.out] at this
            exact this
          obtain ⟨x, hx⟩ : ∃ x, ll[j]? = some x := ⟨_, List.getElem?_eq_getElem (by rw [hlm.out]; omega)⟩
          have hf1 := place_ahead hmn.out (x := x) htt.out (by rw [hp.out, hj]) (by rw [hl.out]; exact hx)
          rw [hl.out] at hf1
          obtain ⟨ad, E5, ce5, rfl, -, FX⟩ := its_new (H6.out.at 1 rfl : rIts (New wr.heap.size w6) w6 [.slice Z m zc] ll) hx
          obtain ⟨⟨z0, z1, z2, z3, z4⟩, hit⟩ := FX w6 (Below.refl _ _)
          have i4 : (0 : Int) ≤ (j : Int) := by omega
          have i5 : (j : Int) < (m : Int) := by omega
          have i7 : (p : Int) - 1 = (j : Int) := by omega
          have i8 : IntKind.i64.wrap (j : Int) = (j : Int) := IntWalk.i64_in _ (by omega)
          have hxm := Lib.hid (List.mem_of_getElem? hx)
          have hn1 := Lib.hid (hdn.out l1 rfl x hxm.out)
          have hn2 : Hid (oneO s l1 x.2.1 key = T) := Lib.hid (by rw [hsu.out l1 rfl, hf1]; rfl)
          replace hx := Lib.hid hx
          replace hj := Lib.hid hj
          clear FX hf1 hit
          go_wp2_with fail
          go_roundw
          case rel => exact ⟨i + 1, l1, x.2.1, by have := hil.out; omega, by go_num, rfl, hn1.out, hn2.out, B6.out⟩
          case measure => have := hil.out; simp [intOf]; omega
      · have i6 : ¬ (0 : Int) < (p : Int) := by omega
        have hf := Lib.hid (hfn'.out (by
          cases l with
          | zero =>
            refine (hz.out rfl).trans ?_
            have := place_miss hmn.out htt.out
            rw [hl.out] at this
            exact this
          | succ l1 =>
            have h1 := place_none hmn.out htt.out (by rw [hp.out]; omega)
            rw [hl.out] at h1
            rw [hsu.out l1 rfl, h1]
            rfl))
        have G5 : w6.heap[w1.heap.size]? = _ := H6.out.at 3 rfl
        obtain ⟨f0, f1, f2, f3, f4, f5, _⟩ := five_cells G5
        obtain ⟨W9, hW9, g9, gr9, gs9⟩ := put_five (u0 := .int .u8 0) (u1 := .int .u32 0) (u2 := .int .u32 0) (u3 := .int .i64 0) (u4 := .slice none 0 0) G5
        obtain ⟨n0, n1, n2, n3, n4, _⟩ := five_cells g9
        have B9 := BR.out.trans (B6.out.mono BR.out.size)
        have hB9 := Lib.hid (B9.grown gr9 B9.size (fun q e => by cases e; exact lo1.out.1))
        replace G5 := Lib.hid G5
        replace g9 := Lib.hid g9
        clear gr9 gs9 B9
        go_wp2_with fail
        rw [Exit.noGoto_ret]
        refine bodyPost_ret (v := .tuple #[.agg #[.int .u8 0, .int .u32 0, .int .u32 0, .int .i64 0, .slice none 0 0], .int .i64 6]) (by simp [results, Try.results11, go_sem, n0, n1, n2, n3, n4]) rfl ?_
        rw [hf.out.1, hf.out.2]
        exact ⟨_, rfl, itm_zero _ _, hB9.out⟩
end Go.Proofs.Ytncnoingbaeomaa

/-
  Layer 8: package room's Twin, and the document's. Conditions: those that each lemma states.
-/
namespace Go.Proofs.Ytncnoingbaeomaa
open Go.RowKit

def SmallR (s : Rm) : Prop := Small s.1 ∧ s.2.1.length ≤ 10000 ∧ s.2.2.length ≤ 10000
theorem smallR_of_great {s : Rm} (h : greatR s = false) : SmallR s := by
  obtain ⟨h1, h2, h3⟩ := greatR_of h
  exact ⟨small_of_great h1, h2, h3⟩
/-- What stands in a box that is filled last. -/
theorem sto_fin {lo : Nat} {w1 W W9 : World} {P Q N L : Value} {s : Rm} {g : Nat} (hd : Dsk (New w1.heap.size W) W (.agg #[P, Q]) s.1) (hn : rBy (New w1.heap.size W) W [N] s.2.1) (hl : rBy (New w1.heap.size W) W [L] s.2.2) (hg : g < w1.heap.size) (hlo : lo ≤ w1.heap.size) (gr : W.grownBy W9 (some g)) : Sto (New lo W9) W9 (.agg #[P, Q, N, L]) s :=
  Sto.mk ((hd.grown gr (fun q e => by cases e; exact hg)).new hlo (Below.refl _ _)) (stab_by.new (stab_by.grown hn gr (fun q e => by cases e; exact hg)) hlo (Below.refl _ _)) (stab_by.new (stab_by.grown hl gr (fun q e => by cases e; exact hg)) hlo (Below.refl _ _))

set_option maxRecDepth 100000 in
set_option maxHeartbeats 4000000 in
theorem refTwinR_any (v : Value) (s : Rm) (hsm : SmallR s) (w : World) (h : Sto (Old w) w v s) :
    Calls Try.prog 14 #[v] w fun e w' => ∃ A ca B cb N cn L cl, e = .returned (.agg #[.slice A s.1.1.length ca, .slice B s.1.2.length cb, .slice N s.2.1.length cn, .slice L s.2.2.length cl]) ∧ Sto (New w.heap.size w') w' (.agg #[.slice A s.1.1.length ca, .slice B s.1.2.length cb, .slice N s.2.1.length cn, .slice L s.2.2.length cl]) s ∧ Below w.heap.size w w' := by
  obtain ⟨A, ca, B, cb, N, cn, L, cl, w1, rfl, hw1, f1, f2, hsz, hB, H⟩ := box_sto2 h
  clear h
  obtain ⟨m0, m1, m2, m3, _, mg⟩ := four_cells f1
  replace hsz := Lib.hid hsz
  replace f1 := Lib.hid f1
  replace f2 := Lib.hid f2
  replace hsm := Lib.hid hsm
  go_enter Try.func14, Try.ntmps14
  go_upto_region 1 with fail
  clear hw1
  refine wp_region_tails (by kernel_rfl) 10 (fun W => Below w1.heap.size w1 W) (fun i => match i with
      | 2 => some (fun v W => Dsk (New w1.heap.size W) W v s.1)
      | 5 => some (fun v W => rBy (New w1.heap.size W) W [v] s.2.1)
      | 8 => some (fun v W => rBy (New w1.heap.size W) W [v] s.2.2)
      | 9 => some (fun v W => ∃ P p Q r Y y X x, v = .agg #[.slice P s.1.1.length p, .slice Q s.1.2.length r, .slice Y s.2.1.length y, .slice X s.2.2.length x] ∧ Dsk (New w1.heap.size W) W (.agg #[.slice P s.1.1.length p, .slice Q s.1.2.length r]) s.1 ∧ rBy (New w1.heap.size W) W [.slice Y s.2.1.length y] s.2.1 ∧ rBy (New w1.heap.size W) W [.slice X s.2.2.length x] s.2.2)
      | _ => none) (fun _ => none) (by decide) (by kernel_rfl) (by kernel_rfl) (Below.refl _ _).drew (fun w w' h hb => h.trans (hb.mono h.size)) ?tst ?_
  case tst =>
    intro j φ x W W' hp hx hb
    match j, hp with
    | 2, hp => cases hp; exact hx.new (Nat.le_refl _) hb
    | 5, hp => cases hp; exact stab_by.new hx (Nat.le_refl _) hb
    | 8, hp => cases hp; exact stab_by.new hx (Nat.le_refl _) hb
    | 9, hp =>
      cases hp
      obtain ⟨P, p, Q, r, Y, y, X, x, e1, e2, e3, e4⟩ := hx
      exact ⟨P, p, Q, r, Y, y, X, x, e1, e2.new (Nat.le_refl _) hb, stab_by.new e3 (Nat.le_refl _) hb, stab_by.new e4 (Nat.le_refl _) hb⟩
  simp only [List.take_succ_cons, List.take_zero, List.drop_succ_cons, List.drop_zero]
  repeat (first
    | (refine wpAs_skip rfl ?_; simp only [Act.put, List.setIfInBounds_toArray, List.set_cons_zero, List.set_cons_succ])
    | (refine wpAs_pure (v := ?_) rfl rfl ?_ ?_; rotate_left; (intro W hC hE; clear hE; (have z0 := (hC.cell (p := ⟨w.heap.size, 0, none⟩) mg).trans m0; have z1 := (hC.cell (p := ⟨w.heap.size, 1, none⟩) mg).trans m1); clear hC; go_simp; done); simp only [Act.put, List.setIfInBounds_toArray, List.set_cons_zero, List.set_cons_succ])
    | (refine wpAs_pure (v := ?_) rfl rfl ?_ ?_; rotate_left; (intro W hC hE; clear hE; (have z0 := (hC.cell (p := ⟨w.heap.size, 0, none⟩) mg).trans m0; have z1 := (hC.cell (p := ⟨w.heap.size, 1, none⟩) mg).trans m1); clear hC; go_simp; with_reducible rfl); simp only [Act.put, List.setIfInBounds_toArray, List.set_cons_zero, List.set_cons_succ]))
  refine wpAs_act rfl rfl ?_ ?_
  · intro W hC hE
    clear hE
    refine does_enter (f := 30) (args := #[.agg #[.slice A s.1.1.length ca, .slice B s.1.2.length cb]]) ?_ ?_
    · go_simp
    · refine (refTwin_any _ s.1 W hsm.out.1 (H.out.below hC).parts.1).mono ?_
      rintro e W' ⟨u, rfl, hu, hb⟩
      exact ⟨_, rfl, hu.new hC.size (Below.refl _ _), hb⟩
  simp only [Act.put, List.setIfInBounds_toArray, List.set_cons_zero, List.set_cons_succ, envAdd]
  intro x5
  repeat (first
    | (refine wpAs_skip rfl ?_; simp only [Act.put, List.setIfInBounds_toArray, List.set_cons_zero, List.set_cons_succ])
    | (refine wpAs_pure (v := ?_) rfl rfl ?_ ?_; rotate_left; (intro W hC hE; clear hE; (have z2 := (hC.cell (p := ⟨w.heap.size, 2, none⟩) mg).trans m2); clear hC; go_simp; done); simp only [Act.put, List.setIfInBounds_toArray, List.set_cons_zero, List.set_cons_succ])
    | (refine wpAs_pure (v := ?_) rfl rfl ?_ ?_; rotate_left; (intro W hC hE; clear hE; (have z2 := (hC.cell (p := ⟨w.heap.size, 2, none⟩) mg).trans m2); clear hC; go_simp; with_reducible rfl); simp only [Act.put, List.setIfInBounds_toArray, List.set_cons_zero, List.set_cons_succ]))
  refine wpAs_act rfl rfl ?_ ?_
  · intro W hC hE
    clear hE
    obtain ⟨v', W', hr, hy, hb⟩ := app_copy (.slice N s.2.1.length cn) s.2.1 W (by have := hsm.out.2.1; omega) (H.out.below hC).parts.2.1
    exact does_append _ _ _ rfl rfl rfl hr ⟨stab_by.new hy hC.size (Below.refl _ _), hb⟩
  simp only [Act.put, List.setIfInBounds_toArray, List.set_cons_zero, List.set_cons_succ, envAdd]
  intro x8
  repeat (first
    | (refine wpAs_skip rfl ?_; simp only [Act.put, List.setIfInBounds_toArray, List.set_cons_zero, List.set_cons_succ])
    | (refine wpAs_pure (v := ?_) rfl rfl ?_ ?_; rotate_left; (intro W hC hE; clear hE; (have z3 := (hC.cell (p := ⟨w.heap.size, 3, none⟩) mg).trans m3); clear hC; go_simp; done); simp only [Act.put, List.setIfInBounds_toArray, List.set_cons_zero, List.set_cons_succ])
    | (refine wpAs_pure (v := ?_) rfl rfl ?_ ?_; rotate_left; (intro W hC hE; clear hE; (have z3 := (hC.cell (p := ⟨w.heap.size, 3, none⟩) mg).trans m3); clear hC; go_simp; with_reducible rfl); simp only [Act.put, List.setIfInBounds_toArray, List.set_cons_zero, List.set_cons_succ]))
  refine wpAs_act rfl rfl ?_ ?_
  · intro W hC hE
    clear hE
    obtain ⟨v', W', hr, hy, hb⟩ := app_copy (.slice L s.2.2.length cl) s.2.2 W (by have := hsm.out.2.2; omega) (H.out.below hC).parts.2.2
    exact does_append _ _ _ rfl rfl rfl hr ⟨stab_by.new hy hC.size (Below.refl _ _), hb⟩
  simp only [Act.put, List.setIfInBounds_toArray, List.set_cons_zero, List.set_cons_succ, envAdd]
  intro x11
  refine wpAs_act rfl rfl ?_ ?_
  · intro W hC hE
    have h11 := hE.1 rfl
    have h8 := hE.2.1 rfl
    have h5 := hE.2.2.1 rfl
    obtain ⟨X, x, rfl, _⟩ := rBy_open h11
    obtain ⟨Y, y, rfl, _⟩ := rBy_open h8
    obtain ⟨P, p, Q, r, rfl, _⟩ := h5.open
    have h11' := Lib.hid h11
    have h8' := Lib.hid h8
    have h5' := Lib.hid h5
    clear hE hC h11 h8 h5
    go_simp
    exact ⟨⟨P, p, Q, r, Y, y, X, x, rfl, h5'.out, h8'.out, h11'.out⟩, Below.refl _ _⟩
  simp only [Act.put, List.setIfInBounds_toArray, List.set_cons_zero, List.set_cons_succ, envAdd]
  intro x12
  refine wpAs_end fun W hC hE => ?_
  obtain ⟨⟨P, p, Q, r, Y, y, X, x, rfl, hd, hn, hl⟩, _⟩ := hE
  have bW := (hC.block (w.heap.size + 1) (by rw [hsz.out]; omega)).trans f2.out
  obtain ⟨c0, c1, c2, c3, c4, c5⟩ := four_cells bW
  obtain ⟨W9, hW9, g9, gr9, gs9⟩ := put_four (a' := .slice P s.1.1.length p) (b' := .slice Q s.1.2.length r) (c' := .slice Y s.2.1.length y) (d' := .slice X s.2.2.length x) bW
  obtain ⟨n0, n1, n2, n3, _, _⟩ := four_cells g9
  have BW := hB.trans (hC.mono hB.size)
  have hfin := Lib.hid (sto_fin (lo := w.heap.size) hd hn hl (by rw [hsz.out]; omega) hB.size gr9)
  have hB9 := Lib.hid (BW.grown gr9 BW.size (fun q e => by cases e; omega))
  clear hd hn hl gr9 gs9 BW hC
  replace bW := Lib.hid bW
  replace g9 := Lib.hid g9
  go_wp2_with fail
  refine bodyPost_ret (v := .agg #[.slice P s.1.1.length p, .slice Q s.1.2.length r, .slice Y s.2.1.length y, .slice X s.2.2.length x]) (by simp [results, Try.results14, go_sem, n0, n1, n2, n3]) rfl ?_
  exact ⟨_, _, _, _, _, _, _, _, rfl, hfin.out, hB9.out⟩
end Go.Proofs.Ytncnoingbaeomaa
